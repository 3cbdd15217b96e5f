import Derived.Test.YtpkcoejjclmocaaCb
namespace Go.Proofs.Ytpkcoejjclmocaa
open Go.RowKit Go.Maps
set_option linter.unusedVariables false
set_option linter.unusedSimpArgs false

/-- Operations and results as rows. -/
def y3 (T ST : TypeId) : Lay Rs := ⟨T, ST, 3, 32, fun r => [.int .i64 r.1, .int .i64 r.2.1, .string r.2.2], zR⟩
theorem own3_len {T : TypeId} {B : Nat} {w : World} {g n c : Nat} {l : List Rs} (h : Own3 T B w (.slice (some ⟨g, 0, none⟩) n c) l) : l.length = n := by
  obtain ⟨a, c', e, _⟩ := h.form
  injection e with _ e2 _
  exact e2.symm
theorem own3_later {T : TypeId} {S : Nat → Prop} {B : Nat} {w w' : World} {v : Value} {l : List Rs} (h : Own3 T B w v l) (hb : Below w.heap.size w w') : Own3 T B w' v l := h.grow hb
/-- Own3's cells as operations. -/
theorem ops_own {T : TypeId} {B : Nat} {w : World} {g n c : Nat} {P : List Opn} (h : Own3 T B w (.slice (some ⟨g, 0, none⟩) n c) (P.map fun o => (o.k, o.s, o.v))) : Ops w (some ⟨g, 0, none⟩) P := fun i hi => by
  obtain ⟨e0, e1, e2⟩ := h.cell i (P[i].k, P[i].s, P[i].v) (by rw [List.getElem?_map, List.getElem?_eq_getElem hi]; rfl)
  exact ⟨g, 0, rfl, by rw [Nat.zero_add]; exact e0, by rw [Nat.zero_add]; exact e1, by rw [Nat.zero_add]; exact e2⟩
def oT (o : Opn) : Rs := (o.k, o.s, o.v)
set_option maxRecDepth 100000 in
set_option maxHeartbeats 1000000 in
theorem carry_any (L : List En) (a : Option Addr) (c : Nat) (w : World) (h : SlY yE w a L.length c L) (hf : ∀ e ∈ L, e.fits) (hl : L.length ≤ 256) :
    Calls Try.prog 59 #[.slice a L.length c] w fun e w' => ∃ vr, e = .returned vr ∧ Own3 43 w.heap.size w' vr (rsL L) ∧ Below w.heap.size w w' := by
  have hmx := h.max
  have hcp := h.cap
  unfold maxLen at hmx
  have H := hide h
  have HF := hide hf
  clear h hf
  go_enter Try.func59, Try.ntmps59
  go_wp2_with (at_make; go_must (refine make3 tyOp _ rfl (.tmp 9) rfl L.length rfl (by omega) ?_; intro w2 o2 b2))
  go_wp2
  go_loopw [13] (fun i wr => ∃ j : Nat, i = .int .i64 (j : Int) ∧ j ≤ L.length ∧ Own3 59 w.heap.size wr (.slice (some ⟨w.heap.size, 0, none⟩) L.length L.length) (((L.take j).map En.o).map oT ++ List.replicate (L.length - j) (0, 0, ByteArray.empty)) ∧ Below w.heap.size w wr) (fun i _ => L.length - (intOf i).toNat)
  case atStart => exact ⟨0, rfl, Nat.zero_le _, by simpa using o2, b2⟩
  case round =>
    obtain ⟨j, rfl, hj, oR, hb⟩ := hrel
    by_cases hlt : j < L.length
    · have hg : L[j]? = some L[j] := List.getElem?_eq_getElem hlt
      obtain ⟨q, o, ea, hq, c0, c1, c2, c3, c4⟩ := (H.out.later hb).en hg
      have htk : ((L.take (j + 1)).map En.o).map oT = ((L.take j).map En.o).map oT ++ [oT L[j].o] := by rw [List.take_add_one, hg, List.map_append, List.map_append]; rfl
      have hln : (((L.take j).map En.o).map oT).length = j := by simp; omega
      have hrep : List.replicate (L.length - j) ((0 : Int), (0 : Int), ByteArray.empty) = (0, 0, ByteArray.empty) :: List.replicate (L.length - (j + 1)) (0, 0, ByteArray.empty) := by
        rw [show L.length - j = (L.length - (j + 1)) + 1 by omega, List.replicate_succ]
      rw [hrep] at oR
      generalize L[j] = e at *
      obtain ⟨C, N, ⟨k, s, v⟩⟩ := e
      dsimp only [oT] at c0 c1 c2 c3 c4 htk
      subst ea
      generalize ((L.take j).map En.o).map oT = X at *
      have hset : Hid ((X ++ (0, 0, ByteArray.empty) :: List.replicate (L.length - (j + 1)) (0, 0, ByteArray.empty)).set j (k, s, v) = (X ++ [(k, s, v)]) ++ List.replicate (L.length - (j + 1)) (0, 0, ByteArray.empty)) := by
        show _ = _
        rw [List.set_append_right _ _ (by omega), hln, Nat.sub_self]
        simp
      have hget : (X ++ (0, 0, ByteArray.empty) :: List.replicate (L.length - (j + 1)) (0, 0, ByteArray.empty))[j]? = some (0, 0, ByteArray.empty) := by
        rw [List.getElem?_append_right (by omega), hln, Nat.sub_self]
        rfl
      have hT := hide htk
      clear htk hg hrep hln
      have hsz := hb.size
      have bA := (Below.refl _ wr).alloc (Nat.le_refl _) (.cells #[.int .i64 C, .int .i64 N, .int .i64 k, .int .i64 s, .string v] 61)
      have hmb : w.heap.size < wr.heap.size := by
        obtain ⟨_, _, e, _, _, _, h4⟩ := oR.form
        injection e with e1
        obtain ⟨g, e2, _, h5⟩ := h4 _ e1.symm
        cases e2
        exact h5
      obtain ⟨e0, e1, e2⟩ := oR.cell j _ hget
      have f0 := oR.free (j * 3)
      have f1 := oR.free (j * 3 + 1)
      have f2 := oR.free (j * 3 + 2)
      have oN := hide ((oR.set j (k, s, v)).alloc (.cells #[.int .i64 C, .int .i64 N, .int .i64 k, .int .i64 s, .string v] 61))
      clear oR hget
      dsimp only at e0 e1 e2
      go_wp2
      go_round
      case rel => exact ⟨j + 1, by go_num, by omega, by rw [hT.out, ← hset.out]; exact oN.out, (((hb.setCell (p := ⟨w.heap.size, j * 3, none⟩) (Nat.le_refl _) _).setCell (p := ⟨w.heap.size, j * 3 + 1, none⟩) (Nat.le_refl _) _).setCell (p := ⟨w.heap.size, j * 3 + 2, none⟩) (Nat.le_refl _) _).alloc (by simpa [World.setCell] using hsz) _⟩
      case measure => simp [intOf]; omega
    · obtain rfl : j = L.length := by omega
      rw [Nat.sub_self, List.replicate_zero, List.append_nil, List.take_of_length_le (Nat.le_refl _)] at oR
      have cr := replay_any (L.map En.o) (some ⟨w.heap.size, 0, none⟩) L.length wr (ops_own oR) (fun p hp => by
        obtain ⟨e, he, rfl⟩ := List.mem_map.1 hp
        exact (HF.out e he).ow) (by simp; omega)
      rw [List.length_map] at cr
      clear oR
      have hsz := hb.size
      go_wp2_with (go_at_call 74; refine cr.mono ?_; rintro e w6 ⟨vc, vr, rfl, o6, o7, b6⟩; have o8 := hide (o7.low hsz); have b8 := hide (hb.trans (b6.mono hsz)); clear o6 o7 b6)
      go_ret
      exact ⟨_, rfl, o8.out, b8.out⟩

end Go.Proofs.Ytpkcoejjclmocaa
