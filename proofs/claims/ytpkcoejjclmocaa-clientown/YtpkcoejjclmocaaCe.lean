import Derived.Test.YtpkcoejjclmocaaCd
namespace Go.Proofs.Ytpkcoejjclmocaa
open Go.RowKit Go.Maps
set_option linter.unusedVariables false
set_option linter.unusedSimpArgs false

/-- The last rows, as the map has them. -/
def lF (l : List Rw) (s : Int) : Option Value := (lo l s).map Rw.val
theorem lF_snoc {l l' : List Rw} {r : Rw} (h : ∀ s, lo l' s = if r.c = s then some r else lo l s) : (fun s' => if s' = r.c then some r.val else lF l s') = lF l' := by
  funext s
  unfold lF
  rw [h]
  by_cases hs : r.c = s
  · simp [hs]
  · have hs' : ¬ s = r.c := fun e => hs e.symm
    simp [hs, hs']
theorem box7 {w w1 : World} {x0 x1 x2 x3 x4 x5 x6 : Value} {T : TypeId} {B : Nat} (hb : Below B (w.alloc (.cells #[x0, x1, x2, x3, x4, x5, x6] T)) w1) (hB : w.heap.size < B) : w1.cell? ⟨w.heap.size, 0, none⟩ = some x0 ∧ w1.cell? ⟨w.heap.size, 1, none⟩ = some x1 ∧ w1.cell? ⟨w.heap.size, 2, none⟩ = some x2 ∧ w1.cell? ⟨w.heap.size, 3, none⟩ = some x3 ∧ w1.cell? ⟨w.heap.size, 4, none⟩ = some x4 ∧ w1.cell? ⟨w.heap.size, 5, none⟩ = some x5 ∧ w1.cell? ⟨w.heap.size, 6, none⟩ = some x6 :=
  ⟨(hb.cell (p := ⟨w.heap.size, 0, none⟩) hB).trans (by simp), (hb.cell (p := ⟨w.heap.size, 1, none⟩) hB).trans (by simp), (hb.cell (p := ⟨w.heap.size, 2, none⟩) hB).trans (by simp), (hb.cell (p := ⟨w.heap.size, 3, none⟩) hB).trans (by simp), (hb.cell (p := ⟨w.heap.size, 4, none⟩) hB).trans (by simp), (hb.cell (p := ⟨w.heap.size, 5, none⟩) hB).trans (by simp), (hb.cell (p := ⟨w.heap.size, 6, none⟩) hB).trans (by simp)⟩
theorem rw_wf {L : List En} (hf : ∀ e ∈ L, e.fits) {k j : Nat} {r : Rw} (h : (rws L k)[j]? = some r) : (Lit.int .i64 r.c).wf = true := by
  rw [rws, List.getElem?_mapIdx] at h
  cases hg : L[j]? with
  | none => rw [hg] at h; cases h
  | some e =>
    rw [hg] at h
    cases h
    exact (hf e (List.mem_of_getElem? hg)).cw
set_option maxRecDepth 100000 in
set_option maxHeartbeats 1000000 in
theorem last_any (L : List En) (a : Option Addr) (c k : Nat) (w : World) (h : SlY yE w a L.length c L) (hf : ∀ e ∈ L, e.fits) (hl : L.length ≤ 256) (hk : k ≤ L.length) :
    Calls Try.prog 28 #[.slice a L.length c, .int .i64 (k : Int)] w fun e w' => e = .returned (.map (some w.heap.size)) ∧ MapF w' w.heap.size L.length (lF (rws L k)) ∧ Below w.heap.size w w' := by
  have hmx := h.max
  have hcp := h.cap
  unfold maxLen at hmx
  have bM : Below w.heap.size w (w.alloc (.map #[] 0)) := (Below.refl _ _).alloc (Nat.le_refl _) _
  have cr := rows_any L a c k (w.alloc (.map #[] 0)) (h.later bM) hf hl hk
  have HW := hide (fun (j : Nat) (r : Rw) (hr : (rws L k)[j]? = some r) => rw_wf hf hr)
  have HT := hide (show ∀ (j : Nat) (r : Rw), (rws L k)[j]? = some r → ∀ s, lo ((rws L k).take (j + 1)) s = if r.c = s then some r else lo ((rws L k).take j) s from fun j r hr s => lo_take hr s)
  have HRE := hide (show (rws L k).take L.length = rws L k from List.take_of_length_le (by rw [rws_length]; exact Nat.le_refl _))
  have HRL := hide (rws_length L k)
  have hmm := @run_makeMap Try.prog
  clear h hf
  generalize rws L k = R at *
  go_enter Try.func28, Try.ntmps28
  go_wp2_with (go_at_call 39; refine cr.mono ?_; rintro e w1 ⟨g, rfl, o1, b1⟩)
  have hgz := o1.lenN.2.1
  have O1 := hide o1
  have M1 : Hid (MapF w1 w.heap.size 0 (lF (R.take 0))) := (MapF.made w).later b1
  have B1 := hide (bM.trans (b1.mono (by simp)))
  clear o1 b1 cr bM
  simp only [World.size_alloc] at hgz
  go_wp2
  go_loopw [13] (fun i wr => ∃ j : Nat, i = .int .i64 (j : Int) ∧ j ≤ L.length ∧ OwnY yR w.heap.size wr (.slice (some ⟨g, 0, none⟩) L.length L.length) R ∧ MapF wr w.heap.size j (lF (R.take j)) ∧ Below w.heap.size w wr) (fun i _ => L.length - (intOf i).toNat)
  case atStart => exact ⟨0, rfl, Nat.zero_le _, O1.out.low (by simp), M1.out, B1.out⟩
  case round =>
    obtain ⟨j, rfl, hj, oT, hm, hb⟩ := hrel
    by_cases hlt : j < L.length
    · obtain ⟨r, hr⟩ : ∃ r, R[j]? = some r := ⟨_, List.getElem?_eq_getElem (by rw [HRL.out]; exact hlt)⟩
      obtain ⟨e0, e1, e2, e3, e4, e5, e6⟩ := oT.rw hr
      have hw := HW.out j r hr
      have hT := hide (HT.out j r hr)
      have hsz := hb.size
      have hmb := hm.lt
      have OT := hide oT
      have MH := hide hm
      clear oT hm hr
      obtain ⟨C, N, P, d, s0, s1, s2⟩ := r
      dsimp only at e0 e1 e2 e3 e4 e5 e6 hw hT
      have bA := (Below.refl _ wr).alloc (Nat.le_refl _) (.cells #[.int .i64 C, .int .i64 N, .int .i64 P, .bool d, .int .i64 s0, .int .i64 s1, .string s2] 57)
      have BA := hide bA
      clear bA
      go_wp2_with (first
        | (at_mapUpdate; refine mapF_put _ rfl _ _ _ 76 rfl 57 Try.underlying76 w.heap.size j _ rfl (MH.out.later BA.out) (by unfold maxLen; omega) C hw _ rfl rfl ?_; intro w3 hm3 hg3)
        | go_in)
      have M3 : Hid (MapF w3 w.heap.size (j + 1) (lF (R.take (j + 1)))) := by
        show MapF _ _ _ _
        have e := lF_snoc (l := R.take j) (l' := R.take (j + 1)) (r := ⟨C, N, P, d, s0, s1, s2⟩) hT.out
        rw [← e]
        exact hm3
      have O3 : Hid (OwnY yR w.heap.size w3 (.slice (some ⟨g, 0, none⟩) L.length L.length) R) := (OT.out.grow BA.out).upd1 ((Upd.refl (fun b => b = w.heap.size) _).grownBy hg3 (fun k e _ => by cases e; rfl)) (fun g' e => by cases e; show ¬ g = w.heap.size; omega)
      clear hm3
      go_round
      case rel => exact ⟨j + 1, by go_num, by omega, O3.out, M3.out, ((hb.trans (BA.out.mono hsz)).grown hg3 (by simp; omega) (fun k hk => by cases hk; exact Nat.le_refl _))⟩
      case measure => simp [intOf]; omega
    · obtain rfl : j = L.length := by omega
      rw [HRE.out] at hm
      have MH := hide hm
      clear hm oT
      go_wp2
      go_ret
      exact ⟨rfl, MH.out, hb⟩

end Go.Proofs.Ytpkcoejjclmocaa
