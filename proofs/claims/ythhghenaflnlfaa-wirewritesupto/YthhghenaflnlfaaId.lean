import Derived.Test.YthhghenaflnlfaaGIa
namespace Go.Proofs.Ythhghenaflnlfaa
open Go.RowKit
set_option linter.unusedVariables false
set_option linter.unusedSimpArgs false

theorem WSt.later' {w w' : World} {b : Nat} {l : List Int} {E : Int} (h : WSt w b l E) (hb : Below w.heap.size w w') : WSt w' b l E := by
  rcases h with ⟨e, h⟩ | ⟨e, h⟩
  · exact .inl ⟨e, h.later hb⟩
  · exact .inr ⟨e, h.later hb⟩
theorem Hs.nil0 (w : World) : Hs w none 0 0 [] := ⟨rfl, Nat.le_refl _, (fun x hx => by cases hx), fun _ => ⟨rfl, rfl⟩, by simp⟩
/-- What Bytes answers of a Writer in either state. -/
theorem wbytes_any (b : Nat) (P : List Pt) (w : World) (h : WSt w b (allBytes P) (firstErr P)) (hl : (allBytes P).length ≤ 140737488355328) (hby : ∀ z ∈ allBytes P, 0 ≤ z ∧ z < 256) :
    Calls Try.prog 5 #[.pointer (some ⟨b, 0, none⟩)] w fun e w' => ∃ a n c, e = .returned (.tuple #[.slice a n c, .int .i64 (firstErr P)]) ∧ Hs w' a n c (wOut P) ∧ Below w.heap.size w w' := by
  rcases h with ⟨hE, h⟩ | ⟨hE, h⟩
  · refine (bytes_any b _ w h hl).mono ?_
    rintro e w' ⟨v, rfl, o, hb⟩
    obtain ⟨a, n, c, rfl, hs, _⟩ := o.hs hby
    exact ⟨a, n, c, by rw [hE], by unfold wOut; rw [if_pos hE]; exact hs, hb⟩
  · refine (wbytes_bad b _ w h).mono ?_
    rintro e w' ⟨rfl, k, rfl⟩
    exact ⟨none, 0, 0, rfl, by unfold wOut; rw [if_neg hE]; exact Hs.nil0 _, below_drewN (Below.refl _ _) k⟩
set_option maxRecDepth 100000 in
set_option maxHeartbeats 4000000 in
theorem writes_walk (a0 : Option Addr) (len0 cap0 : Nat) (P : List Pt) (w : World) (hP : Puts w a0 P) (hlen : P.length = len0) (hcap : len0 ≤ cap0) (hmx : cap0 ≤ 9223372036854775807) (hLm : (allBytes P).length ≤ 140737488355328) (hsz : ∀ k (h : k < P.length), (allBytes (P.take k)).length + 9 + P[k].s.size ≤ 140737488355328) :
    Calls Try.prog 3 #[.slice a0 len0 cap0] w fun e w' => e = .returned (.bool true) ∧ Below w.heap.size w w' := by
  have HLN := hide hlen
  have HP := hide hP
  have HSZ := hide hsz
  have hmx0 : len0 ≤ 9223372036854775807 := by omega
  have HBY : Hid (∀ k, ∀ z ∈ allBytes (P.take k), 0 ≤ z ∧ z < 256) := fun k => allBytes_byte (P.take k) (fun p hp => by
    obtain ⟨j, hj, rfl⟩ := List.getElem_of_mem (List.mem_of_mem_take hp)
    exact ⟨(hP j hj).1, by have := hsz j hj; omega⟩)
  have HLL : Hid (∀ k, (allBytes (P.take k)).length ≤ 140737488355328) := fun k => by
    have e : allBytes P = allBytes (P.take k) ++ allBytes (P.drop k) := by
      rw [allBytes, allBytes, allBytes, ← List.flatMap_append, List.take_append_drop]
    have := congrArg List.length e
    rw [List.length_append] at this
    omega
  clear hlen hP hsz
  go_enter Try.func3, Try.ntmps3
  go_wp2_with fail
  have T0 : WSt (w.alloc (Obj.cells #[Value.pointer none, Value.int IntKind.i64 0, Value.int IntKind.i64 0] 26)) w.heap.size (allBytes (P.take 0)) (firstErr (P.take 0)) :=
    .inl ⟨rfl, .inl ⟨rfl, ⟨by simp, by simp, by simp, by simp, by simp, by simp, by simp⟩⟩⟩
  have B0 : Below w.heap.size w (w.alloc (Obj.cells #[Value.pointer none, Value.int IntKind.i64 0, Value.int IntKind.i64 0] 26)) := (Below.refl _ _).alloc (Nat.le_refl _) _
  generalize w.alloc (Obj.cells #[Value.pointer none, Value.int IntKind.i64 0, Value.int IntKind.i64 0] 26) = W0 at *
  refine (wbytes_any w.heap.size (P.take 0) W0 T0 (HLL.out 0) (HBY.out 0)).mono ?_
  rintro e w1 ⟨a1, n1, c1, rfl, h1, b1⟩
  have hn1 : n1 = 0 := h1.len.symm
  subst hn1
  have hF0 : firstErr (P.take 0) = 0 := rfl
  rw [hF0]
  have T1 := hide (T0.later' b1)
  have B1 := hide (B0.trans (b1.mono B0.size))
  have hc1 := h1.cap
  clear T0 B0 b1 h1 hF0
  go_wp2_with (go_at_call 6; go_in)
  go_loopw [6] (fun i wr => ∃ k : Nat, i = .int .i64 (k : Int) ∧ k ≤ len0 ∧ WSt wr w.heap.size (allBytes (P.take k)) (firstErr (P.take k)) ∧ Below w.heap.size w wr) (fun i _ => len0 - (intOf i).toNat)
  case atStart => exact ⟨0, rfl, Nat.zero_le _, T1.out, B1.out⟩
  case round =>
    obtain ⟨k, rfl, hk, T, B⟩ := hrel
    clear T1 B1
    by_cases hlt : k < len0
    · have hkP : k < P.length := by rw [HLN.out]; exact hlt
      obtain ⟨hf, gb, go, ha, e0, e1, e2, e3, e4⟩ := HP.out k hkP
      subst ha
      have e0 := cell_later B e0
      have e1 := cell_later B e1
      have e2 := cell_later B e2
      have e3 := cell_later B e3
      have e4 := cell_later B e4
      have HL := hide (lay_step w.heap.size w.heap.size (P.take k) P[k] wr (Nat.le_refl _) T hf (HSZ.out k hkP))
      rw [← take_snoc P k hkP] at HL
      unfold Pt.val putV at HL
      have HTL : Hid ((P.take (k + 1)).length = k + 1) := by show _ = _; rw [List.length_take, HLN.out]; omega
      have HS2 : Hid (∀ j (h : j < (P.take (k + 1)).length), (allBytes ((P.take (k + 1)).take j)).length + 9 + (P.take (k + 1))[j].s.size ≤ 140737488355328) := fun j h => by
        rw [HTL.out] at h
        rw [List.take_take, Nat.min_eq_left (by omega), List.getElem_take]
        exact HSZ.out j (by omega)
      generalize P[k].K = K at *
      generalize P[k].V = V at *
      generalize P[k].N = N at *
      generalize P[k].m = m at *
      generalize P[k].s = s at *
      have HB := hide B
      clear T hf B
      go_wp2_with fail
      refine HL.out.mono ?_
      rintro e w2 ⟨rfl, T2, B2⟩
      have B2' : Below w.heap.size w w2 := HB.out.trans B2
      have HB2 := hide B2'
      have HT2 := hide T2
      clear HL T2 B2 B2' HB e0 e1 e2 e3 e4
      go_wp2_with fail
      refine (wbytes_any w.heap.size (P.take (k + 1)) w2 HT2.out (HLL.out _) (HBY.out _)).mono ?_
      rintro e w3 ⟨a3, n3, c3, rfl, h3, b3⟩
      have B3' : Below w.heap.size w w3 := HB2.out.trans (b3.mono HB2.out.size)
      have HB3 := hide B3'
      have HH3 := hide h3
      have HT3 := hide (HT2.out.later' b3)
      clear b3 B3' HB2 HT2 h3
      have hk1 : ((k : Int) + 1) ≤ (cap0 : Int) := by omega
      have hk2 : ¬ ((k : Int) + 1 < 0) := by omega
      have HW := hide (refwrite_any (P.take (k + 1)) (some ⟨gb, go, none⟩) (k + 1) cap0 w3 ((HP.out.later' HB3.out).take (k + 1)) HTL.out (by omega) (by omega) (HLL.out _) HS2.out)
      have HR : Hid (∀ k, WSt w3 w.heap.size (allBytes (P.take (k + 1))) (firstErr (P.take (k + 1))) → True) := fun _ _ => trivial
      have HBW : Hid (∀ z ∈ wOut (P.take (k + 1)), 0 ≤ z ∧ z < 256) := fun z hz => by
        unfold wOut at hz
        split at hz
        · exact HBY.out _ z hz
        · cases hz
      generalize hE : firstErr (P.take (k + 1)) = E at HW HT3
      have HEE := hide hE
      clear HS2 hE HR
      go_wp2_with fail
      refine HW.out.mono ?_
      rintro e w4 ⟨v4, rfl, o4, b4⟩
      obtain ⟨a4, n4, c4, rfl, h4, _⟩ := o4.hs HBW.out
      have HSM := hide (same_any a3 a4 n3 c3 n4 c4 _ _ w4 (HH3.out.later b4) h4)
      rw [decide_eq_true rfl] at HSM
      have HT4 : Hid (WSt w4 w.heap.size (allBytes (P.take (k + 1))) (firstErr (P.take (k + 1)))) := by rw [HEE.out]; exact HT3.out.later' b4
      have HB4 := hide (HB3.out.trans (b4.mono HB3.out.size))
      have hEb : (E != E) = false := by simp
      clear HW o4 b4 h4 HT3 HB3 HH3 HEE HBW
      go_wp2_with (go_at_call 6; go_in)
      refine HSM.out.mono ?_
      rintro e w5 ⟨rfl, rfl⟩
      go_wp2
      go_roundw
      case rel =>
        repeat apply Exists.intro
        exact ⟨⟨k + 1, by go_num, by omega, HT4.out, HB4.out⟩, rfl⟩
      case measure => simp [intOf]; omega
    · obtain rfl : k = len0 := by omega
      have HB := hide B
      clear T B HP HSZ HBY HLL
      go_wp2_with fail
      refine (alive_any _).mono ?_
      rintro e w9 ⟨rfl, b9⟩
      go_wp2
      go_ret
      exact ⟨rfl, HB.out.trans (b9.mono HB.out.size)⟩

end Go.Proofs.Ythhghenaflnlfaa
