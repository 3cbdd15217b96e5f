import Derived.Test.YtnndldhljonnpaaDoorNti
namespace Go.Proofs.YtnndldhljonnpaaDoor
open Go.RowKit
set_option linter.unusedVariables false
set_option linter.unusedSimpArgs false

theorem eqlD9 (h l h' l' : Int) (w : World) : (binOp .eql 24 (.agg #[.int .u64 h, .int .u64 l]) (.agg #[.int .u64 h', .int .u64 l'])).run Tryd.prog w = .ok (.bool (h == h' && l == l')) w := by
  go_simp
  by_cases e1 : h = h' <;> by_cases e2 : l = l' <;> simp [e1, e2]
set_option maxRecDepth 100000 in
set_option maxHeartbeats 1000000 in
theorem texts_walk (h l : Nat) (hh : h < 18446744073709551616) (hl : l < 18446744073709551616) (s : ByteArray) (hs : s.size ≤ 4611686018427387904) (W : World) (ht : Tab W) :
    Calls Tryd.prog 3 #[.agg #[.int .u64 (h : Int), .int .u64 (l : Int)], .string s] W fun e w' => e = .returned (.bool true) ∧ Below W.heap.size W w' := by
  obtain ⟨w1, hw1⟩ : ∃ w1, W.alloc (.cells #[.int .u64 (h : Int), .int .u64 (l : Int)] 24) = w1 := ⟨_, rfl⟩
  have B1 : Hid (Below W.heap.size W w1) := by rw [← hw1]; exact (Below.refl _ _).alloc (Nat.le_refl _) _
  have c0 : w1.cell? ⟨W.heap.size, 0, none⟩ = some (.int .u64 (h : Int)) := by rw [← hw1]; simp
  have c1 : w1.cell? ⟨W.heap.size, 1, none⟩ = some (.int .u64 (l : Int)) := by rw [← hw1]; simp
  have L1 : Hid (W.heap.size < w1.heap.size) := by rw [← hw1]; unfold Hid; simp
  have C0 := hide c0
  have C1 := hide c1
  have P1 := hide (print_any h l hh hl w1 (ht.of_below B1.out))
  clear ht
  go_enter Tryd.func3, Tryd.ntmps3
  go_wp2_with fail
  refine P1.out.mono ?_
  rintro e w2 ⟨rfl, b2⟩
  dsimp only
  clear hw1 c0 c1 P1
  have B2 := hide b2
  clear b2
  go_wp2_with fail
  refine (parse_any s w2 hs).mono ?_
  rintro e w3 ⟨rfl, b3⟩
  dsimp only
  have B3 := hide b3
  clear b3
  have RP := hide (fun v => refparse_any s v hs)
  generalize pH (bts s) = ph at *
  generalize pL (bts s) = pl at *
  generalize pE (bts s) = pe at *
  generalize pA (bts s) = pa at *
  obtain ⟨w4, hw4⟩ : ∃ w4, w3.alloc (.cells #[.int .u64 ph, .int .u64 pl] 24) = w4 := ⟨_, rfl⟩
  have B4 : Hid (Below w3.heap.size w3 w4) := by rw [← hw4]; exact (Below.refl _ _).alloc (Nat.le_refl _) _
  have D0 : Hid (w4.cell? ⟨w3.heap.size, 0, none⟩ = some (.int .u64 ph)) := by rw [← hw4]; unfold Hid; simp
  have D1 : Hid (w4.cell? ⟨w3.heap.size, 1, none⟩ = some (.int .u64 pl)) := by rw [← hw4]; unfold Hid; simp
  have L4 : Hid (w3.heap.size < w4.heap.size) := by rw [← hw4]; unfold Hid; simp
  go_wp2_with fail
  clear hw4
  refine (RP.out w4).mono ?_
  rintro e w5 ⟨rfl, b5⟩
  dsimp only
  have B5 := hide b5
  clear b5 RP
  obtain ⟨w6, hw6⟩ : ∃ w6, w5.alloc (.cells #[.int .u64 ph, .int .u64 pl] 24) = w6 := ⟨_, rfl⟩
  have B6 : Hid (Below w5.heap.size w5 w6) := by rw [← hw6]; exact (Below.refl _ _).alloc (Nat.le_refl _) _
  have E0 : Hid (w6.cell? ⟨w5.heap.size, 0, none⟩ = some (.int .u64 ph)) := by rw [← hw6]; unfold Hid; simp
  have E1 : Hid (w6.cell? ⟨w5.heap.size, 1, none⟩ = some (.int .u64 pl)) := by rw [← hw6]; unfold Hid; simp
  have L6 : Hid (w5.heap.size < w6.heap.size) := by rw [← hw6]; unfold Hid; simp
  have k4 := B2.out.size
  have k5 := B3.out.size
  have k6 := B4.out.size
  have k7 := B5.out.size
  have k8 := L1.out
  have k9 := L4.out
  have k10 := L6.out
  have b16 : Below w1.heap.size w1 w6 := (((B2.out.trans (B3.out.mono k4)).trans (B4.out.mono (by omega))).trans (B5.out.mono (by omega))).trans (B6.out.mono (by omega))
  have b46 : Below w4.heap.size w4 w6 := B5.out.trans (B6.out.mono k7)
  have x0 := (b16.cell (p := ⟨W.heap.size, 0, none⟩) k8).trans C0.out
  have x1 := (b16.cell (p := ⟨W.heap.size, 1, none⟩) k8).trans C1.out
  have RR := hide (refprint_any h l hh hl w6)
  have B16 := hide b16
  have B46 := hide b46
  clear b16 b46 k4 k5 k6 k7 k8 k9 k10
  go_wp2_with fail
  clear hw6 x0 x1
  refine RR.out.mono ?_
  rintro e w7 ⟨rfl, b7⟩
  dsimp only
  have y0 := (b7.cell (p := ⟨w3.heap.size, 0, none⟩) (by have := L4.out; have := B46.out.size; show w3.heap.size < w6.heap.size; omega)).trans ((B46.out.cell (p := ⟨w3.heap.size, 0, none⟩) L4.out).trans D0.out)
  have y1 := (b7.cell (p := ⟨w3.heap.size, 1, none⟩) (by have := L4.out; have := B46.out.size; show w3.heap.size < w6.heap.size; omega)).trans ((B46.out.cell (p := ⟨w3.heap.size, 1, none⟩) L4.out).trans D1.out)
  have y2 := (b7.cell (p := ⟨w5.heap.size, 0, none⟩) L6.out).trans E0.out
  have y3 := (b7.cell (p := ⟨w5.heap.size, 1, none⟩) L6.out).trans E1.out
  have BF : Hid (Below W.heap.size W w7) := (B1.out.trans (B16.out.mono B1.out.size)).trans (b7.mono (Nat.le_trans B1.out.size B16.out.size))
  have q0 := fun w => eqlD9 ph pl ph pl w
  simp only [beq_self_eq_true, Bool.and_self] at q0
  clear b7 RR
  go_wp2
  go_ret
  exact ⟨rfl, BF.out⟩

end Go.Proofs.YtnndldhljonnpaaDoor
