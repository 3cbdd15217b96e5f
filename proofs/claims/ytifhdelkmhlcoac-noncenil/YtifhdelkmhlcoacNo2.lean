import Derived.Test.YtifhdelkmhlcoacNn
import Derived.Test.YtifhdelkmhlcoacDr
namespace Go.Proofs.Ytifhdelkmhlcoac
open Go.RowKit
set_option linter.unusedVariables false

set_option maxHeartbeats 800000 in
theorem zeroes_any (w : World) : Calls Try.prog 18 #[] w fun e w' => e = .returned (.tuple #[]) ∧ Below w.heap.size w w' := by
  have r := Nat.le_refl w.heap.size
  have b0 := Below.refl w.heap.size w
  go_enter Try.func18, Try.ntmps18
  go_wp2_with fail
  refine (set_ok w.heap.size 0 3 _ (Clk.new 0 w (by omega) (by omega)) (by omega) (by omega)).mono ?_
  rintro e w1 ⟨rfl, c1, u1⟩
  have b1 := upd_below r (b0.alloc r _) (Nat.le_refl _) u1
  go_wp2_with fail
  refine (pass_ok w.heap.size 3 2 _ c1 (by omega) (by omega)).mono ?_
  rintro e w2 ⟨rfl, c2, u2⟩
  have b2 := upd_below r b1 (Nat.le_refl _) u2
  go_wp2_with fail
  refine (now_any _ _ _ c2).mono ?_
  rintro e w3 ⟨rfl, rfl⟩
  clear c1 c2 u1 u2 b1
  go_wp2_with fail
  refine (pdraw_zero w3.heap.size _ ?_ ⟨?_, ?_, ?_, ?_, ?_⟩).mono ?_
  · simp
  · simp
  · simp
  · simp
  · simp
  · simp
  rintro e w4 ⟨rfl, u4, m4⟩
  have b4 := upd_below r (b2.alloc b2.size _) b2.size u4
  go_wp2_with fail
  refine (wipe_zero _ _ _ _ m4).mono ?_
  rintro e w5 ⟨rfl, u5⟩
  have b5 := upd_below r b4 b2.size u5
  clear u4 u5 m4 b4
  go_wp2_with fail
  refine (mdraw_zero w5.heap.size _ ?_ ?_ ?_).mono ?_
  · simp
  · simp
  · simp
  rintro e w6 ⟨⟨x, y, rfl⟩, u6⟩
  have b6 := upd_below r (b5.alloc b5.size _) b5.size u6
  go_wp2_with fail
  refine (sdraw_zero w6.heap.size _ ?_ ?_).mono ?_
  · simp
  · simp
  rintro e w7 ⟨rfl, k7⟩
  have b7 := Below.on r (b6.alloc b6.size _) k7
  have s7 : w7.cell? ⟨w6.heap.size, 0, none⟩ = some (.slice none 0 0) := (k7.cell (p := ⟨w6.heap.size, 0, none⟩) (by simp)).trans (by simp)
  clear u6 b6
  go_wp2_with fail
  refine (left_zero _ _ s7).mono ?_
  rintro e w8 ⟨rfl, rfl⟩
  clear s7 k7
  go_wp2_with fail
  refine (gset_zero w8.heap.size _ 4 ?_).mono ?_
  · simp
  rintro e w9 ⟨rfl, rfl⟩
  go_wp2_with fail
  refine (gpass_zero w8.heap.size _ 1 ?_).mono ?_
  · simp
  rintro e w9 ⟨rfl, rfl⟩
  have b8 : ∀ o, Below w.heap.size w (w8.alloc o) := fun o => b7.alloc b7.size o
  go_wp2_with fail
  refine (gdraw_zero w8.heap.size _ ?_ ?_).mono ?_
  · simp
  · simp
  rintro e w9 ⟨rfl, k9⟩
  have b9 := Below.on r (b8 _) k9
  have g0 := (k9.cell (p := ⟨w8.heap.size, 0, none⟩) (by simp))
  have g1 := (k9.cell (p := ⟨w8.heap.size, 1, none⟩) (by simp))
  simp at g0 g1
  clear k9 b8
  go_wp2_with fail
  refine (gwipe_zero w8.heap.size _ g0).mono ?_
  rintro e w10 ⟨rfl, rfl⟩
  go_wp2_with fail
  refine (drawn_zero w8.heap.size _ g1).mono ?_
  rintro e w11 ⟨rfl, k11⟩
  have b11 := Below.on r b9 k11
  go_wp2
  go_end0
  exact ⟨rfl, b11⟩

set_option maxHeartbeats 1600000 in
theorem nil_walk (w : World) :
    Calls Try.prog 3 #[] w fun e w' => e = .returned (.bool true) ∧ Below w.heap.size w w' := by
  have r := Nat.le_refl w.heap.size
  go_enter Try.func3, Try.ntmps3
  go_wp2_with fail
  refine (works_any _).mono ?_
  rintro e w1 ⟨rfl, b1⟩
  go_wp2_with (first
    | (go_at_call 5; refine (now_nil _).mono ?_; rintro e v ⟨rfl, rfl⟩)
    | (go_at_call 6; refine (cset_nil _).mono ?_; rintro e v ⟨rfl, rfl⟩)
    | (go_at_call 7; refine (cpass_nil _).mono ?_; rintro e v ⟨rfl, rfl⟩)
    | (go_at_call 8; refine (left_nil _).mono ?_; rintro e v ⟨rfl, rfl⟩)
    | (go_at_call 9; refine (gset_nil _).mono ?_; rintro e v ⟨rfl, rfl⟩)
    | (go_at_call 10; refine (gpass_nil _).mono ?_; rintro e v ⟨rfl, rfl⟩)
    | (go_at_call 11; refine (gwipe_nil _).mono ?_; rintro e v ⟨rfl, rfl⟩)
    | (go_at_call 12; refine (drawn_nil _).mono ?_; rintro e v ⟨rfl, rfl⟩)
    | (go_at_call 13; refine (wipe_nil _).mono ?_; rintro e v ⟨rfl, rfl⟩))
  refine (pdraw_nil _).mono ?_
  rintro e w2 ⟨rfl, k2⟩
  have b2 := Below.on r b1 k2
  go_wp2_with fail
  refine (mdraw_nil _).mono ?_
  rintro e w3 ⟨rfl, k3⟩
  have A3 := (Dr.new w2 0 0 37).bel k3
  have b3 := Below.on r (b2.alloc b2.size _) k3
  go_wp2_with fail
  refine (sdraw_nil _).mono ?_
  rintro e w4 ⟨rfl, k4⟩
  have A4 := (A3.al _).bel k4
  have B4 := (Dr.new w3 0 0 37).bel k4
  have b4 := Below.on r (b3.alloc b3.size _) k4
  clear A3 k2 k3 b2 b3
  go_wp2_with fail
  refine (gdraw_nil _).mono ?_
  rintro e w5 ⟨rfl, k5⟩
  have A5 := (A4.al _).bel k5
  have B5 := (B4.al _).bel k5
  have C5 := (Dr.new w4 0 0 37).bel k5
  have b5 := Below.on r (b4.alloc b4.size _) k5
  clear A4 B4 k4 b4 k5
  have a0 := fun o => (A5.al o).c0
  have a1 := fun o => (A5.al o).c1
  have c0 := fun o => (B5.al o).c0
  have c1 := fun o => (B5.al o).c1
  have d0 := fun o => (C5.al o).c0
  have d1 := fun o => (C5.al o).c1
  clear A5 B5 C5
  go_wp2_with fail
  refine (zeroes_any _).mono ?_
  rintro e w6 ⟨rfl, k6⟩
  have b6 := Below.on r (b5.alloc b5.size _) k6
  clear a0 a1 c0 c1 d0 d1 b5 k6
  go_wp2_with fail
  refine (newpairs_nil _).mono ?_
  rintro e w7 ⟨rfl, rfl⟩
  go_wp2_with fail
  refine (take_nil _).mono ?_
  rintro e w8 ⟨rfl, rfl⟩
  go_wp2
  go_ret
  exact ⟨rfl, b6⟩

end Go.Proofs.Ytifhdelkmhlcoac
