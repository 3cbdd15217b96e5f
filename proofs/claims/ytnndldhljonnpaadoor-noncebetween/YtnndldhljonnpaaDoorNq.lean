import Derived.Test.YtnndldhljonnpaaDoorNc
namespace Go.Proofs.YtnndldhljonnpaaDoor
open Go.RowKit
set_option linter.unusedVariables false

/-- The least draw above one. -/
def nxH (h l : Int) : Int := if l < 18446744073709551615 then h else if h < 18446744073709551615 then h + 1 else 0
def nxL (h l : Int) : Int := if l < 18446744073709551615 then l + 1 else 0
def nxE (h l : Int) : Int := if l < 18446744073709551615 then 0 else if h < 18446744073709551615 then 0 else 20

set_option maxHeartbeats 400000 in
theorem next_any (h l : Int) (w : World) (h0 : 0 ≤ h) (h1 : h ≤ 18446744073709551615) (l0 : 0 ≤ l) (l1 : l ≤ 18446744073709551615) :
    Calls Tryd.prog 11 #[.agg #[.int .u64 h, .int .u64 l]] w fun e w' => e = .returned (.tuple #[.agg #[.int .u64 (nxH h l), .int .u64 (nxL h l)], .int .i64 (nxE h l)]) ∧ Below w.heap.size w w' := by
  by_cases c1 : l < 18446744073709551615
  · have e1 : nxH h l = h := by unfold nxH; rw [if_pos c1]
    have e2 : nxL h l = l + 1 := by unfold nxL; rw [if_pos c1]
    have e3 : nxE h l = 0 := by unfold nxE; rw [if_pos c1]
    rw [e1, e2, e3]; clear e1 e2 e3
    have f1 : (l == 18446744073709551615) = false := by simp; omega
    have f2 : ¬ l = 18446744073709551615 := by omega
    have f3 : (l + 1) % 18446744073709551616 = l + 1 := by omega
    go_enter Tryd.func11, Tryd.ntmps11
    go_wp2
    try (go_quiet (fail); go_wp2)
    refine bodyPost_ret (v := .tuple #[.agg #[.int .u64 h, .int .u64 (l + 1)], .int .i64 0]) (by simp [results, Tryd.results11, go_sem]) rfl ⟨rfl, ?_⟩
    exact ((Below.refl _ _).alloc (Nat.le_refl _) _).alloc (by simp) _
  · obtain rfl : l = 18446744073709551615 := by omega
    by_cases c2 : h < 18446744073709551615
    · have e1 : nxH h 18446744073709551615 = h + 1 := by unfold nxH; rw [if_neg c1, if_pos c2]
      have e2 : nxL h 18446744073709551615 = 0 := by unfold nxL; rw [if_neg c1]
      have e3 : nxE h 18446744073709551615 = 0 := by unfold nxE; rw [if_neg c1, if_pos c2]
      rw [e1, e2, e3]; clear e1 e2 e3
      have f1 : (h == 18446744073709551615) = false := by simp; omega
      have f2 : ¬ h = 18446744073709551615 := by omega
      have f3 : (h + 1) % 18446744073709551616 = h + 1 := by omega
      go_enter Tryd.func11, Tryd.ntmps11
      go_wp2
      try (go_quiet (fail); go_wp2)
      refine bodyPost_ret (v := .tuple #[.agg #[.int .u64 (h + 1), .int .u64 0], .int .i64 0]) (by simp [results, Tryd.results11, go_sem]) rfl ⟨rfl, ?_⟩
      exact ((Below.refl _ _).alloc (Nat.le_refl _) _).alloc (by simp) _
    · obtain rfl : h = 18446744073709551615 := by omega
      have e1 : nxH 18446744073709551615 18446744073709551615 = 0 := by decide
      have e2 : nxL 18446744073709551615 18446744073709551615 = 0 := by decide
      have e3 : nxE 18446744073709551615 18446744073709551615 = 20 := by decide
      rw [e1, e2, e3]; clear e1 e2 e3
      go_enter Tryd.func11, Tryd.ntmps11
      go_wp2
      try (go_quiet (fail); go_wp2)
      refine bodyPost_ret (v := .tuple #[.agg #[.int .u64 0, .int .u64 0], .int .i64 20]) (by simp [results, Tryd.results11, go_sem]) rfl ⟨rfl, ?_⟩
      exact ((Below.refl _ _).alloc (Nat.le_refl _) _).alloc (by simp) _

end Go.Proofs.YtnndldhljonnpaaDoor
