import Derived.Test.YtcmjhaljbmhpgaaGreatSa
namespace Go.Proofs.YtcmjhaljbmhpgaaGreat
open Go.RowKit Go.Maps
open Classical
set_option linter.unusedVariables false
set_option linter.unusedSimpArgs false

/-- A configuration. -/
structure Cg where
  F : Int
  R : Int
  P : Int
  u : Bool
def Cg.val (c : Cg) : Value := .agg #[.int .i64 c.F, .int .i64 c.R, .int .i64 c.P, .bool c.u]
/-- May it be, as far as votes hang on it? -/
def Cg.ok (c : Cg) : Bool := decide (1 ≤ c.F ∧ c.F ≤ 3 ∧ 1 ≤ c.R ∧ c.R ≤ 256)
set_option maxRecDepth 100000 in
theorem configMayBe_any8 (c : Cg) (w : World) : Calls Tryz.prog 89 #[c.val] w fun e w' => e = .returned (.bool c.ok) ∧ Below w.heap.size w w' := by
  have bw : Hid (Below w.heap.size w (w.alloc (.cells #[.int .i64 c.F, .int .i64 c.R, .int .i64 c.P, .bool c.u] 23))) := (Below.refl _ w).alloc (Nat.le_refl _) _
  show Calls Tryz.prog 89 #[.agg #[.int .i64 c.F, .int .i64 c.R, .int .i64 c.P, .bool c.u]] w _
  by_cases h1 : 1 ≤ c.F
  · by_cases h2 : c.F ≤ 3
    · by_cases h3 : 1 ≤ c.R
      · by_cases h4 : c.R ≤ 256
        · have hk : c.ok = true := decide_eq_true ⟨h1, h2, h3, h4⟩
          go_enter Tryz.func89, Tryz.ntmps89
          go_wp2
          go_ret
          exact ⟨by first | rfl | (rw [hk]; rfl), bw.out⟩
        · have hk : c.ok = false := decide_eq_false (fun h => h4 h.2.2.2)
          go_enter Tryz.func89, Tryz.ntmps89
          go_wp2
          go_ret
          exact ⟨by first | rfl | (rw [hk]; rfl), bw.out⟩
      · have hk : c.ok = false := decide_eq_false (fun h => h3 h.2.2.1)
        go_enter Tryz.func89, Tryz.ntmps89
        go_wp2
        go_ret
        exact ⟨by first | rfl | (rw [hk]; rfl), bw.out⟩
    · have hk : c.ok = false := decide_eq_false (fun h => h2 h.2.1)
      go_enter Tryz.func89, Tryz.ntmps89
      go_wp2
      go_ret
      exact ⟨by first | rfl | (rw [hk]; rfl), bw.out⟩
  · have hk : c.ok = false := decide_eq_false (fun h => h1 h.1)
    go_enter Tryz.func89, Tryz.ntmps89
    go_wp2
    go_ret
    exact ⟨by first | rfl | (rw [hk]; rfl), bw.out⟩

end Go.Proofs.YtcmjhaljbmhpgaaGreat
