import Derived.Test.YtehfcofbfillaaaVt
namespace Go.Proofs.Ytehfcofbfillaaa
open Go.RowKit
set_option linter.unusedVariables false
set_option linter.unusedSimpArgs false

theorem refbelow_any (x y x' y' : Int) (w : World) :
    Calls Try.prog 43 #[.agg #[.int .u64 x, .int .u64 y], .agg #[.int .u64 x', .int .u64 y']] w fun e w' => e = .returned (.bool (decide (cmpD x y x' y' < 0))) ∧ Below w.heap.size w w' := by
  go_enter Try.func43, Try.ntmps43
  go_wp2_with fail
  refine (refcompare_any x y x' y' _).mono ?_
  rintro e w1 ⟨rfl, b1⟩
  have b2 : Below w.heap.size w w1 := (((Below.refl _ _).alloc (Nat.le_refl _) _).alloc (by simp) _).trans (b1.mono (by simp; omega))
  go_wp2
  go_ret
  exact ⟨by simp, b2⟩

end Go.Proofs.Ytehfcofbfillaaa
