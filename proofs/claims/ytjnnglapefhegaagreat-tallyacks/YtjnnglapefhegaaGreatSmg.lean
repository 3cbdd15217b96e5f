import Derived.Test.YtjnnglapefhegaaGreatSm1
namespace Go.Proofs.YtjnnglapefhegaaGreat
open Go.RowKit Go.Maps
set_option linter.unusedVariables false
set_option linter.unusedSimpArgs false

/-- A mark is never greater than another. -/
def Mk.gt (x y : Mk) : Bool := false
theorem Mk.greater_any (x y : Mk) (w : World) : Calls Tryz.prog 120 #[x.val, y.val] w fun e w' => e = .returned (.bool (Mk.gt x y)) ∧ Below w.heap.size w w' := by
  show Calls Tryz.prog 120 #[.agg #[.int .i64 x.n, .int .u64 x.h, .int .u64 x.l], .agg #[.int .i64 y.n, .int .u64 y.h, .int .u64 y.l]] w _
  go_enter Tryz.func120, Tryz.ntmps120
  go_wp2
  go_ret
  exact ⟨rfl, by (repeat (first | exact Below.refl _ _ | assumption | refine Below.drew ?_ | refine Below.alloc ?_ (by first | (simp; done) | (simp; omega) | omega) _ | refine Below.setCell ?_ (by first | (simp; done) | (simp; omega) | omega) _))⟩

end Go.Proofs.YtjnnglapefhegaaGreat
