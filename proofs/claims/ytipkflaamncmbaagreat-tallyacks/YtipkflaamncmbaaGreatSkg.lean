import Derived.Test.YtipkflaamncmbaaGreatSk1
namespace Go.Proofs.YtipkflaamncmbaaGreat
open Go.RowKit Go.Maps
open Classical
set_option linter.unusedVariables false
set_option linter.unusedSimpArgs false

/-- An acknowledgement is greater by its place. -/
def Ak.gt (x y : Ak) : Bool := decide (y.p < x.p)
theorem Ak.greater_any (x y : Ak) (w : World) : Calls Tryz.prog 187 #[x.val, y.val] w fun e w' => e = .returned (.bool (Ak.gt x y)) ∧ Below w.heap.size w w' := by
  show Calls Tryz.prog 187 #[.agg #[.int .i64 x.n, .int .u64 x.h, .int .u64 x.l, .int .i64 x.p], .agg #[.int .i64 y.n, .int .u64 y.h, .int .u64 y.l, .int .i64 y.p]] w _
  go_enter Tryz.func187, Tryz.ntmps187
  go_wp2
  go_ret
  exact ⟨rfl, by (repeat (first | exact Below.refl _ _ | assumption | refine Below.drew ?_ | refine Below.alloc ?_ (by first | (simp; done) | (simp; omega) | omega) _ | refine Below.setCell ?_ (by first | (simp; done) | (simp; omega) | omega) _))⟩

end Go.Proofs.YtipkflaamncmbaaGreat
