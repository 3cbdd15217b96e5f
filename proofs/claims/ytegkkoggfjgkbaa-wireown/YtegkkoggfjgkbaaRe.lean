import Derived.Test.YtegkkoggfjgkbaaPb
namespace Go.Proofs.Ytegkkoggfjgkbaa.Wi
open Go.RowKit
set_option linter.unusedVariables false

theorem errs_snoc (P : List Pt) (k : Nat) (hk : k < P.length) (T : ∀ j (h : j < P.length), j < k → P[j].err = 0) (h0 : P[k].err = 0) : ∀ j (h : j < P.length), j < k + 1 → P[j].err = 0 := by
  intro j h hj
  by_cases hjk : j < k
  · exact T j h hjk
  · obtain rfl : j = k := by omega
    exact h0

end Go.Proofs.Ytegkkoggfjgkbaa.Wi
