import Derived.Test.YtlnijfpflebfkabKr
namespace Go.Proofs.Ytlnijfpflebfkab
open Go.RowKit Go.Maps
set_option linter.unusedVariables false
set_option linter.unusedSimpArgs false

theorem cmn_self : ∀ A : List En, cmn A A = A.length
  | [] => rfl
  | x :: r => by rw [cmn, if_pos rfl, cmn_self r, List.length_cons]; omega
end Go.Proofs.Ytlnijfpflebfkab
