import Derived.Test.YtjedpnhdpnknoabMa
namespace Go.Proofs.Ytjedpnhdpnknoab
open Go.RowKit
set_option linter.unusedVariables false

theorem bh_snoc (p : Cl) : ∀ L : List Cl, bh (L ++ [p]) = max (bh L) (p.1 + 1)
  | [] => by simp only [List.nil_append, bh]; omega
  | y :: r => by simp only [List.cons_append, bh, bh_snoc p r]; omega
end Go.Proofs.Ytjedpnhdpnknoab
