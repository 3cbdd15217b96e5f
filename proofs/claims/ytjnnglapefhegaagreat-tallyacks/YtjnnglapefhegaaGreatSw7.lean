import Derived.Test.YtjnnglapefhegaaGreatSw6
namespace Go.Proofs.YtjnnglapefhegaaGreat
open Go.RowKit Go.Maps
set_option linter.unusedVariables false
set_option linter.unusedSimpArgs false

theorem An.put_none {L : List An} {x : An} (h : L.findIdx? (fun y => decide (y.n = x.n)) = none) : An.put L x = An.ins L x := by unfold An.put; rw [h]
theorem An.put_some {L : List An} {x : An} {i : Nat} (h : L.findIdx? (fun y => decide (y.n = x.n)) = some i) (y : An) (hy : L[i]? = some y) : An.put L x = if An.rep x y = true then L.set i x else L := by
  unfold An.put
  rw [h]
  simp only [List.getD_eq_getElem?_getD, hy, Option.getD_some]
end Go.Proofs.YtjnnglapefhegaaGreat
