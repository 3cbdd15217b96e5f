import Derived.Test.YtomiifnhcojilaaDoorRows
import Derived.MakeChecks
import Derived.Stop.LaidErr
import Derived.Lib.LaidTab
import Derived.ChangeOld
import Derived.ProofKit
import Derived.OpenShut
import Derived.Test.YtomiifnhcojilaaDoorN7
set_option maxRecDepth 100000
set_option linter.unusedVariables false
set_option linter.unusedSimpArgs false
namespace Go.Proofs.YtomiifnhcojilaaDoor
open Go.ChangeShapes Go.WideShapes Go.ChangeAt Go.RowKit
open Classical
theorem gDb20 : Tryd.prog.globalNamed "math/bits.deBruijn64tab" = some 1 := by kernel_rfl
theorem gDbT20 : (Tryd.prog.globals[1]?).map (·.type) = some 94 := by kernel_rfl
theorem cellsDb20 : Tryd.prog.cellsOf 94 = 64 := by kernel_rfl
theorem cellsU20 : Tryd.prog.cellsOf 5 = 1 := by kernel_rfl
theorem tb_of_laid {W : World} (h : laidMetH Tryd.prog [("math/bits.deBruijn32tab", Rows.laid_math_bits_deBruijn32tab), ("math/bits.deBruijn64tab", Rows.laid_math_bits_deBruijn64tab)] W) : Tb W := by
  rw [MakeChecks.laidMetH_plain _ _ _ (by kernel_rfl)] at h
  have e : (Rows.laid_math_bits_deBruijn64tab : DataW Unit) = Lib.tabData .u8 (Lib.deBruijn64tab.map fun (k : Nat) => (k : Int)) := by kernel_rfl
  have h3 := h.tail
  rw [e] at h3
  have ht := Lib.tabIs_of_head (rest := []) gDb20 gDbT20 Tryd.underlying94 Tryd.underlying5 cellsU20 cellsDb20 h3
  intro j hj
  unfold Lib.TabIs World.var? at ht
  rw [gDb20, Option.bind_some] at ht
  unfold World.cell?
  show (match W.heap[1]? with | some (.cells cs _ _) => cs[j]? | _ => none) = _
  split at ht
  · next cs t f hc =>
    rw [hc]
    have ht := Option.some.inj ht
    subst ht
    show ((Lib.deBruijn64tab.map fun (k : Nat) => (k : Int)).map fun z => Value.int .u8 z).toArray[j]? = _
    rw [List.getElem?_toArray, List.map_map, List.getElem?_map, List.getD_eq_getElem?_getD, List.getElem?_eq_getElem hj]
    rfl
  · cases ht
theorem nil_came20 (W : World) (h : Tb W) : Calls Tryd.prog 5 #[] W fun e w' => e = .returned (.bool true) ∧ Below W.heap.size W w' := nil20 W h
end Go.Proofs.YtomiifnhcojilaaDoor
