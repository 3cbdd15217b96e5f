import Derived.Test.YtnndldhljonnpaaDoorNtj
import Derived.Test.YtnndldhljonnpaaDoorFo
import Derived.Test.YtnndldhljonnpaaDoorRows
import Derived.MakeChecks
import Derived.Stop.LaidErr
import Derived.Lib.LaidTab
import Derived.ChangeOld
import Derived.ProofKit
import Derived.OpenShut
namespace Go.Proofs.YtnndldhljonnpaaDoor
open Go.ChangeShapes Go.WideShapes Go.ChangeAt Go.RowKit
set_option linter.unusedVariables false

theorem gPow : Tryd.prog.globalNamed "internal/strconv.uint64pow10" = some 0 := by kernel_rfl
theorem gPowType : (Tryd.prog.globals[0]?).map (·.type) = some 71 := by kernel_rfl
theorem cellsPow : Tryd.prog.cellsOf 71 = 20 := by kernel_rfl
/-- What the row's list gives: strconv's table. -/
theorem tab_of_laid {W : World} (h : laidMetH Tryd.prog [("math/bits.deBruijn32tab", Rows.laid_math_bits_deBruijn32tab), ("math/bits.deBruijn64tab", Rows.laid_math_bits_deBruijn64tab), ("internal/strconv.uint64pow10", Rows.laid_internal_strconv_uint64pow10)] W) : Tab W := by
  rw [MakeChecks.laidMetH_plain _ _ _ (by kernel_rfl)] at h
  have e : (Rows.laid_internal_strconv_uint64pow10 : DataW Unit) = Lib.tabData .u64 Lib.pow10Tab := by kernel_rfl
  have h3 := h.tail.tail
  rw [e] at h3
  exact Lib.tabIs_of_head (rest := []) gPow gPowType Tryd.underlying71 Tryd.underlying22 cells_u64 cellsPow h3
theorem nat_of {x : Int} (h : 0 ≤ x ∧ x ≤ 18446744073709551615) : ∃ n : Nat, x = (n : Int) ∧ n < 18446744073709551616 := ⟨x.toNat, by omega, by omega⟩
theorem texts_came (x0 y0 : Int) (s : ByteArray) (W : World) (bx : 0 ≤ x0 ∧ x0 ≤ 18446744073709551615) (bY : 0 ≤ y0 ∧ y0 ≤ 18446744073709551615) (hs : s.size ≤ 4611686018427387904) (ht : Tab W) :
    Calls Tryd.prog 3 #[.agg #[.int .u64 x0, .int .u64 y0], .string s] W fun e w' => e = .returned (.bool true) ∧ Below W.heap.size W w' := by
  obtain ⟨h, rfl, hh⟩ := nat_of bx
  obtain ⟨l, rfl, hl⟩ := nat_of bY
  exact texts_walk h l hh hl s hs W ht

end Go.Proofs.YtnndldhljonnpaaDoor
