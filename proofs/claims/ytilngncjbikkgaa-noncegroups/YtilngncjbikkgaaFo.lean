import Derived.Test.YtilngncjbikkgaaNb
import Derived.ChangeOld
import Derived.ProofKit
import Derived.OpenShut
namespace Go.Proofs.Ytilngncjbikkgaa
open Go.ChangeShapes Go.WideShapes Go.ChangeAt Go.RowKit
set_option linter.unusedVariables false

theorem cells_draw : Try.prog.cellsOf 58 = 2 := by kernel_rfl
theorem cells_u64 : Try.prog.cellsOf 22 = 1 := by kernel_rfl
set_option maxRecDepth 100000 in
/-- A draw that came in by value. -/
theorem open_draw {H : Type} {enc : TypeId × Value → H} {W : World} {base : Nat} {v : Value} {d : DataW H} {p : List MemPlace} (hv : Value.okWide Try.prog W .any base 58 v) (h : DataW.Trod enc Try.prog W 0 (fun _ => true) true 58 v d p) :
    ∃ x y : Int, v = .agg #[.int .u64 x, .int .u64 y] ∧ (0 ≤ x ∧ x ≤ 18446744073709551615) ∧ (0 ≤ y ∧ y ≤ 18446744073709551615) := by
  obtain ⟨cs, rfl, hsz⟩ := okWide_struct Try.underlying58 hv
  have h1 := cells_u64
  rw [cells_draw] at hsz
  obtain ⟨c0, c1, rfl⟩ : ∃ c0 c1, cs = #[c0, c1] := by
    obtain ⟨l⟩ := cs
    match l, hsz with
    | [c0, c1], _ => exact ⟨c0, c1, rfl⟩
  obtain ⟨fuel, hf⟩ := h
  obtain ⟨y0, y1, n, _, _, g0, g1⟩ := trod_struct2 Try.underlying58 hf
  simp [Value.cells, h1] at g0 g1
  obtain ⟨A, hA, _, hAw⟩ := DataW.trod_int Try.underlying22 g0
  obtain ⟨B, hB, _, hBw⟩ := DataW.trod_int Try.underlying22 g1
  rw [List.cons_eq_cons.1 hA |>.1, List.cons_eq_cons.1 hB |>.1]
  exact ⟨A, B, rfl, u64_wf hAw, u64_wf hBw⟩

end Go.Proofs.Ytilngncjbikkgaa
