import Derived.Test.YtifhdelkmhlcoabNa
import Derived.Test.YtifhdelkmhlcoabFo
import Derived.Deep.Grids
namespace Go.Proofs.Ytifhdelkmhlcoab
open Go.ChangeShapes Go.WideShapes Go.ChangeAt Go.RowKit
set_option linter.unusedVariables false

theorem cells_bool : Try.prog.cellsOf 4 = 1 := by kernel_rfl
set_option maxRecDepth 100000 in
theorem open_boolslice {H : Type} {enc : TypeId × Value → H} {W : World} {base : Nat} {v : Value} {d : DataW H} {p : List MemPlace} (hv : Value.okWide Try.prog W .any base 55 v) (h : DataW.Trod enc Try.prog W 0 (fun _ => true) true 55 v d p) :
    ∃ a len cap, v = .slice a len cap ∧ Bools W a len := by
  obtain ⟨a, len, cap, rfl⟩ := okWide_slice Try.underlying55 hv
  refine ⟨a, len, cap, rfl, ?_⟩
  obtain ⟨fuel, hf⟩ := h
  rcases Go.Deep.open_bools Try.underlying55 Try.underlying4 cells_bool hf with ⟨hcs, _⟩ | ⟨x, ln, cp, B, hcs, _, hl, hm, _, hall⟩
  · simp [Value.cells] at hcs
    obtain ⟨rfl, rfl, rfl⟩ := hcs
    exact ⟨by omega, fun i hi => by omega⟩
  · simp [Value.cells] at hcs
    obtain ⟨rfl, rfl, rfl⟩ := hcs
    refine ⟨by unfold maxLen at hm; omega, fun i hi => ?_⟩
    have c := hall i (by omega)
    have z := hall 0 (by omega)
    obtain ⟨b, o, s⟩ := x
    have hs := World.cell?_spot z
    obtain rfl : s = none := by simpa [Addr.add] using hs
    rw [Addr.add_lit] at c
    exact ⟨b, o, _, rfl, c⟩

end Go.Proofs.Ytifhdelkmhlcoab
