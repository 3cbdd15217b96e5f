import Derived.Test.YteeofcoehffegaaDoorK9
set_option maxRecDepth 100000
set_option linter.unusedVariables false
set_option linter.unusedSimpArgs false
namespace Go.Proofs.YteeofcoehffegaaDoor
open Go.ChangeShapes Go.WideShapes Go.ChangeAt Go.RowKit
open Classical
theorem towns_cameW (a1 : Option Addr) (n1 c1 : Nat) (a2 : Option Addr) (n2 c2 : Nat) (pl : Int) (W : World) (h1 : CameW W a1 n1 c1) (h2 : CameW W a2 n2 c2) (ht : Tb W) :
    Calls Tryd.prog 4 #[.slice a1 n1 c1, .slice a2 n2 c2, .int .i64 pl] W fun e W' => e = .returned (.bool true) ∧ Below W.heap.size W W' := by
  obtain ⟨l, s1, f1, _⟩ := h1
  obtain ⟨o, s2, f2, _⟩ := h2
  exact towns20 l o a1 n1 c1 a2 n2 c2 pl W s1 s2 ht f1 f2
end Go.Proofs.YteeofcoehffegaaDoor
