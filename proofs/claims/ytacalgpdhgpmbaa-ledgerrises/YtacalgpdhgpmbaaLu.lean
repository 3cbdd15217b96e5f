import Derived.Test.YtacalgpdhgpmbaaGLi
import Derived.Test.YtacalgpdhgpmbaaGLo
namespace Go.Proofs.Ytacalgpdhgpmbaa
open Go.RowKit
open Classical
set_option linter.unusedVariables false

theorem rises_came (a : Option Addr) (len cap : Nat) (W : World) (h : CameO W a len cap) :
    Calls Try.prog 11 #[.slice a len cap] W fun e w' => e = .returned (.bool true) ∧ Below W.heap.size W w' := by
  obtain ⟨P, rfl, hP, hf, hl, _, _⟩ := h
  exact rises_walk P a cap W hP hf hl

end Go.Proofs.Ytacalgpdhgpmbaa
