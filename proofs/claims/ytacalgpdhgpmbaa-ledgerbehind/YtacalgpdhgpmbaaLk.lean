import Derived.Test.YtacalgpdhgpmbaaLj
import Derived.Test.YtacalgpdhgpmbaaGLo
namespace Go.Proofs.Ytacalgpdhgpmbaa
open Go.RowKit Go.Maps
open Classical
set_option linter.unusedVariables false

theorem behind_came (a : Option Addr) (len cap : Nat) (v : ByteArray) (W : World) (h : CameO W a len cap) (hv : v.size ≤ maxLen) :
    Calls Try.prog 8 #[.slice a len cap, .string v] W fun e w' => e = .returned (.bool true) ∧ Below W.heap.size W w' := by
  obtain ⟨P, rfl, hP, hf, hl, _, _⟩ := h
  exact behind_walk P a cap v W hP hf hl hv

end Go.Proofs.Ytacalgpdhgpmbaa
