import Derived.Test.YtegkkoggfjgkbaaAp
import Derived.Test.YtegkkoggfjgkbaaAs
namespace Go.Proofs.Ytegkkoggfjgkbaa
open Go.RowKit
open Classical
set_option linter.unusedVariables false

theorem own1_came (a0 : Option Addr) (len0 cap0 : Nat) (a1 : Option Addr) (len1 cap1 : Nat) (W : World) (h0 : CameBy W a0 len0 cap0) (h1 : CameBy W a1 len1 cap1) :
    Calls Try.prog 3 #[.slice a0 len0 cap0, .slice a1 len1 cap1] W fun e w' => e = .returned (.bool true) ∧ Below W.heap.size W w' := by
  obtain ⟨la, s0, b0, l0⟩ := h0
  obtain ⟨lb, s1, b1, l1⟩ := h1
  have e0 := s0.len
  have e1 := s1.len
  subst e0 e1
  exact own1_walk la lb a0 a1 cap0 cap1 W (s0.hs b0) (s1.hs b1) l0 l1 s0.max s1.max

end Go.Proofs.Ytegkkoggfjgkbaa
