import Derived.Test.YtacalgpdhgpmbaaBx
namespace Go.Proofs.Ytacalgpdhgpmbaa
open Go.RowKit
open Classical
set_option linter.unusedVariables false

theorem own4_came (a0 : Option Addr) (len0 cap0 : Nat) (a1 : Option Addr) (len1 cap1 : Nat) (W : World) (h0 : CameN W a0 len0 cap0) (h1 : CameN W a1 len1 cap1) :
    Calls Try.prog 12 #[.slice a0 len0 cap0, .slice a1 len1 cap1] W fun e w' => e = .returned (.bool true) ∧ Below W.heap.size W w' := by
  obtain ⟨P, rfl, hP, hf, hl, hc, hm, hn⟩ := h0
  obtain ⟨Q, rfl, hQ, gf, gl, gc, gm, gn⟩ := h1
  exact own4_walk P Q a0 a1 cap0 cap1 W hP hf hl hn hQ gf gl

end Go.Proofs.Ytacalgpdhgpmbaa
