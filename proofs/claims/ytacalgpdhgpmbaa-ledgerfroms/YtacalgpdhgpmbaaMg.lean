import Derived.Test.YtacalgpdhgpmbaaMf
namespace Go.Proofs.Ytacalgpdhgpmbaa
open Go.RowKit
open Classical
set_option linter.unusedVariables false

theorem froms_came (a0 : Option Addr) (len0 cap0 : Nat) (a1 : Option Addr) (len1 cap1 : Nat) (sl : Int) (W : World) (h0 : CameC W a0 len0 cap0) (h1 : CameO W a1 len1 cap1) (hs : (Lit.int .i64 sl).wf = true) :
    Calls Try.prog 5 #[.slice a0 len0 cap0, .slice a1 len1 cap1, .int .i64 sl] W fun e w' => e = .returned (.bool true) ∧ Below W.heap.size W w' := by
  obtain ⟨D, rfl, hD, hDw, hDl⟩ := h0
  obtain ⟨P, rfl, hP, hf, hl, _, _⟩ := h1
  exact froms_walk D a0 cap0 P a1 cap1 sl W hD hDw hDl hP hf hl hs

end Go.Proofs.Ytacalgpdhgpmbaa
