import Derived.Test.YtjpkdnndhjnkpaaF7
set_option maxRecDepth 100000
set_option linter.unusedVariables false
set_option linter.unusedSimpArgs false
namespace Go.Proofs.Ytjpkdnndhjnkpaa
open Go.RowKit
open Classical
theorem for_came (a : Option Addr) (n c : Nat) (stop : Int) (w : World) (h : CamePk w a n c) (hs : (Lit.int .i64 stop).wf = true) :
    Calls Try.prog 7 #[.slice a n c, .int .i64 stop] w fun e w' => e = .returned (.bool true) ∧ Below w.heap.size w w' := by
  obtain ⟨L, h1, h2, h3⟩ := h
  have e1 := h1.len
  subst e1
  exact for14 L a c stop w h1 h2 h3 hs
end Go.Proofs.Ytjpkdnndhjnkpaa
