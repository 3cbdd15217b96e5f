import Derived.Test.YtegfbebhgihcaaaNl4
import Derived.Test.YtegfbebhgihcaaaNl5
namespace Go.Proofs.Ytegfbebhgihcaaa
open Go.RowKit
set_option linter.unusedVariables false
theorem genuine_came (a : Option Addr) (n c : Nat) (x : Ap) (w : World) (h : CameQ w a n c) (hx : x.In w ∧ x.s.length ≤ 140737488351232) :
    Calls Try.prog 4 #[.slice a n c, .agg #[.int .i64 x.f, .int .i64 x.t, .slice x.a x.s.length x.c]] w fun e w' => e = .returned (.bool true) ∧ Below w.heap.size w w' := by
  obtain ⟨L, h1, h2, h3⟩ := h
  have e1 := h1.len
  subst e1
  exact genuine14 L a c x w h1 h2 h3 hx.1 hx.2

end Go.Proofs.Ytegfbebhgihcaaa
