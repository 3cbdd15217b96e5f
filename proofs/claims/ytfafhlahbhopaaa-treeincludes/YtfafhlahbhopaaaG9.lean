import Derived.Laws.StructEq
import Derived.Test.YtfafhlahbhopaaaG8
set_option maxRecDepth 100000
set_option linter.unusedVariables false
set_option linter.unusedSimpArgs false
namespace Go.Proofs.Ytfafhlahbhopaaa
open Go.ChangeShapes Go.WideShapes Go.ChangeAt Go.RowKit Go.Maps
open Classical
theorem inc_cameW (g : List Int) (hg : Hb g) (s p : Int) (x : En) (a : Option Addr) (k c : Nat) (W : World) (h : CameH W a k c) (hs : (Lit.int .i64 s).wf = true) (hv : x.o.v.size ≤ 140737488351232) :
    Calls Try.prog 5 #[.agg (g.map bV).toArray, .int .i64 s, .int .i64 p, x.val20, .slice a k c] W fun e w' => e = .returned (.bool true) ∧ Below W.heap.size W w' := by
  obtain ⟨P, s1, hk⟩ := h
  have hn2 : s ≤ 9223372036854775807 := by
    simp [Lit.wf, IntKind.min, IntKind.max, IntKind.signed, IntKind.bits] at hs
    omega
  exact inc_law20 hg.h20 s p x P a k c W s1 (by omega) hn2 hv
end Go.Proofs.Ytfafhlahbhopaaa
