import Derived.Test.YtegfbebhgihcaaaNv1
import Derived.Test.YtegfbebhgihcaaaNkp
namespace Go.Proofs.Ytegfbebhgihcaaa
open Go.RowKit
open Classical
set_option linter.unusedVariables false
theorem heap_came (a : Option Addr) (n c : Nat) (i k at_ m : Int) (w : World) (h : CamePk w a n c) (hi : (Lit.int .i64 i).wf = true) (hk : (Lit.int .i64 k).wf = true) (ha : (Lit.int .i64 at_).wf = true) (hm : (Lit.int .u8 m).wf = true) :
    Calls Try.prog 5 #[.slice a n c, .int .i64 i, .int .i64 k, .int .i64 at_, .int .u8 m] w fun e w' => e = .returned (.bool true) ∧ Below w.heap.size w w' := by
  obtain ⟨L, h1, h2, h3⟩ := h
  have e1 := h1.len
  subst e1
  rw [u8_of hm]
  exact heap14 L a c i k at_ _ w h1 h2 h3 hi hk ha

end Go.Proofs.Ytegfbebhgihcaaa
