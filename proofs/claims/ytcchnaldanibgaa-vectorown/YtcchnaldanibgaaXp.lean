import Derived.Test.YtcchnaldanibgaaXo
import Derived.Test.YtcchnaldanibgaaVo
namespace Go.Proofs.Ytcchnaldanibgaa
open Go.RowKit
set_option linter.unusedVariables false

theorem own3_came (a : Option Addr) (n c : Nat) (ab : Option Addr) (nb cb : Nat) (nd x y : Int) (w : World) (h : Came w a n c) (h' : Came w ab nb cb) :
    Calls Try.prog 9 #[.slice a n c, .slice ab nb cb, .int .i64 nd, .agg #[.int .u64 x, .int .u64 y]] w fun e w' => e = .returned (.bool true) ∧ Below w.heap.size w w' := by
  obtain ⟨D, rfl, s1, hb, _⟩ := h
  obtain ⟨D', rfl, s2, hb', _⟩ := h'
  exact own3_walk D D' a ab c cb nd x y w ⟨rfl, s1⟩ ⟨rfl, s2⟩ hb hb'

end Go.Proofs.Ytcchnaldanibgaa
