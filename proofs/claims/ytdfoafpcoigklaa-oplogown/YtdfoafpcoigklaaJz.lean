import Derived.Test.YtdfoafpcoigklaaJy
import Derived.Test.YtdfoafpcoigklaaJd
namespace Go.Proofs.Ytdfoafpcoigklaa
open Go.RowKit Go.Maps
open Classical
set_option linter.unusedVariables false

theorem own6_came (a : Option Addr) (len cap : Nat) (b : Option Addr) (len2 cap2 : Nat) (k : Int) (W : World) (h : CameR W a len cap) (h2 : CameR W b len2 cap2) (hk : (Lit.int .i64 k).wf = true) :
    Calls Try.prog 15 #[.slice a len cap, .slice b len2 cap2, .int .i64 k] W fun e w' => e = .returned (.bool true) ∧ Below W.heap.size W w' := by
  obtain ⟨P, hs, hf, _⟩ := h
  obtain ⟨P2, hs2, hf2, _⟩ := h2
  exact own6_walk P P2 a b len cap len2 cap2 k hk W hs hs2 hf hf2

end Go.Proofs.Ytdfoafpcoigklaa
