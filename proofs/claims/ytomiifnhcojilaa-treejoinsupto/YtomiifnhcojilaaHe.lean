import Derived.Test.YtomiifnhcojilaaHd
namespace Go.Proofs.Ytomiifnhcojilaa
open Go.RowKit Go.Maps
open Classical
set_option linter.unusedVariables false
set_option linter.unusedSimpArgs false

theorem upd_sets' {S : Nat → Prop} {b : Nat} {w0 : World} (hb : w0.heap.size ≤ b) : ∀ (vs : List Value) (i : Nat) (w : World), Upd S w0 w → Upd S w0 (sets w b i vs)
  | [], _, _, h => h
  | u :: r, i, w, h => upd_sets' hb r (i + 1) _ (h.setCell (p := ⟨b, i, none⟩) (.inr hb) u)
end Go.Proofs.Ytomiifnhcojilaa
