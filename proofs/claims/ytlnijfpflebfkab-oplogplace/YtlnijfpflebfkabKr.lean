import Derived.Test.YtlnijfpflebfkabKp
import Derived.Test.YtlnijfpflebfkabKm
import Derived.Test.YtlnijfpflebfkabDo
namespace Go.Proofs.Ytlnijfpflebfkab
open Go.RowKit Go.Maps
set_option linter.unusedVariables false
set_option linter.unusedSimpArgs false

/-- A new Given, and a list put into it. -/
theorem given6 (L : List En) (a : Option Addr) (c : Nat) (w : World) (h : SlY yE w a L.length c L) (hm : L.length * 48 ≤ 140737488351232) :
    Calls Try.prog 10 #[.pointer (some ⟨w.heap.size, 0, none⟩), .slice a L.length c] (w.alloc (.cells #[.slice none 0 0, .slice none 0 0, .slice none 0 0, .slice none 0 0, .slice none 0 0, .slice none 0 0, .slice none 0 0, .slice none 0 0, .slice none 0 0, .slice none 0 0] 29)) fun e w' => ∃ g c' va' vb' g5 k5, e = .returned (.slice (some ⟨g, 0, none⟩) L.length c') ∧ SlY yE w' (some ⟨g, 0, none⟩) L.length c' L ∧ GY yE zE 4 (fun _ => .slice none 0 0) w' w.heap.size (w.heap.size + 1) va' vb' [⟨some ⟨g, 0, none⟩, c', L ++ [mkE]⟩] [⟨some ⟨g5, 0, none⟩, k5, L ++ [mkE]⟩] ∧ Below w.heap.size w w' := by
  have bA := (Below.refl w.heap.size w).alloc (Nat.le_refl _) (.cells #[.slice none 0 0, .slice none 0 0, .slice none 0 0, .slice none 0 0, .slice none 0 0, .slice none 0 0, .slice none 0 0, .slice none 0 0, .slice none 0 0, .slice none 0 0] 29)
  refine (given_ent _ w.heap.size (w.heap.size + 1) _ _ [] [] a L.length c L _ (GY.new yE zE 4 (by omega) w 29) (h.later bA) hm (by simp) rfl).mono ?_
  rintro e w1 ⟨g, c1, va, vb, g5, k5, rfl, s1, hg, G1, U1, _, _⟩
  refine ⟨g, c1, va, vb, g5, k5, rfl, s1, G1, bA.trans (U1.below (by simp) (fun k hk => ?_))⟩
  rcases hk with rfl | hk | hk
  · exact Nat.le_refl _
  · cases hk
  · cases hk
end Go.Proofs.Ytlnijfpflebfkab
