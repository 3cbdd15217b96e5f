import Derived.Test.YtdfoafpcoigklaaKp
import Derived.Test.YtdfoafpcoigklaaKm
import Derived.Test.YtdfoafpcoigklaaDo
namespace Go.Proofs.Ytdfoafpcoigklaa
open Go.RowKit Go.Maps
open Classical
set_option linter.unusedVariables false
set_option linter.unusedSimpArgs false

/-- A new Given, and a list put into it. -/
theorem given6 (L : List En) (a : Option Addr) (c : Nat) (w : World) (h : SlY yE w a L.length c L) (hm : L.length * 48 ≤ 140737488351232) :
    Calls Try.prog 17 #[.pointer (some ⟨w.heap.size, 0, none⟩), .slice a L.length c] (w.alloc (.cells #[.slice none 0 0, .slice none 0 0, .slice none 0 0, .slice none 0 0, .slice none 0 0, .slice none 0 0, .slice none 0 0, .slice none 0 0, .slice none 0 0, .slice none 0 0] 29)) fun e w' => ∃ g c' va' vb' g5 k5, e = .returned (.slice (some ⟨g, 0, none⟩) L.length c') ∧ SlY yE w' (some ⟨g, 0, none⟩) L.length c' L ∧ GY yE zE 4 (fun _ => .slice none 0 0) w' w.heap.size (w.heap.size + 1) va' vb' [⟨some ⟨g, 0, none⟩, c', L ++ [mkE]⟩] [⟨some ⟨g5, 0, none⟩, k5, L ++ [mkE]⟩] ∧ Below w.heap.size w w' := by
  have bA := (Below.refl w.heap.size w).alloc (Nat.le_refl _) (.cells #[.slice none 0 0, .slice none 0 0, .slice none 0 0, .slice none 0 0, .slice none 0 0, .slice none 0 0, .slice none 0 0, .slice none 0 0, .slice none 0 0, .slice none 0 0] 29)
  refine (given_ent _ w.heap.size (w.heap.size + 1) _ _ [] [] a L.length c L _ (GY.new yE zE 4 (by omega) w 29) (h.later bA) hm (by simp) rfl).mono ?_
  rintro e w1 ⟨g, c1, va, vb, g5, k5, rfl, s1, hg, G1, U1, _, _⟩
  refine ⟨g, c1, va, vb, g5, k5, rfl, s1, G1, bA.trans (U1.below (by simp) (fun k hk => ?_))⟩
  rcases hk with rfl | hk | hk
  · exact Nat.le_refl _
  · cases hk
  · cases hk
set_option maxRecDepth 100000 in
set_option maxHeartbeats 2000000 in
theorem checks6_walk (L : List En) (a : Option Addr) (c : Nat) (k : Int) (w : World) (h : SlY yE w a L.length c L) (hf : ∀ e ∈ L, e.fits) (hm : L.length * 48 ≤ 140737488351232) :
    Calls Try.prog 3 #[.slice a L.length c, .int .i64 k] w fun e w' => e = .returned (.bool true) ∧ Below w.heap.size w w' := by
  have H := hide h
  have cg := hide (given6 L a c w h hm)
  clear h
  go_enter Try.func3, Try.ntmps3
  go_wp2_with fail
  refine cg.out.mono ?_
  rintro e w1 ⟨g, c1, va, vb, g5, k5, rfl, s1, G1, b1⟩
  have z1 := b1.size
  have ct := hide (checkO_any L (some ⟨g, 0, none⟩) L.length c1 k w1 s1 hf)
  have G1h := hide G1
  clear cg G1 s1
  go_wp2_with fail
  refine ct.out.mono ?_
  rintro e w2 ⟨rfl, b2⟩
  have z2 := b2.size
  have bb2 := b1.trans (b2.mono z1)
  have cr := hide (refchk6_any L a L.length c k w2 (H.out.later bb2) hf)
  have G2 := hide (G1h.out.bel b2)
  clear ct G1h b1
  go_wp2_with fail
  refine cr.out.mono ?_
  rintro e w3 ⟨rfl, b3⟩
  have G3 := hide (G2.out.bel b3)
  have bb3 := hide (bb2.trans (b3.mono (by omega)))
  clear cr G2 b2 b3 bb2
  generalize chk L k = X at *
  obtain ⟨x1, x2⟩ := X
  have ci := hide (intactE_any w.heap.size (w.heap.size + 1) va vb _ _ w3 G3.out rfl)
  have cw := hide (fun W => works6_any W)
  go_wp2_with (first
    | (go_at_call 19; refine ci.out.mono ?_; rintro e w6 ⟨rfl, n6, rfl⟩)
    | (go_at_call 20; refine (cw.out _).mono ?_; rintro e w7 ⟨rfl, b7⟩))
  go_ret
  exact ⟨rfl, (belN bb3.out n6).trans (b7.mono (by have := bb3.out.size; show w.heap.size ≤ w3.heap.size; omega))⟩
theorem checks6_came (a : Option Addr) (len cap : Nat) (k : Int) (W : World) (h : CameE W a len cap) :
    Calls Try.prog 3 #[.slice a len cap, .int .i64 k] W fun e w' => e = .returned (.bool true) ∧ Below W.heap.size W w' := by
  obtain ⟨P, hs, hf, hm⟩ := h
  obtain rfl := hs.len
  exact checks6_walk P a cap k W hs hf hm

end Go.Proofs.Ytdfoafpcoigklaa
