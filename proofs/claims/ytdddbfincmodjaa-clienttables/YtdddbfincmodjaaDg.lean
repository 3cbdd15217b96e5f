import Derived.Test.YtdddbfincmodjaaDo
namespace Go.Proofs.Ytdddbfincmodjaa
open Go.RowKit Go.Maps
open Classical
set_option linter.unusedVariables false
set_option linter.unusedSimpArgs false

set_option maxRecDepth 100000 in
set_option maxHeartbeats 2000000 in
theorem tables_walk (L : List En) (a : Option Addr) (c : Nat) (k : Int) (w : World) (h : SlY yE w a L.length c L) (hf : ∀ e ∈ L, e.fits) (hm : L.length * 48 ≤ 140737488351232) :
    Calls Try.prog 3 #[.slice a L.length c, .int .i64 k] w fun e w' => e = .returned (.bool true) ∧ Below w.heap.size w w' := by
  have H := hide h
  have bA := (Below.refl w.heap.size w).alloc (Nat.le_refl _) (.cells #[.slice none 0 0, .slice none 0 0, .slice none 0 0, .slice none 0 0, .slice none 0 0, .slice none 0 0, .slice none 0 0, .slice none 0 0, .slice none 0 0, .slice none 0 0] 29)
  have cg := given_ent _ w.heap.size (w.heap.size + 1) _ _ [] [] a L.length c L _ (GY.new yE zE 4 (by omega) w 29) (h.later bA) hm (by simp) rfl
  clear h
  go_enter Try.func3, Try.ntmps3
  go_wp2_with fail
  refine cg.mono ?_
  rintro e w1 ⟨g, c1, va, vb, g5, k5, rfl, s1, hg, G1, U1, _, _⟩
  have b1 : Below w.heap.size w w1 := bA.trans (U1.below (by simp) (fun k hk => by
    rcases hk with rfl | hk | hk
    · exact Nat.le_refl _
    · cases hk
    · cases hk))
  have z1 := b1.size
  have ct := table_any L (some ⟨g, 0, none⟩) c1 k w1 s1 hf
  have G1h := hide G1
  clear cg bA U1 G1
  go_wp2_with fail
  refine ct.mono ?_
  rintro e w2 ⟨v2, rfl, o2, b2⟩
  have z2 := b2.size
  have bb2 := b1.trans (b2.mono z1)
  have cr := reftable_any L a c k w2 (H.out.later bb2) hf
  have G2 := hide (G1h.out.bel b2)
  clear ct s1 G1h b1
  go_wp2_with fail
  refine cr.mono ?_
  rintro e w3 ⟨v3, rfl, o3, b3⟩
  have z3 := b3.size
  have G3 := hide (G2.out.bel b3)
  obtain ⟨a2, c2, rfl, s2, _⟩ := o2.sl kR
  obtain ⟨a3, c3, rfl, s3, _⟩ := o3.sl kR
  have cs := hide (samerows_any _ a2 a3 c2 c3 w3 (s2.later b3) s3)
  have bb3 := hide (bb2.trans (b3.mono (by omega)))
  clear cr G2 o2 o3 s2 s3 b2 b3 bb2
  generalize (tbl L k).length = m at *
  generalize ckB L 0 k = x at *
  have ci := fun n => hide (intactE_any w.heap.size (w.heap.size + 1) va vb _ _ (w3.drewN n) (G3.out.bel (belN (Below.refl _ _) n)) rfl)
  go_wp2_with (first
    | (go_at_call 12; refine (num_any _ _).mono ?_; rintro e w4 ⟨rfl, hw4⟩; subst hw4)
    | (go_at_call 13; refine cs.out.mono ?_; rintro e w5 ⟨rfl, n5, rfl⟩)
    | (go_at_call 14; refine (ci n5).out.mono ?_; rintro e w6 ⟨rfl, n6, rfl⟩)
    | (go_at_call 15; refine (alive_any _).mono ?_; rintro e w7 ⟨rfl, b7⟩))
  go_ret
  exact ⟨rfl, (belN bb3.out (n5 + n6)).trans (b7.mono (by show w.heap.size ≤ w4.heap.size; omega))⟩
theorem tables_came (a : Option Addr) (len cap : Nat) (k : Int) (W : World) (h : CameE W a len cap) :
    Calls Try.prog 3 #[.slice a len cap, .int .i64 k] W fun e w' => e = .returned (.bool true) ∧ Below W.heap.size W w' := by
  obtain ⟨P, hs, hf, hm⟩ := h
  obtain rfl := hs.len
  exact tables_walk P a cap k W hs hf hm

end Go.Proofs.Ytdddbfincmodjaa
