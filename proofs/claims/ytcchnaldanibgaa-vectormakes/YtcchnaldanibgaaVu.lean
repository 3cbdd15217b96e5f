import Derived.Test.YtcchnaldanibgaaVt
namespace Go.Proofs.Ytcchnaldanibgaa
open Go.RowKit
set_option linter.unusedVariables false
set_option linter.unusedSimpArgs false

set_option maxRecDepth 100000 in
set_option maxHeartbeats 2000000 in
theorem makes_walk (a : Option Addr) (n c : Nat) (D : List (Int × Int)) (nodes node x y : Int) (w : World) (h : SlN w a n c D) (hm : n * 16 ≤ 140737488351232) :
    Calls Try.prog 3 #[.slice a n c, .int .i64 nodes, .int .i64 node, .agg #[.int .u64 x, .int .u64 y]] w fun e w' => e = .returned (.bool true) ∧ Below w.heap.size w w' := by
  have G0 := GX.new (w.alloc (.cells #[.int .u64 x, .int .u64 y] 26)) 33
  have hsz : (w.alloc (.cells #[.int .u64 x, .int .u64 y] 26)).heap.size = w.heap.size + 1 := by simp
  rw [hsz] at G0
  have b0 : Below w.heap.size w ((w.alloc (.cells #[.int .u64 x, .int .u64 y] 26)).alloc (.cells #[.slice none 0 0, .slice none 0 0, .slice none 0 0, .slice none 0 0, .slice none 0 0, .slice none 0 0, .slice none 0 0, .slice none 0 0, .slice none 0 0, .slice none 0 0] 33)) := ((Below.refl _ _).alloc (Nat.le_refl _) _).alloc (by simp) _
  have HS := hide h
  have GH := hide (given_vec (w.heap.size + 1) (w.heap.size + 1 + 1) _ _ [] [] a n c D _ G0 (h.bel b0) hm (by simp) rfl)
  clear h G0 hsz b0
  go_enter Try.func3, Try.ntmps3
  go_wp2_with fail
  refine GH.out.mono ?_
  rintro e w1 ⟨g, c', v2, v3, g5, k5, rfl, x1, hg, G1, u1, _, _⟩
  have bb : Below (w.heap.size + 1) _ w1 := u1.below (B := w.heap.size + 1) (by simp) (fun k hk => by
    rcases hk with rfl | hk | hk
    · exact Nat.le_refl _
    · cases hk
    · cases hk)
  have b1 : Below w.heap.size w w1 := (((Below.refl w.heap.size w).alloc (Nat.le_refl _) _).alloc (by simp) _).trans (bb.mono (by omega))
  have z0 : w1.cell? ⟨w.heap.size, 0, none⟩ = some (.int .u64 x) := (bb.cell (p := ⟨w.heap.size, 0, none⟩) (Nat.lt_succ_self _)).trans (by simp)
  have z1 : w1.cell? ⟨w.heap.size, 1, none⟩ = some (.int .u64 y) := (bb.cell (p := ⟨w.heap.size, 1, none⟩) (Nat.lt_succ_self _)).trans (by simp)
  have hw1 : w.heap.size < w1.heap.size := by have := bb.size; simp at this; omega
  have XG := hide (And.intro x1 G1)
  clear GH u1 bb x1 G1 hg
  go_wp2_with fail
  refine (new_any nodes w1).mono ?_
  rintro e w2 ⟨an, mn, cn, rfl, n2, b2'⟩
  have b2 : Below w.heap.size w w2 := b1.trans (b2'.mono b1.size)
  have X2 := hide (And.intro (XG.out.1.bel b2') (XG.out.2.bel b2'))
  have z0 := (b2'.cell (p := ⟨w.heap.size, 0, none⟩) hw1).trans z0
  have z1 := (b2'.cell (p := ⟨w.heap.size, 1, none⟩) hw1).trans z1
  have hw2 : w.heap.size < w2.heap.size := Nat.lt_of_lt_of_le hw1 b2'.size
  have N2 := hide n2
  clear XG b2' n2 b1
  go_wp2_with fail
  refine (refnew_any nodes w2).mono ?_
  rintro e w3 ⟨ar, mr, cr, rfl, n3, b3'⟩
  have b3 : Below w.heap.size w w3 := b2.trans (b3'.mono b2.size)
  have X3 := hide (And.intro (X2.out.1.bel b3') (X2.out.2.bel b3'))
  have z0 := (b3'.cell (p := ⟨w.heap.size, 0, none⟩) hw2).trans z0
  have z1 := (b3'.cell (p := ⟨w.heap.size, 1, none⟩) hw2).trans z1
  have hw3 : w.heap.size < w3.heap.size := Nat.lt_of_lt_of_le hw2 b3'.size
  have N3 := hide (And.intro (N2.out.bel b3') n3)
  clear X2 b3' n3 b2 N2
  go_wp2_with fail
  refine (set_any _ n c' D node x y w3 X3.out.1).mono ?_
  rintro e w4 ⟨as', ms, cs, rfl, n4, b4'⟩
  have b4 : Below w.heap.size w w4 := b3.trans (b4'.mono b3.size)
  have X4 := hide (And.intro (X3.out.1.bel b4') (X3.out.2.bel b4'))
  have z0 := (b4'.cell (p := ⟨w.heap.size, 0, none⟩) hw3).trans z0
  have z1 := (b4'.cell (p := ⟨w.heap.size, 1, none⟩) hw3).trans z1
  have N4 := hide (And.intro (And.intro (N3.out.1.bel b4') (N3.out.2.bel b4')) n4)
  clear X3 b4' n4 b3 N3
  go_wp2_with fail
  refine (refset_any a n c D node x y w4 (HS.out.bel b4)).mono ?_
  rintro e w5 ⟨at', mt, ct, rfl, n5, b5'⟩
  have b5 : Below w.heap.size w w5 := b4.trans (b5'.mono b4.size)
  have X5 := hide (And.intro (X4.out.1.bel b5') (X4.out.2.bel b5'))
  have N5 := hide (And.intro (And.intro (N4.out.1.1.bel b5') (N4.out.1.2.bel b5')) (And.intro (N4.out.2.bel b5') n5))
  clear X4 b5' n5 b4 N4 z0 z1 hw1 hw2 hw3
  go_wp2_with fail
  refine (num_any _ _).mono ?_
  rintro e w6 ⟨rfl, e1⟩
  have e1 := e1.symm
  subst e1
  have SS := hide (sameN N5.out.1.1 N5.out.1.2)
  rw [decide_eq_true rfl] at SS
  go_wp2_with fail
  refine SS.out.mono ?_
  rintro e w6 ⟨rfl, k6, rfl⟩
  have b6' : Below w5.heap.size w5 (w5.drewN k6) := below_drewN (Below.refl _ _) k6
  have b6 : Below w.heap.size w (w5.drewN k6) := b5.trans (b6'.mono b5.size)
  have G6 := hide (X5.out.2.bel b6')
  have N6 := hide (And.intro (N5.out.2.1.bel b6') (N5.out.2.2.bel b6'))
  clear SS X5 N5 b6' b5
  generalize w5.drewN k6 = w6 at *
  go_wp2_with fail
  refine (num_any _ _).mono ?_
  rintro e w7 ⟨rfl, e1⟩
  have e1 := e1.symm
  subst e1
  have SS := hide (sameN N6.out.1 N6.out.2)
  rw [decide_eq_true rfl] at SS
  go_wp2_with fail
  refine SS.out.mono ?_
  rintro e w7 ⟨rfl, k7, rfl⟩
  have b7' : Below w6.heap.size w6 (w6.drewN k7) := below_drewN (Below.refl _ _) k7
  have b7 : Below w.heap.size w (w6.drewN k7) := b6.trans (b7'.mono b6.size)
  have G7 := hide (G6.out.bel b7')
  clear SS N6 b7' b6 G6
  generalize w6.drewN k7 = w7 at *
  go_wp2_with fail
  refine (check_any _ _ _ _ _).mono ?_
  rintro e w8 ⟨rfl, e1⟩
  have e1 := e1.symm
  subst e1
  go_wp2_with fail
  refine (num_any _ _).mono ?_
  rintro e w8 ⟨rfl, e1⟩
  have e1 := e1.symm
  subst e1
  go_wp2_with fail
  refine (refcheck_any _ _ _ _ _).mono ?_
  rintro e w8 ⟨rfl, e1⟩
  have e1 := e1.symm
  subst e1
  go_wp2_with fail
  refine (intact_any _ _ _ _ _ _ w7 G7.out rfl).mono ?_
  rintro e w8 ⟨rfl, b8'⟩
  go_wp2
  go_ret
  exact ⟨rfl, b7.trans (b8'.mono b7.size)⟩
theorem makes_came (a : Option Addr) (n c : Nat) (nodes node x y : Int) (w : World) (h : Came w a n c) :
    Calls Try.prog 3 #[.slice a n c, .int .i64 nodes, .int .i64 node, .agg #[.int .u64 x, .int .u64 y]] w fun e w' => e = .returned (.bool true) ∧ Below w.heap.size w w' := by
  obtain ⟨D, l1, s1, hb, _⟩ := h
  exact makes_walk a n c D nodes node x y w ⟨l1, by rw [l1]; exact s1⟩ hb

end Go.Proofs.Ytcchnaldanibgaa
