import Derived.Test.YtcchnaldanibgaaXi
namespace Go.Proofs.Ytcchnaldanibgaa
open Go.RowKit
set_option linter.unusedVariables false
set_option linter.unusedSimpArgs false

set_option maxRecDepth 100000 in
theorem book_none (b : Nat) (a : Option Addr) (c : Nat) (w : World) :
    Calls Try.prog 34 #[.pointer (some ⟨b, 0, none⟩), .slice a 0 c] w fun e w' => e = .returned (.tuple #[]) ∧ w' = w := by
  go_enter Try.func34, Try.ntmps34
  go_wp2
  go_end0
  exact ⟨rfl, rfl⟩
set_option maxRecDepth 100000 in
theorem bookints_none (b : Nat) (a : Option Addr) (c : Nat) (w : World) :
    Calls Try.prog 35 #[.pointer (some ⟨b, 0, none⟩), .slice a 0 c] w fun e w' => e = .returned (.tuple #[]) ∧ w' = w := by
  go_enter Try.func35, Try.ntmps35
  go_wp2
  go_end0
  exact ⟨rfl, rfl⟩
set_option maxRecDepth 100000 in
set_option maxHeartbeats 1000000 in
theorem book_vec (b B : Nat) (v1 v2 : Value) (J : List VecJ) (V : List Vec) (x : Vec) (n : Nat) (w : World) (G : BX w b B v1 v2 J V) (hn : x.D.length = n) (hx : OwnD B w (.slice x.a n x.c) x.D) (h0 : 0 < n) (h1 : n ≤ 1000) (hne : ∀ y, y ∈ V → y.a ≠ x.a) (hV : V.length ≤ 1000) :
    Calls Try.prog 34 #[.pointer (some ⟨b, 0, none⟩), .slice x.a n x.c] w fun e w' => ∃ v2', e = .returned (.tuple #[]) ∧ BX w' b B v1 v2' J (V ++ [x]) ∧ Upd (fun k => k = b ∨ v2.ownBlock = some k) w w' := by
  have ba : Below w.heap.size w (w.alloc (.cells #[.slice x.a n x.c] 23)) := (Below.refl _ _).alloc (Nat.le_refl _) _
  have GA := hide (G.bel ba)
  have hbw : b < w.heap.size := Nat.lt_of_lt_of_le G.lt G.ltB
  have y2 : ∀ ob, (w.alloc ob).cell? ⟨b, 2, none⟩ = some v2 := fun ob => (World.cell?_alloc_past _ _ _ hbw).trans G.c2
  have y0 := G.c2
  have XA := hide (hx.bel ba (Nat.le_refl _))
  have HN := hide hn
  have hB := G.ltB
  have hlt := G.lt
  clear G hx hn
  go_enter Try.func34, Try.ntmps34
  go_wp2_with (at_builtin; go_must (refine app_vec _ rfl _ _ rfl B V v2 rfl ⟨w.heap.size, 0, none⟩ rfl x (by rw [HN.out]; simp) GA.out.o2 (by simp; omega) (by omega) ?_))
  intro v2' w3 o3 g3
  have zc := grown_cell g3 GA.out.c2 (fun e => by have := (GA.out.o2.blk b e).1; omega)
  have zf := grown_frozen g3 (by simp; omega) GA.out.f2 (fun e => by have := (GA.out.o2.blk b e).1; omega)
  have G4 := hide (BX.pushV (x := x) GA.out (by rw [HN.out]; exact XA.out) (by rw [HN.out]; exact h0) (by rw [HN.out]; exact h1) hne g3 o3)
  have U4 : Hid (Upd (fun k => k = b ∨ v2.ownBlock = some k) w (w3.setCell ⟨b, 2, none⟩ v2')) := ((Upd.of_below ba).trans (upd_grown g3 (fun k e => .inr e))).setCell (.inl (.inl rfl)) _
  obtain ⟨r2, q2, hv2, _⟩ := o3.form (by simp)
  clear GA XA o3 g3 ba
  generalize (V ++ [x]).length = l2 at hv2
  subst hv2
  go_wp2
  go_end0
  exact ⟨_, rfl, G4.out, U4.out⟩
set_option maxRecDepth 100000 in
set_option maxHeartbeats 1000000 in
theorem book_ints (b B : Nat) (v1 v2 : Value) (J : List VecJ) (V : List Vec) (x : VecJ) (n : Nat) (w : World) (G : BX w b B v1 v2 J V) (hn : x.D.length = n) (hx : OwnJ B w (.slice x.a n x.c) x.D) (h0 : 0 < n) (h1 : n ≤ 1000) (hne : ∀ y, y ∈ J → y.a ≠ x.a) (hV : J.length ≤ 1000) :
    Calls Try.prog 35 #[.pointer (some ⟨b, 0, none⟩), .slice x.a n x.c] w fun e w' => ∃ v1', e = .returned (.tuple #[]) ∧ BX w' b B v1' v2 (J ++ [x]) V ∧ Upd (fun k => k = b ∨ v1.ownBlock = some k) w w' := by
  have ba : Below w.heap.size w (w.alloc (.cells #[.slice x.a n x.c] 62)) := (Below.refl _ _).alloc (Nat.le_refl _) _
  have GA := hide (G.bel ba)
  have hbw : b < w.heap.size := Nat.lt_of_lt_of_le G.lt G.ltB
  have y2 : ∀ ob, (w.alloc ob).cell? ⟨b, 1, none⟩ = some v1 := fun ob => (World.cell?_alloc_past _ _ _ hbw).trans G.c1
  have y0 := G.c1
  have XA := hide (hx.bel ba (Nat.le_refl _))
  have HN := hide hn
  have hB := G.ltB
  have hlt := G.lt
  clear G hx hn
  go_enter Try.func35, Try.ntmps35
  go_wp2_with (at_builtin; go_must (refine app_vecJ _ rfl _ _ rfl B J v1 rfl ⟨w.heap.size, 0, none⟩ rfl x (by rw [HN.out]; simp) GA.out.o1 (by simp; omega) (by omega) ?_))
  intro v1' w3 o3 g3
  have zc := grown_cell g3 GA.out.c1 (fun e => by have := (GA.out.o1.blk b e).1; omega)
  have zf := grown_frozen g3 (by simp; omega) GA.out.f1 (fun e => by have := (GA.out.o1.blk b e).1; omega)
  have G4 := hide (BX.pushJ (x := x) GA.out (by rw [HN.out]; exact XA.out) (by rw [HN.out]; exact h0) (by rw [HN.out]; exact h1) hne g3 o3)
  have U4 : Hid (Upd (fun k => k = b ∨ v1.ownBlock = some k) w (w3.setCell ⟨b, 1, none⟩ v1')) := ((Upd.of_below ba).trans (upd_grown g3 (fun k e => .inr e))).setCell (.inl (.inl rfl)) _
  obtain ⟨r2, q2, hv2, _, _, hr2⟩ := o3.form'
  obtain ⟨g2, rfl, _⟩ := hr2 (by simp)
  clear GA XA o3 g3 ba
  generalize (J ++ [x]).length = l2 at hv2
  subst hv2
  go_wp2
  go_end0
  exact ⟨_, rfl, G4.out, U4.out⟩

end Go.Proofs.Ytcchnaldanibgaa
