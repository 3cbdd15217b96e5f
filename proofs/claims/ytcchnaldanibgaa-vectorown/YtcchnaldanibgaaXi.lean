import Derived.Test.YtcchnaldanibgaaXh
namespace Go.Proofs.Ytcchnaldanibgaa
open Go.RowKit
set_option linter.unusedVariables false
set_option linter.unusedSimpArgs false

/-- Rows of two kinds of elements are two. -/
theorem rows_ne {w : World} {B B' s s' n n' : Nat} {e e' : TypeId} {v v' : Value} {xs xs' : List Value} {k : Nat} (h : w.ownsRow B e s v n xs) (h' : w.ownsRow B' e' s' v' n' xs') (hne : e ≠ e') (e1 : v.ownBlock = some k) (e2 : v'.ownBlock = some k) : False := by
  rcases h.2 with ⟨rfl, _⟩ | ⟨g, cap, cur, rfl, _, hg, _⟩
  · cases e1
  · rcases h'.2 with ⟨rfl, _⟩ | ⟨g', cap', cur', rfl, _, hg', _⟩
    · cases e2
    · cases e1
      cases e2
      rw [hg] at hg'
      cases hg'
      exact hne rfl
theorem kept_ne {w w' : World} {B B' s s' n n' : Nat} {e e' : TypeId} {v v' : Value} {xs xs' : List Value} (h : w.ownsRow B e s v n xs) (h' : w.ownsRow B' e' s' v' n' xs') (hne : e ≠ e') (hg : w.grownBy w' v'.ownBlock) : w'.ownsRow B e s v n xs := by
  refine World.ownsRow.kept h hg ?_
  cases e1 : v.ownBlock with
  | none => exact .inl rfl
  | some k => exact .inr (fun e2 => rows_ne h h' hne e1 e2.symm)
/-- A book at block b that holds numbers (J) and vectors (V). -/
structure BX (w : World) (b B : Nat) (v1 v2 : Value) (J : List VecJ) (V : List Vec) : Prop where
  lt : b < B
  ltB : B ≤ w.heap.size
  nils : ∀ i, i = 0 ∨ (3 ≤ i ∧ i ≤ 9) → w.cell? ⟨b, i, none⟩ = some (.slice none 0 0)
  c1 : w.cell? ⟨b, 1, none⟩ = some v1
  c2 : w.cell? ⟨b, 2, none⟩ = some v2
  f1 : w.frozen? ⟨b, 1, none⟩ = false
  f2 : w.frozen? ⟨b, 2, none⟩ = false
  o1 : OwnVJ B w v1 J
  o2 : OwnV B w v2 V
  ej : ∀ x, x ∈ J → OwnJ B w (.slice x.a x.D.length x.c) x.D ∧ 0 < x.D.length ∧ x.D.length ≤ 1000
  ev : ∀ x, x ∈ V → OwnD B w (.slice x.a x.D.length x.c) x.D ∧ 0 < x.D.length ∧ x.D.length ≤ 1000
  dj : ∀ (i j : Nat) (x y : VecJ), J[i]? = some x → J[j]? = some y → x.a = y.a → i = j
  dv : ∀ (i j : Nat) (x y : Vec), V[i]? = some x → V[j]? = some y → x.a = y.a → i = j
theorem BX.bel {w w' : World} {b B : Nat} {v1 v2 : Value} {J : List VecJ} {V : List Vec} (h : BX w b B v1 v2 J V) (hb : Below w.heap.size w w') : BX w' b B v1 v2 J V := by
  have hlt : b < w.heap.size := Nat.lt_of_lt_of_le h.lt h.ltB
  exact ⟨h.lt, Nat.le_trans h.ltB hb.size, fun i hi => (hb.cell (p := ⟨b, i, none⟩) hlt).trans (h.nils i hi), (hb.cell (p := ⟨b, 1, none⟩) hlt).trans h.c1, (hb.cell (p := ⟨b, 2, none⟩) hlt).trans h.c2, (hb.frozen (p := ⟨b, 1, none⟩) hlt).trans h.f1, (hb.frozen (p := ⟨b, 2, none⟩) hlt).trans h.f2,
    h.o1.bel hb (Nat.le_refl _), h.o2.bel hb (Nat.le_refl _), fun x hx => ⟨(h.ej x hx).1.bel hb (Nat.le_refl _), (h.ej x hx).2⟩, fun x hx => ⟨(h.ev x hx).1.bel hb (Nat.le_refl _), (h.ev x hx).2⟩, h.dj, h.dv⟩
/-- A new book. -/
theorem BX.new (w : World) (t : TypeId) : BX (w.alloc (.cells #[.slice none 0 0, .slice none 0 0, .slice none 0 0, .slice none 0 0, .slice none 0 0, .slice none 0 0, .slice none 0 0, .slice none 0 0, .slice none 0 0, .slice none 0 0] t)) w.heap.size (w.heap.size + 1) (.slice none 0 0) (.slice none 0 0) [] [] :=
  ⟨Nat.lt_succ_self _, by simp, fun i hi => by
    rcases hi with rfl | ⟨h3, h9⟩
    · simp
    · obtain rfl | rfl | rfl | rfl | rfl | rfl | rfl : i = 3 ∨ i = 4 ∨ i = 5 ∨ i = 6 ∨ i = 7 ∨ i = 8 ∨ i = 9 := by omega
      all_goals simp, by simp, by simp, by simp, by simp, OwnVJ.nil _ _, OwnV.nil _ _, (fun p hp => by cases hp), (fun p hp => by cases hp), (fun i j x y hx => by cases hx), (fun i j x y hx => by cases hx)⟩
theorem dif_push {α : Type} {L : List α} {f : α → Option Addr} {x : α} (h : ∀ (i j : Nat) (x y : α), L[i]? = some x → L[j]? = some y → f x = f y → i = j) (hx : ∀ y, y ∈ L → f y ≠ f x) : ∀ (i j : Nat) (y z : α), (L ++ [x])[i]? = some y → (L ++ [x])[j]? = some z → f y = f z → i = j := by
  have two : ∀ (i : Nat) (y : α), (L ++ [x])[i]? = some y → (L[i]? = some y) ∨ (i = L.length ∧ y = x) := fun i y hy => by
    by_cases hi : i < L.length
    · rw [List.getElem?_append_left hi] at hy
      exact .inl hy
    · rw [List.getElem?_append_right (by omega)] at hy
      have : i - L.length = 0 := by
        have := (List.getElem?_eq_some_iff.1 hy).1
        simp at this
        omega
      rw [this] at hy
      simp at hy
      exact .inr ⟨by omega, hy.symm⟩
  intro i j y z hy hz e
  rcases two i y hy with h1 | ⟨h1, rfl⟩ <;> rcases two j z hz with h2 | ⟨h2, rfl⟩
  · exact h i j y z h1 h2 e
  · exact absurd e (hx y (List.mem_of_getElem? h1))
  · exact absurd e.symm (hx z (List.mem_of_getElem? h2))
  · omega
theorem BX.pushV {w w3 : World} {b B : Nat} {v1 v2 v2' : Value} {J : List VecJ} {V : List Vec} {x : Vec} (G : BX w b B v1 v2 J V) (hx : OwnD B w (.slice x.a x.D.length x.c) x.D) (h0 : 0 < x.D.length) (h1 : x.D.length ≤ 1000) (hne : ∀ y, y ∈ V → y.a ≠ x.a) (g3 : w.grownBy w3 v2.ownBlock) (o3 : OwnV B w3 v2' (V ++ [x])) :
    BX (w3.setCell ⟨b, 2, none⟩ v2') b B v1 v2' J (V ++ [x]) := by
  have hlt : b < w.heap.size := Nat.lt_of_lt_of_le G.lt G.ltB
  have hrow : v2.ownBlock ≠ some b := fun e => by have := (G.o2.blk b e).1; have := G.lt; omega
  have ob : (⟨b, 2, none⟩ : Addr).block < B := G.lt
  refine ⟨G.lt, by simpa [World.setCell] using Nat.le_trans G.ltB g3.size, fun i hi => cell_set (grown_cell g3 (G.nils i hi) hrow) (by omega), cell_set (grown_cell g3 G.c1 hrow) (by omega), cell_put (grown_cell g3 G.c2 hrow), frozen_set (grown_frozen g3 hlt G.f1 hrow), frozen_set (grown_frozen g3 hlt G.f2 hrow), ownsRow_setCell_below (kept_ne G.o1 G.o2 (by decide) g3) ob _, o3.low_set ob _, fun y hy => ⟨ownsRow_setCell_below (kept_ne (G.ej y hy).1 G.o2 (by decide) g3) ob _, (G.ej y hy).2⟩, fun y hy => ?_, G.dj, dif_push (f := Vec.a) G.dv hne⟩
  rcases List.mem_append.1 hy with hy | hy
  · exact ⟨((G.ev y hy).1.grownV G.o2 g3).low_set ob _, (G.ev y hy).2⟩
  · simp at hy
    subst hy
    exact ⟨(hx.grownV G.o2 g3).low_set ob _, h0, h1⟩
theorem BX.pushJ {w w3 : World} {b B : Nat} {v1 v2 v1' : Value} {J : List VecJ} {V : List Vec} {x : VecJ} (G : BX w b B v1 v2 J V) (hx : OwnJ B w (.slice x.a x.D.length x.c) x.D) (h0 : 0 < x.D.length) (h1 : x.D.length ≤ 1000) (hne : ∀ y, y ∈ J → y.a ≠ x.a) (g3 : w.grownBy w3 v1.ownBlock) (o3 : OwnVJ B w3 v1' (J ++ [x])) :
    BX (w3.setCell ⟨b, 1, none⟩ v1') b B v1' v2 (J ++ [x]) V := by
  have hlt : b < w.heap.size := Nat.lt_of_lt_of_le G.lt G.ltB
  have hrow : v1.ownBlock ≠ some b := fun e => by have := (G.o1.blk b e).1; have := G.lt; omega
  have ob : (⟨b, 1, none⟩ : Addr).block < B := G.lt
  refine ⟨G.lt, by simpa [World.setCell] using Nat.le_trans G.ltB g3.size, fun i hi => cell_set (grown_cell g3 (G.nils i hi) hrow) (by omega), cell_put (grown_cell g3 G.c1 hrow), cell_set (grown_cell g3 G.c2 hrow) (by omega), frozen_set (grown_frozen g3 hlt G.f1 hrow), frozen_set (grown_frozen g3 hlt G.f2 hrow), ownsRow_setCell_below o3 ob _, ownsRow_setCell_below (kept_ne G.o2 G.o1 (by decide) g3) ob _, fun y hy => ?_, fun y hy => ⟨ownsRow_setCell_below (kept_ne (G.ev y hy).1 G.o1 (by decide) g3) ob _, (G.ev y hy).2⟩, dif_push (f := VecJ.a) G.dj hne, G.dv⟩
  rcases List.mem_append.1 hy with hy | hy
  · exact ⟨ownsRow_setCell_below (kept_ne (G.ej y hy).1 G.o1 (by decide) g3) ob _, (G.ej y hy).2⟩
  · simp at hy
    subst hy
    exact ⟨ownsRow_setCell_below (kept_ne hx G.o1 (by decide) g3) ob _, h0, h1⟩

end Go.Proofs.Ytcchnaldanibgaa
