import Derived.Test.YtcchnaldanibgaaXb
namespace Go.Proofs.Ytcchnaldanibgaa
open Go.RowKit
set_option linter.unusedVariables false
set_option linter.unusedSimpArgs false

/-- A list in a book: its block, its room, its length. -/
structure Ent where
  g : Nat
  c : Nat
  n : Nat
/-- The list's first m elements bear the marks of list i. -/
def Mk (w : World) (e : Ent) (i m : Nat) : Prop := ∃ D, D.length = e.n ∧ OwnD 0 w (.slice (some ⟨e.g, 0, none⟩) e.n e.c) D ∧ ∀ t, t < m → D[t]? = some (mkD i t)
theorem OwnD.upd2 {B : Nat} {S : Nat → Prop} {w w' : World} {v : Value} {l : List (Int × Int)} (h : OwnD B w v l) (u : Upd S w w') (hs : ∀ k, v.ownBlock = some k → ¬ S k) : OwnD B w' v l := by
  obtain ⟨h1, h2⟩ := h
  refine ⟨h1, ?_⟩
  rcases h2 with h2 | ⟨g, cap, cur, e1, e2, e3, r⟩
  · exact .inl h2
  · refine .inr ⟨g, cap, cur, e1, e2, ?_, r⟩
    have hlt : g < w.heap.size := by
      rcases Nat.lt_or_ge g w.heap.size with h' | h'
      · exact h'
      · rw [Array.getElem?_eq_none h'] at e3; cases e3
    rw [u.block g hlt (hs g (by rw [e1]; rfl))]
    exact e3
theorem Mk.upd {S : Nat → Prop} {w w' : World} {e : Ent} {i m : Nat} (h : Mk w e i m) (u : Upd S w w') (hs : ¬ S e.g) : Mk w' e i m := by
  obtain ⟨D, h1, h2, h3⟩ := h
  exact ⟨D, h1, h2.upd2 u (fun k hk => by cases hk; exact hs), h3⟩
theorem Mk.bel {w w' : World} {e : Ent} {i m : Nat} (h : Mk w e i m) (b : Below w.heap.size w w') : Mk w' e i m := h.upd (S := fun _ => False) (Upd.of_below b) id
theorem Mk.lt {w : World} {e : Ent} {i m : Nat} (h : Mk w e i m) : e.g < w.heap.size := by
  obtain ⟨D, h1, h2, h3⟩ := h
  exact (h2.blk e.g rfl).2
theorem Mk.cap {w : World} {e : Ent} {i m : Nat} (h : Mk w e i m) : e.n ≤ e.c ∧ e.c ≤ maxLen := by
  obtain ⟨D, h1, h2, h3⟩ := h
  obtain ⟨a, c, hf, k1, k2, _⟩ := h2.form
  injection hf with f1 f2 f3
  subst f3
  exact ⟨by omega, k2⟩
theorem Mk.zero {w : World} {e : Ent} {i m : Nat} (h : Mk w e i m) (j : Nat) : Mk w e j 0 := by
  obtain ⟨D, h1, h2, h3⟩ := h
  exact ⟨D, h1, h2, fun t ht => by omega⟩
theorem Mk.set {w : World} {e : Ent} {i m : Nat} (h : Mk w e i m) (hm : m < e.n) : Mk ((w.setCell ⟨e.g, m * 2, none⟩ (.int .u64 (mkD i m).1)).setCell ⟨e.g, m * 2 + 1, none⟩ (.int .u64 (mkD i m).2)) e i (m + 1) := by
  obtain ⟨D, h1, h2, h3⟩ := h
  refine ⟨D.set m (mkD i m), by rw [List.length_set, h1], h2.set m _ _, fun t ht => ?_⟩
  by_cases e1 : t = m
  · subst e1
    rw [List.getElem?_set_self (by omega)]
  · rw [List.getElem?_set_ne (by omega)]
    exact h3 t (by omega)
/-- What a book's list of lists is. -/
structure LB (w : World) (q : Nat) (L : List Ent) : Prop where
  lt : q < w.heap.size
  row : ∀ (i : Nat) (e : Ent), L[i]? = some e → w.cell? ⟨q, i, none⟩ = some (.slice (some ⟨e.g, 0, none⟩) e.n e.c)
  dif : ∀ (i j : Nat) (e f : Ent), L[i]? = some e → L[j]? = some f → e.g = f.g → i = j
  out : ∀ (i : Nat) (e : Ent), L[i]? = some e → e.g ≠ q ∧ 0 < e.n ∧ e.n ≤ 1000
  len : L.length ≤ 1000
/-- Its blocks. -/
def bls (L : List Ent) (k : Nat) : Prop := ∃ e, e ∈ L ∧ k = e.g
theorem LB.q {w : World} {q : Nat} {L : List Ent} (h : LB w q L) : ¬ bls L q := fun ⟨e, he, hk⟩ => by
  obtain ⟨i, hi⟩ := List.getElem?_of_mem he
  exact (h.out i e hi).1 hk.symm
theorem LB.upd {w w' : World} {q : Nat} {L : List Ent} (h : LB w q L) (u : Upd (bls L) w w') : LB w' q L :=
  ⟨Nat.lt_of_lt_of_le h.lt u.size, fun i e hi => (u.cell (p := ⟨q, i, none⟩) h.lt h.q).trans (h.row i e hi), h.dif, h.out, h.len⟩
theorem Mk.other {w : World} {e : Ent} {i m : Nat} (h : Mk w e i m) {p : Addr} (hp : e.g ≠ p.block) (u : Value) : Mk (w.setCell p u) e i m := by
  obtain ⟨D, h1, h2, h3⟩ := h
  exact ⟨D, h1, ownsRow_setCell_other h2 (fun e' => hp (Option.some.inj e')) u, h3⟩
/-- The number that a cell holds. -/
def cellOf (v : World) (p : Addr) : Int := intOf ((v.cell? p).getD undef)
theorem Mk.held {w v : World} {q : Nat} {L : List Ent} {j m k : Nat} {y : Ent} (h : LB w q L) (hy : L[j]? = some y) (u : Upd (bls L) w v) (hm : Mk v y j m) (hk : k < y.n) :
    Upd (bls L) w v ∧ v.cell? ⟨q, j, none⟩ = some (.slice (some ⟨y.g, 0, none⟩) y.n y.c) ∧ v.cell? ⟨y.g, k * 2, none⟩ = some (.int .u64 (cellOf v ⟨y.g, k * 2, none⟩)) ∧ v.cell? ⟨y.g, k * 2 + 1, none⟩ = some (.int .u64 (cellOf v ⟨y.g, k * 2 + 1, none⟩)) ∧ v.frozen? ⟨y.g, k * 2, none⟩ = false ∧ v.frozen? ⟨y.g, k * 2 + 1, none⟩ = false := by
  obtain ⟨D, d1, d2, d3⟩ := hm
  have hd : D[k]? = some (D[k]'(by omega)) := List.getElem?_eq_getElem (by omega)
  obtain ⟨e0, e1⟩ := d2.cell k _ hd
  refine ⟨u, (h.upd u).row j y hy, ?_, ?_, d2.free _, d2.free _⟩
  · unfold cellOf; rw [e0]; rfl
  · unfold cellOf; rw [e1]; rfl
theorem Upd.sets {S : Nat → Prop} {a w : World} (h : Upd S a w) {g : Nat} (hg : S g) (o o' : Nat) (x x' : Value) : Upd S a ((w.setCell ⟨g, o, none⟩ x).setCell ⟨g, o', none⟩ x') := (h.setCell (p := ⟨g, o, none⟩) (.inl hg) _).setCell (p := ⟨g, o', none⟩) (.inl hg) _
/-- The marks of list i, n of them. -/
def mkL (i n : Nat) : List (Int × Int) := (List.range n).map (mkD i)
theorem mkL_length (i n : Nat) : (mkL i n).length = n := by simp [mkL]
theorem mkL_succ (i n : Nat) : mkL i (n + 1) = mkL i n ++ [mkD i n] := by simp [mkL, List.range_succ]
theorem mkL_at (i n t : Nat) (h : t < n) : (mkL i n)[t]? = some (mkD i t) := by simp [mkL, h]
theorem mkL_of {i : Nat} {D : List (Int × Int)} (h : ∀ t, t < D.length → D[t]? = some (mkD i t)) : D = mkL i D.length := by
  apply List.ext_getElem?
  intro t
  by_cases ht : t < D.length
  · rw [h t ht, mkL_at _ _ _ ht]
  · rw [List.getElem?_eq_none (by omega), List.getElem?_eq_none (by rw [mkL_length]; omega)]
/-- The list shows its marks. -/
def Sh (w : World) (e : Ent) (i : Nat) : Prop := e.g < w.heap.size ∧ ∀ t, t < e.n → w.cell? ⟨e.g, t * 2, none⟩ = some (.int .u64 (mkD i t).1) ∧ w.cell? ⟨e.g, t * 2 + 1, none⟩ = some (.int .u64 (mkD i t).2)
theorem Sh.of {w : World} {e : Ent} {i n c : Nat} {D : List (Int × Int)} {B : Nat} (h : OwnD B w (.slice (some ⟨e.g, 0, none⟩) n c) D) (hD : ∀ t, t < e.n → D[t]? = some (mkD i t)) : Sh w e i :=
  ⟨(h.blk e.g rfl).2, fun t ht => h.cell t _ (hD t ht)⟩
theorem Sh.upd {S : Nat → Prop} {w w' : World} {e : Ent} {i : Nat} (h : Sh w e i) (u : Upd S w w') (hs : ¬ S e.g) : Sh w' e i :=
  ⟨Nat.lt_of_lt_of_le h.1 u.size, fun t ht => ⟨(u.cell (p := ⟨e.g, t * 2, none⟩) h.1 hs).trans (h.2 t ht).1, (u.cell (p := ⟨e.g, t * 2 + 1, none⟩) h.1 hs).trans (h.2 t ht).2⟩⟩
theorem Mk.sh {w : World} {e : Ent} {i : Nat} (h : Mk w e i e.n) : Sh w e i := by
  obtain ⟨D, h1, h2, h3⟩ := h
  exact Sh.of h2 h3
theorem Mk.own {w : World} {e : Ent} {i : Nat} (h : Mk w e i e.n) : OwnD 0 w (.slice (some ⟨e.g, 0, none⟩) e.n e.c) (mkL i e.n) := by
  obtain ⟨D, h1, h2, h3⟩ := h
  have := mkL_of (i := i) (D := D) (by rw [h1]; exact h3)
  rw [h1] at this
  rw [← this]
  exact h2
/-- What has grown. -/
theorem Upd.grownBy {S : Nat → Prop} {a w w' : World} {o : Option Nat} (h : Upd S a w) (hg : w.grownBy w' o) (ho : ∀ k, o = some k → k < a.heap.size → S k) : Upd S a w' := by
  have u := upd_grown hg (S := fun k => o = some k) (fun k hk => hk)
  exact ⟨u.os.trans h.os, u.tape.trans h.tape, u.output.trans h.output, Nat.le_trans h.size u.size, fun k hk hs => (u.block k (Nat.lt_of_lt_of_le hk h.size) (fun e => hs (ho k e hk))).trans (h.block k hk hs)⟩

end Go.Proofs.Ytcchnaldanibgaa
