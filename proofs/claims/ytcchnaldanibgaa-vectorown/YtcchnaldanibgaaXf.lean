import Derived.Test.YtcchnaldanibgaaXe
import Derived.Test.YtcchnaldanibgaaXd
namespace Go.Proofs.Ytcchnaldanibgaa
open Go.RowKit
set_option linter.unusedVariables false
set_option linter.unusedSimpArgs false

/-- A slice of numbers. -/
structure VecJ where
  a : Option Addr
  c : Nat
  D : List Int
def VecJ.v (y : VecJ) : Value := .slice y.a y.D.length y.c
def OwnVJ (B : Nat) (w : World) (v : Value) (L : List VecJ) : Prop := w.ownsRow B 62 1 v L.length (L.map VecJ.v)
theorem OwnVJ.nil (B : Nat) (w : World) : OwnVJ B w (.slice none 0 0) [] := World.ownsRow_nil w B 62 1
theorem OwnVJ.upd {B : Nat} {S : Nat → Prop} {w w' : World} {v : Value} {l : List VecJ} (h : OwnVJ B w v l) (u : Upd S w w') (hs : ∀ k, B ≤ k → ¬ S k) : OwnVJ B w' v l := by
  obtain ⟨h1, h2⟩ := h
  refine ⟨h1, ?_⟩
  rcases h2 with h2 | ⟨g, cap, cur, e1, e2, e3, r⟩
  · exact .inl h2
  · refine .inr ⟨g, cap, cur, e1, e2, ?_, r⟩
    have hlt : g < w.heap.size := by
      rcases Nat.lt_or_ge g w.heap.size with h' | h'
      · exact h'
      · rw [Array.getElem?_eq_none h'] at e3; cases e3
    rw [u.block g hlt (hs g e2)]
    exact e3
theorem OwnVJ.bel {B : Nat} {w w' : World} {v : Value} {l : List VecJ} (h : OwnVJ B w v l) {B' : Nat} (hb : Below B' w w') (hB : w.heap.size ≤ B') : OwnVJ B w' v l :=
  h.upd (S := fun _ => False) (Upd.of_below (hb.mono hB)) (fun _ _ => id)
theorem OwnVJ.form' {B : Nat} {w : World} {v : Value} {l : List VecJ} (h : OwnVJ B w v l) : ∃ a c, v = .slice a l.length c ∧ l.length ≤ c ∧ c ≤ maxLen ∧ (l ≠ [] → ∃ g, a = some ⟨g, 0, none⟩ ∧ B ≤ g ∧ g < w.heap.size) := by
  rcases h.2 with ⟨e1, e2⟩ | ⟨g, cap, cur, e1, e2, e3, e4, e5, _⟩
  · exact ⟨none, 0, by rw [e1, e2], by omega, by unfold maxLen; omega, fun h => absurd (List.eq_nil_of_length_eq_zero e2) h⟩
  · refine ⟨_, cap, e1, e4, e5, fun _ => ⟨g, rfl, e2, ?_⟩⟩
    rcases Nat.lt_or_ge g w.heap.size with h' | h'
    · exact h'
    · rw [Array.getElem?_eq_none h'] at e3; cases e3
theorem OwnVJ.cell {B : Nat} {w : World} {g n c : Nat} {l : List VecJ} (h : OwnVJ B w (.slice (some ⟨g, 0, none⟩) n c) l) (i : Nat) (y : VecJ) (hd : l[i]? = some y) : w.cell? ⟨g, i, none⟩ = some (.slice y.a y.D.length y.c) := by
  have h0 := World.ownsRow.cells h (g := g) rfl i (VecJ.v y) (by rw [List.getElem?_map, hd]; rfl)
  rw [Addr.add_lit, Nat.zero_add] at h0
  exact h0
theorem OwnVJ.blk {B : Nat} {w : World} {v : Value} {L : List VecJ} (h : OwnVJ B w v L) : ∀ k, v.ownBlock = some k → B ≤ k ∧ k < w.heap.size := World.ownsRow.lt h
theorem info_ints : (Try.prog.info? 62).map (fun i => (i.zero, i.size, i.bytes)) = some (some (.slice none 0 0), 1, 24) := by kernel_rfl
theorem app_vecJ (w : World) {ops : Array Oper} {rest : List Oper} {o : Oper} {a : Act} {Q : Exit → Act → World → Prop} (hgd : o.guard = none) (s x : Operand)
    (ho : o.op = .call { callee := .builtin .append, args := #[s, x], argTypes := #[30, 30] }) (B : Nat) (L : List VecJ) (v : Value) (hs : a.eval s = v)
    (ad : Addr) (hx : a.eval x = .slice (some ad) 1 1) (y : VecJ) (hc : w.cell? ad = some (.slice y.a y.D.length y.c)) (hown : OwnVJ B w v L) (hB : B ≤ w.heap.size) (hb : (L.length + 1) * 24 ≤ 140737488355328)
    (hk : ∀ v' w', OwnVJ B w' v' (L ++ [y]) → w.grownBy w' v.ownBlock → wpList Try.prog ops Q rest (a.put o.dst v') w') : wpList Try.prog ops Q (o :: rest) a w := by
  refine wpList_plain hgd fun K hK => ?_
  obtain ⟨i0, hi, hz0, hz1, hz2⟩ := info_parts info_ints
  obtain ⟨v', w', hr, h2, h3, h4⟩ := run_append_own (P := Try.prog) w B 30 o.type 62 i0 (.slice none 0 0) 1 24 Try.underlying30 hi hz0 hz1 hz2 rfl (by decide) v L.length (L.map VecJ.v) hown ad 1 1 [VecJ.v y] rfl (by
    intro j u hu
    match j, hu with
    | 0, hu => simp at hu; subst hu; obtain ⟨b, o, s⟩ := ad; exact hc
    | j + 1, hu => simp at hu) (by intro u hu; simp at hu; subst hu; rfl) (by unfold maxLen; omega) hb hB
  unfold Oper.wp execOp
  simp only [ho, resolve, invoke, builtin, Sem.run_bind, Sem.run_pure, Result.andThen_ok, List.map_toArray, List.map_cons, List.map_nil, hs, hx, hr]
  refine hK _ _ (hk v' w' ?_ h3)
  unfold OwnVJ
  rw [List.map_append, List.length_append]
  exact h2
theorem rowsJ_apart {B B' : Nat} {w : World} {v v' : Value} {D : List Int} {L : List VecJ} {k : Nat} (h : OwnJ B w v D) (h' : OwnVJ B' w v' L) (e : v.ownBlock = some k) (e' : v'.ownBlock = some k) : False := by
  rcases h.2 with ⟨rfl, _⟩ | ⟨g, cap, cur, rfl, _, hg, _⟩
  · cases e
  · rcases h'.2 with ⟨rfl, _⟩ | ⟨g', cap', cur', rfl, _, hg', _⟩
    · cases e'
    · cases e
      cases e'
      rw [hg] at hg'
      cases hg'
theorem OwnJ.grownV {B B' : Nat} {w w' : World} {v v2 : Value} {D : List Int} {L : List VecJ} (h : OwnJ B w v D) (hv : OwnVJ B' w v2 L) (hg : w.grownBy w' v2.ownBlock) : OwnJ B w' v D := by
  refine World.ownsRow.kept h hg ?_
  cases e : v.ownBlock with
  | none => exact .inl rfl
  | some k => exact .inr (fun e' => rowsJ_apart h hv e e'.symm)
/-- The list's first m elements bear the marks of list i. -/
def MkJ (w : World) (e : Ent) (i m : Nat) : Prop := ∃ D, D.length = e.n ∧ OwnJ 0 w (.slice (some ⟨e.g, 0, none⟩) e.n e.c) D ∧ ∀ t, t < m → D[t]? = some (mkJ i t)
theorem MkJ.upd {S : Nat → Prop} {w w' : World} {e : Ent} {i m : Nat} (h : MkJ w e i m) (u : Upd S w w') (hs : ¬ S e.g) : MkJ w' e i m := by
  obtain ⟨D, h1, h2, h3⟩ := h
  exact ⟨D, h1, h2.upd2 u (fun k hk => by cases hk; exact hs), h3⟩
theorem MkJ.bel {w w' : World} {e : Ent} {i m : Nat} (h : MkJ w e i m) (b : Below w.heap.size w w') : MkJ w' e i m := h.upd (S := fun _ => False) (Upd.of_below b) id
theorem MkJ.lt {w : World} {e : Ent} {i m : Nat} (h : MkJ w e i m) : e.g < w.heap.size := by
  obtain ⟨D, h1, h2, h3⟩ := h
  exact (h2.blk e.g rfl).2
theorem MkJ.cap {w : World} {e : Ent} {i m : Nat} (h : MkJ w e i m) : e.n ≤ e.c ∧ e.c ≤ maxLen := by
  obtain ⟨D, h1, h2, h3⟩ := h
  obtain ⟨a, c, hf, k1, k2, _⟩ := h2.form
  injection hf with f1 f2 f3
  subst f3
  exact ⟨by omega, k2⟩
theorem MkJ.zero {w : World} {e : Ent} {i m : Nat} (h : MkJ w e i m) (j : Nat) : MkJ w e j 0 := by
  obtain ⟨D, h1, h2, h3⟩ := h
  exact ⟨D, h1, h2, fun t ht => by omega⟩
theorem MkJ.set {w : World} {e : Ent} {i m : Nat} (h : MkJ w e i m) (hm : m < e.n) : MkJ (w.setCell ⟨e.g, m, none⟩ (.int .i64 (mkJ i m))) e i (m + 1) := by
  obtain ⟨D, h1, h2, h3⟩ := h
  refine ⟨D.set m (mkJ i m), by rw [List.length_set, h1], h2.set m _, fun t ht => ?_⟩
  by_cases e1 : t = m
  · subst e1
    rw [List.getElem?_set_self (by omega)]
  · rw [List.getElem?_set_ne (by omega)]
    exact h3 t (by omega)
theorem MkJ.other {w : World} {e : Ent} {i m : Nat} (h : MkJ w e i m) {p : Addr} (hp : e.g ≠ p.block) (u : Value) : MkJ (w.setCell p u) e i m := by
  obtain ⟨D, h1, h2, h3⟩ := h
  exact ⟨D, h1, ownsRow_setCell_other h2 (fun e' => hp (Option.some.inj e')) u, h3⟩
theorem MkJ.held {w v : World} {q : Nat} {L : List Ent} {j m k : Nat} {y : Ent} (h : LB w q L) (hy : L[j]? = some y) (u : Upd (bls L) w v) (hm : MkJ v y j m) (hk : k < y.n) :
    Upd (bls L) w v ∧ v.cell? ⟨q, j, none⟩ = some (.slice (some ⟨y.g, 0, none⟩) y.n y.c) ∧ v.cell? ⟨y.g, k, none⟩ = some (.int .i64 (cellOf v ⟨y.g, k, none⟩)) ∧ v.frozen? ⟨y.g, k, none⟩ = false := by
  obtain ⟨D, d1, d2, d3⟩ := hm
  have hd : D[k]? = some (D[k]'(by omega)) := List.getElem?_eq_getElem (by omega)
  have e0 := d2.cell k _ hd
  refine ⟨u, (h.upd u).row j y hy, ?_, d2.free _⟩
  unfold cellOf; rw [e0]; rfl
def mkLJ (i n : Nat) : List Int := (List.range n).map (mkJ i)
theorem mkLJ_length (i n : Nat) : (mkLJ i n).length = n := by simp [mkLJ]
theorem mkLJ_succ (i n : Nat) : mkLJ i (n + 1) = mkLJ i n ++ [mkJ i n] := by simp [mkLJ, List.range_succ]
theorem mkLJ_at (i n t : Nat) (h : t < n) : (mkLJ i n)[t]? = some (mkJ i t) := by simp [mkLJ, h]
theorem mkLJ_of {i : Nat} {D : List Int} (h : ∀ t, t < D.length → D[t]? = some (mkJ i t)) : D = mkLJ i D.length := by
  apply List.ext_getElem?
  intro t
  by_cases ht : t < D.length
  · rw [h t ht, mkLJ_at _ _ _ ht]
  · rw [List.getElem?_eq_none (by omega), List.getElem?_eq_none (by rw [mkLJ_length]; omega)]
theorem mkLJ_ne {i n : Nat} (h : 0 < n) : mkLJ i n ≠ [] := fun e => by
  have := congrArg List.length e
  rw [mkLJ_length] at this
  simp at this
  omega
/-- The list shows its marks. -/
def ShJ (w : World) (e : Ent) (i : Nat) : Prop := e.g < w.heap.size ∧ ∀ t, t < e.n → w.cell? ⟨e.g, t, none⟩ = some (.int .i64 (mkJ i t))
theorem ShJ.of {w : World} {e : Ent} {i n c : Nat} {D : List Int} {B : Nat} (h : OwnJ B w (.slice (some ⟨e.g, 0, none⟩) n c) D) (hD : ∀ t, t < e.n → D[t]? = some (mkJ i t)) : ShJ w e i :=
  ⟨(h.blk e.g rfl).2, fun t ht => h.cell t _ (hD t ht)⟩
theorem ShJ.upd {S : Nat → Prop} {w w' : World} {e : Ent} {i : Nat} (h : ShJ w e i) (u : Upd S w w') (hs : ¬ S e.g) : ShJ w' e i :=
  ⟨Nat.lt_of_lt_of_le h.1 u.size, fun t ht => (u.cell (p := ⟨e.g, t, none⟩) h.1 hs).trans (h.2 t ht)⟩
theorem MkJ.sh {w : World} {e : Ent} {i : Nat} (h : MkJ w e i e.n) : ShJ w e i := by
  obtain ⟨D, h1, h2, h3⟩ := h
  exact ShJ.of h2 h3
theorem MkJ.own {w : World} {e : Ent} {i : Nat} (h : MkJ w e i e.n) : OwnJ 0 w (.slice (some ⟨e.g, 0, none⟩) e.n e.c) (mkLJ i e.n) := by
  obtain ⟨D, h1, h2, h3⟩ := h
  have := mkLJ_of (i := i) (D := D) (by rw [h1]; exact h3)
  rw [h1] at this
  rw [← this]
  exact h2
/-- Behind the growing of the first j lists (w2: the world ahead of it). -/
structure PGJ (w : World) (L : List Ent) (w2 : World) (j : Nat) (v : Value) (Gs : List VecJ) (ws : World) : Prop where
  len : Gs.length = j
  own : OwnVJ w2.heap.size ws v Gs
  upd : Upd (bls L) w ws
  size : w2.heap.size ≤ ws.heap.size
  each : ∀ (t : Nat) (x : VecJ), Gs[t]? = some x → ∃ e g', L[t]? = some e ∧ x.D = mkLJ t (e.n + 70) ∧ x.a = some ⟨g', 0, none⟩ ∧ (g' = e.g ∨ w2.heap.size ≤ g') ∧ OwnJ 0 ws (.slice (some ⟨g', 0, none⟩) x.D.length x.c) x.D
  mks : ∀ (t : Nat) (e : Ent), L[t]? = some e → ShJ ws e t ∧ (j ≤ t → MkJ ws e t e.n)
/-- Behind m growings of one list. -/
structure PIJ (wi : World) (y : Ent) (t m : Nat) (v : Value) (ws : World) : Prop where
  own : OwnJ 0 ws v (mkLJ t (y.n + m))
  at_ : ∃ g, v.ownBlock = some g ∧ (g = y.g ∨ wi.heap.size ≤ g)
  upd : Upd (· = y.g) wi ws
  sh : ShJ ws y t
theorem PIJ.step {wi : World} {y : Ent} {t m : Nat} {v v' : Value} {wr wa w' : World} (h : PIJ wi y t m v wr) (b : Below wr.heap.size wr wa) (o : OwnJ 0 w' v' (mkLJ t (y.n + m) ++ [mkJ t (y.n + m)])) (hg : wa.grownBy w' v.ownBlock) (ha : v'.ownBlock = v.ownBlock ∨ ∃ k, v'.ownBlock = some k ∧ wa.heap.size ≤ k ∧ Below wa.heap.size wa w') : PIJ wi y t (m + 1) v' w' := by
  have o2 : OwnJ 0 w' v' (mkLJ t (y.n + m + 1)) := by rw [mkLJ_succ]; exact o
  obtain ⟨g, e1, e2⟩ := h.at_
  have ua : Upd (· = y.g) wi wa := h.upd.trans (Upd.of_below b)
  have sa : ShJ wa y t := h.sh.upd (S := fun _ => False) (Upd.of_below b) id
  refine ⟨o2, ?_, ua.grownBy hg (fun k hk hlt => ?_), ?_⟩
  · rcases ha with ha | ⟨k, k1, k2, _⟩
    · exact ⟨g, ha.trans e1, e2⟩
    · exact ⟨k, k1, .inr (Nat.le_trans ua.size k2)⟩
  · rw [e1] at hk
    cases hk
    rcases e2 with e2 | e2
    · exact e2
    · omega
  · rcases ha with ha | ⟨k, k1, k2, k3⟩
    · by_cases hgy : g = y.g
      · subst hgy
        obtain ⟨a, c, hf, _⟩ := o2.form
        rw [e1] at ha
        subst hf
        match a, ha with
        | some x, ha =>
          obtain ⟨a', c', hf', _, _, _, hx⟩ := o2.form
          injection hf' with f1 f2 f3
          obtain ⟨g2, hx2, _⟩ := hx x f1.symm
          subst hx2
          have : g2 = y.g := Option.some.inj ha
          subst this
          exact ShJ.of o2 (fun t' ht' => mkLJ_at _ _ _ (by omega))
      · exact sa.upd (upd_grown hg (S := fun k => v.ownBlock = some k) (fun k hk => hk)) (fun e => by rw [e1] at e; exact hgy (Option.some.inj e))
    · exact sa.upd (S := fun _ => False) (Upd.of_below k3) id
theorem PGJ.step {w : World} {L : List Ent} {w2 : World} {t : Nat} {v v' : Value} {Gs : List VecJ} {wi wr wa w' : World} {y : Ent} {g c n : Nat} (h : PGJ w L w2 t v Gs wi) (p : PIJ wi y t 70 (.slice (some ⟨g, 0, none⟩) n c) wr) (hy : L[t]? = some y) (YL : ∀ (s : Nat) (e : Ent), L[s]? = some e → e.g < w2.heap.size) (dif : ∀ (i j : Nat) (e f : Ent), L[i]? = some e → L[j]? = some f → e.g = f.g → i = j) (hu : Upd (bls L) w w2)
    (b : Below wr.heap.size wr wa) (o : OwnVJ w2.heap.size w' v' (Gs ++ [(⟨some ⟨g, 0, none⟩, c, mkLJ t (y.n + 70)⟩ : VecJ)])) (hg : wa.grownBy w' v.ownBlock) (ov : OwnVJ w2.heap.size wa v Gs) : PGJ w L w2 (t + 1) v' (Gs ++ [(⟨some ⟨g, 0, none⟩, c, mkLJ t (y.n + 70)⟩ : VecJ)]) w' := by
  have ug := upd_grown hg (S := fun k => v.ownBlock = some k) (fun k hk => hk)
  have hgo : ∀ (s : Nat) (e : Ent), L[s]? = some e → ¬ v.ownBlock = some e.g := fun s e he hh => by
    have h1 := (ov.blk e.g hh).1
    have h2 := YL s e he
    omega
  have hn : n = (mkLJ t (y.n + 70)).length := by
    obtain ⟨a', c', hf', _⟩ := p.own.form
    injection hf' with f1 f2 f3
  refine ⟨by rw [List.length_append, h.len]; rfl, o, ?_, ?_, fun s x hx => ?_, fun s e he => ?_⟩
  · have u1 : Upd (bls L) w wr := h.upd.trans (p.upd.mono (fun k _ hk => ⟨y, List.mem_of_getElem? hy, hk⟩))
    exact (u1.trans (Upd.of_below b)).grownBy hg (fun k hk hlt => by
      have h1 := (ov.blk k hk).1
      have h2 := hu.size
      omega)
  · exact Nat.le_trans h.size (Nat.le_trans p.upd.size (Nat.le_trans b.size ug.size))
  · by_cases hs : s < t
    · rw [List.getElem?_append_left (by rw [h.len]; exact hs)] at hx
      obtain ⟨e, g', k1, k2, k3, k4, k5⟩ := h.each s x hx
      refine ⟨e, g', k1, k2, k3, k4, ?_⟩
      have m1 := k5.upd2 p.upd (fun k hk e' => by
        cases hk
        rcases k4 with k4 | k4
        · have := dif s t e y k1 hy (k4.symm.trans e')
          omega
        · have := YL t y hy
          have e'' : g' = y.g := e'
          omega)
      exact (m1.bel b (Nat.le_refl _)).grownV ov hg
    · have hst : s = t := by
        have := (List.getElem?_eq_some_iff.1 hx).1
        rw [List.length_append, h.len] at this
        simp at this
        omega
      subst hst
      rw [List.getElem?_append_right (by rw [h.len]; exact Nat.le_refl _), h.len, Nat.sub_self] at hx
      simp at hx
      subst hx
      obtain ⟨g', q1, q2⟩ := p.at_
      cases q1
      refine ⟨y, g, hy, rfl, rfl, ?_, ?_⟩
      · rcases q2 with q2 | q2
        · exact .inl q2
        · exact .inr (Nat.le_trans h.size q2)
      · show OwnJ 0 w' (.slice (some ⟨g, 0, none⟩) (mkLJ s (y.n + 70)).length c) (mkLJ s (y.n + 70))
        rw [← hn]
        exact (p.own.bel b (Nat.le_refl _)).grownV ov hg
  · have sa : ShJ wa e s := by
      by_cases hst : s = t
      · subst hst
        rw [hy] at he
        cases he
        exact p.sh.upd (S := fun _ => False) (Upd.of_below b) id
      · exact ((h.mks s e he).1.upd p.upd (fun e' => hst (dif s t e y he hy e'))).upd (S := fun _ => False) (Upd.of_below b) id
    refine ⟨sa.upd ug (hgo s e he), fun hts => ?_⟩
    have hst : s ≠ t := by omega
    exact ((((h.mks s e he).2 (by omega)).upd p.upd (fun e' => hst (dif s t e y he hy e'))).bel b).upd ug (hgo s e he)

end Go.Proofs.Ytcchnaldanibgaa
