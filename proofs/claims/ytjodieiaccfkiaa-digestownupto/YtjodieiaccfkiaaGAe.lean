import Derived.Test.YtjodieiaccfkiaaGYa
namespace Go.Proofs.Ytjodieiaccfkiaa
open Go.RowKit Go.Maps
set_option linter.unusedVariables false
set_option linter.unusedSimpArgs false

/-- A list in a book: its block, its room, its length. -/
structure Ent where
  g : Nat
  c : Nat
  n : Nat
section
variable {α : Type} {Y : Lay α} {mk : Nat → Nat → α}
theorem below_none {w w' : World} {o : Option Nat} (h : w.grownBy w' o) (ho : o = none) : Below w.heap.size w w' :=
  ⟨h.os, h.tape, h.output, h.size, fun k hk => h.block k hk (by rw [ho]; simp)⟩
/-- 'append': where the block is a new one nothing old has turned. -/
theorem run_appYB (K : Y.Ok) (w : World) (ty : TypeId) (B : Nat) (l : List α) (v : Value) (ad : Option Addr) (m c : Nat) (news : List α) (hh : SlY Y w ad m c news) (hown : OwnY Y B w v l) (hB : B ≤ w.heap.size) (hm : l.length + m ≤ maxLen) (hb : (l.length + m) * Y.by_ ≤ 140737488355328) :
    ∃ v' w', (Builtin.append_ #[Y.ST, Y.ST] ty #[v, .slice ad m c]).run Try.prog w = .ok v' w' ∧ OwnY Y B w' v' (l ++ news) ∧ w.grownBy w' v.ownBlock ∧ (v'.ownBlock = v.ownBlock ∨ ∃ k, v'.ownBlock = some k ∧ w.heap.size ≤ k ∧ Below w.heap.size w w') := by
  obtain ⟨v', w', hr, h2, h3, h4⟩ := run_appY K w ty B l v ad m c news hh hown hB hm hb
  refine ⟨v', w', hr, h2, h3, ?_⟩
  rcases h4 with h4 | ⟨k, k1, k2⟩
  · exact .inl h4
  · refine .inr ⟨k, k1, k2, ?_⟩
    obtain ⟨zv, hinfo, hzc⟩ := K.info
    obtain ⟨i0, hi, hz0, hz1, hz2⟩ := info_parts hinfo
    rcases hown.2 with ⟨rfl, hn⟩ | ⟨g, cap, cur, rfl, hbg, hg, hnc, hcm, hcs, htake⟩
    · exact below_none h3 rfl
    · have hlt : g < w.heap.size := (Array.getElem?_eq_some_iff.1 hg).1
      cases ad with
      | none =>
        obtain ⟨rfl, rfl⟩ := hh.nil rfl
        have hr2 := run_append_owned_none (P := Try.prog) (w := w) B Y.ST ty Y.T i0 Y.k K.und hi _ l.length (fl Y l) hown
        rw [hr] at hr2
        cases hr2
        have k3 : some g = some k := k1
        injection k3 with k3
        omega
      | some y =>
        have hnews : ∀ j u, (fl Y news)[j]? = some u → w.cell? (y.add j) = some u := fun j u hu => by
          rcases hh.at_ y rfl with e | ⟨q, o, rfl, _, hl⟩
          · subst e; cases hu
          · rw [Addr.add_lit]; exact hl.flat K j u hu
        have hlen : (fl Y news).length = m * Y.k := by rw [fl_length K, hh.len]
        by_cases hroom : l.length + m ≤ cap
        · have hfit : l.length * i0.size + (fl Y news).length ≤ cur.size := by rw [hcs, hz1, hlen, ← Nat.add_mul]; exact Nat.mul_le_mul_right _ hroom
          have hr2 := run_append_room (P := Try.prog) w Y.ST ty Y.T i0 K.und hi g l.length cap cur hg y m c (fl Y news) (by rw [hz1]; exact hlen) hnews (fl_one K news) hroom hfit
          rw [hr] at hr2
          cases hr2
          have k3 : some g = some k := k1
          injection k3 with k3
          omega
        · have holds : ∀ j u, (fl Y l)[j]? = some u → w.cell? ((⟨g, 0, none⟩ : Addr).add j) = some u := World.ownsRow.cells hown (g := g) rfl
          have hr2 := run_append_grow (P := Try.prog) w Y.ST ty Y.T i0 zv K.und hi hz0 ⟨g, 0, none⟩ l.length cap (fl Y l) (by rw [hz1]; exact fl_length K l) holds y m c (fl Y news) (by rw [hz1]; exact hlen) hnews (by omega) (by unfold maxLen at hm; omega) (growslice_fits (by omega) (by rw [hz2]; exact hb))
          rw [hr] at hr2
          cases hr2
          exact (Below.refl _ _).drew.alloc (Nat.le_refl _) _
theorem appYB (K : Y.Ok) (w : World) {ops : Array Oper} {rest : List Oper} {o : Oper} {a : Act} {Q : Exit → Act → World → Prop} (hgd : o.guard = none) (s x : Operand)
    (ho : o.op = .call { callee := .builtin .append, args := #[s, x], argTypes := #[Y.ST, Y.ST] }) (B : Nat) (l : List α) (v : Value) (hs : a.eval s = v)
    (ad : Option Addr) (m c : Nat) (hx : a.eval x = .slice ad m c) (news : List α) (hh : SlY Y w ad m c news) (hown : OwnY Y B w v l) (hB : B ≤ w.heap.size) (hm : l.length + m ≤ maxLen) (hb : (l.length + m) * Y.by_ ≤ 140737488355328)
    (hk : ∀ v' w', OwnY Y B w' v' (l ++ news) → w.grownBy w' v.ownBlock → (v'.ownBlock = v.ownBlock ∨ ∃ k, v'.ownBlock = some k ∧ w.heap.size ≤ k ∧ Below w.heap.size w w') → wpList Try.prog ops Q rest (a.put o.dst v') w') : wpList Try.prog ops Q (o :: rest) a w := by
  refine wpList_plain hgd fun K' hK' => ?_
  obtain ⟨v', w', hr, h2, h3, h4⟩ := run_appYB K w o.type B l v ad m c news hh hown hB hm hb
  unfold Oper.wp execOp
  simp only [ho, resolve, invoke, builtin, Sem.run_bind, Sem.run_pure, Result.andThen_ok, List.map_toArray, List.map_cons, List.map_nil, hs, hx, hr]
  exact hK' _ _ (hk v' w' h2 h3 h4)
/-- The list's first m elements bear the marks of list i. -/
def MkY (Y : Lay α) (mk : Nat → Nat → α) (w : World) (e : Ent) (i m : Nat) : Prop := ∃ D, D.length = e.n ∧ OwnY Y 0 w (.slice (some ⟨e.g, 0, none⟩) e.n e.c) D ∧ ∀ t, t < m → D[t]? = some (mk i t)
theorem MkY.upd {S : Nat → Prop} {w w' : World} {e : Ent} {i m : Nat} (h : MkY Y mk w e i m) (u : Upd S w w') (hs : ¬ S e.g) : MkY Y mk w' e i m := by
  obtain ⟨D, h1, h2, h3⟩ := h
  exact ⟨D, h1, h2.upd1 u (fun k hk => by cases hk; exact hs), h3⟩
theorem MkY.bel {w w' : World} {e : Ent} {i m : Nat} (h : MkY Y mk w e i m) (b : Below w.heap.size w w') : MkY Y mk w' e i m := h.upd (S := fun _ => False) (Upd.of_below b) id
theorem MkY.lt {w : World} {e : Ent} {i m : Nat} (h : MkY Y mk w e i m) : e.g < w.heap.size := by
  obtain ⟨D, h1, h2, h3⟩ := h
  exact (h2.blk e.g rfl).2
theorem MkY.cap {w : World} {e : Ent} {i m : Nat} (h : MkY Y mk w e i m) : e.n ≤ e.c ∧ e.c ≤ maxLen := by
  obtain ⟨D, h1, h2, h3⟩ := h
  obtain ⟨a, c, hf, k1, k2, _⟩ := h2.form
  injection hf with f1 f2 f3
  subst f3
  exact ⟨by omega, k2⟩
theorem MkY.zero {w : World} {e : Ent} {i m : Nat} (h : MkY Y mk w e i m) (j : Nat) : MkY Y mk w e j 0 := by
  obtain ⟨D, h1, h2, h3⟩ := h
  exact ⟨D, h1, h2, fun t ht => by omega⟩
theorem MkY.step {w' : World} {e : Ent} {i m : Nat} {D : List α} (h1 : D.length = e.n) (h3 : ∀ t, t < m → D[t]? = some (mk i t)) (hm : m < e.n) (h2 : OwnY Y 0 w' (.slice (some ⟨e.g, 0, none⟩) e.n e.c) (D.set m (mk i m))) : MkY Y mk w' e i (m + 1) := by
  refine ⟨D.set m (mk i m), by rw [List.length_set, h1], h2, fun t ht => ?_⟩
  by_cases e1 : t = m
  · subst e1
    rw [List.getElem?_set_self (by omega)]
  · rw [List.getElem?_set_ne (by omega)]
    exact h3 t (by omega)
/-- What a book's list of lists is. -/
structure LBk (w : World) (q : Nat) (L : List Ent) : Prop where
  lt : q < w.heap.size
  row : ∀ (i : Nat) (e : Ent), L[i]? = some e → w.cell? ⟨q, i, none⟩ = some (.slice (some ⟨e.g, 0, none⟩) e.n e.c)
  dif : ∀ (i j : Nat) (e f : Ent), L[i]? = some e → L[j]? = some f → e.g = f.g → i = j
  out : ∀ (i : Nat) (e : Ent), L[i]? = some e → e.g ≠ q ∧ 0 < e.n ∧ e.n ≤ 140737488351300
  len : L.length ≤ 1000
/-- Its blocks. -/
def blk (L : List Ent) (k : Nat) : Prop := ∃ e, e ∈ L ∧ k = e.g
theorem LBk.q {w : World} {q : Nat} {L : List Ent} (h : LBk w q L) : ¬ blk L q := fun ⟨e, he, hk⟩ => by
  obtain ⟨i, hi⟩ := List.getElem?_of_mem he
  exact (h.out i e hi).1 hk.symm
theorem LBk.upd {w w' : World} {q : Nat} {L : List Ent} (h : LBk w q L) (u : Upd (blk L) w w') : LBk w' q L :=
  ⟨Nat.lt_of_lt_of_le h.lt u.size, fun i e hi => (u.cell (p := ⟨q, i, none⟩) h.lt h.q).trans (h.row i e hi), h.dif, h.out, h.len⟩
/-- The marks of list i, n of them. -/
def mkY (mk : Nat → Nat → α) (i n : Nat) : List α := (List.range n).map (mk i)
theorem mkY_length (i n : Nat) : (mkY mk i n).length = n := by simp [mkY]
theorem mkY_succ (i n : Nat) : mkY mk i (n + 1) = mkY mk i n ++ [mk i n] := by simp [mkY, List.range_succ]
theorem mkY_at (i n t : Nat) (h : t < n) : (mkY mk i n)[t]? = some (mk i t) := by simp [mkY, h]
theorem mkY_of {i : Nat} {D : List α} (h : ∀ t, t < D.length → D[t]? = some (mk i t)) : D = mkY mk i D.length := by
  apply List.ext_getElem?
  intro t
  by_cases ht : t < D.length
  · rw [h t ht, mkY_at _ _ _ ht]
  · rw [List.getElem?_eq_none (by omega), List.getElem?_eq_none (by rw [mkY_length]; omega)]
theorem mkY_ne {i n : Nat} (h : 0 < n) : mkY mk i n ≠ [] := fun e => by
  have := congrArg List.length e
  rw [mkY_length] at this
  simp at this
  omega
/-- The list shows its marks. -/
def ShY (Y : Lay α) (mk : Nat → Nat → α) (w : World) (e : Ent) (i : Nat) : Prop := e.g < w.heap.size ∧ ∀ t, t < e.n → ∀ j u, (Y.cs (mk i t))[j]? = some u → w.cell? ⟨e.g, t * Y.k + j, none⟩ = some u
theorem ShY.of (K : Y.Ok) {w : World} {e : Ent} {i n c : Nat} {D : List α} {B : Nat} (h : OwnY Y B w (.slice (some ⟨e.g, 0, none⟩) n c) D) (hD : ∀ t, t < e.n → D[t]? = some (mk i t)) : ShY Y mk w e i :=
  ⟨(h.blk e.g rfl).2, fun t ht j u hu => h.cell K t _ (hD t ht) j u hu⟩
theorem ShY.upd {S : Nat → Prop} {w w' : World} {e : Ent} {i : Nat} (h : ShY Y mk w e i) (u : Upd S w w') (hs : ¬ S e.g) : ShY Y mk w' e i :=
  ⟨Nat.lt_of_lt_of_le h.1 u.size, fun t ht j v hv => (u.cell (p := ⟨e.g, _, none⟩) h.1 hs).trans (h.2 t ht j v hv)⟩
theorem MkY.sh (K : Y.Ok) {w : World} {e : Ent} {i : Nat} (h : MkY Y mk w e i e.n) : ShY Y mk w e i := by
  obtain ⟨D, h1, h2, h3⟩ := h
  exact ShY.of K h2 h3
theorem MkY.own {w : World} {e : Ent} {i : Nat} (h : MkY Y mk w e i e.n) : OwnY Y 0 w (.slice (some ⟨e.g, 0, none⟩) e.n e.c) (mkY mk i e.n) := by
  obtain ⟨D, h1, h2, h3⟩ := h
  have := mkY_of (mk := mk) (i := i) (D := D) (by rw [h1]; exact h3)
  rw [h1] at this
  rw [← this]
  exact h2
variable {Z : Lay (SV α)}
/-- Behind the growing of the first j lists (w2: the world ahead of it). -/
structure PGY (Y : Lay α) (Z : Lay (SV α)) (mk : Nat → Nat → α) (w : World) (L : List Ent) (w2 : World) (j : Nat) (v : Value) (Gs : List (SV α)) (ws : World) : Prop where
  len : Gs.length = j
  own : OwnY Z w2.heap.size ws v Gs
  upd : Upd (blk L) w ws
  size : w2.heap.size ≤ ws.heap.size
  each : ∀ (t : Nat) (x : SV α), Gs[t]? = some x → ∃ e g', L[t]? = some e ∧ x.D = mkY mk t (e.n + 70) ∧ x.a = some ⟨g', 0, none⟩ ∧ (g' = e.g ∨ w2.heap.size ≤ g') ∧ OwnY Y 0 ws (.slice (some ⟨g', 0, none⟩) x.D.length x.c) x.D
  mks : ∀ (t : Nat) (e : Ent), L[t]? = some e → ShY Y mk ws e t ∧ (j ≤ t → MkY Y mk ws e t e.n)
/-- Behind m growings of one list. -/
structure PIY (Y : Lay α) (mk : Nat → Nat → α) (wi : World) (y : Ent) (t m : Nat) (v : Value) (ws : World) : Prop where
  own : OwnY Y 0 ws v (mkY mk t (y.n + m))
  at_ : ∃ g, v.ownBlock = some g ∧ (g = y.g ∨ wi.heap.size ≤ g)
  upd : Upd (· = y.g) wi ws
  sh : ShY Y mk ws y t
theorem PIY.step (K : Y.Ok) {wi : World} {y : Ent} {t m : Nat} {v v' : Value} {wr wa w' : World} (h : PIY Y mk wi y t m v wr) (b : Below wr.heap.size wr wa) (o : OwnY Y 0 w' v' (mkY mk t (y.n + m) ++ [mk t (y.n + m)])) (hg : wa.grownBy w' v.ownBlock) (ha : v'.ownBlock = v.ownBlock ∨ ∃ k, v'.ownBlock = some k ∧ wa.heap.size ≤ k ∧ Below wa.heap.size wa w') : PIY Y mk wi y t (m + 1) v' w' := by
  have o2 : OwnY Y 0 w' v' (mkY mk t (y.n + m + 1)) := by rw [mkY_succ]; exact o
  obtain ⟨g, e1, e2⟩ := h.at_
  have ua : Upd (· = y.g) wi wa := h.upd.trans (Upd.of_below b)
  have sa : ShY Y mk wa y t := h.sh.upd (S := fun _ => False) (Upd.of_below b) id
  refine ⟨o2, ?_, ua.grownBy hg (fun k hk hlt => ?_), ?_⟩
  · rcases ha with ha | ⟨k, k1, k2, _⟩
    · exact ⟨g, ha.trans e1, e2⟩
    · exact ⟨k, k1, .inr (Nat.le_trans ua.size k2)⟩
  · rw [e1] at hk
    cases hk
    rcases e2 with e2 | e2
    · exact e2
    · omega
  · by_cases hgy : g = y.g
    · by_cases hv : v'.ownBlock = some y.g
      · obtain ⟨a, c, hf, _, _, _, hx⟩ := o2.form
        subst hf
        match a, hv, hx with
        | some x, hv, hx =>
          obtain ⟨g2, hx2, _⟩ := hx x rfl
          subst hx2
          have : g2 = y.g := Option.some.inj hv
          subst this
          exact ShY.of K o2 (fun t' ht' => mkY_at _ _ _ (by omega))
      · rcases ha with ha | ⟨k, k1, k2, k3⟩
        · exact absurd (ha.trans (e1.trans (by rw [hgy]))) hv
        · exact sa.upd (S := fun _ => False) (Upd.of_below k3) id
    · exact sa.upd (gupd hg (S := fun k => v.ownBlock = some k) (fun k hk => hk)) (fun e => by rw [e1] at e; exact hgy (Option.some.inj e))
theorem PGY.step (K : Y.Ok) (hT : Y.T ≠ Z.T) {w : World} {L : List Ent} {w2 : World} {t : Nat} {v v' : Value} {Gs : List (SV α)} {wi wr wa w' : World} {y : Ent} {g c n : Nat} (h : PGY Y Z mk w L w2 t v Gs wi) (p : PIY Y mk wi y t 70 (.slice (some ⟨g, 0, none⟩) n c) wr) (hy : L[t]? = some y) (YL : ∀ (s : Nat) (e : Ent), L[s]? = some e → e.g < w2.heap.size) (dif : ∀ (i j : Nat) (e f : Ent), L[i]? = some e → L[j]? = some f → e.g = f.g → i = j) (hu : Upd (blk L) w w2)
    (b : Below wr.heap.size wr wa) (o : OwnY Z w2.heap.size w' v' (Gs ++ [⟨some ⟨g, 0, none⟩, c, mkY mk t (y.n + 70)⟩])) (hg : wa.grownBy w' v.ownBlock) (ov : OwnY Z w2.heap.size wa v Gs) : PGY Y Z mk w L w2 (t + 1) v' (Gs ++ [⟨some ⟨g, 0, none⟩, c, mkY mk t (y.n + 70)⟩]) w' := by
  have ug := gupd hg (S := fun k => v.ownBlock = some k) (fun k hk => hk)
  have hgo : ∀ (s : Nat) (e : Ent), L[s]? = some e → ¬ v.ownBlock = some e.g := fun s e he hh => by
    have h1 := (ov.blk e.g hh).1
    have h2 := YL s e he
    omega
  have hn : n = (mkY mk t (y.n + 70)).length := by
    obtain ⟨a', c', hf', _⟩ := p.own.form
    injection hf' with f1 f2 f3
  refine ⟨by rw [List.length_append, h.len]; rfl, o, ?_, ?_, fun s x hx => ?_, fun s e he => ?_⟩
  · have u1 : Upd (blk L) w wr := h.upd.trans (p.upd.mono (fun k _ hk => ⟨y, List.mem_of_getElem? hy, hk⟩))
    exact (u1.trans (Upd.of_below b)).grownBy hg (fun k hk hlt => by
      have h1 := (ov.blk k hk).1
      have h2 := hu.size
      omega)
  · exact Nat.le_trans h.size (Nat.le_trans p.upd.size (Nat.le_trans b.size ug.size))
  · by_cases hs : s < t
    · rw [List.getElem?_append_left (by rw [h.len]; exact hs)] at hx
      obtain ⟨e, g', k1, k2, k3, k4, k5⟩ := h.each s x hx
      refine ⟨e, g', k1, k2, k3, k4, ?_⟩
      have m1 := k5.upd1 p.upd (fun k hk e' => by
        cases hk
        rcases k4 with k4 | k4
        · have := dif s t e y k1 hy (k4.symm.trans e')
          omega
        · have := YL t y hy
          have e'' : g' = y.g := e'
          omega)
      exact (m1.grow b).grownZ ov hT hg
    · have hst : s = t := by
        have := (List.getElem?_eq_some_iff.1 hx).1
        rw [List.length_append, h.len] at this
        simp at this
        omega
      subst hst
      rw [List.getElem?_append_right (by rw [h.len]; exact Nat.le_refl _), h.len, Nat.sub_self] at hx
      simp at hx
      subst hx
      obtain ⟨g', q1, q2⟩ := p.at_
      cases q1
      refine ⟨y, g, hy, rfl, rfl, ?_, ?_⟩
      · rcases q2 with q2 | q2
        · exact .inl q2
        · exact .inr (Nat.le_trans h.size q2)
      · show OwnY Y 0 w' (.slice (some ⟨g, 0, none⟩) (mkY mk s (y.n + 70)).length c) (mkY mk s (y.n + 70))
        rw [← hn]
        exact (p.own.grow b).grownZ ov hT hg
  · have sa : ShY Y mk wa e s := by
      by_cases hst : s = t
      · subst hst
        rw [hy] at he
        cases he
        exact p.sh.upd (S := fun _ => False) (Upd.of_below b) id
      · exact ((h.mks s e he).1.upd p.upd (fun e' => hst (dif s t e y he hy e'))).upd (S := fun _ => False) (Upd.of_below b) id
    refine ⟨sa.upd ug (hgo s e he), fun hts => ?_⟩
    have hst : s ≠ t := by omega
    exact ((((h.mks s e he).2 (by omega)).upd p.upd (fun e' => hst (dif s t e y he hy e'))).bel b).upd ug (hgo s e he)
/-- A store into an element, at an operation of a region that draws its order. -/
theorem stepS (K : Y.Ok) {ops : Array Oper} {o : Oper} {a : Act} {w : World} {K' : Act → World → Prop} {Q : Exit → Act → World → Prop} {E : Prop} (hgd : o.guard = none) (ty : TypeId) (x y : Operand) (ho : o.op = .store ty x y)
    (B g n c : Nat) (l : List α) (i j : Nat) (e e' : α) (v : Value) (hx : a.eval x = .pointer (some ⟨g, i * Y.k + j, none⟩)) (hy : a.eval y = v) (he : l[i]? = some e) (hi : (Try.prog.info? ty).map (·.size) = some v.cells.size)
    (hj : j + v.cells.size ≤ Y.k) (hc : Y.cs e' = (Y.cs e).take j ++ v.cells.toList ++ (Y.cs e).drop (j + v.cells.toList.length)) (hown : OwnY Y B w (.slice (some ⟨g, 0, none⟩) n c) l)
    (hk : ∀ w', OwnY Y B w' (.slice (some ⟨g, 0, none⟩) n c) (l.set i e') → Upd (fun b => b = g) w w' → w'.heap.size = w.heap.size → K' (a.put o.dst undef) w') :
    if Region.wanted o (yielded ops a.tmps) = true then Oper.wp Try.prog o a w K' Q else E := by
  have hw : Region.wanted o (yielded ops a.tmps) = true := by simp [Region.wanted, hgd]
  rw [if_pos hw]
  have hlt := (List.getElem?_eq_some_iff.1 he).1
  rcases hown with ⟨h0, h1 | ⟨g1, cap, cur, e1, e2, e3, e4, e5, e6, e7⟩⟩
  · have := h1.1; cases this
  · injection e1 with q1 q2 q3
    injection q1 with q1
    cases q1
    subst q3
    have hsz : l.length * Y.k ≤ cur.size := by rw [e6]; exact Nat.mul_le_mul_right _ e4
    have hlen : v.cells.toList.length = v.cells.size := by simp
    have hfit : i * Y.k + j + v.cells.toList.length ≤ l.length * Y.k := by
      have : (i + 1) * Y.k ≤ l.length * Y.k := Nat.mul_le_mul_right _ hlt
      rw [Nat.add_mul] at this
      omega
    have hrun := run_storeCells_at (P := Try.prog) g (i * Y.k + j) Y.T v.cells.toList 0 cur w e3 (by omega) (fun u hu => K.one e' u (by rw [hc]; exact List.mem_append_left _ (List.mem_append_right _ hu)))
    rw [Nat.add_zero] at hrun
    have hst : (Instr.storeAt ty (.pointer (some ⟨g, i * Y.k + j, none⟩)) v).run Try.prog w = .ok () (w.setRow g (cur.toList.take (i * Y.k + j) ++ v.cells.toList ++ cur.toList.drop (i * Y.k + j + v.cells.toList.length)).toArray) := by
      cases hq : Try.prog.info? ty with
      | none => rw [hq] at hi; cases hi
      | some t =>
        have hs : v.cells.size = t.size := by simp [hq] at hi; omega
        simp [Instr.storeAt, Instr.sureAddr, storeVar, sizeOf, typeInfo, hq, hs]
        rw [← hs]
        simpa using hrun
    unfold Oper.wp execOp
    simp only [ho, hx, hy, Sem.run_bind, Sem.run_pure, Result.andThen_ok, hst]
    refine hk _ ?_ ⟨rfl, rfl, rfl, by simp, fun b hb hs => setRow_other w g b _ hs⟩ (by simp)
    refine ⟨by rw [fl_length K], .inr ⟨g, c, _, ?_, e2, setRow_heap w g cur _ Y.T (0, 0) e3, ?_, e5, ?_, ?_⟩⟩
    · rw [List.length_set, ← q2]
    · rw [List.length_set]; exact e4
    · rw [List.size_toArray, ← e6]
      simp only [List.length_append, List.length_take, List.length_drop, Array.length_toList]
      omega
    · rw [List.length_set, fl_splice K he (by rw [hlen]; exact hj) hc, ← e7]
      exact splice_take hfit
end

end Go.Proofs.Ytjodieiaccfkiaa

namespace Go.Proofs.Ytjodieiaccfkiaa
open Go.RowKit Go.Maps
set_option linter.unusedVariables false
set_option linter.unusedSimpArgs false

section
variable {α : Type} {Y : Lay α} {Z : Lay (SV α)} {p : Nat} {mk : Nat → Nat → α}
/-- A book at block b that has lists of one type alone, in its cell p. -/
structure BY (Y : Lay α) (Z : Lay (SV α)) (p : Nat) (w : World) (b B : Nat) (v : Value) (V : List (SV α)) : Prop where
  lt : b < B
  ltB : B ≤ w.heap.size
  cp : w.cell? ⟨b, p, none⟩ = some v
  fp : w.frozen? ⟨b, p, none⟩ = false
  ce : ∀ i, i < 10 → i ≠ p → w.cell? ⟨b, i, none⟩ = some (.slice none 0 0)
  o : OwnY Z B w v V
  ev : ∀ x, x ∈ V → OwnY Y B w x.v x.D ∧ 0 < x.D.length ∧ x.D.length ≤ 140737488351300
  dif : ∀ (i j : Nat) (x y : SV α), V[i]? = some x → V[j]? = some y → x.a = y.a → i = j
theorem BY.bel {w w' : World} {b B : Nat} {v : Value} {V : List (SV α)} (h : BY Y Z p w b B v V) (hb : Below w.heap.size w w') : BY Y Z p w' b B v V := by
  have hlt : b < w.heap.size := Nat.lt_of_lt_of_le h.lt h.ltB
  exact ⟨h.lt, Nat.le_trans h.ltB hb.size, (hb.cell (p := ⟨b, _, none⟩) hlt).trans h.cp, (hb.frozen (p := ⟨b, _, none⟩) hlt).trans h.fp, fun i h0 h1 => (hb.cell (p := ⟨b, _, none⟩) hlt).trans (h.ce i h0 h1), h.o.grow hb, fun x hx => ⟨(h.ev x hx).1.grow hb, (h.ev x hx).2⟩, h.dif⟩
/-- A new book. -/
theorem BY.new (Y : Lay α) (Z : Lay (SV α)) (p : Nat) (hp : p < 10) (w : World) (t : TypeId) : BY Y Z p (w.alloc (.cells #[.slice none 0 0, .slice none 0 0, .slice none 0 0, .slice none 0 0, .slice none 0 0, .slice none 0 0, .slice none 0 0, .slice none 0 0, .slice none 0 0, .slice none 0 0] t)) w.heap.size (w.heap.size + 1) (.slice none 0 0) [] := by
  have hc : ∀ i, i < 10 → (w.alloc (.cells #[.slice none 0 0, .slice none 0 0, .slice none 0 0, .slice none 0 0, .slice none 0 0, .slice none 0 0, .slice none 0 0, .slice none 0 0, .slice none 0 0, .slice none 0 0] t)).cell? ⟨w.heap.size, i, none⟩ = some (.slice none 0 0) := by
    intro i hi
    rw [World.cell?_alloc_at _ _ _ _ rfl]
    rcases (by omega : i = 0 ∨ i = 1 ∨ i = 2 ∨ i = 3 ∨ i = 4 ∨ i = 5 ∨ i = 6 ∨ i = 7 ∨ i = 8 ∨ i = 9) with rfl | rfl | rfl | rfl | rfl | rfl | rfl | rfl | rfl | rfl <;> rfl
  exact ⟨Nat.lt_succ_self _, by simp, hc p hp, by simp, fun i h0 _ => hc i h0, OwnY.nil _ _ _, (fun x hx => by cases hx), (fun i j x y hx => by simp at hx)⟩
theorem BY.push {w w3 : World} {b B : Nat} {v v' : Value} {V : List (SV α)} {x : SV α} (hT : Y.T ≠ Z.T) (G : BY Y Z p w b B v V) (hx : OwnY Y B w x.v x.D) (h0 : 0 < x.D.length) (h1 : x.D.length ≤ 140737488351300) (hn : ∀ y, y ∈ V → y.a ≠ x.a) (g3 : w.grownBy w3 v.ownBlock) (o3 : OwnY Z B w3 v' (V ++ [x])) :
    BY Y Z p (w3.setCell ⟨b, p, none⟩ v') b B v' (V ++ [x]) := by
  have hlt : b < w.heap.size := Nat.lt_of_lt_of_le G.lt G.ltB
  have hrow : v.ownBlock ≠ some b := fun e => by have := (G.o.blk b e).1; have := G.lt; omega
  have ob : (⟨b, p, none⟩ : Addr).block < B := G.lt
  refine ⟨G.lt, by simpa [World.setCell] using Nat.le_trans G.ltB g3.size, setc_eq (gcell g3 G.cp hrow), setf (gfroz g3 hlt G.fp hrow), fun i h0 h1 => setc_ne (gcell g3 (G.ce i h0 h1) hrow) h1, o3.low_set ob _, fun y hy => ?_, fun i j y z hy hz e => ?_⟩
  · rcases List.mem_append.1 hy with hy | hy
    · exact ⟨((G.ev y hy).1.grownZ G.o hT g3).low_set ob _, (G.ev y hy).2⟩
    · simp at hy
      subst hy
      exact ⟨(hx.grownZ G.o hT g3).low_set ob _, h0, h1⟩
  · have il := (List.getElem?_eq_some_iff.1 hy).1
    have jl := (List.getElem?_eq_some_iff.1 hz).1
    rw [List.length_append, List.length_singleton] at il jl
    by_cases hi : i < V.length
    · rw [List.getElem?_append_left hi] at hy
      by_cases hj : j < V.length
      · rw [List.getElem?_append_left hj] at hz
        exact G.dif i j y z hy hz e
      · have : j = V.length := by omega
        subst this
        rw [List.getElem?_append_right (Nat.le_refl _), Nat.sub_self] at hz
        simp at hz
        subst hz
        exact absurd e (hn y (List.mem_of_getElem? hy))
    · have : i = V.length := by omega
      subst this
      rw [List.getElem?_append_right (Nat.le_refl _), Nat.sub_self] at hy
      simp at hy
      subst hy
      by_cases hj : j < V.length
      · rw [List.getElem?_append_left hj] at hz
        exact absurd e.symm (hn z (List.mem_of_getElem? hz))
      · omega
def abk : Option Addr → Nat
  | some z => z.block
  | none => 0
def entY (x : SV α) : Ent := ⟨abk x.a, x.c, x.D.length⟩
def inY (V : List (SV α)) (k : Nat) : Prop := ∃ x, x ∈ V ∧ x.a = some ⟨k, 0, none⟩
theorem BY.av {w : World} {b B : Nat} {v : Value} {V : List (SV α)} (h : BY Y Z p w b B v V) {x : SV α} (hx : x ∈ V) : x.a = some ⟨abk x.a, 0, none⟩ := by
  obtain ⟨o, h0, _⟩ := h.ev x hx
  obtain ⟨a, c, hf, _, _, hn, hs⟩ := o.form
  unfold SV.v at hf
  injection hf with f1 f2 f3
  cases ha : x.a with
  | none => rw [ha] at f1; have := (hn f1.symm).1; rw [this] at h0; cases h0
  | some z => rw [ha] at f1; obtain ⟨g, rfl, _⟩ := hs z f1.symm; rfl
theorem map_at' {β γ : Type} {f : β → γ} {L : List β} {i : Nat} {e : γ} (h : (L.map f)[i]? = some e) : ∃ x, L[i]? = some x ∧ e = f x := by
  rw [List.getElem?_map] at h
  cases hx : L[i]? with
  | none => rw [hx] at h; cases h
  | some x => rw [hx] at h; exact ⟨x, rfl, (Option.some.inj h).symm⟩
/-- A book's lists, as its look wants them. -/
theorem BY.lb {w : World} {b B g n c : Nat} {V : List (SV α)} (hT : Y.T ≠ Z.T) (K : Z.Ok) (hcs : ∀ x, Z.cs x = [x.v]) (hk : Z.k = 1) (G : BY Y Z p w b B (.slice (some ⟨g, 0, none⟩) n c) V) (hV : V.length ≤ 1000) : LBk w g (V.map entY) ∧ (∀ i e, (V.map entY)[i]? = some e → MkY Y mk w e i 0) := by
  have blg := (G.o.blk g rfl).2
  refine ⟨⟨blg, fun i e hi => ?_, fun i j e f hi hj hef => ?_, fun i e hi => ?_, by simpa using hV⟩, fun i e hi => ?_⟩
  · obtain ⟨x, hx, rfl⟩ := map_at' hi
    have := G.o.cell K i x hx 0 x.v (by rw [hcs]; rfl)
    rw [hk, Nat.mul_one, Nat.add_zero] at this
    unfold SV.v at this
    rw [G.av (List.mem_of_getElem? hx)] at this
    exact this
  · obtain ⟨x, hx, rfl⟩ := map_at' hi
    obtain ⟨y, hy, rfl⟩ := map_at' hj
    refine G.dif i j x y hx hy ?_
    rw [G.av (List.mem_of_getElem? hx), G.av (List.mem_of_getElem? hy)]
    have : abk x.a = abk y.a := hef
    rw [this]
  · obtain ⟨x, hx, rfl⟩ := map_at' hi
    obtain ⟨o, h0, h1⟩ := G.ev x (List.mem_of_getElem? hx)
    refine ⟨fun e => ?_, h0, h1⟩
    have e2 : x.v.ownBlock = some g := by unfold SV.v; rw [G.av (List.mem_of_getElem? hx)]; show some (abk x.a) = some g; rw [show abk x.a = g from e]
    exact o.apart G.o hT g e2 rfl
  · obtain ⟨x, hx, rfl⟩ := map_at' hi
    obtain ⟨o, h0, h1⟩ := G.ev x (List.mem_of_getElem? hx)
    unfold SV.v at o
    rw [G.av (List.mem_of_getElem? hx)] at o
    exact ⟨x.D, rfl, o.low (Nat.zero_le _), fun t ht => by omega⟩
theorem BY.blk {w : World} {b B : Nat} {v : Value} {V : List (SV α)} (G : BY Y Z p w b B v V) {k : Nat} (h : Go.Proofs.Ytjodieiaccfkiaa.blk (V.map entY) k) : inY V k := by
  obtain ⟨e, he, hk⟩ := h
  obtain ⟨x, hx, rfl⟩ := List.mem_map.1 he
  exact ⟨x, hx, by rw [G.av hx, hk]; rfl⟩
end

end Go.Proofs.Ytjodieiaccfkiaa

namespace Go.Proofs.Ytjodieiaccfkiaa
open Go.RowKit Go.Maps
set_option linter.unusedVariables false
set_option linter.unusedSimpArgs false

section
variable {α : Type} {Y : Lay α} {Z : Lay (SV α)} {p : Nat} {mk : Nat → Nat → α}
/-- A store into another block. -/
theorem OwnY.atB {B b : Nat} {w : World} {v : Value} {l : List α} (h : OwnY Y B w v l) (hb : v.ownBlock ≠ some b) {q : Nat} (u : Value) : OwnY Y B (w.setCell ⟨b, q, none⟩ u) v l :=
  h.upd1 (S := fun k => k = b) ((Upd.refl (fun k => k = b) w).setCell (p := ⟨b, q, none⟩) (.inl rfl) _) (fun g hg e => hb (by rw [hg, e]))
/-- One column of a book at block b: its cell p and the lists in it. -/
structure CY (Y : Lay α) (Z : Lay (SV α)) (p : Nat) (w : World) (b A B : Nat) (v : Value) (V : List (SV α)) : Prop where
  lt : b < B
  ltB : B ≤ w.heap.size
  cp : w.cell? ⟨b, p, none⟩ = some v
  fp : w.frozen? ⟨b, p, none⟩ = false
  o : OwnY Z B w v V
  ev : ∀ x, x ∈ V → OwnY Y A w x.v x.D ∧ 0 < x.D.length ∧ x.D.length ≤ 140737488351300
  nb : ∀ x, x ∈ V → x.v.ownBlock ≠ some b
  dif : ∀ (i j : Nat) (x y : SV α), V[i]? = some x → V[j]? = some y → x.a = y.a → i = j
theorem CY.bel {w w' : World} {b A B : Nat} {v : Value} {V : List (SV α)} (h : CY Y Z p w b A B v V) (hb : Below w.heap.size w w') : CY Y Z p w' b A B v V := by
  have hlt : b < w.heap.size := Nat.lt_of_lt_of_le h.lt h.ltB
  exact ⟨h.lt, Nat.le_trans h.ltB hb.size, (hb.cell (p := ⟨b, _, none⟩) hlt).trans h.cp, (hb.frozen (p := ⟨b, _, none⟩) hlt).trans h.fp, h.o.grow hb, fun x hx => ⟨(h.ev x hx).1.grow hb, (h.ev x hx).2⟩, h.nb, h.dif⟩
/-- A new one. -/
theorem CY.new (Y : Lay α) (Z : Lay (SV α)) (p b A : Nat) (w : World) (hb : b < w.heap.size) (hc : w.cell? ⟨b, p, none⟩ = some (.slice none 0 0)) (hf : w.frozen? ⟨b, p, none⟩ = false) : CY Y Z p w b A w.heap.size (.slice none 0 0) [] :=
  ⟨hb, Nat.le_refl _, hc, hf, OwnY.nil _ _ _, (fun x hx => by cases hx), (fun x hx => by cases hx), (fun i j x y hx => by simp at hx)⟩
/-- Beside another column that a list is put into. -/
theorem CY.beside {β : Type} {Z2 : Lay β} {p2 B2 : Nat} {V2 : List β} {v2 v3 : Value} {w w3 : World} {b A B : Nat} {v : Value} {V : List (SV α)} (G : CY Y Z p w b A B v V) (o2 : OwnY Z2 B2 w v2 V2) (hb2 : b < B2) (hTY : Y.T ≠ Z2.T) (hTZ : Z.T ≠ Z2.T) (hp : p ≠ p2) (g3 : w.grownBy w3 v2.ownBlock) :
    CY Y Z p (w3.setCell ⟨b, p2, none⟩ v3) b A B v V := by
  have hlt : b < w.heap.size := Nat.lt_of_lt_of_le G.lt G.ltB
  have hrow : v2.ownBlock ≠ some b := fun e => by have := (o2.blk b e).1; omega
  have ob : (⟨b, p2, none⟩ : Addr).block < B := G.lt
  exact ⟨G.lt, by simpa [World.setCell] using Nat.le_trans G.ltB g3.size, setc_ne (gcell g3 G.cp hrow) hp, setf (gfroz g3 hlt G.fp hrow), (G.o.grownZ o2 hTZ g3).low_set ob _, fun y hy => ⟨((G.ev y hy).1.grownZ o2 hTY g3).atB (G.nb y hy) _, (G.ev y hy).2⟩, G.nb, G.dif⟩
theorem CY.push {w w3 : World} {b A B : Nat} {v v' : Value} {V : List (SV α)} {x : SV α} (hT : Y.T ≠ Z.T) (G : CY Y Z p w b A B v V) (hx : OwnY Y A w x.v x.D) (hxb : x.v.ownBlock ≠ some b) (h0 : 0 < x.D.length) (h1 : x.D.length ≤ 140737488351300) (hn : ∀ y, y ∈ V → y.a ≠ x.a) (g3 : w.grownBy w3 v.ownBlock) (o3 : OwnY Z B w3 v' (V ++ [x])) :
    CY Y Z p (w3.setCell ⟨b, p, none⟩ v') b A B v' (V ++ [x]) := by
  have hlt : b < w.heap.size := Nat.lt_of_lt_of_le G.lt G.ltB
  have hrow : v.ownBlock ≠ some b := fun e => by have := (G.o.blk b e).1; have := G.lt; omega
  have ob : (⟨b, p, none⟩ : Addr).block < B := G.lt
  refine ⟨G.lt, by simpa [World.setCell] using Nat.le_trans G.ltB g3.size, setc_eq (gcell g3 G.cp hrow), setf (gfroz g3 hlt G.fp hrow), o3.low_set ob _, fun y hy => ?_, fun y hy => ?_, fun i j y z hy hz e => ?_⟩
  · rcases List.mem_append.1 hy with hy | hy
    · exact ⟨((G.ev y hy).1.grownZ G.o hT g3).atB (G.nb y hy) _, (G.ev y hy).2⟩
    · simp at hy
      subst hy
      exact ⟨(hx.grownZ G.o hT g3).atB hxb _, h0, h1⟩
  · rcases List.mem_append.1 hy with hy | hy
    · exact G.nb y hy
    · simp at hy
      subst hy
      exact hxb
  · have il := (List.getElem?_eq_some_iff.1 hy).1
    have jl := (List.getElem?_eq_some_iff.1 hz).1
    rw [List.length_append, List.length_singleton] at il jl
    by_cases hi : i < V.length
    · rw [List.getElem?_append_left hi] at hy
      by_cases hj : j < V.length
      · rw [List.getElem?_append_left hj] at hz
        exact G.dif i j y z hy hz e
      · have : j = V.length := by omega
        subst this
        rw [List.getElem?_append_right (Nat.le_refl _), Nat.sub_self] at hz
        simp at hz
        subst hz
        exact absurd e (hn y (List.mem_of_getElem? hy))
    · have : i = V.length := by omega
      subst this
      rw [List.getElem?_append_right (Nat.le_refl _), Nat.sub_self] at hy
      simp at hy
      subst hy
      by_cases hj : j < V.length
      · rw [List.getElem?_append_left hj] at hz
        exact absurd e.symm (hn z (List.mem_of_getElem? hz))
      · omega
theorem CY.av {w : World} {b A B : Nat} {v : Value} {V : List (SV α)} (h : CY Y Z p w b A B v V) {x : SV α} (hx : x ∈ V) : x.a = some ⟨abk x.a, 0, none⟩ := by
  obtain ⟨o, h0, _⟩ := h.ev x hx
  obtain ⟨a, c, hf, _, _, hn, hs⟩ := o.form
  unfold SV.v at hf
  injection hf with f1 f2 f3
  cases ha : x.a with
  | none => rw [ha] at f1; have := (hn f1.symm).1; rw [this] at h0; cases h0
  | some z => rw [ha] at f1; obtain ⟨g, rfl, _⟩ := hs z f1.symm; rfl
/-- A book's lists, as its look wants them. -/
theorem CY.lb {w : World} {b A B g n c : Nat} {V : List (SV α)} (hT : Y.T ≠ Z.T) (K : Z.Ok) (hcs : ∀ x, Z.cs x = [x.v]) (hk : Z.k = 1) (G : CY Y Z p w b A B (.slice (some ⟨g, 0, none⟩) n c) V) (hV : V.length ≤ 1000) : LBk w g (V.map entY) ∧ (∀ i e, (V.map entY)[i]? = some e → MkY Y mk w e i 0) := by
  have blg := (G.o.blk g rfl).2
  refine ⟨⟨blg, fun i e hi => ?_, fun i j e f hi hj hef => ?_, fun i e hi => ?_, by simpa using hV⟩, fun i e hi => ?_⟩
  · obtain ⟨x, hx, rfl⟩ := map_at' hi
    have := G.o.cell K i x hx 0 x.v (by rw [hcs]; rfl)
    rw [hk, Nat.mul_one, Nat.add_zero] at this
    unfold SV.v at this
    rw [G.av (List.mem_of_getElem? hx)] at this
    exact this
  · obtain ⟨x, hx, rfl⟩ := map_at' hi
    obtain ⟨y, hy, rfl⟩ := map_at' hj
    refine G.dif i j x y hx hy ?_
    rw [G.av (List.mem_of_getElem? hx), G.av (List.mem_of_getElem? hy)]
    have : abk x.a = abk y.a := hef
    rw [this]
  · obtain ⟨x, hx, rfl⟩ := map_at' hi
    obtain ⟨o, h0, h1⟩ := G.ev x (List.mem_of_getElem? hx)
    refine ⟨fun e => ?_, h0, h1⟩
    have e2 : x.v.ownBlock = some g := by unfold SV.v; rw [G.av (List.mem_of_getElem? hx)]; show some (abk x.a) = some g; rw [show abk x.a = g from e]
    exact o.apart G.o hT g e2 rfl
  · obtain ⟨x, hx, rfl⟩ := map_at' hi
    obtain ⟨o, h0, h1⟩ := G.ev x (List.mem_of_getElem? hx)
    unfold SV.v at o
    rw [G.av (List.mem_of_getElem? hx)] at o
    exact ⟨x.D, rfl, o.low (Nat.zero_le _), fun t ht => by omega⟩
theorem CY.blk {w : World} {b A B : Nat} {v : Value} {V : List (SV α)} (G : CY Y Z p w b A B v V) {k : Nat} (h : Go.Proofs.Ytjodieiaccfkiaa.blk (V.map entY) k) : inY V k := by
  obtain ⟨e, he, hk⟩ := h
  obtain ⟨x, hx, rfl⟩ := List.mem_map.1 he
  exact ⟨x, hx, by rw [G.av hx, hk]; rfl⟩
end

end Go.Proofs.Ytjodieiaccfkiaa
