import Derived.Test.YtjkleldoeojbbaaGLc
import Derived.Laws.AppendOwnNone
import Derived.Sort.OwnSorted
namespace Go.Proofs.Ytjkleldoeojbbaa
open Go.RowKit Go.Maps
set_option linter.unusedVariables false
set_option linter.unusedSimpArgs false

/-- Cells as cells. -/
def ccs : List Cl → List Value
  | [] => []
  | d :: r => .int .i64 d.1 :: .string d.2 :: ccs r
theorem ccs_length : ∀ l : List Cl, (ccs l).length = l.length * 2
  | [] => rfl
  | d :: r => by simp only [ccs, List.length_cons, ccs_length r]; omega
theorem ccs_append : ∀ l m : List Cl, ccs (l ++ m) = ccs l ++ ccs m
  | [], m => rfl
  | d :: r, m => by simp only [ccs, List.cons_append, ccs_append r m]
theorem ccs_get0 : ∀ (l : List Cl) (i : Nat) (d : Cl), l[i]? = some d → (ccs l)[i * 2]? = some (.int .i64 d.1)
  | [], i, d, h => by simp at h
  | x :: r, 0, d, h => by simp at h; subst h; simp [ccs]
  | x :: r, i + 1, d, h => by
    have e : (i + 1) * 2 = i * 2 + 1 + 1 := by omega
    rw [e]
    simp only [ccs, List.getElem?_cons_succ] at h ⊢
    exact ccs_get0 r i d h
theorem ccs_get1 : ∀ (l : List Cl) (i : Nat) (d : Cl), l[i]? = some d → (ccs l)[i * 2 + 1]? = some (.string d.2)
  | [], i, d, h => by simp at h
  | x :: r, 0, d, h => by simp at h; subst h; simp [ccs]
  | x :: r, i + 1, d, h => by
    have e : (i + 1) * 2 + 1 = i * 2 + 1 + 1 + 1 := by omega
    rw [e]
    simp only [ccs, List.getElem?_cons_succ] at h ⊢
    exact ccs_get1 r i d h
/-- A slice of cells of the call's own. -/
def OwnC (B : Nat) (w : World) (v : Value) (l : List Cl) : Prop := w.ownsRow B 148 2 v l.length (ccs l)
theorem OwnC.nil (B : Nat) (w : World) : OwnC B w (.slice none 0 0) [] := World.ownsRow_nil w B 148 2
theorem OwnC.alloc {B : Nat} {w : World} {v : Value} {l : List Cl} (h : OwnC B w v l) (o : Obj) : OwnC B (w.alloc o) v l := World.ownsRow.alloc h o
theorem OwnC.upd {B : Nat} {S : Nat → Prop} {w w' : World} {v : Value} {l : List Cl} (h : OwnC B w v l) (u : Upd S w w') (hs : ∀ k, B ≤ k → ¬ S k) : OwnC B w' v l := by
  obtain ⟨h1, h2⟩ := h
  refine ⟨h1, ?_⟩
  rcases h2 with h2 | ⟨g, cap, cur, e1, e2, e3, r⟩
  · exact .inl h2
  · refine .inr ⟨g, cap, cur, e1, e2, ?_, r⟩
    have hlt : g < w.heap.size := by
      rcases Nat.lt_or_ge g w.heap.size with h' | h'
      · exact h'
      · rw [Array.getElem?_eq_none h'] at e3; cases e3
    rw [u.block g hlt (hs g e2)]
    exact e3
theorem OwnC.form {B : Nat} {w : World} {v : Value} {l : List Cl} (h : OwnC B w v l) : ∃ a c, v = .slice a l.length c ∧ l.length ≤ c ∧ c ≤ maxLen ∧ (a = none → l = [] ∧ c = 0) ∧ ∀ x, a = some x → ∃ g, x = ⟨g, 0, none⟩ ∧ B ≤ g ∧ g < w.heap.size := by
  rcases h.2 with ⟨e1, e2⟩ | ⟨g, cap, cur, e1, e2, e3, e4, e5, _⟩
  · exact ⟨none, 0, by rw [e1, e2], by omega, by unfold maxLen; omega, fun _ => ⟨List.eq_nil_of_length_eq_zero e2, rfl⟩, fun x hx => by cases hx⟩
  · refine ⟨some ⟨g, 0, none⟩, cap, e1, e4, e5, (fun hx => by cases hx), fun x hx => ?_⟩
    cases hx
    refine ⟨g, rfl, e2, ?_⟩
    rcases Nat.lt_or_ge g w.heap.size with h' | h'
    · exact h'
    · rw [Array.getElem?_eq_none h'] at e3; cases e3
theorem OwnC.cell {B : Nat} {w : World} {g n c : Nat} {l : List Cl} (h : OwnC B w (.slice (some ⟨g, 0, none⟩) n c) l) (i : Nat) (d : Cl) (hd : l[i]? = some d) : w.cell? ⟨g, i * 2, none⟩ = some (.int .i64 d.1) ∧ w.cell? ⟨g, i * 2 + 1, none⟩ = some (.string d.2) := by
  have h0 := World.ownsRow.cells h (g := g) rfl _ _ (ccs_get0 l i d hd)
  have h1 := World.ownsRow.cells h (g := g) rfl _ _ (ccs_get1 l i d hd)
  rw [Addr.add_lit, Nat.zero_add] at h0 h1
  exact ⟨h0, h1⟩
theorem OwnC.grown {B : Nat} {w0 w w' : World} {v : Value} {l : List Cl} (ho : OwnC B w v l) (h0 : Below B w0 w) (hg : w.grownBy w' v.ownBlock) (hB : B ≤ w.heap.size) : Below B w0 w' :=
  h0.grown hg hB (fun k hk => (World.ownsRow.lt ho k hk).1)

theorem info_cell : (Try.prog.info? 148).map (fun i => (i.zero, i.size, i.bytes)) = some (some (.agg #[.int .i64 0, .string ByteArray.empty]), 2, 24) := by kernel_rfl
theorem info_parts {P : Program} {t : TypeId} {z : Option Value} {s b : Nat} (h : (P.info? t).map (fun i => (i.zero, i.size, i.bytes)) = some (z, s, b)) : ∃ i, P.info? t = some i ∧ i.zero = z ∧ i.size = s ∧ i.bytes = b := by
  cases h2 : P.info? t with
  | none => rw [h2] at h; cases h
  | some i =>
    rw [h2] at h
    simp at h
    exact ⟨i, rfl, h.1, h.2.1, h.2.2⟩

/-- 'append' of one cell to cells of the call's own. -/
theorem app_cell (w : World) {ops : Array Oper} {rest : List Oper} {o : Oper} {a : Act} {Q : Exit → Act → World → Prop} (hgd : o.guard = none) (s x : Operand)
    (ho : o.op = .call { callee := .builtin .append, args := #[s, x], argTypes := #[69, 69] }) (B : Nat) (l : List Cl) (v : Value) (hs : a.eval s = v)
    (ad : Addr) (hx : a.eval x = .slice (some ad) 1 1) (h : Int) (l' : ByteArray) (hc : w.cell? ad = some (.int .i64 h)) (hc1 : w.cell? (ad.add 1) = some (.string l')) (hown : OwnC B w v l) (hB : B ≤ w.heap.size) (hb : (l.length + 1) * 24 ≤ 140737488355328)
    (hk : ∀ v' w', OwnC B w' v' (l ++ [(h, l')]) → v' ≠ .slice none 0 0 → w.grownBy w' v.ownBlock → wpList Try.prog ops Q rest (a.put o.dst v') w') : wpList Try.prog ops Q (o :: rest) a w := by
  obtain ⟨i0, hi, hz0, hz1, hz2⟩ := info_parts info_cell
  refine wpList_plain hgd fun K hK => ?_
  obtain ⟨v', w', hr, h2, h3, h4⟩ := run_append_own (P := Try.prog) w B 69 o.type 148 i0 (.agg #[.int .i64 0, .string ByteArray.empty]) 2 24 Try.underlying69 hi hz0 hz1 hz2 rfl (by decide) v l.length (ccs l) hown ad 1 1 [.int .i64 h, .string l'] rfl (by
    intro j y hy
    match j, hy with
    | 0, hy => simp at hy; subst hy; obtain ⟨b, o, s⟩ := ad; exact hc
    | 1, hy => simp at hy; subst hy; exact hc1
    | j + 2, hy => simp at hy) (by intro y hy; simp at hy; rcases hy with rfl | rfl <;> rfl) (by unfold maxLen; omega) hb hB
  unfold Oper.wp execOp
  simp only [ho, resolve, invoke, builtin, Sem.run_bind, Sem.run_pure, Result.andThen_ok, List.map_toArray, List.map_cons, List.map_nil, hs, hx, hr]
  refine hK _ _ (hk v' w' ?_ (fun e => by have := (h4.1 e).2; omega) h3)
  have : ccs (l ++ [(h, l')]) = ccs l ++ [.int .i64 h, .string l'] := by rw [ccs_append]; rfl
  unfold OwnC
  rw [this, List.length_append]
  exact h2

/-- Cells that lie from an address on. -/
def LieC (w : World) (q o : Nat) (D : List Cl) : Prop := ∀ i d, D[i]? = some d → w.cell? ⟨q, o + i * 2, none⟩ = some (.int .i64 d.1) ∧ w.cell? ⟨q, o + i * 2 + 1, none⟩ = some (.string d.2)
theorem LieC.upd {S : Nat → Prop} {w w' : World} {q o : Nat} {D : List Cl} (h : LieC w q o D) (u : Upd S w w') (hq : q < w.heap.size) (hs : ¬ S q) : LieC w' q o D := fun i d hd =>
  ⟨(u.cell (p := ⟨q, o + i * 2, none⟩) hq hs).trans (h i d hd).1, (u.cell (p := ⟨q, o + i * 2 + 1, none⟩) hq hs).trans (h i d hd).2⟩
theorem LieC.tail {w : World} {q o : Nat} {d : Cl} {D : List Cl} (h : LieC w q o (d :: D)) : LieC w q (o + 2) D := fun i e he => by
  have := h (i + 1) e (by simpa using he)
  rw [show o + 2 + i * 2 = o + (i + 1) * 2 from by omega]
  exact this
/-- A slice of cells, whatever it is. -/
structure SlC (w : World) (v : Value) (D : List Cl) (a : Option Addr) (c : Nat) : Prop where
  form : v = .slice a D.length c
  cap : D.length ≤ c
  max : c ≤ maxLen
  nil : a = none → D = [] ∧ c = 0
  at_ : ∀ x, a = some x → (D = [] ∧ c = 0) ∨ ∃ q o, x = ⟨q, o, none⟩ ∧ q < w.heap.size ∧ LieC w q o D
theorem SlC.upd {S : Nat → Prop} {w w' : World} {v : Value} {D : List Cl} {a : Option Addr} {c : Nat} (h : SlC w v D a c) (u : Upd S w w') (hs : ∀ x, a = some x → D ≠ [] → ¬ S x.block) : SlC w' v D a c :=
  ⟨h.form, h.cap, h.max, h.nil, fun x hx => by
    rcases h.at_ x hx with h1 | ⟨q, o, rfl, hq, hl⟩
    · exact .inl h1
    · refine .inr ⟨q, o, rfl, Nat.lt_of_lt_of_le hq u.size, ?_⟩
      by_cases hD : D = []
      · subst hD
        intro i d hd
        cases hd
      · exact hl.upd u hq (hs _ hx hD)⟩


theorem ccs_one : ∀ (l : List Cl) (u : Value), u ∈ ccs l → u.oneCell' = true
  | [], u, h => by cases h
  | d :: r, u, h => by
    simp only [ccs, List.mem_cons] at h
    rcases h with rfl | rfl | h
    · rfl
    · rfl
    · exact ccs_one r u h
theorem ccs_at : ∀ (D : List Cl) (w : World) (q o : Nat), LieC w q o D → ∀ j u, (ccs D)[j]? = some u → w.cell? ⟨q, o + j, none⟩ = some u
  | [], w, q, o, h, j, u, hu => by simp [ccs] at hu
  | d :: r, w, q, o, h, 0, u, hu => by
    simp [ccs] at hu; subst hu
    have := (h 0 d rfl).1
    simpa using this
  | d :: r, w, q, o, h, 1, u, hu => by
    simp [ccs] at hu; subst hu
    have := (h 0 d rfl).2
    simpa using this
  | d :: r, w, q, o, h, j + 2, u, hu => by
    simp only [ccs, List.getElem?_cons_succ] at hu
    have := ccs_at r w q (o + 2) h.tail j u hu
    rw [show o + (j + 2) = o + 2 + j from by omega]
    exact this
/-- 'append' of cells that lie somewhere. -/
theorem app_cells (w : World) {ops : Array Oper} {rest : List Oper} {o : Oper} {a : Act} {Q : Exit → Act → World → Prop} (hgd : o.guard = none) (s x : Operand)
    (ho : o.op = .call { callee := .builtin .append, args := #[s, x], argTypes := #[69, 69] }) (B : Nat) (l : List Cl) (v : Value) (hs : a.eval s = v)
    (ad : Addr) (m c : Nat) (hx : a.eval x = .slice (some ad) m c) (news : List Cl) (hm : news.length = m) (hown : OwnC B w v l) (hnews : ∀ j u, (ccs news)[j]? = some u → w.cell? (ad.add j) = some u) (hB : B ≤ w.heap.size) (hb : (l.length + m) * 24 ≤ 140737488355328)
    (h : ∀ v' w', OwnC B w' v' (l ++ news) → w.grownBy w' v.ownBlock → wpList Try.prog ops Q rest (a.put o.dst v') w') : wpList Try.prog ops Q (o :: rest) a w := by
  obtain ⟨i0, hi, hz0, hz1, hz2⟩ := info_parts info_cell
  refine wpList_append_own _ hgd s x 69 ho B 148 i0 (.agg #[.int .i64 0, .string ByteArray.empty]) 2 24 Try.underlying69 hi hz0 hz1 hz2 rfl (by decide) v l.length (ccs l) hs hown ad m c (ccs news) hx (by rw [ccs_length, hm]) hnews (ccs_one _) (by unfold maxLen; omega) hb hB ?_
  intro v' w' h2 h3 h4
  refine h v' w' ?_ h3
  unfold OwnC
  rw [ccs_append, List.length_append, hm]
  exact h2
theorem OwnC.sl {B : Nat} {w : World} {v : Value} {D : List Cl} (h : OwnC B w v D) : ∃ a c, SlC w v D a c ∧ ∀ z, a = some z → B ≤ z.block ∧ z.block < w.heap.size := by
  obtain ⟨a, c, rfl, h1, h2, h3, h4⟩ := h.form
  refine ⟨a, c, ⟨rfl, h1, h2, h3, fun x hx => ?_⟩, fun z hz => ?_⟩
  · obtain ⟨g, rfl, _, hl⟩ := h4 x hx
    subst hx
    exact .inr ⟨g, 0, rfl, hl, fun i d hd => by rw [Nat.zero_add]; exact h.cell i d hd⟩
  · obtain ⟨g, rfl, hB, hl⟩ := h4 z hz
    exact ⟨hB, hl⟩


theorem ccs_set : ∀ (l : List Cl) (k : Nat) (x : Int) (y : ByteArray), ccs (l.set k (x, y)) = ((ccs l).set (k * 2) (.int .i64 x)).set (k * 2 + 1) (.string y)
  | [], k, x, y => by simp [ccs]
  | d :: r, 0, x, y => by simp [ccs]
  | d :: r, k + 1, x, y => by
    have e : (k + 1) * 2 = k * 2 + 1 + 1 := by omega
    rw [e]
    simp only [List.set_cons_succ, ccs, ccs_set r k x y]
theorem OwnC.set {B : Nat} {w : World} {g n c : Nat} {l : List Cl} (h : OwnC B w (.slice (some ⟨g, 0, none⟩) n c) l) (k : Nat) (x : Int) (y : ByteArray) :
    OwnC B ((w.setCell ⟨g, k * 2, none⟩ (.int .i64 x)).setCell ⟨g, k * 2 + 1, none⟩ (.string y)) (.slice (some ⟨g, 0, none⟩) n c) (l.set k (x, y)) := by
  obtain ⟨a, c', e, _⟩ := h.form
  injection e with e1 e2 e3
  unfold OwnC at *
  rw [← e2] at h
  rw [ccs_set, List.length_set, ← e2]
  exact ((World.ownsRow.stored h (k * 2) _).1.stored (k * 2 + 1) _).1
theorem OwnC.free {B : Nat} {w : World} {g n c : Nat} {l : List Cl} (h : OwnC B w (.slice (some ⟨g, 0, none⟩) n c) l) (j : Nat) : w.frozen? ⟨g, j, none⟩ = false := by
  obtain ⟨a, c', e, _⟩ := h.form
  injection e with e1 e2 e3
  unfold OwnC at h
  rw [← e2] at h
  exact World.ownsRow.frozenAt h j
theorem OwnC.bel {B : Nat} {w w' : World} {v : Value} {l : List Cl} (h : OwnC B w v l) {B' : Nat} (hb : Below B' w w') (hB : w.heap.size ≤ B') : OwnC B w' v l :=
  h.upd (S := fun _ => False) (Upd.of_below (hb.mono hB)) (fun _ _ => id)
theorem OwnC.low {B B' : Nat} {w : World} {v : Value} {l : List Cl} (h : OwnC B w v l) (hb : B' ≤ B) : OwnC B' w v l := by
  obtain ⟨h1, h2⟩ := h
  refine ⟨h1, ?_⟩
  rcases h2 with h2 | ⟨g, cap, cur, e1, e2, r⟩
  · exact .inl h2
  · exact .inr ⟨g, cap, cur, e1, Nat.le_trans hb e2, r⟩


end Go.Proofs.Ytjkleldoeojbbaa
