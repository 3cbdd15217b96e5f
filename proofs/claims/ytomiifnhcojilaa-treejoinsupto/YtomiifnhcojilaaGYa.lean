import Derived.Test.YtomiifnhcojilaaLm
import Derived.Laws.AppendOwnNone
import Derived.Maps.OwnSet
import Derived.Maps.Views
import Derived.Laws.CopyRow
import Derived.Deep.RegionLaw
namespace Go.Proofs.Ytomiifnhcojilaa
open Go.RowKit
set_option linter.unusedVariables false
set_option linter.unusedSimpArgs false

/-- How the elements of a slice lie: of which type, in how many cells and bytes, which cells; the zero. -/
structure Lay (α : Type) where
  T : TypeId
  ST : TypeId
  k : Nat
  by_ : Nat
  cs : α → List Value
  z : α
structure Lay.Ok {α : Type} (Y : Lay α) : Prop where
  kp : 0 < Y.k
  len : ∀ x, (Y.cs x).length = Y.k
  one : ∀ x u, u ∈ Y.cs x → u.oneCell' = true
  und : Try.prog.underlying Y.ST = some (.slice Y.T)
  info : ∃ zv : Value, (Try.prog.info? Y.T).map (fun i => (i.zero, i.size, i.bytes)) = some (some zv, Y.k, Y.by_) ∧ zv.cells = (Y.cs Y.z).toArray
variable {α : Type} {Y : Lay α}
def fl (Y : Lay α) : List α → List Value
  | [] => []
  | x :: r => Y.cs x ++ fl Y r
theorem fl_length (K : Y.Ok) : ∀ l : List α, (fl Y l).length = l.length * Y.k
  | [] => by simp [fl]
  | x :: r => by rw [fl, List.length_append, fl_length K r, K.len, List.length_cons, Nat.add_mul]; omega
theorem fl_append : ∀ l m : List α, fl Y (l ++ m) = fl Y l ++ fl Y m
  | [], m => rfl
  | x :: r, m => by simp only [fl, List.cons_append, fl_append r m, List.append_assoc]
theorem fl_get (K : Y.Ok) : ∀ (l : List α) (i : Nat) (x : α), l[i]? = some x → ∀ j, j < Y.k → (fl Y l)[i * Y.k + j]? = (Y.cs x)[j]?
  | [], i, x, h, j, hj => by simp at h
  | y :: r, 0, x, h, j, hj => by
    simp at h; subst h
    rw [fl, Nat.zero_mul, Nat.zero_add, List.getElem?_append_left (by rw [K.len]; exact hj)]
  | y :: r, i + 1, x, h, j, hj => by
    have h' : r[i]? = some x := by simpa using h
    rw [fl, List.getElem?_append_right (by rw [K.len, Nat.add_mul]; omega), K.len, show (i + 1) * Y.k + j - Y.k = i * Y.k + j by rw [Nat.add_mul]; omega]
    exact fl_get K r i x h' j hj
theorem fl_one (K : Y.Ok) : ∀ (l : List α) (u : Value), u ∈ fl Y l → u.oneCell' = true
  | [], u, h => by cases h
  | x :: r, u, h => by
    rcases List.mem_append.1 h with h | h
    · exact K.one x u h
    · exact fl_one K r u h
theorem div_pos_lt {j n k : Nat} (hk : 0 < k) (h : j < n * k) : j / k < n ∧ j % k < k ∧ j / k * k + j % k = j :=
  ⟨Nat.div_lt_of_lt_mul (by rw [Nat.mul_comm]; exact h), Nat.mod_lt _ hk, by rw [Nat.mul_comm]; exact Nat.div_add_mod j k⟩
theorem fl_inv (K : Y.Ok) (l : List α) (j : Nat) (u : Value) (h : (fl Y l)[j]? = some u) : ∃ x, l[j / Y.k]? = some x ∧ (Y.cs x)[j % Y.k]? = some u := by
  have hj := (List.getElem?_eq_some_iff.1 h).1
  rw [fl_length K] at hj
  obtain ⟨h1, h2, h3⟩ := div_pos_lt K.kp hj
  refine ⟨_, List.getElem?_eq_getElem h1, ?_⟩
  rw [← fl_get K l _ _ (List.getElem?_eq_getElem h1) _ h2, h3]
  exact h
theorem fl_set1 (K : Y.Ok) {l : List α} {i : Nat} {x x' : α} (hx : l[i]? = some x) {j : Nat} {u : Value} (hj : j < Y.k) (hc : Y.cs x' = (Y.cs x).set j u) : (fl Y l).set (i * Y.k + j) u = fl Y (l.set i x') := by
  have hi := (List.getElem?_eq_some_iff.1 hx).1
  apply List.ext_getElem?
  intro p
  by_cases hp : p < l.length * Y.k
  · obtain ⟨h1, h2, h3⟩ := div_pos_lt K.kp hp
    by_cases he : p / Y.k = i
    · have e2 : (l.set i x')[p / Y.k]? = some x' := by rw [he]; simp [hi]
      have := fl_get K _ _ _ e2 _ h2
      rw [h3] at this
      rw [this, hc]
      by_cases hq : p % Y.k = j
      · have e3 : i * Y.k + j = p := by rw [← he, ← hq]; exact h3
        rw [e3, List.getElem?_set_self (by rw [fl_length K]; exact hp), hq, List.getElem?_set_self (by rw [K.len]; exact hj)]
      · have e3 : i * Y.k + j ≠ p := fun e => hq (by rw [← e, Nat.mul_comm, Nat.mul_add_mod, Nat.mod_eq_of_lt hj])
        have e4 : l[p / Y.k]? = some x := by rw [he]; exact hx
        have := fl_get K _ _ _ e4 _ h2
        rw [h3] at this
        rw [List.getElem?_set_ne e3, this, List.getElem?_set_ne (fun e => hq e.symm)]
    · have e3 : i * Y.k + j ≠ p := fun e => he (by rw [← e, Nat.mul_comm, Nat.mul_add_div K.kp, Nat.div_eq_of_lt hj, Nat.add_zero])
      have e4 : (l.set i x')[p / Y.k]? = l[p / Y.k]? := by rw [List.getElem?_set_ne (fun e => he e.symm)]
      have hg := List.getElem?_eq_getElem h1
      have t1 := fl_get K _ _ _ hg _ h2
      have t2 := fl_get K _ _ _ (e4.trans hg) _ h2
      rw [h3] at t1 t2
      rw [List.getElem?_set_ne e3, t1, t2]
  · rw [List.getElem?_eq_none (by rw [List.length_set, fl_length K]; omega), List.getElem?_eq_none (by rw [fl_length K, List.length_set]; omega)]
/-- A slice of the call's own. -/
def OwnY (Y : Lay α) (B : Nat) (w : World) (v : Value) (l : List α) : Prop := w.ownsRow B Y.T Y.k v l.length (fl Y l)
theorem OwnY.nil (Y : Lay α) (B : Nat) (w : World) : OwnY Y B w (.slice none 0 0) [] := World.ownsRow_nil w B Y.T Y.k
theorem OwnY.alloc {B : Nat} {w : World} {v : Value} {l : List α} (h : OwnY Y B w v l) (o : Obj) : OwnY Y B (w.alloc o) v l := World.ownsRow.alloc h o
theorem OwnY.form {B : Nat} {w : World} {v : Value} {l : List α} (h : OwnY Y B w v l) : ∃ a c, v = .slice a l.length c ∧ l.length ≤ c ∧ c ≤ maxLen ∧ (a = none → l = [] ∧ c = 0) ∧ ∀ x, a = some x → ∃ g, x = ⟨g, 0, none⟩ ∧ B ≤ g ∧ g < w.heap.size := by
  rcases h.2 with ⟨e1, e2⟩ | ⟨g, cap, cur, e1, e2, e3, e4, e5, _⟩
  · exact ⟨none, 0, by rw [e1, e2], by omega, by unfold maxLen; omega, fun _ => ⟨List.eq_nil_of_length_eq_zero e2, rfl⟩, fun x hx => by cases hx⟩
  · refine ⟨some ⟨g, 0, none⟩, cap, e1, e4, e5, (fun hx => by cases hx), fun x hx => ?_⟩
    cases hx
    exact ⟨g, rfl, e2, (Array.getElem?_eq_some_iff.1 e3).1⟩
theorem OwnY.cell (K : Y.Ok) {B : Nat} {w : World} {g n c : Nat} {l : List α} (h : OwnY Y B w (.slice (some ⟨g, 0, none⟩) n c) l) (i : Nat) (x : α) (hx : l[i]? = some x) (j : Nat) (u : Value) (hu : (Y.cs x)[j]? = some u) : w.cell? ⟨g, i * Y.k + j, none⟩ = some u := by
  have hj := (List.getElem?_eq_some_iff.1 hu).1
  rw [K.len] at hj
  have h0 := World.ownsRow.cells h (g := g) rfl (i * Y.k + j) u (by rw [fl_get K l i x hx j hj]; exact hu)
  rw [Addr.add_lit, Nat.zero_add] at h0
  exact h0
theorem OwnY.upd1 {S : Nat → Prop} {B : Nat} {w w' : World} {v : Value} {l : List α} (h : OwnY Y B w v l) (u : Upd S w w') (hs : ∀ g, v.ownBlock = some g → ¬ S g) : OwnY Y B w' v l := by
  obtain ⟨h1, h2⟩ := h
  refine ⟨h1, ?_⟩
  rcases h2 with h2 | ⟨g, cap, cur, e1, e2, e3, r⟩
  · exact .inl h2
  · refine .inr ⟨g, cap, cur, e1, e2, ?_, r⟩
    rw [u.block g (Array.getElem?_eq_some_iff.1 e3).1 (hs g (by rw [e1]; rfl))]
    exact e3
theorem OwnY.blk {B : Nat} {w : World} {v : Value} {l : List α} (h : OwnY Y B w v l) : ∀ k, v.ownBlock = some k → B ≤ k ∧ k < w.heap.size := World.ownsRow.lt h
theorem OwnY.grow {B : Nat} {w w' : World} {v : Value} {l : List α} (h : OwnY Y B w v l) (hb : Below w.heap.size w w') : OwnY Y B w' v l := h.upd1 (S := fun _ => False) (Upd.of_below hb) (fun _ _ => id)
theorem OwnY.low {B B' : Nat} {w : World} {v : Value} {l : List α} (h : OwnY Y B w v l) (hb : B' ≤ B) : OwnY Y B' w v l := by
  obtain ⟨h1, h2⟩ := h
  refine ⟨h1, ?_⟩
  rcases h2 with h2 | ⟨g, cap, cur, e1, e2, r⟩
  · exact .inl h2
  · exact .inr ⟨g, cap, cur, e1, Nat.le_trans hb e2, r⟩
theorem OwnY.grown {B : Nat} {w0 w w' : World} {v : Value} {l : List α} (ho : OwnY Y B w v l) (h0 : Below B w0 w) (hg : w.grownBy w' v.ownBlock) (hB : B ≤ w.heap.size) : Below B w0 w' :=
  h0.grown hg hB (fun k hk => (ho.blk k hk).1)
theorem OwnY.set1 (K : Y.Ok) {B : Nat} {w : World} {g n c : Nat} {l : List α} (h : OwnY Y B w (.slice (some ⟨g, 0, none⟩) n c) l) {i : Nat} {x : α} (hx : l[i]? = some x) (x' : α) (j : Nat) (u : Value) (hj : j < Y.k) (hc : Y.cs x' = (Y.cs x).set j u) :
    OwnY Y B (w.setCell ⟨g, i * Y.k + j, none⟩ u) (.slice (some ⟨g, 0, none⟩) n c) (l.set i x') := by
  obtain ⟨a, c', e, _⟩ := h.form
  injection e with e1 e2 e3
  unfold OwnY at *
  rw [← e2] at h
  rw [← fl_set1 K hx hj hc, List.length_set, ← e2]
  exact (World.ownsRow.stored h (i * Y.k + j) _).1
theorem OwnY.free {B : Nat} {w : World} {g n c : Nat} {l : List α} (h : OwnY Y B w (.slice (some ⟨g, 0, none⟩) n c) l) (j : Nat) : w.frozen? ⟨g, j, none⟩ = false := by
  obtain ⟨a, c', e, _⟩ := h.form
  injection e with e1 e2 e3
  unfold OwnY at h
  rw [← e2] at h
  exact World.ownsRow.frozenAt h j
theorem OwnY.kind {B : Nat} {w : World} {v : Value} {l : List α} (h : OwnY Y B w v l) {g : Nat} (e : v.ownBlock = some g) : ∃ c f, w.heap[g]? = some (.cells c Y.T f) := by
  rcases h.2 with ⟨e1, _⟩ | ⟨g1, _, cur, e1, _, hb, _⟩
  · rw [e1] at e; cases e
  · rw [e1] at e; cases e; exact ⟨cur, _, hb⟩
/-- Rows of unlike types lie in unlike blocks. -/
theorem OwnY.apart {β : Type} {Y' : Lay β} {B B' : Nat} {w : World} {v v' : Value} {l : List α} {l' : List β} (h : OwnY Y B w v l) (h' : OwnY Y' B' w v' l') (hT : Y.T ≠ Y'.T) : ∀ g, v.ownBlock = some g → v'.ownBlock ≠ some g := by
  intro g e e'
  obtain ⟨c, f, h1⟩ := h.kind e
  obtain ⟨c', f', h2⟩ := h'.kind e'
  rw [h1] at h2
  injection h2 with h3
  injection h3 with _ h4
  exact hT h4
theorem OwnY.not_map {B : Nat} {w : World} {v : Value} {l : List α} {g : Nat} (h : OwnY Y B w v l) (e : v.ownBlock = some g) : ∀ es c, w.heap[g]? ≠ some (.map es c) := fun es c e' => by
  obtain ⟨c, f, h1⟩ := h.kind e
  rw [e'] at h1
  cases h1

/-- A list that lies in memory. -/
def LieY (Y : Lay α) (w : World) (q o : Nat) (l : List α) : Prop := ∀ i x, l[i]? = some x → ∀ j u, (Y.cs x)[j]? = some u → w.cell? ⟨q, o + i * Y.k + j, none⟩ = some u
theorem LieY.upd {S : Nat → Prop} {w w' : World} {q o : Nat} {l : List α} (h : LieY Y w q o l) (u : Upd S w w') (hq : q < w.heap.size) (hs : ¬ S q) : LieY Y w' q o l := fun i x hx j v hv => (u.cell (p := ⟨q, _, none⟩) hq hs).trans (h i x hx j v hv)
theorem LieY.flat (K : Y.Ok) {w : World} {q o : Nat} {l : List α} (h : LieY Y w q o l) (j : Nat) (u : Value) (hu : (fl Y l)[j]? = some u) : w.cell? ⟨q, o + j, none⟩ = some u := by
  have hj := (List.getElem?_eq_some_iff.1 hu).1
  rw [fl_length K] at hj
  obtain ⟨x, h1, h2⟩ := fl_inv K l j u hu
  have := h _ _ h1 _ _ h2
  rw [Nat.add_assoc, (div_pos_lt K.kp hj).2.2] at this
  exact this
/-- A slice that holds a list. -/
structure SlY (Y : Lay α) (w : World) (a : Option Addr) (n c : Nat) (l : List α) : Prop where
  len : l.length = n
  cap : n ≤ c
  max : c ≤ maxLen
  nil : a = none → n = 0 ∧ c = 0
  at_ : ∀ x, a = some x → l = [] ∨ ∃ q o, x = ⟨q, o, none⟩ ∧ q < w.heap.size ∧ LieY Y w q o l
theorem SlY.upd {S : Nat → Prop} {w w' : World} {a : Option Addr} {n c : Nat} {l : List α} (h : SlY Y w a n c l) (u : Upd S w w') (hs : ∀ x, a = some x → l ≠ [] → ¬ S x.block) : SlY Y w' a n c l :=
  ⟨h.len, h.cap, h.max, h.nil, fun x hx => by
    rcases h.at_ x hx with e | ⟨q, o, rfl, hq, hl⟩
    · exact .inl e
    · by_cases hl0 : l = []
      · exact .inl hl0
      · exact .inr ⟨q, o, rfl, Nat.lt_of_lt_of_le hq u.size, hl.upd u hq (hs _ hx hl0)⟩⟩
theorem SlY.later {w w' : World} {a : Option Addr} {n c : Nat} {l : List α} (h : SlY Y w a n c l) (hb : Below w.heap.size w w') : SlY Y w' a n c l := h.upd (S := fun _ => False) (Upd.of_below hb) (fun _ _ _ => id)
theorem SlY.bel {w w' : World} {a : Option Addr} {n c : Nat} {l : List α} (h : SlY Y w a n c l) {B : Nat} (hb : Below B w w') (hB : w.heap.size ≤ B) : SlY Y w' a n c l := h.upd (S := fun k => B ≤ k) ⟨hb.os, hb.tape, hb.output, hb.size, fun k hk hs => hb.block k (by omega)⟩ (fun x hx hne hs => by
  rcases h.at_ x hx with e | ⟨q, o, rfl, hq, hl⟩
  · exact hne e
  · dsimp only at hs; omega)
theorem SlY.place {w : World} {a : Option Addr} {n c : Nat} {l : List α} (h : SlY Y w a n c l) (hne : l ≠ []) : ∃ q o, a = some ⟨q, o, none⟩ ∧ q < w.heap.size ∧ LieY Y w q o l := by
  cases ha : a with
  | none =>
    have := (h.nil ha).1
    exact absurd (List.eq_nil_of_length_eq_zero (h.len.trans this)) hne
  | some x =>
    rcases h.at_ x ha with e | ⟨q, o, rfl, hq, hl⟩
    · exact absurd e hne
    · exact ⟨q, o, rfl, hq, hl⟩
theorem SlY.take {w : World} {a : Option Addr} {n c : Nat} {l : List α} (h : SlY Y w a n c l) (m : Nat) (hm : m ≤ n) : SlY Y w a m c (l.take m) :=
  ⟨by rw [List.length_take, h.len]; omega, Nat.le_trans hm h.cap, h.max, (fun e => by have := h.nil e; omega), fun x hx => by
    rcases h.at_ x hx with e | ⟨q, o, rfl, hq, hl⟩
    · exact .inl (by rw [e]; simp)
    · refine .inr ⟨q, o, rfl, hq, fun i y hy => hl i y ?_⟩
      rw [List.getElem?_take] at hy
      split at hy
      · exact hy
      · cases hy⟩
theorem OwnY.sl (K : Y.Ok) {B : Nat} {w : World} {v : Value} {l : List α} (h : OwnY Y B w v l) : ∃ a c, v = .slice a l.length c ∧ SlY Y w a l.length c l ∧ ∀ z, a = some z → ∃ g, z = ⟨g, 0, none⟩ ∧ B ≤ g ∧ g < w.heap.size := by
  obtain ⟨a, c, rfl, h1, h2, h3, h4⟩ := h.form
  refine ⟨a, c, rfl, ⟨rfl, h1, h2, (fun e => by obtain ⟨e1, e2⟩ := h3 e; rw [e1]; exact ⟨rfl, e2⟩), fun x hx => ?_⟩, h4⟩
  obtain ⟨g, rfl, _, hg⟩ := h4 x hx
  subst hx
  exact .inr ⟨g, 0, rfl, hg, fun i y hy j u hu => by rw [Nat.zero_add]; exact h.cell K i y hy j u hu⟩
theorem OwnY.sl' (K : Y.Ok) {B : Nat} {w : World} {a : Option Addr} {n c : Nat} {l : List α} (h : OwnY Y B w (.slice a n c) l) : SlY Y w a n c l := by
  obtain ⟨a', c', e, h1, _⟩ := h.sl K
  injection e with e1 e2 e3
  subst e1 e2 e3
  exact h1

/-- 'append' of what a slice holds, nil too: the row, and whether its block is the old one or a new one. -/
theorem run_appY (K : Y.Ok) (w : World) (ty : TypeId) (B : Nat) (l : List α) (v : Value) (ad : Option Addr) (m c : Nat) (news : List α) (hh : SlY Y w ad m c news) (hown : OwnY Y B w v l) (hB : B ≤ w.heap.size) (hm : l.length + m ≤ maxLen) (hb : (l.length + m) * Y.by_ ≤ 140737488355328) :
    ∃ v' w', (Builtin.append_ #[Y.ST, Y.ST] ty #[v, .slice ad m c]).run Try.prog w = .ok v' w' ∧ OwnY Y B w' v' (l ++ news) ∧ w.grownBy w' v.ownBlock ∧ (v'.ownBlock = v.ownBlock ∨ ∃ k, v'.ownBlock = some k ∧ w.heap.size ≤ k) := by
  obtain ⟨zv, hinfo, hzc⟩ := K.info
  obtain ⟨i0, hi, hz0, hz1, hz2⟩ := info_parts hinfo
  have hzs : zv.cells.size = Y.k := by rw [hzc, List.size_toArray, K.len]
  cases ad with
  | none =>
    obtain ⟨rfl, rfl⟩ := hh.nil rfl
    obtain rfl : news = [] := List.eq_nil_of_length_eq_zero hh.len
    refine ⟨v, w, ?_, by rw [List.append_nil]; exact hown, World.grownBy.refl _ _, .inl rfl⟩
    exact run_append_owned_none (P := Try.prog) (w := w) B Y.ST ty Y.T i0 Y.k K.und hi v l.length (fl Y l) hown
  | some y =>
    have hnews : ∀ j u, (fl Y news)[j]? = some u → w.cell? (y.add j) = some u := fun j u hu => by
      rcases hh.at_ y rfl with e | ⟨q, o, rfl, _, hl⟩
      · subst e; cases hu
      · rw [Addr.add_lit]; exact hl.flat K j u hu
    have hlen : (fl Y news).length = m * Y.k := by rw [fl_length K, hh.len]
    obtain ⟨v', w', hr, h2, h3, h4⟩ := run_append_own (P := Try.prog) w B Y.ST ty Y.T i0 zv Y.k Y.by_ K.und hi hz0 hz1 hz2 hzs K.kp v l.length (fl Y l) hown y m c (fl Y news) hlen hnews (fl_one K news) hm hb hB
    refine ⟨v', w', hr, ?_, h3, ?_⟩
    · unfold OwnY
      rw [fl_append, List.length_append, hh.len]
      exact h2
    · rcases hown.2 with ⟨rfl, hn⟩ | ⟨g, cap, cur, rfl, hbg, hg, hnc, hcm, hcs, htake⟩
      · have hL : l = [] := List.eq_nil_of_length_eq_zero hn
        subst hL
        obtain ⟨v2, w2, hr2, k2, _⟩ := run_append_own (P := Try.prog) w w.heap.size Y.ST ty Y.T i0 zv Y.k Y.by_ K.und hi hz0 hz1 hz2 hzs K.kp (.slice none 0 0) 0 [] (World.ownsRow_nil w _ Y.T Y.k) y m c (fl Y news) hlen hnews (fl_one K news) hm hb (Nat.le_refl _)
        rw [hr] at hr2
        cases hr2
        cases hv : v'.ownBlock with
        | none => exact .inl rfl
        | some k => exact .inr ⟨k, rfl, (World.ownsRow.lt k2 k hv).1⟩
      · by_cases hroom : l.length + m ≤ cap
        · left
          have hfit : l.length * i0.size + (fl Y news).length ≤ cur.size := by rw [hcs, hz1, hlen, ← Nat.add_mul]; exact Nat.mul_le_mul_right _ hroom
          have hr2 := run_append_room (P := Try.prog) w Y.ST ty Y.T i0 K.und hi g l.length cap cur hg y m c (fl Y news) (by rw [hz1]; exact hlen) hnews (fl_one K news) hroom hfit
          rw [hr] at hr2
          cases hr2
          rfl
        · right
          have holds : ∀ j u, (fl Y l)[j]? = some u → w.cell? ((⟨g, 0, none⟩ : Addr).add j) = some u := World.ownsRow.cells hown (g := g) rfl
          have hr2 := run_append_grow (P := Try.prog) w Y.ST ty Y.T i0 zv K.und hi hz0 ⟨g, 0, none⟩ l.length cap (fl Y l) (by rw [hz1]; exact fl_length K l) holds y m c (fl Y news) (by rw [hz1]; exact hlen) hnews (by omega) (by unfold maxLen at hm; omega) (growslice_fits (by omega) (by rw [hz2]; exact hb))
          rw [hr] at hr2
          cases hr2
          exact ⟨_, rfl, Nat.le_refl _⟩
theorem appY (K : Y.Ok) (w : World) {ops : Array Oper} {rest : List Oper} {o : Oper} {a : Act} {Q : Exit → Act → World → Prop} (hgd : o.guard = none) (s x : Operand)
    (ho : o.op = .call { callee := .builtin .append, args := #[s, x], argTypes := #[Y.ST, Y.ST] }) (B : Nat) (l : List α) (v : Value) (hs : a.eval s = v)
    (ad : Option Addr) (m c : Nat) (hx : a.eval x = .slice ad m c) (news : List α) (hh : SlY Y w ad m c news) (hown : OwnY Y B w v l) (hB : B ≤ w.heap.size) (hm : l.length + m ≤ maxLen) (hb : (l.length + m) * Y.by_ ≤ 140737488355328)
    (hk : ∀ v' w', OwnY Y B w' v' (l ++ news) → w.grownBy w' v.ownBlock → (v'.ownBlock = v.ownBlock ∨ ∃ k, v'.ownBlock = some k ∧ w.heap.size ≤ k) → wpList Try.prog ops Q rest (a.put o.dst v') w') : wpList Try.prog ops Q (o :: rest) a w := by
  refine wpList_plain hgd fun K' hK' => ?_
  obtain ⟨v', w', hr, h2, h3, h4⟩ := run_appY K w o.type B l v ad m c news hh hown hB hm hb
  unfold Oper.wp execOp
  simp only [ho, resolve, invoke, builtin, Sem.run_bind, Sem.run_pure, Result.andThen_ok, List.map_toArray, List.map_cons, List.map_nil, hs, hx, hr]
  exact hK' _ _ (hk v' w' h2 h3 h4)
/-- The same at an operation of a region that draws its order. -/
theorem stepY (K : Y.Ok) {ops : Array Oper} {o : Oper} {a : Act} {w : World} {K' : Act → World → Prop} {Q : Exit → Act → World → Prop} {E : Prop} (hg : o.guard = none) (s x : Operand)
    (ho : o.op = .call { callee := .builtin .append, args := #[s, x], argTypes := #[Y.ST, Y.ST] }) (B : Nat) (l : List α) (v : Value) (hs : a.eval s = v)
    (ad : Option Addr) (m c : Nat) (hx : a.eval x = .slice ad m c) (news : List α) (hh : SlY Y w ad m c news) (hown : OwnY Y B w v l) (hB : B ≤ w.heap.size) (hm : l.length + m ≤ maxLen) (hb : (l.length + m) * Y.by_ ≤ 140737488355328)
    (hk : ∀ v' w', OwnY Y B w' v' (l ++ news) → w.grownBy w' v.ownBlock → (v'.ownBlock = v.ownBlock ∨ ∃ k, v'.ownBlock = some k ∧ w.heap.size ≤ k) → K' (a.put o.dst v') w') :
    if Region.wanted o (yielded ops a.tmps) = true then Oper.wp Try.prog o a w K' Q else E := by
  have hw : Region.wanted o (yielded ops a.tmps) = true := by simp [Region.wanted, hg]
  rw [if_pos hw]
  obtain ⟨v', w', hr, h2, h3, h4⟩ := run_appY K w o.type B l v ad m c news hh hown hB hm hb
  unfold Oper.wp execOp
  simp only [ho, resolve, invoke, builtin, Sem.run_bind, Sem.run_pure, Result.andThen_ok, List.map_toArray, List.map_cons, List.map_nil, hs, hx, hr]
  exact hk v' w' h2 h3 h4
theorem madeY (K : Y.Ok) {zc : Array Value} (hzc : zc = (Y.cs Y.z).toArray) (n : Nat) : (madeCells zc (n * Y.k)).toList = fl Y (List.replicate n Y.z) := by
  subst hzc
  apply List.ext_getElem?
  intro j
  by_cases hj : j < n * Y.k
  · obtain ⟨h1, h2, h3⟩ := div_pos_lt K.kp hj
    have hg : (List.replicate n Y.z)[j / Y.k]? = some Y.z := List.getElem?_replicate_of_lt h1
    have := fl_get K _ _ _ hg _ h2
    rw [h3] at this
    rw [this]
    have hk := K.len Y.z
    simp [madeCells, hj, hk]
    rw [List.getElem?_eq_getElem (by rw [hk]; exact h2)]
    simp [hk, h2]
  · rw [List.getElem?_eq_none (by simp [madeCells]; omega), List.getElem?_eq_none (by rw [fl_length K]; simp; omega)]
theorem room_int {a n b : Nat} (e : a = b) (hb : n * b ≤ 140737488355328) : (a : Int) * (n : Int) ≤ 281474976710656 := by
  subst e
  have h : ((n * a : Nat) : Int) ≤ 140737488355328 := by omega
  rw [Int.natCast_mul, Int.mul_comm] at h
  omega
theorem makeY (K : Y.Ok) (w : World) {ops : Array Oper} {rest : List Oper} {o : Oper} {a : Act} {Q : Exit → Act → World → Prop} (hgd : o.guard = none) (x : Operand)
    (ho : o.op = .makeSlice Y.ST x x) (n : Nat) (hx : a.eval x = .int .i64 (n : Int)) (hm : n ≤ maxLen) (hb : n * Y.by_ ≤ 140737488355328)
    (h : ∀ w', OwnY Y w.heap.size w' (.slice (some ⟨w.heap.size, 0, none⟩) n n) (List.replicate n Y.z) → Below w.heap.size w w' → wpList Try.prog ops Q rest (a.put o.dst (.slice (some ⟨w.heap.size, 0, none⟩) n n)) w') : wpList Try.prog ops Q (o :: rest) a w := by
  obtain ⟨zv, hinfo, hzc⟩ := K.info
  obtain ⟨i0, hi, hz0, hz1, hz2⟩ := info_parts hinfo
  unfold maxLen at hm
  have hr := run_make (P := Try.prog) w Y.ST Y.T i0 zv K.und hi hz0 .i64 .i64 n n (by omega) (Int.le_refl _) (room_int hz2 hb) (by omega)
  rw [Int.toNat_natCast, hz1] at hr
  refine wpList_plain hgd fun K' hK' => ?_
  unfold Oper.wp execOp
  simp only [ho, hx, Sem.run_bind, Sem.run_pure, hr, Result.andThen_ok]
  refine hK' _ _ (h _ ?_ ((Below.refl _ _).alloc (Nat.le_refl _) _))
  unfold OwnY
  rw [List.length_replicate, ← madeY K hzc]
  exact World.ownsRow_lit w _ n (Nat.le_refl _) (by unfold maxLen; omega) (size_madeCells _ _)
/-- 'make' of no elements, with room. -/
theorem makeY0 (K : Y.Ok) (w : World) {ops : Array Oper} {rest : List Oper} {o : Oper} {a : Act} {Q : Exit → Act → World → Prop} (hgd : o.guard = none) (y x : Operand)
    (ho : o.op = .makeSlice Y.ST y x) (n : Nat) (hy : a.eval y = .int .i64 0) (hx : a.eval x = .int .i64 (n : Int)) (hm : n ≤ maxLen) (hb : n * Y.by_ ≤ 140737488355328)
    (h : ∀ w', OwnY Y w.heap.size w' (.slice (some ⟨w.heap.size, 0, none⟩) 0 n) [] → Below w.heap.size w w' → wpList Try.prog ops Q rest (a.put o.dst (.slice (some ⟨w.heap.size, 0, none⟩) 0 n)) w') : wpList Try.prog ops Q (o :: rest) a w := by
  obtain ⟨zv, hinfo, hzc⟩ := K.info
  obtain ⟨i0, hi, hz0, hz1, hz2⟩ := info_parts hinfo
  unfold maxLen at hm
  have hr := run_make (P := Try.prog) w Y.ST Y.T i0 zv K.und hi hz0 .i64 .i64 0 n (Int.le_refl _) (by omega) (room_int hz2 hb) (by omega)
  rw [Int.toNat_natCast, hz1] at hr
  refine wpList_plain hgd fun K' hK' => ?_
  unfold Oper.wp execOp
  simp only [ho, hx, hy, Sem.run_bind, Sem.run_pure, hr, Result.andThen_ok]
  refine hK' _ _ (h _ ?_ ((Below.refl _ _).alloc (Nat.le_refl _) _))
  exact World.ownsRow_made w _ n (Nat.le_refl _) (by unfold maxLen; omega) (size_madeCells _ _)

end Go.Proofs.Ytomiifnhcojilaa

namespace Go.Proofs.Ytomiifnhcojilaa
open Go.RowKit Go.Maps
set_option linter.unusedVariables false
set_option linter.unusedSimpArgs false

/-- An element of a map reads as itself. -/
def RV (v : Value) : Option (DataW Value × List MemPlace) := some (.held v, [])
/-- A map at block b whose keys are whole numbers: which value each has. -/
def MapF (w : World) (b n : Nat) (f : Int → Option Value) : Prop := ∃ D : DataW Value, w.ownsMap Try.prog 3 RV b n D ∧ ∀ s z, D.atKey (.int .i64 s) z = match f s with | some v => .held v | none => z
theorem MapF.lt {w : World} {b n : Nat} {f : Int → Option Value} (h : MapF w b n f) : b < w.heap.size := by obtain ⟨D, h1, _⟩ := h; exact h1.lt
theorem MapF.made (w : World) : MapF (w.alloc (.map #[] 0)) w.heap.size 0 (fun _ => none) := ⟨_, World.ownsMap_made w Try.prog 3 RV, fun s z => rfl⟩
theorem MapF.block {w w' : World} {b n : Nat} {f : Int → Option Value} (h : MapF w b n f) (e : w'.heap[b]? = w.heap[b]?) : MapF w' b n f := by
  obtain ⟨D, ⟨es, clock, hb, F, hs, hD⟩, h2⟩ := h
  exact ⟨D, ⟨es, clock, e.trans hb, F, hs, hD⟩, h2⟩
theorem MapF.upd {S : Nat → Prop} {w w' : World} {b n : Nat} {f : Int → Option Value} (h : MapF w b n f) (u : Upd S w w') (hs : ¬ S b) : MapF w' b n f := h.block (u.block b h.lt hs)
theorem MapF.later {w w' : World} {b n : Nat} {f : Int → Option Value} (h : MapF w b n f) (hb : Below w.heap.size w w') : MapF w' b n f := h.block (hb.block b h.lt)
theorem MapF.grown {w w' : World} {b n : Nat} {f : Int → Option Value} (h : MapF w b n f) {row : Option Nat} (hg : w.grownBy w' row) (hne : some b ≠ row) : MapF w' b n f := h.block (hg.block b h.lt hne)
theorem MapF.isMap {w : World} {b n : Nat} {f : Int → Option Value} (h : MapF w b n f) : ∃ es c, w.heap[b]? = some (.map es c) := by
  obtain ⟨D, ⟨es, clock, hb, _⟩, _⟩ := h
  exact ⟨es, clock, hb⟩
theorem MapF.ne {α : Type} {Y : Lay α} {w : World} {b n B : Nat} {f : Int → Option Value} {v : Value} {l : List α} (h : MapF w b n f) (h' : OwnY Y B w v l) : some b ≠ v.ownBlock := fun e => by
  obtain ⟨es, c, hb⟩ := h.isMap
  exact h'.not_map e.symm es c hb
/-- 'm[s]' and 'v, ok := m[s]'. -/
theorem MapF.look {w : World} {b n : Nat} {f : Int → Option Value} (h : MapF w b n f) (c : Bool) {t e : TypeId} (ht : Try.prog.underlying t = some (.map 3 e)) {z : Value} (hz : (zeroValue e).run Try.prog w = .ok z w) {s : Int} (hw : (Lit.int .i64 s).wf = true) :
    (Instr.lookup t (.map (some b)) (.int .i64 s) c).run Try.prog w = .ok (if c then .tuple #[(f s).getD z, .bool (f s).isSome] else (f s).getD z) w := by
  obtain ⟨D, ⟨es, clock, hb, F, hs, hD⟩, h2⟩ := h
  have hkey := keyOf_int_mk Try.underlying3 hw
  have h3 := h2 s
  subst hD
  rcases Maps.fit_look c keyed ht hz hb F hkey with ⟨hrun, _, hat⟩ | ⟨e0, y, _, _, hrun, hRv, hat, _⟩
  · have : f s = none := by
      cases hf : f s with
      | none => rfl
      | some v =>
        have h4 := h3 .nil
        rw [hat .nil, hf] at h4
        cases h4
    rw [hrun, this]
    rfl
  · have : f s = some e0.val := by
      have h4 := h3 .nil
      rw [hat .nil] at h4
      simp [RV] at hRv
      rw [← hRv] at h4
      cases hf : f s with
      | none => rw [hf] at h4; cases h4
      | some v => rw [hf] at h4; exact congrArg some (DataW.held.inj h4).symm
    rw [hrun, this]
    rfl
theorem MapF.len {w : World} {b n : Nat} {f : Int → Option Value} (h : MapF w b n f) {t e : TypeId} (ht : Try.prog.underlying t = some (.map 3 e)) : ∃ m : Nat, m ≤ n ∧ ∀ ty, (Builtin.len_ #[t] ty #[.map (some b)]).run Try.prog w = .ok (.int .i64 (m : Int)) w := by
  obtain ⟨D, h1, _⟩ := h
  exact ⟨Maps.size D, h1.size_le, fun ty => h1.len ht ty⟩
theorem MapF.put {w : World} {b n : Nat} {f : Int → Option Value} (h : MapF w b n f) {s : Int} {val : Value} {w' : World} {D : DataW Value} (hD : ∀ s z, D.atKey (.int .i64 s) z = match f s with | some v => .held v | none => z) (him : Maps.IsMap D) (h' : w'.ownsMap Try.prog 3 RV b (n + 1) (D.put (.int .i64 s) (.held val))) : MapF w' b (n + 1) (fun s' => if s' = s then some val else f s') := by
  refine ⟨_, h', fun s' z => ?_⟩
  by_cases e : s' = s
  · subst e
    rw [Maps.atKey_put_same him (by trivial)]
    simp
  · rw [Maps.atKey_put_other (by simpa using e), hD]
    simp [e]
/-- 'm[s] = v' at the operation. -/
theorem mapF_put (w : World) {ops : Array Oper} {rest : List Oper} {o : Oper} {a : Act} {Q : Exit → Act → World → Prop} (hg : o.guard = none) (m x v : Operand) (t : TypeId) (hop : o.op = Op.mapUpdate t m x v)
    (e : TypeId) (ht : Try.prog.underlying t = some (.map 3 e)) (b n : Nat) (f : Int → Option Value) (hm : a.eval m = .map (some b)) (hown : MapF w b n f) (hn : n < maxLen) (s : Int) (hw : (Lit.int .i64 s).wf = true) (val : Value) (hx : a.eval x = .int .i64 s) (hv : a.eval v = val)
    (hK : ∀ w', MapF w' b (n + 1) (fun s' => if s' = s then some val else f s') → w.grownBy w' (some b) → wpList Try.prog ops Q rest (a.put o.dst undef) w') : wpList Try.prog ops Q (o :: rest) a w := by
  obtain ⟨D, h1, h2⟩ := hown
  exact wpList_mapUpdate_own w hg m x v t hop 3 e keyed ht RV b n D hm h1 hn _ val _ hx hv (keyOf_int_mk Try.underlying3 hw) (.held val) [] rfl (fun w' h3 h4 => hK w' (MapF.put ⟨D, h1, h2⟩ h2 h1.isMap h3) h4)

end Go.Proofs.Ytomiifnhcojilaa

namespace Go.Proofs.Ytomiifnhcojilaa
open Go.RowKit Go.Maps
set_option linter.unusedVariables false
set_option linter.unusedSimpArgs false
variable {α : Type} {Y : Lay α}

theorem fl_splice (K : Y.Ok) {l : List α} {i j : Nat} {e e' : α} (he : l[i]? = some e) {xs : List Value} (hj : j + xs.length ≤ Y.k) (hc : Y.cs e' = (Y.cs e).take j ++ xs ++ (Y.cs e).drop (j + xs.length)) :
    fl Y (l.set i e') = (fl Y l).take (i * Y.k + j) ++ xs ++ (fl Y l).drop (i * Y.k + j + xs.length) := by
  have hi := (List.getElem?_eq_some_iff.1 he).1
  have hge := (List.getElem?_eq_some_iff.1 he).2
  have hl : l = l.take i ++ e :: l.drop (i + 1) := by
    rw [← hge, ← List.drop_eq_getElem_cons hi, List.take_append_drop]
  have h1 : l.set i e' = l.take i ++ e' :: l.drop (i + 1) := List.set_eq_take_append_cons_drop.trans (by rw [if_pos hi])
  have h2 : fl Y l = fl Y (l.take i) ++ (Y.cs e ++ fl Y (l.drop (i + 1))) := by
    conv => lhs; rw [hl, fl_append, fl]
  have hA : (fl Y (l.take i)).length = i * Y.k := by rw [fl_length K, List.length_take, Nat.min_eq_left (by omega)]
  have hC : (Y.cs e).length = Y.k := K.len e
  rw [h1, fl_append, fl, h2, hc]
  rw [List.take_append, List.take_of_length_le (l := fl Y (l.take i)) (by omega), hA, Nat.add_sub_cancel_left, List.take_append_of_le_length (by omega)]
  rw [Nat.add_assoc, List.drop_append, List.drop_of_length_le (l := fl Y (l.take i)) (by omega), hA, Nat.add_sub_cancel_left, List.nil_append, List.drop_append_of_le_length (by omega)]
  simp only [List.append_assoc]
theorem splice_take {A xs : List Value} {p m : Nat} (h : p + xs.length ≤ m) : (A.take p ++ xs ++ A.drop (p + xs.length)).take m = (A.take m).take p ++ xs ++ (A.take m).drop (p + xs.length) := by
  apply List.ext_getElem?
  intro q
  by_cases h0 : q < m
  · rw [List.getElem?_take, if_pos h0]
    by_cases hA : p ≤ A.length
    · have l1 : (A.take p).length = p := by rw [List.length_take]; omega
      have l2 : ((A.take m).take p).length = p := by rw [List.length_take, List.length_take]; omega
      by_cases h1 : q < p
      · rw [List.append_assoc, List.append_assoc, List.getElem?_append_left (by omega), List.getElem?_append_left (by omega), List.take_take, Nat.min_eq_left (by omega)]
      · by_cases h2 : q < p + xs.length
        · have t : ∀ (P D : List Value), P.length = p → (P ++ xs ++ D)[q]? = xs[q - p]? := fun P D hP => by
            rw [List.append_assoc, List.getElem?_append_right (by omega), hP, List.getElem?_append_left (by omega)]
          rw [t _ _ l1, t _ _ l2]
        · have t : ∀ (P D : List Value), P.length = p → (P ++ xs ++ D)[q]? = D[q - p - xs.length]? := fun P D hP => by
            rw [List.append_assoc, List.getElem?_append_right (by omega), hP, List.getElem?_append_right (by omega)]
          rw [t _ _ l1, t _ _ l2, List.getElem?_drop, List.getElem?_drop, List.getElem?_take, if_pos (by omega)]
    · have e1 : A.take p = A := List.take_of_length_le (by omega)
      have e2 : A.take m = A := List.take_of_length_le (by omega)
      rw [e1, e2, e1]
  · rw [List.getElem?_take, if_neg h0]
    symm
    apply List.getElem?_eq_none
    simp only [List.length_append, List.length_take, List.length_drop]
    omega
/-- A store into an element of a row of the call's own, the whole or a piece of it. -/
theorem storeY (K : Y.Ok) (w : World) {ops : Array Oper} {rest : List Oper} {o : Oper} {a : Act} {Q : Exit → Act → World → Prop} (hgd : o.guard = none) (ty : TypeId) (x y : Operand) (ho : o.op = .store ty x y)
    (B g n c : Nat) (l : List α) (i j : Nat) (e e' : α) (v : Value) (hx : a.eval x = .pointer (some ⟨g, i * Y.k + j, none⟩)) (hy : a.eval y = v) (he : l[i]? = some e) (hi : (Try.prog.info? ty).map (·.size) = some v.cells.size)
    (hj : j + v.cells.size ≤ Y.k) (hc : Y.cs e' = (Y.cs e).take j ++ v.cells.toList ++ (Y.cs e).drop (j + v.cells.toList.length)) (hown : OwnY Y B w (.slice (some ⟨g, 0, none⟩) n c) l)
    (hk : ∀ w', OwnY Y B w' (.slice (some ⟨g, 0, none⟩) n c) (l.set i e') → Upd (fun b => b = g) w w' → w'.heap.size = w.heap.size → wpList Try.prog ops Q rest (a.put o.dst undef) w') : wpList Try.prog ops Q (o :: rest) a w := by
  refine wpList_plain hgd fun K' hK' => ?_
  have hlt := (List.getElem?_eq_some_iff.1 he).1
  rcases hown with ⟨h0, h1 | ⟨g1, cap, cur, e1, e2, e3, e4, e5, e6, e7⟩⟩
  · have := h1.1; cases this
  · injection e1 with q1 q2 q3
    injection q1 with q1
    cases q1
    subst q3
    have hsz : l.length * Y.k ≤ cur.size := by rw [e6]; exact Nat.mul_le_mul_right _ e4
    have hlen : v.cells.toList.length = v.cells.size := by simp
    have hfit : i * Y.k + j + v.cells.toList.length ≤ l.length * Y.k := by
      have : (i + 1) * Y.k ≤ l.length * Y.k := Nat.mul_le_mul_right _ hlt
      rw [Nat.add_mul] at this
      omega
    have hrun := run_storeCells_at (P := Try.prog) g (i * Y.k + j) Y.T v.cells.toList 0 cur w e3 (by omega) (fun u hu => K.one e' u (by rw [hc]; exact List.mem_append_left _ (List.mem_append_right _ hu)))
    rw [Nat.add_zero] at hrun
    have hst : (Instr.storeAt ty (.pointer (some ⟨g, i * Y.k + j, none⟩)) v).run Try.prog w = .ok () (w.setRow g (cur.toList.take (i * Y.k + j) ++ v.cells.toList ++ cur.toList.drop (i * Y.k + j + v.cells.toList.length)).toArray) := by
      cases hq : Try.prog.info? ty with
      | none => rw [hq] at hi; cases hi
      | some t =>
        have hs : v.cells.size = t.size := by simp [hq] at hi; omega
        simp [Instr.storeAt, Instr.sureAddr, storeVar, sizeOf, typeInfo, hq, hs]
        rw [← hs]
        simpa using hrun
    unfold Oper.wp execOp
    simp only [ho, hx, hy, Sem.run_bind, Sem.run_pure, Result.andThen_ok, hst]
    refine hK' _ _ (hk _ ?_ ⟨rfl, rfl, rfl, by simp, fun b hb hs => setRow_other w g b _ hs⟩ (by simp))
    refine ⟨by rw [fl_length K], .inr ⟨g, c, _, ?_, e2, setRow_heap w g cur _ Y.T (0, 0) e3, ?_, e5, ?_, ?_⟩⟩
    · rw [List.length_set, ← q2]
    · rw [List.length_set]; exact e4
    · rw [List.size_toArray, ← e6]
      simp only [List.length_append, List.length_take, List.length_drop, Array.length_toList]
      omega
    · rw [List.length_set, fl_splice K he (by rw [hlen]; exact hj) hc, ← e7]
      exact splice_take hfit

end Go.Proofs.Ytomiifnhcojilaa

namespace Go.Proofs.Ytomiifnhcojilaa
open Go.RowKit Go.Maps
set_option linter.unusedVariables false
set_option linter.unusedSimpArgs false

/-- A slice that a row keeps, and what it holds. -/
structure SV (α : Type) where
  a : Option Addr
  c : Nat
  D : List α
def SV.v {α : Type} (x : SV α) : Value := .slice x.a x.D.length x.c
/-- Rows of slices. -/
def yS (α : Type) (T ST : TypeId) : Lay (SV α) := ⟨T, ST, 1, 24, fun x => [.slice x.a x.D.length x.c], ⟨none, 0, []⟩⟩
theorem kS {α : Type} {T ST : TypeId} (hu : Try.prog.underlying ST = some (.slice T)) (hi : (Try.prog.info? T).map (fun i => (i.zero, i.size, i.bytes)) = some (some (.slice none 0 0), 1, 24)) : (yS α T ST).Ok :=
  ⟨by show 0 < 1; omega, fun x => rfl, fun x u h => by simp [yS] at h; subst h; rfl, hu, ⟨.slice none 0 0, hi, rfl⟩⟩
theorem setc_ne {w : World} {b i j : Nat} {u x : Value} (h : w.cell? ⟨b, i, none⟩ = some x) (hne : i ≠ j) : (w.setCell ⟨b, j, none⟩ u).cell? ⟨b, i, none⟩ = some x := by
  have hn : j ≠ i := fun e => hne e.symm
  go_simp
theorem setc_eq {w : World} {b i : Nat} {u x : Value} (h : w.cell? ⟨b, i, none⟩ = some x) : (w.setCell ⟨b, i, none⟩ u).cell? ⟨b, i, none⟩ = some u := by
  go_simp
theorem setf {w : World} {b i j : Nat} {u : Value} (h : w.frozen? ⟨b, i, none⟩ = false) : (w.setCell ⟨b, j, none⟩ u).frozen? ⟨b, i, none⟩ = false := by
  go_simp
theorem gcell {w w' : World} {row : Option Nat} (h : w.grownBy w' row) {b i : Nat} {x : Value} (hc : w.cell? ⟨b, i, none⟩ = some x) (hne : row ≠ some b) : w'.cell? ⟨b, i, none⟩ = some x :=
  h.cell hc (fun e => hne e.symm)
theorem gfroz {w w' : World} {row : Option Nat} (h : w.grownBy w' row) {b i : Nat} (hb : b < w.heap.size) (hc : w.frozen? ⟨b, i, none⟩ = false) (hne : row ≠ some b) : w'.frozen? ⟨b, i, none⟩ = false :=
  (World.frozen?_of_block (w := w) (h.block b hb (fun e => hne e.symm))).trans hc
theorem gupd {w w' : World} {row : Option Nat} (h : w.grownBy w' row) {S : Nat → Prop} (hs : ∀ k, row = some k → S k) : Upd S w w' :=
  ⟨h.os, h.tape, h.output, h.size, fun k hk hn => h.block k hk (fun e => hn (hs k e.symm))⟩
variable {α β : Type} {Y : Lay α} {Z : Lay β}
theorem OwnY.grownZ {B B' : Nat} {w w' : World} {v v2 : Value} {D : List α} {L : List β} (h : OwnY Y B w v D) (hv : OwnY Z B' w v2 L) (hT : Y.T ≠ Z.T) (hg : w.grownBy w' v2.ownBlock) : OwnY Y B w' v D := by
  refine World.ownsRow.kept h hg ?_
  cases e : v.ownBlock with
  | none => exact .inl rfl
  | some k => exact .inr (fun e' => h.apart hv hT k e e'.symm)
theorem OwnY.grownN {B : Nat} {w w' : World} {v v2 : Value} {D : List α} (h : OwnY Y B w v D) (hg : w.grownBy w' v2.ownBlock) (hne : ∀ k, v.ownBlock = some k → v2.ownBlock = some k → False) : OwnY Y B w' v D := by
  refine World.ownsRow.kept h hg ?_
  cases e : v.ownBlock with
  | none => exact .inl rfl
  | some k => exact .inr (fun e' => hne k e e'.symm)
theorem OwnY.low_set {B : Nat} {w : World} {v : Value} {D : List α} (h : OwnY Y B w v D) {p : Addr} (hp : p.block < B) (u : Value) : OwnY Y B (w.setCell p u) v D := ownsRow_setCell_below h hp u
/-- A Given at block b: of the cells p and p + 1 what it keeps, and how that was; the other cells hold E. -/
structure GY (Y : Lay α) (Z : Lay (SV α)) (p : Nat) (E : Nat → Value) (w : World) (b B : Nat) (va vb : Value) (La Lb : List (SV α)) : Prop where
  lt : b < B
  ltB : B ≤ w.heap.size
  ca : w.cell? ⟨b, p, none⟩ = some va
  cb : w.cell? ⟨b, p + 1, none⟩ = some vb
  fa : w.frozen? ⟨b, p, none⟩ = false
  fb : w.frozen? ⟨b, p + 1, none⟩ = false
  ce : ∀ i, i < 10 → i ≠ p → i ≠ p + 1 → w.cell? ⟨b, i, none⟩ = some (E i)
  oa : OwnY Z B w va La
  ob : OwnY Z B w vb Lb
  ne : ∀ k, va.ownBlock = some k → vb.ownBlock = some k → False
  da : ∀ x, x ∈ La → OwnY Y B w x.v x.D
  db : ∀ x, x ∈ Lb → OwnY Y B w x.v x.D
variable {Z : Lay (SV α)} {p : Nat} {E : Nat → Value}
theorem GY.bel {w w' : World} {b B : Nat} {va vb : Value} {La Lb : List (SV α)} (h : GY Y Z p E w b B va vb La Lb) (hb : Below w.heap.size w w') : GY Y Z p E w' b B va vb La Lb := by
  have hlt : b < w.heap.size := Nat.lt_of_lt_of_le h.lt h.ltB
  exact ⟨h.lt, Nat.le_trans h.ltB hb.size, (hb.cell (p := ⟨b, _, none⟩) hlt).trans h.ca, (hb.cell (p := ⟨b, _, none⟩) hlt).trans h.cb, (hb.frozen (p := ⟨b, _, none⟩) hlt).trans h.fa, (hb.frozen (p := ⟨b, _, none⟩) hlt).trans h.fb, fun i h0 h1 h2 => (hb.cell (p := ⟨b, _, none⟩) hlt).trans (h.ce i h0 h1 h2), h.oa.grow hb, h.ob.grow hb, h.ne, fun x hx => (h.da x hx).grow hb, fun x hx => (h.db x hx).grow hb⟩
/-- A new Given. -/
theorem GY.new (Y : Lay α) (Z : Lay (SV α)) (p : Nat) (hp : p + 1 < 10) (w : World) (t : TypeId) : GY Y Z p (fun _ => .slice none 0 0) (w.alloc (.cells #[.slice none 0 0, .slice none 0 0, .slice none 0 0, .slice none 0 0, .slice none 0 0, .slice none 0 0, .slice none 0 0, .slice none 0 0, .slice none 0 0, .slice none 0 0] t)) w.heap.size (w.heap.size + 1) (.slice none 0 0) (.slice none 0 0) [] [] := by
  have hc : ∀ i, i < 10 → (w.alloc (.cells #[.slice none 0 0, .slice none 0 0, .slice none 0 0, .slice none 0 0, .slice none 0 0, .slice none 0 0, .slice none 0 0, .slice none 0 0, .slice none 0 0, .slice none 0 0] t)).cell? ⟨w.heap.size, i, none⟩ = some (.slice none 0 0) := by
    intro i hi
    rw [World.cell?_alloc_at _ _ _ _ rfl]
    rcases (by omega : i = 0 ∨ i = 1 ∨ i = 2 ∨ i = 3 ∨ i = 4 ∨ i = 5 ∨ i = 6 ∨ i = 7 ∨ i = 8 ∨ i = 9) with rfl | rfl | rfl | rfl | rfl | rfl | rfl | rfl | rfl | rfl <;> rfl
  exact ⟨Nat.lt_succ_self _, by simp, hc p (by omega), hc (p + 1) hp, by simp, by simp, fun i h0 _ _ => hc i h0, OwnY.nil _ _ _, OwnY.nil _ _ _, (fun k h => by cases h), (fun p hp => by cases hp), (fun p hp => by cases hp)⟩
theorem GY.pushA {w w3 : World} {b B : Nat} {va vb va' : Value} {La Lb : List (SV α)} {x : SV α} (hT : Y.T ≠ Z.T) (G : GY Y Z p E w b B va vb La Lb) (hx : OwnY Y B w x.v x.D) (g3 : w.grownBy w3 va.ownBlock) (o3 : OwnY Z B w3 va' (La ++ [x])) (n3 : va'.ownBlock = va.ownBlock ∨ ∃ k, va'.ownBlock = some k ∧ w.heap.size ≤ k) :
    GY Y Z p E (w3.setCell ⟨b, p, none⟩ va') b B va' vb (La ++ [x]) Lb := by
  have hlt : b < w.heap.size := Nat.lt_of_lt_of_le G.lt G.ltB
  have hrow : va.ownBlock ≠ some b := fun e => by have := (G.oa.blk b e).1; have := G.lt; omega
  have ob : (⟨b, p, none⟩ : Addr).block < B := G.lt
  refine ⟨G.lt, by simpa [World.setCell] using Nat.le_trans G.ltB g3.size, setc_eq (gcell g3 G.ca hrow), setc_ne (gcell g3 G.cb hrow) (by omega), setf (gfroz g3 hlt G.fa hrow), setf (gfroz g3 hlt G.fb hrow), fun i h0 h1 h2 => setc_ne (gcell g3 (G.ce i h0 h1 h2) hrow) h1, o3.low_set ob _, (OwnY.grownN G.ob g3 (fun k e e' => G.ne k e' e)).low_set ob _, ?_, fun y hy => ?_, fun y hy => ((G.db y hy).grownZ G.oa hT g3).low_set ob _⟩
  · intro k e e'
    rcases n3 with n3 | ⟨k', hk, hk2⟩
    · exact G.ne k (n3.symm.trans e) e'
    · rw [hk] at e
      cases e
      have := (G.ob.blk k e').2
      omega
  · rcases List.mem_append.1 hy with hy | hy
    · exact ((G.da y hy).grownZ G.oa hT g3).low_set ob _
    · simp at hy
      subst hy
      exact (hx.grownZ G.oa hT g3).low_set ob _
theorem GY.pushB {w w3 : World} {b B : Nat} {va vb vb' : Value} {La Lb : List (SV α)} {x : SV α} (hT : Y.T ≠ Z.T) (G : GY Y Z p E w b B va vb La Lb) (hx : OwnY Y B w x.v x.D) (g3 : w.grownBy w3 vb.ownBlock) (o3 : OwnY Z B w3 vb' (Lb ++ [x])) (n3 : vb'.ownBlock = vb.ownBlock ∨ ∃ k, vb'.ownBlock = some k ∧ w.heap.size ≤ k) :
    GY Y Z p E (w3.setCell ⟨b, p + 1, none⟩ vb') b B va vb' La (Lb ++ [x]) := by
  have hlt : b < w.heap.size := Nat.lt_of_lt_of_le G.lt G.ltB
  have hrow : vb.ownBlock ≠ some b := fun e => by have := (G.ob.blk b e).1; have := G.lt; omega
  have ob : (⟨b, p + 1, none⟩ : Addr).block < B := G.lt
  refine ⟨G.lt, by simpa [World.setCell] using Nat.le_trans G.ltB g3.size, setc_ne (gcell g3 G.ca hrow) (by omega), setc_eq (gcell g3 G.cb hrow), setf (gfroz g3 hlt G.fa hrow), setf (gfroz g3 hlt G.fb hrow), fun i h0 h1 h2 => setc_ne (gcell g3 (G.ce i h0 h1 h2) hrow) h2, (OwnY.grownN G.oa g3 (fun k e e' => G.ne k e e')).low_set ob _, o3.low_set ob _, ?_, fun y hy => ((G.da y hy).grownZ G.ob hT g3).low_set ob _, fun y hy => ?_⟩
  · intro k e e'
    rcases n3 with n3 | ⟨k', hk, hk2⟩
    · exact G.ne k e (n3.symm.trans e')
    · rw [hk] at e'
      cases e'
      have := (G.oa.blk k e).2
      omega
  · rcases List.mem_append.1 hy with hy | hy
    · exact ((G.db y hy).grownZ G.ob hT g3).low_set ob _
    · simp at hy
      subst hy
      exact (hx.grownZ G.ob hT g3).low_set ob _
/-- A beginning of a row of the call's own. -/
theorem OwnY.front (K : Y.Ok) {w : World} {g n c k B : Nat} {D F : List α} (h : OwnY Y B w (.slice (some ⟨g, 0, none⟩) k c) (D ++ F)) (hn : D.length = n) : SlY Y w (some ⟨g, 0, none⟩) n c D := by
  have := (h.sl' K).take n (by have := (h.sl' K).len; rw [List.length_append] at this; omega)
  rw [List.take_append_of_le_length (by omega), List.take_of_length_le (by omega)] at this
  exact this

end Go.Proofs.Ytomiifnhcojilaa
