import Derived.Test.YtfafhlahbhopaaaRows
import Derived.Maps.OwnSet
import Derived.Maps.RangeWalk
import Derived.WalkKit
import Derived.WalkSpells
import Derived.WalkLawsBesides
import Derived.Below
import Derived.Deep.QuietTactic
import Derived.BigQuiet
import Derived.Deep.RegionWith
import Derived.Deep.RegionLaw
import Derived.Deep.Light
import Derived.Deep.RegionHeld3
import Derived.Laws.OwnMore
import Derived.Laws.StructEq
import Derived.Laws.AppendOwnNone
import Derived.Sort.OwnSorted
import Derived.Maps.Views
import Derived.Laws.CopyRow
import Derived.Deep.MidRow
import Derived.Deep.Cut
import Derived.OrdersHeld
set_option maxRecDepth 100000
set_option linter.unusedVariables false
set_option linter.unusedSimpArgs false
namespace Go.Proofs.Ytfafhlahbhopaaa
abbrev Cl := Int × ByteArray
def gv (L : List Cl) (s : Int) : Option ByteArray := (L.find? (fun p => p.1 == s)).map (·.2)
def bh : List Cl → Int
  | [] => 0
  | p :: r => max (p.1 + 1) (bh r)
def ins (p : Cl) : List Cl → List Cl
  | [] => [p]
  | y :: r => if p.1 < y.1 then p :: y :: r else y :: ins p r
structure Ok (L : List Cl) : Prop where
  up : L.Pairwise (fun p q => p.1 < q.1)
  may : ∀ p ∈ L, 0 ≤ p.1 ∧ p.1 < 1024 ∧ p.2.size ≤ 64
def cR (v : Value) : Option (DataW Unit × List MemPlace) :=
  match v with
  | .agg a => match a.toList with
    | [.int .i64 s, .string x] => some (.agg [.lit (.int .i64 s), .lit (.string x.data.toList)], [])
    | _ => none
  | _ => none
def cD (p : Cl) : DataW Unit := .agg [.lit (.int .i64 p.1), .lit (.string p.2.data.toList)]
def mD (L : List Cl) : DataW Unit := .map (L.map fun p => (.int .i64 p.1, cD p))
def ck (k s : Int) (v : ByteArray) : Int :=
  if k = 1 ∨ k = 3 then
    if s < 0 ∨ 1024 ≤ s then 41 else if (if k = 1 then 64 else 0) < v.size then 42 else 0
  else if k = 2 ∨ k = 4 then
    if s ≠ 0 then 41 else if (if k = 2 then 64 else 0) < v.size then 42 else 0
  else 40
def wd (L : List Cl) (k s : Int) (v : ByteArray) : Int × Int × ByteArray :=
  if ck k s v ≠ 0 then (0, 0, ByteArray.empty)
  else if k = 1 then match gv L s with
    | some x => (2, s, x)
    | none => (1, s, v)
  else if k = 2 then (if bh L < 1024 then (1, bh L, v) else (3, 0, ByteArray.empty))
  else if k = 3 then match gv L s with
    | some x => (4, s, x)
    | none => (5, s, ByteArray.empty)
  else (6, L.length, ByteArray.empty)
def dn (L : List Cl) (k s : Int) (v : ByteArray) : List Cl := if (wd L k s v).1 = 1 then ins (wd L k s v).2 L else L
end Go.Proofs.Ytfafhlahbhopaaa
namespace Go.Proofs.Ytfafhlahbhopaaa
open Go.RowKit Go.Maps
theorem hide {p : Prop} (h : p) : Hid p := h
structure Upd (S : Nat → Prop) (w w' : World) : Prop where
  os : w'.os = w.os
  tape : w'.tape = w.tape
  output : w'.output = w.output
  size : w.heap.size ≤ w'.heap.size
  block : ∀ k, k < w.heap.size → ¬ S k → w'.heap[k]? = w.heap[k]?
theorem Upd.refl (S : Nat → Prop) (w : World) : Upd S w w := ⟨rfl, rfl, rfl, Nat.le_refl _, fun _ _ _ => rfl⟩
theorem Upd.trans {S : Nat → Prop} {a b c : World} (h : Upd S a b) (k : Upd S b c) : Upd S a c :=
  ⟨k.os.trans h.os, k.tape.trans h.tape, k.output.trans h.output, Nat.le_trans h.size k.size, fun i hi hs => (k.block i (Nat.lt_of_lt_of_le hi h.size) hs).trans (h.block i hi hs)⟩
theorem Upd.mono {S T : Nat → Prop} {w w' : World} (h : Upd S w w') (hs : ∀ k, k < w.heap.size → S k → T k) : Upd T w w' :=
  ⟨h.os, h.tape, h.output, h.size, fun k hk ht => h.block k hk (fun h2 => ht (hs k hk h2))⟩
theorem Upd.below {S : Nat → Prop} {w w' : World} {B : Nat} (h : Upd S w w') (hB : B ≤ w.heap.size) (hs : ∀ k, S k → B ≤ k) : Below B w w' :=
  ⟨h.os, h.tape, h.output, h.size, fun k hk => h.block k (by omega) (fun h2 => by have := hs k h2; omega)⟩
theorem Upd.of_below {S : Nat → Prop} {w w' : World} (h : Below w.heap.size w w') : Upd S w w' :=
  ⟨h.os, h.tape, h.output, h.size, fun k hk _ => h.block k hk⟩
theorem Upd.setCell {S : Nat → Prop} {a w : World} (h : Upd S a w) {p : Addr} (hp : S p.block ∨ a.heap.size ≤ p.block) (u : Value) : Upd S a (w.setCell p u) :=
  ⟨h.os, h.tape, h.output, by simpa [World.setCell] using h.size, fun k hk hs => (Below.heap_setCell w p u k (fun e => by
    rcases hp with hp | hp
    · exact hs (e ▸ hp)
    · omega)).trans (h.block k hk hs)⟩
theorem Upd.cell {S : Nat → Prop} {w w' : World} (h : Upd S w w') {p : Addr} (hp : p.block < w.heap.size) (hs : ¬ S p.block) : w'.cell? p = w.cell? p := World.cell?_of_block (w := w) (h.block p.block hp hs)
structure Opn where
  k : Int
  s : Int
  v : ByteArray
abbrev Own (w : World) (b n : Nat) (L : List Cl) : Prop := w.ownsMap Try.prog 3 cR b n (mD L)
theorem belN {B : Nat} {w w' : World} (h : Below B w w') (n : Nat) : Below B w (w'.drewN n) := ⟨h.os, h.tape, h.output, h.size, h.block⟩
end Go.Proofs.Ytfafhlahbhopaaa
namespace Go.Proofs.Ytfafhlahbhopaaa
open Go.RowKit Go.Maps
end Go.Proofs.Ytfafhlahbhopaaa
namespace Go.Proofs.Ytfafhlahbhopaaa
open Go.RowKit Go.Maps
end Go.Proofs.Ytfafhlahbhopaaa
namespace Go.Proofs.Ytfafhlahbhopaaa
open Go.RowKit Go.Maps
end Go.Proofs.Ytfafhlahbhopaaa
namespace Go.Proofs.Ytfafhlahbhopaaa
open Go.RowKit Go.Maps
end Go.Proofs.Ytfafhlahbhopaaa
namespace Go.Proofs.Ytfafhlahbhopaaa
open Go.RowKit Go.Maps
theorem bytes_inj (a b : ByteArray) : a.toList = b.toList ↔ a = b := by
  rw [ByteArray.toList_eq, ByteArray.toList_eq]
  obtain ⟨⟨x⟩⟩ := a
  obtain ⟨⟨y⟩⟩ := b
  simp
end Go.Proofs.Ytfafhlahbhopaaa
namespace Go.Proofs.Ytfafhlahbhopaaa
open Go.RowKit Go.Maps
theorem info_parts {P : Program} {t : TypeId} {z : Option Value} {s b : Nat} (h : (P.info? t).map (fun i => (i.zero, i.size, i.bytes)) = some (z, s, b)) : ∃ i, P.info? t = some i ∧ i.zero = z ∧ i.size = s ∧ i.bytes = b := by
  cases h2 : P.info? t with
  | none => rw [h2] at h; cases h
  | some i =>
    rw [h2] at h
    simp at h
    exact ⟨i, rfl, h.1, h.2.1, h.2.2⟩
end Go.Proofs.Ytfafhlahbhopaaa
namespace Go.Proofs.Ytfafhlahbhopaaa
open Go.RowKit
structure Lay (α : Type) where
  T : TypeId
  ST : TypeId
  k : Nat
  by_ : Nat
  cs : α → List Value
  z : α
structure Lay.Ok {α : Type} (Y : Lay α) : Prop where
  kp : 0 < Y.k
  len : ∀ x, (Y.cs x).length = Y.k
  one : ∀ x u, u ∈ Y.cs x → u.oneCell' = true
  und : Try.prog.underlying Y.ST = some (.slice Y.T)
  info : ∃ zv : Value, (Try.prog.info? Y.T).map (fun i => (i.zero, i.size, i.bytes)) = some (some zv, Y.k, Y.by_) ∧ zv.cells = (Y.cs Y.z).toArray
variable {α : Type} {Y : Lay α}
def fl (Y : Lay α) : List α → List Value
  | [] => []
  | x :: r => Y.cs x ++ fl Y r
theorem fl_length (K : Y.Ok) : ∀ l : List α, (fl Y l).length = l.length * Y.k
  | [] => by simp [fl]
  | x :: r => by rw [fl, List.length_append, fl_length K r, K.len, List.length_cons, Nat.add_mul]; omega
theorem fl_append : ∀ l m : List α, fl Y (l ++ m) = fl Y l ++ fl Y m
  | [], m => rfl
  | x :: r, m => by simp only [fl, List.cons_append, fl_append r m, List.append_assoc]
theorem fl_get (K : Y.Ok) : ∀ (l : List α) (i : Nat) (x : α), l[i]? = some x → ∀ j, j < Y.k → (fl Y l)[i * Y.k + j]? = (Y.cs x)[j]?
  | [], i, x, h, j, hj => by simp at h
  | y :: r, 0, x, h, j, hj => by
    simp at h; subst h
    rw [fl, Nat.zero_mul, Nat.zero_add, List.getElem?_append_left (by rw [K.len]; exact hj)]
  | y :: r, i + 1, x, h, j, hj => by
    have h' : r[i]? = some x := by simpa using h
    rw [fl, List.getElem?_append_right (by rw [K.len, Nat.add_mul]; omega), K.len, show (i + 1) * Y.k + j - Y.k = i * Y.k + j by rw [Nat.add_mul]; omega]
    exact fl_get K r i x h' j hj
theorem fl_one (K : Y.Ok) : ∀ (l : List α) (u : Value), u ∈ fl Y l → u.oneCell' = true
  | [], u, h => by cases h
  | x :: r, u, h => by
    rcases List.mem_append.1 h with h | h
    · exact K.one x u h
    · exact fl_one K r u h
theorem div_pos_lt {j n k : Nat} (hk : 0 < k) (h : j < n * k) : j / k < n ∧ j % k < k ∧ j / k * k + j % k = j :=
  ⟨Nat.div_lt_of_lt_mul (by rw [Nat.mul_comm]; exact h), Nat.mod_lt _ hk, by rw [Nat.mul_comm]; exact Nat.div_add_mod j k⟩
theorem fl_inv (K : Y.Ok) (l : List α) (j : Nat) (u : Value) (h : (fl Y l)[j]? = some u) : ∃ x, l[j / Y.k]? = some x ∧ (Y.cs x)[j % Y.k]? = some u := by
  have hj := (List.getElem?_eq_some_iff.1 h).1
  rw [fl_length K] at hj
  obtain ⟨h1, h2, h3⟩ := div_pos_lt K.kp hj
  refine ⟨_, List.getElem?_eq_getElem h1, ?_⟩
  rw [← fl_get K l _ _ (List.getElem?_eq_getElem h1) _ h2, h3]
  exact h
def OwnY (Y : Lay α) (B : Nat) (w : World) (v : Value) (l : List α) : Prop := w.ownsRow B Y.T Y.k v l.length (fl Y l)
theorem OwnY.nil (Y : Lay α) (B : Nat) (w : World) : OwnY Y B w (.slice none 0 0) [] := World.ownsRow_nil w B Y.T Y.k
theorem OwnY.alloc {B : Nat} {w : World} {v : Value} {l : List α} (h : OwnY Y B w v l) (o : Obj) : OwnY Y B (w.alloc o) v l := World.ownsRow.alloc h o
theorem OwnY.form {B : Nat} {w : World} {v : Value} {l : List α} (h : OwnY Y B w v l) : ∃ a c, v = .slice a l.length c ∧ l.length ≤ c ∧ c ≤ maxLen ∧ (a = none → l = [] ∧ c = 0) ∧ ∀ x, a = some x → ∃ g, x = ⟨g, 0, none⟩ ∧ B ≤ g ∧ g < w.heap.size := by
  rcases h.2 with ⟨e1, e2⟩ | ⟨g, cap, cur, e1, e2, e3, e4, e5, _⟩
  · exact ⟨none, 0, by rw [e1, e2], by omega, by unfold maxLen; omega, fun _ => ⟨List.eq_nil_of_length_eq_zero e2, rfl⟩, fun x hx => by cases hx⟩
  · refine ⟨some ⟨g, 0, none⟩, cap, e1, e4, e5, (fun hx => by cases hx), fun x hx => ?_⟩
    cases hx
    exact ⟨g, rfl, e2, (Array.getElem?_eq_some_iff.1 e3).1⟩
theorem OwnY.cell (K : Y.Ok) {B : Nat} {w : World} {g n c : Nat} {l : List α} (h : OwnY Y B w (.slice (some ⟨g, 0, none⟩) n c) l) (i : Nat) (x : α) (hx : l[i]? = some x) (j : Nat) (u : Value) (hu : (Y.cs x)[j]? = some u) : w.cell? ⟨g, i * Y.k + j, none⟩ = some u := by
  have hj := (List.getElem?_eq_some_iff.1 hu).1
  rw [K.len] at hj
  have h0 := World.ownsRow.cells h (g := g) rfl (i * Y.k + j) u (by rw [fl_get K l i x hx j hj]; exact hu)
  rw [Addr.add_lit, Nat.zero_add] at h0
  exact h0
theorem OwnY.upd1 {S : Nat → Prop} {B : Nat} {w w' : World} {v : Value} {l : List α} (h : OwnY Y B w v l) (u : Upd S w w') (hs : ∀ g, v.ownBlock = some g → ¬ S g) : OwnY Y B w' v l := by
  obtain ⟨h1, h2⟩ := h
  refine ⟨h1, ?_⟩
  rcases h2 with h2 | ⟨g, cap, cur, e1, e2, e3, r⟩
  · exact .inl h2
  · refine .inr ⟨g, cap, cur, e1, e2, ?_, r⟩
    rw [u.block g (Array.getElem?_eq_some_iff.1 e3).1 (hs g (by rw [e1]; rfl))]
    exact e3
theorem OwnY.blk {B : Nat} {w : World} {v : Value} {l : List α} (h : OwnY Y B w v l) : ∀ k, v.ownBlock = some k → B ≤ k ∧ k < w.heap.size := World.ownsRow.lt h
theorem OwnY.grow {B : Nat} {w w' : World} {v : Value} {l : List α} (h : OwnY Y B w v l) (hb : Below w.heap.size w w') : OwnY Y B w' v l := h.upd1 (S := fun _ => False) (Upd.of_below hb) (fun _ _ => id)
theorem OwnY.low {B B' : Nat} {w : World} {v : Value} {l : List α} (h : OwnY Y B w v l) (hb : B' ≤ B) : OwnY Y B' w v l := by
  obtain ⟨h1, h2⟩ := h
  refine ⟨h1, ?_⟩
  rcases h2 with h2 | ⟨g, cap, cur, e1, e2, r⟩
  · exact .inl h2
  · exact .inr ⟨g, cap, cur, e1, Nat.le_trans hb e2, r⟩
theorem OwnY.grown {B : Nat} {w0 w w' : World} {v : Value} {l : List α} (ho : OwnY Y B w v l) (h0 : Below B w0 w) (hg : w.grownBy w' v.ownBlock) (hB : B ≤ w.heap.size) : Below B w0 w' :=
  h0.grown hg hB (fun k hk => (ho.blk k hk).1)
theorem OwnY.kind {B : Nat} {w : World} {v : Value} {l : List α} (h : OwnY Y B w v l) {g : Nat} (e : v.ownBlock = some g) : ∃ c f, w.heap[g]? = some (.cells c Y.T f) := by
  rcases h.2 with ⟨e1, _⟩ | ⟨g1, _, cur, e1, _, hb, _⟩
  · rw [e1] at e; cases e
  · rw [e1] at e; cases e; exact ⟨cur, _, hb⟩
theorem OwnY.apart {β : Type} {Y' : Lay β} {B B' : Nat} {w : World} {v v' : Value} {l : List α} {l' : List β} (h : OwnY Y B w v l) (h' : OwnY Y' B' w v' l') (hT : Y.T ≠ Y'.T) : ∀ g, v.ownBlock = some g → v'.ownBlock ≠ some g := by
  intro g e e'
  obtain ⟨c, f, h1⟩ := h.kind e
  obtain ⟨c', f', h2⟩ := h'.kind e'
  rw [h1] at h2
  injection h2 with h3
  injection h3 with _ h4
  exact hT h4
def LieY (Y : Lay α) (w : World) (q o : Nat) (l : List α) : Prop := ∀ i x, l[i]? = some x → ∀ j u, (Y.cs x)[j]? = some u → w.cell? ⟨q, o + i * Y.k + j, none⟩ = some u
theorem LieY.upd {S : Nat → Prop} {w w' : World} {q o : Nat} {l : List α} (h : LieY Y w q o l) (u : Upd S w w') (hq : q < w.heap.size) (hs : ¬ S q) : LieY Y w' q o l := fun i x hx j v hv => (u.cell (p := ⟨q, _, none⟩) hq hs).trans (h i x hx j v hv)
theorem LieY.flat (K : Y.Ok) {w : World} {q o : Nat} {l : List α} (h : LieY Y w q o l) (j : Nat) (u : Value) (hu : (fl Y l)[j]? = some u) : w.cell? ⟨q, o + j, none⟩ = some u := by
  have hj := (List.getElem?_eq_some_iff.1 hu).1
  rw [fl_length K] at hj
  obtain ⟨x, h1, h2⟩ := fl_inv K l j u hu
  have := h _ _ h1 _ _ h2
  rw [Nat.add_assoc, (div_pos_lt K.kp hj).2.2] at this
  exact this
structure SlY (Y : Lay α) (w : World) (a : Option Addr) (n c : Nat) (l : List α) : Prop where
  len : l.length = n
  cap : n ≤ c
  max : c ≤ maxLen
  nil : a = none → n = 0 ∧ c = 0
  at_ : ∀ x, a = some x → l = [] ∨ ∃ q o, x = ⟨q, o, none⟩ ∧ q < w.heap.size ∧ LieY Y w q o l
theorem SlY.upd {S : Nat → Prop} {w w' : World} {a : Option Addr} {n c : Nat} {l : List α} (h : SlY Y w a n c l) (u : Upd S w w') (hs : ∀ x, a = some x → l ≠ [] → ¬ S x.block) : SlY Y w' a n c l :=
  ⟨h.len, h.cap, h.max, h.nil, fun x hx => by
    rcases h.at_ x hx with e | ⟨q, o, rfl, hq, hl⟩
    · exact .inl e
    · by_cases hl0 : l = []
      · exact .inl hl0
      · exact .inr ⟨q, o, rfl, Nat.lt_of_lt_of_le hq u.size, hl.upd u hq (hs _ hx hl0)⟩⟩
theorem SlY.later {w w' : World} {a : Option Addr} {n c : Nat} {l : List α} (h : SlY Y w a n c l) (hb : Below w.heap.size w w') : SlY Y w' a n c l := h.upd (S := fun _ => False) (Upd.of_below hb) (fun _ _ _ => id)
theorem SlY.bel {w w' : World} {a : Option Addr} {n c : Nat} {l : List α} (h : SlY Y w a n c l) {B : Nat} (hb : Below B w w') (hB : w.heap.size ≤ B) : SlY Y w' a n c l := h.upd (S := fun k => B ≤ k) ⟨hb.os, hb.tape, hb.output, hb.size, fun k hk hs => hb.block k (by omega)⟩ (fun x hx hne hs => by
  rcases h.at_ x hx with e | ⟨q, o, rfl, hq, hl⟩
  · exact hne e
  · dsimp only at hs; omega)
theorem SlY.place {w : World} {a : Option Addr} {n c : Nat} {l : List α} (h : SlY Y w a n c l) (hne : l ≠ []) : ∃ q o, a = some ⟨q, o, none⟩ ∧ q < w.heap.size ∧ LieY Y w q o l := by
  cases ha : a with
  | none =>
    have := (h.nil ha).1
    exact absurd (List.eq_nil_of_length_eq_zero (h.len.trans this)) hne
  | some x =>
    rcases h.at_ x ha with e | ⟨q, o, rfl, hq, hl⟩
    · exact absurd e hne
    · exact ⟨q, o, rfl, hq, hl⟩
theorem SlY.take {w : World} {a : Option Addr} {n c : Nat} {l : List α} (h : SlY Y w a n c l) (m : Nat) (hm : m ≤ n) : SlY Y w a m c (l.take m) :=
  ⟨by rw [List.length_take, h.len]; omega, Nat.le_trans hm h.cap, h.max, (fun e => by have := h.nil e; omega), fun x hx => by
    rcases h.at_ x hx with e | ⟨q, o, rfl, hq, hl⟩
    · exact .inl (by rw [e]; simp)
    · refine .inr ⟨q, o, rfl, hq, fun i y hy => hl i y ?_⟩
      rw [List.getElem?_take] at hy
      split at hy
      · exact hy
      · cases hy⟩
theorem OwnY.sl (K : Y.Ok) {B : Nat} {w : World} {v : Value} {l : List α} (h : OwnY Y B w v l) : ∃ a c, v = .slice a l.length c ∧ SlY Y w a l.length c l ∧ ∀ z, a = some z → ∃ g, z = ⟨g, 0, none⟩ ∧ B ≤ g ∧ g < w.heap.size := by
  obtain ⟨a, c, rfl, h1, h2, h3, h4⟩ := h.form
  refine ⟨a, c, rfl, ⟨rfl, h1, h2, (fun e => by obtain ⟨e1, e2⟩ := h3 e; rw [e1]; exact ⟨rfl, e2⟩), fun x hx => ?_⟩, h4⟩
  obtain ⟨g, rfl, _, hg⟩ := h4 x hx
  subst hx
  exact .inr ⟨g, 0, rfl, hg, fun i y hy j u hu => by rw [Nat.zero_add]; exact h.cell K i y hy j u hu⟩
theorem OwnY.sl' (K : Y.Ok) {B : Nat} {w : World} {a : Option Addr} {n c : Nat} {l : List α} (h : OwnY Y B w (.slice a n c) l) : SlY Y w a n c l := by
  obtain ⟨a', c', e, h1, _⟩ := h.sl K
  injection e with e1 e2 e3
  subst e1 e2 e3
  exact h1
theorem run_appY (K : Y.Ok) (w : World) (ty : TypeId) (B : Nat) (l : List α) (v : Value) (ad : Option Addr) (m c : Nat) (news : List α) (hh : SlY Y w ad m c news) (hown : OwnY Y B w v l) (hB : B ≤ w.heap.size) (hm : l.length + m ≤ maxLen) (hb : (l.length + m) * Y.by_ ≤ 140737488355328) :
    ∃ v' w', (Builtin.append_ #[Y.ST, Y.ST] ty #[v, .slice ad m c]).run Try.prog w = .ok v' w' ∧ OwnY Y B w' v' (l ++ news) ∧ w.grownBy w' v.ownBlock ∧ (v'.ownBlock = v.ownBlock ∨ ∃ k, v'.ownBlock = some k ∧ w.heap.size ≤ k) := by
  obtain ⟨zv, hinfo, hzc⟩ := K.info
  obtain ⟨i0, hi, hz0, hz1, hz2⟩ := info_parts hinfo
  have hzs : zv.cells.size = Y.k := by rw [hzc, List.size_toArray, K.len]
  cases ad with
  | none =>
    obtain ⟨rfl, rfl⟩ := hh.nil rfl
    obtain rfl : news = [] := List.eq_nil_of_length_eq_zero hh.len
    refine ⟨v, w, ?_, by rw [List.append_nil]; exact hown, World.grownBy.refl _ _, .inl rfl⟩
    exact run_append_owned_none (P := Try.prog) (w := w) B Y.ST ty Y.T i0 Y.k K.und hi v l.length (fl Y l) hown
  | some y =>
    have hnews : ∀ j u, (fl Y news)[j]? = some u → w.cell? (y.add j) = some u := fun j u hu => by
      rcases hh.at_ y rfl with e | ⟨q, o, rfl, _, hl⟩
      · subst e; cases hu
      · rw [Addr.add_lit]; exact hl.flat K j u hu
    have hlen : (fl Y news).length = m * Y.k := by rw [fl_length K, hh.len]
    obtain ⟨v', w', hr, h2, h3, h4⟩ := run_append_own (P := Try.prog) w B Y.ST ty Y.T i0 zv Y.k Y.by_ K.und hi hz0 hz1 hz2 hzs K.kp v l.length (fl Y l) hown y m c (fl Y news) hlen hnews (fl_one K news) hm hb hB
    refine ⟨v', w', hr, ?_, h3, ?_⟩
    · unfold OwnY
      rw [fl_append, List.length_append, hh.len]
      exact h2
    · rcases hown.2 with ⟨rfl, hn⟩ | ⟨g, cap, cur, rfl, hbg, hg, hnc, hcm, hcs, htake⟩
      · have hL : l = [] := List.eq_nil_of_length_eq_zero hn
        subst hL
        obtain ⟨v2, w2, hr2, k2, _⟩ := run_append_own (P := Try.prog) w w.heap.size Y.ST ty Y.T i0 zv Y.k Y.by_ K.und hi hz0 hz1 hz2 hzs K.kp (.slice none 0 0) 0 [] (World.ownsRow_nil w _ Y.T Y.k) y m c (fl Y news) hlen hnews (fl_one K news) hm hb (Nat.le_refl _)
        rw [hr] at hr2
        cases hr2
        cases hv : v'.ownBlock with
        | none => exact .inl rfl
        | some k => exact .inr ⟨k, rfl, (World.ownsRow.lt k2 k hv).1⟩
      · by_cases hroom : l.length + m ≤ cap
        · left
          have hfit : l.length * i0.size + (fl Y news).length ≤ cur.size := by rw [hcs, hz1, hlen, ← Nat.add_mul]; exact Nat.mul_le_mul_right _ hroom
          have hr2 := run_append_room (P := Try.prog) w Y.ST ty Y.T i0 K.und hi g l.length cap cur hg y m c (fl Y news) (by rw [hz1]; exact hlen) hnews (fl_one K news) hroom hfit
          rw [hr] at hr2
          cases hr2
          rfl
        · right
          have holds : ∀ j u, (fl Y l)[j]? = some u → w.cell? ((⟨g, 0, none⟩ : Addr).add j) = some u := World.ownsRow.cells hown (g := g) rfl
          have hr2 := run_append_grow (P := Try.prog) w Y.ST ty Y.T i0 zv K.und hi hz0 ⟨g, 0, none⟩ l.length cap (fl Y l) (by rw [hz1]; exact fl_length K l) holds y m c (fl Y news) (by rw [hz1]; exact hlen) hnews (by omega) (by unfold maxLen at hm; omega) (growslice_fits (by omega) (by rw [hz2]; exact hb))
          rw [hr] at hr2
          cases hr2
          exact ⟨_, rfl, Nat.le_refl _⟩
theorem appY (K : Y.Ok) (w : World) {ops : Array Oper} {rest : List Oper} {o : Oper} {a : Act} {Q : Exit → Act → World → Prop} (hgd : o.guard = none) (s x : Operand)
    (ho : o.op = .call { callee := .builtin .append, args := #[s, x], argTypes := #[Y.ST, Y.ST] }) (B : Nat) (l : List α) (v : Value) (hs : a.eval s = v)
    (ad : Option Addr) (m c : Nat) (hx : a.eval x = .slice ad m c) (news : List α) (hh : SlY Y w ad m c news) (hown : OwnY Y B w v l) (hB : B ≤ w.heap.size) (hm : l.length + m ≤ maxLen) (hb : (l.length + m) * Y.by_ ≤ 140737488355328)
    (hk : ∀ v' w', OwnY Y B w' v' (l ++ news) → w.grownBy w' v.ownBlock → (v'.ownBlock = v.ownBlock ∨ ∃ k, v'.ownBlock = some k ∧ w.heap.size ≤ k) → wpList Try.prog ops Q rest (a.put o.dst v') w') : wpList Try.prog ops Q (o :: rest) a w := by
  refine wpList_plain hgd fun K' hK' => ?_
  obtain ⟨v', w', hr, h2, h3, h4⟩ := run_appY K w o.type B l v ad m c news hh hown hB hm hb
  unfold Oper.wp execOp
  simp only [ho, resolve, invoke, builtin, Sem.run_bind, Sem.run_pure, Result.andThen_ok, List.map_toArray, List.map_cons, List.map_nil, hs, hx, hr]
  exact hK' _ _ (hk v' w' h2 h3 h4)
theorem stepY (K : Y.Ok) {ops : Array Oper} {o : Oper} {a : Act} {w : World} {K' : Act → World → Prop} {Q : Exit → Act → World → Prop} {E : Prop} (hg : o.guard = none) (s x : Operand)
    (ho : o.op = .call { callee := .builtin .append, args := #[s, x], argTypes := #[Y.ST, Y.ST] }) (B : Nat) (l : List α) (v : Value) (hs : a.eval s = v)
    (ad : Option Addr) (m c : Nat) (hx : a.eval x = .slice ad m c) (news : List α) (hh : SlY Y w ad m c news) (hown : OwnY Y B w v l) (hB : B ≤ w.heap.size) (hm : l.length + m ≤ maxLen) (hb : (l.length + m) * Y.by_ ≤ 140737488355328)
    (hk : ∀ v' w', OwnY Y B w' v' (l ++ news) → w.grownBy w' v.ownBlock → (v'.ownBlock = v.ownBlock ∨ ∃ k, v'.ownBlock = some k ∧ w.heap.size ≤ k) → K' (a.put o.dst v') w') :
    if Region.wanted o (yielded ops a.tmps) = true then Oper.wp Try.prog o a w K' Q else E := by
  have hw : Region.wanted o (yielded ops a.tmps) = true := by simp [Region.wanted, hg]
  rw [if_pos hw]
  obtain ⟨v', w', hr, h2, h3, h4⟩ := run_appY K w o.type B l v ad m c news hh hown hB hm hb
  unfold Oper.wp execOp
  simp only [ho, resolve, invoke, builtin, Sem.run_bind, Sem.run_pure, Result.andThen_ok, List.map_toArray, List.map_cons, List.map_nil, hs, hx, hr]
  exact hk v' w' h2 h3 h4
theorem madeY (K : Y.Ok) {zc : Array Value} (hzc : zc = (Y.cs Y.z).toArray) (n : Nat) : (madeCells zc (n * Y.k)).toList = fl Y (List.replicate n Y.z) := by
  subst hzc
  apply List.ext_getElem?
  intro j
  by_cases hj : j < n * Y.k
  · obtain ⟨h1, h2, h3⟩ := div_pos_lt K.kp hj
    have hg : (List.replicate n Y.z)[j / Y.k]? = some Y.z := List.getElem?_replicate_of_lt h1
    have := fl_get K _ _ _ hg _ h2
    rw [h3] at this
    rw [this]
    have hk := K.len Y.z
    simp [madeCells, hj, hk]
    rw [List.getElem?_eq_getElem (by rw [hk]; exact h2)]
    simp [hk, h2]
  · rw [List.getElem?_eq_none (by simp [madeCells]; omega), List.getElem?_eq_none (by rw [fl_length K]; simp; omega)]
theorem room_int {a n b : Nat} (e : a = b) (hb : n * b ≤ 140737488355328) : (a : Int) * (n : Int) ≤ 281474976710656 := by
  subst e
  have h : ((n * a : Nat) : Int) ≤ 140737488355328 := by omega
  rw [Int.natCast_mul, Int.mul_comm] at h
  omega
end Go.Proofs.Ytfafhlahbhopaaa
namespace Go.Proofs.Ytfafhlahbhopaaa
open Go.RowKit Go.Maps
end Go.Proofs.Ytfafhlahbhopaaa
namespace Go.Proofs.Ytfafhlahbhopaaa
open Go.RowKit Go.Maps
variable {α : Type} {Y : Lay α}
theorem fl_splice (K : Y.Ok) {l : List α} {i j : Nat} {e e' : α} (he : l[i]? = some e) {xs : List Value} (hj : j + xs.length ≤ Y.k) (hc : Y.cs e' = (Y.cs e).take j ++ xs ++ (Y.cs e).drop (j + xs.length)) :
    fl Y (l.set i e') = (fl Y l).take (i * Y.k + j) ++ xs ++ (fl Y l).drop (i * Y.k + j + xs.length) := by
  have hi := (List.getElem?_eq_some_iff.1 he).1
  have hge := (List.getElem?_eq_some_iff.1 he).2
  have hl : l = l.take i ++ e :: l.drop (i + 1) := by
    rw [← hge, ← List.drop_eq_getElem_cons hi, List.take_append_drop]
  have h1 : l.set i e' = l.take i ++ e' :: l.drop (i + 1) := List.set_eq_take_append_cons_drop.trans (by rw [if_pos hi])
  have h2 : fl Y l = fl Y (l.take i) ++ (Y.cs e ++ fl Y (l.drop (i + 1))) := by
    conv => lhs; rw [hl, fl_append, fl]
  have hA : (fl Y (l.take i)).length = i * Y.k := by rw [fl_length K, List.length_take, Nat.min_eq_left (by omega)]
  have hC : (Y.cs e).length = Y.k := K.len e
  rw [h1, fl_append, fl, h2, hc]
  rw [List.take_append, List.take_of_length_le (l := fl Y (l.take i)) (by omega), hA, Nat.add_sub_cancel_left, List.take_append_of_le_length (by omega)]
  rw [Nat.add_assoc, List.drop_append, List.drop_of_length_le (l := fl Y (l.take i)) (by omega), hA, Nat.add_sub_cancel_left, List.nil_append, List.drop_append_of_le_length (by omega)]
  simp only [List.append_assoc]
theorem splice_take {A xs : List Value} {p m : Nat} (h : p + xs.length ≤ m) : (A.take p ++ xs ++ A.drop (p + xs.length)).take m = (A.take m).take p ++ xs ++ (A.take m).drop (p + xs.length) := by
  apply List.ext_getElem?
  intro q
  by_cases h0 : q < m
  · rw [List.getElem?_take, if_pos h0]
    by_cases hA : p ≤ A.length
    · have l1 : (A.take p).length = p := by rw [List.length_take]; omega
      have l2 : ((A.take m).take p).length = p := by rw [List.length_take, List.length_take]; omega
      by_cases h1 : q < p
      · rw [List.append_assoc, List.append_assoc, List.getElem?_append_left (by omega), List.getElem?_append_left (by omega), List.take_take, Nat.min_eq_left (by omega)]
      · by_cases h2 : q < p + xs.length
        · have t : ∀ (P D : List Value), P.length = p → (P ++ xs ++ D)[q]? = xs[q - p]? := fun P D hP => by
            rw [List.append_assoc, List.getElem?_append_right (by omega), hP, List.getElem?_append_left (by omega)]
          rw [t _ _ l1, t _ _ l2]
        · have t : ∀ (P D : List Value), P.length = p → (P ++ xs ++ D)[q]? = D[q - p - xs.length]? := fun P D hP => by
            rw [List.append_assoc, List.getElem?_append_right (by omega), hP, List.getElem?_append_right (by omega)]
          rw [t _ _ l1, t _ _ l2, List.getElem?_drop, List.getElem?_drop, List.getElem?_take, if_pos (by omega)]
    · have e1 : A.take p = A := List.take_of_length_le (by omega)
      have e2 : A.take m = A := List.take_of_length_le (by omega)
      rw [e1, e2, e1]
  · rw [List.getElem?_take, if_neg h0]
    symm
    apply List.getElem?_eq_none
    simp only [List.length_append, List.length_take, List.length_drop]
    omega
end Go.Proofs.Ytfafhlahbhopaaa
namespace Go.Proofs.Ytfafhlahbhopaaa
open Go.RowKit Go.Maps
structure SV (α : Type) where
  a : Option Addr
  c : Nat
  D : List α
def SV.v {α : Type} (x : SV α) : Value := .slice x.a x.D.length x.c
def yS (α : Type) (T ST : TypeId) : Lay (SV α) := ⟨T, ST, 1, 24, fun x => [.slice x.a x.D.length x.c], ⟨none, 0, []⟩⟩
theorem kS {α : Type} {T ST : TypeId} (hu : Try.prog.underlying ST = some (.slice T)) (hi : (Try.prog.info? T).map (fun i => (i.zero, i.size, i.bytes)) = some (some (.slice none 0 0), 1, 24)) : (yS α T ST).Ok :=
  ⟨by show 0 < 1; omega, fun x => rfl, fun x u h => by simp [yS] at h; subst h; rfl, hu, ⟨.slice none 0 0, hi, rfl⟩⟩
theorem setc_ne {w : World} {b i j : Nat} {u x : Value} (h : w.cell? ⟨b, i, none⟩ = some x) (hne : i ≠ j) : (w.setCell ⟨b, j, none⟩ u).cell? ⟨b, i, none⟩ = some x := by
  have hn : j ≠ i := fun e => hne e.symm
  go_simp
theorem setc_eq {w : World} {b i : Nat} {u x : Value} (h : w.cell? ⟨b, i, none⟩ = some x) : (w.setCell ⟨b, i, none⟩ u).cell? ⟨b, i, none⟩ = some u := by
  go_simp
theorem setf {w : World} {b i j : Nat} {u : Value} (h : w.frozen? ⟨b, i, none⟩ = false) : (w.setCell ⟨b, j, none⟩ u).frozen? ⟨b, i, none⟩ = false := by
  go_simp
theorem gcell {w w' : World} {row : Option Nat} (h : w.grownBy w' row) {b i : Nat} {x : Value} (hc : w.cell? ⟨b, i, none⟩ = some x) (hne : row ≠ some b) : w'.cell? ⟨b, i, none⟩ = some x :=
  h.cell hc (fun e => hne e.symm)
theorem gfroz {w w' : World} {row : Option Nat} (h : w.grownBy w' row) {b i : Nat} (hb : b < w.heap.size) (hc : w.frozen? ⟨b, i, none⟩ = false) (hne : row ≠ some b) : w'.frozen? ⟨b, i, none⟩ = false :=
  (World.frozen?_of_block (w := w) (h.block b hb (fun e => hne e.symm))).trans hc
theorem gupd {w w' : World} {row : Option Nat} (h : w.grownBy w' row) {S : Nat → Prop} (hs : ∀ k, row = some k → S k) : Upd S w w' :=
  ⟨h.os, h.tape, h.output, h.size, fun k hk hn => h.block k hk (fun e => hn (hs k e.symm))⟩
variable {α β : Type} {Y : Lay α} {Z : Lay β}
theorem OwnY.grownZ {B B' : Nat} {w w' : World} {v v2 : Value} {D : List α} {L : List β} (h : OwnY Y B w v D) (hv : OwnY Z B' w v2 L) (hT : Y.T ≠ Z.T) (hg : w.grownBy w' v2.ownBlock) : OwnY Y B w' v D := by
  refine World.ownsRow.kept h hg ?_
  cases e : v.ownBlock with
  | none => exact .inl rfl
  | some k => exact .inr (fun e' => h.apart hv hT k e e'.symm)
theorem OwnY.grownN {B : Nat} {w w' : World} {v v2 : Value} {D : List α} (h : OwnY Y B w v D) (hg : w.grownBy w' v2.ownBlock) (hne : ∀ k, v.ownBlock = some k → v2.ownBlock = some k → False) : OwnY Y B w' v D := by
  refine World.ownsRow.kept h hg ?_
  cases e : v.ownBlock with
  | none => exact .inl rfl
  | some k => exact .inr (fun e' => hne k e e'.symm)
theorem OwnY.low_set {B : Nat} {w : World} {v : Value} {D : List α} (h : OwnY Y B w v D) {p : Addr} (hp : p.block < B) (u : Value) : OwnY Y B (w.setCell p u) v D := ownsRow_setCell_below h hp u
variable {Z : Lay (SV α)} {p : Nat} {E : Nat → Value}
theorem OwnY.front (K : Y.Ok) {w : World} {g n c k B : Nat} {D F : List α} (h : OwnY Y B w (.slice (some ⟨g, 0, none⟩) k c) (D ++ F)) (hn : D.length = n) : SlY Y w (some ⟨g, 0, none⟩) n c D := by
  have := (h.sl' K).take n (by have := (h.sl' K).len; rw [List.length_append] at this; omega)
  rw [List.take_append_of_le_length (by omega), List.take_of_length_le (by omega)] at this
  exact this
end Go.Proofs.Ytfafhlahbhopaaa
namespace Go.Proofs.Ytfafhlahbhopaaa
open Go.RowKit Go.Maps
open Classical
structure En where
  c : Int
  n : Int
  o : Opn
def En.cs (e : En) : List Value := [.int .i64 e.c, .int .i64 e.n, .int .i64 e.o.k, .int .i64 e.o.s, .string e.o.v]
def yE : Lay En := ⟨28, 22, 5, 48, En.cs, ⟨0, 0, ⟨0, 0, ByteArray.empty⟩⟩⟩
theorem kE : yE.Ok := ⟨by decide, fun x => rfl, fun x u h => by
    simp [yE, En.cs] at h
    rcases h with rfl | rfl | rfl | rfl | rfl <;> rfl, Try.underlying22, ⟨.agg #[.int .i64 0, .int .i64 0, .int .i64 0, .int .i64 0, .string ByteArray.empty], by kernel_rfl, rfl⟩⟩
theorem SlY.en {w : World} {a : Option Addr} {n c : Nat} {L : List En} (h : SlY yE w a n c L) {j : Nat} {e : En} (he : L[j]? = some e) : ∃ q o, a = some ⟨q, o, none⟩ ∧ q < w.heap.size ∧ w.cell? ⟨q, o + j * 5, none⟩ = some (.int .i64 e.c) ∧ w.cell? ⟨q, o + j * 5 + 1, none⟩ = some (.int .i64 e.n) ∧ w.cell? ⟨q, o + j * 5 + 2, none⟩ = some (.int .i64 e.o.k) ∧ w.cell? ⟨q, o + j * 5 + 3, none⟩ = some (.int .i64 e.o.s) ∧ w.cell? ⟨q, o + j * 5 + 4, none⟩ = some (.string e.o.v) := by
  obtain ⟨q, o, ea, hq, hl⟩ := h.place (by rintro rfl; simp at he)
  exact ⟨q, o, ea, hq, hl j e he 0 _ rfl, hl j e he 1 _ rfl, hl j e he 2 _ rfl, hl j e he 3 _ rfl, hl j e he 4 _ rfl⟩
theorem sl_box {α : Type} {Y : Lay α} (w : World) (x : α) (T : TypeId) : SlY Y (w.alloc (.cells (Y.cs x).toArray T)) (some ⟨w.heap.size, 0, none⟩) 1 1 [x] :=
  ⟨rfl, Nat.le_refl _, by unfold maxLen; omega, (fun e => by cases e), fun y hy => by
    cases hy
    refine .inr ⟨w.heap.size, 0, rfl, by simp, fun i z hz j u hu => ?_⟩
    match i, hz with
    | 0, hz =>
      simp at hz
      subst hz
      rw [Nat.zero_mul, Nat.zero_add]
      rw [World.cell?_alloc_at _ _ _ _ rfl, List.getElem?_toArray]
      exact hu
    | i + 1, hz => simp at hz⟩
theorem SlY.drewN {α : Type} {Y : Lay α} {w : World} {a : Option Addr} {n c : Nat} {l : List α} (h : SlY Y w a n c l) (k : Nat) : SlY Y (w.drewN k) a n c l := h.later (belN (Below.refl _ w) k)
theorem sl_lit {α : Type} {Y : Lay α} (K : Y.Ok) (w : World) (l : List α) (T : TypeId) (hm : l.length ≤ maxLen) : SlY Y (w.alloc (.cells (fl Y l).toArray T)) (some ⟨w.heap.size, 0, none⟩) l.length l.length l :=
  ⟨rfl, Nat.le_refl _, hm, (fun e => by cases e), fun y hy => by
    cases hy
    refine .inr ⟨w.heap.size, 0, rfl, by simp, fun i z hz j u hu => ?_⟩
    rw [Nat.zero_add, World.cell?_alloc_at _ _ _ _ rfl, List.getElem?_toArray, fl_get K l i z hz j (by have := (List.getElem?_eq_some_iff.1 hu).1; rw [K.len] at this; exact this)]
    exact hu⟩
def zE : Lay (SV En) := yS En 22 31
theorem kzE : zE.Ok := kS Try.underlying31 (by kernel_rfl)
def mkE : En := ⟨-77, -88, ⟨0, 0, ByteArray.empty⟩⟩
theorem copyent_any (a : Option Addr) (n c : Nat) (D : List En) (w : World) (h : SlY yE w a n c D) (hb : n * 48 ≤ 140737488355328) :
    Calls Try.prog 38 #[.slice a n c] w fun e w' => ∃ v', e = .returned v' ∧ OwnY yE w.heap.size w' v' D ∧ Below w.heap.size w w' := by
  have H := hide h
  clear h
  go_enter Try.func38, Try.ntmps38
  go_wp2_with (at_builtin; go_must (refine appY kE _ rfl (.const (.slice none 0 0)) (.tmp 3) rfl w.heap.size [] _ rfl a n c rfl D H.out (OwnY.nil _ _ _) (Nat.le_refl _) (by unfold maxLen; simp; omega) (by show (0 + n) * 48 ≤ _; omega) ?_))
  intro v' w' h1 h3 _
  have hb : Below w.heap.size w w' := (Below.refl _ _).grown h3 (Nat.le_refl _) (fun k hk => by cases hk)
  go_wp2
  go_ret
  exact ⟨v', rfl, h1, hb⟩
theorem step_copyent {ops : Array Oper} {o : Oper} {a : Act} {w : World} {K : Act → World → Prop} {Q : Exit → Act → World → Prop} {E : Prop} (hg : o.guard = none) (x : Operand)
    (ho : o.op = .call { callee := .value (.func 38), args := #[x], argTypes := #[22] }) (ad : Option Addr) (n c : Nat) (hx : a.eval x = .slice ad n c) (D : List En) (h : SlY yE w ad n c D) (hm : n * 48 ≤ 140737488355328)
    (hK : ∀ v' w', OwnY yE w.heap.size w' v' D → Below w.heap.size w w' → K (a.put o.dst v') w') :
    if Region.wanted o (yielded ops a.tmps) = true then Oper.wp Try.prog o a w K Q else E := by
  have hw : Region.wanted o (yielded ops a.tmps) = true := by simp [Region.wanted, hg]
  rw [if_pos hw]
  have hr : (execOp a.eval o).run Try.prog w = .ok (.enter 38 #[.slice ad n c]) w := by
    unfold execOp
    simp only [ho, resolve, invoke, Sem.run_bind, List.map_toArray, List.map_cons, List.map_nil, hx]
    rfl
  unfold Oper.wp
  rw [hr, Oper.upon_enter]
  refine (copyent_any ad n c D w h hm).mono ?_
  rintro e w' ⟨v', rfl, h1, h2⟩
  exact hK v' w' h1 h2
theorem hTE : yE.T ≠ zE.T := by decide
def yD : Lay (Int × Int) := ⟨127, 78, 2, 16, fun d => [.int .u64 d.1, .int .u64 d.2], (0, 0)⟩
theorem kD : yD.Ok := ⟨by decide, fun x => rfl, fun x u h => by
    simp [yD] at h
    rcases h with rfl | rfl <;> rfl, Try.underlying78, ⟨.agg #[.int .u64 0, .int .u64 0], by kernel_rfl, rfl⟩⟩
def zD : Lay (SV (Int × Int)) := yS (Int × Int) 78 30
theorem kzD : zD.Ok := kS Try.underlying30 (by kernel_rfl)
theorem hTD : yD.T ≠ zD.T := by decide
theorem hED : yE.T ≠ zD.T := by decide
theorem hDE : yD.T ≠ zE.T := by decide
theorem hzz : zD.T ≠ zE.T := by decide
theorem SlY.dw {w : World} {a : Option Addr} {n c : Nat} {L : List (Int × Int)} (h : SlY yD w a n c L) {j : Nat} {e : Int × Int} (he : L[j]? = some e) : ∃ q o, a = some ⟨q, o, none⟩ ∧ q < w.heap.size ∧ w.cell? ⟨q, o + j * 2, none⟩ = some (.int .u64 e.1) ∧ w.cell? ⟨q, o + j * 2 + 1, none⟩ = some (.int .u64 e.2) := by
  obtain ⟨q, o, ea, hq, hl⟩ := h.place (by rintro rfl; simp at he)
  exact ⟨q, o, ea, hq, hl j e he 0 _ rfl, hl j e he 1 _ rfl⟩
theorem take_snoc {α : Type} {l : List α} {k : Nat} {x : α} (h : l[k]? = some x) : l.take (k + 1) = l.take k ++ [x] := by
  rw [List.take_add_one, h]; rfl
theorem ne_of_at {α : Type} {A B : List α} {k : Nat} {x y : α} (h1 : A[k]? = some x) (h2 : B[k]? = some y) (h : x ≠ y) : A ≠ B := by
  rintro rfl
  rw [h1] at h2
  exact h (Option.some.inj h2)
theorem take_all {α : Type} {A B : List α} {k : Nat} (h1 : A.length = k) (h2 : B.length = k) (h : A.take k = B.take k) : A = B := by
  rw [List.take_of_length_le (by omega), List.take_of_length_le (by omega)] at h
  exact h
theorem take_step {α : Type} {A B : List α} {k : Nat} {x : α} (h1 : A[k]? = some x) (h2 : B[k]? = some x) (h : A.take k = B.take k) : A.take (k + 1) = B.take (k + 1) := by
  rw [take_snoc h1, take_snoc h2, h]
set_option maxHeartbeats 2000000 in
theorem sameentsB (A B : List En) (a1 a2 : Option Addr) (n1 n2 c1 c2 : Nat) (w : World) (h1 : SlY yE w a1 n1 c1 A) (h2 : SlY yE w a2 n2 c2 B) :
    Calls Try.prog 49 #[.slice a1 n1 c1, .slice a2 n2 c2] w fun e w' => e = .returned (.bool (decide (A = B))) ∧ ∃ k, w' = w.drewN k := by
  have m1 := h1.max
  have m2 := h2.max
  have k1 := h1.cap
  have k2 := h2.cap
  unfold maxLen at m1 m2
  have L1 := hide h1.len
  have L2 := hide h2.len
  have H1 := hide h1
  have H2 := hide h2
  clear h1 h2
  by_cases hl : n1 = n2
  · subst hl
    go_enter Try.func49, Try.ntmps49
    go_wp2
    go_loopw [5] (fun i wr => ∃ (k j : Nat), i = .int .i64 (k : Int) ∧ k ≤ n1 ∧ A.take k = B.take k ∧ wr = w.drewN j) (fun i _ => n1 - (intOf i).toNat)
    case atStart => exact ⟨0, 0, rfl, Nat.zero_le _, rfl, rfl⟩
    case round =>
      obtain ⟨k, j, rfl, hk, hsame, rfl⟩ := hrel
      have HS := hide hsame
      clear hsame
      by_cases hlt : k < n1
      · obtain ⟨d1, hd1⟩ : ∃ d, A[k]? = some d := ⟨_, List.getElem?_eq_getElem (by rw [L1.out]; exact hlt)⟩
        obtain ⟨d2, hd2⟩ : ∃ d, B[k]? = some d := ⟨_, List.getElem?_eq_getElem (by rw [L2.out]; exact hlt)⟩
        have NS := hide (ne_of_at hd1 hd2)
        have HN := hide (fun (e : d1 = d2) => take_step hd1 (by rw [e]; exact hd2) HS.out)
        obtain ⟨q1, o1, rfl, _, e0, e1, e2, e3, e4⟩ := H1.out.en hd1
        obtain ⟨q2, o2, rfl, _, f0, f1, f2, f3, f4⟩ := H2.out.en hd2
        obtain ⟨C, N, ⟨ok, os, ov⟩⟩ := d1
        obtain ⟨C', N', ⟨ok', os', ov'⟩⟩ := d2
        dsimp only at e0 e1 e2 e3 e4 f0 f1 f2 f3 f4
        clear H1 H2 HS hd1 hd2
        by_cases ff : (⟨C, N, ⟨ok, os, ov⟩⟩ : En) = ⟨C', N', ⟨ok', os', ov'⟩⟩
        · have HS2 := hide (HN.out ff)
          cases ff
          clear HN NS
          go_wp2
          go_quiet (fail)
          go_wp2
          go_round
          case rel => exact ⟨k + 1, _, by go_num, by omega, HS2.out, rfl⟩
          case measure => simp [intOf]; omega
        · have NE := hide (decide_eq_false (NS.out ff))
          clear NS HN
          by_cases g_C : C = C'
          · subst g_C
            by_cases g_N : N = N'
            · subst g_N
              by_cases g_ok : ok = ok'
              · subst g_ok
                by_cases g_os : os = os'
                · subst g_os
                  by_cases g_ov : ov = ov'
                  · subst g_ov
                    exact absurd rfl ff
                  · have g2 : ¬ ov.toList = ov'.toList := fun e => g_ov ((bytes_inj _ _).1 e)
                    go_wp2
                    go_quiet (fail)
                    go_wp2
                    go_ret
                    exact ⟨by rw [NE.out]; rfl, j + nq, by simp⟩
                · go_wp2
                  go_quiet (fail)
                  go_wp2
                  go_ret
                  exact ⟨by rw [NE.out]; rfl, j + nq, by simp⟩
              · go_wp2
                go_quiet (fail)
                go_wp2
                go_ret
                exact ⟨by rw [NE.out]; rfl, j + nq, by simp⟩
            · go_wp2
              go_quiet (fail)
              go_wp2
              go_ret
              exact ⟨by rw [NE.out]; rfl, j + nq, by simp⟩
          · go_wp2
            go_quiet (fail)
            go_wp2
            go_ret
            exact ⟨by rw [NE.out]; rfl, j + nq, by simp⟩
      · obtain rfl : k = n1 := by omega
        have HE := hide (decide_eq_true (take_all L1.out L2.out HS.out))
        clear HS H1 H2
        go_wp2
        go_ret
        exact ⟨by rw [HE.out]; rfl, _, rfl⟩
  · have hl' : ¬ (n1 : Int) = (n2 : Int) := by omega
    have HE : Hid (decide (A = B) = false) := decide_eq_false (by rintro rfl; exact hl (L1.out.symm.trans L2.out))
    clear H1 H2
    go_enter Try.func49, Try.ntmps49
    go_wp2
    go_ret
    exact ⟨by rw [HE.out]; rfl, 0, rfl⟩
set_option maxHeartbeats 2000000 in
theorem samevecB (A B : List (Int × Int)) (a1 a2 : Option Addr) (n1 n2 c1 c2 : Nat) (w : World) (h1 : SlY yD w a1 n1 c1 A) (h2 : SlY yD w a2 n2 c2 B) :
    Calls Try.prog 48 #[.slice a1 n1 c1, .slice a2 n2 c2] w fun e w' => e = .returned (.bool (decide (A = B))) ∧ ∃ k, w' = w.drewN k := by
  have m1 := h1.max
  have m2 := h2.max
  have k1 := h1.cap
  have k2 := h2.cap
  unfold maxLen at m1 m2
  have L1 := hide h1.len
  have L2 := hide h2.len
  have H1 := hide h1
  have H2 := hide h2
  clear h1 h2
  by_cases hl : n1 = n2
  · subst hl
    go_enter Try.func48, Try.ntmps48
    go_wp2
    go_loopw [5] (fun i wr => ∃ (k j : Nat), i = .int .i64 (k : Int) ∧ k ≤ n1 ∧ A.take k = B.take k ∧ wr = w.drewN j) (fun i _ => n1 - (intOf i).toNat)
    case atStart => exact ⟨0, 0, rfl, Nat.zero_le _, rfl, rfl⟩
    case round =>
      obtain ⟨k, j, rfl, hk, hsame, rfl⟩ := hrel
      have HS := hide hsame
      clear hsame
      by_cases hlt : k < n1
      · obtain ⟨d1, hd1⟩ : ∃ d, A[k]? = some d := ⟨_, List.getElem?_eq_getElem (by rw [L1.out]; exact hlt)⟩
        obtain ⟨d2, hd2⟩ : ∃ d, B[k]? = some d := ⟨_, List.getElem?_eq_getElem (by rw [L2.out]; exact hlt)⟩
        have NS := hide (ne_of_at hd1 hd2)
        have HN := hide (fun (e : d1 = d2) => take_step hd1 (by rw [e]; exact hd2) HS.out)
        obtain ⟨q1, o1, rfl, _, e0, e1⟩ := H1.out.dw hd1
        obtain ⟨q2, o2, rfl, _, f0, f1⟩ := H2.out.dw hd2
        obtain ⟨X, Y⟩ := d1
        obtain ⟨X', Y'⟩ := d2
        dsimp only at e0 e1 f0 f1
        clear H1 H2 HS hd1 hd2
        by_cases ff : (X, Y) = (X', Y')
        · have HS2 := hide (HN.out ff)
          cases ff
          clear HN NS
          go_wp2
          go_quiet (fail)
          go_wp2
          go_round
          case rel => exact ⟨k + 1, _, by go_num, by omega, HS2.out, rfl⟩
          case measure => simp [intOf]; omega
        · have NE := hide (decide_eq_false (NS.out ff))
          clear NS HN
          by_cases g_X : X = X'
          · subst g_X
            by_cases g_Y : Y = Y'
            · subst g_Y
              exact absurd rfl ff
            · go_wp2
              go_quiet (fail)
              go_wp2
              go_ret
              exact ⟨by rw [NE.out]; rfl, j + nq, by simp⟩
          · go_wp2
            go_quiet (fail)
            go_wp2
            go_ret
            exact ⟨by rw [NE.out]; rfl, j + nq, by simp⟩
      · obtain rfl : k = n1 := by omega
        have HE := hide (decide_eq_true (take_all L1.out L2.out HS.out))
        clear HS H1 H2
        go_wp2
        go_ret
        exact ⟨by rw [HE.out]; rfl, _, rfl⟩
  · have hl' : ¬ (n1 : Int) = (n2 : Int) := by omega
    have HE : Hid (decide (A = B) = false) := decide_eq_false (by rintro rfl; exact hl (L1.out.symm.trans L2.out))
    clear H1 H2
    go_enter Try.func48, Try.ntmps48
    go_wp2
    go_ret
    exact ⟨by rw [HE.out]; rfl, 0, rfl⟩
structure GM (w : World) (b B : Nat) (v2 v3 v4 v5 : Value) (Da Db : List (SV (Int × Int))) (La Lb : List (SV En)) : Prop where
  lt : b < B
  ltB : B ≤ w.heap.size
  c2 : w.cell? ⟨b, 2, none⟩ = some v2
  c3 : w.cell? ⟨b, 3, none⟩ = some v3
  c4 : w.cell? ⟨b, 4, none⟩ = some v4
  c5 : w.cell? ⟨b, 5, none⟩ = some v5
  f : ∀ i, w.frozen? ⟨b, i, none⟩ = false
  ce : ∀ i, i < 10 → (i < 2 ∨ 5 < i) → w.cell? ⟨b, i, none⟩ = some (.slice none 0 0)
  o2 : OwnY zD B w v2 Da
  o3 : OwnY zD B w v3 Db
  o4 : OwnY zE B w v4 La
  o5 : OwnY zE B w v5 Lb
  ne2 : ∀ k, v2.ownBlock = some k → v3.ownBlock = some k → False
  ne4 : ∀ k, v4.ownBlock = some k → v5.ownBlock = some k → False
  m2 : ∀ x, x ∈ Da → OwnY yD B w x.v x.D
  m3 : ∀ x, x ∈ Db → OwnY yD B w x.v x.D
  m4 : ∀ x, x ∈ La → OwnY yE B w x.v x.D
  m5 : ∀ x, x ∈ Lb → OwnY yE B w x.v x.D
theorem GM.bel {w w' : World} {b B : Nat} {v2 v3 v4 v5 : Value} {Da Db : List (SV (Int × Int))} {La Lb : List (SV En)} (h : GM w b B v2 v3 v4 v5 Da Db La Lb) (hb : Below w.heap.size w w') : GM w' b B v2 v3 v4 v5 Da Db La Lb := by
  have hlt : b < w.heap.size := Nat.lt_of_lt_of_le h.lt h.ltB
  exact ⟨h.lt, Nat.le_trans h.ltB hb.size, (hb.cell (p := ⟨b, _, none⟩) hlt).trans h.c2, (hb.cell (p := ⟨b, _, none⟩) hlt).trans h.c3, (hb.cell (p := ⟨b, _, none⟩) hlt).trans h.c4, (hb.cell (p := ⟨b, _, none⟩) hlt).trans h.c5, fun i => (hb.frozen (p := ⟨b, _, none⟩) hlt).trans (h.f i), fun i h0 h1 => (hb.cell (p := ⟨b, _, none⟩) hlt).trans (h.ce i h0 h1), h.o2.grow hb, h.o3.grow hb, h.o4.grow hb, h.o5.grow hb, h.ne2, h.ne4, fun x hx => (h.m2 x hx).grow hb, fun x hx => (h.m3 x hx).grow hb, fun x hx => (h.m4 x hx).grow hb, fun x hx => (h.m5 x hx).grow hb⟩
theorem GM.pushDa {w w3 : World} {b B : Nat} {v2 v3 v4 v5 v' : Value} {Da Db : List (SV (Int × Int))} {La Lb : List (SV En)} {x : SV (Int × Int)} (G : GM w b B v2 v3 v4 v5 Da Db La Lb) (hx : OwnY yD B w x.v x.D) (g3 : w.grownBy w3 v2.ownBlock) (o3 : OwnY zD B w3 v' (Da ++ [x])) (n3 : v'.ownBlock = v2.ownBlock ∨ ∃ k, v'.ownBlock = some k ∧ w.heap.size ≤ k) :
    GM (w3.setCell ⟨b, 2, none⟩ v') b B v' v3 v4 v5 (Da ++ [x]) Db La Lb := by
  have hlt : b < w.heap.size := Nat.lt_of_lt_of_le G.lt G.ltB
  have hrow : v2.ownBlock ≠ some b := fun e => by have := (G.o2.blk b e).1; have := G.lt; omega
  have ob : (⟨b, 2, none⟩ : Addr).block < B := G.lt
  refine ⟨G.lt, by simpa [World.setCell] using Nat.le_trans G.ltB g3.size, setc_eq (gcell g3 G.c2 hrow), setc_ne (gcell g3 G.c3 hrow) (by omega), setc_ne (gcell g3 G.c4 hrow) (by omega), setc_ne (gcell g3 G.c5 hrow) (by omega), fun i => setf (gfroz g3 hlt (G.f i) hrow), fun i h0 h1 => setc_ne (gcell g3 (G.ce i h0 h1) hrow) (by omega), o3.low_set ob _, (OwnY.grownN G.o3 g3 (fun k e e' => G.ne2 k e' e)).low_set ob _, (OwnY.grownZ G.o4 G.o2 hzz.symm g3).low_set ob _, (OwnY.grownZ G.o5 G.o2 hzz.symm g3).low_set ob _, ?_, G.ne4, ?_, fun y hy => ((G.m3 y hy).grownZ G.o2 hTD g3).low_set ob _, fun y hy => ((G.m4 y hy).grownZ G.o2 hED g3).low_set ob _, fun y hy => ((G.m5 y hy).grownZ G.o2 hED g3).low_set ob _⟩
  · intro k e e'
    rcases n3 with n3 | ⟨k', hk, hk2⟩
    · exact G.ne2 k (n3.symm.trans e) e'
    · rw [hk] at e
      cases e
      have := (G.o3.blk k e').2
      omega
  · intro y hy
    rcases List.mem_append.1 hy with hy | hy
    · exact ((G.m2 y hy).grownZ G.o2 hTD g3).low_set ob _
    · simp at hy
      subst hy
      exact (hx.grownZ G.o2 hTD g3).low_set ob _
theorem GM.pushLa {w w3 : World} {b B : Nat} {v2 v3 v4 v5 v' : Value} {Da Db : List (SV (Int × Int))} {La Lb : List (SV En)} {x : SV En} (G : GM w b B v2 v3 v4 v5 Da Db La Lb) (hx : OwnY yE B w x.v x.D) (g3 : w.grownBy w3 v4.ownBlock) (o3 : OwnY zE B w3 v' (La ++ [x])) (n3 : v'.ownBlock = v4.ownBlock ∨ ∃ k, v'.ownBlock = some k ∧ w.heap.size ≤ k) :
    GM (w3.setCell ⟨b, 4, none⟩ v') b B v2 v3 v' v5 Da Db (La ++ [x]) Lb := by
  have hlt : b < w.heap.size := Nat.lt_of_lt_of_le G.lt G.ltB
  have hrow : v4.ownBlock ≠ some b := fun e => by have := (G.o4.blk b e).1; have := G.lt; omega
  have ob : (⟨b, 4, none⟩ : Addr).block < B := G.lt
  refine ⟨G.lt, by simpa [World.setCell] using Nat.le_trans G.ltB g3.size, setc_ne (gcell g3 G.c2 hrow) (by omega), setc_ne (gcell g3 G.c3 hrow) (by omega), setc_eq (gcell g3 G.c4 hrow), setc_ne (gcell g3 G.c5 hrow) (by omega), fun i => setf (gfroz g3 hlt (G.f i) hrow), fun i h0 h1 => setc_ne (gcell g3 (G.ce i h0 h1) hrow) (by omega), (OwnY.grownZ G.o2 G.o4 hzz g3).low_set ob _, (OwnY.grownZ G.o3 G.o4 hzz g3).low_set ob _, o3.low_set ob _, (OwnY.grownN G.o5 g3 (fun k e e' => G.ne4 k e' e)).low_set ob _, G.ne2, ?_, fun y hy => ((G.m2 y hy).grownZ G.o4 hDE g3).low_set ob _, fun y hy => ((G.m3 y hy).grownZ G.o4 hDE g3).low_set ob _, ?_, fun y hy => ((G.m5 y hy).grownZ G.o4 hTE g3).low_set ob _⟩
  · intro k e e'
    rcases n3 with n3 | ⟨k', hk, hk2⟩
    · exact G.ne4 k (n3.symm.trans e) e'
    · rw [hk] at e
      cases e
      have := (G.o5.blk k e').2
      omega
  · intro y hy
    rcases List.mem_append.1 hy with hy | hy
    · exact ((G.m4 y hy).grownZ G.o4 hTE g3).low_set ob _
    · simp at hy
      subst hy
      exact (hx.grownZ G.o4 hTE g3).low_set ob _
theorem GM.pushLb {w w3 : World} {b B : Nat} {v2 v3 v4 v5 v' : Value} {Da Db : List (SV (Int × Int))} {La Lb : List (SV En)} {x : SV En} (G : GM w b B v2 v3 v4 v5 Da Db La Lb) (hx : OwnY yE B w x.v x.D) (g3 : w.grownBy w3 v5.ownBlock) (o3 : OwnY zE B w3 v' (Lb ++ [x])) (n3 : v'.ownBlock = v5.ownBlock ∨ ∃ k, v'.ownBlock = some k ∧ w.heap.size ≤ k) :
    GM (w3.setCell ⟨b, 5, none⟩ v') b B v2 v3 v4 v' Da Db La (Lb ++ [x]) := by
  have hlt : b < w.heap.size := Nat.lt_of_lt_of_le G.lt G.ltB
  have hrow : v5.ownBlock ≠ some b := fun e => by have := (G.o5.blk b e).1; have := G.lt; omega
  have ob : (⟨b, 5, none⟩ : Addr).block < B := G.lt
  refine ⟨G.lt, by simpa [World.setCell] using Nat.le_trans G.ltB g3.size, setc_ne (gcell g3 G.c2 hrow) (by omega), setc_ne (gcell g3 G.c3 hrow) (by omega), setc_ne (gcell g3 G.c4 hrow) (by omega), setc_eq (gcell g3 G.c5 hrow), fun i => setf (gfroz g3 hlt (G.f i) hrow), fun i h0 h1 => setc_ne (gcell g3 (G.ce i h0 h1) hrow) (by omega), (OwnY.grownZ G.o2 G.o5 hzz g3).low_set ob _, (OwnY.grownZ G.o3 G.o5 hzz g3).low_set ob _, (OwnY.grownN G.o4 g3 (fun k e e' => G.ne4 k e e')).low_set ob _, o3.low_set ob _, G.ne2, ?_, fun y hy => ((G.m2 y hy).grownZ G.o5 hDE g3).low_set ob _, fun y hy => ((G.m3 y hy).grownZ G.o5 hDE g3).low_set ob _, fun y hy => ((G.m4 y hy).grownZ G.o5 hTE g3).low_set ob _, ?_⟩
  · intro k e e'
    rcases n3 with n3 | ⟨k', hk, hk2⟩
    · exact G.ne4 k e (n3.symm.trans e')
    · rw [hk] at e'
      cases e'
      have := (G.o4.blk k e).2
      omega
  · intro y hy
    rcases List.mem_append.1 hy with hy | hy
    · exact ((G.m5 y hy).grownZ G.o5 hTE g3).low_set ob _
    · simp at hy
      subst hy
      exact (hx.grownZ G.o5 hTE g3).low_set ob _
set_option maxHeartbeats 2000000 in
theorem given_entM (b B : Nat) (v2 v3 va vb : Value) (Da Db : List (SV (Int × Int))) (La Lb : List (SV En)) (a : Option Addr) (n c : Nat) (D : List En) (w : World) (G : GM w b B v2 v3 va vb Da Db La Lb) (h : SlY yE w a n c D) (hm : n * 48 ≤ 140737488351232) (hP : (La.length + 1) * 24 ≤ 140737488355328) (hP3 : Lb.length = La.length) :
    Calls Try.prog 11 #[.pointer (some ⟨b, 0, none⟩), .slice a n c] w fun e w' => ∃ g c' va' vb' g5 k5, e = .returned (.slice (some ⟨g, 0, none⟩) n c') ∧ SlY yE w' (some ⟨g, 0, none⟩) n c' D ∧ w.heap.size ≤ g ∧ GM w' b B v2 v3 va' vb' Da Db (La ++ [⟨some ⟨g, 0, none⟩, c', D ++ [mkE]⟩]) (Lb ++ [⟨some ⟨g5, 0, none⟩, k5, D ++ [mkE]⟩]) ∧ Upd (fun k => k = b ∨ va.ownBlock = some k ∨ vb.ownBlock = some k) w w' ∧ (va'.ownBlock = va.ownBlock ∨ ∃ k, va'.ownBlock = some k ∧ w.heap.size ≤ k) ∧ (vb'.ownBlock = vb.ownBlock ∨ ∃ k, vb'.ownBlock = some k ∧ w.heap.size ≤ k) := by
  have HD := hide h.len
  have HS := hide h
  have hbw : b < w.heap.size := Nat.lt_of_lt_of_le G.lt G.ltB
  have HG := hide G
  clear h G
  go_enter Try.func11, Try.ntmps11
  go_wp2_with fail
  refine (copyent_any a n c D w HS.out (by omega)).mono ?_
  rintro e w1 ⟨v1, rfl, o1, b1⟩
  have z1 := b1.size
  have SB := hide (sl_box (Y := yE) w1 mkE 28)
  go_wp2_with (at_builtin; go_must (refine appY kE _ rfl (.tmp 7) (.tmp 9) rfl w.heap.size D v1 rfl (some ⟨w1.heap.size, 0, none⟩) 1 1 rfl [mkE] SB.out (o1.alloc _) (by simp; omega) (by rw [HD.out]; unfold maxLen; omega) (by show (_ + 1) * 48 ≤ _; rw [HD.out]; omega) ?_))
  intro v5 w2 o2 g2 _
  have b2 : Below w.heap.size w w2 := (o1.alloc _).grown (b1.alloc z1 _) g2 (by simp; omega)
  have z2 := b2.size
  obtain ⟨a5, k, hv, k1, k2, k3, k4⟩ := o2.form
  obtain ⟨g, rfl⟩ : ∃ g, a5 = some ⟨g, 0, none⟩ := by
    cases a5 with
    | none => exact absurd (k3 rfl).1 (by simp)
    | some z => obtain ⟨g, rfl, _⟩ := k4 z rfl; exact ⟨g, rfl⟩
  obtain ⟨g', eg, hgB, hgs⟩ := k4 _ rfl
  cases eg
  have HLN : Hid ((D ++ [mkE]).length = n + 1) := by show _ = _; rw [List.length_append, HD.out]; rfl
  rw [HLN.out] at hv k1
  subst hv
  have X2 := hide (o2.low (Nat.le_trans HG.out.ltB (Nat.le_refl _)))
  have G2 := hide (HG.out.bel b2)
  clear o1 b1 g2 k3 k4 o2 z1 SB
  have d2 := G2.out.c4
  have hb2 : b < w2.heap.size := by omega
  have y2 : ∀ ob, (w2.alloc ob).cell? ⟨b, 4, none⟩ = some va := fun ob => (World.cell?_alloc_past _ _ _ hb2).trans d2
  have ba : Below w2.heap.size w2 (w2.alloc (.cells #[.slice (some ⟨g, 0, none⟩) (n + 1) k] 22)) := (Below.refl _ _).alloc (Nat.le_refl _) _
  have GA := hide (G2.out.bel ba)
  have XA : Hid (OwnY yE B (w2.alloc (.cells #[.slice (some ⟨g, 0, none⟩) (n + 1) k] 22)) (.slice (some ⟨g, 0, none⟩) (D ++ [mkE]).length k) (D ++ [mkE])) := by
    show OwnY _ _ _ _ _
    rw [HLN.out]
    exact X2.out.grow ba
  have UA : Upd (fun k => k = b ∨ va.ownBlock = some k ∨ vb.ownBlock = some k) w (w2.alloc (.cells #[.slice (some ⟨g, 0, none⟩) (n + 1) k] 22)) := (Upd.of_below b2).trans (Upd.of_below ba)
  have UH := hide UA
  have SB : Hid (SlY zE (w2.alloc (.cells #[.slice (some ⟨g, 0, none⟩) (n + 1) k] 22)) (some ⟨w2.heap.size, 0, none⟩) 1 1 [⟨some ⟨g, 0, none⟩, k, D ++ [mkE]⟩]) := by
    have := sl_box (Y := zE) w2 ⟨some ⟨g, 0, none⟩, k, D ++ [mkE]⟩ 22
    simp only [zE, yS, HLN.out] at this
    exact this
  clear UA ba
  go_wp2_with (at_builtin; go_must (refine appY kzE _ rfl (.tmp 15) (.tmp 17) rfl B La va rfl (some ⟨w2.heap.size, 0, none⟩) 1 1 rfl [⟨some ⟨g, 0, none⟩, k, D ++ [mkE]⟩] SB.out GA.out.o4 (by have := HG.out.ltB; simp; omega) (by unfold maxLen; omega) hP ?_))
  intro va' w3 o3 g3 n3
  have zc := gcell g3 GA.out.c4 (fun e => by have := (GA.out.o4.blk b e).1; have := HG.out.lt; omega)
  have zf := gfroz g3 (by simp; omega) (GA.out.f 4) (fun e => by have := (GA.out.o4.blk b e).1; have := HG.out.lt; omega)
  have G4 := hide (GM.pushLa (x := ⟨some ⟨g, 0, none⟩, k, D ++ [mkE]⟩) GA.out XA.out g3 o3 (n3.imp id (fun ⟨k', h1, h2⟩ => ⟨k', h1, by simpa using h2⟩)))
  obtain ⟨r2, q2, hv2, _⟩ := o3.form
  have U4 : Hid (Upd (fun k => k = b ∨ va.ownBlock = some k ∨ vb.ownBlock = some k) w (w3.setCell ⟨b, 4, none⟩ va')) := (UH.out.trans (gupd g3 (fun k e => .inr (.inl e)))).setCell (.inl (.inl rfl)) _
  have N2 : Hid (va'.ownBlock = va.ownBlock ∨ ∃ k, va'.ownBlock = some k ∧ w.heap.size ≤ k) := n3.imp id (fun ⟨k', h1, h2⟩ => ⟨k', h1, by first | omega | (simp at h2; omega)⟩)
  clear GA XA UH G2 X2 y2 d2 o3 g3 n3 HS SB
  generalize (La ++ [(⟨some ⟨g, 0, none⟩, k, D ++ [mkE]⟩ : SV En)]).length = l2 at hv2
  subst hv2
  go_wp2_with fail
  clear zc zf
  generalize w3.setCell ⟨b, 4, none⟩ (.slice r2 l2 q2) = W at *
  have j3 := G4.out.c5
  have jz : b < W.heap.size := Nat.lt_of_lt_of_le G4.out.lt G4.out.ltB
  have XW : Hid (SlY yE W (some ⟨g, 0, none⟩) (n + 1) k (D ++ [mkE])) := by
    have := (G4.out.m4 ⟨some ⟨g, 0, none⟩, k, D ++ [mkE]⟩ (by simp)).sl' kE
    simp only [HLN.out] at this
    exact this
  have LT3 : Hid ((Lb.length + 1) * 24 ≤ 140737488355328) := by show _ ≤ _; rw [hP3]; exact hP
  go_region_law (first
    | (refine stepY kzE rfl (.tmp 25) (.tmp 28) rfl B Lb vb rfl (some ⟨w5.heap.size, 0, none⟩) 1 1 rfl [⟨some ⟨g5, 0, none⟩, k5, D ++ [mkE]⟩] SB5.out GB.out.o5 GB.out.ltB (by have := LT3.out; unfold maxLen; omega) LT3.out ?_; intro v6 w6 o6 g6 n6; have qc := gcell g6 GB.out.c5 (fun e => by have := (GB.out.o5.blk b e).1; have := GB.out.lt; omega); have qf := gfroz g6 (by have := GB.out.lt; have := GB.out.ltB; omega) (GB.out.f 5) (fun e => by have := (GB.out.o5.blk b e).1; have := GB.out.lt; omega); obtain ⟨r3, q3, hv3, _⟩ := o6.form; have G7 := hide (GM.pushLb (x := ⟨some ⟨g5, 0, none⟩, k5, D ++ [mkE]⟩) GB.out X5.out g6 o6 n6); have N3 : Hid (v6.ownBlock = vb.ownBlock ∨ ∃ k, v6.ownBlock = some k ∧ w.heap.size ≤ k) := n6.imp id (fun ⟨k', h1, h2⟩ => ⟨k', h1, Nat.le_trans UB.out.size h2⟩); have U7 := hide ((UB.out.trans (gupd g6 (fun k e => .inr (.inr e)))).setCell (p := ⟨b, 5, none⟩) (.inl (.inl rfl)) v6); generalize (Lb ++ [(⟨some ⟨g5, 0, none⟩, k5, D ++ [mkE]⟩ : SV En)]).length = l3 at hv3; subst hv3)
    | (refine step_copyent rfl (.tmp 26) rfl (some ⟨g, 0, none⟩) (n + 1) k rfl (D ++ [mkE]) (XW.out.later (Below.refl _ _).drew) (by omega) ?_; intro v5 w5 o5 b5; have s1 : w5.cell? ⟨b, 5, none⟩ = some vb := (b5.cell (p := ⟨b, 5, none⟩) jz).trans j3; have hz5 : b < w5.heap.size := Nat.lt_of_lt_of_le jz b5.size; have s2 : ∀ x, (w5.alloc x).cell? ⟨b, 5, none⟩ = some vb := (fun x => (World.cell?_alloc_past _ _ _ hz5).trans s1); obtain ⟨a5, k5, hv5, _, _, kn, kg⟩ := o5.form; obtain ⟨g5, ha5⟩ : ∃ g5, a5 = some ⟨g5, 0, none⟩ := (by cases a5 with | none => exact absurd (kn rfl).1 (by simp) | some z => obtain ⟨g5, hz, _⟩ := kg z rfl; exact ⟨g5, by rw [hz]⟩); subst ha5; rw [HLN.out] at hv5; subst hv5; have b5' : Below W.heap.size W w5 := (Below.refl _ _).drew.trans b5; have ba5 : Below w5.heap.size w5 (w5.alloc (.cells #[.slice (some ⟨g5, 0, none⟩) (n + 1) k5] 22)) := (Below.refl _ _).alloc (Nat.le_refl _) _; have GB := hide ((G4.out.bel b5').bel ba5); have X5 : Hid (OwnY yE B (w5.alloc (.cells #[.slice (some ⟨g5, 0, none⟩) (n + 1) k5] 22)) (.slice (some ⟨g5, 0, none⟩) (D ++ [mkE]).length k5) (D ++ [mkE])) := (by show OwnY _ _ _ _ _; rw [HLN.out]; exact (o5.low G4.out.ltB).grow ba5); have UB := hide ((U4.out.trans (Upd.of_below b5')).trans (Upd.of_below ba5)); have SB5 : Hid (SlY zE (w5.alloc (.cells #[.slice (some ⟨g5, 0, none⟩) (n + 1) k5] 22)) (some ⟨w5.heap.size, 0, none⟩) 1 1 [⟨some ⟨g5, 0, none⟩, k5, D ++ [mkE]⟩]) := (by have := sl_box (Y := zE) w5 ⟨some ⟨g5, 0, none⟩, k5, D ++ [mkE]⟩ 22; simp only [zE, yS, HLN.out] at this; exact this); clear o5 b5 ba5 kn kg))
  all_goals
    clear n6 o6 g6 qc qf UB X5 GB s2 s1 b5' LT3 XW j3 U4 G4 HG
    generalize w6.setCell ⟨b, 5, none⟩ (.slice r3 l3 q3) = W7 at *
    have PX : Hid (SlY yE W7 (some ⟨g, 0, none⟩) n k D) := (G7.out.m4 ⟨some ⟨g, 0, none⟩, k, D ++ [mkE]⟩ (by simp)).front kE HD.out
    unfold maxLen at k2
    go_wp2
    go_ret
    exact ⟨g, k, _, _, g5, k5, rfl, PX.out, hgB, G7.out, U7.out, N2.out, N3.out⟩
theorem OwnY.row {α : Type} {T ST : TypeId} (hz : (yS α T ST).Ok) {B : Nat} {w : World} {a : Option Addr} {n c : Nat} {L : List (SV α)} (h : OwnY (yS α T ST) B w (.slice a n c) L) {j : Nat} {x : SV α} (hx : L[j]? = some x) : ∃ g, a = some ⟨g, 0, none⟩ ∧ w.cell? ⟨g, j, none⟩ = some (.slice x.a x.D.length x.c) := by
  obtain ⟨a', c', e, _, _, hn, hs⟩ := h.form
  injection e with e1 e2 e3
  subst e1
  cases a with
  | none => have := (hn rfl).1; rw [this] at hx; simp at hx
  | some z =>
    obtain ⟨g, rfl, _, _⟩ := hs z rfl
    refine ⟨g, rfl, ?_⟩
    have := h.cell hz j x hx 0 _ rfl
    simpa [yS] using this
theorem map_at {α : Type} {La Lb : List (SV α)} (h : La.map (·.D) = Lb.map (·.D)) {j : Nat} {x y : SV α} (hx : La[j]? = some x) (hy : Lb[j]? = some y) : x.D = y.D := by
  have h1 := congrArg (fun l => l[j]?) h
  simp only [List.getElem?_map, hx, hy, Option.map_some] at h1
  exact Option.some.inj h1
theorem len_map {α : Type} {La Lb : List (SV α)} (h : La.map (·.D) = Lb.map (·.D)) : Lb.length = La.length := by
  have := congrArg List.length h
  simpa using this.symm
set_option maxHeartbeats 4000000 in
theorem intactM_any (b B : Nat) (v2 v3 v4 v5 : Value) (Da Db : List (SV (Int × Int))) (La Lb : List (SV En)) (w : World) (G : GM w b B v2 v3 v4 v5 Da Db La Lb) (hD : Da.map (·.D) = Db.map (·.D)) (hL : La.map (·.D) = Lb.map (·.D)) :
    Calls Try.prog 17 #[.pointer (some ⟨b, 0, none⟩)] w fun e w' => e = .returned (.bool true) ∧ ∃ n, w' = w.drewN n := by
  have d0 := G.ce 0 (by omega) (by omega)
  have d6 := G.ce 6 (by omega) (by omega)
  have d8 := G.ce 8 (by omega) (by omega)
  have hl1 := len_map hD
  have hl2 := len_map hL
  obtain ⟨a2, k2, rfl, p2, p2', _, _⟩ := G.o2.form
  obtain ⟨a3, k3, rfl, p3, p3', _, _⟩ := G.o3.form
  obtain ⟨a4, k4, rfl, p4, p4', _, _⟩ := G.o4.form
  obtain ⟨a5, k5, rfl, p5, p5', _, _⟩ := G.o5.form
  rw [hl1] at p3 G
  rw [hl2] at p5 G
  unfold maxLen at p2' p3' p4' p5'
  have N1 : Hid (∀ j, j < Da.length → ∃ x y, Da[j]? = some x ∧ Db[j]? = some y ∧ x.D = y.D ∧ x ∈ Da ∧ y ∈ Db) := fun j hj => by
    have h1 := List.getElem?_eq_getElem hj
    have h2 := List.getElem?_eq_getElem (l := Db) (i := j) (by omega)
    exact ⟨_, _, h1, h2, map_at hD h1 h2, List.mem_of_getElem? h1, List.mem_of_getElem? h2⟩
  have N2 : Hid (∀ j, j < La.length → ∃ x y, La[j]? = some x ∧ Lb[j]? = some y ∧ x.D = y.D ∧ x ∈ La ∧ y ∈ Lb) := fun j hj => by
    have h1 := List.getElem?_eq_getElem hj
    have h2 := List.getElem?_eq_getElem (l := Lb) (i := j) (by omega)
    exact ⟨_, _, h1, h2, map_at hL h1 h2, List.mem_of_getElem? h1, List.mem_of_getElem? h2⟩
  have HG := hide G
  have d2 := G.c2
  have d4 := G.c4
  clear G hD hL hl1 hl2
  generalize Da.length = n at *
  generalize La.length = m at *
  go_enter Try.func17, Try.ntmps17
  go_wp2_with fail
  go_loopw [3] (fun i wr => i = .int .i64 0 ∧ wr = w) (fun _ _ => 0)
  case atStart => exact ⟨rfl, rfl⟩
  case round =>
    obtain ⟨rfl, e1⟩ := hrel
    subst e1
    go_wp2_with fail
    go_loopw [4] (fun i ws => i = .int .i64 0 ∧ ws = wr) (fun _ _ => 0)
    case atStart => exact ⟨rfl, rfl⟩
    case round =>
      obtain ⟨rfl, e1⟩ := hrel
      subst e1
      go_wp2_with fail
      go_loopw [5] (fun i ws => i = .int .i64 0 ∧ ws = wr) (fun _ _ => 0)
      case atStart => exact ⟨rfl, rfl⟩
      case round =>
        obtain ⟨rfl, e1⟩ := hrel
        subst e1
        obtain ⟨w0, hw0⟩ : ∃ w0, w0 = wr := ⟨_, rfl⟩
        subst hw0
        go_wp2_with fail
        go_loopw [6] (fun i ws => ∃ j t : Nat, i = .int .i64 (j : Int) ∧ j ≤ n ∧ ws = w0.drewN t) (fun i _ => n - (intOf i).toNat)
        case atStart => exact ⟨0, 0, rfl, Nat.zero_le _, rfl⟩
        case round =>
          obtain ⟨j, t, rfl, hj, hws⟩ := hrel
          have HW := hide hws
          have G2 := hide (HG.out.bel (show Below w0.heap.size w0 wr by rw [hws]; exact belN (Below.refl _ _) t))
          clear d2 d4
          have d2 := G2.out.c2
          have d3 := G2.out.c3
          have d4 := G2.out.c4
          clear hws
          by_cases hlt : j < n
          · obtain ⟨x, y, hx, hy, hxy, mx, my⟩ := N1.out j hlt
            obtain ⟨g2, rfl, q2⟩ := G2.out.o2.row kzD hx
            obtain ⟨g3, rfl, q3⟩ := G2.out.o3.row kzD hy
            have sx := (G2.out.m2 x mx).sl' kD
            have sy := (G2.out.m3 y my).sl' kD
            rw [← hxy] at q3 sy
            have HH : Hid (∀ k, Calls Try.prog 48 #[.slice x.a x.D.length x.c, .slice y.a x.D.length y.c] (wr.drewN k) fun e w' => e = .returned (.bool true) ∧ ∃ n, w' = (wr.drewN k).drewN n) := fun k => by
              have := samevecB x.D x.D x.a y.a _ _ x.c y.c (wr.drewN k) (sx.drewN k) (sy.drewN k)
              simpa using this
            clear sx sy hx hy hxy HG G2 N1 N2 d4 mx my
            generalize x.D.length = lx at *
            generalize x.a = xa at *
            generalize y.a = ya at *
            generalize x.c = xc at *
            generalize y.c = yc at *
            go_wp2_with fail
            go_quiet ((go_at_call 48; exact Calls.quiet_of (HH.out _)))
            go_wp2
            go_round
            case rel => exact ⟨j + 1, t + nq, by go_num, by omega, by rw [HW.out, World.drewN_drewN]⟩
            case measure => simp [intOf]; omega
          · obtain rfl : j = n := by omega
            have d6' := (G2.out.ce 6 (by omega) (by omega))
            clear N1 d3
            obtain ⟨w1, hw1⟩ : ∃ w1, w1 = wr := ⟨_, rfl⟩
            subst hw1
            go_wp2_with fail
            go_loopw [7] (fun i ws => ∃ j t : Nat, i = .int .i64 (j : Int) ∧ j ≤ m ∧ ws = w1.drewN t) (fun i _ => m - (intOf i).toNat)
            case atStart => exact ⟨0, 0, rfl, Nat.zero_le _, rfl⟩
            case round =>
              obtain ⟨i, s, rfl, hi, hws⟩ := hrel
              have HW2 := hide hws
              have G3 := hide (G2.out.bel (show Below w1.heap.size w1 wr by rw [hws]; exact belN (Below.refl _ _) s))
              clear d2 d4
              have d4 := G3.out.c4
              have d5 := G3.out.c5
              clear hws
              by_cases hlt : i < m
              · obtain ⟨x, y, hx, hy, hxy, mx, my⟩ := N2.out i hlt
                obtain ⟨g4, rfl, q2⟩ := G3.out.o4.row kzE hx
                obtain ⟨g5, rfl, q3⟩ := G3.out.o5.row kzE hy
                have sx := (G3.out.m4 x mx).sl' kE
                have sy := (G3.out.m5 y my).sl' kE
                rw [← hxy] at q3 sy
                have HH : Hid (∀ k, Calls Try.prog 49 #[.slice x.a x.D.length x.c, .slice y.a x.D.length y.c] (wr.drewN k) fun e w' => e = .returned (.bool true) ∧ ∃ n, w' = (wr.drewN k).drewN n) := fun k => by
                  have := sameentsB x.D x.D x.a y.a _ _ x.c y.c (wr.drewN k) (sx.drewN k) (sy.drewN k)
                  simpa using this
                clear sx sy hx hy hxy HG G2 G3 N2 mx my
                generalize x.D.length = lx at *
                generalize x.a = xa at *
                generalize y.a = ya at *
                generalize x.c = xc at *
                generalize y.c = yc at *
                go_wp2_with fail
                go_quiet ((go_at_call 49; exact Calls.quiet_of (HH.out _)))
                go_wp2
                go_round
                case rel => exact ⟨i + 1, s + nq, by go_num, by omega, by rw [HW2.out, World.drewN_drewN]⟩
                case measure => simp [intOf]; omega
              · obtain rfl : i = m := by omega
                clear HG G2 G3 N2
                go_wp2
                go_ret
                exact ⟨rfl, t + s, by rw [HW2.out, HW.out, World.drewN_drewN]⟩
theorem wl_val {ops : Array Oper} {rest : List Oper} {o : Oper} {a : Act} {w : World} {Q : Exit → Act → World → Prop} {v : Value} (hw : Region.wanted o (yielded ops a.tmps) = true) (h : (execOp a.eval o).run Try.prog w = .ok (.value v) w)
    (hk : wpList Try.prog ops Q rest (a.put o.dst v) w) : wpList Try.prog ops Q (o :: rest) a w :=
  BigFrame.wpList_want hw (fun K hK => by unfold Oper.wp; rw [h, Oper.upon_value]; exact hK _ _ hk)
theorem want_none {ops : Array Oper} {o : Oper} {T : Array Value} (h : o.guard = none) : Region.wanted o (yielded ops T) = true := by simp [Region.wanted, h]
theorem getD_of {T : Array Value} {i : Nat} {v : Value} (h : T[i]? = some v) : T.getD i undef = v := by rw [Array.getD_eq_getD_getElem?, h]; rfl
theorem at_set {T : Array Value} {i : Nat} (v : Value) (h : i < T.size) : (T.setIfInBounds i v)[i]? = some v := by simp [h]
theorem at_set_ne {T : Array Value} {i j : Nat} (v : Value) (h : j ≠ i) : (T.setIfInBounds i v)[j]? = T[j]? := by rw [Array.getElem?_setIfInBounds_ne (fun e => h e.symm)]
def gw (c : Bool) (V : Value) : Value := cond c V undef
structure VJ (ops : Array Oper) (C : World → Prop) (Q : Act → Prop) (l : List Oper) (a : Act) : Prop where
  out : wpQuiet Try.prog ops C Q l a
theorem vq_start {C : World → Prop} {id : Nat} {Q : Exit → Act → World → Prop} {a : Act} {w : World} {l : List Oper} (hm : Try.prog.follows .mixedOrders = true) (hB : Region.lexB .any l.toArray = true) (hC : C w.drew)
    (h : VJ l.toArray C (fun a' => ∀ w', C w' → Q .normal a' w') l a) : (Code.region id l.toArray true).wp Try.prog Q a w :=
  wp_region_quiet (C := C) hm hB hC (by simpa using h.out)
theorem vl_gen {ops : Array Oper} {Q : Exit → Act → World → Prop} {l : List Oper} {T0 : Array Value} {df : List Deferred} {w : World} (P : Array Value → Prop) (h0 : P T0) (hk : ∀ T, P T → wpList Try.prog ops Q l ⟨T, df⟩ w) : wpList Try.prog ops Q l ⟨T0, df⟩ w := hk T0 h0
theorem vq_nil {ops : Array Oper} {C : World → Prop} {Q : Act → Prop} {a : Act} (h : Q a) : VJ ops C Q [] a := ⟨wpQuiet_nil h⟩
theorem want_g {ops : Array Oper} {o : Oper} {T : Array Value} {g j : Nat} {pol b c : Bool} (h : o.guard = some (g, pol)) (hg : (ops[g]?).bind (·.dst) = some j) (hj : T[j]? = some (gw c (.bool b))) : Region.wanted o (yielded ops T) = (c && (b == pol)) := by
  cases c <;> simp [Region.wanted, h, yielded, hg, hj, gw, undef]
theorem vq {ops : Array Oper} {rest : List Oper} {o : Oper} {T : Array Value} {df : List Deferred} {C : World → Prop} {Q : Act → Prop} {d n : Nat} (c : Bool) (V : Value) (hw : Region.wanted o (yielded ops T) = c) (he : c = true → ∀ v, C v → (execOp (⟨T, df⟩ : Act).eval o).run Try.prog v = .ok (.value V) v) (hd : o.dst = some d) (hz : T.size = n) (hn : d < n)
    (hk : ∀ T' : Array Value, T'.size = n → (∀ i, i ≠ d → T'[i]? = T[i]?) → T'[d]? = some (gw c V) → VJ ops C Q rest ⟨T', df⟩) : VJ ops C Q (o :: rest) ⟨T, df⟩ := by
  cases c with
  | false =>
    refine ⟨BigFrame.wpQuiet_skip hw ?_⟩
    rw [hd]
    exact (hk (T.setIfInBounds d undef) (by simp [hz]) (fun i hi => at_set_ne _ hi) (at_set _ (by omega))).out
  | true =>
    refine ⟨BigFrame.wpQuiet_want hw (fun K hK => ⟨V, fun v hv => by unfold Oper.quietAt; rw [he rfl v hv]; exact ⟨rfl, rfl⟩, hK _ ?_⟩)⟩
    rw [hd]
    exact (hk (T.setIfInBounds d V) (by simp [hz]) (fun i hi => at_set_ne _ hi) (at_set _ (by omega))).out
theorem vl {ops : Array Oper} {rest : List Oper} {o : Oper} {T : Array Value} {df : List Deferred} {w : World} {Q : Exit → Act → World → Prop} {d n : Nat} (c : Bool) (V : Value) (hw : Region.wanted o (yielded ops T) = c) (he : c = true → (execOp (⟨T, df⟩ : Act).eval o).run Try.prog w = .ok (.value V) w) (hd : o.dst = some d) (hz : T.size = n) (hn : d < n)
    (hk : ∀ T' : Array Value, T'.size = n → (∀ i, i ≠ d → T'[i]? = T[i]?) → T'[d]? = some (gw c V) → wpList Try.prog ops Q rest ⟨T', df⟩ w) : wpList Try.prog ops Q (o :: rest) ⟨T, df⟩ w := by
  cases c with
  | false =>
    refine wpList_skip hw ?_
    rw [hd]
    exact hk (T.setIfInBounds d undef) (by simp [hz]) (fun i hi => at_set_ne _ hi) (at_set _ (by omega))
  | true =>
    refine wl_val (v := V) hw (he rfl) ?_
    rw [hd]
    exact hk (T.setIfInBounds d V) (by simp [hz]) (fun i hi => at_set_ne _ hi) (at_set _ (by omega))
theorem vcallP {ops : Array Oper} {rest : List Oper} {o : Oper} {T : Array Value} {df : List Deferred} {w : World} {Q : Exit → Act → World → Prop} {d n : Nat} {fid : FuncId} {args : Array Value} {R : Ending → World → Prop} (hw : Region.wanted o (yielded ops T) = true) (he : (execOp (⟨T, df⟩ : Act).eval o).run Try.prog w = .ok (.enter fid args) w)
    (hc : Calls Try.prog fid args w R) (hd : o.dst = some d) (hz : T.size = n) (hn : d < n)
    (hk : ∀ (e : Ending) (w' : World), R e w' → ∃ V, e = .returned V ∧ ∀ T' : Array Value, T'.size = n → (∀ i, i ≠ d → T'[i]? = T[i]?) → T'[d]? = some (gw true V) → wpList Try.prog ops Q rest ⟨T', df⟩ w') : wpList Try.prog ops Q (o :: rest) ⟨T, df⟩ w := by
  refine BigFrame.wpList_want hw (fun K hK => ?_)
  unfold Oper.wp
  rw [he, Oper.upon_enter]
  refine hc.mono ?_
  intro e w' hR
  obtain ⟨V, rfl, hk'⟩ := hk e w' hR
  refine hK _ _ ?_
  rw [hd]
  exact hk' (T.setIfInBounds d V) (by simp [hz]) (fun i hi => at_set_ne _ hi) (at_set _ (by omega))
theorem ev {T : Array Value} {df : List Deferred} {i : Nat} {c : Bool} {X : Value} (h : T[i]? = some (gw c X)) (hc : c = true) : (⟨T, df⟩ : Act).eval (.tmp i) = X := by
  subst hc
  exact getD_of h
theorem evc {T : Array Value} {df : List Deferred} {x : Value} : (⟨T, df⟩ : Act).eval (.const x) = x := rfl
theorem ex_move {o : Oper} {ρ : Operand → Value} {x : Operand} {X : Value} {w : World} (ho : o.op = .move x) (hx : ρ x = X) : (execOp ρ o).run Try.prog w = .ok (.value X) w := by
  unfold execOp
  simp only [ho, hx]
  rfl
theorem ex_assign {o : Oper} {ρ : Operand → Value} {x : Operand} {X : Value} {w : World} (ho : o.op = .assign x) (hx : ρ x = X) : (execOp ρ o).run Try.prog w = .ok (.value X) w := by
  unfold execOp
  simp only [ho, hx]
  rfl
theorem ex_fa {o : Oper} {ρ : Operand → Value} {s : TypeId} {f : Nat} {x : Operand} {X V : Value} {w : World} (ho : o.op = .fieldAddr s x f) (hx : ρ x = X) (hr : (Instr.fieldAt s X f).run Try.prog w = .ok V w) : (execOp ρ o).run Try.prog w = .ok (.value V) w := by
  unfold execOp
  simp only [ho, hx, Sem.run_bind, hr, Result.andThen_ok]
  rfl
theorem ex_ld {o : Oper} {ρ : Operand → Value} {s : TypeId} {x : Operand} {X V : Value} {w : World} (ho : o.op = .load s x) (hx : ρ x = X) (hr : (Instr.loadAt s X).run Try.prog w = .ok V w) : (execOp ρ o).run Try.prog w = .ok (.value V) w := by
  unfold execOp
  simp only [ho, hx, Sem.run_bind, hr, Result.andThen_ok]
  rfl
theorem ex_ix {o : Oper} {ρ : Operand → Value} {s : TypeId} {x y : Operand} {X Y V : Value} {w : World} (ho : o.op = .indexAddr s x y) (hx : ρ x = X) (hy : ρ y = Y) (hr : (Instr.indexAt s X Y).run Try.prog w = .ok V w) : (execOp ρ o).run Try.prog w = .ok (.value V) w := by
  unfold execOp
  simp only [ho, hx, hy, Sem.run_bind, hr, Result.andThen_ok]
  rfl
theorem ex_bin {o : Oper} {ρ : Operand → Value} {b : BinOp} {s t : TypeId} {x y : Operand} {X Y V : Value} {w : World} (ho : o.op = .binOp b s x y t) (hx : ρ x = X) (hy : ρ y = Y) (hr : (do eqGuard b s x y X Y; binOp b s X Y : Sem Value).run Try.prog w = .ok V w) : (execOp ρ o).run Try.prog w = .ok (.value V) w := by
  unfold execOp
  simp only [ho, hx, hy]
  rw [Sem.run_bind, hr]
  rfl
theorem ex_build {o : Oper} {ρ : Operand → Value} {s : TypeId} {V : Value} {w : World} (ho : o.op = .build s #[]) (hr : (Instr.build s #[]).run Try.prog w = .ok V w) : (execOp ρ o).run Try.prog w = .ok (.value V) w := by
  unfold execOp
  simp only [ho]
  rw [Sem.run_bind]
  simp only [List.map_toArray, List.map_nil, hr]
  rfl
theorem ex_not {o : Oper} {ρ : Operand → Value} {s : TypeId} {x : Operand} {b : Bool} {w : World} (ho : o.op = .unOp .not s x) (hx : ρ x = .bool b) : (execOp ρ o).run Try.prog w = .ok (.value (.bool (!b))) w := by
  unfold execOp
  simp only [ho, hx]
  rfl
theorem ex_nil {o : Oper} {ρ : Operand → Value} {x : Operand} {p : Addr} {w : World} (ho : o.op = .nilCheck x) (hx : ρ x = .pointer (some p)) : (execOp ρ o).run Try.prog w = .ok (.value (.pointer (some p))) w := by
  unfold execOp
  simp only [ho, hx]
  rfl
theorem ex_call {o : Oper} {T : Array Value} {df : List Deferred} {fid : FuncId} {xs : Array Operand} {ts : Array TypeId} {args : Array Value} {w : World} (ho : o.op = .call { callee := .value (.func fid), args := xs, argTypes := ts }) (ha : xs.map (⟨T, df⟩ : Act).eval = args) (hr : (do let d ← Deferred.ofValue ((⟨T, df⟩ : Act).eval (.func fid)) args; invoke d.target d.args : Sem Next).run Try.prog w = .ok (.enter fid args) w) : (execOp (⟨T, df⟩ : Act).eval o).run Try.prog w = .ok (.enter fid args) w := by
  unfold execOp
  simp only [ho, resolve, ha]
  exact hr
theorem ex_or {o : Oper} {T : Array Value} {df : List Deferred} {j y : Nat} {c b z : Bool} {w : World} (ho : o.op = .pick (.tmp j) (.const (.bool true)) (.tmp y)) (hj : T[j]? = some (gw c (.bool b))) (hy : T[y]? = some (gw (c && (b == false)) (.bool z))) (hc : c = true) : (execOp (⟨T, df⟩ : Act).eval o).run Try.prog w = .ok (.value (.bool (b || z))) w := by
  subst hc
  unfold execOp
  simp only [ho, Act.eval, getD_of hj, getD_of hy]
  cases b <;> rfl
theorem ex_and {o : Oper} {T : Array Value} {df : List Deferred} {j x : Nat} {c b z : Bool} {w : World} (ho : o.op = .pick (.tmp j) (.tmp x) (.const (.bool false))) (hj : T[j]? = some (gw c (.bool b))) (hy : T[x]? = some (gw (c && (b == true)) (.bool z))) (hc : c = true) : (execOp (⟨T, df⟩ : Act).eval o).run Try.prog w = .ok (.value (.bool (b && z))) w := by
  subst hc
  unfold execOp
  simp only [ho, Act.eval, getD_of hj, getD_of hy]
  cases b <;> rfl
theorem neqC (x y : Operand) (a b : Int) (w : World) : (do eqGuard .neq 3 x y (.int .i64 a) (.int .i64 b); binOp .neq 3 (.int .i64 a) (.int .i64 b) : Sem Value).run Try.prog w = .ok (.bool (!decide (a = b))) w := by
  go_simp
  by_cases h : a = b <;> simp [h]
theorem lssC (x y : Operand) (a b : Int) (w : World) : (do eqGuard .lss 3 x y (.int .i64 a) (.int .i64 b); binOp .lss 3 (.int .i64 a) (.int .i64 b) : Sem Value).run Try.prog w = .ok (.bool (decide (a < b))) w := by
  go_simp
theorem geqC (x y : Operand) (a b : Int) (w : World) : (do eqGuard .geq 3 x y (.int .i64 a) (.int .i64 b); binOp .geq 3 (.int .i64 a) (.int .i64 b) : Sem Value).run Try.prog w = .ok (.bool (decide (b ≤ a))) w := by
  go_simp
theorem gtrC (x y : Operand) (a b : Int) (w : World) : (do eqGuard .gtr 3 x y (.int .i64 a) (.int .i64 b); binOp .gtr 3 (.int .i64 a) (.int .i64 b) : Sem Value).run Try.prog w = .ok (.bool (decide (b < a))) w := by
  go_simp
structure VH (ops : Array Oper) (Q : Exit → Act → World → Prop) (S : World → Prop) (fuel : Nat) (listed : Array Bool) (a : Act) (w : World) : Prop where
  out : wpAnyH Try.prog .any ops (NoPanic Q) S fuel listed a w
end Go.Proofs.Ytfafhlahbhopaaa
