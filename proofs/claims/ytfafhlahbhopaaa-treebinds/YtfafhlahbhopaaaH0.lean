import Derived.Test.YtfafhlahbhopaaaRows
import Derived.Maps.OwnSet
import Derived.Maps.RangeWalk
import Derived.WalkKit
import Derived.WalkSpells
import Derived.WalkLawsBesides
import Derived.Below
import Derived.Deep.QuietTactic
import Derived.BigQuiet
import Derived.Deep.RegionWith
import Derived.Deep.RegionLaw
import Derived.Deep.Light
import Derived.Deep.RegionHeld3
import Derived.Laws.OwnMore
import Derived.Laws.StructEq
import Derived.Laws.AppendOwnNone
import Derived.Sort.OwnSorted
import Derived.Maps.Views
import Derived.Laws.CopyRow
import Derived.Deep.MidRow
import Derived.Deep.Cut
import Derived.OrdersHeld
import Derived.RangeFuncRecord
import Derived.Laws.IdiomCopy
set_option maxRecDepth 100000
set_option linter.unusedVariables false
set_option linter.unusedSimpArgs false
namespace Go.Proofs.Ytfafhlahbhopaaa
abbrev Cl := Int × ByteArray
def gv (L : List Cl) (s : Int) : Option ByteArray := (L.find? (fun p => p.1 == s)).map (·.2)
def bh : List Cl → Int
  | [] => 0
  | p :: r => max (p.1 + 1) (bh r)
def ins (p : Cl) : List Cl → List Cl
  | [] => [p]
  | y :: r => if p.1 < y.1 then p :: y :: r else y :: ins p r
structure Ok (L : List Cl) : Prop where
  up : L.Pairwise (fun p q => p.1 < q.1)
  may : ∀ p ∈ L, 0 ≤ p.1 ∧ p.1 < 1024 ∧ p.2.size ≤ 64
def cR (v : Value) : Option (DataW Unit × List MemPlace) :=
  match v with
  | .agg a => match a.toList with
    | [.int .i64 s, .string x] => some (.agg [.lit (.int .i64 s), .lit (.string x.data.toList)], [])
    | _ => none
  | _ => none
def cD (p : Cl) : DataW Unit := .agg [.lit (.int .i64 p.1), .lit (.string p.2.data.toList)]
def mD (L : List Cl) : DataW Unit := .map (L.map fun p => (.int .i64 p.1, cD p))
def ck (k s : Int) (v : ByteArray) : Int :=
  if k = 1 ∨ k = 3 then
    if s < 0 ∨ 1024 ≤ s then 41 else if (if k = 1 then 64 else 0) < v.size then 42 else 0
  else if k = 2 ∨ k = 4 then
    if s ≠ 0 then 41 else if (if k = 2 then 64 else 0) < v.size then 42 else 0
  else 40
def wd (L : List Cl) (k s : Int) (v : ByteArray) : Int × Int × ByteArray :=
  if ck k s v ≠ 0 then (0, 0, ByteArray.empty)
  else if k = 1 then match gv L s with
    | some x => (2, s, x)
    | none => (1, s, v)
  else if k = 2 then (if bh L < 1024 then (1, bh L, v) else (3, 0, ByteArray.empty))
  else if k = 3 then match gv L s with
    | some x => (4, s, x)
    | none => (5, s, ByteArray.empty)
  else (6, L.length, ByteArray.empty)
def dn (L : List Cl) (k s : Int) (v : ByteArray) : List Cl := if (wd L k s v).1 = 1 then ins (wd L k s v).2 L else L
end Go.Proofs.Ytfafhlahbhopaaa
namespace Go.Proofs.Ytfafhlahbhopaaa
open Go.RowKit Go.Maps
theorem hide {p : Prop} (h : p) : Hid p := h
structure Upd (S : Nat → Prop) (w w' : World) : Prop where
  os : w'.os = w.os
  tape : w'.tape = w.tape
  output : w'.output = w.output
  size : w.heap.size ≤ w'.heap.size
  block : ∀ k, k < w.heap.size → ¬ S k → w'.heap[k]? = w.heap[k]?
theorem Upd.refl (S : Nat → Prop) (w : World) : Upd S w w := ⟨rfl, rfl, rfl, Nat.le_refl _, fun _ _ _ => rfl⟩
theorem Upd.trans {S : Nat → Prop} {a b c : World} (h : Upd S a b) (k : Upd S b c) : Upd S a c :=
  ⟨k.os.trans h.os, k.tape.trans h.tape, k.output.trans h.output, Nat.le_trans h.size k.size, fun i hi hs => (k.block i (Nat.lt_of_lt_of_le hi h.size) hs).trans (h.block i hi hs)⟩
theorem Upd.below {S : Nat → Prop} {w w' : World} {B : Nat} (h : Upd S w w') (hB : B ≤ w.heap.size) (hs : ∀ k, S k → B ≤ k) : Below B w w' :=
  ⟨h.os, h.tape, h.output, h.size, fun k hk => h.block k (by omega) (fun h2 => by have := hs k h2; omega)⟩
theorem Upd.of_below {S : Nat → Prop} {w w' : World} (h : Below w.heap.size w w') : Upd S w w' :=
  ⟨h.os, h.tape, h.output, h.size, fun k hk _ => h.block k hk⟩
theorem Upd.setCell {S : Nat → Prop} {a w : World} (h : Upd S a w) {p : Addr} (hp : S p.block ∨ a.heap.size ≤ p.block) (u : Value) : Upd S a (w.setCell p u) :=
  ⟨h.os, h.tape, h.output, by simpa [World.setCell] using h.size, fun k hk hs => (Below.heap_setCell w p u k (fun e => by
    rcases hp with hp | hp
    · exact hs (e ▸ hp)
    · omega)).trans (h.block k hk hs)⟩
theorem Upd.cell {S : Nat → Prop} {w w' : World} (h : Upd S w w') {p : Addr} (hp : p.block < w.heap.size) (hs : ¬ S p.block) : w'.cell? p = w.cell? p := World.cell?_of_block (w := w) (h.block p.block hp hs)
structure Opn where
  k : Int
  s : Int
  v : ByteArray
abbrev Own (w : World) (b n : Nat) (L : List Cl) : Prop := w.ownsMap Try.prog 3 cR b n (mD L)
end Go.Proofs.Ytfafhlahbhopaaa
namespace Go.Proofs.Ytfafhlahbhopaaa
open Go.RowKit Go.Maps
end Go.Proofs.Ytfafhlahbhopaaa
namespace Go.Proofs.Ytfafhlahbhopaaa
open Go.RowKit Go.Maps
end Go.Proofs.Ytfafhlahbhopaaa
namespace Go.Proofs.Ytfafhlahbhopaaa
open Go.RowKit Go.Maps
end Go.Proofs.Ytfafhlahbhopaaa
namespace Go.Proofs.Ytfafhlahbhopaaa
open Go.RowKit Go.Maps
end Go.Proofs.Ytfafhlahbhopaaa
namespace Go.Proofs.Ytfafhlahbhopaaa
open Go.RowKit Go.Maps
theorem bytes_inj (a b : ByteArray) : a.toList = b.toList ↔ a = b := by
  rw [ByteArray.toList_eq, ByteArray.toList_eq]
  obtain ⟨⟨x⟩⟩ := a
  obtain ⟨⟨y⟩⟩ := b
  simp
end Go.Proofs.Ytfafhlahbhopaaa
namespace Go.Proofs.Ytfafhlahbhopaaa
open Go.RowKit Go.Maps
theorem info_parts {P : Program} {t : TypeId} {z : Option Value} {s b : Nat} (h : (P.info? t).map (fun i => (i.zero, i.size, i.bytes)) = some (z, s, b)) : ∃ i, P.info? t = some i ∧ i.zero = z ∧ i.size = s ∧ i.bytes = b := by
  cases h2 : P.info? t with
  | none => rw [h2] at h; cases h
  | some i =>
    rw [h2] at h
    simp at h
    exact ⟨i, rfl, h.1, h.2.1, h.2.2⟩
end Go.Proofs.Ytfafhlahbhopaaa
namespace Go.Proofs.Ytfafhlahbhopaaa
open Go.RowKit
structure Lay (α : Type) where
  T : TypeId
  ST : TypeId
  k : Nat
  by_ : Nat
  cs : α → List Value
  z : α
structure Lay.Ok {α : Type} (Y : Lay α) : Prop where
  kp : 0 < Y.k
  len : ∀ x, (Y.cs x).length = Y.k
  one : ∀ x u, u ∈ Y.cs x → u.oneCell' = true
  und : Try.prog.underlying Y.ST = some (.slice Y.T)
  info : ∃ zv : Value, (Try.prog.info? Y.T).map (fun i => (i.zero, i.size, i.bytes)) = some (some zv, Y.k, Y.by_) ∧ zv.cells = (Y.cs Y.z).toArray
variable {α : Type} {Y : Lay α}
def fl (Y : Lay α) : List α → List Value
  | [] => []
  | x :: r => Y.cs x ++ fl Y r
theorem fl_length (K : Y.Ok) : ∀ l : List α, (fl Y l).length = l.length * Y.k
  | [] => by simp [fl]
  | x :: r => by rw [fl, List.length_append, fl_length K r, K.len, List.length_cons, Nat.add_mul]; omega
theorem fl_append : ∀ l m : List α, fl Y (l ++ m) = fl Y l ++ fl Y m
  | [], m => rfl
  | x :: r, m => by simp only [fl, List.cons_append, fl_append r m, List.append_assoc]
theorem fl_get (K : Y.Ok) : ∀ (l : List α) (i : Nat) (x : α), l[i]? = some x → ∀ j, j < Y.k → (fl Y l)[i * Y.k + j]? = (Y.cs x)[j]?
  | [], i, x, h, j, hj => by simp at h
  | y :: r, 0, x, h, j, hj => by
    simp at h; subst h
    rw [fl, Nat.zero_mul, Nat.zero_add, List.getElem?_append_left (by rw [K.len]; exact hj)]
  | y :: r, i + 1, x, h, j, hj => by
    have h' : r[i]? = some x := by simpa using h
    rw [fl, List.getElem?_append_right (by rw [K.len, Nat.add_mul]; omega), K.len, show (i + 1) * Y.k + j - Y.k = i * Y.k + j by rw [Nat.add_mul]; omega]
    exact fl_get K r i x h' j hj
theorem fl_one (K : Y.Ok) : ∀ (l : List α) (u : Value), u ∈ fl Y l → u.oneCell' = true
  | [], u, h => by cases h
  | x :: r, u, h => by
    rcases List.mem_append.1 h with h | h
    · exact K.one x u h
    · exact fl_one K r u h
theorem div_pos_lt {j n k : Nat} (hk : 0 < k) (h : j < n * k) : j / k < n ∧ j % k < k ∧ j / k * k + j % k = j :=
  ⟨Nat.div_lt_of_lt_mul (by rw [Nat.mul_comm]; exact h), Nat.mod_lt _ hk, by rw [Nat.mul_comm]; exact Nat.div_add_mod j k⟩
theorem fl_inv (K : Y.Ok) (l : List α) (j : Nat) (u : Value) (h : (fl Y l)[j]? = some u) : ∃ x, l[j / Y.k]? = some x ∧ (Y.cs x)[j % Y.k]? = some u := by
  have hj := (List.getElem?_eq_some_iff.1 h).1
  rw [fl_length K] at hj
  obtain ⟨h1, h2, h3⟩ := div_pos_lt K.kp hj
  refine ⟨_, List.getElem?_eq_getElem h1, ?_⟩
  rw [← fl_get K l _ _ (List.getElem?_eq_getElem h1) _ h2, h3]
  exact h
def OwnY (Y : Lay α) (B : Nat) (w : World) (v : Value) (l : List α) : Prop := w.ownsRow B Y.T Y.k v l.length (fl Y l)
theorem OwnY.nil (Y : Lay α) (B : Nat) (w : World) : OwnY Y B w (.slice none 0 0) [] := World.ownsRow_nil w B Y.T Y.k
theorem OwnY.form {B : Nat} {w : World} {v : Value} {l : List α} (h : OwnY Y B w v l) : ∃ a c, v = .slice a l.length c ∧ l.length ≤ c ∧ c ≤ maxLen ∧ (a = none → l = [] ∧ c = 0) ∧ ∀ x, a = some x → ∃ g, x = ⟨g, 0, none⟩ ∧ B ≤ g ∧ g < w.heap.size := by
  rcases h.2 with ⟨e1, e2⟩ | ⟨g, cap, cur, e1, e2, e3, e4, e5, _⟩
  · exact ⟨none, 0, by rw [e1, e2], by omega, by unfold maxLen; omega, fun _ => ⟨List.eq_nil_of_length_eq_zero e2, rfl⟩, fun x hx => by cases hx⟩
  · refine ⟨some ⟨g, 0, none⟩, cap, e1, e4, e5, (fun hx => by cases hx), fun x hx => ?_⟩
    cases hx
    exact ⟨g, rfl, e2, (Array.getElem?_eq_some_iff.1 e3).1⟩
theorem OwnY.cell (K : Y.Ok) {B : Nat} {w : World} {g n c : Nat} {l : List α} (h : OwnY Y B w (.slice (some ⟨g, 0, none⟩) n c) l) (i : Nat) (x : α) (hx : l[i]? = some x) (j : Nat) (u : Value) (hu : (Y.cs x)[j]? = some u) : w.cell? ⟨g, i * Y.k + j, none⟩ = some u := by
  have hj := (List.getElem?_eq_some_iff.1 hu).1
  rw [K.len] at hj
  have h0 := World.ownsRow.cells h (g := g) rfl (i * Y.k + j) u (by rw [fl_get K l i x hx j hj]; exact hu)
  rw [Addr.add_lit, Nat.zero_add] at h0
  exact h0
theorem OwnY.upd1 {S : Nat → Prop} {B : Nat} {w w' : World} {v : Value} {l : List α} (h : OwnY Y B w v l) (u : Upd S w w') (hs : ∀ g, v.ownBlock = some g → ¬ S g) : OwnY Y B w' v l := by
  obtain ⟨h1, h2⟩ := h
  refine ⟨h1, ?_⟩
  rcases h2 with h2 | ⟨g, cap, cur, e1, e2, e3, r⟩
  · exact .inl h2
  · refine .inr ⟨g, cap, cur, e1, e2, ?_, r⟩
    rw [u.block g (Array.getElem?_eq_some_iff.1 e3).1 (hs g (by rw [e1]; rfl))]
    exact e3
theorem OwnY.blk {B : Nat} {w : World} {v : Value} {l : List α} (h : OwnY Y B w v l) : ∀ k, v.ownBlock = some k → B ≤ k ∧ k < w.heap.size := World.ownsRow.lt h
theorem OwnY.grow {B : Nat} {w w' : World} {v : Value} {l : List α} (h : OwnY Y B w v l) (hb : Below w.heap.size w w') : OwnY Y B w' v l := h.upd1 (S := fun _ => False) (Upd.of_below hb) (fun _ _ => id)
theorem OwnY.low {B B' : Nat} {w : World} {v : Value} {l : List α} (h : OwnY Y B w v l) (hb : B' ≤ B) : OwnY Y B' w v l := by
  obtain ⟨h1, h2⟩ := h
  refine ⟨h1, ?_⟩
  rcases h2 with h2 | ⟨g, cap, cur, e1, e2, r⟩
  · exact .inl h2
  · exact .inr ⟨g, cap, cur, e1, Nat.le_trans hb e2, r⟩
theorem OwnY.grown {B : Nat} {w0 w w' : World} {v : Value} {l : List α} (ho : OwnY Y B w v l) (h0 : Below B w0 w) (hg : w.grownBy w' v.ownBlock) (hB : B ≤ w.heap.size) : Below B w0 w' :=
  h0.grown hg hB (fun k hk => (ho.blk k hk).1)
def LieY (Y : Lay α) (w : World) (q o : Nat) (l : List α) : Prop := ∀ i x, l[i]? = some x → ∀ j u, (Y.cs x)[j]? = some u → w.cell? ⟨q, o + i * Y.k + j, none⟩ = some u
theorem LieY.upd {S : Nat → Prop} {w w' : World} {q o : Nat} {l : List α} (h : LieY Y w q o l) (u : Upd S w w') (hq : q < w.heap.size) (hs : ¬ S q) : LieY Y w' q o l := fun i x hx j v hv => (u.cell (p := ⟨q, _, none⟩) hq hs).trans (h i x hx j v hv)
theorem LieY.flat (K : Y.Ok) {w : World} {q o : Nat} {l : List α} (h : LieY Y w q o l) (j : Nat) (u : Value) (hu : (fl Y l)[j]? = some u) : w.cell? ⟨q, o + j, none⟩ = some u := by
  have hj := (List.getElem?_eq_some_iff.1 hu).1
  rw [fl_length K] at hj
  obtain ⟨x, h1, h2⟩ := fl_inv K l j u hu
  have := h _ _ h1 _ _ h2
  rw [Nat.add_assoc, (div_pos_lt K.kp hj).2.2] at this
  exact this
structure SlY (Y : Lay α) (w : World) (a : Option Addr) (n c : Nat) (l : List α) : Prop where
  len : l.length = n
  cap : n ≤ c
  max : c ≤ maxLen
  nil : a = none → n = 0 ∧ c = 0
  at_ : ∀ x, a = some x → l = [] ∨ ∃ q o, x = ⟨q, o, none⟩ ∧ q < w.heap.size ∧ LieY Y w q o l
theorem SlY.upd {S : Nat → Prop} {w w' : World} {a : Option Addr} {n c : Nat} {l : List α} (h : SlY Y w a n c l) (u : Upd S w w') (hs : ∀ x, a = some x → l ≠ [] → ¬ S x.block) : SlY Y w' a n c l :=
  ⟨h.len, h.cap, h.max, h.nil, fun x hx => by
    rcases h.at_ x hx with e | ⟨q, o, rfl, hq, hl⟩
    · exact .inl e
    · by_cases hl0 : l = []
      · exact .inl hl0
      · exact .inr ⟨q, o, rfl, Nat.lt_of_lt_of_le hq u.size, hl.upd u hq (hs _ hx hl0)⟩⟩
theorem SlY.later {w w' : World} {a : Option Addr} {n c : Nat} {l : List α} (h : SlY Y w a n c l) (hb : Below w.heap.size w w') : SlY Y w' a n c l := h.upd (S := fun _ => False) (Upd.of_below hb) (fun _ _ _ => id)
theorem SlY.bel {w w' : World} {a : Option Addr} {n c : Nat} {l : List α} (h : SlY Y w a n c l) {B : Nat} (hb : Below B w w') (hB : w.heap.size ≤ B) : SlY Y w' a n c l := h.upd (S := fun k => B ≤ k) ⟨hb.os, hb.tape, hb.output, hb.size, fun k hk hs => hb.block k (by omega)⟩ (fun x hx hne hs => by
  rcases h.at_ x hx with e | ⟨q, o, rfl, hq, hl⟩
  · exact hne e
  · dsimp only at hs; omega)
theorem SlY.place {w : World} {a : Option Addr} {n c : Nat} {l : List α} (h : SlY Y w a n c l) (hne : l ≠ []) : ∃ q o, a = some ⟨q, o, none⟩ ∧ q < w.heap.size ∧ LieY Y w q o l := by
  cases ha : a with
  | none =>
    have := (h.nil ha).1
    exact absurd (List.eq_nil_of_length_eq_zero (h.len.trans this)) hne
  | some x =>
    rcases h.at_ x ha with e | ⟨q, o, rfl, hq, hl⟩
    · exact absurd e hne
    · exact ⟨q, o, rfl, hq, hl⟩
theorem SlY.take {w : World} {a : Option Addr} {n c : Nat} {l : List α} (h : SlY Y w a n c l) (m : Nat) (hm : m ≤ n) : SlY Y w a m c (l.take m) :=
  ⟨by rw [List.length_take, h.len]; omega, Nat.le_trans hm h.cap, h.max, (fun e => by have := h.nil e; omega), fun x hx => by
    rcases h.at_ x hx with e | ⟨q, o, rfl, hq, hl⟩
    · exact .inl (by rw [e]; simp)
    · refine .inr ⟨q, o, rfl, hq, fun i y hy => hl i y ?_⟩
      rw [List.getElem?_take] at hy
      split at hy
      · exact hy
      · cases hy⟩
theorem OwnY.sl (K : Y.Ok) {B : Nat} {w : World} {v : Value} {l : List α} (h : OwnY Y B w v l) : ∃ a c, v = .slice a l.length c ∧ SlY Y w a l.length c l ∧ ∀ z, a = some z → ∃ g, z = ⟨g, 0, none⟩ ∧ B ≤ g ∧ g < w.heap.size := by
  obtain ⟨a, c, rfl, h1, h2, h3, h4⟩ := h.form
  refine ⟨a, c, rfl, ⟨rfl, h1, h2, (fun e => by obtain ⟨e1, e2⟩ := h3 e; rw [e1]; exact ⟨rfl, e2⟩), fun x hx => ?_⟩, h4⟩
  obtain ⟨g, rfl, _, hg⟩ := h4 x hx
  subst hx
  exact .inr ⟨g, 0, rfl, hg, fun i y hy j u hu => by rw [Nat.zero_add]; exact h.cell K i y hy j u hu⟩
theorem OwnY.sl' (K : Y.Ok) {B : Nat} {w : World} {a : Option Addr} {n c : Nat} {l : List α} (h : OwnY Y B w (.slice a n c) l) : SlY Y w a n c l := by
  obtain ⟨a', c', e, h1, _⟩ := h.sl K
  injection e with e1 e2 e3
  subst e1 e2 e3
  exact h1
theorem run_appY (K : Y.Ok) (w : World) (ty : TypeId) (B : Nat) (l : List α) (v : Value) (ad : Option Addr) (m c : Nat) (news : List α) (hh : SlY Y w ad m c news) (hown : OwnY Y B w v l) (hB : B ≤ w.heap.size) (hm : l.length + m ≤ maxLen) (hb : (l.length + m) * Y.by_ ≤ 140737488355328) :
    ∃ v' w', (Builtin.append_ #[Y.ST, Y.ST] ty #[v, .slice ad m c]).run Try.prog w = .ok v' w' ∧ OwnY Y B w' v' (l ++ news) ∧ w.grownBy w' v.ownBlock ∧ (v'.ownBlock = v.ownBlock ∨ ∃ k, v'.ownBlock = some k ∧ w.heap.size ≤ k) := by
  obtain ⟨zv, hinfo, hzc⟩ := K.info
  obtain ⟨i0, hi, hz0, hz1, hz2⟩ := info_parts hinfo
  have hzs : zv.cells.size = Y.k := by rw [hzc, List.size_toArray, K.len]
  cases ad with
  | none =>
    obtain ⟨rfl, rfl⟩ := hh.nil rfl
    obtain rfl : news = [] := List.eq_nil_of_length_eq_zero hh.len
    refine ⟨v, w, ?_, by rw [List.append_nil]; exact hown, World.grownBy.refl _ _, .inl rfl⟩
    exact run_append_owned_none (P := Try.prog) (w := w) B Y.ST ty Y.T i0 Y.k K.und hi v l.length (fl Y l) hown
  | some y =>
    have hnews : ∀ j u, (fl Y news)[j]? = some u → w.cell? (y.add j) = some u := fun j u hu => by
      rcases hh.at_ y rfl with e | ⟨q, o, rfl, _, hl⟩
      · subst e; cases hu
      · rw [Addr.add_lit]; exact hl.flat K j u hu
    have hlen : (fl Y news).length = m * Y.k := by rw [fl_length K, hh.len]
    obtain ⟨v', w', hr, h2, h3, h4⟩ := run_append_own (P := Try.prog) w B Y.ST ty Y.T i0 zv Y.k Y.by_ K.und hi hz0 hz1 hz2 hzs K.kp v l.length (fl Y l) hown y m c (fl Y news) hlen hnews (fl_one K news) hm hb hB
    refine ⟨v', w', hr, ?_, h3, ?_⟩
    · unfold OwnY
      rw [fl_append, List.length_append, hh.len]
      exact h2
    · rcases hown.2 with ⟨rfl, hn⟩ | ⟨g, cap, cur, rfl, hbg, hg, hnc, hcm, hcs, htake⟩
      · have hL : l = [] := List.eq_nil_of_length_eq_zero hn
        subst hL
        obtain ⟨v2, w2, hr2, k2, _⟩ := run_append_own (P := Try.prog) w w.heap.size Y.ST ty Y.T i0 zv Y.k Y.by_ K.und hi hz0 hz1 hz2 hzs K.kp (.slice none 0 0) 0 [] (World.ownsRow_nil w _ Y.T Y.k) y m c (fl Y news) hlen hnews (fl_one K news) hm hb (Nat.le_refl _)
        rw [hr] at hr2
        cases hr2
        cases hv : v'.ownBlock with
        | none => exact .inl rfl
        | some k => exact .inr ⟨k, rfl, (World.ownsRow.lt k2 k hv).1⟩
      · by_cases hroom : l.length + m ≤ cap
        · left
          have hfit : l.length * i0.size + (fl Y news).length ≤ cur.size := by rw [hcs, hz1, hlen, ← Nat.add_mul]; exact Nat.mul_le_mul_right _ hroom
          have hr2 := run_append_room (P := Try.prog) w Y.ST ty Y.T i0 K.und hi g l.length cap cur hg y m c (fl Y news) (by rw [hz1]; exact hlen) hnews (fl_one K news) hroom hfit
          rw [hr] at hr2
          cases hr2
          rfl
        · right
          have holds : ∀ j u, (fl Y l)[j]? = some u → w.cell? ((⟨g, 0, none⟩ : Addr).add j) = some u := World.ownsRow.cells hown (g := g) rfl
          have hr2 := run_append_grow (P := Try.prog) w Y.ST ty Y.T i0 zv K.und hi hz0 ⟨g, 0, none⟩ l.length cap (fl Y l) (by rw [hz1]; exact fl_length K l) holds y m c (fl Y news) (by rw [hz1]; exact hlen) hnews (by omega) (by unfold maxLen at hm; omega) (growslice_fits (by omega) (by rw [hz2]; exact hb))
          rw [hr] at hr2
          cases hr2
          exact ⟨_, rfl, Nat.le_refl _⟩
theorem madeY (K : Y.Ok) {zc : Array Value} (hzc : zc = (Y.cs Y.z).toArray) (n : Nat) : (madeCells zc (n * Y.k)).toList = fl Y (List.replicate n Y.z) := by
  subst hzc
  apply List.ext_getElem?
  intro j
  by_cases hj : j < n * Y.k
  · obtain ⟨h1, h2, h3⟩ := div_pos_lt K.kp hj
    have hg : (List.replicate n Y.z)[j / Y.k]? = some Y.z := List.getElem?_replicate_of_lt h1
    have := fl_get K _ _ _ hg _ h2
    rw [h3] at this
    rw [this]
    have hk := K.len Y.z
    simp [madeCells, hj, hk]
    rw [List.getElem?_eq_getElem (by rw [hk]; exact h2)]
    simp [hk, h2]
  · rw [List.getElem?_eq_none (by simp [madeCells]; omega), List.getElem?_eq_none (by rw [fl_length K]; simp; omega)]
theorem room_int {a n b : Nat} (e : a = b) (hb : n * b ≤ 140737488355328) : (a : Int) * (n : Int) ≤ 281474976710656 := by
  subst e
  have h : ((n * a : Nat) : Int) ≤ 140737488355328 := by omega
  rw [Int.natCast_mul, Int.mul_comm] at h
  omega
end Go.Proofs.Ytfafhlahbhopaaa
namespace Go.Proofs.Ytfafhlahbhopaaa
open Go.RowKit Go.Maps
end Go.Proofs.Ytfafhlahbhopaaa
namespace Go.Proofs.Ytfafhlahbhopaaa
open Go.RowKit Go.Maps
variable {α : Type} {Y : Lay α}
theorem fl_splice (K : Y.Ok) {l : List α} {i j : Nat} {e e' : α} (he : l[i]? = some e) {xs : List Value} (hj : j + xs.length ≤ Y.k) (hc : Y.cs e' = (Y.cs e).take j ++ xs ++ (Y.cs e).drop (j + xs.length)) :
    fl Y (l.set i e') = (fl Y l).take (i * Y.k + j) ++ xs ++ (fl Y l).drop (i * Y.k + j + xs.length) := by
  have hi := (List.getElem?_eq_some_iff.1 he).1
  have hge := (List.getElem?_eq_some_iff.1 he).2
  have hl : l = l.take i ++ e :: l.drop (i + 1) := by
    rw [← hge, ← List.drop_eq_getElem_cons hi, List.take_append_drop]
  have h1 : l.set i e' = l.take i ++ e' :: l.drop (i + 1) := List.set_eq_take_append_cons_drop.trans (by rw [if_pos hi])
  have h2 : fl Y l = fl Y (l.take i) ++ (Y.cs e ++ fl Y (l.drop (i + 1))) := by
    conv => lhs; rw [hl, fl_append, fl]
  have hA : (fl Y (l.take i)).length = i * Y.k := by rw [fl_length K, List.length_take, Nat.min_eq_left (by omega)]
  have hC : (Y.cs e).length = Y.k := K.len e
  rw [h1, fl_append, fl, h2, hc]
  rw [List.take_append, List.take_of_length_le (l := fl Y (l.take i)) (by omega), hA, Nat.add_sub_cancel_left, List.take_append_of_le_length (by omega)]
  rw [Nat.add_assoc, List.drop_append, List.drop_of_length_le (l := fl Y (l.take i)) (by omega), hA, Nat.add_sub_cancel_left, List.nil_append, List.drop_append_of_le_length (by omega)]
  simp only [List.append_assoc]
theorem splice_take {A xs : List Value} {p m : Nat} (h : p + xs.length ≤ m) : (A.take p ++ xs ++ A.drop (p + xs.length)).take m = (A.take m).take p ++ xs ++ (A.take m).drop (p + xs.length) := by
  apply List.ext_getElem?
  intro q
  by_cases h0 : q < m
  · rw [List.getElem?_take, if_pos h0]
    by_cases hA : p ≤ A.length
    · have l1 : (A.take p).length = p := by rw [List.length_take]; omega
      have l2 : ((A.take m).take p).length = p := by rw [List.length_take, List.length_take]; omega
      by_cases h1 : q < p
      · rw [List.append_assoc, List.append_assoc, List.getElem?_append_left (by omega), List.getElem?_append_left (by omega), List.take_take, Nat.min_eq_left (by omega)]
      · by_cases h2 : q < p + xs.length
        · have t : ∀ (P D : List Value), P.length = p → (P ++ xs ++ D)[q]? = xs[q - p]? := fun P D hP => by
            rw [List.append_assoc, List.getElem?_append_right (by omega), hP, List.getElem?_append_left (by omega)]
          rw [t _ _ l1, t _ _ l2]
        · have t : ∀ (P D : List Value), P.length = p → (P ++ xs ++ D)[q]? = D[q - p - xs.length]? := fun P D hP => by
            rw [List.append_assoc, List.getElem?_append_right (by omega), hP, List.getElem?_append_right (by omega)]
          rw [t _ _ l1, t _ _ l2, List.getElem?_drop, List.getElem?_drop, List.getElem?_take, if_pos (by omega)]
    · have e1 : A.take p = A := List.take_of_length_le (by omega)
      have e2 : A.take m = A := List.take_of_length_le (by omega)
      rw [e1, e2, e1]
  · rw [List.getElem?_take, if_neg h0]
    symm
    apply List.getElem?_eq_none
    simp only [List.length_append, List.length_take, List.length_drop]
    omega
end Go.Proofs.Ytfafhlahbhopaaa
namespace Go.Proofs.Ytfafhlahbhopaaa
open Go.RowKit Go.Maps
structure SV (α : Type) where
  a : Option Addr
  c : Nat
  D : List α
def yS (α : Type) (T ST : TypeId) : Lay (SV α) := ⟨T, ST, 1, 24, fun x => [.slice x.a x.D.length x.c], ⟨none, 0, []⟩⟩
theorem kS {α : Type} {T ST : TypeId} (hu : Try.prog.underlying ST = some (.slice T)) (hi : (Try.prog.info? T).map (fun i => (i.zero, i.size, i.bytes)) = some (some (.slice none 0 0), 1, 24)) : (yS α T ST).Ok :=
  ⟨by show 0 < 1; omega, fun x => rfl, fun x u h => by simp [yS] at h; subst h; rfl, hu, ⟨.slice none 0 0, hi, rfl⟩⟩
variable {α β : Type} {Y : Lay α} {Z : Lay β}
variable {Z : Lay (SV α)} {p : Nat} {E : Nat → Value}
end Go.Proofs.Ytfafhlahbhopaaa
namespace Go.Proofs.Ytfafhlahbhopaaa
open Go.RowKit Go.Maps
open Classical
structure En where
  c : Int
  n : Int
  o : Opn
def En.cs (e : En) : List Value := [.int .i64 e.c, .int .i64 e.n, .int .i64 e.o.k, .int .i64 e.o.s, .string e.o.v]
def yE : Lay En := ⟨28, 22, 5, 48, En.cs, ⟨0, 0, ⟨0, 0, ByteArray.empty⟩⟩⟩
theorem kE : yE.Ok := ⟨by decide, fun x => rfl, fun x u h => by
    simp [yE, En.cs] at h
    rcases h with rfl | rfl | rfl | rfl | rfl <;> rfl, Try.underlying22, ⟨.agg #[.int .i64 0, .int .i64 0, .int .i64 0, .int .i64 0, .string ByteArray.empty], by kernel_rfl, rfl⟩⟩
theorem sl_box {α : Type} {Y : Lay α} (w : World) (x : α) (T : TypeId) : SlY Y (w.alloc (.cells (Y.cs x).toArray T)) (some ⟨w.heap.size, 0, none⟩) 1 1 [x] :=
  ⟨rfl, Nat.le_refl _, by unfold maxLen; omega, (fun e => by cases e), fun y hy => by
    cases hy
    refine .inr ⟨w.heap.size, 0, rfl, by simp, fun i z hz j u hu => ?_⟩
    match i, hz with
    | 0, hz =>
      simp at hz
      subst hz
      rw [Nat.zero_mul, Nat.zero_add]
      rw [World.cell?_alloc_at _ _ _ _ rfl, List.getElem?_toArray]
      exact hu
    | i + 1, hz => simp at hz⟩
theorem sl_lit {α : Type} {Y : Lay α} (K : Y.Ok) (w : World) (l : List α) (T : TypeId) (hm : l.length ≤ maxLen) : SlY Y (w.alloc (.cells (fl Y l).toArray T)) (some ⟨w.heap.size, 0, none⟩) l.length l.length l :=
  ⟨rfl, Nat.le_refl _, hm, (fun e => by cases e), fun y hy => by
    cases hy
    refine .inr ⟨w.heap.size, 0, rfl, by simp, fun i z hz j u hu => ?_⟩
    rw [Nat.zero_add, World.cell?_alloc_at _ _ _ _ rfl, List.getElem?_toArray, fl_get K l i z hz j (by have := (List.getElem?_eq_some_iff.1 hu).1; rw [K.len] at this; exact this)]
    exact hu⟩
theorem eqlE (a b c d : Int) (v : ByteArray) (a' b' c' d' : Int) (v' : ByteArray) (w : World) : (binOp .eql 28 (.agg #[.int .i64 a, .int .i64 b, .int .i64 c, .int .i64 d, .string v]) (.agg #[.int .i64 a', .int .i64 b', .int .i64 c', .int .i64 d', .string v'])).run Try.prog w = .ok (.bool (decide ((⟨a, b, ⟨c, d, v⟩⟩ : En) = ⟨a', b', ⟨c', d', v'⟩⟩))) w := by
  go_simp
  by_cases e1 : a = a' <;> by_cases e2 : b = b' <;> by_cases e3 : c = c' <;> by_cases e4 : d = d' <;> by_cases e5 : v = v' <;> simp [e1, e2, e3, e4, e5, bytes_inj]
theorem neqE (a b c d : Int) (v : ByteArray) (a' b' c' d' : Int) (v' : ByteArray) (w : World) : (binOp .neq 28 (.agg #[.int .i64 a, .int .i64 b, .int .i64 c, .int .i64 d, .string v]) (.agg #[.int .i64 a', .int .i64 b', .int .i64 c', .int .i64 d', .string v'])).run Try.prog w = .ok (.bool (!decide ((⟨a, b, ⟨c, d, v⟩⟩ : En) = ⟨a', b', ⟨c', d', v'⟩⟩))) w := by
  go_simp
  by_cases e1 : a = a' <;> by_cases e2 : b = b' <;> by_cases e3 : c = c' <;> by_cases e4 : d = d' <;> by_cases e5 : v = v' <;> simp [e1, e2, e3, e4, e5, bytes_inj]
theorem wl_val {ops : Array Oper} {rest : List Oper} {o : Oper} {a : Act} {w : World} {Q : Exit → Act → World → Prop} {v : Value} (hw : Region.wanted o (yielded ops a.tmps) = true) (h : (execOp a.eval o).run Try.prog w = .ok (.value v) w)
    (hk : wpList Try.prog ops Q rest (a.put o.dst v) w) : wpList Try.prog ops Q (o :: rest) a w :=
  BigFrame.wpList_want hw (fun K hK => by unfold Oper.wp; rw [h, Oper.upon_value]; exact hK _ _ hk)
theorem want_none {ops : Array Oper} {o : Oper} {T : Array Value} (h : o.guard = none) : Region.wanted o (yielded ops T) = true := by simp [Region.wanted, h]
theorem getD_of {T : Array Value} {i : Nat} {v : Value} (h : T[i]? = some v) : T.getD i undef = v := by rw [Array.getD_eq_getD_getElem?, h]; rfl
theorem at_set {T : Array Value} {i : Nat} (v : Value) (h : i < T.size) : (T.setIfInBounds i v)[i]? = some v := by simp [h]
theorem at_set_ne {T : Array Value} {i j : Nat} (v : Value) (h : j ≠ i) : (T.setIfInBounds i v)[j]? = T[j]? := by rw [Array.getElem?_setIfInBounds_ne (fun e => h e.symm)]
def gw (c : Bool) (V : Value) : Value := cond c V undef
structure VJ (ops : Array Oper) (C : World → Prop) (Q : Act → Prop) (l : List Oper) (a : Act) : Prop where
  out : wpQuiet Try.prog ops C Q l a
theorem vq_start {C : World → Prop} {id : Nat} {Q : Exit → Act → World → Prop} {a : Act} {w : World} {l : List Oper} (hm : Try.prog.follows .mixedOrders = true) (hB : Region.lexB .any l.toArray = true) (hC : C w.drew)
    (h : VJ l.toArray C (fun a' => ∀ w', C w' → Q .normal a' w') l a) : (Code.region id l.toArray true).wp Try.prog Q a w :=
  wp_region_quiet (C := C) hm hB hC (by simpa using h.out)
theorem vl_gen {ops : Array Oper} {Q : Exit → Act → World → Prop} {l : List Oper} {T0 : Array Value} {df : List Deferred} {w : World} (P : Array Value → Prop) (h0 : P T0) (hk : ∀ T, P T → wpList Try.prog ops Q l ⟨T, df⟩ w) : wpList Try.prog ops Q l ⟨T0, df⟩ w := hk T0 h0
theorem vq_nil {ops : Array Oper} {C : World → Prop} {Q : Act → Prop} {a : Act} (h : Q a) : VJ ops C Q [] a := ⟨wpQuiet_nil h⟩
theorem want_g {ops : Array Oper} {o : Oper} {T : Array Value} {g j : Nat} {pol b c : Bool} (h : o.guard = some (g, pol)) (hg : (ops[g]?).bind (·.dst) = some j) (hj : T[j]? = some (gw c (.bool b))) : Region.wanted o (yielded ops T) = (c && (b == pol)) := by
  cases c <;> simp [Region.wanted, h, yielded, hg, hj, gw, undef]
theorem vq {ops : Array Oper} {rest : List Oper} {o : Oper} {T : Array Value} {df : List Deferred} {C : World → Prop} {Q : Act → Prop} {d n : Nat} (c : Bool) (V : Value) (hw : Region.wanted o (yielded ops T) = c) (he : c = true → ∀ v, C v → (execOp (⟨T, df⟩ : Act).eval o).run Try.prog v = .ok (.value V) v) (hd : o.dst = some d) (hz : T.size = n) (hn : d < n)
    (hk : ∀ T' : Array Value, T'.size = n → (∀ i, i ≠ d → T'[i]? = T[i]?) → T'[d]? = some (gw c V) → VJ ops C Q rest ⟨T', df⟩) : VJ ops C Q (o :: rest) ⟨T, df⟩ := by
  cases c with
  | false =>
    refine ⟨BigFrame.wpQuiet_skip hw ?_⟩
    rw [hd]
    exact (hk (T.setIfInBounds d undef) (by simp [hz]) (fun i hi => at_set_ne _ hi) (at_set _ (by omega))).out
  | true =>
    refine ⟨BigFrame.wpQuiet_want hw (fun K hK => ⟨V, fun v hv => by unfold Oper.quietAt; rw [he rfl v hv]; exact ⟨rfl, rfl⟩, hK _ ?_⟩)⟩
    rw [hd]
    exact (hk (T.setIfInBounds d V) (by simp [hz]) (fun i hi => at_set_ne _ hi) (at_set _ (by omega))).out
theorem vl {ops : Array Oper} {rest : List Oper} {o : Oper} {T : Array Value} {df : List Deferred} {w : World} {Q : Exit → Act → World → Prop} {d n : Nat} (c : Bool) (V : Value) (hw : Region.wanted o (yielded ops T) = c) (he : c = true → (execOp (⟨T, df⟩ : Act).eval o).run Try.prog w = .ok (.value V) w) (hd : o.dst = some d) (hz : T.size = n) (hn : d < n)
    (hk : ∀ T' : Array Value, T'.size = n → (∀ i, i ≠ d → T'[i]? = T[i]?) → T'[d]? = some (gw c V) → wpList Try.prog ops Q rest ⟨T', df⟩ w) : wpList Try.prog ops Q (o :: rest) ⟨T, df⟩ w := by
  cases c with
  | false =>
    refine wpList_skip hw ?_
    rw [hd]
    exact hk (T.setIfInBounds d undef) (by simp [hz]) (fun i hi => at_set_ne _ hi) (at_set _ (by omega))
  | true =>
    refine wl_val (v := V) hw (he rfl) ?_
    rw [hd]
    exact hk (T.setIfInBounds d V) (by simp [hz]) (fun i hi => at_set_ne _ hi) (at_set _ (by omega))
theorem vcallP {ops : Array Oper} {rest : List Oper} {o : Oper} {T : Array Value} {df : List Deferred} {w : World} {Q : Exit → Act → World → Prop} {d n : Nat} {fid : FuncId} {args : Array Value} {R : Ending → World → Prop} (hw : Region.wanted o (yielded ops T) = true) (he : (execOp (⟨T, df⟩ : Act).eval o).run Try.prog w = .ok (.enter fid args) w)
    (hc : Calls Try.prog fid args w R) (hd : o.dst = some d) (hz : T.size = n) (hn : d < n)
    (hk : ∀ (e : Ending) (w' : World), R e w' → ∃ V, e = .returned V ∧ ∀ T' : Array Value, T'.size = n → (∀ i, i ≠ d → T'[i]? = T[i]?) → T'[d]? = some (gw true V) → wpList Try.prog ops Q rest ⟨T', df⟩ w') : wpList Try.prog ops Q (o :: rest) ⟨T, df⟩ w := by
  refine BigFrame.wpList_want hw (fun K hK => ?_)
  unfold Oper.wp
  rw [he, Oper.upon_enter]
  refine hc.mono ?_
  intro e w' hR
  obtain ⟨V, rfl, hk'⟩ := hk e w' hR
  refine hK _ _ ?_
  rw [hd]
  exact hk' (T.setIfInBounds d V) (by simp [hz]) (fun i hi => at_set_ne _ hi) (at_set _ (by omega))
theorem ev {T : Array Value} {df : List Deferred} {i : Nat} {c : Bool} {X : Value} (h : T[i]? = some (gw c X)) (hc : c = true) : (⟨T, df⟩ : Act).eval (.tmp i) = X := by
  subst hc
  exact getD_of h
theorem evc {T : Array Value} {df : List Deferred} {x : Value} : (⟨T, df⟩ : Act).eval (.const x) = x := rfl
theorem ex_move {o : Oper} {ρ : Operand → Value} {x : Operand} {X : Value} {w : World} (ho : o.op = .move x) (hx : ρ x = X) : (execOp ρ o).run Try.prog w = .ok (.value X) w := by
  unfold execOp
  simp only [ho, hx]
  rfl
theorem ex_assign {o : Oper} {ρ : Operand → Value} {x : Operand} {X : Value} {w : World} (ho : o.op = .assign x) (hx : ρ x = X) : (execOp ρ o).run Try.prog w = .ok (.value X) w := by
  unfold execOp
  simp only [ho, hx]
  rfl
theorem ex_fa {o : Oper} {ρ : Operand → Value} {s : TypeId} {f : Nat} {x : Operand} {X V : Value} {w : World} (ho : o.op = .fieldAddr s x f) (hx : ρ x = X) (hr : (Instr.fieldAt s X f).run Try.prog w = .ok V w) : (execOp ρ o).run Try.prog w = .ok (.value V) w := by
  unfold execOp
  simp only [ho, hx, Sem.run_bind, hr, Result.andThen_ok]
  rfl
theorem ex_ld {o : Oper} {ρ : Operand → Value} {s : TypeId} {x : Operand} {X V : Value} {w : World} (ho : o.op = .load s x) (hx : ρ x = X) (hr : (Instr.loadAt s X).run Try.prog w = .ok V w) : (execOp ρ o).run Try.prog w = .ok (.value V) w := by
  unfold execOp
  simp only [ho, hx, Sem.run_bind, hr, Result.andThen_ok]
  rfl
theorem ex_ix {o : Oper} {ρ : Operand → Value} {s : TypeId} {x y : Operand} {X Y V : Value} {w : World} (ho : o.op = .indexAddr s x y) (hx : ρ x = X) (hy : ρ y = Y) (hr : (Instr.indexAt s X Y).run Try.prog w = .ok V w) : (execOp ρ o).run Try.prog w = .ok (.value V) w := by
  unfold execOp
  simp only [ho, hx, hy, Sem.run_bind, hr, Result.andThen_ok]
  rfl
theorem ex_bin {o : Oper} {ρ : Operand → Value} {b : BinOp} {s t : TypeId} {x y : Operand} {X Y V : Value} {w : World} (ho : o.op = .binOp b s x y t) (hx : ρ x = X) (hy : ρ y = Y) (hr : (do eqGuard b s x y X Y; binOp b s X Y : Sem Value).run Try.prog w = .ok V w) : (execOp ρ o).run Try.prog w = .ok (.value V) w := by
  unfold execOp
  simp only [ho, hx, hy]
  rw [Sem.run_bind, hr]
  rfl
theorem ex_build {o : Oper} {ρ : Operand → Value} {s : TypeId} {V : Value} {w : World} (ho : o.op = .build s #[]) (hr : (Instr.build s #[]).run Try.prog w = .ok V w) : (execOp ρ o).run Try.prog w = .ok (.value V) w := by
  unfold execOp
  simp only [ho]
  rw [Sem.run_bind]
  simp only [List.map_toArray, List.map_nil, hr]
  rfl
theorem ex_not {o : Oper} {ρ : Operand → Value} {s : TypeId} {x : Operand} {b : Bool} {w : World} (ho : o.op = .unOp .not s x) (hx : ρ x = .bool b) : (execOp ρ o).run Try.prog w = .ok (.value (.bool (!b))) w := by
  unfold execOp
  simp only [ho, hx]
  rfl
theorem ex_nil {o : Oper} {ρ : Operand → Value} {x : Operand} {p : Addr} {w : World} (ho : o.op = .nilCheck x) (hx : ρ x = .pointer (some p)) : (execOp ρ o).run Try.prog w = .ok (.value (.pointer (some p))) w := by
  unfold execOp
  simp only [ho, hx]
  rfl
theorem ex_call {o : Oper} {T : Array Value} {df : List Deferred} {fid : FuncId} {xs : Array Operand} {ts : Array TypeId} {args : Array Value} {w : World} (ho : o.op = .call { callee := .value (.func fid), args := xs, argTypes := ts }) (ha : xs.map (⟨T, df⟩ : Act).eval = args) (hr : (do let d ← Deferred.ofValue ((⟨T, df⟩ : Act).eval (.func fid)) args; invoke d.target d.args : Sem Next).run Try.prog w = .ok (.enter fid args) w) : (execOp (⟨T, df⟩ : Act).eval o).run Try.prog w = .ok (.enter fid args) w := by
  unfold execOp
  simp only [ho, resolve, ha]
  exact hr
theorem ex_or {o : Oper} {T : Array Value} {df : List Deferred} {j y : Nat} {c b z : Bool} {w : World} (ho : o.op = .pick (.tmp j) (.const (.bool true)) (.tmp y)) (hj : T[j]? = some (gw c (.bool b))) (hy : T[y]? = some (gw (c && (b == false)) (.bool z))) (hc : c = true) : (execOp (⟨T, df⟩ : Act).eval o).run Try.prog w = .ok (.value (.bool (b || z))) w := by
  subst hc
  unfold execOp
  simp only [ho, Act.eval, getD_of hj, getD_of hy]
  cases b <;> rfl
theorem ex_and {o : Oper} {T : Array Value} {df : List Deferred} {j x : Nat} {c b z : Bool} {w : World} (ho : o.op = .pick (.tmp j) (.tmp x) (.const (.bool false))) (hj : T[j]? = some (gw c (.bool b))) (hy : T[x]? = some (gw (c && (b == true)) (.bool z))) (hc : c = true) : (execOp (⟨T, df⟩ : Act).eval o).run Try.prog w = .ok (.value (.bool (b && z))) w := by
  subst hc
  unfold execOp
  simp only [ho, Act.eval, getD_of hj, getD_of hy]
  cases b <;> rfl
theorem lssC (x y : Operand) (a b : Int) (w : World) : (do eqGuard .lss 3 x y (.int .i64 a) (.int .i64 b); binOp .lss 3 (.int .i64 a) (.int .i64 b) : Sem Value).run Try.prog w = .ok (.bool (decide (a < b))) w := by
  go_simp
theorem geqC (x y : Operand) (a b : Int) (w : World) : (do eqGuard .geq 3 x y (.int .i64 a) (.int .i64 b); binOp .geq 3 (.int .i64 a) (.int .i64 b) : Sem Value).run Try.prog w = .ok (.bool (decide (b ≤ a))) w := by
  go_simp
theorem gtrC (x y : Operand) (a b : Int) (w : World) : (do eqGuard .gtr 3 x y (.int .i64 a) (.int .i64 b); binOp .gtr 3 (.int .i64 a) (.int .i64 b) : Sem Value).run Try.prog w = .ok (.bool (decide (b < a))) w := by
  go_simp
structure VH (ops : Array Oper) (Q : Exit → Act → World → Prop) (S : World → Prop) (fuel : Nat) (listed : Array Bool) (a : Act) (w : World) : Prop where
  out : wpAnyH Try.prog .any ops (NoPanic Q) S fuel listed a w
end Go.Proofs.Ytfafhlahbhopaaa
namespace Go.Proofs.Ytfafhlahbhopaaa
open Go.RowKit Go.Maps
open Classical
/-! Regions that draw their order and end in stores over what they read: what only reads is taken first under S; the stores (late) wait for all of it, and behind them S is asked no more. -/
section
variable {P : Program} {ops : Array Oper} {Q : Exit → Act → World → Prop} {md : Region.Mode} {S : World → Prop} {late : Nat → Bool}
def wpAnyG (P : Program) (md : Region.Mode) (ops : Array Oper) (late : Nat → Bool) (Q : Exit → Act → World → Prop) (S : World → Prop) : Nat → Array Bool → Act → World → Prop
  | 0, listed, a, w => Region.ready md ops listed = [] ∧ Q .normal a w
  | fuel + 1, listed, a, w =>
    (Region.ready md ops listed = [] → Q .normal a w) ∧
    ∀ i ∈ Region.ready md ops listed, wpOp P ops Q i (fun a' w' => ((∀ k, late k = true → (listed.setIfInBounds i true).getD k false = false) → S w') ∧ wpAnyG P md ops late Q S fuel (listed.setIfInBounds i true) a' w') a w
theorem wpAny_of_G : ∀ (fuel : Nat) (listed : Array Bool) (a : Act) (w : World), wpAnyG P md ops late Q S fuel listed a w → wpAny P md ops Q fuel listed a w
  | 0, _, _, _, h => h
  | fuel + 1, _, _, _, h => ⟨h.1, fun i hi => wpOp_mono (fun a' w' h' => wpAny_of_G fuel _ a' w' h'.2) (h.2 i hi)⟩
theorem getD_setb {l : Array Bool} {i k : Nat} (h : i ≠ k) (d : Bool) : (l.setIfInBounds i true).getD k d = l.getD k d := by
  simp [Array.getD_eq_getD_getElem?, Array.getElem?_setIfInBounds, h]
theorem wpAnyG_first {i : Nat} {oi : Oper} {v : Value} (hi : ops[i]? = some oi) (hsel : ∀ (j : Nat) (o : Oper) cs b, ops[j]? = some o → o.op ≠ .select cs b)
    (hQ : ∀ c a w, Q (.panic c) (a.put oi.dst v) w → Q (.panic c) a w) (hlate : ∀ k ok, late k = true → ops[k]? = some ok → ∃ e ∈ ok.after, Region.binds md e = true ∧ e.on = i) (hil : late i = false) :
    ∀ (fuel : Nat) (listed : Array Bool) (a : Act) (w : World), (∀ k, late k = true → listed.getD k false = false) →
      (∀ j oj, ops[j]? = some oj → j ≠ i → listed.getD j true = false → (∀ e ∈ oj.after, Region.binds md e = true → e.on ≠ i) → oi.apart ops oj = true) →
      i ∈ Region.ready md ops listed → YieldsIf P ops S oi v a → S w →
      wpAnyG P md ops late Q S fuel (listed.setIfInBounds i true) (a.put oi.dst v) w → wpAnyG P md ops late Q S (fuel + 1) listed a w := by
  intro fuel
  induction fuel with
  | zero =>
    intro listed a w _ _ hr hy hS H
    refine ⟨fun h => (by rw [h] at hr; cases hr), fun j hj => ?_⟩
    by_cases hji : j = i
    · subst hji; exact hy.wpOp hi hS ⟨fun _ => hS, H⟩
    · have := ready_mono hj hji
      rw [H.1] at this
      cases this
  | succ fuel ih =>
    intro listed a w hno hfree hr hy hS H
    refine ⟨fun h => (by rw [h] at hr; cases hr), fun j hj => ?_⟩
    by_cases hji : j = i
    · subst hji; exact hy.wpOp hi hS ⟨fun _ => hS, H⟩
    · have h1 := H.2 j (ready_mono hj hji)
      obtain ⟨hjun, oj, hoj, hall⟩ := mem_ready.1 hj
      have hnot : ∀ e ∈ oj.after, Region.binds md e = true → e.on ≠ i := fun e he hb heq => by
        have h1 := hall e he hb
        have h0 := (mem_ready.1 hr).1
        rw [heq] at h1
        rcases Nat.lt_or_ge i listed.size with h' | h'
        · simp [h'] at h0 h1; rw [h0] at h1; cases h1
        · simp [Array.getElem?_eq_none h'] at h1
      have hjl : late j = false := by
        cases e : late j with
        | false => rfl
        | true =>
          obtain ⟨x, hx, hb, ho⟩ := hlate j oj e hoj
          exact absurd ho (hnot x hx hb)
      have hno2 : ∀ k, late k = true → ((listed.setIfInBounds i true).setIfInBounds j true).getD k false = false := fun k hk => by
        rw [getD_setb (by rintro rfl; rw [hjl] at hk; cases hk), getD_setb (by rintro rfl; rw [hil] at hk; cases hk)]
        exact hno k hk
      have hno3 : ∀ k, late k = true → (listed.setIfInBounds j true).getD k false = false := fun k hk => by
        rw [getD_setb (by rintro rfl; rw [hjl] at hk; cases hk)]
        exact hno k hk
      have h2 := wpOp_putIf hoj (hfree j oj hoj hji hjun hnot) (fun cs b => hsel i oi cs b hi) (fun cs b => hsel j oj cs b hoj) hQ hy h1
      have hfree' : ∀ k ok, ops[k]? = some ok → k ≠ i → (listed.setIfInBounds j true).getD k true = false →
          (∀ e ∈ ok.after, Region.binds md e = true → e.on ≠ i) → oi.apart ops ok = true := fun k ok hk hki hun hno => by
        refine hfree k ok hk hki ?_ hno
        by_cases hjk : j = k
        · subst hjk; exact hjun
        · rw [getD_set_ne true hjk] at hun; exact hun
      refine wpOp_mono (fun a' w' h3 => ⟨fun _ => h3.2.1 hno2, ih (listed.setIfInBounds j true) a' w' hno3 hfree' (ready_mono hr (Ne.symm hji)) h3.1 (h3.2.1 hno2) ?_⟩) h2
      rw [Array.setIfInBounds_comm _ _ hji]
      exact h3.2.2
theorem wpAnyG_firstW {i : Nat} {oi : Oper} {v : Value} (hi : ops[i]? = some oi) (hsel : ∀ (j : Nat) (o : Oper) cs b, ops[j]? = some o → o.op ≠ .select cs b)
    (hQ : ∀ c a w, Q (.panic c) (a.put oi.dst v) w → Q (.panic c) a w) (hil : late i = false) :
    ∀ (fuel : Nat) (listed : Array Bool) (a : Act) (w : World),
      (∀ j oj, ops[j]? = some oj → j ≠ i → listed.getD j true = false → (∀ e ∈ oj.after, Region.binds md e = true → e.on ≠ i) → oi.apart ops oj = true) →
      i ∈ Region.ready md ops listed → YieldsIf P ops (fun _ => True) oi v a → ((∀ k, late k = true → listed.getD k false = false) → S w) →
      wpAnyG P md ops late Q S fuel (listed.setIfInBounds i true) (a.put oi.dst v) w → wpAnyG P md ops late Q S (fuel + 1) listed a w := by
  have hset : ∀ (listed : Array Bool), (∀ k, late k = true → (listed.setIfInBounds i true).getD k false = false) → ∀ k, late k = true → listed.getD k false = false := fun listed h k hk => by
    have := h k hk
    rwa [getD_setb (by rintro rfl; rw [hil] at hk; cases hk)] at this
  intro fuel
  induction fuel with
  | zero =>
    intro listed a w _ hr hy hS H
    refine ⟨fun h => (by rw [h] at hr; cases hr), fun j hj => ?_⟩
    by_cases hji : j = i
    · subst hji; exact hy.wpOp hi trivial ⟨fun h => hS (hset listed h), H⟩
    · have := ready_mono hj hji
      rw [H.1] at this
      cases this
  | succ fuel ih =>
    intro listed a w hfree hr hy hS H
    refine ⟨fun h => (by rw [h] at hr; cases hr), fun j hj => ?_⟩
    by_cases hji : j = i
    · subst hji; exact hy.wpOp hi trivial ⟨fun h => hS (hset listed h), H⟩
    · have h1 := H.2 j (ready_mono hj hji)
      obtain ⟨hjun, oj, hoj, hall⟩ := mem_ready.1 hj
      have hnot : ∀ e ∈ oj.after, Region.binds md e = true → e.on ≠ i := fun e he hb heq => by
        have h1 := hall e he hb
        have h0 := (mem_ready.1 hr).1
        rw [heq] at h1
        rcases Nat.lt_or_ge i listed.size with h' | h'
        · simp [h'] at h0 h1; rw [h0] at h1; cases h1
        · simp [Array.getElem?_eq_none h'] at h1
      have hno : (∀ k, late k = true → (listed.setIfInBounds j true).getD k false = false) → ∀ k, late k = true → ((listed.setIfInBounds i true).setIfInBounds j true).getD k false = false := fun h k hk => by
        rw [Array.setIfInBounds_comm _ _ (Ne.symm hji), getD_setb (by rintro rfl; rw [hil] at hk; cases hk)]
        exact h k hk
      have h2 := wpOp_putIf hoj (hfree j oj hoj hji hjun hnot) (fun cs b => hsel i oi cs b hi) (fun cs b => hsel j oj cs b hoj) hQ hy h1
      have hfree' : ∀ k ok, ops[k]? = some ok → k ≠ i → (listed.setIfInBounds j true).getD k true = false →
          (∀ e ∈ ok.after, Region.binds md e = true → e.on ≠ i) → oi.apart ops ok = true := fun k ok hk hki hun hno => by
        refine hfree k ok hk hki ?_ hno
        by_cases hjk : j = k
        · subst hjk; exact hjun
        · rw [getD_set_ne true hjk] at hun; exact hun
      refine wpOp_mono (fun a' w' h3 => ⟨fun h => h3.2.1 (hno h), ih (listed.setIfInBounds j true) a' w' hfree' (ready_mono hr (Ne.symm hji)) h3.1 (fun h => h3.2.1 (hno h)) ?_⟩) h2
      rw [Array.setIfInBounds_comm _ _ hji]
      exact h3.2.2
end
def waitsB (ops : Array Oper) (late : Nat → Bool) (i : Nat) : Bool := (List.range ops.size).all fun k => !late k || match ops[k]? with
  | none => true
  | some o => o.after.toList.any fun e => Region.binds .any e && e.on == i
def noneB (late : Nat → Bool) (listed : Array Bool) : Bool := (List.range listed.size).all fun k => !late k || !listed.getD k false
theorem noneB_spec {late : Nat → Bool} {listed : Array Bool} (h : noneB late listed = true) (k : Nat) (hk : late k = true) : listed.getD k false = false := by
  by_cases hl : k < listed.size
  · have := List.all_eq_true.1 h k (List.mem_range.2 hl)
    simpa [hk] using this
  · simp [Array.getD_eq_getD_getElem?, Array.getElem?_eq_none (Nat.le_of_not_lt hl)]
theorem waitsB_spec {ops : Array Oper} {late : Nat → Bool} {i : Nat} (h : waitsB ops late i = true) (k : Nat) (ok : Oper) (hk : late k = true) (ho : ops[k]? = some ok) : ∃ e ∈ ok.after, Region.binds .any e = true ∧ e.on = i := by
  have hl : k < ops.size := (Array.getElem?_eq_some_iff.1 ho).1
  have := List.all_eq_true.1 h k (List.mem_range.2 hl)
  simp only [hk, Bool.not_true, Bool.false_or, ho] at this
  obtain ⟨e, he, h2⟩ := List.any_eq_true.1 this
  simp only [Bool.and_eq_true, beq_iff_eq] at h2
  exact ⟨e, by simpa using he, h2.1, h2.2⟩
structure VG (ops : Array Oper) (late : Nat → Bool) (Q : Exit → Act → World → Prop) (S : World → Prop) (fuel : Nat) (listed : Array Bool) (a : Act) (w : World) : Prop where
  out : wpAnyG Try.prog .any ops late (NoPanic Q) S fuel listed a w
theorem vg_start {id : Nat} {Q : Exit → Act → World → Prop} {a : Act} {w : World} {l : List Oper} (late : Nat → Bool) (S : World → Prop) (hm : Try.prog.follows .mixedOrders = true) (h : VG l.toArray late Q S l.length (Array.replicate l.length false) a w.drew) : (Code.region id l.toArray true).wp Try.prog Q a w :=
  wp_region_noPanic (wp_region_any hm (wpAny_of_G _ _ _ _ (by simpa using h.out)))
theorem vg_done {ops : Array Oper} {late : Nat → Bool} {Q : Exit → Act → World → Prop} {S : World → Prop} {fuel : Nat} {listed : Array Bool} {a : Act} {w : World} (hr : Region.ready .any ops listed = []) (h : Q .normal a w) : VG ops late Q S fuel listed a w := by
  cases fuel with
  | zero => exact ⟨hr, NoPanic.normal h⟩
  | succ n => exact ⟨⟨fun _ => NoPanic.normal h, by rw [hr]; simp⟩⟩
theorem vg_take {ops : Array Oper} {late : Nat → Bool} {o : Oper} {T : Array Value} {df : List Deferred} {w : World} {Q : Exit → Act → World → Prop} {S : World → Prop} {fuel d n : Nat} {listed : Array Bool} (i : Nat) (c : Bool) (V : Value) (hi : ops[i]? = some o) (hs : Region.noSelect ops = true) (hf : Region.free .any ops listed i = true) (hr : (Region.ready .any ops listed).contains i = true)
    (hb1 : waitsB ops late i = true) (hb2 : noneB late listed = true) (hb3 : late i = false)
    (hw : Region.wanted o (yielded ops T) = c) (he : c = true → ∀ v, S v → (execOp (⟨T, df⟩ : Act).eval o).run Try.prog v = .ok (.value V) v) (hd : o.dst = some d) (hz : T.size = n) (hn : d < n) (hS : S w)
    (hk : ∀ T' : Array Value, T'.size = n → (∀ j, j ≠ d → T'[j]? = T[j]?) → T'[d]? = some (gw c V) → VG ops late Q S fuel (listed.setIfInBounds i true) ⟨T', df⟩ w) : VG ops late Q S (fuel + 1) listed ⟨T, df⟩ w := by
  cases c with
  | false =>
    refine ⟨wpAnyG_first (v := undef) hi (Region.noSelect_spec hs) (fun _ _ _ h => h) (waitsB_spec hb1) hb3 fuel listed _ w (noneB_spec hb2) (Region.free_spec hi hf) (by simpa using hr) (.inr ⟨hw, rfl⟩) hS ?_⟩
    rw [hd]
    exact (hk (T.setIfInBounds d undef) (by simp [hz]) (fun i hi => at_set_ne _ hi) (at_set _ (by omega))).out
  | true =>
    refine ⟨wpAnyG_first (v := V) hi (Region.noSelect_spec hs) (fun _ _ _ h => h) (waitsB_spec hb1) hb3 fuel listed _ w (noneB_spec hb2) (Region.free_spec hi hf) (by simpa using hr) (.inl ⟨hw, he rfl⟩) hS ?_⟩
    rw [hd]
    exact (hk (T.setIfInBounds d V) (by simp [hz]) (fun i hi => at_set_ne _ hi) (at_set _ (by omega))).out
theorem vg_takeW {ops : Array Oper} {late : Nat → Bool} {o : Oper} {T : Array Value} {df : List Deferred} {w : World} {Q : Exit → Act → World → Prop} {S : World → Prop} {fuel d n : Nat} {listed : Array Bool} (i : Nat) (c : Bool) (V : Value) (hi : ops[i]? = some o) (hs : Region.noSelect ops = true) (hf : Region.free .any ops listed i = true) (hr : (Region.ready .any ops listed).contains i = true) (hb3 : late i = false)
    (hw : Region.wanted o (yielded ops T) = c) (he : c = true → ∀ v, (execOp (⟨T, df⟩ : Act).eval o).run Try.prog v = .ok (.value V) v) (hd : o.dst = some d) (hz : T.size = n) (hn : d < n) (hS : (∀ k, late k = true → listed.getD k false = false) → S w)
    (hk : ∀ T' : Array Value, T'.size = n → (∀ j, j ≠ d → T'[j]? = T[j]?) → T'[d]? = some (gw c V) → VG ops late Q S fuel (listed.setIfInBounds i true) ⟨T', df⟩ w) : VG ops late Q S (fuel + 1) listed ⟨T, df⟩ w := by
  cases c with
  | false =>
    refine ⟨wpAnyG_firstW (v := undef) hi (Region.noSelect_spec hs) (fun _ _ _ h => h) hb3 fuel listed _ w (Region.free_spec hi hf) (by simpa using hr) (.inr ⟨hw, rfl⟩) hS ?_⟩
    rw [hd]
    exact (hk (T.setIfInBounds d undef) (by simp [hz]) (fun i hi => at_set_ne _ hi) (at_set _ (by omega))).out
  | true =>
    refine ⟨wpAnyG_firstW (v := V) hi (Region.noSelect_spec hs) (fun _ _ _ h => h) hb3 fuel listed _ w (Region.free_spec hi hf) (by simpa using hr) (.inl ⟨hw, fun v _ => he rfl v⟩) hS ?_⟩
    rw [hd]
    exact (hk (T.setIfInBounds d V) (by simp [hz]) (fun i hi => at_set_ne _ hi) (at_set _ (by omega))).out
theorem wpAnyG_all {ops : Array Oper} {late : Nat → Bool} {Q : Exit → Act → World → Prop} {S : World → Prop} {rs : List Nat} {fuel : Nat} {listed : Array Bool} {a : Act} {w : World} (hr : Region.ready .any ops listed = rs) (hne : rs ≠ [])
    (h : ∀ i ∈ rs, wpOp Try.prog ops Q i (fun a' w' => ((∀ k, late k = true → (listed.setIfInBounds i true).getD k false = false) → S w') ∧ wpAnyG Try.prog .any ops late Q S fuel (listed.setIfInBounds i true) a' w') a w) : wpAnyG Try.prog .any ops late Q S (fuel + 1) listed a w :=
  ⟨fun h0 => absurd (hr ▸ h0) hne, hr ▸ h⟩
theorem vg_call {ops : Array Oper} {late : Nat → Bool} {o : Oper} {T : Array Value} {df : List Deferred} {w : World} {Q : Exit → Act → World → Prop} {S : World → Prop} {fuel d n : Nat} {listed : Array Bool} (i : Nat) {fid : FuncId} {args : Array Value} {R : Ending → World → Prop} (hi : ops[i]? = some o) (hr : Region.ready .any ops listed = [i])
    (hw : Region.wanted o (yielded ops T) = true) (he : (execOp (⟨T, df⟩ : Act).eval o).run Try.prog w = .ok (.enter fid args) w) (hc : Calls Try.prog fid args w R) (hd : o.dst = some d) (hz : T.size = n) (hn : d < n)
    (hk : ∀ (e : Ending) (w' : World), R e w' → ∃ V, e = .returned V ∧ S w' ∧ ∀ T' : Array Value, T'.size = n → (∀ j, j ≠ d → T'[j]? = T[j]?) → T'[d]? = some (gw true V) → VG ops late Q S fuel (listed.setIfInBounds i true) ⟨T', df⟩ w') : VG ops late Q S (fuel + 1) listed ⟨T, df⟩ w := by
  refine ⟨wpAnyG_all hr (by simp) (fun j hj => ?_)⟩
  obtain rfl : j = i := by simpa using hj
  unfold wpOp
  rw [hi]
  simp only [hw, if_true]
  refine .inl ?_
  unfold Oper.wp
  rw [he, Oper.upon_enter]
  refine hc.mono ?_
  intro e w' hR
  obtain ⟨V, rfl, hS, hk'⟩ := hk e w' hR
  refine ⟨fun _ => hS, ?_⟩
  rw [hd]
  exact (hk' (T.setIfInBounds d V) (by simp [hz]) (fun i hi => at_set_ne _ hi) (at_set _ (by omega))).out
theorem vg_val {ops : Array Oper} {late : Nat → Bool} {o : Oper} {T : Array Value} {df : List Deferred} {w : World} {Q : Exit → Act → World → Prop} {S : World → Prop} {fuel d n : Nat} {listed : Array Bool} (i : Nat) (V : Value) (w' : World) (hi : ops[i]? = some o) (hr : Region.ready .any ops listed = [i])
    (hw : Region.wanted o (yielded ops T) = true) (he : (execOp (⟨T, df⟩ : Act).eval o).run Try.prog w = .ok (.value V) w') (hd : o.dst = some d) (hz : T.size = n) (hn : d < n) (hS : (∀ k, late k = true → (listed.setIfInBounds i true).getD k false = false) → S w')
    (hk : ∀ T' : Array Value, T'.size = n → (∀ j, j ≠ d → T'[j]? = T[j]?) → T'[d]? = some (gw true V) → VG ops late Q S fuel (listed.setIfInBounds i true) ⟨T', df⟩ w') : VG ops late Q S (fuel + 1) listed ⟨T, df⟩ w := by
  refine ⟨wpAnyG_all hr (by simp) (fun j hj => ?_)⟩
  obtain rfl : j = i := by simpa using hj
  unfold wpOp
  rw [hi]
  simp only [hw, if_true]
  unfold Oper.wp
  rw [he]
  simp only [Oper.upon]
  rw [hd]
  exact .inl ⟨hS, (hk (T.setIfInBounds d V) (by simp [hz]) (fun i hi => at_set_ne _ hi) (at_set _ (by omega))).out⟩
theorem vg_store {ops : Array Oper} {late : Nat → Bool} {o : Oper} {T : Array Value} {df : List Deferred} {w : World} {Q : Exit → Act → World → Prop} {S : World → Prop} {fuel : Nat} {listed : Array Bool} (i : Nat) (w' : World) (hi : ops[i]? = some o) (hr : Region.ready .any ops listed = [i])
    (hl : (late i && decide (i < listed.size)) = true) (hw : Region.wanted o (yielded ops T) = true) (he : (execOp (⟨T, df⟩ : Act).eval o).run Try.prog w = .ok .skip w') (hd : o.dst = none)
    (hk : VG ops late Q S fuel (listed.setIfInBounds i true) ⟨T, df⟩ w') : VG ops late Q S (fuel + 1) listed ⟨T, df⟩ w := by
  refine ⟨wpAnyG_all hr (by simp) (fun j hj => ?_)⟩
  obtain rfl : j = i := by simpa using hj
  unfold wpOp
  rw [hi]
  simp only [hw, if_true]
  refine .inl ?_
  unfold Oper.wp
  rw [he, Oper.upon_skip]
  have hl2 : late j = true ∧ j < listed.size := by simpa using hl
  refine ⟨fun h => ?_, ?_⟩
  · have := h j hl2.1
    simp [Array.getD_eq_getD_getElem?, Array.getElem?_setIfInBounds, hl2.2] at this
  rw [hd]
  exact hk.out
end Go.Proofs.Ytfafhlahbhopaaa
namespace Go.Proofs.Ytfafhlahbhopaaa
open Go.RowKit Go.Maps
open Classical
theorem v_loop {c : Code} {Q : Exit → Act → World → Prop} {T0 : Array Value} {w0 : World} (x N : Nat) (I : Nat → Array Value → World → Prop) (hx : ∀ j T w, I j T w → T[x]? = some (gw true (.int .i64 (j : Int)))) (h0 : I 0 T0 w0)
    (round : ∀ j T w, j ≤ N → I j T w → c.wp Try.prog (Exit.then (fun a' w' => ∃ T', a' = ⟨T', []⟩ ∧ j + 1 ≤ N ∧ I (j + 1) T' w') Q) ⟨T, []⟩ w) : (Code.loop c).wp Try.prog Q ⟨T0, []⟩ w0 := by
  have sl : ∀ {j : Nat} {T : Array Value} {w : World}, I j T w → (intOf (T.getD x undef)).toNat = j := fun h => by
    rw [getD_of (hx _ _ _ h)]
    show (intOf (.int .i64 _)).toNat = _
    simp [intOf]
  refine wp_loop (fun a w => ∃ j T, a = ⟨T, []⟩ ∧ j ≤ N ∧ I j T w) (fun a w => N - (intOf (a.tmps.getD x undef)).toNat) ⟨0, T0, rfl, Nat.zero_le _, h0⟩ ?_
  rintro a w ⟨j, T, rfl, hj, hI⟩
  refine Code.wp_mono (fun e a' w' h => ?_) (round j T w hj hI)
  cases e with
  | normal =>
    obtain ⟨T', rfl, hj', hI'⟩ := h
    refine ⟨⟨j + 1, T', rfl, hj', hI'⟩, ?_⟩
    show N - (intOf (T'.getD x undef)).toNat < N - (intOf (T.getD x undef)).toNat
    rw [sl hI', sl hI]
    omega
  | _ => exact h
theorem vw {ops : Array Oper} {rest : List Oper} {o : Oper} {T : Array Value} {df : List Deferred} {w : World} {Q : Exit → Act → World → Prop} {d n : Nat} (V : Value) (w' : World) (hw : Region.wanted o (yielded ops T) = true) (he : (execOp (⟨T, df⟩ : Act).eval o).run Try.prog w = .ok (.value V) w') (hd : o.dst = some d) (hz : T.size = n) (hn : d < n)
    (hk : ∀ T' : Array Value, T'.size = n → (∀ i, i ≠ d → T'[i]? = T[i]?) → T'[d]? = some (gw true V) → wpList Try.prog ops Q rest ⟨T', df⟩ w') : wpList Try.prog ops Q (o :: rest) ⟨T, df⟩ w := by
  refine BigFrame.wpList_want hw (fun K hK => ?_)
  unfold Oper.wp
  rw [he, Oper.upon_value]
  refine hK _ _ ?_
  rw [hd]
  exact hk (T.setIfInBounds d V) (by simp [hz]) (fun i hi => at_set_ne _ hi) (at_set _ (by omega))
theorem vs {ops : Array Oper} {rest : List Oper} {o : Oper} {T : Array Value} {df : List Deferred} {w : World} {Q : Exit → Act → World → Prop} (w' : World) (hw : Region.wanted o (yielded ops T) = true) (he : (execOp (⟨T, df⟩ : Act).eval o).run Try.prog w = .ok .skip w') (hd : o.dst = none)
    (hk : wpList Try.prog ops Q rest ⟨T, df⟩ w') : wpList Try.prog ops Q (o :: rest) ⟨T, df⟩ w := by
  refine BigFrame.wpList_want hw (fun K hK => ?_)
  unfold Oper.wp
  rw [he, Oper.upon_skip]
  refine hK _ _ ?_
  rw [hd]
  exact hk
theorem ex_st {o : Oper} {ρ : Operand → Value} {s : TypeId} {x y : Operand} {X Y : Value} {w w' : World} (ho : o.op = .store s x y) (hx : ρ x = X) (hy : ρ y = Y) (hr : (Instr.storeAt s X Y).run Try.prog w = .ok () w') : (execOp ρ o).run Try.prog w = .ok .skip w' := by
  unfold execOp
  simp only [ho, hx, hy, Sem.run_bind, hr, Result.andThen_ok]
  rfl
theorem ex_al {o : Oper} {ρ : Operand → Value} {s : TypeId} {V : Value} {w w' : World} (ho : o.op = .alloc s) (hr : (Instr.alloc s true (.tuple #[])).run Try.prog w = .ok V w') : (execOp ρ o).run Try.prog w = .ok (.value V) w' := by
  unfold execOp
  simp only [ho, Sem.run_bind, hr, Result.andThen_ok]
  rfl
/-! What is known of a frame, as one fact: which slot holds what; a step adds one, nothing is carried over by hand. -/
def look : List (Nat × Value) → Nat → Option Value
  | [], _ => none
  | (k, v) :: r, j => bif Nat.beq k j then some v else look r j
structure Rp (T : Array Value) (n : Nat) (L : List (Nat × Value)) : Prop where
  z : T.size = n
  at_ : ∀ j v, look L j = some v → T[j]? = some v
theorem Rp.a {T : Array Value} {n : Nat} {L : List (Nat × Value)} (h : Rp T n L) (j : Nat) {v : Value} (e : look L j = some v) : T[j]? = some v := h.at_ j v e
theorem Rp.nil {T : Array Value} {n : Nat} (h : T.size = n) : Rp T n [] := ⟨h, fun j v e => by cases e⟩
theorem Rp.cons {T : Array Value} {n : Nat} {L : List (Nat × Value)} (h : Rp T n L) {j : Nat} {v : Value} (e : T[j]? = some v) : Rp T n ((j, v) :: L) := ⟨h.z, fun i x hx => by
  unfold look at hx
  cases hb : Nat.beq j i with
  | true =>
    rw [hb] at hx
    have := Nat.eq_of_beq_eq_true hb
    subst this
    cases hx
    exact e
  | false =>
    rw [hb] at hx
    exact h.at_ i x hx⟩
theorem Rp.k {T : Array Value} {n d : Nat} {L : List (Nat × Value)} {c : Bool} {V : Value} {G : Array Value → Prop} (h : Rp T n L) (g : ∀ T', Rp T' n ((d, gw c V) :: L) → G T') : ∀ T', T'.size = n → (∀ j, j ≠ d → T'[j]? = T[j]?) → T'[d]? = some (gw c V) → G T' := fun T' z k s => g T' ⟨z, fun i x hx => by
  unfold look at hx
  cases hb : Nat.beq d i with
  | true =>
    rw [hb] at hx
    have := Nat.eq_of_beq_eq_true hb
    subst this
    cases hx
    exact s
  | false =>
    rw [hb] at hx
    have hne : i ≠ d := fun e => by subst e; rw [Nat.beq_refl] at hb; cases hb
    exact (k i hne).trans (h.at_ i x hx)⟩
theorem Rp.e {T : Array Value} {n : Nat} {L : List (Nat × Value)} (h : Rp T n L) {df : List Deferred} {j : Nat} {v : Value} (e : look L j = some (gw true v)) : (⟨T, df⟩ : Act).eval (.tmp j) = v := ev (h.at_ j _ e) rfl
theorem Rp.t {T : Array Value} {n d : Nat} {L : List (Nat × Value)} {ops : Array Oper} {rest : List Oper} {o : Oper} {df : List Deferred} {w : World} {Q : Exit → Act → World → Prop} (h : Rp T n L) (V : Value) (he : (execOp (⟨T, df⟩ : Act).eval o).run Try.prog w = .ok (.value V) w) (hk : ∀ T', Rp T' n ((d, gw true V) :: L) → wpList Try.prog ops Q rest ⟨T', df⟩ w) (hg : o.guard = none := by rfl) (hd : o.dst = some d := by rfl) (hn : d < n := by decide) : wpList Try.prog ops Q (o :: rest) ⟨T, df⟩ w :=
  vl true V (want_none hg) (fun _ => he) hd h.z hn (h.k hk)
theorem Rp.q {T : Array Value} {n d : Nat} {L : List (Nat × Value)} {ops : Array Oper} {rest : List Oper} {o : Oper} {df : List Deferred} {C : World → Prop} {Q : Act → Prop} (h : Rp T n L) (V : Value) (he : ∀ v, C v → (execOp (⟨T, df⟩ : Act).eval o).run Try.prog v = .ok (.value V) v) (hk : ∀ T', Rp T' n ((d, gw true V) :: L) → VJ ops C Q rest ⟨T', df⟩) (hg : o.guard = none := by rfl) (hd : o.dst = some d := by rfl) (hn : d < n := by decide) : VJ ops C Q (o :: rest) ⟨T, df⟩ :=
  vq true V (want_none hg) (fun _ => he) hd h.z hn (h.k hk)
theorem SlY.on {α : Type} {Y : Lay α} {w w' : World} {a : Option Addr} {n c B : Nat} {l : List α} (h : SlY Y w a n c l) (hb : Below B w w') (hB : w.heap.size ≤ B) : SlY Y w' a n c l := h.bel hb hB
theorem v_cut18 {c : Code} {Q : Exit → Act → World → Prop} {T : Array Value} {w : World} (J : Array Value → World → Prop) (h : c.wp Try.prog (Exit.then (fun a w' => ∃ T', a = ⟨T', []⟩ ∧ J T' w') Q) ⟨T, []⟩ w) (hk : ∀ T' w', J T' w' → Q .normal ⟨T', []⟩ w') : c.wp Try.prog Q ⟨T, []⟩ w := by
  refine Code.wp_mono (fun e a' w' h => ?_) h
  cases e with
  | normal =>
    obtain ⟨T', rfl, hJ⟩ := h
    exact hk T' w' hJ
  | _ => exact h
theorem vh_val18 {ops : Array Oper} {o : Oper} {T : Array Value} {df : List Deferred} {w : World} {Q : Exit → Act → World → Prop} {S : World → Prop} {fuel d n : Nat} {listed : Array Bool} (i : Nat) (V : Value) (w' : World) (hi : ops[i]? = some o) (hr : Region.ready .any ops listed = [i])
    (hw : Region.wanted o (yielded ops T) = true) (he : (execOp (⟨T, df⟩ : Act).eval o).run Try.prog w = .ok (.value V) w') (hd : o.dst = some d) (hz : T.size = n) (hn : d < n) (hS : S w')
    (hk : ∀ T' : Array Value, T'.size = n → (∀ j, j ≠ d → T'[j]? = T[j]?) → T'[d]? = some (gw true V) → VH ops Q S fuel (listed.setIfInBounds i true) ⟨T', df⟩ w') : VH ops Q S (fuel + 1) listed ⟨T, df⟩ w := by
  refine ⟨wpAnyH_all hr (by simp) (fun j hj => ?_)⟩
  obtain rfl : j = i := by simpa using hj
  unfold wpOp
  rw [hi]
  simp only [hw, if_true]
  refine .inl ?_
  unfold Oper.wp
  rw [he, Oper.upon_value]
  refine ⟨hS, ?_⟩
  rw [hd]
  exact (hk (T.setIfInBounds d V) (by simp [hz]) (fun i hi => at_set_ne _ hi) (at_set _ (by omega))).out
theorem ex_box18 {o : Oper} {ρ : Operand → Value} {s : TypeId} {x : Operand} {X V : Value} {w w' : World} (ho : o.op = .box s x) (hx : ρ x = X) (hr : (Instr.box s X).run Try.prog w = .ok V w') : (execOp ρ o).run Try.prog w = .ok (.value V) w' := by
  unfold execOp
  simp only [ho, hx, Sem.run_bind, hr, Result.andThen_ok]
  rfl
theorem ex_buildP18 {o : Oper} {ρ : Operand → Value} {s : TypeId} {ps : Array (Nat × Operand)} {P : Array (Nat × Value)} {V : Value} {w : World} (ho : o.op = .build s ps) (hp : ps.map (fun (i, x) => (i, ρ x)) = P) (hr : (Instr.build s P).run Try.prog w = .ok V w) : (execOp ρ o).run Try.prog w = .ok (.value V) w := by
  unfold execOp
  simp only [ho, hp, Sem.run_bind, hr, Result.andThen_ok]
  rfl
theorem ex_sl18 {o : Oper} {ρ : Operand → Value} {s : TypeId} {x : Operand} {X V : Value} {w : World} (ho : o.op = .slice s x none none none) (hx : ρ x = X) (hr : (Instr.sliceAt s X none none none).run Try.prog w = .ok V w) : (execOp ρ o).run Try.prog w = .ok (.value V) w := by
  unfold execOp
  simp only [ho, hx, Sem.run_bind, Option.map_none, hr, Result.andThen_ok]
  rfl
theorem ex_copy18 {o : Oper} {ρ : Operand → Value} {x y : Operand} {X Y V : Value} {s t : TypeId} {w w' : World} (ho : o.op = .call { callee := .builtin .copy, args := #[x, y], argTypes := #[s, t] }) (hx : ρ x = X) (hy : ρ y = Y) (hr : (Builtin.copy_ #[s, t] o.type #[X, Y]).run Try.prog w = .ok V w') : (execOp ρ o).run Try.prog w = .ok (.value V) w' := by
  unfold execOp
  simp only [ho, resolve, invoke, builtin, Sem.run_bind, Sem.run_pure, Result.andThen_ok, List.map_toArray, List.map_cons, List.map_nil, hx, hy, hr]
def BB (w : World) (q : Nat) (T : TypeId) (cs : List Value) : Prop := w.heap[q]? = some (.cells cs.toArray T (0, 0))
theorem BB.lt {w : World} {q : Nat} {T : TypeId} {cs : List Value} (h : BB w q T cs) : q < w.heap.size := (Array.getElem?_eq_some_iff.1 h).1
theorem BB.new (w : World) (T : TypeId) (cs : List Value) : BB (w.alloc (.cells cs.toArray T)) w.heap.size T cs := World.alloc_heap_new _ _
theorem BB.upd {S : Nat → Prop} {w w' : World} {q : Nat} {T : TypeId} {cs : List Value} (h : BB w q T cs) (u : Upd S w w') (hs : ¬ S q) : BB w' q T cs := (u.block q h.lt hs).trans h
theorem BB.later {w w' : World} {q : Nat} {T : TypeId} {cs : List Value} (h : BB w q T cs) (hb : Below w.heap.size w w') : BB w' q T cs := (hb.block q h.lt).trans h
theorem BB.cell {w : World} {q : Nat} {T : TypeId} {cs : List Value} (h : BB w q T cs) (i : Nat) : w.cell? ⟨q, i, none⟩ = cs[i]? := by
  unfold BB at h
  unfold World.cell?
  simp [h]
theorem BB.free {w : World} {q : Nat} {T : TypeId} {cs : List Value} (h : BB w q T cs) (i : Nat) : w.frozen? ⟨q, i, none⟩ = false := by
  unfold BB at h
  unfold World.frozen?
  simp [h]
theorem BB.ld {w : World} {q : Nat} {T : TypeId} {cs : List Value} (h : BB w q T cs) (ty : TypeId) {d : TypeDesc} (hu : Try.prog.underlying ty = some d) (hd : d.isRow = true) (hi : (Try.prog.info? ty).map (·.size) = some cs.length) : (Instr.loadAt ty (.pointer (some ⟨q, 0, none⟩))).run Try.prog w = .ok (.agg cs.toArray) w :=
  run_loadAt_mid (P := Try.prog) w q 0 ty cs d (fun j v hv => by rw [Nat.zero_add, h.cell]; exact hv) hu hd hi
theorem BB.set1 {w : World} {q : Nat} {T : TypeId} {cs : List Value} (h : BB w q T cs) (j : Nat) (u : Value) : BB (w.setCell ⟨q, j, none⟩ u) q T (cs.set j u) := by
  have hlt := h.lt
  unfold BB at *
  unfold World.setCell
  have e : w.heap[q] = .cells cs.toArray T (0, 0) := (Array.getElem?_eq_some_iff.1 h).2
  rw [Array.getElem?_eq_getElem (by simpa using hlt), Array.getElem_modify_self, e]
  simp
theorem BB.sets {q : Nat} {T : TypeId} : ∀ (vs : List Value) (o : Nat) (w : World) (cs : List Value), BB w q T cs → ∃ cs', BB (w.setCells q o vs) q T cs' ∧ cs'.length = cs.length
  | [], o, w, cs, h => ⟨cs, h, rfl⟩
  | v :: r, o, w, cs, h => by
    obtain ⟨cs', h1, h2⟩ := BB.sets r (o + 1) _ _ (h.set1 o v)
    exact ⟨cs', h1, by rw [h2, List.length_set]⟩
theorem BB.whole {w : World} {q : Nat} {T : TypeId} {cs : List Value} (h : BB w q T cs) (vs : List Value) (hl : vs.length = cs.length) : BB (w.setCells q 0 vs) q T vs := by
  obtain ⟨cs', h1, h2⟩ := BB.sets vs 0 w cs h
  have : cs' = vs := by
    apply List.ext_getElem (by omega)
    intro i hi hi2
    have h3 := World.cell?_setCells_in q vs 0 w (fun j hj => by rw [Nat.zero_add, h.cell, List.getElem?_eq_getElem (by omega)]; rfl) i hi2
    rw [Nat.zero_add, h1.cell, List.getElem?_eq_getElem hi] at h3
    exact Option.some.inj h3
  rw [← this]
  exact this ▸ h1
theorem upd18 (q : Nat) : ∀ (vs : List Value) (o : Nat) (w : World), Upd (fun k => k = q) w (w.setCells q o vs)
  | [], o, w => Upd.refl _ _
  | v :: r, o, w => ((Upd.refl (fun k => k = q) w).setCell (p := ⟨q, o, none⟩) (.inl rfl) v).trans (upd18 q r (o + 1) _)
theorem BB.st {w : World} {q : Nat} {T : TypeId} {cs : List Value} (h : BB w q T cs) (ty : TypeId) (vs : List Value) (hl : vs.length = cs.length) (hi : (Try.prog.info? ty).map (·.size) = some vs.toArray.size) (h1 : vs.toArray.all (·.oneCell') = true) : (Instr.storeAt ty (.pointer (some ⟨q, 0, none⟩)) (.agg vs.toArray)).run Try.prog w = .ok () (w.setCells q 0 vs) := by
  have := run_storeAt_mid (P := Try.prog) w q 0 ty vs.toArray (fun j hj => ⟨by rw [Nat.zero_add, h.cell, List.getElem?_eq_getElem (show j < cs.length by simpa [hl] using hj)]; rfl, by rw [Nat.zero_add]; exact h.free j⟩) hi h1
  exact this
theorem BB.res {w : World} {q : Nat} {Ty : TypeId} {cs : List Value} (h : BB w q Ty cs) {fn : Func} {i : Tmp} {ty : TypeId} {T : Array Value} {R : Ending → World → Prop} (hf : fn.results = #[.cell i ty]) (hq : T[i]? = some (gw true (.pointer (some ⟨q, 0, none⟩)))) {d : TypeDesc} (hu : Try.prog.underlying ty = some d) (hd : d.isRow = true) (hi : (Try.prog.info? ty).map (·.size) = some cs.length) (hR : R (.returned (.agg cs.toArray)) w) : bodyPost Try.prog fn R .ret ⟨T, []⟩ w := by
  refine bodyPost_ret (v := .agg cs.toArray) ?_ rfl hR
  have := run_loadVar_mid (P := Try.prog) w q 0 ty cs _ (fun j v hv => by rw [Nat.zero_add, h.cell]; exact hv) hu hd hi
  have hq' : T.getD i undef = .pointer (some ⟨q, 0, none⟩) := getD_of hq
  simp only [results, hf]
  simp only [Array.getD_eq_getD_getElem?] at hq'
  simp [Sem.run_bind, Result.andThen, hq', asAddr, this]
theorem vq_call18 {ops : Array Oper} {rest : List Oper} {o : Oper} {T : Array Value} {df : List Deferred} {C : World → Prop} {Q : Act → Prop} {d n : Nat} (c : Bool) (V : Value) {fid : FuncId} {args : Array Value} (hw : Region.wanted o (yielded ops T) = c) (he : c = true → ∀ v, C v → (execOp (⟨T, df⟩ : Act).eval o).run Try.prog v = .ok (.enter fid args) v)
    (hc : c = true → ∀ v, C v → Calls Try.prog fid args v fun e w' => e = .returned V ∧ C w') (hd : o.dst = some d) (hz : T.size = n) (hn : d < n)
    (hk : ∀ T' : Array Value, T'.size = n → (∀ i, i ≠ d → T'[i]? = T[i]?) → T'[d]? = some (gw c V) → VJ ops C Q rest ⟨T', df⟩) : VJ ops C Q (o :: rest) ⟨T, df⟩ := by
  cases c with
  | false =>
    refine ⟨BigFrame.wpQuiet_skip hw ?_⟩
    rw [hd]
    exact (hk (T.setIfInBounds d undef) (by simp [hz]) (fun i hi => at_set_ne _ hi) (at_set _ (by omega))).out
  | true =>
    refine ⟨BigFrame.wpQuiet_want hw (fun K hK => ⟨V, fun v hv => by unfold Oper.quietAt; rw [he rfl v hv]; exact ⟨rfl, hc rfl v hv⟩, hK _ ?_⟩)⟩
    rw [hd]
    exact (hk (T.setIfInBounds d V) (by simp [hz]) (fun i hi => at_set_ne _ hi) (at_set _ (by omega))).out
theorem bel18 {w v : World} {B : Nat} {f : FuncId} {args : Array Value} {V : Value} (hv : Below B w v) (h : Calls Try.prog f args v fun e w' => e = .returned V ∧ Below v.heap.size v w') (hB : B ≤ v.heap.size) : Calls Try.prog f args v fun e w' => e = .returned V ∧ Below B w w' :=
  h.mono fun e w' ⟨h1, h2⟩ => ⟨h1, hv.trans (h2.mono hB)⟩
theorem ex_ext18 {o : Oper} {ρ : Operand → Value} {x : Operand} {i : Nat} {X V : Value} {w : World} (ho : o.op = .extract x i) (hx : ρ x = X) (hr : (Instr.extract X i).run Try.prog w = .ok V w) : (execOp ρ o).run Try.prog w = .ok (.value V) w := by
  unfold execOp
  simp only [ho, hx]
  simp [hr]
theorem bel_ge {B N : Nat} {w w' : World} (u : Upd (fun k => k = N) w w') (hB : B ≤ w.heap.size) (hN : B ≤ N) : Below B w w' := u.below hB (fun k hk => by omega)
theorem ex_bs18 {o : Oper} {ρ : Operand → Value} {s : TypeId} {x : Operand} {X V : Value} {w w' : World} (ho : o.op = .buildSlice s 1 #[(0, x)]) (hx : ρ x = X) (hr : (Instr.buildSlice s 1 #[(0, X)]).run Try.prog w = .ok V w') : (execOp ρ o).run Try.prog w = .ok (.value V) w' := by
  unfold execOp
  simp only [ho, List.map_toArray, List.map_cons, List.map_nil, hx, Sem.run_bind, hr, Result.andThen_ok]
  rfl
theorem ex_app18 {o : Oper} {ρ : Operand → Value} {x y : Operand} {X Y V : Value} {s t : TypeId} {w w' : World} (ho : o.op = .call { callee := .builtin .append, args := #[x, y], argTypes := #[s, t] }) (hx : ρ x = X) (hy : ρ y = Y) (hr : (Builtin.append_ #[s, t] o.type #[X, Y]).run Try.prog w = .ok V w') : (execOp ρ o).run Try.prog w = .ok (.value V) w' := by
  unfold execOp
  simp only [ho, resolve, invoke, builtin, Sem.run_bind, Sem.run_pure, Result.andThen_ok, List.map_toArray, List.map_cons, List.map_nil, hx, hy, hr]
theorem add1C (x y : Operand) (j : Nat) (h : j < 9000000000000000000) (w : World) : (do eqGuard .add 3 x y (.int .i64 (j : Int)) (.int .i64 1); binOp .add 3 (.int .i64 (j : Int)) (.int .i64 1) : Sem Value).run Try.prog w = .ok (.int .i64 ((j + 1 : Nat) : Int)) w := by
  have hwr : IntKind.i64.wrap ((j : Int) + 1) = ((j + 1 : Nat) : Int) := by rw [IntKind.wrap_i64]; omega
  go_simp
theorem Upd.trans18 {S T : Nat → Prop} {w w1 w2 : World} (h : Upd S w w1) (k : Upd T w1 w2) (hs : ∀ i, i < w.heap.size → T i → S i) : Upd S w w2 :=
  ⟨k.os.trans h.os, k.tape.trans h.tape, k.output.trans h.output, Nat.le_trans h.size k.size, fun i hi hn => (k.block i (Nat.lt_of_lt_of_le hi h.size) (fun ht => hn (hs i hi ht))).trans (h.block i hi hn)⟩
theorem ltT (x y : Operand) {i n : Nat} (h : i < n) (w : World) : (do eqGuard .lss 3 x y (.int .i64 (i : Int)) (.int .i64 (n : Int)); binOp .lss 3 (.int .i64 (i : Int)) (.int .i64 (n : Int)) : Sem Value).run Try.prog w = .ok (.bool true) w := by
  have h1 : decide ((i : Int) < (n : Int)) = true := decide_eq_true (by omega)
  rw [lssC, h1]
theorem ltF (x y : Operand) {i n : Nat} (h : ¬ i < n) (w : World) : (do eqGuard .lss 3 x y (.int .i64 (i : Int)) (.int .i64 (n : Int)); binOp .lss 3 (.int .i64 (i : Int)) (.int .i64 (n : Int)) : Sem Value).run Try.prog w = .ok (.bool false) w := by
  have h1 : decide ((i : Int) < (n : Int)) = false := decide_eq_false (by omega)
  rw [lssC, h1]
theorem results2_18 {fn : Func} {j k : Tmp} {x y : Value} {tmps : Array Value} {w : World} (h : fn.results = #[.tmp j, .tmp k]) (hj : tmps[j]? = some (gw true x)) (hk : tmps[k]? = some (gw true y)) : (results fn tmps).run Try.prog w = .ok (.tuple #[x, y]) w := by
  simp only [results, h]
  have hj' : tmps.getD j undef = x := getD_of hj
  have hk' : tmps.getD k undef = y := getD_of hk
  simp only [Array.getD_eq_getD_getElem?] at hj' hk'
  simp [Sem.run_bind, Result.andThen, hj', hk']
theorem ldI18 {w : World} {q o : Nat} {x : Int} (h : w.cell? ⟨q, o, none⟩ = some (.int .i64 x)) : (Instr.loadAt 3 (.pointer (some ⟨q, o, none⟩))).run Try.prog w = .ok (.int .i64 x) w := by go_simp
theorem ex_bs2 {o : Oper} {ρ : Operand → Value} {s : TypeId} {x y : Operand} {X Y V : Value} {w w' : World} (ho : o.op = .buildSlice s 2 #[(0, x), (1, y)]) (hx : ρ x = X) (hy : ρ y = Y) (hr : (Instr.buildSlice s 2 #[(0, X), (1, Y)]).run Try.prog w = .ok V w') : (execOp ρ o).run Try.prog w = .ok (.value V) w' := by
  unfold execOp
  simp only [ho, List.map_toArray, List.map_cons, List.map_nil, hx, hy, Sem.run_bind, hr, Result.andThen_ok]
  rfl
theorem stI18 {w : World} {q j : Nat} {u : Value} {b : Int} (h : w.cell? ⟨q, j, none⟩ = some u) (hf : w.frozen? ⟨q, j, none⟩ = false) : (Instr.storeAt 3 (.pointer (some ⟨q, j, none⟩)) (.int .i64 b)).run Try.prog w = .ok () (w.setCell ⟨q, j, none⟩ (.int .i64 b)) := by go_simp
theorem eqlE18 (x y : Operand) (a b : Int) (w : World) : (do eqGuard .eql 43 x y (.int .i64 a) (.int .i64 b); binOp .eql 43 (.int .i64 a) (.int .i64 b) : Sem Value).run Try.prog w = .ok (.bool (decide (a = b))) w := by
  go_simp
  by_cases h : a = b <;> simp [h]
theorem ex_lenG {o : Oper} {ρ : Operand → Value} {i : Nat} {a : Option Addr} {n k : Nat} {w : World} {t e : TypeId} (ho : o.op = .call { callee := .builtin .len, args := #[.tmp i], argTypes := #[t] }) (ht : o.type = 3) (hu : Try.prog.underlying t = some (.slice e)) (hx : ρ (.tmp i) = .slice a n k) : (execOp ρ o).run Try.prog w = .ok (.value (.int .i64 (n : Int))) w := by
  unfold execOp
  simp only [ho]
  rw [Sem.run_bind]
  simp only [resolve, List.map_toArray, List.map_cons, List.map_nil, hx, ht]
  go_simp
end Go.Proofs.Ytfafhlahbhopaaa
