import Derived.Test.YteamgkadhlbflaaRows
import Derived.Maps.OwnSet
import Derived.Maps.RangeWalk
import Derived.WalkKit
import Derived.WalkSpells
import Derived.WalkLawsBesides
import Derived.Below
import Derived.Deep.QuietTactic
import Derived.BigQuiet
import Derived.Deep.RegionWith
import Derived.Deep.RegionLaw
import Derived.Deep.Light
import Derived.Deep.RegionHeld3
import Derived.Laws.OwnMore
import Derived.Laws.StructEq
import Derived.Laws.AppendOwnNone
import Derived.Sort.OwnSorted
import Derived.Maps.Views
import Derived.Laws.CopyRow
set_option maxRecDepth 100000
set_option linter.unusedVariables false
set_option linter.unusedSimpArgs false
namespace Go.Proofs.Yteamgkadhlbflaa
abbrev Cl := Int × ByteArray
def gv (L : List Cl) (s : Int) : Option ByteArray := (L.find? (fun p => p.1 == s)).map (·.2)
def bh : List Cl → Int
  | [] => 0
  | p :: r => max (p.1 + 1) (bh r)
def ins (p : Cl) : List Cl → List Cl
  | [] => [p]
  | y :: r => if p.1 < y.1 then p :: y :: r else y :: ins p r
structure Ok (L : List Cl) : Prop where
  up : L.Pairwise (fun p q => p.1 < q.1)
  may : ∀ p ∈ L, 0 ≤ p.1 ∧ p.1 < 1024 ∧ p.2.size ≤ 64
theorem Ok.nil : Ok [] := ⟨List.Pairwise.nil, by simp⟩
theorem mem_ins (p q : Cl) : ∀ L : List Cl, q ∈ ins p L ↔ q = p ∨ q ∈ L
  | [] => by simp [ins]
  | y :: r => by
    unfold ins
    split
    · simp
    · simp [mem_ins p q r]
      constructor
      · rintro (h | h | h) <;> simp [h]
      · rintro (h | h | h) <;> simp [h]
theorem len_ins (p : Cl) : ∀ L : List Cl, (ins p L).length = L.length + 1
  | [] => rfl
  | y :: r => by
    unfold ins
    split
    · rfl
    · simp [len_ins p r]
theorem gv_none {L : List Cl} {s : Int} : gv L s = none ↔ ∀ p ∈ L, p.1 ≠ s := by
  simp [gv, List.find?_eq_none]
theorem gv_mem {L : List Cl} {s : Int} {v : ByteArray} (h : gv L s = some v) : (s, v) ∈ L := by
  unfold gv at h
  cases hf : L.find? (fun p => p.1 == s) with
  | none => simp [hf] at h
  | some p =>
    simp [hf] at h
    have h1 := List.mem_of_find?_eq_some hf
    have h2 := List.find?_some hf
    simp at h2
    rw [← h, ← h2]
    exact h1
theorem gv_of_mem {L : List Cl} (h : L.Pairwise (fun p q => p.1 < q.1)) {p : Cl} (hp : p ∈ L) : gv L p.1 = some p.2 := by
  induction L with
  | nil => simp at hp
  | cons y r ih =>
    obtain ⟨h1, h2⟩ := List.pairwise_cons.1 h
    rcases List.mem_cons.1 hp with rfl | hp'
    · simp [gv]
    · have hne : y.1 ≠ p.1 := by have := h1 p hp'; omega
      have := ih h2 hp'
      simp [gv, hne] at this ⊢
      exact this
theorem ins_up {p : Cl} : ∀ {L : List Cl}, L.Pairwise (fun p q => p.1 < q.1) → (∀ q ∈ L, q.1 ≠ p.1) → (ins p L).Pairwise (fun p q => p.1 < q.1)
  | [], _, _ => by simp [ins]
  | y :: r, h, hn => by
    obtain ⟨h1, h2⟩ := List.pairwise_cons.1 h
    unfold ins
    split
    · rename_i hlt
      refine List.pairwise_cons.2 ⟨fun q hq => ?_, h⟩
      rcases List.mem_cons.1 hq with rfl | hq'
      · exact hlt
      · have := h1 q hq'; omega
    · rename_i hlt
      refine List.pairwise_cons.2 ⟨fun q hq => ?_, ins_up h2 (fun q hq => hn q (by simp [hq]))⟩
      rcases (mem_ins p q r).1 hq with rfl | hq'
      · have := hn y (by simp); omega
      · exact h1 q hq'
theorem Ok.ins {L : List Cl} (h : Ok L) {p : Cl} (hp : 0 ≤ p.1 ∧ p.1 < 1024 ∧ p.2.size ≤ 64) (hn : gv L p.1 = none) : Ok (ins p L) :=
  ⟨ins_up h.up (gv_none.1 hn), fun q hq => by
    rcases (mem_ins p q L).1 hq with rfl | hq'
    · exact hp
    · exact h.may q hq'⟩
theorem bh_ins (p : Cl) : ∀ L : List Cl, bh (ins p L) = max (bh L) (p.1 + 1)
  | [] => by simp [ins, bh] <;> omega
  | y :: r => by
    unfold ins
    split
    · simp [bh]; omega
    · simp only [bh, bh_ins p r]; omega
theorem bh_nonneg : ∀ L : List Cl, 0 ≤ bh L
  | [] => by simp [bh]
  | y :: r => by have := bh_nonneg r; simp [bh]; omega
theorem bh_gt {L : List Cl} {p : Cl} (h : p ∈ L) : p.1 < bh L := by
  induction L with
  | nil => simp at h
  | cons y r ih =>
    rcases List.mem_cons.1 h with rfl | h'
    · simp [bh]; omega
    · have := ih h'; simp [bh]; omega
theorem bh_le {L : List Cl} (h : ∀ p ∈ L, p.1 < 1024) : bh L ≤ 1024 := by
  induction L with
  | nil => simp [bh]
  | cons y r ih =>
    have h1 := h y (by simp)
    have h2 := ih (fun p hp => h p (by simp [hp]))
    simp [bh]; omega
theorem gv_bh (L : List Cl) : gv L (bh L) = none := gv_none.2 (fun p hp => by have := bh_gt hp; omega)
theorem Ok.bh_le {L : List Cl} (h : Ok L) : bh L ≤ 1024 := Go.Proofs.Yteamgkadhlbflaa.bh_le (fun p hp => (h.may p hp).2.1)
theorem len_le_aux : ∀ (L : List Cl) (a : Int), L.Pairwise (fun p q => p.1 < q.1) → (∀ p ∈ L, a ≤ p.1 ∧ p.1 < 1024) → a ≤ 1024 → (L.length : Int) ≤ 1024 - a
  | [], a, _, _, ha => by simp; omega
  | y :: r, a, h, hm, ha => by
    obtain ⟨h1, h2⟩ := List.pairwise_cons.1 h
    have hy := hm y (by simp)
    have := len_le_aux r (y.1 + 1) h2 (fun p hp => by have h3 := h1 p hp; have h4 := hm p (by simp [hp]); omega) (by omega)
    simp
    omega
theorem Ok.len_le {L : List Cl} (h : Ok L) : L.length ≤ 1024 := by
  have := len_le_aux L 0 h.up (fun p hp => ⟨(h.may p hp).1, (h.may p hp).2.1⟩) (by omega)
  omega
def cR (v : Value) : Option (DataW Unit × List MemPlace) :=
  match v with
  | .agg a => match a.toList with
    | [.int .i64 s, .string x] => some (.agg [.lit (.int .i64 s), .lit (.string x.data.toList)], [])
    | _ => none
  | _ => none
def cD (p : Cl) : DataW Unit := .agg [.lit (.int .i64 p.1), .lit (.string p.2.data.toList)]
def cV (p : Cl) : Value := .agg #[.int .i64 p.1, .string p.2]
theorem cR_mk (p : Cl) : cR (cV p) = some (cD p, []) := rfl
theorem cR_inv {v : Value} {z : DataW Unit × List MemPlace} (h : cR v = some z) : ∃ p : Cl, v = cV p ∧ z = (cD p, []) := by
  unfold cR at h
  split at h
  · rename_i a
    split at h
    · rename_i s x e
      refine ⟨(s, x), ?_, by cases h; rfl⟩
      have : a = #[.int .i64 s, .string x] := by rw [← Array.toList_inj]; exact e
      rw [this]; rfl
    · cases h
  · cases h
theorem cD_inj {p q : Cl} (h : cD p = cD q) : p = q := by
  obtain ⟨a, ⟨⟨x⟩⟩⟩ := p
  obtain ⟨b, ⟨⟨y⟩⟩⟩ := q
  simp [cD] at h
  obtain ⟨rfl, rfl⟩ := h
  rfl
def mD (L : List Cl) : DataW Unit := .map (L.map fun p => (.int .i64 p.1, cD p))
theorem mD_has (L : List Cl) (s : Int) : Maps.has (mD L) (.int .i64 s) = (gv L s).isSome := by
  induction L with
  | nil => rfl
  | cons y r ih =>
    simp only [mD, Maps.has, gv] at ih ⊢
    by_cases h : y.1 = s
    · simp [Lit.sameKey, h]
    · simp [Lit.sameKey, h] at ih ⊢
      exact ih
theorem mD_at (L : List Cl) (s : Int) (z : DataW Unit) : (mD L).atKey (.int .i64 s) z = match gv L s with | some v => cD (s, v) | none => z := by
  induction L with
  | nil => rfl
  | cons y r ih =>
    simp only [mD, DataW.atKey, gv] at ih ⊢
    by_cases h : y.1 = s
    · subst h
      simp [Lit.sameKey]
    · simp [Lit.sameKey, h] at ih ⊢
      exact ih
theorem mD_size (L : List Cl) : Maps.size (mD L) = L.length := by simp [mD, Maps.size]
theorem insert_mD (p : Cl) : ∀ L : List Cl, DataW.insert (.int .i64 p.1, cD p) (L.map fun p => (Lit.int .i64 p.1, cD p)) = (ins p L).map fun p => (Lit.int .i64 p.1, cD p)
  | [] => rfl
  | y :: r => by
    unfold ins
    simp only [List.map_cons, DataW.insert, Lit.before, decide_eq_true_eq]
    split
    · simp
    · simp [insert_mD p r]
theorem mD_put {L : List Cl} {p : Cl} (h : gv L p.1 = none) : (mD L).put (.int .i64 p.1) (cD p) = mD (ins p L) := by
  have e : (L.map fun p => (Lit.int .i64 p.1, cD p)).filter (fun q => !q.1.sameKey (.int .i64 p.1)) = L.map fun p => (Lit.int .i64 p.1, cD p) := by
    rw [List.filter_eq_self]
    intro q hq
    obtain ⟨c, hc, rfl⟩ := List.mem_map.1 hq
    have := gv_none.1 h c hc
    simp [Lit.sameKey, this]
  simp only [mD, DataW.put, e, insert_mD]
def ck (k s : Int) (v : ByteArray) : Int :=
  if k = 1 ∨ k = 3 then
    if s < 0 ∨ 1024 ≤ s then 41 else if (if k = 1 then 64 else 0) < v.size then 42 else 0
  else if k = 2 ∨ k = 4 then
    if s ≠ 0 then 41 else if (if k = 2 then 64 else 0) < v.size then 42 else 0
  else 40
def wd (L : List Cl) (k s : Int) (v : ByteArray) : Int × Int × ByteArray :=
  if ck k s v ≠ 0 then (0, 0, ByteArray.empty)
  else if k = 1 then match gv L s with
    | some x => (2, s, x)
    | none => (1, s, v)
  else if k = 2 then (if bh L < 1024 then (1, bh L, v) else (3, 0, ByteArray.empty))
  else if k = 3 then match gv L s with
    | some x => (4, s, x)
    | none => (5, s, ByteArray.empty)
  else (6, L.length, ByteArray.empty)
def dn (L : List Cl) (k s : Int) (v : ByteArray) : List Cl := if (wd L k s v).1 = 1 then ins (wd L k s v).2 L else L
theorem wd_written {L : List Cl} (h : Ok L) {k s : Int} {v : ByteArray} (e : (wd L k s v).1 = 1) : 0 ≤ (wd L k s v).2.1 ∧ (wd L k s v).2.1 < 1024 ∧ (wd L k s v).2.2 = v ∧ v.size ≤ 64 ∧ gv L (wd L k s v).2.1 = none := by
  unfold wd at e ⊢
  by_cases hc : ck k s v = 0
  · simp only [hc, ne_eq, not_true, if_false] at e ⊢
    unfold ck at hc
    by_cases h1 : k = 1
    · subst h1
      simp at hc e ⊢
      by_cases h2 : s < 0 ∨ 1024 ≤ s
      · simp [h2] at hc
      · simp [h2] at hc
        cases hg : gv L s with
        | some x => simp [hg] at e
        | none => simp [hg]; omega
    · by_cases h2 : k = 2
      · subst h2
        simp at hc e ⊢
        by_cases h3 : bh L < 1024
        · simp [h3, gv_bh]
          have := bh_nonneg L
          by_cases h4 : s = 0
          · simp [h4] at hc; omega
          · simp [h4] at hc
        · simp [h3] at e
      · by_cases h3 : k = 3
        · subst h3
          simp at e
          cases hg : gv L s <;> simp [hg] at e
        · simp [h1, h2, h3] at e
  · simp [hc] at e
end Go.Proofs.Yteamgkadhlbflaa
namespace Go.Proofs.Yteamgkadhlbflaa
open Go.RowKit Go.Maps
theorem hide {p : Prop} (h : p) : Hid p := h
theorem wf_i64 {a : Int} (h : -9223372036854775808 ≤ a ∧ a ≤ 9223372036854775807) : (Lit.int .i64 a).wf = true := by
  simp [Lit.wf, IntKind.min, IntKind.max, IntKind.bits, IntKind.signed]
  omega
structure Upd (S : Nat → Prop) (w w' : World) : Prop where
  os : w'.os = w.os
  tape : w'.tape = w.tape
  output : w'.output = w.output
  size : w.heap.size ≤ w'.heap.size
  block : ∀ k, k < w.heap.size → ¬ S k → w'.heap[k]? = w.heap[k]?
theorem Upd.refl (S : Nat → Prop) (w : World) : Upd S w w := ⟨rfl, rfl, rfl, Nat.le_refl _, fun _ _ _ => rfl⟩
theorem Upd.trans {S : Nat → Prop} {a b c : World} (h : Upd S a b) (k : Upd S b c) : Upd S a c :=
  ⟨k.os.trans h.os, k.tape.trans h.tape, k.output.trans h.output, Nat.le_trans h.size k.size, fun i hi hs => (k.block i (Nat.lt_of_lt_of_le hi h.size) hs).trans (h.block i hi hs)⟩
theorem Upd.mono {S T : Nat → Prop} {w w' : World} (h : Upd S w w') (hs : ∀ k, k < w.heap.size → S k → T k) : Upd T w w' :=
  ⟨h.os, h.tape, h.output, h.size, fun k hk ht => h.block k hk (fun h2 => ht (hs k hk h2))⟩
theorem Upd.below {S : Nat → Prop} {w w' : World} {B : Nat} (h : Upd S w w') (hB : B ≤ w.heap.size) (hs : ∀ k, S k → B ≤ k) : Below B w w' :=
  ⟨h.os, h.tape, h.output, h.size, fun k hk => h.block k (by omega) (fun h2 => by have := hs k h2; omega)⟩
theorem Upd.of_below {S : Nat → Prop} {w w' : World} (h : Below w.heap.size w w') : Upd S w w' :=
  ⟨h.os, h.tape, h.output, h.size, fun k hk _ => h.block k hk⟩
theorem Upd.alloc {S : Nat → Prop} {a w : World} (h : Upd S a w) (o : Obj) : Upd S a (w.alloc o) :=
  h.trans ⟨rfl, rfl, rfl, by simp, fun k hk _ => Below.heap_alloc _ _ _ hk⟩
theorem Upd.setCell {S : Nat → Prop} {a w : World} (h : Upd S a w) {p : Addr} (hp : S p.block ∨ a.heap.size ≤ p.block) (u : Value) : Upd S a (w.setCell p u) :=
  ⟨h.os, h.tape, h.output, by simpa [World.setCell] using h.size, fun k hk hs => (Below.heap_setCell w p u k (fun e => by
    rcases hp with hp | hp
    · exact hs (e ▸ hp)
    · omega)).trans (h.block k hk hs)⟩
theorem Upd.cell {S : Nat → Prop} {w w' : World} (h : Upd S w w') {p : Addr} (hp : p.block < w.heap.size) (hs : ¬ S p.block) : w'.cell? p = w.cell? p := World.cell?_of_block (w := w) (h.block p.block hp hs)
theorem Upd.frozen {S : Nat → Prop} {w w' : World} (h : Upd S w w') {p : Addr} (hp : p.block < w.heap.size) (hs : ¬ S p.block) : w'.frozen? p = w.frozen? p := World.frozen?_of_block (w := w) (h.block p.block hp hs)
theorem Upd.grownBy {S : Nat → Prop} {a w w' : World} {o : Option Nat} (h : Upd S a w) (hg : w.grownBy w' o) (ho : ∀ k, o = some k → k < a.heap.size → S k) : Upd S a w' :=
  ⟨hg.os.trans h.os, hg.tape.trans h.tape, hg.output.trans h.output, Nat.le_trans h.size hg.size, fun k hk hs => (hg.block k (Nat.lt_of_lt_of_le hk h.size) (fun e => hs (ho k e.symm hk))).trans (h.block k hk hs)⟩
structure Opn where
  k : Int
  s : Int
  v : ByteArray
def Opn.val (o : Opn) : Value := .agg #[.int .i64 o.k, .int .i64 o.s, .string o.v]
structure Opn.fits (o : Opn) : Prop where
  kw : (Lit.int .i64 o.k).wf = true
  sw : (Lit.int .i64 o.s).wf = true
  vl : o.v.size ≤ maxLen
abbrev Rs := Int × Int × ByteArray
def rV (r : Rs) : Value := .agg #[.int .i64 r.1, .int .i64 r.2.1, .string r.2.2]
theorem keyed : Keyed Try.prog 3 := int_keyed Try.underlying3
theorem zeroCell (w : World) : (zeroValue 111).run Try.prog w = .ok (cV (0, ByteArray.empty)) w := by kernel_rfl
abbrev Own (w : World) (b n : Nat) (L : List Cl) : Prop := w.ownsMap Try.prog 3 cR b n (mD L)
theorem Own.block {w w' : World} {b n : Nat} {L : List Cl} (h : Own w b n L) (e : w'.heap[b]? = w.heap[b]?) : Own w' b n L := by
  obtain ⟨es, clock, hb, F, hs, hD⟩ := h
  exact ⟨es, clock, e.trans hb, F, hs, hD⟩
structure Led (w : World) (b : Nat) (m : Option Nat) (L : List Cl) : Prop where
  ok : Ok L
  lt : b < w.heap.size
  c0 : w.cell? ⟨b, 0, none⟩ = some (.map m)
  c1 : w.cell? ⟨b, 1, none⟩ = some (.int .i64 (bh L))
  f0 : w.frozen? ⟨b, 0, none⟩ = false
  f1 : w.frozen? ⟨b, 1, none⟩ = false
  nn : m = none → L = []
  sm : ∀ j, m = some j → j ≠ b ∧ Own w j L.length L
def LS (b : Nat) (m : Option Nat) (i : Nat) : Prop := i = b ∨ m = some i
theorem Led.upd {S : Nat → Prop} {w w' : World} {b : Nat} {m : Option Nat} {L : List Cl} (h : Led w b m L) (u : Upd S w w') (hb : ¬ S b) (hm : ∀ j, m = some j → ¬ S j) : Led w' b m L :=
  ⟨h.ok, Nat.lt_of_lt_of_le h.lt u.size, (u.cell h.lt hb).trans h.c0, (u.cell h.lt hb).trans h.c1, (u.frozen h.lt hb).trans h.f0, (u.frozen h.lt hb).trans h.f1, h.nn, fun j e => ⟨(h.sm j e).1, (h.sm j e).2.block (u.block j (h.sm j e).2.lt (hm j e))⟩⟩
theorem Led.mlt {w : World} {b : Nat} {m : Option Nat} {L : List Cl} (h : Led w b m L) {j : Nat} (e : m = some j) : j < w.heap.size := (h.sm j e).2.lt
theorem look_any (w : World) (m : Option Nat) (n : Nat) (L : List Cl) (s : Int) (hn : m = none → L = []) (hs : ∀ j, m = some j → Own w j n L) (hw : (Lit.int .i64 s).wf = true) :
    (Instr.lookup 159 (.map m) (.int .i64 s) true).run Try.prog w = .ok (.tuple #[match gv L s with | some x => cV (s, x) | none => cV (0, ByteArray.empty), .bool (gv L s).isSome]) w := by
  have hkey := keyOf_int_mk Try.underlying3 hw
  cases m with
  | none =>
    rw [hn rfl]
    exact look_nil (w := w) true keyed Try.underlying159 (zeroCell _) hkey
  | some j =>
    obtain ⟨v, ps, hrun, hv⟩ := (hs j rfl).look_ok keyed Try.underlying159 (zeroCell _) (cR_mk _) hkey
    rw [hrun]
    obtain ⟨p, rfl, hp⟩ := cR_inv hv
    rw [mD_has]
    rw [mD_at] at hp
    cases hg : gv L s with
    | none =>
      simp [hg] at hp
      rw [← cD_inj hp.1]
    | some x =>
      simp [hg] at hp
      rw [← cD_inj hp.1]
theorem len_any (w : World) (m : Option Nat) (n : Nat) (L : List Cl) (hn : m = none → L = []) (hs : ∀ j, m = some j → Own w j n L) (ty : TypeId) : (Builtin.len_ #[159] ty #[.map m]).run Try.prog w = .ok (.int .i64 L.length) w := by
  cases m with
  | none =>
    rw [hn rfl]
    exact Maps.len_nil Try.underlying159 ty
  | some j =>
    rw [(hs j rfl).len Try.underlying159 ty, mD_size]
end Go.Proofs.Yteamgkadhlbflaa
namespace Go.Proofs.Yteamgkadhlbflaa
open Go.RowKit Go.Maps
theorem new_any (w : World) : Calls Try.prog 57 #[] w fun e w' => e = .returned (.pointer (some ⟨w.heap.size, 0, none⟩)) ∧ Led w' w.heap.size none [] ∧ Upd (fun _ => False) w w' ∧ w'.heap.size = w.heap.size + 1 := by
  go_enter Try.func57, Try.ntmps57
  go_wp2
  go_ret
  refine ⟨rfl, ⟨Ok.nil, by simp, ?_, ?_, ?_, ?_, fun _ => rfl, fun j e => by cases e⟩, (Upd.refl _ w).alloc _, by simp⟩
  all_goals go_simp
  all_goals rfl
theorem isslot_any (s : Int) (w : World) : Calls Try.prog 65 #[.int .i64 s] w fun e w' => e = .returned (.bool (decide (0 ≤ s ∧ s < 1024))) ∧ w' = w := by
  by_cases h1 : 0 ≤ s
  · by_cases h2 : s < 1024
    · go_enter Try.func65, Try.ntmps65
      go_wp2
      go_ret
      exact ⟨by simp [h1, h2], rfl⟩
    · go_enter Try.func65, Try.ntmps65
      go_wp2
      go_ret
      exact ⟨by simp [h2], rfl⟩
  · go_enter Try.func65, Try.ntmps65
    go_wp2
    go_ret
    exact ⟨by simp; omega, rfl⟩
theorem rest_any (k s : Int) (v : ByteArray) (n : Int) (w : World) (hv : v.size ≤ maxLen) : Calls Try.prog 66 #[.agg #[.int .i64 k, .int .i64 s, .string v], .int .i64 n] w fun e w' => e = .returned (.int .i64 (if s ≠ 0 then 41 else if n < v.size then 42 else 0)) ∧ Below w.heap.size w w' := by
  by_cases h1 : s = 0
  · subst h1
    by_cases h2 : n < v.size
    · go_enter Try.func66, Try.ntmps66
      go_wp2
      go_ret
      exact ⟨by simp, (Below.refl _ w).alloc (Nat.le_refl _) _⟩
    · go_enter Try.func66, Try.ntmps66
      go_wp2
      go_ret
      exact ⟨by simp, (Below.refl _ w).alloc (Nat.le_refl _) _⟩
  · go_enter Try.func66, Try.ntmps66
    go_wp2
    go_ret
    exact ⟨by simp, (Below.refl _ w).alloc (Nat.le_refl _) _⟩
set_option maxHeartbeats 1000000 in
theorem check_any (o : Opn) (ho : o.fits) (w : World) : Calls Try.prog 38 #[o.val] w fun e w' => e = .returned (.int .i64 (ck o.k o.s o.v)) ∧ Below w.heap.size w w' := by
  obtain ⟨k, s, v⟩ := o
  obtain ⟨hk, hs, hv⟩ := ho
  dsimp only at hk hs hv
  dsimp only [Opn.val]
  have c1 := fun W => isslot_any s W
  have c2 := fun k s n W => rest_any k s v n W hv
  by_cases k1 : k = 1
  · subst k1
    by_cases h1 : 0 ≤ s ∧ s < 1024
    · have e1 : ck 1 s v = if (0 : Int) ≠ 0 then 41 else if (64 : Int) < v.size then 42 else 0 := by
        unfold ck
        have : ¬ (s < 0 ∨ 1024 ≤ s) := by omega
        simp [this] <;> omega
      have c2 := c2 1 0 64
      rw [← e1] at c2
      clear e1
      generalize ck 1 s v = r at c2 ⊢
      have c1 : ∀ W, Calls Try.prog 65 #[.int .i64 s] W fun e w' => e = .returned (.bool true) ∧ w' = W := fun W => by simpa [h1] using c1 W
      go_enter Try.func38, Try.ntmps38
      go_wp2_with (first | (go_at_call 65; refine (c1 _).mono ?_; rintro e w' ⟨rfl, rfl⟩) | (go_at_call 66; refine (c2 _).mono ?_; rintro e w' ⟨rfl, hb⟩))
      go_ret
      exact ⟨rfl, ((Below.refl w.heap.size w).alloc (Nat.le_refl _) _).trans (hb.mono (by simp))⟩
    · have e1 : ck 1 s v = 41 := by
        unfold ck
        have : s < 0 ∨ 1024 ≤ s := by omega
        simp [this]
      rw [e1]
      clear e1 c2
      have c1 : ∀ W, Calls Try.prog 65 #[.int .i64 s] W fun e w' => e = .returned (.bool false) ∧ w' = W := fun W => by simpa [h1] using c1 W
      go_enter Try.func38, Try.ntmps38
      go_wp2_with (go_at_call 65; refine (c1 _).mono ?_; rintro e w' ⟨rfl, rfl⟩)
      go_ret
      exact ⟨rfl, (Below.refl w.heap.size w).alloc (Nat.le_refl _) _⟩
  by_cases k2 : k = 2
  · subst k2
    have e1 : ck 2 s v = if s ≠ 0 then 41 else if (64 : Int) < v.size then 42 else 0 := by
      unfold ck
      by_cases h : s = 0 <;> simp [h] <;> omega
    have c2 := c2 2 s 64
    rw [← e1] at c2
    clear e1
    generalize ck 2 s v = r at c2 ⊢
    clear c1
    go_enter Try.func38, Try.ntmps38
    go_wp2_with (go_at_call 66; refine (c2 _).mono ?_; rintro e w' ⟨rfl, hb⟩)
    go_ret
    exact ⟨rfl, ((Below.refl w.heap.size w).alloc (Nat.le_refl _) _).trans (hb.mono (by simp))⟩
  by_cases k3 : k = 3
  · subst k3
    by_cases h1 : 0 ≤ s ∧ s < 1024
    · have e1 : ck 3 s v = if (0 : Int) ≠ 0 then 41 else if (0 : Int) < v.size then 42 else 0 := by
        unfold ck
        have : ¬ (s < 0 ∨ 1024 ≤ s) := by omega
        simp [this]
      have c2 := c2 3 0 0
      rw [← e1] at c2
      clear e1
      generalize ck 3 s v = r at c2 ⊢
      have c1 : ∀ W, Calls Try.prog 65 #[.int .i64 s] W fun e w' => e = .returned (.bool true) ∧ w' = W := fun W => by simpa [h1] using c1 W
      go_enter Try.func38, Try.ntmps38
      go_wp2_with (first | (go_at_call 65; refine (c1 _).mono ?_; rintro e w' ⟨rfl, rfl⟩) | (go_at_call 66; refine (c2 _).mono ?_; rintro e w' ⟨rfl, hb⟩))
      go_ret
      exact ⟨rfl, ((Below.refl w.heap.size w).alloc (Nat.le_refl _) _).trans (hb.mono (by simp))⟩
    · have e1 : ck 3 s v = 41 := by
        unfold ck
        have : s < 0 ∨ 1024 ≤ s := by omega
        simp [this]
      rw [e1]
      clear e1 c2
      have c1 : ∀ W, Calls Try.prog 65 #[.int .i64 s] W fun e w' => e = .returned (.bool false) ∧ w' = W := fun W => by simpa [h1] using c1 W
      go_enter Try.func38, Try.ntmps38
      go_wp2_with (go_at_call 65; refine (c1 _).mono ?_; rintro e w' ⟨rfl, rfl⟩)
      go_ret
      exact ⟨rfl, (Below.refl w.heap.size w).alloc (Nat.le_refl _) _⟩
  by_cases k4 : k = 4
  · subst k4
    have e1 : ck 4 s v = if s ≠ 0 then 41 else if (0 : Int) < v.size then 42 else 0 := by
      unfold ck
      by_cases h : s = 0 <;> simp [h]
    have c2 := c2 4 s 0
    rw [← e1] at c2
    clear e1
    generalize ck 4 s v = r at c2 ⊢
    clear c1
    go_enter Try.func38, Try.ntmps38
    go_wp2_with (go_at_call 66; refine (c2 _).mono ?_; rintro e w' ⟨rfl, hb⟩)
    go_ret
    exact ⟨rfl, ((Below.refl w.heap.size w).alloc (Nat.le_refl _) _).trans (hb.mono (by simp))⟩
  have e1 : ck k s v = 40 := by simp [ck, k1, k2, k3, k4]
  rw [e1]
  clear e1 c1 c2
  have b1 : (k == 1) = false := by simp [k1]
  have b2 : (k == 2) = false := by simp [k2]
  have b3 : (k == 3) = false := by simp [k3]
  have b4 : (k == 4) = false := by simp [k4]
  go_enter Try.func38, Try.ntmps38
  go_wp2
  go_ret
  exact ⟨rfl, (Below.refl w.heap.size w).alloc (Nat.le_refl _) _⟩
end Go.Proofs.Yteamgkadhlbflaa
namespace Go.Proofs.Yteamgkadhlbflaa
open Go.RowKit Go.Maps
theorem grown_frozen {w w' : World} {row : Option Nat} (hg : w.grownBy w' row) {a : Addr} (hl : a.block < w.heap.size) (hne : some a.block ≠ row) : w'.frozen? a = w.frozen? a :=
  World.frozen?_of_block (w := w) (hg.block a.block hl hne)
def Took (w : World) (b : Nat) (m : Option Nat) (L : List Cl) (w' : World) : Prop :=
  ∃ m', Led w' b m' L ∧ (m' = m ∨ ∃ j, m' = some j ∧ w.heap.size ≤ j) ∧ Upd (LS b m) w w'
theorem took_of {w w1 : World} {b j : Nat} {m : Option Nat} {L : List Cl} {p : Cl} {x : Int} (ok : Ok (ins p L)) (hn : gv L p.1 = none) (hjb : j ≠ b) (lt : b < w1.heap.size) (hown1 : w1.ownsMap Try.prog 3 cR j (L.length + 1) ((mD L).put (.int .i64 p.1) (cD p)))
    (hu : Upd (LS b m) w w1) (c0 : w1.cell? ⟨b, 0, none⟩ = some (.map (some j))) (c1 : w1.cell? ⟨b, 1, none⟩ = some (.int .i64 (bh L))) (f0 : w1.frozen? ⟨b, 0, none⟩ = false) (f1 : w1.frozen? ⟨b, 1, none⟩ = false)
    (hx : x = max (bh L) (p.1 + 1)) (hm : m = some j ∨ w.heap.size ≤ j) : Took w b m (ins p L) (w1.setCell ⟨b, 1, none⟩ (.int .i64 x)) := by
  rw [mD_put hn] at hown1
  refine ⟨some j, ⟨ok, by simpa using lt, ?_, ?_, ?_, ?_, (fun e => by cases e), fun i e => ?_⟩, ?_, hu.setCell (.inl (.inl rfl)) _⟩
  · go_simp
  · rw [bh_ins, ← hx]
    exact World.cell?_setCell_same' _ _ _ (by rw [c1]; rfl)
  · rw [World.frozen?_setCell]; exact f0
  · rw [World.frozen?_setCell]; exact f1
  · cases e
    rw [len_ins]
    exact ⟨hjb, hown1.setCell (a := ⟨b, 1, none⟩) hjb _⟩
  · rcases hm with h | h
    · exact .inl h.symm
    · exact .inr ⟨j, rfl, h⟩
set_option maxHeartbeats 1000000 in
theorem take_any (b : Nat) (m : Option Nat) (L : List Cl) (p : Cl) (w : World) (h : Led w b m L) (hp : 0 ≤ p.1 ∧ p.1 < 1024 ∧ p.2.size ≤ 64) (hn : gv L p.1 = none) :
    Calls Try.prog 77 #[.pointer (some ⟨b, 0, none⟩), .int .i64 p.1, .string p.2] w fun e w' => e = .returned (.tuple #[]) ∧ Took w b m (ins p L) w' := by
  have hok := hide (h.ok.ins hp hn)
  have hnn := hide hn
  obtain ⟨ok, lt, c0, c1, f0, f1, nn, sm⟩ := h
  obtain ⟨s, v⟩ := p
  dsimp only at hp hn ⊢
  have hll := ok.len_le
  have hbh := ok.bh_le
  have hb0 := bh_nonneg L
  have hkey := keyOf_int_mk Try.underlying3 (wf_i64 (a := s) (by omega))
  have q : ∀ (w : World) (r : Option Nat), (binOp .eql 159 (.map r) (.map none)).run Try.prog w = .ok (.bool r.isNone) w := fun w r => run_eql_map_nil w _ _ _ r Try.underlying159
  have hmm := @run_makeMap Try.prog
  cases m with
  | some j =>
    obtain ⟨hjb, hown⟩ := sm j rfl
    clear nn sm
    go_enter Try.func77, Try.ntmps77
    go_wp2_with (first
      | (at_mapUpdate; refine wpList_mapUpdate_own _ rfl _ _ _ 159 rfl 3 111 keyed Try.underlying159 _ j L.length (mD L) rfl hown (by unfold maxLen; omega) _ _ _ rfl rfl hkey (cD (s, v)) [] (cR_mk (s, v)) ?_; intro w1 hown1 hg1; have d1 := hg1.cell c1 (by simp; omega); have e1 := (grown_frozen (a := ⟨b, 1, none⟩) hg1 lt (by simp; omega)).trans f1)
      | go_in)
    all_goals
      go_end0
      refine ⟨rfl, took_of hok.out hnn.out hjb (Nat.lt_of_lt_of_le lt hg1.size) hown1 ((Upd.refl _ w).grownBy hg1 (fun k e _ => .inr e)) (hg1.cell c0 (by simp; omega)) d1 ((grown_frozen (a := ⟨b, 0, none⟩) hg1 lt (by simp; omega)).trans f0) e1 (by dsimp only; omega) (.inl rfl)⟩
  | none =>
    obtain rfl := nn rfl
    clear nn sm
    have hown := World.ownsMap_made (H := Unit) (w.setCell ⟨b, 0, none⟩ (.map (some w.heap.size))) Try.prog 3 cR
    rw [show (w.setCell ⟨b, 0, none⟩ (.map (some w.heap.size))).heap.size = w.heap.size by simp [World.setCell]] at hown
    have k0 : ((w.setCell ⟨b, 0, none⟩ (.map (some w.heap.size))).alloc (.map #[] 0)).cell? ⟨b, 0, none⟩ = some (.map (some w.heap.size)) := by go_simp
    have k1 : ((w.setCell ⟨b, 0, none⟩ (.map (some w.heap.size))).alloc (.map #[] 0)).cell? ⟨b, 1, none⟩ = some (.int .i64 (bh [])) := by go_simp
    have j0 : ((w.setCell ⟨b, 0, none⟩ (.map (some w.heap.size))).alloc (.map #[] 0)).frozen? ⟨b, 0, none⟩ = false := by go_simp
    have j1 : ((w.setCell ⟨b, 0, none⟩ (.map (some w.heap.size))).alloc (.map #[] 0)).frozen? ⟨b, 1, none⟩ = false := by go_simp
    have hu : Upd (LS b none) w ((w.setCell ⟨b, 0, none⟩ (.map (some w.heap.size))).alloc (.map #[] 0)) := ((Upd.refl _ w).setCell (.inl (.inl rfl)) _).alloc _
    have hs : ((w.setCell ⟨b, 0, none⟩ (.map (some w.heap.size))).alloc (.map #[] 0)).heap.size = w.heap.size + 1 := by simp [World.setCell]
    have khs := hide hs
    have ku := hide hu
    have kk0 := hide k0
    have kj0 := hide j0
    clear hs hu k0 j0
    go_enter Try.func77, Try.ntmps77
    go_wp2_with (first
      | (at_mapUpdate; refine wpList_mapUpdate_own _ rfl _ _ _ 159 rfl 3 111 keyed Try.underlying159 _ w.heap.size 0 (mD []) rfl hown (by unfold maxLen; omega) _ _ _ rfl rfl hkey (cD (s, v)) [] (cR_mk (s, v)) ?_; intro w1 hown1 hg1; have d1 := hg1.cell k1 (by simp; omega); have e1 := (grown_frozen (a := ⟨b, 1, none⟩) hg1 (by have := khs.out; dsimp only; omega) (by simp; omega)).trans j1)
      | go_in)
    all_goals
      go_end0
      refine ⟨rfl, took_of hok.out hnn.out (j := w.heap.size) (by omega) (Nat.lt_of_lt_of_le (by have := khs.out; omega) hg1.size) hown1 (ku.out.grownBy hg1 (fun k e hk => by cases e; omega)) (hg1.cell kk0.out (by simp; omega)) d1 ((grown_frozen (a := ⟨b, 0, none⟩) hg1 (by have := khs.out; dsimp only; omega) (by simp; omega)).trans kj0.out) e1 (by have : bh [] = 0 := rfl; dsimp only; omega) (.inr (Nat.le_refl _))⟩
end Go.Proofs.Yteamgkadhlbflaa
namespace Go.Proofs.Yteamgkadhlbflaa
open Go.RowKit Go.Maps
theorem look_vals (L : List Cl) (s : Int) : ∃ (t : Int) (x : ByteArray) (tk : Bool), gv L s = (if tk then some x else none) ∧ (match gv L s with | some x => cV (s, x) | none => cV (0, ByteArray.empty)) = .agg #[.int .i64 t, .string x] ∧ (gv L s).isSome = tk := by
  cases h : gv L s with
  | none => exact ⟨0, ByteArray.empty, false, rfl, rfl, rfl⟩
  | some x => exact ⟨s, x, true, rfl, rfl, rfl⟩
theorem box_facts {w w1 : World} {k s : Int} {v e : ByteArray} {T1 T2 : TypeId} (hb : Below ((w.alloc (.cells #[.int .i64 k, .int .i64 s, .string v] T1)).alloc (.cells #[.int .i64 0, .int .i64 0, .string e] T2)).heap.size ((w.alloc (.cells #[.int .i64 k, .int .i64 s, .string v] T1)).alloc (.cells #[.int .i64 0, .int .i64 0, .string e] T2)) w1) :
    w1.cell? ⟨w.heap.size, 0, none⟩ = some (.int .i64 k) ∧ w1.cell? ⟨w.heap.size, 1, none⟩ = some (.int .i64 s) ∧ w1.cell? ⟨w.heap.size, 2, none⟩ = some (.string v) ∧
    w1.cell? ⟨w.heap.size + 1, 0, none⟩ = some (.int .i64 0) ∧ w1.cell? ⟨w.heap.size + 1, 1, none⟩ = some (.int .i64 0) ∧ w1.cell? ⟨w.heap.size + 1, 2, none⟩ = some (.string e) ∧
    w1.frozen? ⟨w.heap.size + 1, 0, none⟩ = false ∧ w1.frozen? ⟨w.heap.size + 1, 1, none⟩ = false ∧ w1.frozen? ⟨w.heap.size + 1, 2, none⟩ = false := by
  refine ⟨(hb.cell (p := ⟨w.heap.size, 0, none⟩) ?_).trans ?_, (hb.cell (p := ⟨w.heap.size, 1, none⟩) ?_).trans ?_, (hb.cell (p := ⟨w.heap.size, 2, none⟩) ?_).trans ?_, (hb.cell (p := ⟨w.heap.size + 1, 0, none⟩) ?_).trans ?_, (hb.cell (p := ⟨w.heap.size + 1, 1, none⟩) ?_).trans ?_, (hb.cell (p := ⟨w.heap.size + 1, 2, none⟩) ?_).trans ?_, (hb.frozen (p := ⟨w.heap.size + 1, 0, none⟩) ?_).trans ?_, (hb.frozen (p := ⟨w.heap.size + 1, 1, none⟩) ?_).trans ?_, (hb.frozen (p := ⟨w.heap.size + 1, 2, none⟩) ?_).trans ?_⟩
  all_goals first | (simp; omega) | simp | go_simp
set_option maxHeartbeats 2000000 in
theorem would_any (b : Nat) (m : Option Nat) (L : List Cl) (o : Opn) (ho : o.fits) (w : World) (h : Led w b m L) :
    Calls Try.prog 62 #[.pointer (some ⟨b, 0, none⟩), o.val] w fun e w' => e = .returned (rV (wd L o.k o.s o.v)) ∧ Below w.heap.size w w' := by
  have cc := fun W => check_any o ho W
  have hh := hide h
  have hsw := ho.sw
  obtain ⟨k, s, v⟩ := o
  dsimp only [Opn.val] at cc hsw ⊢
  by_cases hc : ck k s v = 0
  · rw [hc] at cc
    obtain ⟨t, x, tk, hg, hl1, hl2⟩ := look_vals L s
    have hlook : ∀ W, Led W b m L → (Instr.lookup 159 (.map m) (.int .i64 s) true).run Try.prog W = .ok (.tuple #[.agg #[.int .i64 t, .string x], .bool tk]) W := fun W hL => by
      refine (look_any W m L.length L s hL.nn (fun j e => (hL.sm j e).2) hsw).trans ?_
      rw [hl2]
      exact congrArg (fun y => Result.ok (Value.tuple #[y, .bool tk]) W) hl1
    have hlen : ∀ W, Led W b m L → ∀ ty, (Builtin.len_ #[159] ty #[.map m]).run Try.prog W = .ok (.int .i64 L.length) W := fun W hL ty => len_any W m L.length L hL.nn (fun j e => (hL.sm j e).2) ty
    have ci := fun W => isslot_any (bh L) W
    have hr : wd L k s v = if k = 1 then (if tk then (2, s, x) else (1, s, v)) else if k = 2 then (if bh L < 1024 then (1, bh L, v) else (3, 0, ByteArray.empty)) else if k = 3 then (if tk then (4, s, x) else (5, s, ByteArray.empty)) else (6, L.length, ByteArray.empty) := by
      unfold wd
      rw [hg]
      cases tk <;> simp [hc]
    rw [hr]
    have k4 : k = 1 ∨ k = 2 ∨ k = 3 ∨ k = 4 := by
      unfold ck at hc
      by_cases a1 : k = 1 ∨ k = 3
      · omega
      · by_cases a2 : k = 2 ∨ k = 4
        · omega
        · simp [a1, a2] at hc
    clear hr hl1 hl2 hg hc h
    go_enter Try.func62, Try.ntmps62
    go_wp2_with (go_at_call 38; refine (cc _).mono ?_; rintro e w1 ⟨rfl, hb⟩; obtain ⟨y0, y1, y2, z0, z1, z2, zf0, zf1, zf2⟩ := box_facts hb)
    have hsz : w.heap.size + 2 ≤ w1.heap.size := by simpa using hb.size
    have L1 : Led w1 b m L := hh.out.upd (S := fun _ => False) (((((Upd.refl _ w).alloc _).alloc _).trans (Upd.of_below hb))) id (fun _ _ => id)
    have KS : ∀ v', Below w1.heap.size w1 v' → (Below w1.heap.size w1 v' ∧ v'.cell? ⟨b, 0, none⟩ = some (.map m) ∧ v'.cell? ⟨w.heap.size, 1, none⟩ = some (.int .i64 s) ∧ (Instr.lookup 159 (.map m) (.int .i64 s) true).run Try.prog v' = .ok (.tuple #[.agg #[.int .i64 t, .string x], .bool tk]) v') := fun v' b' => by
      have L2 : Led v' b m L := L1.upd (S := fun _ => False) (Upd.of_below b') id (fun _ _ => id)
      exact ⟨b', L2.c0, (b'.cell (p := ⟨w.heap.size, 1, none⟩) (by dsimp only; omega)).trans y1, hlook v' L2⟩
    have KH := hide KS
    clear KS
    go_region_held3 (fun v' => Below w1.heap.size w1 v' ∧ v'.cell? ⟨b, 0, none⟩ = some (.map m) ∧ v'.cell? ⟨w.heap.size, 1, none⟩ = some (.int .i64 s) ∧ (Instr.lookup 159 (.map m) (.int .i64 s) true).run Try.prog v' = .ok (.tuple #[.agg #[.int .i64 t, .string x], .bool tk]) v')
      ((refine KH.out _ ?_; repeat (first | exact Below.refl _ _ | assumption | refine Below.drew ?_ | refine Below.alloc ?_ (by simp) _ | refine Below.setCell ?_ (by simp) _)))
      (fail)
    all_goals
      have b2 : Below w1.heap.size w1 (w1.alloc (.cells #[.int .i64 t, .string x] 111)).drew := ((Below.refl _ w1).alloc (Nat.le_refl _) _).drew
      have tf0 : (w1.alloc (.cells #[.int .i64 t, .string x] 111)).drew.cell? ⟨w1.heap.size, 1, none⟩ = some (.string x) := by go_simp
      generalize (w1.alloc (.cells #[.int .i64 t, .string x] 111)).drew = W2 at b2 tf0 ⊢
      have hb3 := hb.trans (b2.mono (by simpa using hsz))
      have L2 : Led W2 b m L := L1.upd (S := fun _ => False) (Upd.of_below b2) id (fun _ _ => id)
      clear y0 y1 y2 z0 z1 z2 zf0 zf1 zf2
      obtain ⟨y0, y1, y2, z0, z1, z2, zf0, zf1, zf2⟩ := box_facts hb3
      have hb4 : Below w.heap.size w W2 := (((Below.refl w.heap.size w).alloc (Nat.le_refl _) _).alloc (by simp) _).trans (hb3.mono (by simp; omega))
      have d0 := L2.c0
      have d1 := L2.c1
      have hll := hlen _ L2
      have hb5 := hide hb4
      clear hb hb3 hb4 b2 hlook hlen KH cc
      rcases k4 with rfl | rfl | rfl | rfl
      · cases tk
        · go_wp2
          refine bodyPost_ret (v := rV (1, s, v)) (by simp [results, Try.results62, go_sem, rV, *] <;> rfl) rfl ⟨rfl, ?_⟩
          exact ((hb5.out.setCell (p := ⟨w.heap.size + 1, 0, none⟩) (by simp) _).setCell (p := ⟨w.heap.size + 1, 1, none⟩) (by simp) _).setCell (p := ⟨w.heap.size + 1, 2, none⟩) (by simp) _
        · go_wp2
          refine bodyPost_ret (v := rV (2, s, x)) (by simp [results, Try.results62, go_sem, rV, *] <;> rfl) rfl ⟨rfl, ?_⟩
          exact ((hb5.out.setCell (p := ⟨w.heap.size + 1, 0, none⟩) (by simp) _).setCell (p := ⟨w.heap.size + 1, 1, none⟩) (by simp) _).setCell (p := ⟨w.heap.size + 1, 2, none⟩) (by simp) _
      · by_cases hbh : bh L < 1024
        · have h0 := bh_nonneg L
          have ci : ∀ W, Calls Try.prog 65 #[.int .i64 (bh L)] W fun e w' => e = .returned (.bool true) ∧ w' = W := fun W => by simpa [hbh, h0] using ci W
          go_wp2_with (go_at_call 65; refine (ci _).mono ?_; rintro e w' ⟨rfl, rfl⟩)
          have nb : b ≠ w.heap.size + 1 := by have := hh.out.lt; omega
          have nb' : ¬ (w.heap.size + 1 = b) := fun e => nb e.symm
          go_region_held3 (fun v' => v'.cell? ⟨b, 1, none⟩ = some (.int .i64 (bh L)) ∧ v'.cell? ⟨w.heap.size, 2, none⟩ = some (.string v)) (first | go_keep | (exact ⟨by go_simp, by go_simp⟩)) (fail)
          go_wp2
          refine bodyPost_ret (v := rV (1, bh L, v)) (by simp [results, Try.results62, go_sem, rV, *] <;> rfl) rfl ⟨rfl, ?_⟩
          exact ((hb5.out.drew.setCell (p := ⟨w.heap.size + 1, 0, none⟩) (by simp) _).setCell (p := ⟨w.heap.size + 1, 1, none⟩) (by simp) _).setCell (p := ⟨w.heap.size + 1, 2, none⟩) (by simp) _
        · have ci : ∀ W, Calls Try.prog 65 #[.int .i64 (bh L)] W fun e w' => e = .returned (.bool false) ∧ w' = W := fun W => by simpa [hbh] using ci W
          go_wp2_with (go_at_call 65; refine (ci _).mono ?_; rintro e w' ⟨rfl, rfl⟩)
          refine bodyPost_ret (v := rV (3, 0, ByteArray.empty)) (by simp [results, Try.results62, go_sem, rV, *] <;> rfl) rfl ⟨rfl, ?_⟩
          exact ((hb5.out.setCell (p := ⟨w.heap.size + 1, 0, none⟩) (by simp) _).setCell (p := ⟨w.heap.size + 1, 1, none⟩) (by simp) _).setCell (p := ⟨w.heap.size + 1, 2, none⟩) (by simp) _
      · cases tk
        · go_wp2
          refine bodyPost_ret (v := rV (5, s, ByteArray.empty)) (by simp [results, Try.results62, go_sem, rV, *] <;> rfl) rfl ⟨rfl, ?_⟩
          exact ((hb5.out.setCell (p := ⟨w.heap.size + 1, 0, none⟩) (by simp) _).setCell (p := ⟨w.heap.size + 1, 1, none⟩) (by simp) _).setCell (p := ⟨w.heap.size + 1, 2, none⟩) (by simp) _
        · go_wp2
          refine bodyPost_ret (v := rV (4, s, x)) (by simp [results, Try.results62, go_sem, rV, *] <;> rfl) rfl ⟨rfl, ?_⟩
          exact ((hb5.out.setCell (p := ⟨w.heap.size + 1, 0, none⟩) (by simp) _).setCell (p := ⟨w.heap.size + 1, 1, none⟩) (by simp) _).setCell (p := ⟨w.heap.size + 1, 2, none⟩) (by simp) _
      · go_wp2
        refine bodyPost_ret (v := rV (6, (L.length : Int), ByteArray.empty)) (by simp [results, Try.results62, go_sem, rV, *] <;> rfl) rfl ⟨rfl, ?_⟩
        exact ((hb5.out.setCell (p := ⟨w.heap.size + 1, 0, none⟩) (by simp) _).setCell (p := ⟨w.heap.size + 1, 1, none⟩) (by simp) _).setCell (p := ⟨w.heap.size + 1, 2, none⟩) (by simp) _
  · have hr : wd L k s v = (0, 0, ByteArray.empty) := by simp [wd, hc]
    rw [hr]
    have hne : (ck k s v == 0) = false := by simp [hc]
    clear hr
    go_enter Try.func62, Try.ntmps62
    go_wp2_with (go_at_call 38; refine (cc _).mono ?_; rintro e w1 ⟨rfl, hb⟩; obtain ⟨y0, y1, y2, z0, z1, z2, zf0, zf1, zf2⟩ := box_facts hb)
    have hb5 : Below w.heap.size w w1 := (((Below.refl w.heap.size w).alloc (Nat.le_refl _) _).alloc (by simp) _).trans (hb.mono (by simp; omega))
    refine bodyPost_ret (v := rV (0, 0, ByteArray.empty)) (by simp [results, Try.results62, go_sem, rV, *] <;> rfl) rfl ⟨rfl, ?_⟩
    exact ((hb5.setCell (p := ⟨w.heap.size + 1, 0, none⟩) (by simp) _).setCell (p := ⟨w.heap.size + 1, 1, none⟩) (by simp) _).setCell (p := ⟨w.heap.size + 1, 2, none⟩) (by simp) _
end Go.Proofs.Yteamgkadhlbflaa
namespace Go.Proofs.Yteamgkadhlbflaa
open Go.RowKit Go.Maps
theorem Took.wrap {w wa wb wc : World} {b : Nat} {m : Option Nat} {L : List Cl} (hu : Upd (fun _ => False) w wa) (t : Took wa b m L wb) (hlt : b < w.heap.size) (hm : ∀ j, m = some j → j < w.heap.size) (hc : Upd (fun i => w.heap.size ≤ i ∧ i < wa.heap.size) wb wc) : Took w b m L wc := by
  obtain ⟨m', hl, hmm, hup⟩ := t
  have hle := hu.size
  have h1 : Upd (LS b m) w wb := (hu.mono (fun _ _ h => h.elim)).trans hup
  refine ⟨m', hl.upd hc (by omega) (fun j e => ?_), ?_, ⟨hc.os.trans h1.os, hc.tape.trans h1.tape, hc.output.trans h1.output, Nat.le_trans h1.size hc.size, fun k hk hs => ?_⟩⟩
  · rcases hmm with h | ⟨i, h, hi⟩
    · have := hm j (h ▸ e); omega
    · rw [h] at e; cases e; omega
  · rcases hmm with h | ⟨i, h, hi⟩
    · exact .inl h
    · exact .inr ⟨i, h, by omega⟩
  · exact (hc.block k (Nat.lt_of_lt_of_le hk h1.size) (by omega)).trans (h1.block k hk hs)
theorem Took.upd {w w' : World} {b : Nat} {m : Option Nat} {L : List Cl} (t : Took w b m L w') : Upd (LS b m) w w' := by
  obtain ⟨_, _, _, h⟩ := t
  exact h
theorem Took.same {w w' : World} {b : Nat} {m : Option Nat} {L : List Cl} (h : Led w b m L) (hb : Below w.heap.size w w') : Took w b m L w' :=
  ⟨m, h.upd (S := fun _ => False) (Upd.of_below hb) id (fun _ _ => id), .inl rfl, (Upd.of_below (S := fun _ => False) hb).mono (fun _ _ h => h.elim)⟩
theorem box_facts2 {w w1 w2 : World} {k s : Int} {v e : ByteArray} {T1 T2 : TypeId} {rc rs : Int} {rv : ByteArray} {T3 : TypeId} {b : Nat} {m : Option Nat} (hb : Below ((w.alloc (.cells #[.int .i64 k, .int .i64 s, .string v] T1)).alloc (.cells #[.int .i64 0, .int .i64 0, .string e] T2)).heap.size ((w.alloc (.cells #[.int .i64 k, .int .i64 s, .string v] T1)).alloc (.cells #[.int .i64 0, .int .i64 0, .string e] T2)) w1)
    (u : Upd (LS b m) (w1.alloc (.cells #[.int .i64 rc, .int .i64 rs, .string rv] T3)) w2) (hlt : b < w.heap.size) (hm : ∀ j, m = some j → j < w.heap.size) :
    w2.cell? ⟨w1.heap.size, 0, none⟩ = some (.int .i64 rc) ∧ w2.cell? ⟨w1.heap.size, 1, none⟩ = some (.int .i64 rs) ∧ w2.cell? ⟨w1.heap.size, 2, none⟩ = some (.string rv) ∧
    w2.cell? ⟨w.heap.size + 1, 0, none⟩ = some (.int .i64 0) ∧ w2.cell? ⟨w.heap.size + 1, 1, none⟩ = some (.int .i64 0) ∧ w2.cell? ⟨w.heap.size + 1, 2, none⟩ = some (.string e) ∧
    w2.frozen? ⟨w.heap.size + 1, 0, none⟩ = false ∧ w2.frozen? ⟨w.heap.size + 1, 1, none⟩ = false ∧ w2.frozen? ⟨w.heap.size + 1, 2, none⟩ = false := by
  obtain ⟨_, _, _, z0, z1, z2, zf0, zf1, zf2⟩ := box_facts hb
  have hs : w.heap.size + 2 ≤ w1.heap.size := by simpa using hb.size
  have hn : ∀ i, w.heap.size ≤ i → ¬ LS b m i := fun i hi h => by
    rcases h with h | h
    · omega
    · have := hm i h; omega
  have n0 : w.heap.size + 1 ≠ w1.heap.size := by omega
  have n1 : ¬ LS b m w1.heap.size := hn _ (by omega)
  have n2 : ¬ LS b m (w.heap.size + 1) := hn _ (by omega)
  have b1 := (Below.refl w1.heap.size w1).alloc (Nat.le_refl _) (.cells #[.int .i64 rc, .int .i64 rs, .string rv] T3)
  exact ⟨(u.cell (p := ⟨w1.heap.size, 0, none⟩) (by simp) n1).trans (by go_simp), (u.cell (p := ⟨w1.heap.size, 1, none⟩) (by simp) n1).trans (by go_simp), (u.cell (p := ⟨w1.heap.size, 2, none⟩) (by simp) n1).trans (by go_simp), (u.cell (p := ⟨w.heap.size + 1, 0, none⟩) (by simp; omega) n2).trans ((b1.cell (p := ⟨w.heap.size + 1, 0, none⟩) (by dsimp only; omega)).trans z0), (u.cell (p := ⟨w.heap.size + 1, 1, none⟩) (by simp; omega) n2).trans ((b1.cell (p := ⟨w.heap.size + 1, 1, none⟩) (by dsimp only; omega)).trans z1), (u.cell (p := ⟨w.heap.size + 1, 2, none⟩) (by simp; omega) n2).trans ((b1.cell (p := ⟨w.heap.size + 1, 2, none⟩) (by dsimp only; omega)).trans z2), (u.frozen (p := ⟨w.heap.size + 1, 0, none⟩) (by simp; omega) n2).trans ((b1.frozen (p := ⟨w.heap.size + 1, 0, none⟩) (by dsimp only; omega)).trans zf0), (u.frozen (p := ⟨w.heap.size + 1, 1, none⟩) (by simp; omega) n2).trans ((b1.frozen (p := ⟨w.heap.size + 1, 1, none⟩) (by dsimp only; omega)).trans zf1), (u.frozen (p := ⟨w.heap.size + 1, 2, none⟩) (by simp; omega) n2).trans ((b1.frozen (p := ⟨w.heap.size + 1, 2, none⟩) (by dsimp only; omega)).trans zf2)⟩
set_option maxHeartbeats 2000000 in
theorem do_any (b : Nat) (m : Option Nat) (L : List Cl) (o : Opn) (ho : o.fits) (w : World) (h : Led w b m L) :
    Calls Try.prog 58 #[.pointer (some ⟨b, 0, none⟩), o.val] w fun e w' => e = .returned (rV (wd L o.k o.s o.v)) ∧ Took w b m (dn L o.k o.s o.v) w' := by
  have cw := fun W hW => would_any b m L o ho W hW
  have hh := hide h
  have hlt := h.lt
  have hml : ∀ j, m = some j → j < w.heap.size := fun j e => h.mlt e
  have hmh := hide hml
  clear hml
  have hok := h.ok
  have hwr := fun e => wd_written hok (k := o.k) (s := o.s) (v := o.v) e
  have hdn : dn L o.k o.s o.v = if (wd L o.k o.s o.v).1 = 1 then ins (wd L o.k o.s o.v).2 L else L := rfl
  rw [hdn]
  clear hdn
  obtain ⟨k, s, v⟩ := o
  dsimp only [Opn.val] at cw hwr ⊢
  generalize wd L k s v = r at cw hwr ⊢
  obtain ⟨rc, rs, rv⟩ := r
  dsimp only [rV] at cw hwr ⊢
  by_cases hr : rc = 1
  · subst hr
    obtain ⟨g0, g1, g2, g3, g4⟩ := hwr rfl
    subst g2
    have ct := fun W hW => take_any b m L (rs, rv) W hW ⟨g0, g1, g3⟩ g4
    dsimp only at ct
    have hT : (if (1 : Int) = 1 then ins (rs, rv) L else L) = ins (rs, rv) L := by simp
    rw [hT]
    clear hT hwr
    go_enter Try.func58, Try.ntmps58
    go_wp2_with (first
      | (go_at_call 62; refine (cw _ (hh.out.upd (S := fun _ => False) (((Upd.refl _ w).alloc _).alloc _) id (fun _ _ => id))).mono ?_; rintro e w1 ⟨rfl, hb⟩)
      | (go_at_call 77; refine (ct _ (hh.out.upd (S := fun _ => False) ((((Upd.refl _ w).alloc _).alloc _).trans ((Upd.of_below hb).alloc _)) id (fun _ _ => id))).mono ?_; rintro e w2 ⟨rfl, ht⟩; obtain ⟨x0, x1, x2, z0, z1, z2, zf0, zf1, zf2⟩ := box_facts2 hb ht.upd hlt hmh.out))
    have hs2 : w.heap.size + 2 ≤ w1.heap.size := by simpa using hb.size
    refine bodyPost_ret (v := .agg #[.int .i64 1, .int .i64 rs, .string rv]) (by simp [results, Try.results58, go_sem, *]) rfl ⟨rfl, ?_⟩
    refine ht.wrap ((((Upd.refl _ w).alloc _).alloc _).trans ((Upd.of_below hb).alloc _)) hlt hmh.out ?_
    exact (((Upd.refl _ w2).setCell (p := ⟨w.heap.size + 1, 0, none⟩) (.inl ⟨by simp, by simp; omega⟩) _).setCell (p := ⟨w.heap.size + 1, 1, none⟩) (.inl ⟨by simp, by simp; omega⟩) _).setCell (p := ⟨w.heap.size + 1, 2, none⟩) (.inl ⟨by simp, by simp; omega⟩) _
  · have hT : (if rc = 1 then ins (rs, rv) L else L) = L := by simp [hr]
    rw [hT]
    have hne : (rc == 1) = false := by simp [hr]
    clear hT hwr
    go_enter Try.func58, Try.ntmps58
    go_wp2_with (go_at_call 62; refine (cw _ (hh.out.upd (S := fun _ => False) (((Upd.refl _ w).alloc _).alloc _) id (fun _ _ => id))).mono ?_; rintro e w1 ⟨rfl, hb⟩; obtain ⟨_, _, _, z0, z1, z2, zf0, zf1, zf2⟩ := box_facts2 hb (Upd.refl (LS b m) (w1.alloc (.cells #[.int .i64 rc, .int .i64 rs, .string rv] 43))) hlt hmh.out)
    have hs2 : w.heap.size + 2 ≤ w1.heap.size := by simpa using hb.size
    refine bodyPost_ret (v := .agg #[.int .i64 rc, .int .i64 rs, .string rv]) (by simp [results, Try.results58, go_sem, *]) rfl ⟨rfl, Took.same hh.out ?_⟩
    have hb5 : Below w.heap.size w w1 := (((Below.refl w.heap.size w).alloc (Nat.le_refl _) _).alloc (by simp) _).trans (hb.mono (by simp; omega))
    repeat (first | exact hb5 | refine Below.alloc ?_ (by first | assumption | (simp [World.setCell]; omega) | omega) _ | refine Below.setCell ?_ (by first | (simp; done) | (simp; omega)) _)
end Go.Proofs.Yteamgkadhlbflaa
namespace Go.Proofs.Yteamgkadhlbflaa
open Go.RowKit Go.Maps
theorem bytes_inj (a b : ByteArray) : a.toList = b.toList ↔ a = b := by
  rw [ByteArray.toList_eq, ByteArray.toList_eq]
  obtain ⟨⟨x⟩⟩ := a
  obtain ⟨⟨y⟩⟩ := b
  simp
theorem eql_res (r r' : Rs) (w : World) : (binOp .eql 43 (.agg #[.int .i64 r.1, .int .i64 r.2.1, .string r.2.2]) (.agg #[.int .i64 r'.1, .int .i64 r'.2.1, .string r'.2.2])).run Try.prog w = .ok (.bool (decide (r = r'))) w := by
  go_simp
  obtain ⟨a, b, c⟩ := r
  obtain ⟨a', b', c'⟩ := r'
  dsimp only
  by_cases e1 : a = a' <;> by_cases e2 : b = b' <;> by_cases e3 : c = c' <;> simp [e1, e2, e3, bytes_inj]
theorem neq_res (r r' : Rs) (w : World) : (binOp .neq 43 (.agg #[.int .i64 r.1, .int .i64 r.2.1, .string r.2.2]) (.agg #[.int .i64 r'.1, .int .i64 r'.2.1, .string r'.2.2])).run Try.prog w = .ok (.bool (!decide (r = r'))) w := by
  go_simp
  obtain ⟨a, b, c⟩ := r
  obtain ⟨a', b', c'⟩ := r'
  dsimp only
  by_cases e1 : a = a' <;> by_cases e2 : b = b' <;> by_cases e3 : c = c' <;> simp [e1, e2, e3, bytes_inj]
theorem lenm_any (b : Nat) (m : Option Nat) (L : List Cl) (w : World) (h : Led w b m L) :
    Calls Try.prog 78 #[.pointer (some ⟨b, 0, none⟩)] w fun e w' => e = .returned (.int .i64 L.length) ∧ w' = w := by
  have d0 := h.c0
  have hl := len_any w m L.length L h.nn (fun j e => (h.sm j e).2)
  clear h
  go_enter Try.func78, Try.ntmps78
  go_wp2
  go_ret
  exact ⟨rfl, rfl⟩
theorem check3 (k s : Int) (v : ByteArray) (hf : (⟨k, s, v⟩ : Opn).fits) (W : World) : Calls Try.prog 38 #[.agg #[.int .i64 k, .int .i64 s, .string v]] W fun e w' => e = .returned (.int .i64 (ck k s v)) ∧ Below W.heap.size W w' := check_any ⟨k, s, v⟩ hf W
theorem do3 (b : Nat) (m : Option Nat) (L : List Cl) (k s : Int) (v : ByteArray) (hf : (⟨k, s, v⟩ : Opn).fits) (W : World) (hW : Led W b m L) : Calls Try.prog 58 #[.pointer (some ⟨b, 0, none⟩), .agg #[.int .i64 k, .int .i64 s, .string v]] W fun e w' => e = .returned (.agg #[.int .i64 (wd L k s v).1, .int .i64 (wd L k s v).2.1, .string (wd L k s v).2.2]) ∧ Took W b m (dn L k s v) w' := do_any b m L ⟨k, s, v⟩ hf W hW
theorem would3 (b : Nat) (m : Option Nat) (L : List Cl) (k s : Int) (v : ByteArray) (hf : (⟨k, s, v⟩ : Opn).fits) (W : World) (hW : Led W b m L) : Calls Try.prog 62 #[.pointer (some ⟨b, 0, none⟩), .agg #[.int .i64 k, .int .i64 s, .string v]] W fun e w' => e = .returned (.agg #[.int .i64 (wd L k s v).1, .int .i64 (wd L k s v).2.1, .string (wd L k s v).2.2]) ∧ Below W.heap.size W w' := would_any b m L ⟨k, s, v⟩ hf W hW
def LedB (B : Nat) (w0 w : World) (b : Nat) (L : List Cl) : Prop := ∃ m, Led w b m L ∧ B ≤ b ∧ (∀ j, m = some j → B ≤ j) ∧ Below B w0 w
theorem LedB.bel {B b : Nat} {w0 w : World} {L : List Cl} (h : LedB B w0 w b L) : Below B w0 w := by obtain ⟨m, _, _, _, h⟩ := h; exact h
theorem LedB.lt {B b : Nat} {w0 w : World} {L : List Cl} (h : LedB B w0 w b L) : B ≤ b ∧ b < w.heap.size := by obtain ⟨m, h, hb, _⟩ := h; exact ⟨hb, h.lt⟩
theorem LedB.on {B b : Nat} {w0 w w' : World} {L : List Cl} (h : LedB B w0 w b L) (hb : Below w.heap.size w w') : LedB B w0 w' b L := by
  obtain ⟨m, h1, h2, h3, h4⟩ := h
  exact ⟨m, h1.upd (S := fun _ => False) (Upd.of_below hb) id (fun _ _ => id), h2, h3, h4.trans (hb.mono (by have := h1.lt; omega))⟩
theorem new_b (B : Nat) (w0 w : World) (h : Below B w0 w) (hs : B ≤ w.heap.size) : Calls Try.prog 57 #[] w fun e w' => e = .returned (.pointer (some ⟨w.heap.size, 0, none⟩)) ∧ LedB B w0 w' w.heap.size [] ∧ w'.heap.size = w.heap.size + 1 :=
  (new_any w).mono fun e w' ⟨he, hl, hu, hz⟩ => ⟨he, ⟨none, hl, hs, (fun j e => by cases e), h.trans (hu.below hs (fun k hk => hk.elim))⟩, hz⟩
end Go.Proofs.Yteamgkadhlbflaa
namespace Go.Proofs.Yteamgkadhlbflaa
open Go.RowKit Go.Maps
def ccs : List Cl → List Value
  | [] => []
  | d :: r => .int .i64 d.1 :: .string d.2 :: ccs r
theorem ccs_length : ∀ l : List Cl, (ccs l).length = l.length * 2
  | [] => rfl
  | d :: r => by simp only [ccs, List.length_cons, ccs_length r]; omega
theorem ccs_append : ∀ l m : List Cl, ccs (l ++ m) = ccs l ++ ccs m
  | [], m => rfl
  | d :: r, m => by simp only [ccs, List.cons_append, ccs_append r m]
theorem ccs_get0 : ∀ (l : List Cl) (i : Nat) (d : Cl), l[i]? = some d → (ccs l)[i * 2]? = some (.int .i64 d.1)
  | [], i, d, h => by simp at h
  | x :: r, 0, d, h => by simp at h; subst h; simp [ccs]
  | x :: r, i + 1, d, h => by
    have e : (i + 1) * 2 = i * 2 + 1 + 1 := by omega
    rw [e]
    simp only [ccs, List.getElem?_cons_succ] at h ⊢
    exact ccs_get0 r i d h
theorem ccs_get1 : ∀ (l : List Cl) (i : Nat) (d : Cl), l[i]? = some d → (ccs l)[i * 2 + 1]? = some (.string d.2)
  | [], i, d, h => by simp at h
  | x :: r, 0, d, h => by simp at h; subst h; simp [ccs]
  | x :: r, i + 1, d, h => by
    have e : (i + 1) * 2 + 1 = i * 2 + 1 + 1 + 1 := by omega
    rw [e]
    simp only [ccs, List.getElem?_cons_succ] at h ⊢
    exact ccs_get1 r i d h
def OwnC (B : Nat) (w : World) (v : Value) (l : List Cl) : Prop := w.ownsRow B 111 2 v l.length (ccs l)
theorem OwnC.alloc {B : Nat} {w : World} {v : Value} {l : List Cl} (h : OwnC B w v l) (o : Obj) : OwnC B (w.alloc o) v l := World.ownsRow.alloc h o
theorem OwnC.form {B : Nat} {w : World} {v : Value} {l : List Cl} (h : OwnC B w v l) : ∃ a c, v = .slice a l.length c ∧ l.length ≤ c ∧ c ≤ maxLen ∧ (a = none → l = [] ∧ c = 0) ∧ ∀ x, a = some x → ∃ g, x = ⟨g, 0, none⟩ ∧ B ≤ g ∧ g < w.heap.size := by
  rcases h.2 with ⟨e1, e2⟩ | ⟨g, cap, cur, e1, e2, e3, e4, e5, _⟩
  · exact ⟨none, 0, by rw [e1, e2], by omega, by unfold maxLen; omega, fun _ => ⟨List.eq_nil_of_length_eq_zero e2, rfl⟩, fun x hx => by cases hx⟩
  · refine ⟨some ⟨g, 0, none⟩, cap, e1, e4, e5, (fun hx => by cases hx), fun x hx => ?_⟩
    cases hx
    refine ⟨g, rfl, e2, ?_⟩
    rcases Nat.lt_or_ge g w.heap.size with h' | h'
    · exact h'
    · rw [Array.getElem?_eq_none h'] at e3; cases e3
theorem OwnC.cell {B : Nat} {w : World} {g n c : Nat} {l : List Cl} (h : OwnC B w (.slice (some ⟨g, 0, none⟩) n c) l) (i : Nat) (d : Cl) (hd : l[i]? = some d) : w.cell? ⟨g, i * 2, none⟩ = some (.int .i64 d.1) ∧ w.cell? ⟨g, i * 2 + 1, none⟩ = some (.string d.2) := by
  have h0 := World.ownsRow.cells h (g := g) rfl _ _ (ccs_get0 l i d hd)
  have h1 := World.ownsRow.cells h (g := g) rfl _ _ (ccs_get1 l i d hd)
  rw [Addr.add_lit, Nat.zero_add] at h0 h1
  exact ⟨h0, h1⟩
theorem info_cell : (Try.prog.info? 111).map (fun i => (i.zero, i.size, i.bytes)) = some (some (.agg #[.int .i64 0, .string ByteArray.empty]), 2, 24) := by kernel_rfl
theorem info_parts {P : Program} {t : TypeId} {z : Option Value} {s b : Nat} (h : (P.info? t).map (fun i => (i.zero, i.size, i.bytes)) = some (z, s, b)) : ∃ i, P.info? t = some i ∧ i.zero = z ∧ i.size = s ∧ i.bytes = b := by
  cases h2 : P.info? t with
  | none => rw [h2] at h; cases h
  | some i =>
    rw [h2] at h
    simp at h
    exact ⟨i, rfl, h.1, h.2.1, h.2.2⟩
theorem app_cell (w : World) {ops : Array Oper} {rest : List Oper} {o : Oper} {a : Act} {Q : Exit → Act → World → Prop} (hgd : o.guard = none) (s x : Operand)
    (ho : o.op = .call { callee := .builtin .append, args := #[s, x], argTypes := #[48, 48] }) (B : Nat) (l : List Cl) (v : Value) (hs : a.eval s = v)
    (ad : Addr) (hx : a.eval x = .slice (some ad) 1 1) (h : Int) (l' : ByteArray) (hc : w.cell? ad = some (.int .i64 h)) (hc1 : w.cell? (ad.add 1) = some (.string l')) (hown : OwnC B w v l) (hB : B ≤ w.heap.size) (hb : (l.length + 1) * 24 ≤ 140737488355328)
    (hk : ∀ v' w', OwnC B w' v' (l ++ [(h, l')]) → v' ≠ .slice none 0 0 → w.grownBy w' v.ownBlock → wpList Try.prog ops Q rest (a.put o.dst v') w') : wpList Try.prog ops Q (o :: rest) a w := by
  obtain ⟨i0, hi, hz0, hz1, hz2⟩ := info_parts info_cell
  refine wpList_plain hgd fun K hK => ?_
  obtain ⟨v', w', hr, h2, h3, h4⟩ := run_append_own (P := Try.prog) w B 48 o.type 111 i0 (.agg #[.int .i64 0, .string ByteArray.empty]) 2 24 Try.underlying48 hi hz0 hz1 hz2 rfl (by decide) v l.length (ccs l) hown ad 1 1 [.int .i64 h, .string l'] rfl (by
    intro j y hy
    match j, hy with
    | 0, hy => simp at hy; subst hy; obtain ⟨b, o, s⟩ := ad; exact hc
    | 1, hy => simp at hy; subst hy; exact hc1
    | j + 2, hy => simp at hy) (by intro y hy; simp at hy; rcases hy with rfl | rfl <;> rfl) (by unfold maxLen; omega) hb hB
  unfold Oper.wp execOp
  simp only [ho, resolve, invoke, builtin, Sem.run_bind, Sem.run_pure, Result.andThen_ok, List.map_toArray, List.map_cons, List.map_nil, hs, hx, hr]
  refine hK _ _ (hk v' w' ?_ (fun e => by have := (h4.1 e).2; omega) h3)
  have : ccs (l ++ [(h, l')]) = ccs l ++ [.int .i64 h, .string l'] := by rw [ccs_append]; rfl
  unfold OwnC
  rw [this, List.length_append]
  exact h2
def LieC (w : World) (q o : Nat) (D : List Cl) : Prop := ∀ i d, D[i]? = some d → w.cell? ⟨q, o + i * 2, none⟩ = some (.int .i64 d.1) ∧ w.cell? ⟨q, o + i * 2 + 1, none⟩ = some (.string d.2)
theorem LieC.upd {S : Nat → Prop} {w w' : World} {q o : Nat} {D : List Cl} (h : LieC w q o D) (u : Upd S w w') (hq : q < w.heap.size) (hs : ¬ S q) : LieC w' q o D := fun i d hd =>
  ⟨(u.cell (p := ⟨q, o + i * 2, none⟩) hq hs).trans (h i d hd).1, (u.cell (p := ⟨q, o + i * 2 + 1, none⟩) hq hs).trans (h i d hd).2⟩
theorem LieC.tail {w : World} {q o : Nat} {d : Cl} {D : List Cl} (h : LieC w q o (d :: D)) : LieC w q (o + 2) D := fun i e he => by
  have := h (i + 1) e (by simpa using he)
  rw [show o + 2 + i * 2 = o + (i + 1) * 2 from by omega]
  exact this
structure SlC (w : World) (v : Value) (D : List Cl) (a : Option Addr) (c : Nat) : Prop where
  form : v = .slice a D.length c
  cap : D.length ≤ c
  max : c ≤ maxLen
  nil : a = none → D = [] ∧ c = 0
  at_ : ∀ x, a = some x → (D = [] ∧ c = 0) ∨ ∃ q o, x = ⟨q, o, none⟩ ∧ q < w.heap.size ∧ LieC w q o D
theorem SlC.upd {S : Nat → Prop} {w w' : World} {v : Value} {D : List Cl} {a : Option Addr} {c : Nat} (h : SlC w v D a c) (u : Upd S w w') (hs : ∀ x, a = some x → D ≠ [] → ¬ S x.block) : SlC w' v D a c :=
  ⟨h.form, h.cap, h.max, h.nil, fun x hx => by
    rcases h.at_ x hx with h1 | ⟨q, o, rfl, hq, hl⟩
    · exact .inl h1
    · refine .inr ⟨q, o, rfl, Nat.lt_of_lt_of_le hq u.size, ?_⟩
      by_cases hD : D = []
      · subst hD
        intro i d hd
        cases hd
      · exact hl.upd u hq (hs _ hx hD)⟩
theorem ccs_one : ∀ (l : List Cl) (u : Value), u ∈ ccs l → u.oneCell' = true
  | [], u, h => by cases h
  | d :: r, u, h => by
    simp only [ccs, List.mem_cons] at h
    rcases h with rfl | rfl | h
    · rfl
    · rfl
    · exact ccs_one r u h
theorem ccs_at : ∀ (D : List Cl) (w : World) (q o : Nat), LieC w q o D → ∀ j u, (ccs D)[j]? = some u → w.cell? ⟨q, o + j, none⟩ = some u
  | [], w, q, o, h, j, u, hu => by simp [ccs] at hu
  | d :: r, w, q, o, h, 0, u, hu => by
    simp [ccs] at hu; subst hu
    have := (h 0 d rfl).1
    simpa using this
  | d :: r, w, q, o, h, 1, u, hu => by
    simp [ccs] at hu; subst hu
    have := (h 0 d rfl).2
    simpa using this
  | d :: r, w, q, o, h, j + 2, u, hu => by
    simp only [ccs, List.getElem?_cons_succ] at hu
    have := ccs_at r w q (o + 2) h.tail j u hu
    rw [show o + (j + 2) = o + 2 + j from by omega]
    exact this
theorem OwnC.sl {B : Nat} {w : World} {v : Value} {D : List Cl} (h : OwnC B w v D) : ∃ a c, SlC w v D a c ∧ ∀ z, a = some z → B ≤ z.block ∧ z.block < w.heap.size := by
  obtain ⟨a, c, rfl, h1, h2, h3, h4⟩ := h.form
  refine ⟨a, c, ⟨rfl, h1, h2, h3, fun x hx => ?_⟩, fun z hz => ?_⟩
  · obtain ⟨g, rfl, _, hl⟩ := h4 x hx
    subst hx
    exact .inr ⟨g, 0, rfl, hl, fun i d hd => by rw [Nat.zero_add]; exact h.cell i d hd⟩
  · obtain ⟨g, rfl, hB, hl⟩ := h4 z hz
    exact ⟨hB, hl⟩
theorem OwnC.free {B : Nat} {w : World} {g n c : Nat} {l : List Cl} (h : OwnC B w (.slice (some ⟨g, 0, none⟩) n c) l) (j : Nat) : w.frozen? ⟨g, j, none⟩ = false := by
  obtain ⟨a, c', e, _⟩ := h.form
  injection e with e1 e2 e3
  unfold OwnC at h
  rw [← e2] at h
  exact World.ownsRow.frozenAt h j
end Go.Proofs.Yteamgkadhlbflaa
namespace Go.Proofs.Yteamgkadhlbflaa
open Go.RowKit
structure Lay (α : Type) where
  T : TypeId
  ST : TypeId
  k : Nat
  by_ : Nat
  cs : α → List Value
  z : α
structure Lay.Ok {α : Type} (Y : Lay α) : Prop where
  kp : 0 < Y.k
  len : ∀ x, (Y.cs x).length = Y.k
  one : ∀ x u, u ∈ Y.cs x → u.oneCell' = true
  und : Try.prog.underlying Y.ST = some (.slice Y.T)
  info : ∃ zv : Value, (Try.prog.info? Y.T).map (fun i => (i.zero, i.size, i.bytes)) = some (some zv, Y.k, Y.by_) ∧ zv.cells = (Y.cs Y.z).toArray
variable {α : Type} {Y : Lay α}
def fl (Y : Lay α) : List α → List Value
  | [] => []
  | x :: r => Y.cs x ++ fl Y r
theorem fl_length (K : Y.Ok) : ∀ l : List α, (fl Y l).length = l.length * Y.k
  | [] => by simp [fl]
  | x :: r => by rw [fl, List.length_append, fl_length K r, K.len, List.length_cons, Nat.add_mul]; omega
theorem fl_append : ∀ l m : List α, fl Y (l ++ m) = fl Y l ++ fl Y m
  | [], m => rfl
  | x :: r, m => by simp only [fl, List.cons_append, fl_append r m, List.append_assoc]
theorem fl_get (K : Y.Ok) : ∀ (l : List α) (i : Nat) (x : α), l[i]? = some x → ∀ j, j < Y.k → (fl Y l)[i * Y.k + j]? = (Y.cs x)[j]?
  | [], i, x, h, j, hj => by simp at h
  | y :: r, 0, x, h, j, hj => by
    simp at h; subst h
    rw [fl, Nat.zero_mul, Nat.zero_add, List.getElem?_append_left (by rw [K.len]; exact hj)]
  | y :: r, i + 1, x, h, j, hj => by
    have h' : r[i]? = some x := by simpa using h
    rw [fl, List.getElem?_append_right (by rw [K.len, Nat.add_mul]; omega), K.len, show (i + 1) * Y.k + j - Y.k = i * Y.k + j by rw [Nat.add_mul]; omega]
    exact fl_get K r i x h' j hj
theorem fl_one (K : Y.Ok) : ∀ (l : List α) (u : Value), u ∈ fl Y l → u.oneCell' = true
  | [], u, h => by cases h
  | x :: r, u, h => by
    rcases List.mem_append.1 h with h | h
    · exact K.one x u h
    · exact fl_one K r u h
theorem div_pos_lt {j n k : Nat} (hk : 0 < k) (h : j < n * k) : j / k < n ∧ j % k < k ∧ j / k * k + j % k = j :=
  ⟨Nat.div_lt_of_lt_mul (by rw [Nat.mul_comm]; exact h), Nat.mod_lt _ hk, by rw [Nat.mul_comm]; exact Nat.div_add_mod j k⟩
theorem fl_inv (K : Y.Ok) (l : List α) (j : Nat) (u : Value) (h : (fl Y l)[j]? = some u) : ∃ x, l[j / Y.k]? = some x ∧ (Y.cs x)[j % Y.k]? = some u := by
  have hj := (List.getElem?_eq_some_iff.1 h).1
  rw [fl_length K] at hj
  obtain ⟨h1, h2, h3⟩ := div_pos_lt K.kp hj
  refine ⟨_, List.getElem?_eq_getElem h1, ?_⟩
  rw [← fl_get K l _ _ (List.getElem?_eq_getElem h1) _ h2, h3]
  exact h
theorem fl_set1 (K : Y.Ok) {l : List α} {i : Nat} {x x' : α} (hx : l[i]? = some x) {j : Nat} {u : Value} (hj : j < Y.k) (hc : Y.cs x' = (Y.cs x).set j u) : (fl Y l).set (i * Y.k + j) u = fl Y (l.set i x') := by
  have hi := (List.getElem?_eq_some_iff.1 hx).1
  apply List.ext_getElem?
  intro p
  by_cases hp : p < l.length * Y.k
  · obtain ⟨h1, h2, h3⟩ := div_pos_lt K.kp hp
    by_cases he : p / Y.k = i
    · have e2 : (l.set i x')[p / Y.k]? = some x' := by rw [he]; simp [hi]
      have := fl_get K _ _ _ e2 _ h2
      rw [h3] at this
      rw [this, hc]
      by_cases hq : p % Y.k = j
      · have e3 : i * Y.k + j = p := by rw [← he, ← hq]; exact h3
        rw [e3, List.getElem?_set_self (by rw [fl_length K]; exact hp), hq, List.getElem?_set_self (by rw [K.len]; exact hj)]
      · have e3 : i * Y.k + j ≠ p := fun e => hq (by rw [← e, Nat.mul_comm, Nat.mul_add_mod, Nat.mod_eq_of_lt hj])
        have e4 : l[p / Y.k]? = some x := by rw [he]; exact hx
        have := fl_get K _ _ _ e4 _ h2
        rw [h3] at this
        rw [List.getElem?_set_ne e3, this, List.getElem?_set_ne (fun e => hq e.symm)]
    · have e3 : i * Y.k + j ≠ p := fun e => he (by rw [← e, Nat.mul_comm, Nat.mul_add_div K.kp, Nat.div_eq_of_lt hj, Nat.add_zero])
      have e4 : (l.set i x')[p / Y.k]? = l[p / Y.k]? := by rw [List.getElem?_set_ne (fun e => he e.symm)]
      have hg := List.getElem?_eq_getElem h1
      have t1 := fl_get K _ _ _ hg _ h2
      have t2 := fl_get K _ _ _ (e4.trans hg) _ h2
      rw [h3] at t1 t2
      rw [List.getElem?_set_ne e3, t1, t2]
  · rw [List.getElem?_eq_none (by rw [List.length_set, fl_length K]; omega), List.getElem?_eq_none (by rw [fl_length K, List.length_set]; omega)]
def OwnY (Y : Lay α) (B : Nat) (w : World) (v : Value) (l : List α) : Prop := w.ownsRow B Y.T Y.k v l.length (fl Y l)
theorem OwnY.nil (Y : Lay α) (B : Nat) (w : World) : OwnY Y B w (.slice none 0 0) [] := World.ownsRow_nil w B Y.T Y.k
theorem OwnY.form {B : Nat} {w : World} {v : Value} {l : List α} (h : OwnY Y B w v l) : ∃ a c, v = .slice a l.length c ∧ l.length ≤ c ∧ c ≤ maxLen ∧ (a = none → l = [] ∧ c = 0) ∧ ∀ x, a = some x → ∃ g, x = ⟨g, 0, none⟩ ∧ B ≤ g ∧ g < w.heap.size := by
  rcases h.2 with ⟨e1, e2⟩ | ⟨g, cap, cur, e1, e2, e3, e4, e5, _⟩
  · exact ⟨none, 0, by rw [e1, e2], by omega, by unfold maxLen; omega, fun _ => ⟨List.eq_nil_of_length_eq_zero e2, rfl⟩, fun x hx => by cases hx⟩
  · refine ⟨some ⟨g, 0, none⟩, cap, e1, e4, e5, (fun hx => by cases hx), fun x hx => ?_⟩
    cases hx
    exact ⟨g, rfl, e2, (Array.getElem?_eq_some_iff.1 e3).1⟩
theorem OwnY.cell (K : Y.Ok) {B : Nat} {w : World} {g n c : Nat} {l : List α} (h : OwnY Y B w (.slice (some ⟨g, 0, none⟩) n c) l) (i : Nat) (x : α) (hx : l[i]? = some x) (j : Nat) (u : Value) (hu : (Y.cs x)[j]? = some u) : w.cell? ⟨g, i * Y.k + j, none⟩ = some u := by
  have hj := (List.getElem?_eq_some_iff.1 hu).1
  rw [K.len] at hj
  have h0 := World.ownsRow.cells h (g := g) rfl (i * Y.k + j) u (by rw [fl_get K l i x hx j hj]; exact hu)
  rw [Addr.add_lit, Nat.zero_add] at h0
  exact h0
theorem OwnY.upd1 {S : Nat → Prop} {B : Nat} {w w' : World} {v : Value} {l : List α} (h : OwnY Y B w v l) (u : Upd S w w') (hs : ∀ g, v.ownBlock = some g → ¬ S g) : OwnY Y B w' v l := by
  obtain ⟨h1, h2⟩ := h
  refine ⟨h1, ?_⟩
  rcases h2 with h2 | ⟨g, cap, cur, e1, e2, e3, r⟩
  · exact .inl h2
  · refine .inr ⟨g, cap, cur, e1, e2, ?_, r⟩
    rw [u.block g (Array.getElem?_eq_some_iff.1 e3).1 (hs g (by rw [e1]; rfl))]
    exact e3
theorem OwnY.blk {B : Nat} {w : World} {v : Value} {l : List α} (h : OwnY Y B w v l) : ∀ k, v.ownBlock = some k → B ≤ k ∧ k < w.heap.size := World.ownsRow.lt h
theorem OwnY.grow {B : Nat} {w w' : World} {v : Value} {l : List α} (h : OwnY Y B w v l) (hb : Below w.heap.size w w') : OwnY Y B w' v l := h.upd1 (S := fun _ => False) (Upd.of_below hb) (fun _ _ => id)
theorem OwnY.low {B B' : Nat} {w : World} {v : Value} {l : List α} (h : OwnY Y B w v l) (hb : B' ≤ B) : OwnY Y B' w v l := by
  obtain ⟨h1, h2⟩ := h
  refine ⟨h1, ?_⟩
  rcases h2 with h2 | ⟨g, cap, cur, e1, e2, r⟩
  · exact .inl h2
  · exact .inr ⟨g, cap, cur, e1, Nat.le_trans hb e2, r⟩
theorem OwnY.set1 (K : Y.Ok) {B : Nat} {w : World} {g n c : Nat} {l : List α} (h : OwnY Y B w (.slice (some ⟨g, 0, none⟩) n c) l) {i : Nat} {x : α} (hx : l[i]? = some x) (x' : α) (j : Nat) (u : Value) (hj : j < Y.k) (hc : Y.cs x' = (Y.cs x).set j u) :
    OwnY Y B (w.setCell ⟨g, i * Y.k + j, none⟩ u) (.slice (some ⟨g, 0, none⟩) n c) (l.set i x') := by
  obtain ⟨a, c', e, _⟩ := h.form
  injection e with e1 e2 e3
  unfold OwnY at *
  rw [← e2] at h
  rw [← fl_set1 K hx hj hc, List.length_set, ← e2]
  exact (World.ownsRow.stored h (i * Y.k + j) _).1
theorem OwnY.free {B : Nat} {w : World} {g n c : Nat} {l : List α} (h : OwnY Y B w (.slice (some ⟨g, 0, none⟩) n c) l) (j : Nat) : w.frozen? ⟨g, j, none⟩ = false := by
  obtain ⟨a, c', e, _⟩ := h.form
  injection e with e1 e2 e3
  unfold OwnY at h
  rw [← e2] at h
  exact World.ownsRow.frozenAt h j
theorem OwnY.kind {B : Nat} {w : World} {v : Value} {l : List α} (h : OwnY Y B w v l) {g : Nat} (e : v.ownBlock = some g) : ∃ c f, w.heap[g]? = some (.cells c Y.T f) := by
  rcases h.2 with ⟨e1, _⟩ | ⟨g1, _, cur, e1, _, hb, _⟩
  · rw [e1] at e; cases e
  · rw [e1] at e; cases e; exact ⟨cur, _, hb⟩
theorem OwnY.apart {β : Type} {Y' : Lay β} {B B' : Nat} {w : World} {v v' : Value} {l : List α} {l' : List β} (h : OwnY Y B w v l) (h' : OwnY Y' B' w v' l') (hT : Y.T ≠ Y'.T) : ∀ g, v.ownBlock = some g → v'.ownBlock ≠ some g := by
  intro g e e'
  obtain ⟨c, f, h1⟩ := h.kind e
  obtain ⟨c', f', h2⟩ := h'.kind e'
  rw [h1] at h2
  injection h2 with h3
  injection h3 with _ h4
  exact hT h4
theorem OwnY.not_map {B : Nat} {w : World} {v : Value} {l : List α} {g : Nat} (h : OwnY Y B w v l) (e : v.ownBlock = some g) : ∀ es c, w.heap[g]? ≠ some (.map es c) := fun es c e' => by
  obtain ⟨c, f, h1⟩ := h.kind e
  rw [e'] at h1
  cases h1
def LieY (Y : Lay α) (w : World) (q o : Nat) (l : List α) : Prop := ∀ i x, l[i]? = some x → ∀ j u, (Y.cs x)[j]? = some u → w.cell? ⟨q, o + i * Y.k + j, none⟩ = some u
theorem LieY.upd {S : Nat → Prop} {w w' : World} {q o : Nat} {l : List α} (h : LieY Y w q o l) (u : Upd S w w') (hq : q < w.heap.size) (hs : ¬ S q) : LieY Y w' q o l := fun i x hx j v hv => (u.cell (p := ⟨q, _, none⟩) hq hs).trans (h i x hx j v hv)
theorem LieY.flat (K : Y.Ok) {w : World} {q o : Nat} {l : List α} (h : LieY Y w q o l) (j : Nat) (u : Value) (hu : (fl Y l)[j]? = some u) : w.cell? ⟨q, o + j, none⟩ = some u := by
  have hj := (List.getElem?_eq_some_iff.1 hu).1
  rw [fl_length K] at hj
  obtain ⟨x, h1, h2⟩ := fl_inv K l j u hu
  have := h _ _ h1 _ _ h2
  rw [Nat.add_assoc, (div_pos_lt K.kp hj).2.2] at this
  exact this
structure SlY (Y : Lay α) (w : World) (a : Option Addr) (n c : Nat) (l : List α) : Prop where
  len : l.length = n
  cap : n ≤ c
  max : c ≤ maxLen
  nil : a = none → n = 0 ∧ c = 0
  at_ : ∀ x, a = some x → l = [] ∨ ∃ q o, x = ⟨q, o, none⟩ ∧ q < w.heap.size ∧ LieY Y w q o l
theorem SlY.upd {S : Nat → Prop} {w w' : World} {a : Option Addr} {n c : Nat} {l : List α} (h : SlY Y w a n c l) (u : Upd S w w') (hs : ∀ x, a = some x → l ≠ [] → ¬ S x.block) : SlY Y w' a n c l :=
  ⟨h.len, h.cap, h.max, h.nil, fun x hx => by
    rcases h.at_ x hx with e | ⟨q, o, rfl, hq, hl⟩
    · exact .inl e
    · by_cases hl0 : l = []
      · exact .inl hl0
      · exact .inr ⟨q, o, rfl, Nat.lt_of_lt_of_le hq u.size, hl.upd u hq (hs _ hx hl0)⟩⟩
theorem SlY.later {w w' : World} {a : Option Addr} {n c : Nat} {l : List α} (h : SlY Y w a n c l) (hb : Below w.heap.size w w') : SlY Y w' a n c l := h.upd (S := fun _ => False) (Upd.of_below hb) (fun _ _ _ => id)
theorem SlY.bel {w w' : World} {a : Option Addr} {n c : Nat} {l : List α} (h : SlY Y w a n c l) {B : Nat} (hb : Below B w w') (hB : w.heap.size ≤ B) : SlY Y w' a n c l := h.upd (S := fun k => B ≤ k) ⟨hb.os, hb.tape, hb.output, hb.size, fun k hk hs => hb.block k (by omega)⟩ (fun x hx hne hs => by
  rcases h.at_ x hx with e | ⟨q, o, rfl, hq, hl⟩
  · exact hne e
  · dsimp only at hs; omega)
theorem SlY.place {w : World} {a : Option Addr} {n c : Nat} {l : List α} (h : SlY Y w a n c l) (hne : l ≠ []) : ∃ q o, a = some ⟨q, o, none⟩ ∧ q < w.heap.size ∧ LieY Y w q o l := by
  cases ha : a with
  | none =>
    have := (h.nil ha).1
    exact absurd (List.eq_nil_of_length_eq_zero (h.len.trans this)) hne
  | some x =>
    rcases h.at_ x ha with e | ⟨q, o, rfl, hq, hl⟩
    · exact absurd e hne
    · exact ⟨q, o, rfl, hq, hl⟩
theorem OwnY.sl (K : Y.Ok) {B : Nat} {w : World} {v : Value} {l : List α} (h : OwnY Y B w v l) : ∃ a c, v = .slice a l.length c ∧ SlY Y w a l.length c l ∧ ∀ z, a = some z → ∃ g, z = ⟨g, 0, none⟩ ∧ B ≤ g ∧ g < w.heap.size := by
  obtain ⟨a, c, rfl, h1, h2, h3, h4⟩ := h.form
  refine ⟨a, c, rfl, ⟨rfl, h1, h2, (fun e => by obtain ⟨e1, e2⟩ := h3 e; rw [e1]; exact ⟨rfl, e2⟩), fun x hx => ?_⟩, h4⟩
  obtain ⟨g, rfl, _, hg⟩ := h4 x hx
  subst hx
  exact .inr ⟨g, 0, rfl, hg, fun i y hy j u hu => by rw [Nat.zero_add]; exact h.cell K i y hy j u hu⟩
theorem OwnY.sl' (K : Y.Ok) {B : Nat} {w : World} {a : Option Addr} {n c : Nat} {l : List α} (h : OwnY Y B w (.slice a n c) l) : SlY Y w a n c l := by
  obtain ⟨a', c', e, h1, _⟩ := h.sl K
  injection e with e1 e2 e3
  subst e1 e2 e3
  exact h1
theorem run_appY (K : Y.Ok) (w : World) (ty : TypeId) (B : Nat) (l : List α) (v : Value) (ad : Option Addr) (m c : Nat) (news : List α) (hh : SlY Y w ad m c news) (hown : OwnY Y B w v l) (hB : B ≤ w.heap.size) (hm : l.length + m ≤ maxLen) (hb : (l.length + m) * Y.by_ ≤ 140737488355328) :
    ∃ v' w', (Builtin.append_ #[Y.ST, Y.ST] ty #[v, .slice ad m c]).run Try.prog w = .ok v' w' ∧ OwnY Y B w' v' (l ++ news) ∧ w.grownBy w' v.ownBlock ∧ (v'.ownBlock = v.ownBlock ∨ ∃ k, v'.ownBlock = some k ∧ w.heap.size ≤ k) := by
  obtain ⟨zv, hinfo, hzc⟩ := K.info
  obtain ⟨i0, hi, hz0, hz1, hz2⟩ := info_parts hinfo
  have hzs : zv.cells.size = Y.k := by rw [hzc, List.size_toArray, K.len]
  cases ad with
  | none =>
    obtain ⟨rfl, rfl⟩ := hh.nil rfl
    obtain rfl : news = [] := List.eq_nil_of_length_eq_zero hh.len
    refine ⟨v, w, ?_, by rw [List.append_nil]; exact hown, World.grownBy.refl _ _, .inl rfl⟩
    exact run_append_owned_none (P := Try.prog) (w := w) B Y.ST ty Y.T i0 Y.k K.und hi v l.length (fl Y l) hown
  | some y =>
    have hnews : ∀ j u, (fl Y news)[j]? = some u → w.cell? (y.add j) = some u := fun j u hu => by
      rcases hh.at_ y rfl with e | ⟨q, o, rfl, _, hl⟩
      · subst e; cases hu
      · rw [Addr.add_lit]; exact hl.flat K j u hu
    have hlen : (fl Y news).length = m * Y.k := by rw [fl_length K, hh.len]
    obtain ⟨v', w', hr, h2, h3, h4⟩ := run_append_own (P := Try.prog) w B Y.ST ty Y.T i0 zv Y.k Y.by_ K.und hi hz0 hz1 hz2 hzs K.kp v l.length (fl Y l) hown y m c (fl Y news) hlen hnews (fl_one K news) hm hb hB
    refine ⟨v', w', hr, ?_, h3, ?_⟩
    · unfold OwnY
      rw [fl_append, List.length_append, hh.len]
      exact h2
    · rcases hown.2 with ⟨rfl, hn⟩ | ⟨g, cap, cur, rfl, hbg, hg, hnc, hcm, hcs, htake⟩
      · have hL : l = [] := List.eq_nil_of_length_eq_zero hn
        subst hL
        obtain ⟨v2, w2, hr2, k2, _⟩ := run_append_own (P := Try.prog) w w.heap.size Y.ST ty Y.T i0 zv Y.k Y.by_ K.und hi hz0 hz1 hz2 hzs K.kp (.slice none 0 0) 0 [] (World.ownsRow_nil w _ Y.T Y.k) y m c (fl Y news) hlen hnews (fl_one K news) hm hb (Nat.le_refl _)
        rw [hr] at hr2
        cases hr2
        cases hv : v'.ownBlock with
        | none => exact .inl rfl
        | some k => exact .inr ⟨k, rfl, (World.ownsRow.lt k2 k hv).1⟩
      · by_cases hroom : l.length + m ≤ cap
        · left
          have hfit : l.length * i0.size + (fl Y news).length ≤ cur.size := by rw [hcs, hz1, hlen, ← Nat.add_mul]; exact Nat.mul_le_mul_right _ hroom
          have hr2 := run_append_room (P := Try.prog) w Y.ST ty Y.T i0 K.und hi g l.length cap cur hg y m c (fl Y news) (by rw [hz1]; exact hlen) hnews (fl_one K news) hroom hfit
          rw [hr] at hr2
          cases hr2
          rfl
        · right
          have holds : ∀ j u, (fl Y l)[j]? = some u → w.cell? ((⟨g, 0, none⟩ : Addr).add j) = some u := World.ownsRow.cells hown (g := g) rfl
          have hr2 := run_append_grow (P := Try.prog) w Y.ST ty Y.T i0 zv K.und hi hz0 ⟨g, 0, none⟩ l.length cap (fl Y l) (by rw [hz1]; exact fl_length K l) holds y m c (fl Y news) (by rw [hz1]; exact hlen) hnews (by omega) (by unfold maxLen at hm; omega) (growslice_fits (by omega) (by rw [hz2]; exact hb))
          rw [hr] at hr2
          cases hr2
          exact ⟨_, rfl, Nat.le_refl _⟩
theorem madeY (K : Y.Ok) {zc : Array Value} (hzc : zc = (Y.cs Y.z).toArray) (n : Nat) : (madeCells zc (n * Y.k)).toList = fl Y (List.replicate n Y.z) := by
  subst hzc
  apply List.ext_getElem?
  intro j
  by_cases hj : j < n * Y.k
  · obtain ⟨h1, h2, h3⟩ := div_pos_lt K.kp hj
    have hg : (List.replicate n Y.z)[j / Y.k]? = some Y.z := List.getElem?_replicate_of_lt h1
    have := fl_get K _ _ _ hg _ h2
    rw [h3] at this
    rw [this]
    have hk := K.len Y.z
    simp [madeCells, hj, hk]
    rw [List.getElem?_eq_getElem (by rw [hk]; exact h2)]
    simp [hk, h2]
  · rw [List.getElem?_eq_none (by simp [madeCells]; omega), List.getElem?_eq_none (by rw [fl_length K]; simp; omega)]
theorem room_int {a n b : Nat} (e : a = b) (hb : n * b ≤ 140737488355328) : (a : Int) * (n : Int) ≤ 281474976710656 := by
  subst e
  have h : ((n * a : Nat) : Int) ≤ 140737488355328 := by omega
  rw [Int.natCast_mul, Int.mul_comm] at h
  omega
theorem makeY (K : Y.Ok) (w : World) {ops : Array Oper} {rest : List Oper} {o : Oper} {a : Act} {Q : Exit → Act → World → Prop} (hgd : o.guard = none) (x : Operand)
    (ho : o.op = .makeSlice Y.ST x x) (n : Nat) (hx : a.eval x = .int .i64 (n : Int)) (hm : n ≤ maxLen) (hb : n * Y.by_ ≤ 140737488355328)
    (h : ∀ w', OwnY Y w.heap.size w' (.slice (some ⟨w.heap.size, 0, none⟩) n n) (List.replicate n Y.z) → Below w.heap.size w w' → wpList Try.prog ops Q rest (a.put o.dst (.slice (some ⟨w.heap.size, 0, none⟩) n n)) w') : wpList Try.prog ops Q (o :: rest) a w := by
  obtain ⟨zv, hinfo, hzc⟩ := K.info
  obtain ⟨i0, hi, hz0, hz1, hz2⟩ := info_parts hinfo
  unfold maxLen at hm
  have hr := run_make (P := Try.prog) w Y.ST Y.T i0 zv K.und hi hz0 .i64 .i64 n n (by omega) (Int.le_refl _) (room_int hz2 hb) (by omega)
  rw [Int.toNat_natCast, hz1] at hr
  refine wpList_plain hgd fun K' hK' => ?_
  unfold Oper.wp execOp
  simp only [ho, hx, Sem.run_bind, Sem.run_pure, hr, Result.andThen_ok]
  refine hK' _ _ (h _ ?_ ((Below.refl _ _).alloc (Nat.le_refl _) _))
  unfold OwnY
  rw [List.length_replicate, ← madeY K hzc]
  exact World.ownsRow_lit w _ n (Nat.le_refl _) (by unfold maxLen; omega) (size_madeCells _ _)
end Go.Proofs.Yteamgkadhlbflaa
namespace Go.Proofs.Yteamgkadhlbflaa
open Go.RowKit Go.Maps
def RV (v : Value) : Option (DataW Value × List MemPlace) := some (.held v, [])
end Go.Proofs.Yteamgkadhlbflaa
namespace Go.Proofs.Yteamgkadhlbflaa
open Go.RowKit Go.Maps
variable {α : Type} {Y : Lay α}
end Go.Proofs.Yteamgkadhlbflaa
namespace Go.Proofs.Yteamgkadhlbflaa
open Go.RowKit Go.Maps
structure SV (α : Type) where
  a : Option Addr
  c : Nat
  D : List α
def SV.v {α : Type} (x : SV α) : Value := .slice x.a x.D.length x.c
def yS (α : Type) (T ST : TypeId) : Lay (SV α) := ⟨T, ST, 1, 24, fun x => [.slice x.a x.D.length x.c], ⟨none, 0, []⟩⟩
variable {α β : Type} {Y : Lay α} {Z : Lay β}
variable {Z : Lay (SV α)} {p : Nat} {E : Nat → Value}
end Go.Proofs.Yteamgkadhlbflaa
