import Derived.Test.YtlnijfpflebfkaaLn
import Derived.Laws.IdiomRangeMap
namespace Go.Proofs.Ytlnijfpflebfkaa
open Go.Shelf Go.RowKit Go.Lib Go.Sort
set_option linter.unusedVariables false

theorem putC_heap {w : World} {g n : Nat} {os : Array Obj} {cur : Array Value} {e : TypeId} {fr : Nat × Nat} (d : Array Value) (hb : w.heap[g]? = some (.cells cur e fr)) :
    (grow (putRow id (Sort.ahead w n) g 0 d) os).heap[g]? = some (.cells (putCells id 0 d cur) e fr) := by
  have hg : g < w.heap.size := (Array.getElem?_eq_some_iff.1 hb).1
  rw [heap_grow_old _ _ (by simpa using hg)]
  simp [putRow, mapBlock, Sort.ahead, Array.getElem?_modify, hb, onCells]
theorem putC_grown {w : World} {g n : Nat} {os : Array Obj} (d : Array Value) : w.grownBy (grow (putRow id (Sort.ahead w n) g 0 d) os) (some g) := by
  refine ⟨rfl, rfl, rfl, by simp, fun k hk hne => ?_⟩
  rw [heap_grow_old _ _ (by simpa using hk)]
  have : g ≠ k := fun e => hne (by rw [e])
  simp [putRow, mapBlock, Sort.ahead, Array.getElem?_modify, this]
theorem putC_take (cur d : Array Value) (h : d.size ≤ cur.size) : (putCells id 0 d cur).toList.take d.size = d.toList := by
  apply List.ext_getElem?
  intro j
  by_cases hj : j < d.size
  · rw [List.getElem?_take_of_lt hj, Array.getElem?_toList]
    simp [putCells, hj, show j < cur.size by omega]
  · rw [List.getElem?_take_eq_none (by omega), List.getElem?_eq_none (by simp; omega)]
/-- Two rising lists with the same members are one. -/
theorem up_ext : ∀ {l₁ l₂ : List Cl}, l₁.Pairwise (fun p q => p.1 < q.1) → l₂.Pairwise (fun p q => p.1 < q.1) → (∀ p, p ∈ l₁ ↔ p ∈ l₂) → l₁ = l₂
  | [], [], _, _, _ => rfl
  | [], b :: s, _, _, h => by have := (h b).2 (by simp); simp at this
  | a :: r, [], _, _, h => by have := (h a).1 (by simp); simp at this
  | a :: r, b :: s, h1, h2, h => by
    obtain ⟨a1, a2⟩ := List.pairwise_cons.1 h1
    obtain ⟨b1, b2⟩ := List.pairwise_cons.1 h2
    have hab : a = b := by
      rcases List.mem_cons.1 ((h a).1 (by simp)) with e | e
      · exact e
      · rcases List.mem_cons.1 ((h b).2 (by simp)) with e' | e'
        · exact e'.symm
        · have := a1 b e'; have := b1 a e; omega
    subst hab
    rw [up_ext a2 b2 (fun p => ⟨fun hp => ?_, fun hp => ?_⟩)]
    · rcases List.mem_cons.1 ((h p).1 (by simp [hp])) with e | e
      · subst e; have := a1 _ hp; omega
      · exact e
    · rcases List.mem_cons.1 ((h p).2 (by simp [hp])) with e | e
      · subst e; have := b1 _ hp; omega
      · exact e
theorem up_of_le : ∀ {l : List Cl}, l.Pairwise (fun p q => p.1 ≤ q.1) → (l.map (·.1)).Nodup → l.Pairwise (fun p q => p.1 < q.1)
  | [], _, _ => List.Pairwise.nil
  | a :: r, h, hn => by
    obtain ⟨a1, a2⟩ := List.pairwise_cons.1 h
    rw [List.map_cons, List.nodup_cons] at hn
    refine List.pairwise_cons.2 ⟨fun q hq => ?_, up_of_le a2 hn.2⟩
    have := a1 q hq
    have hne : a.1 ≠ q.1 := fun e => hn.1 (by rw [e]; exact List.mem_map_of_mem hq)
    omega
theorem sorted_eq {L l l' : List Cl} (hL : L.Pairwise (fun p q => p.1 < q.1)) (hp : l'.Perm l) (hs : l'.Pairwise (fun p q => p.1 ≤ q.1)) (hn : (l.map (·.1)).Nodup) (hm : ∀ p, p ∈ l ↔ p ∈ L) : l' = L := by
  refine up_ext (up_of_le hs ?_) hL (fun p => (hp.mem_iff).trans (hm p))
  exact (hp.map (·.1)).nodup_iff.2 hn

end Go.Proofs.Ytlnijfpflebfkaa

namespace Go.Proofs.Ytlnijfpflebfkaa
open Go.Shelf Go.RowKit Go.Lib Go.Sort
set_option linter.unusedVariables false

/-- What has been collected. -/
structure Coll (L l : List Cl) (left : Lit → Bool) : Prop where
  nd : (l.map (·.1)).Nodup
  mem : ∀ p ∈ l, p ∈ L ∧ left (.int .i64 p.1) = false
  all : ∀ p ∈ L, left (.int .i64 p.1) = false → p ∈ l
theorem Coll.start {L : List Cl} (h : Ok L) : Coll L [] (Maps.has (mD L)) :=
  ⟨by simp, by simp, fun p hp hl => by rw [mD_has, gv_of_mem h.up hp] at hl; cases hl⟩
theorem Coll.step {L l : List Cl} {left : Lit → Bool} (h : Coll L l left) (hL : Ok L) {c : Cl} (hc : c ∈ L) (hl : left (.int .i64 c.1) = true) : Coll L (l ++ [c]) (fun z => left z && !z.sameKey (.int .i64 c.1)) := by
  refine ⟨?_, ?_, ?_⟩
  · rw [List.map_append, List.nodup_append]
    refine ⟨h.nd, by simp, ?_⟩
    intro a ha b hb e
    simp at hb
    obtain ⟨p, hp, rfl⟩ := List.mem_map.1 ha
    have := (h.mem p hp).2
    rw [e, hb, hl] at this
    cases this
  · intro p hp
    rcases List.mem_append.1 hp with hp | hp
    · obtain ⟨h1, h2⟩ := h.mem p hp
      exact ⟨h1, by simp [h2]⟩
    · simp at hp
      subst hp
      exact ⟨hc, by simp [Lit.sameKey]⟩
  · intro p hp hq
    simp only [Bool.and_eq_false_iff, Bool.not_eq_false'] at hq
    rcases hq with hq | hq
    · exact List.mem_append_left _ (h.all p hp hq)
    · simp [Lit.sameKey] at hq
      have e1 := gv_of_mem hL.up hp
      have e2 := gv_of_mem hL.up hc
      rw [hq, e2] at e1
      have : p = c := Prod.ext hq (Option.some.inj e1).symm
      rw [this]
      simp
theorem entry_mem {L : List Cl} {x : Int} {c : Cl} (hat : ∀ zd, (mD L).atKey (.int .i64 x) zd = cD c) : c.1 = x ∧ c ∈ L := by
  have h1 := hat .nil
  rw [mD_at] at h1
  cases hg : gv L x with
  | none => rw [hg] at h1; cases h1
  | some v =>
    rw [hg] at h1
    have := cD_inj h1
    rw [← this]
    exact ⟨rfl, gv_mem hg⟩
theorem key_int {x : Int} {kl : Lit} (h : keyOf Try.prog 3 (.int .i64 x) = some kl) : kl = .int .i64 x := by
  obtain ⟨y, e, hk, _⟩ := Maps.keyOf_int_inv Try.underlying3 h
  cases e
  exact hk
end Go.Proofs.Ytlnijfpflebfkaa

namespace Go.Proofs.Ytlnijfpflebfkaa
open Go.RowKit
set_option linter.unusedVariables false

def atC (A : List Cl) (k : Nat) : Cl := A.getD k (0, ByteArray.empty)
theorem some_atC {A : List Cl} {k : Nat} (h : k < A.length) : A[k]? = some (atC A k) := by
  simp [atC, h]
theorem ext_atC {A B : List Cl} (hl : A.length = B.length) (h : ∀ i, i < A.length → atC A i = atC B i) : A = B := by
  apply List.ext_getElem hl
  intro i h1 h2
  have := h i h1
  simpa [atC, h1, h2] using this
theorem SlC.place {w : World} {v : Value} {D : List Cl} {a : Option Addr} {c : Nat} (h : SlC w v D a c) (hD : D ≠ []) : ∃ q o, a = some ⟨q, o, none⟩ ∧ q < w.heap.size ∧ LieC w q o D := by
  cases a with
  | none => exact absurd (h.nil rfl).1 hD
  | some x =>
    rcases h.at_ x rfl with ⟨e, _⟩ | ⟨q, o, rfl, hq, hl⟩
    · exact absurd e hD
    · exact ⟨q, o, rfl, hq, hl⟩

theorem not_same {A B : List Cl} {k : Nat} (h : atC A k ≠ atC B k) : A ≠ B := fun e => h (by rw [e])
end Go.Proofs.Ytlnijfpflebfkaa

namespace Go.Proofs.Ytlnijfpflebfkaa
open Go.RowKit
set_option linter.unusedVariables false

theorem belN {B : Nat} {w w' : World} (h : Below B w w') (n : Nat) : Below B w (w'.drewN n) := ⟨h.os, h.tape, h.output, h.size, h.block⟩
theorem ins_last {c : Cl} : ∀ {L : List Cl}, (∀ p ∈ L, p.1 < c.1) → ins c L = L ++ [c]
  | [], _ => rfl
  | y :: r, h => by
    have h1 := h y (by simp)
    have h2 : ¬ c.1 < y.1 := by omega
    simp only [ins, h2, if_false, List.cons_append]
    rw [ins_last (fun p hp => h p (by simp [hp]))]
theorem bh_le_iff {L : List Cl} {s : Int} (hs : 0 ≤ s) : bh L ≤ s ↔ ∀ p ∈ L, p.1 < s := by
  induction L with
  | nil => simp [bh, hs]
  | cons y r ih =>
    have : bh (y :: r) ≤ s ↔ y.1 + 1 ≤ s ∧ bh r ≤ s := by simp only [bh]; omega
    rw [this, ih]
    simp
    omega
/-- What From asks of a cell behind these. -/
def fitC (L : List Cl) (c : Cl) : Prop := (0 ≤ c.1 ∧ c.1 < 1024) ∧ c.2.size ≤ 64 ∧ bh L ≤ c.1
theorem ok_snoc {L : List Cl} (h : Ok L) (c : Cl) : Ok (L ++ [c]) ↔ fitC L c := by
  constructor
  · intro ⟨hu, hm⟩
    have := hm c (by simp)
    refine ⟨⟨this.1, this.2.1⟩, this.2.2, (bh_le_iff this.1).2 (fun p hp => ?_)⟩
    exact (List.pairwise_append.1 hu).2.2 p hp c (by simp)
  · intro ⟨h1, h2, h3⟩
    refine ⟨List.pairwise_append.2 ⟨h.up, by simp, fun p hp q hq => ?_⟩, fun p hp => ?_⟩
    · simp at hq
      subst hq
      exact (bh_le_iff h1.1).1 h3 p hp
    · rcases List.mem_append.1 hp with hp | hp
      · exact h.may p hp
      · simp at hp
        subst hp
        exact ⟨h1.1, h1.2, h2⟩
theorem Ok.take {L : List Cl} (h : Ok L) (k : Nat) : Ok (L.take k) :=
  ⟨h.up.sublist (List.take_sublist _ _), fun p hp => h.may p (List.mem_of_mem_take hp)⟩
theorem SlC.later {w w' : World} {v : Value} {D : List Cl} {a : Option Addr} {c : Nat} (h : SlC w v D a c) (hb : Below w.heap.size w w') : SlC w' v D a c :=
  h.upd (S := fun _ => False) (Upd.of_below hb) (fun _ _ _ => id)
end Go.Proofs.Ytlnijfpflebfkaa
