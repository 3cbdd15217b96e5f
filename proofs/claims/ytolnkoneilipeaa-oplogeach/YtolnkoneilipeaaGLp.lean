import Derived.Test.YtolnkoneilipeaaLn
import Derived.Laws.IdiomRangeMap
namespace Go.Proofs.Ytolnkoneilipeaa
open Go.Shelf Go.RowKit Go.Lib Go.Sort
set_option linter.unusedVariables false

theorem putC_heap {w : World} {g n : Nat} {os : Array Obj} {cur : Array Value} {e : TypeId} {fr : Nat × Nat} (d : Array Value) (hb : w.heap[g]? = some (.cells cur e fr)) :
    (grow (putRow id (Sort.ahead w n) g 0 d) os).heap[g]? = some (.cells (putCells id 0 d cur) e fr) := by
  have hg : g < w.heap.size := (Array.getElem?_eq_some_iff.1 hb).1
  rw [heap_grow_old _ _ (by simpa using hg)]
  simp [putRow, mapBlock, Sort.ahead, Array.getElem?_modify, hb, onCells]
theorem putC_grown {w : World} {g n : Nat} {os : Array Obj} (d : Array Value) : w.grownBy (grow (putRow id (Sort.ahead w n) g 0 d) os) (some g) := by
  refine ⟨rfl, rfl, rfl, by simp, fun k hk hne => ?_⟩
  rw [heap_grow_old _ _ (by simpa using hk)]
  have : g ≠ k := fun e => hne (by rw [e])
  simp [putRow, mapBlock, Sort.ahead, Array.getElem?_modify, this]
theorem putC_take (cur d : Array Value) (h : d.size ≤ cur.size) : (putCells id 0 d cur).toList.take d.size = d.toList := by
  apply List.ext_getElem?
  intro j
  by_cases hj : j < d.size
  · rw [List.getElem?_take_of_lt hj, Array.getElem?_toList]
    simp [putCells, hj, show j < cur.size by omega]
  · rw [List.getElem?_take_eq_none (by omega), List.getElem?_eq_none (by simp; omega)]
theorem own_sorted {B : Nat} {w : World} {g c n : Nat} {os : Array Obj} {l l' : List Cl} (hl : l'.length = l.length) (h : OwnC B w (.slice (some ⟨g, 0, none⟩) l.length c) l) :
    OwnC B (sortWorldK cE 2 w g 0 n l'.toArray os) (.slice (some ⟨g, 0, none⟩) l'.length c) l' := by
  rcases h.2 with ⟨e1, _⟩ | ⟨g', cap, cur, e1, hbase, hb, h1, h2, h3, h4⟩
  · cases e1
  · injection e1 with e1 e2 e3
    injection e1 with e1
    injection e1 with e1
    subst e1 e3
    refine ⟨by rw [ccs_length], .inr ⟨g, c, putCells id 0 (flatK cE 2 l'.toArray) cur, rfl, hbase, putC_heap _ hb, by rw [hl]; exact h1, h2, by simp [putCells, h3], ?_⟩⟩
    have := putC_take cur (flatK cE 2 l'.toArray) (by simp; rw [h3]; exact Nat.mul_le_mul_right 2 (by omega))
    rw [flat_ccs] at this
    simpa using this
/-- Two rising lists with the same members are one. -/
theorem up_ext : ∀ {l₁ l₂ : List Cl}, l₁.Pairwise (fun p q => p.1 < q.1) → l₂.Pairwise (fun p q => p.1 < q.1) → (∀ p, p ∈ l₁ ↔ p ∈ l₂) → l₁ = l₂
  | [], [], _, _, _ => rfl
  | [], b :: s, _, _, h => by have := (h b).2 (by simp); simp at this
  | a :: r, [], _, _, h => by have := (h a).1 (by simp); simp at this
  | a :: r, b :: s, h1, h2, h => by
    obtain ⟨a1, a2⟩ := List.pairwise_cons.1 h1
    obtain ⟨b1, b2⟩ := List.pairwise_cons.1 h2
    have hab : a = b := by
      rcases List.mem_cons.1 ((h a).1 (by simp)) with e | e
      · exact e
      · rcases List.mem_cons.1 ((h b).2 (by simp)) with e' | e'
        · exact e'.symm
        · have := a1 b e'; have := b1 a e; omega
    subst hab
    rw [up_ext a2 b2 (fun p => ⟨fun hp => ?_, fun hp => ?_⟩)]
    · rcases List.mem_cons.1 ((h p).1 (by simp [hp])) with e | e
      · subst e; have := a1 _ hp; omega
      · exact e
    · rcases List.mem_cons.1 ((h p).2 (by simp [hp])) with e | e
      · subst e; have := b1 _ hp; omega
      · exact e
theorem up_of_le : ∀ {l : List Cl}, l.Pairwise (fun p q => p.1 ≤ q.1) → (l.map (·.1)).Nodup → l.Pairwise (fun p q => p.1 < q.1)
  | [], _, _ => List.Pairwise.nil
  | a :: r, h, hn => by
    obtain ⟨a1, a2⟩ := List.pairwise_cons.1 h
    rw [List.map_cons, List.nodup_cons] at hn
    refine List.pairwise_cons.2 ⟨fun q hq => ?_, up_of_le a2 hn.2⟩
    have := a1 q hq
    have hne : a.1 ≠ q.1 := fun e => hn.1 (by rw [e]; exact List.mem_map_of_mem hq)
    omega
theorem sorted_eq {L l l' : List Cl} (hL : L.Pairwise (fun p q => p.1 < q.1)) (hp : l'.Perm l) (hs : l'.Pairwise (fun p q => p.1 ≤ q.1)) (hn : (l.map (·.1)).Nodup) (hm : ∀ p, p ∈ l ↔ p ∈ L) : l' = L := by
  refine up_ext (up_of_le hs ?_) hL (fun p => (hp.mem_iff).trans (hm p))
  exact (hp.map (·.1)).nodup_iff.2 hn

end Go.Proofs.Ytolnkoneilipeaa

namespace Go.Proofs.Ytolnkoneilipeaa
open Go.Shelf Go.RowKit Go.Lib Go.Sort
set_option linter.unusedVariables false

/-- 'make([]Cell, 0, n)'. -/
theorem make_cap (w : World) {ops : Array Oper} {rest : List Oper} {o : Oper} {a : Act} {Q : Exit → Act → World → Prop} (hgd : o.guard = none) (x : Operand)
    (ho : o.op = .makeSlice 22 (.const (.int .i64 0)) x) (n : Nat) (hx : a.eval x = .int .i64 (n : Int)) (hb : n ≤ 1024)
    (h : ∀ w', OwnC w.heap.size w' (.slice (some ⟨w.heap.size, 0, none⟩) 0 n) [] → Below w.heap.size w w' → w'.heap.size = w.heap.size + 1 → wpList Try.prog ops Q rest (a.put o.dst (.slice (some ⟨w.heap.size, 0, none⟩) 0 n)) w') : wpList Try.prog ops Q (o :: rest) a w := by
  obtain ⟨i0, hi, hz0, hz1, hz2⟩ := info_parts info_cell
  have hr := run_make (P := Try.prog) w 22 29 i0 (.agg #[.int .i64 0, .string ByteArray.empty]) Try.underlying22 hi hz0 .i64 .i64 0 n (by omega) (by omega) (by rw [hz2]; omega) (by omega)
  rw [Int.toNat_natCast, hz1] at hr
  refine wpList_plain hgd fun K hK => ?_
  unfold Oper.wp execOp
  have h0 : a.eval (.const (.int .i64 0)) = .int .i64 0 := rfl
  simp only [ho, hx, h0, Sem.run_bind, Sem.run_pure, hr, Result.andThen_ok]
  refine hK _ _ (h _ ?_ ((Below.refl _ _).alloc (Nat.le_refl _) _) (by simp))
  exact ⟨rfl, .inr ⟨w.heap.size, n, _, rfl, Nat.le_refl _, (MapKept.heap_alloc w _).1, Nat.zero_le _, by unfold maxLen; omega, size_madeCells _ _, by simp [ccs]⟩⟩
/-- What has been collected. -/
structure Coll (L l : List Cl) (left : Lit → Bool) : Prop where
  nd : (l.map (·.1)).Nodup
  mem : ∀ p ∈ l, p ∈ L ∧ left (.int .i64 p.1) = false
  all : ∀ p ∈ L, left (.int .i64 p.1) = false → p ∈ l
theorem Coll.start {L : List Cl} (h : Ok L) : Coll L [] (Maps.has (mD L)) :=
  ⟨by simp, by simp, fun p hp hl => by rw [mD_has, gv_of_mem h.up hp] at hl; cases hl⟩
theorem Coll.step {L l : List Cl} {left : Lit → Bool} (h : Coll L l left) (hL : Ok L) {c : Cl} (hc : c ∈ L) (hl : left (.int .i64 c.1) = true) : Coll L (l ++ [c]) (fun z => left z && !z.sameKey (.int .i64 c.1)) := by
  refine ⟨?_, ?_, ?_⟩
  · rw [List.map_append, List.nodup_append]
    refine ⟨h.nd, by simp, ?_⟩
    intro a ha b hb e
    simp at hb
    obtain ⟨p, hp, rfl⟩ := List.mem_map.1 ha
    have := (h.mem p hp).2
    rw [e, hb, hl] at this
    cases this
  · intro p hp
    rcases List.mem_append.1 hp with hp | hp
    · obtain ⟨h1, h2⟩ := h.mem p hp
      exact ⟨h1, by simp [h2]⟩
    · simp at hp
      subst hp
      exact ⟨hc, by simp [Lit.sameKey]⟩
  · intro p hp hq
    simp only [Bool.and_eq_false_iff, Bool.not_eq_false'] at hq
    rcases hq with hq | hq
    · exact List.mem_append_left _ (h.all p hp hq)
    · simp [Lit.sameKey] at hq
      have e1 := gv_of_mem hL.up hp
      have e2 := gv_of_mem hL.up hc
      rw [hq, e2] at e1
      have : p = c := Prod.ext hq (Option.some.inj e1).symm
      rw [this]
      simp
theorem entry_mem {L : List Cl} {x : Int} {c : Cl} (hat : ∀ zd, (mD L).atKey (.int .i64 x) zd = cD c) : c.1 = x ∧ c ∈ L := by
  have h1 := hat .nil
  rw [mD_at] at h1
  cases hg : gv L x with
  | none => rw [hg] at h1; cases h1
  | some v =>
    rw [hg] at h1
    have := cD_inj h1
    rw [← this]
    exact ⟨rfl, gv_mem hg⟩
theorem key_int {x : Int} {kl : Lit} (h : keyOf Try.prog 3 (.int .i64 x) = some kl) : kl = .int .i64 x := by
  obtain ⟨y, e, hk, _⟩ := Maps.keyOf_int_inv Try.underlying3 h
  cases e
  exact hk
end Go.Proofs.Ytolnkoneilipeaa

namespace Go.Proofs.Ytolnkoneilipeaa
open Go.RowKit
set_option linter.unusedVariables false

def atC (A : List Cl) (k : Nat) : Cl := A.getD k (0, ByteArray.empty)
theorem some_atC {A : List Cl} {k : Nat} (h : k < A.length) : A[k]? = some (atC A k) := by
  simp [atC, h]
theorem ext_atC {A B : List Cl} (hl : A.length = B.length) (h : ∀ i, i < A.length → atC A i = atC B i) : A = B := by
  apply List.ext_getElem hl
  intro i h1 h2
  have := h i h1
  simpa [atC, h1, h2] using this
theorem SlC.place {w : World} {v : Value} {D : List Cl} {a : Option Addr} {c : Nat} (h : SlC w v D a c) (hD : D ≠ []) : ∃ q o, a = some ⟨q, o, none⟩ ∧ q < w.heap.size ∧ LieC w q o D := by
  cases a with
  | none => exact absurd (h.nil rfl).1 hD
  | some x =>
    rcases h.at_ x rfl with ⟨e, _⟩ | ⟨q, o, rfl, hq, hl⟩
    · exact absurd e hD
    · exact ⟨q, o, rfl, hq, hl⟩

theorem not_same {A B : List Cl} {k : Nat} (h : atC A k ≠ atC B k) : A ≠ B := fun e => h (by rw [e])
set_option maxRecDepth 100000 in
set_option maxHeartbeats 400000 in
theorem samecells_any (A B : List Cl) (a1 a2 : Option Addr) (c1 c2 : Nat) (w : World) (h1 : SlC w (.slice a1 A.length c1) A a1 c1) (h2 : SlC w (.slice a2 B.length c2) B a2 c2) :
    Calls Try.prog 6 #[.slice a1 A.length c1, .slice a2 B.length c2] w fun e w' => e = .returned (.bool (decide (A = B))) ∧ ∃ k, w' = w.drewN k := by
  have m1 := h1.max
  have k1 := h1.cap
  have k2 := h2.cap
  unfold maxLen at m1
  have m2 := h2.max
  unfold maxLen at m2
  by_cases hl : A.length = B.length
  · by_cases hA : A = []
    · subst hA
      obtain rfl : B = [] := List.eq_nil_of_length_eq_zero (by simpa using hl.symm)
      clear h1 h2
      go_enter Try.func6, Try.ntmps6
      go_wp2
      go_loopw [5] (fun i wr => i = .int .i64 0 ∧ wr = w) (fun _ _ => 0)
      case atStart => exact ⟨rfl, rfl⟩
      case round =>
        obtain ⟨rfl, rfl⟩ := hrel
        go_wp2
        go_ret
        exact ⟨rfl, 0, rfl⟩
    · have hB : B ≠ [] := by
        rintro rfl
        exact hA (List.eq_nil_of_length_eq_zero (by simpa using hl))
      obtain ⟨q1, o1, rfl, b1, l1⟩ := h1.place hA
      obtain ⟨q2, o2, rfl, b2, l2⟩ := h2.place hB
      have L1 := hide l1
      have L2 := hide l2
      have HB := hide hl
      rw [← hl] at k2 ⊢
      clear h1 h2 l1 l2 hl hA hB
      generalize hn : A.length = n at *
      have HN := hide hn
      clear hn
      go_enter Try.func6, Try.ntmps6
      go_wp2
      go_loopw [5] (fun i wr => ∃ (k j : Nat), i = .int .i64 (k : Int) ∧ k ≤ n ∧ (∀ i, i < k → atC A i = atC B i) ∧ wr = w.drewN j) (fun i _ => n - (intOf i).toNat)
      case atStart => exact ⟨0, 0, rfl, Nat.zero_le _, (fun i hi => by omega), rfl⟩
      case round =>
        obtain ⟨k, j, rfl, hk, hsame, rfl⟩ := hrel
        by_cases hlt : k < n
        · have hd1 := some_atC (A := A) (k := k) (by have := HN.out; omega)
          have hd2 := some_atC (A := B) (k := k) (by have := HN.out; have := HB.out; omega)
          have NS := hide (not_same (A := A) (B := B) (k := k))
          have HS : Hid (atC A k = atC B k → ∀ i, i < k + 1 → atC A i = atC B i) := fun h i hi => by
            by_cases h2 : i < k
            · exact hsame i h2
            · obtain rfl : i = k := by omega
              exact h
          clear hsame
          generalize atC A k = d1 at *
          generalize atC B k = d2 at *
          obtain ⟨x, y⟩ := d1
          obtain ⟨x', y'⟩ := d2
          obtain ⟨e0, e1⟩ := L1.out k _ hd1
          obtain ⟨e2, e3⟩ := L2.out k _ hd2
          simp only at e0 e1 e2 e3
          clear L1 L2 hd1 hd2
          by_cases f1 : x = x'
          · subst f1
            by_cases f2 : y = y'
            · subst f2
              have HS2 := hide (HS.out rfl)
              clear HS
              go_wp2
              go_quiet (fail)
              go_wp2
              go_round
              case rel => exact ⟨k + 1, _, by go_num, by omega, HS2.out, rfl⟩
              case measure => simp [intOf]; omega
            · have NE := hide (decide_eq_false (NS.out (by simp; exact f2)))
              have f2 : ¬ (y.toList = y'.toList) := fun e => f2 ((bytes_inj _ _).1 e)
              clear NS HS
              go_wp2
              go_quiet (fail)
              go_wp2
              go_ret
              exact ⟨by rw [NE.out]; rfl, j + nq, by simp⟩
          · have NE := hide (decide_eq_false (NS.out (by simp; intro h; exact absurd h f1)))
            clear NS HS
            go_wp2
            go_quiet (fail)
            go_wp2
            go_ret
            exact ⟨by rw [NE.out]; rfl, j + nq, by simp⟩
        · obtain rfl : k = n := by omega
          have HE := hide (decide_eq_true (ext_atC (A := A) (B := B) (by rw [HN.out, HB.out]) (fun i hi => hsame i (by rw [HN.out] at hi; exact hi))))
          clear hsame
          go_wp2
          go_ret
          exact ⟨by rw [HE.out]; rfl, _, rfl⟩
  · have hr : decide (A = B) = false := decide_eq_false (fun e => hl (by rw [e]))
    rw [hr]
    have f1 : ((A.length : Int) == (B.length : Int)) = false := by simp; omega
    clear hr h1 h2
    go_enter Try.func6, Try.ntmps6
    go_wp2
    go_ret
    exact ⟨rfl, 0, rfl⟩


end Go.Proofs.Ytolnkoneilipeaa

namespace Go.Proofs.Ytolnkoneilipeaa
open Go.RowKit
set_option linter.unusedVariables false

theorem ins_last {c : Cl} : ∀ {L : List Cl}, (∀ p ∈ L, p.1 < c.1) → ins c L = L ++ [c]
  | [], _ => rfl
  | y :: r, h => by
    have h1 := h y (by simp)
    have h2 : ¬ c.1 < y.1 := by omega
    simp only [ins, h2, if_false, List.cons_append]
    rw [ins_last (fun p hp => h p (by simp [hp]))]
theorem bh_le_iff {L : List Cl} {s : Int} (hs : 0 ≤ s) : bh L ≤ s ↔ ∀ p ∈ L, p.1 < s := by
  induction L with
  | nil => simp [bh, hs]
  | cons y r ih =>
    have : bh (y :: r) ≤ s ↔ y.1 + 1 ≤ s ∧ bh r ≤ s := by simp only [bh]; omega
    rw [this, ih]
    simp
    omega
/-- What From asks of a cell behind these. -/
def fitC (L : List Cl) (c : Cl) : Prop := (0 ≤ c.1 ∧ c.1 < 1024) ∧ c.2.size ≤ 64 ∧ bh L ≤ c.1
theorem ok_snoc {L : List Cl} (h : Ok L) (c : Cl) : Ok (L ++ [c]) ↔ fitC L c := by
  constructor
  · intro ⟨hu, hm⟩
    have := hm c (by simp)
    refine ⟨⟨this.1, this.2.1⟩, this.2.2, (bh_le_iff this.1).2 (fun p hp => ?_)⟩
    exact (List.pairwise_append.1 hu).2.2 p hp c (by simp)
  · intro ⟨h1, h2, h3⟩
    refine ⟨List.pairwise_append.2 ⟨h.up, by simp, fun p hp q hq => ?_⟩, fun p hp => ?_⟩
    · simp at hq
      subst hq
      exact (bh_le_iff h1.1).1 h3 p hp
    · rcases List.mem_append.1 hp with hp | hp
      · exact h.may p hp
      · simp at hp
        subst hp
        exact ⟨h1.1, h1.2, h2⟩
theorem Ok.take {L : List Cl} (h : Ok L) (k : Nat) : Ok (L.take k) :=
  ⟨h.up.sublist (List.take_sublist _ _), fun p hp => h.may p (List.mem_of_mem_take hp)⟩
theorem SlC.later {w w' : World} {v : Value} {D : List Cl} {a : Option Addr} {c : Nat} (h : SlC w v D a c) (hb : Below w.heap.size w w') : SlC w' v D a c :=
  h.upd (S := fun _ => False) (Upd.of_below hb) (fun _ _ _ => id)
end Go.Proofs.Ytolnkoneilipeaa
