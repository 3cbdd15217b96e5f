import Derived.Test.YtjkleldoeojbbaaLn
import Derived.Laws.IdiomRangeMap
namespace Go.Proofs.Ytjkleldoeojbbaa
open Go.Shelf Go.RowKit Go.Lib Go.Sort
set_option linter.unusedVariables false

theorem putC_heap {w : World} {g n : Nat} {os : Array Obj} {cur : Array Value} {e : TypeId} {fr : Nat × Nat} (d : Array Value) (hb : w.heap[g]? = some (.cells cur e fr)) :
    (grow (putRow id (Sort.ahead w n) g 0 d) os).heap[g]? = some (.cells (putCells id 0 d cur) e fr) := by
  have hg : g < w.heap.size := (Array.getElem?_eq_some_iff.1 hb).1
  rw [heap_grow_old _ _ (by simpa using hg)]
  simp [putRow, mapBlock, Sort.ahead, Array.getElem?_modify, hb, onCells]
theorem putC_grown {w : World} {g n : Nat} {os : Array Obj} (d : Array Value) : w.grownBy (grow (putRow id (Sort.ahead w n) g 0 d) os) (some g) := by
  refine ⟨rfl, rfl, rfl, by simp, fun k hk hne => ?_⟩
  rw [heap_grow_old _ _ (by simpa using hk)]
  have : g ≠ k := fun e => hne (by rw [e])
  simp [putRow, mapBlock, Sort.ahead, Array.getElem?_modify, this]
theorem putC_take (cur d : Array Value) (h : d.size ≤ cur.size) : (putCells id 0 d cur).toList.take d.size = d.toList := by
  apply List.ext_getElem?
  intro j
  by_cases hj : j < d.size
  · rw [List.getElem?_take_of_lt hj, Array.getElem?_toList]
    simp [putCells, hj, show j < cur.size by omega]
  · rw [List.getElem?_take_eq_none (by omega), List.getElem?_eq_none (by simp; omega)]
theorem own_sorted {B : Nat} {w : World} {g c n : Nat} {os : Array Obj} {l l' : List Cl} (hl : l'.length = l.length) (h : OwnC B w (.slice (some ⟨g, 0, none⟩) l.length c) l) :
    OwnC B (sortWorldK cE 2 w g 0 n l'.toArray os) (.slice (some ⟨g, 0, none⟩) l'.length c) l' := by
  rcases h.2 with ⟨e1, _⟩ | ⟨g', cap, cur, e1, hbase, hb, h1, h2, h3, h4⟩
  · cases e1
  · injection e1 with e1 e2 e3
    injection e1 with e1
    injection e1 with e1
    subst e1 e3
    refine ⟨by rw [ccs_length], .inr ⟨g, c, putCells id 0 (flatK cE 2 l'.toArray) cur, rfl, hbase, putC_heap _ hb, by rw [hl]; exact h1, h2, by simp [putCells, h3], ?_⟩⟩
    have := putC_take cur (flatK cE 2 l'.toArray) (by simp; rw [h3]; exact Nat.mul_le_mul_right 2 (by omega))
    rw [flat_ccs] at this
    simpa using this
set_option maxHeartbeats 1000000 in
theorem sort_cells (B : Nat) (w : World) (g c : Nat) (l : List Cl) (h : OwnC B w (.slice (some ⟨g, 0, none⟩) l.length c) l) (hl : l.length ≤ 1024) :
    Calls Try.prog 126 #[.slice (some ⟨g, 0, none⟩) l.length c, .func (.func 127) #[] #[]] w fun e w' => e = .returned (.tuple #[]) ∧ ∃ l' : List Cl, l'.Perm l ∧ l'.Pairwise (fun p q => p.1 ≤ q.1) ∧ OwnC B w' (.slice (some ⟨g, 0, none⟩) l.length c) l' ∧ w.grownBy w' (some g) := by
  have eg : ∀ args w, (callFunc 127 args).run Try.prog w = .ok (.enter 127 args) w := enters_of Try.func127 (by kernel_rfl) rfl
  obtain ⟨a, c', e1, _, _, _, hx⟩ := h.form
  injection e1 with e1
  obtain ⟨g', e2, _, hg⟩ := hx _ e1.symm
  injection e2 with e2
  subst e2
  have hcon := AnyQ.slices_SortFunc Try.sortC 2 isAggCell sizeCell cE (fun _ => rfl) (fun x v hv => by simp [cE] at hv; rcases hv with rfl | rfl <;> rfl) cf swoC 127 #[] g 0 c l.toArray w eg (cmpLaysC g 0 _ w) (holds_cells h) hg (by simp; omega)
  change Calls Try.prog 126 _ _ _ at hcon
  rw [List.size_toArray] at hcon
  refine hcon.mono ?_
  rintro e w' ⟨rfl, d', n, os, ⟨hp1, _, hp3⟩, hs, rfl⟩
  obtain ⟨l'⟩ := d'
  have hll : l'.length = l.length := by simpa using hp1
  refine ⟨rfl, l', ?_, ?_, ?_, putC_grown _⟩
  · have e1 : (l'.toArray.extract 0 l.length).toList = l' := by simp [← hll]
    have e2 : (l.toArray.extract 0 l.length).toList = l := by simp
    have := hp3
    rw [e1, e2] at this
    exact this
  · rw [List.pairwise_iff_getElem]
    intro i j hi hj hij
    have := hs i j (Nat.zero_le _) hij (by omega)
    rw [ltC] at this
    simp [hi, hj] at this
    omega
  · have := own_sorted (n := n) (os := os) hll h
    rw [hll] at this
    exact this
/-- Two rising lists with the same members are one. -/
theorem up_ext : ∀ {l₁ l₂ : List Cl}, l₁.Pairwise (fun p q => p.1 < q.1) → l₂.Pairwise (fun p q => p.1 < q.1) → (∀ p, p ∈ l₁ ↔ p ∈ l₂) → l₁ = l₂
  | [], [], _, _, _ => rfl
  | [], b :: s, _, _, h => by have := (h b).2 (by simp); simp at this
  | a :: r, [], _, _, h => by have := (h a).1 (by simp); simp at this
  | a :: r, b :: s, h1, h2, h => by
    obtain ⟨a1, a2⟩ := List.pairwise_cons.1 h1
    obtain ⟨b1, b2⟩ := List.pairwise_cons.1 h2
    have hab : a = b := by
      rcases List.mem_cons.1 ((h a).1 (by simp)) with e | e
      · exact e
      · rcases List.mem_cons.1 ((h b).2 (by simp)) with e' | e'
        · exact e'.symm
        · have := a1 b e'; have := b1 a e; omega
    subst hab
    rw [up_ext a2 b2 (fun p => ⟨fun hp => ?_, fun hp => ?_⟩)]
    · rcases List.mem_cons.1 ((h p).1 (by simp [hp])) with e | e
      · subst e; have := a1 _ hp; omega
      · exact e
    · rcases List.mem_cons.1 ((h p).2 (by simp [hp])) with e | e
      · subst e; have := b1 _ hp; omega
      · exact e
theorem up_of_le : ∀ {l : List Cl}, l.Pairwise (fun p q => p.1 ≤ q.1) → (l.map (·.1)).Nodup → l.Pairwise (fun p q => p.1 < q.1)
  | [], _, _ => List.Pairwise.nil
  | a :: r, h, hn => by
    obtain ⟨a1, a2⟩ := List.pairwise_cons.1 h
    rw [List.map_cons, List.nodup_cons] at hn
    refine List.pairwise_cons.2 ⟨fun q hq => ?_, up_of_le a2 hn.2⟩
    have := a1 q hq
    have hne : a.1 ≠ q.1 := fun e => hn.1 (by rw [e]; exact List.mem_map_of_mem hq)
    omega
theorem sorted_eq {L l l' : List Cl} (hL : L.Pairwise (fun p q => p.1 < q.1)) (hp : l'.Perm l) (hs : l'.Pairwise (fun p q => p.1 ≤ q.1)) (hn : (l.map (·.1)).Nodup) (hm : ∀ p, p ∈ l ↔ p ∈ L) : l' = L := by
  refine up_ext (up_of_le hs ?_) hL (fun p => (hp.mem_iff).trans (hm p))
  exact (hp.map (·.1)).nodup_iff.2 hn

end Go.Proofs.Ytjkleldoeojbbaa

namespace Go.Proofs.Ytjkleldoeojbbaa
open Go.Shelf Go.RowKit Go.Lib Go.Sort
set_option linter.unusedVariables false

/-- 'make([]Cell, 0, n)'. -/
theorem make_cap (w : World) {ops : Array Oper} {rest : List Oper} {o : Oper} {a : Act} {Q : Exit → Act → World → Prop} (hgd : o.guard = none) (x : Operand)
    (ho : o.op = .makeSlice 69 (.const (.int .i64 0)) x) (n : Nat) (hx : a.eval x = .int .i64 (n : Int)) (hb : n ≤ 1024)
    (h : ∀ w', OwnC w.heap.size w' (.slice (some ⟨w.heap.size, 0, none⟩) 0 n) [] → Below w.heap.size w w' → w'.heap.size = w.heap.size + 1 → wpList Try.prog ops Q rest (a.put o.dst (.slice (some ⟨w.heap.size, 0, none⟩) 0 n)) w') : wpList Try.prog ops Q (o :: rest) a w := by
  obtain ⟨i0, hi, hz0, hz1, hz2⟩ := info_parts info_cell
  have hr := run_make (P := Try.prog) w 69 148 i0 (.agg #[.int .i64 0, .string ByteArray.empty]) Try.underlying69 hi hz0 .i64 .i64 0 n (by omega) (by omega) (by rw [hz2]; omega) (by omega)
  rw [Int.toNat_natCast, hz1] at hr
  refine wpList_plain hgd fun K hK => ?_
  unfold Oper.wp execOp
  have h0 : a.eval (.const (.int .i64 0)) = .int .i64 0 := rfl
  simp only [ho, hx, h0, Sem.run_bind, Sem.run_pure, hr, Result.andThen_ok]
  refine hK _ _ (h _ ?_ ((Below.refl _ _).alloc (Nat.le_refl _) _) (by simp))
  exact ⟨rfl, .inr ⟨w.heap.size, n, _, rfl, Nat.le_refl _, (MapKept.heap_alloc w _).1, Nat.zero_le _, by unfold maxLen; omega, size_madeCells _ _, by simp [ccs]⟩⟩
/-- What has been collected. -/
structure Coll (L l : List Cl) (left : Lit → Bool) : Prop where
  nd : (l.map (·.1)).Nodup
  mem : ∀ p ∈ l, p ∈ L ∧ left (.int .i64 p.1) = false
  all : ∀ p ∈ L, left (.int .i64 p.1) = false → p ∈ l
theorem Coll.start {L : List Cl} (h : Ok L) : Coll L [] (Maps.has (mD L)) :=
  ⟨by simp, by simp, fun p hp hl => by rw [mD_has, gv_of_mem h.up hp] at hl; cases hl⟩
theorem Coll.step {L l : List Cl} {left : Lit → Bool} (h : Coll L l left) (hL : Ok L) {c : Cl} (hc : c ∈ L) (hl : left (.int .i64 c.1) = true) : Coll L (l ++ [c]) (fun z => left z && !z.sameKey (.int .i64 c.1)) := by
  refine ⟨?_, ?_, ?_⟩
  · rw [List.map_append, List.nodup_append]
    refine ⟨h.nd, by simp, ?_⟩
    intro a ha b hb e
    simp at hb
    obtain ⟨p, hp, rfl⟩ := List.mem_map.1 ha
    have := (h.mem p hp).2
    rw [e, hb, hl] at this
    cases this
  · intro p hp
    rcases List.mem_append.1 hp with hp | hp
    · obtain ⟨h1, h2⟩ := h.mem p hp
      exact ⟨h1, by simp [h2]⟩
    · simp at hp
      subst hp
      exact ⟨hc, by simp [Lit.sameKey]⟩
  · intro p hp hq
    simp only [Bool.and_eq_false_iff, Bool.not_eq_false'] at hq
    rcases hq with hq | hq
    · exact List.mem_append_left _ (h.all p hp hq)
    · simp [Lit.sameKey] at hq
      have e1 := gv_of_mem hL.up hp
      have e2 := gv_of_mem hL.up hc
      rw [hq, e2] at e1
      have : p = c := Prod.ext hq (Option.some.inj e1).symm
      rw [this]
      simp
theorem entry_mem {L : List Cl} {x : Int} {c : Cl} (hat : ∀ zd, (mD L).atKey (.int .i64 x) zd = cD c) : c.1 = x ∧ c ∈ L := by
  have h1 := hat .nil
  rw [mD_at] at h1
  cases hg : gv L x with
  | none => rw [hg] at h1; cases h1
  | some v =>
    rw [hg] at h1
    have := cD_inj h1
    rw [← this]
    exact ⟨rfl, gv_mem hg⟩
theorem key_int {x : Int} {kl : Lit} (h : keyOf Try.prog 3 (.int .i64 x) = some kl) : kl = .int .i64 x := by
  obtain ⟨y, e, hk, _⟩ := Maps.keyOf_int_inv Try.underlying3 h
  cases e
  exact hk
set_option maxRecDepth 100000 in
set_option maxHeartbeats 1000000 in
theorem cells_any (b : Nat) (m : Option Nat) (L : List Cl) (w : World) (h : Led w b m L) :
    Calls Try.prog 117 #[.pointer (some ⟨b, 0, none⟩)] w fun e w' => ∃ v, e = .returned v ∧ OwnC w.heap.size w' v L ∧ Below w.heap.size w w' := by
  have hh := hide h
  have hll := h.ok.len_le
  have hok := hide h.ok
  have hlen := len_any w m L.length L h.nn (fun j e => (h.sm j e).2)
  obtain ⟨ok, lt, c0, c1, f0, f1, nn, sm⟩ := h
  clear ok c1 f0 f1
  cases m with
  | some j =>
    obtain ⟨hjb, hown⟩ := sm j rfl
    have hjl := hown.lt
    clear nn sm
    go_enter Try.func117, Try.ntmps117
    go_wp2_with (first
      | (at_make; go_must (refine make_cap _ rfl (.tmp 12) rfl L.length rfl hll ?_; intro w1 o1 b1 s1; have c01 := (b1.cell (p := ⟨b, 0, none⟩) lt).trans c0; have hown1 := Own.block hown (b1.block j hjl)))
      | (at_range; go_must (refine wpList_range_own _ rfl _ 194 rfl 3 148 keyed Try.underlying194 cR j L.length (mD L) rfl hown1 ?_; intro w2 hrg0 hg0 hs0; go_frame))
      | go_in)
    rw [mD_size] at hrg0
    have b2 : Below w.heap.size w w2 := b1.grown hg0 (by omega) (fun k e => by cases e)
    have o2 : OwnC w.heap.size w2 (.slice (some ⟨w.heap.size, 0, none⟩) 0 L.length) [] := World.ownsRow.kept o1 hg0 (.inr (by simp [Value.ownBlock]))
    rw [s1] at hrg0 hs0 ⊢
    clear hg0 hown1 c01 o1 b1 s1 hs0
    go_wp2
    go_loopw [3] (fun v wr => ∃ (left : Lit → Bool) (cnt : Nat) (l : List Cl), wr.ranges Try.prog 3 cR j (w.heap.size + 1) L.length (mD L) left cnt ∧ l.length + cnt ≤ L.length ∧ OwnC w.heap.size wr v l ∧ v ≠ .slice none 0 0 ∧ Coll L l left ∧ Below w.heap.size w wr) (fun _ wr => wr.rangeLeft j (w.heap.size + 1))
    case atStart => exact ⟨_, _, [], hrg0, by simp, o2, by simp, Coll.start hok.out, b2⟩
    case round =>
      obtain ⟨left, cnt, l, hrg, hcs, ho, hnn, hC, hbl⟩ := hrel
      have hkk := hide hC
      clear hC
      go_wp2_with (first
        | (at_next; refine wpList_next_ranges _ rfl _ rfl 3 keyed cR (Value.int .i64) cV (fun key kl hk => by obtain ⟨x, rfl, _⟩ := Maps.keyOf_int_inv Try.underlying3 hk; exact ⟨x, rfl⟩) (fun v y hv => by obtain ⟨p, rfl, _⟩ := cR_inv hv; exact ⟨p, rfl⟩) j (w.heap.size + 1) L.length _ _ _ rfl hrg ?_ ?_)
        | go_in)
      · intro hc0 hl0
        obtain ⟨a, c, hv, hle, hmx, hnil, hsome⟩ := ho.form
        cases a with
        | none =>
          obtain ⟨_, rfl⟩ := hnil rfl
          rw [hv] at hnn
          have : l.length = 0 := by omega
          rw [this] at hnn
          exact absurd rfl hnn
        | some z =>
          obtain ⟨g, rfl, hg1, hg2⟩ := hsome z rfl
          subst hv
          have hcs' : l.length ≤ 1024 := by omega
          have cs := sort_cells w.heap.size wr g c l ho hcs'
          go_wp2_with (go_at_call 126; refine cs.mono ?_; rintro e w3 ⟨rfl, l', hp, hs, o3, hg3⟩)
          go_ret
          have hCC := hkk.out
          have e := sorted_eq hok.out.up hp hs hCC.nd (fun p => ⟨fun hp => (hCC.mem p hp).1, fun hp => hCC.all p hp (hl0 _)⟩)
          subst e
          exact ⟨_, rfl, o3, hbl.grown hg3 hbl.size (fun k e => by cases e; exact hg1)⟩
      · intro x cs cv kl yd yp w1 cnt1 hkey hlx hv hat hrg1 hlt hg1 hs1 hen
        obtain rfl := key_int hkey
        rw [cR_mk] at hv
        cases hv
        obtain ⟨e1, e2⟩ := entry_mem hat
        dsimp only at e1
        subst e1
        have ho1 : OwnC w.heap.size w1 u3 l := World.ownsRow.kept ho hg1 (.inr (Ne.symm (row_ne_iter ho hrg)))
        have hb1 : RowKit.Below w.heap.size w w1 := hbl.grown hg1 hbl.size (fun k e => by cases e; exact Nat.le_succ _)
        have hsz := hb1.size
        have hC1 := hide (hkk.out.step hok.out e2 hlx)
        have hro := hide hrg1
        have hLe := hrg.left_eq
        dsimp only [cV] at hen
        clear hs1 hkey hat hkk hrg hlx hg1 hrg1
        go_wp2_with (at_builtin; go_must (refine app_cell _ rfl (.tmp 23) (.tmp 25) rfl w.heap.size l u3 rfl ⟨w1.heap.size + 1, 0, none⟩ rfl cs cv ?zc ?zd ((ho1.alloc _).alloc _) (by simp; omega) (by omega) ?zk))
        case zk =>
          intro v' w3 o3 hnn3 hg3
          have hoo := (ho1.alloc (.cells #[.int .i64 cs, .string cv] 148)).alloc (.cells #[.int .i64 cs, .string cv] 148)
          have hrr := (hro.out.alloc (.cells #[.int .i64 cs, .string cv] 148)).alloc (.cells #[.int .i64 cs, .string cv] 148)
          have hrg3 := hrr.kept hg3 (row_ne_low hoo hjl) (row_ne_iter hoo hrr)
          have hb3 := ((hb1.alloc hsz (.cells #[.int .i64 cs, .string cv] 148)).alloc (by simp; omega) (.cells #[.int .i64 cs, .string cv] 148)).grown hg3 (by simp; omega) (fun k hk => (World.ownsRow.lt hoo k hk).1)
          have hh3 := hide hrg3
          have hbb3 := hide hb3
          clear hoo hrr hrg3 hb3 hg3
          go_wp2
          go_roundw
          case rel => exact ⟨_, cnt1, l ++ [(cs, cv)], hh3.out, by simp; omega, o3, hnn3, hC1.out, hbb3.out⟩
          case measure => rw [hh3.out.left_eq, hLe]; exact hlt
  | none =>
    obtain rfl := nn rfl
    clear nn sm
    have hrg := fun W => run_range_nilMap (P := Try.prog) W 194 3 148 Try.underlying194
    go_enter Try.func117, Try.ntmps117
    go_wp2_with (first
      | (at_make; go_must (refine make_cap _ rfl (.tmp 12) rfl 0 rfl (by omega) ?_; intro w1 o1 b1 s1; have c01 := (b1.cell (p := ⟨b, 0, none⟩) lt).trans c0))
      | go_in)
    have hnx : ∀ ty, (Instr.next (.pointer (some ⟨w1.heap.size, 0, none⟩)) false ty).run Try.prog (w1.alloc (.mapIter none 0 #[] 0)) = _ := fun ty => run_next_nilMap _ ty 0 0 #[]
    rw [s1] at hnx
    have o2 := o1.alloc (.mapIter none 0 #[] 0)
    have b2 := b1.alloc b1.size (.mapIter none 0 #[] 0)
    clear o1 b1 s1 c01
    go_loopw [3] (fun v wr => v = .slice (some ⟨w.heap.size, 0, none⟩) 0 0 ∧ wr = w1.alloc (.mapIter none 0 #[] 0)) (fun _ _ => 0)
    case atStart => exact ⟨rfl, rfl⟩
    case round =>
      obtain ⟨rfl, rfl⟩ := hrel
      have cs := sort_cells w.heap.size _ w.heap.size 0 [] o2 (by simp)
      rw [List.length_nil] at cs
      go_wp2_with (go_at_call 126; refine cs.mono ?_; rintro e w3 ⟨rfl, l', hp, hs, o3, hg3⟩)
      go_ret
      obtain rfl := hp.eq_nil
      exact ⟨_, rfl, o3, b2.grown hg3 b2.size (fun k e => by cases e; exact Nat.le_refl _)⟩

end Go.Proofs.Ytjkleldoeojbbaa

namespace Go.Proofs.Ytjkleldoeojbbaa
open Go.RowKit
set_option linter.unusedVariables false

def atC (A : List Cl) (k : Nat) : Cl := A.getD k (0, ByteArray.empty)
theorem some_atC {A : List Cl} {k : Nat} (h : k < A.length) : A[k]? = some (atC A k) := by
  simp [atC, h]
theorem ext_atC {A B : List Cl} (hl : A.length = B.length) (h : ∀ i, i < A.length → atC A i = atC B i) : A = B := by
  apply List.ext_getElem hl
  intro i h1 h2
  have := h i h1
  simpa [atC, h1, h2] using this
theorem SlC.place {w : World} {v : Value} {D : List Cl} {a : Option Addr} {c : Nat} (h : SlC w v D a c) (hD : D ≠ []) : ∃ q o, a = some ⟨q, o, none⟩ ∧ q < w.heap.size ∧ LieC w q o D := by
  cases a with
  | none => exact absurd (h.nil rfl).1 hD
  | some x =>
    rcases h.at_ x rfl with ⟨e, _⟩ | ⟨q, o, rfl, hq, hl⟩
    · exact absurd e hD
    · exact ⟨q, o, rfl, hq, hl⟩

theorem not_same {A B : List Cl} {k : Nat} (h : atC A k ≠ atC B k) : A ≠ B := fun e => h (by rw [e])
end Go.Proofs.Ytjkleldoeojbbaa

namespace Go.Proofs.Ytjkleldoeojbbaa
open Go.RowKit
set_option linter.unusedVariables false

theorem ins_last {c : Cl} : ∀ {L : List Cl}, (∀ p ∈ L, p.1 < c.1) → ins c L = L ++ [c]
  | [], _ => rfl
  | y :: r, h => by
    have h1 := h y (by simp)
    have h2 : ¬ c.1 < y.1 := by omega
    simp only [ins, h2, if_false, List.cons_append]
    rw [ins_last (fun p hp => h p (by simp [hp]))]
theorem bh_le_iff {L : List Cl} {s : Int} (hs : 0 ≤ s) : bh L ≤ s ↔ ∀ p ∈ L, p.1 < s := by
  induction L with
  | nil => simp [bh, hs]
  | cons y r ih =>
    have : bh (y :: r) ≤ s ↔ y.1 + 1 ≤ s ∧ bh r ≤ s := by simp only [bh]; omega
    rw [this, ih]
    simp
    omega
/-- What From asks of a cell behind these. -/
def fitC (L : List Cl) (c : Cl) : Prop := (0 ≤ c.1 ∧ c.1 < 1024) ∧ c.2.size ≤ 64 ∧ bh L ≤ c.1
theorem ok_snoc {L : List Cl} (h : Ok L) (c : Cl) : Ok (L ++ [c]) ↔ fitC L c := by
  constructor
  · intro ⟨hu, hm⟩
    have := hm c (by simp)
    refine ⟨⟨this.1, this.2.1⟩, this.2.2, (bh_le_iff this.1).2 (fun p hp => ?_)⟩
    exact (List.pairwise_append.1 hu).2.2 p hp c (by simp)
  · intro ⟨h1, h2, h3⟩
    refine ⟨List.pairwise_append.2 ⟨h.up, by simp, fun p hp q hq => ?_⟩, fun p hp => ?_⟩
    · simp at hq
      subst hq
      exact (bh_le_iff h1.1).1 h3 p hp
    · rcases List.mem_append.1 hp with hp | hp
      · exact h.may p hp
      · simp at hp
        subst hp
        exact ⟨h1.1, h1.2, h2⟩
theorem Ok.take {L : List Cl} (h : Ok L) (k : Nat) : Ok (L.take k) :=
  ⟨h.up.sublist (List.take_sublist _ _), fun p hp => h.may p (List.mem_of_mem_take hp)⟩
theorem SlC.later {w w' : World} {v : Value} {D : List Cl} {a : Option Addr} {c : Nat} (h : SlC w v D a c) (hb : Below w.heap.size w w') : SlC w' v D a c :=
  h.upd (S := fun _ => False) (Upd.of_below hb) (fun _ _ _ => id)
end Go.Proofs.Ytjkleldoeojbbaa
