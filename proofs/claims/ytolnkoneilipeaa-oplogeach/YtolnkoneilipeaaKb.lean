import Derived.Test.YtolnkoneilipeaaKa
import Derived.Test.YtolnkoneilipeaaDd
namespace Go.Proofs.Ytolnkoneilipeaa
open Go.RowKit Go.Shelf
open Classical
set_option linter.unusedVariables false
attribute [local go_sem] Oper.semAt_some

def En.val (x : En) : Value := .agg #[.int .i64 x.c, .int .i64 x.n, .int .i64 x.o.k, .int .i64 x.o.s, .string x.o.v]
theorem yieldE_nil (l : Nat) (w : World) : (binOp .eql 51 (.func (.yield l) #[] #[]) .nilFunc).run Try.prog w = .ok (.bool false) w := by kernel_rfl
theorem LieY.at5 {w : World} {g : Nat} {D : List En} (h : LieY yE w g 0 D) {i : Nat} {x : En} (hx : D[i]? = some x) : w.cell? ⟨g, i * 5, none⟩ = some (.int .i64 x.c) ∧ w.cell? ⟨g, i * 5 + 1, none⟩ = some (.int .i64 x.n) ∧ w.cell? ⟨g, i * 5 + 2, none⟩ = some (.int .i64 x.o.k) ∧ w.cell? ⟨g, i * 5 + 3, none⟩ = some (.int .i64 x.o.s) ∧ w.cell? ⟨g, i * 5 + 4, none⟩ = some (.string x.o.v) := by
  have h0 := h i x hx 0 _ rfl
  have h1 := h i x hx 1 _ rfl
  have h2 := h i x hx 2 _ rfl
  have h3 := h i x hx 3 _ rfl
  have h4 := h i x hx 4 _ rfl
  simp only [Nat.zero_add] at h0 h1 h2 h3 h4
  exact ⟨h0, h1, h2, h3, h4⟩
set_option maxRecDepth 100000 in
set_option maxHeartbeats 1000000 in
/-- Each's function: place and entry, one behind the other, till a round says no. -/
theorem eachO1_in (n : Nat) (hn : 1 ≤ n) (l k f g : Nat) (first : Int) (D : List En) (J Jx : Nat → World → Prop) (h1 : 1 ≤ first) (h2 : first + D.length < 9223372036854775807)
    (hY : ∀ i x W, D[i]? = some x → J i W → YieldAt Fence.wide (n - 1) Try.prog l #[.int .i64 (first + (i : Int)), x.val] W fun e W' => (e = .returned (.bool true) ∧ J (i + 1) W') ∨ (e = .returned (.bool false) ∧ Jx i W'))
    (hJa : ∀ i W o, J i W → J i (W.alloc o))
    (hJk : ∀ i W, J i W → LieY yE W g 0 D ∧ W.cell? ⟨f, 0, none⟩ = some (.int .i64 first) ∧ f < W.heap.size) (W : World) (hk : W.cell? ⟨k, 0, none⟩ = some (.slice (some ⟨g, 0, none⟩) D.length D.length)) (hD : D.length * 48 ≤ 140737488355328) (h0 : J 0 W) :
    CallsIn Fence.wide n Try.prog 17 #[.func (.yield l) #[] #[], .pointer (some ⟨k, 0, none⟩), .pointer (some ⟨f, 0, none⟩)] W fun e W' => (∃ v, e = .returned v) ∧ (J D.length W' ∨ ∃ i, i < D.length ∧ Jx i W') := by
  have hYh := hide hY
  have hJh := hide hJk
  clear hY hJk
  refine callsIn_of_wp Try.func17 rfl trivial ?_ rfl
  simp only [Try.ntmps17, List.size_toArray, List.length_cons, List.length_nil, Nat.reduceAdd, Nat.reduceSub, Array.replicate_succ, Array.replicate_zero, List.push_toArray, List.append_toArray, List.nil_append, List.cons_append]
  have q := yieldE_nil l
  gi_wp2
  gi_loopw [10] (fun i wr => ∃ k : Nat, i = .int .i64 (k : Int) ∧ k ≤ D.length ∧ J k wr) (fun i _ => D.length - (intOf i).toNat)
  case atStart => exact ⟨0, rfl, Nat.zero_le _, h0⟩
  case round =>
    obtain ⟨i, rfl, hi, hJ⟩ := hrel
    by_cases hlt : i < D.length
    · have hd := List.getElem?_eq_getElem hlt
      obtain ⟨hl, hf, hfl⟩ := hJh.out _ _ hJ
      obtain ⟨e0, e1, e2, e3, e4⟩ := hl.at5 hd
      have hq : W.heap.size = W.heap.size := rfl
      have hfa : ∀ o, (wr.alloc o).cell? ⟨f, 0, none⟩ = some (.int .i64 first) := fun o => (World.cell?_alloc_past _ _ _ hfl).trans hf
      generalize D[i] = x at *
      obtain ⟨fn, tmps, assign, body, hy, hR⟩ := hYh.out i x (wr.alloc (Obj.cells #[.int .i64 x.c, .int .i64 x.n, .int .i64 x.o.k, .int .i64 x.o.s, .string x.o.v] 40)) hd (hJa _ _ _ hJ)
      clear hd hq hl
      unfold En.val at hy
      gi_wp2
      refine hR.mono ?_
      rintro e W3 (⟨rfl, hJ3⟩ | ⟨rfl, hJ3⟩)
      · gi_wp2
        go_roundw
        case rel => exact ⟨i + 1, by simp, by omega, hJ3⟩
        case measure => simp [intOf]; omega
      · gi_wp2
        refine bodyPost_ret (results_none rfl _ _ _) rfl ?_
        exact ⟨⟨_, rfl⟩, .inr ⟨i, hlt, hJ3⟩⟩
    · have he : i = D.length := by omega
      subst he
      gi_wp2
      go_end0
      exact ⟨⟨_, rfl⟩, .inl hJ⟩
/-- How a round may be left: the two blocks of the loop's book lie as they lay. -/
def eachPost (I : Nat → World → Prop) (Ix : Code → Nat → World → Prop) (z i : Nat) (W : World) : Exit → Act → World → Prop
  | .normal, _, W' => (W'.heap[z]? = W.heap[z]? ∧ W'.heap[z + 1]? = W.heap[z + 1]?) ∧ I (i + 1) W'
  | .ret, _, W' => (W'.heap[z]? = W.heap[z]? ∧ W'.heap[z + 1]? = W.heap[z + 1]?) ∧ Ix .ret i W'
  | .exit id, _, W' => (W'.heap[z]? = W.heap[z]? ∧ W'.heap[z + 1]? = W.heap[z + 1]?) ∧ Ix (.exit id) i W'
  | .goto t, _, W' => (W'.heap[z]? = W.heap[z]? ∧ W'.heap[z + 1]? = W.heap[z + 1]?) ∧ Ix (.goto t) i W'
  | .panic _, _, _ => False
  | .outgrown, _, _ => False
/-- The record of a loop over a function. -/
def recO (fn : FuncId) (tmps : Array Value) (ps : Array Tmp) (assign body : Code) (z : Nat) (st : LoopState) (pe : Option Code) : Loop := { state := st, pending := pe, fn, tmps, params := ps, assign, body, defers := z }
/-- A range over Each's function. -/
theorem over_each {n : Nat} {gg : Operand} {ps : Array Tmp} {assign body : Code} {Q : Exit → Act → World → Prop} {a : Act} {w : World} (hn : 2 ≤ n) (D : List En) (first : Int) (k f g : Nat)
    (hg : a.eval gg = .func (.func 17) #[] #[.pointer (some ⟨k, 0, none⟩), .pointer (some ⟨f, 0, none⟩)]) (hps : ps.size = 2)
    (h1 : 1 ≤ first) (h2 : first + D.length < 9223372036854775807) (hD : D.length * 48 ≤ 140737488355328)
    (hkl : k < w.heap.size) (hfl : f < w.heap.size) (hgl : g < w.heap.size)
    (hk : w.cell? ⟨k, 0, none⟩ = some (.slice (some ⟨g, 0, none⟩) D.length D.length)) (hf : w.cell? ⟨f, 0, none⟩ = some (.int .i64 first)) (hl : LieY yE w g 0 D)
    (I : Nat → World → Prop) (Ix : Code → Nat → World → Prop)
    (hI : ∀ i W W' row, I i W → W.grownBy W' row → (∀ r, row = some r → r = w.heap.size + 1) → I i W')
    (hIx : ∀ c i W W', Ix c i W → W.grownBy W' (some (w.heap.size + 1)) → Ix c i W')
    (hIk : ∀ i W, I i W → w.heap.size ≤ W.heap.size ∧ ∀ j, j = g ∨ j = k ∨ j = f → W.heap[j]? = w.heap[j]?)
    (h0 : I 0 w)
    (hround : ∀ i x W, D[i]? = some x → I i W → w.heap.size + 1 < W.heap.size →
      assign.wpIn (Fence.wide.inRound (w.heap.size + 1)) (n - 1 - 1) Try.prog (Exit.then (fun a₁ W₁ => (I i W₁ ∧ W₁.heap[w.heap.size]? = W.heap[w.heap.size]? ∧ W₁.heap[w.heap.size + 1]? = W.heap[w.heap.size + 1]?) ∧ ∀ W₂, I i W₂ → W₁.grownBy W₂ (some (w.heap.size + 1)) → body.wpIn (Fence.wide.inRound (w.heap.size + 1)) (n - 1 - 1) Try.prog (eachPost I Ix w.heap.size i W₂) a₁ W₂) (fun _ _ _ => False))
        { tmps := (ps.zip #[.int .i64 (first + (i : Int)), x.val]).foldl (fun t (p, v) => t.setIfInBounds p v) a.tmps, defers := [] } W)
    (hdone : ∀ W, I D.length W → W.heap[w.heap.size]? = some (.deferred (some [])) → Q .normal { a with defers := [{ target := .collected w.heap.size, args := #[] }] ++ a.defers } W)
    (hstop : ∀ c i W, i < D.length → Ix c i W → W.heap[w.heap.size]? = some (.deferred (some [])) → c.wpIn Fence.wide n Try.prog Q { a with defers := [{ target := .collected w.heap.size, args := #[] }] ++ a.defers } W) :
    (Code.rangeFunc gg ps assign body).wpIn Fence.wide n Try.prog Q a w := by
  refine wpIn_rangeFunc fun fn hfn => ?_
  obtain ⟨rec, hrec⟩ : ∃ rec, rec = recO fn a.tmps ps assign body w.heap.size := ⟨_, rfl⟩
  obtain ⟨W1, hW1⟩ : ∃ W1, W1 = (w.alloc (.deferred (some []))).alloc (.loop (rec .ready none)) := ⟨_, rfl⟩
  have he : (Instr.enterLoop fn a.tmps ps assign body none).run Try.prog w = .ok (w.heap.size + 1, [{ target := .collected w.heap.size, args := #[] }]) W1 := by
    rw [hW1, hrec]
    exact run_enterLoop_outer fn a.tmps ps assign body
  have hL1 : W1.heap[w.heap.size + 1]? = some (.loop (rec .ready none)) := by
    rw [hW1]; have := World.alloc_heap_new (w.alloc (.deferred (some []))) (.loop (rec .ready none)); rwa [World.size_alloc] at this
  have hK1 : W1.heap[w.heap.size]? = some (.deferred (some [])) := by
    rw [hW1]; exact (Below.heap_alloc _ _ _ (by simp)).trans (World.alloc_heap_new w _)
  have hI1 : I 0 W1 := by
    rw [hW1]
    exact hI _ _ _ none (hI _ _ _ none h0 (World.grownBy_alloc w _ none) (fun r e => by cases e)) (World.grownBy_alloc _ _ none) (fun r e => by cases e)
  have hkc : W1.cell? ⟨k, 0, none⟩ = some (.slice (some ⟨g, 0, none⟩) D.length D.length) := by
    rw [← hk]
    exact World.cell?_of_block (a := ⟨k, 0, none⟩) ((hIk 0 W1 hI1).2 k (.inr (.inl rfl)))
  have hres : (resolve a.eval (rangeCall gg (w.heap.size + 1)) 0).run Try.prog W1 = .ok { target := .fn (.func 17) #[.pointer (some ⟨k, 0, none⟩), .pointer (some ⟨f, 0, none⟩)], args := #[.func (.yield (w.heap.size + 1)) #[] #[]] } W1 := by
    simp only [resolve, hg]
    simp [go_sem]
  have eg : ∀ args w, (callFunc 17 args).run Try.prog w = .ok (.enter 17 args) w := enters_of Try.func17 (by kernel_rfl) rfl
  have hinv : (invoke (.fn (.func 17) #[.pointer (some ⟨k, 0, none⟩), .pointer (some ⟨f, 0, none⟩)]) #[.func (.yield (w.heap.size + 1)) #[] #[]]).run Try.prog W1 = .ok (.enter 17 #[.func (.yield (w.heap.size + 1)) #[] #[], .pointer (some ⟨k, 0, none⟩), .pointer (some ⟨f, 0, none⟩)]) W1 := by
    simp [invoke, go_sem, eg]
  refine ⟨w.heap.size + 1, [{ target := .collected w.heap.size, args := #[] }], W1, _, W1, 17, _, W1, he, hres, ?_, hinv, ?_, ?_⟩
  · intro f' _; trivial
  · intro _; omega
  refine (eachO1_in (n - 1) (by omega) (w.heap.size + 1) k f g first D
    (fun i W => I i W ∧ W.heap[w.heap.size + 1]? = some (.loop (rec .ready none)) ∧ W.heap[w.heap.size]? = some (.deferred (some [])))
    (fun i W => ∃ c, Ix c i W ∧ W.heap[w.heap.size + 1]? = some (.loop (rec .done (some c))) ∧ W.heap[w.heap.size]? = some (.deferred (some []))) h1 h2 ?_ ?_ ?_ W1 hkc hD ⟨hI1, hL1, hK1⟩).mono ?_
  · rintro i x W hx ⟨hi, hl, hk⟩
    have hlt : w.heap.size + 1 < W.heap.size := (Array.getElem?_eq_some_iff.1 hl).1
    have hy := run_yield (P := Try.prog) (args := #[.int .i64 (first + (i : Int)), x.val]) hl (by rw [hrec]; exact hps.symm)
    rw [hrec] at hy
    refine ⟨fn, _, assign, body, hy, roundIn_of_wpIn trivial (wpIn_mono (hround i x W hx hi hlt) fun e a1 w1 hq => ?_)⟩
    clear hy
    cases e with
    | normal =>
      obtain ⟨⟨hi1, hz0, hz1⟩, hb⟩ := hq
      have hl1 := hz1.trans hl
      have hk1 := hz0.trans hk
      have hlt1 : w.heap.size + 1 < w1.heap.size := (Array.getElem?_eq_some_iff.1 hl1).1
      refine ⟨_, run_beginRound hl1 (by rw [hrec]; rfl), ?_⟩
      have hg2 := grownBy_putObj' w1 (w.heap.size + 1) (.loop { rec .ready none with state := .busy })
      have hl2 : (w1.putObj (w.heap.size + 1) (.loop { rec .ready none with state := .busy })).heap[w.heap.size + 1]? = some (.loop { rec .ready none with state := .busy }) := World.putObj_heap_same hlt1
      have hk2 : (w1.putObj (w.heap.size + 1) (.loop { rec .ready none with state := .busy })).heap[w.heap.size]? = some (.deferred (some [])) := (World.putObj_heap_other (by omega)).trans hk1
      refine wpIn_mono (hb _ (hI _ _ _ _ hi1 hg2 (fun r e => by cases e; rfl)) hg2) fun e2 a3 W3 hp => ?_
      have fin : ∀ (jump : Option Code), (W3.heap[w.heap.size]? = (w1.putObj (w.heap.size + 1) (.loop { rec .ready none with state := .busy })).heap[w.heap.size]? ∧ W3.heap[w.heap.size + 1]? = (w1.putObj (w.heap.size + 1) (.loop { rec .ready none with state := .busy })).heap[w.heap.size + 1]?) →
          (Instr.endRound (w.heap.size + 1) jump).run Try.prog W3 = .ok (.bool jump.isNone) (W3.putObj (w.heap.size + 1) (.loop (rec (if jump.isNone then .ready else .done) jump))) ∧
          (W3.putObj (w.heap.size + 1) (.loop (rec (if jump.isNone then .ready else .done) jump))).heap[w.heap.size + 1]? = some (.loop (rec (if jump.isNone then .ready else .done) jump)) ∧
          (W3.putObj (w.heap.size + 1) (.loop (rec (if jump.isNone then .ready else .done) jump))).heap[w.heap.size]? = some (.deferred (some [])) := fun jump hkk => by
        have hl3 := hkk.2.trans hl2
        have := run_endRound (P := Try.prog) jump hl3
        rw [hrec] at this ⊢
        exact ⟨this, World.putObj_heap_same (Array.getElem?_eq_some_iff.1 hl3).1, (World.putObj_heap_other (by omega)).trans (hkk.1.trans hk2)⟩
      cases e2 with
      | normal =>
        obtain ⟨hkk, hi3⟩ := hp
        obtain ⟨hr, hl4, hk4⟩ := fin none hkk
        exact ⟨_, _, hr, .inl ⟨rfl, hI _ _ _ _ hi3 (grownBy_putObj' W3 _ _) (fun r e => by cases e; rfl), hl4, hk4⟩⟩
      | ret =>
        obtain ⟨hkk, hi3⟩ := hp
        obtain ⟨hr, hl4, hk4⟩ := fin (some .ret) hkk
        exact ⟨_, _, hr, .inr ⟨rfl, _, hIx _ _ _ _ hi3 (grownBy_putObj' W3 _ _), hl4, hk4⟩⟩
      | exit id =>
        obtain ⟨hkk, hi3⟩ := hp
        obtain ⟨hr, hl4, hk4⟩ := fin (some (.exit id)) hkk
        exact ⟨_, _, hr, .inr ⟨rfl, _, hIx _ _ _ _ hi3 (grownBy_putObj' W3 _ _), hl4, hk4⟩⟩
      | goto t =>
        obtain ⟨hkk, hi3⟩ := hp
        obtain ⟨hr, hl4, hk4⟩ := fin (some (.goto t)) hkk
        exact ⟨_, _, hr, .inr ⟨rfl, _, hIx _ _ _ _ hi3 (grownBy_putObj' W3 _ _), hl4, hk4⟩⟩
      | panic ch => exact hp.elim
      | outgrown => exact hp.elim
    | ret => exact hq.elim
    | exit id => exact hq.elim
    | goto t => exact hq.elim
    | panic ch => exact hq.elim
    | outgrown => exact hq.elim
  · rintro i W o ⟨hi, hl, hk⟩
    have hg2 := World.grownBy_alloc W o none
    exact ⟨hI _ _ _ none hi hg2 (fun r e => by cases e), (hg2.block _ (Array.getElem?_eq_some_iff.1 hl).1 nofun).trans hl, (hg2.block _ (Array.getElem?_eq_some_iff.1 hk).1 nofun).trans hk⟩
  · rintro i W ⟨hi, _, _⟩
    obtain ⟨hsz, hbl⟩ := hIk i W hi
    refine ⟨fun j x hx p u hu => ?_, ?_, by omega⟩
    · rw [← hl j x hx p u hu]
      exact World.cell?_of_block (a := ⟨g, _, none⟩) (hbl g (.inl rfl))
    · rw [← hf]
      exact World.cell?_of_block (a := ⟨f, 0, none⟩) (hbl f (.inr (.inr rfl)))
  · rintro e W2 ⟨⟨v, rfl⟩, (⟨hi, hl, hk⟩ | ⟨i, hlt, c, hi, hl, hk⟩)⟩
    · refine ⟨none, _, by have := run_endLoop (P := Try.prog) hl (by rw [hrec]; simp [recO]); rw [hrec] at this; exact this, ?_⟩
      exact hdone _ (hI _ _ _ _ hi (grownBy_putObj' W2 _ _) (fun r e => by cases e; rfl)) ((World.putObj_heap_other (by omega)).trans hk)
    · refine ⟨some c, _, by have := run_endLoop (P := Try.prog) hl (by rw [hrec]; simp [recO]); rw [hrec] at this; exact this, ?_⟩
      exact hstop c i _ hlt (hIx _ _ _ _ hi (grownBy_putObj' W2 _ _)) ((World.putObj_heap_other (by omega)).trans hk)

end Go.Proofs.Ytolnkoneilipeaa
