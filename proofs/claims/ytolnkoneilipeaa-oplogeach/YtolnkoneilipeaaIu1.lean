import Derived.Test.YtolnkoneilipeaaLb
import Derived.RangeFuncOwn
import Derived.RangeFuncCalls
import Derived.RangeFuncLeaves
import Derived.RangeFuncNested
import Derived.Shelf.Abstract
import Derived.OwnWalkIn
import Derived.TacticsInMore
import Derived.LoopNIn
import Derived.LoopIn
namespace Go.Proofs.Ytolnkoneilipeaa
open Go.RowKit Go.Shelf
set_option linter.unusedVariables false
attribute [local go_sem] Oper.semAt_some

/-- What an iterator over a list keeps: it hands on enc 0, enc 1, .. till a round says no. -/
def Iter (n gf : Nat) (lb : Array Value) (len : Nat) (enc : Nat → Array Value) (Kp : World → Prop) : Prop :=
  ∀ (l : Nat) (J Jx : Nat → World → Prop) (W : World),
    (∀ i W, i < len → J i W → YieldAt Fence.wide (n - 1) Try.prog l (enc i) W fun e W' => (e = .returned (.bool true) ∧ J (i + 1) W') ∨ (e = .returned (.bool false) ∧ Jx i W')) →
    (∀ i W o, J i W → J i (W.alloc o)) → (∀ i W, J i W → Kp W) → J 0 W →
    CallsIn Fence.wide n Try.prog gf (#[.func (.yield l) #[] #[]] ++ lb) W fun e W' => (∃ v, e = .returned v) ∧ (J len W' ∨ ∃ i, i < len ∧ Jx i W')
/-- How a round may be left: the blocks of the loop's book lie as they lay. -/
def itPost (I : Nat → World → Prop) (Ix : Code → Nat → World → Prop) (K : Nat → Prop) (i : Nat) (W : World) : Exit → Act → World → Prop
  | .normal, _, W' => (∀ k, K k → W'.heap[k]? = W.heap[k]?) ∧ I (i + 1) W'
  | .ret, _, W' => (∀ k, K k → W'.heap[k]? = W.heap[k]?) ∧ Ix .ret i W'
  | .exit id, _, W' => (∀ k, K k → W'.heap[k]? = W.heap[k]?) ∧ Ix (.exit id) i W'
  | .goto t, _, W' => (∀ k, K k → W'.heap[k]? = W.heap[k]?) ∧ Ix (.goto t) i W'
  | .panic _, _, _ => False
  | .outgrown, _, _ => False
/-- The record of a loop over a function. -/
def recI (fn : FuncId) (tmps : Array Value) (ps : Array Tmp) (assign body : Code) (z : Nat) (st : LoopState) (pe : Option Code) : Loop := { state := st, pending := pe, fn, tmps, params := ps, assign, body, defers := z }
/-- The rounds of such a loop, whatever lies beside its record l. -/
theorem it_call {n gf : Nat} {lb : Array Value} {len : Nat} {enc : Nat → Array Value} {Kp : World → Prop} {F : Fence} (hF : ∀ f, F.fn f → Fence.wide.fn f) {ps : Array Tmp} {assign body : Code} {Q : Exit → Act → World → Prop} {a a' : Act} {W1 : World} {m l z : Nat} {fn : FuncId}
    (hit : Iter n gf lb len enc Kp) (hps : ∀ i, i < len → (enc i).size = ps.size) (K : Nat → Prop) (hKl : K l)
    (I : Nat → World → Prop) (Ix : Code → Nat → World → Prop)
    (hI : ∀ i W W' row, I i W → W.grownBy W' row → (∀ r, row = some r → r = l) → I i W')
    (hIx : ∀ c i W W', Ix c i W → W.grownBy W' (some l) → Ix c i W')
    (hIk : ∀ i W, I i W → Kp W)
    (h0 : I 0 W1) (hL1 : W1.heap[l]? = some (.loop (recI fn a.tmps ps assign body z .ready none))) (hKW : ∀ k, K k → k < W1.heap.size)
    (hround : ∀ i W, i < len → I i W → l < W.heap.size →
      assign.wpIn (Fence.wide.inRound l) (n - 1) Try.prog (Exit.then (fun a₁ W₁ => (I i W₁ ∧ ∀ k, K k → W₁.heap[k]? = W.heap[k]?) ∧ ∀ W₂, I i W₂ → W₁.grownBy W₂ (some l) → (∃ r, W₂.heap[l]? = some (.loop r)) → body.wpIn (Fence.wide.inRound l) (n - 1) Try.prog (itPost I Ix K i W₂) a₁ W₂) (fun _ _ _ => False))
        { tmps := (ps.zip (enc i)).foldl (fun t (p, v) => t.setIfInBounds p v) a.tmps, defers := [] } W)
    (hdone : ∀ W, I len W → (∀ k, K k → k ≠ l → W.heap[k]? = W1.heap[k]?) → Q .normal a' W)
    (hstop : ∀ c i W, i < len → Ix c i W → (∀ k, K k → k ≠ l → W.heap[k]? = W1.heap[k]?) → c.wpIn F m Try.prog Q a' W) :
    CallsIn Fence.wide n Try.prog gf (#[.func (.yield l) #[] #[]] ++ lb) W1 (rangePost F m Try.prog l Q a') := by
  obtain ⟨rec, hrec⟩ : ∃ rec, rec = recI fn a.tmps ps assign body z := ⟨_, rfl⟩
  rw [← hrec] at hL1
  refine (hit l
    (fun i W => I i W ∧ W.heap[l]? = some (.loop (rec .ready none)) ∧ ∀ k, K k → k ≠ l → W.heap[k]? = W1.heap[k]?)
    (fun i W => ∃ c, Ix c i W ∧ W.heap[l]? = some (.loop (rec .done (some c))) ∧ ∀ k, K k → k ≠ l → W.heap[k]? = W1.heap[k]?) W1 ?_ ?_ (fun i W h => hIk i W h.1) ⟨h0, hL1, fun _ _ _ => rfl⟩).mono ?_
  · rintro i W hi0 ⟨hi, hl, hk⟩
    have hlt : l < W.heap.size := (Array.getElem?_eq_some_iff.1 hl).1
    have hy := run_yield (P := Try.prog) (args := enc i) hl (by rw [hrec]; exact hps i hi0)
    rw [hrec] at hy
    refine ⟨fn, _, assign, body, hy, roundIn_of_wpIn trivial (wpIn_mono (hround i W hi0 hi hlt) fun e a1 w1 hq => ?_)⟩
    clear hy
    cases e with
    | normal =>
      obtain ⟨⟨hi1, hz⟩, hb⟩ := hq
      have hl1 := (hz l hKl).trans hl
      have hlt1 : l < w1.heap.size := (Array.getElem?_eq_some_iff.1 hl1).1
      refine ⟨_, run_beginRound hl1 (by rw [hrec]; rfl), ?_⟩
      have hg2 := grownBy_putObj' w1 l (.loop { rec .ready none with state := .busy })
      have hl2 : (w1.putObj l (.loop { rec .ready none with state := .busy })).heap[l]? = some (.loop { rec .ready none with state := .busy }) := World.putObj_heap_same hlt1
      have hk2 : ∀ k, K k → k ≠ l → (w1.putObj l (.loop { rec .ready none with state := .busy })).heap[k]? = W1.heap[k]? := fun k h1 h2 => (World.putObj_heap_other h2).trans ((hz k h1).trans (hk k h1 h2))
      refine wpIn_mono (hb _ (hI _ _ _ _ hi1 hg2 (fun r e => by cases e; rfl)) hg2 ⟨_, hl2⟩) fun e2 a3 W3 hp => ?_
      have fin : ∀ (jump : Option Code), (∀ k, K k → W3.heap[k]? = (w1.putObj l (.loop { rec .ready none with state := .busy })).heap[k]?) →
          (Instr.endRound l jump).run Try.prog W3 = .ok (.bool jump.isNone) (W3.putObj l (.loop (rec (if jump.isNone then .ready else .done) jump))) ∧
          (W3.putObj l (.loop (rec (if jump.isNone then .ready else .done) jump))).heap[l]? = some (.loop (rec (if jump.isNone then .ready else .done) jump)) ∧
          ∀ k, K k → k ≠ l → (W3.putObj l (.loop (rec (if jump.isNone then .ready else .done) jump))).heap[k]? = W1.heap[k]? := fun jump hkk => by
        have hl3 := (hkk l hKl).trans hl2
        have := run_endRound (P := Try.prog) jump hl3
        rw [hrec] at this ⊢
        exact ⟨this, World.putObj_heap_same (Array.getElem?_eq_some_iff.1 hl3).1, fun k h1 h2 => (World.putObj_heap_other h2).trans ((hkk k h1).trans (hk2 k h1 h2))⟩
      cases e2 with
      | normal =>
        obtain ⟨hkk, hi3⟩ := hp
        obtain ⟨hr, hl4, hk4⟩ := fin none hkk
        exact ⟨_, _, hr, .inl ⟨rfl, hI _ _ _ _ hi3 (grownBy_putObj' W3 _ _) (fun r e => by cases e; rfl), hl4, hk4⟩⟩
      | ret =>
        obtain ⟨hkk, hi3⟩ := hp
        obtain ⟨hr, hl4, hk4⟩ := fin (some .ret) hkk
        exact ⟨_, _, hr, .inr ⟨rfl, _, hIx _ _ _ _ hi3 (grownBy_putObj' W3 _ _), hl4, hk4⟩⟩
      | exit id =>
        obtain ⟨hkk, hi3⟩ := hp
        obtain ⟨hr, hl4, hk4⟩ := fin (some (.exit id)) hkk
        exact ⟨_, _, hr, .inr ⟨rfl, _, hIx _ _ _ _ hi3 (grownBy_putObj' W3 _ _), hl4, hk4⟩⟩
      | goto t =>
        obtain ⟨hkk, hi3⟩ := hp
        obtain ⟨hr, hl4, hk4⟩ := fin (some (.goto t)) hkk
        exact ⟨_, _, hr, .inr ⟨rfl, _, hIx _ _ _ _ hi3 (grownBy_putObj' W3 _ _), hl4, hk4⟩⟩
      | panic ch => exact hp.elim
      | outgrown => exact hp.elim
    | ret => exact hq.elim
    | exit id => exact hq.elim
    | goto t => exact hq.elim
    | panic ch => exact hq.elim
    | outgrown => exact hq.elim
  · rintro i W o ⟨hi, hl, hk⟩
    have hg2 := World.grownBy_alloc W o none
    have hlt : ∀ k, K k → k ≠ l → k < W.heap.size := fun k h1 h2 => by
      have := hKW k h1
      have e := hk k h1 h2
      rw [Array.getElem?_eq_getElem this] at e
      exact (Array.getElem?_eq_some_iff.1 e).1
    exact ⟨hI _ _ _ none hi hg2 (fun r e => by cases e), (hg2.block _ (Array.getElem?_eq_some_iff.1 hl).1 nofun).trans hl, fun k h1 h2 => (hg2.block _ (hlt k h1 h2) nofun).trans (hk k h1 h2)⟩
  · rintro e W2 ⟨⟨v, rfl⟩, (⟨hi, hl, hk⟩ | ⟨i, hlt, c, hi, hl, hk⟩)⟩
    · refine ⟨none, _, by have := run_endLoop (P := Try.prog) hl (by rw [hrec]; simp [recI]); rw [hrec] at this; exact this, ?_⟩
      exact hdone _ (hI _ _ _ _ hi (grownBy_putObj' W2 _ _) (fun r e => by cases e; rfl)) (fun k h1 h2 => (World.putObj_heap_other h2).trans (hk k h1 h2))
    · refine ⟨some c, _, by have := run_endLoop (P := Try.prog) hl (by rw [hrec]; simp [recI]); rw [hrec] at this; exact this, ?_⟩
      exact hstop c i _ hlt (hIx _ _ _ _ hi (grownBy_putObj' W2 _ _)) (fun k h1 h2 => (World.putObj_heap_other h2).trans (hk k h1 h2))
/-- A range over such an iterator, outermost. -/
theorem over_it {n gf : Nat} {lb : Array Value} {len : Nat} {enc : Nat → Array Value} {Kp : World → Prop} {gg : Operand} {ps : Array Tmp} {assign body : Code} {Q : Exit → Act → World → Prop} {a : Act} {w : World} (hn : 1 ≤ n)
    (hit : Iter (n - 1) gf lb len enc Kp) (eg : ∀ args w, (callFunc gf args).run Try.prog w = .ok (.enter gf args) w)
    (hg : a.eval gg = .func (.func gf) #[] lb) (hps : ∀ i, i < len → (enc i).size = ps.size)
    (I : Nat → World → Prop) (Ix : Code → Nat → World → Prop)
    (hI : ∀ i W W' row, I i W → W.grownBy W' row → (∀ r, row = some r → r = w.heap.size + 1) → I i W')
    (hIx : ∀ c i W W', Ix c i W → W.grownBy W' (some (w.heap.size + 1)) → Ix c i W')
    (hIk : ∀ i W, I i W → Kp W)
    (h0 : I 0 w)
    (hround : ∀ i W, i < len → I i W → w.heap.size + 1 < W.heap.size →
      assign.wpIn (Fence.wide.inRound (w.heap.size + 1)) (n - 1 - 1) Try.prog (Exit.then (fun a₁ W₁ => (I i W₁ ∧ ∀ k, (k = w.heap.size ∨ k = w.heap.size + 1) → W₁.heap[k]? = W.heap[k]?) ∧ ∀ W₂, I i W₂ → W₁.grownBy W₂ (some (w.heap.size + 1)) → (∃ r, W₂.heap[w.heap.size + 1]? = some (.loop r)) → body.wpIn (Fence.wide.inRound (w.heap.size + 1)) (n - 1 - 1) Try.prog (itPost I Ix (fun k => k = w.heap.size ∨ k = w.heap.size + 1) i W₂) a₁ W₂) (fun _ _ _ => False))
        { tmps := (ps.zip (enc i)).foldl (fun t (p, v) => t.setIfInBounds p v) a.tmps, defers := [] } W)
    (hdone : ∀ W, I len W → W.heap[w.heap.size]? = some (.deferred (some [])) → Q .normal { a with defers := [{ target := .collected w.heap.size, args := #[] }] ++ a.defers } W)
    (hstop : ∀ c i W, i < len → Ix c i W → W.heap[w.heap.size]? = some (.deferred (some [])) → c.wpIn Fence.wide n Try.prog Q { a with defers := [{ target := .collected w.heap.size, args := #[] }] ++ a.defers } W) :
    (Code.rangeFunc gg ps assign body).wpIn Fence.wide n Try.prog Q a w := by
  refine wpIn_rangeFunc fun fn hfn => ?_
  obtain ⟨W1, hW1⟩ : ∃ W1, W1 = (w.alloc (.deferred (some []))).alloc (.loop (recI fn a.tmps ps assign body w.heap.size .ready none)) := ⟨_, rfl⟩
  have he : (Instr.enterLoop fn a.tmps ps assign body none).run Try.prog w = .ok (w.heap.size + 1, [{ target := .collected w.heap.size, args := #[] }]) W1 := by
    rw [hW1]
    exact run_enterLoop_outer fn a.tmps ps assign body
  have hL1 : W1.heap[w.heap.size + 1]? = some (.loop (recI fn a.tmps ps assign body w.heap.size .ready none)) := by
    rw [hW1]; have := World.alloc_heap_new (w.alloc (.deferred (some []))) (.loop (recI fn a.tmps ps assign body w.heap.size .ready none)); rwa [World.size_alloc] at this
  have hK1 : W1.heap[w.heap.size]? = some (.deferred (some [])) := by
    rw [hW1]; exact (Below.heap_alloc _ _ _ (by simp)).trans (World.alloc_heap_new w _)
  have hI1 : I 0 W1 := by
    rw [hW1]
    exact hI _ _ _ none (hI _ _ _ none h0 (World.grownBy_alloc w _ none) (fun r e => by cases e)) (World.grownBy_alloc _ _ none) (fun r e => by cases e)
  have hres : (resolve a.eval (rangeCall gg (w.heap.size + 1)) 0).run Try.prog W1 = .ok { target := .fn (.func gf) lb, args := #[.func (.yield (w.heap.size + 1)) #[] #[]] } W1 := by
    simp only [resolve, hg]
    simp [go_sem]
  have hinv : (invoke (.fn (.func gf) lb) #[.func (.yield (w.heap.size + 1)) #[] #[]]).run Try.prog W1 = .ok (.enter gf (#[.func (.yield (w.heap.size + 1)) #[] #[]] ++ lb)) W1 := by
    simp [invoke, go_sem, eg]
  refine ⟨w.heap.size + 1, [{ target := .collected w.heap.size, args := #[] }], W1, _, W1, gf, _, W1, he, hres, ?_, hinv, ?_, ?_⟩
  · intro f' _; trivial
  · intro _; exact hn
  exact it_call (F := Fence.wide) (fun f h => trivial) hit hps (fun k => k = w.heap.size ∨ k = w.heap.size + 1) (.inr rfl) I Ix hI hIx hIk hI1 hL1 (fun k hk => by
      have h1 := (Array.getElem?_eq_some_iff.1 hL1).1
      rcases hk with rfl | rfl <;> omega) hround
    (fun W h hk => hdone W h ((hk _ (.inl rfl) (by omega)).trans hK1)) (fun c i W hi h hk => hstop c i W hi h ((hk _ (.inl rfl) (by omega)).trans hK1))
/-- A range over such an iterator within a round of the loop l0. -/
theorem over_itN {n gf : Nat} {lb : Array Value} {len : Nat} {enc : Nat → Array Value} {Kp : World → Prop} {gg : Operand} {ps : Array Tmp} {assign body : Code} {Q : Exit → Act → World → Prop} {a : Act} {w : World} {l0 : Nat} {r0 : Loop} (hl0 : w.heap[l0]? = some (.loop r0)) (hn : 1 ≤ n)
    (hit : Iter (n - 1) gf lb len enc Kp) (eg : ∀ args w, (callFunc gf args).run Try.prog w = .ok (.enter gf args) w)
    (hg : a.eval gg = .func (.func gf) #[] lb) (hps : ∀ i, i < len → (enc i).size = ps.size)
    (I : Nat → World → Prop) (Ix : Code → Nat → World → Prop)
    (hI : ∀ i W W' row, I i W → W.grownBy W' row → (∀ r, row = some r → r = w.heap.size) → I i W')
    (hIx : ∀ c i W W', Ix c i W → W.grownBy W' (some w.heap.size) → Ix c i W')
    (hIk : ∀ i W, I i W → Kp W)
    (h0 : I 0 w)
    (hround : ∀ i W, i < len → I i W → w.heap.size < W.heap.size →
      assign.wpIn (Fence.wide.inRound w.heap.size) (n - 1 - 1) Try.prog (Exit.then (fun a₁ W₁ => (I i W₁ ∧ ∀ k, k = w.heap.size → W₁.heap[k]? = W.heap[k]?) ∧ ∀ W₂, I i W₂ → W₁.grownBy W₂ (some w.heap.size) → (∃ r, W₂.heap[w.heap.size]? = some (.loop r)) → body.wpIn (Fence.wide.inRound w.heap.size) (n - 1 - 1) Try.prog (itPost I Ix (fun k => k = w.heap.size) i W₂) a₁ W₂) (fun _ _ _ => False))
        { tmps := (ps.zip (enc i)).foldl (fun t (p, v) => t.setIfInBounds p v) a.tmps, defers := [] } W)
    (hdone : ∀ W, I len W → Q .normal a W)
    (hstop : ∀ c i W, i < len → Ix c i W → c.wpIn (Fence.wide.inRound l0) n Try.prog Q a W) :
    (Code.rangeFunc gg ps assign body).wpIn (Fence.wide.inRound l0) n Try.prog Q a w := by
  refine wpIn_rangeFunc fun fn hfn => ?_
  obtain ⟨W1, hW1⟩ : ∃ W1, W1 = w.alloc (.loop (recI fn a.tmps ps assign body r0.defers .ready none)) := ⟨_, rfl⟩
  have he : (Instr.enterLoop fn a.tmps ps assign body (some l0)).run Try.prog w = .ok (w.heap.size, []) W1 := by
    rw [hW1]
    exact run_enterLoop_inner hl0 fn a.tmps ps assign body
  have hL1 : W1.heap[w.heap.size]? = some (.loop (recI fn a.tmps ps assign body r0.defers .ready none)) := by
    rw [hW1]; exact World.alloc_heap_new w _
  have hI1 : I 0 W1 := by
    rw [hW1]
    exact hI _ _ _ none h0 (World.grownBy_alloc w _ none) (fun r e => by cases e)
  have hres : (resolve a.eval (rangeCall gg w.heap.size) 0).run Try.prog W1 = .ok { target := .fn (.func gf) lb, args := #[.func (.yield w.heap.size) #[] #[]] } W1 := by
    simp only [resolve, hg]
    simp [go_sem]
  have hinv : (invoke (.fn (.func gf) lb) #[.func (.yield w.heap.size) #[] #[]]).run Try.prog W1 = .ok (.enter gf (#[.func (.yield w.heap.size) #[] #[]] ++ lb)) W1 := by
    simp [invoke, go_sem, eg]
  refine ⟨w.heap.size, [], W1, _, W1, gf, _, W1, he, hres, ?_, hinv, ?_, ?_⟩
  · intro f' _; trivial
  · intro _; exact hn
  refine CallsIn.inRound l0 ?_
  exact it_call (F := Fence.wide.inRound l0) (fun f h => trivial) hit hps (fun k => k = w.heap.size) rfl I Ix hI hIx hIk hI1 hL1 (fun k hk => by
      have h1 := (Array.getElem?_eq_some_iff.1 hL1).1
      omega) hround
    (fun W h hk => hdone W h) (fun c i W hi h hk => hstop c i W hi h)
/-- Marks of loops that are done: each block lies open, none stands twice. -/
def Marks (w : World) : List Nat → List Deferred → Prop
  | [], ds => ds = []
  | r :: rs, ds => ∃ ds', ds = { target := .collected r, args := #[] } :: ds' ∧ w.heap[r]? = some (.deferred (some [])) ∧ r ∉ rs ∧ Marks w rs ds'
theorem Marks.on {w w' : World} : ∀ {rs : List Nat} {ds : List Deferred}, Marks w rs ds → (∀ r, r ∈ rs → w.heap[r]? = some (.deferred (some [])) → w'.heap[r]? = some (.deferred (some []))) → Marks w' rs ds
  | [], _, h, _ => h
  | r :: rs, ds, ⟨ds', h1, h2, h3, h4⟩, h => ⟨ds', h1, h r (by simp) h2, h3, h4.on (fun k hk => h k (by simp [hk]))⟩
theorem Marks.at {w : World} : ∀ {rs : List Nat} {ds : List Deferred}, Marks w rs ds → ∀ r, r ∈ rs → w.heap[r]? = some (.deferred (some []))
  | r :: rs, ds, ⟨ds', h1, h2, h3, h4⟩, k, hk => by
    rcases List.mem_cons.1 hk with rfl | hk
    · exact h2
    · exact h4.at k hk
theorem Marks.cons {w : World} {rs : List Nat} {ds : List Deferred} (h : Marks w rs ds) {r : Nat} (hr : w.heap[r]? = some (.deferred (some []))) (hn : r ∉ rs) : Marks w (r :: rs) ({ target := .collected r, args := #[] } :: ds) := ⟨ds, rfl, hr, hn, h⟩
/-- A function's end with such marks: they are taken one by one. -/
theorem Marks.leave {n : Nat} {fn : Func} {tmps : Array Value} {R : Ending → World → Prop} : ∀ {rs : List Nat} {ds : List Deferred} {w : World}, Marks w rs ds →
    (∀ w', Upd (· ∈ rs) w w' → LeavesIn Fence.wide n Try.prog fn tmps R [] .returning w') → LeavesInM Fence.wide n Try.prog fn tmps R ds .returning w
  | [], _, w, rfl, h => h w (Upd.refl _ _)
  | r :: rs, _, w, ⟨ds', rfl, h2, h3, h4⟩, h => by
    refine ⟨by simp, .inl ⟨r, _, rfl, run_takeDeferred h2, ?_⟩⟩
    have hu : Upd (· = r) w (w.putObj r (.deferred none)) := (Upd.refl _ w).grownBy (grownBy_putObj' w r _) (fun i e _ => by cases e; rfl)
    refine Marks.leave (rs := rs) (h4.on (fun k hk e => (World.putObj_heap_other (fun e2 => h3 (by rw [← e2]; exact hk))).trans e)) (fun w' hw' => h w' ?_)
    exact Upd.trans (hu.mono (fun k _ e => List.mem_cons.2 (.inl e))) (hw'.mono (fun k _ e => List.mem_cons.2 (.inr e)))

end Go.Proofs.Ytolnkoneilipeaa
