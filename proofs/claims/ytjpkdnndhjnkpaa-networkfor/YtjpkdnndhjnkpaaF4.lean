import Derived.Test.YtjpkdnndhjnkpaaF3
set_option maxRecDepth 100000
set_option linter.unusedVariables false
set_option linter.unusedSimpArgs false
namespace Go.Proofs.Ytjpkdnndhjnkpaa
open Go.RowKit Go.Shelf
attribute [local go_sem] Oper.semAt_some
theorem grown_below {w w' : World} (h : Below w.heap.size w w') : w.grownBy w' none := ⟨h.os, h.tape, h.output, h.size, fun k hk _ => h.block k hk⟩
def IterR (n gf : Nat) (lb : Array Value) (len : Nat) (E : Nat → Array Value → World → World → Prop) (Kp : World → Prop) : Prop :=
  ∀ (l : Nat) (J Jx : Nat → World → Prop) (W : World),
    (∀ i vs W0 W, i < len → J i W0 → E i vs W0 W → YieldAt Fence.wide (n - 1) Try.prog l vs W fun e W' => (e = .returned (.bool true) ∧ J (i + 1) W') ∨ (e = .returned (.bool false) ∧ Jx i W')) →
    (∀ i W, J i W → Kp W) → J 0 W →
    CallsIn Fence.wide n Try.prog gf (#[.func (.yield l) #[] #[]] ++ lb) W fun e W' => (∃ v, e = .returned v) ∧ (J len W' ∨ ∃ i, i < len ∧ Jx i W')
theorem itr_call {n gf : Nat} {lb : Array Value} {len : Nat} {E : Nat → Array Value → World → World → Prop} {Kp : World → Prop} {F : Fence} (hF : ∀ f, F.fn f → Fence.wide.fn f) {ps : Array Tmp} {assign body : Code} {Q : Exit → Act → World → Prop} {a a' : Act} {W1 : World} {m l z : Nat} {fn : FuncId}
    (hit : IterR n gf lb len E Kp) (hps : ∀ i vs W0 W, E i vs W0 W → vs.size = ps.size ∧ Below W0.heap.size W0 W) (K : Nat → Prop) (hKl : K l)
    (I : Nat → World → Prop) (Ix : Code → Nat → World → Prop)
    (hI : ∀ i W W' row, I i W → W.grownBy W' row → (∀ r, row = some r → r = l) → I i W')
    (hIx : ∀ c i W W', Ix c i W → W.grownBy W' (some l) → Ix c i W')
    (hIk : ∀ i W, I i W → Kp W)
    (h0 : I 0 W1) (hL1 : W1.heap[l]? = some (.loop (recI fn a.tmps ps assign body z .ready none))) (hKW : ∀ k, K k → k < W1.heap.size)
    (hround : ∀ i vs W0 W, i < len → I i W0 → I i W → E i vs W0 W → l < W0.heap.size →
      assign.wpIn (Fence.wide.inRound l) (n - 1) Try.prog (Exit.then (fun a₁ W₁ => (I i W₁ ∧ ∀ k, K k → W₁.heap[k]? = W.heap[k]?) ∧ ∀ W₂, I i W₂ → W₁.grownBy W₂ (some l) → (∃ r, W₂.heap[l]? = some (.loop r)) → body.wpIn (Fence.wide.inRound l) (n - 1) Try.prog (itPost I Ix K i W₂) a₁ W₂) (fun _ _ _ => False))
        { tmps := (ps.zip vs).foldl (fun t (p, v) => t.setIfInBounds p v) a.tmps, defers := [] } W)
    (hdone : ∀ W, I len W → (∀ k, K k → k ≠ l → W.heap[k]? = W1.heap[k]?) → Q .normal a' W)
    (hstop : ∀ c i W, i < len → Ix c i W → (∀ k, K k → k ≠ l → W.heap[k]? = W1.heap[k]?) → c.wpIn F m Try.prog Q a' W) :
    CallsIn Fence.wide n Try.prog gf (#[.func (.yield l) #[] #[]] ++ lb) W1 (rangePost F m Try.prog l Q a') := by
  obtain ⟨rec, hrec⟩ : ∃ rec, rec = recI fn a.tmps ps assign body z := ⟨_, rfl⟩
  rw [← hrec] at hL1
  refine (hit l
    (fun i W => I i W ∧ W.heap[l]? = some (.loop (rec .ready none)) ∧ ∀ k, K k → k ≠ l → W.heap[k]? = W1.heap[k]?)
    (fun i W => ∃ c, Ix c i W ∧ W.heap[l]? = some (.loop (rec .done (some c))) ∧ ∀ k, K k → k ≠ l → W.heap[k]? = W1.heap[k]?) W1 ?_ (fun i W h => hIk i W h.1) ⟨h0, hL1, fun _ _ _ => rfl⟩).mono ?_
  · rintro i vs W0 W hi0 ⟨hi', hl', hk'⟩ hE
    obtain ⟨hsz, hbe⟩ := hps _ _ _ _ hE
    have hlt0 : l < W0.heap.size := (Array.getElem?_eq_some_iff.1 hl').1
    have hl := (hbe.block l hlt0).trans hl'
    have hi := hI _ _ _ none hi' (grown_below hbe) (fun r e => by cases e)
    have hk : ∀ k, K k → k ≠ l → W.heap[k]? = W1.heap[k]? := fun k h1 h2 => by
      have := hKW k h1
      have e := hk' k h1 h2
      rw [Array.getElem?_eq_getElem this] at e
      exact (hbe.block k (Array.getElem?_eq_some_iff.1 e).1).trans (hk' k h1 h2)
    have hy := run_yield (P := Try.prog) (args := vs) hl (by rw [hrec]; exact hsz)
    rw [hrec] at hy
    refine ⟨fn, _, assign, body, hy, roundIn_of_wpIn trivial (wpIn_mono (hround i vs W0 W hi0 hi' hi hE hlt0) fun e a1 w1 hq => ?_)⟩
    clear hy
    cases e with
    | normal =>
      obtain ⟨⟨hi1, hz⟩, hb⟩ := hq
      have hl1 := (hz l hKl).trans hl
      have hlt1 : l < w1.heap.size := (Array.getElem?_eq_some_iff.1 hl1).1
      refine ⟨_, run_beginRound hl1 (by rw [hrec]; rfl), ?_⟩
      have hg2 := grownBy_putObj' w1 l (.loop { rec .ready none with state := .busy })
      have hl2 : (w1.putObj l (.loop { rec .ready none with state := .busy })).heap[l]? = some (.loop { rec .ready none with state := .busy }) := World.putObj_heap_same hlt1
      have hk2 : ∀ k, K k → k ≠ l → (w1.putObj l (.loop { rec .ready none with state := .busy })).heap[k]? = W1.heap[k]? := fun k h1 h2 => (World.putObj_heap_other h2).trans ((hz k h1).trans (hk k h1 h2))
      refine wpIn_mono (hb _ (hI _ _ _ _ hi1 hg2 (fun r e => by cases e; rfl)) hg2 ⟨_, hl2⟩) fun e2 a3 W3 hp => ?_
      have fin : ∀ (jump : Option Code), (∀ k, K k → W3.heap[k]? = (w1.putObj l (.loop { rec .ready none with state := .busy })).heap[k]?) →
          (Instr.endRound l jump).run Try.prog W3 = .ok (.bool jump.isNone) (W3.putObj l (.loop (rec (if jump.isNone then .ready else .done) jump))) ∧
          (W3.putObj l (.loop (rec (if jump.isNone then .ready else .done) jump))).heap[l]? = some (.loop (rec (if jump.isNone then .ready else .done) jump)) ∧
          ∀ k, K k → k ≠ l → (W3.putObj l (.loop (rec (if jump.isNone then .ready else .done) jump))).heap[k]? = W1.heap[k]? := fun jump hkk => by
        have hl3 := (hkk l hKl).trans hl2
        have := run_endRound (P := Try.prog) jump hl3
        rw [hrec] at this ⊢
        exact ⟨this, World.putObj_heap_same (Array.getElem?_eq_some_iff.1 hl3).1, fun k h1 h2 => (World.putObj_heap_other h2).trans ((hkk k h1).trans (hk2 k h1 h2))⟩
      cases e2 with
      | normal =>
        obtain ⟨hkk, hi3⟩ := hp
        obtain ⟨hr, hl4, hk4⟩ := fin none hkk
        exact ⟨_, _, hr, .inl ⟨rfl, hI _ _ _ _ hi3 (grownBy_putObj' W3 _ _) (fun r e => by cases e; rfl), hl4, hk4⟩⟩
      | ret =>
        obtain ⟨hkk, hi3⟩ := hp
        obtain ⟨hr, hl4, hk4⟩ := fin (some .ret) hkk
        exact ⟨_, _, hr, .inr ⟨rfl, _, hIx _ _ _ _ hi3 (grownBy_putObj' W3 _ _), hl4, hk4⟩⟩
      | exit id =>
        obtain ⟨hkk, hi3⟩ := hp
        obtain ⟨hr, hl4, hk4⟩ := fin (some (.exit id)) hkk
        exact ⟨_, _, hr, .inr ⟨rfl, _, hIx _ _ _ _ hi3 (grownBy_putObj' W3 _ _), hl4, hk4⟩⟩
      | goto t =>
        obtain ⟨hkk, hi3⟩ := hp
        obtain ⟨hr, hl4, hk4⟩ := fin (some (.goto t)) hkk
        exact ⟨_, _, hr, .inr ⟨rfl, _, hIx _ _ _ _ hi3 (grownBy_putObj' W3 _ _), hl4, hk4⟩⟩
      | panic ch => exact hp.elim
      | outgrown => exact hp.elim
    | ret => exact hq.elim
    | exit id => exact hq.elim
    | goto t => exact hq.elim
    | panic ch => exact hq.elim
    | outgrown => exact hq.elim
  · rintro e W2 ⟨⟨v, rfl⟩, (⟨hi, hl, hk⟩ | ⟨i, hlt, c, hi, hl, hk⟩)⟩
    · refine ⟨none, _, by have := run_endLoop (P := Try.prog) hl (by rw [hrec]; simp [recI]); rw [hrec] at this; exact this, ?_⟩
      exact hdone _ (hI _ _ _ _ hi (grownBy_putObj' W2 _ _) (fun r e => by cases e; rfl)) (fun k h1 h2 => (World.putObj_heap_other h2).trans (hk k h1 h2))
    · refine ⟨some c, _, by have := run_endLoop (P := Try.prog) hl (by rw [hrec]; simp [recI]); rw [hrec] at this; exact this, ?_⟩
      exact hstop c i _ hlt (hIx _ _ _ _ hi (grownBy_putObj' W2 _ _)) (fun k h1 h2 => (World.putObj_heap_other h2).trans (hk k h1 h2))
theorem over_itr {n gf : Nat} {lb : Array Value} {len : Nat} {E : Nat → Array Value → World → World → Prop} {Kp : World → Prop} {gg : Operand} {ps : Array Tmp} {assign body : Code} {Q : Exit → Act → World → Prop} {a : Act} {w : World} (hn : 1 ≤ n)
    (hit : IterR (n - 1) gf lb len E Kp) (eg : ∀ args w, (callFunc gf args).run Try.prog w = .ok (.enter gf args) w)
    (hg : a.eval gg = .func (.func gf) #[] lb) (hps : ∀ i vs W0 W, E i vs W0 W → vs.size = ps.size ∧ Below W0.heap.size W0 W)
    (I : Nat → World → Prop) (Ix : Code → Nat → World → Prop)
    (hI : ∀ i W W' row, I i W → W.grownBy W' row → (∀ r, row = some r → r = w.heap.size + 1) → I i W')
    (hIx : ∀ c i W W', Ix c i W → W.grownBy W' (some (w.heap.size + 1)) → Ix c i W')
    (hIk : ∀ i W, I i W → Kp W)
    (h0 : I 0 w)
    (hround : ∀ i vs W0 W, i < len → I i W0 → I i W → E i vs W0 W → w.heap.size + 1 < W0.heap.size →
      assign.wpIn (Fence.wide.inRound (w.heap.size + 1)) (n - 1 - 1) Try.prog (Exit.then (fun a₁ W₁ => (I i W₁ ∧ ∀ k, (k = w.heap.size ∨ k = w.heap.size + 1) → W₁.heap[k]? = W.heap[k]?) ∧ ∀ W₂, I i W₂ → W₁.grownBy W₂ (some (w.heap.size + 1)) → (∃ r, W₂.heap[w.heap.size + 1]? = some (.loop r)) → body.wpIn (Fence.wide.inRound (w.heap.size + 1)) (n - 1 - 1) Try.prog (itPost I Ix (fun k => k = w.heap.size ∨ k = w.heap.size + 1) i W₂) a₁ W₂) (fun _ _ _ => False))
        { tmps := (ps.zip vs).foldl (fun t (p, v) => t.setIfInBounds p v) a.tmps, defers := [] } W)
    (hdone : ∀ W, I len W → W.heap[w.heap.size]? = some (.deferred (some [])) → Q .normal { a with defers := [{ target := .collected w.heap.size, args := #[] }] ++ a.defers } W)
    (hstop : ∀ c i W, i < len → Ix c i W → W.heap[w.heap.size]? = some (.deferred (some [])) → c.wpIn Fence.wide n Try.prog Q { a with defers := [{ target := .collected w.heap.size, args := #[] }] ++ a.defers } W) :
    (Code.rangeFunc gg ps assign body).wpIn Fence.wide n Try.prog Q a w := by
  refine wpIn_rangeFunc fun fn hfn => ?_
  obtain ⟨W1, hW1⟩ : ∃ W1, W1 = (w.alloc (.deferred (some []))).alloc (.loop (recI fn a.tmps ps assign body w.heap.size .ready none)) := ⟨_, rfl⟩
  have he : (Instr.enterLoop fn a.tmps ps assign body none).run Try.prog w = .ok (w.heap.size + 1, [{ target := .collected w.heap.size, args := #[] }]) W1 := by
    rw [hW1]
    exact run_enterLoop_outer fn a.tmps ps assign body
  have hL1 : W1.heap[w.heap.size + 1]? = some (.loop (recI fn a.tmps ps assign body w.heap.size .ready none)) := by
    rw [hW1]; have := World.alloc_heap_new (w.alloc (.deferred (some []))) (.loop (recI fn a.tmps ps assign body w.heap.size .ready none)); rwa [World.size_alloc] at this
  have hK1 : W1.heap[w.heap.size]? = some (.deferred (some [])) := by
    rw [hW1]; exact (Below.heap_alloc _ _ _ (by simp)).trans (World.alloc_heap_new w _)
  have hI1 : I 0 W1 := by
    rw [hW1]
    exact hI _ _ _ none (hI _ _ _ none h0 (World.grownBy_alloc w _ none) (fun r e => by cases e)) (World.grownBy_alloc _ _ none) (fun r e => by cases e)
  have hres : (resolve a.eval (rangeCall gg (w.heap.size + 1)) 0).run Try.prog W1 = .ok { target := .fn (.func gf) lb, args := #[.func (.yield (w.heap.size + 1)) #[] #[]] } W1 := by
    simp only [resolve, hg]
    simp [go_sem]
  have hinv : (invoke (.fn (.func gf) lb) #[.func (.yield (w.heap.size + 1)) #[] #[]]).run Try.prog W1 = .ok (.enter gf (#[.func (.yield (w.heap.size + 1)) #[] #[]] ++ lb)) W1 := by
    simp [invoke, go_sem, eg]
  refine ⟨w.heap.size + 1, [{ target := .collected w.heap.size, args := #[] }], W1, _, W1, gf, _, W1, he, hres, ?_, hinv, ?_, ?_⟩
  · intro f' _; trivial
  · intro _; exact hn
  exact itr_call (F := Fence.wide) (fun f h => trivial) hit hps (fun k => k = w.heap.size ∨ k = w.heap.size + 1) (.inr rfl) I Ix hI hIx hIk hI1 hL1 (fun k hk => by
      have h1 := (Array.getElem?_eq_some_iff.1 hL1).1
      rcases hk with rfl | rfl <;> omega) hround
    (fun W h hk => hdone W h ((hk _ (.inl rfl) (by omega)).trans hK1)) (fun c i W hi h hk => hstop c i W hi h ((hk _ (.inl rfl) (by omega)).trans hK1))
end Go.Proofs.Ytjpkdnndhjnkpaa
namespace Go.Proofs.Ytjpkdnndhjnkpaa
open Go.RowKit Go.Shelf
attribute [local go_sem] Oper.semAt_some
variable {w w' : World} {b mb n : Nat} {nn cc : Int} {pv rv : Value} {P R : List Pk} {M : Int → List UInt8 → Nat}
theorem each14_any (h : Net w b nn cc pv rv mb n P R M) : Calls Try.prog 41 #[.pointer (some ⟨b, 0, none⟩)] w fun e w' => e = .returned (.func (.func 83) #[] #[.pointer (some ⟨w.heap.size, 0, none⟩)]) ∧ w.heap.size < w'.heap.size ∧ w'.cell? ⟨w.heap.size, 0, none⟩ = some pv ∧ Below w.heap.size w w' := by
  obtain ⟨a, c, rfl, _⟩ := h.pl.sl
  have c2 := h.c2
  have hlt := h.lt
  have y2 : ∀ o, (w.alloc o).cell? ⟨b, 2, none⟩ = some (.slice a P.length c) := fun o => (World.cell?_alloc_past _ _ _ hlt).trans c2
  clear h
  go_enter Try.func41, Try.ntmps41
  go_wp2
  go_ret
  refine ⟨rfl, by simp, by go_simp, ?_⟩
  exact (Below.refl _ w).alloc (Nat.le_refl _) _
theorem yieldP_nil (l : Nat) (w : World) : (binOp .eql 112 (.func (.yield l) #[] #[]) .nilFunc).run Try.prog w = .ok (.bool false) w := by kernel_rfl
def EP (P : List Pk) (i : Nat) (vs : Array Value) (W0 W : World) : Prop := ∃ (x : Ap) (p : Pk), P[i]? = some p ∧ vs = #[.int .i64 (i : Int), x.val] ∧ x.pk = p ∧ x.Out W0.heap.size W ∧ Below W0.heap.size W0 W
set_option maxHeartbeats 1000000 in
theorem each14_in (n : Nat) (hn : 1 ≤ n) (k : Nat) (a : Option Addr) (c : Nat) (P : List Pk) (hs : ∀ p ∈ P, p.s.length ≤ 32768) (hc : c ≤ maxLen) :
    IterR n 83 #[.pointer (some ⟨k, 0, none⟩)] P.length (EP P) (fun W => SlY yP W a P.length c P ∧ W.cell? ⟨k, 0, none⟩ = some (.slice a P.length c)) := by
  intro l J Jx W hY hJk h0
  have hYh := hide hY
  have hJh := hide hJk
  have hk := (hJk _ _ h0).2
  have hcap := (hJk _ _ h0).1.cap
  have HSS := hide hs
  clear hY hJk hs
  unfold maxLen at hc
  refine callsIn_of_wp Try.func83 rfl trivial ?_ rfl
  simp only [Try.ntmps83, List.size_toArray, List.length_cons, List.length_nil, Nat.reduceAdd, Nat.reduceSub, Array.replicate_succ, Array.replicate_zero, List.push_toArray, List.append_toArray, List.nil_append, List.cons_append]
  have q := yieldP_nil l
  gi_wp2
  gi_loopw [9] (fun i wr => ∃ k : Nat, i = .int .i64 (k : Int) ∧ k ≤ P.length ∧ J k wr) (fun i _ => P.length - (intOf i).toNat)
  case atStart => exact ⟨0, rfl, Nat.zero_le _, h0⟩
  case round =>
    obtain ⟨i, rfl, hi, hJ⟩ := hrel
    by_cases hlt : i < P.length
    · have hg := List.getElem?_eq_getElem hlt
      have hps := HSS.out _ (List.getElem_mem hlt)
      generalize P[i] = p at hg hps
      obtain ⟨q', o, rfl, hq, hl⟩ := (hJh.out _ _ hJ).1.place (by intro e; rw [e] at hg; simp at hg)
      have l0 : wr.cell? ⟨q', o + i * 3, none⟩ = some (.int .i64 p.t) := hl _ _ hg 0 _ rfl
      have l1 : wr.cell? ⟨q', o + i * 3 + 1, none⟩ = some (.string (bst p.s)) := hl _ _ hg 1 _ rfl
      have l2 : wr.cell? ⟨q', o + i * 3 + 2, none⟩ = some (.int .i64 p.f) := hl _ _ hg 2 _ rfl
      have HO : ∀ v, Hid (Calls Try.prog 84 #[.agg #[.int .i64 p.t, .string (bst p.s), .int .i64 p.f]] v fun e w' => ∃ x : Ap, e = .returned x.val ∧ x.pk = p ∧ x.Out v.heap.size w' ∧ Below v.heap.size v w') := fun v => outgoing_any p v (by omega)
      have hi1 : (i : Int) < (P.length : Int) := by omega
      have HG := hide hg
      clear hg hl
      gi_wp2
      refine ⟨trivial, callsIn_wide.2 ((HO _).out.mono ?_)⟩
      rintro e w2 ⟨x, rfl, hx, ho, hb⟩
      have hy0 := hYh.out i #[.int .i64 (i : Int), x.val] wr w2 hlt hJ ⟨x, p, HG.out, rfl, hx, ho.low8 (by simp), ((Below.refl _ wr).alloc (Nat.le_refl _) _).trans (hb.mono (by simp))⟩
      obtain ⟨fn, tmps, assign, body, hy, hR⟩ := hy0
      clear hx ho hb HO l0 l1 l2 HG
      gi_wp2
      refine hR.mono ?_
      rintro e W3 (⟨rfl, hJ3⟩ | ⟨rfl, hJ3⟩)
      · gi_wp2
        go_roundw
        case rel => exact ⟨i + 1, by simp, by omega, hJ3⟩
        case measure => simp [intOf]; omega
      · gi_wp2
        refine bodyPost_ret (results_none rfl _ _ _) rfl ?_
        exact ⟨⟨_, rfl⟩, .inr ⟨i, hlt, hJ3⟩⟩
    · have he : i = P.length := by omega
      subst he
      gi_wp2
      go_end0
      exact ⟨⟨_, rfl⟩, .inl hJ⟩
end Go.Proofs.Ytjpkdnndhjnkpaa
namespace Go.Proofs.Ytjpkdnndhjnkpaa
open Go.RowKit Go.Maps
variable {w w' : World} {b mb n : Nat} {nn cc : Int} {pv rv : Value} {P R : List Pk} {M : Int → List UInt8 → Nat}
set_option maxHeartbeats 1000000 in
theorem clone14 (P : List Pk) (y : Addr) (c : Nat) (w : World) (h : SlY yP w (some y) P.length c P) (hb : P.length * 32 ≤ 168884986026393) (hp : 0 < P.length) :
    Calls Try.prog 79 #[.slice (some y) P.length c] w fun e w' => ∃ g k, e = .returned (.slice (some ⟨g, 0, none⟩) P.length k) ∧ OwnY yP w.heap.size w' (.slice (some ⟨g, 0, none⟩) P.length k) P ∧ w.heap.size ≤ g ∧ g < w'.heap.size ∧ Below w.heap.size w w' := by
  have kn := fun (w : World) => Lib.run_eql_slice_nil (P := Try.prog) w 81 105 (some y) P.length c 0 0 Try.underlying81
  have HS : ∀ o, Hid (SlY yP (w.alloc o) (some y) P.length c P) := fun o => h.alloc8 _
  have HE : Hid (OwnY yP w.heap.size (w.alloc (.cells #[] 105)) (.slice (some ⟨w.heap.size, 0, none⟩) 0 0) []) := World.ownsRow_made w #[] 0 (Nat.le_refl _) (by unfold maxLen; omega) rfl
  have hb' : (0 + P.length) * 32 ≤ 168884986026393 := by omega
  clear h
  go_enter Try.func79, Try.ntmps79
  go_wp2_with (at_builtin; go_must (refine appY2 kP (by decide) _ rfl (.tmp 5) (.tmp 6) rfl w.heap.size [] (.slice (some ⟨w.heap.size, 0, none⟩) 0 0) rfl (some y) P.length c rfl P (HS _).out HE.out (by simp) (by unfold maxLen; simp; omega) hb' ?_))
  intro v1 w1 o1 g1 n1
  obtain ⟨a1, c1, hv1, _, _, hnil, hsome⟩ := o1.form
  have HB : Hid (Below w.heap.size w w1) := ((Below.refl _ _).alloc (Nat.le_refl _) _).grown g1 (by simp) (fun k hk => by cases hk; exact Nat.le_refl _)
  obtain ⟨g, hg1, hg2, hg3⟩ : ∃ g, a1 = some ⟨g, 0, none⟩ ∧ w.heap.size ≤ g ∧ g < w1.heap.size := by
    cases a1 with
    | none => have := (hnil rfl).1; rw [this] at hp; simp at hp
    | some z => obtain ⟨g, rfl, h1, h2⟩ := hsome z rfl; exact ⟨g, rfl, h1, h2⟩
  subst hg1
  subst hv1
  have HO := hide o1
  clear o1 g1 n1 hnil hsome HS HE
  go_wp2
  go_ret
  exact ⟨g, c1, rfl, HO.out, hg2, hg3, HB.out⟩
theorem set3P {B : Nat} {w : World} {g n c : Nat} {l : List Pk} (h : OwnY yP B w (.slice (some ⟨g, 0, none⟩) n c) l) {i : Nat} {x : Pk} (hx : l[i]? = some x) (y : Pk) :
    OwnY yP B (((w.setCell ⟨g, i * 3, none⟩ (.int .i64 y.t)).setCell ⟨g, i * 3 + 1, none⟩ (.string (bst y.s))).setCell ⟨g, i * 3 + 2, none⟩ (.int .i64 y.f)) (.slice (some ⟨g, 0, none⟩) n c) (l.set i y) := by
  have hi := (List.getElem?_eq_some_iff.1 hx).1
  have h1 := h.set1 kP hx ⟨y.t, x.s, x.f⟩ 0 (.int .i64 y.t) (by decide) rfl
  have h2 := h1.set1 kP (x := ⟨y.t, x.s, x.f⟩) (i := i) (by rw [List.getElem?_set_self hi]) ⟨y.t, y.s, x.f⟩ 1 (.string (bst y.s)) (by decide) rfl
  have h3 := h2.set1 kP (x := ⟨y.t, y.s, x.f⟩) (i := i) (by rw [List.getElem?_set_self (by rw [List.length_set]; exact hi)]) y 2 (.int .i64 y.f) (by decide) rfl
  rw [List.set_set, List.set_set] at h3
  exact h3
theorem upd3P (w : World) (g i : Nat) (y : Pk) : Upd (fun j => j = g) w (((w.setCell ⟨g, i * 3, none⟩ (.int .i64 y.t)).setCell ⟨g, i * 3 + 1, none⟩ (.string (bst y.s))).setCell ⟨g, i * 3 + 2, none⟩ (.int .i64 y.f)) :=
  (((Upd.refl (fun j => j = g) w).setCell (p := ⟨g, i * 3, none⟩) (.inl rfl) _).setCell (p := ⟨g, i * 3 + 1, none⟩) (.inl rfl) _).setCell (p := ⟨g, i * 3 + 2, none⟩) (.inl rfl) _
theorem swap_bad (i k : Int) (h : Net w b nn cc pv rv mb n P R M) (hk : (i < 0 ∨ (P.length : Int) ≤ i) ∨ (k < 0 ∨ (P.length : Int) ≤ k)) : Calls Try.prog 31 #[.pointer (some ⟨b, 0, none⟩), .int .i64 i, .int .i64 k] w fun e w' => e = .returned (.int .i64 141) ∧ w' = w := by
  have c2 := h.c2
  obtain ⟨a, c, rfl, hsl⟩ := h.pl.sl
  have HW := fun z => hide (isWithin_any z (P.length : Int) w)
  clear h hsl
  cases e1 : (decide (0 ≤ i) && decide (i < (P.length : Int))) with
  | false =>
    have H1 := HW i
    rw [e1] at H1
    clear e1 hk HW
    go_enter Try.func31, Try.ntmps31
    go_wp2_with fail
    refine H1.out.mono ?_
    rintro e w1 ⟨rfl, hy_⟩
    rw [hy_]; clear hy_ w1
    go_wp2
    go_ret
    exact ⟨rfl, rfl⟩
  | true =>
    have H1 := HW i
    rw [e1] at H1
    have H2 := HW k
    have e2 : (decide (0 ≤ k) && decide (k < (P.length : Int))) = false := by
      simp only [Bool.and_eq_true, decide_eq_true_eq] at e1
      simp
      omega
    rw [e2] at H2
    clear e1 e2 hk HW
    go_enter Try.func31, Try.ntmps31
    go_wp2_with fail
    refine H1.out.mono ?_
    rintro e w1 ⟨rfl, hy_⟩
    rw [hy_]; clear hy_ w1
    go_wp2_with fail
    refine H2.out.mono ?_
    rintro e w1 ⟨rfl, hy_⟩
    rw [hy_]; clear hy_ w1
    go_wp2
    go_ret
    exact ⟨rfl, rfl⟩
set_option maxHeartbeats 2000000 in
theorem swap_ok (i k : Nat) (x y : Pk) (h : Net w b nn cc pv rv mb n P R M) (hx : P[i]? = some x) (hy : P[k]? = some y) (hl : P.length * 32 ≤ 168884986026393) : Calls Try.prog 31 #[.pointer (some ⟨b, 0, none⟩), .int .i64 (i : Int), .int .i64 (k : Int)] w fun e w' => e = .returned (.int .i64 0) ∧ ∃ pv', Net w' b nn cc pv' rv mb n ((P.set i y).set k x) R M ∧ Upd (fun k => k = b) w w' ∧ ∃ g, pv'.ownBlock = some g ∧ w.heap.size ≤ g := by
  have hi : i < P.length := (List.getElem?_eq_some_iff.1 hx).1
  have hk : k < P.length := (List.getElem?_eq_some_iff.1 hy).1
  have HN := hide h
  have c2 := h.c2
  have f2 := h.fr 2
  have hlt := h.lt
  obtain ⟨a, c, hpv, hsl⟩ := h.pl.sl
  subst hpv
  obtain ⟨q, o, ha, hq, hlie⟩ := hsl.place (by intro e; rw [e] at hk; simp at hk)
  subst ha
  have HW : ∀ (z : Nat), z < P.length → Hid (Calls Try.prog 77 #[.int .i64 (z : Int), .int .i64 (P.length : Int)] w fun e w' => e = .returned (.bool true) ∧ w' = w) := fun z hz => by
    have := isWithin_any (z : Int) (P.length : Int) w
    rw [decide_eq_true (show (0 : Int) ≤ z by omega), decide_eq_true (show (z : Int) < P.length by omega)] at this
    exact this
  have HC := hide (clone14 P ⟨q, o, none⟩ c w hsl hl (by omega))
  have H1 := HW i hi
  have H2 := HW k hk
  have HX := hide hx
  have HY := hide hy
  clear h hsl hlie HW hx hy
  go_enter Try.func31, Try.ntmps31
  go_wp2_with fail
  refine H1.out.mono ?_
  rintro e w1 ⟨rfl, hy_⟩
  rw [hy_]; clear hy_ w1
  go_wp2_with fail
  refine H2.out.mono ?_
  rintro e w1 ⟨rfl, hy_⟩
  rw [hy_]; clear hy_ w1
  go_wp2_with fail
  refine HC.out.mono ?_
  rintro e w2 ⟨g, kc, rfl, o2, hg1, hg2, b2⟩
  have HO2 := hide (o2.grow (Below.refl _ _).drew)
  have HB2 := hide b2
  have S2 := OwnY.sl' kP HO2.out
  obtain ⟨q', o', e', hq', hl'⟩ := S2.place (by intro e; rw [e] at hk; simp at hk)
  cases e'
  have i1 : (i : Int) < (P.length : Int) := by omega
  have i2 : (k : Int) < (P.length : Int) := by omega
  have x0 : w2.drew.cell? ⟨g, i * 3, none⟩ = some (.int .i64 x.t) := by have := hl' _ _ HX.out 0 _ rfl; simpa [yP] using this
  have x1 : w2.drew.cell? ⟨g, i * 3 + 1, none⟩ = some (.string (bst x.s)) := by have := hl' _ _ HX.out 1 _ rfl; simpa [yP] using this
  have x2 : w2.drew.cell? ⟨g, i * 3 + 2, none⟩ = some (.int .i64 x.f) := by have := hl' _ _ HX.out 2 _ rfl; simpa [yP] using this
  have y0 : w2.drew.cell? ⟨g, k * 3, none⟩ = some (.int .i64 y.t) := by have := hl' _ _ HY.out 0 _ rfl; simpa [yP] using this
  have y1 : w2.drew.cell? ⟨g, k * 3 + 1, none⟩ = some (.string (bst y.s)) := by have := hl' _ _ HY.out 1 _ rfl; simpa [yP] using this
  have y2 : w2.drew.cell? ⟨g, k * 3 + 2, none⟩ = some (.int .i64 y.f) := by have := hl' _ _ HY.out 2 _ rfl; simpa [yP] using this
  have x0' : w2.cell? ⟨g, i * 3, none⟩ = some (.int .i64 x.t) := x0
  have x1' : w2.cell? ⟨g, i * 3 + 1, none⟩ = some (.string (bst x.s)) := x1
  have x2' : w2.cell? ⟨g, i * 3 + 2, none⟩ = some (.int .i64 x.f) := x2
  have y0' : w2.cell? ⟨g, k * 3, none⟩ = some (.int .i64 y.t) := y0
  have y1' : w2.cell? ⟨g, k * 3 + 1, none⟩ = some (.string (bst y.s)) := y1
  have y2' : w2.cell? ⟨g, k * 3 + 2, none⟩ = some (.int .i64 y.f) := y2
  have fz : ∀ j, w2.frozen? ⟨g, j, none⟩ = false := fun j => o2.free j
  have HFIN : Hid (∀ W3 : World, OwnY yP w.heap.size W3 (.slice (some ⟨g, 0, none⟩) P.length kc) ((P.set i y).set k x) → Upd (fun j => j = g) w2 W3 → Net (W3.setCell ⟨b, 2, none⟩ (.slice (some ⟨g, 0, none⟩) P.length kc)) b nn cc (.slice (some ⟨g, 0, none⟩) P.length kc) rv mb n ((P.set i y).set k x) R M ∧ Upd (fun k => k = b) w (W3.setCell ⟨b, 2, none⟩ (.slice (some ⟨g, 0, none⟩) P.length kc))) := fun W3 o3 u3 => by
    have b3 : Below w.heap.size w W3 := b2.trans (u3.below b2.size (fun j hj => by omega))
    have u : Upd (fun k => (Value.slice (some ⟨q, o, none⟩) P.length c).ownBlock = some k) w W3 := Upd.of_below b3
    refine ⟨(HN.out.setPool u (.inl (o3.low (Nat.zero_le _))) (.inr (.inr ⟨g, rfl, hg1⟩)) (fun j hj => by cases hj; exact Nat.lt_of_lt_of_le hg2 u3.size) (fun p hp => ?_)).1, (Upd.of_below (S := fun k => k = b) b3).setCell (p := ⟨b, 2, none⟩) (.inl rfl) _⟩
    rcases List.mem_or_eq_of_mem_set hp with hp | rfl
    · rcases List.mem_or_eq_of_mem_set hp with hp | rfl
      · exact HN.out.sp p hp
      · exact HN.out.sp _ (List.mem_of_getElem? HY.out)
    · exact HN.out.sp _ (List.mem_of_getElem? HX.out)
  have c2' : w2.cell? ⟨b, 2, none⟩ = some (.slice (some ⟨q, o, none⟩) P.length c) := (b2.cell (p := ⟨b, 2, none⟩) hlt).trans c2
  have f2' : w2.frozen? ⟨b, 2, none⟩ = false := (b2.frozen (p := ⟨b, 2, none⟩) hlt).trans f2
  have hgb : ¬ g = b := by omega
  have hz2 := b2.size
  have hbg : ¬ b = g := by omega
  have HO := hide o2
  clear o2 b2 S2 hl' hq' HC H1 H2 c2 f2 HO2 HB2
  by_cases hik : i = k
  · subst hik
    have hxy : x = y := Option.some.inj (HX.out.symm.trans HY.out)
    subst hxy
    have HP := hide (set3P HO.out HX.out x)
    have HP2 := hide (set3P HP.out (show (P.set i x)[i]? = some x by rw [List.getElem?_set_self hi]) x)
    go_wp2_with fail
    go_region
    have U6 : Upd (fun j => j = g) w2 (((((((w2.setCell ⟨g, i * 3, none⟩ (.int .i64 x.t)).setCell ⟨g, i * 3 + 1, none⟩ (.string (bst x.s))).setCell ⟨g, i * 3 + 2, none⟩ (.int .i64 x.f)).setCell ⟨g, i * 3, none⟩ (.int .i64 x.t)).setCell ⟨g, i * 3 + 1, none⟩ (.string (bst x.s))).setCell ⟨g, i * 3 + 2, none⟩ (.int .i64 x.f)).drew) := (upd3P w2 g i x).trans ((upd3P _ g i x).trans (Upd.of_below (Below.refl _ _).drew))
    have HF := hide (HFIN.out _ (HP2.out.grow (Below.refl _ _).drew) U6)
    have c3 := (U6.cell (p := ⟨b, 2, none⟩) (Nat.lt_of_lt_of_le hlt hz2) hbg).trans c2'
    have f3 := (U6.frozen (p := ⟨b, 2, none⟩) (Nat.lt_of_lt_of_le hlt hz2) hbg).trans f2'
    clear U6 HP HP2 x0 x1 x2 y0 y1 y2 x0' x1' x2' y0' y1' y2' fz HFIN HO c2' f2'
    generalize ((((((w2.setCell ⟨g, i * 3, none⟩ (.int .i64 x.t)).setCell ⟨g, i * 3 + 1, none⟩ (.string (bst x.s))).setCell ⟨g, i * 3 + 2, none⟩ (.int .i64 x.f)).setCell ⟨g, i * 3, none⟩ (.int .i64 x.t)).setCell ⟨g, i * 3 + 1, none⟩ (.string (bst x.s))).setCell ⟨g, i * 3 + 2, none⟩ (.int .i64 x.f)).drew = W3 at *
    go_wp2
    go_ret
    exact ⟨rfl, _, HF.out.1, HF.out.2, g, rfl, hg1⟩
  · have e0 : ¬ i * 3 = k * 3 := by omega
    have e1 : ¬ i * 3 = k * 3 + 1 := by omega
    have e2 : ¬ i * 3 = k * 3 + 2 := by omega
    have e3 : ¬ i * 3 + 1 = k * 3 := by omega
    have e4 : ¬ i * 3 + 1 = k * 3 + 1 := by omega
    have e5 : ¬ i * 3 + 1 = k * 3 + 2 := by omega
    have e6 : ¬ i * 3 + 2 = k * 3 := by omega
    have e7 : ¬ i * 3 + 2 = k * 3 + 1 := by omega
    have e8 : ¬ i * 3 + 2 = k * 3 + 2 := by omega
    have f0 : ¬ k * 3 = i * 3 := by omega
    have f1 : ¬ k * 3 = i * 3 + 1 := by omega
    have f2 : ¬ k * 3 = i * 3 + 2 := by omega
    have f3 : ¬ k * 3 + 1 = i * 3 := by omega
    have f4 : ¬ k * 3 + 1 = i * 3 + 1 := by omega
    have f5 : ¬ k * 3 + 1 = i * 3 + 2 := by omega
    have f6 : ¬ k * 3 + 2 = i * 3 := by omega
    have f7 : ¬ k * 3 + 2 = i * 3 + 1 := by omega
    have f8 : ¬ k * 3 + 2 = i * 3 + 2 := by omega
    have HP := hide (set3P HO.out HX.out y)
    have HP2 := hide (set3P HP.out (show (P.set i y)[k]? = some y by rw [List.getElem?_set_ne hik]; exact HY.out) x)
    go_wp2_with fail
    go_region
    have U6 : Upd (fun j => j = g) w2 (((((((w2.setCell ⟨g, i * 3, none⟩ (.int .i64 y.t)).setCell ⟨g, i * 3 + 1, none⟩ (.string (bst y.s))).setCell ⟨g, i * 3 + 2, none⟩ (.int .i64 y.f)).setCell ⟨g, k * 3, none⟩ (.int .i64 x.t)).setCell ⟨g, k * 3 + 1, none⟩ (.string (bst x.s))).setCell ⟨g, k * 3 + 2, none⟩ (.int .i64 x.f)).drew) := (upd3P w2 g i y).trans ((upd3P _ g k x).trans (Upd.of_below (Below.refl _ _).drew))
    have HF := hide (HFIN.out _ (HP2.out.grow (Below.refl _ _).drew) U6)
    have c3 := (U6.cell (p := ⟨b, 2, none⟩) (Nat.lt_of_lt_of_le hlt hz2) hbg).trans c2'
    have f3 := (U6.frozen (p := ⟨b, 2, none⟩) (Nat.lt_of_lt_of_le hlt hz2) hbg).trans f2'
    clear U6 HP HP2 x0 x1 x2 y0 y1 y2 x0' x1' x2' y0' y1' y2' fz HFIN HO c2' f2'
    generalize ((((((w2.setCell ⟨g, i * 3, none⟩ (.int .i64 y.t)).setCell ⟨g, i * 3 + 1, none⟩ (.string (bst y.s))).setCell ⟨g, i * 3 + 2, none⟩ (.int .i64 y.f)).setCell ⟨g, k * 3, none⟩ (.int .i64 x.t)).setCell ⟨g, k * 3 + 1, none⟩ (.string (bst x.s))).setCell ⟨g, k * 3 + 2, none⟩ (.int .i64 x.f)).drew = W3 at *
    go_wp2
    go_ret
    exact ⟨rfl, _, HF.out.1, HF.out.2, g, rfl, hg1⟩
end Go.Proofs.Ytjpkdnndhjnkpaa
namespace Go.Proofs.Ytjpkdnndhjnkpaa
open Go.RowKit Go.Maps
variable {w w' : World} {b mb n : Nat} {nn cc : Int} {pv rv : Value} {P R : List Pk} {M : Int → List UInt8 → Nat}
theorem turn_bad (k at_ : Int) (m : Int) (h : Net w b nn cc pv rv mb n P R M) (hk : k < 0 ∨ (P.length : Int) ≤ k) : Calls Try.prog 30 #[.pointer (some ⟨b, 0, none⟩), .int .i64 k, .int .i64 at_, .int .u8 m] w fun e w' => e = .returned (.int .i64 141) ∧ w' = w := by
  have c2 := h.c2
  obtain ⟨a, c, rfl, hsl⟩ := h.pl.sl
  have HW : ∀ v, Hid (Calls Try.prog 77 #[.int .i64 k, .int .i64 (P.length : Int)] v fun e w' => e = .returned (.bool false) ∧ w' = v) := fun v => by
    have := isWithin_any k (P.length : Int) v
    have e : (decide (0 ≤ k) && decide (k < (P.length : Int))) = false := by simp; omega
    rw [e] at this
    exact this
  clear h hsl hk
  go_enter Try.func30, Try.ntmps30
  go_wp2_with fail
  refine (HW _).out.mono ?_
  rintro e w1 ⟨rfl, hy_⟩
  rw [hy_]; clear hy_ w1
  go_wp2
  go_ret
  exact ⟨rfl, rfl⟩
set_option maxHeartbeats 1000000 in
theorem turn_byte (k : Nat) (at_ : Int) (m : Int) (x : Pk) (h : Net w b nn cc pv rv mb n P R M) (hx : P[k]? = some x) (hat : at_ < 0 ∨ (x.s.length : Int) ≤ at_) : Calls Try.prog 30 #[.pointer (some ⟨b, 0, none⟩), .int .i64 (k : Int), .int .i64 at_, .int .u8 m] w fun e w' => e = .returned (.int .i64 143) ∧ w' = w := by
  have hk : k < P.length := (List.getElem?_eq_some_iff.1 hx).1
  have c2 := h.c2
  obtain ⟨a, c, hpv, hsl⟩ := h.pl.sl
  subst hpv
  obtain ⟨q, o, ha, hq, hlie⟩ := hsl.place (by intro e; rw [e] at hk; simp at hk)
  subst ha
  have l1 : w.cell? ⟨q, o + k * 3 + 1, none⟩ = some (.string (bst x.s)) := hlie _ _ hx 1 _ rfl
  have hbz := bst_size x.s
  have i1 : (k : Int) < (P.length : Int) := by omega
  have H1 : Hid (Calls Try.prog 77 #[.int .i64 (k : Int), .int .i64 (P.length : Int)] w fun e w' => e = .returned (.bool true) ∧ w' = w) := by
    have := isWithin_any (k : Int) (P.length : Int) w
    rw [decide_eq_true (show (0 : Int) ≤ k by omega), decide_eq_true (show (k : Int) < P.length by omega)] at this
    exact this
  have H2 : Hid (Calls Try.prog 77 #[.int .i64 at_, .int .i64 (x.s.length : Int)] w fun e w' => e = .returned (.bool false) ∧ w' = w) := by
    have := isWithin_any at_ (x.s.length : Int) w
    have e : (decide (0 ≤ at_) && decide (at_ < (x.s.length : Int))) = false := by simp; omega
    rw [e] at this
    exact this
  clear h hsl hlie hx hat
  go_enter Try.func30, Try.ntmps30
  go_wp2_with fail
  refine H1.out.mono ?_
  rintro e w1 ⟨rfl, hy_⟩
  rw [hy_]; clear hy_ w1
  go_wp2_with fail
  refine H2.out.mono ?_
  rintro e w1 ⟨rfl, hy_⟩
  rw [hy_]; clear hy_ w1
  go_wp2
  go_ret
  exact ⟨rfl, rfl⟩
def tnP (x : Pk) (at_ : Nat) (m : UInt8) : Pk := ⟨x.t, x.s.set at_ ((x.s[at_]?).getD 0 ^^^ m), x.f⟩
set_option maxHeartbeats 2000000 in
theorem turn_ok (k at_ : Nat) (m : UInt8) (x : Pk) (h : Net w b nn cc pv rv mb n P R M) (hx : P[k]? = some x) (hat : at_ < x.s.length) (hl : P.length * 32 ≤ 168884986026393) : Calls Try.prog 30 #[.pointer (some ⟨b, 0, none⟩), .int .i64 (k : Int), .int .i64 (at_ : Int), .int .u8 (m.toNat : Int)] w fun e w' => e = .returned (.int .i64 0) ∧ ∃ pv', Net w' b nn cc pv' rv mb n (P.set k (tnP x at_ m)) R M ∧ Upd (fun k => k = b) w w' ∧ ∃ g, pv'.ownBlock = some g ∧ w.heap.size ≤ g := by
  have hk : k < P.length := (List.getElem?_eq_some_iff.1 hx).1
  have HN := hide h
  have c2 := h.c2
  have f2 := h.fr 2
  have hlt := h.lt
  have hxs := h.sp x (List.mem_of_getElem? hx)
  obtain ⟨a, c, hpv, hsl⟩ := h.pl.sl
  subst hpv
  obtain ⟨q, o, ha, hq, hlie⟩ := hsl.place (by intro e; rw [e] at hk; simp at hk)
  subst ha
  have l1 : w.cell? ⟨q, o + k * 3 + 1, none⟩ = some (.string (bst x.s)) := hlie _ _ hx 1 _ rfl
  have hbz := bst_size x.s
  have i1 : (k : Int) < (P.length : Int) := by omega
  have H1 : Hid (Calls Try.prog 77 #[.int .i64 (k : Int), .int .i64 (P.length : Int)] w fun e w' => e = .returned (.bool true) ∧ w' = w) := by
    have := isWithin_any (k : Int) (P.length : Int) w
    rw [decide_eq_true (show (0 : Int) ≤ k by omega), decide_eq_true (show (k : Int) < P.length by omega)] at this
    exact this
  have H2 : Hid (Calls Try.prog 77 #[.int .i64 (at_ : Int), .int .i64 (x.s.length : Int)] w fun e w' => e = .returned (.bool true) ∧ w' = w) := by
    have := isWithin_any (at_ : Int) (x.s.length : Int) w
    rw [decide_eq_true (show (0 : Int) ≤ at_ by omega), decide_eq_true (show (at_ : Int) < x.s.length by omega)] at this
    exact this
  have HC := hide (clone14 P ⟨q, o, none⟩ c w hsl hl (by omega))
  have HT : ∀ v, Hid (Calls Try.prog 80 #[x.val, .int .i64 (at_ : Int), .int .u8 (m.toNat : Int)] v fun e w' => e = .returned (tnP x at_ m).val ∧ Below v.heap.size v w') := fun v => by
    have := turned_any x at_ m v hat hxs
    unfold tnP
    rw [List.getElem?_eq_getElem hat]
    exact this
  have HX := hide hx
  have hts : (tnP x at_ m).s.length ≤ 32768 := by unfold tnP; rw [List.length_set]; exact hxs
  generalize tnP x at_ m = y at HT hts ⊢
  clear h hsl hlie hx
  go_enter Try.func30, Try.ntmps30
  go_wp2_with fail
  refine H1.out.mono ?_
  rintro e w1 ⟨rfl, hy_⟩
  rw [hy_]; clear hy_ w1
  go_wp2_with fail
  refine H2.out.mono ?_
  rintro e w1 ⟨rfl, hy_⟩
  rw [hy_]; clear hy_ w1
  go_wp2_with fail
  refine HC.out.mono ?_
  rintro e w2 ⟨g, kc, rfl, o2, hg1, hg2, b2⟩
  have S2 := OwnY.sl' kP o2
  obtain ⟨q', o', e', hq', hl'⟩ := S2.place (by intro e; rw [e] at hk; simp at hk)
  cases e'
  have x0 : w2.cell? ⟨g, k * 3, none⟩ = some (.int .i64 x.t) := by have := hl' _ _ HX.out 0 _ rfl; simpa [yP] using this
  have x1 : w2.cell? ⟨g, k * 3 + 1, none⟩ = some (.string (bst x.s)) := by have := hl' _ _ HX.out 1 _ rfl; simpa [yP] using this
  have x2 : w2.cell? ⟨g, k * 3 + 2, none⟩ = some (.int .i64 x.f) := by have := hl' _ _ HX.out 2 _ rfl; simpa [yP] using this
  have HT2 := HT w2
  have HO := hide o2
  have HB := hide b2
  unfold Pk.val at HT2
  clear o2 b2 S2 hl' hq' HC H1 H2 l1 HT
  go_wp2_with fail
  refine HT2.out.mono ?_
  rintro e w3 ⟨rfl, b3⟩
  have HP := hide (set3P (HO.out.grow b3) HX.out y)
  have X0 := (b3.cell (p := ⟨g, k * 3, none⟩) hg2).trans x0
  have X1 := (b3.cell (p := ⟨g, k * 3 + 1, none⟩) hg2).trans x1
  have X2 := (b3.cell (p := ⟨g, k * 3 + 2, none⟩) hg2).trans x2
  have fz : ∀ j, w3.frozen? ⟨g, j, none⟩ = false := fun j => (HO.out.grow b3).free j
  have HB3 := hide (HB.out.trans (b3.mono HB.out.size))
  have hz3 := HB3.out.size
  have hbg : ¬ b = g := by omega
  have hgb : ¬ g = b := by omega
  have hg3 : g < w3.heap.size := Nat.lt_of_lt_of_le hg2 b3.size
  have c3 := (HB3.out.cell (p := ⟨b, 2, none⟩) hlt).trans c2
  have f3 := (HB3.out.frozen (p := ⟨b, 2, none⟩) hlt).trans f2
  have HF : Hid (Net ((((w3.setCell ⟨g, k * 3, none⟩ (.int .i64 y.t)).setCell ⟨g, k * 3 + 1, none⟩ (.string (bst y.s))).setCell ⟨g, k * 3 + 2, none⟩ (.int .i64 y.f)).setCell ⟨b, 2, none⟩ (.slice (some ⟨g, 0, none⟩) P.length kc)) b nn cc (.slice (some ⟨g, 0, none⟩) P.length kc) rv mb n (P.set k y) R M ∧ Upd (fun k => k = b) w ((((w3.setCell ⟨g, k * 3, none⟩ (.int .i64 y.t)).setCell ⟨g, k * 3 + 1, none⟩ (.string (bst y.s))).setCell ⟨g, k * 3 + 2, none⟩ (.int .i64 y.f)).setCell ⟨b, 2, none⟩ (.slice (some ⟨g, 0, none⟩) P.length kc))) := by
    have u3 := upd3P w3 g k y
    have b4 : Below w.heap.size w _ := HB3.out.trans (u3.below hz3 (fun j hj => by omega))
    have u : Upd (fun k => (Value.slice (some ⟨q, o, none⟩) P.length c).ownBlock = some k) w _ := Upd.of_below b4
    refine ⟨(HN.out.setPool u (.inl (HP.out.low (Nat.zero_le _))) (.inr (.inr ⟨g, rfl, hg1⟩)) (fun j hj => by cases hj; exact Nat.lt_of_lt_of_le hg3 u3.size) (fun p hp => ?_)).1, (Upd.of_below (S := fun k => k = b) b4).setCell (p := ⟨b, 2, none⟩) (.inl rfl) _⟩
    rcases List.mem_or_eq_of_mem_set hp with hp | rfl
    · exact HN.out.sp p hp
    · exact hts
  clear b3 HP HB3 HB HO HT2 HN x0 x1 x2 c2 f2
  go_wp2
  go_ret
  exact ⟨rfl, _, HF.out.1, HF.out.2, g, rfl, hg1⟩
end Go.Proofs.Ytjpkdnndhjnkpaa
namespace Go.Proofs.Ytjpkdnndhjnkpaa
open Go.RowKit Go.Maps
structure Nh (A : Nat → Prop) (B Bp Tp : Nat) (w : World) (b : Nat) (P : List Pk) : Prop where
  ex : ∃ pv rv mb n R M, Net w b 3 2 pv rv mb n P R M ∧ B ≤ b ∧ b < Bp ∧ (∀ g, pv.ownBlock = some g → B ≤ g ∧ (g < Bp ∨ Tp ≤ g)) ∧ (∀ j, A j → j ≠ b ∧ j ≠ mb ∧ pv.ownBlock ≠ some j ∧ rv.ownBlock ≠ some j ∧ j < w.heap.size)
structure Lb (Bp Tp : Nat) (w : World) (v : Value) (K : List Ap) (W : List Pk) : Prop where
  l : Lf Bp w v K W
  t1 : ∀ k, v.ownBlock = some k → k < Tp
  t2 : ∀ x ∈ K, ∀ k, (Value.slice x.a x.s.length x.c).ownBlock = some k → k < Tp
theorem Lb.upd {S : Nat → Prop} {Bp Tp : Nat} {w w' : World} {v : Value} {K : List Ap} {W : List Pk} (h : Lb Bp Tp w v K W) (u : Upd S w w') (hs : ∀ k, Bp ≤ k → k < Tp → ¬ S k) : Lb Bp Tp w' v K W :=
  ⟨⟨h.l.own.upd1 u (fun k hk => hs k (h.l.own.blk k hk).1 (h.t1 k hk)), fun x hx => OwnY.upd1 (h.l.ow x hx) u (fun k hk => hs k (OwnY.blk (h.l.ow x hx) k hk).1 (h.t2 x hx k hk)), h.l.pk⟩, h.t1, h.t2⟩
structure Hs (A : Nat → Prop) (w0 : World) (Bp Tp b : Nat) (v : Value) (K : List Ap) (W : List Pk) (w : World) (P : List Pk) : Prop where
  n : Nh A w0.heap.size Bp Tp w b P
  l : Lb Bp Tp w v K W
  bel : Below w0.heap.size w0 w
  tp : Tp ≤ w.heap.size
  bt : Bp ≤ Tp
variable {A : Nat → Prop} {w0 w w' : World} {Bp Tp b : Nat} {v : Value} {K : List Ap} {W P : List Pk}
theorem Nh.later {A' : Nat → Prop} {B : Nat} (h : Nh A B Bp Tp w b P) (hb : Below w.heap.size w w') (hA : ∀ j, A' j → A j ∨ (w.heap.size ≤ j ∧ j < w'.heap.size)) : Nh A' B Bp Tp w' b P := by
  obtain ⟨pv, rv, mb, n, R, M, h1, h2, h3, h4, h5⟩ := h.ex
  refine ⟨pv, rv, mb, n, R, M, h1.later hb, h2, h3, h4, fun j hj => ?_⟩
  rcases hA j hj with e | ⟨e1, e2⟩
  · obtain ⟨k1, k2, k3, k4, k5⟩ := h5 j e
    exact ⟨k1, k2, k3, k4, Nat.lt_of_lt_of_le k5 hb.size⟩
  · exact ⟨by have := h1.lt; omega, by have := h1.mp.lt; omega, fun e => by have := h1.plt j e; omega, fun e => by have := (h1.rc.blk j e).2; omega, e2⟩
theorem Hs.stepA {A' : Nat → Prop} (h : Hs A w0 Bp Tp b v K W w P) (hb : Below w.heap.size w w') (hA : ∀ j, A' j → A j ∨ (w.heap.size ≤ j ∧ j < w'.heap.size)) : Hs A' w0 Bp Tp b v K W w' P :=
  ⟨h.n.later hb hA, h.l.upd (S := fun _ => False) (Upd.of_below hb) (fun _ _ _ => id), h.bel.trans (hb.mono h.bel.size), Nat.le_trans h.tp hb.size, h.bt⟩
theorem Hs.step (h : Hs A w0 Bp Tp b v K W w P) (hb : Below w.heap.size w w') : Hs A w0 Bp Tp b v K W w' P := h.stepA hb (fun j hj => .inl hj)
theorem Hs.put (h : Hs A w0 Bp Tp b v K W w P) {q : Nat} (u : Upd (fun k => k = q) w w') (hq : A q) (ht : Tp ≤ q) : Hs A w0 Bp Tp b v K W w' P := by
  obtain ⟨pv, rv, mb, n, R, M, h1, h2, h3, h4, h5⟩ := h.n.ex
  obtain ⟨k1, k2, k3, k4, k5⟩ := h5 q hq
  have h0 := h.bel.size
  have ht2 := h.tp
  have hbt := h.bt
  exact ⟨⟨pv, rv, mb, n, R, M, h1.upd u (fun e => k1 e.symm) (fun e => k2 e.symm) (fun j hj e => k3 (e ▸ hj)) (fun j hj e => k4 (e ▸ hj)), h2, h3, h4, fun j hj => ⟨(h5 j hj).1, (h5 j hj).2.1, (h5 j hj).2.2.1, (h5 j hj).2.2.2.1, Nat.lt_of_lt_of_le (h5 j hj).2.2.2.2 u.size⟩⟩, h.l.upd u (fun k a1 a2 e => by omega), h.bel.trans (u.below h.bel.size (fun k hk => by omega)), Nat.le_trans h.tp u.size, h.bt⟩
theorem Hs.cells {q o n c : Nat} (h : Hs A w0 Bp Tp b (.slice (some ⟨q, o, none⟩) n c) K W w P) {i : Nat} {u : Ap} (hu : K[i]? = some u) : w.cell? ⟨q, o + i * 3, none⟩ = some (.int .i64 u.f) ∧ w.cell? ⟨q, o + i * 3 + 1, none⟩ = some (.int .i64 u.t) ∧ w.cell? ⟨q, o + i * 3 + 2, none⟩ = some (.slice u.a u.s.length u.c) ∧ u.In w := by
  obtain ⟨q', o', e', hq, hl⟩ := (OwnY.sl' kA h.l.l.own).place (by rintro rfl; simp at hu)
  cases e'
  exact ⟨hl _ _ hu 0 _ rfl, hl _ _ hu 1 _ rfl, hl _ _ hu 2 _ rfl, (h.l.l.ow u (List.mem_of_getElem? hu)).sl⟩
theorem Hs.blt (h : Hs A w0 Bp Tp b v K W w P) : b < Bp ∧ w0.heap.size ≤ b ∧ b < w.heap.size := by
  obtain ⟨pv, rv, mb, n, R, M, h1, h2, h3, _⟩ := h.n.ex
  exact ⟨h3, h2, h1.lt⟩
theorem Hs.one (h : Hs A w0 Bp Tp b v K W w P) (u : Upd (fun k => k = b) w w') {P' : List Pk} (hn : Nh A w0.heap.size Bp Tp w' b P') : Hs A w0 Bp Tp b v K W w' P' :=
  ⟨hn, h.l.upd u (fun k h1 h2 e => by have := h.blt; omega), h.bel.trans (u.below h.bel.size (fun k hk => by have := h.blt; omega)), Nat.le_trans h.tp u.size, h.bt⟩
end Go.Proofs.Ytjpkdnndhjnkpaa
namespace Go.Proofs.Ytjpkdnndhjnkpaa
open Go.RowKit Go.Maps
structure NG (A : Nat → Prop) (B : Nat) (w : World) (b : Nat) (P : List Pk) (rl : Nat) (M : Int → List UInt8 → Nat) : Prop where
  ex : ∃ pv rv mb n R, Net w b 3 2 pv rv mb n P R M ∧ B ≤ b ∧ B ≤ mb ∧ (∀ g, pv.ownBlock = some g → B ≤ g) ∧ (∀ g, rv.ownBlock = some g → B ≤ g) ∧ R.length ≤ rl ∧ (∀ j, A j → j ≠ b ∧ j ≠ mb ∧ pv.ownBlock ≠ some j ∧ rv.ownBlock ≠ some j ∧ j < w.heap.size)
variable {A : Nat → Prop} {B rl : Nat} {w w' : World} {b mb n : Nat} {nn cc : Int} {pv rv : Value} {P P' R : List Pk} {M : Int → List UInt8 → Nat}
theorem NG.later {A' : Nat → Prop} (h : NG A B w b P rl M) (hb : Below w.heap.size w w') (hA : ∀ j, A' j → A j ∨ (w.heap.size ≤ j ∧ j < w'.heap.size)) : NG A' B w' b P rl M := by
  obtain ⟨pv, rv, mb, n, R, h1, h2, h3, h4, h5, h6, h7⟩ := h.ex
  refine ⟨pv, rv, mb, n, R, h1.later hb, h2, h3, h4, h5, h6, fun j hj => ?_⟩
  rcases hA j hj with e | ⟨e1, e2⟩
  · obtain ⟨k1, k2, k3, k4, k5⟩ := h7 j e
    exact ⟨k1, k2, k3, k4, Nat.lt_of_lt_of_le k5 hb.size⟩
  · exact ⟨by have := h1.lt; omega, by have := h1.mp.lt; omega, fun e => by have := h1.plt j e; omega, fun e => by have := (h1.rc.blk j e).2; omega, e2⟩
theorem NG.step (h : NG A B w b P rl M) (hb : Below w.heap.size w w') : NG A B w' b P rl M := h.later hb (fun j hj => .inl hj)
theorem NG.blt (h : NG A B w b P rl M) : b < w.heap.size ∧ B ≤ b := by
  obtain ⟨pv, rv, mb, n, R, h1, h2, _⟩ := h.ex
  exact ⟨h1.lt, h2⟩
theorem NG.sp (h : NG A B w b P rl M) : ∀ p ∈ P, p.s.length ≤ 32768 := by
  obtain ⟨pv, rv, mb, n, R, h1, _⟩ := h.ex
  exact h1.sp
theorem dr_le {α : Type} (L : List α) (k : Nat) : (dr L k).length ≤ L.length := by
  unfold dr
  rw [List.length_append, List.length_take, List.length_drop]
  omega
end Go.Proofs.Ytjpkdnndhjnkpaa
namespace Go.Proofs.Ytjpkdnndhjnkpaa
open Go.RowKit Go.Maps
def tt (P : List Pk) (j : Nat) : Int := ((P[j]?).map Pk.t).getD 0
theorem fo_mem {P : List Pk} {a : Int} : ∀ {j : Nat} {x : Int}, x ∈ fo P a j → ∃ t : Nat, x = (t : Int) ∧ t < j ∧ (P[t]?).map Pk.t = some a
  | 0, x, h => by simp [fo] at h
  | j + 1, x, h => by
    unfold fo at h
    split at h
    · rcases List.mem_append.1 h with h | h
      · obtain ⟨t, h1, h2, h3⟩ := fo_mem h
        exact ⟨t, h1, by omega, h3⟩
      · simp at h
        exact ⟨j, h, by omega, by assumption⟩
    · obtain ⟨t, h1, h2, h3⟩ := fo_mem h
      exact ⟨t, h1, by omega, h3⟩
theorem fo_has {P : List Pk} {a : Int} {t : Nat} (h : (P[t]?).map Pk.t = some a) : ∀ {j : Nat}, t < j → (t : Int) ∈ fo P a j
  | j + 1, hj => by
    by_cases e : t = j
    · subst e
      simp [fo, h]
    · have := fo_has h (show t < j by omega)
      unfold fo
      split
      · exact List.mem_append.2 (.inl this)
      · exact this
theorem fo_pw (P : List Pk) (a : Int) : ∀ j, (fo P a j).Pairwise (· < ·)
  | 0 => List.Pairwise.nil
  | j + 1 => by
    unfold fo
    split
    · refine List.pairwise_append.2 ⟨fo_pw P a j, by simp, fun x hx y hy => ?_⟩
      obtain ⟨t, h1, h2, _⟩ := fo_mem hx
      simp at hy
      omega
    · exact fo_pw P a j
theorem fo_get {P : List Pk} {a : Int} {j i : Nat} {x : Int} (h : (fo P a j)[i]? = some x) : ∃ t : Nat, x = (t : Int) ∧ t < j ∧ ∃ p, P[t]? = some p ∧ p.t = a := by
  obtain ⟨t, h1, h2, h3⟩ := fo_mem (List.mem_of_getElem? h)
  obtain ⟨p, hp, e⟩ := Option.map_eq_some_iff.1 h3
  exact ⟨t, h1, h2, p, hp, e⟩
theorem fo_rise {P : List Pk} {a : Int} {j i k : Nat} {x y : Int} (hx : (fo P a j)[i]? = some x) (hy : (fo P a j)[k]? = some y) (h : i < k) : x < y := by
  obtain ⟨h1, rfl⟩ := List.getElem?_eq_some_iff.1 hx
  obtain ⟨h2, rfl⟩ := List.getElem?_eq_some_iff.1 hy
  exact List.pairwise_iff_getElem.1 (fo_pw P a j) i k h1 h2 h
theorem fo_off {P : List Pk} {a : Int} {j i : Nat} {x : Int} (hx : (fo P a j)[i]? = some x) : x ∉ (fo P a j).take i := fun h => by
  obtain ⟨k, hk⟩ := List.mem_iff_getElem?.1 h
  have hki : k < i := by
    have := (List.getElem?_eq_some_iff.1 hk).1
    rw [List.length_take] at this
    omega
  rw [List.getElem?_take_of_lt hki] at hk
  have := fo_rise hk hx hki
  omega
def cn (P : List Pk) (a : Int) (D : List Int) : List Int := (List.range P.length).map fun j => if tt P j < a ∨ (j : Int) ∈ D then 1 else 0
theorem cn_len (P : List Pk) (a : Int) (D : List Int) : (cn P a D).length = P.length := by simp [cn]
theorem cn_get {P : List Pk} {a : Int} {D : List Int} {j : Nat} (h : j < P.length) : (cn P a D)[j]? = some (if tt P j < a ∨ (j : Int) ∈ D then 1 else 0) := by
  simp [cn, h]
theorem tt_of {P : List Pk} {j : Nat} {p : Pk} (h : P[j]? = some p) : tt P j = p.t := by simp [tt, h]
theorem cn_zero {P : List Pk} {a : Int} {i t : Nat} (h : (fo P a P.length)[i]? = some (t : Int)) : (cn P a ((fo P a P.length).take i))[t]? = some 0 := by
  obtain ⟨t', e, h2, p, hp, ha⟩ := fo_get h
  have e : t = t' := by omega
  subst e
  rw [cn_get h2, tt_of hp, if_neg]
  rintro (h3 | h3)
  · omega
  · exact fo_off h h3
theorem cn_set {P : List Pk} {a : Int} {i t : Nat} (h : (fo P a P.length)[i]? = some (t : Int)) : (cn P a ((fo P a P.length).take i)).set t 1 = cn P a ((fo P a P.length).take (i + 1)) := by
  obtain ⟨t', e, h2, _⟩ := fo_get h
  have e : t = t' := by omega
  subst e
  refine List.ext_getElem? fun j => ?_
  by_cases hj : j < P.length
  · rw [List.getElem?_set, cn_get hj, cn_get hj, List.take_add_one, h]
    by_cases e : t = j
    · subst e
      simp [cn_len, h2]
    · have : ¬ (j : Int) = (t : Int) := by omega
      simp [e, this]
  · rw [List.getElem?_eq_none (by simp [cn_len]; omega), List.getElem?_eq_none (by simp [cn_len]; omega)]
theorem cn_next {P : List Pk} {a : Int} : cn P a ((fo P a P.length).take (fo P a P.length).length) = cn P (a + 1) [] := by
  refine List.ext_getElem? fun j => ?_
  by_cases hj : j < P.length
  · obtain ⟨p, hp⟩ : ∃ p, P[j]? = some p := ⟨_, List.getElem?_eq_getElem hj⟩
    rw [cn_get hj, cn_get hj, List.take_length, tt_of hp]
    have : (j : Int) ∈ fo P a P.length ↔ p.t = a := by
      constructor
      · intro h
        obtain ⟨t, h1, h2, h3⟩ := fo_mem h
        have e : j = t := by omega
        subst e
        rw [hp] at h3
        simpa using h3
      · intro h
        exact fo_has (by rw [hp, ← h]; rfl) hj
    by_cases c : p.t < a ∨ p.t = a
    · rw [if_pos (by rw [this]; exact c), if_pos (.inl (by omega))]
    · rw [if_neg (by rw [this]; exact c), if_neg (by simp; omega)]
  · rw [List.getElem?_eq_none (by simp [cn_len]; omega), List.getElem?_eq_none (by simp [cn_len]; omega)]
theorem cn_start {P : List Pk} (h : ∀ p ∈ P, 0 ≤ p.t) : cn P (-1) [] = List.replicate P.length 0 := by
  refine List.ext_getElem? fun j => ?_
  by_cases hj : j < P.length
  · obtain ⟨p, hp⟩ : ∃ p, P[j]? = some p := ⟨_, List.getElem?_eq_getElem hj⟩
    have := h p (List.mem_of_getElem? hp)
    rw [cn_get hj, tt_of hp, if_neg (by simp; omega)]
    simp [hj]
  · rw [List.getElem?_eq_none (by simp [cn_len]; omega), List.getElem?_eq_none (by simp; omega)]
theorem cn_end {P : List Pk} (h : ∀ p ∈ P, p.t < 10) {j : Nat} (hj : j < P.length) : (cn P 10 [])[j]? = some 1 := by
  obtain ⟨p, hp⟩ : ∃ p, P[j]? = some p := ⟨_, List.getElem?_eq_getElem hj⟩
  rw [cn_get hj, tt_of hp, if_pos (.inl (h p (List.mem_of_getElem? hp)))]
def NF (w : World) (b m : Nat) : Prop := ∃ pv rv mb n P R M, Net w b 3 2 pv rv mb n P R M ∧ P.length ≤ m
variable {w w' : World} {b m : Nat}
theorem NF.lt (h : NF w b m) : b < w.heap.size := by
  obtain ⟨pv, rv, mb, n, P, R, M, h1, _⟩ := h
  exact h1.lt
theorem NF.step (h : NF w b m) (hb : Below w.heap.size w w') : NF w' b m := by
  obtain ⟨pv, rv, mb, n, P, R, M, h1, h2⟩ := h
  exact ⟨pv, rv, mb, n, P, R, M, h1.later hb, h2⟩
theorem nf_turn (k : Int) (h : NF w b m) (hl : m * 32 ≤ 168884986026393) : Calls Try.prog 30 #[.pointer (some ⟨b, 0, none⟩), .int .i64 k, .int .i64 0, .int .u8 1] w fun e w' => (∃ r, e = .returned (.int .i64 r)) ∧ NF w' b m ∧ Upd (fun k => k = b) w w' := by
  obtain ⟨pv, rv, mb, n, P, R, M, h1, h2⟩ := h
  by_cases hk : 0 ≤ k ∧ k < P.length
  · obtain ⟨j, rfl⟩ := Int.eq_ofNat_of_zero_le hk.1
    have hj : j < P.length := by omega
    have hg := List.getElem?_eq_getElem hj
    by_cases hs : 0 < P[j].s.length
    · refine (turn_ok j 0 1 _ h1 hg hs (by omega)).mono ?_
      rintro e w' ⟨rfl, pv', N, U, _⟩
      exact ⟨⟨_, rfl⟩, ⟨_, _, _, _, _, _, _, N, by simpa using h2⟩, U⟩
    · refine (turn_byte j 0 1 _ h1 hg (.inr (by omega))).mono ?_
      rintro e w' ⟨rfl, rfl⟩
      exact ⟨⟨_, rfl⟩, ⟨_, _, _, _, _, _, _, h1, h2⟩, Upd.refl _ _⟩
  · refine (turn_bad k 0 1 h1 (by omega)).mono ?_
    rintro e w' ⟨rfl, rfl⟩
    exact ⟨⟨_, rfl⟩, ⟨_, _, _, _, _, _, _, h1, h2⟩, Upd.refl _ _⟩
theorem nf_swap (i k : Int) (h : NF w b m) (hl : m * 32 ≤ 168884986026393) : Calls Try.prog 31 #[.pointer (some ⟨b, 0, none⟩), .int .i64 i, .int .i64 k] w fun e w' => (∃ r, e = .returned (.int .i64 r)) ∧ NF w' b m ∧ Upd (fun k => k = b) w w' := by
  obtain ⟨pv, rv, mb, n, P, R, M, h1, h2⟩ := h
  by_cases hk : (0 ≤ i ∧ i < P.length) ∧ (0 ≤ k ∧ k < P.length)
  · obtain ⟨j, rfl⟩ := Int.eq_ofNat_of_zero_le hk.1.1
    obtain ⟨l, rfl⟩ := Int.eq_ofNat_of_zero_le hk.2.1
    refine (swap_ok j l _ _ h1 (List.getElem?_eq_getElem (show j < P.length by omega)) (List.getElem?_eq_getElem (show l < P.length by omega)) (by omega)).mono ?_
    rintro e w' ⟨rfl, pv', N, U, _⟩
    exact ⟨⟨_, rfl⟩, ⟨_, _, _, _, _, _, _, N, by simpa using h2⟩, U⟩
  · refine (swap_bad i k h1 (by omega)).mono ?_
    rintro e w' ⟨rfl, rfl⟩
    exact ⟨⟨_, rfl⟩, ⟨_, _, _, _, _, _, _, h1, h2⟩, Upd.refl _ _⟩
theorem nf_clear (h : NF w b m) : Calls Try.prog 32 #[.pointer (some ⟨b, 0, none⟩)] w fun e w' => e = .returned (.tuple #[]) ∧ NF w' b 0 ∧ Upd (fun k => k = b) w w' := by
  obtain ⟨pv, rv, mb, n, P, R, M, h1, h2⟩ := h
  refine (clear_any h1).mono ?_
  rintro e w' ⟨rfl, N, U⟩
  exact ⟨rfl, ⟨_, _, _, _, _, _, _, N, by simp⟩, U⟩
end Go.Proofs.Ytjpkdnndhjnkpaa
