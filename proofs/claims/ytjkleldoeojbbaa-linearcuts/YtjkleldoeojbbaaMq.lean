import Derived.Test.YtjkleldoeojbbaaMp
namespace Go.Proofs.Ytjkleldoeojbbaa
open Go.RowKit Go.Shelf
set_option linter.unusedVariables false
attribute [local go_sem] Oper.semAt_some

theorem Led.map {w : World} {b : Nat} {m : Option Nat} {L : List Cl} (h : Led w b m L) {j : Nat} (e : m = some j) : ∃ es c, w.heap[j]? = some (.map es c) := by
  obtain ⟨es, clock, hb, _⟩ := (h.sm j e).2
  exact ⟨es, clock, hb⟩
/-- What is no map and lies in another block stays. -/
theorem Took.stay {w w' : World} {b : Nat} {m : Option Nat} {L L' : List Cl} (t : Took w b m L' w') (h : Led w b m L) {k : Nat} {o : Obj} (hk : w.heap[k]? = some o) (ho : ∀ es c, o ≠ .map es c) (hn : k ≠ b) : w'.heap[k]? = some o := by
  obtain ⟨m', _, _, u⟩ := t
  rw [u.block k (Array.getElem?_eq_some_iff.1 hk).1 (fun hs => by
    rcases hs with hs | hs
    · exact hn hs
    · obtain ⟨es, c, e⟩ := h.map hs
      rw [e] at hk
      cases hk
      exact ho es c rfl), hk]
theorem Led.put {w : World} {b : Nat} {m : Option Nat} {L : List Cl} (h : Led w b m L) {k : Nat} {o : Obj} (hk : w.heap[k]? = some o) (ho : ∀ es c, o ≠ .map es c) (hn : k ≠ b) (o' : Obj) : Led (w.putObj k o') b m L :=
  h.upd (S := (· = k)) ((Upd.refl _ w).grownBy (grownBy_putObj' w k o') (fun i e _ => by cases e; rfl)) (fun e => hn e.symm) (fun j e hj => by
    obtain ⟨es, c, e2⟩ := h.map e
    rw [hj, hk] at e2
    cases e2
    exact ho es c rfl)
/-- Between two rounds of Clone's loop. -/
structure Cln (w : World) (N g z : Nat) (o1 o2 : Obj) (rc : Loop) (W : World) (pre : List Cl) : Prop where
  led : ∃ m, Led W N m pre ∧ ∀ j, m = some j → N ≤ j
  bel : Below N w W
  c1 : W.heap[N + 1]? = some o1
  c2 : W.heap[g]? = some o2
  c3 : W.heap[z]? = some (.deferred (some []))
  c4 : W.heap[z + 1]? = some (.loop rc)
theorem heap_on {W W' : World} {row : Option Nat} (hg : W.grownBy W' row) {k : Nat} {o : Obj} (h : W.heap[k]? = some o) (hn : some k ≠ row) : W'.heap[k]? = some o := (hg.block k (Array.getElem?_eq_some_iff.1 h).1 hn).trans h
theorem Cln.alloc {w : World} {N g z : Nat} {o1 o2 : Obj} {rc : Loop} {W : World} {pre : List Cl} (h : Cln w N g z o1 o2 rc W pre) (hN : N < z) (o : Obj) : Cln w N g z o1 o2 rc (W.alloc o) pre := by
  obtain ⟨⟨m, h1, h2⟩, h3, h4, h5, h6, h7⟩ := h
  have hz := (Array.getElem?_eq_some_iff.1 h6).1
  have hg := World.grownBy_alloc W o none
  exact ⟨⟨m, h1.upd (S := fun _ => False) ((Upd.refl _ W).alloc o) (fun h => h) (fun _ _ h => h), h2⟩, h3.alloc (by omega) o, heap_on hg h4 nofun, heap_on hg h5 nofun, heap_on hg h6 nofun, heap_on hg h7 nofun⟩
theorem Cln.put {w : World} {N g z : Nat} {o1 o2 : Obj} {rc : Loop} {W : World} {pre : List Cl} (h : Cln w N g z o1 o2 rc W pre) (hN : N + 1 < z) (hg : g < z) (rc' : Loop) : Cln w N g z o1 o2 rc' (W.putObj (z + 1) (.loop rc')) pre := by
  obtain ⟨⟨m, h1, h2⟩, h3, h4, h5, h6, h7⟩ := h
  have hz := (Array.getElem?_eq_some_iff.1 h7).1
  have hw := grownBy_putObj' W (z + 1) (.loop rc')
  exact ⟨⟨m, h1.put h7 nofun (by omega) _, h2⟩, h3.grown hw (by omega) (fun k e => by cases e; omega), heap_on hw h4 (fun e => by injection e; omega), heap_on hw h5 (fun e => by injection e; omega), heap_on hw h6 (fun e => by injection e; omega), World.putObj_heap_same hz⟩
theorem Cln.take {w : World} {N g z : Nat} {o1 o2 : Obj} {rc : Loop} {W W' : World} {pre L' : List Cl} {m : Option Nat} (h : Cln w N g z o1 o2 rc W pre) (hl : Led W N m pre) (hm : ∀ j, m = some j → N ≤ j) (t : Took W N m L' W') (hN : N + 1 < z) (hg : g ≠ N) (i1 : ∀ es c, o1 ≠ .map es c) (i2 : ∀ es c, o2 ≠ .map es c) : Cln w N g z o1 o2 rc W' L' := by
  obtain ⟨_, h3, h4, h5, h6, h7⟩ := h
  have hz := (Array.getElem?_eq_some_iff.1 h6).1
  have s4 := t.stay hl h4 i1 (by omega)
  have s5 := t.stay hl h5 i2 hg
  have s6 := t.stay hl h6 nofun (by omega)
  have s7 := t.stay hl h7 nofun (by omega)
  obtain ⟨m', l', hm', u⟩ := t
  refine ⟨⟨m', l', fun j e => ?_⟩, h3.trans (u.below (by omega) (fun k hk => ?_)), s4, s5, s6, s7⟩
  · rcases hm' with e2 | ⟨i, e2, hi⟩
    · exact hm j (e2.symm.trans e)
    · rw [e2] at e; cases e; omega
  · rcases hk with hk | hk
    · omega
    · exact hm k hk
/-- The record of a loop over a function. -/
def recOf (fn : FuncId) (tmps : Array Value) (ps : Array Tmp) (assign body : Code) (z : Nat) (st : LoopState) : Loop := { state := st, pending := none, fn, tmps, params := ps, assign, body, defers := z }
/-- A range over a function, entered. -/
theorem range_enter {P : Program} {n : Nat} {g : Operand} {ps : Array Tmp} {assign body : Code} {Q : Exit → Act → World → Prop} {a : Act} {w : World} {gf : Nat} {lb : Array Value} (h1 : 1 ≤ n)
    (hg : a.eval g = .func (.func gf) #[] lb) (eg : ∀ args w, (callFunc gf args).run P w = .ok (.enter gf args) w)
    (h : ∀ fn rf W, rf = recOf fn a.tmps ps assign body w.heap.size → W = (w.alloc (.deferred (some []))).alloc (.loop (rf .ready)) → CallsIn Fence.wide (n - 1) P gf (#[.func (.yield (w.heap.size + 1)) #[] #[]] ++ lb) W
      (rangePost Fence.wide n P (w.heap.size + 1) Q { a with defers := [{ target := .collected w.heap.size, args := #[] }] ++ a.defers })) :
    (Code.rangeFunc g ps assign body).wpIn Fence.wide n P Q a w := by
  refine wpIn_rangeFunc fun fn hfn => ?_
  obtain ⟨rf, hrf⟩ : ∃ rf, rf = recOf fn a.tmps ps assign body w.heap.size := ⟨_, rfl⟩
  obtain ⟨W, hW⟩ : ∃ W, W = (w.alloc (.deferred (some []))).alloc (.loop (rf .ready)) := ⟨_, rfl⟩
  have he : (Instr.enterLoop fn a.tmps ps assign body none).run P w = .ok (w.heap.size + 1, [{ target := .collected w.heap.size, args := #[] }]) W := by
    rw [hW, hrf]
    exact run_enterLoop_outer fn a.tmps ps assign body
  have hcall := h fn rf W hrf hW
  have hres : (resolve a.eval (rangeCall g (w.heap.size + 1)) 0).run P W = .ok { target := .fn (.func gf) lb, args := #[.func (.yield (w.heap.size + 1)) #[] #[]] } W := by
    simp only [resolve, hg]
    simp [go_sem]
  have hinv : (invoke (.fn (.func gf) lb) #[.func (.yield (w.heap.size + 1)) #[] #[]]).run P W = .ok (.enter gf (#[.func (.yield (w.heap.size + 1)) #[] #[]] ++ lb)) W := by
    simp [invoke, go_sem, eg]
  refine ⟨w.heap.size + 1, [{ target := .collected w.heap.size, args := #[] }], W, { target := .fn (.func gf) lb, args := #[.func (.yield (w.heap.size + 1)) #[] #[]] }, W, gf, #[.func (.yield (w.heap.size + 1)) #[] #[]] ++ lb, W, he, hres, ?_, ?_, ?_, ?_⟩
  · intro f' _; trivial
  · exact hinv
  · intro _; exact h1
  · exact hcall
/-- A round that goes on. -/
theorem range_round {P : Program} {n l z : Nat} {fn : FuncId} {tmps : Array Value} {ps : Array Tmp} {assign body : Code} {args : Array Value} {W : World} {R : Ending → World → Prop} {rf : LoopState → Loop}
    (hrf : rf = recOf fn tmps ps assign body z) (hl : W.heap[l]? = some (.loop (rf .ready))) (hs : args.size = ps.size)
    (h : ∀ Wb, Wb = W.putObj l (.loop (rf .busy)) → assign.wpIn (Fence.wide.inRound l) n P (Exit.then (fun a₁ w₁ => w₁ = W ∧ body.wpIn (Fence.wide.inRound l) n P (fun e _ W3 => e = .normal ∧ W3.heap[l]? = some (.loop (rf .busy)) ∧ R (.returned (.bool true)) (W3.putObj l (.loop (rf .ready)))) a₁ Wb) (fun _ _ _ => False))
      { tmps := (ps.zip args).foldl (fun t (p, v) => t.setIfInBounds p v) tmps, defers := [] } W) : YieldAt Fence.wide n P l args W R := by
  subst hrf
  refine ⟨fn, _, assign, body, run_yield hl hs, roundIn_of_wpIn trivial (wpIn_mono (h _ rfl) fun e a1 w1 hq => ?_)⟩
  cases e with
  | normal =>
    obtain ⟨rfl, hb⟩ := hq
    refine ⟨_, run_beginRound hl rfl, wpIn_mono hb fun e2 a2 w2 hq2 => ?_⟩
    obtain ⟨rfl, hl2, hR⟩ := hq2
    exact ⟨_, _, run_endRound none hl2, hR⟩
  | ret => exact hq
  | exit id => exact hq
  | goto t => exact hq
  | panic ch => exact hq
  | outgrown => exact hq
theorem range_end {P : Program} {l z : Nat} {fn : FuncId} {tmps : Array Value} {ps : Array Tmp} {assign body : Code} {W : World} {rf : LoopState → Loop} (hrf : rf = recOf fn tmps ps assign body z) (hl : W.heap[l]? = some (.loop (rf .ready))) :
    (Instr.endLoop l).run P W = .ok none (W.putObj l (.loop (rf .exhausted))) := by
  subst hrf
  exact run_endLoop hl (by simp [recOf])
theorem ok_pre {pre rest : List Cl} {x : Cl} (h : Ok (pre ++ x :: rest)) : Ok (pre ++ [x]) :=
  ⟨h.up.sublist (by simp), fun p hp => h.may p (by
    rcases List.mem_append.1 hp with hp | hp
    · exact List.mem_append.2 (.inl hp)
    · simp at hp
      simp [hp])⟩
theorem Cln.start {w w4 W1 : World} {N g : Nat} {o1 o2 : Obj} {rc : Loop} (hW : W1 = (w4.alloc (.deferred (some []))).alloc (.loop rc)) (l4 : LedB N w w4 N []) (h4 : w4.heap[N + 1]? = some o1) (hgo : w4.heap[g]? = some o2) : Cln w N g w4.heap.size o1 o2 rc W1 [] := by
  obtain ⟨m, hl, _, hm, hb⟩ := l4
  have hlt := hl.lt
  have ha := World.grownBy_alloc w4 (.deferred (some [])) none
  have hb2 := World.grownBy_alloc (w4.alloc (.deferred (some []))) (.loop rc) none
  have e1 : (w4.alloc (.deferred (some []))).heap[w4.heap.size]? = some (.deferred (some [])) := World.alloc_heap_new w4 _
  have e2 : ((w4.alloc (.deferred (some []))).alloc (.loop rc)).heap[w4.heap.size + 1]? = some (.loop rc) := by
    have := World.alloc_heap_new (w4.alloc (.deferred (some []))) (.loop rc)
    rwa [World.size_alloc] at this
  subst hW
  exact ⟨⟨m, hl.upd (S := fun _ => False) (((Upd.refl _ w4).alloc _).alloc _) (fun h => h) (fun _ _ h => h), hm⟩, (hb.alloc (by omega) _).alloc (by simp; omega) _, heap_on hb2 (heap_on ha h4 nofun) nofun, heap_on hb2 (heap_on ha hgo nofun) nofun, heap_on hb2 e1 nofun, e2⟩
set_option maxRecDepth 100000 in
set_option maxHeartbeats 2000000 in
/-- Clone: a ledger of its own with the same cells. -/
theorem clone_any (b : Nat) (m : Option Nat) (L : List Cl) (w : World) (h : Led w b m L) :
    Calls Try.prog 88 #[.pointer (some ⟨b, 0, none⟩)] w fun e w' => e = .returned (.pointer (some ⟨w.heap.size, 0, none⟩)) ∧ LedB w.heap.size w w' w.heap.size L := by
  have hh := hide h
  have hll := h.ok.len_le
  clear h
  refine (callsIn_wide (n := 3)).1 ?_
  refine callsIn_of_wp_marks Try.func88 rfl trivial ?_ rfl
  simp only [Try.ntmps88, List.size_toArray, List.length_cons, List.length_nil, Nat.reduceAdd, Nat.reduceSub, Array.replicate_succ, Array.replicate_zero, List.push_toArray, List.append_toArray, List.nil_append, List.cons_append]
  gi_wp2_with (refine ⟨trivial, ?_⟩; gi_at_call 78; refine (callsIn_wide.2 (new_b w.heap.size w w (Below.refl _ _) (Nat.le_refl _))).mono ?_; rintro e w1 ⟨rfl, l1, s1⟩)
  obtain ⟨w2, hw2⟩ : ∃ w2, w1.alloc (Obj.cells #[Value.pointer (some { block := w.heap.size, off := 0 })] 154) = w2 := ⟨_, rfl⟩
  rw [hw2]
  have hz2 : w2.heap.size = w.heap.size + 2 := by rw [← hw2, World.size_alloc, s1]
  have l2 : LedB w.heap.size w w2 w.heap.size [] := by rw [← hw2]; exact l1.on ((Below.refl _ _).alloc (Nat.le_refl _) _)
  have h2 : w2.heap[w.heap.size + 1]? = some (Obj.cells #[Value.pointer (some { block := w.heap.size, off := 0 })] 154) := by rw [← hw2, ← s1]; exact World.alloc_heap_new w1 _
  clear hw2 l1 s1
  refine ⟨trivial, ?_⟩
  refine (callsIn_wide.2 (cells_any b m L w2 (hh.out.upd (S := fun _ => False) (Upd.of_below l2.bel) (fun h => h) (fun _ _ h => h)))).mono ?_
  rintro e w3 ⟨v, rfl, o3, b3⟩
  obtain ⟨a, c, sl3, _⟩ := o3.sl
  have hv := sl3.form
  subst hv
  have l3 := l2.on b3
  have h3 := (b3.block (w.heap.size + 1) (by omega)).trans h2
  have hz3 := b3.size
  clear l2 h2
  gi_wp2_with fail
  refine ⟨trivial, ?_⟩
  refine (callsIn_wide.2 (each_any L a c w3 sl3 (by omega))).mono ?_
  rintro e w4 ⟨g, k, rfl, hg, hk, hk2, hc, o4, b4⟩
  have l4 := l3.on b4
  have h4 := (b4.block (w.heap.size + 1) (by omega)).trans h3
  have hz4 := b4.size
  clear l3 h3 sl3 o3
  gi_wp2
  have lie4 : LieC w4 g 0 L := fun i d hd => by rw [Nat.zero_add]; exact o4.cell i d hd
  obtain ⟨o2, hgo, ho2⟩ : ∃ o2, w4.heap[g]? = some o2 ∧ ∀ es c, o2 ≠ .map es c := by
    rcases o4.2 with ⟨e, _⟩ | ⟨g', cap, cur, e, hB, hgo, _⟩
    · cases e
    · simp only [Value.slice.injEq, Option.some.injEq, Addr.mk.injEq, and_true, true_and] at e
      obtain ⟨rfl, _⟩ := e
      exact ⟨_, hgo, nofun⟩
  have hgl := (Array.getElem?_eq_some_iff.1 hgo).1
  refine range_enter (gf := 129) (by omega) rfl (enters_of Try.func129 (by kernel_rfl) rfl) ?_
  intro fn rf W1 hrf hW1
  have hC := Cln.start hW1 l4 h4 hgo
  have hok := hide hh.out.ok
  have hNz : w.heap.size + 1 < w4.heap.size := by omega
  have hgN : g ≠ w.heap.size := by omega
  have hkc : W1.cell? ⟨k, 0, none⟩ = some (.slice (some ⟨g, 0, none⟩) L.length L.length) := by
    rw [← hc]
    refine World.cell?_of_block (a := ⟨k, 0, none⟩) ?_
    rw [hW1, Below.heap_alloc _ _ _ (by simp; omega), Below.heap_alloc _ _ _ hk2]
  have lie : ∀ W, W.heap[g]? = some o2 → LieC W g 0 L := fun W hW i d hd =>
    ⟨(World.cell?_of_block (a := ⟨g, 0 + i * 2, none⟩) (hW.trans hgo.symm)).trans (lie4 i d hd).1, (World.cell?_of_block (a := ⟨g, 0 + i * 2 + 1, none⟩) (hW.trans hgo.symm)).trans (lie4 i d hd).2⟩
  clear hW1 l4 h4 hgo o4 lie4 hc hz2 hz3 hz4 b3 b4 hk2 hg hk
  generalize w4.heap.size = z at *
  have hrh := hide hrf
  have hlh := hide lie
  clear hrf lie
  refine (each1_in 2 (by omega) (z + 1) k g L (fun pre W => Cln w w.heap.size g z _ o2 (rf .ready) W pre) ?hY (fun pre W o h => h.alloc (by omega) o) (fun pre W h => hlh.out W h.c2) W1 hkc (by omega) hC).mono ?_
  case hY =>
    intro pre x rest W hx hCW
    refine range_round hrh.out hCW.c4 rfl ?_
    intro Wb hWb
    have hB := hCW.put hNz hgl (rf .busy)
    rw [← hWb] at hB
    have hc1 : Wb.cell? ⟨w.heap.size + 1, 0, none⟩ = some (.pointer (some ⟨w.heap.size, 0, none⟩)) := by simp [World.cell?, hB.c1]
    obtain ⟨m', hl, hm⟩ := hB.led
    obtain ⟨hs, hv, hb⟩ := (ok_snoc hl.ok x).1 (ok_pre (hx ▸ hok.out))
    have hgn : gv pre x.1 = none := gv_none.2 (fun p hp => by have := (bh_le_iff hs.1).1 hb p hp; omega)
    have ct := take_any w.heap.size m' pre x Wb hl ⟨hs.1, hs.2, hv⟩ hgn
    rw [ins_last ((bh_le_iff hs.1).1 hb)] at ct
    have cth := hide ct
    have hBh := hide hB
    have hlh2 := hide hl
    clear ct hB hl hgn hb hs hv hx hWb hCW hrh hlh hC hkc
    gi_wp2_with fail
    refine ⟨trivial, ?_⟩
    gi_wp2_with (refine ⟨trivial, ?_⟩; gi_at_call 104; refine (CallsIn.inRound _ (callsIn_wide.2 cth.out)).mono ?_; rintro e w5 ⟨rfl, t5⟩)
    have h5 := hBh.out.take hlh2.out hm t5 hNz hgN nofun ho2
    exact ⟨h5.c4, h5.put hNz hgl _⟩
  rintro e W5 ⟨⟨v, rfl⟩, h5⟩
  refine ⟨none, _, range_end hrh.out h5.c4, ?_⟩
  have h6 := h5.put hNz hgl (rf .exhausted)
  generalize W5.putObj (z + 1) (.loop (rf .exhausted)) = W6 at *
  have hc6 : W6.cell? ⟨w.heap.size + 1, 0, none⟩ = some (.pointer (some ⟨w.heap.size, 0, none⟩)) := by simp [World.cell?, h6.c1]
  have h6h := hide h6
  clear h6 h5 hrh hC hkc hlh
  gi_wp2
  obtain ⟨m6, hl6, hm6⟩ := h6h.out.led
  refine ⟨by simp, .inl ⟨_, _, rfl, run_takeDeferred h6h.out.c3, ?_⟩⟩
  have hsz := (Array.getElem?_eq_some_iff.1 h6h.out.c3).1
  exact ⟨_, results_tmp rfl _ _ _, rfl, m6, hl6.put h6h.out.c3 nofun (by omega) _, Nat.le_refl _, hm6, h6h.out.bel.grown (grownBy_putObj' W6 z _) (by omega) (fun k e => by cases e; omega)⟩

end Go.Proofs.Ytjkleldoeojbbaa
