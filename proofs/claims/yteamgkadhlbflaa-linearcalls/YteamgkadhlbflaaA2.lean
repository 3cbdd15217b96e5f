import Derived.RangeFuncOwn
import Derived.RangeFuncCalls
import Derived.RangeFuncLeaves
import Derived.Shelf.Abstract
import Derived.OwnWalkIn
import Derived.TacticsInMore
import Derived.LoopNIn
import Derived.LoopIn
import Derived.Deep.MidRow
import Derived.Deep.Cut
import Derived.OrdersHeld
import Derived.Deep.RegionHeld3
import Derived.Laws.IdiomCopy
import Derived.Test.YteamgkadhlbflaaA1
set_option maxRecDepth 100000
set_option linter.unusedVariables false
set_option linter.unusedSimpArgs false
namespace Go.Proofs.Yteamgkadhlbflaa
open Go.RowKit Go.Shelf
attribute [local go_sem] Oper.semAt_some
theorem yield_nil (l : Nat) (w : World) : (binOp .eql 171 (.func (.yield l) #[] #[]) .nilFunc).run Try.prog w = .ok (.bool false) w := by kernel_rfl
set_option maxHeartbeats 1000000 in
theorem each1_in (n : Nat) (hn : 1 ≤ n) (l k g : Nat) (D : List Cl) (J : List Cl → World → Prop)
    (hY : ∀ pre x rest W, D = pre ++ x :: rest → J pre W → YieldAt Fence.wide (n - 1) Try.prog l #[.int .i64 x.1, .string x.2] W fun e W' => e = .returned (.bool true) ∧ J (pre ++ [x]) W')
    (hJa : ∀ pre W o, J pre W → J pre (W.alloc o))
    (hJk : ∀ pre W, J pre W → LieC W g 0 D) (W : World) (hk : W.cell? ⟨k, 0, none⟩ = some (.slice (some ⟨g, 0, none⟩) D.length D.length)) (hD : D.length * 24 ≤ 140737488355328) (h0 : J [] W) :
    CallsIn Fence.wide n Try.prog 84 #[.func (.yield l) #[] #[], .pointer (some ⟨k, 0, none⟩)] W fun e W' => (∃ v, e = .returned v) ∧ J D W' := by
  have hYh := hide hY
  have hJh := hide hJk
  clear hY hJk
  refine callsIn_of_wp Try.func84 rfl trivial ?_ rfl
  simp only [Try.ntmps84, List.size_toArray, List.length_cons, List.length_nil, Nat.reduceAdd, Nat.reduceSub, Array.replicate_succ, Array.replicate_zero, List.push_toArray, List.append_toArray, List.nil_append, List.cons_append]
  have q := yield_nil l
  gi_wp2
  gi_loopw [9] (fun i wr => ∃ k : Nat, i = .int .i64 (k : Int) ∧ k ≤ D.length ∧ J (D.take k) wr) (fun i _ => D.length - (intOf i).toNat)
  case atStart => exact ⟨0, rfl, Nat.zero_le _, h0⟩
  case round =>
    obtain ⟨i, rfl, hi, hJ⟩ := hrel
    by_cases hlt : i < D.length
    · have hl := hJh.out _ _ hJ i D[i] (List.getElem?_eq_getElem hlt)
      obtain ⟨h1, h2⟩ := hl
      rw [Nat.zero_add] at h1 h2
      have hsp : D = D.take i ++ D[i] :: D.drop (i + 1) := by rw [List.getElem_cons_drop, List.take_append_drop]
      obtain ⟨fn, tmps, assign, body, hy, hR⟩ := hYh.out (D.take i) D[i] _ (wr.alloc (Obj.cells #[.int .i64 D[i].1, .string D[i].2] 111)) hsp (hJa _ _ _ hJ)
      clear hsp
      gi_wp2
      refine hR.mono ?_
      rintro e W3 ⟨rfl, hJ3⟩
      rw [List.take_append_getElem] at hJ3
      gi_wp2
      go_roundw
      case rel => exact ⟨i + 1, by simp, by omega, hJ3⟩
      case measure => simp [intOf]; omega
    · have he : i = D.length := by omega
      subst he
      rw [List.take_length] at hJ
      gi_wp2
      go_end0
      exact ⟨⟨_, rfl⟩, hJ⟩
end Go.Proofs.Yteamgkadhlbflaa
namespace Go.Proofs.Yteamgkadhlbflaa
open Go.RowKit Go.Shelf
attribute [local go_sem] Oper.semAt_some
theorem Led.map {w : World} {b : Nat} {m : Option Nat} {L : List Cl} (h : Led w b m L) {j : Nat} (e : m = some j) : ∃ es c, w.heap[j]? = some (.map es c) := by
  obtain ⟨es, clock, hb, _⟩ := (h.sm j e).2
  exact ⟨es, clock, hb⟩
theorem Took.stay {w w' : World} {b : Nat} {m : Option Nat} {L L' : List Cl} (t : Took w b m L' w') (h : Led w b m L) {k : Nat} {o : Obj} (hk : w.heap[k]? = some o) (ho : ∀ es c, o ≠ .map es c) (hn : k ≠ b) : w'.heap[k]? = some o := by
  obtain ⟨m', _, _, u⟩ := t
  rw [u.block k (Array.getElem?_eq_some_iff.1 hk).1 (fun hs => by
    rcases hs with hs | hs
    · exact hn hs
    · obtain ⟨es, c, e⟩ := h.map hs
      rw [e] at hk
      cases hk
      exact ho es c rfl), hk]
theorem Led.put {w : World} {b : Nat} {m : Option Nat} {L : List Cl} (h : Led w b m L) {k : Nat} {o : Obj} (hk : w.heap[k]? = some o) (ho : ∀ es c, o ≠ .map es c) (hn : k ≠ b) (o' : Obj) : Led (w.putObj k o') b m L :=
  h.upd (S := (· = k)) ((Upd.refl _ w).grownBy (grownBy_putObj' w k o') (fun i e _ => by cases e; rfl)) (fun e => hn e.symm) (fun j e hj => by
    obtain ⟨es, c, e2⟩ := h.map e
    rw [hj, hk] at e2
    cases e2
    exact ho es c rfl)
structure Cln (w : World) (N g z : Nat) (o1 o2 : Obj) (rc : Loop) (W : World) (pre : List Cl) : Prop where
  led : ∃ m, Led W N m pre ∧ ∀ j, m = some j → N ≤ j
  bel : Below N w W
  c1 : W.heap[N + 1]? = some o1
  c2 : W.heap[g]? = some o2
  c3 : W.heap[z]? = some (.deferred (some []))
  c4 : W.heap[z + 1]? = some (.loop rc)
theorem heap_on {W W' : World} {row : Option Nat} (hg : W.grownBy W' row) {k : Nat} {o : Obj} (h : W.heap[k]? = some o) (hn : some k ≠ row) : W'.heap[k]? = some o := (hg.block k (Array.getElem?_eq_some_iff.1 h).1 hn).trans h
theorem Cln.alloc {w : World} {N g z : Nat} {o1 o2 : Obj} {rc : Loop} {W : World} {pre : List Cl} (h : Cln w N g z o1 o2 rc W pre) (hN : N < z) (o : Obj) : Cln w N g z o1 o2 rc (W.alloc o) pre := by
  obtain ⟨⟨m, h1, h2⟩, h3, h4, h5, h6, h7⟩ := h
  have hz := (Array.getElem?_eq_some_iff.1 h6).1
  have hg := World.grownBy_alloc W o none
  exact ⟨⟨m, h1.upd (S := fun _ => False) ((Upd.refl _ W).alloc o) (fun h => h) (fun _ _ h => h), h2⟩, h3.alloc (by omega) o, heap_on hg h4 nofun, heap_on hg h5 nofun, heap_on hg h6 nofun, heap_on hg h7 nofun⟩
theorem Cln.put {w : World} {N g z : Nat} {o1 o2 : Obj} {rc : Loop} {W : World} {pre : List Cl} (h : Cln w N g z o1 o2 rc W pre) (hN : N + 1 < z) (hg : g < z) (rc' : Loop) : Cln w N g z o1 o2 rc' (W.putObj (z + 1) (.loop rc')) pre := by
  obtain ⟨⟨m, h1, h2⟩, h3, h4, h5, h6, h7⟩ := h
  have hz := (Array.getElem?_eq_some_iff.1 h7).1
  have hw := grownBy_putObj' W (z + 1) (.loop rc')
  exact ⟨⟨m, h1.put h7 nofun (by omega) _, h2⟩, h3.grown hw (by omega) (fun k e => by cases e; omega), heap_on hw h4 (fun e => by injection e; omega), heap_on hw h5 (fun e => by injection e; omega), heap_on hw h6 (fun e => by injection e; omega), World.putObj_heap_same hz⟩
theorem Cln.take {w : World} {N g z : Nat} {o1 o2 : Obj} {rc : Loop} {W W' : World} {pre L' : List Cl} {m : Option Nat} (h : Cln w N g z o1 o2 rc W pre) (hl : Led W N m pre) (hm : ∀ j, m = some j → N ≤ j) (t : Took W N m L' W') (hN : N + 1 < z) (hg : g ≠ N) (i1 : ∀ es c, o1 ≠ .map es c) (i2 : ∀ es c, o2 ≠ .map es c) : Cln w N g z o1 o2 rc W' L' := by
  obtain ⟨_, h3, h4, h5, h6, h7⟩ := h
  have hz := (Array.getElem?_eq_some_iff.1 h6).1
  have s4 := t.stay hl h4 i1 (by omega)
  have s5 := t.stay hl h5 i2 hg
  have s6 := t.stay hl h6 nofun (by omega)
  have s7 := t.stay hl h7 nofun (by omega)
  obtain ⟨m', l', hm', u⟩ := t
  refine ⟨⟨m', l', fun j e => ?_⟩, h3.trans (u.below (by omega) (fun k hk => ?_)), s4, s5, s6, s7⟩
  · rcases hm' with e2 | ⟨i, e2, hi⟩
    · exact hm j (e2.symm.trans e)
    · rw [e2] at e; cases e; omega
  · rcases hk with hk | hk
    · omega
    · exact hm k hk
def recOf (fn : FuncId) (tmps : Array Value) (ps : Array Tmp) (assign body : Code) (z : Nat) (st : LoopState) : Loop := { state := st, pending := none, fn, tmps, params := ps, assign, body, defers := z }
theorem range_enter {P : Program} {n : Nat} {g : Operand} {ps : Array Tmp} {assign body : Code} {Q : Exit → Act → World → Prop} {a : Act} {w : World} {gf : Nat} {lb : Array Value} (h1 : 1 ≤ n)
    (hg : a.eval g = .func (.func gf) #[] lb) (eg : ∀ args w, (callFunc gf args).run P w = .ok (.enter gf args) w)
    (h : ∀ fn rf W, rf = recOf fn a.tmps ps assign body w.heap.size → W = (w.alloc (.deferred (some []))).alloc (.loop (rf .ready)) → CallsIn Fence.wide (n - 1) P gf (#[.func (.yield (w.heap.size + 1)) #[] #[]] ++ lb) W
      (rangePost Fence.wide n P (w.heap.size + 1) Q { a with defers := [{ target := .collected w.heap.size, args := #[] }] ++ a.defers })) :
    (Code.rangeFunc g ps assign body).wpIn Fence.wide n P Q a w := by
  refine wpIn_rangeFunc fun fn hfn => ?_
  obtain ⟨rf, hrf⟩ : ∃ rf, rf = recOf fn a.tmps ps assign body w.heap.size := ⟨_, rfl⟩
  obtain ⟨W, hW⟩ : ∃ W, W = (w.alloc (.deferred (some []))).alloc (.loop (rf .ready)) := ⟨_, rfl⟩
  have he : (Instr.enterLoop fn a.tmps ps assign body none).run P w = .ok (w.heap.size + 1, [{ target := .collected w.heap.size, args := #[] }]) W := by
    rw [hW, hrf]
    exact run_enterLoop_outer fn a.tmps ps assign body
  have hcall := h fn rf W hrf hW
  have hres : (resolve a.eval (rangeCall g (w.heap.size + 1)) 0).run P W = .ok { target := .fn (.func gf) lb, args := #[.func (.yield (w.heap.size + 1)) #[] #[]] } W := by
    simp only [resolve, hg]
    simp [go_sem]
  have hinv : (invoke (.fn (.func gf) lb) #[.func (.yield (w.heap.size + 1)) #[] #[]]).run P W = .ok (.enter gf (#[.func (.yield (w.heap.size + 1)) #[] #[]] ++ lb)) W := by
    simp [invoke, go_sem, eg]
  refine ⟨w.heap.size + 1, [{ target := .collected w.heap.size, args := #[] }], W, { target := .fn (.func gf) lb, args := #[.func (.yield (w.heap.size + 1)) #[] #[]] }, W, gf, #[.func (.yield (w.heap.size + 1)) #[] #[]] ++ lb, W, he, hres, ?_, ?_, ?_, ?_⟩
  · intro f' _; trivial
  · exact hinv
  · intro _; exact h1
  · exact hcall
theorem range_round {P : Program} {n l z : Nat} {fn : FuncId} {tmps : Array Value} {ps : Array Tmp} {assign body : Code} {args : Array Value} {W : World} {R : Ending → World → Prop} {rf : LoopState → Loop}
    (hrf : rf = recOf fn tmps ps assign body z) (hl : W.heap[l]? = some (.loop (rf .ready))) (hs : args.size = ps.size)
    (h : ∀ Wb, Wb = W.putObj l (.loop (rf .busy)) → assign.wpIn (Fence.wide.inRound l) n P (Exit.then (fun a₁ w₁ => w₁ = W ∧ body.wpIn (Fence.wide.inRound l) n P (fun e _ W3 => e = .normal ∧ W3.heap[l]? = some (.loop (rf .busy)) ∧ R (.returned (.bool true)) (W3.putObj l (.loop (rf .ready)))) a₁ Wb) (fun _ _ _ => False))
      { tmps := (ps.zip args).foldl (fun t (p, v) => t.setIfInBounds p v) tmps, defers := [] } W) : YieldAt Fence.wide n P l args W R := by
  subst hrf
  refine ⟨fn, _, assign, body, run_yield hl hs, roundIn_of_wpIn trivial (wpIn_mono (h _ rfl) fun e a1 w1 hq => ?_)⟩
  cases e with
  | normal =>
    obtain ⟨rfl, hb⟩ := hq
    refine ⟨_, run_beginRound hl rfl, wpIn_mono hb fun e2 a2 w2 hq2 => ?_⟩
    obtain ⟨rfl, hl2, hR⟩ := hq2
    exact ⟨_, _, run_endRound none hl2, hR⟩
  | ret => exact hq
  | exit id => exact hq
  | goto t => exact hq
  | panic ch => exact hq
  | outgrown => exact hq
theorem range_end {P : Program} {l z : Nat} {fn : FuncId} {tmps : Array Value} {ps : Array Tmp} {assign body : Code} {W : World} {rf : LoopState → Loop} (hrf : rf = recOf fn tmps ps assign body z) (hl : W.heap[l]? = some (.loop (rf .ready))) :
    (Instr.endLoop l).run P W = .ok none (W.putObj l (.loop (rf .exhausted))) := by
  subst hrf
  exact run_endLoop hl (by simp [recOf])
theorem ok_pre {pre rest : List Cl} {x : Cl} (h : Ok (pre ++ x :: rest)) : Ok (pre ++ [x]) :=
  ⟨h.up.sublist (by simp), fun p hp => h.may p (by
    rcases List.mem_append.1 hp with hp | hp
    · exact List.mem_append.2 (.inl hp)
    · simp at hp
      simp [hp])⟩
theorem Cln.start {w w4 W1 : World} {N g : Nat} {o1 o2 : Obj} {rc : Loop} (hW : W1 = (w4.alloc (.deferred (some []))).alloc (.loop rc)) (l4 : LedB N w w4 N []) (h4 : w4.heap[N + 1]? = some o1) (hgo : w4.heap[g]? = some o2) : Cln w N g w4.heap.size o1 o2 rc W1 [] := by
  obtain ⟨m, hl, _, hm, hb⟩ := l4
  have hlt := hl.lt
  have ha := World.grownBy_alloc w4 (.deferred (some [])) none
  have hb2 := World.grownBy_alloc (w4.alloc (.deferred (some []))) (.loop rc) none
  have e1 : (w4.alloc (.deferred (some []))).heap[w4.heap.size]? = some (.deferred (some [])) := World.alloc_heap_new w4 _
  have e2 : ((w4.alloc (.deferred (some []))).alloc (.loop rc)).heap[w4.heap.size + 1]? = some (.loop rc) := by
    have := World.alloc_heap_new (w4.alloc (.deferred (some []))) (.loop rc)
    rwa [World.size_alloc] at this
  subst hW
  exact ⟨⟨m, hl.upd (S := fun _ => False) (((Upd.refl _ w4).alloc _).alloc _) (fun h => h) (fun _ _ h => h), hm⟩, (hb.alloc (by omega) _).alloc (by simp; omega) _, heap_on hb2 (heap_on ha h4 nofun) nofun, heap_on hb2 (heap_on ha hgo nofun) nofun, heap_on hb2 e1 nofun, e2⟩
set_option maxHeartbeats 2000000 in
theorem clone_any (b : Nat) (m : Option Nat) (L : List Cl) (w : World) (h : Led w b m L) :
    Calls Try.prog 64 #[.pointer (some ⟨b, 0, none⟩)] w fun e w' => e = .returned (.pointer (some ⟨w.heap.size, 0, none⟩)) ∧ LedB w.heap.size w w' w.heap.size L := by
  have hh := hide h
  have hll := h.ok.len_le
  clear h
  refine (callsIn_wide (n := 3)).1 ?_
  refine callsIn_of_wp_marks Try.func64 rfl trivial ?_ rfl
  simp only [Try.ntmps64, List.size_toArray, List.length_cons, List.length_nil, Nat.reduceAdd, Nat.reduceSub, Array.replicate_succ, Array.replicate_zero, List.push_toArray, List.append_toArray, List.nil_append, List.cons_append]
  gi_wp2_with (refine ⟨trivial, ?_⟩; gi_at_call 57; refine (callsIn_wide.2 (new_b w.heap.size w w (Below.refl _ _) (Nat.le_refl _))).mono ?_; rintro e w1 ⟨rfl, l1, s1⟩)
  obtain ⟨w2, hw2⟩ : ∃ w2, w1.alloc (Obj.cells #[Value.pointer (some { block := w.heap.size, off := 0 })] 122) = w2 := ⟨_, rfl⟩
  rw [hw2]
  have hz2 : w2.heap.size = w.heap.size + 2 := by rw [← hw2, World.size_alloc, s1]
  have l2 : LedB w.heap.size w w2 w.heap.size [] := by rw [← hw2]; exact l1.on ((Below.refl _ _).alloc (Nat.le_refl _) _)
  have h2 : w2.heap[w.heap.size + 1]? = some (Obj.cells #[Value.pointer (some { block := w.heap.size, off := 0 })] 122) := by rw [← hw2, ← s1]; exact World.alloc_heap_new w1 _
  clear hw2 l1 s1
  refine ⟨trivial, ?_⟩
  refine (callsIn_wide.2 (cells_any b m L w2 (hh.out.upd (S := fun _ => False) (Upd.of_below l2.bel) (fun h => h) (fun _ _ h => h)))).mono ?_
  rintro e w3 ⟨v, rfl, o3, b3⟩
  obtain ⟨a, c, sl3, _⟩ := o3.sl
  have hv := sl3.form
  subst hv
  have l3 := l2.on b3
  have h3 := (b3.block (w.heap.size + 1) (by omega)).trans h2
  have hz3 := b3.size
  clear l2 h2
  gi_wp2_with fail
  refine ⟨trivial, ?_⟩
  refine (callsIn_wide.2 (each_any L a c w3 sl3 (by omega))).mono ?_
  rintro e w4 ⟨g, k, rfl, hg, hk, hk2, hc, o4, b4⟩
  have l4 := l3.on b4
  have h4 := (b4.block (w.heap.size + 1) (by omega)).trans h3
  have hz4 := b4.size
  clear l3 h3 sl3 o3
  gi_wp2
  have lie4 : LieC w4 g 0 L := fun i d hd => by rw [Nat.zero_add]; exact o4.cell i d hd
  obtain ⟨o2, hgo, ho2⟩ : ∃ o2, w4.heap[g]? = some o2 ∧ ∀ es c, o2 ≠ .map es c := by
    rcases o4.2 with ⟨e, _⟩ | ⟨g', cap, cur, e, hB, hgo, _⟩
    · cases e
    · simp only [Value.slice.injEq, Option.some.injEq, Addr.mk.injEq, and_true, true_and] at e
      obtain ⟨rfl, _⟩ := e
      exact ⟨_, hgo, nofun⟩
  have hgl := (Array.getElem?_eq_some_iff.1 hgo).1
  refine range_enter (gf := 84) (by omega) rfl (enters_of Try.func84 (by kernel_rfl) rfl) ?_
  intro fn rf W1 hrf hW1
  have hC := Cln.start hW1 l4 h4 hgo
  have hok := hide hh.out.ok
  have hNz : w.heap.size + 1 < w4.heap.size := by omega
  have hgN : g ≠ w.heap.size := by omega
  have hkc : W1.cell? ⟨k, 0, none⟩ = some (.slice (some ⟨g, 0, none⟩) L.length L.length) := by
    rw [← hc]
    refine World.cell?_of_block (a := ⟨k, 0, none⟩) ?_
    rw [hW1, Below.heap_alloc _ _ _ (by simp; omega), Below.heap_alloc _ _ _ hk2]
  have lie : ∀ W, W.heap[g]? = some o2 → LieC W g 0 L := fun W hW i d hd =>
    ⟨(World.cell?_of_block (a := ⟨g, 0 + i * 2, none⟩) (hW.trans hgo.symm)).trans (lie4 i d hd).1, (World.cell?_of_block (a := ⟨g, 0 + i * 2 + 1, none⟩) (hW.trans hgo.symm)).trans (lie4 i d hd).2⟩
  clear hW1 l4 h4 hgo o4 lie4 hc hz2 hz3 hz4 b3 b4 hk2 hg hk
  generalize w4.heap.size = z at *
  have hrh := hide hrf
  have hlh := hide lie
  clear hrf lie
  refine (each1_in 2 (by omega) (z + 1) k g L (fun pre W => Cln w w.heap.size g z _ o2 (rf .ready) W pre) ?hY (fun pre W o h => h.alloc (by omega) o) (fun pre W h => hlh.out W h.c2) W1 hkc (by omega) hC).mono ?_
  case hY =>
    intro pre x rest W hx hCW
    refine range_round hrh.out hCW.c4 rfl ?_
    intro Wb hWb
    have hB := hCW.put hNz hgl (rf .busy)
    rw [← hWb] at hB
    have hc1 : Wb.cell? ⟨w.heap.size + 1, 0, none⟩ = some (.pointer (some ⟨w.heap.size, 0, none⟩)) := by simp [World.cell?, hB.c1]
    obtain ⟨m', hl, hm⟩ := hB.led
    obtain ⟨hs, hv, hb⟩ := (ok_snoc hl.ok x).1 (ok_pre (hx ▸ hok.out))
    have hgn : gv pre x.1 = none := gv_none.2 (fun p hp => by have := (bh_le_iff hs.1).1 hb p hp; omega)
    have ct := take_any w.heap.size m' pre x Wb hl ⟨hs.1, hs.2, hv⟩ hgn
    rw [ins_last ((bh_le_iff hs.1).1 hb)] at ct
    have cth := hide ct
    have hBh := hide hB
    have hlh2 := hide hl
    clear ct hB hl hgn hb hs hv hx hWb hCW hrh hlh hC hkc
    gi_wp2_with fail
    refine ⟨trivial, ?_⟩
    gi_wp2_with (refine ⟨trivial, ?_⟩; gi_at_call 77; refine (CallsIn.inRound _ (callsIn_wide.2 cth.out)).mono ?_; rintro e w5 ⟨rfl, t5⟩)
    have h5 := hBh.out.take hlh2.out hm t5 hNz hgN nofun ho2
    exact ⟨h5.c4, h5.put hNz hgl _⟩
  rintro e W5 ⟨⟨v, rfl⟩, h5⟩
  refine ⟨none, _, range_end hrh.out h5.c4, ?_⟩
  have h6 := h5.put hNz hgl (rf .exhausted)
  generalize W5.putObj (z + 1) (.loop (rf .exhausted)) = W6 at *
  have hc6 : W6.cell? ⟨w.heap.size + 1, 0, none⟩ = some (.pointer (some ⟨w.heap.size, 0, none⟩)) := by simp [World.cell?, h6.c1]
  have h6h := hide h6
  clear h6 h5 hrh hC hkc hlh
  gi_wp2
  obtain ⟨m6, hl6, hm6⟩ := h6h.out.led
  refine ⟨by simp, .inl ⟨_, _, rfl, run_takeDeferred h6h.out.c3, ?_⟩⟩
  have hsz := (Array.getElem?_eq_some_iff.1 h6h.out.c3).1
  exact ⟨_, results_tmp rfl _ _ _, rfl, m6, hl6.put h6h.out.c3 nofun (by omega) _, Nat.le_refl _, hm6, h6h.out.bel.grown (grownBy_putObj' W6 z _) (by omega) (fun k e => by cases e; omega)⟩
end Go.Proofs.Yteamgkadhlbflaa
namespace Go.Proofs.Yteamgkadhlbflaa
open Go.RowKit Go.Maps
open Classical
structure En where
  c : Int
  n : Int
  o : Opn
theorem sl_box {α : Type} {Y : Lay α} (w : World) (x : α) (T : TypeId) : SlY Y (w.alloc (.cells (Y.cs x).toArray T)) (some ⟨w.heap.size, 0, none⟩) 1 1 [x] :=
  ⟨rfl, Nat.le_refl _, by unfold maxLen; omega, (fun e => by cases e), fun y hy => by
    cases hy
    refine .inr ⟨w.heap.size, 0, rfl, by simp, fun i z hz j u hu => ?_⟩
    match i, hz with
    | 0, hz =>
      simp at hz
      subst hz
      rw [Nat.zero_mul, Nat.zero_add]
      rw [World.cell?_alloc_at _ _ _ _ rfl, List.getElem?_toArray]
      exact hu
    | i + 1, hz => simp at hz⟩
theorem sl_lit {α : Type} {Y : Lay α} (K : Y.Ok) (w : World) (l : List α) (T : TypeId) (hm : l.length ≤ maxLen) : SlY Y (w.alloc (.cells (fl Y l).toArray T)) (some ⟨w.heap.size, 0, none⟩) l.length l.length l :=
  ⟨rfl, Nat.le_refl _, hm, (fun e => by cases e), fun y hy => by
    cases hy
    refine .inr ⟨w.heap.size, 0, rfl, by simp, fun i z hz j u hu => ?_⟩
    rw [Nat.zero_add, World.cell?_alloc_at _ _ _ _ rfl, List.getElem?_toArray, fl_get K l i z hz j (by have := (List.getElem?_eq_some_iff.1 hu).1; rw [K.len] at this; exact this)]
    exact hu⟩
def zE : Lay (SV En) := yS En 77 59
def zD : Lay (SV (Int × Int)) := yS (Int × Int) 138 58
theorem hzz : zD.T ≠ zE.T := by decide
theorem wl_val {ops : Array Oper} {rest : List Oper} {o : Oper} {a : Act} {w : World} {Q : Exit → Act → World → Prop} {v : Value} (hw : Region.wanted o (yielded ops a.tmps) = true) (h : (execOp a.eval o).run Try.prog w = .ok (.value v) w)
    (hk : wpList Try.prog ops Q rest (a.put o.dst v) w) : wpList Try.prog ops Q (o :: rest) a w :=
  BigFrame.wpList_want hw (fun K hK => by unfold Oper.wp; rw [h, Oper.upon_value]; exact hK _ _ hk)
theorem want_none {ops : Array Oper} {o : Oper} {T : Array Value} (h : o.guard = none) : Region.wanted o (yielded ops T) = true := by simp [Region.wanted, h]
theorem getD_of {T : Array Value} {i : Nat} {v : Value} (h : T[i]? = some v) : T.getD i undef = v := by rw [Array.getD_eq_getD_getElem?, h]; rfl
theorem at_set {T : Array Value} {i : Nat} (v : Value) (h : i < T.size) : (T.setIfInBounds i v)[i]? = some v := by simp [h]
theorem at_set_ne {T : Array Value} {i j : Nat} (v : Value) (h : j ≠ i) : (T.setIfInBounds i v)[j]? = T[j]? := by rw [Array.getElem?_setIfInBounds_ne (fun e => h e.symm)]
def gw (c : Bool) (V : Value) : Value := cond c V undef
structure VJ (ops : Array Oper) (C : World → Prop) (Q : Act → Prop) (l : List Oper) (a : Act) : Prop where
  out : wpQuiet Try.prog ops C Q l a
theorem vq_start {C : World → Prop} {id : Nat} {Q : Exit → Act → World → Prop} {a : Act} {w : World} {l : List Oper} (hm : Try.prog.follows .mixedOrders = true) (hB : Region.lexB .any l.toArray = true) (hC : C w.drew)
    (h : VJ l.toArray C (fun a' => ∀ w', C w' → Q .normal a' w') l a) : (Code.region id l.toArray true).wp Try.prog Q a w :=
  wp_region_quiet (C := C) hm hB hC (by simpa using h.out)
theorem vl_gen {ops : Array Oper} {Q : Exit → Act → World → Prop} {l : List Oper} {T0 : Array Value} {df : List Deferred} {w : World} (P : Array Value → Prop) (h0 : P T0) (hk : ∀ T, P T → wpList Try.prog ops Q l ⟨T, df⟩ w) : wpList Try.prog ops Q l ⟨T0, df⟩ w := hk T0 h0
theorem vq_nil {ops : Array Oper} {C : World → Prop} {Q : Act → Prop} {a : Act} (h : Q a) : VJ ops C Q [] a := ⟨wpQuiet_nil h⟩
theorem want_g {ops : Array Oper} {o : Oper} {T : Array Value} {g j : Nat} {pol b c : Bool} (h : o.guard = some (g, pol)) (hg : (ops[g]?).bind (·.dst) = some j) (hj : T[j]? = some (gw c (.bool b))) : Region.wanted o (yielded ops T) = (c && (b == pol)) := by
  cases c <;> simp [Region.wanted, h, yielded, hg, hj, gw, undef]
theorem vq {ops : Array Oper} {rest : List Oper} {o : Oper} {T : Array Value} {df : List Deferred} {C : World → Prop} {Q : Act → Prop} {d n : Nat} (c : Bool) (V : Value) (hw : Region.wanted o (yielded ops T) = c) (he : c = true → ∀ v, C v → (execOp (⟨T, df⟩ : Act).eval o).run Try.prog v = .ok (.value V) v) (hd : o.dst = some d) (hz : T.size = n) (hn : d < n)
    (hk : ∀ T' : Array Value, T'.size = n → (∀ i, i ≠ d → T'[i]? = T[i]?) → T'[d]? = some (gw c V) → VJ ops C Q rest ⟨T', df⟩) : VJ ops C Q (o :: rest) ⟨T, df⟩ := by
  cases c with
  | false =>
    refine ⟨BigFrame.wpQuiet_skip hw ?_⟩
    rw [hd]
    exact (hk (T.setIfInBounds d undef) (by simp [hz]) (fun i hi => at_set_ne _ hi) (at_set _ (by omega))).out
  | true =>
    refine ⟨BigFrame.wpQuiet_want hw (fun K hK => ⟨V, fun v hv => by unfold Oper.quietAt; rw [he rfl v hv]; exact ⟨rfl, rfl⟩, hK _ ?_⟩)⟩
    rw [hd]
    exact (hk (T.setIfInBounds d V) (by simp [hz]) (fun i hi => at_set_ne _ hi) (at_set _ (by omega))).out
theorem vl {ops : Array Oper} {rest : List Oper} {o : Oper} {T : Array Value} {df : List Deferred} {w : World} {Q : Exit → Act → World → Prop} {d n : Nat} (c : Bool) (V : Value) (hw : Region.wanted o (yielded ops T) = c) (he : c = true → (execOp (⟨T, df⟩ : Act).eval o).run Try.prog w = .ok (.value V) w) (hd : o.dst = some d) (hz : T.size = n) (hn : d < n)
    (hk : ∀ T' : Array Value, T'.size = n → (∀ i, i ≠ d → T'[i]? = T[i]?) → T'[d]? = some (gw c V) → wpList Try.prog ops Q rest ⟨T', df⟩ w) : wpList Try.prog ops Q (o :: rest) ⟨T, df⟩ w := by
  cases c with
  | false =>
    refine wpList_skip hw ?_
    rw [hd]
    exact hk (T.setIfInBounds d undef) (by simp [hz]) (fun i hi => at_set_ne _ hi) (at_set _ (by omega))
  | true =>
    refine wl_val (v := V) hw (he rfl) ?_
    rw [hd]
    exact hk (T.setIfInBounds d V) (by simp [hz]) (fun i hi => at_set_ne _ hi) (at_set _ (by omega))
theorem vcall {ops : Array Oper} {rest : List Oper} {o : Oper} {T : Array Value} {df : List Deferred} {w : World} {Q : Exit → Act → World → Prop} {d n : Nat} (c : Bool) (V : Value) {fid : FuncId} {args : Array Value} (hw : Region.wanted o (yielded ops T) = c) (he : c = true → (execOp (⟨T, df⟩ : Act).eval o).run Try.prog w = .ok (.enter fid args) w)
    (hc : c = true → Calls Try.prog fid args w fun e w' => e = .returned V ∧ Below w.heap.size w w') (hd : o.dst = some d) (hz : T.size = n) (hn : d < n)
    (hk : ∀ (T' : Array Value) (w' : World), Below w.heap.size w w' → T'.size = n → (∀ i, i ≠ d → T'[i]? = T[i]?) → T'[d]? = some (gw c V) → wpList Try.prog ops Q rest ⟨T', df⟩ w') : wpList Try.prog ops Q (o :: rest) ⟨T, df⟩ w := by
  cases c with
  | false =>
    refine wpList_skip hw ?_
    rw [hd]
    exact hk (T.setIfInBounds d undef) w (Below.refl _ _) (by simp [hz]) (fun i hi => at_set_ne _ hi) (at_set _ (by omega))
  | true =>
    refine BigFrame.wpList_want hw (fun K hK => ?_)
    unfold Oper.wp
    rw [he rfl, Oper.upon_enter]
    refine (hc rfl).mono ?_
    rintro e w' ⟨rfl, hb⟩
    refine hK _ _ ?_
    rw [hd]
    exact hk (T.setIfInBounds d V) w' hb (by simp [hz]) (fun i hi => at_set_ne _ hi) (at_set _ (by omega))
theorem vcallP {ops : Array Oper} {rest : List Oper} {o : Oper} {T : Array Value} {df : List Deferred} {w : World} {Q : Exit → Act → World → Prop} {d n : Nat} {fid : FuncId} {args : Array Value} {R : Ending → World → Prop} (hw : Region.wanted o (yielded ops T) = true) (he : (execOp (⟨T, df⟩ : Act).eval o).run Try.prog w = .ok (.enter fid args) w)
    (hc : Calls Try.prog fid args w R) (hd : o.dst = some d) (hz : T.size = n) (hn : d < n)
    (hk : ∀ (e : Ending) (w' : World), R e w' → ∃ V, e = .returned V ∧ ∀ T' : Array Value, T'.size = n → (∀ i, i ≠ d → T'[i]? = T[i]?) → T'[d]? = some (gw true V) → wpList Try.prog ops Q rest ⟨T', df⟩ w') : wpList Try.prog ops Q (o :: rest) ⟨T, df⟩ w := by
  refine BigFrame.wpList_want hw (fun K hK => ?_)
  unfold Oper.wp
  rw [he, Oper.upon_enter]
  refine hc.mono ?_
  intro e w' hR
  obtain ⟨V, rfl, hk'⟩ := hk e w' hR
  refine hK _ _ ?_
  rw [hd]
  exact hk' (T.setIfInBounds d V) (by simp [hz]) (fun i hi => at_set_ne _ hi) (at_set _ (by omega))
theorem ev {T : Array Value} {df : List Deferred} {i : Nat} {c : Bool} {X : Value} (h : T[i]? = some (gw c X)) (hc : c = true) : (⟨T, df⟩ : Act).eval (.tmp i) = X := by
  subst hc
  exact getD_of h
theorem evc {T : Array Value} {df : List Deferred} {x : Value} : (⟨T, df⟩ : Act).eval (.const x) = x := rfl
theorem ex_move {o : Oper} {ρ : Operand → Value} {x : Operand} {X : Value} {w : World} (ho : o.op = .move x) (hx : ρ x = X) : (execOp ρ o).run Try.prog w = .ok (.value X) w := by
  unfold execOp
  simp only [ho, hx]
  rfl
theorem ex_assign {o : Oper} {ρ : Operand → Value} {x : Operand} {X : Value} {w : World} (ho : o.op = .assign x) (hx : ρ x = X) : (execOp ρ o).run Try.prog w = .ok (.value X) w := by
  unfold execOp
  simp only [ho, hx]
  rfl
theorem ex_fa {o : Oper} {ρ : Operand → Value} {s : TypeId} {f : Nat} {x : Operand} {X V : Value} {w : World} (ho : o.op = .fieldAddr s x f) (hx : ρ x = X) (hr : (Instr.fieldAt s X f).run Try.prog w = .ok V w) : (execOp ρ o).run Try.prog w = .ok (.value V) w := by
  unfold execOp
  simp only [ho, hx, Sem.run_bind, hr, Result.andThen_ok]
  rfl
theorem ex_ld {o : Oper} {ρ : Operand → Value} {s : TypeId} {x : Operand} {X V : Value} {w : World} (ho : o.op = .load s x) (hx : ρ x = X) (hr : (Instr.loadAt s X).run Try.prog w = .ok V w) : (execOp ρ o).run Try.prog w = .ok (.value V) w := by
  unfold execOp
  simp only [ho, hx, Sem.run_bind, hr, Result.andThen_ok]
  rfl
theorem ex_ix {o : Oper} {ρ : Operand → Value} {s : TypeId} {x y : Operand} {X Y V : Value} {w : World} (ho : o.op = .indexAddr s x y) (hx : ρ x = X) (hy : ρ y = Y) (hr : (Instr.indexAt s X Y).run Try.prog w = .ok V w) : (execOp ρ o).run Try.prog w = .ok (.value V) w := by
  unfold execOp
  simp only [ho, hx, hy, Sem.run_bind, hr, Result.andThen_ok]
  rfl
theorem ex_bin {o : Oper} {ρ : Operand → Value} {b : BinOp} {s t : TypeId} {x y : Operand} {X Y V : Value} {w : World} (ho : o.op = .binOp b s x y t) (hx : ρ x = X) (hy : ρ y = Y) (hr : (do eqGuard b s x y X Y; binOp b s X Y : Sem Value).run Try.prog w = .ok V w) : (execOp ρ o).run Try.prog w = .ok (.value V) w := by
  unfold execOp
  simp only [ho, hx, hy]
  rw [Sem.run_bind, hr]
  rfl
theorem ex_build {o : Oper} {ρ : Operand → Value} {s : TypeId} {V : Value} {w : World} (ho : o.op = .build s #[]) (hr : (Instr.build s #[]).run Try.prog w = .ok V w) : (execOp ρ o).run Try.prog w = .ok (.value V) w := by
  unfold execOp
  simp only [ho]
  rw [Sem.run_bind]
  simp only [List.map_toArray, List.map_nil, hr]
  rfl
theorem ex_not {o : Oper} {ρ : Operand → Value} {s : TypeId} {x : Operand} {b : Bool} {w : World} (ho : o.op = .unOp .not s x) (hx : ρ x = .bool b) : (execOp ρ o).run Try.prog w = .ok (.value (.bool (!b))) w := by
  unfold execOp
  simp only [ho, hx]
  rfl
theorem ex_nil {o : Oper} {ρ : Operand → Value} {x : Operand} {p : Addr} {w : World} (ho : o.op = .nilCheck x) (hx : ρ x = .pointer (some p)) : (execOp ρ o).run Try.prog w = .ok (.value (.pointer (some p))) w := by
  unfold execOp
  simp only [ho, hx]
  rfl
theorem ex_call {o : Oper} {T : Array Value} {df : List Deferred} {fid : FuncId} {xs : Array Operand} {ts : Array TypeId} {args : Array Value} {w : World} (ho : o.op = .call { callee := .value (.func fid), args := xs, argTypes := ts }) (ha : xs.map (⟨T, df⟩ : Act).eval = args) (hr : (do let d ← Deferred.ofValue ((⟨T, df⟩ : Act).eval (.func fid)) args; invoke d.target d.args : Sem Next).run Try.prog w = .ok (.enter fid args) w) : (execOp (⟨T, df⟩ : Act).eval o).run Try.prog w = .ok (.enter fid args) w := by
  unfold execOp
  simp only [ho, resolve, ha]
  exact hr
theorem ex_or {o : Oper} {T : Array Value} {df : List Deferred} {j y : Nat} {c b z : Bool} {w : World} (ho : o.op = .pick (.tmp j) (.const (.bool true)) (.tmp y)) (hj : T[j]? = some (gw c (.bool b))) (hy : T[y]? = some (gw (c && (b == false)) (.bool z))) (hc : c = true) : (execOp (⟨T, df⟩ : Act).eval o).run Try.prog w = .ok (.value (.bool (b || z))) w := by
  subst hc
  unfold execOp
  simp only [ho, Act.eval, getD_of hj, getD_of hy]
  cases b <;> rfl
theorem ex_and {o : Oper} {T : Array Value} {df : List Deferred} {j x : Nat} {c b z : Bool} {w : World} (ho : o.op = .pick (.tmp j) (.tmp x) (.const (.bool false))) (hj : T[j]? = some (gw c (.bool b))) (hy : T[x]? = some (gw (c && (b == true)) (.bool z))) (hc : c = true) : (execOp (⟨T, df⟩ : Act).eval o).run Try.prog w = .ok (.value (.bool (b && z))) w := by
  subst hc
  unfold execOp
  simp only [ho, Act.eval, getD_of hj, getD_of hy]
  cases b <;> rfl
theorem eqlC (x y : Operand) (a b : Int) (w : World) : (do eqGuard .eql 3 x y (.int .i64 a) (.int .i64 b); binOp .eql 3 (.int .i64 a) (.int .i64 b) : Sem Value).run Try.prog w = .ok (.bool (decide (a = b))) w := by
  go_simp
  by_cases h : a = b <;> simp [h]
theorem neqC (x y : Operand) (a b : Int) (w : World) : (do eqGuard .neq 3 x y (.int .i64 a) (.int .i64 b); binOp .neq 3 (.int .i64 a) (.int .i64 b) : Sem Value).run Try.prog w = .ok (.bool (!decide (a = b))) w := by
  go_simp
  by_cases h : a = b <;> simp [h]
theorem lssC (x y : Operand) (a b : Int) (w : World) : (do eqGuard .lss 3 x y (.int .i64 a) (.int .i64 b); binOp .lss 3 (.int .i64 a) (.int .i64 b) : Sem Value).run Try.prog w = .ok (.bool (decide (a < b))) w := by
  go_simp
theorem ldBool {w : World} {g j : Nat} {b : Bool} (h : w.cell? ⟨g, j, none⟩ = some (.bool b)) : (Instr.loadAt 4 (.pointer (some ⟨g, j, none⟩))).run Try.prog w = .ok (.bool b) w := by
  go_simp
theorem kt {T T' : Array Value} {d i : Nat} {v : Option Value} (kk : ∀ i, i ≠ d → T'[i]? = T[i]?) (h : T[i]? = v) (hi : i ≠ d := by decide) : T'[i]? = v := (kk i hi).trans h
theorem ku {T T' : Array Value} {d i : Nat} {v : Option Value} (h : T[i]? = v) (kk : ∀ i, i ≠ d → T'[i]? = T[i]? := by assumption) (hi : i ≠ d := by decide) : T'[i]? = v := (kk i hi).trans h
structure VH (ops : Array Oper) (Q : Exit → Act → World → Prop) (S : World → Prop) (fuel : Nat) (listed : Array Bool) (a : Act) (w : World) : Prop where
  out : wpAnyH Try.prog .any ops (NoPanic Q) S fuel listed a w
theorem vh_start {id : Nat} {Q : Exit → Act → World → Prop} {a : Act} {w : World} {l : List Oper} (S : World → Prop) (hm : Try.prog.follows .mixedOrders = true) (h : VH l.toArray Q S l.length (Array.replicate l.length false) a w.drew) : (Code.region id l.toArray true).wp Try.prog Q a w :=
  wp_region_noPanic (wp_region_held (S := S) hm (by simpa using h.out))
theorem vh_done {ops : Array Oper} {Q : Exit → Act → World → Prop} {S : World → Prop} {fuel : Nat} {listed : Array Bool} {a : Act} {w : World} (hr : Region.ready .any ops listed = []) (h : Q .normal a w) : VH ops Q S fuel listed a w := ⟨wpAnyH_done hr (NoPanic.normal h) _⟩
theorem vh_take {ops : Array Oper} {o : Oper} {T : Array Value} {df : List Deferred} {w : World} {Q : Exit → Act → World → Prop} {S : World → Prop} {fuel d n : Nat} {listed : Array Bool} (i : Nat) (c : Bool) (V : Value) (hi : ops[i]? = some o) (hs : Region.noSelect ops = true) (hf : Region.free .any ops listed i = true) (hr : (Region.ready .any ops listed).contains i = true)
    (hw : Region.wanted o (yielded ops T) = c) (he : c = true → ∀ v, S v → (execOp (⟨T, df⟩ : Act).eval o).run Try.prog v = .ok (.value V) v) (hd : o.dst = some d) (hz : T.size = n) (hn : d < n) (hS : S w)
    (hk : ∀ T' : Array Value, T'.size = n → (∀ j, j ≠ d → T'[j]? = T[j]?) → T'[d]? = some (gw c V) → VH ops Q S fuel (listed.setIfInBounds i true) ⟨T', df⟩ w) : VH ops Q S (fuel + 1) listed ⟨T, df⟩ w := by
  cases c with
  | false =>
    refine ⟨wpAnyH_take (v := undef) hi hs hf hr (fun _ _ _ h => h) (.inr ⟨hw, rfl⟩) hS ?_⟩
    rw [hd]
    exact (hk (T.setIfInBounds d undef) (by simp [hz]) (fun i hi => at_set_ne _ hi) (at_set _ (by omega))).out
  | true =>
    refine ⟨wpAnyH_take (v := V) hi hs hf hr (fun _ _ _ h => h) (.inl ⟨hw, he rfl⟩) hS ?_⟩
    rw [hd]
    exact (hk (T.setIfInBounds d V) (by simp [hz]) (fun i hi => at_set_ne _ hi) (at_set _ (by omega))).out
theorem vh_call {ops : Array Oper} {o : Oper} {T : Array Value} {df : List Deferred} {w : World} {Q : Exit → Act → World → Prop} {S : World → Prop} {fuel d n : Nat} {listed : Array Bool} (i : Nat) {fid : FuncId} {args : Array Value} {R : Ending → World → Prop} (hi : ops[i]? = some o) (hr : Region.ready .any ops listed = [i])
    (hw : Region.wanted o (yielded ops T) = true) (he : (execOp (⟨T, df⟩ : Act).eval o).run Try.prog w = .ok (.enter fid args) w) (hc : Calls Try.prog fid args w R) (hd : o.dst = some d) (hz : T.size = n) (hn : d < n)
    (hk : ∀ (e : Ending) (w' : World), R e w' → ∃ V, e = .returned V ∧ S w' ∧ ∀ T' : Array Value, T'.size = n → (∀ j, j ≠ d → T'[j]? = T[j]?) → T'[d]? = some (gw true V) → VH ops Q S fuel (listed.setIfInBounds i true) ⟨T', df⟩ w') : VH ops Q S (fuel + 1) listed ⟨T, df⟩ w := by
  refine ⟨wpAnyH_all hr (by simp) (fun j hj => ?_)⟩
  obtain rfl : j = i := by simpa using hj
  unfold wpOp
  rw [hi]
  simp only [hw, if_true]
  refine .inl ?_
  unfold Oper.wp
  rw [he, Oper.upon_enter]
  refine hc.mono ?_
  intro e w' hR
  obtain ⟨V, rfl, hS, hk'⟩ := hk e w' hR
  refine ⟨hS, ?_⟩
  rw [hd]
  exact (hk' (T.setIfInBounds d V) (by simp [hz]) (fun i hi => at_set_ne _ hi) (at_set _ (by omega))).out
theorem v_loop {c : Code} {Q : Exit → Act → World → Prop} {T0 : Array Value} {w0 : World} (x N : Nat) (I : Nat → Array Value → World → Prop) (hx : ∀ j T w, I j T w → T[x]? = some (gw true (.int .i64 (j : Int)))) (h0 : I 0 T0 w0)
    (round : ∀ j T w, j ≤ N → I j T w → c.wp Try.prog (Exit.then (fun a' w' => ∃ T', a' = ⟨T', []⟩ ∧ j + 1 ≤ N ∧ I (j + 1) T' w') Q) ⟨T, []⟩ w) : (Code.loop c).wp Try.prog Q ⟨T0, []⟩ w0 := by
  have sl : ∀ {j : Nat} {T : Array Value} {w : World}, I j T w → (intOf (T.getD x undef)).toNat = j := fun h => by
    rw [getD_of (hx _ _ _ h)]
    show (intOf (.int .i64 _)).toNat = _
    simp [intOf]
  refine wp_loop (fun a w => ∃ j T, a = ⟨T, []⟩ ∧ j ≤ N ∧ I j T w) (fun a w => N - (intOf (a.tmps.getD x undef)).toNat) ⟨0, T0, rfl, Nat.zero_le _, h0⟩ ?_
  rintro a w ⟨j, T, rfl, hj, hI⟩
  refine Code.wp_mono (fun e a' w' h => ?_) (round j T w hj hI)
  cases e with
  | normal =>
    obtain ⟨T', rfl, hj', hI'⟩ := h
    refine ⟨⟨j + 1, T', rfl, hj', hI'⟩, ?_⟩
    show N - (intOf (T'.getD x undef)).toNat < N - (intOf (T.getD x undef)).toNat
    rw [sl hI', sl hI]
    omega
  | _ => exact h
theorem vw {ops : Array Oper} {rest : List Oper} {o : Oper} {T : Array Value} {df : List Deferred} {w : World} {Q : Exit → Act → World → Prop} {d n : Nat} (V : Value) (w' : World) (hw : Region.wanted o (yielded ops T) = true) (he : (execOp (⟨T, df⟩ : Act).eval o).run Try.prog w = .ok (.value V) w') (hd : o.dst = some d) (hz : T.size = n) (hn : d < n)
    (hk : ∀ T' : Array Value, T'.size = n → (∀ i, i ≠ d → T'[i]? = T[i]?) → T'[d]? = some (gw true V) → wpList Try.prog ops Q rest ⟨T', df⟩ w') : wpList Try.prog ops Q (o :: rest) ⟨T, df⟩ w := by
  refine BigFrame.wpList_want hw (fun K hK => ?_)
  unfold Oper.wp
  rw [he, Oper.upon_value]
  refine hK _ _ ?_
  rw [hd]
  exact hk (T.setIfInBounds d V) (by simp [hz]) (fun i hi => at_set_ne _ hi) (at_set _ (by omega))
theorem vs {ops : Array Oper} {rest : List Oper} {o : Oper} {T : Array Value} {df : List Deferred} {w : World} {Q : Exit → Act → World → Prop} (w' : World) (hw : Region.wanted o (yielded ops T) = true) (he : (execOp (⟨T, df⟩ : Act).eval o).run Try.prog w = .ok .skip w') (hd : o.dst = none)
    (hk : wpList Try.prog ops Q rest ⟨T, df⟩ w') : wpList Try.prog ops Q (o :: rest) ⟨T, df⟩ w := by
  refine BigFrame.wpList_want hw (fun K hK => ?_)
  unfold Oper.wp
  rw [he, Oper.upon_skip]
  refine hK _ _ ?_
  rw [hd]
  exact hk
theorem ex_st {o : Oper} {ρ : Operand → Value} {s : TypeId} {x y : Operand} {X Y : Value} {w w' : World} (ho : o.op = .store s x y) (hx : ρ x = X) (hy : ρ y = Y) (hr : (Instr.storeAt s X Y).run Try.prog w = .ok () w') : (execOp ρ o).run Try.prog w = .ok .skip w' := by
  unfold execOp
  simp only [ho, hx, hy, Sem.run_bind, hr, Result.andThen_ok]
  rfl
theorem ex_al {o : Oper} {ρ : Operand → Value} {s : TypeId} {V : Value} {w w' : World} (ho : o.op = .alloc s) (hr : (Instr.alloc s true (.tuple #[])).run Try.prog w = .ok V w') : (execOp ρ o).run Try.prog w = .ok (.value V) w' := by
  unfold execOp
  simp only [ho, Sem.run_bind, hr, Result.andThen_ok]
  rfl
/-! What is known of a frame, as one fact: which slot holds what; a step adds one, nothing is carried over by hand. -/
def look : List (Nat × Value) → Nat → Option Value
  | [], _ => none
  | (k, v) :: r, j => bif Nat.beq k j then some v else look r j
structure Rp (T : Array Value) (n : Nat) (L : List (Nat × Value)) : Prop where
  z : T.size = n
  at_ : ∀ j v, look L j = some v → T[j]? = some v
theorem Rp.a {T : Array Value} {n : Nat} {L : List (Nat × Value)} (h : Rp T n L) (j : Nat) {v : Value} (e : look L j = some v) : T[j]? = some v := h.at_ j v e
theorem Rp.nil {T : Array Value} {n : Nat} (h : T.size = n) : Rp T n [] := ⟨h, fun j v e => by cases e⟩
theorem Rp.cons {T : Array Value} {n : Nat} {L : List (Nat × Value)} (h : Rp T n L) {j : Nat} {v : Value} (e : T[j]? = some v) : Rp T n ((j, v) :: L) := ⟨h.z, fun i x hx => by
  unfold look at hx
  cases hb : Nat.beq j i with
  | true =>
    rw [hb] at hx
    have := Nat.eq_of_beq_eq_true hb
    subst this
    cases hx
    exact e
  | false =>
    rw [hb] at hx
    exact h.at_ i x hx⟩
theorem Rp.k {T : Array Value} {n d : Nat} {L : List (Nat × Value)} {c : Bool} {V : Value} {G : Array Value → Prop} (h : Rp T n L) (g : ∀ T', Rp T' n ((d, gw c V) :: L) → G T') : ∀ T', T'.size = n → (∀ j, j ≠ d → T'[j]? = T[j]?) → T'[d]? = some (gw c V) → G T' := fun T' z k s => g T' ⟨z, fun i x hx => by
  unfold look at hx
  cases hb : Nat.beq d i with
  | true =>
    rw [hb] at hx
    have := Nat.eq_of_beq_eq_true hb
    subst this
    cases hx
    exact s
  | false =>
    rw [hb] at hx
    have hne : i ≠ d := fun e => by subst e; rw [Nat.beq_refl] at hb; cases hb
    exact (k i hne).trans (h.at_ i x hx)⟩
theorem Rp.kc {T : Array Value} {n d : Nat} {L : List (Nat × Value)} {c : Bool} {V : Value} {R : World → Prop} {G : Array Value → World → Prop} (h : Rp T n L) (g : ∀ T' w', R w' → Rp T' n ((d, gw c V) :: L) → G T' w') : ∀ T' w', R w' → T'.size = n → (∀ j, j ≠ d → T'[j]? = T[j]?) → T'[d]? = some (gw c V) → G T' w' := fun T' w' r => h.k (G := fun T'' => G T'' w') (fun T'' q => g T'' w' r q) T'
theorem Rp.e {T : Array Value} {n : Nat} {L : List (Nat × Value)} (h : Rp T n L) {df : List Deferred} {j : Nat} {v : Value} (e : look L j = some (gw true v)) : (⟨T, df⟩ : Act).eval (.tmp j) = v := ev (h.at_ j _ e) rfl
theorem Rp.t {T : Array Value} {n d : Nat} {L : List (Nat × Value)} {ops : Array Oper} {rest : List Oper} {o : Oper} {df : List Deferred} {w : World} {Q : Exit → Act → World → Prop} (h : Rp T n L) (V : Value) (he : (execOp (⟨T, df⟩ : Act).eval o).run Try.prog w = .ok (.value V) w) (hk : ∀ T', Rp T' n ((d, gw true V) :: L) → wpList Try.prog ops Q rest ⟨T', df⟩ w) (hg : o.guard = none := by rfl) (hd : o.dst = some d := by rfl) (hn : d < n := by decide) : wpList Try.prog ops Q (o :: rest) ⟨T, df⟩ w :=
  vl true V (want_none hg) (fun _ => he) hd h.z hn (h.k hk)
theorem Rp.q {T : Array Value} {n d : Nat} {L : List (Nat × Value)} {ops : Array Oper} {rest : List Oper} {o : Oper} {df : List Deferred} {C : World → Prop} {Q : Act → Prop} (h : Rp T n L) (V : Value) (he : ∀ v, C v → (execOp (⟨T, df⟩ : Act).eval o).run Try.prog v = .ok (.value V) v) (hk : ∀ T', Rp T' n ((d, gw true V) :: L) → VJ ops C Q rest ⟨T', df⟩) (hg : o.guard = none := by rfl) (hd : o.dst = some d := by rfl) (hn : d < n := by decide) : VJ ops C Q (o :: rest) ⟨T, df⟩ :=
  vq true V (want_none hg) (fun _ => he) hd h.z hn (h.k hk)
end Go.Proofs.Yteamgkadhlbflaa
namespace Go.Proofs.Yteamgkadhlbflaa
open Go.RowKit Go.Maps
variable {α : Type} {Y : Lay α}
def put (M : List α) (i : Nat) (D : List α) : List α := M.take i ++ D ++ M.drop (i + D.length)
theorem run_copy_nil {P : Program} (w : World) (dT sT ty elem : TypeId) (k : Nat) (d a : Option Addr) (dn dc c : Nat)
    (hu : P.underlying dT = some (.slice elem)) (hs : (P.info? elem).map (·.size) = some k) :
    (Builtin.copy_ #[dT, sT] ty #[.slice d dn dc, .slice a 0 c]).run P w = .ok (goInt 0) w := by
  cases hq : P.info? elem with
  | none => simp [hq] at hs
  | some i =>
    have hi : i.size = k := by simpa [hq] using hs
    cases a <;> cases d <;> simp [Builtin.copy_, run_underlying hu, Builtin.lenOf, Builtin.firstCells, sizeOf, typeInfo, hq, hi, loadCells, loadCellsFrom, storeCells]
theorem run_copy_at {P : Program} (w : World) (dT sT ty elem : TypeId) (k g off dLen dCap : Nat) (a : Addr) (sLen sCap : Nat) (cur : Array Value) (t : TypeId) (cs : List Value)
    (hu : P.underlying dT = some (.slice elem)) (hs : (P.info? elem).map (·.size) = some k)
    (hg : w.heap[g]? = some (.cells cur t (0, 0))) (hn : cs.length = sLen * k) (hle : sLen ≤ dLen)
    (hsrc : ∀ j v, cs[j]? = some v → w.cell? (a.add j) = some v) (hfit : off + cs.length ≤ cur.size) (h1 : ∀ v ∈ cs, v.oneCell' = true) :
    (Builtin.copy_ #[dT, sT] ty #[.slice (some ⟨g, off, none⟩) dLen dCap, .slice (some a) sLen sCap]).run P w =
      .ok (goInt sLen) (w.setRow g (cur.toList.take off ++ cs ++ cur.toList.drop (off + cs.length)).toArray) := by
  have hl := run_loadCells_list (P := P) w a cs hsrc
  have hst := run_storeCells_at (P := P) g off t cs 0 cur w hg (by omega) h1
  rw [Nat.add_zero] at hst
  have hmin : Nat.min sLen dLen = sLen := Nat.min_eq_left hle
  cases hq : P.info? elem with
  | none => simp [hq] at hs
  | some i =>
    have hi : i.size = k := by simpa [hq] using hs
    rw [hn] at hl
    simp [Builtin.copy_, run_underlying hu, Builtin.lenOf, Builtin.firstCells, sizeOf, typeInfo, hq, hi, hl, hst, hmin, Nat.min_eq_left hle]
end Go.Proofs.Yteamgkadhlbflaa
namespace Go.Proofs.Yteamgkadhlbflaa
open Go.RowKit Go.Maps
open Classical
/-! A point of a search: what is done, and what the ledger has. -/
def cz (L : List Cl) (i : Nat) : Cl := (L[i]?).getD (0, ByteArray.empty)
def czs (L : List Cl) : List Value := [.int .i64 (cz L 0).1, .string (cz L 0).2, .int .i64 (cz L 1).1, .string (cz L 1).2, .int .i64 (cz L 2).1, .string (cz L 2).2, .int .i64 (cz L 3).1, .string (cz L 3).2, .int .i64 (cz L 4).1, .string (cz L 4).2, .int .i64 (cz L 5).1, .string (cz L 5).2, .int .i64 (cz L 6).1, .string (cz L 6).2, .int .i64 (cz L 7).1, .string (cz L 7).2]
def ptC (D : List Bool) (L : List Cl) : List Value := D.map .bool ++ .int .i64 (L.length : Int) :: czs L
def zPt : KeyT (List Bool × List Cl) := ⟨131, fun k => .agg (ptC k.1 k.2).toArray, fun k => k.1.length = 8 ∧ k.2.length ≤ 8 ∧ Ok k.2⟩
theorem list8 {D : List Bool} (h : D.length = 8) : ∃ b0 b1 b2 b3 b4 b5 b6 b7, D = [b0, b1, b2, b3, b4, b5, b6, b7] := by
  match D, h with
  | [b0, b1, b2, b3, b4, b5, b6, b7], _ => exact ⟨b0, b1, b2, b3, b4, b5, b6, b7, rfl⟩
theorem cz_ok {L : List Cl} (h : Ok L) (i : Nat) : (Lit.int .i64 (cz L i).1).wf = true ∧ (cz L i).2.size ≤ maxLen := by
  unfold cz
  cases hx : L[i]? with
  | none => exact ⟨by decide, by unfold maxLen; decide⟩
  | some p =>
    have := h.may p (List.mem_of_getElem? hx)
    exact ⟨wf_i64 (by show _ ≤ p.1 ∧ p.1 ≤ _; omega), by show p.2.size ≤ _; unfold maxLen; omega⟩
theorem rowPt : 131 < Try.prog.types.size := of_decide_eq_true (by kernel_rfl)
theorem cellsPt : Try.prog.cellsOf 131 = 25 := by kernel_rfl
theorem cellsB8 : Try.prog.cellsOf 128 = 8 := by kernel_rfl
theorem cellsC8 : Try.prog.cellsOf 129 = 16 := by kernel_rfl
theorem cellsCl : Try.prog.cellsOf 111 = 2 := by kernel_rfl
theorem lawPt : WideMaps.KeyLaw Try.prog 131 := deep_law_laid laidOutK (m := 4) (by omega) rowPt (by kernel_rfl) (by kernel_rfl)
theorem formedPt (k : List Bool × List Cl) (hk : zPt.ok k) : (zPt.enc k).formed Try.prog 131 = true := by
  obtain ⟨b0, b1, b2, b3, b4, b5, b6, b7, e⟩ := list8 hk.1
  simp [zPt, ptC, czs, e, Value.formed, Try.underlying131, cellsPt]
theorem keyLitsCl (d : Nat) (s : Int) (v : ByteArray) (hs : (Lit.int .i64 s).wf = true) (hv : v.size ≤ maxLen) : Try.prog.keyLits (d + 2) 111 [.int .i64 s, .string v] = some [.int .i64 s, .string v.data.toList] := by
  simp [Program.keyLits, Try.underlying111, cellsCl, Try.underlying3, Try.underlying9, cellsI, cellsS, hs, hv]
theorem keyLitsC8 (d : Nat) (L : List Cl) (h : Ok L) : ∃ l, Try.prog.keyLits (d + 3) 129 (czs L) = some l := by
  have h0 := keyLitsCl d _ _ (cz_ok h 0).1 (cz_ok h 0).2
  have h1 := keyLitsCl d _ _ (cz_ok h 1).1 (cz_ok h 1).2
  have h2 := keyLitsCl d _ _ (cz_ok h 2).1 (cz_ok h 2).2
  have h3 := keyLitsCl d _ _ (cz_ok h 3).1 (cz_ok h 3).2
  have h4 := keyLitsCl d _ _ (cz_ok h 4).1 (cz_ok h 4).2
  have h5 := keyLitsCl d _ _ (cz_ok h 5).1 (cz_ok h 5).2
  have h6 := keyLitsCl d _ _ (cz_ok h 6).1 (cz_ok h 6).2
  have h7 := keyLitsCl d _ _ (cz_ok h 7).1 (cz_ok h 7).2
  unfold Program.keyLits
  simp [Try.underlying129, cellsC8, cellsCl, czs, List.range_succ, h0, h1, h2, h3, h4, h5, h6, h7]
theorem keyLitsB8 (d : Nat) (b0 b1 b2 b3 b4 b5 b6 b7 : Bool) : ∃ l, Try.prog.keyLits (d + 2) 128 [.bool b0, .bool b1, .bool b2, .bool b3, .bool b4, .bool b5, .bool b6, .bool b7] = some l := by
  simp [Program.keyLits, Try.underlying128, cellsB8, cellsB, Try.underlying4, List.range_succ]
set_option maxHeartbeats 2000000 in
theorem keyOfPt (k : List Bool × List Cl) (hk : zPt.ok k) : ∃ x : Lit, keyOf Try.prog 131 (zPt.enc k) = some x ∧ WideAt.IsKeyLit x := by
  have hF := formedPt k hk
  have hl : ∃ l, Try.prog.keyLits (Try.prog.types.size + 1) 131 (zPt.enc k).cells.toList = some l := by
    obtain ⟨m, hm⟩ : ∃ m, Try.prog.types.size = m + 3 := ⟨Try.prog.types.size - 3, (Nat.sub_add_cancel (Nat.le_trans (by decide) (Nat.le_of_lt rowPt))).symm⟩
    rw [hm]
    obtain ⟨b0, b1, b2, b3, b4, b5, b6, b7, e⟩ := list8 hk.1
    have hn : (Lit.int .i64 (k.2.length : Int)).wf = true := wf_i64 (by have := hk.2.1; omega)
    obtain ⟨l1, h1⟩ := keyLitsB8 (m + 1) b0 b1 b2 b3 b4 b5 b6 b7
    obtain ⟨l2, h2⟩ := keyLitsC8 m k.2 hk.2.2
    have h3 : Try.prog.keyLits (m + 3) 3 [.int .i64 (k.2.length : Int)] = some [.int .i64 (k.2.length : Int)] := by
      simp [Program.keyLits, Try.underlying3, hn]
    have e2 : (zPt.enc k).cells.toList = ([.bool b0, .bool b1, .bool b2, .bool b3, .bool b4, .bool b5, .bool b6, .bool b7] ++ .int .i64 (k.2.length : Int) :: czs k.2 : List Value) := by
      simp [zPt, ptC, e, Value.cells]
    rw [e2]
    unfold Program.keyLits
    have hcl : (czs k.2).length = 16 := rfl
    have hdr : (czs k.2).take 16 = czs k.2 := rfl
    simp [Try.underlying131, cellsPt, cellsB8, cellsC8, cellsI, h1, h2, h3, hcl, hdr]
  obtain ⟨l, hl⟩ := hl
  have kt : Try.prog.keyType 131 = true := by kernel_rfl
  simp only [keyOf, Try.underlying131, kt, hF, Bool.and_self, if_true, hl, Option.map_some]
  exact ⟨_, rfl, trivial⟩
theorem cz_ext {L L' : List Cl} (hl : L.length = L'.length) (h8 : L.length ≤ 8) (h : ∀ i, i < 8 → cz L i = cz L' i) : L = L' := by
  apply List.ext_getElem hl
  intro i h1 h2
  have := h i (by omega)
  unfold cz at this
  rw [List.getElem?_eq_getElem h1, List.getElem?_eq_getElem h2] at this
  exact this
theorem kPt : zPt.Ok := ⟨Keyed.of_law lawPt, keyOfPt, fun k k' x hk hk' h h' => by
  have e := lawPt.inj h h'
  obtain ⟨b0, b1, b2, b3, b4, b5, b6, b7, e1⟩ := list8 hk.1
  obtain ⟨c0, c1, c2, c3, c4, c5, c6, c7, e2⟩ := list8 hk'.1
  obtain ⟨D, L⟩ := k
  obtain ⟨D', L'⟩ := k'
  dsimp only at e1 e2
  subst e1
  subst e2
  simp only [zPt, ptC, czs, Value.agg.injEq, List.map_cons, List.map_nil, List.cons_append, List.nil_append] at e
  simp at e
  obtain ⟨q0, q1, q2, q3, q4, q5, q6, q7, ql, s0, v0, s1, v1, s2, v2, s3, v3, s4, v4, s5, v5, s6, v6, s7, v7⟩ := e
  have : L = L' := cz_ext (by omega) hk.2.1 (fun i hi => by
    match i, hi with
    | 0, _ => exact Prod.ext s0 v0
    | 1, _ => exact Prod.ext s1 v1
    | 2, _ => exact Prod.ext s2 v2
    | 3, _ => exact Prod.ext s3 v3
    | 4, _ => exact Prod.ext s4 v4
    | 5, _ => exact Prod.ext s5 v5
    | 6, _ => exact Prod.ext s6 v6
    | 7, _ => exact Prod.ext s7 v7)
  rw [q0, q1, q2, q3, q4, q5, q6, q7, this]⟩
/-! Rules for regions that draw (beside Vh), for boxes as whole blocks. -/
theorem v_cut18 {c : Code} {Q : Exit → Act → World → Prop} {T : Array Value} {w : World} (J : Array Value → World → Prop) (h : c.wp Try.prog (Exit.then (fun a w' => ∃ T', a = ⟨T', []⟩ ∧ J T' w') Q) ⟨T, []⟩ w) (hk : ∀ T' w', J T' w' → Q .normal ⟨T', []⟩ w') : c.wp Try.prog Q ⟨T, []⟩ w := by
  refine Code.wp_mono (fun e a' w' h => ?_) h
  cases e with
  | normal =>
    obtain ⟨T', rfl, hJ⟩ := h
    exact hk T' w' hJ
  | _ => exact h
theorem vh_val18 {ops : Array Oper} {o : Oper} {T : Array Value} {df : List Deferred} {w : World} {Q : Exit → Act → World → Prop} {S : World → Prop} {fuel d n : Nat} {listed : Array Bool} (i : Nat) (V : Value) (w' : World) (hi : ops[i]? = some o) (hr : Region.ready .any ops listed = [i])
    (hw : Region.wanted o (yielded ops T) = true) (he : (execOp (⟨T, df⟩ : Act).eval o).run Try.prog w = .ok (.value V) w') (hd : o.dst = some d) (hz : T.size = n) (hn : d < n) (hS : S w')
    (hk : ∀ T' : Array Value, T'.size = n → (∀ j, j ≠ d → T'[j]? = T[j]?) → T'[d]? = some (gw true V) → VH ops Q S fuel (listed.setIfInBounds i true) ⟨T', df⟩ w') : VH ops Q S (fuel + 1) listed ⟨T, df⟩ w := by
  refine ⟨wpAnyH_all hr (by simp) (fun j hj => ?_)⟩
  obtain rfl : j = i := by simpa using hj
  unfold wpOp
  rw [hi]
  simp only [hw, if_true]
  refine .inl ?_
  unfold Oper.wp
  rw [he, Oper.upon_value]
  refine ⟨hS, ?_⟩
  rw [hd]
  exact (hk (T.setIfInBounds d V) (by simp [hz]) (fun i hi => at_set_ne _ hi) (at_set _ (by omega))).out
theorem vh_store18 {ops : Array Oper} {o : Oper} {T : Array Value} {df : List Deferred} {w : World} {Q : Exit → Act → World → Prop} {S : World → Prop} {fuel : Nat} {listed : Array Bool} (i : Nat) (w' : World) (hi : ops[i]? = some o) (hr : Region.ready .any ops listed = [i])
    (hw : Region.wanted o (yielded ops T) = true) (he : (execOp (⟨T, df⟩ : Act).eval o).run Try.prog w = .ok .skip w') (hd : o.dst = none) (hS : S w')
    (hk : VH ops Q S fuel (listed.setIfInBounds i true) ⟨T, df⟩ w') : VH ops Q S (fuel + 1) listed ⟨T, df⟩ w := by
  refine ⟨wpAnyH_all hr (by simp) (fun j hj => ?_)⟩
  obtain rfl : j = i := by simpa using hj
  unfold wpOp
  rw [hi]
  simp only [hw, if_true]
  refine .inl ?_
  unfold Oper.wp
  rw [he, Oper.upon_skip]
  refine ⟨hS, ?_⟩
  rw [hd]
  exact hk.out
theorem vh_two18 {ops : Array Oper} {o o2 : Oper} {T : Array Value} {df : List Deferred} {w : World} {Q : Exit → Act → World → Prop} {S : World → Prop} {fuel d d2 n : Nat} {listed : Array Bool} (i j : Nat) {fid : FuncId} {args : Array Value} {R : Ending → World → Prop} (hr : Region.ready .any ops listed = [i, j]) (hi : ops[i]? = some o) (hj : ops[j]? = some o2)
    (hw : Region.wanted o (yielded ops T) = true) (he : (execOp (⟨T, df⟩ : Act).eval o).run Try.prog w = .ok (.enter fid args) w) (hc : Calls Try.prog fid args w R) (hd : o.dst = some d) (hz : T.size = n) (hn : d < n)
    (hk : ∀ (e : Ending) (w' : World), R e w' → ∃ V, e = .returned V ∧ S w' ∧ ∀ T' : Array Value, T'.size = n → (∀ j, j ≠ d → T'[j]? = T[j]?) → T'[d]? = some (gw true V) → VH ops Q S fuel (listed.setIfInBounds i true) ⟨T', df⟩ w')
    (V : Value) (w2 : World) (hw2 : Region.wanted o2 (yielded ops T) = true) (he2 : (execOp (⟨T, df⟩ : Act).eval o2).run Try.prog w = .ok (.value V) w2) (hd2 : o2.dst = some d2) (hn2 : d2 < n) (hS2 : S w2)
    (hk2 : ∀ T' : Array Value, T'.size = n → (∀ j, j ≠ d2 → T'[j]? = T[j]?) → T'[d2]? = some (gw true V) → VH ops Q S fuel (listed.setIfInBounds j true) ⟨T', df⟩ w2) : VH ops Q S (fuel + 1) listed ⟨T, df⟩ w := by
  refine ⟨wpAnyH_all hr (by simp) (fun k hkm => ?_)⟩
  have hkm : k = i ∨ k = j := by simpa using hkm
  rcases hkm with rfl | rfl
  · unfold wpOp
    rw [hi]
    simp only [hw, if_true]
    refine .inl ?_
    unfold Oper.wp
    rw [he, Oper.upon_enter]
    refine hc.mono ?_
    intro e w' hR
    obtain ⟨V, rfl, hS, hk'⟩ := hk e w' hR
    refine ⟨hS, ?_⟩
    rw [hd]
    exact (hk' (T.setIfInBounds d V) (by simp [hz]) (fun i hi => at_set_ne _ hi) (at_set _ (by omega))).out
  · unfold wpOp
    rw [hj]
    simp only [hw2, if_true]
    refine .inl ?_
    unfold Oper.wp
    rw [he2, Oper.upon_value]
    refine ⟨hS2, ?_⟩
    rw [hd2]
    exact (hk2 (T.setIfInBounds d2 V) (by simp [hz]) (fun i hi => at_set_ne _ hi) (at_set _ (by omega))).out
theorem ex_box18 {o : Oper} {ρ : Operand → Value} {s : TypeId} {x : Operand} {X V : Value} {w w' : World} (ho : o.op = .box s x) (hx : ρ x = X) (hr : (Instr.box s X).run Try.prog w = .ok V w') : (execOp ρ o).run Try.prog w = .ok (.value V) w' := by
  unfold execOp
  simp only [ho, hx, Sem.run_bind, hr, Result.andThen_ok]
  rfl
theorem ex_buildP18 {o : Oper} {ρ : Operand → Value} {s : TypeId} {ps : Array (Nat × Operand)} {P : Array (Nat × Value)} {V : Value} {w : World} (ho : o.op = .build s ps) (hp : ps.map (fun (i, x) => (i, ρ x)) = P) (hr : (Instr.build s P).run Try.prog w = .ok V w) : (execOp ρ o).run Try.prog w = .ok (.value V) w := by
  unfold execOp
  simp only [ho, hp, Sem.run_bind, hr, Result.andThen_ok]
  rfl
theorem ex_sl18 {o : Oper} {ρ : Operand → Value} {s : TypeId} {x : Operand} {X V : Value} {w : World} (ho : o.op = .slice s x none none none) (hx : ρ x = X) (hr : (Instr.sliceAt s X none none none).run Try.prog w = .ok V w) : (execOp ρ o).run Try.prog w = .ok (.value V) w := by
  unfold execOp
  simp only [ho, hx, Sem.run_bind, Option.map_none, hr, Result.andThen_ok]
  rfl
theorem ex_copy18 {o : Oper} {ρ : Operand → Value} {x y : Operand} {X Y V : Value} {s t : TypeId} {w w' : World} (ho : o.op = .call { callee := .builtin .copy, args := #[x, y], argTypes := #[s, t] }) (hx : ρ x = X) (hy : ρ y = Y) (hr : (Builtin.copy_ #[s, t] o.type #[X, Y]).run Try.prog w = .ok V w') : (execOp ρ o).run Try.prog w = .ok (.value V) w' := by
  unfold execOp
  simp only [ho, resolve, invoke, builtin, Sem.run_bind, Sem.run_pure, Result.andThen_ok, List.map_toArray, List.map_cons, List.map_nil, hx, hy, hr]
def BB (w : World) (q : Nat) (T : TypeId) (cs : List Value) : Prop := w.heap[q]? = some (.cells cs.toArray T (0, 0))
theorem BB.lt {w : World} {q : Nat} {T : TypeId} {cs : List Value} (h : BB w q T cs) : q < w.heap.size := (Array.getElem?_eq_some_iff.1 h).1
theorem BB.new (w : World) (T : TypeId) (cs : List Value) : BB (w.alloc (.cells cs.toArray T)) w.heap.size T cs := World.alloc_heap_new _ _
theorem BB.upd {S : Nat → Prop} {w w' : World} {q : Nat} {T : TypeId} {cs : List Value} (h : BB w q T cs) (u : Upd S w w') (hs : ¬ S q) : BB w' q T cs := (u.block q h.lt hs).trans h
theorem BB.later {w w' : World} {q : Nat} {T : TypeId} {cs : List Value} (h : BB w q T cs) (hb : Below w.heap.size w w') : BB w' q T cs := (hb.block q h.lt).trans h
theorem BB.cell {w : World} {q : Nat} {T : TypeId} {cs : List Value} (h : BB w q T cs) (i : Nat) : w.cell? ⟨q, i, none⟩ = cs[i]? := by
  unfold BB at h
  unfold World.cell?
  simp [h]
theorem BB.free {w : World} {q : Nat} {T : TypeId} {cs : List Value} (h : BB w q T cs) (i : Nat) : w.frozen? ⟨q, i, none⟩ = false := by
  unfold BB at h
  unfold World.frozen?
  simp [h]
theorem BB.ld {w : World} {q : Nat} {T : TypeId} {cs : List Value} (h : BB w q T cs) (ty : TypeId) {d : TypeDesc} (hu : Try.prog.underlying ty = some d) (hd : d.isRow = true) (hi : (Try.prog.info? ty).map (·.size) = some cs.length) : (Instr.loadAt ty (.pointer (some ⟨q, 0, none⟩))).run Try.prog w = .ok (.agg cs.toArray) w :=
  run_loadAt_mid (P := Try.prog) w q 0 ty cs d (fun j v hv => by rw [Nat.zero_add, h.cell]; exact hv) hu hd hi
theorem BB.set1 {w : World} {q : Nat} {T : TypeId} {cs : List Value} (h : BB w q T cs) (j : Nat) (u : Value) : BB (w.setCell ⟨q, j, none⟩ u) q T (cs.set j u) := by
  have hlt := h.lt
  unfold BB at *
  unfold World.setCell
  have e : w.heap[q] = .cells cs.toArray T (0, 0) := (Array.getElem?_eq_some_iff.1 h).2
  rw [Array.getElem?_eq_getElem (by simpa using hlt), Array.getElem_modify_self, e]
  simp
theorem BB.sets {q : Nat} {T : TypeId} : ∀ (vs : List Value) (o : Nat) (w : World) (cs : List Value), BB w q T cs → ∃ cs', BB (w.setCells q o vs) q T cs' ∧ cs'.length = cs.length
  | [], o, w, cs, h => ⟨cs, h, rfl⟩
  | v :: r, o, w, cs, h => by
    obtain ⟨cs', h1, h2⟩ := BB.sets r (o + 1) _ _ (h.set1 o v)
    exact ⟨cs', h1, by rw [h2, List.length_set]⟩
theorem BB.whole {w : World} {q : Nat} {T : TypeId} {cs : List Value} (h : BB w q T cs) (vs : List Value) (hl : vs.length = cs.length) : BB (w.setCells q 0 vs) q T vs := by
  obtain ⟨cs', h1, h2⟩ := BB.sets vs 0 w cs h
  have : cs' = vs := by
    apply List.ext_getElem (by omega)
    intro i hi hi2
    have h3 := World.cell?_setCells_in q vs 0 w (fun j hj => by rw [Nat.zero_add, h.cell, List.getElem?_eq_getElem (by omega)]; rfl) i hi2
    rw [Nat.zero_add, h1.cell, List.getElem?_eq_getElem hi] at h3
    exact Option.some.inj h3
  rw [← this]
  exact this ▸ h1
theorem upd18 (q : Nat) : ∀ (vs : List Value) (o : Nat) (w : World), Upd (fun k => k = q) w (w.setCells q o vs)
  | [], o, w => Upd.refl _ _
  | v :: r, o, w => ((Upd.refl (fun k => k = q) w).setCell (p := ⟨q, o, none⟩) (.inl rfl) v).trans (upd18 q r (o + 1) _)
theorem BB.st {w : World} {q : Nat} {T : TypeId} {cs : List Value} (h : BB w q T cs) (ty : TypeId) (vs : List Value) (hl : vs.length = cs.length) (hi : (Try.prog.info? ty).map (·.size) = some vs.toArray.size) (h1 : vs.toArray.all (·.oneCell') = true) : (Instr.storeAt ty (.pointer (some ⟨q, 0, none⟩)) (.agg vs.toArray)).run Try.prog w = .ok () (w.setCells q 0 vs) := by
  have := run_storeAt_mid (P := Try.prog) w q 0 ty vs.toArray (fun j hj => ⟨by rw [Nat.zero_add, h.cell, List.getElem?_eq_getElem (show j < cs.length by simpa [hl] using hj)]; rfl, by rw [Nat.zero_add]; exact h.free j⟩) hi h1
  exact this
theorem BB.res {w : World} {q : Nat} {Ty : TypeId} {cs : List Value} (h : BB w q Ty cs) {fn : Func} {i : Tmp} {ty : TypeId} {T : Array Value} {R : Ending → World → Prop} (hf : fn.results = #[.cell i ty]) (hq : T[i]? = some (gw true (.pointer (some ⟨q, 0, none⟩)))) {d : TypeDesc} (hu : Try.prog.underlying ty = some d) (hd : d.isRow = true) (hi : (Try.prog.info? ty).map (·.size) = some cs.length) (hR : R (.returned (.agg cs.toArray)) w) : bodyPost Try.prog fn R .ret ⟨T, []⟩ w := by
  refine bodyPost_ret (v := .agg cs.toArray) ?_ rfl hR
  have := run_loadVar_mid (P := Try.prog) w q 0 ty cs _ (fun j v hv => by rw [Nat.zero_add, h.cell]; exact hv) hu hd hi
  have hq' : T.getD i undef = .pointer (some ⟨q, 0, none⟩) := getD_of hq
  simp only [results, hf]
  simp only [Array.getD_eq_getD_getElem?] at hq'
  simp [Sem.run_bind, Result.andThen, hq', asAddr, this]
def zc8 : List Value := [.int .i64 0, .string ⟨#[]⟩, .int .i64 0, .string ⟨#[]⟩, .int .i64 0, .string ⟨#[]⟩, .int .i64 0, .string ⟨#[]⟩, .int .i64 0, .string ⟨#[]⟩, .int .i64 0, .string ⟨#[]⟩, .int .i64 0, .string ⟨#[]⟩, .int .i64 0, .string ⟨#[]⟩]
def p18 (D : List Bool) (n : Int) : List Value := D.map .bool ++ .int .i64 n :: zc8
def D0 : List Bool := [false, false, false, false, false, false, false, false]
theorem alPt (w : World) : (Instr.alloc 131 true (.tuple #[])).run Try.prog w = .ok (.pointer (some ⟨w.heap.size, 0, none⟩)) (w.alloc (.cells (p18 D0 0).toArray 131)) := by kernel_rfl
theorem bxB8 (cs : List Value) (w : World) : (Instr.box 128 (.agg cs.toArray)).run Try.prog w = .ok (.pointer (some ⟨w.heap.size, 0, none⟩)) (w.alloc (.cells cs.toArray 128)) := rfl
theorem bdPt (b0 b1 b2 b3 b4 b5 b6 b7 : Bool) (n : Int) (w : World) : (Instr.build 131 #[(0, .agg (List.map Value.bool [b0, b1, b2, b3, b4, b5, b6, b7]).toArray), (1, .int .i64 n)]).run Try.prog w = .ok (.agg (p18 [b0, b1, b2, b3, b4, b5, b6, b7] n).toArray) w := by
  unfold p18 zc8
  simp only [List.map_cons, List.map_nil, List.cons_append, List.nil_append]
  go_simp
theorem one25 (D : List Bool) (n : Int) : (p18 D n).toArray.all (·.oneCell') = true := by
  rw [Array.all_eq_true_iff_forall_mem]
  intro u hu
  simp only [p18, zc8, List.mem_toArray, List.mem_append, List.mem_map, List.mem_cons, List.not_mem_nil, or_false] at hu
  rcases hu with ⟨b, _, rfl⟩ | rfl | rfl | rfl | rfl | rfl | rfl | rfl | rfl | rfl | rfl | rfl | rfl | rfl | rfl | rfl | rfl | rfl <;> rfl
theorem ptC_one (D : List Bool) (L : List Cl) : (ptC D L).toArray.all (·.oneCell') = true := by
  rw [Array.all_eq_true_iff_forall_mem]
  intro u hu
  simp only [ptC, czs, List.mem_toArray, List.mem_append, List.mem_map, List.mem_cons, List.not_mem_nil, or_false] at hu
  rcases hu with ⟨b, _, rfl⟩ | rfl | rfl | rfl | rfl | rfl | rfl | rfl | rfl | rfl | rfl | rfl | rfl | rfl | rfl | rfl | rfl | rfl <;> rfl
theorem info25 : (Try.prog.info? 131).map (·.size) = some 25 := by kernel_rfl
theorem info8 : (Try.prog.info? 128).map (·.size) = some 8 := by kernel_rfl
theorem faPt (q : Nat) (w : World) : (Instr.fieldAt 131 (.pointer (some ⟨q, 0, none⟩)) 2).run Try.prog w = .ok (.pointer (some ⟨q, 9, none⟩)) w := by go_simp
theorem slPt (q : Nat) (w : World) : (Instr.sliceAt 129 (.pointer (some ⟨q, 9, none⟩)) none none none).run Try.prog w = .ok (.slice (some ⟨q, 9, none⟩) 8 8) w := by go_simp
theorem czs_ccs {L : List Cl} (h : L.length ≤ 8) : ccs L ++ zc8.drop (L.length * 2) = czs L := by
  match L, h with
  | [], _ => rfl
  | [a], _ => rfl
  | [a, b], _ => rfl
  | [a, b, c], _ => rfl
  | [a, b, c, d], _ => rfl
  | [a, b, c, d, e], _ => rfl
  | [a, b, c, d, e, f], _ => rfl
  | [a, b, c, d, e, f, g], _ => rfl
  | [a, b, c, d, e, f, g, i], _ => rfl
  | _ :: _ :: _ :: _ :: _ :: _ :: _ :: _ :: _ :: _, h => simp at h
theorem ccs_len2 : ∀ L : List Cl, (ccs L).length = L.length * 2
  | [] => rfl
  | p :: r => by simp [ccs, ccs_len2 r]; omega
theorem copyPt (w : World) (N B : Nat) (D : List Bool) (L : List Cl) (v : Value) (ty : TypeId) (hD : D.length = 8) (hl : L.length ≤ 8) (hB : BB w N 131 (p18 D (L.length : Int))) (ho : OwnC B w v L) :
    ∃ V w', (Builtin.copy_ #[48, 48] ty #[.slice (some ⟨N, 9, none⟩) 8 8, v]).run Try.prog w = .ok V w' ∧ BB w' N 131 (ptC D L) ∧ Upd (fun k => k = N) w w' := by
  have hs : (Try.prog.info? 111).map (·.size) = some 2 := by kernel_rfl
  obtain ⟨a, c, rfl, h1, h2, h3, h4⟩ := ho.form
  cases a with
  | none =>
    obtain ⟨rfl, rfl⟩ := h3 rfl
    exact ⟨_, _, run_copy_nil w 48 48 ty 111 2 _ none 8 8 0 Try.underlying48 hs, hB, Upd.refl _ _⟩
  | some x =>
    obtain ⟨g, rfl, _, _⟩ := h4 x rfl
    have hcl := ccs_len2 L
    have hpl : (p18 D (L.length : Int)).length = 25 := by simp [p18, zc8, hD]
    refine ⟨_, _, run_copy_at w 48 48 ty 111 2 N 9 8 8 ⟨g, 0, none⟩ L.length c _ 131 (ccs L) Try.underlying48 hs hB hcl hl (World.ownsRow.cells ho (g := g) rfl) (by simp [hpl]; omega) (ccs_one L), ?_, ?_⟩
    · unfold BB
      rw [setRow_heap w N _ _ _ _ hB]
      have e : (p18 D (L.length : Int)).take 9 ++ ccs L ++ (p18 D (L.length : Int)).drop (9 + (ccs L).length) = ptC D L := by
        have e1 : p18 D (L.length : Int) = (D.map Value.bool ++ [.int .i64 (L.length : Int)]) ++ zc8 := by simp [p18]
        have l9 : (D.map Value.bool ++ [Value.int .i64 (L.length : Int)]).length = 9 := by simp [hD]
        rw [e1, List.take_append_of_le_length (by omega), List.take_of_length_le (by omega), List.drop_append, l9, List.drop_of_length_le (by omega), List.nil_append, Nat.add_sub_cancel_left, List.append_assoc, hcl, czs_ccs hl]
        simp [ptC]
      rw [List.toList_toArray, e]
    · refine ⟨rfl, rfl, rfl, by simp [World.setRow], fun k hk hn => setRow_other w N k _ hn⟩
theorem bel_ge {B N : Nat} {w w' : World} (u : Upd (fun k => k = N) w w') (hB : B ≤ w.heap.size) (hN : B ≤ N) : Below B w w' := u.below hB (fun k hk => by omega)
set_option maxHeartbeats 1000000 in
theorem pointOf_any (D : List Bool) (b : Nat) (m : Option Nat) (L : List Cl) (w : World) (hD : D.length = 8) (h : Led w b m L) (hl : L.length ≤ 8) :
    Calls Try.prog 61 #[.agg (D.map .bool).toArray, .pointer (some ⟨b, 0, none⟩)] w fun e w' => e = .returned (zPt.enc (D, L)) ∧ Below w.heap.size w w' := by
  have HL : ∀ W, Below w.heap.size w W → Led W b m L := fun W hW => h.upd (S := fun _ => False) (Upd.of_below hW) id (fun _ _ => id)
  clear h
  obtain ⟨b0, b1, b2, b3, b4, b5, b6, b7, rfl⟩ := list8 hD
  have bd := bdPt b0 b1 b2 b3 b4 b5 b6 b7 (L.length : Int)
  generalize hDD : [b0, b1, b2, b3, b4, b5, b6, b7] = D at *
  clear hDD b0 b1 b2 b3 b4 b5 b6 b7
  have hi8 : (Try.prog.info? 128).map (·.size) = some (D.map Value.bool).length := by rw [List.length_map, hD]; exact info8
  have hp25 : ∀ n, (p18 D n).length = 25 := fun n => by simp [p18, zc8, hD]
  have hq25 : (ptC D L).length = 25 := by simp [ptC, czs, hD]
  go_enter Try.func61, Try.ntmps61
  go_upto_region 0 with fail
  refine wp_region_lit ?_
  refine vl_gen (fun T => Rp T 16 [(1, gw true (.pointer (some ⟨b, 0, none⟩))), (0, gw true (.agg (D.map Value.bool).toArray))]) (((Rp.nil rfl).cons rfl).cons rfl) (fun Z0 q0 => ?_)
  obtain ⟨w1, hw1⟩ : ∃ y, y = w.alloc (.cells (D.map Value.bool).toArray 128) := ⟨_, rfl⟩
  refine vw (.pointer (some ⟨w.heap.size, 0, none⟩)) w1 (want_none rfl) (ex_box18 rfl (q0.e (j := 0) rfl) (by rw [hw1]; exact bxB8 _ _)) rfl q0.z (by decide) (q0.k fun Z1 q1 => ?_)
  clear q0
  have B1 : BB w1 w.heap.size 128 (D.map Value.bool) := by rw [hw1]; exact BB.new _ _ _
  have c1 : Below w.heap.size w w1 := by rw [hw1]; exact (Below.refl _ _).alloc (Nat.le_refl _) _
  have z1 : w1.heap.size = w.heap.size + 1 := by rw [hw1]; simp
  clear hw1
  obtain ⟨w2, hw2⟩ : ∃ y, y = w1.alloc (.cells (p18 D0 0).toArray 131) := ⟨_, rfl⟩
  refine vw (.pointer (some ⟨w1.heap.size, 0, none⟩)) w2 (want_none rfl) (ex_al rfl (by rw [hw2]; exact alPt _)) rfl q1.z (by decide) (q1.k fun Z2 q2 => ?_)
  clear q1
  have B2 : BB w2 w1.heap.size 131 (p18 D0 0) := by rw [hw2]; exact BB.new _ _ _
  have c12 : Below w1.heap.size w1 w2 := by rw [hw2]; exact (Below.refl _ _).alloc (Nat.le_refl _) _
  have z2 : w2.heap.size = w.heap.size + 2 := by rw [hw2]; simp; omega
  clear hw2
  replace B1 := B1.later c12
  have c2 : Below w.heap.size w w2 := c1.trans (c12.mono (by omega))
  clear c1 c12
  refine wpList_nil ?_
  go_upto_region 1 with fail
  refine v_cut18 (fun T' w' => ∃ N, Rp T' 16 [(5, gw true (.pointer (some ⟨N, 0, none⟩))), (4, gw true (.pointer (some ⟨w1.heap.size, 0, none⟩))), (1, gw true (.pointer (some ⟨b, 0, none⟩)))] ∧ BB w' N 131 (p18 D (L.length : Int)) ∧ w2.heap.size ≤ N ∧ Below w2.heap.size w2 w') ?_ ?_
  · refine vh_start (fun v => Below w2.heap.size w2 v) (by kernel_rfl) ?_
    have hS : Below w2.heap.size w2 w2.drew := (Below.refl _ _).drew
    have hz : w2.drew.heap.size = w2.heap.size := rfl
    generalize w2.drew = u at *
    have hLu := HL u (c2.trans (hS.mono (by omega)))
    have hA : Below w2.heap.size w2 (u.alloc (.cells (p18 D0 0).toArray 131)) := hS.alloc (by omega) _
    refine vh_take 0 true (.agg (D.map Value.bool).toArray) rfl (by kernel_rfl) (by kernel_rfl) (by kernel_rfl) (want_none rfl) (fun hc v hv => ex_ld rfl (q2.e (j := 2) rfl) ((B1.later hv).ld 128 Try.underlying128 rfl hi8)) rfl q2.z (by decide) hS (q2.k fun Z3 q3 => ?_)
    clear q2
    refine vh_take 1 true (.pointer (some ⟨b, 0, none⟩)) rfl (by kernel_rfl) (by kernel_rfl) (by kernel_rfl) (want_none rfl) (fun hc v hv => ex_move rfl (q3.e (j := 1) rfl)) rfl q3.z (by decide) hS (q3.k fun Z4 q4 => ?_)
    clear q3
    refine vh_two18 2 4 (by kernel_rfl) rfl rfl (want_none rfl) (ex_call rfl (by simp only [List.map_toArray, List.map_cons, List.map_nil, q4.e (j := 7) rfl, evc] <;> rfl) rfl) (lenm_any b m L u hLu) rfl q4.z (by decide) ?_ (.pointer (some ⟨u.heap.size, 0, none⟩)) _ (want_none rfl) (ex_al rfl (alPt _)) rfl (by decide) hA ?_
    · rintro e w' ⟨rfl, rfl⟩
      refine ⟨_, rfl, hS, q4.k fun Z5 q5 => ?_⟩
      clear q4
      refine vh_take 3 true (.agg (p18 D (L.length : Int)).toArray) rfl (by kernel_rfl) (by kernel_rfl) (by kernel_rfl) (want_none rfl) (fun hc v hv => ex_buildP18 rfl (by simp only [List.map_toArray, List.map_cons, List.map_nil, q5.e (j := 6) rfl, q5.e (j := 8) rfl]) (bd v)) rfl q5.z (by decide) hS (q5.k fun Z6 q6 => ?_)
      clear q5
      refine vh_val18 4 (.pointer (some ⟨w'.heap.size, 0, none⟩)) _ rfl (by kernel_rfl) (want_none rfl) (ex_al rfl (alPt _)) rfl q6.z (by decide) hA (q6.k fun Z7 q7 => ?_)
      clear q6
      have hN := BB.new w' 131 (p18 D0 0)
      refine vh_store18 5 _ rfl (by kernel_rfl) (want_none rfl) (ex_st rfl (q7.e (j := 5) rfl) (q7.e (j := 9) rfl) (hN.st 131 (p18 D (L.length : Int)) (hp25 _) (by rw [List.size_toArray, hp25]; exact info25) (one25 _ _))) rfl (hA.trans (bel_ge (upd18 _ _ _ _) (by have := hA.size; omega) (by omega))) ?_
      refine vh_done (by kernel_rfl) ?_
      exact ⟨_, rfl, w'.heap.size, (((Rp.nil q7.z).cons (q7.a 1 rfl)).cons (q7.a 4 rfl)).cons (q7.a 5 rfl), hN.whole _ (hp25 _), by omega, hA.trans (bel_ge (upd18 _ _ _ _) (by have := hA.size; omega) (by omega))⟩
    · refine q4.k fun Z5 q5 => ?_
      clear q4
      have hN := BB.new u 131 (p18 D0 0)
      have hLA := HL _ (c2.trans (hA.mono (by omega)))
      generalize hv : u.alloc (.cells (p18 D0 0).toArray 131) = v at *
      refine vh_call 2 rfl (by kernel_rfl) (want_none rfl) (ex_call rfl (by simp only [List.map_toArray, List.map_cons, List.map_nil, q5.e (j := 7) rfl, evc] <;> rfl) rfl) (lenm_any b m L v hLA) rfl q5.z (by decide) ?_
      rintro e w' ⟨rfl, rfl⟩
      refine ⟨_, rfl, hA, q5.k fun Z6 q6 => ?_⟩
      clear q5
      refine vh_take 3 true (.agg (p18 D (L.length : Int)).toArray) rfl (by kernel_rfl) (by kernel_rfl) (by kernel_rfl) (want_none rfl) (fun hc v hv => ex_buildP18 rfl (by simp only [List.map_toArray, List.map_cons, List.map_nil, q6.e (j := 6) rfl, q6.e (j := 8) rfl]) (bd v)) rfl q6.z (by decide) hA (q6.k fun Z7 q7 => ?_)
      clear q6
      refine vh_store18 5 _ rfl (by kernel_rfl) (want_none rfl) (ex_st rfl (q7.e (j := 5) rfl) (q7.e (j := 9) rfl) (hN.st 131 (p18 D (L.length : Int)) (hp25 _) (by rw [List.size_toArray, hp25]; exact info25) (one25 _ _))) rfl (hA.trans (bel_ge (upd18 _ _ _ _) (by have := hA.size; omega) (by omega))) ?_
      refine vh_done (by kernel_rfl) ?_
      exact ⟨_, rfl, u.heap.size, (((Rp.nil q7.z).cons (q7.a 1 rfl)).cons (q7.a 4 rfl)).cons (q7.a 5 rfl), hN.whole _ (hp25 _), by omega, hA.trans (bel_ge (upd18 _ _ _ _) (by have := hA.size; omega) (by omega))⟩
  · rintro Z3 w3 ⟨N, q3, B3, hN, c3⟩
    clear q2 B1
    have B4 := B2.later c3
    clear B2
    have z3 := c3.size
    have hNl := B3.lt
    go_upto_region 2 with fail
    refine vh_start (fun _ => True) (by kernel_rfl) ?_
    have hS : Below w3.heap.size w3 w3.drew := (Below.refl _ _).drew
    have hz : w3.drew.heap.size = w3.heap.size := rfl
    generalize w3.drew = u at *
    have hLu := HL u (c2.trans ((c3.trans (hS.mono (by omega))).mono (by omega)))
    refine vh_take 0 true (.pointer (some ⟨N, 9, none⟩)) rfl (by kernel_rfl) (by kernel_rfl) (by kernel_rfl) (want_none rfl) (fun hc v hv => ex_fa rfl (q3.e (j := 5) rfl) (faPt _ _)) rfl q3.z (by decide) trivial (q3.k fun Z4 q4 => ?_)
    clear q3
    refine vh_take 1 true (.slice (some ⟨N, 9, none⟩) 8 8) rfl (by kernel_rfl) (by kernel_rfl) (by kernel_rfl) (want_none rfl) (fun hc v hv => ex_sl18 rfl (q4.e (j := 10) rfl) (slPt _ _)) rfl q4.z (by decide) trivial (q4.k fun Z5 q5 => ?_)
    clear q4
    refine vh_take 2 true (.pointer (some ⟨b, 0, none⟩)) rfl (by kernel_rfl) (by kernel_rfl) (by kernel_rfl) (want_none rfl) (fun hc v hv => ex_move rfl (q5.e (j := 1) rfl)) rfl q5.z (by decide) trivial (q5.k fun Z6 q6 => ?_)
    clear q5
    refine vh_call 3 rfl (by kernel_rfl) (want_none rfl) (ex_call rfl (by simp only [List.map_toArray, List.map_cons, List.map_nil, q6.e (j := 12) rfl, evc] <;> rfl) rfl) (cells_any b m L u hLu) rfl q6.z (by decide) ?_
    rintro e w4 ⟨v, rfl, oc, c4⟩
    have hS4 : Below w3.heap.size w3 w4 := hS.trans (c4.mono (by omega))
    refine ⟨v, rfl, trivial, q6.k fun Z7 q7 => ?_⟩
    clear q6
    obtain ⟨V, w5, hr, B5, u5⟩ := copyPt w4 N _ D L v 3 hD hl (B3.later hS4) oc
    have hS5 : Below w2.heap.size w2 w5 := (c3.trans (hS4.mono z3)).trans (bel_ge u5 (by have := hS4.size; omega) hN)
    have B6 : BB w5 w1.heap.size 131 (p18 D0 0) := (B4.later hS4).upd u5 (by have := B4.lt; omega)
    refine vh_val18 4 V w5 rfl (by kernel_rfl) (want_none rfl) (ex_copy18 rfl (q7.e (j := 11) rfl) (q7.e (j := 13) rfl) hr) rfl q7.z (by decide) trivial (q7.k fun Z8 q8 => ?_)
    clear q7
    refine vh_done (by kernel_rfl) ?_
    go_upto_region 3 with fail
    refine wp_region_lit ?_
    have q9 := (((Rp.nil q8.z).cons (q8.a 4 rfl)).cons (q8.a 5 rfl))
    clear q8
    refine q9.t (.agg (ptC D L).toArray) (ex_ld rfl (q9.e (j := 5) rfl) (B5.ld 131 Try.underlying131 rfl (by rw [hq25]; exact info25))) fun Z10 q10 => ?_
    clear q9
    refine vs _ (want_none rfl) (ex_st rfl (q10.e (j := 4) rfl) (q10.e (j := 15) rfl) (B6.st 131 (ptC D L) (by rw [hq25]; rfl) (by rw [List.size_toArray, hq25]; exact info25) (ptC_one _ _))) rfl ?_
    refine wpList_nil ?_
    have B7 := B6.whole (ptC D L) (by rw [hq25]; rfl)
    have c7 : Below w.heap.size w (w5.setCells w1.heap.size 0 (ptC D L)) := (c2.trans (hS5.mono (by omega))).trans (bel_ge (upd18 _ _ _ _) (by have := hS5.size; omega) (by omega))
    go_wp2
    exact B7.res rfl (q10.a 4 rfl) Try.underlying131 rfl (by rw [hq25]; exact info25) ⟨rfl, c7⟩
end Go.Proofs.Yteamgkadhlbflaa
