import Derived.Test.YtacalgpdhgpmbaaGLi
import Derived.Test.YtacalgpdhgpmbaaGLo
namespace Go.Proofs.Ytacalgpdhgpmbaa
open Go.RowKit
open Classical
set_option linter.unusedVariables false

theorem res3 (w : World) (a b : Int) (c : ByteArray) (T : TypeId) : (w.alloc (.cells #[.int .i64 a, .int .i64 b, .string c] T)).cell? ⟨w.heap.size, 0, none⟩ = some (.int .i64 a) ∧ (w.alloc (.cells #[.int .i64 a, .int .i64 b, .string c] T)).cell? ⟨w.heap.size, 1, none⟩ = some (.int .i64 b) ∧ (w.alloc (.cells #[.int .i64 a, .int .i64 b, .string c] T)).cell? ⟨w.heap.size, 2, none⟩ = some (.string c) := by
  refine ⟨?_, ?_, ?_⟩
  all_goals go_simp
/-- Three cells at a block. -/
def At3w (w : World) (g : Nat) (a b : Int) (c : ByteArray) : Prop := w.cell? ⟨g, 0, none⟩ = some (.int .i64 a) ∧ w.cell? ⟨g, 1, none⟩ = some (.int .i64 b) ∧ w.cell? ⟨g, 2, none⟩ = some (.string c)
theorem At3w.keep {w w' : World} {g b1 : Nat} {a b : Int} {c : ByteArray} (h : At3w w g a b c) (hn : g ≠ b1) (K : ∀ g i u, g ≠ b1 → w.cell? ⟨g, i, none⟩ = some u → w'.cell? ⟨g, i, none⟩ = some u) : At3w w' g a b c :=
  ⟨K _ _ _ hn h.1, K _ _ _ hn h.2.1, K _ _ _ hn h.2.2⟩
theorem At3w.on {w w' : World} {g : Nat} {a b : Int} {c : ByteArray} (h : At3w w g a b c) {B : Nat} (hb : Below B w w') (hg : g < B) : At3w w' g a b c :=
  ⟨(hb.cell (p := ⟨g, 0, none⟩) hg).trans h.1, (hb.cell (p := ⟨g, 1, none⟩) hg).trans h.2.1, (hb.cell (p := ⟨g, 2, none⟩) hg).trans h.2.2⟩
theorem At3w.lt {w : World} {g : Nat} {a b : Int} {c : ByteArray} (h : At3w w g a b c) : g < w.heap.size := World.block_lt_of_cell? _ _ h.1
theorem At3w.alloc {w : World} {g : Nat} {a b : Int} {c : ByteArray} (h : At3w w g a b c) (o : Obj) : At3w (w.alloc o) g a b c := h.on ((Below.refl _ w).alloc (Nat.le_refl _) o) h.lt
theorem At3w.new (w : World) (a b : Int) (c : ByteArray) (T : TypeId) : At3w (w.alloc (.cells #[.int .i64 a, .int .i64 b, .string c] T)) w.heap.size a b c := res3 w a b c T
theorem wp_region_quietC {P : Program} {C : World → Prop} {id : Nat} {Q : Exit → Act → World → Prop} {a : Act} {w : World} {l : List Oper} (hm : P.follows .mixedOrders = true) (hB : Region.lexB .any l.toArray = true) (hC : C w.drew)
    (h : wpQuiet P l.toArray C (fun a' => ∀ w', C w' → Q .normal a' w') l a) : (Code.region id l.toArray true).wp P Q a w :=
  wp_region_quiet (C := C) hm hB hC (by simpa using h)
set_option maxRecDepth 100000 in
set_option maxHeartbeats 4000000 in
theorem apart_walk (P : List Opn) (a : Option Addr) (cap : Nat) (x y : Opn) (w : World) (hP : Ops w a P) (hf : ∀ p ∈ P, p.fits) (hl : P.length * 32 ≤ 140737488351232) (fx : x.fits) (fy : y.fits) :
    Calls Try.prog 10 #[.slice a P.length cap, x.val, y.val] w fun e w' => e = .returned (.bool true) ∧ Below w.heap.size w w' := by
  obtain ⟨xk, xs, xv⟩ := x
  obtain ⟨yk, ys, yv⟩ := y
  dsimp only [Opn.val]
  have HP := hide hP
  have HF := hide hf
  clear hP hf
  have hlz : (P.length : Int) ≤ 9223372036854775807 := by omega
  go_enter Try.func10, Try.ntmps10
  obtain ⟨w1, hw1⟩ : ∃ w1, (w.alloc (.cells #[.int .i64 xk, .int .i64 xs, .string xv] 23)).alloc (.cells #[.int .i64 yk, .int .i64 ys, .string yv] 23) = w1 := ⟨_, rfl⟩
  have bw : Below w.heap.size w w1 := by rw [← hw1]; exact ((Below.refl _ w).alloc (Nat.le_refl _) _).alloc (by simp) _
  have s1 : w1.heap.size = w.heap.size + 2 := by rw [← hw1]; simp
  obtain ⟨x0, x1, x2, y0, y1, y2⟩ : w1.cell? ⟨w.heap.size, 0, none⟩ = some (.int .i64 xk) ∧ w1.cell? ⟨w.heap.size, 1, none⟩ = some (.int .i64 xs) ∧ w1.cell? ⟨w.heap.size, 2, none⟩ = some (.string xv) ∧ w1.cell? ⟨w.heap.size + 1, 0, none⟩ = some (.int .i64 yk) ∧ w1.cell? ⟨w.heap.size + 1, 1, none⟩ = some (.int .i64 ys) ∧ w1.cell? ⟨w.heap.size + 1, 2, none⟩ = some (.string yv) := by
    rw [← hw1]
    have b12 : Below (w.heap.size + 1) (w.alloc (.cells #[.int .i64 xk, .int .i64 xs, .string xv] 23)) ((w.alloc (.cells #[.int .i64 xk, .int .i64 xs, .string xv] 23)).alloc (.cells #[.int .i64 yk, .int .i64 ys, .string yv] 23)) := (Below.refl _ _).alloc (by simp) _
    have r1 := res3 w xk xs xv 23
    have r2 := res3 (w.alloc (.cells #[.int .i64 xk, .int .i64 xs, .string xv] 23)) yk ys yv 23
    rw [World.size_alloc] at r2
    exact ⟨(b12.cell (p := ⟨w.heap.size, 0, none⟩) (Nat.lt_succ_self _)).trans r1.1, (b12.cell (p := ⟨w.heap.size, 1, none⟩) (Nat.lt_succ_self _)).trans r1.2.1, (b12.cell (p := ⟨w.heap.size, 2, none⟩) (Nat.lt_succ_self _)).trans r1.2.2, r2.1, r2.2.1, r2.2.2⟩
  have HP1 := hide (HP.out.later bw)
  have hs1 := hide s1
  clear s1
  go_wp2_with fail
  refine (new_b w1.heap.size w1 w1 (Below.refl _ _) (Nat.le_refl _)).mono ?_
  clear hw1
  rintro e w2 ⟨rfl, l2, s2⟩
  go_wp2_with fail
  refine (new_any w2).mono ?_
  rintro e w3 ⟨rfl, l3, u3, s3⟩
  have T3 : Two w1.heap.size w1 w3 w1.heap.size [] w2.heap.size [] := Two.new l2 l3 (u3.below (Nat.le_refl _) (fun _ h => h.elim)) (Nat.le_refl _) (fun j e => by cases e)
  rw [s2] at T3 ⊢
  clear l3 u3 s3 l2 s2
  go_wp2_with (go_at_call 16; refine (works_any _).mono ?_; rintro e w4 ⟨rfl, b4⟩; have T4 := T3.on b4)
  have x3 := hide (And.intro x0 (And.intro x1 (And.intro x2 (And.intro y0 (And.intro y1 y2)))))
  clear x0 x1 x2 y0 y1 y2
  generalize hB : w1.heap.size = B at *
  have hBh := hide hB
  clear hB T3 b4
  go_loopw [9] (fun i wr => ∃ j : Nat, i = .int .i64 (j : Int) ∧ j ≤ P.length ∧ Two B w1 wr B (pl [] (P.take j)) (B + 1) (pl [] (P.take j))) (fun i _ => P.length - (intOf i).toNat)
  case atStart => exact ⟨0, rfl, Nat.zero_le _, T4⟩
  case round =>
    obtain ⟨j, rfl, hj, T⟩ := hrel
    by_cases hlt : j < P.length
    · have hg : P[j]? = some P[j] := List.getElem?_eq_getElem hlt
      have ht := pl_take [] hg
      have hfj := HF.out P[j] (List.getElem_mem hlt)
      obtain ⟨q, o, ea, c0, c1, c2⟩ := HP1.out.later (T.bel.mono (by have := hBh.out; omega)) j hlt
      have hqB : q < B := by
        obtain ⟨q', o', ea', c0', _⟩ := HP1.out j hlt
        rw [ea] at ea'
        cases ea'
        have := World.block_lt_of_cell? _ _ c0'
        have := hBh.out
        dsimp only at *
        omega
      generalize P[j] = p at *
      obtain ⟨k, s, v⟩ := p
      subst ea
      dsimp only at c0 c1 c2 ht
      have hth := hide ht
      have hll := T.fst.ok.len_le
      generalize pl [] (P.take j) = L at *
      clear ht hg
      have cdd := fun W hW => do_2 B w1 B (B + 1) L L k s v hfj W hW
      have cdm := fun W hW => do_2 B w1 (B + 1) B L (dn L k s v) k s v hfj W hW
      have hdq := dn_quiet (k := k) (s := s) (v := v)
      have cq := fun W => quiet_any k s v hfj W
      have hn2 := fun W => neq_same (wd L k s v) W
      generalize hdl : dn L k s v = L' at *
      generalize wd L k s v = r at *
      obtain ⟨rc, rs, rv⟩ := r
      dsimp only at cdd cdm hn2
      have hqs : q ≠ B := by omega
      go_wp2_with (go_at_call 28; refine (cdd _ T).mono ?_; rintro e w5 ⟨rfl, T5, K5, s5⟩)
      have c0 := K5 _ _ _ hqs c0
      have c1 := K5 _ _ _ hqs c1
      have c2 := K5 _ _ _ hqs c2
      have z := res3 w5 rc rs rv 53
      have T6 := T5.on ((Below.refl _ w5).alloc (Nat.le_refl _) (.cells #[.int .i64 rc, .int .i64 rs, .string rv] 53))
      have hB5 := T5.fst.lt
      have hB6 := T5.snd.lt
      obtain ⟨w6, hw6⟩ : ∃ w6, w5.alloc (.cells #[.int .i64 rc, .int .i64 rs, .string rv] 53) = w6 := ⟨_, rfl⟩
      have s6 : w6.heap.size = w5.heap.size + 1 := by rw [← hw6]; simp
      have c6 : ∀ i u, w5.cell? ⟨q, i, none⟩ = some u → w6.cell? ⟨q, i, none⟩ = some u := fun i u h => by rw [← hw6]; exact (World.cell?_alloc_past _ _ _ (by show q < w5.heap.size; omega)).trans h
      have c0 := c6 _ _ c0
      have c1 := c6 _ _ c1
      have c2 := c6 _ _ c2
      rw [hw6] at z T6 ⊢
      obtain ⟨z0, z1, z2⟩ := z
      have hng : w5.heap.size ≠ B + 1 := by omega
      have hqn : q ≠ B + 1 := by omega
      generalize w5.heap.size = g at *
      clear hw6 c6 K5
      have KS : ∀ v', Below w6.heap.size w6 v' → (v'.cell? ⟨q, o + j * 3, none⟩ = some (.int .i64 k) ∧ v'.cell? ⟨q, o + j * 3 + 1, none⟩ = some (.int .i64 s) ∧ v'.cell? ⟨q, o + j * 3 + 2, none⟩ = some (.string v) ∧ v'.cell? ⟨g, 0, none⟩ = some (.int .i64 rc) ∧ v'.cell? ⟨g, 1, none⟩ = some (.int .i64 rs) ∧ v'.cell? ⟨g, 2, none⟩ = some (.string rv)) := fun v' b =>
        ⟨(b.cell (p := ⟨q, o + j * 3, none⟩) (by dsimp only; omega)).trans c0, (b.cell (p := ⟨q, o + j * 3 + 1, none⟩) (by dsimp only; omega)).trans c1, (b.cell (p := ⟨q, o + j * 3 + 2, none⟩) (by dsimp only; omega)).trans c2, (b.cell (p := ⟨g, 0, none⟩) (by dsimp only; omega)).trans z0, (b.cell (p := ⟨g, 1, none⟩) (by dsimp only; omega)).trans z1, (b.cell (p := ⟨g, 2, none⟩) (by dsimp only; omega)).trans z2⟩
      have KH := hide KS
      have hs6 := hide s6
      clear KS s6
      cases hq : qt k s v with
      | true =>
        rw [hq] at cq hdq
        have hLL : L' = L := by rw [← hdl]; exact hdq rfl L
        subst hLL
        clear cdm cdd hdq
        go_wp2_with fail
        refine wp_region_quietC (C := fun v' => Below w6.heap.size w6 v' ∧ v'.cell? ⟨q, o + j * 3, none⟩ = some (.int .i64 k) ∧ v'.cell? ⟨q, o + j * 3 + 1, none⟩ = some (.int .i64 s) ∧ v'.cell? ⟨q, o + j * 3 + 2, none⟩ = some (.string v) ∧ v'.cell? ⟨g, 0, none⟩ = some (.int .i64 rc) ∧ v'.cell? ⟨g, 1, none⟩ = some (.int .i64 rs) ∧ v'.cell? ⟨g, 2, none⟩ = some (.string rv)) (by kernel_rfl) (by kernel_rfl) ⟨(Below.refl _ _).drew, KH.out _ (Below.refl _ _).drew⟩ ?_
        refine BigFrame.wpQuiet_want (by rfl) (fun K hK => ⟨.slice (some ⟨q, o, none⟩) P.length cap, fun w' hw' => ?_, hK _ ?_⟩)
        · go_simp
        clear hK
        simp only [Act.put, List.setIfInBounds_toArray, List.set_cons_zero, List.set_cons_succ]
        refine BigFrame.wpQuiet_want (by rfl) (fun K hK => ⟨.int .i64 (j : Int), fun w' hw' => ?_, hK _ ?_⟩)
        · go_simp
        clear hK
        simp only [Act.put, List.setIfInBounds_toArray, List.set_cons_zero, List.set_cons_succ]
        refine BigFrame.wpQuiet_want (by rfl) (fun K hK => ⟨.pointer (some ⟨q, o + j * 3, none⟩), fun w' hw' => ?_, hK _ ?_⟩)
        · go_simp
        clear hK
        simp only [Act.put, List.setIfInBounds_toArray, List.set_cons_zero, List.set_cons_succ]
        refine BigFrame.wpQuiet_want (by rfl) (fun K hK => ⟨.agg #[.int .i64 k, .int .i64 s, .string v], fun w' hw' => ?_, hK _ ?_⟩)
        · (obtain ⟨_, e0, e1, e2, _⟩ := hw'; go_simp)
        clear hK
        simp only [Act.put, List.setIfInBounds_toArray, List.set_cons_zero, List.set_cons_succ]
        refine BigFrame.wpQuiet_want (by rfl) (fun K hK => ⟨.bool true, fun w' hw' => ?_, hK _ ?_⟩)
        · (go_simp; exact (cq w').mono (fun e w'' ⟨he, bv⟩ => ⟨he, hw'.1.trans (bv.mono hw'.1.size), KH.out w'' (hw'.1.trans (bv.mono hw'.1.size))⟩))
        clear hK
        simp only [Act.put, List.setIfInBounds_toArray, List.set_cons_zero, List.set_cons_succ]
        refine BigFrame.wpQuiet_want (by rfl) (fun K hK => ⟨.bool false, fun w' hw' => ?_, hK _ ?_⟩)
        · go_simp
        clear hK
        simp only [Act.put, List.setIfInBounds_toArray, List.set_cons_zero, List.set_cons_succ]
        refine BigFrame.wpQuiet_want (by rfl) (fun K hK => ⟨.bool false, fun w' hw' => ?_, hK _ ?_⟩)
        · go_simp
        clear hK
        simp only [Act.put, List.setIfInBounds_toArray, List.set_cons_zero, List.set_cons_succ]
        go_big_quiet_skip
        go_big_quiet_skip
        go_big_quiet_skip
        go_big_quiet_skip
        go_big_quiet_skip
        go_big_quiet_skip
        go_big_quiet_skip
        go_big_quiet_skip
        refine BigFrame.wpQuiet_want (by rfl) (fun K hK => ⟨.bool false, fun w' hw' => ?_, hK _ ?_⟩)
        · go_simp
        clear hK
        simp only [Act.put, List.setIfInBounds_toArray, List.set_cons_zero, List.set_cons_succ]
        refine wpQuiet_nil ?_
        rintro w7 ⟨b7, _⟩
        go_wp2
        go_round
        case rel => exact ⟨j + 1, by go_num, by omega, by rw [hth.out]; exact T6.on b7⟩
        case measure => simp [intOf]; omega
      | false =>
        rw [hq] at cq
        have T7 := hide T6.swap
        clear cdd hdq
        go_wp2_with fail
        go_region_held3 (fun v' => v'.cell? ⟨q, o + j * 3, none⟩ = some (.int .i64 k) ∧ v'.cell? ⟨q, o + j * 3 + 1, none⟩ = some (.int .i64 s) ∧ v'.cell? ⟨q, o + j * 3 + 2, none⟩ = some (.string v) ∧ v'.cell? ⟨g, 0, none⟩ = some (.int .i64 rc) ∧ v'.cell? ⟨g, 1, none⟩ = some (.int .i64 rs) ∧ v'.cell? ⟨g, 2, none⟩ = some (.string rv))
          (first | exact KH.out _ (Below.refl _ _).drew | exact KH.out _ (by assumption) | assumption)
          (first
            | (go_at_call 32; refine (cq _).mono ?_; rintro e v' ⟨rfl, bv⟩; have bb : Below w6.heap.size w6 v' := (Below.refl _ w6).drew.trans bv)
            | (go_at_call 28; refine (cdm _ (T7.out.on (by assumption))).mono ?_; rintro e v8 ⟨rfl, T8, K8, s8⟩; have hk8 : v8.cell? ⟨q, o + j * 3, none⟩ = some (.int .i64 k) ∧ v8.cell? ⟨q, o + j * 3 + 1, none⟩ = some (.int .i64 s) ∧ v8.cell? ⟨q, o + j * 3 + 2, none⟩ = some (.string v) ∧ v8.cell? ⟨g, 0, none⟩ = some (.int .i64 rc) ∧ v8.cell? ⟨g, 1, none⟩ = some (.int .i64 rs) ∧ v8.cell? ⟨g, 2, none⟩ = some (.string rv) := (by obtain ⟨h0, h1, h2, h3, h4, h5⟩ := KH.out _ (by assumption); exact ⟨K8 _ _ _ hqn h0, K8 _ _ _ hqn h1, K8 _ _ _ hqn h2, K8 _ _ _ hng h3, K8 _ _ _ hng h4, K8 _ _ _ hng h5⟩)))
        go_wp2
        go_round
        case rel => exact ⟨j + 1, by go_num, by omega, by rw [hth.out]; exact T8.swap⟩
        case measure => simp [intOf]; omega
    · obtain rfl : j = P.length := by omega
      rw [List.take_of_length_le (Nat.le_refl _)] at T
      generalize pl [] P = L at *
      go_wp2_with fail
      refine (cells_b _ _ _ L _ T.fst).mono ?_
      rintro e w5 ⟨v5, rfl, o5, b5⟩
      have T5 := T.on b5
      obtain ⟨a5, q5, hsl5, _⟩ := o5.sl
      have hv5 := hsl5.form
      subst hv5
      go_wp2_with fail
      refine (cells_b _ _ _ L _ T5.snd).mono ?_
      rintro e w6 ⟨v6, rfl, o6, b6⟩
      have T6 := T5.on b6
      obtain ⟨a6, q6, hsl6, _⟩ := o6.sl
      have hv6 := hsl6.form
      subst hv6
      go_wp2_with fail
      refine (same_own L _ _ _ _ _ (hsl5.later b6) hsl6).mono ?_
      rintro e w7 ⟨rfl, b7⟩
      have T7 := T6.on b7
      clear hsl5 hsl6 o5 o6 b5 b6 b7 T6 T5 T
      have hsB := hs1.out
      have X : At3w w7 w.heap.size xk xs xv := At3w.on (w := w1) ⟨x3.out.1, x3.out.2.1, x3.out.2.2.1⟩ T7.bel (by omega)
      have Y : At3w w7 (w.heap.size + 1) yk ys yv := At3w.on (w := w1) ⟨x3.out.2.2.2.1, x3.out.2.2.2.2.1, x3.out.2.2.2.2.2⟩ T7.bel (by omega)
      have hXl := X.lt
      have hYl := Y.lt
      have nx1 : w.heap.size ≠ B := by omega
      have nx2 : w.heap.size ≠ B + 1 := by omega
      have ny1 : w.heap.size + 1 ≠ B := by omega
      have ny2 : w.heap.size + 1 ≠ B + 1 := by omega
      have fin : ∀ W, Below B w1 W → Below w.heap.size w W := fun W h => bw.trans (h.mono (by omega))
      have hh1 := hide hsB
      clear hsB
      have X' := hide X
      have Y' := hide Y
      obtain ⟨x0, x1, x2⟩ := X
      obtain ⟨y0, y1, y2⟩ := Y
      by_cases hxy : xs = ys
      · subst hxy
        go_wp2
        go_ret
        exact ⟨rfl, fin _ T7.bel⟩
      · have f0 : (xs == ys) = false := by simp [hxy]
        by_cases kx : xk = 1 ∨ xk = 3
        · by_cases ky : yk = 1 ∨ yk = 3
          · obtain ⟨e1, e2, e3⟩ := apart_math T7.fst.ok (v := xv) (v' := yv) kx ky hxy
            have cd1 := fun W hW => do_2 B w1 B (B + 1) L L xk xs xv fx W hW
            have cd2 := fun W hW => do_2 B w1 B (B + 1) (dn L xk xs xv) L yk ys yv fy W hW
            have cd3 := fun W hW => do_2 B w1 (B + 1) B L (dn (dn L xk xs xv) yk ys yv) yk ys yv fy W hW
            have cd4 := fun W hW => do_2 B w1 (B + 1) B (dn L yk ys yv) (dn (dn L xk xs xv) yk ys yv) xk xs xv fx W hW
            rw [e1] at cd2
            rw [e2, ← e3] at cd4
            have q1 := fun W => eql_same (wd L xk xs xv) W
            have q2 := fun W => eql_same (wd L yk ys yv) W
            generalize dn (dn L xk xs xv) yk ys yv = LF at *
            generalize dn L xk xs xv = LX at *
            generalize dn L yk ys yv = LY at *
            generalize wd L xk xs xv = r1 at *
            generalize wd L yk ys yv = r2 at *
            clear e1 e2 e3
            obtain ⟨c1, d1, v1⟩ := r1
            obtain ⟨c2, d2, v2⟩ := r2
            dsimp only at cd1 cd2 cd3 cd4 q1 q2
            clear T4
            rcases kx with rfl | rfl <;> rcases ky with rfl | rfl
            all_goals
              go_wp2_with fail
              refine (cd1 _ T7).mono ?_
              rintro e w8 ⟨rfl, T8, K8, s8⟩
              have U8 := T8.on ((Below.refl _ w8).alloc (Nat.le_refl _) (.cells #[.int .i64 c1, .int .i64 d1, .string v1] 53))
              have G8 := At3w.new w8 c1 d1 v1 53
              have ga8 : w8.heap.size ≠ B := by have := T8.fst.lt; have := T8.snd.lt; omega
              have gb8 : w8.heap.size ≠ B + 1 := by have := T8.fst.lt; have := T8.snd.lt; omega
              have X8 := (X'.out.keep nx1 K8).alloc (.cells #[.int .i64 c1, .int .i64 d1, .string v1] 53)
              have Y8 := (Y'.out.keep ny1 K8).alloc (.cells #[.int .i64 c1, .int .i64 d1, .string v1] 53)
              obtain ⟨x0, x1, x2⟩ := hide X8
              obtain ⟨y0, y1, y2⟩ := hide Y8
              clear K8 s8 T8
              go_wp2_with fail
              refine (cd2 _ U8).mono ?_
              rintro e w9 ⟨rfl, T9, K9, s9⟩
              have U9 := T9.on ((Below.refl _ w9).alloc (Nat.le_refl _) (.cells #[.int .i64 c2, .int .i64 d2, .string v2] 53))
              have G9 := At3w.new w9 c2 d2 v2 53
              have ga9 : w9.heap.size ≠ B := by have := T9.fst.lt; have := T9.snd.lt; omega
              have gb9 : w9.heap.size ≠ B + 1 := by have := T9.fst.lt; have := T9.snd.lt; omega
              have X9 := (X8.keep nx1 K9).alloc (.cells #[.int .i64 c2, .int .i64 d2, .string v2] 53)
              have Y9 := (Y8.keep ny1 K9).alloc (.cells #[.int .i64 c2, .int .i64 d2, .string v2] 53)
              have P9 := (G8.keep ga8 K9).alloc (.cells #[.int .i64 c2, .int .i64 d2, .string v2] 53)
              obtain ⟨x0, x1, x2⟩ := hide X9
              obtain ⟨y0, y1, y2⟩ := hide Y9
              obtain ⟨p90, p91, p92⟩ := hide P9
              clear K9 s9 T9
              go_wp2_with fail
              refine (cd3 _ U9.swap).mono ?_
              rintro e w10 ⟨rfl, T10, K10, s10⟩
              have U10 := T10.on ((Below.refl _ w10).alloc (Nat.le_refl _) (.cells #[.int .i64 c2, .int .i64 d2, .string v2] 53))
              have G10 := At3w.new w10 c2 d2 v2 53
              have ga10 : w10.heap.size ≠ B := by have := T10.fst.lt; have := T10.snd.lt; omega
              have gb10 : w10.heap.size ≠ B + 1 := by have := T10.fst.lt; have := T10.snd.lt; omega
              have X10 := (X9.keep nx2 K10).alloc (.cells #[.int .i64 c2, .int .i64 d2, .string v2] 53)
              have Y10 := (Y9.keep ny2 K10).alloc (.cells #[.int .i64 c2, .int .i64 d2, .string v2] 53)
              have P10 := (P9.keep gb8 K10).alloc (.cells #[.int .i64 c2, .int .i64 d2, .string v2] 53)
              have Q10 := (G9.keep gb9 K10).alloc (.cells #[.int .i64 c2, .int .i64 d2, .string v2] 53)
              obtain ⟨x0, x1, x2⟩ := hide X10
              obtain ⟨y0, y1, y2⟩ := hide Y10
              obtain ⟨p100, p101, p102⟩ := hide P10
              obtain ⟨q100, q101, q102⟩ := hide Q10
              clear K10 s10 T10
              go_wp2_with fail
              refine (cd4 _ U10).mono ?_
              rintro e w11 ⟨rfl, T11, K11, s11⟩
              have U11 := T11.on ((Below.refl _ w11).alloc (Nat.le_refl _) (.cells #[.int .i64 c1, .int .i64 d1, .string v1] 53))
              have G11 := At3w.new w11 c1 d1 v1 53
              have ga11 : w11.heap.size ≠ B := by have := T11.fst.lt; have := T11.snd.lt; omega
              have gb11 : w11.heap.size ≠ B + 1 := by have := T11.fst.lt; have := T11.snd.lt; omega
              have X11 := (X10.keep nx2 K11).alloc (.cells #[.int .i64 c1, .int .i64 d1, .string v1] 53)
              have P11 := (P10.keep gb8 K11).alloc (.cells #[.int .i64 c1, .int .i64 d1, .string v1] 53)
              have Q11 := (Q10.keep gb9 K11).alloc (.cells #[.int .i64 c1, .int .i64 d1, .string v1] 53)
              have S11 := (G10.keep gb10 K11).alloc (.cells #[.int .i64 c1, .int .i64 d1, .string v1] 53)
              obtain ⟨x0, x1, x2⟩ := hide X11
              obtain ⟨p110, p111, p112⟩ := hide P11
              obtain ⟨q110, q111, q112⟩ := hide Q11
              obtain ⟨s110, s111, s112⟩ := hide S11
              clear K11 s11 T11
              obtain ⟨h0, h1, h2⟩ := hide G11
              go_wp2_with fail
              refine (cells_b _ _ _ LF _ U11.snd).mono ?_
              rintro e w12 ⟨v12, rfl, o12, b12⟩
              have T12 := U11.on b12
              obtain ⟨a12, q12, hsl12, _⟩ := o12.sl
              have hv12 := hsl12.form
              subst hv12
              go_wp2_with fail
              refine (cells_b _ _ _ LF _ T12.fst).mono ?_
              rintro e w13 ⟨v13, rfl, o13, b13⟩
              have T13 := T12.on b13
              obtain ⟨a13, q13, hsl13, _⟩ := o13.sl
              have hv13 := hsl13.form
              subst hv13
              go_wp2_with fail
              refine (same_own LF _ _ _ _ _ (hsl12.later b13) hsl13).mono ?_
              rintro e w14 ⟨rfl, b14⟩
              have T14 := T13.on b14
              go_wp2
              go_ret
              exact ⟨rfl, fin _ T14.bel⟩
          · have f3 : (yk != 1) = true := by simp; omega
            have f4 : (yk != 3) = true := by simp; omega
            rcases kx with rfl | rfl
            · go_wp2
              go_ret
              exact ⟨rfl, fin _ T7.bel⟩
            · go_wp2
              go_ret
              exact ⟨rfl, fin _ T7.bel⟩
        · have f1 : (xk != 1) = true := by simp; omega
          have f2 : (xk != 3) = true := by simp; omega
          go_wp2
          go_ret
          exact ⟨rfl, fin _ T7.bel⟩

theorem apart_came (a : Option Addr) (len cap : Nat) (x y : Opn) (W : World) (h : CameO W a len cap) (fx : x.fits) (fy : y.fits) :
    Calls Try.prog 10 #[.slice a len cap, x.val, y.val] W fun e w' => e = .returned (.bool true) ∧ Below W.heap.size W w' := by
  obtain ⟨P, rfl, hP, hf, hl, _, _⟩ := h
  exact apart_walk P a cap x y W hP hf hl fx fy

end Go.Proofs.Ytacalgpdhgpmbaa
