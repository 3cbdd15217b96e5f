import Derived.Test.YtdgelllmngdpkaaDx
import Derived.Test.YtdgelllmngdpkaaEq
namespace Go.Proofs.Ytdgelllmngdpkaa
open Go.RowKit
set_option linter.unusedVariables false
set_option linter.unusedSimpArgs false

set_option maxRecDepth 100000 in
set_option maxHeartbeats 2000000 in
theorem does4t (b t c p q m s d x y z B : Nat) (L : List (Int × Int)) (al : Option Addr) (cl : Nat) (R rp : Int) (np : Nat) (rq : Int) (nq : Nat) (S : Int) (k : Nat) (vx vy : Value) (ax : Option Addr) (cs : Nat) (N : Int) (hN : 0 ≤ N ∧ N ≤ 18446744073709551615) (w : World) (h : SS w b t c p q m s d x y z B L al cl R rp np rq nq S k vx vy ax cs) :
    Calls Try.prog 10 #[.pointer (some ⟨t, 0, none⟩), .agg #[.int .i64 4, .bool true, .int .u64 N]] w fun e w' => e = .returned (.bool true) ∧ Left w b t c p q m s d x y z B L al cl w' := by
  obtain ⟨o1, o2, o3, o4, o5, o6, o7, o8, o9, o10, o11⟩ := h.o
  have hBw := h.hB
  have ht := h.lt
  have HS := hide h
  obtain ⟨W, hW⟩ : ∃ W, ((w.alloc (.cells #[.int .i64 4, .bool true, .int .u64 N] 53)).alloc (.cells #[.int .u64 0, .int .u64 0] 44)).alloc (.cells #[.int .u64 0, .int .u64 0] 44) = W := ⟨_, rfl⟩
  have bW : Below w.heap.size w W := by rw [← hW]; exact (((Below.refl _ w).alloc (Nat.le_refl _) _).alloc (by simp) _).alloc (by simp; omega) _
  have zW : W.heap.size = w.heap.size + 3 := by rw [← hW]; simp
  have xx : ∀ i u, (w.alloc (.cells #[.int .i64 4, .bool true, .int .u64 N] 53)).cell? ⟨w.heap.size, i, none⟩ = some u → W.cell? ⟨w.heap.size, i, none⟩ = some u := fun i u hu => by
    rw [← hW]
    exact (World.cell?_alloc_past _ _ _ (by simp; omega)).trans ((World.cell?_alloc_past _ _ _ (by simp)).trans hu)
  have x0 := xx 0 (.int .i64 4) (by simp)
  have x1 := xx 1 (.bool true) (by simp)
  have ya : W.cell? ⟨w.heap.size + 1, 0, none⟩ = some (.int .u64 0) ∧ W.cell? ⟨w.heap.size + 1, 1, none⟩ = some (.int .u64 0) ∧ W.frozen? ⟨w.heap.size + 1, 0, none⟩ = false ∧ W.frozen? ⟨w.heap.size + 1, 1, none⟩ = false ∧ W.cell? ⟨w.heap.size + 1 + 1, 0, none⟩ = some (.int .u64 0) ∧ W.cell? ⟨w.heap.size + 1 + 1, 1, none⟩ = some (.int .u64 0) ∧ W.frozen? ⟨w.heap.size + 1 + 1, 0, none⟩ = false ∧ W.frozen? ⟨w.heap.size + 1 + 1, 1, none⟩ = false := by
    have := box2 (w.alloc (.cells #[.int .i64 4, .bool true, .int .u64 N] 53)) 44
    rw [World.size_alloc, hW] at this
    exact this
  have SW := hide (h.bel bW)
  have BW := hide bW
  have YA := hide ya
  have q0 := fun (h l : Int) (w : World) => eql_draw h l h l w
  simp only [beq_self_eq_true, Bool.and_self] at q0
  have t1 := SW.out.t1
  clear h bW xx ya
  go_enter Try.func10, Try.ntmps10
  go_wp2_with fail
  refine (wipe_any p c rp (np : Int) W SW.out.P).mono ?_
  rintro e w1 ⟨rfl, r1, u1⟩
  have R1 := hide r1
  have U1 := hide u1
  have hp : ∀ i, i < W.heap.size → i ≠ p → ∀ j, w1.cell? ⟨i, j, none⟩ = W.cell? ⟨i, j, none⟩ ∧ w1.frozen? ⟨i, j, none⟩ = W.frozen? ⟨i, j, none⟩ := fun i hi hn j => ⟨u1.cell (p := ⟨i, j, none⟩) hi hn, u1.frozen (p := ⟨i, j, none⟩) hi hn⟩
  obtain ⟨a0, a1, g0, g1, b0, b1, h0, h1⟩ := YA.out
  have a0 := ((hp (w.heap.size + 1) (by omega) (by omega) 0).1).trans a0
  have a1 := ((hp (w.heap.size + 1) (by omega) (by omega) 1).1).trans a1
  have g0 := ((hp (w.heap.size + 1) (by omega) (by omega) 0).2).trans g0
  have g1 := ((hp (w.heap.size + 1) (by omega) (by omega) 1).2).trans g1
  have b0 := ((hp (w.heap.size + 1 + 1) (by omega) (by omega) 0).1).trans b0
  have b1 := ((hp (w.heap.size + 1 + 1) (by omega) (by omega) 1).1).trans b1
  have h0 := ((hp (w.heap.size + 1 + 1) (by omega) (by omega) 0).2).trans h0
  have h1 := ((hp (w.heap.size + 1 + 1) (by omega) (by omega) 1).2).trans h1
  have t6 := ((hp t (by omega) (by omega) 6).1).trans SW.out.t6
  have z1 := u1.size
  have c2 := hide (rwipe_any B x d rp np vx w1 (SW.out.X.upd2 U1.out (by show ¬ (x = _); omega) (fun g hg e => by have := HS.out.X.own.lo g hg; have e : g = p := e; omega)))
  clear hp u1 r1 hW x0 x1 t1 g0 g1 h0 h1
  go_wp2_with fail
  refine c2.out.mono ?_
  rintro e w2 ⟨rfl, r2, u2⟩
  have R2 := hide r2
  have U2 := hide u2
  have hq : ∀ i, i < w1.heap.size → i ≠ x → ∀ j, w2.cell? ⟨i, j, none⟩ = w1.cell? ⟨i, j, none⟩ := fun i hi hn j => u2.cell (p := ⟨i, j, none⟩) hi hn
  have a0 := (hq (w.heap.size + 1) (by omega) (by omega) 0).trans a0
  have a1 := (hq (w.heap.size + 1) (by omega) (by omega) 1).trans a1
  have b0 := (hq (w.heap.size + 1 + 1) (by omega) (by omega) 0).trans b0
  have b1 := (hq (w.heap.size + 1 + 1) (by omega) (by omega) 1).trans b1
  clear hq u2 r2 c2 t6
  go_wp2
  go_ret
  refine ⟨rfl, ?_⟩
  have UU : Upd (fun i => i = p ∨ i = x) W w2 := (U1.out.mono (fun i _ e => .inl e)).trans (U2.out.mono (fun i _ e => .inr e))
  have nT : ∀ i, i ≠ p ∧ i ≠ x → ¬ (i = p ∨ i = x) := fun i hi hT => hT.elim hi.1 hi.2
  have nT2 : ∀ g, B ≤ g ∧ g < w.heap.size → ¬ (g = p ∨ g = x) := fun g hg hT => by omega
  have PP : Prs w2 p c 0 ((0 : Nat) : Int) := R1.out.upd U2.out (by show ¬ (p = _); omega)
  have XX : RPrs B w2 x d 0 0 (.slice none 0 0) := R2.out
  refine ⟨_, _, _, _, _, _, _, _, _, _, _, SW.out.next UU (nT t (by omega)) (fun i hi => nT i (by omega)) (SW.out.C.upd UU (nT c (by omega))) PP (SW.out.Q.upd UU (nT q (by omega))) (SW.out.M.upd UU (nT m (by omega))) (SW.out.A.upd UU (nT s (by omega)) (fun x' hx => by have := SW.out.ab x' hx; exact nT _ (by omega))) SW.out.ab (SW.out.D.upd UU (nT d (by omega))) XX (SW.out.Y.upd2 UU (nT y (by omega)) (fun g hg => nT2 g (HS.out.Y.own.lo g hg))) (SW.out.Z.upd UU (nT z (by omega))) (fun g hg => by cases hg), ?_⟩
  exact (BW.out.mono (by omega)).trans (UU.below (by omega) (fun i hi => by rcases hi with hi | hi <;> omega))
set_option maxRecDepth 100000 in
set_option maxHeartbeats 2000000 in
theorem does4f (b t c p q m s d x y z B : Nat) (L : List (Int × Int)) (al : Option Addr) (cl : Nat) (R rp : Int) (np : Nat) (rq : Int) (nq : Nat) (S : Int) (k : Nat) (vx vy : Value) (ax : Option Addr) (cs : Nat) (N : Int) (hN : 0 ≤ N ∧ N ≤ 18446744073709551615) (w : World) (h : SS w b t c p q m s d x y z B L al cl R rp np rq nq S k vx vy ax cs) :
    Calls Try.prog 10 #[.pointer (some ⟨t, 0, none⟩), .agg #[.int .i64 4, .bool false, .int .u64 N]] w fun e w' => e = .returned (.bool true) ∧ Left w b t c p q m s d x y z B L al cl w' := by
  obtain ⟨o1, o2, o3, o4, o5, o6, o7, o8, o9, o10, o11⟩ := h.o
  have hBw := h.hB
  have ht := h.lt
  have HS := hide h
  obtain ⟨W, hW⟩ : ∃ W, ((w.alloc (.cells #[.int .i64 4, .bool false, .int .u64 N] 53)).alloc (.cells #[.int .u64 0, .int .u64 0] 44)).alloc (.cells #[.int .u64 0, .int .u64 0] 44) = W := ⟨_, rfl⟩
  have bW : Below w.heap.size w W := by rw [← hW]; exact (((Below.refl _ w).alloc (Nat.le_refl _) _).alloc (by simp) _).alloc (by simp; omega) _
  have zW : W.heap.size = w.heap.size + 3 := by rw [← hW]; simp
  have xx : ∀ i u, (w.alloc (.cells #[.int .i64 4, .bool false, .int .u64 N] 53)).cell? ⟨w.heap.size, i, none⟩ = some u → W.cell? ⟨w.heap.size, i, none⟩ = some u := fun i u hu => by
    rw [← hW]
    exact (World.cell?_alloc_past _ _ _ (by simp; omega)).trans ((World.cell?_alloc_past _ _ _ (by simp)).trans hu)
  have x0 := xx 0 (.int .i64 4) (by simp)
  have x1 := xx 1 (.bool false) (by simp)
  have ya : W.cell? ⟨w.heap.size + 1, 0, none⟩ = some (.int .u64 0) ∧ W.cell? ⟨w.heap.size + 1, 1, none⟩ = some (.int .u64 0) ∧ W.frozen? ⟨w.heap.size + 1, 0, none⟩ = false ∧ W.frozen? ⟨w.heap.size + 1, 1, none⟩ = false ∧ W.cell? ⟨w.heap.size + 1 + 1, 0, none⟩ = some (.int .u64 0) ∧ W.cell? ⟨w.heap.size + 1 + 1, 1, none⟩ = some (.int .u64 0) ∧ W.frozen? ⟨w.heap.size + 1 + 1, 0, none⟩ = false ∧ W.frozen? ⟨w.heap.size + 1 + 1, 1, none⟩ = false := by
    have := box2 (w.alloc (.cells #[.int .i64 4, .bool false, .int .u64 N] 53)) 44
    rw [World.size_alloc, hW] at this
    exact this
  have SW := hide (h.bel bW)
  have BW := hide bW
  have YA := hide ya
  have q0 := fun (h l : Int) (w : World) => eql_draw h l h l w
  simp only [beq_self_eq_true, Bool.and_self] at q0
  have t2 := SW.out.t2
  clear h bW xx ya
  go_enter Try.func10, Try.ntmps10
  go_wp2_with fail
  refine (wipe_any q c rq (nq : Int) W SW.out.Q).mono ?_
  rintro e w1 ⟨rfl, r1, u1⟩
  have R1 := hide r1
  have U1 := hide u1
  have hp : ∀ i, i < W.heap.size → i ≠ q → ∀ j, w1.cell? ⟨i, j, none⟩ = W.cell? ⟨i, j, none⟩ ∧ w1.frozen? ⟨i, j, none⟩ = W.frozen? ⟨i, j, none⟩ := fun i hi hn j => ⟨u1.cell (p := ⟨i, j, none⟩) hi hn, u1.frozen (p := ⟨i, j, none⟩) hi hn⟩
  obtain ⟨a0, a1, g0, g1, b0, b1, h0, h1⟩ := YA.out
  have a0 := ((hp (w.heap.size + 1) (by omega) (by omega) 0).1).trans a0
  have a1 := ((hp (w.heap.size + 1) (by omega) (by omega) 1).1).trans a1
  have g0 := ((hp (w.heap.size + 1) (by omega) (by omega) 0).2).trans g0
  have g1 := ((hp (w.heap.size + 1) (by omega) (by omega) 1).2).trans g1
  have b0 := ((hp (w.heap.size + 1 + 1) (by omega) (by omega) 0).1).trans b0
  have b1 := ((hp (w.heap.size + 1 + 1) (by omega) (by omega) 1).1).trans b1
  have h0 := ((hp (w.heap.size + 1 + 1) (by omega) (by omega) 0).2).trans h0
  have h1 := ((hp (w.heap.size + 1 + 1) (by omega) (by omega) 1).2).trans h1
  have t7 := ((hp t (by omega) (by omega) 7).1).trans SW.out.t7
  have z1 := u1.size
  have c2 := hide (rwipe_any B y d rq nq vy w1 (SW.out.Y.upd2 U1.out (by show ¬ (y = _); omega) (fun g hg e => by have := HS.out.Y.own.lo g hg; have e : g = q := e; omega)))
  clear hp u1 r1 hW x0 x1 t2 g0 g1 h0 h1
  go_wp2_with fail
  refine c2.out.mono ?_
  rintro e w2 ⟨rfl, r2, u2⟩
  have R2 := hide r2
  have U2 := hide u2
  have hq : ∀ i, i < w1.heap.size → i ≠ y → ∀ j, w2.cell? ⟨i, j, none⟩ = w1.cell? ⟨i, j, none⟩ := fun i hi hn j => u2.cell (p := ⟨i, j, none⟩) hi hn
  have a0 := (hq (w.heap.size + 1) (by omega) (by omega) 0).trans a0
  have a1 := (hq (w.heap.size + 1) (by omega) (by omega) 1).trans a1
  have b0 := (hq (w.heap.size + 1 + 1) (by omega) (by omega) 0).trans b0
  have b1 := (hq (w.heap.size + 1 + 1) (by omega) (by omega) 1).trans b1
  clear hq u2 r2 c2 t7
  go_wp2
  go_ret
  refine ⟨rfl, ?_⟩
  have UU : Upd (fun i => i = q ∨ i = y) W w2 := (U1.out.mono (fun i _ e => .inl e)).trans (U2.out.mono (fun i _ e => .inr e))
  have nT : ∀ i, i ≠ q ∧ i ≠ y → ¬ (i = q ∨ i = y) := fun i hi hT => hT.elim hi.1 hi.2
  have nT2 : ∀ g, B ≤ g ∧ g < w.heap.size → ¬ (g = q ∨ g = y) := fun g hg hT => by omega
  have PP : Prs w2 q c 0 ((0 : Nat) : Int) := R1.out.upd U2.out (by show ¬ (q = _); omega)
  have XX : RPrs B w2 y d 0 0 (.slice none 0 0) := R2.out
  refine ⟨_, _, _, _, _, _, _, _, _, _, _, SW.out.next UU (nT t (by omega)) (fun i hi => nT i (by omega)) (SW.out.C.upd UU (nT c (by omega))) (SW.out.P.upd UU (nT p (by omega))) PP (SW.out.M.upd UU (nT m (by omega))) (SW.out.A.upd UU (nT s (by omega)) (fun x' hx => by have := SW.out.ab x' hx; exact nT _ (by omega))) SW.out.ab (SW.out.D.upd UU (nT d (by omega))) (SW.out.X.upd2 UU (nT x (by omega)) (fun g hg => nT2 g (HS.out.X.own.lo g hg))) XX (SW.out.Z.upd UU (nT z (by omega))) (fun g hg he => by cases he), ?_⟩
  exact (BW.out.mono (by omega)).trans (UU.below (by omega) (fun i hi => by rcases hi with hi | hi <;> omega))

end Go.Proofs.Ytdgelllmngdpkaa
