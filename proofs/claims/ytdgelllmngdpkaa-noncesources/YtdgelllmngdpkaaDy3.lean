import Derived.Test.YtdgelllmngdpkaaDx
import Derived.Test.YtdgelllmngdpkaaEq
namespace Go.Proofs.Ytdgelllmngdpkaa
open Go.RowKit
set_option linter.unusedVariables false
set_option linter.unusedSimpArgs false

set_option maxRecDepth 100000 in
set_option maxHeartbeats 2000000 in
theorem does3t (b t c p q m s d x y z B : Nat) (L : List (Int × Int)) (al : Option Addr) (cl : Nat) (R rp : Int) (np : Nat) (rq : Int) (nq : Nat) (S : Int) (k : Nat) (vx vy : Value) (ax : Option Addr) (cs : Nat) (N : Int) (hN : 0 ≤ N ∧ N ≤ 18446744073709551615) (w : World) (h : SS w b t c p q m s d x y z B L al cl R rp np rq nq S k vx vy ax cs) :
    Calls Try.prog 10 #[.pointer (some ⟨t, 0, none⟩), .agg #[.int .i64 3, .bool true, .int .u64 N]] w fun e w' => e = .returned (.bool true) ∧ Left w b t c p q m s d x y z B L al cl w' := by
  obtain ⟨o1, o2, o3, o4, o5, o6, o7, o8, o9, o10, o11⟩ := h.o
  have hBw := h.hB
  have ht := h.lt
  have HS := hide h
  obtain ⟨W, hW⟩ : ∃ W, ((w.alloc (.cells #[.int .i64 3, .bool true, .int .u64 N] 53)).alloc (.cells #[.int .u64 0, .int .u64 0] 44)).alloc (.cells #[.int .u64 0, .int .u64 0] 44) = W := ⟨_, rfl⟩
  have bW : Below w.heap.size w W := by rw [← hW]; exact (((Below.refl _ w).alloc (Nat.le_refl _) _).alloc (by simp) _).alloc (by simp; omega) _
  have zW : W.heap.size = w.heap.size + 3 := by rw [← hW]; simp
  have xx : ∀ i u, (w.alloc (.cells #[.int .i64 3, .bool true, .int .u64 N] 53)).cell? ⟨w.heap.size, i, none⟩ = some u → W.cell? ⟨w.heap.size, i, none⟩ = some u := fun i u hu => by
    rw [← hW]
    exact (World.cell?_alloc_past _ _ _ (by simp; omega)).trans ((World.cell?_alloc_past _ _ _ (by simp)).trans hu)
  have x0 := xx 0 (.int .i64 3) (by simp)
  have x1 := xx 1 (.bool true) (by simp)
  have ya : W.cell? ⟨w.heap.size + 1, 0, none⟩ = some (.int .u64 0) ∧ W.cell? ⟨w.heap.size + 1, 1, none⟩ = some (.int .u64 0) ∧ W.frozen? ⟨w.heap.size + 1, 0, none⟩ = false ∧ W.frozen? ⟨w.heap.size + 1, 1, none⟩ = false ∧ W.cell? ⟨w.heap.size + 1 + 1, 0, none⟩ = some (.int .u64 0) ∧ W.cell? ⟨w.heap.size + 1 + 1, 1, none⟩ = some (.int .u64 0) ∧ W.frozen? ⟨w.heap.size + 1 + 1, 0, none⟩ = false ∧ W.frozen? ⟨w.heap.size + 1 + 1, 1, none⟩ = false := by
    have := box2 (w.alloc (.cells #[.int .i64 3, .bool true, .int .u64 N] 53)) 44
    rw [World.size_alloc, hW] at this
    exact this
  have SW := hide (h.bel bW)
  have BW := hide bW
  have YA := hide ya
  have q0 := fun (h l : Int) (w : World) => eql_draw h l h l w
  simp only [beq_self_eq_true, Bool.and_self] at q0
  have t1 := SW.out.t1
  clear h bW xx ya
  go_enter Try.func10, Try.ntmps10
  go_wp2_with fail
  refine (pdraw_any p c R rp (np : Int) W SW.out.P SW.out.C).mono ?_
  rintro e w1 ⟨rfl, r1, u1⟩
  have R1 := hide r1
  have U1 := hide u1
  have hp : ∀ i, i < W.heap.size → i ≠ p → ∀ j, w1.cell? ⟨i, j, none⟩ = W.cell? ⟨i, j, none⟩ ∧ w1.frozen? ⟨i, j, none⟩ = W.frozen? ⟨i, j, none⟩ := fun i hi hn j => ⟨u1.cell (p := ⟨i, j, none⟩) hi hn, u1.frozen (p := ⟨i, j, none⟩) hi hn⟩
  obtain ⟨a0, a1, g0, g1, b0, b1, h0, h1⟩ := YA.out
  have a0 := ((hp (w.heap.size + 1) (by omega) (by omega) 0).1).trans a0
  have a1 := ((hp (w.heap.size + 1) (by omega) (by omega) 1).1).trans a1
  have g0 := ((hp (w.heap.size + 1) (by omega) (by omega) 0).2).trans g0
  have g1 := ((hp (w.heap.size + 1) (by omega) (by omega) 1).2).trans g1
  have b0 := ((hp (w.heap.size + 1 + 1) (by omega) (by omega) 0).1).trans b0
  have b1 := ((hp (w.heap.size + 1 + 1) (by omega) (by omega) 1).1).trans b1
  have h0 := ((hp (w.heap.size + 1 + 1) (by omega) (by omega) 0).2).trans h0
  have h1 := ((hp (w.heap.size + 1 + 1) (by omega) (by omega) 1).2).trans h1
  have t6 := ((hp t (by omega) (by omega) 6).1).trans SW.out.t6
  have n1 : t ≠ w.heap.size + 1 := by omega
  have n2 : t ≠ w.heap.size + 1 + 1 := by omega
  have z1 := u1.size
  clear hp u1 r1 hW x0 x1 t1
  obtain ⟨w2, hw2⟩ : ∃ w2, ((w1.setCell ⟨w.heap.size + 1, 0, none⟩ (.int .u64 (dH R rp np))).setCell ⟨w.heap.size + 1, 1, none⟩ (.int .u64 (dL R rp np))) = w2 := ⟨_, rfl⟩
  have uS : Upd (· = w.heap.size + 1) w1 w2 := by rw [← hw2]; exact set2u _ _ _ _
  have UA : Upd (fun i => i = p ∨ i = w.heap.size + 1) W w2 := (U1.out.mono (fun i _ e => .inl e)).trans (uS.mono (fun i _ e => .inr e))
  have z2 := UA.size
  have y0 : w2.cell? ⟨w.heap.size + 1, 0, none⟩ = some (.int .u64 (dH R rp np)) := by rw [← hw2]; exact setc_ne' (setc_eq' a0) (by omega)
  have y1 : w2.cell? ⟨w.heap.size + 1, 1, none⟩ = some (.int .u64 (dL R rp np)) := by rw [← hw2]; exact setc_eq' (setc_ne' a1 (by omega))
  have kk : ∀ j, w2.cell? ⟨w.heap.size + 1 + 1, j, none⟩ = w1.cell? ⟨w.heap.size + 1 + 1, j, none⟩ ∧ w2.frozen? ⟨w.heap.size + 1 + 1, j, none⟩ = w1.frozen? ⟨w.heap.size + 1 + 1, j, none⟩ := fun j => by
    exact ⟨uS.cell (p := ⟨w.heap.size + 1 + 1, j, none⟩) (by show w.heap.size + 1 + 1 < _; omega) (by show ¬ (w.heap.size + 1 + 1 = w.heap.size + 1); omega), uS.frozen (p := ⟨w.heap.size + 1 + 1, j, none⟩) (by show w.heap.size + 1 + 1 < _; omega) (by show ¬ (w.heap.size + 1 + 1 = w.heap.size + 1); omega)⟩
  have t6 := (uS.cell (p := ⟨t, 6, none⟩) (by show t < _; omega) (by show ¬ (t = w.heap.size + 1); omega)).trans t6
  have b0 := (kk 0).1.trans b0
  have b1 := (kk 1).1.trans b1
  have h0 := (kk 0).2.trans h0
  have h1 := (kk 1).2.trans h1
  have R2 := hide (R1.out.upd uS (by show ¬ (p = _); omega))
  have UAh := hide UA
  have c2 := hide (rdraw_any B x d R rp np vx w2 (SW.out.X.upd2 UAh.out (by omega) (fun k hk => by have := (HS.out.X.own.lo k hk); omega)) (SW.out.D.upd UAh.out (by omega)) (by omega))
  clear UA kk R1 U1 uS
  go_wp2_with fail
  clear hw2 a0 a1 g0 g1 t6
  refine c2.out.mono ?_
  rintro e w3 ⟨rfl, v3, r3, nv, u3⟩
  have U3 := hide u3
  have R3 := hide r3
  have NV := hide nv
  have hx : ∀ i, i < w2.heap.size → (i = w.heap.size + 1 ∨ i = w.heap.size + 1 + 1) → ∀ j, w3.cell? ⟨i, j, none⟩ = w2.cell? ⟨i, j, none⟩ ∧ w3.frozen? ⟨i, j, none⟩ = w2.frozen? ⟨i, j, none⟩ := fun i hi hn j => by
    have hS : ¬ (i = x ∨ vx.ownBlock = some i) := fun h => h.elim (fun e => by omega) (fun e => by have := (HS.out.X.own.lo i e).2; omega)
    exact ⟨u3.cell (p := ⟨i, j, none⟩) hi hS, u3.frozen (p := ⟨i, j, none⟩) hi hS⟩
  have y0 := (hx (w.heap.size + 1) (by omega) (.inl rfl) 0).1.trans y0
  have y1 := (hx (w.heap.size + 1) (by omega) (.inl rfl) 1).1.trans y1
  have b0 := (hx (w.heap.size + 1 + 1) (by omega) (.inr rfl) 0).1.trans b0
  have b1 := (hx (w.heap.size + 1 + 1) (by omega) (.inr rfl) 1).1.trans b1
  have h0 := (hx (w.heap.size + 1 + 1) (by omega) (.inr rfl) 0).2.trans h0
  have h1 := (hx (w.heap.size + 1 + 1) (by omega) (.inr rfl) 1).2.trans h1
  have n12 : w.heap.size + 1 ≠ w.heap.size + 1 + 1 := by omega
  have n21 : w.heap.size + 1 + 1 ≠ w.heap.size + 1 := by omega
  have z3 := u3.size
  clear hx u3 r3 nv
  go_wp2
  go_ret
  refine ⟨rfl, ?_⟩
  generalize hw4 : (w3.setCell ⟨w.heap.size + 1 + 1, 0, none⟩ (.int .u64 (dH R rp np))).setCell ⟨w.heap.size + 1 + 1, 1, none⟩ (.int .u64 (dL R rp np)) = w4
  have u4 : Upd (· = w.heap.size + 1 + 1) w3 w4 := by rw [← hw4]; exact set2u _ _ _ _
  have UU : Upd (fun i => i = p ∨ i = x ∨ vx.ownBlock = some i ∨ i = w.heap.size + 1 ∨ i = w.heap.size + 1 + 1) W w4 := ((UAh.out.mono (fun i _ e => e.elim .inl (fun e => .inr (.inr (.inr (.inl e)))))).trans (U3.out.mono (fun i _ e => e.elim (fun e => .inr (.inl e)) (fun e => .inr (.inr (.inl e)))))).trans (u4.mono (fun i _ e => .inr (.inr (.inr (.inr e)))))
  have nT : ∀ i, i < B → i ≠ p → i ≠ x → ¬ (i = p ∨ i = x ∨ vx.ownBlock = some i ∨ i = w.heap.size + 1 ∨ i = w.heap.size + 1 + 1) := fun i hi h1 h2 hT => by
    rcases hT with hT | hT | hT | hT | hT
    · exact h1 hT
    · exact h2 hT
    · have := (HS.out.X.own.lo i hT).1; omega
    · omega
    · omega
  have hv3 : ∀ g, v3.ownBlock = some g → B ≤ g ∧ (g < w.heap.size ∨ w2.heap.size ≤ g) := fun g hg => by
    refine ⟨(R3.out.own.lo g hg).1, ?_⟩
    rcases NV.out with e | ⟨k', e, hk'⟩
    · rw [e] at hg; exact .inl (HS.out.X.own.lo g hg).2
    · rw [e] at hg; cases hg; exact .inr hk'
  have PP : Prs w4 p c (dR R rp np) (((dM R rp np).toNat : Nat) : Int) := by
    rw [Int.toNat_of_nonneg R2.out.m0]
    exact (R2.out.upd U3.out (fun h => h.elim (fun e => by omega) (fun e => by have := (HS.out.X.own.lo _ e).1; omega))).upd u4 (by show ¬ (p = _); omega)
  have XX : RPrs B w4 x d (dR R rp np) (dM R rp np).toNat v3 := R3.out.upd2 u4 (by show ¬ (x = _); omega) (fun g hg e => by have := hv3 g hg; have e : g = w.heap.size + 1 + 1 := e; omega)
  have YY : RPrs B w4 y d rq nq vy := SW.out.Y.upd2 UU (nT y (by omega) (by omega) (by omega)) (fun g hg hT => by
    have hl := HS.out.Y.own.lo g hg
    rcases hT with hT | hT | hT | hT | hT
    · omega
    · omega
    · exact HS.out.ne g hT hg
    · omega
    · omega)
  have NE : ∀ g, v3.ownBlock = some g → vy.ownBlock ≠ some g := fun g hg he => by
    have h1 := HS.out.Y.own.lo g he
    rcases NV.out with e | ⟨k', e, hk'⟩
    · rw [e] at hg; exact HS.out.ne g hg he
    · rw [e] at hg; cases hg; omega
  refine ⟨_, _, _, _, _, _, _, _, _, _, _, SW.out.next UU (nT t (by omega) (by omega) (by omega)) (fun i hi => nT i (by omega) (by omega) (by omega)) (SW.out.C.upd UU (nT c (by omega) (by omega) (by omega))) PP (SW.out.Q.upd UU (nT q (by omega) (by omega) (by omega))) (SW.out.M.upd UU (nT m (by omega) (by omega) (by omega))) (SW.out.A.upd UU (nT s (by omega) (by omega) (by omega)) (fun x' hx => by have := SW.out.ab x' hx; exact nT _ (by omega) (by omega) (by omega))) SW.out.ab (SW.out.D.upd UU (nT d (by omega) (by omega) (by omega))) XX YY (SW.out.Z.upd UU (nT z (by omega) (by omega) (by omega))) NE, ?_⟩
  exact (BW.out.mono (by omega)).trans (UU.below (by omega) (fun i hi => by
    rcases hi with hi | hi | hi | hi | hi
    · omega
    · omega
    · have := (HS.out.X.own.lo i hi).1; omega
    · omega
    · omega))
set_option maxRecDepth 100000 in
set_option maxHeartbeats 2000000 in
theorem does3f (b t c p q m s d x y z B : Nat) (L : List (Int × Int)) (al : Option Addr) (cl : Nat) (R rp : Int) (np : Nat) (rq : Int) (nq : Nat) (S : Int) (k : Nat) (vx vy : Value) (ax : Option Addr) (cs : Nat) (N : Int) (hN : 0 ≤ N ∧ N ≤ 18446744073709551615) (w : World) (h : SS w b t c p q m s d x y z B L al cl R rp np rq nq S k vx vy ax cs) :
    Calls Try.prog 10 #[.pointer (some ⟨t, 0, none⟩), .agg #[.int .i64 3, .bool false, .int .u64 N]] w fun e w' => e = .returned (.bool true) ∧ Left w b t c p q m s d x y z B L al cl w' := by
  obtain ⟨o1, o2, o3, o4, o5, o6, o7, o8, o9, o10, o11⟩ := h.o
  have hBw := h.hB
  have ht := h.lt
  have HS := hide h
  obtain ⟨W, hW⟩ : ∃ W, ((w.alloc (.cells #[.int .i64 3, .bool false, .int .u64 N] 53)).alloc (.cells #[.int .u64 0, .int .u64 0] 44)).alloc (.cells #[.int .u64 0, .int .u64 0] 44) = W := ⟨_, rfl⟩
  have bW : Below w.heap.size w W := by rw [← hW]; exact (((Below.refl _ w).alloc (Nat.le_refl _) _).alloc (by simp) _).alloc (by simp; omega) _
  have zW : W.heap.size = w.heap.size + 3 := by rw [← hW]; simp
  have xx : ∀ i u, (w.alloc (.cells #[.int .i64 3, .bool false, .int .u64 N] 53)).cell? ⟨w.heap.size, i, none⟩ = some u → W.cell? ⟨w.heap.size, i, none⟩ = some u := fun i u hu => by
    rw [← hW]
    exact (World.cell?_alloc_past _ _ _ (by simp; omega)).trans ((World.cell?_alloc_past _ _ _ (by simp)).trans hu)
  have x0 := xx 0 (.int .i64 3) (by simp)
  have x1 := xx 1 (.bool false) (by simp)
  have ya : W.cell? ⟨w.heap.size + 1, 0, none⟩ = some (.int .u64 0) ∧ W.cell? ⟨w.heap.size + 1, 1, none⟩ = some (.int .u64 0) ∧ W.frozen? ⟨w.heap.size + 1, 0, none⟩ = false ∧ W.frozen? ⟨w.heap.size + 1, 1, none⟩ = false ∧ W.cell? ⟨w.heap.size + 1 + 1, 0, none⟩ = some (.int .u64 0) ∧ W.cell? ⟨w.heap.size + 1 + 1, 1, none⟩ = some (.int .u64 0) ∧ W.frozen? ⟨w.heap.size + 1 + 1, 0, none⟩ = false ∧ W.frozen? ⟨w.heap.size + 1 + 1, 1, none⟩ = false := by
    have := box2 (w.alloc (.cells #[.int .i64 3, .bool false, .int .u64 N] 53)) 44
    rw [World.size_alloc, hW] at this
    exact this
  have SW := hide (h.bel bW)
  have BW := hide bW
  have YA := hide ya
  have q0 := fun (h l : Int) (w : World) => eql_draw h l h l w
  simp only [beq_self_eq_true, Bool.and_self] at q0
  have t2 := SW.out.t2
  clear h bW xx ya
  go_enter Try.func10, Try.ntmps10
  go_wp2_with fail
  refine (pdraw_any q c R rq (nq : Int) W SW.out.Q SW.out.C).mono ?_
  rintro e w1 ⟨rfl, r1, u1⟩
  have R1 := hide r1
  have U1 := hide u1
  have hp : ∀ i, i < W.heap.size → i ≠ q → ∀ j, w1.cell? ⟨i, j, none⟩ = W.cell? ⟨i, j, none⟩ ∧ w1.frozen? ⟨i, j, none⟩ = W.frozen? ⟨i, j, none⟩ := fun i hi hn j => ⟨u1.cell (p := ⟨i, j, none⟩) hi hn, u1.frozen (p := ⟨i, j, none⟩) hi hn⟩
  obtain ⟨a0, a1, g0, g1, b0, b1, h0, h1⟩ := YA.out
  have a0 := ((hp (w.heap.size + 1) (by omega) (by omega) 0).1).trans a0
  have a1 := ((hp (w.heap.size + 1) (by omega) (by omega) 1).1).trans a1
  have g0 := ((hp (w.heap.size + 1) (by omega) (by omega) 0).2).trans g0
  have g1 := ((hp (w.heap.size + 1) (by omega) (by omega) 1).2).trans g1
  have b0 := ((hp (w.heap.size + 1 + 1) (by omega) (by omega) 0).1).trans b0
  have b1 := ((hp (w.heap.size + 1 + 1) (by omega) (by omega) 1).1).trans b1
  have h0 := ((hp (w.heap.size + 1 + 1) (by omega) (by omega) 0).2).trans h0
  have h1 := ((hp (w.heap.size + 1 + 1) (by omega) (by omega) 1).2).trans h1
  have t7 := ((hp t (by omega) (by omega) 7).1).trans SW.out.t7
  have n1 : t ≠ w.heap.size + 1 := by omega
  have n2 : t ≠ w.heap.size + 1 + 1 := by omega
  have z1 := u1.size
  clear hp u1 r1 hW x0 x1 t2
  obtain ⟨w2, hw2⟩ : ∃ w2, ((w1.setCell ⟨w.heap.size + 1, 0, none⟩ (.int .u64 (dH R rq nq))).setCell ⟨w.heap.size + 1, 1, none⟩ (.int .u64 (dL R rq nq))) = w2 := ⟨_, rfl⟩
  have uS : Upd (· = w.heap.size + 1) w1 w2 := by rw [← hw2]; exact set2u _ _ _ _
  have UA : Upd (fun i => i = q ∨ i = w.heap.size + 1) W w2 := (U1.out.mono (fun i _ e => .inl e)).trans (uS.mono (fun i _ e => .inr e))
  have z2 := UA.size
  have y0 : w2.cell? ⟨w.heap.size + 1, 0, none⟩ = some (.int .u64 (dH R rq nq)) := by rw [← hw2]; exact setc_ne' (setc_eq' a0) (by omega)
  have y1 : w2.cell? ⟨w.heap.size + 1, 1, none⟩ = some (.int .u64 (dL R rq nq)) := by rw [← hw2]; exact setc_eq' (setc_ne' a1 (by omega))
  have kk : ∀ j, w2.cell? ⟨w.heap.size + 1 + 1, j, none⟩ = w1.cell? ⟨w.heap.size + 1 + 1, j, none⟩ ∧ w2.frozen? ⟨w.heap.size + 1 + 1, j, none⟩ = w1.frozen? ⟨w.heap.size + 1 + 1, j, none⟩ := fun j => by
    exact ⟨uS.cell (p := ⟨w.heap.size + 1 + 1, j, none⟩) (by show w.heap.size + 1 + 1 < _; omega) (by show ¬ (w.heap.size + 1 + 1 = w.heap.size + 1); omega), uS.frozen (p := ⟨w.heap.size + 1 + 1, j, none⟩) (by show w.heap.size + 1 + 1 < _; omega) (by show ¬ (w.heap.size + 1 + 1 = w.heap.size + 1); omega)⟩
  have t7 := (uS.cell (p := ⟨t, 7, none⟩) (by show t < _; omega) (by show ¬ (t = w.heap.size + 1); omega)).trans t7
  have b0 := (kk 0).1.trans b0
  have b1 := (kk 1).1.trans b1
  have h0 := (kk 0).2.trans h0
  have h1 := (kk 1).2.trans h1
  have R2 := hide (R1.out.upd uS (by show ¬ (q = _); omega))
  have UAh := hide UA
  have c2 := hide (rdraw_any B y d R rq nq vy w2 (SW.out.Y.upd2 UAh.out (by omega) (fun k hk => by have := (HS.out.Y.own.lo k hk); omega)) (SW.out.D.upd UAh.out (by omega)) (by omega))
  clear UA kk R1 U1 uS
  go_wp2_with fail
  clear hw2 a0 a1 g0 g1 t7
  refine c2.out.mono ?_
  rintro e w3 ⟨rfl, v3, r3, nv, u3⟩
  have U3 := hide u3
  have R3 := hide r3
  have NV := hide nv
  have hx : ∀ i, i < w2.heap.size → (i = w.heap.size + 1 ∨ i = w.heap.size + 1 + 1) → ∀ j, w3.cell? ⟨i, j, none⟩ = w2.cell? ⟨i, j, none⟩ ∧ w3.frozen? ⟨i, j, none⟩ = w2.frozen? ⟨i, j, none⟩ := fun i hi hn j => by
    have hS : ¬ (i = y ∨ vy.ownBlock = some i) := fun h => h.elim (fun e => by omega) (fun e => by have := (HS.out.Y.own.lo i e).2; omega)
    exact ⟨u3.cell (p := ⟨i, j, none⟩) hi hS, u3.frozen (p := ⟨i, j, none⟩) hi hS⟩
  have y0 := (hx (w.heap.size + 1) (by omega) (.inl rfl) 0).1.trans y0
  have y1 := (hx (w.heap.size + 1) (by omega) (.inl rfl) 1).1.trans y1
  have b0 := (hx (w.heap.size + 1 + 1) (by omega) (.inr rfl) 0).1.trans b0
  have b1 := (hx (w.heap.size + 1 + 1) (by omega) (.inr rfl) 1).1.trans b1
  have h0 := (hx (w.heap.size + 1 + 1) (by omega) (.inr rfl) 0).2.trans h0
  have h1 := (hx (w.heap.size + 1 + 1) (by omega) (.inr rfl) 1).2.trans h1
  have n12 : w.heap.size + 1 ≠ w.heap.size + 1 + 1 := by omega
  have n21 : w.heap.size + 1 + 1 ≠ w.heap.size + 1 := by omega
  have z3 := u3.size
  clear hx u3 r3 nv
  go_wp2
  go_ret
  refine ⟨rfl, ?_⟩
  generalize hw4 : (w3.setCell ⟨w.heap.size + 1 + 1, 0, none⟩ (.int .u64 (dH R rq nq))).setCell ⟨w.heap.size + 1 + 1, 1, none⟩ (.int .u64 (dL R rq nq)) = w4
  have u4 : Upd (· = w.heap.size + 1 + 1) w3 w4 := by rw [← hw4]; exact set2u _ _ _ _
  have UU : Upd (fun i => i = q ∨ i = y ∨ vy.ownBlock = some i ∨ i = w.heap.size + 1 ∨ i = w.heap.size + 1 + 1) W w4 := ((UAh.out.mono (fun i _ e => e.elim .inl (fun e => .inr (.inr (.inr (.inl e)))))).trans (U3.out.mono (fun i _ e => e.elim (fun e => .inr (.inl e)) (fun e => .inr (.inr (.inl e)))))).trans (u4.mono (fun i _ e => .inr (.inr (.inr (.inr e)))))
  have nT : ∀ i, i < B → i ≠ q → i ≠ y → ¬ (i = q ∨ i = y ∨ vy.ownBlock = some i ∨ i = w.heap.size + 1 ∨ i = w.heap.size + 1 + 1) := fun i hi h1 h2 hT => by
    rcases hT with hT | hT | hT | hT | hT
    · exact h1 hT
    · exact h2 hT
    · have := (HS.out.Y.own.lo i hT).1; omega
    · omega
    · omega
  have hv3 : ∀ g, v3.ownBlock = some g → B ≤ g ∧ (g < w.heap.size ∨ w2.heap.size ≤ g) := fun g hg => by
    refine ⟨(R3.out.own.lo g hg).1, ?_⟩
    rcases NV.out with e | ⟨k', e, hk'⟩
    · rw [e] at hg; exact .inl (HS.out.Y.own.lo g hg).2
    · rw [e] at hg; cases hg; exact .inr hk'
  have PP : Prs w4 q c (dR R rq nq) (((dM R rq nq).toNat : Nat) : Int) := by
    rw [Int.toNat_of_nonneg R2.out.m0]
    exact (R2.out.upd U3.out (fun h => h.elim (fun e => by omega) (fun e => by have := (HS.out.Y.own.lo _ e).1; omega))).upd u4 (by show ¬ (q = _); omega)
  have XX : RPrs B w4 y d (dR R rq nq) (dM R rq nq).toNat v3 := R3.out.upd2 u4 (by show ¬ (y = _); omega) (fun g hg e => by have := hv3 g hg; have e : g = w.heap.size + 1 + 1 := e; omega)
  have YY : RPrs B w4 x d rp np vx := SW.out.X.upd2 UU (nT x (by omega) (by omega) (by omega)) (fun g hg hT => by
    have hl := HS.out.X.own.lo g hg
    rcases hT with hT | hT | hT | hT | hT
    · omega
    · omega
    · exact HS.out.ne g hg hT
    · omega
    · omega)
  have NE : ∀ g, vx.ownBlock = some g → v3.ownBlock ≠ some g := fun g hg he => by
    have h1 := HS.out.X.own.lo g hg
    rcases NV.out with e | ⟨k', e, hk'⟩
    · rw [e] at he; exact HS.out.ne g hg he
    · rw [e] at he; cases he; omega
  refine ⟨_, _, _, _, _, _, _, _, _, _, _, SW.out.next UU (nT t (by omega) (by omega) (by omega)) (fun i hi => nT i (by omega) (by omega) (by omega)) (SW.out.C.upd UU (nT c (by omega) (by omega) (by omega))) (SW.out.P.upd UU (nT p (by omega) (by omega) (by omega))) PP (SW.out.M.upd UU (nT m (by omega) (by omega) (by omega))) (SW.out.A.upd UU (nT s (by omega) (by omega) (by omega)) (fun x' hx => by have := SW.out.ab x' hx; exact nT _ (by omega) (by omega) (by omega))) SW.out.ab (SW.out.D.upd UU (nT d (by omega) (by omega) (by omega))) YY XX (SW.out.Z.upd UU (nT z (by omega) (by omega) (by omega))) NE, ?_⟩
  exact (BW.out.mono (by omega)).trans (UU.below (by omega) (fun i hi => by
    rcases hi with hi | hi | hi | hi | hi
    · omega
    · omega
    · have := (HS.out.Y.own.lo i hi).1; omega
    · omega
    · omega))

end Go.Proofs.Ytdgelllmngdpkaa
