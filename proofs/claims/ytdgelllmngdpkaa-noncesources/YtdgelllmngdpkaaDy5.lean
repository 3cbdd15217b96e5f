import Derived.Test.YtdgelllmngdpkaaDx
import Derived.Test.YtdgelllmngdpkaaEq
namespace Go.Proofs.Ytdgelllmngdpkaa
open Go.RowKit
set_option linter.unusedVariables false
set_option linter.unusedSimpArgs false

set_option maxRecDepth 100000 in
set_option maxHeartbeats 2000000 in
theorem does5t (b t c p q m s d x y z B : Nat) (L : List (Int × Int)) (al : Option Addr) (cl : Nat) (R rp : Int) (np : Nat) (rq : Int) (nq : Nat) (S : Int) (k : Nat) (vx vy : Value) (ax : Option Addr) (cs : Nat) (N : Int) (hN : 0 ≤ N ∧ N ≤ 18446744073709551615) (w : World) (h : SS w b t c p q m s d x y z B L al cl R rp np rq nq S k vx vy ax cs) :
    Calls Try.prog 10 #[.pointer (some ⟨t, 0, none⟩), .agg #[.int .i64 5, .bool true, .int .u64 N]] w fun e w' => e = .returned (.bool true) ∧ Left w b t c p q m s d x y z B L al cl w' := by
  obtain ⟨o1, o2, o3, o4, o5, o6, o7, o8, o9, o10, o11⟩ := h.o
  have hBw := h.hB
  have ht := h.lt
  have HS := hide h
  obtain ⟨W, hW⟩ : ∃ W, ((w.alloc (.cells #[.int .i64 5, .bool true, .int .u64 N] 53)).alloc (.cells #[.int .u64 0, .int .u64 0] 44)).alloc (.cells #[.int .u64 0, .int .u64 0] 44) = W := ⟨_, rfl⟩
  have bW : Below w.heap.size w W := by rw [← hW]; exact (((Below.refl _ w).alloc (Nat.le_refl _) _).alloc (by simp) _).alloc (by simp; omega) _
  have zW : W.heap.size = w.heap.size + 3 := by rw [← hW]; simp
  have xx : ∀ i u, (w.alloc (.cells #[.int .i64 5, .bool true, .int .u64 N] 53)).cell? ⟨w.heap.size, i, none⟩ = some u → W.cell? ⟨w.heap.size, i, none⟩ = some u := fun i u hu => by
    rw [← hW]
    exact (World.cell?_alloc_past _ _ _ (by simp; omega)).trans ((World.cell?_alloc_past _ _ _ (by simp)).trans hu)
  have x0 := xx 0 (.int .i64 5) (by simp)
  have x1 := xx 1 (.bool true) (by simp)
  have ya : W.cell? ⟨w.heap.size + 1, 0, none⟩ = some (.int .u64 0) ∧ W.cell? ⟨w.heap.size + 1, 1, none⟩ = some (.int .u64 0) ∧ W.frozen? ⟨w.heap.size + 1, 0, none⟩ = false ∧ W.frozen? ⟨w.heap.size + 1, 1, none⟩ = false ∧ W.cell? ⟨w.heap.size + 1 + 1, 0, none⟩ = some (.int .u64 0) ∧ W.cell? ⟨w.heap.size + 1 + 1, 1, none⟩ = some (.int .u64 0) ∧ W.frozen? ⟨w.heap.size + 1 + 1, 0, none⟩ = false ∧ W.frozen? ⟨w.heap.size + 1 + 1, 1, none⟩ = false := by
    have := box2 (w.alloc (.cells #[.int .i64 5, .bool true, .int .u64 N] 53)) 44
    rw [World.size_alloc, hW] at this
    exact this
  have SW := hide (h.bel bW)
  have BW := hide bW
  have YA := hide ya
  have q0 := fun (h l : Int) (w : World) => eql_draw h l h l w
  simp only [beq_self_eq_true, Bool.and_self] at q0
  have t3 := SW.out.t3
  obtain ⟨hh, hl, S2, C1, C2⟩ : ∃ hh hl S2 : Int, Hid (Calls Try.prog 21 #[.pointer (some ⟨m, 0, none⟩)] W fun e w' => e = .returned (.tuple #[.agg #[.int .u64 hh, .int .u64 hl], .int .i64 0]) ∧ Mix w' m S2 ∧ Upd (· = m) W w') ∧ Hid (∀ v, Mix v z S → Calls Try.prog 22 #[.pointer (some ⟨z, 0, none⟩)] v fun e w' => e = .returned (.tuple #[.agg #[.int .u64 hh, .int .u64 hl], .int .i64 0]) ∧ Mix w' z S2 ∧ Upd (· = z) v w') := ⟨_, _, _, mdraw_any m S W SW.out.M, fun v hv => rmdraw_any z S v hv⟩
  clear h bW xx ya
  go_enter Try.func10, Try.ntmps10
  go_wp2_with fail
  refine (C1.out ).mono ?_
  rintro e w1 ⟨rfl, r1, u1⟩
  have R1 := hide r1
  have U1 := hide u1
  have hp : ∀ i, i < W.heap.size → i ≠ m → ∀ j, w1.cell? ⟨i, j, none⟩ = W.cell? ⟨i, j, none⟩ ∧ w1.frozen? ⟨i, j, none⟩ = W.frozen? ⟨i, j, none⟩ := fun i hi hn j => ⟨u1.cell (p := ⟨i, j, none⟩) hi hn, u1.frozen (p := ⟨i, j, none⟩) hi hn⟩
  obtain ⟨a0, a1, g0, g1, b0, b1, h0, h1⟩ := YA.out
  have a0 := ((hp (w.heap.size + 1) (by omega) (by omega) 0).1).trans a0
  have a1 := ((hp (w.heap.size + 1) (by omega) (by omega) 1).1).trans a1
  have g0 := ((hp (w.heap.size + 1) (by omega) (by omega) 0).2).trans g0
  have g1 := ((hp (w.heap.size + 1) (by omega) (by omega) 1).2).trans g1
  have b0 := ((hp (w.heap.size + 1 + 1) (by omega) (by omega) 0).1).trans b0
  have b1 := ((hp (w.heap.size + 1 + 1) (by omega) (by omega) 1).1).trans b1
  have h0 := ((hp (w.heap.size + 1 + 1) (by omega) (by omega) 0).2).trans h0
  have h1 := ((hp (w.heap.size + 1 + 1) (by omega) (by omega) 1).2).trans h1
  have t8 := ((hp t (by omega) (by omega) 8).1).trans SW.out.t8
  have n1 : t ≠ w.heap.size + 1 := by omega
  have n2 : t ≠ w.heap.size + 1 + 1 := by omega
  have z1 := u1.size
  clear hp u1 r1 hW x0 x1 t3
  obtain ⟨w2, hw2⟩ : ∃ w2, ((w1.setCell ⟨w.heap.size + 1, 0, none⟩ (.int .u64 (hh))).setCell ⟨w.heap.size + 1, 1, none⟩ (.int .u64 (hl))) = w2 := ⟨_, rfl⟩
  have uS : Upd (· = w.heap.size + 1) w1 w2 := by rw [← hw2]; exact set2u _ _ _ _
  have UA : Upd (fun i => i = m ∨ i = w.heap.size + 1) W w2 := (U1.out.mono (fun i _ e => .inl e)).trans (uS.mono (fun i _ e => .inr e))
  have z2 := UA.size
  have y0 : w2.cell? ⟨w.heap.size + 1, 0, none⟩ = some (.int .u64 (hh)) := by rw [← hw2]; exact setc_ne' (setc_eq' a0) (by omega)
  have y1 : w2.cell? ⟨w.heap.size + 1, 1, none⟩ = some (.int .u64 (hl)) := by rw [← hw2]; exact setc_eq' (setc_ne' a1 (by omega))
  have kk : ∀ j, w2.cell? ⟨w.heap.size + 1 + 1, j, none⟩ = w1.cell? ⟨w.heap.size + 1 + 1, j, none⟩ ∧ w2.frozen? ⟨w.heap.size + 1 + 1, j, none⟩ = w1.frozen? ⟨w.heap.size + 1 + 1, j, none⟩ := fun j => by
    exact ⟨uS.cell (p := ⟨w.heap.size + 1 + 1, j, none⟩) (by show w.heap.size + 1 + 1 < _; omega) (by show ¬ (w.heap.size + 1 + 1 = w.heap.size + 1); omega), uS.frozen (p := ⟨w.heap.size + 1 + 1, j, none⟩) (by show w.heap.size + 1 + 1 < _; omega) (by show ¬ (w.heap.size + 1 + 1 = w.heap.size + 1); omega)⟩
  have t8 := (uS.cell (p := ⟨t, 8, none⟩) (by show t < _; omega) (by show ¬ (t = w.heap.size + 1); omega)).trans t8
  have b0 := (kk 0).1.trans b0
  have b1 := (kk 1).1.trans b1
  have h0 := (kk 0).2.trans h0
  have h1 := (kk 1).2.trans h1
  have R2 := hide (R1.out.upd uS (by show ¬ (m = _); omega))
  have UAh := hide UA
  have c2 := hide (C2.out w2 (SW.out.Z.upd UAh.out (by omega)))
  clear UA kk R1 U1 uS
  go_wp2_with fail
  clear hw2 a0 a1 g0 g1 t8
  refine c2.out.mono ?_
  rintro e w3 ⟨rfl, r3, u3⟩
  have U3 := hide u3
  have R3 := hide r3
  have hx : ∀ i, i < w2.heap.size → (i = w.heap.size + 1 ∨ i = w.heap.size + 1 + 1) → ∀ j, w3.cell? ⟨i, j, none⟩ = w2.cell? ⟨i, j, none⟩ ∧ w3.frozen? ⟨i, j, none⟩ = w2.frozen? ⟨i, j, none⟩ := fun i hi hn j => by
    have hS : ¬ (i = z) := by omega
    exact ⟨u3.cell (p := ⟨i, j, none⟩) hi hS, u3.frozen (p := ⟨i, j, none⟩) hi hS⟩
  have y0 := (hx (w.heap.size + 1) (by omega) (.inl rfl) 0).1.trans y0
  have y1 := (hx (w.heap.size + 1) (by omega) (.inl rfl) 1).1.trans y1
  have b0 := (hx (w.heap.size + 1 + 1) (by omega) (.inr rfl) 0).1.trans b0
  have b1 := (hx (w.heap.size + 1 + 1) (by omega) (.inr rfl) 1).1.trans b1
  have h0 := (hx (w.heap.size + 1 + 1) (by omega) (.inr rfl) 0).2.trans h0
  have h1 := (hx (w.heap.size + 1 + 1) (by omega) (.inr rfl) 1).2.trans h1
  have n12 : w.heap.size + 1 ≠ w.heap.size + 1 + 1 := by omega
  have n21 : w.heap.size + 1 + 1 ≠ w.heap.size + 1 := by omega
  have z3 := u3.size
  clear hx u3 r3
  go_wp2
  go_ret
  refine ⟨rfl, ?_⟩
  generalize hw4 : (w3.setCell ⟨w.heap.size + 1 + 1, 0, none⟩ (.int .u64 (hh))).setCell ⟨w.heap.size + 1 + 1, 1, none⟩ (.int .u64 (hl)) = w4
  have u4 : Upd (· = w.heap.size + 1 + 1) w3 w4 := by rw [← hw4]; exact set2u _ _ _ _
  have UU : Upd (fun i => i = m ∨ i = z ∨ i = w.heap.size + 1 ∨ i = w.heap.size + 1 + 1) W w4 := ((UAh.out.mono (fun i _ e => e.elim .inl (fun e => .inr (.inr (.inl e))))).trans (U3.out.mono (fun i _ e => .inr (.inl e)))).trans (u4.mono (fun i _ e => .inr (.inr (.inr e))))
  have nT : ∀ i, i < B ∧ i ≠ m ∧ i ≠ z → ¬ (i = m ∨ i = z ∨ i = w.heap.size + 1 ∨ i = w.heap.size + 1 + 1) := fun i hi hT => by omega
  have nT2 : ∀ g, B ≤ g ∧ g < w.heap.size → ¬ (g = m ∨ g = z ∨ g = w.heap.size + 1 ∨ g = w.heap.size + 1 + 1) := fun g hg hT => by omega
  have MM : Mix w4 m S2 := (R2.out.upd U3.out (by show ¬ (m = _); omega)).upd u4 (by show ¬ (m = _); omega)
  have ZZ : Mix w4 z S2 := R3.out.upd u4 (by show ¬ (z = _); omega)
  refine ⟨_, _, _, _, _, _, _, _, _, _, _, SW.out.next UU (nT t (by omega)) (fun i hi => nT i (by omega)) (SW.out.C.upd UU (nT c (by omega))) (SW.out.P.upd UU (nT p (by omega))) (SW.out.Q.upd UU (nT q (by omega))) MM (SW.out.A.upd UU (nT s (by omega)) (fun x' hx => by have := SW.out.ab x' hx; exact nT _ (by omega))) SW.out.ab (SW.out.D.upd UU (nT d (by omega))) (SW.out.X.upd2 UU (nT x (by omega)) (fun g hg => nT2 g (HS.out.X.own.lo g hg))) (SW.out.Y.upd2 UU (nT y (by omega)) (fun g hg => nT2 g (HS.out.Y.own.lo g hg))) ZZ SW.out.ne, ?_⟩
  exact (BW.out.mono (by omega)).trans (UU.below (by omega) (fun i hi => by rcases hi with hi | hi | hi | hi <;> omega))
set_option maxRecDepth 100000 in
set_option maxHeartbeats 2000000 in
theorem does5f (b t c p q m s d x y z B : Nat) (L : List (Int × Int)) (al : Option Addr) (cl : Nat) (R rp : Int) (np : Nat) (rq : Int) (nq : Nat) (S : Int) (k : Nat) (vx vy : Value) (ax : Option Addr) (cs : Nat) (N : Int) (hN : 0 ≤ N ∧ N ≤ 18446744073709551615) (w : World) (h : SS w b t c p q m s d x y z B L al cl R rp np rq nq S k vx vy ax cs) :
    Calls Try.prog 10 #[.pointer (some ⟨t, 0, none⟩), .agg #[.int .i64 5, .bool false, .int .u64 N]] w fun e w' => e = .returned (.bool true) ∧ Left w b t c p q m s d x y z B L al cl w' := by
  obtain ⟨o1, o2, o3, o4, o5, o6, o7, o8, o9, o10, o11⟩ := h.o
  have hBw := h.hB
  have ht := h.lt
  have HS := hide h
  obtain ⟨W, hW⟩ : ∃ W, ((w.alloc (.cells #[.int .i64 5, .bool false, .int .u64 N] 53)).alloc (.cells #[.int .u64 0, .int .u64 0] 44)).alloc (.cells #[.int .u64 0, .int .u64 0] 44) = W := ⟨_, rfl⟩
  have bW : Below w.heap.size w W := by rw [← hW]; exact (((Below.refl _ w).alloc (Nat.le_refl _) _).alloc (by simp) _).alloc (by simp; omega) _
  have zW : W.heap.size = w.heap.size + 3 := by rw [← hW]; simp
  have xx : ∀ i u, (w.alloc (.cells #[.int .i64 5, .bool false, .int .u64 N] 53)).cell? ⟨w.heap.size, i, none⟩ = some u → W.cell? ⟨w.heap.size, i, none⟩ = some u := fun i u hu => by
    rw [← hW]
    exact (World.cell?_alloc_past _ _ _ (by simp; omega)).trans ((World.cell?_alloc_past _ _ _ (by simp)).trans hu)
  have x0 := xx 0 (.int .i64 5) (by simp)
  have x1 := xx 1 (.bool false) (by simp)
  have ya : W.cell? ⟨w.heap.size + 1, 0, none⟩ = some (.int .u64 0) ∧ W.cell? ⟨w.heap.size + 1, 1, none⟩ = some (.int .u64 0) ∧ W.frozen? ⟨w.heap.size + 1, 0, none⟩ = false ∧ W.frozen? ⟨w.heap.size + 1, 1, none⟩ = false ∧ W.cell? ⟨w.heap.size + 1 + 1, 0, none⟩ = some (.int .u64 0) ∧ W.cell? ⟨w.heap.size + 1 + 1, 1, none⟩ = some (.int .u64 0) ∧ W.frozen? ⟨w.heap.size + 1 + 1, 0, none⟩ = false ∧ W.frozen? ⟨w.heap.size + 1 + 1, 1, none⟩ = false := by
    have := box2 (w.alloc (.cells #[.int .i64 5, .bool false, .int .u64 N] 53)) 44
    rw [World.size_alloc, hW] at this
    exact this
  have SW := hide (h.bel bW)
  have BW := hide bW
  have YA := hide ya
  have q0 := fun (h l : Int) (w : World) => eql_draw h l h l w
  simp only [beq_self_eq_true, Bool.and_self] at q0
  have t3 := SW.out.t3
  obtain ⟨hh, hl, S2, C1, C2⟩ : ∃ hh hl S2 : Int, Hid (Calls Try.prog 21 #[.pointer (some ⟨m, 0, none⟩)] W fun e w' => e = .returned (.tuple #[.agg #[.int .u64 hh, .int .u64 hl], .int .i64 0]) ∧ Mix w' m S2 ∧ Upd (· = m) W w') ∧ Hid (∀ v, Mix v z S → Calls Try.prog 22 #[.pointer (some ⟨z, 0, none⟩)] v fun e w' => e = .returned (.tuple #[.agg #[.int .u64 hh, .int .u64 hl], .int .i64 0]) ∧ Mix w' z S2 ∧ Upd (· = z) v w') := ⟨_, _, _, mdraw_any m S W SW.out.M, fun v hv => rmdraw_any z S v hv⟩
  clear h bW xx ya
  go_enter Try.func10, Try.ntmps10
  go_wp2_with fail
  refine (C1.out ).mono ?_
  rintro e w1 ⟨rfl, r1, u1⟩
  have R1 := hide r1
  have U1 := hide u1
  have hp : ∀ i, i < W.heap.size → i ≠ m → ∀ j, w1.cell? ⟨i, j, none⟩ = W.cell? ⟨i, j, none⟩ ∧ w1.frozen? ⟨i, j, none⟩ = W.frozen? ⟨i, j, none⟩ := fun i hi hn j => ⟨u1.cell (p := ⟨i, j, none⟩) hi hn, u1.frozen (p := ⟨i, j, none⟩) hi hn⟩
  obtain ⟨a0, a1, g0, g1, b0, b1, h0, h1⟩ := YA.out
  have a0 := ((hp (w.heap.size + 1) (by omega) (by omega) 0).1).trans a0
  have a1 := ((hp (w.heap.size + 1) (by omega) (by omega) 1).1).trans a1
  have g0 := ((hp (w.heap.size + 1) (by omega) (by omega) 0).2).trans g0
  have g1 := ((hp (w.heap.size + 1) (by omega) (by omega) 1).2).trans g1
  have b0 := ((hp (w.heap.size + 1 + 1) (by omega) (by omega) 0).1).trans b0
  have b1 := ((hp (w.heap.size + 1 + 1) (by omega) (by omega) 1).1).trans b1
  have h0 := ((hp (w.heap.size + 1 + 1) (by omega) (by omega) 0).2).trans h0
  have h1 := ((hp (w.heap.size + 1 + 1) (by omega) (by omega) 1).2).trans h1
  have t8 := ((hp t (by omega) (by omega) 8).1).trans SW.out.t8
  have n1 : t ≠ w.heap.size + 1 := by omega
  have n2 : t ≠ w.heap.size + 1 + 1 := by omega
  have z1 := u1.size
  clear hp u1 r1 hW x0 x1 t3
  obtain ⟨w2, hw2⟩ : ∃ w2, ((w1.setCell ⟨w.heap.size + 1, 0, none⟩ (.int .u64 (hh))).setCell ⟨w.heap.size + 1, 1, none⟩ (.int .u64 (hl))) = w2 := ⟨_, rfl⟩
  have uS : Upd (· = w.heap.size + 1) w1 w2 := by rw [← hw2]; exact set2u _ _ _ _
  have UA : Upd (fun i => i = m ∨ i = w.heap.size + 1) W w2 := (U1.out.mono (fun i _ e => .inl e)).trans (uS.mono (fun i _ e => .inr e))
  have z2 := UA.size
  have y0 : w2.cell? ⟨w.heap.size + 1, 0, none⟩ = some (.int .u64 (hh)) := by rw [← hw2]; exact setc_ne' (setc_eq' a0) (by omega)
  have y1 : w2.cell? ⟨w.heap.size + 1, 1, none⟩ = some (.int .u64 (hl)) := by rw [← hw2]; exact setc_eq' (setc_ne' a1 (by omega))
  have kk : ∀ j, w2.cell? ⟨w.heap.size + 1 + 1, j, none⟩ = w1.cell? ⟨w.heap.size + 1 + 1, j, none⟩ ∧ w2.frozen? ⟨w.heap.size + 1 + 1, j, none⟩ = w1.frozen? ⟨w.heap.size + 1 + 1, j, none⟩ := fun j => by
    exact ⟨uS.cell (p := ⟨w.heap.size + 1 + 1, j, none⟩) (by show w.heap.size + 1 + 1 < _; omega) (by show ¬ (w.heap.size + 1 + 1 = w.heap.size + 1); omega), uS.frozen (p := ⟨w.heap.size + 1 + 1, j, none⟩) (by show w.heap.size + 1 + 1 < _; omega) (by show ¬ (w.heap.size + 1 + 1 = w.heap.size + 1); omega)⟩
  have t8 := (uS.cell (p := ⟨t, 8, none⟩) (by show t < _; omega) (by show ¬ (t = w.heap.size + 1); omega)).trans t8
  have b0 := (kk 0).1.trans b0
  have b1 := (kk 1).1.trans b1
  have h0 := (kk 0).2.trans h0
  have h1 := (kk 1).2.trans h1
  have R2 := hide (R1.out.upd uS (by show ¬ (m = _); omega))
  have UAh := hide UA
  have c2 := hide (C2.out w2 (SW.out.Z.upd UAh.out (by omega)))
  clear UA kk R1 U1 uS
  go_wp2_with fail
  clear hw2 a0 a1 g0 g1 t8
  refine c2.out.mono ?_
  rintro e w3 ⟨rfl, r3, u3⟩
  have U3 := hide u3
  have R3 := hide r3
  have hx : ∀ i, i < w2.heap.size → (i = w.heap.size + 1 ∨ i = w.heap.size + 1 + 1) → ∀ j, w3.cell? ⟨i, j, none⟩ = w2.cell? ⟨i, j, none⟩ ∧ w3.frozen? ⟨i, j, none⟩ = w2.frozen? ⟨i, j, none⟩ := fun i hi hn j => by
    have hS : ¬ (i = z) := by omega
    exact ⟨u3.cell (p := ⟨i, j, none⟩) hi hS, u3.frozen (p := ⟨i, j, none⟩) hi hS⟩
  have y0 := (hx (w.heap.size + 1) (by omega) (.inl rfl) 0).1.trans y0
  have y1 := (hx (w.heap.size + 1) (by omega) (.inl rfl) 1).1.trans y1
  have b0 := (hx (w.heap.size + 1 + 1) (by omega) (.inr rfl) 0).1.trans b0
  have b1 := (hx (w.heap.size + 1 + 1) (by omega) (.inr rfl) 1).1.trans b1
  have h0 := (hx (w.heap.size + 1 + 1) (by omega) (.inr rfl) 0).2.trans h0
  have h1 := (hx (w.heap.size + 1 + 1) (by omega) (.inr rfl) 1).2.trans h1
  have n12 : w.heap.size + 1 ≠ w.heap.size + 1 + 1 := by omega
  have n21 : w.heap.size + 1 + 1 ≠ w.heap.size + 1 := by omega
  have z3 := u3.size
  clear hx u3 r3
  go_wp2
  go_ret
  refine ⟨rfl, ?_⟩
  generalize hw4 : (w3.setCell ⟨w.heap.size + 1 + 1, 0, none⟩ (.int .u64 (hh))).setCell ⟨w.heap.size + 1 + 1, 1, none⟩ (.int .u64 (hl)) = w4
  have u4 : Upd (· = w.heap.size + 1 + 1) w3 w4 := by rw [← hw4]; exact set2u _ _ _ _
  have UU : Upd (fun i => i = m ∨ i = z ∨ i = w.heap.size + 1 ∨ i = w.heap.size + 1 + 1) W w4 := ((UAh.out.mono (fun i _ e => e.elim .inl (fun e => .inr (.inr (.inl e))))).trans (U3.out.mono (fun i _ e => .inr (.inl e)))).trans (u4.mono (fun i _ e => .inr (.inr (.inr e))))
  have nT : ∀ i, i < B ∧ i ≠ m ∧ i ≠ z → ¬ (i = m ∨ i = z ∨ i = w.heap.size + 1 ∨ i = w.heap.size + 1 + 1) := fun i hi hT => by omega
  have nT2 : ∀ g, B ≤ g ∧ g < w.heap.size → ¬ (g = m ∨ g = z ∨ g = w.heap.size + 1 ∨ g = w.heap.size + 1 + 1) := fun g hg hT => by omega
  have MM : Mix w4 m S2 := (R2.out.upd U3.out (by show ¬ (m = _); omega)).upd u4 (by show ¬ (m = _); omega)
  have ZZ : Mix w4 z S2 := R3.out.upd u4 (by show ¬ (z = _); omega)
  refine ⟨_, _, _, _, _, _, _, _, _, _, _, SW.out.next UU (nT t (by omega)) (fun i hi => nT i (by omega)) (SW.out.C.upd UU (nT c (by omega))) (SW.out.P.upd UU (nT p (by omega))) (SW.out.Q.upd UU (nT q (by omega))) MM (SW.out.A.upd UU (nT s (by omega)) (fun x' hx => by have := SW.out.ab x' hx; exact nT _ (by omega))) SW.out.ab (SW.out.D.upd UU (nT d (by omega))) (SW.out.X.upd2 UU (nT x (by omega)) (fun g hg => nT2 g (HS.out.X.own.lo g hg))) (SW.out.Y.upd2 UU (nT y (by omega)) (fun g hg => nT2 g (HS.out.Y.own.lo g hg))) ZZ SW.out.ne, ?_⟩
  exact (BW.out.mono (by omega)).trans (UU.below (by omega) (fun i hi => by rcases hi with hi | hi | hi | hi <;> omega))

end Go.Proofs.Ytdgelllmngdpkaa
