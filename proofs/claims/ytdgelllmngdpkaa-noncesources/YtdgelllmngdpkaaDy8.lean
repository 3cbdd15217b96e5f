import Derived.Test.YtdgelllmngdpkaaDx
import Derived.Test.YtdgelllmngdpkaaEq
namespace Go.Proofs.Ytdgelllmngdpkaa
open Go.RowKit
set_option linter.unusedVariables false
set_option linter.unusedSimpArgs false

set_option maxRecDepth 100000 in
set_option maxHeartbeats 2000000 in
theorem does6bt (b t c p q m s d x y z B : Nat) (L : List (Int × Int)) (al : Option Addr) (cl : Nat) (R rp : Int) (np : Nat) (rq : Int) (nq : Nat) (S : Int) (k : Nat) (vx vy : Value) (ax : Option Addr) (cs : Nat) (hk : k = L.length) (N : Int) (hN : 0 ≤ N ∧ N ≤ 18446744073709551615) (w : World) (h : SS w b t c p q m s d x y z B L al cl R rp np rq nq S k vx vy ax cs) :
    Calls Try.prog 10 #[.pointer (some ⟨t, 0, none⟩), .agg #[.int .i64 6, .bool true, .int .u64 N]] w fun e w' => e = .returned (.bool true) ∧ Left w b t c p q m s d x y z B L al cl w' := by
  obtain ⟨o1, o2, o3, o4, o5, o6, o7, o8, o9, o10, o11⟩ := h.o
  have hBw := h.hB
  have ht := h.lt
  have HS := hide h
  obtain ⟨W, hW⟩ : ∃ W, ((w.alloc (.cells #[.int .i64 6, .bool true, .int .u64 N] 53)).alloc (.cells #[.int .u64 0, .int .u64 0] 44)).alloc (.cells #[.int .u64 0, .int .u64 0] 44) = W := ⟨_, rfl⟩
  have bW : Below w.heap.size w W := by rw [← hW]; exact (((Below.refl _ w).alloc (Nat.le_refl _) _).alloc (by simp) _).alloc (by simp; omega) _
  have zW : W.heap.size = w.heap.size + 3 := by rw [← hW]; simp
  have xx : ∀ i u, (w.alloc (.cells #[.int .i64 6, .bool true, .int .u64 N] 53)).cell? ⟨w.heap.size, i, none⟩ = some u → W.cell? ⟨w.heap.size, i, none⟩ = some u := fun i u hu => by
    rw [← hW]
    exact (World.cell?_alloc_past _ _ _ (by simp; omega)).trans ((World.cell?_alloc_past _ _ _ (by simp)).trans hu)
  have x0 := xx 0 (.int .i64 6) (by simp)
  have x1 := xx 1 (.bool true) (by simp)
  have ya : W.cell? ⟨w.heap.size + 1, 0, none⟩ = some (.int .u64 0) ∧ W.cell? ⟨w.heap.size + 1, 1, none⟩ = some (.int .u64 0) ∧ W.frozen? ⟨w.heap.size + 1, 0, none⟩ = false ∧ W.frozen? ⟨w.heap.size + 1, 1, none⟩ = false ∧ W.cell? ⟨w.heap.size + 1 + 1, 0, none⟩ = some (.int .u64 0) ∧ W.cell? ⟨w.heap.size + 1 + 1, 1, none⟩ = some (.int .u64 0) ∧ W.frozen? ⟨w.heap.size + 1 + 1, 0, none⟩ = false ∧ W.frozen? ⟨w.heap.size + 1 + 1, 1, none⟩ = false := by
    have := box2 (w.alloc (.cells #[.int .i64 6, .bool true, .int .u64 N] 53)) 44
    rw [World.size_alloc, hW] at this
    exact this
  have SW := hide (h.bel bW)
  have BW := hide bW
  have YA := hide ya
  have q0 := fun (h l : Int) (w : World) => eql_draw h l h l w
  simp only [beq_self_eq_true, Bool.and_self] at q0
  have t4 := SW.out.t4
  have hL1 := h.l.cap
  have hL2 := h.l.max
  unfold maxLen at hL2
  have hST : Str W s [] ax cs := by have := SW.out.A; rw [hk, List.drop_length] at this; exact this
  have c1 := hide (stream_end s ax cs W hST)
  clear hST
  clear h bW xx ya
  go_enter Try.func10, Try.ntmps10
  go_wp2_with fail
  refine c1.out.mono ?_
  rintro e w1 ⟨rfl, b1⟩
  have S1 := hide (SW.out.bel b1)
  have B1 := hide b1
  obtain ⟨a0, a1, g0, g1, b0, b1', h0, h1⟩ := YA.out
  have a0 := (b1.cell (p := ⟨w.heap.size + 1, 0, none⟩) (by show w.heap.size + 1 < _; omega)).trans a0
  have a1 := (b1.cell (p := ⟨w.heap.size + 1, 1, none⟩) (by show w.heap.size + 1 < _; omega)).trans a1
  have g0 := (b1.frozen (p := ⟨w.heap.size + 1, 0, none⟩) (by show w.heap.size + 1 < _; omega)).trans g0
  have g1 := (b1.frozen (p := ⟨w.heap.size + 1, 1, none⟩) (by show w.heap.size + 1 < _; omega)).trans g1
  have b0 := (b1.cell (p := ⟨w.heap.size + 1 + 1, 0, none⟩) (by show w.heap.size + 1 + 1 < _; omega)).trans b0
  have b1' := (b1.cell (p := ⟨w.heap.size + 1 + 1, 1, none⟩) (by show w.heap.size + 1 + 1 < _; omega)).trans b1'
  have t9 := S1.out.t9
  have t10 := S1.out.t10
  have z1 := b1.size
  have n1 : t ≠ w.heap.size + 1 := by omega
  have n6 : w.heap.size + 1 + 1 ≠ w.heap.size + 1 := by omega
  obtain ⟨w2, hw2⟩ : ∃ w2, ((w1.setCell ⟨w.heap.size + 1, 0, none⟩ (.int .u64 0)).setCell ⟨w.heap.size + 1, 1, none⟩ (.int .u64 0)) = w2 := ⟨_, rfl⟩
  have uS : Upd (· = w.heap.size + 1) w1 w2 := by rw [← hw2]; exact set2u _ _ _ _
  have y0' : w2.cell? ⟨w.heap.size + 1, 0, none⟩ = some (.int .u64 0) := by rw [← hw2]; exact setc_ne' (setc_eq' a0) (by omega)
  have y1' : w2.cell? ⟨w.heap.size + 1, 1, none⟩ = some (.int .u64 0) := by rw [← hw2]; exact setc_eq' (setc_ne' a1 (by omega))
  have kk : ∀ i, i < w1.heap.size → i ≠ w.heap.size + 1 → ∀ j, w2.cell? ⟨i, j, none⟩ = w1.cell? ⟨i, j, none⟩ := fun i hi hn j => uS.cell (p := ⟨i, j, none⟩) hi hn
  have b0 := (kk _ (by omega) n6 0).trans b0
  have b1' := (kk _ (by omega) n6 1).trans b1'
  have t9 := (kk _ (by omega) n1 9).trans t9
  have t10 := (kk _ (by omega) n1 10).trans t10
  have z2 := uS.size
  have hkz : decide ((k : Int) < (L.length : Int)) = false := by simp; omega
  have US := hide uS
  clear kk uS b1 hW x0 x1 t4 c1
  go_wp2_with fail
  clear hw2 a0 a1 g0 g1
  go_region_held3 (fun v => v.cell? ⟨t, 9, none⟩ = some (.slice al L.length cl) ∧ v.cell? ⟨t, 10, none⟩ = some (.int .i64 (k : Int))) (first | go_keep | (exact ⟨by go_simp, by go_simp⟩)) (fail)
  go_wp2
  go_ret
  refine ⟨rfl, ?_⟩
  have nT : ∀ i, i < B → ¬ (i = w.heap.size + 1) := fun i hi hT => by omega
  have S2 : SS w2 b t c p q m s d x y z B L al cl R rp np rq nq S k vx vy ax cs := S1.out.next US.out (nT t (by omega)) (fun i hi => nT i (by omega)) (S1.out.C.upd US.out (nT c (by omega))) (S1.out.P.upd US.out (nT p (by omega))) (S1.out.Q.upd US.out (nT q (by omega))) (S1.out.M.upd US.out (nT m (by omega))) (S1.out.A.upd US.out (nT s (by omega)) (fun x' hx => by have := S1.out.ab x' hx; exact nT _ (by omega))) S1.out.ab (S1.out.D.upd US.out (nT d (by omega))) (S1.out.X.upd2 US.out (nT x (by omega)) (fun g hg e => by have := HS.out.X.own.lo g hg; have e : g = w.heap.size + 1 := e; omega)) (S1.out.Y.upd2 US.out (nT y (by omega)) (fun g hg e => by have := HS.out.Y.own.lo g hg; have e : g = w.heap.size + 1 := e; omega)) (S1.out.Z.upd US.out (nT z (by omega))) S1.out.ne
  have bd := (Below.refl w2.heap.size w2).drew
  exact ⟨_, _, _, _, _, _, _, _, _, _, _, S2.bel bd, (((BW.out.mono (by omega)).trans (B1.out.mono (by omega))).trans (US.out.below (by omega) (fun i hi => by have hi : i = w.heap.size + 1 := hi; omega))).trans (bd.mono (by omega))⟩
set_option maxRecDepth 100000 in
set_option maxHeartbeats 2000000 in
theorem does6bf (b t c p q m s d x y z B : Nat) (L : List (Int × Int)) (al : Option Addr) (cl : Nat) (R rp : Int) (np : Nat) (rq : Int) (nq : Nat) (S : Int) (k : Nat) (vx vy : Value) (ax : Option Addr) (cs : Nat) (hk : k = L.length) (N : Int) (hN : 0 ≤ N ∧ N ≤ 18446744073709551615) (w : World) (h : SS w b t c p q m s d x y z B L al cl R rp np rq nq S k vx vy ax cs) :
    Calls Try.prog 10 #[.pointer (some ⟨t, 0, none⟩), .agg #[.int .i64 6, .bool false, .int .u64 N]] w fun e w' => e = .returned (.bool true) ∧ Left w b t c p q m s d x y z B L al cl w' := by
  obtain ⟨o1, o2, o3, o4, o5, o6, o7, o8, o9, o10, o11⟩ := h.o
  have hBw := h.hB
  have ht := h.lt
  have HS := hide h
  obtain ⟨W, hW⟩ : ∃ W, ((w.alloc (.cells #[.int .i64 6, .bool false, .int .u64 N] 53)).alloc (.cells #[.int .u64 0, .int .u64 0] 44)).alloc (.cells #[.int .u64 0, .int .u64 0] 44) = W := ⟨_, rfl⟩
  have bW : Below w.heap.size w W := by rw [← hW]; exact (((Below.refl _ w).alloc (Nat.le_refl _) _).alloc (by simp) _).alloc (by simp; omega) _
  have zW : W.heap.size = w.heap.size + 3 := by rw [← hW]; simp
  have xx : ∀ i u, (w.alloc (.cells #[.int .i64 6, .bool false, .int .u64 N] 53)).cell? ⟨w.heap.size, i, none⟩ = some u → W.cell? ⟨w.heap.size, i, none⟩ = some u := fun i u hu => by
    rw [← hW]
    exact (World.cell?_alloc_past _ _ _ (by simp; omega)).trans ((World.cell?_alloc_past _ _ _ (by simp)).trans hu)
  have x0 := xx 0 (.int .i64 6) (by simp)
  have x1 := xx 1 (.bool false) (by simp)
  have ya : W.cell? ⟨w.heap.size + 1, 0, none⟩ = some (.int .u64 0) ∧ W.cell? ⟨w.heap.size + 1, 1, none⟩ = some (.int .u64 0) ∧ W.frozen? ⟨w.heap.size + 1, 0, none⟩ = false ∧ W.frozen? ⟨w.heap.size + 1, 1, none⟩ = false ∧ W.cell? ⟨w.heap.size + 1 + 1, 0, none⟩ = some (.int .u64 0) ∧ W.cell? ⟨w.heap.size + 1 + 1, 1, none⟩ = some (.int .u64 0) ∧ W.frozen? ⟨w.heap.size + 1 + 1, 0, none⟩ = false ∧ W.frozen? ⟨w.heap.size + 1 + 1, 1, none⟩ = false := by
    have := box2 (w.alloc (.cells #[.int .i64 6, .bool false, .int .u64 N] 53)) 44
    rw [World.size_alloc, hW] at this
    exact this
  have SW := hide (h.bel bW)
  have BW := hide bW
  have YA := hide ya
  have q0 := fun (h l : Int) (w : World) => eql_draw h l h l w
  simp only [beq_self_eq_true, Bool.and_self] at q0
  have t4 := SW.out.t4
  have hL1 := h.l.cap
  have hL2 := h.l.max
  unfold maxLen at hL2
  have hST : Str W s [] ax cs := by have := SW.out.A; rw [hk, List.drop_length] at this; exact this
  have c1 := hide (stream_end s ax cs W hST)
  clear hST
  clear h bW xx ya
  go_enter Try.func10, Try.ntmps10
  go_wp2_with fail
  refine c1.out.mono ?_
  rintro e w1 ⟨rfl, b1⟩
  have S1 := hide (SW.out.bel b1)
  have B1 := hide b1
  obtain ⟨a0, a1, g0, g1, b0, b1', h0, h1⟩ := YA.out
  have a0 := (b1.cell (p := ⟨w.heap.size + 1, 0, none⟩) (by show w.heap.size + 1 < _; omega)).trans a0
  have a1 := (b1.cell (p := ⟨w.heap.size + 1, 1, none⟩) (by show w.heap.size + 1 < _; omega)).trans a1
  have g0 := (b1.frozen (p := ⟨w.heap.size + 1, 0, none⟩) (by show w.heap.size + 1 < _; omega)).trans g0
  have g1 := (b1.frozen (p := ⟨w.heap.size + 1, 1, none⟩) (by show w.heap.size + 1 < _; omega)).trans g1
  have b0 := (b1.cell (p := ⟨w.heap.size + 1 + 1, 0, none⟩) (by show w.heap.size + 1 + 1 < _; omega)).trans b0
  have b1' := (b1.cell (p := ⟨w.heap.size + 1 + 1, 1, none⟩) (by show w.heap.size + 1 + 1 < _; omega)).trans b1'
  have t9 := S1.out.t9
  have t10 := S1.out.t10
  have z1 := b1.size
  have n1 : t ≠ w.heap.size + 1 := by omega
  have n6 : w.heap.size + 1 + 1 ≠ w.heap.size + 1 := by omega
  obtain ⟨w2, hw2⟩ : ∃ w2, ((w1.setCell ⟨w.heap.size + 1, 0, none⟩ (.int .u64 0)).setCell ⟨w.heap.size + 1, 1, none⟩ (.int .u64 0)) = w2 := ⟨_, rfl⟩
  have uS : Upd (· = w.heap.size + 1) w1 w2 := by rw [← hw2]; exact set2u _ _ _ _
  have y0' : w2.cell? ⟨w.heap.size + 1, 0, none⟩ = some (.int .u64 0) := by rw [← hw2]; exact setc_ne' (setc_eq' a0) (by omega)
  have y1' : w2.cell? ⟨w.heap.size + 1, 1, none⟩ = some (.int .u64 0) := by rw [← hw2]; exact setc_eq' (setc_ne' a1 (by omega))
  have kk : ∀ i, i < w1.heap.size → i ≠ w.heap.size + 1 → ∀ j, w2.cell? ⟨i, j, none⟩ = w1.cell? ⟨i, j, none⟩ := fun i hi hn j => uS.cell (p := ⟨i, j, none⟩) hi hn
  have b0 := (kk _ (by omega) n6 0).trans b0
  have b1' := (kk _ (by omega) n6 1).trans b1'
  have t9 := (kk _ (by omega) n1 9).trans t9
  have t10 := (kk _ (by omega) n1 10).trans t10
  have z2 := uS.size
  have hkz : decide ((k : Int) < (L.length : Int)) = false := by simp; omega
  have US := hide uS
  clear kk uS b1 hW x0 x1 t4 c1
  go_wp2_with fail
  clear hw2 a0 a1 g0 g1
  go_region_held3 (fun v => v.cell? ⟨t, 9, none⟩ = some (.slice al L.length cl) ∧ v.cell? ⟨t, 10, none⟩ = some (.int .i64 (k : Int))) (first | go_keep | (exact ⟨by go_simp, by go_simp⟩)) (fail)
  go_wp2
  go_ret
  refine ⟨rfl, ?_⟩
  have nT : ∀ i, i < B → ¬ (i = w.heap.size + 1) := fun i hi hT => by omega
  have S2 : SS w2 b t c p q m s d x y z B L al cl R rp np rq nq S k vx vy ax cs := S1.out.next US.out (nT t (by omega)) (fun i hi => nT i (by omega)) (S1.out.C.upd US.out (nT c (by omega))) (S1.out.P.upd US.out (nT p (by omega))) (S1.out.Q.upd US.out (nT q (by omega))) (S1.out.M.upd US.out (nT m (by omega))) (S1.out.A.upd US.out (nT s (by omega)) (fun x' hx => by have := S1.out.ab x' hx; exact nT _ (by omega))) S1.out.ab (S1.out.D.upd US.out (nT d (by omega))) (S1.out.X.upd2 US.out (nT x (by omega)) (fun g hg e => by have := HS.out.X.own.lo g hg; have e : g = w.heap.size + 1 := e; omega)) (S1.out.Y.upd2 US.out (nT y (by omega)) (fun g hg e => by have := HS.out.Y.own.lo g hg; have e : g = w.heap.size + 1 := e; omega)) (S1.out.Z.upd US.out (nT z (by omega))) S1.out.ne
  have bd := (Below.refl w2.heap.size w2).drew
  exact ⟨_, _, _, _, _, _, _, _, _, _, _, S2.bel bd, (((BW.out.mono (by omega)).trans (B1.out.mono (by omega))).trans (US.out.below (by omega) (fun i hi => by have hi : i = w.heap.size + 1 := hi; omega))).trans (bd.mono (by omega))⟩

end Go.Proofs.Ytdgelllmngdpkaa
