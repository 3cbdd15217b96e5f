import Derived.Test.YtdgelllmngdpkaaDx
namespace Go.Proofs.Ytdgelllmngdpkaa
open Go.RowKit
set_option linter.unusedVariables false
set_option linter.unusedSimpArgs false

set_option maxRecDepth 100000 in
set_option maxHeartbeats 2000000 in
theorem does0t (b t c p q m s d x y z B : Nat) (L : List (Int × Int)) (al : Option Addr) (cl : Nat) (R rp : Int) (np : Nat) (rq : Int) (nq : Nat) (S : Int) (k : Nat) (vx vy : Value) (ax : Option Addr) (cs : Nat) (N : Int) (hN : 0 ≤ N ∧ N ≤ 18446744073709551615) (w : World) (h : SS w b t c p q m s d x y z B L al cl R rp np rq nq S k vx vy ax cs) :
    Calls Try.prog 10 #[.pointer (some ⟨t, 0, none⟩), .agg #[.int .i64 0, .bool true, .int .u64 N]] w fun e w' => e = .returned (.bool true) ∧ Left w b t c p q m s d x y z B L al cl w' := by
  obtain ⟨o1, o2, o3, o4, o5, o6, o7, o8, o9, o10, o11⟩ := h.o
  have hBw := h.hB
  have ht := h.lt
  have HS := hide h
  obtain ⟨W, hW⟩ : ∃ W, ((w.alloc (.cells #[.int .i64 0, .bool true, .int .u64 N] 53)).alloc (.cells #[.int .u64 0, .int .u64 0] 44)).alloc (.cells #[.int .u64 0, .int .u64 0] 44) = W := ⟨_, rfl⟩
  have bW : Below w.heap.size w W := by rw [← hW]; exact (((Below.refl _ w).alloc (Nat.le_refl _) _).alloc (by simp) _).alloc (by simp; omega) _
  have zW : W.heap.size = w.heap.size + 3 := by rw [← hW]; simp
  have xx : ∀ i u, (w.alloc (.cells #[.int .i64 0, .bool true, .int .u64 N] 53)).cell? ⟨w.heap.size, i, none⟩ = some u → W.cell? ⟨w.heap.size, i, none⟩ = some u := fun i u hu => by
    rw [← hW]
    exact (World.cell?_alloc_past _ _ _ (by simp; omega)).trans ((World.cell?_alloc_past _ _ _ (by simp)).trans hu)
  have x0 := xx 0 (.int .i64 0) (by simp)
  have x1 := xx 1 (.bool true) (by simp)
  have x2 := xx 2 (.int .u64 N) (by simp)
  have SW := hide (h.bel bW)
  have BW := hide bW
  have UW : Hid (Upd (fun i => i = c ∨ i = d) W W.drew) := Upd.of_below ((Below.refl _ _).drew)
  have KF : Hid (∀ v, Upd (fun i => i = c ∨ i = d) W v → v.cell? ⟨t, 1, none⟩ = some (.pointer (some ⟨p, 0, none⟩)) ∧ v.cell? ⟨t, 5, none⟩ = some (.pointer (some ⟨d, 0, none⟩)) ∧ v.cell? ⟨w.heap.size, 2, none⟩ = some (.int .u64 N) ∧ v.cell? ⟨p, 0, none⟩ = some (.pointer (some ⟨c, 0, none⟩))) := fun v u => ⟨(u.cell (p := ⟨t, 1, none⟩) SW.out.lt (by show ¬ (t = c ∨ t = d); omega)).trans SW.out.t1, (u.cell (p := ⟨t, 5, none⟩) SW.out.lt (by show ¬ (t = c ∨ t = d); omega)).trans SW.out.t5, (u.cell (p := ⟨w.heap.size, 2, none⟩) (by show w.heap.size < _; omega) (by show ¬ (w.heap.size = c ∨ w.heap.size = d); omega)).trans x2, (u.cell (p := ⟨p, 0, none⟩) SW.out.P.lt (by show ¬ (p = c ∨ p = d); omega)).trans SW.out.P.c0⟩
  have s0 := KF.out _ UW.out
  have c1 := hide (set_any c R N W.drew (SW.out.C.upd (S := fun _ => False) (Upd.of_below ((Below.refl _ _).drew)) id) hN.2)
  have c2 := hide (fun v (hv : Upd (· = c) W.drew v) => rset_any d R N v ((SW.out.D.upd (S := fun _ => False) (Upd.of_below ((Below.refl _ _).drew)) id).upd hv (by show ¬ (d = c); omega)) hN.2)
  clear h bW x2 xx
  go_enter Try.func10, Try.ntmps10
  go_wp2_with fail
  clear hW x0 x1
  go_region_held3 (fun v => v.cell? ⟨t, 1, none⟩ = some (.pointer (some ⟨p, 0, none⟩)) ∧ v.cell? ⟨t, 5, none⟩ = some (.pointer (some ⟨d, 0, none⟩)) ∧ v.cell? ⟨w.heap.size, 2, none⟩ = some (.int .u64 N) ∧ v.cell? ⟨p, 0, none⟩ = some (.pointer (some ⟨c, 0, none⟩))) (first | with_reducible assumption | go_keep)
    (first
      | (have := D1; go_at_call 13; refine (c2.out _ D1.out).mono ?_; rintro e w2 ⟨rfl, r2, u2⟩; have D2 := hide u2; have E2 := hide r2; have s2 := KF.out _ ((UW.out.trans (D1.out.mono (fun i _ e => .inl e))).trans (u2.mono (fun i _ e => .inr e))); clear u2 r2)
      | (go_at_call 12; refine c1.out.mono ?_; rintro e w1 ⟨rfl, r1, u1⟩; have D1 := hide u1; have E1 := hide r1; have s1 := KF.out _ (UW.out.trans (u1.mono (fun i _ e => .inl e))); clear u1 r1))
  go_wp2
  go_ret
  have UU : Upd (fun i => i = c ∨ i = d) W w2 := (UW.out.trans (D1.out.mono (fun i _ e => .inl e))).trans (D2.out.mono (fun i _ e => .inr e))
  refine ⟨rfl, _, _, _, _, _, _, _, _, _, _, _, SW.out.next UU (by omega) (fun i hi => by omega) (E1.out.upd D2.out (by show ¬ (c = d); omega)) (SW.out.P.upd UU (by omega)) (SW.out.Q.upd UU (by omega)) (SW.out.M.upd UU (by omega)) (SW.out.A.upd UU (by omega) (fun x hx => by have := SW.out.ab x hx; omega)) SW.out.ab E2.out (SW.out.X.upd2 UU (by omega) (fun k hk => by have := (SW.out.X.own.lo k hk).1; omega)) (SW.out.Y.upd2 UU (by omega) (fun k hk => by have := (SW.out.Y.own.lo k hk).1; omega)) (SW.out.Z.upd UU (by omega)) SW.out.ne, ?_⟩
  exact (BW.out.mono (by omega)).trans (UU.below (by omega) (fun i hi => by rcases hi with rfl | rfl <;> omega))
set_option maxRecDepth 100000 in
set_option maxHeartbeats 2000000 in
theorem does0f (b t c p q m s d x y z B : Nat) (L : List (Int × Int)) (al : Option Addr) (cl : Nat) (R rp : Int) (np : Nat) (rq : Int) (nq : Nat) (S : Int) (k : Nat) (vx vy : Value) (ax : Option Addr) (cs : Nat) (N : Int) (hN : 0 ≤ N ∧ N ≤ 18446744073709551615) (w : World) (h : SS w b t c p q m s d x y z B L al cl R rp np rq nq S k vx vy ax cs) :
    Calls Try.prog 10 #[.pointer (some ⟨t, 0, none⟩), .agg #[.int .i64 0, .bool false, .int .u64 N]] w fun e w' => e = .returned (.bool true) ∧ Left w b t c p q m s d x y z B L al cl w' := by
  obtain ⟨o1, o2, o3, o4, o5, o6, o7, o8, o9, o10, o11⟩ := h.o
  have hBw := h.hB
  have ht := h.lt
  have HS := hide h
  obtain ⟨W, hW⟩ : ∃ W, ((w.alloc (.cells #[.int .i64 0, .bool false, .int .u64 N] 53)).alloc (.cells #[.int .u64 0, .int .u64 0] 44)).alloc (.cells #[.int .u64 0, .int .u64 0] 44) = W := ⟨_, rfl⟩
  have bW : Below w.heap.size w W := by rw [← hW]; exact (((Below.refl _ w).alloc (Nat.le_refl _) _).alloc (by simp) _).alloc (by simp; omega) _
  have zW : W.heap.size = w.heap.size + 3 := by rw [← hW]; simp
  have xx : ∀ i u, (w.alloc (.cells #[.int .i64 0, .bool false, .int .u64 N] 53)).cell? ⟨w.heap.size, i, none⟩ = some u → W.cell? ⟨w.heap.size, i, none⟩ = some u := fun i u hu => by
    rw [← hW]
    exact (World.cell?_alloc_past _ _ _ (by simp; omega)).trans ((World.cell?_alloc_past _ _ _ (by simp)).trans hu)
  have x0 := xx 0 (.int .i64 0) (by simp)
  have x1 := xx 1 (.bool false) (by simp)
  have x2 := xx 2 (.int .u64 N) (by simp)
  have SW := hide (h.bel bW)
  have BW := hide bW
  have UW : Hid (Upd (fun i => i = c ∨ i = d) W W.drew) := Upd.of_below ((Below.refl _ _).drew)
  have KF : Hid (∀ v, Upd (fun i => i = c ∨ i = d) W v → v.cell? ⟨t, 0, none⟩ = some (.pointer (some ⟨c, 0, none⟩)) ∧ v.cell? ⟨t, 5, none⟩ = some (.pointer (some ⟨d, 0, none⟩)) ∧ v.cell? ⟨w.heap.size, 2, none⟩ = some (.int .u64 N)) := fun v u => ⟨(u.cell (p := ⟨t, 0, none⟩) SW.out.lt (by show ¬ (t = c ∨ t = d); omega)).trans SW.out.t0, (u.cell (p := ⟨t, 5, none⟩) SW.out.lt (by show ¬ (t = c ∨ t = d); omega)).trans SW.out.t5, (u.cell (p := ⟨w.heap.size, 2, none⟩) (by show w.heap.size < _; omega) (by show ¬ (w.heap.size = c ∨ w.heap.size = d); omega)).trans x2⟩
  have s0 := KF.out _ UW.out
  have c1 := hide (set_any c R N W.drew (SW.out.C.upd (S := fun _ => False) (Upd.of_below ((Below.refl _ _).drew)) id) hN.2)
  have c2 := hide (fun v (hv : Upd (· = c) W.drew v) => rset_any d R N v ((SW.out.D.upd (S := fun _ => False) (Upd.of_below ((Below.refl _ _).drew)) id).upd hv (by show ¬ (d = c); omega)) hN.2)
  clear h bW x2 xx
  go_enter Try.func10, Try.ntmps10
  go_wp2_with fail
  clear hW x0 x1
  go_region_held3 (fun v => v.cell? ⟨t, 0, none⟩ = some (.pointer (some ⟨c, 0, none⟩)) ∧ v.cell? ⟨t, 5, none⟩ = some (.pointer (some ⟨d, 0, none⟩)) ∧ v.cell? ⟨w.heap.size, 2, none⟩ = some (.int .u64 N)) (first | with_reducible assumption | go_keep)
    (first
      | (have := D1; go_at_call 13; refine (c2.out _ D1.out).mono ?_; rintro e w2 ⟨rfl, r2, u2⟩; have D2 := hide u2; have E2 := hide r2; have s2 := KF.out _ ((UW.out.trans (D1.out.mono (fun i _ e => .inl e))).trans (u2.mono (fun i _ e => .inr e))); clear u2 r2)
      | (go_at_call 12; refine c1.out.mono ?_; rintro e w1 ⟨rfl, r1, u1⟩; have D1 := hide u1; have E1 := hide r1; have s1 := KF.out _ (UW.out.trans (u1.mono (fun i _ e => .inl e))); clear u1 r1))
  go_wp2
  go_ret
  have UU : Upd (fun i => i = c ∨ i = d) W w2 := (UW.out.trans (D1.out.mono (fun i _ e => .inl e))).trans (D2.out.mono (fun i _ e => .inr e))
  refine ⟨rfl, _, _, _, _, _, _, _, _, _, _, _, SW.out.next UU (by omega) (fun i hi => by omega) (E1.out.upd D2.out (by show ¬ (c = d); omega)) (SW.out.P.upd UU (by omega)) (SW.out.Q.upd UU (by omega)) (SW.out.M.upd UU (by omega)) (SW.out.A.upd UU (by omega) (fun x hx => by have := SW.out.ab x hx; omega)) SW.out.ab E2.out (SW.out.X.upd2 UU (by omega) (fun k hk => by have := (SW.out.X.own.lo k hk).1; omega)) (SW.out.Y.upd2 UU (by omega) (fun k hk => by have := (SW.out.Y.own.lo k hk).1; omega)) (SW.out.Z.upd UU (by omega)) SW.out.ne, ?_⟩
  exact (BW.out.mono (by omega)).trans (UU.below (by omega) (fun i hi => by rcases hi with rfl | rfl <;> omega))
set_option maxRecDepth 100000 in
set_option maxHeartbeats 2000000 in
theorem does1t (b t c p q m s d x y z B : Nat) (L : List (Int × Int)) (al : Option Addr) (cl : Nat) (R rp : Int) (np : Nat) (rq : Int) (nq : Nat) (S : Int) (k : Nat) (vx vy : Value) (ax : Option Addr) (cs : Nat) (N : Int) (hN : 0 ≤ N ∧ N ≤ 18446744073709551615) (w : World) (h : SS w b t c p q m s d x y z B L al cl R rp np rq nq S k vx vy ax cs) :
    Calls Try.prog 10 #[.pointer (some ⟨t, 0, none⟩), .agg #[.int .i64 1, .bool true, .int .u64 N]] w fun e w' => e = .returned (.bool true) ∧ Left w b t c p q m s d x y z B L al cl w' := by
  obtain ⟨o1, o2, o3, o4, o5, o6, o7, o8, o9, o10, o11⟩ := h.o
  have hBw := h.hB
  have ht := h.lt
  have HS := hide h
  obtain ⟨W, hW⟩ : ∃ W, ((w.alloc (.cells #[.int .i64 1, .bool true, .int .u64 N] 53)).alloc (.cells #[.int .u64 0, .int .u64 0] 44)).alloc (.cells #[.int .u64 0, .int .u64 0] 44) = W := ⟨_, rfl⟩
  have bW : Below w.heap.size w W := by rw [← hW]; exact (((Below.refl _ w).alloc (Nat.le_refl _) _).alloc (by simp) _).alloc (by simp; omega) _
  have zW : W.heap.size = w.heap.size + 3 := by rw [← hW]; simp
  have xx : ∀ i u, (w.alloc (.cells #[.int .i64 1, .bool true, .int .u64 N] 53)).cell? ⟨w.heap.size, i, none⟩ = some u → W.cell? ⟨w.heap.size, i, none⟩ = some u := fun i u hu => by
    rw [← hW]
    exact (World.cell?_alloc_past _ _ _ (by simp; omega)).trans ((World.cell?_alloc_past _ _ _ (by simp)).trans hu)
  have x0 := xx 0 (.int .i64 1) (by simp)
  have x1 := xx 1 (.bool true) (by simp)
  have x2 := xx 2 (.int .u64 N) (by simp)
  have SW := hide (h.bel bW)
  have BW := hide bW
  have UW : Hid (Upd (fun i => i = c ∨ i = d) W W.drew) := Upd.of_below ((Below.refl _ _).drew)
  have KF : Hid (∀ v, Upd (fun i => i = c ∨ i = d) W v → v.cell? ⟨t, 2, none⟩ = some (.pointer (some ⟨q, 0, none⟩)) ∧ v.cell? ⟨t, 5, none⟩ = some (.pointer (some ⟨d, 0, none⟩)) ∧ v.cell? ⟨w.heap.size, 2, none⟩ = some (.int .u64 N) ∧ v.cell? ⟨q, 0, none⟩ = some (.pointer (some ⟨c, 0, none⟩))) := fun v u => ⟨(u.cell (p := ⟨t, 2, none⟩) SW.out.lt (by show ¬ (t = c ∨ t = d); omega)).trans SW.out.t2, (u.cell (p := ⟨t, 5, none⟩) SW.out.lt (by show ¬ (t = c ∨ t = d); omega)).trans SW.out.t5, (u.cell (p := ⟨w.heap.size, 2, none⟩) (by show w.heap.size < _; omega) (by show ¬ (w.heap.size = c ∨ w.heap.size = d); omega)).trans x2, (u.cell (p := ⟨q, 0, none⟩) SW.out.Q.lt (by show ¬ (q = c ∨ q = d); omega)).trans SW.out.Q.c0⟩
  have s0 := KF.out _ UW.out
  have c1 := hide (pass_any c R N W.drew (SW.out.C.upd (S := fun _ => False) (Upd.of_below ((Below.refl _ _).drew)) id) hN.1)
  have c2 := hide (fun v (hv : Upd (· = c) W.drew v) => rpass_any d R N v ((SW.out.D.upd (S := fun _ => False) (Upd.of_below ((Below.refl _ _).drew)) id).upd hv (by show ¬ (d = c); omega)) hN.1)
  clear h bW x2 xx
  go_enter Try.func10, Try.ntmps10
  go_wp2_with fail
  clear hW x0 x1
  go_region_held3 (fun v => v.cell? ⟨t, 2, none⟩ = some (.pointer (some ⟨q, 0, none⟩)) ∧ v.cell? ⟨t, 5, none⟩ = some (.pointer (some ⟨d, 0, none⟩)) ∧ v.cell? ⟨w.heap.size, 2, none⟩ = some (.int .u64 N) ∧ v.cell? ⟨q, 0, none⟩ = some (.pointer (some ⟨c, 0, none⟩))) (first | with_reducible assumption | go_keep)
    (first
      | (have := D1; go_at_call 15; refine (c2.out _ D1.out).mono ?_; rintro e w2 ⟨rfl, r2, u2⟩; have D2 := hide u2; have E2 := hide r2; have s2 := KF.out _ ((UW.out.trans (D1.out.mono (fun i _ e => .inl e))).trans (u2.mono (fun i _ e => .inr e))); clear u2 r2)
      | (go_at_call 14; refine c1.out.mono ?_; rintro e w1 ⟨rfl, r1, u1⟩; have D1 := hide u1; have E1 := hide r1; have s1 := KF.out _ (UW.out.trans (u1.mono (fun i _ e => .inl e))); clear u1 r1))
  go_wp2
  go_ret
  have UU : Upd (fun i => i = c ∨ i = d) W w2 := (UW.out.trans (D1.out.mono (fun i _ e => .inl e))).trans (D2.out.mono (fun i _ e => .inr e))
  refine ⟨rfl, _, _, _, _, _, _, _, _, _, _, _, SW.out.next UU (by omega) (fun i hi => by omega) (E1.out.upd D2.out (by show ¬ (c = d); omega)) (SW.out.P.upd UU (by omega)) (SW.out.Q.upd UU (by omega)) (SW.out.M.upd UU (by omega)) (SW.out.A.upd UU (by omega) (fun x hx => by have := SW.out.ab x hx; omega)) SW.out.ab E2.out (SW.out.X.upd2 UU (by omega) (fun k hk => by have := (SW.out.X.own.lo k hk).1; omega)) (SW.out.Y.upd2 UU (by omega) (fun k hk => by have := (SW.out.Y.own.lo k hk).1; omega)) (SW.out.Z.upd UU (by omega)) SW.out.ne, ?_⟩
  exact (BW.out.mono (by omega)).trans (UU.below (by omega) (fun i hi => by rcases hi with rfl | rfl <;> omega))
set_option maxRecDepth 100000 in
set_option maxHeartbeats 2000000 in
theorem does1f (b t c p q m s d x y z B : Nat) (L : List (Int × Int)) (al : Option Addr) (cl : Nat) (R rp : Int) (np : Nat) (rq : Int) (nq : Nat) (S : Int) (k : Nat) (vx vy : Value) (ax : Option Addr) (cs : Nat) (N : Int) (hN : 0 ≤ N ∧ N ≤ 18446744073709551615) (w : World) (h : SS w b t c p q m s d x y z B L al cl R rp np rq nq S k vx vy ax cs) :
    Calls Try.prog 10 #[.pointer (some ⟨t, 0, none⟩), .agg #[.int .i64 1, .bool false, .int .u64 N]] w fun e w' => e = .returned (.bool true) ∧ Left w b t c p q m s d x y z B L al cl w' := by
  obtain ⟨o1, o2, o3, o4, o5, o6, o7, o8, o9, o10, o11⟩ := h.o
  have hBw := h.hB
  have ht := h.lt
  have HS := hide h
  obtain ⟨W, hW⟩ : ∃ W, ((w.alloc (.cells #[.int .i64 1, .bool false, .int .u64 N] 53)).alloc (.cells #[.int .u64 0, .int .u64 0] 44)).alloc (.cells #[.int .u64 0, .int .u64 0] 44) = W := ⟨_, rfl⟩
  have bW : Below w.heap.size w W := by rw [← hW]; exact (((Below.refl _ w).alloc (Nat.le_refl _) _).alloc (by simp) _).alloc (by simp; omega) _
  have zW : W.heap.size = w.heap.size + 3 := by rw [← hW]; simp
  have xx : ∀ i u, (w.alloc (.cells #[.int .i64 1, .bool false, .int .u64 N] 53)).cell? ⟨w.heap.size, i, none⟩ = some u → W.cell? ⟨w.heap.size, i, none⟩ = some u := fun i u hu => by
    rw [← hW]
    exact (World.cell?_alloc_past _ _ _ (by simp; omega)).trans ((World.cell?_alloc_past _ _ _ (by simp)).trans hu)
  have x0 := xx 0 (.int .i64 1) (by simp)
  have x1 := xx 1 (.bool false) (by simp)
  have x2 := xx 2 (.int .u64 N) (by simp)
  have SW := hide (h.bel bW)
  have BW := hide bW
  have UW : Hid (Upd (fun i => i = c ∨ i = d) W W.drew) := Upd.of_below ((Below.refl _ _).drew)
  have KF : Hid (∀ v, Upd (fun i => i = c ∨ i = d) W v → v.cell? ⟨t, 0, none⟩ = some (.pointer (some ⟨c, 0, none⟩)) ∧ v.cell? ⟨t, 5, none⟩ = some (.pointer (some ⟨d, 0, none⟩)) ∧ v.cell? ⟨w.heap.size, 2, none⟩ = some (.int .u64 N)) := fun v u => ⟨(u.cell (p := ⟨t, 0, none⟩) SW.out.lt (by show ¬ (t = c ∨ t = d); omega)).trans SW.out.t0, (u.cell (p := ⟨t, 5, none⟩) SW.out.lt (by show ¬ (t = c ∨ t = d); omega)).trans SW.out.t5, (u.cell (p := ⟨w.heap.size, 2, none⟩) (by show w.heap.size < _; omega) (by show ¬ (w.heap.size = c ∨ w.heap.size = d); omega)).trans x2⟩
  have s0 := KF.out _ UW.out
  have c1 := hide (pass_any c R N W.drew (SW.out.C.upd (S := fun _ => False) (Upd.of_below ((Below.refl _ _).drew)) id) hN.1)
  have c2 := hide (fun v (hv : Upd (· = c) W.drew v) => rpass_any d R N v ((SW.out.D.upd (S := fun _ => False) (Upd.of_below ((Below.refl _ _).drew)) id).upd hv (by show ¬ (d = c); omega)) hN.1)
  clear h bW x2 xx
  go_enter Try.func10, Try.ntmps10
  go_wp2_with fail
  clear hW x0 x1
  go_region_held3 (fun v => v.cell? ⟨t, 0, none⟩ = some (.pointer (some ⟨c, 0, none⟩)) ∧ v.cell? ⟨t, 5, none⟩ = some (.pointer (some ⟨d, 0, none⟩)) ∧ v.cell? ⟨w.heap.size, 2, none⟩ = some (.int .u64 N)) (first | with_reducible assumption | go_keep)
    (first
      | (have := D1; go_at_call 15; refine (c2.out _ D1.out).mono ?_; rintro e w2 ⟨rfl, r2, u2⟩; have D2 := hide u2; have E2 := hide r2; have s2 := KF.out _ ((UW.out.trans (D1.out.mono (fun i _ e => .inl e))).trans (u2.mono (fun i _ e => .inr e))); clear u2 r2)
      | (go_at_call 14; refine c1.out.mono ?_; rintro e w1 ⟨rfl, r1, u1⟩; have D1 := hide u1; have E1 := hide r1; have s1 := KF.out _ (UW.out.trans (u1.mono (fun i _ e => .inl e))); clear u1 r1))
  go_wp2
  go_ret
  have UU : Upd (fun i => i = c ∨ i = d) W w2 := (UW.out.trans (D1.out.mono (fun i _ e => .inl e))).trans (D2.out.mono (fun i _ e => .inr e))
  refine ⟨rfl, _, _, _, _, _, _, _, _, _, _, _, SW.out.next UU (by omega) (fun i hi => by omega) (E1.out.upd D2.out (by show ¬ (c = d); omega)) (SW.out.P.upd UU (by omega)) (SW.out.Q.upd UU (by omega)) (SW.out.M.upd UU (by omega)) (SW.out.A.upd UU (by omega) (fun x hx => by have := SW.out.ab x hx; omega)) SW.out.ab E2.out (SW.out.X.upd2 UU (by omega) (fun k hk => by have := (SW.out.X.own.lo k hk).1; omega)) (SW.out.Y.upd2 UU (by omega) (fun k hk => by have := (SW.out.Y.own.lo k hk).1; omega)) (SW.out.Z.upd UU (by omega)) SW.out.ne, ?_⟩
  exact (BW.out.mono (by omega)).trans (UU.below (by omega) (fun i hi => by rcases hi with rfl | rfl <;> omega))

end Go.Proofs.Ytdgelllmngdpkaa
