import Derived.Test.YtnndldhljonnpaaDoorNtk
import Derived.Test.YtnndldhljonnpaaDoorNq
import Derived.Test.YtnndldhljonnpaaDoorDr
namespace Go.Proofs.YtnndldhljonnpaaDoor
open Go.RowKit
set_option linter.unusedVariables false
set_option linter.unusedSimpArgs false

theorem cmp_three (h l h' l' : Int) : cmpD h l h' l' = -1 ∨ cmpD h l h' l' = 0 ∨ cmpD h l h' l' = 1 := by
  unfold cmpD cmpI; repeat' split
  all_goals omega
theorem cmp_neg (h l h' l' : Int) : cmpD h' l' h l = - cmpD h l h' l' := by
  unfold cmpD cmpI; repeat' split
  all_goals omega
theorem cmp_zero (h l h' l' : Int) : (cmpD h l h' l' = 0) ↔ (h = h' ∧ l = l') := by
  unfold cmpD cmpI; repeat' split
  all_goals omega
theorem cmp_le (a b c d e f : Int) (h1 : cmpD a b c d ≤ 0) (h2 : cmpD c d e f ≤ 0) : cmpD a b e f ≤ 0 := by
  unfold cmpD cmpI at *; repeat' split
  all_goals repeat' (split at h1)
  all_goals repeat' (split at h2)
  all_goals omega
theorem cmp_lt (a b c d e f : Int) (h1 : cmpD a b c d < 0) (h2 : cmpD c d e f ≤ 0) : cmpD a b e f < 0 := by
  unfold cmpD cmpI at *; repeat' split
  all_goals repeat' (split at h1)
  all_goals repeat' (split at h2)
  all_goals omega
theorem nx_above (h l : Int) (h0 : 0 ≤ h) (h1 : h ≤ 18446744073709551615) (l0 : 0 ≤ l) (l1 : l ≤ 18446744073709551615) (n : ¬ (h = 18446744073709551615 ∧ l = 18446744073709551615)) : cmpD h l (nxH h l) (nxL h l) = -1 ∧ nxE h l = 0 := by
  unfold cmpD cmpI nxH nxL nxE; repeat' split
  all_goals omega
theorem nx_least (h l h' l' : Int) (h1 : h ≤ 18446744073709551615) (l1 : l' ≤ 18446744073709551615) (l0 : 0 ≤ l') (n : ¬ (h = 18446744073709551615 ∧ l = 18446744073709551615)) (lt : l ≤ 18446744073709551615) (c : cmpD h l h' l' < 0) : cmpD (nxH h l) (nxL h l) h' l' ≤ 0 := by
  unfold cmpD cmpI nxH nxL at *; repeat' split
  all_goals repeat' (split at c)
  all_goals omega
theorem eqlDr9 (h l h' l' : Int) (A B : Nat) (w : World) : (do eqGuard .eql 24 (.tmp A) (.tmp B) (.agg #[.int .u64 h, .int .u64 l]) (.agg #[.int .u64 h', .int .u64 l']); binOp .eql 24 (.agg #[.int .u64 h, .int .u64 l]) (.agg #[.int .u64 h', .int .u64 l']) : Sem Value).run Tryd.prog w = .ok (.bool (decide (h = h' ∧ l = l'))) w := by
  go_simp
  by_cases e1 : h = h' <;> by_cases e2 : l = l' <;> simp [e1, e2]
theorem prS_same (h l h' l' : Nat) (a1 : h < 18446744073709551616) (a2 : l < 18446744073709551616) (a3 : h' < 18446744073709551616) (a4 : l' < 18446744073709551616) : ((prS h l).toList == (prS h' l').toList) = decide ((h : Int) = (h' : Int) ∧ (l : Int) = (l' : Int)) := by
  rw [bts_eq, bts_prS, bts_prS]
  congr 1
  apply propext
  constructor
  · intro e
    obtain ⟨_, p2, p3⟩ := ps_pr h l (by omega) (by omega)
    obtain ⟨_, q2, q3⟩ := ps_pr h' l' (by omega) (by omega)
    rw [e] at p2 p3
    omega
  · rintro ⟨e1, e2⟩
    have e1 : h = h' := by omega
    have e2 : l = l' := by omega
    rw [e1, e2]
set_option maxRecDepth 100000 in
set_option maxHeartbeats 2000000 in
theorem btw_p1 (h l h' l' h2 l2 : Nat) (a1 : h < 18446744073709551616) (a2 : l < 18446744073709551616) (a3 : h' < 18446744073709551616) (a4 : l' < 18446744073709551616) (W : World) (ht : Tab W) (xc : cmpD (h : Int) (l : Int) (h' : Int) (l' : Int) = 1) (HTOP : h = 18446744073709551615 ∧ l = 18446744073709551615) :
    Calls Tryd.prog 4 #[.agg #[.int .u64 (h : Int), .int .u64 (l : Int)], .agg #[.int .u64 (h' : Int), .int .u64 (l' : Int)], .agg #[.int .u64 (h2 : Int), .int .u64 (l2 : Int)]] W fun e w' => e = .returned (.bool true) ∧ Below W.heap.size W w' := by
  have HT := hide ht
  clear ht
  obtain ⟨x, hx⟩ : ∃ x, cmpD (h : Int) (l : Int) (h' : Int) (l' : Int) = x := ⟨_, rfl⟩
  obtain ⟨y, hy⟩ : ∃ y, cmpD (h' : Int) (l' : Int) (h2 : Int) (l2 : Int) = y := ⟨_, rfl⟩
  obtain ⟨z, hz⟩ : ∃ z, cmpD (h : Int) (l : Int) (h2 : Int) (l2 : Int) = z := ⟨_, rfl⟩
  have hx2 := cmp_neg (h : Int) (l : Int) (h' : Int) (l' : Int)
  have hx3 := cmp_three (h : Int) (l : Int) (h' : Int) (l' : Int)
  have hx0 := cmp_zero (h : Int) (l : Int) (h' : Int) (l' : Int)
  rw [hx] at hx2 hx3 hx0
  have C1 : Hid (∀ v, Calls Tryd.prog 10 #[.agg #[.int .u64 (h : Int), .int .u64 (l : Int)], .agg #[.int .u64 (h' : Int), .int .u64 (l' : Int)]] v fun e w' => e = .returned (.int .i64 x) ∧ Below v.heap.size v w') := fun v => by have := compare_any (h : Int) (l : Int) (h' : Int) (l' : Int) v; rw [hx] at this; exact this
  have C2 : Hid (∀ v, Calls Tryd.prog 10 #[.agg #[.int .u64 (h' : Int), .int .u64 (l' : Int)], .agg #[.int .u64 (h2 : Int), .int .u64 (l2 : Int)]] v fun e w' => e = .returned (.int .i64 y) ∧ Below v.heap.size v w') := fun v => by have := compare_any (h' : Int) (l' : Int) (h2 : Int) (l2 : Int) v; rw [hy] at this; exact this
  have C3 : Hid (∀ v, Calls Tryd.prog 10 #[.agg #[.int .u64 (h : Int), .int .u64 (l : Int)], .agg #[.int .u64 (h2 : Int), .int .u64 (l2 : Int)]] v fun e w' => e = .returned (.int .i64 z) ∧ Below v.heap.size v w') := fun v => by have := compare_any (h : Int) (l : Int) (h2 : Int) (l2 : Int) v; rw [hz] at this; exact this
  have C4 : Hid (∀ v, Calls Tryd.prog 10 #[.agg #[.int .u64 (h' : Int), .int .u64 (l' : Int)], .agg #[.int .u64 (h : Int), .int .u64 (l : Int)]] v fun e w' => e = .returned (.int .i64 (-x)) ∧ Below v.heap.size v w') := fun v => by have := compare_any (h' : Int) (l' : Int) (h : Int) (l : Int) v; rw [hx2] at this; exact this
  have NX := hide (fun v => next_any (h : Int) (l : Int) v (by omega) (by omega) (by omega) (by omega))
  have t1 : h = 18446744073709551615 ∧ l = 18446744073709551615 := HTOP
  have NV : Hid (nxH (h : Int) (l : Int) = 0 ∧ nxL (h : Int) (l : Int) = 0 ∧ nxE (h : Int) (l : Int) = 20) := by show _ ∧ _ ∧ _; rw [t1.1, t1.2]; decide
  rw [NV.out.1, NV.out.2.1, NV.out.2.2] at NX
  clear NV
  have teq : ((h : Int) == 18446744073709551615 && (l : Int) == 18446744073709551615) = true := by rw [t1.1, t1.2]; decide
  have TOP := hide t1
  clear t1 HTOP
  have zb : (x == 0) = decide ((h : Int) = (h' : Int) ∧ (l : Int) = (l' : Int)) := by rw [Bool.eq_iff_iff]; simp only [beq_iff_eq, decide_eq_true_eq]; exact hx0
  have e1 := fun w => eqlD9 (h : Int) (l : Int) (h' : Int) (l' : Int) w
  have eb : ((h : Int) == (h' : Int) && (l : Int) == (l' : Int)) = (x == 0) := by rw [zb, Bool.eq_iff_iff]; simp
  rw [eb] at e1
  clear zb eb hx0 hx2
  obtain rfl : x = 1 := by omega
  clear hx3 xc
  have PS : Hid (∀ v, Calls Tryd.prog 7 #[.string (prS h l)] v fun e w' => e = .returned (.tuple #[.agg #[.int .u64 (h : Int), .int .u64 (l : Int)], .int .i64 0, .int .i64 0]) ∧ Below v.heap.size v w') := fun v => by
    have z := prS_size h l a1 a2
    have := parse_any (prS h l) v (by omega)
    obtain ⟨p1, p2, p3⟩ := ps_pr h l (by omega) (by omega)
    rw [← bts_prS] at p1 p2 p3
    obtain ⟨m1, m2, m3, m4⟩ := p_ok p1
    rw [m1, m2, m3, m4, p2, p3] at this
    exact this
  have SS := hide (prS_same h l h' l' a1 a2 a3 a4)
  clear hx hy hz
  obtain ⟨w0, hw0⟩ : ∃ w0, ((W.alloc (.cells #[.int .u64 (h : Int), .int .u64 (l : Int)] 24)).alloc (.cells #[.int .u64 (h' : Int), .int .u64 (l' : Int)] 24)).alloc (.cells #[.int .u64 (h2 : Int), .int .u64 (l2 : Int)] 24) = w0 := ⟨_, rfl⟩
  have DA0 : Hid (Dr w0 W.heap.size (h : Int) (l : Int)) := by rw [← hw0]; exact ((Dr.new W _ _ _).al _).al _
  have DB0 : Hid (Dr w0 (W.heap.size + 1) (h' : Int) (l' : Int)) := by rw [← hw0]; have := Dr.new (W.alloc (.cells #[.int .u64 (h : Int), .int .u64 (l : Int)] 24)) (h' : Int) (l' : Int) 24; rw [World.size_alloc] at this; exact this.al _
  have DC0 : Hid (Dr w0 (W.heap.size + 2) (h2 : Int) (l2 : Int)) := by rw [← hw0]; have := Dr.new ((W.alloc (.cells #[.int .u64 (h : Int), .int .u64 (l : Int)] 24)).alloc (.cells #[.int .u64 (h' : Int), .int .u64 (l' : Int)] 24)) (h2 : Int) (l2 : Int) 24; rw [World.size_alloc, World.size_alloc] at this; exact this
  have BW0 : Hid (Below W.heap.size W w0) := by rw [← hw0]; exact (((Below.refl _ _).alloc (Nat.le_refl _) _).alloc (by simp) _).alloc (by simp; omega) _
  obtain ⟨_, ca0, ca1⟩ := DA0.out
  obtain ⟨_, cb0, cb1⟩ := DB0.out
  obtain ⟨_, cc0, cc1⟩ := DC0.out
  go_enter Tryd.func4, Tryd.ntmps4
  go_wp2_with fail
  clear hw0
  clear ca0 ca1 cb0 cb1 cc0 cc1
  refine (C1.out _).mono ?_
  rintro e w1 ⟨rfl, b1⟩
  dsimp only
  have DA1 := hide (DA0.out.bel b1)
  have DB1 := hide (DB0.out.bel b1)
  have DC1 := hide (DC0.out.bel b1)
  have BW1 := hide (Below.on (Nat.le_refl _) BW0.out b1)
  clear b1
  obtain ⟨_, ca0, ca1⟩ := DA1.out
  obtain ⟨_, cb0, cb1⟩ := DB1.out
  obtain ⟨_, cc0, cc1⟩ := DC1.out
  go_wp2_with fail
  clear ca0 ca1 cb0 cb1 cc0 cc1
  refine (C2.out _).mono ?_
  rintro e w2 ⟨rfl, b2⟩
  dsimp only
  have DA2 := hide (DA1.out.bel b2)
  have DB2 := hide (DB1.out.bel b2)
  have DC2 := hide (DC1.out.bel b2)
  have BW2 := hide (Below.on (Nat.le_refl _) BW1.out b2)
  clear b2
  obtain ⟨_, ca0, ca1⟩ := DA2.out
  obtain ⟨_, cb0, cb1⟩ := DB2.out
  obtain ⟨_, cc0, cc1⟩ := DC2.out
  go_wp2_with fail
  clear ca0 ca1 cb0 cb1 cc0 cc1
  refine (C3.out _).mono ?_
  rintro e w3 ⟨rfl, b3⟩
  dsimp only
  have DA3 := hide (DA2.out.bel b3)
  have DB3 := hide (DB2.out.bel b3)
  have DC3 := hide (DC2.out.bel b3)
  have BW3 := hide (Below.on (Nat.le_refl _) BW2.out b3)
  clear b3
  obtain ⟨_, ca0, ca1⟩ := DA3.out
  obtain ⟨_, cb0, cb1⟩ := DB3.out
  obtain ⟨_, cc0, cc1⟩ := DC3.out
  go_wp2_with fail
  clear ca0 ca1 cb0 cb1 cc0 cc1
  refine (C4.out _).mono ?_
  rintro e w4 ⟨rfl, b4⟩
  dsimp only
  have DA4 := hide (DA3.out.bel b4)
  have DB4 := hide (DB3.out.bel b4)
  have DC4 := hide (DC3.out.bel b4)
  have BW4 := hide (Below.on (Nat.le_refl _) BW3.out b4)
  clear b4
  obtain ⟨_, ca0, ca1⟩ := DA4.out
  obtain ⟨_, cb0, cb1⟩ := DB4.out
  obtain ⟨_, cc0, cc1⟩ := DC4.out
  go_wp2_with fail
  clear ca0 ca1 cb0 cb1 cc0 cc1
  refine (NX.out _).mono ?_
  rintro e w5 ⟨rfl, b5⟩
  dsimp only
  have DA5 := hide (DA4.out.bel b5)
  have DB5 := hide (DB4.out.bel b5)
  have DC5 := hide (DC4.out.bel b5)
  have BW5 := hide (Below.on (Nat.le_refl _) BW4.out b5)
  clear b5
  have ca0 := fun o => (DA5.out.al o).c0
  have ca1 := fun o => (DA5.out.al o).c1
  have q7 := fun w => eqlD9 (h : Int) (l : Int) 18446744073709551615 18446744073709551615 w
  rw [teq] at q7
  go_wp2_with fail
  clear ca0 ca1 q7
  obtain ⟨w6, hw6⟩ : ∃ w6, w5.alloc (.cells #[.int .u64 0, .int .u64 0] 24) = w6 := ⟨_, rfl⟩
  have b6 : Below w5.heap.size w5 w6 := by rw [← hw6]; exact (Below.refl _ _).alloc (Nat.le_refl _) _
  rw [hw6]
  clear hw6
  have DA6 := hide (DA5.out.bel b6)
  have DB6 := hide (DB5.out.bel b6)
  have DC6 := hide (DC5.out.bel b6)
  have BW6 := hide (Below.on (Nat.le_refl _) BW5.out b6)
  clear b6
  refine (print_any h l a1 a2 w6 (HT.out.of_below BW6.out)).mono ?_
  rintro e w10 ⟨rfl, b10⟩
  dsimp only
  have DA10 := hide (DA6.out.bel b10)
  have DB10 := hide (DB6.out.bel b10)
  have DC10 := hide (DC6.out.bel b10)
  have BW10 := hide (Below.on (Nat.le_refl _) BW6.out b10)
  clear b10
  go_wp2_with fail
  refine (PS.out w10).mono ?_
  rintro e w11 ⟨rfl, b11⟩
  dsimp only
  have DA11 := hide (DA10.out.bel b11)
  have DB11 := hide (DB10.out.bel b11)
  have DC11 := hide (DC10.out.bel b11)
  have BW11 := hide (Below.on (Nat.le_refl _) BW10.out b11)
  clear b11
  obtain ⟨w12, hw12⟩ : ∃ w12, w11.alloc (.cells #[.int .u64 (h : Int), .int .u64 (l : Int)] 24) = w12 := ⟨_, rfl⟩
  have b12 : Below w11.heap.size w11 w12 := by rw [← hw12]; exact (Below.refl _ _).alloc (Nat.le_refl _) _
  have DD12 : Hid (Dr w12 w11.heap.size (h : Int) (l : Int)) := by rw [← hw12]; exact Dr.new w11 _ _ _
  have DA12 := hide (DA11.out.bel b12)
  have DB12 := hide (DB11.out.bel b12)
  have DC12 := hide (DC11.out.bel b12)
  have BW12 := hide (Below.on (Nat.le_refl _) BW11.out b12)
  clear b12
  go_wp2_with fail
  clear hw12
  have KC : Hid (∀ v, Below w12.heap.size w12 v → Dr v W.heap.size (h : Int) (l : Int) ∧ Dr v (W.heap.size + 1) (h' : Int) (l' : Int) ∧ Dr v w11.heap.size (h : Int) (l : Int)) := fun v hv => ⟨DA12.out.bel hv, DB12.out.bel hv, DD12.out.bel hv⟩
  refine region_q9 (C := fun v => Below w12.heap.size w12 v) (by kernel_rfl) (by kernel_rfl) ((Below.refl _ _).drew) ?_
  refine wqv (u := .int .i64 0) (by kernel_rfl) (fun v hv => by kernel_rfl) ?_
  simp only [Act.put, List.setIfInBounds_toArray, List.set_cons_zero, List.set_cons_succ]
  refine wqv (u := .bool true) (by kernel_rfl) (fun v hv => by go_simp) ?_
  simp only [Act.put, List.setIfInBounds_toArray, List.set_cons_zero, List.set_cons_succ]
  refine wqv (u := .bool true) (by kernel_rfl) (fun v hv => by kernel_rfl) ?_
  simp only [Act.put, List.setIfInBounds_toArray, List.set_cons_zero, List.set_cons_succ]
  refine wqv (u := .int .i64 0) (by kernel_rfl) (fun v hv => by kernel_rfl) ?_
  simp only [Act.put, List.setIfInBounds_toArray, List.set_cons_zero, List.set_cons_succ]
  refine wqv (u := .bool true) (by kernel_rfl) (fun v hv => by go_simp) ?_
  simp only [Act.put, List.setIfInBounds_toArray, List.set_cons_zero, List.set_cons_succ]
  refine wqv (u := .bool true) (by kernel_rfl) (fun v hv => by kernel_rfl) ?_
  simp only [Act.put, List.setIfInBounds_toArray, List.set_cons_zero, List.set_cons_succ]
  refine wqv (u := .bool true) (by kernel_rfl) (fun v hv => by kernel_rfl) ?_
  simp only [Act.put, List.setIfInBounds_toArray, List.set_cons_zero, List.set_cons_succ]
  refine wqv (u := .agg #[.int .u64 (h : Int), .int .u64 (l : Int)]) (by kernel_rfl) (fun v hv => by obtain ⟨_, _, ⟨_, k0, k1⟩⟩ := KC.out v hv; go_simp) ?_
  simp only [Act.put, List.setIfInBounds_toArray, List.set_cons_zero, List.set_cons_succ]
  refine wqv (u := .agg #[.int .u64 (h : Int), .int .u64 (l : Int)]) (by kernel_rfl) (fun v hv => by obtain ⟨⟨_, k0, k1⟩, _, _⟩ := KC.out v hv; go_simp) ?_
  simp only [Act.put, List.setIfInBounds_toArray, List.set_cons_zero, List.set_cons_succ]
  refine wqe (by kernel_rfl) rfl (.agg #[.int .u64 (h : Int), .int .u64 (l : Int)]) (.agg #[.int .u64 (h : Int), .int .u64 (l : Int)]) (.bool true) (by kernel_rfl) (by kernel_rfl) (fun v => (eqlDr9 _ _ _ _ _ _ v).trans (by simp)) ?_
  simp only [Act.put, List.setIfInBounds_toArray, List.set_cons_zero, List.set_cons_succ]
  refine wqv (u := .bool true) (by kernel_rfl) (fun v hv => by kernel_rfl) ?_
  simp only [Act.put, List.setIfInBounds_toArray, List.set_cons_zero, List.set_cons_succ]
  refine wqv (u := .bool true) (by kernel_rfl) (fun v hv => by kernel_rfl) ?_
  simp only [Act.put, List.setIfInBounds_toArray, List.set_cons_zero, List.set_cons_succ]
  refine wqv (u := .string (prS h l)) (by kernel_rfl) (fun v hv => by kernel_rfl) ?_
  simp only [Act.put, List.setIfInBounds_toArray, List.set_cons_zero, List.set_cons_succ]
  refine wqv (u := .agg #[.int .u64 (h' : Int), .int .u64 (l' : Int)]) (by kernel_rfl) (fun v hv => by obtain ⟨_, ⟨_, k0, k1⟩, _⟩ := KC.out v hv; go_simp) ?_
  simp only [Act.put, List.setIfInBounds_toArray, List.set_cons_zero, List.set_cons_succ]
  refine wqc (fid := 6) (args := #[.agg #[.int .u64 (h' : Int), .int .u64 (l' : Int)]]) (u := .string (prS h' l')) (by kernel_rfl) (fun v => by kernel_rfl) (fun v hv => (print_any h' l' a3 a4 v (HT.out.of_below (Below.on (Nat.le_refl _) BW12.out hv))).mono fun e w' h => ⟨h.1, hv.trans (h.2.mono hv.size)⟩) ?_
  simp only [Act.put, List.setIfInBounds_toArray, List.set_cons_zero, List.set_cons_succ]
  refine wqv (u := .bool (decide ((h : Int) = (h' : Int) ∧ (l : Int) = (l' : Int)))) (by kernel_rfl) (fun v hv => by simp only [execOp]; go_simp; rw [SS.out, Bool.decide_and]) ?_
  simp only [Act.put, List.setIfInBounds_toArray, List.set_cons_zero, List.set_cons_succ]
  refine wqv (u := .agg #[.int .u64 (h : Int), .int .u64 (l : Int)]) (by kernel_rfl) (fun v hv => by obtain ⟨⟨_, k0, k1⟩, _, _⟩ := KC.out v hv; go_simp) ?_
  simp only [Act.put, List.setIfInBounds_toArray, List.set_cons_zero, List.set_cons_succ]
  refine wqv (u := .agg #[.int .u64 (h' : Int), .int .u64 (l' : Int)]) (by kernel_rfl) (fun v hv => by obtain ⟨_, ⟨_, k0, k1⟩, _⟩ := KC.out v hv; go_simp) ?_
  simp only [Act.put, List.setIfInBounds_toArray, List.set_cons_zero, List.set_cons_succ]
  refine wqe (by kernel_rfl) rfl (.agg #[.int .u64 (h : Int), .int .u64 (l : Int)]) (.agg #[.int .u64 (h' : Int), .int .u64 (l' : Int)]) (.bool (decide ((h : Int) = (h' : Int) ∧ (l : Int) = (l' : Int)))) (by kernel_rfl) (by kernel_rfl) (fun v => eqlDr9 _ _ _ _ _ _ v) ?_
  simp only [Act.put, List.setIfInBounds_toArray, List.set_cons_zero, List.set_cons_succ]
  refine wqv (u := .bool true) (by kernel_rfl) (fun v hv => by simp only [execOp]; go_simp) ?_
  simp only [Act.put, List.setIfInBounds_toArray, List.set_cons_zero, List.set_cons_succ]
  refine wqv (u := .bool true) (by kernel_rfl) (fun v hv => by kernel_rfl) ?_
  simp only [Act.put, List.setIfInBounds_toArray, List.set_cons_zero, List.set_cons_succ]
  refine wqv (u := .bool true) (by kernel_rfl) (fun v hv => by kernel_rfl) ?_
  simp only [Act.put, List.setIfInBounds_toArray, List.set_cons_zero, List.set_cons_succ]
  refine wqnil (fun v hv => ?_)
  have BV := hide (Below.on (Nat.le_refl _) BW12.out hv)
  clear hv KC
  go_wp2
  go_ret
  exact ⟨rfl, BV.out⟩
set_option maxRecDepth 100000 in
set_option maxHeartbeats 2000000 in
theorem btw_p0 (h l h' l' h2 l2 : Nat) (a1 : h < 18446744073709551616) (a2 : l < 18446744073709551616) (a3 : h' < 18446744073709551616) (a4 : l' < 18446744073709551616) (W : World) (ht : Tab W) (xc : cmpD (h : Int) (l : Int) (h' : Int) (l' : Int) = 1) (ntop : ¬ (h = 18446744073709551615 ∧ l = 18446744073709551615)) :
    Calls Tryd.prog 4 #[.agg #[.int .u64 (h : Int), .int .u64 (l : Int)], .agg #[.int .u64 (h' : Int), .int .u64 (l' : Int)], .agg #[.int .u64 (h2 : Int), .int .u64 (l2 : Int)]] W fun e w' => e = .returned (.bool true) ∧ Below W.heap.size W w' := by
  have HT := hide ht
  clear ht
  obtain ⟨x, hx⟩ : ∃ x, cmpD (h : Int) (l : Int) (h' : Int) (l' : Int) = x := ⟨_, rfl⟩
  obtain ⟨y, hy⟩ : ∃ y, cmpD (h' : Int) (l' : Int) (h2 : Int) (l2 : Int) = y := ⟨_, rfl⟩
  obtain ⟨z, hz⟩ : ∃ z, cmpD (h : Int) (l : Int) (h2 : Int) (l2 : Int) = z := ⟨_, rfl⟩
  have hx2 := cmp_neg (h : Int) (l : Int) (h' : Int) (l' : Int)
  have hx3 := cmp_three (h : Int) (l : Int) (h' : Int) (l' : Int)
  have hx0 := cmp_zero (h : Int) (l : Int) (h' : Int) (l' : Int)
  rw [hx] at hx2 hx3 hx0
  have C1 : Hid (∀ v, Calls Tryd.prog 10 #[.agg #[.int .u64 (h : Int), .int .u64 (l : Int)], .agg #[.int .u64 (h' : Int), .int .u64 (l' : Int)]] v fun e w' => e = .returned (.int .i64 x) ∧ Below v.heap.size v w') := fun v => by have := compare_any (h : Int) (l : Int) (h' : Int) (l' : Int) v; rw [hx] at this; exact this
  have C2 : Hid (∀ v, Calls Tryd.prog 10 #[.agg #[.int .u64 (h' : Int), .int .u64 (l' : Int)], .agg #[.int .u64 (h2 : Int), .int .u64 (l2 : Int)]] v fun e w' => e = .returned (.int .i64 y) ∧ Below v.heap.size v w') := fun v => by have := compare_any (h' : Int) (l' : Int) (h2 : Int) (l2 : Int) v; rw [hy] at this; exact this
  have C3 : Hid (∀ v, Calls Tryd.prog 10 #[.agg #[.int .u64 (h : Int), .int .u64 (l : Int)], .agg #[.int .u64 (h2 : Int), .int .u64 (l2 : Int)]] v fun e w' => e = .returned (.int .i64 z) ∧ Below v.heap.size v w') := fun v => by have := compare_any (h : Int) (l : Int) (h2 : Int) (l2 : Int) v; rw [hz] at this; exact this
  have C4 : Hid (∀ v, Calls Tryd.prog 10 #[.agg #[.int .u64 (h' : Int), .int .u64 (l' : Int)], .agg #[.int .u64 (h : Int), .int .u64 (l : Int)]] v fun e w' => e = .returned (.int .i64 (-x)) ∧ Below v.heap.size v w') := fun v => by have := compare_any (h' : Int) (l' : Int) (h : Int) (l : Int) v; rw [hx2] at this; exact this
  have NX := hide (fun v => next_any (h : Int) (l : Int) v (by omega) (by omega) (by omega) (by omega))
  have na := nx_above (h : Int) (l : Int) (by omega) (by omega) (by omega) (by omega) (by omega)
  rw [na.2] at NX
  have teq : ((h : Int) == 18446744073709551615 && (l : Int) == 18446744073709551615) = false := by rw [Bool.and_eq_false_iff]; by_cases e : h = 18446744073709551615; right; simp; omega; left; simp; omega
  obtain ⟨nh, hnh⟩ : ∃ nh, nxH (h : Int) (l : Int) = nh := ⟨_, rfl⟩
  obtain ⟨nl, hnl⟩ : ∃ nl, nxL (h : Int) (l : Int) = nl := ⟨_, rfl⟩
  rw [hnh, hnl] at NX na
  have C5 : Hid (∀ v, Calls Tryd.prog 10 #[.agg #[.int .u64 (h : Int), .int .u64 (l : Int)], .agg #[.int .u64 nh, .int .u64 nl]] v fun e w' => e = .returned (.int .i64 (-1)) ∧ Below v.heap.size v w') := fun v => by have := compare_any (h : Int) (l : Int) nh nl v; rw [na.1] at this; exact this
  clear na hnh hnl ntop
  have zb : (x == 0) = decide ((h : Int) = (h' : Int) ∧ (l : Int) = (l' : Int)) := by rw [Bool.eq_iff_iff]; simp only [beq_iff_eq, decide_eq_true_eq]; exact hx0
  have e1 := fun w => eqlD9 (h : Int) (l : Int) (h' : Int) (l' : Int) w
  have eb : ((h : Int) == (h' : Int) && (l : Int) == (l' : Int)) = (x == 0) := by rw [zb, Bool.eq_iff_iff]; simp
  rw [eb] at e1
  clear zb eb hx0 hx2
  obtain rfl : x = 1 := by omega
  clear hx3 xc
  have PS : Hid (∀ v, Calls Tryd.prog 7 #[.string (prS h l)] v fun e w' => e = .returned (.tuple #[.agg #[.int .u64 (h : Int), .int .u64 (l : Int)], .int .i64 0, .int .i64 0]) ∧ Below v.heap.size v w') := fun v => by
    have z := prS_size h l a1 a2
    have := parse_any (prS h l) v (by omega)
    obtain ⟨p1, p2, p3⟩ := ps_pr h l (by omega) (by omega)
    rw [← bts_prS] at p1 p2 p3
    obtain ⟨m1, m2, m3, m4⟩ := p_ok p1
    rw [m1, m2, m3, m4, p2, p3] at this
    exact this
  have SS := hide (prS_same h l h' l' a1 a2 a3 a4)
  clear hx hy hz
  obtain ⟨w0, hw0⟩ : ∃ w0, ((W.alloc (.cells #[.int .u64 (h : Int), .int .u64 (l : Int)] 24)).alloc (.cells #[.int .u64 (h' : Int), .int .u64 (l' : Int)] 24)).alloc (.cells #[.int .u64 (h2 : Int), .int .u64 (l2 : Int)] 24) = w0 := ⟨_, rfl⟩
  have DA0 : Hid (Dr w0 W.heap.size (h : Int) (l : Int)) := by rw [← hw0]; exact ((Dr.new W _ _ _).al _).al _
  have DB0 : Hid (Dr w0 (W.heap.size + 1) (h' : Int) (l' : Int)) := by rw [← hw0]; have := Dr.new (W.alloc (.cells #[.int .u64 (h : Int), .int .u64 (l : Int)] 24)) (h' : Int) (l' : Int) 24; rw [World.size_alloc] at this; exact this.al _
  have DC0 : Hid (Dr w0 (W.heap.size + 2) (h2 : Int) (l2 : Int)) := by rw [← hw0]; have := Dr.new ((W.alloc (.cells #[.int .u64 (h : Int), .int .u64 (l : Int)] 24)).alloc (.cells #[.int .u64 (h' : Int), .int .u64 (l' : Int)] 24)) (h2 : Int) (l2 : Int) 24; rw [World.size_alloc, World.size_alloc] at this; exact this
  have BW0 : Hid (Below W.heap.size W w0) := by rw [← hw0]; exact (((Below.refl _ _).alloc (Nat.le_refl _) _).alloc (by simp) _).alloc (by simp; omega) _
  obtain ⟨_, ca0, ca1⟩ := DA0.out
  obtain ⟨_, cb0, cb1⟩ := DB0.out
  obtain ⟨_, cc0, cc1⟩ := DC0.out
  go_enter Tryd.func4, Tryd.ntmps4
  go_wp2_with fail
  clear hw0
  clear ca0 ca1 cb0 cb1 cc0 cc1
  refine (C1.out _).mono ?_
  rintro e w1 ⟨rfl, b1⟩
  dsimp only
  have DA1 := hide (DA0.out.bel b1)
  have DB1 := hide (DB0.out.bel b1)
  have DC1 := hide (DC0.out.bel b1)
  have BW1 := hide (Below.on (Nat.le_refl _) BW0.out b1)
  clear b1
  obtain ⟨_, ca0, ca1⟩ := DA1.out
  obtain ⟨_, cb0, cb1⟩ := DB1.out
  obtain ⟨_, cc0, cc1⟩ := DC1.out
  go_wp2_with fail
  clear ca0 ca1 cb0 cb1 cc0 cc1
  refine (C2.out _).mono ?_
  rintro e w2 ⟨rfl, b2⟩
  dsimp only
  have DA2 := hide (DA1.out.bel b2)
  have DB2 := hide (DB1.out.bel b2)
  have DC2 := hide (DC1.out.bel b2)
  have BW2 := hide (Below.on (Nat.le_refl _) BW1.out b2)
  clear b2
  obtain ⟨_, ca0, ca1⟩ := DA2.out
  obtain ⟨_, cb0, cb1⟩ := DB2.out
  obtain ⟨_, cc0, cc1⟩ := DC2.out
  go_wp2_with fail
  clear ca0 ca1 cb0 cb1 cc0 cc1
  refine (C3.out _).mono ?_
  rintro e w3 ⟨rfl, b3⟩
  dsimp only
  have DA3 := hide (DA2.out.bel b3)
  have DB3 := hide (DB2.out.bel b3)
  have DC3 := hide (DC2.out.bel b3)
  have BW3 := hide (Below.on (Nat.le_refl _) BW2.out b3)
  clear b3
  obtain ⟨_, ca0, ca1⟩ := DA3.out
  obtain ⟨_, cb0, cb1⟩ := DB3.out
  obtain ⟨_, cc0, cc1⟩ := DC3.out
  go_wp2_with fail
  clear ca0 ca1 cb0 cb1 cc0 cc1
  refine (C4.out _).mono ?_
  rintro e w4 ⟨rfl, b4⟩
  dsimp only
  have DA4 := hide (DA3.out.bel b4)
  have DB4 := hide (DB3.out.bel b4)
  have DC4 := hide (DC3.out.bel b4)
  have BW4 := hide (Below.on (Nat.le_refl _) BW3.out b4)
  clear b4
  obtain ⟨_, ca0, ca1⟩ := DA4.out
  obtain ⟨_, cb0, cb1⟩ := DB4.out
  obtain ⟨_, cc0, cc1⟩ := DC4.out
  go_wp2_with fail
  clear ca0 ca1 cb0 cb1 cc0 cc1
  refine (NX.out _).mono ?_
  rintro e w5 ⟨rfl, b5⟩
  dsimp only
  have DA5 := hide (DA4.out.bel b5)
  have DB5 := hide (DB4.out.bel b5)
  have DC5 := hide (DC4.out.bel b5)
  have BW5 := hide (Below.on (Nat.le_refl _) BW4.out b5)
  clear b5
  obtain ⟨w6, hw6⟩ : ∃ w6, w5.alloc (.cells #[.int .u64 nh, .int .u64 nl] 24) = w6 := ⟨_, rfl⟩
  have b6 : Below w5.heap.size w5 w6 := by rw [← hw6]; exact (Below.refl _ _).alloc (Nat.le_refl _) _
  have DN6 : Hid (Dr w6 w5.heap.size nh nl) := by rw [← hw6]; exact Dr.new w5 _ _ _
  have DA6 := hide (DA5.out.bel b6)
  have DB6 := hide (DB5.out.bel b6)
  have DC6 := hide (DC5.out.bel b6)
  have BW6 := hide (Below.on (Nat.le_refl _) BW5.out b6)
  clear b6
  obtain ⟨_, ca0, ca1⟩ := DA6.out
  obtain ⟨_, cb0, cb1⟩ := DB6.out
  obtain ⟨_, cc0, cc1⟩ := DC6.out
  obtain ⟨_, cn0, cn1⟩ := DN6.out
  have q7 := fun w => eqlD9 (h : Int) (l : Int) 18446744073709551615 18446744073709551615 w
  rw [teq] at q7
  go_wp2_with fail
  clear hw6 q7
  clear ca0 ca1 cb0 cb1 cc0 cc1 cn0 cn1
  refine (C5.out _).mono ?_
  rintro e w7 ⟨rfl, b7⟩
  dsimp only
  have DA7 := hide (DA6.out.bel b7)
  have DB7 := hide (DB6.out.bel b7)
  have DC7 := hide (DC6.out.bel b7)
  have DN7 := hide (DN6.out.bel b7)
  have BW7 := hide (Below.on (Nat.le_refl _) BW6.out b7)
  clear b7
  obtain ⟨_, ca0, ca1⟩ := DA7.out
  obtain ⟨_, cb0, cb1⟩ := DB7.out
  obtain ⟨_, cc0, cc1⟩ := DC7.out
  obtain ⟨_, cn0, cn1⟩ := DN7.out
  go_wp2_with fail
  clear ca0 ca1 cb0 cb1 cc0 cc1 cn0 cn1
  refine (C1.out _).mono ?_
  rintro e w8 ⟨rfl, b8⟩
  dsimp only
  have DA8 := hide (DA7.out.bel b8)
  have DB8 := hide (DB7.out.bel b8)
  have DC8 := hide (DC7.out.bel b8)
  have DN8 := hide (DN7.out.bel b8)
  have BW8 := hide (Below.on (Nat.le_refl _) BW7.out b8)
  clear b8
  obtain ⟨_, ca0, ca1⟩ := DA8.out
  obtain ⟨_, cb0, cb1⟩ := DB8.out
  obtain ⟨_, cc0, cc1⟩ := DC8.out
  obtain ⟨_, cn0, cn1⟩ := DN8.out
  go_wp2_with fail
  clear ca0 ca1 cb0 cb1 cc0 cc1 cn0 cn1
  refine (print_any h l a1 a2 w8 (HT.out.of_below BW8.out)).mono ?_
  rintro e w10 ⟨rfl, b10⟩
  dsimp only
  have DA10 := hide (DA8.out.bel b10)
  have DB10 := hide (DB8.out.bel b10)
  have DC10 := hide (DC8.out.bel b10)
  have BW10 := hide (Below.on (Nat.le_refl _) BW8.out b10)
  clear b10
  go_wp2_with fail
  refine (PS.out w10).mono ?_
  rintro e w11 ⟨rfl, b11⟩
  dsimp only
  have DA11 := hide (DA10.out.bel b11)
  have DB11 := hide (DB10.out.bel b11)
  have DC11 := hide (DC10.out.bel b11)
  have BW11 := hide (Below.on (Nat.le_refl _) BW10.out b11)
  clear b11
  obtain ⟨w12, hw12⟩ : ∃ w12, w11.alloc (.cells #[.int .u64 (h : Int), .int .u64 (l : Int)] 24) = w12 := ⟨_, rfl⟩
  have b12 : Below w11.heap.size w11 w12 := by rw [← hw12]; exact (Below.refl _ _).alloc (Nat.le_refl _) _
  have DD12 : Hid (Dr w12 w11.heap.size (h : Int) (l : Int)) := by rw [← hw12]; exact Dr.new w11 _ _ _
  have DA12 := hide (DA11.out.bel b12)
  have DB12 := hide (DB11.out.bel b12)
  have DC12 := hide (DC11.out.bel b12)
  have BW12 := hide (Below.on (Nat.le_refl _) BW11.out b12)
  clear b12
  go_wp2_with fail
  clear hw12
  have KC : Hid (∀ v, Below w12.heap.size w12 v → Dr v W.heap.size (h : Int) (l : Int) ∧ Dr v (W.heap.size + 1) (h' : Int) (l' : Int) ∧ Dr v w11.heap.size (h : Int) (l : Int)) := fun v hv => ⟨DA12.out.bel hv, DB12.out.bel hv, DD12.out.bel hv⟩
  refine region_q9 (C := fun v => Below w12.heap.size w12 v) (by kernel_rfl) (by kernel_rfl) ((Below.refl _ _).drew) ?_
  refine wqv (u := .int .i64 0) (by kernel_rfl) (fun v hv => by kernel_rfl) ?_
  simp only [Act.put, List.setIfInBounds_toArray, List.set_cons_zero, List.set_cons_succ]
  refine wqv (u := .bool true) (by kernel_rfl) (fun v hv => by go_simp) ?_
  simp only [Act.put, List.setIfInBounds_toArray, List.set_cons_zero, List.set_cons_succ]
  refine wqv (u := .bool true) (by kernel_rfl) (fun v hv => by kernel_rfl) ?_
  simp only [Act.put, List.setIfInBounds_toArray, List.set_cons_zero, List.set_cons_succ]
  refine wqv (u := .int .i64 0) (by kernel_rfl) (fun v hv => by kernel_rfl) ?_
  simp only [Act.put, List.setIfInBounds_toArray, List.set_cons_zero, List.set_cons_succ]
  refine wqv (u := .bool true) (by kernel_rfl) (fun v hv => by go_simp) ?_
  simp only [Act.put, List.setIfInBounds_toArray, List.set_cons_zero, List.set_cons_succ]
  refine wqv (u := .bool true) (by kernel_rfl) (fun v hv => by kernel_rfl) ?_
  simp only [Act.put, List.setIfInBounds_toArray, List.set_cons_zero, List.set_cons_succ]
  refine wqv (u := .bool true) (by kernel_rfl) (fun v hv => by kernel_rfl) ?_
  simp only [Act.put, List.setIfInBounds_toArray, List.set_cons_zero, List.set_cons_succ]
  refine wqv (u := .agg #[.int .u64 (h : Int), .int .u64 (l : Int)]) (by kernel_rfl) (fun v hv => by obtain ⟨_, _, ⟨_, k0, k1⟩⟩ := KC.out v hv; go_simp) ?_
  simp only [Act.put, List.setIfInBounds_toArray, List.set_cons_zero, List.set_cons_succ]
  refine wqv (u := .agg #[.int .u64 (h : Int), .int .u64 (l : Int)]) (by kernel_rfl) (fun v hv => by obtain ⟨⟨_, k0, k1⟩, _, _⟩ := KC.out v hv; go_simp) ?_
  simp only [Act.put, List.setIfInBounds_toArray, List.set_cons_zero, List.set_cons_succ]
  refine wqe (by kernel_rfl) rfl (.agg #[.int .u64 (h : Int), .int .u64 (l : Int)]) (.agg #[.int .u64 (h : Int), .int .u64 (l : Int)]) (.bool true) (by kernel_rfl) (by kernel_rfl) (fun v => (eqlDr9 _ _ _ _ _ _ v).trans (by simp)) ?_
  simp only [Act.put, List.setIfInBounds_toArray, List.set_cons_zero, List.set_cons_succ]
  refine wqv (u := .bool true) (by kernel_rfl) (fun v hv => by kernel_rfl) ?_
  simp only [Act.put, List.setIfInBounds_toArray, List.set_cons_zero, List.set_cons_succ]
  refine wqv (u := .bool true) (by kernel_rfl) (fun v hv => by kernel_rfl) ?_
  simp only [Act.put, List.setIfInBounds_toArray, List.set_cons_zero, List.set_cons_succ]
  refine wqv (u := .string (prS h l)) (by kernel_rfl) (fun v hv => by kernel_rfl) ?_
  simp only [Act.put, List.setIfInBounds_toArray, List.set_cons_zero, List.set_cons_succ]
  refine wqv (u := .agg #[.int .u64 (h' : Int), .int .u64 (l' : Int)]) (by kernel_rfl) (fun v hv => by obtain ⟨_, ⟨_, k0, k1⟩, _⟩ := KC.out v hv; go_simp) ?_
  simp only [Act.put, List.setIfInBounds_toArray, List.set_cons_zero, List.set_cons_succ]
  refine wqc (fid := 6) (args := #[.agg #[.int .u64 (h' : Int), .int .u64 (l' : Int)]]) (u := .string (prS h' l')) (by kernel_rfl) (fun v => by kernel_rfl) (fun v hv => (print_any h' l' a3 a4 v (HT.out.of_below (Below.on (Nat.le_refl _) BW12.out hv))).mono fun e w' h => ⟨h.1, hv.trans (h.2.mono hv.size)⟩) ?_
  simp only [Act.put, List.setIfInBounds_toArray, List.set_cons_zero, List.set_cons_succ]
  refine wqv (u := .bool (decide ((h : Int) = (h' : Int) ∧ (l : Int) = (l' : Int)))) (by kernel_rfl) (fun v hv => by simp only [execOp]; go_simp; rw [SS.out, Bool.decide_and]) ?_
  simp only [Act.put, List.setIfInBounds_toArray, List.set_cons_zero, List.set_cons_succ]
  refine wqv (u := .agg #[.int .u64 (h : Int), .int .u64 (l : Int)]) (by kernel_rfl) (fun v hv => by obtain ⟨⟨_, k0, k1⟩, _, _⟩ := KC.out v hv; go_simp) ?_
  simp only [Act.put, List.setIfInBounds_toArray, List.set_cons_zero, List.set_cons_succ]
  refine wqv (u := .agg #[.int .u64 (h' : Int), .int .u64 (l' : Int)]) (by kernel_rfl) (fun v hv => by obtain ⟨_, ⟨_, k0, k1⟩, _⟩ := KC.out v hv; go_simp) ?_
  simp only [Act.put, List.setIfInBounds_toArray, List.set_cons_zero, List.set_cons_succ]
  refine wqe (by kernel_rfl) rfl (.agg #[.int .u64 (h : Int), .int .u64 (l : Int)]) (.agg #[.int .u64 (h' : Int), .int .u64 (l' : Int)]) (.bool (decide ((h : Int) = (h' : Int) ∧ (l : Int) = (l' : Int)))) (by kernel_rfl) (by kernel_rfl) (fun v => eqlDr9 _ _ _ _ _ _ v) ?_
  simp only [Act.put, List.setIfInBounds_toArray, List.set_cons_zero, List.set_cons_succ]
  refine wqv (u := .bool true) (by kernel_rfl) (fun v hv => by simp only [execOp]; go_simp) ?_
  simp only [Act.put, List.setIfInBounds_toArray, List.set_cons_zero, List.set_cons_succ]
  refine wqv (u := .bool true) (by kernel_rfl) (fun v hv => by kernel_rfl) ?_
  simp only [Act.put, List.setIfInBounds_toArray, List.set_cons_zero, List.set_cons_succ]
  refine wqv (u := .bool true) (by kernel_rfl) (fun v hv => by kernel_rfl) ?_
  simp only [Act.put, List.setIfInBounds_toArray, List.set_cons_zero, List.set_cons_succ]
  refine wqnil (fun v hv => ?_)
  have BV := hide (Below.on (Nat.le_refl _) BW12.out hv)
  clear hv KC
  go_wp2
  go_ret
  exact ⟨rfl, BV.out⟩
set_option maxRecDepth 100000 in
set_option maxHeartbeats 2000000 in
theorem btw_zl1 (h l h' l' h2 l2 : Nat) (a1 : h < 18446744073709551616) (a2 : l < 18446744073709551616) (a3 : h' < 18446744073709551616) (a4 : l' < 18446744073709551616) (W : World) (ht : Tab W) (xc : cmpD (h : Int) (l : Int) (h' : Int) (l' : Int) = 0) (yc : cmpD (h' : Int) (l' : Int) (h2 : Int) (l2 : Int) ≤ 0) (HTOP : h = 18446744073709551615 ∧ l = 18446744073709551615) :
    Calls Tryd.prog 4 #[.agg #[.int .u64 (h : Int), .int .u64 (l : Int)], .agg #[.int .u64 (h' : Int), .int .u64 (l' : Int)], .agg #[.int .u64 (h2 : Int), .int .u64 (l2 : Int)]] W fun e w' => e = .returned (.bool true) ∧ Below W.heap.size W w' := by
  have HT := hide ht
  clear ht
  obtain ⟨x, hx⟩ : ∃ x, cmpD (h : Int) (l : Int) (h' : Int) (l' : Int) = x := ⟨_, rfl⟩
  obtain ⟨y, hy⟩ : ∃ y, cmpD (h' : Int) (l' : Int) (h2 : Int) (l2 : Int) = y := ⟨_, rfl⟩
  obtain ⟨z, hz⟩ : ∃ z, cmpD (h : Int) (l : Int) (h2 : Int) (l2 : Int) = z := ⟨_, rfl⟩
  have hx2 := cmp_neg (h : Int) (l : Int) (h' : Int) (l' : Int)
  have hx3 := cmp_three (h : Int) (l : Int) (h' : Int) (l' : Int)
  have hx0 := cmp_zero (h : Int) (l : Int) (h' : Int) (l' : Int)
  rw [hx] at hx2 hx3 hx0
  have C1 : Hid (∀ v, Calls Tryd.prog 10 #[.agg #[.int .u64 (h : Int), .int .u64 (l : Int)], .agg #[.int .u64 (h' : Int), .int .u64 (l' : Int)]] v fun e w' => e = .returned (.int .i64 x) ∧ Below v.heap.size v w') := fun v => by have := compare_any (h : Int) (l : Int) (h' : Int) (l' : Int) v; rw [hx] at this; exact this
  have C2 : Hid (∀ v, Calls Tryd.prog 10 #[.agg #[.int .u64 (h' : Int), .int .u64 (l' : Int)], .agg #[.int .u64 (h2 : Int), .int .u64 (l2 : Int)]] v fun e w' => e = .returned (.int .i64 y) ∧ Below v.heap.size v w') := fun v => by have := compare_any (h' : Int) (l' : Int) (h2 : Int) (l2 : Int) v; rw [hy] at this; exact this
  have C3 : Hid (∀ v, Calls Tryd.prog 10 #[.agg #[.int .u64 (h : Int), .int .u64 (l : Int)], .agg #[.int .u64 (h2 : Int), .int .u64 (l2 : Int)]] v fun e w' => e = .returned (.int .i64 z) ∧ Below v.heap.size v w') := fun v => by have := compare_any (h : Int) (l : Int) (h2 : Int) (l2 : Int) v; rw [hz] at this; exact this
  have C4 : Hid (∀ v, Calls Tryd.prog 10 #[.agg #[.int .u64 (h' : Int), .int .u64 (l' : Int)], .agg #[.int .u64 (h : Int), .int .u64 (l : Int)]] v fun e w' => e = .returned (.int .i64 (-x)) ∧ Below v.heap.size v w') := fun v => by have := compare_any (h' : Int) (l' : Int) (h : Int) (l : Int) v; rw [hx2] at this; exact this
  have NX := hide (fun v => next_any (h : Int) (l : Int) v (by omega) (by omega) (by omega) (by omega))
  have t1 : h = 18446744073709551615 ∧ l = 18446744073709551615 := HTOP
  have NV : Hid (nxH (h : Int) (l : Int) = 0 ∧ nxL (h : Int) (l : Int) = 0 ∧ nxE (h : Int) (l : Int) = 20) := by show _ ∧ _ ∧ _; rw [t1.1, t1.2]; decide
  rw [NV.out.1, NV.out.2.1, NV.out.2.2] at NX
  clear NV
  have teq : ((h : Int) == 18446744073709551615 && (l : Int) == 18446744073709551615) = true := by rw [t1.1, t1.2]; decide
  have TOP := hide t1
  clear t1 HTOP
  have zb : (x == 0) = decide ((h : Int) = (h' : Int) ∧ (l : Int) = (l' : Int)) := by rw [Bool.eq_iff_iff]; simp only [beq_iff_eq, decide_eq_true_eq]; exact hx0
  have e1 := fun w => eqlD9 (h : Int) (l : Int) (h' : Int) (l' : Int) w
  have eb : ((h : Int) == (h' : Int) && (l : Int) == (l' : Int)) = (x == 0) := by rw [zb, Bool.eq_iff_iff]; simp
  rw [eb] at e1
  clear zb eb hx0 hx2
  have zc := cmp_le (h : Int) (l : Int) (h' : Int) (l' : Int) (h2 : Int) (l2 : Int) (by omega) yc
  obtain rfl : x = 0 := by omega
  have y1 : decide (y ≤ 0) = true := by rw [decide_eq_true_eq]; omega
  have z1 : decide (0 < z) = false := by rw [decide_eq_false_iff_not]; omega
  clear hx3 xc yc zc
  have PS : Hid (∀ v, Calls Tryd.prog 7 #[.string (prS h l)] v fun e w' => e = .returned (.tuple #[.agg #[.int .u64 (h : Int), .int .u64 (l : Int)], .int .i64 0, .int .i64 0]) ∧ Below v.heap.size v w') := fun v => by
    have z := prS_size h l a1 a2
    have := parse_any (prS h l) v (by omega)
    obtain ⟨p1, p2, p3⟩ := ps_pr h l (by omega) (by omega)
    rw [← bts_prS] at p1 p2 p3
    obtain ⟨m1, m2, m3, m4⟩ := p_ok p1
    rw [m1, m2, m3, m4, p2, p3] at this
    exact this
  have SS := hide (prS_same h l h' l' a1 a2 a3 a4)
  clear hx hy hz
  obtain ⟨w0, hw0⟩ : ∃ w0, ((W.alloc (.cells #[.int .u64 (h : Int), .int .u64 (l : Int)] 24)).alloc (.cells #[.int .u64 (h' : Int), .int .u64 (l' : Int)] 24)).alloc (.cells #[.int .u64 (h2 : Int), .int .u64 (l2 : Int)] 24) = w0 := ⟨_, rfl⟩
  have DA0 : Hid (Dr w0 W.heap.size (h : Int) (l : Int)) := by rw [← hw0]; exact ((Dr.new W _ _ _).al _).al _
  have DB0 : Hid (Dr w0 (W.heap.size + 1) (h' : Int) (l' : Int)) := by rw [← hw0]; have := Dr.new (W.alloc (.cells #[.int .u64 (h : Int), .int .u64 (l : Int)] 24)) (h' : Int) (l' : Int) 24; rw [World.size_alloc] at this; exact this.al _
  have DC0 : Hid (Dr w0 (W.heap.size + 2) (h2 : Int) (l2 : Int)) := by rw [← hw0]; have := Dr.new ((W.alloc (.cells #[.int .u64 (h : Int), .int .u64 (l : Int)] 24)).alloc (.cells #[.int .u64 (h' : Int), .int .u64 (l' : Int)] 24)) (h2 : Int) (l2 : Int) 24; rw [World.size_alloc, World.size_alloc] at this; exact this
  have BW0 : Hid (Below W.heap.size W w0) := by rw [← hw0]; exact (((Below.refl _ _).alloc (Nat.le_refl _) _).alloc (by simp) _).alloc (by simp; omega) _
  obtain ⟨_, ca0, ca1⟩ := DA0.out
  obtain ⟨_, cb0, cb1⟩ := DB0.out
  obtain ⟨_, cc0, cc1⟩ := DC0.out
  go_enter Tryd.func4, Tryd.ntmps4
  go_wp2_with fail
  clear hw0
  clear ca0 ca1 cb0 cb1 cc0 cc1
  refine (C1.out _).mono ?_
  rintro e w1 ⟨rfl, b1⟩
  dsimp only
  have DA1 := hide (DA0.out.bel b1)
  have DB1 := hide (DB0.out.bel b1)
  have DC1 := hide (DC0.out.bel b1)
  have BW1 := hide (Below.on (Nat.le_refl _) BW0.out b1)
  clear b1
  obtain ⟨_, ca0, ca1⟩ := DA1.out
  obtain ⟨_, cb0, cb1⟩ := DB1.out
  obtain ⟨_, cc0, cc1⟩ := DC1.out
  go_wp2_with fail
  clear ca0 ca1 cb0 cb1 cc0 cc1
  refine (C2.out _).mono ?_
  rintro e w2 ⟨rfl, b2⟩
  dsimp only
  have DA2 := hide (DA1.out.bel b2)
  have DB2 := hide (DB1.out.bel b2)
  have DC2 := hide (DC1.out.bel b2)
  have BW2 := hide (Below.on (Nat.le_refl _) BW1.out b2)
  clear b2
  obtain ⟨_, ca0, ca1⟩ := DA2.out
  obtain ⟨_, cb0, cb1⟩ := DB2.out
  obtain ⟨_, cc0, cc1⟩ := DC2.out
  go_wp2_with fail
  clear ca0 ca1 cb0 cb1 cc0 cc1
  refine (C3.out _).mono ?_
  rintro e w3 ⟨rfl, b3⟩
  dsimp only
  have DA3 := hide (DA2.out.bel b3)
  have DB3 := hide (DB2.out.bel b3)
  have DC3 := hide (DC2.out.bel b3)
  have BW3 := hide (Below.on (Nat.le_refl _) BW2.out b3)
  clear b3
  obtain ⟨_, ca0, ca1⟩ := DA3.out
  obtain ⟨_, cb0, cb1⟩ := DB3.out
  obtain ⟨_, cc0, cc1⟩ := DC3.out
  go_wp2_with fail
  clear ca0 ca1 cb0 cb1 cc0 cc1
  refine (C4.out _).mono ?_
  rintro e w4 ⟨rfl, b4⟩
  dsimp only
  have DA4 := hide (DA3.out.bel b4)
  have DB4 := hide (DB3.out.bel b4)
  have DC4 := hide (DC3.out.bel b4)
  have BW4 := hide (Below.on (Nat.le_refl _) BW3.out b4)
  clear b4
  obtain ⟨_, ca0, ca1⟩ := DA4.out
  obtain ⟨_, cb0, cb1⟩ := DB4.out
  obtain ⟨_, cc0, cc1⟩ := DC4.out
  go_wp2_with fail
  clear ca0 ca1 cb0 cb1 cc0 cc1
  refine (NX.out _).mono ?_
  rintro e w5 ⟨rfl, b5⟩
  dsimp only
  have DA5 := hide (DA4.out.bel b5)
  have DB5 := hide (DB4.out.bel b5)
  have DC5 := hide (DC4.out.bel b5)
  have BW5 := hide (Below.on (Nat.le_refl _) BW4.out b5)
  clear b5
  have ca0 := fun o => (DA5.out.al o).c0
  have ca1 := fun o => (DA5.out.al o).c1
  have q7 := fun w => eqlD9 (h : Int) (l : Int) 18446744073709551615 18446744073709551615 w
  rw [teq] at q7
  go_wp2_with fail
  clear ca0 ca1 q7
  obtain ⟨w6, hw6⟩ : ∃ w6, w5.alloc (.cells #[.int .u64 0, .int .u64 0] 24) = w6 := ⟨_, rfl⟩
  have b6 : Below w5.heap.size w5 w6 := by rw [← hw6]; exact (Below.refl _ _).alloc (Nat.le_refl _) _
  rw [hw6]
  clear hw6
  have DA6 := hide (DA5.out.bel b6)
  have DB6 := hide (DB5.out.bel b6)
  have DC6 := hide (DC5.out.bel b6)
  have BW6 := hide (Below.on (Nat.le_refl _) BW5.out b6)
  clear b6
  refine (print_any h l a1 a2 w6 (HT.out.of_below BW6.out)).mono ?_
  rintro e w10 ⟨rfl, b10⟩
  dsimp only
  have DA10 := hide (DA6.out.bel b10)
  have DB10 := hide (DB6.out.bel b10)
  have DC10 := hide (DC6.out.bel b10)
  have BW10 := hide (Below.on (Nat.le_refl _) BW6.out b10)
  clear b10
  go_wp2_with fail
  refine (PS.out w10).mono ?_
  rintro e w11 ⟨rfl, b11⟩
  dsimp only
  have DA11 := hide (DA10.out.bel b11)
  have DB11 := hide (DB10.out.bel b11)
  have DC11 := hide (DC10.out.bel b11)
  have BW11 := hide (Below.on (Nat.le_refl _) BW10.out b11)
  clear b11
  obtain ⟨w12, hw12⟩ : ∃ w12, w11.alloc (.cells #[.int .u64 (h : Int), .int .u64 (l : Int)] 24) = w12 := ⟨_, rfl⟩
  have b12 : Below w11.heap.size w11 w12 := by rw [← hw12]; exact (Below.refl _ _).alloc (Nat.le_refl _) _
  have DD12 : Hid (Dr w12 w11.heap.size (h : Int) (l : Int)) := by rw [← hw12]; exact Dr.new w11 _ _ _
  have DA12 := hide (DA11.out.bel b12)
  have DB12 := hide (DB11.out.bel b12)
  have DC12 := hide (DC11.out.bel b12)
  have BW12 := hide (Below.on (Nat.le_refl _) BW11.out b12)
  clear b12
  go_wp2_with fail
  clear hw12
  have KC : Hid (∀ v, Below w12.heap.size w12 v → Dr v W.heap.size (h : Int) (l : Int) ∧ Dr v (W.heap.size + 1) (h' : Int) (l' : Int) ∧ Dr v w11.heap.size (h : Int) (l : Int)) := fun v hv => ⟨DA12.out.bel hv, DB12.out.bel hv, DD12.out.bel hv⟩
  refine region_q9 (C := fun v => Below w12.heap.size w12 v) (by kernel_rfl) (by kernel_rfl) ((Below.refl _ _).drew) ?_
  refine wqv (u := .int .i64 0) (by kernel_rfl) (fun v hv => by kernel_rfl) ?_
  simp only [Act.put, List.setIfInBounds_toArray, List.set_cons_zero, List.set_cons_succ]
  refine wqv (u := .bool true) (by kernel_rfl) (fun v hv => by go_simp) ?_
  simp only [Act.put, List.setIfInBounds_toArray, List.set_cons_zero, List.set_cons_succ]
  refine wqv (u := .bool true) (by kernel_rfl) (fun v hv => by kernel_rfl) ?_
  simp only [Act.put, List.setIfInBounds_toArray, List.set_cons_zero, List.set_cons_succ]
  refine wqv (u := .int .i64 0) (by kernel_rfl) (fun v hv => by kernel_rfl) ?_
  simp only [Act.put, List.setIfInBounds_toArray, List.set_cons_zero, List.set_cons_succ]
  refine wqv (u := .bool true) (by kernel_rfl) (fun v hv => by go_simp) ?_
  simp only [Act.put, List.setIfInBounds_toArray, List.set_cons_zero, List.set_cons_succ]
  refine wqv (u := .bool true) (by kernel_rfl) (fun v hv => by kernel_rfl) ?_
  simp only [Act.put, List.setIfInBounds_toArray, List.set_cons_zero, List.set_cons_succ]
  refine wqv (u := .bool true) (by kernel_rfl) (fun v hv => by kernel_rfl) ?_
  simp only [Act.put, List.setIfInBounds_toArray, List.set_cons_zero, List.set_cons_succ]
  refine wqv (u := .agg #[.int .u64 (h : Int), .int .u64 (l : Int)]) (by kernel_rfl) (fun v hv => by obtain ⟨_, _, ⟨_, k0, k1⟩⟩ := KC.out v hv; go_simp) ?_
  simp only [Act.put, List.setIfInBounds_toArray, List.set_cons_zero, List.set_cons_succ]
  refine wqv (u := .agg #[.int .u64 (h : Int), .int .u64 (l : Int)]) (by kernel_rfl) (fun v hv => by obtain ⟨⟨_, k0, k1⟩, _, _⟩ := KC.out v hv; go_simp) ?_
  simp only [Act.put, List.setIfInBounds_toArray, List.set_cons_zero, List.set_cons_succ]
  refine wqe (by kernel_rfl) rfl (.agg #[.int .u64 (h : Int), .int .u64 (l : Int)]) (.agg #[.int .u64 (h : Int), .int .u64 (l : Int)]) (.bool true) (by kernel_rfl) (by kernel_rfl) (fun v => (eqlDr9 _ _ _ _ _ _ v).trans (by simp)) ?_
  simp only [Act.put, List.setIfInBounds_toArray, List.set_cons_zero, List.set_cons_succ]
  refine wqv (u := .bool true) (by kernel_rfl) (fun v hv => by kernel_rfl) ?_
  simp only [Act.put, List.setIfInBounds_toArray, List.set_cons_zero, List.set_cons_succ]
  refine wqv (u := .bool true) (by kernel_rfl) (fun v hv => by kernel_rfl) ?_
  simp only [Act.put, List.setIfInBounds_toArray, List.set_cons_zero, List.set_cons_succ]
  refine wqv (u := .string (prS h l)) (by kernel_rfl) (fun v hv => by kernel_rfl) ?_
  simp only [Act.put, List.setIfInBounds_toArray, List.set_cons_zero, List.set_cons_succ]
  refine wqv (u := .agg #[.int .u64 (h' : Int), .int .u64 (l' : Int)]) (by kernel_rfl) (fun v hv => by obtain ⟨_, ⟨_, k0, k1⟩, _⟩ := KC.out v hv; go_simp) ?_
  simp only [Act.put, List.setIfInBounds_toArray, List.set_cons_zero, List.set_cons_succ]
  refine wqc (fid := 6) (args := #[.agg #[.int .u64 (h' : Int), .int .u64 (l' : Int)]]) (u := .string (prS h' l')) (by kernel_rfl) (fun v => by kernel_rfl) (fun v hv => (print_any h' l' a3 a4 v (HT.out.of_below (Below.on (Nat.le_refl _) BW12.out hv))).mono fun e w' h => ⟨h.1, hv.trans (h.2.mono hv.size)⟩) ?_
  simp only [Act.put, List.setIfInBounds_toArray, List.set_cons_zero, List.set_cons_succ]
  refine wqv (u := .bool (decide ((h : Int) = (h' : Int) ∧ (l : Int) = (l' : Int)))) (by kernel_rfl) (fun v hv => by simp only [execOp]; go_simp; rw [SS.out, Bool.decide_and]) ?_
  simp only [Act.put, List.setIfInBounds_toArray, List.set_cons_zero, List.set_cons_succ]
  refine wqv (u := .agg #[.int .u64 (h : Int), .int .u64 (l : Int)]) (by kernel_rfl) (fun v hv => by obtain ⟨⟨_, k0, k1⟩, _, _⟩ := KC.out v hv; go_simp) ?_
  simp only [Act.put, List.setIfInBounds_toArray, List.set_cons_zero, List.set_cons_succ]
  refine wqv (u := .agg #[.int .u64 (h' : Int), .int .u64 (l' : Int)]) (by kernel_rfl) (fun v hv => by obtain ⟨_, ⟨_, k0, k1⟩, _⟩ := KC.out v hv; go_simp) ?_
  simp only [Act.put, List.setIfInBounds_toArray, List.set_cons_zero, List.set_cons_succ]
  refine wqe (by kernel_rfl) rfl (.agg #[.int .u64 (h : Int), .int .u64 (l : Int)]) (.agg #[.int .u64 (h' : Int), .int .u64 (l' : Int)]) (.bool (decide ((h : Int) = (h' : Int) ∧ (l : Int) = (l' : Int)))) (by kernel_rfl) (by kernel_rfl) (fun v => eqlDr9 _ _ _ _ _ _ v) ?_
  simp only [Act.put, List.setIfInBounds_toArray, List.set_cons_zero, List.set_cons_succ]
  refine wqv (u := .bool true) (by kernel_rfl) (fun v hv => by simp only [execOp]; go_simp) ?_
  simp only [Act.put, List.setIfInBounds_toArray, List.set_cons_zero, List.set_cons_succ]
  refine wqv (u := .bool true) (by kernel_rfl) (fun v hv => by kernel_rfl) ?_
  simp only [Act.put, List.setIfInBounds_toArray, List.set_cons_zero, List.set_cons_succ]
  refine wqv (u := .bool true) (by kernel_rfl) (fun v hv => by kernel_rfl) ?_
  simp only [Act.put, List.setIfInBounds_toArray, List.set_cons_zero, List.set_cons_succ]
  refine wqnil (fun v hv => ?_)
  have BV := hide (Below.on (Nat.le_refl _) BW12.out hv)
  clear hv KC
  go_wp2
  go_ret
  exact ⟨rfl, BV.out⟩
set_option maxRecDepth 100000 in
set_option maxHeartbeats 2000000 in
theorem btw_zl0 (h l h' l' h2 l2 : Nat) (a1 : h < 18446744073709551616) (a2 : l < 18446744073709551616) (a3 : h' < 18446744073709551616) (a4 : l' < 18446744073709551616) (W : World) (ht : Tab W) (xc : cmpD (h : Int) (l : Int) (h' : Int) (l' : Int) = 0) (yc : cmpD (h' : Int) (l' : Int) (h2 : Int) (l2 : Int) ≤ 0) (ntop : ¬ (h = 18446744073709551615 ∧ l = 18446744073709551615)) :
    Calls Tryd.prog 4 #[.agg #[.int .u64 (h : Int), .int .u64 (l : Int)], .agg #[.int .u64 (h' : Int), .int .u64 (l' : Int)], .agg #[.int .u64 (h2 : Int), .int .u64 (l2 : Int)]] W fun e w' => e = .returned (.bool true) ∧ Below W.heap.size W w' := by
  have HT := hide ht
  clear ht
  obtain ⟨x, hx⟩ : ∃ x, cmpD (h : Int) (l : Int) (h' : Int) (l' : Int) = x := ⟨_, rfl⟩
  obtain ⟨y, hy⟩ : ∃ y, cmpD (h' : Int) (l' : Int) (h2 : Int) (l2 : Int) = y := ⟨_, rfl⟩
  obtain ⟨z, hz⟩ : ∃ z, cmpD (h : Int) (l : Int) (h2 : Int) (l2 : Int) = z := ⟨_, rfl⟩
  have hx2 := cmp_neg (h : Int) (l : Int) (h' : Int) (l' : Int)
  have hx3 := cmp_three (h : Int) (l : Int) (h' : Int) (l' : Int)
  have hx0 := cmp_zero (h : Int) (l : Int) (h' : Int) (l' : Int)
  rw [hx] at hx2 hx3 hx0
  have C1 : Hid (∀ v, Calls Tryd.prog 10 #[.agg #[.int .u64 (h : Int), .int .u64 (l : Int)], .agg #[.int .u64 (h' : Int), .int .u64 (l' : Int)]] v fun e w' => e = .returned (.int .i64 x) ∧ Below v.heap.size v w') := fun v => by have := compare_any (h : Int) (l : Int) (h' : Int) (l' : Int) v; rw [hx] at this; exact this
  have C2 : Hid (∀ v, Calls Tryd.prog 10 #[.agg #[.int .u64 (h' : Int), .int .u64 (l' : Int)], .agg #[.int .u64 (h2 : Int), .int .u64 (l2 : Int)]] v fun e w' => e = .returned (.int .i64 y) ∧ Below v.heap.size v w') := fun v => by have := compare_any (h' : Int) (l' : Int) (h2 : Int) (l2 : Int) v; rw [hy] at this; exact this
  have C3 : Hid (∀ v, Calls Tryd.prog 10 #[.agg #[.int .u64 (h : Int), .int .u64 (l : Int)], .agg #[.int .u64 (h2 : Int), .int .u64 (l2 : Int)]] v fun e w' => e = .returned (.int .i64 z) ∧ Below v.heap.size v w') := fun v => by have := compare_any (h : Int) (l : Int) (h2 : Int) (l2 : Int) v; rw [hz] at this; exact this
  have C4 : Hid (∀ v, Calls Tryd.prog 10 #[.agg #[.int .u64 (h' : Int), .int .u64 (l' : Int)], .agg #[.int .u64 (h : Int), .int .u64 (l : Int)]] v fun e w' => e = .returned (.int .i64 (-x)) ∧ Below v.heap.size v w') := fun v => by have := compare_any (h' : Int) (l' : Int) (h : Int) (l : Int) v; rw [hx2] at this; exact this
  have NX := hide (fun v => next_any (h : Int) (l : Int) v (by omega) (by omega) (by omega) (by omega))
  have na := nx_above (h : Int) (l : Int) (by omega) (by omega) (by omega) (by omega) (by omega)
  rw [na.2] at NX
  have teq : ((h : Int) == 18446744073709551615 && (l : Int) == 18446744073709551615) = false := by rw [Bool.and_eq_false_iff]; by_cases e : h = 18446744073709551615; right; simp; omega; left; simp; omega
  obtain ⟨nh, hnh⟩ : ∃ nh, nxH (h : Int) (l : Int) = nh := ⟨_, rfl⟩
  obtain ⟨nl, hnl⟩ : ∃ nl, nxL (h : Int) (l : Int) = nl := ⟨_, rfl⟩
  rw [hnh, hnl] at NX na
  have C5 : Hid (∀ v, Calls Tryd.prog 10 #[.agg #[.int .u64 (h : Int), .int .u64 (l : Int)], .agg #[.int .u64 nh, .int .u64 nl]] v fun e w' => e = .returned (.int .i64 (-1)) ∧ Below v.heap.size v w') := fun v => by have := compare_any (h : Int) (l : Int) nh nl v; rw [na.1] at this; exact this
  clear na hnh hnl ntop
  have zb : (x == 0) = decide ((h : Int) = (h' : Int) ∧ (l : Int) = (l' : Int)) := by rw [Bool.eq_iff_iff]; simp only [beq_iff_eq, decide_eq_true_eq]; exact hx0
  have e1 := fun w => eqlD9 (h : Int) (l : Int) (h' : Int) (l' : Int) w
  have eb : ((h : Int) == (h' : Int) && (l : Int) == (l' : Int)) = (x == 0) := by rw [zb, Bool.eq_iff_iff]; simp
  rw [eb] at e1
  clear zb eb hx0 hx2
  have zc := cmp_le (h : Int) (l : Int) (h' : Int) (l' : Int) (h2 : Int) (l2 : Int) (by omega) yc
  obtain rfl : x = 0 := by omega
  have y1 : decide (y ≤ 0) = true := by rw [decide_eq_true_eq]; omega
  have z1 : decide (0 < z) = false := by rw [decide_eq_false_iff_not]; omega
  clear hx3 xc yc zc
  have PS : Hid (∀ v, Calls Tryd.prog 7 #[.string (prS h l)] v fun e w' => e = .returned (.tuple #[.agg #[.int .u64 (h : Int), .int .u64 (l : Int)], .int .i64 0, .int .i64 0]) ∧ Below v.heap.size v w') := fun v => by
    have z := prS_size h l a1 a2
    have := parse_any (prS h l) v (by omega)
    obtain ⟨p1, p2, p3⟩ := ps_pr h l (by omega) (by omega)
    rw [← bts_prS] at p1 p2 p3
    obtain ⟨m1, m2, m3, m4⟩ := p_ok p1
    rw [m1, m2, m3, m4, p2, p3] at this
    exact this
  have SS := hide (prS_same h l h' l' a1 a2 a3 a4)
  clear hx hy hz
  obtain ⟨w0, hw0⟩ : ∃ w0, ((W.alloc (.cells #[.int .u64 (h : Int), .int .u64 (l : Int)] 24)).alloc (.cells #[.int .u64 (h' : Int), .int .u64 (l' : Int)] 24)).alloc (.cells #[.int .u64 (h2 : Int), .int .u64 (l2 : Int)] 24) = w0 := ⟨_, rfl⟩
  have DA0 : Hid (Dr w0 W.heap.size (h : Int) (l : Int)) := by rw [← hw0]; exact ((Dr.new W _ _ _).al _).al _
  have DB0 : Hid (Dr w0 (W.heap.size + 1) (h' : Int) (l' : Int)) := by rw [← hw0]; have := Dr.new (W.alloc (.cells #[.int .u64 (h : Int), .int .u64 (l : Int)] 24)) (h' : Int) (l' : Int) 24; rw [World.size_alloc] at this; exact this.al _
  have DC0 : Hid (Dr w0 (W.heap.size + 2) (h2 : Int) (l2 : Int)) := by rw [← hw0]; have := Dr.new ((W.alloc (.cells #[.int .u64 (h : Int), .int .u64 (l : Int)] 24)).alloc (.cells #[.int .u64 (h' : Int), .int .u64 (l' : Int)] 24)) (h2 : Int) (l2 : Int) 24; rw [World.size_alloc, World.size_alloc] at this; exact this
  have BW0 : Hid (Below W.heap.size W w0) := by rw [← hw0]; exact (((Below.refl _ _).alloc (Nat.le_refl _) _).alloc (by simp) _).alloc (by simp; omega) _
  obtain ⟨_, ca0, ca1⟩ := DA0.out
  obtain ⟨_, cb0, cb1⟩ := DB0.out
  obtain ⟨_, cc0, cc1⟩ := DC0.out
  go_enter Tryd.func4, Tryd.ntmps4
  go_wp2_with fail
  clear hw0
  clear ca0 ca1 cb0 cb1 cc0 cc1
  refine (C1.out _).mono ?_
  rintro e w1 ⟨rfl, b1⟩
  dsimp only
  have DA1 := hide (DA0.out.bel b1)
  have DB1 := hide (DB0.out.bel b1)
  have DC1 := hide (DC0.out.bel b1)
  have BW1 := hide (Below.on (Nat.le_refl _) BW0.out b1)
  clear b1
  obtain ⟨_, ca0, ca1⟩ := DA1.out
  obtain ⟨_, cb0, cb1⟩ := DB1.out
  obtain ⟨_, cc0, cc1⟩ := DC1.out
  go_wp2_with fail
  clear ca0 ca1 cb0 cb1 cc0 cc1
  refine (C2.out _).mono ?_
  rintro e w2 ⟨rfl, b2⟩
  dsimp only
  have DA2 := hide (DA1.out.bel b2)
  have DB2 := hide (DB1.out.bel b2)
  have DC2 := hide (DC1.out.bel b2)
  have BW2 := hide (Below.on (Nat.le_refl _) BW1.out b2)
  clear b2
  obtain ⟨_, ca0, ca1⟩ := DA2.out
  obtain ⟨_, cb0, cb1⟩ := DB2.out
  obtain ⟨_, cc0, cc1⟩ := DC2.out
  go_wp2_with fail
  clear ca0 ca1 cb0 cb1 cc0 cc1
  refine (C3.out _).mono ?_
  rintro e w3 ⟨rfl, b3⟩
  dsimp only
  have DA3 := hide (DA2.out.bel b3)
  have DB3 := hide (DB2.out.bel b3)
  have DC3 := hide (DC2.out.bel b3)
  have BW3 := hide (Below.on (Nat.le_refl _) BW2.out b3)
  clear b3
  obtain ⟨_, ca0, ca1⟩ := DA3.out
  obtain ⟨_, cb0, cb1⟩ := DB3.out
  obtain ⟨_, cc0, cc1⟩ := DC3.out
  go_wp2_with fail
  clear ca0 ca1 cb0 cb1 cc0 cc1
  refine (C4.out _).mono ?_
  rintro e w4 ⟨rfl, b4⟩
  dsimp only
  have DA4 := hide (DA3.out.bel b4)
  have DB4 := hide (DB3.out.bel b4)
  have DC4 := hide (DC3.out.bel b4)
  have BW4 := hide (Below.on (Nat.le_refl _) BW3.out b4)
  clear b4
  obtain ⟨_, ca0, ca1⟩ := DA4.out
  obtain ⟨_, cb0, cb1⟩ := DB4.out
  obtain ⟨_, cc0, cc1⟩ := DC4.out
  go_wp2_with fail
  clear ca0 ca1 cb0 cb1 cc0 cc1
  refine (NX.out _).mono ?_
  rintro e w5 ⟨rfl, b5⟩
  dsimp only
  have DA5 := hide (DA4.out.bel b5)
  have DB5 := hide (DB4.out.bel b5)
  have DC5 := hide (DC4.out.bel b5)
  have BW5 := hide (Below.on (Nat.le_refl _) BW4.out b5)
  clear b5
  obtain ⟨w6, hw6⟩ : ∃ w6, w5.alloc (.cells #[.int .u64 nh, .int .u64 nl] 24) = w6 := ⟨_, rfl⟩
  have b6 : Below w5.heap.size w5 w6 := by rw [← hw6]; exact (Below.refl _ _).alloc (Nat.le_refl _) _
  have DN6 : Hid (Dr w6 w5.heap.size nh nl) := by rw [← hw6]; exact Dr.new w5 _ _ _
  have DA6 := hide (DA5.out.bel b6)
  have DB6 := hide (DB5.out.bel b6)
  have DC6 := hide (DC5.out.bel b6)
  have BW6 := hide (Below.on (Nat.le_refl _) BW5.out b6)
  clear b6
  obtain ⟨_, ca0, ca1⟩ := DA6.out
  obtain ⟨_, cb0, cb1⟩ := DB6.out
  obtain ⟨_, cc0, cc1⟩ := DC6.out
  obtain ⟨_, cn0, cn1⟩ := DN6.out
  have q7 := fun w => eqlD9 (h : Int) (l : Int) 18446744073709551615 18446744073709551615 w
  rw [teq] at q7
  go_wp2_with fail
  clear hw6 q7
  clear ca0 ca1 cb0 cb1 cc0 cc1 cn0 cn1
  refine (C5.out _).mono ?_
  rintro e w7 ⟨rfl, b7⟩
  dsimp only
  have DA7 := hide (DA6.out.bel b7)
  have DB7 := hide (DB6.out.bel b7)
  have DC7 := hide (DC6.out.bel b7)
  have DN7 := hide (DN6.out.bel b7)
  have BW7 := hide (Below.on (Nat.le_refl _) BW6.out b7)
  clear b7
  obtain ⟨_, ca0, ca1⟩ := DA7.out
  obtain ⟨_, cb0, cb1⟩ := DB7.out
  obtain ⟨_, cc0, cc1⟩ := DC7.out
  obtain ⟨_, cn0, cn1⟩ := DN7.out
  go_wp2_with fail
  clear ca0 ca1 cb0 cb1 cc0 cc1 cn0 cn1
  refine (C1.out _).mono ?_
  rintro e w8 ⟨rfl, b8⟩
  dsimp only
  have DA8 := hide (DA7.out.bel b8)
  have DB8 := hide (DB7.out.bel b8)
  have DC8 := hide (DC7.out.bel b8)
  have DN8 := hide (DN7.out.bel b8)
  have BW8 := hide (Below.on (Nat.le_refl _) BW7.out b8)
  clear b8
  obtain ⟨_, ca0, ca1⟩ := DA8.out
  obtain ⟨_, cb0, cb1⟩ := DB8.out
  obtain ⟨_, cc0, cc1⟩ := DC8.out
  obtain ⟨_, cn0, cn1⟩ := DN8.out
  go_wp2_with fail
  clear ca0 ca1 cb0 cb1 cc0 cc1 cn0 cn1
  refine (print_any h l a1 a2 w8 (HT.out.of_below BW8.out)).mono ?_
  rintro e w10 ⟨rfl, b10⟩
  dsimp only
  have DA10 := hide (DA8.out.bel b10)
  have DB10 := hide (DB8.out.bel b10)
  have DC10 := hide (DC8.out.bel b10)
  have BW10 := hide (Below.on (Nat.le_refl _) BW8.out b10)
  clear b10
  go_wp2_with fail
  refine (PS.out w10).mono ?_
  rintro e w11 ⟨rfl, b11⟩
  dsimp only
  have DA11 := hide (DA10.out.bel b11)
  have DB11 := hide (DB10.out.bel b11)
  have DC11 := hide (DC10.out.bel b11)
  have BW11 := hide (Below.on (Nat.le_refl _) BW10.out b11)
  clear b11
  obtain ⟨w12, hw12⟩ : ∃ w12, w11.alloc (.cells #[.int .u64 (h : Int), .int .u64 (l : Int)] 24) = w12 := ⟨_, rfl⟩
  have b12 : Below w11.heap.size w11 w12 := by rw [← hw12]; exact (Below.refl _ _).alloc (Nat.le_refl _) _
  have DD12 : Hid (Dr w12 w11.heap.size (h : Int) (l : Int)) := by rw [← hw12]; exact Dr.new w11 _ _ _
  have DA12 := hide (DA11.out.bel b12)
  have DB12 := hide (DB11.out.bel b12)
  have DC12 := hide (DC11.out.bel b12)
  have BW12 := hide (Below.on (Nat.le_refl _) BW11.out b12)
  clear b12
  go_wp2_with fail
  clear hw12
  have KC : Hid (∀ v, Below w12.heap.size w12 v → Dr v W.heap.size (h : Int) (l : Int) ∧ Dr v (W.heap.size + 1) (h' : Int) (l' : Int) ∧ Dr v w11.heap.size (h : Int) (l : Int)) := fun v hv => ⟨DA12.out.bel hv, DB12.out.bel hv, DD12.out.bel hv⟩
  refine region_q9 (C := fun v => Below w12.heap.size w12 v) (by kernel_rfl) (by kernel_rfl) ((Below.refl _ _).drew) ?_
  refine wqv (u := .int .i64 0) (by kernel_rfl) (fun v hv => by kernel_rfl) ?_
  simp only [Act.put, List.setIfInBounds_toArray, List.set_cons_zero, List.set_cons_succ]
  refine wqv (u := .bool true) (by kernel_rfl) (fun v hv => by go_simp) ?_
  simp only [Act.put, List.setIfInBounds_toArray, List.set_cons_zero, List.set_cons_succ]
  refine wqv (u := .bool true) (by kernel_rfl) (fun v hv => by kernel_rfl) ?_
  simp only [Act.put, List.setIfInBounds_toArray, List.set_cons_zero, List.set_cons_succ]
  refine wqv (u := .int .i64 0) (by kernel_rfl) (fun v hv => by kernel_rfl) ?_
  simp only [Act.put, List.setIfInBounds_toArray, List.set_cons_zero, List.set_cons_succ]
  refine wqv (u := .bool true) (by kernel_rfl) (fun v hv => by go_simp) ?_
  simp only [Act.put, List.setIfInBounds_toArray, List.set_cons_zero, List.set_cons_succ]
  refine wqv (u := .bool true) (by kernel_rfl) (fun v hv => by kernel_rfl) ?_
  simp only [Act.put, List.setIfInBounds_toArray, List.set_cons_zero, List.set_cons_succ]
  refine wqv (u := .bool true) (by kernel_rfl) (fun v hv => by kernel_rfl) ?_
  simp only [Act.put, List.setIfInBounds_toArray, List.set_cons_zero, List.set_cons_succ]
  refine wqv (u := .agg #[.int .u64 (h : Int), .int .u64 (l : Int)]) (by kernel_rfl) (fun v hv => by obtain ⟨_, _, ⟨_, k0, k1⟩⟩ := KC.out v hv; go_simp) ?_
  simp only [Act.put, List.setIfInBounds_toArray, List.set_cons_zero, List.set_cons_succ]
  refine wqv (u := .agg #[.int .u64 (h : Int), .int .u64 (l : Int)]) (by kernel_rfl) (fun v hv => by obtain ⟨⟨_, k0, k1⟩, _, _⟩ := KC.out v hv; go_simp) ?_
  simp only [Act.put, List.setIfInBounds_toArray, List.set_cons_zero, List.set_cons_succ]
  refine wqe (by kernel_rfl) rfl (.agg #[.int .u64 (h : Int), .int .u64 (l : Int)]) (.agg #[.int .u64 (h : Int), .int .u64 (l : Int)]) (.bool true) (by kernel_rfl) (by kernel_rfl) (fun v => (eqlDr9 _ _ _ _ _ _ v).trans (by simp)) ?_
  simp only [Act.put, List.setIfInBounds_toArray, List.set_cons_zero, List.set_cons_succ]
  refine wqv (u := .bool true) (by kernel_rfl) (fun v hv => by kernel_rfl) ?_
  simp only [Act.put, List.setIfInBounds_toArray, List.set_cons_zero, List.set_cons_succ]
  refine wqv (u := .bool true) (by kernel_rfl) (fun v hv => by kernel_rfl) ?_
  simp only [Act.put, List.setIfInBounds_toArray, List.set_cons_zero, List.set_cons_succ]
  refine wqv (u := .string (prS h l)) (by kernel_rfl) (fun v hv => by kernel_rfl) ?_
  simp only [Act.put, List.setIfInBounds_toArray, List.set_cons_zero, List.set_cons_succ]
  refine wqv (u := .agg #[.int .u64 (h' : Int), .int .u64 (l' : Int)]) (by kernel_rfl) (fun v hv => by obtain ⟨_, ⟨_, k0, k1⟩, _⟩ := KC.out v hv; go_simp) ?_
  simp only [Act.put, List.setIfInBounds_toArray, List.set_cons_zero, List.set_cons_succ]
  refine wqc (fid := 6) (args := #[.agg #[.int .u64 (h' : Int), .int .u64 (l' : Int)]]) (u := .string (prS h' l')) (by kernel_rfl) (fun v => by kernel_rfl) (fun v hv => (print_any h' l' a3 a4 v (HT.out.of_below (Below.on (Nat.le_refl _) BW12.out hv))).mono fun e w' h => ⟨h.1, hv.trans (h.2.mono hv.size)⟩) ?_
  simp only [Act.put, List.setIfInBounds_toArray, List.set_cons_zero, List.set_cons_succ]
  refine wqv (u := .bool (decide ((h : Int) = (h' : Int) ∧ (l : Int) = (l' : Int)))) (by kernel_rfl) (fun v hv => by simp only [execOp]; go_simp; rw [SS.out, Bool.decide_and]) ?_
  simp only [Act.put, List.setIfInBounds_toArray, List.set_cons_zero, List.set_cons_succ]
  refine wqv (u := .agg #[.int .u64 (h : Int), .int .u64 (l : Int)]) (by kernel_rfl) (fun v hv => by obtain ⟨⟨_, k0, k1⟩, _, _⟩ := KC.out v hv; go_simp) ?_
  simp only [Act.put, List.setIfInBounds_toArray, List.set_cons_zero, List.set_cons_succ]
  refine wqv (u := .agg #[.int .u64 (h' : Int), .int .u64 (l' : Int)]) (by kernel_rfl) (fun v hv => by obtain ⟨_, ⟨_, k0, k1⟩, _⟩ := KC.out v hv; go_simp) ?_
  simp only [Act.put, List.setIfInBounds_toArray, List.set_cons_zero, List.set_cons_succ]
  refine wqe (by kernel_rfl) rfl (.agg #[.int .u64 (h : Int), .int .u64 (l : Int)]) (.agg #[.int .u64 (h' : Int), .int .u64 (l' : Int)]) (.bool (decide ((h : Int) = (h' : Int) ∧ (l : Int) = (l' : Int)))) (by kernel_rfl) (by kernel_rfl) (fun v => eqlDr9 _ _ _ _ _ _ v) ?_
  simp only [Act.put, List.setIfInBounds_toArray, List.set_cons_zero, List.set_cons_succ]
  refine wqv (u := .bool true) (by kernel_rfl) (fun v hv => by simp only [execOp]; go_simp) ?_
  simp only [Act.put, List.setIfInBounds_toArray, List.set_cons_zero, List.set_cons_succ]
  refine wqv (u := .bool true) (by kernel_rfl) (fun v hv => by kernel_rfl) ?_
  simp only [Act.put, List.setIfInBounds_toArray, List.set_cons_zero, List.set_cons_succ]
  refine wqv (u := .bool true) (by kernel_rfl) (fun v hv => by kernel_rfl) ?_
  simp only [Act.put, List.setIfInBounds_toArray, List.set_cons_zero, List.set_cons_succ]
  refine wqnil (fun v hv => ?_)
  have BV := hide (Below.on (Nat.le_refl _) BW12.out hv)
  clear hv KC
  go_wp2
  go_ret
  exact ⟨rfl, BV.out⟩
set_option maxRecDepth 100000 in
set_option maxHeartbeats 2000000 in
theorem btw_zg1 (h l h' l' h2 l2 : Nat) (a1 : h < 18446744073709551616) (a2 : l < 18446744073709551616) (a3 : h' < 18446744073709551616) (a4 : l' < 18446744073709551616) (W : World) (ht : Tab W) (xc : cmpD (h : Int) (l : Int) (h' : Int) (l' : Int) = 0) (yc : ¬ cmpD (h' : Int) (l' : Int) (h2 : Int) (l2 : Int) ≤ 0) (HTOP : h = 18446744073709551615 ∧ l = 18446744073709551615) :
    Calls Tryd.prog 4 #[.agg #[.int .u64 (h : Int), .int .u64 (l : Int)], .agg #[.int .u64 (h' : Int), .int .u64 (l' : Int)], .agg #[.int .u64 (h2 : Int), .int .u64 (l2 : Int)]] W fun e w' => e = .returned (.bool true) ∧ Below W.heap.size W w' := by
  have HT := hide ht
  clear ht
  obtain ⟨x, hx⟩ : ∃ x, cmpD (h : Int) (l : Int) (h' : Int) (l' : Int) = x := ⟨_, rfl⟩
  obtain ⟨y, hy⟩ : ∃ y, cmpD (h' : Int) (l' : Int) (h2 : Int) (l2 : Int) = y := ⟨_, rfl⟩
  obtain ⟨z, hz⟩ : ∃ z, cmpD (h : Int) (l : Int) (h2 : Int) (l2 : Int) = z := ⟨_, rfl⟩
  have hx2 := cmp_neg (h : Int) (l : Int) (h' : Int) (l' : Int)
  have hx3 := cmp_three (h : Int) (l : Int) (h' : Int) (l' : Int)
  have hx0 := cmp_zero (h : Int) (l : Int) (h' : Int) (l' : Int)
  rw [hx] at hx2 hx3 hx0
  have C1 : Hid (∀ v, Calls Tryd.prog 10 #[.agg #[.int .u64 (h : Int), .int .u64 (l : Int)], .agg #[.int .u64 (h' : Int), .int .u64 (l' : Int)]] v fun e w' => e = .returned (.int .i64 x) ∧ Below v.heap.size v w') := fun v => by have := compare_any (h : Int) (l : Int) (h' : Int) (l' : Int) v; rw [hx] at this; exact this
  have C2 : Hid (∀ v, Calls Tryd.prog 10 #[.agg #[.int .u64 (h' : Int), .int .u64 (l' : Int)], .agg #[.int .u64 (h2 : Int), .int .u64 (l2 : Int)]] v fun e w' => e = .returned (.int .i64 y) ∧ Below v.heap.size v w') := fun v => by have := compare_any (h' : Int) (l' : Int) (h2 : Int) (l2 : Int) v; rw [hy] at this; exact this
  have C3 : Hid (∀ v, Calls Tryd.prog 10 #[.agg #[.int .u64 (h : Int), .int .u64 (l : Int)], .agg #[.int .u64 (h2 : Int), .int .u64 (l2 : Int)]] v fun e w' => e = .returned (.int .i64 z) ∧ Below v.heap.size v w') := fun v => by have := compare_any (h : Int) (l : Int) (h2 : Int) (l2 : Int) v; rw [hz] at this; exact this
  have C4 : Hid (∀ v, Calls Tryd.prog 10 #[.agg #[.int .u64 (h' : Int), .int .u64 (l' : Int)], .agg #[.int .u64 (h : Int), .int .u64 (l : Int)]] v fun e w' => e = .returned (.int .i64 (-x)) ∧ Below v.heap.size v w') := fun v => by have := compare_any (h' : Int) (l' : Int) (h : Int) (l : Int) v; rw [hx2] at this; exact this
  have NX := hide (fun v => next_any (h : Int) (l : Int) v (by omega) (by omega) (by omega) (by omega))
  have t1 : h = 18446744073709551615 ∧ l = 18446744073709551615 := HTOP
  have NV : Hid (nxH (h : Int) (l : Int) = 0 ∧ nxL (h : Int) (l : Int) = 0 ∧ nxE (h : Int) (l : Int) = 20) := by show _ ∧ _ ∧ _; rw [t1.1, t1.2]; decide
  rw [NV.out.1, NV.out.2.1, NV.out.2.2] at NX
  clear NV
  have teq : ((h : Int) == 18446744073709551615 && (l : Int) == 18446744073709551615) = true := by rw [t1.1, t1.2]; decide
  have TOP := hide t1
  clear t1 HTOP
  have zb : (x == 0) = decide ((h : Int) = (h' : Int) ∧ (l : Int) = (l' : Int)) := by rw [Bool.eq_iff_iff]; simp only [beq_iff_eq, decide_eq_true_eq]; exact hx0
  have e1 := fun w => eqlD9 (h : Int) (l : Int) (h' : Int) (l' : Int) w
  have eb : ((h : Int) == (h' : Int) && (l : Int) == (l' : Int)) = (x == 0) := by rw [zb, Bool.eq_iff_iff]; simp
  rw [eb] at e1
  clear zb eb hx0 hx2
  obtain rfl : x = 0 := by omega
  have y1 : decide (y ≤ 0) = false := by rw [decide_eq_false_iff_not]; omega
  clear hx3 xc yc
  have PS : Hid (∀ v, Calls Tryd.prog 7 #[.string (prS h l)] v fun e w' => e = .returned (.tuple #[.agg #[.int .u64 (h : Int), .int .u64 (l : Int)], .int .i64 0, .int .i64 0]) ∧ Below v.heap.size v w') := fun v => by
    have z := prS_size h l a1 a2
    have := parse_any (prS h l) v (by omega)
    obtain ⟨p1, p2, p3⟩ := ps_pr h l (by omega) (by omega)
    rw [← bts_prS] at p1 p2 p3
    obtain ⟨m1, m2, m3, m4⟩ := p_ok p1
    rw [m1, m2, m3, m4, p2, p3] at this
    exact this
  have SS := hide (prS_same h l h' l' a1 a2 a3 a4)
  clear hx hy hz
  obtain ⟨w0, hw0⟩ : ∃ w0, ((W.alloc (.cells #[.int .u64 (h : Int), .int .u64 (l : Int)] 24)).alloc (.cells #[.int .u64 (h' : Int), .int .u64 (l' : Int)] 24)).alloc (.cells #[.int .u64 (h2 : Int), .int .u64 (l2 : Int)] 24) = w0 := ⟨_, rfl⟩
  have DA0 : Hid (Dr w0 W.heap.size (h : Int) (l : Int)) := by rw [← hw0]; exact ((Dr.new W _ _ _).al _).al _
  have DB0 : Hid (Dr w0 (W.heap.size + 1) (h' : Int) (l' : Int)) := by rw [← hw0]; have := Dr.new (W.alloc (.cells #[.int .u64 (h : Int), .int .u64 (l : Int)] 24)) (h' : Int) (l' : Int) 24; rw [World.size_alloc] at this; exact this.al _
  have DC0 : Hid (Dr w0 (W.heap.size + 2) (h2 : Int) (l2 : Int)) := by rw [← hw0]; have := Dr.new ((W.alloc (.cells #[.int .u64 (h : Int), .int .u64 (l : Int)] 24)).alloc (.cells #[.int .u64 (h' : Int), .int .u64 (l' : Int)] 24)) (h2 : Int) (l2 : Int) 24; rw [World.size_alloc, World.size_alloc] at this; exact this
  have BW0 : Hid (Below W.heap.size W w0) := by rw [← hw0]; exact (((Below.refl _ _).alloc (Nat.le_refl _) _).alloc (by simp) _).alloc (by simp; omega) _
  obtain ⟨_, ca0, ca1⟩ := DA0.out
  obtain ⟨_, cb0, cb1⟩ := DB0.out
  obtain ⟨_, cc0, cc1⟩ := DC0.out
  go_enter Tryd.func4, Tryd.ntmps4
  go_wp2_with fail
  clear hw0
  clear ca0 ca1 cb0 cb1 cc0 cc1
  refine (C1.out _).mono ?_
  rintro e w1 ⟨rfl, b1⟩
  dsimp only
  have DA1 := hide (DA0.out.bel b1)
  have DB1 := hide (DB0.out.bel b1)
  have DC1 := hide (DC0.out.bel b1)
  have BW1 := hide (Below.on (Nat.le_refl _) BW0.out b1)
  clear b1
  obtain ⟨_, ca0, ca1⟩ := DA1.out
  obtain ⟨_, cb0, cb1⟩ := DB1.out
  obtain ⟨_, cc0, cc1⟩ := DC1.out
  go_wp2_with fail
  clear ca0 ca1 cb0 cb1 cc0 cc1
  refine (C2.out _).mono ?_
  rintro e w2 ⟨rfl, b2⟩
  dsimp only
  have DA2 := hide (DA1.out.bel b2)
  have DB2 := hide (DB1.out.bel b2)
  have DC2 := hide (DC1.out.bel b2)
  have BW2 := hide (Below.on (Nat.le_refl _) BW1.out b2)
  clear b2
  obtain ⟨_, ca0, ca1⟩ := DA2.out
  obtain ⟨_, cb0, cb1⟩ := DB2.out
  obtain ⟨_, cc0, cc1⟩ := DC2.out
  go_wp2_with fail
  clear ca0 ca1 cb0 cb1 cc0 cc1
  refine (C3.out _).mono ?_
  rintro e w3 ⟨rfl, b3⟩
  dsimp only
  have DA3 := hide (DA2.out.bel b3)
  have DB3 := hide (DB2.out.bel b3)
  have DC3 := hide (DC2.out.bel b3)
  have BW3 := hide (Below.on (Nat.le_refl _) BW2.out b3)
  clear b3
  obtain ⟨_, ca0, ca1⟩ := DA3.out
  obtain ⟨_, cb0, cb1⟩ := DB3.out
  obtain ⟨_, cc0, cc1⟩ := DC3.out
  go_wp2_with fail
  clear ca0 ca1 cb0 cb1 cc0 cc1
  refine (C4.out _).mono ?_
  rintro e w4 ⟨rfl, b4⟩
  dsimp only
  have DA4 := hide (DA3.out.bel b4)
  have DB4 := hide (DB3.out.bel b4)
  have DC4 := hide (DC3.out.bel b4)
  have BW4 := hide (Below.on (Nat.le_refl _) BW3.out b4)
  clear b4
  obtain ⟨_, ca0, ca1⟩ := DA4.out
  obtain ⟨_, cb0, cb1⟩ := DB4.out
  obtain ⟨_, cc0, cc1⟩ := DC4.out
  go_wp2_with fail
  clear ca0 ca1 cb0 cb1 cc0 cc1
  refine (NX.out _).mono ?_
  rintro e w5 ⟨rfl, b5⟩
  dsimp only
  have DA5 := hide (DA4.out.bel b5)
  have DB5 := hide (DB4.out.bel b5)
  have DC5 := hide (DC4.out.bel b5)
  have BW5 := hide (Below.on (Nat.le_refl _) BW4.out b5)
  clear b5
  have ca0 := fun o => (DA5.out.al o).c0
  have ca1 := fun o => (DA5.out.al o).c1
  have q7 := fun w => eqlD9 (h : Int) (l : Int) 18446744073709551615 18446744073709551615 w
  rw [teq] at q7
  go_wp2_with fail
  clear ca0 ca1 q7
  obtain ⟨w6, hw6⟩ : ∃ w6, w5.alloc (.cells #[.int .u64 0, .int .u64 0] 24) = w6 := ⟨_, rfl⟩
  have b6 : Below w5.heap.size w5 w6 := by rw [← hw6]; exact (Below.refl _ _).alloc (Nat.le_refl _) _
  rw [hw6]
  clear hw6
  have DA6 := hide (DA5.out.bel b6)
  have DB6 := hide (DB5.out.bel b6)
  have DC6 := hide (DC5.out.bel b6)
  have BW6 := hide (Below.on (Nat.le_refl _) BW5.out b6)
  clear b6
  refine (print_any h l a1 a2 w6 (HT.out.of_below BW6.out)).mono ?_
  rintro e w10 ⟨rfl, b10⟩
  dsimp only
  have DA10 := hide (DA6.out.bel b10)
  have DB10 := hide (DB6.out.bel b10)
  have DC10 := hide (DC6.out.bel b10)
  have BW10 := hide (Below.on (Nat.le_refl _) BW6.out b10)
  clear b10
  go_wp2_with fail
  refine (PS.out w10).mono ?_
  rintro e w11 ⟨rfl, b11⟩
  dsimp only
  have DA11 := hide (DA10.out.bel b11)
  have DB11 := hide (DB10.out.bel b11)
  have DC11 := hide (DC10.out.bel b11)
  have BW11 := hide (Below.on (Nat.le_refl _) BW10.out b11)
  clear b11
  obtain ⟨w12, hw12⟩ : ∃ w12, w11.alloc (.cells #[.int .u64 (h : Int), .int .u64 (l : Int)] 24) = w12 := ⟨_, rfl⟩
  have b12 : Below w11.heap.size w11 w12 := by rw [← hw12]; exact (Below.refl _ _).alloc (Nat.le_refl _) _
  have DD12 : Hid (Dr w12 w11.heap.size (h : Int) (l : Int)) := by rw [← hw12]; exact Dr.new w11 _ _ _
  have DA12 := hide (DA11.out.bel b12)
  have DB12 := hide (DB11.out.bel b12)
  have DC12 := hide (DC11.out.bel b12)
  have BW12 := hide (Below.on (Nat.le_refl _) BW11.out b12)
  clear b12
  go_wp2_with fail
  clear hw12
  have KC : Hid (∀ v, Below w12.heap.size w12 v → Dr v W.heap.size (h : Int) (l : Int) ∧ Dr v (W.heap.size + 1) (h' : Int) (l' : Int) ∧ Dr v w11.heap.size (h : Int) (l : Int)) := fun v hv => ⟨DA12.out.bel hv, DB12.out.bel hv, DD12.out.bel hv⟩
  refine region_q9 (C := fun v => Below w12.heap.size w12 v) (by kernel_rfl) (by kernel_rfl) ((Below.refl _ _).drew) ?_
  refine wqv (u := .int .i64 0) (by kernel_rfl) (fun v hv => by kernel_rfl) ?_
  simp only [Act.put, List.setIfInBounds_toArray, List.set_cons_zero, List.set_cons_succ]
  refine wqv (u := .bool true) (by kernel_rfl) (fun v hv => by go_simp) ?_
  simp only [Act.put, List.setIfInBounds_toArray, List.set_cons_zero, List.set_cons_succ]
  refine wqv (u := .bool true) (by kernel_rfl) (fun v hv => by kernel_rfl) ?_
  simp only [Act.put, List.setIfInBounds_toArray, List.set_cons_zero, List.set_cons_succ]
  refine wqv (u := .int .i64 0) (by kernel_rfl) (fun v hv => by kernel_rfl) ?_
  simp only [Act.put, List.setIfInBounds_toArray, List.set_cons_zero, List.set_cons_succ]
  refine wqv (u := .bool true) (by kernel_rfl) (fun v hv => by go_simp) ?_
  simp only [Act.put, List.setIfInBounds_toArray, List.set_cons_zero, List.set_cons_succ]
  refine wqv (u := .bool true) (by kernel_rfl) (fun v hv => by kernel_rfl) ?_
  simp only [Act.put, List.setIfInBounds_toArray, List.set_cons_zero, List.set_cons_succ]
  refine wqv (u := .bool true) (by kernel_rfl) (fun v hv => by kernel_rfl) ?_
  simp only [Act.put, List.setIfInBounds_toArray, List.set_cons_zero, List.set_cons_succ]
  refine wqv (u := .agg #[.int .u64 (h : Int), .int .u64 (l : Int)]) (by kernel_rfl) (fun v hv => by obtain ⟨_, _, ⟨_, k0, k1⟩⟩ := KC.out v hv; go_simp) ?_
  simp only [Act.put, List.setIfInBounds_toArray, List.set_cons_zero, List.set_cons_succ]
  refine wqv (u := .agg #[.int .u64 (h : Int), .int .u64 (l : Int)]) (by kernel_rfl) (fun v hv => by obtain ⟨⟨_, k0, k1⟩, _, _⟩ := KC.out v hv; go_simp) ?_
  simp only [Act.put, List.setIfInBounds_toArray, List.set_cons_zero, List.set_cons_succ]
  refine wqe (by kernel_rfl) rfl (.agg #[.int .u64 (h : Int), .int .u64 (l : Int)]) (.agg #[.int .u64 (h : Int), .int .u64 (l : Int)]) (.bool true) (by kernel_rfl) (by kernel_rfl) (fun v => (eqlDr9 _ _ _ _ _ _ v).trans (by simp)) ?_
  simp only [Act.put, List.setIfInBounds_toArray, List.set_cons_zero, List.set_cons_succ]
  refine wqv (u := .bool true) (by kernel_rfl) (fun v hv => by kernel_rfl) ?_
  simp only [Act.put, List.setIfInBounds_toArray, List.set_cons_zero, List.set_cons_succ]
  refine wqv (u := .bool true) (by kernel_rfl) (fun v hv => by kernel_rfl) ?_
  simp only [Act.put, List.setIfInBounds_toArray, List.set_cons_zero, List.set_cons_succ]
  refine wqv (u := .string (prS h l)) (by kernel_rfl) (fun v hv => by kernel_rfl) ?_
  simp only [Act.put, List.setIfInBounds_toArray, List.set_cons_zero, List.set_cons_succ]
  refine wqv (u := .agg #[.int .u64 (h' : Int), .int .u64 (l' : Int)]) (by kernel_rfl) (fun v hv => by obtain ⟨_, ⟨_, k0, k1⟩, _⟩ := KC.out v hv; go_simp) ?_
  simp only [Act.put, List.setIfInBounds_toArray, List.set_cons_zero, List.set_cons_succ]
  refine wqc (fid := 6) (args := #[.agg #[.int .u64 (h' : Int), .int .u64 (l' : Int)]]) (u := .string (prS h' l')) (by kernel_rfl) (fun v => by kernel_rfl) (fun v hv => (print_any h' l' a3 a4 v (HT.out.of_below (Below.on (Nat.le_refl _) BW12.out hv))).mono fun e w' h => ⟨h.1, hv.trans (h.2.mono hv.size)⟩) ?_
  simp only [Act.put, List.setIfInBounds_toArray, List.set_cons_zero, List.set_cons_succ]
  refine wqv (u := .bool (decide ((h : Int) = (h' : Int) ∧ (l : Int) = (l' : Int)))) (by kernel_rfl) (fun v hv => by simp only [execOp]; go_simp; rw [SS.out, Bool.decide_and]) ?_
  simp only [Act.put, List.setIfInBounds_toArray, List.set_cons_zero, List.set_cons_succ]
  refine wqv (u := .agg #[.int .u64 (h : Int), .int .u64 (l : Int)]) (by kernel_rfl) (fun v hv => by obtain ⟨⟨_, k0, k1⟩, _, _⟩ := KC.out v hv; go_simp) ?_
  simp only [Act.put, List.setIfInBounds_toArray, List.set_cons_zero, List.set_cons_succ]
  refine wqv (u := .agg #[.int .u64 (h' : Int), .int .u64 (l' : Int)]) (by kernel_rfl) (fun v hv => by obtain ⟨_, ⟨_, k0, k1⟩, _⟩ := KC.out v hv; go_simp) ?_
  simp only [Act.put, List.setIfInBounds_toArray, List.set_cons_zero, List.set_cons_succ]
  refine wqe (by kernel_rfl) rfl (.agg #[.int .u64 (h : Int), .int .u64 (l : Int)]) (.agg #[.int .u64 (h' : Int), .int .u64 (l' : Int)]) (.bool (decide ((h : Int) = (h' : Int) ∧ (l : Int) = (l' : Int)))) (by kernel_rfl) (by kernel_rfl) (fun v => eqlDr9 _ _ _ _ _ _ v) ?_
  simp only [Act.put, List.setIfInBounds_toArray, List.set_cons_zero, List.set_cons_succ]
  refine wqv (u := .bool true) (by kernel_rfl) (fun v hv => by simp only [execOp]; go_simp) ?_
  simp only [Act.put, List.setIfInBounds_toArray, List.set_cons_zero, List.set_cons_succ]
  refine wqv (u := .bool true) (by kernel_rfl) (fun v hv => by kernel_rfl) ?_
  simp only [Act.put, List.setIfInBounds_toArray, List.set_cons_zero, List.set_cons_succ]
  refine wqv (u := .bool true) (by kernel_rfl) (fun v hv => by kernel_rfl) ?_
  simp only [Act.put, List.setIfInBounds_toArray, List.set_cons_zero, List.set_cons_succ]
  refine wqnil (fun v hv => ?_)
  have BV := hide (Below.on (Nat.le_refl _) BW12.out hv)
  clear hv KC
  go_wp2
  go_ret
  exact ⟨rfl, BV.out⟩
set_option maxRecDepth 100000 in
set_option maxHeartbeats 2000000 in
theorem btw_zg0 (h l h' l' h2 l2 : Nat) (a1 : h < 18446744073709551616) (a2 : l < 18446744073709551616) (a3 : h' < 18446744073709551616) (a4 : l' < 18446744073709551616) (W : World) (ht : Tab W) (xc : cmpD (h : Int) (l : Int) (h' : Int) (l' : Int) = 0) (yc : ¬ cmpD (h' : Int) (l' : Int) (h2 : Int) (l2 : Int) ≤ 0) (ntop : ¬ (h = 18446744073709551615 ∧ l = 18446744073709551615)) :
    Calls Tryd.prog 4 #[.agg #[.int .u64 (h : Int), .int .u64 (l : Int)], .agg #[.int .u64 (h' : Int), .int .u64 (l' : Int)], .agg #[.int .u64 (h2 : Int), .int .u64 (l2 : Int)]] W fun e w' => e = .returned (.bool true) ∧ Below W.heap.size W w' := by
  have HT := hide ht
  clear ht
  obtain ⟨x, hx⟩ : ∃ x, cmpD (h : Int) (l : Int) (h' : Int) (l' : Int) = x := ⟨_, rfl⟩
  obtain ⟨y, hy⟩ : ∃ y, cmpD (h' : Int) (l' : Int) (h2 : Int) (l2 : Int) = y := ⟨_, rfl⟩
  obtain ⟨z, hz⟩ : ∃ z, cmpD (h : Int) (l : Int) (h2 : Int) (l2 : Int) = z := ⟨_, rfl⟩
  have hx2 := cmp_neg (h : Int) (l : Int) (h' : Int) (l' : Int)
  have hx3 := cmp_three (h : Int) (l : Int) (h' : Int) (l' : Int)
  have hx0 := cmp_zero (h : Int) (l : Int) (h' : Int) (l' : Int)
  rw [hx] at hx2 hx3 hx0
  have C1 : Hid (∀ v, Calls Tryd.prog 10 #[.agg #[.int .u64 (h : Int), .int .u64 (l : Int)], .agg #[.int .u64 (h' : Int), .int .u64 (l' : Int)]] v fun e w' => e = .returned (.int .i64 x) ∧ Below v.heap.size v w') := fun v => by have := compare_any (h : Int) (l : Int) (h' : Int) (l' : Int) v; rw [hx] at this; exact this
  have C2 : Hid (∀ v, Calls Tryd.prog 10 #[.agg #[.int .u64 (h' : Int), .int .u64 (l' : Int)], .agg #[.int .u64 (h2 : Int), .int .u64 (l2 : Int)]] v fun e w' => e = .returned (.int .i64 y) ∧ Below v.heap.size v w') := fun v => by have := compare_any (h' : Int) (l' : Int) (h2 : Int) (l2 : Int) v; rw [hy] at this; exact this
  have C3 : Hid (∀ v, Calls Tryd.prog 10 #[.agg #[.int .u64 (h : Int), .int .u64 (l : Int)], .agg #[.int .u64 (h2 : Int), .int .u64 (l2 : Int)]] v fun e w' => e = .returned (.int .i64 z) ∧ Below v.heap.size v w') := fun v => by have := compare_any (h : Int) (l : Int) (h2 : Int) (l2 : Int) v; rw [hz] at this; exact this
  have C4 : Hid (∀ v, Calls Tryd.prog 10 #[.agg #[.int .u64 (h' : Int), .int .u64 (l' : Int)], .agg #[.int .u64 (h : Int), .int .u64 (l : Int)]] v fun e w' => e = .returned (.int .i64 (-x)) ∧ Below v.heap.size v w') := fun v => by have := compare_any (h' : Int) (l' : Int) (h : Int) (l : Int) v; rw [hx2] at this; exact this
  have NX := hide (fun v => next_any (h : Int) (l : Int) v (by omega) (by omega) (by omega) (by omega))
  have na := nx_above (h : Int) (l : Int) (by omega) (by omega) (by omega) (by omega) (by omega)
  rw [na.2] at NX
  have teq : ((h : Int) == 18446744073709551615 && (l : Int) == 18446744073709551615) = false := by rw [Bool.and_eq_false_iff]; by_cases e : h = 18446744073709551615; right; simp; omega; left; simp; omega
  obtain ⟨nh, hnh⟩ : ∃ nh, nxH (h : Int) (l : Int) = nh := ⟨_, rfl⟩
  obtain ⟨nl, hnl⟩ : ∃ nl, nxL (h : Int) (l : Int) = nl := ⟨_, rfl⟩
  rw [hnh, hnl] at NX na
  have C5 : Hid (∀ v, Calls Tryd.prog 10 #[.agg #[.int .u64 (h : Int), .int .u64 (l : Int)], .agg #[.int .u64 nh, .int .u64 nl]] v fun e w' => e = .returned (.int .i64 (-1)) ∧ Below v.heap.size v w') := fun v => by have := compare_any (h : Int) (l : Int) nh nl v; rw [na.1] at this; exact this
  clear na hnh hnl ntop
  have zb : (x == 0) = decide ((h : Int) = (h' : Int) ∧ (l : Int) = (l' : Int)) := by rw [Bool.eq_iff_iff]; simp only [beq_iff_eq, decide_eq_true_eq]; exact hx0
  have e1 := fun w => eqlD9 (h : Int) (l : Int) (h' : Int) (l' : Int) w
  have eb : ((h : Int) == (h' : Int) && (l : Int) == (l' : Int)) = (x == 0) := by rw [zb, Bool.eq_iff_iff]; simp
  rw [eb] at e1
  clear zb eb hx0 hx2
  obtain rfl : x = 0 := by omega
  have y1 : decide (y ≤ 0) = false := by rw [decide_eq_false_iff_not]; omega
  clear hx3 xc yc
  have PS : Hid (∀ v, Calls Tryd.prog 7 #[.string (prS h l)] v fun e w' => e = .returned (.tuple #[.agg #[.int .u64 (h : Int), .int .u64 (l : Int)], .int .i64 0, .int .i64 0]) ∧ Below v.heap.size v w') := fun v => by
    have z := prS_size h l a1 a2
    have := parse_any (prS h l) v (by omega)
    obtain ⟨p1, p2, p3⟩ := ps_pr h l (by omega) (by omega)
    rw [← bts_prS] at p1 p2 p3
    obtain ⟨m1, m2, m3, m4⟩ := p_ok p1
    rw [m1, m2, m3, m4, p2, p3] at this
    exact this
  have SS := hide (prS_same h l h' l' a1 a2 a3 a4)
  clear hx hy hz
  obtain ⟨w0, hw0⟩ : ∃ w0, ((W.alloc (.cells #[.int .u64 (h : Int), .int .u64 (l : Int)] 24)).alloc (.cells #[.int .u64 (h' : Int), .int .u64 (l' : Int)] 24)).alloc (.cells #[.int .u64 (h2 : Int), .int .u64 (l2 : Int)] 24) = w0 := ⟨_, rfl⟩
  have DA0 : Hid (Dr w0 W.heap.size (h : Int) (l : Int)) := by rw [← hw0]; exact ((Dr.new W _ _ _).al _).al _
  have DB0 : Hid (Dr w0 (W.heap.size + 1) (h' : Int) (l' : Int)) := by rw [← hw0]; have := Dr.new (W.alloc (.cells #[.int .u64 (h : Int), .int .u64 (l : Int)] 24)) (h' : Int) (l' : Int) 24; rw [World.size_alloc] at this; exact this.al _
  have DC0 : Hid (Dr w0 (W.heap.size + 2) (h2 : Int) (l2 : Int)) := by rw [← hw0]; have := Dr.new ((W.alloc (.cells #[.int .u64 (h : Int), .int .u64 (l : Int)] 24)).alloc (.cells #[.int .u64 (h' : Int), .int .u64 (l' : Int)] 24)) (h2 : Int) (l2 : Int) 24; rw [World.size_alloc, World.size_alloc] at this; exact this
  have BW0 : Hid (Below W.heap.size W w0) := by rw [← hw0]; exact (((Below.refl _ _).alloc (Nat.le_refl _) _).alloc (by simp) _).alloc (by simp; omega) _
  obtain ⟨_, ca0, ca1⟩ := DA0.out
  obtain ⟨_, cb0, cb1⟩ := DB0.out
  obtain ⟨_, cc0, cc1⟩ := DC0.out
  go_enter Tryd.func4, Tryd.ntmps4
  go_wp2_with fail
  clear hw0
  clear ca0 ca1 cb0 cb1 cc0 cc1
  refine (C1.out _).mono ?_
  rintro e w1 ⟨rfl, b1⟩
  dsimp only
  have DA1 := hide (DA0.out.bel b1)
  have DB1 := hide (DB0.out.bel b1)
  have DC1 := hide (DC0.out.bel b1)
  have BW1 := hide (Below.on (Nat.le_refl _) BW0.out b1)
  clear b1
  obtain ⟨_, ca0, ca1⟩ := DA1.out
  obtain ⟨_, cb0, cb1⟩ := DB1.out
  obtain ⟨_, cc0, cc1⟩ := DC1.out
  go_wp2_with fail
  clear ca0 ca1 cb0 cb1 cc0 cc1
  refine (C2.out _).mono ?_
  rintro e w2 ⟨rfl, b2⟩
  dsimp only
  have DA2 := hide (DA1.out.bel b2)
  have DB2 := hide (DB1.out.bel b2)
  have DC2 := hide (DC1.out.bel b2)
  have BW2 := hide (Below.on (Nat.le_refl _) BW1.out b2)
  clear b2
  obtain ⟨_, ca0, ca1⟩ := DA2.out
  obtain ⟨_, cb0, cb1⟩ := DB2.out
  obtain ⟨_, cc0, cc1⟩ := DC2.out
  go_wp2_with fail
  clear ca0 ca1 cb0 cb1 cc0 cc1
  refine (C3.out _).mono ?_
  rintro e w3 ⟨rfl, b3⟩
  dsimp only
  have DA3 := hide (DA2.out.bel b3)
  have DB3 := hide (DB2.out.bel b3)
  have DC3 := hide (DC2.out.bel b3)
  have BW3 := hide (Below.on (Nat.le_refl _) BW2.out b3)
  clear b3
  obtain ⟨_, ca0, ca1⟩ := DA3.out
  obtain ⟨_, cb0, cb1⟩ := DB3.out
  obtain ⟨_, cc0, cc1⟩ := DC3.out
  go_wp2_with fail
  clear ca0 ca1 cb0 cb1 cc0 cc1
  refine (C4.out _).mono ?_
  rintro e w4 ⟨rfl, b4⟩
  dsimp only
  have DA4 := hide (DA3.out.bel b4)
  have DB4 := hide (DB3.out.bel b4)
  have DC4 := hide (DC3.out.bel b4)
  have BW4 := hide (Below.on (Nat.le_refl _) BW3.out b4)
  clear b4
  obtain ⟨_, ca0, ca1⟩ := DA4.out
  obtain ⟨_, cb0, cb1⟩ := DB4.out
  obtain ⟨_, cc0, cc1⟩ := DC4.out
  go_wp2_with fail
  clear ca0 ca1 cb0 cb1 cc0 cc1
  refine (NX.out _).mono ?_
  rintro e w5 ⟨rfl, b5⟩
  dsimp only
  have DA5 := hide (DA4.out.bel b5)
  have DB5 := hide (DB4.out.bel b5)
  have DC5 := hide (DC4.out.bel b5)
  have BW5 := hide (Below.on (Nat.le_refl _) BW4.out b5)
  clear b5
  obtain ⟨w6, hw6⟩ : ∃ w6, w5.alloc (.cells #[.int .u64 nh, .int .u64 nl] 24) = w6 := ⟨_, rfl⟩
  have b6 : Below w5.heap.size w5 w6 := by rw [← hw6]; exact (Below.refl _ _).alloc (Nat.le_refl _) _
  have DN6 : Hid (Dr w6 w5.heap.size nh nl) := by rw [← hw6]; exact Dr.new w5 _ _ _
  have DA6 := hide (DA5.out.bel b6)
  have DB6 := hide (DB5.out.bel b6)
  have DC6 := hide (DC5.out.bel b6)
  have BW6 := hide (Below.on (Nat.le_refl _) BW5.out b6)
  clear b6
  obtain ⟨_, ca0, ca1⟩ := DA6.out
  obtain ⟨_, cb0, cb1⟩ := DB6.out
  obtain ⟨_, cc0, cc1⟩ := DC6.out
  obtain ⟨_, cn0, cn1⟩ := DN6.out
  have q7 := fun w => eqlD9 (h : Int) (l : Int) 18446744073709551615 18446744073709551615 w
  rw [teq] at q7
  go_wp2_with fail
  clear hw6 q7
  clear ca0 ca1 cb0 cb1 cc0 cc1 cn0 cn1
  refine (C5.out _).mono ?_
  rintro e w7 ⟨rfl, b7⟩
  dsimp only
  have DA7 := hide (DA6.out.bel b7)
  have DB7 := hide (DB6.out.bel b7)
  have DC7 := hide (DC6.out.bel b7)
  have DN7 := hide (DN6.out.bel b7)
  have BW7 := hide (Below.on (Nat.le_refl _) BW6.out b7)
  clear b7
  obtain ⟨_, ca0, ca1⟩ := DA7.out
  obtain ⟨_, cb0, cb1⟩ := DB7.out
  obtain ⟨_, cc0, cc1⟩ := DC7.out
  obtain ⟨_, cn0, cn1⟩ := DN7.out
  go_wp2_with fail
  clear ca0 ca1 cb0 cb1 cc0 cc1 cn0 cn1
  refine (C1.out _).mono ?_
  rintro e w8 ⟨rfl, b8⟩
  dsimp only
  have DA8 := hide (DA7.out.bel b8)
  have DB8 := hide (DB7.out.bel b8)
  have DC8 := hide (DC7.out.bel b8)
  have DN8 := hide (DN7.out.bel b8)
  have BW8 := hide (Below.on (Nat.le_refl _) BW7.out b8)
  clear b8
  obtain ⟨_, ca0, ca1⟩ := DA8.out
  obtain ⟨_, cb0, cb1⟩ := DB8.out
  obtain ⟨_, cc0, cc1⟩ := DC8.out
  obtain ⟨_, cn0, cn1⟩ := DN8.out
  go_wp2_with fail
  clear ca0 ca1 cb0 cb1 cc0 cc1 cn0 cn1
  refine (print_any h l a1 a2 w8 (HT.out.of_below BW8.out)).mono ?_
  rintro e w10 ⟨rfl, b10⟩
  dsimp only
  have DA10 := hide (DA8.out.bel b10)
  have DB10 := hide (DB8.out.bel b10)
  have DC10 := hide (DC8.out.bel b10)
  have BW10 := hide (Below.on (Nat.le_refl _) BW8.out b10)
  clear b10
  go_wp2_with fail
  refine (PS.out w10).mono ?_
  rintro e w11 ⟨rfl, b11⟩
  dsimp only
  have DA11 := hide (DA10.out.bel b11)
  have DB11 := hide (DB10.out.bel b11)
  have DC11 := hide (DC10.out.bel b11)
  have BW11 := hide (Below.on (Nat.le_refl _) BW10.out b11)
  clear b11
  obtain ⟨w12, hw12⟩ : ∃ w12, w11.alloc (.cells #[.int .u64 (h : Int), .int .u64 (l : Int)] 24) = w12 := ⟨_, rfl⟩
  have b12 : Below w11.heap.size w11 w12 := by rw [← hw12]; exact (Below.refl _ _).alloc (Nat.le_refl _) _
  have DD12 : Hid (Dr w12 w11.heap.size (h : Int) (l : Int)) := by rw [← hw12]; exact Dr.new w11 _ _ _
  have DA12 := hide (DA11.out.bel b12)
  have DB12 := hide (DB11.out.bel b12)
  have DC12 := hide (DC11.out.bel b12)
  have BW12 := hide (Below.on (Nat.le_refl _) BW11.out b12)
  clear b12
  go_wp2_with fail
  clear hw12
  have KC : Hid (∀ v, Below w12.heap.size w12 v → Dr v W.heap.size (h : Int) (l : Int) ∧ Dr v (W.heap.size + 1) (h' : Int) (l' : Int) ∧ Dr v w11.heap.size (h : Int) (l : Int)) := fun v hv => ⟨DA12.out.bel hv, DB12.out.bel hv, DD12.out.bel hv⟩
  refine region_q9 (C := fun v => Below w12.heap.size w12 v) (by kernel_rfl) (by kernel_rfl) ((Below.refl _ _).drew) ?_
  refine wqv (u := .int .i64 0) (by kernel_rfl) (fun v hv => by kernel_rfl) ?_
  simp only [Act.put, List.setIfInBounds_toArray, List.set_cons_zero, List.set_cons_succ]
  refine wqv (u := .bool true) (by kernel_rfl) (fun v hv => by go_simp) ?_
  simp only [Act.put, List.setIfInBounds_toArray, List.set_cons_zero, List.set_cons_succ]
  refine wqv (u := .bool true) (by kernel_rfl) (fun v hv => by kernel_rfl) ?_
  simp only [Act.put, List.setIfInBounds_toArray, List.set_cons_zero, List.set_cons_succ]
  refine wqv (u := .int .i64 0) (by kernel_rfl) (fun v hv => by kernel_rfl) ?_
  simp only [Act.put, List.setIfInBounds_toArray, List.set_cons_zero, List.set_cons_succ]
  refine wqv (u := .bool true) (by kernel_rfl) (fun v hv => by go_simp) ?_
  simp only [Act.put, List.setIfInBounds_toArray, List.set_cons_zero, List.set_cons_succ]
  refine wqv (u := .bool true) (by kernel_rfl) (fun v hv => by kernel_rfl) ?_
  simp only [Act.put, List.setIfInBounds_toArray, List.set_cons_zero, List.set_cons_succ]
  refine wqv (u := .bool true) (by kernel_rfl) (fun v hv => by kernel_rfl) ?_
  simp only [Act.put, List.setIfInBounds_toArray, List.set_cons_zero, List.set_cons_succ]
  refine wqv (u := .agg #[.int .u64 (h : Int), .int .u64 (l : Int)]) (by kernel_rfl) (fun v hv => by obtain ⟨_, _, ⟨_, k0, k1⟩⟩ := KC.out v hv; go_simp) ?_
  simp only [Act.put, List.setIfInBounds_toArray, List.set_cons_zero, List.set_cons_succ]
  refine wqv (u := .agg #[.int .u64 (h : Int), .int .u64 (l : Int)]) (by kernel_rfl) (fun v hv => by obtain ⟨⟨_, k0, k1⟩, _, _⟩ := KC.out v hv; go_simp) ?_
  simp only [Act.put, List.setIfInBounds_toArray, List.set_cons_zero, List.set_cons_succ]
  refine wqe (by kernel_rfl) rfl (.agg #[.int .u64 (h : Int), .int .u64 (l : Int)]) (.agg #[.int .u64 (h : Int), .int .u64 (l : Int)]) (.bool true) (by kernel_rfl) (by kernel_rfl) (fun v => (eqlDr9 _ _ _ _ _ _ v).trans (by simp)) ?_
  simp only [Act.put, List.setIfInBounds_toArray, List.set_cons_zero, List.set_cons_succ]
  refine wqv (u := .bool true) (by kernel_rfl) (fun v hv => by kernel_rfl) ?_
  simp only [Act.put, List.setIfInBounds_toArray, List.set_cons_zero, List.set_cons_succ]
  refine wqv (u := .bool true) (by kernel_rfl) (fun v hv => by kernel_rfl) ?_
  simp only [Act.put, List.setIfInBounds_toArray, List.set_cons_zero, List.set_cons_succ]
  refine wqv (u := .string (prS h l)) (by kernel_rfl) (fun v hv => by kernel_rfl) ?_
  simp only [Act.put, List.setIfInBounds_toArray, List.set_cons_zero, List.set_cons_succ]
  refine wqv (u := .agg #[.int .u64 (h' : Int), .int .u64 (l' : Int)]) (by kernel_rfl) (fun v hv => by obtain ⟨_, ⟨_, k0, k1⟩, _⟩ := KC.out v hv; go_simp) ?_
  simp only [Act.put, List.setIfInBounds_toArray, List.set_cons_zero, List.set_cons_succ]
  refine wqc (fid := 6) (args := #[.agg #[.int .u64 (h' : Int), .int .u64 (l' : Int)]]) (u := .string (prS h' l')) (by kernel_rfl) (fun v => by kernel_rfl) (fun v hv => (print_any h' l' a3 a4 v (HT.out.of_below (Below.on (Nat.le_refl _) BW12.out hv))).mono fun e w' h => ⟨h.1, hv.trans (h.2.mono hv.size)⟩) ?_
  simp only [Act.put, List.setIfInBounds_toArray, List.set_cons_zero, List.set_cons_succ]
  refine wqv (u := .bool (decide ((h : Int) = (h' : Int) ∧ (l : Int) = (l' : Int)))) (by kernel_rfl) (fun v hv => by simp only [execOp]; go_simp; rw [SS.out, Bool.decide_and]) ?_
  simp only [Act.put, List.setIfInBounds_toArray, List.set_cons_zero, List.set_cons_succ]
  refine wqv (u := .agg #[.int .u64 (h : Int), .int .u64 (l : Int)]) (by kernel_rfl) (fun v hv => by obtain ⟨⟨_, k0, k1⟩, _, _⟩ := KC.out v hv; go_simp) ?_
  simp only [Act.put, List.setIfInBounds_toArray, List.set_cons_zero, List.set_cons_succ]
  refine wqv (u := .agg #[.int .u64 (h' : Int), .int .u64 (l' : Int)]) (by kernel_rfl) (fun v hv => by obtain ⟨_, ⟨_, k0, k1⟩, _⟩ := KC.out v hv; go_simp) ?_
  simp only [Act.put, List.setIfInBounds_toArray, List.set_cons_zero, List.set_cons_succ]
  refine wqe (by kernel_rfl) rfl (.agg #[.int .u64 (h : Int), .int .u64 (l : Int)]) (.agg #[.int .u64 (h' : Int), .int .u64 (l' : Int)]) (.bool (decide ((h : Int) = (h' : Int) ∧ (l : Int) = (l' : Int)))) (by kernel_rfl) (by kernel_rfl) (fun v => eqlDr9 _ _ _ _ _ _ v) ?_
  simp only [Act.put, List.setIfInBounds_toArray, List.set_cons_zero, List.set_cons_succ]
  refine wqv (u := .bool true) (by kernel_rfl) (fun v hv => by simp only [execOp]; go_simp) ?_
  simp only [Act.put, List.setIfInBounds_toArray, List.set_cons_zero, List.set_cons_succ]
  refine wqv (u := .bool true) (by kernel_rfl) (fun v hv => by kernel_rfl) ?_
  simp only [Act.put, List.setIfInBounds_toArray, List.set_cons_zero, List.set_cons_succ]
  refine wqv (u := .bool true) (by kernel_rfl) (fun v hv => by kernel_rfl) ?_
  simp only [Act.put, List.setIfInBounds_toArray, List.set_cons_zero, List.set_cons_succ]
  refine wqnil (fun v hv => ?_)
  have BV := hide (Below.on (Nat.le_refl _) BW12.out hv)
  clear hv KC
  go_wp2
  go_ret
  exact ⟨rfl, BV.out⟩
set_option maxRecDepth 100000 in
set_option maxHeartbeats 2000000 in
theorem btw_nl0 (h l h' l' h2 l2 : Nat) (a1 : h < 18446744073709551616) (a2 : l < 18446744073709551616) (a3 : h' < 18446744073709551616) (a4 : l' < 18446744073709551616) (W : World) (ht : Tab W) (xc : cmpD (h : Int) (l : Int) (h' : Int) (l' : Int) = -1) (yc : cmpD (h' : Int) (l' : Int) (h2 : Int) (l2 : Int) ≤ 0) (ntop : ¬ (h = 18446744073709551615 ∧ l = 18446744073709551615)) :
    Calls Tryd.prog 4 #[.agg #[.int .u64 (h : Int), .int .u64 (l : Int)], .agg #[.int .u64 (h' : Int), .int .u64 (l' : Int)], .agg #[.int .u64 (h2 : Int), .int .u64 (l2 : Int)]] W fun e w' => e = .returned (.bool true) ∧ Below W.heap.size W w' := by
  have HT := hide ht
  clear ht
  obtain ⟨x, hx⟩ : ∃ x, cmpD (h : Int) (l : Int) (h' : Int) (l' : Int) = x := ⟨_, rfl⟩
  obtain ⟨y, hy⟩ : ∃ y, cmpD (h' : Int) (l' : Int) (h2 : Int) (l2 : Int) = y := ⟨_, rfl⟩
  obtain ⟨z, hz⟩ : ∃ z, cmpD (h : Int) (l : Int) (h2 : Int) (l2 : Int) = z := ⟨_, rfl⟩
  have hx2 := cmp_neg (h : Int) (l : Int) (h' : Int) (l' : Int)
  have hx3 := cmp_three (h : Int) (l : Int) (h' : Int) (l' : Int)
  have hx0 := cmp_zero (h : Int) (l : Int) (h' : Int) (l' : Int)
  rw [hx] at hx2 hx3 hx0
  have C1 : Hid (∀ v, Calls Tryd.prog 10 #[.agg #[.int .u64 (h : Int), .int .u64 (l : Int)], .agg #[.int .u64 (h' : Int), .int .u64 (l' : Int)]] v fun e w' => e = .returned (.int .i64 x) ∧ Below v.heap.size v w') := fun v => by have := compare_any (h : Int) (l : Int) (h' : Int) (l' : Int) v; rw [hx] at this; exact this
  have C2 : Hid (∀ v, Calls Tryd.prog 10 #[.agg #[.int .u64 (h' : Int), .int .u64 (l' : Int)], .agg #[.int .u64 (h2 : Int), .int .u64 (l2 : Int)]] v fun e w' => e = .returned (.int .i64 y) ∧ Below v.heap.size v w') := fun v => by have := compare_any (h' : Int) (l' : Int) (h2 : Int) (l2 : Int) v; rw [hy] at this; exact this
  have C3 : Hid (∀ v, Calls Tryd.prog 10 #[.agg #[.int .u64 (h : Int), .int .u64 (l : Int)], .agg #[.int .u64 (h2 : Int), .int .u64 (l2 : Int)]] v fun e w' => e = .returned (.int .i64 z) ∧ Below v.heap.size v w') := fun v => by have := compare_any (h : Int) (l : Int) (h2 : Int) (l2 : Int) v; rw [hz] at this; exact this
  have C4 : Hid (∀ v, Calls Tryd.prog 10 #[.agg #[.int .u64 (h' : Int), .int .u64 (l' : Int)], .agg #[.int .u64 (h : Int), .int .u64 (l : Int)]] v fun e w' => e = .returned (.int .i64 (-x)) ∧ Below v.heap.size v w') := fun v => by have := compare_any (h' : Int) (l' : Int) (h : Int) (l : Int) v; rw [hx2] at this; exact this
  have NX := hide (fun v => next_any (h : Int) (l : Int) v (by omega) (by omega) (by omega) (by omega))
  have na := nx_above (h : Int) (l : Int) (by omega) (by omega) (by omega) (by omega) (by omega)
  rw [na.2] at NX
  have teq : ((h : Int) == 18446744073709551615 && (l : Int) == 18446744073709551615) = false := by rw [Bool.and_eq_false_iff]; by_cases e : h = 18446744073709551615; right; simp; omega; left; simp; omega
  obtain ⟨nh, hnh⟩ : ∃ nh, nxH (h : Int) (l : Int) = nh := ⟨_, rfl⟩
  obtain ⟨nl, hnl⟩ : ∃ nl, nxL (h : Int) (l : Int) = nl := ⟨_, rfl⟩
  rw [hnh, hnl] at NX na
  have C5 : Hid (∀ v, Calls Tryd.prog 10 #[.agg #[.int .u64 (h : Int), .int .u64 (l : Int)], .agg #[.int .u64 nh, .int .u64 nl]] v fun e w' => e = .returned (.int .i64 (-1)) ∧ Below v.heap.size v w') := fun v => by have := compare_any (h : Int) (l : Int) nh nl v; rw [na.1] at this; exact this
  obtain ⟨u, hu⟩ : ∃ u, cmpD nh nl (h' : Int) (l' : Int) = u := ⟨_, rfl⟩
  have hu0 : u ≤ 0 := by rw [← hu, ← hnh, ← hnl]; exact nx_least (h : Int) (l : Int) (h' : Int) (l' : Int) (by omega) (by omega) (by omega) (by omega) (by omega) (by rw [hx]; omega)
  have C6 : Hid (∀ v, Calls Tryd.prog 10 #[.agg #[.int .u64 nh, .int .u64 nl], .agg #[.int .u64 (h' : Int), .int .u64 (l' : Int)]] v fun e w' => e = .returned (.int .i64 u) ∧ Below v.heap.size v w') := fun v => by have := compare_any nh nl (h' : Int) (l' : Int) v; rw [hu] at this; exact this
  have u1 : decide (0 < u) = false := by rw [decide_eq_false_iff_not]; omega
  clear hu hu0
  clear na hnh hnl ntop
  have zb : (x == 0) = decide ((h : Int) = (h' : Int) ∧ (l : Int) = (l' : Int)) := by rw [Bool.eq_iff_iff]; simp only [beq_iff_eq, decide_eq_true_eq]; exact hx0
  have e1 := fun w => eqlD9 (h : Int) (l : Int) (h' : Int) (l' : Int) w
  have eb : ((h : Int) == (h' : Int) && (l : Int) == (l' : Int)) = (x == 0) := by rw [zb, Bool.eq_iff_iff]; simp
  rw [eb] at e1
  clear zb eb hx0 hx2
  have zc := cmp_lt (h : Int) (l : Int) (h' : Int) (l' : Int) (h2 : Int) (l2 : Int) (by omega) yc
  obtain rfl : x = -1 := by omega
  have y1 : decide (y ≤ 0) = true := by rw [decide_eq_true_eq]; omega
  have z1 : decide (0 < z) = false := by rw [decide_eq_false_iff_not]; omega
  have z2 : decide (0 ≤ z) = false := by rw [decide_eq_false_iff_not]; omega
  clear hx3 xc yc zc
  have PS : Hid (∀ v, Calls Tryd.prog 7 #[.string (prS h l)] v fun e w' => e = .returned (.tuple #[.agg #[.int .u64 (h : Int), .int .u64 (l : Int)], .int .i64 0, .int .i64 0]) ∧ Below v.heap.size v w') := fun v => by
    have z := prS_size h l a1 a2
    have := parse_any (prS h l) v (by omega)
    obtain ⟨p1, p2, p3⟩ := ps_pr h l (by omega) (by omega)
    rw [← bts_prS] at p1 p2 p3
    obtain ⟨m1, m2, m3, m4⟩ := p_ok p1
    rw [m1, m2, m3, m4, p2, p3] at this
    exact this
  have SS := hide (prS_same h l h' l' a1 a2 a3 a4)
  clear hx hy hz
  obtain ⟨w0, hw0⟩ : ∃ w0, ((W.alloc (.cells #[.int .u64 (h : Int), .int .u64 (l : Int)] 24)).alloc (.cells #[.int .u64 (h' : Int), .int .u64 (l' : Int)] 24)).alloc (.cells #[.int .u64 (h2 : Int), .int .u64 (l2 : Int)] 24) = w0 := ⟨_, rfl⟩
  have DA0 : Hid (Dr w0 W.heap.size (h : Int) (l : Int)) := by rw [← hw0]; exact ((Dr.new W _ _ _).al _).al _
  have DB0 : Hid (Dr w0 (W.heap.size + 1) (h' : Int) (l' : Int)) := by rw [← hw0]; have := Dr.new (W.alloc (.cells #[.int .u64 (h : Int), .int .u64 (l : Int)] 24)) (h' : Int) (l' : Int) 24; rw [World.size_alloc] at this; exact this.al _
  have DC0 : Hid (Dr w0 (W.heap.size + 2) (h2 : Int) (l2 : Int)) := by rw [← hw0]; have := Dr.new ((W.alloc (.cells #[.int .u64 (h : Int), .int .u64 (l : Int)] 24)).alloc (.cells #[.int .u64 (h' : Int), .int .u64 (l' : Int)] 24)) (h2 : Int) (l2 : Int) 24; rw [World.size_alloc, World.size_alloc] at this; exact this
  have BW0 : Hid (Below W.heap.size W w0) := by rw [← hw0]; exact (((Below.refl _ _).alloc (Nat.le_refl _) _).alloc (by simp) _).alloc (by simp; omega) _
  obtain ⟨_, ca0, ca1⟩ := DA0.out
  obtain ⟨_, cb0, cb1⟩ := DB0.out
  obtain ⟨_, cc0, cc1⟩ := DC0.out
  go_enter Tryd.func4, Tryd.ntmps4
  go_wp2_with fail
  clear hw0
  clear ca0 ca1 cb0 cb1 cc0 cc1
  refine (C1.out _).mono ?_
  rintro e w1 ⟨rfl, b1⟩
  dsimp only
  have DA1 := hide (DA0.out.bel b1)
  have DB1 := hide (DB0.out.bel b1)
  have DC1 := hide (DC0.out.bel b1)
  have BW1 := hide (Below.on (Nat.le_refl _) BW0.out b1)
  clear b1
  obtain ⟨_, ca0, ca1⟩ := DA1.out
  obtain ⟨_, cb0, cb1⟩ := DB1.out
  obtain ⟨_, cc0, cc1⟩ := DC1.out
  go_wp2_with fail
  clear ca0 ca1 cb0 cb1 cc0 cc1
  refine (C2.out _).mono ?_
  rintro e w2 ⟨rfl, b2⟩
  dsimp only
  have DA2 := hide (DA1.out.bel b2)
  have DB2 := hide (DB1.out.bel b2)
  have DC2 := hide (DC1.out.bel b2)
  have BW2 := hide (Below.on (Nat.le_refl _) BW1.out b2)
  clear b2
  obtain ⟨_, ca0, ca1⟩ := DA2.out
  obtain ⟨_, cb0, cb1⟩ := DB2.out
  obtain ⟨_, cc0, cc1⟩ := DC2.out
  go_wp2_with fail
  clear ca0 ca1 cb0 cb1 cc0 cc1
  refine (C3.out _).mono ?_
  rintro e w3 ⟨rfl, b3⟩
  dsimp only
  have DA3 := hide (DA2.out.bel b3)
  have DB3 := hide (DB2.out.bel b3)
  have DC3 := hide (DC2.out.bel b3)
  have BW3 := hide (Below.on (Nat.le_refl _) BW2.out b3)
  clear b3
  obtain ⟨_, ca0, ca1⟩ := DA3.out
  obtain ⟨_, cb0, cb1⟩ := DB3.out
  obtain ⟨_, cc0, cc1⟩ := DC3.out
  go_wp2_with fail
  clear ca0 ca1 cb0 cb1 cc0 cc1
  refine (C4.out _).mono ?_
  rintro e w4 ⟨rfl, b4⟩
  dsimp only
  have DA4 := hide (DA3.out.bel b4)
  have DB4 := hide (DB3.out.bel b4)
  have DC4 := hide (DC3.out.bel b4)
  have BW4 := hide (Below.on (Nat.le_refl _) BW3.out b4)
  clear b4
  obtain ⟨_, ca0, ca1⟩ := DA4.out
  obtain ⟨_, cb0, cb1⟩ := DB4.out
  obtain ⟨_, cc0, cc1⟩ := DC4.out
  go_wp2_with fail
  clear ca0 ca1 cb0 cb1 cc0 cc1
  refine (NX.out _).mono ?_
  rintro e w5 ⟨rfl, b5⟩
  dsimp only
  have DA5 := hide (DA4.out.bel b5)
  have DB5 := hide (DB4.out.bel b5)
  have DC5 := hide (DC4.out.bel b5)
  have BW5 := hide (Below.on (Nat.le_refl _) BW4.out b5)
  clear b5
  obtain ⟨w6, hw6⟩ : ∃ w6, w5.alloc (.cells #[.int .u64 nh, .int .u64 nl] 24) = w6 := ⟨_, rfl⟩
  have b6 : Below w5.heap.size w5 w6 := by rw [← hw6]; exact (Below.refl _ _).alloc (Nat.le_refl _) _
  have DN6 : Hid (Dr w6 w5.heap.size nh nl) := by rw [← hw6]; exact Dr.new w5 _ _ _
  have DA6 := hide (DA5.out.bel b6)
  have DB6 := hide (DB5.out.bel b6)
  have DC6 := hide (DC5.out.bel b6)
  have BW6 := hide (Below.on (Nat.le_refl _) BW5.out b6)
  clear b6
  obtain ⟨_, ca0, ca1⟩ := DA6.out
  obtain ⟨_, cb0, cb1⟩ := DB6.out
  obtain ⟨_, cc0, cc1⟩ := DC6.out
  obtain ⟨_, cn0, cn1⟩ := DN6.out
  have q7 := fun w => eqlD9 (h : Int) (l : Int) 18446744073709551615 18446744073709551615 w
  rw [teq] at q7
  go_wp2_with fail
  clear hw6 q7
  clear ca0 ca1 cb0 cb1 cc0 cc1 cn0 cn1
  refine (C5.out _).mono ?_
  rintro e w7 ⟨rfl, b7⟩
  dsimp only
  have DA7 := hide (DA6.out.bel b7)
  have DB7 := hide (DB6.out.bel b7)
  have DC7 := hide (DC6.out.bel b7)
  have DN7 := hide (DN6.out.bel b7)
  have BW7 := hide (Below.on (Nat.le_refl _) BW6.out b7)
  clear b7
  obtain ⟨_, ca0, ca1⟩ := DA7.out
  obtain ⟨_, cb0, cb1⟩ := DB7.out
  obtain ⟨_, cc0, cc1⟩ := DC7.out
  obtain ⟨_, cn0, cn1⟩ := DN7.out
  go_wp2_with fail
  clear ca0 ca1 cb0 cb1 cc0 cc1 cn0 cn1
  refine (C1.out _).mono ?_
  rintro e w8 ⟨rfl, b8⟩
  dsimp only
  have DA8 := hide (DA7.out.bel b8)
  have DB8 := hide (DB7.out.bel b8)
  have DC8 := hide (DC7.out.bel b8)
  have DN8 := hide (DN7.out.bel b8)
  have BW8 := hide (Below.on (Nat.le_refl _) BW7.out b8)
  clear b8
  obtain ⟨_, ca0, ca1⟩ := DA8.out
  obtain ⟨_, cb0, cb1⟩ := DB8.out
  obtain ⟨_, cc0, cc1⟩ := DC8.out
  obtain ⟨_, cn0, cn1⟩ := DN8.out
  go_wp2_with fail
  clear ca0 ca1 cb0 cb1 cc0 cc1 cn0 cn1
  refine (C6.out _).mono ?_
  rintro e w9 ⟨rfl, b9⟩
  dsimp only
  have DA9 := hide (DA8.out.bel b9)
  have DB9 := hide (DB8.out.bel b9)
  have DC9 := hide (DC8.out.bel b9)
  have DN9 := hide (DN8.out.bel b9)
  have BW9 := hide (Below.on (Nat.le_refl _) BW8.out b9)
  clear b9
  obtain ⟨_, ca0, ca1⟩ := DA9.out
  obtain ⟨_, cb0, cb1⟩ := DB9.out
  obtain ⟨_, cc0, cc1⟩ := DC9.out
  obtain ⟨_, cn0, cn1⟩ := DN9.out
  go_wp2_with fail
  clear ca0 ca1 cb0 cb1 cc0 cc1 cn0 cn1
  refine (print_any h l a1 a2 w9 (HT.out.of_below BW9.out)).mono ?_
  rintro e w10 ⟨rfl, b10⟩
  dsimp only
  have DA10 := hide (DA9.out.bel b10)
  have DB10 := hide (DB9.out.bel b10)
  have DC10 := hide (DC9.out.bel b10)
  have BW10 := hide (Below.on (Nat.le_refl _) BW9.out b10)
  clear b10
  go_wp2_with fail
  refine (PS.out w10).mono ?_
  rintro e w11 ⟨rfl, b11⟩
  dsimp only
  have DA11 := hide (DA10.out.bel b11)
  have DB11 := hide (DB10.out.bel b11)
  have DC11 := hide (DC10.out.bel b11)
  have BW11 := hide (Below.on (Nat.le_refl _) BW10.out b11)
  clear b11
  obtain ⟨w12, hw12⟩ : ∃ w12, w11.alloc (.cells #[.int .u64 (h : Int), .int .u64 (l : Int)] 24) = w12 := ⟨_, rfl⟩
  have b12 : Below w11.heap.size w11 w12 := by rw [← hw12]; exact (Below.refl _ _).alloc (Nat.le_refl _) _
  have DD12 : Hid (Dr w12 w11.heap.size (h : Int) (l : Int)) := by rw [← hw12]; exact Dr.new w11 _ _ _
  have DA12 := hide (DA11.out.bel b12)
  have DB12 := hide (DB11.out.bel b12)
  have DC12 := hide (DC11.out.bel b12)
  have BW12 := hide (Below.on (Nat.le_refl _) BW11.out b12)
  clear b12
  go_wp2_with fail
  clear hw12
  have KC : Hid (∀ v, Below w12.heap.size w12 v → Dr v W.heap.size (h : Int) (l : Int) ∧ Dr v (W.heap.size + 1) (h' : Int) (l' : Int) ∧ Dr v w11.heap.size (h : Int) (l : Int)) := fun v hv => ⟨DA12.out.bel hv, DB12.out.bel hv, DD12.out.bel hv⟩
  refine region_q9 (C := fun v => Below w12.heap.size w12 v) (by kernel_rfl) (by kernel_rfl) ((Below.refl _ _).drew) ?_
  refine wqv (u := .int .i64 0) (by kernel_rfl) (fun v hv => by kernel_rfl) ?_
  simp only [Act.put, List.setIfInBounds_toArray, List.set_cons_zero, List.set_cons_succ]
  refine wqv (u := .bool true) (by kernel_rfl) (fun v hv => by go_simp) ?_
  simp only [Act.put, List.setIfInBounds_toArray, List.set_cons_zero, List.set_cons_succ]
  refine wqv (u := .bool true) (by kernel_rfl) (fun v hv => by kernel_rfl) ?_
  simp only [Act.put, List.setIfInBounds_toArray, List.set_cons_zero, List.set_cons_succ]
  refine wqv (u := .int .i64 0) (by kernel_rfl) (fun v hv => by kernel_rfl) ?_
  simp only [Act.put, List.setIfInBounds_toArray, List.set_cons_zero, List.set_cons_succ]
  refine wqv (u := .bool true) (by kernel_rfl) (fun v hv => by go_simp) ?_
  simp only [Act.put, List.setIfInBounds_toArray, List.set_cons_zero, List.set_cons_succ]
  refine wqv (u := .bool true) (by kernel_rfl) (fun v hv => by kernel_rfl) ?_
  simp only [Act.put, List.setIfInBounds_toArray, List.set_cons_zero, List.set_cons_succ]
  refine wqv (u := .bool true) (by kernel_rfl) (fun v hv => by kernel_rfl) ?_
  simp only [Act.put, List.setIfInBounds_toArray, List.set_cons_zero, List.set_cons_succ]
  refine wqv (u := .agg #[.int .u64 (h : Int), .int .u64 (l : Int)]) (by kernel_rfl) (fun v hv => by obtain ⟨_, _, ⟨_, k0, k1⟩⟩ := KC.out v hv; go_simp) ?_
  simp only [Act.put, List.setIfInBounds_toArray, List.set_cons_zero, List.set_cons_succ]
  refine wqv (u := .agg #[.int .u64 (h : Int), .int .u64 (l : Int)]) (by kernel_rfl) (fun v hv => by obtain ⟨⟨_, k0, k1⟩, _, _⟩ := KC.out v hv; go_simp) ?_
  simp only [Act.put, List.setIfInBounds_toArray, List.set_cons_zero, List.set_cons_succ]
  refine wqe (by kernel_rfl) rfl (.agg #[.int .u64 (h : Int), .int .u64 (l : Int)]) (.agg #[.int .u64 (h : Int), .int .u64 (l : Int)]) (.bool true) (by kernel_rfl) (by kernel_rfl) (fun v => (eqlDr9 _ _ _ _ _ _ v).trans (by simp)) ?_
  simp only [Act.put, List.setIfInBounds_toArray, List.set_cons_zero, List.set_cons_succ]
  refine wqv (u := .bool true) (by kernel_rfl) (fun v hv => by kernel_rfl) ?_
  simp only [Act.put, List.setIfInBounds_toArray, List.set_cons_zero, List.set_cons_succ]
  refine wqv (u := .bool true) (by kernel_rfl) (fun v hv => by kernel_rfl) ?_
  simp only [Act.put, List.setIfInBounds_toArray, List.set_cons_zero, List.set_cons_succ]
  refine wqv (u := .string (prS h l)) (by kernel_rfl) (fun v hv => by kernel_rfl) ?_
  simp only [Act.put, List.setIfInBounds_toArray, List.set_cons_zero, List.set_cons_succ]
  refine wqv (u := .agg #[.int .u64 (h' : Int), .int .u64 (l' : Int)]) (by kernel_rfl) (fun v hv => by obtain ⟨_, ⟨_, k0, k1⟩, _⟩ := KC.out v hv; go_simp) ?_
  simp only [Act.put, List.setIfInBounds_toArray, List.set_cons_zero, List.set_cons_succ]
  refine wqc (fid := 6) (args := #[.agg #[.int .u64 (h' : Int), .int .u64 (l' : Int)]]) (u := .string (prS h' l')) (by kernel_rfl) (fun v => by kernel_rfl) (fun v hv => (print_any h' l' a3 a4 v (HT.out.of_below (Below.on (Nat.le_refl _) BW12.out hv))).mono fun e w' h => ⟨h.1, hv.trans (h.2.mono hv.size)⟩) ?_
  simp only [Act.put, List.setIfInBounds_toArray, List.set_cons_zero, List.set_cons_succ]
  refine wqv (u := .bool (decide ((h : Int) = (h' : Int) ∧ (l : Int) = (l' : Int)))) (by kernel_rfl) (fun v hv => by simp only [execOp]; go_simp; rw [SS.out, Bool.decide_and]) ?_
  simp only [Act.put, List.setIfInBounds_toArray, List.set_cons_zero, List.set_cons_succ]
  refine wqv (u := .agg #[.int .u64 (h : Int), .int .u64 (l : Int)]) (by kernel_rfl) (fun v hv => by obtain ⟨⟨_, k0, k1⟩, _, _⟩ := KC.out v hv; go_simp) ?_
  simp only [Act.put, List.setIfInBounds_toArray, List.set_cons_zero, List.set_cons_succ]
  refine wqv (u := .agg #[.int .u64 (h' : Int), .int .u64 (l' : Int)]) (by kernel_rfl) (fun v hv => by obtain ⟨_, ⟨_, k0, k1⟩, _⟩ := KC.out v hv; go_simp) ?_
  simp only [Act.put, List.setIfInBounds_toArray, List.set_cons_zero, List.set_cons_succ]
  refine wqe (by kernel_rfl) rfl (.agg #[.int .u64 (h : Int), .int .u64 (l : Int)]) (.agg #[.int .u64 (h' : Int), .int .u64 (l' : Int)]) (.bool (decide ((h : Int) = (h' : Int) ∧ (l : Int) = (l' : Int)))) (by kernel_rfl) (by kernel_rfl) (fun v => eqlDr9 _ _ _ _ _ _ v) ?_
  simp only [Act.put, List.setIfInBounds_toArray, List.set_cons_zero, List.set_cons_succ]
  refine wqv (u := .bool true) (by kernel_rfl) (fun v hv => by simp only [execOp]; go_simp) ?_
  simp only [Act.put, List.setIfInBounds_toArray, List.set_cons_zero, List.set_cons_succ]
  refine wqv (u := .bool true) (by kernel_rfl) (fun v hv => by kernel_rfl) ?_
  simp only [Act.put, List.setIfInBounds_toArray, List.set_cons_zero, List.set_cons_succ]
  refine wqv (u := .bool true) (by kernel_rfl) (fun v hv => by kernel_rfl) ?_
  simp only [Act.put, List.setIfInBounds_toArray, List.set_cons_zero, List.set_cons_succ]
  refine wqnil (fun v hv => ?_)
  have BV := hide (Below.on (Nat.le_refl _) BW12.out hv)
  clear hv KC
  go_wp2
  go_ret
  exact ⟨rfl, BV.out⟩
set_option maxRecDepth 100000 in
set_option maxHeartbeats 2000000 in
theorem btw_ng0 (h l h' l' h2 l2 : Nat) (a1 : h < 18446744073709551616) (a2 : l < 18446744073709551616) (a3 : h' < 18446744073709551616) (a4 : l' < 18446744073709551616) (W : World) (ht : Tab W) (xc : cmpD (h : Int) (l : Int) (h' : Int) (l' : Int) = -1) (yc : ¬ cmpD (h' : Int) (l' : Int) (h2 : Int) (l2 : Int) ≤ 0) (ntop : ¬ (h = 18446744073709551615 ∧ l = 18446744073709551615)) :
    Calls Tryd.prog 4 #[.agg #[.int .u64 (h : Int), .int .u64 (l : Int)], .agg #[.int .u64 (h' : Int), .int .u64 (l' : Int)], .agg #[.int .u64 (h2 : Int), .int .u64 (l2 : Int)]] W fun e w' => e = .returned (.bool true) ∧ Below W.heap.size W w' := by
  have HT := hide ht
  clear ht
  obtain ⟨x, hx⟩ : ∃ x, cmpD (h : Int) (l : Int) (h' : Int) (l' : Int) = x := ⟨_, rfl⟩
  obtain ⟨y, hy⟩ : ∃ y, cmpD (h' : Int) (l' : Int) (h2 : Int) (l2 : Int) = y := ⟨_, rfl⟩
  obtain ⟨z, hz⟩ : ∃ z, cmpD (h : Int) (l : Int) (h2 : Int) (l2 : Int) = z := ⟨_, rfl⟩
  have hx2 := cmp_neg (h : Int) (l : Int) (h' : Int) (l' : Int)
  have hx3 := cmp_three (h : Int) (l : Int) (h' : Int) (l' : Int)
  have hx0 := cmp_zero (h : Int) (l : Int) (h' : Int) (l' : Int)
  rw [hx] at hx2 hx3 hx0
  have C1 : Hid (∀ v, Calls Tryd.prog 10 #[.agg #[.int .u64 (h : Int), .int .u64 (l : Int)], .agg #[.int .u64 (h' : Int), .int .u64 (l' : Int)]] v fun e w' => e = .returned (.int .i64 x) ∧ Below v.heap.size v w') := fun v => by have := compare_any (h : Int) (l : Int) (h' : Int) (l' : Int) v; rw [hx] at this; exact this
  have C2 : Hid (∀ v, Calls Tryd.prog 10 #[.agg #[.int .u64 (h' : Int), .int .u64 (l' : Int)], .agg #[.int .u64 (h2 : Int), .int .u64 (l2 : Int)]] v fun e w' => e = .returned (.int .i64 y) ∧ Below v.heap.size v w') := fun v => by have := compare_any (h' : Int) (l' : Int) (h2 : Int) (l2 : Int) v; rw [hy] at this; exact this
  have C3 : Hid (∀ v, Calls Tryd.prog 10 #[.agg #[.int .u64 (h : Int), .int .u64 (l : Int)], .agg #[.int .u64 (h2 : Int), .int .u64 (l2 : Int)]] v fun e w' => e = .returned (.int .i64 z) ∧ Below v.heap.size v w') := fun v => by have := compare_any (h : Int) (l : Int) (h2 : Int) (l2 : Int) v; rw [hz] at this; exact this
  have C4 : Hid (∀ v, Calls Tryd.prog 10 #[.agg #[.int .u64 (h' : Int), .int .u64 (l' : Int)], .agg #[.int .u64 (h : Int), .int .u64 (l : Int)]] v fun e w' => e = .returned (.int .i64 (-x)) ∧ Below v.heap.size v w') := fun v => by have := compare_any (h' : Int) (l' : Int) (h : Int) (l : Int) v; rw [hx2] at this; exact this
  have NX := hide (fun v => next_any (h : Int) (l : Int) v (by omega) (by omega) (by omega) (by omega))
  have na := nx_above (h : Int) (l : Int) (by omega) (by omega) (by omega) (by omega) (by omega)
  rw [na.2] at NX
  have teq : ((h : Int) == 18446744073709551615 && (l : Int) == 18446744073709551615) = false := by rw [Bool.and_eq_false_iff]; by_cases e : h = 18446744073709551615; right; simp; omega; left; simp; omega
  obtain ⟨nh, hnh⟩ : ∃ nh, nxH (h : Int) (l : Int) = nh := ⟨_, rfl⟩
  obtain ⟨nl, hnl⟩ : ∃ nl, nxL (h : Int) (l : Int) = nl := ⟨_, rfl⟩
  rw [hnh, hnl] at NX na
  have C5 : Hid (∀ v, Calls Tryd.prog 10 #[.agg #[.int .u64 (h : Int), .int .u64 (l : Int)], .agg #[.int .u64 nh, .int .u64 nl]] v fun e w' => e = .returned (.int .i64 (-1)) ∧ Below v.heap.size v w') := fun v => by have := compare_any (h : Int) (l : Int) nh nl v; rw [na.1] at this; exact this
  obtain ⟨u, hu⟩ : ∃ u, cmpD nh nl (h' : Int) (l' : Int) = u := ⟨_, rfl⟩
  have hu0 : u ≤ 0 := by rw [← hu, ← hnh, ← hnl]; exact nx_least (h : Int) (l : Int) (h' : Int) (l' : Int) (by omega) (by omega) (by omega) (by omega) (by omega) (by rw [hx]; omega)
  have C6 : Hid (∀ v, Calls Tryd.prog 10 #[.agg #[.int .u64 nh, .int .u64 nl], .agg #[.int .u64 (h' : Int), .int .u64 (l' : Int)]] v fun e w' => e = .returned (.int .i64 u) ∧ Below v.heap.size v w') := fun v => by have := compare_any nh nl (h' : Int) (l' : Int) v; rw [hu] at this; exact this
  have u1 : decide (0 < u) = false := by rw [decide_eq_false_iff_not]; omega
  clear hu hu0
  clear na hnh hnl ntop
  have zb : (x == 0) = decide ((h : Int) = (h' : Int) ∧ (l : Int) = (l' : Int)) := by rw [Bool.eq_iff_iff]; simp only [beq_iff_eq, decide_eq_true_eq]; exact hx0
  have e1 := fun w => eqlD9 (h : Int) (l : Int) (h' : Int) (l' : Int) w
  have eb : ((h : Int) == (h' : Int) && (l : Int) == (l' : Int)) = (x == 0) := by rw [zb, Bool.eq_iff_iff]; simp
  rw [eb] at e1
  clear zb eb hx0 hx2
  obtain rfl : x = -1 := by omega
  have y1 : decide (y ≤ 0) = false := by rw [decide_eq_false_iff_not]; omega
  clear hx3 xc yc
  have PS : Hid (∀ v, Calls Tryd.prog 7 #[.string (prS h l)] v fun e w' => e = .returned (.tuple #[.agg #[.int .u64 (h : Int), .int .u64 (l : Int)], .int .i64 0, .int .i64 0]) ∧ Below v.heap.size v w') := fun v => by
    have z := prS_size h l a1 a2
    have := parse_any (prS h l) v (by omega)
    obtain ⟨p1, p2, p3⟩ := ps_pr h l (by omega) (by omega)
    rw [← bts_prS] at p1 p2 p3
    obtain ⟨m1, m2, m3, m4⟩ := p_ok p1
    rw [m1, m2, m3, m4, p2, p3] at this
    exact this
  have SS := hide (prS_same h l h' l' a1 a2 a3 a4)
  clear hx hy hz
  obtain ⟨w0, hw0⟩ : ∃ w0, ((W.alloc (.cells #[.int .u64 (h : Int), .int .u64 (l : Int)] 24)).alloc (.cells #[.int .u64 (h' : Int), .int .u64 (l' : Int)] 24)).alloc (.cells #[.int .u64 (h2 : Int), .int .u64 (l2 : Int)] 24) = w0 := ⟨_, rfl⟩
  have DA0 : Hid (Dr w0 W.heap.size (h : Int) (l : Int)) := by rw [← hw0]; exact ((Dr.new W _ _ _).al _).al _
  have DB0 : Hid (Dr w0 (W.heap.size + 1) (h' : Int) (l' : Int)) := by rw [← hw0]; have := Dr.new (W.alloc (.cells #[.int .u64 (h : Int), .int .u64 (l : Int)] 24)) (h' : Int) (l' : Int) 24; rw [World.size_alloc] at this; exact this.al _
  have DC0 : Hid (Dr w0 (W.heap.size + 2) (h2 : Int) (l2 : Int)) := by rw [← hw0]; have := Dr.new ((W.alloc (.cells #[.int .u64 (h : Int), .int .u64 (l : Int)] 24)).alloc (.cells #[.int .u64 (h' : Int), .int .u64 (l' : Int)] 24)) (h2 : Int) (l2 : Int) 24; rw [World.size_alloc, World.size_alloc] at this; exact this
  have BW0 : Hid (Below W.heap.size W w0) := by rw [← hw0]; exact (((Below.refl _ _).alloc (Nat.le_refl _) _).alloc (by simp) _).alloc (by simp; omega) _
  obtain ⟨_, ca0, ca1⟩ := DA0.out
  obtain ⟨_, cb0, cb1⟩ := DB0.out
  obtain ⟨_, cc0, cc1⟩ := DC0.out
  go_enter Tryd.func4, Tryd.ntmps4
  go_wp2_with fail
  clear hw0
  clear ca0 ca1 cb0 cb1 cc0 cc1
  refine (C1.out _).mono ?_
  rintro e w1 ⟨rfl, b1⟩
  dsimp only
  have DA1 := hide (DA0.out.bel b1)
  have DB1 := hide (DB0.out.bel b1)
  have DC1 := hide (DC0.out.bel b1)
  have BW1 := hide (Below.on (Nat.le_refl _) BW0.out b1)
  clear b1
  obtain ⟨_, ca0, ca1⟩ := DA1.out
  obtain ⟨_, cb0, cb1⟩ := DB1.out
  obtain ⟨_, cc0, cc1⟩ := DC1.out
  go_wp2_with fail
  clear ca0 ca1 cb0 cb1 cc0 cc1
  refine (C2.out _).mono ?_
  rintro e w2 ⟨rfl, b2⟩
  dsimp only
  have DA2 := hide (DA1.out.bel b2)
  have DB2 := hide (DB1.out.bel b2)
  have DC2 := hide (DC1.out.bel b2)
  have BW2 := hide (Below.on (Nat.le_refl _) BW1.out b2)
  clear b2
  obtain ⟨_, ca0, ca1⟩ := DA2.out
  obtain ⟨_, cb0, cb1⟩ := DB2.out
  obtain ⟨_, cc0, cc1⟩ := DC2.out
  go_wp2_with fail
  clear ca0 ca1 cb0 cb1 cc0 cc1
  refine (C3.out _).mono ?_
  rintro e w3 ⟨rfl, b3⟩
  dsimp only
  have DA3 := hide (DA2.out.bel b3)
  have DB3 := hide (DB2.out.bel b3)
  have DC3 := hide (DC2.out.bel b3)
  have BW3 := hide (Below.on (Nat.le_refl _) BW2.out b3)
  clear b3
  obtain ⟨_, ca0, ca1⟩ := DA3.out
  obtain ⟨_, cb0, cb1⟩ := DB3.out
  obtain ⟨_, cc0, cc1⟩ := DC3.out
  go_wp2_with fail
  clear ca0 ca1 cb0 cb1 cc0 cc1
  refine (C4.out _).mono ?_
  rintro e w4 ⟨rfl, b4⟩
  dsimp only
  have DA4 := hide (DA3.out.bel b4)
  have DB4 := hide (DB3.out.bel b4)
  have DC4 := hide (DC3.out.bel b4)
  have BW4 := hide (Below.on (Nat.le_refl _) BW3.out b4)
  clear b4
  obtain ⟨_, ca0, ca1⟩ := DA4.out
  obtain ⟨_, cb0, cb1⟩ := DB4.out
  obtain ⟨_, cc0, cc1⟩ := DC4.out
  go_wp2_with fail
  clear ca0 ca1 cb0 cb1 cc0 cc1
  refine (NX.out _).mono ?_
  rintro e w5 ⟨rfl, b5⟩
  dsimp only
  have DA5 := hide (DA4.out.bel b5)
  have DB5 := hide (DB4.out.bel b5)
  have DC5 := hide (DC4.out.bel b5)
  have BW5 := hide (Below.on (Nat.le_refl _) BW4.out b5)
  clear b5
  obtain ⟨w6, hw6⟩ : ∃ w6, w5.alloc (.cells #[.int .u64 nh, .int .u64 nl] 24) = w6 := ⟨_, rfl⟩
  have b6 : Below w5.heap.size w5 w6 := by rw [← hw6]; exact (Below.refl _ _).alloc (Nat.le_refl _) _
  have DN6 : Hid (Dr w6 w5.heap.size nh nl) := by rw [← hw6]; exact Dr.new w5 _ _ _
  have DA6 := hide (DA5.out.bel b6)
  have DB6 := hide (DB5.out.bel b6)
  have DC6 := hide (DC5.out.bel b6)
  have BW6 := hide (Below.on (Nat.le_refl _) BW5.out b6)
  clear b6
  obtain ⟨_, ca0, ca1⟩ := DA6.out
  obtain ⟨_, cb0, cb1⟩ := DB6.out
  obtain ⟨_, cc0, cc1⟩ := DC6.out
  obtain ⟨_, cn0, cn1⟩ := DN6.out
  have q7 := fun w => eqlD9 (h : Int) (l : Int) 18446744073709551615 18446744073709551615 w
  rw [teq] at q7
  go_wp2_with fail
  clear hw6 q7
  clear ca0 ca1 cb0 cb1 cc0 cc1 cn0 cn1
  refine (C5.out _).mono ?_
  rintro e w7 ⟨rfl, b7⟩
  dsimp only
  have DA7 := hide (DA6.out.bel b7)
  have DB7 := hide (DB6.out.bel b7)
  have DC7 := hide (DC6.out.bel b7)
  have DN7 := hide (DN6.out.bel b7)
  have BW7 := hide (Below.on (Nat.le_refl _) BW6.out b7)
  clear b7
  obtain ⟨_, ca0, ca1⟩ := DA7.out
  obtain ⟨_, cb0, cb1⟩ := DB7.out
  obtain ⟨_, cc0, cc1⟩ := DC7.out
  obtain ⟨_, cn0, cn1⟩ := DN7.out
  go_wp2_with fail
  clear ca0 ca1 cb0 cb1 cc0 cc1 cn0 cn1
  refine (C1.out _).mono ?_
  rintro e w8 ⟨rfl, b8⟩
  dsimp only
  have DA8 := hide (DA7.out.bel b8)
  have DB8 := hide (DB7.out.bel b8)
  have DC8 := hide (DC7.out.bel b8)
  have DN8 := hide (DN7.out.bel b8)
  have BW8 := hide (Below.on (Nat.le_refl _) BW7.out b8)
  clear b8
  obtain ⟨_, ca0, ca1⟩ := DA8.out
  obtain ⟨_, cb0, cb1⟩ := DB8.out
  obtain ⟨_, cc0, cc1⟩ := DC8.out
  obtain ⟨_, cn0, cn1⟩ := DN8.out
  go_wp2_with fail
  clear ca0 ca1 cb0 cb1 cc0 cc1 cn0 cn1
  refine (C6.out _).mono ?_
  rintro e w9 ⟨rfl, b9⟩
  dsimp only
  have DA9 := hide (DA8.out.bel b9)
  have DB9 := hide (DB8.out.bel b9)
  have DC9 := hide (DC8.out.bel b9)
  have DN9 := hide (DN8.out.bel b9)
  have BW9 := hide (Below.on (Nat.le_refl _) BW8.out b9)
  clear b9
  obtain ⟨_, ca0, ca1⟩ := DA9.out
  obtain ⟨_, cb0, cb1⟩ := DB9.out
  obtain ⟨_, cc0, cc1⟩ := DC9.out
  obtain ⟨_, cn0, cn1⟩ := DN9.out
  go_wp2_with fail
  clear ca0 ca1 cb0 cb1 cc0 cc1 cn0 cn1
  refine (print_any h l a1 a2 w9 (HT.out.of_below BW9.out)).mono ?_
  rintro e w10 ⟨rfl, b10⟩
  dsimp only
  have DA10 := hide (DA9.out.bel b10)
  have DB10 := hide (DB9.out.bel b10)
  have DC10 := hide (DC9.out.bel b10)
  have BW10 := hide (Below.on (Nat.le_refl _) BW9.out b10)
  clear b10
  go_wp2_with fail
  refine (PS.out w10).mono ?_
  rintro e w11 ⟨rfl, b11⟩
  dsimp only
  have DA11 := hide (DA10.out.bel b11)
  have DB11 := hide (DB10.out.bel b11)
  have DC11 := hide (DC10.out.bel b11)
  have BW11 := hide (Below.on (Nat.le_refl _) BW10.out b11)
  clear b11
  obtain ⟨w12, hw12⟩ : ∃ w12, w11.alloc (.cells #[.int .u64 (h : Int), .int .u64 (l : Int)] 24) = w12 := ⟨_, rfl⟩
  have b12 : Below w11.heap.size w11 w12 := by rw [← hw12]; exact (Below.refl _ _).alloc (Nat.le_refl _) _
  have DD12 : Hid (Dr w12 w11.heap.size (h : Int) (l : Int)) := by rw [← hw12]; exact Dr.new w11 _ _ _
  have DA12 := hide (DA11.out.bel b12)
  have DB12 := hide (DB11.out.bel b12)
  have DC12 := hide (DC11.out.bel b12)
  have BW12 := hide (Below.on (Nat.le_refl _) BW11.out b12)
  clear b12
  go_wp2_with fail
  clear hw12
  have KC : Hid (∀ v, Below w12.heap.size w12 v → Dr v W.heap.size (h : Int) (l : Int) ∧ Dr v (W.heap.size + 1) (h' : Int) (l' : Int) ∧ Dr v w11.heap.size (h : Int) (l : Int)) := fun v hv => ⟨DA12.out.bel hv, DB12.out.bel hv, DD12.out.bel hv⟩
  refine region_q9 (C := fun v => Below w12.heap.size w12 v) (by kernel_rfl) (by kernel_rfl) ((Below.refl _ _).drew) ?_
  refine wqv (u := .int .i64 0) (by kernel_rfl) (fun v hv => by kernel_rfl) ?_
  simp only [Act.put, List.setIfInBounds_toArray, List.set_cons_zero, List.set_cons_succ]
  refine wqv (u := .bool true) (by kernel_rfl) (fun v hv => by go_simp) ?_
  simp only [Act.put, List.setIfInBounds_toArray, List.set_cons_zero, List.set_cons_succ]
  refine wqv (u := .bool true) (by kernel_rfl) (fun v hv => by kernel_rfl) ?_
  simp only [Act.put, List.setIfInBounds_toArray, List.set_cons_zero, List.set_cons_succ]
  refine wqv (u := .int .i64 0) (by kernel_rfl) (fun v hv => by kernel_rfl) ?_
  simp only [Act.put, List.setIfInBounds_toArray, List.set_cons_zero, List.set_cons_succ]
  refine wqv (u := .bool true) (by kernel_rfl) (fun v hv => by go_simp) ?_
  simp only [Act.put, List.setIfInBounds_toArray, List.set_cons_zero, List.set_cons_succ]
  refine wqv (u := .bool true) (by kernel_rfl) (fun v hv => by kernel_rfl) ?_
  simp only [Act.put, List.setIfInBounds_toArray, List.set_cons_zero, List.set_cons_succ]
  refine wqv (u := .bool true) (by kernel_rfl) (fun v hv => by kernel_rfl) ?_
  simp only [Act.put, List.setIfInBounds_toArray, List.set_cons_zero, List.set_cons_succ]
  refine wqv (u := .agg #[.int .u64 (h : Int), .int .u64 (l : Int)]) (by kernel_rfl) (fun v hv => by obtain ⟨_, _, ⟨_, k0, k1⟩⟩ := KC.out v hv; go_simp) ?_
  simp only [Act.put, List.setIfInBounds_toArray, List.set_cons_zero, List.set_cons_succ]
  refine wqv (u := .agg #[.int .u64 (h : Int), .int .u64 (l : Int)]) (by kernel_rfl) (fun v hv => by obtain ⟨⟨_, k0, k1⟩, _, _⟩ := KC.out v hv; go_simp) ?_
  simp only [Act.put, List.setIfInBounds_toArray, List.set_cons_zero, List.set_cons_succ]
  refine wqe (by kernel_rfl) rfl (.agg #[.int .u64 (h : Int), .int .u64 (l : Int)]) (.agg #[.int .u64 (h : Int), .int .u64 (l : Int)]) (.bool true) (by kernel_rfl) (by kernel_rfl) (fun v => (eqlDr9 _ _ _ _ _ _ v).trans (by simp)) ?_
  simp only [Act.put, List.setIfInBounds_toArray, List.set_cons_zero, List.set_cons_succ]
  refine wqv (u := .bool true) (by kernel_rfl) (fun v hv => by kernel_rfl) ?_
  simp only [Act.put, List.setIfInBounds_toArray, List.set_cons_zero, List.set_cons_succ]
  refine wqv (u := .bool true) (by kernel_rfl) (fun v hv => by kernel_rfl) ?_
  simp only [Act.put, List.setIfInBounds_toArray, List.set_cons_zero, List.set_cons_succ]
  refine wqv (u := .string (prS h l)) (by kernel_rfl) (fun v hv => by kernel_rfl) ?_
  simp only [Act.put, List.setIfInBounds_toArray, List.set_cons_zero, List.set_cons_succ]
  refine wqv (u := .agg #[.int .u64 (h' : Int), .int .u64 (l' : Int)]) (by kernel_rfl) (fun v hv => by obtain ⟨_, ⟨_, k0, k1⟩, _⟩ := KC.out v hv; go_simp) ?_
  simp only [Act.put, List.setIfInBounds_toArray, List.set_cons_zero, List.set_cons_succ]
  refine wqc (fid := 6) (args := #[.agg #[.int .u64 (h' : Int), .int .u64 (l' : Int)]]) (u := .string (prS h' l')) (by kernel_rfl) (fun v => by kernel_rfl) (fun v hv => (print_any h' l' a3 a4 v (HT.out.of_below (Below.on (Nat.le_refl _) BW12.out hv))).mono fun e w' h => ⟨h.1, hv.trans (h.2.mono hv.size)⟩) ?_
  simp only [Act.put, List.setIfInBounds_toArray, List.set_cons_zero, List.set_cons_succ]
  refine wqv (u := .bool (decide ((h : Int) = (h' : Int) ∧ (l : Int) = (l' : Int)))) (by kernel_rfl) (fun v hv => by simp only [execOp]; go_simp; rw [SS.out, Bool.decide_and]) ?_
  simp only [Act.put, List.setIfInBounds_toArray, List.set_cons_zero, List.set_cons_succ]
  refine wqv (u := .agg #[.int .u64 (h : Int), .int .u64 (l : Int)]) (by kernel_rfl) (fun v hv => by obtain ⟨⟨_, k0, k1⟩, _, _⟩ := KC.out v hv; go_simp) ?_
  simp only [Act.put, List.setIfInBounds_toArray, List.set_cons_zero, List.set_cons_succ]
  refine wqv (u := .agg #[.int .u64 (h' : Int), .int .u64 (l' : Int)]) (by kernel_rfl) (fun v hv => by obtain ⟨_, ⟨_, k0, k1⟩, _⟩ := KC.out v hv; go_simp) ?_
  simp only [Act.put, List.setIfInBounds_toArray, List.set_cons_zero, List.set_cons_succ]
  refine wqe (by kernel_rfl) rfl (.agg #[.int .u64 (h : Int), .int .u64 (l : Int)]) (.agg #[.int .u64 (h' : Int), .int .u64 (l' : Int)]) (.bool (decide ((h : Int) = (h' : Int) ∧ (l : Int) = (l' : Int)))) (by kernel_rfl) (by kernel_rfl) (fun v => eqlDr9 _ _ _ _ _ _ v) ?_
  simp only [Act.put, List.setIfInBounds_toArray, List.set_cons_zero, List.set_cons_succ]
  refine wqv (u := .bool true) (by kernel_rfl) (fun v hv => by simp only [execOp]; go_simp) ?_
  simp only [Act.put, List.setIfInBounds_toArray, List.set_cons_zero, List.set_cons_succ]
  refine wqv (u := .bool true) (by kernel_rfl) (fun v hv => by kernel_rfl) ?_
  simp only [Act.put, List.setIfInBounds_toArray, List.set_cons_zero, List.set_cons_succ]
  refine wqv (u := .bool true) (by kernel_rfl) (fun v hv => by kernel_rfl) ?_
  simp only [Act.put, List.setIfInBounds_toArray, List.set_cons_zero, List.set_cons_succ]
  refine wqnil (fun v hv => ?_)
  have BV := hide (Below.on (Nat.le_refl _) BW12.out hv)
  clear hv KC
  go_wp2
  go_ret
  exact ⟨rfl, BV.out⟩
theorem between_walk (h l h' l' h2 l2 : Nat) (a1 : h < 18446744073709551616) (a2 : l < 18446744073709551616) (a3 : h' < 18446744073709551616) (a4 : l' < 18446744073709551616) (W : World) (ht : Tab W) :
    Calls Tryd.prog 4 #[.agg #[.int .u64 (h : Int), .int .u64 (l : Int)], .agg #[.int .u64 (h' : Int), .int .u64 (l' : Int)], .agg #[.int .u64 (h2 : Int), .int .u64 (l2 : Int)]] W fun e w' => e = .returned (.bool true) ∧ Below W.heap.size W w' := by
  by_cases t : h = 18446744073709551615 ∧ l = 18446744073709551615
  · rcases cmp_three (h : Int) (l : Int) (h' : Int) (l' : Int) with c | c | c
    · exfalso
      unfold cmpD cmpI at c
      repeat' split at c
      all_goals omega
    · by_cases y : cmpD (h' : Int) (l' : Int) (h2 : Int) (l2 : Int) ≤ 0
      · exact btw_zl1 h l h' l' h2 l2 a1 a2 a3 a4 W ht c y t
      · exact btw_zg1 h l h' l' h2 l2 a1 a2 a3 a4 W ht c y t
    · exact btw_p1 h l h' l' h2 l2 a1 a2 a3 a4 W ht c t
  · rcases cmp_three (h : Int) (l : Int) (h' : Int) (l' : Int) with c | c | c
    · by_cases y : cmpD (h' : Int) (l' : Int) (h2 : Int) (l2 : Int) ≤ 0
      · exact btw_nl0 h l h' l' h2 l2 a1 a2 a3 a4 W ht c y t
      · exact btw_ng0 h l h' l' h2 l2 a1 a2 a3 a4 W ht c y t
    · by_cases y : cmpD (h' : Int) (l' : Int) (h2 : Int) (l2 : Int) ≤ 0
      · exact btw_zl0 h l h' l' h2 l2 a1 a2 a3 a4 W ht c y t
      · exact btw_zg0 h l h' l' h2 l2 a1 a2 a3 a4 W ht c y t
    · exact btw_p0 h l h' l' h2 l2 a1 a2 a3 a4 W ht c t
theorem between_came (x0 y0 x1 y1 x2 y2 : Int) (W : World) (p0 : 0 ≤ x0 ∧ x0 ≤ 18446744073709551615) (q0 : 0 ≤ y0 ∧ y0 ≤ 18446744073709551615) (p1 : 0 ≤ x1 ∧ x1 ≤ 18446744073709551615) (q1 : 0 ≤ y1 ∧ y1 ≤ 18446744073709551615) (p2 : 0 ≤ x2 ∧ x2 ≤ 18446744073709551615) (q2 : 0 ≤ y2 ∧ y2 ≤ 18446744073709551615) (ht : Tab W) :
    Calls Tryd.prog 4 #[.agg #[.int .u64 x0, .int .u64 y0], .agg #[.int .u64 x1, .int .u64 y1], .agg #[.int .u64 x2, .int .u64 y2]] W fun e w' => e = .returned (.bool true) ∧ Below W.heap.size W w' := by
  obtain ⟨h, rfl, b1⟩ := nat_of p0
  obtain ⟨l, rfl, b2⟩ := nat_of q0
  obtain ⟨h', rfl, b3⟩ := nat_of p1
  obtain ⟨l', rfl, b4⟩ := nat_of q1
  obtain ⟨h2, rfl, b5⟩ := nat_of p2
  obtain ⟨l2, rfl, b6⟩ := nat_of q2
  exact between_walk h l h' l' h2 l2 b1 b2 b3 b4 W ht

end Go.Proofs.YtnndldhljonnpaaDoor
