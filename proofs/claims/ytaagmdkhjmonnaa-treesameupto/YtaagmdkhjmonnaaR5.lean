import Derived.Test.YtaagmdkhjmonnaaR4
namespace Go.Proofs.Ytaagmdkhjmonnaa
open Go.RowKit Go.Maps
open Classical
set_option linter.unusedVariables false
set_option linter.unusedSimpArgs false

theorem dec_or20 (p q : Prop) [Decidable p] [Decidable q] : (decide p || decide q) = decide (p ∨ q) := by
  by_cases h : p <;> by_cases h2 : q <;> simp [h, h2]
set_option maxRecDepth 100000 in
set_option maxHeartbeats 2000000 in
theorem inclusion20 (L : List Hs) (a : Option Addr) (n c : Nat) (p : Int) (w : World) (h : SlY yH w a n c L) (hn : n ≤ 4398046511104) :
    Calls Try.prog 53 #[.slice a n c, .int .i64 p] w fun e w' => ∃ v, e = .returned (.tuple #[v, .int .i64 (inR L p).2]) ∧ OwnY yH w.heap.size w' v (inR L p).1 ∧ Below w.heap.size w w' := by
  go_enter Try.func53, Try.ntmps53
  go_upto_region 0 with fail
  refine wp_region_lit ?_
  refine vl_gen (fun T => Rp T 17 [(1, gw true (.int .i64 (p : Int))), (0, gw true (.slice a n c))]) (((Rp.nil rfl).cons rfl).cons rfl) (fun Z0 q0 => ?_)
  have hln := h.len
  refine q0.t (.slice none 0 0) (ex_assign rfl rfl) fun _ q1 => ?_;clear q0
  refine q1.t (.int .i64 (0 : Int)) (ex_assign rfl rfl) fun _ q2 => ?_;clear q1
  refine wpList_nil ?_
  go_upto_region 1 with fail
  refine wp_region_lit ?_
  refine q2.t (.int .i64 (p : Int)) (ex_move rfl (q2.e (j := 1) rfl)) fun _ q3 => ?_;clear q2
  refine q3.t (.bool (decide (p < 1))) (ex_bin (Y := .int .i64 (1 : Int)) rfl (q3.e (j := 6) rfl) rfl (ltZ20 _ _ _ _ _)) fun _ q4 => ?_;clear q3
  refine q4.t (.bool (decide (p < 1))) (ex_move rfl (q4.e (j := 7) rfl)) fun _ q5 => ?_;clear q4
  refine vl ((true && (decide (p < 1) == false))) (.int .i64 (p : Int)) (want_g rfl rfl (q5.a 8 rfl)) (fun hc => ex_move rfl (q5.e (j := 1) rfl)) rfl q5.z (by decide) (q5.k fun _ q6 => ?_);clear q5
  refine vl ((true && (decide (p < 1) == false))) (.slice a n c) (want_g rfl rfl (q6.a 8 rfl)) (fun hc => ex_move rfl (q6.e (j := 0) rfl)) rfl q6.z (by decide) (q6.k fun _ q7 => ?_);clear q6
  refine vl ((true && (decide (p < 1) == false))) (.int .i64 ((n : Nat) : Int)) (want_g rfl rfl (q7.a 8 rfl)) (fun hc => ex_lenG rfl rfl Try.underlying42 (ev (q7.a 10 rfl) hc)) rfl q7.z (by decide) (q7.k fun _ q8 => ?_);clear q7
  refine vl ((true && (decide (p < 1) == false))) (.bool (decide ((n : Int) < p))) (want_g rfl rfl (q8.a 8 rfl)) (fun hc => ex_bin rfl (ev (q8.a 9 rfl) hc) (ev (q8.a 11 rfl) hc) (gtZ20 _ _ _ _ _)) rfl q8.z (by decide) (q8.k fun _ q9 => ?_);clear q8
  refine q9.t (.bool (decide (p < 1) || decide ((n : Int) < p))) (ex_or rfl (q9.a 8 rfl) (q9.a 12 rfl) rfl) fun _ q10 => ?_;clear q9
  rw [dec_or20] at q10
  refine wpList_nil ?_
  by_cases hb : p < 1 ∨ (n : Int) < p
  · rw [decide_eq_true hb] at q10
    go_upto_region 2 with fail
    refine wp_cond_true (q10.e (j := 13) rfl) ?_
    go_upto_region 2 with fail
    refine wp_region_lit ?_
    refine q10.t (.slice none 0 0) (ex_assign rfl rfl) fun _ q11 => ?_;clear q10
    refine q11.t (.int .i64 (61 : Int)) (ex_assign rfl rfl) fun _ q12 => ?_;clear q11
    refine wpList_nil ?_
    go_wp2
    exact bodyPost_ret (results2_18 rfl (q12.a 4 rfl) (q12.a 5 rfl)) rfl ⟨_, by unfold inR; rw [hln, if_pos hb], by unfold inR; rw [hln, if_pos hb]; exact OwnY.nil _ _ _, Below.refl _ _⟩
  · rw [decide_eq_false hb] at q10
    obtain ⟨k, rfl⟩ : ∃ k : Nat, p = (k : Int) := ⟨p.toNat, by omega⟩
    go_upto_region 3 with fail
    refine wp_cond_false (q10.e (j := 13) rfl) ?_
    go_upto_region 3 with fail
    refine wp_region_lit ?_
    refine q10.t (.slice a n c) (ex_move rfl (q10.e (j := 0) rfl)) fun _ q11 => ?_;clear q10
    refine q11.t (.int .i64 ((k : Nat) : Int)) (ex_move rfl (q11.e (j := 1) rfl)) fun _ q12 => ?_;clear q11
    refine vcallP (want_none rfl) (ex_call rfl (by simp only [List.map_toArray, List.map_cons, List.map_nil, (q12.e (j := 14) rfl), (q12.e (j := 15) rfl), evc] <;> rfl) rfl) (pathUp20 L a n c k w h hn (by omega) (by omega)) rfl q12.z (by decide) ?_
    rintro e w1 ⟨v1, rfl, o1, b1⟩
    refine ⟨_, rfl, q12.k fun _ q13 => ?_⟩;clear q12
    refine q13.t (v1) (ex_assign rfl (q13.e (j := 16) rfl)) fun _ q14 => ?_;clear q13
    refine q14.t (.int .i64 (0 : Int)) (ex_assign rfl rfl) fun _ q15 => ?_;clear q14
    refine wpList_nil ?_
    go_wp2
    exact bodyPost_ret (results2_18 rfl (q15.a 4 rfl) (q15.a 5 rfl)) rfl ⟨_, by unfold inR; rw [hln, if_neg hb], by unfold inR; rw [hln, if_neg hb]; exact o1, b1⟩
set_option maxRecDepth 100000 in
set_option maxHeartbeats 2000000 in
theorem consistency20 (L : List Hs) (a : Option Addr) (n c : Nat) (p : Int) (w : World) (h : SlY yH w a n c L) (hn : n ≤ 4398046511104) :
    Calls Try.prog 54 #[.slice a n c, .int .i64 p] w fun e w' => ∃ v, e = .returned (.tuple #[v, .int .i64 (csR L p).2]) ∧ OwnY yH w.heap.size w' v (csR L p).1 ∧ Below w.heap.size w w' := by
  go_enter Try.func54, Try.ntmps54
  go_upto_region 0 with fail
  refine wp_region_lit ?_
  refine vl_gen (fun T => Rp T 21 [(1, gw true (.int .i64 (p : Int))), (0, gw true (.slice a n c))]) (((Rp.nil rfl).cons rfl).cons rfl) (fun Z0 q0 => ?_)
  have hln := h.len
  refine q0.t (.slice none 0 0) (ex_assign rfl rfl) fun _ q1 => ?_;clear q0
  refine q1.t (.int .i64 (0 : Int)) (ex_assign rfl rfl) fun _ q2 => ?_;clear q1
  refine wpList_nil ?_
  go_upto_region 1 with fail
  refine wp_region_lit ?_
  refine q2.t (.int .i64 (p : Int)) (ex_move rfl (q2.e (j := 1) rfl)) fun _ q3 => ?_;clear q2
  refine q3.t (.bool (decide (p < 0))) (ex_bin (Y := .int .i64 (0 : Int)) rfl (q3.e (j := 7) rfl) rfl (ltZ20 _ _ _ _ _)) fun _ q4 => ?_;clear q3
  refine q4.t (.bool (decide (p < 0))) (ex_move rfl (q4.e (j := 8) rfl)) fun _ q5 => ?_;clear q4
  refine vl ((true && (decide (p < 0) == false))) (.int .i64 (p : Int)) (want_g rfl rfl (q5.a 9 rfl)) (fun hc => ex_move rfl (q5.e (j := 1) rfl)) rfl q5.z (by decide) (q5.k fun _ q6 => ?_);clear q5
  refine vl ((true && (decide (p < 0) == false))) (.slice a n c) (want_g rfl rfl (q6.a 9 rfl)) (fun hc => ex_move rfl (q6.e (j := 0) rfl)) rfl q6.z (by decide) (q6.k fun _ q7 => ?_);clear q6
  refine vl ((true && (decide (p < 0) == false))) (.int .i64 ((n : Nat) : Int)) (want_g rfl rfl (q7.a 9 rfl)) (fun hc => ex_lenG rfl rfl Try.underlying42 (ev (q7.a 11 rfl) hc)) rfl q7.z (by decide) (q7.k fun _ q8 => ?_);clear q7
  refine vl ((true && (decide (p < 0) == false))) (.bool (decide ((n : Int) < p))) (want_g rfl rfl (q8.a 9 rfl)) (fun hc => ex_bin rfl (ev (q8.a 10 rfl) hc) (ev (q8.a 12 rfl) hc) (gtZ20 _ _ _ _ _)) rfl q8.z (by decide) (q8.k fun _ q9 => ?_);clear q8
  refine q9.t (.bool (decide (p < 0) || decide ((n : Int) < p))) (ex_or rfl (q9.a 9 rfl) (q9.a 13 rfl) rfl) fun _ q10 => ?_;clear q9
  refine q10.t (.bool (decide (p < 0) || decide ((n : Int) < p))) (ex_assign rfl (q10.e (j := 14) rfl)) fun _ q11 => ?_;clear q10
  rw [dec_or20] at q11
  refine wpList_nil ?_
  by_cases hb : p < 0 ∨ (n : Int) < p
  · rw [decide_eq_true hb] at q11
    go_upto_region 2 with fail
    refine wp_cond_true (q11.e (j := 6) rfl) ?_
    go_upto_region 2 with fail
    refine wp_region_lit ?_
    refine q11.t (.slice none 0 0) (ex_assign rfl rfl) fun _ q12 => ?_;clear q11
    refine q12.t (.int .i64 (200 : Int)) (ex_assign rfl rfl) fun _ q13 => ?_;clear q12
    refine wpList_nil ?_
    go_wp2
    exact bodyPost_ret (results2_18 rfl (q13.a 4 rfl) (q13.a 5 rfl)) rfl ⟨_, by unfold csR; rw [hln, if_pos hb], by unfold csR; rw [hln, if_pos hb]; exact OwnY.nil _ _ _, Below.refl _ _⟩
  · rw [decide_eq_false hb] at q11
    obtain ⟨k, rfl⟩ : ∃ k : Nat, p = (k : Int) := ⟨p.toNat, by omega⟩
    go_upto_region 3 with fail
    refine wp_cond_false (q11.e (j := 6) rfl) ?_
    go_upto_region 3 with fail
    refine wp_region_lit ?_
    refine q11.t (.int .i64 ((k : Nat) : Int)) (ex_move rfl (q11.e (j := 1) rfl)) fun _ q12 => ?_;clear q11
    by_cases h0 : k = 0
    · refine q12.t (.bool true) (ex_bin (Y := .int .i64 (0 : Int)) rfl (q12.e (j := 16) rfl) rfl (eqT20 _ _ (by omega) _)) fun _ q13 => ?_;clear q12
      refine q13.t (.bool true) (ex_assign rfl (q13.e (j := 17) rfl)) fun _ q14 => ?_;clear q13
      refine wpList_nil ?_
      go_upto_region 4 with fail
      refine wp_cond_true (q14.e (j := 15) rfl) ?_
      go_upto_region 4 with fail
      refine wp_region_lit ?_
      refine q14.t (.slice none 0 0) (ex_assign rfl rfl) fun _ q15 => ?_;clear q14
      refine q15.t (.int .i64 (0 : Int)) (ex_assign rfl rfl) fun _ q16 => ?_;clear q15
      refine wpList_nil ?_
      go_wp2
      exact bodyPost_ret (results2_18 rfl (q16.a 4 rfl) (q16.a 5 rfl)) rfl ⟨_, by unfold csR; rw [hln, if_neg hb, if_pos (by omega)], by unfold csR; rw [hln, if_neg hb, if_pos (by omega)]; exact OwnY.nil _ _ _, Below.refl _ _⟩
    · refine q12.t (.bool false) (ex_bin (Y := .int .i64 (0 : Int)) rfl (q12.e (j := 16) rfl) rfl (eqF20 _ _ (by omega) _)) fun _ q13 => ?_;clear q12
      refine q13.t (.bool false) (ex_assign rfl (q13.e (j := 17) rfl)) fun _ q14 => ?_;clear q13
      refine wpList_nil ?_
      go_upto_region 5 with fail
      refine wp_cond_false (q14.e (j := 15) rfl) ?_
      go_upto_region 5 with fail
      refine wp_region_lit ?_
      refine q14.t (.slice a n c) (ex_move rfl (q14.e (j := 0) rfl)) fun _ q15 => ?_;clear q14
      refine q15.t (.int .i64 ((k : Nat) : Int)) (ex_move rfl (q15.e (j := 1) rfl)) fun _ q16 => ?_;clear q15
      refine vcallP (want_none rfl) (ex_call rfl (by simp only [List.map_toArray, List.map_cons, List.map_nil, (q16.e (j := 18) rfl), (q16.e (j := 19) rfl), evc] <;> rfl) rfl) (pathAcross20 L a n c k true w h hn (by omega) (by omega)) rfl q16.z (by decide) ?_
      rintro e w1 ⟨v1, rfl, o1, b1⟩
      refine ⟨_, rfl, q16.k fun _ q17 => ?_⟩;clear q16
      refine q17.t (v1) (ex_assign rfl (q17.e (j := 20) rfl)) fun _ q18 => ?_;clear q17
      refine q18.t (.int .i64 (0 : Int)) (ex_assign rfl rfl) fun _ q19 => ?_;clear q18
      refine wpList_nil ?_
      go_wp2
      exact bodyPost_ret (results2_18 rfl (q19.a 4 rfl) (q19.a 5 rfl)) rfl ⟨_, by unfold csR; rw [hln, if_neg hb, if_neg (by omega)], by unfold csR; rw [hln, if_neg hb, if_neg (by omega)]; exact o1, b1⟩
set_option maxRecDepth 100000 in
set_option maxHeartbeats 2000000 in
theorem incllude20 (l : List En) (a : Option Addr) (n c : Nat) (p : Int) (w : World) (h : SlY yE w a n c l) (hn : n ≤ 4398046511104) (hv : ∀ x ∈ l, x.o.v.size ≤ 140737488350000) :
    Calls Try.prog 20 #[.slice a n c, .int .i64 p] w fun e w' => ∃ v, e = .returned (.tuple #[v, .int .i64 (inR (l.map lf) p).2]) ∧ OwnY yH w.heap.size w' v (inR (l.map lf) p).1 ∧ Below w.heap.size w w' := by
  go_enter Try.func20, Try.ntmps20
  go_upto_region 0 with fail
  refine wp_region_lit ?_
  refine vl_gen (fun T => Rp T 12 [(1, gw true (.int .i64 (p : Int))), (0, gw true (.slice a n c))]) (((Rp.nil rfl).cons rfl).cons rfl) (fun Z0 q0 => ?_)
  refine q0.t (.slice none 0 0) (ex_assign rfl rfl) fun _ q1 => ?_;clear q0
  refine q1.t (.int .i64 (0 : Int)) (ex_assign rfl rfl) fun _ q2 => ?_;clear q1
  refine wpList_nil ?_
  go_upto_region 1 with fail
  refine wp_region_lit ?_
  refine q2.t (.slice a n c) (ex_move rfl (q2.e (j := 0) rfl)) fun _ q3 => ?_;clear q2
  refine vcallP (want_none rfl) (ex_call rfl (by simp only [List.map_toArray, List.map_cons, List.map_nil, (q3.e (j := 6) rfl), evc] <;> rfl) rfl) (leaves20 l a n c w h hn hv) rfl q3.z (by decide) ?_
  rintro e w2 ⟨v2, rfl, o2, b2⟩
  refine ⟨_, rfl, q3.k fun _ q4 => ?_⟩;clear q3
  have z2 := b2.size
  obtain ⟨a2, c2, hv2, s2, _⟩ := o2.sl kH
  subst hv2
  have hll := h.len
  refine q4.t (.int .i64 (p : Int)) (ex_move rfl (q4.e (j := 1) rfl)) fun _ q5 => ?_;clear q4
  refine vcallP (want_none rfl) (ex_call rfl (by simp only [List.map_toArray, List.map_cons, List.map_nil, (q5.e (j := 7) rfl), (q5.e (j := 8) rfl), evc] <;> rfl) rfl) (inclusion20 _ _ _ _ p w2 s2 (by rw [List.length_map]; omega)) rfl q5.z (by decide) ?_
  rintro e w3 ⟨v3, rfl, o3, b3⟩
  refine ⟨_, rfl, q5.k fun _ q6 => ?_⟩;clear q5
  refine q6.t (v3) (ex_ext18 rfl (q6.e (j := 9) rfl) (xt0 _ _ _)) fun _ q7 => ?_;clear q6
  refine q7.t (.int .i64 (inR (l.map lf) p).2) (ex_ext18 rfl (q7.e (j := 9) rfl) (xt1 _ _ _)) fun _ q8 => ?_;clear q7
  refine q8.t (v3) (ex_assign rfl (q8.e (j := 10) rfl)) fun _ q9 => ?_;clear q8
  refine q9.t (.int .i64 (inR (l.map lf) p).2) (ex_assign rfl (q9.e (j := 11) rfl)) fun _ q10 => ?_;clear q9
  refine wpList_nil ?_
  go_wp2
  exact bodyPost_ret (results2_18 rfl (q10.a 4 rfl) (q10.a 5 rfl)) rfl ⟨_, rfl, o3.low z2, b2.trans (b3.mono z2)⟩
set_option maxRecDepth 100000 in
set_option maxHeartbeats 2000000 in
theorem consist20 (l : List En) (a : Option Addr) (n c : Nat) (p : Int) (w : World) (h : SlY yE w a n c l) (hn : n ≤ 4398046511104) (hv : ∀ x ∈ l, x.o.v.size ≤ 140737488350000) :
    Calls Try.prog 22 #[.slice a n c, .int .i64 p] w fun e w' => ∃ v, e = .returned (.tuple #[v, .int .i64 (csR (l.map lf) p).2]) ∧ OwnY yH w.heap.size w' v (csR (l.map lf) p).1 ∧ Below w.heap.size w w' := by
  go_enter Try.func22, Try.ntmps22
  go_upto_region 0 with fail
  refine wp_region_lit ?_
  refine vl_gen (fun T => Rp T 12 [(1, gw true (.int .i64 (p : Int))), (0, gw true (.slice a n c))]) (((Rp.nil rfl).cons rfl).cons rfl) (fun Z0 q0 => ?_)
  refine q0.t (.slice none 0 0) (ex_assign rfl rfl) fun _ q1 => ?_;clear q0
  refine q1.t (.int .i64 (0 : Int)) (ex_assign rfl rfl) fun _ q2 => ?_;clear q1
  refine wpList_nil ?_
  go_upto_region 1 with fail
  refine wp_region_lit ?_
  refine q2.t (.slice a n c) (ex_move rfl (q2.e (j := 0) rfl)) fun _ q3 => ?_;clear q2
  refine vcallP (want_none rfl) (ex_call rfl (by simp only [List.map_toArray, List.map_cons, List.map_nil, (q3.e (j := 6) rfl), evc] <;> rfl) rfl) (leaves20 l a n c w h hn hv) rfl q3.z (by decide) ?_
  rintro e w2 ⟨v2, rfl, o2, b2⟩
  refine ⟨_, rfl, q3.k fun _ q4 => ?_⟩;clear q3
  have z2 := b2.size
  obtain ⟨a2, c2, hv2, s2, _⟩ := o2.sl kH
  subst hv2
  have hll := h.len
  refine q4.t (.int .i64 (p : Int)) (ex_move rfl (q4.e (j := 1) rfl)) fun _ q5 => ?_;clear q4
  refine vcallP (want_none rfl) (ex_call rfl (by simp only [List.map_toArray, List.map_cons, List.map_nil, (q5.e (j := 7) rfl), (q5.e (j := 8) rfl), evc] <;> rfl) rfl) (consistency20 _ _ _ _ p w2 s2 (by rw [List.length_map]; omega)) rfl q5.z (by decide) ?_
  rintro e w3 ⟨v3, rfl, o3, b3⟩
  refine ⟨_, rfl, q5.k fun _ q6 => ?_⟩;clear q5
  refine q6.t (v3) (ex_ext18 rfl (q6.e (j := 9) rfl) (xt0 _ _ _)) fun _ q7 => ?_;clear q6
  refine q7.t (.int .i64 (csR (l.map lf) p).2) (ex_ext18 rfl (q7.e (j := 9) rfl) (xt1 _ _ _)) fun _ q8 => ?_;clear q7
  refine q8.t (v3) (ex_assign rfl (q8.e (j := 10) rfl)) fun _ q9 => ?_;clear q8
  refine q9.t (.int .i64 (csR (l.map lf) p).2) (ex_assign rfl (q9.e (j := 11) rfl)) fun _ q10 => ?_;clear q9
  refine wpList_nil ?_
  go_wp2
  exact bodyPost_ret (results2_18 rfl (q10.a 4 rfl) (q10.a 5 rfl)) rfl ⟨_, rfl, o3.low z2, b2.trans (b3.mono z2)⟩
set_option maxRecDepth 100000 in
set_option maxHeartbeats 2000000 in
theorem stepsUp_step (m : Nat) (ih : ∀ (p n : Nat) (w : World), n < m → n ≤ 9223372036854775807 → 1 ≤ p → p ≤ n → Calls Try.prog 56 #[.int .i64 (p : Int), .int .i64 (n : Int)] w fun e w' => e = .returned (.int .i64 ((su p n : Nat) : Int)) ∧ w' = w) (p n : Nat) (w : World) (hm : n ≤ m) (hn : n ≤ 9223372036854775807) (hp1 : 1 ≤ p) (hp2 : p ≤ n) :
    Calls Try.prog 56 #[.int .i64 (p : Int), .int .i64 (n : Int)] w fun e w' => e = .returned (.int .i64 ((su p n : Nat) : Int)) ∧ w' = w := by
  go_enter Try.func56, Try.ntmps56
  go_upto_region 0 with fail
  refine wp_region_lit ?_
  refine vl_gen (fun T => Rp T 25 [(1, gw true (.int .i64 ((n : Nat) : Int))), (0, gw true (.int .i64 ((p : Nat) : Int)))]) (((Rp.nil rfl).cons rfl).cons rfl) (fun Z0 q0 => ?_)
  refine q0.t (.int .i64 (0 : Int)) (ex_assign rfl rfl) fun _ q1 => ?_;clear q0
  refine wpList_nil ?_
  go_upto_region 1 with fail
  refine wp_region_lit ?_
  refine q1.t (.int .i64 ((n : Nat) : Int)) (ex_move rfl (q1.e (j := 1) rfl)) fun _ q2 => ?_;clear q1
  by_cases h1 : n = 1
  · refine q2.t (.bool true) (ex_bin (Y := .int .i64 (1 : Int)) rfl (q2.e (j := 6) rfl) rfl (eqT20 _ _ (by omega) _)) fun _ q3 => ?_;clear q2
    refine wpList_nil ?_
    go_upto_region 2 with fail
    refine wp_cond_true (q3.e (j := 7) rfl) ?_
    go_upto_region 2 with fail
    refine wp_region_lit ?_
    refine q3.t (.int .i64 ((0 : Nat) : Int)) (ex_assign rfl rfl) fun _ q4 => ?_;clear q3
    refine wpList_nil ?_
    go_wp2
    refine bodyPost_ret (results_tmp rfl _ _ _) rfl ?_
    rw [getD_of (q4.a 4 rfl)]
    exact ⟨by rw [h1, su_1]; rfl, rfl⟩
  · refine q2.t (.bool false) (ex_bin (Y := .int .i64 (1 : Int)) rfl (q2.e (j := 6) rfl) rfl (eqF20 _ _ (by omega) _)) fun _ q3 => ?_;clear q2
    refine wpList_nil ?_
    go_upto_region 3 with fail
    refine wp_cond_false (q3.e (j := 7) rfl) ?_
    go_upto_region 3 with fail
    refine wp_region_lit ?_
    refine q3.t (.int .i64 ((n : Nat) : Int)) (ex_move rfl (q3.e (j := 1) rfl)) fun _ q4 => ?_;clear q3
    refine vcallP (want_none rfl) (ex_call rfl (by simp only [List.map_toArray, List.map_cons, List.map_nil, (q4.e (j := 8) rfl), evc] <;> rfl) rfl) (left20 n w (by omega) hn) rfl q4.z (by decide) ?_
    rintro e w9 ⟨rfl, hw9⟩
    refine ⟨_, rfl, q4.k fun _ q5 => ?_⟩;clear q4
    have hw9 := hw9.symm
    subst hw9
    refine q5.t (.int .i64 ((lft n : Nat) : Int)) (ex_assign rfl (q5.e (j := 9) rfl)) fun _ q6 => ?_;clear q5
    refine wpList_nil ?_
    go_upto_region 4 with fail
    refine wp_region_lit ?_
    have hb := lft_b (n := n) (by omega)
    refine q6.t (.int .i64 ((p : Nat) : Int)) (ex_move rfl (q6.e (j := 0) rfl)) fun _ q7 => ?_;clear q6
    refine q7.t (.int .i64 ((lft n : Nat) : Int)) (ex_move rfl (q7.e (j := 5) rfl)) fun _ q8 => ?_;clear q7
    by_cases hp : p ≤ lft n
    · refine q8.t (.bool true) (ex_bin rfl (q8.e (j := 10) rfl) (q8.e (j := 11) rfl) (leT20 _ _ (by omega) _)) fun _ q9 => ?_;clear q8
      refine wpList_nil ?_
      go_upto_region 5 with fail
      refine wp_cond_true (q9.e (j := 12) rfl) ?_
      go_upto_region 5 with fail
      refine wp_region_lit ?_
      refine q9.t (.int .i64 ((p : Nat) : Int)) (ex_move rfl (q9.e (j := 0) rfl)) fun _ q10 => ?_;clear q9
      refine q10.t (.int .i64 ((lft n : Nat) : Int)) (ex_move rfl (q10.e (j := 5) rfl)) fun _ q11 => ?_;clear q10
      refine vcallP (want_none rfl) (ex_call rfl (by simp only [List.map_toArray, List.map_cons, List.map_nil, (q11.e (j := 13) rfl), (q11.e (j := 14) rfl), evc] <;> rfl) rfl) (ih p (lft n) w (by omega) (by omega) hp1 hp) rfl q11.z (by decide) ?_
      rintro e w9 ⟨rfl, hw9⟩
      refine ⟨_, rfl, q11.k fun _ q12 => ?_⟩;clear q11
      have hw9 := hw9.symm
      subst hw9
      have hsl := su_le (lft n) p (by omega)
      refine q12.t (.int .i64 ((1 + su p (lft n) : Nat) : Int)) (ex_bin (X := .int .i64 ((1 : Nat) : Int)) rfl rfl (q12.e (j := 15) rfl) (addP _ _ 1 (su p (lft n)) (by omega) _)) fun _ q13 => ?_;clear q12
      refine q13.t (.int .i64 ((1 + su p (lft n) : Nat) : Int)) (ex_assign rfl (q13.e (j := 16) rfl)) fun _ q14 => ?_;clear q13
      refine wpList_nil ?_
      go_wp2
      refine bodyPost_ret (results_tmp rfl _ _ _) rfl ?_
      rw [getD_of (q14.a 4 rfl)]
      exact ⟨by rw [su_l p n (by omega) hp]; rfl, rfl⟩
    · refine q8.t (.bool false) (ex_bin rfl (q8.e (j := 10) rfl) (q8.e (j := 11) rfl) (leF20 _ _ (by omega) _)) fun _ q9 => ?_;clear q8
      refine wpList_nil ?_
      go_upto_region 6 with fail
      refine wp_cond_false (q9.e (j := 12) rfl) ?_
      go_upto_region 6 with fail
      refine wp_region_lit ?_
      refine q9.t (.int .i64 ((p : Nat) : Int)) (ex_move rfl (q9.e (j := 0) rfl)) fun _ q10 => ?_;clear q9
      refine q10.t (.int .i64 ((lft n : Nat) : Int)) (ex_move rfl (q10.e (j := 5) rfl)) fun _ q11 => ?_;clear q10
      refine q11.t (.int .i64 ((p - lft n : Nat) : Int)) (ex_bin rfl (q11.e (j := 17) rfl) (q11.e (j := 18) rfl) (subP _ _ p (lft n) (by omega) (by omega) _)) fun _ q12 => ?_;clear q11
      refine q12.t (.int .i64 ((n : Nat) : Int)) (ex_move rfl (q12.e (j := 1) rfl)) fun _ q13 => ?_;clear q12
      refine q13.t (.int .i64 ((lft n : Nat) : Int)) (ex_move rfl (q13.e (j := 5) rfl)) fun _ q14 => ?_;clear q13
      refine q14.t (.int .i64 ((n - lft n : Nat) : Int)) (ex_bin rfl (q14.e (j := 20) rfl) (q14.e (j := 21) rfl) (subP _ _ n (lft n) (by omega) (by omega) _)) fun _ q15 => ?_;clear q14
      refine vcallP (want_none rfl) (ex_call rfl (by simp only [List.map_toArray, List.map_cons, List.map_nil, (q15.e (j := 19) rfl), (q15.e (j := 22) rfl), evc] <;> rfl) rfl) (ih (p - lft n) (n - lft n) w (by omega) (by omega) (by omega) (by omega)) rfl q15.z (by decide) ?_
      rintro e w9 ⟨rfl, hw9⟩
      refine ⟨_, rfl, q15.k fun _ q16 => ?_⟩;clear q15
      have hw9 := hw9.symm
      subst hw9
      have hsl := su_le (n - lft n) (p - lft n) (by omega)
      refine q16.t (.int .i64 ((1 + su (p - lft n) (n - lft n) : Nat) : Int)) (ex_bin (X := .int .i64 ((1 : Nat) : Int)) rfl rfl (q16.e (j := 23) rfl) (addP _ _ 1 (su (p - lft n) (n - lft n)) (by omega) _)) fun _ q17 => ?_;clear q16
      refine q17.t (.int .i64 ((1 + su (p - lft n) (n - lft n) : Nat) : Int)) (ex_assign rfl (q17.e (j := 24) rfl)) fun _ q18 => ?_;clear q17
      refine wpList_nil ?_
      go_wp2
      refine bodyPost_ret (results_tmp rfl _ _ _) rfl ?_
      rw [getD_of (q18.a 4 rfl)]
      exact ⟨by rw [su_r p n (by omega) hp]; rfl, rfl⟩
theorem stepsUp20 (p n : Nat) (w : World) (hn : n ≤ 9223372036854775807) (hp1 : 1 ≤ p) (hp2 : p ≤ n) :
    Calls Try.prog 56 #[.int .i64 (p : Int), .int .i64 (n : Int)] w fun e w' => e = .returned (.int .i64 ((su p n : Nat) : Int)) ∧ w' = w := by
  have H : ∀ m, ∀ (p n : Nat) (w : World), n < m → n ≤ 9223372036854775807 → 1 ≤ p → p ≤ n → Calls Try.prog 56 #[.int .i64 (p : Int), .int .i64 (n : Int)] w fun e w' => e = .returned (.int .i64 ((su p n : Nat) : Int)) ∧ w' = w := by
    intro m
    induction m with
    | zero => intro p n w h; omega
    | succ m ih => exact fun p n w hm hn h1 h2 => stepsUp_step m ih p n w (by omega) hn h1 h2
  exact H (n + 1) p n w (by omega) hn hp1 hp2
set_option maxRecDepth 100000 in
set_option maxHeartbeats 2000000 in
theorem stepsAcross_step (m : Nat) (ih : ∀ (p n : Nat) (wh : Bool) (w : World), n < m → n ≤ 9223372036854775807 → 1 ≤ p → p ≤ n → Calls Try.prog 87 #[.int .i64 (p : Int), .int .i64 (n : Int), .bool wh] w fun e w' => e = .returned (.int .i64 ((sa p n wh : Nat) : Int)) ∧ w' = w) (p n : Nat) (wh : Bool) (w : World) (hm : n ≤ m) (hn : n ≤ 9223372036854775807) (hp1 : 1 ≤ p) (hp2 : p ≤ n) :
    Calls Try.prog 87 #[.int .i64 (p : Int), .int .i64 (n : Int), .bool wh] w fun e w' => e = .returned (.int .i64 ((sa p n wh : Nat) : Int)) ∧ w' = w := by
  go_enter Try.func87, Try.ntmps87
  go_upto_region 0 with fail
  refine wp_region_lit ?_
  refine vl_gen (fun T => Rp T 30 [(2, gw true (.bool wh)), (1, gw true (.int .i64 ((n : Nat) : Int))), (0, gw true (.int .i64 ((p : Nat) : Int)))]) ((((Rp.nil rfl).cons rfl).cons rfl).cons rfl) (fun Z0 q0 => ?_)
  refine q0.t (.int .i64 (0 : Int)) (ex_assign rfl rfl) fun _ q1 => ?_;clear q0
  refine wpList_nil ?_
  go_upto_region 1 with fail
  refine wp_region_lit ?_
  refine q1.t (.int .i64 ((p : Nat) : Int)) (ex_move rfl (q1.e (j := 0) rfl)) fun _ q2 => ?_;clear q1
  refine q2.t (.int .i64 ((n : Nat) : Int)) (ex_move rfl (q2.e (j := 1) rfl)) fun _ q3 => ?_;clear q2
  by_cases h1 : p = n
  · refine q3.t (.bool true) (ex_bin rfl (q3.e (j := 8) rfl) (q3.e (j := 9) rfl) (eqT20 _ _ (by omega) _)) fun _ q4 => ?_;clear q3
    refine wpList_nil ?_
    go_upto_region 2 with fail
    refine wp_cond_true (q4.e (j := 10) rfl) ?_
    go_upto_region 2 with fail
    refine wp_region_lit ?_
    refine q4.t (.bool wh) (ex_move rfl (q4.e (j := 2) rfl)) fun _ q5 => ?_;clear q4
    refine wpList_nil ?_
    have HE := hide h1
    clear h1
    cases wh
    · go_upto_region 4 with fail
      refine wp_cond_false (q5.e (j := 11) rfl) ?_
      go_upto_region 4 with fail
      refine wp_region_lit ?_
      refine q5.t (.int .i64 ((1 : Nat) : Int)) (ex_assign rfl rfl) fun _ q6 => ?_;clear q5
      refine wpList_nil ?_
      go_wp2
      refine bodyPost_ret (results_tmp rfl _ _ _) rfl ?_
      rw [getD_of (q6.a 6 rfl)]
      exact ⟨by rw [HE.out, sa_e]; rfl, rfl⟩
    · go_upto_region 3 with fail
      refine wp_cond_true (q5.e (j := 11) rfl) ?_
      go_upto_region 3 with fail
      refine wp_region_lit ?_
      refine q5.t (.int .i64 ((0 : Nat) : Int)) (ex_assign rfl rfl) fun _ q6 => ?_;clear q5
      refine wpList_nil ?_
      go_wp2
      refine bodyPost_ret (results_tmp rfl _ _ _) rfl ?_
      rw [getD_of (q6.a 6 rfl)]
      exact ⟨by rw [HE.out, sa_e]; rfl, rfl⟩
  · refine q3.t (.bool false) (ex_bin rfl (q3.e (j := 8) rfl) (q3.e (j := 9) rfl) (eqF20 _ _ (by omega) _)) fun _ q4 => ?_;clear q3
    refine wpList_nil ?_
    go_upto_region 5 with fail
    refine wp_cond_false (q4.e (j := 10) rfl) ?_
    go_upto_region 5 with fail
    refine wp_region_lit ?_
    refine q4.t (.int .i64 ((n : Nat) : Int)) (ex_move rfl (q4.e (j := 1) rfl)) fun _ q5 => ?_;clear q4
    refine vcallP (want_none rfl) (ex_call rfl (by simp only [List.map_toArray, List.map_cons, List.map_nil, (q5.e (j := 12) rfl), evc] <;> rfl) rfl) (left20 n w (by omega) hn) rfl q5.z (by decide) ?_
    rintro e w9 ⟨rfl, hw9⟩
    refine ⟨_, rfl, q5.k fun _ q6 => ?_⟩;clear q5
    have hw9 := hw9.symm
    subst hw9
    refine q6.t (.int .i64 ((lft n : Nat) : Int)) (ex_assign rfl (q6.e (j := 13) rfl)) fun _ q7 => ?_;clear q6
    refine wpList_nil ?_
    go_upto_region 6 with fail
    refine wp_region_lit ?_
    have hb := lft_b (n := n) (by omega)
    refine q7.t (.int .i64 ((p : Nat) : Int)) (ex_move rfl (q7.e (j := 0) rfl)) fun _ q8 => ?_;clear q7
    refine q8.t (.int .i64 ((lft n : Nat) : Int)) (ex_move rfl (q8.e (j := 7) rfl)) fun _ q9 => ?_;clear q8
    by_cases hp : p ≤ lft n
    · refine q9.t (.bool true) (ex_bin rfl (q9.e (j := 14) rfl) (q9.e (j := 15) rfl) (leT20 _ _ (by omega) _)) fun _ q10 => ?_;clear q9
      refine wpList_nil ?_
      go_upto_region 7 with fail
      refine wp_cond_true (q10.e (j := 16) rfl) ?_
      go_upto_region 7 with fail
      refine wp_region_lit ?_
      refine q10.t (.int .i64 ((p : Nat) : Int)) (ex_move rfl (q10.e (j := 0) rfl)) fun _ q11 => ?_;clear q10
      refine q11.t (.int .i64 ((lft n : Nat) : Int)) (ex_move rfl (q11.e (j := 7) rfl)) fun _ q12 => ?_;clear q11
      refine q12.t (.bool wh) (ex_move rfl (q12.e (j := 2) rfl)) fun _ q13 => ?_;clear q12
      refine vcallP (want_none rfl) (ex_call rfl (by simp only [List.map_toArray, List.map_cons, List.map_nil, (q13.e (j := 17) rfl), (q13.e (j := 18) rfl), (q13.e (j := 19) rfl), evc] <;> rfl) rfl) (ih p (lft n) wh w (by omega) (by omega) hp1 hp) rfl q13.z (by decide) ?_
      rintro e w9 ⟨rfl, hw9⟩
      refine ⟨_, rfl, q13.k fun _ q14 => ?_⟩;clear q13
      have hw9 := hw9.symm
      subst hw9
      have hsl := sa_le (lft n) p wh hp1 hp
      refine q14.t (.int .i64 ((1 + sa p (lft n) wh : Nat) : Int)) (ex_bin (X := .int .i64 ((1 : Nat) : Int)) rfl rfl (q14.e (j := 20) rfl) (addP _ _ 1 (sa p (lft n) wh) (by omega) _)) fun _ q15 => ?_;clear q14
      refine q15.t (.int .i64 ((1 + sa p (lft n) wh : Nat) : Int)) (ex_assign rfl (q15.e (j := 21) rfl)) fun _ q16 => ?_;clear q15
      refine wpList_nil ?_
      go_wp2
      refine bodyPost_ret (results_tmp rfl _ _ _) rfl ?_
      rw [getD_of (q16.a 6 rfl)]
      exact ⟨by rw [sa_l p n wh (by omega) hp]; rfl, rfl⟩
    · refine q9.t (.bool false) (ex_bin rfl (q9.e (j := 14) rfl) (q9.e (j := 15) rfl) (leF20 _ _ (by omega) _)) fun _ q10 => ?_;clear q9
      refine wpList_nil ?_
      go_upto_region 8 with fail
      refine wp_cond_false (q10.e (j := 16) rfl) ?_
      go_upto_region 8 with fail
      refine wp_region_lit ?_
      refine q10.t (.int .i64 ((p : Nat) : Int)) (ex_move rfl (q10.e (j := 0) rfl)) fun _ q11 => ?_;clear q10
      refine q11.t (.int .i64 ((lft n : Nat) : Int)) (ex_move rfl (q11.e (j := 7) rfl)) fun _ q12 => ?_;clear q11
      refine q12.t (.int .i64 ((p - lft n : Nat) : Int)) (ex_bin rfl (q12.e (j := 22) rfl) (q12.e (j := 23) rfl) (subP _ _ p (lft n) (by omega) (by omega) _)) fun _ q13 => ?_;clear q12
      refine q13.t (.int .i64 ((n : Nat) : Int)) (ex_move rfl (q13.e (j := 1) rfl)) fun _ q14 => ?_;clear q13
      refine q14.t (.int .i64 ((lft n : Nat) : Int)) (ex_move rfl (q14.e (j := 7) rfl)) fun _ q15 => ?_;clear q14
      refine q15.t (.int .i64 ((n - lft n : Nat) : Int)) (ex_bin rfl (q15.e (j := 25) rfl) (q15.e (j := 26) rfl) (subP _ _ n (lft n) (by omega) (by omega) _)) fun _ q16 => ?_;clear q15
      refine vcallP (want_none rfl) (ex_call rfl (by simp only [List.map_toArray, List.map_cons, List.map_nil, (q16.e (j := 24) rfl), (q16.e (j := 27) rfl), evc] <;> rfl) rfl) (ih (p - lft n) (n - lft n) false w (by omega) (by omega) (by omega) (by omega)) rfl q16.z (by decide) ?_
      rintro e w9 ⟨rfl, hw9⟩
      refine ⟨_, rfl, q16.k fun _ q17 => ?_⟩;clear q16
      have hw9 := hw9.symm
      subst hw9
      have hsl := sa_le (n - lft n) (p - lft n) false (by omega) (by omega)
      refine q17.t (.int .i64 ((1 + sa (p - lft n) (n - lft n) false : Nat) : Int)) (ex_bin (X := .int .i64 ((1 : Nat) : Int)) rfl rfl (q17.e (j := 28) rfl) (addP _ _ 1 (sa (p - lft n) (n - lft n) false) (by omega) _)) fun _ q18 => ?_;clear q17
      refine q18.t (.int .i64 ((1 + sa (p - lft n) (n - lft n) false : Nat) : Int)) (ex_assign rfl (q18.e (j := 29) rfl)) fun _ q19 => ?_;clear q18
      refine wpList_nil ?_
      go_wp2
      refine bodyPost_ret (results_tmp rfl _ _ _) rfl ?_
      rw [getD_of (q19.a 6 rfl)]
      exact ⟨by rw [sa_r p n wh (by omega) h1 hp]; rfl, rfl⟩
theorem stepsAcross20 (p n : Nat) (wh : Bool) (w : World) (hn : n ≤ 9223372036854775807) (hp1 : 1 ≤ p) (hp2 : p ≤ n) :
    Calls Try.prog 87 #[.int .i64 (p : Int), .int .i64 (n : Int), .bool wh] w fun e w' => e = .returned (.int .i64 ((sa p n wh : Nat) : Int)) ∧ w' = w := by
  have H : ∀ m, ∀ (p n : Nat) (wh : Bool) (w : World), n < m → n ≤ 9223372036854775807 → 1 ≤ p → p ≤ n → Calls Try.prog 87 #[.int .i64 (p : Int), .int .i64 (n : Int), .bool wh] w fun e w' => e = .returned (.int .i64 ((sa p n wh : Nat) : Int)) ∧ w' = w := by
    intro m
    induction m with
    | zero => intro p n wh w h; omega
    | succ m ih => exact fun p n wh w hm hn h1 h2 => stepsAcross_step m ih p n wh w (by omega) hn h1 h2
  exact H (n + 1) p n wh w (by omega) hn hp1 hp2
def sbN (m n : Nat) : Nat := if m = 0 then 0 else sa m n true
set_option maxRecDepth 100000 in
set_option maxHeartbeats 2000000 in
theorem stepsBetween20 (p n : Nat) (w : World) (hn : n ≤ 9223372036854775807) (hp2 : p ≤ n) :
    Calls Try.prog 60 #[.int .i64 (p : Int), .int .i64 (n : Int)] w fun e w' => e = .returned (.int .i64 ((sbN p n : Nat) : Int)) ∧ w' = w := by
  go_enter Try.func60, Try.ntmps60
  go_upto_region 0 with fail
  refine wp_region_lit ?_
  refine vl_gen (fun T => Rp T 10 [(1, gw true (.int .i64 ((n : Nat) : Int))), (0, gw true (.int .i64 ((p : Nat) : Int)))]) (((Rp.nil rfl).cons rfl).cons rfl) (fun Z0 q0 => ?_)
  refine q0.t (.int .i64 (0 : Int)) (ex_assign rfl rfl) fun _ q1 => ?_;clear q0
  refine wpList_nil ?_
  go_upto_region 1 with fail
  refine wp_region_lit ?_
  refine q1.t (.int .i64 ((p : Nat) : Int)) (ex_move rfl (q1.e (j := 0) rfl)) fun _ q2 => ?_;clear q1
  by_cases h1 : p = 0
  · refine q2.t (.bool true) (ex_bin (Y := .int .i64 (0 : Int)) rfl (q2.e (j := 5) rfl) rfl (eqT20 _ _ (by omega) _)) fun _ q3 => ?_;clear q2
    refine wpList_nil ?_
    go_upto_region 2 with fail
    refine wp_cond_true (q3.e (j := 6) rfl) ?_
    go_upto_region 2 with fail
    refine wp_region_lit ?_
    refine q3.t (.int .i64 ((0 : Nat) : Int)) (ex_assign rfl rfl) fun _ q4 => ?_;clear q3
    refine wpList_nil ?_
    go_wp2
    refine bodyPost_ret (results_tmp rfl _ _ _) rfl ?_
    rw [getD_of (q4.a 4 rfl)]
    exact ⟨by unfold sbN; rw [if_pos h1]; rfl, rfl⟩
  · refine q2.t (.bool false) (ex_bin (Y := .int .i64 (0 : Int)) rfl (q2.e (j := 5) rfl) rfl (eqF20 _ _ (by omega) _)) fun _ q3 => ?_;clear q2
    refine wpList_nil ?_
    go_upto_region 3 with fail
    refine wp_cond_false (q3.e (j := 6) rfl) ?_
    go_upto_region 3 with fail
    refine wp_region_lit ?_
    refine q3.t (.int .i64 ((p : Nat) : Int)) (ex_move rfl (q3.e (j := 0) rfl)) fun _ q4 => ?_;clear q3
    refine q4.t (.int .i64 ((n : Nat) : Int)) (ex_move rfl (q4.e (j := 1) rfl)) fun _ q5 => ?_;clear q4
    refine vcallP (want_none rfl) (ex_call rfl (by simp only [List.map_toArray, List.map_cons, List.map_nil, (q5.e (j := 7) rfl), (q5.e (j := 8) rfl), evc] <;> rfl) rfl) (stepsAcross20 p n true w hn (by omega) hp2) rfl q5.z (by decide) ?_
    rintro e w9 ⟨rfl, hw9⟩
    refine ⟨_, rfl, q5.k fun _ q6 => ?_⟩;clear q5
    have hw9 := hw9.symm
    subst hw9
    refine q6.t (.int .i64 ((sa p n true : Nat) : Int)) (ex_assign rfl (q6.e (j := 9) rfl)) fun _ q7 => ?_;clear q6
    refine wpList_nil ?_
    go_wp2
    refine bodyPost_ret (results_tmp rfl _ _ _) rfl ?_
    rw [getD_of (q7.a 4 rfl)]
    exact ⟨by unfold sbN; rw [if_neg h1]; rfl, rfl⟩

end Go.Proofs.Ytaagmdkhjmonnaa
