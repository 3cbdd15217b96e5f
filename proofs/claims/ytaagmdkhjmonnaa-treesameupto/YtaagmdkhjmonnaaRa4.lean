import Derived.Test.YtaagmdkhjmonnaaRa3
namespace Go.Proofs.Ytaagmdkhjmonnaa
open Go.RowKit Go.Maps
open Classical
set_option linter.unusedVariables false
set_option linter.unusedSimpArgs false

theorem slToE20 (q o n c k : Nat) (h1 : k ≤ n) (h2 : n ≤ c) (w : World) : (Instr.sliceAt 22 (.slice (some ⟨q, o, none⟩) n c) none (some (.int .i64 (k : Int))) none).run Try.prog w = .ok (.slice (some ⟨q, o, none⟩) k c) w := by
  have e1 : (0 : Int) ≤ (k : Int) := by omega
  have e2 : (k : Int) ≤ (c : Int) := by omega
  go_simp
theorem slToE0 (w : World) : (Instr.sliceAt 22 (.slice none 0 0) none (some (.int .i64 ((0 : Nat) : Int))) none).run Try.prog w = .ok (.slice none 0 0) w := by go_simp
theorem slToS20 {w0 : World} {a : Option Addr} {n c : Nat} {l : List En} (h : SlY yE w0 a n c l) (k : Nat) (hk : k ≤ n) (w : World) : (Instr.sliceAt 22 (.slice a n c) none (some (.int .i64 (k : Int))) none).run Try.prog w = .ok (.slice a k c) w := by
  cases a with
  | none =>
    obtain ⟨rfl, rfl⟩ := h.nil rfl
    obtain rfl : k = 0 := by omega
    exact slToE0 w
  | some z =>
    obtain ⟨q, o, s⟩ := z
    have h2 := h.cap
    have e1 : (0 : Int) ≤ (k : Int) := by omega
    have e2 : (k : Int) ≤ (c : Int) := by omega
    go_simp
theorem remZ20 (x y : Operand) (k b : Int) (h0 : 0 < b) (h1 : b ≤ 1000000) (w : World) : (do eqGuard .rem 3 x y (.int .i64 k) (.int .i64 b); binOp .rem 3 (.int .i64 k) (.int .i64 b) : Sem Value).run Try.prog w = .ok (.int .i64 (k.tmod b)) w := by
  have h2 := Int.tmod_lt_of_pos k h0
  have h3 := Int.lt_tmod_of_pos k h0
  have hw : IntKind.i64.wrap (k.tmod b) = k.tmod b := by rw [IntKind.wrap_i64]; omega
  have hz : ¬ b = 0 := by omega
  go_simp
theorem addZ20 (x y : Operand) (a b : Int) (h : -1000000000 ≤ a + b ∧ a + b ≤ 1000000000) (w : World) : (do eqGuard .add 3 x y (.int .i64 a) (.int .i64 b); binOp .add 3 (.int .i64 a) (.int .i64 b) : Sem Value).run Try.prog w = .ok (.int .i64 (a + b)) w := by
  have hw : IntKind.i64.wrap (a + b) = a + b := by rw [IntKind.wrap_i64]; omega
  go_simp
theorem quo2 (x y : Operand) (n : Nat) (h : n < 9000000000000000000) (w : World) : (do eqGuard .quo 3 x y (.int .i64 (n : Int)) (.int .i64 2); binOp .quo 3 (.int .i64 (n : Int)) (.int .i64 2) : Sem Value).run Try.prog w = .ok (.int .i64 ((n / 2 : Nat) : Int)) w := by
  have h1 : (n : Int).tdiv 2 = ((n / 2 : Nat) : Int) := by rw [Int.tdiv_eq_ediv_of_nonneg (by omega)]; omega
  have hw : IntKind.i64.wrap ((n : Int).tdiv 2) = ((n / 2 : Nat) : Int) := by rw [h1, IntKind.wrap_i64]; omega
  go_simp
  first | done | (rw [IntKind.wrap_i64]; omega)
theorem neEF (x y : Operand) (a : Int) (w : World) : (do eqGuard .neq 43 x y (.int .i64 a) (.int .i64 a); binOp .neq 43 (.int .i64 a) (.int .i64 a) : Sem Value).run Try.prog w = .ok (.bool false) w := by go_simp
set_option maxRecDepth 100000 in
set_option maxHeartbeats 2000000 in
theorem few20 (l : List En) (a : Option Addr) (n c : Nat) (w : World) (h : SlY yE w a n c l) :
    Calls Try.prog 31 #[.slice a n c] w fun e w' => e = .returned (.slice a (min n 200) c) ∧ w' = w := by
  go_enter Try.func31, Try.ntmps31
  go_upto_region 0 with fail
  refine wp_region_lit ?_
  refine vl_gen (fun T => Rp T 9 [(0, gw true (.slice a n c))]) ((Rp.nil rfl).cons rfl) (fun Z0 q0 => ?_)
  refine q0.t (.slice none 0 0) (ex_assign rfl rfl) fun _ q1 => ?_;clear q0
  refine wpList_nil ?_
  go_upto_region 1 with fail
  refine wp_region_lit ?_
  refine q1.t (.slice a n c) (ex_move rfl (q1.e (j := 0) rfl)) fun _ q2 => ?_;clear q1
  refine q2.t (.int .i64 ((n : Nat) : Int)) (ex_lenG rfl rfl Try.underlying22 (q2.e (j := 3) rfl)) fun _ q3 => ?_;clear q2
  by_cases h1 : 200 < n
  · refine q3.t (.bool true) (ex_bin (Y := .int .i64 (200 : Int)) rfl (q3.e (j := 4) rfl) rfl (gtT20 _ _ (by omega) _)) fun _ q4 => ?_;clear q3
    refine wpList_nil ?_
    go_upto_region 2 with fail
    refine wp_cond_true (q4.e (j := 5) rfl) ?_
    go_upto_region 2 with fail
    refine wp_region_lit ?_
    refine q4.t (.slice a n c) (ex_move rfl (q4.e (j := 0) rfl)) fun _ q5 => ?_;clear q4
    refine q5.t (.slice a 200 c) (ex_sl19 (h := some (.int .i64 ((200 : Nat) : Int))) rfl (q5.e (j := 6) rfl) rfl rfl rfl (slToS20 h 200 (by omega) _)) fun _ q6 => ?_;clear q5
    refine q6.t (.slice a 200 c) (ex_assign rfl (q6.e (j := 7) rfl)) fun _ q7 => ?_;clear q6
    refine wpList_nil ?_
    go_wp2
    refine bodyPost_ret (results_tmp rfl _ _ _) rfl ?_
    rw [getD_of (q7.a 2 rfl)]
    exact ⟨by rw [Nat.min_eq_right (by omega)]; rfl, rfl⟩
  · refine q3.t (.bool false) (ex_bin (Y := .int .i64 (200 : Int)) rfl (q3.e (j := 4) rfl) rfl (gtF20 _ _ (by omega) _)) fun _ q4 => ?_;clear q3
    refine wpList_nil ?_
    go_upto_region 3 with fail
    refine wp_cond_false (q4.e (j := 5) rfl) ?_
    go_upto_region 3 with fail
    refine wp_region_lit ?_
    refine q4.t (.slice a n c) (ex_move rfl (q4.e (j := 0) rfl)) fun _ q5 => ?_;clear q4
    refine q5.t (.slice a n c) (ex_assign rfl (q5.e (j := 8) rfl)) fun _ q6 => ?_;clear q5
    refine wpList_nil ?_
    go_wp2
    refine bodyPost_ret (results_tmp rfl _ _ _) rfl ?_
    rw [getD_of (q6.a 2 rfl)]
    exact ⟨by rw [Nat.min_eq_left (by omega)]; rfl, rfl⟩
set_option maxRecDepth 100000 in
set_option maxHeartbeats 2000000 in
theorem within20 (k : Int) (m : Nat) (hm : m ≤ 1000) (w : World) :
    Calls Try.prog 32 #[.int .i64 k, .int .i64 (m : Int)] w fun e w' => ∃ j : Nat, j ≤ m ∧ e = .returned (.int .i64 (j : Int)) ∧ w' = w := by
  go_enter Try.func32, Try.ntmps32
  go_upto_region 0 with fail
  refine wp_region_lit ?_
  refine vl_gen (fun T => Rp T 16 [(1, gw true (.int .i64 ((m : Nat) : Int))), (0, gw true (.int .i64 (k : Int)))]) (((Rp.nil rfl).cons rfl).cons rfl) (fun Z0 q0 => ?_)
  refine q0.t (.int .i64 (0 : Int)) (ex_assign rfl rfl) fun _ q1 => ?_;clear q0
  refine wpList_nil ?_
  go_upto_region 1 with fail
  refine wp_region_lit ?_
  refine q1.t (.int .i64 (k : Int)) (ex_move rfl (q1.e (j := 0) rfl)) fun _ q2 => ?_;clear q1
  refine q2.t (.int .i64 ((m : Nat) : Int)) (ex_move rfl (q2.e (j := 1) rfl)) fun _ q3 => ?_;clear q2
  refine q3.t (.int .i64 ((m + 1 : Nat) : Int)) (ex_bin rfl (q3.e (j := 6) rfl) rfl (add1C _ _ m (by omega) _)) fun _ q4 => ?_;clear q3
  have hr1 := Int.tmod_lt_of_pos k (b := ((m + 1 : Nat) : Int)) (by omega)
  have hr2 := Int.lt_tmod_of_pos k (b := ((m + 1 : Nat) : Int)) (by omega)
  refine q4.t (.int .i64 (k.tmod ((m + 1 : Nat) : Int) : Int)) (ex_bin rfl (q4.e (j := 5) rfl) (q4.e (j := 7) rfl) (remZ20 _ _ k _ (by omega) (by omega) _)) fun _ q5 => ?_;clear q4
  generalize k.tmod ((m + 1 : Nat) : Int) = r at *
  refine q5.t (.int .i64 (r : Int)) (ex_assign rfl (q5.e (j := 8) rfl)) fun _ q6 => ?_;clear q5
  refine wpList_nil ?_
  go_upto_region 2 with fail
  refine wp_region_lit ?_
  refine q6.t (.int .i64 (r : Int)) (ex_move rfl (q6.e (j := 0) rfl)) fun _ q7 => ?_;clear q6
  by_cases h1 : r < 0
  · refine q7.t (.bool true) (ex_bin (Y := .int .i64 (0 : Int)) rfl (q7.e (j := 9) rfl) rfl (ltT20 _ _ h1 _)) fun _ q8 => ?_;clear q7
    refine wpList_nil ?_
    go_upto_region 3 with fail
    refine wp_cond_true (q8.e (j := 10) rfl) ?_
    go_upto_region 3 with fail
    refine wp_region_lit ?_
    refine q8.t (.int .i64 (r : Int)) (ex_move rfl (q8.e (j := 0) rfl)) fun _ q9 => ?_;clear q8
    refine q9.t (.int .i64 ((m : Nat) : Int)) (ex_move rfl (q9.e (j := 1) rfl)) fun _ q10 => ?_;clear q9
    refine q10.t (.int .i64 (r + (m : Int) : Int)) (ex_bin rfl (q10.e (j := 11) rfl) (q10.e (j := 12) rfl) (addZ20 _ _ _ _ (by omega) _)) fun _ q11 => ?_;clear q10
    refine q11.t (.int .i64 (r + (m : Int) + 1 : Int)) (ex_bin (Y := .int .i64 (1 : Int)) rfl (q11.e (j := 13) rfl) rfl (addZ20 _ _ _ _ (by omega) _)) fun _ q12 => ?_;clear q11
    refine q12.t (.int .i64 (r + (m : Int) + 1 : Int)) (ex_assign rfl (q12.e (j := 14) rfl)) fun _ q13 => ?_;clear q12
    obtain ⟨j, hj⟩ : ∃ j : Nat, r + (m : Int) + 1 = (j : Int) := ⟨(r + (m : Int) + 1).toNat, by omega⟩
    rw [hj] at q13
    have hjm : j ≤ m := by omega
    clear hj
    refine wpList_nil ?_
    go_upto_region 4 with fail
    refine wp_region_lit ?_
    refine q13.t (.int .i64 ((j : Nat) : Int)) (ex_move rfl (q13.e (j := 0) rfl)) fun _ q14 => ?_;clear q13
    refine q14.t (.int .i64 ((j : Nat) : Int)) (ex_assign rfl (q14.e (j := 15) rfl)) fun _ q15 => ?_;clear q14
    refine wpList_nil ?_
    go_wp2
    refine bodyPost_ret (results_tmp rfl _ _ _) rfl ?_
    rw [getD_of (q15.a 4 rfl)]
    exact ⟨j, hjm, rfl, rfl⟩
  · refine q7.t (.bool false) (ex_bin (Y := .int .i64 (0 : Int)) rfl (q7.e (j := 9) rfl) rfl (ltF20 _ _ h1 _)) fun _ q8 => ?_;clear q7
    refine wpList_nil ?_
    obtain ⟨j, rfl⟩ : ∃ j : Nat, r = (j : Int) := ⟨r.toNat, by omega⟩
    have hjm : j ≤ m := by omega
    go_upto_region 4 with fail
    refine wp_cond_false (q8.e (j := 10) rfl) ?_
    go_upto_region 4 with fail
    refine wp_region_lit ?_
    refine q8.t (.int .i64 ((j : Nat) : Int)) (ex_move rfl (q8.e (j := 0) rfl)) fun _ q9 => ?_;clear q8
    refine q9.t (.int .i64 ((j : Nat) : Int)) (ex_assign rfl (q9.e (j := 15) rfl)) fun _ q10 => ?_;clear q9
    refine wpList_nil ?_
    go_wp2
    refine bodyPost_ret (results_tmp rfl _ _ _) rfl ?_
    rw [getD_of (q10.a 4 rfl)]
    exact ⟨j, hjm, rfl, rfl⟩
set_option maxRecDepth 100000 in
set_option maxHeartbeats 2000000 in
theorem binary20 (n : Nat) (hn : n ≤ 1000000) (w : World) :
    Calls Try.prog 33 #[.int .i64 (n : Int)] w fun e w' => e = .returned (.int .i64 ((M.bl n : Nat) : Int)) ∧ w' = w := by
  go_enter Try.func33, Try.ntmps33
  go_upto_region 0 with fail
  refine wp_region_lit ?_
  refine vl_gen (fun T => Rp T 11 [(0, gw true (.int .i64 ((n : Nat) : Int)))]) ((Rp.nil rfl).cons rfl) (fun Z0 q0 => ?_)
  refine q0.t (.int .i64 (0 : Int)) (ex_assign rfl rfl) fun _ q1 => ?_;clear q0
  refine wpList_nil ?_
  go_upto_region 1 with fail
  refine wp_region_lit ?_
  refine q1.t (.int .i64 ((0 : Nat) : Int)) (ex_assign rfl rfl) fun _ q2 => ?_;clear q1
  have q3 := (((Rp.nil q2.z).cons (q2.a 0 rfl)).cons (q2.a 3 rfl))
  clear q2
  refine wpList_nil ?_
  go_upto_region 2 with fail
  refine v_loop 3 n (fun j T wr => ∃ m : Nat, Rp T 11 [(3, gw true (.int .i64 ((j : Nat) : Int))), (0, gw true (.int .i64 ((m : Nat) : Int)))] ∧ Hid (M.bl n = j + M.bl m ∧ j + m ≤ n ∧ wr = w)) (fun j T w h => by obtain ⟨m, h, _⟩ := h; exact h.a 3 rfl) ⟨n, q3, by omega, by omega, rfl⟩ ?_
  clear q3
  intro j T wr hj hh
  obtain ⟨m, q100, HJ⟩ := hh
  obtain ⟨h1, h2, rfl⟩ := HJ.out
  clear HJ
  by_cases hit : 0 < m
  · go_upto_region 2 with fail
    refine wp_region_lit ?_
    refine q100.t (.int .i64 ((m : Nat) : Int)) (ex_move rfl (q100.e (j := 0) rfl)) fun _ q101 => ?_;clear q100
    refine q101.t (.bool true) (ex_bin (Y := .int .i64 (0 : Int)) rfl (q101.e (j := 4) rfl) rfl (gtT20 _ _ (by omega) _)) fun _ q102 => ?_;clear q101
    refine wpList_nil ?_
    go_upto_region 3 with fail
    refine wp_cond_true (q102.e (j := 5) rfl) ?_
    go_upto_region 3 with fail
    refine wp_region_lit ?_
    refine q102.t (.int .i64 ((m : Nat) : Int)) (ex_move rfl (q102.e (j := 0) rfl)) fun _ q103 => ?_;clear q102
    refine q103.t (.int .i64 ((m / 2 : Nat) : Int)) (ex_bin (Y := .int .i64 (2 : Int)) rfl (q103.e (j := 6) rfl) rfl (quo2 _ _ m (by omega) _)) fun _ q104 => ?_;clear q103
    refine q104.t (.int .i64 ((m / 2 : Nat) : Int)) (ex_assign rfl (q104.e (j := 7) rfl)) fun _ q105 => ?_;clear q104
    refine wpList_nil ?_
    go_upto_region 4 with fail
    refine wp_region_lit ?_
    refine q105.t (.int .i64 ((j : Nat) : Int)) (ex_move rfl (q105.e (j := 3) rfl)) fun _ q106 => ?_;clear q105
    refine q106.t (.int .i64 ((j + 1 : Nat) : Int)) (ex_bin rfl (q106.e (j := 8) rfl) rfl (add1C _ _ j (by omega) _)) fun _ q107 => ?_;clear q106
    refine q107.t (.int .i64 ((j + 1 : Nat) : Int)) (ex_assign rfl (q107.e (j := 9) rfl)) fun _ q108 => ?_;clear q107
    have q109 := (((Rp.nil q108.z).cons (q108.a 0 rfl)).cons (q108.a 3 rfl))
    clear q108
    refine wpList_nil ?_
    have hbl := M.bl_half m (by omega)
    exact ⟨_, rfl, by omega, m / 2, q109, by omega, by omega, rfl⟩
  · obtain rfl : m = 0 := by omega
    have h3 : M.bl n = j := by rw [h1]; rfl
    have H3 := hide h3
    clear h3 h1
    go_upto_region 2 with fail
    refine wp_region_lit ?_
    refine q100.t (.int .i64 ((0 : Nat) : Int)) (ex_move rfl (q100.e (j := 0) rfl)) fun _ q101 => ?_;clear q100
    refine q101.t (.bool false) (ex_bin (Y := .int .i64 (0 : Int)) rfl (q101.e (j := 4) rfl) rfl (gtF20 _ _ (by decide) _)) fun _ q102 => ?_;clear q101
    refine wpList_nil ?_
    go_upto_region 5 with fail
    refine wp_cond_false (q102.e (j := 5) rfl) ?_
    go_upto_region 5 with fail
    refine wp_region_lit ?_
    refine q102.t (.int .i64 ((j : Nat) : Int)) (ex_move rfl (q102.e (j := 3) rfl)) fun _ q103 => ?_;clear q102
    refine q103.t (.int .i64 ((j : Nat) : Int)) (ex_assign rfl (q103.e (j := 10) rfl)) fun _ q104 => ?_;clear q103
    refine wpList_nil ?_
    go_wp2
    refine bodyPost_ret (results_tmp rfl _ _ _) rfl ?_
    rw [getD_of (q104.a 2 rfl)]
    exact ⟨by rw [H3.out]; rfl, rfl⟩
set_option maxRecDepth 100000 in
set_option maxHeartbeats 2000000 in
theorem takes20 (l0 : List En) (a : Option Addr) (n c : Nat) (place size : Int) (w : World) (h0 : SlY yE w a n c l0) (hv0 : ∀ x ∈ l0, x.o.v.size ≤ 140737488350000) :
    Calls Try.prog 7 #[.slice a n c, .int .i64 place, .int .i64 size] w fun e w' => e = .returned (.bool true) ∧ Below w.heap.size w w' := by
  go_enter Try.func7, Try.ntmps7
  go_upto_region 0 with fail
  refine wp_region_lit ?_
  refine vl_gen (fun T => Rp T 94 [(2, gw true (.int .i64 (size : Int))), (1, gw true (.int .i64 (place : Int))), (0, gw true (.slice a n c))]) ((((Rp.nil rfl).cons rfl).cons rfl).cons rfl) (fun Z0 q0 => ?_)
  refine q0.t (.bool false) (ex_assign rfl rfl) fun _ q1 => ?_;clear q0
  refine wpList_nil ?_
  go_upto_region 1 with fail
  refine wp_region_lit ?_
  refine q1.t (.slice a n c) (ex_move rfl (q1.e (j := 0) rfl)) fun _ q2 => ?_;clear q1
  refine vcallP (want_none rfl) (ex_call rfl (by simp only [List.map_toArray, List.map_cons, List.map_nil, (q2.e (j := 13) rfl), evc] <;> rfl) rfl) (few20 l0 a n c w h0) rfl q2.z (by decide) ?_
  rintro e w9 ⟨rfl, hw9⟩
  refine ⟨_, rfl, q2.k fun _ q3 => ?_⟩;clear q2
  have hw9 := hw9.symm
  subst hw9
  refine q3.t (.slice a (min n 200) c) (ex_assign rfl (q3.e (j := 14) rfl)) fun _ q4 => ?_;clear q3
  obtain ⟨k, hk⟩ : ∃ k, k = min n 200 := ⟨_, rfl⟩
  rw [← hk] at q4
  have h : SlY yE w a k c (l0.take k) := h0.take k (by omega)
  have hk200 : k ≤ 200 := by omega
  have hv : ∀ x ∈ l0.take k, x.o.v.size ≤ 140737488350000 := fun x hx => hv0 x (List.mem_of_mem_take hx)
  generalize l0.take k = l at *
  clear hk hv0 h0
  have hll := h.len
  subst hll
  refine wpList_nil ?_
  go_upto_region 2 with fail
  refine wp_region_lit ?_
  refine vcallP (want_none rfl) (ex_call (args := #[]) rfl (by simp) rfl) (works20 w) rfl q4.z (by decide) ?_
  rintro e w1 ⟨rfl, b1⟩
  refine ⟨_, rfl, q4.k fun _ q5 => ?_⟩;clear q4
  have h1 := h.later b1
  have z1 := b1.size
  refine q5.t (.bool false) (ex_not (b := true) rfl (q5.e (j := 15) rfl)) fun _ q6 => ?_;clear q5
  refine wpList_nil ?_
  go_upto_region 4 with fail
  refine wp_cond_false (q6.e (j := 16) rfl) ?_
  go_upto_region 4 with fail
  refine wp_region_lit ?_
  refine q6.t (.slice a l.length c) (ex_move rfl (q6.e (j := 0) rfl)) fun _ q7 => ?_;clear q6
  refine q7.t (.int .i64 ((l.length : Nat) : Int)) (ex_lenG rfl rfl Try.underlying22 (q7.e (j := 17) rfl)) fun _ q8 => ?_;clear q7
  refine q8.t (.int .i64 ((l.length : Nat) : Int)) (ex_assign rfl (q8.e (j := 18) rfl)) fun _ q9 => ?_;clear q8
  refine wpList_nil ?_
  go_upto_region 5 with fail
  refine wp_region_lit ?_
  refine q9.t (.int .i64 (size : Int)) (ex_move rfl (q9.e (j := 2) rfl)) fun _ q10 => ?_;clear q9
  refine q10.t (.int .i64 ((l.length : Nat) : Int)) (ex_move rfl (q10.e (j := 7) rfl)) fun _ q11 => ?_;clear q10
  refine vcallP (want_none rfl) (ex_call rfl (by simp only [List.map_toArray, List.map_cons, List.map_nil, (q11.e (j := 19) rfl), (q11.e (j := 20) rfl), evc] <;> rfl) rfl) (within20 size l.length (by omega) w1) rfl q11.z (by decide) ?_
  rintro e w9 ⟨m, hm, rfl, hw9⟩
  refine ⟨_, rfl, q11.k fun _ q12 => ?_⟩;clear q11
  have hw9 := hw9.symm
  subst hw9
  refine q12.t (.int .i64 ((m : Nat) : Int)) (ex_assign rfl (q12.e (j := 21) rfl)) fun _ q13 => ?_;clear q12
  refine wpList_nil ?_
  go_upto_region 6 with fail
  refine wp_region_lit ?_
  refine q13.t (.slice a l.length c) (ex_move rfl (q13.e (j := 0) rfl)) fun _ q14 => ?_;clear q13
  refine q14.t (.int .i64 ((m : Nat) : Int)) (ex_move rfl (q14.e (j := 8) rfl)) fun _ q15 => ?_;clear q14
  have hLl : (l.map lf).length = l.length := List.length_map _
  have HL := hide hLl
  clear hLl
  have hcs : csR (l.map lf) (m : Int) = (csP (l.map lf) m, 0) := csR_ok (by rw [HL.out]; exact hm)
  have HC := hide hcs
  clear hcs
  refine vcallP (want_none rfl) (ex_call rfl (by simp only [List.map_toArray, List.map_cons, List.map_nil, (q15.e (j := 23) rfl), (q15.e (j := 24) rfl), evc] <;> rfl) rfl) (consist20 l a l.length c (m : Int) w1 h1 (by omega) hv) rfl q15.z (by decide) ?_
  rintro e w2 ⟨v2, rfl, o2, b2⟩
  refine ⟨_, rfl, q15.k fun _ q16 => ?_⟩;clear q15
  rw [HC.out] at o2
  have z2 := b2.size
  have h2 := h1.later b2
  have d2 : Below w.heap.size w w2 := b1.trans (b2.mono (by omega))
  rw [HC.out] at q16
  obtain ⟨a2, c2, hv2, s2, _⟩ := o2.sl kH
  subst hv2
  refine q16.t (.tuple #[.slice a2 (csP (l.map lf) m).length c2, .int .i64 0]) (ex_move rfl (q16.e (j := 25) rfl)) fun _ q17 => ?_;clear q16
  refine q17.t (.slice a2 (csP (l.map lf) m).length c2) (ex_ext18 rfl (q17.e (j := 22) rfl) (xt0 _ _ _)) fun _ q18 => ?_;clear q17
  refine q18.t (.int .i64 0) (ex_ext18 rfl (q18.e (j := 22) rfl) (xt1 _ _ _)) fun _ q19 => ?_;clear q18
  refine q19.t (.slice a2 (csP (l.map lf) m).length c2) (ex_assign rfl (q19.e (j := 26) rfl)) fun _ q20 => ?_;clear q19
  refine q20.t (.int .i64 0) (ex_assign rfl (q20.e (j := 27) rfl)) fun _ q21 => ?_;clear q20
  refine wpList_nil ?_
  go_upto_region 7 with fail
  refine wp_region_lit ?_
  have hcb : (csP (l.map lf) m).length ≤ M.bl l.length + 1 := by have := csP_bits (L := l.map lf) (m := m) (by rw [HL.out]; exact hm); rw [HL.out] at this; exact this
  have hbl : M.bl l.length ≤ 10 := (M.bl_le _ _).2 (by omega)
  refine q21.t (.int .i64 0) (ex_move rfl (q21.e (j := 10) rfl)) fun _ q22 => ?_;clear q21
  refine q22.t (.bool false) (ex_bin (Y := .int .i64 (0 : Int)) rfl (q22.e (j := 28) rfl) rfl (neEF _ _ 0 _)) fun _ q23 => ?_;clear q22
  refine q23.t (.bool false) (ex_move rfl (q23.e (j := 29) rfl)) fun _ q24 => ?_;clear q23
  refine vl ((true && (false == false))) (.slice a2 (csP (l.map lf) m).length c2) (want_g rfl rfl (q24.a 30 rfl)) (fun hc => ex_move rfl (q24.e (j := 9) rfl)) rfl q24.z (by decide) (q24.k fun _ q25 => ?_);clear q24
  refine vl ((true && (false == false))) (.int .i64 (((csP (l.map lf) m).length : Nat) : Int)) (want_g rfl rfl (q25.a 30 rfl)) (fun hc => ex_lenG rfl rfl Try.underlying42 (q25.e (j := 31) rfl)) rfl q25.z (by decide) (q25.k fun _ q26 => ?_);clear q25
  refine vl ((true && (false == false))) (.int .i64 ((l.length : Nat) : Int)) (want_g rfl rfl (q26.a 30 rfl)) (fun hc => ex_move rfl (q26.e (j := 7) rfl)) rfl q26.z (by decide) (q26.k fun _ q27 => ?_);clear q26
  refine vcallP (show Region.wanted _ _ = ((true && (false == false))) from want_g rfl rfl (q27.a 30 rfl)) (ex_call rfl (by simp only [List.map_toArray, List.map_cons, List.map_nil, (q27.e (j := 33) rfl), evc] <;> rfl) rfl) (binary20 l.length (by omega) w2) rfl q27.z (by decide) ?_
  rintro e w9 ⟨rfl, hw9⟩
  refine ⟨_, rfl, q27.k fun _ q28 => ?_⟩;clear q27
  have hw9 := hw9.symm
  subst hw9
  refine vl ((true && (false == false))) (.int .i64 ((M.bl l.length + 1 : Nat) : Int)) (want_g rfl rfl (q28.a 30 rfl)) (fun hc => ex_bin rfl (q28.e (j := 34) rfl) rfl (add1C _ _ (M.bl l.length) (by omega) _)) rfl q28.z (by decide) (q28.k fun _ q29 => ?_);clear q28
  refine vl ((true && (false == false))) (.bool false) (want_g rfl rfl (q29.a 30 rfl)) (fun hc => ex_bin rfl (q29.e (j := 32) rfl) (q29.e (j := 35) rfl) (gtF20 _ _ (by omega) _)) rfl q29.z (by decide) (q29.k fun _ q30 => ?_);clear q29
  refine q30.t (.bool false) (ex_or (c := true) (b := false) (z := false) rfl (q30.a 30 rfl) (q30.a 36 rfl) rfl) fun _ q31 => ?_;clear q30
  refine q31.t (.bool false) (ex_move rfl (q31.e (j := 37) rfl)) fun _ q32 => ?_;clear q31
  refine vl ((true && (false == false))) (.slice a l.length c) (want_g rfl rfl (q32.a 38 rfl)) (fun hc => ex_move rfl (q32.e (j := 0) rfl)) rfl q32.z (by decide) (q32.k fun _ q33 => ?_);clear q32
  refine vl ((true && (false == false))) (.int .i64 ((m : Nat) : Int)) (want_g rfl rfl (q33.a 38 rfl)) (fun hc => ex_move rfl (q33.e (j := 8) rfl)) rfl q33.z (by decide) (q33.k fun _ q34 => ?_);clear q33
  refine vl ((true && (false == false))) (.slice a m c) (want_g rfl rfl (q34.a 38 rfl)) (fun hc => ex_sl19 rfl (q34.e (j := 39) rfl) rfl (congrArg some (q34.e (j := 40) rfl)) rfl (slToS20 h2 m hm _)) rfl q34.z (by decide) (q34.k fun _ q35 => ?_);clear q34
  refine vcallP (show Region.wanted _ _ = ((true && (false == false))) from want_g rfl rfl (q35.a 38 rfl)) (ex_call rfl (by simp only [List.map_toArray, List.map_cons, List.map_nil, (q35.e (j := 41) rfl), evc] <;> rfl) rfl) (head20 (l.take m) a m c w2 (h2.take m hm) (by omega) (fun x hx => hv x (List.mem_of_mem_take hx))) rfl q35.z (by decide) ?_
  rintro e w3 ⟨rfl, b3⟩
  refine ⟨_, rfl, q35.k fun _ q36 => ?_⟩;clear q35
  have z3 := b3.size
  have h3 := h2.later b3
  have s3 := s2.later b3
  refine vl ((true && (false == false))) (.int .i64 ((m : Nat) : Int)) (want_g rfl rfl (q36.a 38 rfl)) (fun hc => ex_move rfl (q36.e (j := 8) rfl)) rfl q36.z (by decide) (q36.k fun _ q37 => ?_);clear q36
  refine vl ((true && (false == false))) (.slice a l.length c) (want_g rfl rfl (q37.a 38 rfl)) (fun hc => ex_move rfl (q37.e (j := 0) rfl)) rfl q37.z (by decide) (q37.k fun _ q38 => ?_);clear q37
  refine vcallP (show Region.wanted _ _ = ((true && (false == false))) from want_g rfl rfl (q38.a 38 rfl)) (ex_call rfl (by simp only [List.map_toArray, List.map_cons, List.map_nil, (q38.e (j := 44) rfl), evc] <;> rfl) rfl) (head20 l a l.length c w3 h3 (by omega) hv) rfl q38.z (by decide) ?_
  rintro e w4 ⟨rfl, b4⟩
  refine ⟨_, rfl, q38.k fun _ q39 => ?_⟩;clear q38
  have z4 := b4.size
  have h4 := h3.later b4
  have s4 := s3.later b4
  refine vl ((true && (false == false))) (.int .i64 ((l.length : Nat) : Int)) (want_g rfl rfl (q39.a 38 rfl)) (fun hc => ex_move rfl (q39.e (j := 7) rfl)) rfl q39.z (by decide) (q39.k fun _ q40 => ?_);clear q39
  refine vl ((true && (false == false))) (.slice a2 (csP (l.map lf) m).length c2) (want_g rfl rfl (q40.a 38 rfl)) (fun hc => ex_move rfl (q40.e (j := 9) rfl)) rfl q40.z (by decide) (q40.k fun _ q41 => ?_);clear q40
  have hex : exR (hd ((l.take m).map lf)) (m : Int) (hd (l.map lf)) (l.length : Int) (csP (l.map lf) m) = 0 := by have := ex_ok (L := l.map lf) (m := m) (by rw [HL.out]; exact hm); rw [HL.out, ← List.map_take] at this; exact this
  have HX := hide hex
  clear hex
  refine vcallP (show Region.wanted _ _ = ((true && (false == false))) from want_g rfl rfl (q41.a 38 rfl)) (ex_call rfl (by simp only [List.map_toArray, List.map_cons, List.map_nil, (q41.e (j := 42) rfl), (q41.e (j := 43) rfl), (q41.e (j := 45) rfl), (q41.e (j := 46) rfl), (q41.e (j := 47) rfl), evc] <;> rfl) rfl) (extends20 _ (m : Int) _ (l.length : Int) (csP (l.map lf) m) a2 _ c2 w4 s4 (by omega)) rfl q41.z (by decide) ?_
  rintro e w5 ⟨rfl, b5⟩
  refine ⟨_, rfl, q41.k fun _ q42 => ?_⟩;clear q41
  have z5 := b5.size
  have h5 := h4.later b5
  have d5 : Below w.heap.size w w5 := ((d2.trans (b3.mono (by omega))).trans (b4.mono (by omega))).trans (b5.mono (by omega))
  rw [HX.out] at q42
  refine vl ((true && (false == false))) (.bool false) (want_g rfl rfl (q42.a 38 rfl)) (fun hc => ex_bin (Y := .int .i64 (0 : Int)) rfl (q42.e (j := 48) rfl) rfl (neEF _ _ 0 _)) rfl q42.z (by decide) (q42.k fun _ q43 => ?_);clear q42
  refine q43.t (.bool false) (ex_or (c := true) (b := false) (z := false) rfl (q43.a 38 rfl) (q43.a 49 rfl) rfl) fun _ q44 => ?_;clear q43
  have q45 := (((((Rp.nil q44.z).cons (q44.a 0 rfl)).cons (q44.a 1 rfl)).cons (q44.a 7 rfl)).cons (q44.a 50 rfl))
  clear q44
  refine wpList_nil ?_
  go_upto_region 9 with fail
  refine wp_cond_false (q45.e (j := 50) rfl) ?_
  go_upto_region 9 with fail
  refine wp_region_lit ?_
  refine q45.t (.int .i64 ((l.length : Nat) : Int)) (ex_move rfl (q45.e (j := 7) rfl)) fun _ q46 => ?_;clear q45
  by_cases hn0 : l.length = 0
  · refine q46.t (.bool true) (ex_bin (Y := .int .i64 (0 : Int)) rfl (q46.e (j := 51) rfl) rfl (eqT20 _ _ (by omega) _)) fun _ q47 => ?_;clear q46
    refine wpList_nil ?_
    go_upto_region 10 with fail
    refine wp_cond_true (q47.e (j := 52) rfl) ?_
    go_upto_region 10 with fail
    refine wp_region_lit ?_
    refine q47.t (.slice a l.length c) (ex_move rfl (q47.e (j := 0) rfl)) fun _ q48 => ?_;clear q47
    refine vcallP (want_none rfl) (ex_call rfl (by simp only [List.map_toArray, List.map_cons, List.map_nil, (q48.e (j := 54) rfl), evc] <;> rfl) rfl) (incllude20 l a l.length c 1 w5 h5 (by omega) hv) rfl q48.z (by decide) ?_
    rintro e w6 ⟨v6, rfl, o6, b6⟩
    refine ⟨_, rfl, q48.k fun _ q49 => ?_⟩;clear q48
    have ei : inR (l.map lf) 1 = ([], 61) := by unfold inR; rw [HL.out, if_pos (by omega)]
    have HI := hide ei
    clear ei
    rw [HI.out] at q49
    refine q49.t (.tuple #[v6, .int .i64 61]) (ex_move rfl (q49.e (j := 55) rfl)) fun _ q50 => ?_;clear q49
    refine q50.t (v6) (ex_ext18 rfl (q50.e (j := 53) rfl) (xt0 _ _ _)) fun _ q51 => ?_;clear q50
    refine q51.t (.int .i64 61) (ex_ext18 rfl (q51.e (j := 53) rfl) (xt1 _ _ _)) fun _ q52 => ?_;clear q51
    refine q52.t (.int .i64 61) (ex_assign rfl (q52.e (j := 57) rfl)) fun _ q53 => ?_;clear q52
    refine wpList_nil ?_
    go_upto_region 11 with fail
    refine wp_region_lit ?_
    refine q53.t (.int .i64 61) (ex_move rfl (q53.e (j := 10) rfl)) fun _ q54 => ?_;clear q53
    refine q54.t (.bool true) (ex_bin (Y := .int .i64 (61 : Int)) rfl (q54.e (j := 58) rfl) rfl (eqEt _ _ 61 _)) fun _ q55 => ?_;clear q54
    refine q55.t (.bool true) (ex_assign rfl (q55.e (j := 59) rfl)) fun _ q56 => ?_;clear q55
    refine wpList_nil ?_
    go_wp2
    refine bodyPost_ret (results_tmp rfl _ _ _) rfl ?_
    rw [getD_of (q56.a 6 rfl)]
    exact ⟨rfl, d5.trans (b6.mono d5.size)⟩
  · refine q46.t (.bool false) (ex_bin (Y := .int .i64 (0 : Int)) rfl (q46.e (j := 51) rfl) rfl (eqF20 _ _ (by omega) _)) fun _ q47 => ?_;clear q46
    refine wpList_nil ?_
    go_upto_region 12 with fail
    refine wp_cond_false (q47.e (j := 52) rfl) ?_
    go_upto_region 12 with fail
    refine wp_region_lit ?_
    refine q47.t (.int .i64 (place : Int)) (ex_move rfl (q47.e (j := 1) rfl)) fun _ q48 => ?_;clear q47
    refine q48.t (.int .i64 ((l.length : Nat) : Int)) (ex_move rfl (q48.e (j := 7) rfl)) fun _ q49 => ?_;clear q48
    refine q49.t (.int .i64 ((l.length - 1 : Nat) : Int)) (ex_bin (Y := .int .i64 ((1 : Nat) : Int)) rfl (q49.e (j := 61) rfl) rfl (subP _ _ l.length 1 (by omega) (by omega) _)) fun _ q50 => ?_;clear q49
    refine vcallP (want_none rfl) (ex_call rfl (by simp only [List.map_toArray, List.map_cons, List.map_nil, (q50.e (j := 60) rfl), (q50.e (j := 62) rfl), evc] <;> rfl) rfl) (within20 place (l.length - 1) (by omega) w5) rfl q50.z (by decide) ?_
    rintro e w9 ⟨i, hi, rfl, hw9⟩
    refine ⟨_, rfl, q50.k fun _ q51 => ?_⟩;clear q50
    have hw9 := hw9.symm
    subst hw9
    refine q51.t (.int .i64 ((1 + i : Nat) : Int)) (ex_bin (X := .int .i64 ((1 : Nat) : Int)) rfl rfl (q51.e (j := 63) rfl) (addP _ _ 1 i (by omega) _)) fun _ q52 => ?_;clear q51
    refine q52.t (.int .i64 ((1 + i : Nat) : Int)) (ex_assign rfl (q52.e (j := 64) rfl)) fun _ q53 => ?_;clear q52
    obtain ⟨x, hx⟩ : ∃ x, l[1 + i - 1]? = some x := ⟨_, List.getElem?_eq_getElem (by omega)⟩
    have hx2 := hx
    obtain ⟨j, hj⟩ : ∃ j, j = 1 + i := ⟨_, rfl⟩
    rw [← hj] at q53 hx
    have hj1 : 1 ≤ j := by omega
    have hj2 : j ≤ l.length := by omega
    clear hj hx2
    have hin : inR (l.map lf) (j : Int) = (pu (l.map lf) j, 0) := in_ok hj1 (by rw [HL.out]; exact hj2)
    have HI := hide hin
    clear hin
    refine wpList_nil ?_
    go_upto_region 13 with fail
    refine wp_region_lit ?_
    refine q53.t (.slice a l.length c) (ex_move rfl (q53.e (j := 0) rfl)) fun _ q54 => ?_;clear q53
    refine q54.t (.int .i64 ((j : Nat) : Int)) (ex_move rfl (q54.e (j := 11) rfl)) fun _ q55 => ?_;clear q54
    refine vcallP (want_none rfl) (ex_call rfl (by simp only [List.map_toArray, List.map_cons, List.map_nil, (q55.e (j := 66) rfl), (q55.e (j := 67) rfl), evc] <;> rfl) rfl) (incllude20 l a l.length c (j : Int) w5 h5 (by omega) hv) rfl q55.z (by decide) ?_
    rintro e w6 ⟨v6, rfl, o6, b6⟩
    refine ⟨_, rfl, q55.k fun _ q56 => ?_⟩;clear q55
    rw [HI.out] at o6
    have z6 := b6.size
    have h6 := h5.later b6
    have d6 : Below w.heap.size w w6 := d5.trans (b6.mono d5.size)
    rw [HI.out] at q56
    obtain ⟨a6, c6, hv6, s6, _⟩ := o6.sl kH
    subst hv6
    refine q56.t (.tuple #[.slice a6 (pu (l.map lf) j).length c6, .int .i64 0]) (ex_move rfl (q56.e (j := 68) rfl)) fun _ q57 => ?_;clear q56
    refine q57.t (.slice a6 (pu (l.map lf) j).length c6) (ex_ext18 rfl (q57.e (j := 65) rfl) (xt0 _ _ _)) fun _ q58 => ?_;clear q57
    refine q58.t (.int .i64 0) (ex_ext18 rfl (q58.e (j := 65) rfl) (xt1 _ _ _)) fun _ q59 => ?_;clear q58
    refine q59.t (.slice a6 (pu (l.map lf) j).length c6) (ex_assign rfl (q59.e (j := 69) rfl)) fun _ q60 => ?_;clear q59
    refine q60.t (.int .i64 0) (ex_assign rfl (q60.e (j := 70) rfl)) fun _ q61 => ?_;clear q60
    refine wpList_nil ?_
    have hpb : (pu (l.map lf) j).length ≤ M.bl l.length := by have := pu_bits (L := l.map lf) (p := j) hj1 (by rw [HL.out]; exact hj2); rw [HL.out] at this; exact this
    have hic : icR (hd (l.map lf)) (l.length : Int) (j : Int) x (pu (l.map lf) j) = 0 := ic_ok hj1 hj2 hx
    have HX2 := hide hic
    clear hic
    have hvx := hv x (List.mem_of_getElem? hx)
    go_upto_region 14 with fail
    obtain ⟨qe, oe, hae, hqe, hle⟩ := h6.place (by rintro rfl; simp at hx)
    have hvl := hv
    refine vq_start (C := fun v => Below w6.heap.size w6 v) (by kernel_rfl) (by kernel_rfl) ((Below.refl _ _).drew) ?_
    refine q61.q (.int .i64 0) (fun v hv => ex_move rfl (q61.e (j := 10) rfl)) fun _ q62 => ?_;clear q61
    refine q62.q (.bool true) (fun v hv => ex_bin (Y := .int .i64 0) rfl (q62.e (j := 71) rfl) rfl (eqEt _ _ 0 _)) fun _ q63 => ?_;clear q62
    refine q63.q (.bool true) (fun v hv => ex_move rfl (q63.e (j := 72) rfl)) fun _ q64 => ?_;clear q63
    refine vq ((true && (true == true))) (.slice a6 (pu (l.map lf) j).length c6) (want_g rfl rfl (q64.a 73 rfl)) (fun hc v hv => ex_move rfl (q64.e (j := 12) rfl)) rfl q64.z (by decide) (q64.k fun _ q65 => ?_);clear q64
    refine vq ((true && (true == true))) (.int .i64 (((pu (l.map lf) j).length : Nat) : Int)) (want_g rfl rfl (q65.a 73 rfl)) (fun hc v hv => ex_lenG rfl rfl Try.underlying42 (q65.e (j := 74) rfl)) rfl q65.z (by decide) (q65.k fun _ q66 => ?_);clear q65
    refine vq ((true && (true == true))) (.int .i64 ((l.length : Nat) : Int)) (want_g rfl rfl (q66.a 73 rfl)) (fun hc v hv => ex_move rfl (q66.e (j := 7) rfl)) rfl q66.z (by decide) (q66.k fun _ q67 => ?_);clear q66
    refine vq_call18 ((true && (true == true))) (.int .i64 ((M.bl l.length : Nat) : Int)) (want_g rfl rfl (q67.a 73 rfl)) (fun hc v hv => ex_call rfl (by simp only [List.map_toArray, List.map_cons, List.map_nil, (q67.e (j := 76) rfl), evc] <;> rfl) rfl) (fun hc v hv => (binary20 l.length (by omega) v).mono fun e w' ⟨h1, h2⟩ => ⟨h1, by rw [h2]; exact hv⟩) rfl q67.z (by decide) (q67.k fun _ q68 => ?_);clear q67
    refine vq ((true && (true == true))) (.bool true) (want_g rfl rfl (q68.a 73 rfl)) (fun hc v hv => ex_bin rfl (q68.e (j := 75) rfl) (q68.e (j := 77) rfl) (leT20 _ _ (by omega) _)) rfl q68.z (by decide) (q68.k fun _ q69 => ?_);clear q68
    refine q69.q (.bool true) (fun v hv => ex_and (c := true) (b := true) (z := true) rfl (q69.a 73 rfl) (q69.a 78 rfl) rfl) fun _ q70 => ?_;clear q69
    refine q70.q (.bool true) (fun v hv => ex_move rfl (q70.e (j := 79) rfl)) fun _ q71 => ?_;clear q70
    refine vq ((true && (true == true))) (.slice a l.length c) (want_g rfl rfl (q71.a 80 rfl)) (fun hc v hv => ex_move rfl (q71.e (j := 0) rfl)) rfl q71.z (by decide) (q71.k fun _ q72 => ?_);clear q71
    refine vq_call18 ((true && (true == true))) ((hd (l.map lf)).val) (want_g rfl rfl (q72.a 80 rfl)) (fun hc v hv => ex_call rfl (by simp only [List.map_toArray, List.map_cons, List.map_nil, (q72.e (j := 81) rfl), evc] <;> rfl) rfl) (fun hc v hv => bel18 hv (head20 l a l.length c v (h6.later hv) (by omega) hvl) hv.size) rfl q72.z (by decide) (q72.k fun _ q73 => ?_);clear q72
    refine vq ((true && (true == true))) (.int .i64 ((l.length : Nat) : Int)) (want_g rfl rfl (q73.a 80 rfl)) (fun hc v hv => ex_move rfl (q73.e (j := 7) rfl)) rfl q73.z (by decide) (q73.k fun _ q74 => ?_);clear q73
    refine vq ((true && (true == true))) (.int .i64 ((j : Nat) : Int)) (want_g rfl rfl (q74.a 80 rfl)) (fun hc v hv => ex_move rfl (q74.e (j := 11) rfl)) rfl q74.z (by decide) (q74.k fun _ q75 => ?_);clear q74
    refine vq ((true && (true == true))) (.slice a l.length c) (want_g rfl rfl (q75.a 80 rfl)) (fun hc v hv => ex_move rfl (q75.e (j := 0) rfl)) rfl q75.z (by decide) (q75.k fun _ q76 => ?_);clear q75
    refine vq ((true && (true == true))) (.int .i64 ((j : Nat) : Int)) (want_g rfl rfl (q76.a 80 rfl)) (fun hc v hv => ex_move rfl (q76.e (j := 11) rfl)) rfl q76.z (by decide) (q76.k fun _ q77 => ?_);clear q76
    refine vq ((true && (true == true))) (.int .i64 ((j - 1 : Nat) : Int)) (want_g rfl rfl (q77.a 80 rfl)) (fun hc v hv => ex_bin (Y := .int .i64 ((1 : Nat) : Int)) rfl (q77.e (j := 86) rfl) rfl (subP _ _ j 1 (by omega) (by omega) _)) rfl q77.z (by decide) (q77.k fun _ q78 => ?_);clear q77
    refine vq ((true && (true == true))) (.pointer (some ⟨qe, oe + (j - 1) * 5, none⟩)) (want_g rfl rfl (q78.a 80 rfl)) (fun hc v hv => ex_ix rfl (q78.e (j := 85) rfl) (q78.e (j := 87) rfl) (by rw [hae]; exact ixE20 qe oe l.length c (j - 1) (by omega) _)) rfl q78.z (by decide) (q78.k fun _ q79 => ?_);clear q78
    refine vq ((true && (true == true))) (x.val20) (want_g rfl rfl (q79.a 80 rfl)) (fun hc v hv => ex_ld rfl (q79.e (j := 88) rfl) (ldEl20 (hle.upd (S := fun _ => False) (Upd.of_below hv) hqe id) hx)) rfl q79.z (by decide) (q79.k fun _ q80 => ?_);clear q79
    refine vq ((true && (true == true))) (.slice a6 (pu (l.map lf) j).length c6) (want_g rfl rfl (q80.a 80 rfl)) (fun hc v hv => ex_move rfl (q80.e (j := 12) rfl)) rfl q80.z (by decide) (q80.k fun _ q81 => ?_);clear q80
    refine vq_call18 ((true && (true == true))) (.int .i64 0) (want_g rfl rfl (q81.a 80 rfl)) (fun hc v hv => ex_call rfl (by simp only [List.map_toArray, List.map_cons, List.map_nil, (q81.e (j := 82) rfl), (q81.e (j := 83) rfl), (q81.e (j := 84) rfl), (q81.e (j := 89) rfl), (q81.e (j := 90) rfl), evc] <;> rfl) rfl) (fun hc v hv => bel18 hv (by have := included20 (hd (l.map lf)) (l.length : Int) (j : Int) x (pu (l.map lf) j) a6 _ c6 v (s6.later hv) (by omega) hvx; rw [HX2.out] at this; exact this) hv.size) rfl q81.z (by decide) (q81.k fun _ q82 => ?_);clear q81
    refine vq ((true && (true == true))) (.bool true) (want_g rfl rfl (q82.a 80 rfl)) (fun hc v hv => ex_bin (Y := .int .i64 0) rfl (q82.e (j := 91) rfl) rfl (eqEt _ _ 0 _)) rfl q82.z (by decide) (q82.k fun _ q83 => ?_);clear q82
    refine q83.q (.bool true) (fun v hv => ex_and (c := true) (b := true) (z := true) rfl (q83.a 80 rfl) (q83.a 92 rfl) rfl) fun _ q84 => ?_;clear q83
    refine q84.q (.bool true) (fun v hv => ex_assign rfl (q84.e (j := 93) rfl)) fun _ q85 => ?_;clear q84
    refine vq_nil (fun r1 hr1 => ?_)
    go_wp2
    refine bodyPost_ret (results_tmp rfl _ _ _) rfl ?_
    rw [getD_of (q85.a 6 rfl)]
    exact ⟨rfl, d6.trans (hr1.mono d6.size)⟩

end Go.Proofs.Ytaagmdkhjmonnaa
