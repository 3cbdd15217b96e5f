import Derived.Test.YtaagmdkhjmonnaaR8
namespace Go.Proofs.Ytaagmdkhjmonnaa
open Go.RowKit Go.Maps
open Classical
set_option linter.unusedVariables false
set_option linter.unusedSimpArgs false

/-- What joined says. -/
def jnR (old : Hs) (m n : Nat) (g : Hs) (P : List Hs) : Bool := if m = 0 then decide (old.v = (sH []).v) && (decide ((0 : Int) < (n : Int)) || decide (g.v = (sH []).v)) else if m = n then decide (old.v = g.v) else decide ((cb old m n true P).1.v = old.v) && decide ((cb old m n true P).2.v = g.v)
/-- What Extends says. -/
def exR (old : Hs) (m : Int) (g : Hs) (n : Int) (P : List Hs) : Int := if m < 0 ∨ n < m then 200 else if P.length ≠ sbN m.toNat n.toNat then 201 else if jnR old m.toNat n.toNat g P = true then 0 else 202
set_option maxRecDepth 100000 in
set_option maxHeartbeats 2000000 in
theorem joined20 (old : Hs) (m n : Nat) (g : Hs) (P : List Hs) (a : Option Addr) (k c : Nat) (w : World) (h : SlY yH w a k c P) (hk : k = sbN m n) (hn : n ≤ 9223372036854775807) (hm : m ≤ n) :
    Calls Try.prog 61 #[old.val, .int .i64 (m : Int), g.val, .int .i64 (n : Int), .slice a k c] w fun e w' => e = .returned (.bool (jnR old m n g P)) ∧ Below w.heap.size w w' := by
  go_enter Try.func61, Try.ntmps61
  go_upto_region 0 with fail
  refine wp_region_lit ?_
  refine vl_gen (fun T => Rp T 52 [(4, gw true (.slice a k c)), (3, gw true (.int .i64 ((n : Nat) : Int))), (2, gw true (g.val)), (1, gw true (.int .i64 ((m : Nat) : Int))), (0, gw true (old.val))]) ((((((Rp.nil rfl).cons rfl).cons rfl).cons rfl).cons rfl).cons rfl) (fun Z0 q0 => ?_)
  have hln := h.len
  obtain ⟨w1, hw1⟩ : ∃ y, y = w.alloc (.cells (old.cs).toArray 24) := ⟨_, rfl⟩
  refine vw (.pointer (some ⟨w.heap.size, 0, none⟩)) w1 (want_none rfl) (ex_box18 rfl (q0.e (j := 0) rfl) (by rw [hw1]; exact bxH20 _ _)) rfl q0.z (by decide) (q0.k fun _ q1 => ?_);clear q0
  have Bw1 : BB w1 w.heap.size 24 (old.cs) := by rw [hw1]; exact BB.new _ _ _
  have bw1 : Below w.heap.size w w1 := by rw [hw1]; exact (Below.refl _ _).alloc (Nat.le_refl _) _
  have zw1 : w1.heap.size = w.heap.size + 1 := by rw [hw1]; exact World.size_alloc _ _
  clear hw1
  obtain ⟨w2, hw2⟩ : ∃ y, y = w1.alloc (.cells (g.cs).toArray 24) := ⟨_, rfl⟩
  refine vw (.pointer (some ⟨w1.heap.size, 0, none⟩)) w2 (want_none rfl) (ex_box18 rfl (q1.e (j := 2) rfl) (by rw [hw2]; exact bxH20 _ _)) rfl q1.z (by decide) (q1.k fun _ q2 => ?_);clear q1
  have Bw2 : BB w2 w1.heap.size 24 (g.cs) := by rw [hw2]; exact BB.new _ _ _
  have bw2 : Below w1.heap.size w1 w2 := by rw [hw2]; exact (Below.refl _ _).alloc (Nat.le_refl _) _
  have zw2 : w2.heap.size = w1.heap.size + 1 := by rw [hw2]; exact World.size_alloc _ _
  clear hw2
  refine q2.t (.bool false) (ex_assign rfl rfl) fun _ q3 => ?_;clear q2
  refine wpList_nil ?_
  go_upto_region 1 with fail
  refine wp_region_lit ?_
  have A2 := Bw1.later bw2
  have d2 : Below w.heap.size w w2 := bw1.trans (bw2.mono (by omega))
  have s2 := (h.later bw1).later bw2
  refine q3.t (.int .i64 ((m : Nat) : Int)) (ex_move rfl (q3.e (j := 1) rfl)) fun _ q4 => ?_;clear q3
  refine wpList_nil ?_
  go_upto_region 2 with fail
  refine wp_region_lit ?_
  by_cases h0 : m = 0
  · refine q4.t (.bool true) (ex_bin (Y := .int .i64 (0 : Int)) rfl (q4.e (j := 14) rfl) rfl (eqT20 _ _ (by omega) _)) fun _ q5 => ?_;clear q4
    refine q5.t (.bool true) (ex_assign rfl (q5.e (j := 16) rfl)) fun _ q6 => ?_;clear q5
    refine wpList_nil ?_
    go_upto_region 3 with fail
    refine wp_cond_true (q6.e (j := 15) rfl) ?_
    go_upto_region 3 with fail
    refine wp_region_lit ?_
    refine vcallP (want_none rfl) (ex_call rfl (by simp only [List.map_toArray, List.map_cons, List.map_nil, evc] <;> rfl) rfl) (headOf20 [] none 0 0 w2 (nil_sl20 yH w2) (by omega)) rfl q6.z (by decide) ?_
    rintro e w3 ⟨rfl, b3⟩
    refine ⟨_, rfl, q6.k fun _ q7 => ?_⟩;clear q6
    rw [hd_0] at q7
    have z3 := b3.size
    obtain ⟨w4, hw4⟩ : ∃ y, y = w3.alloc (.cells (zH.cs).toArray 24) := ⟨_, rfl⟩
    refine vw (.pointer (some ⟨w3.heap.size, 0, none⟩)) w4 (want_none rfl) (ex_al rfl (by rw [hw4]; exact alH _)) rfl q7.z (by decide) (q7.k fun _ q8 => ?_);clear q7
    have Bw4 : BB w4 w3.heap.size 24 (zH.cs) := by rw [hw4]; exact BB.new _ _ _
    have bw4 : Below w3.heap.size w3 w4 := by rw [hw4]; exact (Below.refl _ _).alloc (Nat.le_refl _) _
    have zw4 : w4.heap.size = w3.heap.size + 1 := by rw [hw4]; exact World.size_alloc _ _
    clear hw4
    obtain ⟨w5, hw5⟩ : ∃ y, y = w4.setCells w3.heap.size 0 (sH []).cs := ⟨_, rfl⟩
    refine vs w5 (want_none rfl) (ex_st rfl (q8.e (j := 11) rfl) (q8.e (j := 17) rfl) (by rw [hw5]; exact Bw4.stH rfl _)) rfl ?_
    have Bw5 : BB w5 w3.heap.size 24 (sH []).cs := by rw [hw5]; exact Bw4.putH rfl _
    have uw5 : Upd (fun k => k = w3.heap.size) w4 w5 := by rw [hw5]; exact upd18 _ _ _ _
    clear hw5
    have b5 : Below w3.heap.size w3 w5 := bw4.trans (bel_ge uw5 (by omega) (Nat.le_refl _))
    have A5 := (A2.later b3).later b5
    have G5 := (Bw2.later b3).later b5
    have d5 : Below w.heap.size w w5 := (d2.trans (b3.mono (by omega))).trans (b5.mono (by omega))
    refine wpList_nil ?_
    go_upto_region 4 with fail
    refine wp_region_lit ?_
    refine q8.t (old.val) (ex_ld rfl (q8.e (j := 5) rfl) A5.ldH) fun _ q9 => ?_;clear q8
    refine q9.t ((sH []).val) (ex_ld rfl (q9.e (j := 11) rfl) Bw5.ldH) fun _ q10 => ?_;clear q9
    refine q10.t (.bool (decide (old.v = (sH []).v))) (ex_bin rfl (q10.e (j := 18) rfl) (q10.e (j := 19) rfl) (eqHZ _ _ _ _ _)) fun _ q11 => ?_;clear q10
    refine q11.t (.bool (decide (old.v = (sH []).v))) (ex_move rfl (q11.e (j := 20) rfl)) fun _ q12 => ?_;clear q11
    refine vl ((true && (decide (old.v = (sH []).v) == true))) (.int .i64 ((n : Nat) : Int)) (want_g rfl rfl (q12.a 21 rfl)) (fun hc => ex_move rfl (q12.e (j := 3) rfl)) rfl q12.z (by decide) (q12.k fun _ q13 => ?_);clear q12
    refine vl ((true && (decide (old.v = (sH []).v) == true))) (.bool (decide ((0 : Int) < (n : Int)))) (want_g rfl rfl (q13.a 21 rfl)) (fun hc => ex_bin (Y := .int .i64 (0 : Int)) rfl (ev (q13.a 22 rfl) hc) rfl (gtZ20 _ _ _ _ _)) rfl q13.z (by decide) (q13.k fun _ q14 => ?_);clear q13
    refine vl ((true && (decide (old.v = (sH []).v) == true))) (.bool (decide ((0 : Int) < (n : Int)))) (want_g rfl rfl (q14.a 21 rfl)) (fun hc => ex_move rfl (ev (q14.a 23 rfl) hc)) rfl q14.z (by decide) (q14.k fun _ q15 => ?_);clear q14
    refine vl (((true && (decide (old.v = (sH []).v) == true)) && (decide ((0 : Int) < (n : Int)) == false))) (g.val) (want_g rfl rfl (q15.a 24 rfl)) (fun hc => ex_ld rfl (q15.e (j := 7) rfl) G5.ldH) rfl q15.z (by decide) (q15.k fun _ q16 => ?_);clear q15
    refine vl (((true && (decide (old.v = (sH []).v) == true)) && (decide ((0 : Int) < (n : Int)) == false))) ((sH []).val) (want_g rfl rfl (q16.a 24 rfl)) (fun hc => ex_ld rfl (q16.e (j := 11) rfl) Bw5.ldH) rfl q16.z (by decide) (q16.k fun _ q17 => ?_);clear q16
    refine vl (((true && (decide (old.v = (sH []).v) == true)) && (decide ((0 : Int) < (n : Int)) == false))) (.bool (decide (g.v = (sH []).v))) (want_g rfl rfl (q17.a 24 rfl)) (fun hc => ex_bin rfl (ev (q17.a 25 rfl) hc) (ev (q17.a 26 rfl) hc) (eqHZ _ _ _ _ _)) rfl q17.z (by decide) (q17.k fun _ q18 => ?_);clear q17
    refine vl ((true && (decide (old.v = (sH []).v) == true))) (.bool (decide ((0 : Int) < (n : Int)) || decide (g.v = (sH []).v))) (want_g rfl rfl (q18.a 21 rfl)) (fun hc => ex_or rfl (q18.a 24 rfl) (q18.a 27 rfl) hc) rfl q18.z (by decide) (q18.k fun _ q19 => ?_);clear q18
    refine q19.t (.bool (decide (old.v = (sH []).v) && (decide ((0 : Int) < (n : Int)) || decide (g.v = (sH []).v)))) (ex_and rfl (q19.a 21 rfl) (q19.a 28 rfl) rfl) fun _ q20 => ?_;clear q19
    refine q20.t (.bool (decide (old.v = (sH []).v) && (decide ((0 : Int) < (n : Int)) || decide (g.v = (sH []).v)))) (ex_assign rfl (q20.e (j := 29) rfl)) fun _ q21 => ?_;clear q20
    refine wpList_nil ?_
    go_wp2
    refine bodyPost_ret (results_tmp rfl _ _ _) rfl ?_
    rw [getD_of (q21.a 10 rfl)]
    exact ⟨by unfold jnR; rw [if_pos h0]; rfl, d5⟩
  · refine q4.t (.bool false) (ex_bin (Y := .int .i64 (0 : Int)) rfl (q4.e (j := 14) rfl) rfl (eqF20 _ _ (by omega) _)) fun _ q5 => ?_;clear q4
    refine q5.t (.bool false) (ex_assign rfl (q5.e (j := 16) rfl)) fun _ q6 => ?_;clear q5
    refine wpList_nil ?_
    go_upto_region 5 with fail
    refine wp_cond_false (q6.e (j := 15) rfl) ?_
    go_upto_region 5 with fail
    refine wp_region_lit ?_
    refine q6.t (.int .i64 ((n : Nat) : Int)) (ex_move rfl (q6.e (j := 3) rfl)) fun _ q7 => ?_;clear q6
    by_cases h1 : m = n
    · refine q7.t (.bool true) (ex_bin rfl (q7.e (j := 14) rfl) (q7.e (j := 31) rfl) (eqT20 _ _ (by omega) _)) fun _ q8 => ?_;clear q7
      refine q8.t (.bool true) (ex_assign rfl (q8.e (j := 32) rfl)) fun _ q9 => ?_;clear q8
      refine wpList_nil ?_
      go_upto_region 6 with fail
      refine wp_cond_true (q9.e (j := 30) rfl) ?_
      go_upto_region 6 with fail
      refine wp_region_lit ?_
      refine q9.t (old.val) (ex_ld rfl (q9.e (j := 5) rfl) A2.ldH) fun _ q10 => ?_;clear q9
      refine q10.t (g.val) (ex_ld rfl (q10.e (j := 7) rfl) Bw2.ldH) fun _ q11 => ?_;clear q10
      refine q11.t (.bool (decide (old.v = g.v))) (ex_bin rfl (q11.e (j := 33) rfl) (q11.e (j := 34) rfl) (eqHZ _ _ _ _ _)) fun _ q12 => ?_;clear q11
      refine q12.t (.bool (decide (old.v = g.v))) (ex_assign rfl (q12.e (j := 35) rfl)) fun _ q13 => ?_;clear q12
      refine wpList_nil ?_
      go_wp2
      refine bodyPost_ret (results_tmp rfl _ _ _) rfl ?_
      rw [getD_of (q13.a 10 rfl)]
      exact ⟨by unfold jnR; rw [if_neg h0, if_pos h1]; rfl, d2⟩
    · refine q7.t (.bool false) (ex_bin rfl (q7.e (j := 14) rfl) (q7.e (j := 31) rfl) (eqF20 _ _ (by omega) _)) fun _ q8 => ?_;clear q7
      refine q8.t (.bool false) (ex_assign rfl (q8.e (j := 32) rfl)) fun _ q9 => ?_;clear q8
      refine wpList_nil ?_
      go_upto_region 7 with fail
      refine wp_cond_false (q9.e (j := 30) rfl) ?_
      go_upto_region 7 with fail
      refine wp_region_lit ?_
      refine q9.t (old.val) (ex_ld rfl (q9.e (j := 5) rfl) A2.ldH) fun _ q10 => ?_;clear q9
      refine q10.t (.int .i64 ((m : Nat) : Int)) (ex_move rfl (q10.e (j := 1) rfl)) fun _ q11 => ?_;clear q10
      refine q11.t (.int .i64 ((n : Nat) : Int)) (ex_move rfl (q11.e (j := 3) rfl)) fun _ q12 => ?_;clear q11
      refine q12.t (.slice a k c) (ex_move rfl (q12.e (j := 4) rfl)) fun _ q13 => ?_;clear q12
      refine vcallP (want_none rfl) (ex_call rfl (by simp only [List.map_toArray, List.map_cons, List.map_nil, (q13.e (j := 37) rfl), (q13.e (j := 38) rfl), (q13.e (j := 39) rfl), (q13.e (j := 40) rfl), evc] <;> rfl) rfl) (climbBoth20 old m n true P a k c w2 s2 (by rw [hk]; unfold sbN; rw [if_neg h0]) hn (by omega) hm) rfl q13.z (by decide) ?_
      rintro e w3 ⟨rfl, b3⟩
      refine ⟨_, rfl, q13.k fun _ q14 => ?_⟩;clear q13
      have z3 := b3.size
      refine q14.t (.tuple #[(cb old m n true P).1.val, (cb old m n true P).2.val]) (ex_move rfl (q14.e (j := 41) rfl)) fun _ q15 => ?_;clear q14
      refine q15.t ((cb old m n true P).1.val) (ex_ext18 rfl (q15.e (j := 36) rfl) (xt0 _ _ _)) fun _ q16 => ?_;clear q15
      refine q16.t ((cb old m n true P).2.val) (ex_ext18 rfl (q16.e (j := 36) rfl) (xt1 _ _ _)) fun _ q17 => ?_;clear q16
      obtain ⟨w4, hw4⟩ : ∃ y, y = w3.alloc (.cells (zH.cs).toArray 24) := ⟨_, rfl⟩
      refine vw (.pointer (some ⟨w3.heap.size, 0, none⟩)) w4 (want_none rfl) (ex_al rfl (by rw [hw4]; exact alH _)) rfl q17.z (by decide) (q17.k fun _ q18 => ?_);clear q17
      have Bw4 : BB w4 w3.heap.size 24 (zH.cs) := by rw [hw4]; exact BB.new _ _ _
      have bw4 : Below w3.heap.size w3 w4 := by rw [hw4]; exact (Below.refl _ _).alloc (Nat.le_refl _) _
      have zw4 : w4.heap.size = w3.heap.size + 1 := by rw [hw4]; exact World.size_alloc _ _
      clear hw4
      obtain ⟨w5, hw5⟩ : ∃ y, y = w4.alloc (.cells (zH.cs).toArray 24) := ⟨_, rfl⟩
      refine vw (.pointer (some ⟨w4.heap.size, 0, none⟩)) w5 (want_none rfl) (ex_al rfl (by rw [hw5]; exact alH _)) rfl q18.z (by decide) (q18.k fun _ q19 => ?_);clear q18
      have Bw5 : BB w5 w4.heap.size 24 (zH.cs) := by rw [hw5]; exact BB.new _ _ _
      have bw5 : Below w4.heap.size w4 w5 := by rw [hw5]; exact (Below.refl _ _).alloc (Nat.le_refl _) _
      have zw5 : w5.heap.size = w4.heap.size + 1 := by rw [hw5]; exact World.size_alloc _ _
      clear hw5
      have F5 := Bw4.later bw5
      obtain ⟨wa, hwa⟩ : ∃ y, y = w5.setCells w3.heap.size 0 ((cb old m n true P).1).cs := ⟨_, rfl⟩
      refine vs wa (want_none rfl) (ex_st rfl (q19.e (j := 12) rfl) (q19.e (j := 42) rfl) (by rw [hwa]; exact F5.stH rfl _)) rfl ?_
      have Bwa : BB wa w3.heap.size 24 ((cb old m n true P).1).cs := by rw [hwa]; exact F5.putH rfl _
      have uwa : Upd (fun k => k = w3.heap.size) w5 wa := by rw [hwa]; exact upd18 _ _ _ _
      clear hwa
      have G5 := Bw5.upd uwa (show ¬ w4.heap.size = w3.heap.size by omega)
      obtain ⟨wb, hwb⟩ : ∃ y, y = wa.setCells w4.heap.size 0 ((cb old m n true P).2).cs := ⟨_, rfl⟩
      refine vs wb (want_none rfl) (ex_st rfl (q19.e (j := 13) rfl) (q19.e (j := 43) rfl) (by rw [hwb]; exact G5.stH rfl _)) rfl ?_
      have Bwb : BB wb w4.heap.size 24 ((cb old m n true P).2).cs := by rw [hwb]; exact G5.putH rfl _
      have uwb : Upd (fun k => k = w4.heap.size) wa wb := by rw [hwb]; exact upd18 _ _ _ _
      clear hwb
      have za := uwa.size
      have Fb := Bwa.upd uwb (show ¬ w3.heap.size = w4.heap.size by omega)
      have bb : Below w3.heap.size w3 wb := ((bw4.trans (bw5.mono (by omega))).trans (bel_ge uwa (by omega) (Nat.le_refl _))).trans (bel_ge uwb (by omega) (by omega))
      have A9 := (A2.later b3).later bb
      have H9 := (Bw2.later b3).later bb
      have d9 : Below w.heap.size w wb := (d2.trans (b3.mono (by omega))).trans (bb.mono (by omega))
      refine wpList_nil ?_
      go_upto_region 8 with fail
      refine wp_region_lit ?_
      refine q19.t ((cb old m n true P).1.val) (ex_ld rfl (q19.e (j := 12) rfl) Fb.ldH) fun _ q20 => ?_;clear q19
      refine q20.t (old.val) (ex_ld rfl (q20.e (j := 5) rfl) A9.ldH) fun _ q21 => ?_;clear q20
      refine q21.t (.bool (decide ((cb old m n true P).1.v = old.v))) (ex_bin rfl (q21.e (j := 44) rfl) (q21.e (j := 45) rfl) (eqHZ _ _ _ _ _)) fun _ q22 => ?_;clear q21
      refine q22.t (.bool (decide ((cb old m n true P).1.v = old.v))) (ex_move rfl (q22.e (j := 46) rfl)) fun _ q23 => ?_;clear q22
      refine vl ((true && (decide ((cb old m n true P).1.v = old.v) == true))) ((cb old m n true P).2.val) (want_g rfl rfl (q23.a 47 rfl)) (fun hc => ex_ld rfl (q23.e (j := 13) rfl) Bwb.ldH) rfl q23.z (by decide) (q23.k fun _ q24 => ?_);clear q23
      refine vl ((true && (decide ((cb old m n true P).1.v = old.v) == true))) (g.val) (want_g rfl rfl (q24.a 47 rfl)) (fun hc => ex_ld rfl (q24.e (j := 7) rfl) H9.ldH) rfl q24.z (by decide) (q24.k fun _ q25 => ?_);clear q24
      refine vl ((true && (decide ((cb old m n true P).1.v = old.v) == true))) (.bool (decide ((cb old m n true P).2.v = g.v))) (want_g rfl rfl (q25.a 47 rfl)) (fun hc => ex_bin rfl (ev (q25.a 48 rfl) hc) (ev (q25.a 49 rfl) hc) (eqHZ _ _ _ _ _)) rfl q25.z (by decide) (q25.k fun _ q26 => ?_);clear q25
      refine q26.t (.bool (decide ((cb old m n true P).1.v = old.v) && decide ((cb old m n true P).2.v = g.v))) (ex_and rfl (q26.a 47 rfl) (q26.a 50 rfl) rfl) fun _ q27 => ?_;clear q26
      refine q27.t (.bool (decide ((cb old m n true P).1.v = old.v) && decide ((cb old m n true P).2.v = g.v))) (ex_assign rfl (q27.e (j := 51) rfl)) fun _ q28 => ?_;clear q27
      refine wpList_nil ?_
      go_wp2
      refine bodyPost_ret (results_tmp rfl _ _ _) rfl ?_
      rw [getD_of (q28.a 10 rfl)]
      exact ⟨by unfold jnR; rw [if_neg h0, if_neg h1]; rfl, d9⟩
set_option maxRecDepth 100000 in
set_option maxHeartbeats 2000000 in
theorem extends20 (old : Hs) (m : Int) (g : Hs) (n : Int) (P : List Hs) (a : Option Addr) (k c : Nat) (w : World) (h : SlY yH w a k c P) (hn : n ≤ 9223372036854775807) :
    Calls Try.prog 29 #[old.val, .int .i64 m, g.val, .int .i64 n, .slice a k c] w fun e w' => e = .returned (.int .i64 (exR old m g n P)) ∧ Below w.heap.size w w' := by
  go_enter Try.func29, Try.ntmps29
  go_upto_region 0 with fail
  refine wp_region_lit ?_
  refine vl_gen (fun T => Rp T 34 [(4, gw true (.slice a k c)), (3, gw true (.int .i64 (n : Int))), (2, gw true (g.val)), (1, gw true (.int .i64 (m : Int))), (0, gw true (old.val))]) ((((((Rp.nil rfl).cons rfl).cons rfl).cons rfl).cons rfl).cons rfl) (fun Z0 q0 => ?_)
  have hln := h.len
  obtain ⟨w1, hw1⟩ : ∃ y, y = w.alloc (.cells (old.cs).toArray 24) := ⟨_, rfl⟩
  refine vw (.pointer (some ⟨w.heap.size, 0, none⟩)) w1 (want_none rfl) (ex_box18 rfl (q0.e (j := 0) rfl) (by rw [hw1]; exact bxH20 _ _)) rfl q0.z (by decide) (q0.k fun _ q1 => ?_);clear q0
  have Bw1 : BB w1 w.heap.size 24 (old.cs) := by rw [hw1]; exact BB.new _ _ _
  have bw1 : Below w.heap.size w w1 := by rw [hw1]; exact (Below.refl _ _).alloc (Nat.le_refl _) _
  have zw1 : w1.heap.size = w.heap.size + 1 := by rw [hw1]; exact World.size_alloc _ _
  clear hw1
  obtain ⟨w2, hw2⟩ : ∃ y, y = w1.alloc (.cells (g.cs).toArray 24) := ⟨_, rfl⟩
  refine vw (.pointer (some ⟨w1.heap.size, 0, none⟩)) w2 (want_none rfl) (ex_box18 rfl (q1.e (j := 2) rfl) (by rw [hw2]; exact bxH20 _ _)) rfl q1.z (by decide) (q1.k fun _ q2 => ?_);clear q1
  have Bw2 : BB w2 w1.heap.size 24 (g.cs) := by rw [hw2]; exact BB.new _ _ _
  have bw2 : Below w1.heap.size w1 w2 := by rw [hw2]; exact (Below.refl _ _).alloc (Nat.le_refl _) _
  have zw2 : w2.heap.size = w1.heap.size + 1 := by rw [hw2]; exact World.size_alloc _ _
  clear hw2
  refine q2.t (.int .i64 (0 : Int)) (ex_assign rfl rfl) fun _ q3 => ?_;clear q2
  refine wpList_nil ?_
  go_upto_region 1 with fail
  refine wp_region_lit ?_
  have A2 := Bw1.later bw2
  have d2 : Below w.heap.size w w2 := bw1.trans (bw2.mono (by omega))
  have s2 := (h.later bw1).later bw2
  refine q3.t (.int .i64 (m : Int)) (ex_move rfl (q3.e (j := 1) rfl)) fun _ q4 => ?_;clear q3
  refine q4.t (.bool (decide (m < 0))) (ex_bin (Y := .int .i64 (0 : Int)) rfl (q4.e (j := 12) rfl) rfl (ltZ20 _ _ _ _ _)) fun _ q5 => ?_;clear q4
  refine q5.t (.bool (decide (m < 0))) (ex_move rfl (q5.e (j := 13) rfl)) fun _ q6 => ?_;clear q5
  refine vl ((true && (decide (m < 0) == false))) (.int .i64 (n : Int)) (want_g rfl rfl (q6.a 14 rfl)) (fun hc => ex_move rfl (q6.e (j := 3) rfl)) rfl q6.z (by decide) (q6.k fun _ q7 => ?_);clear q6
  refine vl ((true && (decide (m < 0) == false))) (.int .i64 (m : Int)) (want_g rfl rfl (q7.a 14 rfl)) (fun hc => ex_move rfl (q7.e (j := 1) rfl)) rfl q7.z (by decide) (q7.k fun _ q8 => ?_);clear q7
  refine vl ((true && (decide (m < 0) == false))) (.bool (decide (n < m))) (want_g rfl rfl (q8.a 14 rfl)) (fun hc => ex_bin rfl (ev (q8.a 15 rfl) hc) (ev (q8.a 16 rfl) hc) (ltZ20 _ _ _ _ _)) rfl q8.z (by decide) (q8.k fun _ q9 => ?_);clear q8
  refine q9.t (.bool (decide (m < 0) || decide (n < m))) (ex_or rfl (q9.a 14 rfl) (q9.a 17 rfl) rfl) fun _ q10 => ?_;clear q9
  refine q10.t (.bool (decide (m < 0) || decide (n < m))) (ex_assign rfl (q10.e (j := 18) rfl)) fun _ q11 => ?_;clear q10
  rw [dec_or20] at q11
  refine wpList_nil ?_
  by_cases hb : m < 0 ∨ n < m
  · rw [decide_eq_true hb] at q11
    go_upto_region 2 with fail
    refine wp_cond_true (q11.e (j := 11) rfl) ?_
    go_upto_region 2 with fail
    refine wp_region_lit ?_
    refine q11.t (.int .i64 (200 : Int)) (ex_assign rfl rfl) fun _ q12 => ?_;clear q11
    refine wpList_nil ?_
    go_wp2
    refine bodyPost_ret (results_tmp rfl _ _ _) rfl ?_
    rw [getD_of (q12.a 10 rfl)]
    exact ⟨by unfold exR; rw [if_pos (by omega)]; rfl, d2⟩
  · rw [decide_eq_false hb] at q11
    obtain ⟨j, rfl⟩ : ∃ j : Nat, m = (j : Int) := ⟨m.toNat, by omega⟩
    obtain ⟨i, rfl⟩ : ∃ i : Nat, n = (i : Int) := ⟨n.toNat, by omega⟩
    go_upto_region 3 with fail
    refine wp_cond_false (q11.e (j := 11) rfl) ?_
    go_upto_region 3 with fail
    refine wp_region_lit ?_
    refine q11.t (.slice a k c) (ex_move rfl (q11.e (j := 4) rfl)) fun _ q12 => ?_;clear q11
    refine q12.t (.int .i64 ((k : Nat) : Int)) (ex_lenG rfl rfl Try.underlying42 (q12.e (j := 20) rfl)) fun _ q13 => ?_;clear q12
    refine q13.t (.int .i64 ((j : Nat) : Int)) (ex_move rfl (q13.e (j := 1) rfl)) fun _ q14 => ?_;clear q13
    refine q14.t (.int .i64 ((i : Nat) : Int)) (ex_move rfl (q14.e (j := 3) rfl)) fun _ q15 => ?_;clear q14
    refine vcallP (want_none rfl) (ex_call rfl (by simp only [List.map_toArray, List.map_cons, List.map_nil, (q15.e (j := 22) rfl), (q15.e (j := 23) rfl), evc] <;> rfl) rfl) (stepsBetween20 j i w2 (by omega) (by omega)) rfl q15.z (by decide) ?_
    rintro e w9 ⟨rfl, hw9⟩
    refine ⟨_, rfl, q15.k fun _ q16 => ?_⟩;clear q15
    have hw9 := hw9.symm
    subst hw9
    by_cases hk : k = sbN j i
    · refine q16.t (.bool false) (ex_bin rfl (q16.e (j := 21) rfl) (q16.e (j := 24) rfl) (neF20 _ _ (by omega) _)) fun _ q17 => ?_;clear q16
      refine q17.t (.bool false) (ex_assign rfl (q17.e (j := 25) rfl)) fun _ q18 => ?_;clear q17
      refine wpList_nil ?_
      go_upto_region 5 with fail
      refine wp_cond_false (q18.e (j := 19) rfl) ?_
      go_upto_region 5 with fail
      refine wp_region_lit ?_
      refine q18.t (old.val) (ex_ld rfl (q18.e (j := 5) rfl) A2.ldH) fun _ q19 => ?_;clear q18
      refine q19.t (.int .i64 ((j : Nat) : Int)) (ex_move rfl (q19.e (j := 1) rfl)) fun _ q20 => ?_;clear q19
      refine q20.t (g.val) (ex_ld rfl (q20.e (j := 7) rfl) Bw2.ldH) fun _ q21 => ?_;clear q20
      refine q21.t (.int .i64 ((i : Nat) : Int)) (ex_move rfl (q21.e (j := 3) rfl)) fun _ q22 => ?_;clear q21
      refine q22.t (.slice a k c) (ex_move rfl (q22.e (j := 4) rfl)) fun _ q23 => ?_;clear q22
      refine vcallP (want_none rfl) (ex_call rfl (by simp only [List.map_toArray, List.map_cons, List.map_nil, (q23.e (j := 27) rfl), (q23.e (j := 28) rfl), (q23.e (j := 29) rfl), (q23.e (j := 30) rfl), (q23.e (j := 31) rfl), evc] <;> rfl) rfl) (joined20 old j i g P a k c w2 s2 hk (by omega) (by omega)) rfl q23.z (by decide) ?_
      rintro e w3 ⟨rfl, b3⟩
      refine ⟨_, rfl, q23.k fun _ q24 => ?_⟩;clear q23
      have d3 : Below w.heap.size w w3 := d2.trans (b3.mono d2.size)
      refine q24.t (.bool (!jnR old j i g P)) (ex_not rfl (q24.e (j := 32) rfl)) fun _ q25 => ?_;clear q24
      refine q25.t (.bool (!jnR old j i g P)) (ex_assign rfl (q25.e (j := 33) rfl)) fun _ q26 => ?_;clear q25
      refine wpList_nil ?_
      have hko : ¬ P.length ≠ sbN (j : Int).toNat (i : Int).toNat := by rw [Int.toNat_natCast, Int.toNat_natCast, hln]; exact fun e => e hk
      have HK := hide hko
      clear hko
      cases hc : jnR old j i g P
      · rw [hc] at q26
        have HC := hide hc
        clear hc
        go_upto_region 6 with fail
        refine wp_cond_true (q26.e (j := 26) rfl) ?_
        go_upto_region 6 with fail
        refine wp_region_lit ?_
        refine q26.t (.int .i64 (202 : Int)) (ex_assign rfl rfl) fun _ q27 => ?_;clear q26
        refine wpList_nil ?_
        go_wp2
        refine bodyPost_ret (results_tmp rfl _ _ _) rfl ?_
        rw [getD_of (q27.a 10 rfl)]
        exact ⟨by unfold exR; rw [if_neg (by omega), if_neg HK.out, if_neg (by rw [Int.toNat_natCast, Int.toNat_natCast, HC.out]; decide)]; rfl, d3⟩
      · rw [hc] at q26
        have HC := hide hc
        clear hc
        go_upto_region 7 with fail
        refine wp_cond_false (q26.e (j := 26) rfl) ?_
        go_upto_region 7 with fail
        refine wp_region_lit ?_
        refine q26.t (.int .i64 (0 : Int)) (ex_assign rfl rfl) fun _ q27 => ?_;clear q26
        refine wpList_nil ?_
        go_wp2
        refine bodyPost_ret (results_tmp rfl _ _ _) rfl ?_
        rw [getD_of (q27.a 10 rfl)]
        exact ⟨by unfold exR; rw [if_neg (by omega), if_neg HK.out, if_pos (by rw [Int.toNat_natCast, Int.toNat_natCast, HC.out])]; rfl, d3⟩
    · refine q16.t (.bool true) (ex_bin rfl (q16.e (j := 21) rfl) (q16.e (j := 24) rfl) (neT20 _ _ (by omega) _)) fun _ q17 => ?_;clear q16
      refine q17.t (.bool true) (ex_assign rfl (q17.e (j := 25) rfl)) fun _ q18 => ?_;clear q17
      refine wpList_nil ?_
      go_upto_region 4 with fail
      refine wp_cond_true (q18.e (j := 19) rfl) ?_
      go_upto_region 4 with fail
      refine wp_region_lit ?_
      refine q18.t (.int .i64 (201 : Int)) (ex_assign rfl rfl) fun _ q19 => ?_;clear q18
      refine wpList_nil ?_
      go_wp2
      refine bodyPost_ret (results_tmp rfl _ _ _) rfl ?_
      rw [getD_of (q19.a 10 rfl)]
      exact ⟨by unfold exR; rw [if_neg (by omega), if_pos (by rw [Int.toNat_natCast, Int.toNat_natCast, hln]; exact hk)]; rfl, d2⟩

end Go.Proofs.Ytaagmdkhjmonnaa
