import Derived.Test.YtfafhlahbhopaaaF6
set_option maxRecDepth 100000
set_option linter.unusedVariables false
set_option linter.unusedSimpArgs false
namespace Go.Proofs.Ytfafhlahbhopaaa
open Go.RowKit Go.Maps
open Classical
theorem slToE20A (a : Option Addr) (n c k : Nat) (h1 : k ≤ n) (h2 : n ≤ c) (h3 : a = none → c = 0) (w : World) : (Instr.sliceAt 22 (.slice a n c) none (some (.int .i64 (k : Int))) none).run Try.prog w = .ok (.slice a k c) w := by
  have e1 : (0 : Int) ≤ (k : Int) := by omega
  have e2 : (k : Int) ≤ (c : Int) := by omega
  cases a with
  | none =>
    have hc := h3 rfl
    subst hc
    obtain rfl : k = 0 := by omega
    go_simp
  | some x => go_simp
theorem neEZ20 (x y : Operand) (a b : Int) (w : World) : (do eqGuard .neq 43 x y (.int .i64 a) (.int .i64 b); binOp .neq 43 (.int .i64 a) (.int .i64 b) : Sem Value).run Try.prog w = .ok (.bool (!decide (a = b))) w := by
  by_cases h : a = b
  · subst h; rw [decide_eq_true rfl]; exact neEF x y a w
  · rw [decide_eq_false h]; go_simp
theorem fewN20 (l : List En) (a : Option Addr) (n0 n c : Nat) (w : World) (h : SlY yE w a n0 c l) (hn : n = min n0 200) :
    Calls Try.prog 28 #[.slice a n0 c] w fun e w' => e = .returned (.slice a n c) ∧ w' = w := by
  subst hn
  exact few20 l a n0 c w h
theorem ex_zero {old g : Hs} {m n : Nat} {P : List Hs} (h : exR old m g n P = 0) (h1 : 1 ≤ m) (h2 : m ≤ n) : (m = n → old = g) ∧ (m ≠ n → P.length = sa m n true ∧ (cb old m n true P).1 = old ∧ (cb old m n true P).2 = g) := by
  unfold exR at h
  rw [if_neg (by omega), Int.toNat_natCast, Int.toNat_natCast] at h
  by_cases hl : P.length ≠ sbN m n
  · rw [if_pos hl] at h
    cases h
  · rw [if_neg hl] at h
    have hl := Decidable.not_not.1 hl
    unfold sbN at hl
    rw [if_neg (by omega)] at hl
    by_cases hj : jnR old m n g P = true
    · unfold jnR at hj
      rw [if_neg (by omega)] at hj
      refine ⟨fun e => ?_, fun e => ?_⟩
      · rw [if_pos e] at hj
        exact Hs.ext20 (of_decide_eq_true hj)
      · rw [if_neg e, Bool.and_eq_true] at hj
        exact ⟨hl, Hs.ext20 (of_decide_eq_true hj.1), Hs.ext20 (of_decide_eq_true hj.2)⟩
    · rw [if_neg hj] at h
      cases h
theorem sb_le20 (m n : Nat) (h : m ≤ n) : sbN m n ≤ n + 1 := by
  unfold sbN
  by_cases h0 : m = 0
  · rw [if_pos h0]; omega
  · rw [if_neg h0]
    have := sa_le n m true (by omega) h
    omega
set_option maxHeartbeats 2000000 in
theorem joins20 (A0 B0 : List En) (a : Option Addr) (n0 c : Nat) (a2 : Option Addr) (m0 c2 : Nat) (Q : List Hs) (a3 : Option Addr) (k c3 : Nat) (mine : Bool) (w : World) (hA0 : SlY yE w a n0 c A0) (hB0 : SlY yE w a2 m0 c2 B0) (hP : SlY yH w a3 k c3 Q) (hk : k ≤ 4398046510976) (hvA0 : ∀ x ∈ A0, x.o.v.size ≤ 140737488352232) (hvB0 : ∀ x ∈ B0, x.o.v.size ≤ 140737488352232) :
    Calls Try.prog 8 #[.slice a n0 c, .slice a2 m0 c2, .slice a3 k c3, .bool mine] w fun e w' => e = .returned (.bool true) ∧ Below w.heap.size w w' := by
  obtain ⟨n, hn⟩ : ∃ n, n = min n0 200 := ⟨_, rfl⟩
  have hA := hA0.take n (by omega)
  have hvA : ∀ x ∈ A0.take n, x.o.v.size ≤ 140737488352232 := fun x hx => hvA0 x (List.mem_of_mem_take hx)
  obtain ⟨A, hAd⟩ : ∃ A, A = A0.take n := ⟨_, rfl⟩
  rw [← hAd] at hA hvA
  clear hAd
  have hn2 : n ≤ 200 := by omega
  obtain ⟨m, hm⟩ : ∃ m, m = min m0 200 := ⟨_, rfl⟩
  have hB := hB0.take m (by omega)
  have hvB : ∀ x ∈ B0.take m, x.o.v.size ≤ 140737488352232 := fun x hx => hvB0 x (List.mem_of_mem_take hx)
  obtain ⟨B, hBd⟩ : ∃ B, B = B0.take m := ⟨_, rfl⟩
  rw [← hBd] at hB hvB
  clear hBd
  have hm2 : m ≤ 200 := by omega
  go_enter Try.func8, Try.ntmps8
  go_upto_region 0 with fail
  refine wp_region_lit ?_
  refine vl_gen (fun T => Rp T 85 [(3, gw true (.bool (mine))), (2, gw true (.slice a3 k c3)), (1, gw true (.slice a2 m0 c2)), (0, gw true (.slice a n0 c))]) (((((Rp.nil rfl).cons rfl).cons rfl).cons rfl).cons rfl) (fun Z0 q0 => ?_)
  refine q0.t (.bool false) (ex_assign rfl rfl) fun _ q1 => ?_;clear q0
  refine wpList_nil ?_
  go_upto_region 1 with fail
  refine wp_region_lit ?_
  refine q1.t (.slice a n0 c) (ex_move rfl (q1.e (j := 0) rfl)) fun _ q2 => ?_;clear q1
  refine vcallP (want_none rfl) (ex_call rfl (by simp only [List.map_toArray, List.map_cons, List.map_nil, (q2.e (j := 14) rfl), evc] <;> rfl) rfl) (fewN20 A0 a n0 n c w hA0 hn) rfl q2.z (by decide) ?_
  rintro e w1 ⟨rfl, hw1⟩
  refine ⟨_, rfl, q2.k fun _ q3 => ?_⟩;clear q2
  have hw1 := hw1.symm
  subst hw1
  refine q3.t (.slice a n c) (ex_assign rfl (q3.e (j := 15) rfl)) fun _ q4 => ?_;clear q3
  refine wpList_nil ?_
  go_upto_region 2 with fail
  refine wp_region_lit ?_
  refine q4.t (.slice a2 m0 c2) (ex_move rfl (q4.e (j := 1) rfl)) fun _ q5 => ?_;clear q4
  refine vcallP (want_none rfl) (ex_call rfl (by simp only [List.map_toArray, List.map_cons, List.map_nil, (q5.e (j := 16) rfl), evc] <;> rfl) rfl) (fewN20 B0 a2 m0 m c2 w hB0 hm) rfl q5.z (by decide) ?_
  rintro e w2 ⟨rfl, hw2⟩
  refine ⟨_, rfl, q5.k fun _ q6 => ?_⟩;clear q5
  have hw2 := hw2.symm
  subst hw2
  refine q6.t (.slice a2 m c2) (ex_assign rfl (q6.e (j := 17) rfl)) fun _ q7 => ?_;clear q6
  refine wpList_nil ?_
  go_upto_region 3 with fail
  refine wp_region_lit ?_
  refine q7.t (.slice a n c) (ex_move rfl (q7.e (j := 0) rfl)) fun _ q8 => ?_;clear q7
  refine q8.t (.int .i64 ((n : Nat) : Int)) (ex_lenG rfl rfl Try.underlying22 (q8.e (j := 18) rfl)) fun _ q9 => ?_;clear q8
  refine q9.t (.slice a2 m c2) (ex_move rfl (q9.e (j := 1) rfl)) fun _ q10 => ?_;clear q9
  refine q10.t (.int .i64 ((m : Nat) : Int)) (ex_lenG rfl rfl Try.underlying22 (q10.e (j := 20) rfl)) fun _ q11 => ?_;clear q10
  by_cases h22 : m < n
  · refine q11.t (.bool true) (ex_bin rfl (q11.e (j := 19) rfl) (q11.e (j := 21) rfl) (gtT20 _ _ (by omega) _)) fun _ q12 => ?_;clear q11
    refine wpList_nil ?_
    go_upto_region 4 with fail
    refine wp_cond_true (q12.e (j := 22) rfl) ?_
    go_upto_region 4 with fail
    refine wp_region_lit ?_
    refine q12.t (.slice a2 m c2) (ex_move rfl (q12.e (j := 1) rfl)) fun _ q13 => ?_;clear q12
    refine q13.t (.slice a n c) (ex_move rfl (q13.e (j := 0) rfl)) fun _ q14 => ?_;clear q13
    refine q14.t (.slice a2 m c2) (ex_assign rfl (q14.e (j := 23) rfl)) fun _ q15 => ?_;clear q14
    refine q15.t (.slice a n c) (ex_assign rfl (q15.e (j := 24) rfl)) fun _ q16 => ?_;clear q15
    refine wpList_nil ?_
    go_upto_region 5 with fail
    refine wp_region_lit ?_
    refine vcallP (want_none rfl) (ex_call (args := #[]) rfl (by simp) rfl) (works20 w) rfl q16.z (by decide) ?_
    rintro e w3 ⟨rfl, bw3⟩
    refine ⟨_, rfl, q16.k fun _ q17 => ?_⟩;clear q16
    have zw3 := bw3.size
    have d4 : Below w.heap.size w w3 := bw3
    refine q17.t (.bool false) (ex_not rfl (q17.e (j := 25) rfl)) fun _ q18 => ?_;clear q17
    refine wpList_nil ?_
    go_upto_region 7 with fail
    refine wp_cond_false (q18.e (j := 26) rfl) ?_
    go_upto_region 7 with fail
    refine wp_region_lit ?_
    refine q18.t (.bool (mine)) (ex_move rfl (q18.e (j := 3) rfl)) fun _ q19 => ?_;clear q18
    refine wpList_nil ?_
    cases hc27 : mine
    · rw [hc27] at q19
      have hc27h := hide hc27
      clear hc27
      go_upto_region 12 with fail
      refine wp_cond_false (q19.e (j := 27) rfl) ?_
      go_upto_region 12 with fail
      refine wp_region_lit ?_
      refine q19.t (.slice a2 m c2) (ex_move rfl (q19.e (j := 0) rfl)) fun _ q20 => ?_;clear q19
      refine vcallP (want_none rfl) (ex_call rfl (by simp only [List.map_toArray, List.map_cons, List.map_nil, (q20.e (j := 38) rfl), evc] <;> rfl) rfl) (head20 B _ _ _ w3 (hB.later d4) (by omega) hvB) rfl q20.z (by decide) ?_
      rintro e w5 ⟨rfl, bw5⟩
      refine ⟨_, rfl, q20.k fun _ q21 => ?_⟩;clear q20
      have zw5 := bw5.size
      have d6 : Below w.heap.size w w5 := d4.trans (bw5.mono d4.size)
      refine q21.t (.slice a2 m c2) (ex_move rfl (q21.e (j := 0) rfl)) fun _ q22 => ?_;clear q21
      refine q22.t (.int .i64 ((m : Nat) : Int)) (ex_lenG rfl rfl Try.underlying22 (q22.e (j := 40) rfl)) fun _ q23 => ?_;clear q22
      refine q23.t (.slice a n c) (ex_move rfl (q23.e (j := 1) rfl)) fun _ q24 => ?_;clear q23
      refine vcallP (want_none rfl) (ex_call rfl (by simp only [List.map_toArray, List.map_cons, List.map_nil, (q24.e (j := 42) rfl), evc] <;> rfl) rfl) (head20 A _ _ _ w5 (hA.later d6) (by omega) hvA) rfl q24.z (by decide) ?_
      rintro e w7 ⟨rfl, bw7⟩
      refine ⟨_, rfl, q24.k fun _ q25 => ?_⟩;clear q24
      have zw7 := bw7.size
      have d8 : Below w.heap.size w w7 := d6.trans (bw7.mono d6.size)
      refine q25.t (.slice a n c) (ex_move rfl (q25.e (j := 1) rfl)) fun _ q26 => ?_;clear q25
      refine q26.t (.int .i64 ((n : Nat) : Int)) (ex_lenG rfl rfl Try.underlying22 (q26.e (j := 44) rfl)) fun _ q27 => ?_;clear q26
      refine q27.t (.slice a3 k c3) (ex_move rfl (q27.e (j := 2) rfl)) fun _ q28 => ?_;clear q27
      refine vcallP (want_none rfl) (ex_call rfl (by simp only [List.map_toArray, List.map_cons, List.map_nil, (q28.e (j := 39) rfl), (q28.e (j := 41) rfl), (q28.e (j := 43) rfl), (q28.e (j := 45) rfl), (q28.e (j := 46) rfl), evc] <;> rfl) rfl) (extends20 (hd (B.map lf)) ((m : Nat) : Int) (hd (A.map lf)) ((n : Nat) : Int) Q _ _ _ w7 (hP.later d8) (by omega)) rfl q28.z (by decide) ?_
      rintro e w9 ⟨rfl, bw9⟩
      refine ⟨_, rfl, q28.k fun _ q29 => ?_⟩;clear q28
      have zw9 := bw9.size
      have d10 : Below w.heap.size w w9 := d8.trans (bw9.mono d8.size)
      refine q29.t (.bool (!decide ((exR (hd (B.map lf)) ((m : Nat) : Int) (hd (A.map lf)) ((n : Nat) : Int) Q : Int) = 0))) (ex_bin (Y := .int .i64 ((0 : Nat) : Int)) rfl (q29.e (j := 47) rfl) rfl (neEZ20 _ _ _ _ _)) fun _ q30 => ?_;clear q29
      refine wpList_nil ?_
      by_cases hc48 : (exR (hd (B.map lf)) ((m : Nat) : Int) (hd (A.map lf)) ((n : Nat) : Int) Q : Int) = 0
      · rw [decide_eq_true hc48] at q30
        have hc48h := hide hc48
        clear hc48
        go_upto_region 14 with fail
        refine wp_cond_false (q30.e (j := 48) rfl) ?_
        go_upto_region 14 with fail
        refine wp_region_lit ?_
        refine q30.t (.slice a2 m c2) (ex_move rfl (q30.e (j := 0) rfl)) fun _ q31 => ?_;clear q30
        refine q31.t (.slice a n c) (ex_move rfl (q31.e (j := 1) rfl)) fun _ q32 => ?_;clear q31
        refine q32.t (.slice a2 m c2) (ex_move rfl (q32.e (j := 0) rfl)) fun _ q33 => ?_;clear q32
        refine q33.t (.int .i64 ((m : Nat) : Int)) (ex_lenG rfl rfl Try.underlying22 (q33.e (j := 61) rfl)) fun _ q34 => ?_;clear q33
        refine q34.t (.slice a m c) (ex_sl19 rfl (q34.e (j := 60) rfl) rfl (congrArg some (q34.e (j := 62) rfl)) rfl (slToE20A a n c m (by omega) hA.cap (fun e => (hA.nil e).2) _)) fun _ q35 => ?_;clear q34
        refine vcallP (want_none rfl) (ex_call rfl (by simp only [List.map_toArray, List.map_cons, List.map_nil, (q35.e (j := 59) rfl), (q35.e (j := 63) rfl), evc] <;> rfl) rfl) (unlike20 B (A.take m) _ _ _ _ _ w9 (hB.later d10) ((hA.later d10).take m (by omega)) (by omega)) rfl q35.z (by decide) ?_
        rintro e w11 ⟨rfl, bw11⟩
        refine ⟨_, rfl, q35.k fun _ q36 => ?_⟩;clear q35
        have zw11 := bw11.size
        have d12 : Below w.heap.size w w11 := d10.trans (bw11.mono d10.size)
        refine q36.t (.bool (!(!decide (B = A.take m)))) (ex_not rfl (q36.e (j := 64) rfl)) fun _ q37 => ?_;clear q36
        refine wpList_nil ?_
        by_cases hc65 : B = A.take m
        · rw [decide_eq_true hc65] at q37
          have hc65h := hide hc65
          clear hc65
          go_upto_region 15 with fail
          refine wp_cond_true (q37.e (j := 65) rfl) ?_
          go_upto_region 15 with fail
          refine wp_region_lit ?_
          refine q37.t (.bool true) (ex_assign rfl rfl) fun _ q38 => ?_;clear q37
          refine wpList_nil ?_
          go_wp2
          refine bodyPost_ret (results_tmp rfl _ _ _) rfl ?_
          rw [getD_of (q38.a 8 rfl)]
          exact ⟨rfl, d12⟩
        · rw [decide_eq_false hc65] at q37
          have hc65h := hide hc65
          clear hc65
          go_upto_region 16 with fail
          refine wp_cond_false (q37.e (j := 65) rfl) ?_
          have hnz : 1 ≤ m := by
            rcases Nat.eq_zero_or_pos m with e | e
            · exact absurd (by rw [List.eq_nil_of_length_eq_zero (hB.len.trans e), e, List.take_zero]) hc65h.out
            · exact e
          go_upto_region 16 with fail
          refine wp_region_lit ?_
          refine q37.t (.slice a2 m c2) (ex_move rfl (q37.e (j := 0) rfl)) fun _ q38 => ?_;clear q37
          refine q38.t (.int .i64 ((m : Nat) : Int)) (ex_lenG rfl rfl Try.underlying22 (q38.e (j := 66) rfl)) fun _ q39 => ?_;clear q38
          refine q39.t (.slice a n c) (ex_move rfl (q39.e (j := 1) rfl)) fun _ q40 => ?_;clear q39
          refine q40.t (.int .i64 ((n : Nat) : Int)) (ex_lenG rfl rfl Try.underlying22 (q40.e (j := 68) rfl)) fun _ q41 => ?_;clear q40
          by_cases h70 : m = n
          · subst h70
            refine q41.t (.bool true) (ex_bin rfl (q41.e (j := 67) rfl) (q41.e (j := 69) rfl) (eqT20 _ _ (by omega) _)) fun _ q42 => ?_;clear q41
            refine wpList_nil ?_
            go_upto_region 17 with fail
            refine wp_cond_true (q42.e (j := 70) rfl) ?_
            go_upto_region 17 with fail
            refine wp_region_lit ?_
            refine q42.t (.slice a2 m c2) (ex_move rfl (q42.e (j := 0) rfl)) fun _ q43 => ?_;clear q42
            refine q43.t (.slice a m c) (ex_move rfl (q43.e (j := 1) rfl)) fun _ q44 => ?_;clear q43
            refine vcallP (want_none rfl) (ex_call rfl (by simp only [List.map_toArray, List.map_cons, List.map_nil, (q44.e (j := 71) rfl), (q44.e (j := 72) rfl), evc] <;> rfl) rfl) (clash20 B A _ _ _ _ _ w11 (hB.later d12) (hA.later d12) hnz (by omega) ((ex_zero hc48h.out hnz (by omega)).1 rfl) (fun e => hc65h.out (by rw [e, List.take_of_length_le (by rw [hA.len]; omega)])) hvB hvA) rfl q44.z (by decide) ?_
            rintro e w13 ⟨rfl, bw13⟩
            refine ⟨_, rfl, q44.k fun _ q45 => ?_⟩;clear q44
            have zw13 := bw13.size
            have d14 : Below w.heap.size w w13 := d12.trans (bw13.mono d12.size)
            refine q45.t (.bool true) (ex_assign rfl (q45.e (j := 73) rfl)) fun _ q46 => ?_;clear q45
            refine wpList_nil ?_
            go_wp2
            refine bodyPost_ret (results_tmp rfl _ _ _) rfl ?_
            rw [getD_of (q46.a 8 rfl)]
            exact ⟨rfl, d14⟩
          · refine q41.t (.bool false) (ex_bin rfl (q41.e (j := 67) rfl) (q41.e (j := 69) rfl) (eqF20 _ _ (by omega) _)) fun _ q42 => ?_;clear q41
            refine wpList_nil ?_
            go_upto_region 18 with fail
            refine wp_cond_false (q42.e (j := 70) rfl) ?_
            go_upto_region 18 with fail
            refine wp_region_lit ?_
            refine q42.t (.slice a2 m c2) (ex_move rfl (q42.e (j := 0) rfl)) fun _ q43 => ?_;clear q42
            refine q43.t (.slice a n c) (ex_move rfl (q43.e (j := 1) rfl)) fun _ q44 => ?_;clear q43
            refine q44.t (.slice a2 m c2) (ex_move rfl (q44.e (j := 0) rfl)) fun _ q45 => ?_;clear q44
            refine vcallP (want_none rfl) (ex_call rfl (by simp only [List.map_toArray, List.map_cons, List.map_nil, (q45.e (j := 77) rfl), evc] <;> rfl) rfl) (head20 B _ _ _ w11 (hB.later d12) (by omega) hvB) rfl q45.z (by decide) ?_
            rintro e w13 ⟨rfl, bw13⟩
            refine ⟨_, rfl, q45.k fun _ q46 => ?_⟩;clear q45
            have zw13 := bw13.size
            have d14 : Below w.heap.size w w13 := d12.trans (bw13.mono d12.size)
            refine q46.t (.slice a3 k c3) (ex_move rfl (q46.e (j := 2) rfl)) fun _ q47 => ?_;clear q46
            have hz := (ex_zero hc48h.out hnz (by omega)).2 h70
            obtain ⟨F, hF, cF⟩ := steps_ex n B A true (hd (B.map lf)) Q m n k hB.len hA.len hP.len (Nat.le_refl _) hnz (by omega) (by omega) (hP.len.symm.trans hz.1) hvB hvA
            have HZ := hide hz
            clear hz
            refine vcallP (want_none rfl) (ex_call rfl (by simp only [List.map_toArray, List.map_cons, List.map_nil, (q47.e (j := 75) rfl), (q47.e (j := 76) rfl), (q47.e (j := 78) rfl), (q47.e (j := 79) rfl), evc] <;> rfl) rfl) (cF _ _ _ _ _ _ w13 (hB.later d14) (hA.later d14) (hP.later d14)) rfl q47.z (by decide) ?_
            rintro e w15 ⟨rfl, bw15⟩
            refine ⟨_, rfl, q47.k fun _ q48 => ?_⟩;clear q47
            have zw15 := bw15.size
            have d16 : Below w.heap.size w w15 := d14.trans (bw15.mono d14.size)
            refine q48.t (.tuple #[((cb (hd (B.map lf)) m n true Q).1).val, ((cb (hd (B.map lf)) m n true Q).2).val, .bool (F)]) (ex_move rfl (q48.e (j := 80) rfl)) fun _ q49 => ?_;clear q48
            refine q49.t (((cb (hd (B.map lf)) m n true Q).1).val) (ex_ext18 rfl (q49.e (j := 74) rfl) rfl) fun _ q50 => ?_;clear q49
            refine q50.t (((cb (hd (B.map lf)) m n true Q).2).val) (ex_ext18 rfl (q50.e (j := 74) rfl) rfl) fun _ q51 => ?_;clear q50
            refine q51.t (.bool (F)) (ex_ext18 rfl (q51.e (j := 74) rfl) rfl) fun _ q52 => ?_;clear q51
            obtain ⟨w17, hw17⟩ : ∃ y, y = w15.alloc (.cells (zH.cs).toArray 24) := ⟨_, rfl⟩
            refine vw (.pointer (some ⟨w15.heap.size, 0, none⟩)) w17 (want_none rfl) (ex_al rfl (by rw [hw17]; exact alH _)) rfl q52.z (by decide) (q52.k fun _ q53 => ?_);clear q52
            have Bw17 : BB w17 w15.heap.size 24 (zH.cs) := by rw [hw17]; exact BB.new _ _ _
            have bw17 : Below w15.heap.size w15 w17 := by rw [hw17]; exact (Below.refl _ _).alloc (Nat.le_refl _) _
            have zw17 : w17.heap.size = w15.heap.size + 1 := by rw [hw17]; exact World.size_alloc _ _
            clear hw17
            have d18 : Below w.heap.size w w17 := d16.trans (bw17.mono d16.size)
            obtain ⟨w19, hw19⟩ : ∃ y, y = w17.alloc (.cells (zH.cs).toArray 24) := ⟨_, rfl⟩
            refine vw (.pointer (some ⟨w17.heap.size, 0, none⟩)) w19 (want_none rfl) (ex_al rfl (by rw [hw19]; exact alH _)) rfl q53.z (by decide) (q53.k fun _ q54 => ?_);clear q53
            have Bw19 : BB w19 w17.heap.size 24 (zH.cs) := by rw [hw19]; exact BB.new _ _ _
            have bw19 : Below w17.heap.size w17 w19 := by rw [hw19]; exact (Below.refl _ _).alloc (Nat.le_refl _) _
            have zw19 : w19.heap.size = w17.heap.size + 1 := by rw [hw19]; exact World.size_alloc _ _
            clear hw19
            have d20 : Below w.heap.size w w19 := d18.trans (bw19.mono d18.size)
            have B21 : BB w19 w15.heap.size 24 (zH.cs) := (Bw17.later bw19)
            obtain ⟨w22, hw22⟩ : ∃ y, y = w19.setCells w15.heap.size 0 (((cb (hd (B.map lf)) m n true Q).1).cs) := ⟨_, rfl⟩
            refine vs w22 (want_none rfl) (ex_st rfl (q54.e (j := 11) rfl) (q54.e (j := 81) rfl) (by rw [hw22]; exact B21.stH rfl _)) rfl ?_
            have Bw22 : BB w22 w15.heap.size 24 (((cb (hd (B.map lf)) m n true Q).1).cs) := by rw [hw22]; exact B21.putH rfl _
            have uw22 : Upd (fun k => k = w15.heap.size) w19 w22 := by rw [hw22]; exact upd18 _ _ _ _
            clear hw22
            have zw22 := uw22.size
            have d23 : Below w.heap.size w w22 := d20.trans (bel_ge uw22 d20.size (by omega))
            have B24 : BB w22 w17.heap.size 24 (zH.cs) := (Bw19.upd uw22 (show ¬ w17.heap.size = w15.heap.size by omega))
            obtain ⟨w25, hw25⟩ : ∃ y, y = w22.setCells w17.heap.size 0 (((cb (hd (B.map lf)) m n true Q).2).cs) := ⟨_, rfl⟩
            refine vs w25 (want_none rfl) (ex_st rfl (q54.e (j := 12) rfl) (q54.e (j := 82) rfl) (by rw [hw25]; exact B24.stH rfl _)) rfl ?_
            have Bw25 : BB w25 w17.heap.size 24 (((cb (hd (B.map lf)) m n true Q).2).cs) := by rw [hw25]; exact B24.putH rfl _
            have uw25 : Upd (fun k => k = w17.heap.size) w22 w25 := by rw [hw25]; exact upd18 _ _ _ _
            clear hw25
            have zw25 := uw25.size
            have d26 : Below w.heap.size w w25 := d23.trans (bel_ge uw25 d23.size (by omega))
            refine q54.t (.bool (F)) (ex_assign rfl (q54.e (j := 83) rfl)) fun _ q55 => ?_;clear q54
            refine wpList_nil ?_
            go_upto_region 19 with fail
            refine wp_region_lit ?_
            refine q55.t (.bool (F)) (ex_move rfl (q55.e (j := 13) rfl)) fun _ q56 => ?_;clear q55
            refine q56.t (.bool (F)) (ex_assign rfl (q56.e (j := 84) rfl)) fun _ q57 => ?_;clear q56
            refine wpList_nil ?_
            go_wp2
            refine bodyPost_ret (results_tmp rfl _ _ _) rfl ?_
            rw [getD_of (q57.a 8 rfl)]
            exact ⟨by rw [hF HZ.out.2.1 HZ.out.2.2 hc65h.out]; rfl, d26⟩
      · rw [decide_eq_false hc48] at q30
        have hc48h := hide hc48
        clear hc48
        go_upto_region 13 with fail
        refine wp_cond_true (q30.e (j := 48) rfl) ?_
        go_upto_region 13 with fail
        refine wp_region_lit ?_
        refine q30.t (.bool false) (ex_move rfl (q30.e (j := 3) rfl)) fun _ q31 => ?_;clear q30
        refine q31.t (.bool true) (ex_not rfl (q31.e (j := 49) rfl)) fun _ q32 => ?_;clear q31
        refine q32.t (.bool true) (ex_move rfl (q32.e (j := 50) rfl)) fun _ q33 => ?_;clear q32
        refine vl ((true && (true == false))) (undef) (want_g rfl rfl (q33.a 51 rfl)) (fun hc => absurd hc (by decide)) rfl q33.z (by decide) (q33.k fun _ q34 => ?_);clear q33
        refine vl ((true && (true == false))) (undef) (want_g rfl rfl (q34.a 51 rfl)) (fun hc => absurd hc (by decide)) rfl q34.z (by decide) (q34.k fun _ q35 => ?_);clear q34
        refine vl ((true && (true == false))) (undef) (want_g rfl rfl (q35.a 51 rfl)) (fun hc => absurd hc (by decide)) rfl q35.z (by decide) (q35.k fun _ q36 => ?_);clear q35
        refine vl ((true && (true == false))) (undef) (want_g rfl rfl (q36.a 51 rfl)) (fun hc => absurd hc (by decide)) rfl q36.z (by decide) (q36.k fun _ q37 => ?_);clear q36
        refine vl ((true && (true == false))) (undef) (want_g rfl rfl (q37.a 51 rfl)) (fun hc => absurd hc (by decide)) rfl q37.z (by decide) (q37.k fun _ q38 => ?_);clear q37
        refine vl ((true && (true == false))) (.bool false) (want_g rfl rfl (q38.a 51 rfl)) (fun hc => absurd hc (by decide)) rfl q38.z (by decide) (q38.k fun _ q39 => ?_);clear q38
        refine q39.t (.bool true) (ex_or (c := true) (b := true) (z := false) rfl (q39.a 51 rfl) (q39.a 57 rfl) rfl) fun _ q40 => ?_;clear q39
        refine q40.t (.bool true) (ex_assign rfl (q40.e (j := 58) rfl)) fun _ q41 => ?_;clear q40
        refine wpList_nil ?_
        go_wp2
        refine bodyPost_ret (results_tmp rfl _ _ _) rfl ?_
        rw [getD_of (q41.a 8 rfl)]
        exact ⟨rfl, d10⟩
    · rw [hc27] at q19
      have hc27h := hide hc27
      clear hc27
      go_upto_region 8 with fail
      refine wp_cond_true (q19.e (j := 27) rfl) ?_
      go_upto_region 8 with fail
      refine wp_region_lit ?_
      refine q19.t (.slice a n c) (ex_move rfl (q19.e (j := 1) rfl)) fun _ q20 => ?_;clear q19
      refine q20.t (.slice a2 m c2) (ex_move rfl (q20.e (j := 0) rfl)) fun _ q21 => ?_;clear q20
      refine q21.t (.int .i64 ((m : Nat) : Int)) (ex_lenG rfl rfl Try.underlying22 (q21.e (j := 30) rfl)) fun _ q22 => ?_;clear q21
      have hcs : csR (A.map lf) ((m : Nat) : Int) = (csP (A.map lf) m, 0) := csR_ok (by rw [List.length_map, hA.len]; omega)
      refine vcallP (want_none rfl) (ex_call rfl (by simp only [List.map_toArray, List.map_cons, List.map_nil, (q22.e (j := 29) rfl), (q22.e (j := 31) rfl), evc] <;> rfl) rfl) (consist20 A _ _ _ ((m : Nat) : Int) w3 (hA.later d4) (by omega) hvA) rfl q22.z (by decide) ?_
      rintro e w5 ⟨v3, rfl, o3, bw5⟩
      refine ⟨_, rfl, q22.k fun _ q23 => ?_⟩;clear q22
      have zw5 := bw5.size
      have d6 : Below w.heap.size w w5 := d4.trans (bw5.mono d4.size)
      rw [hcs] at o3 q23
      obtain ⟨a4, c4, hv4, s4, _⟩ := o3.sl kH
      subst hv4
      obtain ⟨P, hPd⟩ : ∃ P, P = csP (A.map lf) m := ⟨_, rfl⟩
      have s4 : SlY yH _ a4 (csP (A.map lf) m).length c4 (csP (A.map lf) m) := s4
      rw [← hPd] at s4
      have eT : (.tuple #[.slice a4 ((csP (A.map lf) m, (0 : Int)).1).length c4, .int .i64 ((csP (A.map lf) m, (0 : Int)).2)] : Value) = .tuple #[.slice a4 P.length c4, .int .i64 0] := by rw [hPd]
      rw [eT] at q23
      have hPl : P.length ≤ 1000000 := by rw [hPd, csP_len (by rw [List.length_map, hA.len]; omega), List.length_map, hA.len]; have := sb_le20 m n (by omega); omega
      have HPd := hide hPd
      clear hPd
      refine q23.t (.tuple #[.slice a4 P.length c4, .int .i64 (0 : Int)]) (ex_move rfl (q23.e (j := 32) rfl)) fun _ q24 => ?_;clear q23
      refine q24.t (.slice a4 P.length c4) (ex_ext18 rfl (q24.e (j := 28) rfl) rfl) fun _ q25 => ?_;clear q24
      refine q25.t (.int .i64 (0 : Int)) (ex_ext18 rfl (q25.e (j := 28) rfl) rfl) fun _ q26 => ?_;clear q25
      refine q26.t (.slice a4 P.length c4) (ex_assign rfl (q26.e (j := 33) rfl)) fun _ q27 => ?_;clear q26
      refine q27.t (.int .i64 (0 : Int)) (ex_assign rfl (q27.e (j := 34) rfl)) fun _ q28 => ?_;clear q27
      refine wpList_nil ?_
      go_upto_region 9 with fail
      refine wp_region_lit ?_
      refine q28.t (.int .i64 (0 : Int)) (ex_move rfl (q28.e (j := 10) rfl)) fun _ q29 => ?_;clear q28
      refine q29.t (.bool false) (ex_bin (Y := .int .i64 ((0 : Nat) : Int)) rfl (q29.e (j := 35) rfl) rfl (neEF _ _ _ _)) fun _ q30 => ?_;clear q29
      refine wpList_nil ?_
      go_upto_region 11 with fail
      refine wp_cond_false (q30.e (j := 36) rfl) ?_
      go_upto_region 11 with fail
      refine wp_region_lit ?_
      refine q30.t (.slice a4 P.length c4) (ex_move rfl (q30.e (j := 9) rfl)) fun _ q31 => ?_;clear q30
      refine q31.t (.slice a4 P.length c4) (ex_assign rfl (q31.e (j := 37) rfl)) fun _ q32 => ?_;clear q31
      refine wpList_nil ?_
      go_upto_region 12 with fail
      refine wp_region_lit ?_
      refine q32.t (.slice a2 m c2) (ex_move rfl (q32.e (j := 0) rfl)) fun _ q33 => ?_;clear q32
      refine vcallP (want_none rfl) (ex_call rfl (by simp only [List.map_toArray, List.map_cons, List.map_nil, (q33.e (j := 38) rfl), evc] <;> rfl) rfl) (head20 B _ _ _ w5 (hB.later d6) (by omega) hvB) rfl q33.z (by decide) ?_
      rintro e w7 ⟨rfl, bw7⟩
      refine ⟨_, rfl, q33.k fun _ q34 => ?_⟩;clear q33
      have zw7 := bw7.size
      have d8 : Below w.heap.size w w7 := d6.trans (bw7.mono d6.size)
      refine q34.t (.slice a2 m c2) (ex_move rfl (q34.e (j := 0) rfl)) fun _ q35 => ?_;clear q34
      refine q35.t (.int .i64 ((m : Nat) : Int)) (ex_lenG rfl rfl Try.underlying22 (q35.e (j := 40) rfl)) fun _ q36 => ?_;clear q35
      refine q36.t (.slice a n c) (ex_move rfl (q36.e (j := 1) rfl)) fun _ q37 => ?_;clear q36
      refine vcallP (want_none rfl) (ex_call rfl (by simp only [List.map_toArray, List.map_cons, List.map_nil, (q37.e (j := 42) rfl), evc] <;> rfl) rfl) (head20 A _ _ _ w7 (hA.later d8) (by omega) hvA) rfl q37.z (by decide) ?_
      rintro e w9 ⟨rfl, bw9⟩
      refine ⟨_, rfl, q37.k fun _ q38 => ?_⟩;clear q37
      have zw9 := bw9.size
      have d10 : Below w.heap.size w w9 := d8.trans (bw9.mono d8.size)
      refine q38.t (.slice a n c) (ex_move rfl (q38.e (j := 1) rfl)) fun _ q39 => ?_;clear q38
      refine q39.t (.int .i64 ((n : Nat) : Int)) (ex_lenG rfl rfl Try.underlying22 (q39.e (j := 44) rfl)) fun _ q40 => ?_;clear q39
      refine q40.t (.slice a4 P.length c4) (ex_move rfl (q40.e (j := 2) rfl)) fun _ q41 => ?_;clear q40
      refine vcallP (want_none rfl) (ex_call rfl (by simp only [List.map_toArray, List.map_cons, List.map_nil, (q41.e (j := 39) rfl), (q41.e (j := 41) rfl), (q41.e (j := 43) rfl), (q41.e (j := 45) rfl), (q41.e (j := 46) rfl), evc] <;> rfl) rfl) (extends20 (hd (B.map lf)) ((m : Nat) : Int) (hd (A.map lf)) ((n : Nat) : Int) P _ _ _ w9 ((s4.later bw7).later bw9) (by omega)) rfl q41.z (by decide) ?_
      rintro e w11 ⟨rfl, bw11⟩
      refine ⟨_, rfl, q41.k fun _ q42 => ?_⟩;clear q41
      have zw11 := bw11.size
      have d12 : Below w.heap.size w w11 := d10.trans (bw11.mono d10.size)
      refine q42.t (.bool (!decide ((exR (hd (B.map lf)) ((m : Nat) : Int) (hd (A.map lf)) ((n : Nat) : Int) P : Int) = 0))) (ex_bin (Y := .int .i64 ((0 : Nat) : Int)) rfl (q42.e (j := 47) rfl) rfl (neEZ20 _ _ _ _ _)) fun _ q43 => ?_;clear q42
      refine wpList_nil ?_
      by_cases hc48 : (exR (hd (B.map lf)) ((m : Nat) : Int) (hd (A.map lf)) ((n : Nat) : Int) P : Int) = 0
      · rw [decide_eq_true hc48] at q43
        have hc48h := hide hc48
        clear hc48
        go_upto_region 14 with fail
        refine wp_cond_false (q43.e (j := 48) rfl) ?_
        go_upto_region 14 with fail
        refine wp_region_lit ?_
        refine q43.t (.slice a2 m c2) (ex_move rfl (q43.e (j := 0) rfl)) fun _ q44 => ?_;clear q43
        refine q44.t (.slice a n c) (ex_move rfl (q44.e (j := 1) rfl)) fun _ q45 => ?_;clear q44
        refine q45.t (.slice a2 m c2) (ex_move rfl (q45.e (j := 0) rfl)) fun _ q46 => ?_;clear q45
        refine q46.t (.int .i64 ((m : Nat) : Int)) (ex_lenG rfl rfl Try.underlying22 (q46.e (j := 61) rfl)) fun _ q47 => ?_;clear q46
        refine q47.t (.slice a m c) (ex_sl19 rfl (q47.e (j := 60) rfl) rfl (congrArg some (q47.e (j := 62) rfl)) rfl (slToE20A a n c m (by omega) hA.cap (fun e => (hA.nil e).2) _)) fun _ q48 => ?_;clear q47
        refine vcallP (want_none rfl) (ex_call rfl (by simp only [List.map_toArray, List.map_cons, List.map_nil, (q48.e (j := 59) rfl), (q48.e (j := 63) rfl), evc] <;> rfl) rfl) (unlike20 B (A.take m) _ _ _ _ _ w11 (hB.later d12) ((hA.later d12).take m (by omega)) (by omega)) rfl q48.z (by decide) ?_
        rintro e w13 ⟨rfl, bw13⟩
        refine ⟨_, rfl, q48.k fun _ q49 => ?_⟩;clear q48
        have zw13 := bw13.size
        have d14 : Below w.heap.size w w13 := d12.trans (bw13.mono d12.size)
        refine q49.t (.bool (!(!decide (B = A.take m)))) (ex_not rfl (q49.e (j := 64) rfl)) fun _ q50 => ?_;clear q49
        refine wpList_nil ?_
        by_cases hc65 : B = A.take m
        · rw [decide_eq_true hc65] at q50
          have hc65h := hide hc65
          clear hc65
          go_upto_region 15 with fail
          refine wp_cond_true (q50.e (j := 65) rfl) ?_
          go_upto_region 15 with fail
          refine wp_region_lit ?_
          refine q50.t (.bool true) (ex_assign rfl rfl) fun _ q51 => ?_;clear q50
          refine wpList_nil ?_
          go_wp2
          refine bodyPost_ret (results_tmp rfl _ _ _) rfl ?_
          rw [getD_of (q51.a 8 rfl)]
          exact ⟨rfl, d14⟩
        · rw [decide_eq_false hc65] at q50
          have hc65h := hide hc65
          clear hc65
          go_upto_region 16 with fail
          refine wp_cond_false (q50.e (j := 65) rfl) ?_
          have hnz : 1 ≤ m := by
            rcases Nat.eq_zero_or_pos m with e | e
            · exact absurd (by rw [List.eq_nil_of_length_eq_zero (hB.len.trans e), e, List.take_zero]) hc65h.out
            · exact e
          go_upto_region 16 with fail
          refine wp_region_lit ?_
          refine q50.t (.slice a2 m c2) (ex_move rfl (q50.e (j := 0) rfl)) fun _ q51 => ?_;clear q50
          refine q51.t (.int .i64 ((m : Nat) : Int)) (ex_lenG rfl rfl Try.underlying22 (q51.e (j := 66) rfl)) fun _ q52 => ?_;clear q51
          refine q52.t (.slice a n c) (ex_move rfl (q52.e (j := 1) rfl)) fun _ q53 => ?_;clear q52
          refine q53.t (.int .i64 ((n : Nat) : Int)) (ex_lenG rfl rfl Try.underlying22 (q53.e (j := 68) rfl)) fun _ q54 => ?_;clear q53
          by_cases h70 : m = n
          · subst h70
            refine q54.t (.bool true) (ex_bin rfl (q54.e (j := 67) rfl) (q54.e (j := 69) rfl) (eqT20 _ _ (by omega) _)) fun _ q55 => ?_;clear q54
            refine wpList_nil ?_
            go_upto_region 17 with fail
            refine wp_cond_true (q55.e (j := 70) rfl) ?_
            go_upto_region 17 with fail
            refine wp_region_lit ?_
            refine q55.t (.slice a2 m c2) (ex_move rfl (q55.e (j := 0) rfl)) fun _ q56 => ?_;clear q55
            refine q56.t (.slice a m c) (ex_move rfl (q56.e (j := 1) rfl)) fun _ q57 => ?_;clear q56
            refine vcallP (want_none rfl) (ex_call rfl (by simp only [List.map_toArray, List.map_cons, List.map_nil, (q57.e (j := 71) rfl), (q57.e (j := 72) rfl), evc] <;> rfl) rfl) (clash20 B A _ _ _ _ _ w13 (hB.later d14) (hA.later d14) hnz (by omega) ((ex_zero hc48h.out hnz (by omega)).1 rfl) (fun e => hc65h.out (by rw [e, List.take_of_length_le (by rw [hA.len]; omega)])) hvB hvA) rfl q57.z (by decide) ?_
            rintro e w15 ⟨rfl, bw15⟩
            refine ⟨_, rfl, q57.k fun _ q58 => ?_⟩;clear q57
            have zw15 := bw15.size
            have d16 : Below w.heap.size w w15 := d14.trans (bw15.mono d14.size)
            refine q58.t (.bool true) (ex_assign rfl (q58.e (j := 73) rfl)) fun _ q59 => ?_;clear q58
            refine wpList_nil ?_
            go_wp2
            refine bodyPost_ret (results_tmp rfl _ _ _) rfl ?_
            rw [getD_of (q59.a 8 rfl)]
            exact ⟨rfl, d16⟩
          · refine q54.t (.bool false) (ex_bin rfl (q54.e (j := 67) rfl) (q54.e (j := 69) rfl) (eqF20 _ _ (by omega) _)) fun _ q55 => ?_;clear q54
            refine wpList_nil ?_
            go_upto_region 18 with fail
            refine wp_cond_false (q55.e (j := 70) rfl) ?_
            go_upto_region 18 with fail
            refine wp_region_lit ?_
            refine q55.t (.slice a2 m c2) (ex_move rfl (q55.e (j := 0) rfl)) fun _ q56 => ?_;clear q55
            refine q56.t (.slice a n c) (ex_move rfl (q56.e (j := 1) rfl)) fun _ q57 => ?_;clear q56
            refine q57.t (.slice a2 m c2) (ex_move rfl (q57.e (j := 0) rfl)) fun _ q58 => ?_;clear q57
            refine vcallP (want_none rfl) (ex_call rfl (by simp only [List.map_toArray, List.map_cons, List.map_nil, (q58.e (j := 77) rfl), evc] <;> rfl) rfl) (head20 B _ _ _ w13 (hB.later d14) (by omega) hvB) rfl q58.z (by decide) ?_
            rintro e w15 ⟨rfl, bw15⟩
            refine ⟨_, rfl, q58.k fun _ q59 => ?_⟩;clear q58
            have zw15 := bw15.size
            have d16 : Below w.heap.size w w15 := d14.trans (bw15.mono d14.size)
            refine q59.t (.slice a4 P.length c4) (ex_move rfl (q59.e (j := 2) rfl)) fun _ q60 => ?_;clear q59
            have hz := (ex_zero hc48h.out hnz (by omega)).2 h70
            obtain ⟨F, hF, cF⟩ := steps_ex n B A true (hd (B.map lf)) P m n P.length hB.len hA.len rfl (Nat.le_refl _) hnz (by omega) (by omega) (hz.1) hvB hvA
            have HZ := hide hz
            clear hz
            refine vcallP (want_none rfl) (ex_call rfl (by simp only [List.map_toArray, List.map_cons, List.map_nil, (q60.e (j := 75) rfl), (q60.e (j := 76) rfl), (q60.e (j := 78) rfl), (q60.e (j := 79) rfl), evc] <;> rfl) rfl) (cF _ _ _ _ _ _ w15 (hB.later d16) (hA.later d16) (((((s4.later bw7).later bw9).later bw11).later bw13).later bw15)) rfl q60.z (by decide) ?_
            rintro e w17 ⟨rfl, bw17⟩
            refine ⟨_, rfl, q60.k fun _ q61 => ?_⟩;clear q60
            have zw17 := bw17.size
            have d18 : Below w.heap.size w w17 := d16.trans (bw17.mono d16.size)
            refine q61.t (.tuple #[((cb (hd (B.map lf)) m n true P).1).val, ((cb (hd (B.map lf)) m n true P).2).val, .bool (F)]) (ex_move rfl (q61.e (j := 80) rfl)) fun _ q62 => ?_;clear q61
            refine q62.t (((cb (hd (B.map lf)) m n true P).1).val) (ex_ext18 rfl (q62.e (j := 74) rfl) rfl) fun _ q63 => ?_;clear q62
            refine q63.t (((cb (hd (B.map lf)) m n true P).2).val) (ex_ext18 rfl (q63.e (j := 74) rfl) rfl) fun _ q64 => ?_;clear q63
            refine q64.t (.bool (F)) (ex_ext18 rfl (q64.e (j := 74) rfl) rfl) fun _ q65 => ?_;clear q64
            obtain ⟨w19, hw19⟩ : ∃ y, y = w17.alloc (.cells (zH.cs).toArray 24) := ⟨_, rfl⟩
            refine vw (.pointer (some ⟨w17.heap.size, 0, none⟩)) w19 (want_none rfl) (ex_al rfl (by rw [hw19]; exact alH _)) rfl q65.z (by decide) (q65.k fun _ q66 => ?_);clear q65
            have Bw19 : BB w19 w17.heap.size 24 (zH.cs) := by rw [hw19]; exact BB.new _ _ _
            have bw19 : Below w17.heap.size w17 w19 := by rw [hw19]; exact (Below.refl _ _).alloc (Nat.le_refl _) _
            have zw19 : w19.heap.size = w17.heap.size + 1 := by rw [hw19]; exact World.size_alloc _ _
            clear hw19
            have d20 : Below w.heap.size w w19 := d18.trans (bw19.mono d18.size)
            obtain ⟨w21, hw21⟩ : ∃ y, y = w19.alloc (.cells (zH.cs).toArray 24) := ⟨_, rfl⟩
            refine vw (.pointer (some ⟨w19.heap.size, 0, none⟩)) w21 (want_none rfl) (ex_al rfl (by rw [hw21]; exact alH _)) rfl q66.z (by decide) (q66.k fun _ q67 => ?_);clear q66
            have Bw21 : BB w21 w19.heap.size 24 (zH.cs) := by rw [hw21]; exact BB.new _ _ _
            have bw21 : Below w19.heap.size w19 w21 := by rw [hw21]; exact (Below.refl _ _).alloc (Nat.le_refl _) _
            have zw21 : w21.heap.size = w19.heap.size + 1 := by rw [hw21]; exact World.size_alloc _ _
            clear hw21
            have d22 : Below w.heap.size w w21 := d20.trans (bw21.mono d20.size)
            have B23 : BB w21 w17.heap.size 24 (zH.cs) := (Bw19.later bw21)
            obtain ⟨w24, hw24⟩ : ∃ y, y = w21.setCells w17.heap.size 0 (((cb (hd (B.map lf)) m n true P).1).cs) := ⟨_, rfl⟩
            refine vs w24 (want_none rfl) (ex_st rfl (q67.e (j := 11) rfl) (q67.e (j := 81) rfl) (by rw [hw24]; exact B23.stH rfl _)) rfl ?_
            have Bw24 : BB w24 w17.heap.size 24 (((cb (hd (B.map lf)) m n true P).1).cs) := by rw [hw24]; exact B23.putH rfl _
            have uw24 : Upd (fun k => k = w17.heap.size) w21 w24 := by rw [hw24]; exact upd18 _ _ _ _
            clear hw24
            have zw24 := uw24.size
            have d25 : Below w.heap.size w w24 := d22.trans (bel_ge uw24 d22.size (by omega))
            have B26 : BB w24 w19.heap.size 24 (zH.cs) := (Bw21.upd uw24 (show ¬ w19.heap.size = w17.heap.size by omega))
            obtain ⟨w27, hw27⟩ : ∃ y, y = w24.setCells w19.heap.size 0 (((cb (hd (B.map lf)) m n true P).2).cs) := ⟨_, rfl⟩
            refine vs w27 (want_none rfl) (ex_st rfl (q67.e (j := 12) rfl) (q67.e (j := 82) rfl) (by rw [hw27]; exact B26.stH rfl _)) rfl ?_
            have Bw27 : BB w27 w19.heap.size 24 (((cb (hd (B.map lf)) m n true P).2).cs) := by rw [hw27]; exact B26.putH rfl _
            have uw27 : Upd (fun k => k = w19.heap.size) w24 w27 := by rw [hw27]; exact upd18 _ _ _ _
            clear hw27
            have zw27 := uw27.size
            have d28 : Below w.heap.size w w27 := d25.trans (bel_ge uw27 d25.size (by omega))
            refine q67.t (.bool (F)) (ex_assign rfl (q67.e (j := 83) rfl)) fun _ q68 => ?_;clear q67
            refine wpList_nil ?_
            go_upto_region 19 with fail
            refine wp_region_lit ?_
            refine q68.t (.bool (F)) (ex_move rfl (q68.e (j := 13) rfl)) fun _ q69 => ?_;clear q68
            refine q69.t (.bool (F)) (ex_assign rfl (q69.e (j := 84) rfl)) fun _ q70 => ?_;clear q69
            refine wpList_nil ?_
            go_wp2
            refine bodyPost_ret (results_tmp rfl _ _ _) rfl ?_
            rw [getD_of (q70.a 8 rfl)]
            exact ⟨by rw [hF HZ.out.2.1 HZ.out.2.2 hc65h.out]; rfl, d28⟩
      · rw [decide_eq_false hc48] at q43
        have hc48h := hide hc48
        clear hc48
        go_upto_region 13 with fail
        refine wp_cond_true (q43.e (j := 48) rfl) ?_
        go_upto_region 13 with fail
        refine wp_region_lit ?_
        refine q43.t (.bool true) (ex_move rfl (q43.e (j := 3) rfl)) fun _ q44 => ?_;clear q43
        refine q44.t (.bool false) (ex_not rfl (q44.e (j := 49) rfl)) fun _ q45 => ?_;clear q44
        refine q45.t (.bool false) (ex_move rfl (q45.e (j := 50) rfl)) fun _ q46 => ?_;clear q45
        refine vl ((true && (false == false))) (.slice a2 m c2) (want_g rfl rfl (q46.a 51 rfl)) (fun hc => ex_move rfl (q46.e (j := 0) rfl)) rfl q46.z (by decide) (q46.k fun _ q47 => ?_);clear q46
        refine vl ((true && (false == false))) (.slice a n c) (want_g rfl rfl (q47.a 51 rfl)) (fun hc => ex_move rfl (q47.e (j := 1) rfl)) rfl q47.z (by decide) (q47.k fun _ q48 => ?_);clear q47
        refine vl ((true && (false == false))) (.slice a2 m c2) (want_g rfl rfl (q48.a 51 rfl)) (fun hc => ex_move rfl (q48.e (j := 0) rfl)) rfl q48.z (by decide) (q48.k fun _ q49 => ?_);clear q48
        refine vl ((true && (false == false))) (.int .i64 ((m : Nat) : Int)) (want_g rfl rfl (q49.a 51 rfl)) (fun hc => ex_lenG rfl rfl Try.underlying22 (ev (q49.a 54 rfl) hc)) rfl q49.z (by decide) (q49.k fun _ q50 => ?_);clear q49
        refine vl ((true && (false == false))) (.slice a m c) (want_g rfl rfl (q50.a 51 rfl)) (fun hc => ex_sl19 rfl (ev (q50.a 53 rfl) hc) rfl (congrArg some (ev (q50.a 55 rfl) hc)) rfl (slToE20A a n c m (by omega) hA.cap (fun e => (hA.nil e).2) _)) rfl q50.z (by decide) (q50.k fun _ q51 => ?_);clear q50
        refine vcallP (show Region.wanted _ _ = (true && (false == false)) from want_g rfl rfl (q51.a 51 rfl)) (ex_call rfl (by simp only [List.map_toArray, List.map_cons, List.map_nil, (q51.e (j := 52) rfl), (q51.e (j := 56) rfl), evc] <;> rfl) rfl) (unlike20 B (A.take m) _ _ _ _ _ w11 (hB.later d12) ((hA.later d12).take m (by omega)) (by omega)) rfl q51.z (by decide) ?_
        rintro e w13 ⟨rfl, bw13⟩
        refine ⟨_, rfl, q51.k fun _ q52 => ?_⟩;clear q51
        have zw13 := bw13.size
        have d14 : Below w.heap.size w w13 := d12.trans (bw13.mono d12.size)
        refine q52.t (.bool (!decide (B = A.take m))) (ex_or (c := true) (b := false) (z := (!decide (B = A.take m))) rfl (q52.a 51 rfl) (q52.a 57 rfl) rfl) fun _ q53 => ?_;clear q52
        refine q53.t (.bool (!decide (B = A.take m))) (ex_assign rfl (q53.e (j := 58) rfl)) fun _ q54 => ?_;clear q53
        refine wpList_nil ?_
        go_wp2
        refine bodyPost_ret (results_tmp rfl _ _ _) rfl ?_
        rw [getD_of (q54.a 8 rfl)]
        exact ⟨by rw [decide_eq_false (fun e => hc48h.out (by rw [e, HPd.out]; have := ex_ok (L := A.map lf) (m := m) (by rw [List.length_map, hA.len]; omega); rw [List.length_map, hA.len, ← List.map_take] at this; exact this))]; rfl, d14⟩
  · refine q11.t (.bool false) (ex_bin rfl (q11.e (j := 19) rfl) (q11.e (j := 21) rfl) (gtF20 _ _ (by omega) _)) fun _ q12 => ?_;clear q11
    refine wpList_nil ?_
    go_upto_region 5 with fail
    refine wp_cond_false (q12.e (j := 22) rfl) ?_
    go_upto_region 5 with fail
    refine wp_region_lit ?_
    refine vcallP (want_none rfl) (ex_call (args := #[]) rfl (by simp) rfl) (works20 w) rfl q12.z (by decide) ?_
    rintro e w3 ⟨rfl, bw3⟩
    refine ⟨_, rfl, q12.k fun _ q13 => ?_⟩;clear q12
    have zw3 := bw3.size
    have d4 : Below w.heap.size w w3 := bw3
    refine q13.t (.bool false) (ex_not rfl (q13.e (j := 25) rfl)) fun _ q14 => ?_;clear q13
    refine wpList_nil ?_
    go_upto_region 7 with fail
    refine wp_cond_false (q14.e (j := 26) rfl) ?_
    go_upto_region 7 with fail
    refine wp_region_lit ?_
    refine q14.t (.bool (mine)) (ex_move rfl (q14.e (j := 3) rfl)) fun _ q15 => ?_;clear q14
    refine wpList_nil ?_
    cases hc27 : mine
    · rw [hc27] at q15
      have hc27h := hide hc27
      clear hc27
      go_upto_region 12 with fail
      refine wp_cond_false (q15.e (j := 27) rfl) ?_
      go_upto_region 12 with fail
      refine wp_region_lit ?_
      refine q15.t (.slice a n c) (ex_move rfl (q15.e (j := 0) rfl)) fun _ q16 => ?_;clear q15
      refine vcallP (want_none rfl) (ex_call rfl (by simp only [List.map_toArray, List.map_cons, List.map_nil, (q16.e (j := 38) rfl), evc] <;> rfl) rfl) (head20 A _ _ _ w3 (hA.later d4) (by omega) hvA) rfl q16.z (by decide) ?_
      rintro e w5 ⟨rfl, bw5⟩
      refine ⟨_, rfl, q16.k fun _ q17 => ?_⟩;clear q16
      have zw5 := bw5.size
      have d6 : Below w.heap.size w w5 := d4.trans (bw5.mono d4.size)
      refine q17.t (.slice a n c) (ex_move rfl (q17.e (j := 0) rfl)) fun _ q18 => ?_;clear q17
      refine q18.t (.int .i64 ((n : Nat) : Int)) (ex_lenG rfl rfl Try.underlying22 (q18.e (j := 40) rfl)) fun _ q19 => ?_;clear q18
      refine q19.t (.slice a2 m c2) (ex_move rfl (q19.e (j := 1) rfl)) fun _ q20 => ?_;clear q19
      refine vcallP (want_none rfl) (ex_call rfl (by simp only [List.map_toArray, List.map_cons, List.map_nil, (q20.e (j := 42) rfl), evc] <;> rfl) rfl) (head20 B _ _ _ w5 (hB.later d6) (by omega) hvB) rfl q20.z (by decide) ?_
      rintro e w7 ⟨rfl, bw7⟩
      refine ⟨_, rfl, q20.k fun _ q21 => ?_⟩;clear q20
      have zw7 := bw7.size
      have d8 : Below w.heap.size w w7 := d6.trans (bw7.mono d6.size)
      refine q21.t (.slice a2 m c2) (ex_move rfl (q21.e (j := 1) rfl)) fun _ q22 => ?_;clear q21
      refine q22.t (.int .i64 ((m : Nat) : Int)) (ex_lenG rfl rfl Try.underlying22 (q22.e (j := 44) rfl)) fun _ q23 => ?_;clear q22
      refine q23.t (.slice a3 k c3) (ex_move rfl (q23.e (j := 2) rfl)) fun _ q24 => ?_;clear q23
      refine vcallP (want_none rfl) (ex_call rfl (by simp only [List.map_toArray, List.map_cons, List.map_nil, (q24.e (j := 39) rfl), (q24.e (j := 41) rfl), (q24.e (j := 43) rfl), (q24.e (j := 45) rfl), (q24.e (j := 46) rfl), evc] <;> rfl) rfl) (extends20 (hd (A.map lf)) ((n : Nat) : Int) (hd (B.map lf)) ((m : Nat) : Int) Q _ _ _ w7 (hP.later d8) (by omega)) rfl q24.z (by decide) ?_
      rintro e w9 ⟨rfl, bw9⟩
      refine ⟨_, rfl, q24.k fun _ q25 => ?_⟩;clear q24
      have zw9 := bw9.size
      have d10 : Below w.heap.size w w9 := d8.trans (bw9.mono d8.size)
      refine q25.t (.bool (!decide ((exR (hd (A.map lf)) ((n : Nat) : Int) (hd (B.map lf)) ((m : Nat) : Int) Q : Int) = 0))) (ex_bin (Y := .int .i64 ((0 : Nat) : Int)) rfl (q25.e (j := 47) rfl) rfl (neEZ20 _ _ _ _ _)) fun _ q26 => ?_;clear q25
      refine wpList_nil ?_
      by_cases hc48 : (exR (hd (A.map lf)) ((n : Nat) : Int) (hd (B.map lf)) ((m : Nat) : Int) Q : Int) = 0
      · rw [decide_eq_true hc48] at q26
        have hc48h := hide hc48
        clear hc48
        go_upto_region 14 with fail
        refine wp_cond_false (q26.e (j := 48) rfl) ?_
        go_upto_region 14 with fail
        refine wp_region_lit ?_
        refine q26.t (.slice a n c) (ex_move rfl (q26.e (j := 0) rfl)) fun _ q27 => ?_;clear q26
        refine q27.t (.slice a2 m c2) (ex_move rfl (q27.e (j := 1) rfl)) fun _ q28 => ?_;clear q27
        refine q28.t (.slice a n c) (ex_move rfl (q28.e (j := 0) rfl)) fun _ q29 => ?_;clear q28
        refine q29.t (.int .i64 ((n : Nat) : Int)) (ex_lenG rfl rfl Try.underlying22 (q29.e (j := 61) rfl)) fun _ q30 => ?_;clear q29
        refine q30.t (.slice a2 n c2) (ex_sl19 rfl (q30.e (j := 60) rfl) rfl (congrArg some (q30.e (j := 62) rfl)) rfl (slToE20A a2 m c2 n (by omega) hB.cap (fun e => (hB.nil e).2) _)) fun _ q31 => ?_;clear q30
        refine vcallP (want_none rfl) (ex_call rfl (by simp only [List.map_toArray, List.map_cons, List.map_nil, (q31.e (j := 59) rfl), (q31.e (j := 63) rfl), evc] <;> rfl) rfl) (unlike20 A (B.take n) _ _ _ _ _ w9 (hA.later d10) ((hB.later d10).take n (by omega)) (by omega)) rfl q31.z (by decide) ?_
        rintro e w11 ⟨rfl, bw11⟩
        refine ⟨_, rfl, q31.k fun _ q32 => ?_⟩;clear q31
        have zw11 := bw11.size
        have d12 : Below w.heap.size w w11 := d10.trans (bw11.mono d10.size)
        refine q32.t (.bool (!(!decide (A = B.take n)))) (ex_not rfl (q32.e (j := 64) rfl)) fun _ q33 => ?_;clear q32
        refine wpList_nil ?_
        by_cases hc65 : A = B.take n
        · rw [decide_eq_true hc65] at q33
          have hc65h := hide hc65
          clear hc65
          go_upto_region 15 with fail
          refine wp_cond_true (q33.e (j := 65) rfl) ?_
          go_upto_region 15 with fail
          refine wp_region_lit ?_
          refine q33.t (.bool true) (ex_assign rfl rfl) fun _ q34 => ?_;clear q33
          refine wpList_nil ?_
          go_wp2
          refine bodyPost_ret (results_tmp rfl _ _ _) rfl ?_
          rw [getD_of (q34.a 8 rfl)]
          exact ⟨rfl, d12⟩
        · rw [decide_eq_false hc65] at q33
          have hc65h := hide hc65
          clear hc65
          go_upto_region 16 with fail
          refine wp_cond_false (q33.e (j := 65) rfl) ?_
          have hnz : 1 ≤ n := by
            rcases Nat.eq_zero_or_pos n with e | e
            · exact absurd (by rw [List.eq_nil_of_length_eq_zero (hA.len.trans e), e, List.take_zero]) hc65h.out
            · exact e
          go_upto_region 16 with fail
          refine wp_region_lit ?_
          refine q33.t (.slice a n c) (ex_move rfl (q33.e (j := 0) rfl)) fun _ q34 => ?_;clear q33
          refine q34.t (.int .i64 ((n : Nat) : Int)) (ex_lenG rfl rfl Try.underlying22 (q34.e (j := 66) rfl)) fun _ q35 => ?_;clear q34
          refine q35.t (.slice a2 m c2) (ex_move rfl (q35.e (j := 1) rfl)) fun _ q36 => ?_;clear q35
          refine q36.t (.int .i64 ((m : Nat) : Int)) (ex_lenG rfl rfl Try.underlying22 (q36.e (j := 68) rfl)) fun _ q37 => ?_;clear q36
          by_cases h70 : n = m
          · subst h70
            refine q37.t (.bool true) (ex_bin rfl (q37.e (j := 67) rfl) (q37.e (j := 69) rfl) (eqT20 _ _ (by omega) _)) fun _ q38 => ?_;clear q37
            refine wpList_nil ?_
            go_upto_region 17 with fail
            refine wp_cond_true (q38.e (j := 70) rfl) ?_
            go_upto_region 17 with fail
            refine wp_region_lit ?_
            refine q38.t (.slice a n c) (ex_move rfl (q38.e (j := 0) rfl)) fun _ q39 => ?_;clear q38
            refine q39.t (.slice a2 n c2) (ex_move rfl (q39.e (j := 1) rfl)) fun _ q40 => ?_;clear q39
            refine vcallP (want_none rfl) (ex_call rfl (by simp only [List.map_toArray, List.map_cons, List.map_nil, (q40.e (j := 71) rfl), (q40.e (j := 72) rfl), evc] <;> rfl) rfl) (clash20 A B _ _ _ _ _ w11 (hA.later d12) (hB.later d12) hnz (by omega) ((ex_zero hc48h.out hnz (by omega)).1 rfl) (fun e => hc65h.out (by rw [e, List.take_of_length_le (by rw [hB.len]; omega)])) hvA hvB) rfl q40.z (by decide) ?_
            rintro e w13 ⟨rfl, bw13⟩
            refine ⟨_, rfl, q40.k fun _ q41 => ?_⟩;clear q40
            have zw13 := bw13.size
            have d14 : Below w.heap.size w w13 := d12.trans (bw13.mono d12.size)
            refine q41.t (.bool true) (ex_assign rfl (q41.e (j := 73) rfl)) fun _ q42 => ?_;clear q41
            refine wpList_nil ?_
            go_wp2
            refine bodyPost_ret (results_tmp rfl _ _ _) rfl ?_
            rw [getD_of (q42.a 8 rfl)]
            exact ⟨rfl, d14⟩
          · refine q37.t (.bool false) (ex_bin rfl (q37.e (j := 67) rfl) (q37.e (j := 69) rfl) (eqF20 _ _ (by omega) _)) fun _ q38 => ?_;clear q37
            refine wpList_nil ?_
            go_upto_region 18 with fail
            refine wp_cond_false (q38.e (j := 70) rfl) ?_
            go_upto_region 18 with fail
            refine wp_region_lit ?_
            refine q38.t (.slice a n c) (ex_move rfl (q38.e (j := 0) rfl)) fun _ q39 => ?_;clear q38
            refine q39.t (.slice a2 m c2) (ex_move rfl (q39.e (j := 1) rfl)) fun _ q40 => ?_;clear q39
            refine q40.t (.slice a n c) (ex_move rfl (q40.e (j := 0) rfl)) fun _ q41 => ?_;clear q40
            refine vcallP (want_none rfl) (ex_call rfl (by simp only [List.map_toArray, List.map_cons, List.map_nil, (q41.e (j := 77) rfl), evc] <;> rfl) rfl) (head20 A _ _ _ w11 (hA.later d12) (by omega) hvA) rfl q41.z (by decide) ?_
            rintro e w13 ⟨rfl, bw13⟩
            refine ⟨_, rfl, q41.k fun _ q42 => ?_⟩;clear q41
            have zw13 := bw13.size
            have d14 : Below w.heap.size w w13 := d12.trans (bw13.mono d12.size)
            refine q42.t (.slice a3 k c3) (ex_move rfl (q42.e (j := 2) rfl)) fun _ q43 => ?_;clear q42
            have hz := (ex_zero hc48h.out hnz (by omega)).2 h70
            obtain ⟨F, hF, cF⟩ := steps_ex m A B true (hd (A.map lf)) Q n m k hA.len hB.len hP.len (Nat.le_refl _) hnz (by omega) (by omega) (hP.len.symm.trans hz.1) hvA hvB
            have HZ := hide hz
            clear hz
            refine vcallP (want_none rfl) (ex_call rfl (by simp only [List.map_toArray, List.map_cons, List.map_nil, (q43.e (j := 75) rfl), (q43.e (j := 76) rfl), (q43.e (j := 78) rfl), (q43.e (j := 79) rfl), evc] <;> rfl) rfl) (cF _ _ _ _ _ _ w13 (hA.later d14) (hB.later d14) (hP.later d14)) rfl q43.z (by decide) ?_
            rintro e w15 ⟨rfl, bw15⟩
            refine ⟨_, rfl, q43.k fun _ q44 => ?_⟩;clear q43
            have zw15 := bw15.size
            have d16 : Below w.heap.size w w15 := d14.trans (bw15.mono d14.size)
            refine q44.t (.tuple #[((cb (hd (A.map lf)) n m true Q).1).val, ((cb (hd (A.map lf)) n m true Q).2).val, .bool (F)]) (ex_move rfl (q44.e (j := 80) rfl)) fun _ q45 => ?_;clear q44
            refine q45.t (((cb (hd (A.map lf)) n m true Q).1).val) (ex_ext18 rfl (q45.e (j := 74) rfl) rfl) fun _ q46 => ?_;clear q45
            refine q46.t (((cb (hd (A.map lf)) n m true Q).2).val) (ex_ext18 rfl (q46.e (j := 74) rfl) rfl) fun _ q47 => ?_;clear q46
            refine q47.t (.bool (F)) (ex_ext18 rfl (q47.e (j := 74) rfl) rfl) fun _ q48 => ?_;clear q47
            obtain ⟨w17, hw17⟩ : ∃ y, y = w15.alloc (.cells (zH.cs).toArray 24) := ⟨_, rfl⟩
            refine vw (.pointer (some ⟨w15.heap.size, 0, none⟩)) w17 (want_none rfl) (ex_al rfl (by rw [hw17]; exact alH _)) rfl q48.z (by decide) (q48.k fun _ q49 => ?_);clear q48
            have Bw17 : BB w17 w15.heap.size 24 (zH.cs) := by rw [hw17]; exact BB.new _ _ _
            have bw17 : Below w15.heap.size w15 w17 := by rw [hw17]; exact (Below.refl _ _).alloc (Nat.le_refl _) _
            have zw17 : w17.heap.size = w15.heap.size + 1 := by rw [hw17]; exact World.size_alloc _ _
            clear hw17
            have d18 : Below w.heap.size w w17 := d16.trans (bw17.mono d16.size)
            obtain ⟨w19, hw19⟩ : ∃ y, y = w17.alloc (.cells (zH.cs).toArray 24) := ⟨_, rfl⟩
            refine vw (.pointer (some ⟨w17.heap.size, 0, none⟩)) w19 (want_none rfl) (ex_al rfl (by rw [hw19]; exact alH _)) rfl q49.z (by decide) (q49.k fun _ q50 => ?_);clear q49
            have Bw19 : BB w19 w17.heap.size 24 (zH.cs) := by rw [hw19]; exact BB.new _ _ _
            have bw19 : Below w17.heap.size w17 w19 := by rw [hw19]; exact (Below.refl _ _).alloc (Nat.le_refl _) _
            have zw19 : w19.heap.size = w17.heap.size + 1 := by rw [hw19]; exact World.size_alloc _ _
            clear hw19
            have d20 : Below w.heap.size w w19 := d18.trans (bw19.mono d18.size)
            have B21 : BB w19 w15.heap.size 24 (zH.cs) := (Bw17.later bw19)
            obtain ⟨w22, hw22⟩ : ∃ y, y = w19.setCells w15.heap.size 0 (((cb (hd (A.map lf)) n m true Q).1).cs) := ⟨_, rfl⟩
            refine vs w22 (want_none rfl) (ex_st rfl (q50.e (j := 11) rfl) (q50.e (j := 81) rfl) (by rw [hw22]; exact B21.stH rfl _)) rfl ?_
            have Bw22 : BB w22 w15.heap.size 24 (((cb (hd (A.map lf)) n m true Q).1).cs) := by rw [hw22]; exact B21.putH rfl _
            have uw22 : Upd (fun k => k = w15.heap.size) w19 w22 := by rw [hw22]; exact upd18 _ _ _ _
            clear hw22
            have zw22 := uw22.size
            have d23 : Below w.heap.size w w22 := d20.trans (bel_ge uw22 d20.size (by omega))
            have B24 : BB w22 w17.heap.size 24 (zH.cs) := (Bw19.upd uw22 (show ¬ w17.heap.size = w15.heap.size by omega))
            obtain ⟨w25, hw25⟩ : ∃ y, y = w22.setCells w17.heap.size 0 (((cb (hd (A.map lf)) n m true Q).2).cs) := ⟨_, rfl⟩
            refine vs w25 (want_none rfl) (ex_st rfl (q50.e (j := 12) rfl) (q50.e (j := 82) rfl) (by rw [hw25]; exact B24.stH rfl _)) rfl ?_
            have Bw25 : BB w25 w17.heap.size 24 (((cb (hd (A.map lf)) n m true Q).2).cs) := by rw [hw25]; exact B24.putH rfl _
            have uw25 : Upd (fun k => k = w17.heap.size) w22 w25 := by rw [hw25]; exact upd18 _ _ _ _
            clear hw25
            have zw25 := uw25.size
            have d26 : Below w.heap.size w w25 := d23.trans (bel_ge uw25 d23.size (by omega))
            refine q50.t (.bool (F)) (ex_assign rfl (q50.e (j := 83) rfl)) fun _ q51 => ?_;clear q50
            refine wpList_nil ?_
            go_upto_region 19 with fail
            refine wp_region_lit ?_
            refine q51.t (.bool (F)) (ex_move rfl (q51.e (j := 13) rfl)) fun _ q52 => ?_;clear q51
            refine q52.t (.bool (F)) (ex_assign rfl (q52.e (j := 84) rfl)) fun _ q53 => ?_;clear q52
            refine wpList_nil ?_
            go_wp2
            refine bodyPost_ret (results_tmp rfl _ _ _) rfl ?_
            rw [getD_of (q53.a 8 rfl)]
            exact ⟨by rw [hF HZ.out.2.1 HZ.out.2.2 hc65h.out]; rfl, d26⟩
      · rw [decide_eq_false hc48] at q26
        have hc48h := hide hc48
        clear hc48
        go_upto_region 13 with fail
        refine wp_cond_true (q26.e (j := 48) rfl) ?_
        go_upto_region 13 with fail
        refine wp_region_lit ?_
        refine q26.t (.bool false) (ex_move rfl (q26.e (j := 3) rfl)) fun _ q27 => ?_;clear q26
        refine q27.t (.bool true) (ex_not rfl (q27.e (j := 49) rfl)) fun _ q28 => ?_;clear q27
        refine q28.t (.bool true) (ex_move rfl (q28.e (j := 50) rfl)) fun _ q29 => ?_;clear q28
        refine vl ((true && (true == false))) (undef) (want_g rfl rfl (q29.a 51 rfl)) (fun hc => absurd hc (by decide)) rfl q29.z (by decide) (q29.k fun _ q30 => ?_);clear q29
        refine vl ((true && (true == false))) (undef) (want_g rfl rfl (q30.a 51 rfl)) (fun hc => absurd hc (by decide)) rfl q30.z (by decide) (q30.k fun _ q31 => ?_);clear q30
        refine vl ((true && (true == false))) (undef) (want_g rfl rfl (q31.a 51 rfl)) (fun hc => absurd hc (by decide)) rfl q31.z (by decide) (q31.k fun _ q32 => ?_);clear q31
        refine vl ((true && (true == false))) (undef) (want_g rfl rfl (q32.a 51 rfl)) (fun hc => absurd hc (by decide)) rfl q32.z (by decide) (q32.k fun _ q33 => ?_);clear q32
        refine vl ((true && (true == false))) (undef) (want_g rfl rfl (q33.a 51 rfl)) (fun hc => absurd hc (by decide)) rfl q33.z (by decide) (q33.k fun _ q34 => ?_);clear q33
        refine vl ((true && (true == false))) (.bool false) (want_g rfl rfl (q34.a 51 rfl)) (fun hc => absurd hc (by decide)) rfl q34.z (by decide) (q34.k fun _ q35 => ?_);clear q34
        refine q35.t (.bool true) (ex_or (c := true) (b := true) (z := false) rfl (q35.a 51 rfl) (q35.a 57 rfl) rfl) fun _ q36 => ?_;clear q35
        refine q36.t (.bool true) (ex_assign rfl (q36.e (j := 58) rfl)) fun _ q37 => ?_;clear q36
        refine wpList_nil ?_
        go_wp2
        refine bodyPost_ret (results_tmp rfl _ _ _) rfl ?_
        rw [getD_of (q37.a 8 rfl)]
        exact ⟨rfl, d10⟩
    · rw [hc27] at q15
      have hc27h := hide hc27
      clear hc27
      go_upto_region 8 with fail
      refine wp_cond_true (q15.e (j := 27) rfl) ?_
      go_upto_region 8 with fail
      refine wp_region_lit ?_
      refine q15.t (.slice a2 m c2) (ex_move rfl (q15.e (j := 1) rfl)) fun _ q16 => ?_;clear q15
      refine q16.t (.slice a n c) (ex_move rfl (q16.e (j := 0) rfl)) fun _ q17 => ?_;clear q16
      refine q17.t (.int .i64 ((n : Nat) : Int)) (ex_lenG rfl rfl Try.underlying22 (q17.e (j := 30) rfl)) fun _ q18 => ?_;clear q17
      have hcs : csR (B.map lf) ((n : Nat) : Int) = (csP (B.map lf) n, 0) := csR_ok (by rw [List.length_map, hB.len]; omega)
      refine vcallP (want_none rfl) (ex_call rfl (by simp only [List.map_toArray, List.map_cons, List.map_nil, (q18.e (j := 29) rfl), (q18.e (j := 31) rfl), evc] <;> rfl) rfl) (consist20 B _ _ _ ((n : Nat) : Int) w3 (hB.later d4) (by omega) hvB) rfl q18.z (by decide) ?_
      rintro e w5 ⟨v3, rfl, o3, bw5⟩
      refine ⟨_, rfl, q18.k fun _ q19 => ?_⟩;clear q18
      have zw5 := bw5.size
      have d6 : Below w.heap.size w w5 := d4.trans (bw5.mono d4.size)
      rw [hcs] at o3 q19
      obtain ⟨a4, c4, hv4, s4, _⟩ := o3.sl kH
      subst hv4
      obtain ⟨P, hPd⟩ : ∃ P, P = csP (B.map lf) n := ⟨_, rfl⟩
      have s4 : SlY yH _ a4 (csP (B.map lf) n).length c4 (csP (B.map lf) n) := s4
      rw [← hPd] at s4
      have eT : (.tuple #[.slice a4 ((csP (B.map lf) n, (0 : Int)).1).length c4, .int .i64 ((csP (B.map lf) n, (0 : Int)).2)] : Value) = .tuple #[.slice a4 P.length c4, .int .i64 0] := by rw [hPd]
      rw [eT] at q19
      have hPl : P.length ≤ 1000000 := by rw [hPd, csP_len (by rw [List.length_map, hB.len]; omega), List.length_map, hB.len]; have := sb_le20 n m (by omega); omega
      have HPd := hide hPd
      clear hPd
      refine q19.t (.tuple #[.slice a4 P.length c4, .int .i64 (0 : Int)]) (ex_move rfl (q19.e (j := 32) rfl)) fun _ q20 => ?_;clear q19
      refine q20.t (.slice a4 P.length c4) (ex_ext18 rfl (q20.e (j := 28) rfl) rfl) fun _ q21 => ?_;clear q20
      refine q21.t (.int .i64 (0 : Int)) (ex_ext18 rfl (q21.e (j := 28) rfl) rfl) fun _ q22 => ?_;clear q21
      refine q22.t (.slice a4 P.length c4) (ex_assign rfl (q22.e (j := 33) rfl)) fun _ q23 => ?_;clear q22
      refine q23.t (.int .i64 (0 : Int)) (ex_assign rfl (q23.e (j := 34) rfl)) fun _ q24 => ?_;clear q23
      refine wpList_nil ?_
      go_upto_region 9 with fail
      refine wp_region_lit ?_
      refine q24.t (.int .i64 (0 : Int)) (ex_move rfl (q24.e (j := 10) rfl)) fun _ q25 => ?_;clear q24
      refine q25.t (.bool false) (ex_bin (Y := .int .i64 ((0 : Nat) : Int)) rfl (q25.e (j := 35) rfl) rfl (neEF _ _ _ _)) fun _ q26 => ?_;clear q25
      refine wpList_nil ?_
      go_upto_region 11 with fail
      refine wp_cond_false (q26.e (j := 36) rfl) ?_
      go_upto_region 11 with fail
      refine wp_region_lit ?_
      refine q26.t (.slice a4 P.length c4) (ex_move rfl (q26.e (j := 9) rfl)) fun _ q27 => ?_;clear q26
      refine q27.t (.slice a4 P.length c4) (ex_assign rfl (q27.e (j := 37) rfl)) fun _ q28 => ?_;clear q27
      refine wpList_nil ?_
      go_upto_region 12 with fail
      refine wp_region_lit ?_
      refine q28.t (.slice a n c) (ex_move rfl (q28.e (j := 0) rfl)) fun _ q29 => ?_;clear q28
      refine vcallP (want_none rfl) (ex_call rfl (by simp only [List.map_toArray, List.map_cons, List.map_nil, (q29.e (j := 38) rfl), evc] <;> rfl) rfl) (head20 A _ _ _ w5 (hA.later d6) (by omega) hvA) rfl q29.z (by decide) ?_
      rintro e w7 ⟨rfl, bw7⟩
      refine ⟨_, rfl, q29.k fun _ q30 => ?_⟩;clear q29
      have zw7 := bw7.size
      have d8 : Below w.heap.size w w7 := d6.trans (bw7.mono d6.size)
      refine q30.t (.slice a n c) (ex_move rfl (q30.e (j := 0) rfl)) fun _ q31 => ?_;clear q30
      refine q31.t (.int .i64 ((n : Nat) : Int)) (ex_lenG rfl rfl Try.underlying22 (q31.e (j := 40) rfl)) fun _ q32 => ?_;clear q31
      refine q32.t (.slice a2 m c2) (ex_move rfl (q32.e (j := 1) rfl)) fun _ q33 => ?_;clear q32
      refine vcallP (want_none rfl) (ex_call rfl (by simp only [List.map_toArray, List.map_cons, List.map_nil, (q33.e (j := 42) rfl), evc] <;> rfl) rfl) (head20 B _ _ _ w7 (hB.later d8) (by omega) hvB) rfl q33.z (by decide) ?_
      rintro e w9 ⟨rfl, bw9⟩
      refine ⟨_, rfl, q33.k fun _ q34 => ?_⟩;clear q33
      have zw9 := bw9.size
      have d10 : Below w.heap.size w w9 := d8.trans (bw9.mono d8.size)
      refine q34.t (.slice a2 m c2) (ex_move rfl (q34.e (j := 1) rfl)) fun _ q35 => ?_;clear q34
      refine q35.t (.int .i64 ((m : Nat) : Int)) (ex_lenG rfl rfl Try.underlying22 (q35.e (j := 44) rfl)) fun _ q36 => ?_;clear q35
      refine q36.t (.slice a4 P.length c4) (ex_move rfl (q36.e (j := 2) rfl)) fun _ q37 => ?_;clear q36
      refine vcallP (want_none rfl) (ex_call rfl (by simp only [List.map_toArray, List.map_cons, List.map_nil, (q37.e (j := 39) rfl), (q37.e (j := 41) rfl), (q37.e (j := 43) rfl), (q37.e (j := 45) rfl), (q37.e (j := 46) rfl), evc] <;> rfl) rfl) (extends20 (hd (A.map lf)) ((n : Nat) : Int) (hd (B.map lf)) ((m : Nat) : Int) P _ _ _ w9 ((s4.later bw7).later bw9) (by omega)) rfl q37.z (by decide) ?_
      rintro e w11 ⟨rfl, bw11⟩
      refine ⟨_, rfl, q37.k fun _ q38 => ?_⟩;clear q37
      have zw11 := bw11.size
      have d12 : Below w.heap.size w w11 := d10.trans (bw11.mono d10.size)
      refine q38.t (.bool (!decide ((exR (hd (A.map lf)) ((n : Nat) : Int) (hd (B.map lf)) ((m : Nat) : Int) P : Int) = 0))) (ex_bin (Y := .int .i64 ((0 : Nat) : Int)) rfl (q38.e (j := 47) rfl) rfl (neEZ20 _ _ _ _ _)) fun _ q39 => ?_;clear q38
      refine wpList_nil ?_
      by_cases hc48 : (exR (hd (A.map lf)) ((n : Nat) : Int) (hd (B.map lf)) ((m : Nat) : Int) P : Int) = 0
      · rw [decide_eq_true hc48] at q39
        have hc48h := hide hc48
        clear hc48
        go_upto_region 14 with fail
        refine wp_cond_false (q39.e (j := 48) rfl) ?_
        go_upto_region 14 with fail
        refine wp_region_lit ?_
        refine q39.t (.slice a n c) (ex_move rfl (q39.e (j := 0) rfl)) fun _ q40 => ?_;clear q39
        refine q40.t (.slice a2 m c2) (ex_move rfl (q40.e (j := 1) rfl)) fun _ q41 => ?_;clear q40
        refine q41.t (.slice a n c) (ex_move rfl (q41.e (j := 0) rfl)) fun _ q42 => ?_;clear q41
        refine q42.t (.int .i64 ((n : Nat) : Int)) (ex_lenG rfl rfl Try.underlying22 (q42.e (j := 61) rfl)) fun _ q43 => ?_;clear q42
        refine q43.t (.slice a2 n c2) (ex_sl19 rfl (q43.e (j := 60) rfl) rfl (congrArg some (q43.e (j := 62) rfl)) rfl (slToE20A a2 m c2 n (by omega) hB.cap (fun e => (hB.nil e).2) _)) fun _ q44 => ?_;clear q43
        refine vcallP (want_none rfl) (ex_call rfl (by simp only [List.map_toArray, List.map_cons, List.map_nil, (q44.e (j := 59) rfl), (q44.e (j := 63) rfl), evc] <;> rfl) rfl) (unlike20 A (B.take n) _ _ _ _ _ w11 (hA.later d12) ((hB.later d12).take n (by omega)) (by omega)) rfl q44.z (by decide) ?_
        rintro e w13 ⟨rfl, bw13⟩
        refine ⟨_, rfl, q44.k fun _ q45 => ?_⟩;clear q44
        have zw13 := bw13.size
        have d14 : Below w.heap.size w w13 := d12.trans (bw13.mono d12.size)
        refine q45.t (.bool (!(!decide (A = B.take n)))) (ex_not rfl (q45.e (j := 64) rfl)) fun _ q46 => ?_;clear q45
        refine wpList_nil ?_
        by_cases hc65 : A = B.take n
        · rw [decide_eq_true hc65] at q46
          have hc65h := hide hc65
          clear hc65
          go_upto_region 15 with fail
          refine wp_cond_true (q46.e (j := 65) rfl) ?_
          go_upto_region 15 with fail
          refine wp_region_lit ?_
          refine q46.t (.bool true) (ex_assign rfl rfl) fun _ q47 => ?_;clear q46
          refine wpList_nil ?_
          go_wp2
          refine bodyPost_ret (results_tmp rfl _ _ _) rfl ?_
          rw [getD_of (q47.a 8 rfl)]
          exact ⟨rfl, d14⟩
        · rw [decide_eq_false hc65] at q46
          have hc65h := hide hc65
          clear hc65
          go_upto_region 16 with fail
          refine wp_cond_false (q46.e (j := 65) rfl) ?_
          have hnz : 1 ≤ n := by
            rcases Nat.eq_zero_or_pos n with e | e
            · exact absurd (by rw [List.eq_nil_of_length_eq_zero (hA.len.trans e), e, List.take_zero]) hc65h.out
            · exact e
          go_upto_region 16 with fail
          refine wp_region_lit ?_
          refine q46.t (.slice a n c) (ex_move rfl (q46.e (j := 0) rfl)) fun _ q47 => ?_;clear q46
          refine q47.t (.int .i64 ((n : Nat) : Int)) (ex_lenG rfl rfl Try.underlying22 (q47.e (j := 66) rfl)) fun _ q48 => ?_;clear q47
          refine q48.t (.slice a2 m c2) (ex_move rfl (q48.e (j := 1) rfl)) fun _ q49 => ?_;clear q48
          refine q49.t (.int .i64 ((m : Nat) : Int)) (ex_lenG rfl rfl Try.underlying22 (q49.e (j := 68) rfl)) fun _ q50 => ?_;clear q49
          by_cases h70 : n = m
          · subst h70
            refine q50.t (.bool true) (ex_bin rfl (q50.e (j := 67) rfl) (q50.e (j := 69) rfl) (eqT20 _ _ (by omega) _)) fun _ q51 => ?_;clear q50
            refine wpList_nil ?_
            go_upto_region 17 with fail
            refine wp_cond_true (q51.e (j := 70) rfl) ?_
            go_upto_region 17 with fail
            refine wp_region_lit ?_
            refine q51.t (.slice a n c) (ex_move rfl (q51.e (j := 0) rfl)) fun _ q52 => ?_;clear q51
            refine q52.t (.slice a2 n c2) (ex_move rfl (q52.e (j := 1) rfl)) fun _ q53 => ?_;clear q52
            refine vcallP (want_none rfl) (ex_call rfl (by simp only [List.map_toArray, List.map_cons, List.map_nil, (q53.e (j := 71) rfl), (q53.e (j := 72) rfl), evc] <;> rfl) rfl) (clash20 A B _ _ _ _ _ w13 (hA.later d14) (hB.later d14) hnz (by omega) ((ex_zero hc48h.out hnz (by omega)).1 rfl) (fun e => hc65h.out (by rw [e, List.take_of_length_le (by rw [hB.len]; omega)])) hvA hvB) rfl q53.z (by decide) ?_
            rintro e w15 ⟨rfl, bw15⟩
            refine ⟨_, rfl, q53.k fun _ q54 => ?_⟩;clear q53
            have zw15 := bw15.size
            have d16 : Below w.heap.size w w15 := d14.trans (bw15.mono d14.size)
            refine q54.t (.bool true) (ex_assign rfl (q54.e (j := 73) rfl)) fun _ q55 => ?_;clear q54
            refine wpList_nil ?_
            go_wp2
            refine bodyPost_ret (results_tmp rfl _ _ _) rfl ?_
            rw [getD_of (q55.a 8 rfl)]
            exact ⟨rfl, d16⟩
          · refine q50.t (.bool false) (ex_bin rfl (q50.e (j := 67) rfl) (q50.e (j := 69) rfl) (eqF20 _ _ (by omega) _)) fun _ q51 => ?_;clear q50
            refine wpList_nil ?_
            go_upto_region 18 with fail
            refine wp_cond_false (q51.e (j := 70) rfl) ?_
            go_upto_region 18 with fail
            refine wp_region_lit ?_
            refine q51.t (.slice a n c) (ex_move rfl (q51.e (j := 0) rfl)) fun _ q52 => ?_;clear q51
            refine q52.t (.slice a2 m c2) (ex_move rfl (q52.e (j := 1) rfl)) fun _ q53 => ?_;clear q52
            refine q53.t (.slice a n c) (ex_move rfl (q53.e (j := 0) rfl)) fun _ q54 => ?_;clear q53
            refine vcallP (want_none rfl) (ex_call rfl (by simp only [List.map_toArray, List.map_cons, List.map_nil, (q54.e (j := 77) rfl), evc] <;> rfl) rfl) (head20 A _ _ _ w13 (hA.later d14) (by omega) hvA) rfl q54.z (by decide) ?_
            rintro e w15 ⟨rfl, bw15⟩
            refine ⟨_, rfl, q54.k fun _ q55 => ?_⟩;clear q54
            have zw15 := bw15.size
            have d16 : Below w.heap.size w w15 := d14.trans (bw15.mono d14.size)
            refine q55.t (.slice a4 P.length c4) (ex_move rfl (q55.e (j := 2) rfl)) fun _ q56 => ?_;clear q55
            have hz := (ex_zero hc48h.out hnz (by omega)).2 h70
            obtain ⟨F, hF, cF⟩ := steps_ex m A B true (hd (A.map lf)) P n m P.length hA.len hB.len rfl (Nat.le_refl _) hnz (by omega) (by omega) (hz.1) hvA hvB
            have HZ := hide hz
            clear hz
            refine vcallP (want_none rfl) (ex_call rfl (by simp only [List.map_toArray, List.map_cons, List.map_nil, (q56.e (j := 75) rfl), (q56.e (j := 76) rfl), (q56.e (j := 78) rfl), (q56.e (j := 79) rfl), evc] <;> rfl) rfl) (cF _ _ _ _ _ _ w15 (hA.later d16) (hB.later d16) (((((s4.later bw7).later bw9).later bw11).later bw13).later bw15)) rfl q56.z (by decide) ?_
            rintro e w17 ⟨rfl, bw17⟩
            refine ⟨_, rfl, q56.k fun _ q57 => ?_⟩;clear q56
            have zw17 := bw17.size
            have d18 : Below w.heap.size w w17 := d16.trans (bw17.mono d16.size)
            refine q57.t (.tuple #[((cb (hd (A.map lf)) n m true P).1).val, ((cb (hd (A.map lf)) n m true P).2).val, .bool (F)]) (ex_move rfl (q57.e (j := 80) rfl)) fun _ q58 => ?_;clear q57
            refine q58.t (((cb (hd (A.map lf)) n m true P).1).val) (ex_ext18 rfl (q58.e (j := 74) rfl) rfl) fun _ q59 => ?_;clear q58
            refine q59.t (((cb (hd (A.map lf)) n m true P).2).val) (ex_ext18 rfl (q59.e (j := 74) rfl) rfl) fun _ q60 => ?_;clear q59
            refine q60.t (.bool (F)) (ex_ext18 rfl (q60.e (j := 74) rfl) rfl) fun _ q61 => ?_;clear q60
            obtain ⟨w19, hw19⟩ : ∃ y, y = w17.alloc (.cells (zH.cs).toArray 24) := ⟨_, rfl⟩
            refine vw (.pointer (some ⟨w17.heap.size, 0, none⟩)) w19 (want_none rfl) (ex_al rfl (by rw [hw19]; exact alH _)) rfl q61.z (by decide) (q61.k fun _ q62 => ?_);clear q61
            have Bw19 : BB w19 w17.heap.size 24 (zH.cs) := by rw [hw19]; exact BB.new _ _ _
            have bw19 : Below w17.heap.size w17 w19 := by rw [hw19]; exact (Below.refl _ _).alloc (Nat.le_refl _) _
            have zw19 : w19.heap.size = w17.heap.size + 1 := by rw [hw19]; exact World.size_alloc _ _
            clear hw19
            have d20 : Below w.heap.size w w19 := d18.trans (bw19.mono d18.size)
            obtain ⟨w21, hw21⟩ : ∃ y, y = w19.alloc (.cells (zH.cs).toArray 24) := ⟨_, rfl⟩
            refine vw (.pointer (some ⟨w19.heap.size, 0, none⟩)) w21 (want_none rfl) (ex_al rfl (by rw [hw21]; exact alH _)) rfl q62.z (by decide) (q62.k fun _ q63 => ?_);clear q62
            have Bw21 : BB w21 w19.heap.size 24 (zH.cs) := by rw [hw21]; exact BB.new _ _ _
            have bw21 : Below w19.heap.size w19 w21 := by rw [hw21]; exact (Below.refl _ _).alloc (Nat.le_refl _) _
            have zw21 : w21.heap.size = w19.heap.size + 1 := by rw [hw21]; exact World.size_alloc _ _
            clear hw21
            have d22 : Below w.heap.size w w21 := d20.trans (bw21.mono d20.size)
            have B23 : BB w21 w17.heap.size 24 (zH.cs) := (Bw19.later bw21)
            obtain ⟨w24, hw24⟩ : ∃ y, y = w21.setCells w17.heap.size 0 (((cb (hd (A.map lf)) n m true P).1).cs) := ⟨_, rfl⟩
            refine vs w24 (want_none rfl) (ex_st rfl (q63.e (j := 11) rfl) (q63.e (j := 81) rfl) (by rw [hw24]; exact B23.stH rfl _)) rfl ?_
            have Bw24 : BB w24 w17.heap.size 24 (((cb (hd (A.map lf)) n m true P).1).cs) := by rw [hw24]; exact B23.putH rfl _
            have uw24 : Upd (fun k => k = w17.heap.size) w21 w24 := by rw [hw24]; exact upd18 _ _ _ _
            clear hw24
            have zw24 := uw24.size
            have d25 : Below w.heap.size w w24 := d22.trans (bel_ge uw24 d22.size (by omega))
            have B26 : BB w24 w19.heap.size 24 (zH.cs) := (Bw21.upd uw24 (show ¬ w19.heap.size = w17.heap.size by omega))
            obtain ⟨w27, hw27⟩ : ∃ y, y = w24.setCells w19.heap.size 0 (((cb (hd (A.map lf)) n m true P).2).cs) := ⟨_, rfl⟩
            refine vs w27 (want_none rfl) (ex_st rfl (q63.e (j := 12) rfl) (q63.e (j := 82) rfl) (by rw [hw27]; exact B26.stH rfl _)) rfl ?_
            have Bw27 : BB w27 w19.heap.size 24 (((cb (hd (A.map lf)) n m true P).2).cs) := by rw [hw27]; exact B26.putH rfl _
            have uw27 : Upd (fun k => k = w19.heap.size) w24 w27 := by rw [hw27]; exact upd18 _ _ _ _
            clear hw27
            have zw27 := uw27.size
            have d28 : Below w.heap.size w w27 := d25.trans (bel_ge uw27 d25.size (by omega))
            refine q63.t (.bool (F)) (ex_assign rfl (q63.e (j := 83) rfl)) fun _ q64 => ?_;clear q63
            refine wpList_nil ?_
            go_upto_region 19 with fail
            refine wp_region_lit ?_
            refine q64.t (.bool (F)) (ex_move rfl (q64.e (j := 13) rfl)) fun _ q65 => ?_;clear q64
            refine q65.t (.bool (F)) (ex_assign rfl (q65.e (j := 84) rfl)) fun _ q66 => ?_;clear q65
            refine wpList_nil ?_
            go_wp2
            refine bodyPost_ret (results_tmp rfl _ _ _) rfl ?_
            rw [getD_of (q66.a 8 rfl)]
            exact ⟨by rw [hF HZ.out.2.1 HZ.out.2.2 hc65h.out]; rfl, d28⟩
      · rw [decide_eq_false hc48] at q39
        have hc48h := hide hc48
        clear hc48
        go_upto_region 13 with fail
        refine wp_cond_true (q39.e (j := 48) rfl) ?_
        go_upto_region 13 with fail
        refine wp_region_lit ?_
        refine q39.t (.bool true) (ex_move rfl (q39.e (j := 3) rfl)) fun _ q40 => ?_;clear q39
        refine q40.t (.bool false) (ex_not rfl (q40.e (j := 49) rfl)) fun _ q41 => ?_;clear q40
        refine q41.t (.bool false) (ex_move rfl (q41.e (j := 50) rfl)) fun _ q42 => ?_;clear q41
        refine vl ((true && (false == false))) (.slice a n c) (want_g rfl rfl (q42.a 51 rfl)) (fun hc => ex_move rfl (q42.e (j := 0) rfl)) rfl q42.z (by decide) (q42.k fun _ q43 => ?_);clear q42
        refine vl ((true && (false == false))) (.slice a2 m c2) (want_g rfl rfl (q43.a 51 rfl)) (fun hc => ex_move rfl (q43.e (j := 1) rfl)) rfl q43.z (by decide) (q43.k fun _ q44 => ?_);clear q43
        refine vl ((true && (false == false))) (.slice a n c) (want_g rfl rfl (q44.a 51 rfl)) (fun hc => ex_move rfl (q44.e (j := 0) rfl)) rfl q44.z (by decide) (q44.k fun _ q45 => ?_);clear q44
        refine vl ((true && (false == false))) (.int .i64 ((n : Nat) : Int)) (want_g rfl rfl (q45.a 51 rfl)) (fun hc => ex_lenG rfl rfl Try.underlying22 (ev (q45.a 54 rfl) hc)) rfl q45.z (by decide) (q45.k fun _ q46 => ?_);clear q45
        refine vl ((true && (false == false))) (.slice a2 n c2) (want_g rfl rfl (q46.a 51 rfl)) (fun hc => ex_sl19 rfl (ev (q46.a 53 rfl) hc) rfl (congrArg some (ev (q46.a 55 rfl) hc)) rfl (slToE20A a2 m c2 n (by omega) hB.cap (fun e => (hB.nil e).2) _)) rfl q46.z (by decide) (q46.k fun _ q47 => ?_);clear q46
        refine vcallP (show Region.wanted _ _ = (true && (false == false)) from want_g rfl rfl (q47.a 51 rfl)) (ex_call rfl (by simp only [List.map_toArray, List.map_cons, List.map_nil, (q47.e (j := 52) rfl), (q47.e (j := 56) rfl), evc] <;> rfl) rfl) (unlike20 A (B.take n) _ _ _ _ _ w11 (hA.later d12) ((hB.later d12).take n (by omega)) (by omega)) rfl q47.z (by decide) ?_
        rintro e w13 ⟨rfl, bw13⟩
        refine ⟨_, rfl, q47.k fun _ q48 => ?_⟩;clear q47
        have zw13 := bw13.size
        have d14 : Below w.heap.size w w13 := d12.trans (bw13.mono d12.size)
        refine q48.t (.bool (!decide (A = B.take n))) (ex_or (c := true) (b := false) (z := (!decide (A = B.take n))) rfl (q48.a 51 rfl) (q48.a 57 rfl) rfl) fun _ q49 => ?_;clear q48
        refine q49.t (.bool (!decide (A = B.take n))) (ex_assign rfl (q49.e (j := 58) rfl)) fun _ q50 => ?_;clear q49
        refine wpList_nil ?_
        go_wp2
        refine bodyPost_ret (results_tmp rfl _ _ _) rfl ?_
        rw [getD_of (q50.a 8 rfl)]
        exact ⟨by rw [decide_eq_false (fun e => hc48h.out (by rw [e, HPd.out]; have := ex_ok (L := B.map lf) (m := n) (by rw [List.length_map, hB.len]; omega); rw [List.length_map, hB.len, ← List.map_take] at this; exact this))]; rfl, d14⟩
end Go.Proofs.Ytfafhlahbhopaaa
namespace Go.Proofs.Ytfafhlahbhopaaa
open Go.RowKit Go.Maps
open Classical
end Go.Proofs.Ytfafhlahbhopaaa
namespace Go.Proofs.Ytfafhlahbhopaaa
open Go.ChangeShapes Go.WideShapes Go.ChangeAt Go.RowKit Go.Maps
open Classical
theorem joins_cameW (a : Option Addr) (n0 c : Nat) (a2 : Option Addr) (m0 c2 : Nat) (a3 : Option Addr) (k c3 : Nat) (mine : Bool) (W : World) (h : CameW W a n0 c) (h2 : CameW W a2 m0 c2) (h3 : CameH W a3 k c3) :
    Calls Try.prog 8 #[.slice a n0 c, .slice a2 m0 c2, .slice a3 k c3, .bool mine] W fun e w' => e = .returned (.bool true) ∧ Below W.heap.size W w' := by
  obtain ⟨l, s, f, _⟩ := h
  obtain ⟨o, s2, f2, _⟩ := h2
  obtain ⟨Q, s3, hk⟩ := h3
  exact joins20 l o a n0 c a2 m0 c2 Q a3 k c3 mine W s s2 s3 (by omega) (fun x hx => Nat.le_trans (f x hx) (by decide)) (fun x hx => Nat.le_trans (f2 x hx) (by decide))
end Go.Proofs.Ytfafhlahbhopaaa
