import Derived.Test.YtaagmdkhjmonnaaRa8
import Derived.Test.YtaagmdkhjmonnaaRa5
namespace Go.Proofs.Ytaagmdkhjmonnaa
open Go.RowKit Go.Maps
open Classical
set_option linter.unusedVariables false
set_option linter.unusedSimpArgs false

set_option maxRecDepth 100000 in
set_option maxHeartbeats 2000000 in
theorem same20 (A0 B0 : List En) (a : Option Addr) (n c : Nat) (a2 : Option Addr) (n2 c2 : Nat) (w : World) (hA0 : SlY yE w a n c A0) (hB0 : SlY yE w a2 n2 c2 B0) (hvA0 : ∀ x ∈ A0, x.o.v.size ≤ 140737488350000) (hvB0 : ∀ x ∈ B0, x.o.v.size ≤ 140737488350000) :
    Calls Try.prog 10 #[.slice a n c, .slice a2 n2 c2] w fun e w' => e = .returned (.bool true) ∧ Below w.heap.size w w' := by
  go_enter Try.func10, Try.ntmps10
  go_upto_region 0 with fail
  refine wp_region_lit ?_
  refine vl_gen (fun T => Rp T 44 [(1, gw true (.slice a2 n2 c2)), (0, gw true (.slice a n c))]) (((Rp.nil rfl).cons rfl).cons rfl) (fun Z0 q0 => ?_)
  refine q0.t (.bool false) (ex_assign rfl rfl) fun _ q1 => ?_;clear q0
  refine wpList_nil ?_
  go_upto_region 1 with fail
  refine wp_region_lit ?_
  refine q1.t (.slice a n c) (ex_move rfl (q1.e (j := 0) rfl)) fun _ q2 => ?_;clear q1
  refine vcallP (want_none rfl) (ex_call rfl (by simp only [List.map_toArray, List.map_cons, List.map_nil, (q2.e (j := 6) rfl), evc] <;> rfl) rfl) (few20 A0 a n c w hA0) rfl q2.z (by decide) ?_
  rintro e w9 ⟨rfl, hw9⟩
  refine ⟨_, rfl, q2.k fun _ q3 => ?_⟩;clear q2
  have hw9 := hw9.symm
  subst hw9
  refine q3.t (.slice a (min n 200) c) (ex_assign rfl (q3.e (j := 7) rfl)) fun _ q4 => ?_;clear q3
  refine wpList_nil ?_
  go_upto_region 2 with fail
  refine wp_region_lit ?_
  refine q4.t (.slice a2 n2 c2) (ex_move rfl (q4.e (j := 1) rfl)) fun _ q5 => ?_;clear q4
  refine vcallP (want_none rfl) (ex_call rfl (by simp only [List.map_toArray, List.map_cons, List.map_nil, (q5.e (j := 8) rfl), evc] <;> rfl) rfl) (few20 B0 a2 n2 c2 w hB0) rfl q5.z (by decide) ?_
  rintro e w9 ⟨rfl, hw9⟩
  refine ⟨_, rfl, q5.k fun _ q6 => ?_⟩;clear q5
  have hw9 := hw9.symm
  subst hw9
  refine q6.t (.slice a2 (min n2 200) c2) (ex_assign rfl (q6.e (j := 9) rfl)) fun _ q7 => ?_;clear q6
  obtain ⟨k1, hk1⟩ : ∃ k, k = min n 200 := ⟨_, rfl⟩
  obtain ⟨k2, hk2⟩ : ∃ k, k = min n2 200 := ⟨_, rfl⟩
  rw [← hk1, ← hk2] at q7
  have hA1 : SlY yE w a k1 c (A0.take k1) := hA0.take k1 (by omega)
  have hB1 : SlY yE w a2 k2 c2 (B0.take k2) := hB0.take k2 (by omega)
  have hk200 : k1 ≤ 200 ∧ k2 ≤ 200 := by omega
  clear hk1 hk2
  refine wpList_nil ?_
  go_upto_region 3 with fail
  refine wp_region_lit ?_
  refine q7.t (.slice a k1 c) (ex_move rfl (q7.e (j := 0) rfl)) fun _ q8 => ?_;clear q7
  refine q8.t (.int .i64 ((k1 : Nat) : Int)) (ex_lenG rfl rfl Try.underlying22 (q8.e (j := 10) rfl)) fun _ q9 => ?_;clear q8
  refine q9.t (.slice a2 k2 c2) (ex_move rfl (q9.e (j := 1) rfl)) fun _ q10 => ?_;clear q9
  refine q10.t (.int .i64 ((k2 : Nat) : Int)) (ex_lenG rfl rfl Try.underlying22 (q10.e (j := 12) rfl)) fun _ q11 => ?_;clear q10
  refine q11.t (.int .i64 ((min k1 k2 : Nat) : Int)) (ex_min20 rfl rfl (q11.e (j := 11) rfl) (q11.e (j := 13) rfl)) fun _ q12 => ?_;clear q11
  refine q12.t (.int .i64 ((min k1 k2 : Nat) : Int)) (ex_assign rfl (q12.e (j := 14) rfl)) fun _ q13 => ?_;clear q12
  obtain ⟨m, hm⟩ : ∃ m, m = min k1 k2 := ⟨_, rfl⟩
  rw [← hm] at q13
  have hA : SlY yE w a m c ((A0.take k1).take m) := hA1.take m (by omega)
  have hB : SlY yE w a2 m c2 ((B0.take k2).take m) := hB1.take m (by omega)
  have hvA : ∀ x ∈ (A0.take k1).take m, x.o.v.size ≤ 140737488350000 := fun x hx => hvA0 x (List.mem_of_mem_take (List.mem_of_mem_take hx))
  have hvB : ∀ x ∈ (B0.take k2).take m, x.o.v.size ≤ 140737488350000 := fun x hx => hvB0 x (List.mem_of_mem_take (List.mem_of_mem_take hx))
  have hm1 : m ≤ k1 := by omega
  have hm2 : m ≤ k2 := by omega
  clear hm
  generalize (A0.take k1).take m = A at *
  generalize (B0.take k2).take m = B at *
  clear hvA0 hvB0 hA0 hB0
  refine wpList_nil ?_
  go_upto_region 4 with fail
  refine wp_region_lit ?_
  refine q13.t (.slice a k1 c) (ex_move rfl (q13.e (j := 0) rfl)) fun _ q14 => ?_;clear q13
  refine q14.t (.int .i64 ((m : Nat) : Int)) (ex_move rfl (q14.e (j := 5) rfl)) fun _ q15 => ?_;clear q14
  refine q15.t (.slice a m c) (ex_sl19 rfl (q15.e (j := 15) rfl) rfl (congrArg some (q15.e (j := 16) rfl)) rfl (slToS20 hA1 m hm1 _)) fun _ q16 => ?_;clear q15
  refine q16.t (.slice a m c) (ex_assign rfl (q16.e (j := 17) rfl)) fun _ q17 => ?_;clear q16
  refine wpList_nil ?_
  go_upto_region 5 with fail
  refine wp_region_lit ?_
  refine q17.t (.slice a2 k2 c2) (ex_move rfl (q17.e (j := 1) rfl)) fun _ q18 => ?_;clear q17
  refine q18.t (.int .i64 ((m : Nat) : Int)) (ex_move rfl (q18.e (j := 5) rfl)) fun _ q19 => ?_;clear q18
  refine q19.t (.slice a2 m c2) (ex_sl19 rfl (q19.e (j := 18) rfl) rfl (congrArg some (q19.e (j := 19) rfl)) rfl (slToS20 hB1 m hm2 _)) fun _ q20 => ?_;clear q19
  refine q20.t (.slice a2 m c2) (ex_assign rfl (q20.e (j := 20) rfl)) fun _ q21 => ?_;clear q20
  have q22 := (((Rp.nil q21.z).cons (q21.a 0 rfl)).cons (q21.a 1 rfl))
  clear q21
  clear hA1 hB1
  have lA := hA.len
  have lB := hB.len
  refine wpList_nil ?_
  go_upto_region 6 with fail
  refine wp_region_lit ?_
  refine q22.t (.slice a m c) (ex_move rfl (q22.e (j := 0) rfl)) fun _ q23 => ?_;clear q22
  refine vcallP (want_none rfl) (ex_call rfl (by simp only [List.map_toArray, List.map_cons, List.map_nil, (q23.e (j := 21) rfl), evc] <;> rfl) rfl) (head20 A a m c w hA (by omega) hvA) rfl q23.z (by decide) ?_
  rintro e w1 ⟨rfl, b1⟩
  refine ⟨_, rfl, q23.k fun _ q24 => ?_⟩;clear q23
  have z1 := b1.size
  have hB2 := hB.later b1
  refine q24.t (.slice a2 m c2) (ex_move rfl (q24.e (j := 1) rfl)) fun _ q25 => ?_;clear q24
  refine vcallP (want_none rfl) (ex_call rfl (by simp only [List.map_toArray, List.map_cons, List.map_nil, (q25.e (j := 23) rfl), evc] <;> rfl) rfl) (head20 B a2 m c2 w1 hB2 (by omega) hvB) rfl q25.z (by decide) ?_
  rintro e w2 ⟨rfl, b2⟩
  refine ⟨_, rfl, q25.k fun _ q26 => ?_⟩;clear q25
  have z2 := b2.size
  have d2 : Below w.heap.size w w2 := b1.trans (b2.mono (by omega))
  have A2 := (hA.later b1).later b2
  have B2 := hB2.later b2
  refine q26.t (.bool (!decide ((hd (A.map lf)).v = (hd (B.map lf)).v))) (ex_bin rfl (q26.e (j := 22) rfl) (q26.e (j := 24) rfl) (neHZ _ _ _ _ _)) fun _ q27 => ?_;clear q26
  refine wpList_nil ?_
  by_cases hh : (hd (A.map lf)).v = (hd (B.map lf)).v
  · rw [decide_eq_true hh] at q27
    have hhd : hd (A.map lf) = hd (B.map lf) := Hs.ext20 hh
    have HH := hide hhd
    clear hhd hh
    go_upto_region 8 with fail
    refine wp_cond_false (q27.e (j := 25) rfl) ?_
    go_upto_region 8 with fail
    refine wp_region_lit ?_
    refine vcallP (want_none rfl) (ex_call (args := #[]) rfl (by simp) rfl) (works20 w2) rfl q27.z (by decide) ?_
    rintro e w3 ⟨rfl, b3⟩
    refine ⟨_, rfl, q27.k fun _ q28 => ?_⟩;clear q27
    have z3 := b3.size
    have d3 : Below w.heap.size w w3 := d2.trans (b3.mono (by omega))
    have A3 := A2.later b3
    have B3 := B2.later b3
    refine q28.t (.bool true) (ex_move rfl (q28.e (j := 32) rfl)) fun _ q29 => ?_;clear q28
    refine vl ((true && (true == true))) (.slice a m c) (want_g rfl rfl (q29.a 33 rfl)) (fun hc => ex_move rfl (q29.e (j := 0) rfl)) rfl q29.z (by decide) (q29.k fun _ q30 => ?_);clear q29
    refine vl ((true && (true == true))) (.slice a2 m c2) (want_g rfl rfl (q30.a 33 rfl)) (fun hc => ex_move rfl (q30.e (j := 1) rfl)) rfl q30.z (by decide) (q30.k fun _ q31 => ?_);clear q30
    refine vcallP (show Region.wanted _ _ = ((true && (true == true))) from want_g rfl rfl (q31.a 33 rfl)) (ex_call rfl (by simp only [List.map_toArray, List.map_cons, List.map_nil, (q31.e (j := 34) rfl), (q31.e (j := 35) rfl), evc] <;> rfl) rfl) (unlike20 A B a m c a2 c2 w3 A3 B3 (by omega)) rfl q31.z (by decide) ?_
    rintro e w4 ⟨rfl, b4⟩
    refine ⟨_, rfl, q31.k fun _ q32 => ?_⟩;clear q31
    have z4 := b4.size
    have d4 : Below w.heap.size w w4 := d3.trans (b4.mono (by omega))
    have A4 := A3.later b4
    have B4 := B3.later b4
    by_cases hAB : A = B
    · rw [decide_eq_true hAB] at q32
      clear hAB
      refine vl ((true && (true == true))) (.bool true) (want_g rfl rfl (q32.a 33 rfl)) (fun hc => ex_not (b := false) rfl (q32.e (j := 36) rfl)) rfl q32.z (by decide) (q32.k fun _ q33 => ?_);clear q32
      refine vl ((true && (true == true))) (.bool true) (want_g rfl rfl (q33.a 33 rfl)) (fun hc => ex_move rfl (q33.e (j := 37) rfl)) rfl q33.z (by decide) (q33.k fun _ q34 => ?_);clear q33
      refine vl (((true && (true == true)) && (true == false))) (.bool false) (want_g rfl rfl (q34.a 38 rfl)) (fun hc => by cases hc) rfl q34.z (by decide) (q34.k fun _ q35 => ?_);clear q34
      refine vl (((true && (true == true)) && (true == false))) (.bool false) (want_g rfl rfl (q35.a 38 rfl)) (fun hc => by cases hc) rfl q35.z (by decide) (q35.k fun _ q36 => ?_);clear q35
      refine vl (((true && (true == true)) && (true == false))) (.bool false) (want_g rfl rfl (q36.a 38 rfl)) (fun hc => by cases hc) rfl q36.z (by decide) (q36.k fun _ q37 => ?_);clear q36
      refine vl ((true && (true == true))) (.bool true) (want_g rfl rfl (q37.a 33 rfl)) (fun hc => ex_or (c := (true && (true == true))) (b := true) (z := false) rfl (q37.a 38 rfl) (q37.a 41 rfl) rfl) rfl q37.z (by decide) (q37.k fun _ q38 => ?_);clear q37
      refine q38.t (.bool true) (ex_and (c := true) (b := true) (z := true) rfl (q38.a 33 rfl) (q38.a 42 rfl) rfl) fun _ q39 => ?_;clear q38
      refine q39.t (.bool true) (ex_assign rfl (q39.e (j := 43) rfl)) fun _ q40 => ?_;clear q39
      refine wpList_nil ?_
      go_wp2
      refine bodyPost_ret (results_tmp rfl _ _ _) rfl ?_
      rw [getD_of (q40.a 4 rfl)]
      exact ⟨rfl, d4⟩
    · rw [decide_eq_false hAB] at q32
      have m1 : 1 ≤ m := by
        rcases Nat.eq_zero_or_pos m with e | e
        · exact absurd (show A = B by rw [List.eq_nil_of_length_eq_zero (lA.trans e), List.eq_nil_of_length_eq_zero (lB.trans e)]) hAB
        · exact e
      have HN := hide hAB
      clear hAB
      refine vl ((true && (true == true))) (.bool false) (want_g rfl rfl (q32.a 33 rfl)) (fun hc => ex_not (b := true) rfl (q32.e (j := 36) rfl)) rfl q32.z (by decide) (q32.k fun _ q33 => ?_);clear q32
      refine vl ((true && (true == true))) (.bool false) (want_g rfl rfl (q33.a 33 rfl)) (fun hc => ex_move rfl (q33.e (j := 37) rfl)) rfl q33.z (by decide) (q33.k fun _ q34 => ?_);clear q33
      refine vl (((true && (true == true)) && (false == false))) (.slice a m c) (want_g rfl rfl (q34.a 38 rfl)) (fun hc => ex_move rfl (q34.e (j := 0) rfl)) rfl q34.z (by decide) (q34.k fun _ q35 => ?_);clear q34
      refine vl (((true && (true == true)) && (false == false))) (.slice a2 m c2) (want_g rfl rfl (q35.a 38 rfl)) (fun hc => ex_move rfl (q35.e (j := 1) rfl)) rfl q35.z (by decide) (q35.k fun _ q36 => ?_);clear q35
      refine vcallP (show Region.wanted _ _ = (((true && (true == true)) && (false == false))) from want_g rfl rfl (q36.a 38 rfl)) (ex_call rfl (by simp only [List.map_toArray, List.map_cons, List.map_nil, (q36.e (j := 39) rfl), (q36.e (j := 40) rfl), evc] <;> rfl) rfl) (clash20 A B a m c a2 c2 w4 A4 B4 m1 (by omega) HH.out HN.out hvA hvB) rfl q36.z (by decide) ?_
      rintro e w5 ⟨rfl, b5⟩
      refine ⟨_, rfl, q36.k fun _ q37 => ?_⟩;clear q36
      have d5 : Below w.heap.size w w5 := d4.trans (b5.mono d4.size)
      refine vl ((true && (true == true))) (.bool true) (want_g rfl rfl (q37.a 33 rfl)) (fun hc => ex_or (c := (true && (true == true))) (b := false) (z := true) rfl (q37.a 38 rfl) (q37.a 41 rfl) rfl) rfl q37.z (by decide) (q37.k fun _ q38 => ?_);clear q37
      refine q38.t (.bool true) (ex_and (c := true) (b := true) (z := true) rfl (q38.a 33 rfl) (q38.a 42 rfl) rfl) fun _ q39 => ?_;clear q38
      refine q39.t (.bool true) (ex_assign rfl (q39.e (j := 43) rfl)) fun _ q40 => ?_;clear q39
      refine wpList_nil ?_
      go_wp2
      refine bodyPost_ret (results_tmp rfl _ _ _) rfl ?_
      rw [getD_of (q40.a 4 rfl)]
      exact ⟨rfl, d5⟩
  · rw [decide_eq_false hh] at q27
    have hAB : ¬ A = B := fun e => hh (by rw [e])
    have HN := hide hAB
    clear hAB hh
    go_upto_region 7 with fail
    refine wp_cond_true (q27.e (j := 25) rfl) ?_
    go_upto_region 7 with fail
    refine wp_region_lit ?_
    refine q27.t (.slice a m c) (ex_move rfl (q27.e (j := 0) rfl)) fun _ q28 => ?_;clear q27
    refine q28.t (.slice a2 m c2) (ex_move rfl (q28.e (j := 1) rfl)) fun _ q29 => ?_;clear q28
    refine vcallP (want_none rfl) (ex_call rfl (by simp only [List.map_toArray, List.map_cons, List.map_nil, (q29.e (j := 26) rfl), (q29.e (j := 27) rfl), evc] <;> rfl) rfl) (unlike20 A B a m c a2 c2 w2 A2 B2 (by omega)) rfl q29.z (by decide) ?_
    rintro e w3 ⟨rfl, b3⟩
    refine ⟨_, rfl, q29.k fun _ q30 => ?_⟩;clear q29
    have z3 := b3.size
    have d3 : Below w.heap.size w w3 := d2.trans (b3.mono (by omega))
    rw [decide_eq_false HN.out] at q30
    refine q30.t (.bool true) (ex_move rfl (q30.e (j := 28) rfl)) fun _ q31 => ?_;clear q30
    refine vcallP (show Region.wanted _ _ = ((true && (true == true))) from want_g rfl rfl (q31.a 29 rfl)) (ex_call (args := #[]) rfl (by simp) rfl) (works20 w3) rfl q31.z (by decide) ?_
    rintro e w4 ⟨rfl, b4⟩
    refine ⟨_, rfl, q31.k fun _ q32 => ?_⟩;clear q31
    refine q32.t (.bool true) (ex_and (c := true) (b := true) (z := true) rfl (q32.a 29 rfl) (q32.a 30 rfl) rfl) fun _ q33 => ?_;clear q32
    refine q33.t (.bool true) (ex_assign rfl (q33.e (j := 31) rfl)) fun _ q34 => ?_;clear q33
    refine wpList_nil ?_
    go_wp2
    refine bodyPost_ret (results_tmp rfl _ _ _) rfl ?_
    rw [getD_of (q34.a 4 rfl)]
    exact ⟨rfl, d3.trans (b4.mono d3.size)⟩

end Go.Proofs.Ytaagmdkhjmonnaa
