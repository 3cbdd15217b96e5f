import Derived.Test.YtfafhlahbhopaaaD9
set_option maxRecDepth 100000
set_option linter.unusedVariables false
set_option linter.unusedSimpArgs false
namespace Go.Proofs.Ytfafhlahbhopaaa
open Go.RowKit Go.Maps
open Classical
theorem inR_le (L : List Hs) (p : Int) : (inR L p).1.length ≤ L.length := by
  unfold inR
  by_cases hb : p < 1 ∨ (L.length : Int) < p
  · rw [if_pos hb]; exact Nat.zero_le _
  · rw [if_neg hb]
    have e1 := pu_len L.length L p.toNat rfl (by omega)
    have e2 := su_le L.length p.toNat (by omega)
    show (pu L p.toNat).length ≤ _
    omega
theorem csR_le (L : List Hs) (p : Int) : (csR L p).1.length ≤ L.length := by
  unfold csR
  by_cases hb : p < 0 ∨ (L.length : Int) < p
  · rw [if_pos hb]; exact Nat.zero_le _
  · rw [if_neg hb]
    by_cases h0 : p = 0
    · rw [if_pos h0]; exact Nat.zero_le _
    · rw [if_neg h0]
      have e1 := pa_len L.length L p.toNat true rfl (by omega) (by omega)
      have e2 := sa_le L.length p.toNat true (by omega) (by omega)
      show (pa L p.toNat true).length ≤ _
      omega
theorem sameR20 (A : List Hs) (a : Option Addr) (n c : Nat) (a2 : Option Addr) (n2 c2 : Nat) (w : World) (hA : SlY yH w a n c A) (hB : SlY yH w a2 n2 c2 A) (hn : n ≤ 8000000000000000000) :
    Calls Try.prog 23 #[.slice a n c, .slice a2 n2 c2] w fun e w' => e = .returned (.bool true) ∧ Below w.heap.size w w' := by
  have := sameH20 A A a n c a2 n2 c2 w hA hB hn
  rw [decide_eq_true rfl] at this
  exact this
set_option maxHeartbeats 2000000 in
theorem paths20 (l : List En) (a : Option Addr) (n c : Nat) (place size : Int) (w : World) (h : SlY yE w a n c l) (hn : n ≤ 2932031007317) (hv : ∀ x ∈ l, x.o.v.size ≤ 140737488351232) :
    Calls Try.prog 4 #[.slice a n c, .int .i64 place, .int .i64 size] w fun e w' => e = .returned (.bool true) ∧ Below w.heap.size w w' := by
  have hln := h.len
  have hl1 := inR_le (l.map lf) place
  have hl2 := csR_le (l.map lf) size
  rw [List.length_map, hln] at hl1 hl2
  have hl1 : (inR (l.map lf) place).1.length ≤ 8000000000000000000 := by omega
  have hl2 : (csR (l.map lf) size).1.length ≤ 8000000000000000000 := by omega
  go_enter Try.func4, Try.ntmps4
  go_upto_region 0 with fail
  refine wp_region_lit ?_
  refine vl_gen (fun T => Rp T 67 [(2, gw true (.int .i64 (size : Int))), (1, gw true (.int .i64 (place : Int))), (0, gw true (.slice a n c))]) ((((Rp.nil rfl).cons rfl).cons rfl).cons rfl) (fun Z0 q0 => ?_)
  refine q0.t (.bool false) (ex_assign rfl rfl) fun _ q1 => ?_;clear q0
  refine wpList_nil ?_
  go_upto_region 1 with fail
  refine wp_region_lit ?_
  obtain ⟨w1, hw1⟩ : ∃ y, y = w.alloc (.cells (List.replicate 10 (.slice none 0 0 : Value)).toArray 35) := ⟨_, rfl⟩
  refine vw (.pointer (some ⟨w.heap.size, 0, none⟩)) w1 (want_none rfl) (ex_al rfl (by rw [hw1]; exact alGv20 _)) rfl q1.z (by decide) (q1.k fun _ q2 => ?_);clear q1
  have Bw1 : BB w1 w.heap.size 35 (List.replicate 10 (.slice none 0 0 : Value)) := by rw [hw1]; exact BB.new _ _ _
  have bw1 : Below w.heap.size w w1 := by rw [hw1]; exact (Below.refl _ _).alloc (Nat.le_refl _) _
  have zw1 : w1.heap.size = w.heap.size + 1 := by rw [hw1]; exact World.size_alloc _ _
  clear hw1
  have d2 : Below w.heap.size w w1 := bw1
  refine wpList_nil ?_
  go_upto_region 2 with fail
  refine wp_region_lit ?_
  refine q2.t (.slice a n c) (ex_move rfl (q2.e (j := 0) rfl)) fun _ q3 => ?_;clear q2
  refine vcallP (want_none rfl) (ex_call rfl (by simp only [List.map_toArray, List.map_cons, List.map_nil, (q3.e (j := 7) rfl), (q3.e (j := 17) rfl), evc] <;> rfl) rfl) (entries20 w.heap.size a n c l w1 Bw1 (h.later d2) (by omega)) rfl q3.z (by decide) ?_
  rintro e w3 ⟨g1, cg, rfl, S1, G1, uw3⟩
  refine ⟨_, rfl, q3.k fun _ q4 => ?_⟩;clear q3
  have zw3 := uw3.size
  have d4 : Below w.heap.size w w3 := d2.trans (bel_ge uw3 d2.size (by omega))
  refine q4.t (.slice (some ⟨g1, 0, none⟩) n cg) (ex_assign rfl (q4.e (j := 18) rfl)) fun _ q5 => ?_;clear q4
  refine wpList_nil ?_
  go_upto_region 3 with fail
  refine wp_region_lit ?_
  refine q5.t (.slice (some ⟨g1, 0, none⟩) n cg) (ex_move rfl (q5.e (j := 8) rfl)) fun _ q6 => ?_;clear q5
  refine q6.t (.int .i64 (place : Int)) (ex_move rfl (q6.e (j := 1) rfl)) fun _ q7 => ?_;clear q6
  refine vcallP (want_none rfl) (ex_call rfl (by simp only [List.map_toArray, List.map_cons, List.map_nil, (q7.e (j := 20) rfl), (q7.e (j := 21) rfl), evc] <;> rfl) rfl) (incllude20 l _ _ _ place w3 S1 (by omega) (fun x hx => Nat.le_trans (hv x hx) (by decide))) rfl q7.z (by decide) ?_
  rintro e w5 ⟨v1, rfl, o1, bw5⟩
  refine ⟨_, rfl, q7.k fun _ q8 => ?_⟩;clear q7
  have zw5 := bw5.size
  have d6 : Below w.heap.size w w5 := d4.trans (bw5.mono d4.size)
  obtain ⟨a1, c1, hv1, s1x, _⟩ := o1.sl kH
  subst hv1
  refine q8.t (.tuple #[.slice a1 ((inR (l.map lf) place).1.length) c1, .int .i64 ((inR (l.map lf) place).2 : Int)]) (ex_move rfl (q8.e (j := 22) rfl)) fun _ q9 => ?_;clear q8
  refine q9.t (.slice a1 ((inR (l.map lf) place).1.length) c1) (ex_ext18 rfl (q9.e (j := 19) rfl) rfl) fun _ q10 => ?_;clear q9
  refine q10.t (.int .i64 ((inR (l.map lf) place).2 : Int)) (ex_ext18 rfl (q10.e (j := 19) rfl) rfl) fun _ q11 => ?_;clear q10
  refine q11.t (.slice a1 ((inR (l.map lf) place).1.length) c1) (ex_assign rfl (q11.e (j := 23) rfl)) fun _ q12 => ?_;clear q11
  refine q12.t (.int .i64 ((inR (l.map lf) place).2 : Int)) (ex_assign rfl (q12.e (j := 24) rfl)) fun _ q13 => ?_;clear q12
  refine wpList_nil ?_
  go_upto_region 4 with fail
  refine wp_region_lit ?_
  refine q13.t (.slice a n c) (ex_move rfl (q13.e (j := 0) rfl)) fun _ q14 => ?_;clear q13
  refine q14.t (.int .i64 (place : Int)) (ex_move rfl (q14.e (j := 1) rfl)) fun _ q15 => ?_;clear q14
  refine vcallP (want_none rfl) (ex_call rfl (by simp only [List.map_toArray, List.map_cons, List.map_nil, (q15.e (j := 26) rfl), (q15.e (j := 27) rfl), evc] <;> rfl) rfl) (rincl20 l _ _ _ place w5 (h.later d6) (by omega) hv) rfl q15.z (by decide) ?_
  rintro e w7 ⟨v2, rfl, o2, bw7⟩
  refine ⟨_, rfl, q15.k fun _ q16 => ?_⟩;clear q15
  have zw7 := bw7.size
  have d8 : Below w.heap.size w w7 := d6.trans (bw7.mono d6.size)
  obtain ⟨a2, c2, hv2, s2x, _⟩ := o2.sl kH
  subst hv2
  refine q16.t (.tuple #[.slice a2 ((inR (l.map lf) place).1.length) c2, .int .i64 ((inR (l.map lf) place).2 : Int)]) (ex_move rfl (q16.e (j := 28) rfl)) fun _ q17 => ?_;clear q16
  refine q17.t (.slice a2 ((inR (l.map lf) place).1.length) c2) (ex_ext18 rfl (q17.e (j := 25) rfl) rfl) fun _ q18 => ?_;clear q17
  refine q18.t (.int .i64 ((inR (l.map lf) place).2 : Int)) (ex_ext18 rfl (q18.e (j := 25) rfl) rfl) fun _ q19 => ?_;clear q18
  refine q19.t (.slice a2 ((inR (l.map lf) place).1.length) c2) (ex_assign rfl (q19.e (j := 29) rfl)) fun _ q20 => ?_;clear q19
  refine q20.t (.int .i64 ((inR (l.map lf) place).2 : Int)) (ex_assign rfl (q20.e (j := 30) rfl)) fun _ q21 => ?_;clear q20
  refine wpList_nil ?_
  go_upto_region 5 with fail
  refine wp_region_lit ?_
  refine q21.t (.slice (some ⟨g1, 0, none⟩) n cg) (ex_move rfl (q21.e (j := 8) rfl)) fun _ q22 => ?_;clear q21
  refine q22.t (.int .i64 (size : Int)) (ex_move rfl (q22.e (j := 2) rfl)) fun _ q23 => ?_;clear q22
  refine vcallP (want_none rfl) (ex_call rfl (by simp only [List.map_toArray, List.map_cons, List.map_nil, (q23.e (j := 32) rfl), (q23.e (j := 33) rfl), evc] <;> rfl) rfl) (consist20 l _ _ _ size w7 ((S1.later bw5).later bw7) (by omega) (fun x hx => Nat.le_trans (hv x hx) (by decide))) rfl q23.z (by decide) ?_
  rintro e w9 ⟨v3, rfl, o3, bw9⟩
  refine ⟨_, rfl, q23.k fun _ q24 => ?_⟩;clear q23
  have zw9 := bw9.size
  have d10 : Below w.heap.size w w9 := d8.trans (bw9.mono d8.size)
  obtain ⟨a3, c3, hv3, s3x, _⟩ := o3.sl kH
  subst hv3
  refine q24.t (.tuple #[.slice a3 ((csR (l.map lf) size).1.length) c3, .int .i64 ((csR (l.map lf) size).2 : Int)]) (ex_move rfl (q24.e (j := 34) rfl)) fun _ q25 => ?_;clear q24
  refine q25.t (.slice a3 ((csR (l.map lf) size).1.length) c3) (ex_ext18 rfl (q25.e (j := 31) rfl) rfl) fun _ q26 => ?_;clear q25
  refine q26.t (.int .i64 ((csR (l.map lf) size).2 : Int)) (ex_ext18 rfl (q26.e (j := 31) rfl) rfl) fun _ q27 => ?_;clear q26
  refine q27.t (.slice a3 ((csR (l.map lf) size).1.length) c3) (ex_assign rfl (q27.e (j := 35) rfl)) fun _ q28 => ?_;clear q27
  refine q28.t (.int .i64 ((csR (l.map lf) size).2 : Int)) (ex_assign rfl (q28.e (j := 36) rfl)) fun _ q29 => ?_;clear q28
  refine wpList_nil ?_
  go_upto_region 6 with fail
  refine wp_region_lit ?_
  refine q29.t (.slice a n c) (ex_move rfl (q29.e (j := 0) rfl)) fun _ q30 => ?_;clear q29
  refine q30.t (.int .i64 (size : Int)) (ex_move rfl (q30.e (j := 2) rfl)) fun _ q31 => ?_;clear q30
  refine vcallP (want_none rfl) (ex_call rfl (by simp only [List.map_toArray, List.map_cons, List.map_nil, (q31.e (j := 38) rfl), (q31.e (j := 39) rfl), evc] <;> rfl) rfl) (rcons20 l _ _ _ size w9 (h.later d10) (by omega) hv) rfl q31.z (by decide) ?_
  rintro e w11 ⟨v4, rfl, o4, bw11⟩
  refine ⟨_, rfl, q31.k fun _ q32 => ?_⟩;clear q31
  have zw11 := bw11.size
  have d12 : Below w.heap.size w w11 := d10.trans (bw11.mono d10.size)
  obtain ⟨a4, c4, hv4, s4x, _⟩ := o4.sl kH
  subst hv4
  refine q32.t (.tuple #[.slice a4 ((csR (l.map lf) size).1.length) c4, .int .i64 ((csR (l.map lf) size).2 : Int)]) (ex_move rfl (q32.e (j := 40) rfl)) fun _ q33 => ?_;clear q32
  refine q33.t (.slice a4 ((csR (l.map lf) size).1.length) c4) (ex_ext18 rfl (q33.e (j := 37) rfl) rfl) fun _ q34 => ?_;clear q33
  refine q34.t (.int .i64 ((csR (l.map lf) size).2 : Int)) (ex_ext18 rfl (q34.e (j := 37) rfl) rfl) fun _ q35 => ?_;clear q34
  refine q35.t (.slice a4 ((csR (l.map lf) size).1.length) c4) (ex_assign rfl (q35.e (j := 41) rfl)) fun _ q36 => ?_;clear q35
  refine q36.t (.int .i64 ((csR (l.map lf) size).2 : Int)) (ex_assign rfl (q36.e (j := 42) rfl)) fun _ q37 => ?_;clear q36
  refine wpList_nil ?_
  go_upto_region 7 with fail
  refine wp_region_lit ?_
  refine q37.t (.int .i64 ((inR (l.map lf) place).2 : Int)) (ex_move rfl (q37.e (j := 10) rfl)) fun _ q38 => ?_;clear q37
  refine q38.t (.int .i64 ((inR (l.map lf) place).2 : Int)) (ex_move rfl (q38.e (j := 12) rfl)) fun _ q39 => ?_;clear q38
  refine q39.t (.bool true) (ex_bin rfl (q39.e (j := 43) rfl) (q39.e (j := 44) rfl) (eqT20 _ _ (by omega) _)) fun _ q40 => ?_;clear q39
  refine q40.t (.bool true) (ex_move rfl (q40.e (j := 45) rfl)) fun _ q41 => ?_;clear q40
  refine vl ((true && (true == true))) (.slice a1 ((inR (l.map lf) place).1.length) c1) (want_g rfl rfl (q41.a 46 rfl)) (fun hc => ex_move rfl (q41.e (j := 9) rfl)) rfl q41.z (by decide) (q41.k fun _ q42 => ?_);clear q41
  refine vl ((true && (true == true))) (.slice a2 ((inR (l.map lf) place).1.length) c2) (want_g rfl rfl (q42.a 46 rfl)) (fun hc => ex_move rfl (q42.e (j := 11) rfl)) rfl q42.z (by decide) (q42.k fun _ q43 => ?_);clear q42
  refine vcallP (show Region.wanted _ _ = (true && (true == true)) from want_g rfl rfl (q43.a 46 rfl)) (ex_call rfl (by simp only [List.map_toArray, List.map_cons, List.map_nil, (q43.e (j := 47) rfl), (q43.e (j := 48) rfl), evc] <;> rfl) rfl) (sameR20 (inR (l.map lf) place).1 _ _ _ _ _ _ w11 (((s1x.later bw7).later bw9).later bw11) ((s2x.later bw9).later bw11) hl1) rfl q43.z (by decide) ?_
  rintro e w13 ⟨rfl, bw13⟩
  refine ⟨_, rfl, q43.k fun _ q44 => ?_⟩;clear q43
  have zw13 := bw13.size
  have d14 : Below w.heap.size w w13 := d12.trans (bw13.mono d12.size)
  refine q44.t (.bool true) (ex_and (c := true) (b := true) (z := true) rfl (q44.a 46 rfl) (q44.a 49 rfl) rfl) fun _ q45 => ?_;clear q44
  refine q45.t (.bool true) (ex_move rfl (q45.e (j := 50) rfl)) fun _ q46 => ?_;clear q45
  refine vl ((true && (true == true))) (.int .i64 ((csR (l.map lf) size).2 : Int)) (want_g rfl rfl (q46.a 51 rfl)) (fun hc => ex_move rfl (q46.e (j := 14) rfl)) rfl q46.z (by decide) (q46.k fun _ q47 => ?_);clear q46
  refine vl ((true && (true == true))) (.int .i64 ((csR (l.map lf) size).2 : Int)) (want_g rfl rfl (q47.a 51 rfl)) (fun hc => ex_move rfl (q47.e (j := 16) rfl)) rfl q47.z (by decide) (q47.k fun _ q48 => ?_);clear q47
  refine vl ((true && (true == true))) (.bool true) (want_g rfl rfl (q48.a 51 rfl)) (fun hc => ex_bin rfl (ev (q48.a 52 rfl) hc) (ev (q48.a 53 rfl) hc) (eqT20 _ _ (by omega) _)) rfl q48.z (by decide) (q48.k fun _ q49 => ?_);clear q48
  refine q49.t (.bool true) (ex_and (c := true) (b := true) (z := true) rfl (q49.a 51 rfl) (q49.a 54 rfl) rfl) fun _ q50 => ?_;clear q49
  refine q50.t (.bool true) (ex_move rfl (q50.e (j := 55) rfl)) fun _ q51 => ?_;clear q50
  refine vl ((true && (true == true))) (.slice a3 ((csR (l.map lf) size).1.length) c3) (want_g rfl rfl (q51.a 56 rfl)) (fun hc => ex_move rfl (q51.e (j := 13) rfl)) rfl q51.z (by decide) (q51.k fun _ q52 => ?_);clear q51
  refine vl ((true && (true == true))) (.slice a4 ((csR (l.map lf) size).1.length) c4) (want_g rfl rfl (q52.a 56 rfl)) (fun hc => ex_move rfl (q52.e (j := 15) rfl)) rfl q52.z (by decide) (q52.k fun _ q53 => ?_);clear q52
  refine vcallP (show Region.wanted _ _ = (true && (true == true)) from want_g rfl rfl (q53.a 56 rfl)) (ex_call rfl (by simp only [List.map_toArray, List.map_cons, List.map_nil, (q53.e (j := 57) rfl), (q53.e (j := 58) rfl), evc] <;> rfl) rfl) (sameR20 (csR (l.map lf) size).1 _ _ _ _ _ _ w13 ((s3x.later bw11).later bw13) (s4x.later bw13) hl2) rfl q53.z (by decide) ?_
  rintro e w15 ⟨rfl, bw15⟩
  refine ⟨_, rfl, q53.k fun _ q54 => ?_⟩;clear q53
  have zw15 := bw15.size
  have d16 : Below w.heap.size w w15 := d14.trans (bw15.mono d14.size)
  refine q54.t (.bool true) (ex_and (c := true) (b := true) (z := true) rfl (q54.a 56 rfl) (q54.a 59 rfl) rfl) fun _ q55 => ?_;clear q54
  refine q55.t (.bool true) (ex_move rfl (q55.e (j := 60) rfl)) fun _ q56 => ?_;clear q55
  refine vcallP (show Region.wanted _ _ = (true && (true == true)) from want_g rfl rfl (q56.a 61 rfl)) (ex_call rfl (by simp only [List.map_toArray, List.map_cons, List.map_nil, (q56.e (j := 7) rfl), evc] <;> rfl) rfl) (intact20 w.heap.size w15 ((((((G1.bel bw5).bel bw7).bel bw9).bel bw11).bel bw13).bel bw15)) rfl q56.z (by decide) ?_
  rintro e w17 ⟨rfl, bw17⟩
  refine ⟨_, rfl, q56.k fun _ q57 => ?_⟩;clear q56
  have zw17 := bw17.size
  have d18 : Below w.heap.size w w17 := d16.trans (bw17.mono d16.size)
  refine q57.t (.bool true) (ex_and (c := true) (b := true) (z := true) rfl (q57.a 61 rfl) (q57.a 62 rfl) rfl) fun _ q58 => ?_;clear q57
  refine q58.t (.bool true) (ex_move rfl (q58.e (j := 63) rfl)) fun _ q59 => ?_;clear q58
  refine vcallP (show Region.wanted _ _ = (true && (true == true)) from want_g rfl rfl (q59.a 64 rfl)) (ex_call (args := #[]) rfl (by simp) rfl) (works20 w17) rfl q59.z (by decide) ?_
  rintro e w19 ⟨rfl, bw19⟩
  refine ⟨_, rfl, q59.k fun _ q60 => ?_⟩;clear q59
  have zw19 := bw19.size
  have d20 : Below w.heap.size w w19 := d18.trans (bw19.mono d18.size)
  refine q60.t (.bool true) (ex_and (c := true) (b := true) (z := true) rfl (q60.a 64 rfl) (q60.a 65 rfl) rfl) fun _ q61 => ?_;clear q60
  refine q61.t (.bool true) (ex_assign rfl (q61.e (j := 66) rfl)) fun _ q62 => ?_;clear q61
  refine wpList_nil ?_
  go_wp2
  refine bodyPost_ret (results_tmp rfl _ _ _) rfl ?_
  rw [getD_of (q62.a 6 rfl)]
  exact ⟨rfl, d20⟩
end Go.Proofs.Ytfafhlahbhopaaa
namespace Go.Proofs.Ytfafhlahbhopaaa
open Go.ChangeShapes Go.WideShapes Go.ChangeAt Go.RowKit Go.Maps
open Classical
theorem paths_cameW (a : Option Addr) (n c : Nat) (place size : Int) (W : World) (h : CameW W a n c) :
    Calls Try.prog 4 #[.slice a n c, .int .i64 place, .int .i64 size] W fun e w' => e = .returned (.bool true) ∧ Below W.heap.size W w' := by
  obtain ⟨l, s, f, hn⟩ := h
  exact paths20 l a n c place size W s hn f
end Go.Proofs.Ytfafhlahbhopaaa
