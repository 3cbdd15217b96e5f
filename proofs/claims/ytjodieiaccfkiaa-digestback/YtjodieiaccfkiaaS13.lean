import Derived.Test.YtjodieiaccfkiaaS12
namespace Go.Proofs.Ytjodieiaccfkiaa
open Go.RowKit Go.Maps
open Classical
set_option linter.unusedVariables false
set_option linter.unusedSimpArgs false

set_option maxRecDepth 100000 in
set_option maxHeartbeats 2000000 in
theorem back19 (h : List Int) (hh : Hb h) (t : ByteArray) (at_ : Int) (c : Int) (c0 : 0 ≤ c) (c1 : c < 256) (w : World) :
    Calls Try.prog 6 #[.agg (h.map bV).toArray, .string t, .int .i64 at_, .int .u8 c] w fun e w' => e = .returned (.bool true) ∧ Below w.heap.size w w' := by
  go_enter Try.func6, Try.ntmps6
  go_upto_region 0 with fail
  refine wp_region_lit ?_
  refine vl_gen (fun T => Rp T 123 [(3, gw true (.int .u8 c)), (2, gw true (.int .i64 at_)), (1, gw true (.string t)), (0, gw true (.agg (h.map bV).toArray))]) (((((Rp.nil rfl).cons rfl).cons rfl).cons rfl).cons rfl) (fun Z0 q0 => ?_)
  obtain ⟨ss, hss⟩ : ∃ ss, ss = strOfNums (prF h) := ⟨_, rfl⟩
  have htx : txt ss = prF h := by rw [hss]; exact txt_str _ (prF_in h hh.in_)
  have hsl : (prF h).length = 64 := by rw [prF_len, hh.len]
  have hsz : ss.size = 64 := by rw [← txt_len, htx, hsl]
  obtain ⟨w1, hw1⟩ : ∃ y, y = w.alloc (.cells (h.map bV).toArray 32) := ⟨_, rfl⟩
  refine vw (.pointer (some ⟨w.heap.size, 0, none⟩)) w1 (want_none rfl) (ex_box18 rfl (q0.e (j := 0) rfl) (by rw [hw1]; exact bxH _ _)) rfl q0.z (by decide) (q0.k fun _ q1 => ?_);clear q0
  have B1 : BB w1 w.heap.size 32 (h.map bV) := by rw [hw1]; exact BB.new _ _ _
  have b1 : Below w.heap.size w w1 := by rw [hw1]; exact (Below.refl _ _).alloc (Nat.le_refl _) _
  have z1 := b1.size
  clear hw1
  have hm : (h.map bV).length = 32 := by rw [len_bV, hh.len]
  refine q1.t (.bool false) (ex_assign rfl rfl) fun _ q2 => ?_;clear q1
  refine wpList_nil ?_
  go_upto_region 1 with fail
  refine wp_region_lit ?_
  refine vcallP (want_none rfl) (ex_call (args := #[]) rfl (by simp) rfl) (alive19 w1) rfl q2.z (by decide) ?_
  rintro e w2 ⟨rfl, b2⟩
  refine ⟨_, rfl, q2.k fun _ q3 => ?_⟩;clear q2
  have c2 : Below w.heap.size w w2 := b1.trans (b2.mono z1)
  have z2 := c2.size
  have B1 := B1.later b2
  refine q3.t (.bool false) (ex_not rfl (q3.e (j := 19) rfl)) fun _ q4 => ?_;clear q3
  have q5 := (((((((Rp.nil q4.z).cons (q4.a 0 rfl)).cons (q4.a 1 rfl)).cons (q4.a 2 rfl)).cons (q4.a 3 rfl)).cons (q4.a 4 rfl)).cons (q4.a 20 rfl))
  clear q4
  refine wpList_nil ?_
  go_upto_region 3 with fail
  refine wp_cond_false (q5.e (j := 20) rfl) ?_
  go_upto_region 3 with fail
  refine wp_region_lit ?_
  refine q5.t (.agg (h.map bV).toArray) (ex_ld rfl (q5.e (j := 4) rfl) ((B1).ld 32 Try.underlying32 rfl (by rw [hm]; exact i32h))) fun _ q6 => ?_;clear q5
  refine vcallP (want_none rfl) (ex_call rfl (by simp only [List.map_toArray, List.map_cons, List.map_nil, (q6.e (j := 21) rfl), evc] <;> rfl) rfl) (print19 h hh w2) rfl q6.z (by decide) ?_
  rintro e w3 ⟨rfl, b3⟩
  refine ⟨_, rfl, q6.k fun _ q7 => ?_⟩;clear q6
  have c3 : Below w.heap.size w w3 := c2.trans (b3.mono z2)
  have z3 := c3.size
  have B1 := B1.later b3
  rw [← hss] at q7
  refine q7.t (.string ss) (ex_assign rfl (q7.e (j := 22) rfl)) fun _ q8 => ?_;clear q7
  have q9 := ((((((Rp.nil q8.z).cons (q8.a 1 rfl)).cons (q8.a 2 rfl)).cons (q8.a 3 rfl)).cons (q8.a 4 rfl)).cons (q8.a 9 rfl))
  clear q8
  refine wpList_nil ?_
  go_upto_region 4 with fail
  refine wp_region_lit ?_
  refine q9.t (.string ss) (ex_move rfl (q9.e (j := 9) rfl)) fun _ q10 => ?_;clear q9
  refine vcallP (want_none rfl) (ex_call rfl (by simp only [List.map_toArray, List.map_cons, List.map_nil, (q10.e (j := 24) rfl), evc] <;> rfl) rfl) (parse19 ss w3) rfl q10.z (by decide) ?_
  rintro e x1 ⟨s, rfl, hs, bx1⟩
  refine ⟨_, rfl, q10.k fun _ q11 => ?_⟩;clear q10
  have cx1 : Below w.heap.size w x1 := c3.trans (bx1.mono c3.size)
  have zx := cx1.size
  have ls : (s.1.map bV).length = 32 := by rw [len_bV]; exact hs.len
  refine q11.t (.tuple #[.agg (s.1.map bV).toArray, .int .i64 s.2.1, .int .i64 s.2.2]) (ex_move rfl (q11.e (j := 25) rfl)) fun _ q12 => ?_;clear q11
  refine q12.t (.agg (s.1.map bV).toArray) (ex_ext18 rfl (q12.e (j := 23) rfl) rfl) fun _ q13 => ?_;clear q12
  refine q13.t (.int .i64 s.2.1) (ex_ext18 rfl (q13.e (j := 23) rfl) rfl) fun _ q14 => ?_;clear q13
  refine q14.t (.int .i64 s.2.2) (ex_ext18 rfl (q14.e (j := 23) rfl) rfl) fun _ q15 => ?_;clear q14
  obtain ⟨x2, hx2⟩ : ∃ y, y = x1.alloc (.cells (z32.map bV).toArray 32) := ⟨_, rfl⟩
  refine vw (.pointer (some ⟨x1.heap.size, 0, none⟩)) x2 (want_none rfl) (ex_al rfl (by rw [hx2]; exact alH _)) rfl q15.z (by decide) (q15.k fun _ q16 => ?_);clear q15
  have Zx : BB x2 x1.heap.size 32 (z32.map bV) := by rw [hx2]; exact BB.new _ _ _
  have bx2 : Below x1.heap.size x1 x2 := by rw [hx2]; exact (Below.refl _ _).alloc (Nat.le_refl _) _
  clear hx2
  obtain ⟨x3, hx3⟩ : ∃ y, y = x2.setCells x1.heap.size 0 (s.1.map bV) := ⟨_, rfl⟩
  refine vs x3 (want_none rfl) (ex_st rfl (q16.e (j := 10) rfl) (q16.e (j := 26) rfl) (by rw [hx3]; exact Zx.st 32 _ (by rw [ls, z32_m]) (by rw [List.size_toArray, ls]; exact i32h) (one_b _))) rfl ?_
  have Bx : BB x3 x1.heap.size 32 (s.1.map bV) := by rw [hx3]; exact Zx.whole _ (by rw [ls, z32_m])
  have bx3 : Below x1.heap.size x1 x3 := by rw [hx3]; exact bx2.trans (bel_ge (upd18 _ _ _ _) bx2.size (Nat.le_refl _))
  clear hx3 Zx
  have cx3 : Below w.heap.size w x3 := cx1.trans (bx3.mono zx)
  refine q16.t (.int .i64 s.2.1) (ex_assign rfl (q16.e (j := 27) rfl)) fun _ q17 => ?_;clear q16
  refine q17.t (.int .i64 s.2.2) (ex_assign rfl (q17.e (j := 28) rfl)) fun _ q18 => ?_;clear q17
  have B1 := (B1.later bx1).later bx3
  rw [htx] at hs
  obtain rfl := hs.back hh
  have q19 := ((((((((Rp.nil q18.z).cons (q18.a 1 rfl)).cons (q18.a 2 rfl)).cons (q18.a 3 rfl)).cons (q18.a 4 rfl)).cons (q18.a 9 rfl)).cons (q18.a 10 rfl)).cons (q18.a 11 rfl))
  clear q18
  refine wpList_nil ?_
  go_upto_region 5 with fail
  refine wp_region_lit ?_
  refine q19.t (.int .i64 0) (ex_move rfl (q19.e (j := 11) rfl)) fun _ q20 => ?_;clear q19
  refine vcallP (want_none rfl) (ex_call rfl (by simp only [List.map_toArray, List.map_cons, List.map_nil, (q20.e (j := 29) rfl), evc] <;> rfl) rfl) (num19 0 x3) rfl q20.z (by decide) ?_
  rintro e x4 ⟨rfl, rfl⟩
  refine ⟨_, rfl, q20.k fun _ q21 => ?_⟩;clear q20
  refine q21.t (.bool false) (ex_bin (Y := .int .i64 0) rfl (q21.e (j := 30) rfl) rfl (by rw [neqC]; rfl)) fun _ q22 => ?_;clear q21
  refine q22.t (.bool false) (ex_move rfl (q22.e (j := 31) rfl)) fun _ q23 => ?_;clear q22
  refine vl (true && (false == false)) (.agg (h.map bV).toArray) (want_g rfl rfl (q23.a 32 rfl)) (fun hc => ex_ld rfl (q23.e (j := 10) rfl) ((Bx).ld 32 Try.underlying32 rfl (by rw [hm]; exact i32h))) rfl q23.z (by decide) (q23.k fun _ q24 => ?_);clear q23
  refine vl (true && (false == false)) (.agg (h.map bV).toArray) (want_g rfl rfl (q24.a 32 rfl)) (fun hc => ex_ld rfl (q24.e (j := 4) rfl) ((B1).ld 32 Try.underlying32 rfl (by rw [hm]; exact i32h))) rfl q24.z (by decide) (q24.k fun _ q25 => ?_);clear q24
  refine vl (true && (false == false)) (.bool false) (want_g rfl rfl (q25.a 32 rfl)) (fun hc => ex_bin rfl (q25.e (j := 33) rfl) (q25.e (j := 34) rfl) (by rw [neqH _ _ hh.len hh.len, decide_eq_true rfl]; rfl)) rfl q25.z (by decide) (q25.k fun _ q26 => ?_);clear q25
  refine q26.t (.bool false) (ex_or (z := false) rfl (q26.a 32 rfl) (q26.a 35 rfl) rfl) fun _ q27 => ?_;clear q26
  refine q27.t (.bool false) (ex_move rfl (q27.e (j := 36) rfl)) fun _ q28 => ?_;clear q27
  refine vl (true && (false == false)) (.string ss) (want_g rfl rfl (q28.a 37 rfl)) (fun hc => ex_move rfl (q28.e (j := 9) rfl)) rfl q28.z (by decide) (q28.k fun _ q29 => ?_);clear q28
  refine vl (true && (false == false)) (.int .i64 (((txt ss).length : Nat) : Int)) (want_g rfl rfl (q29.a 37 rfl)) (fun hc => lenS9 rfl rfl (q29.e (j := 38) rfl)) rfl q29.z (by decide) (q29.k fun _ q30 => ?_);clear q29
  refine vl (true && (false == false)) (.bool false) (want_g rfl rfl (q30.a 37 rfl)) (fun hc => ex_bin (Y := .int .i64 64) rfl (q30.e (j := 39) rfl) rfl (by rw [htx, hsl, neqC]; rfl)) rfl q30.z (by decide) (q30.k fun _ q31 => ?_);clear q30
  refine q31.t (.bool false) (ex_or (z := false) rfl (q31.a 37 rfl) (q31.a 40 rfl) rfl) fun _ q32 => ?_;clear q31
  have q33 := ((((((Rp.nil q32.z).cons (q32.a 1 rfl)).cons (q32.a 2 rfl)).cons (q32.a 3 rfl)).cons (q32.a 9 rfl)).cons (q32.a 41 rfl))
  clear q32
  refine wpList_nil ?_
  go_upto_region 7 with fail
  refine wp_cond_false (q33.e (j := 41) rfl) ?_
  go_upto_region 7 with fail
  refine wp_region_lit ?_
  refine q33.t (.string t) (ex_move rfl (q33.e (j := 1) rfl)) fun _ q34 => ?_;clear q33
  refine vcallP (want_none rfl) (ex_call rfl (by simp only [List.map_toArray, List.map_cons, List.map_nil, (q34.e (j := 43) rfl), evc] <;> rfl) rfl) (parse19 t x4) rfl q34.z (by decide) ?_
  rintro e y1 ⟨r, rfl, hr, by1⟩
  refine ⟨_, rfl, q34.k fun _ q35 => ?_⟩;clear q34
  have cy1 : Below w.heap.size w y1 := cx3.trans (by1.mono cx3.size)
  have zy := cy1.size
  have lr : (r.1.map bV).length = 32 := by rw [len_bV]; exact hr.len
  refine q35.t (.tuple #[.agg (r.1.map bV).toArray, .int .i64 r.2.1, .int .i64 r.2.2]) (ex_move rfl (q35.e (j := 44) rfl)) fun _ q36 => ?_;clear q35
  refine q36.t (.agg (r.1.map bV).toArray) (ex_ext18 rfl (q36.e (j := 42) rfl) rfl) fun _ q37 => ?_;clear q36
  refine q37.t (.int .i64 r.2.1) (ex_ext18 rfl (q37.e (j := 42) rfl) rfl) fun _ q38 => ?_;clear q37
  refine q38.t (.int .i64 r.2.2) (ex_ext18 rfl (q38.e (j := 42) rfl) rfl) fun _ q39 => ?_;clear q38
  obtain ⟨y2, hy2⟩ : ∃ y, y = y1.alloc (.cells (z32.map bV).toArray 32) := ⟨_, rfl⟩
  refine vw (.pointer (some ⟨y1.heap.size, 0, none⟩)) y2 (want_none rfl) (ex_al rfl (by rw [hy2]; exact alH _)) rfl q39.z (by decide) (q39.k fun _ q40 => ?_);clear q39
  have Zy : BB y2 y1.heap.size 32 (z32.map bV) := by rw [hy2]; exact BB.new _ _ _
  have by2 : Below y1.heap.size y1 y2 := by rw [hy2]; exact (Below.refl _ _).alloc (Nat.le_refl _) _
  clear hy2
  obtain ⟨y3, hy3⟩ : ∃ y, y = y2.setCells y1.heap.size 0 (r.1.map bV) := ⟨_, rfl⟩
  refine vs y3 (want_none rfl) (ex_st rfl (q40.e (j := 13) rfl) (q40.e (j := 45) rfl) (by rw [hy3]; exact Zy.st 32 _ (by rw [lr, z32_m]) (by rw [List.size_toArray, lr]; exact i32h) (one_b _))) rfl ?_
  have By : BB y3 y1.heap.size 32 (r.1.map bV) := by rw [hy3]; exact Zy.whole _ (by rw [lr, z32_m])
  have by3 : Below y1.heap.size y1 y3 := by rw [hy3]; exact by2.trans (bel_ge (upd18 _ _ _ _) by2.size (Nat.le_refl _))
  clear hy3 Zy
  have cy3 : Below w.heap.size w y3 := cy1.trans (by3.mono zy)
  refine q40.t (.int .i64 r.2.1) (ex_assign rfl (q40.e (j := 46) rfl)) fun _ q41 => ?_;clear q40
  refine q41.t (.int .i64 r.2.2) (ex_assign rfl (q41.e (j := 47) rfl)) fun _ q42 => ?_;clear q41
  have q43 := ((((((((Rp.nil q42.z).cons (q42.a 1 rfl)).cons (q42.a 2 rfl)).cons (q42.a 3 rfl)).cons (q42.a 9 rfl)).cons (q42.a 13 rfl)).cons (q42.a 14 rfl)).cons (q42.a 15 rfl))
  clear q42
  refine wpList_nil ?_
  go_upto_region 8 with fail
  refine wp_region_lit ?_
  refine q43.t (.int .i64 r.2.1) (ex_move rfl (q43.e (j := 14) rfl)) fun _ q44 => ?_;clear q43
  refine vcallP (want_none rfl) (ex_call rfl (by simp only [List.map_toArray, List.map_cons, List.map_nil, (q44.e (j := 48) rfl), evc] <;> rfl) rfl) (num19 r.2.1 y3) rfl q44.z (by decide) ?_
  rintro e y4 ⟨rfl, rfl⟩
  refine ⟨_, rfl, q44.k fun _ q45 => ?_⟩;clear q44
  refine q45.t (.bool (decide (r.2.1 = 0))) (ex_bin rfl (q45.e (j := 49) rfl) rfl (eqlC _ _ _ _ _)) fun _ q46 => ?_;clear q45
  have q47 := ((((((((Rp.nil q46.z).cons (q46.a 1 rfl)).cons (q46.a 2 rfl)).cons (q46.a 3 rfl)).cons (q46.a 9 rfl)).cons (q46.a 13 rfl)).cons (q46.a 15 rfl)).cons (q46.a 50 rfl))
  clear q46
  refine wpList_nil ?_
  go_upto_if 50 with fail
  refine v_cut18 (fun T w9 => Rp T 123 [(9, gw true (.string ss)), (3, gw true (.int .u8 c)), (2, gw true (.int .i64 at_))] ∧ Below w.heap.size w w9) ?_ ?_
  · by_cases he0 : r.2.1 = 0
    · have q47x := q47.a 50 rfl
      rw [decide_eq_true he0] at q47x
      refine wp_cond_true (ev q47x rfl) ?_
      clear q47x
      obtain ⟨k1, k2, k3⟩ := hr.ok he0
      have hst : strOfNums (prF r.1) = t := by rw [k1, str_txt]
      go_upto_region 9 with fail
      refine wp_region_lit ?_
      refine q47.t (.agg (r.1.map bV).toArray) (ex_ld rfl (q47.e (j := 13) rfl) ((By).ld 32 Try.underlying32 rfl (by rw [lr]; exact i32h))) fun _ q48 => ?_;clear q47
      refine vcallP (want_none rfl) (ex_call rfl (by simp only [List.map_toArray, List.map_cons, List.map_nil, (q48.e (j := 51) rfl), evc] <;> rfl) rfl) (print19 r.1 k3 y4) rfl q48.z (by decide) ?_
      rintro e v1 ⟨rfl, b9⟩
      refine ⟨_, rfl, q48.k fun _ q49 => ?_⟩;clear q48
      have c9 : Below w.heap.size w v1 := cy3.trans (b9.mono cy3.size)
      rw [hst] at q49
      refine q49.t (.string t) (ex_move rfl (q49.e (j := 1) rfl)) fun _ q50 => ?_;clear q49
      refine q50.t (.bool false) (ex_bin rfl (q50.e (j := 52) rfl) (q50.e (j := 53) rfl) (by rw [neqS, beq_self_eq_true]; rfl)) fun _ q51 => ?_;clear q50
      refine q51.t (.bool false) (ex_move rfl (q51.e (j := 54) rfl)) fun _ q52 => ?_;clear q51
      refine vl (true && (false == false)) (.int .i64 r.2.2) (want_g rfl rfl (q52.a 55 rfl)) (fun hc => ex_move rfl (q52.e (j := 15) rfl)) rfl q52.z (by decide) (q52.k fun _ q53 => ?_);clear q52
      refine vl (true && (false == false)) (.bool false) (want_g rfl rfl (q53.a 55 rfl)) (fun hc => ex_bin (Y := .int .i64 0) rfl (q53.e (j := 56) rfl) rfl (by rw [neqC, k2]; rfl)) rfl q53.z (by decide) (q53.k fun _ q54 => ?_);clear q53
      refine q54.t (.bool false) (ex_or (z := false) rfl (q54.a 55 rfl) (q54.a 57 rfl) rfl) fun _ q55 => ?_;clear q54
      have q56 := (((((Rp.nil q55.z).cons (q55.a 2 rfl)).cons (q55.a 3 rfl)).cons (q55.a 9 rfl)).cons (q55.a 58 rfl))
      clear q55
      refine wpList_nil ?_
      go_upto_if 58 with fail
      refine wp_cond_false (q56.e (j := 58) rfl) ?_
      have q57 := ((((Rp.nil q56.z).cons (q56.a 2 rfl)).cons (q56.a 3 rfl)).cons (q56.a 9 rfl))
      clear q56
      go_wp2
      exact ⟨_, rfl, q57, c9⟩
    · have q47x := q47.a 50 rfl
      rw [decide_eq_false he0] at q47x
      refine wp_cond_false (ev q47x rfl) ?_
      clear q47x
      obtain ⟨k1, k2, k3, k4⟩ := hr.no he0
      go_upto_region 11 with fail
      refine wp_region_lit ?_
      refine q47.t (.agg (r.1.map bV).toArray) (ex_ld rfl (q47.e (j := 13) rfl) ((By).ld 32 Try.underlying32 rfl (by rw [lr]; exact i32h))) fun _ q48 => ?_;clear q47
      refine q48.t (.agg (z32.map bV).toArray) (ex_build rfl (zrH _)) fun _ q49 => ?_;clear q48
      refine q49.t (.bool false) (ex_bin rfl (q49.e (j := 59) rfl) (q49.e (j := 60) rfl) (by rw [neqH _ _ hr.len rfl, k1, decide_eq_true rfl]; rfl)) fun _ q50 => ?_;clear q49
      refine q50.t (.bool false) (ex_move rfl (q50.e (j := 61) rfl)) fun _ q51 => ?_;clear q50
      refine vl (true && (false == false)) (.int .i64 r.2.2) (want_g rfl rfl (q51.a 62 rfl)) (fun hc => ex_move rfl (q51.e (j := 15) rfl)) rfl q51.z (by decide) (q51.k fun _ q52 => ?_);clear q51
      refine vl (true && (false == false)) (.bool false) (want_g rfl rfl (q52.a 62 rfl)) (fun hc => ex_bin (Y := .int .i64 0) rfl (q52.e (j := 63) rfl) rfl (by rw [lssC, decide_eq_false (by omega)])) rfl q52.z (by decide) (q52.k fun _ q53 => ?_);clear q52
      refine q53.t (.bool false) (ex_or (z := false) rfl (q53.a 62 rfl) (q53.a 64 rfl) rfl) fun _ q54 => ?_;clear q53
      refine q54.t (.bool false) (ex_move rfl (q54.e (j := 65) rfl)) fun _ q55 => ?_;clear q54
      refine vl (true && (false == false)) (.int .i64 r.2.2) (want_g rfl rfl (q55.a 66 rfl)) (fun hc => ex_move rfl (q55.e (j := 15) rfl)) rfl q55.z (by decide) (q55.k fun _ q56 => ?_);clear q55
      refine vl (true && (false == false)) (.string t) (want_g rfl rfl (q56.a 66 rfl)) (fun hc => ex_move rfl (q56.e (j := 1) rfl)) rfl q56.z (by decide) (q56.k fun _ q57 => ?_);clear q56
      refine vl (true && (false == false)) (.int .i64 (((txt t).length : Nat) : Int)) (want_g rfl rfl (q57.a 66 rfl)) (fun hc => lenS9 rfl rfl (q57.e (j := 68) rfl)) rfl q57.z (by decide) (q57.k fun _ q58 => ?_);clear q57
      refine vl (true && (false == false)) (.bool false) (want_g rfl rfl (q58.a 66 rfl)) (fun hc => ex_bin rfl (q58.e (j := 67) rfl) (q58.e (j := 69) rfl) (by rw [gtrC, decide_eq_false (by omega)])) rfl q58.z (by decide) (q58.k fun _ q59 => ?_);clear q58
      refine q59.t (.bool false) (ex_or (z := false) rfl (q59.a 66 rfl) (q59.a 70 rfl) rfl) fun _ q60 => ?_;clear q59
      refine q60.t (.bool false) (ex_move rfl (q60.e (j := 71) rfl)) fun _ q61 => ?_;clear q60
      refine vl (true && (false == false)) (.int .i64 r.2.2) (want_g rfl rfl (q61.a 72 rfl)) (fun hc => ex_move rfl (q61.e (j := 15) rfl)) rfl q61.z (by decide) (q61.k fun _ q62 => ?_);clear q61
      refine vl (true && (false == false)) (.bool false) (want_g rfl rfl (q62.a 72 rfl)) (fun hc => ex_bin (Y := .int .i64 64) rfl (q62.e (j := 73) rfl) rfl (by rw [gtrC, decide_eq_false (by omega)])) rfl q62.z (by decide) (q62.k fun _ q63 => ?_);clear q62
      refine q63.t (.bool false) (ex_or (z := false) rfl (q63.a 72 rfl) (q63.a 74 rfl) rfl) fun _ q64 => ?_;clear q63
      have q65 := (((((Rp.nil q64.z).cons (q64.a 2 rfl)).cons (q64.a 3 rfl)).cons (q64.a 9 rfl)).cons (q64.a 75 rfl))
      clear q64
      refine wpList_nil ?_
      go_upto_if 75 with fail
      refine wp_cond_false (q65.e (j := 75) rfl) ?_
      have q66 := ((((Rp.nil q65.z).cons (q65.a 2 rfl)).cons (q65.a 3 rfl)).cons (q65.a 9 rfl))
      clear q65
      go_wp2
      exact ⟨_, rfl, q66, cy3⟩
  · rintro T u ⟨q200, cu⟩
    clear cy3 cx3 c3 c2 b1
    go_upto_region 13 with fail
    refine wp_region_lit ?_
    refine q200.t (.int .i64 at_) (ex_move rfl (q200.e (j := 2) rfl)) fun _ q201 => ?_;clear q200
    refine q201.t (.bool (decide (at_ < 0))) (ex_bin rfl (q201.e (j := 76) rfl) rfl (lssC _ _ _ _ _)) fun _ q202 => ?_;clear q201
    refine q202.t (.bool (decide (at_ < 0))) (ex_move rfl (q202.e (j := 77) rfl)) fun _ q203 => ?_;clear q202
    refine vl (true && ((decide (at_ < 0)) == false)) (.int .i64 at_) (want_g rfl rfl (q203.a 78 rfl)) (fun hc => ex_move rfl (q203.e (j := 2) rfl)) rfl q203.z (by decide) (q203.k fun _ q204 => ?_);clear q203
    refine vl (true && ((decide (at_ < 0)) == false)) (.bool (decide (64 ≤ at_))) (want_g rfl rfl (q204.a 78 rfl)) (fun hc => ex_bin rfl (ev (q204.a 79 rfl) hc) rfl (geqC _ _ _ _ _)) rfl q204.z (by decide) (q204.k fun _ q205 => ?_);clear q204
    refine q205.t (.bool (decide (at_ < 0) || decide (64 ≤ at_))) (ex_or rfl (q205.a 78 rfl) (q205.a 80 rfl) rfl) fun _ q206 => ?_;clear q205
    refine q206.t (.bool (decide (at_ < 0) || decide (64 ≤ at_))) (ex_move rfl (q206.e (j := 81) rfl)) fun _ q207 => ?_;clear q206
    refine vl (true && ((decide (at_ < 0) || decide (64 ≤ at_)) == false)) (.int .u8 c) (want_g rfl rfl (q207.a 82 rfl)) (fun hc => ex_move rfl (q207.e (j := 3) rfl)) rfl q207.z (by decide) (q207.k fun _ q208 => ?_);clear q207
    refine vl (true && ((decide (at_ < 0) || decide (64 ≤ at_)) == false)) (.bool (decide (48 ≤ c))) (want_g rfl rfl (q208.a 82 rfl)) (fun hc => ex_bin rfl (ev (q208.a 83 rfl) hc) rfl (geq8 _ _ _ _ _)) rfl q208.z (by decide) (q208.k fun _ q209 => ?_);clear q208
    refine vl (true && ((decide (at_ < 0) || decide (64 ≤ at_)) == false)) (.bool (decide (48 ≤ c))) (want_g rfl rfl (q209.a 82 rfl)) (fun hc => ex_move rfl (ev (q209.a 84 rfl) hc)) rfl q209.z (by decide) (q209.k fun _ q210 => ?_);clear q209
    refine vl ((true && ((decide (at_ < 0) || decide (64 ≤ at_)) == false)) && ((decide (48 ≤ c)) == true)) (.int .u8 c) (want_g rfl rfl (q210.a 85 rfl)) (fun hc => ex_move rfl (q210.e (j := 3) rfl)) rfl q210.z (by decide) (q210.k fun _ q211 => ?_);clear q210
    refine vl ((true && ((decide (at_ < 0) || decide (64 ≤ at_)) == false)) && ((decide (48 ≤ c)) == true)) (.bool (decide (c ≤ 57))) (want_g rfl rfl (q211.a 85 rfl)) (fun hc => ex_bin rfl (ev (q211.a 86 rfl) hc) rfl (leq8 _ _ _ _ _)) rfl q211.z (by decide) (q211.k fun _ q212 => ?_);clear q211
    refine vl (true && ((decide (at_ < 0) || decide (64 ≤ at_)) == false)) (.bool (decide (48 ≤ c) && decide (c ≤ 57))) (want_g rfl rfl (q212.a 82 rfl)) (fun hc => ex_and rfl (q212.a 85 rfl) (q212.a 87 rfl) hc) rfl q212.z (by decide) (q212.k fun _ q213 => ?_);clear q212
    refine q213.t (.bool ((decide (at_ < 0) || decide (64 ≤ at_)) || (decide (48 ≤ c) && decide (c ≤ 57)))) (ex_or rfl (q213.a 82 rfl) (q213.a 88 rfl) rfl) fun _ q214 => ?_;clear q213
    refine q214.t (.bool ((decide (at_ < 0) || decide (64 ≤ at_)) || (decide (48 ≤ c) && decide (c ≤ 57)))) (ex_move rfl (q214.e (j := 89) rfl)) fun _ q215 => ?_;clear q214
    refine vl (true && (((decide (at_ < 0) || decide (64 ≤ at_)) || (decide (48 ≤ c) && decide (c ≤ 57))) == false)) (.int .u8 c) (want_g rfl rfl (q215.a 90 rfl)) (fun hc => ex_move rfl (q215.e (j := 3) rfl)) rfl q215.z (by decide) (q215.k fun _ q216 => ?_);clear q215
    refine vl (true && (((decide (at_ < 0) || decide (64 ≤ at_)) || (decide (48 ≤ c) && decide (c ≤ 57))) == false)) (.bool (decide (97 ≤ c))) (want_g rfl rfl (q216.a 90 rfl)) (fun hc => ex_bin rfl (ev (q216.a 91 rfl) hc) rfl (geq8 _ _ _ _ _)) rfl q216.z (by decide) (q216.k fun _ q217 => ?_);clear q216
    refine vl (true && (((decide (at_ < 0) || decide (64 ≤ at_)) || (decide (48 ≤ c) && decide (c ≤ 57))) == false)) (.bool (decide (97 ≤ c))) (want_g rfl rfl (q217.a 90 rfl)) (fun hc => ex_move rfl (ev (q217.a 92 rfl) hc)) rfl q217.z (by decide) (q217.k fun _ q218 => ?_);clear q217
    refine vl ((true && (((decide (at_ < 0) || decide (64 ≤ at_)) || (decide (48 ≤ c) && decide (c ≤ 57))) == false)) && ((decide (97 ≤ c)) == true)) (.int .u8 c) (want_g rfl rfl (q218.a 93 rfl)) (fun hc => ex_move rfl (q218.e (j := 3) rfl)) rfl q218.z (by decide) (q218.k fun _ q219 => ?_);clear q218
    refine vl ((true && (((decide (at_ < 0) || decide (64 ≤ at_)) || (decide (48 ≤ c) && decide (c ≤ 57))) == false)) && ((decide (97 ≤ c)) == true)) (.bool (decide (c ≤ 102))) (want_g rfl rfl (q219.a 93 rfl)) (fun hc => ex_bin rfl (ev (q219.a 94 rfl) hc) rfl (leq8 _ _ _ _ _)) rfl q219.z (by decide) (q219.k fun _ q220 => ?_);clear q219
    refine vl (true && (((decide (at_ < 0) || decide (64 ≤ at_)) || (decide (48 ≤ c) && decide (c ≤ 57))) == false)) (.bool (decide (97 ≤ c) && decide (c ≤ 102))) (want_g rfl rfl (q220.a 90 rfl)) (fun hc => ex_and rfl (q220.a 93 rfl) (q220.a 95 rfl) hc) rfl q220.z (by decide) (q220.k fun _ q221 => ?_);clear q220
    refine q221.t (.bool (((decide (at_ < 0) || decide (64 ≤ at_)) || (decide (48 ≤ c) && decide (c ≤ 57))) || (decide (97 ≤ c) && decide (c ≤ 102)))) (ex_or rfl (q221.a 90 rfl) (q221.a 96 rfl) rfl) fun _ q222 => ?_;clear q221
    have q223 := (((((Rp.nil q222.z).cons (q222.a 2 rfl)).cons (q222.a 3 rfl)).cons (q222.a 9 rfl)).cons (q222.a 97 rfl))
    clear q222
    refine wpList_nil ?_
    cases hO : (((decide (at_ < 0) || decide (64 ≤ at_)) || (decide (48 ≤ c) && decide (c ≤ 57))) || (decide (97 ≤ c) && decide (c ≤ 102))) with
    | true =>
      have q223x := q223.a 97 rfl
      rw [hO] at q223x
      go_upto_region 14 with fail
      refine wp_cond_true (ev q223x rfl) ?_
      clear q223x
      go_upto_region 14 with fail
      refine wp_region_lit ?_
      refine q223.t (.bool true) (ex_assign rfl rfl) fun _ q224 => ?_;clear q223
      refine wpList_nil ?_
      go_wp2
      refine bodyPost_ret (results_tmp rfl _ _ _) rfl ⟨?_, cu⟩
      rw [getD_of (q224.a 8 rfl)]
      rfl
    | false =>
      have q223x := q223.a 97 rfl
      rw [hO] at q223x
      simp only [Bool.or_eq_false_iff, decide_eq_false_iff_not, Bool.and_eq_false_iff] at hO
      obtain ⟨⟨⟨i1, i2⟩, i3⟩, i4⟩ := hO
      have hvc : vl9 c < 0 := by unfold vl9; rw [if_neg (by omega), if_neg (by omega)]; omega
      obtain ⟨k, rfl⟩ : ∃ k : Nat, at_ = (k : Int) := ⟨at_.toNat, by omega⟩
      have hk : k < 64 := by omega
      go_upto_region 15 with fail
      refine wp_cond_false (ev q223x rfl) ?_
      clear q223x
      have q224 := ((((Rp.nil q223.z).cons (q223.a 2 rfl)).cons (q223.a 3 rfl)).cons (q223.a 9 rfl))
      clear q223
      go_upto_region 15 with fail
      refine v_cut18 (fun T w9 => Rp T 123 [(18, gw true (.int .i64 ((k : Nat) : Int))), (17, gw true (.int .i64 190)), (2, gw true (.int .i64 ((k : Nat) : Int)))] ∧ Below w.heap.size w w9) ?_ ?_
      · refine vh_start (fun _ => True) (by kernel_rfl) ?_
        have hd : Below u.heap.size u u.drew := (Below.refl _ _).drew
        have cd : Below w.heap.size w u.drew := cu.trans (hd.mono cu.size)
        generalize u.drew = d at *
        have zd := cd.size
        refine vh_take 0 true (.string ss) rfl (by kernel_rfl) (by kernel_rfl) (by kernel_rfl) (want_none rfl) (fun hc v hv => ex_move rfl (q224.e (j := 9) rfl)) rfl q224.z (by decide) trivial (q224.k fun _ q225 => ?_);clear q224
        refine vh_take 1 true (.int .i64 ((k : Nat) : Int)) rfl (by kernel_rfl) (by kernel_rfl) (by kernel_rfl) (want_none rfl) (fun hc v hv => ex_move rfl (q225.e (j := 2) rfl)) rfl q225.z (by decide) trivial (q225.k fun _ q226 => ?_);clear q225
        refine vh_take 2 true (.string (ss.extract 0 k)) rfl (by kernel_rfl) (by kernel_rfl) (by kernel_rfl) (want_none rfl) (fun hc v hv => ex_sl19 rfl (q226.e (j := 99) rfl) rfl (congrArg some (q226.e (j := 100) rfl)) rfl (slS_to ss k (by omega) _)) rfl q226.z (by decide) trivial (q226.k fun _ q227 => ?_);clear q226
        refine vh_take 3 true (.int .u8 c) rfl (by kernel_rfl) (by kernel_rfl) (by kernel_rfl) (want_none rfl) (fun hc v hv => ex_move rfl (q227.e (j := 3) rfl)) rfl q227.z (by decide) trivial (q227.k fun _ q228 => ?_);clear q227
        refine vh_take 7 true (.string ss) rfl (by kernel_rfl) (by kernel_rfl) (by kernel_rfl) (want_none rfl) (fun hc v hv => ex_move rfl (q228.e (j := 9) rfl)) rfl q228.z (by decide) trivial (q228.k fun _ q229 => ?_);clear q228
        refine vh_take 8 true (.int .i64 ((k : Nat) : Int)) rfl (by kernel_rfl) (by kernel_rfl) (by kernel_rfl) (want_none rfl) (fun hc v hv => ex_move rfl (q229.e (j := 2) rfl)) rfl q229.z (by decide) trivial (q229.k fun _ q230 => ?_);clear q229
        refine vh_take 9 true (.int .i64 ((k + 1 : Nat) : Int)) rfl (by kernel_rfl) (by kernel_rfl) (by kernel_rfl) (want_none rfl) (fun hc v hv => ex_bin rfl (q230.e (j := 107) rfl) rfl (add1C _ _ k (by omega) _)) rfl q230.z (by decide) trivial (q230.k fun _ q231 => ?_);clear q230
        refine vh_take 10 true (.string (ss.extract (k + 1) ss.size)) rfl (by kernel_rfl) (by kernel_rfl) (by kernel_rfl) (want_none rfl) (fun hc v hv => ex_sl19 rfl (q231.e (j := 106) rfl) (congrArg some (q231.e (j := 108) rfl)) rfl rfl (slS_from ss (k + 1) (by omega) _)) rfl q231.z (by decide) trivial (q231.k fun _ q232 => ?_);clear q231
        have hA : txt (ss.extract 0 k) = (prF h).take k := by rw [txt_to, htx]
        have hC : txt (strOfNums [c]) = [c] := txt_str _ (fun x hx => by obtain rfl := List.mem_singleton.1 hx; exact ⟨c0, c1⟩)
        have hD : txt (ss.extract (k + 1) ss.size) = (prF h).drop (k + 1) := by rw [txt_from, htx]
        have hF : txt ((ss.extract 0 k) ++ (strOfNums [c]) ++ (ss.extract (k + 1) ss.size)) = chg (prF h) k c := by rw [txt_app, txt_app, hA, hC, hD]; rfl
        have zA : (ss.extract 0 k).size ≤ 64 := by rw [← txt_len, hA, List.length_take]; omega
        have zC : (strOfNums [c]).size = 1 := by rw [← txt_len, hC]; rfl
        have zD : (ss.extract (k + 1) ss.size).size ≤ 64 := by rw [← txt_len, hD, List.length_drop]; omega
        have zAC : ((ss.extract 0 k) ++ (strOfNums [c])).size ≤ 65 := by rw [← txt_len, txt_app, List.length_append, txt_len, txt_len]; omega
        obtain ⟨g1, hg1⟩ : ∃ y, y = d.alloc (.cells (([c] : List Int).map bV).toArray 5) := ⟨_, rfl⟩
        have bg1 : Below d.heap.size d g1 := by rw [hg1]; exact (Below.refl _ _).alloc (Nat.le_refl _) _
        have sg1 : SlY yB9 g1 (some ⟨d.heap.size, 0, none⟩) 1 1 [c] := by rw [hg1]; exact slM d [c] _ _ (by unfold maxLen; simp)
        obtain ⟨g2, hg2⟩ : ∃ y, y = d.alloc (.cells (z32.map bV).toArray 32) := ⟨_, rfl⟩
        have Zg2 : BB g2 d.heap.size 32 (z32.map bV) := by rw [hg2]; exact BB.new _ _ _
        have bg2 : Below d.heap.size d g2 := by rw [hg2]; exact (Below.refl _ _).alloc (Nat.le_refl _) _
        refine vh_twoV 4 17 (by kernel_rfl) rfl rfl (.slice (some ⟨d.heap.size, 0, none⟩) 1 1) g1 (want_none rfl) (ex_bs18 rfl (q232.e (j := 102) rfl) (by rw [hg1]; exact bs1B _ _)) rfl q232.z (by decide) trivial ?_ (.pointer (some ⟨d.heap.size, 0, none⟩)) g2 (want_none rfl) (ex_al rfl (by rw [hg2]; exact alH _)) rfl (by decide) trivial ?_
        · refine q232.k fun _ q233 => ?_
          clear q232
          have cg1 : Below w.heap.size w g1 := cd.trans (bg1.mono (cd.size))
          obtain ⟨g3, hg3⟩ : ∃ y, y = g1.alloc (.cells (z32.map bV).toArray 32) := ⟨_, rfl⟩
          have Zg3 : BB g3 g1.heap.size 32 (z32.map bV) := by rw [hg3]; exact BB.new _ _ _
          have bg3 : Below g1.heap.size g1 g3 := by rw [hg3]; exact (Below.refl _ _).alloc (Nat.le_refl _) _
          refine vh_twoV 5 17 (by kernel_rfl) rfl rfl (.string (strOfNums [c])) g1 (want_none rfl) (ex_cv19 rfl (q233.e (j := 103) rfl) (cv_str sg1 (by simp))) rfl q233.z (by decide) trivial ?_ (.pointer (some ⟨g1.heap.size, 0, none⟩)) g3 (want_none rfl) (ex_al rfl (by rw [hg3]; exact alH _)) rfl (by decide) trivial ?_
          · refine q233.k fun _ q234 => ?_
            clear q233
            refine vh_take 6 true (.string ((ss.extract 0 k) ++ (strOfNums [c]))) rfl (by kernel_rfl) (by kernel_rfl) (by kernel_rfl) (want_none rfl) (fun hc v hv => ex_bin rfl (q234.e (j := 101) rfl) (q234.e (j := 104) rfl) (addS _ _ _ _ (by omega) _)) rfl q234.z (by decide) trivial (q234.k fun _ q235 => ?_);clear q234
            refine vh_take 11 true (.string ((ss.extract 0 k) ++ (strOfNums [c]) ++ (ss.extract (k + 1) ss.size))) rfl (by kernel_rfl) (by kernel_rfl) (by kernel_rfl) (want_none rfl) (fun hc v hv => ex_bin rfl (q235.e (j := 105) rfl) (q235.e (j := 109) rfl) (addS _ _ _ _ (by omega) _)) rfl q235.z (by decide) trivial (q235.k fun _ q236 => ?_);clear q235
            obtain ⟨g4, hg4⟩ : ∃ y, y = g1.alloc (.cells (z32.map bV).toArray 32) := ⟨_, rfl⟩
            have Zg4 : BB g4 g1.heap.size 32 (z32.map bV) := by rw [hg4]; exact BB.new _ _ _
            have bg4 : Below g1.heap.size g1 g4 := by rw [hg4]; exact (Below.refl _ _).alloc (Nat.le_refl _) _
            refine vh_two18 12 17 (by kernel_rfl) rfl rfl (want_none rfl) (ex_call rfl (by simp only [List.map_toArray, List.map_cons, List.map_nil, (q236.e (j := 110) rfl), evc] <;> rfl) rfl) (parse19 ((ss.extract 0 k) ++ (strOfNums [c]) ++ (ss.extract (k + 1) ss.size)) g1) rfl q236.z (by decide) ?_ (.pointer (some ⟨g1.heap.size, 0, none⟩)) g4 (want_none rfl) (ex_al rfl (by rw [hg4]; exact alH _)) rfl (by decide) trivial ?_
            · rintro e g5 ⟨r9, rfl, hr9, bg5⟩
              rw [hF] at hr9
              obtain rfl := hr9.chg hh hk hvc
              refine ⟨_, rfl, trivial, q236.k fun _ q237 => ?_⟩;clear q236
              have cg5 : Below w.heap.size w g5 := cg1.trans (bg5.mono (cg1.size))
              refine vh_take 13 true (.tuple #[.agg (z32.map bV).toArray, .int .i64 190, .int .i64 (k : Int)]) rfl (by kernel_rfl) (by kernel_rfl) (by kernel_rfl) (want_none rfl) (fun hc v hv => ex_move rfl (q237.e (j := 111) rfl)) rfl q237.z (by decide) trivial (q237.k fun _ q238 => ?_);clear q237
              refine vh_take 14 true (.agg (z32.map bV).toArray) rfl (by kernel_rfl) (by kernel_rfl) (by kernel_rfl) (want_none rfl) (fun hc v hv => ex_ext18 rfl (q238.e (j := 98) rfl) rfl) rfl q238.z (by decide) trivial (q238.k fun _ q239 => ?_);clear q238
              refine vh_take 15 true (.int .i64 190) rfl (by kernel_rfl) (by kernel_rfl) (by kernel_rfl) (want_none rfl) (fun hc v hv => ex_ext18 rfl (q239.e (j := 98) rfl) rfl) rfl q239.z (by decide) trivial (q239.k fun _ q240 => ?_);clear q239
              refine vh_take 16 true (.int .i64 ((k : Nat) : Int)) rfl (by kernel_rfl) (by kernel_rfl) (by kernel_rfl) (want_none rfl) (fun hc v hv => ex_ext18 rfl (q240.e (j := 98) rfl) rfl) rfl q240.z (by decide) trivial (q240.k fun _ q241 => ?_);clear q240
              obtain ⟨g6, hg6⟩ : ∃ y, y = g5.alloc (.cells (z32.map bV).toArray 32) := ⟨_, rfl⟩
              have Zg6 : BB g6 g5.heap.size 32 (z32.map bV) := by rw [hg6]; exact BB.new _ _ _
              have bg6 : Below g5.heap.size g5 g6 := by rw [hg6]; exact (Below.refl _ _).alloc (Nat.le_refl _) _
              refine vh_val18 17 (.pointer (some ⟨g5.heap.size, 0, none⟩)) g6 rfl (by kernel_rfl) (want_none rfl) (ex_al rfl (by rw [hg6]; exact alH _)) rfl q241.z (by decide) trivial (q241.k fun _ q242 => ?_);clear q241
              have cg6 : Below w.heap.size w g6 := cg5.trans (bg6.mono (cg5.size))
              have hbx : w.heap.size ≤ g5.heap.size := cg5.size
              obtain ⟨g7, hg7⟩ : ∃ y, y = g6.setCells g5.heap.size 0 (z32.map bV) := ⟨_, rfl⟩
              refine vh_store18 18 g7 rfl (by kernel_rfl) (want_none rfl) (ex_st rfl (q242.e (j := 16) rfl) (q242.e (j := 112) rfl) (by rw [hg7]; exact Zg6.st 32 _ rfl (by rw [List.size_toArray, z32_m]; exact i32h) (one_b _))) rfl trivial ?_
              have cg7 : Below w.heap.size w g7 := by rw [hg7]; exact cg6.trans (bel_ge (upd18 _ _ _ _) cg6.size (by have := cg6.size; omega))
              refine vh_take 19 true (.int .i64 190) rfl (by kernel_rfl) (by kernel_rfl) (by kernel_rfl) (want_none rfl) (fun hc v hv => ex_assign rfl (q242.e (j := 113) rfl)) rfl q242.z (by decide) trivial (q242.k fun _ q243 => ?_);clear q242
              refine vh_take 20 true (.int .i64 ((k : Nat) : Int)) rfl (by kernel_rfl) (by kernel_rfl) (by kernel_rfl) (want_none rfl) (fun hc v hv => ex_assign rfl (q243.e (j := 114) rfl)) rfl q243.z (by decide) trivial (q243.k fun _ q244 => ?_);clear q243
              have q245 := ((((Rp.nil q244.z).cons (q244.a 2 rfl)).cons (q244.a 17 rfl)).cons (q244.a 18 rfl))
              clear q244
              refine vh_done (by kernel_rfl) ?_
              exact ⟨_, rfl, q245, cg7⟩
            · refine q236.k fun _ q237 => ?_
              clear q236
              have cg4 : Below w.heap.size w g4 := cg1.trans (bg4.mono (cg1.size))
              have hbx : w.heap.size ≤ g1.heap.size := cg1.size
              refine vh_call 12 rfl (by kernel_rfl) (want_none rfl) (ex_call rfl (by simp only [List.map_toArray, List.map_cons, List.map_nil, (q237.e (j := 110) rfl), evc] <;> rfl) rfl) (parse19 ((ss.extract 0 k) ++ (strOfNums [c]) ++ (ss.extract (k + 1) ss.size)) g4) rfl q237.z (by decide) ?_
              rintro e g8 ⟨r9, rfl, hr9, bg8⟩
              rw [hF] at hr9
              obtain rfl := hr9.chg hh hk hvc
              refine ⟨_, rfl, trivial, q237.k fun _ q238 => ?_⟩;clear q237
              have cg8 : Below w.heap.size w g8 := cg4.trans (bg8.mono (cg4.size))
              have Zg4 := Zg4.later bg8
              refine vh_take 13 true (.tuple #[.agg (z32.map bV).toArray, .int .i64 190, .int .i64 (k : Int)]) rfl (by kernel_rfl) (by kernel_rfl) (by kernel_rfl) (want_none rfl) (fun hc v hv => ex_move rfl (q238.e (j := 111) rfl)) rfl q238.z (by decide) trivial (q238.k fun _ q239 => ?_);clear q238
              refine vh_take 14 true (.agg (z32.map bV).toArray) rfl (by kernel_rfl) (by kernel_rfl) (by kernel_rfl) (want_none rfl) (fun hc v hv => ex_ext18 rfl (q239.e (j := 98) rfl) rfl) rfl q239.z (by decide) trivial (q239.k fun _ q240 => ?_);clear q239
              refine vh_take 15 true (.int .i64 190) rfl (by kernel_rfl) (by kernel_rfl) (by kernel_rfl) (want_none rfl) (fun hc v hv => ex_ext18 rfl (q240.e (j := 98) rfl) rfl) rfl q240.z (by decide) trivial (q240.k fun _ q241 => ?_);clear q240
              refine vh_take 16 true (.int .i64 ((k : Nat) : Int)) rfl (by kernel_rfl) (by kernel_rfl) (by kernel_rfl) (want_none rfl) (fun hc v hv => ex_ext18 rfl (q241.e (j := 98) rfl) rfl) rfl q241.z (by decide) trivial (q241.k fun _ q242 => ?_);clear q241
              obtain ⟨g9, hg9⟩ : ∃ y, y = g8.setCells g1.heap.size 0 (z32.map bV) := ⟨_, rfl⟩
              refine vh_store18 18 g9 rfl (by kernel_rfl) (want_none rfl) (ex_st rfl (q242.e (j := 16) rfl) (q242.e (j := 112) rfl) (by rw [hg9]; exact Zg4.st 32 _ rfl (by rw [List.size_toArray, z32_m]; exact i32h) (one_b _))) rfl trivial ?_
              have cg9 : Below w.heap.size w g9 := by rw [hg9]; exact cg8.trans (bel_ge (upd18 _ _ _ _) cg8.size (by have := cg8.size; omega))
              refine vh_take 19 true (.int .i64 190) rfl (by kernel_rfl) (by kernel_rfl) (by kernel_rfl) (want_none rfl) (fun hc v hv => ex_assign rfl (q242.e (j := 113) rfl)) rfl q242.z (by decide) trivial (q242.k fun _ q243 => ?_);clear q242
              refine vh_take 20 true (.int .i64 ((k : Nat) : Int)) rfl (by kernel_rfl) (by kernel_rfl) (by kernel_rfl) (want_none rfl) (fun hc v hv => ex_assign rfl (q243.e (j := 114) rfl)) rfl q243.z (by decide) trivial (q243.k fun _ q244 => ?_);clear q243
              have q245 := ((((Rp.nil q244.z).cons (q244.a 2 rfl)).cons (q244.a 17 rfl)).cons (q244.a 18 rfl))
              clear q244
              refine vh_done (by kernel_rfl) ?_
              exact ⟨_, rfl, q245, cg9⟩
          · refine q233.k fun _ q234 => ?_
            clear q233
            have cg3 : Below w.heap.size w g3 := cg1.trans (bg3.mono (cg1.size))
            have sg1 := sg1.later bg3
            have hbx : w.heap.size ≤ g1.heap.size := cg1.size
            refine vh_val18 5 (.string (strOfNums [c])) g3 rfl (by kernel_rfl) (want_none rfl) (ex_cv19 rfl (q234.e (j := 103) rfl) (cv_str sg1 (by simp))) rfl q234.z (by decide) trivial (q234.k fun _ q235 => ?_);clear q234
            refine vh_take 6 true (.string ((ss.extract 0 k) ++ (strOfNums [c]))) rfl (by kernel_rfl) (by kernel_rfl) (by kernel_rfl) (want_none rfl) (fun hc v hv => ex_bin rfl (q235.e (j := 101) rfl) (q235.e (j := 104) rfl) (addS _ _ _ _ (by omega) _)) rfl q235.z (by decide) trivial (q235.k fun _ q236 => ?_);clear q235
            refine vh_take 11 true (.string ((ss.extract 0 k) ++ (strOfNums [c]) ++ (ss.extract (k + 1) ss.size))) rfl (by kernel_rfl) (by kernel_rfl) (by kernel_rfl) (want_none rfl) (fun hc v hv => ex_bin rfl (q236.e (j := 105) rfl) (q236.e (j := 109) rfl) (addS _ _ _ _ (by omega) _)) rfl q236.z (by decide) trivial (q236.k fun _ q237 => ?_);clear q236
            refine vh_call 12 rfl (by kernel_rfl) (want_none rfl) (ex_call rfl (by simp only [List.map_toArray, List.map_cons, List.map_nil, (q237.e (j := 110) rfl), evc] <;> rfl) rfl) (parse19 ((ss.extract 0 k) ++ (strOfNums [c]) ++ (ss.extract (k + 1) ss.size)) g3) rfl q237.z (by decide) ?_
            rintro e g10 ⟨r9, rfl, hr9, bg10⟩
            rw [hF] at hr9
            obtain rfl := hr9.chg hh hk hvc
            refine ⟨_, rfl, trivial, q237.k fun _ q238 => ?_⟩;clear q237
            have cg10 : Below w.heap.size w g10 := cg3.trans (bg10.mono (cg3.size))
            have Zg3 := Zg3.later bg10
            refine vh_take 13 true (.tuple #[.agg (z32.map bV).toArray, .int .i64 190, .int .i64 (k : Int)]) rfl (by kernel_rfl) (by kernel_rfl) (by kernel_rfl) (want_none rfl) (fun hc v hv => ex_move rfl (q238.e (j := 111) rfl)) rfl q238.z (by decide) trivial (q238.k fun _ q239 => ?_);clear q238
            refine vh_take 14 true (.agg (z32.map bV).toArray) rfl (by kernel_rfl) (by kernel_rfl) (by kernel_rfl) (want_none rfl) (fun hc v hv => ex_ext18 rfl (q239.e (j := 98) rfl) rfl) rfl q239.z (by decide) trivial (q239.k fun _ q240 => ?_);clear q239
            refine vh_take 15 true (.int .i64 190) rfl (by kernel_rfl) (by kernel_rfl) (by kernel_rfl) (want_none rfl) (fun hc v hv => ex_ext18 rfl (q240.e (j := 98) rfl) rfl) rfl q240.z (by decide) trivial (q240.k fun _ q241 => ?_);clear q240
            refine vh_take 16 true (.int .i64 ((k : Nat) : Int)) rfl (by kernel_rfl) (by kernel_rfl) (by kernel_rfl) (want_none rfl) (fun hc v hv => ex_ext18 rfl (q241.e (j := 98) rfl) rfl) rfl q241.z (by decide) trivial (q241.k fun _ q242 => ?_);clear q241
            obtain ⟨g11, hg11⟩ : ∃ y, y = g10.setCells g1.heap.size 0 (z32.map bV) := ⟨_, rfl⟩
            refine vh_store18 18 g11 rfl (by kernel_rfl) (want_none rfl) (ex_st rfl (q242.e (j := 16) rfl) (q242.e (j := 112) rfl) (by rw [hg11]; exact Zg3.st 32 _ rfl (by rw [List.size_toArray, z32_m]; exact i32h) (one_b _))) rfl trivial ?_
            have cg11 : Below w.heap.size w g11 := by rw [hg11]; exact cg10.trans (bel_ge (upd18 _ _ _ _) cg10.size (by have := cg10.size; omega))
            refine vh_take 19 true (.int .i64 190) rfl (by kernel_rfl) (by kernel_rfl) (by kernel_rfl) (want_none rfl) (fun hc v hv => ex_assign rfl (q242.e (j := 113) rfl)) rfl q242.z (by decide) trivial (q242.k fun _ q243 => ?_);clear q242
            refine vh_take 20 true (.int .i64 ((k : Nat) : Int)) rfl (by kernel_rfl) (by kernel_rfl) (by kernel_rfl) (want_none rfl) (fun hc v hv => ex_assign rfl (q243.e (j := 114) rfl)) rfl q243.z (by decide) trivial (q243.k fun _ q244 => ?_);clear q243
            have q245 := ((((Rp.nil q244.z).cons (q244.a 2 rfl)).cons (q244.a 17 rfl)).cons (q244.a 18 rfl))
            clear q244
            refine vh_done (by kernel_rfl) ?_
            exact ⟨_, rfl, q245, cg11⟩
        · refine q232.k fun _ q233 => ?_
          clear q232
          have cg2 : Below w.heap.size w g2 := cd.trans (bg2.mono (cd.size))
          have hbx : w.heap.size ≤ d.heap.size := cd.size
          obtain ⟨g12, hg12⟩ : ∃ y, y = g2.alloc (.cells (([c] : List Int).map bV).toArray 5) := ⟨_, rfl⟩
          have bg12 : Below g2.heap.size g2 g12 := by rw [hg12]; exact (Below.refl _ _).alloc (Nat.le_refl _) _
          have sg12 : SlY yB9 g12 (some ⟨g2.heap.size, 0, none⟩) 1 1 [c] := by rw [hg12]; exact slM g2 [c] _ _ (by unfold maxLen; simp)
          refine vh_val18 4 (.slice (some ⟨g2.heap.size, 0, none⟩) 1 1) g12 rfl (by kernel_rfl) (want_none rfl) (ex_bs18 rfl (q233.e (j := 102) rfl) (by rw [hg12]; exact bs1B _ _)) rfl q233.z (by decide) trivial (q233.k fun _ q234 => ?_);clear q233
          have cg12 : Below w.heap.size w g12 := cg2.trans (bg12.mono (cg2.size))
          have Zg2 := Zg2.later bg12
          refine vh_val18 5 (.string (strOfNums [c])) g12 rfl (by kernel_rfl) (want_none rfl) (ex_cv19 rfl (q234.e (j := 103) rfl) (cv_str sg12 (by simp))) rfl q234.z (by decide) trivial (q234.k fun _ q235 => ?_);clear q234
          refine vh_take 6 true (.string ((ss.extract 0 k) ++ (strOfNums [c]))) rfl (by kernel_rfl) (by kernel_rfl) (by kernel_rfl) (want_none rfl) (fun hc v hv => ex_bin rfl (q235.e (j := 101) rfl) (q235.e (j := 104) rfl) (addS _ _ _ _ (by omega) _)) rfl q235.z (by decide) trivial (q235.k fun _ q236 => ?_);clear q235
          refine vh_take 11 true (.string ((ss.extract 0 k) ++ (strOfNums [c]) ++ (ss.extract (k + 1) ss.size))) rfl (by kernel_rfl) (by kernel_rfl) (by kernel_rfl) (want_none rfl) (fun hc v hv => ex_bin rfl (q236.e (j := 105) rfl) (q236.e (j := 109) rfl) (addS _ _ _ _ (by omega) _)) rfl q236.z (by decide) trivial (q236.k fun _ q237 => ?_);clear q236
          refine vh_call 12 rfl (by kernel_rfl) (want_none rfl) (ex_call rfl (by simp only [List.map_toArray, List.map_cons, List.map_nil, (q237.e (j := 110) rfl), evc] <;> rfl) rfl) (parse19 ((ss.extract 0 k) ++ (strOfNums [c]) ++ (ss.extract (k + 1) ss.size)) g12) rfl q237.z (by decide) ?_
          rintro e g13 ⟨r9, rfl, hr9, bg13⟩
          rw [hF] at hr9
          obtain rfl := hr9.chg hh hk hvc
          refine ⟨_, rfl, trivial, q237.k fun _ q238 => ?_⟩;clear q237
          have cg13 : Below w.heap.size w g13 := cg12.trans (bg13.mono (cg12.size))
          have Zg2 := Zg2.later bg13
          refine vh_take 13 true (.tuple #[.agg (z32.map bV).toArray, .int .i64 190, .int .i64 (k : Int)]) rfl (by kernel_rfl) (by kernel_rfl) (by kernel_rfl) (want_none rfl) (fun hc v hv => ex_move rfl (q238.e (j := 111) rfl)) rfl q238.z (by decide) trivial (q238.k fun _ q239 => ?_);clear q238
          refine vh_take 14 true (.agg (z32.map bV).toArray) rfl (by kernel_rfl) (by kernel_rfl) (by kernel_rfl) (want_none rfl) (fun hc v hv => ex_ext18 rfl (q239.e (j := 98) rfl) rfl) rfl q239.z (by decide) trivial (q239.k fun _ q240 => ?_);clear q239
          refine vh_take 15 true (.int .i64 190) rfl (by kernel_rfl) (by kernel_rfl) (by kernel_rfl) (want_none rfl) (fun hc v hv => ex_ext18 rfl (q240.e (j := 98) rfl) rfl) rfl q240.z (by decide) trivial (q240.k fun _ q241 => ?_);clear q240
          refine vh_take 16 true (.int .i64 ((k : Nat) : Int)) rfl (by kernel_rfl) (by kernel_rfl) (by kernel_rfl) (want_none rfl) (fun hc v hv => ex_ext18 rfl (q241.e (j := 98) rfl) rfl) rfl q241.z (by decide) trivial (q241.k fun _ q242 => ?_);clear q241
          obtain ⟨g14, hg14⟩ : ∃ y, y = g13.setCells d.heap.size 0 (z32.map bV) := ⟨_, rfl⟩
          refine vh_store18 18 g14 rfl (by kernel_rfl) (want_none rfl) (ex_st rfl (q242.e (j := 16) rfl) (q242.e (j := 112) rfl) (by rw [hg14]; exact Zg2.st 32 _ rfl (by rw [List.size_toArray, z32_m]; exact i32h) (one_b _))) rfl trivial ?_
          have cg14 : Below w.heap.size w g14 := by rw [hg14]; exact cg13.trans (bel_ge (upd18 _ _ _ _) cg13.size (by have := cg13.size; omega))
          refine vh_take 19 true (.int .i64 190) rfl (by kernel_rfl) (by kernel_rfl) (by kernel_rfl) (want_none rfl) (fun hc v hv => ex_assign rfl (q242.e (j := 113) rfl)) rfl q242.z (by decide) trivial (q242.k fun _ q243 => ?_);clear q242
          refine vh_take 20 true (.int .i64 ((k : Nat) : Int)) rfl (by kernel_rfl) (by kernel_rfl) (by kernel_rfl) (want_none rfl) (fun hc v hv => ex_assign rfl (q243.e (j := 114) rfl)) rfl q243.z (by decide) trivial (q243.k fun _ q244 => ?_);clear q243
          have q245 := ((((Rp.nil q244.z).cons (q244.a 2 rfl)).cons (q244.a 17 rfl)).cons (q244.a 18 rfl))
          clear q244
          refine vh_done (by kernel_rfl) ?_
          exact ⟨_, rfl, q245, cg14⟩
      · rintro T u2 ⟨q300, cu2⟩
        go_upto_region 16 with fail
        refine wp_region_lit ?_
        refine q300.t (.int .i64 190) (ex_move rfl (q300.e (j := 17) rfl)) fun _ q301 => ?_;clear q300
        refine vcallP (want_none rfl) (ex_call rfl (by simp only [List.map_toArray, List.map_cons, List.map_nil, (q301.e (j := 115) rfl), evc] <;> rfl) rfl) (num19 190 u2) rfl q301.z (by decide) ?_
        rintro e u3 ⟨rfl, rfl⟩
        refine ⟨_, rfl, q301.k fun _ q302 => ?_⟩;clear q301
        refine q302.t (.bool true) (ex_bin (Y := .int .i64 190) rfl (q302.e (j := 116) rfl) rfl (by rw [eqlC]; rfl)) fun _ q303 => ?_;clear q302
        refine q303.t (.bool true) (ex_move rfl (q303.e (j := 117) rfl)) fun _ q304 => ?_;clear q303
        refine vl (true && (true == true)) (.int .i64 ((k : Nat) : Int)) (want_g rfl rfl (q304.a 118 rfl)) (fun hc => ex_move rfl (q304.e (j := 18) rfl)) rfl q304.z (by decide) (q304.k fun _ q305 => ?_);clear q304
        refine vl (true && (true == true)) (.int .i64 ((k : Nat) : Int)) (want_g rfl rfl (q305.a 118 rfl)) (fun hc => ex_move rfl (q305.e (j := 2) rfl)) rfl q305.z (by decide) (q305.k fun _ q306 => ?_);clear q305
        refine vl (true && (true == true)) (.bool true) (want_g rfl rfl (q306.a 118 rfl)) (fun hc => ex_bin rfl (q306.e (j := 119) rfl) (q306.e (j := 120) rfl) (by rw [eqlC, decide_eq_true rfl])) rfl q306.z (by decide) (q306.k fun _ q307 => ?_);clear q306
        refine q307.t (.bool true) (ex_and (z := true) rfl (q307.a 118 rfl) (q307.a 121 rfl) rfl) fun _ q308 => ?_;clear q307
        refine q308.t (.bool true) (ex_assign rfl (q308.e (j := 122) rfl)) fun _ q309 => ?_;clear q308
        refine wpList_nil ?_
        go_wp2
        refine bodyPost_ret (results_tmp rfl _ _ _) rfl ⟨?_, cu2⟩
        rw [getD_of (q309.a 8 rfl)]
        rfl
theorem back_came19 (h : List Int) (hh : Hb h) (t : ByteArray) (at_ : Int) (c : Int) (hc : (Lit.int .u8 c).wf = true) (w : World) :
    Calls Try.prog 6 #[.agg (h.map bV).toArray, .string t, .int .i64 at_, .int .u8 c] w fun e w' => e = .returned (.bool true) ∧ Below w.heap.size w w' := back19 h hh t at_ c (u8_wf hc).1 (u8_wf hc).2 w

end Go.Proofs.Ytjodieiaccfkiaa
