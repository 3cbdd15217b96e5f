import Derived.Test.YtidfcflcjkbeeaaGKx
import Derived.Test.YtidfcflcjkbeeaaK26
namespace Go.Proofs.Ytidfcflcjkbeeaa
open Go.RowKit Go.Maps
open Classical
set_option linter.unusedVariables false
set_option linter.unusedSimpArgs false

theorem neqBs (x y : Operand) (a : Bool) (w : World) : (do eqGuard .neq 4 x y (.bool a) (.bool a); binOp .neq 4 (.bool a) (.bool a) : Sem Value).run Try.prog w = .ok (.bool false) w := by
  cases a <;> go_simp
theorem ex_neg8 {o : Oper} {ρ : Operand → Value} {x : Operand} {a : Int} {w : World} (ho : o.op = .unOp .neg 3 x) (hx : ρ x = .int .i64 a) (h : -9223372036854775807 ≤ a ∧ a ≤ 9223372036854775807) : (execOp ρ o).run Try.prog w = .ok (.value (.int .i64 (-a))) w := by
  have hw : IntKind.i64.wrap (-a) = -a := by rw [IntKind.wrap_i64]; omega
  unfold execOp
  simp only [ho, hx]
  go_simp
theorem addI8 (x y : Operand) (a : Int) (h : -9223372036854775808 ≤ a) (h2 : a < 9223372036854775807) (w : World) : (do eqGuard .add 3 x y (.int .i64 a) (.int .i64 1); binOp .add 3 (.int .i64 a) (.int .i64 1) : Sem Value).run Try.prog w = .ok (.int .i64 (a + 1)) w := by
  have hw : IntKind.i64.wrap (a + 1) = a + 1 := by rw [IntKind.wrap_i64]; omega
  go_simp
theorem srA_ok {l : List Kl} (h : srE l = 0) : srA l = lst l := by unfold srA; rw [if_neg (by simp [h])]
theorem woR_ok {l : List Kl} (h : srE l = 0) : woR l = (wrs l, 0) := by unfold woR; rw [if_neg (by simp [h])]
theorem woR_no {l : List Kl} (h : ¬ srE l = 0) : woR l = (0, srE l) := by unfold woR; rw [if_pos (by simpa using h)]
def ansd (l : List Kl) (k : Int) (j : Nat) : Bool := (l.take j).any fun x => decide (x.e = k)
theorem ansd_at {l : List Kl} {j : Nat} {x : Kl} (h : l[j]? = some x) (k : Int) : ansd l k (j + 1) = (ansd l k j || decide (x.e = k)) := by
  obtain ⟨hj, rfl⟩ := List.getElem?_eq_some_iff.1 h
  unfold ansd
  rw [List.take_succ_eq_append_getElem hj, List.any_append]
  simp
set_option maxRecDepth 100000 in
set_option maxHeartbeats 2000000 in
theorem prefix18 (l : List Kl) (a : Option Addr) (c : Nat) (row : Int) (w : World) (h : SlY yK w a l.length c l) (hfx : ∀ x ∈ l, x.fits) (hb : l.length * 96 ≤ 140737488351232) (hr1 : -9223372036854775808 ≤ row) (hr2 : row ≤ 9223372036854775807) :
    Calls Try.prog 5 #[.slice a l.length c, .int .i64 (row)] w fun e w' => e = .returned (.bool true) ∧ Below w.heap.size w w' := by
  go_enter Try.func5, Try.ntmps5
  go_upto_region 0 with fail
  refine wp_region_lit ?_
  refine vl_gen (fun T => Rp T 104 [(1, gw true (.int .i64 (row))), (0, gw true (.slice a l.length c))]) (((Rp.nil rfl).cons rfl).cons rfl) (fun Z0 q0 => ?_)
  refine q0.t (.bool false) (ex_assign rfl rfl) fun _ q1 => ?_;clear q0
  refine wpList_nil ?_
  go_upto_region 1 with fail
  refine wp_region_lit ?_
  refine q1.t (.slice a l.length c) (ex_move rfl (q1.e (j := 0) rfl)) fun _ q2 => ?_;clear q1
  refine vcallP (want_none rfl) (ex_call rfl (by simp only [List.map_toArray, List.map_cons, List.map_nil, (q2.e (j := 18) rfl), evc] <;> rfl) rfl) (search18_any l a c w h hfx) rfl q2.z (by decide) ?_
  rintro e w1 ⟨v5, rfl, _, b1⟩
  refine ⟨_, rfl, q2.k fun _ q3 => ?_⟩;clear q2
  have z1 := b1.size
  have h1 := h.on b1 (Nat.le_refl _)
  refine q3.t (.tuple #[v5, .bool (srA l).isSome, .int .i64 (srE l)]) (ex_move rfl (q3.e (j := 19) rfl)) fun _ q4 => ?_;clear q3
  refine q4.t (v5) (ex_ext18 rfl (q4.e (j := 17) rfl) rfl) fun _ q5 => ?_;clear q4
  refine q5.t (.bool (srA l).isSome) (ex_ext18 rfl (q5.e (j := 17) rfl) rfl) fun _ q6 => ?_;clear q5
  refine q6.t (.int .i64 (srE l)) (ex_ext18 rfl (q6.e (j := 17) rfl) rfl) fun _ q7 => ?_;clear q6
  refine q7.t (v5) (ex_assign rfl (q7.e (j := 20) rfl)) fun _ q8 => ?_;clear q7
  refine q8.t (.bool (srA l).isSome) (ex_assign rfl (q8.e (j := 21) rfl)) fun _ q9 => ?_;clear q8
  refine q9.t (.int .i64 (srE l)) (ex_assign rfl (q9.e (j := 22) rfl)) fun _ q10 => ?_;clear q9
  have q11 := (((((Rp.nil q10.z).cons (q10.a 0 rfl)).cons (q10.a 1 rfl)).cons (q10.a 6 rfl)).cons (q10.a 7 rfl))
  clear q10
  refine wpList_nil ?_
  go_upto_region 2 with fail
  refine wp_region_lit ?_
  refine q11.t (.slice a l.length c) (ex_move rfl (q11.e (j := 0) rfl)) fun _ q12 => ?_;clear q11
  refine vcallP (want_none rfl) (ex_call rfl (by simp only [List.map_toArray, List.map_cons, List.map_nil, (q12.e (j := 24) rfl), evc] <;> rfl) rfl) (worst18 l a c w1 h1 hfx hb) rfl q12.z (by decide) ?_
  rintro e w2 ⟨rfl, b2⟩
  refine ⟨_, rfl, q12.k fun _ q13 => ?_⟩;clear q12
  have c2 : Below w.heap.size w w2 := b1.trans (b2.mono z1)
  have z2 := c2.size
  have h2 := h.on c2 (Nat.le_refl _)
  refine q13.t (.tuple #[.int .i64 ((woR l).1), .int .i64 ((woR l).2)]) (ex_move rfl (q13.e (j := 25) rfl)) fun _ q14 => ?_;clear q13
  refine q14.t (.int .i64 ((woR l).1)) (ex_ext18 rfl (q14.e (j := 23) rfl) rfl) fun _ q15 => ?_;clear q14
  refine q15.t (.int .i64 ((woR l).2)) (ex_ext18 rfl (q15.e (j := 23) rfl) rfl) fun _ q16 => ?_;clear q15
  refine q16.t (.int .i64 ((woR l).1)) (ex_assign rfl (q16.e (j := 26) rfl)) fun _ q17 => ?_;clear q16
  refine q17.t (.int .i64 ((woR l).2)) (ex_assign rfl (q17.e (j := 27) rfl)) fun _ q18 => ?_;clear q17
  have q19 := (((((((Rp.nil q18.z).cons (q18.a 0 rfl)).cons (q18.a 1 rfl)).cons (q18.a 6 rfl)).cons (q18.a 7 rfl)).cons (q18.a 8 rfl)).cons (q18.a 9 rfl))
  clear q18
  refine wpList_nil ?_
  go_upto_region 3 with fail
  refine wp_region_lit ?_
  refine q19.t (.int .i64 (srE l)) (ex_move rfl (q19.e (j := 7) rfl)) fun _ q20 => ?_;clear q19
  refine q20.t (.bool (!decide (srE l = 0))) (ex_bin rfl (q20.e (j := 28) rfl) rfl (neqE18 _ _ _ _ _)) fun _ q21 => ?_;clear q20
  refine wpList_nil ?_
  by_cases he : srE l = 0
  · obtain ⟨hk, h8⟩ := srE_zero he
    have q21x := q21.a 29 rfl
    rw [he] at q21x
    have eA := srA_ok he
    have eW := woR_ok he
    have hiff := wrs_iff h8 hk
    rw [eA, eW] at q21
    obtain ⟨ok, hok⟩ : ∃ b, b = (lst l).isSome := ⟨_, rfl⟩
    obtain ⟨k, hkk⟩ : ∃ k, k = wrs l := ⟨_, rfl⟩
    rw [← hkk, ← hok] at hiff
    rw [show (wrs l, (0 : Int)).1 = k from hkk.symm, ← hok] at q21
    go_upto_region 5 with fail
    refine wp_cond_false (ev q21x rfl) ?_
    clear q21x
    go_upto_region 5 with fail
    refine wp_region_lit ?_
    refine q21.t (.int .i64 0) (ex_move rfl (q21.e (j := 9) rfl)) fun _ q22 => ?_;clear q21
    refine q22.t (.bool false) (ex_bin (Y := .int .i64 0) rfl (q22.e (j := 40) rfl) rfl (by rw [neqE18]; rfl)) fun _ q23 => ?_;clear q22
    refine q23.t (.bool false) (ex_move rfl (q23.e (j := 41) rfl)) fun _ q24 => ?_;clear q23
    refine vl (true && (false == false)) (.int .i64 (k)) (want_g rfl rfl (q24.a 42 rfl)) (fun hc => ex_move rfl (q24.e (j := 8) rfl)) rfl q24.z (by decide) (q24.k fun _ q25 => ?_);clear q24
    refine vl (true && (false == false)) (.bool ok) (want_g rfl rfl (q25.a 42 rfl)) (fun hc => ex_bin (Y := .int .i64 (-1)) rfl (q25.e (j := 43) rfl) rfl (by rw [eqlC, hiff])) rfl q25.z (by decide) (q25.k fun _ q26 => ?_);clear q25
    refine vl (true && (false == false)) (.bool ok) (want_g rfl rfl (q26.a 42 rfl)) (fun hc => ex_move rfl (q26.e (j := 6) rfl)) rfl q26.z (by decide) (q26.k fun _ q27 => ?_);clear q26
    refine vl (true && (false == false)) (.bool false) (want_g rfl rfl (q27.a 42 rfl)) (fun hc => ex_bin rfl (q27.e (j := 44) rfl) (q27.e (j := 45) rfl) (neqBs _ _ _ _)) rfl q27.z (by decide) (q27.k fun _ q28 => ?_);clear q27
    refine q28.t (.bool false) (ex_or (z := false) rfl (q28.a 42 rfl) (q28.a 46 rfl) rfl) fun _ q29 => ?_;clear q28
    have q30 := ((((((Rp.nil q29.z).cons (q29.a 0 rfl)).cons (q29.a 1 rfl)).cons (q29.a 6 rfl)).cons (q29.a 8 rfl)).cons (q29.a 47 rfl))
    clear q29
    refine wpList_nil ?_
    go_upto_region 7 with fail
    refine wp_cond_false (q30.e (j := 47) rfl) ?_
    go_upto_region 7 with fail
    refine wp_region_lit ?_
    refine q30.t (.int .i64 (row)) (ex_move rfl (q30.e (j := 1) rfl)) fun _ q31 => ?_;clear q30
    refine q31.t (.bool (decide (row < 0))) (ex_bin rfl (q31.e (j := 48) rfl) rfl (lssC _ _ _ _ _)) fun _ q32 => ?_;clear q31
    have q33 := ((((((Rp.nil q32.z).cons (q32.a 0 rfl)).cons (q32.a 1 rfl)).cons (q32.a 6 rfl)).cons (q32.a 8 rfl)).cons (q32.a 49 rfl))
    clear q32
    refine wpList_nil ?_
    go_upto_if 49 with fail
    refine v_cut18 (fun T w9 => ∃ r : Int, Rp T 104 [(8, gw true (.int .i64 (k))), (6, gw true (.bool ok)), (1, gw true (.int .i64 (r))), (0, gw true (.slice a l.length c))] ∧ 0 ≤ r ∧ r ≤ 9223372036854775807 ∧ w9 = w2) ?_ ?_
    · by_cases hr : row < 0
      · have q33x := q33.a 49 rfl
        rw [decide_eq_true hr] at q33x
        refine wp_cond_true (ev q33x rfl) ?_
        clear q33x
        go_upto_region 8 with fail
        refine wp_region_lit ?_
        refine q33.t (.int .i64 (row)) (ex_move rfl (q33.e (j := 1) rfl)) fun _ q34 => ?_;clear q33
        refine q34.t (.int .i64 (row + 1)) (ex_bin rfl (q34.e (j := 50) rfl) rfl (addI8 _ _ _ (by omega) (by omega) _)) fun _ q35 => ?_;clear q34
        refine q35.t (.int .i64 (-(row + 1))) (ex_neg8 rfl (q35.e (j := 51) rfl) (by omega)) fun _ q36 => ?_;clear q35
        refine q36.t (.int .i64 (-(row + 1))) (ex_assign rfl (q36.e (j := 52) rfl)) fun _ q37 => ?_;clear q36
        have q38 := (((((Rp.nil q37.z).cons (q37.a 0 rfl)).cons (q37.a 1 rfl)).cons (q37.a 6 rfl)).cons (q37.a 8 rfl))
        clear q37
        refine wpList_nil ?_
        exact ⟨_, rfl, -(row + 1), q38, by omega, by omega, rfl⟩
      · have q33x := q33.a 49 rfl
        rw [decide_eq_false hr] at q33x
        refine wp_cond_false (ev q33x rfl) ?_
        clear q33x
        have q34 := (((((Rp.nil q33.z).cons (q33.a 0 rfl)).cons (q33.a 1 rfl)).cons (q33.a 6 rfl)).cons (q33.a 8 rfl))
        clear q33
        apply wp_skip
        exact ⟨_, rfl, row, q34, by omega, by omega, rfl⟩
    · rintro T w9 ⟨r, q200, hr0, hrm, rfl⟩
      go_upto_region 9 with fail
      refine wp_region_lit ?_
      refine q200.t (.bool ok) (ex_move rfl (q200.e (j := 6) rfl)) fun _ q201 => ?_;clear q200
      refine q201.t (.bool (!ok)) (ex_not rfl (q201.e (j := 53) rfl)) fun _ q202 => ?_;clear q201
      refine q202.t (.bool (!ok)) (ex_move rfl (q202.e (j := 54) rfl)) fun _ q203 => ?_;clear q202
      refine vl (true && ((!ok) == true)) (.int .i64 (r)) (want_g rfl rfl (q203.a 55 rfl)) (fun hc => ex_move rfl (q203.e (j := 1) rfl)) rfl q203.z (by decide) (q203.k fun _ q204 => ?_);clear q203
      refine vl (true && ((!ok) == true)) (.int .i64 (k)) (want_g rfl rfl (q204.a 55 rfl)) (fun hc => ex_move rfl (q204.e (j := 8) rfl)) rfl q204.z (by decide) (q204.k fun _ q205 => ?_);clear q204
      refine vl (true && ((!ok) == true)) (.bool (decide (k < r))) (want_g rfl rfl (q205.a 55 rfl)) (fun hc => ex_bin rfl (ev (q205.a 56 rfl) hc) (ev (q205.a 57 rfl) hc) (gtrC _ _ _ _ _)) rfl q205.z (by decide) (q205.k fun _ q206 => ?_);clear q205
      refine q206.t (.bool ((!ok) && decide (k < r))) (ex_and rfl (q206.a 55 rfl) (q206.a 58 rfl) rfl) fun _ q207 => ?_;clear q206
      have q208 := ((((((Rp.nil q207.z).cons (q207.a 0 rfl)).cons (q207.a 1 rfl)).cons (q207.a 6 rfl)).cons (q207.a 8 rfl)).cons (q207.a 59 rfl))
      clear q207
      refine wpList_nil ?_
      go_upto_if 59 with fail
      refine v_cut18 (fun T w8 => ∃ r : Int, Rp T 104 [(8, gw true (.int .i64 (k))), (6, gw true (.bool ok)), (1, gw true (.int .i64 (r))), (0, gw true (.slice a l.length c))] ∧ 0 ≤ r ∧ r ≤ 9223372036854775807 ∧ ((lst l).isSome = true ∨ r ≤ wrs l) ∧ w8 = w9) ?_ ?_
      · cases hc : ((!ok) && decide (k < r)) with
        | true =>
          have q208x := q208.a 59 rfl
          rw [hc] at q208x
          refine wp_cond_true (ev q208x rfl) ?_
          clear q208x
          simp only [Bool.and_eq_true, Bool.not_eq_true', decide_eq_true_eq] at hc
          have hkn : ¬ k = -1 := fun e => by rw [decide_eq_true e, hc.1] at hiff; cases hiff
          have hk0 : 0 ≤ k := by rcases wrs_cases l with ⟨e, _⟩ | ⟨e, _⟩; exact absurd (hkk.trans e) hkn; omega
          go_upto_region 10 with fail
          refine wp_region_lit ?_
          refine q208.t (.int .i64 (k)) (ex_move rfl (q208.e (j := 8) rfl)) fun _ q209 => ?_;clear q208
          refine q209.t (.int .i64 (k)) (ex_assign rfl (q209.e (j := 60) rfl)) fun _ q210 => ?_;clear q209
          have q211 := (((((Rp.nil q210.z).cons (q210.a 0 rfl)).cons (q210.a 1 rfl)).cons (q210.a 6 rfl)).cons (q210.a 8 rfl))
          clear q210
          refine wpList_nil ?_
          exact ⟨_, rfl, k, q211, hk0, by omega, .inr (by omega), rfl⟩
        | false =>
          have q208x := q208.a 59 rfl
          rw [hc] at q208x
          refine wp_cond_false (ev q208x rfl) ?_
          clear q208x
          have hgd : (lst l).isSome = true ∨ r ≤ wrs l := by
            rw [← hok, ← hkk]
            simp only [Bool.and_eq_false_iff, decide_eq_false_iff_not] at hc
            rcases hc with hc | hc
            · exact .inl (by simpa using hc)
            · exact .inr (by omega)
          have q209 := (((((Rp.nil q208.z).cons (q208.a 0 rfl)).cons (q208.a 1 rfl)).cons (q208.a 6 rfl)).cons (q208.a 8 rfl))
          clear q208
          apply wp_skip
          exact ⟨_, rfl, r, q209, hr0, hrm, hgd, rfl⟩
      · rintro T w8 ⟨r2, q300, hr0, hrm, hgd, rfl⟩
        obtain ⟨g1, g2, g3⟩ := cut_good h8 hk hr0 hgd
        have hcl := ctR_len l r2
        have hcf : ∀ x ∈ (ctR l r2).1, x.fits := by
          unfold ctR
          split
          · simp
          · split
            · simp
            · exact upR_fits hfx
        go_upto_region 11 with fail
        refine wp_region_lit ?_
        refine q300.t (.slice a l.length c) (ex_move rfl (q300.e (j := 0) rfl)) fun _ q301 => ?_;clear q300
        refine q301.t (.int .i64 (r2)) (ex_move rfl (q301.e (j := 1) rfl)) fun _ q302 => ?_;clear q301
        refine vcallP (want_none rfl) (ex_call rfl (by simp only [List.map_toArray, List.map_cons, List.map_nil, (q302.e (j := 62) rfl), (q302.e (j := 63) rfl), evc] <;> rfl) rfl) (cut18 l a c r2 w8 h2 hfx hb hrm) rfl q302.z (by decide) ?_
        rintro e w3 ⟨v8, rfl, o8, b3⟩
        refine ⟨_, rfl, q302.k fun _ q303 => ?_⟩;clear q302
        have c3 : Below w.heap.size w w3 := c2.trans (b3.mono z2)
        have z3 := c3.size
        have h3 := h.on c3 (Nat.le_refl _)
        obtain ⟨a8, c8, hv8, s8, _⟩ := o8.sl kK
        rw [g1] at q303
        refine q303.t (.tuple #[v8, .int .i64 0]) (ex_move rfl (q303.e (j := 64) rfl)) fun _ q304 => ?_;clear q303
        refine q304.t (v8) (ex_ext18 rfl (q304.e (j := 61) rfl) rfl) fun _ q305 => ?_;clear q304
        refine q305.t (.int .i64 0) (ex_ext18 rfl (q305.e (j := 61) rfl) rfl) fun _ q306 => ?_;clear q305
        refine q306.t (v8) (ex_assign rfl (q306.e (j := 65) rfl)) fun _ q307 => ?_;clear q306
        refine q307.t (.int .i64 0) (ex_assign rfl (q307.e (j := 66) rfl)) fun _ q308 => ?_;clear q307
        have q309 := ((((((Rp.nil q308.z).cons (q308.a 0 rfl)).cons (q308.a 6 rfl)).cons (q308.a 8 rfl)).cons (q308.a 10 rfl)).cons (q308.a 11 rfl))
        clear q308
        refine wpList_nil ?_
        go_upto_region 12 with fail
        refine wp_region_lit ?_
        rw [hv8] at q309
        refine q309.t (.slice a8 (ctR l r2).1.length c8) (ex_move rfl (q309.e (j := 10) rfl)) fun _ q310 => ?_;clear q309
        refine vcallP (want_none rfl) (ex_call rfl (by simp only [List.map_toArray, List.map_cons, List.map_nil, (q310.e (j := 68) rfl), evc] <;> rfl) rfl) (search18_any (ctR l r2).1 a8 c8 w3 s8 hcf) rfl q310.z (by decide) ?_
        rintro e w4 ⟨v9, rfl, _, b4⟩
        refine ⟨_, rfl, q310.k fun _ q311 => ?_⟩;clear q310
        have c4 : Below w.heap.size w w4 := c3.trans (b4.mono z3)
        have z4 := c4.size
        have h4 := h.on c4 (Nat.le_refl _)
        rw [g2, g3] at q311
        refine q311.t (.tuple #[v9, .bool true, .int .i64 0]) (ex_move rfl (q311.e (j := 69) rfl)) fun _ q312 => ?_;clear q311
        refine q312.t (v9) (ex_ext18 rfl (q312.e (j := 67) rfl) rfl) fun _ q313 => ?_;clear q312
        refine q313.t (.bool true) (ex_ext18 rfl (q313.e (j := 67) rfl) rfl) fun _ q314 => ?_;clear q313
        refine q314.t (.int .i64 0) (ex_ext18 rfl (q314.e (j := 67) rfl) rfl) fun _ q315 => ?_;clear q314
        refine q315.t (v9) (ex_assign rfl (q315.e (j := 70) rfl)) fun _ q316 => ?_;clear q315
        refine q316.t (.bool true) (ex_assign rfl (q316.e (j := 71) rfl)) fun _ q317 => ?_;clear q316
        refine q317.t (.int .i64 0) (ex_assign rfl (q317.e (j := 72) rfl)) fun _ q318 => ?_;clear q317
        have q319 := (((((((Rp.nil q318.z).cons (q318.a 0 rfl)).cons (q318.a 6 rfl)).cons (q318.a 8 rfl)).cons (q318.a 11 rfl)).cons (q318.a 13 rfl)).cons (q318.a 14 rfl))
        clear q318
        refine wpList_nil ?_
        go_upto_region 13 with fail
        refine wp_region_lit ?_
        refine q319.t (.int .i64 0) (ex_move rfl (q319.e (j := 11) rfl)) fun _ q320 => ?_;clear q319
        refine q320.t (.bool false) (ex_bin (Y := .int .i64 0) rfl (q320.e (j := 73) rfl) rfl (by rw [neqE18]; rfl)) fun _ q321 => ?_;clear q320
        refine q321.t (.bool false) (ex_move rfl (q321.e (j := 74) rfl)) fun _ q322 => ?_;clear q321
        refine vl (true && (false == false)) (.int .i64 0) (want_g rfl rfl (q322.a 75 rfl)) (fun hc => ex_move rfl (q322.e (j := 14) rfl)) rfl q322.z (by decide) (q322.k fun _ q323 => ?_);clear q322
        refine vl (true && (false == false)) (.bool false) (want_g rfl rfl (q323.a 75 rfl)) (fun hc => ex_bin (Y := .int .i64 0) rfl (q323.e (j := 76) rfl) rfl (by rw [neqE18]; rfl)) rfl q323.z (by decide) (q323.k fun _ q324 => ?_);clear q323
        refine q324.t (.bool false) (ex_or (z := false) rfl (q324.a 75 rfl) (q324.a 77 rfl) rfl) fun _ q325 => ?_;clear q324
        refine q325.t (.bool false) (ex_move rfl (q325.e (j := 78) rfl)) fun _ q326 => ?_;clear q325
        refine vl (true && (false == false)) (.bool true) (want_g rfl rfl (q326.a 79 rfl)) (fun hc => ex_move rfl (q326.e (j := 13) rfl)) rfl q326.z (by decide) (q326.k fun _ q327 => ?_);clear q326
        refine vl (true && (false == false)) (.bool false) (want_g rfl rfl (q327.a 79 rfl)) (fun hc => ex_not rfl (q327.e (j := 80) rfl)) rfl q327.z (by decide) (q327.k fun _ q328 => ?_);clear q327
        refine q328.t (.bool false) (ex_or (z := false) rfl (q328.a 79 rfl) (q328.a 81 rfl) rfl) fun _ q329 => ?_;clear q328
        have q330 := (((((Rp.nil q329.z).cons (q329.a 0 rfl)).cons (q329.a 6 rfl)).cons (q329.a 8 rfl)).cons (q329.a 82 rfl))
        clear q329
        refine wpList_nil ?_
        go_upto_region 15 with fail
        refine wp_cond_false (q330.e (j := 82) rfl) ?_
        go_upto_region 15 with fail
        refine wp_region_lit ?_
        refine q330.t (.bool ok) (ex_move rfl (q330.e (j := 6) rfl)) fun _ q331 => ?_;clear q330
        refine q331.t (.bool (ok || ansd l k 0)) (ex_assign rfl ((q331.e (j := 83) rfl).trans (by simp [ansd]))) fun _ q332 => ?_;clear q331
        refine wpList_nil ?_
        go_upto_region 16 with fail
        refine wp_region_lit ?_
        refine q332.t (.int .i64 ((0 : Nat) : Int)) (ex_assign rfl rfl) fun _ q333 => ?_;clear q332
        have q334 := (((((Rp.nil q333.z).cons (q333.a 0 rfl)).cons (q333.a 8 rfl)).cons (q333.a 15 rfl)).cons (q333.a 16 rfl))
        clear q333
        refine wpList_nil ?_
        go_upto_region 17 with fail
        refine v_loop 16 l.length (fun j T wr => Rp T 104 [(16, gw true (.int .i64 ((j : Nat) : Int))), (15, gw true (.bool (ok || ansd l k j))), (8, gw true (.int .i64 (k))), (0, gw true (.slice a l.length c))] ∧ Hid (Below w.heap.size w wr)) (fun j T w h => h.1.a 16 rfl) ⟨q334, c4⟩ ?_
        clear q334
        intro j T wr hj hh
        obtain ⟨q400, HJ⟩ := hh
        have br := HJ.out
        clear HJ
        have zr := br.size
        by_cases hit : j < l.length
        · obtain ⟨x, hx⟩ : ∃ x, l[j]? = some x := ⟨_, List.getElem?_eq_getElem hit⟩
          obtain ⟨qa, oa, hqa, hqal, hlie⟩ := (h.on br (Nat.le_refl _)).place (by rintro rfl; simp at hit)
          have hua := ansd_at hx k
          go_upto_region 17 with fail
          refine wp_region_lit ?_
          refine q400.t (.int .i64 ((j : Nat) : Int)) (ex_move rfl (q400.e (j := 16) rfl)) fun _ q401 => ?_;clear q400
          refine q401.t (.slice a l.length c) (ex_move rfl (q401.e (j := 0) rfl)) fun _ q402 => ?_;clear q401
          refine q402.t (.int .i64 ((l.length : Nat) : Int)) (ex_len18 rfl rfl (q402.e (j := 85) rfl)) fun _ q403 => ?_;clear q402
          refine q403.t (.bool true) (ex_bin rfl (q403.e (j := 84) rfl) (q403.e (j := 86) rfl) (ltT _ _ hit _)) fun _ q404 => ?_;clear q403
          refine wpList_nil ?_
          go_upto_region 19 with fail
          refine wp_cond_true (q404.e (j := 87) rfl) ?_
          go_upto_region 19 with fail
          refine wp_region_lit ?_
          refine q404.t (.bool (ok || ansd l k j)) (ex_move rfl (q404.e (j := 15) rfl)) fun _ q405 => ?_;clear q404
          refine q405.t (.bool (ok || ansd l k j)) (ex_move rfl (q405.e (j := 90) rfl)) fun _ q406 => ?_;clear q405
          refine vl (true && ((ok || ansd l k j) == false)) (.slice a l.length c) (want_g rfl rfl (q406.a 91 rfl)) (fun hc => ex_move rfl (q406.e (j := 0) rfl)) rfl q406.z (by decide) (q406.k fun _ q407 => ?_);clear q406
          refine vl (true && ((ok || ansd l k j) == false)) (.int .i64 ((j : Nat) : Int)) (want_g rfl rfl (q407.a 91 rfl)) (fun hc => ex_move rfl (q407.e (j := 16) rfl)) rfl q407.z (by decide) (q407.k fun _ q408 => ?_);clear q407
          refine vl (true && ((ok || ansd l k j) == false)) (.pointer (some ⟨qa, oa + j * 10, none⟩)) (want_g rfl rfl (q408.a 91 rfl)) (fun hc => ex_ix rfl (ev (q408.a 92 rfl) hc) (ev (q408.a 93 rfl) hc) (by rw [hqa]; exact ixK qa oa l.length c j hit _)) rfl q408.z (by decide) (q408.k fun _ q409 => ?_);clear q408
          refine vl (true && ((ok || ansd l k j) == false)) (.pointer (some ⟨qa, oa + j * 10 + 6, none⟩)) (want_g rfl rfl (q409.a 91 rfl)) (fun hc => ex_fa rfl (ev (q409.a 94 rfl) hc) (faK4o _ _ _)) rfl q409.z (by decide) (q409.k fun _ q410 => ?_);clear q409
          refine vl (true && ((ok || ansd l k j) == false)) (.int .i64 (x.e)) (want_g rfl rfl (q410.a 91 rfl)) (fun hc => ex_ld rfl (ev (q410.a 95 rfl) hc) (ldI18 (hlie j x hx 6 _ rfl))) rfl q410.z (by decide) (q410.k fun _ q411 => ?_);clear q410
          refine vl (true && ((ok || ansd l k j) == false)) (.int .i64 (k)) (want_g rfl rfl (q411.a 91 rfl)) (fun hc => ex_move rfl (q411.e (j := 8) rfl)) rfl q411.z (by decide) (q411.k fun _ q412 => ?_);clear q411
          refine vl (true && ((ok || ansd l k j) == false)) (.bool (decide (x.e = k))) (want_g rfl rfl (q412.a 91 rfl)) (fun hc => ex_bin rfl (ev (q412.a 96 rfl) hc) (ev (q412.a 97 rfl) hc) (eqlC _ _ _ _ _)) rfl q412.z (by decide) (q412.k fun _ q413 => ?_);clear q412
          refine q413.t (.bool ((ok || ansd l k j) || decide (x.e = k))) (ex_or rfl (q413.a 91 rfl) (q413.a 98 rfl) rfl) fun _ q414 => ?_;clear q413
          refine q414.t (.bool ((ok || ansd l k j) || decide (x.e = k))) (ex_assign rfl (q414.e (j := 99) rfl)) fun _ q415 => ?_;clear q414
          have q416 := (((((Rp.nil q415.z).cons (q415.a 0 rfl)).cons (q415.a 8 rfl)).cons (q415.a 15 rfl)).cons (q415.a 16 rfl))
          clear q415
          rw [Bool.or_assoc, ← hua] at q416
          refine wpList_nil ?_
          go_upto_region 18 with fail
          refine wp_region_lit ?_
          refine q416.t (.int .i64 ((j : Nat) : Int)) (ex_move rfl (q416.e (j := 16) rfl)) fun _ q417 => ?_;clear q416
          refine q417.t (.int .i64 ((j + 1 : Nat) : Int)) (ex_bin rfl (q417.e (j := 88) rfl) rfl (add1C _ _ j (by omega) _)) fun _ q418 => ?_;clear q417
          refine q418.t (.int .i64 ((j + 1 : Nat) : Int)) (ex_assign rfl (q418.e (j := 89) rfl)) fun _ q419 => ?_;clear q418
          have q420 := (((((Rp.nil q419.z).cons (q419.a 0 rfl)).cons (q419.a 8 rfl)).cons (q419.a 15 rfl)).cons (q419.a 16 rfl))
          clear q419
          refine wpList_nil ?_
          exact ⟨_, rfl, hit, q420, br⟩
        · obtain rfl : j = l.length := by omega
          have hT : (ok || ansd l k l.length) = true := by
            cases hok2 : ok with
            | true => rfl
            | false =>
              rw [Bool.false_or]
              have hkn : ¬ k = -1 := fun e => by rw [decide_eq_true e, hok2] at hiff; cases hiff
              rcases wrs_cases l with ⟨e, _⟩ | ⟨_, _, ⟨x, hx, _, hxe⟩, _⟩
              · exact absurd (hkk.trans e) hkn
              · unfold ansd
                rw [List.take_length, List.any_eq_true]
                exact ⟨x, hx, by rw [hxe, hkk]; exact decide_eq_true rfl⟩
          rw [hT] at q400
          go_upto_region 17 with fail
          refine wp_region_lit ?_
          refine q400.t (.int .i64 ((l.length : Nat) : Int)) (ex_move rfl (q400.e (j := 16) rfl)) fun _ q401 => ?_;clear q400
          refine q401.t (.slice a l.length c) (ex_move rfl (q401.e (j := 0) rfl)) fun _ q402 => ?_;clear q401
          refine q402.t (.int .i64 ((l.length : Nat) : Int)) (ex_len18 rfl rfl (q402.e (j := 85) rfl)) fun _ q403 => ?_;clear q402
          refine q403.t (.bool false) (ex_bin rfl (q403.e (j := 84) rfl) (q403.e (j := 86) rfl) (ltF _ _ hit _)) fun _ q404 => ?_;clear q403
          refine wpList_nil ?_
          go_upto_region 20 with fail
          refine wp_cond_false (q404.e (j := 87) rfl) ?_
          go_upto_region 20 with fail
          refine wp_region_lit ?_
          refine vcallP (want_none rfl) (ex_call (args := #[]) rfl (by simp) rfl) (works18_any wr) rfl q404.z (by decide) ?_
          rintro e w5 ⟨rfl, b5⟩
          refine ⟨_, rfl, q404.k fun _ q405 => ?_⟩;clear q404
          have c5 : Below w.heap.size w w5 := br.trans (b5.mono zr)
          refine q405.t (.bool true) (ex_move rfl (q405.e (j := 100) rfl)) fun _ q406 => ?_;clear q405
          refine vl (true && (true == true)) (.bool true) (want_g rfl rfl (q406.a 101 rfl)) (fun hc => ex_move rfl (q406.e (j := 15) rfl)) rfl q406.z (by decide) (q406.k fun _ q407 => ?_);clear q406
          refine q407.t (.bool true) (ex_and (z := true) rfl (q407.a 101 rfl) (q407.a 102 rfl) rfl) fun _ q408 => ?_;clear q407
          refine q408.t (.bool true) (ex_assign rfl (q408.e (j := 103) rfl)) fun _ q409 => ?_;clear q408
          refine wpList_nil ?_
          go_wp2
          refine bodyPost_ret (results_tmp rfl _ _ _) rfl ⟨?_, c5⟩
          rw [getD_of (q409.a 4 rfl)]
          rfl
  · have q21x := q21.a 29 rfl
    rw [decide_eq_false he] at q21x
    have eW := woR_no he
    rw [eW] at q21
    go_upto_region 4 with fail
    refine wp_cond_true (ev q21x rfl) ?_
    clear q21x
    go_upto_region 4 with fail
    refine wp_region_lit ?_
    refine vcallP (want_none rfl) (ex_call (args := #[]) rfl (by simp) rfl) (works18_any w2) rfl q21.z (by decide) ?_
    rintro e w3 ⟨rfl, b3⟩
    refine ⟨_, rfl, q21.k fun _ q22 => ?_⟩;clear q21
    have c3 : Below w.heap.size w w3 := c2.trans (b3.mono z2)
    refine q22.t (.bool true) (ex_move rfl (q22.e (j := 30) rfl)) fun _ q23 => ?_;clear q22
    refine vl (true && (true == true)) (.int .i64 (srE l)) (want_g rfl rfl (q23.a 31 rfl)) (fun hc => ex_move rfl (q23.e (j := 9) rfl)) rfl q23.z (by decide) (q23.k fun _ q24 => ?_);clear q23
    refine vl (true && (true == true)) (.int .i64 (srE l)) (want_g rfl rfl (q24.a 31 rfl)) (fun hc => ex_move rfl (q24.e (j := 7) rfl)) rfl q24.z (by decide) (q24.k fun _ q25 => ?_);clear q24
    refine vl (true && (true == true)) (.bool true) (want_g rfl rfl (q25.a 31 rfl)) (fun hc => ex_bin rfl (q25.e (j := 32) rfl) (q25.e (j := 33) rfl) (by rw [eqlE18, decide_eq_true rfl])) rfl q25.z (by decide) (q25.k fun _ q26 => ?_);clear q25
    refine q26.t (.bool true) (ex_and (z := true) rfl (q26.a 31 rfl) (q26.a 34 rfl) rfl) fun _ q27 => ?_;clear q26
    refine q27.t (.bool true) (ex_move rfl (q27.e (j := 35) rfl)) fun _ q28 => ?_;clear q27
    refine vl (true && (true == true)) (.int .i64 0) (want_g rfl rfl (q28.a 36 rfl)) (fun hc => ex_move rfl (q28.e (j := 8) rfl)) rfl q28.z (by decide) (q28.k fun _ q29 => ?_);clear q28
    refine vl (true && (true == true)) (.bool true) (want_g rfl rfl (q29.a 36 rfl)) (fun hc => ex_bin (Y := .int .i64 0) rfl (q29.e (j := 37) rfl) rfl (by rw [eqlC]; rfl)) rfl q29.z (by decide) (q29.k fun _ q30 => ?_);clear q29
    refine q30.t (.bool true) (ex_and (z := true) rfl (q30.a 36 rfl) (q30.a 38 rfl) rfl) fun _ q31 => ?_;clear q30
    refine q31.t (.bool true) (ex_assign rfl (q31.e (j := 39) rfl)) fun _ q32 => ?_;clear q31
    refine wpList_nil ?_
    go_wp2
    refine bodyPost_ret (results_tmp rfl _ _ _) rfl ⟨?_, c3⟩
    rw [getD_of (q32.a 4 rfl)]
    rfl
theorem prefix_came18 (a : Option Addr) (n c : Nat) (r : Int) (W : World) (h : CameKl W a n c) (hr : (Lit.int .i64 r).wf = true) : Calls Try.prog 5 #[.slice a n c, .int .i64 r] W fun e w' => e = .returned (.bool true) ∧ Below W.heap.size W w' := by
  obtain ⟨P, h1, h2, h3⟩ := h
  have hl := h1.len
  subst hl
  exact prefix18 P a c r W h1 h2 h3 (i64_wf hr).1 (i64_wf hr).2

end Go.Proofs.Ytidfcflcjkbeeaa
