import Derived.Test.YtidfcflcjkbeeaaGKv
namespace Go.Proofs.Ytidfcflcjkbeeaa
open Go.RowKit Go.Maps
open Classical
set_option linter.unusedVariables false
set_option linter.unusedSimpArgs false

theorem preL_head (n k : Nat) (O : List Nat) : (preL n k O)[0]? = some O := by cases k <;> rfl
theorem srA_ok9 {l : List Kl} (h : srE l = 0) : srA l = lst l := by unfold srA; rw [if_neg (by simp [h])]
theorem srA_no9 {l : List Kl} (h : ¬ srE l = 0) : srA l = none := by unfold srA; rw [if_pos h]
theorem find_at {α : Type} {p : α → Bool} : ∀ {E : List α} {j : Nat} {x : α}, E[j]? = some x → p x = true → (∀ i, i < j → ∀ o, E[i]? = some o → p o = false) → E.find? p = some x
  | [], j, x, h, _, _ => by simp at h
  | y :: E, 0, x, h, hp, _ => by
    simp at h
    subst h
    rw [List.find?_cons, hp]
  | y :: E, j + 1, x, h, hp, hn => by
    rw [List.find?_cons, hn 0 (by omega) y rfl]
    exact find_at (by simpa using h) hp (fun i hi o ho => hn (i + 1) (by omega) o (by simpa using ho))
theorem find_no {α : Type} {p : α → Bool} {E : List α} (hn : ∀ i, i < E.length → ∀ o, E[i]? = some o → p o = false) : E.find? p = none := by
  rw [List.find?_eq_none]
  intro o ho
  obtain ⟨i, hi, he⟩ := List.getElem_of_mem ho
  rw [hn i hi o (by rw [List.getElem?_eq_getElem hi, he])]
  simp
theorem gtr5 (x y : Operand) (n : Nat) (w : World) : (do eqGuard .gtr 3 x y (.int .i64 ((n : Nat) : Int)) (.int .i64 5); binOp .gtr 3 (.int .i64 ((n : Nat) : Int)) (.int .i64 5) : Sem Value).run Try.prog w = .ok (.bool (decide (5 < n))) w := by
  rw [gtrC]
  by_cases e : 5 < n
  · rw [decide_eq_true e, decide_eq_true (by omega)]
  · rw [decide_eq_false e, decide_eq_false (by omega)]
theorem some_lt {α : Type} (E : List α) (j : Nat) : (E[j]?).isSome = decide (j < E.length) := by
  by_cases h : j < E.length
  · rw [List.getElem?_eq_getElem h, decide_eq_true h]; rfl
  · rw [List.getElem?_eq_none (by omega), decide_eq_false h]; rfl
set_option maxRecDepth 100000 in
set_option maxHeartbeats 2000000 in
theorem least18 (l : List Kl) (a : Option Addr) (c : Nat) (w : World) (h : SlY yK w a l.length c l) (hfx : ∀ x ∈ l, x.fits) (hb : l.length * 96 ≤ 140737488351232) :
    Calls Try.prog 4 #[.slice a l.length c] w fun e w' => e = .returned (.bool true) ∧ Below w.heap.size w w' := by
  go_enter Try.func4, Try.ntmps4
  go_upto_region 0 with fail
  refine wp_region_lit ?_
  refine vl_gen (fun T => Rp T 70 [(0, gw true (.slice a l.length c))]) ((Rp.nil rfl).cons rfl) (fun Z0 q0 => ?_)
  refine q0.t (.bool false) (ex_assign rfl rfl) fun _ q1 => ?_;clear q0
  refine wpList_nil ?_
  go_upto_region 1 with fail
  refine wp_region_lit ?_
  refine q1.t (.slice a l.length c) (ex_move rfl (q1.e (j := 0) rfl)) fun _ q2 => ?_;clear q1
  refine q2.t (.int .i64 ((l.length : Nat) : Int)) (ex_lenG rfl rfl Try.underlying24 (q2.e (j := 10) rfl)) fun _ q3 => ?_;clear q2
  refine q3.t (.bool (decide (5 < l.length))) (ex_bin (Y := .int .i64 5) rfl (q3.e (j := 11) rfl) rfl (gtr5 _ _ _ _)) fun _ q4 => ?_;clear q3
  have q5 := (((Rp.nil q4.z).cons (q4.a 0 rfl)).cons (q4.a 12 rfl))
  clear q4
  refine wpList_nil ?_
  go_upto_if 12 with fail
  refine v_cut18 (fun T w9 => ∃ l2 : List Kl, Rp T 70 [(0, gw true (.slice a l2.length c))] ∧ SlY yK w a l2.length c l2 ∧ (∀ x ∈ l2, x.fits) ∧ l2.length ≤ 5 ∧ w9 = w) ?_ ?_
  · by_cases hr : 5 < l.length
    · have q5x := q5.a 12 rfl
      rw [decide_eq_true hr] at q5x
      refine wp_cond_true (ev q5x rfl) ?_
      clear q5x
      obtain ⟨qa, oa, hqa, hqal, _⟩ := h.place (by rintro rfl; simp at hr)
      have e5 : (l.take 5).length = 5 := by rw [List.length_take]; omega
      have h5 : SlY yK w a (l.take 5).length c (l.take 5) := by rw [e5]; exact h.take 5 (by omega)
      go_upto_region 2 with fail
      refine wp_region_lit ?_
      refine q5.t (.slice a l.length c) (ex_move rfl (q5.e (j := 0) rfl)) fun _ q6 => ?_;clear q5
      refine q6.t (.slice a 5 c) (ex_slT18 (Y := .int .i64 ((5 : Nat) : Int)) rfl (q6.e (j := 13) rfl) rfl (by rw [hqa]; exact slToK qa oa l.length c 5 (by omega) (by have := h.cap; omega) _)) fun _ q7 => ?_;clear q6
      refine q7.t (.slice a 5 c) (ex_assign rfl (q7.e (j := 14) rfl)) fun _ q8 => ?_;clear q7
      have q9 := ((Rp.nil q8.z).cons (q8.a 0 rfl))
      clear q8
      refine wpList_nil ?_
      rw [← e5] at q9
      exact ⟨_, rfl, l.take 5, q9, h5, fun x hx => hfx x (List.mem_of_mem_take hx), by omega, rfl⟩
    · have q5x := q5.a 12 rfl
      rw [decide_eq_false hr] at q5x
      refine wp_cond_false (ev q5x rfl) ?_
      clear q5x
      have q6 := ((Rp.nil q5.z).cons (q5.a 0 rfl))
      clear q5
      apply wp_skip
      exact ⟨_, rfl, l, q6, h, hfx, by omega, rfl⟩
  · rintro T w9 ⟨l2, q100, h2, hf2, hl5, rfl⟩
    clear h hfx hb
    go_upto_region 3 with fail
    refine wp_region_lit ?_
    refine q100.t (.slice a l2.length c) (ex_move rfl (q100.e (j := 0) rfl)) fun _ q101 => ?_;clear q100
    refine vcallP (want_none rfl) (ex_call rfl (by simp only [List.map_toArray, List.map_cons, List.map_nil, (q101.e (j := 16) rfl), evc] <;> rfl) rfl) (search18_any l2 a c w9 h2 hf2) rfl q101.z (by decide) ?_
    rintro e w1 ⟨v3, rfl, o3, b1⟩
    refine ⟨_, rfl, q101.k fun _ q102 => ?_⟩;clear q101
    have z1 := b1.size
    refine q102.t (.tuple #[v3, .bool (srA l2).isSome, .int .i64 (srE l2)]) (ex_move rfl (q102.e (j := 17) rfl)) fun _ q103 => ?_;clear q102
    refine q103.t (v3) (ex_ext18 rfl (q103.e (j := 15) rfl) rfl) fun _ q104 => ?_;clear q103
    refine q104.t (.bool (srA l2).isSome) (ex_ext18 rfl (q104.e (j := 15) rfl) rfl) fun _ q105 => ?_;clear q104
    refine q105.t (.int .i64 (srE l2)) (ex_ext18 rfl (q105.e (j := 15) rfl) rfl) fun _ q106 => ?_;clear q105
    refine q106.t (v3) (ex_assign rfl (q106.e (j := 18) rfl)) fun _ q107 => ?_;clear q106
    refine q107.t (.bool (srA l2).isSome) (ex_assign rfl (q107.e (j := 19) rfl)) fun _ q108 => ?_;clear q107
    refine q108.t (.int .i64 (srE l2)) (ex_assign rfl (q108.e (j := 20) rfl)) fun _ q109 => ?_;clear q108
    obtain ⟨a3, c3, hv3, s3, _⟩ := o3.sl kN
    subst hv3
    have q110 := (((((Rp.nil q109.z).cons (q109.a 0 rfl)).cons (q109.a 3 rfl)).cons (q109.a 4 rfl)).cons (q109.a 5 rfl))
    clear q109
    refine wpList_nil ?_
    go_upto_region 4 with fail
    refine wp_region_lit ?_
    refine q110.t (.int .i64 (srE l2)) (ex_move rfl (q110.e (j := 5) rfl)) fun _ q111 => ?_;clear q110
    refine q111.t (.bool (!decide (srE l2 = 0))) (ex_bin rfl (q111.e (j := 21) rfl) rfl (neqE18 _ _ _ _ _)) fun _ q112 => ?_;clear q111
    have q113 := (((((Rp.nil q112.z).cons (q112.a 0 rfl)).cons (q112.a 3 rfl)).cons (q112.a 4 rfl)).cons (q112.a 22 rfl))
    clear q112
    refine wpList_nil ?_
    by_cases he : srE l2 = 0
    · obtain ⟨hk, h8⟩ := srE_zero he
      have q113x := q113.a 22 rfl
      rw [he] at q113x
      rw [srA_ok9 he] at q113 s3
      obtain ⟨n, hn⟩ : ∃ n, n = l2.length := ⟨_, rfl⟩
      have hall := List.all_eq_true.1 all_5 n (List.mem_range.2 (by omega))
      simp only [Bool.and_eq_true, decide_eq_true_eq] at hall
      obtain ⟨⟨⟨hch, hfn⟩, hpos⟩, _⟩ := hall
      have hE0 := preL_head n n []
      have hfind : lst l2 = (preL n n []).find? (witB l2) := by rw [hn]; exact (frm_lst l2 h8).symm.trans (frm_find l2 _ [])
      obtain ⟨E, hE⟩ : ∃ E, E = preL n n [] := ⟨_, rfl⟩
      rw [← hE] at hch hfn hpos hE0 hfind
      clear hE
      go_upto_region 6 with fail
      refine wp_cond_false (ev q113x rfl) ?_
      clear q113x
      go_upto_region 6 with fail
      refine wp_region_lit ?_
      refine q113.t (.slice none 0 0) (ex_assign rfl rfl) fun _ q114 => ?_;clear q113
      refine wpList_nil ?_
      go_upto_region 7 with fail
      refine wp_region_lit ?_
      refine q114.t (.bool (decide (0 < E.length))) (ex_assign rfl (by rw [decide_eq_true hpos]; rfl)) fun _ q115 => ?_;clear q114
      have q116 := ((((((Rp.nil q115.z).cons (q115.a 0 rfl)).cons (q115.a 3 rfl)).cons (q115.a 4 rfl)).cons (q115.a 6 rfl)).cons (q115.a 7 rfl))
      clear q115
      refine wpList_nil ?_
      go_upto_region 8 with fail
      refine v_loopG E.length (fun j T wr => ∃ v, Rp T 70 [(7, gw true (.bool (decide (j < E.length)))), (6, gw true v), (4, gw true (.bool (lst l2).isSome)), (3, gw true (.slice a3 (ints ((lst l2).getD [])).length c3)), (0, gw true (.slice a l2.length c))] ∧ Hid (OwnY yN w1.heap.size wr v (ints (E.getD j [])) ∧ Below w1.heap.size w1 wr ∧ ∀ i, i < j → ∀ o, E[i]? = some o → witB l2 o = false)) ⟨_, q116, (by rw [List.getD_eq_getElem?_getD, hE0]; exact OwnY.nil _ _ _), Below.refl _ _, fun i hi => by omega⟩ ?_
      clear q116
      intro j T wr hj hh
      obtain ⟨v, q100, HJ⟩ := hh
      obtain ⟨ov, br, hX⟩ := HJ.out
      clear HJ
      have zr := br.size
      have d0 : Below w9.heap.size w9 wr := b1.trans (br.mono z1)
      by_cases hit : j < E.length
      · obtain ⟨O, hO⟩ : ∃ O, E[j]? = some O := ⟨_, List.getElem?_eq_getElem hit⟩
        have hF := List.all_eq_true.1 hfn O (List.mem_of_getElem? hO)
        unfold fine at hF
        simp only [Bool.and_eq_true, decide_eq_true_eq, List.all_eq_true] at hF
        obtain ⟨⟨hok, hO5⟩, hOl⟩ := hF
        rw [List.getD_eq_getElem?_getD, hO, Option.getD_some] at ov
        obtain ⟨av, cv, hv, sv, _⟩ := ov.sl kN
        subst hv
        have hil := ints_len O
        have hH : hld l2 (ints O) = (brk l2 (ints O), 0) := by rw [hld_eq l2 hf2, if_neg (by simp [hk]), if_pos (by rw [← hn]; exact hok)]
        rw [decide_eq_true hit] at q100
        go_upto_region 8 with fail
        refine wp_region_lit ?_
        refine q100.t (.bool true) (ex_move rfl (q100.e (j := 7) rfl)) fun _ q101 => ?_;clear q100
        refine wpList_nil ?_
        go_upto_region 9 with fail
        refine wp_cond_true (q101.e (j := 33) rfl) ?_
        go_upto_region 9 with fail
        refine wp_region_lit ?_
        refine q101.t (.slice a l2.length c) (ex_move rfl (q101.e (j := 0) rfl)) fun _ q102 => ?_;clear q101
        refine q102.t (.slice av (ints O).length cv) (ex_move rfl (q102.e (j := 6) rfl)) fun _ q103 => ?_;clear q102
        refine vcallP (want_none rfl) (ex_call rfl (by simp only [List.map_toArray, List.map_cons, List.map_nil, (q103.e (j := 35) rfl), (q103.e (j := 36) rfl), evc] <;> rfl) rfl) (holds18_any l2 a c (ints O) av cv wr (h2.on d0 (Nat.le_refl _)) sv hf2 (by omega) (by omega)) rfl q103.z (by decide) ?_
        rintro e r1 ⟨rfl, e1⟩
        refine ⟨_, rfl, q103.k fun _ q104 => ?_⟩;clear q103
        have c1 : Below w1.heap.size w1 r1 := br.trans (e1.mono zr)
        have zc := c1.size
        have sv1 := sv.later e1
        have d1 : Below w9.heap.size w9 r1 := b1.trans (c1.mono z1)
        rw [hH] at q104
        refine q104.t (.tuple #[.int .i64 (brk l2 (ints O)), .int .i64 0]) (ex_move rfl (q104.e (j := 37) rfl)) fun _ q105 => ?_;clear q104
        refine q105.t (.int .i64 (brk l2 (ints O))) (ex_ext18 rfl (q105.e (j := 34) rfl) rfl) fun _ q106 => ?_;clear q105
        refine q106.t (.int .i64 0) (ex_ext18 rfl (q106.e (j := 34) rfl) rfl) fun _ q107 => ?_;clear q106
        refine q107.t (.int .i64 (brk l2 (ints O))) (ex_assign rfl (q107.e (j := 38) rfl)) fun _ q108 => ?_;clear q107
        refine q108.t (.int .i64 0) (ex_assign rfl (q108.e (j := 39) rfl)) fun _ q109 => ?_;clear q108
        have q110 := (((((((Rp.nil q109.z).cons (q109.a 0 rfl)).cons (q109.a 3 rfl)).cons (q109.a 4 rfl)).cons (q109.a 6 rfl)).cons (q109.a 8 rfl)).cons (q109.a 9 rfl))
        clear q109
        refine wpList_nil ?_
        go_upto_region 10 with fail
        refine wp_region_lit ?_
        refine q110.t (.int .i64 0) (ex_move rfl (q110.e (j := 9) rfl)) fun _ q111 => ?_;clear q110
        refine q111.t (.bool false) (ex_bin (Y := .int .i64 0) rfl (q111.e (j := 40) rfl) rfl (by rw [neqE18]; rfl)) fun _ q112 => ?_;clear q111
        refine wpList_nil ?_
        go_upto_region 12 with fail
        refine wp_cond_false (q112.e (j := 41) rfl) ?_
        go_upto_region 12 with fail
        refine wp_region_lit ?_
        refine q112.t (.int .i64 (brk l2 (ints O))) (ex_move rfl (q112.e (j := 8) rfl)) fun _ q113 => ?_;clear q112
        refine q113.t (.bool (witB l2 O)) (ex_bin (Y := .int .i64 (-1)) rfl (q113.e (j := 42) rfl) rfl (by rw [eqlC]; rfl)) fun _ q114 => ?_;clear q113
        have q115 := ((((((Rp.nil q114.z).cons (q114.a 0 rfl)).cons (q114.a 3 rfl)).cons (q114.a 4 rfl)).cons (q114.a 6 rfl)).cons (q114.a 43 rfl))
        clear q114
        refine wpList_nil ?_
        cases hw : witB l2 O with
        | true =>
          have q115x := q115.a 43 rfl
          rw [hw] at q115x
          have hL : lst l2 = some O := by rw [hfind]; exact find_at hO hw hX
          rw [hL] at q115 s3
          rw [Option.getD_some] at q115 s3
          have s31 := s3.later c1
          go_upto_region 13 with fail
          refine wp_cond_true (ev q115x rfl) ?_
          clear q115x
          go_upto_region 13 with fail
          refine wp_region_lit ?_
          refine vcallP (want_none rfl) (ex_call (args := #[]) rfl (by simp) rfl) (works18_any r1) rfl q115.z (by decide) ?_
          rintro e y1 ⟨rfl, f1⟩
          refine ⟨_, rfl, q115.k fun _ q116 => ?_⟩;clear q115
          have d2 : Below w9.heap.size w9 y1 := d1.trans (f1.mono d1.size)
          refine q116.t (.bool true) (ex_move rfl (q116.e (j := 44) rfl)) fun _ q117 => ?_;clear q116
          refine vl (true && (true == true)) (.bool true) (want_g rfl rfl (q117.a 45 rfl)) (fun hc => ex_move rfl (q117.e (j := 4) rfl)) rfl q117.z (by decide) (q117.k fun _ q118 => ?_);clear q117
          refine q118.t (.bool true) (ex_and (z := true) rfl (q118.a 45 rfl) (q118.a 46 rfl) rfl) fun _ q119 => ?_;clear q118
          refine q119.t (.bool true) (ex_move rfl (q119.e (j := 47) rfl)) fun _ q120 => ?_;clear q119
          refine vl (true && (true == true)) (.slice a3 (ints O).length c3) (want_g rfl rfl (q120.a 48 rfl)) (fun hc => ex_move rfl (q120.e (j := 3) rfl)) rfl q120.z (by decide) (q120.k fun _ q121 => ?_);clear q120
          refine vl (true && (true == true)) (.slice av (ints O).length cv) (want_g rfl rfl (q121.a 48 rfl)) (fun hc => ex_move rfl (q121.e (j := 6) rfl)) rfl q121.z (by decide) (q121.k fun _ q122 => ?_);clear q121
          refine vcallP (show Region.wanted _ _ = (true && (true == true)) from want_g rfl rfl (q122.a 48 rfl)) (ex_call rfl (by simp only [List.map_toArray, List.map_cons, List.map_nil, (q122.e (j := 49) rfl), (q122.e (j := 50) rfl), evc] <;> rfl) rfl) (sameInts18 (ints O) a3 av c3 cv y1 (s31.later f1) (sv1.later f1) (by omega)) rfl q122.z (by decide) ?_
          rintro e y2 ⟨rfl, f2⟩
          refine ⟨_, rfl, q122.k fun _ q123 => ?_⟩;clear q122
          have d3 : Below w9.heap.size w9 y2 := d2.trans (f2.mono d2.size)
          refine q123.t (.bool true) (ex_and (z := true) rfl (q123.a 48 rfl) (q123.a 51 rfl) rfl) fun _ q124 => ?_;clear q123
          refine q124.t (.bool true) (ex_assign rfl (q124.e (j := 52) rfl)) fun _ q125 => ?_;clear q124
          refine wpList_nil ?_
          go_wp2
          refine bodyPost_ret (results_tmp rfl _ _ _) rfl ⟨?_, d3⟩
          rw [getD_of (q125.a 2 rfl)]
          rfl
        | false =>
          have q115x := q115.a 43 rfl
          rw [hw] at q115x
          have hnx : nxt n O = E[j + 1]? := chn_at n E hch j O hO
          go_upto_region 14 with fail
          refine wp_cond_false (ev q115x rfl) ?_
          clear q115x
          go_upto_region 14 with fail
          refine wp_region_lit ?_
          refine q115.t (.slice av (ints O).length cv) (ex_move rfl (q115.e (j := 6) rfl)) fun _ q116 => ?_;clear q115
          refine q116.t (.slice a l2.length c) (ex_move rfl (q116.e (j := 0) rfl)) fun _ q117 => ?_;clear q116
          refine q117.t (.int .i64 ((l2.length : Nat) : Int)) (ex_lenG rfl rfl Try.underlying24 (q117.e (j := 55) rfl)) fun _ q118 => ?_;clear q117
          refine vcallP (want_none rfl) (ex_call rfl (by simp only [List.map_toArray, List.map_cons, List.map_nil, (q118.e (j := 54) rfl), (q118.e (j := 56) rfl), evc] <;> rfl) rfl) (next18 l2.length O av cv r1 sv1 hl5 hO5 (by rw [← hn]; exact hOl)) rfl q118.z (by decide) ?_
          rintro e r2 ⟨v9, rfl, o9, e2⟩
          refine ⟨_, rfl, q118.k fun _ q119 => ?_⟩;clear q118
          have c2 : Below w1.heap.size w1 r2 := c1.trans (e2.mono zc)
          have e9 := hn.symm;rw [e9, hnx] at q119 o9;rw [← e9] at q119
          rw [some_lt] at q119
          rw [← List.getD_eq_getElem?_getD] at o9
          refine q119.t (.tuple #[v9, .bool (decide (j + 1 < E.length))]) (ex_move rfl (q119.e (j := 57) rfl)) fun _ q120 => ?_;clear q119
          refine q120.t (v9) (ex_ext18 rfl (q120.e (j := 53) rfl) rfl) fun _ q121 => ?_;clear q120
          refine q121.t (.bool (decide (j + 1 < E.length))) (ex_ext18 rfl (q121.e (j := 53) rfl) rfl) fun _ q122 => ?_;clear q121
          refine q122.t (v9) (ex_assign rfl (q122.e (j := 58) rfl)) fun _ q123 => ?_;clear q122
          refine q123.t (.bool (decide (j + 1 < E.length))) (ex_assign rfl (q123.e (j := 59) rfl)) fun _ q124 => ?_;clear q123
          have q125 := ((((((Rp.nil q124.z).cons (q124.a 0 rfl)).cons (q124.a 3 rfl)).cons (q124.a 4 rfl)).cons (q124.a 6 rfl)).cons (q124.a 7 rfl))
          clear q124
          refine wpList_nil ?_
          skip
          exact ⟨_, rfl, hit, v9, q125, o9.low zc, c2, fun i hi o ho => by by_cases e : i = j; subst e; rw [hO] at ho; cases ho; exact hw; exact hX i (by omega) o ho⟩
      · obtain rfl : j = E.length := by omega
        have hL : lst l2 = none := by rw [hfind]; exact find_no hX
        rw [decide_eq_false hit] at q100
        rw [hL] at q100
        rw [show (none : Option (List Nat)).getD [] = [] from rfl, show (none : Option (List Nat)).isSome = false from rfl] at q100
        go_upto_region 8 with fail
        refine wp_region_lit ?_
        refine q100.t (.bool false) (ex_move rfl (q100.e (j := 7) rfl)) fun _ q101 => ?_;clear q100
        refine wpList_nil ?_
        go_upto_region 15 with fail
        refine wp_cond_false (q101.e (j := 33) rfl) ?_
        go_upto_region 15 with fail
        refine wp_region_lit ?_
        refine vcallP (want_none rfl) (ex_call (args := #[]) rfl (by simp) rfl) (works18_any wr) rfl q101.z (by decide) ?_
        rintro e y1 ⟨rfl, f1⟩
        refine ⟨_, rfl, q101.k fun _ q102 => ?_⟩;clear q101
        refine q102.t (.bool true) (ex_move rfl (q102.e (j := 60) rfl)) fun _ q103 => ?_;clear q102
        refine vl (true && (true == true)) (.bool false) (want_g rfl rfl (q103.a 61 rfl)) (fun hc => ex_move rfl (q103.e (j := 4) rfl)) rfl q103.z (by decide) (q103.k fun _ q104 => ?_);clear q103
        refine vl (true && (true == true)) (.bool true) (want_g rfl rfl (q104.a 61 rfl)) (fun hc => ex_not rfl (q104.e (j := 62) rfl)) rfl q104.z (by decide) (q104.k fun _ q105 => ?_);clear q104
        refine q105.t (.bool true) (ex_and (z := true) rfl (q105.a 61 rfl) (q105.a 63 rfl) rfl) fun _ q106 => ?_;clear q105
        refine q106.t (.bool true) (ex_move rfl (q106.e (j := 64) rfl)) fun _ q107 => ?_;clear q106
        refine vl (true && (true == true)) (.slice a3 (ints []).length c3) (want_g rfl rfl (q107.a 65 rfl)) (fun hc => ex_move rfl (q107.e (j := 3) rfl)) rfl q107.z (by decide) (q107.k fun _ q108 => ?_);clear q107
        refine vl (true && (true == true)) (.int .i64 (((ints []).length : Nat) : Int)) (want_g rfl rfl (q108.a 65 rfl)) (fun hc => ex_lenN18 rfl rfl (q108.e (j := 66) rfl)) rfl q108.z (by decide) (q108.k fun _ q109 => ?_);clear q108
        refine vl (true && (true == true)) (.bool true) (want_g rfl rfl (q109.a 65 rfl)) (fun hc => ex_bin (Y := .int .i64 0) rfl (q109.e (j := 67) rfl) rfl (by rw [eqlC]; rfl)) rfl q109.z (by decide) (q109.k fun _ q110 => ?_);clear q109
        refine q110.t (.bool true) (ex_and (z := true) rfl (q110.a 65 rfl) (q110.a 68 rfl) rfl) fun _ q111 => ?_;clear q110
        refine q111.t (.bool true) (ex_assign rfl (q111.e (j := 69) rfl)) fun _ q112 => ?_;clear q111
        refine wpList_nil ?_
        go_wp2
        refine bodyPost_ret (results_tmp rfl _ _ _) rfl ⟨?_, d0.trans (f1.mono d0.size)⟩
        rw [getD_of (q112.a 2 rfl)]
        rfl
    · have q113x := q113.a 22 rfl
      rw [decide_eq_false he] at q113x
      rw [srA_no9 he] at q113
      rw [show (none : Option (List Nat)).getD [] = [] from rfl, show (none : Option (List Nat)).isSome = false from rfl] at q113
      go_upto_region 5 with fail
      refine wp_cond_true (ev q113x rfl) ?_
      clear q113x
      go_upto_region 5 with fail
      refine wp_region_lit ?_
      refine vcallP (want_none rfl) (ex_call (args := #[]) rfl (by simp) rfl) (works18_any w1) rfl q113.z (by decide) ?_
      rintro e y1 ⟨rfl, f1⟩
      refine ⟨_, rfl, q113.k fun _ q114 => ?_⟩;clear q113
      refine q114.t (.bool true) (ex_move rfl (q114.e (j := 23) rfl)) fun _ q115 => ?_;clear q114
      refine vl (true && (true == true)) (.bool false) (want_g rfl rfl (q115.a 24 rfl)) (fun hc => ex_move rfl (q115.e (j := 4) rfl)) rfl q115.z (by decide) (q115.k fun _ q116 => ?_);clear q115
      refine vl (true && (true == true)) (.bool true) (want_g rfl rfl (q116.a 24 rfl)) (fun hc => ex_not rfl (q116.e (j := 25) rfl)) rfl q116.z (by decide) (q116.k fun _ q117 => ?_);clear q116
      refine q117.t (.bool true) (ex_and (z := true) rfl (q117.a 24 rfl) (q117.a 26 rfl) rfl) fun _ q118 => ?_;clear q117
      refine q118.t (.bool true) (ex_move rfl (q118.e (j := 27) rfl)) fun _ q119 => ?_;clear q118
      refine vl (true && (true == true)) (.slice a3 (ints []).length c3) (want_g rfl rfl (q119.a 28 rfl)) (fun hc => ex_move rfl (q119.e (j := 3) rfl)) rfl q119.z (by decide) (q119.k fun _ q120 => ?_);clear q119
      refine vl (true && (true == true)) (.int .i64 (((ints []).length : Nat) : Int)) (want_g rfl rfl (q120.a 28 rfl)) (fun hc => ex_lenN18 rfl rfl (q120.e (j := 29) rfl)) rfl q120.z (by decide) (q120.k fun _ q121 => ?_);clear q120
      refine vl (true && (true == true)) (.bool true) (want_g rfl rfl (q121.a 28 rfl)) (fun hc => ex_bin (Y := .int .i64 0) rfl (q121.e (j := 30) rfl) rfl (by rw [eqlC]; rfl)) rfl q121.z (by decide) (q121.k fun _ q122 => ?_);clear q121
      refine q122.t (.bool true) (ex_and (z := true) rfl (q122.a 28 rfl) (q122.a 31 rfl) rfl) fun _ q123 => ?_;clear q122
      refine q123.t (.bool true) (ex_assign rfl (q123.e (j := 32) rfl)) fun _ q124 => ?_;clear q123
      refine wpList_nil ?_
      go_wp2
      refine bodyPost_ret (results_tmp rfl _ _ _) rfl ⟨?_, b1.trans (f1.mono z1)⟩
      rw [getD_of (q124.a 2 rfl)]
      rfl
theorem least_came18 (a : Option Addr) (n c : Nat) (W : World) (h : CameKl W a n c) : Calls Try.prog 4 #[.slice a n c] W fun e w' => e = .returned (.bool true) ∧ Below W.heap.size W w' := by
  obtain ⟨P, h1, h2, h3⟩ := h
  have hl := h1.len
  subst hl
  exact least18 P a c W h1 h2 h3

end Go.Proofs.Ytidfcflcjkbeeaa
