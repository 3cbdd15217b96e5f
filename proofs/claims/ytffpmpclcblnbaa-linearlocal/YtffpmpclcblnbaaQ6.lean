import Derived.Test.YtffpmpclcblnbaaQ5
set_option maxRecDepth 100000
set_option linter.unusedVariables false
set_option linter.unusedSimpArgs false
namespace Go.Proofs.Ytffpmpclcblnbaa
open Go.RowKit Go.Maps
open Classical
def slP (r : Int) (x : Kl) : Bool := (decide (x.o.k = 1) || decide (x.o.k = 3)) && decide (x.o.s = r)
def slR (l : List Kl) (r : Int) : List Kl × Int := if kchk l ≠ 0 then ([], 180) else if r < 0 ∨ 1024 ≤ r then ([], 41) else (l.filter (slP r), 0)
theorem slP_at {l : List Kl} {r : Int} {j : Nat} {x : Kl} (h : l[j]? = some x) : (l.take (j + 1)).filter (slP r) = (l.take j).filter (slP r) ++ (if slP r x then [x] else []) := by
  obtain ⟨hj, rfl⟩ := List.getElem?_eq_some_iff.1 h
  rw [List.take_succ_eq_append_getElem hj, List.filter_append]
  congr 1
  by_cases h : slP r l[j] <;> simp [h]
theorem ck_slot (r : Int) : ck 3 r ⟨#[]⟩ = if r < 0 ∨ 1024 ≤ r then 41 else 0 := by
  unfold ck
  by_cases h : r < 0 ∨ 1024 ≤ r
  · simp [h]
  · simp [h]
    rfl
theorem faK2c (q o : Nat) (w : World) : (Instr.fieldAt 45 (.pointer (some ⟨q, o, none⟩)) 2).run Try.prog w = .ok (.pointer (some ⟨q, o + 2, none⟩)) w := by go_simp
theorem faO0 (q o : Nat) (w : World) : (Instr.fieldAt 41 (.pointer (some ⟨q, o, none⟩)) 0).run Try.prog w = .ok (.pointer (some ⟨q, o, none⟩)) w := by go_simp
theorem faO1 (q o : Nat) (w : World) : (Instr.fieldAt 41 (.pointer (some ⟨q, o, none⟩)) 1).run Try.prog w = .ok (.pointer (some ⟨q, o + 1, none⟩)) w := by go_simp
theorem bdO8 (r : Int) (w : World) : (Instr.build 41 #[(0, .int .i64 3), (1, .int .i64 r)]).run Try.prog w = .ok (⟨3, r, ⟨#[]⟩⟩ : Opn).val w := by unfold Opn.val; go_simp
set_option maxHeartbeats 2000000 in
theorem slot18 (l : List Kl) (a : Option Addr) (c : Nat) (r : Int) (w : World) (h : SlY yK w a l.length c l) (hfx : ∀ x ∈ l, x.fits) (hb96 : l.length * 96 ≤ 140737488351232) (hrw : (Lit.int .i64 r).wf = true) :
    Calls Try.prog 16 #[.slice a l.length c, .int .i64 r] w fun e w' => ∃ v, e = .returned (.tuple #[v, .int .i64 (slR l r).2]) ∧ OwnY yK w.heap.size w' v (slR l r).1 ∧ Below w.heap.size w w' := by
  go_enter Try.func16, Try.ntmps16
  go_upto_region 0 with fail
  refine wp_region_lit ?_
  refine vl_gen (fun T => Rp T 51 [(1, gw true (.int .i64 r)), (0, gw true (.slice a l.length c))]) (((Rp.nil rfl).cons rfl).cons rfl) (fun Z0 q0 => ?_)
  refine q0.t (.slice none 0 0) (ex_assign rfl rfl) fun _ q1 => ?_;clear q0
  refine q1.t (.int .i64 0) (ex_assign rfl rfl) fun _ q2 => ?_;clear q1
  refine wpList_nil ?_
  go_upto_region 1 with fail
  refine wp_region_lit ?_
  refine q2.t (.slice a l.length c) (ex_move rfl (q2.e (j := 0) rfl)) fun _ q3 => ?_;clear q2
  refine vcallP (want_none rfl) (ex_call rfl (by simp only [List.map_toArray, List.map_cons, List.map_nil, (q3.e (j := 11) rfl), evc] <;> rfl) rfl) (check18_any l a c w h hfx) rfl q3.z (by decide) ?_
  rintro e w1 ⟨rfl, b1⟩
  refine ⟨_, rfl, q3.k fun _ q4 => ?_⟩;clear q3
  have z1 := b1.size
  refine q4.t (.int .i64 (kchk l : Int)) (ex_assign rfl (q4.e (j := 12) rfl)) fun _ q5 => ?_;clear q4
  refine wpList_nil ?_
  go_upto_region 2 with fail
  refine wp_region_lit ?_
  refine q5.t (.int .i64 (kchk l : Int)) (ex_move rfl (q5.e (j := 6) rfl)) fun _ q6 => ?_;clear q5
  refine q6.t (.bool (!decide (kchk l = 0))) (ex_bin rfl (q6.e (j := 13) rfl) rfl (neqE18 _ _ _ _ _)) fun _ q7 => ?_;clear q6
  have q8 := (((((Rp.nil q7.z).cons (q7.a 0 rfl)).cons (q7.a 1 rfl)).cons (q7.a 6 rfl)).cons (q7.a 14 rfl))
  clear q7
  refine wpList_nil ?_
  by_cases hk : kchk l = 0
  · have q8x := q8.a 14 rfl
    rw [hk] at q8x
    have hck := ck_slot r
    go_upto_region 4 with fail
    refine wp_cond_false (ev q8x rfl) ?_
    clear q8x
    go_upto_region 4 with fail
    refine wp_region_lit ?_
    refine q8.t (.int .i64 r) (ex_move rfl (q8.e (j := 1) rfl)) fun _ q9 => ?_;clear q8
    refine q9.t ((⟨3, r, ⟨#[]⟩⟩ : Opn).val) (ex_buildP18 (P := #[(0, .int .i64 3), (1, .int .i64 r)]) rfl (by simp only [List.map_toArray, List.map_cons, List.map_nil, q9.e (j := 16) rfl, evc] <;> rfl) (bdO8 _ _)) fun _ q10 => ?_;clear q9
    refine vcallP (want_none rfl) (ex_call rfl (by simp only [List.map_toArray, List.map_cons, List.map_nil, (q10.e (j := 17) rfl), evc] <;> rfl) rfl) (check_any ⟨3, r, ⟨#[]⟩⟩ ⟨by show (Lit.int .i64 3).wf = true; decide, hrw, by show (⟨#[]⟩ : ByteArray).size ≤ maxLen; unfold maxLen; decide⟩ w1) rfl q10.z (by decide) ?_
    rintro e w2 ⟨rfl, b2⟩
    refine ⟨_, rfl, q10.k fun _ q11 => ?_⟩;clear q10
    have b2w : Below w.heap.size w w2 := b1.trans (b2.mono z1)
    have z2 := b2w.size
    refine q11.t (.int .i64 (ck 3 r ⟨#[]⟩ : Int)) (ex_assign rfl (q11.e (j := 18) rfl)) fun _ q12 => ?_;clear q11
    refine wpList_nil ?_
    go_upto_region 5 with fail
    refine wp_region_lit ?_
    refine q12.t (.int .i64 (ck 3 r ⟨#[]⟩ : Int)) (ex_move rfl (q12.e (j := 7) rfl)) fun _ q13 => ?_;clear q12
    refine q13.t (.bool (!decide (ck 3 r ⟨#[]⟩ = 0))) (ex_bin rfl (q13.e (j := 19) rfl) rfl (neqE18 _ _ _ _ _)) fun _ q14 => ?_;clear q13
    have q15 := (((((Rp.nil q14.z).cons (q14.a 0 rfl)).cons (q14.a 1 rfl)).cons (q14.a 7 rfl)).cons (q14.a 20 rfl))
    clear q14
    refine wpList_nil ?_
    by_cases hr : r < 0 ∨ 1024 ≤ r
    · rw [if_pos hr] at hck
      have q15x := q15.a 20 rfl
      rw [hck] at q15x
      have hE : slR l r = ([], 41) := by unfold slR; rw [if_neg (by simp [hk]), if_pos hr]
      go_upto_region 6 with fail
      refine wp_cond_true (ev q15x rfl) ?_
      clear q15x
      go_upto_region 6 with fail
      refine wp_region_lit ?_
      refine q15.t (.int .i64 (ck 3 r ⟨#[]⟩ : Int)) (ex_move rfl (q15.e (j := 7) rfl)) fun _ q16 => ?_;clear q15
      refine q16.t (.slice none 0 0) (ex_assign rfl rfl) fun _ q17 => ?_;clear q16
      refine q17.t (.int .i64 41) (ex_assign rfl ((q17.e (j := 21) rfl).trans (by rw [hck]))) fun _ q18 => ?_;clear q17
      refine wpList_nil ?_
      go_wp2
      exact bodyPost_ret (results2_18 rfl (q18.a 4 rfl) (q18.a 5 rfl)) rfl ⟨_, by rw [hE], by rw [hE]; exact OwnY.nil _ _ _, b2w⟩
    · rw [if_neg hr] at hck
      have q15x := q15.a 20 rfl
      rw [hck] at q15x
      have hE : slR l r = (l.filter (slP r), 0) := by unfold slR; rw [if_neg (by simp [hk]), if_neg hr]
      go_upto_region 7 with fail
      refine wp_cond_false (ev q15x rfl) ?_
      clear q15x
      go_upto_region 7 with fail
      refine wp_region_lit ?_
      refine q15.t (.slice none 0 0) (ex_assign rfl rfl) fun _ q16 => ?_;clear q15
      refine wpList_nil ?_
      go_upto_region 8 with fail
      refine wp_region_lit ?_
      refine q16.t (.slice a l.length c) (ex_move rfl (q16.e (j := 0) rfl)) fun _ q17 => ?_;clear q16
      refine q17.t (.int .i64 (l.length : Int)) (ex_len18 rfl rfl (q17.e (j := 22) rfl)) fun _ q18 => ?_;clear q17
      refine q18.t (.int .i64 ((0 : Nat) : Int)) (ex_move rfl rfl) fun _ q19 => ?_;clear q18
      have q20 := (((((((Rp.nil q19.z).cons (q19.a 0 rfl)).cons (q19.a 1 rfl)).cons (q19.a 8 rfl)).cons (q19.a 22 rfl)).cons (q19.a 23 rfl)).cons (q19.a 24 rfl))
      clear q19
      refine wpList_nil ?_
      go_upto_region 9 with fail
      refine v_loop 24 l.length (fun j T wr => ∃ v, Rp T 51 [(24, gw true (.int .i64 (j : Int))), (23, gw true (.int .i64 (l.length : Int))), (22, gw true (.slice a l.length c)), (8, gw true v), (1, gw true (.int .i64 r)), (0, gw true (.slice a l.length c))] ∧ Hid (Below w.heap.size w wr ∧ OwnY yK w.heap.size wr v ((l.take j).filter (slP r)))) (fun j T w h => by obtain ⟨v, h, _⟩ := h; exact h.a 24 rfl) ⟨_, q20, b2w, OwnY.nil _ _ _⟩ ?_
      clear q20
      intro j T wr hj hh
      obtain ⟨v, q100, HJ⟩ := hh
      obtain ⟨br, hO⟩ := HJ.out
      clear HJ
      have zr := br.size
      by_cases hit : j < l.length
      · obtain ⟨x, hx⟩ : ∃ x, l[j]? = some x := ⟨_, List.getElem?_eq_getElem hit⟩
        obtain ⟨qa, oa, hqa, hqal, hlie⟩ := (h.on br (Nat.le_refl _)).place (by rintro rfl; simp at hit)
        have hua := slP_at (r := r) hx
        have hul : ((l.take j).filter (slP r)).length ≤ j := Nat.le_trans (List.length_filter_le _ _) (by rw [List.length_take]; omega)
        go_upto_region 9 with fail
        refine wp_region_lit ?_
        refine q100.t (.bool true) (ex_bin rfl (q100.e (j := 24) rfl) (q100.e (j := 23) rfl) (ltT _ _ hit _)) fun _ q101 => ?_;clear q100
        refine wpList_nil ?_
        go_upto_region 10 with fail
        refine wp_cond_true (q101.e (j := 25) rfl) ?_
        go_upto_region 10 with fail
        refine wp_region_lit ?_
        refine q101.t (.pointer (some ⟨qa, oa + j * 10, none⟩)) (ex_ix rfl (q101.e (j := 22) rfl) (q101.e (j := 24) rfl) (by rw [hqa]; exact ixK qa oa l.length c j hit _)) fun _ q102 => ?_;clear q101
        refine q102.t (x.val) (ex_ld rfl (q102.e (j := 26) rfl) (ldEl hlie hx)) fun _ q103 => ?_;clear q102
        obtain ⟨r1, hr1⟩ : ∃ y, y = wr.alloc (.cells zK.cs.toArray 45) := ⟨_, rfl⟩
        refine vw (.pointer (some ⟨wr.heap.size, 0, none⟩)) r1 (want_none rfl) (ex_al rfl (by rw [hr1]; exact alK _)) rfl q103.z (by decide) (q103.k fun _ q104 => ?_);clear q103
        have Bz : BB r1 wr.heap.size 45 zK.cs := by rw [hr1]; exact BB.new _ _ _
        have hr1b : Below wr.heap.size wr r1 := by rw [hr1]; exact (Below.refl _ _).alloc (Nat.le_refl _) _
        clear hr1
        obtain ⟨r2, hr2⟩ : ∃ y, y = r1.setCells wr.heap.size 0 x.cs := ⟨_, rfl⟩
        refine vs r2 (want_none rfl) (ex_st rfl (q104.e (j := 10) rfl) (q104.e (j := 27) rfl) (by rw [hr2]; exact Bz.stK)) rfl ?_
        have B13 : BB r2 wr.heap.size 45 x.cs := by rw [hr2]; exact Bz.whole _ rfl
        have hr2b : Below wr.heap.size wr r2 := by rw [hr2]; exact hr1b.trans (bel_ge (upd18 _ _ _ _) hr1b.size (Nat.le_refl _))
        clear hr2 Bz hr1b
        have y2 := hr2b.size
        have O2 := hO.grow hr2b
        have bw2 : Below w.heap.size w r2 := br.trans (hr2b.mono zr)
        refine wpList_nil ?_
        go_upto_region 11 with fail
        refine wp_region_lit ?_
        refine q104.t (.pointer (some ⟨wr.heap.size, 2, none⟩)) (ex_fa rfl (q104.e (j := 10) rfl) (faK2 _ _)) fun _ q105 => ?_;clear q104
        refine q105.t (.pointer (some ⟨wr.heap.size, 2, none⟩)) (ex_fa rfl (q105.e (j := 28) rfl) (faO0 _ _ _)) fun _ q106 => ?_;clear q105
        refine q106.t (.int .i64 x.o.k) (ex_ld rfl (q106.e (j := 29) rfl) (ldI18 ((B13.cell 2).trans rfl))) fun _ q107 => ?_;clear q106
        refine q107.t (.bool (decide (x.o.k = 1))) (ex_bin rfl (q107.e (j := 30) rfl) rfl (eqlC _ _ _ _ _)) fun _ q108 => ?_;clear q107
        refine q108.t (.bool (decide (x.o.k = 1))) (ex_move rfl (q108.e (j := 31) rfl)) fun _ q109 => ?_;clear q108
        refine vl _ (.pointer (some ⟨wr.heap.size, 2, none⟩)) (want_g rfl rfl (q109.a 32 rfl)) (fun hc => ex_fa rfl (q109.e (j := 10) rfl) (faK2 _ _)) rfl q109.z (by decide) (q109.k fun _ q110 => ?_);clear q109
        refine vl _ (.pointer (some ⟨wr.heap.size, 2, none⟩)) (want_g rfl rfl (q110.a 32 rfl)) (fun hc => ex_fa rfl (ev (q110.a 33 rfl) hc) (faO0 _ _ _)) rfl q110.z (by decide) (q110.k fun _ q111 => ?_);clear q110
        refine vl _ (.int .i64 x.o.k) (want_g rfl rfl (q111.a 32 rfl)) (fun hc => ex_ld rfl (ev (q111.a 34 rfl) hc) (ldI18 ((B13.cell 2).trans rfl))) rfl q111.z (by decide) (q111.k fun _ q112 => ?_);clear q111
        refine vl _ (.bool (decide (x.o.k = 3))) (want_g rfl rfl (q112.a 32 rfl)) (fun hc => ex_bin rfl (ev (q112.a 35 rfl) hc) rfl (eqlC _ _ _ _ _)) rfl q112.z (by decide) (q112.k fun _ q113 => ?_);clear q112
        refine q113.t (.bool (decide (x.o.k = 1) || decide (x.o.k = 3))) (ex_or rfl (q113.a 32 rfl) (q113.a 36 rfl) rfl) fun _ q114 => ?_;clear q113
        refine q114.t (.bool (decide (x.o.k = 1) || decide (x.o.k = 3))) (ex_move rfl (q114.e (j := 37) rfl)) fun _ q115 => ?_;clear q114
        refine vl _ (.pointer (some ⟨wr.heap.size, 2, none⟩)) (want_g rfl rfl (q115.a 38 rfl)) (fun hc => ex_fa rfl (q115.e (j := 10) rfl) (faK2 _ _)) rfl q115.z (by decide) (q115.k fun _ q116 => ?_);clear q115
        refine vl _ (.pointer (some ⟨wr.heap.size, 2 + 1, none⟩)) (want_g rfl rfl (q116.a 38 rfl)) (fun hc => ex_fa rfl (ev (q116.a 39 rfl) hc) (faO1 _ _ _)) rfl q116.z (by decide) (q116.k fun _ q117 => ?_);clear q116
        refine vl _ (.int .i64 x.o.s) (want_g rfl rfl (q117.a 38 rfl)) (fun hc => ex_ld rfl (ev (q117.a 40 rfl) hc) (ldI18 ((B13.cell 3).trans rfl))) rfl q117.z (by decide) (q117.k fun _ q118 => ?_);clear q117
        refine vl _ (.int .i64 r) (want_g rfl rfl (q118.a 38 rfl)) (fun hc => ex_move rfl (q118.e (j := 1) rfl)) rfl q118.z (by decide) (q118.k fun _ q119 => ?_);clear q118
        refine vl _ (.bool (decide (x.o.s = r))) (want_g rfl rfl (q119.a 38 rfl)) (fun hc => ex_bin rfl (ev (q119.a 41 rfl) hc) (ev (q119.a 42 rfl) hc) (eqlC _ _ _ _ _)) rfl q119.z (by decide) (q119.k fun _ q120 => ?_);clear q119
        refine q120.t (.bool ((decide (x.o.k = 1) || decide (x.o.k = 3)) && decide (x.o.s = r))) (ex_and rfl (q120.a 38 rfl) (q120.a 43 rfl) rfl) fun _ q121 => ?_;clear q120
        have q122 := (((((((((Rp.nil q121.z).cons (q121.a 0 rfl)).cons (q121.a 1 rfl)).cons (q121.a 8 rfl)).cons (q121.a 10 rfl)).cons (q121.a 22 rfl)).cons (q121.a 23 rfl)).cons (q121.a 24 rfl)).cons (q121.a 44 rfl))
        clear q121
        refine wpList_nil ?_
        cases hs : slP r x with
        | false =>
          have q122x : _ = some (gw true (.bool (slP r x))) := q122.a 44 rfl
          rw [hs] at q122x
          rw [hs, if_neg (by simp), List.append_nil] at hua
          go_upto_region 13 with fail
          refine wp_cond_false (ev q122x rfl) ?_
          clear q122x
          go_upto_region 13 with fail
          refine wp_region_lit ?_
          refine q122.t (.int .i64 ((j + 1 : Nat) : Int)) (ex_bin rfl (q122.e (j := 24) rfl) rfl (add1C _ _ j (by omega) _)) fun _ q123 => ?_;clear q122
          refine q123.t (.int .i64 ((j + 1 : Nat) : Int)) (ex_move rfl (q123.e (j := 49) rfl)) fun _ q124 => ?_;clear q123
          have q125 := (((((((Rp.nil q124.z).cons (q124.a 0 rfl)).cons (q124.a 1 rfl)).cons (q124.a 8 rfl)).cons (q124.a 22 rfl)).cons (q124.a 23 rfl)).cons (q124.a 24 rfl))
          clear q124
          refine wpList_nil ?_
          exact ⟨_, rfl, hit, _, q125, bw2, by rw [hua]; exact O2⟩
        | true =>
          have q122x : _ = some (gw true (.bool (slP r x))) := q122.a 44 rfl
          rw [hs] at q122x
          rw [hs, if_pos rfl] at hua
          go_upto_region 12 with fail
          refine wp_cond_true (ev q122x rfl) ?_
          clear q122x
          go_upto_region 12 with fail
          refine wp_region_lit ?_
          refine q122.t (v) (ex_move rfl (q122.e (j := 8) rfl)) fun _ q123 => ?_;clear q122
          refine q123.t (x.val) (ex_ld rfl (q123.e (j := 10) rfl) B13.ldK) fun _ q124 => ?_;clear q123
          obtain ⟨r5, hr5⟩ : ∃ z, z = r2.alloc (.cells x.cs.toArray 45) := ⟨_, rfl⟩
          refine vw (.slice (some ⟨r2.heap.size, 0, none⟩) 1 1) r5 (want_none rfl) (ex_bs18 rfl (q124.e (j := 46) rfl) (by rw [hr5]; exact bsK18 _ _)) rfl q124.z (by decide) (q124.k fun _ q125 => ?_);clear q124
          have s5 : SlY yK r5 (some ⟨r2.heap.size, 0, none⟩) 1 1 [x] := by rw [hr5]; exact sl_box (Y := yK) r2 x 45
          have b5 : Below r2.heap.size r2 r5 := by rw [hr5]; exact (Below.refl _ _).alloc (Nat.le_refl _) _
          clear hr5
          have y5 := b5.size
          have zz := bw2.size
          obtain ⟨v6, r6, ha6, o6, g6, _⟩ := run_appY kK r5 24 w.heap.size _ v _ 1 1 [x] s5 (O2.grow b5) (by omega) (by unfold maxLen; omega) (by show (((l.take j).filter (slP r)).length + 1) * 96 ≤ _; omega)
          have b6 : Below w.heap.size w r6 := (bw2.trans (b5.mono (by omega))).grown g6 (by omega) (fun k hk => (O2.blk k hk).1)
          refine vw (v6) r6 (want_none rfl) (ex_app18 rfl (q125.e (j := 45) rfl) (q125.e (j := 47) rfl) ha6) rfl q125.z (by decide) (q125.k fun _ q126 => ?_);clear q125
          refine q126.t (v6) (ex_assign rfl (q126.e (j := 48) rfl)) fun _ q127 => ?_;clear q126
          refine wpList_nil ?_
          go_upto_region 13 with fail
          refine wp_region_lit ?_
          refine q127.t (.int .i64 ((j + 1 : Nat) : Int)) (ex_bin rfl (q127.e (j := 24) rfl) rfl (add1C _ _ j (by omega) _)) fun _ q128 => ?_;clear q127
          refine q128.t (.int .i64 ((j + 1 : Nat) : Int)) (ex_move rfl (q128.e (j := 49) rfl)) fun _ q129 => ?_;clear q128
          have q130 := (((((((Rp.nil q129.z).cons (q129.a 0 rfl)).cons (q129.a 1 rfl)).cons (q129.a 8 rfl)).cons (q129.a 22 rfl)).cons (q129.a 23 rfl)).cons (q129.a 24 rfl))
          clear q129
          refine wpList_nil ?_
          exact ⟨_, rfl, hit, v6, q130, b6, by rw [hua]; exact o6⟩
      · obtain rfl : j = l.length := by omega
        rw [List.take_length] at hO
        go_upto_region 9 with fail
        refine wp_region_lit ?_
        refine q100.t (.bool false) (ex_bin rfl (q100.e (j := 24) rfl) (q100.e (j := 23) rfl) (ltF _ _ hit _)) fun _ q101 => ?_;clear q100
        refine wpList_nil ?_
        go_upto_region 14 with fail
        refine wp_cond_false (q101.e (j := 25) rfl) ?_
        go_upto_region 14 with fail
        refine wp_region_lit ?_
        refine q101.t (v) (ex_move rfl (q101.e (j := 8) rfl)) fun _ q102 => ?_;clear q101
        refine q102.t (v) (ex_assign rfl (q102.e (j := 50) rfl)) fun _ q103 => ?_;clear q102
        refine q103.t (.int .i64 0) (ex_assign rfl rfl) fun _ q104 => ?_;clear q103
        refine wpList_nil ?_
        go_wp2
        exact bodyPost_ret (results2_18 rfl (q104.a 4 rfl) (q104.a 5 rfl)) rfl ⟨_, by rw [hE], by rw [hE]; exact hO, br⟩
  · have hk2 : kchk l = 180 := (kcA_zero [] l).resolve_left hk
    have hE : slR l r = ([], 180) := by unfold slR; rw [if_pos hk]
    have q8x := q8.a 14 rfl
    rw [decide_eq_false hk] at q8x
    go_upto_region 3 with fail
    refine wp_cond_true (ev q8x rfl) ?_
    clear q8x
    go_upto_region 3 with fail
    refine wp_region_lit ?_
    refine q8.t (.int .i64 (kchk l : Int)) (ex_move rfl (q8.e (j := 6) rfl)) fun _ q9 => ?_;clear q8
    refine q9.t (.slice none 0 0) (ex_assign rfl rfl) fun _ q10 => ?_;clear q9
    refine q10.t (.int .i64 180) (ex_assign rfl ((q10.e (j := 15) rfl).trans (by rw [hk2]))) fun _ q11 => ?_;clear q10
    refine wpList_nil ?_
    go_wp2
    exact bodyPost_ret (results2_18 rfl (q11.a 4 rfl) (q11.a 5 rfl)) rfl ⟨_, by rw [hE], by rw [hE]; exact OwnY.nil _ _ _, b1⟩
end Go.Proofs.Ytffpmpclcblnbaa
namespace Go.Proofs.Ytffpmpclcblnbaa
open Classical
/-! ### Witnesses: the search finds one if there is one; a beginning of a good history is good -/
theorem lck_iff (l : List Kl) (D : List Bool) : lckK l D = true ↔ ∃ j x, l[j]? = some x ∧ ansK x = true ∧ at9 D j = false := by
  unfold lckK lcI
  rw [List.any_eq_true]
  constructor
  · rintro ⟨j, hj, h⟩
    cases hx : l[j]? with
    | none => rw [hx] at h; cases h
    | some x =>
      rw [hx] at h
      simp only [Bool.and_eq_true, Bool.not_eq_true'] at h
      exact ⟨j, x, hx, h.1, h.2⟩
  · rintro ⟨j, x, hx, h1, h2⟩
    refine ⟨j, List.mem_range.2 (List.getElem?_eq_some_iff.1 hx).1, ?_⟩
    rw [hx]
    simp [h1, h2]
def Wit (l : List Kl) : List Bool → List Cl → List Nat → Prop
  | D, _, [] => lckK l D = false
  | D, L, q :: o => ∃ x, l[q]? = some x ∧ nxtK l D L q x = true ∧ Wit l (D.set q true) (dnK L x) o
theorem Wit.nil {l : List Kl} {D : List Bool} {L : List Cl} (h : lckK l D = false) : Wit l D L [] := by
  rw [Wit]
  exact h
theorem Wit.cons {l : List Kl} {D : List Bool} {L : List Cl} {q : Nat} {x : Kl} {o : List Nat} (hx : l[q]? = some x) (hn : nxtK l D L q x = true) (h : Wit l (D.set q true) (dnK L x) o) : Wit l D L (q :: o) := by
  rw [Wit]
  exact ⟨x, hx, hn, h⟩
theorem sr_wit (l : List Kl) : ∀ (k : Nat) (D : List Bool) (L : List Cl) (s : List Nat), srK l k D L = some s → Wit l D L s
  | 0, D, L, s, h => by
    unfold srK at h
    split at h
    · cases h
    · rename_i hk; cases h; exact .nil (by simpa using hk)
  | k + 1, D, L, s, h => by
    unfold srK at h
    split at h
    · obtain ⟨q, hq, h2⟩ := List.exists_of_findSome?_eq_some h
      cases hx : l[q]? with
      | none => rw [hx] at h2; cases h2
      | some x =>
        rw [hx, Option.bind_some] at h2
        split at h2
        · rename_i hn
          cases hs : srK l k (D.set q true) (dnK L x) with
          | none => rw [hs] at h2; cases h2
          | some t =>
            rw [hs] at h2
            cases h2
            exact .cons hx hn (sr_wit l k _ _ t hs)
        · cases h2
    · rename_i hk; cases h; exact .nil (by simpa using hk)
theorem wit_sr (l : List Kl) : ∀ (k : Nat) (D : List Bool) (L : List Cl) (o : List Nat), Wit l D L o → o.length ≤ k → (srK l k D L).isSome = true
  | 0, D, L, o, h, hk => by
    cases o with
    | nil => rw [Wit] at h; unfold srK; rw [h]; rfl
    | cons _ _ => simp at hk
  | k + 1, D, L, o, h, hk => by
    cases hl : lckK l D with
    | false => unfold srK; rw [hl]; rfl
    | true =>
      cases o with
      | nil => rw [Wit] at h; rw [hl] at h; cases h
      | cons q o =>
        rw [Wit] at h
        obtain ⟨x, hx, hn, hw⟩ := h
        have ih := wit_sr l k _ _ o hw (by simp at hk; omega)
        unfold srK
        rw [hl, if_pos rfl]
        rw [List.findSome?_isSome_iff]
        refine ⟨q, List.mem_range.2 (List.getElem?_eq_some_iff.1 hx).1, ?_⟩
        rw [hx, Option.bind_some, if_pos hn]
        simpa using ih
theorem at9_set8 (D : List Bool) (q i : Nat) (hq : q < D.length) : at9 (D.set q true) i = (decide (q = i) || at9 D i) := by
  unfold at9
  by_cases h : q = i
  · subst h; simp [hq]
  · simp [h]
theorem at9_D0 (i : Nat) : at9 D0 i = false := by
  unfold at9 D0
  match i with
  | 0 | 1 | 2 | 3 | 4 | 5 | 6 | 7 => rfl
  | i + 8 => simp
theorem wit_lst (l : List Kl) (h8 : l.length ≤ 8) {o : List Nat} (h : Wit l D0 [] o) : (lst l).isSome = true := by
  have h1 := wit_sr l (o.length + l.length) _ _ o h (by omega)
  have h2 := cU_le D0 l.length
  unfold lst
  rw [srK_eq l D0 [] (show l.length ≤ D0.length from h8) (k := l.length) (k' := o.length + l.length) h2 (by omega)]
  exact h1
end Go.Proofs.Ytffpmpclcblnbaa
namespace Go.Proofs.Ytffpmpclcblnbaa
open Go.RowKit Go.Maps
open Classical
/-! ### Locality -/
def kRW (x : Kl) : Prop := x.o.k = 1 ∨ x.o.k = 3
theorem slP_iff {r : Int} {x : Kl} : slP r x = true ↔ kRW x ∧ x.o.s = r := by
  unfold slP kRW
  simp
theorem slP_own {x : Kl} (h : kRW x) : slP x.o.s x = true := slP_iff.2 ⟨h, rfl⟩
def fx (l : List Kl) (r : Int) (i : Nat) : Nat := ((l.take i).filter (slP r)).length
theorem fx_at {l : List Kl} {r : Int} {i : Nat} {x : Kl} (h : l[i]? = some x) (hs : slP r x = true) : (l.filter (slP r))[fx l r i]? = some x := by
  obtain ⟨hi, rfl⟩ := List.getElem?_eq_some_iff.1 h
  have e1 : l = l.take i ++ l[i] :: l.drop (i + 1) := by rw [← List.drop_eq_getElem_cons hi, List.take_append_drop]
  have e2 : l.filter (slP r) = (l.take i).filter (slP r) ++ l[i] :: (l.drop (i + 1)).filter (slP r) := by
    have e3 : l.filter (slP r) = (l.take i ++ l[i] :: l.drop (i + 1)).filter (slP r) := congrArg (fun z => z.filter (slP r)) e1
    rw [e3, List.filter_append, List.filter_cons, if_pos hs]
  rw [e2]
  unfold fx
  simp
theorem fx_back {r : Int} : ∀ {l : List Kl} {j : Nat} {y : Kl}, (l.filter (slP r))[j]? = some y → ∃ i, l[i]? = some y ∧ slP r y = true ∧ fx l r i = j
  | [], j, y, h => by simp at h
  | a :: t, j, y, h => by
    by_cases hb : slP r a = true
    · rw [List.filter_cons, if_pos hb] at h
      cases j with
      | zero =>
        simp at h
        subst h
        exact ⟨0, rfl, hb, by simp [fx]⟩
      | succ j =>
        simp at h
        obtain ⟨i, h1, h2, h3⟩ := fx_back h
        refine ⟨i + 1, by simpa using h1, h2, ?_⟩
        rw [← h3]
        unfold fx
        rw [List.take_succ_cons, List.filter_cons, if_pos hb]
        rfl
    · rw [List.filter_cons, if_neg hb] at h
      obtain ⟨i, h1, h2, h3⟩ := fx_back h
      refine ⟨i + 1, by simpa using h1, h2, ?_⟩
      rw [← h3]
      unfold fx
      rw [List.take_succ_cons, List.filter_cons, if_neg hb]
theorem fx_mono (l : List Kl) (r : Int) {i j : Nat} (h : i ≤ j) : fx l r i ≤ fx l r j := by
  unfold fx
  exact (List.Sublist.filter _ (List.take_prefix_take_left (l := l) h).sublist).length_le
theorem fx_lt {l : List Kl} {r : Int} {i j : Nat} {x : Kl} (hx : l[i]? = some x) (hs : slP r x = true) (h : i < j) : fx l r i < fx l r j := by
  have h1 := fx_mono l r (show i + 1 ≤ j from h)
  have h2 : fx l r (i + 1) = fx l r i + 1 := by
    unfold fx
    rw [slP_at hx, if_pos hs]
    simp
  omega
theorem fx_inj {l : List Kl} {r : Int} {i j : Nat} {x y : Kl} (hx : l[i]? = some x) (hs : slP r x = true) (hy : l[j]? = some y) (ht : slP r y = true) (h : i ≠ j) : fx l r i ≠ fx l r j := fun e => by
  rcases Nat.lt_or_gt_of_ne h with h | h
  · have := fx_lt hx hs h; omega
  · have := fx_lt hy ht h; omega
structure RelS (l : List Kl) (r : Int) (D D' : List Bool) (L L' : List Cl) : Prop where
  len : D'.length = 8
  eq : ∀ i x, l[i]? = some x → slP r x = true → at9 D' (fx l r i) = at9 D i
  gv : gv L' r = gv L r
theorem wd_slt {L L' : List Cl} {x : Kl} (hk : kRW x) (hg : gv L' x.o.s = gv L x.o.s) : wd L' x.o.k x.o.s x.o.v = wd L x.o.k x.o.s x.o.v := by
  unfold wd
  rcases hk with h | h <;> simp [h, hg]
theorem off_slot {L L' : List Cl} {x : Kl} (hk : kRW x) (hg : gv L' x.o.s = gv L x.o.s) : offK L' x = offK L x := by
  unfold offK
  rw [wd_slt hk hg]
theorem dn_gv {L : List Cl} {x : Kl} (hk : kRW x) (r : Int) : gv (dnK L x) r = if (wd L x.o.k x.o.s x.o.v).1 = 1 then (if x.o.s = r then some x.o.v else gv L r) else gv L r := by
  unfold dnK dn
  by_cases h : (wd L x.o.k x.o.s x.o.v).1 = 1
  · rw [if_pos h, if_pos h]
    have hw : wd L x.o.k x.o.s x.o.v = (1, x.o.s, x.o.v) ∧ gv L x.o.s = none := by
      unfold wd at h ⊢
      by_cases hc : ck x.o.k x.o.s x.o.v ≠ 0
      · rw [if_pos hc] at h; simp at h
      · rw [if_neg hc] at h ⊢
        rcases hk with hk | hk
        · rw [hk] at h ⊢
          simp only [if_true] at h ⊢
          cases hg : gv L x.o.s with
          | none => exact ⟨rfl, rfl⟩
          | some z => rw [hg] at h; simp at h
        · rw [hk] at h ⊢
          simp at h
          cases hg : gv L x.o.s with
          | none => rw [hg] at h; simp at h
          | some z => rw [hg] at h; simp at h
    rw [hw.1, gv_ins (p := (x.o.s, x.o.v)) hw.2]
  · rw [if_neg h, if_neg h]
theorem dn_other {L : List Cl} {x : Kl} (hk : kRW x) {r : Int} (h : x.o.s ≠ r) : gv (dnK L x) r = gv L r := by
  rw [dn_gv hk, if_neg h]
  split <;> rfl
theorem dn_same {L L' : List Cl} {x : Kl} (hk : kRW x) (hg : gv L' x.o.s = gv L x.o.s) : gv (dnK L' x) x.o.s = gv (dnK L x) x.o.s := by
  rw [dn_gv hk, dn_gv hk, wd_slt hk hg, hg]
theorem RelS.lck {l : List Kl} {r : Int} {D D' : List Bool} {L L' : List Cl} (h : RelS l r D D' L L') {i : Nat} {x : Kl} (hx : l[i]? = some x) (hs : slP r x = true) (ha : ansK x = true) (hn : at9 D i = false) : lckK (l.filter (slP r)) D' = true :=
  (lck_iff _ _).2 ⟨_, _, fx_at hx hs, ha, by rw [h.eq i x hx hs]; exact hn⟩
theorem RelS.own {l : List Kl} {r : Int} {D D' : List Bool} {L L' : List Cl} (h : RelS l r D D' L L') (h8 : l.length ≤ 8) (hD : D.length = 8) {q : Nat} {x : Kl} (hx : l[q]? = some x) (hs : slP r x = true) : RelS l r (D.set q true) (D'.set (fx l r q) true) (dnK L x) (dnK L' x) := by
  have hk := slP_iff.1 hs
  have hq := (List.getElem?_eq_some_iff.1 hx).1
  have hf := (List.getElem?_eq_some_iff.1 (fx_at hx hs)).1
  have hfl : (l.filter (slP r)).length ≤ l.length := List.length_filter_le _ _
  refine ⟨by simp [h.len], fun i y hy ht => ?_, ?_⟩
  · rw [at9_set8 _ _ _ (by rw [h.len]; omega), at9_set8 _ _ _ (by omega), h.eq i y hy ht]
    congr 1
    by_cases hc : q = i
    · subst hc; simp
    · simp [hc, fx_inj hx hs hy ht hc]
  · have := dn_same hk.1 (L := L) (L' := L') (by rw [hk.2]; exact h.gv)
    rw [hk.2] at this
    exact this
theorem RelS.other {l : List Kl} {r : Int} {D D' : List Bool} {L L' : List Cl} (h : RelS l r D D' L L') (h8 : l.length ≤ 8) (hD : D.length = 8) {q : Nat} {x : Kl} (hx : l[q]? = some x) (hk : kRW x) (hs : x.o.s ≠ r) : RelS l r (D.set q true) D' (dnK L x) L' := by
  have hq := (List.getElem?_eq_some_iff.1 hx).1
  refine ⟨h.len, fun i y hy ht => ?_, ?_⟩
  · rw [at9_set8 _ _ _ (by omega), h.eq i y hy ht]
    have : q ≠ i := fun e => by
      subst e
      rw [hx] at hy
      cases hy
      exact hs (slP_iff.1 ht).2
    simp [this]
  · rw [dn_other hk hs]
    exact h.gv
theorem wit_slot (l : List Kl) (r : Int) (h8 : l.length ≤ 8) (hl : ∀ x ∈ l, kRW x) : ∀ (o : List Nat) (D : List Bool) (L : List Cl), Wit l D L o → D.length = 8 → ∀ D' L', RelS l r D D' L L' → ∃ o', Wit (l.filter (slP r)) D' L' o' := by
  intro o
  induction o with
  | nil =>
    intro D L h hD D' L' hR
    refine ⟨[], .nil ?_⟩
    rw [Wit] at h
    cases hl : lckK (l.filter (slP r)) D' with
    | false => rfl
    | true =>
      obtain ⟨j, y, hy, ha, hn⟩ := (lck_iff _ _).1 hl
      obtain ⟨i, hi, hs, rfl⟩ := fx_back hy
      rw [hR.eq i y hi hs] at hn
      have := (lck_iff l D).2 ⟨i, y, hi, ha, hn⟩
      rw [h] at this
      cases this
  | cons q o ih =>
    intro D L h hD D' L' hR
    rw [Wit] at h
    obtain ⟨x, hx, hnx, hw⟩ := h
    have hk := hl x (List.mem_of_getElem? hx)
    by_cases hs : x.o.s = r
    · have ht := slP_iff.2 ⟨hk, hs⟩
      obtain ⟨o', ho'⟩ := ih _ _ hw (by simp [hD]) _ _ (hR.own h8 hD hx ht)
      refine ⟨fx l r q :: o', .cons (fx_at hx ht) ?_ ho'⟩
      obtain ⟨h1, h2, h3⟩ := nxt_at hnx
      unfold nxtK
      rw [hR.eq q x hx ht, h1, off_slot (L := L) (L' := L') hk (by rw [hs]; exact hR.gv), h2]
      cases hll : lateK (l.filter (slP r)) D' x with
      | false => rfl
      | true =>
        obtain ⟨j2, _, y2, hy2, ha2, hn3, hlt⟩ := (late_iff _ _ _).1 hll
        obtain ⟨i2, hz2, hzs, rfl⟩ := fx_back hy2
        rw [hR.eq i2 y2 hz2 hzs] at hn3
        have := (late_iff l D x).2 ⟨i2, (List.getElem?_eq_some_iff.1 hz2).1, y2, hz2, ha2, hn3, hlt⟩
        rw [h3] at this
        cases this
    · exact ih _ _ hw (by simp [hD]) _ _ (hR.other h8 hD hx hk hs)
theorem least_b (p : Nat → Prop) (f : Nat → Int) : ∀ n, (∃ i, i < n ∧ p i) → ∃ i, i < n ∧ p i ∧ ∀ k, k < n → p k → f i ≤ f k
  | 0, ⟨i, h, _⟩ => by omega
  | n + 1, ⟨i, h, hp⟩ => by
    by_cases hn : ∃ i, i < n ∧ p i
    · obtain ⟨m, hm, hpm, hmin⟩ := least_b p f n hn
      by_cases hc : p n ∧ f n < f m
      · refine ⟨n, by omega, hc.1, fun k hk hpk => ?_⟩
        by_cases e : k = n
        · subst e; omega
        · have := hmin k (by omega) hpk; omega
      · refine ⟨m, by omega, hpm, fun k hk hpk => ?_⟩
        by_cases e : k = n
        · subst e
          have : ¬ f k < f m := fun h => hc ⟨hpk, h⟩
          omega
        · exact hmin k (by omega) hpk
    · have e : i = n := by
        by_cases e : i = n
        · exact e
        · exact absurd ⟨i, by omega, hp⟩ hn
      subst e
      refine ⟨i, by omega, hp, fun k hk hpk => ?_⟩
      by_cases e : k = i
      · subst e; omega
      · exact absurd ⟨k, by omega, hpk⟩ hn
theorem wit_all (l : List Kl) (h8 : l.length ≤ 8) (hl : ∀ x ∈ l, kRW x) : ∀ (k : Nat) (D : List Bool) (L : List Cl), cU D l.length ≤ k → D.length = 8 → (∀ r, ∃ D' L' o', RelS l r D D' L L' ∧ Wit (l.filter (slP r)) D' L' o') → ∃ o, Wit l D L o
  | 0, D, L, hk, hD, H => ⟨[], .nil (lck_none (by omega))⟩
  | k + 1, D, L, hk, hD, H => by
    cases hc : lckK l D with
    | false => exact ⟨[], .nil hc⟩
    | true =>
      obtain ⟨j, y, hy, ha, hn⟩ := (lck_iff _ _).1 hc
      have head : ∀ (i : Nat) (x : Kl), l[i]? = some x → ansK x = true → at9 D i = false → ∃ q z, q < l.length ∧ l[q]? = some z ∧ z.o.s = x.o.s ∧ (∃ D' L' o', RelS l z.o.s D D' L L' ∧ nxtK (l.filter (slP z.o.s)) D' L' (fx l z.o.s q) z = true ∧ Wit (l.filter (slP z.o.s)) (D'.set (fx l z.o.s q) true) (dnK L' z) o') ∧ ¬ x.e < z.b := by
        intro i x hx hax hnx
        have hkx := hl x (List.mem_of_getElem? hx)
        obtain ⟨D', L', o', hR, hw⟩ := H x.o.s
        have hlk := hR.lck hx (slP_own hkx) hax hnx
        cases o' with
        | nil => rw [Wit] at hw; rw [hw] at hlk; cases hlk
        | cons q' o' =>
          rw [Wit] at hw
          obtain ⟨z, hz, hnz, hwz⟩ := hw
          obtain ⟨q, hq, hzs, rfl⟩ := fx_back hz
          have hzz := (slP_iff.1 hzs).2
          refine ⟨q, z, (List.getElem?_eq_some_iff.1 hq).1, hq, hzz, ⟨D', L', o', by rw [hzz]; exact hR, by rw [hzz]; exact hnz, by rw [hzz]; exact hwz⟩, fun hlt => ?_⟩
          obtain ⟨_, _, h3⟩ := nxt_at hnz
          have := (late_iff (l.filter (slP x.o.s)) D' z).2 ⟨fx l x.o.s i, (List.getElem?_eq_some_iff.1 (fx_at hx (slP_own hkx))).1, x, fx_at hx (slP_own hkx), hax, by rw [hR.eq i x hx (slP_own hkx)]; exact hnx, hlt⟩
          rw [h3] at this
          cases this
      obtain ⟨m, hm, hpm, hmin⟩ := least_b (fun q => ∃ z, l[q]? = some z ∧ ∃ D' L' o', RelS l z.o.s D D' L L' ∧ nxtK (l.filter (slP z.o.s)) D' L' (fx l z.o.s q) z = true ∧ Wit (l.filter (slP z.o.s)) (D'.set (fx l z.o.s q) true) (dnK L' z) o') (fun q => ((l[q]?).map (·.b)).getD 0) l.length (by
        obtain ⟨q, z, h1, h2, _, h4, _⟩ := head j y hy ha hn
        exact ⟨q, h1, z, h2, h4⟩)
      obtain ⟨z, hz, D1, L1, o1, hR1, hn1, hw1⟩ := hpm
      have hkz := hl z (List.mem_of_getElem? hz)
      obtain ⟨g1, g2, g3⟩ := nxt_at hn1
      rw [hR1.eq m z hz (slP_own hkz)] at g1
      have hnz : nxtK l D L m z = true := by
        unfold nxtK
        rw [g1, ← off_slot hkz hR1.gv, g2]
        cases hll : lateK l D z with
        | false => rfl
        | true =>
          obtain ⟨j2, _, y2, hy2, ha2, hn3, hlt⟩ := (late_iff _ _ _).1 hll
          obtain ⟨q, z2, h1, h2, _, h4, h5⟩ := head j2 y2 hy2 ha2 hn3
          have := hmin q h1 ⟨z2, h2, h4⟩
          rw [hz, h2] at this
          have : z.b ≤ z2.b := this
          omega
      have hcu := cU_set D m (by omega) g1 l.length
      rw [if_pos hm] at hcu
      obtain ⟨o, ho⟩ := wit_all l h8 hl k (D.set m true) (dnK L z) (by omega) (by simp [hD]) (fun r => by
        by_cases hr : z.o.s = r
        · subst hr
          exact ⟨_, _, o1, hR1.own h8 hD hz (slP_own hkz), hw1⟩
        · obtain ⟨D', L', o', hR, hw⟩ := H r
          exact ⟨D', L', o', hR.other h8 hD hz hkz hr, hw⟩)
      exact ⟨m :: o, .cons hz hnz ho⟩
theorem local_iff (l : List Kl) (h8 : l.length ≤ 8) (hl : ∀ x ∈ l, kRW x) : (lst l).isSome = true ↔ ∀ r, (lst (l.filter (slP r))).isSome = true := by
  have hf : ∀ r, (l.filter (slP r)).length ≤ 8 := fun r => Nat.le_trans (List.length_filter_le _ _) h8
  have hR : ∀ r, RelS l r D0 D0 [] [] := fun r => ⟨rfl, fun i x _ _ => by rw [at9_D0, at9_D0], rfl⟩
  constructor
  · intro h r
    obtain ⟨s, hs⟩ := Option.isSome_iff_exists.1 h
    obtain ⟨o, ho⟩ := wit_slot l r h8 hl s _ _ (sr_wit l _ _ _ s hs) rfl D0 [] (hR r)
    exact wit_lst _ (hf r) ho
  · intro h
    obtain ⟨o, ho⟩ := wit_all l h8 hl (cU D0 l.length) D0 [] (Nat.le_refl _) rfl (fun r => by
      obtain ⟨s, hs⟩ := Option.isSome_iff_exists.1 (h r)
      exact ⟨D0, [], s, hR r, sr_wit _ _ _ _ s hs⟩)
    exact wit_lst l h8 ho
theorem local_own (l : List Kl) (h8 : l.length ≤ 8) (hl : ∀ x ∈ l, kRW x) : (lst l).isSome = true ↔ ∀ x ∈ l, (lst (l.filter (slP x.o.s))).isSome = true := by
  rw [local_iff l h8 hl]
  constructor
  · exact fun h x _ => h _
  · intro h r
    by_cases hr : ∃ x ∈ l, x.o.s = r
    · obtain ⟨x, hx, rfl⟩ := hr
      exact h x hx
    · have : l.filter (slP r) = [] := List.filter_eq_nil_iff.2 (fun x hx hs => hr ⟨x, hx, (slP_iff.1 hs).2⟩)
      rw [this]
      rfl
theorem kcA_keep : ∀ (p l : List Kl), (∀ x ∈ l, mayK x = true) → (∀ x ∈ l, hasK p x.c x.n = false) → l.Pairwise (fun x y => ¬ (x.c = y.c ∧ x.n = y.n)) → kcA p l = 0
  | _, [], _, _, _ => rfl
  | p, x :: r, h1, h2, h3 => by
    rw [kcA, h2 x (by simp), h1 x (by simp)]
    rw [List.pairwise_cons] at h3
    refine kcA_keep (p ++ [x]) r (fun y hy => h1 y (by simp [hy])) (fun y hy => ?_) h3.2
    rw [hasK_snoc, h2 y (by simp [hy])]
    have := h3.1 y hy
    simp
    intro e1 e2
    exact this ⟨e1, e2⟩
theorem kchk_filter {l : List Kl} (h : kchk l = 0) (f : Kl → Bool) : kchk (l.filter f) = 0 := by
  obtain ⟨h1, h2, h3⟩ := kcA_ok [] l h
  exact kcA_keep [] _ (fun x hx => h1 x (List.mem_filter.1 hx).1) (fun x hx => h3 x (List.mem_filter.1 hx).1) (h2.sublist List.filter_sublist)
theorem eqEt51 (x y : Operand) (a : Int) (w : World) : (do eqGuard .eql 25 x y (.int .i64 a) (.int .i64 a); binOp .eql 25 (.int .i64 a) (.int .i64 a) : Sem Value).run Try.prog w = .ok (.bool true) w := by go_simp
theorem neEf51 (x y : Operand) (a : Int) (w : World) : (do eqGuard .neq 25 x y (.int .i64 a) (.int .i64 a); binOp .neq 25 (.int .i64 a) (.int .i64 a) : Sem Value).run Try.prog w = .ok (.bool false) w := by go_simp
theorem eqBt51 (x y : Operand) (a : Bool) (w : World) : (do eqGuard .eql 4 x y (.bool a) (.bool a); binOp .eql 4 (.bool a) (.bool a) : Sem Value).run Try.prog w = .ok (.bool true) w := by go_simp
def kB (x : Kl) : Bool := decide (x.o.k = 1) || decide (x.o.k = 3)
theorem kB_iff {x : Kl} : kB x = true ↔ kRW x := by unfold kB kRW; simp
set_option maxHeartbeats 2000000 in
theorem plainOps18 (l : List Kl) (a : Option Addr) (c : Nat) (w : World) (h : SlY yK w a l.length c l) (hn : l.length ≤ 140737488351232) :
    Calls Try.prog 13 #[.slice a l.length c] w fun e w' => ∃ D v, e = .returned v ∧ OwnY yK w.heap.size w' v D ∧ Below w.heap.size w w' ∧ (∀ x ∈ D, x ∈ l ∧ kRW x) ∧ D.length ≤ 8 := by
  go_enter Try.func13, Try.ntmps13
  go_upto_region 0 with fail
  refine wp_region_lit ?_
  refine vl_gen (fun T => Rp T 40 [(0, gw true (.slice a l.length c))]) ((Rp.nil rfl).cons rfl) (fun Z0 q0 => ?_)
  refine q0.t (.slice none 0 0) (ex_assign rfl rfl) fun _ q1 => ?_;clear q0
  refine wpList_nil ?_
  go_upto_region 1 with fail
  refine wp_region_lit ?_
  refine q1.t (.slice none 0 0) (ex_assign rfl rfl) fun _ q2 => ?_;clear q1
  refine wpList_nil ?_
  go_upto_region 2 with fail
  refine wp_region_lit ?_
  refine q2.t (.int .i64 ((0 : Nat) : Int)) (ex_assign rfl rfl) fun _ q3 => ?_;clear q2
  have q4 := ((((Rp.nil q3.z).cons (q3.a 0 rfl)).cons (q3.a 3 rfl)).cons (q3.a 4 rfl))
  clear q3
  refine wpList_nil ?_
  go_upto_region 3 with fail
  refine v_loop 4 l.length (fun j T wr => ∃ v D, Rp T 40 [(4, gw true (.int .i64 (j : Int))), (3, gw true v), (0, gw true (.slice a l.length c))] ∧ Hid (Below w.heap.size w wr ∧ OwnY yK w.heap.size wr v D ∧ (∀ x ∈ D, x ∈ l ∧ kRW x) ∧ D.length ≤ 8)) (fun j T w h => by obtain ⟨v, D, h, _⟩ := h; exact h.a 4 rfl) ⟨_, [], q4, Below.refl _ _, OwnY.nil _ _ _, by simp, by simp⟩ ?_
  clear q4
  intro j T wr hj hh
  obtain ⟨v, D, q100, HJ⟩ := hh
  obtain ⟨br, hO, hm, h8⟩ := HJ.out
  clear HJ
  have zr := br.size
  obtain ⟨av, cv, hv, _, _, _⟩ := hO.form
  subst hv
  by_cases hit : j < l.length
  · by_cases h9 : D.length < 8
    · obtain ⟨x, hx⟩ : ∃ x, l[j]? = some x := ⟨_, List.getElem?_eq_getElem hit⟩
      obtain ⟨qa, oa, hqa, hqal, hlie⟩ := (h.on br (Nat.le_refl _)).place (by rintro rfl; simp at hit)
      go_upto_region 3 with fail
      refine wp_region_lit ?_
      refine q100.t (.int .i64 (j : Int)) (ex_move rfl (q100.e (j := 4) rfl)) fun _ q101 => ?_;clear q100
      refine q101.t (.slice a l.length c) (ex_move rfl (q101.e (j := 0) rfl)) fun _ q102 => ?_;clear q101
      refine q102.t (.int .i64 (l.length : Int)) (ex_len18 rfl rfl (q102.e (j := 6) rfl)) fun _ q103 => ?_;clear q102
      refine q103.t (.bool true) (ex_bin rfl (q103.e (j := 5) rfl) (q103.e (j := 7) rfl) (ltT _ _ hit _)) fun _ q104 => ?_;clear q103
      refine q104.t (.bool true) (ex_move rfl (q104.e (j := 8) rfl)) fun _ q105 => ?_;clear q104
      refine vl _ (.slice av D.length cv) (want_g rfl rfl (q105.a 9 rfl)) (fun hc => ex_move rfl (q105.e (j := 3) rfl)) rfl q105.z (by decide) (q105.k fun _ q106 => ?_);clear q105
      refine vl _ (.int .i64 ((D.length : Nat) : Int)) (want_g rfl rfl (q106.a 9 rfl)) (fun hc => ex_len18 rfl rfl (ev (q106.a 10 rfl) hc)) rfl q106.z (by decide) (q106.k fun _ q107 => ?_);clear q106
      refine vl _ (.bool true) (want_g rfl rfl (q107.a 9 rfl)) (fun hc => ex_bin (Y := .int .i64 ((8 : Nat) : Int)) rfl (ev (q107.a 11 rfl) hc) rfl (ltT _ _ h9 _)) rfl q107.z (by decide) (q107.k fun _ q108 => ?_);clear q107
      refine q108.t (.bool true) (ex_and (z := true) rfl (q108.a 9 rfl) (q108.a 12 rfl) rfl) fun _ q109 => ?_;clear q108
      refine wpList_nil ?_
      go_upto_region 5 with fail
      refine wp_cond_true (q109.e (j := 13) rfl) ?_
      go_upto_region 5 with fail
      refine wp_region_lit ?_
      refine q109.t (.slice a l.length c) (ex_move rfl (q109.e (j := 0) rfl)) fun _ q110 => ?_;clear q109
      refine q110.t (.int .i64 (j : Int)) (ex_move rfl (q110.e (j := 4) rfl)) fun _ q111 => ?_;clear q110
      refine q111.t (.pointer (some ⟨qa, oa + j * 10, none⟩)) (ex_ix rfl (q111.e (j := 16) rfl) (q111.e (j := 17) rfl) (by rw [hqa]; exact ixK qa oa l.length c j hit _)) fun _ q112 => ?_;clear q111
      refine q112.t (.pointer (some ⟨qa, oa + j * 10 + 2, none⟩)) (ex_fa rfl (q112.e (j := 18) rfl) (faK2c _ _ _)) fun _ q113 => ?_;clear q112
      refine q113.t (.pointer (some ⟨qa, oa + j * 10 + 2, none⟩)) (ex_fa rfl (q113.e (j := 19) rfl) (faO0 _ _ _)) fun _ q114 => ?_;clear q113
      refine q114.t (.int .i64 x.o.k) (ex_ld rfl (q114.e (j := 20) rfl) (ldI18 (hlie j x hx 2 _ rfl))) fun _ q115 => ?_;clear q114
      refine q115.t (.bool (decide (x.o.k = 1))) (ex_bin rfl (q115.e (j := 21) rfl) rfl (eqlC _ _ _ _ _)) fun _ q116 => ?_;clear q115
      refine q116.t (.bool (decide (x.o.k = 1))) (ex_move rfl (q116.e (j := 22) rfl)) fun _ q117 => ?_;clear q116
      refine vl _ (.slice a l.length c) (want_g rfl rfl (q117.a 23 rfl)) (fun hc => ex_move rfl (q117.e (j := 0) rfl)) rfl q117.z (by decide) (q117.k fun _ q118 => ?_);clear q117
      refine vl _ (.int .i64 (j : Int)) (want_g rfl rfl (q118.a 23 rfl)) (fun hc => ex_move rfl (q118.e (j := 4) rfl)) rfl q118.z (by decide) (q118.k fun _ q119 => ?_);clear q118
      refine vl _ (.pointer (some ⟨qa, oa + j * 10, none⟩)) (want_g rfl rfl (q119.a 23 rfl)) (fun hc => ex_ix rfl (ev (q119.a 24 rfl) hc) (ev (q119.a 25 rfl) hc) (by rw [hqa]; exact ixK qa oa l.length c j hit _)) rfl q119.z (by decide) (q119.k fun _ q120 => ?_);clear q119
      refine vl _ (.pointer (some ⟨qa, oa + j * 10 + 2, none⟩)) (want_g rfl rfl (q120.a 23 rfl)) (fun hc => ex_fa rfl (ev (q120.a 26 rfl) hc) (faK2c _ _ _)) rfl q120.z (by decide) (q120.k fun _ q121 => ?_);clear q120
      refine vl _ (.pointer (some ⟨qa, oa + j * 10 + 2, none⟩)) (want_g rfl rfl (q121.a 23 rfl)) (fun hc => ex_fa rfl (ev (q121.a 27 rfl) hc) (faO0 _ _ _)) rfl q121.z (by decide) (q121.k fun _ q122 => ?_);clear q121
      refine vl _ (.int .i64 x.o.k) (want_g rfl rfl (q122.a 23 rfl)) (fun hc => ex_ld rfl (ev (q122.a 28 rfl) hc) (ldI18 (hlie j x hx 2 _ rfl))) rfl q122.z (by decide) (q122.k fun _ q123 => ?_);clear q122
      refine vl _ (.bool (decide (x.o.k = 3))) (want_g rfl rfl (q123.a 23 rfl)) (fun hc => ex_bin rfl (ev (q123.a 29 rfl) hc) rfl (eqlC _ _ _ _ _)) rfl q123.z (by decide) (q123.k fun _ q124 => ?_);clear q123
      refine q124.t (.bool (decide (x.o.k = 1) || decide (x.o.k = 3))) (ex_or rfl (q124.a 23 rfl) (q124.a 30 rfl) rfl) fun _ q125 => ?_;clear q124
      have q126 := (((((Rp.nil q125.z).cons (q125.a 0 rfl)).cons (q125.a 3 rfl)).cons (q125.a 4 rfl)).cons (q125.a 31 rfl))
      clear q125
      refine wpList_nil ?_
      cases hs : kB x with
      | false =>
        have q126x : _ = some (gw true (.bool (kB x))) := q126.a 31 rfl
        rw [hs] at q126x
        go_upto_region 4 with fail
        refine wp_cond_false (ev q126x rfl) ?_
        clear q126x
        go_upto_region 4 with fail
        refine wp_region_lit ?_
        refine q126.t (.int .i64 (j : Int)) (ex_move rfl (q126.e (j := 4) rfl)) fun _ q127 => ?_;clear q126
        refine q127.t (.int .i64 ((j + 1 : Nat) : Int)) (ex_bin rfl (q127.e (j := 14) rfl) rfl (add1C _ _ j (by omega) _)) fun _ q128 => ?_;clear q127
        refine q128.t (.int .i64 ((j + 1 : Nat) : Int)) (ex_assign rfl (q128.e (j := 15) rfl)) fun _ q129 => ?_;clear q128
        have q130 := ((((Rp.nil q129.z).cons (q129.a 0 rfl)).cons (q129.a 3 rfl)).cons (q129.a 4 rfl))
        clear q129
        refine wpList_nil ?_
        exact ⟨_, rfl, hit, _, D, q130, br, hO, hm, h8⟩
      | true =>
        have q126x : _ = some (gw true (.bool (kB x))) := q126.a 31 rfl
        rw [hs] at q126x
        go_upto_region 6 with fail
        refine wp_cond_true (ev q126x rfl) ?_
        clear q126x
        go_upto_region 6 with fail
        refine wp_region_lit ?_
        refine q126.t (.slice av D.length cv) (ex_move rfl (q126.e (j := 3) rfl)) fun _ q127 => ?_;clear q126
        refine q127.t (.slice a l.length c) (ex_move rfl (q127.e (j := 0) rfl)) fun _ q128 => ?_;clear q127
        refine q128.t (.int .i64 (j : Int)) (ex_move rfl (q128.e (j := 4) rfl)) fun _ q129 => ?_;clear q128
        refine q129.t (.pointer (some ⟨qa, oa + j * 10, none⟩)) (ex_ix rfl (q129.e (j := 33) rfl) (q129.e (j := 34) rfl) (by rw [hqa]; exact ixK qa oa l.length c j hit _)) fun _ q130 => ?_;clear q129
        refine q130.t (x.val) (ex_ld rfl (q130.e (j := 35) rfl) (ldEl hlie hx)) fun _ q131 => ?_;clear q130
        obtain ⟨r5, hr5⟩ : ∃ z, z = wr.alloc (.cells x.cs.toArray 45) := ⟨_, rfl⟩
        refine vw (.slice (some ⟨wr.heap.size, 0, none⟩) 1 1) r5 (want_none rfl) (ex_bs18 rfl (q131.e (j := 36) rfl) (by rw [hr5]; exact bsK18 _ _)) rfl q131.z (by decide) (q131.k fun _ q132 => ?_);clear q131
        have s5 : SlY yK r5 (some ⟨wr.heap.size, 0, none⟩) 1 1 [x] := by rw [hr5]; exact sl_box (Y := yK) wr x 45
        have b5 : Below wr.heap.size wr r5 := by rw [hr5]; exact (Below.refl _ _).alloc (Nat.le_refl _) _
        clear hr5
        have y5 := b5.size
        obtain ⟨v6, r6, ha6, o6, g6, _⟩ := run_appY kK r5 24 w.heap.size _ _ _ 1 1 [x] s5 (hO.grow b5) (by omega) (by unfold maxLen; omega) (by show (D.length + 1) * 96 ≤ _; omega)
        have b6 : Below w.heap.size w r6 := (br.trans (b5.mono (by omega))).grown g6 (by omega) (fun k hk => (hO.blk k hk).1)
        refine vw (v6) r6 (want_none rfl) (ex_app18 rfl (q132.e (j := 32) rfl) (q132.e (j := 37) rfl) ha6) rfl q132.z (by decide) (q132.k fun _ q133 => ?_);clear q132
        refine q133.t (v6) (ex_assign rfl (q133.e (j := 38) rfl)) fun _ q134 => ?_;clear q133
        refine wpList_nil ?_
        go_upto_region 4 with fail
        refine wp_region_lit ?_
        refine q134.t (.int .i64 (j : Int)) (ex_move rfl (q134.e (j := 4) rfl)) fun _ q135 => ?_;clear q134
        refine q135.t (.int .i64 ((j + 1 : Nat) : Int)) (ex_bin rfl (q135.e (j := 14) rfl) rfl (add1C _ _ j (by omega) _)) fun _ q136 => ?_;clear q135
        refine q136.t (.int .i64 ((j + 1 : Nat) : Int)) (ex_assign rfl (q136.e (j := 15) rfl)) fun _ q137 => ?_;clear q136
        have q138 := ((((Rp.nil q137.z).cons (q137.a 0 rfl)).cons (q137.a 3 rfl)).cons (q137.a 4 rfl))
        clear q137
        refine wpList_nil ?_
        exact ⟨_, rfl, hit, v6, D ++ [x], q138, b6, o6, fun y hy => (List.mem_append.1 hy).elim (hm y) (fun e => by rw [List.mem_singleton.1 e]; exact ⟨List.mem_of_getElem? hx, kB_iff.1 hs⟩), by rw [List.length_append]; show D.length + 1 ≤ 8; omega⟩
    · go_upto_region 3 with fail
      refine wp_region_lit ?_
      refine q100.t (.int .i64 (j : Int)) (ex_move rfl (q100.e (j := 4) rfl)) fun _ q101 => ?_;clear q100
      refine q101.t (.slice a l.length c) (ex_move rfl (q101.e (j := 0) rfl)) fun _ q102 => ?_;clear q101
      refine q102.t (.int .i64 (l.length : Int)) (ex_len18 rfl rfl (q102.e (j := 6) rfl)) fun _ q103 => ?_;clear q102
      refine q103.t (.bool true) (ex_bin rfl (q103.e (j := 5) rfl) (q103.e (j := 7) rfl) (ltT _ _ hit _)) fun _ q104 => ?_;clear q103
      refine q104.t (.bool true) (ex_move rfl (q104.e (j := 8) rfl)) fun _ q105 => ?_;clear q104
      refine vl _ (.slice av D.length cv) (want_g rfl rfl (q105.a 9 rfl)) (fun hc => ex_move rfl (q105.e (j := 3) rfl)) rfl q105.z (by decide) (q105.k fun _ q106 => ?_);clear q105
      refine vl _ (.int .i64 ((D.length : Nat) : Int)) (want_g rfl rfl (q106.a 9 rfl)) (fun hc => ex_len18 rfl rfl (ev (q106.a 10 rfl) hc)) rfl q106.z (by decide) (q106.k fun _ q107 => ?_);clear q106
      refine vl _ (.bool false) (want_g rfl rfl (q107.a 9 rfl)) (fun hc => ex_bin (Y := .int .i64 ((8 : Nat) : Int)) rfl (ev (q107.a 11 rfl) hc) rfl (ltF _ _ h9 _)) rfl q107.z (by decide) (q107.k fun _ q108 => ?_);clear q107
      refine q108.t (.bool false) (ex_and (z := false) rfl (q108.a 9 rfl) (q108.a 12 rfl) rfl) fun _ q109 => ?_;clear q108
      refine wpList_nil ?_
      go_upto_region 7 with fail
      refine wp_cond_false (q109.e (j := 13) rfl) ?_
      go_upto_region 7 with fail
      refine wp_region_lit ?_
      refine q109.t (.slice av D.length cv) (ex_move rfl (q109.e (j := 3) rfl)) fun _ q110 => ?_;clear q109
      refine q110.t (.slice av D.length cv) (ex_assign rfl (q110.e (j := 39) rfl)) fun _ q111 => ?_;clear q110
      refine wpList_nil ?_
      go_wp2
      refine bodyPost_ret (results_tmp rfl _ _ _) rfl ?_
      rw [getD_of (q111.a 2 rfl)]
      exact ⟨D, _, rfl, hO, br, hm, h8⟩
  · go_upto_region 3 with fail
    refine wp_region_lit ?_
    refine q100.t (.int .i64 (j : Int)) (ex_move rfl (q100.e (j := 4) rfl)) fun _ q101 => ?_;clear q100
    refine q101.t (.slice a l.length c) (ex_move rfl (q101.e (j := 0) rfl)) fun _ q102 => ?_;clear q101
    refine q102.t (.int .i64 (l.length : Int)) (ex_len18 rfl rfl (q102.e (j := 6) rfl)) fun _ q103 => ?_;clear q102
    refine q103.t (.bool false) (ex_bin rfl (q103.e (j := 5) rfl) (q103.e (j := 7) rfl) (ltF _ _ hit _)) fun _ q104 => ?_;clear q103
    refine q104.t (.bool false) (ex_move rfl (q104.e (j := 8) rfl)) fun _ q105 => ?_;clear q104
    refine vl _ (.slice av D.length cv) (want_g rfl rfl (q105.a 9 rfl)) (fun hc => absurd hc (by decide)) rfl q105.z (by decide) (q105.k fun _ q106 => ?_);clear q105
    refine vl _ (.int .i64 ((D.length : Nat) : Int)) (want_g rfl rfl (q106.a 9 rfl)) (fun hc => absurd hc (by decide)) rfl q106.z (by decide) (q106.k fun _ q107 => ?_);clear q106
    refine vl _ (.bool false) (want_g rfl rfl (q107.a 9 rfl)) (fun hc => absurd hc (by decide)) rfl q107.z (by decide) (q107.k fun _ q108 => ?_);clear q107
    refine q108.t (.bool false) (ex_and (z := false) rfl (q108.a 9 rfl) (q108.a 12 rfl) rfl) fun _ q109 => ?_;clear q108
    refine wpList_nil ?_
    go_upto_region 7 with fail
    refine wp_cond_false (q109.e (j := 13) rfl) ?_
    go_upto_region 7 with fail
    refine wp_region_lit ?_
    refine q109.t (.slice av D.length cv) (ex_move rfl (q109.e (j := 3) rfl)) fun _ q110 => ?_;clear q109
    refine q110.t (.slice av D.length cv) (ex_assign rfl (q110.e (j := 39) rfl)) fun _ q111 => ?_;clear q110
    refine wpList_nil ?_
    go_wp2
    refine bodyPost_ret (results_tmp rfl _ _ _) rfl ?_
    rw [getD_of (q111.a 2 rfl)]
    exact ⟨D, _, rfl, hO, br, hm, h8⟩
theorem srE_8 {l : List Kl} (h : l.length ≤ 8) : srE l = kchk l := by
  unfold srE
  by_cases hk : kchk l = 0
  · rw [if_neg (by simp [hk]), if_neg (by omega), hk]
  · rw [if_pos hk]
theorem srA_0 {l : List Kl} (h : srE l = 0) : srA l = lst l := by unfold srA; rw [if_neg (by simp [h])]
def lcl (l : List Kl) (j : Nat) : Bool := (l.take j).all fun x => (lst (l.filter (slP x.o.s))).isSome
theorem lcl_at {l : List Kl} {j : Nat} {x : Kl} (h : l[j]? = some x) : lcl l (j + 1) = (lcl l j && (lst (l.filter (slP x.o.s))).isSome) := by
  obtain ⟨hj, rfl⟩ := List.getElem?_eq_some_iff.1 h
  unfold lcl
  rw [List.take_succ_eq_append_getElem hj, List.all_append]
  simp
theorem lcl_end {l : List Kl} (h8 : l.length ≤ 8) (hl : ∀ x ∈ l, kRW x) : lcl l l.length = (lst l).isSome := by
  have h := local_own l h8 hl
  unfold lcl
  rw [List.take_length]
  cases hb : (lst l).isSome with
  | true => rw [List.all_eq_true]; exact h.1 hb
  | false =>
    rw [Bool.eq_false_iff]
    intro hc
    rw [List.all_eq_true] at hc
    rw [h.2 hc] at hb
    cases hb
theorem may_slot {x : Kl} (hm : mayK x = true) (hk : kRW x) : 0 ≤ x.o.s ∧ x.o.s < 1024 := by
  unfold mayK askB at hm
  simp only [Bool.and_eq_true, decide_eq_true_eq] at hm
  have hc := hm.1.2.2.2
  unfold ck at hc
  rcases hk with e | e <;> rw [e] at hc <;> simp at hc <;> omega
set_option maxHeartbeats 2000000 in
theorem local18 (l : List Kl) (a : Option Addr) (c : Nat) (w : World) (h : SlY yK w a l.length c l) (hn : l.length ≤ 140737488351232) (hfx : ∀ x ∈ l, x.fits) :
    Calls Try.prog 4 #[.slice a l.length c] w fun e w' => e = .returned (.bool true) ∧ Below w.heap.size w w' := by
  go_enter Try.func4, Try.ntmps4
  go_upto_region 0 with fail
  refine wp_region_lit ?_
  refine vl_gen (fun T => Rp T 69 [(0, gw true (.slice a l.length c))]) ((Rp.nil rfl).cons rfl) (fun Z0 q0 => ?_)
  have hpl := plainOps18 l a c w h hn
  refine q0.t (.bool false) (ex_assign rfl rfl) fun _ q1 => ?_;clear q0
  refine wpList_nil ?_
  go_upto_region 1 with fail
  refine wp_region_lit ?_
  refine q1.t (.slice a l.length c) (ex_move rfl (q1.e (j := 0) rfl)) fun _ q2 => ?_;clear q1
  refine vcallP (want_none rfl) (ex_call rfl (by simp only [List.map_toArray, List.map_cons, List.map_nil, (q2.e (j := 13) rfl), evc] <;> rfl) rfl) (hpl) rfl q2.z (by decide) ?_
  rintro e w1 ⟨D, v1, rfl, o1, b1, hm, h8⟩
  refine ⟨_, rfl, q2.k fun _ q3 => ?_⟩;clear q2
  have z1 := b1.size
  obtain ⟨a1, c1, hv1, s1, _⟩ := o1.sl kK
  subst hv1
  have hfd : ∀ x ∈ D, x.fits := fun x hx => hfx x (hm x hx).1
  have hkr : ∀ x ∈ D, kRW x := fun x hx => (hm x hx).2
  clear o1
  refine q3.t (.slice a1 D.length c1) (ex_assign rfl (q3.e (j := 14) rfl)) fun _ q4 => ?_;clear q3
  refine wpList_nil ?_
  go_upto_region 2 with fail
  refine wp_region_lit ?_
  refine q4.t (.slice a1 D.length c1) (ex_move rfl (q4.e (j := 0) rfl)) fun _ q5 => ?_;clear q4
  refine vcallP (want_none rfl) (ex_call rfl (by simp only [List.map_toArray, List.map_cons, List.map_nil, (q5.e (j := 16) rfl), evc] <;> rfl) rfl) (search18_any D a1 c1 w1 s1 hfd) rfl q5.z (by decide) ?_
  rintro e w2 ⟨v2, rfl, o2, b2⟩
  refine ⟨_, rfl, q5.k fun _ q6 => ?_⟩;clear q5
  have z2 := b2.size
  clear o2
  refine q6.t (.tuple #[v2, .bool (srA D).isSome, .int .i64 (srE D)]) (ex_move rfl (q6.e (j := 17) rfl)) fun _ q7 => ?_;clear q6
  refine q7.t (v2) (ex_ext18 rfl (q7.e (j := 15) rfl) rfl) fun _ q8 => ?_;clear q7
  refine q8.t (.bool (srA D).isSome) (ex_ext18 rfl (q8.e (j := 15) rfl) rfl) fun _ q9 => ?_;clear q8
  refine q9.t (.int .i64 (srE D)) (ex_ext18 rfl (q9.e (j := 15) rfl) rfl) fun _ q10 => ?_;clear q9
  refine q10.t (v2) (ex_assign rfl (q10.e (j := 18) rfl)) fun _ q11 => ?_;clear q10
  refine q11.t (.bool (srA D).isSome) (ex_assign rfl (q11.e (j := 19) rfl)) fun _ q12 => ?_;clear q11
  refine q12.t (.int .i64 (srE D)) (ex_assign rfl (q12.e (j := 20) rfl)) fun _ q13 => ?_;clear q12
  refine wpList_nil ?_
  go_upto_region 3 with fail
  refine wp_region_lit ?_
  refine q13.t (.int .i64 (srE D)) (ex_move rfl (q13.e (j := 5) rfl)) fun _ q14 => ?_;clear q13
  refine q14.t (.bool (!decide (srE D = 0))) (ex_bin rfl (q14.e (j := 21) rfl) rfl (neqE18 _ _ _ _ _)) fun _ q15 => ?_;clear q14
  have q16 := ((((((Rp.nil q15.z).cons (q15.a 0 rfl)).cons (q15.a 2 rfl)).cons (q15.a 4 rfl)).cons (q15.a 5 rfl)).cons (q15.a 22 rfl))
  clear q15
  refine wpList_nil ?_
  have hsk := srE_8 h8
  have b02 := b1.trans (b2.mono z1)
  by_cases he : srE D = 0
  · have q16x := q16.a 22 rfl
    rw [he] at q16x
    have hA := srA_0 he
    have hk0 : kchk D = 0 := hsk.symm.trans he
    rw [hA] at q16
    have hmay := (kcA_ok [] D hk0).1
    go_upto_region 5 with fail
    refine wp_cond_false (ev q16x rfl) ?_
    clear q16x
    go_upto_region 5 with fail
    refine wp_region_lit ?_
    refine q16.t (.bool true) (ex_assign rfl rfl) fun _ q17 => ?_;clear q16
    refine wpList_nil ?_
    go_upto_region 6 with fail
    refine wp_region_lit ?_
    refine q17.t (.int .i64 ((0 : Nat) : Int)) (ex_assign rfl rfl) fun _ q18 => ?_;clear q17
    have q19 := (((((Rp.nil q18.z).cons (q18.a 0 rfl)).cons (q18.a 4 rfl)).cons (q18.a 6 rfl)).cons (q18.a 7 rfl))
    clear q18
    refine wpList_nil ?_
    go_upto_region 7 with fail
    refine v_loop 7 D.length (fun j T wr => Rp T 69 [(7, gw true (.int .i64 (j : Int))), (6, gw true (.bool (lcl D j))), (4, gw true (.bool (lst D).isSome)), (0, gw true (.slice a1 D.length c1))] ∧ Hid (Below w2.heap.size w2 wr ∧ True)) (fun j T w h => h.1.a 7 rfl) ⟨q19, Below.refl _ _, trivial⟩ ?_
    clear q19
    intro j T wr hj hh
    obtain ⟨q100, HJ⟩ := hh
    obtain ⟨br, _⟩ := HJ.out
    clear HJ
    have zr := br.size
    have s3 : SlY yK wr a1 D.length c1 D := (s1.later b2).later br
    have b0r : Below w.heap.size w wr := b02.trans (br.mono (by omega))
    by_cases hit : j < D.length
    · obtain ⟨x, hx⟩ : ∃ x, D[j]? = some x := ⟨_, List.getElem?_eq_getElem hit⟩
      obtain ⟨qa, oa, hqa, hqal, hlie⟩ := s3.place (by rintro rfl; simp at hit)
      have hxD := List.mem_of_getElem? hx
      have hms := may_slot (hmay x hxD) (hkr x hxD)
      have hsl : slR D x.o.s = (D.filter (slP x.o.s), 0) := by unfold slR; rw [if_neg (by simp [hk0]), if_neg (by omega)]
      have hua := lcl_at hx
      obtain ⟨F, hF⟩ : ∃ F, F = D.filter (slP x.o.s) := ⟨_, rfl⟩
      rw [← hF] at hsl hua
      have hFl : F.length ≤ D.length := by rw [hF]; exact List.length_filter_le _ _
      have hFf : ∀ x ∈ F, x.fits := fun y hy => hfd y (by rw [hF] at hy; exact (List.mem_filter.1 hy).1)
      have hFk : kchk F = 0 := by rw [hF]; exact kchk_filter hk0 _
      have hFe : srE F = 0 := (srE_8 (by omega)).trans hFk
      have hFA := srA_0 hFe
      clear hF
      go_upto_region 7 with fail
      refine wp_region_lit ?_
      refine q100.t (.int .i64 (j : Int)) (ex_move rfl (q100.e (j := 7) rfl)) fun _ q101 => ?_;clear q100
      refine q101.t (.slice a1 D.length c1) (ex_move rfl (q101.e (j := 0) rfl)) fun _ q102 => ?_;clear q101
      refine q102.t (.int .i64 (D.length : Int)) (ex_len18 rfl rfl (q102.e (j := 31) rfl)) fun _ q103 => ?_;clear q102
      refine q103.t (.bool true) (ex_bin rfl (q103.e (j := 30) rfl) (q103.e (j := 32) rfl) (ltT _ _ hit _)) fun _ q104 => ?_;clear q103
      refine wpList_nil ?_
      go_upto_region 9 with fail
      refine wp_cond_true (q104.e (j := 33) rfl) ?_
      go_upto_region 9 with fail
      refine wp_region_lit ?_
      refine q104.t (.slice a1 D.length c1) (ex_move rfl (q104.e (j := 0) rfl)) fun _ q105 => ?_;clear q104
      refine q105.t (.slice a1 D.length c1) (ex_move rfl (q105.e (j := 0) rfl)) fun _ q106 => ?_;clear q105
      refine q106.t (.int .i64 (j : Int)) (ex_move rfl (q106.e (j := 7) rfl)) fun _ q107 => ?_;clear q106
      refine q107.t (.pointer (some ⟨qa, oa + j * 10, none⟩)) (ex_ix rfl (q107.e (j := 38) rfl) (q107.e (j := 39) rfl) (by rw [hqa]; exact ixK qa oa D.length c1 j hit _)) fun _ q108 => ?_;clear q107
      refine q108.t (.pointer (some ⟨qa, oa + j * 10 + 2, none⟩)) (ex_fa rfl (q108.e (j := 40) rfl) (faK2c _ _ _)) fun _ q109 => ?_;clear q108
      refine q109.t (.pointer (some ⟨qa, oa + j * 10 + 2 + 1, none⟩)) (ex_fa rfl (q109.e (j := 41) rfl) (faO1 _ _ _)) fun _ q110 => ?_;clear q109
      refine q110.t (.int .i64 x.o.s) (ex_ld rfl (q110.e (j := 42) rfl) (ldI18 (hlie j x hx 3 _ rfl))) fun _ q111 => ?_;clear q110
      refine vcallP (want_none rfl) (ex_call rfl (by simp only [List.map_toArray, List.map_cons, List.map_nil, (q111.e (j := 37) rfl), (q111.e (j := 43) rfl), evc] <;> rfl) rfl) (slot18 D a1 c1 x.o.s wr s3 hfd (by omega) (hfd x hxD).ow.sw) rfl q111.z (by decide) ?_
      rintro e w4 ⟨v4, rfl, o4, b4⟩
      refine ⟨_, rfl, q111.k fun _ q112 => ?_⟩;clear q111
      have z4 := b4.size
      rw [hsl] at o4
      obtain ⟨a4, c4, hv4, s4, _⟩ := o4.sl kK
      subst hv4
      have s4 : SlY yK w4 a4 F.length c4 F := s4
      clear o4
      rw [hsl] at q112
      refine q112.t (.tuple #[.slice a4 F.length c4, .int .i64 0]) (ex_move rfl (q112.e (j := 44) rfl)) fun _ q113 => ?_;clear q112
      refine q113.t (.slice a4 F.length c4) (ex_ext18 rfl (q113.e (j := 36) rfl) rfl) fun _ q114 => ?_;clear q113
      refine q114.t (.int .i64 0) (ex_ext18 rfl (q114.e (j := 36) rfl) rfl) fun _ q115 => ?_;clear q114
      refine q115.t (.slice a4 F.length c4) (ex_assign rfl (q115.e (j := 45) rfl)) fun _ q116 => ?_;clear q115
      refine q116.t (.int .i64 0) (ex_assign rfl (q116.e (j := 46) rfl)) fun _ q117 => ?_;clear q116
      refine wpList_nil ?_
      go_upto_region 10 with fail
      refine wp_region_lit ?_
      refine q117.t (.slice a4 F.length c4) (ex_move rfl (q117.e (j := 8) rfl)) fun _ q118 => ?_;clear q117
      refine vcallP (want_none rfl) (ex_call rfl (by simp only [List.map_toArray, List.map_cons, List.map_nil, (q118.e (j := 48) rfl), evc] <;> rfl) rfl) (search18_any F a4 c4 w4 s4 hFf) rfl q118.z (by decide) ?_
      rintro e w5 ⟨v5, rfl, o5, b5⟩
      refine ⟨_, rfl, q118.k fun _ q119 => ?_⟩;clear q118
      have z5 := b5.size
      clear o5
      rw [hFA, hFe] at q119
      refine q119.t (.tuple #[v5, .bool (lst F).isSome, .int .i64 0]) (ex_move rfl (q119.e (j := 49) rfl)) fun _ q120 => ?_;clear q119
      refine q120.t (v5) (ex_ext18 rfl (q120.e (j := 47) rfl) rfl) fun _ q121 => ?_;clear q120
      refine q121.t (.bool (lst F).isSome) (ex_ext18 rfl (q121.e (j := 47) rfl) rfl) fun _ q122 => ?_;clear q121
      refine q122.t (.int .i64 0) (ex_ext18 rfl (q122.e (j := 47) rfl) rfl) fun _ q123 => ?_;clear q122
      refine q123.t (v5) (ex_assign rfl (q123.e (j := 50) rfl)) fun _ q124 => ?_;clear q123
      refine q124.t (.bool (lst F).isSome) (ex_assign rfl (q124.e (j := 51) rfl)) fun _ q125 => ?_;clear q124
      refine q125.t (.int .i64 0) (ex_assign rfl (q125.e (j := 52) rfl)) fun _ q126 => ?_;clear q125
      refine wpList_nil ?_
      go_upto_region 11 with fail
      refine wp_region_lit ?_
      refine q126.t (.int .i64 0) (ex_move rfl (q126.e (j := 9) rfl)) fun _ q127 => ?_;clear q126
      refine q127.t (.bool false) (ex_bin rfl (q127.e (j := 53) rfl) rfl (neEf51 _ _ _ _)) fun _ q128 => ?_;clear q127
      refine q128.t (.bool false) (ex_move rfl (q128.e (j := 54) rfl)) fun _ q129 => ?_;clear q128
      refine vl _ (.int .i64 0) (want_g rfl rfl (q129.a 55 rfl)) (fun hc => ex_move rfl (q129.e (j := 12) rfl)) rfl q129.z (by decide) (q129.k fun _ q130 => ?_);clear q129
      refine vl _ (.bool false) (want_g rfl rfl (q130.a 55 rfl)) (fun hc => ex_bin rfl (ev (q130.a 56 rfl) hc) rfl (neEf51 _ _ _ _)) rfl q130.z (by decide) (q130.k fun _ q131 => ?_);clear q130
      refine q131.t (.bool false) (ex_or (z := false) rfl (q131.a 55 rfl) (q131.a 57 rfl) rfl) fun _ q132 => ?_;clear q131
      refine wpList_nil ?_
      go_upto_region 13 with fail
      refine wp_cond_false (q132.e (j := 58) rfl) ?_
      go_upto_region 13 with fail
      refine wp_region_lit ?_
      refine q132.t (.bool (lcl D j)) (ex_move rfl (q132.e (j := 6) rfl)) fun _ q133 => ?_;clear q132
      refine q133.t (.bool (lcl D j)) (ex_move rfl (q133.e (j := 59) rfl)) fun _ q134 => ?_;clear q133
      refine vl _ (.bool (lst F).isSome) (want_g rfl rfl (q134.a 60 rfl)) (fun hc => ex_move rfl (q134.e (j := 11) rfl)) rfl q134.z (by decide) (q134.k fun _ q135 => ?_);clear q134
      refine q135.t (.bool ((lcl D j) && (lst F).isSome)) (ex_and rfl (q135.a 60 rfl) (q135.a 61 rfl) rfl) fun _ q136 => ?_;clear q135
      refine q136.t (.bool ((lcl D j) && (lst F).isSome)) (ex_assign rfl (q136.e (j := 62) rfl)) fun _ q137 => ?_;clear q136
      rw [← hua] at q137
      refine wpList_nil ?_
      go_upto_region 8 with fail
      refine wp_region_lit ?_
      refine q137.t (.int .i64 (j : Int)) (ex_move rfl (q137.e (j := 7) rfl)) fun _ q138 => ?_;clear q137
      refine q138.t (.int .i64 ((j + 1 : Nat) : Int)) (ex_bin rfl (q138.e (j := 34) rfl) rfl (add1C _ _ j (by omega) _)) fun _ q139 => ?_;clear q138
      refine q139.t (.int .i64 ((j + 1 : Nat) : Int)) (ex_assign rfl (q139.e (j := 35) rfl)) fun _ q140 => ?_;clear q139
      have q141 := (((((Rp.nil q140.z).cons (q140.a 0 rfl)).cons (q140.a 4 rfl)).cons (q140.a 6 rfl)).cons (q140.a 7 rfl))
      clear q140
      refine wpList_nil ?_
      exact ⟨_, rfl, hit, q141, br.trans ((b4.trans (b5.mono z4)).mono zr), trivial⟩
    · obtain rfl : j = D.length := by omega
      have hall := lcl_end h8 hkr
      rw [hall] at q100
      generalize (lst D).isSome = bb at *
      go_upto_region 7 with fail
      refine wp_region_lit ?_
      refine q100.t (.int .i64 (D.length : Int)) (ex_move rfl (q100.e (j := 7) rfl)) fun _ q101 => ?_;clear q100
      refine q101.t (.slice a1 D.length c1) (ex_move rfl (q101.e (j := 0) rfl)) fun _ q102 => ?_;clear q101
      refine q102.t (.int .i64 (D.length : Int)) (ex_len18 rfl rfl (q102.e (j := 31) rfl)) fun _ q103 => ?_;clear q102
      refine q103.t (.bool false) (ex_bin rfl (q103.e (j := 30) rfl) (q103.e (j := 32) rfl) (ltF _ _ hit _)) fun _ q104 => ?_;clear q103
      refine wpList_nil ?_
      go_upto_region 14 with fail
      refine wp_cond_false (q104.e (j := 33) rfl) ?_
      go_upto_region 14 with fail
      refine wp_region_lit ?_
      refine vcallP (want_none rfl) (ex_call (args := #[]) rfl (by simp) rfl) (works18_any wr) rfl q104.z (by decide) ?_
      rintro e w5 ⟨rfl, b5⟩
      refine ⟨_, rfl, q104.k fun _ q105 => ?_⟩;clear q104
      have z5 := b5.size
      refine q105.t (.bool true) (ex_move rfl (q105.e (j := 63) rfl)) fun _ q106 => ?_;clear q105
      refine vl _ (.bool bb) (want_g rfl rfl (q106.a 64 rfl)) (fun hc => ex_move rfl (q106.e (j := 4) rfl)) rfl q106.z (by decide) (q106.k fun _ q107 => ?_);clear q106
      refine vl _ (.bool bb) (want_g rfl rfl (q107.a 64 rfl)) (fun hc => ex_move rfl (q107.e (j := 6) rfl)) rfl q107.z (by decide) (q107.k fun _ q108 => ?_);clear q107
      refine vl _ (.bool true) (want_g rfl rfl (q108.a 64 rfl)) (fun hc => ex_bin rfl (ev (q108.a 65 rfl) hc) (ev (q108.a 66 rfl) hc) (eqBt51 _ _ _ _)) rfl q108.z (by decide) (q108.k fun _ q109 => ?_);clear q108
      refine q109.t (.bool true) (ex_and (z := true) rfl (q109.a 64 rfl) (q109.a 67 rfl) rfl) fun _ q110 => ?_;clear q109
      refine q110.t (.bool true) (ex_assign rfl (q110.e (j := 68) rfl)) fun _ q111 => ?_;clear q110
      refine wpList_nil ?_
      go_wp2
      refine bodyPost_ret (results_tmp rfl _ _ _) rfl ?_
      rw [getD_of (q111.a 2 rfl)]
      exact ⟨rfl, b0r.trans (b5.mono b0r.size)⟩
  · have q16x := q16.a 22 rfl
    rw [decide_eq_false he] at q16x
    rw [hsk] at q16
    go_upto_region 4 with fail
    refine wp_cond_true (ev q16x rfl) ?_
    clear q16x
    go_upto_region 4 with fail
    refine wp_region_lit ?_
    refine vcallP (want_none rfl) (ex_call (args := #[]) rfl (by simp) rfl) (works18_any w2) rfl q16.z (by decide) ?_
    rintro e w3 ⟨rfl, b3⟩
    refine ⟨_, rfl, q16.k fun _ q17 => ?_⟩;clear q16
    have z3 := b3.size
    have s3 : SlY yK w3 a1 D.length c1 D := (s1.later b2).later b3
    refine q17.t (.bool true) (ex_move rfl (q17.e (j := 23) rfl)) fun _ q18 => ?_;clear q17
    refine vl _ (.int .i64 (kchk D)) (want_g rfl rfl (q18.a 24 rfl)) (fun hc => ex_move rfl (q18.e (j := 5) rfl)) rfl q18.z (by decide) (q18.k fun _ q19 => ?_);clear q18
    refine vl _ (.slice a1 D.length c1) (want_g rfl rfl (q19.a 24 rfl)) (fun hc => ex_move rfl (q19.e (j := 0) rfl)) rfl q19.z (by decide) (q19.k fun _ q20 => ?_);clear q19
    refine vcallP (show Region.wanted _ _ = (true && (true == true)) from want_g rfl rfl (q20.a 24 rfl)) (ex_call rfl (by simp only [List.map_toArray, List.map_cons, List.map_nil, (ev (q20.a 26 rfl) rfl), evc] <;> rfl) rfl) (check18_any D a1 c1 w3 s3 hfd) rfl q20.z (by decide) ?_
    rintro e w4 ⟨rfl, b4⟩
    refine ⟨_, rfl, q20.k fun _ q21 => ?_⟩;clear q20
    have z4 := b4.size
    refine vl _ (.bool true) (want_g rfl rfl (q21.a 24 rfl)) (fun hc => ex_bin rfl (ev (q21.a 25 rfl) hc) (q21.e (j := 27) rfl) (eqEt51 _ _ _ _)) rfl q21.z (by decide) (q21.k fun _ q22 => ?_);clear q21
    refine q22.t (.bool true) (ex_and (z := true) rfl (q22.a 24 rfl) (q22.a 28 rfl) rfl) fun _ q23 => ?_;clear q22
    refine q23.t (.bool true) (ex_assign rfl (q23.e (j := 29) rfl)) fun _ q24 => ?_;clear q23
    refine wpList_nil ?_
    go_wp2
    refine bodyPost_ret (results_tmp rfl _ _ _) rfl ?_
    rw [getD_of (q24.a 2 rfl)]
    exact ⟨rfl, b02.trans (b3.mono b02.size) |>.trans (b4.mono (by have := b02.size; omega))⟩
theorem local_came18 (a : Option Addr) (n c : Nat) (W : World) (h : CameKl W a n c) :
    Calls Try.prog 4 #[.slice a n c] W fun e w' => e = .returned (.bool true) ∧ Below W.heap.size W w' := by
  obtain ⟨l, h, hf, hb⟩ := h
  have hl := h.len
  subst hl
  exact local18 l a c W h (by omega) hf
end Go.Proofs.Ytffpmpclcblnbaa
