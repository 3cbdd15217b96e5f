import Derived.Test.YtjodieiaccfkiaaS9
namespace Go.Proofs.Ytjodieiaccfkiaa
open Go.RowKit Go.Maps
open Classical
set_option linter.unusedVariables false
set_option linter.unusedSimpArgs false

set_option maxRecDepth 100000 in
set_option maxHeartbeats 2000000 in
theorem rparse19 (t : ByteArray) (w : World) :
    Calls Try.prog 16 #[.string t] w fun e w' => ∃ r : List Int × Int × Int, e = .returned (.tuple #[.agg (r.1.map bV).toArray, .int .i64 r.2.1, .int .i64 r.2.2]) ∧ PS (txt t) r ∧ Below w.heap.size w w' := by
  go_enter Try.func16, Try.ntmps16
  go_upto_region 0 with fail
  refine wp_region_lit ?_
  refine vl_gen (fun T => Rp T 43 [(0, gw true (.string t))]) ((Rp.nil rfl).cons rfl) (fun Z0 q0 => ?_)
  obtain ⟨w1, hw1⟩ : ∃ y, y = w.alloc (.cells (z32.map bV).toArray 32) := ⟨_, rfl⟩
  refine vw (.pointer (some ⟨w.heap.size, 0, none⟩)) w1 (want_none rfl) (ex_al rfl (by rw [hw1]; exact alH _)) rfl q0.z (by decide) (q0.k fun _ q1 => ?_);clear q0
  have Bw1 : BB w1 w.heap.size 32 (z32.map bV) := by rw [hw1]; exact BB.new _ _ _
  have bw1 : Below w.heap.size w w1 := by rw [hw1]; exact (Below.refl _ _).alloc (Nat.le_refl _) _
  have zw1 : w1.heap.size = w.heap.size + 1 := by rw [hw1]; exact World.size_alloc _ _
  clear hw1
  refine q1.t (.int .i64 0) (ex_assign rfl rfl) fun _ q2 => ?_;clear q1
  refine q2.t (.int .i64 0) (ex_assign rfl rfl) fun _ q3 => ?_;clear q2
  refine wpList_nil ?_
  go_upto_region 1 with fail
  refine wp_region_lit ?_
  obtain ⟨w2, hw2⟩ : ∃ y, y = w1.alloc (.cells (z32.map bV).toArray 32) := ⟨_, rfl⟩
  refine vw (.pointer (some ⟨w1.heap.size, 0, none⟩)) w2 (want_none rfl) (ex_al rfl (by rw [hw2]; exact alH _)) rfl q3.z (by decide) (q3.k fun _ q4 => ?_);clear q3
  have Bw2 : BB w2 w1.heap.size 32 (z32.map bV) := by rw [hw2]; exact BB.new _ _ _
  have bw2 : Below w1.heap.size w1 w2 := by rw [hw2]; exact (Below.refl _ _).alloc (Nat.le_refl _) _
  have zw2 : w2.heap.size = w1.heap.size + 1 := by rw [hw2]; exact World.size_alloc _ _
  clear hw2
  refine wpList_nil ?_
  go_upto_region 2 with fail
  refine wp_region_lit ?_
  refine q4.t (.int .i64 ((0 : Nat) : Int)) (ex_assign rfl rfl) fun _ q5 => ?_;clear q4
  have q6 := (((((Rp.nil q5.z).cons (q5.a 0 rfl)).cons (q5.a 2 rfl)).cons (q5.a 5 rfl)).cons (q5.a 6 rfl))
  clear q5
  refine wpList_nil ?_
  go_upto_region 3 with fail
  have Bq := Bw1.later bw2
  have bw : Below w.heap.size w w2 := bw1.trans (bw2.mono (by omega))
  refine v_loop 6 64 (fun j T wr => Rp T 43 [(6, gw true (.int .i64 ((j : Nat) : Int))), (5, gw true (.pointer (some ⟨w1.heap.size, 0, none⟩))), (2, gw true (.pointer (some ⟨w.heap.size, 0, none⟩))), (0, gw true (.string t))] ∧ Hid (BB wr w1.heap.size 32 ((hS9 (txt t) j).map bV) ∧ BB wr w.heap.size 32 (z32.map bV) ∧ Below w.heap.size w wr ∧ j ≤ (txt t).length ∧ ∀ i, i < j → 0 ≤ vl9 ((txt t).getD i 0))) (fun j T w h => h.1.a 6 rfl) ⟨q6, Bw2, Bq, bw, by omega, fun i hi => by omega⟩ ?_
  clear q6 Bw2 Bq
  intro j T wr hj hh
  obtain ⟨q100, HJ⟩ := hh
  obtain ⟨B3, B2, br, hjl, hgd⟩ := HJ.out
  clear HJ
  have zr := br.size
  have hl := hS9_len (txt t) j
  by_cases hit : j < 64
  · go_upto_region 3 with fail
    refine wp_region_lit ?_
    refine q100.t (.int .i64 ((j : Nat) : Int)) (ex_move rfl (q100.e (j := 6) rfl)) fun _ q101 => ?_;clear q100
    refine q101.t (.bool true) (ex_bin rfl (q101.e (j := 7) rfl) rfl (ltT _ _ hit _)) fun _ q102 => ?_;clear q101
    refine wpList_nil ?_
    go_upto_region 5 with fail
    refine wp_cond_true (q102.e (j := 8) rfl) ?_
    go_upto_region 5 with fail
    refine wp_region_lit ?_
    refine q102.t (.int .i64 ((j : Nat) : Int)) (ex_move rfl (q102.e (j := 6) rfl)) fun _ q103 => ?_;clear q102
    refine q103.t (.string t) (ex_move rfl (q103.e (j := 0) rfl)) fun _ q104 => ?_;clear q103
    refine q104.t (.int .i64 (((txt t).length : Nat) : Int)) (lenS9 rfl rfl (q104.e (j := 12) rfl)) fun _ q105 => ?_;clear q104
    refine q105.t (.bool (decide (((j : Nat) : Int) = (((txt t).length : Nat) : Int)))) (ex_bin rfl (q105.e (j := 11) rfl) (q105.e (j := 13) rfl) (eqlC _ _ _ _ _)) fun _ q106 => ?_;clear q105
    by_cases hje : j = (txt t).length
    · rw [decide_eq_true (by omega)] at q106
      refine q106.t (.bool true) (ex_move rfl (q106.e (j := 14) rfl)) fun _ q107 => ?_;clear q106
      refine vl (true && (true == false)) (undef) (want_g rfl rfl (q107.a 15 rfl)) (fun hc => absurd hc (by decide)) rfl q107.z (by decide) (q107.k fun _ q108 => ?_);clear q107
      refine vl (true && (true == false)) (undef) (want_g rfl rfl (q108.a 15 rfl)) (fun hc => absurd hc (by decide)) rfl q108.z (by decide) (q108.k fun _ q109 => ?_);clear q108
      refine vl (true && (true == false)) (undef) (want_g rfl rfl (q109.a 15 rfl)) (fun hc => absurd hc (by decide)) rfl q109.z (by decide) (q109.k fun _ q110 => ?_);clear q109
      refine vl (true && (true == false)) (undef) (want_g rfl rfl (q110.a 15 rfl)) (fun hc => absurd hc (by decide)) rfl q110.z (by decide) (q110.k fun _ q111 => ?_);clear q110
      refine vl (true && (true == false)) (.bool true) (want_g rfl rfl (q111.a 15 rfl)) (fun hc => absurd hc (by decide)) rfl q111.z (by decide) (q111.k fun _ q112 => ?_);clear q111
      refine q112.t (.bool true) (ex_or (z := true) rfl (q112.a 15 rfl) (q112.a 20 rfl) rfl) fun _ q113 => ?_;clear q112
      have q113x := q113.a 21 rfl
      refine wpList_nil ?_
      go_upto_region 6 with fail
      refine wp_cond_true (ev q113x rfl) ?_
      clear q113x
      go_upto_region 6 with fail
      refine wp_region_lit ?_
      refine q113.t (.agg (z32.map bV).toArray) (ex_build rfl (zrH _)) fun _ q114 => ?_;clear q113
      refine q114.t (.int .i64 ((j : Nat) : Int)) (ex_move rfl (q114.e (j := 6) rfl)) fun _ q115 => ?_;clear q114
      obtain ⟨d3, hd3⟩ : ∃ y, y = wr.setCells w.heap.size 0 (z32.map bV) := ⟨_, rfl⟩
      refine vs d3 (want_none rfl) (ex_st rfl (q115.e (j := 2) rfl) (q115.e (j := 22) rfl) (by rw [hd3]; exact B2.st 32 _ rfl (by rw [List.size_toArray, z32_m]; exact i32h) (one_b _))) rfl ?_
      have Bd3 : BB d3 w.heap.size 32 (z32.map bV) := by rw [hd3]; exact B2.whole _ rfl
      have ud3 : Upd (fun k => k = w.heap.size) wr d3 := by rw [hd3]; exact upd18 _ _ _ _
      clear hd3
      have bd3 : Below w.heap.size w d3 := br.trans (bel_ge ud3 br.size (Nat.le_refl _))
      refine q115.t (.int .i64 190) (ex_assign rfl rfl) fun _ q116 => ?_;clear q115
      refine q116.t (.int .i64 ((j : Nat) : Int)) (ex_assign rfl (q116.e (j := 23) rfl)) fun _ q117 => ?_;clear q116
      refine wpList_nil ?_
      go_wp2
      exact res3 Bd3 rfl (q117.a 2 rfl) (q117.a 3 rfl) (q117.a 4 rfl) Try.underlying32 rfl (by rw [z32_m]; exact i32h) ⟨(z32, 190, (j : Int)), rfl, .inr ⟨fun i hi => hgd i (by omega), .inl ⟨by omega, by rw [show min (txt t).length 64 = j by omega]⟩⟩, bd3⟩
    · rw [decide_eq_false (by omega)] at q106
      have hjl2 : j < (txt t).length := by omega
      obtain ⟨c0, c1⟩ := txt_in t j
      obtain ⟨c, hc⟩ : ∃ c, c = (txt t).getD j 0 := ⟨_, rfl⟩
      rw [← hc] at c0 c1
      have hidx := fun W => idxS t .i64 j hjl2 W
      rw [← hc] at hidx
      have hv16 := vl9_lt c
      refine q106.t (.bool false) (ex_move rfl (q106.e (j := 14) rfl)) fun _ q107 => ?_;clear q106
      refine vl (true && (false == false)) (.string t) (want_g rfl rfl (q107.a 15 rfl)) (fun hc => ex_move rfl (q107.e (j := 0) rfl)) rfl q107.z (by decide) (q107.k fun _ q108 => ?_);clear q107
      refine vl (true && (false == false)) (.int .i64 ((j : Nat) : Int)) (want_g rfl rfl (q108.a 15 rfl)) (fun hc => ex_move rfl (q108.e (j := 6) rfl)) rfl q108.z (by decide) (q108.k fun _ q109 => ?_);clear q108
      refine vl (true && (false == false)) (.int .u8 (c)) (want_g rfl rfl (q109.a 15 rfl)) (fun hc => ex_index9 rfl (q109.e (j := 16) rfl) (q109.e (j := 17) rfl) (hidx _)) rfl q109.z (by decide) (q109.k fun _ q110 => ?_);clear q109
      refine vcallP (show Region.wanted _ _ = (true && (false == false)) from want_g rfl rfl (q110.a 15 rfl)) (ex_call rfl (by simp only [List.map_toArray, List.map_cons, List.map_nil, (q110.e (j := 18) rfl), evc] <;> rfl) rfl) (digit19 c c0 c1 wr) rfl q110.z (by decide) ?_
      rintro e wr ⟨rfl, rfl⟩
      refine ⟨_, rfl, q110.k fun _ q111 => ?_⟩;clear q110
      refine vl (true && (false == false)) (.bool (decide (vl9 c < 0))) (want_g rfl rfl (q111.a 15 rfl)) (fun hc => ex_bin rfl (q111.e (j := 19) rfl) rfl (lssC _ _ _ _ _)) rfl q111.z (by decide) (q111.k fun _ q112 => ?_);clear q111
      refine q112.t (.bool (decide (vl9 c < 0))) (ex_or (z := decide (vl9 c < 0)) rfl (q112.a 15 rfl) (q112.a 20 rfl) rfl) fun _ q113 => ?_;clear q112
      have q114 := ((((((Rp.nil q113.z).cons (q113.a 0 rfl)).cons (q113.a 2 rfl)).cons (q113.a 5 rfl)).cons (q113.a 6 rfl)).cons (q113.a 21 rfl))
      clear q113
      refine wpList_nil ?_
      by_cases hv : 0 ≤ vl9 c
      · have q114x := q114.a 21 rfl
        rw [decide_eq_false (by omega)] at q114x
        have hj2 : j / 2 < 32 := by omega
        go_upto_region 7 with fail
        refine wp_cond_false (ev q114x rfl) ?_
        clear q114x
        go_upto_region 7 with fail
        refine vg_start (fun k => k == 14) (fun v => v = wr.drew) (by kernel_rfl) ?_
        have hd : Below wr.heap.size wr wr.drew := (Below.refl _ _).drew
        have hzd : wr.drew.heap.size = wr.heap.size := rfl
        generalize wr.drew = d at *
        have B3d := B3.later hd
        have B2d := B2.later hd
        have cj := B3d.v9 (j := j / 2) (by omega)
        refine vg_takeW 0 true (.int .i64 ((j : Nat) : Int)) rfl (by kernel_rfl) (by kernel_rfl) (by kernel_rfl) (by kernel_rfl) (want_none rfl) (fun hc v => ex_move rfl (q114.e (j := 6) rfl)) rfl q114.z (by decide) (fun _ => rfl) (q114.k fun _ q115 => ?_);clear q114
        refine vg_takeW 1 true (.int .i64 ((j / 2 : Nat) : Int)) rfl (by kernel_rfl) (by kernel_rfl) (by kernel_rfl) (by kernel_rfl) (want_none rfl) (fun hc v => ex_bin rfl (q115.e (j := 24) rfl) rfl (quoC _ _ j 2 (by decide) (by omega) _)) rfl q115.z (by decide) (fun _ => rfl) (q115.k fun _ q116 => ?_);clear q115
        refine vg_takeW 2 true (.int .i64 ((j : Nat) : Int)) rfl (by kernel_rfl) (by kernel_rfl) (by kernel_rfl) (by kernel_rfl) (want_none rfl) (fun hc v => ex_move rfl (q116.e (j := 6) rfl)) rfl q116.z (by decide) (fun _ => rfl) (q116.k fun _ q117 => ?_);clear q116
        refine vg_takeW 3 true (.int .i64 ((j / 2 : Nat) : Int)) rfl (by kernel_rfl) (by kernel_rfl) (by kernel_rfl) (by kernel_rfl) (want_none rfl) (fun hc v => ex_bin rfl (q117.e (j := 26) rfl) rfl (quoC _ _ j 2 (by decide) (by omega) _)) rfl q117.z (by decide) (fun _ => rfl) (q117.k fun _ q118 => ?_);clear q117
        refine vg_takeW 4 true (.pointer (some ⟨w1.heap.size, (j / 2), none⟩)) rfl (by kernel_rfl) (by kernel_rfl) (by kernel_rfl) (by kernel_rfl) (want_none rfl) (fun hc v => ex_ix rfl (q118.e (j := 5) rfl) (q118.e (j := 27) rfl) (ixA0 w1.heap.size (j / 2) 32 32 5 Try.underlying32 i1b hj2 _)) rfl q118.z (by decide) (fun _ => rfl) (q118.k fun _ q119 => ?_);clear q118
        refine vg_take 5 true (.int .u8 ((hS9 (txt t) j).getD (j / 2) 0)) rfl (by kernel_rfl) (by kernel_rfl) (by kernel_rfl) (by kernel_rfl) (by kernel_rfl) (by kernel_rfl) (want_none rfl) (fun hc v hv => by subst hv; exact ex_ld rfl (q119.e (j := 28) rfl) (ld8 cj)) rfl q119.z (by decide) rfl (q119.k fun _ q120 => ?_);clear q119
        refine vg_takeW 6 true (.int .u8 (IntKind.u8.wrap ((hS9 (txt t) j).getD (j / 2) 0 * 16))) rfl (by kernel_rfl) (by kernel_rfl) (by kernel_rfl) (by kernel_rfl) (want_none rfl) (fun hc v => ex_bin rfl (q120.e (j := 29) rfl) rfl (mul8 _ _ _ _ _)) rfl q120.z (by decide) (fun _ => rfl) (q120.k fun _ q121 => ?_);clear q120
        refine vg_takeW 7 true (.string t) rfl (by kernel_rfl) (by kernel_rfl) (by kernel_rfl) (by kernel_rfl) (want_none rfl) (fun hc v => ex_move rfl (q121.e (j := 0) rfl)) rfl q121.z (by decide) (fun _ => rfl) (q121.k fun _ q122 => ?_);clear q121
        refine vg_takeW 8 true (.int .i64 ((j : Nat) : Int)) rfl (by kernel_rfl) (by kernel_rfl) (by kernel_rfl) (by kernel_rfl) (want_none rfl) (fun hc v => ex_move rfl (q122.e (j := 6) rfl)) rfl q122.z (by decide) (fun _ => rfl) (q122.k fun _ q123 => ?_);clear q122
        refine vg_takeW 9 true (.int .u8 (c)) rfl (by kernel_rfl) (by kernel_rfl) (by kernel_rfl) (by kernel_rfl) (want_none rfl) (fun hc v => ex_index9 rfl (q123.e (j := 31) rfl) (q123.e (j := 32) rfl) (hidx _)) rfl q123.z (by decide) (fun _ => rfl) (q123.k fun _ q124 => ?_);clear q123
        refine vg_call 10 rfl (by kernel_rfl) (want_none rfl) (ex_call rfl (by simp only [List.map_toArray, List.map_cons, List.map_nil, (q124.e (j := 33) rfl), evc] <;> rfl) rfl) (digit19 c c0 c1 d) rfl q124.z (by decide) ?_
        rintro e d ⟨rfl, rfl⟩
        refine ⟨_, rfl, rfl, q124.k fun _ q125 => ?_⟩;clear q124
        refine vg_takeW 11 true (.int .u8 (IntKind.u8.wrap (vl9 c))) rfl (by kernel_rfl) (by kernel_rfl) (by kernel_rfl) (by kernel_rfl) (want_none rfl) (fun hc v => ex_cv19 rfl (q125.e (j := 34) rfl) (cvI_8 _ _)) rfl q125.z (by decide) (fun _ => rfl) (q125.k fun _ q126 => ?_);clear q125
        refine vg_takeW 12 true (.int .u8 (((hS9 (txt t) j).getD (j / 2) 0 * 16 + vl9 c) % 256)) rfl (by kernel_rfl) (by kernel_rfl) (by kernel_rfl) (by kernel_rfl) (want_none rfl) (fun hc v => ex_bin rfl (q126.e (j := 30) rfl) (q126.e (j := 35) rfl) (by rw [add8, show IntKind.u8.wrap (IntKind.u8.wrap ((hS9 (txt t) j).getD (j / 2) 0 * 16) + IntKind.u8.wrap (vl9 c)) = ((hS9 (txt t) j).getD (j / 2) 0 * 16 + vl9 c) % 256 from by rw [IntKind.wrap_u8, IntKind.wrap_u8, IntKind.wrap_u8]; omega])) rfl q126.z (by decide) (fun _ => rfl) (q126.k fun _ q127 => ?_);clear q126
        refine vg_takeW 13 true (.pointer (some ⟨w1.heap.size, (j / 2), none⟩)) rfl (by kernel_rfl) (by kernel_rfl) (by kernel_rfl) (by kernel_rfl) (want_none rfl) (fun hc v => ex_ix rfl (q127.e (j := 5) rfl) (q127.e (j := 25) rfl) (ixA0 w1.heap.size (j / 2) 32 32 5 Try.underlying32 i1b hj2 _)) rfl q127.z (by decide) (fun _ => rfl) (q127.k fun _ q128 => ?_);clear q127
        obtain ⟨d2, hd2⟩ : ∃ z, z = d.setCell ⟨w1.heap.size, j / 2, none⟩ (.int .u8 (((hS9 (txt t) j).getD (j / 2) 0 * 16 + vl9 c) % 256)) := ⟨_, rfl⟩
        refine vg_store 14 d2 rfl (by kernel_rfl) (by kernel_rfl) (want_none rfl) (ex_st rfl (q128.e (j := 37) rfl) (q128.e (j := 36) rfl) (by rw [hd2]; exact st8 cj (B3d.free _))) rfl ?_
        have B3e : BB d2 w1.heap.size 32 ((hS9 (txt t) (j + 1)).map bV) := by rw [hd2, hc]; exact B3d.setv _ _
        have ue : Upd (fun k => k = w1.heap.size) d d2 := by rw [hd2]; exact upd1 _ _ _ _
        have B2e := B2d.upd ue (by omega)
        have be : Below w.heap.size w d2 := (br.trans (hd.mono zr)).trans (bel_ge ue (by omega) (by omega))
        clear hd2
        refine vg_done (by kernel_rfl) ?_
        have q129 := (((((Rp.nil q128.z).cons (q128.a 0 rfl)).cons (q128.a 2 rfl)).cons (q128.a 5 rfl)).cons (q128.a 6 rfl))
        clear q128
        go_upto_region 4 with fail
        refine wp_region_lit ?_
        refine q129.t (.int .i64 ((j : Nat) : Int)) (ex_move rfl (q129.e (j := 6) rfl)) fun _ q130 => ?_;clear q129
        refine q130.t (.int .i64 ((j + 1 : Nat) : Int)) (ex_bin rfl (q130.e (j := 9) rfl) rfl (add1C _ _ j (by omega) _)) fun _ q131 => ?_;clear q130
        refine q131.t (.int .i64 ((j + 1 : Nat) : Int)) (ex_assign rfl (q131.e (j := 10) rfl)) fun _ q132 => ?_;clear q131
        have q133 := (((((Rp.nil q132.z).cons (q132.a 0 rfl)).cons (q132.a 2 rfl)).cons (q132.a 5 rfl)).cons (q132.a 6 rfl))
        clear q132
        refine wpList_nil ?_
        exact ⟨_, rfl, hit, q133, B3e, B2e, be, hjl2, (fun i hi => (Nat.lt_or_ge i j).elim (hgd i) (fun h => by have e : i = j := (by omega); rw [e, ← hc]; exact hv))⟩
      · have q114x := q114.a 21 rfl
        rw [decide_eq_true (by omega)] at q114x
        go_upto_region 6 with fail
        refine wp_cond_true (ev q114x rfl) ?_
        clear q114x
        go_upto_region 6 with fail
        refine wp_region_lit ?_
        refine q114.t (.agg (z32.map bV).toArray) (ex_build rfl (zrH _)) fun _ q115 => ?_;clear q114
        refine q115.t (.int .i64 ((j : Nat) : Int)) (ex_move rfl (q115.e (j := 6) rfl)) fun _ q116 => ?_;clear q115
        obtain ⟨d3, hd3⟩ : ∃ y, y = wr.setCells w.heap.size 0 (z32.map bV) := ⟨_, rfl⟩
        refine vs d3 (want_none rfl) (ex_st rfl (q116.e (j := 2) rfl) (q116.e (j := 22) rfl) (by rw [hd3]; exact B2.st 32 _ rfl (by rw [List.size_toArray, z32_m]; exact i32h) (one_b _))) rfl ?_
        have Bd3 : BB d3 w.heap.size 32 (z32.map bV) := by rw [hd3]; exact B2.whole _ rfl
        have ud3 : Upd (fun k => k = w.heap.size) wr d3 := by rw [hd3]; exact upd18 _ _ _ _
        clear hd3
        have bd3 : Below w.heap.size w d3 := br.trans (bel_ge ud3 br.size (Nat.le_refl _))
        refine q116.t (.int .i64 190) (ex_assign rfl rfl) fun _ q117 => ?_;clear q116
        refine q117.t (.int .i64 ((j : Nat) : Int)) (ex_assign rfl (q117.e (j := 23) rfl)) fun _ q118 => ?_;clear q117
        refine wpList_nil ?_
        go_wp2
        exact res3 Bd3 rfl (q118.a 2 rfl) (q118.a 3 rfl) (q118.a 4 rfl) Try.underlying32 rfl (by rw [z32_m]; exact i32h) ⟨(z32, 190, (j : Int)), rfl, .inl ⟨j, by omega, hgd, by rw [← hc]; omega, rfl⟩, bd3⟩
  · obtain rfl : j = 64 := by omega
    have hgm : ∀ i, i < min (txt t).length 64 → 0 ≤ vl9 ((txt t).getD i 0) := fun i hi => hgd i (by omega)
    go_upto_region 3 with fail
    refine wp_region_lit ?_
    refine q100.t (.int .i64 ((64 : Nat) : Int)) (ex_move rfl (q100.e (j := 6) rfl)) fun _ q101 => ?_;clear q100
    refine q101.t (.bool false) (ex_bin rfl (q101.e (j := 7) rfl) rfl (ltF _ _ hit _)) fun _ q102 => ?_;clear q101
    refine wpList_nil ?_
    go_upto_region 8 with fail
    refine wp_cond_false (q102.e (j := 8) rfl) ?_
    go_upto_region 8 with fail
    refine wp_region_lit ?_
    refine q102.t (.string t) (ex_move rfl (q102.e (j := 0) rfl)) fun _ q103 => ?_;clear q102
    refine q103.t (.int .i64 (((txt t).length : Nat) : Int)) (lenS9 rfl rfl (q103.e (j := 38) rfl)) fun _ q104 => ?_;clear q103
    refine q104.t (.bool (decide ((64 : Int) < (((txt t).length : Nat) : Int)))) (ex_bin rfl (q104.e (j := 39) rfl) rfl (gtrC _ _ _ _ _)) fun _ q105 => ?_;clear q104
    have q106 := ((((Rp.nil q105.z).cons (q105.a 2 rfl)).cons (q105.a 5 rfl)).cons (q105.a 40 rfl))
    clear q105
    refine wpList_nil ?_
    by_cases h64 : (txt t).length = 64
    · have q106x := q106.a 40 rfl
      rw [decide_eq_false (by omega)] at q106x
      have hm : ((hS9 (txt t) 64).map bV).length = 32 := by rw [len_bV]; exact hS9_len _ _
      obtain ⟨H, hH⟩ : ∃ H, H = hS9 (txt t) 64 := ⟨_, rfl⟩
      rw [← hH] at hm B3
      go_upto_region 10 with fail
      refine wp_cond_false (ev q106x rfl) ?_
      clear q106x
      go_upto_region 10 with fail
      refine wp_region_lit ?_
      refine q106.t (.agg (H.map bV).toArray) (ex_ld rfl (q106.e (j := 5) rfl) (B3.ld 32 Try.underlying32 rfl (by rw [hm]; exact i32h))) fun _ q107 => ?_;clear q106
      obtain ⟨d3, hd3⟩ : ∃ y, y = wr.setCells w.heap.size 0 (H.map bV) := ⟨_, rfl⟩
      refine vs d3 (want_none rfl) (ex_st rfl (q107.e (j := 2) rfl) (q107.e (j := 42) rfl) (by rw [hd3]; exact B2.st 32 _ (by rw [hm, z32_m]) (by rw [List.size_toArray, hm]; exact i32h) (one_b _))) rfl ?_
      have Bd3 : BB d3 w.heap.size 32 (H.map bV) := by rw [hd3]; exact B2.whole _ (by rw [hm, z32_m])
      have ud3 : Upd (fun k => k = w.heap.size) wr d3 := by rw [hd3]; exact upd18 _ _ _ _
      clear hd3
      have bd3 : Below w.heap.size w d3 := br.trans (bel_ge ud3 br.size (Nat.le_refl _))
      refine q107.t (.int .i64 0) (ex_assign rfl rfl) fun _ q108 => ?_;clear q107
      refine q108.t (.int .i64 0) (ex_assign rfl rfl) fun _ q109 => ?_;clear q108
      refine wpList_nil ?_
      go_wp2
      exact res3 Bd3 rfl (q109.a 2 rfl) (q109.a 3 rfl) (q109.a 4 rfl) Try.underlying32 rfl (by rw [hm]; exact i32h) ⟨(H, 0, 0), rfl, .inr ⟨hgm, .inr ⟨h64, by rw [hH]⟩⟩, bd3⟩
    · have q106x := q106.a 40 rfl
      rw [decide_eq_true (by omega)] at q106x
      go_upto_region 9 with fail
      refine wp_cond_true (ev q106x rfl) ?_
      clear q106x
      go_upto_region 9 with fail
      refine wp_region_lit ?_
      refine q106.t (.agg (z32.map bV).toArray) (ex_build rfl (zrH _)) fun _ q107 => ?_;clear q106
      obtain ⟨d3, hd3⟩ : ∃ y, y = wr.setCells w.heap.size 0 (z32.map bV) := ⟨_, rfl⟩
      refine vs d3 (want_none rfl) (ex_st rfl (q107.e (j := 2) rfl) (q107.e (j := 41) rfl) (by rw [hd3]; exact B2.st 32 _ rfl (by rw [List.size_toArray, z32_m]; exact i32h) (one_b _))) rfl ?_
      have Bd3 : BB d3 w.heap.size 32 (z32.map bV) := by rw [hd3]; exact B2.whole _ rfl
      have ud3 : Upd (fun k => k = w.heap.size) wr d3 := by rw [hd3]; exact upd18 _ _ _ _
      clear hd3
      have bd3 : Below w.heap.size w d3 := br.trans (bel_ge ud3 br.size (Nat.le_refl _))
      refine q107.t (.int .i64 190) (ex_assign rfl rfl) fun _ q108 => ?_;clear q107
      refine q108.t (.int .i64 64) (ex_assign rfl rfl) fun _ q109 => ?_;clear q108
      refine wpList_nil ?_
      go_wp2
      exact res3 Bd3 rfl (q109.a 2 rfl) (q109.a 3 rfl) (q109.a 4 rfl) Try.underlying32 rfl (by rw [z32_m]; exact i32h) ⟨(z32, 190, 64), rfl, .inr ⟨hgm, .inl ⟨h64, by rw [show min (txt t).length 64 = 64 by omega]; rfl⟩⟩, bd3⟩

end Go.Proofs.Ytjodieiaccfkiaa
