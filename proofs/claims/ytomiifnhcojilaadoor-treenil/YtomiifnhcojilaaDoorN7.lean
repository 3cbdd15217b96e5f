import Derived.Test.YtomiifnhcojilaaDoorN6
set_option maxRecDepth 100000
set_option linter.unusedVariables false
set_option linter.unusedSimpArgs false
namespace Go.Proofs.YtomiifnhcojilaaDoor
open Go.RowKit Go.Maps
open Classical
set_option maxRecDepth 1000000 in
theorem bdT20 (w : World) : (Instr.build 56 #[]).run Tryd.prog w = .ok (.agg (tcs (.slice none 0 0) (List.replicate 63 zH)).toArray) w := by kernel_rfl
theorem bxT20 (v : Value) (E : List Hs) (w : World) : (Instr.box 56 (.agg (tcs v E).toArray)).run Tryd.prog w = .ok (.pointer (some ⟨w.heap.size, 0, none⟩)) (w.alloc (.cells (tcs v E).toArray 56)) := rfl
theorem bdz5_20 (w : World) : (Instr.build 29 #[]).run Tryd.prog w = .ok yE.z.val20 w := by kernel_rfl
def e1z : En := ⟨0, 1, ⟨0, 0, ByteArray.empty⟩⟩
theorem bd1_20 (w : World) : (Instr.build 29 #[(1, .int .i64 1)]).run Tryd.prog w = .ok e1z.val20 w := by kernel_rfl
theorem tv_new {w w1 : World} (h : BB w1 w.heap.size 56 (tcs (.slice none 0 0) (List.replicate 63 zH))) (hz : w1.heap.size = w.heap.size + 1) : TV w1 (w.heap.size + 1) w.heap.size (.slice none 0 0) [] (List.replicate 63 zH) := ⟨⟨h, by simp⟩, OwnY.nil _ _ _, by omega, by omega⟩
theorem tv_bel {w w1 w2 : World} {B q : Nat} {v : Value} {L E : List Hs} (h : TV w1 B q v L E) (d : Below w.heap.size w w1) (hq : w.heap.size ≤ q) (u : Upd (fun k => k = q ∨ v.ownBlock = some k) w1 w2) : Below w.heap.size w w2 := d.trans (u.below d.size (fun k hk => by
  rcases hk with e | e
  · omega
  · have := (h.own.blk k e).1
    have := h.lt
    omega))
theorem rcS20 {V : Value} {w : World} {L : List Hs} (h : Rc V w L) : Calls Tryd.prog 12 #[V] w (fun e w' => e = .returned (.int .i64 ((L.length : Nat) : Int)) ∧ w' = w) := by
  obtain ⟨a, c, hr⟩ := h
  exact (hr w (Below.refl _ _)).1
set_option maxHeartbeats 2000000 in
theorem nil20 (w : World) (ht : Tb w) :
    Calls Tryd.prog 5 #[] w fun e w' => e = .returned (.bool true) ∧ Below w.heap.size w w' := by
  go_enter Tryd.func5, Tryd.ntmps5
  go_upto_region 0 with fail
  refine wp_region_lit ?_
  refine vl_gen (fun T => Rp T 122 []) (Rp.nil rfl) (fun Z0 q0 => ?_)
  refine q0.t (.bool false) (ex_assign rfl rfl) fun _ q1 => ?_;clear q0
  refine wpList_nil ?_
  go_upto_region 1 with fail
  refine wp_region_lit ?_
  refine q1.t (.agg (tcs (.slice none 0 0) (List.replicate 63 zH)).toArray) (ex_build rfl (bdT20 _)) fun _ q2 => ?_;clear q1
  obtain ⟨w1, hw1⟩ : ∃ y, y = w.alloc (.cells (tcs (.slice none 0 0) (List.replicate 63 zH)).toArray 56) := ⟨_, rfl⟩
  refine vw (.pointer (some ⟨w.heap.size, 0, none⟩)) w1 (want_none rfl) (ex_box18 rfl (q2.e (j := 16) rfl) (by rw [hw1]; exact bxT20 _ _ _)) rfl q2.z (by decide) (q2.k fun _ q3 => ?_);clear q2
  have B1 : BB w1 w.heap.size 56 (tcs (.slice none 0 0) (List.replicate 63 zH)) := by rw [hw1]; exact BB.new _ _ _
  have b1 : Below w.heap.size w w1 := by rw [hw1]; exact (Below.refl _ _).alloc (Nat.le_refl _) _
  have z1 : w1.heap.size = w.heap.size + 1 := by rw [hw1]; exact World.size_alloc _ _
  clear hw1
  have V1 := tv_new B1 z1
  clear B1
  refine q3.t (.pointer (some ⟨w.heap.size, 0, none⟩)) (ex_assign rfl (q3.e (j := 17) rfl)) fun _ q4 => ?_;clear q3
  have q5 := ((Rp.nil q4.z).cons (q4.a 1 rfl))
  clear q4
  refine wpList_nil ?_
  have d1 : Below w.heap.size w w1 := b1
  go_upto_region 2 with fail
  refine wp_region_lit ?_
  refine q5.t (.pointer (some ⟨w.heap.size, 0, none⟩)) (ex_move rfl (q5.e (j := 1) rfl)) fun _ q6 => ?_;clear q5
  refine vcallP (want_none rfl) (ex_call rfl (by simp only [List.map_toArray, List.map_cons, List.map_nil, (q6.e (j := 18) rfl), evc] <;> rfl) rfl) (headAt20 (.pointer (some ⟨w.heap.size, 0, none⟩)) ([] : List Hs) 0 (by decide) (Nat.le_refl _) w1 V1.rc (by simp)) rfl q6.z (by decide) ?_
  rintro e w101 ⟨rfl, bw101⟩
  refine ⟨_, rfl, q6.k fun _ q7 => ?_⟩;clear q6
  have zw101 := bw101.size
  have d102 : Below w.heap.size w w101 := d1.trans (bw101.mono d1.size)
  refine wpList_nil ?_
  go_upto_region 3 with fail
  refine wp_region_lit ?_
  refine q7.t (.pointer (some ⟨w.heap.size, 0, none⟩)) (ex_move rfl (q7.e (j := 1) rfl)) fun _ q8 => ?_;clear q7
  refine vcallP (want_none rfl) (ex_call rfl (by simp only [List.map_toArray, List.map_cons, List.map_nil, (q8.e (j := 20) rfl), evc] <;> rfl) rfl) (tinclB20 (.pointer (some ⟨w.heap.size, 0, none⟩)) ([] : List Hs) 1 1 (by decide) w101 (V1.later bw101).rc (by simp)) rfl q8.z (by decide) ?_
  rintro e w103 ⟨rfl, bw103⟩
  refine ⟨_, rfl, q8.k fun _ q9 => ?_⟩;clear q8
  have zw103 := bw103.size
  have d104 : Below w.heap.size w w103 := d102.trans (bw103.mono d102.size)
  refine wpList_nil ?_
  go_upto_region 4 with fail
  refine wp_region_lit ?_
  refine q9.t (.pointer (some ⟨w.heap.size, 0, none⟩)) (ex_move rfl (q9.e (j := 1) rfl)) fun _ q10 => ?_;clear q9
  refine vcallP (want_none rfl) (ex_call rfl (by simp only [List.map_toArray, List.map_cons, List.map_nil, (q10.e (j := 22) rfl), evc] <;> rfl) rfl) (tcons20 (.pointer (some ⟨w.heap.size, 0, none⟩)) ([] : List Hs) 0 0 (by decide) (Nat.le_refl _) w103 ((V1.later bw101).later bw103).rc (by simp)) rfl q10.z (by decide) ?_
  rintro e w105 ⟨vv1, rfl, oo1, bw105⟩
  refine ⟨_, rfl, q10.k fun _ q11 => ?_⟩;clear q10
  have zw105 := bw105.size
  have d106 : Below w.heap.size w w105 := d104.trans (bw105.mono d104.size)
  have ee1 : csR (([] : List Hs).take 0) 0 = ([], 0) := by simp [csR]
  rw [ee1] at oo1 q11
  obtain ⟨aa1, cc1, hv1, _, _, _⟩ := oo1.form
  subst hv1
  clear oo1
  refine wpList_nil ?_
  go_upto_region 5 with fail
  refine wp_region_lit ?_
  have Ta := (((V1.later bw101).later bw103).later bw105)
  refine q11.t (.pointer (some ⟨w.heap.size, 0, none⟩)) (ex_move rfl (q11.e (j := 1) rfl)) fun _ q12 => ?_;clear q11
  refine q12.t (yE.z.val20) (ex_build rfl (bdz5_20 _)) fun _ q13 => ?_;clear q12
  refine vcallP (want_none rfl) (ex_call rfl (by simp only [List.map_toArray, List.map_cons, List.map_nil, (q13.e (j := 24) rfl), (q13.e (j := 25) rfl), evc] <;> rfl) rfl) (add20 _ _ _ ([] : List Hs) _ yE.z w105 Ta (by simp) (by decide)) rfl q13.z (by decide) ?_
  rintro e wa ⟨rfl, va, Va, Ua, _⟩
  refine ⟨_, rfl, q13.k fun _ q14 => ?_⟩;clear q13
  have za := Ua.size
  have da : Below w.heap.size w wa := tv_bel Ta d106 (Nat.le_refl _) Ua
  clear Ua Ta
  have q15 := ((Rp.nil q14.z).cons (q14.a 1 rfl))
  clear q14
  refine wpList_nil ?_
  go_upto_region 6 with fail
  refine wp_region_lit ?_
  have Tb := Va
  refine q15.t (.pointer (some ⟨w.heap.size, 0, none⟩)) (ex_move rfl (q15.e (j := 1) rfl)) fun _ q16 => ?_;clear q15
  refine q16.t (e1z.val20) (ex_buildP18 (P := #[(1, .int .i64 1)]) rfl (by simp only [List.map_toArray, List.map_cons, List.map_nil, evc] <;> rfl) (bd1_20 _)) fun _ q17 => ?_;clear q16
  refine vcallP (want_none rfl) (ex_call rfl (by simp only [List.map_toArray, List.map_cons, List.map_nil, (q17.e (j := 27) rfl), (q17.e (j := 28) rfl), evc] <;> rfl) rfl) (add20 _ _ _ (([] : List Hs) ++ [lf yE.z]) _ e1z wa Tb (by simp) (by decide)) rfl q17.z (by decide) ?_
  rintro e wb ⟨rfl, vb, Vb, Ub, _⟩
  refine ⟨_, rfl, q17.k fun _ q18 => ?_⟩;clear q17
  have zb := Ub.size
  have db : Below w.heap.size w wb := tv_bel Tb da (Nat.le_refl _) Ub
  clear Ub Tb
  have q19 := ((Rp.nil q18.z).cons (q18.a 1 rfl))
  clear q18
  refine wpList_nil ?_
  go_upto_region 7 with fail
  refine wp_region_lit ?_
  refine q19.t (.pointer (some ⟨w.heap.size, 0, none⟩)) (ex_move rfl (q19.e (j := 1) rfl)) fun _ q20 => ?_;clear q19
  refine vcallP (want_none rfl) (ex_call rfl (by simp only [List.map_toArray, List.map_cons, List.map_nil, (q20.e (j := 30) rfl), evc] <;> rfl) rfl) (rcS20 Vb.rc) rfl q20.z (by decide) ?_
  rintro e w107 ⟨rfl, hw107⟩
  refine ⟨_, rfl, q20.k fun _ q21 => ?_⟩;clear q20
  have hw107 := hw107.symm
  subst hw107
  refine wpList_nil ?_
  go_upto_region 8 with fail
  refine wp_region_lit ?_
  refine q21.t (.pointer (some ⟨w.heap.size, 0, none⟩)) (ex_move rfl (q21.e (j := 1) rfl)) fun _ q22 => ?_;clear q21
  refine vcallP (want_none rfl) (ex_call rfl (by simp only [List.map_toArray, List.map_cons, List.map_nil, (q22.e (j := 32) rfl), evc] <;> rfl) rfl) (thead20 _ _ _ ((([] : List Hs) ++ [lf yE.z]) ++ [lf e1z]) _ wb Vb (ht.of_below db ht.lt) (by simp) (by simp)) rfl q22.z (by decide) ?_
  rintro e w108 ⟨rfl, bw108⟩
  refine ⟨_, rfl, q22.k fun _ q23 => ?_⟩;clear q22
  have zw108 := bw108.size
  have d109 : Below w.heap.size w w108 := db.trans (bw108.mono db.size)
  refine wpList_nil ?_
  go_upto_region 9 with fail
  refine wp_region_lit ?_
  refine q23.t (.pointer none) (ex_assign rfl rfl) fun _ q24 => ?_;clear q23
  refine wpList_nil ?_
  go_upto_region 10 with fail
  refine wp_region_lit ?_
  refine vcallP (want_none rfl) (ex_call rfl (by simp only [List.map_toArray, List.map_cons, List.map_nil, evc] <;> rfl) rfl) (head20 [] none 0 0 w108 ((OwnY.nil yE w108.heap.size w108).sl' kE) (by omega) (by simp)) rfl q24.z (by decide) ?_
  rintro e w110 ⟨rfl, bw110⟩
  refine ⟨_, rfl, q24.k fun _ q25 => ?_⟩;clear q24
  have zw110 := bw110.size
  have d111 : Below w.heap.size w w110 := d109.trans (bw110.mono d109.size)
  obtain ⟨w112, hw112⟩ : ∃ y, y = w110.alloc (.cells (zH.cs).toArray 38) := ⟨_, rfl⟩
  refine vw (.pointer (some ⟨w110.heap.size, 0, none⟩)) w112 (want_none rfl) (ex_al rfl (by rw [hw112]; exact alH _)) rfl q25.z (by decide) (q25.k fun _ q26 => ?_);clear q25
  have Bw112 : BB w112 w110.heap.size 38 (zH.cs) := by rw [hw112]; exact BB.new _ _ _
  have bw112 : Below w110.heap.size w110 w112 := by rw [hw112]; exact (Below.refl _ _).alloc (Nat.le_refl _) _
  have zw112 : w112.heap.size = w110.heap.size + 1 := by rw [hw112]; exact World.size_alloc _ _
  clear hw112
  have d113 : Below w.heap.size w w112 := d111.trans (bw112.mono d111.size)
  obtain ⟨w114, hw114⟩ : ∃ y, y = w112.setCells w110.heap.size 0 ((hd (([] : List En).map lf)).cs) := ⟨_, rfl⟩
  refine vs w114 (want_none rfl) (ex_st rfl (q26.e (j := 3) rfl) (q26.e (j := 34) rfl) (by rw [hw114]; exact Bw112.stH rfl _)) rfl ?_
  have Bw114 : BB w114 w110.heap.size 38 ((hd (([] : List En).map lf)).cs) := by rw [hw114]; exact Bw112.putH rfl _
  have uw114 : Upd (fun k => k = w110.heap.size) w112 w114 := by rw [hw114]; exact upd18 _ _ _ _
  clear hw114
  have zw114 := uw114.size
  have d115 : Below w.heap.size w w114 := d113.trans (bel_ge uw114 d113.size (by omega))
  refine wpList_nil ?_
  go_upto_region 11 with fail
  refine wp_region_lit ?_
  refine q26.t (.pointer none) (ex_move rfl (q26.e (j := 2) rfl)) fun _ q27 => ?_;clear q26
  refine vcallP (want_none rfl) (ex_call rfl (by simp only [List.map_toArray, List.map_cons, List.map_nil, (q27.e (j := 36) rfl), evc] <;> rfl) rfl) (headAt20 (.pointer none) ([] : List Hs) 0 (by decide) (Nat.le_refl _) w114 (rc_nil w114) (by simp)) rfl q27.z (by decide) ?_
  rintro e w116 ⟨rfl, bw116⟩
  refine ⟨_, rfl, q27.k fun _ q28 => ?_⟩;clear q27
  have zw116 := bw116.size
  have d117 : Below w.heap.size w w116 := d115.trans (bw116.mono d115.size)
  refine q28.t (.tuple #[(hd (([] : List Hs).take 0)).val, .int .i64 (0 : Int)]) (ex_move rfl (q28.e (j := 37) rfl)) fun _ q29 => ?_;clear q28
  refine q29.t ((hd (([] : List Hs).take 0)).val) (ex_ext18 rfl (q29.e (j := 35) rfl) rfl) fun _ q30 => ?_;clear q29
  refine q30.t (.int .i64 (0 : Int)) (ex_ext18 rfl (q30.e (j := 35) rfl) rfl) fun _ q31 => ?_;clear q30
  obtain ⟨w118, hw118⟩ : ∃ y, y = w116.alloc (.cells (zH.cs).toArray 38) := ⟨_, rfl⟩
  refine vw (.pointer (some ⟨w116.heap.size, 0, none⟩)) w118 (want_none rfl) (ex_al rfl (by rw [hw118]; exact alH _)) rfl q31.z (by decide) (q31.k fun _ q32 => ?_);clear q31
  have Bw118 : BB w118 w116.heap.size 38 (zH.cs) := by rw [hw118]; exact BB.new _ _ _
  have bw118 : Below w116.heap.size w116 w118 := by rw [hw118]; exact (Below.refl _ _).alloc (Nat.le_refl _) _
  have zw118 : w118.heap.size = w116.heap.size + 1 := by rw [hw118]; exact World.size_alloc _ _
  clear hw118
  have d119 : Below w.heap.size w w118 := d117.trans (bw118.mono d117.size)
  obtain ⟨w120, hw120⟩ : ∃ y, y = w118.setCells w116.heap.size 0 ((hd (([] : List Hs).take 0)).cs) := ⟨_, rfl⟩
  refine vs w120 (want_none rfl) (ex_st rfl (q32.e (j := 4) rfl) (q32.e (j := 38) rfl) (by rw [hw120]; exact Bw118.stH rfl _)) rfl ?_
  have Bw120 : BB w120 w116.heap.size 38 ((hd (([] : List Hs).take 0)).cs) := by rw [hw120]; exact Bw118.putH rfl _
  have uw120 : Upd (fun k => k = w116.heap.size) w118 w120 := by rw [hw120]; exact upd18 _ _ _ _
  clear hw120
  have zw120 := uw120.size
  have d121 : Below w.heap.size w w120 := d119.trans (bel_ge uw120 d119.size (by omega))
  refine q32.t (.int .i64 (0 : Int)) (ex_assign rfl (q32.e (j := 39) rfl)) fun _ q33 => ?_;clear q32
  refine wpList_nil ?_
  go_upto_region 12 with fail
  refine wp_region_lit ?_
  refine q33.t (.pointer none) (ex_move rfl (q33.e (j := 2) rfl)) fun _ q34 => ?_;clear q33
  refine vcallP (want_none rfl) (ex_call rfl (by simp only [List.map_toArray, List.map_cons, List.map_nil, (q34.e (j := 41) rfl), evc] <;> rfl) rfl) (headAtB20 (.pointer none) ([] : List Hs) 1 (by decide) w120 (rc_nil w120) (by simp)) rfl q34.z (by decide) ?_
  rintro e w122 ⟨rfl, bw122⟩
  refine ⟨_, rfl, q34.k fun _ q35 => ?_⟩;clear q34
  have zw122 := bw122.size
  have d123 : Below w.heap.size w w122 := d121.trans (bw122.mono d121.size)
  refine q35.t (.tuple #[zH.val, .int .i64 (200 : Int)]) (ex_move rfl (q35.e (j := 42) rfl)) fun _ q36 => ?_;clear q35
  refine q36.t (zH.val) (ex_ext18 rfl (q36.e (j := 40) rfl) rfl) fun _ q37 => ?_;clear q36
  refine q37.t (.int .i64 (200 : Int)) (ex_ext18 rfl (q37.e (j := 40) rfl) rfl) fun _ q38 => ?_;clear q37
  obtain ⟨w124, hw124⟩ : ∃ y, y = w122.alloc (.cells (zH.cs).toArray 38) := ⟨_, rfl⟩
  refine vw (.pointer (some ⟨w122.heap.size, 0, none⟩)) w124 (want_none rfl) (ex_al rfl (by rw [hw124]; exact alH _)) rfl q38.z (by decide) (q38.k fun _ q39 => ?_);clear q38
  have Bw124 : BB w124 w122.heap.size 38 (zH.cs) := by rw [hw124]; exact BB.new _ _ _
  have bw124 : Below w122.heap.size w122 w124 := by rw [hw124]; exact (Below.refl _ _).alloc (Nat.le_refl _) _
  have zw124 : w124.heap.size = w122.heap.size + 1 := by rw [hw124]; exact World.size_alloc _ _
  clear hw124
  have d125 : Below w.heap.size w w124 := d123.trans (bw124.mono d123.size)
  obtain ⟨w126, hw126⟩ : ∃ y, y = w124.setCells w122.heap.size 0 (zH.cs) := ⟨_, rfl⟩
  refine vs w126 (want_none rfl) (ex_st rfl (q39.e (j := 6) rfl) (q39.e (j := 43) rfl) (by rw [hw126]; exact Bw124.stH rfl _)) rfl ?_
  have Bw126 : BB w126 w122.heap.size 38 (zH.cs) := by rw [hw126]; exact Bw124.putH rfl _
  have uw126 : Upd (fun k => k = w122.heap.size) w124 w126 := by rw [hw126]; exact upd18 _ _ _ _
  clear hw126
  have zw126 := uw126.size
  have d127 : Below w.heap.size w w126 := d125.trans (bel_ge uw126 d125.size (by omega))
  refine q39.t (.int .i64 (200 : Int)) (ex_assign rfl (q39.e (j := 44) rfl)) fun _ q40 => ?_;clear q39
  refine wpList_nil ?_
  go_upto_region 13 with fail
  refine wp_region_lit ?_
  refine q40.t (.pointer none) (ex_move rfl (q40.e (j := 2) rfl)) fun _ q41 => ?_;clear q40
  refine vcallP (want_none rfl) (ex_call rfl (by simp only [List.map_toArray, List.map_cons, List.map_nil, (q41.e (j := 46) rfl), evc] <;> rfl) rfl) (tincl20 (.pointer none) ([] : List Hs) 1 0 (by decide) (Nat.le_refl _) w126 (rc_nil w126) (by simp)) rfl q41.z (by decide) ?_
  rintro e w128 ⟨vv2, rfl, oo2, bw128⟩
  refine ⟨_, rfl, q41.k fun _ q42 => ?_⟩;clear q41
  have zw128 := bw128.size
  have d129 : Below w.heap.size w w128 := d127.trans (bw128.mono d127.size)
  have ee2 : inR (([] : List Hs).take 0) 1 = ([], 61) := by simp [inR]
  rw [ee2] at oo2 q42
  obtain ⟨aa2, cc2, hv2, _, _, _⟩ := oo2.form
  subst hv2
  clear oo2
  refine q42.t (.tuple #[.slice aa2 0 cc2, .int .i64 (61 : Int)]) (ex_move rfl (q42.e (j := 47) rfl)) fun _ q43 => ?_;clear q42
  refine q43.t (.slice aa2 0 cc2) (ex_ext18 rfl (q43.e (j := 45) rfl) rfl) fun _ q44 => ?_;clear q43
  refine q44.t (.int .i64 (61 : Int)) (ex_ext18 rfl (q44.e (j := 45) rfl) rfl) fun _ q45 => ?_;clear q44
  refine q45.t (.slice aa2 0 cc2) (ex_assign rfl (q45.e (j := 48) rfl)) fun _ q46 => ?_;clear q45
  refine q46.t (.int .i64 (61 : Int)) (ex_assign rfl (q46.e (j := 49) rfl)) fun _ q47 => ?_;clear q46
  refine wpList_nil ?_
  go_upto_region 14 with fail
  refine wp_region_lit ?_
  refine q47.t (.pointer none) (ex_move rfl (q47.e (j := 2) rfl)) fun _ q48 => ?_;clear q47
  refine vcallP (want_none rfl) (ex_call rfl (by simp only [List.map_toArray, List.map_cons, List.map_nil, (q48.e (j := 51) rfl), evc] <;> rfl) rfl) (tcons20 (.pointer none) ([] : List Hs) 0 0 (by decide) (Nat.le_refl _) w128 (rc_nil w128) (by simp)) rfl q48.z (by decide) ?_
  rintro e w130 ⟨vv3, rfl, oo3, bw130⟩
  refine ⟨_, rfl, q48.k fun _ q49 => ?_⟩;clear q48
  have zw130 := bw130.size
  have d131 : Below w.heap.size w w130 := d129.trans (bw130.mono d129.size)
  have ee3 : csR (([] : List Hs).take 0) 0 = ([], 0) := by simp [csR]
  rw [ee3] at oo3 q49
  obtain ⟨aa3, cc3, hv3, _, _, _⟩ := oo3.form
  subst hv3
  clear oo3
  refine q49.t (.tuple #[.slice aa3 0 cc3, .int .i64 (0 : Int)]) (ex_move rfl (q49.e (j := 52) rfl)) fun _ q50 => ?_;clear q49
  refine q50.t (.slice aa3 0 cc3) (ex_ext18 rfl (q50.e (j := 50) rfl) rfl) fun _ q51 => ?_;clear q50
  refine q51.t (.int .i64 (0 : Int)) (ex_ext18 rfl (q51.e (j := 50) rfl) rfl) fun _ q52 => ?_;clear q51
  refine q52.t (.slice aa3 0 cc3) (ex_assign rfl (q52.e (j := 53) rfl)) fun _ q53 => ?_;clear q52
  refine q53.t (.int .i64 (0 : Int)) (ex_assign rfl (q53.e (j := 54) rfl)) fun _ q54 => ?_;clear q53
  refine wpList_nil ?_
  go_upto_region 15 with fail
  refine wp_region_lit ?_
  refine q54.t (.pointer none) (ex_move rfl (q54.e (j := 2) rfl)) fun _ q55 => ?_;clear q54
  refine vcallP (want_none rfl) (ex_call rfl (by simp only [List.map_toArray, List.map_cons, List.map_nil, (q55.e (j := 56) rfl), evc] <;> rfl) rfl) (tinclB20 (.pointer none) ([] : List Hs) 1 1 (by decide) w130 (rc_nil w130) (by simp)) rfl q55.z (by decide) ?_
  rintro e w132 ⟨rfl, bw132⟩
  refine ⟨_, rfl, q55.k fun _ q56 => ?_⟩;clear q55
  have zw132 := bw132.size
  have d133 : Below w.heap.size w w132 := d131.trans (bw132.mono d131.size)
  refine q56.t (.tuple #[.slice none 0 0, .int .i64 (200 : Int)]) (ex_move rfl (q56.e (j := 57) rfl)) fun _ q57 => ?_;clear q56
  refine q57.t (.slice none 0 0) (ex_ext18 rfl (q57.e (j := 55) rfl) rfl) fun _ q58 => ?_;clear q57
  refine q58.t (.int .i64 (200 : Int)) (ex_ext18 rfl (q58.e (j := 55) rfl) rfl) fun _ q59 => ?_;clear q58
  refine q59.t (.slice none 0 0) (ex_assign rfl (q59.e (j := 58) rfl)) fun _ q60 => ?_;clear q59
  refine q60.t (.int .i64 (200 : Int)) (ex_assign rfl (q60.e (j := 59) rfl)) fun _ q61 => ?_;clear q60
  refine wpList_nil ?_
  go_upto_region 16 with fail
  refine wp_region_lit ?_
  refine q61.t (.pointer none) (ex_move rfl (q61.e (j := 2) rfl)) fun _ q62 => ?_;clear q61
  refine vcallP (want_none rfl) (ex_call rfl (by simp only [List.map_toArray, List.map_cons, List.map_nil, (q62.e (j := 61) rfl), evc] <;> rfl) rfl) (tcons20 (.pointer none) ([] : List Hs) 1 0 (by decide) (Nat.le_refl _) w132 (rc_nil w132) (by simp)) rfl q62.z (by decide) ?_
  rintro e w134 ⟨vv4, rfl, oo4, bw134⟩
  refine ⟨_, rfl, q62.k fun _ q63 => ?_⟩;clear q62
  have zw134 := bw134.size
  have d135 : Below w.heap.size w w134 := d133.trans (bw134.mono d133.size)
  have ee4 : csR (([] : List Hs).take 0) 1 = ([], 200) := by simp [csR]
  rw [ee4] at oo4 q63
  obtain ⟨aa4, cc4, hv4, _, _, _⟩ := oo4.form
  subst hv4
  clear oo4
  refine q63.t (.tuple #[.slice aa4 0 cc4, .int .i64 (200 : Int)]) (ex_move rfl (q63.e (j := 62) rfl)) fun _ q64 => ?_;clear q63
  refine q64.t (.slice aa4 0 cc4) (ex_ext18 rfl (q64.e (j := 60) rfl) rfl) fun _ q65 => ?_;clear q64
  refine q65.t (.int .i64 (200 : Int)) (ex_ext18 rfl (q65.e (j := 60) rfl) rfl) fun _ q66 => ?_;clear q65
  refine q66.t (.slice aa4 0 cc4) (ex_assign rfl (q66.e (j := 63) rfl)) fun _ q67 => ?_;clear q66
  refine q67.t (.int .i64 (200 : Int)) (ex_assign rfl (q67.e (j := 64) rfl)) fun _ q68 => ?_;clear q67
  refine wpList_nil ?_
  go_upto_region 17 with fail
  have B136 : BB w134 w110.heap.size 38 ((hd (([] : List En).map lf)).cs) := ((((((((((Bw114.later bw116).later bw118).upd uw120 (show ¬ w110.heap.size = w116.heap.size by omega)).later bw122).later bw124).upd uw126 (show ¬ w110.heap.size = w122.heap.size by omega)).later bw128).later bw130).later bw132).later bw134)
  have B137 : BB w134 w116.heap.size 38 ((hd (([] : List Hs).take 0)).cs) := (((((((Bw120.later bw122).later bw124).upd uw126 (show ¬ w116.heap.size = w122.heap.size by omega)).later bw128).later bw130).later bw132).later bw134)
  refine vp_start 122 (fun T v => Rp T 122 [(2, gw true (.pointer none)), (3, gw true (.pointer (some ⟨w110.heap.size, 0, none⟩))), (4, gw true (.pointer (some ⟨w116.heap.size, 0, none⟩))), (5, gw true (.int .i64 (0 : Int))), (7, gw true (.int .i64 (200 : Int))), (8, gw true (.slice aa2 0 cc2)), (9, gw true (.int .i64 (61 : Int))), (10, gw true (.slice aa3 0 cc3)), (11, gw true (.int .i64 (0 : Int))), (13, gw true (.int .i64 (200 : Int))), (15, gw true (.int .i64 (200 : Int)))] ∧ Upd (fun k => False) w134 v) (fun (i : Nat) (T : Array Value) (v : World) => match i with | 0 => T[65]? = some (gw true (.bool true)) | 1 => T[66]? = some (gw true (.bool true)) | 2 => T[67]? = some (gw (true && (true == true)) (.pointer none)) | 3 => T[68]? = some (gw (true && (true == true)) (yE.z.val20)) | 4 => T[69]? = some (gw (true && (true == true)) (.int .i64 (0 : Int))) | 5 => T[70]? = some (gw (true && (true == true)) (.bool true)) | 6 => T[71]? = some (gw true (.bool true)) | 7 => T[72]? = some (gw true (.bool true)) | 8 => T[73]? = some (gw (true && (true == true)) (.pointer none)) | 9 => T[74]? = some (gw (true && (true == true)) (.int .i64 ((0 : Nat) : Int))) | 10 => T[75]? = some (gw (true && (true == true)) (.bool true)) | 11 => T[76]? = some (gw true (.bool true)) | 12 => T[77]? = some (gw true (.bool true)) | 13 => T[78]? = some (gw (true && (true == true)) (.pointer none)) | 14 => T[79]? = some (gw (true && (true == true)) ((hd []).val)) | 15 => T[80]? = some (gw (true && (true == true)) ((hd (([] : List En).map lf)).val)) | 16 => T[81]? = some (gw (true && (true == true)) (.bool (decide ((hd []).v = (hd (([] : List En).map lf)).v)))) | 17 => T[82]? = some (gw true (.bool (decide ((hd []).v = (hd (([] : List En).map lf)).v)))) | 18 => T[83]? = some (gw true (.bool (decide ((hd []).v = (hd (([] : List En).map lf)).v)))) | 19 => T[84]? = some (gw (true && ((decide ((hd []).v = (hd (([] : List En).map lf)).v)) == true)) ((hd (([] : List Hs).take 0)).val)) | 20 => T[85]? = some (gw (true && ((decide ((hd []).v = (hd (([] : List En).map lf)).v)) == true)) ((hd (([] : List En).map lf)).val)) | 21 => T[86]? = some (gw (true && ((decide ((hd []).v = (hd (([] : List En).map lf)).v)) == true)) (.bool (decide ((hd (([] : List Hs).take 0)).v = (hd (([] : List En).map lf)).v)))) | 22 => T[87]? = some (gw true (.bool ((decide ((hd []).v = (hd (([] : List En).map lf)).v)) && (decide ((hd (([] : List Hs).take 0)).v = (hd (([] : List En).map lf)).v))))) | 23 => T[88]? = some (gw true (.bool ((decide ((hd []).v = (hd (([] : List En).map lf)).v)) && (decide ((hd (([] : List Hs).take 0)).v = (hd (([] : List En).map lf)).v))))) | 24 => T[89]? = some (gw (true && (((decide ((hd []).v = (hd (([] : List En).map lf)).v)) && (decide ((hd (([] : List Hs).take 0)).v = (hd (([] : List En).map lf)).v))) == true)) (.int .i64 (0 : Int))) | 25 => T[90]? = some (gw (true && (((decide ((hd []).v = (hd (([] : List En).map lf)).v)) && (decide ((hd (([] : List Hs).take 0)).v = (hd (([] : List En).map lf)).v))) == true)) (.bool true)) | 26 => T[91]? = some (gw true (.bool (((decide ((hd []).v = (hd (([] : List En).map lf)).v)) && (decide ((hd (([] : List Hs).take 0)).v = (hd (([] : List En).map lf)).v))) && true))) | 27 => T[92]? = some (gw true (.bool (((decide ((hd []).v = (hd (([] : List En).map lf)).v)) && (decide ((hd (([] : List Hs).take 0)).v = (hd (([] : List En).map lf)).v))) && true))) | 28 => T[93]? = some (gw (true && ((((decide ((hd []).v = (hd (([] : List En).map lf)).v)) && (decide ((hd (([] : List Hs).take 0)).v = (hd (([] : List En).map lf)).v))) && true) == true)) (.int .i64 (200 : Int))) | 29 => T[94]? = some (gw (true && ((((decide ((hd []).v = (hd (([] : List En).map lf)).v)) && (decide ((hd (([] : List Hs).take 0)).v = (hd (([] : List En).map lf)).v))) && true) == true)) (.bool true)) | 30 => T[95]? = some (gw true (.bool ((((decide ((hd []).v = (hd (([] : List En).map lf)).v)) && (decide ((hd (([] : List Hs).take 0)).v = (hd (([] : List En).map lf)).v))) && true) && true))) | 31 => T[96]? = some (gw true (.bool ((((decide ((hd []).v = (hd (([] : List En).map lf)).v)) && (decide ((hd (([] : List Hs).take 0)).v = (hd (([] : List En).map lf)).v))) && true) && true))) | 32 => T[97]? = some (gw (true && (((((decide ((hd []).v = (hd (([] : List En).map lf)).v)) && (decide ((hd (([] : List Hs).take 0)).v = (hd (([] : List En).map lf)).v))) && true) && true) == true)) (.slice aa2 0 cc2)) | 33 => T[98]? = some (gw (true && (((((decide ((hd []).v = (hd (([] : List En).map lf)).v)) && (decide ((hd (([] : List Hs).take 0)).v = (hd (([] : List En).map lf)).v))) && true) && true) == true)) (.int .i64 ((0 : Nat) : Int))) | 34 => T[99]? = some (gw (true && (((((decide ((hd []).v = (hd (([] : List En).map lf)).v)) && (decide ((hd (([] : List Hs).take 0)).v = (hd (([] : List En).map lf)).v))) && true) && true) == true)) (.bool true)) | 35 => T[100]? = some (gw true (.bool (((((decide ((hd []).v = (hd (([] : List En).map lf)).v)) && (decide ((hd (([] : List Hs).take 0)).v = (hd (([] : List En).map lf)).v))) && true) && true) && true))) | 36 => T[101]? = some (gw true (.bool (((((decide ((hd []).v = (hd (([] : List En).map lf)).v)) && (decide ((hd (([] : List Hs).take 0)).v = (hd (([] : List En).map lf)).v))) && true) && true) && true))) | 37 => T[102]? = some (gw (true && ((((((decide ((hd []).v = (hd (([] : List En).map lf)).v)) && (decide ((hd (([] : List Hs).take 0)).v = (hd (([] : List En).map lf)).v))) && true) && true) && true) == true)) (.int .i64 (61 : Int))) | 38 => T[103]? = some (gw (true && ((((((decide ((hd []).v = (hd (([] : List En).map lf)).v)) && (decide ((hd (([] : List Hs).take 0)).v = (hd (([] : List En).map lf)).v))) && true) && true) && true) == true)) (.bool true)) | 39 => T[104]? = some (gw true (.bool ((((((decide ((hd []).v = (hd (([] : List En).map lf)).v)) && (decide ((hd (([] : List Hs).take 0)).v = (hd (([] : List En).map lf)).v))) && true) && true) && true) && true))) | 40 => T[105]? = some (gw true (.bool ((((((decide ((hd []).v = (hd (([] : List En).map lf)).v)) && (decide ((hd (([] : List Hs).take 0)).v = (hd (([] : List En).map lf)).v))) && true) && true) && true) && true))) | 41 => T[106]? = some (gw (true && (((((((decide ((hd []).v = (hd (([] : List En).map lf)).v)) && (decide ((hd (([] : List Hs).take 0)).v = (hd (([] : List En).map lf)).v))) && true) && true) && true) && true) == true)) (.slice aa3 0 cc3)) | 42 => T[107]? = some (gw (true && (((((((decide ((hd []).v = (hd (([] : List En).map lf)).v)) && (decide ((hd (([] : List Hs).take 0)).v = (hd (([] : List En).map lf)).v))) && true) && true) && true) && true) == true)) (.int .i64 ((0 : Nat) : Int))) | 43 => T[108]? = some (gw (true && (((((((decide ((hd []).v = (hd (([] : List En).map lf)).v)) && (decide ((hd (([] : List Hs).take 0)).v = (hd (([] : List En).map lf)).v))) && true) && true) && true) && true) == true)) (.bool true)) | 44 => T[109]? = some (gw true (.bool (((((((decide ((hd []).v = (hd (([] : List En).map lf)).v)) && (decide ((hd (([] : List Hs).take 0)).v = (hd (([] : List En).map lf)).v))) && true) && true) && true) && true) && true))) | 45 => T[110]? = some (gw true (.bool (((((((decide ((hd []).v = (hd (([] : List En).map lf)).v)) && (decide ((hd (([] : List Hs).take 0)).v = (hd (([] : List En).map lf)).v))) && true) && true) && true) && true) && true))) | 46 => T[111]? = some (gw (true && ((((((((decide ((hd []).v = (hd (([] : List En).map lf)).v)) && (decide ((hd (([] : List Hs).take 0)).v = (hd (([] : List En).map lf)).v))) && true) && true) && true) && true) && true) == true)) (.int .i64 (0 : Int))) | 47 => T[112]? = some (gw (true && ((((((((decide ((hd []).v = (hd (([] : List En).map lf)).v)) && (decide ((hd (([] : List Hs).take 0)).v = (hd (([] : List En).map lf)).v))) && true) && true) && true) && true) && true) == true)) (.bool true)) | 48 => T[113]? = some (gw true (.bool ((((((((decide ((hd []).v = (hd (([] : List En).map lf)).v)) && (decide ((hd (([] : List Hs).take 0)).v = (hd (([] : List En).map lf)).v))) && true) && true) && true) && true) && true) && true))) | 49 => T[114]? = some (gw true (.bool ((((((((decide ((hd []).v = (hd (([] : List En).map lf)).v)) && (decide ((hd (([] : List Hs).take 0)).v = (hd (([] : List En).map lf)).v))) && true) && true) && true) && true) && true) && true))) | 50 => T[115]? = some (gw (true && (((((((((decide ((hd []).v = (hd (([] : List En).map lf)).v)) && (decide ((hd (([] : List Hs).take 0)).v = (hd (([] : List En).map lf)).v))) && true) && true) && true) && true) && true) && true) == true)) (.int .i64 (200 : Int))) | 51 => T[116]? = some (gw (true && (((((((((decide ((hd []).v = (hd (([] : List En).map lf)).v)) && (decide ((hd (([] : List Hs).take 0)).v = (hd (([] : List En).map lf)).v))) && true) && true) && true) && true) && true) && true) == true)) (.bool true)) | 52 => T[117]? = some (gw true (.bool (((((((((decide ((hd []).v = (hd (([] : List En).map lf)).v)) && (decide ((hd (([] : List Hs).take 0)).v = (hd (([] : List En).map lf)).v))) && true) && true) && true) && true) && true) && true) && true))) | 53 => T[118]? = some (gw true (.bool (((((((((decide ((hd []).v = (hd (([] : List En).map lf)).v)) && (decide ((hd (([] : List Hs).take 0)).v = (hd (([] : List En).map lf)).v))) && true) && true) && true) && true) && true) && true) && true))) | 54 => T[119]? = some (gw (true && ((((((((((decide ((hd []).v = (hd (([] : List En).map lf)).v)) && (decide ((hd (([] : List Hs).take 0)).v = (hd (([] : List En).map lf)).v))) && true) && true) && true) && true) && true) && true) && true) == true)) (.int .i64 (200 : Int))) | 55 => T[120]? = some (gw (true && ((((((((((decide ((hd []).v = (hd (([] : List En).map lf)).v)) && (decide ((hd (([] : List Hs).take 0)).v = (hd (([] : List En).map lf)).v))) && true) && true) && true) && true) && true) && true) && true) == true)) (.bool true)) | 56 => T[121]? = some (gw true (.bool ((((((((((decide ((hd []).v = (hd (([] : List En).map lf)).v)) && (decide ((hd (([] : List Hs).take 0)).v = (hd (([] : List En).map lf)).v))) && true) && true) && true) && true) && true) && true) && true) && true))) | 57 => T[0]? = some (gw true (.bool ((((((((((decide ((hd []).v = (hd (([] : List En).map lf)).v)) && (decide ((hd (([] : List Hs).take 0)).v = (hd (([] : List En).map lf)).v))) && true) && true) && true) && true) && true) && true) && true) && true))) | _ => True) (fun (i : Nat) (T : Array Value) (v : World) => match i with | _ => True) (fun j T k => False) (fun i => match i with | 0 => [65] | 1 => [66] | 2 => [67] | 3 => [68] | 4 => [69] | 5 => [70] | 6 => [71] | 7 => [72] | 8 => [73] | 9 => [74] | 10 => [75] | 11 => [76] | 12 => [77] | 13 => [78] | 14 => [79] | 15 => [80] | 16 => [81] | 17 => [82] | 18 => [83] | 19 => [84] | 20 => [85] | 21 => [86] | 22 => [87] | 23 => [88] | 24 => [89] | 25 => [90] | 26 => [91] | 27 => [92] | 28 => [93] | 29 => [94] | 30 => [95] | 31 => [96] | 32 => [97] | 33 => [98] | 34 => [99] | 35 => [100] | 36 => [101] | 37 => [102] | 38 => [103] | 39 => [104] | 40 => [105] | 41 => [106] | 42 => [107] | 43 => [108] | 44 => [109] | 45 => [110] | 46 => [111] | 47 => [112] | 48 => [113] | 49 => [114] | 50 => [115] | 51 => [116] | 52 => [117] | 53 => [118] | 54 => [119] | 55 => [120] | 56 => [121] | 57 => [0] | _ => []) (fun _ => []) [2, 3, 4, 5, 7, 8, 9, 10, 11, 13, 15] (fun i j => false) (fun i => false) (by kernel_rfl) (by kernel_rfl) q68.z ⟨((((((((((((Rp.nil q68.z).cons (q68.a 15 rfl)).cons (q68.a 13 rfl)).cons (q68.a 11 rfl)).cons (q68.a 10 rfl)).cons (q68.a 9 rfl)).cons (q68.a 8 rfl)).cons (q68.a 7 rfl)).cons (q68.a 5 rfl)).cons (q68.a 4 rfl)).cons (q68.a 3 rfl)).cons (q68.a 2 rfl)), (Upd.refl _ _).drew20⟩ ?_ ?_ ?_ ?_ ?_ ?_
  · exact ⟨trivial, trivial, trivial, trivial, trivial, trivial, trivial, trivial, trivial, trivial, trivial, trivial, trivial, trivial, trivial, trivial, trivial, trivial, trivial, trivial, trivial, trivial, trivial, trivial, trivial, trivial, trivial, trivial, trivial, trivial, trivial, trivial, trivial, trivial, trivial, trivial, trivial, trivial, trivial, trivial, trivial, trivial, trivial, trivial, trivial, trivial, trivial, trivial, trivial, trivial, trivial, trivial, trivial, trivial, trivial, trivial, trivial, trivial, trivial⟩
  · intro j T T2 v v2 h _ hz hk hu
    exact ⟨h.1.ch hz hk, h.2.tr20 hu (fun k hk he => he.elim)⟩
  · refine ⟨?_, ?_, ?_, ?_, ?_, ?_, ?_, ?_, ?_, ?_, ?_, ?_, ?_, ?_, ?_, ?_, ?_, ?_, ?_, ?_, ?_, ?_, ?_, ?_, ?_, ?_, ?_, ?_, ?_, ?_, ?_, ?_, ?_, ?_, ?_, ?_, ?_, ?_, ?_, ?_, ?_, ?_, ?_, ?_, ?_, ?_, ?_, ?_, ?_, ?_, ?_, ?_, ?_, ?_, ?_, ?_, ?_, ?_, trivial⟩
    · exact fun j hj hu T T2 v v2 h hD hz hk zU => (hk 65 (List.mem_singleton.2 rfl)).trans h
    · exact fun j hj hu T T2 v v2 h hD hz hk zU => (hk 66 (List.mem_singleton.2 rfl)).trans h
    · exact fun j hj hu T T2 v v2 h hD hz hk zU => (hk 67 (List.mem_singleton.2 rfl)).trans h
    · exact fun j hj hu T T2 v v2 h hD hz hk zU => (hk 68 (List.mem_singleton.2 rfl)).trans h
    · exact fun j hj hu T T2 v v2 h hD hz hk zU => (hk 69 (List.mem_singleton.2 rfl)).trans h
    · exact fun j hj hu T T2 v v2 h hD hz hk zU => (hk 70 (List.mem_singleton.2 rfl)).trans h
    · exact fun j hj hu T T2 v v2 h hD hz hk zU => (hk 71 (List.mem_singleton.2 rfl)).trans h
    · exact fun j hj hu T T2 v v2 h hD hz hk zU => (hk 72 (List.mem_singleton.2 rfl)).trans h
    · exact fun j hj hu T T2 v v2 h hD hz hk zU => (hk 73 (List.mem_singleton.2 rfl)).trans h
    · exact fun j hj hu T T2 v v2 h hD hz hk zU => (hk 74 (List.mem_singleton.2 rfl)).trans h
    · exact fun j hj hu T T2 v v2 h hD hz hk zU => (hk 75 (List.mem_singleton.2 rfl)).trans h
    · exact fun j hj hu T T2 v v2 h hD hz hk zU => (hk 76 (List.mem_singleton.2 rfl)).trans h
    · exact fun j hj hu T T2 v v2 h hD hz hk zU => (hk 77 (List.mem_singleton.2 rfl)).trans h
    · exact fun j hj hu T T2 v v2 h hD hz hk zU => (hk 78 (List.mem_singleton.2 rfl)).trans h
    · exact fun j hj hu T T2 v v2 h hD hz hk zU => (hk 79 (List.mem_singleton.2 rfl)).trans h
    · exact fun j hj hu T T2 v v2 h hD hz hk zU => (hk 80 (List.mem_singleton.2 rfl)).trans h
    · exact fun j hj hu T T2 v v2 h hD hz hk zU => (hk 81 (List.mem_singleton.2 rfl)).trans h
    · exact fun j hj hu T T2 v v2 h hD hz hk zU => (hk 82 (List.mem_singleton.2 rfl)).trans h
    · exact fun j hj hu T T2 v v2 h hD hz hk zU => (hk 83 (List.mem_singleton.2 rfl)).trans h
    · exact fun j hj hu T T2 v v2 h hD hz hk zU => (hk 84 (List.mem_singleton.2 rfl)).trans h
    · exact fun j hj hu T T2 v v2 h hD hz hk zU => (hk 85 (List.mem_singleton.2 rfl)).trans h
    · exact fun j hj hu T T2 v v2 h hD hz hk zU => (hk 86 (List.mem_singleton.2 rfl)).trans h
    · exact fun j hj hu T T2 v v2 h hD hz hk zU => (hk 87 (List.mem_singleton.2 rfl)).trans h
    · exact fun j hj hu T T2 v v2 h hD hz hk zU => (hk 88 (List.mem_singleton.2 rfl)).trans h
    · exact fun j hj hu T T2 v v2 h hD hz hk zU => (hk 89 (List.mem_singleton.2 rfl)).trans h
    · exact fun j hj hu T T2 v v2 h hD hz hk zU => (hk 90 (List.mem_singleton.2 rfl)).trans h
    · exact fun j hj hu T T2 v v2 h hD hz hk zU => (hk 91 (List.mem_singleton.2 rfl)).trans h
    · exact fun j hj hu T T2 v v2 h hD hz hk zU => (hk 92 (List.mem_singleton.2 rfl)).trans h
    · exact fun j hj hu T T2 v v2 h hD hz hk zU => (hk 93 (List.mem_singleton.2 rfl)).trans h
    · exact fun j hj hu T T2 v v2 h hD hz hk zU => (hk 94 (List.mem_singleton.2 rfl)).trans h
    · exact fun j hj hu T T2 v v2 h hD hz hk zU => (hk 95 (List.mem_singleton.2 rfl)).trans h
    · exact fun j hj hu T T2 v v2 h hD hz hk zU => (hk 96 (List.mem_singleton.2 rfl)).trans h
    · exact fun j hj hu T T2 v v2 h hD hz hk zU => (hk 97 (List.mem_singleton.2 rfl)).trans h
    · exact fun j hj hu T T2 v v2 h hD hz hk zU => (hk 98 (List.mem_singleton.2 rfl)).trans h
    · exact fun j hj hu T T2 v v2 h hD hz hk zU => (hk 99 (List.mem_singleton.2 rfl)).trans h
    · exact fun j hj hu T T2 v v2 h hD hz hk zU => (hk 100 (List.mem_singleton.2 rfl)).trans h
    · exact fun j hj hu T T2 v v2 h hD hz hk zU => (hk 101 (List.mem_singleton.2 rfl)).trans h
    · exact fun j hj hu T T2 v v2 h hD hz hk zU => (hk 102 (List.mem_singleton.2 rfl)).trans h
    · exact fun j hj hu T T2 v v2 h hD hz hk zU => (hk 103 (List.mem_singleton.2 rfl)).trans h
    · exact fun j hj hu T T2 v v2 h hD hz hk zU => (hk 104 (List.mem_singleton.2 rfl)).trans h
    · exact fun j hj hu T T2 v v2 h hD hz hk zU => (hk 105 (List.mem_singleton.2 rfl)).trans h
    · exact fun j hj hu T T2 v v2 h hD hz hk zU => (hk 106 (List.mem_singleton.2 rfl)).trans h
    · exact fun j hj hu T T2 v v2 h hD hz hk zU => (hk 107 (List.mem_singleton.2 rfl)).trans h
    · exact fun j hj hu T T2 v v2 h hD hz hk zU => (hk 108 (List.mem_singleton.2 rfl)).trans h
    · exact fun j hj hu T T2 v v2 h hD hz hk zU => (hk 109 (List.mem_singleton.2 rfl)).trans h
    · exact fun j hj hu T T2 v v2 h hD hz hk zU => (hk 110 (List.mem_singleton.2 rfl)).trans h
    · exact fun j hj hu T T2 v v2 h hD hz hk zU => (hk 111 (List.mem_singleton.2 rfl)).trans h
    · exact fun j hj hu T T2 v v2 h hD hz hk zU => (hk 112 (List.mem_singleton.2 rfl)).trans h
    · exact fun j hj hu T T2 v v2 h hD hz hk zU => (hk 113 (List.mem_singleton.2 rfl)).trans h
    · exact fun j hj hu T T2 v v2 h hD hz hk zU => (hk 114 (List.mem_singleton.2 rfl)).trans h
    · exact fun j hj hu T T2 v v2 h hD hz hk zU => (hk 115 (List.mem_singleton.2 rfl)).trans h
    · exact fun j hj hu T T2 v v2 h hD hz hk zU => (hk 116 (List.mem_singleton.2 rfl)).trans h
    · exact fun j hj hu T T2 v v2 h hD hz hk zU => (hk 117 (List.mem_singleton.2 rfl)).trans h
    · exact fun j hj hu T T2 v v2 h hD hz hk zU => (hk 118 (List.mem_singleton.2 rfl)).trans h
    · exact fun j hj hu T T2 v v2 h hD hz hk zU => (hk 119 (List.mem_singleton.2 rfl)).trans h
    · exact fun j hj hu T T2 v v2 h hD hz hk zU => (hk 120 (List.mem_singleton.2 rfl)).trans h
    · exact fun j hj hu T T2 v v2 h hD hz hk zU => (hk 121 (List.mem_singleton.2 rfl)).trans h
    · exact fun j hj hu T T2 v v2 h hD hz hk zU => (hk 0 (List.mem_singleton.2 rfl)).trans h
  · refine ⟨fun _ _ _ _ _ _ _ _ _ _ _ => trivial, fun _ _ _ _ _ _ _ _ _ _ _ => trivial, fun _ _ _ _ _ _ _ _ _ _ _ => trivial, fun _ _ _ _ _ _ _ _ _ _ _ => trivial, fun _ _ _ _ _ _ _ _ _ _ _ => trivial, fun _ _ _ _ _ _ _ _ _ _ _ => trivial, fun _ _ _ _ _ _ _ _ _ _ _ => trivial, fun _ _ _ _ _ _ _ _ _ _ _ => trivial, fun _ _ _ _ _ _ _ _ _ _ _ => trivial, fun _ _ _ _ _ _ _ _ _ _ _ => trivial, fun _ _ _ _ _ _ _ _ _ _ _ => trivial, fun _ _ _ _ _ _ _ _ _ _ _ => trivial, fun _ _ _ _ _ _ _ _ _ _ _ => trivial, fun _ _ _ _ _ _ _ _ _ _ _ => trivial, fun _ _ _ _ _ _ _ _ _ _ _ => trivial, fun _ _ _ _ _ _ _ _ _ _ _ => trivial, fun _ _ _ _ _ _ _ _ _ _ _ => trivial, fun _ _ _ _ _ _ _ _ _ _ _ => trivial, fun _ _ _ _ _ _ _ _ _ _ _ => trivial, fun _ _ _ _ _ _ _ _ _ _ _ => trivial, fun _ _ _ _ _ _ _ _ _ _ _ => trivial, fun _ _ _ _ _ _ _ _ _ _ _ => trivial, fun _ _ _ _ _ _ _ _ _ _ _ => trivial, fun _ _ _ _ _ _ _ _ _ _ _ => trivial, fun _ _ _ _ _ _ _ _ _ _ _ => trivial, fun _ _ _ _ _ _ _ _ _ _ _ => trivial, fun _ _ _ _ _ _ _ _ _ _ _ => trivial, fun _ _ _ _ _ _ _ _ _ _ _ => trivial, fun _ _ _ _ _ _ _ _ _ _ _ => trivial, fun _ _ _ _ _ _ _ _ _ _ _ => trivial, fun _ _ _ _ _ _ _ _ _ _ _ => trivial, fun _ _ _ _ _ _ _ _ _ _ _ => trivial, fun _ _ _ _ _ _ _ _ _ _ _ => trivial, fun _ _ _ _ _ _ _ _ _ _ _ => trivial, fun _ _ _ _ _ _ _ _ _ _ _ => trivial, fun _ _ _ _ _ _ _ _ _ _ _ => trivial, fun _ _ _ _ _ _ _ _ _ _ _ => trivial, fun _ _ _ _ _ _ _ _ _ _ _ => trivial, fun _ _ _ _ _ _ _ _ _ _ _ => trivial, fun _ _ _ _ _ _ _ _ _ _ _ => trivial, fun _ _ _ _ _ _ _ _ _ _ _ => trivial, fun _ _ _ _ _ _ _ _ _ _ _ => trivial, fun _ _ _ _ _ _ _ _ _ _ _ => trivial, fun _ _ _ _ _ _ _ _ _ _ _ => trivial, fun _ _ _ _ _ _ _ _ _ _ _ => trivial, fun _ _ _ _ _ _ _ _ _ _ _ => trivial, fun _ _ _ _ _ _ _ _ _ _ _ => trivial, fun _ _ _ _ _ _ _ _ _ _ _ => trivial, fun _ _ _ _ _ _ _ _ _ _ _ => trivial, fun _ _ _ _ _ _ _ _ _ _ _ => trivial, fun _ _ _ _ _ _ _ _ _ _ _ => trivial, fun _ _ _ _ _ _ _ _ _ _ _ => trivial, fun _ _ _ _ _ _ _ _ _ _ _ => trivial, fun _ _ _ _ _ _ _ _ _ _ _ => trivial, fun _ _ _ _ _ _ _ _ _ _ _ => trivial, fun _ _ _ _ _ _ _ _ _ _ _ => trivial, fun _ _ _ _ _ _ _ _ _ _ _ => trivial, fun _ _ _ _ _ _ _ _ _ _ _ => trivial, trivial⟩
  · refine ⟨?_, ?_, ?_, ?_, ?_, ?_, ?_, ?_, ?_, ?_, ?_, ?_, ?_, ?_, ?_, ?_, ?_, ?_, ?_, ?_, ?_, ?_, ?_, ?_, ?_, ?_, ?_, ?_, ?_, ?_, ?_, ?_, ?_, ?_, ?_, ?_, ?_, ?_, ?_, ?_, ?_, ?_, ?_, ?_, ?_, ?_, ?_, ?_, ?_, ?_, ?_, ?_, ?_, ?_, ?_, ?_, ?_, ?_, trivial⟩
    · intro T df v zz zB zp zC
      have qb := zB.1
      have zU := zB.2
      refine ⟨true, want_none rfl, fun hc => .inr (.inr ⟨_, _, _, ex_call (args := #[]) rfl (by simp) rfl, works20 v, ?_⟩), fun _ => rfl, fun h => absurd h (by decide)⟩
      rintro e w9 ⟨rfl, b9⟩
      exact ⟨_, rfl, Upd.of_below b9, fun h => absurd h (by decide), fun T2 N => N.s 65 rfl⟩
    · intro T df v zz zB zp zC
      have qb := zB.1
      have zU := zB.2
      have p0 : T[65]? = some (gw true (.bool true)) := zp 0 (by kernel_rfl) (by kernel_rfl)
      exact ⟨true, want_none rfl, fun _ => .inl ⟨_, _, ex_move rfl (ev p0 rfl), Upd.refl _ _, fun h => absurd h (by decide), fun T2 N => N.s 66 rfl⟩, fun h => absurd h (by decide), fun h => absurd h (by decide)⟩
    · intro T df v zz zB zp zC
      have qb := zB.1
      have zU := zB.2
      have p1 : T[66]? = some (gw true (.bool true)) := zp 1 (by kernel_rfl) (by kernel_rfl)
      exact ⟨(true && (true == true)), want_g rfl rfl p1, fun hc => .inl ⟨_, _, ex_move rfl (qb.e (j := 2) rfl), Upd.refl _ _, fun h => absurd h (by decide), fun T2 N => by rw [hc]; exact N.s 67 rfl⟩, fun _ => rfl, fun hc T2 N => by rw [hc]; exact N.s 67 rfl⟩
    · intro T df v zz zB zp zC
      have qb := zB.1
      have zU := zB.2
      have p1 : T[66]? = some (gw true (.bool true)) := zp 1 (by kernel_rfl) (by kernel_rfl)
      exact ⟨(true && (true == true)), want_g rfl rfl p1, fun hc => .inl ⟨_, _, ex_build rfl (bdz5_20 _), Upd.refl _ _, fun h => absurd h (by decide), fun T2 N => by rw [hc]; exact N.s 68 rfl⟩, fun _ => rfl, fun hc T2 N => by rw [hc]; exact N.s 68 rfl⟩
    · intro T df v zz zB zp zC
      have qb := zB.1
      have zU := zB.2
      have p1 : T[66]? = some (gw true (.bool true)) := zp 1 (by kernel_rfl) (by kernel_rfl)
      have p2 : T[67]? = some (gw (true && (true == true)) (.pointer none)) := zp 2 (by kernel_rfl) (by kernel_rfl)
      have p3 : T[68]? = some (gw (true && (true == true)) (yE.z.val20)) := zp 3 (by kernel_rfl) (by kernel_rfl)
      refine ⟨(true && (true == true)), want_g rfl rfl p1, fun hc => .inr (.inr ⟨_, _, _, ex_call rfl (by simp only [List.map_toArray, List.map_cons, List.map_nil, (ev p2 hc), (ev p3 hc), evc] <;> rfl) rfl, addN20 yE.z v, ?_⟩), fun _ => rfl, fun hc T2 N => by rw [hc]; exact N.s 69 rfl⟩
      rintro e w9 ⟨rfl, b9⟩
      exact ⟨_, rfl, Upd.of_below b9, fun h => absurd h (by decide), fun T2 N => by rw [hc]; exact N.s 69 rfl⟩
    · intro T df v zz zB zp zC
      have qb := zB.1
      have zU := zB.2
      have p1 : T[66]? = some (gw true (.bool true)) := zp 1 (by kernel_rfl) (by kernel_rfl)
      have p4 : T[69]? = some (gw (true && (true == true)) (.int .i64 (0 : Int))) := zp 4 (by kernel_rfl) (by kernel_rfl)
      exact ⟨(true && (true == true)), want_g rfl rfl p1, fun hc => .inl ⟨_, _, ex_bin (Y := .int .i64 ((0 : Nat) : Int)) rfl (ev p4 hc) rfl (eqT20 _ _ (by omega) _), Upd.refl _ _, fun h => absurd h (by decide), fun T2 N => by rw [hc]; exact N.s 70 rfl⟩, fun _ => rfl, fun hc T2 N => by rw [hc]; exact N.s 70 rfl⟩
    · intro T df v zz zB zp zC
      have qb := zB.1
      have zU := zB.2
      have p1 : T[66]? = some (gw true (.bool true)) := zp 1 (by kernel_rfl) (by kernel_rfl)
      have p5 : T[70]? = some (gw (true && (true == true)) (.bool true)) := zp 5 (by kernel_rfl) (by kernel_rfl)
      exact ⟨true, want_none rfl, fun _ => .inl ⟨_, _, ex_and (c := true) (b := true) (z := true) rfl p1 p5 rfl, Upd.refl _ _, fun h => absurd h (by decide), fun T2 N => N.s 71 rfl⟩, fun h => absurd h (by decide), fun h => absurd h (by decide)⟩
    · intro T df v zz zB zp zC
      have qb := zB.1
      have zU := zB.2
      have p6 : T[71]? = some (gw true (.bool true)) := zp 6 (by kernel_rfl) (by kernel_rfl)
      exact ⟨true, want_none rfl, fun _ => .inl ⟨_, _, ex_move rfl (ev p6 rfl), Upd.refl _ _, fun h => absurd h (by decide), fun T2 N => N.s 72 rfl⟩, fun h => absurd h (by decide), fun h => absurd h (by decide)⟩
    · intro T df v zz zB zp zC
      have qb := zB.1
      have zU := zB.2
      have p7 : T[72]? = some (gw true (.bool true)) := zp 7 (by kernel_rfl) (by kernel_rfl)
      exact ⟨(true && (true == true)), want_g rfl rfl p7, fun hc => .inl ⟨_, _, ex_move rfl (qb.e (j := 2) rfl), Upd.refl _ _, fun h => absurd h (by decide), fun T2 N => by rw [hc]; exact N.s 73 rfl⟩, fun _ => rfl, fun hc T2 N => by rw [hc]; exact N.s 73 rfl⟩
    · intro T df v zz zB zp zC
      have qb := zB.1
      have zU := zB.2
      have p7 : T[72]? = some (gw true (.bool true)) := zp 7 (by kernel_rfl) (by kernel_rfl)
      have p8 : T[73]? = some (gw (true && (true == true)) (.pointer none)) := zp 8 (by kernel_rfl) (by kernel_rfl)
      refine ⟨(true && (true == true)), want_g rfl rfl p7, fun hc => .inr (.inr ⟨_, _, _, ex_call rfl (by simp only [List.map_toArray, List.map_cons, List.map_nil, (ev p8 hc), evc] <;> rfl) rfl, sizeN20 v, ?_⟩), fun _ => rfl, fun hc T2 N => by rw [hc]; exact N.s 74 rfl⟩
      rintro e w9 ⟨rfl, rfl⟩
      exact ⟨_, rfl, Upd.refl _ _, fun h => absurd h (by decide), fun T2 N => by rw [hc]; exact N.s 74 rfl⟩
    · intro T df v zz zB zp zC
      have qb := zB.1
      have zU := zB.2
      have p7 : T[72]? = some (gw true (.bool true)) := zp 7 (by kernel_rfl) (by kernel_rfl)
      have p9 : T[74]? = some (gw (true && (true == true)) (.int .i64 ((0 : Nat) : Int))) := zp 9 (by kernel_rfl) (by kernel_rfl)
      exact ⟨(true && (true == true)), want_g rfl rfl p7, fun hc => .inl ⟨_, _, ex_bin (Y := .int .i64 ((0 : Nat) : Int)) rfl (ev p9 hc) rfl (eqT20 _ _ (by omega) _), Upd.refl _ _, fun h => absurd h (by decide), fun T2 N => by rw [hc]; exact N.s 75 rfl⟩, fun _ => rfl, fun hc T2 N => by rw [hc]; exact N.s 75 rfl⟩
    · intro T df v zz zB zp zC
      have qb := zB.1
      have zU := zB.2
      have p7 : T[72]? = some (gw true (.bool true)) := zp 7 (by kernel_rfl) (by kernel_rfl)
      have p10 : T[75]? = some (gw (true && (true == true)) (.bool true)) := zp 10 (by kernel_rfl) (by kernel_rfl)
      exact ⟨true, want_none rfl, fun _ => .inl ⟨_, _, ex_and (c := true) (b := true) (z := true) rfl p7 p10 rfl, Upd.refl _ _, fun h => absurd h (by decide), fun T2 N => N.s 76 rfl⟩, fun h => absurd h (by decide), fun h => absurd h (by decide)⟩
    · intro T df v zz zB zp zC
      have qb := zB.1
      have zU := zB.2
      have p11 : T[76]? = some (gw true (.bool true)) := zp 11 (by kernel_rfl) (by kernel_rfl)
      exact ⟨true, want_none rfl, fun _ => .inl ⟨_, _, ex_move rfl (ev p11 rfl), Upd.refl _ _, fun h => absurd h (by decide), fun T2 N => N.s 77 rfl⟩, fun h => absurd h (by decide), fun h => absurd h (by decide)⟩
    · intro T df v zz zB zp zC
      have qb := zB.1
      have zU := zB.2
      have p12 : T[77]? = some (gw true (.bool true)) := zp 12 (by kernel_rfl) (by kernel_rfl)
      exact ⟨(true && (true == true)), want_g rfl rfl p12, fun hc => .inl ⟨_, _, ex_move rfl (qb.e (j := 2) rfl), Upd.refl _ _, fun h => absurd h (by decide), fun T2 N => by rw [hc]; exact N.s 78 rfl⟩, fun _ => rfl, fun hc T2 N => by rw [hc]; exact N.s 78 rfl⟩
    · intro T df v zz zB zp zC
      have qb := zB.1
      have zU := zB.2
      have p12 : T[77]? = some (gw true (.bool true)) := zp 12 (by kernel_rfl) (by kernel_rfl)
      have p13 : T[78]? = some (gw (true && (true == true)) (.pointer none)) := zp 13 (by kernel_rfl) (by kernel_rfl)
      refine ⟨(true && (true == true)), want_g rfl rfl p12, fun hc => .inr (.inr ⟨_, _, _, ex_call rfl (by simp only [List.map_toArray, List.map_cons, List.map_nil, (ev p13 hc), evc] <;> rfl) rfl, head020 (.pointer none) v (rc_nil v), ?_⟩), fun _ => rfl, fun hc T2 N => by rw [hc]; exact N.s 79 rfl⟩
      rintro e w9 ⟨rfl, b9⟩
      exact ⟨_, rfl, Upd.of_below b9, fun h => absurd h (by decide), fun T2 N => by rw [hc]; exact N.s 79 rfl⟩
    · intro T df v zz zB zp zC
      have qb := zB.1
      have zU := zB.2
      have p12 : T[77]? = some (gw true (.bool true)) := zp 12 (by kernel_rfl) (by kernel_rfl)
      exact ⟨(true && (true == true)), want_g rfl rfl p12, fun hc => .inl ⟨_, _, ex_ld rfl (qb.e (j := 3) rfl) (B136.upd zU (show ¬ False from id)).ldH, Upd.refl _ _, fun h => absurd h (by decide), fun T2 N => by rw [hc]; exact N.s 80 rfl⟩, fun _ => rfl, fun hc T2 N => by rw [hc]; exact N.s 80 rfl⟩
    · intro T df v zz zB zp zC
      have qb := zB.1
      have zU := zB.2
      have p12 : T[77]? = some (gw true (.bool true)) := zp 12 (by kernel_rfl) (by kernel_rfl)
      have p14 : T[79]? = some (gw (true && (true == true)) ((hd []).val)) := zp 14 (by kernel_rfl) (by kernel_rfl)
      have p15 : T[80]? = some (gw (true && (true == true)) ((hd (([] : List En).map lf)).val)) := zp 15 (by kernel_rfl) (by kernel_rfl)
      exact ⟨(true && (true == true)), want_g rfl rfl p12, fun hc => .inl ⟨_, _, ex_bin rfl (ev p14 hc) (ev p15 hc) (eqHZ _ _ _ _ _), Upd.refl _ _, fun h => absurd h (by decide), fun T2 N => by rw [hc]; exact N.s 81 rfl⟩, fun _ => rfl, fun hc T2 N => by rw [hc]; exact N.s 81 rfl⟩
    · intro T df v zz zB zp zC
      have qb := zB.1
      have zU := zB.2
      have p12 : T[77]? = some (gw true (.bool true)) := zp 12 (by kernel_rfl) (by kernel_rfl)
      have p16 : T[81]? = some (gw (true && (true == true)) (.bool (decide ((hd []).v = (hd (([] : List En).map lf)).v)))) := zp 16 (by kernel_rfl) (by kernel_rfl)
      exact ⟨true, want_none rfl, fun _ => .inl ⟨_, _, ex_and (c := true) (b := true) (z := (decide ((hd []).v = (hd (([] : List En).map lf)).v))) rfl p12 p16 rfl, Upd.refl _ _, fun h => absurd h (by decide), fun T2 N => N.s 82 rfl⟩, fun h => absurd h (by decide), fun h => absurd h (by decide)⟩
    · intro T df v zz zB zp zC
      have qb := zB.1
      have zU := zB.2
      have p17 : T[82]? = some (gw true (.bool (decide ((hd []).v = (hd (([] : List En).map lf)).v)))) := zp 17 (by kernel_rfl) (by kernel_rfl)
      exact ⟨true, want_none rfl, fun _ => .inl ⟨_, _, ex_move rfl (ev p17 rfl), Upd.refl _ _, fun h => absurd h (by decide), fun T2 N => N.s 83 rfl⟩, fun h => absurd h (by decide), fun h => absurd h (by decide)⟩
    · intro T df v zz zB zp zC
      have qb := zB.1
      have zU := zB.2
      have p18 : T[83]? = some (gw true (.bool (decide ((hd []).v = (hd (([] : List En).map lf)).v)))) := zp 18 (by kernel_rfl) (by kernel_rfl)
      exact ⟨(true && ((decide ((hd []).v = (hd (([] : List En).map lf)).v)) == true)), want_g rfl rfl p18, fun hc => .inl ⟨_, _, ex_ld rfl (qb.e (j := 4) rfl) (B137.upd zU (show ¬ False from id)).ldH, Upd.refl _ _, fun h => absurd h (by decide), fun T2 N => by rw [hc]; exact N.s 84 rfl⟩, fun _ => rfl, fun hc T2 N => by rw [hc]; exact N.s 84 rfl⟩
    · intro T df v zz zB zp zC
      have qb := zB.1
      have zU := zB.2
      have p18 : T[83]? = some (gw true (.bool (decide ((hd []).v = (hd (([] : List En).map lf)).v)))) := zp 18 (by kernel_rfl) (by kernel_rfl)
      exact ⟨(true && ((decide ((hd []).v = (hd (([] : List En).map lf)).v)) == true)), want_g rfl rfl p18, fun hc => .inl ⟨_, _, ex_ld rfl (qb.e (j := 3) rfl) (B136.upd zU (show ¬ False from id)).ldH, Upd.refl _ _, fun h => absurd h (by decide), fun T2 N => by rw [hc]; exact N.s 85 rfl⟩, fun _ => rfl, fun hc T2 N => by rw [hc]; exact N.s 85 rfl⟩
    · intro T df v zz zB zp zC
      have qb := zB.1
      have zU := zB.2
      have p18 : T[83]? = some (gw true (.bool (decide ((hd []).v = (hd (([] : List En).map lf)).v)))) := zp 18 (by kernel_rfl) (by kernel_rfl)
      have p19 : T[84]? = some (gw (true && ((decide ((hd []).v = (hd (([] : List En).map lf)).v)) == true)) ((hd (([] : List Hs).take 0)).val)) := zp 19 (by kernel_rfl) (by kernel_rfl)
      have p20 : T[85]? = some (gw (true && ((decide ((hd []).v = (hd (([] : List En).map lf)).v)) == true)) ((hd (([] : List En).map lf)).val)) := zp 20 (by kernel_rfl) (by kernel_rfl)
      exact ⟨(true && ((decide ((hd []).v = (hd (([] : List En).map lf)).v)) == true)), want_g rfl rfl p18, fun hc => .inl ⟨_, _, ex_bin rfl (ev p19 hc) (ev p20 hc) (eqHZ _ _ _ _ _), Upd.refl _ _, fun h => absurd h (by decide), fun T2 N => by rw [hc]; exact N.s 86 rfl⟩, fun _ => rfl, fun hc T2 N => by rw [hc]; exact N.s 86 rfl⟩
    · intro T df v zz zB zp zC
      have qb := zB.1
      have zU := zB.2
      have p18 : T[83]? = some (gw true (.bool (decide ((hd []).v = (hd (([] : List En).map lf)).v)))) := zp 18 (by kernel_rfl) (by kernel_rfl)
      have p21 : T[86]? = some (gw (true && ((decide ((hd []).v = (hd (([] : List En).map lf)).v)) == true)) (.bool (decide ((hd (([] : List Hs).take 0)).v = (hd (([] : List En).map lf)).v)))) := zp 21 (by kernel_rfl) (by kernel_rfl)
      exact ⟨true, want_none rfl, fun _ => .inl ⟨_, _, ex_and (c := true) (b := (decide ((hd []).v = (hd (([] : List En).map lf)).v))) (z := (decide ((hd (([] : List Hs).take 0)).v = (hd (([] : List En).map lf)).v))) rfl p18 p21 rfl, Upd.refl _ _, fun h => absurd h (by decide), fun T2 N => N.s 87 rfl⟩, fun h => absurd h (by decide), fun h => absurd h (by decide)⟩
    · intro T df v zz zB zp zC
      have qb := zB.1
      have zU := zB.2
      have p22 : T[87]? = some (gw true (.bool ((decide ((hd []).v = (hd (([] : List En).map lf)).v)) && (decide ((hd (([] : List Hs).take 0)).v = (hd (([] : List En).map lf)).v))))) := zp 22 (by kernel_rfl) (by kernel_rfl)
      exact ⟨true, want_none rfl, fun _ => .inl ⟨_, _, ex_move rfl (ev p22 rfl), Upd.refl _ _, fun h => absurd h (by decide), fun T2 N => N.s 88 rfl⟩, fun h => absurd h (by decide), fun h => absurd h (by decide)⟩
    · intro T df v zz zB zp zC
      have qb := zB.1
      have zU := zB.2
      have p23 : T[88]? = some (gw true (.bool ((decide ((hd []).v = (hd (([] : List En).map lf)).v)) && (decide ((hd (([] : List Hs).take 0)).v = (hd (([] : List En).map lf)).v))))) := zp 23 (by kernel_rfl) (by kernel_rfl)
      exact ⟨(true && (((decide ((hd []).v = (hd (([] : List En).map lf)).v)) && (decide ((hd (([] : List Hs).take 0)).v = (hd (([] : List En).map lf)).v))) == true)), want_g rfl rfl p23, fun hc => .inl ⟨_, _, ex_move rfl (qb.e (j := 5) rfl), Upd.refl _ _, fun h => absurd h (by decide), fun T2 N => by rw [hc]; exact N.s 89 rfl⟩, fun _ => rfl, fun hc T2 N => by rw [hc]; exact N.s 89 rfl⟩
    · intro T df v zz zB zp zC
      have qb := zB.1
      have zU := zB.2
      have p23 : T[88]? = some (gw true (.bool ((decide ((hd []).v = (hd (([] : List En).map lf)).v)) && (decide ((hd (([] : List Hs).take 0)).v = (hd (([] : List En).map lf)).v))))) := zp 23 (by kernel_rfl) (by kernel_rfl)
      have p24 : T[89]? = some (gw (true && (((decide ((hd []).v = (hd (([] : List En).map lf)).v)) && (decide ((hd (([] : List Hs).take 0)).v = (hd (([] : List En).map lf)).v))) == true)) (.int .i64 (0 : Int))) := zp 24 (by kernel_rfl) (by kernel_rfl)
      exact ⟨(true && (((decide ((hd []).v = (hd (([] : List En).map lf)).v)) && (decide ((hd (([] : List Hs).take 0)).v = (hd (([] : List En).map lf)).v))) == true)), want_g rfl rfl p23, fun hc => .inl ⟨_, _, ex_bin (Y := .int .i64 ((0 : Nat) : Int)) rfl (ev p24 hc) rfl (eqEt _ _ _ _), Upd.refl _ _, fun h => absurd h (by decide), fun T2 N => by rw [hc]; exact N.s 90 rfl⟩, fun _ => rfl, fun hc T2 N => by rw [hc]; exact N.s 90 rfl⟩
    · intro T df v zz zB zp zC
      have qb := zB.1
      have zU := zB.2
      have p23 : T[88]? = some (gw true (.bool ((decide ((hd []).v = (hd (([] : List En).map lf)).v)) && (decide ((hd (([] : List Hs).take 0)).v = (hd (([] : List En).map lf)).v))))) := zp 23 (by kernel_rfl) (by kernel_rfl)
      have p25 : T[90]? = some (gw (true && (((decide ((hd []).v = (hd (([] : List En).map lf)).v)) && (decide ((hd (([] : List Hs).take 0)).v = (hd (([] : List En).map lf)).v))) == true)) (.bool true)) := zp 25 (by kernel_rfl) (by kernel_rfl)
      exact ⟨true, want_none rfl, fun _ => .inl ⟨_, _, ex_and (c := true) (b := ((decide ((hd []).v = (hd (([] : List En).map lf)).v)) && (decide ((hd (([] : List Hs).take 0)).v = (hd (([] : List En).map lf)).v)))) (z := true) rfl p23 p25 rfl, Upd.refl _ _, fun h => absurd h (by decide), fun T2 N => N.s 91 rfl⟩, fun h => absurd h (by decide), fun h => absurd h (by decide)⟩
    · intro T df v zz zB zp zC
      have qb := zB.1
      have zU := zB.2
      have p26 : T[91]? = some (gw true (.bool (((decide ((hd []).v = (hd (([] : List En).map lf)).v)) && (decide ((hd (([] : List Hs).take 0)).v = (hd (([] : List En).map lf)).v))) && true))) := zp 26 (by kernel_rfl) (by kernel_rfl)
      exact ⟨true, want_none rfl, fun _ => .inl ⟨_, _, ex_move rfl (ev p26 rfl), Upd.refl _ _, fun h => absurd h (by decide), fun T2 N => N.s 92 rfl⟩, fun h => absurd h (by decide), fun h => absurd h (by decide)⟩
    · intro T df v zz zB zp zC
      have qb := zB.1
      have zU := zB.2
      have p27 : T[92]? = some (gw true (.bool (((decide ((hd []).v = (hd (([] : List En).map lf)).v)) && (decide ((hd (([] : List Hs).take 0)).v = (hd (([] : List En).map lf)).v))) && true))) := zp 27 (by kernel_rfl) (by kernel_rfl)
      exact ⟨(true && ((((decide ((hd []).v = (hd (([] : List En).map lf)).v)) && (decide ((hd (([] : List Hs).take 0)).v = (hd (([] : List En).map lf)).v))) && true) == true)), want_g rfl rfl p27, fun hc => .inl ⟨_, _, ex_move rfl (qb.e (j := 7) rfl), Upd.refl _ _, fun h => absurd h (by decide), fun T2 N => by rw [hc]; exact N.s 93 rfl⟩, fun _ => rfl, fun hc T2 N => by rw [hc]; exact N.s 93 rfl⟩
    · intro T df v zz zB zp zC
      have qb := zB.1
      have zU := zB.2
      have p27 : T[92]? = some (gw true (.bool (((decide ((hd []).v = (hd (([] : List En).map lf)).v)) && (decide ((hd (([] : List Hs).take 0)).v = (hd (([] : List En).map lf)).v))) && true))) := zp 27 (by kernel_rfl) (by kernel_rfl)
      have p28 : T[93]? = some (gw (true && ((((decide ((hd []).v = (hd (([] : List En).map lf)).v)) && (decide ((hd (([] : List Hs).take 0)).v = (hd (([] : List En).map lf)).v))) && true) == true)) (.int .i64 (200 : Int))) := zp 28 (by kernel_rfl) (by kernel_rfl)
      exact ⟨(true && ((((decide ((hd []).v = (hd (([] : List En).map lf)).v)) && (decide ((hd (([] : List Hs).take 0)).v = (hd (([] : List En).map lf)).v))) && true) == true)), want_g rfl rfl p27, fun hc => .inl ⟨_, _, ex_bin (Y := .int .i64 ((200 : Nat) : Int)) rfl (ev p28 hc) rfl (eqEt _ _ _ _), Upd.refl _ _, fun h => absurd h (by decide), fun T2 N => by rw [hc]; exact N.s 94 rfl⟩, fun _ => rfl, fun hc T2 N => by rw [hc]; exact N.s 94 rfl⟩
    · intro T df v zz zB zp zC
      have qb := zB.1
      have zU := zB.2
      have p27 : T[92]? = some (gw true (.bool (((decide ((hd []).v = (hd (([] : List En).map lf)).v)) && (decide ((hd (([] : List Hs).take 0)).v = (hd (([] : List En).map lf)).v))) && true))) := zp 27 (by kernel_rfl) (by kernel_rfl)
      have p29 : T[94]? = some (gw (true && ((((decide ((hd []).v = (hd (([] : List En).map lf)).v)) && (decide ((hd (([] : List Hs).take 0)).v = (hd (([] : List En).map lf)).v))) && true) == true)) (.bool true)) := zp 29 (by kernel_rfl) (by kernel_rfl)
      exact ⟨true, want_none rfl, fun _ => .inl ⟨_, _, ex_and (c := true) (b := (((decide ((hd []).v = (hd (([] : List En).map lf)).v)) && (decide ((hd (([] : List Hs).take 0)).v = (hd (([] : List En).map lf)).v))) && true)) (z := true) rfl p27 p29 rfl, Upd.refl _ _, fun h => absurd h (by decide), fun T2 N => N.s 95 rfl⟩, fun h => absurd h (by decide), fun h => absurd h (by decide)⟩
    · intro T df v zz zB zp zC
      have qb := zB.1
      have zU := zB.2
      have p30 : T[95]? = some (gw true (.bool ((((decide ((hd []).v = (hd (([] : List En).map lf)).v)) && (decide ((hd (([] : List Hs).take 0)).v = (hd (([] : List En).map lf)).v))) && true) && true))) := zp 30 (by kernel_rfl) (by kernel_rfl)
      exact ⟨true, want_none rfl, fun _ => .inl ⟨_, _, ex_move rfl (ev p30 rfl), Upd.refl _ _, fun h => absurd h (by decide), fun T2 N => N.s 96 rfl⟩, fun h => absurd h (by decide), fun h => absurd h (by decide)⟩
    · intro T df v zz zB zp zC
      have qb := zB.1
      have zU := zB.2
      have p31 : T[96]? = some (gw true (.bool ((((decide ((hd []).v = (hd (([] : List En).map lf)).v)) && (decide ((hd (([] : List Hs).take 0)).v = (hd (([] : List En).map lf)).v))) && true) && true))) := zp 31 (by kernel_rfl) (by kernel_rfl)
      exact ⟨(true && (((((decide ((hd []).v = (hd (([] : List En).map lf)).v)) && (decide ((hd (([] : List Hs).take 0)).v = (hd (([] : List En).map lf)).v))) && true) && true) == true)), want_g rfl rfl p31, fun hc => .inl ⟨_, _, ex_move rfl (qb.e (j := 8) rfl), Upd.refl _ _, fun h => absurd h (by decide), fun T2 N => by rw [hc]; exact N.s 97 rfl⟩, fun _ => rfl, fun hc T2 N => by rw [hc]; exact N.s 97 rfl⟩
    · intro T df v zz zB zp zC
      have qb := zB.1
      have zU := zB.2
      have p31 : T[96]? = some (gw true (.bool ((((decide ((hd []).v = (hd (([] : List En).map lf)).v)) && (decide ((hd (([] : List Hs).take 0)).v = (hd (([] : List En).map lf)).v))) && true) && true))) := zp 31 (by kernel_rfl) (by kernel_rfl)
      have p32 : T[97]? = some (gw (true && (((((decide ((hd []).v = (hd (([] : List En).map lf)).v)) && (decide ((hd (([] : List Hs).take 0)).v = (hd (([] : List En).map lf)).v))) && true) && true) == true)) (.slice aa2 0 cc2)) := zp 32 (by kernel_rfl) (by kernel_rfl)
      exact ⟨(true && (((((decide ((hd []).v = (hd (([] : List En).map lf)).v)) && (decide ((hd (([] : List Hs).take 0)).v = (hd (([] : List En).map lf)).v))) && true) && true) == true)), want_g rfl rfl p31, fun hc => .inl ⟨_, _, ex_lenG rfl rfl Tryd.underlying44 (ev p32 hc), Upd.refl _ _, fun h => absurd h (by decide), fun T2 N => by rw [hc]; exact N.s 98 rfl⟩, fun _ => rfl, fun hc T2 N => by rw [hc]; exact N.s 98 rfl⟩
    · intro T df v zz zB zp zC
      have qb := zB.1
      have zU := zB.2
      have p31 : T[96]? = some (gw true (.bool ((((decide ((hd []).v = (hd (([] : List En).map lf)).v)) && (decide ((hd (([] : List Hs).take 0)).v = (hd (([] : List En).map lf)).v))) && true) && true))) := zp 31 (by kernel_rfl) (by kernel_rfl)
      have p33 : T[98]? = some (gw (true && (((((decide ((hd []).v = (hd (([] : List En).map lf)).v)) && (decide ((hd (([] : List Hs).take 0)).v = (hd (([] : List En).map lf)).v))) && true) && true) == true)) (.int .i64 ((0 : Nat) : Int))) := zp 33 (by kernel_rfl) (by kernel_rfl)
      exact ⟨(true && (((((decide ((hd []).v = (hd (([] : List En).map lf)).v)) && (decide ((hd (([] : List Hs).take 0)).v = (hd (([] : List En).map lf)).v))) && true) && true) == true)), want_g rfl rfl p31, fun hc => .inl ⟨_, _, ex_bin (Y := .int .i64 ((0 : Nat) : Int)) rfl (ev p33 hc) rfl (eqT20 _ _ (by omega) _), Upd.refl _ _, fun h => absurd h (by decide), fun T2 N => by rw [hc]; exact N.s 99 rfl⟩, fun _ => rfl, fun hc T2 N => by rw [hc]; exact N.s 99 rfl⟩
    · intro T df v zz zB zp zC
      have qb := zB.1
      have zU := zB.2
      have p31 : T[96]? = some (gw true (.bool ((((decide ((hd []).v = (hd (([] : List En).map lf)).v)) && (decide ((hd (([] : List Hs).take 0)).v = (hd (([] : List En).map lf)).v))) && true) && true))) := zp 31 (by kernel_rfl) (by kernel_rfl)
      have p34 : T[99]? = some (gw (true && (((((decide ((hd []).v = (hd (([] : List En).map lf)).v)) && (decide ((hd (([] : List Hs).take 0)).v = (hd (([] : List En).map lf)).v))) && true) && true) == true)) (.bool true)) := zp 34 (by kernel_rfl) (by kernel_rfl)
      exact ⟨true, want_none rfl, fun _ => .inl ⟨_, _, ex_and (c := true) (b := ((((decide ((hd []).v = (hd (([] : List En).map lf)).v)) && (decide ((hd (([] : List Hs).take 0)).v = (hd (([] : List En).map lf)).v))) && true) && true)) (z := true) rfl p31 p34 rfl, Upd.refl _ _, fun h => absurd h (by decide), fun T2 N => N.s 100 rfl⟩, fun h => absurd h (by decide), fun h => absurd h (by decide)⟩
    · intro T df v zz zB zp zC
      have qb := zB.1
      have zU := zB.2
      have p35 : T[100]? = some (gw true (.bool (((((decide ((hd []).v = (hd (([] : List En).map lf)).v)) && (decide ((hd (([] : List Hs).take 0)).v = (hd (([] : List En).map lf)).v))) && true) && true) && true))) := zp 35 (by kernel_rfl) (by kernel_rfl)
      exact ⟨true, want_none rfl, fun _ => .inl ⟨_, _, ex_move rfl (ev p35 rfl), Upd.refl _ _, fun h => absurd h (by decide), fun T2 N => N.s 101 rfl⟩, fun h => absurd h (by decide), fun h => absurd h (by decide)⟩
    · intro T df v zz zB zp zC
      have qb := zB.1
      have zU := zB.2
      have p36 : T[101]? = some (gw true (.bool (((((decide ((hd []).v = (hd (([] : List En).map lf)).v)) && (decide ((hd (([] : List Hs).take 0)).v = (hd (([] : List En).map lf)).v))) && true) && true) && true))) := zp 36 (by kernel_rfl) (by kernel_rfl)
      exact ⟨(true && ((((((decide ((hd []).v = (hd (([] : List En).map lf)).v)) && (decide ((hd (([] : List Hs).take 0)).v = (hd (([] : List En).map lf)).v))) && true) && true) && true) == true)), want_g rfl rfl p36, fun hc => .inl ⟨_, _, ex_move rfl (qb.e (j := 9) rfl), Upd.refl _ _, fun h => absurd h (by decide), fun T2 N => by rw [hc]; exact N.s 102 rfl⟩, fun _ => rfl, fun hc T2 N => by rw [hc]; exact N.s 102 rfl⟩
    · intro T df v zz zB zp zC
      have qb := zB.1
      have zU := zB.2
      have p36 : T[101]? = some (gw true (.bool (((((decide ((hd []).v = (hd (([] : List En).map lf)).v)) && (decide ((hd (([] : List Hs).take 0)).v = (hd (([] : List En).map lf)).v))) && true) && true) && true))) := zp 36 (by kernel_rfl) (by kernel_rfl)
      have p37 : T[102]? = some (gw (true && ((((((decide ((hd []).v = (hd (([] : List En).map lf)).v)) && (decide ((hd (([] : List Hs).take 0)).v = (hd (([] : List En).map lf)).v))) && true) && true) && true) == true)) (.int .i64 (61 : Int))) := zp 37 (by kernel_rfl) (by kernel_rfl)
      exact ⟨(true && ((((((decide ((hd []).v = (hd (([] : List En).map lf)).v)) && (decide ((hd (([] : List Hs).take 0)).v = (hd (([] : List En).map lf)).v))) && true) && true) && true) == true)), want_g rfl rfl p36, fun hc => .inl ⟨_, _, ex_bin (Y := .int .i64 ((61 : Nat) : Int)) rfl (ev p37 hc) rfl (eqEt _ _ _ _), Upd.refl _ _, fun h => absurd h (by decide), fun T2 N => by rw [hc]; exact N.s 103 rfl⟩, fun _ => rfl, fun hc T2 N => by rw [hc]; exact N.s 103 rfl⟩
    · intro T df v zz zB zp zC
      have qb := zB.1
      have zU := zB.2
      have p36 : T[101]? = some (gw true (.bool (((((decide ((hd []).v = (hd (([] : List En).map lf)).v)) && (decide ((hd (([] : List Hs).take 0)).v = (hd (([] : List En).map lf)).v))) && true) && true) && true))) := zp 36 (by kernel_rfl) (by kernel_rfl)
      have p38 : T[103]? = some (gw (true && ((((((decide ((hd []).v = (hd (([] : List En).map lf)).v)) && (decide ((hd (([] : List Hs).take 0)).v = (hd (([] : List En).map lf)).v))) && true) && true) && true) == true)) (.bool true)) := zp 38 (by kernel_rfl) (by kernel_rfl)
      exact ⟨true, want_none rfl, fun _ => .inl ⟨_, _, ex_and (c := true) (b := (((((decide ((hd []).v = (hd (([] : List En).map lf)).v)) && (decide ((hd (([] : List Hs).take 0)).v = (hd (([] : List En).map lf)).v))) && true) && true) && true)) (z := true) rfl p36 p38 rfl, Upd.refl _ _, fun h => absurd h (by decide), fun T2 N => N.s 104 rfl⟩, fun h => absurd h (by decide), fun h => absurd h (by decide)⟩
    · intro T df v zz zB zp zC
      have qb := zB.1
      have zU := zB.2
      have p39 : T[104]? = some (gw true (.bool ((((((decide ((hd []).v = (hd (([] : List En).map lf)).v)) && (decide ((hd (([] : List Hs).take 0)).v = (hd (([] : List En).map lf)).v))) && true) && true) && true) && true))) := zp 39 (by kernel_rfl) (by kernel_rfl)
      exact ⟨true, want_none rfl, fun _ => .inl ⟨_, _, ex_move rfl (ev p39 rfl), Upd.refl _ _, fun h => absurd h (by decide), fun T2 N => N.s 105 rfl⟩, fun h => absurd h (by decide), fun h => absurd h (by decide)⟩
    · intro T df v zz zB zp zC
      have qb := zB.1
      have zU := zB.2
      have p40 : T[105]? = some (gw true (.bool ((((((decide ((hd []).v = (hd (([] : List En).map lf)).v)) && (decide ((hd (([] : List Hs).take 0)).v = (hd (([] : List En).map lf)).v))) && true) && true) && true) && true))) := zp 40 (by kernel_rfl) (by kernel_rfl)
      exact ⟨(true && (((((((decide ((hd []).v = (hd (([] : List En).map lf)).v)) && (decide ((hd (([] : List Hs).take 0)).v = (hd (([] : List En).map lf)).v))) && true) && true) && true) && true) == true)), want_g rfl rfl p40, fun hc => .inl ⟨_, _, ex_move rfl (qb.e (j := 10) rfl), Upd.refl _ _, fun h => absurd h (by decide), fun T2 N => by rw [hc]; exact N.s 106 rfl⟩, fun _ => rfl, fun hc T2 N => by rw [hc]; exact N.s 106 rfl⟩
    · intro T df v zz zB zp zC
      have qb := zB.1
      have zU := zB.2
      have p40 : T[105]? = some (gw true (.bool ((((((decide ((hd []).v = (hd (([] : List En).map lf)).v)) && (decide ((hd (([] : List Hs).take 0)).v = (hd (([] : List En).map lf)).v))) && true) && true) && true) && true))) := zp 40 (by kernel_rfl) (by kernel_rfl)
      have p41 : T[106]? = some (gw (true && (((((((decide ((hd []).v = (hd (([] : List En).map lf)).v)) && (decide ((hd (([] : List Hs).take 0)).v = (hd (([] : List En).map lf)).v))) && true) && true) && true) && true) == true)) (.slice aa3 0 cc3)) := zp 41 (by kernel_rfl) (by kernel_rfl)
      exact ⟨(true && (((((((decide ((hd []).v = (hd (([] : List En).map lf)).v)) && (decide ((hd (([] : List Hs).take 0)).v = (hd (([] : List En).map lf)).v))) && true) && true) && true) && true) == true)), want_g rfl rfl p40, fun hc => .inl ⟨_, _, ex_lenG rfl rfl Tryd.underlying44 (ev p41 hc), Upd.refl _ _, fun h => absurd h (by decide), fun T2 N => by rw [hc]; exact N.s 107 rfl⟩, fun _ => rfl, fun hc T2 N => by rw [hc]; exact N.s 107 rfl⟩
    · intro T df v zz zB zp zC
      have qb := zB.1
      have zU := zB.2
      have p40 : T[105]? = some (gw true (.bool ((((((decide ((hd []).v = (hd (([] : List En).map lf)).v)) && (decide ((hd (([] : List Hs).take 0)).v = (hd (([] : List En).map lf)).v))) && true) && true) && true) && true))) := zp 40 (by kernel_rfl) (by kernel_rfl)
      have p42 : T[107]? = some (gw (true && (((((((decide ((hd []).v = (hd (([] : List En).map lf)).v)) && (decide ((hd (([] : List Hs).take 0)).v = (hd (([] : List En).map lf)).v))) && true) && true) && true) && true) == true)) (.int .i64 ((0 : Nat) : Int))) := zp 42 (by kernel_rfl) (by kernel_rfl)
      exact ⟨(true && (((((((decide ((hd []).v = (hd (([] : List En).map lf)).v)) && (decide ((hd (([] : List Hs).take 0)).v = (hd (([] : List En).map lf)).v))) && true) && true) && true) && true) == true)), want_g rfl rfl p40, fun hc => .inl ⟨_, _, ex_bin (Y := .int .i64 ((0 : Nat) : Int)) rfl (ev p42 hc) rfl (eqT20 _ _ (by omega) _), Upd.refl _ _, fun h => absurd h (by decide), fun T2 N => by rw [hc]; exact N.s 108 rfl⟩, fun _ => rfl, fun hc T2 N => by rw [hc]; exact N.s 108 rfl⟩
    · intro T df v zz zB zp zC
      have qb := zB.1
      have zU := zB.2
      have p40 : T[105]? = some (gw true (.bool ((((((decide ((hd []).v = (hd (([] : List En).map lf)).v)) && (decide ((hd (([] : List Hs).take 0)).v = (hd (([] : List En).map lf)).v))) && true) && true) && true) && true))) := zp 40 (by kernel_rfl) (by kernel_rfl)
      have p43 : T[108]? = some (gw (true && (((((((decide ((hd []).v = (hd (([] : List En).map lf)).v)) && (decide ((hd (([] : List Hs).take 0)).v = (hd (([] : List En).map lf)).v))) && true) && true) && true) && true) == true)) (.bool true)) := zp 43 (by kernel_rfl) (by kernel_rfl)
      exact ⟨true, want_none rfl, fun _ => .inl ⟨_, _, ex_and (c := true) (b := ((((((decide ((hd []).v = (hd (([] : List En).map lf)).v)) && (decide ((hd (([] : List Hs).take 0)).v = (hd (([] : List En).map lf)).v))) && true) && true) && true) && true)) (z := true) rfl p40 p43 rfl, Upd.refl _ _, fun h => absurd h (by decide), fun T2 N => N.s 109 rfl⟩, fun h => absurd h (by decide), fun h => absurd h (by decide)⟩
    · intro T df v zz zB zp zC
      have qb := zB.1
      have zU := zB.2
      have p44 : T[109]? = some (gw true (.bool (((((((decide ((hd []).v = (hd (([] : List En).map lf)).v)) && (decide ((hd (([] : List Hs).take 0)).v = (hd (([] : List En).map lf)).v))) && true) && true) && true) && true) && true))) := zp 44 (by kernel_rfl) (by kernel_rfl)
      exact ⟨true, want_none rfl, fun _ => .inl ⟨_, _, ex_move rfl (ev p44 rfl), Upd.refl _ _, fun h => absurd h (by decide), fun T2 N => N.s 110 rfl⟩, fun h => absurd h (by decide), fun h => absurd h (by decide)⟩
    · intro T df v zz zB zp zC
      have qb := zB.1
      have zU := zB.2
      have p45 : T[110]? = some (gw true (.bool (((((((decide ((hd []).v = (hd (([] : List En).map lf)).v)) && (decide ((hd (([] : List Hs).take 0)).v = (hd (([] : List En).map lf)).v))) && true) && true) && true) && true) && true))) := zp 45 (by kernel_rfl) (by kernel_rfl)
      exact ⟨(true && ((((((((decide ((hd []).v = (hd (([] : List En).map lf)).v)) && (decide ((hd (([] : List Hs).take 0)).v = (hd (([] : List En).map lf)).v))) && true) && true) && true) && true) && true) == true)), want_g rfl rfl p45, fun hc => .inl ⟨_, _, ex_move rfl (qb.e (j := 11) rfl), Upd.refl _ _, fun h => absurd h (by decide), fun T2 N => by rw [hc]; exact N.s 111 rfl⟩, fun _ => rfl, fun hc T2 N => by rw [hc]; exact N.s 111 rfl⟩
    · intro T df v zz zB zp zC
      have qb := zB.1
      have zU := zB.2
      have p45 : T[110]? = some (gw true (.bool (((((((decide ((hd []).v = (hd (([] : List En).map lf)).v)) && (decide ((hd (([] : List Hs).take 0)).v = (hd (([] : List En).map lf)).v))) && true) && true) && true) && true) && true))) := zp 45 (by kernel_rfl) (by kernel_rfl)
      have p46 : T[111]? = some (gw (true && ((((((((decide ((hd []).v = (hd (([] : List En).map lf)).v)) && (decide ((hd (([] : List Hs).take 0)).v = (hd (([] : List En).map lf)).v))) && true) && true) && true) && true) && true) == true)) (.int .i64 (0 : Int))) := zp 46 (by kernel_rfl) (by kernel_rfl)
      exact ⟨(true && ((((((((decide ((hd []).v = (hd (([] : List En).map lf)).v)) && (decide ((hd (([] : List Hs).take 0)).v = (hd (([] : List En).map lf)).v))) && true) && true) && true) && true) && true) == true)), want_g rfl rfl p45, fun hc => .inl ⟨_, _, ex_bin (Y := .int .i64 ((0 : Nat) : Int)) rfl (ev p46 hc) rfl (eqEt _ _ _ _), Upd.refl _ _, fun h => absurd h (by decide), fun T2 N => by rw [hc]; exact N.s 112 rfl⟩, fun _ => rfl, fun hc T2 N => by rw [hc]; exact N.s 112 rfl⟩
    · intro T df v zz zB zp zC
      have qb := zB.1
      have zU := zB.2
      have p45 : T[110]? = some (gw true (.bool (((((((decide ((hd []).v = (hd (([] : List En).map lf)).v)) && (decide ((hd (([] : List Hs).take 0)).v = (hd (([] : List En).map lf)).v))) && true) && true) && true) && true) && true))) := zp 45 (by kernel_rfl) (by kernel_rfl)
      have p47 : T[112]? = some (gw (true && ((((((((decide ((hd []).v = (hd (([] : List En).map lf)).v)) && (decide ((hd (([] : List Hs).take 0)).v = (hd (([] : List En).map lf)).v))) && true) && true) && true) && true) && true) == true)) (.bool true)) := zp 47 (by kernel_rfl) (by kernel_rfl)
      exact ⟨true, want_none rfl, fun _ => .inl ⟨_, _, ex_and (c := true) (b := (((((((decide ((hd []).v = (hd (([] : List En).map lf)).v)) && (decide ((hd (([] : List Hs).take 0)).v = (hd (([] : List En).map lf)).v))) && true) && true) && true) && true) && true)) (z := true) rfl p45 p47 rfl, Upd.refl _ _, fun h => absurd h (by decide), fun T2 N => N.s 113 rfl⟩, fun h => absurd h (by decide), fun h => absurd h (by decide)⟩
    · intro T df v zz zB zp zC
      have qb := zB.1
      have zU := zB.2
      have p48 : T[113]? = some (gw true (.bool ((((((((decide ((hd []).v = (hd (([] : List En).map lf)).v)) && (decide ((hd (([] : List Hs).take 0)).v = (hd (([] : List En).map lf)).v))) && true) && true) && true) && true) && true) && true))) := zp 48 (by kernel_rfl) (by kernel_rfl)
      exact ⟨true, want_none rfl, fun _ => .inl ⟨_, _, ex_move rfl (ev p48 rfl), Upd.refl _ _, fun h => absurd h (by decide), fun T2 N => N.s 114 rfl⟩, fun h => absurd h (by decide), fun h => absurd h (by decide)⟩
    · intro T df v zz zB zp zC
      have qb := zB.1
      have zU := zB.2
      have p49 : T[114]? = some (gw true (.bool ((((((((decide ((hd []).v = (hd (([] : List En).map lf)).v)) && (decide ((hd (([] : List Hs).take 0)).v = (hd (([] : List En).map lf)).v))) && true) && true) && true) && true) && true) && true))) := zp 49 (by kernel_rfl) (by kernel_rfl)
      exact ⟨(true && (((((((((decide ((hd []).v = (hd (([] : List En).map lf)).v)) && (decide ((hd (([] : List Hs).take 0)).v = (hd (([] : List En).map lf)).v))) && true) && true) && true) && true) && true) && true) == true)), want_g rfl rfl p49, fun hc => .inl ⟨_, _, ex_move rfl (qb.e (j := 13) rfl), Upd.refl _ _, fun h => absurd h (by decide), fun T2 N => by rw [hc]; exact N.s 115 rfl⟩, fun _ => rfl, fun hc T2 N => by rw [hc]; exact N.s 115 rfl⟩
    · intro T df v zz zB zp zC
      have qb := zB.1
      have zU := zB.2
      have p49 : T[114]? = some (gw true (.bool ((((((((decide ((hd []).v = (hd (([] : List En).map lf)).v)) && (decide ((hd (([] : List Hs).take 0)).v = (hd (([] : List En).map lf)).v))) && true) && true) && true) && true) && true) && true))) := zp 49 (by kernel_rfl) (by kernel_rfl)
      have p50 : T[115]? = some (gw (true && (((((((((decide ((hd []).v = (hd (([] : List En).map lf)).v)) && (decide ((hd (([] : List Hs).take 0)).v = (hd (([] : List En).map lf)).v))) && true) && true) && true) && true) && true) && true) == true)) (.int .i64 (200 : Int))) := zp 50 (by kernel_rfl) (by kernel_rfl)
      exact ⟨(true && (((((((((decide ((hd []).v = (hd (([] : List En).map lf)).v)) && (decide ((hd (([] : List Hs).take 0)).v = (hd (([] : List En).map lf)).v))) && true) && true) && true) && true) && true) && true) == true)), want_g rfl rfl p49, fun hc => .inl ⟨_, _, ex_bin (Y := .int .i64 ((200 : Nat) : Int)) rfl (ev p50 hc) rfl (eqEt _ _ _ _), Upd.refl _ _, fun h => absurd h (by decide), fun T2 N => by rw [hc]; exact N.s 116 rfl⟩, fun _ => rfl, fun hc T2 N => by rw [hc]; exact N.s 116 rfl⟩
    · intro T df v zz zB zp zC
      have qb := zB.1
      have zU := zB.2
      have p49 : T[114]? = some (gw true (.bool ((((((((decide ((hd []).v = (hd (([] : List En).map lf)).v)) && (decide ((hd (([] : List Hs).take 0)).v = (hd (([] : List En).map lf)).v))) && true) && true) && true) && true) && true) && true))) := zp 49 (by kernel_rfl) (by kernel_rfl)
      have p51 : T[116]? = some (gw (true && (((((((((decide ((hd []).v = (hd (([] : List En).map lf)).v)) && (decide ((hd (([] : List Hs).take 0)).v = (hd (([] : List En).map lf)).v))) && true) && true) && true) && true) && true) && true) == true)) (.bool true)) := zp 51 (by kernel_rfl) (by kernel_rfl)
      exact ⟨true, want_none rfl, fun _ => .inl ⟨_, _, ex_and (c := true) (b := ((((((((decide ((hd []).v = (hd (([] : List En).map lf)).v)) && (decide ((hd (([] : List Hs).take 0)).v = (hd (([] : List En).map lf)).v))) && true) && true) && true) && true) && true) && true)) (z := true) rfl p49 p51 rfl, Upd.refl _ _, fun h => absurd h (by decide), fun T2 N => N.s 117 rfl⟩, fun h => absurd h (by decide), fun h => absurd h (by decide)⟩
    · intro T df v zz zB zp zC
      have qb := zB.1
      have zU := zB.2
      have p52 : T[117]? = some (gw true (.bool (((((((((decide ((hd []).v = (hd (([] : List En).map lf)).v)) && (decide ((hd (([] : List Hs).take 0)).v = (hd (([] : List En).map lf)).v))) && true) && true) && true) && true) && true) && true) && true))) := zp 52 (by kernel_rfl) (by kernel_rfl)
      exact ⟨true, want_none rfl, fun _ => .inl ⟨_, _, ex_move rfl (ev p52 rfl), Upd.refl _ _, fun h => absurd h (by decide), fun T2 N => N.s 118 rfl⟩, fun h => absurd h (by decide), fun h => absurd h (by decide)⟩
    · intro T df v zz zB zp zC
      have qb := zB.1
      have zU := zB.2
      have p53 : T[118]? = some (gw true (.bool (((((((((decide ((hd []).v = (hd (([] : List En).map lf)).v)) && (decide ((hd (([] : List Hs).take 0)).v = (hd (([] : List En).map lf)).v))) && true) && true) && true) && true) && true) && true) && true))) := zp 53 (by kernel_rfl) (by kernel_rfl)
      exact ⟨(true && ((((((((((decide ((hd []).v = (hd (([] : List En).map lf)).v)) && (decide ((hd (([] : List Hs).take 0)).v = (hd (([] : List En).map lf)).v))) && true) && true) && true) && true) && true) && true) && true) == true)), want_g rfl rfl p53, fun hc => .inl ⟨_, _, ex_move rfl (qb.e (j := 15) rfl), Upd.refl _ _, fun h => absurd h (by decide), fun T2 N => by rw [hc]; exact N.s 119 rfl⟩, fun _ => rfl, fun hc T2 N => by rw [hc]; exact N.s 119 rfl⟩
    · intro T df v zz zB zp zC
      have qb := zB.1
      have zU := zB.2
      have p53 : T[118]? = some (gw true (.bool (((((((((decide ((hd []).v = (hd (([] : List En).map lf)).v)) && (decide ((hd (([] : List Hs).take 0)).v = (hd (([] : List En).map lf)).v))) && true) && true) && true) && true) && true) && true) && true))) := zp 53 (by kernel_rfl) (by kernel_rfl)
      have p54 : T[119]? = some (gw (true && ((((((((((decide ((hd []).v = (hd (([] : List En).map lf)).v)) && (decide ((hd (([] : List Hs).take 0)).v = (hd (([] : List En).map lf)).v))) && true) && true) && true) && true) && true) && true) && true) == true)) (.int .i64 (200 : Int))) := zp 54 (by kernel_rfl) (by kernel_rfl)
      exact ⟨(true && ((((((((((decide ((hd []).v = (hd (([] : List En).map lf)).v)) && (decide ((hd (([] : List Hs).take 0)).v = (hd (([] : List En).map lf)).v))) && true) && true) && true) && true) && true) && true) && true) == true)), want_g rfl rfl p53, fun hc => .inl ⟨_, _, ex_bin (Y := .int .i64 ((200 : Nat) : Int)) rfl (ev p54 hc) rfl (eqEt _ _ _ _), Upd.refl _ _, fun h => absurd h (by decide), fun T2 N => by rw [hc]; exact N.s 120 rfl⟩, fun _ => rfl, fun hc T2 N => by rw [hc]; exact N.s 120 rfl⟩
    · intro T df v zz zB zp zC
      have qb := zB.1
      have zU := zB.2
      have p53 : T[118]? = some (gw true (.bool (((((((((decide ((hd []).v = (hd (([] : List En).map lf)).v)) && (decide ((hd (([] : List Hs).take 0)).v = (hd (([] : List En).map lf)).v))) && true) && true) && true) && true) && true) && true) && true))) := zp 53 (by kernel_rfl) (by kernel_rfl)
      have p55 : T[120]? = some (gw (true && ((((((((((decide ((hd []).v = (hd (([] : List En).map lf)).v)) && (decide ((hd (([] : List Hs).take 0)).v = (hd (([] : List En).map lf)).v))) && true) && true) && true) && true) && true) && true) && true) == true)) (.bool true)) := zp 55 (by kernel_rfl) (by kernel_rfl)
      exact ⟨true, want_none rfl, fun _ => .inl ⟨_, _, ex_and (c := true) (b := (((((((((decide ((hd []).v = (hd (([] : List En).map lf)).v)) && (decide ((hd (([] : List Hs).take 0)).v = (hd (([] : List En).map lf)).v))) && true) && true) && true) && true) && true) && true) && true)) (z := true) rfl p53 p55 rfl, Upd.refl _ _, fun h => absurd h (by decide), fun T2 N => N.s 121 rfl⟩, fun h => absurd h (by decide), fun h => absurd h (by decide)⟩
    · intro T df v zz zB zp zC
      have qb := zB.1
      have zU := zB.2
      have p56 : T[121]? = some (gw true (.bool ((((((((((decide ((hd []).v = (hd (([] : List En).map lf)).v)) && (decide ((hd (([] : List Hs).take 0)).v = (hd (([] : List En).map lf)).v))) && true) && true) && true) && true) && true) && true) && true) && true))) := zp 56 (by kernel_rfl) (by kernel_rfl)
      exact ⟨true, want_none rfl, fun _ => .inl ⟨_, _, ex_assign rfl (ev p56 rfl), Upd.refl _ _, fun h => absurd h (by decide), fun T2 N => N.s 0 rfl⟩, fun h => absurd h (by decide), fun h => absurd h (by decide)⟩
  intro T v138 zz zB zq za
  have qb := zB.1
  have U139 := zB.2
  clear zB zz
  clear q68
  have d140 : Below w.heap.size w v138 := d135.trans (U139.below (Nat.le_trans d135.size (Nat.le_refl _)) (fun k hk => hk.elim))
  have zv138 := U139.size
  have p57 : T[0]? = some (gw true (.bool ((((((((((decide ((hd []).v = (hd (([] : List En).map lf)).v)) && (decide ((hd (([] : List Hs).take 0)).v = (hd (([] : List En).map lf)).v))) && true) && true) && true) && true) && true) && true) && true) && true))) := zq 57 _ rfl (fun k => rfl)
  have q69 := (qb.cons p57)
  clear zq za qb p57
  go_wp2
  refine bodyPost_ret (results_tmp rfl _ _ _) rfl ?_
  rw [getD_of (q69.a 0 rfl)]
  exact ⟨by simp [gw], d140⟩
end Go.Proofs.YtomiifnhcojilaaDoor
