import Derived.Test.YteeofcoehffegaaDoorK8
set_option maxRecDepth 100000
set_option linter.unusedVariables false
set_option linter.unusedSimpArgs false
namespace Go.Proofs.YteeofcoehffegaaDoor
open Go.RowKit Go.Maps
open Classical
set_option maxHeartbeats 2000000 in
theorem towns20 (l0 o0 : List En) (a1 : Option Addr) (n1 c1 : Nat) (a2 : Option Addr) (n2 c2 : Nat) (pl : Int) (w : World) (h1 : SlY yE w a1 n1 c1 l0) (h2 : SlY yE w a2 n2 c2 o0) (ht : Tb w) (hv1 : ∀ x ∈ l0, x.o.v.size ≤ 140737488351232) (hv2 : ∀ x ∈ o0, x.o.v.size ≤ 140737488351232) :
    Calls Tryd.prog 4 #[.slice a1 n1 c1, .slice a2 n2 c2, .int .i64 pl] w fun e w' => e = .returned (.bool true) ∧ Below w.heap.size w w' := by
  go_enter Tryd.func4, Tryd.ntmps4
  go_upto_region 0 with fail
  refine wp_region_lit ?_
  refine vl_gen (fun T => Rp T 217 [(2, gw true (.int .i64 pl)), (1, gw true (.slice a2 n2 c2)), (0, gw true (.slice a1 n1 c1))]) ((((Rp.nil rfl).cons rfl).cons rfl).cons rfl) (fun Z0 q0 => ?_)
  refine q0.t (.bool false) (ex_assign rfl rfl) fun _ q1 => ?_;clear q0
  refine wpList_nil ?_
  go_upto_region 1 with fail
  refine wp_region_lit ?_
  refine q1.t (.slice a1 n1 c1) (ex_move rfl (q1.e (j := 0) rfl)) fun _ q2 => ?_;clear q1
  refine vcallP (want_none rfl) (ex_call rfl (by simp only [List.map_toArray, List.map_cons, List.map_nil, (q2.e (j := 29) rfl), evc] <;> rfl) rfl) (few20 l0 a1 n1 c1 w h1) rfl q2.z (by decide) ?_
  rintro e w90 ⟨rfl, hw90⟩
  refine ⟨_, rfl, q2.k fun _ q3 => ?_⟩;clear q2
  have hw90 := hw90.symm
  subst hw90
  refine q3.t (.slice a1 (min n1 200) c1) (ex_assign rfl (q3.e (j := 30) rfl)) fun _ q4 => ?_;clear q3
  refine wpList_nil ?_
  go_upto_region 2 with fail
  refine wp_region_lit ?_
  refine q4.t (.slice a2 n2 c2) (ex_move rfl (q4.e (j := 1) rfl)) fun _ q5 => ?_;clear q4
  refine vcallP (want_none rfl) (ex_call rfl (by simp only [List.map_toArray, List.map_cons, List.map_nil, (q5.e (j := 31) rfl), evc] <;> rfl) rfl) (few20 o0 a2 n2 c2 w h2) rfl q5.z (by decide) ?_
  rintro e w91 ⟨rfl, hw91⟩
  refine ⟨_, rfl, q5.k fun _ q6 => ?_⟩;clear q5
  have hw91 := hw91.symm
  subst hw91
  refine q6.t (.slice a2 (min n2 200) c2) (ex_assign rfl (q6.e (j := 32) rfl)) fun _ q7 => ?_;clear q6
  have q8 := ((((Rp.nil q7.z).cons (q7.a 0 rfl)).cons (q7.a 1 rfl)).cons (q7.a 2 rfl))
  clear q7
  refine wpList_nil ?_
  have s10 := h1.take (min n1 200) (by omega)
  have hv10 : ∀ x ∈ l0.take (min n1 200), x.o.v.size ≤ 140737488351232 := fun x hx => hv1 x (List.mem_of_mem_take hx)
  generalize l0.take (min n1 200) = l at s10 hv10
  have hl1 : l.length ≤ 200 := by have := s10.len; omega
  have e10 := s10.len.symm
  rw [e10] at s10 q8
  clear e10
  have s20 := h2.take (min n2 200) (by omega)
  have hv20 : ∀ x ∈ o0.take (min n2 200), x.o.v.size ≤ 140737488351232 := fun x hx => hv2 x (List.mem_of_mem_take hx)
  generalize o0.take (min n2 200) = o at s20 hv20
  have hl2 : o.length ≤ 200 := by have := s20.len; omega
  have e20 := s20.len.symm
  rw [e20] at s20 q8
  clear e20
  go_upto_region 3 with fail
  go_upto_region 3 with fail
  refine wp_region_lit ?_
  refine vcallP (want_none rfl) (ex_call (args := #[]) rfl (by simp) rfl) (new20 w) rfl q8.z (by decide) ?_
  rintro e w1 ⟨rfl, T1, b1, z1⟩
  refine ⟨_, rfl, q8.k fun _ q9 => ?_⟩;clear q8
  refine q9.t (.pointer (some ⟨w.heap.size, 0, none⟩)) (ex_assign rfl (q9.e (j := 33) rfl)) fun _ q10 => ?_;clear q9
  refine wpList_nil ?_
  go_upto_region 4 with fail
  refine wp_region_lit ?_
  refine vcallP (want_none rfl) (ex_call (args := #[]) rfl (by simp) rfl) (new20 w1) rfl q10.z (by decide) ?_
  rintro e w2 ⟨rfl, T2, b2, z2⟩
  refine ⟨_, rfl, q10.k fun _ q11 => ?_⟩;clear q10
  refine q11.t (.pointer (some ⟨w1.heap.size, 0, none⟩)) (ex_assign rfl (q11.e (j := 34) rfl)) fun _ q12 => ?_;clear q11
  refine wpList_nil ?_
  go_upto_region 5 with fail
  refine wp_region_lit ?_
  refine q12.t (.pointer (some ⟨w.heap.size, 0, none⟩)) (ex_move rfl (q12.e (j := 7) rfl)) fun _ q13 => ?_;clear q12
  refine q13.t (.bool false) (ex_bin (Y := .pointer none) rfl (q13.e (j := 35) rfl) rfl (eqPT20 _ _ _ _)) fun _ q14 => ?_;clear q13
  refine q14.t (.bool false) (ex_move rfl (q14.e (j := 36) rfl)) fun _ q15 => ?_;clear q14
  refine vl _ (.pointer (some ⟨w1.heap.size, 0, none⟩)) (want_g rfl rfl (q15.a 37 rfl)) (fun hc => ex_move rfl (q15.e (j := 8) rfl)) rfl q15.z (by decide) (q15.k fun _ q16 => ?_);clear q15
  refine vl _ (.bool false) (want_g rfl rfl (q16.a 37 rfl)) (fun hc => ex_bin (Y := .pointer none) rfl (ev (q16.a 38 rfl) hc) rfl (eqPT20 _ _ _ _)) rfl q16.z (by decide) (q16.k fun _ q17 => ?_);clear q16
  refine q17.t (.bool false) (ex_or (c := true) (b := false) (z := false) rfl (q17.a 37 rfl) (q17.a 39 rfl) rfl) fun _ q18 => ?_;clear q17
  refine q18.t (.bool false) (ex_move rfl (q18.e (j := 40) rfl)) fun _ q19 => ?_;clear q18
  refine vcallP (show Region.wanted _ _ = (true && (false == false)) from want_g rfl rfl (q19.a 41 rfl)) (ex_call (args := #[]) rfl (by simp) rfl) (works20 w2) rfl q19.z (by decide) ?_
  rintro e w3 ⟨rfl, b3⟩
  refine ⟨_, rfl, q19.k fun _ q20 => ?_⟩;clear q19
  refine vl _ (.bool false) (want_g rfl rfl (q20.a 41 rfl)) (fun hc => ex_not rfl (ev (q20.a 42 rfl) hc)) rfl q20.z (by decide) (q20.k fun _ q21 => ?_);clear q20
  refine q21.t (.bool false) (ex_or (c := true) (b := false) (z := false) rfl (q21.a 41 rfl) (q21.a 43 rfl) rfl) fun _ q22 => ?_;clear q21
  refine wpList_nil ?_
  go_upto_region 7 with fail
  refine wp_cond_false (q22.e (j := 44) rfl) ?_
  go_upto_region 7 with fail
  refine wp_region_lit ?_
  refine q22.t (.slice none 0 0) (ex_assign rfl rfl) fun _ q23 => ?_;clear q22
  refine wpList_nil ?_
  go_upto_region 8 with fail
  refine wp_region_lit ?_
  refine q23.t (.slice none 0 0) (ex_move rfl (q23.e (j := 9) rfl)) fun _ q24 => ?_;clear q23
  refine q24.t (.slice a1 l.length c1) (ex_move rfl (q24.e (j := 0) rfl)) fun _ q25 => ?_;clear q24
  have y3 := b3.size
  have d3 : Below w.heap.size w w3 := (b1.trans (b2.mono (by omega))).trans (b3.mono (by omega))
  obtain ⟨v4, w4, ha4, o4, g4, _⟩ := run_appY kE w3 25 w3.heap.size [] (.slice none 0 0) a1 l.length c1 l (s10.later d3) (OwnY.nil _ _ _) (Nat.le_refl _) (by show 0 + l.length ≤ maxLen; unfold maxLen; omega) (by show (0 + l.length) * 48 ≤ _; omega)
  have o4 : OwnY yE w3.heap.size w4 v4 l := o4
  have b4 : Below w3.heap.size w3 w4 := (gupd20 g4).below (Nat.le_refl _) (fun k hk => by cases hk)
  have y4 := b4.size
  obtain ⟨ao, co, hv4, _, _, _, _⟩ := o4.form
  subst hv4
  refine vw (.slice ao l.length co) w4 (want_none rfl) (ex_app18 rfl (q25.e (j := 45) rfl) (q25.e (j := 46) rfl) ha4) rfl q25.z (by decide) (q25.k fun _ q26 => ?_);clear q25
  refine q26.t (.slice ao l.length co) (ex_assign rfl (q26.e (j := 47) rfl)) fun _ q27 => ?_;clear q26
  refine wpList_nil ?_
  go_upto_region 9 with fail
  refine wp_region_lit ?_
  refine q27.t (.int .i64 ((0 : Nat) : Int)) (ex_assign rfl rfl) fun _ q28 => ?_;clear q27
  have q29 := ((((((((Rp.nil q28.z).cons (q28.a 0 rfl)).cons (q28.a 1 rfl)).cons (q28.a 2 rfl)).cons (q28.a 7 rfl)).cons (q28.a 8 rfl)).cons (q28.a 9 rfl)).cons (q28.a 10 rfl))
  clear q28
  refine wpList_nil ?_
  go_upto_region 10 with fail
  have d4 : Below w.heap.size w w4 := d3.trans (b4.mono (by omega))
  have T14 : TV w4 w4.heap.size w.heap.size (.slice none 0 0) [] (List.replicate 63 zH) := ⟨((T1.box.later b2).later b3).later b4, OwnY.nil _ _ _, by omega, Nat.le_refl _⟩
  have T24 : TV w4 (w1.heap.size + 1) w1.heap.size (.slice none 0 0) [] (List.replicate 63 zH) := (T2.later b3).later b4
  clear T1 T2 b1 b2 b3 d3 g4 ha4 b4
  refine v_loop 10 l.length (fun j T wr => ∃ (v : Value) (E : List Hs), Rp T 217 [(10, gw true (.int .i64 ((j : Nat) : Int))), (9, gw true (.slice ao l.length co)), (8, gw true (.pointer (some ⟨w1.heap.size, 0, none⟩))), (7, gw true (.pointer (some ⟨w.heap.size, 0, none⟩))), (2, gw true (.int .i64 pl)), (1, gw true (.slice a2 o.length c2)), (0, gw true (.slice a1 l.length c1))] ∧ Hid (TV wr w4.heap.size w.heap.size v ((l.take j).map lf) E ∧ EdgeOf ((l.take j).map lf) E ∧ Upd (fun k => k = w.heap.size ∨ w4.heap.size ≤ k) w4 wr)) (fun j T w h => by obtain ⟨_, _, h, _⟩ := h; exact h.a 10 rfl) ⟨_, _, q29, T14, edge_nil, Upd.refl _ _⟩ ?_
  clear q29
  intro j T wr hj hh
  obtain ⟨v, E, q100, HJ⟩ := hh
  obtain ⟨TVr, he, ur⟩ := HJ.out
  clear HJ
  have zr := ur.size
  have dr : Below w.heap.size w wr := d4.trans (ur.below (by have := d4.size; omega) (fun k hk => by have := d4.size; rcases hk with e | e <;> omega))
  have htl : ((l.take j).map lf).length = j := by rw [List.length_map, List.length_take]; omega
  by_cases hit : j < l.length
  · obtain ⟨x, hx⟩ : ∃ x, l[j]? = some x := ⟨_, List.getElem?_eq_getElem (by omega)⟩
    obtain ⟨qa, oa, hqa, hqal, hl9⟩ := s10.place (by rintro e; rw [e] at hx; simp at hx)
    have hlie : LieY yE wr qa oa l := hl9.upd (S := fun _ => False) (Upd.of_below dr) hqal id
    go_upto_region 10 with fail
    refine wp_region_lit ?_
    refine q100.t (.int .i64 ((j : Nat) : Int)) (ex_move rfl (q100.e (j := 10) rfl)) fun _ q101 => ?_;clear q100
    refine q101.t (.slice a1 l.length c1) (ex_move rfl (q101.e (j := 0) rfl)) fun _ q102 => ?_;clear q101
    refine q102.t (.int .i64 ((l.length : Nat) : Int)) (ex_lenG rfl rfl Tryd.underlying25 (q102.e (j := 49) rfl)) fun _ q103 => ?_;clear q102
    refine q103.t (.bool true) (ex_bin rfl (q103.e (j := 48) rfl) (q103.e (j := 50) rfl) (ltT _ _ hit _)) fun _ q104 => ?_;clear q103
    refine wpList_nil ?_
    go_upto_region 12 with fail
    refine wp_cond_true (q104.e (j := 51) rfl) ?_
    go_upto_region 12 with fail
    refine wp_region_lit ?_
    refine q104.t (.pointer (some ⟨w.heap.size, 0, none⟩)) (ex_move rfl (q104.e (j := 7) rfl)) fun _ q105 => ?_;clear q104
    refine q105.t (.slice a1 l.length c1) (ex_move rfl (q105.e (j := 0) rfl)) fun _ q106 => ?_;clear q105
    refine q106.t (.int .i64 ((j : Nat) : Int)) (ex_move rfl (q106.e (j := 10) rfl)) fun _ q107 => ?_;clear q106
    refine q107.t (.pointer (some ⟨qa, oa + j * 5, none⟩)) (ex_ix rfl (q107.e (j := 55) rfl) (q107.e (j := 56) rfl) (by rw [hqa]; exact ixE20 qa oa _ _ j hit _)) fun _ q108 => ?_;clear q107
    refine q108.t (x.val20) (ex_ld rfl (q108.e (j := 57) rfl) (ldEl20 hlie hx)) fun _ q109 => ?_;clear q108
    refine vcallP (want_none rfl) (ex_call rfl (by simp only [List.map_toArray, List.map_cons, List.map_nil, (q109.e (j := 54) rfl), (q109.e (j := 58) rfl), evc] <;> rfl) rfl) (add20 w4.heap.size w.heap.size v _ E x wr TVr (by rw [htl]; omega) (by have := hv10 x (List.mem_of_getElem? hx); omega)) rfl q109.z (by decide) ?_
    rintro e r7 ⟨rfl, v7, TV7, U7, _⟩
    refine ⟨_, rfl, q109.k fun _ q110 => ?_⟩;clear q109
    have E7 := edge_add (x := lf x) he (by rw [htl]; omega)
    have em : (l.take j).map lf ++ [lf x] = (l.take (j + 1)).map lf := by rw [List.take_add_one, hx, List.map_append]; rfl
    rw [em] at TV7 E7
    have u7 : Upd (fun k => k = w.heap.size ∨ w4.heap.size ≤ k) w4 r7 := ur.tr20 U7 (fun i hi hr => by
      rcases hr with e | e
      · exact .inl e
      · exact .inr (TVr.own.blk i e).1)
    clear TVr he ur U7
    refine wpList_nil ?_
    go_upto_region 11 with fail
    refine wp_region_lit ?_
    refine q110.t (.int .i64 ((j : Nat) : Int)) (ex_move rfl (q110.e (j := 10) rfl)) fun _ q111 => ?_;clear q110
    refine q111.t (.int .i64 ((j + 1 : Nat) : Int)) (ex_bin rfl (q111.e (j := 52) rfl) rfl (add1C _ _ j (by omega) _)) fun _ q112 => ?_;clear q111
    refine q112.t (.int .i64 ((j + 1 : Nat) : Int)) (ex_assign rfl (q112.e (j := 53) rfl)) fun _ q113 => ?_;clear q112
    have q114 := ((((((((Rp.nil q113.z).cons (q113.a 0 rfl)).cons (q113.a 1 rfl)).cons (q113.a 2 rfl)).cons (q113.a 7 rfl)).cons (q113.a 8 rfl)).cons (q113.a 9 rfl)).cons (q113.a 10 rfl))
    clear q113
    refine wpList_nil ?_
    exact ⟨_, rfl, hit, v7, _, q114, TV7, E7, u7⟩
  · obtain rfl : j = l.length := by omega
    rw [List.take_length] at TVr he
    go_upto_region 10 with fail
    refine wp_region_lit ?_
    refine q100.t (.int .i64 ((l.length : Nat) : Int)) (ex_move rfl (q100.e (j := 10) rfl)) fun _ q101 => ?_;clear q100
    refine q101.t (.slice a1 l.length c1) (ex_move rfl (q101.e (j := 0) rfl)) fun _ q102 => ?_;clear q101
    refine q102.t (.int .i64 ((l.length : Nat) : Int)) (ex_lenG rfl rfl Tryd.underlying25 (q102.e (j := 49) rfl)) fun _ q103 => ?_;clear q102
    refine q103.t (.bool false) (ex_bin rfl (q103.e (j := 48) rfl) (q103.e (j := 50) rfl) (ltF _ _ hit _)) fun _ q104 => ?_;clear q103
    refine wpList_nil ?_
    go_upto_region 13 with fail
    refine wp_cond_false (q104.e (j := 51) rfl) ?_
    go_upto_region 13 with fail
    refine wp_region_lit ?_
    refine q104.t (.pointer (some ⟨w.heap.size, 0, none⟩)) (ex_move rfl (q104.e (j := 7) rfl)) fun _ q105 => ?_;clear q104
    refine vcallP (want_none rfl) (ex_call rfl (by simp only [List.map_toArray, List.map_cons, List.map_nil, (q105.e (j := 60) rfl), evc] <;> rfl) rfl) (head_any20 TVr he (ht.of_below dr ht.lt) (by rw [List.length_map]; omega)) rfl q105.z (by decide) ?_
    rintro e w6 ⟨rfl, b6⟩
    refine ⟨_, rfl, q105.k fun _ q106 => ?_⟩;clear q105
    obtain ⟨w7, hw7⟩ : ∃ y, y = w6.alloc (.cells (zH.cs).toArray 38) := ⟨_, rfl⟩
    refine vw (.pointer (some ⟨w6.heap.size, 0, none⟩)) w7 (want_none rfl) (ex_al rfl (by rw [hw7]; exact alH _)) rfl q106.z (by decide) (q106.k fun _ q107 => ?_);clear q106
    have Bw7 : BB w7 w6.heap.size 38 (zH.cs) := by rw [hw7]; exact BB.new _ _ _
    have bw7 : Below w6.heap.size w6 w7 := by rw [hw7]; exact (Below.refl _ _).alloc (Nat.le_refl _) _
    have zw7 : w7.heap.size = w6.heap.size + 1 := by rw [hw7]; exact World.size_alloc _ _
    clear hw7
    obtain ⟨w8, hw8⟩ : ∃ y, y = w7.setCells w6.heap.size 0 ((hd (l.map lf))).cs := ⟨_, rfl⟩
    refine vs w8 (want_none rfl) (ex_st rfl (q107.e (j := 11) rfl) (q107.e (j := 61) rfl) (by rw [hw8]; exact Bw7.stH rfl _)) rfl ?_
    have Bw8 : BB w8 w6.heap.size 38 ((hd (l.map lf))).cs := by rw [hw8]; exact Bw7.putH rfl _
    have uw8 : Upd (fun k => k = w6.heap.size) w7 w8 := by rw [hw8]; exact upd18 _ _ _ _
    clear hw8
    refine wpList_nil ?_
    have y6 := b6.size
    have y8 := uw8.size
    have d8 : Below w.heap.size w w8 := ((dr.trans (b6.mono (by have := dr.size; omega))).trans (bw7.mono (by have := dr.size; omega))).trans (bel_ge uw8 (by have := dr.size; omega) (by have := dr.size; omega))
    have het := he
    have TT8 := ((TVr.later b6).later bw7).upd20 uw8 (by omega) (fun g hg e => by have := (TVr.own.blk g hg).2; have e2 : g = w6.heap.size := e; omega)
    have TU8 : TV w8 w8.heap.size w1.heap.size (.slice none 0 0) [] (List.replicate 63 zH) := ⟨((((T24.upd20 ur (by omega) (fun g hg => by cases hg)).later b6).later bw7).upd20 uw8 (by omega) (fun g hg => by cases hg)).box, OwnY.nil _ _ _, by omega, Nat.le_refl _⟩
    have o4b := o4.blk
    have o8 : OwnY yE w3.heap.size w8 (.slice ao l.length co) l := (((o4.upd1 ur (fun g hg e => by have := o4b g hg; rcases e with e | e <;> omega)).grow b6).grow bw7).upd1 uw8 (fun g hg e => by have := o4b g hg; have e2 : g = w6.heap.size := e; omega)
    have tvb : ∀ g, v.ownBlock = some g → w4.heap.size ≤ g ∧ g < w8.heap.size := fun g hg => by have := TVr.own.blk g hg; omega
    clear TVr he ur T14 T24 o4 dr b6 bw7 uw8
    have vt9 := v
    clear vt9
    generalize v = vt at *
    generalize E = Et at *
    go_upto_region 14 with fail
    refine wp_region_lit ?_
    refine q107.t (.int .i64 ((0 : Nat) : Int)) (ex_assign rfl rfl) fun _ q108 => ?_;clear q107
    have q109 := (((((((((Rp.nil q108.z).cons (q108.a 0 rfl)).cons (q108.a 1 rfl)).cons (q108.a 2 rfl)).cons (q108.a 7 rfl)).cons (q108.a 8 rfl)).cons (q108.a 9 rfl)).cons (q108.a 11 rfl)).cons (q108.a 12 rfl))
    clear q108
    refine wpList_nil ?_
    go_upto_region 15 with fail
    refine v_loop 12 o.length (fun j T wr => ∃ (v : Value) (E : List Hs), Rp T 217 [(12, gw true (.int .i64 ((j : Nat) : Int))), (11, gw true (.pointer (some ⟨w6.heap.size, 0, none⟩))), (9, gw true (.slice ao l.length co)), (8, gw true (.pointer (some ⟨w1.heap.size, 0, none⟩))), (7, gw true (.pointer (some ⟨w.heap.size, 0, none⟩))), (2, gw true (.int .i64 pl)), (1, gw true (.slice a2 o.length c2)), (0, gw true (.slice a1 l.length c1))] ∧ Hid (TV wr w8.heap.size w1.heap.size v ((o.take j).map lf) E ∧ EdgeOf ((o.take j).map lf) E ∧ Upd (fun k => k = w1.heap.size ∨ w8.heap.size ≤ k) w8 wr)) (fun j T w h => by obtain ⟨_, _, h, _⟩ := h; exact h.a 12 rfl) ⟨_, _, q109, TU8, edge_nil, Upd.refl _ _⟩ ?_
    clear q109
    intro j T wr hj hh
    obtain ⟨v, E, q300, HJ⟩ := hh
    obtain ⟨TVr, he, ur⟩ := HJ.out
    clear HJ
    have zr := ur.size
    have dr : Below w.heap.size w wr := d8.trans (ur.below (by have := d8.size; omega) (fun k hk => by have := d8.size; rcases hk with e | e <;> omega))
    have htl : ((o.take j).map lf).length = j := by rw [List.length_map, List.length_take]; omega
    by_cases hit : j < o.length
    · obtain ⟨x, hx⟩ : ∃ x, o[j]? = some x := ⟨_, List.getElem?_eq_getElem (by omega)⟩
      obtain ⟨qa, oa, hqa, hqal, hl9⟩ := s20.place (by rintro e; rw [e] at hx; simp at hx)
      have hlie : LieY yE wr qa oa o := hl9.upd (S := fun _ => False) (Upd.of_below dr) hqal id
      go_upto_region 15 with fail
      refine wp_region_lit ?_
      refine q300.t (.int .i64 ((j : Nat) : Int)) (ex_move rfl (q300.e (j := 12) rfl)) fun _ q301 => ?_;clear q300
      refine q301.t (.slice a2 o.length c2) (ex_move rfl (q301.e (j := 1) rfl)) fun _ q302 => ?_;clear q301
      refine q302.t (.int .i64 ((o.length : Nat) : Int)) (ex_lenG rfl rfl Tryd.underlying25 (q302.e (j := 63) rfl)) fun _ q303 => ?_;clear q302
      refine q303.t (.bool true) (ex_bin rfl (q303.e (j := 62) rfl) (q303.e (j := 64) rfl) (ltT _ _ hit _)) fun _ q304 => ?_;clear q303
      refine wpList_nil ?_
      go_upto_region 17 with fail
      refine wp_cond_true (q304.e (j := 65) rfl) ?_
      go_upto_region 17 with fail
      refine wp_region_lit ?_
      refine q304.t (.pointer (some ⟨w1.heap.size, 0, none⟩)) (ex_move rfl (q304.e (j := 8) rfl)) fun _ q305 => ?_;clear q304
      refine q305.t (.slice a2 o.length c2) (ex_move rfl (q305.e (j := 1) rfl)) fun _ q306 => ?_;clear q305
      refine q306.t (.int .i64 ((j : Nat) : Int)) (ex_move rfl (q306.e (j := 12) rfl)) fun _ q307 => ?_;clear q306
      refine q307.t (.pointer (some ⟨qa, oa + j * 5, none⟩)) (ex_ix rfl (q307.e (j := 69) rfl) (q307.e (j := 70) rfl) (by rw [hqa]; exact ixE20 qa oa _ _ j hit _)) fun _ q308 => ?_;clear q307
      refine q308.t (x.val20) (ex_ld rfl (q308.e (j := 71) rfl) (ldEl20 hlie hx)) fun _ q309 => ?_;clear q308
      refine vcallP (want_none rfl) (ex_call rfl (by simp only [List.map_toArray, List.map_cons, List.map_nil, (q309.e (j := 68) rfl), (q309.e (j := 72) rfl), evc] <;> rfl) rfl) (add20 w8.heap.size w1.heap.size v _ E x wr TVr (by rw [htl]; omega) (by have := hv20 x (List.mem_of_getElem? hx); omega)) rfl q309.z (by decide) ?_
      rintro e r7 ⟨rfl, v7, TV7, U7, _⟩
      refine ⟨_, rfl, q309.k fun _ q310 => ?_⟩;clear q309
      have E7 := edge_add (x := lf x) he (by rw [htl]; omega)
      have em : (o.take j).map lf ++ [lf x] = (o.take (j + 1)).map lf := by rw [List.take_add_one, hx, List.map_append]; rfl
      rw [em] at TV7 E7
      have u7 : Upd (fun k => k = w1.heap.size ∨ w8.heap.size ≤ k) w8 r7 := ur.tr20 U7 (fun i hi hr => by
        rcases hr with e | e
        · exact .inl e
        · exact .inr (TVr.own.blk i e).1)
      clear TVr he ur U7
      refine wpList_nil ?_
      go_upto_region 16 with fail
      refine wp_region_lit ?_
      refine q310.t (.int .i64 ((j : Nat) : Int)) (ex_move rfl (q310.e (j := 12) rfl)) fun _ q311 => ?_;clear q310
      refine q311.t (.int .i64 ((j + 1 : Nat) : Int)) (ex_bin rfl (q311.e (j := 66) rfl) rfl (add1C _ _ j (by omega) _)) fun _ q312 => ?_;clear q311
      refine q312.t (.int .i64 ((j + 1 : Nat) : Int)) (ex_assign rfl (q312.e (j := 67) rfl)) fun _ q313 => ?_;clear q312
      have q314 := (((((((((Rp.nil q313.z).cons (q313.a 0 rfl)).cons (q313.a 1 rfl)).cons (q313.a 2 rfl)).cons (q313.a 7 rfl)).cons (q313.a 8 rfl)).cons (q313.a 9 rfl)).cons (q313.a 11 rfl)).cons (q313.a 12 rfl))
      clear q313
      refine wpList_nil ?_
      exact ⟨_, rfl, hit, v7, _, q314, TV7, E7, u7⟩
    · obtain rfl : j = o.length := by omega
      rw [List.take_length] at TVr he
      go_upto_region 15 with fail
      refine wp_region_lit ?_
      refine q300.t (.int .i64 ((o.length : Nat) : Int)) (ex_move rfl (q300.e (j := 12) rfl)) fun _ q301 => ?_;clear q300
      refine q301.t (.slice a2 o.length c2) (ex_move rfl (q301.e (j := 1) rfl)) fun _ q302 => ?_;clear q301
      refine q302.t (.int .i64 ((o.length : Nat) : Int)) (ex_lenG rfl rfl Tryd.underlying25 (q302.e (j := 63) rfl)) fun _ q303 => ?_;clear q302
      refine q303.t (.bool false) (ex_bin rfl (q303.e (j := 62) rfl) (q303.e (j := 64) rfl) (ltF _ _ hit _)) fun _ q304 => ?_;clear q303
      refine wpList_nil ?_
      go_upto_region 18 with fail
      refine wp_cond_false (q304.e (j := 65) rfl) ?_
      have TT : TV wr w4.heap.size w.heap.size vt (l.map lf) Et := TT8.upd20 ur (by omega) (fun g hg e => by have := tvb g hg; rcases e with e | e <;> omega)
      have o9 : OwnY yE w3.heap.size wr (.slice ao l.length co) l := o8.upd1 ur (fun g hg e => by have := o4b g hg; rcases e with e | e <;> omega)
      have Bx : BB wr w6.heap.size 38 (hd (l.map lf)).cs := Bw8.upd ur (by omega)
      have so := o9.sl' kE
      clear TT8 TU8 o8 Bw8 he ur
      go_upto_region 18 with fail
      refine vp_start 217 (fun T v => Rp T 217 [(0, gw true (.slice a1 l.length c1)), (1, gw true (.slice a2 o.length c2)), (2, gw true (.int .i64 pl)), (7, gw true (.pointer (some ⟨w.heap.size, 0, none⟩))), (8, gw true (.pointer (some ⟨w1.heap.size, 0, none⟩))), (9, gw true (.slice ao l.length co)), (11, gw true (.pointer (some ⟨w6.heap.size, 0, none⟩)))] ∧ Upd (fun k => False) wr v) (fun (i : Nat) (T : Array Value) (v : World) => match i with | 0 => T[74]? = some (gw true (.pointer (some ⟨w.heap.size, 0, none⟩))) | 1 => T[75]? = some (gw true ((hd (l.map lf)).val)) | 2 => T[76]? = some (gw true ((hd (l.map lf)).val)) | 3 => T[77]? = some (gw true (.bool false)) | 4 => T[78]? = some (gw true (.bool false)) | 5 => T[79]? = some (gw (true && (false == false)) (.pointer (some ⟨w.heap.size, 0, none⟩))) | 6 => T[80]? = some (gw (true && (false == false)) (.int .i64 ((l.length : Nat) : Int))) | 7 => T[81]? = some (gw (true && (false == false)) (.slice a1 l.length c1)) | 8 => T[82]? = some (gw (true && (false == false)) (.int .i64 ((l.length : Nat) : Int))) | 9 => T[83]? = some (gw (true && (false == false)) (.bool false)) | 10 => T[84]? = some (gw true (.bool false)) | 11 => T[85]? = some (gw true (.bool false)) | 12 => T[86]? = some (gw (true && (false == false)) (.pointer (some ⟨w1.heap.size, 0, none⟩))) | 13 => T[87]? = some (gw (true && (false == false)) (.int .i64 ((o.length : Nat) : Int))) | 14 => T[88]? = some (gw (true && (false == false)) (.slice a2 o.length c2)) | 15 => T[89]? = some (gw (true && (false == false)) (.int .i64 ((o.length : Nat) : Int))) | 16 => T[90]? = some (gw (true && (false == false)) (.bool false)) | 17 => T[91]? = some (gw true (.bool false)) | 18 => T[92]? = some (gw true (.bool false)) | 19 => T[93]? = some (gw (true && (false == false)) ((hd (l.map lf)).val)) | 20 => T[94]? = some (gw (true && (false == false)) (.slice ao l.length co)) | 21 => T[95]? = some (gw (true && (false == false)) ((hd (l.map lf)).val)) | 22 => T[96]? = some (gw (true && (false == false)) (.bool false)) | 23 => T[97]? = some (gw true (.bool false)) | _ => True) (fun (i : Nat) (T : Array Value) (v : World) => match i with | _ => True) (fun j T k => False) (fun i => match i with | 0 => [74] | 1 => [75] | 2 => [76] | 3 => [77] | 4 => [78] | 5 => [79] | 6 => [80] | 7 => [81] | 8 => [82] | 9 => [83] | 10 => [84] | 11 => [85] | 12 => [86] | 13 => [87] | 14 => [88] | 15 => [89] | 16 => [90] | 17 => [91] | 18 => [92] | 19 => [93] | 20 => [94] | 21 => [95] | 22 => [96] | 23 => [97] | _ => []) (fun _ => []) [0, 1, 2, 7, 8, 9, 11] (fun i j => false) (fun i => false) (by kernel_rfl) (by kernel_rfl) q304.z ⟨((((((((Rp.nil q304.z).cons (q304.a 11 rfl)).cons (q304.a 9 rfl)).cons (q304.a 8 rfl)).cons (q304.a 7 rfl)).cons (q304.a 2 rfl)).cons (q304.a 1 rfl)).cons (q304.a 0 rfl)), (Upd.refl _ _).drew20⟩ ?_ ?_ ?_ ?_ ?_ ?_
      · exact ⟨trivial, trivial, trivial, trivial, trivial, trivial, trivial, trivial, trivial, trivial, trivial, trivial, trivial, trivial, trivial, trivial, trivial, trivial, trivial, trivial, trivial, trivial, trivial, trivial, trivial⟩
      · intro j T T2 v v2 h _ hz hk hu
        exact ⟨h.1.ch hz hk, h.2.tr20 hu (fun k hk he => he.elim)⟩
      · refine ⟨?_, ?_, ?_, ?_, ?_, ?_, ?_, ?_, ?_, ?_, ?_, ?_, ?_, ?_, ?_, ?_, ?_, ?_, ?_, ?_, ?_, ?_, ?_, ?_, trivial⟩
        · exact fun j hj hu T T2 v v2 h hD hz hk zU => (hk 74 (List.mem_singleton.2 rfl)).trans h
        · exact fun j hj hu T T2 v v2 h hD hz hk zU => (hk 75 (List.mem_singleton.2 rfl)).trans h
        · exact fun j hj hu T T2 v v2 h hD hz hk zU => (hk 76 (List.mem_singleton.2 rfl)).trans h
        · exact fun j hj hu T T2 v v2 h hD hz hk zU => (hk 77 (List.mem_singleton.2 rfl)).trans h
        · exact fun j hj hu T T2 v v2 h hD hz hk zU => (hk 78 (List.mem_singleton.2 rfl)).trans h
        · exact fun j hj hu T T2 v v2 h hD hz hk zU => (hk 79 (List.mem_singleton.2 rfl)).trans h
        · exact fun j hj hu T T2 v v2 h hD hz hk zU => (hk 80 (List.mem_singleton.2 rfl)).trans h
        · exact fun j hj hu T T2 v v2 h hD hz hk zU => (hk 81 (List.mem_singleton.2 rfl)).trans h
        · exact fun j hj hu T T2 v v2 h hD hz hk zU => (hk 82 (List.mem_singleton.2 rfl)).trans h
        · exact fun j hj hu T T2 v v2 h hD hz hk zU => (hk 83 (List.mem_singleton.2 rfl)).trans h
        · exact fun j hj hu T T2 v v2 h hD hz hk zU => (hk 84 (List.mem_singleton.2 rfl)).trans h
        · exact fun j hj hu T T2 v v2 h hD hz hk zU => (hk 85 (List.mem_singleton.2 rfl)).trans h
        · exact fun j hj hu T T2 v v2 h hD hz hk zU => (hk 86 (List.mem_singleton.2 rfl)).trans h
        · exact fun j hj hu T T2 v v2 h hD hz hk zU => (hk 87 (List.mem_singleton.2 rfl)).trans h
        · exact fun j hj hu T T2 v v2 h hD hz hk zU => (hk 88 (List.mem_singleton.2 rfl)).trans h
        · exact fun j hj hu T T2 v v2 h hD hz hk zU => (hk 89 (List.mem_singleton.2 rfl)).trans h
        · exact fun j hj hu T T2 v v2 h hD hz hk zU => (hk 90 (List.mem_singleton.2 rfl)).trans h
        · exact fun j hj hu T T2 v v2 h hD hz hk zU => (hk 91 (List.mem_singleton.2 rfl)).trans h
        · exact fun j hj hu T T2 v v2 h hD hz hk zU => (hk 92 (List.mem_singleton.2 rfl)).trans h
        · exact fun j hj hu T T2 v v2 h hD hz hk zU => (hk 93 (List.mem_singleton.2 rfl)).trans h
        · exact fun j hj hu T T2 v v2 h hD hz hk zU => (hk 94 (List.mem_singleton.2 rfl)).trans h
        · exact fun j hj hu T T2 v v2 h hD hz hk zU => (hk 95 (List.mem_singleton.2 rfl)).trans h
        · exact fun j hj hu T T2 v v2 h hD hz hk zU => (hk 96 (List.mem_singleton.2 rfl)).trans h
        · exact fun j hj hu T T2 v v2 h hD hz hk zU => (hk 97 (List.mem_singleton.2 rfl)).trans h
      · refine ⟨fun _ _ _ _ _ _ _ _ _ _ _ => trivial, fun _ _ _ _ _ _ _ _ _ _ _ => trivial, fun _ _ _ _ _ _ _ _ _ _ _ => trivial, fun _ _ _ _ _ _ _ _ _ _ _ => trivial, fun _ _ _ _ _ _ _ _ _ _ _ => trivial, fun _ _ _ _ _ _ _ _ _ _ _ => trivial, fun _ _ _ _ _ _ _ _ _ _ _ => trivial, fun _ _ _ _ _ _ _ _ _ _ _ => trivial, fun _ _ _ _ _ _ _ _ _ _ _ => trivial, fun _ _ _ _ _ _ _ _ _ _ _ => trivial, fun _ _ _ _ _ _ _ _ _ _ _ => trivial, fun _ _ _ _ _ _ _ _ _ _ _ => trivial, fun _ _ _ _ _ _ _ _ _ _ _ => trivial, fun _ _ _ _ _ _ _ _ _ _ _ => trivial, fun _ _ _ _ _ _ _ _ _ _ _ => trivial, fun _ _ _ _ _ _ _ _ _ _ _ => trivial, fun _ _ _ _ _ _ _ _ _ _ _ => trivial, fun _ _ _ _ _ _ _ _ _ _ _ => trivial, fun _ _ _ _ _ _ _ _ _ _ _ => trivial, fun _ _ _ _ _ _ _ _ _ _ _ => trivial, fun _ _ _ _ _ _ _ _ _ _ _ => trivial, fun _ _ _ _ _ _ _ _ _ _ _ => trivial, fun _ _ _ _ _ _ _ _ _ _ _ => trivial, fun _ _ _ _ _ _ _ _ _ _ _ => trivial, trivial⟩
      · refine ⟨?_, ?_, ?_, ?_, ?_, ?_, ?_, ?_, ?_, ?_, ?_, ?_, ?_, ?_, ?_, ?_, ?_, ?_, ?_, ?_, ?_, ?_, ?_, ?_, trivial⟩
        · intro T df v zz zB zp zC
          have qb := zB.1
          have zU := zB.2
          exact ⟨true, want_none rfl, fun _ => .inl ⟨_, _, ex_move rfl (qb.e (j := 7) rfl), Upd.refl _ _, fun h => absurd h (by decide), fun T2 N => N.s 74 rfl⟩, fun h => absurd h (by decide), fun h => absurd h (by decide)⟩
        · intro T df v zz zB zp zC
          have qb := zB.1
          have zU := zB.2
          have zDw : Below w.heap.size w v := dr.trans (zU.below dr.size (fun k hk => hk.elim))
          have HB : Below wr.heap.size wr v := zU.below (Nat.le_refl _) (fun k hk => hk.elim)
          have p0 : T[74]? = some (gw true (.pointer (some ⟨w.heap.size, 0, none⟩))) := zp 0 (by kernel_rfl) (by kernel_rfl)
          refine ⟨true, want_none rfl, fun hc => .inr (.inr ⟨_, _, _, ex_call rfl (by simp only [List.map_toArray, List.map_cons, List.map_nil, (ev p0 rfl), evc] <;> rfl) rfl, head_any20 (TT.later HB) het (ht.of_below zDw ht.lt) (by rw [List.length_map]; omega), ?_⟩), fun _ => rfl, fun h => absurd h (by decide)⟩
          rintro e w9 ⟨rfl, b9⟩
          exact ⟨_, rfl, Upd.of_below b9, fun h => absurd h (by decide), fun T2 N => N.s 75 rfl⟩
        · intro T df v zz zB zp zC
          have qb := zB.1
          have zU := zB.2
          exact ⟨true, want_none rfl, fun _ => .inl ⟨_, _, ex_ld rfl (qb.e (j := 11) rfl) (Bx.upd zU (show ¬ False from id)).ldH, Upd.refl _ _, fun h => absurd h (by decide), fun T2 N => N.s 76 rfl⟩, fun h => absurd h (by decide), fun h => absurd h (by decide)⟩
        · intro T df v zz zB zp zC
          have qb := zB.1
          have zU := zB.2
          have p1 : T[75]? = some (gw true ((hd (l.map lf)).val)) := zp 1 (by kernel_rfl) (by kernel_rfl)
          have p2 : T[76]? = some (gw true ((hd (l.map lf)).val)) := zp 2 (by kernel_rfl) (by kernel_rfl)
          exact ⟨true, want_none rfl, fun _ => .inl ⟨_, _, ex_bin rfl (ev p1 rfl) (ev p2 rfl) (neHT0 _ _ (rfl) _), Upd.refl _ _, fun h => absurd h (by decide), fun T2 N => N.s 77 rfl⟩, fun h => absurd h (by decide), fun h => absurd h (by decide)⟩
        · intro T df v zz zB zp zC
          have qb := zB.1
          have zU := zB.2
          have p3 : T[77]? = some (gw true (.bool false)) := zp 3 (by kernel_rfl) (by kernel_rfl)
          exact ⟨true, want_none rfl, fun _ => .inl ⟨_, _, ex_move rfl (ev p3 rfl), Upd.refl _ _, fun h => absurd h (by decide), fun T2 N => N.s 78 rfl⟩, fun h => absurd h (by decide), fun h => absurd h (by decide)⟩
        · intro T df v zz zB zp zC
          have qb := zB.1
          have zU := zB.2
          have p4 : T[78]? = some (gw true (.bool false)) := zp 4 (by kernel_rfl) (by kernel_rfl)
          exact ⟨(true && (false == false)), want_g rfl rfl p4, fun hc => .inl ⟨_, _, ex_move rfl (qb.e (j := 7) rfl), Upd.refl _ _, fun h => absurd h (by decide), fun T2 N => by rw [hc]; exact N.s 79 rfl⟩, fun _ => rfl, fun hc T2 N => by rw [hc]; exact N.s 79 rfl⟩
        · intro T df v zz zB zp zC
          have qb := zB.1
          have zU := zB.2
          have HB : Below wr.heap.size wr v := zU.below (Nat.le_refl _) (fun k hk => hk.elim)
          have p4 : T[78]? = some (gw true (.bool false)) := zp 4 (by kernel_rfl) (by kernel_rfl)
          have p5 : T[79]? = some (gw (true && (false == false)) (.pointer (some ⟨w.heap.size, 0, none⟩))) := zp 5 (by kernel_rfl) (by kernel_rfl)
          refine ⟨(true && (false == false)), want_g rfl rfl p4, fun hc => .inr (.inr ⟨_, _, _, ex_call rfl (by simp only [List.map_toArray, List.map_cons, List.map_nil, (ev p5 hc), evc] <;> rfl) rfl, size_any20 (TT.later HB) (by rw [List.length_map]), ?_⟩), fun _ => rfl, fun hc T2 N => by rw [hc]; exact N.s 80 rfl⟩
          rintro e w9 ⟨rfl, rfl⟩
          exact ⟨_, rfl, Upd.refl _ _, fun h => absurd h (by decide), fun T2 N => by rw [hc]; exact N.s 80 rfl⟩
        · intro T df v zz zB zp zC
          have qb := zB.1
          have zU := zB.2
          have p4 : T[78]? = some (gw true (.bool false)) := zp 4 (by kernel_rfl) (by kernel_rfl)
          exact ⟨(true && (false == false)), want_g rfl rfl p4, fun hc => .inl ⟨_, _, ex_move rfl (qb.e (j := 0) rfl), Upd.refl _ _, fun h => absurd h (by decide), fun T2 N => by rw [hc]; exact N.s 81 rfl⟩, fun _ => rfl, fun hc T2 N => by rw [hc]; exact N.s 81 rfl⟩
        · intro T df v zz zB zp zC
          have qb := zB.1
          have zU := zB.2
          have p4 : T[78]? = some (gw true (.bool false)) := zp 4 (by kernel_rfl) (by kernel_rfl)
          have p7 : T[81]? = some (gw (true && (false == false)) (.slice a1 l.length c1)) := zp 7 (by kernel_rfl) (by kernel_rfl)
          exact ⟨(true && (false == false)), want_g rfl rfl p4, fun hc => .inl ⟨_, _, ex_lenG rfl rfl Tryd.underlying25 (ev p7 hc), Upd.refl _ _, fun h => absurd h (by decide), fun T2 N => by rw [hc]; exact N.s 82 rfl⟩, fun _ => rfl, fun hc T2 N => by rw [hc]; exact N.s 82 rfl⟩
        · intro T df v zz zB zp zC
          have qb := zB.1
          have zU := zB.2
          have p4 : T[78]? = some (gw true (.bool false)) := zp 4 (by kernel_rfl) (by kernel_rfl)
          have p6 : T[80]? = some (gw (true && (false == false)) (.int .i64 ((l.length : Nat) : Int))) := zp 6 (by kernel_rfl) (by kernel_rfl)
          have p8 : T[82]? = some (gw (true && (false == false)) (.int .i64 ((l.length : Nat) : Int))) := zp 8 (by kernel_rfl) (by kernel_rfl)
          exact ⟨(true && (false == false)), want_g rfl rfl p4, fun hc => .inl ⟨_, _, ex_bin rfl (ev p6 hc) (ev p8 hc) (neF20 _ _ (by omega) _), Upd.refl _ _, fun h => absurd h (by decide), fun T2 N => by rw [hc]; exact N.s 83 rfl⟩, fun _ => rfl, fun hc T2 N => by rw [hc]; exact N.s 83 rfl⟩
        · intro T df v zz zB zp zC
          have qb := zB.1
          have zU := zB.2
          have p4 : T[78]? = some (gw true (.bool false)) := zp 4 (by kernel_rfl) (by kernel_rfl)
          have p9 : T[83]? = some (gw (true && (false == false)) (.bool false)) := zp 9 (by kernel_rfl) (by kernel_rfl)
          exact ⟨true, want_none rfl, fun _ => .inl ⟨_, _, ex_or (c := true) (b := false) (z := false) rfl p4 p9 rfl, Upd.refl _ _, fun h => absurd h (by decide), fun T2 N => N.s 84 rfl⟩, fun h => absurd h (by decide), fun h => absurd h (by decide)⟩
        · intro T df v zz zB zp zC
          have qb := zB.1
          have zU := zB.2
          have p10 : T[84]? = some (gw true (.bool false)) := zp 10 (by kernel_rfl) (by kernel_rfl)
          exact ⟨true, want_none rfl, fun _ => .inl ⟨_, _, ex_move rfl (ev p10 rfl), Upd.refl _ _, fun h => absurd h (by decide), fun T2 N => N.s 85 rfl⟩, fun h => absurd h (by decide), fun h => absurd h (by decide)⟩
        · intro T df v zz zB zp zC
          have qb := zB.1
          have zU := zB.2
          have p11 : T[85]? = some (gw true (.bool false)) := zp 11 (by kernel_rfl) (by kernel_rfl)
          exact ⟨(true && (false == false)), want_g rfl rfl p11, fun hc => .inl ⟨_, _, ex_move rfl (qb.e (j := 8) rfl), Upd.refl _ _, fun h => absurd h (by decide), fun T2 N => by rw [hc]; exact N.s 86 rfl⟩, fun _ => rfl, fun hc T2 N => by rw [hc]; exact N.s 86 rfl⟩
        · intro T df v zz zB zp zC
          have qb := zB.1
          have zU := zB.2
          have HB : Below wr.heap.size wr v := zU.below (Nat.le_refl _) (fun k hk => hk.elim)
          have p11 : T[85]? = some (gw true (.bool false)) := zp 11 (by kernel_rfl) (by kernel_rfl)
          have p12 : T[86]? = some (gw (true && (false == false)) (.pointer (some ⟨w1.heap.size, 0, none⟩))) := zp 12 (by kernel_rfl) (by kernel_rfl)
          refine ⟨(true && (false == false)), want_g rfl rfl p11, fun hc => .inr (.inr ⟨_, _, _, ex_call rfl (by simp only [List.map_toArray, List.map_cons, List.map_nil, (ev p12 hc), evc] <;> rfl) rfl, size_any20 (TVr.later HB) (by rw [List.length_map]), ?_⟩), fun _ => rfl, fun hc T2 N => by rw [hc]; exact N.s 87 rfl⟩
          rintro e w9 ⟨rfl, rfl⟩
          exact ⟨_, rfl, Upd.refl _ _, fun h => absurd h (by decide), fun T2 N => by rw [hc]; exact N.s 87 rfl⟩
        · intro T df v zz zB zp zC
          have qb := zB.1
          have zU := zB.2
          have p11 : T[85]? = some (gw true (.bool false)) := zp 11 (by kernel_rfl) (by kernel_rfl)
          exact ⟨(true && (false == false)), want_g rfl rfl p11, fun hc => .inl ⟨_, _, ex_move rfl (qb.e (j := 1) rfl), Upd.refl _ _, fun h => absurd h (by decide), fun T2 N => by rw [hc]; exact N.s 88 rfl⟩, fun _ => rfl, fun hc T2 N => by rw [hc]; exact N.s 88 rfl⟩
        · intro T df v zz zB zp zC
          have qb := zB.1
          have zU := zB.2
          have p11 : T[85]? = some (gw true (.bool false)) := zp 11 (by kernel_rfl) (by kernel_rfl)
          have p14 : T[88]? = some (gw (true && (false == false)) (.slice a2 o.length c2)) := zp 14 (by kernel_rfl) (by kernel_rfl)
          exact ⟨(true && (false == false)), want_g rfl rfl p11, fun hc => .inl ⟨_, _, ex_lenG rfl rfl Tryd.underlying25 (ev p14 hc), Upd.refl _ _, fun h => absurd h (by decide), fun T2 N => by rw [hc]; exact N.s 89 rfl⟩, fun _ => rfl, fun hc T2 N => by rw [hc]; exact N.s 89 rfl⟩
        · intro T df v zz zB zp zC
          have qb := zB.1
          have zU := zB.2
          have p11 : T[85]? = some (gw true (.bool false)) := zp 11 (by kernel_rfl) (by kernel_rfl)
          have p13 : T[87]? = some (gw (true && (false == false)) (.int .i64 ((o.length : Nat) : Int))) := zp 13 (by kernel_rfl) (by kernel_rfl)
          have p15 : T[89]? = some (gw (true && (false == false)) (.int .i64 ((o.length : Nat) : Int))) := zp 15 (by kernel_rfl) (by kernel_rfl)
          exact ⟨(true && (false == false)), want_g rfl rfl p11, fun hc => .inl ⟨_, _, ex_bin rfl (ev p13 hc) (ev p15 hc) (neF20 _ _ (by omega) _), Upd.refl _ _, fun h => absurd h (by decide), fun T2 N => by rw [hc]; exact N.s 90 rfl⟩, fun _ => rfl, fun hc T2 N => by rw [hc]; exact N.s 90 rfl⟩
        · intro T df v zz zB zp zC
          have qb := zB.1
          have zU := zB.2
          have p11 : T[85]? = some (gw true (.bool false)) := zp 11 (by kernel_rfl) (by kernel_rfl)
          have p16 : T[90]? = some (gw (true && (false == false)) (.bool false)) := zp 16 (by kernel_rfl) (by kernel_rfl)
          exact ⟨true, want_none rfl, fun _ => .inl ⟨_, _, ex_or (c := true) (b := false) (z := false) rfl p11 p16 rfl, Upd.refl _ _, fun h => absurd h (by decide), fun T2 N => N.s 91 rfl⟩, fun h => absurd h (by decide), fun h => absurd h (by decide)⟩
        · intro T df v zz zB zp zC
          have qb := zB.1
          have zU := zB.2
          have p17 : T[91]? = some (gw true (.bool false)) := zp 17 (by kernel_rfl) (by kernel_rfl)
          exact ⟨true, want_none rfl, fun _ => .inl ⟨_, _, ex_move rfl (ev p17 rfl), Upd.refl _ _, fun h => absurd h (by decide), fun T2 N => N.s 92 rfl⟩, fun h => absurd h (by decide), fun h => absurd h (by decide)⟩
        · intro T df v zz zB zp zC
          have qb := zB.1
          have zU := zB.2
          have p18 : T[92]? = some (gw true (.bool false)) := zp 18 (by kernel_rfl) (by kernel_rfl)
          exact ⟨(true && (false == false)), want_g rfl rfl p18, fun hc => .inl ⟨_, _, ex_ld rfl (qb.e (j := 11) rfl) (Bx.upd zU (show ¬ False from id)).ldH, Upd.refl _ _, fun h => absurd h (by decide), fun T2 N => by rw [hc]; exact N.s 93 rfl⟩, fun _ => rfl, fun hc T2 N => by rw [hc]; exact N.s 93 rfl⟩
        · intro T df v zz zB zp zC
          have qb := zB.1
          have zU := zB.2
          have p18 : T[92]? = some (gw true (.bool false)) := zp 18 (by kernel_rfl) (by kernel_rfl)
          exact ⟨(true && (false == false)), want_g rfl rfl p18, fun hc => .inl ⟨_, _, ex_move rfl (qb.e (j := 9) rfl), Upd.refl _ _, fun h => absurd h (by decide), fun T2 N => by rw [hc]; exact N.s 94 rfl⟩, fun _ => rfl, fun hc T2 N => by rw [hc]; exact N.s 94 rfl⟩
        · intro T df v zz zB zp zC
          have qb := zB.1
          have zU := zB.2
          have HB : Below wr.heap.size wr v := zU.below (Nat.le_refl _) (fun k hk => hk.elim)
          have p18 : T[92]? = some (gw true (.bool false)) := zp 18 (by kernel_rfl) (by kernel_rfl)
          have p20 : T[94]? = some (gw (true && (false == false)) (.slice ao l.length co)) := zp 20 (by kernel_rfl) (by kernel_rfl)
          refine ⟨(true && (false == false)), want_g rfl rfl p18, fun hc => .inr (.inr ⟨_, _, _, ex_call rfl (by simp only [List.map_toArray, List.map_cons, List.map_nil, (ev p20 hc), evc] <;> rfl) rfl, head20 l _ _ _ v (so.later HB) (by omega) (fun x hx => by have := hv10 x hx; omega), ?_⟩), fun _ => rfl, fun hc T2 N => by rw [hc]; exact N.s 95 rfl⟩
          rintro e w9 ⟨rfl, b9⟩
          exact ⟨_, rfl, Upd.of_below b9, fun h => absurd h (by decide), fun T2 N => by rw [hc]; exact N.s 95 rfl⟩
        · intro T df v zz zB zp zC
          have qb := zB.1
          have zU := zB.2
          have p18 : T[92]? = some (gw true (.bool false)) := zp 18 (by kernel_rfl) (by kernel_rfl)
          have p19 : T[93]? = some (gw (true && (false == false)) ((hd (l.map lf)).val)) := zp 19 (by kernel_rfl) (by kernel_rfl)
          have p21 : T[95]? = some (gw (true && (false == false)) ((hd (l.map lf)).val)) := zp 21 (by kernel_rfl) (by kernel_rfl)
          exact ⟨(true && (false == false)), want_g rfl rfl p18, fun hc => .inl ⟨_, _, ex_bin rfl (ev p19 hc) (ev p21 hc) (neHT0 _ _ (rfl) _), Upd.refl _ _, fun h => absurd h (by decide), fun T2 N => by rw [hc]; exact N.s 96 rfl⟩, fun _ => rfl, fun hc T2 N => by rw [hc]; exact N.s 96 rfl⟩
        · intro T df v zz zB zp zC
          have qb := zB.1
          have zU := zB.2
          have p18 : T[92]? = some (gw true (.bool false)) := zp 18 (by kernel_rfl) (by kernel_rfl)
          have p22 : T[96]? = some (gw (true && (false == false)) (.bool false)) := zp 22 (by kernel_rfl) (by kernel_rfl)
          exact ⟨true, want_none rfl, fun _ => .inl ⟨_, _, ex_or (c := true) (b := false) (z := false) rfl p18 p22 rfl, Upd.refl _ _, fun h => absurd h (by decide), fun T2 N => N.s 97 rfl⟩, fun h => absurd h (by decide), fun h => absurd h (by decide)⟩
      intro T v901 zz zB zq za
      have qb := zB.1
      have U902 := zB.2
      clear zB zz
      clear q304
      have d903 : Below w.heap.size w v901 := dr.trans (U902.below (Nat.le_trans dr.size (Nat.le_refl _)) (fun k hk => hk.elim))
      have zv901 := U902.size
      have p23 : T[97]? = some (gw true (.bool false)) := zq 23 _ rfl (fun k => rfl)
      have q305 := (qb.cons p23)
      clear zq za qb p23
      have bx : Below wr.heap.size wr v901 := U902.below (Nat.le_refl _) (fun k hk => hk.elim)
      have yx := bx.size
      replace TT := TT.later bx
      replace o9 := o9.grow bx
      replace Bx := Bx.later bx
      replace so := so.later bx
      obtain ⟨wv, hwv⟩ : ∃ y, y = v901 := ⟨_, rfl⟩
      clear hwv wv
      go_upto_region 20 with fail
      refine wp_cond_false (q305.e (j := 97) rfl) ?_
      go_upto_region 20 with fail
      refine wp_region_lit ?_
      refine q305.t (.int .i64 pl) (ex_move rfl (q305.e (j := 2) rfl)) fun _ q306 => ?_;clear q305
      refine q306.t (.slice a1 l.length c1) (ex_move rfl (q306.e (j := 0) rfl)) fun _ q307 => ?_;clear q306
      refine q307.t (.int .i64 ((l.length : Nat) : Int)) (ex_lenG rfl rfl Tryd.underlying25 (q307.e (j := 99) rfl)) fun _ q308 => ?_;clear q307
      refine q308.t (.int .i64 (((l.length : Nat) : Int) - 1)) (ex_bin rfl (q308.e (j := 100) rfl) rfl (sub1I20 _ _ l.length (by omega) _)) fun _ q309 => ?_;clear q308
      refine q309.t (.int .i64 ((l.length - 1 : Nat) : Int)) (ex_max20 rfl rfl rfl (q309.e (j := 101) rfl)) fun _ q310 => ?_;clear q309
      refine vcallP (want_none rfl) (ex_call rfl (by simp only [List.map_toArray, List.map_cons, List.map_nil, (q310.e (j := 98) rfl), (q310.e (j := 102) rfl), evc] <;> rfl) rfl) (within20 pl (l.length - 1) (by omega) v901) rfl q310.z (by decide) ?_
      rintro e w92 ⟨jp, hjp, rfl, hw92⟩
      refine ⟨_, rfl, q310.k fun _ q311 => ?_⟩;clear q310
      have hw92 := hw92.symm
      subst hw92
      refine q311.t (.int .i64 ((1 + jp : Nat) : Int)) (ex_bin (X := .int .i64 ((1 : Nat) : Int)) rfl rfl (q311.e (j := 103) rfl) (addP _ _ 1 jp (by omega) _)) fun _ q312 => ?_;clear q311
      refine q312.t (.int .i64 ((1 + jp : Nat) : Int)) (ex_assign rfl (q312.e (j := 104) rfl)) fun _ q313 => ?_;clear q312
      refine wpList_nil ?_
      go_upto_region 21 with fail
      refine wp_region_lit ?_
      refine q313.t (.int .i64 pl) (ex_move rfl (q313.e (j := 2) rfl)) fun _ q314 => ?_;clear q313
      refine q314.t (.slice a1 l.length c1) (ex_move rfl (q314.e (j := 0) rfl)) fun _ q315 => ?_;clear q314
      refine q315.t (.int .i64 ((l.length : Nat) : Int)) (ex_lenG rfl rfl Tryd.underlying25 (q315.e (j := 106) rfl)) fun _ q316 => ?_;clear q315
      refine vcallP (want_none rfl) (ex_call rfl (by simp only [List.map_toArray, List.map_cons, List.map_nil, (q316.e (j := 105) rfl), (q316.e (j := 107) rfl), evc] <;> rfl) rfl) (within20 pl l.length (by omega) v901) rfl q316.z (by decide) ?_
      rintro e w93 ⟨jm, hjm, rfl, hw93⟩
      refine ⟨_, rfl, q316.k fun _ q317 => ?_⟩;clear q316
      have hw93 := hw93.symm
      subst hw93
      refine q317.t (.int .i64 ((jm : Nat) : Int)) (ex_assign rfl (q317.e (j := 108) rfl)) fun _ q318 => ?_;clear q317
      refine wpList_nil ?_
      go_upto_region 22 with fail
      refine wp_region_lit ?_
      refine q318.t (.slice none 0 0) (ex_assign rfl rfl) fun _ q319 => ?_;clear q318
      refine wpList_nil ?_
      go_upto_region 23 with fail
      refine wp_region_lit ?_
      refine q319.t (.int .i64 ((0 : Nat) : Int)) (ex_assign rfl rfl) fun _ q320 => ?_;clear q319
      have q321 := ((((((((((Rp.nil q320.z).cons (q320.a 0 rfl)).cons (q320.a 1 rfl)).cons (q320.a 7 rfl)).cons (q320.a 9 rfl)).cons (q320.a 11 rfl)).cons (q320.a 13 rfl)).cons (q320.a 14 rfl)).cons (q320.a 15 rfl)).cons (q320.a 16 rfl))
      clear q320
      refine wpList_nil ?_
      go_upto_region 24 with fail
      obtain ⟨DA, hDA⟩ : ∃ D, D = (inR (l.map lf) ((1 + jp : Nat) : Int)).1 := ⟨_, rfl⟩
      obtain ⟨DC, hDC⟩ : ∃ D, D = (csR (l.map lf) ((jm : Nat) : Int)).1 := ⟨_, rfl⟩
      obtain ⟨DA1, hDA1⟩ : ∃ D, D = (inR (o.map lf) ((1 : Nat) : Int)).1 := ⟨_, rfl⟩
      obtain ⟨DC1, hDC1⟩ : ∃ D, D = (csR (o.map lf) ((o.length / 2 : Nat) : Int)).1 := ⟨_, rfl⟩
      have nDA : DA.length ≤ 200 := by rw [hDA]; have := inJ_le (l.map lf) ((1 + jp : Nat) : Int); rw [List.length_map] at this; omega
      have nDC : DC.length ≤ 200 := by rw [hDC]; have := csJ_le (l.map lf) ((jm : Nat) : Int); rw [List.length_map] at this; omega
      have nDA1 : DA1.length ≤ 200 := by rw [hDA1]; have := inJ_le (o.map lf) ((1 : Nat) : Int); rw [List.length_map] at this; omega
      have nDC1 : DC1.length ≤ 200 := by rw [hDC1]; have := csJ_le (o.map lf) ((o.length / 2 : Nat) : Int); rw [List.length_map] at this; omega
      refine v_loop 16 3 (fun j T wk => ∃ (kv : Value) (K : List (SV Hs)), Rp T 217 [(16, gw true (.int .i64 ((j : Nat) : Int))), (15, gw true (kv)), (14, gw true (.int .i64 ((jm : Nat) : Int))), (13, gw true (.int .i64 ((1 + jp : Nat) : Int))), (11, gw true (.pointer (some ⟨w6.heap.size, 0, none⟩))), (9, gw true (.slice ao l.length co)), (7, gw true (.pointer (some ⟨w.heap.size, 0, none⟩))), (1, gw true (.slice a2 o.length c2)), (0, gw true (.slice a1 l.length c1))] ∧ Hid (OwnY yHS v901.heap.size wk kv K ∧ (∀ (i : Nat) (y : SV Hs), K[i]? = some y → OwnY yH v901.heap.size wk y.v y.D) ∧ Rws K wk.heap.size ∧ K.map SV.D = [DA, DC, DA, DC, DA1, DC1, DA, DC, DA, DC, DA, DC].take (4 * j) ∧ Below v901.heap.size v901 wk)) (fun j T w h => by obtain ⟨_, _, h, _⟩ := h; exact h.a 16 rfl) ⟨_, [], q321, OwnY.nil _ _ _, fun i y h => by simp at h, Rws.nil _, rfl, Below.refl _ _⟩ ?_
      clear q321
      intro j T wk hj3 hh3
      obtain ⟨kv, K, q500, HJ⟩ := hh3
      obtain ⟨okv, orw, rws, hmp, dk⟩ := HJ.out
      clear HJ
      have zk := dk.size
      have dwk : Below w.heap.size w wk := d903.trans (dk.mono d903.size)
      by_cases hit3 : j < 3
      · go_upto_region 24 with fail
        refine wp_region_lit ?_
        refine q500.t (.int .i64 ((j : Nat) : Int)) (ex_move rfl (q500.e (j := 16) rfl)) fun _ q501 => ?_;clear q500
        refine q501.t (.bool true) (ex_bin (Y := .int .i64 ((3 : Nat) : Int)) rfl (q501.e (j := 109) rfl) rfl (ltT _ _ hit3 _)) fun _ q502 => ?_;clear q501
        refine wpList_nil ?_
        go_upto_region 26 with fail
        refine wp_cond_true (q502.e (j := 110) rfl) ?_
        go_upto_region 26 with fail
        refine wp_region_lit ?_
        refine q502.t (.slice ao l.length co) (ex_move rfl (q502.e (j := 9) rfl)) fun _ q503 => ?_;clear q502
        refine q503.t (.slice ao l.length co) (ex_assign rfl (q503.e (j := 113) rfl)) fun _ q504 => ?_;clear q503
        refine wpList_nil ?_
        go_upto_region 27 with fail
        refine wp_region_lit ?_
        refine q504.t (.int .i64 ((1 + jp : Nat) : Int)) (ex_move rfl (q504.e (j := 13) rfl)) fun _ q505 => ?_;clear q504
        refine q505.t (.int .i64 ((1 + jp : Nat) : Int)) (ex_assign rfl (q505.e (j := 114) rfl)) fun _ q506 => ?_;clear q505
        refine wpList_nil ?_
        go_upto_region 28 with fail
        refine wp_region_lit ?_
        refine q506.t (.int .i64 ((jm : Nat) : Int)) (ex_move rfl (q506.e (j := 14) rfl)) fun _ q507 => ?_;clear q506
        refine q507.t (.int .i64 ((jm : Nat) : Int)) (ex_assign rfl (q507.e (j := 115) rfl)) fun _ q508 => ?_;clear q507
        refine wpList_nil ?_
        go_upto_region 29 with fail
        refine wp_region_lit ?_
        refine q508.t (.int .i64 ((j : Nat) : Int)) (ex_move rfl (q508.e (j := 16) rfl)) fun _ q509 => ?_;clear q508
        have hKl : K.length = 4 * j := by
          have := congrArg List.length hmp
          rw [List.length_map, List.length_take] at this
          have h12 : ([DA, DC, DA, DC, DA1, DC1, DA, DC, DA, DC, DA, DC] : List (List Hs)).length = 12 := rfl
          omega
        by_cases hj1 : j = 1
        · refine q509.t (.bool true) (ex_bin (Y := .int .i64 ((1 : Nat) : Int)) rfl (q509.e (j := 116) rfl) rfl (eqT20 _ _ (by omega) _)) fun _ q510 => ?_;clear q509
          refine wpList_nil ?_
          go_upto_region 30 with fail
          refine wp_cond_true (q510.e (j := 117) rfl) ?_
          go_upto_region 30 with fail
          refine wp_region_lit ?_
          refine q510.t (.slice a2 o.length c2) (ex_move rfl (q510.e (j := 1) rfl)) fun _ q511 => ?_;clear q510
          refine q511.t (.slice a2 o.length c2) (ex_assign rfl (q511.e (j := 118) rfl)) fun _ q512 => ?_;clear q511
          refine wpList_nil ?_
          go_upto_region 31 with fail
          refine wp_region_lit ?_
          refine q512.t (.int .i64 ((1 : Nat) : Int)) (ex_assign rfl rfl) fun _ q513 => ?_;clear q512
          refine wpList_nil ?_
          go_upto_region 32 with fail
          refine wp_region_lit ?_
          refine q513.t (.slice a2 o.length c2) (ex_move rfl (q513.e (j := 1) rfl)) fun _ q514 => ?_;clear q513
          refine q514.t (.int .i64 ((o.length : Nat) : Int)) (ex_lenG rfl rfl Tryd.underlying25 (q514.e (j := 119) rfl)) fun _ q515 => ?_;clear q514
          refine q515.t (.int .i64 ((o.length / 2 : Nat) : Int)) (ex_bin (Y := .int .i64 (2 : Int)) rfl (q515.e (j := 120) rfl) rfl (quo2 _ _ o.length (by omega) _)) fun _ q516 => ?_;clear q515
          refine q516.t (.int .i64 ((o.length / 2 : Nat) : Int)) (ex_assign rfl (q516.e (j := 121) rfl)) fun _ q517 => ?_;clear q516
          refine wpList_nil ?_
          go_upto_region 33 with fail
          refine wp_region_lit ?_
          refine q517.t (.slice a2 o.length c2) (ex_move rfl (q517.e (j := 17) rfl)) fun _ q518 => ?_;clear q517
          refine q518.t (.int .i64 ((1 : Nat) : Int)) (ex_move rfl (q518.e (j := 18) rfl)) fun _ q519 => ?_;clear q518
          refine vcallP (want_none rfl) (ex_call rfl (by simp only [List.map_toArray, List.map_cons, List.map_nil, (q519.e (j := 123) rfl), (q519.e (j := 124) rfl), evc] <;> rfl) rfl) (incllude20 o _ _ _ ((1 : Nat) : Int) wk (s20.later dwk) (by omega) (fun x hx => by have := hv20 x hx; omega)) rfl q519.z (by decide) ?_
          rintro e wa ⟨vxa, rfl, oxa0, bxa⟩
          refine ⟨_, rfl, q519.k fun _ q520 => ?_⟩;clear q519
          obtain ⟨xa, hvxa, hDxa, oxa⟩ := sv_of oxa0
          subst hvxa
          rw [← hDA1] at hDxa
          have yxa := bxa.size
          refine q520.t (.tuple #[.slice xa.a xa.D.length xa.c, .int .i64 (inR (o.map lf) ((1 : Nat) : Int)).2]) (ex_move rfl (q520.e (j := 125) rfl)) fun _ q521 => ?_;clear q520
          refine q521.t (.slice xa.a xa.D.length xa.c) (ex_ext18 rfl (q521.e (j := 122) rfl) rfl) fun _ q522 => ?_;clear q521
          refine q522.t (.int .i64 (inR (o.map lf) ((1 : Nat) : Int)).2) (ex_ext18 rfl (q522.e (j := 122) rfl) rfl) fun _ q523 => ?_;clear q522
          refine q523.t (.slice xa.a xa.D.length xa.c) (ex_assign rfl (q523.e (j := 126) rfl)) fun _ q524 => ?_;clear q523
          refine q524.t (.int .i64 (inR (o.map lf) ((1 : Nat) : Int)).2) (ex_assign rfl (q524.e (j := 127) rfl)) fun _ q525 => ?_;clear q524
          refine wpList_nil ?_
          go_upto_region 34 with fail
          refine wp_region_lit ?_
          refine q525.t (.slice a2 o.length c2) (ex_move rfl (q525.e (j := 17) rfl)) fun _ q526 => ?_;clear q525
          refine q526.t (.int .i64 ((o.length / 2 : Nat) : Int)) (ex_move rfl (q526.e (j := 19) rfl)) fun _ q527 => ?_;clear q526
          refine vcallP (want_none rfl) (ex_call rfl (by simp only [List.map_toArray, List.map_cons, List.map_nil, (q527.e (j := 129) rfl), (q527.e (j := 130) rfl), evc] <;> rfl) rfl) (consist20 o _ _ _ ((o.length / 2 : Nat) : Int) wa ((s20.later dwk).later bxa) (by omega) (fun x hx => by have := hv20 x hx; omega)) rfl q527.z (by decide) ?_
          rintro e wb ⟨vxb, rfl, oxb0, bxb⟩
          refine ⟨_, rfl, q527.k fun _ q528 => ?_⟩;clear q527
          obtain ⟨xb, hvxb, hDxb, oxb⟩ := sv_of oxb0
          subst hvxb
          rw [← hDC1] at hDxb
          have yxb := bxb.size
          refine q528.t (.tuple #[.slice xb.a xb.D.length xb.c, .int .i64 (csR (o.map lf) ((o.length / 2 : Nat) : Int)).2]) (ex_move rfl (q528.e (j := 131) rfl)) fun _ q529 => ?_;clear q528
          refine q529.t (.slice xb.a xb.D.length xb.c) (ex_ext18 rfl (q529.e (j := 128) rfl) rfl) fun _ q530 => ?_;clear q529
          refine q530.t (.int .i64 (csR (o.map lf) ((o.length / 2 : Nat) : Int)).2) (ex_ext18 rfl (q530.e (j := 128) rfl) rfl) fun _ q531 => ?_;clear q530
          refine q531.t (.slice xb.a xb.D.length xb.c) (ex_assign rfl (q531.e (j := 132) rfl)) fun _ q532 => ?_;clear q531
          refine q532.t (.int .i64 (csR (o.map lf) ((o.length / 2 : Nat) : Int)).2) (ex_assign rfl (q532.e (j := 133) rfl)) fun _ q533 => ?_;clear q532
          refine wpList_nil ?_
          go_upto_region 35 with fail
          refine wp_region_lit ?_
          refine q533.t (.pointer (some ⟨w.heap.size, 0, none⟩)) (ex_move rfl (q533.e (j := 7) rfl)) fun _ q534 => ?_;clear q533
          refine q534.t (.int .i64 ((1 + jp : Nat) : Int)) (ex_move rfl (q534.e (j := 13) rfl)) fun _ q535 => ?_;clear q534
          refine q535.t (.slice a1 l.length c1) (ex_move rfl (q535.e (j := 0) rfl)) fun _ q536 => ?_;clear q535
          refine q536.t (.int .i64 ((l.length : Nat) : Int)) (ex_lenG rfl rfl Tryd.underlying25 (q536.e (j := 137) rfl)) fun _ q537 => ?_;clear q536
          refine vcallP (want_none rfl) (ex_call rfl (by simp only [List.map_toArray, List.map_cons, List.map_nil, (q537.e (j := 135) rfl), (q537.e (j := 136) rfl), (q537.e (j := 138) rfl), evc] <;> rfl) rfl) (tincl_all20 ((1 + jp : Nat) : Int) (((TT.later dk).later bxa).later bxb) (by rw [List.length_map]) (by omega)) rfl q537.z (by decide) ?_
          rintro e wc ⟨vxc, rfl, oxc0, bxc⟩
          refine ⟨_, rfl, q537.k fun _ q538 => ?_⟩;clear q537
          obtain ⟨xc, hvxc, hDxc, oxc⟩ := sv_of oxc0
          subst hvxc
          rw [← hDA] at hDxc
          have yxc := bxc.size
          refine q538.t (.tuple #[.slice xc.a xc.D.length xc.c, .int .i64 (inR (l.map lf) ((1 + jp : Nat) : Int)).2]) (ex_move rfl (q538.e (j := 139) rfl)) fun _ q539 => ?_;clear q538
          refine q539.t (.slice xc.a xc.D.length xc.c) (ex_ext18 rfl (q539.e (j := 134) rfl) rfl) fun _ q540 => ?_;clear q539
          refine q540.t (.int .i64 (inR (l.map lf) ((1 + jp : Nat) : Int)).2) (ex_ext18 rfl (q540.e (j := 134) rfl) rfl) fun _ q541 => ?_;clear q540
          refine q541.t (.slice xc.a xc.D.length xc.c) (ex_assign rfl (q541.e (j := 140) rfl)) fun _ q542 => ?_;clear q541
          refine q542.t (.int .i64 (inR (l.map lf) ((1 + jp : Nat) : Int)).2) (ex_assign rfl (q542.e (j := 141) rfl)) fun _ q543 => ?_;clear q542
          refine wpList_nil ?_
          go_upto_region 36 with fail
          refine wp_region_lit ?_
          refine q543.t (.pointer (some ⟨w.heap.size, 0, none⟩)) (ex_move rfl (q543.e (j := 7) rfl)) fun _ q544 => ?_;clear q543
          refine q544.t (.int .i64 ((jm : Nat) : Int)) (ex_move rfl (q544.e (j := 14) rfl)) fun _ q545 => ?_;clear q544
          refine q545.t (.slice a1 l.length c1) (ex_move rfl (q545.e (j := 0) rfl)) fun _ q546 => ?_;clear q545
          refine q546.t (.int .i64 ((l.length : Nat) : Int)) (ex_lenG rfl rfl Tryd.underlying25 (q546.e (j := 145) rfl)) fun _ q547 => ?_;clear q546
          refine vcallP (want_none rfl) (ex_call rfl (by simp only [List.map_toArray, List.map_cons, List.map_nil, (q547.e (j := 143) rfl), (q547.e (j := 144) rfl), (q547.e (j := 146) rfl), evc] <;> rfl) rfl) (tcons_all20 ((jm : Nat) : Int) ((((TT.later dk).later bxa).later bxb).later bxc) (by rw [List.length_map]) (by omega)) rfl q547.z (by decide) ?_
          rintro e wd ⟨vxd, rfl, oxd0, bxd⟩
          refine ⟨_, rfl, q547.k fun _ q548 => ?_⟩;clear q547
          obtain ⟨xd, hvxd, hDxd, oxd⟩ := sv_of oxd0
          subst hvxd
          rw [← hDC] at hDxd
          have yxd := bxd.size
          refine q548.t (.tuple #[.slice xd.a xd.D.length xd.c, .int .i64 (csR (l.map lf) ((jm : Nat) : Int)).2]) (ex_move rfl (q548.e (j := 147) rfl)) fun _ q549 => ?_;clear q548
          refine q549.t (.slice xd.a xd.D.length xd.c) (ex_ext18 rfl (q549.e (j := 142) rfl) rfl) fun _ q550 => ?_;clear q549
          refine q550.t (.int .i64 (csR (l.map lf) ((jm : Nat) : Int)).2) (ex_ext18 rfl (q550.e (j := 142) rfl) rfl) fun _ q551 => ?_;clear q550
          refine q551.t (.slice xd.a xd.D.length xd.c) (ex_assign rfl (q551.e (j := 148) rfl)) fun _ q552 => ?_;clear q551
          refine q552.t (.int .i64 (csR (l.map lf) ((jm : Nat) : Int)).2) (ex_assign rfl (q552.e (j := 149) rfl)) fun _ q553 => ?_;clear q552
          refine wpList_nil ?_
          go_upto_region 37 with fail
          refine wp_region_lit ?_
          refine q553.t (kv) (ex_move rfl (q553.e (j := 15) rfl)) fun _ q554 => ?_;clear q553
          refine q554.t (.slice xa.a xa.D.length xa.c) (ex_move rfl (q554.e (j := 20) rfl)) fun _ q555 => ?_;clear q554
          refine q555.t (.slice xb.a xb.D.length xb.c) (ex_move rfl (q555.e (j := 22) rfl)) fun _ q556 => ?_;clear q555
          refine q556.t (.slice xc.a xc.D.length xc.c) (ex_move rfl (q556.e (j := 24) rfl)) fun _ q557 => ?_;clear q556
          refine q557.t (.slice xd.a xd.D.length xd.c) (ex_move rfl (q557.e (j := 26) rfl)) fun _ q558 => ?_;clear q557
          obtain ⟨r1, hr1⟩ : ∃ y, y = wd.alloc (.cells (fl yHS [xa, xb, xc, xd]).toArray 44) := ⟨_, rfl⟩
          refine vw (.slice (some ⟨wd.heap.size, 0, none⟩) 4 4) r1 (want_none rfl) (ex_bsP20 (P := #[(0, .slice xa.a xa.D.length xa.c), (1, .slice xb.a xb.D.length xb.c), (2, .slice xc.a xc.D.length xc.c), (3, .slice xd.a xd.D.length xd.c)]) rfl (by simp only [List.map_toArray, List.map_cons, List.map_nil, (q558.e (j := 151) rfl), (q558.e (j := 152) rfl), (q558.e (j := 153) rfl), (q558.e (j := 154) rfl), evc] <;> rfl) (by rw [hr1]; exact bsHS4 _ _ _ _ _)) rfl q558.z (by decide) (q558.k fun _ q559 => ?_);clear q558
          have s1 : SlY yHS r1 (some ⟨wd.heap.size, 0, none⟩) 4 4 [xa, xb, xc, xd] := by rw [hr1]; exact sl_lit kHS wd [xa, xb, xc, xd] 44 (by show 4 ≤ maxLen; unfold maxLen; omega)
          have b1 : Below wd.heap.size wd r1 := by rw [hr1]; exact (Below.refl _ _).alloc (Nat.le_refl _) _
          clear hr1
          have y1 := b1.size
          have okd : OwnY yHS v901.heap.size r1 kv K := ((((okv.grow bxa).grow bxb).grow bxc).grow bxd).grow b1
          obtain ⟨v2, r2, ha2, o2, g2, h42⟩ := run_appY kHS r1 43 v901.heap.size K kv _ 4 4 [xa, xb, xc, xd] s1 okd (by omega) (by unfold maxLen; omega) (by show (K.length + 4) * 24 ≤ _; omega)
          have u2 := gupd20 g2
          have y2 := u2.size
          have orn : ∀ (i : Nat) (y : SV Hs), (K ++ [xa] ++ [xb] ++ [xc] ++ [xd])[i]? = some y → OwnY yH v901.heap.size r1 y.v y.D := own_push (own_push (own_push (own_push (fun i y hy => (((((orw i y hy).grow bxa).grow bxb).grow bxc).grow bxd).grow b1) (((((oxa.grow bxb).grow bxc).grow bxd).grow b1).low (by omega))) ((((oxb.grow bxc).grow bxd).grow b1).low (by omega))) (((oxc.grow bxd).grow b1).low (by omega))) ((oxd.grow b1).low (by omega))
          have rwn : Rws (K ++ [xa] ++ [xb] ++ [xc] ++ [xd]) r2.heap.size := ((((rws.push (S2 := wa.heap.size) (by omega) (fun b hb => oxa.blk b hb)).push (S2 := wb.heap.size) (by omega) (fun b hb => oxb.blk b hb)).push (S2 := wc.heap.size) (by omega) (fun b hb => oxc.blk b hb)).push (S2 := wd.heap.size) (by omega) (fun b hb => oxd.blk b hb)).up (by omega)
          have eK : K ++ [xa, xb, xc, xd] = K ++ [xa] ++ [xb] ++ [xc] ++ [xd] := by simp
          rw [← eK] at orn rwn
          have orz : ∀ (i : Nat) (y : SV Hs), (K ++ [xa, xb, xc, xd])[i]? = some y → OwnY yH v901.heap.size r2 y.v y.D := fun i y hy => (orn i y hy).upd1 u2 (fun b hb e => OwnY.apart (orn i y hy) okd hH_HS b hb e)
          have hmz : (K ++ [xa, xb, xc, xd]).map SV.D = [DA, DC, DA, DC, DA1, DC1, DA, DC, DA, DC, DA, DC].take (4 * (j + 1)) := by
            rw [List.map_append, hmp]
            show _ ++ [xa.D, xb.D, xc.D, xd.D] = _
            rw [hDxa, hDxb, hDxc, hDxd]
            subst hj1
            rfl
          have dz : Below v901.heap.size v901 r2 := (((((dk.trans (bxa.mono (by omega))).trans (bxb.mono (by omega))).trans (bxc.mono (by omega))).trans (bxd.mono (by omega))).trans (b1.mono (by omega))).trans (u2.below (by omega) (fun k hk => (okd.blk k hk).1))
          refine vw (v2) r2 (want_none rfl) (ex_app18 rfl (q559.e (j := 150) rfl) (q559.e (j := 155) rfl) ha2) rfl q559.z (by decide) (q559.k fun _ q560 => ?_);clear q559
          refine q560.t (v2) (ex_assign rfl (q560.e (j := 156) rfl)) fun _ q561 => ?_;clear q560
          refine wpList_nil ?_
          go_upto_region 25 with fail
          refine wp_region_lit ?_
          refine q561.t (.int .i64 ((j : Nat) : Int)) (ex_move rfl (q561.e (j := 16) rfl)) fun _ q562 => ?_;clear q561
          refine q562.t (.int .i64 ((j + 1 : Nat) : Int)) (ex_bin rfl (q562.e (j := 111) rfl) rfl (add1C _ _ j (by omega) _)) fun _ q563 => ?_;clear q562
          refine q563.t (.int .i64 ((j + 1 : Nat) : Int)) (ex_assign rfl (q563.e (j := 112) rfl)) fun _ q564 => ?_;clear q563
          have q565 := ((((((((((Rp.nil q564.z).cons (q564.a 0 rfl)).cons (q564.a 1 rfl)).cons (q564.a 7 rfl)).cons (q564.a 9 rfl)).cons (q564.a 11 rfl)).cons (q564.a 13 rfl)).cons (q564.a 14 rfl)).cons (q564.a 15 rfl)).cons (q564.a 16 rfl))
          clear q564
          refine wpList_nil ?_
          exact ⟨_, rfl, hit3, v2, K ++ [xa, xb, xc, xd], q565, o2, orz, rwn, hmz, dz⟩
        · refine q509.t (.bool false) (ex_bin (Y := .int .i64 ((1 : Nat) : Int)) rfl (q509.e (j := 116) rfl) rfl (eqF20 _ _ (by omega) _)) fun _ q510 => ?_;clear q509
          refine wpList_nil ?_
          go_upto_region 33 with fail
          refine wp_cond_false (q510.e (j := 117) rfl) ?_
          go_upto_region 33 with fail
          refine wp_region_lit ?_
          refine q510.t (.slice ao l.length co) (ex_move rfl (q510.e (j := 17) rfl)) fun _ q511 => ?_;clear q510
          refine q511.t (.int .i64 ((1 + jp : Nat) : Int)) (ex_move rfl (q511.e (j := 18) rfl)) fun _ q512 => ?_;clear q511
          refine vcallP (want_none rfl) (ex_call rfl (by simp only [List.map_toArray, List.map_cons, List.map_nil, (q512.e (j := 123) rfl), (q512.e (j := 124) rfl), evc] <;> rfl) rfl) (incllude20 l _ _ _ ((1 + jp : Nat) : Int) wk (so.later dk) (by omega) (fun x hx => by have := hv10 x hx; omega)) rfl q512.z (by decide) ?_
          rintro e wa ⟨vxa, rfl, oxa0, bxa⟩
          refine ⟨_, rfl, q512.k fun _ q513 => ?_⟩;clear q512
          obtain ⟨xa, hvxa, hDxa, oxa⟩ := sv_of oxa0
          subst hvxa
          rw [← hDA] at hDxa
          have yxa := bxa.size
          refine q513.t (.tuple #[.slice xa.a xa.D.length xa.c, .int .i64 (inR (l.map lf) ((1 + jp : Nat) : Int)).2]) (ex_move rfl (q513.e (j := 125) rfl)) fun _ q514 => ?_;clear q513
          refine q514.t (.slice xa.a xa.D.length xa.c) (ex_ext18 rfl (q514.e (j := 122) rfl) rfl) fun _ q515 => ?_;clear q514
          refine q515.t (.int .i64 (inR (l.map lf) ((1 + jp : Nat) : Int)).2) (ex_ext18 rfl (q515.e (j := 122) rfl) rfl) fun _ q516 => ?_;clear q515
          refine q516.t (.slice xa.a xa.D.length xa.c) (ex_assign rfl (q516.e (j := 126) rfl)) fun _ q517 => ?_;clear q516
          refine q517.t (.int .i64 (inR (l.map lf) ((1 + jp : Nat) : Int)).2) (ex_assign rfl (q517.e (j := 127) rfl)) fun _ q518 => ?_;clear q517
          refine wpList_nil ?_
          go_upto_region 34 with fail
          refine wp_region_lit ?_
          refine q518.t (.slice ao l.length co) (ex_move rfl (q518.e (j := 17) rfl)) fun _ q519 => ?_;clear q518
          refine q519.t (.int .i64 ((jm : Nat) : Int)) (ex_move rfl (q519.e (j := 19) rfl)) fun _ q520 => ?_;clear q519
          refine vcallP (want_none rfl) (ex_call rfl (by simp only [List.map_toArray, List.map_cons, List.map_nil, (q520.e (j := 129) rfl), (q520.e (j := 130) rfl), evc] <;> rfl) rfl) (consist20 l _ _ _ ((jm : Nat) : Int) wa ((so.later dk).later bxa) (by omega) (fun x hx => by have := hv10 x hx; omega)) rfl q520.z (by decide) ?_
          rintro e wb ⟨vxb, rfl, oxb0, bxb⟩
          refine ⟨_, rfl, q520.k fun _ q521 => ?_⟩;clear q520
          obtain ⟨xb, hvxb, hDxb, oxb⟩ := sv_of oxb0
          subst hvxb
          rw [← hDC] at hDxb
          have yxb := bxb.size
          refine q521.t (.tuple #[.slice xb.a xb.D.length xb.c, .int .i64 (csR (l.map lf) ((jm : Nat) : Int)).2]) (ex_move rfl (q521.e (j := 131) rfl)) fun _ q522 => ?_;clear q521
          refine q522.t (.slice xb.a xb.D.length xb.c) (ex_ext18 rfl (q522.e (j := 128) rfl) rfl) fun _ q523 => ?_;clear q522
          refine q523.t (.int .i64 (csR (l.map lf) ((jm : Nat) : Int)).2) (ex_ext18 rfl (q523.e (j := 128) rfl) rfl) fun _ q524 => ?_;clear q523
          refine q524.t (.slice xb.a xb.D.length xb.c) (ex_assign rfl (q524.e (j := 132) rfl)) fun _ q525 => ?_;clear q524
          refine q525.t (.int .i64 (csR (l.map lf) ((jm : Nat) : Int)).2) (ex_assign rfl (q525.e (j := 133) rfl)) fun _ q526 => ?_;clear q525
          refine wpList_nil ?_
          go_upto_region 35 with fail
          refine wp_region_lit ?_
          refine q526.t (.pointer (some ⟨w.heap.size, 0, none⟩)) (ex_move rfl (q526.e (j := 7) rfl)) fun _ q527 => ?_;clear q526
          refine q527.t (.int .i64 ((1 + jp : Nat) : Int)) (ex_move rfl (q527.e (j := 13) rfl)) fun _ q528 => ?_;clear q527
          refine q528.t (.slice a1 l.length c1) (ex_move rfl (q528.e (j := 0) rfl)) fun _ q529 => ?_;clear q528
          refine q529.t (.int .i64 ((l.length : Nat) : Int)) (ex_lenG rfl rfl Tryd.underlying25 (q529.e (j := 137) rfl)) fun _ q530 => ?_;clear q529
          refine vcallP (want_none rfl) (ex_call rfl (by simp only [List.map_toArray, List.map_cons, List.map_nil, (q530.e (j := 135) rfl), (q530.e (j := 136) rfl), (q530.e (j := 138) rfl), evc] <;> rfl) rfl) (tincl_all20 ((1 + jp : Nat) : Int) (((TT.later dk).later bxa).later bxb) (by rw [List.length_map]) (by omega)) rfl q530.z (by decide) ?_
          rintro e wc ⟨vxc, rfl, oxc0, bxc⟩
          refine ⟨_, rfl, q530.k fun _ q531 => ?_⟩;clear q530
          obtain ⟨xc, hvxc, hDxc, oxc⟩ := sv_of oxc0
          subst hvxc
          rw [← hDA] at hDxc
          have yxc := bxc.size
          refine q531.t (.tuple #[.slice xc.a xc.D.length xc.c, .int .i64 (inR (l.map lf) ((1 + jp : Nat) : Int)).2]) (ex_move rfl (q531.e (j := 139) rfl)) fun _ q532 => ?_;clear q531
          refine q532.t (.slice xc.a xc.D.length xc.c) (ex_ext18 rfl (q532.e (j := 134) rfl) rfl) fun _ q533 => ?_;clear q532
          refine q533.t (.int .i64 (inR (l.map lf) ((1 + jp : Nat) : Int)).2) (ex_ext18 rfl (q533.e (j := 134) rfl) rfl) fun _ q534 => ?_;clear q533
          refine q534.t (.slice xc.a xc.D.length xc.c) (ex_assign rfl (q534.e (j := 140) rfl)) fun _ q535 => ?_;clear q534
          refine q535.t (.int .i64 (inR (l.map lf) ((1 + jp : Nat) : Int)).2) (ex_assign rfl (q535.e (j := 141) rfl)) fun _ q536 => ?_;clear q535
          refine wpList_nil ?_
          go_upto_region 36 with fail
          refine wp_region_lit ?_
          refine q536.t (.pointer (some ⟨w.heap.size, 0, none⟩)) (ex_move rfl (q536.e (j := 7) rfl)) fun _ q537 => ?_;clear q536
          refine q537.t (.int .i64 ((jm : Nat) : Int)) (ex_move rfl (q537.e (j := 14) rfl)) fun _ q538 => ?_;clear q537
          refine q538.t (.slice a1 l.length c1) (ex_move rfl (q538.e (j := 0) rfl)) fun _ q539 => ?_;clear q538
          refine q539.t (.int .i64 ((l.length : Nat) : Int)) (ex_lenG rfl rfl Tryd.underlying25 (q539.e (j := 145) rfl)) fun _ q540 => ?_;clear q539
          refine vcallP (want_none rfl) (ex_call rfl (by simp only [List.map_toArray, List.map_cons, List.map_nil, (q540.e (j := 143) rfl), (q540.e (j := 144) rfl), (q540.e (j := 146) rfl), evc] <;> rfl) rfl) (tcons_all20 ((jm : Nat) : Int) ((((TT.later dk).later bxa).later bxb).later bxc) (by rw [List.length_map]) (by omega)) rfl q540.z (by decide) ?_
          rintro e wd ⟨vxd, rfl, oxd0, bxd⟩
          refine ⟨_, rfl, q540.k fun _ q541 => ?_⟩;clear q540
          obtain ⟨xd, hvxd, hDxd, oxd⟩ := sv_of oxd0
          subst hvxd
          rw [← hDC] at hDxd
          have yxd := bxd.size
          refine q541.t (.tuple #[.slice xd.a xd.D.length xd.c, .int .i64 (csR (l.map lf) ((jm : Nat) : Int)).2]) (ex_move rfl (q541.e (j := 147) rfl)) fun _ q542 => ?_;clear q541
          refine q542.t (.slice xd.a xd.D.length xd.c) (ex_ext18 rfl (q542.e (j := 142) rfl) rfl) fun _ q543 => ?_;clear q542
          refine q543.t (.int .i64 (csR (l.map lf) ((jm : Nat) : Int)).2) (ex_ext18 rfl (q543.e (j := 142) rfl) rfl) fun _ q544 => ?_;clear q543
          refine q544.t (.slice xd.a xd.D.length xd.c) (ex_assign rfl (q544.e (j := 148) rfl)) fun _ q545 => ?_;clear q544
          refine q545.t (.int .i64 (csR (l.map lf) ((jm : Nat) : Int)).2) (ex_assign rfl (q545.e (j := 149) rfl)) fun _ q546 => ?_;clear q545
          refine wpList_nil ?_
          go_upto_region 37 with fail
          refine wp_region_lit ?_
          refine q546.t (kv) (ex_move rfl (q546.e (j := 15) rfl)) fun _ q547 => ?_;clear q546
          refine q547.t (.slice xa.a xa.D.length xa.c) (ex_move rfl (q547.e (j := 20) rfl)) fun _ q548 => ?_;clear q547
          refine q548.t (.slice xb.a xb.D.length xb.c) (ex_move rfl (q548.e (j := 22) rfl)) fun _ q549 => ?_;clear q548
          refine q549.t (.slice xc.a xc.D.length xc.c) (ex_move rfl (q549.e (j := 24) rfl)) fun _ q550 => ?_;clear q549
          refine q550.t (.slice xd.a xd.D.length xd.c) (ex_move rfl (q550.e (j := 26) rfl)) fun _ q551 => ?_;clear q550
          obtain ⟨r1, hr1⟩ : ∃ y, y = wd.alloc (.cells (fl yHS [xa, xb, xc, xd]).toArray 44) := ⟨_, rfl⟩
          refine vw (.slice (some ⟨wd.heap.size, 0, none⟩) 4 4) r1 (want_none rfl) (ex_bsP20 (P := #[(0, .slice xa.a xa.D.length xa.c), (1, .slice xb.a xb.D.length xb.c), (2, .slice xc.a xc.D.length xc.c), (3, .slice xd.a xd.D.length xd.c)]) rfl (by simp only [List.map_toArray, List.map_cons, List.map_nil, (q551.e (j := 151) rfl), (q551.e (j := 152) rfl), (q551.e (j := 153) rfl), (q551.e (j := 154) rfl), evc] <;> rfl) (by rw [hr1]; exact bsHS4 _ _ _ _ _)) rfl q551.z (by decide) (q551.k fun _ q552 => ?_);clear q551
          have s1 : SlY yHS r1 (some ⟨wd.heap.size, 0, none⟩) 4 4 [xa, xb, xc, xd] := by rw [hr1]; exact sl_lit kHS wd [xa, xb, xc, xd] 44 (by show 4 ≤ maxLen; unfold maxLen; omega)
          have b1 : Below wd.heap.size wd r1 := by rw [hr1]; exact (Below.refl _ _).alloc (Nat.le_refl _) _
          clear hr1
          have y1 := b1.size
          have okd : OwnY yHS v901.heap.size r1 kv K := ((((okv.grow bxa).grow bxb).grow bxc).grow bxd).grow b1
          obtain ⟨v2, r2, ha2, o2, g2, h42⟩ := run_appY kHS r1 43 v901.heap.size K kv _ 4 4 [xa, xb, xc, xd] s1 okd (by omega) (by unfold maxLen; omega) (by show (K.length + 4) * 24 ≤ _; omega)
          have u2 := gupd20 g2
          have y2 := u2.size
          have orn : ∀ (i : Nat) (y : SV Hs), (K ++ [xa] ++ [xb] ++ [xc] ++ [xd])[i]? = some y → OwnY yH v901.heap.size r1 y.v y.D := own_push (own_push (own_push (own_push (fun i y hy => (((((orw i y hy).grow bxa).grow bxb).grow bxc).grow bxd).grow b1) (((((oxa.grow bxb).grow bxc).grow bxd).grow b1).low (by omega))) ((((oxb.grow bxc).grow bxd).grow b1).low (by omega))) (((oxc.grow bxd).grow b1).low (by omega))) ((oxd.grow b1).low (by omega))
          have rwn : Rws (K ++ [xa] ++ [xb] ++ [xc] ++ [xd]) r2.heap.size := ((((rws.push (S2 := wa.heap.size) (by omega) (fun b hb => oxa.blk b hb)).push (S2 := wb.heap.size) (by omega) (fun b hb => oxb.blk b hb)).push (S2 := wc.heap.size) (by omega) (fun b hb => oxc.blk b hb)).push (S2 := wd.heap.size) (by omega) (fun b hb => oxd.blk b hb)).up (by omega)
          have eK : K ++ [xa, xb, xc, xd] = K ++ [xa] ++ [xb] ++ [xc] ++ [xd] := by simp
          rw [← eK] at orn rwn
          have orz : ∀ (i : Nat) (y : SV Hs), (K ++ [xa, xb, xc, xd])[i]? = some y → OwnY yH v901.heap.size r2 y.v y.D := fun i y hy => (orn i y hy).upd1 u2 (fun b hb e => OwnY.apart (orn i y hy) okd hH_HS b hb e)
          have hmz : (K ++ [xa, xb, xc, xd]).map SV.D = [DA, DC, DA, DC, DA1, DC1, DA, DC, DA, DC, DA, DC].take (4 * (j + 1)) := by
            rw [List.map_append, hmp]
            show _ ++ [xa.D, xb.D, xc.D, xd.D] = _
            rw [hDxa, hDxb, hDxc, hDxd]
            rcases (by omega : j = 0 ∨ j = 2) with rfl | rfl <;> rfl
          have dz : Below v901.heap.size v901 r2 := (((((dk.trans (bxa.mono (by omega))).trans (bxb.mono (by omega))).trans (bxc.mono (by omega))).trans (bxd.mono (by omega))).trans (b1.mono (by omega))).trans (u2.below (by omega) (fun k hk => (okd.blk k hk).1))
          refine vw (v2) r2 (want_none rfl) (ex_app18 rfl (q552.e (j := 150) rfl) (q552.e (j := 155) rfl) ha2) rfl q552.z (by decide) (q552.k fun _ q553 => ?_);clear q552
          refine q553.t (v2) (ex_assign rfl (q553.e (j := 156) rfl)) fun _ q554 => ?_;clear q553
          refine wpList_nil ?_
          go_upto_region 25 with fail
          refine wp_region_lit ?_
          refine q554.t (.int .i64 ((j : Nat) : Int)) (ex_move rfl (q554.e (j := 16) rfl)) fun _ q555 => ?_;clear q554
          refine q555.t (.int .i64 ((j + 1 : Nat) : Int)) (ex_bin rfl (q555.e (j := 111) rfl) rfl (add1C _ _ j (by omega) _)) fun _ q556 => ?_;clear q555
          refine q556.t (.int .i64 ((j + 1 : Nat) : Int)) (ex_assign rfl (q556.e (j := 112) rfl)) fun _ q557 => ?_;clear q556
          have q558 := ((((((((((Rp.nil q557.z).cons (q557.a 0 rfl)).cons (q557.a 1 rfl)).cons (q557.a 7 rfl)).cons (q557.a 9 rfl)).cons (q557.a 11 rfl)).cons (q557.a 13 rfl)).cons (q557.a 14 rfl)).cons (q557.a 15 rfl)).cons (q557.a 16 rfl))
          clear q557
          refine wpList_nil ?_
          exact ⟨_, rfl, hit3, v2, K ++ [xa, xb, xc, xd], q558, o2, orz, rwn, hmz, dz⟩
      · obtain rfl : j = 3 := by omega
        have hLL : K.map SV.D = [DA, DC, DA, DC, DA1, DC1, DA, DC, DA, DC, DA, DC] := hmp
        have hKl : K.length = 12 := by have := congrArg List.length hLL; rw [List.length_map] at this; exact this
        clear hmp
        obtain ⟨ak, ck, hkv, _, _, _, _⟩ := okv.form
        subst hkv
        have hKd : ∀ (i : Nat) (x : SV Hs), K[i]? = some x → x.D.length ≤ 200 := fun i x hx => by
          have h5 : x.D ∈ [DA, DC, DA, DC, DA1, DC1, DA, DC, DA, DC, DA, DC] := by rw [← hLL]; exact List.mem_map.2 ⟨x, List.mem_of_getElem? hx, rfl⟩
          simp only [List.mem_cons, List.not_mem_nil, or_false] at h5
          rcases h5 with e | e | e | e | e | e | e | e | e | e | e | e <;> (rw [e]; assumption)
        obtain ⟨qk, ok9, hqk, hqkl, hlk⟩ := (okv.sl' kHS).place (by rintro rfl; simp at hKl)
        go_upto_region 24 with fail
        refine wp_region_lit ?_
        refine q500.t (.int .i64 ((3 : Nat) : Int)) (ex_move rfl (q500.e (j := 16) rfl)) fun _ q501 => ?_;clear q500
        refine q501.t (.bool false) (ex_bin (Y := .int .i64 ((3 : Nat) : Int)) rfl (q501.e (j := 109) rfl) rfl (ltF _ _ hit3 _)) fun _ q502 => ?_;clear q501
        refine wpList_nil ?_
        go_upto_region 38 with fail
        refine wp_cond_false (q502.e (j := 110) rfl) ?_
        go_upto_region 38 with fail
        refine wp_region_lit ?_
        refine q502.t (.int .i64 ((0 : Nat) : Int)) (ex_assign rfl rfl) fun _ q503 => ?_;clear q502
        have q504 := (((((((Rp.nil q503.z).cons (q503.a 0 rfl)).cons (q503.a 7 rfl)).cons (q503.a 9 rfl)).cons (q503.a 11 rfl)).cons (q503.a 15 rfl)).cons (q503.a 28 rfl))
        clear q503
        refine wpList_nil ?_
        go_upto_region 39 with fail
        refine v_loop 28 4 (fun j T wy => Rp T 217 [(28, gw true (.int .i64 ((j : Nat) : Int))), (15, gw true (.slice ak K.length ck)), (11, gw true (.pointer (some ⟨w6.heap.size, 0, none⟩))), (9, gw true (.slice ao l.length co)), (7, gw true (.pointer (some ⟨w.heap.size, 0, none⟩))), (0, gw true (.slice a1 l.length c1))] ∧ Hid (Below wk.heap.size wk wy)) (fun j T w h => h.1.a 28 rfl) ⟨q504, Below.refl _ _⟩ ?_
        clear q504
        intro j T wy hj4 hh4
        obtain ⟨q700, HJ⟩ := hh4
        have dy : Below wk.heap.size wk wy := HJ.out
        clear HJ
        have zy := dy.size
        have dwy : Below w.heap.size w wy := dwk.trans (dy.mono dwk.size)
        by_cases hit4 : j < 4
        · obtain ⟨x, hx⟩ : ∃ x, K[j]? = some x := ⟨_, List.getElem?_eq_getElem (by omega)⟩
          obtain ⟨x8, hx8⟩ : ∃ y, K[8 + j]? = some y := ⟨_, List.getElem?_eq_getElem (by omega)⟩
          have hxy := four_of hLL hit4 hx hx8
          have hx2 := hKd j x hx
          have ck9 := (okv.sl' kHS).cap
          have ak9 : LieAt yHS wy qk ok9 K := hlk.at hqkl dy
          have sx : SlY yH wy x.a x.D.length x.c x.D := (show OwnY yH v901.heap.size wk (.slice x.a x.D.length x.c) x.D from orw j x hx).sl' kH |>.later dy
          have sy : SlY yH wy x8.a x8.D.length x8.c x8.D := (show OwnY yH v901.heap.size wk (.slice x8.a x8.D.length x8.c) x8.D from orw (8 + j) x8 hx8).sl' kH |>.later dy
          go_upto_region 39 with fail
          refine wp_region_lit ?_
          refine q700.t (.int .i64 ((j : Nat) : Int)) (ex_move rfl (q700.e (j := 28) rfl)) fun _ q701 => ?_;clear q700
          refine q701.t (.bool true) (ex_bin (Y := .int .i64 ((4 : Nat) : Int)) rfl (q701.e (j := 157) rfl) rfl (ltT _ _ hit4 _)) fun _ q702 => ?_;clear q701
          refine wpList_nil ?_
          go_upto_region 41 with fail
          refine wp_cond_true (q702.e (j := 158) rfl) ?_
          rw [hqk] at q702
          go_upto_region 41 with fail
          refine vp_start 217 (fun T v => Rp T 217 [(0, gw true (.slice a1 l.length c1)), (7, gw true (.pointer (some ⟨w.heap.size, 0, none⟩))), (9, gw true (.slice ao l.length co)), (11, gw true (.pointer (some ⟨w6.heap.size, 0, none⟩))), (15, gw true (.slice (some ⟨qk, ok9, none⟩) K.length ck)), (28, gw true (.int .i64 ((j : Nat) : Int)))] ∧ Upd (fun k => False) wy v) (fun (i : Nat) (T : Array Value) (v : World) => match i with | 0 => T[161]? = some (gw true (.slice (some ⟨qk, ok9, none⟩) K.length ck)) | 1 => T[162]? = some (gw true (.int .i64 ((j : Nat) : Int))) | 2 => T[163]? = some (gw true (.pointer (some ⟨qk, ok9 + j * 1, none⟩))) | 3 => T[164]? = some (gw true (.slice x.a x.D.length x.c)) | 4 => T[165]? = some (gw true (.slice (some ⟨qk, ok9, none⟩) K.length ck)) | 5 => T[166]? = some (gw true (.int .i64 ((j : Nat) : Int))) | 6 => T[167]? = some (gw true (.int .i64 ((8 + j : Nat) : Int))) | 7 => T[168]? = some (gw true (.pointer (some ⟨qk, ok9 + (8 + j) * 1, none⟩))) | 8 => T[169]? = some (gw true (.slice x8.a x8.D.length x8.c)) | 9 => T[170]? = some (gw true (.bool true)) | 10 => T[171]? = some (gw true (.bool false)) | _ => True) (fun (i : Nat) (T : Array Value) (v : World) => match i with | _ => True) (fun j T k => False) (fun i => match i with | 0 => [161] | 1 => [162] | 2 => [163] | 3 => [164] | 4 => [165] | 5 => [166] | 6 => [167] | 7 => [168] | 8 => [169] | 9 => [170] | 10 => [171] | _ => []) (fun _ => []) [0, 7, 9, 11, 15, 28] (fun i j => false) (fun i => false) (by kernel_rfl) (by kernel_rfl) q702.z ⟨(((((((Rp.nil q702.z).cons (q702.a 28 rfl)).cons (q702.a 15 rfl)).cons (q702.a 11 rfl)).cons (q702.a 9 rfl)).cons (q702.a 7 rfl)).cons (q702.a 0 rfl)), (Upd.refl _ _).drew20⟩ ?_ ?_ ?_ ?_ ?_ ?_
          · exact ⟨trivial, trivial, trivial, trivial, trivial, trivial, trivial, trivial, trivial, trivial, trivial, trivial⟩
          · intro j T T2 v v2 h _ hz hk hu
            exact ⟨h.1.ch hz hk, h.2.tr20 hu (fun k hk he => he.elim)⟩
          · refine ⟨?_, ?_, ?_, ?_, ?_, ?_, ?_, ?_, ?_, ?_, ?_, trivial⟩
            · exact fun j hj hu T T2 v v2 h hD hz hk zU => (hk 161 (List.mem_singleton.2 rfl)).trans h
            · exact fun j hj hu T T2 v v2 h hD hz hk zU => (hk 162 (List.mem_singleton.2 rfl)).trans h
            · exact fun j hj hu T T2 v v2 h hD hz hk zU => (hk 163 (List.mem_singleton.2 rfl)).trans h
            · exact fun j hj hu T T2 v v2 h hD hz hk zU => (hk 164 (List.mem_singleton.2 rfl)).trans h
            · exact fun j hj hu T T2 v v2 h hD hz hk zU => (hk 165 (List.mem_singleton.2 rfl)).trans h
            · exact fun j hj hu T T2 v v2 h hD hz hk zU => (hk 166 (List.mem_singleton.2 rfl)).trans h
            · exact fun j hj hu T T2 v v2 h hD hz hk zU => (hk 167 (List.mem_singleton.2 rfl)).trans h
            · exact fun j hj hu T T2 v v2 h hD hz hk zU => (hk 168 (List.mem_singleton.2 rfl)).trans h
            · exact fun j hj hu T T2 v v2 h hD hz hk zU => (hk 169 (List.mem_singleton.2 rfl)).trans h
            · exact fun j hj hu T T2 v v2 h hD hz hk zU => (hk 170 (List.mem_singleton.2 rfl)).trans h
            · exact fun j hj hu T T2 v v2 h hD hz hk zU => (hk 171 (List.mem_singleton.2 rfl)).trans h
          · refine ⟨fun _ _ _ _ _ _ _ _ _ _ _ => trivial, fun _ _ _ _ _ _ _ _ _ _ _ => trivial, fun _ _ _ _ _ _ _ _ _ _ _ => trivial, fun _ _ _ _ _ _ _ _ _ _ _ => trivial, fun _ _ _ _ _ _ _ _ _ _ _ => trivial, fun _ _ _ _ _ _ _ _ _ _ _ => trivial, fun _ _ _ _ _ _ _ _ _ _ _ => trivial, fun _ _ _ _ _ _ _ _ _ _ _ => trivial, fun _ _ _ _ _ _ _ _ _ _ _ => trivial, fun _ _ _ _ _ _ _ _ _ _ _ => trivial, fun _ _ _ _ _ _ _ _ _ _ _ => trivial, trivial⟩
          · refine ⟨?_, ?_, ?_, ?_, ?_, ?_, ?_, ?_, ?_, ?_, ?_, trivial⟩
            · intro T df v zz zB zp zC
              have qb := zB.1
              have zU := zB.2
              exact ⟨true, want_none rfl, fun _ => .inl ⟨_, _, ex_move rfl (qb.e (j := 15) rfl), Upd.refl _ _, fun h => absurd h (by decide), fun T2 N => N.s 161 rfl⟩, fun h => absurd h (by decide), fun h => absurd h (by decide)⟩
            · intro T df v zz zB zp zC
              have qb := zB.1
              have zU := zB.2
              exact ⟨true, want_none rfl, fun _ => .inl ⟨_, _, ex_move rfl (qb.e (j := 28) rfl), Upd.refl _ _, fun h => absurd h (by decide), fun T2 N => N.s 162 rfl⟩, fun h => absurd h (by decide), fun h => absurd h (by decide)⟩
            · intro T df v zz zB zp zC
              have qb := zB.1
              have zU := zB.2
              have p0 : T[161]? = some (gw true (.slice (some ⟨qk, ok9, none⟩) K.length ck)) := zp 0 (by kernel_rfl) (by kernel_rfl)
              have p1 : T[162]? = some (gw true (.int .i64 ((j : Nat) : Int))) := zp 1 (by kernel_rfl) (by kernel_rfl)
              exact ⟨true, want_none rfl, fun _ => .inl ⟨_, _, ex_ix rfl (ev p0 rfl) (ev p1 rfl) (ixHS1 qk ok9 K.length ck j (by omega) _), Upd.refl _ _, fun h => absurd h (by decide), fun T2 N => N.s 163 rfl⟩, fun h => absurd h (by decide), fun h => absurd h (by decide)⟩
            · intro T df v zz zB zp zC
              have qb := zB.1
              have zU := zB.2
              have HB : Below wy.heap.size wy v := zU.below (Nat.le_refl _) (fun k hk => hk.elim)
              have p2 : T[163]? = some (gw true (.pointer (some ⟨qk, ok9 + j * 1, none⟩))) := zp 2 (by kernel_rfl) (by kernel_rfl)
              exact ⟨true, want_none rfl, fun _ => .inl ⟨_, _, ex_ld rfl (ev p2 rfl) (ldHS1 ((ak9.later HB).2) hx), Upd.refl _ _, fun h => absurd h (by decide), fun T2 N => N.s 164 rfl⟩, fun h => absurd h (by decide), fun h => absurd h (by decide)⟩
            · intro T df v zz zB zp zC
              have qb := zB.1
              have zU := zB.2
              exact ⟨true, want_none rfl, fun _ => .inl ⟨_, _, ex_move rfl (qb.e (j := 15) rfl), Upd.refl _ _, fun h => absurd h (by decide), fun T2 N => N.s 165 rfl⟩, fun h => absurd h (by decide), fun h => absurd h (by decide)⟩
            · intro T df v zz zB zp zC
              have qb := zB.1
              have zU := zB.2
              exact ⟨true, want_none rfl, fun _ => .inl ⟨_, _, ex_move rfl (qb.e (j := 28) rfl), Upd.refl _ _, fun h => absurd h (by decide), fun T2 N => N.s 166 rfl⟩, fun h => absurd h (by decide), fun h => absurd h (by decide)⟩
            · intro T df v zz zB zp zC
              have qb := zB.1
              have zU := zB.2
              have p5 : T[166]? = some (gw true (.int .i64 ((j : Nat) : Int))) := zp 5 (by kernel_rfl) (by kernel_rfl)
              exact ⟨true, want_none rfl, fun _ => .inl ⟨_, _, ex_bin (X := .int .i64 ((8 : Nat) : Int)) rfl rfl (ev p5 rfl) (addP _ _ 8 j (by omega) _), Upd.refl _ _, fun h => absurd h (by decide), fun T2 N => N.s 167 rfl⟩, fun h => absurd h (by decide), fun h => absurd h (by decide)⟩
            · intro T df v zz zB zp zC
              have qb := zB.1
              have zU := zB.2
              have p4 : T[165]? = some (gw true (.slice (some ⟨qk, ok9, none⟩) K.length ck)) := zp 4 (by kernel_rfl) (by kernel_rfl)
              have p6 : T[167]? = some (gw true (.int .i64 ((8 + j : Nat) : Int))) := zp 6 (by kernel_rfl) (by kernel_rfl)
              exact ⟨true, want_none rfl, fun _ => .inl ⟨_, _, ex_ix rfl (ev p4 rfl) (ev p6 rfl) (ixHS1 qk ok9 K.length ck (8 + j) (by omega) _), Upd.refl _ _, fun h => absurd h (by decide), fun T2 N => N.s 168 rfl⟩, fun h => absurd h (by decide), fun h => absurd h (by decide)⟩
            · intro T df v zz zB zp zC
              have qb := zB.1
              have zU := zB.2
              have HB : Below wy.heap.size wy v := zU.below (Nat.le_refl _) (fun k hk => hk.elim)
              have p7 : T[168]? = some (gw true (.pointer (some ⟨qk, ok9 + (8 + j) * 1, none⟩))) := zp 7 (by kernel_rfl) (by kernel_rfl)
              exact ⟨true, want_none rfl, fun _ => .inl ⟨_, _, ex_ld rfl (ev p7 rfl) (ldHS1 ((ak9.later HB).2) hx8), Upd.refl _ _, fun h => absurd h (by decide), fun T2 N => N.s 169 rfl⟩, fun h => absurd h (by decide), fun h => absurd h (by decide)⟩
            · intro T df v zz zB zp zC
              have qb := zB.1
              have zU := zB.2
              have HB : Below wy.heap.size wy v := zU.below (Nat.le_refl _) (fun k hk => hk.elim)
              have p3 : T[164]? = some (gw true (.slice x.a x.D.length x.c)) := zp 3 (by kernel_rfl) (by kernel_rfl)
              have p8 : T[169]? = some (gw true (.slice x8.a x8.D.length x8.c)) := zp 8 (by kernel_rfl) (by kernel_rfl)
              refine ⟨true, want_none rfl, fun hc => .inr (.inr ⟨_, _, _, ex_call rfl (by simp only [List.map_toArray, List.map_cons, List.map_nil, (ev p3 rfl), (ev p8 rfl), evc] <;> rfl) rfl, sameJ20 x.D _ _ _ _ _ _ v (sx.later HB) (by rw [hxy]; exact (sy.later HB)) (by omega), ?_⟩), fun _ => rfl, fun h => absurd h (by decide)⟩
              rintro e w9 ⟨rfl, b9⟩
              exact ⟨_, rfl, Upd.of_below b9, fun h => absurd h (by decide), fun T2 N => N.s 170 rfl⟩
            · intro T df v zz zB zp zC
              have qb := zB.1
              have zU := zB.2
              have p9 : T[170]? = some (gw true (.bool true)) := zp 9 (by kernel_rfl) (by kernel_rfl)
              exact ⟨true, want_none rfl, fun _ => .inl ⟨_, _, ex_not rfl (ev p9 rfl), Upd.refl _ _, fun h => absurd h (by decide), fun T2 N => N.s 171 rfl⟩, fun h => absurd h (by decide), fun h => absurd h (by decide)⟩
          intro T v904 zz zB zq za
          have qb := zB.1
          have U905 := zB.2
          clear zB zz
          clear q702
          have d906 : Below w.heap.size w v904 := dwy.trans (U905.below (Nat.le_trans dwy.size (Nat.le_refl _)) (fun k hk => hk.elim))
          have zv904 := U905.size
          have p10 : T[171]? = some (gw true (.bool false)) := zq 10 _ rfl (fun k => rfl)
          have q703 := (qb.cons p10)
          clear zq za qb p10
          rw [← hqk] at q703
          go_upto_region 40 with fail
          refine wp_cond_false (q703.e (j := 171) rfl) ?_
          have dy2 : Below wk.heap.size wk v904 := dy.trans ((U905.below (Nat.le_refl _) (fun k hk => hk.elim)).mono zy)
          go_upto_region 40 with fail
          refine wp_region_lit ?_
          refine q703.t (.int .i64 ((j : Nat) : Int)) (ex_move rfl (q703.e (j := 28) rfl)) fun _ q704 => ?_;clear q703
          refine q704.t (.int .i64 ((j + 1 : Nat) : Int)) (ex_bin rfl (q704.e (j := 159) rfl) rfl (add1C _ _ j (by omega) _)) fun _ q705 => ?_;clear q704
          refine q705.t (.int .i64 ((j + 1 : Nat) : Int)) (ex_assign rfl (q705.e (j := 160) rfl)) fun _ q706 => ?_;clear q705
          have q707 := (((((((Rp.nil q706.z).cons (q706.a 0 rfl)).cons (q706.a 7 rfl)).cons (q706.a 9 rfl)).cons (q706.a 11 rfl)).cons (q706.a 15 rfl)).cons (q706.a 28 rfl))
          clear q706
          refine wpList_nil ?_
          exact ⟨_, rfl, hit4, q707, dy2⟩
        · obtain rfl : j = 4 := by omega
          go_upto_region 39 with fail
          refine wp_region_lit ?_
          refine q700.t (.int .i64 ((4 : Nat) : Int)) (ex_move rfl (q700.e (j := 28) rfl)) fun _ q701 => ?_;clear q700
          refine q701.t (.bool false) (ex_bin (Y := .int .i64 ((4 : Nat) : Int)) rfl (q701.e (j := 157) rfl) rfl (ltF _ _ hit4 _)) fun _ q702 => ?_;clear q701
          refine wpList_nil ?_
          go_upto_region 43 with fail
          refine wp_cond_false (q702.e (j := 158) rfl) ?_
          go_upto_region 43 with fail
          refine wp_region_lit ?_
          refine q702.t (.slice ak K.length ck) (ex_move rfl (q702.e (j := 15) rfl)) fun _ q703 => ?_;clear q702
          refine vcallP (want_none rfl) (ex_call rfl (by simp only [List.map_toArray, List.map_cons, List.map_nil, (q703.e (j := 172) rfl), evc] <;> rfl) rfl) (apart20 K ak ck v901.heap.size v901.heap.size wy (okv.grow dy) (by omega) (fun i x hx => (orw i x hx).grow dy) rws.2 (by omega) hKd) rfl q703.z (by decide) ?_
          rintro e wz ⟨rfl, bz⟩
          refine ⟨_, rfl, q703.k fun _ q704 => ?_⟩;clear q703
          refine q704.t (.bool false) (ex_not rfl (q704.e (j := 173) rfl)) fun _ q705 => ?_;clear q704
          refine wpList_nil ?_
          go_upto_region 45 with fail
          refine wp_cond_false (q705.e (j := 174) rfl) ?_
          go_upto_region 45 with fail
          refine wp_region_lit ?_
          have yz := bz.size
          have dvz : Below v901.heap.size v901 wz := (dk.trans (dy.mono zk)).trans bz
          have dwz : Below w.heap.size w wz := d903.trans (dvz.mono d903.size)
          clear dk dy bz okv orw rws hLL hKd
          refine q705.t (.slice ao l.length co) (ex_move rfl (q705.e (j := 9) rfl)) fun _ q706 => ?_;clear q705
          refine q706.t (.int .i64 ((l.length : Nat) : Int)) (ex_lenG rfl rfl Tryd.underlying25 (q706.e (j := 175) rfl)) fun _ q707 => ?_;clear q706
          by_cases h0 : 0 < l.length
          · refine q707.t (.bool true) (ex_bin (Y := .int .i64 ((0 : Nat) : Int)) rfl (q707.e (j := 176) rfl) rfl (gtT20 _ _ (by omega) _)) fun _ q708 => ?_;clear q707
            have q709 := ((((((Rp.nil q708.z).cons (q708.a 0 rfl)).cons (q708.a 7 rfl)).cons (q708.a 9 rfl)).cons (q708.a 11 rfl)).cons (q708.a 177 rfl))
            clear q708
            refine wpList_nil ?_
            go_upto_region 46 with fail
            refine wp_cond_true (q709.e (j := 177) rfl) ?_
            obtain ⟨x, hx⟩ : ∃ x, l[0]? = some x := ⟨_, List.getElem?_eq_getElem (by omega)⟩
            have oz := o9.grow dvz
            obtain ⟨go, hgo, hgo1, hgo2⟩ := own_place oz (by rintro e; rw [e] at h0; simp at h0)
            obtain ⟨qa, oa, hqa, hqal, hl9⟩ := s10.place (by rintro e; rw [e] at h0; simp at h0)
            have hgo3 : go < w4.heap.size := (o4b go (by rw [hgo]; rfl)).2
            rw [hgo, hqa] at q709
            rw [hgo] at oz
            obtain ⟨z, hxor⟩ : ∃ z : Int, ∀ (a b : Operand) (w : World), (do eqGuard .xor 3 a b (.int .i64 x.n) (.int .i64 1); binOp .xor 3 (.int .i64 x.n) (.int .i64 1) : Sem Value).run Tryd.prog w = .ok (.int .i64 z) w := ⟨bits .xor .i64 x.n 1, fun a b w => by go_simp⟩
            have hcell : wz.cell? ⟨go, 1, none⟩ = some (.int .i64 x.n) := by
              have := oz.cell kE 0 x hx 1 (.int .i64 x.n) rfl
              exact this
            obtain ⟨wy2, hwy2⟩ : ∃ y, y = wz.setCell ⟨go, 1, none⟩ (.int .i64 z) := ⟨_, rfl⟩
            obtain ⟨x2, hx2e⟩ : ∃ x2 : En, x2 = { x with n := z } := ⟨_, rfl⟩
            go_upto_region 46 with fail
            refine wp_region_lit ?_
            refine q709.t (.slice (some ⟨go, 0, none⟩) l.length co) (ex_move rfl (q709.e (j := 9) rfl)) fun _ q710 => ?_;clear q709
            refine q710.t (.slice (some ⟨go, 0, none⟩) l.length co) (ex_move rfl (q710.e (j := 9) rfl)) fun _ q711 => ?_;clear q710
            refine q711.t (.pointer (some ⟨go, 0, none⟩)) (ex_ix (Y := .int .i64 ((0 : Nat) : Int)) rfl (q711.e (j := 179) rfl) rfl (show (Instr.indexAt 25 (.slice (some ⟨go, 0, none⟩) l.length co) (.int .i64 ((0 : Nat) : Int))).run Tryd.prog _ = .ok (.pointer (some ⟨go, 0, none⟩)) _ from ixE20 go 0 l.length co 0 h0 _)) fun _ q712 => ?_;clear q711
            refine q712.t (.pointer (some ⟨go, 1, none⟩)) (ex_fa rfl (q712.e (j := 180) rfl) (faE20 go 1 1 (.inr (.inl ⟨rfl, rfl⟩)) _)) fun _ q713 => ?_;clear q712
            refine q713.t (.int .i64 x.n) (ex_ld rfl (q713.e (j := 181) rfl) (ldI20 hcell)) fun _ q714 => ?_;clear q713
            refine q714.t (.int .i64 z) (ex_bin (Y := .int .i64 1) rfl (q714.e (j := 182) rfl) rfl (hxor _ _ _)) fun _ q715 => ?_;clear q714
            refine q715.t (.pointer (some ⟨go, 0, none⟩)) (ex_ix (Y := .int .i64 ((0 : Nat) : Int)) rfl (q715.e (j := 178) rfl) rfl (show (Instr.indexAt 25 (.slice (some ⟨go, 0, none⟩) l.length co) (.int .i64 ((0 : Nat) : Int))).run Tryd.prog _ = .ok (.pointer (some ⟨go, 0, none⟩)) _ from ixE20 go 0 l.length co 0 h0 _)) fun _ q716 => ?_;clear q715
            refine q716.t (.pointer (some ⟨go, 1, none⟩)) (ex_fa rfl (q716.e (j := 184) rfl) (faE20 go 1 1 (.inr (.inl ⟨rfl, rfl⟩)) _)) fun _ q717 => ?_;clear q716
            refine vs wy2 (want_none rfl) (ex_st rfl (q717.e (j := 185) rfl) (q717.e (j := 183) rfl) (by rw [hwy2]; exact stI20 hcell (oz.free 1))) rfl ?_
            have q718 := (((((Rp.nil q717.z).cons (q717.a 0 rfl)).cons (q717.a 7 rfl)).cons (q717.a 9 rfl)).cons (q717.a 11 rfl))
            clear q717
            refine wpList_nil ?_
            have oy : OwnY yE w3.heap.size wy2 (.slice (some ⟨go, 0, none⟩) l.length co) (l.set 0 x2) := by
              rw [hwy2]
              exact oz.set1 kE hx x2 1 (.int .i64 z) (by decide) (by rw [hx2e]; rfl)
            have uy : Upd (fun k => k = go) wz wy2 := by rw [hwy2]; exact (Upd.refl (fun k => k = go) wz).setCell (p := ⟨go, 1, none⟩) (.inl rfl) _
            clear hwy2
            have yy := uy.size
            have dwy2 : Below w.heap.size w wy2 := dwz.trans (bel_ge uy dwz.size (by omega))
            replace TT := (TT.later dvz).upd20 uy (by omega) (fun g hg e => by
              subst e
              exact OwnY.apart oz (TT.later dvz).own hE_T g rfl hg)
            replace Bx := (Bx.later dvz).upd uy (by omega)
            have so2 := oy.sl' kE
            have al2 : LieAt yE wy2 go 0 (l.set 0 x2) := oy.lieAt kE
            have co9 := so2.cap
            have s11 := s10.later dwy2
            rw [hqa] at s11
            have al1 : LieAt yE wy2 qa oa l := hl9.at hqal dwy2
            have c19 := s11.cap
            have hx2 : (l.set 0 x2)[0]? = some x2 := by rw [List.getElem?_set_self h0]
            have hvx := hv10 x (List.mem_of_getElem? hx)
            have hvx2 : x2.o.v.size ≤ 140737488351232 := by rw [hx2e]; exact hvx
            have hv12 : ∀ y ∈ l.set 0 x2, y.o.v.size ≤ 140737488351232 := fun y hy => by
              rcases List.mem_or_eq_of_mem_set hy with h | h
              · exact hv10 y h
              · rw [h]; exact hvx2
            have hl12 : (l.set 0 x2).length = l.length := List.length_set
            have hmapA : lf x2 = lf x → (l.set 0 x2).map lf = l.map lf := fun e => by
              cases l with
              | nil => simp at h0
              | cons y0 r =>
                have hy0 : y0 = x := by simpa using hx
                show lf x2 :: r.map lf = lf y0 :: r.map lf
                rw [e, hy0]
            have hneC : ¬ lf x2 = lf x → ¬ l.set 0 x2 = l := fun e h => by
              have h7 := hx2
              rw [h, hx] at h7
              cases h7
              exact e rfl
            clear oz oy dvz
            by_cases hA : lf x2 = lf x
            · have hHq : hd ((l.set 0 x2).map lf) = hd (l.map lf) := by rw [hmapA hA]
              go_upto_region 47 with fail
              refine vp_start 217 (fun T v => Rp T 217 [(0, gw true (.slice (some ⟨qa, oa, none⟩) l.length c1)), (7, gw true (.pointer (some ⟨w.heap.size, 0, none⟩))), (9, gw true (.slice (some ⟨go, 0, none⟩) l.length co)), (11, gw true (.pointer (some ⟨w6.heap.size, 0, none⟩)))] ∧ Upd (fun k => False) wy2 v) (fun (i : Nat) (T : Array Value) (v : World) => match i with | 0 => T[186]? = some (gw true (.slice (some ⟨go, 0, none⟩) l.length co)) | 1 => T[187]? = some (gw true ((hd ((l.set 0 x2).map lf)).val)) | 2 => T[188]? = some (gw true ((hd (l.map lf)).val)) | 3 => T[189]? = some (gw true (.bool true)) | 4 => T[190]? = some (gw true (.slice (some ⟨go, 0, none⟩) l.length co)) | 5 => T[191]? = some (gw true (.pointer (some ⟨go, 0 + 0 * 5, none⟩))) | 6 => T[192]? = some (gw true (x2.val20)) | 7 => T[193]? = some (gw true ((lf x2).val)) | 8 => T[194]? = some (gw true (.slice (some ⟨qa, oa, none⟩) l.length c1)) | 9 => T[195]? = some (gw true (.pointer (some ⟨qa, oa + 0 * 5, none⟩))) | 10 => T[196]? = some (gw true (x.val20)) | 11 => T[197]? = some (gw true ((lf x).val)) | 12 => T[198]? = some (gw true (.bool true)) | 13 => T[199]? = some (gw true (.bool true)) | 14 => T[200]? = some (gw true (.bool true)) | 15 => T[201]? = some (gw (true && (true == true)) (.pointer (some ⟨w.heap.size, 0, none⟩))) | 16 => T[202]? = some (gw (true && (true == true)) ((hd (l.map lf)).val)) | 17 => T[203]? = some (gw (true && (true == true)) ((hd (l.map lf)).val)) | 18 => T[204]? = some (gw (true && (true == true)) (.bool true)) | 19 => T[205]? = some (gw true (.bool true)) | 20 => T[206]? = some (gw true (.bool true)) | 21 => T[207]? = some (gw (true && (true == false)) (.slice (some ⟨go, 0, none⟩) l.length co)) | 22 => T[208]? = some (gw (true && (true == false)) ((hd ((l.set 0 x2).map lf)).val)) | 23 => T[209]? = some (gw (true && (true == false)) ((hd (l.map lf)).val)) | 24 => T[210]? = some (gw (true && (true == false)) (.bool true)) | 25 => T[211]? = some (gw (true && (true == false)) (.bool true)) | 26 => T[212]? = some (gw ((true && (true == false)) && (true == true)) (.slice (some ⟨go, 0, none⟩) l.length co)) | 27 => T[213]? = some (gw ((true && (true == false)) && (true == true)) (.slice (some ⟨qa, oa, none⟩) l.length c1)) | 28 => T[214]? = some (gw ((true && (true == false)) && (true == true)) (.bool true)) | 29 => T[215]? = some (gw (true && (true == false)) (.bool true)) | 30 => T[216]? = some (gw true (.bool true)) | 31 => T[6]? = some (gw true (.bool true)) | _ => True) (fun (i : Nat) (T : Array Value) (v : World) => match i with | _ => True) (fun j T k => False) (fun i => match i with | 0 => [186] | 1 => [187] | 2 => [188] | 3 => [189] | 4 => [190] | 5 => [191] | 6 => [192] | 7 => [193] | 8 => [194] | 9 => [195] | 10 => [196] | 11 => [197] | 12 => [198] | 13 => [199] | 14 => [200] | 15 => [201] | 16 => [202] | 17 => [203] | 18 => [204] | 19 => [205] | 20 => [206] | 21 => [207] | 22 => [208] | 23 => [209] | 24 => [210] | 25 => [211] | 26 => [212] | 27 => [213] | 28 => [214] | 29 => [215] | 30 => [216] | 31 => [6] | _ => []) (fun _ => []) [0, 7, 9, 11] (fun i j => false) (fun i => false) (by kernel_rfl) (by kernel_rfl) q718.z ⟨(((((Rp.nil q718.z).cons (q718.a 11 rfl)).cons (q718.a 9 rfl)).cons (q718.a 7 rfl)).cons (q718.a 0 rfl)), (Upd.refl _ _).drew20⟩ ?_ ?_ ?_ ?_ ?_ ?_
              · exact ⟨trivial, trivial, trivial, trivial, trivial, trivial, trivial, trivial, trivial, trivial, trivial, trivial, trivial, trivial, trivial, trivial, trivial, trivial, trivial, trivial, trivial, trivial, trivial, trivial, trivial, trivial, trivial, trivial, trivial, trivial, trivial, trivial, trivial⟩
              · intro j T T2 v v2 h _ hz hk hu
                exact ⟨h.1.ch hz hk, h.2.tr20 hu (fun k hk he => he.elim)⟩
              · refine ⟨?_, ?_, ?_, ?_, ?_, ?_, ?_, ?_, ?_, ?_, ?_, ?_, ?_, ?_, ?_, ?_, ?_, ?_, ?_, ?_, ?_, ?_, ?_, ?_, ?_, ?_, ?_, ?_, ?_, ?_, ?_, ?_, trivial⟩
                · exact fun j hj hu T T2 v v2 h hD hz hk zU => (hk 186 (List.mem_singleton.2 rfl)).trans h
                · exact fun j hj hu T T2 v v2 h hD hz hk zU => (hk 187 (List.mem_singleton.2 rfl)).trans h
                · exact fun j hj hu T T2 v v2 h hD hz hk zU => (hk 188 (List.mem_singleton.2 rfl)).trans h
                · exact fun j hj hu T T2 v v2 h hD hz hk zU => (hk 189 (List.mem_singleton.2 rfl)).trans h
                · exact fun j hj hu T T2 v v2 h hD hz hk zU => (hk 190 (List.mem_singleton.2 rfl)).trans h
                · exact fun j hj hu T T2 v v2 h hD hz hk zU => (hk 191 (List.mem_singleton.2 rfl)).trans h
                · exact fun j hj hu T T2 v v2 h hD hz hk zU => (hk 192 (List.mem_singleton.2 rfl)).trans h
                · exact fun j hj hu T T2 v v2 h hD hz hk zU => (hk 193 (List.mem_singleton.2 rfl)).trans h
                · exact fun j hj hu T T2 v v2 h hD hz hk zU => (hk 194 (List.mem_singleton.2 rfl)).trans h
                · exact fun j hj hu T T2 v v2 h hD hz hk zU => (hk 195 (List.mem_singleton.2 rfl)).trans h
                · exact fun j hj hu T T2 v v2 h hD hz hk zU => (hk 196 (List.mem_singleton.2 rfl)).trans h
                · exact fun j hj hu T T2 v v2 h hD hz hk zU => (hk 197 (List.mem_singleton.2 rfl)).trans h
                · exact fun j hj hu T T2 v v2 h hD hz hk zU => (hk 198 (List.mem_singleton.2 rfl)).trans h
                · exact fun j hj hu T T2 v v2 h hD hz hk zU => (hk 199 (List.mem_singleton.2 rfl)).trans h
                · exact fun j hj hu T T2 v v2 h hD hz hk zU => (hk 200 (List.mem_singleton.2 rfl)).trans h
                · exact fun j hj hu T T2 v v2 h hD hz hk zU => (hk 201 (List.mem_singleton.2 rfl)).trans h
                · exact fun j hj hu T T2 v v2 h hD hz hk zU => (hk 202 (List.mem_singleton.2 rfl)).trans h
                · exact fun j hj hu T T2 v v2 h hD hz hk zU => (hk 203 (List.mem_singleton.2 rfl)).trans h
                · exact fun j hj hu T T2 v v2 h hD hz hk zU => (hk 204 (List.mem_singleton.2 rfl)).trans h
                · exact fun j hj hu T T2 v v2 h hD hz hk zU => (hk 205 (List.mem_singleton.2 rfl)).trans h
                · exact fun j hj hu T T2 v v2 h hD hz hk zU => (hk 206 (List.mem_singleton.2 rfl)).trans h
                · exact fun j hj hu T T2 v v2 h hD hz hk zU => (hk 207 (List.mem_singleton.2 rfl)).trans h
                · exact fun j hj hu T T2 v v2 h hD hz hk zU => (hk 208 (List.mem_singleton.2 rfl)).trans h
                · exact fun j hj hu T T2 v v2 h hD hz hk zU => (hk 209 (List.mem_singleton.2 rfl)).trans h
                · exact fun j hj hu T T2 v v2 h hD hz hk zU => (hk 210 (List.mem_singleton.2 rfl)).trans h
                · exact fun j hj hu T T2 v v2 h hD hz hk zU => (hk 211 (List.mem_singleton.2 rfl)).trans h
                · exact fun j hj hu T T2 v v2 h hD hz hk zU => (hk 212 (List.mem_singleton.2 rfl)).trans h
                · exact fun j hj hu T T2 v v2 h hD hz hk zU => (hk 213 (List.mem_singleton.2 rfl)).trans h
                · exact fun j hj hu T T2 v v2 h hD hz hk zU => (hk 214 (List.mem_singleton.2 rfl)).trans h
                · exact fun j hj hu T T2 v v2 h hD hz hk zU => (hk 215 (List.mem_singleton.2 rfl)).trans h
                · exact fun j hj hu T T2 v v2 h hD hz hk zU => (hk 216 (List.mem_singleton.2 rfl)).trans h
                · exact fun j hj hu T T2 v v2 h hD hz hk zU => (hk 6 (List.mem_singleton.2 rfl)).trans h
              · refine ⟨fun _ _ _ _ _ _ _ _ _ _ _ => trivial, fun _ _ _ _ _ _ _ _ _ _ _ => trivial, fun _ _ _ _ _ _ _ _ _ _ _ => trivial, fun _ _ _ _ _ _ _ _ _ _ _ => trivial, fun _ _ _ _ _ _ _ _ _ _ _ => trivial, fun _ _ _ _ _ _ _ _ _ _ _ => trivial, fun _ _ _ _ _ _ _ _ _ _ _ => trivial, fun _ _ _ _ _ _ _ _ _ _ _ => trivial, fun _ _ _ _ _ _ _ _ _ _ _ => trivial, fun _ _ _ _ _ _ _ _ _ _ _ => trivial, fun _ _ _ _ _ _ _ _ _ _ _ => trivial, fun _ _ _ _ _ _ _ _ _ _ _ => trivial, fun _ _ _ _ _ _ _ _ _ _ _ => trivial, fun _ _ _ _ _ _ _ _ _ _ _ => trivial, fun _ _ _ _ _ _ _ _ _ _ _ => trivial, fun _ _ _ _ _ _ _ _ _ _ _ => trivial, fun _ _ _ _ _ _ _ _ _ _ _ => trivial, fun _ _ _ _ _ _ _ _ _ _ _ => trivial, fun _ _ _ _ _ _ _ _ _ _ _ => trivial, fun _ _ _ _ _ _ _ _ _ _ _ => trivial, fun _ _ _ _ _ _ _ _ _ _ _ => trivial, fun _ _ _ _ _ _ _ _ _ _ _ => trivial, fun _ _ _ _ _ _ _ _ _ _ _ => trivial, fun _ _ _ _ _ _ _ _ _ _ _ => trivial, fun _ _ _ _ _ _ _ _ _ _ _ => trivial, fun _ _ _ _ _ _ _ _ _ _ _ => trivial, fun _ _ _ _ _ _ _ _ _ _ _ => trivial, fun _ _ _ _ _ _ _ _ _ _ _ => trivial, fun _ _ _ _ _ _ _ _ _ _ _ => trivial, fun _ _ _ _ _ _ _ _ _ _ _ => trivial, fun _ _ _ _ _ _ _ _ _ _ _ => trivial, fun _ _ _ _ _ _ _ _ _ _ _ => trivial, trivial⟩
              · refine ⟨?_, ?_, ?_, ?_, ?_, ?_, ?_, ?_, ?_, ?_, ?_, ?_, ?_, ?_, ?_, ?_, ?_, ?_, ?_, ?_, ?_, ?_, ?_, ?_, ?_, ?_, ?_, ?_, ?_, ?_, ?_, ?_, trivial⟩
                · intro T df v zz zB zp zC
                  have qb := zB.1
                  have zU := zB.2
                  exact ⟨true, want_none rfl, fun _ => .inl ⟨_, _, ex_move rfl (qb.e (j := 9) rfl), Upd.refl _ _, fun h => absurd h (by decide), fun T2 N => N.s 186 rfl⟩, fun h => absurd h (by decide), fun h => absurd h (by decide)⟩
                · intro T df v zz zB zp zC
                  have qb := zB.1
                  have zU := zB.2
                  have HB : Below wy2.heap.size wy2 v := zU.below (Nat.le_refl _) (fun k hk => hk.elim)
                  have p0 : T[186]? = some (gw true (.slice (some ⟨go, 0, none⟩) l.length co)) := zp 0 (by kernel_rfl) (by kernel_rfl)
                  refine ⟨true, want_none rfl, fun hc => .inr (.inr ⟨_, _, _, ex_call rfl (by simp only [List.map_toArray, List.map_cons, List.map_nil, (ev p0 rfl), evc] <;> rfl) rfl, head20 (l.set 0 x2) _ _ _ v (so2.later HB) (by omega) (fun x hx => by have := hv12 x hx; omega), ?_⟩), fun _ => rfl, fun h => absurd h (by decide)⟩
                  rintro e w9 ⟨rfl, b9⟩
                  exact ⟨_, rfl, Upd.of_below b9, fun h => absurd h (by decide), fun T2 N => N.s 187 rfl⟩
                · intro T df v zz zB zp zC
                  have qb := zB.1
                  have zU := zB.2
                  exact ⟨true, want_none rfl, fun _ => .inl ⟨_, _, ex_ld rfl (qb.e (j := 11) rfl) (Bx.upd zU (show ¬ False from id)).ldH, Upd.refl _ _, fun h => absurd h (by decide), fun T2 N => N.s 188 rfl⟩, fun h => absurd h (by decide), fun h => absurd h (by decide)⟩
                · intro T df v zz zB zp zC
                  have qb := zB.1
                  have zU := zB.2
                  have p1 : T[187]? = some (gw true ((hd ((l.set 0 x2).map lf)).val)) := zp 1 (by kernel_rfl) (by kernel_rfl)
                  have p2 : T[188]? = some (gw true ((hd (l.map lf)).val)) := zp 2 (by kernel_rfl) (by kernel_rfl)
                  exact ⟨true, want_none rfl, fun _ => .inl ⟨_, _, ex_bin rfl (ev p1 rfl) (ev p2 rfl) (eqHT0 _ _ (by rw [hHq]) _), Upd.refl _ _, fun h => absurd h (by decide), fun T2 N => N.s 189 rfl⟩, fun h => absurd h (by decide), fun h => absurd h (by decide)⟩
                · intro T df v zz zB zp zC
                  have qb := zB.1
                  have zU := zB.2
                  exact ⟨true, want_none rfl, fun _ => .inl ⟨_, _, ex_move rfl (qb.e (j := 9) rfl), Upd.refl _ _, fun h => absurd h (by decide), fun T2 N => N.s 190 rfl⟩, fun h => absurd h (by decide), fun h => absurd h (by decide)⟩
                · intro T df v zz zB zp zC
                  have qb := zB.1
                  have zU := zB.2
                  have p4 : T[190]? = some (gw true (.slice (some ⟨go, 0, none⟩) l.length co)) := zp 4 (by kernel_rfl) (by kernel_rfl)
                  exact ⟨true, want_none rfl, fun _ => .inl ⟨_, _, ex_ix (Y := .int .i64 ((0 : Nat) : Int)) rfl (ev p4 rfl) rfl (ixE20 go 0 l.length co 0 (by omega) _), Upd.refl _ _, fun h => absurd h (by decide), fun T2 N => N.s 191 rfl⟩, fun h => absurd h (by decide), fun h => absurd h (by decide)⟩
                · intro T df v zz zB zp zC
                  have qb := zB.1
                  have zU := zB.2
                  have HB : Below wy2.heap.size wy2 v := zU.below (Nat.le_refl _) (fun k hk => hk.elim)
                  have p5 : T[191]? = some (gw true (.pointer (some ⟨go, 0 + 0 * 5, none⟩))) := zp 5 (by kernel_rfl) (by kernel_rfl)
                  exact ⟨true, want_none rfl, fun _ => .inl ⟨_, _, ex_ld rfl (ev p5 rfl) (ldEl20 ((al2.later HB).2) hx2), Upd.refl _ _, fun h => absurd h (by decide), fun T2 N => N.s 192 rfl⟩, fun h => absurd h (by decide), fun h => absurd h (by decide)⟩
                · intro T df v zz zB zp zC
                  have qb := zB.1
                  have zU := zB.2
                  have p6 : T[192]? = some (gw true (x2.val20)) := zp 6 (by kernel_rfl) (by kernel_rfl)
                  refine ⟨true, want_none rfl, fun hc => .inr (.inr ⟨_, _, _, ex_call rfl (by simp only [List.map_toArray, List.map_cons, List.map_nil, (ev p6 rfl), evc] <;> rfl) rfl, leaf20 x2 v (by omega), ?_⟩), fun _ => rfl, fun h => absurd h (by decide)⟩
                  rintro e w9 ⟨rfl, b9⟩
                  exact ⟨_, rfl, Upd.of_below b9, fun h => absurd h (by decide), fun T2 N => N.s 193 rfl⟩
                · intro T df v zz zB zp zC
                  have qb := zB.1
                  have zU := zB.2
                  exact ⟨true, want_none rfl, fun _ => .inl ⟨_, _, ex_move rfl (qb.e (j := 0) rfl), Upd.refl _ _, fun h => absurd h (by decide), fun T2 N => N.s 194 rfl⟩, fun h => absurd h (by decide), fun h => absurd h (by decide)⟩
                · intro T df v zz zB zp zC
                  have qb := zB.1
                  have zU := zB.2
                  have p8 : T[194]? = some (gw true (.slice (some ⟨qa, oa, none⟩) l.length c1)) := zp 8 (by kernel_rfl) (by kernel_rfl)
                  exact ⟨true, want_none rfl, fun _ => .inl ⟨_, _, ex_ix (Y := .int .i64 ((0 : Nat) : Int)) rfl (ev p8 rfl) rfl (ixE20 qa oa l.length c1 0 (by omega) _), Upd.refl _ _, fun h => absurd h (by decide), fun T2 N => N.s 195 rfl⟩, fun h => absurd h (by decide), fun h => absurd h (by decide)⟩
                · intro T df v zz zB zp zC
                  have qb := zB.1
                  have zU := zB.2
                  have HB : Below wy2.heap.size wy2 v := zU.below (Nat.le_refl _) (fun k hk => hk.elim)
                  have p9 : T[195]? = some (gw true (.pointer (some ⟨qa, oa + 0 * 5, none⟩))) := zp 9 (by kernel_rfl) (by kernel_rfl)
                  exact ⟨true, want_none rfl, fun _ => .inl ⟨_, _, ex_ld rfl (ev p9 rfl) (ldEl20 ((al1.later HB).2) hx), Upd.refl _ _, fun h => absurd h (by decide), fun T2 N => N.s 196 rfl⟩, fun h => absurd h (by decide), fun h => absurd h (by decide)⟩
                · intro T df v zz zB zp zC
                  have qb := zB.1
                  have zU := zB.2
                  have p10 : T[196]? = some (gw true (x.val20)) := zp 10 (by kernel_rfl) (by kernel_rfl)
                  refine ⟨true, want_none rfl, fun hc => .inr (.inr ⟨_, _, _, ex_call rfl (by simp only [List.map_toArray, List.map_cons, List.map_nil, (ev p10 rfl), evc] <;> rfl) rfl, leaf20 x v (by omega), ?_⟩), fun _ => rfl, fun h => absurd h (by decide)⟩
                  rintro e w9 ⟨rfl, b9⟩
                  exact ⟨_, rfl, Upd.of_below b9, fun h => absurd h (by decide), fun T2 N => N.s 197 rfl⟩
                · intro T df v zz zB zp zC
                  have qb := zB.1
                  have zU := zB.2
                  have p7 : T[193]? = some (gw true ((lf x2).val)) := zp 7 (by kernel_rfl) (by kernel_rfl)
                  have p11 : T[197]? = some (gw true ((lf x).val)) := zp 11 (by kernel_rfl) (by kernel_rfl)
                  exact ⟨true, want_none rfl, fun _ => .inl ⟨_, _, ex_bin rfl (ev p7 rfl) (ev p11 rfl) (eqHT0 _ _ (by rw [hA]) _), Upd.refl _ _, fun h => absurd h (by decide), fun T2 N => N.s 198 rfl⟩, fun h => absurd h (by decide), fun h => absurd h (by decide)⟩
                · intro T df v zz zB zp zC
                  have qb := zB.1
                  have zU := zB.2
                  have p3 : T[189]? = some (gw true (.bool true)) := zp 3 (by kernel_rfl) (by kernel_rfl)
                  have p12 : T[198]? = some (gw true (.bool true)) := zp 12 (by kernel_rfl) (by kernel_rfl)
                  exact ⟨true, want_none rfl, fun _ => .inl ⟨_, _, ex_bin rfl (ev p3 rfl) (ev p12 rfl) (eqBB20 _ _ true true _), Upd.refl _ _, fun h => absurd h (by decide), fun T2 N => N.s 199 rfl⟩, fun h => absurd h (by decide), fun h => absurd h (by decide)⟩
                · intro T df v zz zB zp zC
                  have qb := zB.1
                  have zU := zB.2
                  have p13 : T[199]? = some (gw true (.bool true)) := zp 13 (by kernel_rfl) (by kernel_rfl)
                  exact ⟨true, want_none rfl, fun _ => .inl ⟨_, _, ex_move rfl (ev p13 rfl), Upd.refl _ _, fun h => absurd h (by decide), fun T2 N => N.s 200 rfl⟩, fun h => absurd h (by decide), fun h => absurd h (by decide)⟩
                · intro T df v zz zB zp zC
                  have qb := zB.1
                  have zU := zB.2
                  have p14 : T[200]? = some (gw true (.bool true)) := zp 14 (by kernel_rfl) (by kernel_rfl)
                  exact ⟨(true && (true == true)), want_g rfl rfl p14, fun hc => .inl ⟨_, _, ex_move rfl (qb.e (j := 7) rfl), Upd.refl _ _, fun h => absurd h (by decide), fun T2 N => by rw [hc]; exact N.s 201 rfl⟩, fun _ => rfl, fun hc T2 N => by rw [hc]; exact N.s 201 rfl⟩
                · intro T df v zz zB zp zC
                  have qb := zB.1
                  have zU := zB.2
                  have zDw : Below w.heap.size w v := dwy2.trans (zU.below dwy2.size (fun k hk => hk.elim))
                  have HB : Below wy2.heap.size wy2 v := zU.below (Nat.le_refl _) (fun k hk => hk.elim)
                  have p14 : T[200]? = some (gw true (.bool true)) := zp 14 (by kernel_rfl) (by kernel_rfl)
                  have p15 : T[201]? = some (gw (true && (true == true)) (.pointer (some ⟨w.heap.size, 0, none⟩))) := zp 15 (by kernel_rfl) (by kernel_rfl)
                  refine ⟨(true && (true == true)), want_g rfl rfl p14, fun hc => .inr (.inr ⟨_, _, _, ex_call rfl (by simp only [List.map_toArray, List.map_cons, List.map_nil, (ev p15 hc), evc] <;> rfl) rfl, head_any20 (TT.later HB) het (ht.of_below zDw ht.lt) (by rw [List.length_map]; omega), ?_⟩), fun _ => rfl, fun hc T2 N => by rw [hc]; exact N.s 202 rfl⟩
                  rintro e w9 ⟨rfl, b9⟩
                  exact ⟨_, rfl, Upd.of_below b9, fun h => absurd h (by decide), fun T2 N => by rw [hc]; exact N.s 202 rfl⟩
                · intro T df v zz zB zp zC
                  have qb := zB.1
                  have zU := zB.2
                  have p14 : T[200]? = some (gw true (.bool true)) := zp 14 (by kernel_rfl) (by kernel_rfl)
                  exact ⟨(true && (true == true)), want_g rfl rfl p14, fun hc => .inl ⟨_, _, ex_ld rfl (qb.e (j := 11) rfl) (Bx.upd zU (show ¬ False from id)).ldH, Upd.refl _ _, fun h => absurd h (by decide), fun T2 N => by rw [hc]; exact N.s 203 rfl⟩, fun _ => rfl, fun hc T2 N => by rw [hc]; exact N.s 203 rfl⟩
                · intro T df v zz zB zp zC
                  have qb := zB.1
                  have zU := zB.2
                  have p14 : T[200]? = some (gw true (.bool true)) := zp 14 (by kernel_rfl) (by kernel_rfl)
                  have p16 : T[202]? = some (gw (true && (true == true)) ((hd (l.map lf)).val)) := zp 16 (by kernel_rfl) (by kernel_rfl)
                  have p17 : T[203]? = some (gw (true && (true == true)) ((hd (l.map lf)).val)) := zp 17 (by kernel_rfl) (by kernel_rfl)
                  exact ⟨(true && (true == true)), want_g rfl rfl p14, fun hc => .inl ⟨_, _, ex_bin rfl (ev p16 hc) (ev p17 hc) (eqHT0 _ _ (rfl) _), Upd.refl _ _, fun h => absurd h (by decide), fun T2 N => by rw [hc]; exact N.s 204 rfl⟩, fun _ => rfl, fun hc T2 N => by rw [hc]; exact N.s 204 rfl⟩
                · intro T df v zz zB zp zC
                  have qb := zB.1
                  have zU := zB.2
                  have p14 : T[200]? = some (gw true (.bool true)) := zp 14 (by kernel_rfl) (by kernel_rfl)
                  have p18 : T[204]? = some (gw (true && (true == true)) (.bool true)) := zp 18 (by kernel_rfl) (by kernel_rfl)
                  exact ⟨true, want_none rfl, fun _ => .inl ⟨_, _, ex_and (c := true) (b := true) (z := true) rfl p14 p18 rfl, Upd.refl _ _, fun h => absurd h (by decide), fun T2 N => N.s 205 rfl⟩, fun h => absurd h (by decide), fun h => absurd h (by decide)⟩
                · intro T df v zz zB zp zC
                  have qb := zB.1
                  have zU := zB.2
                  have p19 : T[205]? = some (gw true (.bool true)) := zp 19 (by kernel_rfl) (by kernel_rfl)
                  exact ⟨true, want_none rfl, fun _ => .inl ⟨_, _, ex_move rfl (ev p19 rfl), Upd.refl _ _, fun h => absurd h (by decide), fun T2 N => N.s 206 rfl⟩, fun h => absurd h (by decide), fun h => absurd h (by decide)⟩
                · intro T df v zz zB zp zC
                  have qb := zB.1
                  have zU := zB.2
                  have p20 : T[206]? = some (gw true (.bool true)) := zp 20 (by kernel_rfl) (by kernel_rfl)
                  exact ⟨(true && (true == false)), want_g rfl rfl p20, fun hc => .inl ⟨_, _, ex_move rfl (qb.e (j := 9) rfl), Upd.refl _ _, fun h => absurd h (by decide), fun T2 N => by rw [hc]; exact N.s 207 rfl⟩, fun _ => rfl, fun hc T2 N => by rw [hc]; exact N.s 207 rfl⟩
                · intro T df v zz zB zp zC
                  have qb := zB.1
                  have zU := zB.2
                  have HB : Below wy2.heap.size wy2 v := zU.below (Nat.le_refl _) (fun k hk => hk.elim)
                  have p20 : T[206]? = some (gw true (.bool true)) := zp 20 (by kernel_rfl) (by kernel_rfl)
                  have p21 : T[207]? = some (gw (true && (true == false)) (.slice (some ⟨go, 0, none⟩) l.length co)) := zp 21 (by kernel_rfl) (by kernel_rfl)
                  refine ⟨(true && (true == false)), want_g rfl rfl p20, fun hc => .inr (.inr ⟨_, _, _, ex_call rfl (by simp only [List.map_toArray, List.map_cons, List.map_nil, (ev p21 hc), evc] <;> rfl) rfl, head20 (l.set 0 x2) _ _ _ v (so2.later HB) (by omega) (fun x hx => by have := hv12 x hx; omega), ?_⟩), fun _ => rfl, fun hc T2 N => by rw [hc]; exact N.s 208 rfl⟩
                  rintro e w9 ⟨rfl, b9⟩
                  exact ⟨_, rfl, Upd.of_below b9, fun h => absurd h (by decide), fun T2 N => by rw [hc]; exact N.s 208 rfl⟩
                · intro T df v zz zB zp zC
                  have qb := zB.1
                  have zU := zB.2
                  have p20 : T[206]? = some (gw true (.bool true)) := zp 20 (by kernel_rfl) (by kernel_rfl)
                  exact ⟨(true && (true == false)), want_g rfl rfl p20, fun hc => .inl ⟨_, _, ex_ld rfl (qb.e (j := 11) rfl) (Bx.upd zU (show ¬ False from id)).ldH, Upd.refl _ _, fun h => absurd h (by decide), fun T2 N => by rw [hc]; exact N.s 209 rfl⟩, fun _ => rfl, fun hc T2 N => by rw [hc]; exact N.s 209 rfl⟩
                · intro T df v zz zB zp zC
                  have qb := zB.1
                  have zU := zB.2
                  have p20 : T[206]? = some (gw true (.bool true)) := zp 20 (by kernel_rfl) (by kernel_rfl)
                  have p22 : T[208]? = some (gw (true && (true == false)) ((hd ((l.set 0 x2).map lf)).val)) := zp 22 (by kernel_rfl) (by kernel_rfl)
                  have p23 : T[209]? = some (gw (true && (true == false)) ((hd (l.map lf)).val)) := zp 23 (by kernel_rfl) (by kernel_rfl)
                  exact ⟨(true && (true == false)), want_g rfl rfl p20, fun hc => .inl ⟨_, _, ex_bin rfl (ev p22 hc) (ev p23 hc) (eqHT0 _ _ (by rw [hHq]) _), Upd.refl _ _, fun h => absurd h (by decide), fun T2 N => by rw [hc]; exact N.s 210 rfl⟩, fun _ => rfl, fun hc T2 N => by rw [hc]; exact N.s 210 rfl⟩
                · intro T df v zz zB zp zC
                  have qb := zB.1
                  have zU := zB.2
                  have p20 : T[206]? = some (gw true (.bool true)) := zp 20 (by kernel_rfl) (by kernel_rfl)
                  have p24 : T[210]? = some (gw (true && (true == false)) (.bool true)) := zp 24 (by kernel_rfl) (by kernel_rfl)
                  exact ⟨(true && (true == false)), want_g rfl rfl p20, fun hc => .inl ⟨_, _, ex_move rfl (ev p24 hc), Upd.refl _ _, fun h => absurd h (by decide), fun T2 N => by rw [hc]; exact N.s 211 rfl⟩, fun _ => rfl, fun hc T2 N => by rw [hc]; exact N.s 211 rfl⟩
                · intro T df v zz zB zp zC
                  have qb := zB.1
                  have zU := zB.2
                  have p25 : T[211]? = some (gw (true && (true == false)) (.bool true)) := zp 25 (by kernel_rfl) (by kernel_rfl)
                  exact ⟨((true && (true == false)) && (true == true)), want_g rfl rfl p25, fun hc => .inl ⟨_, _, ex_move rfl (qb.e (j := 9) rfl), Upd.refl _ _, fun h => absurd h (by decide), fun T2 N => by rw [hc]; exact N.s 212 rfl⟩, fun _ => rfl, fun hc T2 N => by rw [hc]; exact N.s 212 rfl⟩
                · intro T df v zz zB zp zC
                  have qb := zB.1
                  have zU := zB.2
                  have p25 : T[211]? = some (gw (true && (true == false)) (.bool true)) := zp 25 (by kernel_rfl) (by kernel_rfl)
                  exact ⟨((true && (true == false)) && (true == true)), want_g rfl rfl p25, fun hc => .inl ⟨_, _, ex_move rfl (qb.e (j := 0) rfl), Upd.refl _ _, fun h => absurd h (by decide), fun T2 N => by rw [hc]; exact N.s 213 rfl⟩, fun _ => rfl, fun hc T2 N => by rw [hc]; exact N.s 213 rfl⟩
                · intro T df v zz zB zp zC
                  have qb := zB.1
                  have zU := zB.2
                  have p25 : T[211]? = some (gw (true && (true == false)) (.bool true)) := zp 25 (by kernel_rfl) (by kernel_rfl)
                  have p26 : T[212]? = some (gw ((true && (true == false)) && (true == true)) (.slice (some ⟨go, 0, none⟩) l.length co)) := zp 26 (by kernel_rfl) (by kernel_rfl)
                  have p27 : T[213]? = some (gw ((true && (true == false)) && (true == true)) (.slice (some ⟨qa, oa, none⟩) l.length c1)) := zp 27 (by kernel_rfl) (by kernel_rfl)
                  refine ⟨((true && (true == false)) && (true == true)), want_g rfl rfl p25, fun hc => .inr (.inr ⟨_, _, _, ex_call rfl (by simp only [List.map_toArray, List.map_cons, List.map_nil, (ev p26 hc), (ev p27 hc), evc] <;> rfl) rfl, (show Calls Tryd.prog _ _ v (fun e w9 => e = .returned (.bool true) ∧ Below v.heap.size v w9) from absurd hc (by decide)), ?_⟩), fun _ => rfl, fun hc T2 N => by rw [hc]; exact N.s 214 rfl⟩
                  rintro e w9 ⟨rfl, b9⟩
                  exact ⟨_, rfl, Upd.of_below b9, fun h => absurd h (by decide), fun T2 N => by rw [hc]; exact N.s 214 rfl⟩
                · intro T df v zz zB zp zC
                  have qb := zB.1
                  have zU := zB.2
                  have p20 : T[206]? = some (gw true (.bool true)) := zp 20 (by kernel_rfl) (by kernel_rfl)
                  have p25 : T[211]? = some (gw (true && (true == false)) (.bool true)) := zp 25 (by kernel_rfl) (by kernel_rfl)
                  have p28 : T[214]? = some (gw ((true && (true == false)) && (true == true)) (.bool true)) := zp 28 (by kernel_rfl) (by kernel_rfl)
                  exact ⟨(true && (true == false)), want_g rfl rfl p20, fun hc => .inl ⟨_, _, ex_and (c := (true && (true == false))) (b := true) (z := true) rfl p25 p28 hc, Upd.refl _ _, fun h => absurd h (by decide), fun T2 N => by rw [hc]; exact N.s 215 rfl⟩, fun _ => rfl, fun hc T2 N => by rw [hc]; exact N.s 215 rfl⟩
                · intro T df v zz zB zp zC
                  have qb := zB.1
                  have zU := zB.2
                  have p20 : T[206]? = some (gw true (.bool true)) := zp 20 (by kernel_rfl) (by kernel_rfl)
                  have p29 : T[215]? = some (gw (true && (true == false)) (.bool true)) := zp 29 (by kernel_rfl) (by kernel_rfl)
                  exact ⟨true, want_none rfl, fun _ => .inl ⟨_, _, ex_or (c := true) (b := true) (z := true) rfl p20 p29 rfl, Upd.refl _ _, fun h => absurd h (by decide), fun T2 N => N.s 216 rfl⟩, fun h => absurd h (by decide), fun h => absurd h (by decide)⟩
                · intro T df v zz zB zp zC
                  have qb := zB.1
                  have zU := zB.2
                  have p30 : T[216]? = some (gw true (.bool true)) := zp 30 (by kernel_rfl) (by kernel_rfl)
                  exact ⟨true, want_none rfl, fun _ => .inl ⟨_, _, ex_assign rfl (ev p30 rfl), Upd.refl _ _, fun h => absurd h (by decide), fun T2 N => N.s 6 rfl⟩, fun h => absurd h (by decide), fun h => absurd h (by decide)⟩
              intro T v907 zz zB zq za
              have qb := zB.1
              have U908 := zB.2
              clear zB zz
              clear q718
              have d909 : Below w.heap.size w v907 := dwy2.trans (U908.below (Nat.le_trans dwy2.size (Nat.le_refl _)) (fun k hk => hk.elim))
              have zv907 := U908.size
              have p31 : T[6]? = some (gw true (.bool true)) := zq 31 _ rfl (fun k => rfl)
              have q719 := (qb.cons p31)
              clear zq za qb p31
              go_wp2
              refine bodyPost_ret (results_tmp rfl _ _ _) rfl ?_
              rw [getD_of (q719.a 6 rfl)]
              exact ⟨rfl, d909⟩
            · by_cases hHq : hd ((l.set 0 x2).map lf) = hd (l.map lf)
              · skip
                go_upto_region 47 with fail
                refine vp_start 217 (fun T v => Rp T 217 [(0, gw true (.slice (some ⟨qa, oa, none⟩) l.length c1)), (7, gw true (.pointer (some ⟨w.heap.size, 0, none⟩))), (9, gw true (.slice (some ⟨go, 0, none⟩) l.length co)), (11, gw true (.pointer (some ⟨w6.heap.size, 0, none⟩)))] ∧ Upd (fun k => False) wy2 v) (fun (i : Nat) (T : Array Value) (v : World) => match i with | 0 => T[186]? = some (gw true (.slice (some ⟨go, 0, none⟩) l.length co)) | 1 => T[187]? = some (gw true ((hd ((l.set 0 x2).map lf)).val)) | 2 => T[188]? = some (gw true ((hd (l.map lf)).val)) | 3 => T[189]? = some (gw true (.bool true)) | 4 => T[190]? = some (gw true (.slice (some ⟨go, 0, none⟩) l.length co)) | 5 => T[191]? = some (gw true (.pointer (some ⟨go, 0 + 0 * 5, none⟩))) | 6 => T[192]? = some (gw true (x2.val20)) | 7 => T[193]? = some (gw true ((lf x2).val)) | 8 => T[194]? = some (gw true (.slice (some ⟨qa, oa, none⟩) l.length c1)) | 9 => T[195]? = some (gw true (.pointer (some ⟨qa, oa + 0 * 5, none⟩))) | 10 => T[196]? = some (gw true (x.val20)) | 11 => T[197]? = some (gw true ((lf x).val)) | 12 => T[198]? = some (gw true (.bool false)) | 13 => T[199]? = some (gw true (.bool false)) | 14 => T[200]? = some (gw true (.bool false)) | 15 => T[201]? = some (gw (true && (false == true)) (.pointer (some ⟨w.heap.size, 0, none⟩))) | 16 => T[202]? = some (gw (true && (false == true)) ((hd (l.map lf)).val)) | 17 => T[203]? = some (gw (true && (false == true)) ((hd (l.map lf)).val)) | 18 => T[204]? = some (gw (true && (false == true)) (.bool true)) | 19 => T[205]? = some (gw true (.bool false)) | 20 => T[206]? = some (gw true (.bool false)) | 21 => T[207]? = some (gw (true && (false == false)) (.slice (some ⟨go, 0, none⟩) l.length co)) | 22 => T[208]? = some (gw (true && (false == false)) ((hd ((l.set 0 x2).map lf)).val)) | 23 => T[209]? = some (gw (true && (false == false)) ((hd (l.map lf)).val)) | 24 => T[210]? = some (gw (true && (false == false)) (.bool true)) | 25 => T[211]? = some (gw (true && (false == false)) (.bool true)) | 26 => T[212]? = some (gw ((true && (false == false)) && (true == true)) (.slice (some ⟨go, 0, none⟩) l.length co)) | 27 => T[213]? = some (gw ((true && (false == false)) && (true == true)) (.slice (some ⟨qa, oa, none⟩) l.length c1)) | 28 => T[214]? = some (gw ((true && (false == false)) && (true == true)) (.bool true)) | 29 => T[215]? = some (gw (true && (false == false)) (.bool true)) | 30 => T[216]? = some (gw true (.bool true)) | 31 => T[6]? = some (gw true (.bool true)) | _ => True) (fun (i : Nat) (T : Array Value) (v : World) => match i with | _ => True) (fun j T k => False) (fun i => match i with | 0 => [186] | 1 => [187] | 2 => [188] | 3 => [189] | 4 => [190] | 5 => [191] | 6 => [192] | 7 => [193] | 8 => [194] | 9 => [195] | 10 => [196] | 11 => [197] | 12 => [198] | 13 => [199] | 14 => [200] | 15 => [201] | 16 => [202] | 17 => [203] | 18 => [204] | 19 => [205] | 20 => [206] | 21 => [207] | 22 => [208] | 23 => [209] | 24 => [210] | 25 => [211] | 26 => [212] | 27 => [213] | 28 => [214] | 29 => [215] | 30 => [216] | 31 => [6] | _ => []) (fun _ => []) [0, 7, 9, 11] (fun i j => false) (fun i => false) (by kernel_rfl) (by kernel_rfl) q718.z ⟨(((((Rp.nil q718.z).cons (q718.a 11 rfl)).cons (q718.a 9 rfl)).cons (q718.a 7 rfl)).cons (q718.a 0 rfl)), (Upd.refl _ _).drew20⟩ ?_ ?_ ?_ ?_ ?_ ?_
                · exact ⟨trivial, trivial, trivial, trivial, trivial, trivial, trivial, trivial, trivial, trivial, trivial, trivial, trivial, trivial, trivial, trivial, trivial, trivial, trivial, trivial, trivial, trivial, trivial, trivial, trivial, trivial, trivial, trivial, trivial, trivial, trivial, trivial, trivial⟩
                · intro j T T2 v v2 h _ hz hk hu
                  exact ⟨h.1.ch hz hk, h.2.tr20 hu (fun k hk he => he.elim)⟩
                · refine ⟨?_, ?_, ?_, ?_, ?_, ?_, ?_, ?_, ?_, ?_, ?_, ?_, ?_, ?_, ?_, ?_, ?_, ?_, ?_, ?_, ?_, ?_, ?_, ?_, ?_, ?_, ?_, ?_, ?_, ?_, ?_, ?_, trivial⟩
                  · exact fun j hj hu T T2 v v2 h hD hz hk zU => (hk 186 (List.mem_singleton.2 rfl)).trans h
                  · exact fun j hj hu T T2 v v2 h hD hz hk zU => (hk 187 (List.mem_singleton.2 rfl)).trans h
                  · exact fun j hj hu T T2 v v2 h hD hz hk zU => (hk 188 (List.mem_singleton.2 rfl)).trans h
                  · exact fun j hj hu T T2 v v2 h hD hz hk zU => (hk 189 (List.mem_singleton.2 rfl)).trans h
                  · exact fun j hj hu T T2 v v2 h hD hz hk zU => (hk 190 (List.mem_singleton.2 rfl)).trans h
                  · exact fun j hj hu T T2 v v2 h hD hz hk zU => (hk 191 (List.mem_singleton.2 rfl)).trans h
                  · exact fun j hj hu T T2 v v2 h hD hz hk zU => (hk 192 (List.mem_singleton.2 rfl)).trans h
                  · exact fun j hj hu T T2 v v2 h hD hz hk zU => (hk 193 (List.mem_singleton.2 rfl)).trans h
                  · exact fun j hj hu T T2 v v2 h hD hz hk zU => (hk 194 (List.mem_singleton.2 rfl)).trans h
                  · exact fun j hj hu T T2 v v2 h hD hz hk zU => (hk 195 (List.mem_singleton.2 rfl)).trans h
                  · exact fun j hj hu T T2 v v2 h hD hz hk zU => (hk 196 (List.mem_singleton.2 rfl)).trans h
                  · exact fun j hj hu T T2 v v2 h hD hz hk zU => (hk 197 (List.mem_singleton.2 rfl)).trans h
                  · exact fun j hj hu T T2 v v2 h hD hz hk zU => (hk 198 (List.mem_singleton.2 rfl)).trans h
                  · exact fun j hj hu T T2 v v2 h hD hz hk zU => (hk 199 (List.mem_singleton.2 rfl)).trans h
                  · exact fun j hj hu T T2 v v2 h hD hz hk zU => (hk 200 (List.mem_singleton.2 rfl)).trans h
                  · exact fun j hj hu T T2 v v2 h hD hz hk zU => (hk 201 (List.mem_singleton.2 rfl)).trans h
                  · exact fun j hj hu T T2 v v2 h hD hz hk zU => (hk 202 (List.mem_singleton.2 rfl)).trans h
                  · exact fun j hj hu T T2 v v2 h hD hz hk zU => (hk 203 (List.mem_singleton.2 rfl)).trans h
                  · exact fun j hj hu T T2 v v2 h hD hz hk zU => (hk 204 (List.mem_singleton.2 rfl)).trans h
                  · exact fun j hj hu T T2 v v2 h hD hz hk zU => (hk 205 (List.mem_singleton.2 rfl)).trans h
                  · exact fun j hj hu T T2 v v2 h hD hz hk zU => (hk 206 (List.mem_singleton.2 rfl)).trans h
                  · exact fun j hj hu T T2 v v2 h hD hz hk zU => (hk 207 (List.mem_singleton.2 rfl)).trans h
                  · exact fun j hj hu T T2 v v2 h hD hz hk zU => (hk 208 (List.mem_singleton.2 rfl)).trans h
                  · exact fun j hj hu T T2 v v2 h hD hz hk zU => (hk 209 (List.mem_singleton.2 rfl)).trans h
                  · exact fun j hj hu T T2 v v2 h hD hz hk zU => (hk 210 (List.mem_singleton.2 rfl)).trans h
                  · exact fun j hj hu T T2 v v2 h hD hz hk zU => (hk 211 (List.mem_singleton.2 rfl)).trans h
                  · exact fun j hj hu T T2 v v2 h hD hz hk zU => (hk 212 (List.mem_singleton.2 rfl)).trans h
                  · exact fun j hj hu T T2 v v2 h hD hz hk zU => (hk 213 (List.mem_singleton.2 rfl)).trans h
                  · exact fun j hj hu T T2 v v2 h hD hz hk zU => (hk 214 (List.mem_singleton.2 rfl)).trans h
                  · exact fun j hj hu T T2 v v2 h hD hz hk zU => (hk 215 (List.mem_singleton.2 rfl)).trans h
                  · exact fun j hj hu T T2 v v2 h hD hz hk zU => (hk 216 (List.mem_singleton.2 rfl)).trans h
                  · exact fun j hj hu T T2 v v2 h hD hz hk zU => (hk 6 (List.mem_singleton.2 rfl)).trans h
                · refine ⟨fun _ _ _ _ _ _ _ _ _ _ _ => trivial, fun _ _ _ _ _ _ _ _ _ _ _ => trivial, fun _ _ _ _ _ _ _ _ _ _ _ => trivial, fun _ _ _ _ _ _ _ _ _ _ _ => trivial, fun _ _ _ _ _ _ _ _ _ _ _ => trivial, fun _ _ _ _ _ _ _ _ _ _ _ => trivial, fun _ _ _ _ _ _ _ _ _ _ _ => trivial, fun _ _ _ _ _ _ _ _ _ _ _ => trivial, fun _ _ _ _ _ _ _ _ _ _ _ => trivial, fun _ _ _ _ _ _ _ _ _ _ _ => trivial, fun _ _ _ _ _ _ _ _ _ _ _ => trivial, fun _ _ _ _ _ _ _ _ _ _ _ => trivial, fun _ _ _ _ _ _ _ _ _ _ _ => trivial, fun _ _ _ _ _ _ _ _ _ _ _ => trivial, fun _ _ _ _ _ _ _ _ _ _ _ => trivial, fun _ _ _ _ _ _ _ _ _ _ _ => trivial, fun _ _ _ _ _ _ _ _ _ _ _ => trivial, fun _ _ _ _ _ _ _ _ _ _ _ => trivial, fun _ _ _ _ _ _ _ _ _ _ _ => trivial, fun _ _ _ _ _ _ _ _ _ _ _ => trivial, fun _ _ _ _ _ _ _ _ _ _ _ => trivial, fun _ _ _ _ _ _ _ _ _ _ _ => trivial, fun _ _ _ _ _ _ _ _ _ _ _ => trivial, fun _ _ _ _ _ _ _ _ _ _ _ => trivial, fun _ _ _ _ _ _ _ _ _ _ _ => trivial, fun _ _ _ _ _ _ _ _ _ _ _ => trivial, fun _ _ _ _ _ _ _ _ _ _ _ => trivial, fun _ _ _ _ _ _ _ _ _ _ _ => trivial, fun _ _ _ _ _ _ _ _ _ _ _ => trivial, fun _ _ _ _ _ _ _ _ _ _ _ => trivial, fun _ _ _ _ _ _ _ _ _ _ _ => trivial, fun _ _ _ _ _ _ _ _ _ _ _ => trivial, trivial⟩
                · refine ⟨?_, ?_, ?_, ?_, ?_, ?_, ?_, ?_, ?_, ?_, ?_, ?_, ?_, ?_, ?_, ?_, ?_, ?_, ?_, ?_, ?_, ?_, ?_, ?_, ?_, ?_, ?_, ?_, ?_, ?_, ?_, ?_, trivial⟩
                  · intro T df v zz zB zp zC
                    have qb := zB.1
                    have zU := zB.2
                    exact ⟨true, want_none rfl, fun _ => .inl ⟨_, _, ex_move rfl (qb.e (j := 9) rfl), Upd.refl _ _, fun h => absurd h (by decide), fun T2 N => N.s 186 rfl⟩, fun h => absurd h (by decide), fun h => absurd h (by decide)⟩
                  · intro T df v zz zB zp zC
                    have qb := zB.1
                    have zU := zB.2
                    have HB : Below wy2.heap.size wy2 v := zU.below (Nat.le_refl _) (fun k hk => hk.elim)
                    have p0 : T[186]? = some (gw true (.slice (some ⟨go, 0, none⟩) l.length co)) := zp 0 (by kernel_rfl) (by kernel_rfl)
                    refine ⟨true, want_none rfl, fun hc => .inr (.inr ⟨_, _, _, ex_call rfl (by simp only [List.map_toArray, List.map_cons, List.map_nil, (ev p0 rfl), evc] <;> rfl) rfl, head20 (l.set 0 x2) _ _ _ v (so2.later HB) (by omega) (fun x hx => by have := hv12 x hx; omega), ?_⟩), fun _ => rfl, fun h => absurd h (by decide)⟩
                    rintro e w9 ⟨rfl, b9⟩
                    exact ⟨_, rfl, Upd.of_below b9, fun h => absurd h (by decide), fun T2 N => N.s 187 rfl⟩
                  · intro T df v zz zB zp zC
                    have qb := zB.1
                    have zU := zB.2
                    exact ⟨true, want_none rfl, fun _ => .inl ⟨_, _, ex_ld rfl (qb.e (j := 11) rfl) (Bx.upd zU (show ¬ False from id)).ldH, Upd.refl _ _, fun h => absurd h (by decide), fun T2 N => N.s 188 rfl⟩, fun h => absurd h (by decide), fun h => absurd h (by decide)⟩
                  · intro T df v zz zB zp zC
                    have qb := zB.1
                    have zU := zB.2
                    have p1 : T[187]? = some (gw true ((hd ((l.set 0 x2).map lf)).val)) := zp 1 (by kernel_rfl) (by kernel_rfl)
                    have p2 : T[188]? = some (gw true ((hd (l.map lf)).val)) := zp 2 (by kernel_rfl) (by kernel_rfl)
                    exact ⟨true, want_none rfl, fun _ => .inl ⟨_, _, ex_bin rfl (ev p1 rfl) (ev p2 rfl) (eqHT0 _ _ (by rw [hHq]) _), Upd.refl _ _, fun h => absurd h (by decide), fun T2 N => N.s 189 rfl⟩, fun h => absurd h (by decide), fun h => absurd h (by decide)⟩
                  · intro T df v zz zB zp zC
                    have qb := zB.1
                    have zU := zB.2
                    exact ⟨true, want_none rfl, fun _ => .inl ⟨_, _, ex_move rfl (qb.e (j := 9) rfl), Upd.refl _ _, fun h => absurd h (by decide), fun T2 N => N.s 190 rfl⟩, fun h => absurd h (by decide), fun h => absurd h (by decide)⟩
                  · intro T df v zz zB zp zC
                    have qb := zB.1
                    have zU := zB.2
                    have p4 : T[190]? = some (gw true (.slice (some ⟨go, 0, none⟩) l.length co)) := zp 4 (by kernel_rfl) (by kernel_rfl)
                    exact ⟨true, want_none rfl, fun _ => .inl ⟨_, _, ex_ix (Y := .int .i64 ((0 : Nat) : Int)) rfl (ev p4 rfl) rfl (ixE20 go 0 l.length co 0 (by omega) _), Upd.refl _ _, fun h => absurd h (by decide), fun T2 N => N.s 191 rfl⟩, fun h => absurd h (by decide), fun h => absurd h (by decide)⟩
                  · intro T df v zz zB zp zC
                    have qb := zB.1
                    have zU := zB.2
                    have HB : Below wy2.heap.size wy2 v := zU.below (Nat.le_refl _) (fun k hk => hk.elim)
                    have p5 : T[191]? = some (gw true (.pointer (some ⟨go, 0 + 0 * 5, none⟩))) := zp 5 (by kernel_rfl) (by kernel_rfl)
                    exact ⟨true, want_none rfl, fun _ => .inl ⟨_, _, ex_ld rfl (ev p5 rfl) (ldEl20 ((al2.later HB).2) hx2), Upd.refl _ _, fun h => absurd h (by decide), fun T2 N => N.s 192 rfl⟩, fun h => absurd h (by decide), fun h => absurd h (by decide)⟩
                  · intro T df v zz zB zp zC
                    have qb := zB.1
                    have zU := zB.2
                    have p6 : T[192]? = some (gw true (x2.val20)) := zp 6 (by kernel_rfl) (by kernel_rfl)
                    refine ⟨true, want_none rfl, fun hc => .inr (.inr ⟨_, _, _, ex_call rfl (by simp only [List.map_toArray, List.map_cons, List.map_nil, (ev p6 rfl), evc] <;> rfl) rfl, leaf20 x2 v (by omega), ?_⟩), fun _ => rfl, fun h => absurd h (by decide)⟩
                    rintro e w9 ⟨rfl, b9⟩
                    exact ⟨_, rfl, Upd.of_below b9, fun h => absurd h (by decide), fun T2 N => N.s 193 rfl⟩
                  · intro T df v zz zB zp zC
                    have qb := zB.1
                    have zU := zB.2
                    exact ⟨true, want_none rfl, fun _ => .inl ⟨_, _, ex_move rfl (qb.e (j := 0) rfl), Upd.refl _ _, fun h => absurd h (by decide), fun T2 N => N.s 194 rfl⟩, fun h => absurd h (by decide), fun h => absurd h (by decide)⟩
                  · intro T df v zz zB zp zC
                    have qb := zB.1
                    have zU := zB.2
                    have p8 : T[194]? = some (gw true (.slice (some ⟨qa, oa, none⟩) l.length c1)) := zp 8 (by kernel_rfl) (by kernel_rfl)
                    exact ⟨true, want_none rfl, fun _ => .inl ⟨_, _, ex_ix (Y := .int .i64 ((0 : Nat) : Int)) rfl (ev p8 rfl) rfl (ixE20 qa oa l.length c1 0 (by omega) _), Upd.refl _ _, fun h => absurd h (by decide), fun T2 N => N.s 195 rfl⟩, fun h => absurd h (by decide), fun h => absurd h (by decide)⟩
                  · intro T df v zz zB zp zC
                    have qb := zB.1
                    have zU := zB.2
                    have HB : Below wy2.heap.size wy2 v := zU.below (Nat.le_refl _) (fun k hk => hk.elim)
                    have p9 : T[195]? = some (gw true (.pointer (some ⟨qa, oa + 0 * 5, none⟩))) := zp 9 (by kernel_rfl) (by kernel_rfl)
                    exact ⟨true, want_none rfl, fun _ => .inl ⟨_, _, ex_ld rfl (ev p9 rfl) (ldEl20 ((al1.later HB).2) hx), Upd.refl _ _, fun h => absurd h (by decide), fun T2 N => N.s 196 rfl⟩, fun h => absurd h (by decide), fun h => absurd h (by decide)⟩
                  · intro T df v zz zB zp zC
                    have qb := zB.1
                    have zU := zB.2
                    have p10 : T[196]? = some (gw true (x.val20)) := zp 10 (by kernel_rfl) (by kernel_rfl)
                    refine ⟨true, want_none rfl, fun hc => .inr (.inr ⟨_, _, _, ex_call rfl (by simp only [List.map_toArray, List.map_cons, List.map_nil, (ev p10 rfl), evc] <;> rfl) rfl, leaf20 x v (by omega), ?_⟩), fun _ => rfl, fun h => absurd h (by decide)⟩
                    rintro e w9 ⟨rfl, b9⟩
                    exact ⟨_, rfl, Upd.of_below b9, fun h => absurd h (by decide), fun T2 N => N.s 197 rfl⟩
                  · intro T df v zz zB zp zC
                    have qb := zB.1
                    have zU := zB.2
                    have p7 : T[193]? = some (gw true ((lf x2).val)) := zp 7 (by kernel_rfl) (by kernel_rfl)
                    have p11 : T[197]? = some (gw true ((lf x).val)) := zp 11 (by kernel_rfl) (by kernel_rfl)
                    exact ⟨true, want_none rfl, fun _ => .inl ⟨_, _, ex_bin rfl (ev p7 rfl) (ev p11 rfl) (eqHF0 _ _ (fun e => hA (Hs.ext20 e)) _), Upd.refl _ _, fun h => absurd h (by decide), fun T2 N => N.s 198 rfl⟩, fun h => absurd h (by decide), fun h => absurd h (by decide)⟩
                  · intro T df v zz zB zp zC
                    have qb := zB.1
                    have zU := zB.2
                    have p3 : T[189]? = some (gw true (.bool true)) := zp 3 (by kernel_rfl) (by kernel_rfl)
                    have p12 : T[198]? = some (gw true (.bool false)) := zp 12 (by kernel_rfl) (by kernel_rfl)
                    exact ⟨true, want_none rfl, fun _ => .inl ⟨_, _, ex_bin rfl (ev p3 rfl) (ev p12 rfl) (eqBB20 _ _ true false _), Upd.refl _ _, fun h => absurd h (by decide), fun T2 N => N.s 199 rfl⟩, fun h => absurd h (by decide), fun h => absurd h (by decide)⟩
                  · intro T df v zz zB zp zC
                    have qb := zB.1
                    have zU := zB.2
                    have p13 : T[199]? = some (gw true (.bool false)) := zp 13 (by kernel_rfl) (by kernel_rfl)
                    exact ⟨true, want_none rfl, fun _ => .inl ⟨_, _, ex_move rfl (ev p13 rfl), Upd.refl _ _, fun h => absurd h (by decide), fun T2 N => N.s 200 rfl⟩, fun h => absurd h (by decide), fun h => absurd h (by decide)⟩
                  · intro T df v zz zB zp zC
                    have qb := zB.1
                    have zU := zB.2
                    have p14 : T[200]? = some (gw true (.bool false)) := zp 14 (by kernel_rfl) (by kernel_rfl)
                    exact ⟨(true && (false == true)), want_g rfl rfl p14, fun hc => .inl ⟨_, _, ex_move rfl (qb.e (j := 7) rfl), Upd.refl _ _, fun h => absurd h (by decide), fun T2 N => by rw [hc]; exact N.s 201 rfl⟩, fun _ => rfl, fun hc T2 N => by rw [hc]; exact N.s 201 rfl⟩
                  · intro T df v zz zB zp zC
                    have qb := zB.1
                    have zU := zB.2
                    have zDw : Below w.heap.size w v := dwy2.trans (zU.below dwy2.size (fun k hk => hk.elim))
                    have HB : Below wy2.heap.size wy2 v := zU.below (Nat.le_refl _) (fun k hk => hk.elim)
                    have p14 : T[200]? = some (gw true (.bool false)) := zp 14 (by kernel_rfl) (by kernel_rfl)
                    have p15 : T[201]? = some (gw (true && (false == true)) (.pointer (some ⟨w.heap.size, 0, none⟩))) := zp 15 (by kernel_rfl) (by kernel_rfl)
                    refine ⟨(true && (false == true)), want_g rfl rfl p14, fun hc => .inr (.inr ⟨_, _, _, ex_call rfl (by simp only [List.map_toArray, List.map_cons, List.map_nil, (ev p15 hc), evc] <;> rfl) rfl, head_any20 (TT.later HB) het (ht.of_below zDw ht.lt) (by rw [List.length_map]; omega), ?_⟩), fun _ => rfl, fun hc T2 N => by rw [hc]; exact N.s 202 rfl⟩
                    rintro e w9 ⟨rfl, b9⟩
                    exact ⟨_, rfl, Upd.of_below b9, fun h => absurd h (by decide), fun T2 N => by rw [hc]; exact N.s 202 rfl⟩
                  · intro T df v zz zB zp zC
                    have qb := zB.1
                    have zU := zB.2
                    have p14 : T[200]? = some (gw true (.bool false)) := zp 14 (by kernel_rfl) (by kernel_rfl)
                    exact ⟨(true && (false == true)), want_g rfl rfl p14, fun hc => .inl ⟨_, _, ex_ld rfl (qb.e (j := 11) rfl) (Bx.upd zU (show ¬ False from id)).ldH, Upd.refl _ _, fun h => absurd h (by decide), fun T2 N => by rw [hc]; exact N.s 203 rfl⟩, fun _ => rfl, fun hc T2 N => by rw [hc]; exact N.s 203 rfl⟩
                  · intro T df v zz zB zp zC
                    have qb := zB.1
                    have zU := zB.2
                    have p14 : T[200]? = some (gw true (.bool false)) := zp 14 (by kernel_rfl) (by kernel_rfl)
                    have p16 : T[202]? = some (gw (true && (false == true)) ((hd (l.map lf)).val)) := zp 16 (by kernel_rfl) (by kernel_rfl)
                    have p17 : T[203]? = some (gw (true && (false == true)) ((hd (l.map lf)).val)) := zp 17 (by kernel_rfl) (by kernel_rfl)
                    exact ⟨(true && (false == true)), want_g rfl rfl p14, fun hc => .inl ⟨_, _, ex_bin rfl (ev p16 hc) (ev p17 hc) (eqHT0 _ _ (rfl) _), Upd.refl _ _, fun h => absurd h (by decide), fun T2 N => by rw [hc]; exact N.s 204 rfl⟩, fun _ => rfl, fun hc T2 N => by rw [hc]; exact N.s 204 rfl⟩
                  · intro T df v zz zB zp zC
                    have qb := zB.1
                    have zU := zB.2
                    have p14 : T[200]? = some (gw true (.bool false)) := zp 14 (by kernel_rfl) (by kernel_rfl)
                    have p18 : T[204]? = some (gw (true && (false == true)) (.bool true)) := zp 18 (by kernel_rfl) (by kernel_rfl)
                    exact ⟨true, want_none rfl, fun _ => .inl ⟨_, _, ex_and (c := true) (b := false) (z := true) rfl p14 p18 rfl, Upd.refl _ _, fun h => absurd h (by decide), fun T2 N => N.s 205 rfl⟩, fun h => absurd h (by decide), fun h => absurd h (by decide)⟩
                  · intro T df v zz zB zp zC
                    have qb := zB.1
                    have zU := zB.2
                    have p19 : T[205]? = some (gw true (.bool false)) := zp 19 (by kernel_rfl) (by kernel_rfl)
                    exact ⟨true, want_none rfl, fun _ => .inl ⟨_, _, ex_move rfl (ev p19 rfl), Upd.refl _ _, fun h => absurd h (by decide), fun T2 N => N.s 206 rfl⟩, fun h => absurd h (by decide), fun h => absurd h (by decide)⟩
                  · intro T df v zz zB zp zC
                    have qb := zB.1
                    have zU := zB.2
                    have p20 : T[206]? = some (gw true (.bool false)) := zp 20 (by kernel_rfl) (by kernel_rfl)
                    exact ⟨(true && (false == false)), want_g rfl rfl p20, fun hc => .inl ⟨_, _, ex_move rfl (qb.e (j := 9) rfl), Upd.refl _ _, fun h => absurd h (by decide), fun T2 N => by rw [hc]; exact N.s 207 rfl⟩, fun _ => rfl, fun hc T2 N => by rw [hc]; exact N.s 207 rfl⟩
                  · intro T df v zz zB zp zC
                    have qb := zB.1
                    have zU := zB.2
                    have HB : Below wy2.heap.size wy2 v := zU.below (Nat.le_refl _) (fun k hk => hk.elim)
                    have p20 : T[206]? = some (gw true (.bool false)) := zp 20 (by kernel_rfl) (by kernel_rfl)
                    have p21 : T[207]? = some (gw (true && (false == false)) (.slice (some ⟨go, 0, none⟩) l.length co)) := zp 21 (by kernel_rfl) (by kernel_rfl)
                    refine ⟨(true && (false == false)), want_g rfl rfl p20, fun hc => .inr (.inr ⟨_, _, _, ex_call rfl (by simp only [List.map_toArray, List.map_cons, List.map_nil, (ev p21 hc), evc] <;> rfl) rfl, head20 (l.set 0 x2) _ _ _ v (so2.later HB) (by omega) (fun x hx => by have := hv12 x hx; omega), ?_⟩), fun _ => rfl, fun hc T2 N => by rw [hc]; exact N.s 208 rfl⟩
                    rintro e w9 ⟨rfl, b9⟩
                    exact ⟨_, rfl, Upd.of_below b9, fun h => absurd h (by decide), fun T2 N => by rw [hc]; exact N.s 208 rfl⟩
                  · intro T df v zz zB zp zC
                    have qb := zB.1
                    have zU := zB.2
                    have p20 : T[206]? = some (gw true (.bool false)) := zp 20 (by kernel_rfl) (by kernel_rfl)
                    exact ⟨(true && (false == false)), want_g rfl rfl p20, fun hc => .inl ⟨_, _, ex_ld rfl (qb.e (j := 11) rfl) (Bx.upd zU (show ¬ False from id)).ldH, Upd.refl _ _, fun h => absurd h (by decide), fun T2 N => by rw [hc]; exact N.s 209 rfl⟩, fun _ => rfl, fun hc T2 N => by rw [hc]; exact N.s 209 rfl⟩
                  · intro T df v zz zB zp zC
                    have qb := zB.1
                    have zU := zB.2
                    have p20 : T[206]? = some (gw true (.bool false)) := zp 20 (by kernel_rfl) (by kernel_rfl)
                    have p22 : T[208]? = some (gw (true && (false == false)) ((hd ((l.set 0 x2).map lf)).val)) := zp 22 (by kernel_rfl) (by kernel_rfl)
                    have p23 : T[209]? = some (gw (true && (false == false)) ((hd (l.map lf)).val)) := zp 23 (by kernel_rfl) (by kernel_rfl)
                    exact ⟨(true && (false == false)), want_g rfl rfl p20, fun hc => .inl ⟨_, _, ex_bin rfl (ev p22 hc) (ev p23 hc) (eqHT0 _ _ (by rw [hHq]) _), Upd.refl _ _, fun h => absurd h (by decide), fun T2 N => by rw [hc]; exact N.s 210 rfl⟩, fun _ => rfl, fun hc T2 N => by rw [hc]; exact N.s 210 rfl⟩
                  · intro T df v zz zB zp zC
                    have qb := zB.1
                    have zU := zB.2
                    have p20 : T[206]? = some (gw true (.bool false)) := zp 20 (by kernel_rfl) (by kernel_rfl)
                    have p24 : T[210]? = some (gw (true && (false == false)) (.bool true)) := zp 24 (by kernel_rfl) (by kernel_rfl)
                    exact ⟨(true && (false == false)), want_g rfl rfl p20, fun hc => .inl ⟨_, _, ex_move rfl (ev p24 hc), Upd.refl _ _, fun h => absurd h (by decide), fun T2 N => by rw [hc]; exact N.s 211 rfl⟩, fun _ => rfl, fun hc T2 N => by rw [hc]; exact N.s 211 rfl⟩
                  · intro T df v zz zB zp zC
                    have qb := zB.1
                    have zU := zB.2
                    have p25 : T[211]? = some (gw (true && (false == false)) (.bool true)) := zp 25 (by kernel_rfl) (by kernel_rfl)
                    exact ⟨((true && (false == false)) && (true == true)), want_g rfl rfl p25, fun hc => .inl ⟨_, _, ex_move rfl (qb.e (j := 9) rfl), Upd.refl _ _, fun h => absurd h (by decide), fun T2 N => by rw [hc]; exact N.s 212 rfl⟩, fun _ => rfl, fun hc T2 N => by rw [hc]; exact N.s 212 rfl⟩
                  · intro T df v zz zB zp zC
                    have qb := zB.1
                    have zU := zB.2
                    have p25 : T[211]? = some (gw (true && (false == false)) (.bool true)) := zp 25 (by kernel_rfl) (by kernel_rfl)
                    exact ⟨((true && (false == false)) && (true == true)), want_g rfl rfl p25, fun hc => .inl ⟨_, _, ex_move rfl (qb.e (j := 0) rfl), Upd.refl _ _, fun h => absurd h (by decide), fun T2 N => by rw [hc]; exact N.s 213 rfl⟩, fun _ => rfl, fun hc T2 N => by rw [hc]; exact N.s 213 rfl⟩
                  · intro T df v zz zB zp zC
                    have qb := zB.1
                    have zU := zB.2
                    have HB : Below wy2.heap.size wy2 v := zU.below (Nat.le_refl _) (fun k hk => hk.elim)
                    have p25 : T[211]? = some (gw (true && (false == false)) (.bool true)) := zp 25 (by kernel_rfl) (by kernel_rfl)
                    have p26 : T[212]? = some (gw ((true && (false == false)) && (true == true)) (.slice (some ⟨go, 0, none⟩) l.length co)) := zp 26 (by kernel_rfl) (by kernel_rfl)
                    have p27 : T[213]? = some (gw ((true && (false == false)) && (true == true)) (.slice (some ⟨qa, oa, none⟩) l.length c1)) := zp 27 (by kernel_rfl) (by kernel_rfl)
                    refine ⟨((true && (false == false)) && (true == true)), want_g rfl rfl p25, fun hc => .inr (.inr ⟨_, _, _, ex_call rfl (by simp only [List.map_toArray, List.map_cons, List.map_nil, (ev p26 hc), (ev p27 hc), evc] <;> rfl) rfl, clash20 (l.set 0 x2) l _ _ _ _ _ v (so2.later HB) (s11.later HB) (by omega) (by omega) hHq (hneC hA) (fun x hx => by have := hv12 x hx; omega) (fun x hx => by have := hv10 x hx; omega), ?_⟩), fun _ => rfl, fun hc T2 N => by rw [hc]; exact N.s 214 rfl⟩
                    rintro e w9 ⟨rfl, b9⟩
                    exact ⟨_, rfl, Upd.of_below b9, fun h => absurd h (by decide), fun T2 N => by rw [hc]; exact N.s 214 rfl⟩
                  · intro T df v zz zB zp zC
                    have qb := zB.1
                    have zU := zB.2
                    have p20 : T[206]? = some (gw true (.bool false)) := zp 20 (by kernel_rfl) (by kernel_rfl)
                    have p25 : T[211]? = some (gw (true && (false == false)) (.bool true)) := zp 25 (by kernel_rfl) (by kernel_rfl)
                    have p28 : T[214]? = some (gw ((true && (false == false)) && (true == true)) (.bool true)) := zp 28 (by kernel_rfl) (by kernel_rfl)
                    exact ⟨(true && (false == false)), want_g rfl rfl p20, fun hc => .inl ⟨_, _, ex_and (c := (true && (false == false))) (b := true) (z := true) rfl p25 p28 hc, Upd.refl _ _, fun h => absurd h (by decide), fun T2 N => by rw [hc]; exact N.s 215 rfl⟩, fun _ => rfl, fun hc T2 N => by rw [hc]; exact N.s 215 rfl⟩
                  · intro T df v zz zB zp zC
                    have qb := zB.1
                    have zU := zB.2
                    have p20 : T[206]? = some (gw true (.bool false)) := zp 20 (by kernel_rfl) (by kernel_rfl)
                    have p29 : T[215]? = some (gw (true && (false == false)) (.bool true)) := zp 29 (by kernel_rfl) (by kernel_rfl)
                    exact ⟨true, want_none rfl, fun _ => .inl ⟨_, _, ex_or (c := true) (b := false) (z := true) rfl p20 p29 rfl, Upd.refl _ _, fun h => absurd h (by decide), fun T2 N => N.s 216 rfl⟩, fun h => absurd h (by decide), fun h => absurd h (by decide)⟩
                  · intro T df v zz zB zp zC
                    have qb := zB.1
                    have zU := zB.2
                    have p30 : T[216]? = some (gw true (.bool true)) := zp 30 (by kernel_rfl) (by kernel_rfl)
                    exact ⟨true, want_none rfl, fun _ => .inl ⟨_, _, ex_assign rfl (ev p30 rfl), Upd.refl _ _, fun h => absurd h (by decide), fun T2 N => N.s 6 rfl⟩, fun h => absurd h (by decide), fun h => absurd h (by decide)⟩
                intro T v910 zz zB zq za
                have qb := zB.1
                have U911 := zB.2
                clear zB zz
                clear q718
                have d912 : Below w.heap.size w v910 := dwy2.trans (U911.below (Nat.le_trans dwy2.size (Nat.le_refl _)) (fun k hk => hk.elim))
                have zv910 := U911.size
                have p31 : T[6]? = some (gw true (.bool true)) := zq 31 _ rfl (fun k => rfl)
                have q719 := (qb.cons p31)
                clear zq za qb p31
                go_wp2
                refine bodyPost_ret (results_tmp rfl _ _ _) rfl ?_
                rw [getD_of (q719.a 6 rfl)]
                exact ⟨rfl, d912⟩
              · skip
                go_upto_region 47 with fail
                refine vp_start 217 (fun T v => Rp T 217 [(0, gw true (.slice (some ⟨qa, oa, none⟩) l.length c1)), (7, gw true (.pointer (some ⟨w.heap.size, 0, none⟩))), (9, gw true (.slice (some ⟨go, 0, none⟩) l.length co)), (11, gw true (.pointer (some ⟨w6.heap.size, 0, none⟩)))] ∧ Upd (fun k => False) wy2 v) (fun (i : Nat) (T : Array Value) (v : World) => match i with | 0 => T[186]? = some (gw true (.slice (some ⟨go, 0, none⟩) l.length co)) | 1 => T[187]? = some (gw true ((hd ((l.set 0 x2).map lf)).val)) | 2 => T[188]? = some (gw true ((hd (l.map lf)).val)) | 3 => T[189]? = some (gw true (.bool false)) | 4 => T[190]? = some (gw true (.slice (some ⟨go, 0, none⟩) l.length co)) | 5 => T[191]? = some (gw true (.pointer (some ⟨go, 0 + 0 * 5, none⟩))) | 6 => T[192]? = some (gw true (x2.val20)) | 7 => T[193]? = some (gw true ((lf x2).val)) | 8 => T[194]? = some (gw true (.slice (some ⟨qa, oa, none⟩) l.length c1)) | 9 => T[195]? = some (gw true (.pointer (some ⟨qa, oa + 0 * 5, none⟩))) | 10 => T[196]? = some (gw true (x.val20)) | 11 => T[197]? = some (gw true ((lf x).val)) | 12 => T[198]? = some (gw true (.bool false)) | 13 => T[199]? = some (gw true (.bool true)) | 14 => T[200]? = some (gw true (.bool true)) | 15 => T[201]? = some (gw (true && (true == true)) (.pointer (some ⟨w.heap.size, 0, none⟩))) | 16 => T[202]? = some (gw (true && (true == true)) ((hd (l.map lf)).val)) | 17 => T[203]? = some (gw (true && (true == true)) ((hd (l.map lf)).val)) | 18 => T[204]? = some (gw (true && (true == true)) (.bool true)) | 19 => T[205]? = some (gw true (.bool true)) | 20 => T[206]? = some (gw true (.bool true)) | 21 => T[207]? = some (gw (true && (true == false)) (.slice (some ⟨go, 0, none⟩) l.length co)) | 22 => T[208]? = some (gw (true && (true == false)) ((hd ((l.set 0 x2).map lf)).val)) | 23 => T[209]? = some (gw (true && (true == false)) ((hd (l.map lf)).val)) | 24 => T[210]? = some (gw (true && (true == false)) (.bool false)) | 25 => T[211]? = some (gw (true && (true == false)) (.bool false)) | 26 => T[212]? = some (gw ((true && (true == false)) && (false == true)) (.slice (some ⟨go, 0, none⟩) l.length co)) | 27 => T[213]? = some (gw ((true && (true == false)) && (false == true)) (.slice (some ⟨qa, oa, none⟩) l.length c1)) | 28 => T[214]? = some (gw ((true && (true == false)) && (false == true)) (.bool true)) | 29 => T[215]? = some (gw (true && (true == false)) (.bool false)) | 30 => T[216]? = some (gw true (.bool true)) | 31 => T[6]? = some (gw true (.bool true)) | _ => True) (fun (i : Nat) (T : Array Value) (v : World) => match i with | _ => True) (fun j T k => False) (fun i => match i with | 0 => [186] | 1 => [187] | 2 => [188] | 3 => [189] | 4 => [190] | 5 => [191] | 6 => [192] | 7 => [193] | 8 => [194] | 9 => [195] | 10 => [196] | 11 => [197] | 12 => [198] | 13 => [199] | 14 => [200] | 15 => [201] | 16 => [202] | 17 => [203] | 18 => [204] | 19 => [205] | 20 => [206] | 21 => [207] | 22 => [208] | 23 => [209] | 24 => [210] | 25 => [211] | 26 => [212] | 27 => [213] | 28 => [214] | 29 => [215] | 30 => [216] | 31 => [6] | _ => []) (fun _ => []) [0, 7, 9, 11] (fun i j => false) (fun i => false) (by kernel_rfl) (by kernel_rfl) q718.z ⟨(((((Rp.nil q718.z).cons (q718.a 11 rfl)).cons (q718.a 9 rfl)).cons (q718.a 7 rfl)).cons (q718.a 0 rfl)), (Upd.refl _ _).drew20⟩ ?_ ?_ ?_ ?_ ?_ ?_
                · exact ⟨trivial, trivial, trivial, trivial, trivial, trivial, trivial, trivial, trivial, trivial, trivial, trivial, trivial, trivial, trivial, trivial, trivial, trivial, trivial, trivial, trivial, trivial, trivial, trivial, trivial, trivial, trivial, trivial, trivial, trivial, trivial, trivial, trivial⟩
                · intro j T T2 v v2 h _ hz hk hu
                  exact ⟨h.1.ch hz hk, h.2.tr20 hu (fun k hk he => he.elim)⟩
                · refine ⟨?_, ?_, ?_, ?_, ?_, ?_, ?_, ?_, ?_, ?_, ?_, ?_, ?_, ?_, ?_, ?_, ?_, ?_, ?_, ?_, ?_, ?_, ?_, ?_, ?_, ?_, ?_, ?_, ?_, ?_, ?_, ?_, trivial⟩
                  · exact fun j hj hu T T2 v v2 h hD hz hk zU => (hk 186 (List.mem_singleton.2 rfl)).trans h
                  · exact fun j hj hu T T2 v v2 h hD hz hk zU => (hk 187 (List.mem_singleton.2 rfl)).trans h
                  · exact fun j hj hu T T2 v v2 h hD hz hk zU => (hk 188 (List.mem_singleton.2 rfl)).trans h
                  · exact fun j hj hu T T2 v v2 h hD hz hk zU => (hk 189 (List.mem_singleton.2 rfl)).trans h
                  · exact fun j hj hu T T2 v v2 h hD hz hk zU => (hk 190 (List.mem_singleton.2 rfl)).trans h
                  · exact fun j hj hu T T2 v v2 h hD hz hk zU => (hk 191 (List.mem_singleton.2 rfl)).trans h
                  · exact fun j hj hu T T2 v v2 h hD hz hk zU => (hk 192 (List.mem_singleton.2 rfl)).trans h
                  · exact fun j hj hu T T2 v v2 h hD hz hk zU => (hk 193 (List.mem_singleton.2 rfl)).trans h
                  · exact fun j hj hu T T2 v v2 h hD hz hk zU => (hk 194 (List.mem_singleton.2 rfl)).trans h
                  · exact fun j hj hu T T2 v v2 h hD hz hk zU => (hk 195 (List.mem_singleton.2 rfl)).trans h
                  · exact fun j hj hu T T2 v v2 h hD hz hk zU => (hk 196 (List.mem_singleton.2 rfl)).trans h
                  · exact fun j hj hu T T2 v v2 h hD hz hk zU => (hk 197 (List.mem_singleton.2 rfl)).trans h
                  · exact fun j hj hu T T2 v v2 h hD hz hk zU => (hk 198 (List.mem_singleton.2 rfl)).trans h
                  · exact fun j hj hu T T2 v v2 h hD hz hk zU => (hk 199 (List.mem_singleton.2 rfl)).trans h
                  · exact fun j hj hu T T2 v v2 h hD hz hk zU => (hk 200 (List.mem_singleton.2 rfl)).trans h
                  · exact fun j hj hu T T2 v v2 h hD hz hk zU => (hk 201 (List.mem_singleton.2 rfl)).trans h
                  · exact fun j hj hu T T2 v v2 h hD hz hk zU => (hk 202 (List.mem_singleton.2 rfl)).trans h
                  · exact fun j hj hu T T2 v v2 h hD hz hk zU => (hk 203 (List.mem_singleton.2 rfl)).trans h
                  · exact fun j hj hu T T2 v v2 h hD hz hk zU => (hk 204 (List.mem_singleton.2 rfl)).trans h
                  · exact fun j hj hu T T2 v v2 h hD hz hk zU => (hk 205 (List.mem_singleton.2 rfl)).trans h
                  · exact fun j hj hu T T2 v v2 h hD hz hk zU => (hk 206 (List.mem_singleton.2 rfl)).trans h
                  · exact fun j hj hu T T2 v v2 h hD hz hk zU => (hk 207 (List.mem_singleton.2 rfl)).trans h
                  · exact fun j hj hu T T2 v v2 h hD hz hk zU => (hk 208 (List.mem_singleton.2 rfl)).trans h
                  · exact fun j hj hu T T2 v v2 h hD hz hk zU => (hk 209 (List.mem_singleton.2 rfl)).trans h
                  · exact fun j hj hu T T2 v v2 h hD hz hk zU => (hk 210 (List.mem_singleton.2 rfl)).trans h
                  · exact fun j hj hu T T2 v v2 h hD hz hk zU => (hk 211 (List.mem_singleton.2 rfl)).trans h
                  · exact fun j hj hu T T2 v v2 h hD hz hk zU => (hk 212 (List.mem_singleton.2 rfl)).trans h
                  · exact fun j hj hu T T2 v v2 h hD hz hk zU => (hk 213 (List.mem_singleton.2 rfl)).trans h
                  · exact fun j hj hu T T2 v v2 h hD hz hk zU => (hk 214 (List.mem_singleton.2 rfl)).trans h
                  · exact fun j hj hu T T2 v v2 h hD hz hk zU => (hk 215 (List.mem_singleton.2 rfl)).trans h
                  · exact fun j hj hu T T2 v v2 h hD hz hk zU => (hk 216 (List.mem_singleton.2 rfl)).trans h
                  · exact fun j hj hu T T2 v v2 h hD hz hk zU => (hk 6 (List.mem_singleton.2 rfl)).trans h
                · refine ⟨fun _ _ _ _ _ _ _ _ _ _ _ => trivial, fun _ _ _ _ _ _ _ _ _ _ _ => trivial, fun _ _ _ _ _ _ _ _ _ _ _ => trivial, fun _ _ _ _ _ _ _ _ _ _ _ => trivial, fun _ _ _ _ _ _ _ _ _ _ _ => trivial, fun _ _ _ _ _ _ _ _ _ _ _ => trivial, fun _ _ _ _ _ _ _ _ _ _ _ => trivial, fun _ _ _ _ _ _ _ _ _ _ _ => trivial, fun _ _ _ _ _ _ _ _ _ _ _ => trivial, fun _ _ _ _ _ _ _ _ _ _ _ => trivial, fun _ _ _ _ _ _ _ _ _ _ _ => trivial, fun _ _ _ _ _ _ _ _ _ _ _ => trivial, fun _ _ _ _ _ _ _ _ _ _ _ => trivial, fun _ _ _ _ _ _ _ _ _ _ _ => trivial, fun _ _ _ _ _ _ _ _ _ _ _ => trivial, fun _ _ _ _ _ _ _ _ _ _ _ => trivial, fun _ _ _ _ _ _ _ _ _ _ _ => trivial, fun _ _ _ _ _ _ _ _ _ _ _ => trivial, fun _ _ _ _ _ _ _ _ _ _ _ => trivial, fun _ _ _ _ _ _ _ _ _ _ _ => trivial, fun _ _ _ _ _ _ _ _ _ _ _ => trivial, fun _ _ _ _ _ _ _ _ _ _ _ => trivial, fun _ _ _ _ _ _ _ _ _ _ _ => trivial, fun _ _ _ _ _ _ _ _ _ _ _ => trivial, fun _ _ _ _ _ _ _ _ _ _ _ => trivial, fun _ _ _ _ _ _ _ _ _ _ _ => trivial, fun _ _ _ _ _ _ _ _ _ _ _ => trivial, fun _ _ _ _ _ _ _ _ _ _ _ => trivial, fun _ _ _ _ _ _ _ _ _ _ _ => trivial, fun _ _ _ _ _ _ _ _ _ _ _ => trivial, fun _ _ _ _ _ _ _ _ _ _ _ => trivial, fun _ _ _ _ _ _ _ _ _ _ _ => trivial, trivial⟩
                · refine ⟨?_, ?_, ?_, ?_, ?_, ?_, ?_, ?_, ?_, ?_, ?_, ?_, ?_, ?_, ?_, ?_, ?_, ?_, ?_, ?_, ?_, ?_, ?_, ?_, ?_, ?_, ?_, ?_, ?_, ?_, ?_, ?_, trivial⟩
                  · intro T df v zz zB zp zC
                    have qb := zB.1
                    have zU := zB.2
                    exact ⟨true, want_none rfl, fun _ => .inl ⟨_, _, ex_move rfl (qb.e (j := 9) rfl), Upd.refl _ _, fun h => absurd h (by decide), fun T2 N => N.s 186 rfl⟩, fun h => absurd h (by decide), fun h => absurd h (by decide)⟩
                  · intro T df v zz zB zp zC
                    have qb := zB.1
                    have zU := zB.2
                    have HB : Below wy2.heap.size wy2 v := zU.below (Nat.le_refl _) (fun k hk => hk.elim)
                    have p0 : T[186]? = some (gw true (.slice (some ⟨go, 0, none⟩) l.length co)) := zp 0 (by kernel_rfl) (by kernel_rfl)
                    refine ⟨true, want_none rfl, fun hc => .inr (.inr ⟨_, _, _, ex_call rfl (by simp only [List.map_toArray, List.map_cons, List.map_nil, (ev p0 rfl), evc] <;> rfl) rfl, head20 (l.set 0 x2) _ _ _ v (so2.later HB) (by omega) (fun x hx => by have := hv12 x hx; omega), ?_⟩), fun _ => rfl, fun h => absurd h (by decide)⟩
                    rintro e w9 ⟨rfl, b9⟩
                    exact ⟨_, rfl, Upd.of_below b9, fun h => absurd h (by decide), fun T2 N => N.s 187 rfl⟩
                  · intro T df v zz zB zp zC
                    have qb := zB.1
                    have zU := zB.2
                    exact ⟨true, want_none rfl, fun _ => .inl ⟨_, _, ex_ld rfl (qb.e (j := 11) rfl) (Bx.upd zU (show ¬ False from id)).ldH, Upd.refl _ _, fun h => absurd h (by decide), fun T2 N => N.s 188 rfl⟩, fun h => absurd h (by decide), fun h => absurd h (by decide)⟩
                  · intro T df v zz zB zp zC
                    have qb := zB.1
                    have zU := zB.2
                    have p1 : T[187]? = some (gw true ((hd ((l.set 0 x2).map lf)).val)) := zp 1 (by kernel_rfl) (by kernel_rfl)
                    have p2 : T[188]? = some (gw true ((hd (l.map lf)).val)) := zp 2 (by kernel_rfl) (by kernel_rfl)
                    exact ⟨true, want_none rfl, fun _ => .inl ⟨_, _, ex_bin rfl (ev p1 rfl) (ev p2 rfl) (eqHF0 _ _ (fun e => hHq (Hs.ext20 e)) _), Upd.refl _ _, fun h => absurd h (by decide), fun T2 N => N.s 189 rfl⟩, fun h => absurd h (by decide), fun h => absurd h (by decide)⟩
                  · intro T df v zz zB zp zC
                    have qb := zB.1
                    have zU := zB.2
                    exact ⟨true, want_none rfl, fun _ => .inl ⟨_, _, ex_move rfl (qb.e (j := 9) rfl), Upd.refl _ _, fun h => absurd h (by decide), fun T2 N => N.s 190 rfl⟩, fun h => absurd h (by decide), fun h => absurd h (by decide)⟩
                  · intro T df v zz zB zp zC
                    have qb := zB.1
                    have zU := zB.2
                    have p4 : T[190]? = some (gw true (.slice (some ⟨go, 0, none⟩) l.length co)) := zp 4 (by kernel_rfl) (by kernel_rfl)
                    exact ⟨true, want_none rfl, fun _ => .inl ⟨_, _, ex_ix (Y := .int .i64 ((0 : Nat) : Int)) rfl (ev p4 rfl) rfl (ixE20 go 0 l.length co 0 (by omega) _), Upd.refl _ _, fun h => absurd h (by decide), fun T2 N => N.s 191 rfl⟩, fun h => absurd h (by decide), fun h => absurd h (by decide)⟩
                  · intro T df v zz zB zp zC
                    have qb := zB.1
                    have zU := zB.2
                    have HB : Below wy2.heap.size wy2 v := zU.below (Nat.le_refl _) (fun k hk => hk.elim)
                    have p5 : T[191]? = some (gw true (.pointer (some ⟨go, 0 + 0 * 5, none⟩))) := zp 5 (by kernel_rfl) (by kernel_rfl)
                    exact ⟨true, want_none rfl, fun _ => .inl ⟨_, _, ex_ld rfl (ev p5 rfl) (ldEl20 ((al2.later HB).2) hx2), Upd.refl _ _, fun h => absurd h (by decide), fun T2 N => N.s 192 rfl⟩, fun h => absurd h (by decide), fun h => absurd h (by decide)⟩
                  · intro T df v zz zB zp zC
                    have qb := zB.1
                    have zU := zB.2
                    have p6 : T[192]? = some (gw true (x2.val20)) := zp 6 (by kernel_rfl) (by kernel_rfl)
                    refine ⟨true, want_none rfl, fun hc => .inr (.inr ⟨_, _, _, ex_call rfl (by simp only [List.map_toArray, List.map_cons, List.map_nil, (ev p6 rfl), evc] <;> rfl) rfl, leaf20 x2 v (by omega), ?_⟩), fun _ => rfl, fun h => absurd h (by decide)⟩
                    rintro e w9 ⟨rfl, b9⟩
                    exact ⟨_, rfl, Upd.of_below b9, fun h => absurd h (by decide), fun T2 N => N.s 193 rfl⟩
                  · intro T df v zz zB zp zC
                    have qb := zB.1
                    have zU := zB.2
                    exact ⟨true, want_none rfl, fun _ => .inl ⟨_, _, ex_move rfl (qb.e (j := 0) rfl), Upd.refl _ _, fun h => absurd h (by decide), fun T2 N => N.s 194 rfl⟩, fun h => absurd h (by decide), fun h => absurd h (by decide)⟩
                  · intro T df v zz zB zp zC
                    have qb := zB.1
                    have zU := zB.2
                    have p8 : T[194]? = some (gw true (.slice (some ⟨qa, oa, none⟩) l.length c1)) := zp 8 (by kernel_rfl) (by kernel_rfl)
                    exact ⟨true, want_none rfl, fun _ => .inl ⟨_, _, ex_ix (Y := .int .i64 ((0 : Nat) : Int)) rfl (ev p8 rfl) rfl (ixE20 qa oa l.length c1 0 (by omega) _), Upd.refl _ _, fun h => absurd h (by decide), fun T2 N => N.s 195 rfl⟩, fun h => absurd h (by decide), fun h => absurd h (by decide)⟩
                  · intro T df v zz zB zp zC
                    have qb := zB.1
                    have zU := zB.2
                    have HB : Below wy2.heap.size wy2 v := zU.below (Nat.le_refl _) (fun k hk => hk.elim)
                    have p9 : T[195]? = some (gw true (.pointer (some ⟨qa, oa + 0 * 5, none⟩))) := zp 9 (by kernel_rfl) (by kernel_rfl)
                    exact ⟨true, want_none rfl, fun _ => .inl ⟨_, _, ex_ld rfl (ev p9 rfl) (ldEl20 ((al1.later HB).2) hx), Upd.refl _ _, fun h => absurd h (by decide), fun T2 N => N.s 196 rfl⟩, fun h => absurd h (by decide), fun h => absurd h (by decide)⟩
                  · intro T df v zz zB zp zC
                    have qb := zB.1
                    have zU := zB.2
                    have p10 : T[196]? = some (gw true (x.val20)) := zp 10 (by kernel_rfl) (by kernel_rfl)
                    refine ⟨true, want_none rfl, fun hc => .inr (.inr ⟨_, _, _, ex_call rfl (by simp only [List.map_toArray, List.map_cons, List.map_nil, (ev p10 rfl), evc] <;> rfl) rfl, leaf20 x v (by omega), ?_⟩), fun _ => rfl, fun h => absurd h (by decide)⟩
                    rintro e w9 ⟨rfl, b9⟩
                    exact ⟨_, rfl, Upd.of_below b9, fun h => absurd h (by decide), fun T2 N => N.s 197 rfl⟩
                  · intro T df v zz zB zp zC
                    have qb := zB.1
                    have zU := zB.2
                    have p7 : T[193]? = some (gw true ((lf x2).val)) := zp 7 (by kernel_rfl) (by kernel_rfl)
                    have p11 : T[197]? = some (gw true ((lf x).val)) := zp 11 (by kernel_rfl) (by kernel_rfl)
                    exact ⟨true, want_none rfl, fun _ => .inl ⟨_, _, ex_bin rfl (ev p7 rfl) (ev p11 rfl) (eqHF0 _ _ (fun e => hA (Hs.ext20 e)) _), Upd.refl _ _, fun h => absurd h (by decide), fun T2 N => N.s 198 rfl⟩, fun h => absurd h (by decide), fun h => absurd h (by decide)⟩
                  · intro T df v zz zB zp zC
                    have qb := zB.1
                    have zU := zB.2
                    have p3 : T[189]? = some (gw true (.bool false)) := zp 3 (by kernel_rfl) (by kernel_rfl)
                    have p12 : T[198]? = some (gw true (.bool false)) := zp 12 (by kernel_rfl) (by kernel_rfl)
                    exact ⟨true, want_none rfl, fun _ => .inl ⟨_, _, ex_bin rfl (ev p3 rfl) (ev p12 rfl) (eqBB20 _ _ false false _), Upd.refl _ _, fun h => absurd h (by decide), fun T2 N => N.s 199 rfl⟩, fun h => absurd h (by decide), fun h => absurd h (by decide)⟩
                  · intro T df v zz zB zp zC
                    have qb := zB.1
                    have zU := zB.2
                    have p13 : T[199]? = some (gw true (.bool true)) := zp 13 (by kernel_rfl) (by kernel_rfl)
                    exact ⟨true, want_none rfl, fun _ => .inl ⟨_, _, ex_move rfl (ev p13 rfl), Upd.refl _ _, fun h => absurd h (by decide), fun T2 N => N.s 200 rfl⟩, fun h => absurd h (by decide), fun h => absurd h (by decide)⟩
                  · intro T df v zz zB zp zC
                    have qb := zB.1
                    have zU := zB.2
                    have p14 : T[200]? = some (gw true (.bool true)) := zp 14 (by kernel_rfl) (by kernel_rfl)
                    exact ⟨(true && (true == true)), want_g rfl rfl p14, fun hc => .inl ⟨_, _, ex_move rfl (qb.e (j := 7) rfl), Upd.refl _ _, fun h => absurd h (by decide), fun T2 N => by rw [hc]; exact N.s 201 rfl⟩, fun _ => rfl, fun hc T2 N => by rw [hc]; exact N.s 201 rfl⟩
                  · intro T df v zz zB zp zC
                    have qb := zB.1
                    have zU := zB.2
                    have zDw : Below w.heap.size w v := dwy2.trans (zU.below dwy2.size (fun k hk => hk.elim))
                    have HB : Below wy2.heap.size wy2 v := zU.below (Nat.le_refl _) (fun k hk => hk.elim)
                    have p14 : T[200]? = some (gw true (.bool true)) := zp 14 (by kernel_rfl) (by kernel_rfl)
                    have p15 : T[201]? = some (gw (true && (true == true)) (.pointer (some ⟨w.heap.size, 0, none⟩))) := zp 15 (by kernel_rfl) (by kernel_rfl)
                    refine ⟨(true && (true == true)), want_g rfl rfl p14, fun hc => .inr (.inr ⟨_, _, _, ex_call rfl (by simp only [List.map_toArray, List.map_cons, List.map_nil, (ev p15 hc), evc] <;> rfl) rfl, head_any20 (TT.later HB) het (ht.of_below zDw ht.lt) (by rw [List.length_map]; omega), ?_⟩), fun _ => rfl, fun hc T2 N => by rw [hc]; exact N.s 202 rfl⟩
                    rintro e w9 ⟨rfl, b9⟩
                    exact ⟨_, rfl, Upd.of_below b9, fun h => absurd h (by decide), fun T2 N => by rw [hc]; exact N.s 202 rfl⟩
                  · intro T df v zz zB zp zC
                    have qb := zB.1
                    have zU := zB.2
                    have p14 : T[200]? = some (gw true (.bool true)) := zp 14 (by kernel_rfl) (by kernel_rfl)
                    exact ⟨(true && (true == true)), want_g rfl rfl p14, fun hc => .inl ⟨_, _, ex_ld rfl (qb.e (j := 11) rfl) (Bx.upd zU (show ¬ False from id)).ldH, Upd.refl _ _, fun h => absurd h (by decide), fun T2 N => by rw [hc]; exact N.s 203 rfl⟩, fun _ => rfl, fun hc T2 N => by rw [hc]; exact N.s 203 rfl⟩
                  · intro T df v zz zB zp zC
                    have qb := zB.1
                    have zU := zB.2
                    have p14 : T[200]? = some (gw true (.bool true)) := zp 14 (by kernel_rfl) (by kernel_rfl)
                    have p16 : T[202]? = some (gw (true && (true == true)) ((hd (l.map lf)).val)) := zp 16 (by kernel_rfl) (by kernel_rfl)
                    have p17 : T[203]? = some (gw (true && (true == true)) ((hd (l.map lf)).val)) := zp 17 (by kernel_rfl) (by kernel_rfl)
                    exact ⟨(true && (true == true)), want_g rfl rfl p14, fun hc => .inl ⟨_, _, ex_bin rfl (ev p16 hc) (ev p17 hc) (eqHT0 _ _ (rfl) _), Upd.refl _ _, fun h => absurd h (by decide), fun T2 N => by rw [hc]; exact N.s 204 rfl⟩, fun _ => rfl, fun hc T2 N => by rw [hc]; exact N.s 204 rfl⟩
                  · intro T df v zz zB zp zC
                    have qb := zB.1
                    have zU := zB.2
                    have p14 : T[200]? = some (gw true (.bool true)) := zp 14 (by kernel_rfl) (by kernel_rfl)
                    have p18 : T[204]? = some (gw (true && (true == true)) (.bool true)) := zp 18 (by kernel_rfl) (by kernel_rfl)
                    exact ⟨true, want_none rfl, fun _ => .inl ⟨_, _, ex_and (c := true) (b := true) (z := true) rfl p14 p18 rfl, Upd.refl _ _, fun h => absurd h (by decide), fun T2 N => N.s 205 rfl⟩, fun h => absurd h (by decide), fun h => absurd h (by decide)⟩
                  · intro T df v zz zB zp zC
                    have qb := zB.1
                    have zU := zB.2
                    have p19 : T[205]? = some (gw true (.bool true)) := zp 19 (by kernel_rfl) (by kernel_rfl)
                    exact ⟨true, want_none rfl, fun _ => .inl ⟨_, _, ex_move rfl (ev p19 rfl), Upd.refl _ _, fun h => absurd h (by decide), fun T2 N => N.s 206 rfl⟩, fun h => absurd h (by decide), fun h => absurd h (by decide)⟩
                  · intro T df v zz zB zp zC
                    have qb := zB.1
                    have zU := zB.2
                    have p20 : T[206]? = some (gw true (.bool true)) := zp 20 (by kernel_rfl) (by kernel_rfl)
                    exact ⟨(true && (true == false)), want_g rfl rfl p20, fun hc => .inl ⟨_, _, ex_move rfl (qb.e (j := 9) rfl), Upd.refl _ _, fun h => absurd h (by decide), fun T2 N => by rw [hc]; exact N.s 207 rfl⟩, fun _ => rfl, fun hc T2 N => by rw [hc]; exact N.s 207 rfl⟩
                  · intro T df v zz zB zp zC
                    have qb := zB.1
                    have zU := zB.2
                    have HB : Below wy2.heap.size wy2 v := zU.below (Nat.le_refl _) (fun k hk => hk.elim)
                    have p20 : T[206]? = some (gw true (.bool true)) := zp 20 (by kernel_rfl) (by kernel_rfl)
                    have p21 : T[207]? = some (gw (true && (true == false)) (.slice (some ⟨go, 0, none⟩) l.length co)) := zp 21 (by kernel_rfl) (by kernel_rfl)
                    refine ⟨(true && (true == false)), want_g rfl rfl p20, fun hc => .inr (.inr ⟨_, _, _, ex_call rfl (by simp only [List.map_toArray, List.map_cons, List.map_nil, (ev p21 hc), evc] <;> rfl) rfl, head20 (l.set 0 x2) _ _ _ v (so2.later HB) (by omega) (fun x hx => by have := hv12 x hx; omega), ?_⟩), fun _ => rfl, fun hc T2 N => by rw [hc]; exact N.s 208 rfl⟩
                    rintro e w9 ⟨rfl, b9⟩
                    exact ⟨_, rfl, Upd.of_below b9, fun h => absurd h (by decide), fun T2 N => by rw [hc]; exact N.s 208 rfl⟩
                  · intro T df v zz zB zp zC
                    have qb := zB.1
                    have zU := zB.2
                    have p20 : T[206]? = some (gw true (.bool true)) := zp 20 (by kernel_rfl) (by kernel_rfl)
                    exact ⟨(true && (true == false)), want_g rfl rfl p20, fun hc => .inl ⟨_, _, ex_ld rfl (qb.e (j := 11) rfl) (Bx.upd zU (show ¬ False from id)).ldH, Upd.refl _ _, fun h => absurd h (by decide), fun T2 N => by rw [hc]; exact N.s 209 rfl⟩, fun _ => rfl, fun hc T2 N => by rw [hc]; exact N.s 209 rfl⟩
                  · intro T df v zz zB zp zC
                    have qb := zB.1
                    have zU := zB.2
                    have p20 : T[206]? = some (gw true (.bool true)) := zp 20 (by kernel_rfl) (by kernel_rfl)
                    have p22 : T[208]? = some (gw (true && (true == false)) ((hd ((l.set 0 x2).map lf)).val)) := zp 22 (by kernel_rfl) (by kernel_rfl)
                    have p23 : T[209]? = some (gw (true && (true == false)) ((hd (l.map lf)).val)) := zp 23 (by kernel_rfl) (by kernel_rfl)
                    exact ⟨(true && (true == false)), want_g rfl rfl p20, fun hc => .inl ⟨_, _, ex_bin rfl (ev p22 hc) (ev p23 hc) (eqHF0 _ _ (fun e => hHq (Hs.ext20 e)) _), Upd.refl _ _, fun h => absurd h (by decide), fun T2 N => by rw [hc]; exact N.s 210 rfl⟩, fun _ => rfl, fun hc T2 N => by rw [hc]; exact N.s 210 rfl⟩
                  · intro T df v zz zB zp zC
                    have qb := zB.1
                    have zU := zB.2
                    have p20 : T[206]? = some (gw true (.bool true)) := zp 20 (by kernel_rfl) (by kernel_rfl)
                    have p24 : T[210]? = some (gw (true && (true == false)) (.bool false)) := zp 24 (by kernel_rfl) (by kernel_rfl)
                    exact ⟨(true && (true == false)), want_g rfl rfl p20, fun hc => .inl ⟨_, _, ex_move rfl (ev p24 hc), Upd.refl _ _, fun h => absurd h (by decide), fun T2 N => by rw [hc]; exact N.s 211 rfl⟩, fun _ => rfl, fun hc T2 N => by rw [hc]; exact N.s 211 rfl⟩
                  · intro T df v zz zB zp zC
                    have qb := zB.1
                    have zU := zB.2
                    have p25 : T[211]? = some (gw (true && (true == false)) (.bool false)) := zp 25 (by kernel_rfl) (by kernel_rfl)
                    exact ⟨((true && (true == false)) && (false == true)), want_g rfl rfl p25, fun hc => .inl ⟨_, _, ex_move rfl (qb.e (j := 9) rfl), Upd.refl _ _, fun h => absurd h (by decide), fun T2 N => by rw [hc]; exact N.s 212 rfl⟩, fun _ => rfl, fun hc T2 N => by rw [hc]; exact N.s 212 rfl⟩
                  · intro T df v zz zB zp zC
                    have qb := zB.1
                    have zU := zB.2
                    have p25 : T[211]? = some (gw (true && (true == false)) (.bool false)) := zp 25 (by kernel_rfl) (by kernel_rfl)
                    exact ⟨((true && (true == false)) && (false == true)), want_g rfl rfl p25, fun hc => .inl ⟨_, _, ex_move rfl (qb.e (j := 0) rfl), Upd.refl _ _, fun h => absurd h (by decide), fun T2 N => by rw [hc]; exact N.s 213 rfl⟩, fun _ => rfl, fun hc T2 N => by rw [hc]; exact N.s 213 rfl⟩
                  · intro T df v zz zB zp zC
                    have qb := zB.1
                    have zU := zB.2
                    have p25 : T[211]? = some (gw (true && (true == false)) (.bool false)) := zp 25 (by kernel_rfl) (by kernel_rfl)
                    have p26 : T[212]? = some (gw ((true && (true == false)) && (false == true)) (.slice (some ⟨go, 0, none⟩) l.length co)) := zp 26 (by kernel_rfl) (by kernel_rfl)
                    have p27 : T[213]? = some (gw ((true && (true == false)) && (false == true)) (.slice (some ⟨qa, oa, none⟩) l.length c1)) := zp 27 (by kernel_rfl) (by kernel_rfl)
                    refine ⟨((true && (true == false)) && (false == true)), want_g rfl rfl p25, fun hc => .inr (.inr ⟨_, _, _, ex_call rfl (by simp only [List.map_toArray, List.map_cons, List.map_nil, (ev p26 hc), (ev p27 hc), evc] <;> rfl) rfl, (show Calls Tryd.prog _ _ v (fun e w9 => e = .returned (.bool true) ∧ Below v.heap.size v w9) from absurd hc (by decide)), ?_⟩), fun _ => rfl, fun hc T2 N => by rw [hc]; exact N.s 214 rfl⟩
                    rintro e w9 ⟨rfl, b9⟩
                    exact ⟨_, rfl, Upd.of_below b9, fun h => absurd h (by decide), fun T2 N => by rw [hc]; exact N.s 214 rfl⟩
                  · intro T df v zz zB zp zC
                    have qb := zB.1
                    have zU := zB.2
                    have p20 : T[206]? = some (gw true (.bool true)) := zp 20 (by kernel_rfl) (by kernel_rfl)
                    have p25 : T[211]? = some (gw (true && (true == false)) (.bool false)) := zp 25 (by kernel_rfl) (by kernel_rfl)
                    have p28 : T[214]? = some (gw ((true && (true == false)) && (false == true)) (.bool true)) := zp 28 (by kernel_rfl) (by kernel_rfl)
                    exact ⟨(true && (true == false)), want_g rfl rfl p20, fun hc => .inl ⟨_, _, ex_and (c := (true && (true == false))) (b := false) (z := true) rfl p25 p28 hc, Upd.refl _ _, fun h => absurd h (by decide), fun T2 N => by rw [hc]; exact N.s 215 rfl⟩, fun _ => rfl, fun hc T2 N => by rw [hc]; exact N.s 215 rfl⟩
                  · intro T df v zz zB zp zC
                    have qb := zB.1
                    have zU := zB.2
                    have p20 : T[206]? = some (gw true (.bool true)) := zp 20 (by kernel_rfl) (by kernel_rfl)
                    have p29 : T[215]? = some (gw (true && (true == false)) (.bool false)) := zp 29 (by kernel_rfl) (by kernel_rfl)
                    exact ⟨true, want_none rfl, fun _ => .inl ⟨_, _, ex_or (c := true) (b := true) (z := false) rfl p20 p29 rfl, Upd.refl _ _, fun h => absurd h (by decide), fun T2 N => N.s 216 rfl⟩, fun h => absurd h (by decide), fun h => absurd h (by decide)⟩
                  · intro T df v zz zB zp zC
                    have qb := zB.1
                    have zU := zB.2
                    have p30 : T[216]? = some (gw true (.bool true)) := zp 30 (by kernel_rfl) (by kernel_rfl)
                    exact ⟨true, want_none rfl, fun _ => .inl ⟨_, _, ex_assign rfl (ev p30 rfl), Upd.refl _ _, fun h => absurd h (by decide), fun T2 N => N.s 6 rfl⟩, fun h => absurd h (by decide), fun h => absurd h (by decide)⟩
                intro T v913 zz zB zq za
                have qb := zB.1
                have U914 := zB.2
                clear zB zz
                clear q718
                have d915 : Below w.heap.size w v913 := dwy2.trans (U914.below (Nat.le_trans dwy2.size (Nat.le_refl _)) (fun k hk => hk.elim))
                have zv913 := U914.size
                have p31 : T[6]? = some (gw true (.bool true)) := zq 31 _ rfl (fun k => rfl)
                have q719 := (qb.cons p31)
                clear zq za qb p31
                go_wp2
                refine bodyPost_ret (results_tmp rfl _ _ _) rfl ?_
                rw [getD_of (q719.a 6 rfl)]
                exact ⟨rfl, d915⟩
          · refine q707.t (.bool false) (ex_bin (Y := .int .i64 ((0 : Nat) : Int)) rfl (q707.e (j := 176) rfl) rfl (gtF20 _ _ (by omega) _)) fun _ q708 => ?_;clear q707
            refine wpList_nil ?_
            go_upto_region 48 with fail
            refine wp_cond_false (q708.e (j := 177) rfl) ?_
            go_upto_region 48 with fail
            refine wp_region_lit ?_
            refine q708.t (.bool true) (ex_assign rfl rfl) fun _ q709 => ?_;clear q708
            refine wpList_nil ?_
            go_wp2
            refine bodyPost_ret (results_tmp rfl _ _ _) rfl ?_
            rw [getD_of (q709.a 6 rfl)]
            exact ⟨rfl, dwz⟩
end Go.Proofs.YteeofcoehffegaaDoor
