import Derived.Test.YtjkleldoeojbbaaK22
namespace Go.Proofs.Ytjkleldoeojbbaa
open Go.RowKit Go.Maps
open Classical
set_option linter.unusedVariables false
set_option linter.unusedSimpArgs false

theorem bdM (w : World) : (Instr.build 66 #[(0, .int .i64 (-77))]).run Try.prog w = .ok kM.val w := by
  unfold Kl.val kM
  go_simp
theorem bs1K (x : Kl) (w : World) : (Instr.buildSlice 24 1 #[(0, x.val)]).run Try.prog w = .ok (.slice (some ⟨w.heap.size, 0, none⟩) 1 1) (w.alloc (.cells (yK.cs x).toArray 66)) := by
  unfold Kl.val
  simp only [yK, Kl.cs]
  go_simp
theorem faK0o (q o : Nat) (w : World) : (Instr.fieldAt 66 (.pointer (some ⟨q, o, none⟩)) 0).run Try.prog w = .ok (.pointer (some ⟨q, o, none⟩)) w := by go_simp
theorem neqNn (x y : Operand) (n : Nat) (w : World) : (do eqGuard .neq 3 x y (.int .i64 (n : Int)) (.int .i64 (n : Int)); binOp .neq 3 (.int .i64 (n : Int)) (.int .i64 (n : Int)) : Sem Value).run Try.prog w = .ok (.bool false) w := by
  rw [neqC]
  simp
set_option maxRecDepth 100000 in
set_option maxHeartbeats 1000000 in
theorem lent_any (L : List Kl) (a : Option Addr) (c : Nat) (w : World) (h : SlY yK w a L.length c L) (hb : L.length * 96 ≤ 140737488351232) :
    Calls Try.prog 15 #[.slice a L.length c] w fun e w' => ∃ a' c', e = .returned (.slice a' L.length c') ∧ Lent w.heap.size w' a' L.length c' L ∧ Below w.heap.size w w' := by
  have hmx := h.max
  have hcp := h.cap
  unfold maxLen at hmx
  go_enter Try.func15, Try.ntmps15
  go_upto_region 0 with fail
  refine wp_region_lit ?_
  refine vl_gen (fun T => Rp T 15 [(0, gw true (.slice a L.length c))]) ((Rp.nil rfl).cons rfl) (fun Z0 q0 => ?_)
  refine q0.t (.slice none 0 0) (ex_assign rfl rfl) fun _ q1 => ?_;clear q0
  refine wpList_nil ?_
  go_upto_region 1 with fail
  refine wp_region_lit ?_
  refine q1.t (.slice none 0 0) (ex_assign rfl rfl) fun _ q2 => ?_;clear q1
  refine wpList_nil ?_
  go_upto_region 2 with fail
  refine wp_region_lit ?_
  refine q2.t (.slice none 0 0) (ex_move rfl (q2.e (j := 3) rfl)) fun _ q3 => ?_;clear q2
  refine q3.t (.slice a L.length c) (ex_move rfl (q3.e (j := 0) rfl)) fun _ q4 => ?_;clear q3
  obtain ⟨v1, w1, ha1, o1, g1, _⟩ := run_appY kK w 24 w.heap.size [] (.slice none 0 0) a L.length c L h (OwnY.nil _ _ _) (Nat.le_refl _) (by unfold maxLen; simp; omega) (by show (([] : List Kl).length + L.length) * 96 ≤ _; simp; omega)
  rw [List.nil_append] at o1
  have b1 : Below w.heap.size w w1 := (Below.refl _ _).grown g1 (Nat.le_refl _) (fun k hk => by cases hk)
  have z1 := b1.size
  refine vw (v1) w1 (want_none rfl) (ex_app18 rfl (q4.e (j := 4) rfl) (q4.e (j := 5) rfl) ha1) rfl q4.z (by decide) (q4.k fun _ q5 => ?_);clear q4
  refine q5.t (v1) (ex_assign rfl (q5.e (j := 6) rfl)) fun _ q6 => ?_;clear q5
  refine wpList_nil ?_
  go_upto_region 3 with fail
  refine wp_region_lit ?_
  refine q6.t (v1) (ex_move rfl (q6.e (j := 3) rfl)) fun _ q7 => ?_;clear q6
  refine q7.t (kM.val) (ex_buildP18 rfl (by simp only [List.map_toArray, List.map_cons, List.map_nil, evc] <;> rfl) (bdM _)) fun _ q8 => ?_;clear q7
  obtain ⟨w2, hw2⟩ : ∃ y, y = w1.alloc (.cells (yK.cs kM).toArray 66) := ⟨_, rfl⟩
  refine vw (.slice (some ⟨w1.heap.size, 0, none⟩) 1 1) w2 (want_none rfl) (ex_bs18 rfl (q8.e (j := 8) rfl) (by rw [hw2]; exact bs1K _ _)) rfl q8.z (by decide) (q8.k fun _ q9 => ?_);clear q8
  have s2 : SlY yK w2 (some ⟨w1.heap.size, 0, none⟩) 1 1 [kM] := by rw [hw2]; exact sl_box (Y := yK) w1 kM 66
  have b2 : Below w1.heap.size w1 w2 := by rw [hw2]; exact (Below.refl _ _).alloc (Nat.le_refl _) _
  clear hw2
  have z2 := b2.size
  obtain ⟨v3, w3, ha3, o3, g3, _⟩ := run_appY kK w2 24 w.heap.size L v1 _ 1 1 [kM] s2 (o1.grow b2) (by omega) (by unfold maxLen; omega) (by show (L.length + 1) * 96 ≤ _; omega)
  have b3 : Below w.heap.size w w3 := (b1.trans (b2.mono z1)).grown g3 (by omega) (fun k hk => (o1.blk k hk).1)
  refine vw (v3) w3 (want_none rfl) (ex_app18 rfl (q9.e (j := 7) rfl) (q9.e (j := 9) rfl) ha3) rfl q9.z (by decide) (q9.k fun _ q10 => ?_);clear q9
  refine q10.t (v3) (ex_assign rfl (q10.e (j := 10) rfl)) fun _ q11 => ?_;clear q10
  refine wpList_nil ?_
  go_upto_region 4 with fail
  refine wp_region_lit ?_
  refine q11.t (v3) (ex_move rfl (q11.e (j := 3) rfl)) fun _ q12 => ?_;clear q11
  refine q12.t (.slice a L.length c) (ex_move rfl (q12.e (j := 0) rfl)) fun _ q13 => ?_;clear q12
  refine q13.t (.int .i64 (L.length : Int)) (ex_len18 rfl rfl (q13.e (j := 12) rfl)) fun _ q14 => ?_;clear q13
  obtain ⟨a3, c3, hv3, sl3, hz3⟩ := o3.sl kK
  obtain ⟨g, rfl, hg, hgl⟩ : ∃ g, a3 = some ⟨g, 0, none⟩ ∧ w.heap.size ≤ g ∧ g < w3.heap.size := by
    cases a3 with
    | none => have := (sl3.nil rfl).1; simp at this
    | some z => obtain ⟨g, e, e2, e3⟩ := hz3 z rfl; exact ⟨g, by rw [e], e2, e3⟩
  have hlen : (L ++ [kM]).length = L.length + 1 := by simp
  have hcap := sl3.cap
  rw [hlen] at hcap hv3 sl3
  refine q14.t (.slice (some ⟨g, 0, none⟩) L.length c3) (ex_slT18 rfl ((q14.e (j := 11) rfl).trans hv3) (q14.e (j := 13) rfl) (slToK g 0 (L.length + 1) c3 L.length (by omega) (by omega) _)) fun _ q15 => ?_;clear q14
  refine q15.t (.slice (some ⟨g, 0, none⟩) L.length c3) (ex_assign rfl (q15.e (j := 14) rfl)) fun _ q16 => ?_;clear q15
  refine wpList_nil ?_
  rw [hv3] at o3
  have hmk := o3.cell kK L.length kM (by simp) 0 (.int .i64 (-77)) rfl
  have hsl := sl3.take L.length (by omega)
  rw [List.take_left] at hsl
  go_wp2
  refine bodyPost_ret (results_tmp rfl _ _ _) rfl ⟨some ⟨g, 0, none⟩, c3, ?_, ⟨hsl, g, rfl, hg, hgl, hcap, hmk⟩, b3⟩
  rw [getD_of (q16.a 2 rfl)]
  rfl
set_option maxRecDepth 100000 in
set_option maxHeartbeats 1000000 in
theorem same18 (L : List Kl) (a a2 : Option Addr) (c c2 : Nat) (w : World) (h : SlY yK w a L.length c L) (h2 : SlY yK w a2 L.length c2 L) (hbn : L.length ≤ 140737488355328) :
    Calls Try.prog 12 #[.slice a L.length c, .slice a2 L.length c2] w fun e w' => e = .returned (.bool true) ∧ Below w.heap.size w w' := by
  have hmx := h.max
  have hcp := h.cap
  unfold maxLen at hmx
  go_enter Try.func12, Try.ntmps12
  go_upto_region 0 with fail
  refine wp_region_lit ?_
  refine vl_gen (fun T => Rp T 26 [(1, gw true (.slice a2 L.length c2)), (0, gw true (.slice a L.length c))]) (((Rp.nil rfl).cons rfl).cons rfl) (fun Z0 q0 => ?_)
  refine q0.t (.bool false) (ex_assign rfl rfl) fun _ q1 => ?_;clear q0
  refine wpList_nil ?_
  go_upto_region 1 with fail
  refine wp_region_lit ?_
  refine q1.t (.slice a L.length c) (ex_move rfl (q1.e (j := 0) rfl)) fun _ q2 => ?_;clear q1
  refine q2.t (.int .i64 (L.length : Int)) (ex_len18 rfl rfl (q2.e (j := 6) rfl)) fun _ q3 => ?_;clear q2
  refine q3.t (.slice a2 L.length c2) (ex_move rfl (q3.e (j := 1) rfl)) fun _ q4 => ?_;clear q3
  refine q4.t (.int .i64 (L.length : Int)) (ex_len18 rfl rfl (q4.e (j := 8) rfl)) fun _ q5 => ?_;clear q4
  refine q5.t (.bool false) (ex_bin rfl (q5.e (j := 7) rfl) (q5.e (j := 9) rfl) (neqNn _ _ _ _)) fun _ q6 => ?_;clear q5
  refine wpList_nil ?_
  go_upto_region 3 with fail
  refine wp_cond_false (q6.e (j := 10) rfl) ?_
  go_upto_region 3 with fail
  refine wp_region_lit ?_
  refine q6.t (.int .i64 ((0 : Nat) : Int)) (ex_assign rfl rfl) fun _ q7 => ?_;clear q6
  have q8 := ((((Rp.nil q7.z).cons (q7.a 0 rfl)).cons (q7.a 1 rfl)).cons (q7.a 5 rfl))
  clear q7
  refine wpList_nil ?_
  go_upto_region 4 with fail
  refine v_loop 5 L.length (fun j T wr => Rp T 26 [(5, gw true (.int .i64 (j : Int))), (1, gw true (.slice a2 L.length c2)), (0, gw true (.slice a L.length c))] ∧ Hid (Below w.heap.size w wr)) (fun j T w h => h.1.a 5 rfl) ⟨q8, Below.refl _ _⟩ ?_
  clear q8
  intro j T wr hj hh
  obtain ⟨q100, HJ⟩ := hh
  have br := HJ.out
  clear HJ
  by_cases hit : j < L.length
  · obtain ⟨x, hx⟩ : ∃ x, L[j]? = some x := ⟨_, List.getElem?_eq_getElem hit⟩
    have s1 := h.on br (Nat.le_refl _)
    have s2 := h2.on br (Nat.le_refl _)
    go_upto_region 4 with fail
    refine wp_region_lit ?_
    refine q100.t (.int .i64 (j : Int)) (ex_move rfl (q100.e (j := 5) rfl)) fun _ q101 => ?_;clear q100
    refine q101.t (.slice a L.length c) (ex_move rfl (q101.e (j := 0) rfl)) fun _ q102 => ?_;clear q101
    refine q102.t (.int .i64 (L.length : Int)) (ex_len18 rfl rfl (q102.e (j := 12) rfl)) fun _ q103 => ?_;clear q102
    refine q103.t (.bool true) (ex_bin rfl (q103.e (j := 11) rfl) (q103.e (j := 13) rfl) (ltT _ _ hit _)) fun _ q104 => ?_;clear q103
    refine wpList_nil ?_
    go_upto_region 6 with fail
    refine wp_cond_true (q104.e (j := 14) rfl) ?_
    go_upto_region 6 with fail
    refine vq_start (C := fun v => Below wr.heap.size wr v) (by kernel_rfl) (by kernel_rfl) (Below.refl _ _).drew ?_
    obtain ⟨qa, oa, hqa, hqal, hla⟩ := s1.place (by rintro rfl; simp at hx)
    obtain ⟨qb, ob, hqb, hqbl, hlb⟩ := s2.place (by rintro rfl; simp at hx)
    refine q104.q (.slice a L.length c) (fun v hv => ex_move rfl (q104.e (j := 0) rfl)) fun _ q105 => ?_;clear q104
    refine q105.q (.int .i64 (j : Int)) (fun v hv => ex_move rfl (q105.e (j := 5) rfl)) fun _ q106 => ?_;clear q105
    refine q106.q (.pointer (some ⟨qa, oa + j * 10, none⟩)) (fun v hv => ex_ix rfl (q106.e (j := 17) rfl) (q106.e (j := 18) rfl) (by rw [hqa]; exact ixK qa oa L.length c j hit _)) fun _ q107 => ?_;clear q106
    refine q107.q (x.val) (fun v hv => ex_ld rfl (q107.e (j := 19) rfl) (ldEl (hla.upd (S := fun _ => False) (Upd.of_below hv) hqal id) hx)) fun _ q108 => ?_;clear q107
    refine q108.q (.slice a2 L.length c2) (fun v hv => ex_move rfl (q108.e (j := 1) rfl)) fun _ q109 => ?_;clear q108
    refine q109.q (.int .i64 (j : Int)) (fun v hv => ex_move rfl (q109.e (j := 5) rfl)) fun _ q110 => ?_;clear q109
    refine q110.q (.pointer (some ⟨qb, ob + j * 10, none⟩)) (fun v hv => ex_ix rfl (q110.e (j := 21) rfl) (q110.e (j := 22) rfl) (by rw [hqb]; exact ixK qb ob L.length c2 j hit _)) fun _ q111 => ?_;clear q110
    refine q111.q (x.val) (fun v hv => ex_ld rfl (q111.e (j := 23) rfl) (ldEl (hlb.upd (S := fun _ => False) (Upd.of_below hv) hqbl id) hx)) fun _ q112 => ?_;clear q111
    refine q112.q (.bool false) (fun v hv => ex_bin rfl (q112.e (j := 20) rfl) (q112.e (j := 24) rfl) (neqK18 _ _ x _)) fun _ q113 => ?_;clear q112
    refine vq_nil (fun r1 hr1 => ?_)
    have q114 := (((((Rp.nil q113.z).cons (q113.a 0 rfl)).cons (q113.a 1 rfl)).cons (q113.a 5 rfl)).cons (q113.a 25 rfl))
    clear q113
    go_upto_region 5 with fail
    refine wp_cond_false (q114.e (j := 25) rfl) ?_
    go_upto_region 5 with fail
    refine wp_region_lit ?_
    refine q114.t (.int .i64 (j : Int)) (ex_move rfl (q114.e (j := 5) rfl)) fun _ q115 => ?_;clear q114
    refine q115.t (.int .i64 ((j + 1 : Nat) : Int)) (ex_bin rfl (q115.e (j := 15) rfl) rfl (add1C _ _ j (by omega) _)) fun _ q116 => ?_;clear q115
    refine q116.t (.int .i64 ((j + 1 : Nat) : Int)) (ex_assign rfl (q116.e (j := 16) rfl)) fun _ q117 => ?_;clear q116
    have q118 := ((((Rp.nil q117.z).cons (q117.a 0 rfl)).cons (q117.a 1 rfl)).cons (q117.a 5 rfl))
    clear q117
    refine wpList_nil ?_
    exact ⟨_, rfl, hit, q118, br.trans (hr1.mono br.size)⟩
  · obtain rfl : j = L.length := by omega
    go_upto_region 4 with fail
    refine wp_region_lit ?_
    refine q100.t (.int .i64 (L.length : Int)) (ex_move rfl (q100.e (j := 5) rfl)) fun _ q101 => ?_;clear q100
    refine q101.t (.slice a L.length c) (ex_move rfl (q101.e (j := 0) rfl)) fun _ q102 => ?_;clear q101
    refine q102.t (.int .i64 (L.length : Int)) (ex_len18 rfl rfl (q102.e (j := 12) rfl)) fun _ q103 => ?_;clear q102
    refine q103.t (.bool false) (ex_bin rfl (q103.e (j := 11) rfl) (q103.e (j := 13) rfl) (ltF _ _ hit _)) fun _ q104 => ?_;clear q103
    refine wpList_nil ?_
    go_upto_region 8 with fail
    refine wp_cond_false (q104.e (j := 14) rfl) ?_
    go_upto_region 8 with fail
    refine wp_region_lit ?_
    refine q104.t (.bool true) (ex_assign rfl rfl) fun _ q105 => ?_;clear q104
    refine wpList_nil ?_
    go_wp2
    refine bodyPost_ret (results_tmp rfl _ _ _) rfl ⟨?_, br⟩
    rw [getD_of (q105.a 4 rfl)]
    rfl
set_option maxRecDepth 100000 in
set_option maxHeartbeats 1000000 in
theorem kept18 (B : Nat) (L : List Kl) (a a2 : Option Addr) (c c2 : Nat) (w : World) (h : Lent B w a L.length c L) (h2 : SlY yK w a2 L.length c2 L) (hbn : L.length ≤ 140737488355328) :
    Calls Try.prog 22 #[.slice a L.length c, .slice a2 L.length c2] w fun e w' => e = .returned (.bool true) ∧ Below w.heap.size w w' := by
  have hmx := h2.max
  have hcp := h2.cap
  unfold maxLen at hmx
  obtain ⟨g, rfl, hg, hgl, hcc, hmk⟩ := h.mrk
  go_enter Try.func22, Try.ntmps22
  go_upto_region 0 with fail
  refine wp_region_lit ?_
  refine vl_gen (fun T => Rp T 21 [(1, gw true (.slice a2 L.length c2)), (0, gw true (.slice (some ⟨g, 0, none⟩) L.length c))]) (((Rp.nil rfl).cons rfl).cons rfl) (fun Z0 q0 => ?_)
  refine q0.t (.bool false) (ex_assign rfl rfl) fun _ q1 => ?_;clear q0
  refine wpList_nil ?_
  go_upto_region 1 with fail
  refine wp_region_lit ?_
  refine q1.t (.slice (some ⟨g, 0, none⟩) L.length c) (ex_move rfl (q1.e (j := 0) rfl)) fun _ q2 => ?_;clear q1
  refine q2.t (.slice a2 L.length c2) (ex_move rfl (q2.e (j := 1) rfl)) fun _ q3 => ?_;clear q2
  refine vcallP (want_none rfl) (ex_call rfl (by simp only [List.map_toArray, List.map_cons, List.map_nil, (q3.e (j := 5) rfl), (q3.e (j := 6) rfl), evc] <;> rfl) rfl) (same18 L _ a2 c c2 w h.sl h2 hbn) rfl q3.z (by decide) ?_
  rintro e w1 ⟨rfl, b1⟩
  refine ⟨_, rfl, q3.k fun _ q4 => ?_⟩;clear q3
  refine q4.t (.bool true) (ex_move rfl (q4.e (j := 7) rfl)) fun _ q5 => ?_;clear q4
  refine vl (true) (.slice (some ⟨g, 0, none⟩) L.length c) (wantT18 rfl rfl (q5.a 8 rfl)) (fun hc => ex_move rfl (q5.e (j := 0) rfl)) rfl q5.z (by decide) (q5.k fun _ q6 => ?_);clear q5
  refine vl (true) (.slice a2 L.length c2) (wantT18 rfl rfl (q6.a 8 rfl)) (fun hc => ex_move rfl (q6.e (j := 1) rfl)) rfl q6.z (by decide) (q6.k fun _ q7 => ?_);clear q6
  refine vl (true) (.int .i64 (L.length : Int)) (wantT18 rfl rfl (q7.a 8 rfl)) (fun hc => ex_len18 rfl rfl (q7.e (j := 10) rfl)) rfl q7.z (by decide) (q7.k fun _ q8 => ?_);clear q7
  refine vl (true) (.int .i64 ((L.length + 1 : Nat) : Int)) (wantT18 rfl rfl (q8.a 8 rfl)) (fun hc => ex_bin rfl (q8.e (j := 11) rfl) rfl (add1C _ _ _ (by omega) _)) rfl q8.z (by decide) (q8.k fun _ q9 => ?_);clear q8
  refine vl (true) (.slice (some ⟨g, 0, none⟩) (L.length + 1) c) (wantT18 rfl rfl (q9.a 8 rfl)) (fun hc => ex_slT18 rfl (q9.e (j := 9) rfl) (q9.e (j := 12) rfl) (slUpK g 0 L.length c (L.length + 1) hcc _)) rfl q9.z (by decide) (q9.k fun _ q10 => ?_);clear q9
  refine vl (true) (.slice a2 L.length c2) (wantT18 rfl rfl (q10.a 8 rfl)) (fun hc => ex_move rfl (q10.e (j := 1) rfl)) rfl q10.z (by decide) (q10.k fun _ q11 => ?_);clear q10
  refine vl (true) (.int .i64 (L.length : Int)) (wantT18 rfl rfl (q11.a 8 rfl)) (fun hc => ex_len18 rfl rfl (q11.e (j := 14) rfl)) rfl q11.z (by decide) (q11.k fun _ q12 => ?_);clear q11
  refine vl (true) (.pointer (some ⟨g, 0 + L.length * 10, none⟩)) (wantT18 rfl rfl (q12.a 8 rfl)) (fun hc => ex_ix rfl (q12.e (j := 13) rfl) (q12.e (j := 15) rfl) (ixK g 0 (L.length + 1) c L.length (by omega) _)) rfl q12.z (by decide) (q12.k fun _ q13 => ?_);clear q12
  refine vl (true) (.pointer (some ⟨g, 0 + L.length * 10, none⟩)) (wantT18 rfl rfl (q13.a 8 rfl)) (fun hc => ex_fa rfl (q13.e (j := 16) rfl) (faK0o _ _ _)) rfl q13.z (by decide) (q13.k fun _ q14 => ?_);clear q13
  refine vl (true) (.int .i64 (-77)) (wantT18 rfl rfl (q14.a 8 rfl)) (fun hc => ex_ld rfl (q14.e (j := 17) rfl) (ldI18 (by rw [Nat.zero_add]; exact (b1.cell (p := ⟨g, L.length * 10, none⟩) hgl).trans hmk))) rfl q14.z (by decide) (q14.k fun _ q15 => ?_);clear q14
  refine vl (true) (.bool true) (wantT18 rfl rfl (q15.a 8 rfl)) (fun hc => ex_bin rfl (q15.e (j := 18) rfl) rfl (eqlC _ _ (-77) (-77) _)) rfl q15.z (by decide) (q15.k fun _ q16 => ?_);clear q15
  refine q16.t (.bool true) (ex_and (c := true) (b := true) (z := true) rfl (q16.a 8 rfl) (q16.a 19 rfl) rfl) fun _ q17 => ?_;clear q16
  refine q17.t (.bool true) (ex_assign rfl (q17.e (j := 20) rfl)) fun _ q18 => ?_;clear q17
  refine wpList_nil ?_
  go_wp2
  refine bodyPost_ret (results_tmp rfl _ _ _) rfl ⟨?_, b1⟩
  rw [getD_of (q18.a 4 rfl)]
  rfl

end Go.Proofs.Ytjkleldoeojbbaa
