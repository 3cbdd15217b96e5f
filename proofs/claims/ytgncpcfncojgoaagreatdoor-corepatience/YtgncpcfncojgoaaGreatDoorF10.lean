import Derived.Test.YtgncpcfncojgoaaGreatDoorF9
set_option maxRecDepth 100000
set_option linter.unusedVariables false
set_option linter.unusedSimpArgs false
namespace Go.Proofs.YtgncpcfncojgoaaGreatDoor
open Go.RowKit Go.Maps Go.Shelf
open Classical
theorem okB_eq9 (c : Cg) : c.okB = (((((((decide (1 ≤ c.F)) && (decide (c.F ≤ 3))) && (decide (1 ≤ c.R))) && (decide (c.R ≤ 256))) && (decide (6 ≤ c.P))) && (decide (c.P ≤ 100)))):=by
 unfold Cg.okB inB
 simp only [Bool.and_assoc]
def lgB9 (c : Cg) (L : List En) (x : Int) : Bool:=(decide (lg L c.R = 0) && decide (0 ≤ x)) && decide (x ≤ (L.length : Int))
set_option maxHeartbeats 1000000 in
theorem rconfig9 (c : Cg) (w : World)  : Calls Tryz.prog 58 #[c.val] w fun e w' => e = .returned (.bool c.okB)∧Below w.heap.size w w':=by
 go_enter Tryz.func58,Tryz.ntmps58
 go_upto_region 0 with fail
 refine wp_region_lit ?_;refine vl_gen (fun T => T.size = 31∧T[0]? = some (gw true (c.val))) ⟨rfl,rfl⟩ (fun Z0 ⟨hz,s0⟩ => ?_)
 obtain ⟨w1,hw1⟩ : ∃ y,y = w.alloc (.cells c.cs.toArray 23):=⟨_,rfl⟩
 have hb : Below w.heap.size w w1:=by rw [hw1];exact (Below.refl _ _).alloc (Nat.le_refl _) _
 have hs1 : w1.heap.size = w.heap.size + 1:=by rw [hw1];simp
 have HC : CB7 w1 (w.heap.size) c:=by rw [hw1];exact BX7.new _ _ _
 refine vw (.pointer (some ⟨w.heap.size,0,none⟩)) w1 (want_none rfl) (ex_box8 rfl (ev s0 rfl) (by rw [hw1];exact bxC7 _ _)) rfl hz (by decide) (fun Z1 zz kk s1x => ?_);clear kk hz s0 hw1;have hz:=zz;have s1:=s1x;clear zz s1x;have hB:=hb;clear hb;have hv0 : Below w1.heap.size w1 w1:=Below.refl _ _;have q1_0:=(Rp.nil hz).cons s1;clear hz s1
 refine q1_0.t (.bool false) (ex_assign rfl rfl) fun _ q1_1 => ?_;clear q1_0
 have hz:=q1_1.z;have s1:=q1_1.a 1 rfl;clear q1_1;refine wpList_nil ?_
 go_upto_region 1 with fail
 refine wp_region_lit ?_;have q2_0:=(Rp.nil hz).cons s1;clear hz s1
 refine q2_0.t (.pointer (some ⟨w.heap.size,0,none⟩)) (ex_fa rfl (q2_0.e (j:=1) rfl) (faC0 _ _)) fun _ q2_1 => ?_;clear q2_0
 refine q2_1.t (.int .i64 c.F) (ex_ld rfl (q2_1.e (j:=3) rfl) (ldI8 (cell8 (HC.cell 0 _ rfl) hv0))) fun _ q2_2 => ?_;clear q2_1
 refine q2_2.t (.bool (decide (1 ≤ c.F))) (ex_bin rfl (q2_2.e (j:=4) rfl) rfl (geqC _ _ _ _ _)) fun _ q2_3 => ?_;clear q2_2
 refine q2_3.t _ (ex_move rfl (q2_3.e (j:=5) rfl)) fun _ q2_4 => ?_;clear q2_3
 refine vl _ (.pointer (some ⟨w.heap.size,0,none⟩)) (want_g rfl rfl (q2_4.a 6 rfl)) (fun hc => ex_fa rfl (q2_4.e (j:=1) rfl) (faC0 _ _)) rfl q2_4.z (by decide) (q2_4.k fun Ya q2_5 => ?_);clear q2_4;refine vl _ (.int .i64 c.F) (want_g rfl rfl (q2_5.a 6 rfl)) (fun hc => ex_ld rfl (ev (q2_5.a 7 rfl) hc) (ldI8 (cell8 (HC.cell 0 _ rfl) hv0))) rfl q2_5.z (by decide) (q2_5.k fun Yb q2_6 => ?_);clear q2_5;refine vl _ (.bool (decide (c.F ≤ 3))) (want_g rfl rfl (q2_6.a 6 rfl)) (fun hc => ex_bin rfl (ev (q2_6.a 8 rfl) hc) rfl (leqC8 _ _ _ _ _)) rfl q2_6.z (by decide) (q2_6.k fun Yc q2_7 => ?_);clear q2_6
 refine q2_7.t (.bool ((decide (1 ≤ c.F)) && (decide (c.F ≤ 3)))) (ex_and rfl (q2_7.a 6 rfl) (q2_7.a 9 rfl) rfl) fun _ q2_8 => ?_;clear q2_7
 refine q2_8.t _ (ex_move rfl (q2_8.e (j:=10) rfl)) fun _ q2_9 => ?_;clear q2_8
 refine vl _ (.pointer (some ⟨w.heap.size,1,none⟩)) (want_g rfl rfl (q2_9.a 11 rfl)) (fun hc => ex_fa rfl (q2_9.e (j:=1) rfl) (faC1 _ _)) rfl q2_9.z (by decide) (q2_9.k fun Yd q2_10 => ?_);clear q2_9;refine vl _ (.int .i64 c.R) (want_g rfl rfl (q2_10.a 11 rfl)) (fun hc => ex_ld rfl (ev (q2_10.a 12 rfl) hc) (ldI8 (cell8 (HC.cell 1 _ rfl) hv0))) rfl q2_10.z (by decide) (q2_10.k fun Ye q2_11 => ?_);clear q2_10;refine vl _ (.bool (decide (1 ≤ c.R))) (want_g rfl rfl (q2_11.a 11 rfl)) (fun hc => ex_bin rfl (ev (q2_11.a 13 rfl) hc) rfl (geqC _ _ _ _ _)) rfl q2_11.z (by decide) (q2_11.k fun Yf q2_12 => ?_);clear q2_11
 refine q2_12.t (.bool (((decide (1 ≤ c.F)) && (decide (c.F ≤ 3))) && (decide (1 ≤ c.R)))) (ex_and rfl (q2_12.a 11 rfl) (q2_12.a 14 rfl) rfl) fun _ q2_13 => ?_;clear q2_12
 refine q2_13.t _ (ex_move rfl (q2_13.e (j:=15) rfl)) fun _ q2_14 => ?_;clear q2_13
 refine vl _ (.pointer (some ⟨w.heap.size,1,none⟩)) (want_g rfl rfl (q2_14.a 16 rfl)) (fun hc => ex_fa rfl (q2_14.e (j:=1) rfl) (faC1 _ _)) rfl q2_14.z (by decide) (q2_14.k fun Yg q2_15 => ?_);clear q2_14;refine vl _ (.int .i64 c.R) (want_g rfl rfl (q2_15.a 16 rfl)) (fun hc => ex_ld rfl (ev (q2_15.a 17 rfl) hc) (ldI8 (cell8 (HC.cell 1 _ rfl) hv0))) rfl q2_15.z (by decide) (q2_15.k fun Yh q2_16 => ?_);clear q2_15;refine vl _ (.bool (decide (c.R ≤ 256))) (want_g rfl rfl (q2_16.a 16 rfl)) (fun hc => ex_bin rfl (ev (q2_16.a 18 rfl) hc) rfl (leqC8 _ _ _ _ _)) rfl q2_16.z (by decide) (q2_16.k fun Yi q2_17 => ?_);clear q2_16
 refine q2_17.t (.bool ((((decide (1 ≤ c.F)) && (decide (c.F ≤ 3))) && (decide (1 ≤ c.R))) && (decide (c.R ≤ 256)))) (ex_and rfl (q2_17.a 16 rfl) (q2_17.a 19 rfl) rfl) fun _ q2_18 => ?_;clear q2_17
 refine q2_18.t _ (ex_move rfl (q2_18.e (j:=20) rfl)) fun _ q2_19 => ?_;clear q2_18
 refine vl _ (.pointer (some ⟨w.heap.size,2,none⟩)) (want_g rfl rfl (q2_19.a 21 rfl)) (fun hc => ex_fa rfl (q2_19.e (j:=1) rfl) (faC2 _ _)) rfl q2_19.z (by decide) (q2_19.k fun Yj q2_20 => ?_);clear q2_19;refine vl _ (.int .i64 c.P) (want_g rfl rfl (q2_20.a 21 rfl)) (fun hc => ex_ld rfl (ev (q2_20.a 22 rfl) hc) (ldI8 (cell8 (HC.cell 2 _ rfl) hv0))) rfl q2_20.z (by decide) (q2_20.k fun Yk q2_21 => ?_);clear q2_20;refine vl _ (.bool (decide (6 ≤ c.P))) (want_g rfl rfl (q2_21.a 21 rfl)) (fun hc => ex_bin rfl (ev (q2_21.a 23 rfl) hc) rfl (geqC _ _ _ _ _)) rfl q2_21.z (by decide) (q2_21.k fun Yl q2_22 => ?_);clear q2_21
 refine q2_22.t (.bool (((((decide (1 ≤ c.F)) && (decide (c.F ≤ 3))) && (decide (1 ≤ c.R))) && (decide (c.R ≤ 256))) && (decide (6 ≤ c.P)))) (ex_and rfl (q2_22.a 21 rfl) (q2_22.a 24 rfl) rfl) fun _ q2_23 => ?_;clear q2_22
 refine q2_23.t _ (ex_move rfl (q2_23.e (j:=25) rfl)) fun _ q2_24 => ?_;clear q2_23
 refine vl _ (.pointer (some ⟨w.heap.size,2,none⟩)) (want_g rfl rfl (q2_24.a 26 rfl)) (fun hc => ex_fa rfl (q2_24.e (j:=1) rfl) (faC2 _ _)) rfl q2_24.z (by decide) (q2_24.k fun Ym q2_25 => ?_);clear q2_24;refine vl _ (.int .i64 c.P) (want_g rfl rfl (q2_25.a 26 rfl)) (fun hc => ex_ld rfl (ev (q2_25.a 27 rfl) hc) (ldI8 (cell8 (HC.cell 2 _ rfl) hv0))) rfl q2_25.z (by decide) (q2_25.k fun Yn q2_26 => ?_);clear q2_25;refine vl _ (.bool (decide (c.P ≤ 100))) (want_g rfl rfl (q2_26.a 26 rfl)) (fun hc => ex_bin rfl (ev (q2_26.a 28 rfl) hc) rfl (leqC8 _ _ _ _ _)) rfl q2_26.z (by decide) (q2_26.k fun Yo q2_27 => ?_);clear q2_26
 refine q2_27.t (.bool ((((((decide (1 ≤ c.F)) && (decide (c.F ≤ 3))) && (decide (1 ≤ c.R))) && (decide (c.R ≤ 256))) && (decide (6 ≤ c.P))) && (decide (c.P ≤ 100)))) (ex_and rfl (q2_27.a 26 rfl) (q2_27.a 29 rfl) rfl) fun _ q2_28 => ?_;clear q2_27
 refine q2_28.t _ (ex_assign rfl (q2_28.e (j:=30) rfl)) fun _ q2_29 => ?_;clear q2_28
 have hz:=q2_29.z;have s2:=q2_29.a 2 rfl;clear q2_29;refine wpList_nil ?_
 go_wp2
 refine bodyPost_ret (results_tmp rfl _ _ _) rfl ⟨?_,hB.trans (hv0.mono (by omega))⟩;rw [getD_of s2];rw [show c.okB = (((((((decide (1 ≤ c.F)) && (decide (c.F ≤ 3))) && (decide (1 ≤ c.R))) && (decide (c.R ≤ 256))) && (decide (6 ≤ c.P))) && (decide (c.P ≤ 100)))) from okB_eq9 c]
 rfl
set_option maxHeartbeats 1000000 in
theorem rcheckconfig9 (c : Cg) (w : World)  : Calls Tryz.prog 19 #[c.val] w fun e w' => e = .returned (.int .i64 c.er)∧Below w.heap.size w w':=by
 go_enter Tryz.func19,Tryz.ntmps19
 go_upto_region 0 with fail
 refine wp_region_lit ?_;refine vl_gen (fun T => T.size = 6∧T[0]? = some (gw true (c.val))) ⟨rfl,rfl⟩ (fun Z0 ⟨hz,s0⟩ => ?_)
 obtain ⟨w1,hw1⟩ : ∃ y,y = w.alloc (.cells c.cs.toArray 23):=⟨_,rfl⟩
 have hb : Below w.heap.size w w1:=by rw [hw1];exact (Below.refl _ _).alloc (Nat.le_refl _) _
 have hs1 : w1.heap.size = w.heap.size + 1:=by rw [hw1];simp
 have HC : CB7 w1 (w.heap.size) c:=by rw [hw1];exact BX7.new _ _ _
 refine vw (.pointer (some ⟨w.heap.size,0,none⟩)) w1 (want_none rfl) (ex_box8 rfl (ev s0 rfl) (by rw [hw1];exact bxC7 _ _)) rfl hz (by decide) (fun Z1 zz kk s1x => ?_);clear kk hz s0 hw1;have hz:=zz;have s1:=s1x;clear zz s1x;have hB:=hb;clear hb;have hv0 : Below w1.heap.size w1 w1:=Below.refl _ _;have q3_0:=(Rp.nil hz).cons s1;clear hz s1
 refine q3_0.t (.int .i64 0) (ex_assign rfl rfl) fun _ q3_1 => ?_;clear q3_0
 have hz:=q3_1.z;have s1:=q3_1.a 1 rfl;clear q3_1;refine wpList_nil ?_
 go_upto_region 1 with fail
 refine wp_region_lit ?_;have q4_0:=(Rp.nil hz).cons s1;clear hz s1
 refine q4_0.t (c.val) (ex_ld rfl (q4_0.e (j:=1) rfl) (CB7.ld (HC.bel hv0))) fun _ q4_1 => ?_;clear q4_0
 refine vcall true (.bool c.okB) (want_none rfl) (fun hc => ex_call rfl (by simp only [List.map_toArray,List.map_cons,List.map_nil,(q4_1.e (j:=3) rfl),evc] <;> rfl) rfl) (fun hc => rconfig9 c w1) rfl q4_1.z (by decide) (q4_1.kc fun Ya x1 hb q4_2 => ?_);clear q4_1;have hx1:=hv0.trans (hb.mono hv0.size);clear hb
 refine q4_2.t (.bool (!c.okB)) (ex_not rfl (q4_2.e (j:=4) rfl)) fun _ q4_3 => ?_;clear q4_2
 have hz:=q4_3.z;have s5:=q4_3.a 5 rfl;clear q4_3;refine wpList_nil ?_
 go_upto_region 2 with fail
 cases eo : c.okB
 ·refine wp_cond_true ((ev s5 rfl).trans (by rw [eo];rfl)) ?_
  go_upto_region 2 with fail
  refine wp_region_lit ?_;have q5_0:=Rp.nil hz;clear hz
  refine q5_0.t (.int .i64 1) (ex_assign rfl rfl) fun _ q5_1 => ?_;clear q5_0
  have hz:=q5_1.z;have s2:=q5_1.a 2 rfl;clear q5_1;refine wpList_nil ?_
  go_wp2
  refine bodyPost_ret (results_tmp rfl _ _ _) rfl ⟨?_,hB.trans (hx1.mono (by omega))⟩;rw [getD_of s2]
  unfold Cg.er
  rw [eo]
  rfl
 ·refine wp_cond_false ((ev s5 rfl).trans (by rw [eo];rfl)) ?_
  go_upto_region 3 with fail
  refine wp_region_lit ?_;have q6_0:=Rp.nil hz;clear hz
  refine q6_0.t (.int .i64 0) (ex_assign rfl rfl) fun _ q6_1 => ?_;clear q6_0
  have hz:=q6_1.z;have s2:=q6_1.a 2 rfl;clear q6_1;refine wpList_nil ?_
  go_wp2
  refine bodyPost_ret (results_tmp rfl _ _ _) rfl ⟨?_,hB.trans (hx1.mono (by omega))⟩;rw [getD_of s2]
  unfold Cg.er
  rw [eo]
  rfl
set_option maxHeartbeats 1000000 in
theorem rnodes9 (c : Cg) (w : World)  : Calls Tryz.prog 21 #[c.val] w fun e w' => e = .returned (.int .i64 c.nd)∧Below w.heap.size w w':=by
 go_enter Tryz.func21,Tryz.ntmps21
 go_upto_region 0 with fail
 refine wp_region_lit ?_;refine vl_gen (fun T => T.size = 10∧T[0]? = some (gw true (c.val))) ⟨rfl,rfl⟩ (fun Z0 ⟨hz,s0⟩ => ?_)
 obtain ⟨w1,hw1⟩ : ∃ y,y = w.alloc (.cells c.cs.toArray 23):=⟨_,rfl⟩
 have hb : Below w.heap.size w w1:=by rw [hw1];exact (Below.refl _ _).alloc (Nat.le_refl _) _
 have hs1 : w1.heap.size = w.heap.size + 1:=by rw [hw1];simp
 have HC : CB7 w1 (w.heap.size) c:=by rw [hw1];exact BX7.new _ _ _
 refine vw (.pointer (some ⟨w.heap.size,0,none⟩)) w1 (want_none rfl) (ex_box8 rfl (ev s0 rfl) (by rw [hw1];exact bxC7 _ _)) rfl hz (by decide) (fun Z1 zz kk s1x => ?_);clear kk hz s0 hw1;have hz:=zz;have s1:=s1x;clear zz s1x;have hB:=hb;clear hb;have hv0 : Below w1.heap.size w1 w1:=Below.refl _ _;have q7_0:=(Rp.nil hz).cons s1;clear hz s1
 refine q7_0.t (.int .i64 0) (ex_assign rfl rfl) fun _ q7_1 => ?_;clear q7_0
 have hz:=q7_1.z;have s1:=q7_1.a 1 rfl;clear q7_1;refine wpList_nil ?_
 go_upto_region 1 with fail
 refine wp_region_lit ?_;have q8_0:=(Rp.nil hz).cons s1;clear hz s1
 refine q8_0.t (c.val) (ex_ld rfl (q8_0.e (j:=1) rfl) (CB7.ld (HC.bel hv0))) fun _ q8_1 => ?_;clear q8_0
 refine vcall true (.int .i64 c.er) (want_none rfl) (fun hc => ex_call rfl (by simp only [List.map_toArray,List.map_cons,List.map_nil,(q8_1.e (j:=3) rfl),evc] <;> rfl) rfl) (fun hc => rcheckconfig9 c w1) rfl q8_1.z (by decide) (q8_1.kc fun Ya x1 hb q8_2 => ?_);clear q8_1;have hx1:=hv0.trans (hb.mono hv0.size);clear hb
 refine q8_2.t (.bool (!decide (c.er = 0))) (ex_bin rfl (q8_2.e (j:=4) rfl) rfl (neqC _ _ _ _ _)) fun _ q8_3 => ?_;clear q8_2
 have hz:=q8_3.z;have s1:=q8_3.a 1 rfl;have s5:=q8_3.a 5 rfl;clear q8_3;refine wpList_nil ?_
 go_upto_region 2 with fail
 cases eo : c.okB
 ·refine wp_cond_true ((ev s5 rfl).trans (by unfold Cg.er;rw [eo];rfl)) ?_
  go_upto_region 2 with fail
  refine wp_region_lit ?_;have q9_0:=(Rp.nil hz).cons s1;clear hz s1
  refine q9_0.t (.int .i64 0) (ex_assign rfl rfl) fun _ q9_1 => ?_;clear q9_0
  have hz:=q9_1.z;have s2:=q9_1.a 2 rfl;clear q9_1;refine wpList_nil ?_
  go_wp2
  refine bodyPost_ret (results_tmp rfl _ _ _) rfl ⟨?_,hB.trans (hx1.mono (by omega))⟩;rw [getD_of s2];rw [show c.nd = 0 from by unfold Cg.nd;rw [eo];rfl]
  rfl
 ·refine wp_cond_false ((ev s5 rfl).trans (by unfold Cg.er;rw [eo];rfl)) ?_
  obtain ⟨h1,h2,h3⟩:=Cg.nd_ok eo
  go_upto_region 3 with fail
  refine wp_region_lit ?_;have q10_0:=(Rp.nil hz).cons s1;clear hz s1
  refine q10_0.t (.pointer (some ⟨w.heap.size,0,none⟩)) (ex_fa rfl (q10_0.e (j:=1) rfl) (faC0 _ _)) fun _ q10_1 => ?_;clear q10_0
  refine q10_1.t (.int .i64 c.F) (ex_ld rfl (q10_1.e (j:=6) rfl) (ldI8 (cell8 (HC.cell 0 _ rfl) hx1))) fun _ q10_2 => ?_;clear q10_1
  refine q10_2.t (.int .i64 (2 * c.F)) (ex_bin rfl rfl (q10_2.e (j:=7) rfl) (mulD8 _ _ 2 c.F (2 * c.F) (by rw [IntKind.wrap_i64];omega) _)) fun _ q10_3 => ?_;clear q10_2
  refine q10_3.t (.int .i64 (2 * c.F + 1)) (ex_bin rfl (q10_3.e (j:=8) rfl) rfl (addD8 _ _ (2 * c.F) 1 (2 * c.F + 1) (by rw [IntKind.wrap_i64];omega) _)) fun _ q10_4 => ?_;clear q10_3
  refine q10_4.t _ (ex_assign rfl (q10_4.e (j:=9) rfl)) fun _ q10_5 => ?_;clear q10_4
  have hz:=q10_5.z;have s2:=q10_5.a 2 rfl;clear q10_5;refine wpList_nil ?_
  go_wp2
  refine bodyPost_ret (results_tmp rfl _ _ _) rfl ⟨?_,hB.trans (hx1.mono (by omega))⟩;rw [getD_of s2];rw [h1]
  rfl
set_option maxHeartbeats 1000000 in
theorem rlogged9 (c : Cg) (L : List En) (la : Option Addr) (lc : Nat) (x : Int) (w : World) (hL : SlY yE w la L.length lc L) (hle : ∀ e ∈ L,e.fits) : Calls Tryz.prog 123 #[c.val,.slice la L.length lc,.int .i64 x] w fun e w' => e = .returned (.bool (lgB9 c L x))∧Below w.heap.size w w':=by
 go_enter Tryz.func123,Tryz.ntmps123
 go_upto_region 0 with fail
 refine wp_region_lit ?_;refine vl_gen (fun T => T.size = 22∧T[0]? = some (gw true (c.val))∧T[1]? = some (gw true (.slice la L.length lc))∧T[2]? = some (gw true (.int .i64 x))) ⟨rfl,rfl,rfl,rfl⟩ (fun Z0 ⟨hz,s0,s1,s2⟩ => ?_)
 obtain ⟨w1,hw1⟩ : ∃ y,y = w.alloc (.cells c.cs.toArray 23):=⟨_,rfl⟩
 have hb : Below w.heap.size w w1:=by rw [hw1];exact (Below.refl _ _).alloc (Nat.le_refl _) _
 have hs1 : w1.heap.size = w.heap.size + 1:=by rw [hw1];simp
 have HC : CB7 w1 (w.heap.size) c:=by rw [hw1];exact BX7.new _ _ _
 refine vw (.pointer (some ⟨w.heap.size,0,none⟩)) w1 (want_none rfl) (ex_box8 rfl (ev s0 rfl) (by rw [hw1];exact bxC7 _ _)) rfl hz (by decide) (fun Z1 zz kk s3x => ?_);replace s1:=ku s1;replace s2:=ku s2;clear kk hz s0 hw1;have hz:=zz;have s3:=s3x;clear zz s3x;have hB:=hb;clear hb;have hv0 : Below w1.heap.size w1 w1:=Below.refl _ _;have q15_0:=(((Rp.nil hz).cons s1).cons s2).cons s3;clear hz s1 s2 s3
 refine q15_0.t (.bool false) (ex_assign rfl rfl) fun _ q15_1 => ?_;clear q15_0
 have hz:=q15_1.z;have s1:=q15_1.a 1 rfl;have s2:=q15_1.a 2 rfl;have s3:=q15_1.a 3 rfl;clear q15_1;refine wpList_nil ?_
 go_upto_region 1 with fail
 refine wp_region_lit ?_;have q16_0:=(((Rp.nil hz).cons s1).cons s2).cons s3;clear hz s1 s2 s3
 refine q16_0.t _ (ex_move rfl (q16_0.e (j:=1) rfl)) fun _ q16_1 => ?_;clear q16_0
 refine q16_1.t (.pointer (some ⟨w.heap.size,1,none⟩)) (ex_fa rfl (q16_1.e (j:=3) rfl) (faC1 _ _)) fun _ q16_2 => ?_;clear q16_1
 refine q16_2.t (.int .i64 c.R) (ex_ld rfl (q16_2.e (j:=8) rfl) (ldI8 (cell8 (HC.cell 1 _ rfl) hv0))) fun _ q16_3 => ?_;clear q16_2
 refine vcall true (.int .i64 (lg L c.R)) (want_none rfl) (fun hc => ex_call rfl (by simp only [List.map_toArray,List.map_cons,List.map_nil,(q16_3.e (j:=7) rfl),(q16_3.e (j:=9) rfl),evc] <;> rfl) rfl) (fun hc => reflog_any L la lc c.R w1 (hL.later (hB.trans (hv0.mono (by omega)))) hle) rfl q16_3.z (by decide) (q16_3.kc fun Ya x1 hb q16_4 => ?_);clear q16_3;have hx1:=hv0.trans (hb.mono hv0.size);clear hb
 refine q16_4.t (.bool (decide ((lg L c.R) = 0))) (ex_bin rfl (q16_4.e (j:=10) rfl) rfl (eqlC _ _ _ _ _)) fun _ q16_5 => ?_;clear q16_4
 refine q16_5.t _ (ex_move rfl (q16_5.e (j:=11) rfl)) fun _ q16_6 => ?_;clear q16_5
 refine vl _ (.int .i64 x) (want_g rfl rfl (q16_6.a 12 rfl)) (fun hc => ex_move rfl (q16_6.e (j:=2) rfl)) rfl q16_6.z (by decide) (q16_6.k fun Yb q16_7 => ?_);clear q16_6;refine vl _ (.bool (decide (0 ≤ x))) (want_g rfl rfl (q16_7.a 12 rfl)) (fun hc => ex_bin rfl (ev (q16_7.a 13 rfl) hc) rfl (geqC _ _ _ _ _)) rfl q16_7.z (by decide) (q16_7.k fun Yc q16_8 => ?_);clear q16_7
 refine q16_8.t (.bool ((decide ((lg L c.R) = 0)) && (decide (0 ≤ x)))) (ex_and rfl (q16_8.a 12 rfl) (q16_8.a 14 rfl) rfl) fun _ q16_9 => ?_;clear q16_8
 refine q16_9.t _ (ex_move rfl (q16_9.e (j:=15) rfl)) fun _ q16_10 => ?_;clear q16_9
 refine vl _ (.int .i64 x) (want_g rfl rfl (q16_10.a 16 rfl)) (fun hc => ex_move rfl (q16_10.e (j:=2) rfl)) rfl q16_10.z (by decide) (q16_10.k fun Yd q16_11 => ?_);clear q16_10;refine vl _ (.slice la L.length lc) (want_g rfl rfl (q16_11.a 16 rfl)) (fun hc => ex_move rfl (q16_11.e (j:=1) rfl)) rfl q16_11.z (by decide) (q16_11.k fun Ye q16_12 => ?_);clear q16_11;refine vl _ (.int .i64 (L.length : Int)) (want_g rfl rfl (q16_12.a 16 rfl)) (fun hc => ex_lenE8 rfl rfl (ev (q16_12.a 18 rfl) hc)) rfl q16_12.z (by decide) (q16_12.k fun Yf q16_13 => ?_);clear q16_12;refine vl _ (.bool (decide (x ≤ (L.length : Int)))) (want_g rfl rfl (q16_13.a 16 rfl)) (fun hc => ex_bin rfl (ev (q16_13.a 17 rfl) hc) (ev (q16_13.a 19 rfl) hc) (leqC8 _ _ _ _ _)) rfl q16_13.z (by decide) (q16_13.k fun Yg q16_14 => ?_);clear q16_13
 refine q16_14.t (.bool (((decide ((lg L c.R) = 0)) && (decide (0 ≤ x))) && (decide (x ≤ (L.length : Int))))) (ex_and rfl (q16_14.a 16 rfl) (q16_14.a 20 rfl) rfl) fun _ q16_15 => ?_;clear q16_14
 refine q16_15.t _ (ex_assign rfl (q16_15.e (j:=21) rfl)) fun _ q16_16 => ?_;clear q16_15
 have hz:=q16_16.z;have s6:=q16_16.a 6 rfl;clear q16_16;refine wpList_nil ?_
 go_wp2
 refine bodyPost_ret (results_tmp rfl _ _ _) rfl ⟨?_,hB.trans (hx1.mono (by omega))⟩;rw [getD_of s6]
 rfl
def yI9 : Lay Int:=⟨3,151,1,8,fun x => [.int .i64 x],0⟩
theorem kI9 : yI9.Ok:=⟨by decide,fun x => rfl,fun x u h => by
  simp [yI9] at h
  subst h
  rfl,Tryz.underlying151,⟨.int .i64 0,by kernel_rfl,rfl⟩⟩
def yR9 : Lay (Int × Int):=⟨26,29,2,16,fun d => [.int .u64 d.1,.int .u64 d.2],(0,0)⟩
theorem kR9 : yR9.Ok:=⟨by decide,fun x => rfl,fun x u h => by
  simp [yR9] at h
  rcases h with rfl | rfl <;> rfl,Tryz.underlying29,⟨.agg #[.int .u64 0,.int .u64 0],by kernel_rfl,rfl⟩⟩
theorem ixI9 (q o n c i : Nat) (hi : i < n) (w : World) : (Instr.indexAt 151 (.slice (some ⟨q,o,none⟩) n c) (.int .i64 (i : Int))).run Tryz.prog w = .ok (.pointer (some ⟨q,o + i,none⟩)) w:=by
 have h1 : (i : Int) < (n : Int):=by omega
 go_simp
theorem ixR9 (q o n c i : Nat) (hi : i < n) (w : World) : (Instr.indexAt 29 (.slice (some ⟨q,o,none⟩) n c) (.int .i64 (i : Int))).run Tryz.prog w = .ok (.pointer (some ⟨q,o + i * 2,none⟩)) w:=by
 have h1 : (i : Int) < (n : Int):=by omega
 go_simp
theorem ex_lenI9 {o : Oper} {ρ : Operand → Value} {i : Nat} {a : Option Addr} {n k : Nat} {w : World} (ho : o.op = .call { callee:=.builtin .len,args:=#[.tmp i],argTypes:=#[151] }) (ht : o.type = 3) (hx : ρ (.tmp i) = .slice a n k) : (execOp ρ o).run Tryz.prog w = .ok (.value (.int .i64 (n : Int))) w:=by
 unfold execOp
 simp only [ho,resolve,invoke,builtin,Sem.run_bind,Sem.run_pure,Result.andThen_ok,List.map_toArray,List.map_cons,List.map_nil,hx,ht]
 go_simp
theorem vec_at9 {w : World} {a : Option Addr} {n c : Nat} {V : List (Int × Int)} (h : SlY yD w a n c V) (hne : 0 < n) : ∃ q o,a = some ⟨q,o,none⟩∧∀ k : Int,0 ≤ k → k < (n : Int) → (∀ v,(Instr.indexAt 30 (.slice a n c) (.int .i64 k)).run Tryz.prog v = .ok (.pointer (some ⟨q,o + k.toNat * 2,none⟩)) v)∧∀ v,Below w.heap.size w v → (Instr.loadAt 26 (.pointer (some ⟨q,o + k.toNat * 2,none⟩))).run Tryz.prog v = .ok (.agg #[.int .u64 (V.getD k.toNat (0,0)).1,.int .u64 (V.getD k.toNat (0,0)).2]) v:=by
 have hl:=h.len;obtain ⟨q,o,e,hq,hlie⟩:=h.place (by rintro rfl;simp at hl;omega);refine ⟨q,o,e,fun k h1 h2 => ?_⟩;obtain ⟨q',o',e',hQ⟩:=vec_at8 h ⟨h1,h2⟩;rw [e] at e'
 cases e'
 exact hQ
def z3m : Mk:=⟨0,0,0⟩
def vbad9 (s : Sta) (n : Int) (X : List Mk) (i : Nat) : Bool:=(((decide ((X.getD i z3m).n < 0) || decide (n ≤ (X.getD i z3m).n)) || decide ((X.getD i z3m).n = s.self)) || (decide (0 < (i : Int)) && decide ((X.getD i z3m).n ≤ (X.getD (i - 1) z3m).n))) || (!decide (((X.getD i z3m).h,(X.getD i z3m).l) = s.V.getD (X.getD i z3m).n.toNat (0,0)))
def rv9 (s : Sta) (n : Int) (X : List Mk) : Bool:=(List.range X.length).all fun i => !vbad9 s n X i
theorem rv9_bad {s : Sta} {n : Int} {X : List Mk} {i : Nat} (hi : i < X.length) (h : vbad9 s n X i = true) : rv9 s n X = false:=by
 unfold rv9
 rw [List.all_eq_false]
 exact ⟨i,List.mem_range.2 hi,by rw [h];decide⟩
theorem rv9_ok {s : Sta} {n : Int} {X : List Mk} (h : ∀ i,i < X.length → vbad9 s n X i = false) : rv9 s n X = true:=by
 unfold rv9
 rw [List.all_eq_true];intro i hi;rw [h i (List.mem_range.1 hi)]
 rfl
theorem lie1_9 {α : Type} {Y : Lay α} {w : World} {a : Option Addr} {n c i : Nat} {L : List α} (h : SlY Y w a n c L) (hi : i < n) : ∃ q o x,a = some ⟨q,o,none⟩∧L[i]? = some x∧∀ j,j < n → ∀ y,L[j]? = some y → ∀ k u,(Y.cs y)[k]? = some u → w.cell? ⟨q,o + j * Y.k + k,none⟩ = some u:=by
 have hl:=h.len;obtain ⟨q,o,rfl,hq,hlie⟩:=h.place (by rintro rfl;simp at hl;omega)
 exact ⟨q,o,_,rfl,List.getElem?_eq_getElem (by omega),fun j _ y hy k u hu => hlie j y hy k u hu⟩
theorem and_c9 {a b : Bool} (h : (a && (b == true)) = true) : (true && (b == true)) = true:=by cases a <;> simp_all
set_option maxHeartbeats 1000000 in
theorem rvoters9 (s : Sta) (n : Int) (X : List Mk) (na da : Option Addr) (nc dc : Nat) (w : World) (hI : s.In w) (hn : n = (s.V.length : Int)) (hn1 : 0 < s.V.length) (hN : SlY yI9 w na X.length nc (X.map Mk.n)) (hD : SlY yR9 w da X.length dc (X.map fun x => (x.h,x.l))) : Calls Tryz.prog 173 #[s.val,.int .i64 n,.slice na X.length nc,.slice da X.length dc] w fun e w' => e = .returned (.bool (rv9 s n X))∧Below w.heap.size w w':=by
 go_enter Tryz.func173,Tryz.ntmps173
 go_upto_region 0 with fail
 refine wp_region_lit ?_;refine vl_gen (fun T => T.size = 69∧T[0]? = some (gw true (s.val))∧T[1]? = some (gw true (.int .i64 n))∧T[2]? = some (gw true (.slice na X.length nc))∧T[3]? = some (gw true (.slice da X.length dc))) ⟨rfl,rfl,rfl,rfl,rfl⟩ (fun Z0 ⟨hz,s0,s1,s2,s3⟩ => ?_)
 obtain ⟨w1,hw1⟩ : ∃ y,y = w.alloc (.cells s.cs.toArray 36):=⟨_,rfl⟩
 have hb : Below w.heap.size w w1:=by rw [hw1];exact (Below.refl _ _).alloc (Nat.le_refl _) _
 have hs1 : w1.heap.size = w.heap.size + 1:=by rw [hw1];simp
 have HS : SB7 w1 (w.heap.size) s:=by rw [hw1];exact BX7.new _ _ _
 refine vw (.pointer (some ⟨w.heap.size,0,none⟩)) w1 (want_none rfl) (ex_box8 rfl (ev s0 rfl) (by rw [hw1];exact bxS7 _ _)) rfl hz (by decide) (fun Z1 zz kk s4x => ?_);replace s1:=ku s1;replace s2:=ku s2;replace s3:=ku s3;clear kk hz s0 hw1;have hz:=zz;have s4:=s4x;clear zz s4x;have hB:=hb;clear hb;have hv0 : Below w1.heap.size w1 w1:=Below.refl _ _;have q17_0:=((((Rp.nil hz).cons s1).cons s2).cons s3).cons s4;clear hz s1 s2 s3 s4
 refine q17_0.t (.bool false) (ex_assign rfl rfl) fun _ q17_1 => ?_;clear q17_0
 have hz:=q17_1.z;have s1:=q17_1.a 1 rfl;have s2:=q17_1.a 2 rfl;have s3:=q17_1.a 3 rfl;have s4:=q17_1.a 4 rfl;clear q17_1;refine wpList_nil ?_
 go_upto_region 1 with fail
 refine wp_region_lit ?_;have q18_0:=((((Rp.nil hz).cons s1).cons s2).cons s3).cons s4;clear hz s1 s2 s3 s4
 refine q18_0.t (.int .i64 0) (ex_assign rfl rfl) fun _ q18_1 => ?_;clear q18_0
 have hz:=q18_1.z;have s1:=q18_1.a 1 rfl;have s2:=q18_1.a 2 rfl;have s3:=q18_1.a 3 rfl;have s4:=q18_1.a 4 rfl;have s9:=q18_1.a 9 rfl;clear q18_1;refine wpList_nil ?_;have HI:=hI.later hB;have hN:=hN.later hB;have hD:=hD.later hB;have hmx:=hN.max;have hcp:=hN.cap
 unfold maxLen at hmx
 have hs9 : _ = some (gw true (.int .i64 ((0 : Nat) : Int))):=s9
 go_upto_region 2 with fail
 refine v_loop 9 X.length (fun i T wr => T.size = 69∧T[1]? = some (gw true (.int .i64 n))∧T[2]? = some (gw true (.slice na X.length nc))∧T[3]? = some (gw true (.slice da X.length dc))∧T[4]? = some (gw true (.pointer (some ⟨w.heap.size,0,none⟩)))∧T[9]? = some (gw true (.int .i64 (i : Int)))∧Hid (Below w1.heap.size w1 wr∧∀ k,k < i → vbad9 s n X k = false)) (fun i T w h => h.2.2.2.2.2.1) ⟨hz,s1,s2,s3,s4,hs9,Below.refl _ _,fun k hk => absurd hk (Nat.not_lt_zero _)⟩ ?_;clear hz s1 s2 s3 s4 s9 hs9;intro i R0 wr hi hh;obtain ⟨hz,s1,s2,s3,s4,s9,HJ⟩:=hh;have hbr:=HJ.out.1
 by_cases hit : i < X.length
 ·have d1 : decide ((i : Int) < (X.length : Int)) = true:=decide_eq_true (by omega)
  go_upto_region 2 with fail
  refine wp_region_lit ?_;have q19_0:=(((((Rp.nil hz).cons s1).cons s2).cons s3).cons s4).cons s9;clear hz s1 s2 s3 s4 s9
  refine q19_0.t _ (ex_move rfl (q19_0.e (j:=9) rfl)) fun _ q19_1 => ?_;clear q19_0
  refine q19_1.t _ (ex_move rfl (q19_1.e (j:=2) rfl)) fun _ q19_2 => ?_;clear q19_1
  refine q19_2.t (.int .i64 (X.length : Int)) (ex_lenI9 rfl rfl (q19_2.e (j:=11) rfl)) fun _ q19_3 => ?_;clear q19_2
  refine q19_3.t (.bool true) (ex_bin rfl (q19_3.e (j:=10) rfl) (q19_3.e (j:=12) rfl) (lssD8 _ _ _ _ true d1 _)) fun _ q19_4 => ?_;clear q19_3
  have hz:=q19_4.z;have s1:=q19_4.a 1 rfl;have s2:=q19_4.a 2 rfl;have s3:=q19_4.a 3 rfl;have s4:=q19_4.a 4 rfl;have s9:=q19_4.a 9 rfl;have s13:=q19_4.a 13 rfl;clear q19_4;refine wpList_nil ?_
  go_upto_region 4 with fail
  refine wp_cond_true ((ev s13 rfl).trans rfl) ?_;clear s13 d1
  obtain ⟨x,hx⟩ : ∃ x,x = X.getD i z3m:=⟨_,rfl⟩
  obtain ⟨y,hy⟩ : ∃ y,y = X.getD (i - 1) z3m:=⟨_,rfl⟩
  have hxi : X[i]? = some x:=by rw [hx];simp [List.getD,List.getElem?_eq_getElem hit]
  have hyi : X[i - 1]? = some y:=by rw [hy];simp [List.getD,List.getElem?_eq_getElem (show i - 1 < X.length by omega)]
  obtain ⟨qn,on,_,rfl,_,ln⟩:=lie1_9 hN hit;obtain ⟨qd,od,_,rfl,_,ldd⟩:=lie1_9 hD hit
  have e1 : w1.cell? ⟨qn,on + i,none⟩ = some (.int .i64 x.n):=by have h:=ln i hit x.n (by rw [List.getElem?_map,hxi];rfl) 0 _ rfl;rw [show on + i * yI9.k + 0 = on + i by show on + i * 1 + 0 = _;omega] at h;exact h
  have e2 : w1.cell? ⟨qn,on + (i - 1),none⟩ = some (.int .i64 y.n):=by have h:=ln (i - 1) (by omega) y.n (by rw [List.getElem?_map,hyi];rfl) 0 _ rfl;rw [show on + (i - 1) * yI9.k + 0 = on + (i - 1) by show on + (i - 1) * 1 + 0 = _;omega] at h;exact h
  have e3 : w1.cell? ⟨qd,od + i * 2,none⟩ = some (.int .u64 x.h):=ldd i hit (x.h,x.l) (by rw [List.getElem?_map,hxi];rfl) 0 _ rfl;have e4 : w1.cell? ⟨qd,od + i * 2 + 1,none⟩ = some (.int .u64 x.l):=ldd i hit (x.h,x.l) (by rw [List.getElem?_map,hxi];rfl) 1 _ rfl;obtain ⟨qv,ov,hva,HV⟩:=vec_at9 HI.v hn1
  have g1 : (true && (decide ((0 : Int) < (i : Int)) == true)) = true → 0 < i:=fun h => by simpa using h
  have gd9 : ∀ {b : Bool},(b && ((((decide (x.n < 0) || decide (n ≤ x.n)) || decide (x.n = s.self)) || (decide (0 < (i : Int)) && decide (x.n ≤ y.n))) == false)) = true → 0 ≤ x.n∧x.n < n:=fun h => by
   simp only [Bool.and_eq_true,beq_iff_eq,Bool.or_eq_false_iff,decide_eq_false_iff_not] at h
   omega
  go_upto_region 4 with fail
  refine vq_start (C:=fun v => Below w1.heap.size w1 v) (by kernel_rfl) (by kernel_rfl) hbr.drew ?_;have q20_0:=(((((Rp.nil hz).cons s1).cons s2).cons s3).cons s4).cons s9;clear hz s1 s2 s3 s4 s9
  refine q20_0.q _ (fun v hv => ex_move rfl (q20_0.e (j:=2) rfl)) fun _ q20_1 => ?_;clear q20_0
  refine q20_1.q _ (fun v hv => ex_move rfl (q20_1.e (j:=9) rfl)) fun _ q20_2 => ?_;clear q20_1
  refine q20_2.q (.pointer (some ⟨qn,on + i,none⟩)) (fun v hv => ex_ix rfl (q20_2.e (j:=16) rfl) (q20_2.e (j:=17) rfl) (ixI9 qn on X.length nc i hit _)) fun _ q20_3 => ?_;clear q20_2
  refine q20_3.q (.int .i64 x.n) (fun v hv => ex_ld rfl (q20_3.e (j:=18) rfl) (ldI8 (cell8 e1 hv))) fun _ q20_4 => ?_;clear q20_3
  refine q20_4.q (.bool (decide (x.n < 0))) (fun v hv => ex_bin rfl (q20_4.e (j:=19) rfl) rfl (lssC _ _ _ _ _)) fun _ q20_5 => ?_;clear q20_4
  refine q20_5.q _ (fun v hv => ex_move rfl (q20_5.e (j:=20) rfl)) fun _ q20_6 => ?_;clear q20_5
  refine vq _ (.slice (some ⟨qn,on,none⟩) X.length nc) (want_g rfl rfl (q20_6.a 21 rfl)) (fun hc v hv => ex_move rfl (q20_6.e (j:=2) rfl)) rfl q20_6.z (by decide) (q20_6.k fun Ya q20_7 => ?_);clear q20_6;refine vq _ (.int .i64 (i : Int)) (want_g rfl rfl (q20_7.a 21 rfl)) (fun hc v hv => ex_move rfl (q20_7.e (j:=9) rfl)) rfl q20_7.z (by decide) (q20_7.k fun Yb q20_8 => ?_);clear q20_7;refine vq _ (.pointer (some ⟨qn,on + i,none⟩)) (want_g rfl rfl (q20_8.a 21 rfl)) (fun hc v hv => ex_ix rfl (ev (q20_8.a 22 rfl) hc) (ev (q20_8.a 23 rfl) hc) (ixI9 qn on X.length nc i hit _)) rfl q20_8.z (by decide) (q20_8.k fun Yc q20_9 => ?_);clear q20_8;refine vq _ (.int .i64 x.n) (want_g rfl rfl (q20_9.a 21 rfl)) (fun hc v hv => ex_ld rfl (ev (q20_9.a 24 rfl) hc) (ldI8 (cell8 e1 hv))) rfl q20_9.z (by decide) (q20_9.k fun Yd q20_10 => ?_);clear q20_9;refine vq _ (.int .i64 n) (want_g rfl rfl (q20_10.a 21 rfl)) (fun hc v hv => ex_move rfl (q20_10.e (j:=1) rfl)) rfl q20_10.z (by decide) (q20_10.k fun Ye q20_11 => ?_);clear q20_10;refine vq _ (.bool (decide (n ≤ x.n))) (want_g rfl rfl (q20_11.a 21 rfl)) (fun hc v hv => ex_bin rfl (ev (q20_11.a 25 rfl) hc) (ev (q20_11.a 26 rfl) hc) (geqC _ _ _ _ _)) rfl q20_11.z (by decide) (q20_11.k fun Yf q20_12 => ?_);clear q20_11
  refine q20_12.q (.bool ((decide (x.n < 0)) || (decide (n ≤ x.n)))) (fun v hv => ex_or rfl (q20_12.a 21 rfl) (q20_12.a 27 rfl) rfl) fun _ q20_13 => ?_;clear q20_12
  refine q20_13.q _ (fun v hv => ex_move rfl (q20_13.e (j:=28) rfl)) fun _ q20_14 => ?_;clear q20_13
  refine vq _ (.slice (some ⟨qn,on,none⟩) X.length nc) (want_g rfl rfl (q20_14.a 29 rfl)) (fun hc v hv => ex_move rfl (q20_14.e (j:=2) rfl)) rfl q20_14.z (by decide) (q20_14.k fun Yg q20_15 => ?_);clear q20_14;refine vq _ (.int .i64 (i : Int)) (want_g rfl rfl (q20_15.a 29 rfl)) (fun hc v hv => ex_move rfl (q20_15.e (j:=9) rfl)) rfl q20_15.z (by decide) (q20_15.k fun Yh q20_16 => ?_);clear q20_15;refine vq _ (.pointer (some ⟨qn,on + i,none⟩)) (want_g rfl rfl (q20_16.a 29 rfl)) (fun hc v hv => ex_ix rfl (ev (q20_16.a 30 rfl) hc) (ev (q20_16.a 31 rfl) hc) (ixI9 qn on X.length nc i hit _)) rfl q20_16.z (by decide) (q20_16.k fun Yi q20_17 => ?_);clear q20_16;refine vq _ (.int .i64 x.n) (want_g rfl rfl (q20_17.a 29 rfl)) (fun hc v hv => ex_ld rfl (ev (q20_17.a 32 rfl) hc) (ldI8 (cell8 e1 hv))) rfl q20_17.z (by decide) (q20_17.k fun Yj q20_18 => ?_);clear q20_17;refine vq _ (.pointer (some ⟨w.heap.size,0,none⟩)) (want_g rfl rfl (q20_18.a 29 rfl)) (fun hc v hv => ex_fa rfl (q20_18.e (j:=4) rfl) (faS0 _ _)) rfl q20_18.z (by decide) (q20_18.k fun Yk q20_19 => ?_);clear q20_18;refine vq _ (.int .i64 s.self) (want_g rfl rfl (q20_19.a 29 rfl)) (fun hc v hv => ex_ld rfl (ev (q20_19.a 34 rfl) hc) (ldI8 (cell8 (HS.cell 0 _ rfl) hv))) rfl q20_19.z (by decide) (q20_19.k fun Yl q20_20 => ?_);clear q20_19;refine vq _ (.bool (decide (x.n = s.self))) (want_g rfl rfl (q20_20.a 29 rfl)) (fun hc v hv => ex_bin rfl (ev (q20_20.a 33 rfl) hc) (ev (q20_20.a 35 rfl) hc) (eqlC _ _ _ _ _)) rfl q20_20.z (by decide) (q20_20.k fun Ym q20_21 => ?_);clear q20_20
  refine q20_21.q (.bool (((decide (x.n < 0)) || (decide (n ≤ x.n))) || (decide (x.n = s.self)))) (fun v hv => ex_or rfl (q20_21.a 29 rfl) (q20_21.a 36 rfl) rfl) fun _ q20_22 => ?_;clear q20_21
  refine q20_22.q _ (fun v hv => ex_move rfl (q20_22.e (j:=37) rfl)) fun _ q20_23 => ?_;clear q20_22
  refine vq _ (.int .i64 (i : Int)) (want_g rfl rfl (q20_23.a 38 rfl)) (fun hc v hv => ex_move rfl (q20_23.e (j:=9) rfl)) rfl q20_23.z (by decide) (q20_23.k fun Yn q20_24 => ?_);clear q20_23;refine vq _ (.bool (decide (0 < (i : Int)))) (want_g rfl rfl (q20_24.a 38 rfl)) (fun hc v hv => ex_bin rfl (ev (q20_24.a 39 rfl) hc) rfl (gtrC _ _ _ _ _)) rfl q20_24.z (by decide) (q20_24.k fun Yo q20_25 => ?_);clear q20_24;refine vq _ (.bool (decide (0 < (i : Int)))) (want_g rfl rfl (q20_25.a 38 rfl)) (fun hc v hv => ex_move rfl (ev (q20_25.a 40 rfl) hc)) rfl q20_25.z (by decide) (q20_25.k fun Yp q20_26 => ?_);clear q20_25;refine vq ((true && ((((decide (x.n < 0)) || (decide (n ≤ x.n))) || (decide (x.n = s.self))) == false)) && ((decide (0 < (i : Int))) == true)) (.slice (some ⟨qn,on,none⟩) X.length nc) (want_g rfl rfl (q20_26.a 41 rfl)) (fun hc v hv => ex_move rfl (q20_26.e (j:=2) rfl)) rfl q20_26.z (by decide) (q20_26.k fun Yq q20_27 => ?_);clear q20_26;refine vq ((true && ((((decide (x.n < 0)) || (decide (n ≤ x.n))) || (decide (x.n = s.self))) == false)) && ((decide (0 < (i : Int))) == true)) (.int .i64 (i : Int)) (want_g rfl rfl (q20_27.a 41 rfl)) (fun hc v hv => ex_move rfl (q20_27.e (j:=9) rfl)) rfl q20_27.z (by decide) (q20_27.k fun Yr q20_28 => ?_);clear q20_27;refine vq ((true && ((((decide (x.n < 0)) || (decide (n ≤ x.n))) || (decide (x.n = s.self))) == false)) && ((decide (0 < (i : Int))) == true)) (.pointer (some ⟨qn,on + i,none⟩)) (want_g rfl rfl (q20_28.a 41 rfl)) (fun hc v hv => ex_ix rfl (ev (q20_28.a 42 rfl) hc) (ev (q20_28.a 43 rfl) hc) (ixI9 qn on X.length nc i hit _)) rfl q20_28.z (by decide) (q20_28.k fun Ys q20_29 => ?_);clear q20_28;refine vq ((true && ((((decide (x.n < 0)) || (decide (n ≤ x.n))) || (decide (x.n = s.self))) == false)) && ((decide (0 < (i : Int))) == true)) (.int .i64 x.n) (want_g rfl rfl (q20_29.a 41 rfl)) (fun hc v hv => ex_ld rfl (ev (q20_29.a 44 rfl) hc) (ldI8 (cell8 e1 hv))) rfl q20_29.z (by decide) (q20_29.k fun Yt q20_30 => ?_);clear q20_29;refine vq ((true && ((((decide (x.n < 0)) || (decide (n ≤ x.n))) || (decide (x.n = s.self))) == false)) && ((decide (0 < (i : Int))) == true)) (.slice (some ⟨qn,on,none⟩) X.length nc) (want_g rfl rfl (q20_30.a 41 rfl)) (fun hc v hv => ex_move rfl (q20_30.e (j:=2) rfl)) rfl q20_30.z (by decide) (q20_30.k fun Yu q20_31 => ?_);clear q20_30;refine vq ((true && ((((decide (x.n < 0)) || (decide (n ≤ x.n))) || (decide (x.n = s.self))) == false)) && ((decide (0 < (i : Int))) == true)) (.int .i64 (i : Int)) (want_g rfl rfl (q20_31.a 41 rfl)) (fun hc v hv => ex_move rfl (q20_31.e (j:=9) rfl)) rfl q20_31.z (by decide) (q20_31.k fun Yv q20_32 => ?_);clear q20_31;refine vq ((true && ((((decide (x.n < 0)) || (decide (n ≤ x.n))) || (decide (x.n = s.self))) == false)) && ((decide (0 < (i : Int))) == true)) (.int .i64 ((i - 1 : Nat) : Int)) (want_g rfl rfl (q20_32.a 41 rfl)) (fun hc v hv => ex_bin rfl (ev (q20_32.a 47 rfl) hc) rfl (subD8 _ _ _ 1 ((i - 1 : Nat) : Int) (by have:=g1 (by first | exact hc | exact and_c9 hc);rw [IntKind.wrap_i64];omega) _)) rfl q20_32.z (by decide) (q20_32.k fun Yw q20_33 => ?_);clear q20_32;refine vq ((true && ((((decide (x.n < 0)) || (decide (n ≤ x.n))) || (decide (x.n = s.self))) == false)) && ((decide (0 < (i : Int))) == true)) (.pointer (some ⟨qn,on + (i - 1),none⟩)) (want_g rfl rfl (q20_33.a 41 rfl)) (fun hc v hv => ex_ix rfl (ev (q20_33.a 46 rfl) hc) (ev (q20_33.a 48 rfl) hc) (ixI9 qn on X.length nc (i - 1) (by omega) _)) rfl q20_33.z (by decide) (q20_33.k fun Yx q20_34 => ?_);clear q20_33;refine vq ((true && ((((decide (x.n < 0)) || (decide (n ≤ x.n))) || (decide (x.n = s.self))) == false)) && ((decide (0 < (i : Int))) == true)) (.int .i64 y.n) (want_g rfl rfl (q20_34.a 41 rfl)) (fun hc v hv => ex_ld rfl (ev (q20_34.a 49 rfl) hc) (ldI8 (cell8 e2 hv))) rfl q20_34.z (by decide) (q20_34.k fun Yy q20_35 => ?_);clear q20_34;refine vq ((true && ((((decide (x.n < 0)) || (decide (n ≤ x.n))) || (decide (x.n = s.self))) == false)) && ((decide (0 < (i : Int))) == true)) (.bool (decide (x.n ≤ y.n))) (want_g rfl rfl (q20_35.a 41 rfl)) (fun hc v hv => ex_bin rfl (ev (q20_35.a 45 rfl) hc) (ev (q20_35.a 50 rfl) hc) (leqC8 _ _ _ _ _)) rfl q20_35.z (by decide) (q20_35.k fun Yz q20_36 => ?_);clear q20_35;refine vq _ (.bool ((decide (0 < (i : Int))) && (decide (x.n ≤ y.n)))) (want_g rfl rfl (q20_36.a 38 rfl)) (fun hc v hv => ex_and rfl (q20_36.a 41 rfl) (q20_36.a 51 rfl) hc) rfl q20_36.z (by decide) (q20_36.k fun Y0 q20_37 => ?_);clear q20_36
  refine q20_37.q (.bool ((((decide (x.n < 0)) || (decide (n ≤ x.n))) || (decide (x.n = s.self))) || ((decide (0 < (i : Int))) && (decide (x.n ≤ y.n))))) (fun v hv => ex_or rfl (q20_37.a 38 rfl) (q20_37.a 52 rfl) rfl) fun _ q20_38 => ?_;clear q20_37
  refine q20_38.q _ (fun v hv => ex_move rfl (q20_38.e (j:=53) rfl)) fun _ q20_39 => ?_;clear q20_38
  refine vq _ (.slice (some ⟨qd,od,none⟩) X.length dc) (want_g rfl rfl (q20_39.a 54 rfl)) (fun hc v hv => ex_move rfl (q20_39.e (j:=3) rfl)) rfl q20_39.z (by decide) (q20_39.k fun Y1 q20_40 => ?_);clear q20_39;refine vq _ (.int .i64 (i : Int)) (want_g rfl rfl (q20_40.a 54 rfl)) (fun hc v hv => ex_move rfl (q20_40.e (j:=9) rfl)) rfl q20_40.z (by decide) (q20_40.k fun Y2 q20_41 => ?_);clear q20_40;refine vq _ (.pointer (some ⟨qd,od + i * 2,none⟩)) (want_g rfl rfl (q20_41.a 54 rfl)) (fun hc v hv => ex_ix rfl (ev (q20_41.a 55 rfl) hc) (ev (q20_41.a 56 rfl) hc) (ixR9 qd od X.length dc i hit _)) rfl q20_41.z (by decide) (q20_41.k fun Y3 q20_42 => ?_);clear q20_41;refine vq _ (.agg #[.int .u64 x.h,.int .u64 x.l]) (want_g rfl rfl (q20_42.a 54 rfl)) (fun hc v hv => ex_ld rfl (ev (q20_42.a 57 rfl) hc) (ldDr8 (d:=(x.h,x.l)) (cell8 e3 hv) (cell8 e4 hv))) rfl q20_42.z (by decide) (q20_42.k fun Y4 q20_43 => ?_);clear q20_42;refine vq _ (.pointer (some ⟨w.heap.size,6,none⟩)) (want_g rfl rfl (q20_43.a 54 rfl)) (fun hc v hv => ex_fa rfl (q20_43.e (j:=4) rfl) (faS6 _ _)) rfl q20_43.z (by decide) (q20_43.k fun Y5 q20_44 => ?_);clear q20_43;refine vq _ (.slice s.va s.V.length s.vc) (want_g rfl rfl (q20_44.a 54 rfl)) (fun hc v hv => ex_ld rfl (ev (q20_44.a 59 rfl) hc) (ldV8 (cell8 (HS.cell 6 _ rfl) hv))) rfl q20_44.z (by decide) (q20_44.k fun Y6 q20_45 => ?_);clear q20_44;refine vq _ (.slice (some ⟨qn,on,none⟩) X.length nc) (want_g rfl rfl (q20_45.a 54 rfl)) (fun hc v hv => ex_move rfl (q20_45.e (j:=2) rfl)) rfl q20_45.z (by decide) (q20_45.k fun Y7 q20_46 => ?_);clear q20_45;refine vq _ (.int .i64 (i : Int)) (want_g rfl rfl (q20_46.a 54 rfl)) (fun hc v hv => ex_move rfl (q20_46.e (j:=9) rfl)) rfl q20_46.z (by decide) (q20_46.k fun Y8 q20_47 => ?_);clear q20_46;refine vq _ (.pointer (some ⟨qn,on + i,none⟩)) (want_g rfl rfl (q20_47.a 54 rfl)) (fun hc v hv => ex_ix rfl (ev (q20_47.a 61 rfl) hc) (ev (q20_47.a 62 rfl) hc) (ixI9 qn on X.length nc i hit _)) rfl q20_47.z (by decide) (q20_47.k fun Y9 q20_48 => ?_);clear q20_47;refine vq _ (.int .i64 x.n) (want_g rfl rfl (q20_48.a 54 rfl)) (fun hc v hv => ex_ld rfl (ev (q20_48.a 63 rfl) hc) (ldI8 (cell8 e1 hv))) rfl q20_48.z (by decide) (q20_48.k fun Yba q20_49 => ?_);clear q20_48;refine vq _ (.pointer (some ⟨qv,ov + x.n.toNat * 2,none⟩)) (want_g rfl rfl (q20_49.a 54 rfl)) (fun hc v hv => ex_ix rfl (ev (q20_49.a 60 rfl) hc) (ev (q20_49.a 64 rfl) hc) ((HV x.n (gd9 hc).1 (by have:=(gd9 hc).2;omega)).1 _)) rfl q20_49.z (by decide) (q20_49.k fun Ybb q20_50 => ?_);clear q20_49;refine vq _ (.agg #[.int .u64 (s.V.getD x.n.toNat (0,0)).1,.int .u64 (s.V.getD x.n.toNat (0,0)).2]) (want_g rfl rfl (q20_50.a 54 rfl)) (fun hc v hv => ex_ld rfl (ev (q20_50.a 65 rfl) hc) ((HV x.n (gd9 hc).1 (by have:=(gd9 hc).2;omega)).2 _ hv)) rfl q20_50.z (by decide) (q20_50.k fun Ybc q20_51 => ?_);clear q20_50;refine vq _ (.bool (!decide ((x.h,x.l) = (s.V.getD x.n.toNat (0,0))))) (want_g rfl rfl (q20_51.a 54 rfl)) (fun hc v hv => ex_bin rfl (ev (q20_51.a 58 rfl) hc) (ev (q20_51.a 66 rfl) hc) (neqDr7 _ _ (x.h,x.l) (s.V.getD x.n.toNat (0,0)) _)) rfl q20_51.z (by decide) (q20_51.k fun Ybd q20_52 => ?_);clear q20_51
  refine q20_52.q (.bool (((((decide (x.n < 0)) || (decide (n ≤ x.n))) || (decide (x.n = s.self))) || ((decide (0 < (i : Int))) && (decide (x.n ≤ y.n)))) || (!decide ((x.h,x.l) = (s.V.getD x.n.toNat (0,0)))))) (fun v hv => ex_or rfl (q20_52.a 54 rfl) (q20_52.a 67 rfl) rfl) fun _ q20_53 => ?_;clear q20_52
  have hz:=q20_53.z;have s1:=q20_53.a 1 rfl;have s2:=q20_53.a 2 rfl;have s3:=q20_53.a 3 rfl;have s4:=q20_53.a 4 rfl;have s9:=q20_53.a 9 rfl;have s68:=q20_53.a 68 rfl;clear q20_53;refine vq_nil (fun x1 hx1 => ?_)
  have ee : ((((((decide (x.n < 0)) || (decide (n ≤ x.n))) || (decide (x.n = s.self))) || ((decide (0 < (i : Int))) && (decide (x.n ≤ y.n)))) || (!decide ((x.h,x.l) = (s.V.getD x.n.toNat (0,0)))))) = vbad9 s n X i:=by unfold vbad9;rw [← hx,← hy]
  go_upto_region 5 with fail
  cases eb : vbad9 s n X i
  rotate_left
  ·refine wp_cond_true ((ev s68 rfl).trans (by rw [ee,eb])) ?_
   go_upto_region 5 with fail
   refine wp_region_lit ?_;have q21_0:=(((((Rp.nil hz).cons s1).cons s2).cons s3).cons s4).cons s9;clear hz s1 s2 s3 s4 s9
   refine q21_0.t (.bool false) (ex_assign rfl rfl) fun _ q21_1 => ?_;clear q21_0
   have hz:=q21_1.z;have s8:=q21_1.a 8 rfl;clear q21_1;refine wpList_nil ?_;have HR:=hide (rv9_bad hit eb)
   go_wp2
   refine bodyPost_ret (results_tmp rfl _ _ _) rfl ⟨?_,hB.trans (hx1.mono (by omega))⟩;rw [getD_of s8,HR.out]
   rfl
  refine wp_cond_false ((ev s68 rfl).trans (by rw [ee,eb])) ?_;clear s68
  go_upto_region 3 with fail
  refine wp_region_lit ?_;have q22_0:=(((((Rp.nil hz).cons s1).cons s2).cons s3).cons s4).cons s9;clear hz s1 s2 s3 s4 s9
  refine q22_0.t _ (ex_move rfl (q22_0.e (j:=9) rfl)) fun _ q22_1 => ?_;clear q22_0
  refine q22_1.t (.int .i64 ((i + 1 : Nat) : Int)) (ex_bin rfl (q22_1.e (j:=14) rfl) rfl (addD8 _ _ _ 1 ((i + 1 : Nat) : Int) (by rw [IntKind.wrap_i64];omega) _)) fun _ q22_2 => ?_;clear q22_1
  refine q22_2.t _ (ex_assign rfl (q22_2.e (j:=15) rfl)) fun _ q22_3 => ?_;clear q22_2
  have hz:=q22_3.z;have s1:=q22_3.a 1 rfl;have s2:=q22_3.a 2 rfl;have s3:=q22_3.a 3 rfl;have s4:=q22_3.a 4 rfl;have s9:=q22_3.a 9 rfl;clear q22_3;refine wpList_nil ?_
  exact ⟨_,rfl,by omega,hz,s1,s2,s3,s4,s9,hx1,fun k hk => by
   by_cases e : k = i
   ·subst e;exact eb
   ·exact HJ.out.2 k (by omega)⟩
 ·have d1 : decide ((i : Int) < (X.length : Int)) = false:=decide_eq_false (by omega)
  go_upto_region 2 with fail
  refine wp_region_lit ?_;have q23_0:=(((((Rp.nil hz).cons s1).cons s2).cons s3).cons s4).cons s9;clear hz s1 s2 s3 s4 s9
  refine q23_0.t _ (ex_move rfl (q23_0.e (j:=9) rfl)) fun _ q23_1 => ?_;clear q23_0
  refine q23_1.t _ (ex_move rfl (q23_1.e (j:=2) rfl)) fun _ q23_2 => ?_;clear q23_1
  refine q23_2.t (.int .i64 (X.length : Int)) (ex_lenI9 rfl rfl (q23_2.e (j:=11) rfl)) fun _ q23_3 => ?_;clear q23_2
  refine q23_3.t (.bool false) (ex_bin rfl (q23_3.e (j:=10) rfl) (q23_3.e (j:=12) rfl) (lssD8 _ _ _ _ false d1 _)) fun _ q23_4 => ?_;clear q23_3
  have hz:=q23_4.z;have s13:=q23_4.a 13 rfl;clear q23_4;refine wpList_nil ?_
  go_upto_region 6 with fail
  refine wp_cond_false ((ev s13 rfl).trans rfl) ?_;clear s13 d1
  go_upto_region 6 with fail
  refine wp_region_lit ?_;have q24_0:=Rp.nil hz;clear hz
  refine q24_0.t (.bool true) (ex_assign rfl rfl) fun _ q24_1 => ?_;clear q24_0
  have hz:=q24_1.z;have s8:=q24_1.a 8 rfl;clear q24_1;refine wpList_nil ?_;have HR:=hide (rv9_ok (s:=s) (n:=n) (X:=X) (fun k hk => HJ.out.2 k (by omega)))
  go_wp2
  refine bodyPost_ret (results_tmp rfl _ _ _) rfl ⟨?_,hB.trans (hbr.mono (by omega))⟩;rw [getD_of s8,HR.out]
  rfl
end Go.Proofs.YtgncpcfncojgoaaGreatDoor
