import Derived.Test.YtgncpcfncojgoaaGreatDoorF13
set_option maxRecDepth 100000
set_option linter.unusedVariables false
set_option linter.unusedSimpArgs false
namespace Go.Proofs.YtgncpcfncojgoaaGreatDoor
open Go.RowKit Go.Maps Go.Shelf
open Classical
structure Vo9 where
 n : Int
 a : Option Addr
 c : Nat
 D : List (Int × Int)
def Vo9.cs (x : Vo9) : List Value:=[.int .i64 x.n,.slice x.a x.D.length x.c]
def Vo9.val (x : Vo9) : Value:=.agg #[.int .i64 x.n,.slice x.a x.D.length x.c]
abbrev VB9 (w : World) (q : Nat) (x : Vo9) : Prop:=BX7 w q x.cs
theorem bxV9 (x : Vo9) (w : World) : (Instr.box 106 x.val).run Tryz.prog w = .ok (.pointer (some ⟨w.heap.size,0,none⟩)) (w.alloc (.cells x.cs.toArray 106)):=rfl
theorem VB9.ld {w : World} {q : Nat} {x : Vo9} (h : VB9 w q x) : (Instr.loadAt 106 (.pointer (some ⟨q,0,none⟩))).run Tryz.prog w = .ok x.val w:=by
 have h0:=h.cell 0 _ rfl;have h1:=h.cell 1 _ rfl
 unfold Vo9.val
 clear h
 go_simp
theorem faV9_0 (q : Nat) (w : World) : (Instr.fieldAt 106 (.pointer (some ⟨q,0,none⟩)) 0).run Tryz.prog w = .ok (.pointer (some ⟨q,0,none⟩)) w:=by go_simp
theorem faV9_1 (q : Nat) (w : World) : (Instr.fieldAt 106 (.pointer (some ⟨q,0,none⟩)) 1).run Tryz.prog w = .ok (.pointer (some ⟨q,1,none⟩)) w:=by go_simp
def vmB9 (x : Vo9) : Bool:=inB (x.D.length : Int) 1 7 && (decide (0 ≤ x.n) && decide (x.n < (x.D.length : Int)))
def ovB9 (V : List (Int × Int)) (x : Vo9) : Bool:=(vmB9 x && decide ((V.length : Int) = (x.D.length : Int))) && decide (0 < cmpD (V.getD x.n.toNat (0,0)).1 (V.getD x.n.toNat (0,0)).2 (x.D.getD x.n.toNat (0,0)).1 (x.D.getD x.n.toNat (0,0)).2)
theorem vm_of9 {V : List (Int × Int)} {x : Vo9} (h : (vmB9 x && decide ((V.length : Int) = (x.D.length : Int))) = true) : (0 ≤ x.n∧x.n < (x.D.length : Int))∧(0 ≤ x.n∧x.n < (V.length : Int)):=by
 simp only [vmB9,Bool.and_eq_true,decide_eq_true_eq] at h
 omega
set_option maxHeartbeats 1000000 in
theorem groupmay9 (n : Int) (w : World)  : Calls Tryz.prog 163 #[.int .i64 n] w fun e w' => e = .returned (.bool (inB n 1 7))∧Below w.heap.size w w':=by
 go_enter Tryz.func163,Tryz.ntmps163
 go_upto_region 0 with fail
 refine wp_region_lit ?_;refine vl_gen (fun T => T.size = 9∧T[0]? = some (gw true (.int .i64 n))) ⟨rfl,rfl⟩ (fun Z0 ⟨hz,s0⟩ => ?_);have hB : Below w.heap.size w w:=Below.refl _ _;have hv0 : Below w.heap.size w w:=Below.refl _ _;have q1_0:=(Rp.nil hz).cons s0;clear hz s0
 refine q1_0.t (.bool false) (ex_assign rfl rfl) fun _ q1_1 => ?_;clear q1_0
 have hz:=q1_1.z;have s0:=q1_1.a 0 rfl;clear q1_1;refine wpList_nil ?_
 go_upto_region 1 with fail
 refine wp_region_lit ?_;have q2_0:=(Rp.nil hz).cons s0;clear hz s0
 refine q2_0.t _ (ex_move rfl (q2_0.e (j:=0) rfl)) fun _ q2_1 => ?_;clear q2_0
 refine q2_1.t (.bool (decide (1 ≤ n))) (ex_bin rfl (q2_1.e (j:=3) rfl) rfl (geqC _ _ _ _ _)) fun _ q2_2 => ?_;clear q2_1
 refine q2_2.t _ (ex_move rfl (q2_2.e (j:=4) rfl)) fun _ q2_3 => ?_;clear q2_2
 refine vl _ (.int .i64 n) (want_g rfl rfl (q2_3.a 5 rfl)) (fun hc => ex_move rfl (q2_3.e (j:=0) rfl)) rfl q2_3.z (by decide) (q2_3.k fun Ya q2_4 => ?_);clear q2_3;refine vl _ (.bool (decide (n ≤ 7))) (want_g rfl rfl (q2_4.a 5 rfl)) (fun hc => ex_bin rfl (ev (q2_4.a 6 rfl) hc) rfl (leqC8 _ _ _ _ _)) rfl q2_4.z (by decide) (q2_4.k fun Yb q2_5 => ?_);clear q2_4
 refine q2_5.t (.bool ((decide (1 ≤ n)) && (decide (n ≤ 7)))) (ex_and rfl (q2_5.a 5 rfl) (q2_5.a 7 rfl) rfl) fun _ q2_6 => ?_;clear q2_5
 refine q2_6.t _ (ex_assign rfl (q2_6.e (j:=8) rfl)) fun _ q2_7 => ?_;clear q2_6
 have hz:=q2_7.z;have s2:=q2_7.a 2 rfl;clear q2_7;refine wpList_nil ?_
 go_wp2
 refine bodyPost_ret (results_tmp rfl _ _ _) rfl ⟨?_,hB.trans (hv0.mono (by omega))⟩;rw [getD_of s2]
 rfl
set_option maxHeartbeats 1000000 in
theorem maybe9 (a : Option Addr) (n c : Nat) (w : World)  : Calls Tryz.prog 126 #[.slice a n c] w fun e w' => e = .returned (.bool (inB (n : Int) 1 7))∧Below w.heap.size w w':=by
 go_enter Tryz.func126,Tryz.ntmps126
 go_upto_region 0 with fail
 refine wp_region_lit ?_;refine vl_gen (fun T => T.size = 6∧T[0]? = some (gw true (.slice a n c))) ⟨rfl,rfl⟩ (fun Z0 ⟨hz,s0⟩ => ?_);have hB : Below w.heap.size w w:=Below.refl _ _;have hv0 : Below w.heap.size w w:=Below.refl _ _;have q3_0:=(Rp.nil hz).cons s0;clear hz s0
 refine q3_0.t (.bool false) (ex_assign rfl rfl) fun _ q3_1 => ?_;clear q3_0
 have hz:=q3_1.z;have s0:=q3_1.a 0 rfl;clear q3_1;refine wpList_nil ?_
 go_upto_region 1 with fail
 refine wp_region_lit ?_;have q4_0:=(Rp.nil hz).cons s0;clear hz s0
 refine q4_0.t _ (ex_move rfl (q4_0.e (j:=0) rfl)) fun _ q4_1 => ?_;clear q4_0
 refine q4_1.t (.int .i64 (n : Int)) (ex_lenV8 rfl rfl (q4_1.e (j:=3) rfl)) fun _ q4_2 => ?_;clear q4_1
 refine vcall true (.bool (inB ((n : Int)) 1 7)) (want_none rfl) (fun hc => ex_call rfl (by simp only [List.map_toArray,List.map_cons,List.map_nil,(q4_2.e (j:=4) rfl),evc] <;> rfl) rfl) (fun hc => groupmay9 ((n : Int)) w) rfl q4_2.z (by decide) (q4_2.kc fun Ya x1 hb q4_3 => ?_);clear q4_2;have hx1:=hv0.trans (hb.mono hv0.size);clear hb
 refine q4_3.t _ (ex_assign rfl (q4_3.e (j:=5) rfl)) fun _ q4_4 => ?_;clear q4_3
 have hz:=q4_4.z;have s2:=q4_4.a 2 rfl;clear q4_4;refine wpList_nil ?_
 go_wp2
 refine bodyPost_ret (results_tmp rfl _ _ _) rfl ⟨?_,hB.trans (hx1.mono (by omega))⟩;rw [getD_of s2]
 rfl
set_option maxHeartbeats 1000000 in
theorem hasplace9 (a : Option Addr) (n c : Nat) (k : Int) (w : World)  : Calls Tryz.prog 152 #[.slice a n c,.int .i64 k] w fun e w' => e = .returned (.bool (decide (0 ≤ k) && decide (k < (n : Int))))∧Below w.heap.size w w':=by
 go_enter Tryz.func152,Tryz.ntmps152
 go_upto_region 0 with fail
 refine wp_region_lit ?_;refine vl_gen (fun T => T.size = 13∧T[0]? = some (gw true (.slice a n c))∧T[1]? = some (gw true (.int .i64 k))) ⟨rfl,rfl,rfl⟩ (fun Z0 ⟨hz,s0,s1⟩ => ?_);have hB : Below w.heap.size w w:=Below.refl _ _;have hv0 : Below w.heap.size w w:=Below.refl _ _;have q5_0:=((Rp.nil hz).cons s0).cons s1;clear hz s0 s1
 refine q5_0.t (.bool false) (ex_assign rfl rfl) fun _ q5_1 => ?_;clear q5_0
 have hz:=q5_1.z;have s0:=q5_1.a 0 rfl;have s1:=q5_1.a 1 rfl;clear q5_1;refine wpList_nil ?_
 go_upto_region 1 with fail
 refine wp_region_lit ?_;have q6_0:=((Rp.nil hz).cons s0).cons s1;clear hz s0 s1
 refine q6_0.t _ (ex_move rfl (q6_0.e (j:=1) rfl)) fun _ q6_1 => ?_;clear q6_0
 refine q6_1.t (.bool (decide (0 ≤ k))) (ex_bin rfl (q6_1.e (j:=5) rfl) rfl (geqC _ _ _ _ _)) fun _ q6_2 => ?_;clear q6_1
 refine q6_2.t _ (ex_move rfl (q6_2.e (j:=6) rfl)) fun _ q6_3 => ?_;clear q6_2
 refine vl _ (.int .i64 k) (want_g rfl rfl (q6_3.a 7 rfl)) (fun hc => ex_move rfl (q6_3.e (j:=1) rfl)) rfl q6_3.z (by decide) (q6_3.k fun Ya q6_4 => ?_);clear q6_3;refine vl _ (.slice a n c) (want_g rfl rfl (q6_4.a 7 rfl)) (fun hc => ex_move rfl (q6_4.e (j:=0) rfl)) rfl q6_4.z (by decide) (q6_4.k fun Yb q6_5 => ?_);clear q6_4;refine vl _ (.int .i64 (n : Int)) (want_g rfl rfl (q6_5.a 7 rfl)) (fun hc => ex_lenV8 rfl rfl (ev (q6_5.a 9 rfl) hc)) rfl q6_5.z (by decide) (q6_5.k fun Yc q6_6 => ?_);clear q6_5;refine vl _ (.bool (decide (k < (n : Int)))) (want_g rfl rfl (q6_6.a 7 rfl)) (fun hc => ex_bin rfl (ev (q6_6.a 8 rfl) hc) (ev (q6_6.a 10 rfl) hc) (lssC _ _ _ _ _)) rfl q6_6.z (by decide) (q6_6.k fun Yd q6_7 => ?_);clear q6_6
 refine q6_7.t (.bool ((decide (0 ≤ k)) && (decide (k < (n : Int))))) (ex_and rfl (q6_7.a 7 rfl) (q6_7.a 11 rfl) rfl) fun _ q6_8 => ?_;clear q6_7
 refine q6_8.t _ (ex_assign rfl (q6_8.e (j:=12) rfl)) fun _ q6_9 => ?_;clear q6_8
 have hz:=q6_9.z;have s4:=q6_9.a 4 rfl;clear q6_9;refine wpList_nil ?_
 go_wp2
 refine bodyPost_ret (results_tmp rfl _ _ _) rfl ⟨?_,hB.trans (hv0.mono (by omega))⟩;rw [getD_of s4]
 rfl
set_option maxHeartbeats 1000000 in
theorem voicemay9 (x : Vo9) (w : World)  : Calls Tryz.prog 102 #[x.val] w fun e w' => e = .returned (.bool (vmB9 x))∧Below w.heap.size w w':=by
 go_enter Tryz.func102,Tryz.ntmps102
 go_upto_region 0 with fail
 refine wp_region_lit ?_;refine vl_gen (fun T => T.size = 13∧T[0]? = some (gw true (x.val))) ⟨rfl,rfl⟩ (fun Z0 ⟨hz,s0⟩ => ?_)
 obtain ⟨w1,hw1⟩ : ∃ y,y = w.alloc (.cells x.cs.toArray 106):=⟨_,rfl⟩
 have hb : Below w.heap.size w w1:=by rw [hw1];exact (Below.refl _ _).alloc (Nat.le_refl _) _
 have hs1 : w1.heap.size = w.heap.size + 1:=by rw [hw1];simp
 have HX : VB9 w1 (w.heap.size) x:=by rw [hw1];exact BX7.new _ _ _
 refine vw (.pointer (some ⟨w.heap.size,0,none⟩)) w1 (want_none rfl) (ex_box8 rfl (ev s0 rfl) (by rw [hw1];exact bxV9 _ _)) rfl hz (by decide) (fun Z1 zz kk s1x => ?_);clear kk hz s0 hw1;have hz:=zz;have s1:=s1x;clear zz s1x;have hB:=hb;clear hb;have hv0 : Below w1.heap.size w1 w1:=Below.refl _ _;have q7_0:=(Rp.nil hz).cons s1;clear hz s1
 refine q7_0.t (.bool false) (ex_assign rfl rfl) fun _ q7_1 => ?_;clear q7_0
 have hz:=q7_1.z;have s1:=q7_1.a 1 rfl;clear q7_1;refine wpList_nil ?_
 go_upto_region 1 with fail
 refine wp_region_lit ?_;have q8_0:=(Rp.nil hz).cons s1;clear hz s1
 refine q8_0.t (.pointer (some ⟨w.heap.size,1,none⟩)) (ex_fa rfl (q8_0.e (j:=1) rfl) (faV9_1 _ _)) fun _ q8_1 => ?_;clear q8_0
 refine q8_1.t (.slice x.a x.D.length x.c) (ex_ld rfl (q8_1.e (j:=3) rfl) (ldV8 ((HX.bel hv0).cell 1 _ rfl))) fun _ q8_2 => ?_;clear q8_1
 refine vcall true (.bool (inB (x.D.length : Int) 1 7)) (want_none rfl) (fun hc => ex_call rfl (by simp only [List.map_toArray,List.map_cons,List.map_nil,(q8_2.e (j:=4) rfl),evc] <;> rfl) rfl) (fun hc => maybe9 x.a x.D.length x.c w1) rfl q8_2.z (by decide) (q8_2.kc fun Ya x1 hb q8_3 => ?_);clear q8_2;have hx1:=hv0.trans (hb.mono hv0.size);clear hb
 refine q8_3.t _ (ex_move rfl (q8_3.e (j:=5) rfl)) fun _ q8_4 => ?_;clear q8_3
 refine vl _ (.pointer (some ⟨w.heap.size,1,none⟩)) (want_g rfl rfl (q8_4.a 6 rfl)) (fun hc => ex_fa rfl (q8_4.e (j:=1) rfl) (faV9_1 _ _)) rfl q8_4.z (by decide) (q8_4.k fun Yb q8_5 => ?_);clear q8_4;refine vl _ (.slice x.a x.D.length x.c) (want_g rfl rfl (q8_5.a 6 rfl)) (fun hc => ex_ld rfl (ev (q8_5.a 7 rfl) hc) (ldV8 ((HX.bel hx1).cell 1 _ rfl))) rfl q8_5.z (by decide) (q8_5.k fun Yc q8_6 => ?_);clear q8_5;refine vl _ (.pointer (some ⟨w.heap.size,0,none⟩)) (want_g rfl rfl (q8_6.a 6 rfl)) (fun hc => ex_fa rfl (q8_6.e (j:=1) rfl) (faV9_0 _ _)) rfl q8_6.z (by decide) (q8_6.k fun Yd q8_7 => ?_);clear q8_6;refine vl _ (.int .i64 x.n) (want_g rfl rfl (q8_7.a 6 rfl)) (fun hc => ex_ld rfl (ev (q8_7.a 9 rfl) hc) (ldI8 ((HX.bel hx1).cell 0 _ rfl))) rfl q8_7.z (by decide) (q8_7.k fun Ye q8_8 => ?_);clear q8_7;refine vcall (true && ((inB (x.D.length : Int) 1 7) == true)) (.bool (decide (0 ≤ x.n) && decide (x.n < (x.D.length : Int)))) (want_g rfl rfl (q8_8.a 6 rfl)) (fun hc => ex_call rfl (by simp only [List.map_toArray,List.map_cons,List.map_nil,(ev (q8_8.a 8 rfl) hc),(ev (q8_8.a 10 rfl) hc),evc] <;> rfl) rfl) (fun hc => hasplace9 x.a x.D.length x.c (x.n) x1) rfl q8_8.z (by decide) (q8_8.kc fun Yf x2 hb q8_9 => ?_);clear q8_8;have hx2:=hx1.trans (hb.mono hx1.size);clear hb
 refine q8_9.t (.bool ((inB (x.D.length : Int) 1 7) && (decide (0 ≤ x.n) && decide (x.n < (x.D.length : Int))))) (ex_and rfl (q8_9.a 6 rfl) (q8_9.a 11 rfl) rfl) fun _ q8_10 => ?_;clear q8_9
 refine q8_10.t _ (ex_assign rfl (q8_10.e (j:=12) rfl)) fun _ q8_11 => ?_;clear q8_10
 have hz:=q8_11.z;have s2:=q8_11.a 2 rfl;clear q8_11;refine wpList_nil ?_
 go_wp2
 refine bodyPost_ret (results_tmp rfl _ _ _) rfl ⟨?_,hB.trans (hx2.mono (by omega))⟩;rw [getD_of s2]
 rfl
set_option maxHeartbeats 1000000 in
theorem knowsover9 (V : List (Int × Int)) (a : Option Addr) (n c : Nat) (x : Vo9) (w : World) (hV : SlY yD w a n c V) (hX : SlY yD w x.a x.D.length x.c x.D) (hn : 0 ≤ x.n∧x.n < (n : Int)) (hm : 0 ≤ x.n∧x.n < (x.D.length : Int)) : Calls Tryz.prog 103 #[.slice a n c,x.val] w fun e w' => e = .returned (.bool (decide (0 < cmpD (V.getD x.n.toNat (0,0)).1 (V.getD x.n.toNat (0,0)).2 (x.D.getD x.n.toNat (0,0)).1 (x.D.getD x.n.toNat (0,0)).2)))∧Below w.heap.size w w':=by
 go_enter Tryz.func103,Tryz.ntmps103
 go_upto_region 0 with fail
 refine wp_region_lit ?_;refine vl_gen (fun T => T.size = 18∧T[1]? = some (gw true (x.val))∧T[0]? = some (gw true (.slice a n c))) ⟨rfl,rfl,rfl⟩ (fun Z0 ⟨hz,s1,s0⟩ => ?_)
 obtain ⟨w1,hw1⟩ : ∃ y,y = w.alloc (.cells x.cs.toArray 106):=⟨_,rfl⟩
 have hb : Below w.heap.size w w1:=by rw [hw1];exact (Below.refl _ _).alloc (Nat.le_refl _) _
 have hs1 : w1.heap.size = w.heap.size + 1:=by rw [hw1];simp
 have HX : VB9 w1 (w.heap.size) x:=by rw [hw1];exact BX7.new _ _ _
 refine vw (.pointer (some ⟨w.heap.size,0,none⟩)) w1 (want_none rfl) (ex_box8 rfl (ev s1 rfl) (by rw [hw1];exact bxV9 _ _)) rfl hz (by decide) (fun Z1 zz kk s3x => ?_);replace s0:=ku s0;clear kk hz s1 hw1;have hz:=zz;have s3:=s3x;clear zz s3x;have hB:=hb;clear hb;have hv0 : Below w1.heap.size w1 w1:=Below.refl _ _;obtain ⟨qa,oa,ha,hA⟩:=vec_at8 (hV.later hB) hn;obtain ⟨qx,ox,hx,hQ⟩:=vec_at8 (hX.later hB) hm;have q9_0:=((Rp.nil hz).cons s0).cons s3;clear hz s0 s3
 refine q9_0.t (.bool false) (ex_assign rfl rfl) fun _ q9_1 => ?_;clear q9_0
 have hz:=q9_1.z;have s0:=q9_1.a 0 rfl;have s3:=q9_1.a 3 rfl;clear q9_1;refine wpList_nil ?_
 go_upto_region 1 with fail
 refine vq_start (C:=fun v => Below w1.heap.size w1 v) (by kernel_rfl) (by kernel_rfl) hv0.drew ?_;have q10_0:=((Rp.nil hz).cons s0).cons s3;clear hz s0 s3
 refine q10_0.q _ (fun v hv => ex_move rfl (q10_0.e (j:=0) rfl)) fun _ q10_1 => ?_;clear q10_0
 refine q10_1.q (.pointer (some ⟨w.heap.size,0,none⟩)) (fun v hv => ex_fa rfl (q10_1.e (j:=3) rfl) (faV9_0 _ _)) fun _ q10_2 => ?_;clear q10_1
 refine q10_2.q (.int .i64 x.n) (fun v hv => ex_ld rfl (q10_2.e (j:=6) rfl) (ldI8 ((HX.bel hv).cell 0 _ rfl))) fun _ q10_3 => ?_;clear q10_2
 refine q10_3.q (.pointer (some ⟨qa,oa + x.n.toNat * 2,none⟩)) (fun v hv => ex_ix rfl (q10_3.e (j:=5) rfl) (q10_3.e (j:=7) rfl) (hA.1 _)) fun _ q10_4 => ?_;clear q10_3
 refine q10_4.q (.agg #[.int .u64 (V.getD x.n.toNat (0,0)).1,.int .u64 (V.getD x.n.toNat (0,0)).2]) (fun v hv => ex_ld rfl (q10_4.e (j:=8) rfl) (hA.2 _ hv)) fun _ q10_5 => ?_;clear q10_4
 refine q10_5.q (.pointer (some ⟨w.heap.size,1,none⟩)) (fun v hv => ex_fa rfl (q10_5.e (j:=3) rfl) (faV9_1 _ _)) fun _ q10_6 => ?_;clear q10_5
 refine q10_6.q (.slice x.a x.D.length x.c) (fun v hv => ex_ld rfl (q10_6.e (j:=10) rfl) (ldV8 ((HX.bel hv).cell 1 _ rfl))) fun _ q10_7 => ?_;clear q10_6
 refine q10_7.q (.pointer (some ⟨w.heap.size,0,none⟩)) (fun v hv => ex_fa rfl (q10_7.e (j:=3) rfl) (faV9_0 _ _)) fun _ q10_8 => ?_;clear q10_7
 refine q10_8.q (.int .i64 x.n) (fun v hv => ex_ld rfl (q10_8.e (j:=12) rfl) (ldI8 ((HX.bel hv).cell 0 _ rfl))) fun _ q10_9 => ?_;clear q10_8
 refine q10_9.q (.pointer (some ⟨qx,ox + x.n.toNat * 2,none⟩)) (fun v hv => ex_ix rfl (q10_9.e (j:=11) rfl) (q10_9.e (j:=13) rfl) (hQ.1 _)) fun _ q10_10 => ?_;clear q10_9
 refine q10_10.q (.agg #[.int .u64 (x.D.getD x.n.toNat (0,0)).1,.int .u64 (x.D.getD x.n.toNat (0,0)).2]) (fun v hv => ex_ld rfl (q10_10.e (j:=14) rfl) (hQ.2 _ hv)) fun _ q10_11 => ?_;clear q10_10
 refine vq_call true (.int .i64 (cmpD (V.getD x.n.toNat (0,0)).1 (V.getD x.n.toNat (0,0)).2 (x.D.getD x.n.toNat (0,0)).1 (x.D.getD x.n.toNat (0,0)).2)) (want_none rfl) (fun hc v hv => ex_call rfl (by simp only [List.map_toArray,List.map_cons,List.map_nil,(q10_11.e (j:=9) rfl),(q10_11.e (j:=15) rfl),evc] <;> rfl) rfl) (fun hc v hv => (bel8 hv (compare_any (V.getD x.n.toNat (0,0)).1 (V.getD x.n.toNat (0,0)).2 (x.D.getD x.n.toNat (0,0)).1 (x.D.getD x.n.toNat (0,0)).2 v))) rfl q10_11.z (by decide) (q10_11.k fun Ya q10_12 => ?_);clear q10_11
 refine q10_12.q (.bool (decide (0 < (cmpD (V.getD x.n.toNat (0,0)).1 (V.getD x.n.toNat (0,0)).2 (x.D.getD x.n.toNat (0,0)).1 (x.D.getD x.n.toNat (0,0)).2)))) (fun v hv => ex_bin rfl (q10_12.e (j:=16) rfl) rfl (gtrC _ _ _ _ _)) fun _ q10_13 => ?_;clear q10_12
 refine q10_13.q _ (fun v hv => ex_assign rfl (q10_13.e (j:=17) rfl)) fun _ q10_14 => ?_;clear q10_13
 have hz:=q10_14.z;have s4:=q10_14.a 4 rfl;clear q10_14;refine vq_nil (fun x1 hx1 => ?_)
 go_wp2
 refine bodyPost_ret (results_tmp rfl _ _ _) rfl ⟨?_,hB.trans (hx1.mono (by omega))⟩;rw [getD_of s4]
 rfl
set_option maxHeartbeats 1000000 in
theorem over9 (V : List (Int × Int)) (a : Option Addr) (c : Nat) (x : Vo9) (w : World) (hV : SlY yD w a V.length c V) (hX : SlY yD w x.a x.D.length x.c x.D) : Calls Tryz.prog 48 #[.slice a V.length c,x.val] w fun e w' => e = .returned (.bool (ovB9 V x))∧Below w.heap.size w w':=by
 go_enter Tryz.func48,Tryz.ntmps48
 go_upto_region 0 with fail
 refine wp_region_lit ?_;refine vl_gen (fun T => T.size = 19∧T[1]? = some (gw true (x.val))∧T[0]? = some (gw true (.slice a V.length c))) ⟨rfl,rfl,rfl⟩ (fun Z0 ⟨hz,s1,s0⟩ => ?_)
 obtain ⟨w1,hw1⟩ : ∃ y,y = w.alloc (.cells x.cs.toArray 106):=⟨_,rfl⟩
 have hb : Below w.heap.size w w1:=by rw [hw1];exact (Below.refl _ _).alloc (Nat.le_refl _) _
 have hs1 : w1.heap.size = w.heap.size + 1:=by rw [hw1];simp
 have HX : VB9 w1 (w.heap.size) x:=by rw [hw1];exact BX7.new _ _ _
 refine vw (.pointer (some ⟨w.heap.size,0,none⟩)) w1 (want_none rfl) (ex_box8 rfl (ev s1 rfl) (by rw [hw1];exact bxV9 _ _)) rfl hz (by decide) (fun Z1 zz kk s3x => ?_);replace s0:=ku s0;clear kk hz s1 hw1;have hz:=zz;have s3:=s3x;clear zz s3x;have hB:=hb;clear hb;have hv0 : Below w1.heap.size w1 w1:=Below.refl _ _;have q11_0:=((Rp.nil hz).cons s0).cons s3;clear hz s0 s3
 refine q11_0.t (.bool false) (ex_assign rfl rfl) fun _ q11_1 => ?_;clear q11_0
 have hz:=q11_1.z;have s0:=q11_1.a 0 rfl;have s3:=q11_1.a 3 rfl;clear q11_1;refine wpList_nil ?_
 go_upto_region 1 with fail
 refine wp_region_lit ?_;have q12_0:=((Rp.nil hz).cons s0).cons s3;clear hz s0 s3
 refine q12_0.t (x.val) (ex_ld rfl (q12_0.e (j:=3) rfl) (VB9.ld (HX.bel hv0))) fun _ q12_1 => ?_;clear q12_0
 refine vcall true (.bool (vmB9 x)) (want_none rfl) (fun hc => ex_call rfl (by simp only [List.map_toArray,List.map_cons,List.map_nil,(q12_1.e (j:=5) rfl),evc] <;> rfl) rfl) (fun hc => voicemay9 x w1) rfl q12_1.z (by decide) (q12_1.kc fun Ya x1 hb q12_2 => ?_);clear q12_1;have hx1:=hv0.trans (hb.mono hv0.size);clear hb
 refine q12_2.t (.bool (!(vmB9 x))) (ex_not rfl (q12_2.e (j:=6) rfl)) fun _ q12_3 => ?_;clear q12_2
 refine q12_3.t _ (ex_move rfl (q12_3.e (j:=7) rfl)) fun _ q12_4 => ?_;clear q12_3
 refine vl _ (.slice a V.length c) (want_g rfl rfl (q12_4.a 8 rfl)) (fun hc => ex_move rfl (q12_4.e (j:=0) rfl)) rfl q12_4.z (by decide) (q12_4.k fun Yb q12_5 => ?_);clear q12_4;refine vl _ (.int .i64 (V.length : Int)) (want_g rfl rfl (q12_5.a 8 rfl)) (fun hc => ex_lenV8 rfl rfl (ev (q12_5.a 9 rfl) hc)) rfl q12_5.z (by decide) (q12_5.k fun Yc q12_6 => ?_);clear q12_5;refine vl _ (.pointer (some ⟨w.heap.size,1,none⟩)) (want_g rfl rfl (q12_6.a 8 rfl)) (fun hc => ex_fa rfl (q12_6.e (j:=3) rfl) (faV9_1 _ _)) rfl q12_6.z (by decide) (q12_6.k fun Yd q12_7 => ?_);clear q12_6;refine vl _ (.slice x.a x.D.length x.c) (want_g rfl rfl (q12_7.a 8 rfl)) (fun hc => ex_ld rfl (ev (q12_7.a 11 rfl) hc) (ldV8 ((HX.bel hx1).cell 1 _ rfl))) rfl q12_7.z (by decide) (q12_7.k fun Ye q12_8 => ?_);clear q12_7;refine vl _ (.int .i64 (x.D.length : Int)) (want_g rfl rfl (q12_8.a 8 rfl)) (fun hc => ex_lenV8 rfl rfl (ev (q12_8.a 12 rfl) hc)) rfl q12_8.z (by decide) (q12_8.k fun Yf q12_9 => ?_);clear q12_8;refine vl _ (.bool (!decide ((V.length : Int) = (x.D.length : Int)))) (want_g rfl rfl (q12_9.a 8 rfl)) (fun hc => ex_bin rfl (ev (q12_9.a 10 rfl) hc) (ev (q12_9.a 13 rfl) hc) (neqC _ _ _ _ _)) rfl q12_9.z (by decide) (q12_9.k fun Yg q12_10 => ?_);clear q12_9
 refine q12_10.t (.bool ((!(vmB9 x)) || (!decide ((V.length : Int) = (x.D.length : Int))))) (ex_or rfl (q12_10.a 8 rfl) (q12_10.a 14 rfl) rfl) fun _ q12_11 => ?_;clear q12_10
 have hz:=q12_11.z;have s0:=q12_11.a 0 rfl;have s3:=q12_11.a 3 rfl;have s15:=q12_11.a 15 rfl;clear q12_11;refine wpList_nil ?_
 go_upto_region 2 with fail
 cases eb : (vmB9 x && decide ((V.length : Int) = (x.D.length : Int)))
 ·refine wp_cond_true ((ev s15 rfl).trans (congrArg Value.bool (show ((!(vmB9 x)) || (!decide ((V.length : Int) = (x.D.length : Int)))) = true by revert eb;cases vmB9 x <;> cases decide ((V.length : Int) = (x.D.length : Int)) <;> simp))) ?_
  go_upto_region 2 with fail
  refine wp_region_lit ?_;have q13_0:=((Rp.nil hz).cons s0).cons s3;clear hz s0 s3
  refine q13_0.t (.bool false) (ex_assign rfl rfl) fun _ q13_1 => ?_;clear q13_0
  have hz:=q13_1.z;have s4:=q13_1.a 4 rfl;clear q13_1;refine wpList_nil ?_
  go_wp2
  refine bodyPost_ret (results_tmp rfl _ _ _) rfl ⟨?_,hB.trans (hx1.mono (by omega))⟩;rw [getD_of s4];rw [show ovB9 V x = false from by unfold ovB9;rw [eb];rfl]
  rfl
 ·refine wp_cond_false ((ev s15 rfl).trans (congrArg Value.bool (show ((!(vmB9 x)) || (!decide ((V.length : Int) = (x.D.length : Int)))) = false by revert eb;cases vmB9 x <;> cases decide ((V.length : Int) = (x.D.length : Int)) <;> simp))) ?_
  obtain ⟨h1,h2⟩:=vm_of9 eb
  go_upto_region 3 with fail
  refine wp_region_lit ?_;have q14_0:=((Rp.nil hz).cons s0).cons s3;clear hz s0 s3
  refine q14_0.t _ (ex_move rfl (q14_0.e (j:=0) rfl)) fun _ q14_1 => ?_;clear q14_0
  refine q14_1.t (x.val) (ex_ld rfl (q14_1.e (j:=3) rfl) (VB9.ld (HX.bel hx1))) fun _ q14_2 => ?_;clear q14_1
  refine vcall true (.bool (decide (0 < cmpD (V.getD x.n.toNat (0,0)).1 (V.getD x.n.toNat (0,0)).2 (x.D.getD x.n.toNat (0,0)).1 (x.D.getD x.n.toNat (0,0)).2))) (want_none rfl) (fun hc => ex_call rfl (by simp only [List.map_toArray,List.map_cons,List.map_nil,(q14_2.e (j:=16) rfl),(q14_2.e (j:=17) rfl),evc] <;> rfl) rfl) (fun hc => knowsover9 V a V.length c x x1 (hV.later (hB.trans (hx1.mono (by omega)))) (hX.later (hB.trans (hx1.mono (by omega)))) h2 h1) rfl q14_2.z (by decide) (q14_2.kc fun Yh x2 hb q14_3 => ?_);clear q14_2;have hx2:=hx1.trans (hb.mono hx1.size);clear hb
  refine q14_3.t _ (ex_assign rfl (q14_3.e (j:=18) rfl)) fun _ q14_4 => ?_;clear q14_3
  have hz:=q14_4.z;have s4:=q14_4.a 4 rfl;clear q14_4;refine wpList_nil ?_
  go_wp2
  refine bodyPost_ret (results_tmp rfl _ _ _) rfl ⟨?_,hB.trans (hx2.mono (by omega))⟩;rw [getD_of s4];rw [show ovB9 V x = decide (0 < cmpD (V.getD x.n.toNat (0,0)).1 (V.getD x.n.toNat (0,0)).2 (x.D.getD x.n.toNat (0,0)).1 (x.D.getD x.n.toNat (0,0)).2) from by unfold ovB9;rw [eb];rfl]
  rfl
set_option maxHeartbeats 1000000 in
theorem copiedV9 (D : List (Int × Int)) (a : Option Addr) (n c : Nat) (w : World) (h : SlY yD w a n c D) (hb : n * 16 ≤ 281474976710656) :
  Calls Tryz.prog 127 #[.slice a n c] w fun e w' => e = .returned (.slice (some ⟨w.heap.size,0,none⟩) n n)∧OwnY yD w.heap.size w' (.slice (some ⟨w.heap.size,0,none⟩) n n) D∧Below w.heap.size w w':=by
 have hmx:=h.max;have hcp:=h.cap;have hln:=h.len
 unfold maxLen at hmx
 have H:=hide h;have HN:=hide hln;clear h hln
 go_enter Tryz.func127,Tryz.ntmps127
 go_wp2_with (at_make;go_must (refine makeYs kD _ rfl (.tmp 5) rfl n rfl (by unfold maxLen;omega) hb ?zk))
 intro w1 o1 b1;have O1:=hide o1;have B1:=hide b1;have H1:=hide (H.out.later b1);have z1:=b1.size;clear o1 b1
 go_wp2_with (refine copyYc kD _ rfl (.tmp 7) (.tmp 8) 30 rfl w.heap.size w.heap.size n n 0 n n c n a _ D (by rfl) rfl O1.out H1.out (by omega) (Nat.le_refl _) ?zm)
 intro w2 o2 u2 z2
 have hp : put (List.replicate n yD.z) 0 D = D:=by
  unfold put
  rw [List.take_zero,List.nil_append,List.drop_of_length_le (by rw [List.length_replicate,HN.out];omega),List.append_nil]
 rw [hp] at o2;have O2:=hide o2;have B2:=hide (B1.out.trans (u2.below z1 (fun k e => by subst e;exact Nat.le_refl _)));clear o2 u2 hp
 go_wp2
 go_ret
 exact ⟨rfl,O2.out,B2.out⟩
theorem lie0_9 {α : Type} {Y : Lay α} {w : World} {a : Option Addr} {n c : Nat} {L : List α} (h : SlY Y w a n c L) (hi : 0 < n) : ∃ q o,a = some ⟨q,o,none⟩∧∀ i x,L[i]? = some x → ∀ k u,(Y.cs x)[k]? = some u → w.cell? ⟨q,o + i * Y.k + k,none⟩ = some u:=by
 have hl:=h.len;obtain ⟨q,o,rfl,hq,hlie⟩:=h.place (by rintro rfl;simp at hl;omega)
 exact ⟨q,o,rfl,fun i x hx k u hu => hlie i x hx k u hu⟩
theorem vlt9 {α : Type} {Y : Lay α} {w : World} {q o : Nat} {n c : Nat} {L : List α} (h : SlY Y w (some ⟨q,o,none⟩) n c L) (hi : 0 < n) : q < w.heap.size:=by
 have hl:=h.len;obtain ⟨q',o',e,hq,hlie⟩:=h.place (by rintro rfl;simp at hl;omega)
 cases e
 exact hq
theorem ixV9 (q o n c i : Nat) (hi : i < n) (w : World) : (Instr.indexAt 30 (.slice (some ⟨q,o,none⟩) n c) (.int .i64 (i : Int))).run Tryz.prog w = .ok (.pointer (some ⟨q,o + i * 2,none⟩)) w:=by
 have h1 : (i : Int) < (n : Int):=by omega
 go_simp
theorem ixVz9 (q n c i : Nat) (hi : i < n) (w : World) : (Instr.indexAt 30 (.slice (some ⟨q,0,none⟩) n c) (.int .i64 (i : Int))).run Tryz.prog w = .ok (.pointer (some ⟨q,i * 2,none⟩)) w:=(ixV9 q 0 n c i hi w).trans (by rw [Nat.zero_add])
def dcs9 (d : Int × Int) : List Value:=[.int .u64 d.1,.int .u64 d.2]
abbrev DB9 (w : World) (q : Nat) (d : Int × Int) : Prop:=BX7 w q (dcs9 d)
theorem alD9 (w : World) : (Instr.alloc 26 true (.tuple #[])).run Tryz.prog w = .ok (.pointer (some ⟨w.heap.size,0,none⟩)) (w.alloc (.cells #[.int .u64 0,.int .u64 0] 26)):=by
 go_simp
 first | done | rfl
theorem DB9.ld {w : World} {q : Nat} {d : Int × Int} (h : DB9 w q d) : (Instr.loadAt 26 (.pointer (some ⟨q,0,none⟩))).run Tryz.prog w = .ok (.agg #[.int .u64 d.1,.int .u64 d.2]) w:=ldDr8 (h.cell 0 _ rfl) (h.cell 1 _ rfl)
theorem run_stD9 {w : World} {q o : Nat} {d0 d1 : Value} (h0 : w.cell? ⟨q,o,none⟩ = some d0) (h1 : w.cell? ⟨q,o + 1,none⟩ = some d1) (f0 : w.frozen? ⟨q,o,none⟩ = false) (f1 : w.frozen? ⟨q,o + 1,none⟩ = false) (d : Int × Int) : (Instr.storeAt 26 (.pointer (some ⟨q,o,none⟩)) (.agg #[.int .u64 d.1,.int .u64 d.2])).run Tryz.prog w = .ok () (sets w q o (dcs9 d)):=by
 have:=run_storeAt_mid (P:=Tryz.prog) w q o 26 (dcs9 d).toArray (fun j hj => by
  have hj2 : j = 0 ∨ j = 1:=by simp [dcs9] at hj;omega
  rcases hj2 with rfl | rfl
  ·exact ⟨by rw [Nat.add_zero,h0];rfl,by rw [Nat.add_zero];exact f0⟩
  ·exact ⟨by rw [h1];rfl,f1⟩) (by kernel_rfl) (by first | rfl | (simp [dcs9];first | done | rfl | exact ⟨rfl,rfl⟩))
 rw [setCells_sets] at this
 exact this
theorem stD9 {w : World} {q : Nat} {x : Int × Int} (h : DB9 w q x) (d : Int × Int) : (Instr.storeAt 26 (.pointer (some ⟨q,0,none⟩)) (.agg #[.int .u64 d.1,.int .u64 d.2])).run Tryz.prog w = .ok () (sets w q 0 (dcs9 d)):=run_stD9 (h.cell 0 _ rfl) (h.cell 1 _ rfl) (h.free 0) (h.free 1) d
theorem DB9.put {w : World} {q : Nat} {x : Int × Int} (h : DB9 w q x) (d : Int × Int) : DB9 (sets w q 0 (dcs9 d)) q d:=by
 have h1:=BX7.set h (j:=0) (by simp [dcs9]) (.int .u64 d.1);have h2:=BX7.set h1 (j:=1) (by simp [dcs9]) (.int .u64 d.2)
 exact h2
theorem updS9 (w : World) (q o : Nat) (d : Int × Int) : Upd (fun k => k = q) w (sets w q o (dcs9 d)):=((Upd.refl (fun k => k = q) w).setCell (p:=⟨q,o,none⟩) (.inl rfl) _).setCell (p:=⟨q,o + 1,none⟩) (.inl rfl) _
theorem updD9 (w : World) (q : Nat) (d : Int × Int) : Upd (fun k => k = q) w (sets w q 0 (dcs9 d)):=updS9 w q 0 d
theorem own_stD9 {B g n c i : Nat} {w : World} {l : List (Int × Int)} {y : Int × Int} (h : OwnY yD B w (.slice (some ⟨g,0,none⟩) n c) l) (hy : l[i]? = some y) (d : Int × Int) :
  (Instr.storeAt 26 (.pointer (some ⟨g,i * 2,none⟩)) (.agg #[.int .u64 d.1,.int .u64 d.2])).run Tryz.prog w = .ok () (sets w g (i * 2) (dcs9 d))∧OwnY yD B (sets w g (i * 2) (dcs9 d)) (.slice (some ⟨g,0,none⟩) n c) (l.set i d)∧Upd (fun k => k = g) w (sets w g (i * 2) (dcs9 d)):=by
 refine ⟨run_stD9 (h.cell kD i y hy 0 _ rfl) (h.cell kD i y hy 1 _ rfl) (h.free _) (h.free _) d,?_,updS9 _ _ _ _⟩;have hi:=(List.getElem?_eq_some_iff.1 hy).1;have h1:=h.set1 kD hy (d.1,y.2) 0 (.int .u64 d.1) (by decide) rfl;have h2:=h1.set1 kD (x:=(d.1,y.2)) (i:=i) (by rw [List.getElem?_set_self hi]) d 1 (.int .u64 d.2) (by decide) rfl;rw [List.set_set] at h2
 exact h2
def rz9 (m v : Int × Int) : Int × Int:=if 0 < cmpD v.1 v.2 m.1 m.2 then v else m
def jn9 (M V : List (Int × Int)) : List (Int × Int):=(List.range M.length).map fun i => rz9 (M.getD i (0,0)) (V.getD i (0,0))
def rzA9 (M V : List (Int × Int)) (i : Nat) : List (Int × Int):=(List.range M.length).map fun k => if k < i then rz9 (M.getD k (0,0)) (V.getD k (0,0)) else M.getD k (0,0)
theorem jn9_length (M V : List (Int × Int)) : (jn9 M V).length = M.length:=by simp [jn9]
theorem rzA9_0 (M V : List (Int × Int)) : rzA9 M V 0 = M:=by
 apply List.ext_getElem?
 intro k
 by_cases h : k < M.length
 ·simp [rzA9,h,List.getD]
 ·simp [rzA9,h]
  try omega
theorem rzA9_at {M V : List (Int × Int)} {i : Nat} (h : i < M.length) : (rzA9 M V i)[i]? = some (M.getD i (0,0)):=by simp [rzA9,h]
theorem rzA9_set {M V : List (Int × Int)} {i : Nat} (h : i < M.length) (hc : 0 < cmpD (V.getD i (0,0)).1 (V.getD i (0,0)).2 (M.getD i (0,0)).1 (M.getD i (0,0)).2) : rzA9 M V (i + 1) = (rzA9 M V i).set i (V.getD i (0,0)):=by
 apply List.ext_getElem?
 intro k;rw [List.getElem?_set]
 by_cases hk : k < M.length
 ·by_cases e : i = k
  ·subst e
   simp only [rzA9,List.length_map,List.length_range,h,if_true,List.getElem?_map,List.getElem?_range h,Option.map_some,Nat.lt_succ_self,rz9,if_pos hc]
  ·have e1 : (k < i + 1) = (k < i):=by simp;omega
   simp only [rzA9,List.getElem?_map,List.getElem?_range hk,Option.map_some,if_neg e,e1]
 ·have : ¬ i = k:=by omega
  simp [rzA9,hk,this]
theorem rzA9_keep {M V : List (Int × Int)} {i : Nat} (h : i < M.length) (hc : ¬ 0 < cmpD (V.getD i (0,0)).1 (V.getD i (0,0)).2 (M.getD i (0,0)).1 (M.getD i (0,0)).2) : rzA9 M V (i + 1) = rzA9 M V i:=by
 apply List.ext_getElem?
 intro k
 by_cases hk : k < M.length
 ·simp only [rzA9,List.getElem?_map,List.getElem?_range hk,Option.map_some]
  by_cases e : k = i
  ·subst e
   rw [if_pos (Nat.lt_succ_self _),if_neg (Nat.lt_irrefl _),rz9,if_neg hc]
  ·have e1 : (k < i + 1) = (k < i):=by simp;omega
   simp only [e1]
 ·simp [rzA9,hk]
theorem rzA9_all {M V : List (Int × Int)} (h : V.length = M.length) : rzA9 M V V.length = jn9 M V:=by
 unfold rzA9 jn9
 apply List.map_congr_left
 intro k hk;rw [if_pos (by have:=List.mem_range.1 hk;omega)]
set_option maxHeartbeats 1000000 in
theorem raise9 (M V : List (Int × Int)) (B g c2 : Nat) (a : Option Addr) (c : Nat) (w : World) (hM : OwnY yD B w (.slice (some ⟨g,0,none⟩) M.length c2) M) (hV : SlY yD w a V.length c V) (hl : V.length = M.length) (hl0 : 0 < V.length) (hne : ∀ x,a = some x → x.block ≠ g) : Calls Tryz.prog 128 #[.slice (some ⟨g,0,none⟩) M.length c2,.slice a V.length c] w fun e w' => e = .returned (.tuple #[])∧OwnY yD B w' (.slice (some ⟨g,0,none⟩) M.length c2) (jn9 M V)∧Upd (fun k => k = g) w w':=by
 go_enter Tryz.func128,Tryz.ntmps128
 go_upto_region 0 with fail
 refine wp_region_lit ?_;refine vl_gen (fun T => T.size = 25∧T[0]? = some (gw true (.slice (some ⟨g,0,none⟩) M.length c2))∧T[1]? = some (gw true (.slice a V.length c))) ⟨rfl,rfl,rfl⟩ (fun Z0 ⟨hz,s0,s1⟩ => ?_);have hB : Below w.heap.size w w:=Below.refl _ _;have hv0 : Below w.heap.size w w:=Below.refl _ _;obtain ⟨qv,ov,hva,hlie⟩:=lie0_9 hV hl0;subst hva;have hqg : ¬ qv = g:=hne _ rfl;have hgl : g < w.heap.size:=(hM.blk g rfl).2;have hqvl:=vlt9 hV hl0;have q15_0:=((Rp.nil hz).cons s0).cons s1;clear hz s0 s1
 refine q15_0.t _ (ex_move rfl (q15_0.e (j:=1) rfl)) fun _ q15_1 => ?_;clear q15_0
 refine q15_1.t (.int .i64 (V.length : Int)) (ex_lenV8 rfl rfl (q15_1.e (j:=6) rfl)) fun _ q15_2 => ?_;clear q15_1
 refine q15_2.t (.int .i64 0) (ex_move rfl rfl) fun _ q15_3 => ?_;clear q15_2
 have hz:=q15_3.z;have s0:=q15_3.a 0 rfl;have s6:=q15_3.a 6 rfl;have s7:=q15_3.a 7 rfl;have s8:=q15_3.a 8 rfl;clear q15_3;refine wpList_nil ?_
 have hvl : V.length ≤ 9223372036854775807:=by have h1:=hV.max;have h2:=hV.cap;unfold maxLen at h1;omega
 have hs8 : _ = some (gw true (.int .i64 ((0 : Nat) : Int))):=s8
 go_upto_region 1 with fail
 refine v_loop 8 V.length (fun i T wr => T.size = 25∧T[0]? = some (gw true (.slice (some ⟨g,0,none⟩) M.length c2))∧T[6]? = some (gw true (.slice (some ⟨qv,ov,none⟩) V.length c))∧T[7]? = some (gw true (.int .i64 (V.length : Int)))∧T[8]? = some (gw true (.int .i64 (i : Int)))∧Hid (OwnY yD B wr (.slice (some ⟨g,0,none⟩) M.length c2) (rzA9 M V i)∧Upd (fun k => k = g) w wr)) (fun i T w h => h.2.2.2.2.1) ⟨hz,s0,s6,s7,hs8,by rw [rzA9_0];exact hM,Upd.refl _ _⟩ ?_;clear hz s0 s6 s7 s8 hs8;intro i R0 wr hi hh;obtain ⟨hz,s0,s6,s7,s8,HJ⟩:=hh;obtain ⟨OW,UW⟩:=HJ.out;clear HJ hv0
 by_cases hit : i < V.length
 ·have d1 : decide ((i : Int) < (V.length : Int)) = true:=decide_eq_true (by omega)
  go_upto_region 1 with fail
  refine wp_region_lit ?_;have q16_0:=((((Rp.nil hz).cons s0).cons s6).cons s7).cons s8;clear hz s0 s6 s7 s8
  refine q16_0.t (.bool true) (ex_bin rfl (q16_0.e (j:=8) rfl) (q16_0.e (j:=7) rfl) (lssD8 _ _ _ _ true d1 _)) fun _ q16_1 => ?_;clear q16_0
  have hz:=q16_1.z;have s0:=q16_1.a 0 rfl;have s6:=q16_1.a 6 rfl;have s7:=q16_1.a 7 rfl;have s8:=q16_1.a 8 rfl;have s9:=q16_1.a 9 rfl;clear q16_1;refine wpList_nil ?_
  go_upto_region 2 with fail
  refine wp_cond_true ((ev s9 rfl).trans rfl) ?_;clear s9 d1
  obtain ⟨x,hx⟩ : ∃ x,x = (V.getD i (0,0)):=⟨_,rfl⟩
  obtain ⟨y,hy⟩ : ∃ y,y = (M.getD i (0,0)):=⟨_,rfl⟩
  have hxi : V[i]? = some x:=by rw [hx];simp [List.getD,List.getElem?_eq_getElem hit]
  have hyi : (rzA9 M V i)[i]? = some y:=by rw [hy];exact rzA9_at (by omega)
  have e3 : wr.cell? ⟨qv,ov + i * 2,none⟩ = some (.int .u64 x.1):=(UW.cell (p:=⟨qv,_,none⟩) hqvl hqg).trans (hlie i x hxi 0 _ rfl);have e4 : wr.cell? ⟨qv,ov + i * 2 + 1,none⟩ = some (.int .u64 x.2):=(UW.cell (p:=⟨qv,_,none⟩) hqvl hqg).trans (hlie i x hxi 1 _ rfl)
  obtain ⟨q5,hq5⟩ : ∃ z,z = wr.heap.size:=⟨_,rfl⟩
  obtain ⟨w5,hw5⟩ : ∃ y,y = wr.alloc (.cells #[.int .u64 0,.int .u64 0] 26):=⟨_,rfl⟩
  have b5 : Below wr.heap.size wr w5:=by rw [hw5];exact (Below.refl _ _).alloc (Nat.le_refl _) _
  have HQ : DB9 w5 q5 (0,0):=by rw [hw5,hq5];exact BX7.new _ _ _
  have z5:=b5.size;have l5:=HQ.lt;have zw:=UW.size
  go_upto_region 2 with fail
  refine wp_region_lit ?_;have q17_0:=((((Rp.nil hz).cons s0).cons s6).cons s7).cons s8;clear hz s0 s6 s7 s8
  refine q17_0.t _ (ex_move rfl (q17_0.e (j:=8) rfl)) fun _ q17_1 => ?_;clear q17_0
  refine q17_1.t (.pointer (some ⟨qv,ov + i * 2,none⟩)) (ex_ix rfl (q17_1.e (j:=6) rfl) (q17_1.e (j:=8) rfl) (ixV9 qv ov V.length c i hit _)) fun _ q17_2 => ?_;clear q17_1
  refine q17_2.t (.agg #[.int .u64 x.1,.int .u64 x.2]) (ex_ld rfl (q17_2.e (j:=11) rfl) (ldDr8 (d:=x) e3 e4)) fun _ q17_3 => ?_;clear q17_2
  refine vw (.pointer (some ⟨q5,0,none⟩)) w5 (want_none rfl) (ex_al rfl (by rw [hw5,hq5];exact alD9 _)) rfl q17_3.z (by decide) (q17_3.k fun Ya q17_4 => ?_);clear q17_3
  refine q17_4.t _ (ex_assign rfl (q17_4.e (j:=10) rfl)) fun _ q17_5 => ?_;clear q17_4
  refine vs (sets w5 q5 0 (dcs9 x)) (want_none rfl) (ex_st rfl (q17_5.e (j:=5) rfl) (q17_5.e (j:=12) rfl) (stD9 HQ x)) rfl ?_;have HD:=DB9.put HQ x;have UD:=updD9 w5 q5 x
  obtain ⟨w6,hw6⟩ : ∃ v,v = sets w5 q5 0 (dcs9 x):=⟨_,rfl⟩
  rw [← hw6] at HD UD ⊢;clear hw6;have b6 : Below wr.heap.size wr w6:=b5.trans (UD.below (by omega) (fun k hk => by omega));have OW:=OW.grow b6;have UW:=UW.trans (Upd.of_below b6);have z6:=UW.size;clear UD HQ b5 b6;have h60 : Below w6.heap.size w6 w6:=Below.refl _ _;have cc1 : w6.cell? ⟨g,i * 2,none⟩ = some (.int .u64 y.1):=OW.cell kD i y hyi 0 _ rfl;have cc2 : w6.cell? ⟨g,i * 2 + 1,none⟩ = some (.int .u64 y.2):=OW.cell kD i y hyi 1 _ rfl;have hz:=q17_5.z;have s0:=q17_5.a 0 rfl;have s4:=q17_5.a 4 rfl;have s5:=q17_5.a 5 rfl;have s6:=q17_5.a 6 rfl;have s7:=q17_5.a 7 rfl;have s8:=q17_5.a 8 rfl;clear q17_5;refine wpList_nil ?_
  go_upto_region 3 with fail
  refine vq_start (C:=fun v => Below w6.heap.size w6 v) (by kernel_rfl) (by kernel_rfl) h60.drew ?_;have q18_0:=((((((Rp.nil hz).cons s0).cons s4).cons s5).cons s6).cons s7).cons s8;clear hz s0 s4 s5 s6 s7 s8
  refine q18_0.q (.agg #[.int .u64 x.1,.int .u64 x.2]) (fun v hv => ex_ld rfl (q18_0.e (j:=5) rfl) (DB9.ld (HD.bel hv))) fun _ q18_1 => ?_;clear q18_0
  refine q18_1.q _ (fun v hv => ex_move rfl (q18_1.e (j:=0) rfl)) fun _ q18_2 => ?_;clear q18_1
  refine q18_2.q _ (fun v hv => ex_move rfl (q18_2.e (j:=4) rfl)) fun _ q18_3 => ?_;clear q18_2
  refine q18_3.q (.pointer (some ⟨g,i * 2,none⟩)) (fun v hv => ex_ix rfl (q18_3.e (j:=14) rfl) (q18_3.e (j:=15) rfl) (ixVz9 g M.length c2 i (by omega) _)) fun _ q18_4 => ?_;clear q18_3
  refine q18_4.q (.agg #[.int .u64 y.1,.int .u64 y.2]) (fun v hv => ex_ld rfl (q18_4.e (j:=16) rfl) (ldDr8 (d:=y) (cell8 cc1 hv) (cell8 cc2 hv))) fun _ q18_5 => ?_;clear q18_4
  refine vq_call true (.int .i64 (cmpD x.1 x.2 y.1 y.2)) (want_none rfl) (fun hc v hv => ex_call rfl (by simp only [List.map_toArray,List.map_cons,List.map_nil,(q18_5.e (j:=13) rfl),(q18_5.e (j:=17) rfl),evc] <;> rfl) rfl) (fun hc v hv => (bel8 hv (compare_any x.1 x.2 y.1 y.2 v))) rfl q18_5.z (by decide) (q18_5.k fun Yb q18_6 => ?_);clear q18_5
  refine q18_6.q (.bool (decide (0 < (cmpD x.1 x.2 y.1 y.2)))) (fun v hv => ex_bin rfl (q18_6.e (j:=18) rfl) rfl (gtrC _ _ _ _ _)) fun _ q18_7 => ?_;clear q18_6
  have hz:=q18_7.z;have s0:=q18_7.a 0 rfl;have s4:=q18_7.a 4 rfl;have s5:=q18_7.a 5 rfl;have s6:=q18_7.a 6 rfl;have s7:=q18_7.a 7 rfl;have s8:=q18_7.a 8 rfl;have s19:=q18_7.a 19 rfl;clear q18_7;refine vq_nil (fun x1 hx1 => ?_);have HD:=HD.bel hx1;have OW:=OW.grow hx1;have UW:=UW.trans (Upd.of_below hx1);clear h60 cc1 cc2 e3 e4
  go_upto_region 4 with fail
  cases eb : (decide (0 < (cmpD x.1 x.2 y.1 y.2)))
  ·refine wp_cond_false ((ev s19 rfl).trans (congrArg Value.bool eb)) ?_
   clear s19;clear s4 s5
   go_upto_region 5 with fail
   refine wp_region_lit ?_;have q19_0:=((((Rp.nil hz).cons s0).cons s6).cons s7).cons s8;clear hz s0 s6 s7 s8
   refine q19_0.t (.int .i64 ((i + 1 : Nat) : Int)) (ex_bin rfl (q19_0.e (j:=8) rfl) rfl (addD8 _ _ _ 1 ((i + 1 : Nat) : Int) (by rw [IntKind.wrap_i64];omega) _)) fun _ q19_1 => ?_;clear q19_0
   refine q19_1.t _ (ex_move rfl (q19_1.e (j:=24) rfl)) fun _ q19_2 => ?_;clear q19_1
   have hz:=q19_2.z;have s0:=q19_2.a 0 rfl;have s6:=q19_2.a 6 rfl;have s7:=q19_2.a 7 rfl;have s8:=q19_2.a 8 rfl;clear q19_2;refine wpList_nil ?_
   exact ⟨_,rfl,by omega,hz,s0,s6,s7,s8,by rw [rzA9_keep (by omega) (by rw [← hx,← hy];exact of_decide_eq_false eb)];exact OW,UW⟩
  ·refine wp_cond_true ((ev s19 rfl).trans (congrArg Value.bool eb)) ?_
   clear s19
   go_upto_region 4 with fail
   refine wp_region_lit ?_;have q20_0:=((((((Rp.nil hz).cons s0).cons s4).cons s5).cons s6).cons s7).cons s8;clear hz s0 s4 s5 s6 s7 s8
   refine q20_0.t _ (ex_move rfl (q20_0.e (j:=0) rfl)) fun _ q20_1 => ?_;clear q20_0
   refine q20_1.t _ (ex_move rfl (q20_1.e (j:=4) rfl)) fun _ q20_2 => ?_;clear q20_1
   refine q20_2.t (.agg #[.int .u64 x.1,.int .u64 x.2]) (ex_ld rfl (q20_2.e (j:=5) rfl) (DB9.ld HD)) fun _ q20_3 => ?_;clear q20_2
   refine q20_3.t (.pointer (some ⟨g,i * 2,none⟩)) (ex_ix rfl (q20_3.e (j:=20) rfl) (q20_3.e (j:=21) rfl) (ixVz9 g M.length c2 i (by omega) _)) fun _ q20_4 => ?_;clear q20_3
   refine vs (sets x1 g (i * 2) (dcs9 x)) (want_none rfl) (ex_st rfl (q20_4.e (j:=23) rfl) (q20_4.e (j:=22) rfl) (own_stD9 OW hyi x).1) rfl ?_;have OS:=(own_stD9 OW hyi x).2
   obtain ⟨w8,hw8⟩ : ∃ v,v = sets x1 g (i * 2) (dcs9 x):=⟨_,rfl⟩
   rw [← hw8] at OS ⊢;clear hw8;have hz:=q20_4.z;have s0:=q20_4.a 0 rfl;have s6:=q20_4.a 6 rfl;have s7:=q20_4.a 7 rfl;have s8:=q20_4.a 8 rfl;clear q20_4;refine wpList_nil ?_
   go_upto_region 5 with fail
   refine wp_region_lit ?_;have q21_0:=((((Rp.nil hz).cons s0).cons s6).cons s7).cons s8;clear hz s0 s6 s7 s8
   refine q21_0.t (.int .i64 ((i + 1 : Nat) : Int)) (ex_bin rfl (q21_0.e (j:=8) rfl) rfl (addD8 _ _ _ 1 ((i + 1 : Nat) : Int) (by rw [IntKind.wrap_i64];omega) _)) fun _ q21_1 => ?_;clear q21_0
   refine q21_1.t _ (ex_move rfl (q21_1.e (j:=24) rfl)) fun _ q21_2 => ?_;clear q21_1
   have hz:=q21_2.z;have s0:=q21_2.a 0 rfl;have s6:=q21_2.a 6 rfl;have s7:=q21_2.a 7 rfl;have s8:=q21_2.a 8 rfl;clear q21_2;refine wpList_nil ?_
   exact ⟨_,rfl,by omega,hz,s0,s6,s7,s8,by rw [rzA9_set (by omega) (by rw [← hx,← hy];exact of_decide_eq_true eb),← hx];exact OS.1,UW.trans OS.2⟩
 ·have d1 : decide ((i : Int) < (V.length : Int)) = false:=decide_eq_false (by omega)
  go_upto_region 1 with fail
  refine wp_region_lit ?_;have q22_0:=((((Rp.nil hz).cons s0).cons s6).cons s7).cons s8;clear hz s0 s6 s7 s8
  refine q22_0.t (.bool false) (ex_bin rfl (q22_0.e (j:=8) rfl) (q22_0.e (j:=7) rfl) (lssD8 _ _ _ _ false d1 _)) fun _ q22_1 => ?_;clear q22_0
  have hz:=q22_1.z;have s9:=q22_1.a 9 rfl;clear q22_1;refine wpList_nil ?_
  go_upto_region 2 with fail
  have ei : i = V.length:=by omega
  subst ei;rw [rzA9_all hl] at OW;refine wp_cond_false ((ev s9 rfl).trans rfl) ?_
  go_wp2
  refine bodyPost_end (v:=.tuple #[]) (by first | rfl | kernel_rfl) rfl ?_
  exact ⟨rfl,OW,UW⟩
end Go.Proofs.YtgncpcfncojgoaaGreatDoor
namespace Go.Proofs.YtgncpcfncojgoaaGreatDoor
open Go.RowKit
open Classical
def enb (a b : En) : Bool:=decide (a.c = b.c) && (decide (a.n = b.n) && (decide (a.o.k = b.o.k) && (decide (a.o.s = b.o.s) && decide (a.o.v.data = b.o.v.data))))
theorem enb_iff (a b : En) : enb a b = true ↔ a = b:=by
 rcases a with ⟨c,n,⟨k,s,⟨v⟩⟩⟩
 rcases b with ⟨c',n',⟨k',s',⟨v'⟩⟩⟩
 simp only [enb,Bool.and_eq_true,decide_eq_true_eq,En.mk.injEq,Opn.mk.injEq,ByteArray.mk.injEq]
end Go.Proofs.YtgncpcfncojgoaaGreatDoor
namespace Go.Proofs.YtgncpcfncojgoaaGreatDoor
open Go.RowKit Go.Maps
open Classical
structure Cf where
 f : Int
 r : Int
 p : Int
 u : Bool
def Cf.val (c : Cf) : Value:=.agg #[.int .i64 c.f,.int .i64 c.r,.int .i64 c.p,.bool c.u]
def inR (x a b : Int) : Bool:=decide (a ≤ x) && decide (x ≤ b)
def cfB (c : Cf) : Bool:=inR c.f 1 3 && inR c.r 1 256 && inR c.p 6 100
def rdB (c : Int) : Bool:=decide (c = 4) || decide (c = 5) || decide (c = 6)
def apB (p c r : Int) : Bool:=if c = 7 then decide (p = 0) else inR p 1 r
def kdB (k : Int) : Bool:=inR k 1 14
def noV : ByteArray:=⟨#[]⟩
def resB (c s : Int) (v : ByteArray) : Bool:=if c = 1 ∨ c = 2 ∨ c = 4 then inR s 0 1023 && decide (v.size ≤ 64) else if c = 5 then inR s 0 1023 && decide (v = noV) else if c = 6 then inR s 0 1024 && decide (v = noV) else if c = 3 ∨ c = 7 then decide (s = 0) && decide (v = noV) else false
theorem withinM_any (x a b : Int) (w : World) : Calls Tryz.prog 141 #[.int .i64 x,.int .i64 a,.int .i64 b] w fun e w' => e = .returned (.bool (inR x a b))∧w' = w:=by
 by_cases h1 : a ≤ x
 ·by_cases h2 : x ≤ b
  ·go_enter Tryz.func141,Tryz.ntmps141
   go_wp2
   go_ret
   exact ⟨by simp [inR,h1,h2],rfl⟩
  ·go_enter Tryz.func141,Tryz.ntmps141
   go_wp2
   go_ret
   exact ⟨by simp [inR,h1,h2],rfl⟩
 ·go_enter Tryz.func141,Tryz.ntmps141
  go_wp2
  go_ret
  exact ⟨by simp [inR,h1];omega,rfl⟩
theorem isKind_any (k : Int) (w : World) : Calls Tryz.prog 94 #[.int .i64 k] w fun e w' => e = .returned (.bool (kdB k))∧w' = w:=by
 by_cases h1 : 1 ≤ k
 ·by_cases h2 : k ≤ 14
  ·go_enter Tryz.func94,Tryz.ntmps94
   go_wp2
   go_ret
   exact ⟨by simp [kdB,inR,h1,h2],rfl⟩
  ·go_enter Tryz.func94,Tryz.ntmps94
   go_wp2
   go_ret
   exact ⟨by simp [kdB,inR,h1,h2],rfl⟩
 ·go_enter Tryz.func94,Tryz.ntmps94
  go_wp2
  go_ret
  exact ⟨by simp [kdB,inR,h1];omega,rfl⟩
theorem isReading_any (c : Int) (w : World) : Calls Tryz.prog 147 #[.int .i64 c] w fun e w' => e = .returned (.bool (rdB c))∧w' = w:=by
 by_cases h1 : c = 4
 ·subst h1
  go_enter Tryz.func147,Tryz.ntmps147
  go_wp2
  go_ret
  exact ⟨rfl,rfl⟩
 ·by_cases h2 : c = 5
  ·subst h2
   go_enter Tryz.func147,Tryz.ntmps147
   go_wp2
   go_ret
   exact ⟨rfl,rfl⟩
  ·by_cases h3 : c = 6
   ·subst h3
    go_enter Tryz.func147,Tryz.ntmps147
    go_wp2
    go_ret
    exact ⟨rfl,rfl⟩
   ·go_enter Tryz.func147,Tryz.ntmps147
    go_wp2
    go_ret
    exact ⟨by simp [rdB,h1,h2,h3],rfl⟩
theorem answerPlace_any (p c r : Int) (w : World) : Calls Tryz.prog 143 #[.int .i64 p,.int .i64 c,.int .i64 r] w fun e w' => e = .returned (.bool (apB p c r))∧w' = w:=by
 by_cases h1 : c = 7
 ·subst h1
  by_cases h2 : p = 0
  ·subst h2
   go_enter Tryz.func143,Tryz.ntmps143
   go_wp2
   go_ret
   exact ⟨rfl,rfl⟩
  ·go_enter Tryz.func143,Tryz.ntmps143
   go_wp2
   go_ret
   exact ⟨by simp [apB,h2],rfl⟩
 ·have H:=hide (withinM_any p 1 r w)
  go_enter Tryz.func143,Tryz.ntmps143
  go_wp2_with fail
  refine H.out.mono ?_;rintro e w1 ⟨rfl,rfl⟩
  go_wp2
  go_ret
  exact ⟨by simp [apB,h1],rfl⟩
set_option maxHeartbeats 1000000 in
theorem configMayBe_any (c : Cf) (w : World) : Calls Tryz.prog 93 #[c.val] w fun e w' => e = .returned (.bool (cfB c))∧Below w.heap.size w w':=by
 obtain ⟨f,r,p,u⟩:=c;have H1:=hide (fun W => withinM_any f 1 3 W);have H2:=hide (fun W => withinM_any r 1 256 W);have H3:=hide (fun W => withinM_any p 6 100 W);have V : Hid (cfB ⟨f,r,p,u⟩ = (inR f 1 3 && inR r 1 256 && inR p 6 100)):=rfl
 unfold Cf.val
 dsimp only
 have hB : Below w.heap.size w (w.alloc (.cells #[.int .i64 f,.int .i64 r,.int .i64 p,.bool u] 23)):=(Below.refl _ _).alloc (Nat.le_refl _) _;have HB:=hide hB;clear hB
 generalize inR f 1 3 = x1 at *
 generalize inR r 1 256 = x2 at *
 generalize inR p 6 100 = x3 at *
 cases x1 with
 | false =>
  go_enter Tryz.func93,Tryz.ntmps93
  go_wp2_with fail
  refine (H1.out _).mono ?_;rintro e w1 ⟨rfl,rfl⟩
  go_wp2
  go_ret
  exact ⟨by rw [V.out];rfl,HB.out⟩
 | true =>
  cases x2 with
  | false =>
   go_enter Tryz.func93,Tryz.ntmps93
   go_wp2_with fail
   refine (H1.out _).mono ?_;rintro e w1 ⟨rfl,rfl⟩
   go_wp2_with fail
   refine (H2.out _).mono ?_;rintro e w1 ⟨rfl,rfl⟩
   go_wp2
   go_ret
   exact ⟨by rw [V.out];rfl,HB.out⟩
  | true =>
   go_enter Tryz.func93,Tryz.ntmps93
   go_wp2_with fail
   refine (H1.out _).mono ?_;rintro e w1 ⟨rfl,rfl⟩
   go_wp2_with fail
   refine (H2.out _).mono ?_;rintro e w1 ⟨rfl,rfl⟩
   go_wp2_with fail
   refine (H3.out _).mono ?_;rintro e w1 ⟨rfl,rfl⟩
   go_wp2
   go_ret
   exact ⟨by rw [V.out];simp,HB.out⟩
theorem logMayBe_any (L : List En) (a : Option Addr) (n c : Nat) (room : Int) (w : World) (h : SlY yE w a n c L) (hf : ∀ e ∈ L,e.fits) :
  Calls Tryz.prog 144 #[.slice a n c,.int .i64 room] w fun e w' => e = .returned (.bool (decide ((chk L room).1 = 0)))∧Below w.heap.size w w':=by
 have H:=hide (checkO_any L a n c room w h hf);clear h
 go_enter Tryz.func144,Tryz.ntmps144
 go_wp2_with fail
 refine H.out.mono ?_;rintro e w1 ⟨rfl,b1⟩
 by_cases hx : (chk L room).1 = 0
 ·have V:=hide (decide_eq_true hx)
  go_wp2
  go_ret
  exact ⟨by rw [V.out];rfl,b1⟩
 ·have V:=hide (decide_eq_false hx)
  have hq : ((chk L room).1 == 0) = false:=by simp [hx]
  go_wp2
  go_ret
  exact ⟨by rw [V.out];rfl,b1⟩
set_option maxHeartbeats 1000000 in
theorem resultMayBe_any (c s : Int) (v : ByteArray) (w : World) : Calls Tryz.prog 146 #[.agg #[.int .i64 c,.int .i64 s,.string v]] w fun e w' => e = .returned (.bool (resB c s v))∧Below w.heap.size w w':=by
 have hB : Below w.heap.size w (w.alloc (.cells #[.int .i64 c,.int .i64 s,.string v] 68)):=(Below.refl _ _).alloc (Nat.le_refl _) _;have HB:=hide hB;clear hB
 by_cases h1 : c = 1
 ·subst h1
  have V : Hid (resB 1 s v = (inR s 0 1023 && decide (v.size ≤ 64))):=by simp [Hid,resB]
  have H:=hide (fun W => withinM_any s 0 1023 W)
  generalize inR s 0 1023 = x at *
  cases x with
  | false =>
   go_enter Tryz.func146,Tryz.ntmps146
   go_wp2_with fail
   refine (H.out _).mono ?_;rintro e w1 ⟨rfl,rfl⟩
   go_wp2
   go_ret
   exact ⟨by rw [V.out];rfl,HB.out⟩
  | true =>
   by_cases hv : (v.size : Int) ≤ 64
   ·have hv' : decide (v.size ≤ 64) = true:=decide_eq_true (by omega)
    go_enter Tryz.func146,Tryz.ntmps146
    go_wp2_with fail
    refine (H.out _).mono ?_;rintro e w1 ⟨rfl,rfl⟩
    go_wp2
    go_ret
    exact ⟨by rw [V.out,hv'];first | rfl | (simp;omega),HB.out⟩
   ·have hv' : decide (v.size ≤ 64) = false:=decide_eq_false (by omega)
    go_enter Tryz.func146,Tryz.ntmps146
    go_wp2_with fail
    refine (H.out _).mono ?_;rintro e w1 ⟨rfl,rfl⟩
    go_wp2
    go_ret
    exact ⟨by rw [V.out,hv'];first | rfl | (simp;omega),HB.out⟩
 ·skip
  by_cases h2 : c = 2
  ·subst h2
   have V : Hid (resB 2 s v = (inR s 0 1023 && decide (v.size ≤ 64))):=by simp [Hid,resB]
   have H:=hide (fun W => withinM_any s 0 1023 W)
   generalize inR s 0 1023 = x at *
   cases x with
   | false =>
    go_enter Tryz.func146,Tryz.ntmps146
    go_wp2_with fail
    refine (H.out _).mono ?_;rintro e w1 ⟨rfl,rfl⟩
    go_wp2
    go_ret
    exact ⟨by rw [V.out];rfl,HB.out⟩
   | true =>
    by_cases hv : (v.size : Int) ≤ 64
    ·have hv' : decide (v.size ≤ 64) = true:=decide_eq_true (by omega)
     go_enter Tryz.func146,Tryz.ntmps146
     go_wp2_with fail
     refine (H.out _).mono ?_;rintro e w1 ⟨rfl,rfl⟩
     go_wp2
     go_ret
     exact ⟨by rw [V.out,hv'];first | rfl | (simp;omega),HB.out⟩
    ·have hv' : decide (v.size ≤ 64) = false:=decide_eq_false (by omega)
     go_enter Tryz.func146,Tryz.ntmps146
     go_wp2_with fail
     refine (H.out _).mono ?_;rintro e w1 ⟨rfl,rfl⟩
     go_wp2
     go_ret
     exact ⟨by rw [V.out,hv'];first | rfl | (simp;omega),HB.out⟩
  ·skip
   by_cases h4 : c = 4
   ·subst h4
    have V : Hid (resB 4 s v = (inR s 0 1023 && decide (v.size ≤ 64))):=by simp [Hid,resB]
    have H:=hide (fun W => withinM_any s 0 1023 W)
    generalize inR s 0 1023 = x at *
    cases x with
    | false =>
     go_enter Tryz.func146,Tryz.ntmps146
     go_wp2_with fail
     refine (H.out _).mono ?_;rintro e w1 ⟨rfl,rfl⟩
     go_wp2
     go_ret
     exact ⟨by rw [V.out];rfl,HB.out⟩
    | true =>
     by_cases hv : (v.size : Int) ≤ 64
     ·have hv' : decide (v.size ≤ 64) = true:=decide_eq_true (by omega)
      go_enter Tryz.func146,Tryz.ntmps146
      go_wp2_with fail
      refine (H.out _).mono ?_;rintro e w1 ⟨rfl,rfl⟩
      go_wp2
      go_ret
      exact ⟨by rw [V.out,hv'];first | rfl | (simp;omega),HB.out⟩
     ·have hv' : decide (v.size ≤ 64) = false:=decide_eq_false (by omega)
      go_enter Tryz.func146,Tryz.ntmps146
      go_wp2_with fail
      refine (H.out _).mono ?_;rintro e w1 ⟨rfl,rfl⟩
      go_wp2
      go_ret
      exact ⟨by rw [V.out,hv'];first | rfl | (simp;omega),HB.out⟩
   ·skip
    by_cases h5 : c = 5
    ·subst h5
     have V : Hid (resB 5 s v = (inR s 0 1023 && decide (v = noV))):=by simp [Hid,resB]
     have H:=hide (fun W => withinM_any s 0 1023 W)
     generalize inR s 0 1023 = x at *
     cases x with
     | false =>
      go_enter Tryz.func146,Tryz.ntmps146
      go_wp2_with fail
      refine (H.out _).mono ?_;rintro e w1 ⟨rfl,rfl⟩
      go_wp2
      go_ret
      exact ⟨by rw [V.out];rfl,HB.out⟩
     | true =>
      by_cases hv : v = noV
      ·have hv' : decide (v = noV) = true:=decide_eq_true hv
       have V2 : Hid (resB 5 s v = true):=V.out.trans (by rw [hv'];rfl);clear V hv'
       unfold noV at hv
       subst hv
       go_enter Tryz.func146,Tryz.ntmps146
       go_wp2_with fail
       refine (H.out _).mono ?_;rintro e w1 ⟨rfl,rfl⟩
       go_wp2
       go_ret
       exact ⟨by rw [V2.out];rfl,HB.out⟩
      ·have hv' : decide (v = noV) = false:=decide_eq_false hv
       have g2 : ¬ v.toList = (⟨#[]⟩ : ByteArray).toList:=fun e => hv ((bytes_inj _ _).1 e)
       have g3 : v.toList.isEmpty = false:=by
        rw [Bool.eq_false_iff];intro h
        exact g2 (by rw [List.isEmpty_iff.1 h,ByteArray.toList_eq])
       go_enter Tryz.func146,Tryz.ntmps146
       go_wp2_with fail
       refine (H.out _).mono ?_;rintro e w1 ⟨rfl,rfl⟩
       go_wp2
       go_ret
       exact ⟨by rw [V.out,hv'];first | rfl | (simp;omega),HB.out⟩
    ·skip
     by_cases h6 : c = 6
     ·subst h6
      have V : Hid (resB 6 s v = (inR s 0 1024 && decide (v = noV))):=by simp [Hid,resB]
      have H:=hide (fun W => withinM_any s 0 1024 W)
      generalize inR s 0 1024 = x at *
      cases x with
      | false =>
       go_enter Tryz.func146,Tryz.ntmps146
       go_wp2_with fail
       refine (H.out _).mono ?_;rintro e w1 ⟨rfl,rfl⟩
       go_wp2
       go_ret
       exact ⟨by rw [V.out];rfl,HB.out⟩
      | true =>
       by_cases hv : v = noV
       ·have hv' : decide (v = noV) = true:=decide_eq_true hv
        have V2 : Hid (resB 6 s v = true):=V.out.trans (by rw [hv'];rfl);clear V hv'
        unfold noV at hv
        subst hv
        go_enter Tryz.func146,Tryz.ntmps146
        go_wp2_with fail
        refine (H.out _).mono ?_;rintro e w1 ⟨rfl,rfl⟩
        go_wp2
        go_ret
        exact ⟨by rw [V2.out];rfl,HB.out⟩
       ·have hv' : decide (v = noV) = false:=decide_eq_false hv
        have g2 : ¬ v.toList = (⟨#[]⟩ : ByteArray).toList:=fun e => hv ((bytes_inj _ _).1 e)
        have g3 : v.toList.isEmpty = false:=by
         rw [Bool.eq_false_iff];intro h
         exact g2 (by rw [List.isEmpty_iff.1 h,ByteArray.toList_eq])
        go_enter Tryz.func146,Tryz.ntmps146
        go_wp2_with fail
        refine (H.out _).mono ?_;rintro e w1 ⟨rfl,rfl⟩
        go_wp2
        go_ret
        exact ⟨by rw [V.out,hv'];first | rfl | (simp;omega),HB.out⟩
     ·skip
      by_cases h3 : c = 3
      ·subst h3
       have V : Hid (resB 3 s v = (decide (s = 0) && decide (v = noV))):=by simp [Hid,resB]
       by_cases hs : s = 0
       ·by_cases hv : v = noV
        ·have V2 : Hid (resB 3 s v = true):=V.out.trans (by simp [hs,hv])
         clear V
         unfold noV at hv
         subst hv hs
         go_enter Tryz.func146,Tryz.ntmps146
         go_wp2
         go_ret
         exact ⟨by rw [V2.out];rfl,HB.out⟩
        ·have g2 : ¬ v.toList = (⟨#[]⟩ : ByteArray).toList:=fun e => hv ((bytes_inj _ _).1 e)
         have g3 : v.toList.isEmpty = false:=by
          rw [Bool.eq_false_iff];intro h
          exact g2 (by rw [List.isEmpty_iff.1 h,ByteArray.toList_eq])
         have V2 : Hid (resB 3 s v = false):=V.out.trans (by simp [hv]);clear V;subst hs
         go_enter Tryz.func146,Tryz.ntmps146
         go_wp2
         go_ret
         exact ⟨by rw [V2.out];rfl,HB.out⟩
       ·have V2 : Hid (resB 3 s v = false):=V.out.trans (by simp [hs])
        clear V
        go_enter Tryz.func146,Tryz.ntmps146
        go_wp2
        go_ret
        exact ⟨by rw [V2.out];rfl,HB.out⟩
      ·skip
       by_cases h7 : c = 7
       ·subst h7
        have V : Hid (resB 7 s v = (decide (s = 0) && decide (v = noV))):=by simp [Hid,resB]
        by_cases hs : s = 0
        ·by_cases hv : v = noV
         ·have V2 : Hid (resB 7 s v = true):=V.out.trans (by simp [hs,hv])
          clear V
          unfold noV at hv
          subst hv hs
          go_enter Tryz.func146,Tryz.ntmps146
          go_wp2
          go_ret
          exact ⟨by rw [V2.out];rfl,HB.out⟩
         ·have g2 : ¬ v.toList = (⟨#[]⟩ : ByteArray).toList:=fun e => hv ((bytes_inj _ _).1 e)
          have g3 : v.toList.isEmpty = false:=by
           rw [Bool.eq_false_iff];intro h
           exact g2 (by rw [List.isEmpty_iff.1 h,ByteArray.toList_eq])
          have V2 : Hid (resB 7 s v = false):=V.out.trans (by simp [hv]);clear V;subst hs
          go_enter Tryz.func146,Tryz.ntmps146
          go_wp2
          go_ret
          exact ⟨by rw [V2.out];rfl,HB.out⟩
        ·have V2 : Hid (resB 7 s v = false):=V.out.trans (by simp [hs])
         clear V
         go_enter Tryz.func146,Tryz.ntmps146
         go_wp2
         go_ret
         exact ⟨by rw [V2.out];rfl,HB.out⟩
       ·skip
        have V : Hid (resB c s v = false):=by simp [Hid,resB,h1,h2,h3,h4,h5,h6,h7]
        have n1 : (c == 1) = false:=by simp [h1]
        have n2 : (c == 2) = false:=by simp [h2]
        have n3 : (c == 3) = false:=by simp [h3]
        have n4 : (c == 4) = false:=by simp [h4]
        have n5 : (c == 5) = false:=by simp [h5]
        have n6 : (c == 6) = false:=by simp [h6]
        have n7 : (c == 7) = false:=by simp [h7]
        go_enter Tryz.func146,Tryz.ntmps146
        go_wp2
        go_ret
        exact ⟨by rw [V.out];rfl,HB.out⟩
def zEn : En:=⟨0,0,⟨0,0,⟨#[]⟩⟩⟩
def blB (m : Mg) (nl nv : Nat) (at_ : Nat) : Bool :=
 if at_ = 0 then decide (m.nd = 0) else if at_ = 1 then decide (m.vw = 0) else if at_ = 2 then decide (m.ls = 0) else if at_ = 3 then decide (m.p = 0) else if at_ = 4 then decide (m.cm = 0) else if at_ = 5 then decide (m.d = (0,0)) else if at_ = 6 then enb m.e zEn else if at_ = 7 then decide (m.r = (0,0,⟨#[]⟩)) else if at_ = 8 then decide (nl = 0) else decide (nv = 0)
set_option maxHeartbeats 1000000 in
theorem isBlank_0 (m : Mg) (a1 a2 : Option Addr) (nl cl nv cv : Nat) (w : World) : Calls Tryz.prog 142 #[m.val (.slice a1 nl cl) (.slice a2 nv cv),.int .i64 0] w fun e w' => e = .returned (.bool (blB m nl nv 0))∧Below w.heap.size w w':=by
 by_cases h : m.nd = 0
 ·have V : Hid (blB m nl nv 0 = true):=by simp [Hid,blB,h]
  go_enter Tryz.func142,Tryz.ntmps142
  go_upto_region 1 with (refine boxMk rfl (.tmp 0) rfl m _ _ rfl ?_;intro q1 w1 hq1 M1 b1 z1;subst hq1)
  have HB:=hide b1;have x1:=M1.cell 1 _ rfl;rw [h] at x1;clear M1 b1 z1
  go_wp2
  go_ret
  exact ⟨by rw [V.out];rfl,HB.out⟩
 ·have V : Hid (blB m nl nv 0 = false):=by simp [Hid,blB,h]
  have hq : (m.nd == 0) = false:=by simp [h]
  go_enter Tryz.func142,Tryz.ntmps142
  go_upto_region 1 with (refine boxMk rfl (.tmp 0) rfl m _ _ rfl ?_;intro q1 w1 hq1 M1 b1 z1;subst hq1)
  have HB:=hide b1;have x1:=M1.cell 1 _ rfl;clear M1 b1 z1
  go_wp2
  go_ret
  exact ⟨by rw [V.out];rfl,HB.out⟩
set_option maxHeartbeats 1000000 in
theorem isBlank_1 (m : Mg) (a1 a2 : Option Addr) (nl cl nv cv : Nat) (w : World) : Calls Tryz.prog 142 #[m.val (.slice a1 nl cl) (.slice a2 nv cv),.int .i64 1] w fun e w' => e = .returned (.bool (blB m nl nv 1))∧Below w.heap.size w w':=by
 by_cases h : m.vw = 0
 ·have V : Hid (blB m nl nv 1 = true):=by simp [Hid,blB,h]
  go_enter Tryz.func142,Tryz.ntmps142
  go_upto_region 1 with (refine boxMk rfl (.tmp 0) rfl m _ _ rfl ?_;intro q1 w1 hq1 M1 b1 z1;subst hq1)
  have HB:=hide b1;have x2:=M1.cell 2 _ rfl;rw [h] at x2;clear M1 b1 z1
  go_wp2
  go_ret
  exact ⟨by rw [V.out];rfl,HB.out⟩
 ·have V : Hid (blB m nl nv 1 = false):=by simp [Hid,blB,h]
  have hq : (m.vw == 0) = false:=by simp [h]
  go_enter Tryz.func142,Tryz.ntmps142
  go_upto_region 1 with (refine boxMk rfl (.tmp 0) rfl m _ _ rfl ?_;intro q1 w1 hq1 M1 b1 z1;subst hq1)
  have HB:=hide b1;have x2:=M1.cell 2 _ rfl;clear M1 b1 z1
  go_wp2
  go_ret
  exact ⟨by rw [V.out];rfl,HB.out⟩
set_option maxHeartbeats 1000000 in
theorem isBlank_2 (m : Mg) (a1 a2 : Option Addr) (nl cl nv cv : Nat) (w : World) : Calls Tryz.prog 142 #[m.val (.slice a1 nl cl) (.slice a2 nv cv),.int .i64 2] w fun e w' => e = .returned (.bool (blB m nl nv 2))∧Below w.heap.size w w':=by
 by_cases h : m.ls = 0
 ·have V : Hid (blB m nl nv 2 = true):=by simp [Hid,blB,h]
  go_enter Tryz.func142,Tryz.ntmps142
  go_upto_region 1 with (refine boxMk rfl (.tmp 0) rfl m _ _ rfl ?_;intro q1 w1 hq1 M1 b1 z1;subst hq1)
  have HB:=hide b1;have x13:=M1.cell 13 _ rfl;rw [h] at x13;clear M1 b1 z1
  go_wp2
  go_ret
  exact ⟨by rw [V.out];rfl,HB.out⟩
 ·have V : Hid (blB m nl nv 2 = false):=by simp [Hid,blB,h]
  have hq : (m.ls == 0) = false:=by simp [h]
  go_enter Tryz.func142,Tryz.ntmps142
  go_upto_region 1 with (refine boxMk rfl (.tmp 0) rfl m _ _ rfl ?_;intro q1 w1 hq1 M1 b1 z1;subst hq1)
  have HB:=hide b1;have x13:=M1.cell 13 _ rfl;clear M1 b1 z1
  go_wp2
  go_ret
  exact ⟨by rw [V.out];rfl,HB.out⟩
set_option maxHeartbeats 1000000 in
theorem isBlank_3 (m : Mg) (a1 a2 : Option Addr) (nl cl nv cv : Nat) (w : World) : Calls Tryz.prog 142 #[m.val (.slice a1 nl cl) (.slice a2 nv cv),.int .i64 3] w fun e w' => e = .returned (.bool (blB m nl nv 3))∧Below w.heap.size w w':=by
 by_cases h : m.p = 0
 ·have V : Hid (blB m nl nv 3 = true):=by simp [Hid,blB,h]
  go_enter Tryz.func142,Tryz.ntmps142
  go_upto_region 1 with (refine boxMk rfl (.tmp 0) rfl m _ _ rfl ?_;intro q1 w1 hq1 M1 b1 z1;subst hq1)
  have HB:=hide b1;have x11:=M1.cell 11 _ rfl;rw [h] at x11;clear M1 b1 z1
  go_wp2
  go_ret
  exact ⟨by rw [V.out];rfl,HB.out⟩
 ·have V : Hid (blB m nl nv 3 = false):=by simp [Hid,blB,h]
  have hq : (m.p == 0) = false:=by simp [h]
  go_enter Tryz.func142,Tryz.ntmps142
  go_upto_region 1 with (refine boxMk rfl (.tmp 0) rfl m _ _ rfl ?_;intro q1 w1 hq1 M1 b1 z1;subst hq1)
  have HB:=hide b1;have x11:=M1.cell 11 _ rfl;clear M1 b1 z1
  go_wp2
  go_ret
  exact ⟨by rw [V.out];rfl,HB.out⟩
set_option maxHeartbeats 1000000 in
theorem isBlank_4 (m : Mg) (a1 a2 : Option Addr) (nl cl nv cv : Nat) (w : World) : Calls Tryz.prog 142 #[m.val (.slice a1 nl cl) (.slice a2 nv cv),.int .i64 4] w fun e w' => e = .returned (.bool (blB m nl nv 4))∧Below w.heap.size w w':=by
 by_cases h : m.cm = 0
 ·have V : Hid (blB m nl nv 4 = true):=by simp [Hid,blB,h]
  go_enter Tryz.func142,Tryz.ntmps142
  go_upto_region 1 with (refine boxMk rfl (.tmp 0) rfl m _ _ rfl ?_;intro q1 w1 hq1 M1 b1 z1;subst hq1)
  have HB:=hide b1;have x12:=M1.cell 12 _ rfl;rw [h] at x12;clear M1 b1 z1
  go_wp2
  go_ret
  exact ⟨by rw [V.out];rfl,HB.out⟩
 ·have V : Hid (blB m nl nv 4 = false):=by simp [Hid,blB,h]
  have hq : (m.cm == 0) = false:=by simp [h]
  go_enter Tryz.func142,Tryz.ntmps142
  go_upto_region 1 with (refine boxMk rfl (.tmp 0) rfl m _ _ rfl ?_;intro q1 w1 hq1 M1 b1 z1;subst hq1)
  have HB:=hide b1;have x12:=M1.cell 12 _ rfl;clear M1 b1 z1
  go_wp2
  go_ret
  exact ⟨by rw [V.out];rfl,HB.out⟩
set_option maxHeartbeats 1000000 in
theorem isBlank_8 (m : Mg) (a1 a2 : Option Addr) (nl cl nv cv : Nat) (w : World) : Calls Tryz.prog 142 #[m.val (.slice a1 nl cl) (.slice a2 nv cv),.int .i64 8] w fun e w' => e = .returned (.bool (blB m nl nv 8))∧Below w.heap.size w w':=by
 by_cases h : nl = 0
 ·have V : Hid (blB m nl nv 8 = true):=by simp [Hid,blB,h]
  subst h
  go_enter Tryz.func142,Tryz.ntmps142
  go_upto_region 1 with (refine boxMk rfl (.tmp 0) rfl m _ _ rfl ?_;intro q1 w1 hq1 M1 b1 z1;subst hq1)
  have HB:=hide b1;have x16:=M1.cell 16 _ rfl;clear M1 b1 z1
  go_wp2
  go_ret
  exact ⟨by rw [V.out];rfl,HB.out⟩
 ·have V : Hid (blB m nl nv 8 = false):=by simp [Hid,blB,h]
  have h' : ¬ (nl : Int) = 0:=by omega
  have hq : ((nl : Int) == 0) = false:=by simp [h]
  go_enter Tryz.func142,Tryz.ntmps142
  go_upto_region 1 with (refine boxMk rfl (.tmp 0) rfl m _ _ rfl ?_;intro q1 w1 hq1 M1 b1 z1;subst hq1)
  have HB:=hide b1;have x16:=M1.cell 16 _ rfl;clear M1 b1 z1
  go_wp2
  go_ret
  exact ⟨by rw [V.out];rfl,HB.out⟩
set_option maxHeartbeats 1000000 in
theorem isBlank_9 (m : Mg) (a1 a2 : Option Addr) (nl cl nv cv : Nat) (w : World) : Calls Tryz.prog 142 #[m.val (.slice a1 nl cl) (.slice a2 nv cv),.int .i64 9] w fun e w' => e = .returned (.bool (blB m nl nv 9))∧Below w.heap.size w w':=by
 by_cases h : nv = 0
 ·have V : Hid (blB m nl nv 9 = true):=by simp [Hid,blB,h]
  subst h
  go_enter Tryz.func142,Tryz.ntmps142
  go_upto_region 1 with (refine boxMk rfl (.tmp 0) rfl m _ _ rfl ?_;intro q1 w1 hq1 M1 b1 z1;subst hq1)
  have HB:=hide b1;have x17:=M1.cell 17 _ rfl;clear M1 b1 z1
  go_wp2
  go_ret
  exact ⟨by rw [V.out];rfl,HB.out⟩
 ·have V : Hid (blB m nl nv 9 = false):=by simp [Hid,blB,h]
  have h' : ¬ (nv : Int) = 0:=by omega
  have hq : ((nv : Int) == 0) = false:=by simp [h]
  go_enter Tryz.func142,Tryz.ntmps142
  go_upto_region 1 with (refine boxMk rfl (.tmp 0) rfl m _ _ rfl ?_;intro q1 w1 hq1 M1 b1 z1;subst hq1)
  have HB:=hide b1;have x17:=M1.cell 17 _ rfl;clear M1 b1 z1
  go_wp2
  go_ret
  exact ⟨by rw [V.out];rfl,HB.out⟩
theorem TRUE5 (m : Mg) (nl nv : Nat) (h1 : m.d.1 = 0) (h2 : m.d.2 = 0) : Hid (blB m nl nv 5 = true):=by
 obtain ⟨k,nd,vw,e,r,p,cm,ls,d1,d2⟩:=m
 dsimp only at h1 h2
 subst h1 h2
 rfl
theorem FALSE5 (m : Mg) (nl nv : Nat) (h : m.d ≠ (0,0)) : Hid (blB m nl nv 5 = false):=by
 show _ = _
 simp [blB,h]
theorem TRUE6 (m : Mg) (nl nv : Nat) (h1 : m.e.c = 0) (h2 : m.e.n = 0) (h3 : m.e.o.k = 0) (h4 : m.e.o.s = 0) (h5 : m.e.o.v = ⟨#[]⟩) : Hid (blB m nl nv 6 = true):=by
 obtain ⟨k,nd,vw,⟨c,n,⟨ok,os,ov⟩⟩,r,p,cm,ls,d1,d2⟩:=m
 dsimp only at h1 h2 h3 h4 h5
 subst h1 h2 h3 h4 h5
 show _ = _
 simp [blB,(enb_iff _ _).2,zEn]
theorem FALSE6 (m : Mg) (nl nv : Nat) (h : m.e ≠ zEn) : Hid (blB m nl nv 6 = false):=by
 have e : enb m.e zEn = false:=Bool.eq_false_iff.2 (fun e => h ((enb_iff _ _).1 e))
 show _ = _
 simp [blB,e]
theorem TRUE7 (m : Mg) (nl nv : Nat) (h1 : m.r.1 = 0) (h2 : m.r.2.1 = 0) (h3 : m.r.2.2 = ⟨#[]⟩) : Hid (blB m nl nv 7 = true):=by
 obtain ⟨k,nd,vw,e,⟨r1,r2,r3⟩,p,cm,ls,d1,d2⟩:=m
 dsimp only at h1 h2 h3
 subst h1 h2 h3
 show _ = _
 simp [blB,zEn]
theorem FALSE7 (m : Mg) (nl nv : Nat) (h : m.r ≠ (0,0,⟨#[]⟩)) : Hid (blB m nl nv 7 = false):=by
 show _ = _
 simp [blB,h]
set_option maxHeartbeats 1000000 in
theorem isBlank_5 (m : Mg) (a1 a2 : Option Addr) (nl cl nv cv : Nat) (w : World) : Calls Tryz.prog 142 #[m.val (.slice a1 nl cl) (.slice a2 nv cv),.int .i64 5] w fun e w' => e = .returned (.bool (blB m nl nv 5))∧Below w.heap.size w w':=by
 by_cases g14 : m.d.1 = 0
 ·by_cases g15 : m.d.2 = 0
  ·have V : Hid (blB m nl nv 5 = true):=TRUE5 m nl nv g14 g15
   go_enter Tryz.func142,Tryz.ntmps142
   go_upto_region 1 with (refine boxMk rfl (.tmp 0) rfl m _ _ rfl ?_;intro q1 w1 hq1 M1 b1 z1;subst hq1)
   have HB:=hide b1;have x14:=M1.cell 14 _ rfl;rw [g14] at x14;have x15:=M1.cell 15 _ rfl;rw [g15] at x15;clear M1 b1 z1
   go_wp2
   go_ret
   exact ⟨by rw [V.out];rfl,HB.out⟩
  ·have V : Hid (blB m nl nv 5 = false):=FALSE5 m nl nv (by intro h;exact g15 (by rw [h] <;> rfl))
   have hq : (m.d.2 == 0) = false:=by simp [g15]
   go_enter Tryz.func142,Tryz.ntmps142
   go_upto_region 1 with (refine boxMk rfl (.tmp 0) rfl m _ _ rfl ?_;intro q1 w1 hq1 M1 b1 z1;subst hq1)
   have HB:=hide b1;have x14:=M1.cell 14 _ rfl;rw [g14] at x14;have x15:=M1.cell 15 _ rfl;clear M1 b1 z1
   go_wp2
   go_ret
   exact ⟨by rw [V.out];rfl,HB.out⟩
 ·have V : Hid (blB m nl nv 5 = false):=FALSE5 m nl nv (by intro h;exact g14 (by rw [h] <;> rfl))
  have hq : (m.d.1 == 0) = false:=by simp [g14]
  go_enter Tryz.func142,Tryz.ntmps142
  go_upto_region 1 with (refine boxMk rfl (.tmp 0) rfl m _ _ rfl ?_;intro q1 w1 hq1 M1 b1 z1;subst hq1)
  have HB:=hide b1;have x14:=M1.cell 14 _ rfl;have x15:=M1.cell 15 _ rfl;clear M1 b1 z1
  go_wp2
  go_ret
  exact ⟨by rw [V.out];rfl,HB.out⟩
set_option maxHeartbeats 1000000 in
theorem isBlank_6 (m : Mg) (a1 a2 : Option Addr) (nl cl nv cv : Nat) (w : World) : Calls Tryz.prog 142 #[m.val (.slice a1 nl cl) (.slice a2 nv cv),.int .i64 6] w fun e w' => e = .returned (.bool (blB m nl nv 6))∧Below w.heap.size w w':=by
 by_cases g3 : m.e.c = 0
 ·by_cases g4 : m.e.n = 0
  ·by_cases g5 : m.e.o.k = 0
   ·by_cases g6 : m.e.o.s = 0
    ·by_cases g7 : m.e.o.v = ⟨#[]⟩
     ·have V : Hid (blB m nl nv 6 = true):=TRUE6 m nl nv g3 g4 g5 g6 g7
      go_enter Tryz.func142,Tryz.ntmps142
      go_upto_region 1 with (refine boxMk rfl (.tmp 0) rfl m _ _ rfl ?_;intro q1 w1 hq1 M1 b1 z1;subst hq1)
      have HB:=hide b1;have x3:=M1.cell 3 _ rfl;rw [g3] at x3;have x4:=M1.cell 4 _ rfl;rw [g4] at x4;have x5:=M1.cell 5 _ rfl;rw [g5] at x5;have x6:=M1.cell 6 _ rfl;rw [g6] at x6;have x7:=M1.cell 7 _ rfl;rw [g7] at x7;clear M1 b1 z1
      go_wp2
      go_ret
      exact ⟨by rw [V.out];rfl,HB.out⟩
     ·have V : Hid (blB m nl nv 6 = false):=FALSE6 m nl nv (by intro h;exact g7 (by rw [h] <;> rfl))
      have s7 : ¬ (m.e.o.v).toList = (⟨#[]⟩ : ByteArray).toList:=fun e => g7 ((bytes_inj _ _).1 e)
      have t7 : (m.e.o.v).toList.isEmpty = false:=by
       rw [Bool.eq_false_iff];intro h
       exact s7 (by rw [List.isEmpty_iff.1 h,ByteArray.toList_eq])
      go_enter Tryz.func142,Tryz.ntmps142
      go_upto_region 1 with (refine boxMk rfl (.tmp 0) rfl m _ _ rfl ?_;intro q1 w1 hq1 M1 b1 z1;subst hq1)
      have HB:=hide b1;have x3:=M1.cell 3 _ rfl;rw [g3] at x3;have x4:=M1.cell 4 _ rfl;rw [g4] at x4;have x5:=M1.cell 5 _ rfl;rw [g5] at x5;have x6:=M1.cell 6 _ rfl;rw [g6] at x6;have x7:=M1.cell 7 _ rfl;clear M1 b1 z1
      go_wp2
      go_ret
      exact ⟨by rw [V.out];rfl,HB.out⟩
    ·have V : Hid (blB m nl nv 6 = false):=FALSE6 m nl nv (by intro h;exact g6 (by rw [h] <;> rfl))
     have hq : (m.e.o.s == 0) = false:=by simp [g6]
     go_enter Tryz.func142,Tryz.ntmps142
     go_upto_region 1 with (refine boxMk rfl (.tmp 0) rfl m _ _ rfl ?_;intro q1 w1 hq1 M1 b1 z1;subst hq1)
     have HB:=hide b1;have x3:=M1.cell 3 _ rfl;rw [g3] at x3;have x4:=M1.cell 4 _ rfl;rw [g4] at x4;have x5:=M1.cell 5 _ rfl;rw [g5] at x5;have x6:=M1.cell 6 _ rfl;have x7:=M1.cell 7 _ rfl;clear M1 b1 z1
     go_wp2
     go_ret
     exact ⟨by rw [V.out];rfl,HB.out⟩
   ·have V : Hid (blB m nl nv 6 = false):=FALSE6 m nl nv (by intro h;exact g5 (by rw [h] <;> rfl))
    have hq : (m.e.o.k == 0) = false:=by simp [g5]
    go_enter Tryz.func142,Tryz.ntmps142
    go_upto_region 1 with (refine boxMk rfl (.tmp 0) rfl m _ _ rfl ?_;intro q1 w1 hq1 M1 b1 z1;subst hq1)
    have HB:=hide b1;have x3:=M1.cell 3 _ rfl;rw [g3] at x3;have x4:=M1.cell 4 _ rfl;rw [g4] at x4;have x5:=M1.cell 5 _ rfl;have x6:=M1.cell 6 _ rfl;have x7:=M1.cell 7 _ rfl;clear M1 b1 z1
    go_wp2
    go_ret
    exact ⟨by rw [V.out];rfl,HB.out⟩
  ·have V : Hid (blB m nl nv 6 = false):=FALSE6 m nl nv (by intro h;exact g4 (by rw [h] <;> rfl))
   have hq : (m.e.n == 0) = false:=by simp [g4]
   go_enter Tryz.func142,Tryz.ntmps142
   go_upto_region 1 with (refine boxMk rfl (.tmp 0) rfl m _ _ rfl ?_;intro q1 w1 hq1 M1 b1 z1;subst hq1)
   have HB:=hide b1;have x3:=M1.cell 3 _ rfl;rw [g3] at x3;have x4:=M1.cell 4 _ rfl;have x5:=M1.cell 5 _ rfl;have x6:=M1.cell 6 _ rfl;have x7:=M1.cell 7 _ rfl;clear M1 b1 z1
   go_wp2
   go_ret
   exact ⟨by rw [V.out];rfl,HB.out⟩
 ·have V : Hid (blB m nl nv 6 = false):=FALSE6 m nl nv (by intro h;exact g3 (by rw [h] <;> rfl))
  have hq : (m.e.c == 0) = false:=by simp [g3]
  go_enter Tryz.func142,Tryz.ntmps142
  go_upto_region 1 with (refine boxMk rfl (.tmp 0) rfl m _ _ rfl ?_;intro q1 w1 hq1 M1 b1 z1;subst hq1)
  have HB:=hide b1;have x3:=M1.cell 3 _ rfl;have x4:=M1.cell 4 _ rfl;have x5:=M1.cell 5 _ rfl;have x6:=M1.cell 6 _ rfl;have x7:=M1.cell 7 _ rfl;clear M1 b1 z1
  go_wp2
  go_ret
  exact ⟨by rw [V.out];rfl,HB.out⟩
set_option maxHeartbeats 1000000 in
theorem isBlank_7 (m : Mg) (a1 a2 : Option Addr) (nl cl nv cv : Nat) (w : World) : Calls Tryz.prog 142 #[m.val (.slice a1 nl cl) (.slice a2 nv cv),.int .i64 7] w fun e w' => e = .returned (.bool (blB m nl nv 7))∧Below w.heap.size w w':=by
 by_cases g8 : m.r.1 = 0
 ·by_cases g9 : m.r.2.1 = 0
  ·by_cases g10 : m.r.2.2 = ⟨#[]⟩
   ·have V : Hid (blB m nl nv 7 = true):=TRUE7 m nl nv g8 g9 g10
    go_enter Tryz.func142,Tryz.ntmps142
    go_upto_region 1 with (refine boxMk rfl (.tmp 0) rfl m _ _ rfl ?_;intro q1 w1 hq1 M1 b1 z1;subst hq1)
    have HB:=hide b1;have x8:=M1.cell 8 _ rfl;rw [g8] at x8;have x9:=M1.cell 9 _ rfl;rw [g9] at x9;have x10:=M1.cell 10 _ rfl;rw [g10] at x10;clear M1 b1 z1
    go_wp2
    go_ret
    exact ⟨by rw [V.out];rfl,HB.out⟩
   ·have V : Hid (blB m nl nv 7 = false):=FALSE7 m nl nv (by intro h;exact g10 (by rw [h] <;> rfl))
    have s10 : ¬ (m.r.2.2).toList = (⟨#[]⟩ : ByteArray).toList:=fun e => g10 ((bytes_inj _ _).1 e)
    have t10 : (m.r.2.2).toList.isEmpty = false:=by
     rw [Bool.eq_false_iff];intro h
     exact s10 (by rw [List.isEmpty_iff.1 h,ByteArray.toList_eq])
    go_enter Tryz.func142,Tryz.ntmps142
    go_upto_region 1 with (refine boxMk rfl (.tmp 0) rfl m _ _ rfl ?_;intro q1 w1 hq1 M1 b1 z1;subst hq1)
    have HB:=hide b1;have x8:=M1.cell 8 _ rfl;rw [g8] at x8;have x9:=M1.cell 9 _ rfl;rw [g9] at x9;have x10:=M1.cell 10 _ rfl;clear M1 b1 z1
    go_wp2
    go_ret
    exact ⟨by rw [V.out];rfl,HB.out⟩
  ·have V : Hid (blB m nl nv 7 = false):=FALSE7 m nl nv (by intro h;exact g9 (by rw [h] <;> rfl))
   have hq : (m.r.2.1 == 0) = false:=by simp [g9]
   go_enter Tryz.func142,Tryz.ntmps142
   go_upto_region 1 with (refine boxMk rfl (.tmp 0) rfl m _ _ rfl ?_;intro q1 w1 hq1 M1 b1 z1;subst hq1)
   have HB:=hide b1;have x8:=M1.cell 8 _ rfl;rw [g8] at x8;have x9:=M1.cell 9 _ rfl;have x10:=M1.cell 10 _ rfl;clear M1 b1 z1
   go_wp2
   go_ret
   exact ⟨by rw [V.out];rfl,HB.out⟩
 ·have V : Hid (blB m nl nv 7 = false):=FALSE7 m nl nv (by intro h;exact g8 (by rw [h] <;> rfl))
  have hq : (m.r.1 == 0) = false:=by simp [g8]
  go_enter Tryz.func142,Tryz.ntmps142
  go_upto_region 1 with (refine boxMk rfl (.tmp 0) rfl m _ _ rfl ?_;intro q1 w1 hq1 M1 b1 z1;subst hq1)
  have HB:=hide b1;have x8:=M1.cell 8 _ rfl;have x9:=M1.cell 9 _ rfl;have x10:=M1.cell 10 _ rfl;clear M1 b1 z1
  go_wp2
  go_ret
  exact ⟨by rw [V.out];rfl,HB.out⟩
end Go.Proofs.YtgncpcfncojgoaaGreatDoor
