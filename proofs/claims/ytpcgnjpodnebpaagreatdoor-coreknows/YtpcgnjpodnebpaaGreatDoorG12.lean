import Derived.Test.YtpcgnjpodnebpaaGreatDoorG11
set_option maxRecDepth 100000
set_option linter.unusedVariables false
set_option linter.unusedSimpArgs false
set_option maxHeartbeats 8000000
namespace Go.Proofs.YtpcgnjpodnebpaaGreatDoor
open Go.RowKit Go.Maps Go.Shelf
open Classical
structure Vo9 where
 n : Int
 a : Option Addr
 c : Nat
 D : List (Int × Int)
def Vo9.cs (x : Vo9) : List Value:=[.int .i64 x.n,.slice x.a x.D.length x.c]
def Vo9.val (x : Vo9) : Value:=.agg #[.int .i64 x.n,.slice x.a x.D.length x.c]
abbrev VB9 (w : World) (q : Nat) (x : Vo9) : Prop:=BX7 w q x.cs
theorem bxV9 (x : Vo9) (w : World) : (Instr.box 62 x.val).run Tryz.prog w = .ok (.pointer (some ⟨w.heap.size,0,none⟩)) (w.alloc (.cells x.cs.toArray 62)):=rfl
theorem VB9.ld {w : World} {q : Nat} {x : Vo9} (h : VB9 w q x) : (Instr.loadAt 62 (.pointer (some ⟨q,0,none⟩))).run Tryz.prog w = .ok x.val w:=by
 have h0:=h.cell 0 _ rfl;have h1:=h.cell 1 _ rfl
 unfold Vo9.val
 clear h
 go_simp
theorem faV9_0 (q : Nat) (w : World) : (Instr.fieldAt 62 (.pointer (some ⟨q,0,none⟩)) 0).run Tryz.prog w = .ok (.pointer (some ⟨q,0,none⟩)) w:=by go_simp
theorem faV9_1 (q : Nat) (w : World) : (Instr.fieldAt 62 (.pointer (some ⟨q,0,none⟩)) 1).run Tryz.prog w = .ok (.pointer (some ⟨q,1,none⟩)) w:=by go_simp
def vmB9 (x : Vo9) : Bool:=inB (x.D.length : Int) 1 7 && (decide (0 ≤ x.n) && decide (x.n < (x.D.length : Int)))
def ovB9 (V : List (Int × Int)) (x : Vo9) : Bool:=(vmB9 x && decide ((V.length : Int) = (x.D.length : Int))) && decide (0 < cmpD (V.getD x.n.toNat (0,0)).1 (V.getD x.n.toNat (0,0)).2 (x.D.getD x.n.toNat (0,0)).1 (x.D.getD x.n.toNat (0,0)).2)
theorem vm_of9 {V : List (Int × Int)} {x : Vo9} (h : (vmB9 x && decide ((V.length : Int) = (x.D.length : Int))) = true) : (0 ≤ x.n∧x.n < (x.D.length : Int))∧(0 ≤ x.n∧x.n < (V.length : Int)):=by
 simp only [vmB9,Bool.and_eq_true,decide_eq_true_eq] at h
 omega
theorem groupmay9 (n : Int) (w : World)  : Calls Tryz.prog 89 #[.int .i64 n] w fun e w' => e = .returned (.bool (inB n 1 7))∧Below w.heap.size w w':=by
 go_enter Tryz.func89,Tryz.ntmps89
 go_upto_region 0 with fail
 refine WL ?_;refine vl_gen (fun T => T.size = 9∧T[0]? = some (gw true (.int .i64 n))) ⟨rfl,rfl⟩ (fun Z0 ⟨hz,s0⟩ => ?_);have hB : Below w.heap.size w w:=BR;have hv0 : Below w.heap.size w w:=BR;have Ya:=(Rp.nil hz).cons s0;clear hz s0
 refine Ya.t (.bool false) (ex_assign rfl rfl) fun _ Yb => ?_;clear Ya
 have hz:=Yb.z;have s0:=Yb.a 0 rfl;clear Yb;refine WE ?_
 go_upto_region 1 with fail
 refine WL ?_;have Yc:=(Rp.nil hz).cons s0;clear hz s0
 refine Yc.t _ (ex_move rfl (Yc.f 0)) fun _ Yd => ?_;clear Yc
 refine Yd.t (.bool (decide (1 ≤ n))) (ex_bin rfl (Yd.f 3) rfl (geqC _ _ _ _ _)) fun _ Ye => ?_;clear Yd
 refine Ye.t _ (ex_move rfl (Ye.f 4)) fun _ Yf => ?_;clear Ye
 refine Yf.g 5 rfl rfl _ (fun hc => ex_move rfl (Yf.f 0)) fun Yg Yh => ?_;clear Yf
 refine Yh.g 5 rfl rfl (.bool (decide (n ≤ 7))) (fun hc => ex_bin rfl (Yh.v 6 hc) rfl (leqC8 _ _ _ _ _)) fun Yi Yj => ?_;clear Yh
 refine Yj.t (.bool ((decide (1 ≤ n)) && (decide (n ≤ 7)))) (ex_and rfl (Yj.a 5 rfl) (Yj.a 7 rfl) rfl) fun _ Yk => ?_;clear Yj
 refine Yk.t _ (ex_assign rfl (Yk.f 8)) fun _ Yl => ?_;clear Yk
 have hz:=Yl.z;have s2:=Yl.a 2 rfl;clear Yl;refine WE ?_
 go_wp2
 refine bodyPost_ret (results_tmp rfl _ _ _) rfl ⟨?_,hB.trans (hv0.mono (by omega))⟩;rw [getD_of s2]
 rfl
theorem maybe9 (a : Option Addr) (n c : Nat) (w : World)  : Calls Tryz.prog 55 #[.slice a n c] w fun e w' => e = .returned (.bool (inB (n : Int) 1 7))∧Below w.heap.size w w':=by
 go_enter Tryz.func55,Tryz.ntmps55
 go_upto_region 0 with fail
 refine WL ?_;refine vl_gen (fun T => T.size = 6∧T[0]? = some (gw true (.slice a n c))) ⟨rfl,rfl⟩ (fun Z0 ⟨hz,s0⟩ => ?_);have hB : Below w.heap.size w w:=BR;have hv0 : Below w.heap.size w w:=BR;have Ya:=(Rp.nil hz).cons s0;clear hz s0
 refine Ya.t (.bool false) (ex_assign rfl rfl) fun _ Yb => ?_;clear Ya
 have hz:=Yb.z;have s0:=Yb.a 0 rfl;clear Yb;refine WE ?_
 go_upto_region 1 with fail
 refine WL ?_;have Yc:=(Rp.nil hz).cons s0;clear hz s0
 refine Yc.t _ (ex_move rfl (Yc.f 0)) fun _ Yd => ?_;clear Yc
 refine Yd.t _ (ex_lenV8 rfl rfl (Yd.f 3)) fun _ Ye => ?_;clear Yd
 refine vcall true (.bool (inB ((n : Int)) 1 7)) WN (fun hc => ex_call rfl (by simp only [LA,LB,LC,(Ye.f 4),evc] <;> rfl) rfl) (fun hc => groupmay9 ((n : Int)) w) rfl Ye.z (by decide) (Ye.kc fun Yf x1 hb Yg => ?_);clear Ye;have hx1:=hv0.trans (hb.mono hv0.size);clear hb
 refine Yg.t _ (ex_assign rfl (Yg.f 5)) fun _ Yh => ?_;clear Yg
 have hz:=Yh.z;have s2:=Yh.a 2 rfl;clear Yh;refine WE ?_
 go_wp2
 refine bodyPost_ret (results_tmp rfl _ _ _) rfl ⟨?_,hB.trans (hx1.mono (by omega))⟩;rw [getD_of s2]
 rfl
theorem hasplace9 (a : Option Addr) (n c : Nat) (k : Int) (w : World)  : Calls Tryz.prog 68 #[.slice a n c,.int .i64 k] w fun e w' => e = .returned (.bool (decide (0 ≤ k) && decide (k < (n : Int))))∧Below w.heap.size w w':=by
 go_enter Tryz.func68,Tryz.ntmps68
 go_upto_region 0 with fail
 refine WL ?_;refine vl_gen (fun T => T.size = 13∧T[0]? = some (gw true (.slice a n c))∧T[1]? = some (gw true (.int .i64 k))) ⟨rfl,rfl,rfl⟩ (fun Z0 ⟨hz,s0,s1⟩ => ?_);have hB : Below w.heap.size w w:=BR;have hv0 : Below w.heap.size w w:=BR;have Ya:=((Rp.nil hz).cons s0).cons s1;clear hz s0 s1
 refine Ya.t (.bool false) (ex_assign rfl rfl) fun _ Yb => ?_;clear Ya
 have hz:=Yb.z;have s0:=Yb.a 0 rfl;have s1:=Yb.a 1 rfl;clear Yb;refine WE ?_
 go_upto_region 1 with fail
 refine WL ?_;have Yc:=((Rp.nil hz).cons s0).cons s1;clear hz s0 s1
 refine Yc.t _ (ex_move rfl (Yc.f 1)) fun _ Yd => ?_;clear Yc
 refine Yd.t (.bool (decide (0 ≤ k))) (ex_bin rfl (Yd.f 5) rfl (geqC _ _ _ _ _)) fun _ Ye => ?_;clear Yd
 refine Ye.t _ (ex_move rfl (Ye.f 6)) fun _ Yf => ?_;clear Ye
 refine Yf.g 7 rfl rfl _ (fun hc => ex_move rfl (Yf.f 1)) fun Yg Yh => ?_;clear Yf
 refine Yh.g 7 rfl rfl _ (fun hc => ex_move rfl (Yh.f 0)) fun Yi Yj => ?_;clear Yh
 refine Yj.g 7 rfl rfl _ (fun hc => ex_lenV8 rfl rfl (Yj.v 9 hc)) fun Yk Yl => ?_;clear Yj
 refine Yl.g 7 rfl rfl (.bool (decide (k < (n : Int)))) (fun hc => ex_bin rfl (Yl.v 8 hc) (Yl.v 10 hc) (lssC _ _ _ _ _)) fun Ym Yn => ?_;clear Yl
 refine Yn.t (.bool ((decide (0 ≤ k)) && (decide (k < (n : Int))))) (ex_and rfl (Yn.a 7 rfl) (Yn.a 11 rfl) rfl) fun _ Yo => ?_;clear Yn
 refine Yo.t _ (ex_assign rfl (Yo.f 12)) fun _ Yp => ?_;clear Yo
 have hz:=Yp.z;have s4:=Yp.a 4 rfl;clear Yp;refine WE ?_
 go_wp2
 refine bodyPost_ret (results_tmp rfl _ _ _) rfl ⟨?_,hB.trans (hv0.mono (by omega))⟩;rw [getD_of s4]
 rfl
theorem voicemay9 (x : Vo9) (w : World)  : Calls Tryz.prog 40 #[x.val] w fun e w' => e = .returned (.bool (vmB9 x))∧Below w.heap.size w w':=by
 go_enter Tryz.func40,Tryz.ntmps40
 go_upto_region 0 with fail
 refine WL ?_;refine vl_gen (fun T => T.size = 13∧T[0]? = some (gw true (x.val))) ⟨rfl,rfl⟩ (fun Z0 ⟨hz,s0⟩ => ?_)
 obtain ⟨w1,hw1⟩ : ∃ y,y = w.alloc (.cells x.cs.toArray 62):=⟨_,rfl⟩
 have hb : Below w.heap.size w w1:=by rw [hw1];exact BR.alloc LR _
 have hs1 : w1.heap.size = w.heap.size + 1:=by rw [hw1];simp
 have HX : VB9 w1 (w.heap.size) x:=by rw [hw1];exact BX7.new _ _ _
 refine vw (.pointer (some ⟨w.heap.size,0,none⟩)) w1 WN (ex_box8 rfl (ev s0 rfl) (by rw [hw1];exact bxV9 _ _)) rfl hz (by decide) (fun Z1 zz kk s1x => ?_);clear kk hz s0 hw1;have hz:=zz;have s1:=s1x;clear zz s1x;have hB:=hb;clear hb;have hv0 : Below w1.heap.size w1 w1:=BR;have Ya:=(Rp.nil hz).cons s1;clear hz s1
 refine Ya.t (.bool false) (ex_assign rfl rfl) fun _ Yb => ?_;clear Ya
 have hz:=Yb.z;have s1:=Yb.a 1 rfl;clear Yb;refine WE ?_
 go_upto_region 1 with fail
 refine WL ?_;have Yc:=(Rp.nil hz).cons s1;clear hz s1
 refine Yc.t _ (ex_fa rfl (Yc.f 1) (faV9_1 _ _)) fun _ Yd => ?_;clear Yc
 refine Yd.t _ (ex_ld rfl (Yd.f 3) (ldV8 ((HX.bel hv0).cell 1 _ rfl))) fun _ Ye => ?_;clear Yd
 refine vcall true (.bool (inB (x.D.length : Int) 1 7)) WN (fun hc => ex_call rfl (by simp only [LA,LB,LC,(Ye.f 4),evc] <;> rfl) rfl) (fun hc => maybe9 x.a x.D.length x.c w1) rfl Ye.z (by decide) (Ye.kc fun Yf x1 hb Yg => ?_);clear Ye;have hx1:=hv0.trans (hb.mono hv0.size);clear hb
 refine Yg.t _ (ex_move rfl (Yg.f 5)) fun _ Yh => ?_;clear Yg
 refine Yh.g 6 rfl rfl _ (fun hc => ex_fa rfl (Yh.f 1) (faV9_1 _ _)) fun Yi Yj => ?_;clear Yh
 refine Yj.g 6 rfl rfl _ (fun hc => ex_ld rfl (Yj.v 7 hc) (ldV8 ((HX.bel hx1).cell 1 _ rfl))) fun Yk Yl => ?_;clear Yj
 refine Yl.g 6 rfl rfl _ (fun hc => ex_fa rfl (Yl.f 1) (faV9_0 _ _)) fun Ym Yn => ?_;clear Yl
 refine Yn.g 6 rfl rfl _ (fun hc => ex_ld rfl (Yn.v 9 hc) (ldI8 ((HX.bel hx1).cell 0 _ rfl))) fun Yo Yp => ?_;clear Yn
 refine vcall (true && ((inB (x.D.length : Int) 1 7) == true)) (.bool (decide (0 ≤ x.n) && decide (x.n < (x.D.length : Int)))) (want_g rfl rfl (Yp.a 6 rfl)) (fun hc => ex_call rfl (by simp only [LA,LB,LC,(Yp.v 8 hc),(Yp.v 10 hc),evc] <;> rfl) rfl) (fun hc => hasplace9 x.a x.D.length x.c (x.n) x1) rfl Yp.z (by decide) (Yp.kc fun Yq x2 hb Yr => ?_);clear Yp;have hx2:=hx1.trans (hb.mono hx1.size);clear hb
 refine Yr.t (.bool ((inB (x.D.length : Int) 1 7) && (decide (0 ≤ x.n) && decide (x.n < (x.D.length : Int))))) (ex_and rfl (Yr.a 6 rfl) (Yr.a 11 rfl) rfl) fun _ Ys => ?_;clear Yr
 refine Ys.t _ (ex_assign rfl (Ys.f 12)) fun _ Yt => ?_;clear Ys
 have hz:=Yt.z;have s2:=Yt.a 2 rfl;clear Yt;refine WE ?_
 go_wp2
 refine bodyPost_ret (results_tmp rfl _ _ _) rfl ⟨?_,hB.trans (hx2.mono (by omega))⟩;rw [getD_of s2]
 rfl
theorem knowsover9 (V : List (Int × Int)) (a : Option Addr) (n c : Nat) (x : Vo9) (w : World) (hV : SlY yD w a n c V) (hX : SlY yD w x.a x.D.length x.c x.D) (hn : 0 ≤ x.n∧x.n < (n : Int)) (hm : 0 ≤ x.n∧x.n < (x.D.length : Int)) : Calls Tryz.prog 41 #[.slice a n c,x.val] w fun e w' => e = .returned (.bool (decide (0 < cmpD (V.getD x.n.toNat (0,0)).1 (V.getD x.n.toNat (0,0)).2 (x.D.getD x.n.toNat (0,0)).1 (x.D.getD x.n.toNat (0,0)).2)))∧Below w.heap.size w w':=by
 go_enter Tryz.func41,Tryz.ntmps41
 go_upto_region 0 with fail
 refine WL ?_;refine vl_gen (fun T => T.size = 18∧T[1]? = some (gw true (x.val))∧T[0]? = some (gw true (.slice a n c))) ⟨rfl,rfl,rfl⟩ (fun Z0 ⟨hz,s1,s0⟩ => ?_)
 obtain ⟨w1,hw1⟩ : ∃ y,y = w.alloc (.cells x.cs.toArray 62):=⟨_,rfl⟩
 have hb : Below w.heap.size w w1:=by rw [hw1];exact BR.alloc LR _
 have hs1 : w1.heap.size = w.heap.size + 1:=by rw [hw1];simp
 have HX : VB9 w1 (w.heap.size) x:=by rw [hw1];exact BX7.new _ _ _
 refine vw (.pointer (some ⟨w.heap.size,0,none⟩)) w1 WN (ex_box8 rfl (ev s1 rfl) (by rw [hw1];exact bxV9 _ _)) rfl hz (by decide) (fun Z1 zz kk s3x => ?_);replace s0:=ku s0;clear kk hz s1 hw1;have hz:=zz;have s3:=s3x;clear zz s3x;have hB:=hb;clear hb;have hv0 : Below w1.heap.size w1 w1:=BR;obtain ⟨qa,oa,ha,hA⟩:=vec_at8 (hV.later hB) hn;obtain ⟨qx,ox,hx,hQ⟩:=vec_at8 (hX.later hB) hm;have Ya:=((Rp.nil hz).cons s0).cons s3;clear hz s0 s3
 refine Ya.t (.bool false) (ex_assign rfl rfl) fun _ Yb => ?_;clear Ya
 have hz:=Yb.z;have s0:=Yb.a 0 rfl;have s3:=Yb.a 3 rfl;clear Yb;refine WE ?_
 go_upto_region 1 with fail
 refine vq_start (C:=fun v => Below w1.heap.size w1 v) (by kernel_rfl) (by kernel_rfl) hv0.drew ?_;have Yc:=((Rp.nil hz).cons s0).cons s3;clear hz s0 s3
 refine Yc.q _ (fun v hv => ex_move rfl (Yc.f 0)) fun _ Yd => ?_;clear Yc
 refine Yd.q _ (fun v hv => ex_fa rfl (Yd.f 3) (faV9_0 _ _)) fun _ Ye => ?_;clear Yd
 refine Ye.q _ (fun v hv => ex_ld rfl (Ye.f 6) (ldI8 ((HX.bel hv).cell 0 _ rfl))) fun _ Yf => ?_;clear Ye
 refine Yf.q _ (fun v hv => ex_ix rfl (Yf.f 5) (Yf.f 7) (hA.1 _)) fun _ Yg => ?_;clear Yf
 refine Yg.q _ (fun v hv => ex_ld rfl (Yg.f 8) (hA.2 _ hv)) fun _ Yh => ?_;clear Yg
 refine Yh.q _ (fun v hv => ex_fa rfl (Yh.f 3) (faV9_1 _ _)) fun _ Yi => ?_;clear Yh
 refine Yi.q _ (fun v hv => ex_ld rfl (Yi.f 10) (ldV8 ((HX.bel hv).cell 1 _ rfl))) fun _ Yj => ?_;clear Yi
 refine Yj.q _ (fun v hv => ex_fa rfl (Yj.f 3) (faV9_0 _ _)) fun _ Yk => ?_;clear Yj
 refine Yk.q _ (fun v hv => ex_ld rfl (Yk.f 12) (ldI8 ((HX.bel hv).cell 0 _ rfl))) fun _ Yl => ?_;clear Yk
 refine Yl.q _ (fun v hv => ex_ix rfl (Yl.f 11) (Yl.f 13) (hQ.1 _)) fun _ Ym => ?_;clear Yl
 refine Ym.q _ (fun v hv => ex_ld rfl (Ym.f 14) (hQ.2 _ hv)) fun _ Yn => ?_;clear Ym
 refine vq_call true (.int .i64 (cmpD (V.getD x.n.toNat (0,0)).1 (V.getD x.n.toNat (0,0)).2 (x.D.getD x.n.toNat (0,0)).1 (x.D.getD x.n.toNat (0,0)).2)) WN (fun hc v hv => ex_call rfl (by simp only [LA,LB,LC,(Yn.f 9),(Yn.f 15),evc] <;> rfl) rfl) (fun hc v hv => (bel8 hv (compare_any (V.getD x.n.toNat (0,0)).1 (V.getD x.n.toNat (0,0)).2 (x.D.getD x.n.toNat (0,0)).1 (x.D.getD x.n.toNat (0,0)).2 v))) rfl Yn.z (by decide) (Yn.k fun Yo Yp => ?_);clear Yn
 refine Yp.q (.bool (decide (0 < (cmpD (V.getD x.n.toNat (0,0)).1 (V.getD x.n.toNat (0,0)).2 (x.D.getD x.n.toNat (0,0)).1 (x.D.getD x.n.toNat (0,0)).2)))) (fun v hv => ex_bin rfl (Yp.f 16) rfl (gtrC _ _ _ _ _)) fun _ Yq => ?_;clear Yp
 refine Yq.q _ (fun v hv => ex_assign rfl (Yq.f 17)) fun _ Yr => ?_;clear Yq
 have hz:=Yr.z;have s4:=Yr.a 4 rfl;clear Yr;refine vq_nil (fun x1 hx1 => ?_)
 go_wp2
 refine bodyPost_ret (results_tmp rfl _ _ _) rfl ⟨?_,hB.trans (hx1.mono (by omega))⟩;rw [getD_of s4]
 rfl
theorem over9 (V : List (Int × Int)) (a : Option Addr) (c : Nat) (x : Vo9) (w : World) (hV : SlY yD w a V.length c V) (hX : SlY yD w x.a x.D.length x.c x.D) : Calls Tryz.prog 14 #[.slice a V.length c,x.val] w fun e w' => e = .returned (.bool (ovB9 V x))∧Below w.heap.size w w':=by
 go_enter Tryz.func14,Tryz.ntmps14
 go_upto_region 0 with fail
 refine WL ?_;refine vl_gen (fun T => T.size = 19∧T[1]? = some (gw true (x.val))∧T[0]? = some (gw true (.slice a V.length c))) ⟨rfl,rfl,rfl⟩ (fun Z0 ⟨hz,s1,s0⟩ => ?_)
 obtain ⟨w1,hw1⟩ : ∃ y,y = w.alloc (.cells x.cs.toArray 62):=⟨_,rfl⟩
 have hb : Below w.heap.size w w1:=by rw [hw1];exact BR.alloc LR _
 have hs1 : w1.heap.size = w.heap.size + 1:=by rw [hw1];simp
 have HX : VB9 w1 (w.heap.size) x:=by rw [hw1];exact BX7.new _ _ _
 refine vw (.pointer (some ⟨w.heap.size,0,none⟩)) w1 WN (ex_box8 rfl (ev s1 rfl) (by rw [hw1];exact bxV9 _ _)) rfl hz (by decide) (fun Z1 zz kk s3x => ?_);replace s0:=ku s0;clear kk hz s1 hw1;have hz:=zz;have s3:=s3x;clear zz s3x;have hB:=hb;clear hb;have hv0 : Below w1.heap.size w1 w1:=BR;have Ya:=((Rp.nil hz).cons s0).cons s3;clear hz s0 s3
 refine Ya.t (.bool false) (ex_assign rfl rfl) fun _ Yb => ?_;clear Ya
 have hz:=Yb.z;have s0:=Yb.a 0 rfl;have s3:=Yb.a 3 rfl;clear Yb;refine WE ?_
 go_upto_region 1 with fail
 refine WL ?_;have Yc:=((Rp.nil hz).cons s0).cons s3;clear hz s0 s3
 refine Yc.t _ (ex_ld rfl (Yc.f 3) (VB9.ld (HX.bel hv0))) fun _ Yd => ?_;clear Yc
 refine vcall true (.bool (vmB9 x)) WN (fun hc => ex_call rfl (by simp only [LA,LB,LC,(Yd.f 5),evc] <;> rfl) rfl) (fun hc => voicemay9 x w1) rfl Yd.z (by decide) (Yd.kc fun Ye x1 hb Yf => ?_);clear Yd;have hx1:=hv0.trans (hb.mono hv0.size);clear hb
 refine Yf.t (.bool (!(vmB9 x))) (ex_not rfl (Yf.f 6)) fun _ Yg => ?_;clear Yf
 refine Yg.t _ (ex_move rfl (Yg.f 7)) fun _ Yh => ?_;clear Yg
 refine Yh.g 8 rfl rfl _ (fun hc => ex_move rfl (Yh.f 0)) fun Yi Yj => ?_;clear Yh
 refine Yj.g 8 rfl rfl _ (fun hc => ex_lenV8 rfl rfl (Yj.v 9 hc)) fun Yk Yl => ?_;clear Yj
 refine Yl.g 8 rfl rfl _ (fun hc => ex_fa rfl (Yl.f 3) (faV9_1 _ _)) fun Ym Yn => ?_;clear Yl
 refine Yn.g 8 rfl rfl _ (fun hc => ex_ld rfl (Yn.v 11 hc) (ldV8 ((HX.bel hx1).cell 1 _ rfl))) fun Yo Yp => ?_;clear Yn
 refine Yp.g 8 rfl rfl _ (fun hc => ex_lenV8 rfl rfl (Yp.v 12 hc)) fun Yq Yr => ?_;clear Yp
 refine Yr.g 8 rfl rfl (.bool (!decide ((V.length : Int) = (x.D.length : Int)))) (fun hc => ex_bin rfl (Yr.v 10 hc) (Yr.v 13 hc) (neqC _ _ _ _ _)) fun Ys Yt => ?_;clear Yr
 refine Yt.t (.bool ((!(vmB9 x)) || (!decide ((V.length : Int) = (x.D.length : Int))))) (ex_or rfl (Yt.a 8 rfl) (Yt.a 14 rfl) rfl) fun _ Yu => ?_;clear Yt
 have hz:=Yu.z;have s0:=Yu.a 0 rfl;have s3:=Yu.a 3 rfl;have s15:=Yu.a 15 rfl;clear Yu;refine WE ?_
 go_upto_region 2 with fail
 cases eb : (vmB9 x && decide ((V.length : Int) = (x.D.length : Int)))
 ·refine wp_cond_true ((ev s15 rfl).trans (congrArg Value.bool (show ((!(vmB9 x)) || (!decide ((V.length : Int) = (x.D.length : Int)))) = true by revert eb;cases vmB9 x <;> cases decide ((V.length : Int) = (x.D.length : Int)) <;> simp))) ?_
  go_upto_region 2 with fail
  refine WL ?_;have Yv:=((Rp.nil hz).cons s0).cons s3;clear hz s0 s3
  refine Yv.t (.bool false) (ex_assign rfl rfl) fun _ Yw => ?_;clear Yv
  have hz:=Yw.z;have s4:=Yw.a 4 rfl;clear Yw;refine WE ?_
  go_wp2
  refine bodyPost_ret (results_tmp rfl _ _ _) rfl ⟨?_,hB.trans (hx1.mono (by omega))⟩;rw [getD_of s4];rw [show ovB9 V x = false from by unfold ovB9;rw [eb];rfl]
  rfl
 ·refine wp_cond_false ((ev s15 rfl).trans (congrArg Value.bool (show ((!(vmB9 x)) || (!decide ((V.length : Int) = (x.D.length : Int)))) = false by revert eb;cases vmB9 x <;> cases decide ((V.length : Int) = (x.D.length : Int)) <;> simp))) ?_
  obtain ⟨h1,h2⟩:=vm_of9 eb
  go_upto_region 3 with fail
  refine WL ?_;have Yx:=((Rp.nil hz).cons s0).cons s3;clear hz s0 s3
  refine Yx.t _ (ex_move rfl (Yx.f 0)) fun _ Yy => ?_;clear Yx
  refine Yy.t _ (ex_ld rfl (Yy.f 3) (VB9.ld (HX.bel hx1))) fun _ Yz => ?_;clear Yy
  refine vcall true (.bool (decide (0 < cmpD (V.getD x.n.toNat (0,0)).1 (V.getD x.n.toNat (0,0)).2 (x.D.getD x.n.toNat (0,0)).1 (x.D.getD x.n.toNat (0,0)).2))) WN (fun hc => ex_call rfl (by simp only [LA,LB,LC,(Yz.f 16),(Yz.f 17),evc] <;> rfl) rfl) (fun hc => knowsover9 V a V.length c x x1 (hV.later (hB.trans (hx1.mono (by omega)))) (hX.later (hB.trans (hx1.mono (by omega)))) h2 h1) rfl Yz.z (by decide) (Yz.kc fun Y0 x2 hb Y1 => ?_);clear Yz;have hx2:=hx1.trans (hb.mono hx1.size);clear hb
  refine Y1.t _ (ex_assign rfl (Y1.f 18)) fun _ Y2 => ?_;clear Y1
  have hz:=Y2.z;have s4:=Y2.a 4 rfl;clear Y2;refine WE ?_
  go_wp2
  refine bodyPost_ret (results_tmp rfl _ _ _) rfl ⟨?_,hB.trans (hx2.mono (by omega))⟩;rw [getD_of s4];rw [show ovB9 V x = decide (0 < cmpD (V.getD x.n.toNat (0,0)).1 (V.getD x.n.toNat (0,0)).2 (x.D.getD x.n.toNat (0,0)).1 (x.D.getD x.n.toNat (0,0)).2) from by unfold ovB9;rw [eb];rfl]
  rfl
theorem copiedV9 (D : List (Int × Int)) (a : Option Addr) (n c : Nat) (w : World) (h : SlY yD w a n c D) (hb : n * 16 ≤ 281474976710656) :
  Calls Tryz.prog 56 #[.slice a n c] w fun e w' => e = .returned (.slice (some ⟨w.heap.size,0,none⟩) n n)∧OwnY yD w.heap.size w' (.slice (some ⟨w.heap.size,0,none⟩) n n) D∧Below w.heap.size w w':=by
 have hmx:=h.max;have hcp:=h.cap;have hln:=h.len
 unfold maxLen at hmx
 have H:=hide h;have HN:=hide hln;clear h hln
 go_enter Tryz.func56,Tryz.ntmps56
 go_wp2_with (at_make;go_must (refine makeYs kD _ rfl (.tmp 5) rfl n rfl (by unfold maxLen;omega) hb ?zk))
 intro w1 o1 b1;have O1:=hide o1;have B1:=hide b1;have H1:=hide (H.out.later b1);have z1:=b1.size;clear o1 b1
 go_wp2_with (refine copyYc kD _ rfl (.tmp 7) (.tmp 8) 27 rfl w.heap.size w.heap.size n n 0 n n c n a _ D (by rfl) rfl O1.out H1.out (by omega) LR ?zm)
 intro w2 o2 u2 z2
 have hp : put (List.replicate n yD.z) 0 D = D:=by
  unfold put
  rw [List.take_zero,List.nil_append,List.drop_of_length_le (by rw [List.length_replicate,HN.out];omega),List.append_nil]
 rw [hp] at o2;have O2:=hide o2;have B2:=hide (B1.out.trans (u2.below z1 (fun k e => by subst e;exact LR)));clear o2 u2 hp
 go_wp2
 go_ret
 exact ⟨rfl,O2.out,B2.out⟩
theorem lie0_9 {α : Type} {Y : Lay α} {w : World} {a : Option Addr} {n c : Nat} {L : List α} (h : SlY Y w a n c L) (hi : 0 < n) : ∃ q o,a = some ⟨q,o,none⟩∧∀ i x,L[i]? = some x → ∀ k u,(Y.cs x)[k]? = some u → w.cell? ⟨q,o + i * Y.k + k,none⟩ = some u:=by
 have hl:=h.len;obtain ⟨q,o,rfl,hq,hlie⟩:=h.place (by rintro rfl;simp at hl;omega)
 exact ⟨q,o,rfl,fun i x hx k u hu => hlie i x hx k u hu⟩
theorem vlt9 {α : Type} {Y : Lay α} {w : World} {q o : Nat} {n c : Nat} {L : List α} (h : SlY Y w (some ⟨q,o,none⟩) n c L) (hi : 0 < n) : q < w.heap.size:=by
 have hl:=h.len;obtain ⟨q',o',e,hq,hlie⟩:=h.place (by rintro rfl;simp at hl;omega)
 cases e
 exact hq
theorem ixV9 (q o n c i : Nat) (hi : i < n) (w : World) : (Instr.indexAt 27 (.slice (some ⟨q,o,none⟩) n c) (.int .i64 (i : Int))).run Tryz.prog w = .ok (.pointer (some ⟨q,o + i * 2,none⟩)) w:=by
 have h1 : (i : Int) < (n : Int):=by omega
 go_simp
theorem ixVz9 (q n c i : Nat) (hi : i < n) (w : World) : (Instr.indexAt 27 (.slice (some ⟨q,0,none⟩) n c) (.int .i64 (i : Int))).run Tryz.prog w = .ok (.pointer (some ⟨q,i * 2,none⟩)) w:=(ixV9 q 0 n c i hi w).trans (by rw [Nat.zero_add])
def dcs9 (d : Int × Int) : List Value:=[.int .u64 d.1,.int .u64 d.2]
abbrev DB9 (w : World) (q : Nat) (d : Int × Int) : Prop:=BX7 w q (dcs9 d)
theorem alD9 (w : World) : (Instr.alloc 52 true (.tuple #[])).run Tryz.prog w = .ok (.pointer (some ⟨w.heap.size,0,none⟩)) (w.alloc (.cells #[.int .u64 0,.int .u64 0] 52)):=by
 go_simp
 first | done | rfl
theorem DB9.ld {w : World} {q : Nat} {d : Int × Int} (h : DB9 w q d) : (Instr.loadAt 52 (.pointer (some ⟨q,0,none⟩))).run Tryz.prog w = .ok (.agg #[.int .u64 d.1,.int .u64 d.2]) w:=ldDr8 (h.cell 0 _ rfl) (h.cell 1 _ rfl)
theorem run_stD9 {w : World} {q o : Nat} {d0 d1 : Value} (h0 : w.cell? ⟨q,o,none⟩ = some d0) (h1 : w.cell? ⟨q,o + 1,none⟩ = some d1) (f0 : w.frozen? ⟨q,o,none⟩ = false) (f1 : w.frozen? ⟨q,o + 1,none⟩ = false) (d : Int × Int) : (Instr.storeAt 52 (.pointer (some ⟨q,o,none⟩)) (.agg #[.int .u64 d.1,.int .u64 d.2])).run Tryz.prog w = .ok () (sets w q o (dcs9 d)):=by
 have:=run_storeAt_mid (P:=Tryz.prog) w q o 52 (dcs9 d).toArray (fun j hj => by
  have hj2 : j = 0 ∨ j = 1:=by simp [dcs9] at hj;omega
  rcases hj2 with rfl | rfl
  ·exact ⟨by rw [Nat.add_zero,h0];rfl,by rw [Nat.add_zero];exact f0⟩
  ·exact ⟨by rw [h1];rfl,f1⟩) (by kernel_rfl) (by first | rfl | (simp [dcs9];first | done | rfl | exact ⟨rfl,rfl⟩))
 rw [setCells_sets] at this
 exact this
theorem stD9 {w : World} {q : Nat} {x : Int × Int} (h : DB9 w q x) (d : Int × Int) : (Instr.storeAt 52 (.pointer (some ⟨q,0,none⟩)) (.agg #[.int .u64 d.1,.int .u64 d.2])).run Tryz.prog w = .ok () (sets w q 0 (dcs9 d)):=run_stD9 (h.cell 0 _ rfl) (h.cell 1 _ rfl) (h.free 0) (h.free 1) d
theorem DB9.put {w : World} {q : Nat} {x : Int × Int} (h : DB9 w q x) (d : Int × Int) : DB9 (sets w q 0 (dcs9 d)) q d:=by
 have h1:=BX7.set h (j:=0) (by simp [dcs9]) (.int .u64 d.1);have h2:=BX7.set h1 (j:=1) (by simp [dcs9]) (.int .u64 d.2)
 exact h2
theorem updS9 (w : World) (q o : Nat) (d : Int × Int) : Upd (fun k => k = q) w (sets w q o (dcs9 d)):=((Upd.refl (fun k => k = q) w).setCell (p:=⟨q,o,none⟩) (.inl rfl) _).setCell (p:=⟨q,o + 1,none⟩) (.inl rfl) _
theorem updD9 (w : World) (q : Nat) (d : Int × Int) : Upd (fun k => k = q) w (sets w q 0 (dcs9 d)):=updS9 w q 0 d
theorem own_stD9 {B g n c i : Nat} {w : World} {l : List (Int × Int)} {y : Int × Int} (h : OwnY yD B w (.slice (some ⟨g,0,none⟩) n c) l) (hy : l[i]? = some y) (d : Int × Int) :
  (Instr.storeAt 52 (.pointer (some ⟨g,i * 2,none⟩)) (.agg #[.int .u64 d.1,.int .u64 d.2])).run Tryz.prog w = .ok () (sets w g (i * 2) (dcs9 d))∧OwnY yD B (sets w g (i * 2) (dcs9 d)) (.slice (some ⟨g,0,none⟩) n c) (l.set i d)∧Upd (fun k => k = g) w (sets w g (i * 2) (dcs9 d)):=by
 refine ⟨run_stD9 (h.cell kD i y hy 0 _ rfl) (h.cell kD i y hy 1 _ rfl) (h.free _) (h.free _) d,?_,updS9 _ _ _ _⟩;have hi:=(List.getElem?_eq_some_iff.1 hy).1;have h1:=h.set1 kD hy (d.1,y.2) 0 (.int .u64 d.1) (by decide) rfl;have h2:=h1.set1 kD (x:=(d.1,y.2)) (i:=i) (by rw [List.getElem?_set_self hi]) d 1 (.int .u64 d.2) (by decide) rfl;rw [List.set_set] at h2
 exact h2
def rz9 (m v : Int × Int) : Int × Int:=if 0 < cmpD v.1 v.2 m.1 m.2 then v else m
def jn9 (M V : List (Int × Int)) : List (Int × Int):=(List.range M.length).map fun i => rz9 (M.getD i (0,0)) (V.getD i (0,0))
def rzA9 (M V : List (Int × Int)) (i : Nat) : List (Int × Int):=(List.range M.length).map fun k => if k < i then rz9 (M.getD k (0,0)) (V.getD k (0,0)) else M.getD k (0,0)
theorem jn9_length (M V : List (Int × Int)) : (jn9 M V).length = M.length:=by simp [jn9]
theorem rzA9_0 (M V : List (Int × Int)) : rzA9 M V 0 = M:=by
 apply List.ext_getElem?
 intro k
 by_cases h : k < M.length
 ·simp [rzA9,h,List.getD]
 ·simp [rzA9,h]
  try omega
theorem rzA9_at {M V : List (Int × Int)} {i : Nat} (h : i < M.length) : (rzA9 M V i)[i]? = some (M.getD i (0,0)):=by simp [rzA9,h]
theorem rzA9_set {M V : List (Int × Int)} {i : Nat} (h : i < M.length) (hc : 0 < cmpD (V.getD i (0,0)).1 (V.getD i (0,0)).2 (M.getD i (0,0)).1 (M.getD i (0,0)).2) : rzA9 M V (i + 1) = (rzA9 M V i).set i (V.getD i (0,0)):=by
 apply List.ext_getElem?
 intro k;rw [List.getElem?_set]
 by_cases hk : k < M.length
 ·by_cases e : i = k
  ·subst e
   simp only [rzA9,List.length_map,List.length_range,h,if_true,List.getElem?_map,List.getElem?_range h,Option.map_some,Nat.lt_succ_self,rz9,if_pos hc]
  ·have e1 : (k < i + 1) = (k < i):=by simp;omega
   simp only [rzA9,List.getElem?_map,List.getElem?_range hk,Option.map_some,if_neg e,e1]
 ·have : ¬ i = k:=by omega
  simp [rzA9,hk,this]
theorem rzA9_keep {M V : List (Int × Int)} {i : Nat} (h : i < M.length) (hc : ¬ 0 < cmpD (V.getD i (0,0)).1 (V.getD i (0,0)).2 (M.getD i (0,0)).1 (M.getD i (0,0)).2) : rzA9 M V (i + 1) = rzA9 M V i:=by
 apply List.ext_getElem?
 intro k
 by_cases hk : k < M.length
 ·simp only [rzA9,List.getElem?_map,List.getElem?_range hk,Option.map_some]
  by_cases e : k = i
  ·subst e
   rw [if_pos (Nat.lt_succ_self _),if_neg (Nat.lt_irrefl _),rz9,if_neg hc]
  ·have e1 : (k < i + 1) = (k < i):=by simp;omega
   simp only [e1]
 ·simp [rzA9,hk]
theorem rzA9_all {M V : List (Int × Int)} (h : V.length = M.length) : rzA9 M V V.length = jn9 M V:=by
 unfold rzA9 jn9
 apply List.map_congr_left
 intro k hk;rw [if_pos (by have:=List.mem_range.1 hk;omega)]
theorem raise9 (M V : List (Int × Int)) (B g c2 : Nat) (a : Option Addr) (c : Nat) (w : World) (hM : OwnY yD B w (.slice (some ⟨g,0,none⟩) M.length c2) M) (hV : SlY yD w a V.length c V) (hl : V.length = M.length) (hl0 : 0 < V.length) (hne : ∀ x,a = some x → x.block ≠ g) : Calls Tryz.prog 57 #[.slice (some ⟨g,0,none⟩) M.length c2,.slice a V.length c] w fun e w' => e = .returned (.tuple #[])∧OwnY yD B w' (.slice (some ⟨g,0,none⟩) M.length c2) (jn9 M V)∧Upd (fun k => k = g) w w':=by
 go_enter Tryz.func57,Tryz.ntmps57
 go_upto_region 0 with fail
 refine WL ?_;refine vl_gen (fun T => T.size = 25∧T[0]? = some (gw true (.slice (some ⟨g,0,none⟩) M.length c2))∧T[1]? = some (gw true (.slice a V.length c))) ⟨rfl,rfl,rfl⟩ (fun Z0 ⟨hz,s0,s1⟩ => ?_);have hB : Below w.heap.size w w:=BR;have hv0 : Below w.heap.size w w:=BR;obtain ⟨qv,ov,hva,hlie⟩:=lie0_9 hV hl0;subst hva;have hqg : ¬ qv = g:=hne _ rfl;have hgl : g < w.heap.size:=(hM.blk g rfl).2;have hqvl:=vlt9 hV hl0;have Ya:=((Rp.nil hz).cons s0).cons s1;clear hz s0 s1
 refine Ya.t _ (ex_move rfl (Ya.f 1)) fun _ Yb => ?_;clear Ya
 refine Yb.t _ (ex_lenV8 rfl rfl (Yb.f 6)) fun _ Yc => ?_;clear Yb
 refine Yc.t (.int .i64 0) (ex_move rfl rfl) fun _ Yd => ?_;clear Yc
 have hz:=Yd.z;have s0:=Yd.a 0 rfl;have s6:=Yd.a 6 rfl;have s7:=Yd.a 7 rfl;have s8:=Yd.a 8 rfl;clear Yd;refine WE ?_
 have hvl : V.length ≤ 9223372036854775807:=by have h1:=hV.max;have h2:=hV.cap;unfold maxLen at h1;omega
 have hs8 : _ = some (gw true (.int .i64 ((0 : Nat) : Int))):=s8
 go_upto_region 1 with fail
 refine v_loop 8 V.length (fun i T wr => T.size = 25∧T[0]? = some (gw true (.slice (some ⟨g,0,none⟩) M.length c2))∧T[6]? = some (gw true (.slice (some ⟨qv,ov,none⟩) V.length c))∧T[7]? = some (gw true (.int .i64 (V.length : Int)))∧T[8]? = some (gw true (.int .i64 (i : Int)))∧Hid (OwnY yD B wr (.slice (some ⟨g,0,none⟩) M.length c2) (rzA9 M V i)∧Upd (fun k => k = g) w wr)) (fun i T w h => h.2.2.2.2.1) ⟨hz,s0,s6,s7,hs8,by rw [rzA9_0];exact hM,Upd.refl _ _⟩ ?_;clear hz s0 s6 s7 s8 hs8;intro i R0 wr hi hh;obtain ⟨hz,s0,s6,s7,s8,HJ⟩:=hh;obtain ⟨OW,UW⟩:=HJ.out;clear HJ hv0
 by_cases hit : i < V.length
 ·have d1 : decide ((i : Int) < (V.length : Int)) = true:=decide_eq_true (by omega)
  go_upto_region 1 with fail
  refine WL ?_;have Ye:=((((Rp.nil hz).cons s0).cons s6).cons s7).cons s8;clear hz s0 s6 s7 s8
  refine Ye.t (.bool true) (ex_bin rfl (Ye.f 8) (Ye.f 7) (lssD8 _ _ _ _ true d1 _)) fun _ Yf => ?_;clear Ye
  have hz:=Yf.z;have s0:=Yf.a 0 rfl;have s6:=Yf.a 6 rfl;have s7:=Yf.a 7 rfl;have s8:=Yf.a 8 rfl;have s9:=Yf.a 9 rfl;clear Yf;refine WE ?_
  go_upto_region 2 with fail
  refine wp_cond_true ((ev s9 rfl).trans rfl) ?_;clear s9 d1
  obtain ⟨x,hx⟩ : ∃ x,x = (V.getD i (0,0)):=⟨_,rfl⟩
  obtain ⟨y,hy⟩ : ∃ y,y = (M.getD i (0,0)):=⟨_,rfl⟩
  have hxi : V[i]? = some x:=by rw [hx];simp [List.getD,List.getElem?_eq_getElem hit]
  have hyi : (rzA9 M V i)[i]? = some y:=by rw [hy];exact rzA9_at (by omega)
  have e3 : wr.cell? ⟨qv,ov + i * 2,none⟩ = some (.int .u64 x.1):=(UW.cell (p:=⟨qv,_,none⟩) hqvl hqg).trans (hlie i x hxi 0 _ rfl);have e4 : wr.cell? ⟨qv,ov + i * 2 + 1,none⟩ = some (.int .u64 x.2):=(UW.cell (p:=⟨qv,_,none⟩) hqvl hqg).trans (hlie i x hxi 1 _ rfl)
  obtain ⟨q5,hq5⟩ : ∃ z,z = wr.heap.size:=⟨_,rfl⟩
  obtain ⟨w5,hw5⟩ : ∃ y,y = wr.alloc (.cells #[.int .u64 0,.int .u64 0] 52):=⟨_,rfl⟩
  have b5 : Below wr.heap.size wr w5:=by rw [hw5];exact BR.alloc LR _
  have HQ : DB9 w5 q5 (0,0):=by rw [hw5,hq5];exact BX7.new _ _ _
  have z5:=b5.size;have l5:=HQ.lt;have zw:=UW.size
  go_upto_region 2 with fail
  refine WL ?_;have Yg:=((((Rp.nil hz).cons s0).cons s6).cons s7).cons s8;clear hz s0 s6 s7 s8
  refine Yg.t _ (ex_move rfl (Yg.f 8)) fun _ Yh => ?_;clear Yg
  refine Yh.t _ (ex_ix rfl (Yh.f 6) (Yh.f 8) (ixV9 qv ov V.length c i hit _)) fun _ Yi => ?_;clear Yh
  refine Yi.t _ (ex_ld rfl (Yi.f 11) (ldDr8 (d:=x) e3 e4)) fun _ Yj => ?_;clear Yi
  refine vw (.pointer (some ⟨q5,0,none⟩)) w5 WN (ex_al rfl (by rw [hw5,hq5];exact alD9 _)) rfl Yj.z (by decide) (Yj.k fun Yk Yl => ?_);clear Yj
  refine Yl.t _ (ex_assign rfl (Yl.f 10)) fun _ Ym => ?_;clear Yl
  refine vs (sets w5 q5 0 (dcs9 x)) WN (ex_st rfl (Ym.f 5) (Ym.f 12) (stD9 HQ x)) rfl ?_;have HD:=DB9.put HQ x;have UD:=updD9 w5 q5 x
  obtain ⟨w6,hw6⟩ : ∃ v,v = sets w5 q5 0 (dcs9 x):=⟨_,rfl⟩
  rw [← hw6] at HD UD ⊢;clear hw6;have b6 : Below wr.heap.size wr w6:=b5.trans (UD.below (by omega) (fun k hk => by omega));have OW:=OW.grow b6;have UW:=UW.trans (Upd.of_below b6);have z6:=UW.size;clear UD HQ b5 b6;have h60 : Below w6.heap.size w6 w6:=BR;have cc1 : w6.cell? ⟨g,i * 2,none⟩ = some (.int .u64 y.1):=OW.cell kD i y hyi 0 _ rfl;have cc2 : w6.cell? ⟨g,i * 2 + 1,none⟩ = some (.int .u64 y.2):=OW.cell kD i y hyi 1 _ rfl;have hz:=Ym.z;have s0:=Ym.a 0 rfl;have s4:=Ym.a 4 rfl;have s5:=Ym.a 5 rfl;have s6:=Ym.a 6 rfl;have s7:=Ym.a 7 rfl;have s8:=Ym.a 8 rfl;clear Ym;refine WE ?_
  go_upto_region 3 with fail
  refine vq_start (C:=fun v => Below w6.heap.size w6 v) (by kernel_rfl) (by kernel_rfl) h60.drew ?_;have Yn:=((((((Rp.nil hz).cons s0).cons s4).cons s5).cons s6).cons s7).cons s8;clear hz s0 s4 s5 s6 s7 s8
  refine Yn.q _ (fun v hv => ex_ld rfl (Yn.f 5) (DB9.ld (HD.bel hv))) fun _ Yo => ?_;clear Yn
  refine Yo.q _ (fun v hv => ex_move rfl (Yo.f 0)) fun _ Yp => ?_;clear Yo
  refine Yp.q _ (fun v hv => ex_move rfl (Yp.f 4)) fun _ Yq => ?_;clear Yp
  refine Yq.q (.pointer (some ⟨g,i * 2,none⟩)) (fun v hv => ex_ix rfl (Yq.f 14) (Yq.f 15) (ixVz9 g M.length c2 i (by omega) _)) fun _ Yr => ?_;clear Yq
  refine Yr.q _ (fun v hv => ex_ld rfl (Yr.f 16) (ldDr8 (d:=y) (cell8 cc1 hv) (cell8 cc2 hv))) fun _ Ys => ?_;clear Yr
  refine vq_call true (.int .i64 (cmpD x.1 x.2 y.1 y.2)) WN (fun hc v hv => ex_call rfl (by simp only [LA,LB,LC,(Ys.f 13),(Ys.f 17),evc] <;> rfl) rfl) (fun hc v hv => (bel8 hv (compare_any x.1 x.2 y.1 y.2 v))) rfl Ys.z (by decide) (Ys.k fun Yt Yu => ?_);clear Ys
  refine Yu.q (.bool (decide (0 < (cmpD x.1 x.2 y.1 y.2)))) (fun v hv => ex_bin rfl (Yu.f 18) rfl (gtrC _ _ _ _ _)) fun _ Yv => ?_;clear Yu
  have hz:=Yv.z;have s0:=Yv.a 0 rfl;have s4:=Yv.a 4 rfl;have s5:=Yv.a 5 rfl;have s6:=Yv.a 6 rfl;have s7:=Yv.a 7 rfl;have s8:=Yv.a 8 rfl;have s19:=Yv.a 19 rfl;clear Yv;refine vq_nil (fun x1 hx1 => ?_);have HD:=HD.bel hx1;have OW:=OW.grow hx1;have UW:=UW.trans (Upd.of_below hx1);clear h60 cc1 cc2 e3 e4
  go_upto_region 4 with fail
  cases eb : (decide (0 < (cmpD x.1 x.2 y.1 y.2)))
  ·refine wp_cond_false ((ev s19 rfl).trans (congrArg Value.bool eb)) ?_
   clear s19;clear s4 s5
   go_upto_region 5 with fail
   refine WL ?_;have Yw:=((((Rp.nil hz).cons s0).cons s6).cons s7).cons s8;clear hz s0 s6 s7 s8
   refine Yw.t (.int .i64 ((i + 1 : Nat) : Int)) (ex_bin rfl (Yw.f 8) rfl (addD8 _ _ _ 1 ((i + 1 : Nat) : Int) (by rw [IntKind.wrap_i64];omega) _)) fun _ Yx => ?_;clear Yw
   refine Yx.t _ (ex_move rfl (Yx.f 24)) fun _ Yy => ?_;clear Yx
   have hz:=Yy.z;have s0:=Yy.a 0 rfl;have s6:=Yy.a 6 rfl;have s7:=Yy.a 7 rfl;have s8:=Yy.a 8 rfl;clear Yy;refine WE ?_
   exact ⟨_,rfl,by omega,hz,s0,s6,s7,s8,by rw [rzA9_keep (by omega) (by rw [← hx,← hy];exact of_decide_eq_false eb)];exact OW,UW⟩
  ·refine wp_cond_true ((ev s19 rfl).trans (congrArg Value.bool eb)) ?_
   clear s19
   go_upto_region 4 with fail
   refine WL ?_;have Yz:=((((((Rp.nil hz).cons s0).cons s4).cons s5).cons s6).cons s7).cons s8;clear hz s0 s4 s5 s6 s7 s8
   refine Yz.t _ (ex_move rfl (Yz.f 0)) fun _ Y0 => ?_;clear Yz
   refine Y0.t _ (ex_move rfl (Y0.f 4)) fun _ Y1 => ?_;clear Y0
   refine Y1.t _ (ex_ld rfl (Y1.f 5) (DB9.ld HD)) fun _ Y2 => ?_;clear Y1
   refine Y2.t (.pointer (some ⟨g,i * 2,none⟩)) (ex_ix rfl (Y2.f 20) (Y2.f 21) (ixVz9 g M.length c2 i (by omega) _)) fun _ Y3 => ?_;clear Y2
   refine vs (sets x1 g (i * 2) (dcs9 x)) WN (ex_st rfl (Y3.f 23) (Y3.f 22) (own_stD9 OW hyi x).1) rfl ?_;have OS:=(own_stD9 OW hyi x).2
   obtain ⟨w8,hw8⟩ : ∃ v,v = sets x1 g (i * 2) (dcs9 x):=⟨_,rfl⟩
   rw [← hw8] at OS ⊢;clear hw8;have hz:=Y3.z;have s0:=Y3.a 0 rfl;have s6:=Y3.a 6 rfl;have s7:=Y3.a 7 rfl;have s8:=Y3.a 8 rfl;clear Y3;refine WE ?_
   go_upto_region 5 with fail
   refine WL ?_;have Y4:=((((Rp.nil hz).cons s0).cons s6).cons s7).cons s8;clear hz s0 s6 s7 s8
   refine Y4.t (.int .i64 ((i + 1 : Nat) : Int)) (ex_bin rfl (Y4.f 8) rfl (addD8 _ _ _ 1 ((i + 1 : Nat) : Int) (by rw [IntKind.wrap_i64];omega) _)) fun _ Y5 => ?_;clear Y4
   refine Y5.t _ (ex_move rfl (Y5.f 24)) fun _ Y6 => ?_;clear Y5
   have hz:=Y6.z;have s0:=Y6.a 0 rfl;have s6:=Y6.a 6 rfl;have s7:=Y6.a 7 rfl;have s8:=Y6.a 8 rfl;clear Y6;refine WE ?_
   exact ⟨_,rfl,by omega,hz,s0,s6,s7,s8,by rw [rzA9_set (by omega) (by rw [← hx,← hy];exact of_decide_eq_true eb),← hx];exact OS.1,UW.trans OS.2⟩
 ·have d1 : decide ((i : Int) < (V.length : Int)) = false:=decide_eq_false (by omega)
  go_upto_region 1 with fail
  refine WL ?_;have Y7:=((((Rp.nil hz).cons s0).cons s6).cons s7).cons s8;clear hz s0 s6 s7 s8
  refine Y7.t (.bool false) (ex_bin rfl (Y7.f 8) (Y7.f 7) (lssD8 _ _ _ _ false d1 _)) fun _ Y8 => ?_;clear Y7
  have hz:=Y8.z;have s9:=Y8.a 9 rfl;clear Y8;refine WE ?_
  go_upto_region 2 with fail
  have ei : i = V.length:=by omega
  subst ei;rw [rzA9_all hl] at OW;refine wp_cond_false ((ev s9 rfl).trans rfl) ?_
  go_wp2
  refine bodyPost_end (v:=.tuple #[]) (by first | rfl | kernel_rfl) rfl ?_
  exact ⟨rfl,OW,UW⟩
end Go.Proofs.YtpcgnjpodnebpaaGreatDoor
namespace Go.Proofs.YtpcgnjpodnebpaaGreatDoor
open Go.RowKit Go.Maps
open Classical
def enb (a b : En) : Bool:=decide (a.c = b.c) && (decide (a.n = b.n) && (decide (a.o.k = b.o.k) && (decide (a.o.s = b.o.s) && decide (a.o.v.data = b.o.v.data))))
theorem enb_iff (a b : En) : enb a b = true ↔ a = b:=by
 rcases a with ⟨c,n,⟨k,s,⟨v⟩⟩⟩
 rcases b with ⟨c',n',⟨k',s',⟨v'⟩⟩⟩
 simp only [enb,Bool.and_eq_true,decide_eq_true_eq,En.mk.injEq,Opn.mk.injEq,ByteArray.mk.injEq]
structure Cf where
 f : Int
 r : Int
 p : Int
 u : Bool
def Cf.val (c : Cf) : Value:=.agg #[.int .i64 c.f,.int .i64 c.r,.int .i64 c.p,.bool c.u]
def inR (x a b : Int) : Bool:=decide (a ≤ x) && decide (x ≤ b)
def cfB (c : Cf) : Bool:=inR c.f 1 3 && inR c.r 1 256 && inR c.p 6 100
def rdB (c : Int) : Bool:=decide (c = 4) || decide (c = 5) || decide (c = 6)
def apB (p c r : Int) : Bool:=if c = 7 then decide (p = 0) else inR p 1 r
def kdB (k : Int) : Bool:=inR k 1 14
def noV : ByteArray:=⟨#[]⟩
def resB (c s : Int) (v : ByteArray) : Bool:=if c = 1 ∨ c = 2 ∨ c = 4 then inR s 0 1023 && decide (v.size ≤ 64) else if c = 5 then inR s 0 1023 && decide (v = noV) else if c = 6 then inR s 0 1024 && decide (v = noV) else if c = 3 ∨ c = 7 then decide (s = 0) && decide (v = noV) else false
theorem withinM_any (x a b : Int) (w : World) : Calls Tryz.prog 82 #[.int .i64 x,.int .i64 a,.int .i64 b] w fun e w' => e = .returned (.bool (inR x a b))∧w' = w:=by
 by_cases h1 : a ≤ x
 ·by_cases h2 : x ≤ b
  ·go_enter Tryz.func82,Tryz.ntmps82
   go_wp2
   go_ret
   exact ⟨by simp [inR,h1,h2],rfl⟩
  ·go_enter Tryz.func82,Tryz.ntmps82
   go_wp2
   go_ret
   exact ⟨by simp [inR,h1,h2],rfl⟩
 ·go_enter Tryz.func82,Tryz.ntmps82
  go_wp2
  go_ret
  exact ⟨by simp [inR,h1];omega,rfl⟩
theorem isKind_any (k : Int) (w : World) : Calls Tryz.prog 42 #[.int .i64 k] w fun e w' => e = .returned (.bool (kdB k))∧w' = w:=by
 by_cases h1 : 1 ≤ k
 ·by_cases h2 : k ≤ 14
  ·go_enter Tryz.func42,Tryz.ntmps42
   go_wp2
   go_ret
   exact ⟨by simp [kdB,inR,h1,h2],rfl⟩
  ·go_enter Tryz.func42,Tryz.ntmps42
   go_wp2
   go_ret
   exact ⟨by simp [kdB,inR,h1,h2],rfl⟩
 ·go_enter Tryz.func42,Tryz.ntmps42
  go_wp2
  go_ret
  exact ⟨by simp [kdB,inR,h1];omega,rfl⟩
theorem isReading_any (c : Int) (w : World) : Calls Tryz.prog 88 #[.int .i64 c] w fun e w' => e = .returned (.bool (rdB c))∧w' = w:=by
 by_cases h1 : c = 4
 ·subst h1
  go_enter Tryz.func88,Tryz.ntmps88
  go_wp2
  go_ret
  exact ⟨rfl,rfl⟩
 ·by_cases h2 : c = 5
  ·subst h2
   go_enter Tryz.func88,Tryz.ntmps88
   go_wp2
   go_ret
   exact ⟨rfl,rfl⟩
  ·by_cases h3 : c = 6
   ·subst h3
    go_enter Tryz.func88,Tryz.ntmps88
    go_wp2
    go_ret
    exact ⟨rfl,rfl⟩
   ·go_enter Tryz.func88,Tryz.ntmps88
    go_wp2
    go_ret
    exact ⟨by simp [rdB,h1,h2,h3],rfl⟩
theorem answerPlace_any (p c r : Int) (w : World) : Calls Tryz.prog 84 #[.int .i64 p,.int .i64 c,.int .i64 r] w fun e w' => e = .returned (.bool (apB p c r))∧w' = w:=by
 by_cases h1 : c = 7
 ·subst h1
  by_cases h2 : p = 0
  ·subst h2
   go_enter Tryz.func84,Tryz.ntmps84
   go_wp2
   go_ret
   exact ⟨rfl,rfl⟩
  ·go_enter Tryz.func84,Tryz.ntmps84
   go_wp2
   go_ret
   exact ⟨by simp [apB,h2],rfl⟩
 ·have H:=hide (withinM_any p 1 r w)
  go_enter Tryz.func84,Tryz.ntmps84
  go_wp2_with fail
  refine H.out.mono ?_;rintro e w1 ⟨rfl,rfl⟩
  go_wp2
  go_ret
  exact ⟨by simp [apB,h1],rfl⟩
theorem configMayBe_any (c : Cf) (w : World) : Calls Tryz.prog 53 #[c.val] w fun e w' => e = .returned (.bool (cfB c))∧Below w.heap.size w w':=by
 obtain ⟨f,r,p,u⟩:=c;have H1:=hide (fun W => withinM_any f 1 3 W);have H2:=hide (fun W => withinM_any r 1 256 W);have H3:=hide (fun W => withinM_any p 6 100 W);have V : Hid (cfB ⟨f,r,p,u⟩ = (inR f 1 3 && inR r 1 256 && inR p 6 100)):=rfl
 unfold Cf.val
 dsimp only
 have hB : Below w.heap.size w (w.alloc (.cells #[.int .i64 f,.int .i64 r,.int .i64 p,.bool u] 23)):=BR.alloc LR _;have HB:=hide hB;clear hB
 generalize inR f 1 3 = x1 at *
 generalize inR r 1 256 = x2 at *
 generalize inR p 6 100 = x3 at *
 cases x1 with
 | false =>
  go_enter Tryz.func53,Tryz.ntmps53
  go_wp2_with fail
  refine (H1.out _).mono ?_;rintro e w1 ⟨rfl,rfl⟩
  go_wp2
  go_ret
  exact ⟨by rw [V.out];rfl,HB.out⟩
 | true =>
  cases x2 with
  | false =>
   go_enter Tryz.func53,Tryz.ntmps53
   go_wp2_with fail
   refine (H1.out _).mono ?_;rintro e w1 ⟨rfl,rfl⟩
   go_wp2_with fail
   refine (H2.out _).mono ?_;rintro e w1 ⟨rfl,rfl⟩
   go_wp2
   go_ret
   exact ⟨by rw [V.out];rfl,HB.out⟩
  | true =>
   go_enter Tryz.func53,Tryz.ntmps53
   go_wp2_with fail
   refine (H1.out _).mono ?_;rintro e w1 ⟨rfl,rfl⟩
   go_wp2_with fail
   refine (H2.out _).mono ?_;rintro e w1 ⟨rfl,rfl⟩
   go_wp2_with fail
   refine (H3.out _).mono ?_;rintro e w1 ⟨rfl,rfl⟩
   go_wp2
   go_ret
   exact ⟨by rw [V.out];simp,HB.out⟩
theorem logMayBe_any (L : List En) (a : Option Addr) (n c : Nat) (room : Int) (w : World) (h : SlY yE w a n c L) (hf : ∀ e ∈ L,e.fits) :
  Calls Tryz.prog 85 #[.slice a n c,.int .i64 room] w fun e w' => e = .returned (.bool (decide ((chk L room).1 = 0)))∧Below w.heap.size w w':=by
 have H:=hide (checkO_any L a n c room w h hf);clear h
 go_enter Tryz.func85,Tryz.ntmps85
 go_wp2_with fail
 refine H.out.mono ?_;rintro e w1 ⟨rfl,b1⟩
 by_cases hx : (chk L room).1 = 0
 ·have V:=hide (decide_eq_true hx)
  go_wp2
  go_ret
  exact ⟨by rw [V.out];rfl,b1⟩
 ·have V:=hide (decide_eq_false hx)
  have hq : ((chk L room).1 == 0) = false:=by simp [hx]
  go_wp2
  go_ret
  exact ⟨by rw [V.out];rfl,b1⟩
theorem resultMayBe_any (c s : Int) (v : ByteArray) (w : World) : Calls Tryz.prog 87 #[.agg #[.int .i64 c,.int .i64 s,.string v]] w fun e w' => e = .returned (.bool (resB c s v))∧Below w.heap.size w w':=by
 have hB : Below w.heap.size w (w.alloc (.cells #[.int .i64 c,.int .i64 s,.string v] 49)):=BR.alloc LR _;have HB:=hide hB;clear hB
 by_cases h1 : c = 1
 ·subst h1
  have V : Hid (resB 1 s v = (inR s 0 1023 && decide (v.size ≤ 64))):=by simp [Hid,resB]
  have H:=hide (fun W => withinM_any s 0 1023 W)
  generalize inR s 0 1023 = x at *
  cases x with
  | false =>
   go_enter Tryz.func87,Tryz.ntmps87
   go_wp2_with fail
   refine (H.out _).mono ?_;rintro e w1 ⟨rfl,rfl⟩
   go_wp2
   go_ret
   exact ⟨by rw [V.out];rfl,HB.out⟩
  | true =>
   by_cases hv : (v.size : Int) ≤ 64
   ·have hv' : decide (v.size ≤ 64) = true:=decide_eq_true (by omega)
    go_enter Tryz.func87,Tryz.ntmps87
    go_wp2_with fail
    refine (H.out _).mono ?_;rintro e w1 ⟨rfl,rfl⟩
    go_wp2
    go_ret
    exact ⟨by rw [V.out,hv'];first | rfl | (simp;omega),HB.out⟩
   ·have hv' : decide (v.size ≤ 64) = false:=decide_eq_false (by omega)
    go_enter Tryz.func87,Tryz.ntmps87
    go_wp2_with fail
    refine (H.out _).mono ?_;rintro e w1 ⟨rfl,rfl⟩
    go_wp2
    go_ret
    exact ⟨by rw [V.out,hv'];first | rfl | (simp;omega),HB.out⟩
 ·skip
  by_cases h2 : c = 2
  ·subst h2
   have V : Hid (resB 2 s v = (inR s 0 1023 && decide (v.size ≤ 64))):=by simp [Hid,resB]
   have H:=hide (fun W => withinM_any s 0 1023 W)
   generalize inR s 0 1023 = x at *
   cases x with
   | false =>
    go_enter Tryz.func87,Tryz.ntmps87
    go_wp2_with fail
    refine (H.out _).mono ?_;rintro e w1 ⟨rfl,rfl⟩
    go_wp2
    go_ret
    exact ⟨by rw [V.out];rfl,HB.out⟩
   | true =>
    by_cases hv : (v.size : Int) ≤ 64
    ·have hv' : decide (v.size ≤ 64) = true:=decide_eq_true (by omega)
     go_enter Tryz.func87,Tryz.ntmps87
     go_wp2_with fail
     refine (H.out _).mono ?_;rintro e w1 ⟨rfl,rfl⟩
     go_wp2
     go_ret
     exact ⟨by rw [V.out,hv'];first | rfl | (simp;omega),HB.out⟩
    ·have hv' : decide (v.size ≤ 64) = false:=decide_eq_false (by omega)
     go_enter Tryz.func87,Tryz.ntmps87
     go_wp2_with fail
     refine (H.out _).mono ?_;rintro e w1 ⟨rfl,rfl⟩
     go_wp2
     go_ret
     exact ⟨by rw [V.out,hv'];first | rfl | (simp;omega),HB.out⟩
  ·skip
   by_cases h4 : c = 4
   ·subst h4
    have V : Hid (resB 4 s v = (inR s 0 1023 && decide (v.size ≤ 64))):=by simp [Hid,resB]
    have H:=hide (fun W => withinM_any s 0 1023 W)
    generalize inR s 0 1023 = x at *
    cases x with
    | false =>
     go_enter Tryz.func87,Tryz.ntmps87
     go_wp2_with fail
     refine (H.out _).mono ?_;rintro e w1 ⟨rfl,rfl⟩
     go_wp2
     go_ret
     exact ⟨by rw [V.out];rfl,HB.out⟩
    | true =>
     by_cases hv : (v.size : Int) ≤ 64
     ·have hv' : decide (v.size ≤ 64) = true:=decide_eq_true (by omega)
      go_enter Tryz.func87,Tryz.ntmps87
      go_wp2_with fail
      refine (H.out _).mono ?_;rintro e w1 ⟨rfl,rfl⟩
      go_wp2
      go_ret
      exact ⟨by rw [V.out,hv'];first | rfl | (simp;omega),HB.out⟩
     ·have hv' : decide (v.size ≤ 64) = false:=decide_eq_false (by omega)
      go_enter Tryz.func87,Tryz.ntmps87
      go_wp2_with fail
      refine (H.out _).mono ?_;rintro e w1 ⟨rfl,rfl⟩
      go_wp2
      go_ret
      exact ⟨by rw [V.out,hv'];first | rfl | (simp;omega),HB.out⟩
   ·skip
    by_cases h5 : c = 5
    ·subst h5
     have V : Hid (resB 5 s v = (inR s 0 1023 && decide (v = noV))):=by simp [Hid,resB]
     have H:=hide (fun W => withinM_any s 0 1023 W)
     generalize inR s 0 1023 = x at *
     cases x with
     | false =>
      go_enter Tryz.func87,Tryz.ntmps87
      go_wp2_with fail
      refine (H.out _).mono ?_;rintro e w1 ⟨rfl,rfl⟩
      go_wp2
      go_ret
      exact ⟨by rw [V.out];rfl,HB.out⟩
     | true =>
      by_cases hv : v = noV
      ·have hv' : decide (v = noV) = true:=decide_eq_true hv
       have V2 : Hid (resB 5 s v = true):=V.out.trans (by rw [hv'];rfl);clear V hv'
       unfold noV at hv
       subst hv
       go_enter Tryz.func87,Tryz.ntmps87
       go_wp2_with fail
       refine (H.out _).mono ?_;rintro e w1 ⟨rfl,rfl⟩
       go_wp2
       go_ret
       exact ⟨by rw [V2.out];rfl,HB.out⟩
      ·have hv' : decide (v = noV) = false:=decide_eq_false hv
       have g2 : ¬ v.toList = (⟨#[]⟩ : ByteArray).toList:=fun e => hv ((bytes_inj _ _).1 e)
       have g3 : v.toList.isEmpty = false:=by
        rw [Bool.eq_false_iff];intro h
        exact g2 (by rw [List.isEmpty_iff.1 h,ByteArray.toList_eq])
       go_enter Tryz.func87,Tryz.ntmps87
       go_wp2_with fail
       refine (H.out _).mono ?_;rintro e w1 ⟨rfl,rfl⟩
       go_wp2
       go_ret
       exact ⟨by rw [V.out,hv'];first | rfl | (simp;omega),HB.out⟩
    ·skip
     by_cases h6 : c = 6
     ·subst h6
      have V : Hid (resB 6 s v = (inR s 0 1024 && decide (v = noV))):=by simp [Hid,resB]
      have H:=hide (fun W => withinM_any s 0 1024 W)
      generalize inR s 0 1024 = x at *
      cases x with
      | false =>
       go_enter Tryz.func87,Tryz.ntmps87
       go_wp2_with fail
       refine (H.out _).mono ?_;rintro e w1 ⟨rfl,rfl⟩
       go_wp2
       go_ret
       exact ⟨by rw [V.out];rfl,HB.out⟩
      | true =>
       by_cases hv : v = noV
       ·have hv' : decide (v = noV) = true:=decide_eq_true hv
        have V2 : Hid (resB 6 s v = true):=V.out.trans (by rw [hv'];rfl);clear V hv'
        unfold noV at hv
        subst hv
        go_enter Tryz.func87,Tryz.ntmps87
        go_wp2_with fail
        refine (H.out _).mono ?_;rintro e w1 ⟨rfl,rfl⟩
        go_wp2
        go_ret
        exact ⟨by rw [V2.out];rfl,HB.out⟩
       ·have hv' : decide (v = noV) = false:=decide_eq_false hv
        have g2 : ¬ v.toList = (⟨#[]⟩ : ByteArray).toList:=fun e => hv ((bytes_inj _ _).1 e)
        have g3 : v.toList.isEmpty = false:=by
         rw [Bool.eq_false_iff];intro h
         exact g2 (by rw [List.isEmpty_iff.1 h,ByteArray.toList_eq])
        go_enter Tryz.func87,Tryz.ntmps87
        go_wp2_with fail
        refine (H.out _).mono ?_;rintro e w1 ⟨rfl,rfl⟩
        go_wp2
        go_ret
        exact ⟨by rw [V.out,hv'];first | rfl | (simp;omega),HB.out⟩
     ·skip
      by_cases h3 : c = 3
      ·subst h3
       have V : Hid (resB 3 s v = (decide (s = 0) && decide (v = noV))):=by simp [Hid,resB]
       by_cases hs : s = 0
       ·by_cases hv : v = noV
        ·have V2 : Hid (resB 3 s v = true):=V.out.trans (by simp [hs,hv])
         clear V
         unfold noV at hv
         subst hv hs
         go_enter Tryz.func87,Tryz.ntmps87
         go_wp2
         go_ret
         exact ⟨by rw [V2.out];rfl,HB.out⟩
        ·have g2 : ¬ v.toList = (⟨#[]⟩ : ByteArray).toList:=fun e => hv ((bytes_inj _ _).1 e)
         have g3 : v.toList.isEmpty = false:=by
          rw [Bool.eq_false_iff];intro h
          exact g2 (by rw [List.isEmpty_iff.1 h,ByteArray.toList_eq])
         have V2 : Hid (resB 3 s v = false):=V.out.trans (by simp [hv]);clear V;subst hs
         go_enter Tryz.func87,Tryz.ntmps87
         go_wp2
         go_ret
         exact ⟨by rw [V2.out];rfl,HB.out⟩
       ·have V2 : Hid (resB 3 s v = false):=V.out.trans (by simp [hs])
        clear V
        go_enter Tryz.func87,Tryz.ntmps87
        go_wp2
        go_ret
        exact ⟨by rw [V2.out];rfl,HB.out⟩
      ·skip
       by_cases h7 : c = 7
       ·subst h7
        have V : Hid (resB 7 s v = (decide (s = 0) && decide (v = noV))):=by simp [Hid,resB]
        by_cases hs : s = 0
        ·by_cases hv : v = noV
         ·have V2 : Hid (resB 7 s v = true):=V.out.trans (by simp [hs,hv])
          clear V
          unfold noV at hv
          subst hv hs
          go_enter Tryz.func87,Tryz.ntmps87
          go_wp2
          go_ret
          exact ⟨by rw [V2.out];rfl,HB.out⟩
         ·have g2 : ¬ v.toList = (⟨#[]⟩ : ByteArray).toList:=fun e => hv ((bytes_inj _ _).1 e)
          have g3 : v.toList.isEmpty = false:=by
           rw [Bool.eq_false_iff];intro h
           exact g2 (by rw [List.isEmpty_iff.1 h,ByteArray.toList_eq])
          have V2 : Hid (resB 7 s v = false):=V.out.trans (by simp [hv]);clear V;subst hs
          go_enter Tryz.func87,Tryz.ntmps87
          go_wp2
          go_ret
          exact ⟨by rw [V2.out];rfl,HB.out⟩
        ·have V2 : Hid (resB 7 s v = false):=V.out.trans (by simp [hs])
         clear V
         go_enter Tryz.func87,Tryz.ntmps87
         go_wp2
         go_ret
         exact ⟨by rw [V2.out];rfl,HB.out⟩
       ·skip
        have V : Hid (resB c s v = false):=by simp [Hid,resB,h1,h2,h3,h4,h5,h6,h7]
        have n1 : (c == 1) = false:=by simp [h1]
        have n2 : (c == 2) = false:=by simp [h2]
        have n3 : (c == 3) = false:=by simp [h3]
        have n4 : (c == 4) = false:=by simp [h4]
        have n5 : (c == 5) = false:=by simp [h5]
        have n6 : (c == 6) = false:=by simp [h6]
        have n7 : (c == 7) = false:=by simp [h7]
        go_enter Tryz.func87,Tryz.ntmps87
        go_wp2
        go_ret
        exact ⟨by rw [V.out];rfl,HB.out⟩
def zEn : En:=⟨0,0,⟨0,0,⟨#[]⟩⟩⟩
def blB (m : Mg) (nl nv : Nat) (at_ : Nat) : Bool :=
 if at_ = 0 then decide (m.nd = 0) else if at_ = 1 then decide (m.vw = 0) else if at_ = 2 then decide (m.ls = 0) else if at_ = 3 then decide (m.p = 0) else if at_ = 4 then decide (m.cm = 0) else if at_ = 5 then decide (m.d = (0,0)) else if at_ = 6 then enb m.e zEn else if at_ = 7 then decide (m.r = (0,0,⟨#[]⟩)) else if at_ = 8 then decide (nl = 0) else decide (nv = 0)
theorem isBlank_ks (m : Mg) (a1 a2 : Option Addr) (nl cl nv cv : Nat) (w : World) (k : Int) (j : Nat) (X : Int) (hk : (k = 0∧j = 0∧X = m.nd) ∨ (k = 1∧j = 1∧X = m.vw) ∨ (k = 2∧j = 2∧X = m.ls) ∨ (k = 3∧j = 3∧X = m.p) ∨ (k = 4∧j = 4∧X = m.cm)) : Calls Tryz.prog 83 #[m.val (.slice a1 nl cl) (.slice a2 nv cv),.int .i64 k] w fun e w' => e = .returned (.bool (blB m nl nv j))∧Below w.heap.size w w':=by
 by_cases h : X = 0
 ·have V : Hid (blB m nl nv j = true):=by rcases hk with ⟨rfl,rfl,rfl⟩ | ⟨rfl,rfl,rfl⟩ | ⟨rfl,rfl,rfl⟩ | ⟨rfl,rfl,rfl⟩ | ⟨rfl,rfl,rfl⟩ <;> simp [Hid,blB,h]
  rcases hk with ⟨rfl,rfl,rfl⟩ | ⟨rfl,rfl,rfl⟩ | ⟨rfl,rfl,rfl⟩ | ⟨rfl,rfl,rfl⟩ | ⟨rfl,rfl,rfl⟩ <;> (
  go_enter Tryz.func83,Tryz.ntmps83
  go_upto_region 1 with (refine boxMk rfl (.tmp 0) rfl m _ _ rfl ?_;intro q1 w1 hq1 M1 b1 z1;subst hq1)
  have HB:=hide b1;have x1:=M1.cell 1 _ rfl;have x2:=M1.cell 2 _ rfl;have x11:=M1.cell 11 _ rfl;have x12:=M1.cell 12 _ rfl;have x13:=M1.cell 13 _ rfl
  try rw [h] at x1
  try rw [h] at x2
  try rw [h] at x11
  try rw [h] at x12
  try rw [h] at x13
  clear M1 b1 z1
  go_wp2
  go_ret
  exact ⟨by rw [V.out];rfl,HB.out⟩)
 ·have V : Hid (blB m nl nv j = false):=by rcases hk with ⟨rfl,rfl,rfl⟩ | ⟨rfl,rfl,rfl⟩ | ⟨rfl,rfl,rfl⟩ | ⟨rfl,rfl,rfl⟩ | ⟨rfl,rfl,rfl⟩ <;> simp [Hid,blB,h]
  have hq : (X == 0) = false:=by simp [h]
  rcases hk with ⟨rfl,rfl,rfl⟩ | ⟨rfl,rfl,rfl⟩ | ⟨rfl,rfl,rfl⟩ | ⟨rfl,rfl,rfl⟩ | ⟨rfl,rfl,rfl⟩ <;> (
  go_enter Tryz.func83,Tryz.ntmps83
  go_upto_region 1 with (refine boxMk rfl (.tmp 0) rfl m _ _ rfl ?_;intro q1 w1 hq1 M1 b1 z1;subst hq1)
  have HB:=hide b1;have x1:=M1.cell 1 _ rfl;have x2:=M1.cell 2 _ rfl;have x11:=M1.cell 11 _ rfl;have x12:=M1.cell 12 _ rfl;have x13:=M1.cell 13 _ rfl;clear M1 b1 z1
  go_wp2
  go_ret
  exact ⟨by rw [V.out];rfl,HB.out⟩)
theorem isBlank_8 (m : Mg) (a1 a2 : Option Addr) (nl cl nv cv : Nat) (w : World) : Calls Tryz.prog 83 #[m.val (.slice a1 nl cl) (.slice a2 nv cv),.int .i64 8] w fun e w' => e = .returned (.bool (blB m nl nv 8))∧Below w.heap.size w w':=by
 by_cases h : nl = 0
 ·have V : Hid (blB m nl nv 8 = true):=by simp [Hid,blB,h]
  subst h
  go_enter Tryz.func83,Tryz.ntmps83
  go_upto_region 1 with (refine boxMk rfl (.tmp 0) rfl m _ _ rfl ?_;intro q1 w1 hq1 M1 b1 z1;subst hq1)
  have HB:=hide b1;have x16:=M1.cell 16 _ rfl;clear M1 b1 z1
  go_wp2
  go_ret
  exact ⟨by rw [V.out];rfl,HB.out⟩
 ·have V : Hid (blB m nl nv 8 = false):=by simp [Hid,blB,h]
  have h' : ¬ (nl : Int) = 0:=by omega
  have hq : ((nl : Int) == 0) = false:=by simp [h]
  go_enter Tryz.func83,Tryz.ntmps83
  go_upto_region 1 with (refine boxMk rfl (.tmp 0) rfl m _ _ rfl ?_;intro q1 w1 hq1 M1 b1 z1;subst hq1)
  have HB:=hide b1;have x16:=M1.cell 16 _ rfl;clear M1 b1 z1
  go_wp2
  go_ret
  exact ⟨by rw [V.out];rfl,HB.out⟩
theorem isBlank_9 (m : Mg) (a1 a2 : Option Addr) (nl cl nv cv : Nat) (w : World) : Calls Tryz.prog 83 #[m.val (.slice a1 nl cl) (.slice a2 nv cv),.int .i64 9] w fun e w' => e = .returned (.bool (blB m nl nv 9))∧Below w.heap.size w w':=by
 by_cases h : nv = 0
 ·have V : Hid (blB m nl nv 9 = true):=by simp [Hid,blB,h]
  subst h
  go_enter Tryz.func83,Tryz.ntmps83
  go_upto_region 1 with (refine boxMk rfl (.tmp 0) rfl m _ _ rfl ?_;intro q1 w1 hq1 M1 b1 z1;subst hq1)
  have HB:=hide b1;have x17:=M1.cell 17 _ rfl;clear M1 b1 z1
  go_wp2
  go_ret
  exact ⟨by rw [V.out];rfl,HB.out⟩
 ·have V : Hid (blB m nl nv 9 = false):=by simp [Hid,blB,h]
  have h' : ¬ (nv : Int) = 0:=by omega
  have hq : ((nv : Int) == 0) = false:=by simp [h]
  go_enter Tryz.func83,Tryz.ntmps83
  go_upto_region 1 with (refine boxMk rfl (.tmp 0) rfl m _ _ rfl ?_;intro q1 w1 hq1 M1 b1 z1;subst hq1)
  have HB:=hide b1;have x17:=M1.cell 17 _ rfl;clear M1 b1 z1
  go_wp2
  go_ret
  exact ⟨by rw [V.out];rfl,HB.out⟩
theorem TRUE5 (m : Mg) (nl nv : Nat) (h1 : m.d.1 = 0) (h2 : m.d.2 = 0) : Hid (blB m nl nv 5 = true):=by
 obtain ⟨k,nd,vw,e,r,p,cm,ls,d1,d2⟩:=m
 dsimp only at h1 h2
 subst h1 h2
 rfl
theorem FALSE5 (m : Mg) (nl nv : Nat) (h : m.d ≠ (0,0)) : Hid (blB m nl nv 5 = false):=by
 show _ = _
 simp [blB,h]
theorem TRUE6 (m : Mg) (nl nv : Nat) (h1 : m.e.c = 0) (h2 : m.e.n = 0) (h3 : m.e.o.k = 0) (h4 : m.e.o.s = 0) (h5 : m.e.o.v = ⟨#[]⟩) : Hid (blB m nl nv 6 = true):=by
 obtain ⟨k,nd,vw,⟨c,n,⟨ok,os,ov⟩⟩,r,p,cm,ls,d1,d2⟩:=m
 dsimp only at h1 h2 h3 h4 h5
 subst h1 h2 h3 h4 h5
 show _ = _
 simp [blB,(enb_iff _ _).2,zEn]
theorem FALSE6 (m : Mg) (nl nv : Nat) (h : m.e ≠ zEn) : Hid (blB m nl nv 6 = false):=by
 have e : enb m.e zEn = false:=Bool.eq_false_iff.2 (fun e => h ((enb_iff _ _).1 e))
 show _ = _
 simp [blB,e]
theorem TRUE7 (m : Mg) (nl nv : Nat) (h1 : m.r.1 = 0) (h2 : m.r.2.1 = 0) (h3 : m.r.2.2 = ⟨#[]⟩) : Hid (blB m nl nv 7 = true):=by
 obtain ⟨k,nd,vw,e,⟨r1,r2,r3⟩,p,cm,ls,d1,d2⟩:=m
 dsimp only at h1 h2 h3
 subst h1 h2 h3
 show _ = _
 simp [blB,zEn]
theorem FALSE7 (m : Mg) (nl nv : Nat) (h : m.r ≠ (0,0,⟨#[]⟩)) : Hid (blB m nl nv 7 = false):=by
 show _ = _
 simp [blB,h]
theorem isBlank_5 (m : Mg) (a1 a2 : Option Addr) (nl cl nv cv : Nat) (w : World) : Calls Tryz.prog 83 #[m.val (.slice a1 nl cl) (.slice a2 nv cv),.int .i64 5] w fun e w' => e = .returned (.bool (blB m nl nv 5))∧Below w.heap.size w w':=by
 by_cases g14 : m.d.1 = 0
 ·by_cases g15 : m.d.2 = 0
  ·have V : Hid (blB m nl nv 5 = true):=TRUE5 m nl nv g14 g15
   go_enter Tryz.func83,Tryz.ntmps83
   go_upto_region 1 with (refine boxMk rfl (.tmp 0) rfl m _ _ rfl ?_;intro q1 w1 hq1 M1 b1 z1;subst hq1)
   have HB:=hide b1;have x14:=M1.cell 14 _ rfl;rw [g14] at x14;have x15:=M1.cell 15 _ rfl;rw [g15] at x15;clear M1 b1 z1
   go_wp2
   go_ret
   exact ⟨by rw [V.out];rfl,HB.out⟩
  ·have V : Hid (blB m nl nv 5 = false):=FALSE5 m nl nv (by intro h;exact g15 (by rw [h] <;> rfl))
   have hq : (m.d.2 == 0) = false:=by simp [g15]
   go_enter Tryz.func83,Tryz.ntmps83
   go_upto_region 1 with (refine boxMk rfl (.tmp 0) rfl m _ _ rfl ?_;intro q1 w1 hq1 M1 b1 z1;subst hq1)
   have HB:=hide b1;have x14:=M1.cell 14 _ rfl;rw [g14] at x14;have x15:=M1.cell 15 _ rfl;clear M1 b1 z1
   go_wp2
   go_ret
   exact ⟨by rw [V.out];rfl,HB.out⟩
 ·have V : Hid (blB m nl nv 5 = false):=FALSE5 m nl nv (by intro h;exact g14 (by rw [h] <;> rfl))
  have hq : (m.d.1 == 0) = false:=by simp [g14]
  go_enter Tryz.func83,Tryz.ntmps83
  go_upto_region 1 with (refine boxMk rfl (.tmp 0) rfl m _ _ rfl ?_;intro q1 w1 hq1 M1 b1 z1;subst hq1)
  have HB:=hide b1;have x14:=M1.cell 14 _ rfl;have x15:=M1.cell 15 _ rfl;clear M1 b1 z1
  go_wp2
  go_ret
  exact ⟨by rw [V.out];rfl,HB.out⟩
theorem isBlank_6 (m : Mg) (a1 a2 : Option Addr) (nl cl nv cv : Nat) (w : World) : Calls Tryz.prog 83 #[m.val (.slice a1 nl cl) (.slice a2 nv cv),.int .i64 6] w fun e w' => e = .returned (.bool (blB m nl nv 6))∧Below w.heap.size w w':=by
 by_cases g3 : m.e.c = 0
 ·by_cases g4 : m.e.n = 0
  ·by_cases g5 : m.e.o.k = 0
   ·by_cases g6 : m.e.o.s = 0
    ·by_cases g7 : m.e.o.v = ⟨#[]⟩
     ·have V : Hid (blB m nl nv 6 = true):=TRUE6 m nl nv g3 g4 g5 g6 g7
      go_enter Tryz.func83,Tryz.ntmps83
      go_upto_region 1 with (refine boxMk rfl (.tmp 0) rfl m _ _ rfl ?_;intro q1 w1 hq1 M1 b1 z1;subst hq1)
      have HB:=hide b1;have x3:=M1.cell 3 _ rfl;rw [g3] at x3;have x4:=M1.cell 4 _ rfl;rw [g4] at x4;have x5:=M1.cell 5 _ rfl;rw [g5] at x5;have x6:=M1.cell 6 _ rfl;rw [g6] at x6;have x7:=M1.cell 7 _ rfl;rw [g7] at x7;clear M1 b1 z1
      go_wp2
      go_ret
      exact ⟨by rw [V.out];rfl,HB.out⟩
     ·have V : Hid (blB m nl nv 6 = false):=FALSE6 m nl nv (by intro h;exact g7 (by rw [h] <;> rfl))
      have s7 : ¬ (m.e.o.v).toList = (⟨#[]⟩ : ByteArray).toList:=fun e => g7 ((bytes_inj _ _).1 e)
      have t7 : (m.e.o.v).toList.isEmpty = false:=by
       rw [Bool.eq_false_iff];intro h
       exact s7 (by rw [List.isEmpty_iff.1 h,ByteArray.toList_eq])
      go_enter Tryz.func83,Tryz.ntmps83
      go_upto_region 1 with (refine boxMk rfl (.tmp 0) rfl m _ _ rfl ?_;intro q1 w1 hq1 M1 b1 z1;subst hq1)
      have HB:=hide b1;have x3:=M1.cell 3 _ rfl;rw [g3] at x3;have x4:=M1.cell 4 _ rfl;rw [g4] at x4;have x5:=M1.cell 5 _ rfl;rw [g5] at x5;have x6:=M1.cell 6 _ rfl;rw [g6] at x6;have x7:=M1.cell 7 _ rfl;clear M1 b1 z1
      go_wp2
      go_ret
      exact ⟨by rw [V.out];rfl,HB.out⟩
    ·have V : Hid (blB m nl nv 6 = false):=FALSE6 m nl nv (by intro h;exact g6 (by rw [h] <;> rfl))
     have hq : (m.e.o.s == 0) = false:=by simp [g6]
     go_enter Tryz.func83,Tryz.ntmps83
     go_upto_region 1 with (refine boxMk rfl (.tmp 0) rfl m _ _ rfl ?_;intro q1 w1 hq1 M1 b1 z1;subst hq1)
     have HB:=hide b1;have x3:=M1.cell 3 _ rfl;rw [g3] at x3;have x4:=M1.cell 4 _ rfl;rw [g4] at x4;have x5:=M1.cell 5 _ rfl;rw [g5] at x5;have x6:=M1.cell 6 _ rfl;have x7:=M1.cell 7 _ rfl;clear M1 b1 z1
     go_wp2
     go_ret
     exact ⟨by rw [V.out];rfl,HB.out⟩
   ·have V : Hid (blB m nl nv 6 = false):=FALSE6 m nl nv (by intro h;exact g5 (by rw [h] <;> rfl))
    have hq : (m.e.o.k == 0) = false:=by simp [g5]
    go_enter Tryz.func83,Tryz.ntmps83
    go_upto_region 1 with (refine boxMk rfl (.tmp 0) rfl m _ _ rfl ?_;intro q1 w1 hq1 M1 b1 z1;subst hq1)
    have HB:=hide b1;have x3:=M1.cell 3 _ rfl;rw [g3] at x3;have x4:=M1.cell 4 _ rfl;rw [g4] at x4;have x5:=M1.cell 5 _ rfl;have x6:=M1.cell 6 _ rfl;have x7:=M1.cell 7 _ rfl;clear M1 b1 z1
    go_wp2
    go_ret
    exact ⟨by rw [V.out];rfl,HB.out⟩
  ·have V : Hid (blB m nl nv 6 = false):=FALSE6 m nl nv (by intro h;exact g4 (by rw [h] <;> rfl))
   have hq : (m.e.n == 0) = false:=by simp [g4]
   go_enter Tryz.func83,Tryz.ntmps83
   go_upto_region 1 with (refine boxMk rfl (.tmp 0) rfl m _ _ rfl ?_;intro q1 w1 hq1 M1 b1 z1;subst hq1)
   have HB:=hide b1;have x3:=M1.cell 3 _ rfl;rw [g3] at x3;have x4:=M1.cell 4 _ rfl;have x5:=M1.cell 5 _ rfl;have x6:=M1.cell 6 _ rfl;have x7:=M1.cell 7 _ rfl;clear M1 b1 z1
   go_wp2
   go_ret
   exact ⟨by rw [V.out];rfl,HB.out⟩
 ·have V : Hid (blB m nl nv 6 = false):=FALSE6 m nl nv (by intro h;exact g3 (by rw [h] <;> rfl))
  have hq : (m.e.c == 0) = false:=by simp [g3]
  go_enter Tryz.func83,Tryz.ntmps83
  go_upto_region 1 with (refine boxMk rfl (.tmp 0) rfl m _ _ rfl ?_;intro q1 w1 hq1 M1 b1 z1;subst hq1)
  have HB:=hide b1;have x3:=M1.cell 3 _ rfl;have x4:=M1.cell 4 _ rfl;have x5:=M1.cell 5 _ rfl;have x6:=M1.cell 6 _ rfl;have x7:=M1.cell 7 _ rfl;clear M1 b1 z1
  go_wp2
  go_ret
  exact ⟨by rw [V.out];rfl,HB.out⟩
theorem isBlank_7 (m : Mg) (a1 a2 : Option Addr) (nl cl nv cv : Nat) (w : World) : Calls Tryz.prog 83 #[m.val (.slice a1 nl cl) (.slice a2 nv cv),.int .i64 7] w fun e w' => e = .returned (.bool (blB m nl nv 7))∧Below w.heap.size w w':=by
 by_cases g8 : m.r.1 = 0
 ·by_cases g9 : m.r.2.1 = 0
  ·by_cases g10 : m.r.2.2 = ⟨#[]⟩
   ·have V : Hid (blB m nl nv 7 = true):=TRUE7 m nl nv g8 g9 g10
    go_enter Tryz.func83,Tryz.ntmps83
    go_upto_region 1 with (refine boxMk rfl (.tmp 0) rfl m _ _ rfl ?_;intro q1 w1 hq1 M1 b1 z1;subst hq1)
    have HB:=hide b1;have x8:=M1.cell 8 _ rfl;rw [g8] at x8;have x9:=M1.cell 9 _ rfl;rw [g9] at x9;have x10:=M1.cell 10 _ rfl;rw [g10] at x10;clear M1 b1 z1
    go_wp2
    go_ret
    exact ⟨by rw [V.out];rfl,HB.out⟩
   ·have V : Hid (blB m nl nv 7 = false):=FALSE7 m nl nv (by intro h;exact g10 (by rw [h] <;> rfl))
    have s10 : ¬ (m.r.2.2).toList = (⟨#[]⟩ : ByteArray).toList:=fun e => g10 ((bytes_inj _ _).1 e)
    have t10 : (m.r.2.2).toList.isEmpty = false:=by
     rw [Bool.eq_false_iff];intro h
     exact s10 (by rw [List.isEmpty_iff.1 h,ByteArray.toList_eq])
    go_enter Tryz.func83,Tryz.ntmps83
    go_upto_region 1 with (refine boxMk rfl (.tmp 0) rfl m _ _ rfl ?_;intro q1 w1 hq1 M1 b1 z1;subst hq1)
    have HB:=hide b1;have x8:=M1.cell 8 _ rfl;rw [g8] at x8;have x9:=M1.cell 9 _ rfl;rw [g9] at x9;have x10:=M1.cell 10 _ rfl;clear M1 b1 z1
    go_wp2
    go_ret
    exact ⟨by rw [V.out];rfl,HB.out⟩
  ·have V : Hid (blB m nl nv 7 = false):=FALSE7 m nl nv (by intro h;exact g9 (by rw [h] <;> rfl))
   have hq : (m.r.2.1 == 0) = false:=by simp [g9]
   go_enter Tryz.func83,Tryz.ntmps83
   go_upto_region 1 with (refine boxMk rfl (.tmp 0) rfl m _ _ rfl ?_;intro q1 w1 hq1 M1 b1 z1;subst hq1)
   have HB:=hide b1;have x8:=M1.cell 8 _ rfl;rw [g8] at x8;have x9:=M1.cell 9 _ rfl;have x10:=M1.cell 10 _ rfl;clear M1 b1 z1
   go_wp2
   go_ret
   exact ⟨by rw [V.out];rfl,HB.out⟩
 ·have V : Hid (blB m nl nv 7 = false):=FALSE7 m nl nv (by intro h;exact g8 (by rw [h] <;> rfl))
  have hq : (m.r.1 == 0) = false:=by simp [g8]
  go_enter Tryz.func83,Tryz.ntmps83
  go_upto_region 1 with (refine boxMk rfl (.tmp 0) rfl m _ _ rfl ?_;intro q1 w1 hq1 M1 b1 z1;subst hq1)
  have HB:=hide b1;have x8:=M1.cell 8 _ rfl;have x9:=M1.cell 9 _ rfl;have x10:=M1.cell 10 _ rfl;clear M1 b1 z1
  go_wp2
  go_ret
  exact ⟨by rw [V.out];rfl,HB.out⟩
theorem isBlank_all (m : Mg) (a1 a2 : Option Addr) (nl cl nv cv : Nat) (j : Nat) (hj : j < 10) (w : World) : Calls Tryz.prog 83 #[m.val (.slice a1 nl cl) (.slice a2 nv cv),.int .i64 (j : Int)] w fun e w' => e = .returned (.bool (blB m nl nv j))∧Below w.heap.size w w':=by
 match j,hj with
 | 0,_ => exact isBlank_ks m a1 a2 nl cl nv cv w _ _ _ (.inl ⟨rfl,rfl,rfl⟩)
 | 1,_ => exact isBlank_ks m a1 a2 nl cl nv cv w _ _ _ (.inr <| .inl ⟨rfl,rfl,rfl⟩)
 | 2,_ => exact isBlank_ks m a1 a2 nl cl nv cv w _ _ _ (.inr <| .inr <| .inl ⟨rfl,rfl,rfl⟩)
 | 3,_ => exact isBlank_ks m a1 a2 nl cl nv cv w _ _ _ (.inr <| .inr <| .inr <| .inl ⟨rfl,rfl,rfl⟩)
 | 4,_ => exact isBlank_ks m a1 a2 nl cl nv cv w _ _ _ (.inr <| .inr <| .inr <| .inr <| ⟨rfl,rfl,rfl⟩)
 | 5,_ => exact isBlank_5 m a1 a2 nl cl nv cv w
 | 6,_ => exact isBlank_6 m a1 a2 nl cl nv cv w
 | 7,_ => exact isBlank_7 m a1 a2 nl cl nv cv w
 | 8,_ => exact isBlank_8 m a1 a2 nl cl nv cv w
 | 9,_ => exact isBlank_9 m a1 a2 nl cl nv cv w
theorem keeps_0 (f r p : Int) (u : Bool) (m : Mg) (a1 a2 : Option Addr) (nl cl nv cv : Nat) (j : Nat) (w : World) (hf1 : 1 ≤ f) (hf2 : f ≤ 3) (hj : j < 10) : Calls Tryz.prog 54 #[.agg #[.int .i64 f,.int .i64 r,.int .i64 p,.bool u],m.val (.slice a1 nl cl) (.slice a2 nv cv),.int .i64 (j : Int),.int .u8 0] w fun e w' => e = .returned (.bool (blB m nl nv j))∧Below w.heap.size w w':=by
 go_enter Tryz.func54,Tryz.ntmps54
 go_upto_region 1 with (refine boxMk rfl (.tmp 1) rfl m _ _ rfl ?_;intro q1 w1 hq1 M1 b1 z1)
 have hB : Below w.heap.size w w1:=(BR.alloc LR _).trans (b1.mono (by simp));have HB:=hide hB;have c0 : w1.cell? ⟨w.heap.size,0,none⟩ = some (.int .i64 f):=(b1.cell (p:=⟨w.heap.size,0,none⟩) (by simp)).trans (by simp);have c1 : w1.cell? ⟨w.heap.size,1,none⟩ = some (.int .i64 r):=(b1.cell (p:=⟨w.heap.size,1,none⟩) (by simp)).trans (by simp)
 have hq2 : q1 = w.heap.size + 1:=by first | exact hq1 | simpa using hq1
 subst hq2;have MH:=hide M1;clear M1 b1 z1 hB hq1
 go_wp2_with (refine loadM rfl (.tmp 5) rfl (w.heap.size + 1) m _ _ rfl MH.out ?_)
 refine (isBlank_all m a1 a2 nl cl nv cv j hj _).mono ?_;rintro e w2 ⟨rfl,b2⟩;have B2:=hide (HB.out.trans (b2.mono HB.out.size));clear b2
 go_wp2
 go_ret
 exact ⟨rfl,B2.out⟩
theorem keeps_ks (f r p : Int) (u : Bool) (m : Mg) (a1 a2 : Option Addr) (nl cl nv cv : Nat) (at_ : Int) (w : World) (hf1 : 1 ≤ f) (hf2 : f ≤ 3) (k : Int) (V : Bool) (h : (k = 1∧V = inR m.nd 0 (2 * f)) ∨ (k = 3∧V = inR m.vw 0 4294967296) ∨ (k = 4∧V = inR m.vw 1 4294967296) ∨ (k = 6∧V = inR m.p 0 r) ∨ (k = 7∧V = inR m.p 1 r) ∨ (k = 9∧V = inR m.cm 0 r) ∨ (k = 10∧V = inR m.cm 0 (nl : Int))) : Calls Tryz.prog 54 #[.agg #[.int .i64 f,.int .i64 r,.int .i64 p,.bool u],m.val (.slice a1 nl cl) (.slice a2 nv cv),.int .i64 at_,.int .u8 k] w fun e w' => e = .returned (.bool V)∧Below w.heap.size w w':=by
 rcases h with ⟨rfl,rfl⟩ | ⟨rfl,rfl⟩ | ⟨rfl,rfl⟩ | ⟨rfl,rfl⟩ | ⟨rfl,rfl⟩ | ⟨rfl,rfl⟩ | ⟨rfl,rfl⟩ <;> (
 go_enter Tryz.func54,Tryz.ntmps54
 go_upto_region 1 with (refine boxMk rfl (.tmp 1) rfl m _ _ rfl ?_;intro q1 w1 hq1 M1 b1 z1)
 have hB : Below w.heap.size w w1:=(BR.alloc LR _).trans (b1.mono (by simp));have HB:=hide hB;have c0 : w1.cell? ⟨w.heap.size,0,none⟩ = some (.int .i64 f):=(b1.cell (p:=⟨w.heap.size,0,none⟩) (by simp)).trans (by simp);have c1 : w1.cell? ⟨w.heap.size,1,none⟩ = some (.int .i64 r):=(b1.cell (p:=⟨w.heap.size,1,none⟩) (by simp)).trans (by simp)
 have hq2 : q1 = w.heap.size + 1:=by first | exact hq1 | simpa using hq1
 subst hq2;have x1:=M1.cell 1 _ rfl;have x2:=M1.cell 2 _ rfl;have x11:=M1.cell 11 _ rfl;have x12:=M1.cell 12 _ rfl;have x16:=M1.cell 16 _ rfl;clear M1 b1 z1 hB hq1
 go_wp2_with fail
 refine (withinM_any _ _ _ _).mono ?_;rintro e w2 ⟨rfl,rfl⟩
 go_wp2
 go_ret
 exact ⟨rfl,HB.out⟩)
theorem keeps_8 (f r p : Int) (u : Bool) (m : Mg) (a1 a2 : Option Addr) (nl cl nv cv : Nat) (at_ : Int) (w : World) (hf1 : 1 ≤ f) (hf2 : f ≤ 3) : Calls Tryz.prog 54 #[.agg #[.int .i64 f,.int .i64 r,.int .i64 p,.bool u],m.val (.slice a1 nl cl) (.slice a2 nv cv),.int .i64 at_,.int .u8 8] w fun e w' => e = .returned (.bool (apB m.p m.r.1 r))∧Below w.heap.size w w':=by
 go_enter Tryz.func54,Tryz.ntmps54
 go_upto_region 1 with (refine boxMk rfl (.tmp 1) rfl m _ _ rfl ?_;intro q1 w1 hq1 M1 b1 z1)
 have hB : Below w.heap.size w w1:=(BR.alloc LR _).trans (b1.mono (by simp));have HB:=hide hB;have c0 : w1.cell? ⟨w.heap.size,0,none⟩ = some (.int .i64 f):=(b1.cell (p:=⟨w.heap.size,0,none⟩) (by simp)).trans (by simp);have c1 : w1.cell? ⟨w.heap.size,1,none⟩ = some (.int .i64 r):=(b1.cell (p:=⟨w.heap.size,1,none⟩) (by simp)).trans (by simp)
 have hq2 : q1 = w.heap.size + 1:=by first | exact hq1 | simpa using hq1
 subst hq2;have x11:=M1.cell 11 _ rfl;have x8:=M1.cell 8 _ rfl;clear M1 b1 z1 hB hq1
 go_wp2_with fail
 refine (answerPlace_any _ _ _ _).mono ?_;rintro e w2 ⟨rfl,rfl⟩
 go_wp2
 go_ret
 exact ⟨rfl,HB.out⟩
theorem keeps_16 (f r p : Int) (u : Bool) (m : Mg) (a1 a2 : Option Addr) (nl cl nv cv : Nat) (at_ : Int) (w : World) (hf1 : 1 ≤ f) (hf2 : f ≤ 3) : Calls Tryz.prog 54 #[.agg #[.int .i64 f,.int .i64 r,.int .i64 p,.bool u],m.val (.slice a1 nl cl) (.slice a2 nv cv),.int .i64 at_,.int .u8 16] w fun e w' => e = .returned (.bool (resB m.r.1 m.r.2.1 m.r.2.2))∧Below w.heap.size w w':=by
 go_enter Tryz.func54,Tryz.ntmps54
 go_upto_region 1 with (refine boxMk rfl (.tmp 1) rfl m _ _ rfl ?_;intro q1 w1 hq1 M1 b1 z1)
 have hB : Below w.heap.size w w1:=(BR.alloc LR _).trans (b1.mono (by simp));have HB:=hide hB;have c0 : w1.cell? ⟨w.heap.size,0,none⟩ = some (.int .i64 f):=(b1.cell (p:=⟨w.heap.size,0,none⟩) (by simp)).trans (by simp);have c1 : w1.cell? ⟨w.heap.size,1,none⟩ = some (.int .i64 r):=(b1.cell (p:=⟨w.heap.size,1,none⟩) (by simp)).trans (by simp)
 have hq2 : q1 = w.heap.size + 1:=by first | exact hq1 | simpa using hq1
 subst hq2;have x8:=M1.cell 8 _ rfl;have x9:=M1.cell 9 _ rfl;have x10:=M1.cell 10 _ rfl;clear M1 b1 z1 hB hq1
 go_wp2_with fail
 refine (resultMayBe_any _ _ _ _).mono ?_;rintro e w2 ⟨rfl,b2⟩;have B2:=hide (HB.out.trans (b2.mono HB.out.size));clear b2
 go_wp2
 go_ret
 exact ⟨rfl,B2.out⟩
theorem keeps_5 (f r p : Int) (u : Bool) (m : Mg) (a1 a2 : Option Addr) (nl cl nv cv : Nat) (at_ : Int) (w : World) (hf1 : 1 ≤ f) (hf2 : f ≤ 3) : Calls Tryz.prog 54 #[.agg #[.int .i64 f,.int .i64 r,.int .i64 p,.bool u],m.val (.slice a1 nl cl) (.slice a2 nv cv),.int .i64 at_,.int .u8 5] w fun e w' => e = .returned (.bool (decide (0 ≤ m.ls) && decide (m.ls < m.vw)))∧Below w.heap.size w w':=by
 by_cases h1 : 0 ≤ m.ls
 ·by_cases h2 : m.ls < m.vw
  ·have V : Hid ((decide (0 ≤ m.ls) && decide (m.ls < m.vw)) = true):=by simp [Hid,h1,h2]
   go_enter Tryz.func54,Tryz.ntmps54
   go_upto_region 1 with (refine boxMk rfl (.tmp 1) rfl m _ _ rfl ?_;intro q1 w1 hq1 M1 b1 z1)
   have hB : Below w.heap.size w w1:=(BR.alloc LR _).trans (b1.mono (by simp));have HB:=hide hB;have c0 : w1.cell? ⟨w.heap.size,0,none⟩ = some (.int .i64 f):=(b1.cell (p:=⟨w.heap.size,0,none⟩) (by simp)).trans (by simp);have c1 : w1.cell? ⟨w.heap.size,1,none⟩ = some (.int .i64 r):=(b1.cell (p:=⟨w.heap.size,1,none⟩) (by simp)).trans (by simp)
   have hq2 : q1 = w.heap.size + 1:=by first | exact hq1 | simpa using hq1
   subst hq2;have x13:=M1.cell 13 _ rfl;have x2:=M1.cell 2 _ rfl;clear M1 b1 z1 hB hq1
   go_wp2
   go_ret
   exact ⟨by first | rfl | (rw [V.out];first | rfl | simp),HB.out⟩
  ·have V : Hid ((decide (0 ≤ m.ls) && decide (m.ls < m.vw)) = false):=by simp [Hid,h1,h2]
   have hq : decide (m.ls < m.vw) = false:=by simp [h2]
   go_enter Tryz.func54,Tryz.ntmps54
   go_upto_region 1 with (refine boxMk rfl (.tmp 1) rfl m _ _ rfl ?_;intro q1 w1 hq1 M1 b1 z1)
   have hB : Below w.heap.size w w1:=(BR.alloc LR _).trans (b1.mono (by simp));have HB:=hide hB;have c0 : w1.cell? ⟨w.heap.size,0,none⟩ = some (.int .i64 f):=(b1.cell (p:=⟨w.heap.size,0,none⟩) (by simp)).trans (by simp);have c1 : w1.cell? ⟨w.heap.size,1,none⟩ = some (.int .i64 r):=(b1.cell (p:=⟨w.heap.size,1,none⟩) (by simp)).trans (by simp)
   have hq2 : q1 = w.heap.size + 1:=by first | exact hq1 | simpa using hq1
   subst hq2;have x13:=M1.cell 13 _ rfl;have x2:=M1.cell 2 _ rfl;clear M1 b1 z1 hB hq1
   go_wp2
   go_ret
   exact ⟨by first | rfl | (rw [V.out];first | rfl | simp),HB.out⟩
 ·have V : Hid ((decide (0 ≤ m.ls) && decide (m.ls < m.vw)) = false):=by simp [Hid,h1]
  have hq : decide (0 ≤ m.ls) = false:=by simp [h1]
  go_enter Tryz.func54,Tryz.ntmps54
  go_upto_region 1 with (refine boxMk rfl (.tmp 1) rfl m _ _ rfl ?_;intro q1 w1 hq1 M1 b1 z1)
  have hB : Below w.heap.size w w1:=(BR.alloc LR _).trans (b1.mono (by simp));have HB:=hide hB;have c0 : w1.cell? ⟨w.heap.size,0,none⟩ = some (.int .i64 f):=(b1.cell (p:=⟨w.heap.size,0,none⟩) (by simp)).trans (by simp);have c1 : w1.cell? ⟨w.heap.size,1,none⟩ = some (.int .i64 r):=(b1.cell (p:=⟨w.heap.size,1,none⟩) (by simp)).trans (by simp)
  have hq2 : q1 = w.heap.size + 1:=by first | exact hq1 | simpa using hq1
  subst hq2;have x13:=M1.cell 13 _ rfl;have x2:=M1.cell 2 _ rfl;clear M1 b1 z1 hB hq1
  go_wp2
  go_ret
  exact ⟨by first | rfl | (rw [V.out];first | rfl | simp),HB.out⟩
end Go.Proofs.YtpcgnjpodnebpaaGreatDoor
