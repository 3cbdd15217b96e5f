import Derived.Test.YtpcgnjpodnebpaaGreatDoorG4
set_option maxRecDepth 100000
set_option linter.unusedVariables false
set_option linter.unusedSimpArgs false
set_option maxHeartbeats 8000000
namespace Go.Proofs.YtpcgnjpodnebpaaGreatDoor
open Go.RowKit Go.Maps
open Classical
theorem addD8 (x y : Operand) (a b z : Int) (h : IntKind.i64.wrap (a + b) = z) (w : World) : (do eqGuard .add 3 x y (.int .i64 a) (.int .i64 b);binOp .add 3 (.int .i64 a) (.int .i64 b) : Sem Value).run Tryz.prog w = .ok (.int .i64 z) w:=by
 subst h
 go_simp
theorem subD8 (x y : Operand) (a b z : Int) (h : IntKind.i64.wrap (a - b) = z) (w : World) : (do eqGuard .sub 3 x y (.int .i64 a) (.int .i64 b);binOp .sub 3 (.int .i64 a) (.int .i64 b) : Sem Value).run Tryz.prog w = .ok (.int .i64 z) w:=by
 subst h
 go_simp
theorem mulD8 (x y : Operand) (a b z : Int) (h : IntKind.i64.wrap (a * b) = z) (w : World) : (do eqGuard .mul 3 x y (.int .i64 a) (.int .i64 b);binOp .mul 3 (.int .i64 a) (.int .i64 b) : Sem Value).run Tryz.prog w = .ok (.int .i64 z) w:=by
 subst h
 go_simp
theorem remD8 (x y : Operand) (a b : Int) (ha : 0 ≤ a) (hb : 0 < b) (hb2 : b < 4611686018427387904) (w : World) : (do eqGuard .rem 3 x y (.int .i64 a) (.int .i64 b);binOp .rem 3 (.int .i64 a) (.int .i64 b) : Sem Value).run Tryz.prog w = .ok (.int .i64 (a % b)) w:=by
 have hb0 : b ≠ 0:=by omega
 have e : a.tmod b = a % b:=Int.tmod_eq_emod_of_nonneg ha;have h1:=Int.emod_nonneg a hb0;have h2:=Int.emod_lt_of_pos a hb
 have e2 : IntKind.i64.wrap (a % b) = a % b:=by rw [IntKind.wrap_i64];omega
 go_simp
 first | done | (rw [e,e2]) | (simp [e,e2]) | (rw [e])
theorem neqDr7 (x y : Operand) (r r' : Int × Int) (w : World) : (do eqGuard .neq 52 x y (.agg #[.int .u64 r.1,.int .u64 r.2]) (.agg #[.int .u64 r'.1,.int .u64 r'.2]);binOp .neq 52 (.agg #[.int .u64 r.1,.int .u64 r.2]) (.agg #[.int .u64 r'.1,.int .u64 r'.2]) : Sem Value).run Tryz.prog w = .ok (.bool (!decide (r = r'))) w:=by
 obtain ⟨a,b⟩:=r;obtain ⟨a',b'⟩:=r'
 go_simp
 by_cases e1 : a = a' <;> by_cases e2 : b = b' <;> simp [e1,e2]
theorem Cg.P_ok {c : Cg} (h : c.okB = true) : 6 ≤ c.P∧c.P ≤ 100:=by
 simp only [Cg.okB,Bool.and_eq_true,inB_iff] at h
 exact h.2
theorem ldDr8 {w : World} {q o : Nat} {d : Int × Int} (h0 : w.cell? ⟨q,o,none⟩ = some (.int .u64 d.1)) (h1 : w.cell? ⟨q,o + 1,none⟩ = some (.int .u64 d.2)) : (Instr.loadAt 52 (.pointer (some ⟨q,o,none⟩))).run Tryz.prog w = .ok (.agg #[.int .u64 d.1,.int .u64 d.2]) w:=by go_simp
theorem vec_at8 {w : World} {a : Option Addr} {n c : Nat} {V : List (Int × Int)} {k : Int} (h : SlY yD w a n c V) (hk : 0 ≤ k∧k < (n : Int)) : ∃ q o,a = some ⟨q,o,none⟩∧(∀ v,(Instr.indexAt 27 (.slice a n c) (.int .i64 k)).run Tryz.prog v = .ok (.pointer (some ⟨q,o + k.toNat * 2,none⟩)) v)∧∀ v,Below w.heap.size w v → (Instr.loadAt 52 (.pointer (some ⟨q,o + k.toNat * 2,none⟩))).run Tryz.prog v = .ok (.agg #[.int .u64 (V.getD k.toNat (0,0)).1,.int .u64 (V.getD k.toNat (0,0)).2]) v:=by
 obtain ⟨j,rfl⟩:=Int.eq_ofNat_of_zero_le hk.1;have hl:=h.len
 have hj : j < V.length:=by omega
 obtain ⟨q,o,rfl,hq,hlie⟩:=h.place (by rintro rfl;simp at hj);have hg:=List.getElem?_eq_getElem hj
 have e : V.getD (j : Int).toNat (0,0) = V[j]:=by simp [List.getD,hg]
 rw [e];refine ⟨q,o,rfl,fun v => ?_,fun v hv => ?_⟩
 ·have h1 : (j : Int) < (n : Int):=hk.2
  simp only [Int.toNat_natCast]
  go_simp
 ·have l0:=hlie _ _ hg 0 _ rfl
  have l1:=hlie _ _ hg 1 _ rfl
  exact ldDr8 (cell8 l0 hv) (cell8 l1 hv)
def Sta.votB (s : Sta) (c : Cg) : Bool:=((decide (Ak.ck c s.self s.A = 0) && decide (Mk.ck c s.self s.M = 0)) && decide (Bl.ck c s.self s.B = 0)) && decide (An.ck c s.self s.N = 0)
def Sta.numB (s : Sta) (c : Cg) : Bool:=(((((decide ((chk s.L c.R).1 = 0) && decide ((if (s.V.length : Int) = c.nd then (0 : Int) else 30) = 0)) && inB s.self 0 (c.nd - 1)) && inB s.view 0 4294967296) && inB s.last 0 s.view) && inB s.commit 0 (s.L.length : Int)) && inB s.idle 0 (c.P - 1)
def Sta.recB (s : Sta) : Bool:=((decide (s.view = 0) && decide (s.idle = 0)) && decide ((((s.L.length : Int) + (s.A.length : Int)) + (s.M.length : Int)) + (s.B.length : Int) = 0)) && (!decide (s.V.getD s.self.toNat (0,0) = (0,0)))
theorem vcheck_any (f : Int) (a : Option Addr) (n c : Nat) (w : World) (hf1 : 1 ≤ f) (hf2 : f ≤ 3) : Calls Tryz.prog 72 #[.slice a n c,.int .i64 (2 * f + 1)] w fun e w' => e = .returned (.int .i64 (if (n : Int) = 2 * f + 1 then 0 else 30))∧Below w.heap.size w w':=by
 have h3 : f = 1 ∨ f = 2 ∨ f = 3:=by omega
 by_cases h : (n : Int) = 2 * f + 1
 ·rw [if_pos h]
  rcases h3 with rfl | rfl | rfl
  ·have hq : ((n : Int) != 3) = false:=by simp;omega
   clear h
   go_enter Tryz.func72,Tryz.ntmps72
   go_wp2_with (go_at_call 89;go_in)
   go_ret
   exact ⟨rfl,BR⟩
  ·have hq : ((n : Int) != 5) = false:=by simp;omega
   clear h
   go_enter Tryz.func72,Tryz.ntmps72
   go_wp2_with (go_at_call 89;go_in)
   go_ret
   exact ⟨rfl,BR⟩
  ·have hq : ((n : Int) != 7) = false:=by simp;omega
   clear h
   go_enter Tryz.func72,Tryz.ntmps72
   go_wp2_with (go_at_call 89;go_in)
   go_ret
   exact ⟨rfl,BR⟩
 ·rw [if_neg h]
  rcases h3 with rfl | rfl | rfl
  ·have hq : ((n : Int) != 3) = true:=by simp;omega
   clear h
   go_enter Tryz.func72,Tryz.ntmps72
   go_wp2_with (go_at_call 89;go_in)
   go_ret
   exact ⟨rfl,BR⟩
  ·have hq : ((n : Int) != 5) = true:=by simp;omega
   clear h
   go_enter Tryz.func72,Tryz.ntmps72
   go_wp2_with (go_at_call 89;go_in)
   go_ret
   exact ⟨rfl,BR⟩
  ·have hq : ((n : Int) != 7) = true:=by simp;omega
   clear h
   go_enter Tryz.func72,Tryz.ntmps72
   go_wp2_with (go_at_call 89;go_in)
   go_ret
   exact ⟨rfl,BR⟩
theorem vcheck8 (c : Cg) (a : Option Addr) (n k : Nat) (w : World) (hok : c.okB = true) : Calls Tryz.prog 72 #[.slice a n k,.int .i64 c.nd] w fun e w' => e = .returned (.int .i64 (if (n : Int) = c.nd then 0 else 30))∧Below w.heap.size w w':=by
 obtain ⟨h1,h2,h3⟩:=Cg.nd_ok hok;rw [h1]
 exact vcheck_any c.F a n k w h2 h3
theorem within8 (x a b : Int) (w : World)  : Calls Tryz.prog 44 #[.int .i64 x,.int .i64 a,.int .i64 b] w fun e w' => e = .returned (.bool (inB x a b))∧Below w.heap.size w w':=by
 go_enter Tryz.func44,Tryz.ntmps44
 go_upto_region 0 with fail
 refine WL ?_;refine vl_gen (fun T => T.size = 15∧T[0]? = some (gw true (.int .i64 x))∧T[1]? = some (gw true (.int .i64 a))∧T[2]? = some (gw true (.int .i64 b))) ⟨rfl,rfl,rfl,rfl⟩ (fun Z0 ⟨hz,s0,s1,s2⟩ => ?_);have hB : Below w.heap.size w w:=BR;have hv0 : Below w.heap.size w w:=BR;have Ya:=(((Rp.nil hz).cons s0).cons s1).cons s2;clear hz s0 s1 s2
 refine Ya.t (.bool false) (ex_assign rfl rfl) fun _ Yb => ?_;clear Ya
 have hz:=Yb.z;have s0:=Yb.a 0 rfl;have s1:=Yb.a 1 rfl;have s2:=Yb.a 2 rfl;clear Yb;refine WE ?_
 go_upto_region 1 with fail
 refine WL ?_;have Yc:=(((Rp.nil hz).cons s0).cons s1).cons s2;clear hz s0 s1 s2
 refine Yc.t _ (ex_move rfl (Yc.f 0)) fun _ Yd => ?_;clear Yc
 refine Yd.t _ (ex_move rfl (Yd.f 1)) fun _ Ye => ?_;clear Yd
 refine Ye.t (.bool (decide (a ≤ x))) (ex_bin rfl (Ye.f 7) (Ye.f 8) (geqC _ _ _ _ _)) fun _ Yf => ?_;clear Ye
 refine Yf.t _ (ex_move rfl (Yf.f 9)) fun _ Yg => ?_;clear Yf
 refine Yg.g 10 rfl rfl _ (fun hc => ex_move rfl (Yg.f 0)) fun Yh Yi => ?_;clear Yg
 refine Yi.g 10 rfl rfl _ (fun hc => ex_move rfl (Yi.f 2)) fun Yj Yk => ?_;clear Yi
 refine Yk.g 10 rfl rfl (.bool (decide (x ≤ b))) (fun hc => ex_bin rfl (Yk.v 11 hc) (Yk.v 12 hc) (leqC8 _ _ _ _ _)) fun Yl Ym => ?_;clear Yk
 refine Ym.t (.bool ((decide (a ≤ x)) && (decide (x ≤ b)))) (ex_and rfl (Ym.a 10 rfl) (Ym.a 13 rfl) rfl) fun _ Yn => ?_;clear Ym
 refine Yn.t _ (ex_assign rfl (Yn.f 14)) fun _ Yo => ?_;clear Yn
 have hz:=Yo.z;have s6:=Yo.a 6 rfl;clear Yo;refine WE ?_
 go_wp2
 refine bodyPost_ret (results_tmp rfl _ _ _) rfl ⟨?_,hB.trans (hv0.mono (by omega))⟩;rw [getD_of s6]
 rfl
theorem checkconfig8 (c : Cg) (w : World)  : Calls Tryz.prog 19 #[c.val] w fun e w' => e = .returned (.int .i64 c.er)∧Below w.heap.size w w':=by
 go_enter Tryz.func19,Tryz.ntmps19
 go_upto_region 0 with fail
 refine WL ?_;refine vl_gen (fun T => T.size = 16∧T[0]? = some (gw true (c.val))) ⟨rfl,rfl⟩ (fun Z0 ⟨hz,s0⟩ => ?_)
 obtain ⟨w1,hw1⟩ : ∃ y,y = w.alloc (.cells c.cs.toArray 23):=⟨_,rfl⟩
 have hb : Below w.heap.size w w1:=by rw [hw1];exact BR.alloc LR _
 have hs1 : w1.heap.size = w.heap.size + 1:=by rw [hw1];simp
 have HC : CB7 w1 (w.heap.size) c:=by rw [hw1];exact BX7.new _ _ _
 refine vw (.pointer (some ⟨w.heap.size,0,none⟩)) w1 WN (ex_box8 rfl (ev s0 rfl) (by rw [hw1];exact bxC7 _ _)) rfl hz (by decide) (fun Z1 zz kk s1x => ?_);clear kk hz s0 hw1;have hz:=zz;have s1:=s1x;clear zz s1x;have hB:=hb;clear hb;have hv0 : Below w1.heap.size w1 w1:=BR;have Ya:=(Rp.nil hz).cons s1;clear hz s1
 refine Ya.t (.int .i64 0) (ex_assign rfl rfl) fun _ Yb => ?_;clear Ya
 have hz:=Yb.z;have s1:=Yb.a 1 rfl;clear Yb;refine WE ?_
 go_upto_region 1 with fail
 refine WL ?_;have Yc:=(Rp.nil hz).cons s1;clear hz s1
 refine Yc.t _ (ex_fa rfl (Yc.f 1) (faC0 _ _)) fun _ Yd => ?_;clear Yc
 refine Yd.t _ (ex_ld rfl (Yd.f 3) (ldI8 (cell8 (HC.cell 0 _ rfl) hv0))) fun _ Ye => ?_;clear Yd
 refine vcall true (.bool (inB (c.F) (1) (3))) WN (fun hc => ex_call rfl (by simp only [LA,LB,LC,(Ye.f 4),evc] <;> rfl) rfl) (fun hc => within8 (c.F) (1) (3) w1) rfl Ye.z (by decide) (Ye.kc fun Yf x1 hb Yg => ?_);clear Ye;have hx1:=hv0.trans (hb.mono hv0.size);clear hb
 refine Yg.t _ (ex_move rfl (Yg.f 5)) fun _ Yh => ?_;clear Yg
 refine Yh.g 6 rfl rfl _ (fun hc => ex_fa rfl (Yh.f 1) (faC1 _ _)) fun Yi Yj => ?_;clear Yh
 refine Yj.g 6 rfl rfl _ (fun hc => ex_ld rfl (Yj.v 7 hc) (ldI8 (cell8 (HC.cell 1 _ rfl) hx1))) fun Yk Yl => ?_;clear Yj
 refine vcall (true && ((inB (c.F) (1) (3)) == true)) (.bool (inB (c.R) (1) (256))) (want_g rfl rfl (Yl.a 6 rfl)) (fun hc => ex_call rfl (by simp only [LA,LB,LC,(Yl.v 8 hc),evc] <;> rfl) rfl) (fun hc => within8 (c.R) (1) (256) x1) rfl Yl.z (by decide) (Yl.kc fun Ym x2 hb Yn => ?_);clear Yl;have hx2:=hx1.trans (hb.mono hx1.size);clear hb
 refine Yn.t (.bool ((inB (c.F) (1) (3)) && (inB (c.R) (1) (256)))) (ex_and rfl (Yn.a 6 rfl) (Yn.a 9 rfl) rfl) fun _ Yo => ?_;clear Yn
 refine Yo.t _ (ex_move rfl (Yo.f 10)) fun _ Yp => ?_;clear Yo
 refine Yp.g 11 rfl rfl _ (fun hc => ex_fa rfl (Yp.f 1) (faC2 _ _)) fun Yq Yr => ?_;clear Yp
 refine Yr.g 11 rfl rfl _ (fun hc => ex_ld rfl (Yr.v 12 hc) (ldI8 (cell8 (HC.cell 2 _ rfl) hx2))) fun Ys Yt => ?_;clear Yr
 refine vcall (true && (((inB (c.F) (1) (3)) && (inB (c.R) (1) (256))) == true)) (.bool (inB (c.P) (6) (100))) (want_g rfl rfl (Yt.a 11 rfl)) (fun hc => ex_call rfl (by simp only [LA,LB,LC,(Yt.v 13 hc),evc] <;> rfl) rfl) (fun hc => within8 (c.P) (6) (100) x2) rfl Yt.z (by decide) (Yt.kc fun Yu x3 hb Yv => ?_);clear Yt;have hx3:=hx2.trans (hb.mono hx2.size);clear hb
 refine Yv.t (.bool (((inB (c.F) (1) (3)) && (inB (c.R) (1) (256))) && (inB (c.P) (6) (100)))) (ex_and rfl (Yv.a 11 rfl) (Yv.a 14 rfl) rfl) fun _ Yw => ?_;clear Yv
 have hz:=Yw.z;have s15:=Yw.a 15 rfl;clear Yw;refine WE ?_
 go_upto_region 2 with fail
 cases e15 : (((inB (c.F) (1) (3)) && (inB (c.R) (1) (256))) && (inB (c.P) (6) (100)))
 ·refine wp_cond_false ((ev s15 rfl).trans (congrArg Value.bool e15)) ?_
  go_upto_region 3 with fail
  refine WL ?_;have Yx:=(Rp.nil hz).cons s15;clear hz s15
  refine Yx.t (.int .i64 1) (ex_assign rfl rfl) fun _ Yy => ?_;clear Yx
  have hz:=Yy.z;have s2:=Yy.a 2 rfl;clear Yy;refine WE ?_
  go_wp2
  refine bodyPost_ret (results_tmp rfl _ _ _) rfl ⟨?_,hB.trans (hx3.mono (by omega))⟩;rw [getD_of s2];rw [show c.er = 1 from by unfold Cg.er Cg.okB;rw [e15];rfl]
  rfl
 ·refine wp_cond_true ((ev s15 rfl).trans (congrArg Value.bool e15)) ?_
  go_upto_region 2 with fail
  refine WL ?_;have Yz:=(Rp.nil hz).cons s15;clear hz s15
  refine Yz.t (.int .i64 0) (ex_assign rfl rfl) fun _ Y0 => ?_;clear Yz
  have hz:=Y0.z;have s2:=Y0.a 2 rfl;clear Y0;refine WE ?_
  go_wp2
  refine bodyPost_ret (results_tmp rfl _ _ _) rfl ⟨?_,hB.trans (hx3.mono (by omega))⟩;rw [getD_of s2];rw [show c.er = 0 from by unfold Cg.er Cg.okB;rw [e15];rfl]
  rfl
theorem nodes8 (c : Cg) (w : World)  : Calls Tryz.prog 69 #[c.val] w fun e w' => e = .returned (.int .i64 c.nd)∧Below w.heap.size w w':=by
 go_enter Tryz.func69,Tryz.ntmps69
 go_upto_region 0 with fail
 refine WL ?_;refine vl_gen (fun T => T.size = 10∧T[0]? = some (gw true (c.val))) ⟨rfl,rfl⟩ (fun Z0 ⟨hz,s0⟩ => ?_)
 obtain ⟨w1,hw1⟩ : ∃ y,y = w.alloc (.cells c.cs.toArray 23):=⟨_,rfl⟩
 have hb : Below w.heap.size w w1:=by rw [hw1];exact BR.alloc LR _
 have hs1 : w1.heap.size = w.heap.size + 1:=by rw [hw1];simp
 have HC : CB7 w1 (w.heap.size) c:=by rw [hw1];exact BX7.new _ _ _
 refine vw (.pointer (some ⟨w.heap.size,0,none⟩)) w1 WN (ex_box8 rfl (ev s0 rfl) (by rw [hw1];exact bxC7 _ _)) rfl hz (by decide) (fun Z1 zz kk s1x => ?_);clear kk hz s0 hw1;have hz:=zz;have s1:=s1x;clear zz s1x;have hB:=hb;clear hb;have hv0 : Below w1.heap.size w1 w1:=BR;have Ya:=(Rp.nil hz).cons s1;clear hz s1
 refine Ya.t (.int .i64 0) (ex_assign rfl rfl) fun _ Yb => ?_;clear Ya
 have hz:=Yb.z;have s1:=Yb.a 1 rfl;clear Yb;refine WE ?_
 go_upto_region 1 with fail
 refine WL ?_;have Yc:=(Rp.nil hz).cons s1;clear hz s1
 refine Yc.t _ (ex_ld rfl (Yc.f 1) (CB7.ld (HC.bel hv0))) fun _ Yd => ?_;clear Yc
 refine vcall true (.int .i64 c.er) WN (fun hc => ex_call rfl (by simp only [LA,LB,LC,(Yd.f 3),evc] <;> rfl) rfl) (fun hc => checkconfig8 c w1) rfl Yd.z (by decide) (Yd.kc fun Ye x1 hb Yf => ?_);clear Yd;have hx1:=hv0.trans (hb.mono hv0.size);clear hb
 refine Yf.t (.bool (!decide (c.er = 0))) (ex_bin rfl (Yf.f 4) rfl (neqN8 _ _ _ _ _)) fun _ Yg => ?_;clear Yf
 have hz:=Yg.z;have s1:=Yg.a 1 rfl;have s5:=Yg.a 5 rfl;clear Yg;refine WE ?_
 go_upto_region 2 with fail
 cases eo : c.okB
 ·refine wp_cond_true ((ev s5 rfl).trans (by unfold Cg.er;rw [eo];rfl)) ?_
  go_upto_region 2 with fail
  refine WL ?_;have Yh:=((Rp.nil hz).cons s1).cons s5;clear hz s1 s5
  refine Yh.t (.int .i64 0) (ex_assign rfl rfl) fun _ Yi => ?_;clear Yh
  have hz:=Yi.z;have s2:=Yi.a 2 rfl;clear Yi;refine WE ?_
  go_wp2
  refine bodyPost_ret (results_tmp rfl _ _ _) rfl ⟨?_,hB.trans (hx1.mono (by omega))⟩;rw [getD_of s2];rw [show c.nd = 0 from by unfold Cg.nd;rw [eo];rfl]
  rfl
 ·refine wp_cond_false ((ev s5 rfl).trans (by unfold Cg.er;rw [eo];rfl)) ?_
  obtain ⟨h1,h2,h3⟩:=Cg.nd_ok eo
  go_upto_region 3 with fail
  refine WL ?_;have Yj:=(Rp.nil hz).cons s1;clear hz s1
  refine Yj.t _ (ex_fa rfl (Yj.f 1) (faC0 _ _)) fun _ Yk => ?_;clear Yj
  refine Yk.t _ (ex_ld rfl (Yk.f 6) (ldI8 (cell8 (HC.cell 0 _ rfl) hx1))) fun _ Yl => ?_;clear Yk
  refine Yl.t (.int .i64 (2 * c.F)) (ex_bin rfl rfl (Yl.f 7) (mulD8 _ _ 2 c.F (2 * c.F) (by rw [IntKind.wrap_i64];omega) _)) fun _ Ym => ?_;clear Yl
  refine Ym.t (.int .i64 (2 * c.F + 1)) (ex_bin rfl (Ym.f 8) rfl (addD8 _ _ (2 * c.F) 1 (2 * c.F + 1) (by rw [IntKind.wrap_i64];omega) _)) fun _ Yn => ?_;clear Ym
  refine Yn.t _ (ex_assign rfl (Yn.f 9)) fun _ Yo => ?_;clear Yn
  have hz:=Yo.z;have s2:=Yo.a 2 rfl;clear Yo;refine WE ?_
  go_wp2
  refine bodyPost_ret (results_tmp rfl _ _ _) rfl ⟨?_,hB.trans (hx1.mono (by omega))⟩;rw [getD_of s2];rw [h1]
  rfl
theorem primary8 (c : Cg) (x : Int) (w : World)  : Calls Tryz.prog 146 #[c.val,.int .i64 x] w fun e w' => e = .returned (.int .i64 (c.pr x))∧Below w.heap.size w w':=by
 go_enter Tryz.func146,Tryz.ntmps146
 go_upto_region 0 with fail
 refine WL ?_;refine vl_gen (fun T => T.size = 17∧T[0]? = some (gw true (c.val))∧T[1]? = some (gw true (.int .i64 x))) ⟨rfl,rfl,rfl⟩ (fun Z0 ⟨hz,s0,s1⟩ => ?_)
 obtain ⟨w1,hw1⟩ : ∃ y,y = w.alloc (.cells c.cs.toArray 23):=⟨_,rfl⟩
 have hb : Below w.heap.size w w1:=by rw [hw1];exact BR.alloc LR _
 have hs1 : w1.heap.size = w.heap.size + 1:=by rw [hw1];simp
 have HC : CB7 w1 (w.heap.size) c:=by rw [hw1];exact BX7.new _ _ _
 refine vw (.pointer (some ⟨w.heap.size,0,none⟩)) w1 WN (ex_box8 rfl (ev s0 rfl) (by rw [hw1];exact bxC7 _ _)) rfl hz (by decide) (fun Z1 zz kk s2x => ?_);replace s1:=ku s1;clear kk hz s0 hw1;have hz:=zz;have s2:=s2x;clear zz s2x;have hB:=hb;clear hb;have hv0 : Below w1.heap.size w1 w1:=BR;have Ya:=((Rp.nil hz).cons s1).cons s2;clear hz s1 s2
 refine Ya.t (.int .i64 0) (ex_assign rfl rfl) fun _ Yb => ?_;clear Ya
 have hz:=Yb.z;have s1:=Yb.a 1 rfl;have s2:=Yb.a 2 rfl;clear Yb;refine WE ?_
 go_upto_region 1 with fail
 refine WL ?_;have Yc:=((Rp.nil hz).cons s1).cons s2;clear hz s1 s2
 refine Yc.t _ (ex_ld rfl (Yc.f 2) (CB7.ld (HC.bel hv0))) fun _ Yd => ?_;clear Yc
 refine vcall true (.int .i64 c.er) WN (fun hc => ex_call rfl (by simp only [LA,LB,LC,(Yd.f 5),evc] <;> rfl) rfl) (fun hc => checkconfig8 c w1) rfl Yd.z (by decide) (Yd.kc fun Ye x1 hb Yf => ?_);clear Yd;have hx1:=hv0.trans (hb.mono hv0.size);clear hb
 refine Yf.t (.bool (!decide (c.er = 0))) (ex_bin rfl (Yf.f 6) rfl (neqN8 _ _ _ _ _)) fun _ Yg => ?_;clear Yf
 refine Yg.t _ (ex_move rfl (Yg.f 7)) fun _ Yh => ?_;clear Yg
 refine Yh.g 8 rfl rfl _ (fun hc => ex_move rfl (Yh.f 1)) fun Yi Yj => ?_;clear Yh
 refine vcall (true && ((!decide (c.er = 0)) == false)) (.bool (inB (x) (0) (4294967296))) (want_g rfl rfl (Yj.a 8 rfl)) (fun hc => ex_call rfl (by simp only [LA,LB,LC,(Yj.v 9 hc),evc] <;> rfl) rfl) (fun hc => within8 (x) (0) (4294967296) x1) rfl Yj.z (by decide) (Yj.kc fun Yk x2 hb Yl => ?_);clear Yj;have hx2:=hx1.trans (hb.mono hx1.size);clear hb
 refine Yl.g 8 rfl rfl (.bool (!(inB (x) (0) (4294967296)))) (fun hc => ex_not rfl (Yl.v 10 hc)) fun Ym Yn => ?_;clear Yl
 refine Yn.t (.bool ((!decide (c.er = 0)) || (!(inB (x) (0) (4294967296))))) (ex_or rfl (Yn.a 8 rfl) (Yn.a 11 rfl) rfl) fun _ Yo => ?_;clear Yn
 have hz:=Yo.z;have s1:=Yo.a 1 rfl;have s2:=Yo.a 2 rfl;have s12:=Yo.a 12 rfl;clear Yo;refine WE ?_
 go_upto_region 2 with fail
 cases eo : (c.okB && inB x 0 4294967296)
 ·refine wp_cond_true ((ev s12 rfl).trans (by unfold Cg.er;revert eo;cases c.okB <;> cases inB x 0 4294967296 <;> intro eo <;> first | rfl | cases eo)) ?_
  go_upto_region 2 with fail
  refine WL ?_;have Yp:=(((Rp.nil hz).cons s1).cons s2).cons s12;clear hz s1 s2 s12
  refine Yp.t (.int IntKind.i64 (-1)) (ex_assign rfl rfl) fun _ Yq => ?_;clear Yp
  have hz:=Yq.z;have s4:=Yq.a 4 rfl;clear Yq;refine WE ?_
  go_wp2
  refine bodyPost_ret (results_tmp rfl _ _ _) rfl ⟨?_,hB.trans (hx2.mono (by omega))⟩;rw [getD_of s4];rw [show c.pr x = -1 from by unfold Cg.pr;rw [eo];rfl]
  rfl
 ·refine wp_cond_false ((ev s12 rfl).trans (by unfold Cg.er;revert eo;cases c.okB <;> cases inB x 0 4294967296 <;> intro eo <;> first | rfl | cases eo)) ?_
  have eo2 : c.okB = true∧inB x 0 4294967296 = true:=by simpa using eo
  obtain ⟨h1,h2,h3⟩:=Cg.nd_ok eo2.1;have h4:=inB_iff.1 eo2.2
  have h5 : 0 < c.nd:=by omega
  go_upto_region 3 with fail
  refine WL ?_;have Yr:=((Rp.nil hz).cons s1).cons s2;clear hz s1 s2
  refine Yr.t _ (ex_move rfl (Yr.f 1)) fun _ Ys => ?_;clear Yr
  refine Ys.t _ (ex_ld rfl (Ys.f 2) (CB7.ld (HC.bel hx2))) fun _ Yt => ?_;clear Ys
  refine vcall true (.int .i64 c.nd) WN (fun hc => ex_call rfl (by simp only [LA,LB,LC,(Yt.f 14),evc] <;> rfl) rfl) (fun hc => nodes8 c x2) rfl Yt.z (by decide) (Yt.kc fun Yu x3 hb Yv => ?_);clear Yt;have hx3:=hx2.trans (hb.mono hx2.size);clear hb
  refine Yv.t (.int .i64 (x % c.nd)) (ex_bin rfl (Yv.f 13) (Yv.f 15) (remD8 _ _ x c.nd h4.1 h5 (by omega) _)) fun _ Yw => ?_;clear Yv
  refine Yw.t _ (ex_assign rfl (Yw.f 16)) fun _ Yx => ?_;clear Yw
  have hz:=Yx.z;have s4:=Yx.a 4 rfl;clear Yx;refine WE ?_
  go_wp2
  refine bodyPost_ret (results_tmp rfl _ _ _) rfl ⟨?_,hB.trans (hx3.mono (by omega))⟩;rw [getD_of s4];rw [show c.pr x = x % c.nd from by unfold Cg.pr;rw [eo];rfl]
  rfl
theorem isprimary8 (c : Cg) (s : Sta) (w : World)  : Calls Tryz.prog 126 #[c.val,s.val] w fun e w' => e = .returned (.bool (decide (s.self = c.pr s.view)))∧Below w.heap.size w w':=by
 go_enter Tryz.func126,Tryz.ntmps126
 go_upto_region 0 with fail
 refine WL ?_;refine vl_gen (fun T => T.size = 12∧T[0]? = some (gw true (c.val))∧T[1]? = some (gw true (s.val))) ⟨rfl,rfl,rfl⟩ (fun Z0 ⟨hz,s0,s1⟩ => ?_)
 obtain ⟨w1,hw1⟩ : ∃ y,y = w.alloc (.cells c.cs.toArray 23):=⟨_,rfl⟩
 have hb : Below w.heap.size w w1:=by rw [hw1];exact BR.alloc LR _
 have hs1 : w1.heap.size = w.heap.size + 1:=by rw [hw1];simp
 have HC : CB7 w1 (w.heap.size) c:=by rw [hw1];exact BX7.new _ _ _
 refine vw (.pointer (some ⟨w.heap.size,0,none⟩)) w1 WN (ex_box8 rfl (ev s0 rfl) (by rw [hw1];exact bxC7 _ _)) rfl hz (by decide) (fun Z1 zz kk s2x => ?_);replace s1:=ku s1;clear kk hz s0 hw1;have hz:=zz;have s2:=s2x;clear zz s2x;have hB:=hb;clear hb
 obtain ⟨w2,hw2⟩ : ∃ y,y = w1.alloc (.cells s.cs.toArray 33):=⟨_,rfl⟩
 have hb : Below w1.heap.size w1 w2:=by rw [hw2];exact BR.alloc LR _
 have hs2 : w2.heap.size = w.heap.size + 2:=by rw [hw2];simp;omega
 have HS : SB7 w2 (w.heap.size + 1) s:=by rw [hw2,← hs1];exact BX7.new _ _ _
 refine vw (.pointer (some ⟨w.heap.size + 1,0,none⟩)) w2 WN (ex_box8 rfl (ev s1 rfl) (by rw [hw2,← hs1];exact bxS7 _ _)) rfl hz (by decide) (fun Z2 zz kk s3x => ?_);replace s2:=ku s2;clear kk hz s1 hw2;have hz:=zz;have s3:=s3x;clear zz s3x;have hB:=hB.trans (hb.mono (by omega));have HC:=HC.bel hb;clear hb;have hv0 : Below w2.heap.size w2 w2:=BR;have Ya:=((Rp.nil hz).cons s2).cons s3;clear hz s2 s3
 refine Ya.t (.bool false) (ex_assign rfl rfl) fun _ Yb => ?_;clear Ya
 have hz:=Yb.z;have s2:=Yb.a 2 rfl;have s3:=Yb.a 3 rfl;clear Yb;refine WE ?_
 go_upto_region 1 with fail
 refine vq_start (C:=fun v => Below w2.heap.size w2 v) (by kernel_rfl) (by kernel_rfl) hv0.drew ?_;have Yc:=((Rp.nil hz).cons s2).cons s3;clear hz s2 s3
 refine Yc.q _ (fun v hv => ex_fa rfl (Yc.f 3) (faS0 _ _)) fun _ Yd => ?_;clear Yc
 refine Yd.q _ (fun v hv => ex_ld rfl (Yd.f 5) (ldI8 (cell8 (HS.cell 0 _ rfl) hv))) fun _ Ye => ?_;clear Yd
 refine Ye.q _ (fun v hv => ex_ld rfl (Ye.f 2) (CB7.ld (HC.bel hv))) fun _ Yf => ?_;clear Ye
 refine Yf.q _ (fun v hv => ex_fa rfl (Yf.f 3) (faS2 _ _)) fun _ Yg => ?_;clear Yf
 refine Yg.q _ (fun v hv => ex_ld rfl (Yg.f 8) (ldI8 (cell8 (HS.cell 2 _ rfl) hv))) fun _ Yh => ?_;clear Yg
 refine vq_call true (.int .i64 (c.pr (s.view))) WN (fun hc v hv => ex_call rfl (by simp only [LA,LB,LC,(Yh.f 7),(Yh.f 9),evc] <;> rfl) rfl) (fun hc v hv => (bel8 hv (primary8 c (s.view) v))) rfl Yh.z (by decide) (Yh.k fun Yi Yj => ?_);clear Yh
 refine Yj.q (.bool (decide (s.self = (c.pr (s.view))))) (fun v hv => ex_bin rfl (Yj.f 6) (Yj.f 10) (eqlC _ _ _ _ _)) fun _ Yk => ?_;clear Yj
 refine Yk.q _ (fun v hv => ex_assign rfl (Yk.f 11)) fun _ Yl => ?_;clear Yk
 have hz:=Yl.z;have s4:=Yl.a 4 rfl;clear Yl;refine vq_nil (fun x1 hx1 => ?_)
 go_wp2
 refine bodyPost_ret (results_tmp rfl _ _ _) rfl ⟨?_,hB.trans (hx1.mono (by omega))⟩;rw [getD_of s4]
 rfl
theorem votes8 (c : Cg) (s : Sta) (w : World) (hI : s.In w) (hF : s.Fit) : Calls Tryz.prog 46 #[c.val,s.val] w fun e w' => e = .returned (.bool (s.votB c))∧Below w.heap.size w w':=by
 go_enter Tryz.func46,Tryz.ntmps46
 go_upto_region 0 with fail
 refine WL ?_;refine vl_gen (fun T => T.size = 39∧T[0]? = some (gw true (c.val))∧T[1]? = some (gw true (s.val))) ⟨rfl,rfl,rfl⟩ (fun Z0 ⟨hz,s0,s1⟩ => ?_)
 obtain ⟨w1,hw1⟩ : ∃ y,y = w.alloc (.cells c.cs.toArray 23):=⟨_,rfl⟩
 have hb : Below w.heap.size w w1:=by rw [hw1];exact BR.alloc LR _
 have hs1 : w1.heap.size = w.heap.size + 1:=by rw [hw1];simp
 have HC : CB7 w1 (w.heap.size) c:=by rw [hw1];exact BX7.new _ _ _
 refine vw (.pointer (some ⟨w.heap.size,0,none⟩)) w1 WN (ex_box8 rfl (ev s0 rfl) (by rw [hw1];exact bxC7 _ _)) rfl hz (by decide) (fun Z1 zz kk s2x => ?_);replace s1:=ku s1;clear kk hz s0 hw1;have hz:=zz;have s2:=s2x;clear zz s2x;have hB:=hb;clear hb
 obtain ⟨w2,hw2⟩ : ∃ y,y = w1.alloc (.cells s.cs.toArray 33):=⟨_,rfl⟩
 have hb : Below w1.heap.size w1 w2:=by rw [hw2];exact BR.alloc LR _
 have hs2 : w2.heap.size = w.heap.size + 2:=by rw [hw2];simp;omega
 have HS : SB7 w2 (w.heap.size + 1) s:=by rw [hw2,← hs1];exact BX7.new _ _ _
 refine vw (.pointer (some ⟨w.heap.size + 1,0,none⟩)) w2 WN (ex_box8 rfl (ev s1 rfl) (by rw [hw2,← hs1];exact bxS7 _ _)) rfl hz (by decide) (fun Z2 zz kk s3x => ?_);replace s2:=ku s2;clear kk hz s1 hw2;have hz:=zz;have s3:=s3x;clear zz s3x;have hB:=hB.trans (hb.mono (by omega));have HC:=HC.bel hb;clear hb;have hv0 : Below w2.heap.size w2 w2:=BR;have HI:=hI.later hB;have Ya:=((Rp.nil hz).cons s2).cons s3;clear hz s2 s3
 refine Ya.t (.bool false) (ex_assign rfl rfl) fun _ Yb => ?_;clear Ya
 have hz:=Yb.z;have s2:=Yb.a 2 rfl;have s3:=Yb.a 3 rfl;clear Yb;refine WE ?_
 go_upto_region 1 with fail
 refine WL ?_;have Yc:=((Rp.nil hz).cons s2).cons s3;clear hz s2 s3
 refine Yc.t _ (ex_ld rfl (Yc.f 2) (CB7.ld (HC.bel hv0))) fun _ Yd => ?_;clear Yc
 refine Yd.t _ (ex_fa rfl (Yd.f 3) (faS0 _ _)) fun _ Ye => ?_;clear Yd
 refine Ye.t _ (ex_ld rfl (Ye.f 6) (ldI8 (cell8 (HS.cell 0 _ rfl) hv0))) fun _ Yf => ?_;clear Ye
 refine Yf.t _ (ex_fa rfl (Yf.f 3) (faS8 _ _)) fun _ Yg => ?_;clear Yf
 refine Yg.t _ (ex_ld rfl (Yg.f 8) (ldK8 (cell8 (HS.cell 8 _ rfl) hv0))) fun _ Yh => ?_;clear Yg
 refine vcall true (.int .i64 (Ak.ck c s.self s.A)) WN (fun hc => ex_call rfl (by simp only [LA,LB,LC,(Yh.f 5),(Yh.f 7),(Yh.f 9),evc] <;> rfl) rfl) (fun hc => Ak.Check_any c s.self s.A s.ka _ s.kc w2 (HI.a.later hv0) (by have:=hF.al;omega)) rfl Yh.z (by decide) (Yh.kc fun Yi x1 hb Yj => ?_);clear Yh;have hx1:=hv0.trans (hb.mono hv0.size);clear hb
 refine Yj.t (.bool (decide ((Ak.ck c s.self s.A) = 0))) (ex_bin rfl (Yj.f 10) rfl (eqlN8 _ _ _ _ _)) fun _ Yk => ?_;clear Yj
 refine Yk.t _ (ex_move rfl (Yk.f 11)) fun _ Yl => ?_;clear Yk
 refine Yl.g 12 rfl rfl _ (fun hc => ex_ld rfl (Yl.f 2) (CB7.ld (HC.bel hx1))) fun Ym Yn => ?_;clear Yl
 refine Yn.g 12 rfl rfl _ (fun hc => ex_fa rfl (Yn.f 3) (faS0 _ _)) fun Yo Yp => ?_;clear Yn
 refine Yp.g 12 rfl rfl _ (fun hc => ex_ld rfl (Yp.v 14 hc) (ldI8 (cell8 (HS.cell 0 _ rfl) hx1))) fun Yq Yr => ?_;clear Yp
 refine Yr.g 12 rfl rfl _ (fun hc => ex_fa rfl (Yr.f 3) (faS9 _ _)) fun Ys Yt => ?_;clear Yr
 refine Yt.g 12 rfl rfl _ (fun hc => ex_ld rfl (Yt.v 16 hc) (ldM8 (cell8 (HS.cell 9 _ rfl) hx1))) fun Yu Yv => ?_;clear Yt
 refine vcall (true && ((decide ((Ak.ck c s.self s.A) = 0)) == true)) (.int .i64 (Mk.ck c s.self s.M)) (want_g rfl rfl (Yv.a 12 rfl)) (fun hc => ex_call rfl (by simp only [LA,LB,LC,(Yv.v 13 hc),(Yv.v 15 hc),(Yv.v 17 hc),evc] <;> rfl) rfl) (fun hc => Mk.Check_any c s.self s.M s.ma _ s.mc x1 (HI.m.later hx1) (by have:=hF.ml;omega)) rfl Yv.z (by decide) (Yv.kc fun Yw x2 hb Yx => ?_);clear Yv;have hx2:=hx1.trans (hb.mono hx1.size);clear hb
 refine Yx.g 12 rfl rfl (.bool (decide ((Mk.ck c s.self s.M) = 0))) (fun hc => ex_bin rfl (Yx.v 18 hc) rfl (eqlN8 _ _ _ _ _)) fun Yy Yz => ?_;clear Yx
 refine Yz.t (.bool ((decide ((Ak.ck c s.self s.A) = 0)) && (decide ((Mk.ck c s.self s.M) = 0)))) (ex_and rfl (Yz.a 12 rfl) (Yz.a 19 rfl) rfl) fun _ Y0 => ?_;clear Yz
 refine Y0.t _ (ex_move rfl (Y0.f 20)) fun _ Y1 => ?_;clear Y0
 refine Y1.g 21 rfl rfl _ (fun hc => ex_ld rfl (Y1.f 2) (CB7.ld (HC.bel hx2))) fun Y2 Y3 => ?_;clear Y1
 refine Y3.g 21 rfl rfl _ (fun hc => ex_fa rfl (Y3.f 3) (faS0 _ _)) fun Y4 Y5 => ?_;clear Y3
 refine Y5.g 21 rfl rfl _ (fun hc => ex_ld rfl (Y5.v 23 hc) (ldI8 (cell8 (HS.cell 0 _ rfl) hx2))) fun Y6 Y7 => ?_;clear Y5
 refine Y7.g 21 rfl rfl _ (fun hc => ex_fa rfl (Y7.f 3) (faS10 _ _)) fun Y8 Y9 => ?_;clear Y7
 refine Y9.g 21 rfl rfl _ (fun hc => ex_ld rfl (Y9.v 25 hc) (ldB8 (cell8 (HS.cell 10 _ rfl) hx2))) fun Yba Ybb => ?_;clear Y9
 refine vcall (true && (((decide ((Ak.ck c s.self s.A) = 0)) && (decide ((Mk.ck c s.self s.M) = 0))) == true)) (.int .i64 (Bl.ck c s.self s.B)) (want_g rfl rfl (Ybb.a 21 rfl)) (fun hc => ex_call rfl (by simp only [LA,LB,LC,(Ybb.v 22 hc),(Ybb.v 24 hc),(Ybb.v 26 hc),evc] <;> rfl) rfl) (fun hc => Bl.Check_any c s.self s.B s.ba _ s.bc x2 (HI.b.later hx2) (by have:=hF.bl;omega) (fun x hx => ⟨⟨(HI.bl x hx).1.later hx2,(HI.bl x hx).2⟩,hF.be x hx⟩)) rfl Ybb.z (by decide) (Ybb.kc fun Ybc x3 hb Ybd => ?_);clear Ybb;have hx3:=hx2.trans (hb.mono hx2.size);clear hb
 refine Ybd.g 21 rfl rfl (.bool (decide ((Bl.ck c s.self s.B) = 0))) (fun hc => ex_bin rfl (Ybd.v 27 hc) rfl (eqlN8 _ _ _ _ _)) fun Ybe Ybf => ?_;clear Ybd
 refine Ybf.t (.bool (((decide ((Ak.ck c s.self s.A) = 0)) && (decide ((Mk.ck c s.self s.M) = 0))) && (decide ((Bl.ck c s.self s.B) = 0)))) (ex_and rfl (Ybf.a 21 rfl) (Ybf.a 28 rfl) rfl) fun _ Ybg => ?_;clear Ybf
 refine Ybg.t _ (ex_move rfl (Ybg.f 29)) fun _ Ybh => ?_;clear Ybg
 refine Ybh.g 30 rfl rfl _ (fun hc => ex_ld rfl (Ybh.f 2) (CB7.ld (HC.bel hx3))) fun Ybi Ybj => ?_;clear Ybh
 refine Ybj.g 30 rfl rfl _ (fun hc => ex_fa rfl (Ybj.f 3) (faS0 _ _)) fun Ybk Ybl => ?_;clear Ybj
 refine Ybl.g 30 rfl rfl _ (fun hc => ex_ld rfl (Ybl.v 32 hc) (ldI8 (cell8 (HS.cell 0 _ rfl) hx3))) fun Ybm Ybn => ?_;clear Ybl
 refine Ybn.g 30 rfl rfl _ (fun hc => ex_fa rfl (Ybn.f 3) (faS11 _ _)) fun Ybo Ybp => ?_;clear Ybn
 refine Ybp.g 30 rfl rfl _ (fun hc => ex_ld rfl (Ybp.v 34 hc) (ldN8 (cell8 (HS.cell 11 _ rfl) hx3))) fun Ybq Ybr => ?_;clear Ybp
 refine vcall (true && ((((decide ((Ak.ck c s.self s.A) = 0)) && (decide ((Mk.ck c s.self s.M) = 0))) && (decide ((Bl.ck c s.self s.B) = 0))) == true)) (.int .i64 (An.ck c s.self s.N)) (want_g rfl rfl (Ybr.a 30 rfl)) (fun hc => ex_call rfl (by simp only [LA,LB,LC,(Ybr.v 31 hc),(Ybr.v 33 hc),(Ybr.v 35 hc),evc] <;> rfl) rfl) (fun hc => An.Check_any c s.self s.N s.na _ s.nc x3 (HI.n.later hx3) (by have:=hF.nl;omega) (fun x hx => ⟨⟨(HI.nl x hx).1.later hx3,(HI.nl x hx).2⟩,hF.ne x hx⟩)) rfl Ybr.z (by decide) (Ybr.kc fun Ybs x4 hb Ybt => ?_);clear Ybr;have hx4:=hx3.trans (hb.mono hx3.size);clear hb
 refine Ybt.g 30 rfl rfl (.bool (decide ((An.ck c s.self s.N) = 0))) (fun hc => ex_bin rfl (Ybt.v 36 hc) rfl (eqlN8 _ _ _ _ _)) fun Ybu Ybv => ?_;clear Ybt
 refine Ybv.t (.bool ((((decide ((Ak.ck c s.self s.A) = 0)) && (decide ((Mk.ck c s.self s.M) = 0))) && (decide ((Bl.ck c s.self s.B) = 0))) && (decide ((An.ck c s.self s.N) = 0)))) (ex_and rfl (Ybv.a 30 rfl) (Ybv.a 37 rfl) rfl) fun _ Ybw => ?_;clear Ybv
 refine Ybw.t _ (ex_assign rfl (Ybw.f 38)) fun _ Ybx => ?_;clear Ybw
 have hz:=Ybx.z;have s4:=Ybx.a 4 rfl;clear Ybx;refine WE ?_
 go_wp2
 refine bodyPost_ret (results_tmp rfl _ _ _) rfl ⟨?_,hB.trans (hx4.mono (by omega))⟩;rw [getD_of s4]
 rfl
theorem numbers8 (c : Cg) (s : Sta) (w : World) (hI : s.In w) (hF : s.Fit) (hok : c.okB = true) : Calls Tryz.prog 45 #[c.val,s.val] w fun e w' => e = .returned (.bool (s.numB c))∧Below w.heap.size w w':=by
 go_enter Tryz.func45,Tryz.ntmps45
 go_upto_region 0 with fail
 refine WL ?_;refine vl_gen (fun T => T.size = 61∧T[0]? = some (gw true (c.val))∧T[1]? = some (gw true (s.val))) ⟨rfl,rfl,rfl⟩ (fun Z0 ⟨hz,s0,s1⟩ => ?_)
 obtain ⟨w1,hw1⟩ : ∃ y,y = w.alloc (.cells c.cs.toArray 23):=⟨_,rfl⟩
 have hb : Below w.heap.size w w1:=by rw [hw1];exact BR.alloc LR _
 have hs1 : w1.heap.size = w.heap.size + 1:=by rw [hw1];simp
 have HC : CB7 w1 (w.heap.size) c:=by rw [hw1];exact BX7.new _ _ _
 refine vw (.pointer (some ⟨w.heap.size,0,none⟩)) w1 WN (ex_box8 rfl (ev s0 rfl) (by rw [hw1];exact bxC7 _ _)) rfl hz (by decide) (fun Z1 zz kk s2x => ?_);replace s1:=ku s1;clear kk hz s0 hw1;have hz:=zz;have s2:=s2x;clear zz s2x;have hB:=hb;clear hb
 obtain ⟨w2,hw2⟩ : ∃ y,y = w1.alloc (.cells s.cs.toArray 33):=⟨_,rfl⟩
 have hb : Below w1.heap.size w1 w2:=by rw [hw2];exact BR.alloc LR _
 have hs2 : w2.heap.size = w.heap.size + 2:=by rw [hw2];simp;omega
 have HS : SB7 w2 (w.heap.size + 1) s:=by rw [hw2,← hs1];exact BX7.new _ _ _
 refine vw (.pointer (some ⟨w.heap.size + 1,0,none⟩)) w2 WN (ex_box8 rfl (ev s1 rfl) (by rw [hw2,← hs1];exact bxS7 _ _)) rfl hz (by decide) (fun Z2 zz kk s3x => ?_);replace s2:=ku s2;clear kk hz s1 hw2;have hz:=zz;have s3:=s3x;clear zz s3x;have hB:=hB.trans (hb.mono (by omega));have HC:=HC.bel hb;clear hb;have hv0 : Below w2.heap.size w2 w2:=BR;have HI:=hI.later hB;obtain ⟨hn1,hn2,hn3⟩:=Cg.nd_ok hok;have hP:=Cg.P_ok hok;have Ya:=((Rp.nil hz).cons s2).cons s3;clear hz s2 s3
 refine Ya.t (.bool false) (ex_assign rfl rfl) fun _ Yb => ?_;clear Ya
 have hz:=Yb.z;have s2:=Yb.a 2 rfl;have s3:=Yb.a 3 rfl;clear Yb;refine WE ?_
 go_upto_region 1 with fail
 refine WL ?_;have Yc:=((Rp.nil hz).cons s2).cons s3;clear hz s2 s3
 refine Yc.t _ (ex_fa rfl (Yc.f 3) (faS4 _ _)) fun _ Yd => ?_;clear Yc
 refine Yd.t _ (ex_ld rfl (Yd.f 8) (ldE8 (cell8 (HS.cell 4 _ rfl) hv0))) fun _ Ye => ?_;clear Yd
 refine Ye.t _ (ex_fa rfl (Ye.f 2) (faC1 _ _)) fun _ Yf => ?_;clear Ye
 refine Yf.t _ (ex_ld rfl (Yf.f 10) (ldI8 (cell8 (HC.cell 1 _ rfl) hv0))) fun _ Yg => ?_;clear Yf
 refine vcall true (.tuple #[.int .i64 (chk s.L c.R).1,.int .i64 (chk s.L c.R).2]) WN (fun hc => ex_call rfl (by simp only [LA,LB,LC,(Yg.f 9),(Yg.f 11),evc] <;> rfl) rfl) (fun hc => checkO_any s.L s.la _ s.lc c.R w2 (HI.l.later hv0) hF.le) rfl Yg.z (by decide) (Yg.kc fun Yh x1 hb Yi => ?_);clear Yg;have hx1:=hv0.trans (hb.mono hv0.size);clear hb
 refine Yi.t _ (ex_move rfl (Yi.f 12)) fun _ Yj => ?_;clear Yi
 refine Yj.t _ (ex_ext8 rfl (Yj.f 7) rfl) fun _ Yk => ?_;clear Yj
 refine Yk.t _ (ex_ext8 rfl (Yk.f 7) rfl) fun _ Yl => ?_;clear Yk
 refine Yl.t _ (ex_assign rfl (Yl.f 13)) fun _ Ym => ?_;clear Yl
 refine Ym.t _ (ex_assign rfl (Ym.f 14)) fun _ Yn => ?_;clear Ym
 have hz:=Yn.z;have s2:=Yn.a 2 rfl;have s3:=Yn.a 3 rfl;have s5:=Yn.a 5 rfl;clear Yn;refine WE ?_
 go_upto_region 2 with fail
 refine vq_start (C:=fun v => Below w2.heap.size w2 v) (by kernel_rfl) (by kernel_rfl) hx1.drew ?_;have Yo:=(((Rp.nil hz).cons s2).cons s3).cons s5;clear hz s2 s3 s5
 refine Yo.q _ (fun v hv => ex_move rfl (Yo.f 5)) fun _ Yp => ?_;clear Yo
 refine Yp.q (.bool (decide ((chk s.L c.R).1 = 0))) (fun v hv => ex_bin rfl (Yp.f 15) rfl (eqlN8 _ _ _ _ _)) fun _ Yq => ?_;clear Yp
 refine Yq.q _ (fun v hv => ex_move rfl (Yq.f 16)) fun _ Yr => ?_;clear Yq
 refine Yr.gq 17 rfl rfl _ (fun hc v hv => ex_fa rfl (Yr.f 3) (faS6 _ _)) fun Ys Yt => ?_;clear Yr
 refine Yt.gq 17 rfl rfl _ (fun hc v hv => ex_ld rfl (Yt.v 18 hc) (ldV8 (cell8 (HS.cell 6 _ rfl) hv))) fun Yu Yv => ?_;clear Yt
 refine Yv.gq 17 rfl rfl _ (fun hc v hv => ex_ld rfl (Yv.f 2) (CB7.ld (HC.bel hv))) fun Yw Yx => ?_;clear Yv
 refine vq_call (true && ((decide ((chk s.L c.R).1 = 0)) == true)) (.int .i64 c.nd) (want_g rfl rfl (Yx.a 17 rfl)) (fun hc v hv => ex_call rfl (by simp only [LA,LB,LC,(Yx.v 20 hc),evc] <;> rfl) rfl) (fun hc v hv => (bel8 hv (nodes8 c v))) rfl Yx.z (by decide) (Yx.k fun Yy Yz => ?_);clear Yx;refine vq_call (true && ((decide ((chk s.L c.R).1 = 0)) == true)) (.int .i64 (if (s.V.length : Int) = c.nd then 0 else 30)) (want_g rfl rfl (Yz.a 17 rfl)) (fun hc v hv => ex_call rfl (by simp only [LA,LB,LC,(Yz.v 19 hc),(Yz.v 21 hc),evc] <;> rfl) rfl) (fun hc v hv => (bel8 hv (vcheck8 c s.va s.V.length s.vc v hok))) rfl Yz.z (by decide) (Yz.k fun Y0 Y1 => ?_);clear Yz
 refine Y1.gq 17 rfl rfl (.bool (decide ((if (s.V.length : Int) = c.nd then 0 else 30) = 0))) (fun hc v hv => ex_bin rfl (Y1.v 22 hc) rfl (eqlN8 _ _ _ _ _)) fun Y2 Y3 => ?_;clear Y1
 refine Y3.q (.bool ((decide ((chk s.L c.R).1 = 0)) && (decide ((if (s.V.length : Int) = c.nd then 0 else 30) = 0)))) (fun v hv => ex_and rfl (Y3.a 17 rfl) (Y3.a 23 rfl) rfl) fun _ Y4 => ?_;clear Y3
 refine Y4.q _ (fun v hv => ex_move rfl (Y4.f 24)) fun _ Y5 => ?_;clear Y4
 refine Y5.gq 25 rfl rfl _ (fun hc v hv => ex_fa rfl (Y5.f 3) (faS0 _ _)) fun Y6 Y7 => ?_;clear Y5
 refine Y7.gq 25 rfl rfl _ (fun hc v hv => ex_ld rfl (Y7.v 26 hc) (ldI8 (cell8 (HS.cell 0 _ rfl) hv))) fun Y8 Y9 => ?_;clear Y7
 refine Y9.gq 25 rfl rfl _ (fun hc v hv => ex_ld rfl (Y9.f 2) (CB7.ld (HC.bel hv))) fun Yba Ybb => ?_;clear Y9
 refine vq_call (true && (((decide ((chk s.L c.R).1 = 0)) && (decide ((if (s.V.length : Int) = c.nd then 0 else 30) = 0))) == true)) (.int .i64 c.nd) (want_g rfl rfl (Ybb.a 25 rfl)) (fun hc v hv => ex_call rfl (by simp only [LA,LB,LC,(Ybb.v 28 hc),evc] <;> rfl) rfl) (fun hc v hv => (bel8 hv (nodes8 c v))) rfl Ybb.z (by decide) (Ybb.k fun Ybc Ybd => ?_);clear Ybb
 refine Ybd.gq 25 rfl rfl (.int .i64 (c.nd - 1)) (fun hc v hv => ex_bin rfl (Ybd.v 29 hc) rfl (subD8 _ _ c.nd 1 (c.nd - 1) (by rw [IntKind.wrap_i64];omega) _)) fun Ybe Ybf => ?_;clear Ybd
 refine vq_call (true && (((decide ((chk s.L c.R).1 = 0)) && (decide ((if (s.V.length : Int) = c.nd then 0 else 30) = 0))) == true)) (.bool (inB (s.self) (0) ((c.nd - 1)))) (want_g rfl rfl (Ybf.a 25 rfl)) (fun hc v hv => ex_call rfl (by simp only [LA,LB,LC,(Ybf.v 27 hc),(Ybf.v 30 hc),evc] <;> rfl) rfl) (fun hc v hv => (bel8 hv (within8 (s.self) (0) ((c.nd - 1)) v))) rfl Ybf.z (by decide) (Ybf.k fun Ybg Ybh => ?_);clear Ybf
 refine Ybh.q (.bool (((decide ((chk s.L c.R).1 = 0)) && (decide ((if (s.V.length : Int) = c.nd then 0 else 30) = 0))) && (inB (s.self) (0) ((c.nd - 1))))) (fun v hv => ex_and rfl (Ybh.a 25 rfl) (Ybh.a 31 rfl) rfl) fun _ Ybi => ?_;clear Ybh
 refine Ybi.q _ (fun v hv => ex_move rfl (Ybi.f 32)) fun _ Ybj => ?_;clear Ybi
 refine Ybj.gq 33 rfl rfl _ (fun hc v hv => ex_fa rfl (Ybj.f 3) (faS2 _ _)) fun Ybk Ybl => ?_;clear Ybj
 refine Ybl.gq 33 rfl rfl _ (fun hc v hv => ex_ld rfl (Ybl.v 34 hc) (ldI8 (cell8 (HS.cell 2 _ rfl) hv))) fun Ybm Ybn => ?_;clear Ybl
 refine vq_call (true && ((((decide ((chk s.L c.R).1 = 0)) && (decide ((if (s.V.length : Int) = c.nd then 0 else 30) = 0))) && (inB (s.self) (0) ((c.nd - 1)))) == true)) (.bool (inB (s.view) (0) (4294967296))) (want_g rfl rfl (Ybn.a 33 rfl)) (fun hc v hv => ex_call rfl (by simp only [LA,LB,LC,(Ybn.v 35 hc),evc] <;> rfl) rfl) (fun hc v hv => (bel8 hv (within8 (s.view) (0) (4294967296) v))) rfl Ybn.z (by decide) (Ybn.k fun Ybo Ybp => ?_);clear Ybn
 refine Ybp.q (.bool ((((decide ((chk s.L c.R).1 = 0)) && (decide ((if (s.V.length : Int) = c.nd then 0 else 30) = 0))) && (inB (s.self) (0) ((c.nd - 1)))) && (inB (s.view) (0) (4294967296)))) (fun v hv => ex_and rfl (Ybp.a 33 rfl) (Ybp.a 36 rfl) rfl) fun _ Ybq => ?_;clear Ybp
 refine Ybq.q _ (fun v hv => ex_move rfl (Ybq.f 37)) fun _ Ybr => ?_;clear Ybq
 refine Ybr.gq 38 rfl rfl _ (fun hc v hv => ex_fa rfl (Ybr.f 3) (faS3 _ _)) fun Ybs Ybt => ?_;clear Ybr
 refine Ybt.gq 38 rfl rfl _ (fun hc v hv => ex_ld rfl (Ybt.v 39 hc) (ldI8 (cell8 (HS.cell 3 _ rfl) hv))) fun Ybu Ybv => ?_;clear Ybt
 refine Ybv.gq 38 rfl rfl _ (fun hc v hv => ex_fa rfl (Ybv.f 3) (faS2 _ _)) fun Ybw Ybx => ?_;clear Ybv
 refine Ybx.gq 38 rfl rfl _ (fun hc v hv => ex_ld rfl (Ybx.v 41 hc) (ldI8 (cell8 (HS.cell 2 _ rfl) hv))) fun Yby Ybz => ?_;clear Ybx
 refine vq_call (true && (((((decide ((chk s.L c.R).1 = 0)) && (decide ((if (s.V.length : Int) = c.nd then 0 else 30) = 0))) && (inB (s.self) (0) ((c.nd - 1)))) && (inB (s.view) (0) (4294967296))) == true)) (.bool (inB (s.last) (0) (s.view))) (want_g rfl rfl (Ybz.a 38 rfl)) (fun hc v hv => ex_call rfl (by simp only [LA,LB,LC,(Ybz.v 40 hc),(Ybz.v 42 hc),evc] <;> rfl) rfl) (fun hc v hv => (bel8 hv (within8 (s.last) (0) (s.view) v))) rfl Ybz.z (by decide) (Ybz.k fun Yb0 Yb1 => ?_);clear Ybz
 refine Yb1.q (.bool (((((decide ((chk s.L c.R).1 = 0)) && (decide ((if (s.V.length : Int) = c.nd then 0 else 30) = 0))) && (inB (s.self) (0) ((c.nd - 1)))) && (inB (s.view) (0) (4294967296))) && (inB (s.last) (0) (s.view)))) (fun v hv => ex_and rfl (Yb1.a 38 rfl) (Yb1.a 43 rfl) rfl) fun _ Yb2 => ?_;clear Yb1
 refine Yb2.q _ (fun v hv => ex_move rfl (Yb2.f 44)) fun _ Yb3 => ?_;clear Yb2
 refine Yb3.gq 45 rfl rfl _ (fun hc v hv => ex_fa rfl (Yb3.f 3) (faS5 _ _)) fun Yb4 Yb5 => ?_;clear Yb3
 refine Yb5.gq 45 rfl rfl _ (fun hc v hv => ex_ld rfl (Yb5.v 46 hc) (ldI8 (cell8 (HS.cell 5 _ rfl) hv))) fun Yb6 Yb7 => ?_;clear Yb5
 refine Yb7.gq 45 rfl rfl _ (fun hc v hv => ex_fa rfl (Yb7.f 3) (faS4 _ _)) fun Yb8 Yb9 => ?_;clear Yb7
 refine Yb9.gq 45 rfl rfl _ (fun hc v hv => ex_ld rfl (Yb9.v 48 hc) (ldE8 (cell8 (HS.cell 4 _ rfl) hv))) fun Yca Ycb => ?_;clear Yb9
 refine Ycb.gq 45 rfl rfl _ (fun hc v hv => ex_lenE8 rfl rfl (Ycb.v 49 hc)) fun Ycc Ycd => ?_;clear Ycb
 refine vq_call (true && ((((((decide ((chk s.L c.R).1 = 0)) && (decide ((if (s.V.length : Int) = c.nd then 0 else 30) = 0))) && (inB (s.self) (0) ((c.nd - 1)))) && (inB (s.view) (0) (4294967296))) && (inB (s.last) (0) (s.view))) == true)) (.bool (inB (s.commit) (0) ((s.L.length : Int)))) (want_g rfl rfl (Ycd.a 45 rfl)) (fun hc v hv => ex_call rfl (by simp only [LA,LB,LC,(Ycd.v 47 hc),(Ycd.v 50 hc),evc] <;> rfl) rfl) (fun hc v hv => (bel8 hv (within8 (s.commit) (0) ((s.L.length : Int)) v))) rfl Ycd.z (by decide) (Ycd.k fun Yce Ycf => ?_);clear Ycd
 refine Ycf.q (.bool ((((((decide ((chk s.L c.R).1 = 0)) && (decide ((if (s.V.length : Int) = c.nd then 0 else 30) = 0))) && (inB (s.self) (0) ((c.nd - 1)))) && (inB (s.view) (0) (4294967296))) && (inB (s.last) (0) (s.view))) && (inB (s.commit) (0) ((s.L.length : Int))))) (fun v hv => ex_and rfl (Ycf.a 45 rfl) (Ycf.a 51 rfl) rfl) fun _ Ycg => ?_;clear Ycf
 refine Ycg.q _ (fun v hv => ex_move rfl (Ycg.f 52)) fun _ Ych => ?_;clear Ycg
 refine Ych.gq 53 rfl rfl _ (fun hc v hv => ex_fa rfl (Ych.f 3) (faS7 _ _)) fun Yci Ycj => ?_;clear Ych
 refine Ycj.gq 53 rfl rfl _ (fun hc v hv => ex_ld rfl (Ycj.v 54 hc) (ldI8 (cell8 (HS.cell 7 _ rfl) hv))) fun Yck Ycl => ?_;clear Ycj
 refine Ycl.gq 53 rfl rfl _ (fun hc v hv => ex_fa rfl (Ycl.f 2) (faC2 _ _)) fun Ycm Ycn => ?_;clear Ycl
 refine Ycn.gq 53 rfl rfl _ (fun hc v hv => ex_ld rfl (Ycn.v 56 hc) (ldI8 (cell8 (HC.cell 2 _ rfl) hv))) fun Yco Ycp => ?_;clear Ycn
 refine Ycp.gq 53 rfl rfl (.int .i64 (c.P - 1)) (fun hc v hv => ex_bin rfl (Ycp.v 57 hc) rfl (subD8 _ _ c.P 1 (c.P - 1) (by rw [IntKind.wrap_i64];omega) _)) fun Ycq Ycr => ?_;clear Ycp
 refine vq_call (true && (((((((decide ((chk s.L c.R).1 = 0)) && (decide ((if (s.V.length : Int) = c.nd then 0 else 30) = 0))) && (inB (s.self) (0) ((c.nd - 1)))) && (inB (s.view) (0) (4294967296))) && (inB (s.last) (0) (s.view))) && (inB (s.commit) (0) ((s.L.length : Int)))) == true)) (.bool (inB (s.idle) (0) ((c.P - 1)))) (want_g rfl rfl (Ycr.a 53 rfl)) (fun hc v hv => ex_call rfl (by simp only [LA,LB,LC,(Ycr.v 55 hc),(Ycr.v 58 hc),evc] <;> rfl) rfl) (fun hc v hv => (bel8 hv (within8 (s.idle) (0) ((c.P - 1)) v))) rfl Ycr.z (by decide) (Ycr.k fun Ycs Yct => ?_);clear Ycr
 refine Yct.q (.bool (((((((decide ((chk s.L c.R).1 = 0)) && (decide ((if (s.V.length : Int) = c.nd then 0 else 30) = 0))) && (inB (s.self) (0) ((c.nd - 1)))) && (inB (s.view) (0) (4294967296))) && (inB (s.last) (0) (s.view))) && (inB (s.commit) (0) ((s.L.length : Int)))) && (inB (s.idle) (0) ((c.P - 1))))) (fun v hv => ex_and rfl (Yct.a 53 rfl) (Yct.a 59 rfl) rfl) fun _ Ycu => ?_;clear Yct
 refine Ycu.q _ (fun v hv => ex_assign rfl (Ycu.f 60)) fun _ Ycv => ?_;clear Ycu
 have hz:=Ycv.z;have s4:=Ycv.a 4 rfl;clear Ycv;refine vq_nil (fun x2 hx2 => ?_)
 go_wp2
 refine bodyPost_ret (results_tmp rfl _ _ _) rfl ⟨?_,hB.trans (hx2.mono (by omega))⟩;rw [getD_of s4]
 rfl
theorem recovering8 (s : Sta) (w : World) (hI : s.In w) (hF : s.Fit) (hs : 0 ≤ s.self∧s.self < (s.V.length : Int)) : Calls Tryz.prog 80 #[s.val] w fun e w' => e = .returned (.bool s.recB)∧Below w.heap.size w w':=by
 go_enter Tryz.func80,Tryz.ntmps80
 go_upto_region 0 with fail
 refine WL ?_;refine vl_gen (fun T => T.size = 39∧T[0]? = some (gw true (s.val))) ⟨rfl,rfl⟩ (fun Z0 ⟨hz,s0⟩ => ?_)
 obtain ⟨w1,hw1⟩ : ∃ y,y = w.alloc (.cells s.cs.toArray 33):=⟨_,rfl⟩
 have hb : Below w.heap.size w w1:=by rw [hw1];exact BR.alloc LR _
 have hs1 : w1.heap.size = w.heap.size + 1:=by rw [hw1];simp
 have HS : SB7 w1 (w.heap.size) s:=by rw [hw1];exact BX7.new _ _ _
 refine vw (.pointer (some ⟨w.heap.size,0,none⟩)) w1 WN (ex_box8 rfl (ev s0 rfl) (by rw [hw1];exact bxS7 _ _)) rfl hz (by decide) (fun Z1 zz kk s1x => ?_);clear kk hz s0 hw1;have hz:=zz;have s1:=s1x;clear zz s1x;have hB:=hb;clear hb;have hv0 : Below w1.heap.size w1 w1:=BR;have HI:=hI.later hB;obtain ⟨q,o,hq,hQ⟩:=vec_at8 HI.v hs;have f1:=hF.ll;have f2:=hF.al;have f3:=hF.ml;have f4:=hF.bl;have Ya:=(Rp.nil hz).cons s1;clear hz s1
 refine Ya.t (.bool false) (ex_assign rfl rfl) fun _ Yb => ?_;clear Ya
 have hz:=Yb.z;have s1:=Yb.a 1 rfl;clear Yb;refine WE ?_
 go_upto_region 1 with fail
 refine WL ?_;have Yc:=(Rp.nil hz).cons s1;clear hz s1
 refine Yc.t _ (ex_fa rfl (Yc.f 1) (faS2 _ _)) fun _ Yd => ?_;clear Yc
 refine Yd.t _ (ex_ld rfl (Yd.f 3) (ldI8 (cell8 (HS.cell 2 _ rfl) hv0))) fun _ Ye => ?_;clear Yd
 refine Ye.t (.bool (decide (s.view = 0))) (ex_bin rfl (Ye.f 4) rfl (eqlC _ _ _ _ _)) fun _ Yf => ?_;clear Ye
 refine Yf.t _ (ex_move rfl (Yf.f 5)) fun _ Yg => ?_;clear Yf
 refine Yg.g 6 rfl rfl _ (fun hc => ex_fa rfl (Yg.f 1) (faS7 _ _)) fun Yh Yi => ?_;clear Yg
 refine Yi.g 6 rfl rfl _ (fun hc => ex_ld rfl (Yi.v 7 hc) (ldI8 (cell8 (HS.cell 7 _ rfl) hv0))) fun Yj Yk => ?_;clear Yi
 refine Yk.g 6 rfl rfl (.bool (decide (s.idle = 0))) (fun hc => ex_bin rfl (Yk.v 8 hc) rfl (eqlC _ _ _ _ _)) fun Yl Ym => ?_;clear Yk
 refine Ym.t (.bool ((decide (s.view = 0)) && (decide (s.idle = 0)))) (ex_and rfl (Ym.a 6 rfl) (Ym.a 9 rfl) rfl) fun _ Yn => ?_;clear Ym
 refine Yn.t _ (ex_move rfl (Yn.f 10)) fun _ Yo => ?_;clear Yn
 refine Yo.g 11 rfl rfl _ (fun hc => ex_fa rfl (Yo.f 1) (faS4 _ _)) fun Yp Yq => ?_;clear Yo
 refine Yq.g 11 rfl rfl _ (fun hc => ex_ld rfl (Yq.v 12 hc) (ldE8 (cell8 (HS.cell 4 _ rfl) hv0))) fun Yr Ys => ?_;clear Yq
 refine Ys.g 11 rfl rfl _ (fun hc => ex_lenE8 rfl rfl (Ys.v 13 hc)) fun Yt Yu => ?_;clear Ys
 refine Yu.g 11 rfl rfl _ (fun hc => ex_fa rfl (Yu.f 1) (faS8 _ _)) fun Yv Yw => ?_;clear Yu
 refine Yw.g 11 rfl rfl _ (fun hc => ex_ld rfl (Yw.v 15 hc) (ldK8 (cell8 (HS.cell 8 _ rfl) hv0))) fun Yx Yy => ?_;clear Yw
 refine Yy.g 11 rfl rfl _ (fun hc => ex_lenK8 rfl rfl (Yy.v 16 hc)) fun Yz Y0 => ?_;clear Yy
 refine Y0.g 11 rfl rfl (.int .i64 ((s.L.length : Int) + (s.A.length : Int))) (fun hc => ex_bin rfl (Y0.v 14 hc) (Y0.v 17 hc) (addD8 _ _ (s.L.length : Int) (s.A.length : Int) ((s.L.length : Int) + (s.A.length : Int)) (by rw [IntKind.wrap_i64];omega) _)) fun Y1 Y2 => ?_;clear Y0
 refine Y2.g 11 rfl rfl _ (fun hc => ex_fa rfl (Y2.f 1) (faS9 _ _)) fun Y3 Y4 => ?_;clear Y2
 refine Y4.g 11 rfl rfl _ (fun hc => ex_ld rfl (Y4.v 19 hc) (ldM8 (cell8 (HS.cell 9 _ rfl) hv0))) fun Y5 Y6 => ?_;clear Y4
 refine Y6.g 11 rfl rfl _ (fun hc => ex_lenM8 rfl rfl (Y6.v 20 hc)) fun Y7 Y8 => ?_;clear Y6
 refine Y8.g 11 rfl rfl (.int .i64 (((s.L.length : Int) + (s.A.length : Int)) + (s.M.length : Int))) (fun hc => ex_bin rfl (Y8.v 18 hc) (Y8.v 21 hc) (addD8 _ _ ((s.L.length : Int) + (s.A.length : Int)) (s.M.length : Int) (((s.L.length : Int) + (s.A.length : Int)) + (s.M.length : Int)) (by rw [IntKind.wrap_i64];omega) _)) fun Y9 Yba => ?_;clear Y8
 refine Yba.g 11 rfl rfl _ (fun hc => ex_fa rfl (Yba.f 1) (faS10 _ _)) fun Ybb Ybc => ?_;clear Yba
 refine Ybc.g 11 rfl rfl _ (fun hc => ex_ld rfl (Ybc.v 23 hc) (ldB8 (cell8 (HS.cell 10 _ rfl) hv0))) fun Ybd Ybe => ?_;clear Ybc
 refine Ybe.g 11 rfl rfl _ (fun hc => ex_lenB8 rfl rfl (Ybe.v 24 hc)) fun Ybf Ybg => ?_;clear Ybe
 refine Ybg.g 11 rfl rfl (.int .i64 ((((s.L.length : Int) + (s.A.length : Int)) + (s.M.length : Int)) + (s.B.length : Int))) (fun hc => ex_bin rfl (Ybg.v 22 hc) (Ybg.v 25 hc) (addD8 _ _ (((s.L.length : Int) + (s.A.length : Int)) + (s.M.length : Int)) (s.B.length : Int) ((((s.L.length : Int) + (s.A.length : Int)) + (s.M.length : Int)) + (s.B.length : Int)) (by rw [IntKind.wrap_i64];omega) _)) fun Ybh Ybi => ?_;clear Ybg
 refine Ybi.g 11 rfl rfl (.bool (decide (((((s.L.length : Int) + (s.A.length : Int)) + (s.M.length : Int)) + (s.B.length : Int)) = 0))) (fun hc => ex_bin rfl (Ybi.v 26 hc) rfl (eqlC _ _ _ _ _)) fun Ybj Ybk => ?_;clear Ybi
 refine Ybk.t (.bool (((decide (s.view = 0)) && (decide (s.idle = 0))) && (decide (((((s.L.length : Int) + (s.A.length : Int)) + (s.M.length : Int)) + (s.B.length : Int)) = 0)))) (ex_and rfl (Ybk.a 11 rfl) (Ybk.a 27 rfl) rfl) fun _ Ybl => ?_;clear Ybk
 refine Ybl.t _ (ex_move rfl (Ybl.f 28)) fun _ Ybm => ?_;clear Ybl
 refine Ybm.g 29 rfl rfl _ (fun hc => ex_fa rfl (Ybm.f 1) (faS6 _ _)) fun Ybn Ybo => ?_;clear Ybm
 refine Ybo.g 29 rfl rfl _ (fun hc => ex_ld rfl (Ybo.v 30 hc) (ldV8 (cell8 (HS.cell 6 _ rfl) hv0))) fun Ybp Ybq => ?_;clear Ybo
 refine Ybq.g 29 rfl rfl _ (fun hc => ex_fa rfl (Ybq.f 1) (faS0 _ _)) fun Ybr Ybs => ?_;clear Ybq
 refine Ybs.g 29 rfl rfl _ (fun hc => ex_ld rfl (Ybs.v 32 hc) (ldI8 (cell8 (HS.cell 0 _ rfl) hv0))) fun Ybt Ybu => ?_;clear Ybs
 refine Ybu.g 29 rfl rfl _ (fun hc => ex_ix rfl (Ybu.v 31 hc) (Ybu.v 33 hc) (hQ.1 _)) fun Ybv Ybw => ?_;clear Ybu
 refine Ybw.g 29 rfl rfl _ (fun hc => ex_ld rfl (Ybw.v 34 hc) (hQ.2 _ hv0)) fun Ybx Yby => ?_;clear Ybw
 refine Yby.g 29 rfl rfl (.agg #[.int .u64 0,.int .u64 0]) (fun hc => ex_build rfl (buildDr _)) fun Ybz Yb0 => ?_;clear Yby
 refine Yb0.g 29 rfl rfl (.bool (!decide ((s.V.getD s.self.toNat (0,0)) = (0,0)))) (fun hc => ex_bin rfl (Yb0.v 35 hc) (Yb0.v 36 hc) (neqDr7 _ _ (s.V.getD s.self.toNat (0,0)) (0,0) _)) fun Yb1 Yb2 => ?_;clear Yb0
 refine Yb2.t (.bool ((((decide (s.view = 0)) && (decide (s.idle = 0))) && (decide (((((s.L.length : Int) + (s.A.length : Int)) + (s.M.length : Int)) + (s.B.length : Int)) = 0))) && (!decide ((s.V.getD s.self.toNat (0,0)) = (0,0))))) (ex_and rfl (Yb2.a 29 rfl) (Yb2.a 37 rfl) rfl) fun _ Yb3 => ?_;clear Yb2
 refine Yb3.t _ (ex_assign rfl (Yb3.f 38)) fun _ Yb4 => ?_;clear Yb3
 have hz:=Yb4.z;have s2:=Yb4.a 2 rfl;clear Yb4;refine WE ?_
 go_wp2
 refine bodyPost_ret (results_tmp rfl _ _ _) rfl ⟨?_,hB.trans (hv0.mono (by omega))⟩;rw [getD_of s2]
 rfl
theorem Ak.index_any (p : Ak → Bool) (g : Nat) (lb : Array Value) (eg : ∀ args w,(callFunc g args).run Tryz.prog w = .ok (.enter g args) w) (L : List Ak) (a : Option Addr) (n c : Nat) (w : World) (h : SlY yAkV w a n c L)
  (hp : ∀ (W : World) (x : Ak),Below w.heap.size w W → Calls Tryz.prog g (#[x.val] ++ lb) W fun e w' => e = .returned (.bool (p x))∧Below w.heap.size w w') :
  Calls Tryz.prog 149 #[.slice a n c,.func (.func g) #[] lb] w fun e w' => e = .returned (.int .i64 (ix p L))∧Below w.heap.size w w':=by
 have hmx:=h.max;have hcp:=h.cap;have hln:=h.len
 unfold maxLen at hmx
 have H:=hide h;have HN:=hide hln;have HP:=hide hp;clear h hln hp
 go_enter Tryz.func149,Tryz.ntmps149
 go_wp2
 go_loopw [8] (fun i wr => ∃ j : Nat,i = .int .i64 (j : Int)∧j ≤ n∧Hid (∀ k (hk : k < L.length),k < j → p L[k] = false)∧Below w.heap.size w wr) (fun i _ => n - (intOf i).toNat)
 case atStart => exact ⟨0,rfl,Nat.zero_le _,fun k hk h => absurd h (Nat.not_lt_zero _),BR⟩
 case round =>
  obtain ⟨j,rfl,hj,hA,hbl⟩:=hrel;have hsz:=hbl.size
  by_cases hlt : j < n
  ·have hjl : j < L.length:=by rw [HN.out];exact hlt
   have hg : L[j]? = some L[j]:=List.getElem?_eq_getElem hjl;obtain ⟨q,o,rfl,hq,y0,y1,y2,y3⟩:=(H.out.later hbl).AkV hg;have hcall:=HP.out wr L[j] hbl
   have hH : Hid (p L[j] = true → ix p L = (j : Int)):=fun hp => ix_hit hjl hp (fun k hk => hA.out k (by omega) hk)
   have hS : Hid (p L[j] = false → ∀ k (hk : k < L.length),k < j + 1 → p L[k] = false):=fun hp k hk hkj => by
    by_cases e : k = j
    ·subst e;exact hp
    ·exact hA.out k hk (by omega)
   clear hA hg
   generalize L[j] = x at *
   unfold Ak.val at hcall
   cases hq2 : p x with
   | true =>
    have hx:=hide (hH.out hq2);rw [hq2] at hcall;clear hH hS
    go_wp2_with (go_at_fn g;refine hcall.mono ?_;rintro e w' ⟨rfl,hb'⟩)
    go_ret
    exact ⟨by rw [hx.out];rfl,hb'⟩
   | false =>
    have hx:=hide (hS.out hq2);rw [hq2] at hcall;clear hH hS
    go_wp2_with (go_at_fn g;refine hcall.mono ?_;rintro e w' ⟨rfl,hb'⟩)
    go_round
    case rel => exact ⟨j + 1,by go_num,by omega,hx,hb'⟩
    case measure => simp [intOf];omega
  ·obtain rfl : j = n:=by omega
   have hx : Hid (ix p L = -1):=ix_miss (fun x hx => by
    obtain ⟨k,hk,rfl⟩:=List.mem_iff_getElem.1 hx
    exact hA.out k hk (by rw [← HN.out];exact hk))
   clear hA
   go_wp2
   go_ret
   exact ⟨by rw [hx.out];rfl,hbl⟩
theorem Ak.box (x : Ak) (w v : World) (hv : Below (w.heap.size + 1) (w.alloc (.cells #[.int .i64 x.n,.int .u64 x.h,.int .u64 x.l,.int .i64 x.p] 141)) v) : v.cell? ⟨w.heap.size,0,none⟩ = some (.int .i64 x.n)∧v.cell? ⟨w.heap.size,1,none⟩ = some (.int .u64 x.h)∧v.cell? ⟨w.heap.size,2,none⟩ = some (.int .u64 x.l)∧v.cell? ⟨w.heap.size,3,none⟩ = some (.int .i64 x.p) :=
 ⟨(hv.cell (p:=⟨w.heap.size,0,none⟩) (by simp)).trans (by simp),(hv.cell (p:=⟨w.heap.size,1,none⟩) (by simp)).trans (by simp),(hv.cell (p:=⟨w.heap.size,2,none⟩) (by simp)).trans (by simp),(hv.cell (p:=⟨w.heap.size,3,none⟩) (by simp)).trans (by simp)⟩
theorem Ak.ifdraw (x : Ak) (w : World) : (invoke (.fn (.method "amnesia/tally.draw") #[]) #[.iface 141 x.val]).run Tryz.prog w = .ok (.enter 170 #[x.val]) w := by kernel_rfl
theorem Ak.told_any (x : Ak) (w : World) : Calls Tryz.prog 94 #[x.val] w fun e w' => e = .returned x.val∧Below w.heap.size w w':=by
 show Calls Tryz.prog 94 #[.agg #[.int .i64 x.n,.int .u64 x.h,.int .u64 x.l,.int .i64 x.p]] w _
 go_enter Tryz.func94,Tryz.ntmps94
 go_wp2
 refine bodyPost_ret (v:=x.val) (by simp [results,Tryz.results94,go_sem,Ak.val]) rfl ?_
 exact ⟨rfl,by (repeat (first | exact Below.refl _ _ | assumption | refine Below.drew ?_ | refine Below.alloc ?_ (by first | (simp;done) | (simp;omega) | omega) _ | refine Below.setCell ?_ (by first | (simp;done) | (simp;omega) | omega) _))⟩
theorem Ak.tell_any (L : List Ak) (a : Option Addr) (n c : Nat) (w : World) (h : SlY yAkV w a n c L) (hb : n * 32 ≤ 281474976710656) :
  Calls Tryz.prog 90 #[.slice a n c,.func (.func 94) #[] #[]] w fun e w' => e = .returned (.slice (some ⟨w.heap.size,0,none⟩) n n)∧OwnY yAkA w.heap.size w' (.slice (some ⟨w.heap.size,0,none⟩) n n) L∧Below w.heap.size w w':=by
 have hmx:=h.max;have hcp:=h.cap;have hln:=h.len
 unfold maxLen at hmx
 have H:=hide h;have HN:=hide hln;clear h hln
 go_enter Tryz.func90,Tryz.ntmps90
 go_wp2_with (at_make;go_must (refine makeYs kAkA _ rfl (.tmp 9) rfl n rfl (by unfold maxLen;omega) hb ?zk))
 intro w1 o1 b1
 have HO : Hid (OwnY yAkA w.heap.size w1 (.slice (some ⟨w.heap.size,0,none⟩) n n) (L.take 0 ++ List.replicate (n - 0) yAkA.z)):=by
  show OwnY _ _ _ _ _
  simpa using o1
 clear o1
 go_wp2
 go_loopw [13] (fun i wr => ∃ j : Nat,i = .int .i64 (j : Int)∧j ≤ n∧Hid (OwnY yAkA w.heap.size wr (.slice (some ⟨w.heap.size,0,none⟩) n n) (L.take j ++ List.replicate (n - j) yAkA.z))∧Below w.heap.size w wr) (fun i _ => n - (intOf i).toNat)
 case atStart => exact ⟨0,rfl,Nat.zero_le _,HO,b1⟩
 case round =>
  obtain ⟨j,rfl,hj,hO,hbl⟩:=hrel;have hsz:=hbl.size
  by_cases hlt : j < n
  ·have hjl : j < L.length:=by rw [HN.out];exact hlt
   have hg : L[j]? = some L[j]:=List.getElem?_eq_getElem hjl;obtain ⟨q,o,rfl,hq,y0,y1,y2,y3⟩:=(H.out.later hbl).AkV hg
   have hlt0 : w.heap.size < wr.heap.size:=by
    obtain ⟨_,_,ee,_,_,_,h4⟩:=hO.out.form
    injection ee with ee
    obtain ⟨g',e2,_,h5⟩:=h4 _ ee.symm
    cases e2
    exact h5
   have hset : Hid ((L.take j ++ List.replicate (n - j) yAkA.z).set j L[j] = L.take (j + 1) ++ List.replicate (n - (j + 1)) yAkA.z):=by
    show _ = _
    have hl : (L.take j).length = j:=by rw [List.length_take];omega
    rw [List.set_append_right _ _ (by omega),hl,Nat.sub_self,show n - j = (n - (j + 1)) + 1 by omega,List.replicate_succ,List.set_cons_zero,List.take_add_one,hg];simp only [Option.toList_some,List.append_assoc,List.cons_append,List.nil_append]
   have hget : Hid ((L.take j ++ List.replicate (n - j) yAkA.z)[j]? = some yAkA.z):=by
    show _ = _
    have hl : (L.take j).length = j:=by rw [List.length_take];omega
    rw [List.getElem?_append_right (by omega),hl,Nat.sub_self,show n - j = (n - (j + 1)) + 1 by omega,List.replicate_succ]
    rfl
   clear hg
   generalize L[j] = x at *
   generalize hX : L.take j ++ List.replicate (n - j) yAkA.z = XX at *
   clear hX;have bA:=hide (hbl.trans (((Below.refl _ wr).alloc LR (.cells #[.int .i64 x.n,.int .u64 x.h,.int .u64 x.l,.int .i64 x.p] 141)).mono hsz));have OA:=hide (hO.out.alloc (.cells #[.int .i64 x.n,.int .u64 x.h,.int .u64 x.l,.int .i64 x.p] 141));have ca:=hide (x.told_any (wr.alloc (.cells #[.int .i64 x.n,.int .u64 x.h,.int .u64 x.l,.int .i64 x.p] 141)));clear hO
   go_wp2_with fail
   refine ca.out.mono ?_;rintro e w2 ⟨rfl,b2⟩;have O2:=hide (OA.out.grow b2);have z2:=b2.size;rw [World.size_alloc] at z2
   dsimp only
   go_wp2_with (first
    | (refine storeY kAkA _ rfl 105 (.tmp 23) (.tmp 22) rfl w.heap.size w.heap.size n n XX j 0 yAkA.z x _ rfl rfl hget.out (by kernel_rfl) (by exact (by decide : 4 ≤ 4)) rfl O2.out ?_;intro w3 o3 u3 z3;have O3:=hide o3;clear o3)
    | go_in)
   go_round
   case rel =>
    refine ⟨j + 1,by go_num,by omega,by show OwnY _ _ _ _ _;rw [← hset.out];exact O3.out,bA.out.trans ((b2.mono (by simp;omega)).trans (u3.below (by omega) (fun k e => by subst e;exact LR)))⟩
   case measure => simp [intOf];omega
  ·obtain rfl : j = n:=by omega
   have O9 : Hid (OwnY yAkA w.heap.size wr (.slice (some ⟨w.heap.size,0,none⟩) j j) L):=by
    show OwnY _ _ _ _ _
    have:=hO.out;rw [Nat.sub_self,List.replicate_zero,List.append_nil,List.take_of_length_le (by rw [HN.out];exact LR)] at this
    exact this
   clear hO
   go_wp2
   go_ret
   exact ⟨rfl,O9.out,hbl⟩
end Go.Proofs.YtpcgnjpodnebpaaGreatDoor
