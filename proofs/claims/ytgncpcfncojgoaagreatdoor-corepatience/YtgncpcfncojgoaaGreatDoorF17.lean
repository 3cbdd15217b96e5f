import Derived.Test.YtgncpcfncojgoaaGreatDoorF16
set_option maxRecDepth 100000
set_option linter.unusedVariables false
set_option linter.unusedSimpArgs false
namespace Go.Proofs.YtgncpcfncojgoaaGreatDoor
open Go.RowKit Go.Maps Go.Shelf
open Classical
structure Sta.Alike9 (s t : Sta) : Prop where
 self : t.self = s.self
 st : t.st = s.st
 view : t.view = s.view
 last : t.last = s.last
 commit : t.commit = s.commit
 idle : t.idle = s.idle
 l : t.L = s.L
 v : t.V = s.V
 a : t.A = s.A
 m : t.M = s.M
 b : t.B.length = s.B.length∧∀ (i : Nat) (x y : Bl),s.B[i]? = some x → t.B[i]? = some y → Bl.Like x y
 n : t.N.length = s.N.length∧∀ (i : Nat) (x y : An),s.N[i]? = some x → t.N[i]? = some y → An.Like x y
theorem Sta.Alike9.al {s t : Sta} (h : s.Alike9 t) : t.A.length = s.A.length:=by rw [h.a]
theorem Sta.Alike9.ml {s t : Sta} (h : s.Alike9 t) : t.M.length = s.M.length:=by rw [h.m]
theorem Sta.Alike9.bl {s t : Sta} (h : s.Alike9 t) : t.B.length = s.B.length:=h.b.1
theorem Sta.Alike9.nl {s t : Sta} (h : s.Alike9 t) : t.N.length = s.N.length:=h.n.1
theorem belN9 {B : Nat} {w w' : World} (h : Below B w w') (n : Nat) : Below B w (w'.drewN n):=⟨h.os,h.tape,h.output,h.size,h.block⟩
theorem drew_same9 {f : Nat} {args : Array Value} {w : World} {b : Bool} (h : Calls Tryz.prog f args w fun e w' => e = .returned (.bool b)∧∃ k,w' = w.drewN k) (hb : b = true) : Calls Tryz.prog f args w fun e w' => e = .returned (.bool true)∧Below w.heap.size w w' :=
 h.mono fun e w' ⟨h1,k,h2⟩ => ⟨by rw [h1,hb],by rw [h2];exact belN9 (Below.refl _ _) k⟩
theorem eqlI9 (x y : Operand) (a b : Int) (h : a = b) (w : World) : (do eqGuard .eql 3 x y (.int .i64 a) (.int .i64 b);binOp .eql 3 (.int .i64 a) (.int .i64 b) : Sem Value).run Tryz.prog w = .ok (.bool true) w:=(eqlC x y a b w).trans (by rw [decide_eq_true h])
theorem eqlT9 (x y : Operand) (a b : Int) (h : a = b) (w : World) : (do eqGuard .eql 27 x y (.int .i64 a) (.int .i64 b);binOp .eql 27 (.int .i64 a) (.int .i64 b) : Sem Value).run Tryz.prog w = .ok (.bool true) w:=(eqlT8 x y a b w).trans (by rw [decide_eq_true h])
theorem want_t9 {ops : Array Oper} {T : Array Value} {o : Oper} {k j : Nat} (hg : o.guard = some (k,true)) (hk : (ops[k]?).bind (·.dst) = some j) (hs : T[j]? = some (gw true (.bool true))) : Region.wanted o (yielded ops T) = true:=want_g hg hk hs
theorem ex_andT9 {o : Oper} {T : Array Value} {df : List Deferred} {j x : Nat} {w : World} (ho : o.op = .pick (.tmp j) (.tmp x) (.const (.bool false))) (hj : T[j]? = some (gw true (.bool true))) (hy : T[x]? = some (gw true (.bool true))) : (execOp (⟨T,df⟩ : Act).eval o).run Tryz.prog w = .ok (.value (.bool true)) w:=ex_and (c:=true) (b:=true) (z:=true) ho hj hy rfl
set_option maxHeartbeats 1000000 in
theorem sameacks9_any (L : List Ak) (a b : Option Addr) (n c c2 : Nat) (w : World) (hL : SlY yAkA w a n c L) (hR : SlY yAkA w b n c2 L) :
  Calls Tryz.prog 60 #[.slice a n c,.slice b n c2] w fun e w' => e = .returned (.bool true)∧∃ k,w' = w.drewN k:=by
 have m1:=hL.max;have m2:=hR.max;have p1:=hL.cap;have p2:=hR.cap
 unfold maxLen at m1 m2
 have HL:=hide hL;have HR:=hide hR;have N1:=hide hL.len;clear hL hR
 go_enter Tryz.func60,Tryz.ntmps60
 go_wp2
 go_loopw [5] (fun i wr => ∃ (j d : Nat),i = .int .i64 (j : Int)∧j ≤ n∧wr = w.drewN d) (fun i _ => n - (intOf i).toNat)
 case atStart => exact ⟨0,0,rfl,Nat.zero_le _,rfl⟩
 case round =>
  obtain ⟨j,d,rfl,hj,rfl⟩:=hrel
  by_cases hlt : j < n
  ·have h1 : j < L.length:=by rw [N1.out];exact hlt
   have g1 : L[j]? = some L[j]:=List.getElem?_eq_getElem h1;obtain ⟨q,o,rfl,hq,a0,a1,a2,a3⟩:=HL.out.AkA g1;obtain ⟨q2,o2,rfl,hq2,b0,b1,b2,b3⟩:=HR.out.AkA g1;clear g1
   generalize L[j] = x at *
   have KC : Hid (∀ v,(∃ k,v = w.drewN k) → (v.cell? ⟨q,o + j * 4,none⟩ = some (.int .i64 x.n)∧v.cell? ⟨q,o + j * 4 + 1,none⟩ = some (.int .u64 x.h)∧v.cell? ⟨q,o + j * 4 + 2,none⟩ = some (.int .u64 x.l)∧v.cell? ⟨q,o + j * 4 + 3,none⟩ = some (.int .i64 x.p))∧(v.cell? ⟨q2,o2 + j * 4,none⟩ = some (.int .i64 x.n)∧v.cell? ⟨q2,o2 + j * 4 + 1,none⟩ = some (.int .u64 x.h)∧v.cell? ⟨q2,o2 + j * 4 + 2,none⟩ = some (.int .u64 x.l)∧v.cell? ⟨q2,o2 + j * 4 + 3,none⟩ = some (.int .i64 x.p))):=fun v hv => by
    obtain ⟨k,rfl⟩:=hv
    exact ⟨⟨a0,a1,a2,a3⟩,⟨b0,b1,b2,b3⟩⟩
   clear a0 a1 a2 a3 b0 b1 b2 b3
   go_wp2_with fail
   refine region_q9 (C:=fun v => ∃ k,v = w.drewN k) (by kernel_rfl) (by kernel_rfl) ⟨d + 1,rfl⟩ ?_;refine wqv (u:=.slice (some ⟨q,o,none⟩) n c) (by kernel_rfl) (fun v hv => by kernel_rfl) ?_;simp only [pu,pn,pv,pw,px];refine wqv (u:=.int .i64 (j : Int)) (by kernel_rfl) (fun v hv => by kernel_rfl) ?_;simp only [pu,pn,pv,pw,px];refine wqv (u:=.pointer (some ⟨q,o + j * 4,none⟩)) (by kernel_rfl) (fun v hv => by go_simp) ?_;simp only [pu,pn,pv,pw,px];refine wqv (u:=x.val) (by kernel_rfl) (fun v hv => by obtain ⟨⟨y0,y1,y2,y3⟩,_⟩:=KC.out v hv;go_simp;rfl) ?_;simp only [pu,pn,pv,pw,px];refine wqv (u:=.slice (some ⟨q2,o2,none⟩) n c2) (by kernel_rfl) (fun v hv => by kernel_rfl) ?_;simp only [pu,pn,pv,pw,px];refine wqv (u:=.int .i64 (j : Int)) (by kernel_rfl) (fun v hv => by kernel_rfl) ?_;simp only [pu,pn,pv,pw,px];refine wqv (u:=.pointer (some ⟨q2,o2 + j * 4,none⟩)) (by kernel_rfl) (fun v hv => by go_simp) ?_;simp only [pu,pn,pv,pw,px];refine wqv (u:=x.val) (by kernel_rfl) (fun v hv => by obtain ⟨_,⟨y0,y1,y2,y3⟩⟩:=KC.out v hv;go_simp;rfl) ?_;simp only [pu,pn,pv,pw,px];refine wqv (u:=.bool false) (by kernel_rfl) (fun v hv => by unfold Ak.val;go_simp) ?_;simp only [pu,pn,pv,pw,px];refine wqnil (fun v hv => ?_);obtain ⟨k,rfl⟩:=hv
   go_wp2
   go_round
   case rel => exact ⟨j + 1,k,by go_num,by omega,rfl⟩
   case measure => simp [intOf];omega
  ·obtain rfl : j = n:=by omega
   go_wp2
   go_ret
   exact ⟨rfl,d,rfl⟩
set_option maxHeartbeats 1000000 in
theorem samemarks9_any (L : List Mk) (a b : Option Addr) (n c c2 : Nat) (w : World) (hL : SlY yMkA w a n c L) (hR : SlY yMkA w b n c2 L) :
  Calls Tryz.prog 61 #[.slice a n c,.slice b n c2] w fun e w' => e = .returned (.bool true)∧∃ k,w' = w.drewN k:=by
 have m1:=hL.max;have m2:=hR.max;have p1:=hL.cap;have p2:=hR.cap
 unfold maxLen at m1 m2
 have HL:=hide hL;have HR:=hide hR;have N1:=hide hL.len;clear hL hR
 go_enter Tryz.func61,Tryz.ntmps61
 go_wp2
 go_loopw [5] (fun i wr => ∃ (j d : Nat),i = .int .i64 (j : Int)∧j ≤ n∧wr = w.drewN d) (fun i _ => n - (intOf i).toNat)
 case atStart => exact ⟨0,0,rfl,Nat.zero_le _,rfl⟩
 case round =>
  obtain ⟨j,d,rfl,hj,rfl⟩:=hrel
  by_cases hlt : j < n
  ·have h1 : j < L.length:=by rw [N1.out];exact hlt
   have g1 : L[j]? = some L[j]:=List.getElem?_eq_getElem h1;obtain ⟨q,o,rfl,hq,a0,a1,a2⟩:=HL.out.MkA g1;obtain ⟨q2,o2,rfl,hq2,b0,b1,b2⟩:=HR.out.MkA g1;clear g1
   generalize L[j] = x at *
   have KC : Hid (∀ v,(∃ k,v = w.drewN k) → (v.cell? ⟨q,o + j * 3,none⟩ = some (.int .i64 x.n)∧v.cell? ⟨q,o + j * 3 + 1,none⟩ = some (.int .u64 x.h)∧v.cell? ⟨q,o + j * 3 + 2,none⟩ = some (.int .u64 x.l))∧(v.cell? ⟨q2,o2 + j * 3,none⟩ = some (.int .i64 x.n)∧v.cell? ⟨q2,o2 + j * 3 + 1,none⟩ = some (.int .u64 x.h)∧v.cell? ⟨q2,o2 + j * 3 + 2,none⟩ = some (.int .u64 x.l))):=fun v hv => by
    obtain ⟨k,rfl⟩:=hv
    exact ⟨⟨a0,a1,a2⟩,⟨b0,b1,b2⟩⟩
   clear a0 a1 a2 b0 b1 b2
   go_wp2_with fail
   refine region_q9 (C:=fun v => ∃ k,v = w.drewN k) (by kernel_rfl) (by kernel_rfl) ⟨d + 1,rfl⟩ ?_;refine wqv (u:=.slice (some ⟨q,o,none⟩) n c) (by kernel_rfl) (fun v hv => by kernel_rfl) ?_;simp only [pu,pn,pv,pw,px];refine wqv (u:=.int .i64 (j : Int)) (by kernel_rfl) (fun v hv => by kernel_rfl) ?_;simp only [pu,pn,pv,pw,px];refine wqv (u:=.pointer (some ⟨q,o + j * 3,none⟩)) (by kernel_rfl) (fun v hv => by go_simp) ?_;simp only [pu,pn,pv,pw,px];refine wqv (u:=x.val) (by kernel_rfl) (fun v hv => by obtain ⟨⟨y0,y1,y2⟩,_⟩:=KC.out v hv;go_simp;rfl) ?_;simp only [pu,pn,pv,pw,px];refine wqv (u:=.slice (some ⟨q2,o2,none⟩) n c2) (by kernel_rfl) (fun v hv => by kernel_rfl) ?_;simp only [pu,pn,pv,pw,px];refine wqv (u:=.int .i64 (j : Int)) (by kernel_rfl) (fun v hv => by kernel_rfl) ?_;simp only [pu,pn,pv,pw,px];refine wqv (u:=.pointer (some ⟨q2,o2 + j * 3,none⟩)) (by kernel_rfl) (fun v hv => by go_simp) ?_;simp only [pu,pn,pv,pw,px];refine wqv (u:=x.val) (by kernel_rfl) (fun v hv => by obtain ⟨_,⟨y0,y1,y2⟩⟩:=KC.out v hv;go_simp;rfl) ?_;simp only [pu,pn,pv,pw,px];refine wqv (u:=.bool false) (by kernel_rfl) (fun v hv => by unfold Mk.val;go_simp) ?_;simp only [pu,pn,pv,pw,px];refine wqnil (fun v hv => ?_);obtain ⟨k,rfl⟩:=hv
   go_wp2
   go_round
   case rel => exact ⟨j + 1,k,by go_num,by omega,rfl⟩
   case measure => simp [intOf];omega
  ·obtain rfl : j = n:=by omega
   go_wp2
   go_ret
   exact ⟨rfl,d,rfl⟩
set_option maxHeartbeats 1000000 in
theorem samestate9 (s t : Sta) (w : World) (hI : s.In w) (hJ : t.In w) (hL : s.Alike9 t) : Calls Tryz.prog 24 #[s.val,t.val] w fun e w' => e = .returned (.bool true)∧Below w.heap.size w w':=by
 go_enter Tryz.func24,Tryz.ntmps24
 go_upto_region 0 with fail
 refine wp_region_lit ?_;refine vl_gen (fun T => T.size = 87∧T[0]? = some (gw true (s.val))∧T[1]? = some (gw true (t.val))) ⟨rfl,rfl,rfl⟩ (fun Z0 ⟨hz,s0,s1⟩ => ?_)
 obtain ⟨w1,hw1⟩ : ∃ y,y = w.alloc (.cells s.cs.toArray 36):=⟨_,rfl⟩
 have hb : Below w.heap.size w w1:=by rw [hw1];exact (Below.refl _ _).alloc (Nat.le_refl _) _
 have hs1 : w1.heap.size = w.heap.size + 1:=by rw [hw1];simp
 have HS : SB7 w1 (w.heap.size) s:=by rw [hw1];exact BX7.new _ _ _
 refine vw (.pointer (some ⟨w.heap.size,0,none⟩)) w1 (want_none rfl) (ex_box8 rfl (ev s0 rfl) (by rw [hw1];exact bxS7 _ _)) rfl hz (by decide) (fun Z1 zz kk s2x => ?_);replace s1:=ku s1;clear kk hz s0 hw1;have hz:=zz;have s2:=s2x;clear zz s2x;have hB:=hb;clear hb
 obtain ⟨w2,hw2⟩ : ∃ y,y = w1.alloc (.cells t.cs.toArray 36):=⟨_,rfl⟩
 have hb : Below w1.heap.size w1 w2:=by rw [hw2];exact (Below.refl _ _).alloc (Nat.le_refl _) _
 have hs2 : w2.heap.size = w.heap.size + 2:=by rw [hw2];simp;omega
 have HT : SB7 w2 (w.heap.size + 1) t:=by rw [hw2,← hs1];exact BX7.new _ _ _
 refine vw (.pointer (some ⟨w.heap.size + 1,0,none⟩)) w2 (want_none rfl) (ex_box8 rfl (ev s1 rfl) (by rw [hw2,← hs1];exact bxS7 _ _)) rfl hz (by decide) (fun Z2 zz kk s3x => ?_);replace s2:=ku s2;clear kk hz s1 hw2;have hz:=zz;have s3:=s3x;clear zz s3x;have hB:=hB.trans (hb.mono (by omega));have HS:=HS.bel hb;clear hb;have hv0 : Below w2.heap.size w2 w2:=Below.refl _ _;have HI:=hI.later hB;have HJ:=hJ.later hB;refine vt (.bool false) (ex_assign rfl rfl) hz (fun Ya zz kk s4 => ?_);replace s2:=ku s2;replace s3:=ku s3;replace hz:=zz;clear kk zz;refine wpList_nil ?_
 go_upto_region 1 with fail
 refine wp_region_lit ?_;refine vt (.pointer (some ⟨w.heap.size,0,none⟩)) (ex_fa rfl (ev s2 rfl) (faS0 _ _)) hz (fun Yb zz kk s5 => ?_);replace s2:=ku s2;replace s3:=ku s3;replace s4:=ku s4;replace hz:=zz;clear kk zz;refine vt (.int .i64 s.self) (ex_ld rfl (ev s5 rfl) (ldI8 (cell8 (HS.cell 0 _ rfl) hv0))) hz (fun Yc zz kk s6 => ?_);replace s2:=ku s2;replace s3:=ku s3;replace s4:=ku s4;replace hz:=zz;clear kk zz s5 Yb;refine vt (.pointer (some ⟨w.heap.size + 1,0,none⟩)) (ex_fa rfl (ev s3 rfl) (faS0 _ _)) hz (fun Yd zz kk s7 => ?_);replace s2:=ku s2;replace s3:=ku s3;replace s4:=ku s4;replace s6:=ku s6;replace hz:=zz;clear kk zz Yc;refine vt (.int .i64 t.self) (ex_ld rfl (ev s7 rfl) (ldI8 (cell8 (HT.cell 0 _ rfl) hv0))) hz (fun Ye zz kk s8 => ?_);replace s2:=ku s2;replace s3:=ku s3;replace s4:=ku s4;replace s6:=ku s6;replace hz:=zz;clear kk zz s7 Yd;refine vt (.bool true) (ex_bin rfl (ev s6 rfl) (ev s8 rfl) (eqlI9 _ _ _ _ hL.self.symm _)) hz (fun Yf zz kk s9 => ?_);replace s2:=ku s2;replace s3:=ku s3;replace s4:=ku s4;replace hz:=zz;clear kk zz s6 s8 Ye;refine vt _ (ex_move rfl (ev s9 rfl)) hz (fun Yg zz kk s10 => ?_);replace s2:=ku s2;replace s3:=ku s3;replace s4:=ku s4;replace hz:=zz;clear kk zz s9 Yf;refine vl true (.pointer (some ⟨w.heap.size,1,none⟩)) (want_t9 rfl rfl s10) (fun hc => ex_fa rfl (ev s2 rfl) (faS1 _ _)) rfl hz (by decide) (fun Yh zz kk s11 => ?_);replace s2:=ku s2;replace s3:=ku s3;replace s4:=ku s4;replace s10:=ku s10;replace hz:=zz;clear kk zz Yg;refine vl true (.int .i64 s.st) (want_t9 rfl rfl s10) (fun hc => ex_ld rfl (ev s11 rfl) (ldT8 (cell8 (HS.cell 1 _ rfl) hv0))) rfl hz (by decide) (fun Yi zz kk s12 => ?_);replace s2:=ku s2;replace s3:=ku s3;replace s4:=ku s4;replace s10:=ku s10;replace hz:=zz;clear kk zz s11 Yh;refine vl true (.pointer (some ⟨w.heap.size + 1,1,none⟩)) (want_t9 rfl rfl s10) (fun hc => ex_fa rfl (ev s3 rfl) (faS1 _ _)) rfl hz (by decide) (fun Yj zz kk s13 => ?_);replace s2:=ku s2;replace s3:=ku s3;replace s4:=ku s4;replace s10:=ku s10;replace s12:=ku s12;replace hz:=zz;clear kk zz Yi;refine vl true (.int .i64 t.st) (want_t9 rfl rfl s10) (fun hc => ex_ld rfl (ev s13 rfl) (ldT8 (cell8 (HT.cell 1 _ rfl) hv0))) rfl hz (by decide) (fun Yk zz kk s14 => ?_);replace s2:=ku s2;replace s3:=ku s3;replace s4:=ku s4;replace s10:=ku s10;replace s12:=ku s12;replace hz:=zz;clear kk zz s13 Yj;refine vl true (.bool true) (want_t9 rfl rfl s10) (fun hc => ex_bin rfl (ev s12 rfl) (ev s14 rfl) (eqlT9 _ _ _ _ hL.st.symm _)) rfl hz (by decide) (fun Yl zz kk s15 => ?_);replace s2:=ku s2;replace s3:=ku s3;replace s4:=ku s4;replace s10:=ku s10;replace hz:=zz;clear kk zz s12 s14 Yk;refine vt (.bool true) (ex_andT9 rfl s10 s15) hz (fun Ym zz kk s16 => ?_);replace s2:=ku s2;replace s3:=ku s3;replace s4:=ku s4;replace hz:=zz;clear kk zz s10 s15 Yl;refine vt _ (ex_move rfl (ev s16 rfl)) hz (fun Yn zz kk s17 => ?_);replace s2:=ku s2;replace s3:=ku s3;replace s4:=ku s4;replace hz:=zz;clear kk zz s16 Ym;refine vl true (.pointer (some ⟨w.heap.size,2,none⟩)) (want_t9 rfl rfl s17) (fun hc => ex_fa rfl (ev s2 rfl) (faS2 _ _)) rfl hz (by decide) (fun Yo zz kk s18 => ?_);replace s2:=ku s2;replace s3:=ku s3;replace s4:=ku s4;replace s17:=ku s17;replace hz:=zz;clear kk zz Yn;refine vl true (.int .i64 s.view) (want_t9 rfl rfl s17) (fun hc => ex_ld rfl (ev s18 rfl) (ldI8 (cell8 (HS.cell 2 _ rfl) hv0))) rfl hz (by decide) (fun Yp zz kk s19 => ?_);replace s2:=ku s2;replace s3:=ku s3;replace s4:=ku s4;replace s17:=ku s17;replace hz:=zz;clear kk zz s18 Yo;refine vl true (.pointer (some ⟨w.heap.size + 1,2,none⟩)) (want_t9 rfl rfl s17) (fun hc => ex_fa rfl (ev s3 rfl) (faS2 _ _)) rfl hz (by decide) (fun Yq zz kk s20 => ?_);replace s2:=ku s2;replace s3:=ku s3;replace s4:=ku s4;replace s17:=ku s17;replace s19:=ku s19;replace hz:=zz;clear kk zz Yp;refine vl true (.int .i64 t.view) (want_t9 rfl rfl s17) (fun hc => ex_ld rfl (ev s20 rfl) (ldI8 (cell8 (HT.cell 2 _ rfl) hv0))) rfl hz (by decide) (fun Yr zz kk s21 => ?_);replace s2:=ku s2;replace s3:=ku s3;replace s4:=ku s4;replace s17:=ku s17;replace s19:=ku s19;replace hz:=zz;clear kk zz s20 Yq;refine vl true (.bool true) (want_t9 rfl rfl s17) (fun hc => ex_bin rfl (ev s19 rfl) (ev s21 rfl) (eqlI9 _ _ _ _ hL.view.symm _)) rfl hz (by decide) (fun Ys zz kk s22 => ?_);replace s2:=ku s2;replace s3:=ku s3;replace s4:=ku s4;replace s17:=ku s17;replace hz:=zz;clear kk zz s19 s21 Yr;refine vt (.bool true) (ex_andT9 rfl s17 s22) hz (fun Yt zz kk s23 => ?_);replace s2:=ku s2;replace s3:=ku s3;replace s4:=ku s4;replace hz:=zz;clear kk zz s17 s22 Ys;refine vt _ (ex_move rfl (ev s23 rfl)) hz (fun Yu zz kk s24 => ?_);replace s2:=ku s2;replace s3:=ku s3;replace s4:=ku s4;replace hz:=zz;clear kk zz s23 Yt;refine vl true (.pointer (some ⟨w.heap.size,3,none⟩)) (want_t9 rfl rfl s24) (fun hc => ex_fa rfl (ev s2 rfl) (faS3 _ _)) rfl hz (by decide) (fun Yv zz kk s25 => ?_);replace s2:=ku s2;replace s3:=ku s3;replace s4:=ku s4;replace s24:=ku s24;replace hz:=zz;clear kk zz Yu;refine vl true (.int .i64 s.last) (want_t9 rfl rfl s24) (fun hc => ex_ld rfl (ev s25 rfl) (ldI8 (cell8 (HS.cell 3 _ rfl) hv0))) rfl hz (by decide) (fun Yw zz kk s26 => ?_);replace s2:=ku s2;replace s3:=ku s3;replace s4:=ku s4;replace s24:=ku s24;replace hz:=zz;clear kk zz s25 Yv;refine vl true (.pointer (some ⟨w.heap.size + 1,3,none⟩)) (want_t9 rfl rfl s24) (fun hc => ex_fa rfl (ev s3 rfl) (faS3 _ _)) rfl hz (by decide) (fun Yx zz kk s27 => ?_);replace s2:=ku s2;replace s3:=ku s3;replace s4:=ku s4;replace s24:=ku s24;replace s26:=ku s26;replace hz:=zz;clear kk zz Yw;refine vl true (.int .i64 t.last) (want_t9 rfl rfl s24) (fun hc => ex_ld rfl (ev s27 rfl) (ldI8 (cell8 (HT.cell 3 _ rfl) hv0))) rfl hz (by decide) (fun Yy zz kk s28 => ?_);replace s2:=ku s2;replace s3:=ku s3;replace s4:=ku s4;replace s24:=ku s24;replace s26:=ku s26;replace hz:=zz;clear kk zz s27 Yx;refine vl true (.bool true) (want_t9 rfl rfl s24) (fun hc => ex_bin rfl (ev s26 rfl) (ev s28 rfl) (eqlI9 _ _ _ _ hL.last.symm _)) rfl hz (by decide) (fun Yz zz kk s29 => ?_);replace s2:=ku s2;replace s3:=ku s3;replace s4:=ku s4;replace s24:=ku s24;replace hz:=zz;clear kk zz s26 s28 Yy;refine vt (.bool true) (ex_andT9 rfl s24 s29) hz (fun Y0 zz kk s30 => ?_);replace s2:=ku s2;replace s3:=ku s3;replace s4:=ku s4;replace hz:=zz;clear kk zz s24 s29 Yz;refine vt _ (ex_move rfl (ev s30 rfl)) hz (fun Y1 zz kk s31 => ?_);replace s2:=ku s2;replace s3:=ku s3;replace s4:=ku s4;replace hz:=zz;clear kk zz s30 Y0;refine vl true (.pointer (some ⟨w.heap.size,5,none⟩)) (want_t9 rfl rfl s31) (fun hc => ex_fa rfl (ev s2 rfl) (faS5 _ _)) rfl hz (by decide) (fun Y2 zz kk s32 => ?_);replace s2:=ku s2;replace s3:=ku s3;replace s4:=ku s4;replace s31:=ku s31;replace hz:=zz;clear kk zz Y1;refine vl true (.int .i64 s.commit) (want_t9 rfl rfl s31) (fun hc => ex_ld rfl (ev s32 rfl) (ldI8 (cell8 (HS.cell 5 _ rfl) hv0))) rfl hz (by decide) (fun Y3 zz kk s33 => ?_);replace s2:=ku s2;replace s3:=ku s3;replace s4:=ku s4;replace s31:=ku s31;replace hz:=zz;clear kk zz s32 Y2;refine vl true (.pointer (some ⟨w.heap.size + 1,5,none⟩)) (want_t9 rfl rfl s31) (fun hc => ex_fa rfl (ev s3 rfl) (faS5 _ _)) rfl hz (by decide) (fun Y4 zz kk s34 => ?_);replace s2:=ku s2;replace s3:=ku s3;replace s4:=ku s4;replace s31:=ku s31;replace s33:=ku s33;replace hz:=zz;clear kk zz Y3;refine vl true (.int .i64 t.commit) (want_t9 rfl rfl s31) (fun hc => ex_ld rfl (ev s34 rfl) (ldI8 (cell8 (HT.cell 5 _ rfl) hv0))) rfl hz (by decide) (fun Y5 zz kk s35 => ?_);replace s2:=ku s2;replace s3:=ku s3;replace s4:=ku s4;replace s31:=ku s31;replace s33:=ku s33;replace hz:=zz;clear kk zz s34 Y4;refine vl true (.bool true) (want_t9 rfl rfl s31) (fun hc => ex_bin rfl (ev s33 rfl) (ev s35 rfl) (eqlI9 _ _ _ _ hL.commit.symm _)) rfl hz (by decide) (fun Y6 zz kk s36 => ?_);replace s2:=ku s2;replace s3:=ku s3;replace s4:=ku s4;replace s31:=ku s31;replace hz:=zz;clear kk zz s33 s35 Y5;refine vt (.bool true) (ex_andT9 rfl s31 s36) hz (fun Y7 zz kk s37 => ?_);replace s2:=ku s2;replace s3:=ku s3;replace s4:=ku s4;replace hz:=zz;clear kk zz s31 s36 Y6;refine vt _ (ex_move rfl (ev s37 rfl)) hz (fun Y8 zz kk s38 => ?_);replace s2:=ku s2;replace s3:=ku s3;replace s4:=ku s4;replace hz:=zz;clear kk zz s37 Y7;refine vl true (.pointer (some ⟨w.heap.size,7,none⟩)) (want_t9 rfl rfl s38) (fun hc => ex_fa rfl (ev s2 rfl) (faS7 _ _)) rfl hz (by decide) (fun Y9 zz kk s39 => ?_);replace s2:=ku s2;replace s3:=ku s3;replace s4:=ku s4;replace s38:=ku s38;replace hz:=zz;clear kk zz Y8;refine vl true (.int .i64 s.idle) (want_t9 rfl rfl s38) (fun hc => ex_ld rfl (ev s39 rfl) (ldI8 (cell8 (HS.cell 7 _ rfl) hv0))) rfl hz (by decide) (fun Yba zz kk s40 => ?_);replace s2:=ku s2;replace s3:=ku s3;replace s4:=ku s4;replace s38:=ku s38;replace hz:=zz;clear kk zz s39 Y9;refine vl true (.pointer (some ⟨w.heap.size + 1,7,none⟩)) (want_t9 rfl rfl s38) (fun hc => ex_fa rfl (ev s3 rfl) (faS7 _ _)) rfl hz (by decide) (fun Ybb zz kk s41 => ?_);replace s2:=ku s2;replace s3:=ku s3;replace s4:=ku s4;replace s38:=ku s38;replace s40:=ku s40;replace hz:=zz;clear kk zz Yba;refine vl true (.int .i64 t.idle) (want_t9 rfl rfl s38) (fun hc => ex_ld rfl (ev s41 rfl) (ldI8 (cell8 (HT.cell 7 _ rfl) hv0))) rfl hz (by decide) (fun Ybc zz kk s42 => ?_);replace s2:=ku s2;replace s3:=ku s3;replace s4:=ku s4;replace s38:=ku s38;replace s40:=ku s40;replace hz:=zz;clear kk zz s41 Ybb;refine vl true (.bool true) (want_t9 rfl rfl s38) (fun hc => ex_bin rfl (ev s40 rfl) (ev s42 rfl) (eqlI9 _ _ _ _ hL.idle.symm _)) rfl hz (by decide) (fun Ybd zz kk s43 => ?_);replace s2:=ku s2;replace s3:=ku s3;replace s4:=ku s4;replace s38:=ku s38;replace hz:=zz;clear kk zz s40 s42 Ybc;refine vt (.bool true) (ex_andT9 rfl s38 s43) hz (fun Ybe zz kk s44 => ?_);replace s2:=ku s2;replace s3:=ku s3;replace s4:=ku s4;replace hz:=zz;clear kk zz s38 s43 Ybd;refine vt _ (ex_move rfl (ev s44 rfl)) hz (fun Ybf zz kk s45 => ?_);replace s2:=ku s2;replace s3:=ku s3;replace s4:=ku s4;replace hz:=zz;clear kk zz s44 Ybe;refine vl true (.pointer (some ⟨w.heap.size,4,none⟩)) (want_t9 rfl rfl s45) (fun hc => ex_fa rfl (ev s2 rfl) (faS4 _ _)) rfl hz (by decide) (fun Ybg zz kk s46 => ?_);replace s2:=ku s2;replace s3:=ku s3;replace s4:=ku s4;replace s45:=ku s45;replace hz:=zz;clear kk zz Ybf;refine vl true (.slice s.la s.L.length s.lc) (want_t9 rfl rfl s45) (fun hc => ex_ld rfl (ev s46 rfl) (ldE8 (cell8 (HS.cell 4 _ rfl) hv0))) rfl hz (by decide) (fun Ybh zz kk s47 => ?_);replace s2:=ku s2;replace s3:=ku s3;replace s4:=ku s4;replace s45:=ku s45;replace hz:=zz;clear kk zz s46 Ybg;refine vl true (.pointer (some ⟨w.heap.size + 1,4,none⟩)) (want_t9 rfl rfl s45) (fun hc => ex_fa rfl (ev s3 rfl) (faS4 _ _)) rfl hz (by decide) (fun Ybi zz kk s48 => ?_);replace s2:=ku s2;replace s3:=ku s3;replace s4:=ku s4;replace s45:=ku s45;replace s47:=ku s47;replace hz:=zz;clear kk zz Ybh;refine vl true (.slice t.la t.L.length t.lc) (want_t9 rfl rfl s45) (fun hc => ex_ld rfl (ev s48 rfl) (ldE8 (cell8 (HT.cell 4 _ rfl) hv0))) rfl hz (by decide) (fun Ybj zz kk s49 => ?_);replace s2:=ku s2;replace s3:=ku s3;replace s4:=ku s4;replace s45:=ku s45;replace s47:=ku s47;replace hz:=zz;clear kk zz s48 Ybi;refine vcall true (.bool true) (want_t9 rfl rfl s45) (fun hc => ex_call rfl (by simp only [List.map_toArray,List.map_cons,List.map_nil,(ev s47 rfl),(ev s49 rfl),evc] <;> rfl) rfl) (fun hc => drew_same9 (sameentsB s.L t.L _ _ _ _ _ _ w2 (HI.later hv0).l (HJ.later hv0).l) (decide_eq_true hL.l.symm)) rfl hz (by decide) (fun Ybk x1 hb zz kk s50 => ?_);have hx1:=hv0.trans (hb.mono hv0.size);clear hb;replace s2:=ku s2;replace s3:=ku s3;replace s4:=ku s4;replace s45:=ku s45;replace hz:=zz;clear kk zz s47 s49 Ybj;refine vt (.bool true) (ex_andT9 rfl s45 s50) hz (fun Ybl zz kk s51 => ?_);replace s2:=ku s2;replace s3:=ku s3;replace s4:=ku s4;replace hz:=zz;clear kk zz s45 s50 Ybk;refine vt _ (ex_move rfl (ev s51 rfl)) hz (fun Ybm zz kk s52 => ?_);replace s2:=ku s2;replace s3:=ku s3;replace s4:=ku s4;replace hz:=zz;clear kk zz s51 Ybl;refine vl true (.pointer (some ⟨w.heap.size,6,none⟩)) (want_t9 rfl rfl s52) (fun hc => ex_fa rfl (ev s2 rfl) (faS6 _ _)) rfl hz (by decide) (fun Ybn zz kk s53 => ?_);replace s2:=ku s2;replace s3:=ku s3;replace s4:=ku s4;replace s52:=ku s52;replace hz:=zz;clear kk zz Ybm;refine vl true (.slice s.va s.V.length s.vc) (want_t9 rfl rfl s52) (fun hc => ex_ld rfl (ev s53 rfl) (ldV8 (cell8 (HS.cell 6 _ rfl) hx1))) rfl hz (by decide) (fun Ybo zz kk s54 => ?_);replace s2:=ku s2;replace s3:=ku s3;replace s4:=ku s4;replace s52:=ku s52;replace hz:=zz;clear kk zz s53 Ybn;refine vl true (.pointer (some ⟨w.heap.size + 1,6,none⟩)) (want_t9 rfl rfl s52) (fun hc => ex_fa rfl (ev s3 rfl) (faS6 _ _)) rfl hz (by decide) (fun Ybp zz kk s55 => ?_);replace s2:=ku s2;replace s3:=ku s3;replace s4:=ku s4;replace s52:=ku s52;replace s54:=ku s54;replace hz:=zz;clear kk zz Ybo;refine vl true (.slice t.va t.V.length t.vc) (want_t9 rfl rfl s52) (fun hc => ex_ld rfl (ev s55 rfl) (ldV8 (cell8 (HT.cell 6 _ rfl) hx1))) rfl hz (by decide) (fun Ybq zz kk s56 => ?_);replace s2:=ku s2;replace s3:=ku s3;replace s4:=ku s4;replace s52:=ku s52;replace s54:=ku s54;replace hz:=zz;clear kk zz s55 Ybp;refine vcall true (.bool true) (want_t9 rfl rfl s52) (fun hc => ex_call rfl (by simp only [List.map_toArray,List.map_cons,List.map_nil,(ev s54 rfl),(ev s56 rfl),evc] <;> rfl) rfl) (fun hc => drew_same9 (samevecB s.V t.V _ _ _ _ _ _ x1 (HI.later hx1).v (HJ.later hx1).v) (decide_eq_true hL.v.symm)) rfl hz (by decide) (fun Ybr x2 hb zz kk s57 => ?_);have hx2:=hx1.trans (hb.mono hx1.size);clear hb;replace s2:=ku s2;replace s3:=ku s3;replace s4:=ku s4;replace s52:=ku s52;replace hz:=zz;clear kk zz s54 s56 Ybq;refine vt (.bool true) (ex_andT9 rfl s52 s57) hz (fun Ybs zz kk s58 => ?_);replace s2:=ku s2;replace s3:=ku s3;replace s4:=ku s4;replace hz:=zz;clear kk zz s52 s57 Ybr;refine vt _ (ex_move rfl (ev s58 rfl)) hz (fun Ybt zz kk s59 => ?_);replace s2:=ku s2;replace s3:=ku s3;replace s4:=ku s4;replace hz:=zz;clear kk zz s58 Ybs;refine vl true (.pointer (some ⟨w.heap.size,8,none⟩)) (want_t9 rfl rfl s59) (fun hc => ex_fa rfl (ev s2 rfl) (faS8 _ _)) rfl hz (by decide) (fun Ybu zz kk s60 => ?_);replace s2:=ku s2;replace s3:=ku s3;replace s4:=ku s4;replace s59:=ku s59;replace hz:=zz;clear kk zz Ybt;refine vl true (.slice s.ka s.A.length s.kc) (want_t9 rfl rfl s59) (fun hc => ex_ld rfl (ev s60 rfl) (ldK8 (cell8 (HS.cell 8 _ rfl) hx2))) rfl hz (by decide) (fun Ybv zz kk s61 => ?_);replace s2:=ku s2;replace s3:=ku s3;replace s4:=ku s4;replace s59:=ku s59;replace hz:=zz;clear kk zz s60 Ybu;refine vl true (.pointer (some ⟨w.heap.size + 1,8,none⟩)) (want_t9 rfl rfl s59) (fun hc => ex_fa rfl (ev s3 rfl) (faS8 _ _)) rfl hz (by decide) (fun Ybw zz kk s62 => ?_);replace s2:=ku s2;replace s3:=ku s3;replace s4:=ku s4;replace s59:=ku s59;replace s61:=ku s61;replace hz:=zz;clear kk zz Ybv;refine vl true (.slice t.ka s.A.length t.kc) (want_t9 rfl rfl s59) (fun hc => ex_ld rfl (ev s62 rfl) (by rw [← hL.al];exact (ldK8 (cell8 (HT.cell 8 _ rfl) hx2)))) rfl hz (by decide) (fun Ybx zz kk s63 => ?_);replace s2:=ku s2;replace s3:=ku s3;replace s4:=ku s4;replace s59:=ku s59;replace s61:=ku s61;replace hz:=zz;clear kk zz s62 Ybw;refine vcall true (.bool true) (want_t9 rfl rfl s59) (fun hc => ex_call rfl (by simp only [List.map_toArray,List.map_cons,List.map_nil,(ev s61 rfl),(ev s63 rfl),evc] <;> rfl) rfl) (fun hc => drew_same9 (sameacks9_any s.A _ _ _ _ _ x2 (HI.later hx2).a (by have q:=(HJ.later hx2).a;rw [hL.a] at q;exact q)) rfl) rfl hz (by decide) (fun Yby x3 hb zz kk s64 => ?_);have hx3:=hx2.trans (hb.mono hx2.size);clear hb;replace s2:=ku s2;replace s3:=ku s3;replace s4:=ku s4;replace s59:=ku s59;replace hz:=zz;clear kk zz s61 s63 Ybx;refine vt (.bool true) (ex_andT9 rfl s59 s64) hz (fun Ybz zz kk s65 => ?_);replace s2:=ku s2;replace s3:=ku s3;replace s4:=ku s4;replace hz:=zz;clear kk zz s59 s64 Yby;refine vt _ (ex_move rfl (ev s65 rfl)) hz (fun Yb0 zz kk s66 => ?_);replace s2:=ku s2;replace s3:=ku s3;replace s4:=ku s4;replace hz:=zz;clear kk zz s65 Ybz;refine vl true (.pointer (some ⟨w.heap.size,9,none⟩)) (want_t9 rfl rfl s66) (fun hc => ex_fa rfl (ev s2 rfl) (faS9 _ _)) rfl hz (by decide) (fun Yb1 zz kk s67 => ?_);replace s2:=ku s2;replace s3:=ku s3;replace s4:=ku s4;replace s66:=ku s66;replace hz:=zz;clear kk zz Yb0;refine vl true (.slice s.ma s.M.length s.mc) (want_t9 rfl rfl s66) (fun hc => ex_ld rfl (ev s67 rfl) (ldM8 (cell8 (HS.cell 9 _ rfl) hx3))) rfl hz (by decide) (fun Yb2 zz kk s68 => ?_);replace s2:=ku s2;replace s3:=ku s3;replace s4:=ku s4;replace s66:=ku s66;replace hz:=zz;clear kk zz s67 Yb1;refine vl true (.pointer (some ⟨w.heap.size + 1,9,none⟩)) (want_t9 rfl rfl s66) (fun hc => ex_fa rfl (ev s3 rfl) (faS9 _ _)) rfl hz (by decide) (fun Yb3 zz kk s69 => ?_);replace s2:=ku s2;replace s3:=ku s3;replace s4:=ku s4;replace s66:=ku s66;replace s68:=ku s68;replace hz:=zz;clear kk zz Yb2;refine vl true (.slice t.ma s.M.length t.mc) (want_t9 rfl rfl s66) (fun hc => ex_ld rfl (ev s69 rfl) (by rw [← hL.ml];exact (ldM8 (cell8 (HT.cell 9 _ rfl) hx3)))) rfl hz (by decide) (fun Yb4 zz kk s70 => ?_);replace s2:=ku s2;replace s3:=ku s3;replace s4:=ku s4;replace s66:=ku s66;replace s68:=ku s68;replace hz:=zz;clear kk zz s69 Yb3;refine vcall true (.bool true) (want_t9 rfl rfl s66) (fun hc => ex_call rfl (by simp only [List.map_toArray,List.map_cons,List.map_nil,(ev s68 rfl),(ev s70 rfl),evc] <;> rfl) rfl) (fun hc => drew_same9 (samemarks9_any s.M _ _ _ _ _ x3 (HI.later hx3).m (by have q:=(HJ.later hx3).m;rw [hL.m] at q;exact q)) rfl) rfl hz (by decide) (fun Yb5 x4 hb zz kk s71 => ?_);have hx4:=hx3.trans (hb.mono hx3.size);clear hb;replace s2:=ku s2;replace s3:=ku s3;replace s4:=ku s4;replace s66:=ku s66;replace hz:=zz;clear kk zz s68 s70 Yb4;refine vt (.bool true) (ex_andT9 rfl s66 s71) hz (fun Yb6 zz kk s72 => ?_);replace s2:=ku s2;replace s3:=ku s3;replace s4:=ku s4;replace hz:=zz;clear kk zz s66 s71 Yb5;refine vt _ (ex_move rfl (ev s72 rfl)) hz (fun Yb7 zz kk s73 => ?_);replace s2:=ku s2;replace s3:=ku s3;replace s4:=ku s4;replace hz:=zz;clear kk zz s72 Yb6;refine vl true (.pointer (some ⟨w.heap.size,10,none⟩)) (want_t9 rfl rfl s73) (fun hc => ex_fa rfl (ev s2 rfl) (faS10 _ _)) rfl hz (by decide) (fun Yb8 zz kk s74 => ?_);replace s2:=ku s2;replace s3:=ku s3;replace s4:=ku s4;replace s73:=ku s73;replace hz:=zz;clear kk zz Yb7;refine vl true (.slice s.ba s.B.length s.bc) (want_t9 rfl rfl s73) (fun hc => ex_ld rfl (ev s74 rfl) (ldB8 (cell8 (HS.cell 10 _ rfl) hx4))) rfl hz (by decide) (fun Yb9 zz kk s75 => ?_);replace s2:=ku s2;replace s3:=ku s3;replace s4:=ku s4;replace s73:=ku s73;replace hz:=zz;clear kk zz s74 Yb8;refine vl true (.pointer (some ⟨w.heap.size + 1,10,none⟩)) (want_t9 rfl rfl s73) (fun hc => ex_fa rfl (ev s3 rfl) (faS10 _ _)) rfl hz (by decide) (fun Yca zz kk s76 => ?_);replace s2:=ku s2;replace s3:=ku s3;replace s4:=ku s4;replace s73:=ku s73;replace s75:=ku s75;replace hz:=zz;clear kk zz Yb9;refine vl true (.slice t.ba s.B.length t.bc) (want_t9 rfl rfl s73) (fun hc => ex_ld rfl (ev s76 rfl) (by rw [← hL.bl];exact (ldB8 (cell8 (HT.cell 10 _ rfl) hx4)))) rfl hz (by decide) (fun Ycb zz kk s77 => ?_);replace s2:=ku s2;replace s3:=ku s3;replace s4:=ku s4;replace s73:=ku s73;replace s75:=ku s75;replace hz:=zz;clear kk zz s76 Yca;refine vcall true (.bool true) (want_t9 rfl rfl s73) (fun hc => ex_call rfl (by simp only [List.map_toArray,List.map_cons,List.map_nil,(ev s75 rfl),(ev s77 rfl),evc] <;> rfl) rfl) (fun hc => drew_same9 (Bl.same_any s.B t.B _ _ _ _ _ x4 (HI.later hx4).b (by have q:=(HJ.later hx4).b;rw [hL.b.1] at q;exact q) hL.b.2 (HI.later hx4).bl (HJ.later hx4).bl) rfl) rfl hz (by decide) (fun Ycc x5 hb zz kk s78 => ?_);have hx5:=hx4.trans (hb.mono hx4.size);clear hb;replace s2:=ku s2;replace s3:=ku s3;replace s4:=ku s4;replace s73:=ku s73;replace hz:=zz;clear kk zz s75 s77 Ycb;refine vt (.bool true) (ex_andT9 rfl s73 s78) hz (fun Ycd zz kk s79 => ?_);replace s2:=ku s2;replace s3:=ku s3;replace s4:=ku s4;replace hz:=zz;clear kk zz s73 s78 Ycc;refine vt _ (ex_move rfl (ev s79 rfl)) hz (fun Yce zz kk s80 => ?_);replace s2:=ku s2;replace s3:=ku s3;replace s4:=ku s4;replace hz:=zz;clear kk zz s79 Ycd;refine vl true (.pointer (some ⟨w.heap.size,11,none⟩)) (want_t9 rfl rfl s80) (fun hc => ex_fa rfl (ev s2 rfl) (faS11 _ _)) rfl hz (by decide) (fun Ycf zz kk s81 => ?_);replace s3:=ku s3;replace s4:=ku s4;replace s80:=ku s80;replace hz:=zz;clear kk zz s2 Yce;refine vl true (.slice s.na s.N.length s.nc) (want_t9 rfl rfl s80) (fun hc => ex_ld rfl (ev s81 rfl) (ldN8 (cell8 (HS.cell 11 _ rfl) hx5))) rfl hz (by decide) (fun Ycg zz kk s82 => ?_);replace s3:=ku s3;replace s4:=ku s4;replace s80:=ku s80;replace hz:=zz;clear kk zz s81 Ycf;refine vl true (.pointer (some ⟨w.heap.size + 1,11,none⟩)) (want_t9 rfl rfl s80) (fun hc => ex_fa rfl (ev s3 rfl) (faS11 _ _)) rfl hz (by decide) (fun Ych zz kk s83 => ?_);replace s4:=ku s4;replace s80:=ku s80;replace s82:=ku s82;replace hz:=zz;clear kk zz s3 Ycg;refine vl true (.slice t.na s.N.length t.nc) (want_t9 rfl rfl s80) (fun hc => ex_ld rfl (ev s83 rfl) (by rw [← hL.nl];exact (ldN8 (cell8 (HT.cell 11 _ rfl) hx5)))) rfl hz (by decide) (fun Yci zz kk s84 => ?_);replace s4:=ku s4;replace s80:=ku s80;replace s82:=ku s82;replace hz:=zz;clear kk zz s83 Ych;refine vcall true (.bool true) (want_t9 rfl rfl s80) (fun hc => ex_call rfl (by simp only [List.map_toArray,List.map_cons,List.map_nil,(ev s82 rfl),(ev s84 rfl),evc] <;> rfl) rfl) (fun hc => drew_same9 (An.same_any s.N t.N _ _ _ _ _ x5 (HI.later hx5).n (by have q:=(HJ.later hx5).n;rw [hL.n.1] at q;exact q) hL.n.2 (HI.later hx5).nl (HJ.later hx5).nl) rfl) rfl hz (by decide) (fun Ycj x6 hb zz kk s85 => ?_);have hx6:=hx5.trans (hb.mono hx5.size);clear hb;replace s4:=ku s4;replace s80:=ku s80;replace hz:=zz;clear kk zz s82 s84 Yci;refine vt (.bool true) (ex_andT9 rfl s80 s85) hz (fun Yck zz kk s86 => ?_);replace s4:=ku s4;replace hz:=zz;clear kk zz s80 s85 Ycj;refine vt _ (ex_assign rfl (ev s86 rfl)) hz (fun Ycl zz kk s4x => ?_);clear kk hz s86 s4;have hz:=zz;have s4:=s4x;clear zz s4x Yck;refine wpList_nil ?_
 go_wp2
 refine bodyPost_ret (results_tmp rfl _ _ _) rfl ⟨?_,hB.trans (hx6.mono (by omega))⟩;rw [getD_of s4]
 rfl
end Go.Proofs.YtgncpcfncojgoaaGreatDoor
namespace Go.Proofs.YtgncpcfncojgoaaGreatDoor
open Go.RowKit Go.Maps
open Classical
theorem neqU8 (x y : Operand) (a b : Int) (w : World) : (do eqGuard .neq 166 x y (.int .u8 a) (.int .u8 b);binOp .neq 166 (.int .u8 a) (.int .u8 b) : Sem Value).run Tryz.prog w = .ok (.bool (!decide (a = b))) w:=by
 go_simp
 by_cases h : a = b <;> simp [h]
theorem ixTab (k : Nat) (hk : k < 15) (w : World) : (Instr.indexAt 168 (.pointer (some ⟨0,0,none⟩)) (.int .i64 (k : Int))).run Tryz.prog w = .ok (.pointer (some ⟨0,k * 10,none⟩)) w:=by
 have h1 : (k : Int) < 15:=by omega
 go_simp
theorem ixR7 (o : Nat) (w : World) : (Instr.indexAt 167 (.pointer (some ⟨0,o,none⟩)) (.int .i64 9)).run Tryz.prog w = .ok (.pointer (some ⟨0,o + 9,none⟩)) w:=by go_simp
theorem ldR7 {w : World} {o : Nat} {x : Int} (h : w.cell? ⟨0,o,none⟩ = some (.int .u8 x)) : (Instr.loadAt 166 (.pointer (some ⟨0,o,none⟩))).run Tryz.prog w = .ok (.int .u8 x) w:=by go_simp
def btB (k : Int) : Bool:=decide (3 ≤ k) && decide (k ≤ 12)
theorem bt_row : ∀ k,k < 15 → 1 ≤ k → (true && !decide ((tabA k 9 : Int) = 0)) = (decide (3 ≤ (k : Int)) && decide ((k : Int) ≤ 12)):=by decide
set_option maxHeartbeats 1000000 in
theorem between7 (x : Int) (w : World) (hT : Tab w) : Calls Tryz.prog 49 #[.int .i64 x] w fun e w' => e = .returned (.bool (btB x))∧w' = w:=by
 cases hkd : kdB x with
 | false =>
  have hv : btB x = false:=by
   unfold kdB inR at hkd
   unfold btB
   simp only [Bool.and_eq_false_iff,decide_eq_false_iff_not] at hkd ⊢
   omega
  rw [hv];have HC:=hide (isKind_any x w);rw [hkd] at HC;clear hT hkd hv
  go_enter Tryz.func49,Tryz.ntmps49
  go_wp2_with fail
  refine HC.out.mono ?_;rintro e w1 ⟨rfl,rfl⟩
  go_wp2
  go_ret
  exact ⟨rfl,rfl⟩
 | true =>
  have hk : 1 ≤ x∧x ≤ 14:=by
   unfold kdB inR at hkd
   simpa only [Bool.and_eq_true,decide_eq_true_eq] using hkd
  obtain ⟨k,rfl⟩:=Int.eq_ofNat_of_zero_le (show 0 ≤ x by omega)
  have hk2 : k < 15:=by omega
  have hv : btB (k : Int) = (true && !decide ((tabA k 9 : Int) = 0)):=(bt_row k hk2 (by omega)).symm;rw [hv]
  go_enter Tryz.func49,Tryz.ntmps49
  go_upto_region 1 with fail
  refine wp_region_lit ?_;refine vl_gen (fun T => T.size = 12∧T[0]? = some (gw true (.int .i64 (k : Int)))) ⟨rfl,rfl⟩ (fun T0 ⟨hz,s0⟩ => ?_);refine vt _ (ex_move rfl (ev s0 rfl)) hz (fun T1 zz kk s3 => ?_);replace s0:=ku s0;replace hz:=zz;clear kk zz;refine vcallP (want_none rfl) (ex_call rfl (by simp only [List.map_toArray,List.map_cons,List.map_nil,(ev s3 rfl),evc] <;> rfl) rfl) (isKind_any (k : Int) w) rfl hz (by decide) ?_;rintro e w1 ⟨rfl,rfl⟩;refine ⟨_,rfl,fun T2 zz kk s4 => ?_⟩;replace s0:=ku s0;replace hz:=zz;clear kk zz s3;rw [hkd] at s4;refine vt _ (ex_move rfl (ev s4 rfl)) hz (fun T3 zz kk s5 => ?_);replace s0:=ku s0;replace hz:=zz;clear kk zz s4;refine vl true _ (want_t9 rfl rfl s5) (fun hc => ex_move rfl (ev s0 rfl)) rfl hz (by decide) (fun T4 zz kk s6 => ?_);replace s5:=ku s5;replace hz:=zz;clear kk zz s0;refine vl true (.pointer (some ⟨0,k * 10,none⟩)) (want_t9 rfl rfl s5) (fun hc => ex_ix rfl rfl (ev s6 rfl) (ixTab k hk2 _)) rfl hz (by decide) (fun T5 zz kk s7 => ?_);replace s5:=ku s5;replace hz:=zz;clear kk zz s6;refine vl true (.pointer (some ⟨0,k * 10 + 9,none⟩)) (want_t9 rfl rfl s5) (fun hc => ex_ix rfl (ev s7 rfl) rfl (ixR7 _ _)) rfl hz (by decide) (fun T6 zz kk s8 => ?_);replace s5:=ku s5;replace hz:=zz;clear kk zz s7;refine vl true (.int .u8 (tabA k 9 : Int)) (want_t9 rfl rfl s5) (fun hc => ex_ld rfl (ev s8 rfl) (ldR7 (hT.cell k 9 hk2 (by decide)))) rfl hz (by decide) (fun T7 zz kk s9 => ?_);replace s5:=ku s5;replace hz:=zz;clear kk zz s8;refine vl true (.bool (!decide ((tabA k 9 : Int) = 0))) (want_t9 rfl rfl s5) (fun hc => ex_bin rfl (ev s9 rfl) rfl (neqU8 _ _ _ _ _)) rfl hz (by decide) (fun T8 zz kk s10 => ?_);replace s5:=ku s5;replace hz:=zz;clear kk zz s9;refine vt (.bool (true && !decide ((tabA k 9 : Int) = 0))) (ex_and (c:=true) (b:=true) rfl s5 s10 rfl) hz (fun T9 zz kk s11 => ?_);replace hz:=zz;clear kk zz s5 s10;refine vt _ (ex_assign rfl (ev s11 rfl)) hz (fun Ta zz kk s2 => ?_);replace hz:=zz;clear kk zz s11;refine wpList_nil ?_
  go_wp2
  refine bodyPost_ret (results_tmp rfl _ _ _) rfl ⟨?_,rfl⟩;rw [getD_of s2]
  rfl
end Go.Proofs.YtgncpcfncojgoaaGreatDoor
namespace Go.Proofs.YtgncpcfncojgoaaGreatDoor
open Go.RowKit Go.Maps Go.Shelf
open Classical
theorem ex_slice9 {o : Oper} {ρ : Operand → Value} {s : TypeId} {x : Operand} {lo hi mx : Option Operand} {X V : Value} {l h m : Option Value} {w : World} (ho : o.op = .slice s x lo hi mx) (hx : ρ x = X) (hl : lo.map ρ = l) (hh : hi.map ρ = h) (hm : mx.map ρ = m) (hr : (Instr.sliceAt s X l h m).run Tryz.prog w = .ok V w) : (execOp ρ o).run Tryz.prog w = .ok (.value V) w:=by
 unfold execOp
 simp only [ho,hx,hl,hh,hm]
 simp [hr]
theorem results_two9 {fn : Func} {j k : Tmp} {x y : Value} {tmps : Array Value} {w : World} (h : fn.results = #[.tmp j,.tmp k]) (hj : tmps.getD j undef = x) (hk : tmps.getD k undef = y) : (results fn tmps).run Tryz.prog w = .ok (.tuple #[x,y]) w:=by
 simp only [results,h];simp only [Array.getD_eq_getD_getElem?] at hj hk
 simp [Sem.run_bind,Result.andThen,hj,hk]
theorem ex_lenVV9 {o : Oper} {ρ : Operand → Value} {i : Nat} {a : Option Addr} {n k : Nat} {w : World} (ho : o.op = .call { callee:=.builtin .len,args:=#[.tmp i],argTypes:=#[52] }) (ht : o.type = 3) (hx : ρ (.tmp i) = .slice a n k) : (execOp ρ o).run Tryz.prog w = .ok (.value (.int .i64 (n : Int))) w:=by
 unfold execOp
 simp only [ho,resolve,invoke,builtin,Sem.run_bind,Sem.run_pure,Result.andThen_ok,List.map_toArray,List.map_cons,List.map_nil,hx,ht]
 go_simp
theorem eql20_9 (x y : Operand) (w : World) : (do eqGuard .eql 3 x y (.int .i64 2) (.int .i64 0);binOp .eql 3 (.int .i64 2) (.int .i64 0) : Sem Value).run Tryz.prog w = .ok (.bool false) w:=eqlC x y 2 0 w
theorem neqE9 (x y : Operand) (a b : Int) (h : a = b) (w : World) : (do eqGuard .neq 3 x y (.int .i64 a) (.int .i64 b);binOp .neq 3 (.int .i64 a) (.int .i64 b) : Sem Value).run Tryz.prog w = .ok (.bool false) w:=(neqC x y a b w).trans (by rw [decide_eq_true h];rfl)
theorem ixVV9 (g : Nat) (w : World) : (Instr.indexAt 52 (.slice (some ⟨g,0,none⟩) 2 2) (.int .i64 0)).run Tryz.prog w = .ok (.pointer (some ⟨g,0,none⟩)) w:=by go_simp
theorem ixVV1_9 (g : Nat) (w : World) : (Instr.indexAt 52 (.slice (some ⟨g,1,none⟩) 1 1) (.int .i64 ((0 : Nat) : Int))).run Tryz.prog w = .ok (.pointer (some ⟨g,1,none⟩)) w:=by
 show (Instr.indexAt 52 (.slice (some ⟨g,1,none⟩) 1 1) (.int .i64 0)).run Tryz.prog w = _
 go_simp
theorem slVV9 (g : Nat) (w : World) : (Instr.sliceAt 52 (.slice (some ⟨g,0,none⟩) 2 2) (some (.int .i64 1)) none none).run Tryz.prog w = .ok (.slice (some ⟨g,1,none⟩) 1 1) w:=by
 go_simp
 first | done | rfl
set_option maxHeartbeats 1000000 in
theorem merge9 (D V : List (Int × Int)) (a1 a2 : Option Addr) (c1 c2 g0 : Nat) (w : World) (h1 : SlY yD w a1 D.length c1 D) (h2 : SlY yD w a2 V.length c2 V) (hl : V.length = D.length) (hn : 1 ≤ D.length∧D.length ≤ 7) (b0 : w.cell? ⟨g0,0,none⟩ = some (.slice a1 D.length c1)) (b1 : w.cell? ⟨g0,1,none⟩ = some (.slice a2 V.length c2)) : Calls Tryz.prog 82 #[.slice (some ⟨g0,0,none⟩) 2 2] w fun e w' => ∃ g,e = .returned (.tuple #[.slice (some ⟨g,0,none⟩) D.length D.length,.int .i64 0])∧OwnY yD w.heap.size w' (.slice (some ⟨g,0,none⟩) D.length D.length) (jn9 D V)∧Below w.heap.size w w':=by
 go_enter Tryz.func82,Tryz.ntmps82
 go_upto_region 0 with fail
 refine wp_region_lit ?_;refine vl_gen (fun T => T.size = 38∧T[0]? = some (gw true (.slice (some ⟨g0,0,none⟩) 2 2))) ⟨rfl,rfl⟩ (fun Z0 ⟨hz,s0⟩ => ?_);have hB : Below w.heap.size w w:=Below.refl _ _;have hv0 : Below w.heap.size w w:=Below.refl _ _;have hg9 : g0 < w.heap.size:=World.block_lt_of_cell? _ _ b0;have hin : inB (D.length : Int) 1 7 = true:=inB_iff.2 (by omega);have q23_0:=(Rp.nil hz).cons s0;clear hz s0
 refine q23_0.t (.slice none 0 0) (ex_assign rfl rfl) fun _ q23_1 => ?_;clear q23_0
 refine q23_1.t (.int .i64 0) (ex_assign rfl rfl) fun _ q23_2 => ?_;clear q23_1
 have hz:=q23_2.z;have s0:=q23_2.a 0 rfl;clear q23_2;refine wpList_nil ?_
 go_upto_region 1 with fail
 refine wp_region_lit ?_;have q24_0:=(Rp.nil hz).cons s0;clear hz s0
 refine q24_0.t _ (ex_move rfl (q24_0.e (j:=0) rfl)) fun _ q24_1 => ?_;clear q24_0
 refine q24_1.t (.int .i64 2) (ex_lenVV9 rfl rfl (q24_1.e (j:=7) rfl)) fun _ q24_2 => ?_;clear q24_1
 refine q24_2.t (.bool false) (ex_bin rfl (q24_2.e (j:=8) rfl) rfl (eql20_9 _ _ _)) fun _ q24_3 => ?_;clear q24_2
 refine q24_3.t _ (ex_move rfl (q24_3.e (j:=9) rfl)) fun _ q24_4 => ?_;clear q24_3
 refine vl true (.slice (some ⟨g0,0,none⟩) 2 2) (want_k rfl rfl (q24_4.a 10 rfl)) (fun hc => ex_move rfl (q24_4.e (j:=0) rfl)) rfl q24_4.z (by decide) (q24_4.k fun Ya q24_5 => ?_);clear q24_4;refine vl true (.pointer (some ⟨g0,0,none⟩)) (want_k rfl rfl (q24_5.a 10 rfl)) (fun hc => ex_ix rfl (q24_5.e (j:=11) rfl) rfl (ixVV9 g0 _)) rfl q24_5.z (by decide) (q24_5.k fun Yb q24_6 => ?_);clear q24_5;refine vl true (.slice a1 D.length c1) (want_k rfl rfl (q24_6.a 10 rfl)) (fun hc => ex_ld rfl (q24_6.e (j:=12) rfl) (ldV8 b0)) rfl q24_6.z (by decide) (q24_6.k fun Yc q24_7 => ?_);clear q24_6;refine vcall true (.bool (inB (D.length : Int) 1 7)) (want_k rfl rfl (q24_7.a 10 rfl)) (fun hc => ex_call rfl (by simp only [List.map_toArray,List.map_cons,List.map_nil,(q24_7.e (j:=13) rfl),evc] <;> rfl) rfl) (fun hc => maybe9 a1 D.length c1 w) rfl q24_7.z (by decide) (q24_7.kc fun Yd x1 hb q24_8 => ?_);clear q24_7;have hx1:=hv0.trans (hb.mono hv0.size);clear hb;refine vl true (.bool (!(inB (D.length : Int) 1 7))) (want_k rfl rfl (q24_8.a 10 rfl)) (fun hc => ex_not rfl (q24_8.e (j:=14) rfl)) rfl q24_8.z (by decide) (q24_8.k fun Ye q24_9 => ?_);clear q24_8
 refine q24_9.t (.bool (false || (!(inB (D.length : Int) 1 7)))) (ex_or rfl (q24_9.a 10 rfl) (q24_9.a 15 rfl) rfl) fun _ q24_10 => ?_;clear q24_9
 have hz:=q24_10.z;have s0:=q24_10.a 0 rfl;have s16:=q24_10.a 16 rfl;clear q24_10;refine wpList_nil ?_
 go_upto_region 3 with fail
 refine wp_cond_false ((ev s16 rfl).trans (congrArg Value.bool (show ((false || (!(inB (D.length : Int) 1 7)))) = false by rw [hin];rfl))) ?_;clear s16;have hB:=hB.trans (hx1.mono (by omega));have b0:=cell8 b0 hx1;have b1:=cell8 b1 hx1;have h1:=h1.later hx1;have h2:=h2.later hx1;have zx:=hx1.size
 obtain ⟨wx,hwx⟩ : ∃ z,z = x1:=⟨_,rfl⟩
 rw [← hwx] at b0 b1 h1 h2 hB zx ⊢;clear hwx
 have hgx : ¬ g0 = wx.heap.size:=by omega
 go_upto_region 3 with fail
 refine wp_region_lit ?_;have q25_0:=(Rp.nil hz).cons s0;clear hz s0
 refine q25_0.t _ (ex_move rfl (q25_0.e (j:=0) rfl)) fun _ q25_1 => ?_;clear q25_0
 refine q25_1.t (.pointer (some ⟨g0,0,none⟩)) (ex_ix rfl (q25_1.e (j:=17) rfl) rfl (ixVV9 g0 _)) fun _ q25_2 => ?_;clear q25_1
 refine q25_2.t (.slice a1 D.length c1) (ex_ld rfl (q25_2.e (j:=18) rfl) (ldV8 b0)) fun _ q25_3 => ?_;clear q25_2
 refine vcallP (want_none rfl) (ex_call rfl (by simp only [List.map_toArray,List.map_cons,List.map_nil,(q25_3.e (j:=19) rfl),evc] <;> rfl) rfl) (copiedV9 D a1 _ c1 wx h1 (by omega)) rfl q25_3.z (by decide) ?_;rintro e y1 ⟨rfl,oD,bD⟩;refine ⟨_,rfl,q25_3.k fun Yf q25_4 => ?_⟩;clear q25_3;have z1:=bD.size;have b1:=cell8 b1 bD
 have h2n : ∀ x,a2 = some x → x.block ≠ wx.heap.size:=fun x hx => by obtain ⟨q,o,e,hq,_⟩:=h2.place (by rintro rfl;simp at hl;omega);rw [e] at hx;cases hx;show q ≠ _;omega
 have h2:=h2.later bD;have hB:=hB.trans (bD.mono (by omega));have oD:=oD.low (B':=w.heap.size) (by omega)
 refine q25_4.t _ (ex_assign rfl (q25_4.e (j:=20) rfl)) fun _ q25_5 => ?_;clear q25_4
 have hz:=q25_5.z;have s0:=q25_5.a 0 rfl;have s4:=q25_5.a 4 rfl;clear q25_5;refine wpList_nil ?_
 go_upto_region 4 with fail
 refine wp_region_lit ?_;have q26_0:=((Rp.nil hz).cons s0).cons s4;clear hz s0 s4
 refine q26_0.t _ (ex_move rfl (q26_0.e (j:=0) rfl)) fun _ q26_1 => ?_;clear q26_0
 refine q26_1.t (.slice (some ⟨g0,1,none⟩) 1 1) (ex_slice9 rfl (q26_1.e (j:=21) rfl) rfl rfl rfl (slVV9 g0 _)) fun _ q26_2 => ?_;clear q26_1
 refine q26_2.t (.int .i64 1) (ex_lenVV9 rfl rfl (q26_2.e (j:=22) rfl)) fun _ q26_3 => ?_;clear q26_2
 refine q26_3.t (.int .i64 0) (ex_move rfl rfl) fun _ q26_4 => ?_;clear q26_3
 have hz:=q26_4.z;have s4:=q26_4.a 4 rfl;have s22:=q26_4.a 22 rfl;have s23:=q26_4.a 23 rfl;have s24:=q26_4.a 24 rfl;clear q26_4;refine wpList_nil ?_;have hs24 : _ = some (gw true (.int .i64 ((0 : Nat) : Int))):=s24
 go_upto_region 5 with fail
 refine v_loop 24 1 (fun i T wr => T.size = 38∧T[4]? = some (gw true (.slice (some ⟨wx.heap.size,0,none⟩) D.length D.length))∧T[22]? = some (gw true (.slice (some ⟨g0,1,none⟩) 1 1))∧T[23]? = some (gw true (.int .i64 1))∧T[24]? = some (gw true (.int .i64 (i : Int)))∧Hid (OwnY yD w.heap.size wr (.slice (some ⟨wx.heap.size,0,none⟩) D.length D.length) (if i = 0 then D else jn9 D V)∧Upd (fun k => k = wx.heap.size) y1 wr)) (fun i T w h => h.2.2.2.2.1) ⟨hz,s4,s22,s23,hs24,by rw [if_pos rfl];exact oD,Upd.refl _ _⟩ ?_;clear hz s4 s22 s23 s24 hs24;intro i R0 wr hi hh;obtain ⟨hz,s4,s22,s23,s24,HJ⟩:=hh;obtain ⟨OW,UW⟩:=HJ.out;clear HJ hv0;have zw:=UW.size
 by_cases hit : i < 1
 ·obtain rfl : i = 0:=by omega
  have d1 : decide (((0 : Nat) : Int) < 1) = true:=rfl;rw [if_pos rfl] at OW
  go_upto_region 5 with fail
  refine wp_region_lit ?_;have q27_0:=((((Rp.nil hz).cons s4).cons s22).cons s23).cons s24;clear hz s4 s22 s23 s24
  refine q27_0.t (.bool true) (ex_bin rfl (q27_0.e (j:=24) rfl) (q27_0.e (j:=23) rfl) (lssD8 _ _ _ _ true d1 _)) fun _ q27_1 => ?_;clear q27_0
  have hz:=q27_1.z;have s4:=q27_1.a 4 rfl;have s22:=q27_1.a 22 rfl;have s23:=q27_1.a 23 rfl;have s24:=q27_1.a 24 rfl;have s25:=q27_1.a 25 rfl;clear q27_1;refine wpList_nil ?_
  go_upto_region 6 with fail
  refine wp_cond_true ((ev s25 rfl).trans rfl) ?_;clear s25 d1;have hg0 : g0 < y1.heap.size:=World.block_lt_of_cell? _ _ b1;have hg1 : ¬ g0 = wx.heap.size:=hgx;have b1:=(UW.cell (p:=⟨g0,1,none⟩) hg0 hg1).trans b1;have h2:=h2.upd UW (fun x hx _ => h2n x hx)
  go_upto_region 6 with fail
  refine wp_region_lit ?_;have q28_0:=((((Rp.nil hz).cons s4).cons s22).cons s23).cons s24;clear hz s4 s22 s23 s24
  refine q28_0.t (.pointer (some ⟨g0,1,none⟩)) (ex_ix rfl (q28_0.e (j:=22) rfl) (q28_0.e (j:=24) rfl) (ixVV1_9 g0 _)) fun _ q28_1 => ?_;clear q28_0
  refine q28_1.t (.slice a2 V.length c2) (ex_ld rfl (q28_1.e (j:=26) rfl) (ldV8 b1)) fun _ q28_2 => ?_;clear q28_1
  refine q28_2.t _ (ex_assign rfl (q28_2.e (j:=27) rfl)) fun _ q28_3 => ?_;clear q28_2
  have hz:=q28_3.z;have s4:=q28_3.a 4 rfl;have s6:=q28_3.a 6 rfl;have s22:=q28_3.a 22 rfl;have s23:=q28_3.a 23 rfl;have s24:=q28_3.a 24 rfl;clear q28_3;refine wpList_nil ?_
  go_upto_region 7 with fail
  refine wp_region_lit ?_;have q29_0:=(((((Rp.nil hz).cons s4).cons s6).cons s22).cons s23).cons s24;clear hz s4 s6 s22 s23 s24
  refine q29_0.t _ (ex_move rfl (q29_0.e (j:=6) rfl)) fun _ q29_1 => ?_;clear q29_0
  refine q29_1.t (.int .i64 (V.length : Int)) (ex_lenV8 rfl rfl (q29_1.e (j:=28) rfl)) fun _ q29_2 => ?_;clear q29_1
  refine q29_2.t _ (ex_move rfl (q29_2.e (j:=4) rfl)) fun _ q29_3 => ?_;clear q29_2
  refine q29_3.t (.int .i64 (D.length : Int)) (ex_lenV8 rfl rfl (q29_3.e (j:=30) rfl)) fun _ q29_4 => ?_;clear q29_3
  refine q29_4.t (.bool false) (ex_bin rfl (q29_4.e (j:=29) rfl) (q29_4.e (j:=31) rfl) (neqE9 _ _ _ _ (by omega) _)) fun _ q29_5 => ?_;clear q29_4
  have hz:=q29_5.z;have s4:=q29_5.a 4 rfl;have s6:=q29_5.a 6 rfl;have s22:=q29_5.a 22 rfl;have s23:=q29_5.a 23 rfl;have s24:=q29_5.a 24 rfl;have s32:=q29_5.a 32 rfl;clear q29_5;refine wpList_nil ?_
  go_upto_region 9 with fail
  refine wp_cond_false ((ev s32 rfl).trans rfl) ?_;clear s32
  go_upto_region 9 with fail
  refine wp_region_lit ?_;have q30_0:=(((((Rp.nil hz).cons s4).cons s6).cons s22).cons s23).cons s24;clear hz s4 s6 s22 s23 s24
  refine q30_0.t _ (ex_move rfl (q30_0.e (j:=4) rfl)) fun _ q30_1 => ?_;clear q30_0
  refine q30_1.t _ (ex_move rfl (q30_1.e (j:=6) rfl)) fun _ q30_2 => ?_;clear q30_1
  refine vcallP (want_none rfl) (ex_call rfl (by simp only [List.map_toArray,List.map_cons,List.map_nil,(q30_2.e (j:=33) rfl),(q30_2.e (j:=34) rfl),evc] <;> rfl) rfl) (raise9 D V w.heap.size wx.heap.size D.length a2 c2 wr OW h2 hl (by omega) h2n) rfl q30_2.z (by decide) ?_;rintro e y3 ⟨rfl,OJ,UJ⟩;refine ⟨_,rfl,q30_2.k fun Yg q30_3 => ?_⟩;clear q30_2;have hz:=q30_3.z;have s4:=q30_3.a 4 rfl;have s22:=q30_3.a 22 rfl;have s23:=q30_3.a 23 rfl;have s24:=q30_3.a 24 rfl;clear q30_3;refine wpList_nil ?_
  go_upto_region 10 with fail
  refine wp_region_lit ?_;have q31_0:=((((Rp.nil hz).cons s4).cons s22).cons s23).cons s24;clear hz s4 s22 s23 s24
  refine q31_0.t (.int .i64 ((0 + 1 : Nat) : Int)) (ex_bin rfl (q31_0.e (j:=24) rfl) rfl (addD8 _ _ _ 1 ((0 + 1 : Nat) : Int) (by rw [IntKind.wrap_i64];omega) _)) fun _ q31_1 => ?_;clear q31_0
  refine q31_1.t _ (ex_move rfl (q31_1.e (j:=36) rfl)) fun _ q31_2 => ?_;clear q31_1
  have hz:=q31_2.z;have s4:=q31_2.a 4 rfl;have s22:=q31_2.a 22 rfl;have s23:=q31_2.a 23 rfl;have s24:=q31_2.a 24 rfl;clear q31_2;refine wpList_nil ?_
  exact ⟨_,rfl,by omega,hz,s4,s22,s23,s24,by rw [if_neg (by omega)];exact OJ,UW.trans UJ⟩
 ·have d1 : decide ((i : Int) < 1) = false:=decide_eq_false (by omega)
  rw [if_neg (by omega)] at OW
  go_upto_region 5 with fail
  refine wp_region_lit ?_;have q32_0:=((((Rp.nil hz).cons s4).cons s22).cons s23).cons s24;clear hz s4 s22 s23 s24
  refine q32_0.t (.bool false) (ex_bin rfl (q32_0.e (j:=24) rfl) (q32_0.e (j:=23) rfl) (lssD8 _ _ _ _ false d1 _)) fun _ q32_1 => ?_;clear q32_0
  have hz:=q32_1.z;have s4:=q32_1.a 4 rfl;have s25:=q32_1.a 25 rfl;clear q32_1;refine wpList_nil ?_
  go_upto_region 11 with fail
  refine wp_cond_false ((ev s25 rfl).trans rfl) ?_;clear s25 d1
  go_upto_region 11 with fail
  refine wp_region_lit ?_;have q33_0:=(Rp.nil hz).cons s4;clear hz s4
  refine q33_0.t _ (ex_move rfl (q33_0.e (j:=4) rfl)) fun _ q33_1 => ?_;clear q33_0
  refine q33_1.t _ (ex_assign rfl (q33_1.e (j:=37) rfl)) fun _ q33_2 => ?_;clear q33_1
  refine q33_2.t (.int .i64 0) (ex_assign rfl rfl) fun _ q33_3 => ?_;clear q33_2
  have hz:=q33_3.z;have s2:=q33_3.a 2 rfl;have s3:=q33_3.a 3 rfl;clear q33_3;refine wpList_nil ?_;have hB9:=hide (hB.trans (UW.below (by omega) (fun k hk => by omega)))
  go_wp2
  refine bodyPost_ret (results_two9 rfl (getD_of s2) (getD_of s3)) rfl ?_
  exact ⟨_,rfl,OW,hB9.out⟩
def rs9 (n self : Int) : Int → List Mk → Bool
 | _,[] => true
 | least,x :: r => !((decide (x.n < least) || decide (n ≤ x.n)) || decide (x.n = self)) && rs9 n self (x.n + 1) r
theorem Ak.ckl9 (c : Cg) (self : Int) : ∀ (L : List Ak) (least : Int),Ak.ckl c self least L = (rs9 (2 * c.F + 1) self least (L.map Ak.sm) && L.all fun x => Ak.mb x (2 * c.F + 1) c.R)
 | [],least => rfl
 | x :: r,least => by
  unfold Ak.ckl
  rw [Ak.ckl9 c self r (x.n + 1)];simp only [List.map_cons,rs9,List.all_cons,show (Ak.sm x).n = x.n from rfl]
  cases Ak.mb x (2 * c.F + 1) c.R <;> by_cases h1 : x.n < least <;> by_cases h2 : 2 * c.F + 1 ≤ x.n <;> by_cases h3 : x.n = self <;> simp [h1,h2,h3]
theorem Mk.ckl9 (c : Cg) (self : Int) : ∀ (L : List Mk) (least : Int),Mk.ckl c self least L = (rs9 (2 * c.F + 1) self least (L.map Mk.sm) && L.all fun x => Mk.mb x (2 * c.F + 1) c.R)
 | [],least => rfl
 | x :: r,least => by
  unfold Mk.ckl
  rw [Mk.ckl9 c self r (x.n + 1)];simp only [List.map_cons,rs9,List.all_cons,show (Mk.sm x).n = x.n from rfl]
  cases Mk.mb x (2 * c.F + 1) c.R <;> by_cases h1 : x.n < least <;> by_cases h2 : 2 * c.F + 1 ≤ x.n <;> by_cases h3 : x.n = self <;> simp [h1,h2,h3]
theorem Bl.ckl9 (c : Cg) (self : Int) : ∀ (L : List Bl) (least : Int),Bl.ckl c self least L = (rs9 (2 * c.F + 1) self least (L.map Bl.sm) && L.all fun x => Bl.mb x (2 * c.F + 1) c.R)
 | [],least => rfl
 | x :: r,least => by
  unfold Bl.ckl
  rw [Bl.ckl9 c self r (x.n + 1)];simp only [List.map_cons,rs9,List.all_cons,show (Bl.sm x).n = x.n from rfl]
  cases Bl.mb x (2 * c.F + 1) c.R <;> by_cases h1 : x.n < least <;> by_cases h2 : 2 * c.F + 1 ≤ x.n <;> by_cases h3 : x.n = self <;> simp [h1,h2,h3]
theorem An.ckl9 (c : Cg) (self : Int) : ∀ (L : List An) (least : Int),An.ckl c self least L = (rs9 (2 * c.F + 1) self least (L.map An.sm) && L.all fun x => An.mb x (2 * c.F + 1) c.R)
 | [],least => rfl
 | x :: r,least => by
  unfold An.ckl
  rw [An.ckl9 c self r (x.n + 1)];simp only [List.map_cons,rs9,List.all_cons,show (An.sm x).n = x.n from rfl]
  cases An.mb x (2 * c.F + 1) c.R <;> by_cases h1 : x.n < least <;> by_cases h2 : 2 * c.F + 1 ≤ x.n <;> by_cases h3 : x.n = self <;> simp [h1,h2,h3]
theorem rs9_iff (n self : Int) : ∀ (X : List Mk) (least : Int),rs9 n self least X = true ↔ ∀ i,i < X.length → (X.getD i z3m).n < n∧(X.getD i z3m).n ≠ self∧least ≤ (X.getD i z3m).n∧(0 < i → (X.getD (i - 1) z3m).n < (X.getD i z3m).n)
 | [],least => by simp [rs9]
 | x :: r,least => by
  have ih:=rs9_iff n self r (x.n + 1);simp only [rs9,Bool.and_eq_true,Bool.not_eq_true',Bool.or_eq_false_iff,decide_eq_false_iff_not,ih]
  constructor
  ·rintro ⟨⟨⟨h1,h2⟩,h3⟩,h4⟩ i hi
   cases i with
   | zero => exact ⟨by simp;omega,by simpa using h3,by simp;omega,fun h => by omega⟩
   | succ k =>
    have hk:=h4 k (by simp at hi;omega);refine ⟨by simpa using hk.1,by simpa using hk.2.1,by simp only [List.getD_cons_succ];omega,fun _ => ?_⟩
    cases k with
    | zero => simp only [List.getD_cons_succ,Nat.zero_add,Nat.sub_self,List.getD_cons_zero];omega
    | succ j => simpa using hk.2.2.2 (by omega)
  ·intro h
   have h0:=h 0 (by simp)
   simp at h0
   have up : ∀ i,i < r.length → x.n < (r.getD i z3m).n:=by
    intro i
    induction i with
    | zero =>
     intro hi;have:=(h 1 (by simp;omega)).2.2.2 (by omega)
     simpa using this
    | succ k ihk =>
     intro hi;have:=(h (k + 2) (by simp;omega)).2.2.2 (by omega)
     have e1 : ((x :: r).getD (k + 2 - 1) z3m).n = (r.getD k z3m).n:=by simp
     have e2 : ((x :: r).getD (k + 2) z3m).n = (r.getD (k + 1) z3m).n:=by simp
     rw [e1,e2] at this;have:=ihk (by omega)
     omega
   refine ⟨⟨⟨by omega,by omega⟩,h0.2.1⟩,fun i hi => ?_⟩;have hs:=h (i + 1) (by simp;omega);simp only [List.getD_cons_succ] at hs;refine ⟨hs.1,hs.2.1,by have:=up i hi;omega,fun h0i => ?_⟩;have:=hs.2.2.2 (by omega)
   cases i with
   | zero => omega
   | succ j => simpa using this
theorem rv9_eq (s : Sta) (n : Int) (X : List Mk) : rv9 s n X = (rs9 n s.self 0 X && X.all (lv8 s.V)):=by
 rw [Bool.eq_iff_iff,Bool.and_eq_true,rs9_iff,List.all_eq_true]
 unfold rv9
 rw [List.all_eq_true];simp only [List.mem_range,vbad9,Bool.not_eq_true',Bool.or_eq_false_iff,Bool.and_eq_false_iff,decide_eq_false_iff_not,Bool.not_eq_false',decide_eq_true_eq,lv8]
 constructor
 ·intro h
  refine ⟨fun i hi => ?_,fun x hx => ?_⟩
  ·have:=h i hi
   exact ⟨by omega,by omega,by omega,fun h0 => by omega⟩
  ·obtain ⟨i,hi,rfl⟩:=List.mem_iff_getElem.1 hx
   have:=(h i hi).2;rw [show X.getD i z3m = X[i] from by simp [hi]] at this
   exact this
 ·rintro ⟨h,hl⟩ i hi
  have h1:=h i hi;have h2:=hl _ (List.getElem_mem hi);rw [show X[i] = X.getD i z3m from by simp [hi]] at h2;refine ⟨⟨⟨⟨by omega,by omega⟩,by omega⟩,?_⟩,h2⟩
  by_cases h0 : 0 < i
  ·right;have:=h1.2.2.2 h0;omega
  ·left;omega
theorem ix_any9 {α : Type} (p : α → Bool) (l : List α) : decide (0 ≤ ix p l) = l.any p:=by
 unfold ix
 cases h : l.findIdx? p with
 | none =>
  rw [List.findIdx?_eq_none_iff] at h;rw [List.any_eq_false.2 (fun x hx => by rw [h x hx];decide)]
  rfl
 | some i =>
  rw [List.findIdx?_eq_some_iff_getElem] at h;obtain ⟨hi,hp,_⟩:=h;rw [List.any_eq_true.2 ⟨l[i],List.getElem_mem hi,hp⟩]
  exact decide_eq_true (Int.natCast_nonneg i)
theorem okB_facts9 {c : Cg} (h : c.okB = true) : c.ok = true∧c.nd = 2 * c.F + 1∧1 ≤ c.F∧c.F ≤ 3∧1 ≤ c.R∧c.R ≤ 256∧6 ≤ c.P∧c.P ≤ 100:=by
 have h2:=h;simp only [Cg.okB,Bool.and_eq_true,inB_iff] at h2
 exact ⟨decide_eq_true ⟨by omega,by omega,by omega,by omega⟩,by simp [Cg.nd,h],by omega,by omega,by omega,by omega,by omega,by omega⟩
def Sta.rsB (s : Sta) (n : Int) : Bool:=((rs9 n s.self 0 (s.A.map Ak.sm) && rs9 n s.self 0 (s.M.map Mk.sm)) && rs9 n s.self 0 (s.B.map Bl.sm)) && rs9 n s.self 0 (s.N.map An.sm)
def Sta.mbB (s : Sta) (c : Cg) : Bool:=(s.A.all (fun x => Ak.mb x c.nd c.R) && s.B.all fun x => Bl.mb x c.nd c.R) && s.N.all fun x => An.mb x c.nd c.R
theorem votB9 {c : Cg} (s : Sta) (h : c.okB = true) : s.votB c = (s.rsB c.nd && s.mbB c):=by
 obtain ⟨h1,h2,_⟩:=okB_facts9 h
 unfold Sta.votB Sta.rsB Sta.mbB Ak.ck Mk.ck Bl.ck An.ck
 rw [h1,Ak.ckl9,Mk.ckl9,Bl.ckl9,An.ckl9,← h2];have hm : (s.M.all fun x => Mk.mb x c.nd c.R) = true:=List.all_eq_true.2 (fun x hx => rfl);rw [hm]
 generalize rs9 c.nd s.self 0 (s.A.map Ak.sm) = a
 generalize rs9 c.nd s.self 0 (s.M.map Mk.sm) = b
 generalize rs9 c.nd s.self 0 (s.B.map Bl.sm) = d
 generalize rs9 c.nd s.self 0 (s.N.map An.sm) = e
 generalize (s.A.all fun x => Ak.mb x c.nd c.R) = p
 generalize (s.B.all fun x => Bl.mb x c.nd c.R) = q
 generalize (s.N.all fun x => An.mb x c.nd c.R) = r
 revert a b d e p q r
 decide
theorem vtB9_eq (s : Sta) (n : Int) : s.vtB9 n = (s.rsB n && s.livB):=by
 unfold Sta.vtB9 Sta.rsB Sta.livB Sta.vs
 rw [rv9_eq,rv9_eq,rv9_eq,rv9_eq];simp only []
 generalize rs9 n s.self 0 (s.A.map Ak.sm) = a
 generalize rs9 n s.self 0 (s.M.map Mk.sm) = b
 generalize rs9 n s.self 0 (s.B.map Bl.sm) = d
 generalize rs9 n s.self 0 (s.N.map An.sm) = e
 generalize (s.A.map Ak.sm).all (lv8 s.V) = p
 generalize (s.M.map Mk.sm).all (lv8 s.V) = q
 generalize (s.B.map Bl.sm).all (lv8 s.V) = r
 generalize (s.N.map An.sm).all (lv8 s.V) = t
 revert a b d e p q r t
 decide
theorem lgB9_lmb {c : Cg} (h : c.okB = true) (L : List En) (x : Int) : lgB9 c L x = lmb L x c.R:=by
 obtain ⟨_,_,_,_,h3,h4,_⟩:=okB_facts9 h
 unfold lgB9 lmb
 rw [chk_lg h3 h4];rw [Bool.eq_iff_iff];simp only [Bool.and_eq_true,decide_eq_true_eq,and_assoc]
theorem mh9_eq {c : Cg} (s : Sta) (h : c.okB = true) : s.mh9 c = !((s.numB c && s.rsB c.nd) && s.livB):=by
 obtain ⟨_,_,_,_,h3,h4,_⟩:=okB_facts9 h
 unfold Sta.mh9
 rw [lgB9_lmb h,vtB9_eq];rw [Bool.eq_iff_iff];simp only [Sta.numB,lmb,inB,Bool.or_eq_true,Bool.not_eq_true',Bool.and_eq_false_iff,decide_eq_true_eq,decide_eq_false_iff_not]
 have hv : ((if (s.V.length : Int) = c.nd then (0 : Int) else 30) = 0) ↔ (s.V.length : Int) = c.nd:=by
  by_cases hh : (s.V.length : Int) = c.nd
  ·rw [if_pos hh];simp [hh]
  ·rw [if_neg hh];simp [hh]
 rw [hv]
 by_cases a : s.rsB c.nd = false <;> by_cases b : s.livB = false <;> by_cases d : (chk s.L c.R).1 = 0 <;> simp [a,b,d] <;> omega
theorem pr_view9 {c : Cg} {s : Sta} (h : c.okB = true) (hn : s.numB c = true) : c.pr s.view = s.view % c.nd:=by
 simp only [Sta.numB,Bool.and_eq_true] at hn
 unfold Cg.pr
 rw [h,hn.1.1.1.2]
 rfl
theorem numB_facts9 {c : Cg} {s : Sta} (h : c.okB = true) (hn : s.numB c = true) : 0 ≤ s.view∧s.view ≤ 4294967296∧0 ≤ s.last∧s.last ≤ s.view∧0 ≤ s.commit∧s.commit ≤ (s.L.length : Int)∧0 ≤ s.idle∧(s.L.length : Int) ≤ c.R:=by
 obtain ⟨_,_,_,_,h3,h4,_⟩:=okB_facts9 h;simp only [Sta.numB,Bool.and_eq_true,inB_iff,decide_eq_true_eq] at hn;have hl:=hn.1.1.1.1.1.1;rw [chk_lg h3 h4] at hl
 unfold lg at hl
 have : ¬ c.R < (s.L.length : Int):=fun hc => by rw [if_pos hc] at hl;cases hl
 have hv:=hn.1.1.1.2;have h5:=hn.1.1.2;have h6:=hn.1.2;have h7:=hn.2
 exact ⟨by omega,by omega,by omega,by omega,by omega,by omega,by omega,by omega⟩
theorem nil_of9 {α : Type} {l : List α} (h : ((l.length : Nat) : Int) ≤ 0) : l = []:=List.eq_nil_of_length_eq_zero (by omega)
theorem nor9 {c : Cg} {s : Sta} (h : c.okB = true) (hn : s.numB c = true) : (s.mbB c && s.norB c) = (bif s.mn9 c then false else !(s.A.any (rkb9 s))):=by
 obtain ⟨v0,v1,l0,l1,c0,c1,i0,lr⟩:=numB_facts9 h hn
 unfold Sta.norB Sta.mn9
 rw [pr_view9 h hn]
 have hp : ∀ x : Ak,(!inB x.p 1 (s.L.length : Int)) = rkb9 s x:=fun x => by
  unfold rkb9 inB
  rw [Bool.eq_iff_iff];simp only [Bool.not_eq_true',Bool.and_eq_false_iff,Bool.or_eq_true,decide_eq_true_eq,decide_eq_false_iff_not]
  omega
 rw [show (fun a : Ak => !inB a.p 1 (s.L.length : Int)) = rkb9 s from funext hp,ix_any9]
 by_cases e1 : s.last = s.view
 ·by_cases e2 : 0 < (((s.M.length : Int) + (s.B.length : Int)) + (s.N.length : Int))
  ·simp [e1,e2]
  ·have hB : s.B = []:=nil_of9 (by omega)
   have hN : s.N = []:=nil_of9 (by omega)
   unfold Sta.mbB
   by_cases e3 : s.self = s.view % c.nd
   ·by_cases e4 : s.idle = 0
    ·cases e5 : s.A.any (rkb9 s) with
     | true => simp [e1,e2,e3,e4]
     | false =>
      have hm : (s.A.all fun x => Ak.mb x c.nd c.R) = true:=by
       rw [List.all_eq_true];intro x hx;have:=List.any_eq_false.1 e5 x hx;simp only [rkb9,Bool.or_eq_true,decide_eq_true_eq,not_or] at this
       exact decide_eq_true ⟨by omega,by omega⟩
      rw [hm,hB,hN];rw [hB,hN] at e2
      simp [e1,e3,e4]
    ·simp [e1,e2,e3,e4]
   ·by_cases e4 : s.A = []
    ·rw [hB,hN,e4]
     rw [hB,hN] at e2
     simp [e1,e3]
    ·have e5 : 0 < (s.A.length : Int):=by have:=List.length_pos_iff.2 e4;omega
     have e6 : ¬ (s.A.length : Int) = 0:=by omega
     simp [e1,e2,e3,e5,e6,e4]
 ·simp [e1]
theorem chg9 {c : Cg} {s : Sta} (h : c.okB = true) (hn : s.numB c = true) : (s.mbB c && s.chgB c) = (bif s.mc9 c then false else !(s.B.any (rbb9 c s))):=by
 obtain ⟨v0,v1,l0,l1,c0,c1,i0,lr⟩:=numB_facts9 h hn;obtain ⟨_,_,f1,f3,_⟩:=okB_facts9 h
 unfold Sta.chgB Sta.mc9
 rw [pr_view9 h hn,ix_any9]
 by_cases e1 : s.last = s.view
 ·simp [e1]
 ·by_cases e2 : 0 < ((s.A.length : Int) + (s.N.length : Int))
  ·simp [e1,e2]
  ·have hA : s.A = []:=nil_of9 (by omega)
   have hN : s.N = []:=nil_of9 (by omega)
   unfold Sta.mbB
   have hAN : ¬ 0 < (([] : List Ak).length : Int) + (([] : List An).length : Int):=by simp
   by_cases e3 : s.self = s.view % c.nd
   ·by_cases e4 : (s.B.length : Int) < c.F
    ·have e5 : ¬ c.F ≤ (s.B.length : Int):=by omega
     have hm : ((s.B.all fun x => Bl.mb x c.nd c.R) && !(s.B.any fun b => decide (s.view ≤ b.v))) = !(s.B.any (rbb9 c s)):=by
      rw [Bool.eq_iff_iff];simp only [Bool.and_eq_true,Bool.not_eq_true',List.all_eq_true,List.any_eq_false]
      constructor
      ·rintro ⟨p1,p2⟩ x hx
       have q1:=p1 x hx;have q2:=p2 x hx;simp only [Bl.mb,vmb,Bool.and_eq_true,decide_eq_true_eq] at q1;simp only [decide_eq_true_eq] at q2;simp only [rbb9,lgB9_lmb h,q1.2,Bool.or_eq_true,decide_eq_true_eq,Bool.not_true,Bool.false_eq_true,or_false]
       omega
      ·intro p
       refine ⟨fun x hx => ?_,fun x hx => ?_⟩
       ·have q:=p x hx
        simp only [rbb9,lgB9_lmb h,Bool.or_eq_true,decide_eq_true_eq,Bool.not_eq_true',not_or,Bool.not_eq_false] at q;simp only [Bl.mb,vmb,Bool.and_eq_true,decide_eq_true_eq]
        exact ⟨⟨by omega,by omega⟩,q.2⟩
       ·have q:=p x hx
        simp only [rbb9,Bool.or_eq_true,decide_eq_true_eq,not_or] at q;simp only [decide_eq_true_eq]
        exact q.1.2
     rw [← hm,hA,hN]
     simp [e1,e3,e4,e5]
    ·have e5 : c.F ≤ (s.B.length : Int):=by omega
     simp [e1,e2,e3,e4,e5]
   ·by_cases e4 : s.B = []
    ·rw [hA,hN,e4]
     have e5 : ¬ c.F ≤ 0:=by omega
     simp [e1,e3,e5]
    ·have e5 : 0 < (s.B.length : Int):=by have:=List.length_pos_iff.2 e4;omega
     have e6 : ¬ (s.B.length : Int) = 0:=by omega
     simp [e1,e2,e3,e5,e6,e4]
theorem rec9 {c : Cg} {s : Sta} (h : c.okB = true) (hn : s.numB c = true) : (s.mbB c && s.recB) = s.rc9 c c.nd:=by
 obtain ⟨v0,v1,l0,l1,c0,c1,i0,lr⟩:=numB_facts9 h hn;obtain ⟨_,hd,f1,f3,_⟩:=okB_facts9 h
 unfold Sta.recB Sta.rc9
 by_cases e0 : s.V.getD s.self.toNat (0,0) = (0,0)
 ·simp only [e0];simp
 ·by_cases e1 : s.view = 0∧s.idle = 0∧(((s.L.length : Int) + (s.A.length : Int)) + (s.M.length : Int)) + (s.B.length : Int) = 0
  ·obtain ⟨e1,e2,e3⟩:=e1
   have e4 : ¬ 0 < (((((((s.view + s.last) + s.commit) + s.idle) + (s.L.length : Int)) + (s.A.length : Int)) + (s.M.length : Int)) + (s.B.length : Int)):=by omega
   have hA : s.A = []:=nil_of9 (by omega);have hB : s.B = []:=nil_of9 (by omega);rw [decide_eq_true e1,decide_eq_true e2,decide_eq_true e3,decide_eq_false e4,decide_eq_false e0]
   unfold Sta.mbB
   rw [hA,hB];simp only [List.all_nil,Bool.true_and,Bool.and_true,Bool.not_false,Bool.or_false,cond_false];rw [Bool.eq_iff_iff];simp only [List.all_eq_true,Bool.not_eq_true',List.any_eq_false]
   have hh : ∀ x : An,An.mb x c.nd c.R = true ↔ ¬ rab9 c c.nd x = true:=by
    intro x;simp only [An.mb,rab9,vmb,lgB9_lmb h,Bool.and_eq_true,Bool.or_eq_true,decide_eq_true_eq,Bool.not_eq_true',decide_eq_false_iff_not]
    have hD : x.s.D = [] ↔ ¬ 0 < (x.s.D.length : Int):=by
     constructor
     ·intro e;rw [e];simp
     ·intro e;exact nil_of9 (by omega)
    rw [hD]
    generalize lmb x.s.D x.c c.R = q
    by_cases ha : x.n = x.v % c.nd <;> by_cases hb : 0 < (x.s.D.length : Int) <;> cases q <;> simp only [ha,hb,not_true,not_false_iff,Bool.false_eq_true,Bool.true_eq_false,and_true,true_and,and_false,false_and,or_true,true_or,or_false,false_or,true_iff,false_iff,iff_true,iff_false,not_or] <;> omega
   exact ⟨fun p x hx => (hh x).1 (p x hx),fun p x hx => (hh x).2 (p x hx)⟩
  ·have e4 : 0 < (((((((s.view + s.last) + s.commit) + s.idle) + (s.L.length : Int)) + (s.A.length : Int)) + (s.M.length : Int)) + (s.B.length : Int)):=by omega
   rw [decide_eq_true e4];simp only [Bool.true_or,cond_true];rw [Bool.eq_false_iff];intro hc;simp only [Bool.and_eq_true,decide_eq_true_eq] at hc
   exact e1 ⟨hc.2.1.1.1,hc.2.1.1.2,hc.2.1.2⟩
theorem rk9_ckE (s : Sta) (c : Cg) : s.rk9 c = s.ckE c:=by
 unfold Sta.rk9 Sta.ckE
 cases h : c.okB with
 | false => rfl
 | true =>
  have : s.mayB9 c = s.stB c:=by
   unfold Sta.mayB9 Sta.stB Sta.kpB
   rw [votB9 s h,mh9_eq s h]
   cases hn : s.numB c with
   | false => simp
   | true =>
    cases hr : s.rsB c.nd with
    | false => simp
    | true =>
     cases hl : s.livB with
     | false => simp
     | true =>
      simp only [Bool.true_and,Bool.and_true,Bool.not_true,cond_false]
      by_cases t1 : s.st = 1
      ·rw [decide_eq_true t1]
       exact (nor9 h hn).symm
      ·rw [decide_eq_false t1]
       by_cases t2 : s.st = 2
       ·rw [decide_eq_true t2]
        exact (chg9 h hn).symm
       ·rw [decide_eq_false t2]
        by_cases t3 : s.st = 3
        ·rw [decide_eq_true t3]
         exact (rec9 h hn).symm
        ·rw [decide_eq_false t3]
         simp
  rw [this]
theorem maps9 {α β : Type} (R : α → α → Prop) (p : α → β) (hp : ∀ x y,R x y → p y = p x) : ∀ (L M : List α),M.length = L.length → (∀ (i : Nat) (x y : α),L[i]? = some x → M[i]? = some y → R x y) → M.map p = L.map p
 | [],M,hl,h => by rw [List.eq_nil_of_length_eq_zero hl]
 | x :: L,[],hl,h => by simp at hl
 | x :: L,y :: M,hl,h => by
  rw [List.map_cons,List.map_cons,hp x y (h 0 x y rfl rfl),maps9 R p hp L M (by simpa using hl) (fun i a b ha hb => h (i + 1) a b ha hb)]
theorem all_map9 {α : Type} (p : α → Bool) (L : List α) : L.all p = (L.map p).all id:=by rw [List.all_map];rfl
theorem any_map9 {α : Type} (p : α → Bool) (L : List α) : L.any p = (L.map p).any id:=by rw [List.any_map];rfl
theorem Bl.Like.symm {x y : Bl} (h : Bl.Like x y) : Bl.Like y x:=⟨h.1.symm,h.2.1.symm,h.2.2.1.symm,h.2.2.2.1.symm,h.2.2.2.2.1.symm,h.2.2.2.2.2.symm⟩
theorem Bl.Like.trans {x y z : Bl} (h : Bl.Like x y) (k : Bl.Like y z) : Bl.Like x z:=⟨k.1.trans h.1,k.2.1.trans h.2.1,k.2.2.1.trans h.2.2.1,k.2.2.2.1.trans h.2.2.2.1,k.2.2.2.2.1.trans h.2.2.2.2.1,k.2.2.2.2.2.trans h.2.2.2.2.2⟩
theorem An.Like.symm {x y : An} (h : An.Like x y) : An.Like y x:=⟨h.1.symm,h.2.1.symm,h.2.2.1.symm,h.2.2.2.1.symm,h.2.2.2.2.1.symm,h.2.2.2.2.2.symm⟩
theorem An.Like.trans {x y z : An} (h : An.Like x y) (k : An.Like y z) : An.Like x z:=⟨k.1.trans h.1,k.2.1.trans h.2.1,k.2.2.1.trans h.2.2.1,k.2.2.2.1.trans h.2.2.2.1,k.2.2.2.2.1.trans h.2.2.2.2.1,k.2.2.2.2.2.trans h.2.2.2.2.2⟩
theorem Sta.Alike9.symm {s t : Sta} (h : s.Alike9 t) : t.Alike9 s:=⟨h.self.symm,h.st.symm,h.view.symm,h.last.symm,h.commit.symm,h.idle.symm,h.l.symm,h.v.symm,h.a.symm,h.m.symm,⟨h.b.1.symm,fun i x y hx hy => (h.b.2 i y x hy hx).symm⟩,⟨h.n.1.symm,fun i x y hx hy => (h.n.2 i y x hy hx).symm⟩⟩
theorem Sta.Alike9.trans {s t u : Sta} (h : s.Alike9 t) (k : t.Alike9 u) : s.Alike9 u:=by
 refine ⟨k.self.trans h.self,k.st.trans h.st,k.view.trans h.view,k.last.trans h.last,k.commit.trans h.commit,k.idle.trans h.idle,k.l.trans h.l,k.v.trans h.v,k.a.trans h.a,k.m.trans h.m,⟨k.b.1.trans h.b.1,fun i x z hx hz => ?_⟩,⟨k.n.1.trans h.n.1,fun i x z hx hz => ?_⟩⟩
 ·have hi : i < t.B.length:=by rw [h.b.1];exact (List.getElem?_eq_some_iff.1 hx).1
  exact (h.b.2 i x _ hx (List.getElem?_eq_getElem hi)).trans (k.b.2 i _ z (List.getElem?_eq_getElem hi) hz)
 ·have hi : i < t.N.length:=by rw [h.n.1];exact (List.getElem?_eq_some_iff.1 hx).1
  exact (h.n.2 i x _ hx (List.getElem?_eq_getElem hi)).trans (k.n.2 i _ z (List.getElem?_eq_getElem hi) hz)
theorem ckE_alike9 {s t : Sta} (h : s.Alike9 t) (c : Cg) : t.ckE c = s.ckE c:=by
 unfold Sta.ckE
 cases hok : c.okB with
 | false => rfl
 | true =>
  have hs : t.stB c = s.stB c:=by
   have b1 : t.B.map Bl.sm = s.B.map Bl.sm:=maps9 Bl.Like Bl.sm (fun x y k => by show (⟨y.n,y.h,y.l⟩ : Mk) = ⟨x.n,x.h,x.l⟩;rw [k.1,k.2.1,k.2.2.1]) _ _ h.b.1 h.b.2;have n1 : t.N.map An.sm = s.N.map An.sm:=maps9 An.Like An.sm (fun x y k => by show (⟨y.n,y.h,y.l⟩ : Mk) = ⟨x.n,x.h,x.l⟩;rw [k.1,k.2.1,k.2.2.1]) _ _ h.n.1 h.n.2
   have b2 : (t.B.all fun x => Bl.mb x c.nd c.R) = (s.B.all fun x => Bl.mb x c.nd c.R):=by
    refine (all_map9 _ _).trans (Eq.trans ?_ (all_map9 _ _).symm)
    exact congrArg (fun l => l.all id) (maps9 Bl.Like (fun x => Bl.mb x c.nd c.R) (fun x y k => by unfold Bl.mb;rw [k.2.2.2.1,k.2.2.2.2.1,k.2.2.2.2.2]) _ _ h.b.1 h.b.2)
   have n2 : (t.N.all fun x => An.mb x c.nd c.R) = (s.N.all fun x => An.mb x c.nd c.R):=by
    refine (all_map9 _ _).trans (Eq.trans ?_ (all_map9 _ _).symm)
    exact congrArg (fun l => l.all id) (maps9 An.Like (fun x => An.mb x c.nd c.R) (fun x y k => by unfold An.mb;rw [k.1,k.2.2.2.1,k.2.2.2.2.1,k.2.2.2.2.2]) _ _ h.n.1 h.n.2)
   have b3 : (t.B.any fun b => decide (s.view ≤ b.v)) = (s.B.any fun b => decide (s.view ≤ b.v)):=by
    refine (any_map9 _ _).trans (Eq.trans ?_ (any_map9 _ _).symm)
    exact congrArg (fun l => l.any id) (maps9 Bl.Like (fun b => decide (s.view ≤ b.v)) (fun x y k => by rw [k.2.2.2.1]) _ _ h.b.1 h.b.2)
   have e1 : t.numB c = s.numB c:=by unfold Sta.numB;rw [h.self,h.view,h.last,h.commit,h.idle,h.l,h.v]
   have e2 : t.rsB c.nd = s.rsB c.nd:=by unfold Sta.rsB;rw [h.self,h.a,h.m,b1,n1]
   have e3 : t.mbB c = s.mbB c:=by unfold Sta.mbB;rw [h.a,b2,n2]
   have e4 : t.livB = s.livB:=by
    unfold Sta.livB Sta.vs
    simp only [];rw [h.v,h.a,h.m,b1,n1]
   have e5 : t.kpB c = s.kpB c:=by
    unfold Sta.kpB Sta.norB Sta.chgB Sta.recB
    rw [h.st,h.last,h.view,h.self,h.idle,h.l,h.v,h.a,h.m,h.b.1,h.n.1,ix_any9,ix_any9,ix_any9,b3]
   unfold Sta.stB
   rw [votB9 t hok,votB9 s hok,e1,e2,e3,e4,e5]
  rw [hs]
theorem still_alike9 {s t : Sta} (h : s.Alike9 t) (c : Cg) : still8 c t = still8 c s:=by unfold still8;rw [h.st,h.self,h.view]
theorem wtI_alike9 {s t : Sta} (h : s.Alike9 t) (c : Cg) : wtI8 c t = wtI8 c s:=by unfold wtI8;rw [still_alike9 h,h.idle]
theorem ovr_not9 {D : List (Int × Int)} {x : Mk} (h : lv8 D x = true) : ovr D x.n x.h x.l = false:=by
 unfold lv8 at h
 have e:=of_decide_eq_true h
 unfold ovr
 rw [← e]
 have : ¬ cmpD x.h x.l x.h x.l < 0:=by simp [cmpD,cmpI]
 rw [decide_eq_false this,Bool.and_false]
theorem Sta.Kn.alike {t : Sta} {B : Nat} {s : Sta} {w : World} (h : t.Kn B s s.V w) (hl : s.livB = true) : s.Alike9 t:=by
 simp only [Sta.livB,Bool.and_eq_true,List.all_eq_true,Sta.vs] at hl;obtain ⟨⟨⟨h1,h2⟩,h3⟩,h4⟩:=hl;have pa : Ak.prn s.A s.V = s.A:=List.filter_eq_self.2 (fun x hx => by have q:=ovr_not9 (x:=Ak.sm x) (h1 _ (List.mem_map_of_mem hx));show (!ovr s.V (Ak.sm x).n (Ak.sm x).h (Ak.sm x).l) = true;rw [q];rfl);have pm : Mk.prn s.M s.V = s.M:=List.filter_eq_self.2 (fun x hx => by have q:=ovr_not9 (x:=Mk.sm x) (h2 _ (List.mem_map_of_mem hx));show (!ovr s.V (Mk.sm x).n (Mk.sm x).h (Mk.sm x).l) = true;rw [q];rfl);have pb : Bl.prn s.B s.V = s.B:=List.filter_eq_self.2 (fun x hx => by have q:=ovr_not9 (x:=Bl.sm x) (h3 _ (List.mem_map_of_mem hx));show (!ovr s.V (Bl.sm x).n (Bl.sm x).h (Bl.sm x).l) = true;rw [q];rfl);have pn : An.prn s.N s.V = s.N:=List.filter_eq_self.2 (fun x hx => by have q:=ovr_not9 (x:=An.sm x) (h4 _ (List.mem_map_of_mem hx));show (!ovr s.V (An.sm x).n (An.sm x).h (An.sm x).l) = true;rw [q];rfl);have hb:=h.b;have hn:=h.n;rw [pb] at hb;rw [pn] at hn
 exact ⟨h.self,h.st,h.view,h.last,h.commit,h.idle,h.l,h.v,by rw [h.a,pa],by rw [h.m,pm],⟨hb.1,fun i x y hx hy => (hb.2 i x y hx hy).like⟩,⟨hn.1,fun i x y hx hy => (hn.2 i x y hx hy).like⟩⟩
theorem Sta.Cp.alike {t : Sta} {B : Nat} {s : Sta} {w : World} (h : t.Cp B s w) : s.Alike9 t:=⟨h.self,h.st,h.view,h.last,h.commit,h.idle,h.l,h.v,h.a,h.m,⟨h.b.1,fun i x y hx hy => (h.b.2 i x y hx hy).1⟩,⟨h.n.1,fun i x y hx hy => (h.n.2 i x y hx hy).1⟩⟩
theorem Sta.Alike9.put {s t : Sta} (h : s.Alike9 t) (i : Int) : ({ s with idle:=i } : Sta).Alike9 { t with idle:=i }:=⟨h.self,h.st,h.view,h.last,h.commit,rfl,h.l,h.v,h.a,h.m,h.b,h.n⟩
theorem v_cut9 {c : Code} {Q : Exit → Act → World → Prop} {T : Array Value} {w : World} (J : Array Value → World → Prop) (h : c.wp Tryz.prog (Exit.then (fun a w' => ∃ T',a = ⟨T',[]⟩∧J T' w') Q) ⟨T,[]⟩ w) (hk : ∀ T' w',J T' w' → Q .normal ⟨T',[]⟩ w') : c.wp Tryz.prog Q ⟨T,[]⟩ w:=by
 refine Code.wp_mono (fun e a' w' h => ?_) h
 cases e with
 | normal =>
  obtain ⟨T',rfl,hJ⟩:=h
  exact hk T' w' hJ
 | _ => exact h
theorem vh_two9 {ops : Array Oper} {o o2 : Oper} {T : Array Value} {df : List Deferred} {w : World} {Q : Exit → Act → World → Prop} {S : World → Prop} {fuel d d2 n : Nat} {listed : Array Bool} (i j : Nat) {fid : FuncId} {args : Array Value} {R : Ending → World → Prop} (hr : Region.ready .any ops listed = [i,j]) (hi : ops[i]? = some o) (hj : ops[j]? = some o2)
  (hw : Region.wanted o (yielded ops T) = true) (he : (execOp (⟨T,df⟩ : Act).eval o).run Tryz.prog w = .ok (.enter fid args) w) (hc : Calls Tryz.prog fid args w R) (hd : o.dst = some d) (hz : T.size = n) (hn : d < n)
  (hk : ∀ (e : Ending) (w' : World),R e w' → ∃ V,e = .returned V∧S w'∧∀ T' : Array Value,T'.size = n → (∀ j,j ≠ d → T'[j]? = T[j]?) → T'[d]? = some (gw true V) → VH ops Q S fuel (listed.setIfInBounds i true) ⟨T',df⟩ w')
  (V : Value) (w2 : World) (hw2 : Region.wanted o2 (yielded ops T) = true) (he2 : (execOp (⟨T,df⟩ : Act).eval o2).run Tryz.prog w = .ok (.value V) w2) (hd2 : o2.dst = some d2) (hn2 : d2 < n) (hS2 : S w2)
  (hk2 : ∀ T' : Array Value,T'.size = n → (∀ j,j ≠ d2 → T'[j]? = T[j]?) → T'[d2]? = some (gw true V) → VH ops Q S fuel (listed.setIfInBounds j true) ⟨T',df⟩ w2) : VH ops Q S (fuel + 1) listed ⟨T,df⟩ w:=by
 refine ⟨wpAnyH_all hr (by simp) (fun k hkm => ?_)⟩
 have hkm : k = i ∨ k = j:=by simpa using hkm
 rcases hkm with rfl | rfl
 ·unfold wpOp
  rw [hi];simp only [hw,if_true];refine .inl ?_
  unfold Oper.wp
  rw [he,Oper.upon_enter];refine hc.mono ?_;intro e w' hR;obtain ⟨V,rfl,hS,hk'⟩:=hk e w' hR;refine ⟨hS,?_⟩;rw [hd]
  exact (hk' (T.setIfInBounds d V) (by simp [hz]) (fun i hi => at_set_ne _ hi) (at_set _ (by omega))).out
 ·unfold wpOp
  rw [hj];simp only [hw2,if_true];refine .inl ?_
  unfold Oper.wp
  rw [he2,Oper.upon_value];refine ⟨hS2,?_⟩;rw [hd2]
  exact (hk2 (T.setIfInBounds d2 V) (by simp [hz]) (fun i hi => at_set_ne _ hi) (at_set _ (by omega))).out
theorem Wt8.in9 {B q : Nat} {c : Cg} {s t : Sta} {b : Bool} {w w' : World} (h : Wt8 B c s t b w) (hi : t.In w) (U : Upd (fun k => k = q) w w') (hq : q < B) : t.In w':=by
 rcases h with ⟨_,rfl,_⟩ | ⟨_,t0,k,lo,rfl,_⟩
 ·exact zS8_in _
 ·exact (k.set8 U hq lo).inn.idle8
set_option maxHeartbeats 1000000 in
theorem num9 (x : Int) (w : World)  : Calls Tryz.prog 17 #[.int .i64 x] w fun e w' => e = .returned (.int .i64 x)∧Below w.heap.size w w':=by
 go_enter Tryz.func17,Tryz.ntmps17
 go_upto_region 0 with fail
 refine wp_region_lit ?_;refine vl_gen (fun T => T.size = 4∧T[0]? = some (gw true (.int .i64 x))) ⟨rfl,rfl⟩ (fun Z0 ⟨hz,s0⟩ => ?_);have hB : Below w.heap.size w w:=Below.refl _ _;have hv0 : Below w.heap.size w w:=Below.refl _ _;refine vt (.int .i64 0) (ex_assign rfl rfl) hz (fun Ya zz kk s2 => ?_);replace s0:=ku s0;replace hz:=zz;clear kk zz;refine wpList_nil ?_
 go_upto_region 1 with fail
 refine wp_region_lit ?_;refine vt _ (ex_move rfl (ev s0 rfl)) hz (fun Yb zz kk s3 => ?_);replace s2:=ku s2;replace hz:=zz;clear kk zz s0;refine vt _ (ex_assign rfl (ev s3 rfl)) hz (fun Yc zz kk s2x => ?_);clear kk hz s3 s2;have hz:=zz;have s2:=s2x;clear zz s2x Yb;refine wpList_nil ?_
 go_wp2
 refine bodyPost_ret (results_tmp rfl _ _ _) rfl ⟨?_,hB.trans (hv0.mono (by omega))⟩;rw [getD_of s2]
 rfl
end Go.Proofs.YtgncpcfncojgoaaGreatDoor
