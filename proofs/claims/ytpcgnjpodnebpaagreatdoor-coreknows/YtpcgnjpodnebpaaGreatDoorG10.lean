import Derived.Test.YtpcgnjpodnebpaaGreatDoorG9
set_option maxRecDepth 100000
set_option linter.unusedVariables false
set_option linter.unusedSimpArgs false
set_option maxHeartbeats 8000000
namespace Go.Proofs.YtpcgnjpodnebpaaGreatDoor
open Go.RowKit Go.Maps Go.Shelf
open Classical
theorem ex_bs8 {o : Oper} {ρ : Operand → Value} {s : TypeId} {x : Operand} {X V : Value} {w w' : World} (ho : o.op = .buildSlice s 1 #[(0,x)]) (hx : ρ x = X) (hr : (Instr.buildSlice s 1 #[(0,X)]).run Tryz.prog w = .ok V w') : (execOp ρ o).run Tryz.prog w = .ok (.value V) w':=by
 unfold execOp
 simp only [ho,LA,LB,LC,hx,Sem.run_bind,hr,Result.andThen_ok]
 rfl
theorem ex_app8 {o : Oper} {ρ : Operand → Value} {x y : Operand} {t : TypeId} {X Y V : Value} {w w' : World} (ho : o.op = .call { callee:=.builtin .append,args:=#[x,y],argTypes:=#[t,t] }) (hs : ρ x = X) (hx : ρ y = Y) (hr : (Builtin.append_ #[t,t] o.type #[X,Y]).run Tryz.prog w = .ok V w') : (execOp ρ o).run Tryz.prog w = .ok (.value V) w':=by
 unfold execOp
 simp only [ho,resolve,invoke,builtin,Sem.run_bind,Sem.run_pure,Result.andThen_ok,LA,LB,LC,hs,hx,hr]
theorem one9 {α : Type} (Y : Lay α) (w : World) (x : α) : SlY Y (w.alloc (.cells (Y.cs x).toArray Y.T)) (some ⟨w.heap.size,0,none⟩) 1 1 [x]:=by
 refine ⟨rfl,LR,(by unfold maxLen;omega),(fun h => by cases h),fun z hz => ?_⟩
 cases hz
 refine .inr ⟨w.heap.size,0,rfl,by simp,fun j y hy k u hu => ?_⟩
 have hj : j = 0:=by
  have:=(List.getElem?_eq_some_iff.1 hy).1
  simp at this
  exact this
 subst hj
 simp at hy
 subst hy;rw [show 0 + 0 * Y.k + k = k by omega]
 exact cell_box7 _ _ _ _ _ (by simpa using hu)
theorem bsI9 (x : Int) (w : World) : (Instr.buildSlice 134 1 #[(0,.int .i64 x)]).run Tryz.prog w = .ok (.slice (some ⟨w.heap.size,0,none⟩) 1 1) (w.alloc (.cells (yI9.cs x).toArray 3)):=by
 go_simp
 first | done | rfl
theorem bsR9 (d : Int × Int) (w : World) : (Instr.buildSlice 26 1 #[(0,.agg #[.int .u64 d.1,.int .u64 d.2])]).run Tryz.prog w = .ok (.slice (some ⟨w.heap.size,0,none⟩) 1 1) (w.alloc (.cells (yR9.cs d).toArray 52)):=by
 go_simp
 first | done | rfl
theorem fa0Ak (q o : Nat) (w : World) : (Instr.fieldAt 105 (.pointer (some ⟨q,o,none⟩)) 0).run Tryz.prog w = .ok (.pointer (some ⟨q,o,none⟩)) w:=by go_simp
theorem fa1Ak (q o : Nat) (w : World) : (Instr.fieldAt 105 (.pointer (some ⟨q,o,none⟩)) 1).run Tryz.prog w = .ok (.pointer (some ⟨q,o + 1,none⟩)) w:=by go_simp
theorem ix9Ak (q o n c i : Nat) (hi : i < n) (w : World) : (Instr.indexAt 28 (.slice (some ⟨q,o,none⟩) n c) (.int .i64 (i : Int))).run Tryz.prog w = .ok (.pointer (some ⟨q,o + i * 4,none⟩)) w:=by
 have h1 : (i : Int) < (n : Int):=by omega
 go_simp
theorem fa0Mk (q o : Nat) (w : World) : (Instr.fieldAt 119 (.pointer (some ⟨q,o,none⟩)) 0).run Tryz.prog w = .ok (.pointer (some ⟨q,o,none⟩)) w:=by go_simp
theorem fa1Mk (q o : Nat) (w : World) : (Instr.fieldAt 119 (.pointer (some ⟨q,o,none⟩)) 1).run Tryz.prog w = .ok (.pointer (some ⟨q,o + 1,none⟩)) w:=by go_simp
theorem ix9Mk (q o n c i : Nat) (hi : i < n) (w : World) : (Instr.indexAt 29 (.slice (some ⟨q,o,none⟩) n c) (.int .i64 (i : Int))).run Tryz.prog w = .ok (.pointer (some ⟨q,o + i * 3,none⟩)) w:=by
 have h1 : (i : Int) < (n : Int):=by omega
 go_simp
theorem fa0Bl (q o : Nat) (w : World) : (Instr.fieldAt 75 (.pointer (some ⟨q,o,none⟩)) 0).run Tryz.prog w = .ok (.pointer (some ⟨q,o,none⟩)) w:=by go_simp
theorem fa1Bl (q o : Nat) (w : World) : (Instr.fieldAt 75 (.pointer (some ⟨q,o,none⟩)) 1).run Tryz.prog w = .ok (.pointer (some ⟨q,o + 1,none⟩)) w:=by go_simp
theorem ix9Bl (q o n c i : Nat) (hi : i < n) (w : World) : (Instr.indexAt 30 (.slice (some ⟨q,o,none⟩) n c) (.int .i64 (i : Int))).run Tryz.prog w = .ok (.pointer (some ⟨q,o + i * 6,none⟩)) w:=by
 have h1 : (i : Int) < (n : Int):=by omega
 go_simp
theorem fa0An (q o : Nat) (w : World) : (Instr.fieldAt 77 (.pointer (some ⟨q,o,none⟩)) 0).run Tryz.prog w = .ok (.pointer (some ⟨q,o,none⟩)) w:=by go_simp
theorem fa1An (q o : Nat) (w : World) : (Instr.fieldAt 77 (.pointer (some ⟨q,o,none⟩)) 1).run Tryz.prog w = .ok (.pointer (some ⟨q,o + 1,none⟩)) w:=by go_simp
theorem ix9An (q o n c i : Nat) (hi : i < n) (w : World) : (Instr.indexAt 31 (.slice (some ⟨q,o,none⟩) n c) (.int .i64 (i : Int))).run Tryz.prog w = .ok (.pointer (some ⟨q,o + i * 6,none⟩)) w:=by
 have h1 : (i : Int) < (n : Int):=by omega
 go_simp
theorem rvoters9' (s : Sta) (n : Int) (X : List Mk) (na da : Option Addr) (nc dc k : Nat) (hk : X.length = k) (w : World) (hI : s.In w) (hn : n = (s.V.length : Int)) (hn1 : 0 < s.V.length) (hN : SlY yI9 w na k nc (X.map Mk.n)) (hD : SlY yR9 w da k dc (X.map fun x => (x.h,x.l))) : Calls Tryz.prog 81 #[s.val,.int .i64 n,.slice na k nc,.slice da k dc] w fun e w' => e = .returned (.bool (rv9 s n X))∧Below w.heap.size w w':=by
 subst hk
 exact rvoters9 s n X na da nc dc w hI hn hn1 hN hD
def Sta.vtB9 (s : Sta) (n : Int) : Bool:=((rv9 s n (s.A.map Ak.sm) && rv9 s n (s.M.map Mk.sm)) && rv9 s n (s.B.map Bl.sm)) && rv9 s n (s.N.map An.sm)
theorem rvotes9 (s : Sta) (n : Int) (w : World) (hI : s.In w) (hF : s.Fit) (hn : n = (s.V.length : Int)) (hn1 : 0 < s.V.length) : Calls Tryz.prog 51 #[s.val,.int .i64 n] w fun e w' => e = .returned (.bool (s.vtB9 n))∧Below w.heap.size w w':=by
 go_enter Tryz.func51,Tryz.ntmps51
 go_upto_region 0 with fail
 refine WL ?_;refine vl_gen (fun T => T.size = 143∧T[0]? = some (gw true (s.val))∧T[1]? = some (gw true (.int .i64 n))) ⟨rfl,rfl,rfl⟩ (fun Z0 ⟨hz,s0,s1⟩ => ?_)
 obtain ⟨w1,hw1⟩ : ∃ y,y = w.alloc (.cells s.cs.toArray 33):=⟨_,rfl⟩
 have hb : Below w.heap.size w w1:=by rw [hw1];exact BR.alloc LR _
 have hs1 : w1.heap.size = w.heap.size + 1:=by rw [hw1];simp
 have HS : SB7 w1 (w.heap.size) s:=by rw [hw1];exact BX7.new _ _ _
 refine vw (.pointer (some ⟨w.heap.size,0,none⟩)) w1 WN (ex_box8 rfl (ev s0 rfl) (by rw [hw1];exact bxS7 _ _)) rfl hz (by decide) (fun Z1 zz kk s2x => ?_);replace s1:=ku s1;clear kk hz s0 hw1;have hz:=zz;have s2:=s2x;clear zz s2x;have hB:=hb;clear hb;have hv0 : Below w1.heap.size w1 w1:=BR;have Ya:=((Rp.nil hz).cons s1).cons s2;clear hz s1 s2
 refine Ya.t (.bool false) (ex_assign rfl rfl) fun _ Yb => ?_;clear Ya
 have hz:=Yb.z;have s1:=Yb.a 1 rfl;have s2:=Yb.a 2 rfl;clear Yb;refine WE ?_
 go_upto_region 1 with fail
 refine WL ?_;have Yc:=((Rp.nil hz).cons s1).cons s2;clear hz s1 s2
 refine Yc.t (.slice none 0 0) (ex_assign rfl rfl) fun _ Yd => ?_;clear Yc
 refine Yd.t (.slice none 0 0) (ex_assign rfl rfl) fun _ Ye => ?_;clear Yd
 refine Ye.t (.slice none 0 0) (ex_assign rfl rfl) fun _ Yf => ?_;clear Ye
 refine Yf.t (.slice none 0 0) (ex_assign rfl rfl) fun _ Yg => ?_;clear Yf
 have hz:=Yg.z;have s1:=Yg.a 1 rfl;have s2:=Yg.a 2 rfl;have s5:=Yg.a 5 rfl;have s6:=Yg.a 6 rfl;have s7:=Yg.a 7 rfl;have s8:=Yg.a 8 rfl;clear Yg;refine WE ?_
 go_upto_region 2 with fail
 refine WL ?_;have Yh:=((((((Rp.nil hz).cons s1).cons s2).cons s5).cons s6).cons s7).cons s8;clear hz s1 s2 s5 s6 s7 s8
 refine Yh.t (.slice none 0 0) (ex_assign rfl rfl) fun _ Yi => ?_;clear Yh
 refine Yi.t (.slice none 0 0) (ex_assign rfl rfl) fun _ Yj => ?_;clear Yi
 refine Yj.t (.slice none 0 0) (ex_assign rfl rfl) fun _ Yk => ?_;clear Yj
 refine Yk.t (.slice none 0 0) (ex_assign rfl rfl) fun _ Yl => ?_;clear Yk
 have hz:=Yl.z;have s1:=Yl.a 1 rfl;have s2:=Yl.a 2 rfl;have s5:=Yl.a 5 rfl;have s6:=Yl.a 6 rfl;have s7:=Yl.a 7 rfl;have s8:=Yl.a 8 rfl;have s9:=Yl.a 9 rfl;have s10:=Yl.a 10 rfl;have s11:=Yl.a 11 rfl;have s12:=Yl.a 12 rfl;clear Yl;refine WE ?_;have f1:=hF.al;have f2:=hF.ml;have f3:=hF.bl;have f4:=hF.nl;have hw0 : Below w1.heap.size w1 w1:=BR;have hz0:=hB.size
 go_upto_region 3 with fail
 refine WL ?_;have Ym:=((((((((((Rp.nil hz).cons s1).cons s2).cons s5).cons s6).cons s7).cons s8).cons s9).cons s10).cons s11).cons s12;clear hz s1 s2 s5 s6 s7 s8 s9 s10 s11 s12
 refine Ym.t (.int .i64 0) (ex_assign rfl rfl) fun _ Yn => ?_;clear Ym
 have hz:=Yn.z;have s1:=Yn.a 1 rfl;have s2:=Yn.a 2 rfl;have s5:=Yn.a 5 rfl;have s6:=Yn.a 6 rfl;have s7:=Yn.a 7 rfl;have s8:=Yn.a 8 rfl;have s9:=Yn.a 9 rfl;have s10:=Yn.a 10 rfl;have s11:=Yn.a 11 rfl;have s12:=Yn.a 12 rfl;have s13:=Yn.a 13 rfl;clear Yn;refine WE ?_;have hsv : _ = some (gw true (.int .i64 ((0 : Nat) : Int))):=s13
 go_upto_region 4 with fail
 refine v_loop 13 s.A.length (fun i T wr => T.size = 143∧T[1]? = some (gw true (.int .i64 n))∧T[2]? = some (gw true (.pointer (some ⟨w.heap.size,0,none⟩)))∧T[6]? = some (gw true (.slice none 0 0))∧T[7]? = some (gw true (.slice none 0 0))∧T[8]? = some (gw true (.slice none 0 0))∧T[10]? = some (gw true (.slice none 0 0))∧T[11]? = some (gw true (.slice none 0 0))∧T[12]? = some (gw true (.slice none 0 0))∧T[13]? = some (gw true (.int .i64 (i : Int)))∧Hid (∃ vn vd,T[5]? = some (gw true vn)∧T[9]? = some (gw true vd)∧OwnY yI9 w1.heap.size wr vn ((s.A.take i).map Ak.n)∧OwnY yR9 w1.heap.size wr vd ((s.A.take i).map fun x => (x.h,x.l))∧Below w1.heap.size w1 wr)) (fun i T w h => h.2.2.2.2.2.2.2.2.2.1) ⟨hz,s1,s2,s6,s7,s8,s10,s11,s12,hsv,_,_,s5,s9,OwnY.nil _ _ _,OwnY.nil _ _ _,BR⟩ ?_;clear hz s1 s2 s6 s7 s8 s10 s11 s12 s13 s5 s9 hsv;intro i R0 wr hi hh;obtain ⟨hz,s1,s2,s6,s7,s8,s10,s11,s12,s13,HJ⟩:=hh;obtain ⟨vn,vd,s5,s9,oN,oD,hbr⟩:=HJ.out;clear HJ;have hzr:=hbr.size;have hbw:=hw0.trans (hbr.mono hw0.size);have HIr:=(hI.later (hB.trans (hbw.mono (by omega)))).a
 by_cases hit : i < s.A.length
 ·have d1 : decide ((i : Int) < (s.A.length : Int)) = true:=decide_eq_true (by omega)
  go_upto_region 4 with fail
  refine WL ?_;have Yo:=(((((((((((Rp.nil hz).cons s1).cons s2).cons s5).cons s6).cons s7).cons s8).cons s9).cons s10).cons s11).cons s12).cons s13;clear hz s1 s2 s5 s6 s7 s8 s9 s10 s11 s12 s13
  refine Yo.t _ (ex_move rfl (Yo.f 13)) fun _ Yp => ?_;clear Yo
  refine Yp.t _ (ex_fa rfl (Yp.f 2) (faS8 _ _)) fun _ Yq => ?_;clear Yp
  refine Yq.t _ (ex_ld rfl (Yq.f 18) (ldK8 (cell8 (HS.cell 8 _ rfl) hbw))) fun _ Yr => ?_;clear Yq
  refine Yr.t _ (ex_lenK8 rfl rfl (Yr.f 19)) fun _ Ys => ?_;clear Yr
  refine Ys.t (.bool true) (ex_bin rfl (Ys.f 17) (Ys.f 20) (lssD8 _ _ _ _ true d1 _)) fun _ Yt => ?_;clear Ys
  have hz:=Yt.z;have s1:=Yt.a 1 rfl;have s2:=Yt.a 2 rfl;have s5:=Yt.a 5 rfl;have s6:=Yt.a 6 rfl;have s7:=Yt.a 7 rfl;have s8:=Yt.a 8 rfl;have s9:=Yt.a 9 rfl;have s10:=Yt.a 10 rfl;have s11:=Yt.a 11 rfl;have s12:=Yt.a 12 rfl;have s13:=Yt.a 13 rfl;have s21:=Yt.a 21 rfl;clear Yt;refine WE ?_
  go_upto_region 6 with fail
  refine wp_cond_true ((ev s21 rfl).trans rfl) ?_;clear s21 d1
  obtain ⟨x,hxi⟩ : ∃ x,s.A[i]? = some x:=⟨_,List.getElem?_eq_getElem hit⟩
  obtain ⟨q,o,hqa,hq,hl⟩:=HIr.place (by intro e;rw [e] at hit;simp at hit);have e1 : wr.cell? ⟨q,o + i * 4,none⟩ = some (.int .i64 x.n):=hl i x hxi 0 _ rfl;have e2 : wr.cell? ⟨q,o + i * 4 + 1,none⟩ = some (.int .u64 x.h):=hl i x hxi 1 _ rfl;have e3 : wr.cell? ⟨q,o + i * 4 + 2,none⟩ = some (.int .u64 x.l):=hl i x hxi 2 _ rfl
  go_upto_region 6 with fail
  refine WL ?_;have Yu:=(((((((((((Rp.nil hz).cons s1).cons s2).cons s5).cons s6).cons s7).cons s8).cons s9).cons s10).cons s11).cons s12).cons s13;clear hz s1 s2 s5 s6 s7 s8 s9 s10 s11 s12 s13
  refine Yu.t _ (ex_move rfl (Yu.f 5)) fun _ Yv => ?_;clear Yu
  refine Yv.t _ (ex_fa rfl (Yv.f 2) (faS8 _ _)) fun _ Yw => ?_;clear Yv
  refine Yw.t _ (ex_ld rfl (Yw.f 25) (ldK8 (cell8 (HS.cell 8 _ rfl) hbw))) fun _ Yx => ?_;clear Yw
  refine Yx.t _ (ex_move rfl (Yx.f 13)) fun _ Yy => ?_;clear Yx
  refine Yy.t (.pointer (some ⟨q,o + i * 4,none⟩)) (ex_ix rfl (Yy.f 26) (Yy.f 27) (by rw [hqa];exact ix9Ak q o s.A.length s.kc i hit _)) fun _ Yz => ?_;clear Yy
  refine Yz.t _ (ex_fa rfl (Yz.f 28) (fa0Ak _ _ _)) fun _ Y0 => ?_;clear Yz
  refine Y0.t _ (ex_ld rfl (Y0.f 29) (ldI8 e1)) fun _ Y1 => ?_;clear Y0
  obtain ⟨a1,ha1⟩ : ∃ v,v = wr.alloc (.cells (yI9.cs x.n).toArray 3):=⟨_,rfl⟩
  have b1 : Below wr.heap.size wr a1:=by rw [ha1];exact BR.alloc LR _
  have p1 : SlY yI9 a1 (some ⟨wr.heap.size,0,none⟩) 1 1 [x.n]:=by rw [ha1];exact one9 yI9 wr x.n
  have z1:=b1.size
  have hlN : ((s.A.take i).map Ak.n).length = i:=by rw [List.length_map,List.length_take];omega
  obtain ⟨vn2,a2,hr2,oN2,g2,_⟩:=run_appY kI9 a1 134 w1.heap.size _ vn _ _ _ _ p1 (oN.grow b1) (by omega) (by rw [hlN];unfold maxLen;omega) (by rw [hlN];show (i + 1) * 8 ≤ _;omega);have oD2:=(oD.grow b1).grownZ (oN.grow b1) (by decide) g2;have hb2 : Below w1.heap.size w1 a2:=(oN.grow b1).grown (hbr.trans (b1.mono (by omega))) g2 (by omega);refine vw (.slice (some ⟨wr.heap.size,0,none⟩) 1 1) a1 WN (ex_bs8 rfl (Y1.f 30) (by rw [ha1];exact bsI9 _ _)) rfl Y1.z (by decide) (Y1.k fun Y2 Y3 => ?_);clear Y1;refine vw (vn2) a2 WN (ex_app8 rfl (Y3.f 24) (Y3.f 31) hr2) rfl Y3.z (by decide) (Y3.k fun Y4 Y5 => ?_);clear Y3;clear hr2 g2 p1 ha1
  refine Y5.t _ (ex_assign rfl (Y5.f 32)) fun _ Y6 => ?_;clear Y5
  have hz:=Y6.z;have s1:=Y6.a 1 rfl;have s2:=Y6.a 2 rfl;have s5:=Y6.a 5 rfl;have s6:=Y6.a 6 rfl;have s7:=Y6.a 7 rfl;have s8:=Y6.a 8 rfl;have s9:=Y6.a 9 rfl;have s10:=Y6.a 10 rfl;have s11:=Y6.a 11 rfl;have s12:=Y6.a 12 rfl;have s13:=Y6.a 13 rfl;clear Y6;refine WE ?_;have z2:=hb2.size;have hbw2:=hw0.trans (hb2.mono hw0.size);have HI2:=(hI.later (hB.trans (hbw2.mono (by omega)))).a;clear e1 e2 e3 hl hq;obtain ⟨q2,o2,hqa2,hq2,hl2⟩:=HI2.place (by intro e;rw [e] at hit;simp at hit);rw [hqa] at hqa2
  cases hqa2
  have e2 : a2.cell? ⟨q,o + i * 4 + 1,none⟩ = some (.int .u64 x.h):=hl2 i x hxi 1 _ rfl;have e3 : a2.cell? ⟨q,o + i * 4 + 2,none⟩ = some (.int .u64 x.l):=hl2 i x hxi 2 _ rfl
  go_upto_region 7 with fail
  refine WL ?_;have Y7:=(((((((((((Rp.nil hz).cons s1).cons s2).cons s5).cons s6).cons s7).cons s8).cons s9).cons s10).cons s11).cons s12).cons s13;clear hz s1 s2 s5 s6 s7 s8 s9 s10 s11 s12 s13
  refine Y7.t _ (ex_move rfl (Y7.f 9)) fun _ Y8 => ?_;clear Y7
  refine Y8.t _ (ex_fa rfl (Y8.f 2) (faS8 _ _)) fun _ Y9 => ?_;clear Y8
  refine Y9.t _ (ex_ld rfl (Y9.f 34) (ldK8 (cell8 (HS.cell 8 _ rfl) hbw2))) fun _ Yba => ?_;clear Y9
  refine Yba.t _ (ex_move rfl (Yba.f 13)) fun _ Ybb => ?_;clear Yba
  refine Ybb.t (.pointer (some ⟨q,o + i * 4,none⟩)) (ex_ix rfl (Ybb.f 35) (Ybb.f 36) (by rw [hqa];exact ix9Ak q o s.A.length s.kc i hit _)) fun _ Ybc => ?_;clear Ybb
  refine Ybc.t _ (ex_fa rfl (Ybc.f 37) (fa1Ak _ _ _)) fun _ Ybd => ?_;clear Ybc
  refine Ybd.t _ (ex_ld rfl (Ybd.f 38) (ldDr8 (d:=(x.h,x.l)) e2 e3)) fun _ Ybe => ?_;clear Ybd
  obtain ⟨a3,ha3⟩ : ∃ v,v = a2.alloc (.cells (yR9.cs (x.h,x.l)).toArray 52):=⟨_,rfl⟩
  have b3 : Below a2.heap.size a2 a3:=by rw [ha3];exact BR.alloc LR _
  have p3 : SlY yR9 a3 (some ⟨a2.heap.size,0,none⟩) 1 1 [(x.h,x.l)]:=by rw [ha3];exact one9 yR9 a2 (x.h,x.l)
  have z3:=b3.size
  have hlD : ((s.A.take i).map fun x => (x.h,x.l)).length = i:=by rw [List.length_map,List.length_take];omega
  obtain ⟨vd2,a4,hr4,oD4,g4,_⟩:=run_appY kR9 a3 26 w1.heap.size _ vd _ _ _ _ p3 (oD2.grow b3) (by omega) (by rw [hlD];unfold maxLen;omega) (by rw [hlD];show (i + 1) * 16 ≤ _;omega);have oN4:=(oN2.grow b3).grownZ (oD2.grow b3) (by decide) g4;have hb4 : Below w1.heap.size w1 a4:=(oD2.grow b3).grown (hb2.trans (b3.mono (by omega))) g4 (by omega);refine vw (.slice (some ⟨a2.heap.size,0,none⟩) 1 1) a3 WN (ex_bs8 rfl (Ybe.f 39) (by rw [ha3];exact bsR9 (x.h,x.l) _)) rfl Ybe.z (by decide) (Ybe.k fun Ybf Ybg => ?_);clear Ybe;refine vw (vd2) a4 WN (ex_app8 rfl (Ybg.f 33) (Ybg.f 40) hr4) rfl Ybg.z (by decide) (Ybg.k fun Ybh Ybi => ?_);clear Ybg;clear hr4 g4 p3 ha3
  refine Ybi.t _ (ex_assign rfl (Ybi.f 41)) fun _ Ybj => ?_;clear Ybi
  have hz:=Ybj.z;have s1:=Ybj.a 1 rfl;have s2:=Ybj.a 2 rfl;have s5:=Ybj.a 5 rfl;have s6:=Ybj.a 6 rfl;have s7:=Ybj.a 7 rfl;have s8:=Ybj.a 8 rfl;have s9:=Ybj.a 9 rfl;have s10:=Ybj.a 10 rfl;have s11:=Ybj.a 11 rfl;have s12:=Ybj.a 12 rfl;have s13:=Ybj.a 13 rfl;clear Ybj;refine WE ?_
  go_upto_region 5 with fail
  refine WL ?_;have Ybk:=(((((((((((Rp.nil hz).cons s1).cons s2).cons s5).cons s6).cons s7).cons s8).cons s9).cons s10).cons s11).cons s12).cons s13;clear hz s1 s2 s5 s6 s7 s8 s9 s10 s11 s12 s13
  refine Ybk.t _ (ex_move rfl (Ybk.f 13)) fun _ Ybl => ?_;clear Ybk
  refine Ybl.t (.int .i64 ((i + 1 : Nat) : Int)) (ex_bin rfl (Ybl.f 22) rfl (addD8 _ _ _ 1 ((i + 1 : Nat) : Int) (by rw [IntKind.wrap_i64];omega) _)) fun _ Ybm => ?_;clear Ybl
  refine Ybm.t _ (ex_assign rfl (Ybm.f 23)) fun _ Ybn => ?_;clear Ybm
  have hz:=Ybn.z;have s1:=Ybn.a 1 rfl;have s2:=Ybn.a 2 rfl;have s5:=Ybn.a 5 rfl;have s6:=Ybn.a 6 rfl;have s7:=Ybn.a 7 rfl;have s8:=Ybn.a 8 rfl;have s9:=Ybn.a 9 rfl;have s10:=Ybn.a 10 rfl;have s11:=Ybn.a 11 rfl;have s12:=Ybn.a 12 rfl;have s13:=Ybn.a 13 rfl;clear Ybn;refine WE ?_
  have et : s.A.take (i + 1) = s.A.take i ++ [x]:=by rw [List.take_add_one,hxi];rfl
  exact ⟨_,rfl,by omega,hz,s1,s2,s6,s7,s8,s10,s11,s12,s13,vn2,vd2,s5,s9,by rw [et,List.map_append];exact oN4,by rw [et,List.map_append];exact oD4,hb4⟩
 ·have d1 : decide ((i : Int) < (s.A.length : Int)) = false:=decide_eq_false (by omega)
  go_upto_region 4 with fail
  refine WL ?_;have Ybo:=(((((((((((Rp.nil hz).cons s1).cons s2).cons s5).cons s6).cons s7).cons s8).cons s9).cons s10).cons s11).cons s12).cons s13;clear hz s1 s2 s5 s6 s7 s8 s9 s10 s11 s12 s13
  refine Ybo.t _ (ex_move rfl (Ybo.f 13)) fun _ Ybp => ?_;clear Ybo
  refine Ybp.t _ (ex_fa rfl (Ybp.f 2) (faS8 _ _)) fun _ Ybq => ?_;clear Ybp
  refine Ybq.t _ (ex_ld rfl (Ybq.f 18) (ldK8 (cell8 (HS.cell 8 _ rfl) hbw))) fun _ Ybr => ?_;clear Ybq
  refine Ybr.t _ (ex_lenK8 rfl rfl (Ybr.f 19)) fun _ Ybs => ?_;clear Ybr
  refine Ybs.t (.bool false) (ex_bin rfl (Ybs.f 17) (Ybs.f 20) (lssD8 _ _ _ _ false d1 _)) fun _ Ybt => ?_;clear Ybs
  have hz:=Ybt.z;have s1:=Ybt.a 1 rfl;have s2:=Ybt.a 2 rfl;have s5:=Ybt.a 5 rfl;have s6:=Ybt.a 6 rfl;have s7:=Ybt.a 7 rfl;have s8:=Ybt.a 8 rfl;have s9:=Ybt.a 9 rfl;have s10:=Ybt.a 10 rfl;have s11:=Ybt.a 11 rfl;have s12:=Ybt.a 12 rfl;have s21:=Ybt.a 21 rfl;clear Ybt;refine WE ?_
  go_upto_region 8 with fail
  refine wp_cond_false ((ev s21 rfl).trans rfl) ?_;clear s21 d1
  obtain rfl : i = s.A.length:=by omega
  rw [List.take_length] at oN oD;obtain ⟨nAk,mAk,hvn,pNAk,_⟩:=oN.sl kI9;obtain ⟨dAk,eAk,hvd,pDAk,_⟩:=oD.sl kR9;rw [List.length_map] at hvn hvd pNAk pDAk;rw [hvn] at s5;rw [hvd] at s9;clear hvn hvd oN oD HIr hit hi;have hw0:=hbw
  obtain ⟨W0,hW⟩ : ∃ v,v = wr:=⟨_,rfl⟩
  rw [← hW] at hw0 pNAk pDAk hbr hzr hbw ⊢;clear hW;clear hbr hbw hzr
  go_upto_region 8 with fail
  refine WL ?_;have Ybu:=((((((((((Rp.nil hz).cons s1).cons s2).cons s5).cons s6).cons s7).cons s8).cons s9).cons s10).cons s11).cons s12;clear hz s1 s2 s5 s6 s7 s8 s9 s10 s11 s12
  refine Ybu.t (.int .i64 0) (ex_assign rfl rfl) fun _ Ybv => ?_;clear Ybu
  have hz:=Ybv.z;have s1:=Ybv.a 1 rfl;have s2:=Ybv.a 2 rfl;have s5:=Ybv.a 5 rfl;have s6:=Ybv.a 6 rfl;have s7:=Ybv.a 7 rfl;have s8:=Ybv.a 8 rfl;have s9:=Ybv.a 9 rfl;have s10:=Ybv.a 10 rfl;have s11:=Ybv.a 11 rfl;have s12:=Ybv.a 12 rfl;have s14:=Ybv.a 14 rfl;clear Ybv;refine WE ?_;have hsv : _ = some (gw true (.int .i64 ((0 : Nat) : Int))):=s14
  go_upto_region 9 with fail
  refine v_loop 14 s.M.length (fun i T wr => T.size = 143∧T[1]? = some (gw true (.int .i64 n))∧T[2]? = some (gw true (.pointer (some ⟨w.heap.size,0,none⟩)))∧T[5]? = some (gw true (.slice nAk s.A.length mAk))∧T[7]? = some (gw true (.slice none 0 0))∧T[8]? = some (gw true (.slice none 0 0))∧T[9]? = some (gw true (.slice dAk s.A.length eAk))∧T[11]? = some (gw true (.slice none 0 0))∧T[12]? = some (gw true (.slice none 0 0))∧T[14]? = some (gw true (.int .i64 (i : Int)))∧Hid (∃ vn vd,T[6]? = some (gw true vn)∧T[10]? = some (gw true vd)∧OwnY yI9 W0.heap.size wr vn ((s.M.take i).map Mk.n)∧OwnY yR9 W0.heap.size wr vd ((s.M.take i).map fun x => (x.h,x.l))∧Below W0.heap.size W0 wr)) (fun i T w h => h.2.2.2.2.2.2.2.2.2.1) ⟨hz,s1,s2,s5,s7,s8,s9,s11,s12,hsv,_,_,s6,s10,OwnY.nil _ _ _,OwnY.nil _ _ _,BR⟩ ?_;clear hz s1 s2 s5 s7 s8 s9 s11 s12 s14 s6 s10 hsv;intro i R1 wr hi hh;obtain ⟨hz,s1,s2,s5,s7,s8,s9,s11,s12,s14,HJ⟩:=hh;obtain ⟨vn,vd,s6,s10,oN,oD,hbr⟩:=HJ.out;clear HJ;have hzr:=hbr.size;have hbw:=hw0.trans (hbr.mono hw0.size);have HIr:=(hI.later (hB.trans (hbw.mono (by omega)))).m
  by_cases hit : i < s.M.length
  ·have d1 : decide ((i : Int) < (s.M.length : Int)) = true:=decide_eq_true (by omega)
   go_upto_region 9 with fail
   refine WL ?_;have Ybw:=(((((((((((Rp.nil hz).cons s1).cons s2).cons s5).cons s6).cons s7).cons s8).cons s9).cons s10).cons s11).cons s12).cons s14;clear hz s1 s2 s5 s6 s7 s8 s9 s10 s11 s12 s14
   refine Ybw.t _ (ex_move rfl (Ybw.f 14)) fun _ Ybx => ?_;clear Ybw
   refine Ybx.t _ (ex_fa rfl (Ybx.f 2) (faS9 _ _)) fun _ Yby => ?_;clear Ybx
   refine Yby.t _ (ex_ld rfl (Yby.f 43) (ldM8 (cell8 (HS.cell 9 _ rfl) hbw))) fun _ Ybz => ?_;clear Yby
   refine Ybz.t _ (ex_lenM8 rfl rfl (Ybz.f 44)) fun _ Yb0 => ?_;clear Ybz
   refine Yb0.t (.bool true) (ex_bin rfl (Yb0.f 42) (Yb0.f 45) (lssD8 _ _ _ _ true d1 _)) fun _ Yb1 => ?_;clear Yb0
   have hz:=Yb1.z;have s1:=Yb1.a 1 rfl;have s2:=Yb1.a 2 rfl;have s5:=Yb1.a 5 rfl;have s6:=Yb1.a 6 rfl;have s7:=Yb1.a 7 rfl;have s8:=Yb1.a 8 rfl;have s9:=Yb1.a 9 rfl;have s10:=Yb1.a 10 rfl;have s11:=Yb1.a 11 rfl;have s12:=Yb1.a 12 rfl;have s14:=Yb1.a 14 rfl;have s46:=Yb1.a 46 rfl;clear Yb1;refine WE ?_
   go_upto_region 11 with fail
   refine wp_cond_true ((ev s46 rfl).trans rfl) ?_;clear s46 d1
   obtain ⟨x,hxi⟩ : ∃ x,s.M[i]? = some x:=⟨_,List.getElem?_eq_getElem hit⟩
   obtain ⟨q,o,hqa,hq,hl⟩:=HIr.place (by intro e;rw [e] at hit;simp at hit);have e1 : wr.cell? ⟨q,o + i * 3,none⟩ = some (.int .i64 x.n):=hl i x hxi 0 _ rfl;have e2 : wr.cell? ⟨q,o + i * 3 + 1,none⟩ = some (.int .u64 x.h):=hl i x hxi 1 _ rfl;have e3 : wr.cell? ⟨q,o + i * 3 + 2,none⟩ = some (.int .u64 x.l):=hl i x hxi 2 _ rfl
   go_upto_region 11 with fail
   refine WL ?_;have Yb2:=(((((((((((Rp.nil hz).cons s1).cons s2).cons s5).cons s6).cons s7).cons s8).cons s9).cons s10).cons s11).cons s12).cons s14;clear hz s1 s2 s5 s6 s7 s8 s9 s10 s11 s12 s14
   refine Yb2.t _ (ex_move rfl (Yb2.f 6)) fun _ Yb3 => ?_;clear Yb2
   refine Yb3.t _ (ex_fa rfl (Yb3.f 2) (faS9 _ _)) fun _ Yb4 => ?_;clear Yb3
   refine Yb4.t _ (ex_ld rfl (Yb4.f 50) (ldM8 (cell8 (HS.cell 9 _ rfl) hbw))) fun _ Yb5 => ?_;clear Yb4
   refine Yb5.t _ (ex_move rfl (Yb5.f 14)) fun _ Yb6 => ?_;clear Yb5
   refine Yb6.t (.pointer (some ⟨q,o + i * 3,none⟩)) (ex_ix rfl (Yb6.f 51) (Yb6.f 52) (by rw [hqa];exact ix9Mk q o s.M.length s.mc i hit _)) fun _ Yb7 => ?_;clear Yb6
   refine Yb7.t _ (ex_fa rfl (Yb7.f 53) (fa0Mk _ _ _)) fun _ Yb8 => ?_;clear Yb7
   refine Yb8.t _ (ex_ld rfl (Yb8.f 54) (ldI8 e1)) fun _ Yb9 => ?_;clear Yb8
   obtain ⟨a1,ha1⟩ : ∃ v,v = wr.alloc (.cells (yI9.cs x.n).toArray 3):=⟨_,rfl⟩
   have b1 : Below wr.heap.size wr a1:=by rw [ha1];exact BR.alloc LR _
   have p1 : SlY yI9 a1 (some ⟨wr.heap.size,0,none⟩) 1 1 [x.n]:=by rw [ha1];exact one9 yI9 wr x.n
   have z1:=b1.size
   have hlN : ((s.M.take i).map Mk.n).length = i:=by rw [List.length_map,List.length_take];omega
   obtain ⟨vn2,a2,hr2,oN2,g2,_⟩:=run_appY kI9 a1 134 W0.heap.size _ vn _ _ _ _ p1 (oN.grow b1) (by omega) (by rw [hlN];unfold maxLen;omega) (by rw [hlN];show (i + 1) * 8 ≤ _;omega);have oD2:=(oD.grow b1).grownZ (oN.grow b1) (by decide) g2;have hb2 : Below W0.heap.size W0 a2:=(oN.grow b1).grown (hbr.trans (b1.mono (by omega))) g2 (by omega);refine vw (.slice (some ⟨wr.heap.size,0,none⟩) 1 1) a1 WN (ex_bs8 rfl (Yb9.f 55) (by rw [ha1];exact bsI9 _ _)) rfl Yb9.z (by decide) (Yb9.k fun Yca Ycb => ?_);clear Yb9;refine vw (vn2) a2 WN (ex_app8 rfl (Ycb.f 49) (Ycb.f 56) hr2) rfl Ycb.z (by decide) (Ycb.k fun Ycc Ycd => ?_);clear Ycb;clear hr2 g2 p1 ha1
   refine Ycd.t _ (ex_assign rfl (Ycd.f 57)) fun _ Yce => ?_;clear Ycd
   have hz:=Yce.z;have s1:=Yce.a 1 rfl;have s2:=Yce.a 2 rfl;have s5:=Yce.a 5 rfl;have s6:=Yce.a 6 rfl;have s7:=Yce.a 7 rfl;have s8:=Yce.a 8 rfl;have s9:=Yce.a 9 rfl;have s10:=Yce.a 10 rfl;have s11:=Yce.a 11 rfl;have s12:=Yce.a 12 rfl;have s14:=Yce.a 14 rfl;clear Yce;refine WE ?_;have z2:=hb2.size;have hbw2:=hw0.trans (hb2.mono hw0.size);have HI2:=(hI.later (hB.trans (hbw2.mono (by omega)))).m;clear e1 e2 e3 hl hq;obtain ⟨q2,o2,hqa2,hq2,hl2⟩:=HI2.place (by intro e;rw [e] at hit;simp at hit);rw [hqa] at hqa2
   cases hqa2
   have e2 : a2.cell? ⟨q,o + i * 3 + 1,none⟩ = some (.int .u64 x.h):=hl2 i x hxi 1 _ rfl;have e3 : a2.cell? ⟨q,o + i * 3 + 2,none⟩ = some (.int .u64 x.l):=hl2 i x hxi 2 _ rfl
   go_upto_region 12 with fail
   refine WL ?_;have Ycf:=(((((((((((Rp.nil hz).cons s1).cons s2).cons s5).cons s6).cons s7).cons s8).cons s9).cons s10).cons s11).cons s12).cons s14;clear hz s1 s2 s5 s6 s7 s8 s9 s10 s11 s12 s14
   refine Ycf.t _ (ex_move rfl (Ycf.f 10)) fun _ Ycg => ?_;clear Ycf
   refine Ycg.t _ (ex_fa rfl (Ycg.f 2) (faS9 _ _)) fun _ Ych => ?_;clear Ycg
   refine Ych.t _ (ex_ld rfl (Ych.f 59) (ldM8 (cell8 (HS.cell 9 _ rfl) hbw2))) fun _ Yci => ?_;clear Ych
   refine Yci.t _ (ex_move rfl (Yci.f 14)) fun _ Ycj => ?_;clear Yci
   refine Ycj.t (.pointer (some ⟨q,o + i * 3,none⟩)) (ex_ix rfl (Ycj.f 60) (Ycj.f 61) (by rw [hqa];exact ix9Mk q o s.M.length s.mc i hit _)) fun _ Yck => ?_;clear Ycj
   refine Yck.t _ (ex_fa rfl (Yck.f 62) (fa1Mk _ _ _)) fun _ Ycl => ?_;clear Yck
   refine Ycl.t _ (ex_ld rfl (Ycl.f 63) (ldDr8 (d:=(x.h,x.l)) e2 e3)) fun _ Ycm => ?_;clear Ycl
   obtain ⟨a3,ha3⟩ : ∃ v,v = a2.alloc (.cells (yR9.cs (x.h,x.l)).toArray 52):=⟨_,rfl⟩
   have b3 : Below a2.heap.size a2 a3:=by rw [ha3];exact BR.alloc LR _
   have p3 : SlY yR9 a3 (some ⟨a2.heap.size,0,none⟩) 1 1 [(x.h,x.l)]:=by rw [ha3];exact one9 yR9 a2 (x.h,x.l)
   have z3:=b3.size
   have hlD : ((s.M.take i).map fun x => (x.h,x.l)).length = i:=by rw [List.length_map,List.length_take];omega
   obtain ⟨vd2,a4,hr4,oD4,g4,_⟩:=run_appY kR9 a3 26 W0.heap.size _ vd _ _ _ _ p3 (oD2.grow b3) (by omega) (by rw [hlD];unfold maxLen;omega) (by rw [hlD];show (i + 1) * 16 ≤ _;omega);have oN4:=(oN2.grow b3).grownZ (oD2.grow b3) (by decide) g4;have hb4 : Below W0.heap.size W0 a4:=(oD2.grow b3).grown (hb2.trans (b3.mono (by omega))) g4 (by omega);refine vw (.slice (some ⟨a2.heap.size,0,none⟩) 1 1) a3 WN (ex_bs8 rfl (Ycm.f 64) (by rw [ha3];exact bsR9 (x.h,x.l) _)) rfl Ycm.z (by decide) (Ycm.k fun Ycn Yco => ?_);clear Ycm;refine vw (vd2) a4 WN (ex_app8 rfl (Yco.f 58) (Yco.f 65) hr4) rfl Yco.z (by decide) (Yco.k fun Ycp Ycq => ?_);clear Yco;clear hr4 g4 p3 ha3
   refine Ycq.t _ (ex_assign rfl (Ycq.f 66)) fun _ Ycr => ?_;clear Ycq
   have hz:=Ycr.z;have s1:=Ycr.a 1 rfl;have s2:=Ycr.a 2 rfl;have s5:=Ycr.a 5 rfl;have s6:=Ycr.a 6 rfl;have s7:=Ycr.a 7 rfl;have s8:=Ycr.a 8 rfl;have s9:=Ycr.a 9 rfl;have s10:=Ycr.a 10 rfl;have s11:=Ycr.a 11 rfl;have s12:=Ycr.a 12 rfl;have s14:=Ycr.a 14 rfl;clear Ycr;refine WE ?_
   go_upto_region 10 with fail
   refine WL ?_;have Ycs:=(((((((((((Rp.nil hz).cons s1).cons s2).cons s5).cons s6).cons s7).cons s8).cons s9).cons s10).cons s11).cons s12).cons s14;clear hz s1 s2 s5 s6 s7 s8 s9 s10 s11 s12 s14
   refine Ycs.t _ (ex_move rfl (Ycs.f 14)) fun _ Yct => ?_;clear Ycs
   refine Yct.t (.int .i64 ((i + 1 : Nat) : Int)) (ex_bin rfl (Yct.f 47) rfl (addD8 _ _ _ 1 ((i + 1 : Nat) : Int) (by rw [IntKind.wrap_i64];omega) _)) fun _ Ycu => ?_;clear Yct
   refine Ycu.t _ (ex_assign rfl (Ycu.f 48)) fun _ Ycv => ?_;clear Ycu
   have hz:=Ycv.z;have s1:=Ycv.a 1 rfl;have s2:=Ycv.a 2 rfl;have s5:=Ycv.a 5 rfl;have s6:=Ycv.a 6 rfl;have s7:=Ycv.a 7 rfl;have s8:=Ycv.a 8 rfl;have s9:=Ycv.a 9 rfl;have s10:=Ycv.a 10 rfl;have s11:=Ycv.a 11 rfl;have s12:=Ycv.a 12 rfl;have s14:=Ycv.a 14 rfl;clear Ycv;refine WE ?_
   have et : s.M.take (i + 1) = s.M.take i ++ [x]:=by rw [List.take_add_one,hxi];rfl
   exact ⟨_,rfl,by omega,hz,s1,s2,s5,s7,s8,s9,s11,s12,s14,vn2,vd2,s6,s10,by rw [et,List.map_append];exact oN4,by rw [et,List.map_append];exact oD4,hb4⟩
  ·have d1 : decide ((i : Int) < (s.M.length : Int)) = false:=decide_eq_false (by omega)
   go_upto_region 9 with fail
   refine WL ?_;have Ycw:=(((((((((((Rp.nil hz).cons s1).cons s2).cons s5).cons s6).cons s7).cons s8).cons s9).cons s10).cons s11).cons s12).cons s14;clear hz s1 s2 s5 s6 s7 s8 s9 s10 s11 s12 s14
   refine Ycw.t _ (ex_move rfl (Ycw.f 14)) fun _ Ycx => ?_;clear Ycw
   refine Ycx.t _ (ex_fa rfl (Ycx.f 2) (faS9 _ _)) fun _ Ycy => ?_;clear Ycx
   refine Ycy.t _ (ex_ld rfl (Ycy.f 43) (ldM8 (cell8 (HS.cell 9 _ rfl) hbw))) fun _ Ycz => ?_;clear Ycy
   refine Ycz.t _ (ex_lenM8 rfl rfl (Ycz.f 44)) fun _ Yc0 => ?_;clear Ycz
   refine Yc0.t (.bool false) (ex_bin rfl (Yc0.f 42) (Yc0.f 45) (lssD8 _ _ _ _ false d1 _)) fun _ Yc1 => ?_;clear Yc0
   have hz:=Yc1.z;have s1:=Yc1.a 1 rfl;have s2:=Yc1.a 2 rfl;have s5:=Yc1.a 5 rfl;have s6:=Yc1.a 6 rfl;have s7:=Yc1.a 7 rfl;have s8:=Yc1.a 8 rfl;have s9:=Yc1.a 9 rfl;have s10:=Yc1.a 10 rfl;have s11:=Yc1.a 11 rfl;have s12:=Yc1.a 12 rfl;have s46:=Yc1.a 46 rfl;clear Yc1;refine WE ?_
   go_upto_region 13 with fail
   refine wp_cond_false ((ev s46 rfl).trans rfl) ?_;clear s46 d1
   obtain rfl : i = s.M.length:=by omega
   rw [List.take_length] at oN oD;obtain ⟨nMk,mMk,hvn,pNMk,_⟩:=oN.sl kI9;obtain ⟨dMk,eMk,hvd,pDMk,_⟩:=oD.sl kR9;rw [List.length_map] at hvn hvd pNMk pDMk;rw [hvn] at s6;rw [hvd] at s10;clear hvn hvd oN oD HIr hit hi;have hw0:=hbw
   obtain ⟨W1,hW⟩ : ∃ v,v = wr:=⟨_,rfl⟩
   rw [← hW] at hw0 pNMk pDMk hbr hzr hbw ⊢;clear hW;have pNAk:=pNAk.later hbr;have pDAk:=pDAk.later hbr;clear hbr hbw hzr
   go_upto_region 13 with fail
   refine WL ?_;have Yc2:=((((((((((Rp.nil hz).cons s1).cons s2).cons s5).cons s6).cons s7).cons s8).cons s9).cons s10).cons s11).cons s12;clear hz s1 s2 s5 s6 s7 s8 s9 s10 s11 s12
   refine Yc2.t (.int .i64 0) (ex_assign rfl rfl) fun _ Yc3 => ?_;clear Yc2
   have hz:=Yc3.z;have s1:=Yc3.a 1 rfl;have s2:=Yc3.a 2 rfl;have s5:=Yc3.a 5 rfl;have s6:=Yc3.a 6 rfl;have s7:=Yc3.a 7 rfl;have s8:=Yc3.a 8 rfl;have s9:=Yc3.a 9 rfl;have s10:=Yc3.a 10 rfl;have s11:=Yc3.a 11 rfl;have s12:=Yc3.a 12 rfl;have s15:=Yc3.a 15 rfl;clear Yc3;refine WE ?_;have hsv : _ = some (gw true (.int .i64 ((0 : Nat) : Int))):=s15
   go_upto_region 14 with fail
   refine v_loop 15 s.B.length (fun i T wr => T.size = 143∧T[1]? = some (gw true (.int .i64 n))∧T[2]? = some (gw true (.pointer (some ⟨w.heap.size,0,none⟩)))∧T[5]? = some (gw true (.slice nAk s.A.length mAk))∧T[6]? = some (gw true (.slice nMk s.M.length mMk))∧T[8]? = some (gw true (.slice none 0 0))∧T[9]? = some (gw true (.slice dAk s.A.length eAk))∧T[10]? = some (gw true (.slice dMk s.M.length eMk))∧T[12]? = some (gw true (.slice none 0 0))∧T[15]? = some (gw true (.int .i64 (i : Int)))∧Hid (∃ vn vd,T[7]? = some (gw true vn)∧T[11]? = some (gw true vd)∧OwnY yI9 W1.heap.size wr vn ((s.B.take i).map Bl.n)∧OwnY yR9 W1.heap.size wr vd ((s.B.take i).map fun x => (x.h,x.l))∧Below W1.heap.size W1 wr)) (fun i T w h => h.2.2.2.2.2.2.2.2.2.1) ⟨hz,s1,s2,s5,s6,s8,s9,s10,s12,hsv,_,_,s7,s11,OwnY.nil _ _ _,OwnY.nil _ _ _,BR⟩ ?_;clear hz s1 s2 s5 s6 s8 s9 s10 s12 s15 s7 s11 hsv;intro i R2 wr hi hh;obtain ⟨hz,s1,s2,s5,s6,s8,s9,s10,s12,s15,HJ⟩:=hh;obtain ⟨vn,vd,s7,s11,oN,oD,hbr⟩:=HJ.out;clear HJ;have hzr:=hbr.size;have hbw:=hw0.trans (hbr.mono hw0.size);have HIr:=(hI.later (hB.trans (hbw.mono (by omega)))).b
   by_cases hit : i < s.B.length
   ·have d1 : decide ((i : Int) < (s.B.length : Int)) = true:=decide_eq_true (by omega)
    go_upto_region 14 with fail
    refine WL ?_;have Yc4:=(((((((((((Rp.nil hz).cons s1).cons s2).cons s5).cons s6).cons s7).cons s8).cons s9).cons s10).cons s11).cons s12).cons s15;clear hz s1 s2 s5 s6 s7 s8 s9 s10 s11 s12 s15
    refine Yc4.t _ (ex_move rfl (Yc4.f 15)) fun _ Yc5 => ?_;clear Yc4
    refine Yc5.t _ (ex_fa rfl (Yc5.f 2) (faS10 _ _)) fun _ Yc6 => ?_;clear Yc5
    refine Yc6.t _ (ex_ld rfl (Yc6.f 68) (ldB8 (cell8 (HS.cell 10 _ rfl) hbw))) fun _ Yc7 => ?_;clear Yc6
    refine Yc7.t _ (ex_lenB8 rfl rfl (Yc7.f 69)) fun _ Yc8 => ?_;clear Yc7
    refine Yc8.t (.bool true) (ex_bin rfl (Yc8.f 67) (Yc8.f 70) (lssD8 _ _ _ _ true d1 _)) fun _ Yc9 => ?_;clear Yc8
    have hz:=Yc9.z;have s1:=Yc9.a 1 rfl;have s2:=Yc9.a 2 rfl;have s5:=Yc9.a 5 rfl;have s6:=Yc9.a 6 rfl;have s7:=Yc9.a 7 rfl;have s8:=Yc9.a 8 rfl;have s9:=Yc9.a 9 rfl;have s10:=Yc9.a 10 rfl;have s11:=Yc9.a 11 rfl;have s12:=Yc9.a 12 rfl;have s15:=Yc9.a 15 rfl;have s71:=Yc9.a 71 rfl;clear Yc9;refine WE ?_
    go_upto_region 16 with fail
    refine wp_cond_true ((ev s71 rfl).trans rfl) ?_;clear s71 d1
    obtain ⟨x,hxi⟩ : ∃ x,s.B[i]? = some x:=⟨_,List.getElem?_eq_getElem hit⟩
    obtain ⟨q,o,hqa,hq,hl⟩:=HIr.place (by intro e;rw [e] at hit;simp at hit);have e1 : wr.cell? ⟨q,o + i * 6,none⟩ = some (.int .i64 x.n):=hl i x hxi 0 _ rfl;have e2 : wr.cell? ⟨q,o + i * 6 + 1,none⟩ = some (.int .u64 x.h):=hl i x hxi 1 _ rfl;have e3 : wr.cell? ⟨q,o + i * 6 + 2,none⟩ = some (.int .u64 x.l):=hl i x hxi 2 _ rfl
    go_upto_region 16 with fail
    refine WL ?_;have Yda:=(((((((((((Rp.nil hz).cons s1).cons s2).cons s5).cons s6).cons s7).cons s8).cons s9).cons s10).cons s11).cons s12).cons s15;clear hz s1 s2 s5 s6 s7 s8 s9 s10 s11 s12 s15
    refine Yda.t _ (ex_move rfl (Yda.f 7)) fun _ Ydb => ?_;clear Yda
    refine Ydb.t _ (ex_fa rfl (Ydb.f 2) (faS10 _ _)) fun _ Ydc => ?_;clear Ydb
    refine Ydc.t _ (ex_ld rfl (Ydc.f 75) (ldB8 (cell8 (HS.cell 10 _ rfl) hbw))) fun _ Ydd => ?_;clear Ydc
    refine Ydd.t _ (ex_move rfl (Ydd.f 15)) fun _ Yde => ?_;clear Ydd
    refine Yde.t (.pointer (some ⟨q,o + i * 6,none⟩)) (ex_ix rfl (Yde.f 76) (Yde.f 77) (by rw [hqa];exact ix9Bl q o s.B.length s.bc i hit _)) fun _ Ydf => ?_;clear Yde
    refine Ydf.t _ (ex_fa rfl (Ydf.f 78) (fa0Bl _ _ _)) fun _ Ydg => ?_;clear Ydf
    refine Ydg.t _ (ex_ld rfl (Ydg.f 79) (ldI8 e1)) fun _ Ydh => ?_;clear Ydg
    obtain ⟨a1,ha1⟩ : ∃ v,v = wr.alloc (.cells (yI9.cs x.n).toArray 3):=⟨_,rfl⟩
    have b1 : Below wr.heap.size wr a1:=by rw [ha1];exact BR.alloc LR _
    have p1 : SlY yI9 a1 (some ⟨wr.heap.size,0,none⟩) 1 1 [x.n]:=by rw [ha1];exact one9 yI9 wr x.n
    have z1:=b1.size
    have hlN : ((s.B.take i).map Bl.n).length = i:=by rw [List.length_map,List.length_take];omega
    obtain ⟨vn2,a2,hr2,oN2,g2,_⟩:=run_appY kI9 a1 134 W1.heap.size _ vn _ _ _ _ p1 (oN.grow b1) (by omega) (by rw [hlN];unfold maxLen;omega) (by rw [hlN];show (i + 1) * 8 ≤ _;omega);have oD2:=(oD.grow b1).grownZ (oN.grow b1) (by decide) g2;have hb2 : Below W1.heap.size W1 a2:=(oN.grow b1).grown (hbr.trans (b1.mono (by omega))) g2 (by omega);refine vw (.slice (some ⟨wr.heap.size,0,none⟩) 1 1) a1 WN (ex_bs8 rfl (Ydh.f 80) (by rw [ha1];exact bsI9 _ _)) rfl Ydh.z (by decide) (Ydh.k fun Ydi Ydj => ?_);clear Ydh;refine vw (vn2) a2 WN (ex_app8 rfl (Ydj.f 74) (Ydj.f 81) hr2) rfl Ydj.z (by decide) (Ydj.k fun Ydk Ydl => ?_);clear Ydj;clear hr2 g2 p1 ha1
    refine Ydl.t _ (ex_assign rfl (Ydl.f 82)) fun _ Ydm => ?_;clear Ydl
    have hz:=Ydm.z;have s1:=Ydm.a 1 rfl;have s2:=Ydm.a 2 rfl;have s5:=Ydm.a 5 rfl;have s6:=Ydm.a 6 rfl;have s7:=Ydm.a 7 rfl;have s8:=Ydm.a 8 rfl;have s9:=Ydm.a 9 rfl;have s10:=Ydm.a 10 rfl;have s11:=Ydm.a 11 rfl;have s12:=Ydm.a 12 rfl;have s15:=Ydm.a 15 rfl;clear Ydm;refine WE ?_;have z2:=hb2.size;have hbw2:=hw0.trans (hb2.mono hw0.size);have HI2:=(hI.later (hB.trans (hbw2.mono (by omega)))).b;clear e1 e2 e3 hl hq;obtain ⟨q2,o2,hqa2,hq2,hl2⟩:=HI2.place (by intro e;rw [e] at hit;simp at hit);rw [hqa] at hqa2
    cases hqa2
    have e2 : a2.cell? ⟨q,o + i * 6 + 1,none⟩ = some (.int .u64 x.h):=hl2 i x hxi 1 _ rfl;have e3 : a2.cell? ⟨q,o + i * 6 + 2,none⟩ = some (.int .u64 x.l):=hl2 i x hxi 2 _ rfl
    go_upto_region 17 with fail
    refine WL ?_;have Ydn:=(((((((((((Rp.nil hz).cons s1).cons s2).cons s5).cons s6).cons s7).cons s8).cons s9).cons s10).cons s11).cons s12).cons s15;clear hz s1 s2 s5 s6 s7 s8 s9 s10 s11 s12 s15
    refine Ydn.t _ (ex_move rfl (Ydn.f 11)) fun _ Ydo => ?_;clear Ydn
    refine Ydo.t _ (ex_fa rfl (Ydo.f 2) (faS10 _ _)) fun _ Ydp => ?_;clear Ydo
    refine Ydp.t _ (ex_ld rfl (Ydp.f 84) (ldB8 (cell8 (HS.cell 10 _ rfl) hbw2))) fun _ Ydq => ?_;clear Ydp
    refine Ydq.t _ (ex_move rfl (Ydq.f 15)) fun _ Ydr => ?_;clear Ydq
    refine Ydr.t (.pointer (some ⟨q,o + i * 6,none⟩)) (ex_ix rfl (Ydr.f 85) (Ydr.f 86) (by rw [hqa];exact ix9Bl q o s.B.length s.bc i hit _)) fun _ Yds => ?_;clear Ydr
    refine Yds.t _ (ex_fa rfl (Yds.f 87) (fa1Bl _ _ _)) fun _ Ydt => ?_;clear Yds
    refine Ydt.t _ (ex_ld rfl (Ydt.f 88) (ldDr8 (d:=(x.h,x.l)) e2 e3)) fun _ Ydu => ?_;clear Ydt
    obtain ⟨a3,ha3⟩ : ∃ v,v = a2.alloc (.cells (yR9.cs (x.h,x.l)).toArray 52):=⟨_,rfl⟩
    have b3 : Below a2.heap.size a2 a3:=by rw [ha3];exact BR.alloc LR _
    have p3 : SlY yR9 a3 (some ⟨a2.heap.size,0,none⟩) 1 1 [(x.h,x.l)]:=by rw [ha3];exact one9 yR9 a2 (x.h,x.l)
    have z3:=b3.size
    have hlD : ((s.B.take i).map fun x => (x.h,x.l)).length = i:=by rw [List.length_map,List.length_take];omega
    obtain ⟨vd2,a4,hr4,oD4,g4,_⟩:=run_appY kR9 a3 26 W1.heap.size _ vd _ _ _ _ p3 (oD2.grow b3) (by omega) (by rw [hlD];unfold maxLen;omega) (by rw [hlD];show (i + 1) * 16 ≤ _;omega);have oN4:=(oN2.grow b3).grownZ (oD2.grow b3) (by decide) g4;have hb4 : Below W1.heap.size W1 a4:=(oD2.grow b3).grown (hb2.trans (b3.mono (by omega))) g4 (by omega);refine vw (.slice (some ⟨a2.heap.size,0,none⟩) 1 1) a3 WN (ex_bs8 rfl (Ydu.f 89) (by rw [ha3];exact bsR9 (x.h,x.l) _)) rfl Ydu.z (by decide) (Ydu.k fun Ydv Ydw => ?_);clear Ydu;refine vw (vd2) a4 WN (ex_app8 rfl (Ydw.f 83) (Ydw.f 90) hr4) rfl Ydw.z (by decide) (Ydw.k fun Ydx Ydy => ?_);clear Ydw;clear hr4 g4 p3 ha3
    refine Ydy.t _ (ex_assign rfl (Ydy.f 91)) fun _ Ydz => ?_;clear Ydy
    have hz:=Ydz.z;have s1:=Ydz.a 1 rfl;have s2:=Ydz.a 2 rfl;have s5:=Ydz.a 5 rfl;have s6:=Ydz.a 6 rfl;have s7:=Ydz.a 7 rfl;have s8:=Ydz.a 8 rfl;have s9:=Ydz.a 9 rfl;have s10:=Ydz.a 10 rfl;have s11:=Ydz.a 11 rfl;have s12:=Ydz.a 12 rfl;have s15:=Ydz.a 15 rfl;clear Ydz;refine WE ?_
    go_upto_region 15 with fail
    refine WL ?_;have Yd0:=(((((((((((Rp.nil hz).cons s1).cons s2).cons s5).cons s6).cons s7).cons s8).cons s9).cons s10).cons s11).cons s12).cons s15;clear hz s1 s2 s5 s6 s7 s8 s9 s10 s11 s12 s15
    refine Yd0.t _ (ex_move rfl (Yd0.f 15)) fun _ Yd1 => ?_;clear Yd0
    refine Yd1.t (.int .i64 ((i + 1 : Nat) : Int)) (ex_bin rfl (Yd1.f 72) rfl (addD8 _ _ _ 1 ((i + 1 : Nat) : Int) (by rw [IntKind.wrap_i64];omega) _)) fun _ Yd2 => ?_;clear Yd1
    refine Yd2.t _ (ex_assign rfl (Yd2.f 73)) fun _ Yd3 => ?_;clear Yd2
    have hz:=Yd3.z;have s1:=Yd3.a 1 rfl;have s2:=Yd3.a 2 rfl;have s5:=Yd3.a 5 rfl;have s6:=Yd3.a 6 rfl;have s7:=Yd3.a 7 rfl;have s8:=Yd3.a 8 rfl;have s9:=Yd3.a 9 rfl;have s10:=Yd3.a 10 rfl;have s11:=Yd3.a 11 rfl;have s12:=Yd3.a 12 rfl;have s15:=Yd3.a 15 rfl;clear Yd3;refine WE ?_
    have et : s.B.take (i + 1) = s.B.take i ++ [x]:=by rw [List.take_add_one,hxi];rfl
    exact ⟨_,rfl,by omega,hz,s1,s2,s5,s6,s8,s9,s10,s12,s15,vn2,vd2,s7,s11,by rw [et,List.map_append];exact oN4,by rw [et,List.map_append];exact oD4,hb4⟩
   ·have d1 : decide ((i : Int) < (s.B.length : Int)) = false:=decide_eq_false (by omega)
    go_upto_region 14 with fail
    refine WL ?_;have Yd4:=(((((((((((Rp.nil hz).cons s1).cons s2).cons s5).cons s6).cons s7).cons s8).cons s9).cons s10).cons s11).cons s12).cons s15;clear hz s1 s2 s5 s6 s7 s8 s9 s10 s11 s12 s15
    refine Yd4.t _ (ex_move rfl (Yd4.f 15)) fun _ Yd5 => ?_;clear Yd4
    refine Yd5.t _ (ex_fa rfl (Yd5.f 2) (faS10 _ _)) fun _ Yd6 => ?_;clear Yd5
    refine Yd6.t _ (ex_ld rfl (Yd6.f 68) (ldB8 (cell8 (HS.cell 10 _ rfl) hbw))) fun _ Yd7 => ?_;clear Yd6
    refine Yd7.t _ (ex_lenB8 rfl rfl (Yd7.f 69)) fun _ Yd8 => ?_;clear Yd7
    refine Yd8.t (.bool false) (ex_bin rfl (Yd8.f 67) (Yd8.f 70) (lssD8 _ _ _ _ false d1 _)) fun _ Yd9 => ?_;clear Yd8
    have hz:=Yd9.z;have s1:=Yd9.a 1 rfl;have s2:=Yd9.a 2 rfl;have s5:=Yd9.a 5 rfl;have s6:=Yd9.a 6 rfl;have s7:=Yd9.a 7 rfl;have s8:=Yd9.a 8 rfl;have s9:=Yd9.a 9 rfl;have s10:=Yd9.a 10 rfl;have s11:=Yd9.a 11 rfl;have s12:=Yd9.a 12 rfl;have s71:=Yd9.a 71 rfl;clear Yd9;refine WE ?_
    go_upto_region 18 with fail
    refine wp_cond_false ((ev s71 rfl).trans rfl) ?_;clear s71 d1
    obtain rfl : i = s.B.length:=by omega
    rw [List.take_length] at oN oD;obtain ⟨nBl,mBl,hvn,pNBl,_⟩:=oN.sl kI9;obtain ⟨dBl,eBl,hvd,pDBl,_⟩:=oD.sl kR9;rw [List.length_map] at hvn hvd pNBl pDBl;rw [hvn] at s7;rw [hvd] at s11;clear hvn hvd oN oD HIr hit hi;have hw0:=hbw
    obtain ⟨W2,hW⟩ : ∃ v,v = wr:=⟨_,rfl⟩
    rw [← hW] at hw0 pNBl pDBl hbr hzr hbw ⊢;clear hW;have pNAk:=pNAk.later hbr;have pDAk:=pDAk.later hbr;have pNMk:=pNMk.later hbr;have pDMk:=pDMk.later hbr;clear hbr hbw hzr
    go_upto_region 18 with fail
    refine WL ?_;have Yea:=((((((((((Rp.nil hz).cons s1).cons s2).cons s5).cons s6).cons s7).cons s8).cons s9).cons s10).cons s11).cons s12;clear hz s1 s2 s5 s6 s7 s8 s9 s10 s11 s12
    refine Yea.t (.int .i64 0) (ex_assign rfl rfl) fun _ Yeb => ?_;clear Yea
    have hz:=Yeb.z;have s1:=Yeb.a 1 rfl;have s2:=Yeb.a 2 rfl;have s5:=Yeb.a 5 rfl;have s6:=Yeb.a 6 rfl;have s7:=Yeb.a 7 rfl;have s8:=Yeb.a 8 rfl;have s9:=Yeb.a 9 rfl;have s10:=Yeb.a 10 rfl;have s11:=Yeb.a 11 rfl;have s12:=Yeb.a 12 rfl;have s16:=Yeb.a 16 rfl;clear Yeb;refine WE ?_;have hsv : _ = some (gw true (.int .i64 ((0 : Nat) : Int))):=s16
    go_upto_region 19 with fail
    refine v_loop 16 s.N.length (fun i T wr => T.size = 143∧T[1]? = some (gw true (.int .i64 n))∧T[2]? = some (gw true (.pointer (some ⟨w.heap.size,0,none⟩)))∧T[5]? = some (gw true (.slice nAk s.A.length mAk))∧T[6]? = some (gw true (.slice nMk s.M.length mMk))∧T[7]? = some (gw true (.slice nBl s.B.length mBl))∧T[9]? = some (gw true (.slice dAk s.A.length eAk))∧T[10]? = some (gw true (.slice dMk s.M.length eMk))∧T[11]? = some (gw true (.slice dBl s.B.length eBl))∧T[16]? = some (gw true (.int .i64 (i : Int)))∧Hid (∃ vn vd,T[8]? = some (gw true vn)∧T[12]? = some (gw true vd)∧OwnY yI9 W2.heap.size wr vn ((s.N.take i).map An.n)∧OwnY yR9 W2.heap.size wr vd ((s.N.take i).map fun x => (x.h,x.l))∧Below W2.heap.size W2 wr)) (fun i T w h => h.2.2.2.2.2.2.2.2.2.1) ⟨hz,s1,s2,s5,s6,s7,s9,s10,s11,hsv,_,_,s8,s12,OwnY.nil _ _ _,OwnY.nil _ _ _,BR⟩ ?_;clear hz s1 s2 s5 s6 s7 s9 s10 s11 s16 s8 s12 hsv;intro i R3 wr hi hh;obtain ⟨hz,s1,s2,s5,s6,s7,s9,s10,s11,s16,HJ⟩:=hh;obtain ⟨vn,vd,s8,s12,oN,oD,hbr⟩:=HJ.out;clear HJ;have hzr:=hbr.size;have hbw:=hw0.trans (hbr.mono hw0.size);have HIr:=(hI.later (hB.trans (hbw.mono (by omega)))).n
    by_cases hit : i < s.N.length
    ·have d1 : decide ((i : Int) < (s.N.length : Int)) = true:=decide_eq_true (by omega)
     go_upto_region 19 with fail
     refine WL ?_;have Yec:=(((((((((((Rp.nil hz).cons s1).cons s2).cons s5).cons s6).cons s7).cons s8).cons s9).cons s10).cons s11).cons s12).cons s16;clear hz s1 s2 s5 s6 s7 s8 s9 s10 s11 s12 s16
     refine Yec.t _ (ex_move rfl (Yec.f 16)) fun _ Yed => ?_;clear Yec
     refine Yed.t _ (ex_fa rfl (Yed.f 2) (faS11 _ _)) fun _ Yee => ?_;clear Yed
     refine Yee.t _ (ex_ld rfl (Yee.f 93) (ldN8 (cell8 (HS.cell 11 _ rfl) hbw))) fun _ Yef => ?_;clear Yee
     refine Yef.t _ (ex_lenN8 rfl rfl (Yef.f 94)) fun _ Yeg => ?_;clear Yef
     refine Yeg.t (.bool true) (ex_bin rfl (Yeg.f 92) (Yeg.f 95) (lssD8 _ _ _ _ true d1 _)) fun _ Yeh => ?_;clear Yeg
     have hz:=Yeh.z;have s1:=Yeh.a 1 rfl;have s2:=Yeh.a 2 rfl;have s5:=Yeh.a 5 rfl;have s6:=Yeh.a 6 rfl;have s7:=Yeh.a 7 rfl;have s8:=Yeh.a 8 rfl;have s9:=Yeh.a 9 rfl;have s10:=Yeh.a 10 rfl;have s11:=Yeh.a 11 rfl;have s12:=Yeh.a 12 rfl;have s16:=Yeh.a 16 rfl;have s96:=Yeh.a 96 rfl;clear Yeh;refine WE ?_
     go_upto_region 21 with fail
     refine wp_cond_true ((ev s96 rfl).trans rfl) ?_;clear s96 d1
     obtain ⟨x,hxi⟩ : ∃ x,s.N[i]? = some x:=⟨_,List.getElem?_eq_getElem hit⟩
     obtain ⟨q,o,hqa,hq,hl⟩:=HIr.place (by intro e;rw [e] at hit;simp at hit);have e1 : wr.cell? ⟨q,o + i * 6,none⟩ = some (.int .i64 x.n):=hl i x hxi 0 _ rfl;have e2 : wr.cell? ⟨q,o + i * 6 + 1,none⟩ = some (.int .u64 x.h):=hl i x hxi 1 _ rfl;have e3 : wr.cell? ⟨q,o + i * 6 + 2,none⟩ = some (.int .u64 x.l):=hl i x hxi 2 _ rfl
     go_upto_region 21 with fail
     refine WL ?_;have Yei:=(((((((((((Rp.nil hz).cons s1).cons s2).cons s5).cons s6).cons s7).cons s8).cons s9).cons s10).cons s11).cons s12).cons s16;clear hz s1 s2 s5 s6 s7 s8 s9 s10 s11 s12 s16
     refine Yei.t _ (ex_move rfl (Yei.f 8)) fun _ Yej => ?_;clear Yei
     refine Yej.t _ (ex_fa rfl (Yej.f 2) (faS11 _ _)) fun _ Yek => ?_;clear Yej
     refine Yek.t _ (ex_ld rfl (Yek.f 100) (ldN8 (cell8 (HS.cell 11 _ rfl) hbw))) fun _ Yel => ?_;clear Yek
     refine Yel.t _ (ex_move rfl (Yel.f 16)) fun _ Yem => ?_;clear Yel
     refine Yem.t (.pointer (some ⟨q,o + i * 6,none⟩)) (ex_ix rfl (Yem.f 101) (Yem.f 102) (by rw [hqa];exact ix9An q o s.N.length s.nc i hit _)) fun _ Yen => ?_;clear Yem
     refine Yen.t _ (ex_fa rfl (Yen.f 103) (fa0An _ _ _)) fun _ Yeo => ?_;clear Yen
     refine Yeo.t _ (ex_ld rfl (Yeo.f 104) (ldI8 e1)) fun _ Yep => ?_;clear Yeo
     obtain ⟨a1,ha1⟩ : ∃ v,v = wr.alloc (.cells (yI9.cs x.n).toArray 3):=⟨_,rfl⟩
     have b1 : Below wr.heap.size wr a1:=by rw [ha1];exact BR.alloc LR _
     have p1 : SlY yI9 a1 (some ⟨wr.heap.size,0,none⟩) 1 1 [x.n]:=by rw [ha1];exact one9 yI9 wr x.n
     have z1:=b1.size
     have hlN : ((s.N.take i).map An.n).length = i:=by rw [List.length_map,List.length_take];omega
     obtain ⟨vn2,a2,hr2,oN2,g2,_⟩:=run_appY kI9 a1 134 W2.heap.size _ vn _ _ _ _ p1 (oN.grow b1) (by omega) (by rw [hlN];unfold maxLen;omega) (by rw [hlN];show (i + 1) * 8 ≤ _;omega);have oD2:=(oD.grow b1).grownZ (oN.grow b1) (by decide) g2;have hb2 : Below W2.heap.size W2 a2:=(oN.grow b1).grown (hbr.trans (b1.mono (by omega))) g2 (by omega);refine vw (.slice (some ⟨wr.heap.size,0,none⟩) 1 1) a1 WN (ex_bs8 rfl (Yep.f 105) (by rw [ha1];exact bsI9 _ _)) rfl Yep.z (by decide) (Yep.k fun Yeq Yer => ?_);clear Yep;refine vw (vn2) a2 WN (ex_app8 rfl (Yer.f 99) (Yer.f 106) hr2) rfl Yer.z (by decide) (Yer.k fun Yes Yet => ?_);clear Yer;clear hr2 g2 p1 ha1
     refine Yet.t _ (ex_assign rfl (Yet.f 107)) fun _ Yeu => ?_;clear Yet
     have hz:=Yeu.z;have s1:=Yeu.a 1 rfl;have s2:=Yeu.a 2 rfl;have s5:=Yeu.a 5 rfl;have s6:=Yeu.a 6 rfl;have s7:=Yeu.a 7 rfl;have s8:=Yeu.a 8 rfl;have s9:=Yeu.a 9 rfl;have s10:=Yeu.a 10 rfl;have s11:=Yeu.a 11 rfl;have s12:=Yeu.a 12 rfl;have s16:=Yeu.a 16 rfl;clear Yeu;refine WE ?_;have z2:=hb2.size;have hbw2:=hw0.trans (hb2.mono hw0.size);have HI2:=(hI.later (hB.trans (hbw2.mono (by omega)))).n;clear e1 e2 e3 hl hq;obtain ⟨q2,o2,hqa2,hq2,hl2⟩:=HI2.place (by intro e;rw [e] at hit;simp at hit);rw [hqa] at hqa2
     cases hqa2
     have e2 : a2.cell? ⟨q,o + i * 6 + 1,none⟩ = some (.int .u64 x.h):=hl2 i x hxi 1 _ rfl;have e3 : a2.cell? ⟨q,o + i * 6 + 2,none⟩ = some (.int .u64 x.l):=hl2 i x hxi 2 _ rfl
     go_upto_region 22 with fail
     refine WL ?_;have Yev:=(((((((((((Rp.nil hz).cons s1).cons s2).cons s5).cons s6).cons s7).cons s8).cons s9).cons s10).cons s11).cons s12).cons s16;clear hz s1 s2 s5 s6 s7 s8 s9 s10 s11 s12 s16
     refine Yev.t _ (ex_move rfl (Yev.f 12)) fun _ Yew => ?_;clear Yev
     refine Yew.t _ (ex_fa rfl (Yew.f 2) (faS11 _ _)) fun _ Yex => ?_;clear Yew
     refine Yex.t _ (ex_ld rfl (Yex.f 109) (ldN8 (cell8 (HS.cell 11 _ rfl) hbw2))) fun _ Yey => ?_;clear Yex
     refine Yey.t _ (ex_move rfl (Yey.f 16)) fun _ Yez => ?_;clear Yey
     refine Yez.t (.pointer (some ⟨q,o + i * 6,none⟩)) (ex_ix rfl (Yez.f 110) (Yez.f 111) (by rw [hqa];exact ix9An q o s.N.length s.nc i hit _)) fun _ Ye0 => ?_;clear Yez
     refine Ye0.t _ (ex_fa rfl (Ye0.f 112) (fa1An _ _ _)) fun _ Ye1 => ?_;clear Ye0
     refine Ye1.t _ (ex_ld rfl (Ye1.f 113) (ldDr8 (d:=(x.h,x.l)) e2 e3)) fun _ Ye2 => ?_;clear Ye1
     obtain ⟨a3,ha3⟩ : ∃ v,v = a2.alloc (.cells (yR9.cs (x.h,x.l)).toArray 52):=⟨_,rfl⟩
     have b3 : Below a2.heap.size a2 a3:=by rw [ha3];exact BR.alloc LR _
     have p3 : SlY yR9 a3 (some ⟨a2.heap.size,0,none⟩) 1 1 [(x.h,x.l)]:=by rw [ha3];exact one9 yR9 a2 (x.h,x.l)
     have z3:=b3.size
     have hlD : ((s.N.take i).map fun x => (x.h,x.l)).length = i:=by rw [List.length_map,List.length_take];omega
     obtain ⟨vd2,a4,hr4,oD4,g4,_⟩:=run_appY kR9 a3 26 W2.heap.size _ vd _ _ _ _ p3 (oD2.grow b3) (by omega) (by rw [hlD];unfold maxLen;omega) (by rw [hlD];show (i + 1) * 16 ≤ _;omega);have oN4:=(oN2.grow b3).grownZ (oD2.grow b3) (by decide) g4;have hb4 : Below W2.heap.size W2 a4:=(oD2.grow b3).grown (hb2.trans (b3.mono (by omega))) g4 (by omega);refine vw (.slice (some ⟨a2.heap.size,0,none⟩) 1 1) a3 WN (ex_bs8 rfl (Ye2.f 114) (by rw [ha3];exact bsR9 (x.h,x.l) _)) rfl Ye2.z (by decide) (Ye2.k fun Ye3 Ye4 => ?_);clear Ye2;refine vw (vd2) a4 WN (ex_app8 rfl (Ye4.f 108) (Ye4.f 115) hr4) rfl Ye4.z (by decide) (Ye4.k fun Ye5 Ye6 => ?_);clear Ye4;clear hr4 g4 p3 ha3
     refine Ye6.t _ (ex_assign rfl (Ye6.f 116)) fun _ Ye7 => ?_;clear Ye6
     have hz:=Ye7.z;have s1:=Ye7.a 1 rfl;have s2:=Ye7.a 2 rfl;have s5:=Ye7.a 5 rfl;have s6:=Ye7.a 6 rfl;have s7:=Ye7.a 7 rfl;have s8:=Ye7.a 8 rfl;have s9:=Ye7.a 9 rfl;have s10:=Ye7.a 10 rfl;have s11:=Ye7.a 11 rfl;have s12:=Ye7.a 12 rfl;have s16:=Ye7.a 16 rfl;clear Ye7;refine WE ?_
     go_upto_region 20 with fail
     refine WL ?_;have Ye8:=(((((((((((Rp.nil hz).cons s1).cons s2).cons s5).cons s6).cons s7).cons s8).cons s9).cons s10).cons s11).cons s12).cons s16;clear hz s1 s2 s5 s6 s7 s8 s9 s10 s11 s12 s16
     refine Ye8.t _ (ex_move rfl (Ye8.f 16)) fun _ Ye9 => ?_;clear Ye8
     refine Ye9.t (.int .i64 ((i + 1 : Nat) : Int)) (ex_bin rfl (Ye9.f 97) rfl (addD8 _ _ _ 1 ((i + 1 : Nat) : Int) (by rw [IntKind.wrap_i64];omega) _)) fun _ Yfa => ?_;clear Ye9
     refine Yfa.t _ (ex_assign rfl (Yfa.f 98)) fun _ Yfb => ?_;clear Yfa
     have hz:=Yfb.z;have s1:=Yfb.a 1 rfl;have s2:=Yfb.a 2 rfl;have s5:=Yfb.a 5 rfl;have s6:=Yfb.a 6 rfl;have s7:=Yfb.a 7 rfl;have s8:=Yfb.a 8 rfl;have s9:=Yfb.a 9 rfl;have s10:=Yfb.a 10 rfl;have s11:=Yfb.a 11 rfl;have s12:=Yfb.a 12 rfl;have s16:=Yfb.a 16 rfl;clear Yfb;refine WE ?_
     have et : s.N.take (i + 1) = s.N.take i ++ [x]:=by rw [List.take_add_one,hxi];rfl
     exact ⟨_,rfl,by omega,hz,s1,s2,s5,s6,s7,s9,s10,s11,s16,vn2,vd2,s8,s12,by rw [et,List.map_append];exact oN4,by rw [et,List.map_append];exact oD4,hb4⟩
    ·have d1 : decide ((i : Int) < (s.N.length : Int)) = false:=decide_eq_false (by omega)
     go_upto_region 19 with fail
     refine WL ?_;have Yfc:=(((((((((((Rp.nil hz).cons s1).cons s2).cons s5).cons s6).cons s7).cons s8).cons s9).cons s10).cons s11).cons s12).cons s16;clear hz s1 s2 s5 s6 s7 s8 s9 s10 s11 s12 s16
     refine Yfc.t _ (ex_move rfl (Yfc.f 16)) fun _ Yfd => ?_;clear Yfc
     refine Yfd.t _ (ex_fa rfl (Yfd.f 2) (faS11 _ _)) fun _ Yfe => ?_;clear Yfd
     refine Yfe.t _ (ex_ld rfl (Yfe.f 93) (ldN8 (cell8 (HS.cell 11 _ rfl) hbw))) fun _ Yff => ?_;clear Yfe
     refine Yff.t _ (ex_lenN8 rfl rfl (Yff.f 94)) fun _ Yfg => ?_;clear Yff
     refine Yfg.t (.bool false) (ex_bin rfl (Yfg.f 92) (Yfg.f 95) (lssD8 _ _ _ _ false d1 _)) fun _ Yfh => ?_;clear Yfg
     have hz:=Yfh.z;have s1:=Yfh.a 1 rfl;have s2:=Yfh.a 2 rfl;have s5:=Yfh.a 5 rfl;have s6:=Yfh.a 6 rfl;have s7:=Yfh.a 7 rfl;have s8:=Yfh.a 8 rfl;have s9:=Yfh.a 9 rfl;have s10:=Yfh.a 10 rfl;have s11:=Yfh.a 11 rfl;have s12:=Yfh.a 12 rfl;have s96:=Yfh.a 96 rfl;clear Yfh;refine WE ?_
     go_upto_region 23 with fail
     refine wp_cond_false ((ev s96 rfl).trans rfl) ?_;clear s96 d1
     obtain rfl : i = s.N.length:=by omega
     rw [List.take_length] at oN oD;obtain ⟨nAn,mAn,hvn,pNAn,_⟩:=oN.sl kI9;obtain ⟨dAn,eAn,hvd,pDAn,_⟩:=oD.sl kR9;rw [List.length_map] at hvn hvd pNAn pDAn;rw [hvn] at s8;rw [hvd] at s12;clear hvn hvd oN oD HIr hit hi;have hw0:=hbw
     obtain ⟨W3,hW⟩ : ∃ v,v = wr:=⟨_,rfl⟩
     rw [← hW] at hw0 pNAn pDAn hbr hzr hbw ⊢;clear hW;have pNAk:=pNAk.later hbr;have pDAk:=pDAk.later hbr;have pNMk:=pNMk.later hbr;have pDMk:=pDMk.later hbr;have pNBl:=pNBl.later hbr;have pDBl:=pDBl.later hbr;clear hbr hbw hzr;have HS:=HS.bel hw0;have hB:=hB.trans (hw0.mono (by omega));have hv9 : Below W3.heap.size W3 W3:=BR;have hzW:=hw0.size;have hz1:=hB.size
     go_upto_region 23 with fail
     refine WL ?_;have Yfi:=((((((((((Rp.nil hz).cons s1).cons s2).cons s5).cons s6).cons s7).cons s8).cons s9).cons s10).cons s11).cons s12;clear hz s1 s2 s5 s6 s7 s8 s9 s10 s11 s12
     refine Yfi.t _ (ex_ld rfl (Yfi.f 2) (SB7.ld (HS.bel hv9))) fun _ Yfj => ?_;clear Yfi
     refine Yfj.t _ (ex_move rfl (Yfj.f 1)) fun _ Yfk => ?_;clear Yfj
     refine Yfk.t _ (ex_move rfl (Yfk.f 5)) fun _ Yfl => ?_;clear Yfk
     refine Yfl.t _ (ex_move rfl (Yfl.f 9)) fun _ Yfm => ?_;clear Yfl
     refine vcall true (.bool (rv9 s n (s.A.map Ak.sm))) WN (fun hc => ex_call rfl (by simp only [LA,LB,LC,(Yfm.f 117),(Yfm.f 118),(Yfm.f 119),(Yfm.f 120),evc] <;> rfl) rfl) (fun hc => rvoters9' s n (s.A.map Ak.sm) nAk dAk mAk eAk s.A.length (List.length_map _) W3 (hI.later (hB.trans (hv9.mono hz1))) hn hn1 (by rw [List.map_map];exact pNAk.later hv9) (by rw [List.map_map];exact pDAk.later hv9)) rfl Yfm.z (by decide) (Yfm.kc fun Yfn x41 hb Yfo => ?_);clear Yfm;have hx41:=hv9.trans (hb.mono hv9.size);clear hb
     refine Yfo.t _ (ex_move rfl (Yfo.f 121)) fun _ Yfp => ?_;clear Yfo
     refine Yfp.g 122 rfl rfl _ (fun hc => ex_ld rfl (Yfp.f 2) (SB7.ld (HS.bel hx41))) fun Yfq Yfr => ?_;clear Yfp
     refine Yfr.g 122 rfl rfl _ (fun hc => ex_move rfl (Yfr.f 1)) fun Yfs Yft => ?_;clear Yfr
     refine Yft.g 122 rfl rfl _ (fun hc => ex_move rfl (Yft.f 6)) fun Yfu Yfv => ?_;clear Yft
     refine Yfv.g 122 rfl rfl _ (fun hc => ex_move rfl (Yfv.f 10)) fun Yfw Yfx => ?_;clear Yfv
     refine vcall (true && ((rv9 s n (s.A.map Ak.sm)) == true)) (.bool (rv9 s n (s.M.map Mk.sm))) (want_g rfl rfl (Yfx.a 122 rfl)) (fun hc => ex_call rfl (by simp only [LA,LB,LC,(Yfx.v 123 hc),(Yfx.v 124 hc),(Yfx.v 125 hc),(Yfx.v 126 hc),evc] <;> rfl) rfl) (fun hc => rvoters9' s n (s.M.map Mk.sm) nMk dMk mMk eMk s.M.length (List.length_map _) x41 (hI.later (hB.trans (hx41.mono hz1))) hn hn1 (by rw [List.map_map];exact pNMk.later hx41) (by rw [List.map_map];exact pDMk.later hx41)) rfl Yfx.z (by decide) (Yfx.kc fun Yfy x42 hb Yfz => ?_);clear Yfx;have hx42:=hx41.trans (hb.mono hx41.size);clear hb
     refine Yfz.t (.bool ((rv9 s n (s.A.map Ak.sm)) && (rv9 s n (s.M.map Mk.sm)))) (ex_and rfl (Yfz.a 122 rfl) (Yfz.a 127 rfl) rfl) fun _ Yf0 => ?_;clear Yfz
     refine Yf0.t _ (ex_move rfl (Yf0.f 128)) fun _ Yf1 => ?_;clear Yf0
     refine Yf1.g 129 rfl rfl _ (fun hc => ex_ld rfl (Yf1.f 2) (SB7.ld (HS.bel hx42))) fun Yf2 Yf3 => ?_;clear Yf1
     refine Yf3.g 129 rfl rfl _ (fun hc => ex_move rfl (Yf3.f 1)) fun Yf4 Yf5 => ?_;clear Yf3
     refine Yf5.g 129 rfl rfl _ (fun hc => ex_move rfl (Yf5.f 7)) fun Yf6 Yf7 => ?_;clear Yf5
     refine Yf7.g 129 rfl rfl _ (fun hc => ex_move rfl (Yf7.f 11)) fun Yf8 Yf9 => ?_;clear Yf7
     refine vcall (true && (((rv9 s n (s.A.map Ak.sm)) && (rv9 s n (s.M.map Mk.sm))) == true)) (.bool (rv9 s n (s.B.map Bl.sm))) (want_g rfl rfl (Yf9.a 129 rfl)) (fun hc => ex_call rfl (by simp only [LA,LB,LC,(Yf9.v 130 hc),(Yf9.v 131 hc),(Yf9.v 132 hc),(Yf9.v 133 hc),evc] <;> rfl) rfl) (fun hc => rvoters9' s n (s.B.map Bl.sm) nBl dBl mBl eBl s.B.length (List.length_map _) x42 (hI.later (hB.trans (hx42.mono hz1))) hn hn1 (by rw [List.map_map];exact pNBl.later hx42) (by rw [List.map_map];exact pDBl.later hx42)) rfl Yf9.z (by decide) (Yf9.kc fun Yga x43 hb Ygb => ?_);clear Yf9;have hx43:=hx42.trans (hb.mono hx42.size);clear hb
     refine Ygb.t (.bool (((rv9 s n (s.A.map Ak.sm)) && (rv9 s n (s.M.map Mk.sm))) && (rv9 s n (s.B.map Bl.sm)))) (ex_and rfl (Ygb.a 129 rfl) (Ygb.a 134 rfl) rfl) fun _ Ygc => ?_;clear Ygb
     refine Ygc.t _ (ex_move rfl (Ygc.f 135)) fun _ Ygd => ?_;clear Ygc
     refine Ygd.g 136 rfl rfl _ (fun hc => ex_ld rfl (Ygd.f 2) (SB7.ld (HS.bel hx43))) fun Yge Ygf => ?_;clear Ygd
     refine Ygf.g 136 rfl rfl _ (fun hc => ex_move rfl (Ygf.f 1)) fun Ygg Ygh => ?_;clear Ygf
     refine Ygh.g 136 rfl rfl _ (fun hc => ex_move rfl (Ygh.f 8)) fun Ygi Ygj => ?_;clear Ygh
     refine Ygj.g 136 rfl rfl _ (fun hc => ex_move rfl (Ygj.f 12)) fun Ygk Ygl => ?_;clear Ygj
     refine vcall (true && ((((rv9 s n (s.A.map Ak.sm)) && (rv9 s n (s.M.map Mk.sm))) && (rv9 s n (s.B.map Bl.sm))) == true)) (.bool (rv9 s n (s.N.map An.sm))) (want_g rfl rfl (Ygl.a 136 rfl)) (fun hc => ex_call rfl (by simp only [LA,LB,LC,(Ygl.v 137 hc),(Ygl.v 138 hc),(Ygl.v 139 hc),(Ygl.v 140 hc),evc] <;> rfl) rfl) (fun hc => rvoters9' s n (s.N.map An.sm) nAn dAn mAn eAn s.N.length (List.length_map _) x43 (hI.later (hB.trans (hx43.mono hz1))) hn hn1 (by rw [List.map_map];exact pNAn.later hx43) (by rw [List.map_map];exact pDAn.later hx43)) rfl Ygl.z (by decide) (Ygl.kc fun Ygm x44 hb Ygn => ?_);clear Ygl;have hx44:=hx43.trans (hb.mono hx43.size);clear hb
     refine Ygn.t (.bool ((((rv9 s n (s.A.map Ak.sm)) && (rv9 s n (s.M.map Mk.sm))) && (rv9 s n (s.B.map Bl.sm))) && (rv9 s n (s.N.map An.sm)))) (ex_and rfl (Ygn.a 136 rfl) (Ygn.a 141 rfl) rfl) fun _ Ygo => ?_;clear Ygn
     refine Ygo.t _ (ex_assign rfl (Ygo.f 142)) fun _ Ygp => ?_;clear Ygo
     have hz:=Ygp.z;have s4:=Ygp.a 4 rfl;clear Ygp;refine WE ?_
     go_wp2
     refine bodyPost_ret (results_tmp rfl _ _ _) rfl ⟨?_,hB.trans (hx44.mono (by omega))⟩;rw [getD_of s4]
     rfl
end Go.Proofs.YtpcgnjpodnebpaaGreatDoor
