import Derived.Test.YtgncpcfncojgoaaGreatDoorF10
set_option maxRecDepth 100000
set_option linter.unusedVariables false
set_option linter.unusedSimpArgs false
namespace Go.Proofs.YtgncpcfncojgoaaGreatDoor
open Go.RowKit Go.Maps Go.Shelf
open Classical
theorem ex_bs8 {o : Oper} {ρ : Operand → Value} {s : TypeId} {x : Operand} {X V : Value} {w w' : World} (ho : o.op = .buildSlice s 1 #[(0,x)]) (hx : ρ x = X) (hr : (Instr.buildSlice s 1 #[(0,X)]).run Tryz.prog w = .ok V w') : (execOp ρ o).run Tryz.prog w = .ok (.value V) w':=by
 unfold execOp
 simp only [ho,List.map_toArray,List.map_cons,List.map_nil,hx,Sem.run_bind,hr,Result.andThen_ok]
 rfl
theorem ex_app8 {o : Oper} {ρ : Operand → Value} {x y : Operand} {t : TypeId} {X Y V : Value} {w w' : World} (ho : o.op = .call { callee:=.builtin .append,args:=#[x,y],argTypes:=#[t,t] }) (hs : ρ x = X) (hx : ρ y = Y) (hr : (Builtin.append_ #[t,t] o.type #[X,Y]).run Tryz.prog w = .ok V w') : (execOp ρ o).run Tryz.prog w = .ok (.value V) w':=by
 unfold execOp
 simp only [ho,resolve,invoke,builtin,Sem.run_bind,Sem.run_pure,Result.andThen_ok,List.map_toArray,List.map_cons,List.map_nil,hs,hx,hr]
theorem one9 {α : Type} (Y : Lay α) (w : World) (x : α) : SlY Y (w.alloc (.cells (Y.cs x).toArray Y.T)) (some ⟨w.heap.size,0,none⟩) 1 1 [x]:=by
 refine ⟨rfl,Nat.le_refl _,(by unfold maxLen;omega),(fun h => by cases h),fun z hz => ?_⟩
 cases hz
 refine .inr ⟨w.heap.size,0,rfl,by simp,fun j y hy k u hu => ?_⟩
 have hj : j = 0:=by
  have:=(List.getElem?_eq_some_iff.1 hy).1
  simp at this
  exact this
 subst hj
 simp at hy
 subst hy;rw [show 0 + 0 * Y.k + k = k by omega]
 exact cell_box7 _ _ _ _ _ (by simpa using hu)
theorem bsI9 (x : Int) (w : World) : (Instr.buildSlice 151 1 #[(0,.int .i64 x)]).run Tryz.prog w = .ok (.slice (some ⟨w.heap.size,0,none⟩) 1 1) (w.alloc (.cells (yI9.cs x).toArray 3)):=by
 go_simp
 first | done | rfl
theorem bsR9 (d : Int × Int) (w : World) : (Instr.buildSlice 29 1 #[(0,.agg #[.int .u64 d.1,.int .u64 d.2])]).run Tryz.prog w = .ok (.slice (some ⟨w.heap.size,0,none⟩) 1 1) (w.alloc (.cells (yR9.cs d).toArray 26)):=by
 go_simp
 first | done | rfl
theorem fa0Ak (q o : Nat) (w : World) : (Instr.fieldAt 110 (.pointer (some ⟨q,o,none⟩)) 0).run Tryz.prog w = .ok (.pointer (some ⟨q,o,none⟩)) w:=by go_simp
theorem fa1Ak (q o : Nat) (w : World) : (Instr.fieldAt 110 (.pointer (some ⟨q,o,none⟩)) 1).run Tryz.prog w = .ok (.pointer (some ⟨q,o + 1,none⟩)) w:=by go_simp
theorem ix9Ak (q o n c i : Nat) (hi : i < n) (w : World) : (Instr.indexAt 31 (.slice (some ⟨q,o,none⟩) n c) (.int .i64 (i : Int))).run Tryz.prog w = .ok (.pointer (some ⟨q,o + i * 4,none⟩)) w:=by
 have h1 : (i : Int) < (n : Int):=by omega
 go_simp
theorem fa0Mk (q o : Nat) (w : World) : (Instr.fieldAt 112 (.pointer (some ⟨q,o,none⟩)) 0).run Tryz.prog w = .ok (.pointer (some ⟨q,o,none⟩)) w:=by go_simp
theorem fa1Mk (q o : Nat) (w : World) : (Instr.fieldAt 112 (.pointer (some ⟨q,o,none⟩)) 1).run Tryz.prog w = .ok (.pointer (some ⟨q,o + 1,none⟩)) w:=by go_simp
theorem ix9Mk (q o n c i : Nat) (hi : i < n) (w : World) : (Instr.indexAt 32 (.slice (some ⟨q,o,none⟩) n c) (.int .i64 (i : Int))).run Tryz.prog w = .ok (.pointer (some ⟨q,o + i * 3,none⟩)) w:=by
 have h1 : (i : Int) < (n : Int):=by omega
 go_simp
theorem fa0Bl (q o : Nat) (w : World) : (Instr.fieldAt 114 (.pointer (some ⟨q,o,none⟩)) 0).run Tryz.prog w = .ok (.pointer (some ⟨q,o,none⟩)) w:=by go_simp
theorem fa1Bl (q o : Nat) (w : World) : (Instr.fieldAt 114 (.pointer (some ⟨q,o,none⟩)) 1).run Tryz.prog w = .ok (.pointer (some ⟨q,o + 1,none⟩)) w:=by go_simp
theorem ix9Bl (q o n c i : Nat) (hi : i < n) (w : World) : (Instr.indexAt 33 (.slice (some ⟨q,o,none⟩) n c) (.int .i64 (i : Int))).run Tryz.prog w = .ok (.pointer (some ⟨q,o + i * 6,none⟩)) w:=by
 have h1 : (i : Int) < (n : Int):=by omega
 go_simp
theorem fa0An (q o : Nat) (w : World) : (Instr.fieldAt 116 (.pointer (some ⟨q,o,none⟩)) 0).run Tryz.prog w = .ok (.pointer (some ⟨q,o,none⟩)) w:=by go_simp
theorem fa1An (q o : Nat) (w : World) : (Instr.fieldAt 116 (.pointer (some ⟨q,o,none⟩)) 1).run Tryz.prog w = .ok (.pointer (some ⟨q,o + 1,none⟩)) w:=by go_simp
theorem ix9An (q o n c i : Nat) (hi : i < n) (w : World) : (Instr.indexAt 34 (.slice (some ⟨q,o,none⟩) n c) (.int .i64 (i : Int))).run Tryz.prog w = .ok (.pointer (some ⟨q,o + i * 6,none⟩)) w:=by
 have h1 : (i : Int) < (n : Int):=by omega
 go_simp
theorem rvoters9' (s : Sta) (n : Int) (X : List Mk) (na da : Option Addr) (nc dc k : Nat) (hk : X.length = k) (w : World) (hI : s.In w) (hn : n = (s.V.length : Int)) (hn1 : 0 < s.V.length) (hN : SlY yI9 w na k nc (X.map Mk.n)) (hD : SlY yR9 w da k dc (X.map fun x => (x.h,x.l))) : Calls Tryz.prog 173 #[s.val,.int .i64 n,.slice na k nc,.slice da k dc] w fun e w' => e = .returned (.bool (rv9 s n X))∧Below w.heap.size w w':=by
 subst hk
 exact rvoters9 s n X na da nc dc w hI hn hn1 hN hD
def Sta.vtB9 (s : Sta) (n : Int) : Bool:=((rv9 s n (s.A.map Ak.sm) && rv9 s n (s.M.map Mk.sm)) && rv9 s n (s.B.map Bl.sm)) && rv9 s n (s.N.map An.sm)
set_option maxHeartbeats 1000000 in
theorem rvotes9 (s : Sta) (n : Int) (w : World) (hI : s.In w) (hF : s.Fit) (hn : n = (s.V.length : Int)) (hn1 : 0 < s.V.length) : Calls Tryz.prog 124 #[s.val,.int .i64 n] w fun e w' => e = .returned (.bool (s.vtB9 n))∧Below w.heap.size w w':=by
 go_enter Tryz.func124,Tryz.ntmps124
 go_upto_region 0 with fail
 refine wp_region_lit ?_;refine vl_gen (fun T => T.size = 143∧T[0]? = some (gw true (s.val))∧T[1]? = some (gw true (.int .i64 n))) ⟨rfl,rfl,rfl⟩ (fun Z0 ⟨hz,s0,s1⟩ => ?_)
 obtain ⟨w1,hw1⟩ : ∃ y,y = w.alloc (.cells s.cs.toArray 36):=⟨_,rfl⟩
 have hb : Below w.heap.size w w1:=by rw [hw1];exact (Below.refl _ _).alloc (Nat.le_refl _) _
 have hs1 : w1.heap.size = w.heap.size + 1:=by rw [hw1];simp
 have HS : SB7 w1 (w.heap.size) s:=by rw [hw1];exact BX7.new _ _ _
 refine vw (.pointer (some ⟨w.heap.size,0,none⟩)) w1 (want_none rfl) (ex_box8 rfl (ev s0 rfl) (by rw [hw1];exact bxS7 _ _)) rfl hz (by decide) (fun Z1 zz kk s2x => ?_);replace s1:=ku s1;clear kk hz s0 hw1;have hz:=zz;have s2:=s2x;clear zz s2x;have hB:=hb;clear hb;have hv0 : Below w1.heap.size w1 w1:=Below.refl _ _;have q25_0:=((Rp.nil hz).cons s1).cons s2;clear hz s1 s2
 refine q25_0.t (.bool false) (ex_assign rfl rfl) fun _ q25_1 => ?_;clear q25_0
 have hz:=q25_1.z;have s1:=q25_1.a 1 rfl;have s2:=q25_1.a 2 rfl;clear q25_1;refine wpList_nil ?_
 go_upto_region 1 with fail
 refine wp_region_lit ?_;have q26_0:=((Rp.nil hz).cons s1).cons s2;clear hz s1 s2
 refine q26_0.t (.slice none 0 0) (ex_assign rfl rfl) fun _ q26_1 => ?_;clear q26_0
 refine q26_1.t (.slice none 0 0) (ex_assign rfl rfl) fun _ q26_2 => ?_;clear q26_1
 refine q26_2.t (.slice none 0 0) (ex_assign rfl rfl) fun _ q26_3 => ?_;clear q26_2
 refine q26_3.t (.slice none 0 0) (ex_assign rfl rfl) fun _ q26_4 => ?_;clear q26_3
 have hz:=q26_4.z;have s1:=q26_4.a 1 rfl;have s2:=q26_4.a 2 rfl;have s5:=q26_4.a 5 rfl;have s6:=q26_4.a 6 rfl;have s7:=q26_4.a 7 rfl;have s8:=q26_4.a 8 rfl;clear q26_4;refine wpList_nil ?_
 go_upto_region 2 with fail
 refine wp_region_lit ?_;have q27_0:=((((((Rp.nil hz).cons s1).cons s2).cons s5).cons s6).cons s7).cons s8;clear hz s1 s2 s5 s6 s7 s8
 refine q27_0.t (.slice none 0 0) (ex_assign rfl rfl) fun _ q27_1 => ?_;clear q27_0
 refine q27_1.t (.slice none 0 0) (ex_assign rfl rfl) fun _ q27_2 => ?_;clear q27_1
 refine q27_2.t (.slice none 0 0) (ex_assign rfl rfl) fun _ q27_3 => ?_;clear q27_2
 refine q27_3.t (.slice none 0 0) (ex_assign rfl rfl) fun _ q27_4 => ?_;clear q27_3
 have hz:=q27_4.z;have s1:=q27_4.a 1 rfl;have s2:=q27_4.a 2 rfl;have s5:=q27_4.a 5 rfl;have s6:=q27_4.a 6 rfl;have s7:=q27_4.a 7 rfl;have s8:=q27_4.a 8 rfl;have s9:=q27_4.a 9 rfl;have s10:=q27_4.a 10 rfl;have s11:=q27_4.a 11 rfl;have s12:=q27_4.a 12 rfl;clear q27_4;refine wpList_nil ?_;have f1:=hF.al;have f2:=hF.ml;have f3:=hF.bl;have f4:=hF.nl;have hw0 : Below w1.heap.size w1 w1:=Below.refl _ _;have hz0:=hB.size
 go_upto_region 3 with fail
 refine wp_region_lit ?_;have q28_0:=((((((((((Rp.nil hz).cons s1).cons s2).cons s5).cons s6).cons s7).cons s8).cons s9).cons s10).cons s11).cons s12;clear hz s1 s2 s5 s6 s7 s8 s9 s10 s11 s12
 refine q28_0.t (.int .i64 0) (ex_assign rfl rfl) fun _ q28_1 => ?_;clear q28_0
 have hz:=q28_1.z;have s1:=q28_1.a 1 rfl;have s2:=q28_1.a 2 rfl;have s5:=q28_1.a 5 rfl;have s6:=q28_1.a 6 rfl;have s7:=q28_1.a 7 rfl;have s8:=q28_1.a 8 rfl;have s9:=q28_1.a 9 rfl;have s10:=q28_1.a 10 rfl;have s11:=q28_1.a 11 rfl;have s12:=q28_1.a 12 rfl;have s13:=q28_1.a 13 rfl;clear q28_1;refine wpList_nil ?_;have hsv : _ = some (gw true (.int .i64 ((0 : Nat) : Int))):=s13
 go_upto_region 4 with fail
 refine v_loop 13 s.A.length (fun i T wr => T.size = 143∧T[1]? = some (gw true (.int .i64 n))∧T[2]? = some (gw true (.pointer (some ⟨w.heap.size,0,none⟩)))∧T[6]? = some (gw true (.slice none 0 0))∧T[7]? = some (gw true (.slice none 0 0))∧T[8]? = some (gw true (.slice none 0 0))∧T[10]? = some (gw true (.slice none 0 0))∧T[11]? = some (gw true (.slice none 0 0))∧T[12]? = some (gw true (.slice none 0 0))∧T[13]? = some (gw true (.int .i64 (i : Int)))∧Hid (∃ vn vd,T[5]? = some (gw true vn)∧T[9]? = some (gw true vd)∧OwnY yI9 w1.heap.size wr vn ((s.A.take i).map Ak.n)∧OwnY yR9 w1.heap.size wr vd ((s.A.take i).map fun x => (x.h,x.l))∧Below w1.heap.size w1 wr)) (fun i T w h => h.2.2.2.2.2.2.2.2.2.1) ⟨hz,s1,s2,s6,s7,s8,s10,s11,s12,hsv,_,_,s5,s9,OwnY.nil _ _ _,OwnY.nil _ _ _,Below.refl _ _⟩ ?_;clear hz s1 s2 s6 s7 s8 s10 s11 s12 s13 s5 s9 hsv;intro i R0 wr hi hh;obtain ⟨hz,s1,s2,s6,s7,s8,s10,s11,s12,s13,HJ⟩:=hh;obtain ⟨vn,vd,s5,s9,oN,oD,hbr⟩:=HJ.out;clear HJ;have hzr:=hbr.size;have hbw:=hw0.trans (hbr.mono hw0.size);have HIr:=(hI.later (hB.trans (hbw.mono (by omega)))).a
 by_cases hit : i < s.A.length
 ·have d1 : decide ((i : Int) < (s.A.length : Int)) = true:=decide_eq_true (by omega)
  go_upto_region 4 with fail
  refine wp_region_lit ?_;have q29_0:=(((((((((((Rp.nil hz).cons s1).cons s2).cons s5).cons s6).cons s7).cons s8).cons s9).cons s10).cons s11).cons s12).cons s13;clear hz s1 s2 s5 s6 s7 s8 s9 s10 s11 s12 s13
  refine q29_0.t _ (ex_move rfl (q29_0.e (j:=13) rfl)) fun _ q29_1 => ?_;clear q29_0
  refine q29_1.t (.pointer (some ⟨w.heap.size,8,none⟩)) (ex_fa rfl (q29_1.e (j:=2) rfl) (faS8 _ _)) fun _ q29_2 => ?_;clear q29_1
  refine q29_2.t (.slice s.ka s.A.length s.kc) (ex_ld rfl (q29_2.e (j:=18) rfl) (ldK8 (cell8 (HS.cell 8 _ rfl) hbw))) fun _ q29_3 => ?_;clear q29_2
  refine q29_3.t (.int .i64 (s.A.length : Int)) (ex_lenK8 rfl rfl (q29_3.e (j:=19) rfl)) fun _ q29_4 => ?_;clear q29_3
  refine q29_4.t (.bool true) (ex_bin rfl (q29_4.e (j:=17) rfl) (q29_4.e (j:=20) rfl) (lssD8 _ _ _ _ true d1 _)) fun _ q29_5 => ?_;clear q29_4
  have hz:=q29_5.z;have s1:=q29_5.a 1 rfl;have s2:=q29_5.a 2 rfl;have s5:=q29_5.a 5 rfl;have s6:=q29_5.a 6 rfl;have s7:=q29_5.a 7 rfl;have s8:=q29_5.a 8 rfl;have s9:=q29_5.a 9 rfl;have s10:=q29_5.a 10 rfl;have s11:=q29_5.a 11 rfl;have s12:=q29_5.a 12 rfl;have s13:=q29_5.a 13 rfl;have s21:=q29_5.a 21 rfl;clear q29_5;refine wpList_nil ?_
  go_upto_region 6 with fail
  refine wp_cond_true ((ev s21 rfl).trans rfl) ?_;clear s21 d1
  obtain ⟨x,hxi⟩ : ∃ x,s.A[i]? = some x:=⟨_,List.getElem?_eq_getElem hit⟩
  obtain ⟨q,o,hqa,hq,hl⟩:=HIr.place (by intro e;rw [e] at hit;simp at hit);have e1 : wr.cell? ⟨q,o + i * 4,none⟩ = some (.int .i64 x.n):=hl i x hxi 0 _ rfl;have e2 : wr.cell? ⟨q,o + i * 4 + 1,none⟩ = some (.int .u64 x.h):=hl i x hxi 1 _ rfl;have e3 : wr.cell? ⟨q,o + i * 4 + 2,none⟩ = some (.int .u64 x.l):=hl i x hxi 2 _ rfl
  go_upto_region 6 with fail
  refine wp_region_lit ?_;have q30_0:=(((((((((((Rp.nil hz).cons s1).cons s2).cons s5).cons s6).cons s7).cons s8).cons s9).cons s10).cons s11).cons s12).cons s13;clear hz s1 s2 s5 s6 s7 s8 s9 s10 s11 s12 s13
  refine q30_0.t _ (ex_move rfl (q30_0.e (j:=5) rfl)) fun _ q30_1 => ?_;clear q30_0
  refine q30_1.t (.pointer (some ⟨w.heap.size,8,none⟩)) (ex_fa rfl (q30_1.e (j:=2) rfl) (faS8 _ _)) fun _ q30_2 => ?_;clear q30_1
  refine q30_2.t (.slice s.ka s.A.length s.kc) (ex_ld rfl (q30_2.e (j:=25) rfl) (ldK8 (cell8 (HS.cell 8 _ rfl) hbw))) fun _ q30_3 => ?_;clear q30_2
  refine q30_3.t _ (ex_move rfl (q30_3.e (j:=13) rfl)) fun _ q30_4 => ?_;clear q30_3
  refine q30_4.t (.pointer (some ⟨q,o + i * 4,none⟩)) (ex_ix rfl (q30_4.e (j:=26) rfl) (q30_4.e (j:=27) rfl) (by rw [hqa];exact ix9Ak q o s.A.length s.kc i hit _)) fun _ q30_5 => ?_;clear q30_4
  refine q30_5.t (.pointer (some ⟨q,o + i * 4,none⟩)) (ex_fa rfl (q30_5.e (j:=28) rfl) (fa0Ak _ _ _)) fun _ q30_6 => ?_;clear q30_5
  refine q30_6.t (.int .i64 x.n) (ex_ld rfl (q30_6.e (j:=29) rfl) (ldI8 e1)) fun _ q30_7 => ?_;clear q30_6
  obtain ⟨a1,ha1⟩ : ∃ v,v = wr.alloc (.cells (yI9.cs x.n).toArray 3):=⟨_,rfl⟩
  have b1 : Below wr.heap.size wr a1:=by rw [ha1];exact (Below.refl _ _).alloc (Nat.le_refl _) _
  have p1 : SlY yI9 a1 (some ⟨wr.heap.size,0,none⟩) 1 1 [x.n]:=by rw [ha1];exact one9 yI9 wr x.n
  have z1:=b1.size
  have hlN : ((s.A.take i).map Ak.n).length = i:=by rw [List.length_map,List.length_take];omega
  obtain ⟨vn2,a2,hr2,oN2,g2,_⟩:=run_appY kI9 a1 151 w1.heap.size _ vn _ _ _ _ p1 (oN.grow b1) (by omega) (by rw [hlN];unfold maxLen;omega) (by rw [hlN];show (i + 1) * 8 ≤ _;omega);have oD2:=(oD.grow b1).grownZ (oN.grow b1) (by decide) g2;have hb2 : Below w1.heap.size w1 a2:=(oN.grow b1).grown (hbr.trans (b1.mono (by omega))) g2 (by omega);refine vw (.slice (some ⟨wr.heap.size,0,none⟩) 1 1) a1 (want_none rfl) (ex_bs8 rfl (q30_7.e (j:=30) rfl) (by rw [ha1];exact bsI9 _ _)) rfl q30_7.z (by decide) (q30_7.k fun Ya q30_8 => ?_);clear q30_7;refine vw (vn2) a2 (want_none rfl) (ex_app8 rfl (q30_8.e (j:=24) rfl) (q30_8.e (j:=31) rfl) hr2) rfl q30_8.z (by decide) (q30_8.k fun Yb q30_9 => ?_);clear q30_8;clear hr2 g2 p1 ha1
  refine q30_9.t _ (ex_assign rfl (q30_9.e (j:=32) rfl)) fun _ q30_10 => ?_;clear q30_9
  have hz:=q30_10.z;have s1:=q30_10.a 1 rfl;have s2:=q30_10.a 2 rfl;have s5:=q30_10.a 5 rfl;have s6:=q30_10.a 6 rfl;have s7:=q30_10.a 7 rfl;have s8:=q30_10.a 8 rfl;have s9:=q30_10.a 9 rfl;have s10:=q30_10.a 10 rfl;have s11:=q30_10.a 11 rfl;have s12:=q30_10.a 12 rfl;have s13:=q30_10.a 13 rfl;clear q30_10;refine wpList_nil ?_;have z2:=hb2.size;have hbw2:=hw0.trans (hb2.mono hw0.size);have HI2:=(hI.later (hB.trans (hbw2.mono (by omega)))).a;clear e1 e2 e3 hl hq;obtain ⟨q2,o2,hqa2,hq2,hl2⟩:=HI2.place (by intro e;rw [e] at hit;simp at hit);rw [hqa] at hqa2
  cases hqa2
  have e2 : a2.cell? ⟨q,o + i * 4 + 1,none⟩ = some (.int .u64 x.h):=hl2 i x hxi 1 _ rfl;have e3 : a2.cell? ⟨q,o + i * 4 + 2,none⟩ = some (.int .u64 x.l):=hl2 i x hxi 2 _ rfl
  go_upto_region 7 with fail
  refine wp_region_lit ?_;have q31_0:=(((((((((((Rp.nil hz).cons s1).cons s2).cons s5).cons s6).cons s7).cons s8).cons s9).cons s10).cons s11).cons s12).cons s13;clear hz s1 s2 s5 s6 s7 s8 s9 s10 s11 s12 s13
  refine q31_0.t _ (ex_move rfl (q31_0.e (j:=9) rfl)) fun _ q31_1 => ?_;clear q31_0
  refine q31_1.t (.pointer (some ⟨w.heap.size,8,none⟩)) (ex_fa rfl (q31_1.e (j:=2) rfl) (faS8 _ _)) fun _ q31_2 => ?_;clear q31_1
  refine q31_2.t (.slice s.ka s.A.length s.kc) (ex_ld rfl (q31_2.e (j:=34) rfl) (ldK8 (cell8 (HS.cell 8 _ rfl) hbw2))) fun _ q31_3 => ?_;clear q31_2
  refine q31_3.t _ (ex_move rfl (q31_3.e (j:=13) rfl)) fun _ q31_4 => ?_;clear q31_3
  refine q31_4.t (.pointer (some ⟨q,o + i * 4,none⟩)) (ex_ix rfl (q31_4.e (j:=35) rfl) (q31_4.e (j:=36) rfl) (by rw [hqa];exact ix9Ak q o s.A.length s.kc i hit _)) fun _ q31_5 => ?_;clear q31_4
  refine q31_5.t (.pointer (some ⟨q,o + i * 4 + 1,none⟩)) (ex_fa rfl (q31_5.e (j:=37) rfl) (fa1Ak _ _ _)) fun _ q31_6 => ?_;clear q31_5
  refine q31_6.t (.agg #[.int .u64 x.h,.int .u64 x.l]) (ex_ld rfl (q31_6.e (j:=38) rfl) (ldDr8 (d:=(x.h,x.l)) e2 e3)) fun _ q31_7 => ?_;clear q31_6
  obtain ⟨a3,ha3⟩ : ∃ v,v = a2.alloc (.cells (yR9.cs (x.h,x.l)).toArray 26):=⟨_,rfl⟩
  have b3 : Below a2.heap.size a2 a3:=by rw [ha3];exact (Below.refl _ _).alloc (Nat.le_refl _) _
  have p3 : SlY yR9 a3 (some ⟨a2.heap.size,0,none⟩) 1 1 [(x.h,x.l)]:=by rw [ha3];exact one9 yR9 a2 (x.h,x.l)
  have z3:=b3.size
  have hlD : ((s.A.take i).map fun x => (x.h,x.l)).length = i:=by rw [List.length_map,List.length_take];omega
  obtain ⟨vd2,a4,hr4,oD4,g4,_⟩:=run_appY kR9 a3 29 w1.heap.size _ vd _ _ _ _ p3 (oD2.grow b3) (by omega) (by rw [hlD];unfold maxLen;omega) (by rw [hlD];show (i + 1) * 16 ≤ _;omega);have oN4:=(oN2.grow b3).grownZ (oD2.grow b3) (by decide) g4;have hb4 : Below w1.heap.size w1 a4:=(oD2.grow b3).grown (hb2.trans (b3.mono (by omega))) g4 (by omega);refine vw (.slice (some ⟨a2.heap.size,0,none⟩) 1 1) a3 (want_none rfl) (ex_bs8 rfl (q31_7.e (j:=39) rfl) (by rw [ha3];exact bsR9 (x.h,x.l) _)) rfl q31_7.z (by decide) (q31_7.k fun Yc q31_8 => ?_);clear q31_7;refine vw (vd2) a4 (want_none rfl) (ex_app8 rfl (q31_8.e (j:=33) rfl) (q31_8.e (j:=40) rfl) hr4) rfl q31_8.z (by decide) (q31_8.k fun Yd q31_9 => ?_);clear q31_8;clear hr4 g4 p3 ha3
  refine q31_9.t _ (ex_assign rfl (q31_9.e (j:=41) rfl)) fun _ q31_10 => ?_;clear q31_9
  have hz:=q31_10.z;have s1:=q31_10.a 1 rfl;have s2:=q31_10.a 2 rfl;have s5:=q31_10.a 5 rfl;have s6:=q31_10.a 6 rfl;have s7:=q31_10.a 7 rfl;have s8:=q31_10.a 8 rfl;have s9:=q31_10.a 9 rfl;have s10:=q31_10.a 10 rfl;have s11:=q31_10.a 11 rfl;have s12:=q31_10.a 12 rfl;have s13:=q31_10.a 13 rfl;clear q31_10;refine wpList_nil ?_
  go_upto_region 5 with fail
  refine wp_region_lit ?_;have q32_0:=(((((((((((Rp.nil hz).cons s1).cons s2).cons s5).cons s6).cons s7).cons s8).cons s9).cons s10).cons s11).cons s12).cons s13;clear hz s1 s2 s5 s6 s7 s8 s9 s10 s11 s12 s13
  refine q32_0.t _ (ex_move rfl (q32_0.e (j:=13) rfl)) fun _ q32_1 => ?_;clear q32_0
  refine q32_1.t (.int .i64 ((i + 1 : Nat) : Int)) (ex_bin rfl (q32_1.e (j:=22) rfl) rfl (addD8 _ _ _ 1 ((i + 1 : Nat) : Int) (by rw [IntKind.wrap_i64];omega) _)) fun _ q32_2 => ?_;clear q32_1
  refine q32_2.t _ (ex_assign rfl (q32_2.e (j:=23) rfl)) fun _ q32_3 => ?_;clear q32_2
  have hz:=q32_3.z;have s1:=q32_3.a 1 rfl;have s2:=q32_3.a 2 rfl;have s5:=q32_3.a 5 rfl;have s6:=q32_3.a 6 rfl;have s7:=q32_3.a 7 rfl;have s8:=q32_3.a 8 rfl;have s9:=q32_3.a 9 rfl;have s10:=q32_3.a 10 rfl;have s11:=q32_3.a 11 rfl;have s12:=q32_3.a 12 rfl;have s13:=q32_3.a 13 rfl;clear q32_3;refine wpList_nil ?_
  have et : s.A.take (i + 1) = s.A.take i ++ [x]:=by rw [List.take_add_one,hxi];rfl
  exact ⟨_,rfl,by omega,hz,s1,s2,s6,s7,s8,s10,s11,s12,s13,vn2,vd2,s5,s9,by rw [et,List.map_append];exact oN4,by rw [et,List.map_append];exact oD4,hb4⟩
 ·have d1 : decide ((i : Int) < (s.A.length : Int)) = false:=decide_eq_false (by omega)
  go_upto_region 4 with fail
  refine wp_region_lit ?_;have q33_0:=(((((((((((Rp.nil hz).cons s1).cons s2).cons s5).cons s6).cons s7).cons s8).cons s9).cons s10).cons s11).cons s12).cons s13;clear hz s1 s2 s5 s6 s7 s8 s9 s10 s11 s12 s13
  refine q33_0.t _ (ex_move rfl (q33_0.e (j:=13) rfl)) fun _ q33_1 => ?_;clear q33_0
  refine q33_1.t (.pointer (some ⟨w.heap.size,8,none⟩)) (ex_fa rfl (q33_1.e (j:=2) rfl) (faS8 _ _)) fun _ q33_2 => ?_;clear q33_1
  refine q33_2.t (.slice s.ka s.A.length s.kc) (ex_ld rfl (q33_2.e (j:=18) rfl) (ldK8 (cell8 (HS.cell 8 _ rfl) hbw))) fun _ q33_3 => ?_;clear q33_2
  refine q33_3.t (.int .i64 (s.A.length : Int)) (ex_lenK8 rfl rfl (q33_3.e (j:=19) rfl)) fun _ q33_4 => ?_;clear q33_3
  refine q33_4.t (.bool false) (ex_bin rfl (q33_4.e (j:=17) rfl) (q33_4.e (j:=20) rfl) (lssD8 _ _ _ _ false d1 _)) fun _ q33_5 => ?_;clear q33_4
  have hz:=q33_5.z;have s1:=q33_5.a 1 rfl;have s2:=q33_5.a 2 rfl;have s5:=q33_5.a 5 rfl;have s6:=q33_5.a 6 rfl;have s7:=q33_5.a 7 rfl;have s8:=q33_5.a 8 rfl;have s9:=q33_5.a 9 rfl;have s10:=q33_5.a 10 rfl;have s11:=q33_5.a 11 rfl;have s12:=q33_5.a 12 rfl;have s21:=q33_5.a 21 rfl;clear q33_5;refine wpList_nil ?_
  go_upto_region 8 with fail
  refine wp_cond_false ((ev s21 rfl).trans rfl) ?_;clear s21 d1
  obtain rfl : i = s.A.length:=by omega
  rw [List.take_length] at oN oD;obtain ⟨nAk,mAk,hvn,pNAk,_⟩:=oN.sl kI9;obtain ⟨dAk,eAk,hvd,pDAk,_⟩:=oD.sl kR9;rw [List.length_map] at hvn hvd pNAk pDAk;rw [hvn] at s5;rw [hvd] at s9;clear hvn hvd oN oD HIr hit hi;have hw0:=hbw
  obtain ⟨W0,hW⟩ : ∃ v,v = wr:=⟨_,rfl⟩
  rw [← hW] at hw0 pNAk pDAk hbr hzr hbw ⊢;clear hW;clear hbr hbw hzr
  go_upto_region 8 with fail
  refine wp_region_lit ?_;have q34_0:=((((((((((Rp.nil hz).cons s1).cons s2).cons s5).cons s6).cons s7).cons s8).cons s9).cons s10).cons s11).cons s12;clear hz s1 s2 s5 s6 s7 s8 s9 s10 s11 s12
  refine q34_0.t (.int .i64 0) (ex_assign rfl rfl) fun _ q34_1 => ?_;clear q34_0
  have hz:=q34_1.z;have s1:=q34_1.a 1 rfl;have s2:=q34_1.a 2 rfl;have s5:=q34_1.a 5 rfl;have s6:=q34_1.a 6 rfl;have s7:=q34_1.a 7 rfl;have s8:=q34_1.a 8 rfl;have s9:=q34_1.a 9 rfl;have s10:=q34_1.a 10 rfl;have s11:=q34_1.a 11 rfl;have s12:=q34_1.a 12 rfl;have s14:=q34_1.a 14 rfl;clear q34_1;refine wpList_nil ?_;have hsv : _ = some (gw true (.int .i64 ((0 : Nat) : Int))):=s14
  go_upto_region 9 with fail
  refine v_loop 14 s.M.length (fun i T wr => T.size = 143∧T[1]? = some (gw true (.int .i64 n))∧T[2]? = some (gw true (.pointer (some ⟨w.heap.size,0,none⟩)))∧T[5]? = some (gw true (.slice nAk s.A.length mAk))∧T[7]? = some (gw true (.slice none 0 0))∧T[8]? = some (gw true (.slice none 0 0))∧T[9]? = some (gw true (.slice dAk s.A.length eAk))∧T[11]? = some (gw true (.slice none 0 0))∧T[12]? = some (gw true (.slice none 0 0))∧T[14]? = some (gw true (.int .i64 (i : Int)))∧Hid (∃ vn vd,T[6]? = some (gw true vn)∧T[10]? = some (gw true vd)∧OwnY yI9 W0.heap.size wr vn ((s.M.take i).map Mk.n)∧OwnY yR9 W0.heap.size wr vd ((s.M.take i).map fun x => (x.h,x.l))∧Below W0.heap.size W0 wr)) (fun i T w h => h.2.2.2.2.2.2.2.2.2.1) ⟨hz,s1,s2,s5,s7,s8,s9,s11,s12,hsv,_,_,s6,s10,OwnY.nil _ _ _,OwnY.nil _ _ _,Below.refl _ _⟩ ?_;clear hz s1 s2 s5 s7 s8 s9 s11 s12 s14 s6 s10 hsv;intro i R1 wr hi hh;obtain ⟨hz,s1,s2,s5,s7,s8,s9,s11,s12,s14,HJ⟩:=hh;obtain ⟨vn,vd,s6,s10,oN,oD,hbr⟩:=HJ.out;clear HJ;have hzr:=hbr.size;have hbw:=hw0.trans (hbr.mono hw0.size);have HIr:=(hI.later (hB.trans (hbw.mono (by omega)))).m
  by_cases hit : i < s.M.length
  ·have d1 : decide ((i : Int) < (s.M.length : Int)) = true:=decide_eq_true (by omega)
   go_upto_region 9 with fail
   refine wp_region_lit ?_;have q35_0:=(((((((((((Rp.nil hz).cons s1).cons s2).cons s5).cons s6).cons s7).cons s8).cons s9).cons s10).cons s11).cons s12).cons s14;clear hz s1 s2 s5 s6 s7 s8 s9 s10 s11 s12 s14
   refine q35_0.t _ (ex_move rfl (q35_0.e (j:=14) rfl)) fun _ q35_1 => ?_;clear q35_0
   refine q35_1.t (.pointer (some ⟨w.heap.size,9,none⟩)) (ex_fa rfl (q35_1.e (j:=2) rfl) (faS9 _ _)) fun _ q35_2 => ?_;clear q35_1
   refine q35_2.t (.slice s.ma s.M.length s.mc) (ex_ld rfl (q35_2.e (j:=43) rfl) (ldM8 (cell8 (HS.cell 9 _ rfl) hbw))) fun _ q35_3 => ?_;clear q35_2
   refine q35_3.t (.int .i64 (s.M.length : Int)) (ex_lenM8 rfl rfl (q35_3.e (j:=44) rfl)) fun _ q35_4 => ?_;clear q35_3
   refine q35_4.t (.bool true) (ex_bin rfl (q35_4.e (j:=42) rfl) (q35_4.e (j:=45) rfl) (lssD8 _ _ _ _ true d1 _)) fun _ q35_5 => ?_;clear q35_4
   have hz:=q35_5.z;have s1:=q35_5.a 1 rfl;have s2:=q35_5.a 2 rfl;have s5:=q35_5.a 5 rfl;have s6:=q35_5.a 6 rfl;have s7:=q35_5.a 7 rfl;have s8:=q35_5.a 8 rfl;have s9:=q35_5.a 9 rfl;have s10:=q35_5.a 10 rfl;have s11:=q35_5.a 11 rfl;have s12:=q35_5.a 12 rfl;have s14:=q35_5.a 14 rfl;have s46:=q35_5.a 46 rfl;clear q35_5;refine wpList_nil ?_
   go_upto_region 11 with fail
   refine wp_cond_true ((ev s46 rfl).trans rfl) ?_;clear s46 d1
   obtain ⟨x,hxi⟩ : ∃ x,s.M[i]? = some x:=⟨_,List.getElem?_eq_getElem hit⟩
   obtain ⟨q,o,hqa,hq,hl⟩:=HIr.place (by intro e;rw [e] at hit;simp at hit);have e1 : wr.cell? ⟨q,o + i * 3,none⟩ = some (.int .i64 x.n):=hl i x hxi 0 _ rfl;have e2 : wr.cell? ⟨q,o + i * 3 + 1,none⟩ = some (.int .u64 x.h):=hl i x hxi 1 _ rfl;have e3 : wr.cell? ⟨q,o + i * 3 + 2,none⟩ = some (.int .u64 x.l):=hl i x hxi 2 _ rfl
   go_upto_region 11 with fail
   refine wp_region_lit ?_;have q36_0:=(((((((((((Rp.nil hz).cons s1).cons s2).cons s5).cons s6).cons s7).cons s8).cons s9).cons s10).cons s11).cons s12).cons s14;clear hz s1 s2 s5 s6 s7 s8 s9 s10 s11 s12 s14
   refine q36_0.t _ (ex_move rfl (q36_0.e (j:=6) rfl)) fun _ q36_1 => ?_;clear q36_0
   refine q36_1.t (.pointer (some ⟨w.heap.size,9,none⟩)) (ex_fa rfl (q36_1.e (j:=2) rfl) (faS9 _ _)) fun _ q36_2 => ?_;clear q36_1
   refine q36_2.t (.slice s.ma s.M.length s.mc) (ex_ld rfl (q36_2.e (j:=50) rfl) (ldM8 (cell8 (HS.cell 9 _ rfl) hbw))) fun _ q36_3 => ?_;clear q36_2
   refine q36_3.t _ (ex_move rfl (q36_3.e (j:=14) rfl)) fun _ q36_4 => ?_;clear q36_3
   refine q36_4.t (.pointer (some ⟨q,o + i * 3,none⟩)) (ex_ix rfl (q36_4.e (j:=51) rfl) (q36_4.e (j:=52) rfl) (by rw [hqa];exact ix9Mk q o s.M.length s.mc i hit _)) fun _ q36_5 => ?_;clear q36_4
   refine q36_5.t (.pointer (some ⟨q,o + i * 3,none⟩)) (ex_fa rfl (q36_5.e (j:=53) rfl) (fa0Mk _ _ _)) fun _ q36_6 => ?_;clear q36_5
   refine q36_6.t (.int .i64 x.n) (ex_ld rfl (q36_6.e (j:=54) rfl) (ldI8 e1)) fun _ q36_7 => ?_;clear q36_6
   obtain ⟨a1,ha1⟩ : ∃ v,v = wr.alloc (.cells (yI9.cs x.n).toArray 3):=⟨_,rfl⟩
   have b1 : Below wr.heap.size wr a1:=by rw [ha1];exact (Below.refl _ _).alloc (Nat.le_refl _) _
   have p1 : SlY yI9 a1 (some ⟨wr.heap.size,0,none⟩) 1 1 [x.n]:=by rw [ha1];exact one9 yI9 wr x.n
   have z1:=b1.size
   have hlN : ((s.M.take i).map Mk.n).length = i:=by rw [List.length_map,List.length_take];omega
   obtain ⟨vn2,a2,hr2,oN2,g2,_⟩:=run_appY kI9 a1 151 W0.heap.size _ vn _ _ _ _ p1 (oN.grow b1) (by omega) (by rw [hlN];unfold maxLen;omega) (by rw [hlN];show (i + 1) * 8 ≤ _;omega);have oD2:=(oD.grow b1).grownZ (oN.grow b1) (by decide) g2;have hb2 : Below W0.heap.size W0 a2:=(oN.grow b1).grown (hbr.trans (b1.mono (by omega))) g2 (by omega);refine vw (.slice (some ⟨wr.heap.size,0,none⟩) 1 1) a1 (want_none rfl) (ex_bs8 rfl (q36_7.e (j:=55) rfl) (by rw [ha1];exact bsI9 _ _)) rfl q36_7.z (by decide) (q36_7.k fun Ye q36_8 => ?_);clear q36_7;refine vw (vn2) a2 (want_none rfl) (ex_app8 rfl (q36_8.e (j:=49) rfl) (q36_8.e (j:=56) rfl) hr2) rfl q36_8.z (by decide) (q36_8.k fun Yf q36_9 => ?_);clear q36_8;clear hr2 g2 p1 ha1
   refine q36_9.t _ (ex_assign rfl (q36_9.e (j:=57) rfl)) fun _ q36_10 => ?_;clear q36_9
   have hz:=q36_10.z;have s1:=q36_10.a 1 rfl;have s2:=q36_10.a 2 rfl;have s5:=q36_10.a 5 rfl;have s6:=q36_10.a 6 rfl;have s7:=q36_10.a 7 rfl;have s8:=q36_10.a 8 rfl;have s9:=q36_10.a 9 rfl;have s10:=q36_10.a 10 rfl;have s11:=q36_10.a 11 rfl;have s12:=q36_10.a 12 rfl;have s14:=q36_10.a 14 rfl;clear q36_10;refine wpList_nil ?_;have z2:=hb2.size;have hbw2:=hw0.trans (hb2.mono hw0.size);have HI2:=(hI.later (hB.trans (hbw2.mono (by omega)))).m;clear e1 e2 e3 hl hq;obtain ⟨q2,o2,hqa2,hq2,hl2⟩:=HI2.place (by intro e;rw [e] at hit;simp at hit);rw [hqa] at hqa2
   cases hqa2
   have e2 : a2.cell? ⟨q,o + i * 3 + 1,none⟩ = some (.int .u64 x.h):=hl2 i x hxi 1 _ rfl;have e3 : a2.cell? ⟨q,o + i * 3 + 2,none⟩ = some (.int .u64 x.l):=hl2 i x hxi 2 _ rfl
   go_upto_region 12 with fail
   refine wp_region_lit ?_;have q37_0:=(((((((((((Rp.nil hz).cons s1).cons s2).cons s5).cons s6).cons s7).cons s8).cons s9).cons s10).cons s11).cons s12).cons s14;clear hz s1 s2 s5 s6 s7 s8 s9 s10 s11 s12 s14
   refine q37_0.t _ (ex_move rfl (q37_0.e (j:=10) rfl)) fun _ q37_1 => ?_;clear q37_0
   refine q37_1.t (.pointer (some ⟨w.heap.size,9,none⟩)) (ex_fa rfl (q37_1.e (j:=2) rfl) (faS9 _ _)) fun _ q37_2 => ?_;clear q37_1
   refine q37_2.t (.slice s.ma s.M.length s.mc) (ex_ld rfl (q37_2.e (j:=59) rfl) (ldM8 (cell8 (HS.cell 9 _ rfl) hbw2))) fun _ q37_3 => ?_;clear q37_2
   refine q37_3.t _ (ex_move rfl (q37_3.e (j:=14) rfl)) fun _ q37_4 => ?_;clear q37_3
   refine q37_4.t (.pointer (some ⟨q,o + i * 3,none⟩)) (ex_ix rfl (q37_4.e (j:=60) rfl) (q37_4.e (j:=61) rfl) (by rw [hqa];exact ix9Mk q o s.M.length s.mc i hit _)) fun _ q37_5 => ?_;clear q37_4
   refine q37_5.t (.pointer (some ⟨q,o + i * 3 + 1,none⟩)) (ex_fa rfl (q37_5.e (j:=62) rfl) (fa1Mk _ _ _)) fun _ q37_6 => ?_;clear q37_5
   refine q37_6.t (.agg #[.int .u64 x.h,.int .u64 x.l]) (ex_ld rfl (q37_6.e (j:=63) rfl) (ldDr8 (d:=(x.h,x.l)) e2 e3)) fun _ q37_7 => ?_;clear q37_6
   obtain ⟨a3,ha3⟩ : ∃ v,v = a2.alloc (.cells (yR9.cs (x.h,x.l)).toArray 26):=⟨_,rfl⟩
   have b3 : Below a2.heap.size a2 a3:=by rw [ha3];exact (Below.refl _ _).alloc (Nat.le_refl _) _
   have p3 : SlY yR9 a3 (some ⟨a2.heap.size,0,none⟩) 1 1 [(x.h,x.l)]:=by rw [ha3];exact one9 yR9 a2 (x.h,x.l)
   have z3:=b3.size
   have hlD : ((s.M.take i).map fun x => (x.h,x.l)).length = i:=by rw [List.length_map,List.length_take];omega
   obtain ⟨vd2,a4,hr4,oD4,g4,_⟩:=run_appY kR9 a3 29 W0.heap.size _ vd _ _ _ _ p3 (oD2.grow b3) (by omega) (by rw [hlD];unfold maxLen;omega) (by rw [hlD];show (i + 1) * 16 ≤ _;omega);have oN4:=(oN2.grow b3).grownZ (oD2.grow b3) (by decide) g4;have hb4 : Below W0.heap.size W0 a4:=(oD2.grow b3).grown (hb2.trans (b3.mono (by omega))) g4 (by omega);refine vw (.slice (some ⟨a2.heap.size,0,none⟩) 1 1) a3 (want_none rfl) (ex_bs8 rfl (q37_7.e (j:=64) rfl) (by rw [ha3];exact bsR9 (x.h,x.l) _)) rfl q37_7.z (by decide) (q37_7.k fun Yg q37_8 => ?_);clear q37_7;refine vw (vd2) a4 (want_none rfl) (ex_app8 rfl (q37_8.e (j:=58) rfl) (q37_8.e (j:=65) rfl) hr4) rfl q37_8.z (by decide) (q37_8.k fun Yh q37_9 => ?_);clear q37_8;clear hr4 g4 p3 ha3
   refine q37_9.t _ (ex_assign rfl (q37_9.e (j:=66) rfl)) fun _ q37_10 => ?_;clear q37_9
   have hz:=q37_10.z;have s1:=q37_10.a 1 rfl;have s2:=q37_10.a 2 rfl;have s5:=q37_10.a 5 rfl;have s6:=q37_10.a 6 rfl;have s7:=q37_10.a 7 rfl;have s8:=q37_10.a 8 rfl;have s9:=q37_10.a 9 rfl;have s10:=q37_10.a 10 rfl;have s11:=q37_10.a 11 rfl;have s12:=q37_10.a 12 rfl;have s14:=q37_10.a 14 rfl;clear q37_10;refine wpList_nil ?_
   go_upto_region 10 with fail
   refine wp_region_lit ?_;have q38_0:=(((((((((((Rp.nil hz).cons s1).cons s2).cons s5).cons s6).cons s7).cons s8).cons s9).cons s10).cons s11).cons s12).cons s14;clear hz s1 s2 s5 s6 s7 s8 s9 s10 s11 s12 s14
   refine q38_0.t _ (ex_move rfl (q38_0.e (j:=14) rfl)) fun _ q38_1 => ?_;clear q38_0
   refine q38_1.t (.int .i64 ((i + 1 : Nat) : Int)) (ex_bin rfl (q38_1.e (j:=47) rfl) rfl (addD8 _ _ _ 1 ((i + 1 : Nat) : Int) (by rw [IntKind.wrap_i64];omega) _)) fun _ q38_2 => ?_;clear q38_1
   refine q38_2.t _ (ex_assign rfl (q38_2.e (j:=48) rfl)) fun _ q38_3 => ?_;clear q38_2
   have hz:=q38_3.z;have s1:=q38_3.a 1 rfl;have s2:=q38_3.a 2 rfl;have s5:=q38_3.a 5 rfl;have s6:=q38_3.a 6 rfl;have s7:=q38_3.a 7 rfl;have s8:=q38_3.a 8 rfl;have s9:=q38_3.a 9 rfl;have s10:=q38_3.a 10 rfl;have s11:=q38_3.a 11 rfl;have s12:=q38_3.a 12 rfl;have s14:=q38_3.a 14 rfl;clear q38_3;refine wpList_nil ?_
   have et : s.M.take (i + 1) = s.M.take i ++ [x]:=by rw [List.take_add_one,hxi];rfl
   exact ⟨_,rfl,by omega,hz,s1,s2,s5,s7,s8,s9,s11,s12,s14,vn2,vd2,s6,s10,by rw [et,List.map_append];exact oN4,by rw [et,List.map_append];exact oD4,hb4⟩
  ·have d1 : decide ((i : Int) < (s.M.length : Int)) = false:=decide_eq_false (by omega)
   go_upto_region 9 with fail
   refine wp_region_lit ?_;have q39_0:=(((((((((((Rp.nil hz).cons s1).cons s2).cons s5).cons s6).cons s7).cons s8).cons s9).cons s10).cons s11).cons s12).cons s14;clear hz s1 s2 s5 s6 s7 s8 s9 s10 s11 s12 s14
   refine q39_0.t _ (ex_move rfl (q39_0.e (j:=14) rfl)) fun _ q39_1 => ?_;clear q39_0
   refine q39_1.t (.pointer (some ⟨w.heap.size,9,none⟩)) (ex_fa rfl (q39_1.e (j:=2) rfl) (faS9 _ _)) fun _ q39_2 => ?_;clear q39_1
   refine q39_2.t (.slice s.ma s.M.length s.mc) (ex_ld rfl (q39_2.e (j:=43) rfl) (ldM8 (cell8 (HS.cell 9 _ rfl) hbw))) fun _ q39_3 => ?_;clear q39_2
   refine q39_3.t (.int .i64 (s.M.length : Int)) (ex_lenM8 rfl rfl (q39_3.e (j:=44) rfl)) fun _ q39_4 => ?_;clear q39_3
   refine q39_4.t (.bool false) (ex_bin rfl (q39_4.e (j:=42) rfl) (q39_4.e (j:=45) rfl) (lssD8 _ _ _ _ false d1 _)) fun _ q39_5 => ?_;clear q39_4
   have hz:=q39_5.z;have s1:=q39_5.a 1 rfl;have s2:=q39_5.a 2 rfl;have s5:=q39_5.a 5 rfl;have s6:=q39_5.a 6 rfl;have s7:=q39_5.a 7 rfl;have s8:=q39_5.a 8 rfl;have s9:=q39_5.a 9 rfl;have s10:=q39_5.a 10 rfl;have s11:=q39_5.a 11 rfl;have s12:=q39_5.a 12 rfl;have s46:=q39_5.a 46 rfl;clear q39_5;refine wpList_nil ?_
   go_upto_region 13 with fail
   refine wp_cond_false ((ev s46 rfl).trans rfl) ?_;clear s46 d1
   obtain rfl : i = s.M.length:=by omega
   rw [List.take_length] at oN oD;obtain ⟨nMk,mMk,hvn,pNMk,_⟩:=oN.sl kI9;obtain ⟨dMk,eMk,hvd,pDMk,_⟩:=oD.sl kR9;rw [List.length_map] at hvn hvd pNMk pDMk;rw [hvn] at s6;rw [hvd] at s10;clear hvn hvd oN oD HIr hit hi;have hw0:=hbw
   obtain ⟨W1,hW⟩ : ∃ v,v = wr:=⟨_,rfl⟩
   rw [← hW] at hw0 pNMk pDMk hbr hzr hbw ⊢;clear hW;have pNAk:=pNAk.later hbr;have pDAk:=pDAk.later hbr;clear hbr hbw hzr
   go_upto_region 13 with fail
   refine wp_region_lit ?_;have q40_0:=((((((((((Rp.nil hz).cons s1).cons s2).cons s5).cons s6).cons s7).cons s8).cons s9).cons s10).cons s11).cons s12;clear hz s1 s2 s5 s6 s7 s8 s9 s10 s11 s12
   refine q40_0.t (.int .i64 0) (ex_assign rfl rfl) fun _ q40_1 => ?_;clear q40_0
   have hz:=q40_1.z;have s1:=q40_1.a 1 rfl;have s2:=q40_1.a 2 rfl;have s5:=q40_1.a 5 rfl;have s6:=q40_1.a 6 rfl;have s7:=q40_1.a 7 rfl;have s8:=q40_1.a 8 rfl;have s9:=q40_1.a 9 rfl;have s10:=q40_1.a 10 rfl;have s11:=q40_1.a 11 rfl;have s12:=q40_1.a 12 rfl;have s15:=q40_1.a 15 rfl;clear q40_1;refine wpList_nil ?_;have hsv : _ = some (gw true (.int .i64 ((0 : Nat) : Int))):=s15
   go_upto_region 14 with fail
   refine v_loop 15 s.B.length (fun i T wr => T.size = 143∧T[1]? = some (gw true (.int .i64 n))∧T[2]? = some (gw true (.pointer (some ⟨w.heap.size,0,none⟩)))∧T[5]? = some (gw true (.slice nAk s.A.length mAk))∧T[6]? = some (gw true (.slice nMk s.M.length mMk))∧T[8]? = some (gw true (.slice none 0 0))∧T[9]? = some (gw true (.slice dAk s.A.length eAk))∧T[10]? = some (gw true (.slice dMk s.M.length eMk))∧T[12]? = some (gw true (.slice none 0 0))∧T[15]? = some (gw true (.int .i64 (i : Int)))∧Hid (∃ vn vd,T[7]? = some (gw true vn)∧T[11]? = some (gw true vd)∧OwnY yI9 W1.heap.size wr vn ((s.B.take i).map Bl.n)∧OwnY yR9 W1.heap.size wr vd ((s.B.take i).map fun x => (x.h,x.l))∧Below W1.heap.size W1 wr)) (fun i T w h => h.2.2.2.2.2.2.2.2.2.1) ⟨hz,s1,s2,s5,s6,s8,s9,s10,s12,hsv,_,_,s7,s11,OwnY.nil _ _ _,OwnY.nil _ _ _,Below.refl _ _⟩ ?_;clear hz s1 s2 s5 s6 s8 s9 s10 s12 s15 s7 s11 hsv;intro i R2 wr hi hh;obtain ⟨hz,s1,s2,s5,s6,s8,s9,s10,s12,s15,HJ⟩:=hh;obtain ⟨vn,vd,s7,s11,oN,oD,hbr⟩:=HJ.out;clear HJ;have hzr:=hbr.size;have hbw:=hw0.trans (hbr.mono hw0.size);have HIr:=(hI.later (hB.trans (hbw.mono (by omega)))).b
   by_cases hit : i < s.B.length
   ·have d1 : decide ((i : Int) < (s.B.length : Int)) = true:=decide_eq_true (by omega)
    go_upto_region 14 with fail
    refine wp_region_lit ?_;have q41_0:=(((((((((((Rp.nil hz).cons s1).cons s2).cons s5).cons s6).cons s7).cons s8).cons s9).cons s10).cons s11).cons s12).cons s15;clear hz s1 s2 s5 s6 s7 s8 s9 s10 s11 s12 s15
    refine q41_0.t _ (ex_move rfl (q41_0.e (j:=15) rfl)) fun _ q41_1 => ?_;clear q41_0
    refine q41_1.t (.pointer (some ⟨w.heap.size,10,none⟩)) (ex_fa rfl (q41_1.e (j:=2) rfl) (faS10 _ _)) fun _ q41_2 => ?_;clear q41_1
    refine q41_2.t (.slice s.ba s.B.length s.bc) (ex_ld rfl (q41_2.e (j:=68) rfl) (ldB8 (cell8 (HS.cell 10 _ rfl) hbw))) fun _ q41_3 => ?_;clear q41_2
    refine q41_3.t (.int .i64 (s.B.length : Int)) (ex_lenB8 rfl rfl (q41_3.e (j:=69) rfl)) fun _ q41_4 => ?_;clear q41_3
    refine q41_4.t (.bool true) (ex_bin rfl (q41_4.e (j:=67) rfl) (q41_4.e (j:=70) rfl) (lssD8 _ _ _ _ true d1 _)) fun _ q41_5 => ?_;clear q41_4
    have hz:=q41_5.z;have s1:=q41_5.a 1 rfl;have s2:=q41_5.a 2 rfl;have s5:=q41_5.a 5 rfl;have s6:=q41_5.a 6 rfl;have s7:=q41_5.a 7 rfl;have s8:=q41_5.a 8 rfl;have s9:=q41_5.a 9 rfl;have s10:=q41_5.a 10 rfl;have s11:=q41_5.a 11 rfl;have s12:=q41_5.a 12 rfl;have s15:=q41_5.a 15 rfl;have s71:=q41_5.a 71 rfl;clear q41_5;refine wpList_nil ?_
    go_upto_region 16 with fail
    refine wp_cond_true ((ev s71 rfl).trans rfl) ?_;clear s71 d1
    obtain ⟨x,hxi⟩ : ∃ x,s.B[i]? = some x:=⟨_,List.getElem?_eq_getElem hit⟩
    obtain ⟨q,o,hqa,hq,hl⟩:=HIr.place (by intro e;rw [e] at hit;simp at hit);have e1 : wr.cell? ⟨q,o + i * 6,none⟩ = some (.int .i64 x.n):=hl i x hxi 0 _ rfl;have e2 : wr.cell? ⟨q,o + i * 6 + 1,none⟩ = some (.int .u64 x.h):=hl i x hxi 1 _ rfl;have e3 : wr.cell? ⟨q,o + i * 6 + 2,none⟩ = some (.int .u64 x.l):=hl i x hxi 2 _ rfl
    go_upto_region 16 with fail
    refine wp_region_lit ?_;have q42_0:=(((((((((((Rp.nil hz).cons s1).cons s2).cons s5).cons s6).cons s7).cons s8).cons s9).cons s10).cons s11).cons s12).cons s15;clear hz s1 s2 s5 s6 s7 s8 s9 s10 s11 s12 s15
    refine q42_0.t _ (ex_move rfl (q42_0.e (j:=7) rfl)) fun _ q42_1 => ?_;clear q42_0
    refine q42_1.t (.pointer (some ⟨w.heap.size,10,none⟩)) (ex_fa rfl (q42_1.e (j:=2) rfl) (faS10 _ _)) fun _ q42_2 => ?_;clear q42_1
    refine q42_2.t (.slice s.ba s.B.length s.bc) (ex_ld rfl (q42_2.e (j:=75) rfl) (ldB8 (cell8 (HS.cell 10 _ rfl) hbw))) fun _ q42_3 => ?_;clear q42_2
    refine q42_3.t _ (ex_move rfl (q42_3.e (j:=15) rfl)) fun _ q42_4 => ?_;clear q42_3
    refine q42_4.t (.pointer (some ⟨q,o + i * 6,none⟩)) (ex_ix rfl (q42_4.e (j:=76) rfl) (q42_4.e (j:=77) rfl) (by rw [hqa];exact ix9Bl q o s.B.length s.bc i hit _)) fun _ q42_5 => ?_;clear q42_4
    refine q42_5.t (.pointer (some ⟨q,o + i * 6,none⟩)) (ex_fa rfl (q42_5.e (j:=78) rfl) (fa0Bl _ _ _)) fun _ q42_6 => ?_;clear q42_5
    refine q42_6.t (.int .i64 x.n) (ex_ld rfl (q42_6.e (j:=79) rfl) (ldI8 e1)) fun _ q42_7 => ?_;clear q42_6
    obtain ⟨a1,ha1⟩ : ∃ v,v = wr.alloc (.cells (yI9.cs x.n).toArray 3):=⟨_,rfl⟩
    have b1 : Below wr.heap.size wr a1:=by rw [ha1];exact (Below.refl _ _).alloc (Nat.le_refl _) _
    have p1 : SlY yI9 a1 (some ⟨wr.heap.size,0,none⟩) 1 1 [x.n]:=by rw [ha1];exact one9 yI9 wr x.n
    have z1:=b1.size
    have hlN : ((s.B.take i).map Bl.n).length = i:=by rw [List.length_map,List.length_take];omega
    obtain ⟨vn2,a2,hr2,oN2,g2,_⟩:=run_appY kI9 a1 151 W1.heap.size _ vn _ _ _ _ p1 (oN.grow b1) (by omega) (by rw [hlN];unfold maxLen;omega) (by rw [hlN];show (i + 1) * 8 ≤ _;omega);have oD2:=(oD.grow b1).grownZ (oN.grow b1) (by decide) g2;have hb2 : Below W1.heap.size W1 a2:=(oN.grow b1).grown (hbr.trans (b1.mono (by omega))) g2 (by omega);refine vw (.slice (some ⟨wr.heap.size,0,none⟩) 1 1) a1 (want_none rfl) (ex_bs8 rfl (q42_7.e (j:=80) rfl) (by rw [ha1];exact bsI9 _ _)) rfl q42_7.z (by decide) (q42_7.k fun Yi q42_8 => ?_);clear q42_7;refine vw (vn2) a2 (want_none rfl) (ex_app8 rfl (q42_8.e (j:=74) rfl) (q42_8.e (j:=81) rfl) hr2) rfl q42_8.z (by decide) (q42_8.k fun Yj q42_9 => ?_);clear q42_8;clear hr2 g2 p1 ha1
    refine q42_9.t _ (ex_assign rfl (q42_9.e (j:=82) rfl)) fun _ q42_10 => ?_;clear q42_9
    have hz:=q42_10.z;have s1:=q42_10.a 1 rfl;have s2:=q42_10.a 2 rfl;have s5:=q42_10.a 5 rfl;have s6:=q42_10.a 6 rfl;have s7:=q42_10.a 7 rfl;have s8:=q42_10.a 8 rfl;have s9:=q42_10.a 9 rfl;have s10:=q42_10.a 10 rfl;have s11:=q42_10.a 11 rfl;have s12:=q42_10.a 12 rfl;have s15:=q42_10.a 15 rfl;clear q42_10;refine wpList_nil ?_;have z2:=hb2.size;have hbw2:=hw0.trans (hb2.mono hw0.size);have HI2:=(hI.later (hB.trans (hbw2.mono (by omega)))).b;clear e1 e2 e3 hl hq;obtain ⟨q2,o2,hqa2,hq2,hl2⟩:=HI2.place (by intro e;rw [e] at hit;simp at hit);rw [hqa] at hqa2
    cases hqa2
    have e2 : a2.cell? ⟨q,o + i * 6 + 1,none⟩ = some (.int .u64 x.h):=hl2 i x hxi 1 _ rfl;have e3 : a2.cell? ⟨q,o + i * 6 + 2,none⟩ = some (.int .u64 x.l):=hl2 i x hxi 2 _ rfl
    go_upto_region 17 with fail
    refine wp_region_lit ?_;have q43_0:=(((((((((((Rp.nil hz).cons s1).cons s2).cons s5).cons s6).cons s7).cons s8).cons s9).cons s10).cons s11).cons s12).cons s15;clear hz s1 s2 s5 s6 s7 s8 s9 s10 s11 s12 s15
    refine q43_0.t _ (ex_move rfl (q43_0.e (j:=11) rfl)) fun _ q43_1 => ?_;clear q43_0
    refine q43_1.t (.pointer (some ⟨w.heap.size,10,none⟩)) (ex_fa rfl (q43_1.e (j:=2) rfl) (faS10 _ _)) fun _ q43_2 => ?_;clear q43_1
    refine q43_2.t (.slice s.ba s.B.length s.bc) (ex_ld rfl (q43_2.e (j:=84) rfl) (ldB8 (cell8 (HS.cell 10 _ rfl) hbw2))) fun _ q43_3 => ?_;clear q43_2
    refine q43_3.t _ (ex_move rfl (q43_3.e (j:=15) rfl)) fun _ q43_4 => ?_;clear q43_3
    refine q43_4.t (.pointer (some ⟨q,o + i * 6,none⟩)) (ex_ix rfl (q43_4.e (j:=85) rfl) (q43_4.e (j:=86) rfl) (by rw [hqa];exact ix9Bl q o s.B.length s.bc i hit _)) fun _ q43_5 => ?_;clear q43_4
    refine q43_5.t (.pointer (some ⟨q,o + i * 6 + 1,none⟩)) (ex_fa rfl (q43_5.e (j:=87) rfl) (fa1Bl _ _ _)) fun _ q43_6 => ?_;clear q43_5
    refine q43_6.t (.agg #[.int .u64 x.h,.int .u64 x.l]) (ex_ld rfl (q43_6.e (j:=88) rfl) (ldDr8 (d:=(x.h,x.l)) e2 e3)) fun _ q43_7 => ?_;clear q43_6
    obtain ⟨a3,ha3⟩ : ∃ v,v = a2.alloc (.cells (yR9.cs (x.h,x.l)).toArray 26):=⟨_,rfl⟩
    have b3 : Below a2.heap.size a2 a3:=by rw [ha3];exact (Below.refl _ _).alloc (Nat.le_refl _) _
    have p3 : SlY yR9 a3 (some ⟨a2.heap.size,0,none⟩) 1 1 [(x.h,x.l)]:=by rw [ha3];exact one9 yR9 a2 (x.h,x.l)
    have z3:=b3.size
    have hlD : ((s.B.take i).map fun x => (x.h,x.l)).length = i:=by rw [List.length_map,List.length_take];omega
    obtain ⟨vd2,a4,hr4,oD4,g4,_⟩:=run_appY kR9 a3 29 W1.heap.size _ vd _ _ _ _ p3 (oD2.grow b3) (by omega) (by rw [hlD];unfold maxLen;omega) (by rw [hlD];show (i + 1) * 16 ≤ _;omega);have oN4:=(oN2.grow b3).grownZ (oD2.grow b3) (by decide) g4;have hb4 : Below W1.heap.size W1 a4:=(oD2.grow b3).grown (hb2.trans (b3.mono (by omega))) g4 (by omega);refine vw (.slice (some ⟨a2.heap.size,0,none⟩) 1 1) a3 (want_none rfl) (ex_bs8 rfl (q43_7.e (j:=89) rfl) (by rw [ha3];exact bsR9 (x.h,x.l) _)) rfl q43_7.z (by decide) (q43_7.k fun Yk q43_8 => ?_);clear q43_7;refine vw (vd2) a4 (want_none rfl) (ex_app8 rfl (q43_8.e (j:=83) rfl) (q43_8.e (j:=90) rfl) hr4) rfl q43_8.z (by decide) (q43_8.k fun Yl q43_9 => ?_);clear q43_8;clear hr4 g4 p3 ha3
    refine q43_9.t _ (ex_assign rfl (q43_9.e (j:=91) rfl)) fun _ q43_10 => ?_;clear q43_9
    have hz:=q43_10.z;have s1:=q43_10.a 1 rfl;have s2:=q43_10.a 2 rfl;have s5:=q43_10.a 5 rfl;have s6:=q43_10.a 6 rfl;have s7:=q43_10.a 7 rfl;have s8:=q43_10.a 8 rfl;have s9:=q43_10.a 9 rfl;have s10:=q43_10.a 10 rfl;have s11:=q43_10.a 11 rfl;have s12:=q43_10.a 12 rfl;have s15:=q43_10.a 15 rfl;clear q43_10;refine wpList_nil ?_
    go_upto_region 15 with fail
    refine wp_region_lit ?_;have q44_0:=(((((((((((Rp.nil hz).cons s1).cons s2).cons s5).cons s6).cons s7).cons s8).cons s9).cons s10).cons s11).cons s12).cons s15;clear hz s1 s2 s5 s6 s7 s8 s9 s10 s11 s12 s15
    refine q44_0.t _ (ex_move rfl (q44_0.e (j:=15) rfl)) fun _ q44_1 => ?_;clear q44_0
    refine q44_1.t (.int .i64 ((i + 1 : Nat) : Int)) (ex_bin rfl (q44_1.e (j:=72) rfl) rfl (addD8 _ _ _ 1 ((i + 1 : Nat) : Int) (by rw [IntKind.wrap_i64];omega) _)) fun _ q44_2 => ?_;clear q44_1
    refine q44_2.t _ (ex_assign rfl (q44_2.e (j:=73) rfl)) fun _ q44_3 => ?_;clear q44_2
    have hz:=q44_3.z;have s1:=q44_3.a 1 rfl;have s2:=q44_3.a 2 rfl;have s5:=q44_3.a 5 rfl;have s6:=q44_3.a 6 rfl;have s7:=q44_3.a 7 rfl;have s8:=q44_3.a 8 rfl;have s9:=q44_3.a 9 rfl;have s10:=q44_3.a 10 rfl;have s11:=q44_3.a 11 rfl;have s12:=q44_3.a 12 rfl;have s15:=q44_3.a 15 rfl;clear q44_3;refine wpList_nil ?_
    have et : s.B.take (i + 1) = s.B.take i ++ [x]:=by rw [List.take_add_one,hxi];rfl
    exact ⟨_,rfl,by omega,hz,s1,s2,s5,s6,s8,s9,s10,s12,s15,vn2,vd2,s7,s11,by rw [et,List.map_append];exact oN4,by rw [et,List.map_append];exact oD4,hb4⟩
   ·have d1 : decide ((i : Int) < (s.B.length : Int)) = false:=decide_eq_false (by omega)
    go_upto_region 14 with fail
    refine wp_region_lit ?_;have q45_0:=(((((((((((Rp.nil hz).cons s1).cons s2).cons s5).cons s6).cons s7).cons s8).cons s9).cons s10).cons s11).cons s12).cons s15;clear hz s1 s2 s5 s6 s7 s8 s9 s10 s11 s12 s15
    refine q45_0.t _ (ex_move rfl (q45_0.e (j:=15) rfl)) fun _ q45_1 => ?_;clear q45_0
    refine q45_1.t (.pointer (some ⟨w.heap.size,10,none⟩)) (ex_fa rfl (q45_1.e (j:=2) rfl) (faS10 _ _)) fun _ q45_2 => ?_;clear q45_1
    refine q45_2.t (.slice s.ba s.B.length s.bc) (ex_ld rfl (q45_2.e (j:=68) rfl) (ldB8 (cell8 (HS.cell 10 _ rfl) hbw))) fun _ q45_3 => ?_;clear q45_2
    refine q45_3.t (.int .i64 (s.B.length : Int)) (ex_lenB8 rfl rfl (q45_3.e (j:=69) rfl)) fun _ q45_4 => ?_;clear q45_3
    refine q45_4.t (.bool false) (ex_bin rfl (q45_4.e (j:=67) rfl) (q45_4.e (j:=70) rfl) (lssD8 _ _ _ _ false d1 _)) fun _ q45_5 => ?_;clear q45_4
    have hz:=q45_5.z;have s1:=q45_5.a 1 rfl;have s2:=q45_5.a 2 rfl;have s5:=q45_5.a 5 rfl;have s6:=q45_5.a 6 rfl;have s7:=q45_5.a 7 rfl;have s8:=q45_5.a 8 rfl;have s9:=q45_5.a 9 rfl;have s10:=q45_5.a 10 rfl;have s11:=q45_5.a 11 rfl;have s12:=q45_5.a 12 rfl;have s71:=q45_5.a 71 rfl;clear q45_5;refine wpList_nil ?_
    go_upto_region 18 with fail
    refine wp_cond_false ((ev s71 rfl).trans rfl) ?_;clear s71 d1
    obtain rfl : i = s.B.length:=by omega
    rw [List.take_length] at oN oD;obtain ⟨nBl,mBl,hvn,pNBl,_⟩:=oN.sl kI9;obtain ⟨dBl,eBl,hvd,pDBl,_⟩:=oD.sl kR9;rw [List.length_map] at hvn hvd pNBl pDBl;rw [hvn] at s7;rw [hvd] at s11;clear hvn hvd oN oD HIr hit hi;have hw0:=hbw
    obtain ⟨W2,hW⟩ : ∃ v,v = wr:=⟨_,rfl⟩
    rw [← hW] at hw0 pNBl pDBl hbr hzr hbw ⊢;clear hW;have pNAk:=pNAk.later hbr;have pDAk:=pDAk.later hbr;have pNMk:=pNMk.later hbr;have pDMk:=pDMk.later hbr;clear hbr hbw hzr
    go_upto_region 18 with fail
    refine wp_region_lit ?_;have q46_0:=((((((((((Rp.nil hz).cons s1).cons s2).cons s5).cons s6).cons s7).cons s8).cons s9).cons s10).cons s11).cons s12;clear hz s1 s2 s5 s6 s7 s8 s9 s10 s11 s12
    refine q46_0.t (.int .i64 0) (ex_assign rfl rfl) fun _ q46_1 => ?_;clear q46_0
    have hz:=q46_1.z;have s1:=q46_1.a 1 rfl;have s2:=q46_1.a 2 rfl;have s5:=q46_1.a 5 rfl;have s6:=q46_1.a 6 rfl;have s7:=q46_1.a 7 rfl;have s8:=q46_1.a 8 rfl;have s9:=q46_1.a 9 rfl;have s10:=q46_1.a 10 rfl;have s11:=q46_1.a 11 rfl;have s12:=q46_1.a 12 rfl;have s16:=q46_1.a 16 rfl;clear q46_1;refine wpList_nil ?_;have hsv : _ = some (gw true (.int .i64 ((0 : Nat) : Int))):=s16
    go_upto_region 19 with fail
    refine v_loop 16 s.N.length (fun i T wr => T.size = 143∧T[1]? = some (gw true (.int .i64 n))∧T[2]? = some (gw true (.pointer (some ⟨w.heap.size,0,none⟩)))∧T[5]? = some (gw true (.slice nAk s.A.length mAk))∧T[6]? = some (gw true (.slice nMk s.M.length mMk))∧T[7]? = some (gw true (.slice nBl s.B.length mBl))∧T[9]? = some (gw true (.slice dAk s.A.length eAk))∧T[10]? = some (gw true (.slice dMk s.M.length eMk))∧T[11]? = some (gw true (.slice dBl s.B.length eBl))∧T[16]? = some (gw true (.int .i64 (i : Int)))∧Hid (∃ vn vd,T[8]? = some (gw true vn)∧T[12]? = some (gw true vd)∧OwnY yI9 W2.heap.size wr vn ((s.N.take i).map An.n)∧OwnY yR9 W2.heap.size wr vd ((s.N.take i).map fun x => (x.h,x.l))∧Below W2.heap.size W2 wr)) (fun i T w h => h.2.2.2.2.2.2.2.2.2.1) ⟨hz,s1,s2,s5,s6,s7,s9,s10,s11,hsv,_,_,s8,s12,OwnY.nil _ _ _,OwnY.nil _ _ _,Below.refl _ _⟩ ?_;clear hz s1 s2 s5 s6 s7 s9 s10 s11 s16 s8 s12 hsv;intro i R3 wr hi hh;obtain ⟨hz,s1,s2,s5,s6,s7,s9,s10,s11,s16,HJ⟩:=hh;obtain ⟨vn,vd,s8,s12,oN,oD,hbr⟩:=HJ.out;clear HJ;have hzr:=hbr.size;have hbw:=hw0.trans (hbr.mono hw0.size);have HIr:=(hI.later (hB.trans (hbw.mono (by omega)))).n
    by_cases hit : i < s.N.length
    ·have d1 : decide ((i : Int) < (s.N.length : Int)) = true:=decide_eq_true (by omega)
     go_upto_region 19 with fail
     refine wp_region_lit ?_;have q47_0:=(((((((((((Rp.nil hz).cons s1).cons s2).cons s5).cons s6).cons s7).cons s8).cons s9).cons s10).cons s11).cons s12).cons s16;clear hz s1 s2 s5 s6 s7 s8 s9 s10 s11 s12 s16
     refine q47_0.t _ (ex_move rfl (q47_0.e (j:=16) rfl)) fun _ q47_1 => ?_;clear q47_0
     refine q47_1.t (.pointer (some ⟨w.heap.size,11,none⟩)) (ex_fa rfl (q47_1.e (j:=2) rfl) (faS11 _ _)) fun _ q47_2 => ?_;clear q47_1
     refine q47_2.t (.slice s.na s.N.length s.nc) (ex_ld rfl (q47_2.e (j:=93) rfl) (ldN8 (cell8 (HS.cell 11 _ rfl) hbw))) fun _ q47_3 => ?_;clear q47_2
     refine q47_3.t (.int .i64 (s.N.length : Int)) (ex_lenN8 rfl rfl (q47_3.e (j:=94) rfl)) fun _ q47_4 => ?_;clear q47_3
     refine q47_4.t (.bool true) (ex_bin rfl (q47_4.e (j:=92) rfl) (q47_4.e (j:=95) rfl) (lssD8 _ _ _ _ true d1 _)) fun _ q47_5 => ?_;clear q47_4
     have hz:=q47_5.z;have s1:=q47_5.a 1 rfl;have s2:=q47_5.a 2 rfl;have s5:=q47_5.a 5 rfl;have s6:=q47_5.a 6 rfl;have s7:=q47_5.a 7 rfl;have s8:=q47_5.a 8 rfl;have s9:=q47_5.a 9 rfl;have s10:=q47_5.a 10 rfl;have s11:=q47_5.a 11 rfl;have s12:=q47_5.a 12 rfl;have s16:=q47_5.a 16 rfl;have s96:=q47_5.a 96 rfl;clear q47_5;refine wpList_nil ?_
     go_upto_region 21 with fail
     refine wp_cond_true ((ev s96 rfl).trans rfl) ?_;clear s96 d1
     obtain ⟨x,hxi⟩ : ∃ x,s.N[i]? = some x:=⟨_,List.getElem?_eq_getElem hit⟩
     obtain ⟨q,o,hqa,hq,hl⟩:=HIr.place (by intro e;rw [e] at hit;simp at hit);have e1 : wr.cell? ⟨q,o + i * 6,none⟩ = some (.int .i64 x.n):=hl i x hxi 0 _ rfl;have e2 : wr.cell? ⟨q,o + i * 6 + 1,none⟩ = some (.int .u64 x.h):=hl i x hxi 1 _ rfl;have e3 : wr.cell? ⟨q,o + i * 6 + 2,none⟩ = some (.int .u64 x.l):=hl i x hxi 2 _ rfl
     go_upto_region 21 with fail
     refine wp_region_lit ?_;have q48_0:=(((((((((((Rp.nil hz).cons s1).cons s2).cons s5).cons s6).cons s7).cons s8).cons s9).cons s10).cons s11).cons s12).cons s16;clear hz s1 s2 s5 s6 s7 s8 s9 s10 s11 s12 s16
     refine q48_0.t _ (ex_move rfl (q48_0.e (j:=8) rfl)) fun _ q48_1 => ?_;clear q48_0
     refine q48_1.t (.pointer (some ⟨w.heap.size,11,none⟩)) (ex_fa rfl (q48_1.e (j:=2) rfl) (faS11 _ _)) fun _ q48_2 => ?_;clear q48_1
     refine q48_2.t (.slice s.na s.N.length s.nc) (ex_ld rfl (q48_2.e (j:=100) rfl) (ldN8 (cell8 (HS.cell 11 _ rfl) hbw))) fun _ q48_3 => ?_;clear q48_2
     refine q48_3.t _ (ex_move rfl (q48_3.e (j:=16) rfl)) fun _ q48_4 => ?_;clear q48_3
     refine q48_4.t (.pointer (some ⟨q,o + i * 6,none⟩)) (ex_ix rfl (q48_4.e (j:=101) rfl) (q48_4.e (j:=102) rfl) (by rw [hqa];exact ix9An q o s.N.length s.nc i hit _)) fun _ q48_5 => ?_;clear q48_4
     refine q48_5.t (.pointer (some ⟨q,o + i * 6,none⟩)) (ex_fa rfl (q48_5.e (j:=103) rfl) (fa0An _ _ _)) fun _ q48_6 => ?_;clear q48_5
     refine q48_6.t (.int .i64 x.n) (ex_ld rfl (q48_6.e (j:=104) rfl) (ldI8 e1)) fun _ q48_7 => ?_;clear q48_6
     obtain ⟨a1,ha1⟩ : ∃ v,v = wr.alloc (.cells (yI9.cs x.n).toArray 3):=⟨_,rfl⟩
     have b1 : Below wr.heap.size wr a1:=by rw [ha1];exact (Below.refl _ _).alloc (Nat.le_refl _) _
     have p1 : SlY yI9 a1 (some ⟨wr.heap.size,0,none⟩) 1 1 [x.n]:=by rw [ha1];exact one9 yI9 wr x.n
     have z1:=b1.size
     have hlN : ((s.N.take i).map An.n).length = i:=by rw [List.length_map,List.length_take];omega
     obtain ⟨vn2,a2,hr2,oN2,g2,_⟩:=run_appY kI9 a1 151 W2.heap.size _ vn _ _ _ _ p1 (oN.grow b1) (by omega) (by rw [hlN];unfold maxLen;omega) (by rw [hlN];show (i + 1) * 8 ≤ _;omega);have oD2:=(oD.grow b1).grownZ (oN.grow b1) (by decide) g2;have hb2 : Below W2.heap.size W2 a2:=(oN.grow b1).grown (hbr.trans (b1.mono (by omega))) g2 (by omega);refine vw (.slice (some ⟨wr.heap.size,0,none⟩) 1 1) a1 (want_none rfl) (ex_bs8 rfl (q48_7.e (j:=105) rfl) (by rw [ha1];exact bsI9 _ _)) rfl q48_7.z (by decide) (q48_7.k fun Ym q48_8 => ?_);clear q48_7;refine vw (vn2) a2 (want_none rfl) (ex_app8 rfl (q48_8.e (j:=99) rfl) (q48_8.e (j:=106) rfl) hr2) rfl q48_8.z (by decide) (q48_8.k fun Yn q48_9 => ?_);clear q48_8;clear hr2 g2 p1 ha1
     refine q48_9.t _ (ex_assign rfl (q48_9.e (j:=107) rfl)) fun _ q48_10 => ?_;clear q48_9
     have hz:=q48_10.z;have s1:=q48_10.a 1 rfl;have s2:=q48_10.a 2 rfl;have s5:=q48_10.a 5 rfl;have s6:=q48_10.a 6 rfl;have s7:=q48_10.a 7 rfl;have s8:=q48_10.a 8 rfl;have s9:=q48_10.a 9 rfl;have s10:=q48_10.a 10 rfl;have s11:=q48_10.a 11 rfl;have s12:=q48_10.a 12 rfl;have s16:=q48_10.a 16 rfl;clear q48_10;refine wpList_nil ?_;have z2:=hb2.size;have hbw2:=hw0.trans (hb2.mono hw0.size);have HI2:=(hI.later (hB.trans (hbw2.mono (by omega)))).n;clear e1 e2 e3 hl hq;obtain ⟨q2,o2,hqa2,hq2,hl2⟩:=HI2.place (by intro e;rw [e] at hit;simp at hit);rw [hqa] at hqa2
     cases hqa2
     have e2 : a2.cell? ⟨q,o + i * 6 + 1,none⟩ = some (.int .u64 x.h):=hl2 i x hxi 1 _ rfl;have e3 : a2.cell? ⟨q,o + i * 6 + 2,none⟩ = some (.int .u64 x.l):=hl2 i x hxi 2 _ rfl
     go_upto_region 22 with fail
     refine wp_region_lit ?_;have q49_0:=(((((((((((Rp.nil hz).cons s1).cons s2).cons s5).cons s6).cons s7).cons s8).cons s9).cons s10).cons s11).cons s12).cons s16;clear hz s1 s2 s5 s6 s7 s8 s9 s10 s11 s12 s16
     refine q49_0.t _ (ex_move rfl (q49_0.e (j:=12) rfl)) fun _ q49_1 => ?_;clear q49_0
     refine q49_1.t (.pointer (some ⟨w.heap.size,11,none⟩)) (ex_fa rfl (q49_1.e (j:=2) rfl) (faS11 _ _)) fun _ q49_2 => ?_;clear q49_1
     refine q49_2.t (.slice s.na s.N.length s.nc) (ex_ld rfl (q49_2.e (j:=109) rfl) (ldN8 (cell8 (HS.cell 11 _ rfl) hbw2))) fun _ q49_3 => ?_;clear q49_2
     refine q49_3.t _ (ex_move rfl (q49_3.e (j:=16) rfl)) fun _ q49_4 => ?_;clear q49_3
     refine q49_4.t (.pointer (some ⟨q,o + i * 6,none⟩)) (ex_ix rfl (q49_4.e (j:=110) rfl) (q49_4.e (j:=111) rfl) (by rw [hqa];exact ix9An q o s.N.length s.nc i hit _)) fun _ q49_5 => ?_;clear q49_4
     refine q49_5.t (.pointer (some ⟨q,o + i * 6 + 1,none⟩)) (ex_fa rfl (q49_5.e (j:=112) rfl) (fa1An _ _ _)) fun _ q49_6 => ?_;clear q49_5
     refine q49_6.t (.agg #[.int .u64 x.h,.int .u64 x.l]) (ex_ld rfl (q49_6.e (j:=113) rfl) (ldDr8 (d:=(x.h,x.l)) e2 e3)) fun _ q49_7 => ?_;clear q49_6
     obtain ⟨a3,ha3⟩ : ∃ v,v = a2.alloc (.cells (yR9.cs (x.h,x.l)).toArray 26):=⟨_,rfl⟩
     have b3 : Below a2.heap.size a2 a3:=by rw [ha3];exact (Below.refl _ _).alloc (Nat.le_refl _) _
     have p3 : SlY yR9 a3 (some ⟨a2.heap.size,0,none⟩) 1 1 [(x.h,x.l)]:=by rw [ha3];exact one9 yR9 a2 (x.h,x.l)
     have z3:=b3.size
     have hlD : ((s.N.take i).map fun x => (x.h,x.l)).length = i:=by rw [List.length_map,List.length_take];omega
     obtain ⟨vd2,a4,hr4,oD4,g4,_⟩:=run_appY kR9 a3 29 W2.heap.size _ vd _ _ _ _ p3 (oD2.grow b3) (by omega) (by rw [hlD];unfold maxLen;omega) (by rw [hlD];show (i + 1) * 16 ≤ _;omega);have oN4:=(oN2.grow b3).grownZ (oD2.grow b3) (by decide) g4;have hb4 : Below W2.heap.size W2 a4:=(oD2.grow b3).grown (hb2.trans (b3.mono (by omega))) g4 (by omega);refine vw (.slice (some ⟨a2.heap.size,0,none⟩) 1 1) a3 (want_none rfl) (ex_bs8 rfl (q49_7.e (j:=114) rfl) (by rw [ha3];exact bsR9 (x.h,x.l) _)) rfl q49_7.z (by decide) (q49_7.k fun Yo q49_8 => ?_);clear q49_7;refine vw (vd2) a4 (want_none rfl) (ex_app8 rfl (q49_8.e (j:=108) rfl) (q49_8.e (j:=115) rfl) hr4) rfl q49_8.z (by decide) (q49_8.k fun Yp q49_9 => ?_);clear q49_8;clear hr4 g4 p3 ha3
     refine q49_9.t _ (ex_assign rfl (q49_9.e (j:=116) rfl)) fun _ q49_10 => ?_;clear q49_9
     have hz:=q49_10.z;have s1:=q49_10.a 1 rfl;have s2:=q49_10.a 2 rfl;have s5:=q49_10.a 5 rfl;have s6:=q49_10.a 6 rfl;have s7:=q49_10.a 7 rfl;have s8:=q49_10.a 8 rfl;have s9:=q49_10.a 9 rfl;have s10:=q49_10.a 10 rfl;have s11:=q49_10.a 11 rfl;have s12:=q49_10.a 12 rfl;have s16:=q49_10.a 16 rfl;clear q49_10;refine wpList_nil ?_
     go_upto_region 20 with fail
     refine wp_region_lit ?_;have q50_0:=(((((((((((Rp.nil hz).cons s1).cons s2).cons s5).cons s6).cons s7).cons s8).cons s9).cons s10).cons s11).cons s12).cons s16;clear hz s1 s2 s5 s6 s7 s8 s9 s10 s11 s12 s16
     refine q50_0.t _ (ex_move rfl (q50_0.e (j:=16) rfl)) fun _ q50_1 => ?_;clear q50_0
     refine q50_1.t (.int .i64 ((i + 1 : Nat) : Int)) (ex_bin rfl (q50_1.e (j:=97) rfl) rfl (addD8 _ _ _ 1 ((i + 1 : Nat) : Int) (by rw [IntKind.wrap_i64];omega) _)) fun _ q50_2 => ?_;clear q50_1
     refine q50_2.t _ (ex_assign rfl (q50_2.e (j:=98) rfl)) fun _ q50_3 => ?_;clear q50_2
     have hz:=q50_3.z;have s1:=q50_3.a 1 rfl;have s2:=q50_3.a 2 rfl;have s5:=q50_3.a 5 rfl;have s6:=q50_3.a 6 rfl;have s7:=q50_3.a 7 rfl;have s8:=q50_3.a 8 rfl;have s9:=q50_3.a 9 rfl;have s10:=q50_3.a 10 rfl;have s11:=q50_3.a 11 rfl;have s12:=q50_3.a 12 rfl;have s16:=q50_3.a 16 rfl;clear q50_3;refine wpList_nil ?_
     have et : s.N.take (i + 1) = s.N.take i ++ [x]:=by rw [List.take_add_one,hxi];rfl
     exact ⟨_,rfl,by omega,hz,s1,s2,s5,s6,s7,s9,s10,s11,s16,vn2,vd2,s8,s12,by rw [et,List.map_append];exact oN4,by rw [et,List.map_append];exact oD4,hb4⟩
    ·have d1 : decide ((i : Int) < (s.N.length : Int)) = false:=decide_eq_false (by omega)
     go_upto_region 19 with fail
     refine wp_region_lit ?_;have q51_0:=(((((((((((Rp.nil hz).cons s1).cons s2).cons s5).cons s6).cons s7).cons s8).cons s9).cons s10).cons s11).cons s12).cons s16;clear hz s1 s2 s5 s6 s7 s8 s9 s10 s11 s12 s16
     refine q51_0.t _ (ex_move rfl (q51_0.e (j:=16) rfl)) fun _ q51_1 => ?_;clear q51_0
     refine q51_1.t (.pointer (some ⟨w.heap.size,11,none⟩)) (ex_fa rfl (q51_1.e (j:=2) rfl) (faS11 _ _)) fun _ q51_2 => ?_;clear q51_1
     refine q51_2.t (.slice s.na s.N.length s.nc) (ex_ld rfl (q51_2.e (j:=93) rfl) (ldN8 (cell8 (HS.cell 11 _ rfl) hbw))) fun _ q51_3 => ?_;clear q51_2
     refine q51_3.t (.int .i64 (s.N.length : Int)) (ex_lenN8 rfl rfl (q51_3.e (j:=94) rfl)) fun _ q51_4 => ?_;clear q51_3
     refine q51_4.t (.bool false) (ex_bin rfl (q51_4.e (j:=92) rfl) (q51_4.e (j:=95) rfl) (lssD8 _ _ _ _ false d1 _)) fun _ q51_5 => ?_;clear q51_4
     have hz:=q51_5.z;have s1:=q51_5.a 1 rfl;have s2:=q51_5.a 2 rfl;have s5:=q51_5.a 5 rfl;have s6:=q51_5.a 6 rfl;have s7:=q51_5.a 7 rfl;have s8:=q51_5.a 8 rfl;have s9:=q51_5.a 9 rfl;have s10:=q51_5.a 10 rfl;have s11:=q51_5.a 11 rfl;have s12:=q51_5.a 12 rfl;have s96:=q51_5.a 96 rfl;clear q51_5;refine wpList_nil ?_
     go_upto_region 23 with fail
     refine wp_cond_false ((ev s96 rfl).trans rfl) ?_;clear s96 d1
     obtain rfl : i = s.N.length:=by omega
     rw [List.take_length] at oN oD;obtain ⟨nAn,mAn,hvn,pNAn,_⟩:=oN.sl kI9;obtain ⟨dAn,eAn,hvd,pDAn,_⟩:=oD.sl kR9;rw [List.length_map] at hvn hvd pNAn pDAn;rw [hvn] at s8;rw [hvd] at s12;clear hvn hvd oN oD HIr hit hi;have hw0:=hbw
     obtain ⟨W3,hW⟩ : ∃ v,v = wr:=⟨_,rfl⟩
     rw [← hW] at hw0 pNAn pDAn hbr hzr hbw ⊢;clear hW;have pNAk:=pNAk.later hbr;have pDAk:=pDAk.later hbr;have pNMk:=pNMk.later hbr;have pDMk:=pDMk.later hbr;have pNBl:=pNBl.later hbr;have pDBl:=pDBl.later hbr;clear hbr hbw hzr;have HS:=HS.bel hw0;have hB:=hB.trans (hw0.mono (by omega));have hv9 : Below W3.heap.size W3 W3:=Below.refl _ _;have hzW:=hw0.size;have hz1:=hB.size
     go_upto_region 23 with fail
     refine wp_region_lit ?_;have q52_0:=((((((((((Rp.nil hz).cons s1).cons s2).cons s5).cons s6).cons s7).cons s8).cons s9).cons s10).cons s11).cons s12;clear hz s1 s2 s5 s6 s7 s8 s9 s10 s11 s12
     refine q52_0.t (s.val) (ex_ld rfl (q52_0.e (j:=2) rfl) (SB7.ld (HS.bel hv9))) fun _ q52_1 => ?_;clear q52_0
     refine q52_1.t _ (ex_move rfl (q52_1.e (j:=1) rfl)) fun _ q52_2 => ?_;clear q52_1
     refine q52_2.t _ (ex_move rfl (q52_2.e (j:=5) rfl)) fun _ q52_3 => ?_;clear q52_2
     refine q52_3.t _ (ex_move rfl (q52_3.e (j:=9) rfl)) fun _ q52_4 => ?_;clear q52_3
     refine vcall true (.bool (rv9 s n (s.A.map Ak.sm))) (want_none rfl) (fun hc => ex_call rfl (by simp only [List.map_toArray,List.map_cons,List.map_nil,(q52_4.e (j:=117) rfl),(q52_4.e (j:=118) rfl),(q52_4.e (j:=119) rfl),(q52_4.e (j:=120) rfl),evc] <;> rfl) rfl) (fun hc => rvoters9' s n (s.A.map Ak.sm) nAk dAk mAk eAk s.A.length (List.length_map _) W3 (hI.later (hB.trans (hv9.mono hz1))) hn hn1 (by rw [List.map_map];exact pNAk.later hv9) (by rw [List.map_map];exact pDAk.later hv9)) rfl q52_4.z (by decide) (q52_4.kc fun Yq x41 hb q52_5 => ?_);clear q52_4;have hx41:=hv9.trans (hb.mono hv9.size);clear hb
     refine q52_5.t _ (ex_move rfl (q52_5.e (j:=121) rfl)) fun _ q52_6 => ?_;clear q52_5
     refine vl _ (s.val) (want_g rfl rfl (q52_6.a 122 rfl)) (fun hc => ex_ld rfl (q52_6.e (j:=2) rfl) (SB7.ld (HS.bel hx41))) rfl q52_6.z (by decide) (q52_6.k fun Yr q52_7 => ?_);clear q52_6;refine vl _ (.int .i64 n) (want_g rfl rfl (q52_7.a 122 rfl)) (fun hc => ex_move rfl (q52_7.e (j:=1) rfl)) rfl q52_7.z (by decide) (q52_7.k fun Ys q52_8 => ?_);clear q52_7;refine vl _ (.slice nMk s.M.length mMk) (want_g rfl rfl (q52_8.a 122 rfl)) (fun hc => ex_move rfl (q52_8.e (j:=6) rfl)) rfl q52_8.z (by decide) (q52_8.k fun Yt q52_9 => ?_);clear q52_8;refine vl _ (.slice dMk s.M.length eMk) (want_g rfl rfl (q52_9.a 122 rfl)) (fun hc => ex_move rfl (q52_9.e (j:=10) rfl)) rfl q52_9.z (by decide) (q52_9.k fun Yu q52_10 => ?_);clear q52_9;refine vcall (true && ((rv9 s n (s.A.map Ak.sm)) == true)) (.bool (rv9 s n (s.M.map Mk.sm))) (want_g rfl rfl (q52_10.a 122 rfl)) (fun hc => ex_call rfl (by simp only [List.map_toArray,List.map_cons,List.map_nil,(ev (q52_10.a 123 rfl) hc),(ev (q52_10.a 124 rfl) hc),(ev (q52_10.a 125 rfl) hc),(ev (q52_10.a 126 rfl) hc),evc] <;> rfl) rfl) (fun hc => rvoters9' s n (s.M.map Mk.sm) nMk dMk mMk eMk s.M.length (List.length_map _) x41 (hI.later (hB.trans (hx41.mono hz1))) hn hn1 (by rw [List.map_map];exact pNMk.later hx41) (by rw [List.map_map];exact pDMk.later hx41)) rfl q52_10.z (by decide) (q52_10.kc fun Yv x42 hb q52_11 => ?_);clear q52_10;have hx42:=hx41.trans (hb.mono hx41.size);clear hb
     refine q52_11.t (.bool ((rv9 s n (s.A.map Ak.sm)) && (rv9 s n (s.M.map Mk.sm)))) (ex_and rfl (q52_11.a 122 rfl) (q52_11.a 127 rfl) rfl) fun _ q52_12 => ?_;clear q52_11
     refine q52_12.t _ (ex_move rfl (q52_12.e (j:=128) rfl)) fun _ q52_13 => ?_;clear q52_12
     refine vl _ (s.val) (want_g rfl rfl (q52_13.a 129 rfl)) (fun hc => ex_ld rfl (q52_13.e (j:=2) rfl) (SB7.ld (HS.bel hx42))) rfl q52_13.z (by decide) (q52_13.k fun Yw q52_14 => ?_);clear q52_13;refine vl _ (.int .i64 n) (want_g rfl rfl (q52_14.a 129 rfl)) (fun hc => ex_move rfl (q52_14.e (j:=1) rfl)) rfl q52_14.z (by decide) (q52_14.k fun Yx q52_15 => ?_);clear q52_14;refine vl _ (.slice nBl s.B.length mBl) (want_g rfl rfl (q52_15.a 129 rfl)) (fun hc => ex_move rfl (q52_15.e (j:=7) rfl)) rfl q52_15.z (by decide) (q52_15.k fun Yy q52_16 => ?_);clear q52_15;refine vl _ (.slice dBl s.B.length eBl) (want_g rfl rfl (q52_16.a 129 rfl)) (fun hc => ex_move rfl (q52_16.e (j:=11) rfl)) rfl q52_16.z (by decide) (q52_16.k fun Yz q52_17 => ?_);clear q52_16;refine vcall (true && (((rv9 s n (s.A.map Ak.sm)) && (rv9 s n (s.M.map Mk.sm))) == true)) (.bool (rv9 s n (s.B.map Bl.sm))) (want_g rfl rfl (q52_17.a 129 rfl)) (fun hc => ex_call rfl (by simp only [List.map_toArray,List.map_cons,List.map_nil,(ev (q52_17.a 130 rfl) hc),(ev (q52_17.a 131 rfl) hc),(ev (q52_17.a 132 rfl) hc),(ev (q52_17.a 133 rfl) hc),evc] <;> rfl) rfl) (fun hc => rvoters9' s n (s.B.map Bl.sm) nBl dBl mBl eBl s.B.length (List.length_map _) x42 (hI.later (hB.trans (hx42.mono hz1))) hn hn1 (by rw [List.map_map];exact pNBl.later hx42) (by rw [List.map_map];exact pDBl.later hx42)) rfl q52_17.z (by decide) (q52_17.kc fun Y0 x43 hb q52_18 => ?_);clear q52_17;have hx43:=hx42.trans (hb.mono hx42.size);clear hb
     refine q52_18.t (.bool (((rv9 s n (s.A.map Ak.sm)) && (rv9 s n (s.M.map Mk.sm))) && (rv9 s n (s.B.map Bl.sm)))) (ex_and rfl (q52_18.a 129 rfl) (q52_18.a 134 rfl) rfl) fun _ q52_19 => ?_;clear q52_18
     refine q52_19.t _ (ex_move rfl (q52_19.e (j:=135) rfl)) fun _ q52_20 => ?_;clear q52_19
     refine vl _ (s.val) (want_g rfl rfl (q52_20.a 136 rfl)) (fun hc => ex_ld rfl (q52_20.e (j:=2) rfl) (SB7.ld (HS.bel hx43))) rfl q52_20.z (by decide) (q52_20.k fun Y1 q52_21 => ?_);clear q52_20;refine vl _ (.int .i64 n) (want_g rfl rfl (q52_21.a 136 rfl)) (fun hc => ex_move rfl (q52_21.e (j:=1) rfl)) rfl q52_21.z (by decide) (q52_21.k fun Y2 q52_22 => ?_);clear q52_21;refine vl _ (.slice nAn s.N.length mAn) (want_g rfl rfl (q52_22.a 136 rfl)) (fun hc => ex_move rfl (q52_22.e (j:=8) rfl)) rfl q52_22.z (by decide) (q52_22.k fun Y3 q52_23 => ?_);clear q52_22;refine vl _ (.slice dAn s.N.length eAn) (want_g rfl rfl (q52_23.a 136 rfl)) (fun hc => ex_move rfl (q52_23.e (j:=12) rfl)) rfl q52_23.z (by decide) (q52_23.k fun Y4 q52_24 => ?_);clear q52_23;refine vcall (true && ((((rv9 s n (s.A.map Ak.sm)) && (rv9 s n (s.M.map Mk.sm))) && (rv9 s n (s.B.map Bl.sm))) == true)) (.bool (rv9 s n (s.N.map An.sm))) (want_g rfl rfl (q52_24.a 136 rfl)) (fun hc => ex_call rfl (by simp only [List.map_toArray,List.map_cons,List.map_nil,(ev (q52_24.a 137 rfl) hc),(ev (q52_24.a 138 rfl) hc),(ev (q52_24.a 139 rfl) hc),(ev (q52_24.a 140 rfl) hc),evc] <;> rfl) rfl) (fun hc => rvoters9' s n (s.N.map An.sm) nAn dAn mAn eAn s.N.length (List.length_map _) x43 (hI.later (hB.trans (hx43.mono hz1))) hn hn1 (by rw [List.map_map];exact pNAn.later hx43) (by rw [List.map_map];exact pDAn.later hx43)) rfl q52_24.z (by decide) (q52_24.kc fun Y5 x44 hb q52_25 => ?_);clear q52_24;have hx44:=hx43.trans (hb.mono hx43.size);clear hb
     refine q52_25.t (.bool ((((rv9 s n (s.A.map Ak.sm)) && (rv9 s n (s.M.map Mk.sm))) && (rv9 s n (s.B.map Bl.sm))) && (rv9 s n (s.N.map An.sm)))) (ex_and rfl (q52_25.a 136 rfl) (q52_25.a 141 rfl) rfl) fun _ q52_26 => ?_;clear q52_25
     refine q52_26.t _ (ex_assign rfl (q52_26.e (j:=142) rfl)) fun _ q52_27 => ?_;clear q52_26
     have hz:=q52_27.z;have s4:=q52_27.a 4 rfl;clear q52_27;refine wpList_nil ?_
     go_wp2
     refine bodyPost_ret (results_tmp rfl _ _ _) rfl ⟨?_,hB.trans (hx44.mono (by omega))⟩;rw [getD_of s4]
     rfl
end Go.Proofs.YtgncpcfncojgoaaGreatDoor
