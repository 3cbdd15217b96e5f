import Derived.Test.YtjcedofmljkhfaaGreatDoorF16
set_option maxRecDepth 100000
set_option linter.unusedVariables false
set_option linter.unusedSimpArgs false
namespace Go.Proofs.YtjcedofmljkhfaaGreatDoor
open Go.RowKit Go.Maps Go.Shelf
open Classical
def zC9 : Cg:=⟨0,0,0,false⟩
theorem alC9 (w : World) : (Instr.alloc 23 true (.tuple #[])).run Tryz.prog w = .ok (.pointer (some ⟨w.heap.size,0,none⟩)) (w.alloc (.cells zC9.cs.toArray 23)):=by
 go_simp
 first | done | rfl
theorem bdC9 (w : World) : (Instr.build 23 #[(0,.int .i64 1),(1,.int .i64 4),(2,.int .i64 6)]).run Tryz.prog w = .ok c39.val w:=by
 go_simp
 first | done | rfl
theorem stC9 {w : World} {q : Nat} {x : Cg} (h : CB7 w q x) (y : Cg) : (Instr.storeAt 23 (.pointer (some ⟨q,0,none⟩)) y.val).run Tryz.prog w = .ok () (sets w q 0 y.cs):=by
 have:=run_storeAt_mid (P:=Tryz.prog) w q 0 23 y.cs.toArray (fun j hj => ⟨by rw [Nat.zero_add,h.cell j _ (List.getElem?_eq_getElem (show j < x.cs.length from hj))];rfl,by rw [Nat.zero_add];exact h.free j⟩) (by kernel_rfl) (all_oneCell_toArray (by
  intro v hv;simp only [Cg.cs,List.mem_cons,List.not_mem_nil,or_false] at hv
  rcases hv with rfl | rfl | rfl | rfl <;> rfl))
 rw [setCells_sets] at this
 exact this
theorem CB7.put9 {w : World} {q : Nat} {x : Cg} (h : CB7 w q x) (y : Cg) : CB7 (sets w q 0 y.cs) q y:=by
 have h1:=BX7.set h (j:=0) (by simp [Cg.cs]) (.int .i64 y.F);have h2:=BX7.set h1 (j:=1) (by simp [Cg.cs]) (.int .i64 y.R);have h3:=BX7.set h2 (j:=2) (by simp [Cg.cs]) (.int .i64 y.P);have h4:=BX7.set h3 (j:=3) (by simp [Cg.cs]) (.bool y.u)
 exact h4
theorem upd_sets9 (q : Nat) : ∀ (vs : List Value) (i : Nat) (w : World),Upd (fun k => k = q) w (sets w q i vs)
 | [],_,w => Upd.refl _ _
 | v :: r,i,w => ((Upd.refl (fun k => k = q) w).setCell (p:=⟨q,i,none⟩) (.inl rfl) v).trans (upd_sets9 q r (i + 1) _)
theorem updC9 (w : World) (q : Nat) (y : Cg) : Upd (fun k => k = q) w (sets w q 0 y.cs):=upd_sets9 q _ 0 w
theorem results_cfg9 {fn : Func} {i : Tmp} {q : Nat} {t : Cg} {tmps : Array Value} {w : World} (h : fn.results = #[.cell i 23]) (hq : tmps.getD i undef = .pointer (some ⟨q,0,none⟩)) (hb : CB7 w q t) : (results fn tmps).run Tryz.prog w = .ok t.val w:=by
 have:=run_loadVar_mid (P:=Tryz.prog) w q 0 23 t.cs _ (fun j v hv => by rw [Nat.zero_add];exact hb.cell j v hv) Tryz.underlying23 rfl (by kernel_rfl);simp only [results,h];simp only [Array.getD_eq_getD_getElem?] at hq
 simp [Sem.run_bind,Result.andThen,hq,asAddr,this]
 rfl
def zM9 : Ms9:=⟨zG9,none,0,[],none,0,[]⟩
theorem alM9 (w : World) : (Instr.alloc 45 true (.tuple #[])).run Tryz.prog w = .ok (.pointer (some ⟨w.heap.size,0,none⟩)) (w.alloc (.cells zM9.cs.toArray 45)):=by
 go_simp
 first | done | rfl
theorem bdDr9 (x : Int) (w : World) : (Instr.build 43 #[(1,.int .u64 x)]).run Tryz.prog w = .ok (.agg #[.int .u64 0,.int .u64 x]) w:=by
 go_simp
 first | done | rfl
theorem bdMs9 (a b : Int) (g : Nat) (w : World) : (Instr.build 45 #[(0,.int .i64 5),(10,.slice (some ⟨g,0,none⟩) 3 3)]).run Tryz.prog w = .ok (cm9 a b g).val w:=by
 go_simp
 first | done | rfl
theorem ex_bs3_9 {o : Oper} {ρ : Operand → Value} {s : TypeId} {x y z : Operand} {X Y Z V : Value} {w w' : World} (ho : o.op = .buildSlice s 3 #[(0,x),(1,y),(2,z)]) (hx : ρ x = X) (hy : ρ y = Y) (hz : ρ z = Z) (hr : (Instr.buildSlice s 3 #[(0,X),(1,Y),(2,Z)]).run Tryz.prog w = .ok V w') : (execOp ρ o).run Tryz.prog w = .ok (.value V) w':=by
 unfold execOp
 simp only [ho,List.map_toArray,List.map_cons,List.map_nil,hx,hy,hz,Sem.run_bind,hr,Result.andThen_ok]
 rfl
theorem bs3_9 (a b : Int) (w : World) : (Instr.buildSlice 27 3 #[(0,.agg #[.int .u64 0,.int .u64 a]),(1,.agg #[.int .u64 0,.int .u64 b]),(2,.agg #[.int .u64 0,.int .u64 0])]).run Tryz.prog w = .ok (.slice (some ⟨w.heap.size,0,none⟩) 3 3) (w.alloc (.cells (fl yD [(0,a),(0,b),(0,0)]).toArray 43)):=by
 go_simp
 first | done | rfl
theorem stM9 {w : World} {q : Nat} {x : Ms9} (h : MB9 w q x) (y : Ms9) : (Instr.storeAt 45 (.pointer (some ⟨q,0,none⟩)) y.val).run Tryz.prog w = .ok () (sets w q 0 y.cs):=by
 have:=run_storeAt_mid (P:=Tryz.prog) w q 0 45 y.cs.toArray (fun j hj => ⟨by rw [Nat.zero_add,h.cell j _ (List.getElem?_eq_getElem (show j < x.cs.length from hj))];rfl,by rw [Nat.zero_add];exact h.free j⟩) (by kernel_rfl) (all_oneCell_toArray (by
  intro v hv;simp only [Ms9.cs,Mg.cs,List.mem_cons,List.not_mem_nil,or_false] at hv
  rcases hv with rfl | rfl | rfl | rfl | rfl | rfl | rfl | rfl | rfl | rfl | rfl | rfl | rfl | rfl | rfl | rfl | rfl | rfl <;> rfl))
 rw [setCells_sets] at this
 exact this
theorem BX7.puts9 {q : Nat} : ∀ (vs : List Value) (i : Nat) (w : World) (cs : List Value),BX7 w q cs → i + vs.length ≤ cs.length → BX7 (sets w q i vs) q (cs.take i ++ vs ++ cs.drop (i + vs.length))
 | [],i,w,cs,h,hl => by
  show BX7 w q _
  simpa using h
 | v :: r,i,w,cs,h,hl => by
  have hi : i < cs.length:=by simp at hl;omega
  have:=BX7.puts9 r (i + 1) (w.setCell ⟨q,i,none⟩ v) (cs.set i v) (BX7.set h hi v) (by simp at hl ⊢;omega)
  have e : (cs.set i v).take (i + 1) ++ r ++ (cs.set i v).drop (i + 1 + r.length) = cs.take i ++ (v :: r) ++ cs.drop (i + (v :: r).length):=by
   rw [List.set_eq_take_append_cons_drop,if_pos hi]
   have h1 : (cs.take i).length = i:=by rw [List.length_take];omega
   rw [show i + 1 + r.length = i + (v :: r).length by simp;omega];rw [List.take_append,h1,List.take_of_length_le (by omega),show i + 1 - i = 1 by omega,List.take_succ_cons,List.take_zero];rw [List.drop_append,h1,List.drop_of_length_le (by omega),List.nil_append,show i + (v :: r).length - i = r.length + 1 by simp,List.drop_succ_cons,List.drop_drop]
   simp [show i + 1 + r.length = i + (r.length + 1) by omega]
  rw [← e]
  exact this
theorem MB9.put9 {w : World} {q : Nat} {x : Ms9} (h : MB9 w q x) (y : Ms9) : MB9 (sets w q 0 y.cs) q y:=by
 have:=BX7.puts9 y.cs 0 w x.cs h (by show 0 + 18 ≤ 18;omega);rw [show x.cs.drop (0 + y.cs.length) = [] from rfl,List.append_nil,List.take_zero,List.nil_append] at this
 exact this
theorem updM9 (w : World) (q : Nat) (y : Ms9) : Upd (fun k => k = q) w (sets w q 0 y.cs):=upd_sets9 q _ 0 w
theorem results_msg9 {fn : Func} {i : Tmp} {q : Nat} {t : Ms9} {tmps : Array Value} {w : World} (h : fn.results = #[.cell i 45]) (hq : tmps.getD i undef = .pointer (some ⟨q,0,none⟩)) (hb : MB9 w q t) : (results fn tmps).run Tryz.prog w = .ok t.val w:=by
 have:=run_loadVar_mid (P:=Tryz.prog) w q 0 45 t.cs _ (fun j v hv => by rw [Nat.zero_add];exact hb.cell j v hv) Tryz.underlying45 rfl (by kernel_rfl);simp only [results,h];simp only [Array.getD_eq_getD_getElem?] at hq
 simp [Sem.run_bind,Result.andThen,hq,asAddr,this]
 rfl
theorem first_al9 {B : Nat} {s : Sta} {w : World} (h : Fs9 B c39 1 1 s w) : (vst9 1 1 0 0 Z39).Alike9 s:=by
 rcases h with ⟨h,_⟩ | ⟨_,g,n,hn,rfl,_⟩
 ·exact absurd rfl h
 ·obtain rfl : n = 3:=by have : ((3 : Nat) : Int) = n:=hn;omega
  exact ⟨rfl,rfl,rfl,rfl,rfl,rfl,rfl,rfl,rfl,rfl,⟨rfl,fun i x y hx hy => by cases hx⟩,⟨rfl,fun i x y hx hy => by cases hx⟩⟩
theorem faD9_1 (q o : Nat) (w : World) : (Instr.fieldAt 43 (.pointer (some ⟨q,o,none⟩)) 1).run Tryz.prog w = .ok (.pointer (some ⟨q,o + 1,none⟩)) w:=by go_simp
theorem ldU9 {w : World} {q i : Nat} {z : Int} (h : w.cell? ⟨q,i,none⟩ = some (.int .u64 z)) : (Instr.loadAt 41 (.pointer (some ⟨q,i,none⟩))).run Tryz.prog w = .ok (.int .u64 z) w:=by go_simp
theorem eqlU9 (x y : Operand) (a b : Int) (h : a = b) (w : World) : (do eqGuard .eql 41 x y (.int .u64 a) (.int .u64 b);binOp .eql 41 (.int .u64 a) (.int .u64 b) : Sem Value).run Tryz.prog w = .ok (.bool true) w:=by
 subst h
 go_simp
 first | done | rfl | simp
theorem vec0_9 {w : World} {a : Option Addr} {n c : Nat} {V : List (Int × Int)} (h : SlY yD w a n c V) (e : V = F39) : ∃ q o,a = some ⟨q,o,none⟩∧(∀ v,(Instr.indexAt 27 (.slice a n c) (.int .i64 0)).run Tryz.prog v = .ok (.pointer (some ⟨q,o,none⟩)) v)∧w.cell? ⟨q,o + 1,none⟩ = some (.int .u64 4):=by
 subst e;have hl : n = 3:=h.len.symm;obtain ⟨q,o,ea,hlie⟩:=lie0_9 h (by omega);refine ⟨q,o,ea,fun v => ?_,?_⟩
 ·have:=ixV9 q o n c 0 (by omega) v
  rw [ea]
  simpa using this
 ·have:=hlie 0 (0,4) rfl 1 _ rfl
  simpa using this
set_option maxHeartbeats 1000000 in
theorem three9  (w : World) : Calls Tryz.prog 10 #[] w fun e w' => e = .returned (c39.val)∧Below w.heap.size w w':=by
 go_enter Tryz.func10,Tryz.ntmps10
 go_upto_region 0 with fail
 refine wp_region_lit ?_;have hB : Below w.heap.size w w:=Below.refl _ _;have hv0 : Below w.heap.size w w:=Below.refl _ _;refine vl_gen (fun T => T.size = 2) rfl (fun Z0 hz => ?_)
 obtain ⟨w1,hw1⟩ : ∃ y,y = w.alloc (.cells zC9.cs.toArray 23):=⟨_,rfl⟩
 have hb : Below w.heap.size w w1:=by rw [hw1];exact (Below.refl _ _).alloc (Nat.le_refl _) _
 have HC : CB7 w1 w.heap.size zC9:=by rw [hw1];exact BX7.new _ _ _
 have hz1 : w1.heap.size = w.heap.size + 1:=by rw [hw1];simp
 have Ya:=Rp.nil hz;clear hz;refine vw (.pointer (some ⟨w.heap.size,0,none⟩)) w1 (want_none rfl) (ex_al rfl (by rw [hw1];exact alC9 _)) rfl Ya.z (by decide) (Ya.k fun Yb Yc => ?_);clear Ya;have hz:=Yc.z;have s0:=Yc.a 0 rfl;clear Yc;refine wpList_nil ?_
 go_upto_region 1 with fail
 refine wp_region_lit ?_;have Yd:=(Rp.nil hz).cons s0;clear hz s0
 refine Yd.t (c39.val) (ex_buildP rfl (by simp only [List.map_toArray,List.map_cons,List.map_nil,evc] <;> rfl) (bdC9 _)) fun _ Ye => ?_;clear Yd
 refine vs (sets w1 w.heap.size 0 c39.cs) (want_none rfl) (ex_st rfl (Ye.f 0) (Ye.f 1) (stC9 HC c39)) rfl ?_;have HP:=CB7.put9 HC c39;have UP:=updC9 w1 w.heap.size c39
 obtain ⟨u9,hu9⟩ : ∃ v,v = sets w1 w.heap.size 0 c39.cs:=⟨_,rfl⟩
 rw [← hu9] at HP UP ⊢;clear hu9;have hB9:=hide (hB.trans ((hb.mono (by omega)).trans (UP.below (by omega) (fun k hk => by omega))));have hz:=Ye.z;have s0:=Ye.a 0 rfl;clear Ye;refine wpList_nil ?_
 go_wp2
 refine bodyPost_ret (results_cfg9 rfl (getD_of s0) HP) rfl ?_
 exact ⟨rfl,hB9.out⟩
set_option maxHeartbeats 1000000 in
theorem commit9 (a b : Int) (w : World)  : Calls Tryz.prog 11 #[.int .u64 a,.int .u64 b] w fun e w' => ∃ g,e = .returned ((cm9 a b g).val)∧(cm9 a b g).In w'∧Below w.heap.size w w':=by
 go_enter Tryz.func11,Tryz.ntmps11
 go_upto_region 0 with fail
 refine wp_region_lit ?_;refine vl_gen (fun T => T.size = 12∧T[0]? = some (gw true (.int .u64 a))∧T[1]? = some (gw true (.int .u64 b))) ⟨rfl,rfl,rfl⟩ (fun Z0 ⟨hz,s0,s1⟩ => ?_);have hB : Below w.heap.size w w:=Below.refl _ _;have hv0 : Below w.heap.size w w:=Below.refl _ _
 obtain ⟨w1,hw1⟩ : ∃ y,y = w.alloc (.cells zM9.cs.toArray 45):=⟨_,rfl⟩
 have hb : Below w.heap.size w w1:=by rw [hw1];exact (Below.refl _ _).alloc (Nat.le_refl _) _
 have HM : MB9 w1 w.heap.size zM9:=by rw [hw1];exact BX7.new _ _ _
 have hz1 : w1.heap.size = w.heap.size + 1:=by rw [hw1];simp
 obtain ⟨w2,hw2⟩ : ∃ y,y = w1.alloc (.cells (fl yD [(0,a),(0,b),(0,0)]).toArray 43):=⟨_,rfl⟩
 have hb2 : Below w1.heap.size w1 w2:=by rw [hw2];exact (Below.refl _ _).alloc (Nat.le_refl _) _
 have oV : SlY yD w2 (some ⟨w1.heap.size,0,none⟩) 3 3 [(0,a),(0,b),(0,0)]:=by rw [hw2];exact sl_lit kD _ [(0,a),(0,b),(0,0)] _ (by show 3 ≤ maxLen;unfold maxLen;decide)
 have HM:=HM.bel hb2;have z2:=hb2.size;have Ya:=((Rp.nil hz).cons s0).cons s1;clear hz s0 s1;refine vw (.pointer (some ⟨w.heap.size,0,none⟩)) w1 (want_none rfl) (ex_al rfl (by rw [hw1];exact alM9 _)) rfl Ya.z (by decide) (Ya.k fun Yb Yc => ?_);clear Ya;have hz:=Yc.z;have s0:=Yc.a 0 rfl;have s1:=Yc.a 1 rfl;have s4:=Yc.a 4 rfl;clear Yc;refine wpList_nil ?_
 go_upto_region 1 with fail
 refine wp_region_lit ?_;have Yd:=(((Rp.nil hz).cons s0).cons s1).cons s4;clear hz s0 s1 s4
 refine Yd.t _ (ex_move rfl (Yd.f 0)) fun _ Ye => ?_;clear Yd
 refine Ye.t (.agg #[.int .u64 0,.int .u64 a]) (ex_buildP rfl (by simp only [List.map_toArray,List.map_cons,List.map_nil,(Ye.f 5)] <;> rfl) (bdDr9 _ _)) fun _ Yf => ?_;clear Ye
 refine Yf.t _ (ex_move rfl (Yf.f 1)) fun _ Yg => ?_;clear Yf
 refine Yg.t (.agg #[.int .u64 0,.int .u64 b]) (ex_buildP rfl (by simp only [List.map_toArray,List.map_cons,List.map_nil,(Yg.f 7)] <;> rfl) (bdDr9 _ _)) fun _ Yh => ?_;clear Yg
 refine Yh.t (.agg #[.int .u64 0,.int .u64 0]) (ex_build rfl (buildDr _)) fun _ Yi => ?_;clear Yh
 refine vw (.slice (some ⟨w1.heap.size,0,none⟩) 3 3) w2 (want_none rfl) (ex_bs3_9 rfl (Yi.f 6) (Yi.f 8) (Yi.f 9) (by rw [hw2];exact bs3_9 _ _ _)) rfl Yi.z (by decide) (Yi.k fun Yj Yk => ?_);clear Yi
 refine Yk.t ((cm9 a b w1.heap.size).val) (ex_buildP rfl (by simp only [List.map_toArray,List.map_cons,List.map_nil,(Yk.f 10),evc] <;> rfl) (bdMs9 _ _ _ _)) fun _ Yl => ?_;clear Yk
 refine vs (sets w2 w.heap.size 0 (cm9 a b w1.heap.size).cs) (want_none rfl) (ex_st rfl (Yl.f 4) (Yl.f 11) (stM9 HM (cm9 a b w1.heap.size))) rfl ?_;have HP:=MB9.put9 HM (cm9 a b w1.heap.size);have UP:=updM9 w2 w.heap.size (cm9 a b w1.heap.size)
 obtain ⟨u9,hu9⟩ : ∃ v,v = sets w2 w.heap.size 0 (cm9 a b w1.heap.size).cs:=⟨_,rfl⟩
 rw [← hu9] at HP UP ⊢;clear hu9;have hB9:=hide (hB.trans (((hb.trans (hb2.mono (by omega))).mono (by omega)).trans (UP.below (by omega) (fun k hk => by omega))));have hz:=Yl.z;have s4:=Yl.a 4 rfl;clear Yl;refine wpList_nil ?_;have oV2:=oV.upd UP (fun x hx _ e => by cases hx;have e2 : w1.heap.size = w.heap.size:=e;omega)
 go_wp2
 refine bodyPost_ret (results_msg9 rfl (getD_of s4) HP) rfl ?_
 exact ⟨_,rfl,⟨nil_sl8 _ _,oV2⟩,hB9.out⟩
set_option maxHeartbeats 1000000 in
theorem alive9  (w : World) (hT : Tab w) : Calls Tryz.prog 4 #[] w fun e w' => e = .returned (.bool true)∧Below w.heap.size w w':=by
 go_enter Tryz.func4,Tryz.ntmps4
 go_upto_region 0 with fail
 refine wp_region_lit ?_;have hB : Below w.heap.size w w:=Below.refl _ _;have hv0 : Below w.heap.size w w:=Below.refl _ _;refine vl_gen (fun T => T.size = 83) rfl (fun Z0 hz => ?_);have Ya:=Rp.nil hz;clear hz
 refine Ya.t (.bool false) (ex_assign rfl rfl) fun _ Yb => ?_;clear Ya
 have hz:=Yb.z;clear Yb;refine wpList_nil ?_
 go_upto_region 1 with fail
 refine wp_region_lit ?_;have Yc:=Rp.nil hz;clear hz;refine vcallP (want_none rfl) (ex_call (args:=#[]) rfl (by simp) rfl) (three9 w) rfl Yc.z (by decide) ?_;rintro e y1 ⟨rfl,hb⟩;refine ⟨_,rfl,Yc.k fun Yd Ye => ?_⟩;clear Yc;have hB:=hB.trans (hb.mono (by omega));have zy1:=hb.size;clear hb;refine vcallP (want_none rfl) (ex_call rfl (by simp only [List.map_toArray,List.map_cons,List.map_nil,(Ye.f 13),evc] <;> rfl) rfl) (first9 c39 1 y1) rfl Ye.z (by decide) ?_;rintro e y2 ⟨s,rfl,sin,hfs,hb⟩;refine ⟨_,rfl,Ye.k fun Yf Yg => ?_⟩;clear Ye;have hB:=hB.trans (hb.mono (by omega));have zy2:=hb.size;clear hb;have sal : (vst9 1 1 0 0 Z39).Alike9 s:=first_al9 hfs;clear hfs
 obtain ⟨q1,hq1⟩ : ∃ z,z = y2.heap.size:=⟨_,rfl⟩
 obtain ⟨y3,hy3⟩ : ∃ y,y = y2.alloc (.cells zS8.cs.toArray 33):=⟨_,rfl⟩
 have b3 : Below y2.heap.size y2 y3:=by rw [hy3];exact (Below.refl _ _).alloc (Nat.le_refl _) _
 have HQ : SB7 y3 q1 zS8:=by rw [hy3,hq1];exact BX7.new _ _ _
 have z3:=b3.size;have l3:=HQ.lt
 refine Yg.t _ (ex_move rfl (Yg.f 14)) fun _ Yh => ?_;clear Yg
 refine Yh.t _ (ex_ext8 rfl (Yh.f 12) rfl) fun _ Yi => ?_;clear Yh
 refine Yi.t _ (ex_ext8 rfl (Yi.f 12) rfl) fun _ Yj => ?_;clear Yi
 refine vw (.pointer (some ⟨q1,0,none⟩)) y3 (want_none rfl) (ex_al rfl (by rw [hy3,hq1];exact al12 _)) rfl Yj.z (by decide) (Yj.k fun Yk Yl => ?_);clear Yj;refine vs (sets y3 q1 0 s.cs) (want_none rfl) (ex_st rfl (Yl.f 1) (Yl.f 15) (st12 HQ s)) rfl ?_;have HS:=SB7.put HQ s;have UT:=upd12 y3 q1 s
 obtain ⟨y4,hy4⟩ : ∃ v,v = sets y3 q1 0 s.cs:=⟨_,rfl⟩
 rw [← hy4] at HS UT ⊢;clear hy4 hy3;have hb : Below y2.heap.size y2 y4:=b3.trans (UT.below (by omega) (fun k hk => by omega));have hB:=hB.trans (hb.mono (by omega));have sin:=sin.later hb;clear hb UT HQ b3;have hT:=hT.later hB hT.lt;have hB0:=hB.size
 refine Yl.t _ (ex_assign rfl (Yl.f 16)) fun _ Ym => ?_;clear Yl
 have hz:=Ym.z;have s1:=Ym.a 1 rfl;have s2:=Ym.a 2 rfl;clear Ym;refine wpList_nil ?_
 go_upto_region 2 with fail
 refine v_cut9 (fun T v => T.size = 83∧T[2]? = some (gw true (.int .i64 (fvE9 c39 1)))∧∃ (q : Nat) (t : Sta),T[3]? = some (gw true (.pointer (some ⟨q,0,none⟩)))∧T[4]? = some (gw true (.bool true))∧T[5]? = some (gw true (.int .i64 0))∧Hid (SB7 v q t∧t.In v∧(vst9 1 1 0 0 F39).Alike9 t∧Below y4.heap.size y4 v)) ?_ ?_
 ·refine vh_start (fun v => Below y4.heap.size y4 v) (by kernel_rfl) ?_
  have hS : Below y4.heap.size y4 y4.drew:=(Below.refl _ _).drew
  obtain ⟨wd2,hwd⟩ : ∃ y,y = y4.drew:=⟨_,rfl⟩
  rw [← hwd] at hS ⊢;clear hwd;have p2_1:=((Rp.nil hz).cons s1).cons s2;clear hz s1 s2;refine vh_take 1 true (s.val) rfl (by kernel_rfl) (by kernel_rfl) (by kernel_rfl) (want_none rfl) (fun hc v hv => ex_ld rfl (p2_1.f 1) (SB7.ld (HS.bel hv))) rfl p2_1.z (by decide) hS (p2_1.k fun R2x1 p2_2 => ?_);clear p2_1
  obtain ⟨q,hq⟩ : ∃ z,z = wd2.heap.size:=⟨_,rfl⟩
  obtain ⟨y2x1,hy2x1⟩ : ∃ y,y = wd2.alloc (.cells zS8.cs.toArray 33):=⟨_,rfl⟩
  have ba : Below wd2.heap.size wd2 y2x1:=by rw [hy2x1];exact (Below.refl _ _).alloc (Nat.le_refl _) _
  have HQ : SB7 y2x1 q zS8:=by rw [hy2x1,hq];exact BX7.new _ _ _
  have hqb:=hS.size;have hSa:=hS.trans (ba.mono hS.size);have za:=ba.size;have lq:=HQ.lt;refine vh_two9 0 8 (by kernel_rfl) rfl rfl (want_none rfl) (ex_call (args:=#[]) rfl (by simp) rfl) (three9 wd2) rfl p2_2.z (by decide) ?_ (.pointer (some ⟨q,0,none⟩)) y2x1 (want_none rfl) (ex_al rfl (by rw [hy2x1,hq];exact al12 _)) rfl (by decide) hSa ?_
  ·clear ba HQ hy2x1 hSa za lq hqb hq
   rintro e c2a ⟨rfl,h2a⟩;clear y2x1 q;refine ⟨_,rfl,hS.trans (h2a.mono hS.size),p2_2.k fun R2x2 p2_3 => ?_⟩;clear p2_2;have zc0:=h2a.size;have hS:=hS.trans (h2a.mono hS.size)
   obtain ⟨q,hq⟩ : ∃ z,z = c2a.heap.size:=⟨_,rfl⟩
   obtain ⟨y2x2,hy2x2⟩ : ∃ y,y = c2a.alloc (.cells zS8.cs.toArray 33):=⟨_,rfl⟩
   have ba : Below c2a.heap.size c2a y2x2:=by rw [hy2x2];exact (Below.refl _ _).alloc (Nat.le_refl _) _
   have HQ : SB7 y2x2 q zS8:=by rw [hy2x2,hq];exact BX7.new _ _ _
   have hqb:=hS.size;have hSa:=hS.trans (ba.mono hS.size);have za:=ba.size;have lq:=HQ.lt;refine vh_two9 2 8 (by kernel_rfl) rfl rfl (want_none rfl) (ex_call (args:=#[.int .u64 4,.int .u64 0]) rfl (by simp only [List.map_toArray,List.map_cons,List.map_nil,evc] <;> rfl) rfl) (commit9 4 0 c2a) rfl p2_3.z (by decide) ?_ (.pointer (some ⟨q,0,none⟩)) y2x2 (want_none rfl) (ex_al rfl (by rw [hy2x2,hq];exact al12 _)) rfl (by decide) hSa ?_
   ·clear ba HQ hy2x2 hSa za lq hqb hq
    rintro e c2b ⟨g,rfl,gin,h2b⟩;clear y2x2 q;refine ⟨_,rfl,hS.trans (h2b.mono hS.size),p2_3.k fun R2x3 p2_4 => ?_⟩;clear p2_3;have zc1:=h2b.size;have hS:=hS.trans (h2b.mono hS.size)
    obtain ⟨q,hq⟩ : ∃ z,z = c2b.heap.size:=⟨_,rfl⟩
    obtain ⟨y2x3,hy2x3⟩ : ∃ y,y = c2b.alloc (.cells zS8.cs.toArray 33):=⟨_,rfl⟩
    have ba : Below c2b.heap.size c2b y2x3:=by rw [hy2x3];exact (Below.refl _ _).alloc (Nat.le_refl _) _
    have HQ : SB7 y2x3 q zS8:=by rw [hy2x3,hq];exact BX7.new _ _ _
    have hqb:=hS.size;have hSa:=hS.trans (ba.mono hS.size);have za:=ba.size;have lq:=HQ.lt;refine vh_two9 3 8 (by kernel_rfl) rfl rfl (want_none rfl) (ex_call rfl (by simp only [List.map_toArray,List.map_cons,List.map_nil,(p2_4.f 18),(p2_4.f 19),(p2_4.f 20),evc] <;> rfl) rfl) (admitC9 s Z39 F39 4 0 g true c2b sal (by decide) (ck_z9 0 0) (ad1_9 g).1 (ad1_9 g).2 (sin.later hS) gin (hT.later hS hT.lt)) rfl p2_4.z (by decide) ?_ (.pointer (some ⟨q,0,none⟩)) y2x3 (want_none rfl) (ex_al rfl (by rw [hy2x3,hq];exact al12 _)) rfl (by decide) hSa ?_
    ·clear ba HQ hy2x3 hSa za lq hqb hq
     rintro e c2c ⟨t,rfl,tin,tal,tup,h2c⟩;clear y2x3 q;refine ⟨_,rfl,hS.trans (h2c.mono hS.size),p2_4.k fun R2x4 p2_5 => ?_⟩;clear p2_4;have zc2:=h2c.size;have gin:=gin.later h2c;have hS:=hS.trans (h2c.mono hS.size);refine vh_take 4 true (.tuple #[t.val,.bool true,.int .i64 0]) rfl (by kernel_rfl) (by kernel_rfl) (by kernel_rfl) (want_none rfl) (fun hc v hv => ex_move rfl (p2_5.f 21)) rfl p2_5.z (by decide) hS (p2_5.k fun R2x5 p2_6 => ?_);clear p2_5;refine vh_take 5 true (t.val) rfl (by kernel_rfl) (by kernel_rfl) (by kernel_rfl) (want_none rfl) (fun hc v hv => ex_ext8 rfl (p2_6.f 17) rfl) rfl p2_6.z (by decide) hS (p2_6.k fun R2x6 p2_7 => ?_);clear p2_6;refine vh_take 6 true (.bool true) rfl (by kernel_rfl) (by kernel_rfl) (by kernel_rfl) (want_none rfl) (fun hc v hv => ex_ext8 rfl (p2_7.f 17) rfl) rfl p2_7.z (by decide) hS (p2_7.k fun R2x7 p2_8 => ?_);clear p2_7;refine vh_take 7 true (.int .i64 0) rfl (by kernel_rfl) (by kernel_rfl) (by kernel_rfl) (want_none rfl) (fun hc v hv => ex_ext8 rfl (p2_8.f 17) rfl) rfl p2_8.z (by decide) hS (p2_8.k fun R2x8 p2_9 => ?_);clear p2_8
     obtain ⟨q,hq⟩ : ∃ z,z = c2c.heap.size:=⟨_,rfl⟩
     obtain ⟨y2x4,hy2x4⟩ : ∃ y,y = c2c.alloc (.cells zS8.cs.toArray 33):=⟨_,rfl⟩
     have ba : Below c2c.heap.size c2c y2x4:=by rw [hy2x4];exact (Below.refl _ _).alloc (Nat.le_refl _) _
     have HQ : SB7 y2x4 q zS8:=by rw [hy2x4,hq];exact BX7.new _ _ _
     have hqb:=hS.size;have hSa:=hS.trans (ba.mono hS.size);have za:=ba.size;have lq:=HQ.lt;refine vh_val8 8 (.pointer (some ⟨q,0,none⟩)) y2x4 rfl (by kernel_rfl) (want_none rfl) (ex_al rfl (by rw [hy2x4,hq];exact al12 _)) rfl p2_9.z (by decide) hSa (p2_9.k fun R2x9 p2_10 => ?_);clear p2_9;have hS:=hSa;clear hy2x4 hSa;have HT:=SB7.put HQ t;have UT:=upd12 y2x4 q t;have hST:=hS.trans (UT.below hS.size (fun k hk => by omega));refine vh_store8 9 (sets y2x4 q 0 t.cs) rfl (by kernel_rfl) (want_none rfl) (ex_st rfl (p2_10.f 3) (p2_10.f 22) (st12 HQ t)) rfl hST ?_
     obtain ⟨x7,hx7⟩ : ∃ v,v = sets y2x4 q 0 t.cs:=⟨_,rfl⟩
     rw [← hx7] at HT UT hST ⊢;clear hx7;have hLT : Below c2c.heap.size c2c x7:=ba.trans (UT.below (by omega) (fun k hk => by omega));have tin7 : t.In x7:=tin.later hLT;have hS:=hST;refine vh_take 10 true (.bool true) rfl (by kernel_rfl) (by kernel_rfl) (by kernel_rfl) (want_none rfl) (fun hc v hv => ex_assign rfl (p2_10.f 23)) rfl p2_10.z (by decide) hS (p2_10.k fun R2x10 p2_11 => ?_);clear p2_10;refine vh_take 11 true (.int .i64 0) rfl (by kernel_rfl) (by kernel_rfl) (by kernel_rfl) (want_none rfl) (fun hc v hv => ex_assign rfl (p2_11.f 24)) rfl p2_11.z (by decide) hS (p2_11.k fun R2x11 p2_12 => ?_);clear p2_11;refine vh_done (by kernel_rfl) ?_
     exact ⟨_,rfl,p2_12.z,(p2_12.a 2 rfl),q,t,(p2_12.a 3 rfl),(p2_12.a 4 rfl),(p2_12.a 5 rfl),HT,tin7,tal,hS⟩
    ·refine p2_4.k fun R2x12 p2_13 => ?_
     clear p2_4;have gin:=gin.later ba;have hS:=hSa;clear hy2x3 hSa;refine vh_call 3 rfl (by kernel_rfl) (want_none rfl) (ex_call rfl (by simp only [List.map_toArray,List.map_cons,List.map_nil,(p2_13.f 18),(p2_13.f 19),(p2_13.f 20),evc] <;> rfl) rfl) (admitC9 s Z39 F39 4 0 g true y2x3 sal (by decide) (ck_z9 0 0) (ad1_9 g).1 (ad1_9 g).2 (sin.later hS) gin (hT.later hS hT.lt)) rfl p2_13.z (by decide) ?_;rintro e c2c ⟨t,rfl,tin,tal,tup,h2c⟩;refine ⟨_,rfl,hS.trans (h2c.mono hS.size),p2_13.k fun R2x13 p2_14 => ?_⟩;clear p2_13;have zc2:=h2c.size;have gin:=gin.later h2c;have HQ:=HQ.bel h2c;have hS:=hS.trans (h2c.mono hS.size);refine vh_take 4 true (.tuple #[t.val,.bool true,.int .i64 0]) rfl (by kernel_rfl) (by kernel_rfl) (by kernel_rfl) (want_none rfl) (fun hc v hv => ex_move rfl (p2_14.f 21)) rfl p2_14.z (by decide) hS (p2_14.k fun R2x14 p2_15 => ?_);clear p2_14;refine vh_take 5 true (t.val) rfl (by kernel_rfl) (by kernel_rfl) (by kernel_rfl) (want_none rfl) (fun hc v hv => ex_ext8 rfl (p2_15.f 17) rfl) rfl p2_15.z (by decide) hS (p2_15.k fun R2x15 p2_16 => ?_);clear p2_15;refine vh_take 6 true (.bool true) rfl (by kernel_rfl) (by kernel_rfl) (by kernel_rfl) (want_none rfl) (fun hc v hv => ex_ext8 rfl (p2_16.f 17) rfl) rfl p2_16.z (by decide) hS (p2_16.k fun R2x16 p2_17 => ?_);clear p2_16;refine vh_take 7 true (.int .i64 0) rfl (by kernel_rfl) (by kernel_rfl) (by kernel_rfl) (want_none rfl) (fun hc v hv => ex_ext8 rfl (p2_17.f 17) rfl) rfl p2_17.z (by decide) hS (p2_17.k fun R2x17 p2_18 => ?_);clear p2_17;have HT:=SB7.put HQ t;have UT:=upd12 c2c q t;have hST:=hS.trans (UT.below hS.size (fun k hk => by omega));refine vh_store8 9 (sets c2c q 0 t.cs) rfl (by kernel_rfl) (want_none rfl) (ex_st rfl (p2_18.f 3) (p2_18.f 22) (st12 HQ t)) rfl hST ?_
     obtain ⟨x7,hx7⟩ : ∃ v,v = sets c2c q 0 t.cs:=⟨_,rfl⟩
     rw [← hx7] at HT UT hST ⊢;clear hx7;have tin7 : t.In x7:=tup q x7 (by omega) UT;have hS:=hST;refine vh_take 10 true (.bool true) rfl (by kernel_rfl) (by kernel_rfl) (by kernel_rfl) (want_none rfl) (fun hc v hv => ex_assign rfl (p2_18.f 23)) rfl p2_18.z (by decide) hS (p2_18.k fun R2x18 p2_19 => ?_);clear p2_18;refine vh_take 11 true (.int .i64 0) rfl (by kernel_rfl) (by kernel_rfl) (by kernel_rfl) (want_none rfl) (fun hc v hv => ex_assign rfl (p2_19.f 24)) rfl p2_19.z (by decide) hS (p2_19.k fun R2x19 p2_20 => ?_);clear p2_19;refine vh_done (by kernel_rfl) ?_
     exact ⟨_,rfl,p2_20.z,(p2_20.a 2 rfl),q,t,(p2_20.a 3 rfl),(p2_20.a 4 rfl),(p2_20.a 5 rfl),HT,tin7,tal,hS⟩
   ·refine p2_3.k fun R2x20 p2_21 => ?_
    clear p2_3;have hS:=hSa;clear hy2x2 hSa;refine vh_call 2 rfl (by kernel_rfl) (want_none rfl) (ex_call (args:=#[.int .u64 4,.int .u64 0]) rfl (by simp only [List.map_toArray,List.map_cons,List.map_nil,evc] <;> rfl) rfl) (commit9 4 0 y2x2) rfl p2_21.z (by decide) ?_;rintro e c2b ⟨g,rfl,gin,h2b⟩;refine ⟨_,rfl,hS.trans (h2b.mono hS.size),p2_21.k fun R2x21 p2_22 => ?_⟩;clear p2_21;have zc1:=h2b.size;have HQ:=HQ.bel h2b;have hS:=hS.trans (h2b.mono hS.size);refine vh_call 3 rfl (by kernel_rfl) (want_none rfl) (ex_call rfl (by simp only [List.map_toArray,List.map_cons,List.map_nil,(p2_22.f 18),(p2_22.f 19),(p2_22.f 20),evc] <;> rfl) rfl) (admitC9 s Z39 F39 4 0 g true c2b sal (by decide) (ck_z9 0 0) (ad1_9 g).1 (ad1_9 g).2 (sin.later hS) gin (hT.later hS hT.lt)) rfl p2_22.z (by decide) ?_;rintro e c2c ⟨t,rfl,tin,tal,tup,h2c⟩;refine ⟨_,rfl,hS.trans (h2c.mono hS.size),p2_22.k fun R2x22 p2_23 => ?_⟩;clear p2_22;have zc2:=h2c.size;have gin:=gin.later h2c;have HQ:=HQ.bel h2c;have hS:=hS.trans (h2c.mono hS.size);refine vh_take 4 true (.tuple #[t.val,.bool true,.int .i64 0]) rfl (by kernel_rfl) (by kernel_rfl) (by kernel_rfl) (want_none rfl) (fun hc v hv => ex_move rfl (p2_23.f 21)) rfl p2_23.z (by decide) hS (p2_23.k fun R2x23 p2_24 => ?_);clear p2_23;refine vh_take 5 true (t.val) rfl (by kernel_rfl) (by kernel_rfl) (by kernel_rfl) (want_none rfl) (fun hc v hv => ex_ext8 rfl (p2_24.f 17) rfl) rfl p2_24.z (by decide) hS (p2_24.k fun R2x24 p2_25 => ?_);clear p2_24;refine vh_take 6 true (.bool true) rfl (by kernel_rfl) (by kernel_rfl) (by kernel_rfl) (want_none rfl) (fun hc v hv => ex_ext8 rfl (p2_25.f 17) rfl) rfl p2_25.z (by decide) hS (p2_25.k fun R2x25 p2_26 => ?_);clear p2_25;refine vh_take 7 true (.int .i64 0) rfl (by kernel_rfl) (by kernel_rfl) (by kernel_rfl) (want_none rfl) (fun hc v hv => ex_ext8 rfl (p2_26.f 17) rfl) rfl p2_26.z (by decide) hS (p2_26.k fun R2x26 p2_27 => ?_);clear p2_26;have HT:=SB7.put HQ t;have UT:=upd12 c2c q t;have hST:=hS.trans (UT.below hS.size (fun k hk => by omega));refine vh_store8 9 (sets c2c q 0 t.cs) rfl (by kernel_rfl) (want_none rfl) (ex_st rfl (p2_27.f 3) (p2_27.f 22) (st12 HQ t)) rfl hST ?_
    obtain ⟨x7,hx7⟩ : ∃ v,v = sets c2c q 0 t.cs:=⟨_,rfl⟩
    rw [← hx7] at HT UT hST ⊢;clear hx7;have tin7 : t.In x7:=tup q x7 (by omega) UT;have hS:=hST;refine vh_take 10 true (.bool true) rfl (by kernel_rfl) (by kernel_rfl) (by kernel_rfl) (want_none rfl) (fun hc v hv => ex_assign rfl (p2_27.f 23)) rfl p2_27.z (by decide) hS (p2_27.k fun R2x27 p2_28 => ?_);clear p2_27;refine vh_take 11 true (.int .i64 0) rfl (by kernel_rfl) (by kernel_rfl) (by kernel_rfl) (want_none rfl) (fun hc v hv => ex_assign rfl (p2_28.f 24)) rfl p2_28.z (by decide) hS (p2_28.k fun R2x28 p2_29 => ?_);clear p2_28;refine vh_done (by kernel_rfl) ?_
    exact ⟨_,rfl,p2_29.z,(p2_29.a 2 rfl),q,t,(p2_29.a 3 rfl),(p2_29.a 4 rfl),(p2_29.a 5 rfl),HT,tin7,tal,hS⟩
  ·refine p2_2.k fun R2x29 p2_30 => ?_
   clear p2_2;have hS:=hSa;clear hy2x1 hSa;refine vh_call 0 rfl (by kernel_rfl) (want_none rfl) (ex_call (args:=#[]) rfl (by simp) rfl) (three9 y2x1) rfl p2_30.z (by decide) ?_;rintro e c2a ⟨rfl,h2a⟩;refine ⟨_,rfl,hS.trans (h2a.mono hS.size),p2_30.k fun R2x30 p2_31 => ?_⟩;clear p2_30;have zc0:=h2a.size;have HQ:=HQ.bel h2a;have hS:=hS.trans (h2a.mono hS.size);refine vh_call 2 rfl (by kernel_rfl) (want_none rfl) (ex_call (args:=#[.int .u64 4,.int .u64 0]) rfl (by simp only [List.map_toArray,List.map_cons,List.map_nil,evc] <;> rfl) rfl) (commit9 4 0 c2a) rfl p2_31.z (by decide) ?_;rintro e c2b ⟨g,rfl,gin,h2b⟩;refine ⟨_,rfl,hS.trans (h2b.mono hS.size),p2_31.k fun R2x31 p2_32 => ?_⟩;clear p2_31;have zc1:=h2b.size;have HQ:=HQ.bel h2b;have hS:=hS.trans (h2b.mono hS.size);refine vh_call 3 rfl (by kernel_rfl) (want_none rfl) (ex_call rfl (by simp only [List.map_toArray,List.map_cons,List.map_nil,(p2_32.f 18),(p2_32.f 19),(p2_32.f 20),evc] <;> rfl) rfl) (admitC9 s Z39 F39 4 0 g true c2b sal (by decide) (ck_z9 0 0) (ad1_9 g).1 (ad1_9 g).2 (sin.later hS) gin (hT.later hS hT.lt)) rfl p2_32.z (by decide) ?_;rintro e c2c ⟨t,rfl,tin,tal,tup,h2c⟩;refine ⟨_,rfl,hS.trans (h2c.mono hS.size),p2_32.k fun R2x32 p2_33 => ?_⟩;clear p2_32;have zc2:=h2c.size;have gin:=gin.later h2c;have HQ:=HQ.bel h2c;have hS:=hS.trans (h2c.mono hS.size);refine vh_take 4 true (.tuple #[t.val,.bool true,.int .i64 0]) rfl (by kernel_rfl) (by kernel_rfl) (by kernel_rfl) (want_none rfl) (fun hc v hv => ex_move rfl (p2_33.f 21)) rfl p2_33.z (by decide) hS (p2_33.k fun R2x33 p2_34 => ?_);clear p2_33;refine vh_take 5 true (t.val) rfl (by kernel_rfl) (by kernel_rfl) (by kernel_rfl) (want_none rfl) (fun hc v hv => ex_ext8 rfl (p2_34.f 17) rfl) rfl p2_34.z (by decide) hS (p2_34.k fun R2x34 p2_35 => ?_);clear p2_34;refine vh_take 6 true (.bool true) rfl (by kernel_rfl) (by kernel_rfl) (by kernel_rfl) (want_none rfl) (fun hc v hv => ex_ext8 rfl (p2_35.f 17) rfl) rfl p2_35.z (by decide) hS (p2_35.k fun R2x35 p2_36 => ?_);clear p2_35;refine vh_take 7 true (.int .i64 0) rfl (by kernel_rfl) (by kernel_rfl) (by kernel_rfl) (want_none rfl) (fun hc v hv => ex_ext8 rfl (p2_36.f 17) rfl) rfl p2_36.z (by decide) hS (p2_36.k fun R2x36 p2_37 => ?_);clear p2_36;have HT:=SB7.put HQ t;have UT:=upd12 c2c q t;have hST:=hS.trans (UT.below hS.size (fun k hk => by omega));refine vh_store8 9 (sets c2c q 0 t.cs) rfl (by kernel_rfl) (want_none rfl) (ex_st rfl (p2_37.f 3) (p2_37.f 22) (st12 HQ t)) rfl hST ?_
   obtain ⟨x7,hx7⟩ : ∃ v,v = sets c2c q 0 t.cs:=⟨_,rfl⟩
   rw [← hx7] at HT UT hST ⊢;clear hx7;have tin7 : t.In x7:=tup q x7 (by omega) UT;have hS:=hST;refine vh_take 10 true (.bool true) rfl (by kernel_rfl) (by kernel_rfl) (by kernel_rfl) (want_none rfl) (fun hc v hv => ex_assign rfl (p2_37.f 23)) rfl p2_37.z (by decide) hS (p2_37.k fun R2x37 p2_38 => ?_);clear p2_37;refine vh_take 11 true (.int .i64 0) rfl (by kernel_rfl) (by kernel_rfl) (by kernel_rfl) (want_none rfl) (fun hc v hv => ex_assign rfl (p2_38.f 24)) rfl p2_38.z (by decide) hS (p2_38.k fun R2x38 p2_39 => ?_);clear p2_38;refine vh_done (by kernel_rfl) ?_
   exact ⟨_,rfl,p2_39.z,(p2_39.a 2 rfl),q,t,(p2_39.a 3 rfl),(p2_39.a 4 rfl),(p2_39.a 5 rfl),HT,tin7,tal,hS⟩
 ·clear hz s1 s2
  intro T9 z1 hJ;obtain ⟨hz,s2,q3,t,s3,s4,s5,HI9⟩:=hJ;obtain ⟨HT3,tin,tal,hb⟩:=HI9.out;clear HI9 HS sin sal;have hT:=hT.later hb hT.lt;have hB:=hB.trans (hb.mono hB0);have hB0:=hB.size;clear hb
  go_upto_region 3 with fail
  refine v_cut9 (fun T v => T.size = 83∧T[2]? = some (gw true (.int .i64 (fvE9 c39 1)))∧T[3]? = some (gw true (.pointer (some ⟨q3,0,none⟩)))∧T[4]? = some (gw true (.bool true))∧T[5]? = some (gw true (.int .i64 0))∧∃ (q : Nat) (t : Sta),T[6]? = some (gw true (.pointer (some ⟨q,0,none⟩)))∧T[7]? = some (gw true (.bool false))∧T[8]? = some (gw true (.int .i64 0))∧Hid (SB7 v q t∧t.In v∧(vst9 1 1 0 0 F39).Alike9 t∧Below z1.heap.size z1 v)) ?_ ?_
  ·refine vh_start (fun v => Below z1.heap.size z1 v) (by kernel_rfl) ?_
   have hS : Below z1.heap.size z1 z1.drew:=(Below.refl _ _).drew
   obtain ⟨wd3,hwd⟩ : ∃ y,y = z1.drew:=⟨_,rfl⟩
   rw [← hwd] at hS ⊢;clear hwd;have p3_1:=((((Rp.nil hz).cons s2).cons s3).cons s4).cons s5;clear hz s2 s3 s4 s5;refine vh_take 1 true (t.val) rfl (by kernel_rfl) (by kernel_rfl) (by kernel_rfl) (want_none rfl) (fun hc v hv => ex_ld rfl (p3_1.f 3) (SB7.ld (HT3.bel hv))) rfl p3_1.z (by decide) hS (p3_1.k fun R3x1 p3_2 => ?_);clear p3_1
   obtain ⟨q,hq⟩ : ∃ z,z = wd3.heap.size:=⟨_,rfl⟩
   obtain ⟨y3x1,hy3x1⟩ : ∃ y,y = wd3.alloc (.cells zS8.cs.toArray 33):=⟨_,rfl⟩
   have ba : Below wd3.heap.size wd3 y3x1:=by rw [hy3x1];exact (Below.refl _ _).alloc (Nat.le_refl _) _
   have HQ : SB7 y3x1 q zS8:=by rw [hy3x1,hq];exact BX7.new _ _ _
   have hqb:=hS.size;have hSa:=hS.trans (ba.mono hS.size);have za:=ba.size;have lq:=HQ.lt;refine vh_two9 0 8 (by kernel_rfl) rfl rfl (want_none rfl) (ex_call (args:=#[]) rfl (by simp) rfl) (three9 wd3) rfl p3_2.z (by decide) ?_ (.pointer (some ⟨q,0,none⟩)) y3x1 (want_none rfl) (ex_al rfl (by rw [hy3x1,hq];exact al12 _)) rfl (by decide) hSa ?_
   ·clear ba HQ hy3x1 hSa za lq hqb hq
    rintro e c3a ⟨rfl,h3a⟩;clear y3x1 q;refine ⟨_,rfl,hS.trans (h3a.mono hS.size),p3_2.k fun R3x2 p3_3 => ?_⟩;clear p3_2;have zc0:=h3a.size;have hS:=hS.trans (h3a.mono hS.size)
    obtain ⟨q,hq⟩ : ∃ z,z = c3a.heap.size:=⟨_,rfl⟩
    obtain ⟨y3x2,hy3x2⟩ : ∃ y,y = c3a.alloc (.cells zS8.cs.toArray 33):=⟨_,rfl⟩
    have ba : Below c3a.heap.size c3a y3x2:=by rw [hy3x2];exact (Below.refl _ _).alloc (Nat.le_refl _) _
    have HQ : SB7 y3x2 q zS8:=by rw [hy3x2,hq];exact BX7.new _ _ _
    have hqb:=hS.size;have hSa:=hS.trans (ba.mono hS.size);have za:=ba.size;have lq:=HQ.lt;refine vh_two9 2 8 (by kernel_rfl) rfl rfl (want_none rfl) (ex_call (args:=#[.int .u64 0,.int .u64 0]) rfl (by simp only [List.map_toArray,List.map_cons,List.map_nil,evc] <;> rfl) rfl) (commit9 0 0 c3a) rfl p3_3.z (by decide) ?_ (.pointer (some ⟨q,0,none⟩)) y3x2 (want_none rfl) (ex_al rfl (by rw [hy3x2,hq];exact al12 _)) rfl (by decide) hSa ?_
    ·clear ba HQ hy3x2 hSa za lq hqb hq
     rintro e c3b ⟨g,rfl,gin,h3b⟩;clear y3x2 q;refine ⟨_,rfl,hS.trans (h3b.mono hS.size),p3_3.k fun R3x3 p3_4 => ?_⟩;clear p3_3;have zc1:=h3b.size;have hS:=hS.trans (h3b.mono hS.size)
     obtain ⟨q,hq⟩ : ∃ z,z = c3b.heap.size:=⟨_,rfl⟩
     obtain ⟨y3x3,hy3x3⟩ : ∃ y,y = c3b.alloc (.cells zS8.cs.toArray 33):=⟨_,rfl⟩
     have ba : Below c3b.heap.size c3b y3x3:=by rw [hy3x3];exact (Below.refl _ _).alloc (Nat.le_refl _) _
     have HQ : SB7 y3x3 q zS8:=by rw [hy3x3,hq];exact BX7.new _ _ _
     have hqb:=hS.size;have hSa:=hS.trans (ba.mono hS.size);have za:=ba.size;have lq:=HQ.lt;refine vh_two9 3 8 (by kernel_rfl) rfl rfl (want_none rfl) (ex_call rfl (by simp only [List.map_toArray,List.map_cons,List.map_nil,(p3_4.f 26),(p3_4.f 27),(p3_4.f 28),evc] <;> rfl) rfl) (admitC9 t F39 F39 0 0 g false c3b tal (by decide) (ck_f9 0 0) (ad2_9 g).1 (ad2_9 g).2 (tin.later hS) gin (hT.later hS hT.lt)) rfl p3_4.z (by decide) ?_ (.pointer (some ⟨q,0,none⟩)) y3x3 (want_none rfl) (ex_al rfl (by rw [hy3x3,hq];exact al12 _)) rfl (by decide) hSa ?_
     ·clear ba HQ hy3x3 hSa za lq hqb hq
      rintro e c3c ⟨t,rfl,tin,tal,tup,h3c⟩;clear y3x3 q;refine ⟨_,rfl,hS.trans (h3c.mono hS.size),p3_4.k fun R3x4 p3_5 => ?_⟩;clear p3_4;have zc2:=h3c.size;have gin:=gin.later h3c;have hS:=hS.trans (h3c.mono hS.size);refine vh_take 4 true (.tuple #[t.val,.bool false,.int .i64 0]) rfl (by kernel_rfl) (by kernel_rfl) (by kernel_rfl) (want_none rfl) (fun hc v hv => ex_move rfl (p3_5.f 29)) rfl p3_5.z (by decide) hS (p3_5.k fun R3x5 p3_6 => ?_);clear p3_5;refine vh_take 5 true (t.val) rfl (by kernel_rfl) (by kernel_rfl) (by kernel_rfl) (want_none rfl) (fun hc v hv => ex_ext8 rfl (p3_6.f 25) rfl) rfl p3_6.z (by decide) hS (p3_6.k fun R3x6 p3_7 => ?_);clear p3_6;refine vh_take 6 true (.bool false) rfl (by kernel_rfl) (by kernel_rfl) (by kernel_rfl) (want_none rfl) (fun hc v hv => ex_ext8 rfl (p3_7.f 25) rfl) rfl p3_7.z (by decide) hS (p3_7.k fun R3x7 p3_8 => ?_);clear p3_7;refine vh_take 7 true (.int .i64 0) rfl (by kernel_rfl) (by kernel_rfl) (by kernel_rfl) (want_none rfl) (fun hc v hv => ex_ext8 rfl (p3_8.f 25) rfl) rfl p3_8.z (by decide) hS (p3_8.k fun R3x8 p3_9 => ?_);clear p3_8
      obtain ⟨q,hq⟩ : ∃ z,z = c3c.heap.size:=⟨_,rfl⟩
      obtain ⟨y3x4,hy3x4⟩ : ∃ y,y = c3c.alloc (.cells zS8.cs.toArray 33):=⟨_,rfl⟩
      have ba : Below c3c.heap.size c3c y3x4:=by rw [hy3x4];exact (Below.refl _ _).alloc (Nat.le_refl _) _
      have HQ : SB7 y3x4 q zS8:=by rw [hy3x4,hq];exact BX7.new _ _ _
      have hqb:=hS.size;have hSa:=hS.trans (ba.mono hS.size);have za:=ba.size;have lq:=HQ.lt;refine vh_val8 8 (.pointer (some ⟨q,0,none⟩)) y3x4 rfl (by kernel_rfl) (want_none rfl) (ex_al rfl (by rw [hy3x4,hq];exact al12 _)) rfl p3_9.z (by decide) hSa (p3_9.k fun R3x9 p3_10 => ?_);clear p3_9;have hS:=hSa;clear hy3x4 hSa;have HT:=SB7.put HQ t;have UT:=upd12 y3x4 q t;have hST:=hS.trans (UT.below hS.size (fun k hk => by omega));refine vh_store8 9 (sets y3x4 q 0 t.cs) rfl (by kernel_rfl) (want_none rfl) (ex_st rfl (p3_10.f 6) (p3_10.f 30) (st12 HQ t)) rfl hST ?_
      obtain ⟨x7,hx7⟩ : ∃ v,v = sets y3x4 q 0 t.cs:=⟨_,rfl⟩
      rw [← hx7] at HT UT hST ⊢;clear hx7;have hLT : Below c3c.heap.size c3c x7:=ba.trans (UT.below (by omega) (fun k hk => by omega));have tin7 : t.In x7:=tin.later hLT;have hS:=hST;refine vh_take 10 true (.bool false) rfl (by kernel_rfl) (by kernel_rfl) (by kernel_rfl) (want_none rfl) (fun hc v hv => ex_assign rfl (p3_10.f 31)) rfl p3_10.z (by decide) hS (p3_10.k fun R3x10 p3_11 => ?_);clear p3_10;refine vh_take 11 true (.int .i64 0) rfl (by kernel_rfl) (by kernel_rfl) (by kernel_rfl) (want_none rfl) (fun hc v hv => ex_assign rfl (p3_11.f 32)) rfl p3_11.z (by decide) hS (p3_11.k fun R3x11 p3_12 => ?_);clear p3_11;refine vh_done (by kernel_rfl) ?_
      exact ⟨_,rfl,p3_12.z,(p3_12.a 2 rfl),(p3_12.a 3 rfl),(p3_12.a 4 rfl),(p3_12.a 5 rfl),q,t,(p3_12.a 6 rfl),(p3_12.a 7 rfl),(p3_12.a 8 rfl),HT,tin7,tal,hS⟩
     ·refine p3_4.k fun R3x12 p3_13 => ?_
      clear p3_4;have gin:=gin.later ba;have hS:=hSa;clear hy3x3 hSa;refine vh_call 3 rfl (by kernel_rfl) (want_none rfl) (ex_call rfl (by simp only [List.map_toArray,List.map_cons,List.map_nil,(p3_13.f 26),(p3_13.f 27),(p3_13.f 28),evc] <;> rfl) rfl) (admitC9 t F39 F39 0 0 g false y3x3 tal (by decide) (ck_f9 0 0) (ad2_9 g).1 (ad2_9 g).2 (tin.later hS) gin (hT.later hS hT.lt)) rfl p3_13.z (by decide) ?_;rintro e c3c ⟨t,rfl,tin,tal,tup,h3c⟩;refine ⟨_,rfl,hS.trans (h3c.mono hS.size),p3_13.k fun R3x13 p3_14 => ?_⟩;clear p3_13;have zc2:=h3c.size;have gin:=gin.later h3c;have HQ:=HQ.bel h3c;have hS:=hS.trans (h3c.mono hS.size);refine vh_take 4 true (.tuple #[t.val,.bool false,.int .i64 0]) rfl (by kernel_rfl) (by kernel_rfl) (by kernel_rfl) (want_none rfl) (fun hc v hv => ex_move rfl (p3_14.f 29)) rfl p3_14.z (by decide) hS (p3_14.k fun R3x14 p3_15 => ?_);clear p3_14;refine vh_take 5 true (t.val) rfl (by kernel_rfl) (by kernel_rfl) (by kernel_rfl) (want_none rfl) (fun hc v hv => ex_ext8 rfl (p3_15.f 25) rfl) rfl p3_15.z (by decide) hS (p3_15.k fun R3x15 p3_16 => ?_);clear p3_15;refine vh_take 6 true (.bool false) rfl (by kernel_rfl) (by kernel_rfl) (by kernel_rfl) (want_none rfl) (fun hc v hv => ex_ext8 rfl (p3_16.f 25) rfl) rfl p3_16.z (by decide) hS (p3_16.k fun R3x16 p3_17 => ?_);clear p3_16;refine vh_take 7 true (.int .i64 0) rfl (by kernel_rfl) (by kernel_rfl) (by kernel_rfl) (want_none rfl) (fun hc v hv => ex_ext8 rfl (p3_17.f 25) rfl) rfl p3_17.z (by decide) hS (p3_17.k fun R3x17 p3_18 => ?_);clear p3_17;have HT:=SB7.put HQ t;have UT:=upd12 c3c q t;have hST:=hS.trans (UT.below hS.size (fun k hk => by omega));refine vh_store8 9 (sets c3c q 0 t.cs) rfl (by kernel_rfl) (want_none rfl) (ex_st rfl (p3_18.f 6) (p3_18.f 30) (st12 HQ t)) rfl hST ?_
      obtain ⟨x7,hx7⟩ : ∃ v,v = sets c3c q 0 t.cs:=⟨_,rfl⟩
      rw [← hx7] at HT UT hST ⊢;clear hx7;have tin7 : t.In x7:=tup q x7 (by omega) UT;have hS:=hST;refine vh_take 10 true (.bool false) rfl (by kernel_rfl) (by kernel_rfl) (by kernel_rfl) (want_none rfl) (fun hc v hv => ex_assign rfl (p3_18.f 31)) rfl p3_18.z (by decide) hS (p3_18.k fun R3x18 p3_19 => ?_);clear p3_18;refine vh_take 11 true (.int .i64 0) rfl (by kernel_rfl) (by kernel_rfl) (by kernel_rfl) (want_none rfl) (fun hc v hv => ex_assign rfl (p3_19.f 32)) rfl p3_19.z (by decide) hS (p3_19.k fun R3x19 p3_20 => ?_);clear p3_19;refine vh_done (by kernel_rfl) ?_
      exact ⟨_,rfl,p3_20.z,(p3_20.a 2 rfl),(p3_20.a 3 rfl),(p3_20.a 4 rfl),(p3_20.a 5 rfl),q,t,(p3_20.a 6 rfl),(p3_20.a 7 rfl),(p3_20.a 8 rfl),HT,tin7,tal,hS⟩
    ·refine p3_3.k fun R3x20 p3_21 => ?_
     clear p3_3;have hS:=hSa;clear hy3x2 hSa;refine vh_call 2 rfl (by kernel_rfl) (want_none rfl) (ex_call (args:=#[.int .u64 0,.int .u64 0]) rfl (by simp only [List.map_toArray,List.map_cons,List.map_nil,evc] <;> rfl) rfl) (commit9 0 0 y3x2) rfl p3_21.z (by decide) ?_;rintro e c3b ⟨g,rfl,gin,h3b⟩;refine ⟨_,rfl,hS.trans (h3b.mono hS.size),p3_21.k fun R3x21 p3_22 => ?_⟩;clear p3_21;have zc1:=h3b.size;have HQ:=HQ.bel h3b;have hS:=hS.trans (h3b.mono hS.size);refine vh_call 3 rfl (by kernel_rfl) (want_none rfl) (ex_call rfl (by simp only [List.map_toArray,List.map_cons,List.map_nil,(p3_22.f 26),(p3_22.f 27),(p3_22.f 28),evc] <;> rfl) rfl) (admitC9 t F39 F39 0 0 g false c3b tal (by decide) (ck_f9 0 0) (ad2_9 g).1 (ad2_9 g).2 (tin.later hS) gin (hT.later hS hT.lt)) rfl p3_22.z (by decide) ?_;rintro e c3c ⟨t,rfl,tin,tal,tup,h3c⟩;refine ⟨_,rfl,hS.trans (h3c.mono hS.size),p3_22.k fun R3x22 p3_23 => ?_⟩;clear p3_22;have zc2:=h3c.size;have gin:=gin.later h3c;have HQ:=HQ.bel h3c;have hS:=hS.trans (h3c.mono hS.size);refine vh_take 4 true (.tuple #[t.val,.bool false,.int .i64 0]) rfl (by kernel_rfl) (by kernel_rfl) (by kernel_rfl) (want_none rfl) (fun hc v hv => ex_move rfl (p3_23.f 29)) rfl p3_23.z (by decide) hS (p3_23.k fun R3x23 p3_24 => ?_);clear p3_23;refine vh_take 5 true (t.val) rfl (by kernel_rfl) (by kernel_rfl) (by kernel_rfl) (want_none rfl) (fun hc v hv => ex_ext8 rfl (p3_24.f 25) rfl) rfl p3_24.z (by decide) hS (p3_24.k fun R3x24 p3_25 => ?_);clear p3_24;refine vh_take 6 true (.bool false) rfl (by kernel_rfl) (by kernel_rfl) (by kernel_rfl) (want_none rfl) (fun hc v hv => ex_ext8 rfl (p3_25.f 25) rfl) rfl p3_25.z (by decide) hS (p3_25.k fun R3x25 p3_26 => ?_);clear p3_25;refine vh_take 7 true (.int .i64 0) rfl (by kernel_rfl) (by kernel_rfl) (by kernel_rfl) (want_none rfl) (fun hc v hv => ex_ext8 rfl (p3_26.f 25) rfl) rfl p3_26.z (by decide) hS (p3_26.k fun R3x26 p3_27 => ?_);clear p3_26;have HT:=SB7.put HQ t;have UT:=upd12 c3c q t;have hST:=hS.trans (UT.below hS.size (fun k hk => by omega));refine vh_store8 9 (sets c3c q 0 t.cs) rfl (by kernel_rfl) (want_none rfl) (ex_st rfl (p3_27.f 6) (p3_27.f 30) (st12 HQ t)) rfl hST ?_
     obtain ⟨x7,hx7⟩ : ∃ v,v = sets c3c q 0 t.cs:=⟨_,rfl⟩
     rw [← hx7] at HT UT hST ⊢;clear hx7;have tin7 : t.In x7:=tup q x7 (by omega) UT;have hS:=hST;refine vh_take 10 true (.bool false) rfl (by kernel_rfl) (by kernel_rfl) (by kernel_rfl) (want_none rfl) (fun hc v hv => ex_assign rfl (p3_27.f 31)) rfl p3_27.z (by decide) hS (p3_27.k fun R3x27 p3_28 => ?_);clear p3_27;refine vh_take 11 true (.int .i64 0) rfl (by kernel_rfl) (by kernel_rfl) (by kernel_rfl) (want_none rfl) (fun hc v hv => ex_assign rfl (p3_28.f 32)) rfl p3_28.z (by decide) hS (p3_28.k fun R3x28 p3_29 => ?_);clear p3_28;refine vh_done (by kernel_rfl) ?_
     exact ⟨_,rfl,p3_29.z,(p3_29.a 2 rfl),(p3_29.a 3 rfl),(p3_29.a 4 rfl),(p3_29.a 5 rfl),q,t,(p3_29.a 6 rfl),(p3_29.a 7 rfl),(p3_29.a 8 rfl),HT,tin7,tal,hS⟩
   ·refine p3_2.k fun R3x29 p3_30 => ?_
    clear p3_2;have hS:=hSa;clear hy3x1 hSa;refine vh_call 0 rfl (by kernel_rfl) (want_none rfl) (ex_call (args:=#[]) rfl (by simp) rfl) (three9 y3x1) rfl p3_30.z (by decide) ?_;rintro e c3a ⟨rfl,h3a⟩;refine ⟨_,rfl,hS.trans (h3a.mono hS.size),p3_30.k fun R3x30 p3_31 => ?_⟩;clear p3_30;have zc0:=h3a.size;have HQ:=HQ.bel h3a;have hS:=hS.trans (h3a.mono hS.size);refine vh_call 2 rfl (by kernel_rfl) (want_none rfl) (ex_call (args:=#[.int .u64 0,.int .u64 0]) rfl (by simp only [List.map_toArray,List.map_cons,List.map_nil,evc] <;> rfl) rfl) (commit9 0 0 c3a) rfl p3_31.z (by decide) ?_;rintro e c3b ⟨g,rfl,gin,h3b⟩;refine ⟨_,rfl,hS.trans (h3b.mono hS.size),p3_31.k fun R3x31 p3_32 => ?_⟩;clear p3_31;have zc1:=h3b.size;have HQ:=HQ.bel h3b;have hS:=hS.trans (h3b.mono hS.size);refine vh_call 3 rfl (by kernel_rfl) (want_none rfl) (ex_call rfl (by simp only [List.map_toArray,List.map_cons,List.map_nil,(p3_32.f 26),(p3_32.f 27),(p3_32.f 28),evc] <;> rfl) rfl) (admitC9 t F39 F39 0 0 g false c3b tal (by decide) (ck_f9 0 0) (ad2_9 g).1 (ad2_9 g).2 (tin.later hS) gin (hT.later hS hT.lt)) rfl p3_32.z (by decide) ?_;rintro e c3c ⟨t,rfl,tin,tal,tup,h3c⟩;refine ⟨_,rfl,hS.trans (h3c.mono hS.size),p3_32.k fun R3x32 p3_33 => ?_⟩;clear p3_32;have zc2:=h3c.size;have gin:=gin.later h3c;have HQ:=HQ.bel h3c;have hS:=hS.trans (h3c.mono hS.size);refine vh_take 4 true (.tuple #[t.val,.bool false,.int .i64 0]) rfl (by kernel_rfl) (by kernel_rfl) (by kernel_rfl) (want_none rfl) (fun hc v hv => ex_move rfl (p3_33.f 29)) rfl p3_33.z (by decide) hS (p3_33.k fun R3x33 p3_34 => ?_);clear p3_33;refine vh_take 5 true (t.val) rfl (by kernel_rfl) (by kernel_rfl) (by kernel_rfl) (want_none rfl) (fun hc v hv => ex_ext8 rfl (p3_34.f 25) rfl) rfl p3_34.z (by decide) hS (p3_34.k fun R3x34 p3_35 => ?_);clear p3_34;refine vh_take 6 true (.bool false) rfl (by kernel_rfl) (by kernel_rfl) (by kernel_rfl) (want_none rfl) (fun hc v hv => ex_ext8 rfl (p3_35.f 25) rfl) rfl p3_35.z (by decide) hS (p3_35.k fun R3x35 p3_36 => ?_);clear p3_35;refine vh_take 7 true (.int .i64 0) rfl (by kernel_rfl) (by kernel_rfl) (by kernel_rfl) (want_none rfl) (fun hc v hv => ex_ext8 rfl (p3_36.f 25) rfl) rfl p3_36.z (by decide) hS (p3_36.k fun R3x36 p3_37 => ?_);clear p3_36;have HT:=SB7.put HQ t;have UT:=upd12 c3c q t;have hST:=hS.trans (UT.below hS.size (fun k hk => by omega));refine vh_store8 9 (sets c3c q 0 t.cs) rfl (by kernel_rfl) (want_none rfl) (ex_st rfl (p3_37.f 6) (p3_37.f 30) (st12 HQ t)) rfl hST ?_
    obtain ⟨x7,hx7⟩ : ∃ v,v = sets c3c q 0 t.cs:=⟨_,rfl⟩
    rw [← hx7] at HT UT hST ⊢;clear hx7;have tin7 : t.In x7:=tup q x7 (by omega) UT;have hS:=hST;refine vh_take 10 true (.bool false) rfl (by kernel_rfl) (by kernel_rfl) (by kernel_rfl) (want_none rfl) (fun hc v hv => ex_assign rfl (p3_37.f 31)) rfl p3_37.z (by decide) hS (p3_37.k fun R3x37 p3_38 => ?_);clear p3_37;refine vh_take 11 true (.int .i64 0) rfl (by kernel_rfl) (by kernel_rfl) (by kernel_rfl) (want_none rfl) (fun hc v hv => ex_assign rfl (p3_38.f 32)) rfl p3_38.z (by decide) hS (p3_38.k fun R3x38 p3_39 => ?_);clear p3_38;refine vh_done (by kernel_rfl) ?_
    exact ⟨_,rfl,p3_39.z,(p3_39.a 2 rfl),(p3_39.a 3 rfl),(p3_39.a 4 rfl),(p3_39.a 5 rfl),q,t,(p3_39.a 6 rfl),(p3_39.a 7 rfl),(p3_39.a 8 rfl),HT,tin7,tal,hS⟩
  ·clear hz s2 s3 s4 s5
   intro T8 z2 hJ;obtain ⟨hz,s2,s3,s4,s5,q6,t6,s6,s7,s8,HI9⟩:=hJ;obtain ⟨_,_,_,hb⟩:=HI9.out;clear HI9 s6;have hT:=hT.later hb hT.lt;have hB:=hB.trans (hb.mono hB0);have hB0:=hB.size;have HT3:=HT3.bel hb;have tin:=tin.later hb;clear hb
   go_upto_region 4 with fail
   refine v_cut9 (fun T v => T.size = 83∧T[2]? = some (gw true (.int .i64 (fvE9 c39 1)))∧T[3]? = some (gw true (.pointer (some ⟨q3,0,none⟩)))∧T[4]? = some (gw true (.bool true))∧T[5]? = some (gw true (.int .i64 0))∧T[7]? = some (gw true (.bool false))∧T[8]? = some (gw true (.int .i64 0))∧∃ (q : Nat) (t : Sta),T[9]? = some (gw true (.pointer (some ⟨q,0,none⟩)))∧T[10]? = some (gw true (.bool false))∧T[11]? = some (gw true (.int .i64 0))∧Hid (SB7 v q t∧t.In v∧(vst9 1 1 0 0 F39).Alike9 t∧Below z2.heap.size z2 v)) ?_ ?_
   ·refine vh_start (fun v => Below z2.heap.size z2 v) (by kernel_rfl) ?_
    have hS : Below z2.heap.size z2 z2.drew:=(Below.refl _ _).drew
    obtain ⟨wd4,hwd⟩ : ∃ y,y = z2.drew:=⟨_,rfl⟩
    rw [← hwd] at hS ⊢;clear hwd;have p4_1:=((((((Rp.nil hz).cons s2).cons s3).cons s4).cons s5).cons s7).cons s8;clear hz s2 s3 s4 s5 s7 s8;refine vh_take 1 true (t.val) rfl (by kernel_rfl) (by kernel_rfl) (by kernel_rfl) (want_none rfl) (fun hc v hv => ex_ld rfl (p4_1.f 3) (SB7.ld (HT3.bel hv))) rfl p4_1.z (by decide) hS (p4_1.k fun R4x1 p4_2 => ?_);clear p4_1
    obtain ⟨q,hq⟩ : ∃ z,z = wd4.heap.size:=⟨_,rfl⟩
    obtain ⟨y4x1,hy4x1⟩ : ∃ y,y = wd4.alloc (.cells zS8.cs.toArray 33):=⟨_,rfl⟩
    have ba : Below wd4.heap.size wd4 y4x1:=by rw [hy4x1];exact (Below.refl _ _).alloc (Nat.le_refl _) _
    have HQ : SB7 y4x1 q zS8:=by rw [hy4x1,hq];exact BX7.new _ _ _
    have hqb:=hS.size;have hSa:=hS.trans (ba.mono hS.size);have za:=ba.size;have lq:=HQ.lt;refine vh_two9 0 8 (by kernel_rfl) rfl rfl (want_none rfl) (ex_call (args:=#[]) rfl (by simp) rfl) (three9 wd4) rfl p4_2.z (by decide) ?_ (.pointer (some ⟨q,0,none⟩)) y4x1 (want_none rfl) (ex_al rfl (by rw [hy4x1,hq];exact al12 _)) rfl (by decide) hSa ?_
    ·clear ba HQ hy4x1 hSa za lq hqb hq
     rintro e c4a ⟨rfl,h4a⟩;clear y4x1 q;refine ⟨_,rfl,hS.trans (h4a.mono hS.size),p4_2.k fun R4x2 p4_3 => ?_⟩;clear p4_2;have zc0:=h4a.size;have hS:=hS.trans (h4a.mono hS.size)
     obtain ⟨q,hq⟩ : ∃ z,z = c4a.heap.size:=⟨_,rfl⟩
     obtain ⟨y4x2,hy4x2⟩ : ∃ y,y = c4a.alloc (.cells zS8.cs.toArray 33):=⟨_,rfl⟩
     have ba : Below c4a.heap.size c4a y4x2:=by rw [hy4x2];exact (Below.refl _ _).alloc (Nat.le_refl _) _
     have HQ : SB7 y4x2 q zS8:=by rw [hy4x2,hq];exact BX7.new _ _ _
     have hqb:=hS.size;have hSa:=hS.trans (ba.mono hS.size);have za:=ba.size;have lq:=HQ.lt;refine vh_two9 2 8 (by kernel_rfl) rfl rfl (want_none rfl) (ex_call (args:=#[.int .u64 4,.int .u64 3]) rfl (by simp only [List.map_toArray,List.map_cons,List.map_nil,evc] <;> rfl) rfl) (commit9 4 3 c4a) rfl p4_3.z (by decide) ?_ (.pointer (some ⟨q,0,none⟩)) y4x2 (want_none rfl) (ex_al rfl (by rw [hy4x2,hq];exact al12 _)) rfl (by decide) hSa ?_
     ·clear ba HQ hy4x2 hSa za lq hqb hq
      rintro e c4b ⟨g,rfl,gin,h4b⟩;clear y4x2 q;refine ⟨_,rfl,hS.trans (h4b.mono hS.size),p4_3.k fun R4x3 p4_4 => ?_⟩;clear p4_3;have zc1:=h4b.size;have hS:=hS.trans (h4b.mono hS.size)
      obtain ⟨q,hq⟩ : ∃ z,z = c4b.heap.size:=⟨_,rfl⟩
      obtain ⟨y4x3,hy4x3⟩ : ∃ y,y = c4b.alloc (.cells zS8.cs.toArray 33):=⟨_,rfl⟩
      have ba : Below c4b.heap.size c4b y4x3:=by rw [hy4x3];exact (Below.refl _ _).alloc (Nat.le_refl _) _
      have HQ : SB7 y4x3 q zS8:=by rw [hy4x3,hq];exact BX7.new _ _ _
      have hqb:=hS.size;have hSa:=hS.trans (ba.mono hS.size);have za:=ba.size;have lq:=HQ.lt;refine vh_two9 3 8 (by kernel_rfl) rfl rfl (want_none rfl) (ex_call rfl (by simp only [List.map_toArray,List.map_cons,List.map_nil,(p4_4.f 34),(p4_4.f 35),(p4_4.f 36),evc] <;> rfl) rfl) (admitC9 t F39 F39 4 3 g false c4b tal (by decide) (ck_f9 0 0) (ad3_9 g).1 (ad3_9 g).2 (tin.later hS) gin (hT.later hS hT.lt)) rfl p4_4.z (by decide) ?_ (.pointer (some ⟨q,0,none⟩)) y4x3 (want_none rfl) (ex_al rfl (by rw [hy4x3,hq];exact al12 _)) rfl (by decide) hSa ?_
      ·clear ba HQ hy4x3 hSa za lq hqb hq
       rintro e c4c ⟨t,rfl,tin,tal,tup,h4c⟩;clear y4x3 q;refine ⟨_,rfl,hS.trans (h4c.mono hS.size),p4_4.k fun R4x4 p4_5 => ?_⟩;clear p4_4;have zc2:=h4c.size;have gin:=gin.later h4c;have hS:=hS.trans (h4c.mono hS.size);refine vh_take 4 true (.tuple #[t.val,.bool false,.int .i64 0]) rfl (by kernel_rfl) (by kernel_rfl) (by kernel_rfl) (want_none rfl) (fun hc v hv => ex_move rfl (p4_5.f 37)) rfl p4_5.z (by decide) hS (p4_5.k fun R4x5 p4_6 => ?_);clear p4_5;refine vh_take 5 true (t.val) rfl (by kernel_rfl) (by kernel_rfl) (by kernel_rfl) (want_none rfl) (fun hc v hv => ex_ext8 rfl (p4_6.f 33) rfl) rfl p4_6.z (by decide) hS (p4_6.k fun R4x6 p4_7 => ?_);clear p4_6;refine vh_take 6 true (.bool false) rfl (by kernel_rfl) (by kernel_rfl) (by kernel_rfl) (want_none rfl) (fun hc v hv => ex_ext8 rfl (p4_7.f 33) rfl) rfl p4_7.z (by decide) hS (p4_7.k fun R4x7 p4_8 => ?_);clear p4_7;refine vh_take 7 true (.int .i64 0) rfl (by kernel_rfl) (by kernel_rfl) (by kernel_rfl) (want_none rfl) (fun hc v hv => ex_ext8 rfl (p4_8.f 33) rfl) rfl p4_8.z (by decide) hS (p4_8.k fun R4x8 p4_9 => ?_);clear p4_8
       obtain ⟨q,hq⟩ : ∃ z,z = c4c.heap.size:=⟨_,rfl⟩
       obtain ⟨y4x4,hy4x4⟩ : ∃ y,y = c4c.alloc (.cells zS8.cs.toArray 33):=⟨_,rfl⟩
       have ba : Below c4c.heap.size c4c y4x4:=by rw [hy4x4];exact (Below.refl _ _).alloc (Nat.le_refl _) _
       have HQ : SB7 y4x4 q zS8:=by rw [hy4x4,hq];exact BX7.new _ _ _
       have hqb:=hS.size;have hSa:=hS.trans (ba.mono hS.size);have za:=ba.size;have lq:=HQ.lt;refine vh_val8 8 (.pointer (some ⟨q,0,none⟩)) y4x4 rfl (by kernel_rfl) (want_none rfl) (ex_al rfl (by rw [hy4x4,hq];exact al12 _)) rfl p4_9.z (by decide) hSa (p4_9.k fun R4x9 p4_10 => ?_);clear p4_9;have hS:=hSa;clear hy4x4 hSa;have HT:=SB7.put HQ t;have UT:=upd12 y4x4 q t;have hST:=hS.trans (UT.below hS.size (fun k hk => by omega));refine vh_store8 9 (sets y4x4 q 0 t.cs) rfl (by kernel_rfl) (want_none rfl) (ex_st rfl (p4_10.f 9) (p4_10.f 38) (st12 HQ t)) rfl hST ?_
       obtain ⟨x7,hx7⟩ : ∃ v,v = sets y4x4 q 0 t.cs:=⟨_,rfl⟩
       rw [← hx7] at HT UT hST ⊢;clear hx7;have hLT : Below c4c.heap.size c4c x7:=ba.trans (UT.below (by omega) (fun k hk => by omega));have tin7 : t.In x7:=tin.later hLT;have hS:=hST;refine vh_take 10 true (.bool false) rfl (by kernel_rfl) (by kernel_rfl) (by kernel_rfl) (want_none rfl) (fun hc v hv => ex_assign rfl (p4_10.f 39)) rfl p4_10.z (by decide) hS (p4_10.k fun R4x10 p4_11 => ?_);clear p4_10;refine vh_take 11 true (.int .i64 0) rfl (by kernel_rfl) (by kernel_rfl) (by kernel_rfl) (want_none rfl) (fun hc v hv => ex_assign rfl (p4_11.f 40)) rfl p4_11.z (by decide) hS (p4_11.k fun R4x11 p4_12 => ?_);clear p4_11;refine vh_done (by kernel_rfl) ?_
       exact ⟨_,rfl,p4_12.z,(p4_12.a 2 rfl),(p4_12.a 3 rfl),(p4_12.a 4 rfl),(p4_12.a 5 rfl),(p4_12.a 7 rfl),(p4_12.a 8 rfl),q,t,(p4_12.a 9 rfl),(p4_12.a 10 rfl),(p4_12.a 11 rfl),HT,tin7,tal,hS⟩
      ·refine p4_4.k fun R4x12 p4_13 => ?_
       clear p4_4;have gin:=gin.later ba;have hS:=hSa;clear hy4x3 hSa;refine vh_call 3 rfl (by kernel_rfl) (want_none rfl) (ex_call rfl (by simp only [List.map_toArray,List.map_cons,List.map_nil,(p4_13.f 34),(p4_13.f 35),(p4_13.f 36),evc] <;> rfl) rfl) (admitC9 t F39 F39 4 3 g false y4x3 tal (by decide) (ck_f9 0 0) (ad3_9 g).1 (ad3_9 g).2 (tin.later hS) gin (hT.later hS hT.lt)) rfl p4_13.z (by decide) ?_;rintro e c4c ⟨t,rfl,tin,tal,tup,h4c⟩;refine ⟨_,rfl,hS.trans (h4c.mono hS.size),p4_13.k fun R4x13 p4_14 => ?_⟩;clear p4_13;have zc2:=h4c.size;have gin:=gin.later h4c;have HQ:=HQ.bel h4c;have hS:=hS.trans (h4c.mono hS.size);refine vh_take 4 true (.tuple #[t.val,.bool false,.int .i64 0]) rfl (by kernel_rfl) (by kernel_rfl) (by kernel_rfl) (want_none rfl) (fun hc v hv => ex_move rfl (p4_14.f 37)) rfl p4_14.z (by decide) hS (p4_14.k fun R4x14 p4_15 => ?_);clear p4_14;refine vh_take 5 true (t.val) rfl (by kernel_rfl) (by kernel_rfl) (by kernel_rfl) (want_none rfl) (fun hc v hv => ex_ext8 rfl (p4_15.f 33) rfl) rfl p4_15.z (by decide) hS (p4_15.k fun R4x15 p4_16 => ?_);clear p4_15;refine vh_take 6 true (.bool false) rfl (by kernel_rfl) (by kernel_rfl) (by kernel_rfl) (want_none rfl) (fun hc v hv => ex_ext8 rfl (p4_16.f 33) rfl) rfl p4_16.z (by decide) hS (p4_16.k fun R4x16 p4_17 => ?_);clear p4_16;refine vh_take 7 true (.int .i64 0) rfl (by kernel_rfl) (by kernel_rfl) (by kernel_rfl) (want_none rfl) (fun hc v hv => ex_ext8 rfl (p4_17.f 33) rfl) rfl p4_17.z (by decide) hS (p4_17.k fun R4x17 p4_18 => ?_);clear p4_17;have HT:=SB7.put HQ t;have UT:=upd12 c4c q t;have hST:=hS.trans (UT.below hS.size (fun k hk => by omega));refine vh_store8 9 (sets c4c q 0 t.cs) rfl (by kernel_rfl) (want_none rfl) (ex_st rfl (p4_18.f 9) (p4_18.f 38) (st12 HQ t)) rfl hST ?_
       obtain ⟨x7,hx7⟩ : ∃ v,v = sets c4c q 0 t.cs:=⟨_,rfl⟩
       rw [← hx7] at HT UT hST ⊢;clear hx7;have tin7 : t.In x7:=tup q x7 (by omega) UT;have hS:=hST;refine vh_take 10 true (.bool false) rfl (by kernel_rfl) (by kernel_rfl) (by kernel_rfl) (want_none rfl) (fun hc v hv => ex_assign rfl (p4_18.f 39)) rfl p4_18.z (by decide) hS (p4_18.k fun R4x18 p4_19 => ?_);clear p4_18;refine vh_take 11 true (.int .i64 0) rfl (by kernel_rfl) (by kernel_rfl) (by kernel_rfl) (want_none rfl) (fun hc v hv => ex_assign rfl (p4_19.f 40)) rfl p4_19.z (by decide) hS (p4_19.k fun R4x19 p4_20 => ?_);clear p4_19;refine vh_done (by kernel_rfl) ?_
       exact ⟨_,rfl,p4_20.z,(p4_20.a 2 rfl),(p4_20.a 3 rfl),(p4_20.a 4 rfl),(p4_20.a 5 rfl),(p4_20.a 7 rfl),(p4_20.a 8 rfl),q,t,(p4_20.a 9 rfl),(p4_20.a 10 rfl),(p4_20.a 11 rfl),HT,tin7,tal,hS⟩
     ·refine p4_3.k fun R4x20 p4_21 => ?_
      clear p4_3;have hS:=hSa;clear hy4x2 hSa;refine vh_call 2 rfl (by kernel_rfl) (want_none rfl) (ex_call (args:=#[.int .u64 4,.int .u64 3]) rfl (by simp only [List.map_toArray,List.map_cons,List.map_nil,evc] <;> rfl) rfl) (commit9 4 3 y4x2) rfl p4_21.z (by decide) ?_;rintro e c4b ⟨g,rfl,gin,h4b⟩;refine ⟨_,rfl,hS.trans (h4b.mono hS.size),p4_21.k fun R4x21 p4_22 => ?_⟩;clear p4_21;have zc1:=h4b.size;have HQ:=HQ.bel h4b;have hS:=hS.trans (h4b.mono hS.size);refine vh_call 3 rfl (by kernel_rfl) (want_none rfl) (ex_call rfl (by simp only [List.map_toArray,List.map_cons,List.map_nil,(p4_22.f 34),(p4_22.f 35),(p4_22.f 36),evc] <;> rfl) rfl) (admitC9 t F39 F39 4 3 g false c4b tal (by decide) (ck_f9 0 0) (ad3_9 g).1 (ad3_9 g).2 (tin.later hS) gin (hT.later hS hT.lt)) rfl p4_22.z (by decide) ?_;rintro e c4c ⟨t,rfl,tin,tal,tup,h4c⟩;refine ⟨_,rfl,hS.trans (h4c.mono hS.size),p4_22.k fun R4x22 p4_23 => ?_⟩;clear p4_22;have zc2:=h4c.size;have gin:=gin.later h4c;have HQ:=HQ.bel h4c;have hS:=hS.trans (h4c.mono hS.size);refine vh_take 4 true (.tuple #[t.val,.bool false,.int .i64 0]) rfl (by kernel_rfl) (by kernel_rfl) (by kernel_rfl) (want_none rfl) (fun hc v hv => ex_move rfl (p4_23.f 37)) rfl p4_23.z (by decide) hS (p4_23.k fun R4x23 p4_24 => ?_);clear p4_23;refine vh_take 5 true (t.val) rfl (by kernel_rfl) (by kernel_rfl) (by kernel_rfl) (want_none rfl) (fun hc v hv => ex_ext8 rfl (p4_24.f 33) rfl) rfl p4_24.z (by decide) hS (p4_24.k fun R4x24 p4_25 => ?_);clear p4_24;refine vh_take 6 true (.bool false) rfl (by kernel_rfl) (by kernel_rfl) (by kernel_rfl) (want_none rfl) (fun hc v hv => ex_ext8 rfl (p4_25.f 33) rfl) rfl p4_25.z (by decide) hS (p4_25.k fun R4x25 p4_26 => ?_);clear p4_25;refine vh_take 7 true (.int .i64 0) rfl (by kernel_rfl) (by kernel_rfl) (by kernel_rfl) (want_none rfl) (fun hc v hv => ex_ext8 rfl (p4_26.f 33) rfl) rfl p4_26.z (by decide) hS (p4_26.k fun R4x26 p4_27 => ?_);clear p4_26;have HT:=SB7.put HQ t;have UT:=upd12 c4c q t;have hST:=hS.trans (UT.below hS.size (fun k hk => by omega));refine vh_store8 9 (sets c4c q 0 t.cs) rfl (by kernel_rfl) (want_none rfl) (ex_st rfl (p4_27.f 9) (p4_27.f 38) (st12 HQ t)) rfl hST ?_
      obtain ⟨x7,hx7⟩ : ∃ v,v = sets c4c q 0 t.cs:=⟨_,rfl⟩
      rw [← hx7] at HT UT hST ⊢;clear hx7;have tin7 : t.In x7:=tup q x7 (by omega) UT;have hS:=hST;refine vh_take 10 true (.bool false) rfl (by kernel_rfl) (by kernel_rfl) (by kernel_rfl) (want_none rfl) (fun hc v hv => ex_assign rfl (p4_27.f 39)) rfl p4_27.z (by decide) hS (p4_27.k fun R4x27 p4_28 => ?_);clear p4_27;refine vh_take 11 true (.int .i64 0) rfl (by kernel_rfl) (by kernel_rfl) (by kernel_rfl) (want_none rfl) (fun hc v hv => ex_assign rfl (p4_28.f 40)) rfl p4_28.z (by decide) hS (p4_28.k fun R4x28 p4_29 => ?_);clear p4_28;refine vh_done (by kernel_rfl) ?_
      exact ⟨_,rfl,p4_29.z,(p4_29.a 2 rfl),(p4_29.a 3 rfl),(p4_29.a 4 rfl),(p4_29.a 5 rfl),(p4_29.a 7 rfl),(p4_29.a 8 rfl),q,t,(p4_29.a 9 rfl),(p4_29.a 10 rfl),(p4_29.a 11 rfl),HT,tin7,tal,hS⟩
    ·refine p4_2.k fun R4x29 p4_30 => ?_
     clear p4_2;have hS:=hSa;clear hy4x1 hSa;refine vh_call 0 rfl (by kernel_rfl) (want_none rfl) (ex_call (args:=#[]) rfl (by simp) rfl) (three9 y4x1) rfl p4_30.z (by decide) ?_;rintro e c4a ⟨rfl,h4a⟩;refine ⟨_,rfl,hS.trans (h4a.mono hS.size),p4_30.k fun R4x30 p4_31 => ?_⟩;clear p4_30;have zc0:=h4a.size;have HQ:=HQ.bel h4a;have hS:=hS.trans (h4a.mono hS.size);refine vh_call 2 rfl (by kernel_rfl) (want_none rfl) (ex_call (args:=#[.int .u64 4,.int .u64 3]) rfl (by simp only [List.map_toArray,List.map_cons,List.map_nil,evc] <;> rfl) rfl) (commit9 4 3 c4a) rfl p4_31.z (by decide) ?_;rintro e c4b ⟨g,rfl,gin,h4b⟩;refine ⟨_,rfl,hS.trans (h4b.mono hS.size),p4_31.k fun R4x31 p4_32 => ?_⟩;clear p4_31;have zc1:=h4b.size;have HQ:=HQ.bel h4b;have hS:=hS.trans (h4b.mono hS.size);refine vh_call 3 rfl (by kernel_rfl) (want_none rfl) (ex_call rfl (by simp only [List.map_toArray,List.map_cons,List.map_nil,(p4_32.f 34),(p4_32.f 35),(p4_32.f 36),evc] <;> rfl) rfl) (admitC9 t F39 F39 4 3 g false c4b tal (by decide) (ck_f9 0 0) (ad3_9 g).1 (ad3_9 g).2 (tin.later hS) gin (hT.later hS hT.lt)) rfl p4_32.z (by decide) ?_;rintro e c4c ⟨t,rfl,tin,tal,tup,h4c⟩;refine ⟨_,rfl,hS.trans (h4c.mono hS.size),p4_32.k fun R4x32 p4_33 => ?_⟩;clear p4_32;have zc2:=h4c.size;have gin:=gin.later h4c;have HQ:=HQ.bel h4c;have hS:=hS.trans (h4c.mono hS.size);refine vh_take 4 true (.tuple #[t.val,.bool false,.int .i64 0]) rfl (by kernel_rfl) (by kernel_rfl) (by kernel_rfl) (want_none rfl) (fun hc v hv => ex_move rfl (p4_33.f 37)) rfl p4_33.z (by decide) hS (p4_33.k fun R4x33 p4_34 => ?_);clear p4_33;refine vh_take 5 true (t.val) rfl (by kernel_rfl) (by kernel_rfl) (by kernel_rfl) (want_none rfl) (fun hc v hv => ex_ext8 rfl (p4_34.f 33) rfl) rfl p4_34.z (by decide) hS (p4_34.k fun R4x34 p4_35 => ?_);clear p4_34;refine vh_take 6 true (.bool false) rfl (by kernel_rfl) (by kernel_rfl) (by kernel_rfl) (want_none rfl) (fun hc v hv => ex_ext8 rfl (p4_35.f 33) rfl) rfl p4_35.z (by decide) hS (p4_35.k fun R4x35 p4_36 => ?_);clear p4_35;refine vh_take 7 true (.int .i64 0) rfl (by kernel_rfl) (by kernel_rfl) (by kernel_rfl) (want_none rfl) (fun hc v hv => ex_ext8 rfl (p4_36.f 33) rfl) rfl p4_36.z (by decide) hS (p4_36.k fun R4x36 p4_37 => ?_);clear p4_36;have HT:=SB7.put HQ t;have UT:=upd12 c4c q t;have hST:=hS.trans (UT.below hS.size (fun k hk => by omega));refine vh_store8 9 (sets c4c q 0 t.cs) rfl (by kernel_rfl) (want_none rfl) (ex_st rfl (p4_37.f 9) (p4_37.f 38) (st12 HQ t)) rfl hST ?_
     obtain ⟨x7,hx7⟩ : ∃ v,v = sets c4c q 0 t.cs:=⟨_,rfl⟩
     rw [← hx7] at HT UT hST ⊢;clear hx7;have tin7 : t.In x7:=tup q x7 (by omega) UT;have hS:=hST;refine vh_take 10 true (.bool false) rfl (by kernel_rfl) (by kernel_rfl) (by kernel_rfl) (want_none rfl) (fun hc v hv => ex_assign rfl (p4_37.f 39)) rfl p4_37.z (by decide) hS (p4_37.k fun R4x37 p4_38 => ?_);clear p4_37;refine vh_take 11 true (.int .i64 0) rfl (by kernel_rfl) (by kernel_rfl) (by kernel_rfl) (want_none rfl) (fun hc v hv => ex_assign rfl (p4_38.f 40)) rfl p4_38.z (by decide) hS (p4_38.k fun R4x38 p4_39 => ?_);clear p4_38;refine vh_done (by kernel_rfl) ?_
     exact ⟨_,rfl,p4_39.z,(p4_39.a 2 rfl),(p4_39.a 3 rfl),(p4_39.a 4 rfl),(p4_39.a 5 rfl),(p4_39.a 7 rfl),(p4_39.a 8 rfl),q,t,(p4_39.a 9 rfl),(p4_39.a 10 rfl),(p4_39.a 11 rfl),HT,tin7,tal,hS⟩
   ·clear hz s2 s3 s4 s5 s7 s8
    intro T7 z3 hJ;obtain ⟨hz,s2,s3,s4,s5,s7,s8,q9,t9,s9,s10,s11,HI9⟩:=hJ;obtain ⟨_,_,_,hb⟩:=HI9.out;clear HI9 s9;have hB:=hB.trans (hb.mono hB0);have hB0:=hB.size;have HT3:=HT3.bel hb;have tin:=tin.later hb;clear hb;obtain ⟨qv,ov,hva,hix,hc1⟩:=vec0_9 tin.v tal.v;have hself : t.self = 1:=tal.self
    have hlen : (t.V.length : Int) = 3:=by rw [tal.v];rfl
    go_upto_region 5 with fail
    refine wp_region_lit ?_;have Yn:=((((((((Rp.nil hz).cons s2).cons s3).cons s4).cons s5).cons s7).cons s8).cons s10).cons s11;clear hz s2 s3 s4 s5 s7 s8 s10 s11
    refine Yn.t _ (ex_move rfl (Yn.f 2)) fun _ Yo => ?_;clear Yn
    refine vcallP (want_none rfl) (ex_call rfl (by simp only [List.map_toArray,List.map_cons,List.map_nil,(Yo.f 41),evc] <;> rfl) rfl) (num9 (fvE9 c39 1) z3) rfl Yo.z (by decide) ?_;rintro e n1 ⟨rfl,hb⟩;refine ⟨_,rfl,Yo.k fun Yp Yq => ?_⟩;clear Yo;have hB:=hB.trans (hb.mono hB0);have hB0:=hB.size;have HT3:=HT3.bel hb;have hc1:=cell8 hc1 hb;clear hb
    refine Yq.t _ (ex_move rfl (Yq.f 5)) fun _ Yr => ?_;clear Yq
    refine vcallP (want_none rfl) (ex_call rfl (by simp only [List.map_toArray,List.map_cons,List.map_nil,(Yr.f 43),evc] <;> rfl) rfl) (num9 0 n1) rfl Yr.z (by decide) ?_;rintro e n2 ⟨rfl,hb⟩;refine ⟨_,rfl,Yr.k fun Ys Yt => ?_⟩;clear Yr;have hB:=hB.trans (hb.mono hB0);have hB0:=hB.size;have HT3:=HT3.bel hb;have hc1:=cell8 hc1 hb;clear hb
    refine Yt.t (.int .i64 0) (ex_bin rfl (Yt.f 42) (Yt.f 44) (addD8 _ _ _ _ 0 (by rfl) _)) fun _ Yu => ?_;clear Yt
    refine Yu.t _ (ex_move rfl (Yu.f 8)) fun _ Yv => ?_;clear Yu
    refine vcallP (want_none rfl) (ex_call rfl (by simp only [List.map_toArray,List.map_cons,List.map_nil,(Yv.f 46),evc] <;> rfl) rfl) (num9 0 n2) rfl Yv.z (by decide) ?_;rintro e n3 ⟨rfl,hb⟩;refine ⟨_,rfl,Yv.k fun Yw Yx => ?_⟩;clear Yv;have hB:=hB.trans (hb.mono hB0);have hB0:=hB.size;have HT3:=HT3.bel hb;have hc1:=cell8 hc1 hb;clear hb
    refine Yx.t (.int .i64 0) (ex_bin rfl (Yx.f 45) (Yx.f 47) (addD8 _ _ _ _ 0 (by rfl) _)) fun _ Yy => ?_;clear Yx
    refine Yy.t _ (ex_move rfl (Yy.f 11)) fun _ Yz => ?_;clear Yy
    refine vcallP (want_none rfl) (ex_call rfl (by simp only [List.map_toArray,List.map_cons,List.map_nil,(Yz.f 49),evc] <;> rfl) rfl) (num9 0 n3) rfl Yz.z (by decide) ?_;rintro e n4 ⟨rfl,hb⟩;refine ⟨_,rfl,Yz.k fun Y0 Y1 => ?_⟩;clear Yz;have hB:=hB.trans (hb.mono hB0);have hB0:=hB.size;have HT3:=HT3.bel hb;have hc1:=cell8 hc1 hb;clear hb
    refine Y1.t (.int .i64 0) (ex_bin rfl (Y1.f 48) (Y1.f 50) (addD8 _ _ _ _ 0 (by rfl) _)) fun _ Y2 => ?_;clear Y1
    refine Y2.t (.bool true) (ex_bin rfl (Y2.f 51) rfl (eqlI9 _ _ _ _ rfl _)) fun _ Y3 => ?_;clear Y2
    refine Y3.t _ (ex_move rfl (Y3.f 52)) fun _ Y4 => ?_;clear Y3
    refine vl true (.bool true) (want_t9 rfl rfl (Y4.a 53 rfl)) (fun hc => ex_move rfl (Y4.f 4)) rfl Y4.z (by decide) (Y4.k fun Y5 Y6 => ?_);clear Y4
    refine Y6.t (.bool true) (ex_andT9 rfl (Y6.a 53 rfl) (Y6.a 54 rfl)) fun _ Y7 => ?_;clear Y6
    refine Y7.t _ (ex_move rfl (Y7.f 55)) fun _ Y8 => ?_;clear Y7
    refine vl true (.bool false) (want_t9 rfl rfl (Y8.a 56 rfl)) (fun hc => ex_move rfl (Y8.f 7)) rfl Y8.z (by decide) (Y8.k fun Y9 Yba => ?_);clear Y8;refine vl true (.bool true) (want_t9 rfl rfl (Yba.a 56 rfl)) (fun hc => ex_not rfl (Yba.f 57)) rfl Yba.z (by decide) (Yba.k fun Ybb Ybc => ?_);clear Yba
    refine Ybc.t (.bool true) (ex_andT9 rfl (Ybc.a 56 rfl) (Ybc.a 58 rfl)) fun _ Ybd => ?_;clear Ybc
    refine Ybd.t _ (ex_move rfl (Ybd.f 59)) fun _ Ybe => ?_;clear Ybd
    refine vl true (.bool false) (want_t9 rfl rfl (Ybe.a 60 rfl)) (fun hc => ex_move rfl (Ybe.f 10)) rfl Ybe.z (by decide) (Ybe.k fun Ybf Ybg => ?_);clear Ybe;refine vl true (.bool true) (want_t9 rfl rfl (Ybg.a 60 rfl)) (fun hc => ex_not rfl (Ybg.f 61)) rfl Ybg.z (by decide) (Ybg.k fun Ybh Ybi => ?_);clear Ybg
    refine Ybi.t (.bool true) (ex_andT9 rfl (Ybi.a 60 rfl) (Ybi.a 62 rfl)) fun _ Ybj => ?_;clear Ybi
    refine Ybj.t _ (ex_move rfl (Ybj.f 63)) fun _ Ybk => ?_;clear Ybj
    refine vl true (.pointer (some ⟨q3,0,none⟩)) (want_t9 rfl rfl (Ybk.a 64 rfl)) (fun hc => ex_fa rfl (Ybk.f 3) (faS0 _ _)) rfl Ybk.z (by decide) (Ybk.k fun Ybl Ybm => ?_);clear Ybk;refine vl true (.int .i64 t.self) (want_t9 rfl rfl (Ybm.a 64 rfl)) (fun hc => ex_ld rfl (Ybm.f 65) (ldI8 (HT3.cell 0 _ rfl))) rfl Ybm.z (by decide) (Ybm.k fun Ybn Ybo => ?_);clear Ybm;refine vl true (.bool true) (want_t9 rfl rfl (Ybo.a 64 rfl)) (fun hc => ex_bin rfl (Ybo.f 66) rfl (eqlI9 _ _ _ _ hself _)) rfl Ybo.z (by decide) (Ybo.k fun Ybp Ybq => ?_);clear Ybo
    refine Ybq.t (.bool true) (ex_andT9 rfl (Ybq.a 64 rfl) (Ybq.a 67 rfl)) fun _ Ybr => ?_;clear Ybq
    refine Ybr.t _ (ex_move rfl (Ybr.f 68)) fun _ Ybs => ?_;clear Ybr
    refine vl true (.pointer (some ⟨q3,6,none⟩)) (want_t9 rfl rfl (Ybs.a 69 rfl)) (fun hc => ex_fa rfl (Ybs.f 3) (faS6 _ _)) rfl Ybs.z (by decide) (Ybs.k fun Ybt Ybu => ?_);clear Ybs;refine vl true (.slice t.va t.V.length t.vc) (want_t9 rfl rfl (Ybu.a 69 rfl)) (fun hc => ex_ld rfl (Ybu.f 70) (ldV8 (HT3.cell 6 _ rfl))) rfl Ybu.z (by decide) (Ybu.k fun Ybv Ybw => ?_);clear Ybu;refine vl true (.int .i64 (t.V.length : Int)) (want_t9 rfl rfl (Ybw.a 69 rfl)) (fun hc => ex_lenV8 rfl rfl (Ybw.f 71)) rfl Ybw.z (by decide) (Ybw.k fun Ybx Yby => ?_);clear Ybw;refine vl true (.bool true) (want_t9 rfl rfl (Yby.a 69 rfl)) (fun hc => ex_bin rfl (Yby.f 72) rfl (eqlI9 _ _ _ _ hlen _)) rfl Yby.z (by decide) (Yby.k fun Ybz Yb0 => ?_);clear Yby
    refine Yb0.t (.bool true) (ex_andT9 rfl (Yb0.a 69 rfl) (Yb0.a 73 rfl)) fun _ Yb1 => ?_;clear Yb0
    refine Yb1.t _ (ex_move rfl (Yb1.f 74)) fun _ Yb2 => ?_;clear Yb1
    refine vl true (.pointer (some ⟨q3,6,none⟩)) (want_t9 rfl rfl (Yb2.a 75 rfl)) (fun hc => ex_fa rfl (Yb2.f 3) (faS6 _ _)) rfl Yb2.z (by decide) (Yb2.k fun Yb3 Yb4 => ?_);clear Yb2;refine vl true (.slice t.va t.V.length t.vc) (want_t9 rfl rfl (Yb4.a 75 rfl)) (fun hc => ex_ld rfl (Yb4.f 76) (ldV8 (HT3.cell 6 _ rfl))) rfl Yb4.z (by decide) (Yb4.k fun Yb5 Yb6 => ?_);clear Yb4;refine vl true (.pointer (some ⟨qv,ov,none⟩)) (want_t9 rfl rfl (Yb6.a 75 rfl)) (fun hc => ex_ix rfl (Yb6.f 77) rfl (hix _)) rfl Yb6.z (by decide) (Yb6.k fun Yb7 Yb8 => ?_);clear Yb6;refine vl true (.pointer (some ⟨qv,ov + 1,none⟩)) (want_t9 rfl rfl (Yb8.a 75 rfl)) (fun hc => ex_fa rfl (Yb8.f 78) (faD9_1 _ _ _)) rfl Yb8.z (by decide) (Yb8.k fun Yb9 Yca => ?_);clear Yb8;refine vl true (.int .u64 4) (want_t9 rfl rfl (Yca.a 75 rfl)) (fun hc => ex_ld rfl (Yca.f 79) (ldU9 hc1)) rfl Yca.z (by decide) (Yca.k fun Ycb Ycc => ?_);clear Yca;refine vl true (.bool true) (want_t9 rfl rfl (Ycc.a 75 rfl)) (fun hc => ex_bin rfl (Ycc.f 80) rfl (eqlU9 _ _ _ _ rfl _)) rfl Ycc.z (by decide) (Ycc.k fun Ycd Yce => ?_);clear Ycc
    refine Yce.t (.bool true) (ex_andT9 rfl (Yce.a 75 rfl) (Yce.a 81 rfl)) fun _ Ycf => ?_;clear Yce
    refine Ycf.t _ (ex_assign rfl (Ycf.f 82)) fun _ Ycg => ?_;clear Ycf
    have hz:=Ycg.z;have s0:=Ycg.a 0 rfl;clear Ycg;refine wpList_nil ?_
    go_wp2
    refine bodyPost_ret (results_tmp rfl _ _ _) rfl ⟨?_,hB⟩;rw [getD_of s0]
    first | done | rfl
end Go.Proofs.YtjcedofmljkhfaaGreatDoor
