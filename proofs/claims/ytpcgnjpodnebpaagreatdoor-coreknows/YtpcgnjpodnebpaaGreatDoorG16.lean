import Derived.Test.YtpcgnjpodnebpaaGreatDoorG15
set_option maxRecDepth 100000
set_option linter.unusedVariables false
set_option linter.unusedSimpArgs false
set_option maxHeartbeats 8000000
namespace Go.Proofs.YtpcgnjpodnebpaaGreatDoor
open Go.RowKit Go.Maps Go.Shelf
open Classical
theorem ex_mk9 {o : Oper} {ρ : Operand → Value} {s : TypeId} {x y : Operand} {X Y V : Value} {w w' : World} (ho : o.op = .makeSlice s x y) (hx : ρ x = X) (hy : ρ y = Y) (hr : (Instr.makeSlice s X Y).run Tryz.prog w = .ok V w') : (execOp ρ o).run Tryz.prog w = .ok (.value V) w':=by
 unfold execOp
 simp only [ho,hx,hy,Sem.run_bind,hr,Result.andThen_ok]
 rfl
theorem mkD9 (n : Nat) (hn : n ≤ 7) (w : World) : ∃ w',(Instr.makeSlice 27 (.int .i64 (n : Int)) (.int .i64 (n : Int))).run Tryz.prog w = .ok (.slice (some ⟨w.heap.size,0,none⟩) n n) w'∧OwnY yD w.heap.size w' (.slice (some ⟨w.heap.size,0,none⟩) n n) (List.replicate n (0,0))∧Below w.heap.size w w':=by
 obtain ⟨zv,hinfo,hzc⟩:=kD.info;obtain ⟨i0,hi,hz0,hz1,hz2⟩:=info_parts hinfo;have hr:=run_make (P:=Tryz.prog) w yD.ST yD.T i0 zv kD.und hi hz0 .i64 .i64 n n (by omega) (Int.le_refl _) (room_int hz2 (by show n * 16 ≤ _;omega)) (by omega);rw [Int.toNat_natCast,hz1] at hr;refine ⟨_,hr,?_,BR.alloc LR _⟩
 unfold OwnY at *
 rw [List.length_replicate,show List.replicate n ((0 : Int),(0 : Int)) = List.replicate n yD.z from rfl,← madeY kD hzc]
 exact World.ownsRow_lit w _ n LR (by unfold maxLen;omega) (size_madeCells _ _)
theorem results_sta2_9 {fn : Func} {i j : Tmp} {q : Nat} {t : Sta} {x : Value} {tmps : Array Value} {w : World} (h : fn.results = #[.cell i 33,.tmp j]) (hq : tmps.getD i undef = .pointer (some ⟨q,0,none⟩)) (hj : tmps.getD j undef = x) (hb : SB7 w q t) : (results fn tmps).run Tryz.prog w = .ok (.tuple #[t.val,x]) w:=by
 have:=run_loadVar_mid (P:=Tryz.prog) w q 0 33 t.cs _ (fun j v hv => by rw [Nat.zero_add];exact hb.cell j v hv) Tryz.underlying33 rfl (by kernel_rfl);simp only [results,h];simp only [Array.getD_eq_getD_getElem?] at hq hj
 simp [Sem.run_bind,Result.andThen,hq,hj,asAddr,this]
 rfl
def fvE9 (c : Cg) (x : Int) : Int:=if c.okB = true then (if inB x 0 (c.nd - 1) = true then 0 else 3) else 1
def Fv9 (B : Nat) (c : Cg) (x : Int) (v : Value) (w : World) : Prop:=(fvE9 c x ≠ 0∧v = .slice none 0 0) ∨ (fvE9 c x = 0∧∃ g n,c.nd = ((n : Nat) : Int)∧v = .slice (some ⟨g,0,none⟩) n n∧OwnY yD B w v (List.replicate n (0,0)))
def vst9 (x st : Int) (g n : Nat) (V : List (Int × Int)) : Sta:=⟨x,st,0,0,none,0,[],0,some ⟨g,0,none⟩,n,V,0,none,0,[],none,0,[],none,0,[],none,0,[]⟩
def fst9 (x st : Int) (g n : Nat) : Sta:=vst9 x st g n (List.replicate n (0,0))
theorem vst9_in {w : World} {x st : Int} {g n : Nat} {V : List (Int × Int)} (h : SlY yD w (some ⟨g,0,none⟩) V.length n V) : (vst9 x st g n V).In w:=⟨nil_sl8 _ _,h,nil_sl8 _ _,nil_sl8 _ _,nil_sl8 _ _,nil_sl8 _ _,(fun x h => by cases h),(fun x h => by cases h)⟩
theorem fst9_in {w : World} {x st : Int} {g n : Nat} (h : SlY yD w (some ⟨g,0,none⟩) n n (List.replicate n (0,0))) : (fst9 x st g n).In w:=vst9_in (by rw [List.length_replicate];exact h)
def Fs9 (B : Nat) (c : Cg) (x st : Int) (t : Sta) (w : World) : Prop:=(fvE9 c x ≠ 0∧t = zS8) ∨ (fvE9 c x = 0∧∃ g n,c.nd = ((n : Nat) : Int)∧t = fst9 x st g n∧OwnY yD B w (.slice (some ⟨g,0,none⟩) n n) (List.replicate n (0,0)))
theorem bdS9 (x k : Int) (g n : Nat) (V : List (Int × Int)) (w : World) : (Instr.build 33 #[(0,.int .i64 x),(1,.int .i64 k),(6,.slice (some ⟨g,0,none⟩) V.length n)]).run Tryz.prog w = .ok (vst9 x k g n V).val w:=by
 unfold vst9 Sta.val
 go_simp
 first | done | rfl
theorem bdF9 (x k : Int) (g n : Nat) (w : World) : (Instr.build 33 #[(0,.int .i64 x),(1,.int .i64 k),(6,.slice (some ⟨g,0,none⟩) n n)]).run Tryz.prog w = .ok (fst9 x k g n).val w:=by
 have:=bdS9 x k g n (List.replicate n (0,0)) w;rw [List.length_replicate] at this
 exact this
theorem new9 (n : Nat) (w : World) (hn : 1 ≤ n∧n ≤ 7) : Calls Tryz.prog 70 #[.int .i64 (n : Int)] w fun e w' => ∃ g,e = .returned (.tuple #[.slice (some ⟨g,0,none⟩) n n,.int .i64 0])∧OwnY yD w.heap.size w' (.slice (some ⟨g,0,none⟩) n n) (List.replicate n (0,0))∧Below w.heap.size w w':=by
 go_enter Tryz.func70,Tryz.ntmps70
 go_upto_region 0 with fail
 refine WL ?_;refine vl_gen (fun T => T.size = 9∧T[0]? = some (gw true (.int .i64 (n : Int)))) ⟨rfl,rfl⟩ (fun Z0 ⟨hz,s0⟩ => ?_);have hB : Below w.heap.size w w:=BR;have hv0 : Below w.heap.size w w:=BR;have hin : inB (n : Int) 1 7 = true:=inB_iff.2 (by omega);have Ya:=(Rp.nil hz).cons s0;clear hz s0
 refine Ya.t (.slice none 0 0) (ex_assign rfl rfl) fun _ Yb => ?_;clear Ya
 refine Yb.t (.int .i64 0) (ex_assign rfl rfl) fun _ Yc => ?_;clear Yb
 have hz:=Yc.z;have s0:=Yc.a 0 rfl;clear Yc;refine WE ?_
 go_upto_region 1 with fail
 refine WL ?_;have Yd:=(Rp.nil hz).cons s0;clear hz s0
 refine Yd.t _ (ex_move rfl (Yd.f 0)) fun _ Ye => ?_;clear Yd
 refine vcall true (.bool (inB ((n : Int)) 1 7)) WN (fun hc => ex_call rfl (by simp only [LA,LB,LC,(Ye.f 4),evc] <;> rfl) rfl) (fun hc => groupmay9 ((n : Int)) w) rfl Ye.z (by decide) (Ye.kc fun Yf x1 hb Yg => ?_);clear Ye;have hx1:=hv0.trans (hb.mono hv0.size);clear hb
 refine Yg.t (.bool (!(inB ((n : Int)) 1 7))) (ex_not rfl (Yg.f 5)) fun _ Yh => ?_;clear Yg
 have hz:=Yh.z;have s0:=Yh.a 0 rfl;have s6:=Yh.a 6 rfl;clear Yh;refine WE ?_
 go_upto_region 3 with fail
 refine wp_cond_false ((ev s6 rfl).trans (congrArg Value.bool (show ((!(inB ((n : Int)) 1 7))) = false by rw [hin];rfl))) ?_;clear s6;have hB:=hB.trans (hx1.mono (by omega));obtain ⟨y,hmk,oY,bY⟩:=mkD9 n hn.2 x1;have zz0:=hx1.size
 go_upto_region 3 with fail
 refine WL ?_;have Yi:=(Rp.nil hz).cons s0;clear hz s0
 refine Yi.t _ (ex_move rfl (Yi.f 0)) fun _ Yj => ?_;clear Yi
 refine vw (.slice (some ⟨x1.heap.size,0,none⟩) n n) y WN (ex_mk9 rfl (Yj.f 7) (Yj.f 7) hmk) rfl Yj.z (by decide) (Yj.k fun Yk Yl => ?_);clear Yj
 refine Yl.t _ (ex_assign rfl (Yl.f 8)) fun _ Ym => ?_;clear Yl
 refine Ym.t (.int .i64 0) (ex_assign rfl rfl) fun _ Yn => ?_;clear Ym
 have hz:=Yn.z;have s2:=Yn.a 2 rfl;have s3:=Yn.a 3 rfl;clear Yn;refine WE ?_;have hB9:=hide (hB.trans (bY.mono (by omega)))
 go_wp2
 refine bodyPost_ret (results_two9 rfl (getD_of s2) (getD_of s3)) rfl ?_
 exact ⟨_,rfl,oY.low (by omega),hB9.out⟩
theorem firstvector9 (c : Cg) (x : Int) (w : World)  : Calls Tryz.prog 43 #[c.val,.int .i64 x] w fun e w' => ∃ v,e = .returned (.tuple #[v,.int .i64 (fvE9 c x)])∧Fv9 w.heap.size c x v w'∧Below w.heap.size w w':=by
 go_enter Tryz.func43,Tryz.ntmps43
 go_upto_region 0 with fail
 refine WL ?_;refine vl_gen (fun T => T.size = 22∧T[0]? = some (gw true (c.val))∧T[1]? = some (gw true (.int .i64 x))) ⟨rfl,rfl,rfl⟩ (fun Z0 ⟨hz,s0,s1⟩ => ?_)
 obtain ⟨w1,hw1⟩ : ∃ y,y = w.alloc (.cells c.cs.toArray 23):=⟨_,rfl⟩
 have hb : Below w.heap.size w w1:=by rw [hw1];exact BR.alloc LR _
 have hs1 : w1.heap.size = w.heap.size + 1:=by rw [hw1];simp
 have HC : CB7 w1 (w.heap.size) c:=by rw [hw1];exact BX7.new _ _ _
 refine vw (.pointer (some ⟨w.heap.size,0,none⟩)) w1 WN (ex_box8 rfl (ev s0 rfl) (by rw [hw1];exact bxC7 _ _)) rfl hz (by decide) (fun Z1 zz kk s2x => ?_);replace s1:=ku s1;clear kk hz s0 hw1;have hz:=zz;have s2:=s2x;clear zz s2x;have hB:=hb;clear hb;have hv0 : Below w1.heap.size w1 w1:=BR;have Ya:=((Rp.nil hz).cons s1).cons s2;clear hz s1 s2
 refine Ya.t (.slice none 0 0) (ex_assign rfl rfl) fun _ Yb => ?_;clear Ya
 refine Yb.t (.int .i64 0) (ex_assign rfl rfl) fun _ Yc => ?_;clear Yb
 have hz:=Yc.z;have s1:=Yc.a 1 rfl;have s2:=Yc.a 2 rfl;clear Yc;refine WE ?_
 go_upto_region 1 with fail
 refine WL ?_;have Yd:=((Rp.nil hz).cons s1).cons s2;clear hz s1 s2
 refine Yd.t _ (ex_ld rfl (Yd.f 2) (CB7.ld (HC.bel hv0))) fun _ Ye => ?_;clear Yd
 refine vcall true (.int .i64 c.er) WN (fun hc => ex_call rfl (by simp only [LA,LB,LC,(Ye.f 7),evc] <;> rfl) rfl) (fun hc => checkconfig8 c w1) rfl Ye.z (by decide) (Ye.kc fun Yf x1 hb Yg => ?_);clear Ye;have hx1:=hv0.trans (hb.mono hv0.size);clear hb
 refine Yg.t (.bool (!decide (c.er = 0))) (ex_bin rfl (Yg.f 8) rfl (neqN8 _ _ _ _ _)) fun _ Yh => ?_;clear Yg
 refine Yh.t _ (ex_assign rfl (Yh.f 9)) fun _ Yi => ?_;clear Yh
 have hz:=Yi.z;have s1:=Yi.a 1 rfl;have s2:=Yi.a 2 rfl;have s6:=Yi.a 6 rfl;clear Yi;refine WE ?_
 go_upto_region 2 with fail
 cases eo : c.okB
 ·refine wp_cond_true ((ev s6 rfl).trans (by unfold Cg.er;rw [eo];rfl)) ?_
  clear s6
  go_upto_region 2 with fail
  refine WL ?_;have Yj:=((Rp.nil hz).cons s1).cons s2;clear hz s1 s2
  refine Yj.t (.slice none 0 0) (ex_assign rfl rfl) fun _ Yk => ?_;clear Yj
  refine Yk.t (.int .i64 1) (ex_assign rfl rfl) fun _ Yl => ?_;clear Yk
  have hz:=Yl.z;have s4:=Yl.a 4 rfl;have s5:=Yl.a 5 rfl;clear Yl;refine WE ?_;have hB9:=hide (hB.trans (hx1.mono (by omega)))
  go_wp2
  refine bodyPost_ret (results_two9 rfl (getD_of s4) (getD_of s5)) rfl ?_
  have hE : fvE9 c x = 1:=by unfold fvE9;rw [eo];rfl
  rw [hE]
  exact ⟨_,rfl,.inl ⟨by rw [hE];omega,rfl⟩,hB9.out⟩
 ·refine wp_cond_false ((ev s6 rfl).trans (by unfold Cg.er;rw [eo];rfl)) ?_
  clear s6;obtain ⟨n1,n2,n3⟩:=Cg.nd_ok eo
  go_upto_region 3 with fail
  refine WL ?_;have Ym:=((Rp.nil hz).cons s1).cons s2;clear hz s1 s2
  refine Ym.t _ (ex_move rfl (Ym.f 1)) fun _ Yn => ?_;clear Ym
  refine Yn.t _ (ex_ld rfl (Yn.f 2) (CB7.ld (HC.bel hx1))) fun _ Yo => ?_;clear Yn
  refine vcall true (.int .i64 c.nd) WN (fun hc => ex_call rfl (by simp only [LA,LB,LC,(Yo.f 12),evc] <;> rfl) rfl) (fun hc => nodes8 c x1) rfl Yo.z (by decide) (Yo.kc fun Yp x2 hb Yq => ?_);clear Yo;have hx2:=hx1.trans (hb.mono hx1.size);clear hb
  refine Yq.t (.int .i64 (c.nd - 1)) (ex_bin rfl (Yq.f 13) rfl (subD8 _ _ c.nd 1 (c.nd - 1) (by rw [IntKind.wrap_i64];omega) _)) fun _ Yr => ?_;clear Yq
  refine vcall true (.bool (inB (x) (0) ((c.nd - 1)))) WN (fun hc => ex_call rfl (by simp only [LA,LB,LC,(Yr.f 11),(Yr.f 14),evc] <;> rfl) rfl) (fun hc => within8 (x) (0) ((c.nd - 1)) x2) rfl Yr.z (by decide) (Yr.kc fun Ys x3 hb Yt => ?_);clear Yr;have hx3:=hx2.trans (hb.mono hx2.size);clear hb
  refine Yt.t (.bool (!(inB (x) (0) ((c.nd - 1))))) (ex_not rfl (Yt.f 15)) fun _ Yu => ?_;clear Yt
  refine Yu.t _ (ex_assign rfl (Yu.f 16)) fun _ Yv => ?_;clear Yu
  have hz:=Yv.z;have s1:=Yv.a 1 rfl;have s2:=Yv.a 2 rfl;have s10:=Yv.a 10 rfl;clear Yv;refine WE ?_
  go_upto_region 4 with fail
  cases ei : inB x 0 (c.nd - 1)
  ·refine wp_cond_true ((ev s10 rfl).trans (by rw [ei];rfl)) ?_
   clear s10
   go_upto_region 4 with fail
   refine WL ?_;have Yw:=((Rp.nil hz).cons s1).cons s2;clear hz s1 s2
   refine Yw.t (.slice none 0 0) (ex_assign rfl rfl) fun _ Yx => ?_;clear Yw
   refine Yx.t (.int .i64 3) (ex_assign rfl rfl) fun _ Yy => ?_;clear Yx
   have hz:=Yy.z;have s4:=Yy.a 4 rfl;have s5:=Yy.a 5 rfl;clear Yy;refine WE ?_;have hB9:=hide (hB.trans (hx3.mono (by omega)))
   go_wp2
   refine bodyPost_ret (results_two9 rfl (getD_of s4) (getD_of s5)) rfl ?_
   have hE : fvE9 c x = 3:=by unfold fvE9;rw [eo,ei];rfl
   rw [hE]
   exact ⟨_,rfl,.inl ⟨by rw [hE];omega,rfl⟩,hB9.out⟩
  refine wp_cond_false ((ev s10 rfl).trans (by rw [ei];rfl)) ?_;clear s10 s1;obtain ⟨n,hn⟩:=Int.eq_ofNat_of_zero_le (show 0 ≤ c.nd by omega)
  go_upto_region 5 with fail
  refine WL ?_;have Yz:=(Rp.nil hz).cons s2;clear hz s2
  refine Yz.t _ (ex_ld rfl (Yz.f 2) (CB7.ld (HC.bel hx3))) fun _ Y0 => ?_;clear Yz
  refine vcall true (.int .i64 c.nd) WN (fun hc => ex_call rfl (by simp only [LA,LB,LC,(Y0.f 17),evc] <;> rfl) rfl) (fun hc => nodes8 c x3) rfl Y0.z (by decide) (Y0.kc fun Y1 x4 hb Y2 => ?_);clear Y0;have hx4:=hx3.trans (hb.mono hx3.size);clear hb;refine Y2.c (ex_call rfl (by simp only [LA,LB,LC,(Y2.f 18),evc] <;> rfl) rfl) (hn.symm ▸ new9 n x4 (by omega)) ?_;rintro e y9 ⟨g,rfl,oV,bV⟩;refine ⟨_,rfl,Y2.k fun Y3 Y4 => ?_⟩;clear Y2;have zv:=hx4.size;have zv2:=bV.size;have hB9:=hide ((hB.trans (hx4.mono (by omega))).trans (bV.mono (by omega)))
  refine Y4.t _ (ex_ext8 rfl (Y4.f 19) rfl) fun _ Y5 => ?_;clear Y4
  refine Y5.t _ (ex_ext8 rfl (Y5.f 19) rfl) fun _ Y6 => ?_;clear Y5
  refine Y6.t _ (ex_assign rfl (Y6.f 20)) fun _ Y7 => ?_;clear Y6
  refine Y7.t _ (ex_assign rfl (Y7.f 21)) fun _ Y8 => ?_;clear Y7
  have hz:=Y8.z;have s4:=Y8.a 4 rfl;have s5:=Y8.a 5 rfl;clear Y8;refine WE ?_
  go_wp2
  refine bodyPost_ret (results_two9 rfl (getD_of s4) (getD_of s5)) rfl ?_
  have hE : fvE9 c x = 0:=by unfold fvE9;rw [eo,ei];rfl
  rw [hE]
  exact ⟨_,rfl,.inr ⟨hE,g,n,hn,rfl,oV.low (by omega)⟩,hB9.out⟩
theorem first9 (c : Cg) (x : Int) (w : World)  : Calls Tryz.prog 16 #[c.val,.int .i64 x] w fun e w' => ∃ t : Sta,e = .returned (.tuple #[t.val,.int .i64 (fvE9 c x)])∧t.In w'∧Fs9 w.heap.size c x 1 t w'∧Below w.heap.size w w':=by
 go_enter Tryz.func16,Tryz.ntmps16
 go_upto_region 0 with fail
 refine WL ?_;refine vl_gen (fun T => T.size = 21∧T[0]? = some (gw true (c.val))∧T[1]? = some (gw true (.int .i64 x))) ⟨rfl,rfl,rfl⟩ (fun Z0 ⟨hz,s0,s1⟩ => ?_)
 obtain ⟨w1,hw1⟩ : ∃ y,y = w.alloc (.cells c.cs.toArray 23):=⟨_,rfl⟩
 have hb : Below w.heap.size w w1:=by rw [hw1];exact BR.alloc LR _
 have hs1 : w1.heap.size = w.heap.size + 1:=by rw [hw1];simp
 have HC : CB7 w1 (w.heap.size) c:=by rw [hw1];exact BX7.new _ _ _
 refine vw (.pointer (some ⟨w.heap.size,0,none⟩)) w1 WN (ex_box8 rfl (ev s0 rfl) (by rw [hw1];exact bxC7 _ _)) rfl hz (by decide) (fun Z1 zz kk s2x => ?_);replace s1:=ku s1;clear kk hz s0 hw1;have hz:=zz;have s2:=s2x;clear zz s2x;have hB:=hb;clear hb;have hv0 : Below w1.heap.size w1 w1:=BR
 obtain ⟨w2,hw2⟩ : ∃ y,y = w1.alloc (.cells zS8.cs.toArray 33):=⟨_,rfl⟩
 have hb : Below w1.heap.size w1 w2:=by rw [hw2];exact BR.alloc LR _
 have HZ : SB7 w2 (w.heap.size + 1) zS8:=by rw [hw2,← hs1];exact BX7.new _ _ _
 have hz2 : w2.heap.size = w.heap.size + 2:=by rw [hw2];simp;omega
 have Ya:=((Rp.nil hz).cons s1).cons s2;clear hz s1 s2;refine vw (.pointer (some ⟨w.heap.size + 1,0,none⟩)) w2 WN (ex_al rfl (by rw [hw2,← hs1];exact al12 _)) rfl Ya.z (by decide) (Ya.k fun Yb Yc => ?_);clear Ya
 refine Yc.t (.int .i64 0) (ex_assign rfl rfl) fun _ Yd => ?_;clear Yc
 have hz:=Yd.z;have s1:=Yd.a 1 rfl;have s2:=Yd.a 2 rfl;have s4:=Yd.a 4 rfl;clear Yd;refine WE ?_;have hB:=hB.trans (hb.mono (by omega));have HC:=HC.bel hb;clear hb hw2 hv0;have hv0 : Below w2.heap.size w2 w2:=BR
 go_upto_region 1 with fail
 refine WL ?_;have Ye:=(((Rp.nil hz).cons s1).cons s2).cons s4;clear hz s1 s2 s4
 refine Ye.t _ (ex_ld rfl (Ye.f 2) (CB7.ld (HC.bel hv0))) fun _ Yf => ?_;clear Ye
 refine Yf.t _ (ex_move rfl (Yf.f 1)) fun _ Yg => ?_;clear Yf
 refine Yg.c (ex_call rfl (by simp only [LA,LB,LC,(Yg.f 9),(Yg.f 10),evc] <;> rfl) rfl) (firstvector9 c x w2) ?_;rintro e y2 ⟨v,rfl,hfv,b2⟩;refine ⟨_,rfl,Yg.k fun Yh Yi => ?_⟩;clear Yg;have z2:=b2.size;have HZ:=HZ.bel b2;have hB:=hB.trans (b2.mono (by omega))
 refine Yi.t _ (ex_move rfl (Yi.f 11)) fun _ Yj => ?_;clear Yi
 refine Yj.t _ (ex_ext8 rfl (Yj.f 8) rfl) fun _ Yk => ?_;clear Yj
 refine Yk.t _ (ex_ext8 rfl (Yk.f 8) rfl) fun _ Yl => ?_;clear Yk
 refine Yl.t _ (ex_assign rfl (Yl.f 12)) fun _ Ym => ?_;clear Yl
 refine Ym.t _ (ex_assign rfl (Ym.f 13)) fun _ Yn => ?_;clear Ym
 have hz:=Yn.z;have s1:=Yn.a 1 rfl;have s4:=Yn.a 4 rfl;have s6:=Yn.a 6 rfl;have s7:=Yn.a 7 rfl;clear Yn;refine WE ?_
 go_upto_region 2 with fail
 refine WL ?_;have Yo:=((((Rp.nil hz).cons s1).cons s4).cons s6).cons s7;clear hz s1 s4 s6 s7
 refine Yo.t _ (ex_move rfl (Yo.f 7)) fun _ Yp => ?_;clear Yo
 refine Yp.t (.bool (!decide ((fvE9 c x) = 0))) (ex_bin rfl (Yp.f 14) rfl (neqN8 _ _ _ _ _)) fun _ Yq => ?_;clear Yp
 have hz:=Yq.z;have s1:=Yq.a 1 rfl;have s4:=Yq.a 4 rfl;have s6:=Yq.a 6 rfl;have s7:=Yq.a 7 rfl;have s15:=Yq.a 15 rfl;clear Yq;refine WE ?_
 go_upto_region 3 with fail
 cases e15 : decide (fvE9 c x = 0)
 ·refine wp_cond_true ((ev s15 rfl).trans (by rw [e15];rfl)) ?_
  clear s15;have hne:=of_decide_eq_false e15
  go_upto_region 3 with fail
  refine WL ?_;have Yr:=((((Rp.nil hz).cons s1).cons s4).cons s6).cons s7;clear hz s1 s4 s6 s7
  refine Yr.t (zS8.val) (ex_build rfl (bd12 _)) fun _ Ys => ?_;clear Yr
  refine Ys.t _ (ex_move rfl (Ys.f 7)) fun _ Yt => ?_;clear Ys
  refine vs (sets y2 (w.heap.size + 1) 0 (Sta.cs zS8)) WN (ex_st rfl (Yt.f 4) (Yt.f 16) (st12 HZ zS8)) rfl ?_;have HP:=SB7.put HZ zS8;have UP:=upd12 y2 (w.heap.size + 1) zS8
  obtain ⟨u9,hu9⟩ : ∃ v,v = sets y2 (w.heap.size + 1) 0 (Sta.cs zS8):=⟨_,rfl⟩
  rw [← hu9] at HP UP ⊢;clear hu9;have hB9:=hide (hB.trans (UP.below (by omega) (fun k hk => by omega)))
  refine Yt.t _ (ex_assign rfl (Yt.f 17)) fun _ Yu => ?_;clear Yt
  have hz:=Yu.z;have s4:=Yu.a 4 rfl;have s5:=Yu.a 5 rfl;clear Yu;refine WE ?_
  go_wp2
  refine bodyPost_ret (results_sta2_9 rfl (getD_of s4) (getD_of s5) HP) rfl ?_
  exact ⟨zS8,rfl,zS8_in _,.inl ⟨hne,rfl⟩,hB9.out⟩
 ·refine wp_cond_false ((ev s15 rfl).trans (by rw [e15];rfl)) ?_
  clear s15 s7;have hE:=of_decide_eq_true e15
  rcases hfv with ⟨h0,_⟩ | ⟨_,g,n,hn,rfl,oV⟩
  ·exact absurd hE h0
  go_upto_region 4 with fail
  refine WL ?_;have Yv:=(((Rp.nil hz).cons s1).cons s4).cons s6;clear hz s1 s4 s6
  refine Yv.t _ (ex_move rfl (Yv.f 1)) fun _ Yw => ?_;clear Yv
  refine Yw.t _ (ex_move rfl (Yw.f 6)) fun _ Yx => ?_;clear Yw
  refine Yx.t (Sta.val (fst9 x 1 g n)) (ex_buildP rfl (by simp only [LA,LB,LC,(Yx.f 18),(Yx.f 19),evc] <;> rfl) (bdF9 _ _ _ _ _)) fun _ Yy => ?_;clear Yx
  refine vs (sets y2 (w.heap.size + 1) 0 (Sta.cs (fst9 x 1 g n))) WN (ex_st rfl (Yy.f 4) (Yy.f 20) (st12 HZ (fst9 x 1 g n))) rfl ?_;have HP:=SB7.put HZ (fst9 x 1 g n);have UP:=upd12 y2 (w.heap.size + 1) (fst9 x 1 g n)
  obtain ⟨u9,hu9⟩ : ∃ v,v = sets y2 (w.heap.size + 1) 0 (Sta.cs (fst9 x 1 g n)):=⟨_,rfl⟩
  rw [← hu9] at HP UP ⊢;clear hu9;have hB9:=hide (hB.trans (UP.below (by omega) (fun k hk => by omega)))
  refine Yy.t (.int .i64 0) (ex_assign rfl rfl) fun _ Yz => ?_;clear Yy
  have hz:=Yz.z;have s4:=Yz.a 4 rfl;have s5:=Yz.a 5 rfl;clear Yz;refine WE ?_
  go_wp2
  refine bodyPost_ret (results_sta2_9 rfl (getD_of s4) (getD_of s5) HP) rfl ?_;rw [hE];have oV2:=oV.upd1 UP (fun k hk e => by have:=(oV.blk k hk).1;omega)
  exact ⟨(fst9 x 1 g n),rfl,fst9_in (oV2.sl' kD),.inr ⟨hE,g,n,hn,rfl,oV2.low (by omega)⟩,hB9.out⟩
theorem Sta.Alike9.bmem {s u : Sta} (h : s.Alike9 u) {y : Bl} (hy : y ∈ u.B) : ∃ x ∈ s.B,Bl.Like x y:=by
 obtain ⟨k,hk⟩:=List.mem_iff_getElem?.1 hy
 have hkl : k < s.B.length:=by rw [← h.b.1];exact (List.getElem?_eq_some_iff.1 hk).1
 exact ⟨_,List.getElem_mem hkl,h.b.2 k _ y (List.getElem?_eq_getElem hkl) hk⟩
theorem Sta.Alike9.nmem {s u : Sta} (h : s.Alike9 u) {y : An} (hy : y ∈ u.N) : ∃ x ∈ s.N,An.Like x y:=by
 obtain ⟨k,hk⟩:=List.mem_iff_getElem?.1 hy
 have hkl : k < s.N.length:=by rw [← h.n.1];exact (List.getElem?_eq_some_iff.1 hk).1
 exact ⟨_,List.getElem_mem hkl,h.n.2 k _ y (List.getElem?_eq_getElem hkl) hk⟩
theorem Sta.Alike9.fit {s u : Sta} (h : s.Alike9 u) (hF : s.Fit) : u.Fit:=by
 refine ⟨by rw [h.l];exact hF.le,fun y hy => ?_,fun y hy => ?_,by rw [h.l];exact hF.ll,by rw [h.v];exact hF.vl,by rw [h.a];exact hF.al,by rw [h.m];exact hF.ml,by rw [h.b.1];exact hF.bl,by rw [h.n.1];exact hF.nl⟩
 ·obtain ⟨x,hx,k⟩:=h.bmem hy
  rw [k.2.2.2.2.2]
  exact hF.be x hx
 ·obtain ⟨x,hx,k⟩:=h.nmem hy
  rw [k.2.2.2.2.2]
  exact hF.ne x hx
def c39 : Cg:=⟨1,4,6,false⟩
def zG9 : Mg:=⟨0,0,0,⟨0,0,⟨0,0,⟨#[]⟩⟩⟩,(0,0,⟨#[]⟩),0,0,0,(0,0)⟩
def cm9 (a b : Int) (g : Nat) : Ms9:=⟨{ zG9 with k:=5 },none,0,[],some ⟨g,0,none⟩,3,[(0,a),(0,b),(0,0)]⟩
theorem cm9_fit (a b : Int) (g : Nat) : (cm9 a b g).Fit:=⟨fun e h => (by cases h),⟨(by show (Lit.int .i64 0).wf = true;decide),(by show (Lit.int .i64 0).wf = true;decide),⟨(by show (Lit.int .i64 0).wf = true;decide),(by show (Lit.int .i64 0).wf = true;decide),by show (ByteArray.mk #[]).size ≤ maxLen;decide⟩⟩,by show 0 * 48 ≤ 140737488351232;decide,by show 3 * 16 ≤ 140737488351232;decide⟩
theorem kn_al9 {t : Sta} {B : Nat} {s : Sta} {D : List (Int × Int)} {w : World} {x st : Int} {g n : Nat} {V : List (Int × Int)} (hs : (vst9 x st g n V).Alike9 s) (h : t.Kn B s D w) : (vst9 x st g n D).Alike9 t:=by
 have ea : s.A = []:=hs.a;have em : s.M = []:=hs.m;have eb : s.B = []:=List.eq_nil_of_length_eq_zero hs.b.1;have en : s.N = []:=List.eq_nil_of_length_eq_zero hs.n.1;have hb:=h.b;have hn:=h.n;rw [eb] at hb;rw [en] at hn;have tb : t.B = []:=List.eq_nil_of_length_eq_zero hb.1;have tn : t.N = []:=List.eq_nil_of_length_eq_zero hn.1;refine ⟨h.self.trans hs.self,h.st.trans hs.st,h.view.trans hs.view,h.last.trans hs.last,h.commit.trans hs.commit,h.idle.trans hs.idle,h.l.trans hs.l,h.v,?_,?_,⟨by rw [tb];rfl,fun i x y hx hy => ?_⟩,⟨by rw [tn];rfl,fun i x y hx hy => ?_⟩⟩
 ·rw [h.a,ea];rfl
 ·rw [h.m,em];rfl
 ·rw [tb] at hy;cases hy
 ·rw [tn] at hy;cases hy
theorem vst9_fit {x st : Int} {g n : Nat} {V : List (Int × Int)} (h : V.length * 16 ≤ 140737488351232) : (vst9 x st g n V).Fit:=⟨fun e h => (by cases h),fun e h => (by cases h),fun e h => (by cases h),by show 0 * 48 ≤ 140737488351232;decide,h,by show 0 * 32 ≤ 140737488351232;decide,by show 0 * 24 ≤ 140737488351232;decide,by show 0 * 64 ≤ 140737488351232;decide,by show 0 * 64 ≤ 140737488351232;decide⟩
theorem Ad9.in9 {B q : Nat} {c : Cg} {s t : Sta} {m : Ms9} {b : Bool} {w w' : World} (h : Ad9 B c s m t b w) (hi : t.In w) (U : Upd (fun k => k = q) w w') (hq : q < B) : t.In w':=by
 rcases h with ⟨_,rfl,_⟩ | ⟨_,k,lo,_⟩
 ·exact zS8_in _
 ·exact (k.set8 U hq lo).inn
def Z39 : List (Int × Int):=[(0,0),(0,0),(0,0)]
def F39 : List (Int × Int):=[(0,4),(0,0),(0,0)]
theorem ck_z9 (g n : Nat) : (vst9 1 1 g n Z39).ckE c39 = 0:=by rfl
theorem ck_f9 (g n : Nat) : (vst9 1 1 g n F39).ckE c39 = 0:=by rfl
theorem cm_ok9 (a b : Int) (g : Nat) : adM9 c39 (cm9 a b g) = 0:=by rfl
theorem admitC9 (s : Sta) (V D : List (Int × Int)) (a b : Int) (g : Nat) (r : Bool) (w : World) (hal : (vst9 1 1 0 0 V).Alike9 s) (hV : V.length * 16 ≤ 140737488351232) (hck : (vst9 1 1 0 0 V).ckE c39 = 0) (hr : adB9 c39 (vst9 1 1 0 0 V) (cm9 a b g) = r) (hD : adV9 c39 (vst9 1 1 0 0 V) (cm9 a b g) = D)
  (hI : s.In w) (hM : (cm9 a b g).In w) (hT : Tab w) : Calls Tryz.prog 9 #[c39.val,s.val,(cm9 a b g).val] w fun e w' => ∃ t : Sta,e = .returned (.tuple #[t.val,.bool r,.int .i64 0])∧t.In w'∧(vst9 1 1 0 0 D).Alike9 t∧(∀ q w'',q < w.heap.size → Upd (fun k => k = q) w' w'' → t.In w'')∧Below w.heap.size w w':=by
 refine (admit9 c39 s (cm9 a b g) w hI (hal.fit (vst9_fit hV)) hM (cm9_fit a b g) hT).mono ?_;rintro e w' ⟨t,b1,rfl,tin,ha,hb⟩
 have hs : s.ckE c39 = 0:=by rw [ckE_alike9 hal];exact hck
 have hE : adE9 c39 s (cm9 a b g) = 0:=by unfold adE9;rw [if_pos hs];exact cm_ok9 a b g
 have ha':=ha
 have e1 : hear9 s (cm9 a b g) = hear9 (vst9 1 1 0 0 V) (cm9 a b g):=by
  have hv:=hal.v;have hf:=hal.self
  unfold hear9 ovB9 vmB9 mine9
  simp only [hv,hf]
 have e2 : s.self = (vst9 1 1 0 0 V).self:=hal.self
 rcases ha with ⟨h0,_⟩ | ⟨_,k,lo,hb1⟩
 ·exact absurd hE h0
 ·have eb : b1 = r:=by rw [hb1,← hr];unfold adB9;rw [e1,e2]
  have eD : adV9 c39 s (cm9 a b g) = D:=by rw [← hD];unfold adV9;rw [e1,e2,hal.v]
  rw [eD] at k;rw [hE,eb]
  exact ⟨t,rfl,tin,kn_al9 hal k,fun q w'' hq U => ha'.in9 tin U hq,hb⟩
theorem ad1_9 (g : Nat) : adB9 c39 (vst9 1 1 0 0 Z39) (cm9 4 0 g) = true∧adV9 c39 (vst9 1 1 0 0 Z39) (cm9 4 0 g) = F39:=by
 constructor <;> rfl
theorem ad2_9 (g : Nat) : adB9 c39 (vst9 1 1 0 0 F39) (cm9 0 0 g) = false∧adV9 c39 (vst9 1 1 0 0 F39) (cm9 0 0 g) = F39:=by
 constructor <;> rfl
theorem ad3_9 (g : Nat) : adB9 c39 (vst9 1 1 0 0 F39) (cm9 4 3 g) = false∧adV9 c39 (vst9 1 1 0 0 F39) (cm9 4 3 g) = F39:=by
 constructor <;> rfl
def zC9 : Cg:=⟨0,0,0,false⟩
theorem alC9 (w : World) : (Instr.alloc 23 true (.tuple #[])).run Tryz.prog w = .ok (.pointer (some ⟨w.heap.size,0,none⟩)) (w.alloc (.cells zC9.cs.toArray 23)):=by
 go_simp
 first | done | rfl
theorem bdC9 (w : World) : (Instr.build 23 #[(0,.int .i64 1),(1,.int .i64 4),(2,.int .i64 6)]).run Tryz.prog w = .ok c39.val w:=by
 go_simp
 first | done | rfl
theorem stC9 {w : World} {q : Nat} {x : Cg} (h : CB7 w q x) (y : Cg) : (Instr.storeAt 23 (.pointer (some ⟨q,0,none⟩)) y.val).run Tryz.prog w = .ok () (sets w q 0 y.cs):=by
 have:=run_storeAt_mid (P:=Tryz.prog) w q 0 23 y.cs.toArray (fun j hj => ⟨by rw [Nat.zero_add,h.cell j _ (List.getElem?_eq_getElem (show j < x.cs.length from hj))];rfl,by rw [Nat.zero_add];exact h.free j⟩) (by kernel_rfl) (all_oneCell_toArray (by
  intro v hv;simp only [Cg.cs,List.mem_cons,List.not_mem_nil,or_false] at hv
  rcases hv with rfl | rfl | rfl | rfl <;> rfl))
 rw [setCells_sets] at this
 exact this
theorem CB7.put9 {w : World} {q : Nat} {x : Cg} (h : CB7 w q x) (y : Cg) : CB7 (sets w q 0 y.cs) q y:=by
 have h1:=BX7.set h (j:=0) (by simp [Cg.cs]) (.int .i64 y.F);have h2:=BX7.set h1 (j:=1) (by simp [Cg.cs]) (.int .i64 y.R);have h3:=BX7.set h2 (j:=2) (by simp [Cg.cs]) (.int .i64 y.P);have h4:=BX7.set h3 (j:=3) (by simp [Cg.cs]) (.bool y.u)
 exact h4
theorem upd_sets9 (q : Nat) : ∀ (vs : List Value) (i : Nat) (w : World),Upd (fun k => k = q) w (sets w q i vs)
 | [],_,w => Upd.refl _ _
 | v :: r,i,w => ((Upd.refl (fun k => k = q) w).setCell (p:=⟨q,i,none⟩) (.inl rfl) v).trans (upd_sets9 q r (i + 1) _)
theorem updC9 (w : World) (q : Nat) (y : Cg) : Upd (fun k => k = q) w (sets w q 0 y.cs):=upd_sets9 q _ 0 w
theorem results_cfg9 {fn : Func} {i : Tmp} {q : Nat} {t : Cg} {tmps : Array Value} {w : World} (h : fn.results = #[.cell i 23]) (hq : tmps.getD i undef = .pointer (some ⟨q,0,none⟩)) (hb : CB7 w q t) : (results fn tmps).run Tryz.prog w = .ok t.val w:=by
 have:=run_loadVar_mid (P:=Tryz.prog) w q 0 23 t.cs _ (fun j v hv => by rw [Nat.zero_add];exact hb.cell j v hv) Tryz.underlying23 rfl (by kernel_rfl);simp only [results,h];simp only [Array.getD_eq_getD_getElem?] at hq
 simp [Sem.run_bind,Result.andThen,hq,asAddr,this]
 rfl
def zM9 : Ms9:=⟨zG9,none,0,[],none,0,[]⟩
theorem alM9 (w : World) : (Instr.alloc 54 true (.tuple #[])).run Tryz.prog w = .ok (.pointer (some ⟨w.heap.size,0,none⟩)) (w.alloc (.cells zM9.cs.toArray 54)):=by
 go_simp
 first | done | rfl
theorem bdDr9 (x : Int) (w : World) : (Instr.build 52 #[(1,.int .u64 x)]).run Tryz.prog w = .ok (.agg #[.int .u64 0,.int .u64 x]) w:=by
 go_simp
 first | done | rfl
theorem bdMs9 (a b : Int) (g : Nat) (w : World) : (Instr.build 54 #[(0,.int .i64 5),(10,.slice (some ⟨g,0,none⟩) 3 3)]).run Tryz.prog w = .ok (cm9 a b g).val w:=by
 go_simp
 first | done | rfl
theorem ex_bs3_9 {o : Oper} {ρ : Operand → Value} {s : TypeId} {x y z : Operand} {X Y Z V : Value} {w w' : World} (ho : o.op = .buildSlice s 3 #[(0,x),(1,y),(2,z)]) (hx : ρ x = X) (hy : ρ y = Y) (hz : ρ z = Z) (hr : (Instr.buildSlice s 3 #[(0,X),(1,Y),(2,Z)]).run Tryz.prog w = .ok V w') : (execOp ρ o).run Tryz.prog w = .ok (.value V) w':=by
 unfold execOp
 simp only [ho,LA,LB,LC,hx,hy,hz,Sem.run_bind,hr,Result.andThen_ok]
 rfl
theorem bs3_9 (a b : Int) (w : World) : (Instr.buildSlice 27 3 #[(0,.agg #[.int .u64 0,.int .u64 a]),(1,.agg #[.int .u64 0,.int .u64 b]),(2,.agg #[.int .u64 0,.int .u64 0])]).run Tryz.prog w = .ok (.slice (some ⟨w.heap.size,0,none⟩) 3 3) (w.alloc (.cells (fl yD [(0,a),(0,b),(0,0)]).toArray 52)):=by
 go_simp
 first | done | rfl
theorem stM9 {w : World} {q : Nat} {x : Ms9} (h : MB9 w q x) (y : Ms9) : (Instr.storeAt 54 (.pointer (some ⟨q,0,none⟩)) y.val).run Tryz.prog w = .ok () (sets w q 0 y.cs):=by
 have:=run_storeAt_mid (P:=Tryz.prog) w q 0 54 y.cs.toArray (fun j hj => ⟨by rw [Nat.zero_add,h.cell j _ (List.getElem?_eq_getElem (show j < x.cs.length from hj))];rfl,by rw [Nat.zero_add];exact h.free j⟩) (by kernel_rfl) (all_oneCell_toArray (by
  intro v hv;simp only [Ms9.cs,Mg.cs,List.mem_cons,List.not_mem_nil,or_false] at hv
  rcases hv with rfl | rfl | rfl | rfl | rfl | rfl | rfl | rfl | rfl | rfl | rfl | rfl | rfl | rfl | rfl | rfl | rfl | rfl <;> rfl))
 rw [setCells_sets] at this
 exact this
theorem BX7.puts9 {q : Nat} : ∀ (vs : List Value) (i : Nat) (w : World) (cs : List Value),BX7 w q cs → i + vs.length ≤ cs.length → BX7 (sets w q i vs) q (cs.take i ++ vs ++ cs.drop (i + vs.length))
 | [],i,w,cs,h,hl => by
  show BX7 w q _
  simpa using h
 | v :: r,i,w,cs,h,hl => by
  have hi : i < cs.length:=by simp at hl;omega
  have:=BX7.puts9 r (i + 1) (w.setCell ⟨q,i,none⟩ v) (cs.set i v) (BX7.set h hi v) (by simp at hl ⊢;omega)
  have e : (cs.set i v).take (i + 1) ++ r ++ (cs.set i v).drop (i + 1 + r.length) = cs.take i ++ (v :: r) ++ cs.drop (i + (v :: r).length):=by
   rw [List.set_eq_take_append_cons_drop,if_pos hi]
   have h1 : (cs.take i).length = i:=by rw [List.length_take];omega
   rw [show i + 1 + r.length = i + (v :: r).length by simp;omega];rw [List.take_append,h1,List.take_of_length_le (by omega),show i + 1 - i = 1 by omega,List.take_succ_cons,List.take_zero];rw [List.drop_append,h1,List.drop_of_length_le (by omega),List.nil_append,show i + (v :: r).length - i = r.length + 1 by simp,List.drop_succ_cons,List.drop_drop]
   simp [show i + 1 + r.length = i + (r.length + 1) by omega]
  rw [← e]
  exact this
theorem MB9.put9 {w : World} {q : Nat} {x : Ms9} (h : MB9 w q x) (y : Ms9) : MB9 (sets w q 0 y.cs) q y:=by
 have:=BX7.puts9 y.cs 0 w x.cs h (by show 0 + 18 ≤ 18;omega);rw [show x.cs.drop (0 + y.cs.length) = [] from rfl,List.append_nil,List.take_zero,List.nil_append] at this
 exact this
theorem updM9 (w : World) (q : Nat) (y : Ms9) : Upd (fun k => k = q) w (sets w q 0 y.cs):=upd_sets9 q _ 0 w
theorem results_msg9 {fn : Func} {i : Tmp} {q : Nat} {t : Ms9} {tmps : Array Value} {w : World} (h : fn.results = #[.cell i 54]) (hq : tmps.getD i undef = .pointer (some ⟨q,0,none⟩)) (hb : MB9 w q t) : (results fn tmps).run Tryz.prog w = .ok t.val w:=by
 have:=run_loadVar_mid (P:=Tryz.prog) w q 0 54 t.cs _ (fun j v hv => by rw [Nat.zero_add];exact hb.cell j v hv) Tryz.underlying54 rfl (by kernel_rfl);simp only [results,h];simp only [Array.getD_eq_getD_getElem?] at hq
 simp [Sem.run_bind,Result.andThen,hq,asAddr,this]
 rfl
theorem first_al9 {B : Nat} {s : Sta} {w : World} (h : Fs9 B c39 1 1 s w) : (vst9 1 1 0 0 Z39).Alike9 s:=by
 rcases h with ⟨h,_⟩ | ⟨_,g,n,hn,rfl,_⟩
 ·exact absurd rfl h
 ·obtain rfl : n = 3:=by have : ((3 : Nat) : Int) = n:=hn;omega
  exact ⟨rfl,rfl,rfl,rfl,rfl,rfl,rfl,rfl,rfl,rfl,⟨rfl,fun i x y hx hy => by cases hx⟩,⟨rfl,fun i x y hx hy => by cases hx⟩⟩
theorem faD9_1 (q o : Nat) (w : World) : (Instr.fieldAt 52 (.pointer (some ⟨q,o,none⟩)) 1).run Tryz.prog w = .ok (.pointer (some ⟨q,o + 1,none⟩)) w:=by go_simp
theorem ldU9 {w : World} {q i : Nat} {z : Int} (h : w.cell? ⟨q,i,none⟩ = some (.int .u64 z)) : (Instr.loadAt 50 (.pointer (some ⟨q,i,none⟩))).run Tryz.prog w = .ok (.int .u64 z) w:=by go_simp
theorem eqlU9 (x y : Operand) (a b : Int) (h : a = b) (w : World) : (do eqGuard .eql 50 x y (.int .u64 a) (.int .u64 b);binOp .eql 50 (.int .u64 a) (.int .u64 b) : Sem Value).run Tryz.prog w = .ok (.bool true) w:=by
 subst h
 go_simp
 first | done | rfl | simp
theorem vec0_9 {w : World} {a : Option Addr} {n c : Nat} {V : List (Int × Int)} (h : SlY yD w a n c V) (e : V = F39) : ∃ q o,a = some ⟨q,o,none⟩∧(∀ v,(Instr.indexAt 27 (.slice a n c) (.int .i64 0)).run Tryz.prog v = .ok (.pointer (some ⟨q,o,none⟩)) v)∧w.cell? ⟨q,o + 1,none⟩ = some (.int .u64 4):=by
 subst e;have hl : n = 3:=h.len.symm;obtain ⟨q,o,ea,hlie⟩:=lie0_9 h (by omega);refine ⟨q,o,ea,fun v => ?_,?_⟩
 ·have:=ixV9 q o n c 0 (by omega) v
  rw [ea]
  simpa using this
 ·have:=hlie 0 (0,4) rfl 1 _ rfl
  simpa using this
theorem three9  (w : World) : Calls Tryz.prog 17 #[] w fun e w' => e = .returned (c39.val)∧Below w.heap.size w w':=by
 go_enter Tryz.func17,Tryz.ntmps17
 go_upto_region 0 with fail
 refine WL ?_;have hB : Below w.heap.size w w:=BR;have hv0 : Below w.heap.size w w:=BR;refine vl_gen (fun T => T.size = 2) rfl (fun Z0 hz => ?_)
 obtain ⟨w1,hw1⟩ : ∃ y,y = w.alloc (.cells zC9.cs.toArray 23):=⟨_,rfl⟩
 have hb : Below w.heap.size w w1:=by rw [hw1];exact BR.alloc LR _
 have HC : CB7 w1 w.heap.size zC9:=by rw [hw1];exact BX7.new _ _ _
 have hz1 : w1.heap.size = w.heap.size + 1:=by rw [hw1];simp
 have Ya:=Rp.nil hz;clear hz;refine vw (.pointer (some ⟨w.heap.size,0,none⟩)) w1 WN (ex_al rfl (by rw [hw1];exact alC9 _)) rfl Ya.z (by decide) (Ya.k fun Yb Yc => ?_);clear Ya;have hz:=Yc.z;have s0:=Yc.a 0 rfl;clear Yc;refine WE ?_
 go_upto_region 1 with fail
 refine WL ?_;have Yd:=(Rp.nil hz).cons s0;clear hz s0
 refine Yd.t (c39.val) (ex_buildP rfl (by simp only [LA,LB,LC,evc] <;> rfl) (bdC9 _)) fun _ Ye => ?_;clear Yd
 refine vs (sets w1 w.heap.size 0 c39.cs) WN (ex_st rfl (Ye.f 0) (Ye.f 1) (stC9 HC c39)) rfl ?_;have HP:=CB7.put9 HC c39;have UP:=updC9 w1 w.heap.size c39
 obtain ⟨u9,hu9⟩ : ∃ v,v = sets w1 w.heap.size 0 c39.cs:=⟨_,rfl⟩
 rw [← hu9] at HP UP ⊢;clear hu9;have hB9:=hide (hB.trans ((hb.mono (by omega)).trans (UP.below (by omega) (fun k hk => by omega))));have hz:=Ye.z;have s0:=Ye.a 0 rfl;clear Ye;refine WE ?_
 go_wp2
 refine bodyPost_ret (results_cfg9 rfl (getD_of s0) HP) rfl ?_
 exact ⟨rfl,hB9.out⟩
theorem commit9 (a b : Int) (w : World)  : Calls Tryz.prog 18 #[.int .u64 a,.int .u64 b] w fun e w' => ∃ g,e = .returned ((cm9 a b g).val)∧(cm9 a b g).In w'∧Below w.heap.size w w':=by
 go_enter Tryz.func18,Tryz.ntmps18
 go_upto_region 0 with fail
 refine WL ?_;refine vl_gen (fun T => T.size = 12∧T[0]? = some (gw true (.int .u64 a))∧T[1]? = some (gw true (.int .u64 b))) ⟨rfl,rfl,rfl⟩ (fun Z0 ⟨hz,s0,s1⟩ => ?_);have hB : Below w.heap.size w w:=BR;have hv0 : Below w.heap.size w w:=BR
 obtain ⟨w1,hw1⟩ : ∃ y,y = w.alloc (.cells zM9.cs.toArray 54):=⟨_,rfl⟩
 have hb : Below w.heap.size w w1:=by rw [hw1];exact BR.alloc LR _
 have HM : MB9 w1 w.heap.size zM9:=by rw [hw1];exact BX7.new _ _ _
 have hz1 : w1.heap.size = w.heap.size + 1:=by rw [hw1];simp
 obtain ⟨w2,hw2⟩ : ∃ y,y = w1.alloc (.cells (fl yD [(0,a),(0,b),(0,0)]).toArray 52):=⟨_,rfl⟩
 have hb2 : Below w1.heap.size w1 w2:=by rw [hw2];exact BR.alloc LR _
 have oV : SlY yD w2 (some ⟨w1.heap.size,0,none⟩) 3 3 [(0,a),(0,b),(0,0)]:=by rw [hw2];exact sl_lit kD _ [(0,a),(0,b),(0,0)] _ (by show 3 ≤ maxLen;unfold maxLen;decide)
 have HM:=HM.bel hb2;have z2:=hb2.size;have Ya:=((Rp.nil hz).cons s0).cons s1;clear hz s0 s1;refine vw (.pointer (some ⟨w.heap.size,0,none⟩)) w1 WN (ex_al rfl (by rw [hw1];exact alM9 _)) rfl Ya.z (by decide) (Ya.k fun Yb Yc => ?_);clear Ya;have hz:=Yc.z;have s0:=Yc.a 0 rfl;have s1:=Yc.a 1 rfl;have s4:=Yc.a 4 rfl;clear Yc;refine WE ?_
 go_upto_region 1 with fail
 refine WL ?_;have Yd:=(((Rp.nil hz).cons s0).cons s1).cons s4;clear hz s0 s1 s4
 refine Yd.t _ (ex_move rfl (Yd.f 0)) fun _ Ye => ?_;clear Yd
 refine Ye.t (.agg #[.int .u64 0,.int .u64 a]) (ex_buildP rfl (by simp only [LA,LB,LC,(Ye.f 5)] <;> rfl) (bdDr9 _ _)) fun _ Yf => ?_;clear Ye
 refine Yf.t _ (ex_move rfl (Yf.f 1)) fun _ Yg => ?_;clear Yf
 refine Yg.t (.agg #[.int .u64 0,.int .u64 b]) (ex_buildP rfl (by simp only [LA,LB,LC,(Yg.f 7)] <;> rfl) (bdDr9 _ _)) fun _ Yh => ?_;clear Yg
 refine Yh.t (.agg #[.int .u64 0,.int .u64 0]) (ex_build rfl (buildDr _)) fun _ Yi => ?_;clear Yh
 refine vw (.slice (some ⟨w1.heap.size,0,none⟩) 3 3) w2 WN (ex_bs3_9 rfl (Yi.f 6) (Yi.f 8) (Yi.f 9) (by rw [hw2];exact bs3_9 _ _ _)) rfl Yi.z (by decide) (Yi.k fun Yj Yk => ?_);clear Yi
 refine Yk.t ((cm9 a b w1.heap.size).val) (ex_buildP rfl (by simp only [LA,LB,LC,(Yk.f 10),evc] <;> rfl) (bdMs9 _ _ _ _)) fun _ Yl => ?_;clear Yk
 refine vs (sets w2 w.heap.size 0 (cm9 a b w1.heap.size).cs) WN (ex_st rfl (Yl.f 4) (Yl.f 11) (stM9 HM (cm9 a b w1.heap.size))) rfl ?_;have HP:=MB9.put9 HM (cm9 a b w1.heap.size);have UP:=updM9 w2 w.heap.size (cm9 a b w1.heap.size)
 obtain ⟨u9,hu9⟩ : ∃ v,v = sets w2 w.heap.size 0 (cm9 a b w1.heap.size).cs:=⟨_,rfl⟩
 rw [← hu9] at HP UP ⊢;clear hu9;have hB9:=hide (hB.trans (((hb.trans (hb2.mono (by omega))).mono (by omega)).trans (UP.below (by omega) (fun k hk => by omega))));have hz:=Yl.z;have s4:=Yl.a 4 rfl;clear Yl;refine WE ?_;have oV2:=oV.upd UP (fun x hx _ e => by cases hx;have e2 : w1.heap.size = w.heap.size:=e;omega)
 go_wp2
 refine bodyPost_ret (results_msg9 rfl (getD_of s4) HP) rfl ?_
 exact ⟨_,rfl,⟨nil_sl8 _ _,oV2⟩,hB9.out⟩
theorem alive9  (w : World) (hT : Tab w) : Calls Tryz.prog 4 #[] w fun e w' => e = .returned (.bool true)∧Below w.heap.size w w':=by
 go_enter Tryz.func4,Tryz.ntmps4
 go_upto_region 0 with fail
 refine WL ?_;have hB : Below w.heap.size w w:=BR;have hv0 : Below w.heap.size w w:=BR;refine vl_gen (fun T => T.size = 83) rfl (fun Z0 hz => ?_);have Ya:=Rp.nil hz;clear hz
 refine Ya.t (.bool false) (ex_assign rfl rfl) fun _ Yb => ?_;clear Ya
 have hz:=Yb.z;clear Yb;refine WE ?_
 go_upto_region 1 with fail
 refine WL ?_;have Yc:=Rp.nil hz;clear hz;refine Yc.c (ex_call (args:=#[]) rfl (by simp) rfl) (three9 w) ?_;rintro e y1 ⟨rfl,hb⟩;refine ⟨_,rfl,Yc.k fun Yd Ye => ?_⟩;clear Yc;have hB:=hB.trans (hb.mono (by omega));have zy1:=hb.size;clear hb;refine Ye.c (ex_call rfl (by simp only [LA,LB,LC,(Ye.f 13),evc] <;> rfl) rfl) (first9 c39 1 y1) ?_;rintro e y2 ⟨s,rfl,sin,hfs,hb⟩;refine ⟨_,rfl,Ye.k fun Yf Yg => ?_⟩;clear Ye;have hB:=hB.trans (hb.mono (by omega));have zy2:=hb.size;clear hb;have sal : (vst9 1 1 0 0 Z39).Alike9 s:=first_al9 hfs;clear hfs
 obtain ⟨q1,hq1⟩ : ∃ z,z = y2.heap.size:=⟨_,rfl⟩
 obtain ⟨y3,hy3⟩ : ∃ y,y = y2.alloc (.cells zS8.cs.toArray 33):=⟨_,rfl⟩
 have b3 : Below y2.heap.size y2 y3:=by rw [hy3];exact BR.alloc LR _
 have HQ : SB7 y3 q1 zS8:=by rw [hy3,hq1];exact BX7.new _ _ _
 have z3:=b3.size;have l3:=HQ.lt
 refine Yg.t _ (ex_move rfl (Yg.f 14)) fun _ Yh => ?_;clear Yg
 refine Yh.t _ (ex_ext8 rfl (Yh.f 12) rfl) fun _ Yi => ?_;clear Yh
 refine Yi.t _ (ex_ext8 rfl (Yi.f 12) rfl) fun _ Yj => ?_;clear Yi
 refine vw (.pointer (some ⟨q1,0,none⟩)) y3 WN (ex_al rfl (by rw [hy3,hq1];exact al12 _)) rfl Yj.z (by decide) (Yj.k fun Yk Yl => ?_);clear Yj;refine vs (sets y3 q1 0 s.cs) WN (ex_st rfl (Yl.f 1) (Yl.f 15) (st12 HQ s)) rfl ?_;have HS:=SB7.put HQ s;have UT:=upd12 y3 q1 s
 obtain ⟨y4,hy4⟩ : ∃ v,v = sets y3 q1 0 s.cs:=⟨_,rfl⟩
 rw [← hy4] at HS UT ⊢;clear hy4 hy3;have hb : Below y2.heap.size y2 y4:=b3.trans (UT.below (by omega) (fun k hk => by omega));have hB:=hB.trans (hb.mono (by omega));have sin:=sin.later hb;clear hb UT HQ b3;have hT:=hT.later hB hT.lt;have hB0:=hB.size
 refine Yl.t _ (ex_assign rfl (Yl.f 16)) fun _ Ym => ?_;clear Yl
 have hz:=Ym.z;have s1:=Ym.a 1 rfl;have s2:=Ym.a 2 rfl;clear Ym;refine WE ?_
 go_upto_region 2 with fail
 refine v_cut9 (fun T v => T.size = 83∧T[2]? = some (gw true (.int .i64 (fvE9 c39 1)))∧∃ (q : Nat) (t : Sta),T[3]? = some (gw true (.pointer (some ⟨q,0,none⟩)))∧T[4]? = some (gw true (.bool true))∧T[5]? = some (gw true (.int .i64 0))∧Hid (SB7 v q t∧t.In v∧(vst9 1 1 0 0 F39).Alike9 t∧Below y4.heap.size y4 v)) ?_ ?_
 ·refine vh_start (fun v => Below y4.heap.size y4 v) (by kernel_rfl) ?_
  have hS : Below y4.heap.size y4 y4.drew:=BR.drew
  obtain ⟨wd2,hwd⟩ : ∃ y,y = y4.drew:=⟨_,rfl⟩
  rw [← hwd] at hS ⊢;clear hwd;have Yn:=((Rp.nil hz).cons s1).cons s2;clear hz s1 s2
  refine Yn.h 1 rfl _ (fun v hv => ex_ld rfl (Yn.f 1) (SB7.ld (HS.bel hv))) hS fun R2x1 Yo => ?_;clear Yn
  obtain ⟨q,hq⟩ : ∃ z,z = wd2.heap.size:=⟨_,rfl⟩
  obtain ⟨y2x1,hy2x1⟩ : ∃ y,y = wd2.alloc (.cells zS8.cs.toArray 33):=⟨_,rfl⟩
  have ba : Below wd2.heap.size wd2 y2x1:=by rw [hy2x1];exact BR.alloc LR _
  have HQ : SB7 y2x1 q zS8:=by rw [hy2x1,hq];exact BX7.new _ _ _
  have hqb:=hS.size;have hSa:=hS.trans (ba.mono hS.size);have za:=ba.size;have lq:=HQ.lt;refine vh_two9 0 8 (by kernel_rfl) rfl rfl WN (ex_call (args:=#[]) rfl (by simp) rfl) (three9 wd2) rfl Yo.z (by decide) ?_ (.pointer (some ⟨q,0,none⟩)) y2x1 WN (ex_al rfl (by rw [hy2x1,hq];exact al12 _)) rfl (by decide) hSa ?_
  ·clear ba HQ hy2x1 hSa za lq hqb hq
   rintro e c2a ⟨rfl,h2a⟩;clear y2x1 q;refine ⟨_,rfl,hS.trans (h2a.mono hS.size),Yo.k fun R2x2 Yp => ?_⟩;clear Yo;have zc0:=h2a.size;have hS:=hS.trans (h2a.mono hS.size)
   obtain ⟨q,hq⟩ : ∃ z,z = c2a.heap.size:=⟨_,rfl⟩
   obtain ⟨y2x2,hy2x2⟩ : ∃ y,y = c2a.alloc (.cells zS8.cs.toArray 33):=⟨_,rfl⟩
   have ba : Below c2a.heap.size c2a y2x2:=by rw [hy2x2];exact BR.alloc LR _
   have HQ : SB7 y2x2 q zS8:=by rw [hy2x2,hq];exact BX7.new _ _ _
   have hqb:=hS.size;have hSa:=hS.trans (ba.mono hS.size);have za:=ba.size;have lq:=HQ.lt;refine vh_two9 2 8 (by kernel_rfl) rfl rfl WN (ex_call (args:=#[.int .u64 4,.int .u64 0]) rfl (by simp only [LA,LB,LC,evc] <;> rfl) rfl) (commit9 4 0 c2a) rfl Yp.z (by decide) ?_ (.pointer (some ⟨q,0,none⟩)) y2x2 WN (ex_al rfl (by rw [hy2x2,hq];exact al12 _)) rfl (by decide) hSa ?_
   ·clear ba HQ hy2x2 hSa za lq hqb hq
    rintro e c2b ⟨g,rfl,gin,h2b⟩;clear y2x2 q;refine ⟨_,rfl,hS.trans (h2b.mono hS.size),Yp.k fun R2x3 Yq => ?_⟩;clear Yp;have zc1:=h2b.size;have hS:=hS.trans (h2b.mono hS.size)
    obtain ⟨q,hq⟩ : ∃ z,z = c2b.heap.size:=⟨_,rfl⟩
    obtain ⟨y2x3,hy2x3⟩ : ∃ y,y = c2b.alloc (.cells zS8.cs.toArray 33):=⟨_,rfl⟩
    have ba : Below c2b.heap.size c2b y2x3:=by rw [hy2x3];exact BR.alloc LR _
    have HQ : SB7 y2x3 q zS8:=by rw [hy2x3,hq];exact BX7.new _ _ _
    have hqb:=hS.size;have hSa:=hS.trans (ba.mono hS.size);have za:=ba.size;have lq:=HQ.lt;refine vh_two9 3 8 (by kernel_rfl) rfl rfl WN (ex_call rfl (by simp only [LA,LB,LC,(Yq.f 18),(Yq.f 19),(Yq.f 20),evc] <;> rfl) rfl) (admitC9 s Z39 F39 4 0 g true c2b sal (by decide) (ck_z9 0 0) (ad1_9 g).1 (ad1_9 g).2 (sin.later hS) gin (hT.later hS hT.lt)) rfl Yq.z (by decide) ?_ (.pointer (some ⟨q,0,none⟩)) y2x3 WN (ex_al rfl (by rw [hy2x3,hq];exact al12 _)) rfl (by decide) hSa ?_
    ·clear ba HQ hy2x3 hSa za lq hqb hq
     rintro e c2c ⟨t,rfl,tin,tal,tup,h2c⟩;clear y2x3 q;refine ⟨_,rfl,hS.trans (h2c.mono hS.size),Yq.k fun R2x4 Yr => ?_⟩;clear Yq;have zc2:=h2c.size;have gin:=gin.later h2c;have hS:=hS.trans (h2c.mono hS.size)
     refine Yr.h 4 rfl _ (fun v hv => ex_move rfl (Yr.f 21)) hS fun R2x5 Ys => ?_;clear Yr
     refine Ys.h 5 rfl _ (fun v hv => ex_ext8 rfl (Ys.f 17) rfl) hS fun R2x6 Yt => ?_;clear Ys
     refine Yt.h 6 rfl _ (fun v hv => ex_ext8 rfl (Yt.f 17) rfl) hS fun R2x7 Yu => ?_;clear Yt
     refine Yu.h 7 rfl _ (fun v hv => ex_ext8 rfl (Yu.f 17) rfl) hS fun R2x8 Yv => ?_;clear Yu
     obtain ⟨q,hq⟩ : ∃ z,z = c2c.heap.size:=⟨_,rfl⟩
     obtain ⟨y2x4,hy2x4⟩ : ∃ y,y = c2c.alloc (.cells zS8.cs.toArray 33):=⟨_,rfl⟩
     have ba : Below c2c.heap.size c2c y2x4:=by rw [hy2x4];exact BR.alloc LR _
     have HQ : SB7 y2x4 q zS8:=by rw [hy2x4,hq];exact BX7.new _ _ _
     have hqb:=hS.size;have hSa:=hS.trans (ba.mono hS.size);have za:=ba.size;have lq:=HQ.lt;refine vh_val8 8 (.pointer (some ⟨q,0,none⟩)) y2x4 rfl (by kernel_rfl) WN (ex_al rfl (by rw [hy2x4,hq];exact al12 _)) rfl Yv.z (by decide) hSa (Yv.k fun R2x9 Yw => ?_);clear Yv;have hS:=hSa;clear hy2x4 hSa;have HT:=SB7.put HQ t;have UT:=upd12 y2x4 q t;have hST:=hS.trans (UT.below hS.size (fun k hk => by omega));refine vh_store8 9 (sets y2x4 q 0 t.cs) rfl (by kernel_rfl) WN (ex_st rfl (Yw.f 3) (Yw.f 22) (st12 HQ t)) rfl hST ?_
     obtain ⟨x7,hx7⟩ : ∃ v,v = sets y2x4 q 0 t.cs:=⟨_,rfl⟩
     rw [← hx7] at HT UT hST ⊢;clear hx7;have hLT : Below c2c.heap.size c2c x7:=ba.trans (UT.below (by omega) (fun k hk => by omega));have tin7 : t.In x7:=tin.later hLT;have hS:=hST
     refine Yw.h 10 rfl _ (fun v hv => ex_assign rfl (Yw.f 23)) hS fun R2x10 Yx => ?_;clear Yw
     refine Yx.h 11 rfl _ (fun v hv => ex_assign rfl (Yx.f 24)) hS fun R2x11 Yy => ?_;clear Yx
     refine vh_done (by kernel_rfl) ?_
     exact ⟨_,rfl,Yy.z,(Yy.a 2 rfl),q,t,(Yy.a 3 rfl),(Yy.a 4 rfl),(Yy.a 5 rfl),HT,tin7,tal,hS⟩
    ·refine Yq.k fun R2x12 Yz => ?_
     clear Yq;have gin:=gin.later ba;have hS:=hSa;clear hy2x3 hSa;refine Yz.w 3 rfl (ex_call rfl (by simp only [LA,LB,LC,(Yz.f 18),(Yz.f 19),(Yz.f 20),evc] <;> rfl) rfl) (admitC9 s Z39 F39 4 0 g true y2x3 sal (by decide) (ck_z9 0 0) (ad1_9 g).1 (ad1_9 g).2 (sin.later hS) gin (hT.later hS hT.lt)) ?_;rintro e c2c ⟨t,rfl,tin,tal,tup,h2c⟩;refine ⟨_,rfl,hS.trans (h2c.mono hS.size),Yz.k fun R2x13 Y0 => ?_⟩;clear Yz;have zc2:=h2c.size;have gin:=gin.later h2c;have HQ:=HQ.bel h2c;have hS:=hS.trans (h2c.mono hS.size)
     refine Y0.h 4 rfl _ (fun v hv => ex_move rfl (Y0.f 21)) hS fun R2x14 Y1 => ?_;clear Y0
     refine Y1.h 5 rfl _ (fun v hv => ex_ext8 rfl (Y1.f 17) rfl) hS fun R2x15 Y2 => ?_;clear Y1
     refine Y2.h 6 rfl _ (fun v hv => ex_ext8 rfl (Y2.f 17) rfl) hS fun R2x16 Y3 => ?_;clear Y2
     refine Y3.h 7 rfl _ (fun v hv => ex_ext8 rfl (Y3.f 17) rfl) hS fun R2x17 Y4 => ?_;clear Y3
     have HT:=SB7.put HQ t;have UT:=upd12 c2c q t;have hST:=hS.trans (UT.below hS.size (fun k hk => by omega));refine vh_store8 9 (sets c2c q 0 t.cs) rfl (by kernel_rfl) WN (ex_st rfl (Y4.f 3) (Y4.f 22) (st12 HQ t)) rfl hST ?_
     obtain ⟨x7,hx7⟩ : ∃ v,v = sets c2c q 0 t.cs:=⟨_,rfl⟩
     rw [← hx7] at HT UT hST ⊢;clear hx7;have tin7 : t.In x7:=tup q x7 (by omega) UT;have hS:=hST
     refine Y4.h 10 rfl _ (fun v hv => ex_assign rfl (Y4.f 23)) hS fun R2x18 Y5 => ?_;clear Y4
     refine Y5.h 11 rfl _ (fun v hv => ex_assign rfl (Y5.f 24)) hS fun R2x19 Y6 => ?_;clear Y5
     refine vh_done (by kernel_rfl) ?_
     exact ⟨_,rfl,Y6.z,(Y6.a 2 rfl),q,t,(Y6.a 3 rfl),(Y6.a 4 rfl),(Y6.a 5 rfl),HT,tin7,tal,hS⟩
   ·refine Yp.k fun R2x20 Y7 => ?_
    clear Yp;have hS:=hSa;clear hy2x2 hSa;refine Y7.w 2 rfl (ex_call (args:=#[.int .u64 4,.int .u64 0]) rfl (by simp only [LA,LB,LC,evc] <;> rfl) rfl) (commit9 4 0 y2x2) ?_;rintro e c2b ⟨g,rfl,gin,h2b⟩;refine ⟨_,rfl,hS.trans (h2b.mono hS.size),Y7.k fun R2x21 Y8 => ?_⟩;clear Y7;have zc1:=h2b.size;have HQ:=HQ.bel h2b;have hS:=hS.trans (h2b.mono hS.size);refine Y8.w 3 rfl (ex_call rfl (by simp only [LA,LB,LC,(Y8.f 18),(Y8.f 19),(Y8.f 20),evc] <;> rfl) rfl) (admitC9 s Z39 F39 4 0 g true c2b sal (by decide) (ck_z9 0 0) (ad1_9 g).1 (ad1_9 g).2 (sin.later hS) gin (hT.later hS hT.lt)) ?_;rintro e c2c ⟨t,rfl,tin,tal,tup,h2c⟩;refine ⟨_,rfl,hS.trans (h2c.mono hS.size),Y8.k fun R2x22 Y9 => ?_⟩;clear Y8;have zc2:=h2c.size;have gin:=gin.later h2c;have HQ:=HQ.bel h2c;have hS:=hS.trans (h2c.mono hS.size)
    refine Y9.h 4 rfl _ (fun v hv => ex_move rfl (Y9.f 21)) hS fun R2x23 Yba => ?_;clear Y9
    refine Yba.h 5 rfl _ (fun v hv => ex_ext8 rfl (Yba.f 17) rfl) hS fun R2x24 Ybb => ?_;clear Yba
    refine Ybb.h 6 rfl _ (fun v hv => ex_ext8 rfl (Ybb.f 17) rfl) hS fun R2x25 Ybc => ?_;clear Ybb
    refine Ybc.h 7 rfl _ (fun v hv => ex_ext8 rfl (Ybc.f 17) rfl) hS fun R2x26 Ybd => ?_;clear Ybc
    have HT:=SB7.put HQ t;have UT:=upd12 c2c q t;have hST:=hS.trans (UT.below hS.size (fun k hk => by omega));refine vh_store8 9 (sets c2c q 0 t.cs) rfl (by kernel_rfl) WN (ex_st rfl (Ybd.f 3) (Ybd.f 22) (st12 HQ t)) rfl hST ?_
    obtain ⟨x7,hx7⟩ : ∃ v,v = sets c2c q 0 t.cs:=⟨_,rfl⟩
    rw [← hx7] at HT UT hST ⊢;clear hx7;have tin7 : t.In x7:=tup q x7 (by omega) UT;have hS:=hST
    refine Ybd.h 10 rfl _ (fun v hv => ex_assign rfl (Ybd.f 23)) hS fun R2x27 Ybe => ?_;clear Ybd
    refine Ybe.h 11 rfl _ (fun v hv => ex_assign rfl (Ybe.f 24)) hS fun R2x28 Ybf => ?_;clear Ybe
    refine vh_done (by kernel_rfl) ?_
    exact ⟨_,rfl,Ybf.z,(Ybf.a 2 rfl),q,t,(Ybf.a 3 rfl),(Ybf.a 4 rfl),(Ybf.a 5 rfl),HT,tin7,tal,hS⟩
  ·refine Yo.k fun R2x29 Ybg => ?_
   clear Yo;have hS:=hSa;clear hy2x1 hSa;refine Ybg.w 0 rfl (ex_call (args:=#[]) rfl (by simp) rfl) (three9 y2x1) ?_;rintro e c2a ⟨rfl,h2a⟩;refine ⟨_,rfl,hS.trans (h2a.mono hS.size),Ybg.k fun R2x30 Ybh => ?_⟩;clear Ybg;have zc0:=h2a.size;have HQ:=HQ.bel h2a;have hS:=hS.trans (h2a.mono hS.size);refine Ybh.w 2 rfl (ex_call (args:=#[.int .u64 4,.int .u64 0]) rfl (by simp only [LA,LB,LC,evc] <;> rfl) rfl) (commit9 4 0 c2a) ?_;rintro e c2b ⟨g,rfl,gin,h2b⟩;refine ⟨_,rfl,hS.trans (h2b.mono hS.size),Ybh.k fun R2x31 Ybi => ?_⟩;clear Ybh;have zc1:=h2b.size;have HQ:=HQ.bel h2b;have hS:=hS.trans (h2b.mono hS.size);refine Ybi.w 3 rfl (ex_call rfl (by simp only [LA,LB,LC,(Ybi.f 18),(Ybi.f 19),(Ybi.f 20),evc] <;> rfl) rfl) (admitC9 s Z39 F39 4 0 g true c2b sal (by decide) (ck_z9 0 0) (ad1_9 g).1 (ad1_9 g).2 (sin.later hS) gin (hT.later hS hT.lt)) ?_;rintro e c2c ⟨t,rfl,tin,tal,tup,h2c⟩;refine ⟨_,rfl,hS.trans (h2c.mono hS.size),Ybi.k fun R2x32 Ybj => ?_⟩;clear Ybi;have zc2:=h2c.size;have gin:=gin.later h2c;have HQ:=HQ.bel h2c;have hS:=hS.trans (h2c.mono hS.size)
   refine Ybj.h 4 rfl _ (fun v hv => ex_move rfl (Ybj.f 21)) hS fun R2x33 Ybk => ?_;clear Ybj
   refine Ybk.h 5 rfl _ (fun v hv => ex_ext8 rfl (Ybk.f 17) rfl) hS fun R2x34 Ybl => ?_;clear Ybk
   refine Ybl.h 6 rfl _ (fun v hv => ex_ext8 rfl (Ybl.f 17) rfl) hS fun R2x35 Ybm => ?_;clear Ybl
   refine Ybm.h 7 rfl _ (fun v hv => ex_ext8 rfl (Ybm.f 17) rfl) hS fun R2x36 Ybn => ?_;clear Ybm
   have HT:=SB7.put HQ t;have UT:=upd12 c2c q t;have hST:=hS.trans (UT.below hS.size (fun k hk => by omega));refine vh_store8 9 (sets c2c q 0 t.cs) rfl (by kernel_rfl) WN (ex_st rfl (Ybn.f 3) (Ybn.f 22) (st12 HQ t)) rfl hST ?_
   obtain ⟨x7,hx7⟩ : ∃ v,v = sets c2c q 0 t.cs:=⟨_,rfl⟩
   rw [← hx7] at HT UT hST ⊢;clear hx7;have tin7 : t.In x7:=tup q x7 (by omega) UT;have hS:=hST
   refine Ybn.h 10 rfl _ (fun v hv => ex_assign rfl (Ybn.f 23)) hS fun R2x37 Ybo => ?_;clear Ybn
   refine Ybo.h 11 rfl _ (fun v hv => ex_assign rfl (Ybo.f 24)) hS fun R2x38 Ybp => ?_;clear Ybo
   refine vh_done (by kernel_rfl) ?_
   exact ⟨_,rfl,Ybp.z,(Ybp.a 2 rfl),q,t,(Ybp.a 3 rfl),(Ybp.a 4 rfl),(Ybp.a 5 rfl),HT,tin7,tal,hS⟩
 ·clear hz s1 s2
  intro T9 z1 hJ;obtain ⟨hz,s2,q3,t,s3,s4,s5,HI9⟩:=hJ;obtain ⟨HT3,tin,tal,hb⟩:=HI9.out;clear HI9 HS sin sal;have hT:=hT.later hb hT.lt;have hB:=hB.trans (hb.mono hB0);have hB0:=hB.size;clear hb
  go_upto_region 3 with fail
  refine v_cut9 (fun T v => T.size = 83∧T[2]? = some (gw true (.int .i64 (fvE9 c39 1)))∧T[3]? = some (gw true (.pointer (some ⟨q3,0,none⟩)))∧T[4]? = some (gw true (.bool true))∧T[5]? = some (gw true (.int .i64 0))∧∃ (q : Nat) (t : Sta),T[6]? = some (gw true (.pointer (some ⟨q,0,none⟩)))∧T[7]? = some (gw true (.bool false))∧T[8]? = some (gw true (.int .i64 0))∧Hid (SB7 v q t∧t.In v∧(vst9 1 1 0 0 F39).Alike9 t∧Below z1.heap.size z1 v)) ?_ ?_
  ·refine vh_start (fun v => Below z1.heap.size z1 v) (by kernel_rfl) ?_
   have hS : Below z1.heap.size z1 z1.drew:=BR.drew
   obtain ⟨wd3,hwd⟩ : ∃ y,y = z1.drew:=⟨_,rfl⟩
   rw [← hwd] at hS ⊢;clear hwd;have Ybq:=((((Rp.nil hz).cons s2).cons s3).cons s4).cons s5;clear hz s2 s3 s4 s5
   refine Ybq.h 1 rfl _ (fun v hv => ex_ld rfl (Ybq.f 3) (SB7.ld (HT3.bel hv))) hS fun R3x1 Ybr => ?_;clear Ybq
   obtain ⟨q,hq⟩ : ∃ z,z = wd3.heap.size:=⟨_,rfl⟩
   obtain ⟨y3x1,hy3x1⟩ : ∃ y,y = wd3.alloc (.cells zS8.cs.toArray 33):=⟨_,rfl⟩
   have ba : Below wd3.heap.size wd3 y3x1:=by rw [hy3x1];exact BR.alloc LR _
   have HQ : SB7 y3x1 q zS8:=by rw [hy3x1,hq];exact BX7.new _ _ _
   have hqb:=hS.size;have hSa:=hS.trans (ba.mono hS.size);have za:=ba.size;have lq:=HQ.lt;refine vh_two9 0 8 (by kernel_rfl) rfl rfl WN (ex_call (args:=#[]) rfl (by simp) rfl) (three9 wd3) rfl Ybr.z (by decide) ?_ (.pointer (some ⟨q,0,none⟩)) y3x1 WN (ex_al rfl (by rw [hy3x1,hq];exact al12 _)) rfl (by decide) hSa ?_
   ·clear ba HQ hy3x1 hSa za lq hqb hq
    rintro e c3a ⟨rfl,h3a⟩;clear y3x1 q;refine ⟨_,rfl,hS.trans (h3a.mono hS.size),Ybr.k fun R3x2 Ybs => ?_⟩;clear Ybr;have zc0:=h3a.size;have hS:=hS.trans (h3a.mono hS.size)
    obtain ⟨q,hq⟩ : ∃ z,z = c3a.heap.size:=⟨_,rfl⟩
    obtain ⟨y3x2,hy3x2⟩ : ∃ y,y = c3a.alloc (.cells zS8.cs.toArray 33):=⟨_,rfl⟩
    have ba : Below c3a.heap.size c3a y3x2:=by rw [hy3x2];exact BR.alloc LR _
    have HQ : SB7 y3x2 q zS8:=by rw [hy3x2,hq];exact BX7.new _ _ _
    have hqb:=hS.size;have hSa:=hS.trans (ba.mono hS.size);have za:=ba.size;have lq:=HQ.lt;refine vh_two9 2 8 (by kernel_rfl) rfl rfl WN (ex_call (args:=#[.int .u64 0,.int .u64 0]) rfl (by simp only [LA,LB,LC,evc] <;> rfl) rfl) (commit9 0 0 c3a) rfl Ybs.z (by decide) ?_ (.pointer (some ⟨q,0,none⟩)) y3x2 WN (ex_al rfl (by rw [hy3x2,hq];exact al12 _)) rfl (by decide) hSa ?_
    ·clear ba HQ hy3x2 hSa za lq hqb hq
     rintro e c3b ⟨g,rfl,gin,h3b⟩;clear y3x2 q;refine ⟨_,rfl,hS.trans (h3b.mono hS.size),Ybs.k fun R3x3 Ybt => ?_⟩;clear Ybs;have zc1:=h3b.size;have hS:=hS.trans (h3b.mono hS.size)
     obtain ⟨q,hq⟩ : ∃ z,z = c3b.heap.size:=⟨_,rfl⟩
     obtain ⟨y3x3,hy3x3⟩ : ∃ y,y = c3b.alloc (.cells zS8.cs.toArray 33):=⟨_,rfl⟩
     have ba : Below c3b.heap.size c3b y3x3:=by rw [hy3x3];exact BR.alloc LR _
     have HQ : SB7 y3x3 q zS8:=by rw [hy3x3,hq];exact BX7.new _ _ _
     have hqb:=hS.size;have hSa:=hS.trans (ba.mono hS.size);have za:=ba.size;have lq:=HQ.lt;refine vh_two9 3 8 (by kernel_rfl) rfl rfl WN (ex_call rfl (by simp only [LA,LB,LC,(Ybt.f 26),(Ybt.f 27),(Ybt.f 28),evc] <;> rfl) rfl) (admitC9 t F39 F39 0 0 g false c3b tal (by decide) (ck_f9 0 0) (ad2_9 g).1 (ad2_9 g).2 (tin.later hS) gin (hT.later hS hT.lt)) rfl Ybt.z (by decide) ?_ (.pointer (some ⟨q,0,none⟩)) y3x3 WN (ex_al rfl (by rw [hy3x3,hq];exact al12 _)) rfl (by decide) hSa ?_
     ·clear ba HQ hy3x3 hSa za lq hqb hq
      rintro e c3c ⟨t,rfl,tin,tal,tup,h3c⟩;clear y3x3 q;refine ⟨_,rfl,hS.trans (h3c.mono hS.size),Ybt.k fun R3x4 Ybu => ?_⟩;clear Ybt;have zc2:=h3c.size;have gin:=gin.later h3c;have hS:=hS.trans (h3c.mono hS.size)
      refine Ybu.h 4 rfl _ (fun v hv => ex_move rfl (Ybu.f 29)) hS fun R3x5 Ybv => ?_;clear Ybu
      refine Ybv.h 5 rfl _ (fun v hv => ex_ext8 rfl (Ybv.f 25) rfl) hS fun R3x6 Ybw => ?_;clear Ybv
      refine Ybw.h 6 rfl _ (fun v hv => ex_ext8 rfl (Ybw.f 25) rfl) hS fun R3x7 Ybx => ?_;clear Ybw
      refine Ybx.h 7 rfl _ (fun v hv => ex_ext8 rfl (Ybx.f 25) rfl) hS fun R3x8 Yby => ?_;clear Ybx
      obtain ⟨q,hq⟩ : ∃ z,z = c3c.heap.size:=⟨_,rfl⟩
      obtain ⟨y3x4,hy3x4⟩ : ∃ y,y = c3c.alloc (.cells zS8.cs.toArray 33):=⟨_,rfl⟩
      have ba : Below c3c.heap.size c3c y3x4:=by rw [hy3x4];exact BR.alloc LR _
      have HQ : SB7 y3x4 q zS8:=by rw [hy3x4,hq];exact BX7.new _ _ _
      have hqb:=hS.size;have hSa:=hS.trans (ba.mono hS.size);have za:=ba.size;have lq:=HQ.lt;refine vh_val8 8 (.pointer (some ⟨q,0,none⟩)) y3x4 rfl (by kernel_rfl) WN (ex_al rfl (by rw [hy3x4,hq];exact al12 _)) rfl Yby.z (by decide) hSa (Yby.k fun R3x9 Ybz => ?_);clear Yby;have hS:=hSa;clear hy3x4 hSa;have HT:=SB7.put HQ t;have UT:=upd12 y3x4 q t;have hST:=hS.trans (UT.below hS.size (fun k hk => by omega));refine vh_store8 9 (sets y3x4 q 0 t.cs) rfl (by kernel_rfl) WN (ex_st rfl (Ybz.f 6) (Ybz.f 30) (st12 HQ t)) rfl hST ?_
      obtain ⟨x7,hx7⟩ : ∃ v,v = sets y3x4 q 0 t.cs:=⟨_,rfl⟩
      rw [← hx7] at HT UT hST ⊢;clear hx7;have hLT : Below c3c.heap.size c3c x7:=ba.trans (UT.below (by omega) (fun k hk => by omega));have tin7 : t.In x7:=tin.later hLT;have hS:=hST
      refine Ybz.h 10 rfl _ (fun v hv => ex_assign rfl (Ybz.f 31)) hS fun R3x10 Yb0 => ?_;clear Ybz
      refine Yb0.h 11 rfl _ (fun v hv => ex_assign rfl (Yb0.f 32)) hS fun R3x11 Yb1 => ?_;clear Yb0
      refine vh_done (by kernel_rfl) ?_
      exact ⟨_,rfl,Yb1.z,(Yb1.a 2 rfl),(Yb1.a 3 rfl),(Yb1.a 4 rfl),(Yb1.a 5 rfl),q,t,(Yb1.a 6 rfl),(Yb1.a 7 rfl),(Yb1.a 8 rfl),HT,tin7,tal,hS⟩
     ·refine Ybt.k fun R3x12 Yb2 => ?_
      clear Ybt;have gin:=gin.later ba;have hS:=hSa;clear hy3x3 hSa;refine Yb2.w 3 rfl (ex_call rfl (by simp only [LA,LB,LC,(Yb2.f 26),(Yb2.f 27),(Yb2.f 28),evc] <;> rfl) rfl) (admitC9 t F39 F39 0 0 g false y3x3 tal (by decide) (ck_f9 0 0) (ad2_9 g).1 (ad2_9 g).2 (tin.later hS) gin (hT.later hS hT.lt)) ?_;rintro e c3c ⟨t,rfl,tin,tal,tup,h3c⟩;refine ⟨_,rfl,hS.trans (h3c.mono hS.size),Yb2.k fun R3x13 Yb3 => ?_⟩;clear Yb2;have zc2:=h3c.size;have gin:=gin.later h3c;have HQ:=HQ.bel h3c;have hS:=hS.trans (h3c.mono hS.size)
      refine Yb3.h 4 rfl _ (fun v hv => ex_move rfl (Yb3.f 29)) hS fun R3x14 Yb4 => ?_;clear Yb3
      refine Yb4.h 5 rfl _ (fun v hv => ex_ext8 rfl (Yb4.f 25) rfl) hS fun R3x15 Yb5 => ?_;clear Yb4
      refine Yb5.h 6 rfl _ (fun v hv => ex_ext8 rfl (Yb5.f 25) rfl) hS fun R3x16 Yb6 => ?_;clear Yb5
      refine Yb6.h 7 rfl _ (fun v hv => ex_ext8 rfl (Yb6.f 25) rfl) hS fun R3x17 Yb7 => ?_;clear Yb6
      have HT:=SB7.put HQ t;have UT:=upd12 c3c q t;have hST:=hS.trans (UT.below hS.size (fun k hk => by omega));refine vh_store8 9 (sets c3c q 0 t.cs) rfl (by kernel_rfl) WN (ex_st rfl (Yb7.f 6) (Yb7.f 30) (st12 HQ t)) rfl hST ?_
      obtain ⟨x7,hx7⟩ : ∃ v,v = sets c3c q 0 t.cs:=⟨_,rfl⟩
      rw [← hx7] at HT UT hST ⊢;clear hx7;have tin7 : t.In x7:=tup q x7 (by omega) UT;have hS:=hST
      refine Yb7.h 10 rfl _ (fun v hv => ex_assign rfl (Yb7.f 31)) hS fun R3x18 Yb8 => ?_;clear Yb7
      refine Yb8.h 11 rfl _ (fun v hv => ex_assign rfl (Yb8.f 32)) hS fun R3x19 Yb9 => ?_;clear Yb8
      refine vh_done (by kernel_rfl) ?_
      exact ⟨_,rfl,Yb9.z,(Yb9.a 2 rfl),(Yb9.a 3 rfl),(Yb9.a 4 rfl),(Yb9.a 5 rfl),q,t,(Yb9.a 6 rfl),(Yb9.a 7 rfl),(Yb9.a 8 rfl),HT,tin7,tal,hS⟩
    ·refine Ybs.k fun R3x20 Yca => ?_
     clear Ybs;have hS:=hSa;clear hy3x2 hSa;refine Yca.w 2 rfl (ex_call (args:=#[.int .u64 0,.int .u64 0]) rfl (by simp only [LA,LB,LC,evc] <;> rfl) rfl) (commit9 0 0 y3x2) ?_;rintro e c3b ⟨g,rfl,gin,h3b⟩;refine ⟨_,rfl,hS.trans (h3b.mono hS.size),Yca.k fun R3x21 Ycb => ?_⟩;clear Yca;have zc1:=h3b.size;have HQ:=HQ.bel h3b;have hS:=hS.trans (h3b.mono hS.size);refine Ycb.w 3 rfl (ex_call rfl (by simp only [LA,LB,LC,(Ycb.f 26),(Ycb.f 27),(Ycb.f 28),evc] <;> rfl) rfl) (admitC9 t F39 F39 0 0 g false c3b tal (by decide) (ck_f9 0 0) (ad2_9 g).1 (ad2_9 g).2 (tin.later hS) gin (hT.later hS hT.lt)) ?_;rintro e c3c ⟨t,rfl,tin,tal,tup,h3c⟩;refine ⟨_,rfl,hS.trans (h3c.mono hS.size),Ycb.k fun R3x22 Ycc => ?_⟩;clear Ycb;have zc2:=h3c.size;have gin:=gin.later h3c;have HQ:=HQ.bel h3c;have hS:=hS.trans (h3c.mono hS.size)
     refine Ycc.h 4 rfl _ (fun v hv => ex_move rfl (Ycc.f 29)) hS fun R3x23 Ycd => ?_;clear Ycc
     refine Ycd.h 5 rfl _ (fun v hv => ex_ext8 rfl (Ycd.f 25) rfl) hS fun R3x24 Yce => ?_;clear Ycd
     refine Yce.h 6 rfl _ (fun v hv => ex_ext8 rfl (Yce.f 25) rfl) hS fun R3x25 Ycf => ?_;clear Yce
     refine Ycf.h 7 rfl _ (fun v hv => ex_ext8 rfl (Ycf.f 25) rfl) hS fun R3x26 Ycg => ?_;clear Ycf
     have HT:=SB7.put HQ t;have UT:=upd12 c3c q t;have hST:=hS.trans (UT.below hS.size (fun k hk => by omega));refine vh_store8 9 (sets c3c q 0 t.cs) rfl (by kernel_rfl) WN (ex_st rfl (Ycg.f 6) (Ycg.f 30) (st12 HQ t)) rfl hST ?_
     obtain ⟨x7,hx7⟩ : ∃ v,v = sets c3c q 0 t.cs:=⟨_,rfl⟩
     rw [← hx7] at HT UT hST ⊢;clear hx7;have tin7 : t.In x7:=tup q x7 (by omega) UT;have hS:=hST
     refine Ycg.h 10 rfl _ (fun v hv => ex_assign rfl (Ycg.f 31)) hS fun R3x27 Ych => ?_;clear Ycg
     refine Ych.h 11 rfl _ (fun v hv => ex_assign rfl (Ych.f 32)) hS fun R3x28 Yci => ?_;clear Ych
     refine vh_done (by kernel_rfl) ?_
     exact ⟨_,rfl,Yci.z,(Yci.a 2 rfl),(Yci.a 3 rfl),(Yci.a 4 rfl),(Yci.a 5 rfl),q,t,(Yci.a 6 rfl),(Yci.a 7 rfl),(Yci.a 8 rfl),HT,tin7,tal,hS⟩
   ·refine Ybr.k fun R3x29 Ycj => ?_
    clear Ybr;have hS:=hSa;clear hy3x1 hSa;refine Ycj.w 0 rfl (ex_call (args:=#[]) rfl (by simp) rfl) (three9 y3x1) ?_;rintro e c3a ⟨rfl,h3a⟩;refine ⟨_,rfl,hS.trans (h3a.mono hS.size),Ycj.k fun R3x30 Yck => ?_⟩;clear Ycj;have zc0:=h3a.size;have HQ:=HQ.bel h3a;have hS:=hS.trans (h3a.mono hS.size);refine Yck.w 2 rfl (ex_call (args:=#[.int .u64 0,.int .u64 0]) rfl (by simp only [LA,LB,LC,evc] <;> rfl) rfl) (commit9 0 0 c3a) ?_;rintro e c3b ⟨g,rfl,gin,h3b⟩;refine ⟨_,rfl,hS.trans (h3b.mono hS.size),Yck.k fun R3x31 Ycl => ?_⟩;clear Yck;have zc1:=h3b.size;have HQ:=HQ.bel h3b;have hS:=hS.trans (h3b.mono hS.size);refine Ycl.w 3 rfl (ex_call rfl (by simp only [LA,LB,LC,(Ycl.f 26),(Ycl.f 27),(Ycl.f 28),evc] <;> rfl) rfl) (admitC9 t F39 F39 0 0 g false c3b tal (by decide) (ck_f9 0 0) (ad2_9 g).1 (ad2_9 g).2 (tin.later hS) gin (hT.later hS hT.lt)) ?_;rintro e c3c ⟨t,rfl,tin,tal,tup,h3c⟩;refine ⟨_,rfl,hS.trans (h3c.mono hS.size),Ycl.k fun R3x32 Ycm => ?_⟩;clear Ycl;have zc2:=h3c.size;have gin:=gin.later h3c;have HQ:=HQ.bel h3c;have hS:=hS.trans (h3c.mono hS.size)
    refine Ycm.h 4 rfl _ (fun v hv => ex_move rfl (Ycm.f 29)) hS fun R3x33 Ycn => ?_;clear Ycm
    refine Ycn.h 5 rfl _ (fun v hv => ex_ext8 rfl (Ycn.f 25) rfl) hS fun R3x34 Yco => ?_;clear Ycn
    refine Yco.h 6 rfl _ (fun v hv => ex_ext8 rfl (Yco.f 25) rfl) hS fun R3x35 Ycp => ?_;clear Yco
    refine Ycp.h 7 rfl _ (fun v hv => ex_ext8 rfl (Ycp.f 25) rfl) hS fun R3x36 Ycq => ?_;clear Ycp
    have HT:=SB7.put HQ t;have UT:=upd12 c3c q t;have hST:=hS.trans (UT.below hS.size (fun k hk => by omega));refine vh_store8 9 (sets c3c q 0 t.cs) rfl (by kernel_rfl) WN (ex_st rfl (Ycq.f 6) (Ycq.f 30) (st12 HQ t)) rfl hST ?_
    obtain ⟨x7,hx7⟩ : ∃ v,v = sets c3c q 0 t.cs:=⟨_,rfl⟩
    rw [← hx7] at HT UT hST ⊢;clear hx7;have tin7 : t.In x7:=tup q x7 (by omega) UT;have hS:=hST
    refine Ycq.h 10 rfl _ (fun v hv => ex_assign rfl (Ycq.f 31)) hS fun R3x37 Ycr => ?_;clear Ycq
    refine Ycr.h 11 rfl _ (fun v hv => ex_assign rfl (Ycr.f 32)) hS fun R3x38 Ycs => ?_;clear Ycr
    refine vh_done (by kernel_rfl) ?_
    exact ⟨_,rfl,Ycs.z,(Ycs.a 2 rfl),(Ycs.a 3 rfl),(Ycs.a 4 rfl),(Ycs.a 5 rfl),q,t,(Ycs.a 6 rfl),(Ycs.a 7 rfl),(Ycs.a 8 rfl),HT,tin7,tal,hS⟩
  ·clear hz s2 s3 s4 s5
   intro T8 z2 hJ;obtain ⟨hz,s2,s3,s4,s5,q6,t6,s6,s7,s8,HI9⟩:=hJ;obtain ⟨_,_,_,hb⟩:=HI9.out;clear HI9 s6;have hT:=hT.later hb hT.lt;have hB:=hB.trans (hb.mono hB0);have hB0:=hB.size;have HT3:=HT3.bel hb;have tin:=tin.later hb;clear hb
   go_upto_region 4 with fail
   refine v_cut9 (fun T v => T.size = 83∧T[2]? = some (gw true (.int .i64 (fvE9 c39 1)))∧T[3]? = some (gw true (.pointer (some ⟨q3,0,none⟩)))∧T[4]? = some (gw true (.bool true))∧T[5]? = some (gw true (.int .i64 0))∧T[7]? = some (gw true (.bool false))∧T[8]? = some (gw true (.int .i64 0))∧∃ (q : Nat) (t : Sta),T[9]? = some (gw true (.pointer (some ⟨q,0,none⟩)))∧T[10]? = some (gw true (.bool false))∧T[11]? = some (gw true (.int .i64 0))∧Hid (SB7 v q t∧t.In v∧(vst9 1 1 0 0 F39).Alike9 t∧Below z2.heap.size z2 v)) ?_ ?_
   ·refine vh_start (fun v => Below z2.heap.size z2 v) (by kernel_rfl) ?_
    have hS : Below z2.heap.size z2 z2.drew:=BR.drew
    obtain ⟨wd4,hwd⟩ : ∃ y,y = z2.drew:=⟨_,rfl⟩
    rw [← hwd] at hS ⊢;clear hwd;have Yct:=((((((Rp.nil hz).cons s2).cons s3).cons s4).cons s5).cons s7).cons s8;clear hz s2 s3 s4 s5 s7 s8
    refine Yct.h 1 rfl _ (fun v hv => ex_ld rfl (Yct.f 3) (SB7.ld (HT3.bel hv))) hS fun R4x1 Ycu => ?_;clear Yct
    obtain ⟨q,hq⟩ : ∃ z,z = wd4.heap.size:=⟨_,rfl⟩
    obtain ⟨y4x1,hy4x1⟩ : ∃ y,y = wd4.alloc (.cells zS8.cs.toArray 33):=⟨_,rfl⟩
    have ba : Below wd4.heap.size wd4 y4x1:=by rw [hy4x1];exact BR.alloc LR _
    have HQ : SB7 y4x1 q zS8:=by rw [hy4x1,hq];exact BX7.new _ _ _
    have hqb:=hS.size;have hSa:=hS.trans (ba.mono hS.size);have za:=ba.size;have lq:=HQ.lt;refine vh_two9 0 8 (by kernel_rfl) rfl rfl WN (ex_call (args:=#[]) rfl (by simp) rfl) (three9 wd4) rfl Ycu.z (by decide) ?_ (.pointer (some ⟨q,0,none⟩)) y4x1 WN (ex_al rfl (by rw [hy4x1,hq];exact al12 _)) rfl (by decide) hSa ?_
    ·clear ba HQ hy4x1 hSa za lq hqb hq
     rintro e c4a ⟨rfl,h4a⟩;clear y4x1 q;refine ⟨_,rfl,hS.trans (h4a.mono hS.size),Ycu.k fun R4x2 Ycv => ?_⟩;clear Ycu;have zc0:=h4a.size;have hS:=hS.trans (h4a.mono hS.size)
     obtain ⟨q,hq⟩ : ∃ z,z = c4a.heap.size:=⟨_,rfl⟩
     obtain ⟨y4x2,hy4x2⟩ : ∃ y,y = c4a.alloc (.cells zS8.cs.toArray 33):=⟨_,rfl⟩
     have ba : Below c4a.heap.size c4a y4x2:=by rw [hy4x2];exact BR.alloc LR _
     have HQ : SB7 y4x2 q zS8:=by rw [hy4x2,hq];exact BX7.new _ _ _
     have hqb:=hS.size;have hSa:=hS.trans (ba.mono hS.size);have za:=ba.size;have lq:=HQ.lt;refine vh_two9 2 8 (by kernel_rfl) rfl rfl WN (ex_call (args:=#[.int .u64 4,.int .u64 3]) rfl (by simp only [LA,LB,LC,evc] <;> rfl) rfl) (commit9 4 3 c4a) rfl Ycv.z (by decide) ?_ (.pointer (some ⟨q,0,none⟩)) y4x2 WN (ex_al rfl (by rw [hy4x2,hq];exact al12 _)) rfl (by decide) hSa ?_
     ·clear ba HQ hy4x2 hSa za lq hqb hq
      rintro e c4b ⟨g,rfl,gin,h4b⟩;clear y4x2 q;refine ⟨_,rfl,hS.trans (h4b.mono hS.size),Ycv.k fun R4x3 Ycw => ?_⟩;clear Ycv;have zc1:=h4b.size;have hS:=hS.trans (h4b.mono hS.size)
      obtain ⟨q,hq⟩ : ∃ z,z = c4b.heap.size:=⟨_,rfl⟩
      obtain ⟨y4x3,hy4x3⟩ : ∃ y,y = c4b.alloc (.cells zS8.cs.toArray 33):=⟨_,rfl⟩
      have ba : Below c4b.heap.size c4b y4x3:=by rw [hy4x3];exact BR.alloc LR _
      have HQ : SB7 y4x3 q zS8:=by rw [hy4x3,hq];exact BX7.new _ _ _
      have hqb:=hS.size;have hSa:=hS.trans (ba.mono hS.size);have za:=ba.size;have lq:=HQ.lt;refine vh_two9 3 8 (by kernel_rfl) rfl rfl WN (ex_call rfl (by simp only [LA,LB,LC,(Ycw.f 34),(Ycw.f 35),(Ycw.f 36),evc] <;> rfl) rfl) (admitC9 t F39 F39 4 3 g false c4b tal (by decide) (ck_f9 0 0) (ad3_9 g).1 (ad3_9 g).2 (tin.later hS) gin (hT.later hS hT.lt)) rfl Ycw.z (by decide) ?_ (.pointer (some ⟨q,0,none⟩)) y4x3 WN (ex_al rfl (by rw [hy4x3,hq];exact al12 _)) rfl (by decide) hSa ?_
      ·clear ba HQ hy4x3 hSa za lq hqb hq
       rintro e c4c ⟨t,rfl,tin,tal,tup,h4c⟩;clear y4x3 q;refine ⟨_,rfl,hS.trans (h4c.mono hS.size),Ycw.k fun R4x4 Ycx => ?_⟩;clear Ycw;have zc2:=h4c.size;have gin:=gin.later h4c;have hS:=hS.trans (h4c.mono hS.size)
       refine Ycx.h 4 rfl _ (fun v hv => ex_move rfl (Ycx.f 37)) hS fun R4x5 Ycy => ?_;clear Ycx
       refine Ycy.h 5 rfl _ (fun v hv => ex_ext8 rfl (Ycy.f 33) rfl) hS fun R4x6 Ycz => ?_;clear Ycy
       refine Ycz.h 6 rfl _ (fun v hv => ex_ext8 rfl (Ycz.f 33) rfl) hS fun R4x7 Yc0 => ?_;clear Ycz
       refine Yc0.h 7 rfl _ (fun v hv => ex_ext8 rfl (Yc0.f 33) rfl) hS fun R4x8 Yc1 => ?_;clear Yc0
       obtain ⟨q,hq⟩ : ∃ z,z = c4c.heap.size:=⟨_,rfl⟩
       obtain ⟨y4x4,hy4x4⟩ : ∃ y,y = c4c.alloc (.cells zS8.cs.toArray 33):=⟨_,rfl⟩
       have ba : Below c4c.heap.size c4c y4x4:=by rw [hy4x4];exact BR.alloc LR _
       have HQ : SB7 y4x4 q zS8:=by rw [hy4x4,hq];exact BX7.new _ _ _
       have hqb:=hS.size;have hSa:=hS.trans (ba.mono hS.size);have za:=ba.size;have lq:=HQ.lt;refine vh_val8 8 (.pointer (some ⟨q,0,none⟩)) y4x4 rfl (by kernel_rfl) WN (ex_al rfl (by rw [hy4x4,hq];exact al12 _)) rfl Yc1.z (by decide) hSa (Yc1.k fun R4x9 Yc2 => ?_);clear Yc1;have hS:=hSa;clear hy4x4 hSa;have HT:=SB7.put HQ t;have UT:=upd12 y4x4 q t;have hST:=hS.trans (UT.below hS.size (fun k hk => by omega));refine vh_store8 9 (sets y4x4 q 0 t.cs) rfl (by kernel_rfl) WN (ex_st rfl (Yc2.f 9) (Yc2.f 38) (st12 HQ t)) rfl hST ?_
       obtain ⟨x7,hx7⟩ : ∃ v,v = sets y4x4 q 0 t.cs:=⟨_,rfl⟩
       rw [← hx7] at HT UT hST ⊢;clear hx7;have hLT : Below c4c.heap.size c4c x7:=ba.trans (UT.below (by omega) (fun k hk => by omega));have tin7 : t.In x7:=tin.later hLT;have hS:=hST
       refine Yc2.h 10 rfl _ (fun v hv => ex_assign rfl (Yc2.f 39)) hS fun R4x10 Yc3 => ?_;clear Yc2
       refine Yc3.h 11 rfl _ (fun v hv => ex_assign rfl (Yc3.f 40)) hS fun R4x11 Yc4 => ?_;clear Yc3
       refine vh_done (by kernel_rfl) ?_
       exact ⟨_,rfl,Yc4.z,(Yc4.a 2 rfl),(Yc4.a 3 rfl),(Yc4.a 4 rfl),(Yc4.a 5 rfl),(Yc4.a 7 rfl),(Yc4.a 8 rfl),q,t,(Yc4.a 9 rfl),(Yc4.a 10 rfl),(Yc4.a 11 rfl),HT,tin7,tal,hS⟩
      ·refine Ycw.k fun R4x12 Yc5 => ?_
       clear Ycw;have gin:=gin.later ba;have hS:=hSa;clear hy4x3 hSa;refine Yc5.w 3 rfl (ex_call rfl (by simp only [LA,LB,LC,(Yc5.f 34),(Yc5.f 35),(Yc5.f 36),evc] <;> rfl) rfl) (admitC9 t F39 F39 4 3 g false y4x3 tal (by decide) (ck_f9 0 0) (ad3_9 g).1 (ad3_9 g).2 (tin.later hS) gin (hT.later hS hT.lt)) ?_;rintro e c4c ⟨t,rfl,tin,tal,tup,h4c⟩;refine ⟨_,rfl,hS.trans (h4c.mono hS.size),Yc5.k fun R4x13 Yc6 => ?_⟩;clear Yc5;have zc2:=h4c.size;have gin:=gin.later h4c;have HQ:=HQ.bel h4c;have hS:=hS.trans (h4c.mono hS.size)
       refine Yc6.h 4 rfl _ (fun v hv => ex_move rfl (Yc6.f 37)) hS fun R4x14 Yc7 => ?_;clear Yc6
       refine Yc7.h 5 rfl _ (fun v hv => ex_ext8 rfl (Yc7.f 33) rfl) hS fun R4x15 Yc8 => ?_;clear Yc7
       refine Yc8.h 6 rfl _ (fun v hv => ex_ext8 rfl (Yc8.f 33) rfl) hS fun R4x16 Yc9 => ?_;clear Yc8
       refine Yc9.h 7 rfl _ (fun v hv => ex_ext8 rfl (Yc9.f 33) rfl) hS fun R4x17 Yda => ?_;clear Yc9
       have HT:=SB7.put HQ t;have UT:=upd12 c4c q t;have hST:=hS.trans (UT.below hS.size (fun k hk => by omega));refine vh_store8 9 (sets c4c q 0 t.cs) rfl (by kernel_rfl) WN (ex_st rfl (Yda.f 9) (Yda.f 38) (st12 HQ t)) rfl hST ?_
       obtain ⟨x7,hx7⟩ : ∃ v,v = sets c4c q 0 t.cs:=⟨_,rfl⟩
       rw [← hx7] at HT UT hST ⊢;clear hx7;have tin7 : t.In x7:=tup q x7 (by omega) UT;have hS:=hST
       refine Yda.h 10 rfl _ (fun v hv => ex_assign rfl (Yda.f 39)) hS fun R4x18 Ydb => ?_;clear Yda
       refine Ydb.h 11 rfl _ (fun v hv => ex_assign rfl (Ydb.f 40)) hS fun R4x19 Ydc => ?_;clear Ydb
       refine vh_done (by kernel_rfl) ?_
       exact ⟨_,rfl,Ydc.z,(Ydc.a 2 rfl),(Ydc.a 3 rfl),(Ydc.a 4 rfl),(Ydc.a 5 rfl),(Ydc.a 7 rfl),(Ydc.a 8 rfl),q,t,(Ydc.a 9 rfl),(Ydc.a 10 rfl),(Ydc.a 11 rfl),HT,tin7,tal,hS⟩
     ·refine Ycv.k fun R4x20 Ydd => ?_
      clear Ycv;have hS:=hSa;clear hy4x2 hSa;refine Ydd.w 2 rfl (ex_call (args:=#[.int .u64 4,.int .u64 3]) rfl (by simp only [LA,LB,LC,evc] <;> rfl) rfl) (commit9 4 3 y4x2) ?_;rintro e c4b ⟨g,rfl,gin,h4b⟩;refine ⟨_,rfl,hS.trans (h4b.mono hS.size),Ydd.k fun R4x21 Yde => ?_⟩;clear Ydd;have zc1:=h4b.size;have HQ:=HQ.bel h4b;have hS:=hS.trans (h4b.mono hS.size);refine Yde.w 3 rfl (ex_call rfl (by simp only [LA,LB,LC,(Yde.f 34),(Yde.f 35),(Yde.f 36),evc] <;> rfl) rfl) (admitC9 t F39 F39 4 3 g false c4b tal (by decide) (ck_f9 0 0) (ad3_9 g).1 (ad3_9 g).2 (tin.later hS) gin (hT.later hS hT.lt)) ?_;rintro e c4c ⟨t,rfl,tin,tal,tup,h4c⟩;refine ⟨_,rfl,hS.trans (h4c.mono hS.size),Yde.k fun R4x22 Ydf => ?_⟩;clear Yde;have zc2:=h4c.size;have gin:=gin.later h4c;have HQ:=HQ.bel h4c;have hS:=hS.trans (h4c.mono hS.size)
      refine Ydf.h 4 rfl _ (fun v hv => ex_move rfl (Ydf.f 37)) hS fun R4x23 Ydg => ?_;clear Ydf
      refine Ydg.h 5 rfl _ (fun v hv => ex_ext8 rfl (Ydg.f 33) rfl) hS fun R4x24 Ydh => ?_;clear Ydg
      refine Ydh.h 6 rfl _ (fun v hv => ex_ext8 rfl (Ydh.f 33) rfl) hS fun R4x25 Ydi => ?_;clear Ydh
      refine Ydi.h 7 rfl _ (fun v hv => ex_ext8 rfl (Ydi.f 33) rfl) hS fun R4x26 Ydj => ?_;clear Ydi
      have HT:=SB7.put HQ t;have UT:=upd12 c4c q t;have hST:=hS.trans (UT.below hS.size (fun k hk => by omega));refine vh_store8 9 (sets c4c q 0 t.cs) rfl (by kernel_rfl) WN (ex_st rfl (Ydj.f 9) (Ydj.f 38) (st12 HQ t)) rfl hST ?_
      obtain ⟨x7,hx7⟩ : ∃ v,v = sets c4c q 0 t.cs:=⟨_,rfl⟩
      rw [← hx7] at HT UT hST ⊢;clear hx7;have tin7 : t.In x7:=tup q x7 (by omega) UT;have hS:=hST
      refine Ydj.h 10 rfl _ (fun v hv => ex_assign rfl (Ydj.f 39)) hS fun R4x27 Ydk => ?_;clear Ydj
      refine Ydk.h 11 rfl _ (fun v hv => ex_assign rfl (Ydk.f 40)) hS fun R4x28 Ydl => ?_;clear Ydk
      refine vh_done (by kernel_rfl) ?_
      exact ⟨_,rfl,Ydl.z,(Ydl.a 2 rfl),(Ydl.a 3 rfl),(Ydl.a 4 rfl),(Ydl.a 5 rfl),(Ydl.a 7 rfl),(Ydl.a 8 rfl),q,t,(Ydl.a 9 rfl),(Ydl.a 10 rfl),(Ydl.a 11 rfl),HT,tin7,tal,hS⟩
    ·refine Ycu.k fun R4x29 Ydm => ?_
     clear Ycu;have hS:=hSa;clear hy4x1 hSa;refine Ydm.w 0 rfl (ex_call (args:=#[]) rfl (by simp) rfl) (three9 y4x1) ?_;rintro e c4a ⟨rfl,h4a⟩;refine ⟨_,rfl,hS.trans (h4a.mono hS.size),Ydm.k fun R4x30 Ydn => ?_⟩;clear Ydm;have zc0:=h4a.size;have HQ:=HQ.bel h4a;have hS:=hS.trans (h4a.mono hS.size);refine Ydn.w 2 rfl (ex_call (args:=#[.int .u64 4,.int .u64 3]) rfl (by simp only [LA,LB,LC,evc] <;> rfl) rfl) (commit9 4 3 c4a) ?_;rintro e c4b ⟨g,rfl,gin,h4b⟩;refine ⟨_,rfl,hS.trans (h4b.mono hS.size),Ydn.k fun R4x31 Ydo => ?_⟩;clear Ydn;have zc1:=h4b.size;have HQ:=HQ.bel h4b;have hS:=hS.trans (h4b.mono hS.size);refine Ydo.w 3 rfl (ex_call rfl (by simp only [LA,LB,LC,(Ydo.f 34),(Ydo.f 35),(Ydo.f 36),evc] <;> rfl) rfl) (admitC9 t F39 F39 4 3 g false c4b tal (by decide) (ck_f9 0 0) (ad3_9 g).1 (ad3_9 g).2 (tin.later hS) gin (hT.later hS hT.lt)) ?_;rintro e c4c ⟨t,rfl,tin,tal,tup,h4c⟩;refine ⟨_,rfl,hS.trans (h4c.mono hS.size),Ydo.k fun R4x32 Ydp => ?_⟩;clear Ydo;have zc2:=h4c.size;have gin:=gin.later h4c;have HQ:=HQ.bel h4c;have hS:=hS.trans (h4c.mono hS.size)
     refine Ydp.h 4 rfl _ (fun v hv => ex_move rfl (Ydp.f 37)) hS fun R4x33 Ydq => ?_;clear Ydp
     refine Ydq.h 5 rfl _ (fun v hv => ex_ext8 rfl (Ydq.f 33) rfl) hS fun R4x34 Ydr => ?_;clear Ydq
     refine Ydr.h 6 rfl _ (fun v hv => ex_ext8 rfl (Ydr.f 33) rfl) hS fun R4x35 Yds => ?_;clear Ydr
     refine Yds.h 7 rfl _ (fun v hv => ex_ext8 rfl (Yds.f 33) rfl) hS fun R4x36 Ydt => ?_;clear Yds
     have HT:=SB7.put HQ t;have UT:=upd12 c4c q t;have hST:=hS.trans (UT.below hS.size (fun k hk => by omega));refine vh_store8 9 (sets c4c q 0 t.cs) rfl (by kernel_rfl) WN (ex_st rfl (Ydt.f 9) (Ydt.f 38) (st12 HQ t)) rfl hST ?_
     obtain ⟨x7,hx7⟩ : ∃ v,v = sets c4c q 0 t.cs:=⟨_,rfl⟩
     rw [← hx7] at HT UT hST ⊢;clear hx7;have tin7 : t.In x7:=tup q x7 (by omega) UT;have hS:=hST
     refine Ydt.h 10 rfl _ (fun v hv => ex_assign rfl (Ydt.f 39)) hS fun R4x37 Ydu => ?_;clear Ydt
     refine Ydu.h 11 rfl _ (fun v hv => ex_assign rfl (Ydu.f 40)) hS fun R4x38 Ydv => ?_;clear Ydu
     refine vh_done (by kernel_rfl) ?_
     exact ⟨_,rfl,Ydv.z,(Ydv.a 2 rfl),(Ydv.a 3 rfl),(Ydv.a 4 rfl),(Ydv.a 5 rfl),(Ydv.a 7 rfl),(Ydv.a 8 rfl),q,t,(Ydv.a 9 rfl),(Ydv.a 10 rfl),(Ydv.a 11 rfl),HT,tin7,tal,hS⟩
   ·clear hz s2 s3 s4 s5 s7 s8
    intro T7 z3 hJ;obtain ⟨hz,s2,s3,s4,s5,s7,s8,q9,t9,s9,s10,s11,HI9⟩:=hJ;obtain ⟨_,_,_,hb⟩:=HI9.out;clear HI9 s9;have hB:=hB.trans (hb.mono hB0);have hB0:=hB.size;have HT3:=HT3.bel hb;have tin:=tin.later hb;clear hb;obtain ⟨qv,ov,hva,hix,hc1⟩:=vec0_9 tin.v tal.v;have hself : t.self = 1:=tal.self
    have hlen : (t.V.length : Int) = 3:=by rw [tal.v];rfl
    go_upto_region 5 with fail
    refine WL ?_;have Ydw:=((((((((Rp.nil hz).cons s2).cons s3).cons s4).cons s5).cons s7).cons s8).cons s10).cons s11;clear hz s2 s3 s4 s5 s7 s8 s10 s11
    refine Ydw.t _ (ex_move rfl (Ydw.f 2)) fun _ Ydx => ?_;clear Ydw
    refine Ydx.c (ex_call rfl (by simp only [LA,LB,LC,(Ydx.f 41),evc] <;> rfl) rfl) (num9 (fvE9 c39 1) z3) ?_;rintro e n1 ⟨rfl,hb⟩;refine ⟨_,rfl,Ydx.k fun Ydy Ydz => ?_⟩;clear Ydx;have hB:=hB.trans (hb.mono hB0);have hB0:=hB.size;have HT3:=HT3.bel hb;have hc1:=cell8 hc1 hb;clear hb
    refine Ydz.t _ (ex_move rfl (Ydz.f 5)) fun _ Yd0 => ?_;clear Ydz
    refine Yd0.c (ex_call rfl (by simp only [LA,LB,LC,(Yd0.f 43),evc] <;> rfl) rfl) (num9 0 n1) ?_;rintro e n2 ⟨rfl,hb⟩;refine ⟨_,rfl,Yd0.k fun Yd1 Yd2 => ?_⟩;clear Yd0;have hB:=hB.trans (hb.mono hB0);have hB0:=hB.size;have HT3:=HT3.bel hb;have hc1:=cell8 hc1 hb;clear hb
    refine Yd2.t (.int .i64 0) (ex_bin rfl (Yd2.f 42) (Yd2.f 44) (addD8 _ _ _ _ 0 (by rfl) _)) fun _ Yd3 => ?_;clear Yd2
    refine Yd3.t _ (ex_move rfl (Yd3.f 8)) fun _ Yd4 => ?_;clear Yd3
    refine Yd4.c (ex_call rfl (by simp only [LA,LB,LC,(Yd4.f 46),evc] <;> rfl) rfl) (num9 0 n2) ?_;rintro e n3 ⟨rfl,hb⟩;refine ⟨_,rfl,Yd4.k fun Yd5 Yd6 => ?_⟩;clear Yd4;have hB:=hB.trans (hb.mono hB0);have hB0:=hB.size;have HT3:=HT3.bel hb;have hc1:=cell8 hc1 hb;clear hb
    refine Yd6.t (.int .i64 0) (ex_bin rfl (Yd6.f 45) (Yd6.f 47) (addD8 _ _ _ _ 0 (by rfl) _)) fun _ Yd7 => ?_;clear Yd6
    refine Yd7.t _ (ex_move rfl (Yd7.f 11)) fun _ Yd8 => ?_;clear Yd7
    refine Yd8.c (ex_call rfl (by simp only [LA,LB,LC,(Yd8.f 49),evc] <;> rfl) rfl) (num9 0 n3) ?_;rintro e n4 ⟨rfl,hb⟩;refine ⟨_,rfl,Yd8.k fun Yd9 Yea => ?_⟩;clear Yd8;have hB:=hB.trans (hb.mono hB0);have hB0:=hB.size;have HT3:=HT3.bel hb;have hc1:=cell8 hc1 hb;clear hb
    refine Yea.t (.int .i64 0) (ex_bin rfl (Yea.f 48) (Yea.f 50) (addD8 _ _ _ _ 0 (by rfl) _)) fun _ Yeb => ?_;clear Yea
    refine Yeb.t (.bool true) (ex_bin rfl (Yeb.f 51) rfl (eqlI9 _ _ _ _ rfl _)) fun _ Yec => ?_;clear Yeb
    refine Yec.t _ (ex_move rfl (Yec.f 52)) fun _ Yed => ?_;clear Yec
    refine Yed.u 53 rfl _ (ex_move rfl (Yed.f 4)) fun _ Yef => ?_;clear Yed
    refine Yef.t (.bool true) (ex_andT9 rfl (Yef.a 53 rfl) (Yef.a 54 rfl)) fun _ Yeg => ?_;clear Yef
    refine Yeg.t _ (ex_move rfl (Yeg.f 55)) fun _ Yeh => ?_;clear Yeg
    refine Yeh.u 56 rfl _ (ex_move rfl (Yeh.f 7)) fun _ Yej => ?_;clear Yeh
    refine Yej.u 56 rfl (.bool true) (ex_not rfl (Yej.f 57)) fun _ Yel => ?_;clear Yej
    refine Yel.t (.bool true) (ex_andT9 rfl (Yel.a 56 rfl) (Yel.a 58 rfl)) fun _ Yem => ?_;clear Yel
    refine Yem.t _ (ex_move rfl (Yem.f 59)) fun _ Yen => ?_;clear Yem
    refine Yen.u 60 rfl _ (ex_move rfl (Yen.f 10)) fun _ Yep => ?_;clear Yen
    refine Yep.u 60 rfl (.bool true) (ex_not rfl (Yep.f 61)) fun _ Yer => ?_;clear Yep
    refine Yer.t (.bool true) (ex_andT9 rfl (Yer.a 60 rfl) (Yer.a 62 rfl)) fun _ Yes => ?_;clear Yer
    refine Yes.t _ (ex_move rfl (Yes.f 63)) fun _ Yet => ?_;clear Yes
    refine Yet.u 64 rfl _ (ex_fa rfl (Yet.f 3) (faS0 _ _)) fun _ Yev => ?_;clear Yet
    refine Yev.u 64 rfl _ (ex_ld rfl (Yev.f 65) (ldI8 (HT3.cell 0 _ rfl))) fun _ Yex => ?_;clear Yev
    refine Yex.u 64 rfl (.bool true) (ex_bin rfl (Yex.f 66) rfl (eqlI9 _ _ _ _ hself _)) fun _ Yez => ?_;clear Yex
    refine Yez.t (.bool true) (ex_andT9 rfl (Yez.a 64 rfl) (Yez.a 67 rfl)) fun _ Ye0 => ?_;clear Yez
    refine Ye0.t _ (ex_move rfl (Ye0.f 68)) fun _ Ye1 => ?_;clear Ye0
    refine Ye1.u 69 rfl _ (ex_fa rfl (Ye1.f 3) (faS6 _ _)) fun _ Ye3 => ?_;clear Ye1
    refine Ye3.u 69 rfl _ (ex_ld rfl (Ye3.f 70) (ldV8 (HT3.cell 6 _ rfl))) fun _ Ye5 => ?_;clear Ye3
    refine Ye5.u 69 rfl _ (ex_lenV8 rfl rfl (Ye5.f 71)) fun _ Ye7 => ?_;clear Ye5
    refine Ye7.u 69 rfl (.bool true) (ex_bin rfl (Ye7.f 72) rfl (eqlI9 _ _ _ _ hlen _)) fun _ Ye9 => ?_;clear Ye7
    refine Ye9.t (.bool true) (ex_andT9 rfl (Ye9.a 69 rfl) (Ye9.a 73 rfl)) fun _ Yfa => ?_;clear Ye9
    refine Yfa.t _ (ex_move rfl (Yfa.f 74)) fun _ Yfb => ?_;clear Yfa
    refine Yfb.u 75 rfl _ (ex_fa rfl (Yfb.f 3) (faS6 _ _)) fun _ Yfd => ?_;clear Yfb
    refine Yfd.u 75 rfl _ (ex_ld rfl (Yfd.f 76) (ldV8 (HT3.cell 6 _ rfl))) fun _ Yff => ?_;clear Yfd
    refine Yff.u 75 rfl _ (ex_ix rfl (Yff.f 77) rfl (hix _)) fun _ Yfh => ?_;clear Yff
    refine Yfh.u 75 rfl _ (ex_fa rfl (Yfh.f 78) (faD9_1 _ _ _)) fun _ Yfj => ?_;clear Yfh
    refine Yfj.u 75 rfl _ (ex_ld rfl (Yfj.f 79) (ldU9 hc1)) fun _ Yfl => ?_;clear Yfj
    refine Yfl.u 75 rfl (.bool true) (ex_bin rfl (Yfl.f 80) rfl (eqlU9 _ _ _ _ rfl _)) fun _ Yfn => ?_;clear Yfl
    refine Yfn.t (.bool true) (ex_andT9 rfl (Yfn.a 75 rfl) (Yfn.a 81 rfl)) fun _ Yfo => ?_;clear Yfn
    refine Yfo.t _ (ex_assign rfl (Yfo.f 82)) fun _ Yfp => ?_;clear Yfo
    have hz:=Yfp.z;have s0:=Yfp.a 0 rfl;clear Yfp;refine WE ?_
    go_wp2
    refine bodyPost_ret (results_tmp rfl _ _ _) rfl ⟨?_,hB⟩;rw [getD_of s0]
    first | done | rfl
end Go.Proofs.YtpcgnjpodnebpaaGreatDoor
