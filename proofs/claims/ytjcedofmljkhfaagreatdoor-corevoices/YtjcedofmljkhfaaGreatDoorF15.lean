import Derived.Test.YtjcedofmljkhfaaGreatDoorF14
set_option maxRecDepth 100000
set_option linter.unusedVariables false
set_option linter.unusedSimpArgs false
namespace Go.Proofs.YtjcedofmljkhfaaGreatDoor
open Go.RowKit Go.Maps Go.Shelf
open Classical
theorem ex_slice9 {o : Oper} {ρ : Operand → Value} {s : TypeId} {x : Operand} {lo hi mx : Option Operand} {X V : Value} {l h m : Option Value} {w : World} (ho : o.op = .slice s x lo hi mx) (hx : ρ x = X) (hl : lo.map ρ = l) (hh : hi.map ρ = h) (hm : mx.map ρ = m) (hr : (Instr.sliceAt s X l h m).run Tryz.prog w = .ok V w) : (execOp ρ o).run Tryz.prog w = .ok (.value V) w:=by
 unfold execOp
 simp only [ho,hx,hl,hh,hm]
 simp [hr]
theorem results_two9 {fn : Func} {j k : Tmp} {x y : Value} {tmps : Array Value} {w : World} (h : fn.results = #[.tmp j,.tmp k]) (hj : tmps.getD j undef = x) (hk : tmps.getD k undef = y) : (results fn tmps).run Tryz.prog w = .ok (.tuple #[x,y]) w:=by
 simp only [results,h];simp only [Array.getD_eq_getD_getElem?] at hj hk
 simp [Sem.run_bind,Result.andThen,hj,hk]
theorem ex_lenVV9 {o : Oper} {ρ : Operand → Value} {i : Nat} {a : Option Addr} {n k : Nat} {w : World} (ho : o.op = .call { callee:=.builtin .len,args:=#[.tmp i],argTypes:=#[94] }) (ht : o.type = 3) (hx : ρ (.tmp i) = .slice a n k) : (execOp ρ o).run Tryz.prog w = .ok (.value (.int .i64 (n : Int))) w:=by
 unfold execOp
 simp only [ho,resolve,invoke,builtin,Sem.run_bind,Sem.run_pure,Result.andThen_ok,List.map_toArray,List.map_cons,List.map_nil,hx,ht]
 go_simp
theorem eql20_9 (x y : Operand) (w : World) : (do eqGuard .eql 3 x y (.int .i64 2) (.int .i64 0);binOp .eql 3 (.int .i64 2) (.int .i64 0) : Sem Value).run Tryz.prog w = .ok (.bool false) w:=eqlC x y 2 0 w
theorem neqE9 (x y : Operand) (a b : Int) (h : a = b) (w : World) : (do eqGuard .neq 3 x y (.int .i64 a) (.int .i64 b);binOp .neq 3 (.int .i64 a) (.int .i64 b) : Sem Value).run Tryz.prog w = .ok (.bool false) w:=(neqC x y a b w).trans (by rw [decide_eq_true h];rfl)
theorem ixVV9 (g : Nat) (w : World) : (Instr.indexAt 94 (.slice (some ⟨g,0,none⟩) 2 2) (.int .i64 0)).run Tryz.prog w = .ok (.pointer (some ⟨g,0,none⟩)) w:=by go_simp
theorem ixVV1_9 (g : Nat) (w : World) : (Instr.indexAt 94 (.slice (some ⟨g,1,none⟩) 1 1) (.int .i64 ((0 : Nat) : Int))).run Tryz.prog w = .ok (.pointer (some ⟨g,1,none⟩)) w:=by
 show (Instr.indexAt 94 (.slice (some ⟨g,1,none⟩) 1 1) (.int .i64 0)).run Tryz.prog w = _
 go_simp
theorem slVV9 (g : Nat) (w : World) : (Instr.sliceAt 94 (.slice (some ⟨g,0,none⟩) 2 2) (some (.int .i64 1)) none none).run Tryz.prog w = .ok (.slice (some ⟨g,1,none⟩) 1 1) w:=by
 go_simp
 first | done | rfl
set_option maxHeartbeats 1000000 in
theorem merge9 (D V : List (Int × Int)) (a1 a2 : Option Addr) (c1 c2 g0 : Nat) (w : World) (h1 : SlY yD w a1 D.length c1 D) (h2 : SlY yD w a2 V.length c2 V) (hl : V.length = D.length) (hn : 1 ≤ D.length∧D.length ≤ 7) (b0 : w.cell? ⟨g0,0,none⟩ = some (.slice a1 D.length c1)) (b1 : w.cell? ⟨g0,1,none⟩ = some (.slice a2 V.length c2)) : Calls Tryz.prog 19 #[.slice (some ⟨g0,0,none⟩) 2 2] w fun e w' => ∃ g,e = .returned (.tuple #[.slice (some ⟨g,0,none⟩) D.length D.length,.int .i64 0])∧OwnY yD w.heap.size w' (.slice (some ⟨g,0,none⟩) D.length D.length) (jn9 D V)∧Below w.heap.size w w':=by
 go_enter Tryz.func19,Tryz.ntmps19
 go_upto_region 0 with fail
 refine wp_region_lit ?_;refine vl_gen (fun T => T.size = 38∧T[0]? = some (gw true (.slice (some ⟨g0,0,none⟩) 2 2))) ⟨rfl,rfl⟩ (fun Z0 ⟨hz,s0⟩ => ?_);have hB : Below w.heap.size w w:=Below.refl _ _;have hv0 : Below w.heap.size w w:=Below.refl _ _;have hg9 : g0 < w.heap.size:=World.block_lt_of_cell? _ _ b0;have hin : inB (D.length : Int) 1 7 = true:=inB_iff.2 (by omega);have Ya:=(Rp.nil hz).cons s0;clear hz s0
 refine Ya.t (.slice none 0 0) (ex_assign rfl rfl) fun _ Yb => ?_;clear Ya
 refine Yb.t (.int .i64 0) (ex_assign rfl rfl) fun _ Yc => ?_;clear Yb
 have hz:=Yc.z;have s0:=Yc.a 0 rfl;clear Yc;refine wpList_nil ?_
 go_upto_region 1 with fail
 refine wp_region_lit ?_;have Yd:=(Rp.nil hz).cons s0;clear hz s0
 refine Yd.t _ (ex_move rfl (Yd.f 0)) fun _ Ye => ?_;clear Yd
 refine Ye.t _ (ex_lenVV9 rfl rfl (Ye.f 7)) fun _ Yf => ?_;clear Ye
 refine Yf.t (.bool false) (ex_bin rfl (Yf.f 8) rfl (eql20_9 _ _ _)) fun _ Yg => ?_;clear Yf
 refine Yg.t _ (ex_move rfl (Yg.f 9)) fun _ Yh => ?_;clear Yg
 refine vl true (.slice (some ⟨g0,0,none⟩) 2 2) (want_k rfl rfl (Yh.a 10 rfl)) (fun hc => ex_move rfl (Yh.f 0)) rfl Yh.z (by decide) (Yh.k fun Yi Yj => ?_);clear Yh;refine vl true (.pointer (some ⟨g0,0,none⟩)) (want_k rfl rfl (Yj.a 10 rfl)) (fun hc => ex_ix rfl (Yj.f 11) rfl (ixVV9 g0 _)) rfl Yj.z (by decide) (Yj.k fun Yk Yl => ?_);clear Yj;refine vl true (.slice a1 D.length c1) (want_k rfl rfl (Yl.a 10 rfl)) (fun hc => ex_ld rfl (Yl.f 12) (ldV8 b0)) rfl Yl.z (by decide) (Yl.k fun Ym Yn => ?_);clear Yl;refine vcall true (.bool (inB (D.length : Int) 1 7)) (want_k rfl rfl (Yn.a 10 rfl)) (fun hc => ex_call rfl (by simp only [List.map_toArray,List.map_cons,List.map_nil,(Yn.f 13),evc] <;> rfl) rfl) (fun hc => maybe9 a1 D.length c1 w) rfl Yn.z (by decide) (Yn.kc fun Yo x1 hb Yp => ?_);clear Yn;have hx1:=hv0.trans (hb.mono hv0.size);clear hb;refine vl true (.bool (!(inB (D.length : Int) 1 7))) (want_k rfl rfl (Yp.a 10 rfl)) (fun hc => ex_not rfl (Yp.f 14)) rfl Yp.z (by decide) (Yp.k fun Yq Yr => ?_);clear Yp
 refine Yr.t (.bool (false || (!(inB (D.length : Int) 1 7)))) (ex_or rfl (Yr.a 10 rfl) (Yr.a 15 rfl) rfl) fun _ Ys => ?_;clear Yr
 have hz:=Ys.z;have s0:=Ys.a 0 rfl;have s16:=Ys.a 16 rfl;clear Ys;refine wpList_nil ?_
 go_upto_region 3 with fail
 refine wp_cond_false ((ev s16 rfl).trans (congrArg Value.bool (show ((false || (!(inB (D.length : Int) 1 7)))) = false by rw [hin];rfl))) ?_;clear s16;have hB:=hB.trans (hx1.mono (by omega));have b0:=cell8 b0 hx1;have b1:=cell8 b1 hx1;have h1:=h1.later hx1;have h2:=h2.later hx1;have zx:=hx1.size
 obtain ⟨wx,hwx⟩ : ∃ z,z = x1:=⟨_,rfl⟩
 rw [← hwx] at b0 b1 h1 h2 hB zx ⊢;clear hwx
 have hgx : ¬ g0 = wx.heap.size:=by omega
 go_upto_region 3 with fail
 refine wp_region_lit ?_;have Yt:=(Rp.nil hz).cons s0;clear hz s0
 refine Yt.t _ (ex_move rfl (Yt.f 0)) fun _ Yu => ?_;clear Yt
 refine Yu.t _ (ex_ix rfl (Yu.f 17) rfl (ixVV9 g0 _)) fun _ Yv => ?_;clear Yu
 refine Yv.t _ (ex_ld rfl (Yv.f 18) (ldV8 b0)) fun _ Yw => ?_;clear Yv
 refine vcallP (want_none rfl) (ex_call rfl (by simp only [List.map_toArray,List.map_cons,List.map_nil,(Yw.f 19),evc] <;> rfl) rfl) (copiedV9 D a1 _ c1 wx h1 (by omega)) rfl Yw.z (by decide) ?_;rintro e y1 ⟨rfl,oD,bD⟩;refine ⟨_,rfl,Yw.k fun Yx Yy => ?_⟩;clear Yw;have z1:=bD.size;have b1:=cell8 b1 bD
 have h2n : ∀ x,a2 = some x → x.block ≠ wx.heap.size:=fun x hx => by obtain ⟨q,o,e,hq,_⟩:=h2.place (by rintro rfl;simp at hl;omega);rw [e] at hx;cases hx;show q ≠ _;omega
 have h2:=h2.later bD;have hB:=hB.trans (bD.mono (by omega));have oD:=oD.low (B':=w.heap.size) (by omega)
 refine Yy.t _ (ex_assign rfl (Yy.f 20)) fun _ Yz => ?_;clear Yy
 have hz:=Yz.z;have s0:=Yz.a 0 rfl;have s4:=Yz.a 4 rfl;clear Yz;refine wpList_nil ?_
 go_upto_region 4 with fail
 refine wp_region_lit ?_;have Y0:=((Rp.nil hz).cons s0).cons s4;clear hz s0 s4
 refine Y0.t _ (ex_move rfl (Y0.f 0)) fun _ Y1 => ?_;clear Y0
 refine Y1.t (.slice (some ⟨g0,1,none⟩) 1 1) (ex_slice9 rfl (Y1.f 21) rfl rfl rfl (slVV9 g0 _)) fun _ Y2 => ?_;clear Y1
 refine Y2.t _ (ex_lenVV9 rfl rfl (Y2.f 22)) fun _ Y3 => ?_;clear Y2
 refine Y3.t (.int .i64 0) (ex_move rfl rfl) fun _ Y4 => ?_;clear Y3
 have hz:=Y4.z;have s4:=Y4.a 4 rfl;have s22:=Y4.a 22 rfl;have s23:=Y4.a 23 rfl;have s24:=Y4.a 24 rfl;clear Y4;refine wpList_nil ?_;have hs24 : _ = some (gw true (.int .i64 ((0 : Nat) : Int))):=s24
 go_upto_region 5 with fail
 refine v_loop 24 1 (fun i T wr => T.size = 38∧T[4]? = some (gw true (.slice (some ⟨wx.heap.size,0,none⟩) D.length D.length))∧T[22]? = some (gw true (.slice (some ⟨g0,1,none⟩) 1 1))∧T[23]? = some (gw true (.int .i64 1))∧T[24]? = some (gw true (.int .i64 (i : Int)))∧Hid (OwnY yD w.heap.size wr (.slice (some ⟨wx.heap.size,0,none⟩) D.length D.length) (if i = 0 then D else jn9 D V)∧Upd (fun k => k = wx.heap.size) y1 wr)) (fun i T w h => h.2.2.2.2.1) ⟨hz,s4,s22,s23,hs24,by rw [if_pos rfl];exact oD,Upd.refl _ _⟩ ?_;clear hz s4 s22 s23 s24 hs24;intro i R0 wr hi hh;obtain ⟨hz,s4,s22,s23,s24,HJ⟩:=hh;obtain ⟨OW,UW⟩:=HJ.out;clear HJ hv0;have zw:=UW.size
 by_cases hit : i < 1
 ·obtain rfl : i = 0:=by omega
  have d1 : decide (((0 : Nat) : Int) < 1) = true:=rfl;rw [if_pos rfl] at OW
  go_upto_region 5 with fail
  refine wp_region_lit ?_;have Y5:=((((Rp.nil hz).cons s4).cons s22).cons s23).cons s24;clear hz s4 s22 s23 s24
  refine Y5.t (.bool true) (ex_bin rfl (Y5.f 24) (Y5.f 23) (lssD8 _ _ _ _ true d1 _)) fun _ Y6 => ?_;clear Y5
  have hz:=Y6.z;have s4:=Y6.a 4 rfl;have s22:=Y6.a 22 rfl;have s23:=Y6.a 23 rfl;have s24:=Y6.a 24 rfl;have s25:=Y6.a 25 rfl;clear Y6;refine wpList_nil ?_
  go_upto_region 6 with fail
  refine wp_cond_true ((ev s25 rfl).trans rfl) ?_;clear s25 d1;have hg0 : g0 < y1.heap.size:=World.block_lt_of_cell? _ _ b1;have hg1 : ¬ g0 = wx.heap.size:=hgx;have b1:=(UW.cell (p:=⟨g0,1,none⟩) hg0 hg1).trans b1;have h2:=h2.upd UW (fun x hx _ => h2n x hx)
  go_upto_region 6 with fail
  refine wp_region_lit ?_;have Y7:=((((Rp.nil hz).cons s4).cons s22).cons s23).cons s24;clear hz s4 s22 s23 s24
  refine Y7.t _ (ex_ix rfl (Y7.f 22) (Y7.f 24) (ixVV1_9 g0 _)) fun _ Y8 => ?_;clear Y7
  refine Y8.t _ (ex_ld rfl (Y8.f 26) (ldV8 b1)) fun _ Y9 => ?_;clear Y8
  refine Y9.t _ (ex_assign rfl (Y9.f 27)) fun _ Yba => ?_;clear Y9
  have hz:=Yba.z;have s4:=Yba.a 4 rfl;have s6:=Yba.a 6 rfl;have s22:=Yba.a 22 rfl;have s23:=Yba.a 23 rfl;have s24:=Yba.a 24 rfl;clear Yba;refine wpList_nil ?_
  go_upto_region 7 with fail
  refine wp_region_lit ?_;have Ybb:=(((((Rp.nil hz).cons s4).cons s6).cons s22).cons s23).cons s24;clear hz s4 s6 s22 s23 s24
  refine Ybb.t _ (ex_move rfl (Ybb.f 6)) fun _ Ybc => ?_;clear Ybb
  refine Ybc.t _ (ex_lenV8 rfl rfl (Ybc.f 28)) fun _ Ybd => ?_;clear Ybc
  refine Ybd.t _ (ex_move rfl (Ybd.f 4)) fun _ Ybe => ?_;clear Ybd
  refine Ybe.t _ (ex_lenV8 rfl rfl (Ybe.f 30)) fun _ Ybf => ?_;clear Ybe
  refine Ybf.t (.bool false) (ex_bin rfl (Ybf.f 29) (Ybf.f 31) (neqE9 _ _ _ _ (by omega) _)) fun _ Ybg => ?_;clear Ybf
  have hz:=Ybg.z;have s4:=Ybg.a 4 rfl;have s6:=Ybg.a 6 rfl;have s22:=Ybg.a 22 rfl;have s23:=Ybg.a 23 rfl;have s24:=Ybg.a 24 rfl;have s32:=Ybg.a 32 rfl;clear Ybg;refine wpList_nil ?_
  go_upto_region 9 with fail
  refine wp_cond_false ((ev s32 rfl).trans rfl) ?_;clear s32
  go_upto_region 9 with fail
  refine wp_region_lit ?_;have Ybh:=(((((Rp.nil hz).cons s4).cons s6).cons s22).cons s23).cons s24;clear hz s4 s6 s22 s23 s24
  refine Ybh.t _ (ex_move rfl (Ybh.f 4)) fun _ Ybi => ?_;clear Ybh
  refine Ybi.t _ (ex_move rfl (Ybi.f 6)) fun _ Ybj => ?_;clear Ybi
  refine vcallP (want_none rfl) (ex_call rfl (by simp only [List.map_toArray,List.map_cons,List.map_nil,(Ybj.f 33),(Ybj.f 34),evc] <;> rfl) rfl) (raise9 D V w.heap.size wx.heap.size D.length a2 c2 wr OW h2 hl (by omega) h2n) rfl Ybj.z (by decide) ?_;rintro e y3 ⟨rfl,OJ,UJ⟩;refine ⟨_,rfl,Ybj.k fun Ybk Ybl => ?_⟩;clear Ybj;have hz:=Ybl.z;have s4:=Ybl.a 4 rfl;have s22:=Ybl.a 22 rfl;have s23:=Ybl.a 23 rfl;have s24:=Ybl.a 24 rfl;clear Ybl;refine wpList_nil ?_
  go_upto_region 10 with fail
  refine wp_region_lit ?_;have Ybm:=((((Rp.nil hz).cons s4).cons s22).cons s23).cons s24;clear hz s4 s22 s23 s24
  refine Ybm.t (.int .i64 ((0 + 1 : Nat) : Int)) (ex_bin rfl (Ybm.f 24) rfl (addD8 _ _ _ 1 ((0 + 1 : Nat) : Int) (by rw [IntKind.wrap_i64];omega) _)) fun _ Ybn => ?_;clear Ybm
  refine Ybn.t _ (ex_move rfl (Ybn.f 36)) fun _ Ybo => ?_;clear Ybn
  have hz:=Ybo.z;have s4:=Ybo.a 4 rfl;have s22:=Ybo.a 22 rfl;have s23:=Ybo.a 23 rfl;have s24:=Ybo.a 24 rfl;clear Ybo;refine wpList_nil ?_
  exact ⟨_,rfl,by omega,hz,s4,s22,s23,s24,by rw [if_neg (by omega)];exact OJ,UW.trans UJ⟩
 ·have d1 : decide ((i : Int) < 1) = false:=decide_eq_false (by omega)
  rw [if_neg (by omega)] at OW
  go_upto_region 5 with fail
  refine wp_region_lit ?_;have Ybp:=((((Rp.nil hz).cons s4).cons s22).cons s23).cons s24;clear hz s4 s22 s23 s24
  refine Ybp.t (.bool false) (ex_bin rfl (Ybp.f 24) (Ybp.f 23) (lssD8 _ _ _ _ false d1 _)) fun _ Ybq => ?_;clear Ybp
  have hz:=Ybq.z;have s4:=Ybq.a 4 rfl;have s25:=Ybq.a 25 rfl;clear Ybq;refine wpList_nil ?_
  go_upto_region 11 with fail
  refine wp_cond_false ((ev s25 rfl).trans rfl) ?_;clear s25 d1
  go_upto_region 11 with fail
  refine wp_region_lit ?_;have Ybr:=(Rp.nil hz).cons s4;clear hz s4
  refine Ybr.t _ (ex_move rfl (Ybr.f 4)) fun _ Ybs => ?_;clear Ybr
  refine Ybs.t _ (ex_assign rfl (Ybs.f 37)) fun _ Ybt => ?_;clear Ybs
  refine Ybt.t (.int .i64 0) (ex_assign rfl rfl) fun _ Ybu => ?_;clear Ybt
  have hz:=Ybu.z;have s2:=Ybu.a 2 rfl;have s3:=Ybu.a 3 rfl;clear Ybu;refine wpList_nil ?_;have hB9:=hide (hB.trans (UW.below (by omega) (fun k hk => by omega)))
  go_wp2
  refine bodyPost_ret (results_two9 rfl (getD_of s2) (getD_of s3)) rfl ?_
  exact ⟨_,rfl,OW,hB9.out⟩
def rs9 (n self : Int) : Int → List Mk → Bool
 | _,[] => true
 | least,x :: r => !((decide (x.n < least) || decide (n ≤ x.n)) || decide (x.n = self)) && rs9 n self (x.n + 1) r
theorem Ak.ckl9 (c : Cg) (self : Int) : ∀ (L : List Ak) (least : Int),Ak.ckl c self least L = (rs9 (2 * c.F + 1) self least (L.map Ak.sm) && L.all fun x => Ak.mb x (2 * c.F + 1) c.R)
 | [],least => rfl
 | x :: r,least => by
  unfold Ak.ckl
  rw [Ak.ckl9 c self r (x.n + 1)];simp only [List.map_cons,rs9,List.all_cons,show (Ak.sm x).n = x.n from rfl]
  cases Ak.mb x (2 * c.F + 1) c.R <;> by_cases h1 : x.n < least <;> by_cases h2 : 2 * c.F + 1 ≤ x.n <;> by_cases h3 : x.n = self <;> simp [h1,h2,h3]
theorem Mk.ckl9 (c : Cg) (self : Int) : ∀ (L : List Mk) (least : Int),Mk.ckl c self least L = (rs9 (2 * c.F + 1) self least (L.map Mk.sm) && L.all fun x => Mk.mb x (2 * c.F + 1) c.R)
 | [],least => rfl
 | x :: r,least => by
  unfold Mk.ckl
  rw [Mk.ckl9 c self r (x.n + 1)];simp only [List.map_cons,rs9,List.all_cons,show (Mk.sm x).n = x.n from rfl]
  cases Mk.mb x (2 * c.F + 1) c.R <;> by_cases h1 : x.n < least <;> by_cases h2 : 2 * c.F + 1 ≤ x.n <;> by_cases h3 : x.n = self <;> simp [h1,h2,h3]
theorem Bl.ckl9 (c : Cg) (self : Int) : ∀ (L : List Bl) (least : Int),Bl.ckl c self least L = (rs9 (2 * c.F + 1) self least (L.map Bl.sm) && L.all fun x => Bl.mb x (2 * c.F + 1) c.R)
 | [],least => rfl
 | x :: r,least => by
  unfold Bl.ckl
  rw [Bl.ckl9 c self r (x.n + 1)];simp only [List.map_cons,rs9,List.all_cons,show (Bl.sm x).n = x.n from rfl]
  cases Bl.mb x (2 * c.F + 1) c.R <;> by_cases h1 : x.n < least <;> by_cases h2 : 2 * c.F + 1 ≤ x.n <;> by_cases h3 : x.n = self <;> simp [h1,h2,h3]
theorem An.ckl9 (c : Cg) (self : Int) : ∀ (L : List An) (least : Int),An.ckl c self least L = (rs9 (2 * c.F + 1) self least (L.map An.sm) && L.all fun x => An.mb x (2 * c.F + 1) c.R)
 | [],least => rfl
 | x :: r,least => by
  unfold An.ckl
  rw [An.ckl9 c self r (x.n + 1)];simp only [List.map_cons,rs9,List.all_cons,show (An.sm x).n = x.n from rfl]
  cases An.mb x (2 * c.F + 1) c.R <;> by_cases h1 : x.n < least <;> by_cases h2 : 2 * c.F + 1 ≤ x.n <;> by_cases h3 : x.n = self <;> simp [h1,h2,h3]
theorem rs9_iff (n self : Int) : ∀ (X : List Mk) (least : Int),rs9 n self least X = true ↔ ∀ i,i < X.length → (X.getD i z3m).n < n∧(X.getD i z3m).n ≠ self∧least ≤ (X.getD i z3m).n∧(0 < i → (X.getD (i - 1) z3m).n < (X.getD i z3m).n)
 | [],least => by simp [rs9]
 | x :: r,least => by
  have ih:=rs9_iff n self r (x.n + 1);simp only [rs9,Bool.and_eq_true,Bool.not_eq_true',Bool.or_eq_false_iff,decide_eq_false_iff_not,ih]
  constructor
  ·rintro ⟨⟨⟨h1,h2⟩,h3⟩,h4⟩ i hi
   cases i with
   | zero => exact ⟨by simp;omega,by simpa using h3,by simp;omega,fun h => by omega⟩
   | succ k =>
    have hk:=h4 k (by simp at hi;omega);refine ⟨by simpa using hk.1,by simpa using hk.2.1,by simp only [List.getD_cons_succ];omega,fun _ => ?_⟩
    cases k with
    | zero => simp only [List.getD_cons_succ,Nat.zero_add,Nat.sub_self,List.getD_cons_zero];omega
    | succ j => simpa using hk.2.2.2 (by omega)
  ·intro h
   have h0:=h 0 (by simp)
   simp at h0
   have up : ∀ i,i < r.length → x.n < (r.getD i z3m).n:=by
    intro i
    induction i with
    | zero =>
     intro hi;have:=(h 1 (by simp;omega)).2.2.2 (by omega)
     simpa using this
    | succ k ihk =>
     intro hi;have:=(h (k + 2) (by simp;omega)).2.2.2 (by omega)
     have e1 : ((x :: r).getD (k + 2 - 1) z3m).n = (r.getD k z3m).n:=by simp
     have e2 : ((x :: r).getD (k + 2) z3m).n = (r.getD (k + 1) z3m).n:=by simp
     rw [e1,e2] at this;have:=ihk (by omega)
     omega
   refine ⟨⟨⟨by omega,by omega⟩,h0.2.1⟩,fun i hi => ?_⟩;have hs:=h (i + 1) (by simp;omega);simp only [List.getD_cons_succ] at hs;refine ⟨hs.1,hs.2.1,by have:=up i hi;omega,fun h0i => ?_⟩;have:=hs.2.2.2 (by omega)
   cases i with
   | zero => omega
   | succ j => simpa using this
theorem rv9_eq (s : Sta) (n : Int) (X : List Mk) : rv9 s n X = (rs9 n s.self 0 X && X.all (lv8 s.V)):=by
 rw [Bool.eq_iff_iff,Bool.and_eq_true,rs9_iff,List.all_eq_true]
 unfold rv9
 rw [List.all_eq_true];simp only [List.mem_range,vbad9,Bool.not_eq_true',Bool.or_eq_false_iff,Bool.and_eq_false_iff,decide_eq_false_iff_not,Bool.not_eq_false',decide_eq_true_eq,lv8]
 constructor
 ·intro h
  refine ⟨fun i hi => ?_,fun x hx => ?_⟩
  ·have:=h i hi
   exact ⟨by omega,by omega,by omega,fun h0 => by omega⟩
  ·obtain ⟨i,hi,rfl⟩:=List.mem_iff_getElem.1 hx
   have:=(h i hi).2;rw [show X.getD i z3m = X[i] from by simp [hi]] at this
   exact this
 ·rintro ⟨h,hl⟩ i hi
  have h1:=h i hi;have h2:=hl _ (List.getElem_mem hi);rw [show X[i] = X.getD i z3m from by simp [hi]] at h2;refine ⟨⟨⟨⟨by omega,by omega⟩,by omega⟩,?_⟩,h2⟩
  by_cases h0 : 0 < i
  ·right;have:=h1.2.2.2 h0;omega
  ·left;omega
theorem ix_any9 {α : Type} (p : α → Bool) (l : List α) : decide (0 ≤ ix p l) = l.any p:=by
 unfold ix
 cases h : l.findIdx? p with
 | none =>
  rw [List.findIdx?_eq_none_iff] at h;rw [List.any_eq_false.2 (fun x hx => by rw [h x hx];decide)]
  rfl
 | some i =>
  rw [List.findIdx?_eq_some_iff_getElem] at h;obtain ⟨hi,hp,_⟩:=h;rw [List.any_eq_true.2 ⟨l[i],List.getElem_mem hi,hp⟩]
  exact decide_eq_true (Int.natCast_nonneg i)
theorem okB_facts9 {c : Cg} (h : c.okB = true) : c.ok = true∧c.nd = 2 * c.F + 1∧1 ≤ c.F∧c.F ≤ 3∧1 ≤ c.R∧c.R ≤ 256∧6 ≤ c.P∧c.P ≤ 100:=by
 have h2:=h;simp only [Cg.okB,Bool.and_eq_true,inB_iff] at h2
 exact ⟨decide_eq_true ⟨by omega,by omega,by omega,by omega⟩,by simp [Cg.nd,h],by omega,by omega,by omega,by omega,by omega,by omega⟩
def Sta.rsB (s : Sta) (n : Int) : Bool:=((rs9 n s.self 0 (s.A.map Ak.sm) && rs9 n s.self 0 (s.M.map Mk.sm)) && rs9 n s.self 0 (s.B.map Bl.sm)) && rs9 n s.self 0 (s.N.map An.sm)
def Sta.mbB (s : Sta) (c : Cg) : Bool:=(s.A.all (fun x => Ak.mb x c.nd c.R) && s.B.all fun x => Bl.mb x c.nd c.R) && s.N.all fun x => An.mb x c.nd c.R
theorem votB9 {c : Cg} (s : Sta) (h : c.okB = true) : s.votB c = (s.rsB c.nd && s.mbB c):=by
 obtain ⟨h1,h2,_⟩:=okB_facts9 h
 unfold Sta.votB Sta.rsB Sta.mbB Ak.ck Mk.ck Bl.ck An.ck
 rw [h1,Ak.ckl9,Mk.ckl9,Bl.ckl9,An.ckl9,← h2];have hm : (s.M.all fun x => Mk.mb x c.nd c.R) = true:=List.all_eq_true.2 (fun x hx => rfl);rw [hm]
 generalize rs9 c.nd s.self 0 (s.A.map Ak.sm) = a
 generalize rs9 c.nd s.self 0 (s.M.map Mk.sm) = b
 generalize rs9 c.nd s.self 0 (s.B.map Bl.sm) = d
 generalize rs9 c.nd s.self 0 (s.N.map An.sm) = e
 generalize (s.A.all fun x => Ak.mb x c.nd c.R) = p
 generalize (s.B.all fun x => Bl.mb x c.nd c.R) = q
 generalize (s.N.all fun x => An.mb x c.nd c.R) = r
 revert a b d e p q r
 decide
theorem vtB9_eq (s : Sta) (n : Int) : s.vtB9 n = (s.rsB n && s.livB):=by
 unfold Sta.vtB9 Sta.rsB Sta.livB Sta.vs
 rw [rv9_eq,rv9_eq,rv9_eq,rv9_eq];simp only []
 generalize rs9 n s.self 0 (s.A.map Ak.sm) = a
 generalize rs9 n s.self 0 (s.M.map Mk.sm) = b
 generalize rs9 n s.self 0 (s.B.map Bl.sm) = d
 generalize rs9 n s.self 0 (s.N.map An.sm) = e
 generalize (s.A.map Ak.sm).all (lv8 s.V) = p
 generalize (s.M.map Mk.sm).all (lv8 s.V) = q
 generalize (s.B.map Bl.sm).all (lv8 s.V) = r
 generalize (s.N.map An.sm).all (lv8 s.V) = t
 revert a b d e p q r t
 decide
theorem lgB9_lmb {c : Cg} (h : c.okB = true) (L : List En) (x : Int) : lgB9 c L x = lmb L x c.R:=by
 obtain ⟨_,_,_,_,h3,h4,_⟩:=okB_facts9 h
 unfold lgB9 lmb
 rw [chk_lg h3 h4];rw [Bool.eq_iff_iff];simp only [Bool.and_eq_true,decide_eq_true_eq,and_assoc]
theorem mh9_eq {c : Cg} (s : Sta) (h : c.okB = true) : s.mh9 c = !((s.numB c && s.rsB c.nd) && s.livB):=by
 obtain ⟨_,_,_,_,h3,h4,_⟩:=okB_facts9 h
 unfold Sta.mh9
 rw [lgB9_lmb h,vtB9_eq];rw [Bool.eq_iff_iff];simp only [Sta.numB,lmb,inB,Bool.or_eq_true,Bool.not_eq_true',Bool.and_eq_false_iff,decide_eq_true_eq,decide_eq_false_iff_not]
 have hv : ((if (s.V.length : Int) = c.nd then (0 : Int) else 30) = 0) ↔ (s.V.length : Int) = c.nd:=by
  by_cases hh : (s.V.length : Int) = c.nd
  ·rw [if_pos hh];simp [hh]
  ·rw [if_neg hh];simp [hh]
 rw [hv]
 by_cases a : s.rsB c.nd = false <;> by_cases b : s.livB = false <;> by_cases d : (chk s.L c.R).1 = 0 <;> simp [a,b,d] <;> omega
theorem pr_view9 {c : Cg} {s : Sta} (h : c.okB = true) (hn : s.numB c = true) : c.pr s.view = s.view % c.nd:=by
 simp only [Sta.numB,Bool.and_eq_true] at hn
 unfold Cg.pr
 rw [h,hn.1.1.1.2]
 rfl
theorem numB_facts9 {c : Cg} {s : Sta} (h : c.okB = true) (hn : s.numB c = true) : 0 ≤ s.view∧s.view ≤ 4294967296∧0 ≤ s.last∧s.last ≤ s.view∧0 ≤ s.commit∧s.commit ≤ (s.L.length : Int)∧0 ≤ s.idle∧(s.L.length : Int) ≤ c.R:=by
 obtain ⟨_,_,_,_,h3,h4,_⟩:=okB_facts9 h;simp only [Sta.numB,Bool.and_eq_true,inB_iff,decide_eq_true_eq] at hn;have hl:=hn.1.1.1.1.1.1;rw [chk_lg h3 h4] at hl
 unfold lg at hl
 have : ¬ c.R < (s.L.length : Int):=fun hc => by rw [if_pos hc] at hl;cases hl
 have hv:=hn.1.1.1.2;have h5:=hn.1.1.2;have h6:=hn.1.2;have h7:=hn.2
 exact ⟨by omega,by omega,by omega,by omega,by omega,by omega,by omega,by omega⟩
theorem nil_of9 {α : Type} {l : List α} (h : ((l.length : Nat) : Int) ≤ 0) : l = []:=List.eq_nil_of_length_eq_zero (by omega)
theorem nor9 {c : Cg} {s : Sta} (h : c.okB = true) (hn : s.numB c = true) : (s.mbB c && s.norB c) = (bif s.mn9 c then false else !(s.A.any (rkb9 s))):=by
 obtain ⟨v0,v1,l0,l1,c0,c1,i0,lr⟩:=numB_facts9 h hn
 unfold Sta.norB Sta.mn9
 rw [pr_view9 h hn]
 have hp : ∀ x : Ak,(!inB x.p 1 (s.L.length : Int)) = rkb9 s x:=fun x => by
  unfold rkb9 inB
  rw [Bool.eq_iff_iff];simp only [Bool.not_eq_true',Bool.and_eq_false_iff,Bool.or_eq_true,decide_eq_true_eq,decide_eq_false_iff_not]
  omega
 rw [show (fun a : Ak => !inB a.p 1 (s.L.length : Int)) = rkb9 s from funext hp,ix_any9]
 by_cases e1 : s.last = s.view
 ·by_cases e2 : 0 < (((s.M.length : Int) + (s.B.length : Int)) + (s.N.length : Int))
  ·simp [e1,e2]
  ·have hB : s.B = []:=nil_of9 (by omega)
   have hN : s.N = []:=nil_of9 (by omega)
   unfold Sta.mbB
   by_cases e3 : s.self = s.view % c.nd
   ·by_cases e4 : s.idle = 0
    ·cases e5 : s.A.any (rkb9 s) with
     | true => simp [e1,e2,e3,e4]
     | false =>
      have hm : (s.A.all fun x => Ak.mb x c.nd c.R) = true:=by
       rw [List.all_eq_true];intro x hx;have:=List.any_eq_false.1 e5 x hx;simp only [rkb9,Bool.or_eq_true,decide_eq_true_eq,not_or] at this
       exact decide_eq_true ⟨by omega,by omega⟩
      rw [hm,hB,hN];rw [hB,hN] at e2
      simp [e1,e3,e4]
    ·simp [e1,e2,e3,e4]
   ·by_cases e4 : s.A = []
    ·rw [hB,hN,e4]
     rw [hB,hN] at e2
     simp [e1,e3]
    ·have e5 : 0 < (s.A.length : Int):=by have:=List.length_pos_iff.2 e4;omega
     have e6 : ¬ (s.A.length : Int) = 0:=by omega
     simp [e1,e2,e3,e5,e6,e4]
 ·simp [e1]
theorem chg9 {c : Cg} {s : Sta} (h : c.okB = true) (hn : s.numB c = true) : (s.mbB c && s.chgB c) = (bif s.mc9 c then false else !(s.B.any (rbb9 c s))):=by
 obtain ⟨v0,v1,l0,l1,c0,c1,i0,lr⟩:=numB_facts9 h hn;obtain ⟨_,_,f1,f3,_⟩:=okB_facts9 h
 unfold Sta.chgB Sta.mc9
 rw [pr_view9 h hn,ix_any9]
 by_cases e1 : s.last = s.view
 ·simp [e1]
 ·by_cases e2 : 0 < ((s.A.length : Int) + (s.N.length : Int))
  ·simp [e1,e2]
  ·have hA : s.A = []:=nil_of9 (by omega)
   have hN : s.N = []:=nil_of9 (by omega)
   unfold Sta.mbB
   have hAN : ¬ 0 < (([] : List Ak).length : Int) + (([] : List An).length : Int):=by simp
   by_cases e3 : s.self = s.view % c.nd
   ·by_cases e4 : (s.B.length : Int) < c.F
    ·have e5 : ¬ c.F ≤ (s.B.length : Int):=by omega
     have hm : ((s.B.all fun x => Bl.mb x c.nd c.R) && !(s.B.any fun b => decide (s.view ≤ b.v))) = !(s.B.any (rbb9 c s)):=by
      rw [Bool.eq_iff_iff];simp only [Bool.and_eq_true,Bool.not_eq_true',List.all_eq_true,List.any_eq_false]
      constructor
      ·rintro ⟨p1,p2⟩ x hx
       have q1:=p1 x hx;have q2:=p2 x hx;simp only [Bl.mb,vmb,Bool.and_eq_true,decide_eq_true_eq] at q1;simp only [decide_eq_true_eq] at q2;simp only [rbb9,lgB9_lmb h,q1.2,Bool.or_eq_true,decide_eq_true_eq,Bool.not_true,Bool.false_eq_true,or_false]
       omega
      ·intro p
       refine ⟨fun x hx => ?_,fun x hx => ?_⟩
       ·have q:=p x hx
        simp only [rbb9,lgB9_lmb h,Bool.or_eq_true,decide_eq_true_eq,Bool.not_eq_true',not_or,Bool.not_eq_false] at q;simp only [Bl.mb,vmb,Bool.and_eq_true,decide_eq_true_eq]
        exact ⟨⟨by omega,by omega⟩,q.2⟩
       ·have q:=p x hx
        simp only [rbb9,Bool.or_eq_true,decide_eq_true_eq,not_or] at q;simp only [decide_eq_true_eq]
        exact q.1.2
     rw [← hm,hA,hN]
     simp [e1,e3,e4,e5]
    ·have e5 : c.F ≤ (s.B.length : Int):=by omega
     simp [e1,e2,e3,e4,e5]
   ·by_cases e4 : s.B = []
    ·rw [hA,hN,e4]
     have e5 : ¬ c.F ≤ 0:=by omega
     simp [e1,e3,e5]
    ·have e5 : 0 < (s.B.length : Int):=by have:=List.length_pos_iff.2 e4;omega
     have e6 : ¬ (s.B.length : Int) = 0:=by omega
     simp [e1,e2,e3,e5,e6,e4]
theorem rec9 {c : Cg} {s : Sta} (h : c.okB = true) (hn : s.numB c = true) : (s.mbB c && s.recB) = s.rc9 c c.nd:=by
 obtain ⟨v0,v1,l0,l1,c0,c1,i0,lr⟩:=numB_facts9 h hn;obtain ⟨_,hd,f1,f3,_⟩:=okB_facts9 h
 unfold Sta.recB Sta.rc9
 by_cases e0 : s.V.getD s.self.toNat (0,0) = (0,0)
 ·simp only [e0];simp
 ·by_cases e1 : s.view = 0∧s.idle = 0∧(((s.L.length : Int) + (s.A.length : Int)) + (s.M.length : Int)) + (s.B.length : Int) = 0
  ·obtain ⟨e1,e2,e3⟩:=e1
   have e4 : ¬ 0 < (((((((s.view + s.last) + s.commit) + s.idle) + (s.L.length : Int)) + (s.A.length : Int)) + (s.M.length : Int)) + (s.B.length : Int)):=by omega
   have hA : s.A = []:=nil_of9 (by omega);have hB : s.B = []:=nil_of9 (by omega);rw [decide_eq_true e1,decide_eq_true e2,decide_eq_true e3,decide_eq_false e4,decide_eq_false e0]
   unfold Sta.mbB
   rw [hA,hB];simp only [List.all_nil,Bool.true_and,Bool.and_true,Bool.not_false,Bool.or_false,cond_false];rw [Bool.eq_iff_iff];simp only [List.all_eq_true,Bool.not_eq_true',List.any_eq_false]
   have hh : ∀ x : An,An.mb x c.nd c.R = true ↔ ¬ rab9 c c.nd x = true:=by
    intro x;simp only [An.mb,rab9,vmb,lgB9_lmb h,Bool.and_eq_true,Bool.or_eq_true,decide_eq_true_eq,Bool.not_eq_true',decide_eq_false_iff_not]
    have hD : x.s.D = [] ↔ ¬ 0 < (x.s.D.length : Int):=by
     constructor
     ·intro e;rw [e];simp
     ·intro e;exact nil_of9 (by omega)
    rw [hD]
    generalize lmb x.s.D x.c c.R = q
    by_cases ha : x.n = x.v % c.nd <;> by_cases hb : 0 < (x.s.D.length : Int) <;> cases q <;> simp only [ha,hb,not_true,not_false_iff,Bool.false_eq_true,Bool.true_eq_false,and_true,true_and,and_false,false_and,or_true,true_or,or_false,false_or,true_iff,false_iff,iff_true,iff_false,not_or] <;> omega
   exact ⟨fun p x hx => (hh x).1 (p x hx),fun p x hx => (hh x).2 (p x hx)⟩
  ·have e4 : 0 < (((((((s.view + s.last) + s.commit) + s.idle) + (s.L.length : Int)) + (s.A.length : Int)) + (s.M.length : Int)) + (s.B.length : Int)):=by omega
   rw [decide_eq_true e4];simp only [Bool.true_or,cond_true];rw [Bool.eq_false_iff];intro hc;simp only [Bool.and_eq_true,decide_eq_true_eq] at hc
   exact e1 ⟨hc.2.1.1.1,hc.2.1.1.2,hc.2.1.2⟩
theorem rk9_ckE (s : Sta) (c : Cg) : s.rk9 c = s.ckE c:=by
 unfold Sta.rk9 Sta.ckE
 cases h : c.okB with
 | false => rfl
 | true =>
  have : s.mayB9 c = s.stB c:=by
   unfold Sta.mayB9 Sta.stB Sta.kpB
   rw [votB9 s h,mh9_eq s h]
   cases hn : s.numB c with
   | false => simp
   | true =>
    cases hr : s.rsB c.nd with
    | false => simp
    | true =>
     cases hl : s.livB with
     | false => simp
     | true =>
      simp only [Bool.true_and,Bool.and_true,Bool.not_true,cond_false]
      by_cases t1 : s.st = 1
      ·rw [decide_eq_true t1]
       exact (nor9 h hn).symm
      ·rw [decide_eq_false t1]
       by_cases t2 : s.st = 2
       ·rw [decide_eq_true t2]
        exact (chg9 h hn).symm
       ·rw [decide_eq_false t2]
        by_cases t3 : s.st = 3
        ·rw [decide_eq_true t3]
         exact (rec9 h hn).symm
        ·rw [decide_eq_false t3]
         simp
  rw [this]
theorem maps9 {α β : Type} (R : α → α → Prop) (p : α → β) (hp : ∀ x y,R x y → p y = p x) : ∀ (L M : List α),M.length = L.length → (∀ (i : Nat) (x y : α),L[i]? = some x → M[i]? = some y → R x y) → M.map p = L.map p
 | [],M,hl,h => by rw [List.eq_nil_of_length_eq_zero hl]
 | x :: L,[],hl,h => by simp at hl
 | x :: L,y :: M,hl,h => by
  rw [List.map_cons,List.map_cons,hp x y (h 0 x y rfl rfl),maps9 R p hp L M (by simpa using hl) (fun i a b ha hb => h (i + 1) a b ha hb)]
theorem all_map9 {α : Type} (p : α → Bool) (L : List α) : L.all p = (L.map p).all id:=by rw [List.all_map];rfl
theorem any_map9 {α : Type} (p : α → Bool) (L : List α) : L.any p = (L.map p).any id:=by rw [List.any_map];rfl
theorem ckE_alike9 {s t : Sta} (h : s.Alike9 t) (c : Cg) : t.ckE c = s.ckE c:=by
 unfold Sta.ckE
 cases hok : c.okB with
 | false => rfl
 | true =>
  have hs : t.stB c = s.stB c:=by
   have b1 : t.B.map Bl.sm = s.B.map Bl.sm:=maps9 Bl.Like Bl.sm (fun x y k => by show (⟨y.n,y.h,y.l⟩ : Mk) = ⟨x.n,x.h,x.l⟩;rw [k.1,k.2.1,k.2.2.1]) _ _ h.b.1 h.b.2;have n1 : t.N.map An.sm = s.N.map An.sm:=maps9 An.Like An.sm (fun x y k => by show (⟨y.n,y.h,y.l⟩ : Mk) = ⟨x.n,x.h,x.l⟩;rw [k.1,k.2.1,k.2.2.1]) _ _ h.n.1 h.n.2
   have b2 : (t.B.all fun x => Bl.mb x c.nd c.R) = (s.B.all fun x => Bl.mb x c.nd c.R):=by
    refine (all_map9 _ _).trans (Eq.trans ?_ (all_map9 _ _).symm)
    exact congrArg (fun l => l.all id) (maps9 Bl.Like (fun x => Bl.mb x c.nd c.R) (fun x y k => by unfold Bl.mb;rw [k.2.2.2.1,k.2.2.2.2.1,k.2.2.2.2.2]) _ _ h.b.1 h.b.2)
   have n2 : (t.N.all fun x => An.mb x c.nd c.R) = (s.N.all fun x => An.mb x c.nd c.R):=by
    refine (all_map9 _ _).trans (Eq.trans ?_ (all_map9 _ _).symm)
    exact congrArg (fun l => l.all id) (maps9 An.Like (fun x => An.mb x c.nd c.R) (fun x y k => by unfold An.mb;rw [k.1,k.2.2.2.1,k.2.2.2.2.1,k.2.2.2.2.2]) _ _ h.n.1 h.n.2)
   have b3 : (t.B.any fun b => decide (s.view ≤ b.v)) = (s.B.any fun b => decide (s.view ≤ b.v)):=by
    refine (any_map9 _ _).trans (Eq.trans ?_ (any_map9 _ _).symm)
    exact congrArg (fun l => l.any id) (maps9 Bl.Like (fun b => decide (s.view ≤ b.v)) (fun x y k => by rw [k.2.2.2.1]) _ _ h.b.1 h.b.2)
   have e1 : t.numB c = s.numB c:=by unfold Sta.numB;rw [h.self,h.view,h.last,h.commit,h.idle,h.l,h.v]
   have e2 : t.rsB c.nd = s.rsB c.nd:=by unfold Sta.rsB;rw [h.self,h.a,h.m,b1,n1]
   have e3 : t.mbB c = s.mbB c:=by unfold Sta.mbB;rw [h.a,b2,n2]
   have e4 : t.livB = s.livB:=by
    unfold Sta.livB Sta.vs
    simp only [];rw [h.v,h.a,h.m,b1,n1]
   have e5 : t.kpB c = s.kpB c:=by
    unfold Sta.kpB Sta.norB Sta.chgB Sta.recB
    rw [h.st,h.last,h.view,h.self,h.idle,h.l,h.v,h.a,h.m,h.b.1,h.n.1,ix_any9,ix_any9,ix_any9,b3]
   unfold Sta.stB
   rw [votB9 t hok,votB9 s hok,e1,e2,e3,e4,e5]
  rw [hs]
theorem v_cut9 {c : Code} {Q : Exit → Act → World → Prop} {T : Array Value} {w : World} (J : Array Value → World → Prop) (h : c.wp Tryz.prog (Exit.then (fun a w' => ∃ T',a = ⟨T',[]⟩∧J T' w') Q) ⟨T,[]⟩ w) (hk : ∀ T' w',J T' w' → Q .normal ⟨T',[]⟩ w') : c.wp Tryz.prog Q ⟨T,[]⟩ w:=by
 refine Code.wp_mono (fun e a' w' h => ?_) h
 cases e with
 | normal =>
  obtain ⟨T',rfl,hJ⟩:=h
  exact hk T' w' hJ
 | _ => exact h
theorem vh_two9 {ops : Array Oper} {o o2 : Oper} {T : Array Value} {df : List Deferred} {w : World} {Q : Exit → Act → World → Prop} {S : World → Prop} {fuel d d2 n : Nat} {listed : Array Bool} (i j : Nat) {fid : FuncId} {args : Array Value} {R : Ending → World → Prop} (hr : Region.ready .any ops listed = [i,j]) (hi : ops[i]? = some o) (hj : ops[j]? = some o2)
  (hw : Region.wanted o (yielded ops T) = true) (he : (execOp (⟨T,df⟩ : Act).eval o).run Tryz.prog w = .ok (.enter fid args) w) (hc : Calls Tryz.prog fid args w R) (hd : o.dst = some d) (hz : T.size = n) (hn : d < n)
  (hk : ∀ (e : Ending) (w' : World),R e w' → ∃ V,e = .returned V∧S w'∧∀ T' : Array Value,T'.size = n → (∀ j,j ≠ d → T'[j]? = T[j]?) → T'[d]? = some (gw true V) → VH ops Q S fuel (listed.setIfInBounds i true) ⟨T',df⟩ w')
  (V : Value) (w2 : World) (hw2 : Region.wanted o2 (yielded ops T) = true) (he2 : (execOp (⟨T,df⟩ : Act).eval o2).run Tryz.prog w = .ok (.value V) w2) (hd2 : o2.dst = some d2) (hn2 : d2 < n) (hS2 : S w2)
  (hk2 : ∀ T' : Array Value,T'.size = n → (∀ j,j ≠ d2 → T'[j]? = T[j]?) → T'[d2]? = some (gw true V) → VH ops Q S fuel (listed.setIfInBounds j true) ⟨T',df⟩ w2) : VH ops Q S (fuel + 1) listed ⟨T,df⟩ w:=by
 refine ⟨wpAnyH_all hr (by simp) (fun k hkm => ?_)⟩
 have hkm : k = i ∨ k = j:=by simpa using hkm
 rcases hkm with rfl | rfl
 ·unfold wpOp
  rw [hi];simp only [hw,if_true];refine .inl ?_
  unfold Oper.wp
  rw [he,Oper.upon_enter];refine hc.mono ?_;intro e w' hR;obtain ⟨V,rfl,hS,hk'⟩:=hk e w' hR;refine ⟨hS,?_⟩;rw [hd]
  exact (hk' (T.setIfInBounds d V) (by simp [hz]) (fun i hi => at_set_ne _ hi) (at_set _ (by omega))).out
 ·unfold wpOp
  rw [hj];simp only [hw2,if_true];refine .inl ?_
  unfold Oper.wp
  rw [he2,Oper.upon_value];refine ⟨hS2,?_⟩;rw [hd2]
  exact (hk2 (T.setIfInBounds d2 V) (by simp [hz]) (fun i hi => at_set_ne _ hi) (at_set _ (by omega))).out
set_option maxHeartbeats 1000000 in
theorem num9 (x : Int) (w : World)  : Calls Tryz.prog 7 #[.int .i64 x] w fun e w' => e = .returned (.int .i64 x)∧Below w.heap.size w w':=by
 go_enter Tryz.func7,Tryz.ntmps7
 go_upto_region 0 with fail
 refine wp_region_lit ?_;refine vl_gen (fun T => T.size = 4∧T[0]? = some (gw true (.int .i64 x))) ⟨rfl,rfl⟩ (fun Z0 ⟨hz,s0⟩ => ?_);have hB : Below w.heap.size w w:=Below.refl _ _;have hv0 : Below w.heap.size w w:=Below.refl _ _;refine vt (.int .i64 0) (ex_assign rfl rfl) hz (fun Ya zz kk s2 => ?_);replace s0:=ku s0;replace hz:=zz;clear kk zz;refine wpList_nil ?_
 go_upto_region 1 with fail
 refine wp_region_lit ?_;refine vt _ (ex_move rfl (ev s0 rfl)) hz (fun Yb zz kk s3 => ?_);replace s2:=ku s2;replace hz:=zz;clear kk zz s0;refine vt _ (ex_assign rfl (ev s3 rfl)) hz (fun Yc zz kk s2x => ?_);clear kk hz s3 s2;have hz:=zz;have s2:=s2x;clear zz s2x Yb;refine wpList_nil ?_
 go_wp2
 refine bodyPost_ret (results_tmp rfl _ _ _) rfl ⟨?_,hB.trans (hv0.mono (by omega))⟩;rw [getD_of s2]
 rfl
end Go.Proofs.YtjcedofmljkhfaaGreatDoor
