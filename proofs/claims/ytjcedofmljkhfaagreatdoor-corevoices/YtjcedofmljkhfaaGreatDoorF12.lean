import Derived.Test.YtjcedofmljkhfaaGreatDoorF11
set_option maxRecDepth 100000
set_option linter.unusedVariables false
set_option linter.unusedSimpArgs false
namespace Go.Proofs.YtjcedofmljkhfaaGreatDoor
open Go.RowKit Go.Maps Go.Shelf
open Classical
theorem fa2Ak (q o : Nat) (w : World) : (Instr.fieldAt 54 (.pointer (some ⟨q,o,none⟩)) 2).run Tryz.prog w = .ok (.pointer (some ⟨q,o + 3,none⟩)) w:=by go_simp
theorem v_cond8 {x : Code} {R : Exit → Act → World → Prop} {T : Array Value} {w : World} {t : Nat} {b : Bool} (J : Array Value → World → Prop) (ht : T[t]? = some (gw true (.bool b))) (h1 : b = true → x.wp Tryz.prog (Exit.then (fun a w' => ∃ T',a = ⟨T',[]⟩∧J T' w') R) ⟨T,[]⟩ w) (h2 : b = false → J T w) (hk : ∀ T' w',J T' w' → R .normal ⟨T',[]⟩ w') : (Code.cond (.tmp t) x .skip).wp Tryz.prog R ⟨T,[]⟩ w:=by
 cases b with
 | true =>
  refine wp_cond_true (ev ht rfl) (Code.wp_mono (fun e a' w' h => ?_) (h1 rfl))
  cases e with
  | normal =>
   obtain ⟨T',rfl,hJ⟩:=h
   exact hk T' w' hJ
  | _ => exact h
 | false => exact wp_cond_false (ev ht rfl) (wp_skip (hk T w (h2 rfl)))
def Sta.mh9 (s : Sta) (c : Cg) : Bool:=(((((((((((decide (s.self < 0)) || (decide (c.nd ≤ s.self))) || (decide (s.view < 0))) || (decide (4294967296 < s.view))) || (decide (s.last < 0))) || (decide (s.view < s.last))) || (!(lgB9 c s.L s.commit))) || (!decide ((s.V.length : Int) = c.nd))) || (decide (s.idle < 0))) || (decide (c.P ≤ s.idle))) || (!(s.vtB9 c.nd)))
def Sta.mn9 (s : Sta) (c : Cg) : Bool:=((((!decide (s.last = s.view)) || (decide (0 < (((s.M.length : Int) + (s.B.length : Int)) + (s.N.length : Int))))) || ((decide (s.self = (s.view % c.nd))) && (!decide (s.idle = 0)))) || ((!(decide (s.self = (s.view % c.nd)))) && (decide (0 < (s.A.length : Int)))))
def Sta.mc9 (s : Sta) (c : Cg) : Bool:=((((decide (s.last = s.view)) || (decide (0 < ((s.A.length : Int) + (s.N.length : Int))))) || ((!(decide (s.self = (s.view % c.nd)))) && (decide (0 < (s.B.length : Int))))) || (decide (c.F ≤ (s.B.length : Int))))
def rkb9 (s : Sta) (x : Ak) : Bool:=decide (x.p < 1) || decide ((s.L.length : Int) < x.p)
def rbb9 (c : Cg) (s : Sta) (x : Bl) : Bool:=(decide (x.v < 0) || decide (s.view ≤ x.v)) || (!lgB9 c x.s.D x.c)
def Sta.mayB9 (s : Sta) (c : Cg) : Bool:=bif s.mh9 c then false else bif decide (s.st = 1) then (bif s.mn9 c then false else !(s.A.any (rkb9 s))) else bif decide (s.st = 2) then (bif s.mc9 c then false else !(s.B.any (rbb9 c s))) else bif decide (s.st = 3) then s.rc9 c c.nd else false
def Sta.rk9 (s : Sta) (c : Cg) : Int:=bif c.okB then (bif s.mayB9 c then 0 else 2) else 1
theorem ok_er9 {c : Cg} (h : c.er = 0) : c.okB = true:=by
 unfold Cg.er at h
 cases e : c.okB with
 | true => rfl
 | false => rw [e] at h;cases h
theorem mh9_facts {s : Sta} {c : Cg} (hok : c.okB = true) (h : s.mh9 c = false) : 0 ≤ s.self∧s.self < c.nd∧0 ≤ s.view∧s.view ≤ 4294967296∧0 ≤ s.last∧s.last ≤ s.view∧0 ≤ s.commit∧s.commit ≤ (s.L.length : Int)∧(s.V.length : Int) = c.nd∧0 ≤ s.idle∧s.idle < c.P:=by
 unfold Sta.mh9 at h
 simp only [lgB9,Bool.or_eq_false_iff,decide_eq_false_iff_not,Bool.not_eq_false',Bool.and_eq_true,decide_eq_true_eq] at h
 omega
set_option maxHeartbeats 1000000 in
theorem rmay9 (c : Cg) (s : Sta) (w : World) (hI : s.In w) (hF : s.Fit) (hok : c.okB = true) : Calls Tryz.prog 13 #[c.val,s.val] w fun e w' => e = .returned (.bool (s.mayB9 c))∧Below w.heap.size w w':=by
 go_enter Tryz.func13,Tryz.ntmps13
 go_upto_region 0 with fail
 refine wp_region_lit ?_;refine vl_gen (fun T => T.size = 223∧T[0]? = some (gw true (c.val))∧T[1]? = some (gw true (s.val))) ⟨rfl,rfl,rfl⟩ (fun Z0 ⟨hz,s0,s1⟩ => ?_)
 obtain ⟨w1,hw1⟩ : ∃ y,y = w.alloc (.cells c.cs.toArray 23):=⟨_,rfl⟩
 have hb : Below w.heap.size w w1:=by rw [hw1];exact (Below.refl _ _).alloc (Nat.le_refl _) _
 have hs1 : w1.heap.size = w.heap.size + 1:=by rw [hw1];simp
 have HC : CB7 w1 (w.heap.size) c:=by rw [hw1];exact BX7.new _ _ _
 refine vw (.pointer (some ⟨w.heap.size,0,none⟩)) w1 (want_none rfl) (ex_box8 rfl (ev s0 rfl) (by rw [hw1];exact bxC7 _ _)) rfl hz (by decide) (fun Z1 zz kk s2x => ?_);replace s1:=ku s1;clear kk hz s0 hw1;have hz:=zz;have s2:=s2x;clear zz s2x;have hB:=hb;clear hb
 obtain ⟨w2,hw2⟩ : ∃ y,y = w1.alloc (.cells s.cs.toArray 33):=⟨_,rfl⟩
 have hb : Below w1.heap.size w1 w2:=by rw [hw2];exact (Below.refl _ _).alloc (Nat.le_refl _) _
 have hs2 : w2.heap.size = w.heap.size + 2:=by rw [hw2];simp;omega
 have HS : SB7 w2 (w.heap.size + 1) s:=by rw [hw2,← hs1];exact BX7.new _ _ _
 refine vw (.pointer (some ⟨w.heap.size + 1,0,none⟩)) w2 (want_none rfl) (ex_box8 rfl (ev s1 rfl) (by rw [hw2,← hs1];exact bxS7 _ _)) rfl hz (by decide) (fun Z2 zz kk s3x => ?_);replace s2:=ku s2;clear kk hz s1 hw2;have hz:=zz;have s3:=s3x;clear zz s3x;have hB:=hB.trans (hb.mono (by omega));have HC:=HC.bel hb;clear hb;have hv0 : Below w2.heap.size w2 w2:=Below.refl _ _;have HI:=hI.later hB;have f0:=hF.ll;have f1:=hF.al;have f2:=hF.ml;have f3:=hF.bl;have f4:=hF.nl;obtain ⟨hn1,hn2,hn3⟩:=Cg.nd_ok hok;have hP:=Cg.P_ok hok;have Ya:=((Rp.nil hz).cons s2).cons s3;clear hz s2 s3
 refine Ya.t (.bool false) (ex_assign rfl rfl) fun _ Yb => ?_;clear Ya
 have hz:=Yb.z;have s2:=Yb.a 2 rfl;have s3:=Yb.a 3 rfl;clear Yb;refine wpList_nil ?_
 go_upto_region 1 with fail
 refine wp_region_lit ?_;have Yc:=((Rp.nil hz).cons s2).cons s3;clear hz s2 s3
 refine Yc.t _ (ex_ld rfl (Yc.f 2) (CB7.ld (HC.bel hv0))) fun _ Yd => ?_;clear Yc
 refine vcall true (.int .i64 c.nd) (want_none rfl) (fun hc => ex_call rfl (by simp only [List.map_toArray,List.map_cons,List.map_nil,(Yd.f 10),evc] <;> rfl) rfl) (fun hc => rnodes9 c w2) rfl Yd.z (by decide) (Yd.kc fun Ye x1 hb Yf => ?_);clear Yd;have hx1:=hv0.trans (hb.mono hv0.size);clear hb
 refine Yf.t _ (ex_assign rfl (Yf.f 11)) fun _ Yg => ?_;clear Yf
 have hz:=Yg.z;have s2:=Yg.a 2 rfl;have s3:=Yg.a 3 rfl;have s5:=Yg.a 5 rfl;clear Yg;refine wpList_nil ?_
 have gv9 : ∀ {b : Bool},(b && ((((((((((decide (s.self < 0) || decide (c.nd ≤ s.self)) || decide (s.view < 0)) || decide (4294967296 < s.view)) || decide (s.last < 0)) || decide (s.view < s.last)) || (!lgB9 c s.L s.commit)) || (!decide ((s.V.length : Int) = c.nd))) || decide (s.idle < 0)) || decide (c.P ≤ s.idle)) == false)) = true → c.nd = (s.V.length : Int)∧0 < s.V.length:=fun h => by
  simp only [Bool.and_eq_true,beq_iff_eq,Bool.or_eq_false_iff,decide_eq_false_iff_not,Bool.not_eq_false',decide_eq_true_eq] at h
  omega
 go_upto_region 2 with fail
 refine wp_region_lit ?_;have Yh:=(((Rp.nil hz).cons s2).cons s3).cons s5;clear hz s2 s3 s5
 refine Yh.t _ (ex_fa rfl (Yh.f 3) (faS0 _ _)) fun _ Yi => ?_;clear Yh
 refine Yi.t _ (ex_ld rfl (Yi.f 12) (ldI8 (cell8 (HS.cell 0 _ rfl) hx1))) fun _ Yj => ?_;clear Yi
 refine Yj.t (.bool (decide (s.self < 0))) (ex_bin rfl (Yj.f 13) rfl (lssC _ _ _ _ _)) fun _ Yk => ?_;clear Yj
 refine Yk.t _ (ex_move rfl (Yk.f 14)) fun _ Yl => ?_;clear Yk
 refine Yl.g 15 rfl rfl rfl _ (fun hc => ex_fa rfl (Yl.f 3) (faS0 _ _)) fun Ym Yn => ?_;clear Yl
 refine Yn.g 15 rfl rfl rfl _ (fun hc => ex_ld rfl (ev (Yn.a 16 rfl) hc) (ldI8 (cell8 (HS.cell 0 _ rfl) hx1))) fun Yo Yp => ?_;clear Yn
 refine Yp.g 15 rfl rfl rfl _ (fun hc => ex_move rfl (Yp.f 5)) fun Yq Yr => ?_;clear Yp
 refine Yr.g 15 rfl rfl rfl (.bool (decide (c.nd ≤ s.self))) (fun hc => ex_bin rfl (ev (Yr.a 17 rfl) hc) (ev (Yr.a 18 rfl) hc) (geqC _ _ _ _ _)) fun Ys Yt => ?_;clear Yr
 refine Yt.t (.bool ((decide (s.self < 0)) || (decide (c.nd ≤ s.self)))) (ex_or rfl (Yt.a 15 rfl) (Yt.a 19 rfl) rfl) fun _ Yu => ?_;clear Yt
 refine Yu.t _ (ex_move rfl (Yu.f 20)) fun _ Yv => ?_;clear Yu
 refine Yv.g 21 rfl rfl rfl _ (fun hc => ex_fa rfl (Yv.f 3) (faS2 _ _)) fun Yw Yx => ?_;clear Yv
 refine Yx.g 21 rfl rfl rfl _ (fun hc => ex_ld rfl (ev (Yx.a 22 rfl) hc) (ldI8 (cell8 (HS.cell 2 _ rfl) hx1))) fun Yy Yz => ?_;clear Yx
 refine Yz.g 21 rfl rfl rfl (.bool (decide (s.view < 0))) (fun hc => ex_bin rfl (ev (Yz.a 23 rfl) hc) rfl (lssC _ _ _ _ _)) fun Y0 Y1 => ?_;clear Yz
 refine Y1.t (.bool (((decide (s.self < 0)) || (decide (c.nd ≤ s.self))) || (decide (s.view < 0)))) (ex_or rfl (Y1.a 21 rfl) (Y1.a 24 rfl) rfl) fun _ Y2 => ?_;clear Y1
 refine Y2.t _ (ex_move rfl (Y2.f 25)) fun _ Y3 => ?_;clear Y2
 refine Y3.g 26 rfl rfl rfl _ (fun hc => ex_fa rfl (Y3.f 3) (faS2 _ _)) fun Y4 Y5 => ?_;clear Y3
 refine Y5.g 26 rfl rfl rfl _ (fun hc => ex_ld rfl (ev (Y5.a 27 rfl) hc) (ldI8 (cell8 (HS.cell 2 _ rfl) hx1))) fun Y6 Y7 => ?_;clear Y5
 refine Y7.g 26 rfl rfl rfl (.bool (decide (4294967296 < s.view))) (fun hc => ex_bin rfl (ev (Y7.a 28 rfl) hc) rfl (gtrC _ _ _ _ _)) fun Y8 Y9 => ?_;clear Y7
 refine Y9.t (.bool ((((decide (s.self < 0)) || (decide (c.nd ≤ s.self))) || (decide (s.view < 0))) || (decide (4294967296 < s.view)))) (ex_or rfl (Y9.a 26 rfl) (Y9.a 29 rfl) rfl) fun _ Yba => ?_;clear Y9
 refine Yba.t _ (ex_move rfl (Yba.f 30)) fun _ Ybb => ?_;clear Yba
 refine Ybb.g 31 rfl rfl rfl _ (fun hc => ex_fa rfl (Ybb.f 3) (faS3 _ _)) fun Ybc Ybd => ?_;clear Ybb
 refine Ybd.g 31 rfl rfl rfl _ (fun hc => ex_ld rfl (ev (Ybd.a 32 rfl) hc) (ldI8 (cell8 (HS.cell 3 _ rfl) hx1))) fun Ybe Ybf => ?_;clear Ybd
 refine Ybf.g 31 rfl rfl rfl (.bool (decide (s.last < 0))) (fun hc => ex_bin rfl (ev (Ybf.a 33 rfl) hc) rfl (lssC _ _ _ _ _)) fun Ybg Ybh => ?_;clear Ybf
 refine Ybh.t (.bool (((((decide (s.self < 0)) || (decide (c.nd ≤ s.self))) || (decide (s.view < 0))) || (decide (4294967296 < s.view))) || (decide (s.last < 0)))) (ex_or rfl (Ybh.a 31 rfl) (Ybh.a 34 rfl) rfl) fun _ Ybi => ?_;clear Ybh
 refine Ybi.t _ (ex_move rfl (Ybi.f 35)) fun _ Ybj => ?_;clear Ybi
 refine Ybj.g 36 rfl rfl rfl _ (fun hc => ex_fa rfl (Ybj.f 3) (faS3 _ _)) fun Ybk Ybl => ?_;clear Ybj
 refine Ybl.g 36 rfl rfl rfl _ (fun hc => ex_ld rfl (ev (Ybl.a 37 rfl) hc) (ldI8 (cell8 (HS.cell 3 _ rfl) hx1))) fun Ybm Ybn => ?_;clear Ybl
 refine Ybn.g 36 rfl rfl rfl _ (fun hc => ex_fa rfl (Ybn.f 3) (faS2 _ _)) fun Ybo Ybp => ?_;clear Ybn
 refine Ybp.g 36 rfl rfl rfl _ (fun hc => ex_ld rfl (ev (Ybp.a 39 rfl) hc) (ldI8 (cell8 (HS.cell 2 _ rfl) hx1))) fun Ybq Ybr => ?_;clear Ybp
 refine Ybr.g 36 rfl rfl rfl (.bool (decide (s.view < s.last))) (fun hc => ex_bin rfl (ev (Ybr.a 38 rfl) hc) (ev (Ybr.a 40 rfl) hc) (gtrC _ _ _ _ _)) fun Ybs Ybt => ?_;clear Ybr
 refine Ybt.t (.bool ((((((decide (s.self < 0)) || (decide (c.nd ≤ s.self))) || (decide (s.view < 0))) || (decide (4294967296 < s.view))) || (decide (s.last < 0))) || (decide (s.view < s.last)))) (ex_or rfl (Ybt.a 36 rfl) (Ybt.a 41 rfl) rfl) fun _ Ybu => ?_;clear Ybt
 refine Ybu.t _ (ex_move rfl (Ybu.f 42)) fun _ Ybv => ?_;clear Ybu
 refine Ybv.g 43 rfl rfl rfl _ (fun hc => ex_ld rfl (Ybv.f 2) (CB7.ld (HC.bel hx1))) fun Ybw Ybx => ?_;clear Ybv
 refine Ybx.g 43 rfl rfl rfl _ (fun hc => ex_fa rfl (Ybx.f 3) (faS4 _ _)) fun Yby Ybz => ?_;clear Ybx
 refine Ybz.g 43 rfl rfl rfl _ (fun hc => ex_ld rfl (ev (Ybz.a 45 rfl) hc) (ldE8 (cell8 (HS.cell 4 _ rfl) hx1))) fun Yb0 Yb1 => ?_;clear Ybz
 refine Yb1.g 43 rfl rfl rfl _ (fun hc => ex_fa rfl (Yb1.f 3) (faS5 _ _)) fun Yb2 Yb3 => ?_;clear Yb1
 refine Yb3.g 43 rfl rfl rfl _ (fun hc => ex_ld rfl (ev (Yb3.a 47 rfl) hc) (ldI8 (cell8 (HS.cell 5 _ rfl) hx1))) fun Yb4 Yb5 => ?_;clear Yb3
 refine vcall (true && (((((((decide (s.self < 0)) || (decide (c.nd ≤ s.self))) || (decide (s.view < 0))) || (decide (4294967296 < s.view))) || (decide (s.last < 0))) || (decide (s.view < s.last))) == false)) (.bool (lgB9 c s.L s.commit)) (want_g rfl rfl (Yb5.a 43 rfl)) (fun hc => ex_call rfl (by simp only [List.map_toArray,List.map_cons,List.map_nil,(ev (Yb5.a 44 rfl) hc),(ev (Yb5.a 46 rfl) hc),(ev (Yb5.a 48 rfl) hc),evc] <;> rfl) rfl) (fun hc => rlogged9 c s.L s.la s.lc s.commit x1 (HI.l.later hx1) hF.le) rfl Yb5.z (by decide) (Yb5.kc fun Yb6 x2 hb Yb7 => ?_);clear Yb5;have hx2:=hx1.trans (hb.mono hx1.size);clear hb
 refine Yb7.g 43 rfl rfl rfl (.bool (!(lgB9 c s.L s.commit))) (fun hc => ex_not rfl (ev (Yb7.a 49 rfl) hc)) fun Yb8 Yb9 => ?_;clear Yb7
 refine Yb9.t (.bool (((((((decide (s.self < 0)) || (decide (c.nd ≤ s.self))) || (decide (s.view < 0))) || (decide (4294967296 < s.view))) || (decide (s.last < 0))) || (decide (s.view < s.last))) || (!(lgB9 c s.L s.commit)))) (ex_or rfl (Yb9.a 43 rfl) (Yb9.a 50 rfl) rfl) fun _ Yca => ?_;clear Yb9
 refine Yca.t _ (ex_move rfl (Yca.f 51)) fun _ Ycb => ?_;clear Yca
 refine Ycb.g 52 rfl rfl rfl _ (fun hc => ex_fa rfl (Ycb.f 3) (faS6 _ _)) fun Ycc Ycd => ?_;clear Ycb
 refine Ycd.g 52 rfl rfl rfl _ (fun hc => ex_ld rfl (ev (Ycd.a 53 rfl) hc) (ldV8 (cell8 (HS.cell 6 _ rfl) hx2))) fun Yce Ycf => ?_;clear Ycd
 refine Ycf.g 52 rfl rfl rfl _ (fun hc => ex_lenV8 rfl rfl (ev (Ycf.a 54 rfl) hc)) fun Ycg Ych => ?_;clear Ycf
 refine Ych.g 52 rfl rfl rfl _ (fun hc => ex_move rfl (Ych.f 5)) fun Yci Ycj => ?_;clear Ych
 refine Ycj.g 52 rfl rfl rfl (.bool (!decide ((s.V.length : Int) = c.nd))) (fun hc => ex_bin rfl (ev (Ycj.a 55 rfl) hc) (ev (Ycj.a 56 rfl) hc) (neqC _ _ _ _ _)) fun Yck Ycl => ?_;clear Ycj
 refine Ycl.t (.bool ((((((((decide (s.self < 0)) || (decide (c.nd ≤ s.self))) || (decide (s.view < 0))) || (decide (4294967296 < s.view))) || (decide (s.last < 0))) || (decide (s.view < s.last))) || (!(lgB9 c s.L s.commit))) || (!decide ((s.V.length : Int) = c.nd)))) (ex_or rfl (Ycl.a 52 rfl) (Ycl.a 57 rfl) rfl) fun _ Ycm => ?_;clear Ycl
 refine Ycm.t _ (ex_move rfl (Ycm.f 58)) fun _ Ycn => ?_;clear Ycm
 refine Ycn.g 59 rfl rfl rfl _ (fun hc => ex_fa rfl (Ycn.f 3) (faS7 _ _)) fun Yco Ycp => ?_;clear Ycn
 refine Ycp.g 59 rfl rfl rfl _ (fun hc => ex_ld rfl (ev (Ycp.a 60 rfl) hc) (ldI8 (cell8 (HS.cell 7 _ rfl) hx2))) fun Ycq Ycr => ?_;clear Ycp
 refine Ycr.g 59 rfl rfl rfl (.bool (decide (s.idle < 0))) (fun hc => ex_bin rfl (ev (Ycr.a 61 rfl) hc) rfl (lssC _ _ _ _ _)) fun Ycs Yct => ?_;clear Ycr
 refine Yct.t (.bool (((((((((decide (s.self < 0)) || (decide (c.nd ≤ s.self))) || (decide (s.view < 0))) || (decide (4294967296 < s.view))) || (decide (s.last < 0))) || (decide (s.view < s.last))) || (!(lgB9 c s.L s.commit))) || (!decide ((s.V.length : Int) = c.nd))) || (decide (s.idle < 0)))) (ex_or rfl (Yct.a 59 rfl) (Yct.a 62 rfl) rfl) fun _ Ycu => ?_;clear Yct
 refine Ycu.t _ (ex_move rfl (Ycu.f 63)) fun _ Ycv => ?_;clear Ycu
 refine Ycv.g 64 rfl rfl rfl _ (fun hc => ex_fa rfl (Ycv.f 3) (faS7 _ _)) fun Ycw Ycx => ?_;clear Ycv
 refine Ycx.g 64 rfl rfl rfl _ (fun hc => ex_ld rfl (ev (Ycx.a 65 rfl) hc) (ldI8 (cell8 (HS.cell 7 _ rfl) hx2))) fun Ycy Ycz => ?_;clear Ycx
 refine Ycz.g 64 rfl rfl rfl _ (fun hc => ex_fa rfl (Ycz.f 2) (faC2 _ _)) fun Yc0 Yc1 => ?_;clear Ycz
 refine Yc1.g 64 rfl rfl rfl _ (fun hc => ex_ld rfl (ev (Yc1.a 67 rfl) hc) (ldI8 (cell8 (HC.cell 2 _ rfl) hx2))) fun Yc2 Yc3 => ?_;clear Yc1
 refine Yc3.g 64 rfl rfl rfl (.bool (decide (c.P ≤ s.idle))) (fun hc => ex_bin rfl (ev (Yc3.a 66 rfl) hc) (ev (Yc3.a 68 rfl) hc) (geqC _ _ _ _ _)) fun Yc4 Yc5 => ?_;clear Yc3
 refine Yc5.t (.bool ((((((((((decide (s.self < 0)) || (decide (c.nd ≤ s.self))) || (decide (s.view < 0))) || (decide (4294967296 < s.view))) || (decide (s.last < 0))) || (decide (s.view < s.last))) || (!(lgB9 c s.L s.commit))) || (!decide ((s.V.length : Int) = c.nd))) || (decide (s.idle < 0))) || (decide (c.P ≤ s.idle)))) (ex_or rfl (Yc5.a 64 rfl) (Yc5.a 69 rfl) rfl) fun _ Yc6 => ?_;clear Yc5
 refine Yc6.t _ (ex_move rfl (Yc6.f 70)) fun _ Yc7 => ?_;clear Yc6
 refine Yc7.g 71 rfl rfl rfl _ (fun hc => ex_ld rfl (Yc7.f 3) (SB7.ld (HS.bel hx2))) fun Yc8 Yc9 => ?_;clear Yc7
 refine Yc9.g 71 rfl rfl rfl _ (fun hc => ex_move rfl (Yc9.f 5)) fun Yda Ydb => ?_;clear Yc9
 refine vcall (true && (((((((((((decide (s.self < 0)) || (decide (c.nd ≤ s.self))) || (decide (s.view < 0))) || (decide (4294967296 < s.view))) || (decide (s.last < 0))) || (decide (s.view < s.last))) || (!(lgB9 c s.L s.commit))) || (!decide ((s.V.length : Int) = c.nd))) || (decide (s.idle < 0))) || (decide (c.P ≤ s.idle))) == false)) (.bool (s.vtB9 c.nd)) (want_g rfl rfl (Ydb.a 71 rfl)) (fun hc => ex_call rfl (by simp only [List.map_toArray,List.map_cons,List.map_nil,(ev (Ydb.a 72 rfl) hc),(ev (Ydb.a 73 rfl) hc),evc] <;> rfl) rfl) (fun hc => rvotes9 s c.nd x2 (HI.later hx2) hF (gv9 hc).1 (gv9 hc).2) rfl Ydb.z (by decide) (Ydb.kc fun Ydc x3 hb Ydd => ?_);clear Ydb;have hx3:=hx2.trans (hb.mono hx2.size);clear hb
 refine Ydd.g 71 rfl rfl rfl (.bool (!(s.vtB9 c.nd))) (fun hc => ex_not rfl (ev (Ydd.a 74 rfl) hc)) fun Yde Ydf => ?_;clear Ydd
 refine Ydf.t (.bool (((((((((((decide (s.self < 0)) || (decide (c.nd ≤ s.self))) || (decide (s.view < 0))) || (decide (4294967296 < s.view))) || (decide (s.last < 0))) || (decide (s.view < s.last))) || (!(lgB9 c s.L s.commit))) || (!decide ((s.V.length : Int) = c.nd))) || (decide (s.idle < 0))) || (decide (c.P ≤ s.idle))) || (!(s.vtB9 c.nd)))) (ex_or rfl (Ydf.a 71 rfl) (Ydf.a 75 rfl) rfl) fun _ Ydg => ?_;clear Ydf
 have hz:=Ydg.z;have s2:=Ydg.a 2 rfl;have s3:=Ydg.a 3 rfl;have s5:=Ydg.a 5 rfl;have s76:=Ydg.a 76 rfl;clear Ydg;refine wpList_nil ?_;have hB:=hB.trans (hx3.mono (by omega));have HS:=HS.bel hx3;have HC:=HC.bel hx3;have HI:=HI.later hx3;have hz2:=hx3.size;have hv3 : Below x3.heap.size x3 x3:=Below.refl _ _;have hzw:=hB.size
 go_upto_region 3 with fail
 cases e76 : s.mh9 c
 rotate_left
 ·refine wp_cond_true ((ev s76 rfl).trans (congrArg Value.bool e76)) ?_
  go_upto_region 3 with fail
  refine wp_region_lit ?_;have Ydh:=(((Rp.nil hz).cons s2).cons s3).cons s5;clear hz s2 s3 s5
  refine Ydh.t (.bool false) (ex_assign rfl rfl) fun _ Ydi => ?_;clear Ydh
  have hz:=Ydi.z;have s4:=Ydi.a 4 rfl;clear Ydi;refine wpList_nil ?_
  go_wp2
  refine bodyPost_ret (results_tmp rfl _ _ _) rfl ⟨?_,hB.trans (hv3.mono (by omega))⟩;rw [getD_of s4]
  unfold Sta.mayB9
  rw [e76]
  rfl
 refine wp_cond_false ((ev s76 rfl).trans (congrArg Value.bool e76)) ?_;clear s76;have MF:=mh9_facts hok e76
 go_upto_region 4 with fail
 refine vq_start (C:=fun v => Below x3.heap.size x3 v) (by kernel_rfl) (by kernel_rfl) hv3.drew ?_;have Ydj:=(((Rp.nil hz).cons s2).cons s3).cons s5;clear hz s2 s3 s5
 refine Ydj.q _ (fun v hv => ex_fa rfl (Ydj.f 3) (faS0 _ _)) fun _ Ydk => ?_;clear Ydj
 refine Ydk.q _ (fun v hv => ex_ld rfl (Ydk.f 77) (ldI8 (cell8 (HS.cell 0 _ rfl) hv))) fun _ Ydl => ?_;clear Ydk
 refine Ydl.q _ (fun v hv => ex_fa rfl (Ydl.f 3) (faS2 _ _)) fun _ Ydm => ?_;clear Ydl
 refine Ydm.q _ (fun v hv => ex_ld rfl (Ydm.f 79) (ldI8 (cell8 (HS.cell 2 _ rfl) hv))) fun _ Ydn => ?_;clear Ydm
 refine Ydn.q _ (fun v hv => ex_move rfl (Ydn.f 5)) fun _ Ydo => ?_;clear Ydn
 refine Ydo.q (.int .i64 (s.view % c.nd)) (fun v hv => ex_bin rfl (Ydo.f 80) (Ydo.f 81) (remD8 _ _ s.view c.nd (by omega) (by omega) (by omega) _)) fun _ Ydp => ?_;clear Ydo
 refine Ydp.q (.bool (decide (s.self = (s.view % c.nd)))) (fun v hv => ex_bin rfl (Ydp.f 78) (Ydp.f 82) (eqlC _ _ _ _ _)) fun _ Ydq => ?_;clear Ydp
 refine Ydq.q _ (fun v hv => ex_assign rfl (Ydq.f 83)) fun _ Ydr => ?_;clear Ydq
 have hz:=Ydr.z;have s2:=Ydr.a 2 rfl;have s3:=Ydr.a 3 rfl;have s5:=Ydr.a 5 rfl;have s6:=Ydr.a 6 rfl;clear Ydr;refine vq_nil (fun x4 hx4 => ?_)
 go_upto_region 5 with fail
 refine wp_region_lit ?_;have Yds:=((((Rp.nil hz).cons s2).cons s3).cons s5).cons s6;clear hz s2 s3 s5 s6
 refine Yds.t _ (ex_fa rfl (Yds.f 3) (faS1 _ _)) fun _ Ydt => ?_;clear Yds
 refine Ydt.t _ (ex_ld rfl (Ydt.f 84) (ldT8 (cell8 (HS.cell 1 _ rfl) hx4))) fun _ Ydu => ?_;clear Ydt
 have hz:=Ydu.z;have s2:=Ydu.a 2 rfl;have s3:=Ydu.a 3 rfl;have s5:=Ydu.a 5 rfl;have s6:=Ydu.a 6 rfl;have s85:=Ydu.a 85 rfl;clear Ydu;refine wpList_nil ?_
 go_upto_region 6 with fail
 refine wp_region_lit ?_;have Ydv:=(((((Rp.nil hz).cons s2).cons s3).cons s5).cons s6).cons s85;clear hz s2 s3 s5 s6 s85
 refine Ydv.t (.bool (decide (s.st = 1))) (ex_bin rfl (Ydv.f 85) rfl (eqlC _ _ _ _ _)) fun _ Ydw => ?_;clear Ydv
 refine Ydw.t _ (ex_assign rfl (Ydw.f 87)) fun _ Ydx => ?_;clear Ydw
 have hz:=Ydx.z;have s2:=Ydx.a 2 rfl;have s3:=Ydx.a 3 rfl;have s5:=Ydx.a 5 rfl;have s6:=Ydx.a 6 rfl;have s85:=Ydx.a 85 rfl;have s86:=Ydx.a 86 rfl;clear Ydx;refine wpList_nil ?_
 go_upto_region 7 with fail
 cases e1s : decide (s.st = 1)
 rotate_left
 ·refine wp_cond_true ((ev s86 rfl).trans (congrArg Value.bool e1s)) ?_
  clear s86
  go_upto_region 7 with fail
  refine wp_region_lit ?_;have Ydy:=(((((Rp.nil hz).cons s2).cons s3).cons s5).cons s6).cons s85;clear hz s2 s3 s5 s6 s85
  refine Ydy.t _ (ex_fa rfl (Ydy.f 3) (faS3 _ _)) fun _ Ydz => ?_;clear Ydy
  refine Ydz.t _ (ex_ld rfl (Ydz.f 88) (ldI8 (cell8 (HS.cell 3 _ rfl) hx4))) fun _ Yd0 => ?_;clear Ydz
  refine Yd0.t _ (ex_fa rfl (Yd0.f 3) (faS2 _ _)) fun _ Yd1 => ?_;clear Yd0
  refine Yd1.t _ (ex_ld rfl (Yd1.f 90) (ldI8 (cell8 (HS.cell 2 _ rfl) hx4))) fun _ Yd2 => ?_;clear Yd1
  refine Yd2.t (.bool (!decide (s.last = s.view))) (ex_bin rfl (Yd2.f 89) (Yd2.f 91) (neqC _ _ _ _ _)) fun _ Yd3 => ?_;clear Yd2
  refine Yd3.t _ (ex_move rfl (Yd3.f 92)) fun _ Yd4 => ?_;clear Yd3
  refine Yd4.g 93 rfl rfl rfl _ (fun hc => ex_fa rfl (Yd4.f 3) (faS9 _ _)) fun Yd5 Yd6 => ?_;clear Yd4
  refine Yd6.g 93 rfl rfl rfl _ (fun hc => ex_ld rfl (ev (Yd6.a 94 rfl) hc) (ldM8 (cell8 (HS.cell 9 _ rfl) hx4))) fun Yd7 Yd8 => ?_;clear Yd6
  refine Yd8.g 93 rfl rfl rfl _ (fun hc => ex_lenM8 rfl rfl (ev (Yd8.a 95 rfl) hc)) fun Yd9 Yea => ?_;clear Yd8
  refine Yea.g 93 rfl rfl rfl _ (fun hc => ex_fa rfl (Yea.f 3) (faS10 _ _)) fun Yeb Yec => ?_;clear Yea
  refine Yec.g 93 rfl rfl rfl _ (fun hc => ex_ld rfl (ev (Yec.a 97 rfl) hc) (ldB8 (cell8 (HS.cell 10 _ rfl) hx4))) fun Yed Yee => ?_;clear Yec
  refine Yee.g 93 rfl rfl rfl _ (fun hc => ex_lenB8 rfl rfl (ev (Yee.a 98 rfl) hc)) fun Yef Yeg => ?_;clear Yee
  refine Yeg.g 93 rfl rfl rfl (.int .i64 ((s.M.length : Int) + (s.B.length : Int))) (fun hc => ex_bin rfl (ev (Yeg.a 96 rfl) hc) (ev (Yeg.a 99 rfl) hc) (addD8 _ _ (s.M.length : Int) (s.B.length : Int) ((s.M.length : Int) + (s.B.length : Int)) (by rw [IntKind.wrap_i64];omega) _)) fun Yeh Yei => ?_;clear Yeg
  refine Yei.g 93 rfl rfl rfl _ (fun hc => ex_fa rfl (Yei.f 3) (faS11 _ _)) fun Yej Yek => ?_;clear Yei
  refine Yek.g 93 rfl rfl rfl _ (fun hc => ex_ld rfl (ev (Yek.a 101 rfl) hc) (ldN8 (cell8 (HS.cell 11 _ rfl) hx4))) fun Yel Yem => ?_;clear Yek
  refine Yem.g 93 rfl rfl rfl _ (fun hc => ex_lenN8 rfl rfl (ev (Yem.a 102 rfl) hc)) fun Yen Yeo => ?_;clear Yem
  refine Yeo.g 93 rfl rfl rfl (.int .i64 (((s.M.length : Int) + (s.B.length : Int)) + (s.N.length : Int))) (fun hc => ex_bin rfl (ev (Yeo.a 100 rfl) hc) (ev (Yeo.a 103 rfl) hc) (addD8 _ _ ((s.M.length : Int) + (s.B.length : Int)) (s.N.length : Int) (((s.M.length : Int) + (s.B.length : Int)) + (s.N.length : Int)) (by rw [IntKind.wrap_i64];omega) _)) fun Yep Yeq => ?_;clear Yeo
  refine Yeq.g 93 rfl rfl rfl (.bool (decide (0 < (((s.M.length : Int) + (s.B.length : Int)) + (s.N.length : Int))))) (fun hc => ex_bin rfl (ev (Yeq.a 104 rfl) hc) rfl (gtrC _ _ _ _ _)) fun Yer Yes => ?_;clear Yeq
  refine Yes.t (.bool ((!decide (s.last = s.view)) || (decide (0 < (((s.M.length : Int) + (s.B.length : Int)) + (s.N.length : Int)))))) (ex_or rfl (Yes.a 93 rfl) (Yes.a 105 rfl) rfl) fun _ Yet => ?_;clear Yes
  refine Yet.t _ (ex_move rfl (Yet.f 106)) fun _ Yeu => ?_;clear Yet
  refine Yeu.g 107 rfl rfl rfl _ (fun hc => ex_move rfl (Yeu.f 6)) fun Yev Yew => ?_;clear Yeu
  refine Yew.g 107 rfl rfl rfl _ (fun hc => ex_move rfl (ev (Yew.a 108 rfl) hc)) fun Yex Yey => ?_;clear Yew
  refine Yey.g 109 rfl rfl rfl _ (fun hc => ex_fa rfl (Yey.f 3) (faS7 _ _)) fun Yez Ye0 => ?_;clear Yey
  refine Ye0.g 109 rfl rfl rfl _ (fun hc => ex_ld rfl (ev (Ye0.a 110 rfl) hc) (ldI8 (cell8 (HS.cell 7 _ rfl) hx4))) fun Ye1 Ye2 => ?_;clear Ye0
  refine Ye2.g 109 rfl rfl rfl (.bool (!decide (s.idle = 0))) (fun hc => ex_bin rfl (ev (Ye2.a 111 rfl) hc) rfl (neqC _ _ _ _ _)) fun Ye3 Ye4 => ?_;clear Ye2
  refine Ye4.g 107 rfl rfl rfl (.bool ((decide (s.self = (s.view % c.nd))) && (!decide (s.idle = 0)))) (fun hc => ex_and rfl (Ye4.a 109 rfl) (Ye4.a 112 rfl) hc) fun Ye5 Ye6 => ?_;clear Ye4
  refine Ye6.t (.bool (((!decide (s.last = s.view)) || (decide (0 < (((s.M.length : Int) + (s.B.length : Int)) + (s.N.length : Int))))) || ((decide (s.self = (s.view % c.nd))) && (!decide (s.idle = 0))))) (ex_or rfl (Ye6.a 107 rfl) (Ye6.a 113 rfl) rfl) fun _ Ye7 => ?_;clear Ye6
  refine Ye7.t _ (ex_move rfl (Ye7.f 114)) fun _ Ye8 => ?_;clear Ye7
  refine Ye8.g 115 rfl rfl rfl _ (fun hc => ex_move rfl (Ye8.f 6)) fun Ye9 Yfa => ?_;clear Ye8
  refine Yfa.g 115 rfl rfl rfl (.bool (!(decide (s.self = (s.view % c.nd))))) (fun hc => ex_not rfl (ev (Yfa.a 116 rfl) hc)) fun Yfb Yfc => ?_;clear Yfa
  refine Yfc.g 115 rfl rfl rfl _ (fun hc => ex_move rfl (ev (Yfc.a 117 rfl) hc)) fun Yfd Yfe => ?_;clear Yfc
  refine Yfe.g 118 rfl rfl rfl _ (fun hc => ex_fa rfl (Yfe.f 3) (faS8 _ _)) fun Yff Yfg => ?_;clear Yfe
  refine Yfg.g 118 rfl rfl rfl _ (fun hc => ex_ld rfl (ev (Yfg.a 119 rfl) hc) (ldK8 (cell8 (HS.cell 8 _ rfl) hx4))) fun Yfh Yfi => ?_;clear Yfg
  refine Yfi.g 118 rfl rfl rfl _ (fun hc => ex_lenK8 rfl rfl (ev (Yfi.a 120 rfl) hc)) fun Yfj Yfk => ?_;clear Yfi
  refine Yfk.g 118 rfl rfl rfl (.bool (decide (0 < (s.A.length : Int)))) (fun hc => ex_bin rfl (ev (Yfk.a 121 rfl) hc) rfl (gtrC _ _ _ _ _)) fun Yfl Yfm => ?_;clear Yfk
  refine Yfm.g 115 rfl rfl rfl (.bool ((!(decide (s.self = (s.view % c.nd)))) && (decide (0 < (s.A.length : Int))))) (fun hc => ex_and rfl (Yfm.a 118 rfl) (Yfm.a 122 rfl) hc) fun Yfn Yfo => ?_;clear Yfm
  refine Yfo.t (.bool ((((!decide (s.last = s.view)) || (decide (0 < (((s.M.length : Int) + (s.B.length : Int)) + (s.N.length : Int))))) || ((decide (s.self = (s.view % c.nd))) && (!decide (s.idle = 0)))) || ((!(decide (s.self = (s.view % c.nd)))) && (decide (0 < (s.A.length : Int)))))) (ex_or rfl (Yfo.a 115 rfl) (Yfo.a 123 rfl) rfl) fun _ Yfp => ?_;clear Yfo
  have hz:=Yfp.z;have s2:=Yfp.a 2 rfl;have s3:=Yfp.a 3 rfl;have s124:=Yfp.a 124 rfl;clear Yfp;refine wpList_nil ?_
  go_upto_region 8 with fail
  cases eg : s.mn9 c
  rotate_left
  ·refine wp_cond_true ((ev s124 rfl).trans (congrArg Value.bool eg)) ?_
   go_upto_region 8 with fail
   refine wp_region_lit ?_;have Yfq:=((Rp.nil hz).cons s2).cons s3;clear hz s2 s3
   refine Yfq.t (.bool false) (ex_assign rfl rfl) fun _ Yfr => ?_;clear Yfq
   have hz:=Yfr.z;have s4:=Yfr.a 4 rfl;clear Yfr;refine wpList_nil ?_
   go_wp2
   refine bodyPost_ret (results_tmp rfl _ _ _) rfl ⟨?_,hB.trans (hx4.mono (by omega))⟩;rw [getD_of s4]
   unfold Sta.mayB9
   rw [e76,e1s,eg]
   rfl
  refine wp_cond_false ((ev s124 rfl).trans (congrArg Value.bool eg)) ?_;clear s124
  go_upto_region 9 with fail
  refine wp_region_lit ?_;have Yfs:=((Rp.nil hz).cons s2).cons s3;clear hz s2 s3
  refine Yfs.t (.int .i64 0) (ex_assign rfl rfl) fun _ Yft => ?_;clear Yfs
  have hz:=Yft.z;have s2:=Yft.a 2 rfl;have s3:=Yft.a 3 rfl;have s7:=Yft.a 7 rfl;clear Yft;refine wpList_nil ?_;have hsv : _ = some (gw true (.int .i64 ((0 : Nat) : Int))):=s7
  go_upto_region 10 with fail
  refine v_loop 7 s.A.length (fun i T wr => T.size = 223∧T[2]? = some (gw true (.pointer (some ⟨w.heap.size,0,none⟩)))∧T[3]? = some (gw true (.pointer (some ⟨w.heap.size + 1,0,none⟩)))∧T[7]? = some (gw true (.int .i64 (i : Int)))∧Hid (Below x3.heap.size x3 wr∧∀ k x,k < i → s.A[k]? = some x → rkb9 s x = false)) (fun i T w h => h.2.2.2.1) ⟨hz,s2,s3,hsv,hx4,fun k x hk => absurd hk (Nat.not_lt_zero _)⟩ ?_;clear hz s2 s3 s7 hsv;intro i R0 wr hi hh;obtain ⟨hz,s2,s3,s7,HJ⟩:=hh;have hbr:=HJ.out.1;have hzr:=hbr.size
  by_cases hit : i < s.A.length
  ·have d1 : decide ((i : Int) < (s.A.length : Int)) = true:=decide_eq_true (by omega)
   go_upto_region 10 with fail
   refine wp_region_lit ?_;have Yfu:=(((Rp.nil hz).cons s2).cons s3).cons s7;clear hz s2 s3 s7
   refine Yfu.t _ (ex_move rfl (Yfu.f 7)) fun _ Yfv => ?_;clear Yfu
   refine Yfv.t _ (ex_fa rfl (Yfv.f 3) (faS8 _ _)) fun _ Yfw => ?_;clear Yfv
   refine Yfw.t _ (ex_ld rfl (Yfw.f 126) (ldK8 (cell8 (HS.cell 8 _ rfl) hbr))) fun _ Yfx => ?_;clear Yfw
   refine Yfx.t _ (ex_lenK8 rfl rfl (Yfx.f 127)) fun _ Yfy => ?_;clear Yfx
   refine Yfy.t (.bool true) (ex_bin rfl (Yfy.f 125) (Yfy.f 128) (lssD8 _ _ _ _ true d1 _)) fun _ Yfz => ?_;clear Yfy
   have hz:=Yfz.z;have s2:=Yfz.a 2 rfl;have s3:=Yfz.a 3 rfl;have s7:=Yfz.a 7 rfl;have s129:=Yfz.a 129 rfl;clear Yfz;refine wpList_nil ?_
   go_upto_region 12 with fail
   refine wp_cond_true ((ev s129 rfl).trans rfl) ?_;clear s129 d1
   obtain ⟨x,hxi⟩ : ∃ x,s.A[i]? = some x:=⟨_,List.getElem?_eq_getElem hit⟩
   have hmem:=List.mem_of_getElem? hxi;obtain ⟨q,o,hqa,hq,hl⟩:=(HI.a.later hbr).place (by intro e;rw [e] at hit;simp at hit);have e1 : wr.cell? ⟨q,o + i * 4 + 3,none⟩ = some (.int .i64 x.p):=hl i x hxi 3 _ rfl
   go_upto_region 12 with fail
   refine vq_start (C:=fun v => Below wr.heap.size wr v) (by kernel_rfl) (by kernel_rfl) (Below.refl _ _).drew ?_;have Yf0:=(((Rp.nil hz).cons s2).cons s3).cons s7;clear hz s2 s3 s7
   refine Yf0.q _ (fun v hv => ex_fa rfl (Yf0.f 3) (faS8 _ _)) fun _ Yf1 => ?_;clear Yf0
   refine Yf1.q _ (fun v hv => ex_ld rfl (Yf1.f 132) (ldK8 (cell8 ((HS.bel hbr).cell 8 _ rfl) hv))) fun _ Yf2 => ?_;clear Yf1
   refine Yf2.q _ (fun v hv => ex_move rfl (Yf2.f 7)) fun _ Yf3 => ?_;clear Yf2
   refine Yf3.q (.pointer (some ⟨q,o + i * 4,none⟩)) (fun v hv => ex_ix rfl (Yf3.f 133) (Yf3.f 134) (by rw [hqa];exact ix9Ak q o s.A.length s.kc i hit _)) fun _ Yf4 => ?_;clear Yf3
   refine Yf4.q _ (fun v hv => ex_fa rfl (Yf4.f 135) (fa2Ak _ _ _)) fun _ Yf5 => ?_;clear Yf4
   refine Yf5.q _ (fun v hv => ex_ld rfl (Yf5.f 136) (ldI8 (cell8 e1 hv))) fun _ Yf6 => ?_;clear Yf5
   refine Yf6.q (.bool (decide (x.p < 1))) (fun v hv => ex_bin rfl (Yf6.f 137) rfl (lssC _ _ _ _ _)) fun _ Yf7 => ?_;clear Yf6
   refine Yf7.q _ (fun v hv => ex_move rfl (Yf7.f 138)) fun _ Yf8 => ?_;clear Yf7
   refine Yf8.gq 139 rfl rfl rfl _ (fun hc v hv => ex_fa rfl (Yf8.f 3) (faS8 _ _)) fun Yf9 Yga => ?_;clear Yf8
   refine Yga.gq 139 rfl rfl rfl _ (fun hc v hv => ex_ld rfl (ev (Yga.a 140 rfl) hc) (ldK8 (cell8 ((HS.bel hbr).cell 8 _ rfl) hv))) fun Ygb Ygc => ?_;clear Yga
   refine Ygc.gq 139 rfl rfl rfl _ (fun hc v hv => ex_move rfl (Ygc.f 7)) fun Ygd Yge => ?_;clear Ygc
   refine Yge.gq 139 rfl rfl rfl (.pointer (some ⟨q,o + i * 4,none⟩)) (fun hc v hv => ex_ix rfl (ev (Yge.a 141 rfl) hc) (ev (Yge.a 142 rfl) hc) (by rw [hqa];exact ix9Ak q o s.A.length s.kc i hit _)) fun Ygf Ygg => ?_;clear Yge
   refine Ygg.gq 139 rfl rfl rfl _ (fun hc v hv => ex_fa rfl (ev (Ygg.a 143 rfl) hc) (fa2Ak _ _ _)) fun Ygh Ygi => ?_;clear Ygg
   refine Ygi.gq 139 rfl rfl rfl _ (fun hc v hv => ex_ld rfl (ev (Ygi.a 144 rfl) hc) (ldI8 (cell8 e1 hv))) fun Ygj Ygk => ?_;clear Ygi
   refine Ygk.gq 139 rfl rfl rfl _ (fun hc v hv => ex_fa rfl (Ygk.f 3) (faS4 _ _)) fun Ygl Ygm => ?_;clear Ygk
   refine Ygm.gq 139 rfl rfl rfl _ (fun hc v hv => ex_ld rfl (ev (Ygm.a 146 rfl) hc) (ldE8 (cell8 ((HS.bel hbr).cell 4 _ rfl) hv))) fun Ygn Ygo => ?_;clear Ygm
   refine Ygo.gq 139 rfl rfl rfl _ (fun hc v hv => ex_lenE8 rfl rfl (ev (Ygo.a 147 rfl) hc)) fun Ygp Ygq => ?_;clear Ygo
   refine Ygq.gq 139 rfl rfl rfl (.bool (decide ((s.L.length : Int) < x.p))) (fun hc v hv => ex_bin rfl (ev (Ygq.a 145 rfl) hc) (ev (Ygq.a 148 rfl) hc) (gtrC _ _ _ _ _)) fun Ygr Ygs => ?_;clear Ygq
   refine Ygs.q (.bool ((decide (x.p < 1)) || (decide ((s.L.length : Int) < x.p)))) (fun v hv => ex_or rfl (Ygs.a 139 rfl) (Ygs.a 149 rfl) rfl) fun _ Ygt => ?_;clear Ygs
   have hz:=Ygt.z;have s2:=Ygt.a 2 rfl;have s3:=Ygt.a 3 rfl;have s7:=Ygt.a 7 rfl;have s150:=Ygt.a 150 rfl;clear Ygt;refine vq_nil (fun x11 hx11 => ?_);have hb8:=hbr.trans (hx11.mono hzr)
   go_upto_region 13 with fail
   cases eb : rkb9 s x
   rotate_left
   ·refine wp_cond_true ((ev s150 rfl).trans (congrArg Value.bool eb)) ?_
    go_upto_region 13 with fail
    refine wp_region_lit ?_;have Ygu:=(((Rp.nil hz).cons s2).cons s3).cons s7;clear hz s2 s3 s7
    refine Ygu.t (.bool false) (ex_assign rfl rfl) fun _ Ygv => ?_;clear Ygu
    have hz:=Ygv.z;have s4:=Ygv.a 4 rfl;clear Ygv;refine wpList_nil ?_
    go_wp2
    refine bodyPost_ret (results_tmp rfl _ _ _) rfl ⟨?_,hB.trans (hb8.mono (by omega))⟩;rw [getD_of s4]
    unfold Sta.mayB9
    rw [e76,e1s,eg,any_bad9 hxi eb]
    rfl
   refine wp_cond_false ((ev s150 rfl).trans (congrArg Value.bool eb)) ?_;clear s150
   go_upto_region 11 with fail
   refine wp_region_lit ?_;have Ygw:=(((Rp.nil hz).cons s2).cons s3).cons s7;clear hz s2 s3 s7
   refine Ygw.t _ (ex_move rfl (Ygw.f 7)) fun _ Ygx => ?_;clear Ygw
   refine Ygx.t (.int .i64 ((i + 1 : Nat) : Int)) (ex_bin rfl (Ygx.f 130) rfl (addD8 _ _ _ 1 ((i + 1 : Nat) : Int) (by rw [IntKind.wrap_i64];omega) _)) fun _ Ygy => ?_;clear Ygx
   refine Ygy.t _ (ex_assign rfl (Ygy.f 131)) fun _ Ygz => ?_;clear Ygy
   have hz:=Ygz.z;have s2:=Ygz.a 2 rfl;have s3:=Ygz.a 3 rfl;have s7:=Ygz.a 7 rfl;clear Ygz;refine wpList_nil ?_
   exact ⟨_,rfl,by omega,hz,s2,s3,s7,hb8,fun k y hk hy => by
    by_cases e : k = i
    ·subst e;rw [hxi] at hy;cases hy;exact eb
    ·exact HJ.out.2 k y (by omega) hy⟩
  ·have d1 : decide ((i : Int) < (s.A.length : Int)) = false:=decide_eq_false (by omega)
   go_upto_region 10 with fail
   refine wp_region_lit ?_;have Yg0:=(((Rp.nil hz).cons s2).cons s3).cons s7;clear hz s2 s3 s7
   refine Yg0.t _ (ex_move rfl (Yg0.f 7)) fun _ Yg1 => ?_;clear Yg0
   refine Yg1.t _ (ex_fa rfl (Yg1.f 3) (faS8 _ _)) fun _ Yg2 => ?_;clear Yg1
   refine Yg2.t _ (ex_ld rfl (Yg2.f 126) (ldK8 (cell8 (HS.cell 8 _ rfl) hbr))) fun _ Yg3 => ?_;clear Yg2
   refine Yg3.t _ (ex_lenK8 rfl rfl (Yg3.f 127)) fun _ Yg4 => ?_;clear Yg3
   refine Yg4.t (.bool false) (ex_bin rfl (Yg4.f 125) (Yg4.f 128) (lssD8 _ _ _ _ false d1 _)) fun _ Yg5 => ?_;clear Yg4
   have hz:=Yg5.z;have s129:=Yg5.a 129 rfl;clear Yg5;refine wpList_nil ?_
   go_upto_region 14 with fail
   refine wp_cond_false ((ev s129 rfl).trans rfl) ?_;clear s129 d1
   go_upto_region 14 with fail
   refine wp_region_lit ?_;have Yg6:=Rp.nil hz;clear hz
   refine Yg6.t (.bool true) (ex_assign rfl rfl) fun _ Yg7 => ?_;clear Yg6
   have hz:=Yg7.z;have s4:=Yg7.a 4 rfl;clear Yg7;refine wpList_nil ?_
   go_wp2
   refine bodyPost_ret (results_tmp rfl _ _ _) rfl ⟨?_,hB.trans (hbr.mono (by omega))⟩;rw [getD_of s4]
   unfold Sta.mayB9
   rw [e76,e1s,eg,any_ok9 (fun k x hk hx => HJ.out.2 k x (by omega) hx)]
   rfl
 refine wp_cond_false ((ev s86 rfl).trans (congrArg Value.bool e1s)) ?_;clear s86
 go_upto_region 15 with fail
 refine wp_region_lit ?_;have Yg8:=(((((Rp.nil hz).cons s2).cons s3).cons s5).cons s6).cons s85;clear hz s2 s3 s5 s6 s85
 refine Yg8.t (.bool (decide (s.st = 2))) (ex_bin rfl (Yg8.f 85) rfl (eqlC _ _ _ _ _)) fun _ Yg9 => ?_;clear Yg8
 refine Yg9.t _ (ex_assign rfl (Yg9.f 152)) fun _ Yha => ?_;clear Yg9
 have hz:=Yha.z;have s2:=Yha.a 2 rfl;have s3:=Yha.a 3 rfl;have s5:=Yha.a 5 rfl;have s6:=Yha.a 6 rfl;have s85:=Yha.a 85 rfl;have s151:=Yha.a 151 rfl;clear Yha;refine wpList_nil ?_
 go_upto_region 16 with fail
 cases e2s : decide (s.st = 2)
 rotate_left
 ·refine wp_cond_true ((ev s151 rfl).trans (congrArg Value.bool e2s)) ?_
  clear s151
  go_upto_region 16 with fail
  refine wp_region_lit ?_;have Yhb:=(((((Rp.nil hz).cons s2).cons s3).cons s5).cons s6).cons s85;clear hz s2 s3 s5 s6 s85
  refine Yhb.t _ (ex_fa rfl (Yhb.f 3) (faS3 _ _)) fun _ Yhc => ?_;clear Yhb
  refine Yhc.t _ (ex_ld rfl (Yhc.f 153) (ldI8 (cell8 (HS.cell 3 _ rfl) hx4))) fun _ Yhd => ?_;clear Yhc
  refine Yhd.t _ (ex_fa rfl (Yhd.f 3) (faS2 _ _)) fun _ Yhe => ?_;clear Yhd
  refine Yhe.t _ (ex_ld rfl (Yhe.f 155) (ldI8 (cell8 (HS.cell 2 _ rfl) hx4))) fun _ Yhf => ?_;clear Yhe
  refine Yhf.t (.bool (decide (s.last = s.view))) (ex_bin rfl (Yhf.f 154) (Yhf.f 156) (eqlC _ _ _ _ _)) fun _ Yhg => ?_;clear Yhf
  refine Yhg.t _ (ex_move rfl (Yhg.f 157)) fun _ Yhh => ?_;clear Yhg
  refine Yhh.g 158 rfl rfl rfl _ (fun hc => ex_fa rfl (Yhh.f 3) (faS8 _ _)) fun Yhi Yhj => ?_;clear Yhh
  refine Yhj.g 158 rfl rfl rfl _ (fun hc => ex_ld rfl (ev (Yhj.a 159 rfl) hc) (ldK8 (cell8 (HS.cell 8 _ rfl) hx4))) fun Yhk Yhl => ?_;clear Yhj
  refine Yhl.g 158 rfl rfl rfl _ (fun hc => ex_lenK8 rfl rfl (ev (Yhl.a 160 rfl) hc)) fun Yhm Yhn => ?_;clear Yhl
  refine Yhn.g 158 rfl rfl rfl _ (fun hc => ex_fa rfl (Yhn.f 3) (faS11 _ _)) fun Yho Yhp => ?_;clear Yhn
  refine Yhp.g 158 rfl rfl rfl _ (fun hc => ex_ld rfl (ev (Yhp.a 162 rfl) hc) (ldN8 (cell8 (HS.cell 11 _ rfl) hx4))) fun Yhq Yhr => ?_;clear Yhp
  refine Yhr.g 158 rfl rfl rfl _ (fun hc => ex_lenN8 rfl rfl (ev (Yhr.a 163 rfl) hc)) fun Yhs Yht => ?_;clear Yhr
  refine Yht.g 158 rfl rfl rfl (.int .i64 ((s.A.length : Int) + (s.N.length : Int))) (fun hc => ex_bin rfl (ev (Yht.a 161 rfl) hc) (ev (Yht.a 164 rfl) hc) (addD8 _ _ (s.A.length : Int) (s.N.length : Int) ((s.A.length : Int) + (s.N.length : Int)) (by rw [IntKind.wrap_i64];omega) _)) fun Yhu Yhv => ?_;clear Yht
  refine Yhv.g 158 rfl rfl rfl (.bool (decide (0 < ((s.A.length : Int) + (s.N.length : Int))))) (fun hc => ex_bin rfl (ev (Yhv.a 165 rfl) hc) rfl (gtrC _ _ _ _ _)) fun Yhw Yhx => ?_;clear Yhv
  refine Yhx.t (.bool ((decide (s.last = s.view)) || (decide (0 < ((s.A.length : Int) + (s.N.length : Int)))))) (ex_or rfl (Yhx.a 158 rfl) (Yhx.a 166 rfl) rfl) fun _ Yhy => ?_;clear Yhx
  refine Yhy.t _ (ex_move rfl (Yhy.f 167)) fun _ Yhz => ?_;clear Yhy
  refine Yhz.g 168 rfl rfl rfl _ (fun hc => ex_move rfl (Yhz.f 6)) fun Yh0 Yh1 => ?_;clear Yhz
  refine Yh1.g 168 rfl rfl rfl (.bool (!(decide (s.self = (s.view % c.nd))))) (fun hc => ex_not rfl (ev (Yh1.a 169 rfl) hc)) fun Yh2 Yh3 => ?_;clear Yh1
  refine Yh3.g 168 rfl rfl rfl _ (fun hc => ex_move rfl (ev (Yh3.a 170 rfl) hc)) fun Yh4 Yh5 => ?_;clear Yh3
  refine Yh5.g 171 rfl rfl rfl _ (fun hc => ex_fa rfl (Yh5.f 3) (faS10 _ _)) fun Yh6 Yh7 => ?_;clear Yh5
  refine Yh7.g 171 rfl rfl rfl _ (fun hc => ex_ld rfl (ev (Yh7.a 172 rfl) hc) (ldB8 (cell8 (HS.cell 10 _ rfl) hx4))) fun Yh8 Yh9 => ?_;clear Yh7
  refine Yh9.g 171 rfl rfl rfl _ (fun hc => ex_lenB8 rfl rfl (ev (Yh9.a 173 rfl) hc)) fun Yia Yib => ?_;clear Yh9
  refine Yib.g 171 rfl rfl rfl (.bool (decide (0 < (s.B.length : Int)))) (fun hc => ex_bin rfl (ev (Yib.a 174 rfl) hc) rfl (gtrC _ _ _ _ _)) fun Yic Yid => ?_;clear Yib
  refine Yid.g 168 rfl rfl rfl (.bool ((!(decide (s.self = (s.view % c.nd)))) && (decide (0 < (s.B.length : Int))))) (fun hc => ex_and rfl (Yid.a 171 rfl) (Yid.a 175 rfl) hc) fun Yie Yif => ?_;clear Yid
  refine Yif.t (.bool (((decide (s.last = s.view)) || (decide (0 < ((s.A.length : Int) + (s.N.length : Int))))) || ((!(decide (s.self = (s.view % c.nd)))) && (decide (0 < (s.B.length : Int)))))) (ex_or rfl (Yif.a 168 rfl) (Yif.a 176 rfl) rfl) fun _ Yig => ?_;clear Yif
  refine Yig.t _ (ex_move rfl (Yig.f 177)) fun _ Yih => ?_;clear Yig
  refine Yih.g 178 rfl rfl rfl _ (fun hc => ex_fa rfl (Yih.f 3) (faS10 _ _)) fun Yii Yij => ?_;clear Yih
  refine Yij.g 178 rfl rfl rfl _ (fun hc => ex_ld rfl (ev (Yij.a 179 rfl) hc) (ldB8 (cell8 (HS.cell 10 _ rfl) hx4))) fun Yik Yil => ?_;clear Yij
  refine Yil.g 178 rfl rfl rfl _ (fun hc => ex_lenB8 rfl rfl (ev (Yil.a 180 rfl) hc)) fun Yim Yin => ?_;clear Yil
  refine Yin.g 178 rfl rfl rfl _ (fun hc => ex_fa rfl (Yin.f 2) (faC0 _ _)) fun Yio Yip => ?_;clear Yin
  refine Yip.g 178 rfl rfl rfl _ (fun hc => ex_ld rfl (ev (Yip.a 182 rfl) hc) (ldI8 (cell8 (HC.cell 0 _ rfl) hx4))) fun Yiq Yir => ?_;clear Yip
  refine Yir.g 178 rfl rfl rfl (.bool (decide (c.F ≤ (s.B.length : Int)))) (fun hc => ex_bin rfl (ev (Yir.a 181 rfl) hc) (ev (Yir.a 183 rfl) hc) (geqC _ _ _ _ _)) fun Yis Yit => ?_;clear Yir
  refine Yit.t (.bool ((((decide (s.last = s.view)) || (decide (0 < ((s.A.length : Int) + (s.N.length : Int))))) || ((!(decide (s.self = (s.view % c.nd)))) && (decide (0 < (s.B.length : Int))))) || (decide (c.F ≤ (s.B.length : Int))))) (ex_or rfl (Yit.a 178 rfl) (Yit.a 184 rfl) rfl) fun _ Yiu => ?_;clear Yit
  have hz:=Yiu.z;have s2:=Yiu.a 2 rfl;have s3:=Yiu.a 3 rfl;have s185:=Yiu.a 185 rfl;clear Yiu;refine wpList_nil ?_
  go_upto_region 17 with fail
  cases eg : s.mc9 c
  rotate_left
  ·refine wp_cond_true ((ev s185 rfl).trans (congrArg Value.bool eg)) ?_
   go_upto_region 17 with fail
   refine wp_region_lit ?_;have Yiv:=((Rp.nil hz).cons s2).cons s3;clear hz s2 s3
   refine Yiv.t (.bool false) (ex_assign rfl rfl) fun _ Yiw => ?_;clear Yiv
   have hz:=Yiw.z;have s4:=Yiw.a 4 rfl;clear Yiw;refine wpList_nil ?_
   go_wp2
   refine bodyPost_ret (results_tmp rfl _ _ _) rfl ⟨?_,hB.trans (hx4.mono (by omega))⟩;rw [getD_of s4]
   unfold Sta.mayB9
   rw [e76,e1s,e2s,eg]
   rfl
  refine wp_cond_false ((ev s185 rfl).trans (congrArg Value.bool eg)) ?_;clear s185
  go_upto_region 18 with fail
  refine wp_region_lit ?_;have Yix:=((Rp.nil hz).cons s2).cons s3;clear hz s2 s3
  refine Yix.t (.int .i64 0) (ex_assign rfl rfl) fun _ Yiy => ?_;clear Yix
  have hz:=Yiy.z;have s2:=Yiy.a 2 rfl;have s3:=Yiy.a 3 rfl;have s8:=Yiy.a 8 rfl;clear Yiy;refine wpList_nil ?_;have hsv : _ = some (gw true (.int .i64 ((0 : Nat) : Int))):=s8
  go_upto_region 19 with fail
  refine v_loop 8 s.B.length (fun i T wr => T.size = 223∧T[2]? = some (gw true (.pointer (some ⟨w.heap.size,0,none⟩)))∧T[3]? = some (gw true (.pointer (some ⟨w.heap.size + 1,0,none⟩)))∧T[8]? = some (gw true (.int .i64 (i : Int)))∧Hid (Below x3.heap.size x3 wr∧∀ k x,k < i → s.B[k]? = some x → rbb9 c s x = false)) (fun i T w h => h.2.2.2.1) ⟨hz,s2,s3,hsv,hx4,fun k x hk => absurd hk (Nat.not_lt_zero _)⟩ ?_;clear hz s2 s3 s8 hsv;intro i R0 wr hi hh;obtain ⟨hz,s2,s3,s8,HJ⟩:=hh;have hbr:=HJ.out.1;have hzr:=hbr.size
  by_cases hit : i < s.B.length
  ·have d1 : decide ((i : Int) < (s.B.length : Int)) = true:=decide_eq_true (by omega)
   go_upto_region 19 with fail
   refine wp_region_lit ?_;have Yiz:=(((Rp.nil hz).cons s2).cons s3).cons s8;clear hz s2 s3 s8
   refine Yiz.t _ (ex_move rfl (Yiz.f 8)) fun _ Yi0 => ?_;clear Yiz
   refine Yi0.t _ (ex_fa rfl (Yi0.f 3) (faS10 _ _)) fun _ Yi1 => ?_;clear Yi0
   refine Yi1.t _ (ex_ld rfl (Yi1.f 187) (ldB8 (cell8 (HS.cell 10 _ rfl) hbr))) fun _ Yi2 => ?_;clear Yi1
   refine Yi2.t _ (ex_lenB8 rfl rfl (Yi2.f 188)) fun _ Yi3 => ?_;clear Yi2
   refine Yi3.t (.bool true) (ex_bin rfl (Yi3.f 186) (Yi3.f 189) (lssD8 _ _ _ _ true d1 _)) fun _ Yi4 => ?_;clear Yi3
   have hz:=Yi4.z;have s2:=Yi4.a 2 rfl;have s3:=Yi4.a 3 rfl;have s8:=Yi4.a 8 rfl;have s190:=Yi4.a 190 rfl;clear Yi4;refine wpList_nil ?_
   go_upto_region 21 with fail
   refine wp_cond_true ((ev s190 rfl).trans rfl) ?_;clear s190 d1
   obtain ⟨x,hxi⟩ : ∃ x,s.B[i]? = some x:=⟨_,List.getElem?_eq_getElem hit⟩
   have hmem:=List.mem_of_getElem? hxi;obtain ⟨q,o,hqa,hq,hl⟩:=(HI.b.later hbr).place (by intro e;rw [e] at hit;simp at hit)
   obtain ⟨y1,hy1⟩ : ∃ y,y = wr.alloc (.cells zBl9.cs.toArray 58):=⟨_,rfl⟩
   have hb : Below wr.heap.size wr y1:=by rw [hy1];exact (Below.refl _ _).alloc (Nat.le_refl _) _
   have HA : BX7 y1 wr.heap.size zBl9.cs:=by rw [hy1];exact BX7.new _ _ _
   go_upto_region 21 with fail
   refine wp_region_lit ?_;have Yi5:=(((Rp.nil hz).cons s2).cons s3).cons s8;clear hz s2 s3 s8
   refine Yi5.t _ (ex_fa rfl (Yi5.f 3) (faS10 _ _)) fun _ Yi6 => ?_;clear Yi5
   refine Yi6.t _ (ex_ld rfl (Yi6.f 193) (ldB8 (cell8 (HS.cell 10 _ rfl) hbr))) fun _ Yi7 => ?_;clear Yi6
   refine Yi7.t _ (ex_move rfl (Yi7.f 8)) fun _ Yi8 => ?_;clear Yi7
   refine Yi8.t (.pointer (some ⟨q,o + i * 6,none⟩)) (ex_ix rfl (Yi8.f 194) (Yi8.f 195) (by rw [hqa];exact ix9Bl q o s.B.length s.bc i hit _)) fun _ Yi9 => ?_;clear Yi8
   refine Yi9.t _ (ex_ld rfl (Yi9.f 196) (ldBl9 (fun k u hu => hl i x hxi k u hu))) fun _ Yja => ?_;clear Yi9
   refine vw (.pointer (some ⟨wr.heap.size,0,none⟩)) y1 (want_none rfl) (ex_al rfl (by rw [hy1];exact alBl9 _)) rfl Yja.z (by decide) (Yja.k fun Yjb Yjc => ?_);clear Yja;refine vs (sets y1 wr.heap.size 0 x.cs) (want_none rfl) (ex_st rfl (Yjc.f 9) (Yjc.f 197) (stBl9 HA x)) rfl ?_;have HP:=putBl9 HA x;have UP:=upBl9 y1 wr.heap.size x
   obtain ⟨y2,hy2⟩ : ∃ v,v = sets y1 wr.heap.size 0 x.cs:=⟨_,rfl⟩
   rw [← hy2] at HP UP ⊢;have hby : Below wr.heap.size wr y2:=hb.trans (UP.below hb.size (fun k hk => by omega));have hbx:=hbr.trans (hby.mono hzr);clear hy2 hy1 HA UP hb hl;have hzy:=hbx.size;have hz:=Yjc.z;have s2:=Yjc.a 2 rfl;have s3:=Yjc.a 3 rfl;have s8:=Yjc.a 8 rfl;have s9:=Yjc.a 9 rfl;clear Yjc;refine wpList_nil ?_;have HC2:=HC.bel hbx;have HS2:=HS.bel hbx
   have xin:=(HI.bl x hmem)
   have hxL:=xin.1.later hbx;have hvy : Below y2.heap.size y2 y2:=Below.refl _ _
   go_upto_region 22 with fail
   refine wp_region_lit ?_;have Yjd:=((((Rp.nil hz).cons s2).cons s3).cons s8).cons s9;clear hz s2 s3 s8 s9
   refine Yjd.t _ (ex_fa rfl (Yjd.f 9) (fb2Bl _ _)) fun _ Yje => ?_;clear Yjd
   refine Yje.t _ (ex_ld rfl (Yje.f 198) (ldI8 (cell8 (HP.cell 3 _ rfl) hvy))) fun _ Yjf => ?_;clear Yje
   refine Yjf.t (.bool (decide (x.v < 0))) (ex_bin rfl (Yjf.f 199) rfl (lssC _ _ _ _ _)) fun _ Yjg => ?_;clear Yjf
   refine Yjg.t _ (ex_move rfl (Yjg.f 200)) fun _ Yjh => ?_;clear Yjg
   refine Yjh.g 201 rfl rfl rfl _ (fun hc => ex_fa rfl (Yjh.f 9) (fb2Bl _ _)) fun Yji Yjj => ?_;clear Yjh
   refine Yjj.g 201 rfl rfl rfl _ (fun hc => ex_ld rfl (ev (Yjj.a 202 rfl) hc) (ldI8 (cell8 (HP.cell 3 _ rfl) hvy))) fun Yjk Yjl => ?_;clear Yjj
   refine Yjl.g 201 rfl rfl rfl _ (fun hc => ex_fa rfl (Yjl.f 3) (faS2 _ _)) fun Yjm Yjn => ?_;clear Yjl
   refine Yjn.g 201 rfl rfl rfl _ (fun hc => ex_ld rfl (ev (Yjn.a 204 rfl) hc) (ldI8 (cell8 (HS2.cell 2 _ rfl) hvy))) fun Yjo Yjp => ?_;clear Yjn
   refine Yjp.g 201 rfl rfl rfl (.bool (decide (s.view ≤ x.v))) (fun hc => ex_bin rfl (ev (Yjp.a 203 rfl) hc) (ev (Yjp.a 205 rfl) hc) (geqC _ _ _ _ _)) fun Yjq Yjr => ?_;clear Yjp
   refine Yjr.t (.bool ((decide (x.v < 0)) || (decide (s.view ≤ x.v)))) (ex_or rfl (Yjr.a 201 rfl) (Yjr.a 206 rfl) rfl) fun _ Yjs => ?_;clear Yjr
   refine Yjs.t _ (ex_move rfl (Yjs.f 207)) fun _ Yjt => ?_;clear Yjs
   refine Yjt.g 208 rfl rfl rfl _ (fun hc => ex_ld rfl (Yjt.f 2) (CB7.ld (HC2.bel hvy))) fun Yju Yjv => ?_;clear Yjt
   refine Yjv.g 208 rfl rfl rfl _ (fun hc => ex_fa rfl (Yjv.f 9) (fb4Bl _ _)) fun Yjw Yjx => ?_;clear Yjv
   refine Yjx.g 208 rfl rfl rfl _ (fun hc => ex_ld rfl (ev (Yjx.a 210 rfl) hc) (ldE8 (cell8 (HP.cell 5 _ rfl) hvy))) fun Yjy Yjz => ?_;clear Yjx
   refine Yjz.g 208 rfl rfl rfl _ (fun hc => ex_fa rfl (Yjz.f 9) (fb3Bl _ _)) fun Yj0 Yj1 => ?_;clear Yjz
   refine Yj1.g 208 rfl rfl rfl _ (fun hc => ex_ld rfl (ev (Yj1.a 212 rfl) hc) (ldI8 (cell8 (HP.cell 4 _ rfl) hvy))) fun Yj2 Yj3 => ?_;clear Yj1
   refine vcall (true && (((decide (x.v < 0)) || (decide (s.view ≤ x.v))) == false)) (.bool (lgB9 c x.s.D x.c)) (want_g rfl rfl (Yj3.a 208 rfl)) (fun hc => ex_call rfl (by simp only [List.map_toArray,List.map_cons,List.map_nil,(ev (Yj3.a 209 rfl) hc),(ev (Yj3.a 211 rfl) hc),(ev (Yj3.a 213 rfl) hc),evc] <;> rfl) rfl) (fun hc => rlogged9 c x.s.D x.s.a x.s.c x.c y2 (hxL.later hvy) (hF.be x hmem)) rfl Yj3.z (by decide) (Yj3.kc fun Yj4 x31 hb Yj5 => ?_);clear Yj3;have hx31:=hvy.trans (hb.mono hvy.size);clear hb
   refine Yj5.g 208 rfl rfl rfl (.bool (!(lgB9 c x.s.D x.c))) (fun hc => ex_not rfl (ev (Yj5.a 214 rfl) hc)) fun Yj6 Yj7 => ?_;clear Yj5
   refine Yj7.t (.bool (((decide (x.v < 0)) || (decide (s.view ≤ x.v))) || (!(lgB9 c x.s.D x.c)))) (ex_or rfl (Yj7.a 208 rfl) (Yj7.a 215 rfl) rfl) fun _ Yj8 => ?_;clear Yj7
   have hz:=Yj8.z;have s2:=Yj8.a 2 rfl;have s3:=Yj8.a 3 rfl;have s8:=Yj8.a 8 rfl;have s216:=Yj8.a 216 rfl;clear Yj8;refine wpList_nil ?_;have hb8:=hbx.trans (hx31.mono hbx.size)
   go_upto_region 23 with fail
   cases eb : rbb9 c s x
   rotate_left
   ·refine wp_cond_true ((ev s216 rfl).trans (congrArg Value.bool eb)) ?_
    go_upto_region 23 with fail
    refine wp_region_lit ?_;have Yj9:=(((Rp.nil hz).cons s2).cons s3).cons s8;clear hz s2 s3 s8
    refine Yj9.t (.bool false) (ex_assign rfl rfl) fun _ Yka => ?_;clear Yj9
    have hz:=Yka.z;have s4:=Yka.a 4 rfl;clear Yka;refine wpList_nil ?_
    go_wp2
    refine bodyPost_ret (results_tmp rfl _ _ _) rfl ⟨?_,hB.trans (hb8.mono (by omega))⟩;rw [getD_of s4]
    unfold Sta.mayB9
    rw [e76,e1s,e2s,eg,any_bad9 hxi eb]
    rfl
   refine wp_cond_false ((ev s216 rfl).trans (congrArg Value.bool eb)) ?_;clear s216
   go_upto_region 20 with fail
   refine wp_region_lit ?_;have Ykb:=(((Rp.nil hz).cons s2).cons s3).cons s8;clear hz s2 s3 s8
   refine Ykb.t _ (ex_move rfl (Ykb.f 8)) fun _ Ykc => ?_;clear Ykb
   refine Ykc.t (.int .i64 ((i + 1 : Nat) : Int)) (ex_bin rfl (Ykc.f 191) rfl (addD8 _ _ _ 1 ((i + 1 : Nat) : Int) (by rw [IntKind.wrap_i64];omega) _)) fun _ Ykd => ?_;clear Ykc
   refine Ykd.t _ (ex_assign rfl (Ykd.f 192)) fun _ Yke => ?_;clear Ykd
   have hz:=Yke.z;have s2:=Yke.a 2 rfl;have s3:=Yke.a 3 rfl;have s8:=Yke.a 8 rfl;clear Yke;refine wpList_nil ?_
   exact ⟨_,rfl,by omega,hz,s2,s3,s8,hb8,fun k y hk hy => by
    by_cases e : k = i
    ·subst e;rw [hxi] at hy;cases hy;exact eb
    ·exact HJ.out.2 k y (by omega) hy⟩
  ·have d1 : decide ((i : Int) < (s.B.length : Int)) = false:=decide_eq_false (by omega)
   go_upto_region 19 with fail
   refine wp_region_lit ?_;have Ykf:=(((Rp.nil hz).cons s2).cons s3).cons s8;clear hz s2 s3 s8
   refine Ykf.t _ (ex_move rfl (Ykf.f 8)) fun _ Ykg => ?_;clear Ykf
   refine Ykg.t _ (ex_fa rfl (Ykg.f 3) (faS10 _ _)) fun _ Ykh => ?_;clear Ykg
   refine Ykh.t _ (ex_ld rfl (Ykh.f 187) (ldB8 (cell8 (HS.cell 10 _ rfl) hbr))) fun _ Yki => ?_;clear Ykh
   refine Yki.t _ (ex_lenB8 rfl rfl (Yki.f 188)) fun _ Ykj => ?_;clear Yki
   refine Ykj.t (.bool false) (ex_bin rfl (Ykj.f 186) (Ykj.f 189) (lssD8 _ _ _ _ false d1 _)) fun _ Ykk => ?_;clear Ykj
   have hz:=Ykk.z;have s190:=Ykk.a 190 rfl;clear Ykk;refine wpList_nil ?_
   go_upto_region 24 with fail
   refine wp_cond_false ((ev s190 rfl).trans rfl) ?_;clear s190 d1
   go_upto_region 24 with fail
   refine wp_region_lit ?_;have Ykl:=Rp.nil hz;clear hz
   refine Ykl.t (.bool true) (ex_assign rfl rfl) fun _ Ykm => ?_;clear Ykl
   have hz:=Ykm.z;have s4:=Ykm.a 4 rfl;clear Ykm;refine wpList_nil ?_
   go_wp2
   refine bodyPost_ret (results_tmp rfl _ _ _) rfl ⟨?_,hB.trans (hbr.mono (by omega))⟩;rw [getD_of s4]
   unfold Sta.mayB9
   rw [e76,e1s,e2s,eg,any_ok9 (fun k x hk hx => HJ.out.2 k x (by omega) hx)]
   rfl
 refine wp_cond_false ((ev s151 rfl).trans (congrArg Value.bool e2s)) ?_;clear s151
 go_upto_region 25 with fail
 refine wp_region_lit ?_;have Ykn:=(((((Rp.nil hz).cons s2).cons s3).cons s5).cons s6).cons s85;clear hz s2 s3 s5 s6 s85
 refine Ykn.t (.bool (decide (s.st = 3))) (ex_bin rfl (Ykn.f 85) rfl (eqlC _ _ _ _ _)) fun _ Yko => ?_;clear Ykn
 refine Yko.t _ (ex_assign rfl (Yko.f 218)) fun _ Ykp => ?_;clear Yko
 have hz:=Ykp.z;have s2:=Ykp.a 2 rfl;have s3:=Ykp.a 3 rfl;have s5:=Ykp.a 5 rfl;have s6:=Ykp.a 6 rfl;have s85:=Ykp.a 85 rfl;have s217:=Ykp.a 217 rfl;clear Ykp;refine wpList_nil ?_
 go_upto_region 26 with fail
 cases e3s : decide (s.st = 3)
 rotate_left
 ·refine wp_cond_true ((ev s217 rfl).trans (congrArg Value.bool e3s)) ?_
  clear s217
  go_upto_region 26 with fail
  refine wp_region_lit ?_;have Ykq:=(((((Rp.nil hz).cons s2).cons s3).cons s5).cons s6).cons s85;clear hz s2 s3 s5 s6 s85
  refine Ykq.t _ (ex_ld rfl (Ykq.f 2) (CB7.ld (HC.bel hx4))) fun _ Ykr => ?_;clear Ykq
  refine Ykr.t _ (ex_ld rfl (Ykr.f 3) (SB7.ld (HS.bel hx4))) fun _ Yks => ?_;clear Ykr
  refine Yks.t _ (ex_move rfl (Yks.f 5)) fun _ Ykt => ?_;clear Yks
  refine vcall true (.bool (s.rc9 c c.nd)) (want_none rfl) (fun hc => ex_call rfl (by simp only [List.map_toArray,List.map_cons,List.map_nil,(Ykt.f 219),(Ykt.f 220),(Ykt.f 221),evc] <;> rfl) rfl) (fun hc => rrecovering9 c s c.nd x4 (HI.later hx4) hF ⟨by omega,by omega⟩ ⟨by omega,by omega⟩ ⟨by omega,by omega⟩ ⟨by omega,by omega⟩ ⟨by omega,by omega⟩ ⟨by omega,by omega⟩) rfl Ykt.z (by decide) (Ykt.kc fun Yku x61 hb Ykv => ?_);clear Ykt;have hx61:=hx4.trans (hb.mono hx4.size);clear hb
  refine Ykv.t _ (ex_assign rfl (Ykv.f 222)) fun _ Ykw => ?_;clear Ykv
  have hz:=Ykw.z;have s4:=Ykw.a 4 rfl;clear Ykw;refine wpList_nil ?_
  go_wp2
  refine bodyPost_ret (results_tmp rfl _ _ _) rfl ⟨?_,hB.trans (hx61.mono (by omega))⟩;rw [getD_of s4]
  unfold Sta.mayB9
  rw [e76,e1s,e2s,e3s]
  rfl
 refine wp_cond_false ((ev s217 rfl).trans (congrArg Value.bool e3s)) ?_;clear s217
 go_upto_region 27 with fail
 refine wp_region_lit ?_;have Ykx:=(((((Rp.nil hz).cons s2).cons s3).cons s5).cons s6).cons s85;clear hz s2 s3 s5 s6 s85
 refine Ykx.t (.bool false) (ex_assign rfl rfl) fun _ Yky => ?_;clear Ykx
 have hz:=Yky.z;have s4:=Yky.a 4 rfl;clear Yky;refine wpList_nil ?_
 go_wp2
 refine bodyPost_ret (results_tmp rfl _ _ _) rfl ⟨?_,hB.trans (hx4.mono (by omega))⟩;rw [getD_of s4]
 unfold Sta.mayB9
 rw [e76,e1s,e2s,e3s]
 rfl
set_option maxHeartbeats 1000000 in
theorem rcheck9 (c : Cg) (s : Sta) (w : World) (hI : s.In w) (hF : s.Fit) : Calls Tryz.prog 5 #[c.val,s.val] w fun e w' => e = .returned (.int .i64 (s.rk9 c))∧Below w.heap.size w w':=by
 go_enter Tryz.func5,Tryz.ntmps5
 go_upto_region 0 with fail
 refine wp_region_lit ?_;refine vl_gen (fun T => T.size = 17∧T[0]? = some (gw true (c.val))∧T[1]? = some (gw true (s.val))) ⟨rfl,rfl,rfl⟩ (fun Z0 ⟨hz,s0,s1⟩ => ?_)
 obtain ⟨w1,hw1⟩ : ∃ y,y = w.alloc (.cells c.cs.toArray 23):=⟨_,rfl⟩
 have hb : Below w.heap.size w w1:=by rw [hw1];exact (Below.refl _ _).alloc (Nat.le_refl _) _
 have hs1 : w1.heap.size = w.heap.size + 1:=by rw [hw1];simp
 have HC : CB7 w1 (w.heap.size) c:=by rw [hw1];exact BX7.new _ _ _
 refine vw (.pointer (some ⟨w.heap.size,0,none⟩)) w1 (want_none rfl) (ex_box8 rfl (ev s0 rfl) (by rw [hw1];exact bxC7 _ _)) rfl hz (by decide) (fun Z1 zz kk s2x => ?_);replace s1:=ku s1;clear kk hz s0 hw1;have hz:=zz;have s2:=s2x;clear zz s2x;have hB:=hb;clear hb
 obtain ⟨w2,hw2⟩ : ∃ y,y = w1.alloc (.cells s.cs.toArray 33):=⟨_,rfl⟩
 have hb : Below w1.heap.size w1 w2:=by rw [hw2];exact (Below.refl _ _).alloc (Nat.le_refl _) _
 have hs2 : w2.heap.size = w.heap.size + 2:=by rw [hw2];simp;omega
 have HS : SB7 w2 (w.heap.size + 1) s:=by rw [hw2,← hs1];exact BX7.new _ _ _
 refine vw (.pointer (some ⟨w.heap.size + 1,0,none⟩)) w2 (want_none rfl) (ex_box8 rfl (ev s1 rfl) (by rw [hw2,← hs1];exact bxS7 _ _)) rfl hz (by decide) (fun Z2 zz kk s3x => ?_);replace s2:=ku s2;clear kk hz s1 hw2;have hz:=zz;have s3:=s3x;clear zz s3x;have hB:=hB.trans (hb.mono (by omega));have HC:=HC.bel hb;clear hb;have hv0 : Below w2.heap.size w2 w2:=Below.refl _ _;have HI:=hI.later hB;have Ya:=((Rp.nil hz).cons s2).cons s3;clear hz s2 s3
 refine Ya.t (.int .i64 0) (ex_assign rfl rfl) fun _ Yb => ?_;clear Ya
 have hz:=Yb.z;have s2:=Yb.a 2 rfl;have s3:=Yb.a 3 rfl;clear Yb;refine wpList_nil ?_
 go_upto_region 1 with fail
 refine wp_region_lit ?_;have Yc:=((Rp.nil hz).cons s2).cons s3;clear hz s2 s3
 refine Yc.t _ (ex_ld rfl (Yc.f 2) (CB7.ld (HC.bel hv0))) fun _ Yd => ?_;clear Yc
 refine vcall true (.int .i64 c.er) (want_none rfl) (fun hc => ex_call rfl (by simp only [List.map_toArray,List.map_cons,List.map_nil,(Yd.f 6),evc] <;> rfl) rfl) (fun hc => rcheckconfig9 c w2) rfl Yd.z (by decide) (Yd.kc fun Ye x1 hb Yf => ?_);clear Yd;have hx1:=hv0.trans (hb.mono hv0.size);clear hb
 refine Yf.t _ (ex_assign rfl (Yf.f 7)) fun _ Yg => ?_;clear Yf
 have hz:=Yg.z;have s2:=Yg.a 2 rfl;have s3:=Yg.a 3 rfl;have s5:=Yg.a 5 rfl;clear Yg;refine wpList_nil ?_
 go_upto_region 2 with fail
 refine wp_region_lit ?_;have Yh:=(((Rp.nil hz).cons s2).cons s3).cons s5;clear hz s2 s3 s5
 refine Yh.t _ (ex_move rfl (Yh.f 5)) fun _ Yi => ?_;clear Yh
 refine Yi.t (.bool (decide (c.er = 0))) (ex_bin rfl (Yi.f 8) rfl (eqlC _ _ _ _ _)) fun _ Yj => ?_;clear Yi
 refine Yj.t _ (ex_move rfl (Yj.f 9)) fun _ Yk => ?_;clear Yj
 refine Yk.g 10 rfl rfl rfl _ (fun hc => ex_ld rfl (Yk.f 2) (CB7.ld (HC.bel hx1))) fun Yl Ym => ?_;clear Yk
 refine Ym.g 10 rfl rfl rfl _ (fun hc => ex_ld rfl (Ym.f 3) (SB7.ld (HS.bel hx1))) fun Yn Yo => ?_;clear Ym
 refine vcall (true && ((decide (c.er = 0)) == true)) (.bool (s.mayB9 c)) (want_g rfl rfl (Yo.a 10 rfl)) (fun hc => ex_call rfl (by simp only [List.map_toArray,List.map_cons,List.map_nil,(ev (Yo.a 11 rfl) hc),(ev (Yo.a 12 rfl) hc),evc] <;> rfl) rfl) (fun hc => rmay9 c s x1 (HI.later hx1) hF (ok_er9 (by simpa using hc))) rfl Yo.z (by decide) (Yo.kc fun Yp x2 hb Yq => ?_);clear Yo;have hx2:=hx1.trans (hb.mono hx1.size);clear hb
 refine Yq.g 10 rfl rfl rfl (.bool (!(s.mayB9 c))) (fun hc => ex_not rfl (ev (Yq.a 13 rfl) hc)) fun Yr Ys => ?_;clear Yq
 refine Ys.t (.bool ((decide (c.er = 0)) && (!(s.mayB9 c)))) (ex_and rfl (Ys.a 10 rfl) (Ys.a 14 rfl) rfl) fun _ Yt => ?_;clear Ys
 have hz:=Yt.z;have s2:=Yt.a 2 rfl;have s3:=Yt.a 3 rfl;have s5:=Yt.a 5 rfl;have s15:=Yt.a 15 rfl;clear Yt;refine wpList_nil ?_
 go_upto_region 3 with fail
 have hB8:=hB.trans (hx2.mono (by omega))
 have ee : (((decide (c.er = 0)) && (!(s.mayB9 c)))) = (c.okB && !s.mayB9 c):=by rw [show decide (c.er = 0) = c.okB from Cg.er_eq c]
 refine v_cond8 (fun T w9 => T.size = 17∧T[5]? = some (gw true (.int .i64 (s.rk9 c)))∧Below w.heap.size w w9) s15 (fun hu => ?_) (fun hu => ⟨hz,?_,hB8⟩) ?_
 ·clear s15
  go_upto_region 3 with fail
  refine wp_region_lit ?_;have Yu:=(((Rp.nil hz).cons s2).cons s3).cons s5;clear hz s2 s3 s5
  refine Yu.t (.int .i64 2) (ex_assign rfl rfl) fun _ Yv => ?_;clear Yu
  have hz:=Yv.z;have s5:=Yv.a 5 rfl;clear Yv;refine wpList_nil ?_;refine ⟨_,rfl,hz,?_,hB8⟩;rw [s5,show s.rk9 c = 2 from by rw [ee] at hu;simp at hu;unfold Sta.rk9;rw [hu.1,hu.2];rfl]
 ·rw [s5,show s.rk9 c = c.er from by rw [ee] at hu;unfold Sta.rk9 Cg.er;revert hu;cases c.okB <;> cases s.mayB9 c <;> intro hu <;> first | rfl | cases hu]
 ·clear hz s2 s3 s5 s15
  intro T9 w9 hJ;obtain ⟨hz,s5,hB9⟩:=hJ
  go_upto_region 4 with fail
  refine wp_region_lit ?_;have Yw:=(Rp.nil hz).cons s5;clear hz s5
  refine Yw.t _ (ex_move rfl (Yw.f 5)) fun _ Yx => ?_;clear Yw
  refine Yx.t _ (ex_assign rfl (Yx.f 16)) fun _ Yy => ?_;clear Yx
  have hz:=Yy.z;have s4:=Yy.a 4 rfl;clear Yy;refine wpList_nil ?_;have HB9:=hide hB9;clear hB9
  go_wp2
  refine bodyPost_ret (results_tmp rfl _ _ _) rfl ⟨?_,HB9.out⟩;rw [getD_of s4]
  rfl
structure Vo9 where
 n : Int
 a : Option Addr
 c : Nat
 D : List (Int × Int)
def Vo9.cs (x : Vo9) : List Value:=[.int .i64 x.n,.slice x.a x.D.length x.c]
def Vo9.val (x : Vo9) : Value:=.agg #[.int .i64 x.n,.slice x.a x.D.length x.c]
abbrev VB9 (w : World) (q : Nat) (x : Vo9) : Prop:=BX7 w q x.cs
theorem bxV9 (x : Vo9) (w : World) : (Instr.box 92 x.val).run Tryz.prog w = .ok (.pointer (some ⟨w.heap.size,0,none⟩)) (w.alloc (.cells x.cs.toArray 92)):=rfl
theorem VB9.ld {w : World} {q : Nat} {x : Vo9} (h : VB9 w q x) : (Instr.loadAt 92 (.pointer (some ⟨q,0,none⟩))).run Tryz.prog w = .ok x.val w:=by
 have h0:=h.cell 0 _ rfl;have h1:=h.cell 1 _ rfl
 unfold Vo9.val
 clear h
 go_simp
theorem faV9_0 (q : Nat) (w : World) : (Instr.fieldAt 92 (.pointer (some ⟨q,0,none⟩)) 0).run Tryz.prog w = .ok (.pointer (some ⟨q,0,none⟩)) w:=by go_simp
theorem faV9_1 (q : Nat) (w : World) : (Instr.fieldAt 92 (.pointer (some ⟨q,0,none⟩)) 1).run Tryz.prog w = .ok (.pointer (some ⟨q,1,none⟩)) w:=by go_simp
def vmB9 (x : Vo9) : Bool:=inB (x.D.length : Int) 1 7 && (decide (0 ≤ x.n) && decide (x.n < (x.D.length : Int)))
def ovB9 (V : List (Int × Int)) (x : Vo9) : Bool:=(vmB9 x && decide ((V.length : Int) = (x.D.length : Int))) && decide (0 < cmpD (V.getD x.n.toNat (0,0)).1 (V.getD x.n.toNat (0,0)).2 (x.D.getD x.n.toNat (0,0)).1 (x.D.getD x.n.toNat (0,0)).2)
theorem vm_of9 {V : List (Int × Int)} {x : Vo9} (h : (vmB9 x && decide ((V.length : Int) = (x.D.length : Int))) = true) : (0 ≤ x.n∧x.n < (x.D.length : Int))∧(0 ≤ x.n∧x.n < (V.length : Int)):=by
 simp only [vmB9,Bool.and_eq_true,decide_eq_true_eq] at h
 omega
set_option maxHeartbeats 1000000 in
theorem groupmay9 (n : Int) (w : World)  : Calls Tryz.prog 66 #[.int .i64 n] w fun e w' => e = .returned (.bool (inB n 1 7))∧Below w.heap.size w w':=by
 go_enter Tryz.func66,Tryz.ntmps66
 go_upto_region 0 with fail
 refine wp_region_lit ?_;refine vl_gen (fun T => T.size = 9∧T[0]? = some (gw true (.int .i64 n))) ⟨rfl,rfl⟩ (fun Z0 ⟨hz,s0⟩ => ?_);have hB : Below w.heap.size w w:=Below.refl _ _;have hv0 : Below w.heap.size w w:=Below.refl _ _;have Ya:=(Rp.nil hz).cons s0;clear hz s0
 refine Ya.t (.bool false) (ex_assign rfl rfl) fun _ Yb => ?_;clear Ya
 have hz:=Yb.z;have s0:=Yb.a 0 rfl;clear Yb;refine wpList_nil ?_
 go_upto_region 1 with fail
 refine wp_region_lit ?_;have Yc:=(Rp.nil hz).cons s0;clear hz s0
 refine Yc.t _ (ex_move rfl (Yc.f 0)) fun _ Yd => ?_;clear Yc
 refine Yd.t (.bool (decide (1 ≤ n))) (ex_bin rfl (Yd.f 3) rfl (geqC _ _ _ _ _)) fun _ Ye => ?_;clear Yd
 refine Ye.t _ (ex_move rfl (Ye.f 4)) fun _ Yf => ?_;clear Ye
 refine Yf.g 5 rfl rfl rfl _ (fun hc => ex_move rfl (Yf.f 0)) fun Yg Yh => ?_;clear Yf
 refine Yh.g 5 rfl rfl rfl (.bool (decide (n ≤ 7))) (fun hc => ex_bin rfl (ev (Yh.a 6 rfl) hc) rfl (leqC8 _ _ _ _ _)) fun Yi Yj => ?_;clear Yh
 refine Yj.t (.bool ((decide (1 ≤ n)) && (decide (n ≤ 7)))) (ex_and rfl (Yj.a 5 rfl) (Yj.a 7 rfl) rfl) fun _ Yk => ?_;clear Yj
 refine Yk.t _ (ex_assign rfl (Yk.f 8)) fun _ Yl => ?_;clear Yk
 have hz:=Yl.z;have s2:=Yl.a 2 rfl;clear Yl;refine wpList_nil ?_
 go_wp2
 refine bodyPost_ret (results_tmp rfl _ _ _) rfl ⟨?_,hB.trans (hv0.mono (by omega))⟩;rw [getD_of s2]
 rfl
set_option maxHeartbeats 1000000 in
theorem maybe9 (a : Option Addr) (n c : Nat) (w : World)  : Calls Tryz.prog 36 #[.slice a n c] w fun e w' => e = .returned (.bool (inB (n : Int) 1 7))∧Below w.heap.size w w':=by
 go_enter Tryz.func36,Tryz.ntmps36
 go_upto_region 0 with fail
 refine wp_region_lit ?_;refine vl_gen (fun T => T.size = 6∧T[0]? = some (gw true (.slice a n c))) ⟨rfl,rfl⟩ (fun Z0 ⟨hz,s0⟩ => ?_);have hB : Below w.heap.size w w:=Below.refl _ _;have hv0 : Below w.heap.size w w:=Below.refl _ _;have Ya:=(Rp.nil hz).cons s0;clear hz s0
 refine Ya.t (.bool false) (ex_assign rfl rfl) fun _ Yb => ?_;clear Ya
 have hz:=Yb.z;have s0:=Yb.a 0 rfl;clear Yb;refine wpList_nil ?_
 go_upto_region 1 with fail
 refine wp_region_lit ?_;have Yc:=(Rp.nil hz).cons s0;clear hz s0
 refine Yc.t _ (ex_move rfl (Yc.f 0)) fun _ Yd => ?_;clear Yc
 refine Yd.t _ (ex_lenV8 rfl rfl (Yd.f 3)) fun _ Ye => ?_;clear Yd
 refine vcall true (.bool (inB ((n : Int)) 1 7)) (want_none rfl) (fun hc => ex_call rfl (by simp only [List.map_toArray,List.map_cons,List.map_nil,(Ye.f 4),evc] <;> rfl) rfl) (fun hc => groupmay9 ((n : Int)) w) rfl Ye.z (by decide) (Ye.kc fun Yf x1 hb Yg => ?_);clear Ye;have hx1:=hv0.trans (hb.mono hv0.size);clear hb
 refine Yg.t _ (ex_assign rfl (Yg.f 5)) fun _ Yh => ?_;clear Yg
 have hz:=Yh.z;have s2:=Yh.a 2 rfl;clear Yh;refine wpList_nil ?_
 go_wp2
 refine bodyPost_ret (results_tmp rfl _ _ _) rfl ⟨?_,hB.trans (hx1.mono (by omega))⟩;rw [getD_of s2]
 rfl
set_option maxHeartbeats 1000000 in
theorem hasplace9 (a : Option Addr) (n c : Nat) (k : Int) (w : World)  : Calls Tryz.prog 98 #[.slice a n c,.int .i64 k] w fun e w' => e = .returned (.bool (decide (0 ≤ k) && decide (k < (n : Int))))∧Below w.heap.size w w':=by
 go_enter Tryz.func98,Tryz.ntmps98
 go_upto_region 0 with fail
 refine wp_region_lit ?_;refine vl_gen (fun T => T.size = 13∧T[0]? = some (gw true (.slice a n c))∧T[1]? = some (gw true (.int .i64 k))) ⟨rfl,rfl,rfl⟩ (fun Z0 ⟨hz,s0,s1⟩ => ?_);have hB : Below w.heap.size w w:=Below.refl _ _;have hv0 : Below w.heap.size w w:=Below.refl _ _;have Ya:=((Rp.nil hz).cons s0).cons s1;clear hz s0 s1
 refine Ya.t (.bool false) (ex_assign rfl rfl) fun _ Yb => ?_;clear Ya
 have hz:=Yb.z;have s0:=Yb.a 0 rfl;have s1:=Yb.a 1 rfl;clear Yb;refine wpList_nil ?_
 go_upto_region 1 with fail
 refine wp_region_lit ?_;have Yc:=((Rp.nil hz).cons s0).cons s1;clear hz s0 s1
 refine Yc.t _ (ex_move rfl (Yc.f 1)) fun _ Yd => ?_;clear Yc
 refine Yd.t (.bool (decide (0 ≤ k))) (ex_bin rfl (Yd.f 5) rfl (geqC _ _ _ _ _)) fun _ Ye => ?_;clear Yd
 refine Ye.t _ (ex_move rfl (Ye.f 6)) fun _ Yf => ?_;clear Ye
 refine Yf.g 7 rfl rfl rfl _ (fun hc => ex_move rfl (Yf.f 1)) fun Yg Yh => ?_;clear Yf
 refine Yh.g 7 rfl rfl rfl _ (fun hc => ex_move rfl (Yh.f 0)) fun Yi Yj => ?_;clear Yh
 refine Yj.g 7 rfl rfl rfl _ (fun hc => ex_lenV8 rfl rfl (ev (Yj.a 9 rfl) hc)) fun Yk Yl => ?_;clear Yj
 refine Yl.g 7 rfl rfl rfl (.bool (decide (k < (n : Int)))) (fun hc => ex_bin rfl (ev (Yl.a 8 rfl) hc) (ev (Yl.a 10 rfl) hc) (lssC _ _ _ _ _)) fun Ym Yn => ?_;clear Yl
 refine Yn.t (.bool ((decide (0 ≤ k)) && (decide (k < (n : Int))))) (ex_and rfl (Yn.a 7 rfl) (Yn.a 11 rfl) rfl) fun _ Yo => ?_;clear Yn
 refine Yo.t _ (ex_assign rfl (Yo.f 12)) fun _ Yp => ?_;clear Yo
 have hz:=Yp.z;have s4:=Yp.a 4 rfl;clear Yp;refine wpList_nil ?_
 go_wp2
 refine bodyPost_ret (results_tmp rfl _ _ _) rfl ⟨?_,hB.trans (hv0.mono (by omega))⟩;rw [getD_of s4]
 rfl
set_option maxHeartbeats 1000000 in
theorem voicemay9 (x : Vo9) (w : World)  : Calls Tryz.prog 64 #[x.val] w fun e w' => e = .returned (.bool (vmB9 x))∧Below w.heap.size w w':=by
 go_enter Tryz.func64,Tryz.ntmps64
 go_upto_region 0 with fail
 refine wp_region_lit ?_;refine vl_gen (fun T => T.size = 13∧T[0]? = some (gw true (x.val))) ⟨rfl,rfl⟩ (fun Z0 ⟨hz,s0⟩ => ?_)
 obtain ⟨w1,hw1⟩ : ∃ y,y = w.alloc (.cells x.cs.toArray 92):=⟨_,rfl⟩
 have hb : Below w.heap.size w w1:=by rw [hw1];exact (Below.refl _ _).alloc (Nat.le_refl _) _
 have hs1 : w1.heap.size = w.heap.size + 1:=by rw [hw1];simp
 have HX : VB9 w1 (w.heap.size) x:=by rw [hw1];exact BX7.new _ _ _
 refine vw (.pointer (some ⟨w.heap.size,0,none⟩)) w1 (want_none rfl) (ex_box8 rfl (ev s0 rfl) (by rw [hw1];exact bxV9 _ _)) rfl hz (by decide) (fun Z1 zz kk s1x => ?_);clear kk hz s0 hw1;have hz:=zz;have s1:=s1x;clear zz s1x;have hB:=hb;clear hb;have hv0 : Below w1.heap.size w1 w1:=Below.refl _ _;have Ya:=(Rp.nil hz).cons s1;clear hz s1
 refine Ya.t (.bool false) (ex_assign rfl rfl) fun _ Yb => ?_;clear Ya
 have hz:=Yb.z;have s1:=Yb.a 1 rfl;clear Yb;refine wpList_nil ?_
 go_upto_region 1 with fail
 refine wp_region_lit ?_;have Yc:=(Rp.nil hz).cons s1;clear hz s1
 refine Yc.t _ (ex_fa rfl (Yc.f 1) (faV9_1 _ _)) fun _ Yd => ?_;clear Yc
 refine Yd.t _ (ex_ld rfl (Yd.f 3) (ldV8 ((HX.bel hv0).cell 1 _ rfl))) fun _ Ye => ?_;clear Yd
 refine vcall true (.bool (inB (x.D.length : Int) 1 7)) (want_none rfl) (fun hc => ex_call rfl (by simp only [List.map_toArray,List.map_cons,List.map_nil,(Ye.f 4),evc] <;> rfl) rfl) (fun hc => maybe9 x.a x.D.length x.c w1) rfl Ye.z (by decide) (Ye.kc fun Yf x1 hb Yg => ?_);clear Ye;have hx1:=hv0.trans (hb.mono hv0.size);clear hb
 refine Yg.t _ (ex_move rfl (Yg.f 5)) fun _ Yh => ?_;clear Yg
 refine Yh.g 6 rfl rfl rfl _ (fun hc => ex_fa rfl (Yh.f 1) (faV9_1 _ _)) fun Yi Yj => ?_;clear Yh
 refine Yj.g 6 rfl rfl rfl _ (fun hc => ex_ld rfl (ev (Yj.a 7 rfl) hc) (ldV8 ((HX.bel hx1).cell 1 _ rfl))) fun Yk Yl => ?_;clear Yj
 refine Yl.g 6 rfl rfl rfl _ (fun hc => ex_fa rfl (Yl.f 1) (faV9_0 _ _)) fun Ym Yn => ?_;clear Yl
 refine Yn.g 6 rfl rfl rfl _ (fun hc => ex_ld rfl (ev (Yn.a 9 rfl) hc) (ldI8 ((HX.bel hx1).cell 0 _ rfl))) fun Yo Yp => ?_;clear Yn
 refine vcall (true && ((inB (x.D.length : Int) 1 7) == true)) (.bool (decide (0 ≤ x.n) && decide (x.n < (x.D.length : Int)))) (want_g rfl rfl (Yp.a 6 rfl)) (fun hc => ex_call rfl (by simp only [List.map_toArray,List.map_cons,List.map_nil,(ev (Yp.a 8 rfl) hc),(ev (Yp.a 10 rfl) hc),evc] <;> rfl) rfl) (fun hc => hasplace9 x.a x.D.length x.c (x.n) x1) rfl Yp.z (by decide) (Yp.kc fun Yq x2 hb Yr => ?_);clear Yp;have hx2:=hx1.trans (hb.mono hx1.size);clear hb
 refine Yr.t (.bool ((inB (x.D.length : Int) 1 7) && (decide (0 ≤ x.n) && decide (x.n < (x.D.length : Int))))) (ex_and rfl (Yr.a 6 rfl) (Yr.a 11 rfl) rfl) fun _ Ys => ?_;clear Yr
 refine Ys.t _ (ex_assign rfl (Ys.f 12)) fun _ Yt => ?_;clear Ys
 have hz:=Yt.z;have s2:=Yt.a 2 rfl;clear Yt;refine wpList_nil ?_
 go_wp2
 refine bodyPost_ret (results_tmp rfl _ _ _) rfl ⟨?_,hB.trans (hx2.mono (by omega))⟩;rw [getD_of s2]
 rfl
set_option maxHeartbeats 1000000 in
theorem knowsover9 (V : List (Int × Int)) (a : Option Addr) (n c : Nat) (x : Vo9) (w : World) (hV : SlY yD w a n c V) (hX : SlY yD w x.a x.D.length x.c x.D) (hn : 0 ≤ x.n∧x.n < (n : Int)) (hm : 0 ≤ x.n∧x.n < (x.D.length : Int)) : Calls Tryz.prog 65 #[.slice a n c,x.val] w fun e w' => e = .returned (.bool (decide (0 < cmpD (V.getD x.n.toNat (0,0)).1 (V.getD x.n.toNat (0,0)).2 (x.D.getD x.n.toNat (0,0)).1 (x.D.getD x.n.toNat (0,0)).2)))∧Below w.heap.size w w':=by
 go_enter Tryz.func65,Tryz.ntmps65
 go_upto_region 0 with fail
 refine wp_region_lit ?_;refine vl_gen (fun T => T.size = 18∧T[1]? = some (gw true (x.val))∧T[0]? = some (gw true (.slice a n c))) ⟨rfl,rfl,rfl⟩ (fun Z0 ⟨hz,s1,s0⟩ => ?_)
 obtain ⟨w1,hw1⟩ : ∃ y,y = w.alloc (.cells x.cs.toArray 92):=⟨_,rfl⟩
 have hb : Below w.heap.size w w1:=by rw [hw1];exact (Below.refl _ _).alloc (Nat.le_refl _) _
 have hs1 : w1.heap.size = w.heap.size + 1:=by rw [hw1];simp
 have HX : VB9 w1 (w.heap.size) x:=by rw [hw1];exact BX7.new _ _ _
 refine vw (.pointer (some ⟨w.heap.size,0,none⟩)) w1 (want_none rfl) (ex_box8 rfl (ev s1 rfl) (by rw [hw1];exact bxV9 _ _)) rfl hz (by decide) (fun Z1 zz kk s3x => ?_);replace s0:=ku s0;clear kk hz s1 hw1;have hz:=zz;have s3:=s3x;clear zz s3x;have hB:=hb;clear hb;have hv0 : Below w1.heap.size w1 w1:=Below.refl _ _;obtain ⟨qa,oa,ha,hA⟩:=vec_at8 (hV.later hB) hn;obtain ⟨qx,ox,hx,hQ⟩:=vec_at8 (hX.later hB) hm;have Ya:=((Rp.nil hz).cons s0).cons s3;clear hz s0 s3
 refine Ya.t (.bool false) (ex_assign rfl rfl) fun _ Yb => ?_;clear Ya
 have hz:=Yb.z;have s0:=Yb.a 0 rfl;have s3:=Yb.a 3 rfl;clear Yb;refine wpList_nil ?_
 go_upto_region 1 with fail
 refine vq_start (C:=fun v => Below w1.heap.size w1 v) (by kernel_rfl) (by kernel_rfl) hv0.drew ?_;have Yc:=((Rp.nil hz).cons s0).cons s3;clear hz s0 s3
 refine Yc.q _ (fun v hv => ex_move rfl (Yc.f 0)) fun _ Yd => ?_;clear Yc
 refine Yd.q _ (fun v hv => ex_fa rfl (Yd.f 3) (faV9_0 _ _)) fun _ Ye => ?_;clear Yd
 refine Ye.q _ (fun v hv => ex_ld rfl (Ye.f 6) (ldI8 ((HX.bel hv).cell 0 _ rfl))) fun _ Yf => ?_;clear Ye
 refine Yf.q _ (fun v hv => ex_ix rfl (Yf.f 5) (Yf.f 7) (hA.1 _)) fun _ Yg => ?_;clear Yf
 refine Yg.q _ (fun v hv => ex_ld rfl (Yg.f 8) (hA.2 _ hv)) fun _ Yh => ?_;clear Yg
 refine Yh.q _ (fun v hv => ex_fa rfl (Yh.f 3) (faV9_1 _ _)) fun _ Yi => ?_;clear Yh
 refine Yi.q _ (fun v hv => ex_ld rfl (Yi.f 10) (ldV8 ((HX.bel hv).cell 1 _ rfl))) fun _ Yj => ?_;clear Yi
 refine Yj.q _ (fun v hv => ex_fa rfl (Yj.f 3) (faV9_0 _ _)) fun _ Yk => ?_;clear Yj
 refine Yk.q _ (fun v hv => ex_ld rfl (Yk.f 12) (ldI8 ((HX.bel hv).cell 0 _ rfl))) fun _ Yl => ?_;clear Yk
 refine Yl.q _ (fun v hv => ex_ix rfl (Yl.f 11) (Yl.f 13) (hQ.1 _)) fun _ Ym => ?_;clear Yl
 refine Ym.q _ (fun v hv => ex_ld rfl (Ym.f 14) (hQ.2 _ hv)) fun _ Yn => ?_;clear Ym
 refine vq_call true (.int .i64 (cmpD (V.getD x.n.toNat (0,0)).1 (V.getD x.n.toNat (0,0)).2 (x.D.getD x.n.toNat (0,0)).1 (x.D.getD x.n.toNat (0,0)).2)) (want_none rfl) (fun hc v hv => ex_call rfl (by simp only [List.map_toArray,List.map_cons,List.map_nil,(Yn.f 9),(Yn.f 15),evc] <;> rfl) rfl) (fun hc v hv => (bel8 hv (compare_any (V.getD x.n.toNat (0,0)).1 (V.getD x.n.toNat (0,0)).2 (x.D.getD x.n.toNat (0,0)).1 (x.D.getD x.n.toNat (0,0)).2 v))) rfl Yn.z (by decide) (Yn.k fun Yo Yp => ?_);clear Yn
 refine Yp.q (.bool (decide (0 < (cmpD (V.getD x.n.toNat (0,0)).1 (V.getD x.n.toNat (0,0)).2 (x.D.getD x.n.toNat (0,0)).1 (x.D.getD x.n.toNat (0,0)).2)))) (fun v hv => ex_bin rfl (Yp.f 16) rfl (gtrC _ _ _ _ _)) fun _ Yq => ?_;clear Yp
 refine Yq.q _ (fun v hv => ex_assign rfl (Yq.f 17)) fun _ Yr => ?_;clear Yq
 have hz:=Yr.z;have s4:=Yr.a 4 rfl;clear Yr;refine vq_nil (fun x1 hx1 => ?_)
 go_wp2
 refine bodyPost_ret (results_tmp rfl _ _ _) rfl ⟨?_,hB.trans (hx1.mono (by omega))⟩;rw [getD_of s4]
 rfl
set_option maxHeartbeats 1000000 in
theorem over9 (V : List (Int × Int)) (a : Option Addr) (c : Nat) (x : Vo9) (w : World) (hV : SlY yD w a V.length c V) (hX : SlY yD w x.a x.D.length x.c x.D) : Calls Tryz.prog 35 #[.slice a V.length c,x.val] w fun e w' => e = .returned (.bool (ovB9 V x))∧Below w.heap.size w w':=by
 go_enter Tryz.func35,Tryz.ntmps35
 go_upto_region 0 with fail
 refine wp_region_lit ?_;refine vl_gen (fun T => T.size = 19∧T[1]? = some (gw true (x.val))∧T[0]? = some (gw true (.slice a V.length c))) ⟨rfl,rfl,rfl⟩ (fun Z0 ⟨hz,s1,s0⟩ => ?_)
 obtain ⟨w1,hw1⟩ : ∃ y,y = w.alloc (.cells x.cs.toArray 92):=⟨_,rfl⟩
 have hb : Below w.heap.size w w1:=by rw [hw1];exact (Below.refl _ _).alloc (Nat.le_refl _) _
 have hs1 : w1.heap.size = w.heap.size + 1:=by rw [hw1];simp
 have HX : VB9 w1 (w.heap.size) x:=by rw [hw1];exact BX7.new _ _ _
 refine vw (.pointer (some ⟨w.heap.size,0,none⟩)) w1 (want_none rfl) (ex_box8 rfl (ev s1 rfl) (by rw [hw1];exact bxV9 _ _)) rfl hz (by decide) (fun Z1 zz kk s3x => ?_);replace s0:=ku s0;clear kk hz s1 hw1;have hz:=zz;have s3:=s3x;clear zz s3x;have hB:=hb;clear hb;have hv0 : Below w1.heap.size w1 w1:=Below.refl _ _;have Ya:=((Rp.nil hz).cons s0).cons s3;clear hz s0 s3
 refine Ya.t (.bool false) (ex_assign rfl rfl) fun _ Yb => ?_;clear Ya
 have hz:=Yb.z;have s0:=Yb.a 0 rfl;have s3:=Yb.a 3 rfl;clear Yb;refine wpList_nil ?_
 go_upto_region 1 with fail
 refine wp_region_lit ?_;have Yc:=((Rp.nil hz).cons s0).cons s3;clear hz s0 s3
 refine Yc.t _ (ex_ld rfl (Yc.f 3) (VB9.ld (HX.bel hv0))) fun _ Yd => ?_;clear Yc
 refine vcall true (.bool (vmB9 x)) (want_none rfl) (fun hc => ex_call rfl (by simp only [List.map_toArray,List.map_cons,List.map_nil,(Yd.f 5),evc] <;> rfl) rfl) (fun hc => voicemay9 x w1) rfl Yd.z (by decide) (Yd.kc fun Ye x1 hb Yf => ?_);clear Yd;have hx1:=hv0.trans (hb.mono hv0.size);clear hb
 refine Yf.t (.bool (!(vmB9 x))) (ex_not rfl (Yf.f 6)) fun _ Yg => ?_;clear Yf
 refine Yg.t _ (ex_move rfl (Yg.f 7)) fun _ Yh => ?_;clear Yg
 refine Yh.g 8 rfl rfl rfl _ (fun hc => ex_move rfl (Yh.f 0)) fun Yi Yj => ?_;clear Yh
 refine Yj.g 8 rfl rfl rfl _ (fun hc => ex_lenV8 rfl rfl (ev (Yj.a 9 rfl) hc)) fun Yk Yl => ?_;clear Yj
 refine Yl.g 8 rfl rfl rfl _ (fun hc => ex_fa rfl (Yl.f 3) (faV9_1 _ _)) fun Ym Yn => ?_;clear Yl
 refine Yn.g 8 rfl rfl rfl _ (fun hc => ex_ld rfl (ev (Yn.a 11 rfl) hc) (ldV8 ((HX.bel hx1).cell 1 _ rfl))) fun Yo Yp => ?_;clear Yn
 refine Yp.g 8 rfl rfl rfl _ (fun hc => ex_lenV8 rfl rfl (ev (Yp.a 12 rfl) hc)) fun Yq Yr => ?_;clear Yp
 refine Yr.g 8 rfl rfl rfl (.bool (!decide ((V.length : Int) = (x.D.length : Int)))) (fun hc => ex_bin rfl (ev (Yr.a 10 rfl) hc) (ev (Yr.a 13 rfl) hc) (neqC _ _ _ _ _)) fun Ys Yt => ?_;clear Yr
 refine Yt.t (.bool ((!(vmB9 x)) || (!decide ((V.length : Int) = (x.D.length : Int))))) (ex_or rfl (Yt.a 8 rfl) (Yt.a 14 rfl) rfl) fun _ Yu => ?_;clear Yt
 have hz:=Yu.z;have s0:=Yu.a 0 rfl;have s3:=Yu.a 3 rfl;have s15:=Yu.a 15 rfl;clear Yu;refine wpList_nil ?_
 go_upto_region 2 with fail
 cases eb : (vmB9 x && decide ((V.length : Int) = (x.D.length : Int)))
 ·refine wp_cond_true ((ev s15 rfl).trans (congrArg Value.bool (show ((!(vmB9 x)) || (!decide ((V.length : Int) = (x.D.length : Int)))) = true by revert eb;cases vmB9 x <;> cases decide ((V.length : Int) = (x.D.length : Int)) <;> simp))) ?_
  go_upto_region 2 with fail
  refine wp_region_lit ?_;have Yv:=((Rp.nil hz).cons s0).cons s3;clear hz s0 s3
  refine Yv.t (.bool false) (ex_assign rfl rfl) fun _ Yw => ?_;clear Yv
  have hz:=Yw.z;have s4:=Yw.a 4 rfl;clear Yw;refine wpList_nil ?_
  go_wp2
  refine bodyPost_ret (results_tmp rfl _ _ _) rfl ⟨?_,hB.trans (hx1.mono (by omega))⟩;rw [getD_of s4];rw [show ovB9 V x = false from by unfold ovB9;rw [eb];rfl]
  rfl
 ·refine wp_cond_false ((ev s15 rfl).trans (congrArg Value.bool (show ((!(vmB9 x)) || (!decide ((V.length : Int) = (x.D.length : Int)))) = false by revert eb;cases vmB9 x <;> cases decide ((V.length : Int) = (x.D.length : Int)) <;> simp))) ?_
  obtain ⟨h1,h2⟩:=vm_of9 eb
  go_upto_region 3 with fail
  refine wp_region_lit ?_;have Yx:=((Rp.nil hz).cons s0).cons s3;clear hz s0 s3
  refine Yx.t _ (ex_move rfl (Yx.f 0)) fun _ Yy => ?_;clear Yx
  refine Yy.t _ (ex_ld rfl (Yy.f 3) (VB9.ld (HX.bel hx1))) fun _ Yz => ?_;clear Yy
  refine vcall true (.bool (decide (0 < cmpD (V.getD x.n.toNat (0,0)).1 (V.getD x.n.toNat (0,0)).2 (x.D.getD x.n.toNat (0,0)).1 (x.D.getD x.n.toNat (0,0)).2))) (want_none rfl) (fun hc => ex_call rfl (by simp only [List.map_toArray,List.map_cons,List.map_nil,(Yz.f 16),(Yz.f 17),evc] <;> rfl) rfl) (fun hc => knowsover9 V a V.length c x x1 (hV.later (hB.trans (hx1.mono (by omega)))) (hX.later (hB.trans (hx1.mono (by omega)))) h2 h1) rfl Yz.z (by decide) (Yz.kc fun Y0 x2 hb Y1 => ?_);clear Yz;have hx2:=hx1.trans (hb.mono hx1.size);clear hb
  refine Y1.t _ (ex_assign rfl (Y1.f 18)) fun _ Y2 => ?_;clear Y1
  have hz:=Y2.z;have s4:=Y2.a 4 rfl;clear Y2;refine wpList_nil ?_
  go_wp2
  refine bodyPost_ret (results_tmp rfl _ _ _) rfl ⟨?_,hB.trans (hx2.mono (by omega))⟩;rw [getD_of s4];rw [show ovB9 V x = decide (0 < cmpD (V.getD x.n.toNat (0,0)).1 (V.getD x.n.toNat (0,0)).2 (x.D.getD x.n.toNat (0,0)).1 (x.D.getD x.n.toNat (0,0)).2) from by unfold ovB9;rw [eb];rfl]
  rfl
set_option maxHeartbeats 1000000 in
theorem copiedV9 (D : List (Int × Int)) (a : Option Addr) (n c : Nat) (w : World) (h : SlY yD w a n c D) (hb : n * 16 ≤ 281474976710656) :
  Calls Tryz.prog 37 #[.slice a n c] w fun e w' => e = .returned (.slice (some ⟨w.heap.size,0,none⟩) n n)∧OwnY yD w.heap.size w' (.slice (some ⟨w.heap.size,0,none⟩) n n) D∧Below w.heap.size w w':=by
 have hmx:=h.max;have hcp:=h.cap;have hln:=h.len
 unfold maxLen at hmx
 have H:=hide h;have HN:=hide hln;clear h hln
 go_enter Tryz.func37,Tryz.ntmps37
 go_wp2_with (at_make;go_must (refine makeYs kD _ rfl (.tmp 5) rfl n rfl (by unfold maxLen;omega) hb ?zk))
 intro w1 o1 b1;have O1:=hide o1;have B1:=hide b1;have H1:=hide (H.out.later b1);have z1:=b1.size;clear o1 b1
 go_wp2_with (refine copyYc kD _ rfl (.tmp 7) (.tmp 8) 27 rfl w.heap.size w.heap.size n n 0 n n c n a _ D (by rfl) rfl O1.out H1.out (by omega) (Nat.le_refl _) ?zm)
 intro w2 o2 u2 z2
 have hp : put (List.replicate n yD.z) 0 D = D:=by
  unfold put
  rw [List.take_zero,List.nil_append,List.drop_of_length_le (by rw [List.length_replicate,HN.out];omega),List.append_nil]
 rw [hp] at o2;have O2:=hide o2;have B2:=hide (B1.out.trans (u2.below z1 (fun k e => by subst e;exact Nat.le_refl _)));clear o2 u2 hp
 go_wp2
 go_ret
 exact ⟨rfl,O2.out,B2.out⟩
end Go.Proofs.YtjcedofmljkhfaaGreatDoor
