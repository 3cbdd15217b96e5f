import Derived.Test.YtjcedofmljkhfaaGreatDoorF18
set_option maxRecDepth 100000
set_option linter.unusedVariables false
set_option linter.unusedSimpArgs false
namespace Go.Proofs.YtjcedofmljkhfaaGreatDoor
open Go.RowKit Go.Maps
open Classical
theorem eqlEnb (x y : Operand) (e e' : En) (w : World) : (do eqGuard .eql 38 x y (.agg #[.int .i64 e.c,.int .i64 e.n,.int .i64 e.o.k,.int .i64 e.o.s,.string e.o.v]) (.agg #[.int .i64 e'.c,.int .i64 e'.n,.int .i64 e'.o.k,.int .i64 e'.o.s,.string e'.o.v]);binOp .eql 38 (.agg #[.int .i64 e.c,.int .i64 e.n,.int .i64 e.o.k,.int .i64 e.o.s,.string e.o.v]) (.agg #[.int .i64 e'.c,.int .i64 e'.n,.int .i64 e'.o.k,.int .i64 e'.o.s,.string e'.o.v]) : Sem Value).run Tryz.prog w = .ok (.bool (enb e e')) w:=by
 have h : enb e e' = decide (e = e'):=by rw [Bool.eq_iff_iff,enb_iff,decide_eq_true_eq]
 rw [h]
 exact eqlEn x y e e' w
def unG (m : Mg) (nl nv : Nat) (u0 u1 u2 u3 u4 u5 u6 u7 u8 u9 : Bool) : Bool:=((((((((((u0 || (decide (m.nd = 0))) && (u1 || (decide (m.vw = 0)))) && (u2 || (decide (m.ls = 0)))) && (u3 || (decide (m.p = 0)))) && (u4 || (decide (m.cm = 0)))) && (u5 || (decide (m.d = (0,0))))) && (u6 || (enb m.e zEn))) && (u7 || (decide (m.r = (0,0,⟨#[]⟩))))) && (u8 || (decide (((nl : Nat) : Int) = 0)))) && (u9 || (decide (((nv : Nat) : Int) = 0))))
set_option maxHeartbeats 8000000 in
theorem unused_any (m : Mg) (a1 a2 : Option Addr) (nl cl nv cv g cu : Nat) (u0 u1 u2 u3 u4 u5 u6 u7 u8 u9 : Bool) (w : World) (hg : g < w.heap.size) (hu : ∀ (j : Nat) (b : Bool),([u0,u1,u2,u3,u4,u5,u6,u7,u8,u9] : List Bool)[j]? = some b → w.cell? ⟨g,j,none⟩ = some (.bool b)) : Calls Tryz.prog 23 #[m.val (.slice a1 nl cl) (.slice a2 nv cv),.slice (some ⟨g,0,none⟩) 10 cu] w fun e w' => e = .returned (.bool (unG m nl nv u0 u1 u2 u3 u4 u5 u6 u7 u8 u9))∧Below w.heap.size w w':=by
 go_enter Tryz.func23,Tryz.ntmps23
 go_upto_region 1 with (refine boxMk rfl (.tmp 0) rfl m _ _ rfl ?_;intro q1 w1 hq1 M1 b1 z1;subst hq1)
 have HM : Hid (∀ v,Below w1.heap.size w1 v → MBox v w.heap.size m (.slice a1 nl cl) (.slice a2 nv cv)):=fun v hv => M1.bel hv
 have HU : Hid (∀ v,Below w1.heap.size w1 v → ∀ (j : Nat) (b : Bool),([u0,u1,u2,u3,u4,u5,u6,u7,u8,u9] : List Bool)[j]? = some b → v.cell? ⟨g,j,none⟩ = some (.bool b)):=fun v hv j b hj => ((b1.trans (hv.mono b1.size)).cell (p:=⟨g,j,none⟩) hg).trans (hu j b hj)
 have HB : Hid (∀ v,Below w1.heap.size w1 v → Below w.heap.size w v):=fun v hv => b1.trans (hv.mono b1.size)
 clear M1 b1 z1 hu;refine vq_start (C:=fun v => Below w1.heap.size w1 v) (by kernel_rfl) (by kernel_rfl) (belN (Below.refl _ _) 1) ?_;refine vq_gen (fun T => T.size = 118∧T[1]? = some (gw true (.slice (some ⟨g,0,none⟩) 10 cu))∧T[2]? = some (gw true (.pointer (some ⟨w.heap.size,0,none⟩)))) ⟨rfl,rfl,rfl⟩ (fun T0 ⟨hz,s1,s2⟩ => ?_);have Ya:=((Rp.nil hz).cons s1).cons s2;clear hz s1 s2
 refine Ya.q _ (fun v hv => ex_fa rfl (Ya.f 2) (MBox.faNode _ _)) fun _ Yb => ?_;clear Ya
 refine Yb.q _ (fun v hv => ex_ld rfl (Yb.f 10) ((HM.out v hv).ldNode)) fun _ Yc => ?_;clear Yb
 refine Yc.q (.bool (decide (m.nd = 0))) (fun v hv => ex_bin rfl (Yc.f 11) rfl (eqlC _ _ _ _ _)) fun _ Yd => ?_;clear Yc
 refine Yd.q _ (fun v hv => ex_fa rfl (Yd.f 2) (MBox.faView _ _)) fun _ Ye => ?_;clear Yd
 refine Ye.q _ (fun v hv => ex_ld rfl (Ye.f 13) ((HM.out v hv).ldView)) fun _ Yf => ?_;clear Ye
 refine Yf.q (.bool (decide (m.vw = 0))) (fun v hv => ex_bin rfl (Yf.f 14) rfl (eqlC _ _ _ _ _)) fun _ Yg => ?_;clear Yf
 refine Yg.q _ (fun v hv => ex_fa rfl (Yg.f 2) (MBox.faLast _ _)) fun _ Yh => ?_;clear Yg
 refine Yh.q _ (fun v hv => ex_ld rfl (Yh.f 16) ((HM.out v hv).ldLast)) fun _ Yi => ?_;clear Yh
 refine Yi.q (.bool (decide (m.ls = 0))) (fun v hv => ex_bin rfl (Yi.f 17) rfl (eqlC _ _ _ _ _)) fun _ Yj => ?_;clear Yi
 refine Yj.q _ (fun v hv => ex_fa rfl (Yj.f 2) (MBox.faPlace _ _)) fun _ Yk => ?_;clear Yj
 refine Yk.q _ (fun v hv => ex_ld rfl (Yk.f 19) ((HM.out v hv).ldPlace)) fun _ Yl => ?_;clear Yk
 refine Yl.q (.bool (decide (m.p = 0))) (fun v hv => ex_bin rfl (Yl.f 20) rfl (eqlC _ _ _ _ _)) fun _ Ym => ?_;clear Yl
 refine Ym.q _ (fun v hv => ex_fa rfl (Ym.f 2) (MBox.faCommit _ _)) fun _ Yn => ?_;clear Ym
 refine Yn.q _ (fun v hv => ex_ld rfl (Yn.f 22) ((HM.out v hv).ldCommit)) fun _ Yo => ?_;clear Yn
 refine Yo.q (.bool (decide (m.cm = 0))) (fun v hv => ex_bin rfl (Yo.f 23) rfl (eqlC _ _ _ _ _)) fun _ Yp => ?_;clear Yo
 refine Yp.q _ (fun v hv => ex_assign rfl (Yp.f 12)) fun _ Yq => ?_;clear Yp
 refine Yq.q _ (fun v hv => ex_assign rfl (Yq.f 15)) fun _ Yr => ?_;clear Yq
 refine Yr.q _ (fun v hv => ex_assign rfl (Yr.f 18)) fun _ Ys => ?_;clear Yr
 refine Ys.q _ (fun v hv => ex_assign rfl (Ys.f 21)) fun _ Yt => ?_;clear Ys
 refine Yt.q _ (fun v hv => ex_assign rfl (Yt.f 24)) fun _ Yu => ?_;clear Yt
 have hz:=Yu.z;have s1:=Yu.a 1 rfl;have s2:=Yu.a 2 rfl;have s5:=Yu.a 5 rfl;have s6:=Yu.a 6 rfl;have s7:=Yu.a 7 rfl;have s8:=Yu.a 8 rfl;have s9:=Yu.a 9 rfl;clear Yu;refine vq_nil (fun v hv => ?_)
 go_upto_region 2 with fail
 refine wp_region_lit ?_;have Yv:=(((((((Rp.nil hz).cons s1).cons s2).cons s5).cons s6).cons s7).cons s8).cons s9;clear hz s1 s2 s5 s6 s7 s8 s9
 refine Yv.t _ (ex_move rfl (Yv.f 1)) fun _ Yw => ?_;clear Yv
 refine Yw.t (.pointer (some ⟨g,0,none⟩)) (ex_ix rfl (Yw.f 25) rfl (ixBool g 0 10 cu (by decide) _)) fun _ Yx => ?_;clear Yw
 refine Yx.t _ (ex_ld rfl (Yx.f 26) (ldBool (HU.out v hv 0 _ rfl))) fun _ Yy => ?_;clear Yx
 refine Yy.t _ (ex_move rfl (Yy.f 27)) fun _ Yz => ?_;clear Yy
 refine Yz.g 28 rfl rfl rfl _ (fun hc => ex_move rfl (Yz.f 5)) fun R5 Y0 => ?_;clear Yz
 refine Y0.t (.bool (u0 || (decide (m.nd = 0)))) (ex_or rfl (Y0.a 28 rfl) (Y0.a 29 rfl) rfl) fun _ Y1 => ?_;clear Y0
 refine Y1.t _ (ex_move rfl (Y1.f 30)) fun _ Y2 => ?_;clear Y1
 refine Y2.g 31 rfl rfl rfl _ (fun hc => ex_move rfl (Y2.f 1)) fun R8 Y3 => ?_;clear Y2
 refine Y3.g 31 rfl rfl rfl (.pointer (some ⟨g,1,none⟩)) (fun hc => ex_ix rfl (ev (Y3.a 32 rfl) hc) rfl (ixBool g 1 10 cu (by decide) _)) fun R9 Y4 => ?_;clear Y3
 refine Y4.g 31 rfl rfl rfl _ (fun hc => ex_ld rfl (ev (Y4.a 33 rfl) hc) (ldBool (HU.out v hv 1 _ rfl))) fun R10 Y5 => ?_;clear Y4
 refine Y5.g 31 rfl rfl rfl _ (fun hc => ex_move rfl (ev (Y5.a 34 rfl) hc)) fun R11 Y6 => ?_;clear Y5
 refine Y6.g 35 rfl rfl rfl _ (fun hc => ex_move rfl (Y6.f 6)) fun R12 Y7 => ?_;clear Y6
 refine Y7.g 31 rfl rfl rfl (.bool (u1 || (decide (m.vw = 0)))) (fun hc => ex_or rfl (Y7.a 35 rfl) (Y7.a 36 rfl) hc) fun R13 Y8 => ?_;clear Y7
 refine Y8.t (.bool ((u0 || (decide (m.nd = 0))) && (u1 || (decide (m.vw = 0))))) (ex_and rfl (Y8.a 31 rfl) (Y8.a 37 rfl) rfl) fun _ Y9 => ?_;clear Y8
 refine Y9.t _ (ex_move rfl (Y9.f 38)) fun _ Yba => ?_;clear Y9
 refine Yba.g 39 rfl rfl rfl _ (fun hc => ex_move rfl (Yba.f 1)) fun R16 Ybb => ?_;clear Yba
 refine Ybb.g 39 rfl rfl rfl (.pointer (some ⟨g,2,none⟩)) (fun hc => ex_ix rfl (ev (Ybb.a 40 rfl) hc) rfl (ixBool g 2 10 cu (by decide) _)) fun R17 Ybc => ?_;clear Ybb
 refine Ybc.g 39 rfl rfl rfl _ (fun hc => ex_ld rfl (ev (Ybc.a 41 rfl) hc) (ldBool (HU.out v hv 2 _ rfl))) fun R18 Ybd => ?_;clear Ybc
 refine Ybd.g 39 rfl rfl rfl _ (fun hc => ex_move rfl (ev (Ybd.a 42 rfl) hc)) fun R19 Ybe => ?_;clear Ybd
 refine Ybe.g 43 rfl rfl rfl _ (fun hc => ex_move rfl (Ybe.f 7)) fun R20 Ybf => ?_;clear Ybe
 refine Ybf.g 39 rfl rfl rfl (.bool (u2 || (decide (m.ls = 0)))) (fun hc => ex_or rfl (Ybf.a 43 rfl) (Ybf.a 44 rfl) hc) fun R21 Ybg => ?_;clear Ybf
 refine Ybg.t (.bool (((u0 || (decide (m.nd = 0))) && (u1 || (decide (m.vw = 0)))) && (u2 || (decide (m.ls = 0))))) (ex_and rfl (Ybg.a 39 rfl) (Ybg.a 45 rfl) rfl) fun _ Ybh => ?_;clear Ybg
 refine Ybh.t _ (ex_move rfl (Ybh.f 46)) fun _ Ybi => ?_;clear Ybh
 refine Ybi.g 47 rfl rfl rfl _ (fun hc => ex_move rfl (Ybi.f 1)) fun R24 Ybj => ?_;clear Ybi
 refine Ybj.g 47 rfl rfl rfl (.pointer (some ⟨g,3,none⟩)) (fun hc => ex_ix rfl (ev (Ybj.a 48 rfl) hc) rfl (ixBool g 3 10 cu (by decide) _)) fun R25 Ybk => ?_;clear Ybj
 refine Ybk.g 47 rfl rfl rfl _ (fun hc => ex_ld rfl (ev (Ybk.a 49 rfl) hc) (ldBool (HU.out v hv 3 _ rfl))) fun R26 Ybl => ?_;clear Ybk
 refine Ybl.g 47 rfl rfl rfl _ (fun hc => ex_move rfl (ev (Ybl.a 50 rfl) hc)) fun R27 Ybm => ?_;clear Ybl
 refine Ybm.g 51 rfl rfl rfl _ (fun hc => ex_move rfl (Ybm.f 8)) fun R28 Ybn => ?_;clear Ybm
 refine Ybn.g 47 rfl rfl rfl (.bool (u3 || (decide (m.p = 0)))) (fun hc => ex_or rfl (Ybn.a 51 rfl) (Ybn.a 52 rfl) hc) fun R29 Ybo => ?_;clear Ybn
 refine Ybo.t (.bool ((((u0 || (decide (m.nd = 0))) && (u1 || (decide (m.vw = 0)))) && (u2 || (decide (m.ls = 0)))) && (u3 || (decide (m.p = 0))))) (ex_and rfl (Ybo.a 47 rfl) (Ybo.a 53 rfl) rfl) fun _ Ybp => ?_;clear Ybo
 refine Ybp.t _ (ex_move rfl (Ybp.f 54)) fun _ Ybq => ?_;clear Ybp
 refine Ybq.g 55 rfl rfl rfl _ (fun hc => ex_move rfl (Ybq.f 1)) fun R32 Ybr => ?_;clear Ybq
 refine Ybr.g 55 rfl rfl rfl (.pointer (some ⟨g,4,none⟩)) (fun hc => ex_ix rfl (ev (Ybr.a 56 rfl) hc) rfl (ixBool g 4 10 cu (by decide) _)) fun R33 Ybs => ?_;clear Ybr
 refine Ybs.g 55 rfl rfl rfl _ (fun hc => ex_ld rfl (ev (Ybs.a 57 rfl) hc) (ldBool (HU.out v hv 4 _ rfl))) fun R34 Ybt => ?_;clear Ybs
 refine Ybt.g 55 rfl rfl rfl _ (fun hc => ex_move rfl (ev (Ybt.a 58 rfl) hc)) fun R35 Ybu => ?_;clear Ybt
 refine Ybu.g 59 rfl rfl rfl _ (fun hc => ex_move rfl (Ybu.f 9)) fun R36 Ybv => ?_;clear Ybu
 refine Ybv.g 55 rfl rfl rfl (.bool (u4 || (decide (m.cm = 0)))) (fun hc => ex_or rfl (Ybv.a 59 rfl) (Ybv.a 60 rfl) hc) fun R37 Ybw => ?_;clear Ybv
 refine Ybw.t (.bool (((((u0 || (decide (m.nd = 0))) && (u1 || (decide (m.vw = 0)))) && (u2 || (decide (m.ls = 0)))) && (u3 || (decide (m.p = 0)))) && (u4 || (decide (m.cm = 0))))) (ex_and rfl (Ybw.a 55 rfl) (Ybw.a 61 rfl) rfl) fun _ Ybx => ?_;clear Ybw
 refine Ybx.t _ (ex_move rfl (Ybx.f 62)) fun _ Yby => ?_;clear Ybx
 refine Yby.g 63 rfl rfl rfl _ (fun hc => ex_move rfl (Yby.f 1)) fun R40 Ybz => ?_;clear Yby
 refine Ybz.g 63 rfl rfl rfl (.pointer (some ⟨g,5,none⟩)) (fun hc => ex_ix rfl (ev (Ybz.a 64 rfl) hc) rfl (ixBool g 5 10 cu (by decide) _)) fun R41 Yb0 => ?_;clear Ybz
 refine Yb0.g 63 rfl rfl rfl _ (fun hc => ex_ld rfl (ev (Yb0.a 65 rfl) hc) (ldBool (HU.out v hv 5 _ rfl))) fun R42 Yb1 => ?_;clear Yb0
 refine Yb1.g 63 rfl rfl rfl _ (fun hc => ex_move rfl (ev (Yb1.a 66 rfl) hc)) fun R43 Yb2 => ?_;clear Yb1
 refine Yb2.g 67 rfl rfl rfl _ (fun hc => ex_fa rfl (Yb2.f 2) (MBox.faDraw _ _)) fun R44 Yb3 => ?_;clear Yb2
 refine Yb3.g 67 rfl rfl rfl _ (fun hc => ex_ld rfl (ev (Yb3.a 68 rfl) hc) ((HM.out v hv).ldDraw)) fun R45 Yb4 => ?_;clear Yb3
 refine Yb4.g 67 rfl rfl rfl (.agg #[.int .u64 0,.int .u64 0]) (fun hc => ex_build rfl (buildDr _)) fun R46 Yb5 => ?_;clear Yb4
 refine Yb5.g 67 rfl rfl rfl (.bool (decide (m.d = (0,0)))) (fun hc => ex_bin rfl (ev (Yb5.a 69 rfl) hc) (ev (Yb5.a 70 rfl) hc) (eqlDr _ _ m.d (0,0) _)) fun R47 Yb6 => ?_;clear Yb5
 refine Yb6.g 63 rfl rfl rfl (.bool (u5 || (decide (m.d = (0,0))))) (fun hc => ex_or rfl (Yb6.a 67 rfl) (Yb6.a 71 rfl) hc) fun R48 Yb7 => ?_;clear Yb6
 refine Yb7.t (.bool ((((((u0 || (decide (m.nd = 0))) && (u1 || (decide (m.vw = 0)))) && (u2 || (decide (m.ls = 0)))) && (u3 || (decide (m.p = 0)))) && (u4 || (decide (m.cm = 0)))) && (u5 || (decide (m.d = (0,0)))))) (ex_and rfl (Yb7.a 63 rfl) (Yb7.a 72 rfl) rfl) fun _ Yb8 => ?_;clear Yb7
 refine Yb8.t _ (ex_move rfl (Yb8.f 73)) fun _ Yb9 => ?_;clear Yb8
 refine Yb9.g 74 rfl rfl rfl _ (fun hc => ex_move rfl (Yb9.f 1)) fun R51 Yca => ?_;clear Yb9
 refine Yca.g 74 rfl rfl rfl (.pointer (some ⟨g,6,none⟩)) (fun hc => ex_ix rfl (ev (Yca.a 75 rfl) hc) rfl (ixBool g 6 10 cu (by decide) _)) fun R52 Ycb => ?_;clear Yca
 refine Ycb.g 74 rfl rfl rfl _ (fun hc => ex_ld rfl (ev (Ycb.a 76 rfl) hc) (ldBool (HU.out v hv 6 _ rfl))) fun R53 Ycc => ?_;clear Ycb
 refine Ycc.g 74 rfl rfl rfl _ (fun hc => ex_move rfl (ev (Ycc.a 77 rfl) hc)) fun R54 Ycd => ?_;clear Ycc
 refine Ycd.g 78 rfl rfl rfl _ (fun hc => ex_fa rfl (Ycd.f 2) (MBox.faEntry _ _)) fun R55 Yce => ?_;clear Ycd
 refine Yce.g 78 rfl rfl rfl _ (fun hc => ex_ld rfl (ev (Yce.a 79 rfl) hc) ((HM.out v hv).ldEntry)) fun R56 Ycf => ?_;clear Yce
 refine Ycf.g 78 rfl rfl rfl (.agg #[.int .i64 0,.int .i64 0,.int .i64 0,.int .i64 0,.string ⟨#[]⟩]) (fun hc => ex_build rfl (buildEn _)) fun R57 Ycg => ?_;clear Ycf
 refine Ycg.g 78 rfl rfl rfl (.bool (enb m.e zEn)) (fun hc => ex_bin rfl (ev (Ycg.a 80 rfl) hc) (ev (Ycg.a 81 rfl) hc) (eqlEnb _ _ m.e zEn _)) fun R58 Ych => ?_;clear Ycg
 refine Ych.g 74 rfl rfl rfl (.bool (u6 || (enb m.e zEn))) (fun hc => ex_or rfl (Ych.a 78 rfl) (Ych.a 82 rfl) hc) fun R59 Yci => ?_;clear Ych
 refine Yci.t (.bool (((((((u0 || (decide (m.nd = 0))) && (u1 || (decide (m.vw = 0)))) && (u2 || (decide (m.ls = 0)))) && (u3 || (decide (m.p = 0)))) && (u4 || (decide (m.cm = 0)))) && (u5 || (decide (m.d = (0,0))))) && (u6 || (enb m.e zEn)))) (ex_and rfl (Yci.a 74 rfl) (Yci.a 83 rfl) rfl) fun _ Ycj => ?_;clear Yci
 refine Ycj.t _ (ex_move rfl (Ycj.f 84)) fun _ Yck => ?_;clear Ycj
 refine Yck.g 85 rfl rfl rfl _ (fun hc => ex_move rfl (Yck.f 1)) fun R62 Ycl => ?_;clear Yck
 refine Ycl.g 85 rfl rfl rfl (.pointer (some ⟨g,7,none⟩)) (fun hc => ex_ix rfl (ev (Ycl.a 86 rfl) hc) rfl (ixBool g 7 10 cu (by decide) _)) fun R63 Ycm => ?_;clear Ycl
 refine Ycm.g 85 rfl rfl rfl _ (fun hc => ex_ld rfl (ev (Ycm.a 87 rfl) hc) (ldBool (HU.out v hv 7 _ rfl))) fun R64 Ycn => ?_;clear Ycm
 refine Ycn.g 85 rfl rfl rfl _ (fun hc => ex_move rfl (ev (Ycn.a 88 rfl) hc)) fun R65 Yco => ?_;clear Ycn
 refine Yco.g 89 rfl rfl rfl _ (fun hc => ex_fa rfl (Yco.f 2) (MBox.faResult _ _)) fun R66 Ycp => ?_;clear Yco
 refine Ycp.g 89 rfl rfl rfl _ (fun hc => ex_ld rfl (ev (Ycp.a 90 rfl) hc) ((HM.out v hv).ldResult)) fun R67 Ycq => ?_;clear Ycp
 refine Ycq.g 89 rfl rfl rfl (.agg #[.int .i64 0,.int .i64 0,.string ⟨#[]⟩]) (fun hc => ex_build rfl (buildRs _)) fun R68 Ycr => ?_;clear Ycq
 refine Ycr.g 89 rfl rfl rfl (.bool (decide (m.r = (0,0,⟨#[]⟩)))) (fun hc => ex_bin rfl (ev (Ycr.a 91 rfl) hc) (ev (Ycr.a 92 rfl) hc) (eqlRs _ _ m.r (0,0,⟨#[]⟩) _)) fun R69 Ycs => ?_;clear Ycr
 refine Ycs.g 85 rfl rfl rfl (.bool (u7 || (decide (m.r = (0,0,⟨#[]⟩))))) (fun hc => ex_or rfl (Ycs.a 89 rfl) (Ycs.a 93 rfl) hc) fun R70 Yct => ?_;clear Ycs
 refine Yct.t (.bool ((((((((u0 || (decide (m.nd = 0))) && (u1 || (decide (m.vw = 0)))) && (u2 || (decide (m.ls = 0)))) && (u3 || (decide (m.p = 0)))) && (u4 || (decide (m.cm = 0)))) && (u5 || (decide (m.d = (0,0))))) && (u6 || (enb m.e zEn))) && (u7 || (decide (m.r = (0,0,⟨#[]⟩)))))) (ex_and rfl (Yct.a 85 rfl) (Yct.a 94 rfl) rfl) fun _ Ycu => ?_;clear Yct
 refine Ycu.t _ (ex_move rfl (Ycu.f 95)) fun _ Ycv => ?_;clear Ycu
 refine Ycv.g 96 rfl rfl rfl _ (fun hc => ex_move rfl (Ycv.f 1)) fun R73 Ycw => ?_;clear Ycv
 refine Ycw.g 96 rfl rfl rfl (.pointer (some ⟨g,8,none⟩)) (fun hc => ex_ix rfl (ev (Ycw.a 97 rfl) hc) rfl (ixBool g 8 10 cu (by decide) _)) fun R74 Ycx => ?_;clear Ycw
 refine Ycx.g 96 rfl rfl rfl _ (fun hc => ex_ld rfl (ev (Ycx.a 98 rfl) hc) (ldBool (HU.out v hv 8 _ rfl))) fun R75 Ycy => ?_;clear Ycx
 refine Ycy.g 96 rfl rfl rfl _ (fun hc => ex_move rfl (ev (Ycy.a 99 rfl) hc)) fun R76 Ycz => ?_;clear Ycy
 refine Ycz.g 100 rfl rfl rfl _ (fun hc => ex_fa rfl (Ycz.f 2) (MBox.faLog _ _)) fun R77 Yc0 => ?_;clear Ycz
 refine Yc0.g 100 rfl rfl rfl _ (fun hc => ex_ld rfl (ev (Yc0.a 101 rfl) hc) ((HM.out v hv).ldLog)) fun R78 Yc1 => ?_;clear Yc0
 refine Yc1.g 100 rfl rfl rfl _ (fun hc => ex_lenE rfl rfl (ev (Yc1.a 102 rfl) hc)) fun R79 Yc2 => ?_;clear Yc1
 refine Yc2.g 100 rfl rfl rfl (.bool (decide (((nl : Nat) : Int) = 0))) (fun hc => ex_bin rfl (ev (Yc2.a 103 rfl) hc) rfl (eqlC _ _ _ _ _)) fun R80 Yc3 => ?_;clear Yc2
 refine Yc3.g 96 rfl rfl rfl (.bool (u8 || (decide (((nl : Nat) : Int) = 0)))) (fun hc => ex_or rfl (Yc3.a 100 rfl) (Yc3.a 104 rfl) hc) fun R81 Yc4 => ?_;clear Yc3
 refine Yc4.t (.bool (((((((((u0 || (decide (m.nd = 0))) && (u1 || (decide (m.vw = 0)))) && (u2 || (decide (m.ls = 0)))) && (u3 || (decide (m.p = 0)))) && (u4 || (decide (m.cm = 0)))) && (u5 || (decide (m.d = (0,0))))) && (u6 || (enb m.e zEn))) && (u7 || (decide (m.r = (0,0,⟨#[]⟩))))) && (u8 || (decide (((nl : Nat) : Int) = 0))))) (ex_and rfl (Yc4.a 96 rfl) (Yc4.a 105 rfl) rfl) fun _ Yc5 => ?_;clear Yc4
 refine Yc5.t _ (ex_move rfl (Yc5.f 106)) fun _ Yc6 => ?_;clear Yc5
 refine Yc6.g 107 rfl rfl rfl _ (fun hc => ex_move rfl (Yc6.f 1)) fun R84 Yc7 => ?_;clear Yc6
 refine Yc7.g 107 rfl rfl rfl (.pointer (some ⟨g,9,none⟩)) (fun hc => ex_ix rfl (ev (Yc7.a 108 rfl) hc) rfl (ixBool g 9 10 cu (by decide) _)) fun R85 Yc8 => ?_;clear Yc7
 refine Yc8.g 107 rfl rfl rfl _ (fun hc => ex_ld rfl (ev (Yc8.a 109 rfl) hc) (ldBool (HU.out v hv 9 _ rfl))) fun R86 Yc9 => ?_;clear Yc8
 refine Yc9.g 107 rfl rfl rfl _ (fun hc => ex_move rfl (ev (Yc9.a 110 rfl) hc)) fun R87 Yda => ?_;clear Yc9
 refine Yda.g 111 rfl rfl rfl _ (fun hc => ex_fa rfl (Yda.f 2) (MBox.faVector _ _)) fun R88 Ydb => ?_;clear Yda
 refine Ydb.g 111 rfl rfl rfl _ (fun hc => ex_ld rfl (ev (Ydb.a 112 rfl) hc) ((HM.out v hv).ldVector)) fun R89 Ydc => ?_;clear Ydb
 refine Ydc.g 111 rfl rfl rfl _ (fun hc => ex_lenV rfl rfl (ev (Ydc.a 113 rfl) hc)) fun R90 Ydd => ?_;clear Ydc
 refine Ydd.g 111 rfl rfl rfl (.bool (decide (((nv : Nat) : Int) = 0))) (fun hc => ex_bin rfl (ev (Ydd.a 114 rfl) hc) rfl (eqlC _ _ _ _ _)) fun R91 Yde => ?_;clear Ydd
 refine Yde.g 107 rfl rfl rfl (.bool (u9 || (decide (((nv : Nat) : Int) = 0)))) (fun hc => ex_or rfl (Yde.a 111 rfl) (Yde.a 115 rfl) hc) fun R92 Ydf => ?_;clear Yde
 refine Ydf.t (.bool ((((((((((u0 || (decide (m.nd = 0))) && (u1 || (decide (m.vw = 0)))) && (u2 || (decide (m.ls = 0)))) && (u3 || (decide (m.p = 0)))) && (u4 || (decide (m.cm = 0)))) && (u5 || (decide (m.d = (0,0))))) && (u6 || (enb m.e zEn))) && (u7 || (decide (m.r = (0,0,⟨#[]⟩))))) && (u8 || (decide (((nl : Nat) : Int) = 0)))) && (u9 || (decide (((nv : Nat) : Int) = 0))))) (ex_and rfl (Ydf.a 107 rfl) (Ydf.a 116 rfl) rfl) fun _ Ydg => ?_;clear Ydf
 refine Ydg.t _ (ex_assign rfl (Ydg.f 117)) fun _ Ydh => ?_;clear Ydg
 have hz:=Ydh.z;have s4:=Ydh.a 4 rfl;clear Ydh;refine wpList_nil ?_;have HV:=hide (HB.out v hv);clear HM HU HB hv
 go_wp2
 refine bodyPost_ret (results_tmp rfl _ _ _) rfl ⟨?_,HV.out⟩;rw [getD_of s4]
 rfl
structure CBox (w : World) (q : Nat) (f r : Int) : Prop where
 c0 : w.cell? ⟨q,0,none⟩ = some (.int .i64 f)
 c1 : w.cell? ⟨q,1,none⟩ = some (.int .i64 r)
theorem CBox.fa0 (q : Nat) (w : World) : (Instr.fieldAt 23 (.pointer (some ⟨q,0,none⟩)) 0).run Tryz.prog w = .ok (.pointer (some ⟨q,0,none⟩)) w:=by
 go_simp
theorem CBox.fa1 (q : Nat) (w : World) : (Instr.fieldAt 23 (.pointer (some ⟨q,0,none⟩)) 1).run Tryz.prog w = .ok (.pointer (some ⟨q,1,none⟩)) w:=by
 go_simp
theorem CBox.ld0 {w : World} {q : Nat} {f r : Int} (h : CBox w q f r) : (Instr.loadAt 3 (.pointer (some ⟨q,0,none⟩))).run Tryz.prog w = .ok (.int .i64 f) w:=by
 have h0:=h.c0
 go_simp
theorem CBox.ld1 {w : World} {q : Nat} {f r : Int} (h : CBox w q f r) : (Instr.loadAt 3 (.pointer (some ⟨q,1,none⟩))).run Tryz.prog w = .ok (.int .i64 r) w:=by
 have h0:=h.c1
 go_simp
theorem faCode (q : Nat) (w : World) : (Instr.fieldAt 40 (.pointer (some ⟨q,8,none⟩)) 0).run Tryz.prog w = .ok (.pointer (some ⟨q,8,none⟩)) w:=by
 go_simp
theorem s_ldCode {w : World} {q : Nat} {m : Mg} {s t : Value} (h : MBox w q m s t) : (Instr.loadAt 3 (.pointer (some ⟨q,8,none⟩))).run Tryz.prog w = .ok (.int .i64 m.r.1) w:=by
 have h0:=h.cell 8 _ rfl
 go_simp
theorem mulC {f : Int} (h : 1 ≤ f∧f ≤ 3) (x y : Operand) (w : World) : (do eqGuard .mul 3 x y (.int .i64 2) (.int .i64 f);binOp .mul 3 (.int .i64 2) (.int .i64 f) : Sem Value).run Tryz.prog w = .ok (.int .i64 (2 * f)) w:=by
 have h1 : IntKind.i64.wrap (2 * f) = 2 * f:=by rw [IntKind.wrap_i64];omega
 go_simp
theorem addC {f : Int} (h : 1 ≤ f∧f ≤ 3) (x y : Operand) (w : World) : (do eqGuard .add 3 x y (.int .i64 (2 * f)) (.int .i64 1);binOp .add 3 (.int .i64 (2 * f)) (.int .i64 1) : Sem Value).run Tryz.prog w = .ok (.int .i64 (2 * f + 1)) w:=by
 have h1 : IntKind.i64.wrap (2 * f + 1) = 2 * f + 1:=by rw [IntKind.wrap_i64];omega
 go_simp
theorem remC {f : Int} (h : 1 ≤ f∧f ≤ 3) (x y : Operand) (a : Int) (w : World) : (do eqGuard .rem 3 x y (.int .i64 a) (.int .i64 (2 * f + 1));binOp .rem 3 (.int .i64 a) (.int .i64 (2 * f + 1)) : Sem Value).run Tryz.prog w = .ok (.int .i64 (a.tmod (2 * f + 1))) w:=by
 have hn0 : ¬ (2 * f + 1 = 0):=by omega
 go_simp
theorem ixVec (q o n cv nd : Nat) (h : nd < n) (w : World) : (Instr.indexAt 27 (.slice (some ⟨q,o,none⟩) n cv) (.int .i64 (nd : Int))).run Tryz.prog w = .ok (.pointer (some ⟨q,o + nd * 2,none⟩)) w:=by
 have h1 : (nd : Int) < (n : Int):=by omega
 go_simp
theorem ldDrAt {w : World} {q p : Nat} {x y : Int} (h0 : w.cell? ⟨q,p,none⟩ = some (.int .u64 x)) (h1 : w.cell? ⟨q,p + 1,none⟩ = some (.int .u64 y)) : (Instr.loadAt 43 (.pointer (some ⟨q,p,none⟩))).run Tryz.prog w = .ok (.agg #[.int .u64 x,.int .u64 y]) w:=by
 go_simp
def fiG (f r : Int) (m : Mg) (L : List En) (D : List (Int × Int)) (k : Int) (u0 u1 u2 u3 u4 u5 u6 u7 u8 u9 : Bool) : Bool :=
 if ((u0 && ((decide (m.nd < 0)) || (decide ((2 * f + 1) ≤ m.nd)))) || (u1 && ((decide (m.vw < 0)) || (decide (4294967296 < m.vw))))) = true then false else
 if ((((decide (k = 6)) || (decide (k = 7))) || (decide (k = 8))) && (decide (m.vw < 1))) = true then false else
 if ((((decide (k = 3)) || (decide (k = 5))) || (decide (k = 8))) && (!decide (m.nd = ((m.vw).tmod ((2 * f + 1)))))) = true then false else
 if (u2 && ((decide (m.ls < 0)) || (decide (m.vw ≤ m.ls)))) = true then false else
 if (u3 && ((((decide (m.p < 0)) || (decide (r < m.p))) || ((decide (k = 3)) && (decide (m.p < 1)))) || ((decide (k = 2)) && ((decide (m.p = 0)) != (decide (m.r.1 = 7)))))) = true then false else
 if (u8 && (!decide ((lg L r) = 0))) = true then false else
 if (u4 && (((decide (m.cm < 0)) || (decide (r < m.cm))) || (u8 && (decide (((L.length : Nat) : Int) < m.cm))))) = true then false else
 if (((decide (k = 10)) && (decide (0 < ((L.length : Nat) : Int)))) && (!decide (m.nd = ((m.vw).tmod ((2 * f + 1)))))) = true then false else
 if (u9 && (!decide (((D.length : Nat) : Int) = (2 * f + 1)))) = true then false else
 if ((u5 && (decide (m.d = (0,0)))) || ((decide (k = 9)) && (!decide (m.d = (D.getD m.nd.toNat (0,0)))))) = true then false else
 if ((decide (k = 14)) && ((decide (m.r.1 < 4)) || (decide (6 < m.r.1)))) = true then false else
 (((!u6) || (enK k m.e)) && ((!u7) || (resB m.r.1 m.r.2.1 m.r.2.2)))
set_option maxHeartbeats 8000000 in
theorem fields_any (f r p : Int) (b : Bool) (m : Mg) (a1 a2 : Option Addr) (cl cv g cu : Nat) (k : Int) (u0 u1 u2 u3 u4 u5 u6 u7 u8 u9 : Bool) (L : List En) (D : List (Int × Int)) (w : World) (hf : 1 ≤ f∧f ≤ 3) (hL : SlY yE w a1 L.length cl L) (hfit : ∀ e ∈ L,e.fits) (hD : SlY yD w a2 D.length cv D) (hfe : m.e.o.fits) (hg : g < w.heap.size) (hu : ∀ (j : Nat) (b : Bool),([u0,u1,u2,u3,u4,u5,u6,u7,u8,u9] : List Bool)[j]? = some b → w.cell? ⟨g,j,none⟩ = some (.bool b)) (h9 : k = 9 → u0 = true∧u9 = true) : Calls Tryz.prog 24 #[.agg #[.int .i64 f,.int .i64 r,.int .i64 p,.bool b],m.val (.slice a1 L.length cl) (.slice a2 D.length cv),.int .i64 k,.slice (some ⟨g,0,none⟩) 10 cu] w fun e w' => e = .returned (.bool (fiG f r m L D k u0 u1 u2 u3 u4 u5 u6 u7 u8 u9))∧Below w.heap.size w w':=by
 go_enter Tryz.func24,Tryz.ntmps24
 go_upto_region 1 with (refine boxMk rfl (.tmp 1) rfl m _ _ rfl ?_;intro q1 w1 hq1 M1 b1 z1)
 have hq2 : q1 = w.heap.size + 1:=by first | exact hq1 | simpa using hq1
 subst hq2;have hB : Below w.heap.size w w1:=((Below.refl _ _).alloc (Nat.le_refl _) _).trans (b1.mono (by simp))
 have HC : Hid (∀ v,Below w1.heap.size w1 v → CBox v w.heap.size f r):=fun v hv => ⟨(hv.cell (p:=⟨w.heap.size,0,none⟩) (Nat.lt_of_succ_lt M1.lt)).trans ((b1.cell (p:=⟨w.heap.size,0,none⟩) (by simp)).trans (by simp)),(hv.cell (p:=⟨w.heap.size,1,none⟩) (Nat.lt_of_succ_lt M1.lt)).trans ((b1.cell (p:=⟨w.heap.size,1,none⟩) (by simp)).trans (by simp))⟩
 have HM : Hid (∀ v,Below w1.heap.size w1 v → MBox v (w.heap.size + 1) m (.slice a1 L.length cl) (.slice a2 D.length cv)):=fun v hv => M1.bel hv
 have HB : Hid (∀ v,Below w1.heap.size w1 v → Below w.heap.size w v):=fun v hv => hB.trans (hv.mono hB.size)
 have HU : Hid (∀ v,Below w1.heap.size w1 v → ∀ (j : Nat) (b : Bool),([u0,u1,u2,u3,u4,u5,u6,u7,u8,u9] : List Bool)[j]? = some b → v.cell? ⟨g,j,none⟩ = some (.bool b)):=fun v hv j b hj => ((HB.out v hv).cell (p:=⟨g,j,none⟩) hg).trans (hu j b hj)
 have HL : Hid (∀ v,Below w1.heap.size w1 v → Calls Tryz.prog 45 #[.slice a1 L.length cl,.int .i64 r] v fun e w' => e = .returned (.int .i64 (lg L r))∧Below v.heap.size v w'):=fun v hv => reflog_any L a1 cl r v (hL.later (HB.out v hv)) hfit
 have HE : Hid (∀ v,Calls Tryz.prog 46 #[.int .i64 k,.agg #[.int .i64 m.e.c,.int .i64 m.e.n,.int .i64 m.e.o.k,.int .i64 m.e.o.s,.string m.e.o.v]] v fun e w' => e = .returned (.bool (enK k m.e))∧Below v.heap.size v w'):=fun v => refentry7 k m.e hfe v
 have HR : Hid (∀ v,Calls Tryz.prog 47 #[.agg #[.int .i64 m.r.1,.int .i64 m.r.2.1,.string m.r.2.2]] v fun e w' => e = .returned (.bool (resB m.r.1 m.r.2.1 m.r.2.2))∧Below v.heap.size v w'):=fun v => refresult_any m.r.1 m.r.2.1 m.r.2.2 v
 have HXm : Hid ((k = 9 → 0 ≤ m.nd∧m.nd < (D.length : Int)) → ∃ q2 o2,Hid (k = 9 → ∀ v,Below w1.heap.size w1 v → (Instr.indexAt 27 (.slice a2 D.length cv) (.int .i64 m.nd)).run Tryz.prog v = .ok (.pointer (some ⟨q2,o2 + m.nd.toNat * 2,none⟩)) v∧(Instr.loadAt 43 (.pointer (some ⟨q2,o2 + m.nd.toNat * 2,none⟩))).run Tryz.prog v = .ok (.agg #[.int .u64 (D.getD m.nd.toNat (0,0)).1,.int .u64 (D.getD m.nd.toNat (0,0)).2]) v)):=fun z => by
  by_cases hk : k = 9
  ·obtain ⟨z1',z2'⟩:=z hk
   obtain ⟨nn,hn⟩:=Int.eq_ofNat_of_zero_le z1'
   have hlt : nn < D.length:=by omega
   obtain ⟨q2,o2,rfl,hq,hl⟩:=hD.place (fun e => by rw [e] at hlt;simp at hlt);refine ⟨q2,o2,fun _ v hv => ?_⟩;rw [hn,Int.toNat_natCast]
   have hd : D[nn]? = some (D.getD nn (0,0)):=by rw [List.getD_eq_getElem?_getD,List.getElem?_eq_getElem hlt];rfl
   have lv : LieY yD v q2 o2 D:=hl.upd (S:=fun _ => False) (Upd.of_below ((HB.out v hv))) hq id
   exact ⟨ixVec q2 o2 D.length cv nn hlt v,ldDrAt (lv nn _ hd 0 _ rfl) (lv nn _ hd 1 _ rfl)⟩
  ·exact ⟨0,0,fun h => absurd h hk⟩
 have H9:=hide h9;have HN:=hide hf;have h1 : Below w1.heap.size w1 w1:=Below.refl _ _;clear M1 b1 z1 hB hq1 hu hL hD hfit hfe h9 hf;refine wp_region_lit ?_;refine vl_gen (fun T => T.size = 255∧T[2]? = some (gw true (.int .i64 k))∧T[3]? = some (gw true (.slice (some ⟨g,0,none⟩) 10 cu))∧T[4]? = some (gw true (.pointer (some ⟨w.heap.size,0,none⟩)))∧T[5]? = some (gw true (.pointer (some ⟨w.heap.size + 1,0,none⟩)))) ⟨rfl,rfl,rfl,rfl,rfl⟩ (fun T0 ⟨hz,s2,s3,s4,s5⟩ => ?_);have Ya:=((((Rp.nil hz).cons s2).cons s3).cons s4).cons s5;clear hz s2 s3 s4 s5
 refine Ya.t _ (ex_fa rfl (Ya.f 4) (CBox.fa0 _ _)) fun _ Yb => ?_;clear Ya
 refine Yb.t _ (ex_ld rfl (Yb.f 10) ((HC.out w1 h1).ld0)) fun _ Yc => ?_;clear Yb
 refine Yc.t (.int .i64 (2 * f)) (ex_bin rfl rfl (Yc.f 11) (mulC HN.out _ _ _)) fun _ Yd => ?_;clear Yc
 refine Yd.t (.int .i64 (2 * f + 1)) (ex_bin rfl (Yd.f 12) rfl (addC HN.out _ _ _)) fun _ Ye => ?_;clear Yd
 refine Ye.t _ (ex_assign rfl (Ye.f 13)) fun _ Yf => ?_;clear Ye
 have hz:=Yf.z;have s2:=Yf.a 2 rfl;have s3:=Yf.a 3 rfl;have s4:=Yf.a 4 rfl;have s5:=Yf.a 5 rfl;have s9:=Yf.a 9 rfl;clear Yf;refine wpList_nil ?_
 go_upto_region 2 with fail
 refine wp_region_lit ?_;have Yg:=(((((Rp.nil hz).cons s2).cons s3).cons s4).cons s5).cons s9;clear hz s2 s3 s4 s5 s9
 refine Yg.t _ (ex_move rfl (Yg.f 3)) fun _ Yh => ?_;clear Yg
 refine Yh.t (.pointer (some ⟨g,0,none⟩)) (ex_ix rfl (Yh.f 14) rfl (ixBool g 0 10 cu (by decide) _)) fun _ Yi => ?_;clear Yh
 refine Yi.t _ (ex_ld rfl (Yi.f 15) (ldBool (HU.out w1 h1 0 _ rfl))) fun _ Yj => ?_;clear Yi
 refine Yj.t _ (ex_move rfl (Yj.f 16)) fun _ Yk => ?_;clear Yj
 refine Yk.g 17 rfl rfl rfl _ (fun hc => ex_fa rfl (Yk.f 5) (MBox.faNode _ _)) fun Yl Ym => ?_;clear Yk
 refine Ym.g 17 rfl rfl rfl _ (fun hc => ex_ld rfl (ev (Ym.a 18 rfl) hc) ((HM.out w1 h1).ldNode)) fun Yn Yo => ?_;clear Ym
 refine Yo.g 17 rfl rfl rfl (.bool (decide (m.nd < 0))) (fun hc => ex_bin rfl (ev (Yo.a 19 rfl) hc) rfl (lssC _ _ _ _ _)) fun Yp Yq => ?_;clear Yo
 refine Yq.g 17 rfl rfl rfl _ (fun hc => ex_move rfl (ev (Yq.a 20 rfl) hc)) fun Yr Ys => ?_;clear Yq
 refine Ys.g 21 rfl rfl rfl _ (fun hc => ex_fa rfl (Ys.f 5) (MBox.faNode _ _)) fun Yt Yu => ?_;clear Ys
 refine Yu.g 21 rfl rfl rfl _ (fun hc => ex_ld rfl (ev (Yu.a 22 rfl) hc) ((HM.out w1 h1).ldNode)) fun Yv Yw => ?_;clear Yu
 refine Yw.g 21 rfl rfl rfl _ (fun hc => ex_move rfl (Yw.f 9)) fun Yx Yy => ?_;clear Yw
 refine Yy.g 21 rfl rfl rfl (.bool (decide ((2 * f + 1) ≤ m.nd))) (fun hc => ex_bin rfl (ev (Yy.a 23 rfl) hc) (ev (Yy.a 24 rfl) hc) (geqC _ _ _ _ _)) fun Yz Y0 => ?_;clear Yy
 refine Y0.g 17 rfl rfl rfl (.bool ((decide (m.nd < 0)) || (decide ((2 * f + 1) ≤ m.nd)))) (fun hc => ex_or rfl (Y0.a 21 rfl) (Y0.a 25 rfl) hc) fun Y1 Y2 => ?_;clear Y0
 refine Y2.t (.bool (u0 && ((decide (m.nd < 0)) || (decide ((2 * f + 1) ≤ m.nd))))) (ex_and rfl (Y2.a 17 rfl) (Y2.a 26 rfl) rfl) fun _ Y3 => ?_;clear Y2
 refine Y3.t _ (ex_move rfl (Y3.f 27)) fun _ Y4 => ?_;clear Y3
 refine Y4.g 28 rfl rfl rfl _ (fun hc => ex_move rfl (Y4.f 3)) fun Y5 Y6 => ?_;clear Y4
 refine Y6.g 28 rfl rfl rfl (.pointer (some ⟨g,1,none⟩)) (fun hc => ex_ix rfl (ev (Y6.a 29 rfl) hc) rfl (ixBool g 1 10 cu (by decide) _)) fun Y7 Y8 => ?_;clear Y6
 refine Y8.g 28 rfl rfl rfl _ (fun hc => ex_ld rfl (ev (Y8.a 30 rfl) hc) (ldBool (HU.out w1 h1 1 _ rfl))) fun Y9 Yba => ?_;clear Y8
 refine Yba.g 28 rfl rfl rfl _ (fun hc => ex_move rfl (ev (Yba.a 31 rfl) hc)) fun Ybb Ybc => ?_;clear Yba
 refine Ybc.g 32 rfl rfl rfl _ (fun hc => ex_fa rfl (Ybc.f 5) (MBox.faView _ _)) fun Ybd Ybe => ?_;clear Ybc
 refine Ybe.g 32 rfl rfl rfl _ (fun hc => ex_ld rfl (ev (Ybe.a 33 rfl) hc) ((HM.out w1 h1).ldView)) fun Ybf Ybg => ?_;clear Ybe
 refine Ybg.g 32 rfl rfl rfl (.bool (decide (m.vw < 0))) (fun hc => ex_bin rfl (ev (Ybg.a 34 rfl) hc) rfl (lssC _ _ _ _ _)) fun Ybh Ybi => ?_;clear Ybg
 refine Ybi.g 32 rfl rfl rfl _ (fun hc => ex_move rfl (ev (Ybi.a 35 rfl) hc)) fun Ybj Ybk => ?_;clear Ybi
 refine Ybk.g 36 rfl rfl rfl _ (fun hc => ex_fa rfl (Ybk.f 5) (MBox.faView _ _)) fun Ybl Ybm => ?_;clear Ybk
 refine Ybm.g 36 rfl rfl rfl _ (fun hc => ex_ld rfl (ev (Ybm.a 37 rfl) hc) ((HM.out w1 h1).ldView)) fun Ybn Ybo => ?_;clear Ybm
 refine Ybo.g 36 rfl rfl rfl (.bool (decide (4294967296 < m.vw))) (fun hc => ex_bin rfl (ev (Ybo.a 38 rfl) hc) rfl (gtrC _ _ _ _ _)) fun Ybp Ybq => ?_;clear Ybo
 refine Ybq.g 32 rfl rfl rfl (.bool ((decide (m.vw < 0)) || (decide (4294967296 < m.vw)))) (fun hc => ex_or rfl (Ybq.a 36 rfl) (Ybq.a 39 rfl) hc) fun Ybr Ybs => ?_;clear Ybq
 refine Ybs.g 28 rfl rfl rfl (.bool (u1 && ((decide (m.vw < 0)) || (decide (4294967296 < m.vw))))) (fun hc => ex_and rfl (Ybs.a 32 rfl) (Ybs.a 40 rfl) hc) fun Ybt Ybu => ?_;clear Ybs
 refine Ybu.t (.bool ((u0 && ((decide (m.nd < 0)) || (decide ((2 * f + 1) ≤ m.nd)))) || (u1 && ((decide (m.vw < 0)) || (decide (4294967296 < m.vw)))))) (ex_or rfl (Ybu.a 28 rfl) (Ybu.a 41 rfl) rfl) fun _ Ybv => ?_;clear Ybu
 have hz:=Ybv.z;have s2:=Ybv.a 2 rfl;have s3:=Ybv.a 3 rfl;have s4:=Ybv.a 4 rfl;have s5:=Ybv.a 5 rfl;have s9:=Ybv.a 9 rfl;have s42:=Ybv.a 42 rfl;clear Ybv;refine wpList_nil ?_
 go_upto_region 4 with fail
 cases e2 : ((u0 && ((decide (m.nd < 0)) || (decide ((2 * f + 1) ≤ m.nd)))) || (u1 && ((decide (m.vw < 0)) || (decide (4294967296 < m.vw)))))
 rotate_left
 ·refine wp_cond_true ((ev s42 rfl).trans (congrArg Value.bool e2)) ?_
  have HV:=hide (HB.out _ h1);have V2:=hide (show fiG f r m L D k u0 u1 u2 u3 u4 u5 u6 u7 u8 u9 = false from by unfold fiG;rw [if_pos e2])
  go_wp2
  refine bodyPost_ret (results_tmp rfl _ _ _) rfl ⟨?_,HV.out⟩;rw [V2.out]
  show Ending.returned ((Array.setIfInBounds _ 8 (Value.bool false)).getD 8 undef) = _
  rw [getD_of (at_set _ (by rw [hz];decide))]
 refine wp_cond_false ((ev s42 rfl).trans (congrArg Value.bool e2)) ?_
 go_upto_region 4 with fail
 clear s42;refine wp_region_lit ?_;have Ybw:=(((((Rp.nil hz).cons s2).cons s3).cons s4).cons s5).cons s9;clear hz s2 s3 s4 s5 s9
 refine Ybw.t _ (ex_move rfl (Ybw.f 2)) fun _ Ybx => ?_;clear Ybw
 refine Ybx.t (.bool (decide (k = 6))) (ex_bin rfl (Ybx.f 43) rfl (eqlC _ _ _ _ _)) fun _ Yby => ?_;clear Ybx
 refine Yby.t _ (ex_move rfl (Yby.f 44)) fun _ Ybz => ?_;clear Yby
 refine Ybz.g 45 rfl rfl rfl _ (fun hc => ex_move rfl (Ybz.f 2)) fun Yb0 Yb1 => ?_;clear Ybz
 refine Yb1.g 45 rfl rfl rfl (.bool (decide (k = 7))) (fun hc => ex_bin rfl (ev (Yb1.a 46 rfl) hc) rfl (eqlC _ _ _ _ _)) fun Yb2 Yb3 => ?_;clear Yb1
 refine Yb3.t (.bool ((decide (k = 6)) || (decide (k = 7)))) (ex_or rfl (Yb3.a 45 rfl) (Yb3.a 47 rfl) rfl) fun _ Yb4 => ?_;clear Yb3
 refine Yb4.t _ (ex_move rfl (Yb4.f 48)) fun _ Yb5 => ?_;clear Yb4
 refine Yb5.g 49 rfl rfl rfl _ (fun hc => ex_move rfl (Yb5.f 2)) fun Yb6 Yb7 => ?_;clear Yb5
 refine Yb7.g 49 rfl rfl rfl (.bool (decide (k = 8))) (fun hc => ex_bin rfl (ev (Yb7.a 50 rfl) hc) rfl (eqlC _ _ _ _ _)) fun Yb8 Yb9 => ?_;clear Yb7
 refine Yb9.t (.bool (((decide (k = 6)) || (decide (k = 7))) || (decide (k = 8)))) (ex_or rfl (Yb9.a 49 rfl) (Yb9.a 51 rfl) rfl) fun _ Yca => ?_;clear Yb9
 refine Yca.t _ (ex_move rfl (Yca.f 52)) fun _ Ycb => ?_;clear Yca
 refine Ycb.g 53 rfl rfl rfl _ (fun hc => ex_fa rfl (Ycb.f 5) (MBox.faView _ _)) fun Ycc Ycd => ?_;clear Ycb
 refine Ycd.g 53 rfl rfl rfl _ (fun hc => ex_ld rfl (ev (Ycd.a 54 rfl) hc) ((HM.out w1 h1).ldView)) fun Yce Ycf => ?_;clear Ycd
 refine Ycf.g 53 rfl rfl rfl (.bool (decide (m.vw < 1))) (fun hc => ex_bin rfl (ev (Ycf.a 55 rfl) hc) rfl (lssC _ _ _ _ _)) fun Ycg Ych => ?_;clear Ycf
 refine Ych.t (.bool ((((decide (k = 6)) || (decide (k = 7))) || (decide (k = 8))) && (decide (m.vw < 1)))) (ex_and rfl (Ych.a 53 rfl) (Ych.a 56 rfl) rfl) fun _ Yci => ?_;clear Ych
 have hz:=Yci.z;have s2:=Yci.a 2 rfl;have s3:=Yci.a 3 rfl;have s4:=Yci.a 4 rfl;have s5:=Yci.a 5 rfl;have s9:=Yci.a 9 rfl;have s57:=Yci.a 57 rfl;clear Yci;refine wpList_nil ?_
 go_upto_region 6 with fail
 cases e4 : ((((decide (k = 6)) || (decide (k = 7))) || (decide (k = 8))) && (decide (m.vw < 1)))
 rotate_left
 ·refine wp_cond_true ((ev s57 rfl).trans (congrArg Value.bool e4)) ?_
  have HV:=hide (HB.out _ h1);have V2:=hide (show fiG f r m L D k u0 u1 u2 u3 u4 u5 u6 u7 u8 u9 = false from by unfold fiG;rw [if_neg (Bool.eq_false_iff.1 e2)];rw [if_pos e4])
  go_wp2
  refine bodyPost_ret (results_tmp rfl _ _ _) rfl ⟨?_,HV.out⟩;rw [V2.out]
  show Ending.returned ((Array.setIfInBounds _ 8 (Value.bool false)).getD 8 undef) = _
  rw [getD_of (at_set _ (by rw [hz];decide))]
 refine wp_cond_false ((ev s57 rfl).trans (congrArg Value.bool e4)) ?_
 go_upto_region 6 with fail
 clear s57;refine vq_start (C:=fun v => Below w1.heap.size w1 v) (by kernel_rfl) (by kernel_rfl) (belN h1 1) ?_;have Ycj:=(((((Rp.nil hz).cons s2).cons s3).cons s4).cons s5).cons s9;clear hz s2 s3 s4 s5 s9
 refine Ycj.q _ (fun v hv => ex_move rfl (Ycj.f 2)) fun _ Yck => ?_;clear Ycj
 refine Yck.q (.bool (decide (k = 3))) (fun v hv => ex_bin rfl (Yck.f 58) rfl (eqlC _ _ _ _ _)) fun _ Ycl => ?_;clear Yck
 refine Ycl.q _ (fun v hv => ex_move rfl (Ycl.f 59)) fun _ Ycm => ?_;clear Ycl
 refine Ycm.gq 60 rfl rfl rfl _ (fun hc v hv => ex_move rfl (Ycm.f 2)) fun Ycn Yco => ?_;clear Ycm
 refine Yco.gq 60 rfl rfl rfl (.bool (decide (k = 5))) (fun hc v hv => ex_bin rfl (ev (Yco.a 61 rfl) hc) rfl (eqlC _ _ _ _ _)) fun Ycp Ycq => ?_;clear Yco
 refine Ycq.q (.bool ((decide (k = 3)) || (decide (k = 5)))) (fun v hv => ex_or rfl (Ycq.a 60 rfl) (Ycq.a 62 rfl) rfl) fun _ Ycr => ?_;clear Ycq
 refine Ycr.q _ (fun v hv => ex_move rfl (Ycr.f 63)) fun _ Ycs => ?_;clear Ycr
 refine Ycs.gq 64 rfl rfl rfl _ (fun hc v hv => ex_move rfl (Ycs.f 2)) fun Yct Ycu => ?_;clear Ycs
 refine Ycu.gq 64 rfl rfl rfl (.bool (decide (k = 8))) (fun hc v hv => ex_bin rfl (ev (Ycu.a 65 rfl) hc) rfl (eqlC _ _ _ _ _)) fun Ycv Ycw => ?_;clear Ycu
 refine Ycw.q (.bool (((decide (k = 3)) || (decide (k = 5))) || (decide (k = 8)))) (fun v hv => ex_or rfl (Ycw.a 64 rfl) (Ycw.a 66 rfl) rfl) fun _ Ycx => ?_;clear Ycw
 refine Ycx.q _ (fun v hv => ex_move rfl (Ycx.f 67)) fun _ Ycy => ?_;clear Ycx
 refine Ycy.gq 68 rfl rfl rfl _ (fun hc v hv => ex_fa rfl (Ycy.f 5) (MBox.faNode _ _)) fun Ycz Yc0 => ?_;clear Ycy
 refine Yc0.gq 68 rfl rfl rfl _ (fun hc v hv => ex_ld rfl (ev (Yc0.a 69 rfl) hc) ((HM.out v hv).ldNode)) fun Yc1 Yc2 => ?_;clear Yc0
 refine Yc2.gq 68 rfl rfl rfl _ (fun hc v hv => ex_fa rfl (Yc2.f 5) (MBox.faView _ _)) fun Yc3 Yc4 => ?_;clear Yc2
 refine Yc4.gq 68 rfl rfl rfl _ (fun hc v hv => ex_ld rfl (ev (Yc4.a 71 rfl) hc) ((HM.out v hv).ldView)) fun Yc5 Yc6 => ?_;clear Yc4
 refine Yc6.gq 68 rfl rfl rfl _ (fun hc v hv => ex_move rfl (Yc6.f 9)) fun Yc7 Yc8 => ?_;clear Yc6
 refine Yc8.gq 68 rfl rfl rfl (.int .i64 ((m.vw).tmod ((2 * f + 1)))) (fun hc v hv => ex_bin rfl (ev (Yc8.a 72 rfl) hc) (ev (Yc8.a 73 rfl) hc) (remC HN.out _ _ _ _)) fun Yc9 Yda => ?_;clear Yc8
 refine Yda.gq 68 rfl rfl rfl (.bool (!decide (m.nd = ((m.vw).tmod ((2 * f + 1)))))) (fun hc v hv => ex_bin rfl (ev (Yda.a 70 rfl) hc) (ev (Yda.a 74 rfl) hc) (neqC _ _ _ _ _)) fun Ydb Ydc => ?_;clear Yda
 refine Ydc.q (.bool ((((decide (k = 3)) || (decide (k = 5))) || (decide (k = 8))) && (!decide (m.nd = ((m.vw).tmod ((2 * f + 1))))))) (fun v hv => ex_and rfl (Ydc.a 68 rfl) (Ydc.a 75 rfl) rfl) fun _ Ydd => ?_;clear Ydc
 have hz:=Ydd.z;have s2:=Ydd.a 2 rfl;have s3:=Ydd.a 3 rfl;have s4:=Ydd.a 4 rfl;have s5:=Ydd.a 5 rfl;have s9:=Ydd.a 9 rfl;have s76:=Ydd.a 76 rfl;clear Ydd;refine vq_nil (fun x6 hx6 => ?_)
 go_upto_region 8 with fail
 cases e6 : ((((decide (k = 3)) || (decide (k = 5))) || (decide (k = 8))) && (!decide (m.nd = ((m.vw).tmod ((2 * f + 1))))))
 rotate_left
 ·refine wp_cond_true ((ev s76 rfl).trans (congrArg Value.bool e6)) ?_
  have HV:=hide (HB.out _ hx6);have V2:=hide (show fiG f r m L D k u0 u1 u2 u3 u4 u5 u6 u7 u8 u9 = false from by unfold fiG;rw [if_neg (Bool.eq_false_iff.1 e2)];rw [if_neg (Bool.eq_false_iff.1 e4)];rw [if_pos e6])
  go_wp2
  refine bodyPost_ret (results_tmp rfl _ _ _) rfl ⟨?_,HV.out⟩;rw [V2.out]
  show Ending.returned ((Array.setIfInBounds _ 8 (Value.bool false)).getD 8 undef) = _
  rw [getD_of (at_set _ (by rw [hz];decide))]
 refine wp_cond_false ((ev s76 rfl).trans (congrArg Value.bool e6)) ?_
 go_upto_region 8 with fail
 clear s76;refine wp_region_lit ?_;have Yde:=(((((Rp.nil hz).cons s2).cons s3).cons s4).cons s5).cons s9;clear hz s2 s3 s4 s5 s9
 refine Yde.t _ (ex_move rfl (Yde.f 3)) fun _ Ydf => ?_;clear Yde
 refine Ydf.t (.pointer (some ⟨g,2,none⟩)) (ex_ix rfl (Ydf.f 77) rfl (ixBool g 2 10 cu (by decide) _)) fun _ Ydg => ?_;clear Ydf
 refine Ydg.t _ (ex_ld rfl (Ydg.f 78) (ldBool (HU.out x6 hx6 2 _ rfl))) fun _ Ydh => ?_;clear Ydg
 refine Ydh.t _ (ex_move rfl (Ydh.f 79)) fun _ Ydi => ?_;clear Ydh
 refine Ydi.g 80 rfl rfl rfl _ (fun hc => ex_fa rfl (Ydi.f 5) (MBox.faLast _ _)) fun Ydj Ydk => ?_;clear Ydi
 refine Ydk.g 80 rfl rfl rfl _ (fun hc => ex_ld rfl (ev (Ydk.a 81 rfl) hc) ((HM.out x6 hx6).ldLast)) fun Ydl Ydm => ?_;clear Ydk
 refine Ydm.g 80 rfl rfl rfl (.bool (decide (m.ls < 0))) (fun hc => ex_bin rfl (ev (Ydm.a 82 rfl) hc) rfl (lssC _ _ _ _ _)) fun Ydn Ydo => ?_;clear Ydm
 refine Ydo.g 80 rfl rfl rfl _ (fun hc => ex_move rfl (ev (Ydo.a 83 rfl) hc)) fun Ydp Ydq => ?_;clear Ydo
 refine Ydq.g 84 rfl rfl rfl _ (fun hc => ex_fa rfl (Ydq.f 5) (MBox.faLast _ _)) fun Ydr Yds => ?_;clear Ydq
 refine Yds.g 84 rfl rfl rfl _ (fun hc => ex_ld rfl (ev (Yds.a 85 rfl) hc) ((HM.out x6 hx6).ldLast)) fun Ydt Ydu => ?_;clear Yds
 refine Ydu.g 84 rfl rfl rfl _ (fun hc => ex_fa rfl (Ydu.f 5) (MBox.faView _ _)) fun Ydv Ydw => ?_;clear Ydu
 refine Ydw.g 84 rfl rfl rfl _ (fun hc => ex_ld rfl (ev (Ydw.a 87 rfl) hc) ((HM.out x6 hx6).ldView)) fun Ydx Ydy => ?_;clear Ydw
 refine Ydy.g 84 rfl rfl rfl (.bool (decide (m.vw ≤ m.ls))) (fun hc => ex_bin rfl (ev (Ydy.a 86 rfl) hc) (ev (Ydy.a 88 rfl) hc) (geqC _ _ _ _ _)) fun Ydz Yd0 => ?_;clear Ydy
 refine Yd0.g 80 rfl rfl rfl (.bool ((decide (m.ls < 0)) || (decide (m.vw ≤ m.ls)))) (fun hc => ex_or rfl (Yd0.a 84 rfl) (Yd0.a 89 rfl) hc) fun Yd1 Yd2 => ?_;clear Yd0
 refine Yd2.t (.bool (u2 && ((decide (m.ls < 0)) || (decide (m.vw ≤ m.ls))))) (ex_and rfl (Yd2.a 80 rfl) (Yd2.a 90 rfl) rfl) fun _ Yd3 => ?_;clear Yd2
 have hz:=Yd3.z;have s2:=Yd3.a 2 rfl;have s3:=Yd3.a 3 rfl;have s4:=Yd3.a 4 rfl;have s5:=Yd3.a 5 rfl;have s9:=Yd3.a 9 rfl;have s91:=Yd3.a 91 rfl;clear Yd3;refine wpList_nil ?_
 go_upto_region 10 with fail
 cases e8 : (u2 && ((decide (m.ls < 0)) || (decide (m.vw ≤ m.ls))))
 rotate_left
 ·refine wp_cond_true ((ev s91 rfl).trans (congrArg Value.bool e8)) ?_
  have HV:=hide (HB.out _ hx6);have V2:=hide (show fiG f r m L D k u0 u1 u2 u3 u4 u5 u6 u7 u8 u9 = false from by unfold fiG;rw [if_neg (Bool.eq_false_iff.1 e2)];rw [if_neg (Bool.eq_false_iff.1 e4)];rw [if_neg (Bool.eq_false_iff.1 e6)];rw [if_pos e8])
  go_wp2
  refine bodyPost_ret (results_tmp rfl _ _ _) rfl ⟨?_,HV.out⟩;rw [V2.out]
  show Ending.returned ((Array.setIfInBounds _ 8 (Value.bool false)).getD 8 undef) = _
  rw [getD_of (at_set _ (by rw [hz];decide))]
 refine wp_cond_false ((ev s91 rfl).trans (congrArg Value.bool e8)) ?_
 go_upto_region 10 with fail
 clear s91;refine wp_region_lit ?_;have Yd4:=(((((Rp.nil hz).cons s2).cons s3).cons s4).cons s5).cons s9;clear hz s2 s3 s4 s5 s9
 refine Yd4.t _ (ex_move rfl (Yd4.f 3)) fun _ Yd5 => ?_;clear Yd4
 refine Yd5.t (.pointer (some ⟨g,3,none⟩)) (ex_ix rfl (Yd5.f 92) rfl (ixBool g 3 10 cu (by decide) _)) fun _ Yd6 => ?_;clear Yd5
 refine Yd6.t _ (ex_ld rfl (Yd6.f 93) (ldBool (HU.out x6 hx6 3 _ rfl))) fun _ Yd7 => ?_;clear Yd6
 refine Yd7.t _ (ex_move rfl (Yd7.f 94)) fun _ Yd8 => ?_;clear Yd7
 refine Yd8.g 95 rfl rfl rfl _ (fun hc => ex_fa rfl (Yd8.f 5) (MBox.faPlace _ _)) fun Yd9 Yea => ?_;clear Yd8
 refine Yea.g 95 rfl rfl rfl _ (fun hc => ex_ld rfl (ev (Yea.a 96 rfl) hc) ((HM.out x6 hx6).ldPlace)) fun Yeb Yec => ?_;clear Yea
 refine Yec.g 95 rfl rfl rfl (.bool (decide (m.p < 0))) (fun hc => ex_bin rfl (ev (Yec.a 97 rfl) hc) rfl (lssC _ _ _ _ _)) fun Yed Yee => ?_;clear Yec
 refine Yee.g 95 rfl rfl rfl _ (fun hc => ex_move rfl (ev (Yee.a 98 rfl) hc)) fun Yef Yeg => ?_;clear Yee
 refine Yeg.g 99 rfl rfl rfl _ (fun hc => ex_fa rfl (Yeg.f 5) (MBox.faPlace _ _)) fun Yeh Yei => ?_;clear Yeg
 refine Yei.g 99 rfl rfl rfl _ (fun hc => ex_ld rfl (ev (Yei.a 100 rfl) hc) ((HM.out x6 hx6).ldPlace)) fun Yej Yek => ?_;clear Yei
 refine Yek.g 99 rfl rfl rfl _ (fun hc => ex_fa rfl (Yek.f 4) (CBox.fa1 _ _)) fun Yel Yem => ?_;clear Yek
 refine Yem.g 99 rfl rfl rfl _ (fun hc => ex_ld rfl (ev (Yem.a 102 rfl) hc) ((HC.out x6 hx6).ld1)) fun Yen Yeo => ?_;clear Yem
 refine Yeo.g 99 rfl rfl rfl (.bool (decide (r < m.p))) (fun hc => ex_bin rfl (ev (Yeo.a 101 rfl) hc) (ev (Yeo.a 103 rfl) hc) (gtrC _ _ _ _ _)) fun Yep Yeq => ?_;clear Yeo
 refine Yeq.g 95 rfl rfl rfl (.bool ((decide (m.p < 0)) || (decide (r < m.p)))) (fun hc => ex_or rfl (Yeq.a 99 rfl) (Yeq.a 104 rfl) hc) fun Yer Yes => ?_;clear Yeq
 refine Yes.g 95 rfl rfl rfl _ (fun hc => ex_move rfl (ev (Yes.a 105 rfl) hc)) fun Yet Yeu => ?_;clear Yes
 refine Yeu.g 106 rfl rfl rfl _ (fun hc => ex_move rfl (Yeu.f 2)) fun Yev Yew => ?_;clear Yeu
 refine Yew.g 106 rfl rfl rfl (.bool (decide (k = 3))) (fun hc => ex_bin rfl (ev (Yew.a 107 rfl) hc) rfl (eqlC _ _ _ _ _)) fun Yex Yey => ?_;clear Yew
 refine Yey.g 106 rfl rfl rfl _ (fun hc => ex_move rfl (ev (Yey.a 108 rfl) hc)) fun Yez Ye0 => ?_;clear Yey
 refine Ye0.g 109 rfl rfl rfl _ (fun hc => ex_fa rfl (Ye0.f 5) (MBox.faPlace _ _)) fun Ye1 Ye2 => ?_;clear Ye0
 refine Ye2.g 109 rfl rfl rfl _ (fun hc => ex_ld rfl (ev (Ye2.a 110 rfl) hc) ((HM.out x6 hx6).ldPlace)) fun Ye3 Ye4 => ?_;clear Ye2
 refine Ye4.g 109 rfl rfl rfl (.bool (decide (m.p < 1))) (fun hc => ex_bin rfl (ev (Ye4.a 111 rfl) hc) rfl (lssC _ _ _ _ _)) fun Ye5 Ye6 => ?_;clear Ye4
 refine Ye6.g 106 rfl rfl rfl (.bool ((decide (k = 3)) && (decide (m.p < 1)))) (fun hc => ex_and rfl (Ye6.a 109 rfl) (Ye6.a 112 rfl) hc) fun Ye7 Ye8 => ?_;clear Ye6
 refine Ye8.g 95 rfl rfl rfl (.bool (((decide (m.p < 0)) || (decide (r < m.p))) || ((decide (k = 3)) && (decide (m.p < 1))))) (fun hc => ex_or rfl (Ye8.a 106 rfl) (Ye8.a 113 rfl) hc) fun Ye9 Yfa => ?_;clear Ye8
 refine Yfa.g 95 rfl rfl rfl _ (fun hc => ex_move rfl (ev (Yfa.a 114 rfl) hc)) fun Yfb Yfc => ?_;clear Yfa
 refine Yfc.g 115 rfl rfl rfl _ (fun hc => ex_move rfl (Yfc.f 2)) fun Yfd Yfe => ?_;clear Yfc
 refine Yfe.g 115 rfl rfl rfl (.bool (decide (k = 2))) (fun hc => ex_bin rfl (ev (Yfe.a 116 rfl) hc) rfl (eqlC _ _ _ _ _)) fun Yff Yfg => ?_;clear Yfe
 refine Yfg.g 115 rfl rfl rfl _ (fun hc => ex_move rfl (ev (Yfg.a 117 rfl) hc)) fun Yfh Yfi => ?_;clear Yfg
 refine Yfi.g 118 rfl rfl rfl _ (fun hc => ex_fa rfl (Yfi.f 5) (MBox.faPlace _ _)) fun Yfj Yfk => ?_;clear Yfi
 refine Yfk.g 118 rfl rfl rfl _ (fun hc => ex_ld rfl (ev (Yfk.a 119 rfl) hc) ((HM.out x6 hx6).ldPlace)) fun Yfl Yfm => ?_;clear Yfk
 refine Yfm.g 118 rfl rfl rfl (.bool (decide (m.p = 0))) (fun hc => ex_bin rfl (ev (Yfm.a 120 rfl) hc) rfl (eqlC _ _ _ _ _)) fun Yfn Yfo => ?_;clear Yfm
 refine Yfo.g 118 rfl rfl rfl _ (fun hc => ex_fa rfl (Yfo.f 5) (MBox.faResult _ _)) fun Yfp Yfq => ?_;clear Yfo
 refine Yfq.g 118 rfl rfl rfl _ (fun hc => ex_fa rfl (ev (Yfq.a 122 rfl) hc) (faCode _ _)) fun Yfr Yfs => ?_;clear Yfq
 refine Yfs.g 118 rfl rfl rfl _ (fun hc => ex_ld rfl (ev (Yfs.a 123 rfl) hc) (s_ldCode (HM.out x6 hx6))) fun Yft Yfu => ?_;clear Yfs
 refine Yfu.g 118 rfl rfl rfl (.bool (decide (m.r.1 = 7))) (fun hc => ex_bin rfl (ev (Yfu.a 124 rfl) hc) rfl (eqlC _ _ _ _ _)) fun Yfv Yfw => ?_;clear Yfu
 refine Yfw.g 118 rfl rfl rfl (.bool ((decide (m.p = 0)) != (decide (m.r.1 = 7)))) (fun hc => ex_bin rfl (ev (Yfw.a 121 rfl) hc) (ev (Yfw.a 125 rfl) hc) (neqB _ _ _ _ _)) fun Yfx Yfy => ?_;clear Yfw
 refine Yfy.g 115 rfl rfl rfl (.bool ((decide (k = 2)) && ((decide (m.p = 0)) != (decide (m.r.1 = 7))))) (fun hc => ex_and rfl (Yfy.a 118 rfl) (Yfy.a 126 rfl) hc) fun Yfz Yf0 => ?_;clear Yfy
 refine Yf0.g 95 rfl rfl rfl (.bool ((((decide (m.p < 0)) || (decide (r < m.p))) || ((decide (k = 3)) && (decide (m.p < 1)))) || ((decide (k = 2)) && ((decide (m.p = 0)) != (decide (m.r.1 = 7)))))) (fun hc => ex_or rfl (Yf0.a 115 rfl) (Yf0.a 127 rfl) hc) fun Yf1 Yf2 => ?_;clear Yf0
 refine Yf2.t (.bool (u3 && ((((decide (m.p < 0)) || (decide (r < m.p))) || ((decide (k = 3)) && (decide (m.p < 1)))) || ((decide (k = 2)) && ((decide (m.p = 0)) != (decide (m.r.1 = 7))))))) (ex_and rfl (Yf2.a 95 rfl) (Yf2.a 128 rfl) rfl) fun _ Yf3 => ?_;clear Yf2
 have hz:=Yf3.z;have s2:=Yf3.a 2 rfl;have s3:=Yf3.a 3 rfl;have s4:=Yf3.a 4 rfl;have s5:=Yf3.a 5 rfl;have s9:=Yf3.a 9 rfl;have s129:=Yf3.a 129 rfl;clear Yf3;refine wpList_nil ?_
 go_upto_region 12 with fail
 cases e10 : (u3 && ((((decide (m.p < 0)) || (decide (r < m.p))) || ((decide (k = 3)) && (decide (m.p < 1)))) || ((decide (k = 2)) && ((decide (m.p = 0)) != (decide (m.r.1 = 7))))))
 rotate_left
 ·refine wp_cond_true ((ev s129 rfl).trans (congrArg Value.bool e10)) ?_
  have HV:=hide (HB.out _ hx6);have V2:=hide (show fiG f r m L D k u0 u1 u2 u3 u4 u5 u6 u7 u8 u9 = false from by unfold fiG;rw [if_neg (Bool.eq_false_iff.1 e2)];rw [if_neg (Bool.eq_false_iff.1 e4)];rw [if_neg (Bool.eq_false_iff.1 e6)];rw [if_neg (Bool.eq_false_iff.1 e8)];rw [if_pos e10])
  go_wp2
  refine bodyPost_ret (results_tmp rfl _ _ _) rfl ⟨?_,HV.out⟩;rw [V2.out]
  show Ending.returned ((Array.setIfInBounds _ 8 (Value.bool false)).getD 8 undef) = _
  rw [getD_of (at_set _ (by rw [hz];decide))]
 refine wp_cond_false ((ev s129 rfl).trans (congrArg Value.bool e10)) ?_
 go_upto_region 12 with fail
 clear s129;refine wp_region_lit ?_;have Yf4:=(((((Rp.nil hz).cons s2).cons s3).cons s4).cons s5).cons s9;clear hz s2 s3 s4 s5 s9
 refine Yf4.t _ (ex_move rfl (Yf4.f 3)) fun _ Yf5 => ?_;clear Yf4
 refine Yf5.t (.pointer (some ⟨g,8,none⟩)) (ex_ix rfl (Yf5.f 130) rfl (ixBool g 8 10 cu (by decide) _)) fun _ Yf6 => ?_;clear Yf5
 refine Yf6.t _ (ex_ld rfl (Yf6.f 131) (ldBool (HU.out x6 hx6 8 _ rfl))) fun _ Yf7 => ?_;clear Yf6
 refine Yf7.t _ (ex_move rfl (Yf7.f 132)) fun _ Yf8 => ?_;clear Yf7
 refine Yf8.g 133 rfl rfl rfl _ (fun hc => ex_fa rfl (Yf8.f 5) (MBox.faLog _ _)) fun Yf9 Yga => ?_;clear Yf8
 refine Yga.g 133 rfl rfl rfl _ (fun hc => ex_ld rfl (ev (Yga.a 134 rfl) hc) ((HM.out x6 hx6).ldLog)) fun Ygb Ygc => ?_;clear Yga
 refine Ygc.g 133 rfl rfl rfl _ (fun hc => ex_fa rfl (Ygc.f 4) (CBox.fa1 _ _)) fun Ygd Yge => ?_;clear Ygc
 refine Yge.g 133 rfl rfl rfl _ (fun hc => ex_ld rfl (ev (Yge.a 136 rfl) hc) ((HC.out x6 hx6).ld1)) fun Ygf Ygg => ?_;clear Yge
 refine vcall (true && (u8 == true)) (.int .i64 (lg L r)) (want_g rfl rfl (Ygg.a 133 rfl)) (fun hc => ex_call rfl (by simp only [List.map_toArray,List.map_cons,List.map_nil,(ev (Ygg.a 135 rfl) hc),(ev (Ygg.a 137 rfl) hc),evc] <;> rfl) rfl) (fun hc => HL.out x6 hx6) rfl Ygg.z (by decide) (Ygg.kc fun Ygh w2 hb Ygi => ?_);clear Ygg;have hv2:=hx6.trans (hb.mono hx6.size);clear hb
 refine Ygi.g 133 rfl rfl rfl (.bool (!decide ((lg L r) = 0))) (fun hc => ex_bin rfl (ev (Ygi.a 138 rfl) hc) rfl (neqC _ _ _ _ _)) fun Ygj Ygk => ?_;clear Ygi
 refine Ygk.t (.bool (u8 && (!decide ((lg L r) = 0)))) (ex_and rfl (Ygk.a 133 rfl) (Ygk.a 139 rfl) rfl) fun _ Ygl => ?_;clear Ygk
 have hz:=Ygl.z;have s2:=Ygl.a 2 rfl;have s3:=Ygl.a 3 rfl;have s4:=Ygl.a 4 rfl;have s5:=Ygl.a 5 rfl;have s9:=Ygl.a 9 rfl;have s140:=Ygl.a 140 rfl;clear Ygl;refine wpList_nil ?_
 go_upto_region 14 with fail
 cases e12 : (u8 && (!decide ((lg L r) = 0)))
 rotate_left
 ·refine wp_cond_true ((ev s140 rfl).trans (congrArg Value.bool e12)) ?_
  have HV:=hide (HB.out _ hv2);have V2:=hide (show fiG f r m L D k u0 u1 u2 u3 u4 u5 u6 u7 u8 u9 = false from by unfold fiG;rw [if_neg (Bool.eq_false_iff.1 e2)];rw [if_neg (Bool.eq_false_iff.1 e4)];rw [if_neg (Bool.eq_false_iff.1 e6)];rw [if_neg (Bool.eq_false_iff.1 e8)];rw [if_neg (Bool.eq_false_iff.1 e10)];rw [if_pos e12])
  go_wp2
  refine bodyPost_ret (results_tmp rfl _ _ _) rfl ⟨?_,HV.out⟩;rw [V2.out]
  show Ending.returned ((Array.setIfInBounds _ 8 (Value.bool false)).getD 8 undef) = _
  rw [getD_of (at_set _ (by rw [hz];decide))]
 refine wp_cond_false ((ev s140 rfl).trans (congrArg Value.bool e12)) ?_
 go_upto_region 14 with fail
 clear s140;refine wp_region_lit ?_;have Ygm:=(((((Rp.nil hz).cons s2).cons s3).cons s4).cons s5).cons s9;clear hz s2 s3 s4 s5 s9
 refine Ygm.t _ (ex_move rfl (Ygm.f 3)) fun _ Ygn => ?_;clear Ygm
 refine Ygn.t (.pointer (some ⟨g,4,none⟩)) (ex_ix rfl (Ygn.f 141) rfl (ixBool g 4 10 cu (by decide) _)) fun _ Ygo => ?_;clear Ygn
 refine Ygo.t _ (ex_ld rfl (Ygo.f 142) (ldBool (HU.out w2 hv2 4 _ rfl))) fun _ Ygp => ?_;clear Ygo
 refine Ygp.t _ (ex_move rfl (Ygp.f 143)) fun _ Ygq => ?_;clear Ygp
 refine Ygq.g 144 rfl rfl rfl _ (fun hc => ex_fa rfl (Ygq.f 5) (MBox.faCommit _ _)) fun Ygr Ygs => ?_;clear Ygq
 refine Ygs.g 144 rfl rfl rfl _ (fun hc => ex_ld rfl (ev (Ygs.a 145 rfl) hc) ((HM.out w2 hv2).ldCommit)) fun Ygt Ygu => ?_;clear Ygs
 refine Ygu.g 144 rfl rfl rfl (.bool (decide (m.cm < 0))) (fun hc => ex_bin rfl (ev (Ygu.a 146 rfl) hc) rfl (lssC _ _ _ _ _)) fun Ygv Ygw => ?_;clear Ygu
 refine Ygw.g 144 rfl rfl rfl _ (fun hc => ex_move rfl (ev (Ygw.a 147 rfl) hc)) fun Ygx Ygy => ?_;clear Ygw
 refine Ygy.g 148 rfl rfl rfl _ (fun hc => ex_fa rfl (Ygy.f 5) (MBox.faCommit _ _)) fun Ygz Yg0 => ?_;clear Ygy
 refine Yg0.g 148 rfl rfl rfl _ (fun hc => ex_ld rfl (ev (Yg0.a 149 rfl) hc) ((HM.out w2 hv2).ldCommit)) fun Yg1 Yg2 => ?_;clear Yg0
 refine Yg2.g 148 rfl rfl rfl _ (fun hc => ex_fa rfl (Yg2.f 4) (CBox.fa1 _ _)) fun Yg3 Yg4 => ?_;clear Yg2
 refine Yg4.g 148 rfl rfl rfl _ (fun hc => ex_ld rfl (ev (Yg4.a 151 rfl) hc) ((HC.out w2 hv2).ld1)) fun Yg5 Yg6 => ?_;clear Yg4
 refine Yg6.g 148 rfl rfl rfl (.bool (decide (r < m.cm))) (fun hc => ex_bin rfl (ev (Yg6.a 150 rfl) hc) (ev (Yg6.a 152 rfl) hc) (gtrC _ _ _ _ _)) fun Yg7 Yg8 => ?_;clear Yg6
 refine Yg8.g 144 rfl rfl rfl (.bool ((decide (m.cm < 0)) || (decide (r < m.cm)))) (fun hc => ex_or rfl (Yg8.a 148 rfl) (Yg8.a 153 rfl) hc) fun Yg9 Yha => ?_;clear Yg8
 refine Yha.g 144 rfl rfl rfl _ (fun hc => ex_move rfl (ev (Yha.a 154 rfl) hc)) fun Yhb Yhc => ?_;clear Yha
 refine Yhc.g 155 rfl rfl rfl _ (fun hc => ex_move rfl (Yhc.f 3)) fun Yhd Yhe => ?_;clear Yhc
 refine Yhe.g 155 rfl rfl rfl (.pointer (some ⟨g,8,none⟩)) (fun hc => ex_ix rfl (ev (Yhe.a 156 rfl) hc) rfl (ixBool g 8 10 cu (by decide) _)) fun Yhf Yhg => ?_;clear Yhe
 refine Yhg.g 155 rfl rfl rfl _ (fun hc => ex_ld rfl (ev (Yhg.a 157 rfl) hc) (ldBool (HU.out w2 hv2 8 _ rfl))) fun Yhh Yhi => ?_;clear Yhg
 refine Yhi.g 155 rfl rfl rfl _ (fun hc => ex_move rfl (ev (Yhi.a 158 rfl) hc)) fun Yhj Yhk => ?_;clear Yhi
 refine Yhk.g 159 rfl rfl rfl _ (fun hc => ex_fa rfl (Yhk.f 5) (MBox.faCommit _ _)) fun Yhl Yhm => ?_;clear Yhk
 refine Yhm.g 159 rfl rfl rfl _ (fun hc => ex_ld rfl (ev (Yhm.a 160 rfl) hc) ((HM.out w2 hv2).ldCommit)) fun Yhn Yho => ?_;clear Yhm
 refine Yho.g 159 rfl rfl rfl _ (fun hc => ex_fa rfl (Yho.f 5) (MBox.faLog _ _)) fun Yhp Yhq => ?_;clear Yho
 refine Yhq.g 159 rfl rfl rfl _ (fun hc => ex_ld rfl (ev (Yhq.a 162 rfl) hc) ((HM.out w2 hv2).ldLog)) fun Yhr Yhs => ?_;clear Yhq
 refine Yhs.g 159 rfl rfl rfl _ (fun hc => ex_lenE rfl rfl (ev (Yhs.a 163 rfl) hc)) fun Yht Yhu => ?_;clear Yhs
 refine Yhu.g 159 rfl rfl rfl (.bool (decide (((L.length : Nat) : Int) < m.cm))) (fun hc => ex_bin rfl (ev (Yhu.a 161 rfl) hc) (ev (Yhu.a 164 rfl) hc) (gtrC _ _ _ _ _)) fun Yhv Yhw => ?_;clear Yhu
 refine Yhw.g 155 rfl rfl rfl (.bool (u8 && (decide (((L.length : Nat) : Int) < m.cm)))) (fun hc => ex_and rfl (Yhw.a 159 rfl) (Yhw.a 165 rfl) hc) fun Yhx Yhy => ?_;clear Yhw
 refine Yhy.g 144 rfl rfl rfl (.bool (((decide (m.cm < 0)) || (decide (r < m.cm))) || (u8 && (decide (((L.length : Nat) : Int) < m.cm))))) (fun hc => ex_or rfl (Yhy.a 155 rfl) (Yhy.a 166 rfl) hc) fun Yhz Yh0 => ?_;clear Yhy
 refine Yh0.t (.bool (u4 && (((decide (m.cm < 0)) || (decide (r < m.cm))) || (u8 && (decide (((L.length : Nat) : Int) < m.cm)))))) (ex_and rfl (Yh0.a 144 rfl) (Yh0.a 167 rfl) rfl) fun _ Yh1 => ?_;clear Yh0
 have hz:=Yh1.z;have s2:=Yh1.a 2 rfl;have s3:=Yh1.a 3 rfl;have s4:=Yh1.a 4 rfl;have s5:=Yh1.a 5 rfl;have s9:=Yh1.a 9 rfl;have s168:=Yh1.a 168 rfl;clear Yh1;refine wpList_nil ?_
 go_upto_region 16 with fail
 cases e14 : (u4 && (((decide (m.cm < 0)) || (decide (r < m.cm))) || (u8 && (decide (((L.length : Nat) : Int) < m.cm)))))
 rotate_left
 ·refine wp_cond_true ((ev s168 rfl).trans (congrArg Value.bool e14)) ?_
  have HV:=hide (HB.out _ hv2);have V2:=hide (show fiG f r m L D k u0 u1 u2 u3 u4 u5 u6 u7 u8 u9 = false from by unfold fiG;rw [if_neg (Bool.eq_false_iff.1 e2)];rw [if_neg (Bool.eq_false_iff.1 e4)];rw [if_neg (Bool.eq_false_iff.1 e6)];rw [if_neg (Bool.eq_false_iff.1 e8)];rw [if_neg (Bool.eq_false_iff.1 e10)];rw [if_neg (Bool.eq_false_iff.1 e12)];rw [if_pos e14])
  go_wp2
  refine bodyPost_ret (results_tmp rfl _ _ _) rfl ⟨?_,HV.out⟩;rw [V2.out]
  show Ending.returned ((Array.setIfInBounds _ 8 (Value.bool false)).getD 8 undef) = _
  rw [getD_of (at_set _ (by rw [hz];decide))]
 refine wp_cond_false ((ev s168 rfl).trans (congrArg Value.bool e14)) ?_
 go_upto_region 16 with fail
 clear s168;refine vq_start (C:=fun v => Below w1.heap.size w1 v) (by kernel_rfl) (by kernel_rfl) (belN hv2 1) ?_;have Yh2:=(((((Rp.nil hz).cons s2).cons s3).cons s4).cons s5).cons s9;clear hz s2 s3 s4 s5 s9
 refine Yh2.q _ (fun v hv => ex_move rfl (Yh2.f 2)) fun _ Yh3 => ?_;clear Yh2
 refine Yh3.q (.bool (decide (k = 10))) (fun v hv => ex_bin rfl (Yh3.f 169) rfl (eqlC _ _ _ _ _)) fun _ Yh4 => ?_;clear Yh3
 refine Yh4.q _ (fun v hv => ex_move rfl (Yh4.f 170)) fun _ Yh5 => ?_;clear Yh4
 refine Yh5.gq 171 rfl rfl rfl _ (fun hc v hv => ex_fa rfl (Yh5.f 5) (MBox.faLog _ _)) fun Yh6 Yh7 => ?_;clear Yh5
 refine Yh7.gq 171 rfl rfl rfl _ (fun hc v hv => ex_ld rfl (ev (Yh7.a 172 rfl) hc) ((HM.out v hv).ldLog)) fun Yh8 Yh9 => ?_;clear Yh7
 refine Yh9.gq 171 rfl rfl rfl _ (fun hc v hv => ex_lenE rfl rfl (ev (Yh9.a 173 rfl) hc)) fun Yia Yib => ?_;clear Yh9
 refine Yib.gq 171 rfl rfl rfl (.bool (decide (0 < ((L.length : Nat) : Int)))) (fun hc v hv => ex_bin rfl (ev (Yib.a 174 rfl) hc) rfl (gtrC _ _ _ _ _)) fun Yic Yid => ?_;clear Yib
 refine Yid.q (.bool ((decide (k = 10)) && (decide (0 < ((L.length : Nat) : Int))))) (fun v hv => ex_and rfl (Yid.a 171 rfl) (Yid.a 175 rfl) rfl) fun _ Yie => ?_;clear Yid
 refine Yie.q _ (fun v hv => ex_move rfl (Yie.f 176)) fun _ Yif => ?_;clear Yie
 refine Yif.gq 177 rfl rfl rfl _ (fun hc v hv => ex_fa rfl (Yif.f 5) (MBox.faNode _ _)) fun Yig Yih => ?_;clear Yif
 refine Yih.gq 177 rfl rfl rfl _ (fun hc v hv => ex_ld rfl (ev (Yih.a 178 rfl) hc) ((HM.out v hv).ldNode)) fun Yii Yij => ?_;clear Yih
 refine Yij.gq 177 rfl rfl rfl _ (fun hc v hv => ex_fa rfl (Yij.f 5) (MBox.faView _ _)) fun Yik Yil => ?_;clear Yij
 refine Yil.gq 177 rfl rfl rfl _ (fun hc v hv => ex_ld rfl (ev (Yil.a 180 rfl) hc) ((HM.out v hv).ldView)) fun Yim Yin => ?_;clear Yil
 refine Yin.gq 177 rfl rfl rfl _ (fun hc v hv => ex_move rfl (Yin.f 9)) fun Yio Yip => ?_;clear Yin
 refine Yip.gq 177 rfl rfl rfl (.int .i64 ((m.vw).tmod ((2 * f + 1)))) (fun hc v hv => ex_bin rfl (ev (Yip.a 181 rfl) hc) (ev (Yip.a 182 rfl) hc) (remC HN.out _ _ _ _)) fun Yiq Yir => ?_;clear Yip
 refine Yir.gq 177 rfl rfl rfl (.bool (!decide (m.nd = ((m.vw).tmod ((2 * f + 1)))))) (fun hc v hv => ex_bin rfl (ev (Yir.a 179 rfl) hc) (ev (Yir.a 183 rfl) hc) (neqC _ _ _ _ _)) fun Yis Yit => ?_;clear Yir
 refine Yit.q (.bool (((decide (k = 10)) && (decide (0 < ((L.length : Nat) : Int)))) && (!decide (m.nd = ((m.vw).tmod ((2 * f + 1))))))) (fun v hv => ex_and rfl (Yit.a 177 rfl) (Yit.a 184 rfl) rfl) fun _ Yiu => ?_;clear Yit
 have hz:=Yiu.z;have s2:=Yiu.a 2 rfl;have s3:=Yiu.a 3 rfl;have s4:=Yiu.a 4 rfl;have s5:=Yiu.a 5 rfl;have s9:=Yiu.a 9 rfl;have s185:=Yiu.a 185 rfl;clear Yiu;refine vq_nil (fun x16 hx16 => ?_)
 go_upto_region 18 with fail
 cases e16 : (((decide (k = 10)) && (decide (0 < ((L.length : Nat) : Int)))) && (!decide (m.nd = ((m.vw).tmod ((2 * f + 1))))))
 rotate_left
 ·refine wp_cond_true ((ev s185 rfl).trans (congrArg Value.bool e16)) ?_
  have HV:=hide (HB.out _ hx16);have V2:=hide (show fiG f r m L D k u0 u1 u2 u3 u4 u5 u6 u7 u8 u9 = false from by unfold fiG;rw [if_neg (Bool.eq_false_iff.1 e2)];rw [if_neg (Bool.eq_false_iff.1 e4)];rw [if_neg (Bool.eq_false_iff.1 e6)];rw [if_neg (Bool.eq_false_iff.1 e8)];rw [if_neg (Bool.eq_false_iff.1 e10)];rw [if_neg (Bool.eq_false_iff.1 e12)];rw [if_neg (Bool.eq_false_iff.1 e14)];rw [if_pos e16])
  go_wp2
  refine bodyPost_ret (results_tmp rfl _ _ _) rfl ⟨?_,HV.out⟩;rw [V2.out]
  show Ending.returned ((Array.setIfInBounds _ 8 (Value.bool false)).getD 8 undef) = _
  rw [getD_of (at_set _ (by rw [hz];decide))]
 refine wp_cond_false ((ev s185 rfl).trans (congrArg Value.bool e16)) ?_
 go_upto_region 18 with fail
 clear s185;refine wp_region_lit ?_;have Yiv:=(((((Rp.nil hz).cons s2).cons s3).cons s4).cons s5).cons s9;clear hz s2 s3 s4 s5 s9
 refine Yiv.t _ (ex_move rfl (Yiv.f 3)) fun _ Yiw => ?_;clear Yiv
 refine Yiw.t (.pointer (some ⟨g,9,none⟩)) (ex_ix rfl (Yiw.f 186) rfl (ixBool g 9 10 cu (by decide) _)) fun _ Yix => ?_;clear Yiw
 refine Yix.t _ (ex_ld rfl (Yix.f 187) (ldBool (HU.out x16 hx16 9 _ rfl))) fun _ Yiy => ?_;clear Yix
 refine Yiy.t _ (ex_move rfl (Yiy.f 188)) fun _ Yiz => ?_;clear Yiy
 refine Yiz.g 189 rfl rfl rfl _ (fun hc => ex_fa rfl (Yiz.f 5) (MBox.faVector _ _)) fun Yi0 Yi1 => ?_;clear Yiz
 refine Yi1.g 189 rfl rfl rfl _ (fun hc => ex_ld rfl (ev (Yi1.a 190 rfl) hc) ((HM.out x16 hx16).ldVector)) fun Yi2 Yi3 => ?_;clear Yi1
 refine Yi3.g 189 rfl rfl rfl _ (fun hc => ex_lenV rfl rfl (ev (Yi3.a 191 rfl) hc)) fun Yi4 Yi5 => ?_;clear Yi3
 refine Yi5.g 189 rfl rfl rfl _ (fun hc => ex_move rfl (Yi5.f 9)) fun Yi6 Yi7 => ?_;clear Yi5
 refine Yi7.g 189 rfl rfl rfl (.bool (!decide (((D.length : Nat) : Int) = (2 * f + 1)))) (fun hc => ex_bin rfl (ev (Yi7.a 192 rfl) hc) (ev (Yi7.a 193 rfl) hc) (neqC _ _ _ _ _)) fun Yi8 Yi9 => ?_;clear Yi7
 refine Yi9.t (.bool (u9 && (!decide (((D.length : Nat) : Int) = (2 * f + 1))))) (ex_and rfl (Yi9.a 189 rfl) (Yi9.a 194 rfl) rfl) fun _ Yja => ?_;clear Yi9
 have hz:=Yja.z;have s2:=Yja.a 2 rfl;have s3:=Yja.a 3 rfl;have s4:=Yja.a 4 rfl;have s5:=Yja.a 5 rfl;have s9:=Yja.a 9 rfl;have s195:=Yja.a 195 rfl;clear Yja;refine wpList_nil ?_
 go_upto_region 20 with fail
 cases e18 : (u9 && (!decide (((D.length : Nat) : Int) = (2 * f + 1))))
 rotate_left
 ·refine wp_cond_true ((ev s195 rfl).trans (congrArg Value.bool e18)) ?_
  have HV:=hide (HB.out _ hx16);have V2:=hide (show fiG f r m L D k u0 u1 u2 u3 u4 u5 u6 u7 u8 u9 = false from by unfold fiG;rw [if_neg (Bool.eq_false_iff.1 e2)];rw [if_neg (Bool.eq_false_iff.1 e4)];rw [if_neg (Bool.eq_false_iff.1 e6)];rw [if_neg (Bool.eq_false_iff.1 e8)];rw [if_neg (Bool.eq_false_iff.1 e10)];rw [if_neg (Bool.eq_false_iff.1 e12)];rw [if_neg (Bool.eq_false_iff.1 e14)];rw [if_neg (Bool.eq_false_iff.1 e16)];rw [if_pos e18])
  go_wp2
  refine bodyPost_ret (results_tmp rfl _ _ _) rfl ⟨?_,HV.out⟩;rw [V2.out]
  show Ending.returned ((Array.setIfInBounds _ 8 (Value.bool false)).getD 8 undef) = _
  rw [getD_of (at_set _ (by rw [hz];decide))]
 refine wp_cond_false ((ev s195 rfl).trans (congrArg Value.bool e18)) ?_
 have HX : ∃ q2 o2,Hid (k = 9 → ∀ v,Below w1.heap.size w1 v → (Instr.indexAt 27 (.slice a2 D.length cv) (.int .i64 m.nd)).run Tryz.prog v = .ok (.pointer (some ⟨q2,o2 + m.nd.toNat * 2,none⟩)) v∧(Instr.loadAt 43 (.pointer (some ⟨q2,o2 + m.nd.toNat * 2,none⟩))).run Tryz.prog v = .ok (.agg #[.int .u64 (D.getD m.nd.toNat (0,0)).1,.int .u64 (D.getD m.nd.toNat (0,0)).2]) v):=by
  have z0 : Hid (k = 9 → 0 ≤ m.nd∧m.nd < (D.length : Int)):=fun hk => by
   obtain ⟨rfl,rfl⟩:=H9.out hk;clear HM HC HU HL HE HR HB;simp only [Bool.true_and,Bool.or_eq_false_iff,decide_eq_false_iff_not,Bool.not_eq_false',decide_eq_true_eq] at e2 e18
   omega
  exact HXm.out z0.out
 obtain ⟨q2,o2,HX⟩:=HX
 go_upto_region 20 with fail
 clear s195;refine vq_start (C:=fun v => Below w1.heap.size w1 v) (by kernel_rfl) (by kernel_rfl) (belN hx16 1) ?_;have Yjb:=(((((Rp.nil hz).cons s2).cons s3).cons s4).cons s5).cons s9;clear hz s2 s3 s4 s5 s9
 refine Yjb.q _ (fun v hv => ex_move rfl (Yjb.f 3)) fun _ Yjc => ?_;clear Yjb
 refine Yjc.q (.pointer (some ⟨g,5,none⟩)) (fun v hv => ex_ix rfl (Yjc.f 196) rfl (ixBool g 5 10 cu (by decide) _)) fun _ Yjd => ?_;clear Yjc
 refine Yjd.q _ (fun v hv => ex_ld rfl (Yjd.f 197) (ldBool (HU.out v hv 5 _ rfl))) fun _ Yje => ?_;clear Yjd
 refine Yje.q _ (fun v hv => ex_move rfl (Yje.f 198)) fun _ Yjf => ?_;clear Yje
 refine Yjf.gq 199 rfl rfl rfl _ (fun hc v hv => ex_fa rfl (Yjf.f 5) (MBox.faDraw _ _)) fun Yjg Yjh => ?_;clear Yjf
 refine Yjh.gq 199 rfl rfl rfl _ (fun hc v hv => ex_ld rfl (ev (Yjh.a 200 rfl) hc) ((HM.out v hv).ldDraw)) fun Yji Yjj => ?_;clear Yjh
 refine Yjj.gq 199 rfl rfl rfl (.agg #[.int .u64 0,.int .u64 0]) (fun hc v hv => ex_build rfl (buildDr _)) fun Yjk Yjl => ?_;clear Yjj
 refine Yjl.gq 199 rfl rfl rfl (.bool (decide (m.d = (0,0)))) (fun hc v hv => ex_bin rfl (ev (Yjl.a 201 rfl) hc) (ev (Yjl.a 202 rfl) hc) (eqlDr _ _ m.d (0,0) _)) fun Yjm Yjn => ?_;clear Yjl
 refine Yjn.q (.bool (u5 && (decide (m.d = (0,0))))) (fun v hv => ex_and rfl (Yjn.a 199 rfl) (Yjn.a 203 rfl) rfl) fun _ Yjo => ?_;clear Yjn
 refine Yjo.q _ (fun v hv => ex_move rfl (Yjo.f 204)) fun _ Yjp => ?_;clear Yjo
 refine Yjp.gq 205 rfl rfl rfl _ (fun hc v hv => ex_move rfl (Yjp.f 2)) fun Yjq Yjr => ?_;clear Yjp
 refine Yjr.gq 205 rfl rfl rfl (.bool (decide (k = 9))) (fun hc v hv => ex_bin rfl (ev (Yjr.a 206 rfl) hc) rfl (eqlC _ _ _ _ _)) fun Yjs Yjt => ?_;clear Yjr
 refine Yjt.gq 205 rfl rfl rfl _ (fun hc v hv => ex_move rfl (ev (Yjt.a 207 rfl) hc)) fun Yju Yjv => ?_;clear Yjt
 refine Yjv.gq 208 rfl rfl rfl _ (fun hc v hv => ex_fa rfl (Yjv.f 5) (MBox.faDraw _ _)) fun Yjw Yjx => ?_;clear Yjv
 refine Yjx.gq 208 rfl rfl rfl _ (fun hc v hv => ex_ld rfl (ev (Yjx.a 209 rfl) hc) ((HM.out v hv).ldDraw)) fun Yjy Yjz => ?_;clear Yjx
 refine Yjz.gq 208 rfl rfl rfl _ (fun hc v hv => ex_fa rfl (Yjz.f 5) (MBox.faVector _ _)) fun Yj0 Yj1 => ?_;clear Yjz
 refine Yj1.gq 208 rfl rfl rfl _ (fun hc v hv => ex_ld rfl (ev (Yj1.a 211 rfl) hc) ((HM.out v hv).ldVector)) fun Yj2 Yj3 => ?_;clear Yj1
 refine Yj3.gq 208 rfl rfl rfl _ (fun hc v hv => ex_fa rfl (Yj3.f 5) (MBox.faNode _ _)) fun Yj4 Yj5 => ?_;clear Yj3
 refine Yj5.gq 208 rfl rfl rfl _ (fun hc v hv => ex_ld rfl (ev (Yj5.a 213 rfl) hc) ((HM.out v hv).ldNode)) fun Yj6 Yj7 => ?_;clear Yj5
 refine Yj7.gq 208 rfl rfl rfl _ (fun hc v hv => ex_ix rfl (ev (Yj7.a 212 rfl) hc) (ev (Yj7.a 214 rfl) hc) (HX.out (of_decide_eq_true (and_r hc)) v hv).1) fun Yj8 Yj9 => ?_;clear Yj7
 refine Yj9.gq 208 rfl rfl rfl _ (fun hc v hv => ex_ld rfl (ev (Yj9.a 215 rfl) hc) (HX.out (of_decide_eq_true (and_r hc)) v hv).2) fun Yka Ykb => ?_;clear Yj9
 refine Ykb.gq 208 rfl rfl rfl (.bool (!decide (m.d = (D.getD m.nd.toNat (0,0))))) (fun hc v hv => ex_bin rfl (ev (Ykb.a 210 rfl) hc) (ev (Ykb.a 216 rfl) hc) (neqDr _ _ m.d (D.getD m.nd.toNat (0,0)) _)) fun Ykc Ykd => ?_;clear Ykb
 refine Ykd.gq 205 rfl rfl rfl (.bool ((decide (k = 9)) && (!decide (m.d = (D.getD m.nd.toNat (0,0)))))) (fun hc v hv => ex_and rfl (Ykd.a 208 rfl) (Ykd.a 217 rfl) hc) fun Yke Ykf => ?_;clear Ykd
 refine Ykf.q (.bool ((u5 && (decide (m.d = (0,0)))) || ((decide (k = 9)) && (!decide (m.d = (D.getD m.nd.toNat (0,0))))))) (fun v hv => ex_or rfl (Ykf.a 205 rfl) (Ykf.a 218 rfl) rfl) fun _ Ykg => ?_;clear Ykf
 have hz:=Ykg.z;have s2:=Ykg.a 2 rfl;have s3:=Ykg.a 3 rfl;have s4:=Ykg.a 4 rfl;have s5:=Ykg.a 5 rfl;have s9:=Ykg.a 9 rfl;have s219:=Ykg.a 219 rfl;clear Ykg;refine vq_nil (fun x20 hx20 => ?_)
 go_upto_region 22 with fail
 cases e20 : ((u5 && (decide (m.d = (0,0)))) || ((decide (k = 9)) && (!decide (m.d = (D.getD m.nd.toNat (0,0))))))
 rotate_left
 ·refine wp_cond_true ((ev s219 rfl).trans (congrArg Value.bool e20)) ?_
  have HV:=hide (HB.out _ hx20);have V2:=hide (show fiG f r m L D k u0 u1 u2 u3 u4 u5 u6 u7 u8 u9 = false from by unfold fiG;rw [if_neg (Bool.eq_false_iff.1 e2)];rw [if_neg (Bool.eq_false_iff.1 e4)];rw [if_neg (Bool.eq_false_iff.1 e6)];rw [if_neg (Bool.eq_false_iff.1 e8)];rw [if_neg (Bool.eq_false_iff.1 e10)];rw [if_neg (Bool.eq_false_iff.1 e12)];rw [if_neg (Bool.eq_false_iff.1 e14)];rw [if_neg (Bool.eq_false_iff.1 e16)];rw [if_neg (Bool.eq_false_iff.1 e18)];rw [if_pos e20])
  go_wp2
  refine bodyPost_ret (results_tmp rfl _ _ _) rfl ⟨?_,HV.out⟩;rw [V2.out]
  show Ending.returned ((Array.setIfInBounds _ 8 (Value.bool false)).getD 8 undef) = _
  rw [getD_of (at_set _ (by rw [hz];decide))]
 refine wp_cond_false ((ev s219 rfl).trans (congrArg Value.bool e20)) ?_
 go_upto_region 22 with fail
 clear s219;refine wp_region_lit ?_;have Ykh:=(((((Rp.nil hz).cons s2).cons s3).cons s4).cons s5).cons s9;clear hz s2 s3 s4 s5 s9
 refine Ykh.t _ (ex_move rfl (Ykh.f 2)) fun _ Yki => ?_;clear Ykh
 refine Yki.t (.bool (decide (k = 14))) (ex_bin rfl (Yki.f 220) rfl (eqlC _ _ _ _ _)) fun _ Ykj => ?_;clear Yki
 refine Ykj.t _ (ex_move rfl (Ykj.f 221)) fun _ Ykk => ?_;clear Ykj
 refine Ykk.g 222 rfl rfl rfl _ (fun hc => ex_fa rfl (Ykk.f 5) (MBox.faResult _ _)) fun Ykl Ykm => ?_;clear Ykk
 refine Ykm.g 222 rfl rfl rfl _ (fun hc => ex_fa rfl (ev (Ykm.a 223 rfl) hc) (faCode _ _)) fun Ykn Yko => ?_;clear Ykm
 refine Yko.g 222 rfl rfl rfl _ (fun hc => ex_ld rfl (ev (Yko.a 224 rfl) hc) (s_ldCode (HM.out x20 hx20))) fun Ykp Ykq => ?_;clear Yko
 refine Ykq.g 222 rfl rfl rfl (.bool (decide (m.r.1 < 4))) (fun hc => ex_bin rfl (ev (Ykq.a 225 rfl) hc) rfl (lssC _ _ _ _ _)) fun Ykr Yks => ?_;clear Ykq
 refine Yks.g 222 rfl rfl rfl _ (fun hc => ex_move rfl (ev (Yks.a 226 rfl) hc)) fun Ykt Yku => ?_;clear Yks
 refine Yku.g 227 rfl rfl rfl _ (fun hc => ex_fa rfl (Yku.f 5) (MBox.faResult _ _)) fun Ykv Ykw => ?_;clear Yku
 refine Ykw.g 227 rfl rfl rfl _ (fun hc => ex_fa rfl (ev (Ykw.a 228 rfl) hc) (faCode _ _)) fun Ykx Yky => ?_;clear Ykw
 refine Yky.g 227 rfl rfl rfl _ (fun hc => ex_ld rfl (ev (Yky.a 229 rfl) hc) (s_ldCode (HM.out x20 hx20))) fun Ykz Yk0 => ?_;clear Yky
 refine Yk0.g 227 rfl rfl rfl (.bool (decide (6 < m.r.1))) (fun hc => ex_bin rfl (ev (Yk0.a 230 rfl) hc) rfl (gtrC _ _ _ _ _)) fun Yk1 Yk2 => ?_;clear Yk0
 refine Yk2.g 222 rfl rfl rfl (.bool ((decide (m.r.1 < 4)) || (decide (6 < m.r.1)))) (fun hc => ex_or rfl (Yk2.a 227 rfl) (Yk2.a 231 rfl) hc) fun Yk3 Yk4 => ?_;clear Yk2
 refine Yk4.t (.bool ((decide (k = 14)) && ((decide (m.r.1 < 4)) || (decide (6 < m.r.1))))) (ex_and rfl (Yk4.a 222 rfl) (Yk4.a 232 rfl) rfl) fun _ Yk5 => ?_;clear Yk4
 have hz:=Yk5.z;have s2:=Yk5.a 2 rfl;have s3:=Yk5.a 3 rfl;have s4:=Yk5.a 4 rfl;have s5:=Yk5.a 5 rfl;have s9:=Yk5.a 9 rfl;have s233:=Yk5.a 233 rfl;clear Yk5;refine wpList_nil ?_
 go_upto_region 24 with fail
 cases e22 : ((decide (k = 14)) && ((decide (m.r.1 < 4)) || (decide (6 < m.r.1))))
 rotate_left
 ·refine wp_cond_true ((ev s233 rfl).trans (congrArg Value.bool e22)) ?_
  have HV:=hide (HB.out _ hx20);have V2:=hide (show fiG f r m L D k u0 u1 u2 u3 u4 u5 u6 u7 u8 u9 = false from by unfold fiG;rw [if_neg (Bool.eq_false_iff.1 e2)];rw [if_neg (Bool.eq_false_iff.1 e4)];rw [if_neg (Bool.eq_false_iff.1 e6)];rw [if_neg (Bool.eq_false_iff.1 e8)];rw [if_neg (Bool.eq_false_iff.1 e10)];rw [if_neg (Bool.eq_false_iff.1 e12)];rw [if_neg (Bool.eq_false_iff.1 e14)];rw [if_neg (Bool.eq_false_iff.1 e16)];rw [if_neg (Bool.eq_false_iff.1 e18)];rw [if_neg (Bool.eq_false_iff.1 e20)];rw [if_pos e22])
  go_wp2
  refine bodyPost_ret (results_tmp rfl _ _ _) rfl ⟨?_,HV.out⟩;rw [V2.out]
  show Ending.returned ((Array.setIfInBounds _ 8 (Value.bool false)).getD 8 undef) = _
  rw [getD_of (at_set _ (by rw [hz];decide))]
 refine wp_cond_false ((ev s233 rfl).trans (congrArg Value.bool e22)) ?_
 go_upto_region 24 with fail
 clear s233;refine wp_region_lit ?_;have Yk6:=(((((Rp.nil hz).cons s2).cons s3).cons s4).cons s5).cons s9;clear hz s2 s3 s4 s5 s9
 refine Yk6.t _ (ex_move rfl (Yk6.f 3)) fun _ Yk7 => ?_;clear Yk6
 refine Yk7.t (.pointer (some ⟨g,6,none⟩)) (ex_ix rfl (Yk7.f 234) rfl (ixBool g 6 10 cu (by decide) _)) fun _ Yk8 => ?_;clear Yk7
 refine Yk8.t _ (ex_ld rfl (Yk8.f 235) (ldBool (HU.out x20 hx20 6 _ rfl))) fun _ Yk9 => ?_;clear Yk8
 refine Yk9.t (.bool (!u6)) (ex_not rfl (Yk9.f 236)) fun _ Yla => ?_;clear Yk9
 refine Yla.t _ (ex_move rfl (Yla.f 237)) fun _ Ylb => ?_;clear Yla
 refine Ylb.g 238 rfl rfl rfl _ (fun hc => ex_move rfl (Ylb.f 2)) fun Ylc Yld => ?_;clear Ylb
 refine Yld.g 238 rfl rfl rfl _ (fun hc => ex_fa rfl (Yld.f 5) (MBox.faEntry _ _)) fun Yle Ylf => ?_;clear Yld
 refine Ylf.g 238 rfl rfl rfl _ (fun hc => ex_ld rfl (ev (Ylf.a 240 rfl) hc) ((HM.out x20 hx20).ldEntry)) fun Ylg Ylh => ?_;clear Ylf
 refine vcall (true && ((!u6) == false)) (.bool (enK k m.e)) (want_g rfl rfl (Ylh.a 238 rfl)) (fun hc => ex_call rfl (by simp only [List.map_toArray,List.map_cons,List.map_nil,(ev (Ylh.a 239 rfl) hc),(ev (Ylh.a 241 rfl) hc),evc] <;> rfl) rfl) (fun hc => HE.out x20) rfl Ylh.z (by decide) (Ylh.kc fun Yli w3 hb Ylj => ?_);clear Ylh;have hv3:=hx20.trans (hb.mono hx20.size);clear hb
 refine Ylj.t (.bool ((!u6) || (enK k m.e))) (ex_or rfl (Ylj.a 238 rfl) (Ylj.a 242 rfl) rfl) fun _ Ylk => ?_;clear Ylj
 refine Ylk.t _ (ex_move rfl (Ylk.f 243)) fun _ Yll => ?_;clear Ylk
 refine Yll.g 244 rfl rfl rfl _ (fun hc => ex_move rfl (Yll.f 3)) fun Ylm Yln => ?_;clear Yll
 refine Yln.g 244 rfl rfl rfl (.pointer (some ⟨g,7,none⟩)) (fun hc => ex_ix rfl (ev (Yln.a 245 rfl) hc) rfl (ixBool g 7 10 cu (by decide) _)) fun Ylo Ylp => ?_;clear Yln
 refine Ylp.g 244 rfl rfl rfl _ (fun hc => ex_ld rfl (ev (Ylp.a 246 rfl) hc) (ldBool (HU.out w3 hv3 7 _ rfl))) fun Ylq Ylr => ?_;clear Ylp
 refine Ylr.g 244 rfl rfl rfl (.bool (!u7)) (fun hc => ex_not rfl (ev (Ylr.a 247 rfl) hc)) fun Yls Ylt => ?_;clear Ylr
 refine Ylt.g 244 rfl rfl rfl _ (fun hc => ex_move rfl (ev (Ylt.a 248 rfl) hc)) fun Ylu Ylv => ?_;clear Ylt
 refine Ylv.g 249 rfl rfl rfl _ (fun hc => ex_fa rfl (Ylv.f 5) (MBox.faResult _ _)) fun Ylw Ylx => ?_;clear Ylv
 refine Ylx.g 249 rfl rfl rfl _ (fun hc => ex_ld rfl (ev (Ylx.a 250 rfl) hc) ((HM.out w3 hv3).ldResult)) fun Yly Ylz => ?_;clear Ylx
 refine vcall ((true && (((!u6) || (enK k m.e)) == true)) && ((!u7) == false)) (.bool (resB m.r.1 m.r.2.1 m.r.2.2)) (want_g rfl rfl (Ylz.a 249 rfl)) (fun hc => ex_call rfl (by simp only [List.map_toArray,List.map_cons,List.map_nil,(ev (Ylz.a 251 rfl) hc),evc] <;> rfl) rfl) (fun hc => HR.out w3) rfl Ylz.z (by decide) (Ylz.kc fun Yl0 w4 hb Yl1 => ?_);clear Ylz;have hv4:=hv3.trans (hb.mono hv3.size);clear hb
 refine Yl1.g 244 rfl rfl rfl (.bool ((!u7) || (resB m.r.1 m.r.2.1 m.r.2.2))) (fun hc => ex_or rfl (Yl1.a 249 rfl) (Yl1.a 252 rfl) hc) fun Yl2 Yl3 => ?_;clear Yl1
 refine Yl3.t (.bool (((!u6) || (enK k m.e)) && ((!u7) || (resB m.r.1 m.r.2.1 m.r.2.2)))) (ex_and rfl (Yl3.a 244 rfl) (Yl3.a 253 rfl) rfl) fun _ Yl4 => ?_;clear Yl3
 refine Yl4.t _ (ex_assign rfl (Yl4.f 254)) fun _ Yl5 => ?_;clear Yl4
 have hz:=Yl5.z;have s2:=Yl5.a 2 rfl;have s3:=Yl5.a 3 rfl;have s4:=Yl5.a 4 rfl;have s5:=Yl5.a 5 rfl;have s8:=Yl5.a 8 rfl;have s9:=Yl5.a 9 rfl;clear Yl5;refine wpList_nil ?_;have HV:=hide (HB.out _ hv4);have V2:=hide (show fiG f r m L D k u0 u1 u2 u3 u4 u5 u6 u7 u8 u9 = ((((!u6) || (enK k m.e)) && ((!u7) || (resB m.r.1 m.r.2.1 m.r.2.2)))) from by unfold fiG;rw [if_neg (Bool.eq_false_iff.1 e2)];rw [if_neg (Bool.eq_false_iff.1 e4)];rw [if_neg (Bool.eq_false_iff.1 e6)];rw [if_neg (Bool.eq_false_iff.1 e8)];rw [if_neg (Bool.eq_false_iff.1 e10)];rw [if_neg (Bool.eq_false_iff.1 e12)];rw [if_neg (Bool.eq_false_iff.1 e14)];rw [if_neg (Bool.eq_false_iff.1 e16)];rw [if_neg (Bool.eq_false_iff.1 e18)];rw [if_neg (Bool.eq_false_iff.1 e20)];rw [if_neg (Bool.eq_false_iff.1 e22)])
 go_wp2
 refine bodyPost_ret (results_tmp rfl _ _ _) rfl ⟨?_,HV.out⟩;rw [V2.out];rw [getD_of s8]
 rfl
end Go.Proofs.YtjcedofmljkhfaaGreatDoor
