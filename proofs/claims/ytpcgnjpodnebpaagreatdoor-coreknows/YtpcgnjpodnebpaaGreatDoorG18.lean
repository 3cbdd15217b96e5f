import Derived.Test.YtpcgnjpodnebpaaGreatDoorG17
set_option maxRecDepth 100000
set_option linter.unusedVariables false
set_option linter.unusedSimpArgs false
set_option maxHeartbeats 8000000
namespace Go.Proofs.YtpcgnjpodnebpaaGreatDoor
open Go.RowKit Go.Maps
open Classical
structure CBox (w : World) (q : Nat) (f r : Int) : Prop where
 c0 : w.cell? ⟨q,0,none⟩ = some (.int .i64 f)
 c1 : w.cell? ⟨q,1,none⟩ = some (.int .i64 r)
theorem CBox.fa0 (q : Nat) (w : World) : (Instr.fieldAt 23 (.pointer (some ⟨q,0,none⟩)) 0).run Tryz.prog w = .ok (.pointer (some ⟨q,0,none⟩)) w:=by
 go_simp
theorem CBox.fa1 (q : Nat) (w : World) : (Instr.fieldAt 23 (.pointer (some ⟨q,0,none⟩)) 1).run Tryz.prog w = .ok (.pointer (some ⟨q,1,none⟩)) w:=by
 go_simp
theorem CBox.ld0 {w : World} {q : Nat} {f r : Int} (h : CBox w q f r) : (Instr.loadAt 3 (.pointer (some ⟨q,0,none⟩))).run Tryz.prog w = .ok (.int .i64 f) w:=by
 have h0:=h.c0
 go_simp
theorem CBox.ld1 {w : World} {q : Nat} {f r : Int} (h : CBox w q f r) : (Instr.loadAt 3 (.pointer (some ⟨q,1,none⟩))).run Tryz.prog w = .ok (.int .i64 r) w:=by
 have h0:=h.c1
 go_simp
theorem faCode (q : Nat) (w : World) : (Instr.fieldAt 49 (.pointer (some ⟨q,8,none⟩)) 0).run Tryz.prog w = .ok (.pointer (some ⟨q,8,none⟩)) w:=by
 go_simp
theorem s_ldCode {w : World} {q : Nat} {m : Mg} {s t : Value} (h : MBox w q m s t) : (Instr.loadAt 3 (.pointer (some ⟨q,8,none⟩))).run Tryz.prog w = .ok (.int .i64 m.r.1) w:=by
 have h0:=h.cell 8 _ rfl
 go_simp
theorem mulC {f : Int} (h : 1 ≤ f∧f ≤ 3) (x y : Operand) (w : World) : (do eqGuard .mul 3 x y (.int .i64 2) (.int .i64 f);binOp .mul 3 (.int .i64 2) (.int .i64 f) : Sem Value).run Tryz.prog w = .ok (.int .i64 (2 * f)) w:=by
 have h1 : IntKind.i64.wrap (2 * f) = 2 * f:=by rw [IntKind.wrap_i64];omega
 go_simp
theorem addC {f : Int} (h : 1 ≤ f∧f ≤ 3) (x y : Operand) (w : World) : (do eqGuard .add 3 x y (.int .i64 (2 * f)) (.int .i64 1);binOp .add 3 (.int .i64 (2 * f)) (.int .i64 1) : Sem Value).run Tryz.prog w = .ok (.int .i64 (2 * f + 1)) w:=by
 have h1 : IntKind.i64.wrap (2 * f + 1) = 2 * f + 1:=by rw [IntKind.wrap_i64];omega
 go_simp
theorem remC {f : Int} (h : 1 ≤ f∧f ≤ 3) (x y : Operand) (a : Int) (w : World) : (do eqGuard .rem 3 x y (.int .i64 a) (.int .i64 (2 * f + 1));binOp .rem 3 (.int .i64 a) (.int .i64 (2 * f + 1)) : Sem Value).run Tryz.prog w = .ok (.int .i64 (a.tmod (2 * f + 1))) w:=by
 have hn0 : ¬ (2 * f + 1 = 0):=by omega
 go_simp
theorem ixVec (q o n cv nd : Nat) (h : nd < n) (w : World) : (Instr.indexAt 27 (.slice (some ⟨q,o,none⟩) n cv) (.int .i64 (nd : Int))).run Tryz.prog w = .ok (.pointer (some ⟨q,o + nd * 2,none⟩)) w:=by
 have h1 : (nd : Int) < (n : Int):=by omega
 go_simp
theorem ldDrAt {w : World} {q p : Nat} {x y : Int} (h0 : w.cell? ⟨q,p,none⟩ = some (.int .u64 x)) (h1 : w.cell? ⟨q,p + 1,none⟩ = some (.int .u64 y)) : (Instr.loadAt 52 (.pointer (some ⟨q,p,none⟩))).run Tryz.prog w = .ok (.agg #[.int .u64 x,.int .u64 y]) w:=by
 go_simp
def fiG (f r : Int) (m : Mg) (L : List En) (D : List (Int × Int)) (k : Int) (u0 u1 u2 u3 u4 u5 u6 u7 u8 u9 : Bool) : Bool :=
 if ((u0 && ((decide (m.nd < 0)) || (decide ((2 * f + 1) ≤ m.nd)))) || (u1 && ((decide (m.vw < 0)) || (decide (4294967296 < m.vw))))) = true then false else
 if ((((decide (k = 6)) || (decide (k = 7))) || (decide (k = 8))) && (decide (m.vw < 1))) = true then false else
 if ((((decide (k = 3)) || (decide (k = 5))) || (decide (k = 8))) && (!decide (m.nd = ((m.vw).tmod ((2 * f + 1)))))) = true then false else
 if (u2 && ((decide (m.ls < 0)) || (decide (m.vw ≤ m.ls)))) = true then false else
 if (u3 && ((((decide (m.p < 0)) || (decide (r < m.p))) || ((decide (k = 3)) && (decide (m.p < 1)))) || ((decide (k = 2)) && ((decide (m.p = 0)) != (decide (m.r.1 = 7)))))) = true then false else
 if (u8 && (!decide ((lg L r) = 0))) = true then false else
 if (u4 && (((decide (m.cm < 0)) || (decide (r < m.cm))) || (u8 && (decide (((L.length : Nat) : Int) < m.cm))))) = true then false else
 if (((decide (k = 10)) && (decide (0 < ((L.length : Nat) : Int)))) && (!decide (m.nd = ((m.vw).tmod ((2 * f + 1)))))) = true then false else
 if (u9 && (!decide (((D.length : Nat) : Int) = (2 * f + 1)))) = true then false else
 if ((u5 && (decide (m.d = (0,0)))) || ((decide (k = 9)) && (!decide (m.d = (D.getD m.nd.toNat (0,0)))))) = true then false else
 if ((decide (k = 14)) && ((decide (m.r.1 < 4)) || (decide (6 < m.r.1)))) = true then false else
 (((!u6) || (enK k m.e)) && ((!u7) || (resB m.r.1 m.r.2.1 m.r.2.2)))
theorem fields_any (f r p : Int) (b : Bool) (m : Mg) (a1 a2 : Option Addr) (cl cv g cu : Nat) (k : Int) (u0 u1 u2 u3 u4 u5 u6 u7 u8 u9 : Bool) (L : List En) (D : List (Int × Int)) (w : World) (hf : 1 ≤ f∧f ≤ 3) (hL : SlY yE w a1 L.length cl L) (hfit : ∀ e ∈ L,e.fits) (hD : SlY yD w a2 D.length cv D) (hfe : m.e.o.fits) (hg : g < w.heap.size) (hu : ∀ (j : Nat) (b : Bool),([u0,u1,u2,u3,u4,u5,u6,u7,u8,u9] : List Bool)[j]? = some b → w.cell? ⟨g,j,none⟩ = some (.bool b)) (h9 : k = 9 → u0 = true∧u9 = true) : Calls Tryz.prog 33 #[.agg #[.int .i64 f,.int .i64 r,.int .i64 p,.bool b],m.val (.slice a1 L.length cl) (.slice a2 D.length cv),.int .i64 k,.slice (some ⟨g,0,none⟩) 10 cu] w fun e w' => e = .returned (.bool (fiG f r m L D k u0 u1 u2 u3 u4 u5 u6 u7 u8 u9))∧Below w.heap.size w w':=by
 go_enter Tryz.func33,Tryz.ntmps33
 go_upto_region 1 with (refine boxMk rfl (.tmp 1) rfl m _ _ rfl ?_;intro q1 w1 hq1 M1 b1 z1)
 have hq2 : q1 = w.heap.size + 1:=by first | exact hq1 | simpa using hq1
 subst hq2;have hB : Below w.heap.size w w1:=(BR.alloc LR _).trans (b1.mono (by simp))
 have HC : Hid (∀ v,Below w1.heap.size w1 v → CBox v w.heap.size f r):=fun v hv => ⟨(hv.cell (p:=⟨w.heap.size,0,none⟩) (Nat.lt_of_succ_lt M1.lt)).trans ((b1.cell (p:=⟨w.heap.size,0,none⟩) (by simp)).trans (by simp)),(hv.cell (p:=⟨w.heap.size,1,none⟩) (Nat.lt_of_succ_lt M1.lt)).trans ((b1.cell (p:=⟨w.heap.size,1,none⟩) (by simp)).trans (by simp))⟩
 have HM : Hid (∀ v,Below w1.heap.size w1 v → MBox v (w.heap.size + 1) m (.slice a1 L.length cl) (.slice a2 D.length cv)):=fun v hv => M1.bel hv
 have HB : Hid (∀ v,Below w1.heap.size w1 v → Below w.heap.size w v):=fun v hv => hB.trans (hv.mono hB.size)
 have HU : Hid (∀ v,Below w1.heap.size w1 v → ∀ (j : Nat) (b : Bool),([u0,u1,u2,u3,u4,u5,u6,u7,u8,u9] : List Bool)[j]? = some b → v.cell? ⟨g,j,none⟩ = some (.bool b)):=fun v hv j b hj => ((HB.out v hv).cell (p:=⟨g,j,none⟩) hg).trans (hu j b hj)
 have HL : Hid (∀ v,Below w1.heap.size w1 v → Calls Tryz.prog 64 #[.slice a1 L.length cl,.int .i64 r] v fun e w' => e = .returned (.int .i64 (lg L r))∧Below v.heap.size v w'):=fun v hv => reflog_any L a1 cl r v (hL.later (HB.out v hv)) hfit
 have HE : Hid (∀ v,Calls Tryz.prog 65 #[.int .i64 k,.agg #[.int .i64 m.e.c,.int .i64 m.e.n,.int .i64 m.e.o.k,.int .i64 m.e.o.s,.string m.e.o.v]] v fun e w' => e = .returned (.bool (enK k m.e))∧Below v.heap.size v w'):=fun v => refentry7 k m.e hfe v
 have HR : Hid (∀ v,Calls Tryz.prog 66 #[.agg #[.int .i64 m.r.1,.int .i64 m.r.2.1,.string m.r.2.2]] v fun e w' => e = .returned (.bool (resB m.r.1 m.r.2.1 m.r.2.2))∧Below v.heap.size v w'):=fun v => refresult_any m.r.1 m.r.2.1 m.r.2.2 v
 have HXm : Hid ((k = 9 → 0 ≤ m.nd∧m.nd < (D.length : Int)) → ∃ q2 o2,Hid (k = 9 → ∀ v,Below w1.heap.size w1 v → (Instr.indexAt 27 (.slice a2 D.length cv) (.int .i64 m.nd)).run Tryz.prog v = .ok (.pointer (some ⟨q2,o2 + m.nd.toNat * 2,none⟩)) v∧(Instr.loadAt 52 (.pointer (some ⟨q2,o2 + m.nd.toNat * 2,none⟩))).run Tryz.prog v = .ok (.agg #[.int .u64 (D.getD m.nd.toNat (0,0)).1,.int .u64 (D.getD m.nd.toNat (0,0)).2]) v)):=fun z => by
  by_cases hk : k = 9
  ·obtain ⟨z1',z2'⟩:=z hk
   obtain ⟨nn,hn⟩:=Int.eq_ofNat_of_zero_le z1'
   have hlt : nn < D.length:=by omega
   obtain ⟨q2,o2,rfl,hq,hl⟩:=hD.place (fun e => by rw [e] at hlt;simp at hlt);refine ⟨q2,o2,fun _ v hv => ?_⟩;rw [hn,Int.toNat_natCast]
   have hd : D[nn]? = some (D.getD nn (0,0)):=by rw [List.getD_eq_getElem?_getD,List.getElem?_eq_getElem hlt];rfl
   have lv : LieY yD v q2 o2 D:=hl.upd (S:=fun _ => False) (Upd.of_below ((HB.out v hv))) hq id
   exact ⟨ixVec q2 o2 D.length cv nn hlt v,ldDrAt (lv nn _ hd 0 _ rfl) (lv nn _ hd 1 _ rfl)⟩
  ·exact ⟨0,0,fun h => absurd h hk⟩
 have H9:=hide h9;have HN:=hide hf;have h1 : Below w1.heap.size w1 w1:=BR;clear M1 b1 z1 hB hq1 hu hL hD hfit hfe h9 hf;refine WL ?_;refine vl_gen (fun T => T.size = 255∧T[2]? = some (gw true (.int .i64 k))∧T[3]? = some (gw true (.slice (some ⟨g,0,none⟩) 10 cu))∧T[4]? = some (gw true (.pointer (some ⟨w.heap.size,0,none⟩)))∧T[5]? = some (gw true (.pointer (some ⟨w.heap.size + 1,0,none⟩)))) ⟨rfl,rfl,rfl,rfl,rfl⟩ (fun T0 ⟨hz,s2,s3,s4,s5⟩ => ?_);have Ya:=((((Rp.nil hz).cons s2).cons s3).cons s4).cons s5;clear hz s2 s3 s4 s5
 refine Ya.t _ (ex_fa rfl (Ya.f 4) (CBox.fa0 _ _)) fun _ Yb => ?_;clear Ya
 refine Yb.t _ (ex_ld rfl (Yb.f 10) ((HC.out w1 h1).ld0)) fun _ Yc => ?_;clear Yb
 refine Yc.t (.int .i64 (2 * f)) (ex_bin rfl rfl (Yc.f 11) (mulC HN.out _ _ _)) fun _ Yd => ?_;clear Yc
 refine Yd.t (.int .i64 (2 * f + 1)) (ex_bin rfl (Yd.f 12) rfl (addC HN.out _ _ _)) fun _ Ye => ?_;clear Yd
 refine Ye.t _ (ex_assign rfl (Ye.f 13)) fun _ Yf => ?_;clear Ye
 have hz:=Yf.z;have s2:=Yf.a 2 rfl;have s3:=Yf.a 3 rfl;have s4:=Yf.a 4 rfl;have s5:=Yf.a 5 rfl;have s9:=Yf.a 9 rfl;clear Yf;refine WE ?_
 go_upto_region 2 with fail
 refine WL ?_;have Yg:=(((((Rp.nil hz).cons s2).cons s3).cons s4).cons s5).cons s9;clear hz s2 s3 s4 s5 s9
 refine Yg.t _ (ex_move rfl (Yg.f 3)) fun _ Yh => ?_;clear Yg
 refine Yh.t (.pointer (some ⟨g,0,none⟩)) (ex_ix rfl (Yh.f 14) rfl (ixBool g 0 10 cu (by decide) _)) fun _ Yi => ?_;clear Yh
 refine Yi.t _ (ex_ld rfl (Yi.f 15) (ldBool (HU.out w1 h1 0 _ rfl))) fun _ Yj => ?_;clear Yi
 refine Yj.t _ (ex_move rfl (Yj.f 16)) fun _ Yk => ?_;clear Yj
 refine Yk.g 17 rfl rfl _ (fun hc => ex_fa rfl (Yk.f 5) (MBox.faNode _ _)) fun Yl Ym => ?_;clear Yk
 refine Ym.g 17 rfl rfl _ (fun hc => ex_ld rfl (Ym.v 18 hc) ((HM.out w1 h1).ldNode)) fun Yn Yo => ?_;clear Ym
 refine Yo.g 17 rfl rfl (.bool (decide (m.nd < 0))) (fun hc => ex_bin rfl (Yo.v 19 hc) rfl (lssC _ _ _ _ _)) fun Yp Yq => ?_;clear Yo
 refine Yq.g 17 rfl rfl _ (fun hc => ex_move rfl (Yq.v 20 hc)) fun Yr Ys => ?_;clear Yq
 refine Ys.g 21 rfl rfl _ (fun hc => ex_fa rfl (Ys.f 5) (MBox.faNode _ _)) fun Yt Yu => ?_;clear Ys
 refine Yu.g 21 rfl rfl _ (fun hc => ex_ld rfl (Yu.v 22 hc) ((HM.out w1 h1).ldNode)) fun Yv Yw => ?_;clear Yu
 refine Yw.g 21 rfl rfl _ (fun hc => ex_move rfl (Yw.f 9)) fun Yx Yy => ?_;clear Yw
 refine Yy.g 21 rfl rfl (.bool (decide ((2 * f + 1) ≤ m.nd))) (fun hc => ex_bin rfl (Yy.v 23 hc) (Yy.v 24 hc) (geqC _ _ _ _ _)) fun Yz Y0 => ?_;clear Yy
 refine Y0.g 17 rfl rfl (.bool ((decide (m.nd < 0)) || (decide ((2 * f + 1) ≤ m.nd)))) (fun hc => ex_or rfl (Y0.a 21 rfl) (Y0.a 25 rfl) hc) fun Y1 Y2 => ?_;clear Y0
 refine Y2.t (.bool (u0 && ((decide (m.nd < 0)) || (decide ((2 * f + 1) ≤ m.nd))))) (ex_and rfl (Y2.a 17 rfl) (Y2.a 26 rfl) rfl) fun _ Y3 => ?_;clear Y2
 refine Y3.t _ (ex_move rfl (Y3.f 27)) fun _ Y4 => ?_;clear Y3
 refine Y4.g 28 rfl rfl _ (fun hc => ex_move rfl (Y4.f 3)) fun Y5 Y6 => ?_;clear Y4
 refine Y6.g 28 rfl rfl (.pointer (some ⟨g,1,none⟩)) (fun hc => ex_ix rfl (Y6.v 29 hc) rfl (ixBool g 1 10 cu (by decide) _)) fun Y7 Y8 => ?_;clear Y6
 refine Y8.g 28 rfl rfl _ (fun hc => ex_ld rfl (Y8.v 30 hc) (ldBool (HU.out w1 h1 1 _ rfl))) fun Y9 Yba => ?_;clear Y8
 refine Yba.g 28 rfl rfl _ (fun hc => ex_move rfl (Yba.v 31 hc)) fun Ybb Ybc => ?_;clear Yba
 refine Ybc.g 32 rfl rfl _ (fun hc => ex_fa rfl (Ybc.f 5) (MBox.faView _ _)) fun Ybd Ybe => ?_;clear Ybc
 refine Ybe.g 32 rfl rfl _ (fun hc => ex_ld rfl (Ybe.v 33 hc) ((HM.out w1 h1).ldView)) fun Ybf Ybg => ?_;clear Ybe
 refine Ybg.g 32 rfl rfl (.bool (decide (m.vw < 0))) (fun hc => ex_bin rfl (Ybg.v 34 hc) rfl (lssC _ _ _ _ _)) fun Ybh Ybi => ?_;clear Ybg
 refine Ybi.g 32 rfl rfl _ (fun hc => ex_move rfl (Ybi.v 35 hc)) fun Ybj Ybk => ?_;clear Ybi
 refine Ybk.g 36 rfl rfl _ (fun hc => ex_fa rfl (Ybk.f 5) (MBox.faView _ _)) fun Ybl Ybm => ?_;clear Ybk
 refine Ybm.g 36 rfl rfl _ (fun hc => ex_ld rfl (Ybm.v 37 hc) ((HM.out w1 h1).ldView)) fun Ybn Ybo => ?_;clear Ybm
 refine Ybo.g 36 rfl rfl (.bool (decide (4294967296 < m.vw))) (fun hc => ex_bin rfl (Ybo.v 38 hc) rfl (gtrC _ _ _ _ _)) fun Ybp Ybq => ?_;clear Ybo
 refine Ybq.g 32 rfl rfl (.bool ((decide (m.vw < 0)) || (decide (4294967296 < m.vw)))) (fun hc => ex_or rfl (Ybq.a 36 rfl) (Ybq.a 39 rfl) hc) fun Ybr Ybs => ?_;clear Ybq
 refine Ybs.g 28 rfl rfl (.bool (u1 && ((decide (m.vw < 0)) || (decide (4294967296 < m.vw))))) (fun hc => ex_and rfl (Ybs.a 32 rfl) (Ybs.a 40 rfl) hc) fun Ybt Ybu => ?_;clear Ybs
 refine Ybu.t (.bool ((u0 && ((decide (m.nd < 0)) || (decide ((2 * f + 1) ≤ m.nd)))) || (u1 && ((decide (m.vw < 0)) || (decide (4294967296 < m.vw)))))) (ex_or rfl (Ybu.a 28 rfl) (Ybu.a 41 rfl) rfl) fun _ Ybv => ?_;clear Ybu
 have hz:=Ybv.z;have s2:=Ybv.a 2 rfl;have s3:=Ybv.a 3 rfl;have s4:=Ybv.a 4 rfl;have s5:=Ybv.a 5 rfl;have s9:=Ybv.a 9 rfl;have s42:=Ybv.a 42 rfl;clear Ybv;refine WE ?_
 go_upto_region 4 with fail
 cases e2 : ((u0 && ((decide (m.nd < 0)) || (decide ((2 * f + 1) ≤ m.nd)))) || (u1 && ((decide (m.vw < 0)) || (decide (4294967296 < m.vw)))))
 rotate_left
 ·refine wp_cond_true ((ev s42 rfl).trans (congrArg Value.bool e2)) ?_
  have HV:=hide (HB.out _ h1);have V2:=hide (show fiG f r m L D k u0 u1 u2 u3 u4 u5 u6 u7 u8 u9 = false from by unfold fiG;rw [if_pos e2])
  go_wp2
  refine bodyPost_ret (results_tmp rfl _ _ _) rfl ⟨?_,HV.out⟩;rw [V2.out]
  show Ending.returned ((Array.setIfInBounds _ 8 (Value.bool false)).getD 8 undef) = _
  rw [getD_of (at_set _ (by rw [hz];decide))]
 refine wp_cond_false ((ev s42 rfl).trans (congrArg Value.bool e2)) ?_
 go_upto_region 4 with fail
 clear s42;refine WL ?_;have Ybw:=(((((Rp.nil hz).cons s2).cons s3).cons s4).cons s5).cons s9;clear hz s2 s3 s4 s5 s9
 refine Ybw.t _ (ex_move rfl (Ybw.f 2)) fun _ Ybx => ?_;clear Ybw
 refine Ybx.t (.bool (decide (k = 6))) (ex_bin rfl (Ybx.f 43) rfl (eqlC _ _ _ _ _)) fun _ Yby => ?_;clear Ybx
 refine Yby.t _ (ex_move rfl (Yby.f 44)) fun _ Ybz => ?_;clear Yby
 refine Ybz.g 45 rfl rfl _ (fun hc => ex_move rfl (Ybz.f 2)) fun Yb0 Yb1 => ?_;clear Ybz
 refine Yb1.g 45 rfl rfl (.bool (decide (k = 7))) (fun hc => ex_bin rfl (Yb1.v 46 hc) rfl (eqlC _ _ _ _ _)) fun Yb2 Yb3 => ?_;clear Yb1
 refine Yb3.t (.bool ((decide (k = 6)) || (decide (k = 7)))) (ex_or rfl (Yb3.a 45 rfl) (Yb3.a 47 rfl) rfl) fun _ Yb4 => ?_;clear Yb3
 refine Yb4.t _ (ex_move rfl (Yb4.f 48)) fun _ Yb5 => ?_;clear Yb4
 refine Yb5.g 49 rfl rfl _ (fun hc => ex_move rfl (Yb5.f 2)) fun Yb6 Yb7 => ?_;clear Yb5
 refine Yb7.g 49 rfl rfl (.bool (decide (k = 8))) (fun hc => ex_bin rfl (Yb7.v 50 hc) rfl (eqlC _ _ _ _ _)) fun Yb8 Yb9 => ?_;clear Yb7
 refine Yb9.t (.bool (((decide (k = 6)) || (decide (k = 7))) || (decide (k = 8)))) (ex_or rfl (Yb9.a 49 rfl) (Yb9.a 51 rfl) rfl) fun _ Yca => ?_;clear Yb9
 refine Yca.t _ (ex_move rfl (Yca.f 52)) fun _ Ycb => ?_;clear Yca
 refine Ycb.g 53 rfl rfl _ (fun hc => ex_fa rfl (Ycb.f 5) (MBox.faView _ _)) fun Ycc Ycd => ?_;clear Ycb
 refine Ycd.g 53 rfl rfl _ (fun hc => ex_ld rfl (Ycd.v 54 hc) ((HM.out w1 h1).ldView)) fun Yce Ycf => ?_;clear Ycd
 refine Ycf.g 53 rfl rfl (.bool (decide (m.vw < 1))) (fun hc => ex_bin rfl (Ycf.v 55 hc) rfl (lssC _ _ _ _ _)) fun Ycg Ych => ?_;clear Ycf
 refine Ych.t (.bool ((((decide (k = 6)) || (decide (k = 7))) || (decide (k = 8))) && (decide (m.vw < 1)))) (ex_and rfl (Ych.a 53 rfl) (Ych.a 56 rfl) rfl) fun _ Yci => ?_;clear Ych
 have hz:=Yci.z;have s2:=Yci.a 2 rfl;have s3:=Yci.a 3 rfl;have s4:=Yci.a 4 rfl;have s5:=Yci.a 5 rfl;have s9:=Yci.a 9 rfl;have s57:=Yci.a 57 rfl;clear Yci;refine WE ?_
 go_upto_region 6 with fail
 cases e4 : ((((decide (k = 6)) || (decide (k = 7))) || (decide (k = 8))) && (decide (m.vw < 1)))
 rotate_left
 ·refine wp_cond_true ((ev s57 rfl).trans (congrArg Value.bool e4)) ?_
  have HV:=hide (HB.out _ h1);have V2:=hide (show fiG f r m L D k u0 u1 u2 u3 u4 u5 u6 u7 u8 u9 = false from by unfold fiG;rw [if_neg (Bool.eq_false_iff.1 e2)];rw [if_pos e4])
  go_wp2
  refine bodyPost_ret (results_tmp rfl _ _ _) rfl ⟨?_,HV.out⟩;rw [V2.out]
  show Ending.returned ((Array.setIfInBounds _ 8 (Value.bool false)).getD 8 undef) = _
  rw [getD_of (at_set _ (by rw [hz];decide))]
 refine wp_cond_false ((ev s57 rfl).trans (congrArg Value.bool e4)) ?_
 go_upto_region 6 with fail
 clear s57;refine vq_start (C:=fun v => Below w1.heap.size w1 v) (by kernel_rfl) (by kernel_rfl) (belN h1 1) ?_;have Ycj:=(((((Rp.nil hz).cons s2).cons s3).cons s4).cons s5).cons s9;clear hz s2 s3 s4 s5 s9
 refine Ycj.q _ (fun v hv => ex_move rfl (Ycj.f 2)) fun _ Yck => ?_;clear Ycj
 refine Yck.q (.bool (decide (k = 3))) (fun v hv => ex_bin rfl (Yck.f 58) rfl (eqlC _ _ _ _ _)) fun _ Ycl => ?_;clear Yck
 refine Ycl.q _ (fun v hv => ex_move rfl (Ycl.f 59)) fun _ Ycm => ?_;clear Ycl
 refine Ycm.gq 60 rfl rfl _ (fun hc v hv => ex_move rfl (Ycm.f 2)) fun Ycn Yco => ?_;clear Ycm
 refine Yco.gq 60 rfl rfl (.bool (decide (k = 5))) (fun hc v hv => ex_bin rfl (Yco.v 61 hc) rfl (eqlC _ _ _ _ _)) fun Ycp Ycq => ?_;clear Yco
 refine Ycq.q (.bool ((decide (k = 3)) || (decide (k = 5)))) (fun v hv => ex_or rfl (Ycq.a 60 rfl) (Ycq.a 62 rfl) rfl) fun _ Ycr => ?_;clear Ycq
 refine Ycr.q _ (fun v hv => ex_move rfl (Ycr.f 63)) fun _ Ycs => ?_;clear Ycr
 refine Ycs.gq 64 rfl rfl _ (fun hc v hv => ex_move rfl (Ycs.f 2)) fun Yct Ycu => ?_;clear Ycs
 refine Ycu.gq 64 rfl rfl (.bool (decide (k = 8))) (fun hc v hv => ex_bin rfl (Ycu.v 65 hc) rfl (eqlC _ _ _ _ _)) fun Ycv Ycw => ?_;clear Ycu
 refine Ycw.q (.bool (((decide (k = 3)) || (decide (k = 5))) || (decide (k = 8)))) (fun v hv => ex_or rfl (Ycw.a 64 rfl) (Ycw.a 66 rfl) rfl) fun _ Ycx => ?_;clear Ycw
 refine Ycx.q _ (fun v hv => ex_move rfl (Ycx.f 67)) fun _ Ycy => ?_;clear Ycx
 refine Ycy.gq 68 rfl rfl _ (fun hc v hv => ex_fa rfl (Ycy.f 5) (MBox.faNode _ _)) fun Ycz Yc0 => ?_;clear Ycy
 refine Yc0.gq 68 rfl rfl _ (fun hc v hv => ex_ld rfl (Yc0.v 69 hc) ((HM.out v hv).ldNode)) fun Yc1 Yc2 => ?_;clear Yc0
 refine Yc2.gq 68 rfl rfl _ (fun hc v hv => ex_fa rfl (Yc2.f 5) (MBox.faView _ _)) fun Yc3 Yc4 => ?_;clear Yc2
 refine Yc4.gq 68 rfl rfl _ (fun hc v hv => ex_ld rfl (Yc4.v 71 hc) ((HM.out v hv).ldView)) fun Yc5 Yc6 => ?_;clear Yc4
 refine Yc6.gq 68 rfl rfl _ (fun hc v hv => ex_move rfl (Yc6.f 9)) fun Yc7 Yc8 => ?_;clear Yc6
 refine Yc8.gq 68 rfl rfl (.int .i64 ((m.vw).tmod ((2 * f + 1)))) (fun hc v hv => ex_bin rfl (Yc8.v 72 hc) (Yc8.v 73 hc) (remC HN.out _ _ _ _)) fun Yc9 Yda => ?_;clear Yc8
 refine Yda.gq 68 rfl rfl (.bool (!decide (m.nd = ((m.vw).tmod ((2 * f + 1)))))) (fun hc v hv => ex_bin rfl (Yda.v 70 hc) (Yda.v 74 hc) (neqC _ _ _ _ _)) fun Ydb Ydc => ?_;clear Yda
 refine Ydc.q (.bool ((((decide (k = 3)) || (decide (k = 5))) || (decide (k = 8))) && (!decide (m.nd = ((m.vw).tmod ((2 * f + 1))))))) (fun v hv => ex_and rfl (Ydc.a 68 rfl) (Ydc.a 75 rfl) rfl) fun _ Ydd => ?_;clear Ydc
 have hz:=Ydd.z;have s2:=Ydd.a 2 rfl;have s3:=Ydd.a 3 rfl;have s4:=Ydd.a 4 rfl;have s5:=Ydd.a 5 rfl;have s9:=Ydd.a 9 rfl;have s76:=Ydd.a 76 rfl;clear Ydd;refine vq_nil (fun x6 hx6 => ?_)
 go_upto_region 8 with fail
 cases e6 : ((((decide (k = 3)) || (decide (k = 5))) || (decide (k = 8))) && (!decide (m.nd = ((m.vw).tmod ((2 * f + 1))))))
 rotate_left
 ·refine wp_cond_true ((ev s76 rfl).trans (congrArg Value.bool e6)) ?_
  have HV:=hide (HB.out _ hx6);have V2:=hide (show fiG f r m L D k u0 u1 u2 u3 u4 u5 u6 u7 u8 u9 = false from by unfold fiG;rw [if_neg (Bool.eq_false_iff.1 e2)];rw [if_neg (Bool.eq_false_iff.1 e4)];rw [if_pos e6])
  go_wp2
  refine bodyPost_ret (results_tmp rfl _ _ _) rfl ⟨?_,HV.out⟩;rw [V2.out]
  show Ending.returned ((Array.setIfInBounds _ 8 (Value.bool false)).getD 8 undef) = _
  rw [getD_of (at_set _ (by rw [hz];decide))]
 refine wp_cond_false ((ev s76 rfl).trans (congrArg Value.bool e6)) ?_
 go_upto_region 8 with fail
 clear s76;refine WL ?_;have Yde:=(((((Rp.nil hz).cons s2).cons s3).cons s4).cons s5).cons s9;clear hz s2 s3 s4 s5 s9
 refine Yde.t _ (ex_move rfl (Yde.f 3)) fun _ Ydf => ?_;clear Yde
 refine Ydf.t (.pointer (some ⟨g,2,none⟩)) (ex_ix rfl (Ydf.f 77) rfl (ixBool g 2 10 cu (by decide) _)) fun _ Ydg => ?_;clear Ydf
 refine Ydg.t _ (ex_ld rfl (Ydg.f 78) (ldBool (HU.out x6 hx6 2 _ rfl))) fun _ Ydh => ?_;clear Ydg
 refine Ydh.t _ (ex_move rfl (Ydh.f 79)) fun _ Ydi => ?_;clear Ydh
 refine Ydi.g 80 rfl rfl _ (fun hc => ex_fa rfl (Ydi.f 5) (MBox.faLast _ _)) fun Ydj Ydk => ?_;clear Ydi
 refine Ydk.g 80 rfl rfl _ (fun hc => ex_ld rfl (Ydk.v 81 hc) ((HM.out x6 hx6).ldLast)) fun Ydl Ydm => ?_;clear Ydk
 refine Ydm.g 80 rfl rfl (.bool (decide (m.ls < 0))) (fun hc => ex_bin rfl (Ydm.v 82 hc) rfl (lssC _ _ _ _ _)) fun Ydn Ydo => ?_;clear Ydm
 refine Ydo.g 80 rfl rfl _ (fun hc => ex_move rfl (Ydo.v 83 hc)) fun Ydp Ydq => ?_;clear Ydo
 refine Ydq.g 84 rfl rfl _ (fun hc => ex_fa rfl (Ydq.f 5) (MBox.faLast _ _)) fun Ydr Yds => ?_;clear Ydq
 refine Yds.g 84 rfl rfl _ (fun hc => ex_ld rfl (Yds.v 85 hc) ((HM.out x6 hx6).ldLast)) fun Ydt Ydu => ?_;clear Yds
 refine Ydu.g 84 rfl rfl _ (fun hc => ex_fa rfl (Ydu.f 5) (MBox.faView _ _)) fun Ydv Ydw => ?_;clear Ydu
 refine Ydw.g 84 rfl rfl _ (fun hc => ex_ld rfl (Ydw.v 87 hc) ((HM.out x6 hx6).ldView)) fun Ydx Ydy => ?_;clear Ydw
 refine Ydy.g 84 rfl rfl (.bool (decide (m.vw ≤ m.ls))) (fun hc => ex_bin rfl (Ydy.v 86 hc) (Ydy.v 88 hc) (geqC _ _ _ _ _)) fun Ydz Yd0 => ?_;clear Ydy
 refine Yd0.g 80 rfl rfl (.bool ((decide (m.ls < 0)) || (decide (m.vw ≤ m.ls)))) (fun hc => ex_or rfl (Yd0.a 84 rfl) (Yd0.a 89 rfl) hc) fun Yd1 Yd2 => ?_;clear Yd0
 refine Yd2.t (.bool (u2 && ((decide (m.ls < 0)) || (decide (m.vw ≤ m.ls))))) (ex_and rfl (Yd2.a 80 rfl) (Yd2.a 90 rfl) rfl) fun _ Yd3 => ?_;clear Yd2
 have hz:=Yd3.z;have s2:=Yd3.a 2 rfl;have s3:=Yd3.a 3 rfl;have s4:=Yd3.a 4 rfl;have s5:=Yd3.a 5 rfl;have s9:=Yd3.a 9 rfl;have s91:=Yd3.a 91 rfl;clear Yd3;refine WE ?_
 go_upto_region 10 with fail
 cases e8 : (u2 && ((decide (m.ls < 0)) || (decide (m.vw ≤ m.ls))))
 rotate_left
 ·refine wp_cond_true ((ev s91 rfl).trans (congrArg Value.bool e8)) ?_
  have HV:=hide (HB.out _ hx6);have V2:=hide (show fiG f r m L D k u0 u1 u2 u3 u4 u5 u6 u7 u8 u9 = false from by unfold fiG;rw [if_neg (Bool.eq_false_iff.1 e2)];rw [if_neg (Bool.eq_false_iff.1 e4)];rw [if_neg (Bool.eq_false_iff.1 e6)];rw [if_pos e8])
  go_wp2
  refine bodyPost_ret (results_tmp rfl _ _ _) rfl ⟨?_,HV.out⟩;rw [V2.out]
  show Ending.returned ((Array.setIfInBounds _ 8 (Value.bool false)).getD 8 undef) = _
  rw [getD_of (at_set _ (by rw [hz];decide))]
 refine wp_cond_false ((ev s91 rfl).trans (congrArg Value.bool e8)) ?_
 go_upto_region 10 with fail
 clear s91;refine WL ?_;have Yd4:=(((((Rp.nil hz).cons s2).cons s3).cons s4).cons s5).cons s9;clear hz s2 s3 s4 s5 s9
 refine Yd4.t _ (ex_move rfl (Yd4.f 3)) fun _ Yd5 => ?_;clear Yd4
 refine Yd5.t (.pointer (some ⟨g,3,none⟩)) (ex_ix rfl (Yd5.f 92) rfl (ixBool g 3 10 cu (by decide) _)) fun _ Yd6 => ?_;clear Yd5
 refine Yd6.t _ (ex_ld rfl (Yd6.f 93) (ldBool (HU.out x6 hx6 3 _ rfl))) fun _ Yd7 => ?_;clear Yd6
 refine Yd7.t _ (ex_move rfl (Yd7.f 94)) fun _ Yd8 => ?_;clear Yd7
 refine Yd8.g 95 rfl rfl _ (fun hc => ex_fa rfl (Yd8.f 5) (MBox.faPlace _ _)) fun Yd9 Yea => ?_;clear Yd8
 refine Yea.g 95 rfl rfl _ (fun hc => ex_ld rfl (Yea.v 96 hc) ((HM.out x6 hx6).ldPlace)) fun Yeb Yec => ?_;clear Yea
 refine Yec.g 95 rfl rfl (.bool (decide (m.p < 0))) (fun hc => ex_bin rfl (Yec.v 97 hc) rfl (lssC _ _ _ _ _)) fun Yed Yee => ?_;clear Yec
 refine Yee.g 95 rfl rfl _ (fun hc => ex_move rfl (Yee.v 98 hc)) fun Yef Yeg => ?_;clear Yee
 refine Yeg.g 99 rfl rfl _ (fun hc => ex_fa rfl (Yeg.f 5) (MBox.faPlace _ _)) fun Yeh Yei => ?_;clear Yeg
 refine Yei.g 99 rfl rfl _ (fun hc => ex_ld rfl (Yei.v 100 hc) ((HM.out x6 hx6).ldPlace)) fun Yej Yek => ?_;clear Yei
 refine Yek.g 99 rfl rfl _ (fun hc => ex_fa rfl (Yek.f 4) (CBox.fa1 _ _)) fun Yel Yem => ?_;clear Yek
 refine Yem.g 99 rfl rfl _ (fun hc => ex_ld rfl (Yem.v 102 hc) ((HC.out x6 hx6).ld1)) fun Yen Yeo => ?_;clear Yem
 refine Yeo.g 99 rfl rfl (.bool (decide (r < m.p))) (fun hc => ex_bin rfl (Yeo.v 101 hc) (Yeo.v 103 hc) (gtrC _ _ _ _ _)) fun Yep Yeq => ?_;clear Yeo
 refine Yeq.g 95 rfl rfl (.bool ((decide (m.p < 0)) || (decide (r < m.p)))) (fun hc => ex_or rfl (Yeq.a 99 rfl) (Yeq.a 104 rfl) hc) fun Yer Yes => ?_;clear Yeq
 refine Yes.g 95 rfl rfl _ (fun hc => ex_move rfl (Yes.v 105 hc)) fun Yet Yeu => ?_;clear Yes
 refine Yeu.g 106 rfl rfl _ (fun hc => ex_move rfl (Yeu.f 2)) fun Yev Yew => ?_;clear Yeu
 refine Yew.g 106 rfl rfl (.bool (decide (k = 3))) (fun hc => ex_bin rfl (Yew.v 107 hc) rfl (eqlC _ _ _ _ _)) fun Yex Yey => ?_;clear Yew
 refine Yey.g 106 rfl rfl _ (fun hc => ex_move rfl (Yey.v 108 hc)) fun Yez Ye0 => ?_;clear Yey
 refine Ye0.g 109 rfl rfl _ (fun hc => ex_fa rfl (Ye0.f 5) (MBox.faPlace _ _)) fun Ye1 Ye2 => ?_;clear Ye0
 refine Ye2.g 109 rfl rfl _ (fun hc => ex_ld rfl (Ye2.v 110 hc) ((HM.out x6 hx6).ldPlace)) fun Ye3 Ye4 => ?_;clear Ye2
 refine Ye4.g 109 rfl rfl (.bool (decide (m.p < 1))) (fun hc => ex_bin rfl (Ye4.v 111 hc) rfl (lssC _ _ _ _ _)) fun Ye5 Ye6 => ?_;clear Ye4
 refine Ye6.g 106 rfl rfl (.bool ((decide (k = 3)) && (decide (m.p < 1)))) (fun hc => ex_and rfl (Ye6.a 109 rfl) (Ye6.a 112 rfl) hc) fun Ye7 Ye8 => ?_;clear Ye6
 refine Ye8.g 95 rfl rfl (.bool (((decide (m.p < 0)) || (decide (r < m.p))) || ((decide (k = 3)) && (decide (m.p < 1))))) (fun hc => ex_or rfl (Ye8.a 106 rfl) (Ye8.a 113 rfl) hc) fun Ye9 Yfa => ?_;clear Ye8
 refine Yfa.g 95 rfl rfl _ (fun hc => ex_move rfl (Yfa.v 114 hc)) fun Yfb Yfc => ?_;clear Yfa
 refine Yfc.g 115 rfl rfl _ (fun hc => ex_move rfl (Yfc.f 2)) fun Yfd Yfe => ?_;clear Yfc
 refine Yfe.g 115 rfl rfl (.bool (decide (k = 2))) (fun hc => ex_bin rfl (Yfe.v 116 hc) rfl (eqlC _ _ _ _ _)) fun Yff Yfg => ?_;clear Yfe
 refine Yfg.g 115 rfl rfl _ (fun hc => ex_move rfl (Yfg.v 117 hc)) fun Yfh Yfi => ?_;clear Yfg
 refine Yfi.g 118 rfl rfl _ (fun hc => ex_fa rfl (Yfi.f 5) (MBox.faPlace _ _)) fun Yfj Yfk => ?_;clear Yfi
 refine Yfk.g 118 rfl rfl _ (fun hc => ex_ld rfl (Yfk.v 119 hc) ((HM.out x6 hx6).ldPlace)) fun Yfl Yfm => ?_;clear Yfk
 refine Yfm.g 118 rfl rfl (.bool (decide (m.p = 0))) (fun hc => ex_bin rfl (Yfm.v 120 hc) rfl (eqlC _ _ _ _ _)) fun Yfn Yfo => ?_;clear Yfm
 refine Yfo.g 118 rfl rfl _ (fun hc => ex_fa rfl (Yfo.f 5) (MBox.faResult _ _)) fun Yfp Yfq => ?_;clear Yfo
 refine Yfq.g 118 rfl rfl _ (fun hc => ex_fa rfl (Yfq.v 122 hc) (faCode _ _)) fun Yfr Yfs => ?_;clear Yfq
 refine Yfs.g 118 rfl rfl _ (fun hc => ex_ld rfl (Yfs.v 123 hc) (s_ldCode (HM.out x6 hx6))) fun Yft Yfu => ?_;clear Yfs
 refine Yfu.g 118 rfl rfl (.bool (decide (m.r.1 = 7))) (fun hc => ex_bin rfl (Yfu.v 124 hc) rfl (eqlC _ _ _ _ _)) fun Yfv Yfw => ?_;clear Yfu
 refine Yfw.g 118 rfl rfl (.bool ((decide (m.p = 0)) != (decide (m.r.1 = 7)))) (fun hc => ex_bin rfl (Yfw.v 121 hc) (Yfw.v 125 hc) (neqB _ _ _ _ _)) fun Yfx Yfy => ?_;clear Yfw
 refine Yfy.g 115 rfl rfl (.bool ((decide (k = 2)) && ((decide (m.p = 0)) != (decide (m.r.1 = 7))))) (fun hc => ex_and rfl (Yfy.a 118 rfl) (Yfy.a 126 rfl) hc) fun Yfz Yf0 => ?_;clear Yfy
 refine Yf0.g 95 rfl rfl (.bool ((((decide (m.p < 0)) || (decide (r < m.p))) || ((decide (k = 3)) && (decide (m.p < 1)))) || ((decide (k = 2)) && ((decide (m.p = 0)) != (decide (m.r.1 = 7)))))) (fun hc => ex_or rfl (Yf0.a 115 rfl) (Yf0.a 127 rfl) hc) fun Yf1 Yf2 => ?_;clear Yf0
 refine Yf2.t (.bool (u3 && ((((decide (m.p < 0)) || (decide (r < m.p))) || ((decide (k = 3)) && (decide (m.p < 1)))) || ((decide (k = 2)) && ((decide (m.p = 0)) != (decide (m.r.1 = 7))))))) (ex_and rfl (Yf2.a 95 rfl) (Yf2.a 128 rfl) rfl) fun _ Yf3 => ?_;clear Yf2
 have hz:=Yf3.z;have s2:=Yf3.a 2 rfl;have s3:=Yf3.a 3 rfl;have s4:=Yf3.a 4 rfl;have s5:=Yf3.a 5 rfl;have s9:=Yf3.a 9 rfl;have s129:=Yf3.a 129 rfl;clear Yf3;refine WE ?_
 go_upto_region 12 with fail
 cases e10 : (u3 && ((((decide (m.p < 0)) || (decide (r < m.p))) || ((decide (k = 3)) && (decide (m.p < 1)))) || ((decide (k = 2)) && ((decide (m.p = 0)) != (decide (m.r.1 = 7))))))
 rotate_left
 ·refine wp_cond_true ((ev s129 rfl).trans (congrArg Value.bool e10)) ?_
  have HV:=hide (HB.out _ hx6);have V2:=hide (show fiG f r m L D k u0 u1 u2 u3 u4 u5 u6 u7 u8 u9 = false from by unfold fiG;rw [if_neg (Bool.eq_false_iff.1 e2)];rw [if_neg (Bool.eq_false_iff.1 e4)];rw [if_neg (Bool.eq_false_iff.1 e6)];rw [if_neg (Bool.eq_false_iff.1 e8)];rw [if_pos e10])
  go_wp2
  refine bodyPost_ret (results_tmp rfl _ _ _) rfl ⟨?_,HV.out⟩;rw [V2.out]
  show Ending.returned ((Array.setIfInBounds _ 8 (Value.bool false)).getD 8 undef) = _
  rw [getD_of (at_set _ (by rw [hz];decide))]
 refine wp_cond_false ((ev s129 rfl).trans (congrArg Value.bool e10)) ?_
 go_upto_region 12 with fail
 clear s129;refine WL ?_;have Yf4:=(((((Rp.nil hz).cons s2).cons s3).cons s4).cons s5).cons s9;clear hz s2 s3 s4 s5 s9
 refine Yf4.t _ (ex_move rfl (Yf4.f 3)) fun _ Yf5 => ?_;clear Yf4
 refine Yf5.t (.pointer (some ⟨g,8,none⟩)) (ex_ix rfl (Yf5.f 130) rfl (ixBool g 8 10 cu (by decide) _)) fun _ Yf6 => ?_;clear Yf5
 refine Yf6.t _ (ex_ld rfl (Yf6.f 131) (ldBool (HU.out x6 hx6 8 _ rfl))) fun _ Yf7 => ?_;clear Yf6
 refine Yf7.t _ (ex_move rfl (Yf7.f 132)) fun _ Yf8 => ?_;clear Yf7
 refine Yf8.g 133 rfl rfl _ (fun hc => ex_fa rfl (Yf8.f 5) (MBox.faLog _ _)) fun Yf9 Yga => ?_;clear Yf8
 refine Yga.g 133 rfl rfl _ (fun hc => ex_ld rfl (Yga.v 134 hc) ((HM.out x6 hx6).ldLog)) fun Ygb Ygc => ?_;clear Yga
 refine Ygc.g 133 rfl rfl _ (fun hc => ex_fa rfl (Ygc.f 4) (CBox.fa1 _ _)) fun Ygd Yge => ?_;clear Ygc
 refine Yge.g 133 rfl rfl _ (fun hc => ex_ld rfl (Yge.v 136 hc) ((HC.out x6 hx6).ld1)) fun Ygf Ygg => ?_;clear Yge
 refine vcall (true && (u8 == true)) (.int .i64 (lg L r)) (want_g rfl rfl (Ygg.a 133 rfl)) (fun hc => ex_call rfl (by simp only [LA,LB,LC,(Ygg.v 135 hc),(Ygg.v 137 hc),evc] <;> rfl) rfl) (fun hc => HL.out x6 hx6) rfl Ygg.z (by decide) (Ygg.kc fun Ygh w2 hb Ygi => ?_);clear Ygg;have hv2:=hx6.trans (hb.mono hx6.size);clear hb
 refine Ygi.g 133 rfl rfl (.bool (!decide ((lg L r) = 0))) (fun hc => ex_bin rfl (Ygi.v 138 hc) rfl (neqC _ _ _ _ _)) fun Ygj Ygk => ?_;clear Ygi
 refine Ygk.t (.bool (u8 && (!decide ((lg L r) = 0)))) (ex_and rfl (Ygk.a 133 rfl) (Ygk.a 139 rfl) rfl) fun _ Ygl => ?_;clear Ygk
 have hz:=Ygl.z;have s2:=Ygl.a 2 rfl;have s3:=Ygl.a 3 rfl;have s4:=Ygl.a 4 rfl;have s5:=Ygl.a 5 rfl;have s9:=Ygl.a 9 rfl;have s140:=Ygl.a 140 rfl;clear Ygl;refine WE ?_
 go_upto_region 14 with fail
 cases e12 : (u8 && (!decide ((lg L r) = 0)))
 rotate_left
 ·refine wp_cond_true ((ev s140 rfl).trans (congrArg Value.bool e12)) ?_
  have HV:=hide (HB.out _ hv2);have V2:=hide (show fiG f r m L D k u0 u1 u2 u3 u4 u5 u6 u7 u8 u9 = false from by unfold fiG;rw [if_neg (Bool.eq_false_iff.1 e2)];rw [if_neg (Bool.eq_false_iff.1 e4)];rw [if_neg (Bool.eq_false_iff.1 e6)];rw [if_neg (Bool.eq_false_iff.1 e8)];rw [if_neg (Bool.eq_false_iff.1 e10)];rw [if_pos e12])
  go_wp2
  refine bodyPost_ret (results_tmp rfl _ _ _) rfl ⟨?_,HV.out⟩;rw [V2.out]
  show Ending.returned ((Array.setIfInBounds _ 8 (Value.bool false)).getD 8 undef) = _
  rw [getD_of (at_set _ (by rw [hz];decide))]
 refine wp_cond_false ((ev s140 rfl).trans (congrArg Value.bool e12)) ?_
 go_upto_region 14 with fail
 clear s140;refine WL ?_;have Ygm:=(((((Rp.nil hz).cons s2).cons s3).cons s4).cons s5).cons s9;clear hz s2 s3 s4 s5 s9
 refine Ygm.t _ (ex_move rfl (Ygm.f 3)) fun _ Ygn => ?_;clear Ygm
 refine Ygn.t (.pointer (some ⟨g,4,none⟩)) (ex_ix rfl (Ygn.f 141) rfl (ixBool g 4 10 cu (by decide) _)) fun _ Ygo => ?_;clear Ygn
 refine Ygo.t _ (ex_ld rfl (Ygo.f 142) (ldBool (HU.out w2 hv2 4 _ rfl))) fun _ Ygp => ?_;clear Ygo
 refine Ygp.t _ (ex_move rfl (Ygp.f 143)) fun _ Ygq => ?_;clear Ygp
 refine Ygq.g 144 rfl rfl _ (fun hc => ex_fa rfl (Ygq.f 5) (MBox.faCommit _ _)) fun Ygr Ygs => ?_;clear Ygq
 refine Ygs.g 144 rfl rfl _ (fun hc => ex_ld rfl (Ygs.v 145 hc) ((HM.out w2 hv2).ldCommit)) fun Ygt Ygu => ?_;clear Ygs
 refine Ygu.g 144 rfl rfl (.bool (decide (m.cm < 0))) (fun hc => ex_bin rfl (Ygu.v 146 hc) rfl (lssC _ _ _ _ _)) fun Ygv Ygw => ?_;clear Ygu
 refine Ygw.g 144 rfl rfl _ (fun hc => ex_move rfl (Ygw.v 147 hc)) fun Ygx Ygy => ?_;clear Ygw
 refine Ygy.g 148 rfl rfl _ (fun hc => ex_fa rfl (Ygy.f 5) (MBox.faCommit _ _)) fun Ygz Yg0 => ?_;clear Ygy
 refine Yg0.g 148 rfl rfl _ (fun hc => ex_ld rfl (Yg0.v 149 hc) ((HM.out w2 hv2).ldCommit)) fun Yg1 Yg2 => ?_;clear Yg0
 refine Yg2.g 148 rfl rfl _ (fun hc => ex_fa rfl (Yg2.f 4) (CBox.fa1 _ _)) fun Yg3 Yg4 => ?_;clear Yg2
 refine Yg4.g 148 rfl rfl _ (fun hc => ex_ld rfl (Yg4.v 151 hc) ((HC.out w2 hv2).ld1)) fun Yg5 Yg6 => ?_;clear Yg4
 refine Yg6.g 148 rfl rfl (.bool (decide (r < m.cm))) (fun hc => ex_bin rfl (Yg6.v 150 hc) (Yg6.v 152 hc) (gtrC _ _ _ _ _)) fun Yg7 Yg8 => ?_;clear Yg6
 refine Yg8.g 144 rfl rfl (.bool ((decide (m.cm < 0)) || (decide (r < m.cm)))) (fun hc => ex_or rfl (Yg8.a 148 rfl) (Yg8.a 153 rfl) hc) fun Yg9 Yha => ?_;clear Yg8
 refine Yha.g 144 rfl rfl _ (fun hc => ex_move rfl (Yha.v 154 hc)) fun Yhb Yhc => ?_;clear Yha
 refine Yhc.g 155 rfl rfl _ (fun hc => ex_move rfl (Yhc.f 3)) fun Yhd Yhe => ?_;clear Yhc
 refine Yhe.g 155 rfl rfl (.pointer (some ⟨g,8,none⟩)) (fun hc => ex_ix rfl (Yhe.v 156 hc) rfl (ixBool g 8 10 cu (by decide) _)) fun Yhf Yhg => ?_;clear Yhe
 refine Yhg.g 155 rfl rfl _ (fun hc => ex_ld rfl (Yhg.v 157 hc) (ldBool (HU.out w2 hv2 8 _ rfl))) fun Yhh Yhi => ?_;clear Yhg
 refine Yhi.g 155 rfl rfl _ (fun hc => ex_move rfl (Yhi.v 158 hc)) fun Yhj Yhk => ?_;clear Yhi
 refine Yhk.g 159 rfl rfl _ (fun hc => ex_fa rfl (Yhk.f 5) (MBox.faCommit _ _)) fun Yhl Yhm => ?_;clear Yhk
 refine Yhm.g 159 rfl rfl _ (fun hc => ex_ld rfl (Yhm.v 160 hc) ((HM.out w2 hv2).ldCommit)) fun Yhn Yho => ?_;clear Yhm
 refine Yho.g 159 rfl rfl _ (fun hc => ex_fa rfl (Yho.f 5) (MBox.faLog _ _)) fun Yhp Yhq => ?_;clear Yho
 refine Yhq.g 159 rfl rfl _ (fun hc => ex_ld rfl (Yhq.v 162 hc) ((HM.out w2 hv2).ldLog)) fun Yhr Yhs => ?_;clear Yhq
 refine Yhs.g 159 rfl rfl _ (fun hc => ex_lenE rfl rfl (Yhs.v 163 hc)) fun Yht Yhu => ?_;clear Yhs
 refine Yhu.g 159 rfl rfl (.bool (decide (((L.length : Nat) : Int) < m.cm))) (fun hc => ex_bin rfl (Yhu.v 161 hc) (Yhu.v 164 hc) (gtrC _ _ _ _ _)) fun Yhv Yhw => ?_;clear Yhu
 refine Yhw.g 155 rfl rfl (.bool (u8 && (decide (((L.length : Nat) : Int) < m.cm)))) (fun hc => ex_and rfl (Yhw.a 159 rfl) (Yhw.a 165 rfl) hc) fun Yhx Yhy => ?_;clear Yhw
 refine Yhy.g 144 rfl rfl (.bool (((decide (m.cm < 0)) || (decide (r < m.cm))) || (u8 && (decide (((L.length : Nat) : Int) < m.cm))))) (fun hc => ex_or rfl (Yhy.a 155 rfl) (Yhy.a 166 rfl) hc) fun Yhz Yh0 => ?_;clear Yhy
 refine Yh0.t (.bool (u4 && (((decide (m.cm < 0)) || (decide (r < m.cm))) || (u8 && (decide (((L.length : Nat) : Int) < m.cm)))))) (ex_and rfl (Yh0.a 144 rfl) (Yh0.a 167 rfl) rfl) fun _ Yh1 => ?_;clear Yh0
 have hz:=Yh1.z;have s2:=Yh1.a 2 rfl;have s3:=Yh1.a 3 rfl;have s4:=Yh1.a 4 rfl;have s5:=Yh1.a 5 rfl;have s9:=Yh1.a 9 rfl;have s168:=Yh1.a 168 rfl;clear Yh1;refine WE ?_
 go_upto_region 16 with fail
 cases e14 : (u4 && (((decide (m.cm < 0)) || (decide (r < m.cm))) || (u8 && (decide (((L.length : Nat) : Int) < m.cm)))))
 rotate_left
 ·refine wp_cond_true ((ev s168 rfl).trans (congrArg Value.bool e14)) ?_
  have HV:=hide (HB.out _ hv2);have V2:=hide (show fiG f r m L D k u0 u1 u2 u3 u4 u5 u6 u7 u8 u9 = false from by unfold fiG;rw [if_neg (Bool.eq_false_iff.1 e2)];rw [if_neg (Bool.eq_false_iff.1 e4)];rw [if_neg (Bool.eq_false_iff.1 e6)];rw [if_neg (Bool.eq_false_iff.1 e8)];rw [if_neg (Bool.eq_false_iff.1 e10)];rw [if_neg (Bool.eq_false_iff.1 e12)];rw [if_pos e14])
  go_wp2
  refine bodyPost_ret (results_tmp rfl _ _ _) rfl ⟨?_,HV.out⟩;rw [V2.out]
  show Ending.returned ((Array.setIfInBounds _ 8 (Value.bool false)).getD 8 undef) = _
  rw [getD_of (at_set _ (by rw [hz];decide))]
 refine wp_cond_false ((ev s168 rfl).trans (congrArg Value.bool e14)) ?_
 go_upto_region 16 with fail
 clear s168;refine vq_start (C:=fun v => Below w1.heap.size w1 v) (by kernel_rfl) (by kernel_rfl) (belN hv2 1) ?_;have Yh2:=(((((Rp.nil hz).cons s2).cons s3).cons s4).cons s5).cons s9;clear hz s2 s3 s4 s5 s9
 refine Yh2.q _ (fun v hv => ex_move rfl (Yh2.f 2)) fun _ Yh3 => ?_;clear Yh2
 refine Yh3.q (.bool (decide (k = 10))) (fun v hv => ex_bin rfl (Yh3.f 169) rfl (eqlC _ _ _ _ _)) fun _ Yh4 => ?_;clear Yh3
 refine Yh4.q _ (fun v hv => ex_move rfl (Yh4.f 170)) fun _ Yh5 => ?_;clear Yh4
 refine Yh5.gq 171 rfl rfl _ (fun hc v hv => ex_fa rfl (Yh5.f 5) (MBox.faLog _ _)) fun Yh6 Yh7 => ?_;clear Yh5
 refine Yh7.gq 171 rfl rfl _ (fun hc v hv => ex_ld rfl (Yh7.v 172 hc) ((HM.out v hv).ldLog)) fun Yh8 Yh9 => ?_;clear Yh7
 refine Yh9.gq 171 rfl rfl _ (fun hc v hv => ex_lenE rfl rfl (Yh9.v 173 hc)) fun Yia Yib => ?_;clear Yh9
 refine Yib.gq 171 rfl rfl (.bool (decide (0 < ((L.length : Nat) : Int)))) (fun hc v hv => ex_bin rfl (Yib.v 174 hc) rfl (gtrC _ _ _ _ _)) fun Yic Yid => ?_;clear Yib
 refine Yid.q (.bool ((decide (k = 10)) && (decide (0 < ((L.length : Nat) : Int))))) (fun v hv => ex_and rfl (Yid.a 171 rfl) (Yid.a 175 rfl) rfl) fun _ Yie => ?_;clear Yid
 refine Yie.q _ (fun v hv => ex_move rfl (Yie.f 176)) fun _ Yif => ?_;clear Yie
 refine Yif.gq 177 rfl rfl _ (fun hc v hv => ex_fa rfl (Yif.f 5) (MBox.faNode _ _)) fun Yig Yih => ?_;clear Yif
 refine Yih.gq 177 rfl rfl _ (fun hc v hv => ex_ld rfl (Yih.v 178 hc) ((HM.out v hv).ldNode)) fun Yii Yij => ?_;clear Yih
 refine Yij.gq 177 rfl rfl _ (fun hc v hv => ex_fa rfl (Yij.f 5) (MBox.faView _ _)) fun Yik Yil => ?_;clear Yij
 refine Yil.gq 177 rfl rfl _ (fun hc v hv => ex_ld rfl (Yil.v 180 hc) ((HM.out v hv).ldView)) fun Yim Yin => ?_;clear Yil
 refine Yin.gq 177 rfl rfl _ (fun hc v hv => ex_move rfl (Yin.f 9)) fun Yio Yip => ?_;clear Yin
 refine Yip.gq 177 rfl rfl (.int .i64 ((m.vw).tmod ((2 * f + 1)))) (fun hc v hv => ex_bin rfl (Yip.v 181 hc) (Yip.v 182 hc) (remC HN.out _ _ _ _)) fun Yiq Yir => ?_;clear Yip
 refine Yir.gq 177 rfl rfl (.bool (!decide (m.nd = ((m.vw).tmod ((2 * f + 1)))))) (fun hc v hv => ex_bin rfl (Yir.v 179 hc) (Yir.v 183 hc) (neqC _ _ _ _ _)) fun Yis Yit => ?_;clear Yir
 refine Yit.q (.bool (((decide (k = 10)) && (decide (0 < ((L.length : Nat) : Int)))) && (!decide (m.nd = ((m.vw).tmod ((2 * f + 1))))))) (fun v hv => ex_and rfl (Yit.a 177 rfl) (Yit.a 184 rfl) rfl) fun _ Yiu => ?_;clear Yit
 have hz:=Yiu.z;have s2:=Yiu.a 2 rfl;have s3:=Yiu.a 3 rfl;have s4:=Yiu.a 4 rfl;have s5:=Yiu.a 5 rfl;have s9:=Yiu.a 9 rfl;have s185:=Yiu.a 185 rfl;clear Yiu;refine vq_nil (fun x16 hx16 => ?_)
 go_upto_region 18 with fail
 cases e16 : (((decide (k = 10)) && (decide (0 < ((L.length : Nat) : Int)))) && (!decide (m.nd = ((m.vw).tmod ((2 * f + 1))))))
 rotate_left
 ·refine wp_cond_true ((ev s185 rfl).trans (congrArg Value.bool e16)) ?_
  have HV:=hide (HB.out _ hx16);have V2:=hide (show fiG f r m L D k u0 u1 u2 u3 u4 u5 u6 u7 u8 u9 = false from by unfold fiG;rw [if_neg (Bool.eq_false_iff.1 e2)];rw [if_neg (Bool.eq_false_iff.1 e4)];rw [if_neg (Bool.eq_false_iff.1 e6)];rw [if_neg (Bool.eq_false_iff.1 e8)];rw [if_neg (Bool.eq_false_iff.1 e10)];rw [if_neg (Bool.eq_false_iff.1 e12)];rw [if_neg (Bool.eq_false_iff.1 e14)];rw [if_pos e16])
  go_wp2
  refine bodyPost_ret (results_tmp rfl _ _ _) rfl ⟨?_,HV.out⟩;rw [V2.out]
  show Ending.returned ((Array.setIfInBounds _ 8 (Value.bool false)).getD 8 undef) = _
  rw [getD_of (at_set _ (by rw [hz];decide))]
 refine wp_cond_false ((ev s185 rfl).trans (congrArg Value.bool e16)) ?_
 go_upto_region 18 with fail
 clear s185;refine WL ?_;have Yiv:=(((((Rp.nil hz).cons s2).cons s3).cons s4).cons s5).cons s9;clear hz s2 s3 s4 s5 s9
 refine Yiv.t _ (ex_move rfl (Yiv.f 3)) fun _ Yiw => ?_;clear Yiv
 refine Yiw.t (.pointer (some ⟨g,9,none⟩)) (ex_ix rfl (Yiw.f 186) rfl (ixBool g 9 10 cu (by decide) _)) fun _ Yix => ?_;clear Yiw
 refine Yix.t _ (ex_ld rfl (Yix.f 187) (ldBool (HU.out x16 hx16 9 _ rfl))) fun _ Yiy => ?_;clear Yix
 refine Yiy.t _ (ex_move rfl (Yiy.f 188)) fun _ Yiz => ?_;clear Yiy
 refine Yiz.g 189 rfl rfl _ (fun hc => ex_fa rfl (Yiz.f 5) (MBox.faVector _ _)) fun Yi0 Yi1 => ?_;clear Yiz
 refine Yi1.g 189 rfl rfl _ (fun hc => ex_ld rfl (Yi1.v 190 hc) ((HM.out x16 hx16).ldVector)) fun Yi2 Yi3 => ?_;clear Yi1
 refine Yi3.g 189 rfl rfl _ (fun hc => ex_lenV rfl rfl (Yi3.v 191 hc)) fun Yi4 Yi5 => ?_;clear Yi3
 refine Yi5.g 189 rfl rfl _ (fun hc => ex_move rfl (Yi5.f 9)) fun Yi6 Yi7 => ?_;clear Yi5
 refine Yi7.g 189 rfl rfl (.bool (!decide (((D.length : Nat) : Int) = (2 * f + 1)))) (fun hc => ex_bin rfl (Yi7.v 192 hc) (Yi7.v 193 hc) (neqC _ _ _ _ _)) fun Yi8 Yi9 => ?_;clear Yi7
 refine Yi9.t (.bool (u9 && (!decide (((D.length : Nat) : Int) = (2 * f + 1))))) (ex_and rfl (Yi9.a 189 rfl) (Yi9.a 194 rfl) rfl) fun _ Yja => ?_;clear Yi9
 have hz:=Yja.z;have s2:=Yja.a 2 rfl;have s3:=Yja.a 3 rfl;have s4:=Yja.a 4 rfl;have s5:=Yja.a 5 rfl;have s9:=Yja.a 9 rfl;have s195:=Yja.a 195 rfl;clear Yja;refine WE ?_
 go_upto_region 20 with fail
 cases e18 : (u9 && (!decide (((D.length : Nat) : Int) = (2 * f + 1))))
 rotate_left
 ·refine wp_cond_true ((ev s195 rfl).trans (congrArg Value.bool e18)) ?_
  have HV:=hide (HB.out _ hx16);have V2:=hide (show fiG f r m L D k u0 u1 u2 u3 u4 u5 u6 u7 u8 u9 = false from by unfold fiG;rw [if_neg (Bool.eq_false_iff.1 e2)];rw [if_neg (Bool.eq_false_iff.1 e4)];rw [if_neg (Bool.eq_false_iff.1 e6)];rw [if_neg (Bool.eq_false_iff.1 e8)];rw [if_neg (Bool.eq_false_iff.1 e10)];rw [if_neg (Bool.eq_false_iff.1 e12)];rw [if_neg (Bool.eq_false_iff.1 e14)];rw [if_neg (Bool.eq_false_iff.1 e16)];rw [if_pos e18])
  go_wp2
  refine bodyPost_ret (results_tmp rfl _ _ _) rfl ⟨?_,HV.out⟩;rw [V2.out]
  show Ending.returned ((Array.setIfInBounds _ 8 (Value.bool false)).getD 8 undef) = _
  rw [getD_of (at_set _ (by rw [hz];decide))]
 refine wp_cond_false ((ev s195 rfl).trans (congrArg Value.bool e18)) ?_
 have HX : ∃ q2 o2,Hid (k = 9 → ∀ v,Below w1.heap.size w1 v → (Instr.indexAt 27 (.slice a2 D.length cv) (.int .i64 m.nd)).run Tryz.prog v = .ok (.pointer (some ⟨q2,o2 + m.nd.toNat * 2,none⟩)) v∧(Instr.loadAt 52 (.pointer (some ⟨q2,o2 + m.nd.toNat * 2,none⟩))).run Tryz.prog v = .ok (.agg #[.int .u64 (D.getD m.nd.toNat (0,0)).1,.int .u64 (D.getD m.nd.toNat (0,0)).2]) v):=by
  have z0 : Hid (k = 9 → 0 ≤ m.nd∧m.nd < (D.length : Int)):=fun hk => by
   obtain ⟨rfl,rfl⟩:=H9.out hk;clear HM HC HU HL HE HR HB;simp only [Bool.true_and,Bool.or_eq_false_iff,decide_eq_false_iff_not,Bool.not_eq_false',decide_eq_true_eq] at e2 e18
   omega
  exact HXm.out z0.out
 obtain ⟨q2,o2,HX⟩:=HX
 go_upto_region 20 with fail
 clear s195;refine vq_start (C:=fun v => Below w1.heap.size w1 v) (by kernel_rfl) (by kernel_rfl) (belN hx16 1) ?_;have Yjb:=(((((Rp.nil hz).cons s2).cons s3).cons s4).cons s5).cons s9;clear hz s2 s3 s4 s5 s9
 refine Yjb.q _ (fun v hv => ex_move rfl (Yjb.f 3)) fun _ Yjc => ?_;clear Yjb
 refine Yjc.q (.pointer (some ⟨g,5,none⟩)) (fun v hv => ex_ix rfl (Yjc.f 196) rfl (ixBool g 5 10 cu (by decide) _)) fun _ Yjd => ?_;clear Yjc
 refine Yjd.q _ (fun v hv => ex_ld rfl (Yjd.f 197) (ldBool (HU.out v hv 5 _ rfl))) fun _ Yje => ?_;clear Yjd
 refine Yje.q _ (fun v hv => ex_move rfl (Yje.f 198)) fun _ Yjf => ?_;clear Yje
 refine Yjf.gq 199 rfl rfl _ (fun hc v hv => ex_fa rfl (Yjf.f 5) (MBox.faDraw _ _)) fun Yjg Yjh => ?_;clear Yjf
 refine Yjh.gq 199 rfl rfl _ (fun hc v hv => ex_ld rfl (Yjh.v 200 hc) ((HM.out v hv).ldDraw)) fun Yji Yjj => ?_;clear Yjh
 refine Yjj.gq 199 rfl rfl (.agg #[.int .u64 0,.int .u64 0]) (fun hc v hv => ex_build rfl (buildDr _)) fun Yjk Yjl => ?_;clear Yjj
 refine Yjl.gq 199 rfl rfl (.bool (decide (m.d = (0,0)))) (fun hc v hv => ex_bin rfl (Yjl.v 201 hc) (Yjl.v 202 hc) (eqlDr _ _ m.d (0,0) _)) fun Yjm Yjn => ?_;clear Yjl
 refine Yjn.q (.bool (u5 && (decide (m.d = (0,0))))) (fun v hv => ex_and rfl (Yjn.a 199 rfl) (Yjn.a 203 rfl) rfl) fun _ Yjo => ?_;clear Yjn
 refine Yjo.q _ (fun v hv => ex_move rfl (Yjo.f 204)) fun _ Yjp => ?_;clear Yjo
 refine Yjp.gq 205 rfl rfl _ (fun hc v hv => ex_move rfl (Yjp.f 2)) fun Yjq Yjr => ?_;clear Yjp
 refine Yjr.gq 205 rfl rfl (.bool (decide (k = 9))) (fun hc v hv => ex_bin rfl (Yjr.v 206 hc) rfl (eqlC _ _ _ _ _)) fun Yjs Yjt => ?_;clear Yjr
 refine Yjt.gq 205 rfl rfl _ (fun hc v hv => ex_move rfl (Yjt.v 207 hc)) fun Yju Yjv => ?_;clear Yjt
 refine Yjv.gq 208 rfl rfl _ (fun hc v hv => ex_fa rfl (Yjv.f 5) (MBox.faDraw _ _)) fun Yjw Yjx => ?_;clear Yjv
 refine Yjx.gq 208 rfl rfl _ (fun hc v hv => ex_ld rfl (Yjx.v 209 hc) ((HM.out v hv).ldDraw)) fun Yjy Yjz => ?_;clear Yjx
 refine Yjz.gq 208 rfl rfl _ (fun hc v hv => ex_fa rfl (Yjz.f 5) (MBox.faVector _ _)) fun Yj0 Yj1 => ?_;clear Yjz
 refine Yj1.gq 208 rfl rfl _ (fun hc v hv => ex_ld rfl (Yj1.v 211 hc) ((HM.out v hv).ldVector)) fun Yj2 Yj3 => ?_;clear Yj1
 refine Yj3.gq 208 rfl rfl _ (fun hc v hv => ex_fa rfl (Yj3.f 5) (MBox.faNode _ _)) fun Yj4 Yj5 => ?_;clear Yj3
 refine Yj5.gq 208 rfl rfl _ (fun hc v hv => ex_ld rfl (Yj5.v 213 hc) ((HM.out v hv).ldNode)) fun Yj6 Yj7 => ?_;clear Yj5
 refine Yj7.gq 208 rfl rfl _ (fun hc v hv => ex_ix rfl (Yj7.v 212 hc) (Yj7.v 214 hc) (HX.out (of_decide_eq_true (and_r hc)) v hv).1) fun Yj8 Yj9 => ?_;clear Yj7
 refine Yj9.gq 208 rfl rfl _ (fun hc v hv => ex_ld rfl (Yj9.v 215 hc) (HX.out (of_decide_eq_true (and_r hc)) v hv).2) fun Yka Ykb => ?_;clear Yj9
 refine Ykb.gq 208 rfl rfl (.bool (!decide (m.d = (D.getD m.nd.toNat (0,0))))) (fun hc v hv => ex_bin rfl (Ykb.v 210 hc) (Ykb.v 216 hc) (neqDr _ _ m.d (D.getD m.nd.toNat (0,0)) _)) fun Ykc Ykd => ?_;clear Ykb
 refine Ykd.gq 205 rfl rfl (.bool ((decide (k = 9)) && (!decide (m.d = (D.getD m.nd.toNat (0,0)))))) (fun hc v hv => ex_and rfl (Ykd.a 208 rfl) (Ykd.a 217 rfl) hc) fun Yke Ykf => ?_;clear Ykd
 refine Ykf.q (.bool ((u5 && (decide (m.d = (0,0)))) || ((decide (k = 9)) && (!decide (m.d = (D.getD m.nd.toNat (0,0))))))) (fun v hv => ex_or rfl (Ykf.a 205 rfl) (Ykf.a 218 rfl) rfl) fun _ Ykg => ?_;clear Ykf
 have hz:=Ykg.z;have s2:=Ykg.a 2 rfl;have s3:=Ykg.a 3 rfl;have s4:=Ykg.a 4 rfl;have s5:=Ykg.a 5 rfl;have s9:=Ykg.a 9 rfl;have s219:=Ykg.a 219 rfl;clear Ykg;refine vq_nil (fun x20 hx20 => ?_)
 go_upto_region 22 with fail
 cases e20 : ((u5 && (decide (m.d = (0,0)))) || ((decide (k = 9)) && (!decide (m.d = (D.getD m.nd.toNat (0,0))))))
 rotate_left
 ·refine wp_cond_true ((ev s219 rfl).trans (congrArg Value.bool e20)) ?_
  have HV:=hide (HB.out _ hx20);have V2:=hide (show fiG f r m L D k u0 u1 u2 u3 u4 u5 u6 u7 u8 u9 = false from by unfold fiG;rw [if_neg (Bool.eq_false_iff.1 e2)];rw [if_neg (Bool.eq_false_iff.1 e4)];rw [if_neg (Bool.eq_false_iff.1 e6)];rw [if_neg (Bool.eq_false_iff.1 e8)];rw [if_neg (Bool.eq_false_iff.1 e10)];rw [if_neg (Bool.eq_false_iff.1 e12)];rw [if_neg (Bool.eq_false_iff.1 e14)];rw [if_neg (Bool.eq_false_iff.1 e16)];rw [if_neg (Bool.eq_false_iff.1 e18)];rw [if_pos e20])
  go_wp2
  refine bodyPost_ret (results_tmp rfl _ _ _) rfl ⟨?_,HV.out⟩;rw [V2.out]
  show Ending.returned ((Array.setIfInBounds _ 8 (Value.bool false)).getD 8 undef) = _
  rw [getD_of (at_set _ (by rw [hz];decide))]
 refine wp_cond_false ((ev s219 rfl).trans (congrArg Value.bool e20)) ?_
 go_upto_region 22 with fail
 clear s219;refine WL ?_;have Ykh:=(((((Rp.nil hz).cons s2).cons s3).cons s4).cons s5).cons s9;clear hz s2 s3 s4 s5 s9
 refine Ykh.t _ (ex_move rfl (Ykh.f 2)) fun _ Yki => ?_;clear Ykh
 refine Yki.t (.bool (decide (k = 14))) (ex_bin rfl (Yki.f 220) rfl (eqlC _ _ _ _ _)) fun _ Ykj => ?_;clear Yki
 refine Ykj.t _ (ex_move rfl (Ykj.f 221)) fun _ Ykk => ?_;clear Ykj
 refine Ykk.g 222 rfl rfl _ (fun hc => ex_fa rfl (Ykk.f 5) (MBox.faResult _ _)) fun Ykl Ykm => ?_;clear Ykk
 refine Ykm.g 222 rfl rfl _ (fun hc => ex_fa rfl (Ykm.v 223 hc) (faCode _ _)) fun Ykn Yko => ?_;clear Ykm
 refine Yko.g 222 rfl rfl _ (fun hc => ex_ld rfl (Yko.v 224 hc) (s_ldCode (HM.out x20 hx20))) fun Ykp Ykq => ?_;clear Yko
 refine Ykq.g 222 rfl rfl (.bool (decide (m.r.1 < 4))) (fun hc => ex_bin rfl (Ykq.v 225 hc) rfl (lssC _ _ _ _ _)) fun Ykr Yks => ?_;clear Ykq
 refine Yks.g 222 rfl rfl _ (fun hc => ex_move rfl (Yks.v 226 hc)) fun Ykt Yku => ?_;clear Yks
 refine Yku.g 227 rfl rfl _ (fun hc => ex_fa rfl (Yku.f 5) (MBox.faResult _ _)) fun Ykv Ykw => ?_;clear Yku
 refine Ykw.g 227 rfl rfl _ (fun hc => ex_fa rfl (Ykw.v 228 hc) (faCode _ _)) fun Ykx Yky => ?_;clear Ykw
 refine Yky.g 227 rfl rfl _ (fun hc => ex_ld rfl (Yky.v 229 hc) (s_ldCode (HM.out x20 hx20))) fun Ykz Yk0 => ?_;clear Yky
 refine Yk0.g 227 rfl rfl (.bool (decide (6 < m.r.1))) (fun hc => ex_bin rfl (Yk0.v 230 hc) rfl (gtrC _ _ _ _ _)) fun Yk1 Yk2 => ?_;clear Yk0
 refine Yk2.g 222 rfl rfl (.bool ((decide (m.r.1 < 4)) || (decide (6 < m.r.1)))) (fun hc => ex_or rfl (Yk2.a 227 rfl) (Yk2.a 231 rfl) hc) fun Yk3 Yk4 => ?_;clear Yk2
 refine Yk4.t (.bool ((decide (k = 14)) && ((decide (m.r.1 < 4)) || (decide (6 < m.r.1))))) (ex_and rfl (Yk4.a 222 rfl) (Yk4.a 232 rfl) rfl) fun _ Yk5 => ?_;clear Yk4
 have hz:=Yk5.z;have s2:=Yk5.a 2 rfl;have s3:=Yk5.a 3 rfl;have s4:=Yk5.a 4 rfl;have s5:=Yk5.a 5 rfl;have s9:=Yk5.a 9 rfl;have s233:=Yk5.a 233 rfl;clear Yk5;refine WE ?_
 go_upto_region 24 with fail
 cases e22 : ((decide (k = 14)) && ((decide (m.r.1 < 4)) || (decide (6 < m.r.1))))
 rotate_left
 ·refine wp_cond_true ((ev s233 rfl).trans (congrArg Value.bool e22)) ?_
  have HV:=hide (HB.out _ hx20);have V2:=hide (show fiG f r m L D k u0 u1 u2 u3 u4 u5 u6 u7 u8 u9 = false from by unfold fiG;rw [if_neg (Bool.eq_false_iff.1 e2)];rw [if_neg (Bool.eq_false_iff.1 e4)];rw [if_neg (Bool.eq_false_iff.1 e6)];rw [if_neg (Bool.eq_false_iff.1 e8)];rw [if_neg (Bool.eq_false_iff.1 e10)];rw [if_neg (Bool.eq_false_iff.1 e12)];rw [if_neg (Bool.eq_false_iff.1 e14)];rw [if_neg (Bool.eq_false_iff.1 e16)];rw [if_neg (Bool.eq_false_iff.1 e18)];rw [if_neg (Bool.eq_false_iff.1 e20)];rw [if_pos e22])
  go_wp2
  refine bodyPost_ret (results_tmp rfl _ _ _) rfl ⟨?_,HV.out⟩;rw [V2.out]
  show Ending.returned ((Array.setIfInBounds _ 8 (Value.bool false)).getD 8 undef) = _
  rw [getD_of (at_set _ (by rw [hz];decide))]
 refine wp_cond_false ((ev s233 rfl).trans (congrArg Value.bool e22)) ?_
 go_upto_region 24 with fail
 clear s233;refine WL ?_;have Yk6:=(((((Rp.nil hz).cons s2).cons s3).cons s4).cons s5).cons s9;clear hz s2 s3 s4 s5 s9
 refine Yk6.t _ (ex_move rfl (Yk6.f 3)) fun _ Yk7 => ?_;clear Yk6
 refine Yk7.t (.pointer (some ⟨g,6,none⟩)) (ex_ix rfl (Yk7.f 234) rfl (ixBool g 6 10 cu (by decide) _)) fun _ Yk8 => ?_;clear Yk7
 refine Yk8.t _ (ex_ld rfl (Yk8.f 235) (ldBool (HU.out x20 hx20 6 _ rfl))) fun _ Yk9 => ?_;clear Yk8
 refine Yk9.t (.bool (!u6)) (ex_not rfl (Yk9.f 236)) fun _ Yla => ?_;clear Yk9
 refine Yla.t _ (ex_move rfl (Yla.f 237)) fun _ Ylb => ?_;clear Yla
 refine Ylb.g 238 rfl rfl _ (fun hc => ex_move rfl (Ylb.f 2)) fun Ylc Yld => ?_;clear Ylb
 refine Yld.g 238 rfl rfl _ (fun hc => ex_fa rfl (Yld.f 5) (MBox.faEntry _ _)) fun Yle Ylf => ?_;clear Yld
 refine Ylf.g 238 rfl rfl _ (fun hc => ex_ld rfl (Ylf.v 240 hc) ((HM.out x20 hx20).ldEntry)) fun Ylg Ylh => ?_;clear Ylf
 refine vcall (true && ((!u6) == false)) (.bool (enK k m.e)) (want_g rfl rfl (Ylh.a 238 rfl)) (fun hc => ex_call rfl (by simp only [LA,LB,LC,(Ylh.v 239 hc),(Ylh.v 241 hc),evc] <;> rfl) rfl) (fun hc => HE.out x20) rfl Ylh.z (by decide) (Ylh.kc fun Yli w3 hb Ylj => ?_);clear Ylh;have hv3:=hx20.trans (hb.mono hx20.size);clear hb
 refine Ylj.t (.bool ((!u6) || (enK k m.e))) (ex_or rfl (Ylj.a 238 rfl) (Ylj.a 242 rfl) rfl) fun _ Ylk => ?_;clear Ylj
 refine Ylk.t _ (ex_move rfl (Ylk.f 243)) fun _ Yll => ?_;clear Ylk
 refine Yll.g 244 rfl rfl _ (fun hc => ex_move rfl (Yll.f 3)) fun Ylm Yln => ?_;clear Yll
 refine Yln.g 244 rfl rfl (.pointer (some ⟨g,7,none⟩)) (fun hc => ex_ix rfl (Yln.v 245 hc) rfl (ixBool g 7 10 cu (by decide) _)) fun Ylo Ylp => ?_;clear Yln
 refine Ylp.g 244 rfl rfl _ (fun hc => ex_ld rfl (Ylp.v 246 hc) (ldBool (HU.out w3 hv3 7 _ rfl))) fun Ylq Ylr => ?_;clear Ylp
 refine Ylr.g 244 rfl rfl (.bool (!u7)) (fun hc => ex_not rfl (Ylr.v 247 hc)) fun Yls Ylt => ?_;clear Ylr
 refine Ylt.g 244 rfl rfl _ (fun hc => ex_move rfl (Ylt.v 248 hc)) fun Ylu Ylv => ?_;clear Ylt
 refine Ylv.g 249 rfl rfl _ (fun hc => ex_fa rfl (Ylv.f 5) (MBox.faResult _ _)) fun Ylw Ylx => ?_;clear Ylv
 refine Ylx.g 249 rfl rfl _ (fun hc => ex_ld rfl (Ylx.v 250 hc) ((HM.out w3 hv3).ldResult)) fun Yly Ylz => ?_;clear Ylx
 refine vcall ((true && (((!u6) || (enK k m.e)) == true)) && ((!u7) == false)) (.bool (resB m.r.1 m.r.2.1 m.r.2.2)) (want_g rfl rfl (Ylz.a 249 rfl)) (fun hc => ex_call rfl (by simp only [LA,LB,LC,(Ylz.v 251 hc),evc] <;> rfl) rfl) (fun hc => HR.out w3) rfl Ylz.z (by decide) (Ylz.kc fun Yl0 w4 hb Yl1 => ?_);clear Ylz;have hv4:=hv3.trans (hb.mono hv3.size);clear hb
 refine Yl1.g 244 rfl rfl (.bool ((!u7) || (resB m.r.1 m.r.2.1 m.r.2.2))) (fun hc => ex_or rfl (Yl1.a 249 rfl) (Yl1.a 252 rfl) hc) fun Yl2 Yl3 => ?_;clear Yl1
 refine Yl3.t (.bool (((!u6) || (enK k m.e)) && ((!u7) || (resB m.r.1 m.r.2.1 m.r.2.2)))) (ex_and rfl (Yl3.a 244 rfl) (Yl3.a 253 rfl) rfl) fun _ Yl4 => ?_;clear Yl3
 refine Yl4.t _ (ex_assign rfl (Yl4.f 254)) fun _ Yl5 => ?_;clear Yl4
 have hz:=Yl5.z;have s2:=Yl5.a 2 rfl;have s3:=Yl5.a 3 rfl;have s4:=Yl5.a 4 rfl;have s5:=Yl5.a 5 rfl;have s8:=Yl5.a 8 rfl;have s9:=Yl5.a 9 rfl;clear Yl5;refine WE ?_;have HV:=hide (HB.out _ hv4);have V2:=hide (show fiG f r m L D k u0 u1 u2 u3 u4 u5 u6 u7 u8 u9 = ((((!u6) || (enK k m.e)) && ((!u7) || (resB m.r.1 m.r.2.1 m.r.2.2)))) from by unfold fiG;rw [if_neg (Bool.eq_false_iff.1 e2)];rw [if_neg (Bool.eq_false_iff.1 e4)];rw [if_neg (Bool.eq_false_iff.1 e6)];rw [if_neg (Bool.eq_false_iff.1 e8)];rw [if_neg (Bool.eq_false_iff.1 e10)];rw [if_neg (Bool.eq_false_iff.1 e12)];rw [if_neg (Bool.eq_false_iff.1 e14)];rw [if_neg (Bool.eq_false_iff.1 e16)];rw [if_neg (Bool.eq_false_iff.1 e18)];rw [if_neg (Bool.eq_false_iff.1 e20)];rw [if_neg (Bool.eq_false_iff.1 e22)])
 go_wp2
 refine bodyPost_ret (results_tmp rfl _ _ _) rfl ⟨?_,HV.out⟩;rw [V2.out];rw [getD_of s8]
 rfl
theorem chk_one (e : En) : (chk [e] 1).1 = ckE e:=by
 rw [chk_lg (by decide) (by decide)]
 show (if (1 : Int) < ((1 : Nat) : Int) then 60 else lgA [] [e]) = ckE e
 rw [if_neg (by decide)]
 show (if er [] e ≠ 0 then er [] e else 0) = ckE e
 have he : er [] e = ckE e:=by
  unfold er
  by_cases h : ckE e ≠ 0
  ·rw [if_pos h]
  ·rw [if_neg h]
   have h0 : ckE e = 0:=by omega
   rw [h0]
   rfl
 rw [he]
 by_cases h : ckE e ≠ 0
 ·rw [if_pos h]
 ·rw [if_neg h];omega
theorem nmB_en (e : En) (k : Int) (hk : k = 2 ∨ k = 14) : nmB e = enK k e:=by
 unfold nmB enK
 rw [if_pos hk,chk_one]
 have h : ckE (nmE e) = if e.c < 0 ∨ 16 ≤ e.c then 62 else if e.n < 1 then 63 else 0:=rfl
 rw [Bool.eq_iff_iff,h];simp only [Bool.and_eq_true,decide_eq_true_eq]
 constructor
 ·rintro ⟨⟨a,b,c⟩,d⟩
  split at d
  ·omega
  ·split at d
   ·omega
   ·exact ⟨by omega,by omega,by omega,a,b,c⟩
 ·rintro ⟨a1,a2,a3,a,b,c⟩
  exact ⟨⟨a,b,c⟩,by rw [if_neg (by omega),if_neg (by omega)]⟩
theorem en_1 (e : En) : enK 1 e = decide (ckE e = 0):=by unfold enK;simp
theorem en_3 (e : En) : enK 3 e = decide (ckE e = 0):=by unfold enK;simp
theorem en_13 (e : En) : enK 13 e = (decide (ckE e = 0) && (decide (e.o.k = 3) || decide (e.o.k = 4))):=by unfold enK;simp
theorem tmod_in {x n : Int} (hx : 0 ≤ x) (hn : 0 < n) : 0 ≤ x.tmod n∧x.tmod n < n:=⟨Int.tmod_nonneg _ hx,Int.tmod_lt_of_pos _ hn⟩
theorem en_z (e : En) : enb e zEn = decide (e = zEn):=by
 rw [Bool.eq_iff_iff,enb_iff,decide_eq_true_eq]
theorem ite_eq_t {c : Prop} [Decidable c] {x : Bool} : ((if c then false else x) = true) = (¬ c∧x = true):=by by_cases h : c <;> simp [h]
theorem lg_nil {r : Int} (h : 1 ≤ r) : lg [] r = 0:=by unfold lg;rw [if_neg (by simp;omega)];rfl
theorem apB_iff (p c r : Int) : (apB p c r = true) = ((c = 7∧p = 0) ∨ (¬ c = 7∧1 ≤ p∧p ≤ r)):=by
 unfold apB inR
 by_cases h : c = 7 <;> simp [h]
theorem own_at (nd : Int) (D : List (Int × Int)) (d : Int × Int) (h0 : 0 ≤ nd) (h1 : nd < (D.length : Int)) : D[nd.toNat]? = some d ↔ d = D.getD nd.toNat (0,0):=by
 have hl : nd.toNat < D.length:=by omega
 rw [List.getD_eq_getElem?_getD,List.getElem?_eq_getElem hl]
 constructor
 ·intro h;exact (Option.some.inj h).symm
 ·intro h;exact congrArg some h.symm
theorem lg_len {L : List En} {r : Int} (h : lg L r = 0) : (L.length : Int) ≤ r:=by
 unfold lg at h
 by_cases hr : r < L.length
 ·rw [if_pos hr] at h;omega
 ·omega
def UF (f r : Int) (m : Mg) (L : List En) (D : List (Int × Int)) (k : Int) (u0 u1 u2 u3 u4 u5 u6 u7 u8 u9 : Bool) (t0 t1 t2 t3 t4 t5 t6 t7 t8 t9 : Nat) : Prop:=(unG m L.length D.length u0 u1 u2 u3 u4 u5 u6 u7 u8 u9 && fiG f r m L D k u0 u1 u2 u3 u4 u5 u6 u7 u8 u9) = (keepB f r m L D 0 t0 && (keepB f r m L D 1 t1 && (keepB f r m L D 2 t2 && (keepB f r m L D 3 t3 && (keepB f r m L D 4 t4 && (keepB f r m L D 5 t5 && (keepB f r m L D 6 t6 && (keepB f r m L D 7 t7 && (keepB f r m L D 8 t8 && (keepB f r m L D 9 t9 && true))))))))))
theorem en_2 (e : En) : enK 2 e = enK 14 e:=(nmB_en e 2 (.inl rfl)).symm.trans (nmB_en e 14 (.inr rfl))
theorem docs (f r : Int) (m : Mg) (L : List En) (D : List (Int × Int)) (hf1 : 1 ≤ f) (hf2 : f ≤ 3) (hr1 : 1 ≤ r) (hr2 : r ≤ 256) : UF f r m L D 9 true false false false false true false false false true 1 0 0 0 0 12 0 0 0 20∧UF f r m L D 10 true true false false true true false false true true 1 3 0 0 10 11 0 0 19 20∧UF f r m L D 1 false false false false false false true false false false 0 0 0 0 0 0 13 0 0 0∧UF f r m L D 2 true true false true false false true true false false 1 3 0 8 0 0 15 16 0 0∧UF f r m L D 3 true true false true true false true false false true 2 3 0 7 9 0 13 0 0 20∧UF f r m L D 4 true true false true false false false false false true 1 3 0 6 0 0 0 0 0 20∧UF f r m L D 5 true true false false true false false false false true 2 3 0 0 9 0 0 0 0 20∧UF f r m L D 6 true true false false false false false false false true 1 4 0 0 0 0 0 0 0 20∧UF f r m L D 7 true true true false true false false false true true 1 4 5 0 10 0 0 0 18 20∧UF f r m L D 8 true true false false true false false false true true 2 4 0 0 10 0 0 0 18 20∧UF f r m L D 11 true true false false false false false false false true 1 3 0 0 0 0 0 0 0 20∧UF f r m L D 12 true true false false true false false false true true 1 3 0 0 10 0 0 0 18 20∧UF f r m L D 13 false false false true false false true false false false 0 0 0 6 0 0 14 0 0 0∧UF f r m L D 14 true true false false true false true true false false 1 3 0 0 9 0 15 17 0 0:=by
 have T : m.vw < 0 ∨ (0 ≤ m.vw.tmod (2 * f + 1)∧m.vw.tmod (2 * f + 1) < 2 * f + 1):=by
  by_cases h : m.vw < 0
  ·exact .inl h
  ·exact .inr (tmod_in (by omega) (by omega))
 have G : ¬ lg L r = 0 ∨ (L.length : Int) ≤ r:=by
  by_cases h : lg L r = 0
  ·exact .inr (lg_len h)
  ·exact .inl h
 refine ⟨?_,?_,?_,?_,?_,?_,?_,?_,?_,?_,?_,?_,?_,?_⟩ <;> (
  unfold UF
  rw [Bool.eq_iff_iff];simp only [unG,fiG,keepB,blB,inR,prB,plB,owB,rdB,chk_one,chk_lg hr1 hr2,nmB_en m.e 14 (Or.inr rfl),en_1,en_2,en_3,en_13,en_z,Bool.true_or,Bool.false_or,Bool.true_and,Bool.false_and,Bool.or_false,Bool.and_true,Bool.not_true,Bool.not_false,Bool.or_true,Bool.and_false,Bool.and_eq_true,Bool.or_eq_true,decide_eq_true_eq,ite_eq_t,apB_iff,Bool.false_eq_true,if_false,if_true,Int.reduceEq,decide_false,decide_true,bne_iff_ne,ne_eq,decide_eq_decide,Bool.not_eq_true',decide_eq_false_iff_not,Nat.reduceEqDiff,reduceIte,Nat.one_ne_zero,and_true,and_assoc,not_or,not_and,not_not,Bool.not_eq_true]
  generalize m.vw.tmod (2 * f + 1) = q at *)
 ·have W : 0 ≤ m.nd → m.nd < (D.length : Int) → (D[m.nd.toNat]? = some m.d ↔ m.d = D.getD m.nd.toNat (0,0)):=own_at m.nd D m.d
  generalize (D[m.nd.toNat]? = some m.d) = X at *
  generalize (m.d = D.getD m.nd.toNat (0,0)) = Y at *
  constructor
  ·intro h
   obtain ⟨b1,b2,b3,b4,b5,b6,b7,b8,b9,b10,b11,b12⟩:=h
   exact ⟨by omega,by omega,b1,b2,b3,b4,b11,by omega,by omega,(W (by omega) (by omega)).2 b12,b5,b6,by omega,b10⟩
  ·intro h
   obtain ⟨b1,b2,b3,b4,b5,b6,b7,b8,b9,b10,b11,b12,b13,b14⟩:=h
   exact ⟨b3,b4,b5,b6,b11,b12,by omega,by omega,by omega,b14,b7,(W (by omega) (by omega)).1 b10⟩
 ·have W : L.length = 0 → lg L r = 0:=fun h => by rw [List.length_eq_zero_iff.1 h];exact lg_nil hr1
  generalize lg L r = y at *
  constructor
  ·intro h
   obtain ⟨b1,b2,b3,b4,b5,b6,b7,b8,b9,b10,b11,b12,b13,b14,b15⟩:=h
   exact ⟨by omega,by omega,by omega,by omega,b1,b2,by omega,by omega,b15,b3,b4,by omega,b14⟩
  ·intro h
   obtain ⟨b1,b2,b3,b4,b5,b6,b7,b8,b9,b10,b11,b12,b13⟩:=h
   have y0 : y = 0:=by
    rcases b12 with e | e
    ·exact W e
    ·exact e.2
   have yl : (L.length : Int) ≤ r:=by omega
   exact ⟨b5,b6,b10,b11,by omega,by omega,by omega,by omega,y0,by omega,by omega,by omega,by omega,b13,b9⟩
 all_goals (constructor <;> intro h <;> (repeat' apply And.intro) <;> first | omega | (simp [h];done))
structure CfB (w : World) (q : Nat) (c : Cf) : Prop where
 lt : q < w.heap.size
 cell : ∀ i x,([.int .i64 c.f,.int .i64 c.r,.int .i64 c.p,.bool c.u] : List Value)[i]? = some x → w.cell? ⟨q,i,none⟩ = some x
theorem CfB.bel {w w' : World} {q : Nat} {c : Cf} (h : CfB w q c) (hb : Below w.heap.size w w') : CfB w' q c:=⟨Nat.lt_of_lt_of_le h.lt hb.size,fun i x hx => (hb.cell (p:=⟨q,i,none⟩) h.lt).trans (h.cell i x hx)⟩
theorem CfB.ldAll {w : World} {q : Nat} {c : Cf} (h : CfB w q c) : (Instr.loadAt 23 (.pointer (some ⟨q,0,none⟩))).run Tryz.prog w = .ok (.agg #[.int .i64 c.f,.int .i64 c.r,.int .i64 c.p,.bool c.u]) w:=by
 have c0:=h.cell 0 _ rfl;have c1:=h.cell 1 _ rfl;have c2:=h.cell 2 _ rfl;have c3:=h.cell 3 _ rfl
 go_simp
theorem MBox.ldAll {w : World} {q : Nat} {m : Mg} {s t : Value} (h : MBox w q m s t) : (Instr.loadAt 54 (.pointer (some ⟨q,0,none⟩))).run Tryz.prog w = .ok (m.val s t) w:=by
 obtain ⟨x0,x1,x2,x3,x4,x5,x6,x7,x8,x9,x10,x11,x12,x13,x14,x15,x16,x17⟩:=h.all
 go_simp
 rfl
theorem cfB_r {c : Cf} (h : cfB c = true) : 1 ≤ c.r∧c.r ≤ 256:=by
 unfold cfB inR at h
 simp at h
 omega
theorem usL_none {k : Int} (h : ((usL k).length : Int) = 0) : kdB k = false:=by
 cases hk : kdB k with
 | false => rfl
 | true =>
  unfold kdB inR at hk
  simp at hk
  have : k = 1 ∨ k = 2 ∨ k = 3 ∨ k = 4 ∨ k = 5 ∨ k = 6 ∨ k = 7 ∨ k = 8 ∨ k = 9 ∨ k = 10 ∨ k = 11 ∨ k = 12 ∨ k = 13 ∨ k = 14:=by omega
  rcases this with rfl | rfl | rfl | rfl | rfl | rfl | rfl | rfl | rfl | rfl | rfl | rfl | rfl | rfl <;> revert h <;> decide
theorem usL_some {k : Int} (h : ¬ ((usL k).length : Int) = 0) : kdB k = true:=by
 cases hk : kdB k with
 | true => rfl
 | false =>
  unfold kdB inR at hk
  simp at hk
  refine absurd ?_ h
  unfold usL usN
  rw [if_neg (show ¬ k = 1 by omega),if_neg (show ¬ k = 2 by omega),if_neg (show ¬ k = 3 by omega),if_neg (show ¬ k = 4 by omega),if_neg (show ¬ k = 5 by omega),if_neg (show ¬ k = 6 by omega),if_neg (show ¬ k = 7 by omega),if_neg (show ¬ k = 8 by omega),if_neg (show ¬ k = 9 by omega),if_neg (show ¬ k = 10 by omega),if_neg (show ¬ k = 11 by omega),if_neg (show ¬ k = 12 by omega),if_neg (show ¬ k = 13 by omega),if_neg (show ¬ k = 14 by omega)]
  rfl
theorem doc_all (k : Int) (hk : kdB k = true) : ∃ u0 u1 u2 u3 u4 u5 u6 u7 u8 u9 : Bool,usL k = [u0,u1,u2,u3,u4,u5,u6,u7,u8,u9]∧(k = 9 → u0 = true∧u9 = true)∧∀ (f r : Int) (m : Mg) (L : List En) (D : List (Int × Int)),m.k = k → 1 ≤ f → f ≤ 3 → 1 ≤ r → r ≤ 256 → (unG m L.length D.length u0 u1 u2 u3 u4 u5 u6 u7 u8 u9 && fiG f r m L D k u0 u1 u2 u3 u4 u5 u6 u7 u8 u9) = (List.range 10).all (fun j => keepB f r m L D j (tabA k.toNat j)):=by
 unfold kdB inR at hk
 simp at hk
 have : k = 1 ∨ k = 2 ∨ k = 3 ∨ k = 4 ∨ k = 5 ∨ k = 6 ∨ k = 7 ∨ k = 8 ∨ k = 9 ∨ k = 10 ∨ k = 11 ∨ k = 12 ∨ k = 13 ∨ k = 14:=by omega
 rcases this with rfl | rfl | rfl | rfl | rfl | rfl | rfl | rfl | rfl | rfl | rfl | rfl | rfl | rfl
 ·exact ⟨false,false,false,false,false,false,true,false,false,false,rfl,fun h => absurd h (by decide),fun f r m L D _ h1 h2 h3 h4 => Eq.trans (docs f r m L D h1 h2 h3 h4).2.2.1 rfl⟩
 ·exact ⟨true,true,false,true,false,false,true,true,false,false,rfl,fun h => absurd h (by decide),fun f r m L D _ h1 h2 h3 h4 => Eq.trans (docs f r m L D h1 h2 h3 h4).2.2.2.1 rfl⟩
 ·exact ⟨true,true,false,true,true,false,true,false,false,true,rfl,fun h => absurd h (by decide),fun f r m L D _ h1 h2 h3 h4 => Eq.trans (docs f r m L D h1 h2 h3 h4).2.2.2.2.1 rfl⟩
 ·exact ⟨true,true,false,true,false,false,false,false,false,true,rfl,fun h => absurd h (by decide),fun f r m L D _ h1 h2 h3 h4 => Eq.trans (docs f r m L D h1 h2 h3 h4).2.2.2.2.2.1 rfl⟩
 ·exact ⟨true,true,false,false,true,false,false,false,false,true,rfl,fun h => absurd h (by decide),fun f r m L D _ h1 h2 h3 h4 => Eq.trans (docs f r m L D h1 h2 h3 h4).2.2.2.2.2.2.1 rfl⟩
 ·exact ⟨true,true,false,false,false,false,false,false,false,true,rfl,fun h => absurd h (by decide),fun f r m L D _ h1 h2 h3 h4 => Eq.trans (docs f r m L D h1 h2 h3 h4).2.2.2.2.2.2.2.1 rfl⟩
 ·exact ⟨true,true,true,false,true,false,false,false,true,true,rfl,fun h => absurd h (by decide),fun f r m L D _ h1 h2 h3 h4 => Eq.trans (docs f r m L D h1 h2 h3 h4).2.2.2.2.2.2.2.2.1 rfl⟩
 ·exact ⟨true,true,false,false,true,false,false,false,true,true,rfl,fun h => absurd h (by decide),fun f r m L D _ h1 h2 h3 h4 => Eq.trans (docs f r m L D h1 h2 h3 h4).2.2.2.2.2.2.2.2.2.1 rfl⟩
 ·exact ⟨true,false,false,false,false,true,false,false,false,true,rfl,fun _ => ⟨rfl,rfl⟩,fun f r m L D _ h1 h2 h3 h4 => Eq.trans (docs f r m L D h1 h2 h3 h4).1 rfl⟩
 ·exact ⟨true,true,false,false,true,true,false,false,true,true,rfl,fun h => absurd h (by decide),fun f r m L D _ h1 h2 h3 h4 => Eq.trans (docs f r m L D h1 h2 h3 h4).2.1 rfl⟩
 ·exact ⟨true,true,false,false,false,false,false,false,false,true,rfl,fun h => absurd h (by decide),fun f r m L D _ h1 h2 h3 h4 => Eq.trans (docs f r m L D h1 h2 h3 h4).2.2.2.2.2.2.2.2.2.2.1 rfl⟩
 ·exact ⟨true,true,false,false,true,false,false,false,true,true,rfl,fun h => absurd h (by decide),fun f r m L D _ h1 h2 h3 h4 => Eq.trans (docs f r m L D h1 h2 h3 h4).2.2.2.2.2.2.2.2.2.2.2.1 rfl⟩
 ·exact ⟨false,false,false,true,false,false,true,false,false,false,rfl,fun h => absurd h (by decide),fun f r m L D _ h1 h2 h3 h4 => Eq.trans (docs f r m L D h1 h2 h3 h4).2.2.2.2.2.2.2.2.2.2.2.2.1 rfl⟩
 ·exact ⟨true,true,false,false,true,false,true,true,false,false,rfl,fun h => absurd h (by decide),fun f r m L D _ h1 h2 h3 h4 => Eq.trans (docs f r m L D h1 h2 h3 h4).2.2.2.2.2.2.2.2.2.2.2.2.2 rfl⟩
theorem refcheck7 (c : Cf) (m : Mg) (a1 a2 : Option Addr) (cl cv : Nat) (L : List En) (D : List (Int × Int)) (w : World) (hL : SlY yE w a1 L.length cl L) (hfit : ∀ e ∈ L,e.fits) (hD : SlY yD w a2 D.length cv D) (hfe : m.e.fits) :
  Calls Tryz.prog 10 #[c.val,m.val (.slice a1 L.length cl) (.slice a2 D.length cv)] w fun e w' => e = .returned (.int .i64 (ckM c m L D))∧Below w.heap.size w w':=by
 go_enter Tryz.func10,Tryz.ntmps10
 go_upto_region 1 with (refine boxMk rfl (.tmp 1) rfl m _ _ rfl ?_;intro q1 w1 hq1 M1 b1 z1)
 have hq2 : q1 = w.heap.size + 1:=by first | exact hq1 | simpa using hq1
 subst hq2;have hB : Below w.heap.size w w1:=(BR.alloc LR _).trans (b1.mono (by simp))
 have hc1 : CfB w1 w.heap.size c:=⟨Nat.lt_of_succ_lt M1.lt,fun i x hx => (b1.cell (p:=⟨w.heap.size,i,none⟩) (by simp)).trans (by
  match i,hx with
  | 0,hx | 1,hx | 2,hx | 3,hx => cases hx;unfold Cf.val;simp
  | (j + 4),hx => simp at hx)⟩
 have HC : Hid (∀ v,Below w1.heap.size w1 v → CfB v w.heap.size c):=fun v hv => hc1.bel hv
 have HM : Hid (∀ v,Below w1.heap.size w1 v → MBox v (w.heap.size + 1) m (.slice a1 L.length cl) (.slice a2 D.length cv)):=fun v hv => M1.bel hv
 have HB : Hid (∀ v,Below w1.heap.size w1 v → Below w.heap.size w v):=fun v hv => hB.trans (hv.mono hB.size)
 have HL : Hid (∀ v,Below w1.heap.size w1 v → SlY yE v a1 L.length cl L):=fun v hv => hL.later (HB.out v hv)
 have HD : Hid (∀ v,Below w1.heap.size w1 v → SlY yD v a2 D.length cv D):=fun v hv => hD.later (HB.out v hv)
 have HFI:=hide hfit;have HFE:=hide hfe.ow;have h1 : Below w1.heap.size w1 w1:=BR;clear M1 b1 z1 hB hq1 hc1 hL hD hfit hfe;refine WL ?_;refine vl_gen (fun T => T.size = 29∧T[2]? = some (gw true (.pointer (some ⟨w.heap.size,0,none⟩)))∧T[3]? = some (gw true (.pointer (some ⟨w.heap.size + 1,0,none⟩)))) ⟨rfl,rfl,rfl⟩ (fun T0 ⟨hz,s2,s3⟩ => ?_);have Ya:=((Rp.nil hz).cons s2).cons s3;clear hz s2 s3
 refine Ya.t _ (ex_ld rfl (Ya.f 2) ((HC.out w1 h1).ldAll)) fun _ Yb => ?_;clear Ya
 refine vcall true (.bool (cfB c)) WN (fun hc => ex_call rfl (by simp only [LA,LB,LC,(Yb.f 7),evc] <;> rfl) rfl) (fun hc => refConfig7 c w1) rfl Yb.z (by decide) (Yb.kc fun Yc w2 hb Yd => ?_);clear Yb;have h2:=h1.trans (hb.mono h1.size);clear hb
 refine Yd.t (.bool (!(cfB c))) (ex_not rfl (Yd.f 8)) fun _ Ye => ?_;clear Yd
 have hz:=Ye.z;have s2:=Ye.a 2 rfl;have s3:=Ye.a 3 rfl;have s9:=Ye.a 9 rfl;clear Ye;refine WE ?_
 go_upto_region 3 with fail
 cases e1 : (!(cfB c))
 rotate_left
 ·refine wp_cond_true ((ev s9 rfl).trans (congrArg Value.bool e1)) ?_
  have HV:=hide (HB.out _ h2);have V2:=hide (show ckM c m L D = 1 from by unfold ckM;rw [if_pos (by simpa using e1)])
  go_wp2
  refine bodyPost_ret (results_tmp rfl _ _ _) rfl ⟨?_,HV.out⟩;rw [V2.out]
  show Ending.returned ((Array.setIfInBounds _ 4 (Value.int IntKind.i64 1)).getD 4 undef) = _
  rw [getD_of (at_set _ (by rw [hz];decide))]
 refine wp_cond_false ((ev s9 rfl).trans (congrArg Value.bool e1)) ?_
 go_upto_region 3 with fail
 clear s9;refine WL ?_;have Yf:=((Rp.nil hz).cons s2).cons s3;clear hz s2 s3
 refine Yf.t _ (ex_fa rfl (Yf.f 3) (MBox.faKind _ _)) fun _ Yg => ?_;clear Yf
 refine Yg.t _ (ex_ld rfl (Yg.f 10) ((HM.out w2 h2).ldKind)) fun _ Yh => ?_;clear Yg
 refine Yh.t _ (ex_assign rfl (Yh.f 11)) fun _ Yi => ?_;clear Yh
 have hz:=Yi.z;have s2:=Yi.a 2 rfl;have s3:=Yi.a 3 rfl;have s5:=Yi.a 5 rfl;clear Yi;refine WE ?_
 go_upto_region 4 with fail
 refine WL ?_;have Yj:=(((Rp.nil hz).cons s2).cons s3).cons s5;clear hz s2 s3 s5
 refine Yj.t _ (ex_move rfl (Yj.f 5)) fun _ Yk => ?_;clear Yj
 refine Yk.c (ex_call rfl (by simp only [LA,LB,LC,(Yk.f 12),evc] <;> rfl) rfl) (uses_all m.k w2) ?_;rintro e w3 ⟨v6,rfl,O,hb⟩;obtain ⟨au,cu,rfl,_,_,hau1,hau2⟩:=O.form;refine ⟨_,rfl,Yk.k fun Yl Ym => ?_⟩;clear Yk;have h3:=h2.trans (hb.mono h2.size);clear hb
 refine Ym.t _ (ex_assign rfl (Ym.f 13)) fun _ Yn => ?_;clear Ym
 have hz:=Yn.z;have s2:=Yn.a 2 rfl;have s3:=Yn.a 3 rfl;have s5:=Yn.a 5 rfl;have s6:=Yn.a 6 rfl;clear Yn;refine WE ?_
 go_upto_region 5 with fail
 refine WL ?_;have Yo:=((((Rp.nil hz).cons s2).cons s3).cons s5).cons s6;clear hz s2 s3 s5 s6
 refine Yo.t _ (ex_move rfl (Yo.f 6)) fun _ Yp => ?_;clear Yo
 refine Yp.t _ (ex_lenB rfl rfl (Yp.f 14)) fun _ Yq => ?_;clear Yp
 refine Yq.t (.bool (decide (((usL m.k).length : Int) = 0))) (ex_bin rfl (Yq.f 15) rfl (eqlC _ _ _ _ _)) fun _ Yr => ?_;clear Yq
 have hz:=Yr.z;have s2:=Yr.a 2 rfl;have s3:=Yr.a 3 rfl;have s5:=Yr.a 5 rfl;have s6:=Yr.a 6 rfl;have s16:=Yr.a 16 rfl;clear Yr;refine WE ?_
 go_upto_region 7 with fail
 cases e5 : (decide (((usL m.k).length : Int) = 0))
 rotate_left
 ·refine wp_cond_true ((ev s16 rfl).trans (congrArg Value.bool e5)) ?_
  have HV:=hide (HB.out _ h3);have V2:=hide (show ckM c m L D = 70 from by unfold ckM;rw [if_neg (by simpa using e1),if_pos (usL_none (of_decide_eq_true e5))])
  go_wp2
  refine bodyPost_ret (results_tmp rfl _ _ _) rfl ⟨?_,HV.out⟩;rw [V2.out]
  show Ending.returned ((Array.setIfInBounds _ 4 (Value.int IntKind.i64 70)).getD 4 undef) = _
  rw [getD_of (at_set _ (by rw [hz];decide))]
 refine wp_cond_false ((ev s16 rfl).trans (congrArg Value.bool e5)) ?_
 have hc : cfB c = true:=by simpa using e1
 have hk : kdB m.k = true:=usL_some (of_decide_eq_false e5);obtain ⟨u0,u1,u2,u3,u4,u5,u6,u7,u8,u9,hul,h9,hdoc⟩:=doc_all m.k hk
 have hne : usL m.k ≠ []:=by rw [hul];simp
 obtain ⟨g,rfl⟩ : ∃ g,au = some ⟨g,0,none⟩:=by
  cases au with
  | none => exact absurd (hau1 rfl).1 hne
  | some x => obtain ⟨g,e,_⟩:=hau2 x rfl;exact ⟨g,by rw [e]⟩
 obtain ⟨g2,eg,hgl,hgs⟩:=hau2 _ rfl
 obtain rfl : g = g2:=by simpa using eg
 have HG : Hid (∀ v,Below w3.heap.size w3 v → g < v.heap.size∧∀ (j : Nat) (b : Bool),([u0,u1,u2,u3,u4,u5,u6,u7,u8,u9] : List Bool)[j]? = some b → v.cell? ⟨g,j,none⟩ = some (.bool b)):=fun v hv => ⟨Nat.lt_of_lt_of_le hgs hv.size,fun j b hj => (hv.cell (p:=⟨g,j,none⟩) hgs).trans (by have:=O.cell kB j b (by rw [hul];exact hj) 0 (.bool b) rfl;simpa [yB] using this)⟩
 rw [show (usL m.k).length = 10 by rw [hul];rfl] at s6;have H9:=hide h9;have HF:=hide (cfB_f hc);have HDOC:=hide hdoc;have hcr:=cfB_r hc
 have HM2 : Hid (∀ v,Below w3.heap.size w3 v → Below w1.heap.size w1 v):=fun v hv => h3.trans (hv.mono h3.size)
 replace HM : Hid (∀ v,Below w3.heap.size w3 v → MBox v (w.heap.size + 1) m (.slice a1 L.length cl) (.slice a2 D.length cv)):=fun v hv => HM.out v (HM2.out v hv)
 replace HC : Hid (∀ v,Below w3.heap.size w3 v → CfB v w.heap.size c):=fun v hv => HC.out v (HM2.out v hv)
 replace HL : Hid (∀ v,Below w3.heap.size w3 v → SlY yE v a1 L.length cl L):=fun v hv => HL.out v (HM2.out v hv)
 replace HD : Hid (∀ v,Below w3.heap.size w3 v → SlY yD v a2 D.length cv D):=fun v hv => HD.out v (HM2.out v hv)
 replace HB : Hid (∀ v,Below w3.heap.size w3 v → Below w.heap.size w v):=fun v hv => HB.out v (HM2.out v hv)
 have h3y : Below w3.heap.size w3 w3:=BR;clear O hau1 hau2 eg hgl hgs hne hul h9 hdoc h1 h2 h3 HM2 s16 e5;have h3:=h3y;clear h3y
 go_upto_region 7 with fail
 refine WL ?_;have Ys:=((((Rp.nil hz).cons s2).cons s3).cons s5).cons s6;clear hz s2 s3 s5 s6
 refine Ys.t _ (ex_ld rfl (Ys.f 3) ((HM.out w3 h3).ldAll)) fun _ Yt => ?_;clear Ys
 refine Yt.t _ (ex_move rfl (Yt.f 6)) fun _ Yu => ?_;clear Yt
 refine vcall true (.bool (unG m L.length D.length u0 u1 u2 u3 u4 u5 u6 u7 u8 u9)) WN (fun hc => ex_call rfl (by simp only [LA,LB,LC,(Yu.f 17),(Yu.f 18),evc] <;> rfl) rfl) (fun hc => unused_any m a1 a2 L.length cl D.length cv g cu u0 u1 u2 u3 u4 u5 u6 u7 u8 u9 w3 (HG.out w3 h3).1 (HG.out w3 h3).2) rfl Yu.z (by decide) (Yu.kc fun Yv w4 hb Yw => ?_);clear Yu;have h4:=h3.trans (hb.mono h3.size);clear hb
 refine Yw.t (.bool (!(unG m L.length D.length u0 u1 u2 u3 u4 u5 u6 u7 u8 u9))) (ex_not rfl (Yw.f 19)) fun _ Yx => ?_;clear Yw
 refine Yx.t _ (ex_move rfl (Yx.f 20)) fun _ Yy => ?_;clear Yx
 refine Yy.g 21 rfl rfl _ (fun hc => ex_ld rfl (Yy.f 2) ((HC.out w4 h4).ldAll)) fun Yz Y0 => ?_;clear Yy
 refine Y0.g 21 rfl rfl _ (fun hc => ex_ld rfl (Y0.f 3) ((HM.out w4 h4).ldAll)) fun Y1 Y2 => ?_;clear Y0
 refine Y2.g 21 rfl rfl _ (fun hc => ex_move rfl (Y2.f 5)) fun Y3 Y4 => ?_;clear Y2
 refine Y4.g 21 rfl rfl _ (fun hc => ex_move rfl (Y4.f 6)) fun Y5 Y6 => ?_;clear Y4
 refine vcall (true && ((!(unG m L.length D.length u0 u1 u2 u3 u4 u5 u6 u7 u8 u9)) == false)) (.bool (fiG c.f c.r m L D m.k u0 u1 u2 u3 u4 u5 u6 u7 u8 u9)) (want_g rfl rfl (Y6.a 21 rfl)) (fun hc => ex_call rfl (by simp only [LA,LB,LC,(Y6.v 22 hc),(Y6.v 23 hc),(Y6.v 24 hc),(Y6.v 25 hc),evc] <;> rfl) rfl) (fun hc => fields_any c.f c.r c.p c.u m a1 a2 cl cv g cu m.k u0 u1 u2 u3 u4 u5 u6 u7 u8 u9 L D w4 HF.out (HL.out w4 h4) HFI.out (HD.out w4 h4) HFE.out (HG.out w4 h4).1 (HG.out w4 h4).2 H9.out) rfl Y6.z (by decide) (Y6.kc fun Y7 w5 hb Y8 => ?_);clear Y6;have h5:=h4.trans (hb.mono h4.size);clear hb
 refine Y8.g 21 rfl rfl (.bool (!(fiG c.f c.r m L D m.k u0 u1 u2 u3 u4 u5 u6 u7 u8 u9))) (fun hc => ex_not rfl (Y8.v 26 hc)) fun Y9 Yba => ?_;clear Y8
 refine Yba.t (.bool ((!(unG m L.length D.length u0 u1 u2 u3 u4 u5 u6 u7 u8 u9)) || (!(fiG c.f c.r m L D m.k u0 u1 u2 u3 u4 u5 u6 u7 u8 u9)))) (ex_or rfl (Yba.a 21 rfl) (Yba.a 27 rfl) rfl) fun _ Ybb => ?_;clear Yba
 have hz:=Ybb.z;have s2:=Ybb.a 2 rfl;have s3:=Ybb.a 3 rfl;have s5:=Ybb.a 5 rfl;have s6:=Ybb.a 6 rfl;have s28:=Ybb.a 28 rfl;clear Ybb;refine WE ?_
 go_upto_region 9 with fail
 cases e7 : ((!(unG m L.length D.length u0 u1 u2 u3 u4 u5 u6 u7 u8 u9)) || (!(fiG c.f c.r m L D m.k u0 u1 u2 u3 u4 u5 u6 u7 u8 u9)))
 rotate_left
 ·refine wp_cond_true ((ev s28 rfl).trans (congrArg Value.bool e7)) ?_
  have HV:=hide (HB.out _ h5);have V2:=hide (show ckM c m L D = 71 from by unfold ckM;rw [if_neg (by simp [hc]),if_neg (by simp [hk]),← HDOC.out c.f c.r m L D rfl HF.out.1 HF.out.2 hcr.1 hcr.2,if_neg (by rw [Bool.and_eq_true];rintro ⟨x,y⟩;rw [x,y] at e7;simp at e7)])
  go_wp2
  refine bodyPost_ret (results_tmp rfl _ _ _) rfl ⟨?_,HV.out⟩;rw [V2.out]
  show Ending.returned ((Array.setIfInBounds _ 4 (Value.int IntKind.i64 71)).getD 4 undef) = _
  rw [getD_of (at_set _ (by rw [hz];decide))]
 refine wp_cond_false ((ev s28 rfl).trans (congrArg Value.bool e7)) ?_;have HV:=hide (HB.out _ h5);have V2:=hide (show ckM c m L D = 0 from by unfold ckM;rw [if_neg (by simp [hc]),if_neg (by simp [hk]),← HDOC.out c.f c.r m L D rfl HF.out.1 HF.out.2 hcr.1 hcr.2,if_pos (by rw [Bool.and_eq_true];simpa using e7)])
 go_wp2
 refine bodyPost_ret (results_tmp rfl _ _ _) rfl ⟨?_,HV.out⟩;rw [V2.out]
 show Ending.returned ((Array.setIfInBounds _ 4 (Value.int IntKind.i64 0)).getD 4 undef) = _
 rw [getD_of (at_set _ (by rw [hz];decide))]
end Go.Proofs.YtpcgnjpodnebpaaGreatDoor
namespace Go.Proofs.YtpcgnjpodnebpaaGreatDoor
open Go.RowKit Go.Maps Go.Shelf
open Classical
/-! What the votes of a state are. -/
def gd9 (V : List (Int × Int)) (x : Mk) : Prop:=(0 ≤ x.n∧x.n < (V.length : Int))∧(x.h,x.l) = V.getD x.n.toNat (0,0)
theorem cmpI_neg9 (a b : Int) : (cmpI a b < 0) = (0 < cmpI b a):=by
 unfold cmpI
 by_cases h : a < b
 ·rw [if_pos h,if_neg (show ¬ b < a by omega),if_pos h]
  simp
 ·by_cases h2 : b < a
  ·rw [if_neg h,if_pos h2,if_pos h2]
   simp
  ·rw [if_neg h,if_neg h2,if_neg h2,if_neg h]
theorem cmpD_neg9 (h l h' l' : Int) : (cmpD h l h' l' < 0) = (0 < cmpD h' l' h l):=by
 unfold cmpD
 by_cases e : h = h'
 ·subst e
  rw [if_pos rfl,if_pos rfl,cmpI_neg9]
 ·rw [if_neg e,if_neg (fun e2 => e e2.symm),cmpI_neg9]
theorem rs9_in9 {n self : Int} : ∀ {X : List Mk} {least : Int},0 ≤ least → rs9 n self least X = true → ∀ x ∈ X,0 ≤ x.n∧x.n < n
 | y :: r,least,h0,h,x,hx => by
  simp only [rs9,Bool.and_eq_true,Bool.not_eq_true',Bool.or_eq_false_iff,decide_eq_false_iff_not] at h;obtain ⟨⟨⟨h1,h2⟩,h3⟩,h4⟩:=h
  rcases List.mem_cons.1 hx with rfl | hx
  ·exact ⟨by omega,by omega⟩
  ·exact rs9_in9 (by omega) h4 x hx
 | [],_,_,_,_,hx => by cases hx
theorem jn9_at9 {M V : List (Int × Int)} {k : Nat} (h : k < M.length) : (jn9 M V).getD k (0,0) = rz9 (M.getD k (0,0)) (V.getD k (0,0)):=by
 simp only [jn9,List.getD_eq_getElem?_getD,List.getElem?_map,List.getElem?_range h,Option.map_some,Option.getD_some]
theorem adV_len9 (c : Cg) (s : Sta) (m : Ms9) : (adV9 c s m).length = s.V.length:=by
 unfold adV9
 split
 ·exact jn9_length _ _
 ·rfl
theorem keep9 {c : Cg} {s : Sta} {m : Ms9} {x : Mk} (h : gd9 s.V x) (ho : ovr (adV9 c s m) x.n x.h x.l = false) : gd9 (adV9 c s m) x:=by
 obtain ⟨⟨h1,h2⟩,h3⟩:=h;refine ⟨⟨h1,by rw [adV_len9];exact h2⟩,?_⟩
 unfold adV9 at ho ⊢
 by_cases hc : (btB m.m.k && (!decide (m.m.nd = s.self) && (!c.u && hear9 s m))) = true
 ·rw [if_pos hc] at ho ⊢
  have hk : x.n.toNat < s.V.length:=by omega
  unfold ovr at ho
  rw [jn9_length,decide_eq_true (show 0 ≤ x.n∧x.n < (s.V.length : Int) from ⟨h1,h2⟩),Bool.true_and,jn9_at9 hk] at ho;have ho:=of_decide_eq_false ho;rw [jn9_at9 hk];rw [cmpD_neg9] at ho
  unfold rz9 at ho ⊢
  by_cases hg : 0 < cmpD (m.V.getD x.n.toNat (0,0)).1 (m.V.getD x.n.toNat (0,0)).2 (s.V.getD x.n.toNat (0,0)).1 (s.V.getD x.n.toNat (0,0)).2
  ·exfalso
   rw [if_pos hg] at ho;rw [← h3] at hg
   exact ho hg
  ·rw [if_neg hg]
   exact h3
 ·rw [if_neg hc]
  exact h3
theorem votes_good9 {c : Cg} {s : Sta} (h : s.ckE c = 0) : ∀ k,∀ x ∈ s.vs k,gd9 s.V x:=by
 unfold Sta.ckE at h
 cases hok : c.okB with
 | false => rw [hok] at h;simp at h
 | true =>
  rw [hok] at h
  cases hs : s.stB c with
  | false => rw [hs] at h;simp at h
  | true =>
   simp only [Sta.stB,Bool.and_eq_true] at hs;obtain ⟨⟨⟨hn,hv⟩,hl⟩,_⟩:=hs;rw [votB9 s hok,Bool.and_eq_true] at hv;obtain ⟨hr,_⟩:=hv;simp only [Sta.numB,Bool.and_eq_true,decide_eq_true_eq] at hn
   have hV : (s.V.length : Int) = c.nd:=by
    have h:=hn.1.1.1.1.1.2
    by_cases e : (s.V.length : Int) = c.nd
    ·exact e
    ·rw [if_neg e] at h;omega
   simp only [Sta.rsB,Bool.and_eq_true] at hr;obtain ⟨⟨⟨r0,r1⟩,r2⟩,r3⟩:=hr;simp only [Sta.livB,Bool.and_eq_true,List.all_eq_true] at hl;obtain ⟨⟨⟨l0,l1⟩,l2⟩,l3⟩:=hl
   have mk : ∀ {X : List Mk},rs9 c.nd s.self 0 X = true → (∀ x ∈ X,lv8 s.V x = true) → ∀ x ∈ X,gd9 s.V x:=fun hr hl x hx => by
    have h1:=rs9_in9 (Int.le_refl 0) hr x hx
    exact ⟨⟨h1.1,by rw [hV];exact h1.2⟩,of_decide_eq_true (hl x hx)⟩
   intro k
   match k with
   | 0 => exact mk r0 l0
   | 1 => exact mk r1 l1
   | 2 => exact mk r2 l2
   | _ + 3 => exact mk r3 l3
theorem neqDs9 (x y : Operand) (r : Int × Int) (w : World) : (do eqGuard .neq 52 x y (.agg #[.int .u64 r.1,.int .u64 r.2]) (.agg #[.int .u64 r.1,.int .u64 r.2]);binOp .neq 52 (.agg #[.int .u64 r.1,.int .u64 r.2]) (.agg #[.int .u64 r.1,.int .u64 r.2]) : Sem Value).run Tryz.prog w = .ok (.bool false) w:=by
 rw [neqDr7,decide_eq_true rfl]
 rfl
theorem rmcheck9 (c : Cg) (m : Ms9) (w : World) (hM : m.In w) (hF : m.Fit) : Calls Tryz.prog 10 #[c.val,m.val] w fun e w' => e = .returned (.int .i64 (adM9 c m))∧Below w.heap.size w w' :=
 refcheck7 c.cf m.m m.la m.va m.lc m.vc m.L m.V w hM.l hF.le hM.v hF.ee
end Go.Proofs.YtpcgnjpodnebpaaGreatDoor
