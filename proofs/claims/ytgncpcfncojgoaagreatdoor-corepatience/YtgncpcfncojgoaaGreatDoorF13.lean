import Derived.Test.YtgncpcfncojgoaaGreatDoorF12
set_option maxRecDepth 100000
set_option linter.unusedVariables false
set_option linter.unusedSimpArgs false
namespace Go.Proofs.YtgncpcfncojgoaaGreatDoor
open Go.RowKit Go.Maps Go.Shelf
open Classical
theorem fa2Ak (q o : Nat) (w : World) : (Instr.fieldAt 110 (.pointer (some ⟨q,o,none⟩)) 2).run Tryz.prog w = .ok (.pointer (some ⟨q,o + 3,none⟩)) w:=by go_simp
theorem v_cond8 {x : Code} {R : Exit → Act → World → Prop} {T : Array Value} {w : World} {t : Nat} {b : Bool} (J : Array Value → World → Prop) (ht : T[t]? = some (gw true (.bool b))) (h1 : b = true → x.wp Tryz.prog (Exit.then (fun a w' => ∃ T',a = ⟨T',[]⟩∧J T' w') R) ⟨T,[]⟩ w) (h2 : b = false → J T w) (hk : ∀ T' w',J T' w' → R .normal ⟨T',[]⟩ w') : (Code.cond (.tmp t) x .skip).wp Tryz.prog R ⟨T,[]⟩ w:=by
 cases b with
 | true =>
  refine wp_cond_true (ev ht rfl) (Code.wp_mono (fun e a' w' h => ?_) (h1 rfl))
  cases e with
  | normal =>
   obtain ⟨T',rfl,hJ⟩:=h
   exact hk T' w' hJ
  | _ => exact h
 | false => exact wp_cond_false (ev ht rfl) (wp_skip (hk T w (h2 rfl)))
def Sta.mh9 (s : Sta) (c : Cg) : Bool:=(((((((((((decide (s.self < 0)) || (decide (c.nd ≤ s.self))) || (decide (s.view < 0))) || (decide (4294967296 < s.view))) || (decide (s.last < 0))) || (decide (s.view < s.last))) || (!(lgB9 c s.L s.commit))) || (!decide ((s.V.length : Int) = c.nd))) || (decide (s.idle < 0))) || (decide (c.P ≤ s.idle))) || (!(s.vtB9 c.nd)))
def Sta.mn9 (s : Sta) (c : Cg) : Bool:=((((!decide (s.last = s.view)) || (decide (0 < (((s.M.length : Int) + (s.B.length : Int)) + (s.N.length : Int))))) || ((decide (s.self = (s.view % c.nd))) && (!decide (s.idle = 0)))) || ((!(decide (s.self = (s.view % c.nd)))) && (decide (0 < (s.A.length : Int)))))
def Sta.mc9 (s : Sta) (c : Cg) : Bool:=((((decide (s.last = s.view)) || (decide (0 < ((s.A.length : Int) + (s.N.length : Int))))) || ((!(decide (s.self = (s.view % c.nd)))) && (decide (0 < (s.B.length : Int))))) || (decide (c.F ≤ (s.B.length : Int))))
def rkb9 (s : Sta) (x : Ak) : Bool:=decide (x.p < 1) || decide ((s.L.length : Int) < x.p)
def rbb9 (c : Cg) (s : Sta) (x : Bl) : Bool:=(decide (x.v < 0) || decide (s.view ≤ x.v)) || (!lgB9 c x.s.D x.c)
def Sta.mayB9 (s : Sta) (c : Cg) : Bool:=bif s.mh9 c then false else bif decide (s.st = 1) then (bif s.mn9 c then false else !(s.A.any (rkb9 s))) else bif decide (s.st = 2) then (bif s.mc9 c then false else !(s.B.any (rbb9 c s))) else bif decide (s.st = 3) then s.rc9 c c.nd else false
def Sta.rk9 (s : Sta) (c : Cg) : Int:=bif c.okB then (bif s.mayB9 c then 0 else 2) else 1
theorem ok_er9 {c : Cg} (h : c.er = 0) : c.okB = true:=by
 unfold Cg.er at h
 cases e : c.okB with
 | true => rfl
 | false => rw [e] at h;cases h
theorem mh9_facts {s : Sta} {c : Cg} (hok : c.okB = true) (h : s.mh9 c = false) : 0 ≤ s.self∧s.self < c.nd∧0 ≤ s.view∧s.view ≤ 4294967296∧0 ≤ s.last∧s.last ≤ s.view∧0 ≤ s.commit∧s.commit ≤ (s.L.length : Int)∧(s.V.length : Int) = c.nd∧0 ≤ s.idle∧s.idle < c.P:=by
 unfold Sta.mh9 at h
 simp only [lgB9,Bool.or_eq_false_iff,decide_eq_false_iff_not,Bool.not_eq_false',Bool.and_eq_true,decide_eq_true_eq] at h
 omega
set_option maxHeartbeats 1000000 in
theorem rmay9 (c : Cg) (s : Sta) (w : World) (hI : s.In w) (hF : s.Fit) (hok : c.okB = true) : Calls Tryz.prog 69 #[c.val,s.val] w fun e w' => e = .returned (.bool (s.mayB9 c))∧Below w.heap.size w w':=by
 go_enter Tryz.func69,Tryz.ntmps69
 go_upto_region 0 with fail
 refine wp_region_lit ?_;refine vl_gen (fun T => T.size = 223∧T[0]? = some (gw true (c.val))∧T[1]? = some (gw true (s.val))) ⟨rfl,rfl,rfl⟩ (fun Z0 ⟨hz,s0,s1⟩ => ?_)
 obtain ⟨w1,hw1⟩ : ∃ y,y = w.alloc (.cells c.cs.toArray 23):=⟨_,rfl⟩
 have hb : Below w.heap.size w w1:=by rw [hw1];exact (Below.refl _ _).alloc (Nat.le_refl _) _
 have hs1 : w1.heap.size = w.heap.size + 1:=by rw [hw1];simp
 have HC : CB7 w1 (w.heap.size) c:=by rw [hw1];exact BX7.new _ _ _
 refine vw (.pointer (some ⟨w.heap.size,0,none⟩)) w1 (want_none rfl) (ex_box8 rfl (ev s0 rfl) (by rw [hw1];exact bxC7 _ _)) rfl hz (by decide) (fun Z1 zz kk s2x => ?_);replace s1:=ku s1;clear kk hz s0 hw1;have hz:=zz;have s2:=s2x;clear zz s2x;have hB:=hb;clear hb
 obtain ⟨w2,hw2⟩ : ∃ y,y = w1.alloc (.cells s.cs.toArray 36):=⟨_,rfl⟩
 have hb : Below w1.heap.size w1 w2:=by rw [hw2];exact (Below.refl _ _).alloc (Nat.le_refl _) _
 have hs2 : w2.heap.size = w.heap.size + 2:=by rw [hw2];simp;omega
 have HS : SB7 w2 (w.heap.size + 1) s:=by rw [hw2,← hs1];exact BX7.new _ _ _
 refine vw (.pointer (some ⟨w.heap.size + 1,0,none⟩)) w2 (want_none rfl) (ex_box8 rfl (ev s1 rfl) (by rw [hw2,← hs1];exact bxS7 _ _)) rfl hz (by decide) (fun Z2 zz kk s3x => ?_);replace s2:=ku s2;clear kk hz s1 hw2;have hz:=zz;have s3:=s3x;clear zz s3x;have hB:=hB.trans (hb.mono (by omega));have HC:=HC.bel hb;clear hb;have hv0 : Below w2.heap.size w2 w2:=Below.refl _ _;have HI:=hI.later hB;have f0:=hF.ll;have f1:=hF.al;have f2:=hF.ml;have f3:=hF.bl;have f4:=hF.nl;obtain ⟨hn1,hn2,hn3⟩:=Cg.nd_ok hok;have hP:=Cg.P_ok hok;have q64_0:=((Rp.nil hz).cons s2).cons s3;clear hz s2 s3
 refine q64_0.t (.bool false) (ex_assign rfl rfl) fun _ q64_1 => ?_;clear q64_0
 have hz:=q64_1.z;have s2:=q64_1.a 2 rfl;have s3:=q64_1.a 3 rfl;clear q64_1;refine wpList_nil ?_
 go_upto_region 1 with fail
 refine wp_region_lit ?_;have q65_0:=((Rp.nil hz).cons s2).cons s3;clear hz s2 s3
 refine q65_0.t (c.val) (ex_ld rfl (q65_0.e (j:=2) rfl) (CB7.ld (HC.bel hv0))) fun _ q65_1 => ?_;clear q65_0
 refine vcall true (.int .i64 c.nd) (want_none rfl) (fun hc => ex_call rfl (by simp only [List.map_toArray,List.map_cons,List.map_nil,(q65_1.e (j:=10) rfl),evc] <;> rfl) rfl) (fun hc => rnodes9 c w2) rfl q65_1.z (by decide) (q65_1.kc fun Ya x1 hb q65_2 => ?_);clear q65_1;have hx1:=hv0.trans (hb.mono hv0.size);clear hb
 refine q65_2.t _ (ex_assign rfl (q65_2.e (j:=11) rfl)) fun _ q65_3 => ?_;clear q65_2
 have hz:=q65_3.z;have s2:=q65_3.a 2 rfl;have s3:=q65_3.a 3 rfl;have s5:=q65_3.a 5 rfl;clear q65_3;refine wpList_nil ?_
 have gv9 : ∀ {b : Bool},(b && ((((((((((decide (s.self < 0) || decide (c.nd ≤ s.self)) || decide (s.view < 0)) || decide (4294967296 < s.view)) || decide (s.last < 0)) || decide (s.view < s.last)) || (!lgB9 c s.L s.commit)) || (!decide ((s.V.length : Int) = c.nd))) || decide (s.idle < 0)) || decide (c.P ≤ s.idle)) == false)) = true → c.nd = (s.V.length : Int)∧0 < s.V.length:=fun h => by
  simp only [Bool.and_eq_true,beq_iff_eq,Bool.or_eq_false_iff,decide_eq_false_iff_not,Bool.not_eq_false',decide_eq_true_eq] at h
  omega
 go_upto_region 2 with fail
 refine wp_region_lit ?_;have q66_0:=(((Rp.nil hz).cons s2).cons s3).cons s5;clear hz s2 s3 s5
 refine q66_0.t (.pointer (some ⟨w.heap.size + 1,0,none⟩)) (ex_fa rfl (q66_0.e (j:=3) rfl) (faS0 _ _)) fun _ q66_1 => ?_;clear q66_0
 refine q66_1.t (.int .i64 s.self) (ex_ld rfl (q66_1.e (j:=12) rfl) (ldI8 (cell8 (HS.cell 0 _ rfl) hx1))) fun _ q66_2 => ?_;clear q66_1
 refine q66_2.t (.bool (decide (s.self < 0))) (ex_bin rfl (q66_2.e (j:=13) rfl) rfl (lssC _ _ _ _ _)) fun _ q66_3 => ?_;clear q66_2
 refine q66_3.t _ (ex_move rfl (q66_3.e (j:=14) rfl)) fun _ q66_4 => ?_;clear q66_3
 refine vl _ (.pointer (some ⟨w.heap.size + 1,0,none⟩)) (want_g rfl rfl (q66_4.a 15 rfl)) (fun hc => ex_fa rfl (q66_4.e (j:=3) rfl) (faS0 _ _)) rfl q66_4.z (by decide) (q66_4.k fun Yb q66_5 => ?_);clear q66_4;refine vl _ (.int .i64 s.self) (want_g rfl rfl (q66_5.a 15 rfl)) (fun hc => ex_ld rfl (ev (q66_5.a 16 rfl) hc) (ldI8 (cell8 (HS.cell 0 _ rfl) hx1))) rfl q66_5.z (by decide) (q66_5.k fun Yc q66_6 => ?_);clear q66_5;refine vl _ (.int .i64 c.nd) (want_g rfl rfl (q66_6.a 15 rfl)) (fun hc => ex_move rfl (q66_6.e (j:=5) rfl)) rfl q66_6.z (by decide) (q66_6.k fun Yd q66_7 => ?_);clear q66_6;refine vl _ (.bool (decide (c.nd ≤ s.self))) (want_g rfl rfl (q66_7.a 15 rfl)) (fun hc => ex_bin rfl (ev (q66_7.a 17 rfl) hc) (ev (q66_7.a 18 rfl) hc) (geqC _ _ _ _ _)) rfl q66_7.z (by decide) (q66_7.k fun Ye q66_8 => ?_);clear q66_7
 refine q66_8.t (.bool ((decide (s.self < 0)) || (decide (c.nd ≤ s.self)))) (ex_or rfl (q66_8.a 15 rfl) (q66_8.a 19 rfl) rfl) fun _ q66_9 => ?_;clear q66_8
 refine q66_9.t _ (ex_move rfl (q66_9.e (j:=20) rfl)) fun _ q66_10 => ?_;clear q66_9
 refine vl _ (.pointer (some ⟨w.heap.size + 1,2,none⟩)) (want_g rfl rfl (q66_10.a 21 rfl)) (fun hc => ex_fa rfl (q66_10.e (j:=3) rfl) (faS2 _ _)) rfl q66_10.z (by decide) (q66_10.k fun Yf q66_11 => ?_);clear q66_10;refine vl _ (.int .i64 s.view) (want_g rfl rfl (q66_11.a 21 rfl)) (fun hc => ex_ld rfl (ev (q66_11.a 22 rfl) hc) (ldI8 (cell8 (HS.cell 2 _ rfl) hx1))) rfl q66_11.z (by decide) (q66_11.k fun Yg q66_12 => ?_);clear q66_11;refine vl _ (.bool (decide (s.view < 0))) (want_g rfl rfl (q66_12.a 21 rfl)) (fun hc => ex_bin rfl (ev (q66_12.a 23 rfl) hc) rfl (lssC _ _ _ _ _)) rfl q66_12.z (by decide) (q66_12.k fun Yh q66_13 => ?_);clear q66_12
 refine q66_13.t (.bool (((decide (s.self < 0)) || (decide (c.nd ≤ s.self))) || (decide (s.view < 0)))) (ex_or rfl (q66_13.a 21 rfl) (q66_13.a 24 rfl) rfl) fun _ q66_14 => ?_;clear q66_13
 refine q66_14.t _ (ex_move rfl (q66_14.e (j:=25) rfl)) fun _ q66_15 => ?_;clear q66_14
 refine vl _ (.pointer (some ⟨w.heap.size + 1,2,none⟩)) (want_g rfl rfl (q66_15.a 26 rfl)) (fun hc => ex_fa rfl (q66_15.e (j:=3) rfl) (faS2 _ _)) rfl q66_15.z (by decide) (q66_15.k fun Yi q66_16 => ?_);clear q66_15;refine vl _ (.int .i64 s.view) (want_g rfl rfl (q66_16.a 26 rfl)) (fun hc => ex_ld rfl (ev (q66_16.a 27 rfl) hc) (ldI8 (cell8 (HS.cell 2 _ rfl) hx1))) rfl q66_16.z (by decide) (q66_16.k fun Yj q66_17 => ?_);clear q66_16;refine vl _ (.bool (decide (4294967296 < s.view))) (want_g rfl rfl (q66_17.a 26 rfl)) (fun hc => ex_bin rfl (ev (q66_17.a 28 rfl) hc) rfl (gtrC _ _ _ _ _)) rfl q66_17.z (by decide) (q66_17.k fun Yk q66_18 => ?_);clear q66_17
 refine q66_18.t (.bool ((((decide (s.self < 0)) || (decide (c.nd ≤ s.self))) || (decide (s.view < 0))) || (decide (4294967296 < s.view)))) (ex_or rfl (q66_18.a 26 rfl) (q66_18.a 29 rfl) rfl) fun _ q66_19 => ?_;clear q66_18
 refine q66_19.t _ (ex_move rfl (q66_19.e (j:=30) rfl)) fun _ q66_20 => ?_;clear q66_19
 refine vl _ (.pointer (some ⟨w.heap.size + 1,3,none⟩)) (want_g rfl rfl (q66_20.a 31 rfl)) (fun hc => ex_fa rfl (q66_20.e (j:=3) rfl) (faS3 _ _)) rfl q66_20.z (by decide) (q66_20.k fun Yl q66_21 => ?_);clear q66_20;refine vl _ (.int .i64 s.last) (want_g rfl rfl (q66_21.a 31 rfl)) (fun hc => ex_ld rfl (ev (q66_21.a 32 rfl) hc) (ldI8 (cell8 (HS.cell 3 _ rfl) hx1))) rfl q66_21.z (by decide) (q66_21.k fun Ym q66_22 => ?_);clear q66_21;refine vl _ (.bool (decide (s.last < 0))) (want_g rfl rfl (q66_22.a 31 rfl)) (fun hc => ex_bin rfl (ev (q66_22.a 33 rfl) hc) rfl (lssC _ _ _ _ _)) rfl q66_22.z (by decide) (q66_22.k fun Yn q66_23 => ?_);clear q66_22
 refine q66_23.t (.bool (((((decide (s.self < 0)) || (decide (c.nd ≤ s.self))) || (decide (s.view < 0))) || (decide (4294967296 < s.view))) || (decide (s.last < 0)))) (ex_or rfl (q66_23.a 31 rfl) (q66_23.a 34 rfl) rfl) fun _ q66_24 => ?_;clear q66_23
 refine q66_24.t _ (ex_move rfl (q66_24.e (j:=35) rfl)) fun _ q66_25 => ?_;clear q66_24
 refine vl _ (.pointer (some ⟨w.heap.size + 1,3,none⟩)) (want_g rfl rfl (q66_25.a 36 rfl)) (fun hc => ex_fa rfl (q66_25.e (j:=3) rfl) (faS3 _ _)) rfl q66_25.z (by decide) (q66_25.k fun Yo q66_26 => ?_);clear q66_25;refine vl _ (.int .i64 s.last) (want_g rfl rfl (q66_26.a 36 rfl)) (fun hc => ex_ld rfl (ev (q66_26.a 37 rfl) hc) (ldI8 (cell8 (HS.cell 3 _ rfl) hx1))) rfl q66_26.z (by decide) (q66_26.k fun Yp q66_27 => ?_);clear q66_26;refine vl _ (.pointer (some ⟨w.heap.size + 1,2,none⟩)) (want_g rfl rfl (q66_27.a 36 rfl)) (fun hc => ex_fa rfl (q66_27.e (j:=3) rfl) (faS2 _ _)) rfl q66_27.z (by decide) (q66_27.k fun Yq q66_28 => ?_);clear q66_27;refine vl _ (.int .i64 s.view) (want_g rfl rfl (q66_28.a 36 rfl)) (fun hc => ex_ld rfl (ev (q66_28.a 39 rfl) hc) (ldI8 (cell8 (HS.cell 2 _ rfl) hx1))) rfl q66_28.z (by decide) (q66_28.k fun Yr q66_29 => ?_);clear q66_28;refine vl _ (.bool (decide (s.view < s.last))) (want_g rfl rfl (q66_29.a 36 rfl)) (fun hc => ex_bin rfl (ev (q66_29.a 38 rfl) hc) (ev (q66_29.a 40 rfl) hc) (gtrC _ _ _ _ _)) rfl q66_29.z (by decide) (q66_29.k fun Ys q66_30 => ?_);clear q66_29
 refine q66_30.t (.bool ((((((decide (s.self < 0)) || (decide (c.nd ≤ s.self))) || (decide (s.view < 0))) || (decide (4294967296 < s.view))) || (decide (s.last < 0))) || (decide (s.view < s.last)))) (ex_or rfl (q66_30.a 36 rfl) (q66_30.a 41 rfl) rfl) fun _ q66_31 => ?_;clear q66_30
 refine q66_31.t _ (ex_move rfl (q66_31.e (j:=42) rfl)) fun _ q66_32 => ?_;clear q66_31
 refine vl _ (c.val) (want_g rfl rfl (q66_32.a 43 rfl)) (fun hc => ex_ld rfl (q66_32.e (j:=2) rfl) (CB7.ld (HC.bel hx1))) rfl q66_32.z (by decide) (q66_32.k fun Yt q66_33 => ?_);clear q66_32;refine vl _ (.pointer (some ⟨w.heap.size + 1,4,none⟩)) (want_g rfl rfl (q66_33.a 43 rfl)) (fun hc => ex_fa rfl (q66_33.e (j:=3) rfl) (faS4 _ _)) rfl q66_33.z (by decide) (q66_33.k fun Yu q66_34 => ?_);clear q66_33;refine vl _ (.slice s.la s.L.length s.lc) (want_g rfl rfl (q66_34.a 43 rfl)) (fun hc => ex_ld rfl (ev (q66_34.a 45 rfl) hc) (ldE8 (cell8 (HS.cell 4 _ rfl) hx1))) rfl q66_34.z (by decide) (q66_34.k fun Yv q66_35 => ?_);clear q66_34;refine vl _ (.pointer (some ⟨w.heap.size + 1,5,none⟩)) (want_g rfl rfl (q66_35.a 43 rfl)) (fun hc => ex_fa rfl (q66_35.e (j:=3) rfl) (faS5 _ _)) rfl q66_35.z (by decide) (q66_35.k fun Yw q66_36 => ?_);clear q66_35;refine vl _ (.int .i64 s.commit) (want_g rfl rfl (q66_36.a 43 rfl)) (fun hc => ex_ld rfl (ev (q66_36.a 47 rfl) hc) (ldI8 (cell8 (HS.cell 5 _ rfl) hx1))) rfl q66_36.z (by decide) (q66_36.k fun Yx q66_37 => ?_);clear q66_36;refine vcall (true && (((((((decide (s.self < 0)) || (decide (c.nd ≤ s.self))) || (decide (s.view < 0))) || (decide (4294967296 < s.view))) || (decide (s.last < 0))) || (decide (s.view < s.last))) == false)) (.bool (lgB9 c s.L s.commit)) (want_g rfl rfl (q66_37.a 43 rfl)) (fun hc => ex_call rfl (by simp only [List.map_toArray,List.map_cons,List.map_nil,(ev (q66_37.a 44 rfl) hc),(ev (q66_37.a 46 rfl) hc),(ev (q66_37.a 48 rfl) hc),evc] <;> rfl) rfl) (fun hc => rlogged9 c s.L s.la s.lc s.commit x1 (HI.l.later hx1) hF.le) rfl q66_37.z (by decide) (q66_37.kc fun Yy x2 hb q66_38 => ?_);clear q66_37;have hx2:=hx1.trans (hb.mono hx1.size);clear hb;refine vl _ (.bool (!(lgB9 c s.L s.commit))) (want_g rfl rfl (q66_38.a 43 rfl)) (fun hc => ex_not rfl (ev (q66_38.a 49 rfl) hc)) rfl q66_38.z (by decide) (q66_38.k fun Yz q66_39 => ?_);clear q66_38
 refine q66_39.t (.bool (((((((decide (s.self < 0)) || (decide (c.nd ≤ s.self))) || (decide (s.view < 0))) || (decide (4294967296 < s.view))) || (decide (s.last < 0))) || (decide (s.view < s.last))) || (!(lgB9 c s.L s.commit)))) (ex_or rfl (q66_39.a 43 rfl) (q66_39.a 50 rfl) rfl) fun _ q66_40 => ?_;clear q66_39
 refine q66_40.t _ (ex_move rfl (q66_40.e (j:=51) rfl)) fun _ q66_41 => ?_;clear q66_40
 refine vl _ (.pointer (some ⟨w.heap.size + 1,6,none⟩)) (want_g rfl rfl (q66_41.a 52 rfl)) (fun hc => ex_fa rfl (q66_41.e (j:=3) rfl) (faS6 _ _)) rfl q66_41.z (by decide) (q66_41.k fun Y0 q66_42 => ?_);clear q66_41;refine vl _ (.slice s.va s.V.length s.vc) (want_g rfl rfl (q66_42.a 52 rfl)) (fun hc => ex_ld rfl (ev (q66_42.a 53 rfl) hc) (ldV8 (cell8 (HS.cell 6 _ rfl) hx2))) rfl q66_42.z (by decide) (q66_42.k fun Y1 q66_43 => ?_);clear q66_42;refine vl _ (.int .i64 (s.V.length : Int)) (want_g rfl rfl (q66_43.a 52 rfl)) (fun hc => ex_lenV8 rfl rfl (ev (q66_43.a 54 rfl) hc)) rfl q66_43.z (by decide) (q66_43.k fun Y2 q66_44 => ?_);clear q66_43;refine vl _ (.int .i64 c.nd) (want_g rfl rfl (q66_44.a 52 rfl)) (fun hc => ex_move rfl (q66_44.e (j:=5) rfl)) rfl q66_44.z (by decide) (q66_44.k fun Y3 q66_45 => ?_);clear q66_44;refine vl _ (.bool (!decide ((s.V.length : Int) = c.nd))) (want_g rfl rfl (q66_45.a 52 rfl)) (fun hc => ex_bin rfl (ev (q66_45.a 55 rfl) hc) (ev (q66_45.a 56 rfl) hc) (neqC _ _ _ _ _)) rfl q66_45.z (by decide) (q66_45.k fun Y4 q66_46 => ?_);clear q66_45
 refine q66_46.t (.bool ((((((((decide (s.self < 0)) || (decide (c.nd ≤ s.self))) || (decide (s.view < 0))) || (decide (4294967296 < s.view))) || (decide (s.last < 0))) || (decide (s.view < s.last))) || (!(lgB9 c s.L s.commit))) || (!decide ((s.V.length : Int) = c.nd)))) (ex_or rfl (q66_46.a 52 rfl) (q66_46.a 57 rfl) rfl) fun _ q66_47 => ?_;clear q66_46
 refine q66_47.t _ (ex_move rfl (q66_47.e (j:=58) rfl)) fun _ q66_48 => ?_;clear q66_47
 refine vl _ (.pointer (some ⟨w.heap.size + 1,7,none⟩)) (want_g rfl rfl (q66_48.a 59 rfl)) (fun hc => ex_fa rfl (q66_48.e (j:=3) rfl) (faS7 _ _)) rfl q66_48.z (by decide) (q66_48.k fun Y5 q66_49 => ?_);clear q66_48;refine vl _ (.int .i64 s.idle) (want_g rfl rfl (q66_49.a 59 rfl)) (fun hc => ex_ld rfl (ev (q66_49.a 60 rfl) hc) (ldI8 (cell8 (HS.cell 7 _ rfl) hx2))) rfl q66_49.z (by decide) (q66_49.k fun Y6 q66_50 => ?_);clear q66_49;refine vl _ (.bool (decide (s.idle < 0))) (want_g rfl rfl (q66_50.a 59 rfl)) (fun hc => ex_bin rfl (ev (q66_50.a 61 rfl) hc) rfl (lssC _ _ _ _ _)) rfl q66_50.z (by decide) (q66_50.k fun Y7 q66_51 => ?_);clear q66_50
 refine q66_51.t (.bool (((((((((decide (s.self < 0)) || (decide (c.nd ≤ s.self))) || (decide (s.view < 0))) || (decide (4294967296 < s.view))) || (decide (s.last < 0))) || (decide (s.view < s.last))) || (!(lgB9 c s.L s.commit))) || (!decide ((s.V.length : Int) = c.nd))) || (decide (s.idle < 0)))) (ex_or rfl (q66_51.a 59 rfl) (q66_51.a 62 rfl) rfl) fun _ q66_52 => ?_;clear q66_51
 refine q66_52.t _ (ex_move rfl (q66_52.e (j:=63) rfl)) fun _ q66_53 => ?_;clear q66_52
 refine vl _ (.pointer (some ⟨w.heap.size + 1,7,none⟩)) (want_g rfl rfl (q66_53.a 64 rfl)) (fun hc => ex_fa rfl (q66_53.e (j:=3) rfl) (faS7 _ _)) rfl q66_53.z (by decide) (q66_53.k fun Y8 q66_54 => ?_);clear q66_53;refine vl _ (.int .i64 s.idle) (want_g rfl rfl (q66_54.a 64 rfl)) (fun hc => ex_ld rfl (ev (q66_54.a 65 rfl) hc) (ldI8 (cell8 (HS.cell 7 _ rfl) hx2))) rfl q66_54.z (by decide) (q66_54.k fun Y9 q66_55 => ?_);clear q66_54;refine vl _ (.pointer (some ⟨w.heap.size,2,none⟩)) (want_g rfl rfl (q66_55.a 64 rfl)) (fun hc => ex_fa rfl (q66_55.e (j:=2) rfl) (faC2 _ _)) rfl q66_55.z (by decide) (q66_55.k fun Yba q66_56 => ?_);clear q66_55;refine vl _ (.int .i64 c.P) (want_g rfl rfl (q66_56.a 64 rfl)) (fun hc => ex_ld rfl (ev (q66_56.a 67 rfl) hc) (ldI8 (cell8 (HC.cell 2 _ rfl) hx2))) rfl q66_56.z (by decide) (q66_56.k fun Ybb q66_57 => ?_);clear q66_56;refine vl _ (.bool (decide (c.P ≤ s.idle))) (want_g rfl rfl (q66_57.a 64 rfl)) (fun hc => ex_bin rfl (ev (q66_57.a 66 rfl) hc) (ev (q66_57.a 68 rfl) hc) (geqC _ _ _ _ _)) rfl q66_57.z (by decide) (q66_57.k fun Ybc q66_58 => ?_);clear q66_57
 refine q66_58.t (.bool ((((((((((decide (s.self < 0)) || (decide (c.nd ≤ s.self))) || (decide (s.view < 0))) || (decide (4294967296 < s.view))) || (decide (s.last < 0))) || (decide (s.view < s.last))) || (!(lgB9 c s.L s.commit))) || (!decide ((s.V.length : Int) = c.nd))) || (decide (s.idle < 0))) || (decide (c.P ≤ s.idle)))) (ex_or rfl (q66_58.a 64 rfl) (q66_58.a 69 rfl) rfl) fun _ q66_59 => ?_;clear q66_58
 refine q66_59.t _ (ex_move rfl (q66_59.e (j:=70) rfl)) fun _ q66_60 => ?_;clear q66_59
 refine vl _ (s.val) (want_g rfl rfl (q66_60.a 71 rfl)) (fun hc => ex_ld rfl (q66_60.e (j:=3) rfl) (SB7.ld (HS.bel hx2))) rfl q66_60.z (by decide) (q66_60.k fun Ybd q66_61 => ?_);clear q66_60;refine vl _ (.int .i64 c.nd) (want_g rfl rfl (q66_61.a 71 rfl)) (fun hc => ex_move rfl (q66_61.e (j:=5) rfl)) rfl q66_61.z (by decide) (q66_61.k fun Ybe q66_62 => ?_);clear q66_61;refine vcall (true && (((((((((((decide (s.self < 0)) || (decide (c.nd ≤ s.self))) || (decide (s.view < 0))) || (decide (4294967296 < s.view))) || (decide (s.last < 0))) || (decide (s.view < s.last))) || (!(lgB9 c s.L s.commit))) || (!decide ((s.V.length : Int) = c.nd))) || (decide (s.idle < 0))) || (decide (c.P ≤ s.idle))) == false)) (.bool (s.vtB9 c.nd)) (want_g rfl rfl (q66_62.a 71 rfl)) (fun hc => ex_call rfl (by simp only [List.map_toArray,List.map_cons,List.map_nil,(ev (q66_62.a 72 rfl) hc),(ev (q66_62.a 73 rfl) hc),evc] <;> rfl) rfl) (fun hc => rvotes9 s c.nd x2 (HI.later hx2) hF (gv9 hc).1 (gv9 hc).2) rfl q66_62.z (by decide) (q66_62.kc fun Ybf x3 hb q66_63 => ?_);clear q66_62;have hx3:=hx2.trans (hb.mono hx2.size);clear hb;refine vl _ (.bool (!(s.vtB9 c.nd))) (want_g rfl rfl (q66_63.a 71 rfl)) (fun hc => ex_not rfl (ev (q66_63.a 74 rfl) hc)) rfl q66_63.z (by decide) (q66_63.k fun Ybg q66_64 => ?_);clear q66_63
 refine q66_64.t (.bool (((((((((((decide (s.self < 0)) || (decide (c.nd ≤ s.self))) || (decide (s.view < 0))) || (decide (4294967296 < s.view))) || (decide (s.last < 0))) || (decide (s.view < s.last))) || (!(lgB9 c s.L s.commit))) || (!decide ((s.V.length : Int) = c.nd))) || (decide (s.idle < 0))) || (decide (c.P ≤ s.idle))) || (!(s.vtB9 c.nd)))) (ex_or rfl (q66_64.a 71 rfl) (q66_64.a 75 rfl) rfl) fun _ q66_65 => ?_;clear q66_64
 have hz:=q66_65.z;have s2:=q66_65.a 2 rfl;have s3:=q66_65.a 3 rfl;have s5:=q66_65.a 5 rfl;have s76:=q66_65.a 76 rfl;clear q66_65;refine wpList_nil ?_;have hB:=hB.trans (hx3.mono (by omega));have HS:=HS.bel hx3;have HC:=HC.bel hx3;have HI:=HI.later hx3;have hz2:=hx3.size;have hv3 : Below x3.heap.size x3 x3:=Below.refl _ _;have hzw:=hB.size
 go_upto_region 3 with fail
 cases e76 : s.mh9 c
 rotate_left
 ·refine wp_cond_true ((ev s76 rfl).trans (congrArg Value.bool e76)) ?_
  go_upto_region 3 with fail
  refine wp_region_lit ?_;have q67_0:=(((Rp.nil hz).cons s2).cons s3).cons s5;clear hz s2 s3 s5
  refine q67_0.t (.bool false) (ex_assign rfl rfl) fun _ q67_1 => ?_;clear q67_0
  have hz:=q67_1.z;have s4:=q67_1.a 4 rfl;clear q67_1;refine wpList_nil ?_
  go_wp2
  refine bodyPost_ret (results_tmp rfl _ _ _) rfl ⟨?_,hB.trans (hv3.mono (by omega))⟩;rw [getD_of s4]
  unfold Sta.mayB9
  rw [e76]
  rfl
 refine wp_cond_false ((ev s76 rfl).trans (congrArg Value.bool e76)) ?_;clear s76;have MF:=mh9_facts hok e76
 go_upto_region 4 with fail
 refine vq_start (C:=fun v => Below x3.heap.size x3 v) (by kernel_rfl) (by kernel_rfl) hv3.drew ?_;have q68_0:=(((Rp.nil hz).cons s2).cons s3).cons s5;clear hz s2 s3 s5
 refine q68_0.q (.pointer (some ⟨w.heap.size + 1,0,none⟩)) (fun v hv => ex_fa rfl (q68_0.e (j:=3) rfl) (faS0 _ _)) fun _ q68_1 => ?_;clear q68_0
 refine q68_1.q (.int .i64 s.self) (fun v hv => ex_ld rfl (q68_1.e (j:=77) rfl) (ldI8 (cell8 (HS.cell 0 _ rfl) hv))) fun _ q68_2 => ?_;clear q68_1
 refine q68_2.q (.pointer (some ⟨w.heap.size + 1,2,none⟩)) (fun v hv => ex_fa rfl (q68_2.e (j:=3) rfl) (faS2 _ _)) fun _ q68_3 => ?_;clear q68_2
 refine q68_3.q (.int .i64 s.view) (fun v hv => ex_ld rfl (q68_3.e (j:=79) rfl) (ldI8 (cell8 (HS.cell 2 _ rfl) hv))) fun _ q68_4 => ?_;clear q68_3
 refine q68_4.q _ (fun v hv => ex_move rfl (q68_4.e (j:=5) rfl)) fun _ q68_5 => ?_;clear q68_4
 refine q68_5.q (.int .i64 (s.view % c.nd)) (fun v hv => ex_bin rfl (q68_5.e (j:=80) rfl) (q68_5.e (j:=81) rfl) (remD8 _ _ s.view c.nd (by omega) (by omega) (by omega) _)) fun _ q68_6 => ?_;clear q68_5
 refine q68_6.q (.bool (decide (s.self = (s.view % c.nd)))) (fun v hv => ex_bin rfl (q68_6.e (j:=78) rfl) (q68_6.e (j:=82) rfl) (eqlC _ _ _ _ _)) fun _ q68_7 => ?_;clear q68_6
 refine q68_7.q _ (fun v hv => ex_assign rfl (q68_7.e (j:=83) rfl)) fun _ q68_8 => ?_;clear q68_7
 have hz:=q68_8.z;have s2:=q68_8.a 2 rfl;have s3:=q68_8.a 3 rfl;have s5:=q68_8.a 5 rfl;have s6:=q68_8.a 6 rfl;clear q68_8;refine vq_nil (fun x4 hx4 => ?_)
 go_upto_region 5 with fail
 refine wp_region_lit ?_;have q69_0:=((((Rp.nil hz).cons s2).cons s3).cons s5).cons s6;clear hz s2 s3 s5 s6
 refine q69_0.t (.pointer (some ⟨w.heap.size + 1,1,none⟩)) (ex_fa rfl (q69_0.e (j:=3) rfl) (faS1 _ _)) fun _ q69_1 => ?_;clear q69_0
 refine q69_1.t (.int .i64 s.st) (ex_ld rfl (q69_1.e (j:=84) rfl) (ldT8 (cell8 (HS.cell 1 _ rfl) hx4))) fun _ q69_2 => ?_;clear q69_1
 have hz:=q69_2.z;have s2:=q69_2.a 2 rfl;have s3:=q69_2.a 3 rfl;have s5:=q69_2.a 5 rfl;have s6:=q69_2.a 6 rfl;have s85:=q69_2.a 85 rfl;clear q69_2;refine wpList_nil ?_
 go_upto_region 6 with fail
 refine wp_region_lit ?_;have q70_0:=(((((Rp.nil hz).cons s2).cons s3).cons s5).cons s6).cons s85;clear hz s2 s3 s5 s6 s85
 refine q70_0.t (.bool (decide (s.st = 1))) (ex_bin rfl (q70_0.e (j:=85) rfl) rfl (eqlC _ _ _ _ _)) fun _ q70_1 => ?_;clear q70_0
 refine q70_1.t _ (ex_assign rfl (q70_1.e (j:=87) rfl)) fun _ q70_2 => ?_;clear q70_1
 have hz:=q70_2.z;have s2:=q70_2.a 2 rfl;have s3:=q70_2.a 3 rfl;have s5:=q70_2.a 5 rfl;have s6:=q70_2.a 6 rfl;have s85:=q70_2.a 85 rfl;have s86:=q70_2.a 86 rfl;clear q70_2;refine wpList_nil ?_
 go_upto_region 7 with fail
 cases e1s : decide (s.st = 1)
 rotate_left
 ·refine wp_cond_true ((ev s86 rfl).trans (congrArg Value.bool e1s)) ?_
  clear s86
  go_upto_region 7 with fail
  refine wp_region_lit ?_;have q71_0:=(((((Rp.nil hz).cons s2).cons s3).cons s5).cons s6).cons s85;clear hz s2 s3 s5 s6 s85
  refine q71_0.t (.pointer (some ⟨w.heap.size + 1,3,none⟩)) (ex_fa rfl (q71_0.e (j:=3) rfl) (faS3 _ _)) fun _ q71_1 => ?_;clear q71_0
  refine q71_1.t (.int .i64 s.last) (ex_ld rfl (q71_1.e (j:=88) rfl) (ldI8 (cell8 (HS.cell 3 _ rfl) hx4))) fun _ q71_2 => ?_;clear q71_1
  refine q71_2.t (.pointer (some ⟨w.heap.size + 1,2,none⟩)) (ex_fa rfl (q71_2.e (j:=3) rfl) (faS2 _ _)) fun _ q71_3 => ?_;clear q71_2
  refine q71_3.t (.int .i64 s.view) (ex_ld rfl (q71_3.e (j:=90) rfl) (ldI8 (cell8 (HS.cell 2 _ rfl) hx4))) fun _ q71_4 => ?_;clear q71_3
  refine q71_4.t (.bool (!decide (s.last = s.view))) (ex_bin rfl (q71_4.e (j:=89) rfl) (q71_4.e (j:=91) rfl) (neqC _ _ _ _ _)) fun _ q71_5 => ?_;clear q71_4
  refine q71_5.t _ (ex_move rfl (q71_5.e (j:=92) rfl)) fun _ q71_6 => ?_;clear q71_5
  refine vl _ (.pointer (some ⟨w.heap.size + 1,9,none⟩)) (want_g rfl rfl (q71_6.a 93 rfl)) (fun hc => ex_fa rfl (q71_6.e (j:=3) rfl) (faS9 _ _)) rfl q71_6.z (by decide) (q71_6.k fun Ybh q71_7 => ?_);clear q71_6;refine vl _ (.slice s.ma s.M.length s.mc) (want_g rfl rfl (q71_7.a 93 rfl)) (fun hc => ex_ld rfl (ev (q71_7.a 94 rfl) hc) (ldM8 (cell8 (HS.cell 9 _ rfl) hx4))) rfl q71_7.z (by decide) (q71_7.k fun Ybi q71_8 => ?_);clear q71_7;refine vl _ (.int .i64 (s.M.length : Int)) (want_g rfl rfl (q71_8.a 93 rfl)) (fun hc => ex_lenM8 rfl rfl (ev (q71_8.a 95 rfl) hc)) rfl q71_8.z (by decide) (q71_8.k fun Ybj q71_9 => ?_);clear q71_8;refine vl _ (.pointer (some ⟨w.heap.size + 1,10,none⟩)) (want_g rfl rfl (q71_9.a 93 rfl)) (fun hc => ex_fa rfl (q71_9.e (j:=3) rfl) (faS10 _ _)) rfl q71_9.z (by decide) (q71_9.k fun Ybk q71_10 => ?_);clear q71_9;refine vl _ (.slice s.ba s.B.length s.bc) (want_g rfl rfl (q71_10.a 93 rfl)) (fun hc => ex_ld rfl (ev (q71_10.a 97 rfl) hc) (ldB8 (cell8 (HS.cell 10 _ rfl) hx4))) rfl q71_10.z (by decide) (q71_10.k fun Ybl q71_11 => ?_);clear q71_10;refine vl _ (.int .i64 (s.B.length : Int)) (want_g rfl rfl (q71_11.a 93 rfl)) (fun hc => ex_lenB8 rfl rfl (ev (q71_11.a 98 rfl) hc)) rfl q71_11.z (by decide) (q71_11.k fun Ybm q71_12 => ?_);clear q71_11;refine vl _ (.int .i64 ((s.M.length : Int) + (s.B.length : Int))) (want_g rfl rfl (q71_12.a 93 rfl)) (fun hc => ex_bin rfl (ev (q71_12.a 96 rfl) hc) (ev (q71_12.a 99 rfl) hc) (addD8 _ _ (s.M.length : Int) (s.B.length : Int) ((s.M.length : Int) + (s.B.length : Int)) (by rw [IntKind.wrap_i64];omega) _)) rfl q71_12.z (by decide) (q71_12.k fun Ybn q71_13 => ?_);clear q71_12;refine vl _ (.pointer (some ⟨w.heap.size + 1,11,none⟩)) (want_g rfl rfl (q71_13.a 93 rfl)) (fun hc => ex_fa rfl (q71_13.e (j:=3) rfl) (faS11 _ _)) rfl q71_13.z (by decide) (q71_13.k fun Ybo q71_14 => ?_);clear q71_13;refine vl _ (.slice s.na s.N.length s.nc) (want_g rfl rfl (q71_14.a 93 rfl)) (fun hc => ex_ld rfl (ev (q71_14.a 101 rfl) hc) (ldN8 (cell8 (HS.cell 11 _ rfl) hx4))) rfl q71_14.z (by decide) (q71_14.k fun Ybp q71_15 => ?_);clear q71_14;refine vl _ (.int .i64 (s.N.length : Int)) (want_g rfl rfl (q71_15.a 93 rfl)) (fun hc => ex_lenN8 rfl rfl (ev (q71_15.a 102 rfl) hc)) rfl q71_15.z (by decide) (q71_15.k fun Ybq q71_16 => ?_);clear q71_15;refine vl _ (.int .i64 (((s.M.length : Int) + (s.B.length : Int)) + (s.N.length : Int))) (want_g rfl rfl (q71_16.a 93 rfl)) (fun hc => ex_bin rfl (ev (q71_16.a 100 rfl) hc) (ev (q71_16.a 103 rfl) hc) (addD8 _ _ ((s.M.length : Int) + (s.B.length : Int)) (s.N.length : Int) (((s.M.length : Int) + (s.B.length : Int)) + (s.N.length : Int)) (by rw [IntKind.wrap_i64];omega) _)) rfl q71_16.z (by decide) (q71_16.k fun Ybr q71_17 => ?_);clear q71_16;refine vl _ (.bool (decide (0 < (((s.M.length : Int) + (s.B.length : Int)) + (s.N.length : Int))))) (want_g rfl rfl (q71_17.a 93 rfl)) (fun hc => ex_bin rfl (ev (q71_17.a 104 rfl) hc) rfl (gtrC _ _ _ _ _)) rfl q71_17.z (by decide) (q71_17.k fun Ybs q71_18 => ?_);clear q71_17
  refine q71_18.t (.bool ((!decide (s.last = s.view)) || (decide (0 < (((s.M.length : Int) + (s.B.length : Int)) + (s.N.length : Int)))))) (ex_or rfl (q71_18.a 93 rfl) (q71_18.a 105 rfl) rfl) fun _ q71_19 => ?_;clear q71_18
  refine q71_19.t _ (ex_move rfl (q71_19.e (j:=106) rfl)) fun _ q71_20 => ?_;clear q71_19
  refine vl _ (.bool (decide (s.self = (s.view % c.nd)))) (want_g rfl rfl (q71_20.a 107 rfl)) (fun hc => ex_move rfl (q71_20.e (j:=6) rfl)) rfl q71_20.z (by decide) (q71_20.k fun Ybt q71_21 => ?_);clear q71_20;refine vl _ (.bool (decide (s.self = (s.view % c.nd)))) (want_g rfl rfl (q71_21.a 107 rfl)) (fun hc => ex_move rfl (ev (q71_21.a 108 rfl) hc)) rfl q71_21.z (by decide) (q71_21.k fun Ybu q71_22 => ?_);clear q71_21;refine vl ((true && (((!decide (s.last = s.view)) || (decide (0 < (((s.M.length : Int) + (s.B.length : Int)) + (s.N.length : Int))))) == false)) && ((decide (s.self = (s.view % c.nd))) == true)) (.pointer (some ⟨w.heap.size + 1,7,none⟩)) (want_g rfl rfl (q71_22.a 109 rfl)) (fun hc => ex_fa rfl (q71_22.e (j:=3) rfl) (faS7 _ _)) rfl q71_22.z (by decide) (q71_22.k fun Ybv q71_23 => ?_);clear q71_22;refine vl ((true && (((!decide (s.last = s.view)) || (decide (0 < (((s.M.length : Int) + (s.B.length : Int)) + (s.N.length : Int))))) == false)) && ((decide (s.self = (s.view % c.nd))) == true)) (.int .i64 s.idle) (want_g rfl rfl (q71_23.a 109 rfl)) (fun hc => ex_ld rfl (ev (q71_23.a 110 rfl) hc) (ldI8 (cell8 (HS.cell 7 _ rfl) hx4))) rfl q71_23.z (by decide) (q71_23.k fun Ybw q71_24 => ?_);clear q71_23;refine vl ((true && (((!decide (s.last = s.view)) || (decide (0 < (((s.M.length : Int) + (s.B.length : Int)) + (s.N.length : Int))))) == false)) && ((decide (s.self = (s.view % c.nd))) == true)) (.bool (!decide (s.idle = 0))) (want_g rfl rfl (q71_24.a 109 rfl)) (fun hc => ex_bin rfl (ev (q71_24.a 111 rfl) hc) rfl (neqC _ _ _ _ _)) rfl q71_24.z (by decide) (q71_24.k fun Ybx q71_25 => ?_);clear q71_24;refine vl _ (.bool ((decide (s.self = (s.view % c.nd))) && (!decide (s.idle = 0)))) (want_g rfl rfl (q71_25.a 107 rfl)) (fun hc => ex_and rfl (q71_25.a 109 rfl) (q71_25.a 112 rfl) hc) rfl q71_25.z (by decide) (q71_25.k fun Yby q71_26 => ?_);clear q71_25
  refine q71_26.t (.bool (((!decide (s.last = s.view)) || (decide (0 < (((s.M.length : Int) + (s.B.length : Int)) + (s.N.length : Int))))) || ((decide (s.self = (s.view % c.nd))) && (!decide (s.idle = 0))))) (ex_or rfl (q71_26.a 107 rfl) (q71_26.a 113 rfl) rfl) fun _ q71_27 => ?_;clear q71_26
  refine q71_27.t _ (ex_move rfl (q71_27.e (j:=114) rfl)) fun _ q71_28 => ?_;clear q71_27
  refine vl _ (.bool (decide (s.self = (s.view % c.nd)))) (want_g rfl rfl (q71_28.a 115 rfl)) (fun hc => ex_move rfl (q71_28.e (j:=6) rfl)) rfl q71_28.z (by decide) (q71_28.k fun Ybz q71_29 => ?_);clear q71_28;refine vl _ (.bool (!(decide (s.self = (s.view % c.nd))))) (want_g rfl rfl (q71_29.a 115 rfl)) (fun hc => ex_not rfl (ev (q71_29.a 116 rfl) hc)) rfl q71_29.z (by decide) (q71_29.k fun Yb0 q71_30 => ?_);clear q71_29;refine vl _ (.bool (!(decide (s.self = (s.view % c.nd))))) (want_g rfl rfl (q71_30.a 115 rfl)) (fun hc => ex_move rfl (ev (q71_30.a 117 rfl) hc)) rfl q71_30.z (by decide) (q71_30.k fun Yb1 q71_31 => ?_);clear q71_30;refine vl ((true && ((((!decide (s.last = s.view)) || (decide (0 < (((s.M.length : Int) + (s.B.length : Int)) + (s.N.length : Int))))) || ((decide (s.self = (s.view % c.nd))) && (!decide (s.idle = 0)))) == false)) && ((!(decide (s.self = (s.view % c.nd)))) == true)) (.pointer (some ⟨w.heap.size + 1,8,none⟩)) (want_g rfl rfl (q71_31.a 118 rfl)) (fun hc => ex_fa rfl (q71_31.e (j:=3) rfl) (faS8 _ _)) rfl q71_31.z (by decide) (q71_31.k fun Yb2 q71_32 => ?_);clear q71_31;refine vl ((true && ((((!decide (s.last = s.view)) || (decide (0 < (((s.M.length : Int) + (s.B.length : Int)) + (s.N.length : Int))))) || ((decide (s.self = (s.view % c.nd))) && (!decide (s.idle = 0)))) == false)) && ((!(decide (s.self = (s.view % c.nd)))) == true)) (.slice s.ka s.A.length s.kc) (want_g rfl rfl (q71_32.a 118 rfl)) (fun hc => ex_ld rfl (ev (q71_32.a 119 rfl) hc) (ldK8 (cell8 (HS.cell 8 _ rfl) hx4))) rfl q71_32.z (by decide) (q71_32.k fun Yb3 q71_33 => ?_);clear q71_32;refine vl ((true && ((((!decide (s.last = s.view)) || (decide (0 < (((s.M.length : Int) + (s.B.length : Int)) + (s.N.length : Int))))) || ((decide (s.self = (s.view % c.nd))) && (!decide (s.idle = 0)))) == false)) && ((!(decide (s.self = (s.view % c.nd)))) == true)) (.int .i64 (s.A.length : Int)) (want_g rfl rfl (q71_33.a 118 rfl)) (fun hc => ex_lenK8 rfl rfl (ev (q71_33.a 120 rfl) hc)) rfl q71_33.z (by decide) (q71_33.k fun Yb4 q71_34 => ?_);clear q71_33;refine vl ((true && ((((!decide (s.last = s.view)) || (decide (0 < (((s.M.length : Int) + (s.B.length : Int)) + (s.N.length : Int))))) || ((decide (s.self = (s.view % c.nd))) && (!decide (s.idle = 0)))) == false)) && ((!(decide (s.self = (s.view % c.nd)))) == true)) (.bool (decide (0 < (s.A.length : Int)))) (want_g rfl rfl (q71_34.a 118 rfl)) (fun hc => ex_bin rfl (ev (q71_34.a 121 rfl) hc) rfl (gtrC _ _ _ _ _)) rfl q71_34.z (by decide) (q71_34.k fun Yb5 q71_35 => ?_);clear q71_34;refine vl _ (.bool ((!(decide (s.self = (s.view % c.nd)))) && (decide (0 < (s.A.length : Int))))) (want_g rfl rfl (q71_35.a 115 rfl)) (fun hc => ex_and rfl (q71_35.a 118 rfl) (q71_35.a 122 rfl) hc) rfl q71_35.z (by decide) (q71_35.k fun Yb6 q71_36 => ?_);clear q71_35
  refine q71_36.t (.bool ((((!decide (s.last = s.view)) || (decide (0 < (((s.M.length : Int) + (s.B.length : Int)) + (s.N.length : Int))))) || ((decide (s.self = (s.view % c.nd))) && (!decide (s.idle = 0)))) || ((!(decide (s.self = (s.view % c.nd)))) && (decide (0 < (s.A.length : Int)))))) (ex_or rfl (q71_36.a 115 rfl) (q71_36.a 123 rfl) rfl) fun _ q71_37 => ?_;clear q71_36
  have hz:=q71_37.z;have s2:=q71_37.a 2 rfl;have s3:=q71_37.a 3 rfl;have s124:=q71_37.a 124 rfl;clear q71_37;refine wpList_nil ?_
  go_upto_region 8 with fail
  cases eg : s.mn9 c
  rotate_left
  ·refine wp_cond_true ((ev s124 rfl).trans (congrArg Value.bool eg)) ?_
   go_upto_region 8 with fail
   refine wp_region_lit ?_;have q72_0:=((Rp.nil hz).cons s2).cons s3;clear hz s2 s3
   refine q72_0.t (.bool false) (ex_assign rfl rfl) fun _ q72_1 => ?_;clear q72_0
   have hz:=q72_1.z;have s4:=q72_1.a 4 rfl;clear q72_1;refine wpList_nil ?_
   go_wp2
   refine bodyPost_ret (results_tmp rfl _ _ _) rfl ⟨?_,hB.trans (hx4.mono (by omega))⟩;rw [getD_of s4]
   unfold Sta.mayB9
   rw [e76,e1s,eg]
   rfl
  refine wp_cond_false ((ev s124 rfl).trans (congrArg Value.bool eg)) ?_;clear s124
  go_upto_region 9 with fail
  refine wp_region_lit ?_;have q73_0:=((Rp.nil hz).cons s2).cons s3;clear hz s2 s3
  refine q73_0.t (.int .i64 0) (ex_assign rfl rfl) fun _ q73_1 => ?_;clear q73_0
  have hz:=q73_1.z;have s2:=q73_1.a 2 rfl;have s3:=q73_1.a 3 rfl;have s7:=q73_1.a 7 rfl;clear q73_1;refine wpList_nil ?_;have hsv : _ = some (gw true (.int .i64 ((0 : Nat) : Int))):=s7
  go_upto_region 10 with fail
  refine v_loop 7 s.A.length (fun i T wr => T.size = 223∧T[2]? = some (gw true (.pointer (some ⟨w.heap.size,0,none⟩)))∧T[3]? = some (gw true (.pointer (some ⟨w.heap.size + 1,0,none⟩)))∧T[7]? = some (gw true (.int .i64 (i : Int)))∧Hid (Below x3.heap.size x3 wr∧∀ k x,k < i → s.A[k]? = some x → rkb9 s x = false)) (fun i T w h => h.2.2.2.1) ⟨hz,s2,s3,hsv,hx4,fun k x hk => absurd hk (Nat.not_lt_zero _)⟩ ?_;clear hz s2 s3 s7 hsv;intro i R0 wr hi hh;obtain ⟨hz,s2,s3,s7,HJ⟩:=hh;have hbr:=HJ.out.1;have hzr:=hbr.size
  by_cases hit : i < s.A.length
  ·have d1 : decide ((i : Int) < (s.A.length : Int)) = true:=decide_eq_true (by omega)
   go_upto_region 10 with fail
   refine wp_region_lit ?_;have q74_0:=(((Rp.nil hz).cons s2).cons s3).cons s7;clear hz s2 s3 s7
   refine q74_0.t _ (ex_move rfl (q74_0.e (j:=7) rfl)) fun _ q74_1 => ?_;clear q74_0
   refine q74_1.t (.pointer (some ⟨w.heap.size + 1,8,none⟩)) (ex_fa rfl (q74_1.e (j:=3) rfl) (faS8 _ _)) fun _ q74_2 => ?_;clear q74_1
   refine q74_2.t (.slice s.ka s.A.length s.kc) (ex_ld rfl (q74_2.e (j:=126) rfl) (ldK8 (cell8 (HS.cell 8 _ rfl) hbr))) fun _ q74_3 => ?_;clear q74_2
   refine q74_3.t (.int .i64 (s.A.length : Int)) (ex_lenK8 rfl rfl (q74_3.e (j:=127) rfl)) fun _ q74_4 => ?_;clear q74_3
   refine q74_4.t (.bool true) (ex_bin rfl (q74_4.e (j:=125) rfl) (q74_4.e (j:=128) rfl) (lssD8 _ _ _ _ true d1 _)) fun _ q74_5 => ?_;clear q74_4
   have hz:=q74_5.z;have s2:=q74_5.a 2 rfl;have s3:=q74_5.a 3 rfl;have s7:=q74_5.a 7 rfl;have s129:=q74_5.a 129 rfl;clear q74_5;refine wpList_nil ?_
   go_upto_region 12 with fail
   refine wp_cond_true ((ev s129 rfl).trans rfl) ?_;clear s129 d1
   obtain ⟨x,hxi⟩ : ∃ x,s.A[i]? = some x:=⟨_,List.getElem?_eq_getElem hit⟩
   have hmem:=List.mem_of_getElem? hxi;obtain ⟨q,o,hqa,hq,hl⟩:=(HI.a.later hbr).place (by intro e;rw [e] at hit;simp at hit);have e1 : wr.cell? ⟨q,o + i * 4 + 3,none⟩ = some (.int .i64 x.p):=hl i x hxi 3 _ rfl
   go_upto_region 12 with fail
   refine vq_start (C:=fun v => Below wr.heap.size wr v) (by kernel_rfl) (by kernel_rfl) (Below.refl _ _).drew ?_;have q75_0:=(((Rp.nil hz).cons s2).cons s3).cons s7;clear hz s2 s3 s7
   refine q75_0.q (.pointer (some ⟨w.heap.size + 1,8,none⟩)) (fun v hv => ex_fa rfl (q75_0.e (j:=3) rfl) (faS8 _ _)) fun _ q75_1 => ?_;clear q75_0
   refine q75_1.q (.slice s.ka s.A.length s.kc) (fun v hv => ex_ld rfl (q75_1.e (j:=132) rfl) (ldK8 (cell8 ((HS.bel hbr).cell 8 _ rfl) hv))) fun _ q75_2 => ?_;clear q75_1
   refine q75_2.q _ (fun v hv => ex_move rfl (q75_2.e (j:=7) rfl)) fun _ q75_3 => ?_;clear q75_2
   refine q75_3.q (.pointer (some ⟨q,o + i * 4,none⟩)) (fun v hv => ex_ix rfl (q75_3.e (j:=133) rfl) (q75_3.e (j:=134) rfl) (by rw [hqa];exact ix9Ak q o s.A.length s.kc i hit _)) fun _ q75_4 => ?_;clear q75_3
   refine q75_4.q (.pointer (some ⟨q,o + i * 4 + 3,none⟩)) (fun v hv => ex_fa rfl (q75_4.e (j:=135) rfl) (fa2Ak _ _ _)) fun _ q75_5 => ?_;clear q75_4
   refine q75_5.q (.int .i64 x.p) (fun v hv => ex_ld rfl (q75_5.e (j:=136) rfl) (ldI8 (cell8 e1 hv))) fun _ q75_6 => ?_;clear q75_5
   refine q75_6.q (.bool (decide (x.p < 1))) (fun v hv => ex_bin rfl (q75_6.e (j:=137) rfl) rfl (lssC _ _ _ _ _)) fun _ q75_7 => ?_;clear q75_6
   refine q75_7.q _ (fun v hv => ex_move rfl (q75_7.e (j:=138) rfl)) fun _ q75_8 => ?_;clear q75_7
   refine vq _ (.pointer (some ⟨w.heap.size + 1,8,none⟩)) (want_g rfl rfl (q75_8.a 139 rfl)) (fun hc v hv => ex_fa rfl (q75_8.e (j:=3) rfl) (faS8 _ _)) rfl q75_8.z (by decide) (q75_8.k fun Yb7 q75_9 => ?_);clear q75_8;refine vq _ (.slice s.ka s.A.length s.kc) (want_g rfl rfl (q75_9.a 139 rfl)) (fun hc v hv => ex_ld rfl (ev (q75_9.a 140 rfl) hc) (ldK8 (cell8 ((HS.bel hbr).cell 8 _ rfl) hv))) rfl q75_9.z (by decide) (q75_9.k fun Yb8 q75_10 => ?_);clear q75_9;refine vq _ (.int .i64 (i : Int)) (want_g rfl rfl (q75_10.a 139 rfl)) (fun hc v hv => ex_move rfl (q75_10.e (j:=7) rfl)) rfl q75_10.z (by decide) (q75_10.k fun Yb9 q75_11 => ?_);clear q75_10;refine vq _ (.pointer (some ⟨q,o + i * 4,none⟩)) (want_g rfl rfl (q75_11.a 139 rfl)) (fun hc v hv => ex_ix rfl (ev (q75_11.a 141 rfl) hc) (ev (q75_11.a 142 rfl) hc) (by rw [hqa];exact ix9Ak q o s.A.length s.kc i hit _)) rfl q75_11.z (by decide) (q75_11.k fun Yca q75_12 => ?_);clear q75_11;refine vq _ (.pointer (some ⟨q,o + i * 4 + 3,none⟩)) (want_g rfl rfl (q75_12.a 139 rfl)) (fun hc v hv => ex_fa rfl (ev (q75_12.a 143 rfl) hc) (fa2Ak _ _ _)) rfl q75_12.z (by decide) (q75_12.k fun Ycb q75_13 => ?_);clear q75_12;refine vq _ (.int .i64 x.p) (want_g rfl rfl (q75_13.a 139 rfl)) (fun hc v hv => ex_ld rfl (ev (q75_13.a 144 rfl) hc) (ldI8 (cell8 e1 hv))) rfl q75_13.z (by decide) (q75_13.k fun Ycc q75_14 => ?_);clear q75_13;refine vq _ (.pointer (some ⟨w.heap.size + 1,4,none⟩)) (want_g rfl rfl (q75_14.a 139 rfl)) (fun hc v hv => ex_fa rfl (q75_14.e (j:=3) rfl) (faS4 _ _)) rfl q75_14.z (by decide) (q75_14.k fun Ycd q75_15 => ?_);clear q75_14;refine vq _ (.slice s.la s.L.length s.lc) (want_g rfl rfl (q75_15.a 139 rfl)) (fun hc v hv => ex_ld rfl (ev (q75_15.a 146 rfl) hc) (ldE8 (cell8 ((HS.bel hbr).cell 4 _ rfl) hv))) rfl q75_15.z (by decide) (q75_15.k fun Yce q75_16 => ?_);clear q75_15;refine vq _ (.int .i64 (s.L.length : Int)) (want_g rfl rfl (q75_16.a 139 rfl)) (fun hc v hv => ex_lenE8 rfl rfl (ev (q75_16.a 147 rfl) hc)) rfl q75_16.z (by decide) (q75_16.k fun Ycf q75_17 => ?_);clear q75_16;refine vq _ (.bool (decide ((s.L.length : Int) < x.p))) (want_g rfl rfl (q75_17.a 139 rfl)) (fun hc v hv => ex_bin rfl (ev (q75_17.a 145 rfl) hc) (ev (q75_17.a 148 rfl) hc) (gtrC _ _ _ _ _)) rfl q75_17.z (by decide) (q75_17.k fun Ycg q75_18 => ?_);clear q75_17
   refine q75_18.q (.bool ((decide (x.p < 1)) || (decide ((s.L.length : Int) < x.p)))) (fun v hv => ex_or rfl (q75_18.a 139 rfl) (q75_18.a 149 rfl) rfl) fun _ q75_19 => ?_;clear q75_18
   have hz:=q75_19.z;have s2:=q75_19.a 2 rfl;have s3:=q75_19.a 3 rfl;have s7:=q75_19.a 7 rfl;have s150:=q75_19.a 150 rfl;clear q75_19;refine vq_nil (fun x11 hx11 => ?_);have hb8:=hbr.trans (hx11.mono hzr)
   go_upto_region 13 with fail
   cases eb : rkb9 s x
   rotate_left
   ·refine wp_cond_true ((ev s150 rfl).trans (congrArg Value.bool eb)) ?_
    go_upto_region 13 with fail
    refine wp_region_lit ?_;have q76_0:=(((Rp.nil hz).cons s2).cons s3).cons s7;clear hz s2 s3 s7
    refine q76_0.t (.bool false) (ex_assign rfl rfl) fun _ q76_1 => ?_;clear q76_0
    have hz:=q76_1.z;have s4:=q76_1.a 4 rfl;clear q76_1;refine wpList_nil ?_
    go_wp2
    refine bodyPost_ret (results_tmp rfl _ _ _) rfl ⟨?_,hB.trans (hb8.mono (by omega))⟩;rw [getD_of s4]
    unfold Sta.mayB9
    rw [e76,e1s,eg,any_bad9 hxi eb]
    rfl
   refine wp_cond_false ((ev s150 rfl).trans (congrArg Value.bool eb)) ?_;clear s150
   go_upto_region 11 with fail
   refine wp_region_lit ?_;have q77_0:=(((Rp.nil hz).cons s2).cons s3).cons s7;clear hz s2 s3 s7
   refine q77_0.t _ (ex_move rfl (q77_0.e (j:=7) rfl)) fun _ q77_1 => ?_;clear q77_0
   refine q77_1.t (.int .i64 ((i + 1 : Nat) : Int)) (ex_bin rfl (q77_1.e (j:=130) rfl) rfl (addD8 _ _ _ 1 ((i + 1 : Nat) : Int) (by rw [IntKind.wrap_i64];omega) _)) fun _ q77_2 => ?_;clear q77_1
   refine q77_2.t _ (ex_assign rfl (q77_2.e (j:=131) rfl)) fun _ q77_3 => ?_;clear q77_2
   have hz:=q77_3.z;have s2:=q77_3.a 2 rfl;have s3:=q77_3.a 3 rfl;have s7:=q77_3.a 7 rfl;clear q77_3;refine wpList_nil ?_
   exact ⟨_,rfl,by omega,hz,s2,s3,s7,hb8,fun k y hk hy => by
    by_cases e : k = i
    ·subst e;rw [hxi] at hy;cases hy;exact eb
    ·exact HJ.out.2 k y (by omega) hy⟩
  ·have d1 : decide ((i : Int) < (s.A.length : Int)) = false:=decide_eq_false (by omega)
   go_upto_region 10 with fail
   refine wp_region_lit ?_;have q78_0:=(((Rp.nil hz).cons s2).cons s3).cons s7;clear hz s2 s3 s7
   refine q78_0.t _ (ex_move rfl (q78_0.e (j:=7) rfl)) fun _ q78_1 => ?_;clear q78_0
   refine q78_1.t (.pointer (some ⟨w.heap.size + 1,8,none⟩)) (ex_fa rfl (q78_1.e (j:=3) rfl) (faS8 _ _)) fun _ q78_2 => ?_;clear q78_1
   refine q78_2.t (.slice s.ka s.A.length s.kc) (ex_ld rfl (q78_2.e (j:=126) rfl) (ldK8 (cell8 (HS.cell 8 _ rfl) hbr))) fun _ q78_3 => ?_;clear q78_2
   refine q78_3.t (.int .i64 (s.A.length : Int)) (ex_lenK8 rfl rfl (q78_3.e (j:=127) rfl)) fun _ q78_4 => ?_;clear q78_3
   refine q78_4.t (.bool false) (ex_bin rfl (q78_4.e (j:=125) rfl) (q78_4.e (j:=128) rfl) (lssD8 _ _ _ _ false d1 _)) fun _ q78_5 => ?_;clear q78_4
   have hz:=q78_5.z;have s129:=q78_5.a 129 rfl;clear q78_5;refine wpList_nil ?_
   go_upto_region 14 with fail
   refine wp_cond_false ((ev s129 rfl).trans rfl) ?_;clear s129 d1
   go_upto_region 14 with fail
   refine wp_region_lit ?_;have q79_0:=Rp.nil hz;clear hz
   refine q79_0.t (.bool true) (ex_assign rfl rfl) fun _ q79_1 => ?_;clear q79_0
   have hz:=q79_1.z;have s4:=q79_1.a 4 rfl;clear q79_1;refine wpList_nil ?_
   go_wp2
   refine bodyPost_ret (results_tmp rfl _ _ _) rfl ⟨?_,hB.trans (hbr.mono (by omega))⟩;rw [getD_of s4]
   unfold Sta.mayB9
   rw [e76,e1s,eg,any_ok9 (fun k x hk hx => HJ.out.2 k x (by omega) hx)]
   rfl
 refine wp_cond_false ((ev s86 rfl).trans (congrArg Value.bool e1s)) ?_;clear s86
 go_upto_region 15 with fail
 refine wp_region_lit ?_;have q80_0:=(((((Rp.nil hz).cons s2).cons s3).cons s5).cons s6).cons s85;clear hz s2 s3 s5 s6 s85
 refine q80_0.t (.bool (decide (s.st = 2))) (ex_bin rfl (q80_0.e (j:=85) rfl) rfl (eqlC _ _ _ _ _)) fun _ q80_1 => ?_;clear q80_0
 refine q80_1.t _ (ex_assign rfl (q80_1.e (j:=152) rfl)) fun _ q80_2 => ?_;clear q80_1
 have hz:=q80_2.z;have s2:=q80_2.a 2 rfl;have s3:=q80_2.a 3 rfl;have s5:=q80_2.a 5 rfl;have s6:=q80_2.a 6 rfl;have s85:=q80_2.a 85 rfl;have s151:=q80_2.a 151 rfl;clear q80_2;refine wpList_nil ?_
 go_upto_region 16 with fail
 cases e2s : decide (s.st = 2)
 rotate_left
 ·refine wp_cond_true ((ev s151 rfl).trans (congrArg Value.bool e2s)) ?_
  clear s151
  go_upto_region 16 with fail
  refine wp_region_lit ?_;have q81_0:=(((((Rp.nil hz).cons s2).cons s3).cons s5).cons s6).cons s85;clear hz s2 s3 s5 s6 s85
  refine q81_0.t (.pointer (some ⟨w.heap.size + 1,3,none⟩)) (ex_fa rfl (q81_0.e (j:=3) rfl) (faS3 _ _)) fun _ q81_1 => ?_;clear q81_0
  refine q81_1.t (.int .i64 s.last) (ex_ld rfl (q81_1.e (j:=153) rfl) (ldI8 (cell8 (HS.cell 3 _ rfl) hx4))) fun _ q81_2 => ?_;clear q81_1
  refine q81_2.t (.pointer (some ⟨w.heap.size + 1,2,none⟩)) (ex_fa rfl (q81_2.e (j:=3) rfl) (faS2 _ _)) fun _ q81_3 => ?_;clear q81_2
  refine q81_3.t (.int .i64 s.view) (ex_ld rfl (q81_3.e (j:=155) rfl) (ldI8 (cell8 (HS.cell 2 _ rfl) hx4))) fun _ q81_4 => ?_;clear q81_3
  refine q81_4.t (.bool (decide (s.last = s.view))) (ex_bin rfl (q81_4.e (j:=154) rfl) (q81_4.e (j:=156) rfl) (eqlC _ _ _ _ _)) fun _ q81_5 => ?_;clear q81_4
  refine q81_5.t _ (ex_move rfl (q81_5.e (j:=157) rfl)) fun _ q81_6 => ?_;clear q81_5
  refine vl _ (.pointer (some ⟨w.heap.size + 1,8,none⟩)) (want_g rfl rfl (q81_6.a 158 rfl)) (fun hc => ex_fa rfl (q81_6.e (j:=3) rfl) (faS8 _ _)) rfl q81_6.z (by decide) (q81_6.k fun Ych q81_7 => ?_);clear q81_6;refine vl _ (.slice s.ka s.A.length s.kc) (want_g rfl rfl (q81_7.a 158 rfl)) (fun hc => ex_ld rfl (ev (q81_7.a 159 rfl) hc) (ldK8 (cell8 (HS.cell 8 _ rfl) hx4))) rfl q81_7.z (by decide) (q81_7.k fun Yci q81_8 => ?_);clear q81_7;refine vl _ (.int .i64 (s.A.length : Int)) (want_g rfl rfl (q81_8.a 158 rfl)) (fun hc => ex_lenK8 rfl rfl (ev (q81_8.a 160 rfl) hc)) rfl q81_8.z (by decide) (q81_8.k fun Ycj q81_9 => ?_);clear q81_8;refine vl _ (.pointer (some ⟨w.heap.size + 1,11,none⟩)) (want_g rfl rfl (q81_9.a 158 rfl)) (fun hc => ex_fa rfl (q81_9.e (j:=3) rfl) (faS11 _ _)) rfl q81_9.z (by decide) (q81_9.k fun Yck q81_10 => ?_);clear q81_9;refine vl _ (.slice s.na s.N.length s.nc) (want_g rfl rfl (q81_10.a 158 rfl)) (fun hc => ex_ld rfl (ev (q81_10.a 162 rfl) hc) (ldN8 (cell8 (HS.cell 11 _ rfl) hx4))) rfl q81_10.z (by decide) (q81_10.k fun Ycl q81_11 => ?_);clear q81_10;refine vl _ (.int .i64 (s.N.length : Int)) (want_g rfl rfl (q81_11.a 158 rfl)) (fun hc => ex_lenN8 rfl rfl (ev (q81_11.a 163 rfl) hc)) rfl q81_11.z (by decide) (q81_11.k fun Ycm q81_12 => ?_);clear q81_11;refine vl _ (.int .i64 ((s.A.length : Int) + (s.N.length : Int))) (want_g rfl rfl (q81_12.a 158 rfl)) (fun hc => ex_bin rfl (ev (q81_12.a 161 rfl) hc) (ev (q81_12.a 164 rfl) hc) (addD8 _ _ (s.A.length : Int) (s.N.length : Int) ((s.A.length : Int) + (s.N.length : Int)) (by rw [IntKind.wrap_i64];omega) _)) rfl q81_12.z (by decide) (q81_12.k fun Ycn q81_13 => ?_);clear q81_12;refine vl _ (.bool (decide (0 < ((s.A.length : Int) + (s.N.length : Int))))) (want_g rfl rfl (q81_13.a 158 rfl)) (fun hc => ex_bin rfl (ev (q81_13.a 165 rfl) hc) rfl (gtrC _ _ _ _ _)) rfl q81_13.z (by decide) (q81_13.k fun Yco q81_14 => ?_);clear q81_13
  refine q81_14.t (.bool ((decide (s.last = s.view)) || (decide (0 < ((s.A.length : Int) + (s.N.length : Int)))))) (ex_or rfl (q81_14.a 158 rfl) (q81_14.a 166 rfl) rfl) fun _ q81_15 => ?_;clear q81_14
  refine q81_15.t _ (ex_move rfl (q81_15.e (j:=167) rfl)) fun _ q81_16 => ?_;clear q81_15
  refine vl _ (.bool (decide (s.self = (s.view % c.nd)))) (want_g rfl rfl (q81_16.a 168 rfl)) (fun hc => ex_move rfl (q81_16.e (j:=6) rfl)) rfl q81_16.z (by decide) (q81_16.k fun Ycp q81_17 => ?_);clear q81_16;refine vl _ (.bool (!(decide (s.self = (s.view % c.nd))))) (want_g rfl rfl (q81_17.a 168 rfl)) (fun hc => ex_not rfl (ev (q81_17.a 169 rfl) hc)) rfl q81_17.z (by decide) (q81_17.k fun Ycq q81_18 => ?_);clear q81_17;refine vl _ (.bool (!(decide (s.self = (s.view % c.nd))))) (want_g rfl rfl (q81_18.a 168 rfl)) (fun hc => ex_move rfl (ev (q81_18.a 170 rfl) hc)) rfl q81_18.z (by decide) (q81_18.k fun Ycr q81_19 => ?_);clear q81_18;refine vl ((true && (((decide (s.last = s.view)) || (decide (0 < ((s.A.length : Int) + (s.N.length : Int))))) == false)) && ((!(decide (s.self = (s.view % c.nd)))) == true)) (.pointer (some ⟨w.heap.size + 1,10,none⟩)) (want_g rfl rfl (q81_19.a 171 rfl)) (fun hc => ex_fa rfl (q81_19.e (j:=3) rfl) (faS10 _ _)) rfl q81_19.z (by decide) (q81_19.k fun Ycs q81_20 => ?_);clear q81_19;refine vl ((true && (((decide (s.last = s.view)) || (decide (0 < ((s.A.length : Int) + (s.N.length : Int))))) == false)) && ((!(decide (s.self = (s.view % c.nd)))) == true)) (.slice s.ba s.B.length s.bc) (want_g rfl rfl (q81_20.a 171 rfl)) (fun hc => ex_ld rfl (ev (q81_20.a 172 rfl) hc) (ldB8 (cell8 (HS.cell 10 _ rfl) hx4))) rfl q81_20.z (by decide) (q81_20.k fun Yct q81_21 => ?_);clear q81_20;refine vl ((true && (((decide (s.last = s.view)) || (decide (0 < ((s.A.length : Int) + (s.N.length : Int))))) == false)) && ((!(decide (s.self = (s.view % c.nd)))) == true)) (.int .i64 (s.B.length : Int)) (want_g rfl rfl (q81_21.a 171 rfl)) (fun hc => ex_lenB8 rfl rfl (ev (q81_21.a 173 rfl) hc)) rfl q81_21.z (by decide) (q81_21.k fun Ycu q81_22 => ?_);clear q81_21;refine vl ((true && (((decide (s.last = s.view)) || (decide (0 < ((s.A.length : Int) + (s.N.length : Int))))) == false)) && ((!(decide (s.self = (s.view % c.nd)))) == true)) (.bool (decide (0 < (s.B.length : Int)))) (want_g rfl rfl (q81_22.a 171 rfl)) (fun hc => ex_bin rfl (ev (q81_22.a 174 rfl) hc) rfl (gtrC _ _ _ _ _)) rfl q81_22.z (by decide) (q81_22.k fun Ycv q81_23 => ?_);clear q81_22;refine vl _ (.bool ((!(decide (s.self = (s.view % c.nd)))) && (decide (0 < (s.B.length : Int))))) (want_g rfl rfl (q81_23.a 168 rfl)) (fun hc => ex_and rfl (q81_23.a 171 rfl) (q81_23.a 175 rfl) hc) rfl q81_23.z (by decide) (q81_23.k fun Ycw q81_24 => ?_);clear q81_23
  refine q81_24.t (.bool (((decide (s.last = s.view)) || (decide (0 < ((s.A.length : Int) + (s.N.length : Int))))) || ((!(decide (s.self = (s.view % c.nd)))) && (decide (0 < (s.B.length : Int)))))) (ex_or rfl (q81_24.a 168 rfl) (q81_24.a 176 rfl) rfl) fun _ q81_25 => ?_;clear q81_24
  refine q81_25.t _ (ex_move rfl (q81_25.e (j:=177) rfl)) fun _ q81_26 => ?_;clear q81_25
  refine vl _ (.pointer (some ⟨w.heap.size + 1,10,none⟩)) (want_g rfl rfl (q81_26.a 178 rfl)) (fun hc => ex_fa rfl (q81_26.e (j:=3) rfl) (faS10 _ _)) rfl q81_26.z (by decide) (q81_26.k fun Ycx q81_27 => ?_);clear q81_26;refine vl _ (.slice s.ba s.B.length s.bc) (want_g rfl rfl (q81_27.a 178 rfl)) (fun hc => ex_ld rfl (ev (q81_27.a 179 rfl) hc) (ldB8 (cell8 (HS.cell 10 _ rfl) hx4))) rfl q81_27.z (by decide) (q81_27.k fun Ycy q81_28 => ?_);clear q81_27;refine vl _ (.int .i64 (s.B.length : Int)) (want_g rfl rfl (q81_28.a 178 rfl)) (fun hc => ex_lenB8 rfl rfl (ev (q81_28.a 180 rfl) hc)) rfl q81_28.z (by decide) (q81_28.k fun Ycz q81_29 => ?_);clear q81_28;refine vl _ (.pointer (some ⟨w.heap.size,0,none⟩)) (want_g rfl rfl (q81_29.a 178 rfl)) (fun hc => ex_fa rfl (q81_29.e (j:=2) rfl) (faC0 _ _)) rfl q81_29.z (by decide) (q81_29.k fun Yc0 q81_30 => ?_);clear q81_29;refine vl _ (.int .i64 c.F) (want_g rfl rfl (q81_30.a 178 rfl)) (fun hc => ex_ld rfl (ev (q81_30.a 182 rfl) hc) (ldI8 (cell8 (HC.cell 0 _ rfl) hx4))) rfl q81_30.z (by decide) (q81_30.k fun Yc1 q81_31 => ?_);clear q81_30;refine vl _ (.bool (decide (c.F ≤ (s.B.length : Int)))) (want_g rfl rfl (q81_31.a 178 rfl)) (fun hc => ex_bin rfl (ev (q81_31.a 181 rfl) hc) (ev (q81_31.a 183 rfl) hc) (geqC _ _ _ _ _)) rfl q81_31.z (by decide) (q81_31.k fun Yc2 q81_32 => ?_);clear q81_31
  refine q81_32.t (.bool ((((decide (s.last = s.view)) || (decide (0 < ((s.A.length : Int) + (s.N.length : Int))))) || ((!(decide (s.self = (s.view % c.nd)))) && (decide (0 < (s.B.length : Int))))) || (decide (c.F ≤ (s.B.length : Int))))) (ex_or rfl (q81_32.a 178 rfl) (q81_32.a 184 rfl) rfl) fun _ q81_33 => ?_;clear q81_32
  have hz:=q81_33.z;have s2:=q81_33.a 2 rfl;have s3:=q81_33.a 3 rfl;have s185:=q81_33.a 185 rfl;clear q81_33;refine wpList_nil ?_
  go_upto_region 17 with fail
  cases eg : s.mc9 c
  rotate_left
  ·refine wp_cond_true ((ev s185 rfl).trans (congrArg Value.bool eg)) ?_
   go_upto_region 17 with fail
   refine wp_region_lit ?_;have q82_0:=((Rp.nil hz).cons s2).cons s3;clear hz s2 s3
   refine q82_0.t (.bool false) (ex_assign rfl rfl) fun _ q82_1 => ?_;clear q82_0
   have hz:=q82_1.z;have s4:=q82_1.a 4 rfl;clear q82_1;refine wpList_nil ?_
   go_wp2
   refine bodyPost_ret (results_tmp rfl _ _ _) rfl ⟨?_,hB.trans (hx4.mono (by omega))⟩;rw [getD_of s4]
   unfold Sta.mayB9
   rw [e76,e1s,e2s,eg]
   rfl
  refine wp_cond_false ((ev s185 rfl).trans (congrArg Value.bool eg)) ?_;clear s185
  go_upto_region 18 with fail
  refine wp_region_lit ?_;have q83_0:=((Rp.nil hz).cons s2).cons s3;clear hz s2 s3
  refine q83_0.t (.int .i64 0) (ex_assign rfl rfl) fun _ q83_1 => ?_;clear q83_0
  have hz:=q83_1.z;have s2:=q83_1.a 2 rfl;have s3:=q83_1.a 3 rfl;have s8:=q83_1.a 8 rfl;clear q83_1;refine wpList_nil ?_;have hsv : _ = some (gw true (.int .i64 ((0 : Nat) : Int))):=s8
  go_upto_region 19 with fail
  refine v_loop 8 s.B.length (fun i T wr => T.size = 223∧T[2]? = some (gw true (.pointer (some ⟨w.heap.size,0,none⟩)))∧T[3]? = some (gw true (.pointer (some ⟨w.heap.size + 1,0,none⟩)))∧T[8]? = some (gw true (.int .i64 (i : Int)))∧Hid (Below x3.heap.size x3 wr∧∀ k x,k < i → s.B[k]? = some x → rbb9 c s x = false)) (fun i T w h => h.2.2.2.1) ⟨hz,s2,s3,hsv,hx4,fun k x hk => absurd hk (Nat.not_lt_zero _)⟩ ?_;clear hz s2 s3 s8 hsv;intro i R0 wr hi hh;obtain ⟨hz,s2,s3,s8,HJ⟩:=hh;have hbr:=HJ.out.1;have hzr:=hbr.size
  by_cases hit : i < s.B.length
  ·have d1 : decide ((i : Int) < (s.B.length : Int)) = true:=decide_eq_true (by omega)
   go_upto_region 19 with fail
   refine wp_region_lit ?_;have q84_0:=(((Rp.nil hz).cons s2).cons s3).cons s8;clear hz s2 s3 s8
   refine q84_0.t _ (ex_move rfl (q84_0.e (j:=8) rfl)) fun _ q84_1 => ?_;clear q84_0
   refine q84_1.t (.pointer (some ⟨w.heap.size + 1,10,none⟩)) (ex_fa rfl (q84_1.e (j:=3) rfl) (faS10 _ _)) fun _ q84_2 => ?_;clear q84_1
   refine q84_2.t (.slice s.ba s.B.length s.bc) (ex_ld rfl (q84_2.e (j:=187) rfl) (ldB8 (cell8 (HS.cell 10 _ rfl) hbr))) fun _ q84_3 => ?_;clear q84_2
   refine q84_3.t (.int .i64 (s.B.length : Int)) (ex_lenB8 rfl rfl (q84_3.e (j:=188) rfl)) fun _ q84_4 => ?_;clear q84_3
   refine q84_4.t (.bool true) (ex_bin rfl (q84_4.e (j:=186) rfl) (q84_4.e (j:=189) rfl) (lssD8 _ _ _ _ true d1 _)) fun _ q84_5 => ?_;clear q84_4
   have hz:=q84_5.z;have s2:=q84_5.a 2 rfl;have s3:=q84_5.a 3 rfl;have s8:=q84_5.a 8 rfl;have s190:=q84_5.a 190 rfl;clear q84_5;refine wpList_nil ?_
   go_upto_region 21 with fail
   refine wp_cond_true ((ev s190 rfl).trans rfl) ?_;clear s190 d1
   obtain ⟨x,hxi⟩ : ∃ x,s.B[i]? = some x:=⟨_,List.getElem?_eq_getElem hit⟩
   have hmem:=List.mem_of_getElem? hxi;obtain ⟨q,o,hqa,hq,hl⟩:=(HI.b.later hbr).place (by intro e;rw [e] at hit;simp at hit)
   obtain ⟨y1,hy1⟩ : ∃ y,y = wr.alloc (.cells zBl9.cs.toArray 114):=⟨_,rfl⟩
   have hb : Below wr.heap.size wr y1:=by rw [hy1];exact (Below.refl _ _).alloc (Nat.le_refl _) _
   have HA : BX7 y1 wr.heap.size zBl9.cs:=by rw [hy1];exact BX7.new _ _ _
   go_upto_region 21 with fail
   refine wp_region_lit ?_;have q85_0:=(((Rp.nil hz).cons s2).cons s3).cons s8;clear hz s2 s3 s8
   refine q85_0.t (.pointer (some ⟨w.heap.size + 1,10,none⟩)) (ex_fa rfl (q85_0.e (j:=3) rfl) (faS10 _ _)) fun _ q85_1 => ?_;clear q85_0
   refine q85_1.t (.slice s.ba s.B.length s.bc) (ex_ld rfl (q85_1.e (j:=193) rfl) (ldB8 (cell8 (HS.cell 10 _ rfl) hbr))) fun _ q85_2 => ?_;clear q85_1
   refine q85_2.t _ (ex_move rfl (q85_2.e (j:=8) rfl)) fun _ q85_3 => ?_;clear q85_2
   refine q85_3.t (.pointer (some ⟨q,o + i * 6,none⟩)) (ex_ix rfl (q85_3.e (j:=194) rfl) (q85_3.e (j:=195) rfl) (by rw [hqa];exact ix9Bl q o s.B.length s.bc i hit _)) fun _ q85_4 => ?_;clear q85_3
   refine q85_4.t (x.val) (ex_ld rfl (q85_4.e (j:=196) rfl) (ldBl9 (fun k u hu => hl i x hxi k u hu))) fun _ q85_5 => ?_;clear q85_4
   refine vw (.pointer (some ⟨wr.heap.size,0,none⟩)) y1 (want_none rfl) (ex_al rfl (by rw [hy1];exact alBl9 _)) rfl q85_5.z (by decide) (q85_5.k fun Yc3 q85_6 => ?_);clear q85_5;refine vs (sets y1 wr.heap.size 0 x.cs) (want_none rfl) (ex_st rfl (q85_6.e (j:=9) rfl) (q85_6.e (j:=197) rfl) (stBl9 HA x)) rfl ?_;have HP:=putBl9 HA x;have UP:=upBl9 y1 wr.heap.size x
   obtain ⟨y2,hy2⟩ : ∃ v,v = sets y1 wr.heap.size 0 x.cs:=⟨_,rfl⟩
   rw [← hy2] at HP UP ⊢;have hby : Below wr.heap.size wr y2:=hb.trans (UP.below hb.size (fun k hk => by omega));have hbx:=hbr.trans (hby.mono hzr);clear hy2 hy1 HA UP hb hl;have hzy:=hbx.size;have hz:=q85_6.z;have s2:=q85_6.a 2 rfl;have s3:=q85_6.a 3 rfl;have s8:=q85_6.a 8 rfl;have s9:=q85_6.a 9 rfl;clear q85_6;refine wpList_nil ?_;have HC2:=HC.bel hbx;have HS2:=HS.bel hbx
   have xin:=(HI.bl x hmem)
   have hxL:=xin.1.later hbx;have hvy : Below y2.heap.size y2 y2:=Below.refl _ _
   go_upto_region 22 with fail
   refine wp_region_lit ?_;have q86_0:=((((Rp.nil hz).cons s2).cons s3).cons s8).cons s9;clear hz s2 s3 s8 s9
   refine q86_0.t (.pointer (some ⟨wr.heap.size,3,none⟩)) (ex_fa rfl (q86_0.e (j:=9) rfl) (fb2Bl _ _)) fun _ q86_1 => ?_;clear q86_0
   refine q86_1.t (.int .i64 x.v) (ex_ld rfl (q86_1.e (j:=198) rfl) (ldI8 (cell8 (HP.cell 3 _ rfl) hvy))) fun _ q86_2 => ?_;clear q86_1
   refine q86_2.t (.bool (decide (x.v < 0))) (ex_bin rfl (q86_2.e (j:=199) rfl) rfl (lssC _ _ _ _ _)) fun _ q86_3 => ?_;clear q86_2
   refine q86_3.t _ (ex_move rfl (q86_3.e (j:=200) rfl)) fun _ q86_4 => ?_;clear q86_3
   refine vl _ (.pointer (some ⟨wr.heap.size,3,none⟩)) (want_g rfl rfl (q86_4.a 201 rfl)) (fun hc => ex_fa rfl (q86_4.e (j:=9) rfl) (fb2Bl _ _)) rfl q86_4.z (by decide) (q86_4.k fun Yc4 q86_5 => ?_);clear q86_4;refine vl _ (.int .i64 x.v) (want_g rfl rfl (q86_5.a 201 rfl)) (fun hc => ex_ld rfl (ev (q86_5.a 202 rfl) hc) (ldI8 (cell8 (HP.cell 3 _ rfl) hvy))) rfl q86_5.z (by decide) (q86_5.k fun Yc5 q86_6 => ?_);clear q86_5;refine vl _ (.pointer (some ⟨w.heap.size + 1,2,none⟩)) (want_g rfl rfl (q86_6.a 201 rfl)) (fun hc => ex_fa rfl (q86_6.e (j:=3) rfl) (faS2 _ _)) rfl q86_6.z (by decide) (q86_6.k fun Yc6 q86_7 => ?_);clear q86_6;refine vl _ (.int .i64 s.view) (want_g rfl rfl (q86_7.a 201 rfl)) (fun hc => ex_ld rfl (ev (q86_7.a 204 rfl) hc) (ldI8 (cell8 (HS2.cell 2 _ rfl) hvy))) rfl q86_7.z (by decide) (q86_7.k fun Yc7 q86_8 => ?_);clear q86_7;refine vl _ (.bool (decide (s.view ≤ x.v))) (want_g rfl rfl (q86_8.a 201 rfl)) (fun hc => ex_bin rfl (ev (q86_8.a 203 rfl) hc) (ev (q86_8.a 205 rfl) hc) (geqC _ _ _ _ _)) rfl q86_8.z (by decide) (q86_8.k fun Yc8 q86_9 => ?_);clear q86_8
   refine q86_9.t (.bool ((decide (x.v < 0)) || (decide (s.view ≤ x.v)))) (ex_or rfl (q86_9.a 201 rfl) (q86_9.a 206 rfl) rfl) fun _ q86_10 => ?_;clear q86_9
   refine q86_10.t _ (ex_move rfl (q86_10.e (j:=207) rfl)) fun _ q86_11 => ?_;clear q86_10
   refine vl _ (c.val) (want_g rfl rfl (q86_11.a 208 rfl)) (fun hc => ex_ld rfl (q86_11.e (j:=2) rfl) (CB7.ld (HC2.bel hvy))) rfl q86_11.z (by decide) (q86_11.k fun Yc9 q86_12 => ?_);clear q86_11;refine vl _ (.pointer (some ⟨wr.heap.size,5,none⟩)) (want_g rfl rfl (q86_12.a 208 rfl)) (fun hc => ex_fa rfl (q86_12.e (j:=9) rfl) (fb4Bl _ _)) rfl q86_12.z (by decide) (q86_12.k fun Yda q86_13 => ?_);clear q86_12;refine vl _ (.slice x.s.a x.s.D.length x.s.c) (want_g rfl rfl (q86_13.a 208 rfl)) (fun hc => ex_ld rfl (ev (q86_13.a 210 rfl) hc) (ldE8 (cell8 (HP.cell 5 _ rfl) hvy))) rfl q86_13.z (by decide) (q86_13.k fun Ydb q86_14 => ?_);clear q86_13;refine vl _ (.pointer (some ⟨wr.heap.size,4,none⟩)) (want_g rfl rfl (q86_14.a 208 rfl)) (fun hc => ex_fa rfl (q86_14.e (j:=9) rfl) (fb3Bl _ _)) rfl q86_14.z (by decide) (q86_14.k fun Ydc q86_15 => ?_);clear q86_14;refine vl _ (.int .i64 x.c) (want_g rfl rfl (q86_15.a 208 rfl)) (fun hc => ex_ld rfl (ev (q86_15.a 212 rfl) hc) (ldI8 (cell8 (HP.cell 4 _ rfl) hvy))) rfl q86_15.z (by decide) (q86_15.k fun Ydd q86_16 => ?_);clear q86_15;refine vcall (true && (((decide (x.v < 0)) || (decide (s.view ≤ x.v))) == false)) (.bool (lgB9 c x.s.D x.c)) (want_g rfl rfl (q86_16.a 208 rfl)) (fun hc => ex_call rfl (by simp only [List.map_toArray,List.map_cons,List.map_nil,(ev (q86_16.a 209 rfl) hc),(ev (q86_16.a 211 rfl) hc),(ev (q86_16.a 213 rfl) hc),evc] <;> rfl) rfl) (fun hc => rlogged9 c x.s.D x.s.a x.s.c x.c y2 (hxL.later hvy) (hF.be x hmem)) rfl q86_16.z (by decide) (q86_16.kc fun Yde x31 hb q86_17 => ?_);clear q86_16;have hx31:=hvy.trans (hb.mono hvy.size);clear hb;refine vl _ (.bool (!(lgB9 c x.s.D x.c))) (want_g rfl rfl (q86_17.a 208 rfl)) (fun hc => ex_not rfl (ev (q86_17.a 214 rfl) hc)) rfl q86_17.z (by decide) (q86_17.k fun Ydf q86_18 => ?_);clear q86_17
   refine q86_18.t (.bool (((decide (x.v < 0)) || (decide (s.view ≤ x.v))) || (!(lgB9 c x.s.D x.c)))) (ex_or rfl (q86_18.a 208 rfl) (q86_18.a 215 rfl) rfl) fun _ q86_19 => ?_;clear q86_18
   have hz:=q86_19.z;have s2:=q86_19.a 2 rfl;have s3:=q86_19.a 3 rfl;have s8:=q86_19.a 8 rfl;have s216:=q86_19.a 216 rfl;clear q86_19;refine wpList_nil ?_;have hb8:=hbx.trans (hx31.mono hbx.size)
   go_upto_region 23 with fail
   cases eb : rbb9 c s x
   rotate_left
   ·refine wp_cond_true ((ev s216 rfl).trans (congrArg Value.bool eb)) ?_
    go_upto_region 23 with fail
    refine wp_region_lit ?_;have q87_0:=(((Rp.nil hz).cons s2).cons s3).cons s8;clear hz s2 s3 s8
    refine q87_0.t (.bool false) (ex_assign rfl rfl) fun _ q87_1 => ?_;clear q87_0
    have hz:=q87_1.z;have s4:=q87_1.a 4 rfl;clear q87_1;refine wpList_nil ?_
    go_wp2
    refine bodyPost_ret (results_tmp rfl _ _ _) rfl ⟨?_,hB.trans (hb8.mono (by omega))⟩;rw [getD_of s4]
    unfold Sta.mayB9
    rw [e76,e1s,e2s,eg,any_bad9 hxi eb]
    rfl
   refine wp_cond_false ((ev s216 rfl).trans (congrArg Value.bool eb)) ?_;clear s216
   go_upto_region 20 with fail
   refine wp_region_lit ?_;have q88_0:=(((Rp.nil hz).cons s2).cons s3).cons s8;clear hz s2 s3 s8
   refine q88_0.t _ (ex_move rfl (q88_0.e (j:=8) rfl)) fun _ q88_1 => ?_;clear q88_0
   refine q88_1.t (.int .i64 ((i + 1 : Nat) : Int)) (ex_bin rfl (q88_1.e (j:=191) rfl) rfl (addD8 _ _ _ 1 ((i + 1 : Nat) : Int) (by rw [IntKind.wrap_i64];omega) _)) fun _ q88_2 => ?_;clear q88_1
   refine q88_2.t _ (ex_assign rfl (q88_2.e (j:=192) rfl)) fun _ q88_3 => ?_;clear q88_2
   have hz:=q88_3.z;have s2:=q88_3.a 2 rfl;have s3:=q88_3.a 3 rfl;have s8:=q88_3.a 8 rfl;clear q88_3;refine wpList_nil ?_
   exact ⟨_,rfl,by omega,hz,s2,s3,s8,hb8,fun k y hk hy => by
    by_cases e : k = i
    ·subst e;rw [hxi] at hy;cases hy;exact eb
    ·exact HJ.out.2 k y (by omega) hy⟩
  ·have d1 : decide ((i : Int) < (s.B.length : Int)) = false:=decide_eq_false (by omega)
   go_upto_region 19 with fail
   refine wp_region_lit ?_;have q89_0:=(((Rp.nil hz).cons s2).cons s3).cons s8;clear hz s2 s3 s8
   refine q89_0.t _ (ex_move rfl (q89_0.e (j:=8) rfl)) fun _ q89_1 => ?_;clear q89_0
   refine q89_1.t (.pointer (some ⟨w.heap.size + 1,10,none⟩)) (ex_fa rfl (q89_1.e (j:=3) rfl) (faS10 _ _)) fun _ q89_2 => ?_;clear q89_1
   refine q89_2.t (.slice s.ba s.B.length s.bc) (ex_ld rfl (q89_2.e (j:=187) rfl) (ldB8 (cell8 (HS.cell 10 _ rfl) hbr))) fun _ q89_3 => ?_;clear q89_2
   refine q89_3.t (.int .i64 (s.B.length : Int)) (ex_lenB8 rfl rfl (q89_3.e (j:=188) rfl)) fun _ q89_4 => ?_;clear q89_3
   refine q89_4.t (.bool false) (ex_bin rfl (q89_4.e (j:=186) rfl) (q89_4.e (j:=189) rfl) (lssD8 _ _ _ _ false d1 _)) fun _ q89_5 => ?_;clear q89_4
   have hz:=q89_5.z;have s190:=q89_5.a 190 rfl;clear q89_5;refine wpList_nil ?_
   go_upto_region 24 with fail
   refine wp_cond_false ((ev s190 rfl).trans rfl) ?_;clear s190 d1
   go_upto_region 24 with fail
   refine wp_region_lit ?_;have q90_0:=Rp.nil hz;clear hz
   refine q90_0.t (.bool true) (ex_assign rfl rfl) fun _ q90_1 => ?_;clear q90_0
   have hz:=q90_1.z;have s4:=q90_1.a 4 rfl;clear q90_1;refine wpList_nil ?_
   go_wp2
   refine bodyPost_ret (results_tmp rfl _ _ _) rfl ⟨?_,hB.trans (hbr.mono (by omega))⟩;rw [getD_of s4]
   unfold Sta.mayB9
   rw [e76,e1s,e2s,eg,any_ok9 (fun k x hk hx => HJ.out.2 k x (by omega) hx)]
   rfl
 refine wp_cond_false ((ev s151 rfl).trans (congrArg Value.bool e2s)) ?_;clear s151
 go_upto_region 25 with fail
 refine wp_region_lit ?_;have q91_0:=(((((Rp.nil hz).cons s2).cons s3).cons s5).cons s6).cons s85;clear hz s2 s3 s5 s6 s85
 refine q91_0.t (.bool (decide (s.st = 3))) (ex_bin rfl (q91_0.e (j:=85) rfl) rfl (eqlC _ _ _ _ _)) fun _ q91_1 => ?_;clear q91_0
 refine q91_1.t _ (ex_assign rfl (q91_1.e (j:=218) rfl)) fun _ q91_2 => ?_;clear q91_1
 have hz:=q91_2.z;have s2:=q91_2.a 2 rfl;have s3:=q91_2.a 3 rfl;have s5:=q91_2.a 5 rfl;have s6:=q91_2.a 6 rfl;have s85:=q91_2.a 85 rfl;have s217:=q91_2.a 217 rfl;clear q91_2;refine wpList_nil ?_
 go_upto_region 26 with fail
 cases e3s : decide (s.st = 3)
 rotate_left
 ·refine wp_cond_true ((ev s217 rfl).trans (congrArg Value.bool e3s)) ?_
  clear s217
  go_upto_region 26 with fail
  refine wp_region_lit ?_;have q92_0:=(((((Rp.nil hz).cons s2).cons s3).cons s5).cons s6).cons s85;clear hz s2 s3 s5 s6 s85
  refine q92_0.t (c.val) (ex_ld rfl (q92_0.e (j:=2) rfl) (CB7.ld (HC.bel hx4))) fun _ q92_1 => ?_;clear q92_0
  refine q92_1.t (s.val) (ex_ld rfl (q92_1.e (j:=3) rfl) (SB7.ld (HS.bel hx4))) fun _ q92_2 => ?_;clear q92_1
  refine q92_2.t _ (ex_move rfl (q92_2.e (j:=5) rfl)) fun _ q92_3 => ?_;clear q92_2
  refine vcall true (.bool (s.rc9 c c.nd)) (want_none rfl) (fun hc => ex_call rfl (by simp only [List.map_toArray,List.map_cons,List.map_nil,(q92_3.e (j:=219) rfl),(q92_3.e (j:=220) rfl),(q92_3.e (j:=221) rfl),evc] <;> rfl) rfl) (fun hc => rrecovering9 c s c.nd x4 (HI.later hx4) hF ⟨by omega,by omega⟩ ⟨by omega,by omega⟩ ⟨by omega,by omega⟩ ⟨by omega,by omega⟩ ⟨by omega,by omega⟩ ⟨by omega,by omega⟩) rfl q92_3.z (by decide) (q92_3.kc fun Ydg x61 hb q92_4 => ?_);clear q92_3;have hx61:=hx4.trans (hb.mono hx4.size);clear hb
  refine q92_4.t _ (ex_assign rfl (q92_4.e (j:=222) rfl)) fun _ q92_5 => ?_;clear q92_4
  have hz:=q92_5.z;have s4:=q92_5.a 4 rfl;clear q92_5;refine wpList_nil ?_
  go_wp2
  refine bodyPost_ret (results_tmp rfl _ _ _) rfl ⟨?_,hB.trans (hx61.mono (by omega))⟩;rw [getD_of s4]
  unfold Sta.mayB9
  rw [e76,e1s,e2s,e3s]
  rfl
 refine wp_cond_false ((ev s217 rfl).trans (congrArg Value.bool e3s)) ?_;clear s217
 go_upto_region 27 with fail
 refine wp_region_lit ?_;have q93_0:=(((((Rp.nil hz).cons s2).cons s3).cons s5).cons s6).cons s85;clear hz s2 s3 s5 s6 s85
 refine q93_0.t (.bool false) (ex_assign rfl rfl) fun _ q93_1 => ?_;clear q93_0
 have hz:=q93_1.z;have s4:=q93_1.a 4 rfl;clear q93_1;refine wpList_nil ?_
 go_wp2
 refine bodyPost_ret (results_tmp rfl _ _ _) rfl ⟨?_,hB.trans (hx4.mono (by omega))⟩;rw [getD_of s4]
 unfold Sta.mayB9
 rw [e76,e1s,e2s,e3s]
 rfl
set_option maxHeartbeats 1000000 in
theorem rcheck9 (c : Cg) (s : Sta) (w : World) (hI : s.In w) (hF : s.Fit) : Calls Tryz.prog 28 #[c.val,s.val] w fun e w' => e = .returned (.int .i64 (s.rk9 c))∧Below w.heap.size w w':=by
 go_enter Tryz.func28,Tryz.ntmps28
 go_upto_region 0 with fail
 refine wp_region_lit ?_;refine vl_gen (fun T => T.size = 17∧T[0]? = some (gw true (c.val))∧T[1]? = some (gw true (s.val))) ⟨rfl,rfl,rfl⟩ (fun Z0 ⟨hz,s0,s1⟩ => ?_)
 obtain ⟨w1,hw1⟩ : ∃ y,y = w.alloc (.cells c.cs.toArray 23):=⟨_,rfl⟩
 have hb : Below w.heap.size w w1:=by rw [hw1];exact (Below.refl _ _).alloc (Nat.le_refl _) _
 have hs1 : w1.heap.size = w.heap.size + 1:=by rw [hw1];simp
 have HC : CB7 w1 (w.heap.size) c:=by rw [hw1];exact BX7.new _ _ _
 refine vw (.pointer (some ⟨w.heap.size,0,none⟩)) w1 (want_none rfl) (ex_box8 rfl (ev s0 rfl) (by rw [hw1];exact bxC7 _ _)) rfl hz (by decide) (fun Z1 zz kk s2x => ?_);replace s1:=ku s1;clear kk hz s0 hw1;have hz:=zz;have s2:=s2x;clear zz s2x;have hB:=hb;clear hb
 obtain ⟨w2,hw2⟩ : ∃ y,y = w1.alloc (.cells s.cs.toArray 36):=⟨_,rfl⟩
 have hb : Below w1.heap.size w1 w2:=by rw [hw2];exact (Below.refl _ _).alloc (Nat.le_refl _) _
 have hs2 : w2.heap.size = w.heap.size + 2:=by rw [hw2];simp;omega
 have HS : SB7 w2 (w.heap.size + 1) s:=by rw [hw2,← hs1];exact BX7.new _ _ _
 refine vw (.pointer (some ⟨w.heap.size + 1,0,none⟩)) w2 (want_none rfl) (ex_box8 rfl (ev s1 rfl) (by rw [hw2,← hs1];exact bxS7 _ _)) rfl hz (by decide) (fun Z2 zz kk s3x => ?_);replace s2:=ku s2;clear kk hz s1 hw2;have hz:=zz;have s3:=s3x;clear zz s3x;have hB:=hB.trans (hb.mono (by omega));have HC:=HC.bel hb;clear hb;have hv0 : Below w2.heap.size w2 w2:=Below.refl _ _;have HI:=hI.later hB;have q94_0:=((Rp.nil hz).cons s2).cons s3;clear hz s2 s3
 refine q94_0.t (.int .i64 0) (ex_assign rfl rfl) fun _ q94_1 => ?_;clear q94_0
 have hz:=q94_1.z;have s2:=q94_1.a 2 rfl;have s3:=q94_1.a 3 rfl;clear q94_1;refine wpList_nil ?_
 go_upto_region 1 with fail
 refine wp_region_lit ?_;have q95_0:=((Rp.nil hz).cons s2).cons s3;clear hz s2 s3
 refine q95_0.t (c.val) (ex_ld rfl (q95_0.e (j:=2) rfl) (CB7.ld (HC.bel hv0))) fun _ q95_1 => ?_;clear q95_0
 refine vcall true (.int .i64 c.er) (want_none rfl) (fun hc => ex_call rfl (by simp only [List.map_toArray,List.map_cons,List.map_nil,(q95_1.e (j:=6) rfl),evc] <;> rfl) rfl) (fun hc => rcheckconfig9 c w2) rfl q95_1.z (by decide) (q95_1.kc fun Ya x1 hb q95_2 => ?_);clear q95_1;have hx1:=hv0.trans (hb.mono hv0.size);clear hb
 refine q95_2.t _ (ex_assign rfl (q95_2.e (j:=7) rfl)) fun _ q95_3 => ?_;clear q95_2
 have hz:=q95_3.z;have s2:=q95_3.a 2 rfl;have s3:=q95_3.a 3 rfl;have s5:=q95_3.a 5 rfl;clear q95_3;refine wpList_nil ?_
 go_upto_region 2 with fail
 refine wp_region_lit ?_;have q96_0:=(((Rp.nil hz).cons s2).cons s3).cons s5;clear hz s2 s3 s5
 refine q96_0.t _ (ex_move rfl (q96_0.e (j:=5) rfl)) fun _ q96_1 => ?_;clear q96_0
 refine q96_1.t (.bool (decide (c.er = 0))) (ex_bin rfl (q96_1.e (j:=8) rfl) rfl (eqlC _ _ _ _ _)) fun _ q96_2 => ?_;clear q96_1
 refine q96_2.t _ (ex_move rfl (q96_2.e (j:=9) rfl)) fun _ q96_3 => ?_;clear q96_2
 refine vl _ (c.val) (want_g rfl rfl (q96_3.a 10 rfl)) (fun hc => ex_ld rfl (q96_3.e (j:=2) rfl) (CB7.ld (HC.bel hx1))) rfl q96_3.z (by decide) (q96_3.k fun Yb q96_4 => ?_);clear q96_3;refine vl _ (s.val) (want_g rfl rfl (q96_4.a 10 rfl)) (fun hc => ex_ld rfl (q96_4.e (j:=3) rfl) (SB7.ld (HS.bel hx1))) rfl q96_4.z (by decide) (q96_4.k fun Yc q96_5 => ?_);clear q96_4;refine vcall (true && ((decide (c.er = 0)) == true)) (.bool (s.mayB9 c)) (want_g rfl rfl (q96_5.a 10 rfl)) (fun hc => ex_call rfl (by simp only [List.map_toArray,List.map_cons,List.map_nil,(ev (q96_5.a 11 rfl) hc),(ev (q96_5.a 12 rfl) hc),evc] <;> rfl) rfl) (fun hc => rmay9 c s x1 (HI.later hx1) hF (ok_er9 (by simpa using hc))) rfl q96_5.z (by decide) (q96_5.kc fun Yd x2 hb q96_6 => ?_);clear q96_5;have hx2:=hx1.trans (hb.mono hx1.size);clear hb;refine vl _ (.bool (!(s.mayB9 c))) (want_g rfl rfl (q96_6.a 10 rfl)) (fun hc => ex_not rfl (ev (q96_6.a 13 rfl) hc)) rfl q96_6.z (by decide) (q96_6.k fun Ye q96_7 => ?_);clear q96_6
 refine q96_7.t (.bool ((decide (c.er = 0)) && (!(s.mayB9 c)))) (ex_and rfl (q96_7.a 10 rfl) (q96_7.a 14 rfl) rfl) fun _ q96_8 => ?_;clear q96_7
 have hz:=q96_8.z;have s2:=q96_8.a 2 rfl;have s3:=q96_8.a 3 rfl;have s5:=q96_8.a 5 rfl;have s15:=q96_8.a 15 rfl;clear q96_8;refine wpList_nil ?_
 go_upto_region 3 with fail
 have hB8:=hB.trans (hx2.mono (by omega))
 have ee : (((decide (c.er = 0)) && (!(s.mayB9 c)))) = (c.okB && !s.mayB9 c):=by rw [show decide (c.er = 0) = c.okB from Cg.er_eq c]
 refine v_cond8 (fun T w9 => T.size = 17∧T[5]? = some (gw true (.int .i64 (s.rk9 c)))∧Below w.heap.size w w9) s15 (fun hu => ?_) (fun hu => ⟨hz,?_,hB8⟩) ?_
 ·clear s15
  go_upto_region 3 with fail
  refine wp_region_lit ?_;have q97_0:=(((Rp.nil hz).cons s2).cons s3).cons s5;clear hz s2 s3 s5
  refine q97_0.t (.int .i64 2) (ex_assign rfl rfl) fun _ q97_1 => ?_;clear q97_0
  have hz:=q97_1.z;have s5:=q97_1.a 5 rfl;clear q97_1;refine wpList_nil ?_;refine ⟨_,rfl,hz,?_,hB8⟩;rw [s5,show s.rk9 c = 2 from by rw [ee] at hu;simp at hu;unfold Sta.rk9;rw [hu.1,hu.2];rfl]
 ·rw [s5,show s.rk9 c = c.er from by rw [ee] at hu;unfold Sta.rk9 Cg.er;revert hu;cases c.okB <;> cases s.mayB9 c <;> intro hu <;> first | rfl | cases hu]
 ·clear hz s2 s3 s5 s15
  intro T9 w9 hJ;obtain ⟨hz,s5,hB9⟩:=hJ
  go_upto_region 4 with fail
  refine wp_region_lit ?_;have q98_0:=(Rp.nil hz).cons s5;clear hz s5
  refine q98_0.t _ (ex_move rfl (q98_0.e (j:=5) rfl)) fun _ q98_1 => ?_;clear q98_0
  refine q98_1.t _ (ex_assign rfl (q98_1.e (j:=16) rfl)) fun _ q98_2 => ?_;clear q98_1
  have hz:=q98_2.z;have s4:=q98_2.a 4 rfl;clear q98_2;refine wpList_nil ?_;have HB9:=hide hB9;clear hB9
  go_wp2
  refine bodyPost_ret (results_tmp rfl _ _ _) rfl ⟨?_,HB9.out⟩;rw [getD_of s4]
  rfl
end Go.Proofs.YtgncpcfncojgoaaGreatDoor
