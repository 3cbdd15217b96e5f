import Derived.Test.YtgjmiemkjnnepaaHf
namespace Go.Proofs.Ytgjmiemkjnnepaa
open Go.RowKit Go.Maps
open Classical
set_option linter.unusedVariables false
set_option linter.unusedSimpArgs false

theorem alike_bool (m m' : Mg) (L L' : List En) (D D' : List (Int × Int)) : (decide (m.k = m'.k) && decide (m.nd = m'.nd) && decide (m.vw = m'.vw) && decide (m.ls = m'.ls) && decide (m.p = m'.p) && decide (m.cm = m'.cm) && decide (m.d = m'.d) && decide (m.e = m'.e) && decide (m.r = m'.r) && decide (L = L') && decide (D = D')) = sameM m m' L L' D D' := by
  obtain ⟨k, nd, vw, e, r, p, cm, ls, d⟩ := m
  obtain ⟨k', nd', vw', e', r', p', cm', ls', d'⟩ := m'
  rw [Bool.eq_iff_iff, sameM_iff]
  simp only [Bool.and_eq_true, decide_eq_true_eq, Mg.mk.injEq]
  constructor
  · rintro ⟨⟨⟨⟨⟨⟨⟨⟨⟨⟨hk, hnd⟩, hvw⟩, hls⟩, hp⟩, hcm⟩, hd⟩, he⟩, hr⟩, hL⟩, hD⟩
    exact ⟨⟨hk, hnd, hvw, he, hr, hp, hcm, hls, hd⟩, hL, hD⟩
  · rintro ⟨⟨hk, hnd, hvw, he, hr, hp, hcm, hls, hd⟩, hL, hD⟩
    exact ⟨⟨⟨⟨⟨⟨⟨⟨⟨⟨hk, hnd⟩, hvw⟩, hls⟩, hp⟩, hcm⟩, hd⟩, he⟩, hr⟩, hL⟩, hD⟩
set_option maxRecDepth 100000 in
set_option maxHeartbeats 8000000 in
theorem alike_any (m m' : Mg) (a1 a2 b1 b2 : Option Addr) (n1 n2 m1 m2 c1 c2 e1 e2 : Nat) (L L' : List En) (D D' : List (Int × Int)) (w : World) (h1 : SlY yE w a1 n1 c1 L) (h2 : SlY yD w a2 n2 c2 D) (h3 : SlY yE w b1 m1 e1 L') (h4 : SlY yD w b2 m2 e2 D') :
    Calls Try.prog 6 #[m.val (.slice a1 n1 c1) (.slice a2 n2 c2), m'.val (.slice b1 m1 e1) (.slice b2 m2 e2)] w fun e w' => e = .returned (.bool (sameM m m' L L' D D')) ∧ Below w.heap.size w w' := by
  have HE := hide (fun (W : World) (hb : Below w.heap.size w W) => equalE L L' a1 b1 n1 m1 c1 e1 W (h1.later hb) (h3.later hb))
  have HD := hide (fun (W : World) (hb : Below w.heap.size w W) => equalD D D' a2 b2 n2 m2 c2 e2 W (h2.later hb) (h4.later hb))
  clear h1 h2 h3 h4
  go_enter Try.func6, Try.ntmps6
  go_upto_region 1 with (first
    | (refine boxMk rfl (.tmp 0) rfl m _ _ rfl ?_; intro q1 w1 hq1 M1 b1' z1; subst hq1)
    | (refine boxMk rfl (.tmp 1) rfl m' _ _ rfl ?_; intro q2 w2 hq2 M2 b2' z2))
  have b2h : Below w1.heap.size w1 w2 := by first | exact b2' | (rw [z1]; exact b2')
  have hq3 : q2 = w.heap.size + 1 := by first | exact hq2 | exact hq2.trans z1
  subst hq3
  have HB := hide (b1'.trans (b2h.mono b1'.size))
  have A := hide (M1.bel b2h)
  have B := hide M2
  clear M1 M2 b1' b2' b2h z1 z2 hq2
  refine wp_region_lit ?_
  refine eq5 (d := 5) (f := 0) (p1 := .pointer (some ⟨w.heap.size, 0, none⟩)) (p2 := .pointer (some ⟨w.heap.size + 1, 0, none⟩)) (by decide) (Nat.lt_of_lt_of_eq (by decide : 9 < 80) rfl) rfl rfl (fun _ _ => ⟨rfl, rfl, rfl, rfl, rfl⟩) rfl rfl rfl rfl rfl rfl rfl rfl rfl rfl (MBox.faKind _ _) A.out.ldKind (MBox.faKind _ _) B.out.ldKind (eqlI _ _ _ Try.underlying22 _ _ _) (fun T1 z1 k1 s1 => ?_)
  have t2 : T1[2]? = some (.pointer (some ⟨w.heap.size, 0, none⟩)) := (k1 2 (by decide)).trans rfl
  have t3 : T1[3]? = some (.pointer (some ⟨w.heap.size + 1, 0, none⟩)) := (k1 3 (by decide)).trans rfl
  have hz : T1.size = 80 := z1.trans rfl
  clear k1 z1
  refine wl_val (v := .bool (decide (m.k = m'.k))) (want_none rfl) (by unfold execOp; simp only [Act.eval, getD_of s1]; rfl) ?_
  have s2 : (T1.setIfInBounds 10 (.bool (decide (m.k = m'.k))))[10]? = some (.bool (decide (m.k = m'.k))) := at_set _ (by omega)
  have q2 : (T1.setIfInBounds 10 (.bool (decide (m.k = m'.k))))[2]? = some (.pointer (some ⟨w.heap.size, 0, none⟩)) := (at_set_ne _ (by decide)).trans t2
  have q3 : (T1.setIfInBounds 10 (.bool (decide (m.k = m'.k))))[3]? = some (.pointer (some ⟨w.heap.size + 1, 0, none⟩)) := (at_set_ne _ (by decide)).trans t3
  have hz2 : (T1.setIfInBounds 10 (.bool (decide (m.k = m'.k)))).size = 80 := by simp [hz]
  show wpList _ _ _ _ ⟨T1.setIfInBounds 10 (.bool (decide (m.k = m'.k))), []⟩ _
  generalize T1.setIfInBounds 10 (.bool (decide (m.k = m'.k))) = S0 at s2 q2 q3 hz2 ⊢
  clear t2 t3 hz s1 T1
  refine conj7 (g := 5) (j := 10) (d := 11) (f := 1) (by decide) (by decide) (by omega) q2 q3 s2 rfl rfl rfl rfl rfl rfl rfl rfl rfl rfl rfl rfl rfl rfl rfl rfl rfl rfl rfl rfl rfl rfl (MBox.faNode _ _) A.out.ldNode (MBox.faNode _ _) B.out.ldNode (eqlI _ _ _ Try.underlying3 _ _ _) (fun S1 zz1 kk1 ss1 => ?_)
  have ta1 := (kk1 2 (by decide)).trans q2
  have tb1 := (kk1 3 (by decide)).trans q3
  have th1 := zz1.trans hz2
  clear zz1 kk1 q2 q3 s2 hz2 S0
  refine conj7 (g := 12) (j := 17) (d := 18) (f := 2) (by decide) (by decide) (by omega) ta1 tb1 ss1 rfl rfl rfl rfl rfl rfl rfl rfl rfl rfl rfl rfl rfl rfl rfl rfl rfl rfl rfl rfl rfl rfl (MBox.faView _ _) A.out.ldView (MBox.faView _ _) B.out.ldView (eqlI _ _ _ Try.underlying3 _ _ _) (fun S2 zz2 kk2 ss2 => ?_)
  have ta2 := (kk2 2 (by decide)).trans ta1
  have tb2 := (kk2 3 (by decide)).trans tb1
  have th2 := zz2.trans th1
  clear zz2 kk2 ta1 tb1 ss1 th1 S1
  refine conj7 (g := 19) (j := 24) (d := 25) (f := 7) (by decide) (by decide) (by omega) ta2 tb2 ss2 rfl rfl rfl rfl rfl rfl rfl rfl rfl rfl rfl rfl rfl rfl rfl rfl rfl rfl rfl rfl rfl rfl (MBox.faLast _ _) A.out.ldLast (MBox.faLast _ _) B.out.ldLast (eqlI _ _ _ Try.underlying3 _ _ _) (fun S3 zz3 kk3 ss3 => ?_)
  have ta3 := (kk3 2 (by decide)).trans ta2
  have tb3 := (kk3 3 (by decide)).trans tb2
  have th3 := zz3.trans th2
  clear zz3 kk3 ta2 tb2 ss2 th2 S2
  refine conj7 (g := 26) (j := 31) (d := 32) (f := 5) (by decide) (by decide) (by omega) ta3 tb3 ss3 rfl rfl rfl rfl rfl rfl rfl rfl rfl rfl rfl rfl rfl rfl rfl rfl rfl rfl rfl rfl rfl rfl (MBox.faPlace _ _) A.out.ldPlace (MBox.faPlace _ _) B.out.ldPlace (eqlI _ _ _ Try.underlying3 _ _ _) (fun S4 zz4 kk4 ss4 => ?_)
  have ta4 := (kk4 2 (by decide)).trans ta3
  have tb4 := (kk4 3 (by decide)).trans tb3
  have th4 := zz4.trans th3
  clear zz4 kk4 ta3 tb3 ss3 th3 S3
  refine conj7 (g := 33) (j := 38) (d := 39) (f := 6) (by decide) (by decide) (by omega) ta4 tb4 ss4 rfl rfl rfl rfl rfl rfl rfl rfl rfl rfl rfl rfl rfl rfl rfl rfl rfl rfl rfl rfl rfl rfl (MBox.faCommit _ _) A.out.ldCommit (MBox.faCommit _ _) B.out.ldCommit (eqlI _ _ _ Try.underlying3 _ _ _) (fun S5 zz5 kk5 ss5 => ?_)
  have ta5 := (kk5 2 (by decide)).trans ta4
  have tb5 := (kk5 3 (by decide)).trans tb4
  have th5 := zz5.trans th4
  clear zz5 kk5 ta4 tb4 ss4 th4 S4
  refine conj7 (g := 40) (j := 45) (d := 46) (f := 8) (by decide) (by decide) (by omega) ta5 tb5 ss5 rfl rfl rfl rfl rfl rfl rfl rfl rfl rfl rfl rfl rfl rfl rfl rfl rfl rfl rfl rfl rfl rfl (MBox.faDraw _ _) A.out.ldDraw (MBox.faDraw _ _) B.out.ldDraw (eqlDr _ _ _ _ _) (fun S6 zz6 kk6 ss6 => ?_)
  have ta6 := (kk6 2 (by decide)).trans ta5
  have tb6 := (kk6 3 (by decide)).trans tb5
  have th6 := zz6.trans th5
  clear zz6 kk6 ta5 tb5 ss5 th5 S5
  refine conj7 (g := 47) (j := 52) (d := 53) (f := 3) (by decide) (by decide) (by omega) ta6 tb6 ss6 rfl rfl rfl rfl rfl rfl rfl rfl rfl rfl rfl rfl rfl rfl rfl rfl rfl rfl rfl rfl rfl rfl (MBox.faEntry _ _) A.out.ldEntry (MBox.faEntry _ _) B.out.ldEntry (eqlEn _ _ _ _ _) (fun S7 zz7 kk7 ss7 => ?_)
  have ta7 := (kk7 2 (by decide)).trans ta6
  have tb7 := (kk7 3 (by decide)).trans tb6
  have th7 := zz7.trans th6
  clear zz7 kk7 ta6 tb6 ss6 th6 S6
  refine conj7 (g := 54) (j := 59) (d := 60) (f := 4) (by decide) (by decide) (by omega) ta7 tb7 ss7 rfl rfl rfl rfl rfl rfl rfl rfl rfl rfl rfl rfl rfl rfl rfl rfl rfl rfl rfl rfl rfl rfl (MBox.faResult _ _) A.out.ldResult (MBox.faResult _ _) B.out.ldResult (eqlRs _ _ _ _ _) (fun S8 zz8 kk8 ss8 => ?_)
  have ta8 := (kk8 2 (by decide)).trans ta7
  have tb8 := (kk8 3 (by decide)).trans tb7
  have th8 := zz8.trans th7
  clear zz8 kk8 ta7 tb7 ss7 th7 S7
  refine conjC7 (g := 61) (j := 66) (d := 67) (f := 9) (fid := 13) (by decide) (by decide) (by omega) ta8 tb8 ss8 rfl rfl rfl rfl rfl rfl rfl rfl rfl rfl rfl rfl (fun a h1 h2 => by unfold execOp; simp only [resolve, invoke, Sem.run_bind, List.map_toArray, List.map_cons, List.map_nil, h1, h2]; rfl) rfl rfl rfl rfl rfl rfl rfl rfl rfl (MBox.faLog _ _) A.out.ldLog (MBox.faLog _ _) B.out.ldLog (HE.out _ HB.out) (fun SL nl zl kl sl => ?_)
  have la := (kl 2 (by decide)).trans ta8
  have lb := (kl 3 (by decide)).trans tb8
  have lh := zl.trans th8
  have HB2 := hide (belN HB.out nl)
  have A2 := hide (A.out.bel (belN (Below.refl _ _) nl))
  have B2 := hide (B.out.bel (belN (Below.refl _ _) nl))
  clear zl kl ta8 tb8 ss8 th8 S8 A B HB HE
  refine conjC4 (g := 68) (j := 73) (d := 74) (f := 10) (fid := 14) (by decide) (by decide) (by omega) la lb sl rfl rfl rfl rfl rfl rfl rfl rfl rfl rfl rfl rfl (fun a h1 h2 => by unfold execOp; simp only [resolve, invoke, Sem.run_bind, List.map_toArray, List.map_cons, List.map_nil, h1, h2]; rfl) rfl rfl rfl rfl rfl rfl rfl rfl rfl (MBox.faVector _ _) A2.out.ldVector (MBox.faVector _ _) B2.out.ldVector (HD.out _ HB2.out) (fun SF nf sf => ?_)
  rw [alike_bool] at sf
  have HB3 := hide (belN HB2.out nf)
  clear la lb sl lh A2 B2 HB2 HD SL
  generalize (w2.drewN nl).drewN nf = W at *
  go_wp2
  refine bodyPost_ret (results_tmp rfl _ _ _) rfl ⟨?_, HB3.out⟩
  show Ending.returned (SF.getD 4 undef) = _
  rw [getD_of sf]

end Go.Proofs.Ytgjmiemkjnnepaa
