import Derived.Lib.SlBytesConst
import Derived.Deep.SlicePairs
import Derived.Test.YtjfbkeommlopmaaGreatDoorRows
import Derived.Deep.RegionLaw
import Derived.Lib.ConvBytes
import Derived.Test.YtjfbkeommlopmaaGreatDoorE3
namespace Go.Proofs.YtjfbkeommlopmaaGreatDoor
open Go.RowKit Go.Maps
open Classical
set_option linter.unusedVariables false
set_option linter.unusedSimpArgs false
structure CfB (w : World) (q : Nat) (c : Cf) : Prop where
  lt : q < w.heap.size
  cell : ∀ i x, ([.int .i64 c.f, .int .i64 c.r, .int .i64 c.p, .bool c.u] : List Value)[i]? = some x → w.cell? ⟨q, i, none⟩ = some x
theorem CfB.bel {w w' : World} {q : Nat} {c : Cf} (h : CfB w q c) (hb : Below w.heap.size w w') : CfB w' q c := ⟨Nat.lt_of_lt_of_le h.lt hb.size, fun i x hx => (hb.cell (p := ⟨q, i, none⟩) h.lt).trans (h.cell i x hx)⟩
theorem CfB.ldAll {w : World} {q : Nat} {c : Cf} (h : CfB w q c) : (Instr.loadAt 23 (.pointer (some ⟨q, 0, none⟩))).run Tryz.prog w = .ok (.agg #[.int .i64 c.f, .int .i64 c.r, .int .i64 c.p, .bool c.u]) w := by
  have c0 := h.cell 0 _ rfl
  have c1 := h.cell 1 _ rfl
  have c2 := h.cell 2 _ rfl
  have c3 := h.cell 3 _ rfl
  go_simp
theorem MBox.ldAll {w : World} {q : Nat} {m : Mg} {s t : Value} (h : MBox w q m s t) : (Instr.loadAt 38 (.pointer (some ⟨q, 0, none⟩))).run Tryz.prog w = .ok (m.val s t) w := by
  obtain ⟨x0, x1, x2, x3, x4, x5, x6, x7, x8, x9, x10, x11, x12, x13, x14, x15, x16, x17⟩ := h.all
  go_simp
  rfl
theorem cfB_r {c : Cf} (h : cfB c = true) : 1 ≤ c.r ∧ c.r ≤ 256 := by
  unfold cfB inR at h
  simp at h
  omega
theorem usL_none {k : Int} (h : ((usL k).length : Int) = 0) : kdB k = false := by
  cases hk : kdB k with
  | false => rfl
  | true =>
    unfold kdB inR at hk
    simp at hk
    have : k = 1 ∨ k = 2 ∨ k = 3 ∨ k = 4 ∨ k = 5 ∨ k = 6 ∨ k = 7 ∨ k = 8 ∨ k = 9 ∨ k = 10 ∨ k = 11 ∨ k = 12 ∨ k = 13 ∨ k = 14 := by omega
    rcases this with rfl | rfl | rfl | rfl | rfl | rfl | rfl | rfl | rfl | rfl | rfl | rfl | rfl | rfl <;> revert h <;> decide
theorem usL_some {k : Int} (h : ¬ ((usL k).length : Int) = 0) : kdB k = true := by
  cases hk : kdB k with
  | true => rfl
  | false =>
    unfold kdB inR at hk
    simp at hk
    refine absurd ?_ h
    unfold usL usN
    rw [if_neg (show ¬ k = 1 by omega), if_neg (show ¬ k = 2 by omega), if_neg (show ¬ k = 3 by omega), if_neg (show ¬ k = 4 by omega), if_neg (show ¬ k = 5 by omega), if_neg (show ¬ k = 6 by omega), if_neg (show ¬ k = 7 by omega), if_neg (show ¬ k = 8 by omega), if_neg (show ¬ k = 9 by omega), if_neg (show ¬ k = 10 by omega), if_neg (show ¬ k = 11 by omega), if_neg (show ¬ k = 12 by omega), if_neg (show ¬ k = 13 by omega), if_neg (show ¬ k = 14 by omega)]
    rfl
theorem doc_all (k : Int) (hk : kdB k = true) : ∃ u0 u1 u2 u3 u4 u5 u6 u7 u8 u9 : Bool, usL k = [u0, u1, u2, u3, u4, u5, u6, u7, u8, u9] ∧ (k = 9 → u0 = true ∧ u9 = true) ∧ ∀ (f r : Int) (m : Mg) (L : List En) (D : List (Int × Int)), m.k = k → 1 ≤ f → f ≤ 3 → 1 ≤ r → r ≤ 256 → (unG m L.length D.length u0 u1 u2 u3 u4 u5 u6 u7 u8 u9 && fiG f r m L D k u0 u1 u2 u3 u4 u5 u6 u7 u8 u9) = (List.range 10).all (fun j => keepB f r m L D j (tabA k.toNat j)) := by
  unfold kdB inR at hk
  simp at hk
  have : k = 1 ∨ k = 2 ∨ k = 3 ∨ k = 4 ∨ k = 5 ∨ k = 6 ∨ k = 7 ∨ k = 8 ∨ k = 9 ∨ k = 10 ∨ k = 11 ∨ k = 12 ∨ k = 13 ∨ k = 14 := by omega
  rcases this with rfl | rfl | rfl | rfl | rfl | rfl | rfl | rfl | rfl | rfl | rfl | rfl | rfl | rfl
  · exact ⟨false, false, false, false, false, false, true, false, false, false, rfl, fun h => absurd h (by decide), fun f r m L D _ h1 h2 h3 h4 => (docm_1 f r m L D h1 h2 h3 h4).trans rfl⟩
  · exact ⟨true, true, false, true, false, false, true, true, false, false, rfl, fun h => absurd h (by decide), fun f r m L D _ h1 h2 h3 h4 => (docm_2 f r m L D h1 h2 h3 h4).trans rfl⟩
  · exact ⟨true, true, false, true, true, false, true, false, false, true, rfl, fun h => absurd h (by decide), fun f r m L D _ h1 h2 h3 h4 => (docm_3 f r m L D h1 h2 h3 h4).trans rfl⟩
  · exact ⟨true, true, false, true, false, false, false, false, false, true, rfl, fun h => absurd h (by decide), fun f r m L D _ h1 h2 h3 h4 => (docm_4 f r m L D h1 h2 h3 h4).trans rfl⟩
  · exact ⟨true, true, false, false, true, false, false, false, false, true, rfl, fun h => absurd h (by decide), fun f r m L D _ h1 h2 h3 h4 => (docm_5 f r m L D h1 h2 h3 h4).trans rfl⟩
  · exact ⟨true, true, false, false, false, false, false, false, false, true, rfl, fun h => absurd h (by decide), fun f r m L D _ h1 h2 h3 h4 => (docm_6 f r m L D h1 h2 h3 h4).trans rfl⟩
  · exact ⟨true, true, true, false, true, false, false, false, true, true, rfl, fun h => absurd h (by decide), fun f r m L D _ h1 h2 h3 h4 => (docm_7 f r m L D h1 h2 h3 h4).trans rfl⟩
  · exact ⟨true, true, false, false, true, false, false, false, true, true, rfl, fun h => absurd h (by decide), fun f r m L D _ h1 h2 h3 h4 => (docm_8 f r m L D h1 h2 h3 h4).trans rfl⟩
  · exact ⟨true, false, false, false, false, true, false, false, false, true, rfl, fun _ => ⟨rfl, rfl⟩, fun f r m L D _ h1 h2 h3 h4 => (docm_9 f r m L D h1 h2 h3 h4).trans rfl⟩
  · exact ⟨true, true, false, false, true, true, false, false, true, true, rfl, fun h => absurd h (by decide), fun f r m L D _ h1 h2 h3 h4 => (docm_10 f r m L D h1 h2 h3 h4).trans rfl⟩
  · exact ⟨true, true, false, false, false, false, false, false, false, true, rfl, fun h => absurd h (by decide), fun f r m L D _ h1 h2 h3 h4 => (docm_11 f r m L D h1 h2 h3 h4).trans rfl⟩
  · exact ⟨true, true, false, false, true, false, false, false, true, true, rfl, fun h => absurd h (by decide), fun f r m L D _ h1 h2 h3 h4 => (docm_12 f r m L D h1 h2 h3 h4).trans rfl⟩
  · exact ⟨false, false, false, true, false, false, true, false, false, false, rfl, fun h => absurd h (by decide), fun f r m L D _ h1 h2 h3 h4 => (docm_13 f r m L D h1 h2 h3 h4).trans rfl⟩
  · exact ⟨true, true, false, false, true, false, true, true, false, false, rfl, fun h => absurd h (by decide), fun f r m L D _ h1 h2 h3 h4 => (docm_14 f r m L D h1 h2 h3 h4).trans rfl⟩
set_option maxRecDepth 100000 in
set_option maxHeartbeats 8000000 in
theorem refcheck7 (c : Cf) (m : Mg) (a1 a2 : Option Addr) (cl cv : Nat) (L : List En) (D : List (Int × Int)) (w : World) (hL : SlY yE w a1 L.length cl L) (hfit : ∀ e ∈ L, e.fits) (hD : SlY yD w a2 D.length cv D) (hfe : m.e.fits) :
    Calls Tryz.prog 11 #[c.val, m.val (.slice a1 L.length cl) (.slice a2 D.length cv)] w fun e w' => e = .returned (.int .i64 (ckM c m L D)) ∧ Below w.heap.size w w' := by
  go_enter Tryz.func11, Tryz.ntmps11
  go_upto_region 1 with (refine boxMk rfl (.tmp 1) rfl m _ _ rfl ?_; intro q1 w1 hq1 M1 b1 z1)
  have hq2 : q1 = w.heap.size + 1 := by first | exact hq1 | simpa using hq1
  subst hq2
  have hB : Below w.heap.size w w1 := ((Below.refl _ _).alloc (Nat.le_refl _) _).trans (b1.mono (by simp))
  have hc1 : CfB w1 w.heap.size c := ⟨Nat.lt_of_succ_lt M1.lt, fun i x hx => (b1.cell (p := ⟨w.heap.size, i, none⟩) (by simp)).trans (by
    match i, hx with
    | 0, hx | 1, hx | 2, hx | 3, hx => cases hx; unfold Cf.val; simp
    | (j + 4), hx => simp at hx)⟩
  have HC : Hid (∀ v, Below w1.heap.size w1 v → CfB v w.heap.size c) := fun v hv => hc1.bel hv
  have HM : Hid (∀ v, Below w1.heap.size w1 v → MBox v (w.heap.size + 1) m (.slice a1 L.length cl) (.slice a2 D.length cv)) := fun v hv => M1.bel hv
  have HB : Hid (∀ v, Below w1.heap.size w1 v → Below w.heap.size w v) := fun v hv => hB.trans (hv.mono hB.size)
  have HL : Hid (∀ v, Below w1.heap.size w1 v → SlY yE v a1 L.length cl L) := fun v hv => hL.later (HB.out v hv)
  have HD : Hid (∀ v, Below w1.heap.size w1 v → SlY yD v a2 D.length cv D) := fun v hv => hD.later (HB.out v hv)
  have HFI := hide hfit
  have HFE := hide hfe.ow
  have h1 : Below w1.heap.size w1 w1 := Below.refl _ _
  clear M1 b1 z1 hB hq1 hc1 hL hD hfit hfe
  refine wp_region_lit ?_
  refine vl_gen (fun T => T.size = 29 ∧ T[2]? = some (gw true (.pointer (some ⟨w.heap.size, 0, none⟩))) ∧ T[3]? = some (gw true (.pointer (some ⟨w.heap.size + 1, 0, none⟩)))) ⟨rfl, rfl, rfl⟩ (fun T0 ⟨hz, s2, s3⟩ => ?_)
  refine vt (.agg #[.int .i64 c.f, .int .i64 c.r, .int .i64 c.p, .bool c.u]) (ex_ld rfl (ev s2 rfl) ((HC.out w1 h1).ldAll)) hz (fun A1_1 zz kk s7x => ?_)
  replace s2 := kt kk s2
  replace s3 := kt kk s3
  clear kk hz
  have hz := zz
  have s7 := s7x
  clear zz s7x
  refine vcall true (.bool (cfB c)) (want_none rfl) (fun hc => by unfold execOp; simp only [resolve, invoke, Sem.run_bind, List.map_toArray, List.map_cons, List.map_nil, (ev s7 rfl)]; rfl) (fun hc => refConfig7 c w1) rfl hz (by decide) (fun A1_2 w2 hb zz kk s8x => ?_)
  have h2 := h1.trans (hb.mono h1.size)
  clear hb
  replace s2 := kt kk s2
  replace s3 := kt kk s3
  clear kk hz s7
  have hz := zz
  have s8 := s8x
  clear zz s8x A1_1
  refine vt (.bool (!(cfB c))) (ex_not rfl (ev s8 rfl)) hz (fun A1_3 zz kk s9x => ?_)
  replace s2 := kt kk s2
  replace s3 := kt kk s3
  clear kk hz s8
  have hz := zz
  have s9 := s9x
  clear zz s9x A1_2
  refine wpList_nil ?_
  go_upto_region 3 with fail
  cases e1 : (!(cfB c))
  rotate_left
  · refine wp_cond_true ((ev s9 rfl).trans (congrArg Value.bool e1)) ?_
    have HV := hide (HB.out _ h2)
    have V2 := hide (show ckM c m L D = 1 from by unfold ckM; rw [if_pos (by simpa using e1)])
    go_wp2
    refine bodyPost_ret (results_tmp rfl _ _ _) rfl ⟨?_, HV.out⟩
    rw [V2.out]
    show Ending.returned ((Array.setIfInBounds _ 4 (Value.int IntKind.i64 1)).getD 4 undef) = _
    rw [getD_of (at_set _ (by rw [hz]; decide))]
  refine wp_cond_false ((ev s9 rfl).trans (congrArg Value.bool e1)) ?_
  go_upto_region 3 with fail
  clear s9
  refine wp_region_lit ?_
  refine vt (.pointer (some ⟨w.heap.size + 1, 0, none⟩)) (ex_fa rfl (ev s3 rfl) (MBox.faKind _ _)) hz (fun A3_1 zz kk s10x => ?_)
  replace s2 := kt kk s2
  replace s3 := kt kk s3
  clear kk hz
  have hz := zz
  have s10 := s10x
  clear zz s10x
  refine vt (.int .i64 m.k) (ex_ld rfl (ev s10 rfl) ((HM.out w2 h2).ldKind)) hz (fun A3_2 zz kk s11x => ?_)
  replace s2 := kt kk s2
  replace s3 := kt kk s3
  clear kk hz s10
  have hz := zz
  have s11 := s11x
  clear zz s11x A3_1
  refine vt _ (ex_assign rfl (ev s11 rfl)) hz (fun A3_3 zz kk s5x => ?_)
  replace s2 := kt kk s2
  replace s3 := kt kk s3
  clear kk hz s11
  have hz := zz
  have s5 := s5x
  clear zz s5x A3_2
  refine wpList_nil ?_
  go_upto_region 4 with fail
  refine wp_region_lit ?_
  refine vt _ (ex_move rfl (ev s5 rfl)) hz (fun A4_1 zz kk s12x => ?_)
  replace s2 := kt kk s2
  replace s3 := kt kk s3
  replace s5 := kt kk s5
  clear kk hz
  have hz := zz
  have s12 := s12x
  clear zz s12x
  refine vcallP (want_none rfl) (by unfold execOp; simp only [resolve, invoke, Sem.run_bind, List.map_toArray, List.map_cons, List.map_nil, (ev s12 rfl)]; rfl) (uses_all m.k w2) rfl hz (by decide) ?_
  rintro e w3 ⟨v6, rfl, O, hb⟩; obtain ⟨au, cu, rfl, _, _, hau1, hau2⟩ := O.form
  refine ⟨_, rfl, fun A4_2 zz kk s13x => ?_⟩
  have h3 := h2.trans (hb.mono h2.size)
  clear hb
  replace s2 := kt kk s2
  replace s3 := kt kk s3
  replace s5 := kt kk s5
  clear kk hz s12
  have hz := zz
  have s13 := s13x
  clear zz s13x A4_1
  refine vt _ (ex_assign rfl (ev s13 rfl)) hz (fun A4_3 zz kk s6x => ?_)
  replace s2 := kt kk s2
  replace s3 := kt kk s3
  replace s5 := kt kk s5
  clear kk hz s13
  have hz := zz
  have s6 := s6x
  clear zz s6x A4_2
  refine wpList_nil ?_
  go_upto_region 5 with fail
  refine wp_region_lit ?_
  refine vt _ (ex_move rfl (ev s6 rfl)) hz (fun A5_1 zz kk s14x => ?_)
  replace s2 := kt kk s2
  replace s3 := kt kk s3
  replace s5 := kt kk s5
  replace s6 := kt kk s6
  clear kk hz
  have hz := zz
  have s14 := s14x
  clear zz s14x
  refine vt (.int .i64 ((usL m.k).length : Int)) (ex_lenB rfl rfl (ev s14 rfl)) hz (fun A5_2 zz kk s15x => ?_)
  replace s2 := kt kk s2
  replace s3 := kt kk s3
  replace s5 := kt kk s5
  replace s6 := kt kk s6
  clear kk hz s14
  have hz := zz
  have s15 := s15x
  clear zz s15x A5_1
  refine vt (.bool (decide (((usL m.k).length : Int) = 0))) (ex_bin rfl (ev s15 rfl) rfl (eqlC _ _ _ _ _)) hz (fun A5_3 zz kk s16x => ?_)
  replace s2 := kt kk s2
  replace s3 := kt kk s3
  replace s5 := kt kk s5
  replace s6 := kt kk s6
  clear kk hz s15
  have hz := zz
  have s16 := s16x
  clear zz s16x A5_2
  refine wpList_nil ?_
  go_upto_region 7 with fail
  cases e5 : (decide (((usL m.k).length : Int) = 0))
  rotate_left
  · refine wp_cond_true ((ev s16 rfl).trans (congrArg Value.bool e5)) ?_
    have HV := hide (HB.out _ h3)
    have V2 := hide (show ckM c m L D = 70 from by unfold ckM; rw [if_neg (by simpa using e1), if_pos (usL_none (of_decide_eq_true e5))])
    go_wp2
    refine bodyPost_ret (results_tmp rfl _ _ _) rfl ⟨?_, HV.out⟩
    rw [V2.out]
    show Ending.returned ((Array.setIfInBounds _ 4 (Value.int IntKind.i64 70)).getD 4 undef) = _
    rw [getD_of (at_set _ (by rw [hz]; decide))]
  refine wp_cond_false ((ev s16 rfl).trans (congrArg Value.bool e5)) ?_
  have hc : cfB c = true := by simpa using e1
  have hk : kdB m.k = true := usL_some (of_decide_eq_false e5)
  obtain ⟨u0, u1, u2, u3, u4, u5, u6, u7, u8, u9, hul, h9, hdoc⟩ := doc_all m.k hk
  have hne : usL m.k ≠ [] := by rw [hul]; simp
  obtain ⟨g, rfl⟩ : ∃ g, au = some ⟨g, 0, none⟩ := by
    cases au with
    | none => exact absurd (hau1 rfl).1 hne
    | some x => obtain ⟨g, e, _⟩ := hau2 x rfl; exact ⟨g, by rw [e]⟩
  obtain ⟨g2, eg, hgl, hgs⟩ := hau2 _ rfl
  obtain rfl : g = g2 := by simpa using eg
  have HG : Hid (∀ v, Below w3.heap.size w3 v → g < v.heap.size ∧ ∀ (j : Nat) (b : Bool), ([u0, u1, u2, u3, u4, u5, u6, u7, u8, u9] : List Bool)[j]? = some b → v.cell? ⟨g, j, none⟩ = some (.bool b)) := fun v hv => ⟨Nat.lt_of_lt_of_le hgs hv.size, fun j b hj => (hv.cell (p := ⟨g, j, none⟩) hgs).trans (by have := O.cell kB j b (by rw [hul]; exact hj) 0 (.bool b) rfl; simpa [yB] using this)⟩
  replace s6 : A5_3[6]? = some (gw true (.slice (some ⟨g, 0, none⟩) 10 cu)) := by rw [s6, hul]; rfl
  have H9 := hide h9
  have HF := hide (cfB_f hc)
  have HDOC := hide hdoc
  have hcr := cfB_r hc
  have HM2 : Hid (∀ v, Below w3.heap.size w3 v → Below w1.heap.size w1 v) := fun v hv => h3.trans (hv.mono h3.size)
  replace HM : Hid (∀ v, Below w3.heap.size w3 v → MBox v (w.heap.size + 1) m (.slice a1 L.length cl) (.slice a2 D.length cv)) := fun v hv => HM.out v (HM2.out v hv)
  replace HC : Hid (∀ v, Below w3.heap.size w3 v → CfB v w.heap.size c) := fun v hv => HC.out v (HM2.out v hv)
  replace HL : Hid (∀ v, Below w3.heap.size w3 v → SlY yE v a1 L.length cl L) := fun v hv => HL.out v (HM2.out v hv)
  replace HD : Hid (∀ v, Below w3.heap.size w3 v → SlY yD v a2 D.length cv D) := fun v hv => HD.out v (HM2.out v hv)
  replace HB : Hid (∀ v, Below w3.heap.size w3 v → Below w.heap.size w v) := fun v hv => HB.out v (HM2.out v hv)
  have h3y : Below w3.heap.size w3 w3 := Below.refl _ _
  clear O hau1 hau2 eg hgl hgs hne hul h9 hdoc h1 h2 h3 HM2 s16 e5
  have h3 := h3y
  clear h3y
  go_upto_region 7 with fail
  refine wp_region_lit ?_
  refine vt (m.val (.slice a1 L.length cl) (.slice a2 D.length cv)) (ex_ld rfl (ev s3 rfl) ((HM.out w3 h3).ldAll)) hz (fun A7_1 zz kk s17x => ?_)
  replace s2 := kt kk s2
  replace s3 := kt kk s3
  replace s5 := kt kk s5
  replace s6 := kt kk s6
  clear kk hz
  have hz := zz
  have s17 := s17x
  clear zz s17x
  refine vt _ (ex_move rfl (ev s6 rfl)) hz (fun A7_2 zz kk s18x => ?_)
  replace s2 := kt kk s2
  replace s3 := kt kk s3
  replace s5 := kt kk s5
  replace s6 := kt kk s6
  replace s17 := kt kk s17
  clear kk hz
  have hz := zz
  have s18 := s18x
  clear zz s18x A7_1
  refine vcall true (.bool (unG m L.length D.length u0 u1 u2 u3 u4 u5 u6 u7 u8 u9)) (want_none rfl) (fun hc => by unfold execOp; simp only [resolve, invoke, Sem.run_bind, List.map_toArray, List.map_cons, List.map_nil, (ev s17 rfl), (ev s18 rfl)]; rfl) (fun hc => unused_any m a1 a2 L.length cl D.length cv g cu u0 u1 u2 u3 u4 u5 u6 u7 u8 u9 w3 (HG.out w3 h3).1 (HG.out w3 h3).2) rfl hz (by decide) (fun A7_3 w4 hb zz kk s19x => ?_)
  have h4 := h3.trans (hb.mono h3.size)
  clear hb
  replace s2 := kt kk s2
  replace s3 := kt kk s3
  replace s5 := kt kk s5
  replace s6 := kt kk s6
  clear kk hz s17 s18
  have hz := zz
  have s19 := s19x
  clear zz s19x A7_2
  refine vt (.bool (!(unG m L.length D.length u0 u1 u2 u3 u4 u5 u6 u7 u8 u9))) (ex_not rfl (ev s19 rfl)) hz (fun A7_4 zz kk s20x => ?_)
  replace s2 := kt kk s2
  replace s3 := kt kk s3
  replace s5 := kt kk s5
  replace s6 := kt kk s6
  clear kk hz s19
  have hz := zz
  have s20 := s20x
  clear zz s20x A7_3
  refine vt _ (ex_move rfl (ev s20 rfl)) hz (fun A7_5 zz kk s21x => ?_)
  replace s2 := kt kk s2
  replace s3 := kt kk s3
  replace s5 := kt kk s5
  replace s6 := kt kk s6
  clear kk hz s20
  have hz := zz
  have s21 := s21x
  clear zz s21x A7_4
  refine vl _ (.agg #[.int .i64 c.f, .int .i64 c.r, .int .i64 c.p, .bool c.u]) (want_g rfl rfl s21) (fun hc => ex_ld rfl (ev s2 rfl) ((HC.out w4 h4).ldAll)) rfl hz (by decide) (fun A7_6 zz kk s22x => ?_)
  replace s2 := kt kk s2
  replace s3 := kt kk s3
  replace s5 := kt kk s5
  replace s6 := kt kk s6
  replace s21 := kt kk s21
  clear kk hz
  have hz := zz
  have s22 := s22x
  clear zz s22x A7_5
  refine vl _ (m.val (.slice a1 L.length cl) (.slice a2 D.length cv)) (want_g rfl rfl s21) (fun hc => ex_ld rfl (ev s3 rfl) ((HM.out w4 h4).ldAll)) rfl hz (by decide) (fun A7_7 zz kk s23x => ?_)
  replace s2 := kt kk s2
  replace s3 := kt kk s3
  replace s5 := kt kk s5
  replace s6 := kt kk s6
  replace s21 := kt kk s21
  replace s22 := kt kk s22
  clear kk hz
  have hz := zz
  have s23 := s23x
  clear zz s23x A7_6
  refine vl _ _ (want_g rfl rfl s21) (fun hc => ex_move rfl (ev s5 rfl)) rfl hz (by decide) (fun A7_8 zz kk s24x => ?_)
  replace s2 := kt kk s2
  replace s3 := kt kk s3
  replace s5 := kt kk s5
  replace s6 := kt kk s6
  replace s21 := kt kk s21
  replace s22 := kt kk s22
  replace s23 := kt kk s23
  clear kk hz
  have hz := zz
  have s24 := s24x
  clear zz s24x A7_7
  refine vl _ _ (want_g rfl rfl s21) (fun hc => ex_move rfl (ev s6 rfl)) rfl hz (by decide) (fun A7_9 zz kk s25x => ?_)
  replace s2 := kt kk s2
  replace s3 := kt kk s3
  replace s5 := kt kk s5
  replace s6 := kt kk s6
  replace s21 := kt kk s21
  replace s22 := kt kk s22
  replace s23 := kt kk s23
  replace s24 := kt kk s24
  clear kk hz
  have hz := zz
  have s25 := s25x
  clear zz s25x A7_8
  refine vcall (true && ((!(unG m L.length D.length u0 u1 u2 u3 u4 u5 u6 u7 u8 u9)) == false)) (.bool (fiG c.f c.r m L D m.k u0 u1 u2 u3 u4 u5 u6 u7 u8 u9)) (want_g rfl rfl s21) (fun hc => by unfold execOp; simp only [resolve, invoke, Sem.run_bind, List.map_toArray, List.map_cons, List.map_nil, (ev s22 hc), (ev s23 hc), (ev s24 hc), (ev s25 hc)]; rfl) (fun hc => fields_any c.f c.r c.p c.u m a1 a2 cl cv g cu m.k u0 u1 u2 u3 u4 u5 u6 u7 u8 u9 L D w4 HF.out (HL.out w4 h4) HFI.out (HD.out w4 h4) HFE.out (HG.out w4 h4).1 (HG.out w4 h4).2 H9.out) rfl hz (by decide) (fun A7_10 w5 hb zz kk s26x => ?_)
  have h5 := h4.trans (hb.mono h4.size)
  clear hb
  replace s2 := kt kk s2
  replace s3 := kt kk s3
  replace s5 := kt kk s5
  replace s6 := kt kk s6
  replace s21 := kt kk s21
  clear kk hz s22 s23 s24 s25
  have hz := zz
  have s26 := s26x
  clear zz s26x A7_9
  refine vl _ (.bool (!(fiG c.f c.r m L D m.k u0 u1 u2 u3 u4 u5 u6 u7 u8 u9))) (want_g rfl rfl s21) (fun hc => ex_not rfl (ev s26 hc)) rfl hz (by decide) (fun A7_11 zz kk s27x => ?_)
  replace s2 := kt kk s2
  replace s3 := kt kk s3
  replace s5 := kt kk s5
  replace s6 := kt kk s6
  replace s21 := kt kk s21
  clear kk hz s26
  have hz := zz
  have s27 := s27x
  clear zz s27x A7_10
  refine vt (.bool ((!(unG m L.length D.length u0 u1 u2 u3 u4 u5 u6 u7 u8 u9)) || (!(fiG c.f c.r m L D m.k u0 u1 u2 u3 u4 u5 u6 u7 u8 u9)))) (ex_or rfl s21 s27 rfl) hz (fun A7_12 zz kk s28x => ?_)
  replace s2 := kt kk s2
  replace s3 := kt kk s3
  replace s5 := kt kk s5
  replace s6 := kt kk s6
  clear kk hz s21 s27
  have hz := zz
  have s28 := s28x
  clear zz s28x A7_11
  refine wpList_nil ?_
  go_upto_region 9 with fail
  cases e7 : ((!(unG m L.length D.length u0 u1 u2 u3 u4 u5 u6 u7 u8 u9)) || (!(fiG c.f c.r m L D m.k u0 u1 u2 u3 u4 u5 u6 u7 u8 u9)))
  rotate_left
  · refine wp_cond_true ((ev s28 rfl).trans (congrArg Value.bool e7)) ?_
    have HV := hide (HB.out _ h5)
    have V2 := hide (show ckM c m L D = 71 from by unfold ckM; rw [if_neg (by simp [hc]), if_neg (by simp [hk]), ← HDOC.out c.f c.r m L D rfl HF.out.1 HF.out.2 hcr.1 hcr.2, if_neg (by rw [Bool.and_eq_true]; rintro ⟨x, y⟩; rw [x, y] at e7; simp at e7)])
    go_wp2
    refine bodyPost_ret (results_tmp rfl _ _ _) rfl ⟨?_, HV.out⟩
    rw [V2.out]
    show Ending.returned ((Array.setIfInBounds _ 4 (Value.int IntKind.i64 71)).getD 4 undef) = _
    rw [getD_of (at_set _ (by rw [hz]; decide))]
  refine wp_cond_false ((ev s28 rfl).trans (congrArg Value.bool e7)) ?_
  have HV := hide (HB.out _ h5)
  have V2 := hide (show ckM c m L D = 0 from by unfold ckM; rw [if_neg (by simp [hc]), if_neg (by simp [hk]), ← HDOC.out c.f c.r m L D rfl HF.out.1 HF.out.2 hcr.1 hcr.2, if_pos (by rw [Bool.and_eq_true]; simpa using e7)])
  go_wp2
  refine bodyPost_ret (results_tmp rfl _ _ _) rfl ⟨?_, HV.out⟩
  rw [V2.out]
  show Ending.returned ((Array.setIfInBounds _ 4 (Value.int IntKind.i64 0)).getD 4 undef) = _
  rw [getD_of (at_set _ (by rw [hz]; decide))]
def colsBy (m : Mg) (L : List En) (D : List (Int × Int)) (k j : Nat) : List Int := (List.range j).flatMap fun i => if tabA k i = 0 then [] else colBy m L D i (!decide ((tabA k i : Int) = 15))
def mbBy (m : Mg) (L : List En) (D : List (Int × Int)) (k : Nat) : List Int := M.form k ++ colsBy m L D k 10
theorem colsBy_next (m : Mg) (L : List En) (D : List (Int × Int)) (k j : Nat) : colsBy m L D k (j + 1) = colsBy m L D k j ++ (if tabA k j = 0 then [] else colBy m L D j (!decide ((tabA k j : Int) = 15))) := by
  unfold colsBy
  rw [List.range_succ, List.flatMap_append]
  simp
theorem colsBy_none {m : Mg} {L : List En} {D : List (Int × Int)} {k j : Nat} (h : (tabA k j : Int) = 0) : colsBy m L D k (j + 1) = colsBy m L D k j := by
  rw [colsBy_next, if_pos (by omega)]
  simp
theorem colsBy_some {m : Mg} {L : List En} {D : List (Int × Int)} {k j : Nat} (h : ¬ (tabA k j : Int) = 0) : colsBy m L D k (j + 1) = colsBy m L D k j ++ colBy m L D j (!decide ((tabA k j : Int) = 15)) := by
  rw [colsBy_next, if_neg (by omega)]
theorem colBy_le {m : Mg} {L : List En} {D : List (Int × Int)} (hm : mgF m L D) (j : Nat) (op : Bool) : (colBy m L D j op).length ≤ if j = 8 then 26130 else 150 := by
  have fl : ∀ {x : Int}, 0 ≤ x ∧ x ≤ 9223372036854775807 → (M.form x.toNat).length ≤ 9 := fun h => form_le (by omega)
  match j with
  | 0 => have := fl hm.nd; show (M.form _).length ≤ 150; omega
  | 1 => have := fl hm.vw; show (M.form _).length ≤ 150; omega
  | 2 => have := fl hm.ls; show (M.form _).length ≤ 150; omega
  | 3 => have := fl hm.p; show (M.form _).length ≤ 150; omega
  | 4 => have := fl hm.cm; show (M.form _).length ≤ 150; omega
  | 5 =>
    have := drBy_le (x := m.d.1.toNat) (y := m.d.2.toNat) (by have := hm.d.1; have := hm.d.2.1; omega) (by have := hm.d.2.2.1; have := hm.d.2.2.2; omega)
    show (drBy _ _).length ≤ 150
    omega
  | 6 =>
    have h1 := nmBy_le (x := m.e.c.toNat) (y := m.e.n.toNat) (by have := hm.e.1; have := hm.e.2.1; omega) (by have := hm.e.2.2.1; have := hm.e.2.2.2.1; omega)
    have h2 := opBy_le (x := m.e.o.k.toNat) (y := m.e.o.s.toNat) (by have := hm.e.2.2.2.2.1; have := hm.e.2.2.2.2.2.1; omega) (by have := hm.e.2.2.2.2.2.2.1; have := hm.e.2.2.2.2.2.2.2.1; omega) hm.e.2.2.2.2.2.2.2.2
    show (nmBy _ _ ++ _).length ≤ 150
    rw [List.length_append]
    cases op
    · simp; omega
    · simp only [if_true]; omega
  | 7 =>
    have h2 := opBy_le (x := m.r.1.toNat) (y := m.r.2.1.toNat) (by have := hm.r.1; have := hm.r.2.1; omega) (by have := hm.r.2.2.1; have := hm.r.2.2.2.1; omega) hm.r.2.2.2.2
    show (opBy _ _ _).length ≤ 150
    omega
  | 8 =>
    have h1 := esBy_le L hm.es
    have h2 := hm.lL
    have h3 := form_le (show L.length < 2 ^ 64 by omega)
    show (M.form _ ++ _).length ≤ 26130
    rw [List.length_append]
    omega
  | 9 =>
    have h1 := dsBy_le D hm.ds
    have h2 := hm.lD
    have h3 := form_le (show D.length < 2 ^ 64 by omega)
    show (M.form _ ++ _).length ≤ 150
    rw [List.length_append]
    omega
  | (n + 10) => rw [if_neg (by omega)]; exact Nat.zero_le _
theorem tabA_out {k j : Nat} (hj : 10 ≤ j) : tabA k j = 0 := by
  unfold tabA
  by_cases hk : k < 15
  · rw [List.getD_eq_getElem?_getD]
    match k, hk with
    | 0, _ | 1, _ | 2, _ | 3, _ | 4, _ | 5, _ | 6, _ | 7, _ | 8, _ | 9, _ | 10, _ | 11, _ | 12, _ | 13, _ | 14, _ => simp [tabR, List.getElem?_eq_none, hj]
  · rw [List.getElem?_eq_none (show tabR.length ≤ k by show 15 ≤ k; omega)]
    rfl
theorem colsBy_le {m : Mg} {L : List En} {D : List (Int × Int)} (hm : mgF m L D) (k j : Nat) : (colsBy m L D k j).length ≤ 28000 := by
    have key : ∀ j, j ≤ 10 → (colsBy m L D k j).length ≤ 150 * j + if j ≤ 8 then 0 else 26130 := by
      intro j
      induction j with
      | zero => intro _; simp [colsBy]
      | succ j ih =>
        intro hj
        have h1 := ih (by omega)
        have h2 := colBy_le hm j (!decide ((tabA k j : Int) = 15))
        rw [colsBy_next, List.length_append]
        by_cases h0 : tabA k j = 0
        · rw [if_pos h0]
          simp only [List.length_nil]
          split at h1 <;> split <;> omega
        · rw [if_neg h0]
          split at h1 <;> split at h2 <;> split <;> omega
    by_cases hj : j ≤ 10
    · have := key j hj
      split at this <;> omega
    · have e : ∀ n, colsBy m L D k (10 + n) = colsBy m L D k 10 := by
        intro n
        induction n with
        | zero => rfl
        | succ n ih => rw [show 10 + (n + 1) = (10 + n) + 1 from rfl, colsBy_next, if_pos (tabA_out (by omega)), List.append_nil, ih]
      have := key 10 (Nat.le_refl _)
      rw [show j = 10 + (j - 10) by omega, e]
      simp at this
      omega
theorem ixTab (k : Nat) (hk : k < 15) (w : World) : (Instr.indexAt 84 (.pointer (some ⟨0, 0, none⟩)) (.int .i64 (k : Int))).run Tryz.prog w = .ok (.pointer (some ⟨0, k * 10, none⟩)) w := by
  have h1 : (k : Int) < 15 := by omega
  go_simp
theorem ldRow {w : World} (h : Tab w) {k : Nat} (hk : k < 15) : (Instr.loadAt 83 (.pointer (some ⟨0, k * 10, none⟩))).run Tryz.prog w = .ok (.agg #[.int .u8 (tabA k 0 : Int), .int .u8 (tabA k 1 : Int), .int .u8 (tabA k 2 : Int), .int .u8 (tabA k 3 : Int), .int .u8 (tabA k 4 : Int), .int .u8 (tabA k 5 : Int), .int .u8 (tabA k 6 : Int), .int .u8 (tabA k 7 : Int), .int .u8 (tabA k 8 : Int), .int .u8 (tabA k 9 : Int)]) w := by
  have y0 : w.cell? ⟨0, k * 10, none⟩ = some (.int .u8 (tabA k 0 : Int)) := h.cell k 0 hk (by omega)
  have y1 := h.cell k 1 hk (by omega)
  have y2 := h.cell k 2 hk (by omega)
  have y3 := h.cell k 3 hk (by omega)
  have y4 := h.cell k 4 hk (by omega)
  have y5 := h.cell k 5 hk (by omega)
  have y6 := h.cell k 6 hk (by omega)
  have y7 := h.cell k 7 hk (by omega)
  have y8 := h.cell k 8 hk (by omega)
  have y9 := h.cell k 9 hk (by omega)
  go_simp
theorem ex_index {o : Oper} {ρ : Operand → Value} {s : TypeId} {x y : Operand} {X Y V : Value} {w : World} (ho : o.op = .index s x y) (hx : ρ x = X) (hy : ρ y = Y) (hr : (Instr.index s X Y).run Tryz.prog w = .ok V w) : (execOp ρ o).run Tryz.prog w = .ok (.value V) w := by
  unfold execOp
  simp only [ho, hx, hy, Sem.run_bind, hr, Result.andThen_ok]
  rfl
theorem ex_ext {o : Oper} {ρ : Operand → Value} {x : Operand} {i : Nat} {X V : Value} {w : World} (ho : o.op = .extract x i) (hx : ρ x = X) (hr : (Instr.extract X i).run Tryz.prog w = .ok V w) : (execOp ρ o).run Tryz.prog w = .ok (.value V) w := by
  unfold execOp
  simp only [ho, hx, Sem.run_bind, hr, Result.andThen_ok]
  rfl
set_option maxRecDepth 100000 in
set_option maxHeartbeats 4000000 in
theorem wmessage_tk (B b : Nat) (l : List Int) (m : Mg) (k : Nat) (hmk : m.k = (k : Int)) (hk2 : k < 15) (a1 a2 : Option Addr) (cl cv : Nat) (L : List En) (D : List (Int × Int)) (w0 w : World) (hB : B ≤ b) (hB1 : 0 < B) (hT : Tab w) (h0 : Below w0.heap.size w0 w) (hB0 : w0.heap.size ≤ B) (hL : SlY yE w0 a1 L.length cl L) (hD : SlY yD w0 a2 D.length cv D) (hm : mgF m L D) (h : Wi.WOkT w b l) (hl : l.length + 100000 ≤ 140737488355328) :
    Calls Tryz.prog 44 #[.pointer (some ⟨b, 0, none⟩), m.val (.slice a1 L.length cl) (.slice a2 D.length cv)] w fun e w' => e = .returned (.tuple #[]) ∧ Wi.WOkT w' b (l ++ mbBy m L D k) ∧ Below B w w' ∧ Wi.TKp w w' := by
  have hlt0 := h.lt
  go_enter Tryz.func44, Tryz.ntmps44
  go_upto_region 1 with (refine boxMk rfl (.tmp 1) rfl m _ _ rfl ?_; intro q1 w1 hq1 M1 hBw z1; subst hq1)
  have hO1 := h.later hBw
  have hBl : B ≤ w.heap.size := by omega
  have HM : Hid (∀ v, Wi.TKp w1 v → MBox v w.heap.size m (.slice a1 L.length cl) (.slice a2 D.length cv)) := fun v hv => M1.tk hv
  have HK : Hid (∀ v, Wi.TKp w1 v → (Instr.loadAt 24 (.pointer (some ⟨w.heap.size, 0, none⟩))).run Tryz.prog v = .ok (.int .i64 (k : Int)) v) := fun v hv => by rw [← hmk]; exact (HM.out v hv).ldKind
  have HTB : Hid (∀ v, Below B w1 v → Tab v) := fun v hv => (hT.later hBw (Nat.lt_of_lt_of_le hB1 hBl)).later hv hB1
  have HLEN : Hid (∀ j, (l ++ M.form k ++ colsBy m L D k j).length + 30000 ≤ 140737488355328) := fun j => by
    have f1 := form_le (show k < 2 ^ 64 by omega)
    have f2 := colsBy_le hm k j
    rw [List.length_append, List.length_append]
    omega
  refine vh_start (fun v => Wi.TKp w1 v) (by kernel_rfl) ?_
  have hS : Wi.TKp w1 w1.drew := (Wi.TKp.refl w1).drewN 1
  refine vh_gen (fun T => T.size = 28 ∧ T[0]? = some (gw true (.pointer (some ⟨b, 0, none⟩))) ∧ T[3]? = some (gw true (.pointer (some ⟨w.heap.size, 0, none⟩)))) ⟨rfl, rfl, rfl⟩ (fun T0 ⟨hz, s0, s3⟩ => ?_)
  refine vh_take 0 true (.pointer (some ⟨b, 0, none⟩)) rfl (by kernel_rfl) (by kernel_rfl) (by kernel_rfl) (want_none rfl) (fun hc v hv => ex_move rfl (ev s0 rfl)) rfl hz (by decide) hS (fun A1_1 zz kk s6x => ?_)
  replace s0 := kt kk s0
  replace s3 := kt kk s3
  clear kk hz
  have hz := zz
  have s6 := s6x
  clear zz s6x
  refine vh_take 1 true (.pointer (some ⟨b, 0, none⟩)) rfl (by kernel_rfl) (by kernel_rfl) (by kernel_rfl) (want_none rfl) (fun hc v hv => ex_nil rfl (ev s6 rfl)) rfl hz (by decide) hS (fun A1_2 zz kk s7x => ?_)
  replace s0 := kt kk s0
  replace s3 := kt kk s3
  clear kk hz s6
  have hz := zz
  have s7 := s7x
  clear zz s7x A1_1
  refine vh_take 2 true (.pointer (some ⟨b, 0, none⟩)) rfl (by kernel_rfl) (by kernel_rfl) (by kernel_rfl) (want_none rfl) (fun hc v hv => ex_fa rfl (ev s7 rfl) (by go_simp)) rfl hz (by decide) hS (fun A1_3 zz kk s8x => ?_)
  replace s0 := kt kk s0
  replace s3 := kt kk s3
  clear kk hz s7
  have hz := zz
  have s8 := s8x
  clear zz s8x A1_2
  refine vh_take 3 true (.pointer (some ⟨w.heap.size, 0, none⟩)) rfl (by kernel_rfl) (by kernel_rfl) (by kernel_rfl) (want_none rfl) (fun hc v hv => ex_fa rfl (ev s3 rfl) (MBox.faKind _ _)) rfl hz (by decide) hS (fun A1_4 zz kk s9x => ?_)
  replace s0 := kt kk s0
  replace s3 := kt kk s3
  replace s8 := kt kk s8
  clear kk hz
  have hz := zz
  have s9 := s9x
  clear zz s9x A1_3
  refine vh_take 4 true (.int .i64 (k : Int)) rfl (by kernel_rfl) (by kernel_rfl) (by kernel_rfl) (want_none rfl) (fun hc v hv => ex_ld rfl (ev s9 rfl) (HK.out v hv)) rfl hz (by decide) hS (fun A1_5 zz kk s10x => ?_)
  replace s0 := kt kk s0
  replace s3 := kt kk s3
  replace s8 := kt kk s8
  clear kk hz s9
  have hz := zz
  have s10 := s10x
  clear zz s10x A1_4
  refine vh_call 5 rfl (by kernel_rfl) (want_none rfl) (ex_call rfl (by simp only [List.map_toArray, List.map_cons, List.map_nil, (ev s8 rfl), (ev s10 rfl), evc] <;> rfl) rfl) (Wi.int_tk B b l k w1.drew hB hO1.drew (by omega) (by omega)) rfl hz (by decide) ?_
  rintro e w2 ⟨rfl, hO2, hb2, ht2⟩
  refine ⟨_, rfl, (hS.trans ht2), fun A1_6 zz kk s11x => ?_⟩
  have hb3 : Below B w1 w2 := (Below.refl _ _).drew.trans hb2
  have ht3 : Wi.TKp w1 w2 := ((Wi.TKp.refl w1).drewN 1).trans ht2
  clear hb2 ht2 hS
  replace s0 := kt kk s0
  replace s3 := kt kk s3
  clear kk hz s8 s10
  have hz := zz
  have s11 := s11x
  clear zz s11x A1_5
  refine vh_done (by kernel_rfl) ?_
  go_upto_region 2 with fail
  refine wp_region_lit ?_
  refine vt (.pointer (some ⟨w.heap.size, 0, none⟩)) (ex_fa rfl (ev s3 rfl) (MBox.faKind _ _)) hz (fun A2_1 zz kk s12x => ?_)
  replace s0 := kt kk s0
  replace s3 := kt kk s3
  clear kk hz s11
  have hz := zz
  have s12 := s12x
  clear zz s12x
  refine vt (.int .i64 (k : Int)) (ex_ld rfl (ev s12 rfl) (HK.out w2 ht3)) hz (fun A2_2 zz kk s13x => ?_)
  replace s0 := kt kk s0
  replace s3 := kt kk s3
  clear kk hz s12
  have hz := zz
  have s13 := s13x
  clear zz s13x A2_1
  refine vt (.pointer (some ⟨0, k * 10, none⟩)) (ex_ix rfl rfl (ev s13 rfl) (ixTab k hk2 _)) hz (fun A2_3 zz kk s14x => ?_)
  replace s0 := kt kk s0
  replace s3 := kt kk s3
  clear kk hz s13
  have hz := zz
  have s14 := s14x
  clear zz s14x A2_2
  refine vt (.agg #[.int .u8 (tabA k 0 : Int), .int .u8 (tabA k 1 : Int), .int .u8 (tabA k 2 : Int), .int .u8 (tabA k 3 : Int), .int .u8 (tabA k 4 : Int), .int .u8 (tabA k 5 : Int), .int .u8 (tabA k 6 : Int), .int .u8 (tabA k 7 : Int), .int .u8 (tabA k 8 : Int), .int .u8 (tabA k 9 : Int)]) (ex_ld rfl (ev s14 rfl) (ldRow (HTB.out w2 hb3) hk2)) hz (fun A2_4 zz kk s15x => ?_)
  replace s0 := kt kk s0
  replace s3 := kt kk s3
  clear kk hz s14
  have hz := zz
  have s15 := s15x
  clear zz s15x A2_3
  refine vt (.int .i64 0) (ex_move rfl rfl) hz (fun A2_5 zz kk s16x => ?_)
  replace s0 := kt kk s0
  replace s3 := kt kk s3
  replace s15 := kt kk s15
  clear kk hz
  have hz := zz
  have s16 := s16x
  clear zz s16x A2_4
  refine wpList_nil ?_
  go_upto_region 3 with fail
  refine v_loop 16 10 (fun j T wr => T.size = 28 ∧ T[0]? = some (gw true (.pointer (some ⟨b, 0, none⟩))) ∧ T[3]? = some (gw true (.pointer (some ⟨w.heap.size, 0, none⟩))) ∧ T[15]? = some (gw true (.agg #[.int .u8 (tabA k 0 : Int), .int .u8 (tabA k 1 : Int), .int .u8 (tabA k 2 : Int), .int .u8 (tabA k 3 : Int), .int .u8 (tabA k 4 : Int), .int .u8 (tabA k 5 : Int), .int .u8 (tabA k 6 : Int), .int .u8 (tabA k 7 : Int), .int .u8 (tabA k 8 : Int), .int .u8 (tabA k 9 : Int)])) ∧ T[16]? = some (gw true (.int .i64 (j : Int))) ∧ Hid (Wi.WOkT wr b (l ++ M.form k ++ colsBy m L D k j) ∧ Below B w1 wr ∧ Wi.TKp w1 wr)) (fun j T w h => h.2.2.2.2.1) ⟨hz, s0, s3, s15, s16, by simpa [colsBy] using hO2, hb3, ht3⟩ ?_
  intro j R0 wr hj hh
  clear hz s0 s3 s15 s16
  obtain ⟨hz, s0, s3, s15, s16, HI⟩ := hh
  go_upto_region 3 with fail
  refine wp_region_lit ?_
  refine vt (.bool (decide ((j : Int) < 10))) (ex_bin rfl (ev s16 rfl) rfl (lssC _ _ _ _ _)) hz (fun A3_1 zz kk s17x => ?_)
  replace s0 := kt kk s0
  replace s3 := kt kk s3
  replace s15 := kt kk s15
  replace s16 := kt kk s16
  clear kk hz
  have hz := zz
  have s17 := s17x
  clear zz s17x
  refine wpList_nil ?_
  go_upto_region 4 with fail
  cases e3 : decide ((j : Int) < 10)
  · refine wp_cond_false ((ev s17 rfl).trans (congrArg Value.bool e3)) ?_
    have hjl : j = 10 := by have := of_decide_eq_false e3; omega
    have HJ := hide hjl
    clear e3 hjl
    go_wp2
    go_end0
    have hI := HI.out
    rw [HJ.out] at hI
    exact ⟨rfl, by simpa [mbBy, List.append_assoc] using hI.1, (hBw.mono hBl).trans hI.2.1, (Wi.TKp.of_below hBw).trans hI.2.2⟩
  refine wp_cond_true ((ev s17 rfl).trans (congrArg Value.bool e3)) ?_
  have hlt : j < 10 := by have := of_decide_eq_true e3; omega
  clear s17 e3
  go_upto_region 4 with fail
  refine wp_region_lit ?_
  refine vt _ (ex_move rfl (ev s16 rfl)) hz (fun A4_1 zz kk s18x => ?_)
  replace s0 := kt kk s0
  replace s3 := kt kk s3
  replace s15 := kt kk s15
  replace s16 := kt kk s16
  clear kk hz
  have hz := zz
  have s18 := s18x
  clear zz s18x
  refine vt (.int .u8 (tabA k j : Int)) (ex_index rfl (ev s15 rfl) (ev s16 rfl) (rowIx k j hlt _)) hz (fun A4_2 zz kk s19x => ?_)
  replace s0 := kt kk s0
  replace s3 := kt kk s3
  replace s15 := kt kk s15
  replace s16 := kt kk s16
  replace s18 := kt kk s18
  clear kk hz
  have hz := zz
  have s19 := s19x
  clear zz s19x A4_1
  refine vt _ (ex_assign rfl (ev s18 rfl)) hz (fun A4_3 zz kk s4x => ?_)
  replace s0 := kt kk s0
  replace s3 := kt kk s3
  replace s15 := kt kk s15
  replace s16 := kt kk s16
  replace s19 := kt kk s19
  clear kk hz s18
  have hz := zz
  have s4 := s4x
  clear zz s4x A4_2
  refine vt _ (ex_assign rfl (ev s19 rfl)) hz (fun A4_4 zz kk s5x => ?_)
  replace s0 := kt kk s0
  replace s3 := kt kk s3
  replace s4 := kt kk s4
  replace s15 := kt kk s15
  replace s16 := kt kk s16
  clear kk hz s19
  have hz := zz
  have s5 := s5x
  clear zz s5x A4_3
  refine wpList_nil ?_
  go_upto_region 5 with fail
  refine wp_region_lit ?_
  refine vt _ (ex_move rfl (ev s5 rfl)) hz (fun A5_1 zz kk s20x => ?_)
  replace s0 := kt kk s0
  replace s3 := kt kk s3
  replace s4 := kt kk s4
  replace s5 := kt kk s5
  replace s15 := kt kk s15
  replace s16 := kt kk s16
  clear kk hz
  have hz := zz
  have s20 := s20x
  clear zz s20x
  refine vt (.bool (!decide ((tabA k j : Int) = 0))) (ex_bin rfl (ev s20 rfl) rfl (neqU8 _ _ _ _ _)) hz (fun A5_2 zz kk s21x => ?_)
  replace s0 := kt kk s0
  replace s3 := kt kk s3
  replace s4 := kt kk s4
  replace s5 := kt kk s5
  replace s15 := kt kk s15
  replace s16 := kt kk s16
  clear kk hz s20
  have hz := zz
  have s21 := s21x
  clear zz s21x A5_1
  refine wpList_nil ?_
  go_upto_region 6 with fail
  cases e5 : !decide ((tabA k j : Int) = 0)
  · refine wp_cond_false ((ev s21 rfl).trans (congrArg Value.bool e5)) ?_
    clear s21
    go_upto_region 7 with fail
    refine wp_region_lit ?_
    refine vt (.int .i64 ((j + 1 : Nat) : Int)) (ex_bin rfl (ev s16 rfl) rfl (addJ j (by omega) _ _ _)) hz (fun A7_1 zz kk s27x => ?_)
    replace s0 := kt kk s0
    replace s3 := kt kk s3
    replace s15 := kt kk s15
    replace s16 := kt kk s16
    clear kk hz s4 s5
    have hz := zz
    have s27 := s27x
    clear zz s27x
    refine vt _ (ex_move rfl (ev s27 rfl)) hz (fun A7_2 zz kk s16x => ?_)
    replace s0 := kt kk s0
    replace s3 := kt kk s3
    replace s15 := kt kk s15
    clear kk hz s27 s16
    have hz := zz
    have s16 := s16x
    clear zz s16x A7_1
    refine wpList_nil ?_
    exact ⟨_, rfl, by omega, hz, s0, s3, s15, s16, by rw [colsBy_none (by simpa using e5)]; exact HI.out.1, HI.out.2.1, HI.out.2.2⟩
  refine wp_cond_true ((ev s21 rfl).trans (congrArg Value.bool e5)) ?_
  clear s21
  go_upto_region 6 with fail
  refine wp_region_lit ?_
  refine vt _ (ex_move rfl (ev s0 rfl)) hz (fun A6_1 zz kk s22x => ?_)
  replace s0 := kt kk s0
  replace s3 := kt kk s3
  replace s4 := kt kk s4
  replace s5 := kt kk s5
  replace s15 := kt kk s15
  replace s16 := kt kk s16
  clear kk hz
  have hz := zz
  have s22 := s22x
  clear zz s22x
  refine vt (m.val (.slice a1 L.length cl) (.slice a2 D.length cv)) (ex_ld rfl (ev s3 rfl) ((HM.out wr HI.out.2.2).ldAll)) hz (fun A6_2 zz kk s23x => ?_)
  replace s0 := kt kk s0
  replace s3 := kt kk s3
  replace s4 := kt kk s4
  replace s5 := kt kk s5
  replace s15 := kt kk s15
  replace s16 := kt kk s16
  replace s22 := kt kk s22
  clear kk hz
  have hz := zz
  have s23 := s23x
  clear zz s23x A6_1
  refine vt _ (ex_move rfl (ev s4 rfl)) hz (fun A6_3 zz kk s24x => ?_)
  replace s0 := kt kk s0
  replace s3 := kt kk s3
  replace s5 := kt kk s5
  replace s15 := kt kk s15
  replace s16 := kt kk s16
  replace s22 := kt kk s22
  replace s23 := kt kk s23
  clear kk hz s4
  have hz := zz
  have s24 := s24x
  clear zz s24x A6_2
  refine vt _ (ex_move rfl (ev s5 rfl)) hz (fun A6_4 zz kk s25x => ?_)
  replace s0 := kt kk s0
  replace s3 := kt kk s3
  replace s15 := kt kk s15
  replace s16 := kt kk s16
  replace s22 := kt kk s22
  replace s23 := kt kk s23
  replace s24 := kt kk s24
  clear kk hz s5
  have hz := zz
  have s25 := s25x
  clear zz s25x A6_3
  refine vcallP (want_none rfl) (ex_call rfl (by simp only [List.map_toArray, List.map_cons, List.map_nil, (ev s22 rfl), (ev s23 rfl), (ev s24 rfl), (ev s25 rfl), evc] <;> rfl) rfl) (wfield_all B b (l ++ M.form k ++ colsBy m L D k j) m a1 a2 cl cv L D j hlt (tabA k j : Int) w0 wr hB (h0.trans ((hBw.mono h0.size).trans (HI.out.2.1.mono hB0))) hB0 hL hD hm HI.out.1 (by have := HLEN.out j; omega)) rfl hz (by decide) ?_
  rintro e w7 ⟨rfl, hO7, hb7, ht7⟩
  refine ⟨_, rfl, fun A6_5 zz kk s26x => ?_⟩
  replace s0 := kt kk s0
  replace s3 := kt kk s3
  replace s15 := kt kk s15
  replace s16 := kt kk s16
  clear kk hz s22 s23 s24 s25
  have hz := zz
  have s26 := s26x
  clear zz s26x A6_4
  refine wpList_nil ?_
  go_upto_region 7 with fail
  refine wp_region_lit ?_
  refine vt (.int .i64 ((j + 1 : Nat) : Int)) (ex_bin rfl (ev s16 rfl) rfl (addJ j (by omega) _ _ _)) hz (fun A7_1 zz kk s27x => ?_)
  replace s0 := kt kk s0
  replace s3 := kt kk s3
  replace s15 := kt kk s15
  replace s16 := kt kk s16
  clear kk hz s26
  have hz := zz
  have s27 := s27x
  clear zz s27x
  refine vt _ (ex_move rfl (ev s27 rfl)) hz (fun A7_2 zz kk s16x => ?_)
  replace s0 := kt kk s0
  replace s3 := kt kk s3
  replace s15 := kt kk s15
  clear kk hz s27 s16
  have hz := zz
  have s16 := s16x
  clear zz s16x A7_1
  refine wpList_nil ?_
  exact ⟨_, rfl, by omega, hz, s0, s3, s15, s16, by rw [colsBy_some (by simpa using e5)]; simpa only [List.append_assoc] using hO7, HI.out.2.1.trans hb7, HI.out.2.2.trans ht7⟩
end Go.Proofs.YtjfbkeommlopmaaGreatDoor
namespace Go.Proofs.YtjfbkeommlopmaaGreatDoor.Wi
open Go.RowKit
set_option linter.unusedVariables false
theorem bytes_any (b : Nat) (l : List Int) (w : World) (h : WOk w b l) (hl : l.length ≤ 140737488355328) :
    Calls Tryz.prog 45 #[.pointer (some ⟨b, 0, none⟩)] w fun e w' => ∃ v, e = .returned (.tuple #[v, .int .i64 0]) ∧ Own w.heap.size w' v l ∧ Below w.heap.size w w' := by
  rcases h with ⟨rfl, h⟩ | ⟨q, g, n, c, h⟩
  · refine (bytes_new b w h).mono ?_
    rintro e w' ⟨rfl, rfl⟩
    exact ⟨_, rfl, Own.nil _ _, Below.refl _ _⟩
  · exact bytes_has b q g n c l w h hl
structure Pt where
  K : Int
  V : Int
  N : Int
  m : Int
  s : ByteArray
def Pt.err (p : Pt) : Int := ptErr p.K p.N p.m p.s
def Pt.bytes (p : Pt) : List Int := ptBytes p.K p.V p.N p.s
def Pt.val (p : Pt) : Value := putV p.K p.V p.N p.m p.s
def Pt.fits (p : Pt) : Prop := 0 ≤ p.V ∧ p.V < 18446744073709551616 ∧ -9223372036854775808 ≤ p.N ∧ p.N ≤ 9223372036854775807 ∧ -9223372036854775808 ≤ p.m ∧ p.m ≤ 9223372036854775807
theorem take_snoc (P : List Pt) (k : Nat) (h : k < P.length) : P.take (k + 1) = P.take k ++ [P[k]] := by rw [List.take_add_one, List.getElem?_eq_getElem h]; rfl
def Puts (w : World) (a : Option Addr) (P : List Pt) : Prop := ∀ i (h : i < P.length), P[i].fits ∧ ∃ b o, a = some ⟨b, o, none⟩ ∧ w.cell? ⟨b, o + i * 5, none⟩ = some (.int .i64 P[i].K) ∧ w.cell? ⟨b, o + i * 5 + 1, none⟩ = some (.int .u64 P[i].V) ∧ w.cell? ⟨b, o + i * 5 + 2, none⟩ = some (.int .i64 P[i].N) ∧ w.cell? ⟨b, o + i * 5 + 3, none⟩ = some (.int .i64 P[i].m) ∧ w.cell? ⟨b, o + i * 5 + 4, none⟩ = some (.string P[i].s)
def tnErr : List Int → Int
  | [] => 10
  | k :: d => if 8 < k then 12 else if (d.length : Int) < k then 10 else if 0 < k ∧ d.getD 0 0 = 0 then 12 else 0
def tnVal (l : List Int) : Nat := if tnErr l = 0 then M.rb ((l.drop 1).take (l.getD 0 0).toNat) else 0
def tnSize (l : List Int) : Nat := if tnErr l = 0 then 1 + (l.getD 0 0).toNat else 0
theorem tn_bad {l : List Int} (h : tnErr l ≠ 0) : tnVal l = 0 ∧ tnSize l = 0 := by unfold tnVal tnSize; rw [if_neg h, if_neg h]; exact ⟨rfl, rfl⟩
theorem ret3 {a b c : Int} {a' b' c' : Int} (h1 : a = a') (h2 : b = b') (h3 : c = c') : Ending.returned (.tuple #[.int .u64 a, .int .i64 b, .int .i64 c]) = .returned (.tuple #[.int .u64 a', .int .i64 b', .int .i64 c']) := by rw [h1, h2, h3]
def TnPost (l : List Int) (w : World) (e : Ending) (w' : World) : Prop := e = .returned (.tuple #[.int .u64 (tnVal l), .int .i64 (tnSize l), .int .i64 (tnErr l)]) ∧ ∃ k, w' = w.drewN k
theorem TnPost.mk_bad {l : List Int} {w : World} {E : Int} (k : Nat) (h : tnErr l = E) (hE : E ≠ 0) : TnPost l w (.returned (.tuple #[.int .u64 0, .int .i64 0, .int .i64 E])) (w.drewN k) := by
  obtain ⟨h1, h2⟩ := tn_bad (l := l) (by rw [h]; exact hE)
  exact ⟨ret3 (by rw [h1]; rfl) (by rw [h2]; rfl) h.symm, k, rfl⟩
theorem tn_none (a : Option Addr) (c : Nat) (w : World) :
    Calls Tryz.prog 153 #[.slice a 0 c] w fun e w' => TnPost [] w e w' := by
  go_enter Tryz.func153, Tryz.ntmps153
  go_wp2
  go_ret3
  exact TnPost.mk_bad 0 rfl (by decide)
theorem rb_step64 (v : Nat) (z : Int) (hv : v < 72057594037927936) (h0 : 0 ≤ z) (h1 : z < 256) : bits .or .u64 ((v : Int) * 256 % 18446744073709551616) (z % 18446744073709551616) = ((v * 256 + z.toNat : Nat) : Int) := by
  obtain ⟨n, rfl⟩ := Int.eq_ofNat_of_zero_le h0
  have e1 : ((v : Int) * 256 % 18446744073709551616) = ((v * 2 ^ 8 : Nat) : Int) := by omega
  have e2 : ((n : Int) % 18446744073709551616) = (n : Int) := by omega
  rw [e1, e2, u64_or_nat _ _ (by omega) (by omega), M.or_low v n 8 (by omega)]
  simp
theorem tnErr_form {k : Int} {d : List Int} (h : 8 < k) : tnErr (k :: d) = 12 := by simp only [tnErr]; rw [if_pos h]
theorem tnErr_short {k : Int} {d : List Int} (h : ¬ 8 < k) (h2 : (d.length : Int) < k) : tnErr (k :: d) = 10 := by simp only [tnErr]; rw [if_neg h, if_pos h2]
theorem tnErr_zero {k : Int} {d : List Int} (h : ¬ 8 < k) (h2 : ¬ (d.length : Int) < k) (h3 : 0 < k) (h4 : d.getD 0 0 = 0) : tnErr (k :: d) = 12 := by simp only [tnErr]; rw [if_neg h, if_neg h2, if_pos ⟨h3, h4⟩]
theorem tnErr_ok {k : Int} {d : List Int} (h : ¬ 8 < k) (h2 : ¬ (d.length : Int) < k) (h3 : ¬ (0 < k ∧ d.getD 0 0 = 0)) : tnErr (k :: d) = 0 := by simp only [tnErr]; rw [if_neg h, if_neg h2, if_neg h3]
theorem TnPost.mk_ok {k : Int} {d : List Int} {w : World} (j : Nat) (h : tnErr (k :: d) = 0) {v s : Int} (hv : v = (M.rb (d.take k.toNat) : Nat)) (hs : s = ((1 + k.toNat : Nat) : Int)) : TnPost (k :: d) w (.returned (.tuple #[.int .u64 v, .int .i64 s, .int .i64 0])) (w.drewN j) := by
  refine ⟨ret3 ?_ ?_ h.symm, j, rfl⟩
  · unfold tnVal; rw [if_pos h, hv]; rfl
  · unfold tnSize; rw [if_pos h, hs]; rfl
set_option maxHeartbeats 400000 in
theorem tn_one (b o : Nat) (k : Int) (w : World) (hk0 : 0 ≤ k) (hk1 : k < 256) (h0 : w.cell? ⟨b, o, none⟩ = some (.int .u8 k)) :
    Calls Tryz.prog 153 #[.slice (some ⟨b, o, none⟩) 1 1] w fun e w' => TnPost [k] w e w' := by
  by_cases h8 : 8 < k
  · have H := hide (tnErr_form (d := []) h8)
    go_enter Tryz.func153, Tryz.ntmps153
    go_wp2
    go_quiet (fail)
    go_wp2
    go_ret3
    exact TnPost.mk_bad nq H.out (by decide)
  · by_cases hp : 0 < k
    · have H := hide (tnErr_short (d := []) h8 (by simpa using hp))
      go_enter Tryz.func153, Tryz.ntmps153
      go_wp2
      go_quiet (fail)
      go_wp2
      go_ret3
      exact TnPost.mk_bad nq H.out (by decide)
    · obtain rfl : k = 0 := by omega
      have H := hide (tnErr_ok (k := 0) (d := []) h8 (by simp) (by simp))
      go_enter Tryz.func153, Tryz.ntmps153
      go_wp2
      go_quiet (fail)
      go_wp2
      go_loop [7, 8, 36] (fun v _ i => v = .int .u64 0 ∧ i = .int .i64 0) (fun _ _ _ => 0)
      case atStart => exact ⟨rfl, rfl⟩
      case round =>
        obtain ⟨rfl, rfl⟩ := hrel
        go_wp2
        go_ret3
        exact TnPost.mk_ok nq H.out rfl rfl
set_option maxRecDepth 100000 in
set_option maxHeartbeats 1000000 in
theorem tn_more (b o n c : Nat) (k : Int) (d : List Int) (w : World) (hn : d.length = n) (hc : n + 1 ≤ c) (hc2 : 2 ≤ c) (hmx : c ≤ maxLen) (hr : Row w ⟨b, o, none⟩ (k :: d)) (hb : ∀ z ∈ k :: d, 0 ≤ z ∧ z < 256) :
    Calls Tryz.prog 153 #[.slice (some ⟨b, o, none⟩) (n + 1) c] w fun e w' => TnPost (k :: d) w e w' := by
  obtain ⟨hk0, hk1⟩ := hb k (by simp)
  unfold maxLen at hmx
  have h0 : w.cell? ⟨b, o, none⟩ = some (.int .u8 k) := hr 0 (by simp)
  have hd : ∀ i, i < n → w.cell? ⟨b, o + 1 + i, none⟩ = some (.int .u8 (d.getD i 0)) := by
    intro i hi
    have := hr (i + 1) (by simp; omega)
    rw [Addr.add_lit] at this
    rw [show o + 1 + i = o + (i + 1) from by omega, this]
    rfl
  have hnc : (n : Int) + 1 ≤ (c : Int) := by omega
  by_cases h8 : 8 < k
  · have H := hide (tnErr_form (d := d) h8)
    clear hr hd hb hn
    go_enter Tryz.func153, Tryz.ntmps153
    go_wp2
    go_quiet (fail)
    go_wp2
    go_ret3
    exact TnPost.mk_bad nq H.out (by decide)
  · by_cases hs : (n : Int) < k
    · have H := hide (tnErr_short (d := d) h8 (by rw [hn]; exact hs))
      clear hr hd hb hn
      go_enter Tryz.func153, Tryz.ntmps153
      go_wp2
      go_quiet (fail)
      go_wp2
      go_ret3
      exact TnPost.mk_bad nq H.out (by decide)
    · by_cases hz : 0 < k ∧ d.getD 0 0 = 0
      · have H := hide (tnErr_zero h8 (by rw [hn]; exact hs) hz.1 hz.2)
        have hd0 := hd 0 (by omega)
        rw [hz.2, Nat.add_zero] at hd0
        obtain ⟨hz1, _⟩ := hz
        clear hr hd hb hn
        go_enter Tryz.func153, Tryz.ntmps153
        go_wp2
        go_quiet (fail)
        go_wp2
        go_ret3
        exact TnPost.mk_bad nq H.out (by decide)
      · have H := hide (tnErr_ok h8 (by rw [hn]; exact hs) hz)
        obtain ⟨K, rfl⟩ := Int.eq_ofNat_of_zero_le hk0
        have hbd : ∀ z ∈ d, 0 ≤ z ∧ z < 256 := fun z hz => hb z (by simp [hz])
        have hKn : K ≤ n := by omega
        have hlen := hide hn
        by_cases hp : 0 < K
        · have hd0 := hd 0 (by omega)
          rw [Nat.add_zero] at hd0
          have hzb : (d[0]?.getD 0 == 0) = false := by
            rw [beq_eq_false_iff_ne]
            intro h
            exact hz ⟨by omega, h⟩
          have HD := hide hd
          clear hr hb hn hz hd
          go_enter Tryz.func153, Tryz.ntmps153
          go_wp2
          go_quiet (fail)
          go_wp2
          go_loop [7, 8, 36] (fun v _ i => ∃ j : Nat, j ≤ K ∧ i = .int .i64 j ∧ v = .int .u64 (M.rb (d.take j) : Nat)) (fun _ _ i => K - (intOf i).toNat)
          case atStart => exact ⟨0, Nat.zero_le _, rfl, rfl⟩
          case round =>
            obtain ⟨j, hj, rfl, rfl⟩ := hrel
            by_cases hlt : j < K
            · have hcell := HD.out j (by omega)
              have hdl : j < d.length := by rw [hlen.out]; omega
              have hz : 0 ≤ d.getD j 0 ∧ d.getD j 0 < 256 := hbd _ (by simp [List.getD, hdl])
              have hv : M.rb (d.take j) < 256 ^ 7 := Nat.lt_of_lt_of_le (M.rb_lt (d.take j) (fun z hz => hbd z (List.mem_of_mem_take hz))) (Nat.pow_le_pow_right (by omega) (by simp; omega))
              have HV := hide (rb_step64 (M.rb (d.take j)) (d.getD j 0) (by omega) hz.1 hz.2)
              have HT := hide (M.rb_take d j hdl)
              clear hv hz hdl
              go_wp2
              go_round
              case rel => exact ⟨j + 1, by omega, by go_num, int_eq (by rw [HT.out]; exact HV.out)⟩
              case measure => simp [intOf]; omega
            · obtain rfl : j = K := by omega
              go_wp2
              go_ret3
              exact TnPost.mk_ok nq H.out rfl (by simp)
        · obtain rfl : K = 0 := by omega
          clear hr hb hn hz hd
          go_enter Tryz.func153, Tryz.ntmps153
          go_wp2
          go_quiet (fail)
          go_wp2
          go_loop [7, 8, 36] (fun v _ i => v = .int .u64 0 ∧ i = .int .i64 0) (fun _ _ _ => 0)
          case atStart => exact ⟨rfl, rfl⟩
          case round =>
            obtain ⟨rfl, rfl⟩ := hrel
            go_wp2
            go_ret3
            exact TnPost.mk_ok nq H.out rfl rfl
theorem tn_any (a : Option Addr) (n c : Nat) (l : List Int) (w : World) (h : Hs w a n c l) (hm : c ≤ maxLen) :
    Calls Tryz.prog 153 #[.slice a n c] w fun e w' => TnPost l w e w' := by
  cases l with
  | nil =>
    obtain rfl : n = 0 := h.len.symm
    exact tn_none a c w
  | cons k d =>
    have hn : n = d.length + 1 := h.len.symm
    subst hn
    cases a with
    | none => cases (h.nil rfl).1
    | some x =>
      obtain ⟨b, o, rfl⟩ := h.flat (by omega)
      have hr := h.row _ rfl
      have hcap := h.cap
      by_cases hc : 2 ≤ c
      · exact tn_more b o d.length c k d w rfl hcap hc hm hr h.byte
      · obtain rfl : c = 1 := by omega
        obtain rfl : d = [] := List.eq_nil_of_length_eq_zero (by omega)
        obtain ⟨h1, h2⟩ := h.byte k (by simp)
        exact tn_one b o k w h1 h2 (hr 0 (by simp))
end Go.Proofs.YtjfbkeommlopmaaGreatDoor.Wi
namespace Go.Proofs.YtjfbkeommlopmaaGreatDoor.Wi
set_option linter.unusedVariables false
/-! A number's one form: what is read without an error is the number's form. -/
theorem dig_snoc (v K i : Nat) (z : Int) (h0 : 0 ≤ z) (h1 : z < 256) (hi : i < K) : M.dig (v * 256 + z.toNat) (K + 1) i = M.dig v K i := by
  unfold M.dig
  have e : 8 * (K + 1 - 1 - i) = 8 + 8 * (K - 1 - i) := by omega
  rw [e, Nat.shiftRight_eq_div_pow, Nat.shiftRight_eq_div_pow, Nat.pow_add, ← Nat.div_div_eq_div_mul, show (v * 256 + z.toNat) / 2 ^ 8 = v from by omega]
theorem digs_rb (ds : List Int) (h : ∀ z ∈ ds, 0 ≤ z ∧ z < 256) : M.digs (M.rb ds) ds.length ds.length = ds := by
  induction hn : ds.length generalizing ds with
  | zero =>
    have : ds = [] := List.eq_nil_of_length_eq_zero hn
    subst this
    rfl
  | succ K ih =>
    obtain ⟨e, z, rfl⟩ : ∃ e z, ds = e ++ [z] := by
      refine ⟨ds.dropLast, ds.getLast (by intro h; rw [h] at hn; simp at hn), ?_⟩
      exact (List.dropLast_concat_getLast _).symm
    have hz := h z (by simp)
    have he : e.length = K := by simpa using hn
    rw [M.rb_snoc, M.digs_succ]
    have h1 : M.digs (M.rb e * 256 + z.toNat) (K + 1) K = M.digs (M.rb e) K K := by
      unfold M.digs
      apply List.map_congr_left
      intro i hi
      exact dig_snoc _ _ _ _ hz.1 hz.2 (by simpa using hi)
    rw [h1, ih e (fun y hy => h y (by simp [hy])) he]
    congr 1
    unfold M.dig
    rw [show 8 * (K + 1 - 1 - K) = 0 from by omega, Nat.shiftRight_zero, show (M.rb e * 256 + z.toNat) % 256 = z.toNat from by omega]
    rw [Int.toNat_of_nonneg hz.1]
theorem rb_ge (z : Int) (r : List Int) (hz : 1 ≤ z) : 256 ^ r.length ≤ M.rb (z :: r) := by
  have key : ∀ (r : List Int) (v : Nat), v * 256 ^ r.length ≤ r.foldl (fun v z => v * 256 + z.toNat) v := by
    intro r
    induction r with
    | nil => intro v; simp
    | cons y r ih =>
      intro v
      refine Nat.le_trans ?_ (ih (v * 256 + y.toNat))
      simp only [List.length_cons, Nat.pow_succ]
      rw [Nat.mul_comm (256 ^ r.length) 256, ← Nat.mul_assoc]
      exact Nat.mul_le_mul_right _ (by omega)
  have := key r z.toNat
  have h2 : 1 * 256 ^ r.length ≤ z.toNat * 256 ^ r.length := Nat.mul_le_mul_right _ (by omega)
  have h3 : M.rb (z :: r) = r.foldl (fun v z => v * 256 + z.toNat) z.toNat := by simp [M.rb]
  rw [h3]
  omega
theorem pow256 (k : Nat) : (256 : Nat) ^ k = 2 ^ (8 * k) := by rw [show (256 : Nat) = 2 ^ 8 from rfl, ← Nat.pow_mul]
theorem nb_rb (ds : List Int) (h : ∀ z ∈ ds, 0 ≤ z ∧ z < 256) (hf : 0 < ds.length → ds.getD 0 0 ≠ 0) : M.nb (M.rb ds) = ds.length := by
  have h1 : M.bl (M.rb ds) ≤ 8 * ds.length := by rw [M.bl_le, ← pow256]; exact M.rb_lt ds h
  cases ds with
  | nil => rfl
  | cons z r =>
    have hz := h z (by simp)
    have hz1 : z ≠ 0 := hf (by simp)
    have h2 := rb_ge z r (by omega)
    have h3 : ¬ M.bl (M.rb (z :: r)) ≤ 8 * r.length := by rw [M.bl_le, ← pow256]; omega
    simp only [List.length_cons] at h1 ⊢
    unfold M.nb
    omega
theorem form_rb (ds : List Int) (h : ∀ z ∈ ds, 0 ≤ z ∧ z < 256) (hf : 0 < ds.length → ds.getD 0 0 ≠ 0) : M.form (M.rb ds) = (ds.length : Int) :: ds := by
  unfold M.form
  rw [nb_rb ds h hf, digs_rb ds h]
end Go.Proofs.YtjfbkeommlopmaaGreatDoor.Wi
namespace Go.Proofs.YtjfbkeommlopmaaGreatDoor.Wi
open Go.RowKit
set_option linter.unusedVariables false
end Go.Proofs.YtjfbkeommlopmaaGreatDoor.Wi
namespace Go.Proofs.YtjfbkeommlopmaaGreatDoor.Wi
open Go.RowKit
set_option linter.unusedVariables false
structure RSt (w : World) (b : Nat) (a : Option Addr) (n c : Nat) (l : List Int) (p : Nat) (err : Int) : Prop where
  lt : b < w.heap.size
  c0 : w.cell? ⟨b, 0, none⟩ = some (.bool true)
  c1 : w.cell? ⟨b, 1, none⟩ = some (.slice a n c)
  c2 : w.cell? ⟨b, 2, none⟩ = some (.int .i64 p)
  c3 : w.cell? ⟨b, 3, none⟩ = some (.int .i64 err)
  f2 : w.frozen? ⟨b, 2, none⟩ = false
  f3 : w.frozen? ⟨b, 3, none⟩ = false
  hs : Hs w a n c l
  cmax : c ≤ maxLen
  ne : ∀ x, a = some x → ∃ g, x = ⟨g, 0, none⟩ ∧ g ≠ b
  le : p ≤ n
theorem Row.far {w : World} {g : Nat} {l : List Int} (h : Row w ⟨g, 0, none⟩ l) {p : Addr} (hp : p.block ≠ g) (u : Value) : Row (w.setCell p u) ⟨g, 0, none⟩ l := by
  intro i hi
  have h1 := h i hi
  rw [Addr.add_lit] at h1 ⊢
  rw [World.cell?_of_block (w := w) (Below.heap_setCell w p u g (fun e => hp e.symm))]
  exact h1
theorem Hs.far {w : World} {a : Option Addr} {n c : Nat} {l : List Int} (h : Hs w a n c l) {b : Nat} (hne : ∀ x, a = some x → ∃ g, x = ⟨g, 0, none⟩ ∧ g ≠ b) (k : Nat) (u : Value) : Hs (w.setCell ⟨b, k, none⟩ u) a n c l := by
  refine ⟨h.len, h.cap, fun x hx => ?_, h.nil, h.byte⟩
  obtain ⟨g, rfl, hg⟩ := hne x hx
  exact (h.row _ hx).far (by show b ≠ g; exact fun e => hg e.symm) u
theorem Hs.rest {w : World} {g n c : Nat} {l : List Int} (h : Hs w (some ⟨g, 0, none⟩) n c l) (p : Nat) (hp : p ≤ n) : Hs w (some ⟨g, p, none⟩) (n - p) (c - p) (l.drop p) := by
  refine ⟨by rw [List.length_drop, h.len], by have := h.cap; omega, fun x hx => ?_, fun hx => by (cases hx), fun z hz => h.byte z (List.mem_of_mem_drop hz)⟩
  cases hx
  have := (h.row _ rfl).drop p
  rwa [Nat.zero_add] at this
theorem Hs.rest_end {w : World} {g n c : Nat} {l : List Int} (h : Hs w (some ⟨g, 0, none⟩) n c l) (hp : n = c) : Hs w (some ⟨g, 0, none⟩) 0 0 (l.drop c) := by
  have hl : l.drop c = [] := List.drop_eq_nil_of_le (by rw [h.len]; omega)
  rw [hl]
  exact ⟨rfl, Nat.le_refl _, fun x hx i hi => by (simp at hi), fun hx => by (cases hx), fun z hz => by (cases hz)⟩
theorem tn_quiet (a : Option Addr) (n c : Nat) (l : List Int) (w : World) (k : Nat) (h : Hs w a n c l) (hm : c ≤ maxLen) :
    Calls Tryz.prog 153 #[.slice a n c] (w.drewN k) fun e w' => e = .returned (.tuple #[.int .u64 (tnVal l), .int .i64 (tnSize l), .int .i64 (tnErr l)]) ∧ ∃ m, w' = w.drewN m := by
  refine (tn_any a n c l (w.drewN k) (h.later (below_drewN (Below.refl _ _) k)) hm).mono ?_
  rintro e w' ⟨rfl, j, rfl⟩
  exact ⟨rfl, _, World.drewN_drewN _ _ _⟩
theorem tnSize_le (l : List Int) (h : ∀ z ∈ l, 0 ≤ z ∧ z < 256) : tnSize l ≤ l.length ∧ tnSize l ≤ 9 := by
  cases l with
  | nil => exact ⟨by simp [tnSize, tnErr], by simp [tnSize, tnErr]⟩
  | cons k d =>
    by_cases he : tnErr (k :: d) = 0
    · have hk := h k (by simp)
      have : tnSize (k :: d) = 1 + k.toNat := by unfold tnSize; rw [if_pos he]; rfl
      simp only [tnErr] at he
      split at he
      · cases he
      · split at he
        · cases he
        · rename_i h1 h2
          rw [this]
          simp only [List.length_cons]
          omega
    · rw [(tn_bad he).2]
      exact ⟨Nat.zero_le _, Nat.zero_le _⟩
theorem step_any (b : Nat) (p S : Nat) (E v3 : Int) (w : World) (c2 : w.cell? ⟨b, 2, none⟩ = some (.int .i64 p)) (c3 : w.cell? ⟨b, 3, none⟩ = some (.int .i64 v3)) (f2 : w.frozen? ⟨b, 2, none⟩ = false) (f3 : w.frozen? ⟨b, 3, none⟩ = false) (hb : p + S ≤ 9223372036854775807) :
    Calls Tryz.prog 152 #[.pointer (some ⟨b, 0, none⟩), .int .i64 S, .int .i64 E] w fun e w' => e = .returned (.tuple #[]) ∧ w' = (w.setCell ⟨b, 2, none⟩ (.int .i64 ((p + S : Nat) : Int))).setCell ⟨b, 3, none⟩ (.int .i64 E) := by
  have hb1 : (p : Int) + (S : Int) ≤ 9223372036854775807 := by omega
  go_enter Tryz.func152, Tryz.ntmps152
  go_wp2
  go_end0
  exact ⟨rfl, rfl⟩
set_option maxRecDepth 100000 in
set_option maxHeartbeats 400000 in
theorem number_core (b : Nat) (a a' : Option Addr) (n c : Nat) (l : List Int) (p : Nat) (w : World) (h : RSt w b a n c l p 0) (n' c' : Nat) (h' : Hs w a' n' c' (l.drop p)) (ha : (∃ g, a = some ⟨g, 0, none⟩ ∧ p < c ∧ a' = some ⟨g, p, none⟩ ∧ n' = n - p ∧ c' = c - p) ∨ (∃ g, a = some ⟨g, 0, none⟩ ∧ n = p ∧ c = p ∧ a' = some ⟨g, 0, none⟩ ∧ n' = 0 ∧ c' = 0) ∨ (a = none ∧ n = 0 ∧ c = 0 ∧ p = 0 ∧ a' = none ∧ n' = 0 ∧ c' = 0)) :
    Calls Tryz.prog 144 #[.pointer (some ⟨b, 0, none⟩)] w fun e w' => e = .returned (.int .u64 (tnVal (l.drop p))) ∧ ∃ k, w' = ((w.setCell ⟨b, 2, none⟩ (.int .i64 ((p + tnSize (l.drop p) : Nat) : Int))).setCell ⟨b, 3, none⟩ (.int .i64 (tnErr (l.drop p)))).drewN k := by
  obtain ⟨hlt, c0, c1, c2, c3, f2, f3, hs, cmax, ne, hle⟩ := h
  have hcap := hs.cap
  have hc' : c' ≤ maxLen := by
    rcases ha with ⟨g, _, _, _, _, hc⟩ | ⟨g, _, _, _, _, _, hc⟩ | ⟨_, _, _, _, _, _, hc⟩ <;> omega
  have HQ := fun k => hide (tn_quiet a' n' c' (l.drop p) w k h' hc')
  have hsz := tnSize_le (l.drop p) h'.byte
  have hln : (l.drop p).length = n - p := by rw [List.length_drop, hs.len]
  unfold maxLen at cmax
  clear hs ne h'
  generalize tnVal (l.drop p) = V at *
  generalize tnSize (l.drop p) = S at *
  generalize tnErr (l.drop p) = E at *
  have hS : S ≤ 9 := hsz.2
  have hb1 : p + S ≤ 9223372036854775807 := by omega
  clear hsz hln hc'
  have HS := fun k => hide (step_any b p S E 0 (w.drewN k) c2 c3 f2 f3 hb1)
  rcases ha with ⟨g, rfl, hpc, rfl, rfl, rfl⟩ | ⟨g, rfl, rfl, rfl, rfl, rfl, rfl⟩ | ⟨rfl, rfl, rfl, rfl, rfl, rfl, rfl⟩
  all_goals
    go_enter Tryz.func144, Tryz.ntmps144
    go_wp2_with (go_at_call 150; go_in)
    go_quiet ((go_at_call 153; exact (HQ _).out))
    go_wp2_with fail
    refine (HS _).out.mono ?_
    rintro e w' ⟨rfl, rfl⟩
    clear HS HQ
    go_wp2
    go_ret
    first | exact ⟨rfl, _, rfl⟩ | exact ⟨rfl, nq, by rw [Nat.zero_add]; rfl⟩
theorem RSt.stepped {w : World} {b : Nat} {a : Option Addr} {n c : Nat} {l : List Int} {p : Nat} {e : Int} (h : RSt w b a n c l p e) (p' : Nat) (e' : Int) (k : Nat) (hp : p' ≤ n) :
    RSt (((w.setCell ⟨b, 2, none⟩ (.int .i64 (p' : Int))).setCell ⟨b, 3, none⟩ (.int .i64 e')).drewN k) b a n c l p' e' := by
  obtain ⟨hlt, c0, c1, c2, c3, f2, f3, hs, cmax, ne, hle⟩ := h
  refine ⟨?_, ?_, ?_, ?_, ?_, ?_, ?_, ((hs.far ne 2 _).far ne 3 _).later (below_drewN (Below.refl _ _) k), cmax, ne, hp⟩
  all_goals go_simp
theorem rd_number_err (b : Nat) (a : Option Addr) (n c : Nat) (l : List Int) (p : Nat) (E : Int) (w : World) (h : RSt w b a n c l p E) (hE : E ≠ 0) :
    Calls Tryz.prog 144 #[.pointer (some ⟨b, 0, none⟩)] w fun e w' => e = .returned (.int .u64 0) ∧ w' = w := by
  obtain ⟨hlt, c0, c1, c2, c3, f2, f3, hs, cmax, ne, hle⟩ := h
  have hb : (E == 0) = false := by simp [hE]
  clear hs ne
  go_enter Tryz.func144, Tryz.ntmps144
  go_wp2
  go_ret
  exact ⟨rfl, rfl⟩
theorem rd_at (b : Nat) (a : Option Addr) (n c : Nat) (l : List Int) (p : Nat) (E : Int) (w : World) (h : RSt w b a n c l p E) :
    Calls Tryz.prog 99 #[.pointer (some ⟨b, 0, none⟩)] w fun e w' => e = .returned (.int .i64 p) ∧ w' = w := by
  obtain ⟨hlt, c0, c1, c2, c3, f2, f3, hs, cmax, ne, hle⟩ := h
  clear hs ne
  go_enter Tryz.func99, Tryz.ntmps99
  go_wp2
  go_ret
  exact ⟨rfl, rfl⟩
theorem rd_left (b : Nat) (a : Option Addr) (n c : Nat) (l : List Int) (p : Nat) (E : Int) (w : World) (h : RSt w b a n c l p E) :
    Calls Tryz.prog 128 #[.pointer (some ⟨b, 0, none⟩)] w fun e w' => e = .returned (.int .i64 ((n - p : Nat) : Int)) ∧ ∃ k, w' = w.drewN k := by
  obtain ⟨hlt, c0, c1, c2, c3, f2, f3, hs, cmax, ne, hle⟩ := h
  have hcap := hs.cap
  unfold maxLen at cmax
  clear hs ne
  go_enter Tryz.func128, Tryz.ntmps128
  go_wp2
  go_quiet (fail)
  go_wp2
  go_ret
  exact ⟨ret_int (by omega), _, rfl⟩
def endErr (n p : Nat) (E : Int) : Int := if E = 0 then if p < n then 15 else 0 else E
set_option maxRecDepth 100000 in
theorem rd_end (b : Nat) (a : Option Addr) (n c : Nat) (l : List Int) (p : Nat) (E : Int) (w : World) (h : RSt w b a n c l p E) :
    Calls Tryz.prog 100 #[.pointer (some ⟨b, 0, none⟩)] w fun e w' => e = .returned (.int .i64 (endErr n p E)) ∧ ∃ k, w' = w.drewN k := by
  have HL := hide (rd_left b a n c l p E w h)
  obtain ⟨hlt, c0, c1, c2, c3, f2, f3, hs, cmax, ne, hle⟩ := h
  clear hs ne
  by_cases hE : E = 0
  · subst hE
    by_cases hp : p < n
    · have H : Hid (endErr n p 0 = 15) := by unfold endErr; rw [if_pos rfl, if_pos hp]; rfl
      go_enter Tryz.func100, Tryz.ntmps100
      go_wp2_with fail
      refine HL.out.mono ?_
      rintro e w' ⟨rfl, k, rfl⟩
      have hd : decide (0 < n - p) = true := by simp; omega
      go_wp2
      go_ret
      exact ⟨ret_int H.out.symm, _, rfl⟩
    · have H : Hid (endErr n p 0 = 0) := by unfold endErr; rw [if_pos rfl, if_neg hp]; rfl
      go_enter Tryz.func100, Tryz.ntmps100
      go_wp2_with fail
      refine HL.out.mono ?_
      rintro e w' ⟨rfl, k, rfl⟩
      have hd : decide (0 < n - p) = false := by simp; omega
      go_wp2
      go_ret
      exact ⟨ret_int H.out.symm, _, rfl⟩
  · have H : Hid (endErr n p E = E) := by unfold endErr; rw [if_neg hE]; rfl
    have hb : (E != 0) = true := by simp [hE]
    clear HL
    go_enter Tryz.func100, Tryz.ntmps100
    go_wp2
    go_ret
    exact ⟨ret_int H.out.symm, 0, rfl⟩
theorem clone_none (w : World) : Calls Tryz.prog 92 #[.slice none 0 0] w fun e w' => e = .returned (.slice none 0 0) ∧ w' = w := by
  have kn := fun (w : World) => Lib.run_eql_slice_nil (P := Tryz.prog) w 55 5 none 0 0 0 0 Tryz.underlying55
  go_enter Tryz.func92, Tryz.ntmps92
  go_wp2
  go_ret
  exact ⟨rfl, rfl⟩
theorem clone_hs (a : Option Addr) (n c : Nat) (l : List Int) (w : World) (h : Hs w a n c l) (hm : n ≤ 140737488355328) :
    Calls Tryz.prog 92 #[.slice a n c] w fun e w' => ∃ v', e = .returned v' ∧ Own w.heap.size w' v' l ∧ (a ≠ none → v' ≠ .slice none 0 0) ∧ Below w.heap.size w w' := by
  cases a with
  | none =>
    obtain ⟨rfl, rfl⟩ := h.nil rfl
    obtain rfl : 0 = n := h.len
    refine (clone_none w).mono ?_
    rintro e w' ⟨rfl, rfl⟩
    exact ⟨_, rfl, Own.nil _ _, fun h => absurd rfl h, Below.refl _ _⟩
  | some x =>
    refine (clone_any x n c l w (Nat.le_of_eq h.len.symm) hm (h.row x rfl)).mono ?_
    rintro e w' ⟨v', rfl, h1, h2, h3⟩
    rw [List.take_of_length_le (Nat.le_of_eq h.len)] at h1
    exact ⟨v', rfl, h1, fun _ => h2, h3⟩
theorem Own.place {B : Nat} {w : World} {v : Value} {l : List Int} (h : Own B w v l) (hb : ∀ z ∈ l, 0 ≤ z ∧ z < 256) : ∃ a n c, v = .slice a n c ∧ Hs w a n c l ∧ c ≤ maxLen ∧ ∀ x, a = some x → ∃ g, x = ⟨g, 0, none⟩ ∧ B ≤ g ∧ g < w.heap.size := by
  have hl := World.ownsRow.lt h
  obtain ⟨a, n, c, rfl, h2, _⟩ := h.hs hb
  refine ⟨a, n, c, rfl, h2, ?_, ?_⟩
  · rcases h.2 with ⟨h1, _⟩ | ⟨g, c, _, h1, _, _, _, h3, _⟩
    · cases h1; unfold maxLen; omega
    · cases h1; exact h3
  · intro x hx
    subst hx
    rcases h.2 with ⟨h1, _⟩ | ⟨g, c, _, h1, h3, _⟩
    · cases h1
    · cases h1
      exact ⟨g, rfl, h3, (hl g rfl).2⟩
set_option maxRecDepth 100000 in
theorem newreader_any (a : Option Addr) (n c : Nat) (l : List Int) (w : World) (h : Hs w a n c l) (hm : n ≤ 140737488355328) :
    Calls Tryz.prog 97 #[.slice a n c] w fun e w' => ∃ b a' c', e = .returned (.pointer (some ⟨b, 0, none⟩)) ∧ RSt w' b a' n c' l 0 0 ∧ w.heap.size ≤ b ∧ Below w.heap.size w w' := by
  have hby := h.byte
  have hln := h.len
  go_enter Tryz.func97, Tryz.ntmps97
  go_wp2_with fail
  refine (clone_hs a n c l w h hm).mono ?_
  clear h
  rintro e w1 ⟨v, rfl, ho, _, hb⟩
  obtain ⟨a', n', c', rfl, h2, h3, h4⟩ := ho.place hby
  have hnn : n' = n := by rw [← h2.len, hln]
  subst hnn
  clear ho hln
  go_wp2
  go_ret
  refine ⟨w1.heap.size, a', c', rfl, ⟨by simp, ?_, ?_, ?_, ?_, ?_, ?_, h2.later ((Below.refl _ _).alloc (Nat.le_refl _) _), h3, ?_, Nat.zero_le _⟩, hb.size, hb.alloc hb.size _⟩
  all_goals first | (intro x hx; obtain ⟨g, h5, h6, h7⟩ := h4 x hx; exact ⟨g, h5, by omega⟩) | simp
theorem conv_hs (w : World) (a : Option Addr) (n c : Nat) (l : List Int) (h : Hs w a n c l) :
    (convert 55 9 (.slice a n c)).run Tryz.prog w = .ok (.string (strOfNums l)) w := by
  cases a with
  | none =>
    rw [run_convert_bytes_nil w 55 5 Tryz.underlying55 Tryz.underlying5 n c 9 Tryz.underlying9, (h.nil rfl).1]
    rfl
  | some x =>
    by_cases hn : 0 < n
    · obtain ⟨b, o, rfl⟩ := h.flat hn
      exact conv_row w b o n c l h.len (h.row _ rfl)
    · obtain rfl : n = 0 := by omega
      obtain rfl : l = [] := List.eq_nil_of_length_eq_zero h.len
      rw [run_convert_bytes_string w 55 9 5 _ 0 c Tryz.underlying55 Tryz.underlying5 Tryz.underlying9, run_bytesToString w x 0 c [] (run_loadCells_list (P := Tryz.prog) w x [] (fun j v hj => by simp at hj))]
      rfl
theorem nums_eq (l m : List Int) (hl : ∀ z ∈ l, 0 ≤ z ∧ z < 256) (hm : ∀ z ∈ m, 0 ≤ z ∧ z < 256) : ((strOfNums l).toList == (strOfNums m).toList) = decide (l = m) := by
  by_cases h : l = m
  · subst h; simp
  · rw [decide_eq_false h, beq_eq_false_iff_ne]
    intro he
    apply h
    rw [ByteArray.toList_eq, ByteArray.toList_eq] at he
    have h2 : sb (strOfNums l) = sb (strOfNums m) := by unfold sb; rw [he]
    rwa [sb_nums l hl, sb_nums m hm] at h2
set_option maxHeartbeats 400000 in
theorem same_any (a a' : Option Addr) (n c n' c' : Nat) (l m : List Int) (w : World) (h : Hs w a n c l) (h' : Hs w a' n' c' m) :
    Calls Tryz.prog 18 #[.slice a n c, .slice a' n' c'] w fun e w' => e = .returned (.bool (decide (l = m))) ∧ w' = w := by
  have k1 := conv_hs w a n c l h
  have k2 := conv_hs w a' n' c' m h'
  have H := hide (nums_eq l m h.byte h'.byte)
  clear h h'
  go_enter Tryz.func18, Tryz.ntmps18
  go_wp2
  go_ret
  refine ⟨?_, rfl⟩
  rw [← H.out]
  rfl
def tcErr (m : Int) (l : List Int) : Int := if m < 0 then 3 else if tnErr l ≠ 0 then tnErr l else if m < (tnVal l : Int) then 11 else 0
def tcVal (m : Int) (l : List Int) : Nat := if tcErr m l = 0 then tnVal l else 0
def tcSize (m : Int) (l : List Int) : Nat := if tcErr m l = 0 then tnSize l else 0
theorem tc_bad {m : Int} {l : List Int} (h : tcErr m l ≠ 0) : tcVal m l = 0 ∧ tcSize m l = 0 := by unfold tcVal tcSize; rw [if_neg h, if_neg h]; exact ⟨rfl, rfl⟩
theorem ret3i {a b c : Int} {a' b' c' : Int} (h1 : a = a') (h2 : b = b') (h3 : c = c') : Ending.returned (.tuple #[.int .i64 a, .int .i64 b, .int .i64 c]) = .returned (.tuple #[.int .i64 a', .int .i64 b', .int .i64 c']) := by rw [h1, h2, h3]
def TcPost (m : Int) (l : List Int) (w : World) (e : Ending) (w' : World) : Prop := e = .returned (.tuple #[.int .i64 (tcVal m l), .int .i64 (tcSize m l), .int .i64 (tcErr m l)]) ∧ ∃ k, w' = w.drewN k
theorem TcPost.mk_bad {m : Int} {l : List Int} {w : World} {E : Int} (k : Nat) (h : tcErr m l = E) (hE : E ≠ 0) : TcPost m l w (.returned (.tuple #[.int .i64 0, .int .i64 0, .int .i64 E])) (w.drewN k) := by
  obtain ⟨h1, h2⟩ := tc_bad (m := m) (l := l) (by rw [h]; exact hE)
  exact ⟨ret3i (by rw [h1]; rfl) (by rw [h2]; rfl) h.symm, k, rfl⟩
set_option maxRecDepth 100000 in
theorem tc_any (a : Option Addr) (n c : Nat) (l : List Int) (m : Int) (w : World) (h : Hs w a n c l) (hm : c ≤ maxLen) (q : m ≤ 9223372036854775807) :
    Calls Tryz.prog 151 #[.slice a n c, .int .i64 m] w fun e w' => TcPost m l w e w' := by
  by_cases hm0 : m < 0
  · have H : Hid (tcErr m l = 3) := by unfold tcErr; rw [if_pos hm0]; rfl
    go_enter Tryz.func151, Tryz.ntmps151
    go_wp2
    go_ret3
    exact TcPost.mk_bad 0 H.out (by decide)
  · obtain ⟨q0, rfl⟩ := Int.eq_ofNat_of_zero_le (Int.not_lt.1 hm0)
    have HT := hide (tn_any a n c l w h hm)
    clear h hm0
    by_cases hE : tnErr l = 0
    · by_cases hV : q0 < tnVal l
      · have H : Hid (tcErr q0 l = 11) := by unfold tcErr; rw [if_neg (by omega), if_neg (by simp [hE]), if_pos (by omega)]; rfl
        go_enter Tryz.func151, Tryz.ntmps151
        go_wp2_with fail
        refine HT.out.mono ?_
        rintro e w' ⟨rfl, k, rfl⟩
        rw [hE]
        clear HT hE
        generalize tnVal l = V at *
        generalize tnSize l = S at *
        go_wp2
        go_ret3
        exact TcPost.mk_bad k H.out (by decide)
      · have H : Hid (tcErr q0 l = 0) := by unfold tcErr; rw [if_neg (by omega), if_neg (by simp [hE]), if_neg (by omega)]; rfl
        have H1 : Hid (tcVal q0 l = tnVal l) := by unfold tcVal; rw [if_pos H.out]; rfl
        have H2 : Hid (tcSize q0 l = tnSize l) := by unfold tcSize; rw [if_pos H.out]; rfl
        go_enter Tryz.func151, Tryz.ntmps151
        go_wp2_with fail
        refine HT.out.mono ?_
        rintro e w' ⟨rfl, k, rfl⟩
        rw [hE]
        clear HT hE
        generalize tnVal l = V at *
        generalize tnSize l = S at *
        go_wp2
        go_ret3
        exact ⟨ret3i (by rw [H1.out]) (by rw [H2.out]) (by rw [H.out]), k, rfl⟩
    · have H : Hid (tcErr q0 l = tnErr l) := by unfold tcErr; rw [if_neg (by omega), if_pos hE]; rfl
      have hb : (tnErr l != 0) = true := by simp [hE]
      go_enter Tryz.func151, Tryz.ntmps151
      go_wp2_with fail
      refine HT.out.mono ?_
      rintro e w' ⟨rfl, k, rfl⟩
      clear HT
      generalize tnVal l = V at *
      generalize tnSize l = S at *
      generalize tnErr l = E at *
      go_wp2
      go_ret3
      exact TcPost.mk_bad k H.out hE
theorem Hs.cut {w : World} {a : Option Addr} {n c : Nat} {l : List Int} (h : Hs w a n c l) (k : Nat) (hk : k ≤ n) : Hs w a k c (l.take k) :=
  ⟨by rw [List.length_take, h.len]; omega, Nat.le_trans hk h.cap, fun x hx => (h.row x hx).take k, fun hx => by (have := h.nil hx; rw [this.1]; exact ⟨by simp, this.2⟩), fun z hz => h.byte z (List.mem_of_mem_take hz)⟩
theorem Own.base {B B' : Nat} {w : World} {v : Value} {l : List Int} (h : Own B w v l) (hB : B' ≤ B) : Own B' w v l := by
  refine ⟨h.1, ?_⟩
  rcases h.2 with h2 | ⟨g, c, cur, h1, h2, r⟩
  · exact Or.inl h2
  · exact Or.inr ⟨g, c, cur, h1, Nat.le_trans hB h2, r⟩
theorem Own.stored {B : Nat} {w : World} {g n c : Nat} {l : List Int} (h : Own B w (.slice (some ⟨g, 0, none⟩) n c) l) (k : Nat) (z : Int) : Own B (w.setCell ⟨g, k, none⟩ (.int .u8 z)) (.slice (some ⟨g, 0, none⟩) n c) (l.set k z) := by
  have hn : n = l.length := by
    rcases h.2 with ⟨h1, _⟩ | ⟨_, _, _, h1, _⟩
    · cases h1
    · cases h1; rfl
  subst hn
  have := (World.ownsRow.stored h k (.int .u8 z)).1
  unfold Own
  rw [List.length_set, show bs (l.set k z) = (bs l).set k (.int .u8 z) from by simp [bs, List.map_set]]
  exact this
theorem i64_wf {a : Int} (h : (Lit.int .i64 a).wf = true) : -9223372036854775808 ≤ a ∧ a ≤ 9223372036854775807 := by
  simp [Lit.wf, IntKind.min, IntKind.max, IntKind.bits, IntKind.signed] at h
  omega
def ttErr (m : Int) (l : List Int) : Int := if tcErr m l ≠ 0 then tcErr m l else if l.length < tcSize m l + tcVal m l then 10 else 0
def ttList (m : Int) (l : List Int) : List Int := if ttErr m l = 0 then (l.drop (tcSize m l)).take (tcVal m l) else []
def ttSize (m : Int) (l : List Int) : Nat := if ttErr m l = 0 then tcSize m l + tcVal m l else 0
theorem tt_bad {m : Int} {l : List Int} (h : ttErr m l ≠ 0) : ttList m l = [] ∧ ttSize m l = 0 := by unfold ttList ttSize; rw [if_neg h, if_neg h]; exact ⟨rfl, rfl⟩
theorem ret3s {a a' : ByteArray} {b c : Int} {b' c' : Int} (h1 : a = a') (h2 : b = b') (h3 : c = c') : Ending.returned (.tuple #[.string a, .int .i64 b, .int .i64 c]) = .returned (.tuple #[.string a', .int .i64 b', .int .i64 c']) := by rw [h1, h2, h3]
def TtPost (m : Int) (l : List Int) (w : World) (e : Ending) (w' : World) : Prop := e = .returned (.tuple #[.string (strOfNums (ttList m l)), .int .i64 (ttSize m l), .int .i64 (ttErr m l)]) ∧ ∃ k, w' = w.drewN k
theorem TtPost.mk_bad {m : Int} {l : List Int} {w : World} {E : Int} (k : Nat) (h : ttErr m l = E) (hE : E ≠ 0) : TtPost m l w (.returned (.tuple #[.string (strOfNums []), .int .i64 0, .int .i64 E])) (w.drewN k) := by
  obtain ⟨h1, h2⟩ := tt_bad (m := m) (l := l) (by rw [h]; exact hE)
  exact ⟨ret3s (by rw [h1]) (by rw [h2]; rfl) h.symm, k, rfl⟩
theorem Hs.rest' {w : World} {g o n c : Nat} {l : List Int} (h : Hs w (some ⟨g, o, none⟩) n c l) (p : Nat) (hp : p ≤ n) : Hs w (some ⟨g, o + p, none⟩) (n - p) (c - p) (l.drop p) := by
  refine ⟨by rw [List.length_drop, h.len], by have := h.cap; omega, fun x hx => ?_, fun hx => by (cases hx), fun z hz => h.byte z (List.mem_of_mem_drop hz)⟩
  cases hx
  exact (h.row _ rfl).drop p
theorem tcSize_le (m : Int) (l : List Int) (h : ∀ z ∈ l, 0 ≤ z ∧ z < 256) : tcSize m l ≤ l.length ∧ tcSize m l ≤ 9 := by
  have := tnSize_le l h
  unfold tcSize
  split <;> omega
theorem tcVal_le (m : Int) (l : List Int) (hm : m ≤ 9223372036854775807) : (tcVal m l : Int) ≤ 9223372036854775807 := by
  by_cases h : tcErr m l = 0
  · have h2 : tcVal m l = tnVal l := by unfold tcVal; rw [if_pos h]
    rw [h2]
    unfold tcErr at h
    split at h
    · cases h
    · split at h
      · rename_i h3; exact absurd h h3
      · split at h
        · cases h
        · omega
  · rw [(tc_bad h).1]; decide
set_option maxRecDepth 100000 in
set_option maxHeartbeats 400000 in
theorem tt_any (a : Option Addr) (n c : Nat) (l : List Int) (m : Int) (w : World) (h : Hs w a n c l) (hm : c ≤ maxLen) (q : m ≤ 9223372036854775807) :
    Calls Tryz.prog 154 #[.slice a n c, .int .i64 m] w fun e w' => TtPost m l w e w' := by
  have HT := hide (tc_any a n c l m w h hm q)
  have hln := h.len
  have hcap := h.cap
  have hsz := tcSize_le m l h.byte
  have hvl := tcVal_le m l q
  unfold maxLen at hm
  by_cases hE : tcErr m l = 0
  · by_cases hS : l.length < tcSize m l + tcVal m l
    · have H : Hid (ttErr m l = 10) := by unfold ttErr; rw [if_neg (by simp [hE]), if_pos hS]; rfl
      rw [hln] at hS hsz
      clear h
      go_enter Tryz.func154, Tryz.ntmps154
      go_wp2_with fail
      refine HT.out.mono ?_
      rintro e w' ⟨rfl, k, rfl⟩
      rw [hE]
      clear HT hE hln
      generalize tcVal m l = V at *
      generalize tcSize m l = S at *
      obtain ⟨hs1, hs2⟩ := hsz
      have hlt : (n : Int) - (S : Int) < (V : Int) := by omega
      go_wp2
      go_ret3
      exact TtPost.mk_bad k H.out (by decide)
    · have H : Hid (ttErr m l = 0) := by unfold ttErr; rw [if_neg (by simp [hE]), if_neg hS]; rfl
      have H1 : Hid (ttList m l = (l.drop (tcSize m l)).take (tcVal m l)) := by unfold ttList; rw [if_pos H.out]; rfl
      have H2 : Hid (ttSize m l = tcSize m l + tcVal m l) := by unfold ttSize; rw [if_pos H.out]; rfl
      have hne : 0 < n := by
        rw [← hln]
        refine List.length_pos_iff.2 ?_
        rintro rfl
        unfold tcErr at hE
        split at hE
        · cases hE
        · simp [tnErr] at hE
      cases a with
      | none => rw [(h.nil rfl).1] at hln; simp at hln; omega
      | some x =>
      obtain ⟨b, o, rfl⟩ := h.flat hne
      rw [hln] at hS hsz
      obtain ⟨hs1, hs2⟩ := hsz
      have hR := (h.rest' (tcSize m l) hs1).cut (tcVal m l) (by omega)
      rw [← H1.out] at hR
      by_cases hSc : tcSize m l < c
      · have kc := fun j => conv_hs (w.drewN j) _ _ _ _ (hR.later (below_drewN (Below.refl _ _) j))
        clear h hR hln hne
        go_enter Tryz.func154, Tryz.ntmps154
        go_wp2_with fail
        refine HT.out.mono ?_
        rintro e w' ⟨rfl, k, rfl⟩
        rw [hE]
        clear HT hE H1
        generalize tcVal m l = V at *
        generalize tcSize m l = S at *
        generalize hL : ttList m l = L at *
        have hge : ¬ ((n : Int) - (S : Int) < (V : Int)) := by omega
        go_wp2
        go_ret3
        exact ⟨ret3s (by rw [hL]) (by rw [H2.out]; omega) (by rw [H.out]), k, rfl⟩
      · have e1 : n = c := by omega
        have e2 : tcSize m l = c := by omega
        have e3 : tcVal m l = 0 := by omega
        have eL : ttList m l = [] := by rw [H1.out, e3]; rfl
        have hZ : Hs w (some ⟨b, o, none⟩) 0 0 [] := ⟨rfl, Nat.le_refl _, fun x hx i hi => by (simp at hi), fun hx => by (cases hx), fun z hz => by (cases hz)⟩
        have kc := fun j => conv_hs (w.drewN j) _ _ _ _ (hZ.later (below_drewN (Below.refl _ _) j))
        have hsz2 : ttSize m l = c := by rw [H2.out, e2, e3, Nat.add_zero]
        have HSZ := hide hsz2
        have HEL := hide eL
        clear h hR hln H1 H2 hS hSc hs1 hZ eL hsz2
        rw [e2] at hs2
        subst e1
        go_enter Tryz.func154, Tryz.ntmps154
        go_wp2_with fail
        refine HT.out.mono ?_
        rintro e w' ⟨rfl, k, rfl⟩
        rw [hE, e2, e3]
        clear HT hE e2 e3 hvl
        go_wp2
        go_ret3
        exact ⟨ret3s (by rw [HEL.out]) (by rw [HSZ.out]) (by rw [H.out]), k, rfl⟩
  · have H : Hid (ttErr m l = tcErr m l) := by unfold ttErr; rw [if_pos hE]; rfl
    have hb : (tcErr m l != 0) = true := by simp [hE]
    clear h
    go_enter Tryz.func154, Tryz.ntmps154
    go_wp2_with fail
    refine HT.out.mono ?_
    rintro e w' ⟨rfl, k, rfl⟩
    clear HT
    generalize tcVal m l = V at *
    generalize tcSize m l = S at *
    generalize tcErr m l = E at *
    go_wp2
    go_ret3
    exact TtPost.mk_bad k H.out hE
end Go.Proofs.YtjfbkeommlopmaaGreatDoor.Wi
namespace Go.Proofs.YtjfbkeommlopmaaGreatDoor.Wi
open Go.RowKit Go.ChangeShapes Go.WideShapes
set_option linter.unusedVariables false
theorem intCells : Tryz.prog.cellsOf 3 = 1 := by kernel_rfl
theorem u64Cells : Tryz.prog.cellsOf 31 = 1 := by kernel_rfl
theorem strCells : Tryz.prog.cellsOf 9 = 1 := by kernel_rfl
end Go.Proofs.YtjfbkeommlopmaaGreatDoor.Wi
namespace Go.Proofs.YtjfbkeommlopmaaGreatDoor.Wi
open Go.RowKit
set_option linter.unusedVariables false
end Go.Proofs.YtjfbkeommlopmaaGreatDoor.Wi
namespace Go.Proofs.YtjfbkeommlopmaaGreatDoor.Wi
open Go.RowKit
set_option linter.unusedVariables false
set_option linter.unusedSimpArgs false
theorem Own.low {B B' : Nat} {w : World} {v : Value} {l : List Int} (h : Own B w v l) (hb : B' ≤ B) : Own B' w v l := by
  obtain ⟨h1, h2⟩ := h
  refine ⟨h1, ?_⟩
  rcases h2 with h2 | ⟨g, cap, cur, e1, e2, r⟩
  · exact .inl h2
  · exact .inr ⟨g, cap, cur, e1, Nat.le_trans hb e2, r⟩
theorem rb_from (r : List Int) : ∀ v : Nat, r.foldl (fun v z => v * 256 + z.toNat) v = v * 256 ^ r.length + M.rb r := by
  induction r with
  | nil => intro v; simp [M.rb]
  | cons z r ih =>
    intro v
    have h1 := ih (v * 256 + z.toNat)
    have h2 := ih (0 * 256 + z.toNat)
    simp only [List.foldl_cons, List.length_cons, M.rb] at h1 h2 ⊢
    rw [h1, h2, Nat.pow_succ, Nat.add_mul, Nat.zero_mul, Nat.zero_add, Nat.mul_assoc, Nat.mul_comm 256]
    omega
theorem rb_cons (z : Int) (r : List Int) : M.rb (z :: r) = z.toNat * 256 ^ r.length + M.rb r := by
  have := rb_from r (0 * 256 + z.toNat)
  rw [Nat.zero_mul, Nat.zero_add] at this
  show (z :: r).foldl _ 0 = _
  rw [List.foldl_cons, Nat.zero_mul, Nat.zero_add]
  exact this
theorem form_round {v u : Nat} {ds : List Int} (h : v = u * 256 ^ ds.length + M.rb ds) : v = u / 256 * 256 ^ (((u % 256 : Nat) : Int) :: ds).length + M.rb (((u % 256 : Nat) : Int) :: ds) := by
  rw [rb_cons, List.length_cons, Nat.pow_succ, Int.toNat_natCast]
  have := Nat.div_add_mod u 256
  rw [h]
  conv => lhs; rw [← this]
  rw [Nat.add_mul, Nat.mul_comm 256 (u / 256), Nat.mul_assoc, Nat.mul_comm (256 ^ ds.length) 256, Nat.add_assoc]
theorem form_len {v u : Nat} {ds : List Int} (hv : v < 2 ^ 64) (h : v = u * 256 ^ ds.length + M.rb ds) (hu : 0 < u) : ds.length < 8 := by
  refine Nat.lt_of_not_le fun h8 => ?_
  have h1 : 256 ^ 8 ≤ 256 ^ ds.length := Nat.pow_le_pow_right (by decide) h8
  have h2 : 256 ^ ds.length ≤ u * 256 ^ ds.length := Nat.le_mul_of_pos_left _ hu
  have h3 : (256 : Nat) ^ 8 = 2 ^ 64 := by decide
  omega
set_option maxRecDepth 100000 in
set_option maxHeartbeats 1000000 in
theorem refform_any (v : Nat) (hv : v < 2 ^ 64) (w : World) :
    Calls Tryz.prog 94 #[.int .u64 v] w fun e w' => ∃ v', e = .returned v' ∧ Own w.heap.size w' v' (M.form v) ∧ v' ≠ .slice none 0 0 ∧ Below w.heap.size w w' := by
  go_enter Tryz.func94, Tryz.ntmps94
  go_wp2_with fail
  go_loopw [0, 3] (fun x b wr => ∃ (u : Nat) (ds : List Int), x = .int .u64 (u : Int) ∧ Own w.heap.size wr b ds ∧ (∀ z ∈ ds, 0 ≤ z ∧ z < 256) ∧ v = u * 256 ^ ds.length + M.rb ds ∧ (u = 0 → 0 < ds.length → ds.getD 0 0 ≠ 0) ∧ ds.length ≤ 8 ∧ Below w.heap.size w wr) (fun x _ _ => (intOf x).toNat)
  case atStart => exact ⟨v, [], rfl, Own.nil _ _, by simp, by simp [M.rb], by simp, by simp, Below.refl _ _⟩
  case round =>
    obtain ⟨u, ds, rfl, hO, hd, hvv, hf, hl8, hB⟩ := hrel
    obtain ⟨g, n, c, hb, hs, _⟩ := hO.hs hd
    subst hb
    have hn := hs.len
    have HS := hide hs
    have HO := hide hO
    have HD := hide hd
    have HV := hide hvv
    have HF := hide hf
    have HB := hide hB
    have hz := hB.size
    clear hO hd hvv hf hB hs
    by_cases hu : 0 < u
    · have hlen := form_len hv HV.out hu
      have hu' : (0 : Int) < (u : Int) := by omega
      have O1 : Own w.heap.size (wr.alloc (.cells #[.int .u8 ((u : Int) % 256)] 5)) (.slice (some ⟨wr.heap.size, 0, none⟩) 1 1) [((u % 256 : Nat) : Int)] := (own_built wr #[.int .u8 ((u : Int) % 256)] 1 [((u % 256 : Nat) : Int)] rfl (by simp [bs]) (by unfold maxLen; omega)).low hz
      have HO1 := hide O1
      have HS1 := hide (HS.out.later ((Below.refl wr.heap.size wr).alloc (Nat.le_refl _) (.cells #[.int .u8 ((u : Int) % 256)] 5)))
      have HB1 := hide (HB.out.alloc hz (.cells #[.int .u8 ((u : Int) % 256)] 5))
      clear O1
      go_wp2_with (at_builtin; go_must (refine app_hs _ rfl (.tmp 9) (.tmp 10) rfl w.heap.size [((u % 256 : Nat) : Int)] _ rfl g n c rfl ds HS1.out HO1.out (by simp; omega) (by simp; omega) ?_))
      intro v2 w2 o2 k2 g2
      have b2 : Below w.heap.size w w2 := HO1.out.grown HB1.out g2 (by simp; omega)
      have hdv : (u : Int).tdiv 256 = (u : Int) / 256 := Int.tdiv_eq_ediv_of_nonneg (by omega)
      have huv : u ≤ v := by
        have h1 := HV.out
        have h2 : u ≤ u * 256 ^ ds.length := Nat.le_mul_of_pos_right _ (Nat.pow_pos (by decide))
        omega
      have hwr : IntKind.wrap .u64 ((u : Int) / 256) = (u : Int) / 256 := by
        unfold IntKind.wrap
        simp [IntKind.bits, IntKind.signed]
        omega
      have O2 := hide o2
      have B2 := hide b2
      clear o2 b2 k2 g2 HO1 HS1 HB1 HS HO HB
      go_wp2
      go_round
      case rel =>
        refine ⟨u / 256, ((u % 256 : Nat) : Int) :: ds, by go_num, O2.out, ?_, form_round HV.out, ?_, by simp; omega, B2.out⟩
        · intro z hz
          rcases List.mem_cons.1 hz with rfl | hz
          · omega
          · exact HD.out z hz
        · intro h0 _
          simp
          omega
      case measure => simp [intOf]; omega
    · obtain rfl : u = 0 := by omega
      have hds : v = M.rb ds := by have := HV.out; rw [Nat.zero_mul, Nat.zero_add] at this; exact this
      have HFm : Hid (M.form v = (ds.length : Int) :: ds) := by
        show _ = _
        rw [hds]
        exact form_rb ds HD.out (fun h => HF.out rfl h)
      have hn8 : n ≤ 8 := by omega
      have O1 : Own w.heap.size (wr.alloc (.cells #[.int .u8 (n : Int)] 5)) (.slice (some ⟨wr.heap.size, 0, none⟩) 1 1) [(n : Int)] := (own_built wr #[.int .u8 (n : Int)] 1 [(n : Int)] rfl (by simp [bs]) (by unfold maxLen; omega)).low hz
      have HO1 := hide O1
      have HS1 := hide (HS.out.later ((Below.refl wr.heap.size wr).alloc (Nat.le_refl _) (.cells #[.int .u8 (n : Int)] 5)))
      have HB1 := hide (HB.out.alloc hz (.cells #[.int .u8 (n : Int)] 5))
      have hwn : IntKind.wrap .u8 (n : Int) = (n : Int) := by
        unfold IntKind.wrap
        simp [IntKind.bits, IntKind.signed]
        omega
      clear O1
      go_wp2_with (at_builtin; go_must (refine app_hs _ rfl (.tmp 17) (.tmp 18) rfl w.heap.size [(n : Int)] _ rfl g n c rfl ds HS1.out HO1.out (by simp; omega) (by simp; omega) ?_))
      intro v2 w2 o2 k2 g2
      have b2 : Below w.heap.size w w2 := HO1.out.grown HB1.out g2 (by simp; omega)
      have hk := k2 (.inl (by intro h; cases h))
      have O2 := hide o2
      have B2 := hide b2
      clear o2 b2 k2 g2 HO1 HS1 HB1 HS HO HB
      go_wp2
      go_ret
      refine ⟨_, rfl, ?_, hk, B2.out⟩
      rw [HFm.out, hn]
      exact O2.out
end Go.Proofs.YtjfbkeommlopmaaGreatDoor.Wi
namespace Go.Proofs.YtjfbkeommlopmaaGreatDoor.Wi
open Go.RowKit
set_option linter.unusedVariables false
set_option linter.unusedSimpArgs false
theorem bel_bytes (W : World) (s : ByteArray) : Below W.heap.size W (Lib.bytesWorld W 5 s) :=
  ⟨rfl, rfl, rfl, by rw [Lib.bytesWorld_size]; omega, fun k hk => Lib.bytesWorld_at_old W _ s k hk⟩
theorem row_bytes (W : World) (s : ByteArray) : Row (Lib.bytesWorld W 5 s) ⟨W.heap.size, 0, none⟩ (sb s) := fun j hj => by
  rw [sb_length] at hj
  rw [Addr.add_lit, Nat.zero_add, Lib.bytesWorld_cell W _ s j hj]
  have h2 : j < s.data.toList.length := by simpa using hj
  simp [sb, List.getD]
  cases s.data[j]? <;> rfl
end Go.Proofs.YtjfbkeommlopmaaGreatDoor.Wi
namespace Go.Proofs.YtjfbkeommlopmaaGreatDoor.Wi
open Go.RowKit
set_option linter.unusedVariables false
set_option linter.unusedSimpArgs false
theorem Puts.take {w : World} {a : Option Addr} {P : List Pt} (h : Puts w a P) (k : Nat) : Puts w a (P.take k) := fun i hi => by
  have hi' : i < P.length := by rw [List.length_take] at hi; omega
  have e : (P.take k)[i] = P[i] := List.getElem_take
  rw [e]
  exact h i hi'
end Go.Proofs.YtjfbkeommlopmaaGreatDoor.Wi
namespace Go.Proofs.YtjfbkeommlopmaaGreatDoor
open Go.RowKit Go.Maps
open Classical
set_option linter.unusedVariables false
set_option linter.unusedSimpArgs false
theorem enF_ck {e : En} (h : ckE e = 0) (hf : e.fits) : enF e := by
  have hn := (i64_wf hf.nw).2
  unfold ckE at h
  split at h
  · omega
  · split at h
    · omega
    · unfold ck at h
      refine ⟨by omega, by omega, by omega, hn, ?_⟩
      repeat' split at h
      all_goals first | omega | skip
      all_goals refine ⟨by omega, by omega, by omega, by omega, ?_⟩
      all_goals first | omega | (split at * <;> omega)
theorem enF_z : enF zEn := ⟨by decide, by decide, by decide, by decide, by decide, by decide, by decide, by decide, by decide⟩
theorem enF_nm {e : En} (h : nmB e = true) (hf : e.fits) : enF e := by
  rw [nmB_en e 2 (Or.inl rfl)] at h
  unfold enK at h
  rw [if_pos (Or.inl rfl)] at h
  simp only [Bool.and_eq_true, decide_eq_true_eq] at h
  obtain ⟨a, b, c, d, e1, f⟩ := h
  have hn := (i64_wf hf.nw).2
  refine ⟨a, by omega, by omega, hn, by omega, by omega, by omega, by omega, ?_⟩
  rw [f]
  decide
def rsF (r : Int × Int × ByteArray) : Prop := 0 ≤ r.1 ∧ r.1 ≤ 9223372036854775807 ∧ 0 ≤ r.2.1 ∧ r.2.1 ≤ 9223372036854775807 ∧ r.2.2.size ≤ 64
theorem rsF_res {r : Int × Int × ByteArray} (h : resB r.1 r.2.1 r.2.2 = true) : rsF r := by
  unfold resB inR noV at h
  unfold rsF
  split at h
  · simp only [Bool.and_eq_true, decide_eq_true_eq] at h; omega
  · split at h
    · simp only [Bool.and_eq_true, decide_eq_true_eq] at h
      rw [h.2]
      refine ⟨by omega, by omega, by omega, by omega, by decide⟩
    · split at h
      · simp only [Bool.and_eq_true, decide_eq_true_eq] at h
        rw [h.2]
        refine ⟨by omega, by omega, by omega, by omega, by decide⟩
      · split at h
        · simp only [Bool.and_eq_true, decide_eq_true_eq] at h
          rw [h.2]
          refine ⟨by omega, by omega, by omega, by omega, by decide⟩
        · cases h
theorem lg_ok {L : List En} {r : Int} (h : lg L r = 0) : ∀ e ∈ L, ckE e = 0 := by
  unfold lg at h
  by_cases hr : r < L.length
  · rw [if_pos hr] at h; omega
  · rw [if_neg hr] at h
    have hz := lgA_zero L.length L 0 (by omega) (by simpa using h)
    intro e he
    obtain ⟨i, hi⟩ := List.getElem?_of_mem he
    have := hz i e (Nat.zero_le _) hi
    unfold er at this
    by_cases h0 : ckE e ≠ 0
    · rw [if_pos h0] at this; exact absurd this h0
    · omega
theorem pl_es {f r : Int} {m : Mg} {L : List En} (hr1 : 1 ≤ r) (hr2 : r ≤ 256) (h : plB f r m L = true) (hL : ∀ e ∈ L, e.fits) : ∀ e ∈ L, enF e := by
  unfold plB at h
  rw [Bool.or_eq_true] at h
  rcases h with h | h
  · have e := List.length_eq_zero_iff.1 (of_decide_eq_true h); rw [e]; intro e he; cases he
  · exact fun e he => enF_ck (lg_ok (by rw [← chk_lg hr1 hr2]; exact of_decide_eq_true (Bool.and_eq_true_iff.1 h).2) e he) (hL e he)
theorem pl_len {f r : Int} {m : Mg} {L : List En} (hr1 : 1 ≤ r) (hr2 : r ≤ 256) (h : plB f r m L = true) : L.length ≤ 256 := by
  unfold plB at h
  rw [Bool.or_eq_true] at h
  rcases h with h | h
  · have := of_decide_eq_true h; omega
  · have := lg_len (L := L) (r := r) (by rw [← chk_lg hr1 hr2]; exact of_decide_eq_true (Bool.and_eq_true_iff.1 h).2); omega
theorem inR_iff {x a b : Int} : inR x a b = true ↔ a ≤ x ∧ x ≤ b := by
  unfold inR
  rw [Bool.and_eq_true, decide_eq_true_eq, decide_eq_true_eq]
theorem mgF_1 {f r : Int} {m : Mg} {L : List En} {D : List (Int × Int)} (hk : m.k = 1) (hf1 : 1 ≤ f) (hf2 : f ≤ 3) (hr1 : 1 ≤ r) (hr2 : r ≤ 256) (hf : m.e.fits) (hL : ∀ e ∈ L, e.fits) (hd : drF m.d) (hD : ∀ d ∈ D, drF d) (hlen : (L.length : Int) ≤ 9223372036854775807) (H : ∀ j, j < 10 → keepB f r m L D j (tabA 1 j) = true) : mgF m L D := by
  have h0 : keepB f r m L D 0 0 = true := H 0 (by decide)
  have h1 : keepB f r m L D 1 0 = true := H 1 (by decide)
  have h2 : keepB f r m L D 2 0 = true := H 2 (by decide)
  have h3 : keepB f r m L D 3 0 = true := H 3 (by decide)
  have h4 : keepB f r m L D 4 0 = true := H 4 (by decide)
  have h5 : keepB f r m L D 5 0 = true := H 5 (by decide)
  have h6 : keepB f r m L D 6 13 = true := H 6 (by decide)
  have h7 : keepB f r m L D 7 0 = true := H 7 (by decide)
  have h8 : keepB f r m L D 8 0 = true := H 8 (by decide)
  have h9 : keepB f r m L D 9 0 = true := H 9 (by decide)
  clear H
  have g1 : m.vw = 0 := of_decide_eq_true h1
  have g0 : m.nd = 0 := of_decide_eq_true h0
  have g2 : m.ls = 0 := of_decide_eq_true h2
  have g3 : m.p = 0 := of_decide_eq_true h3
  have g4 : m.cm = 0 := of_decide_eq_true h4
  have T : m.vw < 0 ∨ (0 ≤ m.vw.tmod (2 * f + 1) ∧ m.vw.tmod (2 * f + 1) < 2 * f + 1) := by
    by_cases h : m.vw < 0
    · exact .inl h
    · exact .inr (tmod_in (by omega) (by omega))
  exact ⟨by omega, by omega, by omega, by omega, by omega, by omega, hd, (enF_ck (by rw [← chk_one]; exact of_decide_eq_true h6) hf), (by have := of_decide_eq_true h7; rw [this]; exact ⟨by decide, by decide, by decide, by decide, by decide⟩), (by have := of_decide_eq_true h8; have e := List.length_eq_zero_iff.1 this; rw [e]; intro e he; cases he), (by have := of_decide_eq_true h8; omega), hD, (by have := of_decide_eq_true h9; omega)⟩
theorem mgF_2 {f r : Int} {m : Mg} {L : List En} {D : List (Int × Int)} (hk : m.k = 2) (hf1 : 1 ≤ f) (hf2 : f ≤ 3) (hr1 : 1 ≤ r) (hr2 : r ≤ 256) (hf : m.e.fits) (hL : ∀ e ∈ L, e.fits) (hd : drF m.d) (hD : ∀ d ∈ D, drF d) (hlen : (L.length : Int) ≤ 9223372036854775807) (H : ∀ j, j < 10 → keepB f r m L D j (tabA 2 j) = true) : mgF m L D := by
  have h0 : keepB f r m L D 0 1 = true := H 0 (by decide)
  have h1 : keepB f r m L D 1 3 = true := H 1 (by decide)
  have h2 : keepB f r m L D 2 0 = true := H 2 (by decide)
  have h3 : keepB f r m L D 3 8 = true := H 3 (by decide)
  have h4 : keepB f r m L D 4 0 = true := H 4 (by decide)
  have h5 : keepB f r m L D 5 0 = true := H 5 (by decide)
  have h6 : keepB f r m L D 6 15 = true := H 6 (by decide)
  have h7 : keepB f r m L D 7 16 = true := H 7 (by decide)
  have h8 : keepB f r m L D 8 0 = true := H 8 (by decide)
  have h9 : keepB f r m L D 9 0 = true := H 9 (by decide)
  clear H
  have g1 := inR_iff.1 h1
  have g0 := inR_iff.1 h0
  have g2 : m.ls = 0 := of_decide_eq_true h2
  have g3 : (m.r.1 = 7 ∧ m.p = 0) ∨ (¬ m.r.1 = 7 ∧ 1 ≤ m.p ∧ m.p ≤ r) := by rw [← apB_iff]; exact h3
  have g4 : m.cm = 0 := of_decide_eq_true h4
  have T : m.vw < 0 ∨ (0 ≤ m.vw.tmod (2 * f + 1) ∧ m.vw.tmod (2 * f + 1) < 2 * f + 1) := by
    by_cases h : m.vw < 0
    · exact .inl h
    · exact .inr (tmod_in (by omega) (by omega))
  exact ⟨by omega, by omega, by omega, by omega, by omega, by omega, hd, (enF_nm h6 hf), (rsF_res h7), (by have := of_decide_eq_true h8; have e := List.length_eq_zero_iff.1 this; rw [e]; intro e he; cases he), (by have := of_decide_eq_true h8; omega), hD, (by have := of_decide_eq_true h9; omega)⟩
theorem mgF_3 {f r : Int} {m : Mg} {L : List En} {D : List (Int × Int)} (hk : m.k = 3) (hf1 : 1 ≤ f) (hf2 : f ≤ 3) (hr1 : 1 ≤ r) (hr2 : r ≤ 256) (hf : m.e.fits) (hL : ∀ e ∈ L, e.fits) (hd : drF m.d) (hD : ∀ d ∈ D, drF d) (hlen : (L.length : Int) ≤ 9223372036854775807) (H : ∀ j, j < 10 → keepB f r m L D j (tabA 3 j) = true) : mgF m L D := by
  have h0 : keepB f r m L D 0 2 = true := H 0 (by decide)
  have h1 : keepB f r m L D 1 3 = true := H 1 (by decide)
  have h2 : keepB f r m L D 2 0 = true := H 2 (by decide)
  have h3 : keepB f r m L D 3 7 = true := H 3 (by decide)
  have h4 : keepB f r m L D 4 9 = true := H 4 (by decide)
  have h5 : keepB f r m L D 5 0 = true := H 5 (by decide)
  have h6 : keepB f r m L D 6 13 = true := H 6 (by decide)
  have h7 : keepB f r m L D 7 0 = true := H 7 (by decide)
  have h8 : keepB f r m L D 8 0 = true := H 8 (by decide)
  have h9 : keepB f r m L D 9 20 = true := H 9 (by decide)
  clear H
  have g1 := inR_iff.1 h1
  have g0 : m.nd = m.vw.tmod (2 * f + 1) := of_decide_eq_true h0
  have g2 : m.ls = 0 := of_decide_eq_true h2
  have g3 := inR_iff.1 h3
  have g4 := inR_iff.1 h4
  have T : m.vw < 0 ∨ (0 ≤ m.vw.tmod (2 * f + 1) ∧ m.vw.tmod (2 * f + 1) < 2 * f + 1) := by
    by_cases h : m.vw < 0
    · exact .inl h
    · exact .inr (tmod_in (by omega) (by omega))
  exact ⟨by omega, by omega, by omega, by omega, by omega, by omega, hd, (enF_ck (by rw [← chk_one]; exact of_decide_eq_true h6) hf), (by have := of_decide_eq_true h7; rw [this]; exact ⟨by decide, by decide, by decide, by decide, by decide⟩), (by have := of_decide_eq_true h8; have e := List.length_eq_zero_iff.1 this; rw [e]; intro e he; cases he), (by have := of_decide_eq_true h8; omega), hD, (by have := of_decide_eq_true h9; omega)⟩
theorem mgF_4 {f r : Int} {m : Mg} {L : List En} {D : List (Int × Int)} (hk : m.k = 4) (hf1 : 1 ≤ f) (hf2 : f ≤ 3) (hr1 : 1 ≤ r) (hr2 : r ≤ 256) (hf : m.e.fits) (hL : ∀ e ∈ L, e.fits) (hd : drF m.d) (hD : ∀ d ∈ D, drF d) (hlen : (L.length : Int) ≤ 9223372036854775807) (H : ∀ j, j < 10 → keepB f r m L D j (tabA 4 j) = true) : mgF m L D := by
  have h0 : keepB f r m L D 0 1 = true := H 0 (by decide)
  have h1 : keepB f r m L D 1 3 = true := H 1 (by decide)
  have h2 : keepB f r m L D 2 0 = true := H 2 (by decide)
  have h3 : keepB f r m L D 3 6 = true := H 3 (by decide)
  have h4 : keepB f r m L D 4 0 = true := H 4 (by decide)
  have h5 : keepB f r m L D 5 0 = true := H 5 (by decide)
  have h6 : keepB f r m L D 6 0 = true := H 6 (by decide)
  have h7 : keepB f r m L D 7 0 = true := H 7 (by decide)
  have h8 : keepB f r m L D 8 0 = true := H 8 (by decide)
  have h9 : keepB f r m L D 9 20 = true := H 9 (by decide)
  clear H
  have g1 := inR_iff.1 h1
  have g0 := inR_iff.1 h0
  have g2 : m.ls = 0 := of_decide_eq_true h2
  have g3 := inR_iff.1 h3
  have g4 : m.cm = 0 := of_decide_eq_true h4
  have T : m.vw < 0 ∨ (0 ≤ m.vw.tmod (2 * f + 1) ∧ m.vw.tmod (2 * f + 1) < 2 * f + 1) := by
    by_cases h : m.vw < 0
    · exact .inl h
    · exact .inr (tmod_in (by omega) (by omega))
  exact ⟨by omega, by omega, by omega, by omega, by omega, by omega, hd, (by rw [(enb_iff _ _).1 h6]; exact enF_z), (by have := of_decide_eq_true h7; rw [this]; exact ⟨by decide, by decide, by decide, by decide, by decide⟩), (by have := of_decide_eq_true h8; have e := List.length_eq_zero_iff.1 this; rw [e]; intro e he; cases he), (by have := of_decide_eq_true h8; omega), hD, (by have := of_decide_eq_true h9; omega)⟩
theorem mgF_5 {f r : Int} {m : Mg} {L : List En} {D : List (Int × Int)} (hk : m.k = 5) (hf1 : 1 ≤ f) (hf2 : f ≤ 3) (hr1 : 1 ≤ r) (hr2 : r ≤ 256) (hf : m.e.fits) (hL : ∀ e ∈ L, e.fits) (hd : drF m.d) (hD : ∀ d ∈ D, drF d) (hlen : (L.length : Int) ≤ 9223372036854775807) (H : ∀ j, j < 10 → keepB f r m L D j (tabA 5 j) = true) : mgF m L D := by
  have h0 : keepB f r m L D 0 2 = true := H 0 (by decide)
  have h1 : keepB f r m L D 1 3 = true := H 1 (by decide)
  have h2 : keepB f r m L D 2 0 = true := H 2 (by decide)
  have h3 : keepB f r m L D 3 0 = true := H 3 (by decide)
  have h4 : keepB f r m L D 4 9 = true := H 4 (by decide)
  have h5 : keepB f r m L D 5 0 = true := H 5 (by decide)
  have h6 : keepB f r m L D 6 0 = true := H 6 (by decide)
  have h7 : keepB f r m L D 7 0 = true := H 7 (by decide)
  have h8 : keepB f r m L D 8 0 = true := H 8 (by decide)
  have h9 : keepB f r m L D 9 20 = true := H 9 (by decide)
  clear H
  have g1 := inR_iff.1 h1
  have g0 : m.nd = m.vw.tmod (2 * f + 1) := of_decide_eq_true h0
  have g2 : m.ls = 0 := of_decide_eq_true h2
  have g3 : m.p = 0 := of_decide_eq_true h3
  have g4 := inR_iff.1 h4
  have T : m.vw < 0 ∨ (0 ≤ m.vw.tmod (2 * f + 1) ∧ m.vw.tmod (2 * f + 1) < 2 * f + 1) := by
    by_cases h : m.vw < 0
    · exact .inl h
    · exact .inr (tmod_in (by omega) (by omega))
  exact ⟨by omega, by omega, by omega, by omega, by omega, by omega, hd, (by rw [(enb_iff _ _).1 h6]; exact enF_z), (by have := of_decide_eq_true h7; rw [this]; exact ⟨by decide, by decide, by decide, by decide, by decide⟩), (by have := of_decide_eq_true h8; have e := List.length_eq_zero_iff.1 this; rw [e]; intro e he; cases he), (by have := of_decide_eq_true h8; omega), hD, (by have := of_decide_eq_true h9; omega)⟩
theorem mgF_6 {f r : Int} {m : Mg} {L : List En} {D : List (Int × Int)} (hk : m.k = 6) (hf1 : 1 ≤ f) (hf2 : f ≤ 3) (hr1 : 1 ≤ r) (hr2 : r ≤ 256) (hf : m.e.fits) (hL : ∀ e ∈ L, e.fits) (hd : drF m.d) (hD : ∀ d ∈ D, drF d) (hlen : (L.length : Int) ≤ 9223372036854775807) (H : ∀ j, j < 10 → keepB f r m L D j (tabA 6 j) = true) : mgF m L D := by
  have h0 : keepB f r m L D 0 1 = true := H 0 (by decide)
  have h1 : keepB f r m L D 1 4 = true := H 1 (by decide)
  have h2 : keepB f r m L D 2 0 = true := H 2 (by decide)
  have h3 : keepB f r m L D 3 0 = true := H 3 (by decide)
  have h4 : keepB f r m L D 4 0 = true := H 4 (by decide)
  have h5 : keepB f r m L D 5 0 = true := H 5 (by decide)
  have h6 : keepB f r m L D 6 0 = true := H 6 (by decide)
  have h7 : keepB f r m L D 7 0 = true := H 7 (by decide)
  have h8 : keepB f r m L D 8 0 = true := H 8 (by decide)
  have h9 : keepB f r m L D 9 20 = true := H 9 (by decide)
  clear H
  have g1 := inR_iff.1 h1
  have g0 := inR_iff.1 h0
  have g2 : m.ls = 0 := of_decide_eq_true h2
  have g3 : m.p = 0 := of_decide_eq_true h3
  have g4 : m.cm = 0 := of_decide_eq_true h4
  have T : m.vw < 0 ∨ (0 ≤ m.vw.tmod (2 * f + 1) ∧ m.vw.tmod (2 * f + 1) < 2 * f + 1) := by
    by_cases h : m.vw < 0
    · exact .inl h
    · exact .inr (tmod_in (by omega) (by omega))
  exact ⟨by omega, by omega, by omega, by omega, by omega, by omega, hd, (by rw [(enb_iff _ _).1 h6]; exact enF_z), (by have := of_decide_eq_true h7; rw [this]; exact ⟨by decide, by decide, by decide, by decide, by decide⟩), (by have := of_decide_eq_true h8; have e := List.length_eq_zero_iff.1 this; rw [e]; intro e he; cases he), (by have := of_decide_eq_true h8; omega), hD, (by have := of_decide_eq_true h9; omega)⟩
theorem mgF_7 {f r : Int} {m : Mg} {L : List En} {D : List (Int × Int)} (hk : m.k = 7) (hf1 : 1 ≤ f) (hf2 : f ≤ 3) (hr1 : 1 ≤ r) (hr2 : r ≤ 256) (hf : m.e.fits) (hL : ∀ e ∈ L, e.fits) (hd : drF m.d) (hD : ∀ d ∈ D, drF d) (hlen : (L.length : Int) ≤ 9223372036854775807) (H : ∀ j, j < 10 → keepB f r m L D j (tabA 7 j) = true) : mgF m L D := by
  have h0 : keepB f r m L D 0 1 = true := H 0 (by decide)
  have h1 : keepB f r m L D 1 4 = true := H 1 (by decide)
  have h2 : keepB f r m L D 2 5 = true := H 2 (by decide)
  have h3 : keepB f r m L D 3 0 = true := H 3 (by decide)
  have h4 : keepB f r m L D 4 10 = true := H 4 (by decide)
  have h5 : keepB f r m L D 5 0 = true := H 5 (by decide)
  have h6 : keepB f r m L D 6 0 = true := H 6 (by decide)
  have h7 : keepB f r m L D 7 0 = true := H 7 (by decide)
  have h8 : keepB f r m L D 8 18 = true := H 8 (by decide)
  have h9 : keepB f r m L D 9 20 = true := H 9 (by decide)
  clear H
  have g1 := inR_iff.1 h1
  have g0 := inR_iff.1 h0
  have g2 := Bool.and_eq_true_iff.1 h2
  have g2a := of_decide_eq_true g2.1
  have g2b := of_decide_eq_true g2.2
  have g3 : m.p = 0 := of_decide_eq_true h3
  have g4 := inR_iff.1 h4
  have T : m.vw < 0 ∨ (0 ≤ m.vw.tmod (2 * f + 1) ∧ m.vw.tmod (2 * f + 1) < 2 * f + 1) := by
    by_cases h : m.vw < 0
    · exact .inl h
    · exact .inr (tmod_in (by omega) (by omega))
  exact ⟨by omega, by omega, by omega, by omega, by omega, by omega, hd, (by rw [(enb_iff _ _).1 h6]; exact enF_z), (by have := of_decide_eq_true h7; rw [this]; exact ⟨by decide, by decide, by decide, by decide, by decide⟩), (fun e he => enF_ck (lg_ok (by rw [← chk_lg hr1 hr2]; exact of_decide_eq_true h8) e he) (hL e he)), (by have := lg_len (L := L) (r := r) (by rw [← chk_lg hr1 hr2]; exact of_decide_eq_true h8); omega), hD, (by have := of_decide_eq_true h9; omega)⟩
theorem mgF_8 {f r : Int} {m : Mg} {L : List En} {D : List (Int × Int)} (hk : m.k = 8) (hf1 : 1 ≤ f) (hf2 : f ≤ 3) (hr1 : 1 ≤ r) (hr2 : r ≤ 256) (hf : m.e.fits) (hL : ∀ e ∈ L, e.fits) (hd : drF m.d) (hD : ∀ d ∈ D, drF d) (hlen : (L.length : Int) ≤ 9223372036854775807) (H : ∀ j, j < 10 → keepB f r m L D j (tabA 8 j) = true) : mgF m L D := by
  have h0 : keepB f r m L D 0 2 = true := H 0 (by decide)
  have h1 : keepB f r m L D 1 4 = true := H 1 (by decide)
  have h2 : keepB f r m L D 2 0 = true := H 2 (by decide)
  have h3 : keepB f r m L D 3 0 = true := H 3 (by decide)
  have h4 : keepB f r m L D 4 10 = true := H 4 (by decide)
  have h5 : keepB f r m L D 5 0 = true := H 5 (by decide)
  have h6 : keepB f r m L D 6 0 = true := H 6 (by decide)
  have h7 : keepB f r m L D 7 0 = true := H 7 (by decide)
  have h8 : keepB f r m L D 8 18 = true := H 8 (by decide)
  have h9 : keepB f r m L D 9 20 = true := H 9 (by decide)
  clear H
  have g1 := inR_iff.1 h1
  have g0 : m.nd = m.vw.tmod (2 * f + 1) := of_decide_eq_true h0
  have g2 : m.ls = 0 := of_decide_eq_true h2
  have g3 : m.p = 0 := of_decide_eq_true h3
  have g4 := inR_iff.1 h4
  have T : m.vw < 0 ∨ (0 ≤ m.vw.tmod (2 * f + 1) ∧ m.vw.tmod (2 * f + 1) < 2 * f + 1) := by
    by_cases h : m.vw < 0
    · exact .inl h
    · exact .inr (tmod_in (by omega) (by omega))
  exact ⟨by omega, by omega, by omega, by omega, by omega, by omega, hd, (by rw [(enb_iff _ _).1 h6]; exact enF_z), (by have := of_decide_eq_true h7; rw [this]; exact ⟨by decide, by decide, by decide, by decide, by decide⟩), (fun e he => enF_ck (lg_ok (by rw [← chk_lg hr1 hr2]; exact of_decide_eq_true h8) e he) (hL e he)), (by have := lg_len (L := L) (r := r) (by rw [← chk_lg hr1 hr2]; exact of_decide_eq_true h8); omega), hD, (by have := of_decide_eq_true h9; omega)⟩
theorem mgF_9 {f r : Int} {m : Mg} {L : List En} {D : List (Int × Int)} (hk : m.k = 9) (hf1 : 1 ≤ f) (hf2 : f ≤ 3) (hr1 : 1 ≤ r) (hr2 : r ≤ 256) (hf : m.e.fits) (hL : ∀ e ∈ L, e.fits) (hd : drF m.d) (hD : ∀ d ∈ D, drF d) (hlen : (L.length : Int) ≤ 9223372036854775807) (H : ∀ j, j < 10 → keepB f r m L D j (tabA 9 j) = true) : mgF m L D := by
  have h0 : keepB f r m L D 0 1 = true := H 0 (by decide)
  have h1 : keepB f r m L D 1 0 = true := H 1 (by decide)
  have h2 : keepB f r m L D 2 0 = true := H 2 (by decide)
  have h3 : keepB f r m L D 3 0 = true := H 3 (by decide)
  have h4 : keepB f r m L D 4 0 = true := H 4 (by decide)
  have h5 : keepB f r m L D 5 12 = true := H 5 (by decide)
  have h6 : keepB f r m L D 6 0 = true := H 6 (by decide)
  have h7 : keepB f r m L D 7 0 = true := H 7 (by decide)
  have h8 : keepB f r m L D 8 0 = true := H 8 (by decide)
  have h9 : keepB f r m L D 9 20 = true := H 9 (by decide)
  clear H
  have g1 : m.vw = 0 := of_decide_eq_true h1
  have g0 := inR_iff.1 h0
  have g2 : m.ls = 0 := of_decide_eq_true h2
  have g3 : m.p = 0 := of_decide_eq_true h3
  have g4 : m.cm = 0 := of_decide_eq_true h4
  have T : m.vw < 0 ∨ (0 ≤ m.vw.tmod (2 * f + 1) ∧ m.vw.tmod (2 * f + 1) < 2 * f + 1) := by
    by_cases h : m.vw < 0
    · exact .inl h
    · exact .inr (tmod_in (by omega) (by omega))
  exact ⟨by omega, by omega, by omega, by omega, by omega, by omega, hd, (by rw [(enb_iff _ _).1 h6]; exact enF_z), (by have := of_decide_eq_true h7; rw [this]; exact ⟨by decide, by decide, by decide, by decide, by decide⟩), (by have := of_decide_eq_true h8; have e := List.length_eq_zero_iff.1 this; rw [e]; intro e he; cases he), (by have := of_decide_eq_true h8; omega), hD, (by have := of_decide_eq_true h9; omega)⟩
theorem mgF_10 {f r : Int} {m : Mg} {L : List En} {D : List (Int × Int)} (hk : m.k = 10) (hf1 : 1 ≤ f) (hf2 : f ≤ 3) (hr1 : 1 ≤ r) (hr2 : r ≤ 256) (hf : m.e.fits) (hL : ∀ e ∈ L, e.fits) (hd : drF m.d) (hD : ∀ d ∈ D, drF d) (hlen : (L.length : Int) ≤ 9223372036854775807) (H : ∀ j, j < 10 → keepB f r m L D j (tabA 10 j) = true) : mgF m L D := by
  have h0 : keepB f r m L D 0 1 = true := H 0 (by decide)
  have h1 : keepB f r m L D 1 3 = true := H 1 (by decide)
  have h2 : keepB f r m L D 2 0 = true := H 2 (by decide)
  have h3 : keepB f r m L D 3 0 = true := H 3 (by decide)
  have h4 : keepB f r m L D 4 10 = true := H 4 (by decide)
  have h5 : keepB f r m L D 5 11 = true := H 5 (by decide)
  have h6 : keepB f r m L D 6 0 = true := H 6 (by decide)
  have h7 : keepB f r m L D 7 0 = true := H 7 (by decide)
  have h8 : keepB f r m L D 8 19 = true := H 8 (by decide)
  have h9 : keepB f r m L D 9 20 = true := H 9 (by decide)
  clear H
  have g1 := inR_iff.1 h1
  have g0 := inR_iff.1 h0
  have g2 : m.ls = 0 := of_decide_eq_true h2
  have g3 : m.p = 0 := of_decide_eq_true h3
  have g4 := inR_iff.1 h4
  have T : m.vw < 0 ∨ (0 ≤ m.vw.tmod (2 * f + 1) ∧ m.vw.tmod (2 * f + 1) < 2 * f + 1) := by
    by_cases h : m.vw < 0
    · exact .inl h
    · exact .inr (tmod_in (by omega) (by omega))
  exact ⟨by omega, by omega, by omega, by omega, by omega, by omega, hd, (by rw [(enb_iff _ _).1 h6]; exact enF_z), (by have := of_decide_eq_true h7; rw [this]; exact ⟨by decide, by decide, by decide, by decide, by decide⟩), (pl_es hr1 hr2 h8 hL), (pl_len hr1 hr2 h8), hD, (by have := of_decide_eq_true h9; omega)⟩
theorem mgF_11 {f r : Int} {m : Mg} {L : List En} {D : List (Int × Int)} (hk : m.k = 11) (hf1 : 1 ≤ f) (hf2 : f ≤ 3) (hr1 : 1 ≤ r) (hr2 : r ≤ 256) (hf : m.e.fits) (hL : ∀ e ∈ L, e.fits) (hd : drF m.d) (hD : ∀ d ∈ D, drF d) (hlen : (L.length : Int) ≤ 9223372036854775807) (H : ∀ j, j < 10 → keepB f r m L D j (tabA 11 j) = true) : mgF m L D := by
  have h0 : keepB f r m L D 0 1 = true := H 0 (by decide)
  have h1 : keepB f r m L D 1 3 = true := H 1 (by decide)
  have h2 : keepB f r m L D 2 0 = true := H 2 (by decide)
  have h3 : keepB f r m L D 3 0 = true := H 3 (by decide)
  have h4 : keepB f r m L D 4 0 = true := H 4 (by decide)
  have h5 : keepB f r m L D 5 0 = true := H 5 (by decide)
  have h6 : keepB f r m L D 6 0 = true := H 6 (by decide)
  have h7 : keepB f r m L D 7 0 = true := H 7 (by decide)
  have h8 : keepB f r m L D 8 0 = true := H 8 (by decide)
  have h9 : keepB f r m L D 9 20 = true := H 9 (by decide)
  clear H
  have g1 := inR_iff.1 h1
  have g0 := inR_iff.1 h0
  have g2 : m.ls = 0 := of_decide_eq_true h2
  have g3 : m.p = 0 := of_decide_eq_true h3
  have g4 : m.cm = 0 := of_decide_eq_true h4
  have T : m.vw < 0 ∨ (0 ≤ m.vw.tmod (2 * f + 1) ∧ m.vw.tmod (2 * f + 1) < 2 * f + 1) := by
    by_cases h : m.vw < 0
    · exact .inl h
    · exact .inr (tmod_in (by omega) (by omega))
  exact ⟨by omega, by omega, by omega, by omega, by omega, by omega, hd, (by rw [(enb_iff _ _).1 h6]; exact enF_z), (by have := of_decide_eq_true h7; rw [this]; exact ⟨by decide, by decide, by decide, by decide, by decide⟩), (by have := of_decide_eq_true h8; have e := List.length_eq_zero_iff.1 this; rw [e]; intro e he; cases he), (by have := of_decide_eq_true h8; omega), hD, (by have := of_decide_eq_true h9; omega)⟩
theorem mgF_12 {f r : Int} {m : Mg} {L : List En} {D : List (Int × Int)} (hk : m.k = 12) (hf1 : 1 ≤ f) (hf2 : f ≤ 3) (hr1 : 1 ≤ r) (hr2 : r ≤ 256) (hf : m.e.fits) (hL : ∀ e ∈ L, e.fits) (hd : drF m.d) (hD : ∀ d ∈ D, drF d) (hlen : (L.length : Int) ≤ 9223372036854775807) (H : ∀ j, j < 10 → keepB f r m L D j (tabA 12 j) = true) : mgF m L D := by
  have h0 : keepB f r m L D 0 1 = true := H 0 (by decide)
  have h1 : keepB f r m L D 1 3 = true := H 1 (by decide)
  have h2 : keepB f r m L D 2 0 = true := H 2 (by decide)
  have h3 : keepB f r m L D 3 0 = true := H 3 (by decide)
  have h4 : keepB f r m L D 4 10 = true := H 4 (by decide)
  have h5 : keepB f r m L D 5 0 = true := H 5 (by decide)
  have h6 : keepB f r m L D 6 0 = true := H 6 (by decide)
  have h7 : keepB f r m L D 7 0 = true := H 7 (by decide)
  have h8 : keepB f r m L D 8 18 = true := H 8 (by decide)
  have h9 : keepB f r m L D 9 20 = true := H 9 (by decide)
  clear H
  have g1 := inR_iff.1 h1
  have g0 := inR_iff.1 h0
  have g2 : m.ls = 0 := of_decide_eq_true h2
  have g3 : m.p = 0 := of_decide_eq_true h3
  have g4 := inR_iff.1 h4
  have T : m.vw < 0 ∨ (0 ≤ m.vw.tmod (2 * f + 1) ∧ m.vw.tmod (2 * f + 1) < 2 * f + 1) := by
    by_cases h : m.vw < 0
    · exact .inl h
    · exact .inr (tmod_in (by omega) (by omega))
  exact ⟨by omega, by omega, by omega, by omega, by omega, by omega, hd, (by rw [(enb_iff _ _).1 h6]; exact enF_z), (by have := of_decide_eq_true h7; rw [this]; exact ⟨by decide, by decide, by decide, by decide, by decide⟩), (fun e he => enF_ck (lg_ok (by rw [← chk_lg hr1 hr2]; exact of_decide_eq_true h8) e he) (hL e he)), (by have := lg_len (L := L) (r := r) (by rw [← chk_lg hr1 hr2]; exact of_decide_eq_true h8); omega), hD, (by have := of_decide_eq_true h9; omega)⟩
theorem mgF_13 {f r : Int} {m : Mg} {L : List En} {D : List (Int × Int)} (hk : m.k = 13) (hf1 : 1 ≤ f) (hf2 : f ≤ 3) (hr1 : 1 ≤ r) (hr2 : r ≤ 256) (hf : m.e.fits) (hL : ∀ e ∈ L, e.fits) (hd : drF m.d) (hD : ∀ d ∈ D, drF d) (hlen : (L.length : Int) ≤ 9223372036854775807) (H : ∀ j, j < 10 → keepB f r m L D j (tabA 13 j) = true) : mgF m L D := by
  have h0 : keepB f r m L D 0 0 = true := H 0 (by decide)
  have h1 : keepB f r m L D 1 0 = true := H 1 (by decide)
  have h2 : keepB f r m L D 2 0 = true := H 2 (by decide)
  have h3 : keepB f r m L D 3 6 = true := H 3 (by decide)
  have h4 : keepB f r m L D 4 0 = true := H 4 (by decide)
  have h5 : keepB f r m L D 5 0 = true := H 5 (by decide)
  have h6 : keepB f r m L D 6 14 = true := H 6 (by decide)
  have h7 : keepB f r m L D 7 0 = true := H 7 (by decide)
  have h8 : keepB f r m L D 8 0 = true := H 8 (by decide)
  have h9 : keepB f r m L D 9 0 = true := H 9 (by decide)
  clear H
  have g1 : m.vw = 0 := of_decide_eq_true h1
  have g0 : m.nd = 0 := of_decide_eq_true h0
  have g2 : m.ls = 0 := of_decide_eq_true h2
  have g3 := inR_iff.1 h3
  have g4 : m.cm = 0 := of_decide_eq_true h4
  have T : m.vw < 0 ∨ (0 ≤ m.vw.tmod (2 * f + 1) ∧ m.vw.tmod (2 * f + 1) < 2 * f + 1) := by
    by_cases h : m.vw < 0
    · exact .inl h
    · exact .inr (tmod_in (by omega) (by omega))
  exact ⟨by omega, by omega, by omega, by omega, by omega, by omega, hd, (enF_ck (by rw [← chk_one]; exact of_decide_eq_true (Bool.and_eq_true_iff.1 h6).1) hf), (by have := of_decide_eq_true h7; rw [this]; exact ⟨by decide, by decide, by decide, by decide, by decide⟩), (by have := of_decide_eq_true h8; have e := List.length_eq_zero_iff.1 this; rw [e]; intro e he; cases he), (by have := of_decide_eq_true h8; omega), hD, (by have := of_decide_eq_true h9; omega)⟩
theorem mgF_14 {f r : Int} {m : Mg} {L : List En} {D : List (Int × Int)} (hk : m.k = 14) (hf1 : 1 ≤ f) (hf2 : f ≤ 3) (hr1 : 1 ≤ r) (hr2 : r ≤ 256) (hf : m.e.fits) (hL : ∀ e ∈ L, e.fits) (hd : drF m.d) (hD : ∀ d ∈ D, drF d) (hlen : (L.length : Int) ≤ 9223372036854775807) (H : ∀ j, j < 10 → keepB f r m L D j (tabA 14 j) = true) : mgF m L D := by
  have h0 : keepB f r m L D 0 1 = true := H 0 (by decide)
  have h1 : keepB f r m L D 1 3 = true := H 1 (by decide)
  have h2 : keepB f r m L D 2 0 = true := H 2 (by decide)
  have h3 : keepB f r m L D 3 0 = true := H 3 (by decide)
  have h4 : keepB f r m L D 4 9 = true := H 4 (by decide)
  have h5 : keepB f r m L D 5 0 = true := H 5 (by decide)
  have h6 : keepB f r m L D 6 15 = true := H 6 (by decide)
  have h7 : keepB f r m L D 7 17 = true := H 7 (by decide)
  have h8 : keepB f r m L D 8 0 = true := H 8 (by decide)
  have h9 : keepB f r m L D 9 0 = true := H 9 (by decide)
  clear H
  have g1 := inR_iff.1 h1
  have g0 := inR_iff.1 h0
  have g2 : m.ls = 0 := of_decide_eq_true h2
  have g3 : m.p = 0 := of_decide_eq_true h3
  have g4 := inR_iff.1 h4
  have T : m.vw < 0 ∨ (0 ≤ m.vw.tmod (2 * f + 1) ∧ m.vw.tmod (2 * f + 1) < 2 * f + 1) := by
    by_cases h : m.vw < 0
    · exact .inl h
    · exact .inr (tmod_in (by omega) (by omega))
  exact ⟨by omega, by omega, by omega, by omega, by omega, by omega, hd, (enF_nm h6 hf), (rsF_res (Bool.and_eq_true_iff.1 h7).1), (by have := of_decide_eq_true h8; have e := List.length_eq_zero_iff.1 this; rw [e]; intro e he; cases he), (by have := of_decide_eq_true h8; omega), hD, (by have := of_decide_eq_true h9; omega)⟩
theorem ck_mgF {c : Cf} {m : Mg} {L : List En} {D : List (Int × Int)} (h : ckM c m L D = 0) (hf : m.e.fits) (hL : ∀ e ∈ L, e.fits) (hd : drF m.d) (hD : ∀ d ∈ D, drF d) (hlen : (L.length : Int) ≤ 9223372036854775807) : mgF m L D ∧ 1 ≤ m.k ∧ m.k ≤ 14 := by
  unfold ckM at h
  split at h
  · omega
  · rename_i hc
    split at h
    · omega
    · rename_i hk
      split at h
      · rename_i hall
        have hc' : cfB c = true := by simpa using hc
        have hk' : kdB m.k = true := by simpa using hk
        obtain ⟨f1, f2⟩ := cfB_f hc'
        obtain ⟨r1, r2⟩ := cfB_r hc'
        have H : ∀ j, j < 10 → keepB c.f c.r m L D j (tabA m.k.toNat j) = true := fun j hj => List.all_eq_true.1 hall j (List.mem_range.2 hj)
        have hkk := inR_iff.1 hk'
        refine ⟨?_, hkk⟩
        have : m.k = 1 ∨ m.k = 2 ∨ m.k = 3 ∨ m.k = 4 ∨ m.k = 5 ∨ m.k = 6 ∨ m.k = 7 ∨ m.k = 8 ∨ m.k = 9 ∨ m.k = 10 ∨ m.k = 11 ∨ m.k = 12 ∨ m.k = 13 ∨ m.k = 14 := by omega
        rcases this with e | e | e | e | e | e | e | e | e | e | e | e | e | e <;> rw [e] at H
        · exact mgF_1 e f1 f2 r1 r2 hf hL hd hD hlen H
        · exact mgF_2 e f1 f2 r1 r2 hf hL hd hD hlen H
        · exact mgF_3 e f1 f2 r1 r2 hf hL hd hD hlen H
        · exact mgF_4 e f1 f2 r1 r2 hf hL hd hD hlen H
        · exact mgF_5 e f1 f2 r1 r2 hf hL hd hD hlen H
        · exact mgF_6 e f1 f2 r1 r2 hf hL hd hD hlen H
        · exact mgF_7 e f1 f2 r1 r2 hf hL hd hD hlen H
        · exact mgF_8 e f1 f2 r1 r2 hf hL hd hD hlen H
        · exact mgF_9 e f1 f2 r1 r2 hf hL hd hD hlen H
        · exact mgF_10 e f1 f2 r1 r2 hf hL hd hD hlen H
        · exact mgF_11 e f1 f2 r1 r2 hf hL hd hD hlen H
        · exact mgF_12 e f1 f2 r1 r2 hf hL hd hD hlen H
        · exact mgF_13 e f1 f2 r1 r2 hf hL hd hD hlen H
        · exact mgF_14 e f1 f2 r1 r2 hf hL hd hD hlen H
      · omega
def enB (c : Cf) (m : Mg) (L : List En) (D : List (Int × Int)) : List Int := if ckM c m L D = 0 then M.frame (mbBy m L D m.k.toNat) else []
def isB (l : List Int) : Prop := ∀ z ∈ l, 0 ≤ z ∧ z < 256
theorem isB.app {a b : List Int} (h : isB a) (k : isB b) : isB (a ++ b) := fun z hz => (List.mem_append.1 hz).elim (h z) (k z)
theorem isB.nil : isB [] := fun z hz => by cases hz
theorem isB.form {x : Nat} (h : x < 2 ^ 64) : isB (M.form x) := M.form_byte x h
theorem isB.dr {x y : Nat} (hx : x < 2 ^ 64) (hy : y < 2 ^ 64) : isB (drBy x y) := (isB.form hx).app (isB.form hy)
theorem isB.nm {x y : Nat} (hx : x < 2 ^ 64) (hy : y < 2 ^ 64) : isB (nmBy x y) := (isB.form hx).app (isB.form hy)
theorem isB.op {x y : Nat} {v : ByteArray} (hx : x < 2 ^ 64) (hy : y < 2 ^ 64) (hv : v.size ≤ 64) : isB (opBy x y v) := (isB.form hx).app ((isB.form hy).app ((isB.form (by omega)).app (Wi.sb_byte v)))
theorem isB.flat {α : Type} (f : α → List Int) : ∀ l : List α, (∀ x ∈ l, isB (f x)) → isB (l.flatMap f)
  | [], _ => isB.nil
  | x :: r, h => by
    rw [List.flatMap_cons]
    exact (h x (by simp)).app (isB.flat f r (fun y hy => h y (by simp [hy])))
theorem isB.drF {d : Int × Int} (h : drF d) : isB (drBy d.1.toNat d.2.toNat) := isB.dr (by have := h.1; have := h.2.1; omega) (by have := h.2.2.1; have := h.2.2.2; omega)
theorem isB.enF {e : En} (h : enF e) : isB (nmBy e.c.toNat e.n.toNat) ∧ isB (opBy e.o.k.toNat e.o.s.toNat e.o.v) := by
  obtain ⟨a1, a2, a3, a4, a5, a6, a7, a8, a9⟩ := h
  exact ⟨isB.nm (by omega) (by omega), isB.op (by omega) (by omega) a9⟩
theorem isB.col {m : Mg} {L : List En} {D : List (Int × Int)} (hm : mgF m L D) (j : Nat) (op : Bool) : isB (colBy m L D j op) := by
  match j with
  | 0 => have := hm.nd; exact isB.form (by omega)
  | 1 => have := hm.vw; exact isB.form (by omega)
  | 2 => have := hm.ls; exact isB.form (by omega)
  | 3 => have := hm.p; exact isB.form (by omega)
  | 4 => have := hm.cm; exact isB.form (by omega)
  | 5 => exact isB.drF hm.d
  | 6 => exact (isB.enF hm.e).1.app (by cases op <;> first | exact isB.nil | exact (isB.enF hm.e).2)
  | 7 =>
    obtain ⟨a1, a2, a3, a4, a5⟩ := hm.r
    exact isB.op (by omega) (by omega) a5
  | 8 => have := hm.lL; exact (isB.form (by omega)).app (isB.flat _ _ (fun e he => (isB.enF (hm.es e he)).1.app (isB.enF (hm.es e he)).2))
  | 9 => have := hm.lD; exact (isB.form (by omega)).app (isB.flat _ _ (fun d hd => isB.drF (hm.ds d hd)))
  | (n + 10) => exact isB.nil
theorem mbBy_byte {m : Mg} {L : List En} {D : List (Int × Int)} (hm : mgF m L D) {k : Nat} (hk : k < 15) : ∀ z ∈ mbBy m L D k, 0 ≤ z ∧ z < 256 :=
  (isB.form (by omega)).app (isB.flat _ _ (fun i _ => by
    show isB (if tabA k i = 0 then [] else colBy m L D i _)
    split
    · exact isB.nil
    · exact isB.col hm i _))
theorem bodyPost_ret2 {fn : Func} {R : Ending → World → Prop} {T : Array Value} {t u : Tmp} {V U : Value} {w : World} (h : fn.results = #[.tmp t, .tmp u]) (hT : T[t]? = some (gw true V)) (hU : T[u]? = some (gw true U)) (hR : R (.returned (.tuple #[V, U])) w) : bodyPost Tryz.prog fn R .ret ⟨T, []⟩ w := by
  refine bodyPost_ret (v := .tuple #[V, U]) ?_ rfl hR
  have e1 : T.getD t undef = V := getD_of hT
  have e2 : T.getD u undef = U := getD_of hU
  rw [results_tmp2 h]
  rw [e1, e2]
theorem neqEr (x y : Operand) (a b : Int) (w : World) : (do eqGuard .neq 47 x y (.int .i64 a) (.int .i64 b); binOp .neq 47 (.int .i64 a) (.int .i64 b) : Sem Value).run Tryz.prog w = .ok (.bool (!decide (a = b))) w := by
  go_simp
  by_cases h : a = b <;> simp [h]
theorem froz_box (w : World) (c : Array Value) (t : TypeId) (i : Nat) : (w.alloc (.cells c t)).frozen? ⟨w.heap.size, i, none⟩ = false := by
  simp
theorem Wi.wtyp_new (w : World) (c : Array Value) : Wi.wtyp (w.alloc (.cells c 112)) w.heap.size := ⟨c, (0, 0), 112, by
    show (w.heap.push _)[w.heap.size]? = _
    simp, .inr (.inr rfl)⟩
set_option maxRecDepth 100000 in
set_option maxHeartbeats 4000000 in
theorem encode_any (c : Cf) (m : Mg) (a1 a2 : Option Addr) (cl cv : Nat) (L : List En) (D : List (Int × Int)) (w : World) (hT : Tab w) (hL : SlY yE w a1 L.length cl L) (hfit : ∀ e ∈ L, e.fits) (hD : SlY yD w a2 D.length cv D) (hfe : m.e.fits) (hd : drF m.d) (hds : ∀ d ∈ D, drF d) :
    Calls Tryz.prog 16 #[c.val, m.val (.slice a1 L.length cl) (.slice a2 D.length cv)] w fun e w' => ∃ v, e = .returned (.tuple #[v, .int .i64 (ckM c m L D)]) ∧ Wi.Own w.heap.size w' v (enB c m L D) ∧ Below w.heap.size w w' := by
  have hlen : (L.length : Int) ≤ 9223372036854775807 := by have := hL.cap; have := hL.max; unfold maxLen at *; omega
  have hT0 := hT.lt
  go_enter Tryz.func16, Tryz.ntmps16
  go_upto_region 1 with (refine boxMk rfl (.tmp 1) rfl m _ _ rfl ?_; intro q1 w1 hq1 M1 b1 z1)
  have hq2 : q1 = w.heap.size + 1 := by first | exact hq1 | simpa using hq1
  subst hq2
  have hB : Below w.heap.size w w1 := ((Below.refl _ _).alloc (Nat.le_refl _) _).trans (b1.mono (by simp))
  have hc1 : CfB w1 w.heap.size c := ⟨Nat.lt_of_succ_lt M1.lt, fun i x hx => (b1.cell (p := ⟨w.heap.size, i, none⟩) (by simp)).trans (by
    match i, hx with
    | 0, hx | 1, hx | 2, hx | 3, hx => cases hx; unfold Cf.val; simp
    | (j + 4), hx => simp at hx)⟩
  have HC : Hid (∀ v, Below w1.heap.size w1 v → CfB v w.heap.size c) := fun v hv => hc1.bel hv
  have HM : Hid (∀ v, Below w1.heap.size w1 v → MBox v (w.heap.size + 1) m (.slice a1 L.length cl) (.slice a2 D.length cv)) := fun v hv => M1.bel hv
  have HB : Hid (∀ v, Below w1.heap.size w1 v → Below w.heap.size w v) := fun v hv => hB.trans (hv.mono hB.size)
  have HTB : Hid (∀ v, Below w1.heap.size w1 v → Tab v) := fun v hv => hT.later (HB.out v hv) hT0
  have HLB : Hid (∀ v, Below w1.heap.size w1 v → SlY yE v a1 L.length cl L) := fun v hv => hL.later (HB.out v hv)
  have HDB : Hid (∀ v, Below w1.heap.size w1 v → SlY yD v a2 D.length cv D) := fun v hv => hD.later (HB.out v hv)
  have h1 : Below w1.heap.size w1 w1 := Below.refl _ _
  have HT1 := hide (HTB.out w1 h1)
  have HL1 := hide (HLB.out w1 h1)
  have HD1 := hide (HDB.out w1 h1)
  have HFI := hide hfit
  have HFE := hide hfe
  have HFD := hide hd
  have HFDs := hide hds
  have HLN := hide hlen
  have H1P := hide M1.lt
  clear M1 b1 z1 hB hq1 hc1 hL hD hfit hfe hd hds hlen hT
  refine wp_region_lit ?_
  refine vl_gen (fun T => T.size = 30 ∧ T[2]? = some (gw true (.pointer (some ⟨w.heap.size, 0, none⟩))) ∧ T[3]? = some (gw true (.pointer (some ⟨w.heap.size + 1, 0, none⟩)))) ⟨rfl, rfl, rfl⟩ (fun T0 ⟨hz, s2, s3⟩ => ?_)
  refine vt (.agg #[.int .i64 c.f, .int .i64 c.r, .int .i64 c.p, .bool c.u]) (ex_ld rfl (ev s2 rfl) ((HC.out w1 h1).ldAll)) hz (fun A1_1 zz kk s10x => ?_)
  replace s3 := kt kk s3
  clear kk hz s2
  have hz := zz
  have s10 := s10x
  clear zz s10x
  refine vt (m.val (.slice a1 L.length cl) (.slice a2 D.length cv)) (ex_ld rfl (ev s3 rfl) ((HM.out w1 h1).ldAll)) hz (fun A1_2 zz kk s11x => ?_)
  replace s3 := kt kk s3
  replace s10 := kt kk s10
  clear kk hz
  have hz := zz
  have s11 := s11x
  clear zz s11x A1_1
  refine vcallP (want_none rfl) (ex_call rfl (by simp only [List.map_toArray, List.map_cons, List.map_nil, (ev s10 rfl), (ev s11 rfl), evc] <;> rfl) rfl) (checkM_any c m a1 a2 cl cv L D w1 HT1.out HL1.out HFI.out HD1.out HFE.out) rfl hz (by decide) ?_
  rintro e w2 ⟨rfl, hb2⟩
  refine ⟨_, rfl, fun A1_3 zz kk s12x => ?_⟩
  replace s3 := kt kk s3
  clear kk hz s10 s11
  have hz := zz
  have s12 := s12x
  clear zz s12x A1_2
  refine vt _ (ex_assign rfl (ev s12 rfl)) hz (fun A1_4 zz kk s6x => ?_)
  replace s3 := kt kk s3
  clear kk hz s12
  have hz := zz
  have s6 := s6x
  clear zz s6x A1_3
  refine wpList_nil ?_
  go_upto_region 2 with fail
  refine wp_region_lit ?_
  refine vt _ (ex_move rfl (ev s6 rfl)) hz (fun A2_1 zz kk s13x => ?_)
  replace s3 := kt kk s3
  replace s6 := kt kk s6
  clear kk hz
  have hz := zz
  have s13 := s13x
  clear zz s13x
  refine vt (.bool (!decide ((ckM c m L D) = 0))) (ex_bin rfl (ev s13 rfl) rfl (neqEr _ _ _ _ _)) hz (fun A2_2 zz kk s14x => ?_)
  replace s3 := kt kk s3
  replace s6 := kt kk s6
  clear kk hz s13
  have hz := zz
  have s14 := s14x
  clear zz s14x A2_1
  refine wpList_nil ?_
  go_upto_region 4 with fail
  cases e2 : !decide (ckM c m L D = 0)
  rotate_left
  · refine wp_cond_true ((ev s14 rfl).trans (congrArg Value.bool e2)) ?_
    have hn : ¬ ckM c m L D = 0 := by simpa using e2
    have EN : enB c m L D = [] := by unfold enB; rw [if_neg hn]
    go_upto_region 3 with fail
    refine wp_region_lit ?_
    clear s14 s3 e2
    refine vt _ (ex_move rfl (ev s6 rfl)) hz (fun A3_1 zz kk s15x => ?_)
    clear kk hz s6
    have hz := zz
    have s15 := s15x
    clear zz s15x
    refine vt (.slice none 0 0) (ex_assign rfl rfl) hz (fun A3_2 zz kk s4x => ?_)
    replace s15 := kt kk s15
    clear kk hz
    have hz := zz
    have s4 := s4x
    clear zz s4x A3_1
    refine vt _ (ex_assign rfl (ev s15 rfl)) hz (fun A3_3 zz kk s5x => ?_)
    replace s4 := kt kk s4
    clear kk hz s15
    have hz := zz
    have s5 := s5x
    clear zz s5x A3_2
    refine wpList_nil ?_
    have hfin := (HB.out w2 hb2)
    clear HC HM HB HTB HLB HDB HT1 HL1 HD1
    go_wp2
    refine bodyPost_ret2 rfl s4 s5 ⟨_, rfl, ?_, hfin⟩
    rw [EN]
    exact Wi.Own.nil _ _
  refine wp_cond_false ((ev s14 rfl).trans (congrArg Value.bool e2)) ?_
  have hck : ckM c m L D = 0 := by simpa using e2
  clear s14 e2
  obtain ⟨hmg, hk1, hk2⟩ := ck_mgF hck HFE.out HFI.out HFD.out HFDs.out HLN.out
  obtain ⟨k, hmk⟩ := Int.eq_ofNat_of_zero_le (show 0 ≤ m.k by omega)
  have EN : enB c m L D = M.frame (mbBy m L D k) := by unfold enB; rw [if_pos hck, hmk]; rfl
  have hlb0 : (mbBy m L D k).length ≤ 28009 := by
    have f1 := form_le (show k < 2 ^ 64 by omega)
    have f2 := colsBy_le hmg k 10
    unfold mbBy
    rw [List.length_append]
    omega
  have hlb : (mbBy m L D k).length ≤ 140737488355328 := by omega
  obtain ⟨w4, hw4⟩ : ∃ w4, w4 = w2.alloc (.cells #[.pointer none, .int .i64 0, .int .i64 0] 112) := ⟨_, rfl⟩
  have hs4 : w4.heap.size = w2.heap.size + 1 := by rw [hw4]; simp
  have hb24 : Below w2.heap.size w2 w4 := by rw [hw4]; exact (Below.refl _ _).alloc (Nat.le_refl _) _
  have hb4 : Below w1.heap.size w1 w4 := hb2.trans (hb24.mono hb2.size)
  have hpos : 0 < w2.heap.size := Nat.lt_of_lt_of_le (Nat.lt_of_le_of_lt (Nat.zero_le _) H1P.out) hb2.size
  have hO4 : Wi.WOkT w4 w2.heap.size [] := .inl ⟨rfl, ⟨by omega, by rw [hw4]; exact cell_box _ _ _ _ _ rfl, by rw [hw4]; exact cell_box _ _ _ _ _ rfl, by rw [hw4]; exact cell_box _ _ _ _ _ rfl, by rw [hw4]; exact froz_box _ _ _ _, by rw [hw4]; exact froz_box _ _ _ _, by rw [hw4]; exact froz_box _ _ _ _⟩, by rw [hw4]; exact Wi.wtyp_new _ _⟩
  go_upto_region 4 with fail
  refine wp_region_lit ?_
  refine vw (.pointer (some ⟨w2.heap.size, 0, none⟩)) w4 (want_none rfl) (ex_al rfl (by rw [hw4]; go_simp)) rfl hz (by decide) (fun A4_1 zz kk s7x => ?_)
  replace s3 := kt kk s3
  replace s6 := kt kk s6
  clear kk hz
  have hz := zz
  have s7 := s7x
  clear zz s7x
  refine wpList_nil ?_
  go_upto_region 5 with fail
  refine wp_region_lit ?_
  refine vt (m.val (.slice a1 L.length cl) (.slice a2 D.length cv)) (ex_ld rfl (ev s3 rfl) ((HM.out w4 hb4).ldAll)) hz (fun A5_1 zz kk s16x => ?_)
  replace s3 := kt kk s3
  replace s6 := kt kk s6
  replace s7 := kt kk s7
  clear kk hz
  have hz := zz
  have s16 := s16x
  clear zz s16x
  refine vcallP (want_none rfl) (ex_call rfl (by simp only [List.map_toArray, List.map_cons, List.map_nil, (ev s7 rfl), (ev s16 rfl), evc] <;> rfl) rfl) (wmessage_tk w2.heap.size w2.heap.size [] m k hmk (by omega) a1 a2 cl cv L D w2 w4 (Nat.le_refl _) hpos (HTB.out w4 hb4) hb24 (Nat.le_refl _) (HLB.out w2 hb2) (HDB.out w2 hb2) hmg hO4 (by show 0 + 100000 ≤ _; omega)) rfl hz (by decide) ?_
  rintro e w5 ⟨rfl, hO5, hb5, ht5⟩
  refine ⟨_, rfl, fun A5_2 zz kk s17x => ?_⟩
  rw [List.nil_append] at hO5
  replace s3 := kt kk s3
  replace s6 := kt kk s6
  replace s7 := kt kk s7
  clear kk hz s16
  have hz := zz
  have s17 := s17x
  clear zz s17x A5_1
  refine wpList_nil ?_
  go_upto_region 6 with fail
  refine wp_region_lit ?_
  refine vt (.pointer (some ⟨w2.heap.size, 0, none⟩)) (ex_fa rfl (ev s7 rfl) (by go_simp)) hz (fun A6_1 zz kk s19x => ?_)
  clear kk hz s3 s6 s7 s17
  have hz := zz
  have s19 := s19x
  clear zz s19x
  refine vcallP (want_none rfl) (ex_call rfl (by simp only [List.map_toArray, List.map_cons, List.map_nil, (ev s19 rfl), evc] <;> rfl) rfl) (Wi.bytes_any w2.heap.size (mbBy m L D k) w5 hO5.ok hlb) rfl hz (by decide) ?_
  rintro e w6 ⟨v6, rfl, hO6, hb6⟩; obtain ⟨a6, n6, c6, rfl, hs6, _⟩ := hO6.hs (mbBy_byte hmg (by omega))
  refine ⟨_, rfl, fun A6_2 zz kk s20x => ?_⟩
  clear kk hz s19
  have hz := zz
  have s20 := s20x
  clear zz s20x A6_1
  refine vt _ (ex_move rfl (ev s20 rfl)) hz (fun A6_3 zz kk s18x => ?_)
  clear kk hz s20
  have hz := zz
  have s18 := s18x
  clear zz s18x A6_2
  refine vt (.slice a6 n6 c6) (ex_ext rfl (ev s18 rfl) rfl) hz (fun A6_4 zz kk s21x => ?_)
  replace s18 := kt kk s18
  clear kk hz
  have hz := zz
  have s21 := s21x
  clear zz s21x A6_3
  refine vt (.int .i64 0) (ex_ext rfl (ev s18 rfl) rfl) hz (fun A6_5 zz kk s22x => ?_)
  replace s21 := kt kk s21
  clear kk hz s18
  have hz := zz
  have s22 := s22x
  clear zz s22x A6_4
  refine vt _ (ex_assign rfl (ev s21 rfl)) hz (fun A6_6 zz kk s8x => ?_)
  replace s22 := kt kk s22
  clear kk hz s21
  have hz := zz
  have s8 := s8x
  clear zz s8x A6_5
  refine vt _ (ex_assign rfl (ev s22 rfl)) hz (fun A6_7 zz kk s9x => ?_)
  replace s8 := kt kk s8
  clear kk hz s22
  have hz := zz
  have s9 := s9x
  clear zz s9x A6_6
  refine wpList_nil ?_
  go_upto_region 7 with fail
  refine wp_region_lit ?_
  refine vt _ (ex_move rfl (ev s9 rfl)) hz (fun A7_1 zz kk s23x => ?_)
  replace s8 := kt kk s8
  replace s9 := kt kk s9
  clear kk hz
  have hz := zz
  have s23 := s23x
  clear zz s23x
  refine vt (.bool (!decide (0 = 0))) (ex_bin rfl (ev s23 rfl) rfl (neqEr _ _ _ _ _)) hz (fun A7_2 zz kk s24x => ?_)
  replace s8 := kt kk s8
  replace s9 := kt kk s9
  clear kk hz s23
  have hz := zz
  have s24 := s24x
  clear zz s24x A7_1
  refine wpList_nil ?_
  go_upto_region 9 with fail
  refine wp_cond_false ((ev s24 rfl).trans (congrArg Value.bool (by decide))) ?_
  clear s24
  go_upto_region 9 with fail
  refine wp_region_lit ?_
  refine vt _ (ex_move rfl (ev s8 rfl)) hz (fun A9_1 zz kk s26x => ?_)
  clear kk hz s8 s9
  have hz := zz
  have s26 := s26x
  clear zz s26x
  refine vcallP (want_none rfl) (ex_call rfl (by simp only [List.map_toArray, List.map_cons, List.map_nil, (ev s26 rfl), evc] <;> rfl) rfl) (Wi.seal_ok a6 n6 c6 (mbBy m L D k) w6 hs6 (by have := hs6.len; omega)) rfl hz (by decide) ?_
  rintro e w7 ⟨v7, rfl, hO7, _, hb7⟩
  refine ⟨_, rfl, fun A9_2 zz kk s27x => ?_⟩
  clear kk hz s26
  have hz := zz
  have s27 := s27x
  clear zz s27x A9_1
  refine vt (v7) (ex_ext rfl (ev s27 rfl) rfl) hz (fun A9_3 zz kk s28x => ?_)
  replace s27 := kt kk s27
  clear kk hz
  have hz := zz
  have s28 := s28x
  clear zz s28x A9_2
  refine vt (.int .i64 0) (ex_ext rfl (ev s27 rfl) rfl) hz (fun A9_4 zz kk s29x => ?_)
  replace s28 := kt kk s28
  clear kk hz s27
  have hz := zz
  have s29 := s29x
  clear zz s29x A9_3
  refine vt _ (ex_assign rfl (ev s28 rfl)) hz (fun A9_5 zz kk s4x => ?_)
  replace s29 := kt kk s29
  clear kk hz s28
  have hz := zz
  have s4 := s4x
  clear zz s4x A9_4
  refine vt _ (ex_assign rfl (ev s29 rfl)) hz (fun A9_6 zz kk s5x => ?_)
  replace s4 := kt kk s4
  clear kk hz s29
  have hz := zz
  have s5 := s5x
  clear zz s5x A9_5
  refine wpList_nil ?_
  have hbB : Below w1.heap.size w1 w7 := hb4.trans ((hb5.mono hb2.size).trans ((hb6.mono (Nat.le_trans hb4.size hb5.size)).trans (hb7.mono (Nat.le_trans (Nat.le_trans hb4.size hb5.size) hb6.size))))
  have hfin := HB.out w7 hbB
  have hfin0 := HB.out w1 h1
  have hown := Wi.Own.low hO7 (Nat.le_trans hfin0.size (Nat.le_trans (Nat.le_trans hb4.size hb5.size) hb6.size))
  clear HC HM HB HTB HLB HDB HT1 HL1 HD1
  go_wp2
  refine bodyPost_ret2 rfl s4 s5 ⟨_, by rw [hck], ?_, hfin⟩
  rw [EN]
  exact hown
theorem wrapU {v : Nat} (h : v ≤ 9223372036854775807) : IntKind.wrap .u64 (v : Int) = (v : Int) := by
  unfold IntKind.wrap
  simp [IntKind.bits, IntKind.signed]
  omega
theorem news_of {B : Nat} {w : World} {g n c : Nat} {l : List Int} (h : Wi.Own B w (.slice (some ⟨g, 0, none⟩) n c) l) : ∀ j, j < l.length → w.cell? ((⟨g, 0, none⟩ : Addr).add j) = some (.int .u8 (l.getD j 0)) := fun j hj => by
  have := h.row j hj
  simpa [Addr.add_lit] using this
set_option maxHeartbeats 2000000 in
theorem refput7 (B : Nat) (v0 : Value) (l : List Int) (x : Nat) (w : World) (hown : Wi.Own B w v0 l) (hB : B ≤ w.heap.size) (hx : x ≤ 9223372036854775807) (hl : l.length + 9 ≤ 140737488355328) :
    Calls Tryz.prog 47 #[v0, .int .i64 (x : Int)] w fun e w' => ∃ v', e = .returned v' ∧ Wi.Own B w' v' (l ++ M.form x) ∧ v' ≠ .slice none 0 0 ∧ Below B w w' ∧ Wi.TKp w w' := by
  have hwr := wrapU hx
  have HF := hide (Wi.refform_any x (by omega) w)
  have HLF := hide (form_le (show x < 2 ^ 64 by omega))
  have HO := hide hown
  clear hown
  go_enter Tryz.func47, Tryz.ntmps47
  go_wp2_with fail
  refine HF.out.mono ?_
  rintro e w1 ⟨v1, rfl, o1, n1, b1⟩
  obtain ⟨g, c, rfl, hg1, hg2⟩ := o1.shape n1
  have O1 := hide o1
  have B1 := hide b1
  have hs1 := b1.size
  clear o1 b1 HF n1
  go_wp2_with (at_builtin; go_must (refine Wi.app_any _ rfl (.tmp 5) (.tmp 8) rfl B l v0 rfl ⟨g, 0, none⟩ (M.form x).length c rfl (M.form x) rfl ?zown ?znews ?zB ?zb ?zk))
  case zown => exact HO.out.kept B1.out
  case znews => exact news_of O1.out
  case zB => omega
  case zb => have := HLF.out; omega
  case zk =>
    intro v2 w2 h1 h2 h3
    have H1 := hide h1
    have hn2 : v2 ≠ .slice none 0 0 := h2 (.inr (by rw [M.form_length]; omega))
    have HB2 := hide ((HO.out.kept B1.out).grown (B1.out.mono hB) h3 (by omega))
    have HT2 := hide (Wi.TKp.own (Wi.TKp.of_below B1.out) (HO.out.kept B1.out) h3)
    clear h1 h2 h3
    go_wp2
    go_ret
    exact ⟨_, rfl, H1.out, hn2, HB2.out, HT2.out⟩
theorem vapp {ops : Array Oper} {rest : List Oper} {o : Oper} {T : Array Value} {df : List Deferred} {w : World} {Q : Exit → Act → World → Prop} {d n : Nat} (hgd : o.guard = none) (s x : Nat) (ho : o.op = .call { callee := .builtin .append, args := #[.tmp s, .tmp x], argTypes := #[55, 55] }) (B : Nat) (l : List Int) (v : Value) (hs : T[s]? = some (gw true v)) (ad : Addr) (m c : Nat) (hx : T[x]? = some (gw true (.slice (some ad) m c))) (news : List Int) (hm : news.length = m) (hown : Wi.Own B w v l)
    (hnews : ∀ j, j < m → w.cell? (ad.add j) = some (.int .u8 (news.getD j 0))) (hB : B ≤ w.heap.size) (hb : l.length + m ≤ 140737488355328) (hd : o.dst = some d) (hz : T.size = n) (hn : d < n)
    (h : ∀ (v' : Value) (w' : World) (T' : Array Value), Wi.Own B w' v' (l ++ news) → Wi.Keeps v v' m → w.grownBy w' v.ownBlock → T'.size = n → (∀ i, i ≠ d → T'[i]? = T[i]?) → T'[d]? = some (gw true v') → wpList Tryz.prog ops Q rest ⟨T', df⟩ w') : wpList Tryz.prog ops Q (o :: rest) ⟨T, df⟩ w := by
  refine Wi.app_any w hgd (.tmp s) (.tmp x) ho B l v (ev hs rfl) ad m c (ev hx rfl) news hm hown hnews hB hb ?_
  intro v' w' h1 h2 h3
  rw [hd]
  exact h v' w' (T.setIfInBounds d v') h1 h2 h3 (by simp [hz]) (fun i hi => at_set_ne _ hi) (at_set _ (by omega))
theorem ex_conv {o : Oper} {ρ : Operand → Value} {s t : TypeId} {x : Operand} {X V : Value} {w w' : World} (ho : o.op = .convert s t x) (hx : ρ x = X) (hr : (convert s t X).run Tryz.prog w = .ok V w') : (execOp ρ o).run Tryz.prog w = .ok (.value V) w' := by
  unfold execOp
  simp only [ho, hx, Sem.run_bind, hr, Result.andThen_ok]
  rfl
theorem ex_lenS {o : Oper} {ρ : Operand → Value} {i : Nat} {s : ByteArray} {w : World} (ho : o.op = .call { callee := .builtin .len, args := #[.tmp i], argTypes := #[9] }) (ht : o.type = 3) (hx : ρ (.tmp i) = .string s) : (execOp ρ o).run Tryz.prog w = .ok (.value (.int .i64 (s.size : Int))) w := by
  unfold execOp
  simp only [ho]
  rw [Sem.run_bind]
  simp only [resolve, List.map_toArray, List.map_cons, List.map_nil, hx, ht]
  go_simp
theorem conv_bytes (s : ByteArray) (X : World) : (convert 9 55 (.string s)).run Tryz.prog X = .ok (.slice (some ⟨X.heap.size, 0, none⟩) s.size (grownCap X s.size 0 5)) (Lib.bytesWorld X 5 s) := Lib.run_convert_string_bytes X 9 55 5 s Tryz.underlying9 Tryz.underlying55 Tryz.underlying5
theorem bodyPost_ret1 {fn : Func} {R : Ending → World → Prop} {T : Array Value} {t : Tmp} {V : Value} {w : World} (h : fn.results = #[.tmp t]) (hT : T[t]? = some (gw true V)) (hR : R (.returned V) w) : bodyPost Tryz.prog fn R .ret ⟨T, []⟩ w := by
  refine bodyPost_ret (v := V) ?_ rfl hR
  have e1 : T.getD t undef = V := getD_of hT
  rw [results_tmp h, e1]
def txBy (v : ByteArray) : List Int := M.form v.size ++ Wi.sb v
set_option maxRecDepth 100000 in
set_option maxHeartbeats 2000000 in
theorem refputText7 (B : Nat) (v0 : Value) (l : List Int) (t : ByteArray) (w : World) (hown : Wi.Own B w v0 l) (hB : B ≤ w.heap.size) (ht : t.size ≤ 64) (hl : l.length + 100 ≤ 140737488355328) :
    Calls Tryz.prog 50 #[v0, .string t] w fun e w' => ∃ v', e = .returned v' ∧ Wi.Own B w' v' (l ++ txBy t) ∧ v' ≠ .slice none 0 0 ∧ Below B w w' ∧ Wi.TKp w w' := by
  go_enter Tryz.func50, Tryz.ntmps50
  go_upto_region 1 with fail
  refine wp_region_lit ?_
  refine vl_gen (fun T => T.size = 12 ∧ T[0]? = some (gw true v0) ∧ T[1]? = some (gw true (.string t))) ⟨rfl, rfl, rfl⟩ (fun T0 ⟨hz, s0, s1⟩ => ?_)
  refine vt _ (ex_move rfl (ev s0 rfl)) hz (fun A_1 zz kk s5x => ?_)
  replace s1 := kt kk s1
  clear kk hz s0
  have hz := zz
  have s5 := s5x
  clear zz s5x
  refine vt _ (ex_move rfl (ev s1 rfl)) hz (fun A_2 zz kk s6x => ?_)
  replace s1 := kt kk s1
  replace s5 := kt kk s5
  clear kk hz
  have hz := zz
  have s6 := s6x
  clear zz s6x A_1
  refine vt (.int .i64 ((t.size : Nat) : Int)) (ex_lenS rfl rfl (ev s6 rfl)) hz (fun A_3 zz kk s7x => ?_)
  replace s1 := kt kk s1
  replace s5 := kt kk s5
  clear kk hz s6
  have hz := zz
  have s7 := s7x
  clear zz s7x A_2
  refine vcallP (want_none rfl) (ex_call rfl (by simp only [List.map_toArray, List.map_cons, List.map_nil, (ev s5 rfl), (ev s7 rfl), evc] <;> rfl) rfl) (refput7 B v0 l t.size w hown hB (by omega) (by omega)) rfl hz (by decide) ?_
  rintro e w1 ⟨v1, rfl, o1, n1, b1, t1⟩
  refine ⟨_, rfl, fun A_4 zz kk s8x => ?_⟩
  have hs1 := b1.size
  replace s1 := kt kk s1
  clear kk hz s5 s7
  have hz := zz
  have s8 := s8x
  clear zz s8x A_3
  refine vt _ (ex_move rfl (ev s1 rfl)) hz (fun A_5 zz kk s9x => ?_)
  replace s8 := kt kk s8
  clear kk hz s1
  have hz := zz
  have s9 := s9x
  clear zz s9x A_4
  refine vw (.slice (some ⟨w1.heap.size, 0, none⟩) t.size (grownCap w1 t.size 0 5)) (Lib.bytesWorld w1 5 t) (want_none rfl) (ex_conv rfl (ev s9 rfl) (conv_bytes t w1)) rfl hz (by decide) (fun A_6 zz kk s10x => ?_)
  replace s8 := kt kk s8
  clear kk hz s9
  have hz := zz
  have s10 := s10x
  clear zz s10x A_5
  refine vapp rfl 8 10 rfl B (l ++ M.form t.size) _ s8 ⟨w1.heap.size, 0, none⟩ _ _ s10 (Wi.sb t) (Wi.sb_length t) (o1.kept (Wi.bel_bytes w1 t)) (fun j hj => Wi.row_bytes w1 t j (by rw [Wi.sb_length]; exact hj)) (by rw [Lib.bytesWorld_size]; omega) (by rw [List.length_append]; have := form_le (show t.size < 2 ^ 64 by omega); omega) rfl hz (by decide) (fun v2 w2 A_7 ho2 hkp hg zz kk s11x => ?_)
  clear kk hz s8 s10
  have hz := zz
  have s11 := s11x
  clear zz s11x A_6
  refine vt _ (ex_assign rfl (ev s11 rfl)) hz (fun A_8 zz kk s4x => ?_)
  clear kk hz s11
  have hz := zz
  have s4 := s4x
  clear zz s4x A_7
  refine wpList_nil ?_
  go_wp2
  exact bodyPost_ret1 rfl s4 ⟨_, rfl, by simpa only [txBy, List.append_assoc] using ho2, hkp (.inl n1), b1.trans ((o1.kept (Wi.bel_bytes w1 t)).grown ((Wi.bel_bytes w1 t).mono (by omega)) hg (by rw [Lib.bytesWorld_size]; omega)), t1.trans (Wi.TKp.own (Wi.TKp.of_below (Wi.bel_bytes w1 t)) (o1.kept (Wi.bel_bytes w1 t)) hg)⟩
set_option maxRecDepth 100000 in
set_option maxHeartbeats 2000000 in
theorem refputDraw7 (B : Nat) (v0 : Value) (l : List Int) (x y : Nat) (w : World) (hown : Wi.Own B w v0 l) (hB : B ≤ w.heap.size) (hx : x < 2 ^ 64) (hy : y < 2 ^ 64) (hl : l.length + 100 ≤ 140737488355328) :
    Calls Tryz.prog 48 #[v0, .agg #[.int .u64 (x : Int), .int .u64 (y : Int)]] w fun e w' => ∃ v', e = .returned v' ∧ Wi.Own B w' v' (l ++ drBy x y) ∧ v' ≠ .slice none 0 0 ∧ Below B w w' ∧ Wi.TKp w w' := by
  go_enter Tryz.func48, Tryz.ntmps48
  go_upto_region 1 with fail
  obtain ⟨w1, hw1⟩ : ∃ w1, w1 = w.alloc (.cells #[.int .u64 (x : Int), .int .u64 (y : Int)] 33) := ⟨_, rfl⟩
  rw [← hw1]
  have hs0 : w1.heap.size = w.heap.size + 1 := by rw [hw1]; simp
  have hBw : Below w.heap.size w w1 := by rw [hw1]; exact (Below.refl _ _).alloc (Nat.le_refl _) _
  have HQ : Hid (∀ vv, Wi.TKp w1 vv → ∀ (ii : Nat) (uu : Value), ([.int .u64 (x : Int), .int .u64 (y : Int)] : List Value)[ii]? = some uu → vv.cell? ⟨w.heap.size, ii, none⟩ = some uu) := fun vv hv ii uu hx => by
    rw [hv.cell (p := ⟨w.heap.size, ii, none⟩) (by rw [hs0]; exact Nat.lt_succ_self _) (by rw [hw1]; exact Wi.not_wtyp_box _ _ _ (by decide))]
    rw [hw1]
    exact cell_box _ _ _ _ _ (by simpa using hx)
  have ow1 := hown.kept hBw
  clear hw1
  refine wp_region_lit ?_
  refine vl_gen (fun T => T.size = 15 ∧ T[0]? = some (gw true v0) ∧ T[3]? = some (gw true (.pointer (some ⟨w.heap.size, 0, none⟩)))) ⟨rfl, rfl, rfl⟩ (fun T0 ⟨hz, s0, s3⟩ => ?_)
  refine vt _ (ex_move rfl (ev s0 rfl)) hz (fun A_1 zz kk s5x => ?_)
  replace s0 := kt kk s0
  replace s3 := kt kk s3
  clear kk hz
  have hz := zz
  have s5 := s5x
  clear zz s5x
  refine vt (.pointer (some ⟨w.heap.size, 0, none⟩)) (ex_fa rfl (ev s3 rfl) (by go_simp)) hz (fun A_2 zz kk s6x => ?_)
  replace s0 := kt kk s0
  replace s3 := kt kk s3
  replace s5 := kt kk s5
  clear kk hz
  have hz := zz
  have s6 := s6x
  clear zz s6x A_1
  refine vt (.int .u64 (x : Int)) (ex_ld rfl (ev s6 rfl) (ldU64 (HQ.out w1 (Wi.TKp.refl w1) 0 _ rfl))) hz (fun A_3 zz kk s7x => ?_)
  replace s0 := kt kk s0
  replace s3 := kt kk s3
  replace s5 := kt kk s5
  clear kk hz s6
  have hz := zz
  have s7 := s7x
  clear zz s7x A_2
  refine vcallP (want_none rfl) (ex_call rfl (by simp only [List.map_toArray, List.map_cons, List.map_nil, (ev s7 rfl), evc] <;> rfl) rfl) (Wi.refform_any x hx w1) rfl hz (by decide) ?_
  rintro e p1 ⟨u1, rfl, o1, n1, b1⟩; obtain ⟨g1, c1, rfl, hg1, hh1⟩ := o1.shape n1
  refine ⟨_, rfl, fun A_4 zz kk s8x => ?_⟩
  have hs1 := b1.size
  replace s0 := kt kk s0
  replace s3 := kt kk s3
  replace s5 := kt kk s5
  clear kk hz s7
  have hz := zz
  have s8 := s8x
  clear zz s8x A_3
  refine vapp rfl 5 8 rfl B l _ s5 ⟨g1, 0, none⟩ _ _ s8 (M.form x) rfl (ow1.kept b1) (news_of o1) (by omega) (by have := form_le hx; have := form_le hx; first | omega | (rw [List.length_append]; omega)) rfl hz (by decide) (fun v1 q1 A_5 ow2 hkp hg zz kk s9x => ?_)
  have bb1 := (ow1.kept b1).grown (b1.mono (by omega)) hg (by omega)
  have tt1 := Wi.TKp.own (Wi.TKp.of_below b1) (ow1.kept b1) hg
  have nn1 := hkp (.inr (by rw [M.form_length]; omega))
  have hsq1 := bb1.size
  clear hkp hg
  replace s0 := kt kk s0
  replace s3 := kt kk s3
  clear kk hz s5 s8
  have hz := zz
  have s9 := s9x
  clear zz s9x A_4
  refine vt _ (ex_assign rfl (ev s9 rfl)) hz (fun A_6 zz kk s0x => ?_)
  replace s3 := kt kk s3
  clear kk hz s9 s0
  have hz := zz
  have s0 := s0x
  clear zz s0x A_5
  refine wpList_nil ?_
  go_upto_region 2 with fail
  refine wp_region_lit ?_
  refine vt _ (ex_move rfl (ev s0 rfl)) hz (fun C_1 zz kk s10x => ?_)
  replace s3 := kt kk s3
  clear kk hz s0
  have hz := zz
  have s10 := s10x
  clear zz s10x
  refine vt (.pointer (some ⟨w.heap.size, 1, none⟩)) (ex_fa rfl (ev s3 rfl) (by go_simp)) hz (fun C_2 zz kk s11x => ?_)
  replace s10 := kt kk s10
  clear kk hz s3
  have hz := zz
  have s11 := s11x
  clear zz s11x C_1
  refine vt (.int .u64 (y : Int)) (ex_ld rfl (ev s11 rfl) (ldU64 (HQ.out q1 (tt1) 1 _ rfl))) hz (fun C_3 zz kk s12x => ?_)
  replace s10 := kt kk s10
  clear kk hz s11
  have hz := zz
  have s12 := s12x
  clear zz s12x C_2
  refine vcallP (want_none rfl) (ex_call rfl (by simp only [List.map_toArray, List.map_cons, List.map_nil, (ev s12 rfl), evc] <;> rfl) rfl) (Wi.refform_any y hy q1) rfl hz (by decide) ?_
  rintro e p2 ⟨u2, rfl, o2, n2, b2⟩; obtain ⟨g2, c2, rfl, hg2, hh2⟩ := o2.shape n2
  refine ⟨_, rfl, fun C_4 zz kk s13x => ?_⟩
  have hs2 := b2.size
  replace s10 := kt kk s10
  clear kk hz s12
  have hz := zz
  have s13 := s13x
  clear zz s13x C_3
  refine vapp rfl 10 13 rfl B (l ++ M.form x) _ s10 ⟨g2, 0, none⟩ _ _ s13 (M.form y) rfl (ow2.kept b2) (news_of o2) (by omega) (by have := form_le hy; have := form_le hx; first | omega | (rw [List.length_append]; omega)) rfl hz (by decide) (fun v2 q2 C_5 ow3 hkp hg zz kk s14x => ?_)
  have bb2 := (ow2.kept b2).grown (b2.mono (by omega)) hg (by omega)
  have tt2 := Wi.TKp.own (Wi.TKp.of_below b2) (ow2.kept b2) hg
  have nn2 := hkp (.inr (by rw [M.form_length]; omega))
  have hsq2 := bb2.size
  clear hkp hg
  clear kk hz s10 s13
  have hz := zz
  have s14 := s14x
  clear zz s14x C_4
  refine vt _ (ex_assign rfl (ev s14 rfl)) hz (fun C_6 zz kk s4x => ?_)
  clear kk hz s14
  have hz := zz
  have s4 := s4x
  clear zz s4x C_5
  refine wpList_nil ?_
  go_wp2
  exact bodyPost_ret1 rfl s4 ⟨_, rfl, by simpa only [drBy, List.append_assoc] using ow3, nn2, (hBw.mono hB).trans (bb1.trans bb2), (Wi.TKp.of_below hBw).trans (tt1.trans tt2)⟩
set_option maxRecDepth 100000 in
set_option maxHeartbeats 2000000 in
theorem refputEntry7 (B : Nat) (v0 : Value) (l : List Int) (c n k s : Nat) (v : ByteArray) (op : Bool) (w : World) (hown : Wi.Own B w v0 l) (hB : B ≤ w.heap.size) (hc1 : c ≤ 9223372036854775807) (hn1 : n ≤ 9223372036854775807) (hk1 : k ≤ 9223372036854775807) (hs1 : s ≤ 9223372036854775807) (hv : v.size ≤ 64) (hl : l.length + 200 ≤ 140737488355328) :
    Calls Tryz.prog 49 #[v0, .agg #[.int .i64 (c : Int), .int .i64 (n : Int), .int .i64 (k : Int), .int .i64 (s : Int), .string v], .bool op] w fun e w' => ∃ v', e = .returned v' ∧ Wi.Own B w' v' (l ++ (nmBy c n ++ (if op then opBy k s v else []))) ∧ v' ≠ .slice none 0 0 ∧ Below B w w' ∧ Wi.TKp w w' := by
  go_enter Tryz.func49, Tryz.ntmps49
  go_upto_region 1 with fail
  obtain ⟨w1, hw1⟩ : ∃ w1, w1 = w.alloc (.cells #[.int .i64 (c : Int), .int .i64 (n : Int), .int .i64 (k : Int), .int .i64 (s : Int), .string v] 28) := ⟨_, rfl⟩
  rw [← hw1]
  have hs0 : w1.heap.size = w.heap.size + 1 := by rw [hw1]; simp
  have hBw : Below w.heap.size w w1 := by rw [hw1]; exact (Below.refl _ _).alloc (Nat.le_refl _) _
  have HQ : Hid (∀ vv, Wi.TKp w1 vv → ∀ (ii : Nat) (uu : Value), ([.int .i64 (c : Int), .int .i64 (n : Int), .int .i64 (k : Int), .int .i64 (s : Int), .string v] : List Value)[ii]? = some uu → vv.cell? ⟨w.heap.size, ii, none⟩ = some uu) := fun vv hv ii uu hx => by
    rw [hv.cell (p := ⟨w.heap.size, ii, none⟩) (by rw [hs0]; exact Nat.lt_succ_self _) (by rw [hw1]; exact Wi.not_wtyp_box _ _ _ (by decide))]
    rw [hw1]
    exact cell_box _ _ _ _ _ (by simpa using hx)
  have ow1 := hown.kept hBw
  clear hw1
  refine vh_start (fun v => Wi.TKp w1 v) (by kernel_rfl) ?_
  have hS0 : Wi.TKp w1 w1.drew := (Wi.TKp.refl w1).drewN 1
  refine vh_gen (fun T => T.size = 29 ∧ T[0]? = some (gw true v0) ∧ T[2]? = some (gw true (.bool op)) ∧ T[4]? = some (gw true (.pointer (some ⟨w.heap.size, 0, none⟩)))) ⟨rfl, rfl, rfl, rfl⟩ (fun T0 ⟨hz, s0, s2, s4⟩ => ?_)
  refine vh_take 0 true (v0) rfl (by kernel_rfl) (by kernel_rfl) (by kernel_rfl) (want_none rfl) (fun hc v_ hv => ex_move rfl (ev s0 rfl)) rfl hz (by decide) hS0 (fun A_1 zz kk s7x => ?_)
  replace s0 := kt kk s0
  replace s2 := kt kk s2
  replace s4 := kt kk s4
  clear kk hz
  have hz := zz
  have s7 := s7x
  clear zz s7x
  refine vh_take 1 true (.pointer (some ⟨w.heap.size, 0, none⟩)) rfl (by kernel_rfl) (by kernel_rfl) (by kernel_rfl) (want_none rfl) (fun hc v_ hv => ex_fa rfl (ev s4 rfl) (by go_simp)) rfl hz (by decide) hS0 (fun A_2 zz kk s8x => ?_)
  replace s0 := kt kk s0
  replace s2 := kt kk s2
  replace s4 := kt kk s4
  replace s7 := kt kk s7
  clear kk hz
  have hz := zz
  have s8 := s8x
  clear zz s8x A_1
  refine vh_take 2 true (.int .i64 (c : Int)) rfl (by kernel_rfl) (by kernel_rfl) (by kernel_rfl) (want_none rfl) (fun hc v_ hv => ex_ld rfl (ev s8 rfl) (ldInt (HQ.out v_ hv 0 _ rfl))) rfl hz (by decide) hS0 (fun A_3 zz kk s9x => ?_)
  replace s0 := kt kk s0
  replace s2 := kt kk s2
  replace s4 := kt kk s4
  replace s7 := kt kk s7
  clear kk hz s8
  have hz := zz
  have s9 := s9x
  clear zz s9x A_2
  refine vh_take 4 true (.pointer (some ⟨w.heap.size, 1, none⟩)) rfl (by kernel_rfl) (by kernel_rfl) (by kernel_rfl) (want_none rfl) (fun hc v_ hv => ex_fa rfl (ev s4 rfl) (by go_simp)) rfl hz (by decide) hS0 (fun A_4 zz kk s11x => ?_)
  replace s0 := kt kk s0
  replace s2 := kt kk s2
  replace s4 := kt kk s4
  replace s7 := kt kk s7
  replace s9 := kt kk s9
  clear kk hz
  have hz := zz
  have s11 := s11x
  clear zz s11x A_3
  refine vh_take 5 true (.int .i64 (n : Int)) rfl (by kernel_rfl) (by kernel_rfl) (by kernel_rfl) (want_none rfl) (fun hc v_ hv => ex_ld rfl (ev s11 rfl) (ldInt (HQ.out v_ hv 1 _ rfl))) rfl hz (by decide) hS0 (fun A_5 zz kk s12x => ?_)
  replace s0 := kt kk s0
  replace s2 := kt kk s2
  replace s4 := kt kk s4
  replace s7 := kt kk s7
  replace s9 := kt kk s9
  clear kk hz s11
  have hz := zz
  have s12 := s12x
  clear zz s12x A_4
  refine vh_call 3 rfl (by kernel_rfl) (want_none rfl) (ex_call rfl (by simp only [List.map_toArray, List.map_cons, List.map_nil, (ev s7 rfl), (ev s9 rfl), evc] <;> rfl) rfl) (refput7 B v0 (l) c w1.drew (ow1.kept (Below.refl _ _).drew) (show B ≤ w1.heap.size by omega) (by omega) (by omega)) rfl hz (by decide) ?_
  rintro e y1 ⟨u1, rfl, ow2, n1, b1, t1⟩
  refine ⟨_, rfl, (hS0.trans t1), fun A_6 zz kk s10x => ?_⟩
  have hS1 := hS0.trans t1
  have hsy1 := b1.size
  have hdr1 : w1.drew.heap.size = w1.heap.size := rfl
  replace s0 := kt kk s0
  replace s2 := kt kk s2
  replace s4 := kt kk s4
  replace s12 := kt kk s12
  clear kk hz s7 s9
  have hz := zz
  have s10 := s10x
  clear zz s10x A_5
  refine vh_call 6 rfl (by kernel_rfl) (want_none rfl) (ex_call rfl (by simp only [List.map_toArray, List.map_cons, List.map_nil, (ev s10 rfl), (ev s12 rfl), evc] <;> rfl) rfl) (refput7 B u1 (l ++ M.form c) n y1 ow2 (by omega) (by omega) (by have := form_le (show c < 2 ^ 64 by omega); have := form_le (show n < 2 ^ 64 by omega); have := form_le (show k < 2 ^ 64 by omega); have := form_le (show s < 2 ^ 64 by omega); simp only [List.length_append]; omega)) rfl hz (by decide) ?_
  rintro e y2 ⟨u2, rfl, ow3, n2, b2, t2⟩
  refine ⟨_, rfl, (hS1.trans t2), fun A_7 zz kk s13x => ?_⟩
  have hS2 := hS1.trans t2
  have hsy2 := b2.size
  replace s0 := kt kk s0
  replace s2 := kt kk s2
  replace s4 := kt kk s4
  clear kk hz s10 s12
  have hz := zz
  have s13 := s13x
  clear zz s13x A_6
  refine vh_take 7 true (u2) rfl (by kernel_rfl) (by kernel_rfl) (by kernel_rfl) (want_none rfl) (fun hc v_ hv => ex_assign rfl (ev s13 rfl)) rfl hz (by decide) hS2 (fun A_8 zz kk s0x => ?_)
  replace s2 := kt kk s2
  replace s4 := kt kk s4
  clear kk hz s13 s0
  have hz := zz
  have s0 := s0x
  clear zz s0x A_7
  refine vh_done (by kernel_rfl) ?_
  go_upto_region 2 with fail
  refine wp_region_lit ?_
  refine vt _ (ex_move rfl (ev s2 rfl)) hz (fun C_1 zz kk s14x => ?_)
  replace s0 := kt kk s0
  replace s2 := kt kk s2
  replace s4 := kt kk s4
  clear kk hz
  have hz := zz
  have s14 := s14x
  clear zz s14x
  refine wpList_nil ?_
  go_upto_region 3 with fail
  cases op
  · refine wp_cond_false (ev s14 rfl) ?_
    clear s14
    go_upto_region 4 with fail
    refine wp_region_lit ?_
    refine vt _ (ex_move rfl (ev s0 rfl)) hz (fun E_1 zz kk s28x => ?_)
    clear kk hz s0 s2 s4
    have hz := zz
    have s28 := s28x
    clear zz s28x
    refine vt _ (ex_assign rfl (ev s28 rfl)) hz (fun E_2 zz kk s6x => ?_)
    clear kk hz s28
    have hz := zz
    have s6 := s6x
    clear zz s6x E_1
    refine wpList_nil ?_
    go_wp2
    exact bodyPost_ret1 rfl s6 ⟨_, rfl, by simpa only [List.append_nil, nmBy, List.append_assoc, if_false, Bool.false_eq_true] using ow3, n2, (hBw.mono hB).trans (((Below.refl _ _).drew.trans b1).trans b2), (Wi.TKp.of_below hBw).trans hS2⟩
  · refine wp_cond_true (ev s14 rfl) ?_
    clear s14
    go_upto_region 3 with fail
    refine vh_start (fun v => Wi.TKp w1 v) (by kernel_rfl) ?_
    have hS2d : Wi.TKp w1 y2.drew := hS2.drewN 1
    refine vh_take 0 true (u2) rfl (by kernel_rfl) (by kernel_rfl) (by kernel_rfl) (want_none rfl) (fun hc v_ hv => ex_move rfl (ev s0 rfl)) rfl hz (by decide) hS2d (fun D_1 zz kk s15x => ?_)
    replace s0 := kt kk s0
    replace s2 := kt kk s2
    replace s4 := kt kk s4
    clear kk hz
    have hz := zz
    have s15 := s15x
    clear zz s15x
    refine vh_take 1 true (.pointer (some ⟨w.heap.size, 2, none⟩)) rfl (by kernel_rfl) (by kernel_rfl) (by kernel_rfl) (want_none rfl) (fun hc v_ hv => ex_fa rfl (ev s4 rfl) (by go_simp)) rfl hz (by decide) hS2d (fun D_2 zz kk s16x => ?_)
    replace s0 := kt kk s0
    replace s2 := kt kk s2
    replace s4 := kt kk s4
    replace s15 := kt kk s15
    clear kk hz
    have hz := zz
    have s16 := s16x
    clear zz s16x D_1
    refine vh_take 2 true (.pointer (some ⟨w.heap.size, 2, none⟩)) rfl (by kernel_rfl) (by kernel_rfl) (by kernel_rfl) (want_none rfl) (fun hc v_ hv => ex_fa rfl (ev s16 rfl) (by go_simp)) rfl hz (by decide) hS2d (fun D_3 zz kk s17x => ?_)
    replace s0 := kt kk s0
    replace s2 := kt kk s2
    replace s4 := kt kk s4
    replace s15 := kt kk s15
    clear kk hz s16
    have hz := zz
    have s17 := s17x
    clear zz s17x D_2
    refine vh_take 3 true (.int .i64 (k : Int)) rfl (by kernel_rfl) (by kernel_rfl) (by kernel_rfl) (want_none rfl) (fun hc v_ hv => ex_ld rfl (ev s17 rfl) (ldInt (HQ.out v_ hv 2 _ rfl))) rfl hz (by decide) hS2d (fun D_4 zz kk s18x => ?_)
    replace s0 := kt kk s0
    replace s2 := kt kk s2
    replace s4 := kt kk s4
    replace s15 := kt kk s15
    clear kk hz s17
    have hz := zz
    have s18 := s18x
    clear zz s18x D_3
    refine vh_take 5 true (.pointer (some ⟨w.heap.size, 2, none⟩)) rfl (by kernel_rfl) (by kernel_rfl) (by kernel_rfl) (want_none rfl) (fun hc v_ hv => ex_fa rfl (ev s4 rfl) (by go_simp)) rfl hz (by decide) hS2d (fun D_5 zz kk s20x => ?_)
    replace s0 := kt kk s0
    replace s2 := kt kk s2
    replace s4 := kt kk s4
    replace s15 := kt kk s15
    replace s18 := kt kk s18
    clear kk hz
    have hz := zz
    have s20 := s20x
    clear zz s20x D_4
    refine vh_take 6 true (.pointer (some ⟨w.heap.size, 3, none⟩)) rfl (by kernel_rfl) (by kernel_rfl) (by kernel_rfl) (want_none rfl) (fun hc v_ hv => ex_fa rfl (ev s20 rfl) (by go_simp)) rfl hz (by decide) hS2d (fun D_6 zz kk s21x => ?_)
    replace s0 := kt kk s0
    replace s2 := kt kk s2
    replace s4 := kt kk s4
    replace s15 := kt kk s15
    replace s18 := kt kk s18
    clear kk hz s20
    have hz := zz
    have s21 := s21x
    clear zz s21x D_5
    refine vh_take 7 true (.int .i64 (s : Int)) rfl (by kernel_rfl) (by kernel_rfl) (by kernel_rfl) (want_none rfl) (fun hc v_ hv => ex_ld rfl (ev s21 rfl) (ldInt (HQ.out v_ hv 3 _ rfl))) rfl hz (by decide) hS2d (fun D_7 zz kk s22x => ?_)
    replace s0 := kt kk s0
    replace s2 := kt kk s2
    replace s4 := kt kk s4
    replace s15 := kt kk s15
    replace s18 := kt kk s18
    clear kk hz s21
    have hz := zz
    have s22 := s22x
    clear zz s22x D_6
    refine vh_take 9 true (.pointer (some ⟨w.heap.size, 2, none⟩)) rfl (by kernel_rfl) (by kernel_rfl) (by kernel_rfl) (want_none rfl) (fun hc v_ hv => ex_fa rfl (ev s4 rfl) (by go_simp)) rfl hz (by decide) hS2d (fun D_8 zz kk s24x => ?_)
    replace s0 := kt kk s0
    replace s2 := kt kk s2
    replace s4 := kt kk s4
    replace s15 := kt kk s15
    replace s18 := kt kk s18
    replace s22 := kt kk s22
    clear kk hz
    have hz := zz
    have s24 := s24x
    clear zz s24x D_7
    refine vh_take 10 true (.pointer (some ⟨w.heap.size, 4, none⟩)) rfl (by kernel_rfl) (by kernel_rfl) (by kernel_rfl) (want_none rfl) (fun hc v_ hv => ex_fa rfl (ev s24 rfl) (by go_simp)) rfl hz (by decide) hS2d (fun D_9 zz kk s25x => ?_)
    replace s0 := kt kk s0
    replace s2 := kt kk s2
    replace s4 := kt kk s4
    replace s15 := kt kk s15
    replace s18 := kt kk s18
    replace s22 := kt kk s22
    clear kk hz s24
    have hz := zz
    have s25 := s25x
    clear zz s25x D_8
    refine vh_take 11 true (.string v) rfl (by kernel_rfl) (by kernel_rfl) (by kernel_rfl) (want_none rfl) (fun hc v_ hv => ex_ld rfl (ev s25 rfl) (ldStr (HQ.out v_ hv 4 _ rfl))) rfl hz (by decide) hS2d (fun D_10 zz kk s26x => ?_)
    replace s0 := kt kk s0
    replace s2 := kt kk s2
    replace s4 := kt kk s4
    replace s15 := kt kk s15
    replace s18 := kt kk s18
    replace s22 := kt kk s22
    clear kk hz s25
    have hz := zz
    have s26 := s26x
    clear zz s26x D_9
    refine vh_call 4 rfl (by kernel_rfl) (want_none rfl) (ex_call rfl (by simp only [List.map_toArray, List.map_cons, List.map_nil, (ev s15 rfl), (ev s18 rfl), evc] <;> rfl) rfl) (refput7 B u2 (l ++ M.form c ++ M.form n) k y2.drew (ow3.kept (Below.refl _ _).drew) (show B ≤ y2.heap.size by omega) (by omega) (by have := form_le (show c < 2 ^ 64 by omega); have := form_le (show n < 2 ^ 64 by omega); have := form_le (show k < 2 ^ 64 by omega); have := form_le (show s < 2 ^ 64 by omega); simp only [List.length_append]; omega)) rfl hz (by decide) ?_
    rintro e y3 ⟨u3, rfl, ow4, n3, b3, t3⟩
    refine ⟨_, rfl, (hS2d.trans t3), fun D_11 zz kk s19x => ?_⟩
    have hS3 := hS2d.trans t3
    have hsy3 := b3.size
    have hdr3 : y2.drew.heap.size = y2.heap.size := rfl
    replace s0 := kt kk s0
    replace s2 := kt kk s2
    replace s4 := kt kk s4
    replace s22 := kt kk s22
    replace s26 := kt kk s26
    clear kk hz s15 s18
    have hz := zz
    have s19 := s19x
    clear zz s19x D_10
    refine vh_call 8 rfl (by kernel_rfl) (want_none rfl) (ex_call rfl (by simp only [List.map_toArray, List.map_cons, List.map_nil, (ev s19 rfl), (ev s22 rfl), evc] <;> rfl) rfl) (refput7 B u3 (l ++ M.form c ++ M.form n ++ M.form k) s y3 ow4 (by omega) (by omega) (by have := form_le (show c < 2 ^ 64 by omega); have := form_le (show n < 2 ^ 64 by omega); have := form_le (show k < 2 ^ 64 by omega); have := form_le (show s < 2 ^ 64 by omega); simp only [List.length_append]; omega)) rfl hz (by decide) ?_
    rintro e y4 ⟨u4, rfl, ow5, n4, b4, t4⟩
    refine ⟨_, rfl, (hS3.trans t4), fun D_12 zz kk s23x => ?_⟩
    have hS4 := hS3.trans t4
    have hsy4 := b4.size
    replace s0 := kt kk s0
    replace s2 := kt kk s2
    replace s4 := kt kk s4
    replace s26 := kt kk s26
    clear kk hz s19 s22
    have hz := zz
    have s23 := s23x
    clear zz s23x D_11
    refine vh_call 12 rfl (by kernel_rfl) (want_none rfl) (ex_call rfl (by simp only [List.map_toArray, List.map_cons, List.map_nil, (ev s23 rfl), (ev s26 rfl), evc] <;> rfl) rfl) (refputText7 B u4 (l ++ M.form c ++ M.form n ++ M.form k ++ M.form s) v y4 ow5 (by omega) hv (by have := form_le (show c < 2 ^ 64 by omega); have := form_le (show n < 2 ^ 64 by omega); have := form_le (show k < 2 ^ 64 by omega); have := form_le (show s < 2 ^ 64 by omega); simp only [List.length_append]; omega)) rfl hz (by decide) ?_
    rintro e y5 ⟨u5, rfl, ow6, n5, b5, t5⟩
    refine ⟨_, rfl, (hS4.trans t5), fun D_13 zz kk s27x => ?_⟩
    have hS5 := hS4.trans t5
    have hsy5 := b5.size
    replace s0 := kt kk s0
    replace s2 := kt kk s2
    replace s4 := kt kk s4
    clear kk hz s23 s26
    have hz := zz
    have s27 := s27x
    clear zz s27x D_12
    refine vh_take 13 true (u5) rfl (by kernel_rfl) (by kernel_rfl) (by kernel_rfl) (want_none rfl) (fun hc v_ hv => ex_assign rfl (ev s27 rfl)) rfl hz (by decide) hS5 (fun D_14 zz kk s0x => ?_)
    replace s2 := kt kk s2
    replace s4 := kt kk s4
    clear kk hz s27 s0
    have hz := zz
    have s0 := s0x
    clear zz s0x D_13
    refine vh_done (by kernel_rfl) ?_
    go_upto_region 4 with fail
    refine wp_region_lit ?_
    refine vt _ (ex_move rfl (ev s0 rfl)) hz (fun E_1 zz kk s28x => ?_)
    clear kk hz s0 s2 s4
    have hz := zz
    have s28 := s28x
    clear zz s28x
    refine vt _ (ex_assign rfl (ev s28 rfl)) hz (fun E_2 zz kk s6x => ?_)
    clear kk hz s28
    have hz := zz
    have s6 := s6x
    clear zz s6x E_1
    refine wpList_nil ?_
    go_wp2
    exact bodyPost_ret1 rfl s6 ⟨_, rfl, by simpa only [nmBy, opBy, txBy, List.append_assoc, if_true] using ow6, n5, (hBw.mono hB).trans ((((Below.refl _ _).drew.trans b1).trans b2).trans (((Below.refl _ _).drew.trans b3).trans (b4.trans b5))), (Wi.TKp.of_below hBw).trans hS5⟩
def uj (k j : Nat) : Bool := !decide (tabA k j = 0)
theorem uj_true {k j : Nat} (h : uj k j = true) : ¬ (tabA k j : Int) = 0 := by
  unfold uj at h
  simp at h
  omega
theorem uj_false {k j : Nat} (h : uj k j = false) : (tabA k j : Int) = 0 := by
  unfold uj at h
  simp at h
  omega
theorem us_tab {k : Nat} (h0 : 1 ≤ k) (h1 : k < 15) : usL (k : Int) = (List.range 10).map (uj k) := by
  have : k = 1 ∨ k = 2 ∨ k = 3 ∨ k = 4 ∨ k = 5 ∨ k = 6 ∨ k = 7 ∨ k = 8 ∨ k = 9 ∨ k = 10 ∨ k = 11 ∨ k = 12 ∨ k = 13 ∨ k = 14 := by omega
  rcases this with rfl | rfl | rfl | rfl | rfl | rfl | rfl | rfl | rfl | rfl | rfl | rfl | rfl | rfl <;> decide
theorem uj_at (k : Nat) {j : Nat} (hj : j < 10) : ((List.range 10).map (uj k))[j]? = some (uj k j) := by simp [hj]
theorem op_at {k : Nat} (h0 : 1 ≤ k) (h1 : k < 15) : ((!decide ((k : Int) = 2)) && (!decide ((k : Int) = 14))) = (!decide ((tabA k 6 : Int) = 15)) := by
  have : k = 1 ∨ k = 2 ∨ k = 3 ∨ k = 4 ∨ k = 5 ∨ k = 6 ∨ k = 7 ∨ k = 8 ∨ k = 9 ∨ k = 10 ∨ k = 11 ∨ k = 12 ∨ k = 13 ∨ k = 14 := by omega
  rcases this with rfl | rfl | rfl | rfl | rfl | rfl | rfl | rfl | rfl | rfl | rfl | rfl | rfl | rfl <;> decide
def numL (m : Mg) : List Int := [m.nd, m.vw, m.ls, m.p, m.cm]
theorem num_at {m : Mg} {L : List En} {D : List (Int × Int)} (hm : mgF m L D) {j : Nat} (hj : j < 5) : 0 ≤ (numL m).getD j 0 ∧ (numL m).getD j 0 ≤ 9223372036854775807 := by
  match j, hj with
  | 0, _ => exact hm.nd
  | 1, _ => exact hm.vw
  | 2, _ => exact hm.ls
  | 3, _ => exact hm.p
  | 4, _ => exact hm.cm
theorem col_num {m : Mg} {L : List En} {D : List (Int × Int)} {j x : Nat} {op : Bool} (hj : j < 5) (hx : (numL m).getD j 0 = (x : Int)) : colBy m L D j op = M.form x := by
  match j, hj with
  | 0, _ | 1, _ | 2, _ | 3, _ | 4, _ =>
    simp only [numL, List.getD_cons_zero, List.getD_cons_succ] at hx
    simp only [colBy, hx, Int.toNat_natCast]
theorem Wi.not_wtyp_own {B : Nat} {w : World} {g n c : Nat} {l : List Bool} (h : OwnY yB B w (.slice (some ⟨g, 0, none⟩) n c) l) : ¬ Wi.wtyp w g := by
  rcases h.2 with ⟨e1, _⟩ | ⟨g', cap, cur, e1, _, e3, _⟩
  · cases e1
  · cases e1
    exact Wi.not_wtyp_kind e3 (by decide)
theorem ixInt (g j n cu : Nat) (hj : j < n) (w : World) : (Instr.indexAt 103 (.slice (some ⟨g, 0, none⟩) n cu) (.int .i64 (j : Int))).run Tryz.prog w = .ok (.pointer (some ⟨g, j, none⟩)) w := by
  have h1 : (j : Int) < (n : Int) := by omega
  go_simp
theorem bslice5 (a b c d e : Int) (W : World) : (Instr.buildSlice 103 5 #[(0, .int .i64 a), (1, .int .i64 b), (2, .int .i64 c), (3, .int .i64 d), (4, .int .i64 e)]).run Tryz.prog W = .ok (.slice (some ⟨W.heap.size, 0, none⟩) 5 5) (W.alloc (.cells #[.int .i64 a, .int .i64 b, .int .i64 c, .int .i64 d, .int .i64 e] 3)) := by
  go_simp
theorem ex_bs {o : Oper} {ρ : Operand → Value} {s : TypeId} {k : Nat} {ps : Array (Nat × Operand)} {P : Array (Nat × Value)} {V : Value} {w w' : World} (ho : o.op = .buildSlice s k ps) (hp : ps.map (fun (i, x) => (i, ρ x)) = P) (hr : (Instr.buildSlice s k P).run Tryz.prog w = .ok V w') : (execOp ρ o).run Tryz.prog w = .ok (.value V) w' := by
  unfold execOp
  simp only [ho, hp, Sem.run_bind, hr, Result.andThen_ok]
  rfl
theorem v_cond {x : Code} {R : Exit → Act → World → Prop} {T : Array Value} {w : World} {t : Nat} {b : Bool} (J : Array Value → World → Prop) (ht : T[t]? = some (gw true (.bool b))) (h1 : b = true → x.wp Tryz.prog (Exit.then (fun a w' => ∃ T', a = ⟨T', []⟩ ∧ J T' w') R) ⟨T, []⟩ w) (h2 : b = false → J T w) (hk : ∀ T' w', J T' w' → R .normal ⟨T', []⟩ w') : (Code.cond (.tmp t) x Code.skip).wp Tryz.prog R ⟨T, []⟩ w := by
  cases b with
  | true =>
    refine wp_cond_true (ev ht rfl) (Code.wp_mono (fun e a' w' h => ?_) (h1 rfl))
    cases e with
    | normal =>
      obtain ⟨T', rfl, hJ⟩ := h
      exact hk T' w' hJ
    | _ => exact h
  | false => exact wp_cond_false (ev ht rfl) (wp_skip (hk T w (h2 rfl)))
set_option maxRecDepth 100000 in
set_option maxHeartbeats 8000000 in
theorem refencode7 (c : Cf) (m : Mg) (a1 a2 : Option Addr) (cl cv : Nat) (L : List En) (D : List (Int × Int)) (w : World) (hL : SlY yE w a1 L.length cl L) (hfit : ∀ e ∈ L, e.fits) (hD : SlY yD w a2 D.length cv D) (hfe : m.e.fits) (hd : drF m.d) (hds : ∀ d ∈ D, drF d) :
    Calls Tryz.prog 17 #[c.val, m.val (.slice a1 L.length cl) (.slice a2 D.length cv)] w fun e w' => ∃ v, e = .returned (.tuple #[v, .int .i64 (ckM c m L D)]) ∧ Wi.Own w.heap.size w' v (enB c m L D) ∧ Below w.heap.size w w' := by
  have hlen : (L.length : Int) ≤ 9223372036854775807 := by have := hL.cap; have := hL.max; unfold maxLen at *; omega
  go_enter Tryz.func17, Tryz.ntmps17
  go_upto_region 1 with (refine boxMk rfl (.tmp 1) rfl m _ _ rfl ?_; intro q1 w1 hq1 M1 b1 z1)
  have hq2 : q1 = w.heap.size + 1 := by first | exact hq1 | simpa using hq1
  subst hq2
  have hB : Below w.heap.size w w1 := ((Below.refl _ _).alloc (Nat.le_refl _) _).trans (b1.mono (by simp))
  have hc1 : CfB w1 w.heap.size c := ⟨Nat.lt_of_succ_lt M1.lt, fun i x hx => (b1.cell (p := ⟨w.heap.size, i, none⟩) (by simp)).trans (by
    match i, hx with
    | 0, hx | 1, hx | 2, hx | 3, hx => cases hx; unfold Cf.val; simp
    | (j + 4), hx => simp at hx)⟩
  have HC : Hid (∀ v, Below w1.heap.size w1 v → CfB v w.heap.size c) := fun v hv => hc1.bel hv
  have HM : Hid (∀ v, Below w1.heap.size w1 v → MBox v (w.heap.size + 1) m (.slice a1 L.length cl) (.slice a2 D.length cv)) := fun v hv => M1.bel hv
  have HB : Hid (∀ v, Below w1.heap.size w1 v → Below w.heap.size w v) := fun v hv => hB.trans (hv.mono hB.size)
  have HLB : Hid (∀ v, Below w.heap.size w v → SlY yE v a1 L.length cl L) := fun v hv => hL.later hv
  have HDB : Hid (∀ v, Below w.heap.size w v → SlY yD v a2 D.length cv D) := fun v hv => hD.later hv
  have h1 : Below w1.heap.size w1 w1 := Below.refl _ _
  have HL1 := hide (HLB.out w1 hB)
  have HD1 := hide (HDB.out w1 hB)
  have HFI := hide hfit
  have HFE := hide hfe
  have HFD := hide hd
  have HFDs := hide hds
  have HLN := hide hlen
  clear M1 b1 z1 hB hq1 hc1 hL hD hfit hfe hd hds hlen
  refine wp_region_lit ?_
  refine vl_gen (fun T => T.size = 135 ∧ T[2]? = some (gw true (.pointer (some ⟨w.heap.size, 0, none⟩))) ∧ T[3]? = some (gw true (.pointer (some ⟨w.heap.size + 1, 0, none⟩)))) ⟨rfl, rfl, rfl⟩ (fun T0 ⟨hz, s2, s3⟩ => ?_)
  refine vt (.agg #[.int .i64 c.f, .int .i64 c.r, .int .i64 c.p, .bool c.u]) (ex_ld rfl (ev s2 rfl) ((HC.out w1 h1).ldAll)) hz (fun A1_1 zz kk s14x => ?_)
  replace s3 := kt kk s3
  clear kk hz s2
  have hz := zz
  have s14 := s14x
  clear zz s14x
  refine vt (m.val (.slice a1 L.length cl) (.slice a2 D.length cv)) (ex_ld rfl (ev s3 rfl) ((HM.out w1 h1).ldAll)) hz (fun A1_2 zz kk s15x => ?_)
  replace s3 := kt kk s3
  replace s14 := kt kk s14
  clear kk hz
  have hz := zz
  have s15 := s15x
  clear zz s15x A1_1
  refine vcallP (want_none rfl) (ex_call rfl (by simp only [List.map_toArray, List.map_cons, List.map_nil, (ev s14 rfl), (ev s15 rfl), evc] <;> rfl) rfl) (refcheck7 c m a1 a2 cl cv L D w1 HL1.out HFI.out HD1.out HFE.out) rfl hz (by decide) ?_
  rintro e w2 ⟨rfl, hb2⟩
  refine ⟨_, rfl, fun A1_3 zz kk s16x => ?_⟩
  replace s3 := kt kk s3
  clear kk hz s14 s15
  have hz := zz
  have s16 := s16x
  clear zz s16x A1_2
  refine vt _ (ex_assign rfl (ev s16 rfl)) hz (fun A1_4 zz kk s6x => ?_)
  replace s3 := kt kk s3
  clear kk hz s16
  have hz := zz
  have s6 := s6x
  clear zz s6x A1_3
  refine wpList_nil ?_
  go_upto_region 2 with fail
  refine wp_region_lit ?_
  refine vt _ (ex_move rfl (ev s6 rfl)) hz (fun A2_1 zz kk s17x => ?_)
  replace s3 := kt kk s3
  replace s6 := kt kk s6
  clear kk hz
  have hz := zz
  have s17 := s17x
  clear zz s17x
  refine vt (.bool (!decide ((ckM c m L D) = 0))) (ex_bin rfl (ev s17 rfl) rfl (neqC _ _ _ _ _)) hz (fun A2_2 zz kk s18x => ?_)
  replace s3 := kt kk s3
  replace s6 := kt kk s6
  clear kk hz s17
  have hz := zz
  have s18 := s18x
  clear zz s18x A2_1
  refine wpList_nil ?_
  go_upto_region 4 with fail
  cases e2 : !decide (ckM c m L D = 0)
  rotate_left
  · refine wp_cond_true ((ev s18 rfl).trans (congrArg Value.bool e2)) ?_
    have hn : ¬ ckM c m L D = 0 := by simpa using e2
    have EN : enB c m L D = [] := by unfold enB; rw [if_neg hn]
    clear s18 s3 e2
    go_upto_region 3 with fail
    refine wp_region_lit ?_
    refine vt _ (ex_move rfl (ev s6 rfl)) hz (fun A3_1 zz kk s19x => ?_)
    clear kk hz s6
    have hz := zz
    have s19 := s19x
    clear zz s19x
    refine vt (.slice none 0 0) (ex_assign rfl rfl) hz (fun A3_2 zz kk s4x => ?_)
    replace s19 := kt kk s19
    clear kk hz
    have hz := zz
    have s4 := s4x
    clear zz s4x A3_1
    refine vt _ (ex_assign rfl (ev s19 rfl)) hz (fun A3_3 zz kk s5x => ?_)
    replace s4 := kt kk s4
    clear kk hz s19
    have hz := zz
    have s5 := s5x
    clear zz s5x A3_2
    refine wpList_nil ?_
    have hfin := (HB.out w2 hb2)
    clear HC HM HB HLB HDB HL1 HD1
    go_wp2
    refine bodyPost_ret2 rfl s4 s5 ⟨_, rfl, ?_, hfin⟩
    rw [EN]
    exact Wi.Own.nil _ _
  refine wp_cond_false ((ev s18 rfl).trans (congrArg Value.bool e2)) ?_
  have hck : ckM c m L D = 0 := by simpa using e2
  clear s18 e2 s6
  obtain ⟨hmg, hk1, hk2⟩ := ck_mgF hck HFE.out HFI.out HFD.out HFDs.out HLN.out
  obtain ⟨k, hmk⟩ := Int.eq_ofNat_of_zero_le (show 0 ≤ m.k by omega)
  have hk15 : k < 15 := by omega
  have hk0 : 1 ≤ k := by omega
  have EN : enB c m L D = M.frame (mbBy m L D k) := by unfold enB; rw [if_pos hck, hmk]; rfl
  have hlb0 : (mbBy m L D k).length ≤ 28009 := by
    have f1 := form_le (show k < 2 ^ 64 by omega)
    have f2 := colsBy_le hmg k 10
    unfold mbBy
    rw [List.length_append]
    omega
  have HLEN : Hid (∀ j, (M.form k ++ colsBy m L D k j).length + 30000 ≤ 140737488355328) := fun j => by
    have f1 := form_le (show k < 2 ^ 64 by omega)
    have f2 := colsBy_le hmg k j
    rw [List.length_append]
    omega
  go_upto_region 4 with fail
  refine wp_region_lit ?_
  refine vt (.pointer (some ⟨w.heap.size + 1, 0, none⟩)) (ex_fa rfl (ev s3 rfl) (MBox.faKind _ _)) hz (fun A4_1 zz kk s20x => ?_)
  replace s3 := kt kk s3
  clear kk hz
  have hz := zz
  have s20 := s20x
  clear zz s20x
  refine vt (.int .i64 (k : Int)) (ex_ld rfl (ev s20 rfl) ((HM.out w2 hb2).ldKind.trans (by rw [hmk]))) hz (fun A4_2 zz kk s21x => ?_)
  replace s3 := kt kk s3
  clear kk hz s20
  have hz := zz
  have s21 := s21x
  clear zz s21x A4_1
  refine vt _ (ex_assign rfl (ev s21 rfl)) hz (fun A4_3 zz kk s7x => ?_)
  replace s3 := kt kk s3
  clear kk hz s21
  have hz := zz
  have s7 := s7x
  clear zz s7x A4_2
  refine wpList_nil ?_
  go_upto_region 5 with fail
  refine wp_region_lit ?_
  refine vt _ (ex_move rfl (ev s7 rfl)) hz (fun A5_1 zz kk s22x => ?_)
  replace s3 := kt kk s3
  replace s7 := kt kk s7
  clear kk hz
  have hz := zz
  have s22 := s22x
  clear zz s22x
  refine vcallP (want_none rfl) (ex_call rfl (by simp only [List.map_toArray, List.map_cons, List.map_nil, (ev s22 rfl), evc] <;> rfl) rfl) (uses_all (k : Int) w2) rfl hz (by decide) ?_
  rintro e w3 ⟨v6, rfl, O, hb3⟩; obtain ⟨au, cu, rfl, _, _, hau1, hau2⟩ := O.form
  refine ⟨_, rfl, fun A5_2 zz kk s23x => ?_⟩
  replace s3 := kt kk s3
  replace s7 := kt kk s7
  clear kk hz s22
  have hz := zz
  have s23 := s23x
  clear zz s23x A5_1
  refine vt _ (ex_assign rfl (ev s23 rfl)) hz (fun A5_3 zz kk s8x => ?_)
  replace s3 := kt kk s3
  replace s7 := kt kk s7
  clear kk hz s23
  have hz := zz
  have s8 := s8x
  clear zz s8x A5_2
  refine wpList_nil ?_
  have hul := us_tab hk0 hk15
  have hne : usL (k : Int) ≠ [] := by rw [hul]; simp
  obtain ⟨gu, rfl⟩ : ∃ g, au = some ⟨g, 0, none⟩ := by
    cases au with
    | none => exact absurd (hau1 rfl).1 hne
    | some x => obtain ⟨g, e, _⟩ := hau2 x rfl; exact ⟨g, by rw [e]⟩
  obtain ⟨g2, eg, hgl, hgs⟩ := hau2 _ rfl
  obtain rfl : gu = g2 := by simpa using eg
  have hu10 : (usL (k : Int)).length = 10 := by rw [hul]; rfl
  rw [hu10] at s8
  have hb13 : Below w1.heap.size w1 w3 := hb2.trans (hb3.mono hb2.size)
  have cu3 : ∀ j, j < 10 → w3.cell? ⟨gu, j, none⟩ = some (.bool (uj k j)) := fun j hj => by
    have := O.cell kB j (uj k j) (by rw [hul]; exact uj_at k hj) 0 (.bool (uj k j)) rfl
    simpa [yB] using this
  have nwu : ¬ Wi.wtyp w3 gu := Wi.not_wtyp_own O
  have hbw3 := HB.out w3 hb13
  go_upto_region 6 with fail
  refine wp_region_lit ?_
  refine vt _ (ex_move rfl (ev s7 rfl)) hz (fun A6_1 zz kk s24x => ?_)
  replace s3 := kt kk s3
  replace s7 := kt kk s7
  replace s8 := kt kk s8
  clear kk hz
  have hz := zz
  have s24 := s24x
  clear zz s24x
  refine vcallP (want_none rfl) (ex_call rfl (by simp only [List.map_toArray, List.map_cons, List.map_nil, (ev s24 rfl), evc] <;> rfl) rfl) (refput7 w.heap.size (.slice none 0 0) [] k w3 (Wi.Own.nil _ _) hbw3.size (by omega) (by show 0 + 9 ≤ _; omega)) rfl hz (by decide) ?_
  rintro e w4 ⟨vb, rfl, ob, nb, bb, tb⟩
  refine ⟨_, rfl, fun A6_2 zz kk s25x => ?_⟩
  rw [List.nil_append] at ob
  have hs34 := bb.size
  replace s3 := kt kk s3
  replace s7 := kt kk s7
  replace s8 := kt kk s8
  clear kk hz s24
  have hz := zz
  have s25 := s25x
  clear zz s25x A6_1
  refine vt _ (ex_assign rfl (ev s25 rfl)) hz (fun A6_3 zz kk s9x => ?_)
  replace s3 := kt kk s3
  replace s7 := kt kk s7
  replace s8 := kt kk s8
  clear kk hz s25
  have hz := zz
  have s9 := s9x
  clear zz s9x A6_2
  refine wpList_nil ?_
  have M4 := (HM.out w3 hb13).tk tb
  have cu4 : ∀ j, j < 10 → w4.cell? ⟨gu, j, none⟩ = some (.bool (uj k j)) := fun j hj => (tb.cell (p := ⟨gu, j, none⟩) hgs nwu).trans (cu3 j hj)
  obtain ⟨wb, hwb⟩ : ∃ wb, wb = w4.alloc (.cells #[.int .i64 m.nd, .int .i64 m.vw, .int .i64 m.ls, .int .i64 m.p, .int .i64 m.cm] 3) := ⟨_, rfl⟩
  have hsb : wb.heap.size = w4.heap.size + 1 := by rw [hwb]; simp
  have hb4b : Below w4.heap.size w4 wb := by rw [hwb]; exact (Below.refl _ _).alloc (Nat.le_refl _) _
  have nwu4 : ¬ Wi.wtyp w4 gu := fun h => nwu (Wi.wtyp_back tb hgs h)
  have HMb : Hid (∀ v, Wi.TKp wb v → MBox v (w.heap.size + 1) m (.slice a1 L.length cl) (.slice a2 D.length cv)) := fun v hv => (M4.bel hb4b).tk hv
  have HU : Hid (∀ v, Wi.TKp wb v → ∀ j, j < 10 → v.cell? ⟨gu, j, none⟩ = some (.bool (uj k j))) := fun v hv j hj => by
    have hg4 : gu < w4.heap.size := Nat.lt_of_lt_of_le hgs hs34
    have hgb : gu < wb.heap.size := by omega
    rw [hv.cell (p := ⟨gu, j, none⟩) hgb (fun h => nwu4 (Wi.wtyp_back (Wi.TKp.of_below hb4b) hg4 h)), hb4b.cell (p := ⟨gu, j, none⟩) hg4]
    exact cu4 j hj
  have HN : Hid (∀ v, Wi.TKp wb v → ∀ j, j < 5 → v.cell? ⟨w4.heap.size, j, none⟩ = some (.int .i64 ((numL m).getD j 0))) := fun v hv j hj => by
    rw [hv.cell (p := ⟨w4.heap.size, j, none⟩) (by rw [hsb]; exact Nat.lt_succ_self _) (by rw [hwb]; exact Wi.not_wtyp_box _ _ _ (by decide))]
    rw [hwb]
    refine cell_box _ _ _ _ _ ?_
    match j, hj with
    | 0, _ | 1, _ | 2, _ | 3, _ | 4, _ => rfl
  have hbwb : Below w.heap.size w wb := hbw3.trans (bb.trans (hb4b.mono (Nat.le_trans hbw3.size hs34)))
  have obb := ob.kept hb4b
  go_upto_region 7 with fail
  refine wp_region_lit ?_
  refine vt (.pointer (some ⟨w.heap.size + 1, 1, none⟩)) (ex_fa rfl (ev s3 rfl) (MBox.faNode _ _)) hz (fun A7_1 zz kk s26x => ?_)
  replace s3 := kt kk s3
  replace s7 := kt kk s7
  replace s8 := kt kk s8
  replace s9 := kt kk s9
  clear kk hz
  have hz := zz
  have s26 := s26x
  clear zz s26x
  refine vt (.int .i64 m.nd) (ex_ld rfl (ev s26 rfl) (M4.ldNode)) hz (fun A7_2 zz kk s27x => ?_)
  replace s3 := kt kk s3
  replace s7 := kt kk s7
  replace s8 := kt kk s8
  replace s9 := kt kk s9
  clear kk hz s26
  have hz := zz
  have s27 := s27x
  clear zz s27x A7_1
  refine vt (.pointer (some ⟨w.heap.size + 1, 2, none⟩)) (ex_fa rfl (ev s3 rfl) (MBox.faView _ _)) hz (fun A7_3 zz kk s28x => ?_)
  replace s3 := kt kk s3
  replace s7 := kt kk s7
  replace s8 := kt kk s8
  replace s9 := kt kk s9
  replace s27 := kt kk s27
  clear kk hz
  have hz := zz
  have s28 := s28x
  clear zz s28x A7_2
  refine vt (.int .i64 m.vw) (ex_ld rfl (ev s28 rfl) (M4.ldView)) hz (fun A7_4 zz kk s29x => ?_)
  replace s3 := kt kk s3
  replace s7 := kt kk s7
  replace s8 := kt kk s8
  replace s9 := kt kk s9
  replace s27 := kt kk s27
  clear kk hz s28
  have hz := zz
  have s29 := s29x
  clear zz s29x A7_3
  refine vt (.pointer (some ⟨w.heap.size + 1, 13, none⟩)) (ex_fa rfl (ev s3 rfl) (MBox.faLast _ _)) hz (fun A7_5 zz kk s30x => ?_)
  replace s3 := kt kk s3
  replace s7 := kt kk s7
  replace s8 := kt kk s8
  replace s9 := kt kk s9
  replace s27 := kt kk s27
  replace s29 := kt kk s29
  clear kk hz
  have hz := zz
  have s30 := s30x
  clear zz s30x A7_4
  refine vt (.int .i64 m.ls) (ex_ld rfl (ev s30 rfl) (M4.ldLast)) hz (fun A7_6 zz kk s31x => ?_)
  replace s3 := kt kk s3
  replace s7 := kt kk s7
  replace s8 := kt kk s8
  replace s9 := kt kk s9
  replace s27 := kt kk s27
  replace s29 := kt kk s29
  clear kk hz s30
  have hz := zz
  have s31 := s31x
  clear zz s31x A7_5
  refine vt (.pointer (some ⟨w.heap.size + 1, 11, none⟩)) (ex_fa rfl (ev s3 rfl) (MBox.faPlace _ _)) hz (fun A7_7 zz kk s32x => ?_)
  replace s3 := kt kk s3
  replace s7 := kt kk s7
  replace s8 := kt kk s8
  replace s9 := kt kk s9
  replace s27 := kt kk s27
  replace s29 := kt kk s29
  replace s31 := kt kk s31
  clear kk hz
  have hz := zz
  have s32 := s32x
  clear zz s32x A7_6
  refine vt (.int .i64 m.p) (ex_ld rfl (ev s32 rfl) (M4.ldPlace)) hz (fun A7_8 zz kk s33x => ?_)
  replace s3 := kt kk s3
  replace s7 := kt kk s7
  replace s8 := kt kk s8
  replace s9 := kt kk s9
  replace s27 := kt kk s27
  replace s29 := kt kk s29
  replace s31 := kt kk s31
  clear kk hz s32
  have hz := zz
  have s33 := s33x
  clear zz s33x A7_7
  refine vt (.pointer (some ⟨w.heap.size + 1, 12, none⟩)) (ex_fa rfl (ev s3 rfl) (MBox.faCommit _ _)) hz (fun A7_9 zz kk s34x => ?_)
  replace s3 := kt kk s3
  replace s7 := kt kk s7
  replace s8 := kt kk s8
  replace s9 := kt kk s9
  replace s27 := kt kk s27
  replace s29 := kt kk s29
  replace s31 := kt kk s31
  replace s33 := kt kk s33
  clear kk hz
  have hz := zz
  have s34 := s34x
  clear zz s34x A7_8
  refine vt (.int .i64 m.cm) (ex_ld rfl (ev s34 rfl) (M4.ldCommit)) hz (fun A7_10 zz kk s35x => ?_)
  replace s3 := kt kk s3
  replace s7 := kt kk s7
  replace s8 := kt kk s8
  replace s9 := kt kk s9
  replace s27 := kt kk s27
  replace s29 := kt kk s29
  replace s31 := kt kk s31
  replace s33 := kt kk s33
  clear kk hz s34
  have hz := zz
  have s35 := s35x
  clear zz s35x A7_9
  refine vw (.slice (some ⟨w4.heap.size, 0, none⟩) 5 5) wb (want_none rfl) (ex_bs rfl (by simp only [List.map_toArray, List.map_cons, List.map_nil, (ev s27 rfl), (ev s29 rfl), (ev s31 rfl), (ev s33 rfl), (ev s35 rfl)] <;> rfl) (by rw [hwb]; exact bslice5 _ _ _ _ _ _)) rfl hz (by decide) (fun A7_11 zz kk s36x => ?_)
  replace s3 := kt kk s3
  replace s7 := kt kk s7
  replace s8 := kt kk s8
  replace s9 := kt kk s9
  clear kk hz s27 s29 s31 s33 s35
  have hz := zz
  have s36 := s36x
  clear zz s36x A7_10
  refine vt _ (ex_assign rfl (ev s36 rfl)) hz (fun A7_12 zz kk s10x => ?_)
  replace s3 := kt kk s3
  replace s7 := kt kk s7
  replace s8 := kt kk s8
  replace s9 := kt kk s9
  clear kk hz s36
  have hz := zz
  have s10 := s10x
  clear zz s10x A7_11
  refine wpList_nil ?_
  clear HM HC M4 cu3 cu4 O hau1 hau2 eg
  have HM := HMb
  clear HMb
  go_upto_region 8 with fail
  refine wp_region_lit ?_
  refine vt (.int .i64 0) (ex_assign rfl rfl) hz (fun A8_1 zz kk s11x => ?_)
  replace s3 := kt kk s3
  replace s7 := kt kk s7
  replace s8 := kt kk s8
  replace s9 := kt kk s9
  replace s10 := kt kk s10
  clear kk hz
  have hz := zz
  have s11 := s11x
  clear zz s11x
  refine wpList_nil ?_
  go_upto_region 9 with fail
  refine v_loop 11 5 (fun j T wr => (T.size = 135 ∧ T[3]? = some (gw true (.pointer (some ⟨w.heap.size + 1, 0, none⟩))) ∧ T[7]? = some (gw true (.int .i64 (k : Int))) ∧ T[8]? = some (gw true (.slice (some ⟨gu, 0, none⟩) 10 cu)) ∧ T[10]? = some (gw true (.slice (some ⟨w4.heap.size, 0, none⟩) 5 5))) ∧ T[11]? = some (gw true (.int .i64 (j : Int))) ∧ ∃ vb, T[9]? = some (gw true vb) ∧ Hid (Wi.Own w.heap.size wr vb (M.form k ++ colsBy m L D k j) ∧ Below w.heap.size w wr ∧ Wi.TKp wb wr)) (fun j T w h => h.2.1) ⟨⟨hz, s3, s7, s8, s10⟩, s11, _, s9, by simpa [colsBy] using obb, hbwb, Wi.TKp.refl wb⟩ ?_
  clear hz s3 s7 s8 s9 s10 s11
  intro j R0 wr hj hh
  obtain ⟨⟨hz, s3, s7, s8, s10⟩, s11, vb2, s9, HI⟩ := hh
  go_upto_region 9 with fail
  refine wp_region_lit ?_
  refine vt _ (ex_move rfl (ev s11 rfl)) hz (fun A9_1 zz kk s37x => ?_)
  replace s3 := kt kk s3
  replace s7 := kt kk s7
  replace s8 := kt kk s8
  replace s9 := kt kk s9
  replace s10 := kt kk s10
  replace s11 := kt kk s11
  clear kk hz
  have hz := zz
  have s37 := s37x
  clear zz s37x
  refine vt (.bool (decide ((j : Int) < 5))) (ex_bin rfl (ev s37 rfl) rfl (lssC _ _ _ _ _)) hz (fun A9_2 zz kk s38x => ?_)
  replace s3 := kt kk s3
  replace s7 := kt kk s7
  replace s8 := kt kk s8
  replace s9 := kt kk s9
  replace s10 := kt kk s10
  replace s11 := kt kk s11
  clear kk hz s37
  have hz := zz
  have s38 := s38x
  clear zz s38x A9_1
  refine wpList_nil ?_
  go_upto_region 11 with fail
  cases e9 : decide ((j : Int) < 5)
  rotate_left
  · refine wp_cond_true ((ev s38 rfl).trans (congrArg Value.bool e9)) ?_
    have hlt : j < 5 := by have := of_decide_eq_true e9; omega
    clear s38 e9
    go_upto_region 11 with fail
    refine wp_region_lit ?_
    refine vt _ (ex_move rfl (ev s8 rfl)) hz (fun A11_1 zz kk s41x => ?_)
    replace s3 := kt kk s3
    replace s7 := kt kk s7
    replace s8 := kt kk s8
    replace s9 := kt kk s9
    replace s10 := kt kk s10
    replace s11 := kt kk s11
    clear kk hz
    have hz := zz
    have s41 := s41x
    clear zz s41x
    refine vt _ (ex_move rfl (ev s11 rfl)) hz (fun A11_2 zz kk s42x => ?_)
    replace s3 := kt kk s3
    replace s7 := kt kk s7
    replace s8 := kt kk s8
    replace s9 := kt kk s9
    replace s10 := kt kk s10
    replace s11 := kt kk s11
    replace s41 := kt kk s41
    clear kk hz
    have hz := zz
    have s42 := s42x
    clear zz s42x A11_1
    refine vt (.pointer (some ⟨gu, j, none⟩)) (ex_ix rfl (ev s41 rfl) (ev s42 rfl) (ixBool gu j 10 cu (by omega) _)) hz (fun A11_3 zz kk s43x => ?_)
    replace s3 := kt kk s3
    replace s7 := kt kk s7
    replace s8 := kt kk s8
    replace s9 := kt kk s9
    replace s10 := kt kk s10
    replace s11 := kt kk s11
    clear kk hz s41 s42
    have hz := zz
    have s43 := s43x
    clear zz s43x A11_2
    refine vt (.bool (uj k j)) (ex_ld rfl (ev s43 rfl) (ldBool (HU.out wr HI.out.2.2 j (by omega)))) hz (fun A11_4 zz kk s44x => ?_)
    replace s3 := kt kk s3
    replace s7 := kt kk s7
    replace s8 := kt kk s8
    replace s9 := kt kk s9
    replace s10 := kt kk s10
    replace s11 := kt kk s11
    clear kk hz s43
    have hz := zz
    have s44 := s44x
    clear zz s44x A11_3
    refine wpList_nil ?_
    go_upto_region 12 with fail
    refine v_cond (fun T wr => (T.size = 135 ∧ T[3]? = some (gw true (.pointer (some ⟨w.heap.size + 1, 0, none⟩))) ∧ T[7]? = some (gw true (.int .i64 (k : Int))) ∧ T[8]? = some (gw true (.slice (some ⟨gu, 0, none⟩) 10 cu)) ∧ T[10]? = some (gw true (.slice (some ⟨w4.heap.size, 0, none⟩) 5 5))) ∧ T[11]? = some (gw true (.int .i64 (j : Int))) ∧ ∃ vb, T[9]? = some (gw true vb) ∧ Hid (Wi.Own w.heap.size wr vb (M.form k ++ colsBy m L D k (j + 1)) ∧ Below w.heap.size w wr ∧ Wi.TKp wb wr)) s44 (fun hu => ?_) (fun hu => ⟨⟨hz, s3, s7, s8, s10⟩, s11, vb2, s9, by rw [colsBy_none (uj_false hu)]; exact HI.out.1, HI.out.2⟩) ?_
    · clear s44
      have hnum := num_at hmg hlt
      obtain ⟨xn, hxn⟩ := Int.eq_ofNat_of_zero_le hnum.1
      go_upto_region 12 with fail
      refine wp_region_lit ?_
      refine vt _ (ex_move rfl (ev s9 rfl)) hz (fun A12_1 zz kk s45x => ?_)
      replace s3 := kt kk s3
      replace s7 := kt kk s7
      replace s8 := kt kk s8
      replace s9 := kt kk s9
      replace s10 := kt kk s10
      replace s11 := kt kk s11
      clear kk hz
      have hz := zz
      have s45 := s45x
      clear zz s45x
      refine vt _ (ex_move rfl (ev s10 rfl)) hz (fun A12_2 zz kk s46x => ?_)
      replace s3 := kt kk s3
      replace s7 := kt kk s7
      replace s8 := kt kk s8
      replace s9 := kt kk s9
      replace s10 := kt kk s10
      replace s11 := kt kk s11
      replace s45 := kt kk s45
      clear kk hz
      have hz := zz
      have s46 := s46x
      clear zz s46x A12_1
      refine vt _ (ex_move rfl (ev s11 rfl)) hz (fun A12_3 zz kk s47x => ?_)
      replace s3 := kt kk s3
      replace s7 := kt kk s7
      replace s8 := kt kk s8
      replace s9 := kt kk s9
      replace s10 := kt kk s10
      replace s11 := kt kk s11
      replace s45 := kt kk s45
      replace s46 := kt kk s46
      clear kk hz
      have hz := zz
      have s47 := s47x
      clear zz s47x A12_2
      refine vt (.pointer (some ⟨w4.heap.size, j, none⟩)) (ex_ix rfl (ev s46 rfl) (ev s47 rfl) (ixInt w4.heap.size j 5 5 hlt _)) hz (fun A12_4 zz kk s48x => ?_)
      replace s3 := kt kk s3
      replace s7 := kt kk s7
      replace s8 := kt kk s8
      replace s9 := kt kk s9
      replace s10 := kt kk s10
      replace s11 := kt kk s11
      replace s45 := kt kk s45
      clear kk hz s46 s47
      have hz := zz
      have s48 := s48x
      clear zz s48x A12_3
      refine vt (.int .i64 ((numL m).getD j 0)) (ex_ld rfl (ev s48 rfl) (ldInt (HN.out wr HI.out.2.2 j hlt))) hz (fun A12_5 zz kk s49x => ?_)
      replace s3 := kt kk s3
      replace s7 := kt kk s7
      replace s8 := kt kk s8
      replace s9 := kt kk s9
      replace s10 := kt kk s10
      replace s11 := kt kk s11
      replace s45 := kt kk s45
      clear kk hz s48
      have hz := zz
      have s49 := s49x
      clear zz s49x A12_4
      refine vcallP (want_none rfl) (ex_call rfl (by simp only [List.map_toArray, List.map_cons, List.map_nil, (ev s45 rfl), (ev s49 rfl), evc] <;> rfl) rfl) (by rw [hxn]; exact refput7 w.heap.size vb2 _ xn wr HI.out.1 HI.out.2.1.size (by rw [hxn] at hnum; omega) (by have := HLEN.out j; omega)) rfl hz (by decide) ?_
      rintro e w6 ⟨vb3, rfl, ob3, nb3, bb3, tb3⟩
      refine ⟨_, rfl, fun A12_6 zz kk s50x => ?_⟩
      replace s3 := kt kk s3
      replace s7 := kt kk s7
      replace s8 := kt kk s8
      replace s9 := kt kk s9
      replace s10 := kt kk s10
      replace s11 := kt kk s11
      clear kk hz s45 s49
      have hz := zz
      have s50 := s50x
      clear zz s50x A12_5
      refine vt _ (ex_assign rfl (ev s50 rfl)) hz (fun A12_7 zz kk s9x => ?_)
      replace s3 := kt kk s3
      replace s7 := kt kk s7
      replace s8 := kt kk s8
      replace s10 := kt kk s10
      replace s11 := kt kk s11
      clear kk hz s50 s9
      have hz := zz
      have s9 := s9x
      clear zz s9x A12_6
      refine wpList_nil ?_
      exact ⟨_, rfl, ⟨hz, s3, s7, s8, s10⟩, s11, _, s9, by rw [colsBy_some (uj_true hu), col_num hlt hxn, ← List.append_assoc]; exact ob3, HI.out.2.1.trans bb3, HI.out.2.2.trans tb3⟩
    · clear hz s3 s7 s8 s9 s10 s11 s44 HI
      intro T6 w6 hJ
      obtain ⟨⟨hz, s3, s7, s8, s10⟩, s11, vb3, s9, HI⟩ := hJ
      go_upto_region 10 with fail
      refine wp_region_lit ?_
      refine vt _ (ex_move rfl (ev s11 rfl)) hz (fun A10_1 zz kk s39x => ?_)
      replace s3 := kt kk s3
      replace s7 := kt kk s7
      replace s8 := kt kk s8
      replace s9 := kt kk s9
      replace s10 := kt kk s10
      replace s11 := kt kk s11
      clear kk hz
      have hz := zz
      have s39 := s39x
      clear zz s39x
      refine vt (.int .i64 ((j + 1 : Nat) : Int)) (ex_bin rfl (ev s39 rfl) rfl (addJ j (by omega) _ _ _)) hz (fun A10_2 zz kk s40x => ?_)
      replace s3 := kt kk s3
      replace s7 := kt kk s7
      replace s8 := kt kk s8
      replace s9 := kt kk s9
      replace s10 := kt kk s10
      replace s11 := kt kk s11
      clear kk hz s39
      have hz := zz
      have s40 := s40x
      clear zz s40x A10_1
      refine vt _ (ex_assign rfl (ev s40 rfl)) hz (fun A10_3 zz kk s11x => ?_)
      replace s3 := kt kk s3
      replace s7 := kt kk s7
      replace s8 := kt kk s8
      replace s9 := kt kk s9
      replace s10 := kt kk s10
      clear kk hz s40 s11
      have hz := zz
      have s11 := s11x
      clear zz s11x A10_2
      refine wpList_nil ?_
      exact ⟨_, rfl, by omega, ⟨hz, s3, s7, s8, s10⟩, s11, _, s9, HI.out⟩
  refine wp_cond_false ((ev s38 rfl).trans (congrArg Value.bool e9)) ?_
  have hj5 : j = 5 := by have := of_decide_eq_false e9; omega
  subst hj5
  clear s38 e9 s10 s11 hj
  go_upto_region 13 with fail
  refine wp_region_lit ?_
  refine vt _ (ex_move rfl (ev s8 rfl)) hz (fun A13_1 zz kk s51x => ?_)
  replace s3 := kt kk s3
  replace s7 := kt kk s7
  replace s8 := kt kk s8
  replace s9 := kt kk s9
  clear kk hz
  have hz := zz
  have s51 := s51x
  clear zz s51x
  refine vt (.pointer (some ⟨gu, 5, none⟩)) (ex_ix rfl (ev s51 rfl) rfl (ixBool gu 5 10 cu (by omega) _)) hz (fun A13_2 zz kk s52x => ?_)
  replace s3 := kt kk s3
  replace s7 := kt kk s7
  replace s8 := kt kk s8
  replace s9 := kt kk s9
  clear kk hz s51
  have hz := zz
  have s52 := s52x
  clear zz s52x A13_1
  refine vt (.bool (uj k 5)) (ex_ld rfl (ev s52 rfl) (ldBool (HU.out wr HI.out.2.2 5 (by omega)))) hz (fun A13_3 zz kk s53x => ?_)
  replace s3 := kt kk s3
  replace s7 := kt kk s7
  replace s8 := kt kk s8
  replace s9 := kt kk s9
  clear kk hz s52
  have hz := zz
  have s53 := s53x
  clear zz s53x A13_2
  refine wpList_nil ?_
  go_upto_region 14 with fail
  refine v_cond (fun T wr => (T.size = 135 ∧ T[3]? = some (gw true (.pointer (some ⟨w.heap.size + 1, 0, none⟩))) ∧ T[7]? = some (gw true (.int .i64 (k : Int))) ∧ T[8]? = some (gw true (.slice (some ⟨gu, 0, none⟩) 10 cu))) ∧ ∃ vb, T[9]? = some (gw true vb) ∧ Hid (Wi.Own w.heap.size wr vb (M.form k ++ colsBy m L D k 6) ∧ Below w.heap.size w wr ∧ Wi.TKp wb wr)) s53 (fun hu => ?_) (fun hu => ⟨⟨hz, s3, s7, s8⟩, vb2, s9, by rw [colsBy_none (uj_false hu)]; exact HI.out.1, HI.out.2⟩) ?_
  · clear s53
    have hdd := hmg.d
    obtain ⟨dx, hdx⟩ := Int.eq_ofNat_of_zero_le hdd.1
    obtain ⟨dy, hdy⟩ := Int.eq_ofNat_of_zero_le hdd.2.2.1
    go_upto_region 14 with fail
    refine wp_region_lit ?_
    refine vt _ (ex_move rfl (ev s9 rfl)) hz (fun A14_1 zz kk s54x => ?_)
    replace s3 := kt kk s3
    replace s7 := kt kk s7
    replace s8 := kt kk s8
    replace s9 := kt kk s9
    clear kk hz
    have hz := zz
    have s54 := s54x
    clear zz s54x
    refine vt (.pointer (some ⟨w.heap.size + 1, 14, none⟩)) (ex_fa rfl (ev s3 rfl) (MBox.faDraw _ _)) hz (fun A14_2 zz kk s55x => ?_)
    replace s3 := kt kk s3
    replace s7 := kt kk s7
    replace s8 := kt kk s8
    replace s9 := kt kk s9
    replace s54 := kt kk s54
    clear kk hz
    have hz := zz
    have s55 := s55x
    clear zz s55x A14_1
    refine vt (.agg #[.int .u64 m.d.1, .int .u64 m.d.2]) (ex_ld rfl (ev s55 rfl) ((HM.out wr HI.out.2.2).ldDraw)) hz (fun A14_3 zz kk s56x => ?_)
    replace s3 := kt kk s3
    replace s7 := kt kk s7
    replace s8 := kt kk s8
    replace s9 := kt kk s9
    replace s54 := kt kk s54
    clear kk hz s55
    have hz := zz
    have s56 := s56x
    clear zz s56x A14_2
    refine vcallP (want_none rfl) (ex_call rfl (by simp only [List.map_toArray, List.map_cons, List.map_nil, (ev s54 rfl), (ev s56 rfl), evc] <;> rfl) rfl) (by rw [hdx, hdy]; exact refputDraw7 w.heap.size vb2 _ dx dy wr HI.out.1 HI.out.2.1.size (by have := hdd.2.1; omega) (by have := hdd.2.2.2; omega) (by have := HLEN.out 5; omega)) rfl hz (by decide) ?_
    rintro e wq ⟨vq, rfl, obq, nbq, bbq, tbq⟩
    refine ⟨_, rfl, fun A14_4 zz kk s57x => ?_⟩
    replace s3 := kt kk s3
    replace s7 := kt kk s7
    replace s8 := kt kk s8
    replace s9 := kt kk s9
    clear kk hz s54 s56
    have hz := zz
    have s57 := s57x
    clear zz s57x A14_3
    refine vt _ (ex_assign rfl (ev s57 rfl)) hz (fun A14_5 zz kk s9x => ?_)
    replace s3 := kt kk s3
    replace s7 := kt kk s7
    replace s8 := kt kk s8
    clear kk hz s57 s9
    have hz := zz
    have s9 := s9x
    clear zz s9x A14_4
    refine wpList_nil ?_
    exact ⟨_, rfl, ⟨hz, s3, s7, s8⟩, _, s9, by rw [colsBy_some (uj_true hu), ← List.append_assoc]; simpa only [colBy, hdx, hdy, Int.toNat_natCast] using obq, HI.out.2.1.trans bbq, HI.out.2.2.trans tbq⟩
  intro Tc5 wr5 hJ
  clear hz s3 s7 s8 s9 s53 HI
  obtain ⟨⟨hz, s3, s7, s8⟩, vb5, s9, HI⟩ := hJ
  go_upto_region 15 with fail
  refine wp_region_lit ?_
  refine vt _ (ex_move rfl (ev s8 rfl)) hz (fun A15_1 zz kk s58x => ?_)
  replace s3 := kt kk s3
  replace s7 := kt kk s7
  replace s8 := kt kk s8
  replace s9 := kt kk s9
  clear kk hz
  have hz := zz
  have s58 := s58x
  clear zz s58x
  refine vt (.pointer (some ⟨gu, 6, none⟩)) (ex_ix rfl (ev s58 rfl) rfl (ixBool gu 6 10 cu (by omega) _)) hz (fun A15_2 zz kk s59x => ?_)
  replace s3 := kt kk s3
  replace s7 := kt kk s7
  replace s8 := kt kk s8
  replace s9 := kt kk s9
  clear kk hz s58
  have hz := zz
  have s59 := s59x
  clear zz s59x A15_1
  refine vt (.bool (uj k 6)) (ex_ld rfl (ev s59 rfl) (ldBool (HU.out wr5 HI.out.2.2 6 (by omega)))) hz (fun A15_3 zz kk s60x => ?_)
  replace s3 := kt kk s3
  replace s7 := kt kk s7
  replace s8 := kt kk s8
  replace s9 := kt kk s9
  clear kk hz s59
  have hz := zz
  have s60 := s60x
  clear zz s60x A15_2
  refine wpList_nil ?_
  go_upto_region 16 with fail
  refine v_cond (fun T wr => (T.size = 135 ∧ T[3]? = some (gw true (.pointer (some ⟨w.heap.size + 1, 0, none⟩))) ∧ T[7]? = some (gw true (.int .i64 (k : Int))) ∧ T[8]? = some (gw true (.slice (some ⟨gu, 0, none⟩) 10 cu))) ∧ ∃ vb, T[9]? = some (gw true vb) ∧ Hid (Wi.Own w.heap.size wr vb (M.form k ++ colsBy m L D k 7) ∧ Below w.heap.size w wr ∧ Wi.TKp wb wr)) s60 (fun hu => ?_) (fun hu => ⟨⟨hz, s3, s7, s8⟩, vb5, s9, by rw [colsBy_none (uj_false hu)]; exact HI.out.1, HI.out.2⟩) ?_
  · clear s60
    have hee := hmg.e
    obtain ⟨ec, hec⟩ := Int.eq_ofNat_of_zero_le hee.1
    obtain ⟨en, hen⟩ := Int.eq_ofNat_of_zero_le hee.2.2.1
    obtain ⟨ek, hek⟩ := Int.eq_ofNat_of_zero_le hee.2.2.2.2.1
    obtain ⟨es, hes⟩ := Int.eq_ofNat_of_zero_le hee.2.2.2.2.2.2.1
    have e_1 := hee.2.1
    have e_2 := hee.2.2.2.1
    have e_3 := hee.2.2.2.2.2.1
    have e_4 := hee.2.2.2.2.2.2.2.1
    go_upto_region 16 with fail
    refine wp_region_lit ?_
    refine vt _ (ex_move rfl (ev s9 rfl)) hz (fun A16_1 zz kk s61x => ?_)
    replace s3 := kt kk s3
    replace s7 := kt kk s7
    replace s8 := kt kk s8
    replace s9 := kt kk s9
    clear kk hz
    have hz := zz
    have s61 := s61x
    clear zz s61x
    refine vt (.pointer (some ⟨w.heap.size + 1, 3, none⟩)) (ex_fa rfl (ev s3 rfl) (MBox.faEntry _ _)) hz (fun A16_2 zz kk s62x => ?_)
    replace s3 := kt kk s3
    replace s7 := kt kk s7
    replace s8 := kt kk s8
    replace s9 := kt kk s9
    replace s61 := kt kk s61
    clear kk hz
    have hz := zz
    have s62 := s62x
    clear zz s62x A16_1
    refine vt (.agg #[.int .i64 m.e.c, .int .i64 m.e.n, .int .i64 m.e.o.k, .int .i64 m.e.o.s, .string m.e.o.v]) (ex_ld rfl (ev s62 rfl) ((HM.out wr5 HI.out.2.2).ldEntry)) hz (fun A16_3 zz kk s63x => ?_)
    replace s3 := kt kk s3
    replace s7 := kt kk s7
    replace s8 := kt kk s8
    replace s9 := kt kk s9
    replace s61 := kt kk s61
    clear kk hz s62
    have hz := zz
    have s63 := s63x
    clear zz s63x A16_2
    refine vt _ (ex_move rfl (ev s7 rfl)) hz (fun A16_4 zz kk s64x => ?_)
    replace s3 := kt kk s3
    replace s7 := kt kk s7
    replace s8 := kt kk s8
    replace s9 := kt kk s9
    replace s61 := kt kk s61
    replace s63 := kt kk s63
    clear kk hz
    have hz := zz
    have s64 := s64x
    clear zz s64x A16_3
    refine vt (.bool (!decide ((k : Int) = 2))) (ex_bin rfl (ev s64 rfl) rfl (neqC _ _ _ _ _)) hz (fun A16_5 zz kk s65x => ?_)
    replace s3 := kt kk s3
    replace s7 := kt kk s7
    replace s8 := kt kk s8
    replace s9 := kt kk s9
    replace s61 := kt kk s61
    replace s63 := kt kk s63
    clear kk hz s64
    have hz := zz
    have s65 := s65x
    clear zz s65x A16_4
    refine vt _ (ex_move rfl (ev s65 rfl)) hz (fun A16_6 zz kk s66x => ?_)
    replace s3 := kt kk s3
    replace s7 := kt kk s7
    replace s8 := kt kk s8
    replace s9 := kt kk s9
    replace s61 := kt kk s61
    replace s63 := kt kk s63
    clear kk hz s65
    have hz := zz
    have s66 := s66x
    clear zz s66x A16_5
    refine vl _ _ (want_g rfl rfl s66) (fun hc => ex_move rfl (ev s7 rfl)) rfl hz (by decide) (fun A16_7 zz kk s67x => ?_)
    replace s3 := kt kk s3
    replace s7 := kt kk s7
    replace s8 := kt kk s8
    replace s9 := kt kk s9
    replace s61 := kt kk s61
    replace s63 := kt kk s63
    replace s66 := kt kk s66
    clear kk hz
    have hz := zz
    have s67 := s67x
    clear zz s67x A16_6
    refine vl _ (.bool (!decide ((k : Int) = 14))) (want_g rfl rfl s66) (fun hc => ex_bin rfl (ev s67 hc) rfl (neqC _ _ _ _ _)) rfl hz (by decide) (fun A16_8 zz kk s68x => ?_)
    replace s3 := kt kk s3
    replace s7 := kt kk s7
    replace s8 := kt kk s8
    replace s9 := kt kk s9
    replace s61 := kt kk s61
    replace s63 := kt kk s63
    replace s66 := kt kk s66
    clear kk hz s67
    have hz := zz
    have s68 := s68x
    clear zz s68x A16_7
    refine vt (.bool ((!decide ((k : Int) = 2)) && (!decide ((k : Int) = 14)))) (ex_and rfl s66 s68 rfl) hz (fun A16_9 zz kk s69x => ?_)
    replace s3 := kt kk s3
    replace s7 := kt kk s7
    replace s8 := kt kk s8
    replace s9 := kt kk s9
    replace s61 := kt kk s61
    replace s63 := kt kk s63
    clear kk hz s66 s68
    have hz := zz
    have s69 := s69x
    clear zz s69x A16_8
    refine vcallP (want_none rfl) (ex_call rfl (by simp only [List.map_toArray, List.map_cons, List.map_nil, (ev s61 rfl), (ev s63 rfl), (ev s69 rfl), evc] <;> rfl) rfl) (by rw [hec, hen, hek, hes]; exact refputEntry7 w.heap.size vb5 _ ec en ek es m.e.o.v _ wr5 HI.out.1 HI.out.2.1.size (by omega) (by omega) (by omega) (by omega) hee.2.2.2.2.2.2.2.2 (by have := HLEN.out 6; omega)) rfl hz (by decide) ?_
    rintro e wq ⟨vq, rfl, obq, nbq, bbq, tbq⟩
    refine ⟨_, rfl, fun A16_10 zz kk s70x => ?_⟩
    replace s3 := kt kk s3
    replace s7 := kt kk s7
    replace s8 := kt kk s8
    replace s9 := kt kk s9
    clear kk hz s61 s63 s69
    have hz := zz
    have s70 := s70x
    clear zz s70x A16_9
    refine vt _ (ex_assign rfl (ev s70 rfl)) hz (fun A16_11 zz kk s9x => ?_)
    replace s3 := kt kk s3
    replace s7 := kt kk s7
    replace s8 := kt kk s8
    clear kk hz s70 s9
    have hz := zz
    have s9 := s9x
    clear zz s9x A16_10
    refine wpList_nil ?_
    exact ⟨_, rfl, ⟨hz, s3, s7, s8⟩, _, s9, by rw [colsBy_some (uj_true hu), ← List.append_assoc]; rw [op_at hk0 hk15] at obq; simpa only [colBy, hec, hen, hek, hes, Int.toNat_natCast, List.append_assoc] using obq, HI.out.2.1.trans bbq, HI.out.2.2.trans tbq⟩
  intro Tc6 wr6 hJ
  clear hz s3 s7 s8 s9 s60 HI
  obtain ⟨⟨hz, s3, s7, s8⟩, vb6, s9, HI⟩ := hJ
  go_upto_region 17 with fail
  refine wp_region_lit ?_
  refine vt _ (ex_move rfl (ev s8 rfl)) hz (fun A17_1 zz kk s71x => ?_)
  replace s3 := kt kk s3
  replace s7 := kt kk s7
  replace s8 := kt kk s8
  replace s9 := kt kk s9
  clear kk hz
  have hz := zz
  have s71 := s71x
  clear zz s71x
  refine vt (.pointer (some ⟨gu, 7, none⟩)) (ex_ix rfl (ev s71 rfl) rfl (ixBool gu 7 10 cu (by omega) _)) hz (fun A17_2 zz kk s72x => ?_)
  replace s3 := kt kk s3
  replace s7 := kt kk s7
  replace s8 := kt kk s8
  replace s9 := kt kk s9
  clear kk hz s71
  have hz := zz
  have s72 := s72x
  clear zz s72x A17_1
  refine vt (.bool (uj k 7)) (ex_ld rfl (ev s72 rfl) (ldBool (HU.out wr6 HI.out.2.2 7 (by omega)))) hz (fun A17_3 zz kk s73x => ?_)
  replace s3 := kt kk s3
  replace s7 := kt kk s7
  replace s8 := kt kk s8
  replace s9 := kt kk s9
  clear kk hz s72
  have hz := zz
  have s73 := s73x
  clear zz s73x A17_2
  refine wpList_nil ?_
  go_upto_region 18 with fail
  refine v_cond (fun T wr => (T.size = 135 ∧ T[3]? = some (gw true (.pointer (some ⟨w.heap.size + 1, 0, none⟩))) ∧ T[7]? = some (gw true (.int .i64 (k : Int))) ∧ T[8]? = some (gw true (.slice (some ⟨gu, 0, none⟩) 10 cu))) ∧ ∃ vb, T[9]? = some (gw true vb) ∧ Hid (Wi.Own w.heap.size wr vb (M.form k ++ colsBy m L D k 8) ∧ Below w.heap.size w wr ∧ Wi.TKp wb wr)) s73 (fun hu => ?_) (fun hu => ⟨⟨hz, s3, s7, s8⟩, vb6, s9, by rw [colsBy_none (uj_false hu)]; exact HI.out.1, HI.out.2⟩) ?_
  · clear s73
    have hrr := hmg.r
    obtain ⟨rc, hrc⟩ := Int.eq_ofNat_of_zero_le hrr.1
    obtain ⟨rs, hrs⟩ := Int.eq_ofNat_of_zero_le hrr.2.2.1
    have r_1 := hrr.2.1
    have r_2 := hrr.2.2.2.1
    go_upto_region 18 with fail
    refine vh_start (fun v => Wi.TKp wb v) (by kernel_rfl) ?_
    have hS : Wi.TKp wb wr6.drew := HI.out.2.2.drewN 1
    refine vh_take 0 true (vb6) rfl (by kernel_rfl) (by kernel_rfl) (by kernel_rfl) (want_none rfl) (fun hc v hv => ex_move rfl (ev s9 rfl)) rfl hz (by decide) hS (fun A18_1 zz kk s74x => ?_)
    replace s3 := kt kk s3
    replace s7 := kt kk s7
    replace s8 := kt kk s8
    replace s9 := kt kk s9
    clear kk hz
    have hz := zz
    have s74 := s74x
    clear zz s74x
    refine vh_take 1 true (.pointer (some ⟨w.heap.size + 1, 8, none⟩)) rfl (by kernel_rfl) (by kernel_rfl) (by kernel_rfl) (want_none rfl) (fun hc v hv => ex_fa rfl (ev s3 rfl) (MBox.faResult _ _)) rfl hz (by decide) hS (fun A18_2 zz kk s75x => ?_)
    replace s3 := kt kk s3
    replace s7 := kt kk s7
    replace s8 := kt kk s8
    replace s9 := kt kk s9
    replace s74 := kt kk s74
    clear kk hz
    have hz := zz
    have s75 := s75x
    clear zz s75x A18_1
    refine vh_take 2 true (.pointer (some ⟨w.heap.size + 1, 8, none⟩)) rfl (by kernel_rfl) (by kernel_rfl) (by kernel_rfl) (want_none rfl) (fun hc v hv => ex_fa rfl (ev s75 rfl) (by go_simp)) rfl hz (by decide) hS (fun A18_3 zz kk s76x => ?_)
    replace s3 := kt kk s3
    replace s7 := kt kk s7
    replace s8 := kt kk s8
    replace s9 := kt kk s9
    replace s74 := kt kk s74
    clear kk hz s75
    have hz := zz
    have s76 := s76x
    clear zz s76x A18_2
    refine vh_take 3 true (.int .i64 m.r.1) rfl (by kernel_rfl) (by kernel_rfl) (by kernel_rfl) (want_none rfl) (fun hc v hv => ex_ld rfl (ev s76 rfl) (s_ldCode (HM.out v hv))) rfl hz (by decide) hS (fun A18_4 zz kk s77x => ?_)
    replace s3 := kt kk s3
    replace s7 := kt kk s7
    replace s8 := kt kk s8
    replace s9 := kt kk s9
    replace s74 := kt kk s74
    clear kk hz s76
    have hz := zz
    have s77 := s77x
    clear zz s77x A18_3
    refine vh_take 5 true (.pointer (some ⟨w.heap.size + 1, 8, none⟩)) rfl (by kernel_rfl) (by kernel_rfl) (by kernel_rfl) (want_none rfl) (fun hc v hv => ex_fa rfl (ev s3 rfl) (MBox.faResult _ _)) rfl hz (by decide) hS (fun A18_5 zz kk s79x => ?_)
    replace s3 := kt kk s3
    replace s7 := kt kk s7
    replace s8 := kt kk s8
    replace s9 := kt kk s9
    replace s74 := kt kk s74
    replace s77 := kt kk s77
    clear kk hz
    have hz := zz
    have s79 := s79x
    clear zz s79x A18_4
    refine vh_take 6 true (.pointer (some ⟨w.heap.size + 1, 9, none⟩)) rfl (by kernel_rfl) (by kernel_rfl) (by kernel_rfl) (want_none rfl) (fun hc v hv => ex_fa rfl (ev s79 rfl) (by go_simp)) rfl hz (by decide) hS (fun A18_6 zz kk s80x => ?_)
    replace s3 := kt kk s3
    replace s7 := kt kk s7
    replace s8 := kt kk s8
    replace s9 := kt kk s9
    replace s74 := kt kk s74
    replace s77 := kt kk s77
    clear kk hz s79
    have hz := zz
    have s80 := s80x
    clear zz s80x A18_5
    refine vh_take 7 true (.int .i64 m.r.2.1) rfl (by kernel_rfl) (by kernel_rfl) (by kernel_rfl) (want_none rfl) (fun hc v hv => ex_ld rfl (ev s80 rfl) (ldInt ((HM.out v hv).cell 9 _ rfl))) rfl hz (by decide) hS (fun A18_7 zz kk s81x => ?_)
    replace s3 := kt kk s3
    replace s7 := kt kk s7
    replace s8 := kt kk s8
    replace s9 := kt kk s9
    replace s74 := kt kk s74
    replace s77 := kt kk s77
    clear kk hz s80
    have hz := zz
    have s81 := s81x
    clear zz s81x A18_6
    refine vh_take 9 true (.pointer (some ⟨w.heap.size + 1, 8, none⟩)) rfl (by kernel_rfl) (by kernel_rfl) (by kernel_rfl) (want_none rfl) (fun hc v hv => ex_fa rfl (ev s3 rfl) (MBox.faResult _ _)) rfl hz (by decide) hS (fun A18_8 zz kk s83x => ?_)
    replace s3 := kt kk s3
    replace s7 := kt kk s7
    replace s8 := kt kk s8
    replace s9 := kt kk s9
    replace s74 := kt kk s74
    replace s77 := kt kk s77
    replace s81 := kt kk s81
    clear kk hz
    have hz := zz
    have s83 := s83x
    clear zz s83x A18_7
    refine vh_take 10 true (.pointer (some ⟨w.heap.size + 1, 10, none⟩)) rfl (by kernel_rfl) (by kernel_rfl) (by kernel_rfl) (want_none rfl) (fun hc v hv => ex_fa rfl (ev s83 rfl) (by go_simp)) rfl hz (by decide) hS (fun A18_9 zz kk s84x => ?_)
    replace s3 := kt kk s3
    replace s7 := kt kk s7
    replace s8 := kt kk s8
    replace s9 := kt kk s9
    replace s74 := kt kk s74
    replace s77 := kt kk s77
    replace s81 := kt kk s81
    clear kk hz s83
    have hz := zz
    have s84 := s84x
    clear zz s84x A18_8
    refine vh_take 11 true (.string m.r.2.2) rfl (by kernel_rfl) (by kernel_rfl) (by kernel_rfl) (want_none rfl) (fun hc v hv => ex_ld rfl (ev s84 rfl) (ldStr ((HM.out v hv).cell 10 _ rfl))) rfl hz (by decide) hS (fun A18_10 zz kk s85x => ?_)
    replace s3 := kt kk s3
    replace s7 := kt kk s7
    replace s8 := kt kk s8
    replace s9 := kt kk s9
    replace s74 := kt kk s74
    replace s77 := kt kk s77
    replace s81 := kt kk s81
    clear kk hz s84
    have hz := zz
    have s85 := s85x
    clear zz s85x A18_9
    refine vh_call 4 rfl (by kernel_rfl) (want_none rfl) (ex_call rfl (by simp only [List.map_toArray, List.map_cons, List.map_nil, (ev s74 rfl), (ev s77 rfl), evc] <;> rfl) rfl) (by rw [hrc]; exact refput7 w.heap.size vb6 (M.form k ++ colsBy m L D k 7) rc wr6.drew (HI.out.1.kept (Below.refl _ _).drew) HI.out.2.1.size (by omega) (by have h7 := HLEN.out 7; have f1 := form_le (show rc < 2 ^ 64 by omega); have f2 := form_le (show rs < 2 ^ 64 by omega); simp only [List.length_append] at h7 ⊢; omega)) rfl hz (by decide) ?_
    rintro e x1 ⟨q1, rfl, oq1, n_1, b_1, t_1⟩
    refine ⟨_, rfl, (hS.trans t_1), fun A18_11 zz kk s78x => ?_⟩
    have hS1 := hS.trans t_1
    have sz_1 := b_1.size
    replace s3 := kt kk s3
    replace s7 := kt kk s7
    replace s8 := kt kk s8
    replace s9 := kt kk s9
    replace s81 := kt kk s81
    replace s85 := kt kk s85
    clear kk hz s74 s77
    have hz := zz
    have s78 := s78x
    clear zz s78x A18_10
    refine vh_call 8 rfl (by kernel_rfl) (want_none rfl) (ex_call rfl (by simp only [List.map_toArray, List.map_cons, List.map_nil, (ev s78 rfl), (ev s81 rfl), evc] <;> rfl) rfl) (by rw [hrs]; exact refput7 w.heap.size q1 (M.form k ++ colsBy m L D k 7 ++ M.form rc) rs x1 oq1 (Nat.le_trans HI.out.2.1.size sz_1) (by omega) (by have h7 := HLEN.out 7; have f1 := form_le (show rc < 2 ^ 64 by omega); have f2 := form_le (show rs < 2 ^ 64 by omega); simp only [List.length_append] at h7 ⊢; omega)) rfl hz (by decide) ?_
    rintro e x2 ⟨q2, rfl, oq2, n_2, b_2, t_2⟩
    refine ⟨_, rfl, (hS1.trans t_2), fun A18_12 zz kk s82x => ?_⟩
    have hS2 := hS1.trans t_2
    have sz_2 := b_2.size
    replace s3 := kt kk s3
    replace s7 := kt kk s7
    replace s8 := kt kk s8
    replace s9 := kt kk s9
    replace s85 := kt kk s85
    clear kk hz s78 s81
    have hz := zz
    have s82 := s82x
    clear zz s82x A18_11
    refine vh_call 12 rfl (by kernel_rfl) (want_none rfl) (ex_call rfl (by simp only [List.map_toArray, List.map_cons, List.map_nil, (ev s82 rfl), (ev s85 rfl), evc] <;> rfl) rfl) (refputText7 w.heap.size q2 (M.form k ++ colsBy m L D k 7 ++ M.form rc ++ M.form rs) m.r.2.2 x2 oq2 (Nat.le_trans (Nat.le_trans HI.out.2.1.size sz_1) sz_2) hrr.2.2.2.2 (by have h7 := HLEN.out 7; have f1 := form_le (show rc < 2 ^ 64 by omega); have f2 := form_le (show rs < 2 ^ 64 by omega); simp only [List.length_append] at h7 ⊢; omega)) rfl hz (by decide) ?_
    rintro e x3 ⟨q3, rfl, oq3, n_3, b_3, t_3⟩
    refine ⟨_, rfl, (hS2.trans t_3), fun A18_13 zz kk s86x => ?_⟩
    have hS3 := hS2.trans t_3
    have sz_3 := b_3.size
    replace s3 := kt kk s3
    replace s7 := kt kk s7
    replace s8 := kt kk s8
    replace s9 := kt kk s9
    clear kk hz s82 s85
    have hz := zz
    have s86 := s86x
    clear zz s86x A18_12
    refine vh_take 13 true (q3) rfl (by kernel_rfl) (by kernel_rfl) (by kernel_rfl) (want_none rfl) (fun hc v hv => ex_assign rfl (ev s86 rfl)) rfl hz (by decide) hS3 (fun A18_14 zz kk s9x => ?_)
    replace s3 := kt kk s3
    replace s7 := kt kk s7
    replace s8 := kt kk s8
    clear kk hz s86 s9
    have hz := zz
    have s9 := s9x
    clear zz s9x A18_13
    refine vh_done (by kernel_rfl) ?_
    exact ⟨_, rfl, ⟨hz, s3, s7, s8⟩, _, s9, by rw [colsBy_some (uj_true hu), ← List.append_assoc]; simpa only [colBy, opBy, txBy, hrc, hrs, Int.toNat_natCast, List.append_assoc] using oq3, HI.out.2.1.trans (((Below.refl _ _).drew.trans b_1).trans (b_2.trans b_3)), hS3⟩
  intro Tc7 wr7 hJ
  clear hz s3 s7 s8 s9 s73 HI
  obtain ⟨⟨hz, s3, s7, s8⟩, vb7, s9, HI⟩ := hJ
  go_upto_region 19 with fail
  refine wp_region_lit ?_
  refine vt _ (ex_move rfl (ev s8 rfl)) hz (fun A19_1 zz kk s87x => ?_)
  replace s3 := kt kk s3
  replace s7 := kt kk s7
  replace s8 := kt kk s8
  replace s9 := kt kk s9
  clear kk hz
  have hz := zz
  have s87 := s87x
  clear zz s87x
  refine vt (.pointer (some ⟨gu, 8, none⟩)) (ex_ix rfl (ev s87 rfl) rfl (ixBool gu 8 10 cu (by omega) _)) hz (fun A19_2 zz kk s88x => ?_)
  replace s3 := kt kk s3
  replace s7 := kt kk s7
  replace s8 := kt kk s8
  replace s9 := kt kk s9
  clear kk hz s87
  have hz := zz
  have s88 := s88x
  clear zz s88x A19_1
  refine vt (.bool (uj k 8)) (ex_ld rfl (ev s88 rfl) (ldBool (HU.out wr7 HI.out.2.2 8 (by omega)))) hz (fun A19_3 zz kk s89x => ?_)
  replace s3 := kt kk s3
  replace s7 := kt kk s7
  replace s8 := kt kk s8
  replace s9 := kt kk s9
  clear kk hz s88
  have hz := zz
  have s89 := s89x
  clear zz s89x A19_2
  refine wpList_nil ?_
  go_upto_region 20 with fail
  refine v_cond (fun T wr => (T.size = 135 ∧ T[3]? = some (gw true (.pointer (some ⟨w.heap.size + 1, 0, none⟩))) ∧ T[7]? = some (gw true (.int .i64 (k : Int))) ∧ T[8]? = some (gw true (.slice (some ⟨gu, 0, none⟩) 10 cu))) ∧ ∃ vb, T[9]? = some (gw true vb) ∧ Hid (Wi.Own w.heap.size wr vb (M.form k ++ colsBy m L D k 9) ∧ Below w.heap.size w wr ∧ Wi.TKp wb wr)) s89 (fun hu => ?_) (fun hu => ⟨⟨hz, s3, s7, s8⟩, vb7, s9, by rw [colsBy_none (uj_false hu)]; exact HI.out.1, HI.out.2⟩) ?_
  · clear s89
    have hll := hmg.lL
    go_upto_region 20 with fail
    refine wp_region_lit ?_
    refine vt _ (ex_move rfl (ev s9 rfl)) hz (fun A20_1 zz kk s90x => ?_)
    replace s3 := kt kk s3
    replace s7 := kt kk s7
    replace s8 := kt kk s8
    replace s9 := kt kk s9
    clear kk hz
    have hz := zz
    have s90 := s90x
    clear zz s90x
    refine vt (.pointer (some ⟨w.heap.size + 1, 16, none⟩)) (ex_fa rfl (ev s3 rfl) (MBox.faLog _ _)) hz (fun A20_2 zz kk s91x => ?_)
    replace s3 := kt kk s3
    replace s7 := kt kk s7
    replace s8 := kt kk s8
    replace s9 := kt kk s9
    replace s90 := kt kk s90
    clear kk hz
    have hz := zz
    have s91 := s91x
    clear zz s91x A20_1
    refine vt (.slice a1 L.length cl) (ex_ld rfl (ev s91 rfl) ((HM.out wr7 HI.out.2.2).ldLog)) hz (fun A20_3 zz kk s92x => ?_)
    replace s3 := kt kk s3
    replace s7 := kt kk s7
    replace s8 := kt kk s8
    replace s9 := kt kk s9
    replace s90 := kt kk s90
    clear kk hz s91
    have hz := zz
    have s92 := s92x
    clear zz s92x A20_2
    refine vt (.int .i64 ((L.length : Nat) : Int)) (ex_lenE rfl rfl (ev s92 rfl)) hz (fun A20_4 zz kk s93x => ?_)
    replace s3 := kt kk s3
    replace s7 := kt kk s7
    replace s8 := kt kk s8
    replace s9 := kt kk s9
    replace s90 := kt kk s90
    clear kk hz s92
    have hz := zz
    have s93 := s93x
    clear zz s93x A20_3
    refine vcallP (want_none rfl) (ex_call rfl (by simp only [List.map_toArray, List.map_cons, List.map_nil, (ev s90 rfl), (ev s93 rfl), evc] <;> rfl) rfl) (refput7 w.heap.size vb7 _ L.length wr7 HI.out.1 HI.out.2.1.size (by omega) (by have := HLEN.out 8; omega)) rfl hz (by decide) ?_
    rintro e wq ⟨vq, rfl, obq, nbq, bbq, tbq⟩
    refine ⟨_, rfl, fun A20_5 zz kk s94x => ?_⟩
    replace s3 := kt kk s3
    replace s7 := kt kk s7
    replace s8 := kt kk s8
    replace s9 := kt kk s9
    clear kk hz s90 s93
    have hz := zz
    have s94 := s94x
    clear zz s94x A20_4
    refine vt _ (ex_assign rfl (ev s94 rfl)) hz (fun A20_6 zz kk s9x => ?_)
    replace s3 := kt kk s3
    replace s7 := kt kk s7
    replace s8 := kt kk s8
    clear kk hz s94 s9
    have hz := zz
    have s9 := s9x
    clear zz s9x A20_5
    refine wpList_nil ?_
    go_upto_region 21 with fail
    refine wp_region_lit ?_
    refine vt (.int .i64 0) (ex_assign rfl rfl) hz (fun A21_1 zz kk s12x => ?_)
    replace s3 := kt kk s3
    replace s7 := kt kk s7
    replace s8 := kt kk s8
    replace s9 := kt kk s9
    clear kk hz
    have hz := zz
    have s12 := s12x
    clear zz s12x
    refine wpList_nil ?_
    go_upto_region 22 with fail
    refine v_loop 12 L.length (fun j T wl => (T.size = 135 ∧ T[3]? = some (gw true (.pointer (some ⟨w.heap.size + 1, 0, none⟩))) ∧ T[7]? = some (gw true (.int .i64 (k : Int))) ∧ T[8]? = some (gw true (.slice (some ⟨gu, 0, none⟩) 10 cu))) ∧ T[12]? = some (gw true (.int .i64 (j : Int))) ∧ ∃ vl_, T[9]? = some (gw true vl_) ∧ Hid (Wi.Own w.heap.size wl vl_ (M.form k ++ colsBy m L D k 8 ++ M.form L.length ++ esBy (L.take j)) ∧ Below w.heap.size w wl ∧ Wi.TKp wb wl)) (fun j T w h => h.2.1) ⟨⟨hz, s3, s7, s8⟩, s12, _, s9, by simpa [esBy] using obq, HI.out.2.1.trans bbq, HI.out.2.2.trans tbq⟩ ?_
    clear hz s3 s7 s8 s9 s12
    intro j R8 wl hj hh
    obtain ⟨⟨hz, s3, s7, s8⟩, s12, vl_, s9, HJ⟩ := hh
    go_upto_region 22 with fail
    refine wp_region_lit ?_
    refine vt _ (ex_move rfl (ev s12 rfl)) hz (fun A22_1 zz kk s95x => ?_)
    replace s3 := kt kk s3
    replace s7 := kt kk s7
    replace s8 := kt kk s8
    replace s9 := kt kk s9
    replace s12 := kt kk s12
    clear kk hz
    have hz := zz
    have s95 := s95x
    clear zz s95x
    refine vt (.pointer (some ⟨w.heap.size + 1, 16, none⟩)) (ex_fa rfl (ev s3 rfl) (MBox.faLog _ _)) hz (fun A22_2 zz kk s96x => ?_)
    replace s3 := kt kk s3
    replace s7 := kt kk s7
    replace s8 := kt kk s8
    replace s9 := kt kk s9
    replace s12 := kt kk s12
    replace s95 := kt kk s95
    clear kk hz
    have hz := zz
    have s96 := s96x
    clear zz s96x A22_1
    refine vt (.slice a1 L.length cl) (ex_ld rfl (ev s96 rfl) ((HM.out wl HJ.out.2.2).ldLog)) hz (fun A22_3 zz kk s97x => ?_)
    replace s3 := kt kk s3
    replace s7 := kt kk s7
    replace s8 := kt kk s8
    replace s9 := kt kk s9
    replace s12 := kt kk s12
    replace s95 := kt kk s95
    clear kk hz s96
    have hz := zz
    have s97 := s97x
    clear zz s97x A22_2
    refine vt (.int .i64 ((L.length : Nat) : Int)) (ex_lenE rfl rfl (ev s97 rfl)) hz (fun A22_4 zz kk s98x => ?_)
    replace s3 := kt kk s3
    replace s7 := kt kk s7
    replace s8 := kt kk s8
    replace s9 := kt kk s9
    replace s12 := kt kk s12
    replace s95 := kt kk s95
    clear kk hz s97
    have hz := zz
    have s98 := s98x
    clear zz s98x A22_3
    refine vt (.bool (decide ((j : Int) < ((L.length : Nat) : Int)))) (ex_bin rfl (ev s95 rfl) (ev s98 rfl) (lssC _ _ _ _ _)) hz (fun A22_5 zz kk s99x => ?_)
    replace s3 := kt kk s3
    replace s7 := kt kk s7
    replace s8 := kt kk s8
    replace s9 := kt kk s9
    replace s12 := kt kk s12
    clear kk hz s95 s98
    have hz := zz
    have s99 := s99x
    clear zz s99x A22_4
    refine wpList_nil ?_
    go_upto_region 24 with fail
    cases el : decide ((j : Int) < ((L.length : Nat) : Int))
    · refine wp_cond_false ((ev s99 rfl).trans (congrArg Value.bool el)) ?_
      have hjl : j = L.length := by have := of_decide_eq_false el; omega
      have hI := HJ.out
      rw [hjl, List.take_length] at hI
      clear el s99 s12 hjl
      go_upto_region 25 with fail
      exact ⟨_, rfl, ⟨hz, s3, s7, s8⟩, _, s9, by rw [colsBy_some (uj_true hu), ← List.append_assoc]; simpa only [colBy, lgBy, List.append_assoc] using hI.1, hI.2⟩
    refine wp_cond_true ((ev s99 rfl).trans (congrArg Value.bool el)) ?_
    have hlt2 : j < L.length := by have := of_decide_eq_true el; omega
    clear el s99
    obtain ⟨d, hd⟩ : ∃ d, L[j]? = some d := ⟨_, List.getElem?_eq_getElem hlt2⟩
    have hsl := HLB.out wl HJ.out.2.1
    obtain ⟨qe, oe, ha1, hq, hlie⟩ := hsl.place (fun e => by rw [e] at hlt2; simp at hlt2)
    have hdf := hmg.es d (List.mem_of_getElem? hd)
    obtain ⟨ec, hc0⟩ := Int.eq_ofNat_of_zero_le hdf.1
    obtain ⟨en, hn0⟩ := Int.eq_ofNat_of_zero_le hdf.2.2.1
    obtain ⟨ek, hk0_⟩ := Int.eq_ofNat_of_zero_le hdf.2.2.2.2.1
    obtain ⟨es, hs0⟩ := Int.eq_ofNat_of_zero_le hdf.2.2.2.2.2.2.1
    obtain ⟨ev_, hv0⟩ : ∃ v, d.o.v = v := ⟨_, rfl⟩
    have hvs : ev_.size ≤ 64 := by rw [← hv0]; exact hdf.2.2.2.2.2.2.2.2
    have e0 : wl.cell? ⟨qe, oe + j * 5, none⟩ = some (.int .i64 (ec : Int)) := by rw [← hc0]; exact hlie j d hd 0 _ rfl
    have e1 : wl.cell? ⟨qe, oe + j * 5 + 1, none⟩ = some (.int .i64 (en : Int)) := by rw [← hn0]; exact hlie j d hd 1 _ rfl
    have e2 : wl.cell? ⟨qe, oe + j * 5 + 2, none⟩ = some (.int .i64 (ek : Int)) := by rw [← hk0_]; exact hlie j d hd 2 _ rfl
    have e3 : wl.cell? ⟨qe, oe + j * 5 + 3, none⟩ = some (.int .i64 (es : Int)) := by rw [← hs0]; exact hlie j d hd 3 _ rfl
    have e4 : wl.cell? ⟨qe, oe + j * 5 + 4, none⟩ = some (.string ev_) := by rw [← hv0]; exact hlie j d hd 4 _ rfl
    have i1 := hdf.2.1
    have i2 := hdf.2.2.2.1
    have i3 := hdf.2.2.2.2.2.1
    have i4 := hdf.2.2.2.2.2.2.2.1
    have enx : enBy d = nmBy ec en ++ opBy ek es ev_ := by unfold enBy; rw [hc0, hn0, hk0_, hs0, hv0]; rfl
    have hal := esBy_le (L.take j) (fun x hx => hmg.es x (List.mem_of_mem_take hx))
    rw [List.length_take] at hal
    go_upto_region 24 with fail
    refine wp_region_lit ?_
    refine vt _ (ex_move rfl (ev s9 rfl)) hz (fun A24_1 zz kk s102x => ?_)
    replace s3 := kt kk s3
    replace s7 := kt kk s7
    replace s8 := kt kk s8
    replace s9 := kt kk s9
    replace s12 := kt kk s12
    clear kk hz
    have hz := zz
    have s102 := s102x
    clear zz s102x
    refine vt (.pointer (some ⟨w.heap.size + 1, 16, none⟩)) (ex_fa rfl (ev s3 rfl) (MBox.faLog _ _)) hz (fun A24_2 zz kk s103x => ?_)
    replace s3 := kt kk s3
    replace s7 := kt kk s7
    replace s8 := kt kk s8
    replace s9 := kt kk s9
    replace s12 := kt kk s12
    replace s102 := kt kk s102
    clear kk hz
    have hz := zz
    have s103 := s103x
    clear zz s103x A24_1
    refine vt (.slice a1 L.length cl) (ex_ld rfl (ev s103 rfl) ((HM.out wl HJ.out.2.2).ldLog)) hz (fun A24_3 zz kk s104x => ?_)
    replace s3 := kt kk s3
    replace s7 := kt kk s7
    replace s8 := kt kk s8
    replace s9 := kt kk s9
    replace s12 := kt kk s12
    replace s102 := kt kk s102
    clear kk hz s103
    have hz := zz
    have s104 := s104x
    clear zz s104x A24_2
    refine vt _ (ex_move rfl (ev s12 rfl)) hz (fun A24_4 zz kk s105x => ?_)
    replace s3 := kt kk s3
    replace s7 := kt kk s7
    replace s8 := kt kk s8
    replace s9 := kt kk s9
    replace s12 := kt kk s12
    replace s102 := kt kk s102
    replace s104 := kt kk s104
    clear kk hz
    have hz := zz
    have s105 := s105x
    clear zz s105x A24_3
    refine vt (.pointer (some ⟨qe, oe + j * 5, none⟩)) (ex_ix rfl (ev s104 rfl) (ev s105 rfl) (by rw [ha1]; exact ixEnt _ _ _ _ _ hlt2 _)) hz (fun A24_5 zz kk s106x => ?_)
    replace s3 := kt kk s3
    replace s7 := kt kk s7
    replace s8 := kt kk s8
    replace s9 := kt kk s9
    replace s12 := kt kk s12
    replace s102 := kt kk s102
    clear kk hz s104 s105
    have hz := zz
    have s106 := s106x
    clear zz s106x A24_4
    refine vt (.agg #[.int .i64 (ec : Int), .int .i64 (en : Int), .int .i64 (ek : Int), .int .i64 (es : Int), .string ev_]) (ex_ld rfl (ev s106 rfl) (ldEnAt e0 e1 e2 e3 e4)) hz (fun A24_6 zz kk s107x => ?_)
    replace s3 := kt kk s3
    replace s7 := kt kk s7
    replace s8 := kt kk s8
    replace s9 := kt kk s9
    replace s12 := kt kk s12
    replace s102 := kt kk s102
    clear kk hz s106
    have hz := zz
    have s107 := s107x
    clear zz s107x A24_5
    refine vcallP (want_none rfl) (ex_call rfl (by simp only [List.map_toArray, List.map_cons, List.map_nil, (ev s102 rfl), (ev s107 rfl), evc] <;> rfl) rfl) (refputEntry7 w.heap.size vl_ _ ec en ek es ev_ true wl HJ.out.1 HJ.out.2.1.size (by omega) (by omega) (by omega) (by omega) hvs (by have h7 := HLEN.out 8; have f1 := form_le (show L.length < 2 ^ 64 by omega); simp only [List.length_append] at h7 ⊢; omega)) rfl hz (by decide) ?_
    rintro e wz ⟨vr, rfl, obr, nbr, bbr, tbr⟩
    refine ⟨_, rfl, fun A24_7 zz kk s108x => ?_⟩
    replace s3 := kt kk s3
    replace s7 := kt kk s7
    replace s8 := kt kk s8
    replace s9 := kt kk s9
    replace s12 := kt kk s12
    clear kk hz s102 s107
    have hz := zz
    have s108 := s108x
    clear zz s108x A24_6
    refine vt _ (ex_assign rfl (ev s108 rfl)) hz (fun A24_8 zz kk s9x => ?_)
    replace s3 := kt kk s3
    replace s7 := kt kk s7
    replace s8 := kt kk s8
    replace s12 := kt kk s12
    clear kk hz s108 s9
    have hz := zz
    have s9 := s9x
    clear zz s9x A24_7
    refine wpList_nil ?_
    go_upto_region 23 with fail
    refine wp_region_lit ?_
    refine vt _ (ex_move rfl (ev s12 rfl)) hz (fun A23_1 zz kk s100x => ?_)
    replace s3 := kt kk s3
    replace s7 := kt kk s7
    replace s8 := kt kk s8
    replace s9 := kt kk s9
    replace s12 := kt kk s12
    clear kk hz
    have hz := zz
    have s100 := s100x
    clear zz s100x
    refine vt (.int .i64 ((j + 1 : Nat) : Int)) (ex_bin rfl (ev s100 rfl) rfl (addJ j (by omega) _ _ _)) hz (fun A23_2 zz kk s101x => ?_)
    replace s3 := kt kk s3
    replace s7 := kt kk s7
    replace s8 := kt kk s8
    replace s9 := kt kk s9
    replace s12 := kt kk s12
    clear kk hz s100
    have hz := zz
    have s101 := s101x
    clear zz s101x A23_1
    refine vt _ (ex_assign rfl (ev s101 rfl)) hz (fun A23_3 zz kk s12x => ?_)
    replace s3 := kt kk s3
    replace s7 := kt kk s7
    replace s8 := kt kk s8
    replace s9 := kt kk s9
    clear kk hz s101 s12
    have hz := zz
    have s12 := s12x
    clear zz s12x A23_2
    refine wpList_nil ?_
    exact ⟨_, rfl, by omega, ⟨hz, s3, s7, s8⟩, s12, _, s9, by rw [esBy_next hd, enx]; simpa only [List.append_assoc, if_true] using obr, HJ.out.2.1.trans bbr, HJ.out.2.2.trans tbr⟩
  intro Tc8 wr8 hJ
  clear hz s3 s7 s8 s9 s89 HI
  obtain ⟨⟨hz, s3, s7, s8⟩, vb8, s9, HI⟩ := hJ
  go_upto_region 25 with fail
  refine wp_region_lit ?_
  refine vt _ (ex_move rfl (ev s8 rfl)) hz (fun A25_1 zz kk s109x => ?_)
  replace s3 := kt kk s3
  replace s7 := kt kk s7
  replace s8 := kt kk s8
  replace s9 := kt kk s9
  clear kk hz
  have hz := zz
  have s109 := s109x
  clear zz s109x
  refine vt (.pointer (some ⟨gu, 9, none⟩)) (ex_ix rfl (ev s109 rfl) rfl (ixBool gu 9 10 cu (by omega) _)) hz (fun A25_2 zz kk s110x => ?_)
  replace s3 := kt kk s3
  replace s7 := kt kk s7
  replace s8 := kt kk s8
  replace s9 := kt kk s9
  clear kk hz s109
  have hz := zz
  have s110 := s110x
  clear zz s110x A25_1
  refine vt (.bool (uj k 9)) (ex_ld rfl (ev s110 rfl) (ldBool (HU.out wr8 HI.out.2.2 9 (by omega)))) hz (fun A25_3 zz kk s111x => ?_)
  replace s3 := kt kk s3
  replace s7 := kt kk s7
  replace s8 := kt kk s8
  replace s9 := kt kk s9
  clear kk hz s110
  have hz := zz
  have s111 := s111x
  clear zz s111x A25_2
  refine wpList_nil ?_
  go_upto_region 26 with fail
  refine v_cond (fun T wr => (T.size = 135 ∧ T[3]? = some (gw true (.pointer (some ⟨w.heap.size + 1, 0, none⟩))) ∧ T[7]? = some (gw true (.int .i64 (k : Int))) ∧ T[8]? = some (gw true (.slice (some ⟨gu, 0, none⟩) 10 cu))) ∧ ∃ vb, T[9]? = some (gw true vb) ∧ Hid (Wi.Own w.heap.size wr vb (M.form k ++ colsBy m L D k 10) ∧ Below w.heap.size w wr ∧ Wi.TKp wb wr)) s111 (fun hu => ?_) (fun hu => ⟨⟨hz, s3, s7, s8⟩, vb8, s9, by rw [colsBy_none (uj_false hu)]; exact HI.out.1, HI.out.2⟩) ?_
  · clear s111
    have hll := hmg.lD
    go_upto_region 26 with fail
    refine wp_region_lit ?_
    refine vt _ (ex_move rfl (ev s9 rfl)) hz (fun A26_1 zz kk s112x => ?_)
    replace s3 := kt kk s3
    replace s7 := kt kk s7
    replace s8 := kt kk s8
    replace s9 := kt kk s9
    clear kk hz
    have hz := zz
    have s112 := s112x
    clear zz s112x
    refine vt (.pointer (some ⟨w.heap.size + 1, 17, none⟩)) (ex_fa rfl (ev s3 rfl) (MBox.faVector _ _)) hz (fun A26_2 zz kk s113x => ?_)
    replace s3 := kt kk s3
    replace s7 := kt kk s7
    replace s8 := kt kk s8
    replace s9 := kt kk s9
    replace s112 := kt kk s112
    clear kk hz
    have hz := zz
    have s113 := s113x
    clear zz s113x A26_1
    refine vt (.slice a2 D.length cv) (ex_ld rfl (ev s113 rfl) ((HM.out wr8 HI.out.2.2).ldVector)) hz (fun A26_3 zz kk s114x => ?_)
    replace s3 := kt kk s3
    replace s7 := kt kk s7
    replace s8 := kt kk s8
    replace s9 := kt kk s9
    replace s112 := kt kk s112
    clear kk hz s113
    have hz := zz
    have s114 := s114x
    clear zz s114x A26_2
    refine vt (.int .i64 ((D.length : Nat) : Int)) (ex_lenV rfl rfl (ev s114 rfl)) hz (fun A26_4 zz kk s115x => ?_)
    replace s3 := kt kk s3
    replace s7 := kt kk s7
    replace s8 := kt kk s8
    replace s9 := kt kk s9
    replace s112 := kt kk s112
    clear kk hz s114
    have hz := zz
    have s115 := s115x
    clear zz s115x A26_3
    refine vcallP (want_none rfl) (ex_call rfl (by simp only [List.map_toArray, List.map_cons, List.map_nil, (ev s112 rfl), (ev s115 rfl), evc] <;> rfl) rfl) (refput7 w.heap.size vb8 _ D.length wr8 HI.out.1 HI.out.2.1.size (by omega) (by have := HLEN.out 9; omega)) rfl hz (by decide) ?_
    rintro e wq ⟨vq, rfl, obq, nbq, bbq, tbq⟩
    refine ⟨_, rfl, fun A26_5 zz kk s116x => ?_⟩
    replace s3 := kt kk s3
    replace s7 := kt kk s7
    replace s8 := kt kk s8
    replace s9 := kt kk s9
    clear kk hz s112 s115
    have hz := zz
    have s116 := s116x
    clear zz s116x A26_4
    refine vt _ (ex_assign rfl (ev s116 rfl)) hz (fun A26_6 zz kk s9x => ?_)
    replace s3 := kt kk s3
    replace s7 := kt kk s7
    replace s8 := kt kk s8
    clear kk hz s116 s9
    have hz := zz
    have s9 := s9x
    clear zz s9x A26_5
    refine wpList_nil ?_
    go_upto_region 27 with fail
    refine wp_region_lit ?_
    refine vt (.int .i64 0) (ex_assign rfl rfl) hz (fun A27_1 zz kk s13x => ?_)
    replace s3 := kt kk s3
    replace s7 := kt kk s7
    replace s8 := kt kk s8
    replace s9 := kt kk s9
    clear kk hz
    have hz := zz
    have s13 := s13x
    clear zz s13x
    refine wpList_nil ?_
    go_upto_region 28 with fail
    refine v_loop 13 D.length (fun j T wl => (T.size = 135 ∧ T[3]? = some (gw true (.pointer (some ⟨w.heap.size + 1, 0, none⟩))) ∧ T[7]? = some (gw true (.int .i64 (k : Int))) ∧ T[8]? = some (gw true (.slice (some ⟨gu, 0, none⟩) 10 cu))) ∧ T[13]? = some (gw true (.int .i64 (j : Int))) ∧ ∃ vl_, T[9]? = some (gw true vl_) ∧ Hid (Wi.Own w.heap.size wl vl_ (M.form k ++ colsBy m L D k 9 ++ M.form D.length ++ dsBy (D.take j)) ∧ Below w.heap.size w wl ∧ Wi.TKp wb wl)) (fun j T w h => h.2.1) ⟨⟨hz, s3, s7, s8⟩, s13, _, s9, by simpa [dsBy] using obq, HI.out.2.1.trans bbq, HI.out.2.2.trans tbq⟩ ?_
    clear hz s3 s7 s8 s9 s13
    intro j R9 wl hj hh
    obtain ⟨⟨hz, s3, s7, s8⟩, s13, vl_, s9, HJ⟩ := hh
    go_upto_region 28 with fail
    refine wp_region_lit ?_
    refine vt _ (ex_move rfl (ev s13 rfl)) hz (fun A28_1 zz kk s117x => ?_)
    replace s3 := kt kk s3
    replace s7 := kt kk s7
    replace s8 := kt kk s8
    replace s9 := kt kk s9
    replace s13 := kt kk s13
    clear kk hz
    have hz := zz
    have s117 := s117x
    clear zz s117x
    refine vt (.pointer (some ⟨w.heap.size + 1, 17, none⟩)) (ex_fa rfl (ev s3 rfl) (MBox.faVector _ _)) hz (fun A28_2 zz kk s118x => ?_)
    replace s3 := kt kk s3
    replace s7 := kt kk s7
    replace s8 := kt kk s8
    replace s9 := kt kk s9
    replace s13 := kt kk s13
    replace s117 := kt kk s117
    clear kk hz
    have hz := zz
    have s118 := s118x
    clear zz s118x A28_1
    refine vt (.slice a2 D.length cv) (ex_ld rfl (ev s118 rfl) ((HM.out wl HJ.out.2.2).ldVector)) hz (fun A28_3 zz kk s119x => ?_)
    replace s3 := kt kk s3
    replace s7 := kt kk s7
    replace s8 := kt kk s8
    replace s9 := kt kk s9
    replace s13 := kt kk s13
    replace s117 := kt kk s117
    clear kk hz s118
    have hz := zz
    have s119 := s119x
    clear zz s119x A28_2
    refine vt (.int .i64 ((D.length : Nat) : Int)) (ex_lenV rfl rfl (ev s119 rfl)) hz (fun A28_4 zz kk s120x => ?_)
    replace s3 := kt kk s3
    replace s7 := kt kk s7
    replace s8 := kt kk s8
    replace s9 := kt kk s9
    replace s13 := kt kk s13
    replace s117 := kt kk s117
    clear kk hz s119
    have hz := zz
    have s120 := s120x
    clear zz s120x A28_3
    refine vt (.bool (decide ((j : Int) < ((D.length : Nat) : Int)))) (ex_bin rfl (ev s117 rfl) (ev s120 rfl) (lssC _ _ _ _ _)) hz (fun A28_5 zz kk s121x => ?_)
    replace s3 := kt kk s3
    replace s7 := kt kk s7
    replace s8 := kt kk s8
    replace s9 := kt kk s9
    replace s13 := kt kk s13
    clear kk hz s117 s120
    have hz := zz
    have s121 := s121x
    clear zz s121x A28_4
    refine wpList_nil ?_
    go_upto_region 30 with fail
    cases el : decide ((j : Int) < ((D.length : Nat) : Int))
    · refine wp_cond_false ((ev s121 rfl).trans (congrArg Value.bool el)) ?_
      have hjl : j = D.length := by have := of_decide_eq_false el; omega
      have hI := HJ.out
      rw [hjl, List.take_length] at hI
      clear el s121 s13 hjl
      go_upto_region 25 with fail
      exact ⟨_, rfl, ⟨hz, s3, s7, s8⟩, _, s9, by rw [colsBy_some (uj_true hu), ← List.append_assoc]; simpa only [colBy, veBy, List.append_assoc] using hI.1, hI.2⟩
    refine wp_cond_true ((ev s121 rfl).trans (congrArg Value.bool el)) ?_
    have hlt2 : j < D.length := by have := of_decide_eq_true el; omega
    clear el s121
    obtain ⟨d, hd⟩ : ∃ d, D[j]? = some d := ⟨_, List.getElem?_eq_getElem hlt2⟩
    have hsl := HDB.out wl HJ.out.2.1
    obtain ⟨qd, od, ha2, hq, hlie⟩ := hsl.place (fun e => by rw [e] at hlt2; simp at hlt2)
    have hdf := hmg.ds d (List.mem_of_getElem? hd)
    obtain ⟨ex_, hx0⟩ := Int.eq_ofNat_of_zero_le hdf.1
    obtain ⟨ey_, hy0⟩ := Int.eq_ofNat_of_zero_le hdf.2.2.1
    have e0 : wl.cell? ⟨qd, od + j * 2, none⟩ = some (.int .u64 (ex_ : Int)) := by rw [← hx0]; exact hlie j d hd 0 _ rfl
    have e1 : wl.cell? ⟨qd, od + j * 2 + 1, none⟩ = some (.int .u64 (ey_ : Int)) := by rw [← hy0]; exact hlie j d hd 1 _ rfl
    have i1 := hdf.2.1
    have i2 := hdf.2.2.2
    have enx : drBy d.1.toNat d.2.toNat = drBy ex_ ey_ := by rw [hx0, hy0]; rfl
    have hal := dsBy_le (D.take j) (fun x hx => hmg.ds x (List.mem_of_mem_take hx))
    rw [List.length_take] at hal
    go_upto_region 30 with fail
    refine wp_region_lit ?_
    refine vt _ (ex_move rfl (ev s9 rfl)) hz (fun A30_1 zz kk s124x => ?_)
    replace s3 := kt kk s3
    replace s7 := kt kk s7
    replace s8 := kt kk s8
    replace s9 := kt kk s9
    replace s13 := kt kk s13
    clear kk hz
    have hz := zz
    have s124 := s124x
    clear zz s124x
    refine vt (.pointer (some ⟨w.heap.size + 1, 17, none⟩)) (ex_fa rfl (ev s3 rfl) (MBox.faVector _ _)) hz (fun A30_2 zz kk s125x => ?_)
    replace s3 := kt kk s3
    replace s7 := kt kk s7
    replace s8 := kt kk s8
    replace s9 := kt kk s9
    replace s13 := kt kk s13
    replace s124 := kt kk s124
    clear kk hz
    have hz := zz
    have s125 := s125x
    clear zz s125x A30_1
    refine vt (.slice a2 D.length cv) (ex_ld rfl (ev s125 rfl) ((HM.out wl HJ.out.2.2).ldVector)) hz (fun A30_3 zz kk s126x => ?_)
    replace s3 := kt kk s3
    replace s7 := kt kk s7
    replace s8 := kt kk s8
    replace s9 := kt kk s9
    replace s13 := kt kk s13
    replace s124 := kt kk s124
    clear kk hz s125
    have hz := zz
    have s126 := s126x
    clear zz s126x A30_2
    refine vt _ (ex_move rfl (ev s13 rfl)) hz (fun A30_4 zz kk s127x => ?_)
    replace s3 := kt kk s3
    replace s7 := kt kk s7
    replace s8 := kt kk s8
    replace s9 := kt kk s9
    replace s13 := kt kk s13
    replace s124 := kt kk s124
    replace s126 := kt kk s126
    clear kk hz
    have hz := zz
    have s127 := s127x
    clear zz s127x A30_3
    refine vt (.pointer (some ⟨qd, od + j * 2, none⟩)) (ex_ix rfl (ev s126 rfl) (ev s127 rfl) (by rw [ha2]; exact ixVec _ _ _ _ _ hlt2 _)) hz (fun A30_5 zz kk s128x => ?_)
    replace s3 := kt kk s3
    replace s7 := kt kk s7
    replace s8 := kt kk s8
    replace s9 := kt kk s9
    replace s13 := kt kk s13
    replace s124 := kt kk s124
    clear kk hz s126 s127
    have hz := zz
    have s128 := s128x
    clear zz s128x A30_4
    refine vt (.agg #[.int .u64 (ex_ : Int), .int .u64 (ey_ : Int)]) (ex_ld rfl (ev s128 rfl) (ldDrAt e0 e1)) hz (fun A30_6 zz kk s129x => ?_)
    replace s3 := kt kk s3
    replace s7 := kt kk s7
    replace s8 := kt kk s8
    replace s9 := kt kk s9
    replace s13 := kt kk s13
    replace s124 := kt kk s124
    clear kk hz s128
    have hz := zz
    have s129 := s129x
    clear zz s129x A30_5
    refine vcallP (want_none rfl) (ex_call rfl (by simp only [List.map_toArray, List.map_cons, List.map_nil, (ev s124 rfl), (ev s129 rfl), evc] <;> rfl) rfl) (refputDraw7 w.heap.size vl_ _ ex_ ey_ wl HJ.out.1 HJ.out.2.1.size (by omega) (by omega) (by have h7 := HLEN.out 9; have f1 := form_le (show D.length < 2 ^ 64 by omega); simp only [List.length_append] at h7 ⊢; omega)) rfl hz (by decide) ?_
    rintro e wz ⟨vr, rfl, obr, nbr, bbr, tbr⟩
    refine ⟨_, rfl, fun A30_7 zz kk s130x => ?_⟩
    replace s3 := kt kk s3
    replace s7 := kt kk s7
    replace s8 := kt kk s8
    replace s9 := kt kk s9
    replace s13 := kt kk s13
    clear kk hz s124 s129
    have hz := zz
    have s130 := s130x
    clear zz s130x A30_6
    refine vt _ (ex_assign rfl (ev s130 rfl)) hz (fun A30_8 zz kk s9x => ?_)
    replace s3 := kt kk s3
    replace s7 := kt kk s7
    replace s8 := kt kk s8
    replace s13 := kt kk s13
    clear kk hz s130 s9
    have hz := zz
    have s9 := s9x
    clear zz s9x A30_7
    refine wpList_nil ?_
    go_upto_region 29 with fail
    refine wp_region_lit ?_
    refine vt _ (ex_move rfl (ev s13 rfl)) hz (fun A29_1 zz kk s122x => ?_)
    replace s3 := kt kk s3
    replace s7 := kt kk s7
    replace s8 := kt kk s8
    replace s9 := kt kk s9
    replace s13 := kt kk s13
    clear kk hz
    have hz := zz
    have s122 := s122x
    clear zz s122x
    refine vt (.int .i64 ((j + 1 : Nat) : Int)) (ex_bin rfl (ev s122 rfl) rfl (addJ j (by omega) _ _ _)) hz (fun A29_2 zz kk s123x => ?_)
    replace s3 := kt kk s3
    replace s7 := kt kk s7
    replace s8 := kt kk s8
    replace s9 := kt kk s9
    replace s13 := kt kk s13
    clear kk hz s122
    have hz := zz
    have s123 := s123x
    clear zz s123x A29_1
    refine vt _ (ex_assign rfl (ev s123 rfl)) hz (fun A29_3 zz kk s13x => ?_)
    replace s3 := kt kk s3
    replace s7 := kt kk s7
    replace s8 := kt kk s8
    replace s9 := kt kk s9
    clear kk hz s123 s13
    have hz := zz
    have s13 := s13x
    clear zz s13x A29_2
    refine wpList_nil ?_
    exact ⟨_, rfl, by omega, ⟨hz, s3, s7, s8⟩, s13, _, s9, by rw [dsBy_next hd, enx]; simpa only [List.append_assoc] using obr, HJ.out.2.1.trans bbr, HJ.out.2.2.trans tbr⟩
  intro Tc9 wr9 hJ
  clear hz s3 s7 s8 s9 s111 HI
  obtain ⟨⟨hz, s3, s7, s8⟩, vb9, s9, HI⟩ := hJ
  have hmb : Wi.Own w.heap.size wr9 vb9 (mbBy m L D k) := HI.out.1
  obtain ⟨ab, nb_, cb, rfl, hsb_, _⟩ := hmb.hs (mbBy_byte hmg hk15)
  go_upto_region 31 with fail
  refine wp_region_lit ?_
  refine vt _ (ex_move rfl (ev s9 rfl)) hz (fun A31_1 zz kk s131x => ?_)
  clear kk hz s3 s7 s8 s9
  have hz := zz
  have s131 := s131x
  clear zz s131x
  refine vcallP (want_none rfl) (ex_call rfl (by simp only [List.map_toArray, List.map_cons, List.map_nil, (ev s131 rfl), evc] <;> rfl) rfl) (Wi.refseal_ok ab nb_ cb (mbBy m L D k) wr9 hsb_ (by have := hsb_.len; omega)) rfl hz (by decide) ?_
  rintro e we ⟨vs_, rfl, obs, nbs, bbs⟩
  refine ⟨_, rfl, fun A31_2 zz kk s132x => ?_⟩
  clear kk hz s131
  have hz := zz
  have s132 := s132x
  clear zz s132x A31_1
  refine vt (vs_) (ex_ext rfl (ev s132 rfl) rfl) hz (fun A31_3 zz kk s133x => ?_)
  replace s132 := kt kk s132
  clear kk hz
  have hz := zz
  have s133 := s133x
  clear zz s133x A31_2
  refine vt (.int .i64 0) (ex_ext rfl (ev s132 rfl) rfl) hz (fun A31_4 zz kk s134x => ?_)
  replace s133 := kt kk s133
  clear kk hz s132
  have hz := zz
  have s134 := s134x
  clear zz s134x A31_3
  refine vt _ (ex_assign rfl (ev s133 rfl)) hz (fun A31_5 zz kk s4x => ?_)
  replace s134 := kt kk s134
  clear kk hz s133
  have hz := zz
  have s4 := s4x
  clear zz s4x A31_4
  refine vt _ (ex_assign rfl (ev s134 rfl)) hz (fun A31_6 zz kk s5x => ?_)
  replace s4 := kt kk s4
  clear kk hz s134
  have hz := zz
  have s5 := s5x
  clear zz s5x A31_5
  refine wpList_nil ?_
  have hfin := HI.out.2.1.trans (bbs.mono HI.out.2.1.size)
  have hown := Wi.Own.low obs HI.out.2.1.size
  clear HB HLB HDB HL1 HD1
  go_wp2
  refine bodyPost_ret2 rfl s4 s5 ⟨_, by rw [hck], ?_, hfin⟩
  rw [EN]
  exact hown
end Go.Proofs.YtjfbkeommlopmaaGreatDoor
namespace Go.Proofs.YtjfbkeommlopmaaGreatDoor.Wi
open Go.RowKit
set_option linter.unusedVariables false
structure Only (b : Nat) (w w' : World) : Prop where
  bel : Below b w w'
  same : w'.heap.size = w.heap.size
  block : ∀ k, k ≠ b → w'.heap[k]? = w.heap[k]?
theorem Only.refl (b : Nat) (w : World) : Only b w w := ⟨Below.refl _ _, rfl, fun _ _ => rfl⟩
theorem Only.setCell {b : Nat} {w0 w : World} (h : Only b w0 w) (j : Nat) (u : Value) : Only b w0 (w.setCell ⟨b, j, none⟩ u) :=
  ⟨h.bel.setCell (Nat.le_refl _) u, by simp [World.setCell, h.same], fun k hk => (Below.heap_setCell w ⟨b, j, none⟩ u k hk).trans (h.block k hk)⟩
theorem Only.drewN {b : Nat} {w0 w : World} (h : Only b w0 w) (k : Nat) : Only b w0 (w.drewN k) := ⟨below_drewN h.bel k, h.same, h.block⟩
theorem Only.below {b B : Nat} {w w' : World} (h : Only b w w') (hB : B ≤ b) : Below B w w' := h.bel.mono hB
theorem Only.cell {b : Nat} {w w' : World} (h : Only b w w') {p : Addr} (hp : p.block ≠ b) : w'.cell? p = w.cell? p := World.cell?_of_block (h.block _ hp)
theorem Only.frozen {b : Nat} {w w' : World} (h : Only b w w') {p : Addr} (hp : p.block ≠ b) : w'.frozen? p = w.frozen? p := World.frozen?_of_block (h.block _ hp)
end Go.Proofs.YtjfbkeommlopmaaGreatDoor.Wi
