import Derived.Test.YtibedokegignhaaGreatDoorD2
namespace Go.Proofs.YtibedokegignhaaGreatDoor
open Go.RowKit Go.Maps
open Classical
set_option linter.unusedVariables false
set_option linter.unusedSimpArgs false
structure CBox (w : World) (q : Nat) (f r : Int) : Prop where
  c0 : w.cell? ⟨q, 0, none⟩ = some (.int .i64 f)
  c1 : w.cell? ⟨q, 1, none⟩ = some (.int .i64 r)
theorem CBox.fa0 (q : Nat) (w : World) : (Instr.fieldAt 23 (.pointer (some ⟨q, 0, none⟩)) 0).run Tryz.prog w = .ok (.pointer (some ⟨q, 0, none⟩)) w := by
  go_simp
theorem CBox.fa1 (q : Nat) (w : World) : (Instr.fieldAt 23 (.pointer (some ⟨q, 0, none⟩)) 1).run Tryz.prog w = .ok (.pointer (some ⟨q, 1, none⟩)) w := by
  go_simp
theorem CBox.ld0 {w : World} {q : Nat} {f r : Int} (h : CBox w q f r) : (Instr.loadAt 3 (.pointer (some ⟨q, 0, none⟩))).run Tryz.prog w = .ok (.int .i64 f) w := by
  have h0 := h.c0
  go_simp
theorem CBox.ld1 {w : World} {q : Nat} {f r : Int} (h : CBox w q f r) : (Instr.loadAt 3 (.pointer (some ⟨q, 1, none⟩))).run Tryz.prog w = .ok (.int .i64 r) w := by
  have h0 := h.c1
  go_simp
theorem faCode (q : Nat) (w : World) : (Instr.fieldAt 30 (.pointer (some ⟨q, 8, none⟩)) 0).run Tryz.prog w = .ok (.pointer (some ⟨q, 8, none⟩)) w := by
  go_simp
theorem s_ldCode {w : World} {q : Nat} {m : Mg} {s t : Value} (h : MBox w q m s t) : (Instr.loadAt 3 (.pointer (some ⟨q, 8, none⟩))).run Tryz.prog w = .ok (.int .i64 m.r.1) w := by
  have h0 := h.cell 8 _ rfl
  go_simp
theorem mulC {f : Int} (h : 1 ≤ f ∧ f ≤ 3) (x y : Operand) (w : World) : (do eqGuard .mul 3 x y (.int .i64 2) (.int .i64 f); binOp .mul 3 (.int .i64 2) (.int .i64 f) : Sem Value).run Tryz.prog w = .ok (.int .i64 (2 * f)) w := by
  have h1 : IntKind.i64.wrap (2 * f) = 2 * f := by rw [IntKind.wrap_i64]; omega
  go_simp
theorem addC {f : Int} (h : 1 ≤ f ∧ f ≤ 3) (x y : Operand) (w : World) : (do eqGuard .add 3 x y (.int .i64 (2 * f)) (.int .i64 1); binOp .add 3 (.int .i64 (2 * f)) (.int .i64 1) : Sem Value).run Tryz.prog w = .ok (.int .i64 (2 * f + 1)) w := by
  have h1 : IntKind.i64.wrap (2 * f + 1) = 2 * f + 1 := by rw [IntKind.wrap_i64]; omega
  go_simp
theorem remC {f : Int} (h : 1 ≤ f ∧ f ≤ 3) (x y : Operand) (a : Int) (w : World) : (do eqGuard .rem 3 x y (.int .i64 a) (.int .i64 (2 * f + 1)); binOp .rem 3 (.int .i64 a) (.int .i64 (2 * f + 1)) : Sem Value).run Tryz.prog w = .ok (.int .i64 (a.tmod (2 * f + 1))) w := by
  have hn0 : ¬ (2 * f + 1 = 0) := by omega
  go_simp
theorem ixVec (q o n cv nd : Nat) (h : nd < n) (w : World) : (Instr.indexAt 36 (.slice (some ⟨q, o, none⟩) n cv) (.int .i64 (nd : Int))).run Tryz.prog w = .ok (.pointer (some ⟨q, o + nd * 2, none⟩)) w := by
  have h1 : (nd : Int) < (n : Int) := by omega
  go_simp
theorem ldDrAt {w : World} {q p : Nat} {x y : Int} (h0 : w.cell? ⟨q, p, none⟩ = some (.int .u64 x)) (h1 : w.cell? ⟨q, p + 1, none⟩ = some (.int .u64 y)) : (Instr.loadAt 33 (.pointer (some ⟨q, p, none⟩))).run Tryz.prog w = .ok (.agg #[.int .u64 x, .int .u64 y]) w := by
  go_simp
def fiG (f r : Int) (m : Mg) (L : List En) (D : List (Int × Int)) (k : Int) (u0 u1 u2 u3 u4 u5 u6 u7 u8 u9 : Bool) : Bool :=
  if ((u0 && ((decide (m.nd < 0)) || (decide ((2 * f + 1) ≤ m.nd)))) || (u1 && ((decide (m.vw < 0)) || (decide (4294967296 < m.vw))))) = true then false else
  if ((((decide (k = 6)) || (decide (k = 7))) || (decide (k = 8))) && (decide (m.vw < 1))) = true then false else
  if ((((decide (k = 3)) || (decide (k = 5))) || (decide (k = 8))) && (!decide (m.nd = ((m.vw).tmod ((2 * f + 1)))))) = true then false else
  if (u2 && ((decide (m.ls < 0)) || (decide (m.vw ≤ m.ls)))) = true then false else
  if (u3 && ((((decide (m.p < 0)) || (decide (r < m.p))) || ((decide (k = 3)) && (decide (m.p < 1)))) || ((decide (k = 2)) && ((decide (m.p = 0)) != (decide (m.r.1 = 7)))))) = true then false else
  if (u8 && (!decide ((lg L r) = 0))) = true then false else
  if (u4 && (((decide (m.cm < 0)) || (decide (r < m.cm))) || (u8 && (decide (((L.length : Nat) : Int) < m.cm))))) = true then false else
  if (((decide (k = 10)) && (decide (0 < ((L.length : Nat) : Int)))) && (!decide (m.nd = ((m.vw).tmod ((2 * f + 1)))))) = true then false else
  if (u9 && (!decide (((D.length : Nat) : Int) = (2 * f + 1)))) = true then false else
  if ((u5 && (decide (m.d = (0, 0)))) || ((decide (k = 9)) && (!decide (m.d = (D.getD m.nd.toNat (0, 0)))))) = true then false else
  if ((decide (k = 14)) && ((decide (m.r.1 < 4)) || (decide (6 < m.r.1)))) = true then false else
  (((!u6) || (enK k m.e)) && ((!u7) || (resB m.r.1 m.r.2.1 m.r.2.2)))
set_option maxRecDepth 100000 in
set_option maxHeartbeats 8000000 in
theorem fields_any (f r p : Int) (b : Bool) (m : Mg) (a1 a2 : Option Addr) (cl cv g cu : Nat) (k : Int) (u0 u1 u2 u3 u4 u5 u6 u7 u8 u9 : Bool) (L : List En) (D : List (Int × Int)) (w : World) (hf : 1 ≤ f ∧ f ≤ 3) (hL : SlY yE w a1 L.length cl L) (hfit : ∀ e ∈ L, e.fits) (hD : SlY yD w a2 D.length cv D) (hfe : m.e.o.fits) (hg : g < w.heap.size) (hu : ∀ (j : Nat) (b : Bool), ([u0, u1, u2, u3, u4, u5, u6, u7, u8, u9] : List Bool)[j]? = some b → w.cell? ⟨g, j, none⟩ = some (.bool b)) (h9 : k = 9 → u0 = true ∧ u9 = true) : Calls Tryz.prog 37 #[.agg #[.int .i64 f, .int .i64 r, .int .i64 p, .bool b], m.val (.slice a1 L.length cl) (.slice a2 D.length cv), .int .i64 k, .slice (some ⟨g, 0, none⟩) 10 cu] w fun e w' => e = .returned (.bool (fiG f r m L D k u0 u1 u2 u3 u4 u5 u6 u7 u8 u9)) ∧ Below w.heap.size w w' := by
  go_enter Tryz.func37, Tryz.ntmps37
  go_upto_region 1 with (refine boxMk rfl (.tmp 1) rfl m _ _ rfl ?_; intro q1 w1 hq1 M1 b1 z1)
  have hq2 : q1 = w.heap.size + 1 := by first | exact hq1 | simpa using hq1
  subst hq2
  have hB : Below w.heap.size w w1 := ((Below.refl _ _).alloc (Nat.le_refl _) _).trans (b1.mono (by simp))
  have HC : Hid (∀ v, Below w1.heap.size w1 v → CBox v w.heap.size f r) := fun v hv => ⟨(hv.cell (p := ⟨w.heap.size, 0, none⟩) (Nat.lt_of_succ_lt M1.lt)).trans ((b1.cell (p := ⟨w.heap.size, 0, none⟩) (by simp)).trans (by simp)), (hv.cell (p := ⟨w.heap.size, 1, none⟩) (Nat.lt_of_succ_lt M1.lt)).trans ((b1.cell (p := ⟨w.heap.size, 1, none⟩) (by simp)).trans (by simp))⟩
  have HM : Hid (∀ v, Below w1.heap.size w1 v → MBox v (w.heap.size + 1) m (.slice a1 L.length cl) (.slice a2 D.length cv)) := fun v hv => M1.bel hv
  have HB : Hid (∀ v, Below w1.heap.size w1 v → Below w.heap.size w v) := fun v hv => hB.trans (hv.mono hB.size)
  have HU : Hid (∀ v, Below w1.heap.size w1 v → ∀ (j : Nat) (b : Bool), ([u0, u1, u2, u3, u4, u5, u6, u7, u8, u9] : List Bool)[j]? = some b → v.cell? ⟨g, j, none⟩ = some (.bool b)) := fun v hv j b hj => ((HB.out v hv).cell (p := ⟨g, j, none⟩) hg).trans (hu j b hj)
  have HL : Hid (∀ v, Below w1.heap.size w1 v → Calls Tryz.prog 83 #[.slice a1 L.length cl, .int .i64 r] v fun e w' => e = .returned (.int .i64 (lg L r)) ∧ Below v.heap.size v w') := fun v hv => reflog_any L a1 cl r v (hL.later (HB.out v hv)) hfit
  have HE : Hid (∀ v, Calls Tryz.prog 84 #[.int .i64 k, .agg #[.int .i64 m.e.c, .int .i64 m.e.n, .int .i64 m.e.o.k, .int .i64 m.e.o.s, .string m.e.o.v]] v fun e w' => e = .returned (.bool (enK k m.e)) ∧ Below v.heap.size v w') := fun v => refentry7 k m.e hfe v
  have HR : Hid (∀ v, Calls Tryz.prog 85 #[.agg #[.int .i64 m.r.1, .int .i64 m.r.2.1, .string m.r.2.2]] v fun e w' => e = .returned (.bool (resB m.r.1 m.r.2.1 m.r.2.2)) ∧ Below v.heap.size v w') := fun v => refresult_any m.r.1 m.r.2.1 m.r.2.2 v
  have HXm : Hid ((k = 9 → 0 ≤ m.nd ∧ m.nd < (D.length : Int)) → ∃ q2 o2, Hid (k = 9 → ∀ v, Below w1.heap.size w1 v → (Instr.indexAt 36 (.slice a2 D.length cv) (.int .i64 m.nd)).run Tryz.prog v = .ok (.pointer (some ⟨q2, o2 + m.nd.toNat * 2, none⟩)) v ∧ (Instr.loadAt 33 (.pointer (some ⟨q2, o2 + m.nd.toNat * 2, none⟩))).run Tryz.prog v = .ok (.agg #[.int .u64 (D.getD m.nd.toNat (0, 0)).1, .int .u64 (D.getD m.nd.toNat (0, 0)).2]) v)) := fun z => by
    by_cases hk : k = 9
    · obtain ⟨z1', z2'⟩ := z hk
      obtain ⟨nn, hn⟩ := Int.eq_ofNat_of_zero_le z1'
      have hlt : nn < D.length := by omega
      obtain ⟨q2, o2, rfl, hq, hl⟩ := hD.place (fun e => by rw [e] at hlt; simp at hlt)
      refine ⟨q2, o2, fun _ v hv => ?_⟩
      rw [hn, Int.toNat_natCast]
      have hd : D[nn]? = some (D.getD nn (0, 0)) := by rw [List.getD_eq_getElem?_getD, List.getElem?_eq_getElem hlt]; rfl
      have lv : LieY yD v q2 o2 D := hl.upd (S := fun _ => False) (Upd.of_below ((HB.out v hv))) hq id
      exact ⟨ixVec q2 o2 D.length cv nn hlt v, ldDrAt (lv nn _ hd 0 _ rfl) (lv nn _ hd 1 _ rfl)⟩
    · exact ⟨0, 0, fun h => absurd h hk⟩
  have H9 := hide h9
  have HN := hide hf
  have h1 : Below w1.heap.size w1 w1 := Below.refl _ _
  clear M1 b1 z1 hB hq1 hu hL hD hfit hfe h9 hf
  refine wp_region_lit ?_
  refine vl_gen (fun T => T.size = 255 ∧ T[2]? = some (gw true (.int .i64 k)) ∧ T[3]? = some (gw true (.slice (some ⟨g, 0, none⟩) 10 cu)) ∧ T[4]? = some (gw true (.pointer (some ⟨w.heap.size, 0, none⟩))) ∧ T[5]? = some (gw true (.pointer (some ⟨w.heap.size + 1, 0, none⟩)))) ⟨rfl, rfl, rfl, rfl, rfl⟩ (fun T0 ⟨hz, s2, s3, s4, s5⟩ => ?_)
  refine vt (.pointer (some ⟨w.heap.size, 0, none⟩)) (ex_fa rfl (ev s4 rfl) (CBox.fa0 _ _)) hz (fun A1_1 zz kk s10 => ?_)
  replace s2 := kt kk s2
  replace s3 := kt kk s3
  replace s4 := kt kk s4
  replace s5 := kt kk s5
  replace hz := zz
  clear kk zz
  refine vt (.int .i64 f) (ex_ld rfl (ev s10 rfl) ((HC.out w1 h1).ld0)) hz (fun A1_2 zz kk s11 => ?_)
  replace s2 := kt kk s2
  replace s3 := kt kk s3
  replace s4 := kt kk s4
  replace s5 := kt kk s5
  replace hz := zz
  clear kk zz s10 A1_1
  refine vt (.int .i64 (2 * f)) (ex_bin rfl rfl (ev s11 rfl) (mulC HN.out _ _ _)) hz (fun A1_3 zz kk s12 => ?_)
  replace s2 := kt kk s2
  replace s3 := kt kk s3
  replace s4 := kt kk s4
  replace s5 := kt kk s5
  replace hz := zz
  clear kk zz s11 A1_2
  refine vt (.int .i64 (2 * f + 1)) (ex_bin rfl (ev s12 rfl) rfl (addC HN.out _ _ _)) hz (fun A1_4 zz kk s13 => ?_)
  replace s2 := kt kk s2
  replace s3 := kt kk s3
  replace s4 := kt kk s4
  replace s5 := kt kk s5
  replace hz := zz
  clear kk zz s12 A1_3
  refine vt _ (ex_assign rfl (ev s13 rfl)) hz (fun A1_5 zz kk s9 => ?_)
  replace s2 := kt kk s2
  replace s3 := kt kk s3
  replace s4 := kt kk s4
  replace s5 := kt kk s5
  replace hz := zz
  clear kk zz s13 A1_4
  refine wpList_nil ?_
  go_upto_region 2 with fail
  refine wp_region_lit ?_
  refine vt _ (ex_move rfl (ev s3 rfl)) hz (fun A2_1 zz kk s14 => ?_)
  replace s2 := kt kk s2
  replace s3 := kt kk s3
  replace s4 := kt kk s4
  replace s5 := kt kk s5
  replace s9 := kt kk s9
  replace hz := zz
  clear kk zz
  refine vt (.pointer (some ⟨g, 0, none⟩)) (ex_ix rfl (ev s14 rfl) rfl (ixBool g 0 10 cu (by decide) _)) hz (fun A2_2 zz kk s15 => ?_)
  replace s2 := kt kk s2
  replace s3 := kt kk s3
  replace s4 := kt kk s4
  replace s5 := kt kk s5
  replace s9 := kt kk s9
  replace hz := zz
  clear kk zz s14 A2_1
  refine vt (.bool u0) (ex_ld rfl (ev s15 rfl) (ldBool (HU.out w1 h1 0 _ rfl))) hz (fun A2_3 zz kk s16 => ?_)
  replace s2 := kt kk s2
  replace s3 := kt kk s3
  replace s4 := kt kk s4
  replace s5 := kt kk s5
  replace s9 := kt kk s9
  replace hz := zz
  clear kk zz s15 A2_2
  refine vt _ (ex_move rfl (ev s16 rfl)) hz (fun A2_4 zz kk s17 => ?_)
  replace s2 := kt kk s2
  replace s3 := kt kk s3
  replace s4 := kt kk s4
  replace s5 := kt kk s5
  replace s9 := kt kk s9
  replace hz := zz
  clear kk zz s16 A2_3
  refine vl _ (.pointer (some ⟨w.heap.size + 1, 1, none⟩)) (want_g rfl rfl s17) (fun hc => ex_fa rfl (ev s5 rfl) (MBox.faNode _ _)) rfl hz (by decide) (fun A2_5 zz kk s18 => ?_)
  replace s2 := kt kk s2
  replace s3 := kt kk s3
  replace s4 := kt kk s4
  replace s5 := kt kk s5
  replace s9 := kt kk s9
  replace s17 := kt kk s17
  replace hz := zz
  clear kk zz A2_4
  refine vl _ (.int .i64 m.nd) (want_g rfl rfl s17) (fun hc => ex_ld rfl (ev s18 hc) ((HM.out w1 h1).ldNode)) rfl hz (by decide) (fun A2_6 zz kk s19 => ?_)
  replace s2 := kt kk s2
  replace s3 := kt kk s3
  replace s4 := kt kk s4
  replace s5 := kt kk s5
  replace s9 := kt kk s9
  replace s17 := kt kk s17
  replace hz := zz
  clear kk zz s18 A2_5
  refine vl _ (.bool (decide (m.nd < 0))) (want_g rfl rfl s17) (fun hc => ex_bin rfl (ev s19 hc) rfl (lssC _ _ _ _ _)) rfl hz (by decide) (fun A2_7 zz kk s20 => ?_)
  replace s2 := kt kk s2
  replace s3 := kt kk s3
  replace s4 := kt kk s4
  replace s5 := kt kk s5
  replace s9 := kt kk s9
  replace s17 := kt kk s17
  replace hz := zz
  clear kk zz s19 A2_6
  refine vl _ _ (want_g rfl rfl s17) (fun hc => ex_move rfl (ev s20 hc)) rfl hz (by decide) (fun A2_8 zz kk s21 => ?_)
  replace s2 := kt kk s2
  replace s3 := kt kk s3
  replace s4 := kt kk s4
  replace s5 := kt kk s5
  replace s9 := kt kk s9
  replace s17 := kt kk s17
  replace hz := zz
  clear kk zz s20 A2_7
  refine vl ((true && (u0 == true)) && ((decide (m.nd < 0)) == false)) (.pointer (some ⟨w.heap.size + 1, 1, none⟩)) (want_g rfl rfl s21) (fun hc => ex_fa rfl (ev s5 rfl) (MBox.faNode _ _)) rfl hz (by decide) (fun A2_9 zz kk s22 => ?_)
  replace s2 := kt kk s2
  replace s3 := kt kk s3
  replace s4 := kt kk s4
  replace s5 := kt kk s5
  replace s9 := kt kk s9
  replace s17 := kt kk s17
  replace s21 := kt kk s21
  replace hz := zz
  clear kk zz A2_8
  refine vl ((true && (u0 == true)) && ((decide (m.nd < 0)) == false)) (.int .i64 m.nd) (want_g rfl rfl s21) (fun hc => ex_ld rfl (ev s22 hc) ((HM.out w1 h1).ldNode)) rfl hz (by decide) (fun A2_10 zz kk s23 => ?_)
  replace s2 := kt kk s2
  replace s3 := kt kk s3
  replace s4 := kt kk s4
  replace s5 := kt kk s5
  replace s9 := kt kk s9
  replace s17 := kt kk s17
  replace s21 := kt kk s21
  replace hz := zz
  clear kk zz s22 A2_9
  refine vl ((true && (u0 == true)) && ((decide (m.nd < 0)) == false)) (.int .i64 (2 * f + 1)) (want_g rfl rfl s21) (fun hc => ex_move rfl (ev s9 rfl)) rfl hz (by decide) (fun A2_11 zz kk s24 => ?_)
  replace s2 := kt kk s2
  replace s3 := kt kk s3
  replace s4 := kt kk s4
  replace s5 := kt kk s5
  replace s9 := kt kk s9
  replace s17 := kt kk s17
  replace s21 := kt kk s21
  replace s23 := kt kk s23
  replace hz := zz
  clear kk zz A2_10
  refine vl ((true && (u0 == true)) && ((decide (m.nd < 0)) == false)) (.bool (decide ((2 * f + 1) ≤ m.nd))) (want_g rfl rfl s21) (fun hc => ex_bin rfl (ev s23 hc) (ev s24 hc) (geqC _ _ _ _ _)) rfl hz (by decide) (fun A2_12 zz kk s25 => ?_)
  replace s2 := kt kk s2
  replace s3 := kt kk s3
  replace s4 := kt kk s4
  replace s5 := kt kk s5
  replace s9 := kt kk s9
  replace s17 := kt kk s17
  replace s21 := kt kk s21
  replace hz := zz
  clear kk zz s23 s24 A2_11
  refine vl _ (.bool ((decide (m.nd < 0)) || (decide ((2 * f + 1) ≤ m.nd)))) (want_g rfl rfl s17) (fun hc => ex_or rfl s21 s25 hc) rfl hz (by decide) (fun A2_13 zz kk s26 => ?_)
  replace s2 := kt kk s2
  replace s3 := kt kk s3
  replace s4 := kt kk s4
  replace s5 := kt kk s5
  replace s9 := kt kk s9
  replace s17 := kt kk s17
  replace hz := zz
  clear kk zz s21 s25 A2_12
  refine vt (.bool (u0 && ((decide (m.nd < 0)) || (decide ((2 * f + 1) ≤ m.nd))))) (ex_and rfl s17 s26 rfl) hz (fun A2_14 zz kk s27 => ?_)
  replace s2 := kt kk s2
  replace s3 := kt kk s3
  replace s4 := kt kk s4
  replace s5 := kt kk s5
  replace s9 := kt kk s9
  replace hz := zz
  clear kk zz s17 s26 A2_13
  refine vt _ (ex_move rfl (ev s27 rfl)) hz (fun A2_15 zz kk s28 => ?_)
  replace s2 := kt kk s2
  replace s3 := kt kk s3
  replace s4 := kt kk s4
  replace s5 := kt kk s5
  replace s9 := kt kk s9
  replace hz := zz
  clear kk zz s27 A2_14
  refine vl _ _ (want_g rfl rfl s28) (fun hc => ex_move rfl (ev s3 rfl)) rfl hz (by decide) (fun A2_16 zz kk s29 => ?_)
  replace s2 := kt kk s2
  replace s3 := kt kk s3
  replace s4 := kt kk s4
  replace s5 := kt kk s5
  replace s9 := kt kk s9
  replace s28 := kt kk s28
  replace hz := zz
  clear kk zz A2_15
  refine vl _ (.pointer (some ⟨g, 1, none⟩)) (want_g rfl rfl s28) (fun hc => ex_ix rfl (ev s29 hc) rfl (ixBool g 1 10 cu (by decide) _)) rfl hz (by decide) (fun A2_17 zz kk s30 => ?_)
  replace s2 := kt kk s2
  replace s3 := kt kk s3
  replace s4 := kt kk s4
  replace s5 := kt kk s5
  replace s9 := kt kk s9
  replace s28 := kt kk s28
  replace hz := zz
  clear kk zz s29 A2_16
  refine vl _ (.bool u1) (want_g rfl rfl s28) (fun hc => ex_ld rfl (ev s30 hc) (ldBool (HU.out w1 h1 1 _ rfl))) rfl hz (by decide) (fun A2_18 zz kk s31 => ?_)
  replace s2 := kt kk s2
  replace s3 := kt kk s3
  replace s4 := kt kk s4
  replace s5 := kt kk s5
  replace s9 := kt kk s9
  replace s28 := kt kk s28
  replace hz := zz
  clear kk zz s30 A2_17
  refine vl _ _ (want_g rfl rfl s28) (fun hc => ex_move rfl (ev s31 hc)) rfl hz (by decide) (fun A2_19 zz kk s32 => ?_)
  replace s2 := kt kk s2
  replace s3 := kt kk s3
  replace s4 := kt kk s4
  replace s5 := kt kk s5
  replace s9 := kt kk s9
  replace s28 := kt kk s28
  replace hz := zz
  clear kk zz s31 A2_18
  refine vl ((true && ((u0 && ((decide (m.nd < 0)) || (decide ((2 * f + 1) ≤ m.nd)))) == false)) && (u1 == true)) (.pointer (some ⟨w.heap.size + 1, 2, none⟩)) (want_g rfl rfl s32) (fun hc => ex_fa rfl (ev s5 rfl) (MBox.faView _ _)) rfl hz (by decide) (fun A2_20 zz kk s33 => ?_)
  replace s2 := kt kk s2
  replace s3 := kt kk s3
  replace s4 := kt kk s4
  replace s5 := kt kk s5
  replace s9 := kt kk s9
  replace s28 := kt kk s28
  replace s32 := kt kk s32
  replace hz := zz
  clear kk zz A2_19
  refine vl ((true && ((u0 && ((decide (m.nd < 0)) || (decide ((2 * f + 1) ≤ m.nd)))) == false)) && (u1 == true)) (.int .i64 m.vw) (want_g rfl rfl s32) (fun hc => ex_ld rfl (ev s33 hc) ((HM.out w1 h1).ldView)) rfl hz (by decide) (fun A2_21 zz kk s34 => ?_)
  replace s2 := kt kk s2
  replace s3 := kt kk s3
  replace s4 := kt kk s4
  replace s5 := kt kk s5
  replace s9 := kt kk s9
  replace s28 := kt kk s28
  replace s32 := kt kk s32
  replace hz := zz
  clear kk zz s33 A2_20
  refine vl ((true && ((u0 && ((decide (m.nd < 0)) || (decide ((2 * f + 1) ≤ m.nd)))) == false)) && (u1 == true)) (.bool (decide (m.vw < 0))) (want_g rfl rfl s32) (fun hc => ex_bin rfl (ev s34 hc) rfl (lssC _ _ _ _ _)) rfl hz (by decide) (fun A2_22 zz kk s35 => ?_)
  replace s2 := kt kk s2
  replace s3 := kt kk s3
  replace s4 := kt kk s4
  replace s5 := kt kk s5
  replace s9 := kt kk s9
  replace s28 := kt kk s28
  replace s32 := kt kk s32
  replace hz := zz
  clear kk zz s34 A2_21
  refine vl ((true && ((u0 && ((decide (m.nd < 0)) || (decide ((2 * f + 1) ≤ m.nd)))) == false)) && (u1 == true)) (.bool (decide (m.vw < 0))) (want_g rfl rfl s32) (fun hc => ex_move rfl (ev s35 hc)) rfl hz (by decide) (fun A2_23 zz kk s36 => ?_)
  replace s2 := kt kk s2
  replace s3 := kt kk s3
  replace s4 := kt kk s4
  replace s5 := kt kk s5
  replace s9 := kt kk s9
  replace s28 := kt kk s28
  replace s32 := kt kk s32
  replace hz := zz
  clear kk zz s35 A2_22
  refine vl (((true && ((u0 && ((decide (m.nd < 0)) || (decide ((2 * f + 1) ≤ m.nd)))) == false)) && (u1 == true)) && ((decide (m.vw < 0)) == false)) (.pointer (some ⟨w.heap.size + 1, 2, none⟩)) (want_g rfl rfl s36) (fun hc => ex_fa rfl (ev s5 rfl) (MBox.faView _ _)) rfl hz (by decide) (fun A2_24 zz kk s37 => ?_)
  replace s2 := kt kk s2
  replace s3 := kt kk s3
  replace s4 := kt kk s4
  replace s5 := kt kk s5
  replace s9 := kt kk s9
  replace s28 := kt kk s28
  replace s32 := kt kk s32
  replace s36 := kt kk s36
  replace hz := zz
  clear kk zz A2_23
  refine vl (((true && ((u0 && ((decide (m.nd < 0)) || (decide ((2 * f + 1) ≤ m.nd)))) == false)) && (u1 == true)) && ((decide (m.vw < 0)) == false)) (.int .i64 m.vw) (want_g rfl rfl s36) (fun hc => ex_ld rfl (ev s37 hc) ((HM.out w1 h1).ldView)) rfl hz (by decide) (fun A2_25 zz kk s38 => ?_)
  replace s2 := kt kk s2
  replace s3 := kt kk s3
  replace s4 := kt kk s4
  replace s5 := kt kk s5
  replace s9 := kt kk s9
  replace s28 := kt kk s28
  replace s32 := kt kk s32
  replace s36 := kt kk s36
  replace hz := zz
  clear kk zz s37 A2_24
  refine vl (((true && ((u0 && ((decide (m.nd < 0)) || (decide ((2 * f + 1) ≤ m.nd)))) == false)) && (u1 == true)) && ((decide (m.vw < 0)) == false)) (.bool (decide (4294967296 < m.vw))) (want_g rfl rfl s36) (fun hc => ex_bin rfl (ev s38 hc) rfl (gtrC _ _ _ _ _)) rfl hz (by decide) (fun A2_26 zz kk s39 => ?_)
  replace s2 := kt kk s2
  replace s3 := kt kk s3
  replace s4 := kt kk s4
  replace s5 := kt kk s5
  replace s9 := kt kk s9
  replace s28 := kt kk s28
  replace s32 := kt kk s32
  replace s36 := kt kk s36
  replace hz := zz
  clear kk zz s38 A2_25
  refine vl ((true && ((u0 && ((decide (m.nd < 0)) || (decide ((2 * f + 1) ≤ m.nd)))) == false)) && (u1 == true)) (.bool ((decide (m.vw < 0)) || (decide (4294967296 < m.vw)))) (want_g rfl rfl s32) (fun hc => ex_or rfl s36 s39 hc) rfl hz (by decide) (fun A2_27 zz kk s40 => ?_)
  replace s2 := kt kk s2
  replace s3 := kt kk s3
  replace s4 := kt kk s4
  replace s5 := kt kk s5
  replace s9 := kt kk s9
  replace s28 := kt kk s28
  replace s32 := kt kk s32
  replace hz := zz
  clear kk zz s36 s39 A2_26
  refine vl _ (.bool (u1 && ((decide (m.vw < 0)) || (decide (4294967296 < m.vw))))) (want_g rfl rfl s28) (fun hc => ex_and rfl s32 s40 hc) rfl hz (by decide) (fun A2_28 zz kk s41 => ?_)
  replace s2 := kt kk s2
  replace s3 := kt kk s3
  replace s4 := kt kk s4
  replace s5 := kt kk s5
  replace s9 := kt kk s9
  replace s28 := kt kk s28
  replace hz := zz
  clear kk zz s32 s40 A2_27
  refine vt (.bool ((u0 && ((decide (m.nd < 0)) || (decide ((2 * f + 1) ≤ m.nd)))) || (u1 && ((decide (m.vw < 0)) || (decide (4294967296 < m.vw)))))) (ex_or rfl s28 s41 rfl) hz (fun A2_29 zz kk s42 => ?_)
  replace s2 := kt kk s2
  replace s3 := kt kk s3
  replace s4 := kt kk s4
  replace s5 := kt kk s5
  replace s9 := kt kk s9
  replace hz := zz
  clear kk zz s28 s41 A2_28
  refine wpList_nil ?_
  go_upto_region 4 with fail
  cases e2 : ((u0 && ((decide (m.nd < 0)) || (decide ((2 * f + 1) ≤ m.nd)))) || (u1 && ((decide (m.vw < 0)) || (decide (4294967296 < m.vw)))))
  rotate_left
  · refine wp_cond_true ((ev s42 rfl).trans (congrArg Value.bool e2)) ?_
    have HV := hide (HB.out _ h1)
    have V2 := hide (show fiG f r m L D k u0 u1 u2 u3 u4 u5 u6 u7 u8 u9 = false from by unfold fiG; rw [if_pos e2])
    go_wp2
    refine bodyPost_ret (results_tmp rfl _ _ _) rfl ⟨?_, HV.out⟩
    rw [V2.out]
    show Ending.returned ((Array.setIfInBounds _ 8 (Value.bool false)).getD 8 undef) = _
    rw [getD_of (at_set _ (by rw [hz]; decide))]
  refine wp_cond_false ((ev s42 rfl).trans (congrArg Value.bool e2)) ?_
  go_upto_region 4 with fail
  clear s42
  refine wp_region_lit ?_
  refine vt _ (ex_move rfl (ev s2 rfl)) hz (fun A4_1 zz kk s43 => ?_)
  replace s2 := kt kk s2
  replace s3 := kt kk s3
  replace s4 := kt kk s4
  replace s5 := kt kk s5
  replace s9 := kt kk s9
  replace hz := zz
  clear kk zz
  refine vt (.bool (decide (k = 6))) (ex_bin rfl (ev s43 rfl) rfl (eqlC _ _ _ _ _)) hz (fun A4_2 zz kk s44 => ?_)
  replace s2 := kt kk s2
  replace s3 := kt kk s3
  replace s4 := kt kk s4
  replace s5 := kt kk s5
  replace s9 := kt kk s9
  replace hz := zz
  clear kk zz s43 A4_1
  refine vt _ (ex_move rfl (ev s44 rfl)) hz (fun A4_3 zz kk s45 => ?_)
  replace s2 := kt kk s2
  replace s3 := kt kk s3
  replace s4 := kt kk s4
  replace s5 := kt kk s5
  replace s9 := kt kk s9
  replace hz := zz
  clear kk zz s44 A4_2
  refine vl _ _ (want_g rfl rfl s45) (fun hc => ex_move rfl (ev s2 rfl)) rfl hz (by decide) (fun A4_4 zz kk s46 => ?_)
  replace s2 := kt kk s2
  replace s3 := kt kk s3
  replace s4 := kt kk s4
  replace s5 := kt kk s5
  replace s9 := kt kk s9
  replace s45 := kt kk s45
  replace hz := zz
  clear kk zz A4_3
  refine vl _ (.bool (decide (k = 7))) (want_g rfl rfl s45) (fun hc => ex_bin rfl (ev s46 hc) rfl (eqlC _ _ _ _ _)) rfl hz (by decide) (fun A4_5 zz kk s47 => ?_)
  replace s2 := kt kk s2
  replace s3 := kt kk s3
  replace s4 := kt kk s4
  replace s5 := kt kk s5
  replace s9 := kt kk s9
  replace s45 := kt kk s45
  replace hz := zz
  clear kk zz s46 A4_4
  refine vt (.bool ((decide (k = 6)) || (decide (k = 7)))) (ex_or rfl s45 s47 rfl) hz (fun A4_6 zz kk s48 => ?_)
  replace s2 := kt kk s2
  replace s3 := kt kk s3
  replace s4 := kt kk s4
  replace s5 := kt kk s5
  replace s9 := kt kk s9
  replace hz := zz
  clear kk zz s45 s47 A4_5
  refine vt _ (ex_move rfl (ev s48 rfl)) hz (fun A4_7 zz kk s49 => ?_)
  replace s2 := kt kk s2
  replace s3 := kt kk s3
  replace s4 := kt kk s4
  replace s5 := kt kk s5
  replace s9 := kt kk s9
  replace hz := zz
  clear kk zz s48 A4_6
  refine vl _ _ (want_g rfl rfl s49) (fun hc => ex_move rfl (ev s2 rfl)) rfl hz (by decide) (fun A4_8 zz kk s50 => ?_)
  replace s2 := kt kk s2
  replace s3 := kt kk s3
  replace s4 := kt kk s4
  replace s5 := kt kk s5
  replace s9 := kt kk s9
  replace s49 := kt kk s49
  replace hz := zz
  clear kk zz A4_7
  refine vl _ (.bool (decide (k = 8))) (want_g rfl rfl s49) (fun hc => ex_bin rfl (ev s50 hc) rfl (eqlC _ _ _ _ _)) rfl hz (by decide) (fun A4_9 zz kk s51 => ?_)
  replace s2 := kt kk s2
  replace s3 := kt kk s3
  replace s4 := kt kk s4
  replace s5 := kt kk s5
  replace s9 := kt kk s9
  replace s49 := kt kk s49
  replace hz := zz
  clear kk zz s50 A4_8
  refine vt (.bool (((decide (k = 6)) || (decide (k = 7))) || (decide (k = 8)))) (ex_or rfl s49 s51 rfl) hz (fun A4_10 zz kk s52 => ?_)
  replace s2 := kt kk s2
  replace s3 := kt kk s3
  replace s4 := kt kk s4
  replace s5 := kt kk s5
  replace s9 := kt kk s9
  replace hz := zz
  clear kk zz s49 s51 A4_9
  refine vt _ (ex_move rfl (ev s52 rfl)) hz (fun A4_11 zz kk s53 => ?_)
  replace s2 := kt kk s2
  replace s3 := kt kk s3
  replace s4 := kt kk s4
  replace s5 := kt kk s5
  replace s9 := kt kk s9
  replace hz := zz
  clear kk zz s52 A4_10
  refine vl _ (.pointer (some ⟨w.heap.size + 1, 2, none⟩)) (want_g rfl rfl s53) (fun hc => ex_fa rfl (ev s5 rfl) (MBox.faView _ _)) rfl hz (by decide) (fun A4_12 zz kk s54 => ?_)
  replace s2 := kt kk s2
  replace s3 := kt kk s3
  replace s4 := kt kk s4
  replace s5 := kt kk s5
  replace s9 := kt kk s9
  replace s53 := kt kk s53
  replace hz := zz
  clear kk zz A4_11
  refine vl _ (.int .i64 m.vw) (want_g rfl rfl s53) (fun hc => ex_ld rfl (ev s54 hc) ((HM.out w1 h1).ldView)) rfl hz (by decide) (fun A4_13 zz kk s55 => ?_)
  replace s2 := kt kk s2
  replace s3 := kt kk s3
  replace s4 := kt kk s4
  replace s5 := kt kk s5
  replace s9 := kt kk s9
  replace s53 := kt kk s53
  replace hz := zz
  clear kk zz s54 A4_12
  refine vl _ (.bool (decide (m.vw < 1))) (want_g rfl rfl s53) (fun hc => ex_bin rfl (ev s55 hc) rfl (lssC _ _ _ _ _)) rfl hz (by decide) (fun A4_14 zz kk s56 => ?_)
  replace s2 := kt kk s2
  replace s3 := kt kk s3
  replace s4 := kt kk s4
  replace s5 := kt kk s5
  replace s9 := kt kk s9
  replace s53 := kt kk s53
  replace hz := zz
  clear kk zz s55 A4_13
  refine vt (.bool ((((decide (k = 6)) || (decide (k = 7))) || (decide (k = 8))) && (decide (m.vw < 1)))) (ex_and rfl s53 s56 rfl) hz (fun A4_15 zz kk s57 => ?_)
  replace s2 := kt kk s2
  replace s3 := kt kk s3
  replace s4 := kt kk s4
  replace s5 := kt kk s5
  replace s9 := kt kk s9
  replace hz := zz
  clear kk zz s53 s56 A4_14
  refine wpList_nil ?_
  go_upto_region 6 with fail
  cases e4 : ((((decide (k = 6)) || (decide (k = 7))) || (decide (k = 8))) && (decide (m.vw < 1)))
  rotate_left
  · refine wp_cond_true ((ev s57 rfl).trans (congrArg Value.bool e4)) ?_
    have HV := hide (HB.out _ h1)
    have V2 := hide (show fiG f r m L D k u0 u1 u2 u3 u4 u5 u6 u7 u8 u9 = false from by unfold fiG; rw [if_neg (Bool.eq_false_iff.1 e2)]; rw [if_pos e4])
    go_wp2
    refine bodyPost_ret (results_tmp rfl _ _ _) rfl ⟨?_, HV.out⟩
    rw [V2.out]
    show Ending.returned ((Array.setIfInBounds _ 8 (Value.bool false)).getD 8 undef) = _
    rw [getD_of (at_set _ (by rw [hz]; decide))]
  refine wp_cond_false ((ev s57 rfl).trans (congrArg Value.bool e4)) ?_
  go_upto_region 6 with fail
  clear s57
  refine vq_start (C := fun v => Below w1.heap.size w1 v) (by kernel_rfl) (by kernel_rfl) (belN h1 1) ?_
  refine vq true _ (want_none rfl) (fun hc v hv => ex_move rfl (ev s2 rfl)) rfl hz (by decide) (fun A6_1 zz kk s58 => ?_)
  replace s2 := kt kk s2
  replace s3 := kt kk s3
  replace s4 := kt kk s4
  replace s5 := kt kk s5
  replace s9 := kt kk s9
  replace hz := zz
  clear kk zz
  refine vq true (.bool (decide (k = 3))) (want_none rfl) (fun hc v hv => ex_bin rfl (ev s58 rfl) rfl (eqlC _ _ _ _ _)) rfl hz (by decide) (fun A6_2 zz kk s59 => ?_)
  replace s2 := kt kk s2
  replace s3 := kt kk s3
  replace s4 := kt kk s4
  replace s5 := kt kk s5
  replace s9 := kt kk s9
  replace hz := zz
  clear kk zz s58 A6_1
  refine vq true _ (want_none rfl) (fun hc v hv => ex_move rfl (ev s59 rfl)) rfl hz (by decide) (fun A6_3 zz kk s60 => ?_)
  replace s2 := kt kk s2
  replace s3 := kt kk s3
  replace s4 := kt kk s4
  replace s5 := kt kk s5
  replace s9 := kt kk s9
  replace hz := zz
  clear kk zz s59 A6_2
  refine vq _ _ (want_g rfl rfl s60) (fun hc v hv => ex_move rfl (ev s2 rfl)) rfl hz (by decide) (fun A6_4 zz kk s61 => ?_)
  replace s2 := kt kk s2
  replace s3 := kt kk s3
  replace s4 := kt kk s4
  replace s5 := kt kk s5
  replace s9 := kt kk s9
  replace s60 := kt kk s60
  replace hz := zz
  clear kk zz A6_3
  refine vq _ (.bool (decide (k = 5))) (want_g rfl rfl s60) (fun hc v hv => ex_bin rfl (ev s61 hc) rfl (eqlC _ _ _ _ _)) rfl hz (by decide) (fun A6_5 zz kk s62 => ?_)
  replace s2 := kt kk s2
  replace s3 := kt kk s3
  replace s4 := kt kk s4
  replace s5 := kt kk s5
  replace s9 := kt kk s9
  replace s60 := kt kk s60
  replace hz := zz
  clear kk zz s61 A6_4
  refine vq true (.bool ((decide (k = 3)) || (decide (k = 5)))) (want_none rfl) (fun hc v hv => ex_or rfl s60 s62 rfl) rfl hz (by decide) (fun A6_6 zz kk s63 => ?_)
  replace s2 := kt kk s2
  replace s3 := kt kk s3
  replace s4 := kt kk s4
  replace s5 := kt kk s5
  replace s9 := kt kk s9
  replace hz := zz
  clear kk zz s60 s62 A6_5
  refine vq true _ (want_none rfl) (fun hc v hv => ex_move rfl (ev s63 rfl)) rfl hz (by decide) (fun A6_7 zz kk s64 => ?_)
  replace s2 := kt kk s2
  replace s3 := kt kk s3
  replace s4 := kt kk s4
  replace s5 := kt kk s5
  replace s9 := kt kk s9
  replace hz := zz
  clear kk zz s63 A6_6
  refine vq _ _ (want_g rfl rfl s64) (fun hc v hv => ex_move rfl (ev s2 rfl)) rfl hz (by decide) (fun A6_8 zz kk s65 => ?_)
  replace s2 := kt kk s2
  replace s3 := kt kk s3
  replace s4 := kt kk s4
  replace s5 := kt kk s5
  replace s9 := kt kk s9
  replace s64 := kt kk s64
  replace hz := zz
  clear kk zz A6_7
  refine vq _ (.bool (decide (k = 8))) (want_g rfl rfl s64) (fun hc v hv => ex_bin rfl (ev s65 hc) rfl (eqlC _ _ _ _ _)) rfl hz (by decide) (fun A6_9 zz kk s66 => ?_)
  replace s2 := kt kk s2
  replace s3 := kt kk s3
  replace s4 := kt kk s4
  replace s5 := kt kk s5
  replace s9 := kt kk s9
  replace s64 := kt kk s64
  replace hz := zz
  clear kk zz s65 A6_8
  refine vq true (.bool (((decide (k = 3)) || (decide (k = 5))) || (decide (k = 8)))) (want_none rfl) (fun hc v hv => ex_or rfl s64 s66 rfl) rfl hz (by decide) (fun A6_10 zz kk s67 => ?_)
  replace s2 := kt kk s2
  replace s3 := kt kk s3
  replace s4 := kt kk s4
  replace s5 := kt kk s5
  replace s9 := kt kk s9
  replace hz := zz
  clear kk zz s64 s66 A6_9
  refine vq true _ (want_none rfl) (fun hc v hv => ex_move rfl (ev s67 rfl)) rfl hz (by decide) (fun A6_11 zz kk s68 => ?_)
  replace s2 := kt kk s2
  replace s3 := kt kk s3
  replace s4 := kt kk s4
  replace s5 := kt kk s5
  replace s9 := kt kk s9
  replace hz := zz
  clear kk zz s67 A6_10
  refine vq _ (.pointer (some ⟨w.heap.size + 1, 1, none⟩)) (want_g rfl rfl s68) (fun hc v hv => ex_fa rfl (ev s5 rfl) (MBox.faNode _ _)) rfl hz (by decide) (fun A6_12 zz kk s69 => ?_)
  replace s2 := kt kk s2
  replace s3 := kt kk s3
  replace s4 := kt kk s4
  replace s5 := kt kk s5
  replace s9 := kt kk s9
  replace s68 := kt kk s68
  replace hz := zz
  clear kk zz A6_11
  refine vq _ (.int .i64 m.nd) (want_g rfl rfl s68) (fun hc v hv => ex_ld rfl (ev s69 hc) ((HM.out v hv).ldNode)) rfl hz (by decide) (fun A6_13 zz kk s70 => ?_)
  replace s2 := kt kk s2
  replace s3 := kt kk s3
  replace s4 := kt kk s4
  replace s5 := kt kk s5
  replace s9 := kt kk s9
  replace s68 := kt kk s68
  replace hz := zz
  clear kk zz s69 A6_12
  refine vq _ (.pointer (some ⟨w.heap.size + 1, 2, none⟩)) (want_g rfl rfl s68) (fun hc v hv => ex_fa rfl (ev s5 rfl) (MBox.faView _ _)) rfl hz (by decide) (fun A6_14 zz kk s71 => ?_)
  replace s2 := kt kk s2
  replace s3 := kt kk s3
  replace s4 := kt kk s4
  replace s5 := kt kk s5
  replace s9 := kt kk s9
  replace s68 := kt kk s68
  replace s70 := kt kk s70
  replace hz := zz
  clear kk zz A6_13
  refine vq _ (.int .i64 m.vw) (want_g rfl rfl s68) (fun hc v hv => ex_ld rfl (ev s71 hc) ((HM.out v hv).ldView)) rfl hz (by decide) (fun A6_15 zz kk s72 => ?_)
  replace s2 := kt kk s2
  replace s3 := kt kk s3
  replace s4 := kt kk s4
  replace s5 := kt kk s5
  replace s9 := kt kk s9
  replace s68 := kt kk s68
  replace s70 := kt kk s70
  replace hz := zz
  clear kk zz s71 A6_14
  refine vq _ _ (want_g rfl rfl s68) (fun hc v hv => ex_move rfl (ev s9 rfl)) rfl hz (by decide) (fun A6_16 zz kk s73 => ?_)
  replace s2 := kt kk s2
  replace s3 := kt kk s3
  replace s4 := kt kk s4
  replace s5 := kt kk s5
  replace s9 := kt kk s9
  replace s68 := kt kk s68
  replace s70 := kt kk s70
  replace s72 := kt kk s72
  replace hz := zz
  clear kk zz A6_15
  refine vq _ (.int .i64 ((m.vw).tmod ((2 * f + 1)))) (want_g rfl rfl s68) (fun hc v hv => ex_bin rfl (ev s72 hc) (ev s73 hc) (remC HN.out _ _ _ _)) rfl hz (by decide) (fun A6_17 zz kk s74 => ?_)
  replace s2 := kt kk s2
  replace s3 := kt kk s3
  replace s4 := kt kk s4
  replace s5 := kt kk s5
  replace s9 := kt kk s9
  replace s68 := kt kk s68
  replace s70 := kt kk s70
  replace hz := zz
  clear kk zz s72 s73 A6_16
  refine vq _ (.bool (!decide (m.nd = ((m.vw).tmod ((2 * f + 1)))))) (want_g rfl rfl s68) (fun hc v hv => ex_bin rfl (ev s70 hc) (ev s74 hc) (neqC _ _ _ _ _)) rfl hz (by decide) (fun A6_18 zz kk s75 => ?_)
  replace s2 := kt kk s2
  replace s3 := kt kk s3
  replace s4 := kt kk s4
  replace s5 := kt kk s5
  replace s9 := kt kk s9
  replace s68 := kt kk s68
  replace hz := zz
  clear kk zz s70 s74 A6_17
  refine vq true (.bool ((((decide (k = 3)) || (decide (k = 5))) || (decide (k = 8))) && (!decide (m.nd = ((m.vw).tmod ((2 * f + 1))))))) (want_none rfl) (fun hc v hv => ex_and rfl s68 s75 rfl) rfl hz (by decide) (fun A6_19 zz kk s76 => ?_)
  replace s2 := kt kk s2
  replace s3 := kt kk s3
  replace s4 := kt kk s4
  replace s5 := kt kk s5
  replace s9 := kt kk s9
  replace hz := zz
  clear kk zz s68 s75 A6_18
  refine vq_nil (fun x6 hx6 => ?_)
  go_upto_region 8 with fail
  cases e6 : ((((decide (k = 3)) || (decide (k = 5))) || (decide (k = 8))) && (!decide (m.nd = ((m.vw).tmod ((2 * f + 1))))))
  rotate_left
  · refine wp_cond_true ((ev s76 rfl).trans (congrArg Value.bool e6)) ?_
    have HV := hide (HB.out _ hx6)
    have V2 := hide (show fiG f r m L D k u0 u1 u2 u3 u4 u5 u6 u7 u8 u9 = false from by unfold fiG; rw [if_neg (Bool.eq_false_iff.1 e2)]; rw [if_neg (Bool.eq_false_iff.1 e4)]; rw [if_pos e6])
    go_wp2
    refine bodyPost_ret (results_tmp rfl _ _ _) rfl ⟨?_, HV.out⟩
    rw [V2.out]
    show Ending.returned ((Array.setIfInBounds _ 8 (Value.bool false)).getD 8 undef) = _
    rw [getD_of (at_set _ (by rw [hz]; decide))]
  refine wp_cond_false ((ev s76 rfl).trans (congrArg Value.bool e6)) ?_
  go_upto_region 8 with fail
  clear s76
  refine wp_region_lit ?_
  refine vt _ (ex_move rfl (ev s3 rfl)) hz (fun A8_1 zz kk s77 => ?_)
  replace s2 := kt kk s2
  replace s3 := kt kk s3
  replace s4 := kt kk s4
  replace s5 := kt kk s5
  replace s9 := kt kk s9
  replace hz := zz
  clear kk zz
  refine vt (.pointer (some ⟨g, 2, none⟩)) (ex_ix rfl (ev s77 rfl) rfl (ixBool g 2 10 cu (by decide) _)) hz (fun A8_2 zz kk s78 => ?_)
  replace s2 := kt kk s2
  replace s3 := kt kk s3
  replace s4 := kt kk s4
  replace s5 := kt kk s5
  replace s9 := kt kk s9
  replace hz := zz
  clear kk zz s77 A8_1
  refine vt (.bool u2) (ex_ld rfl (ev s78 rfl) (ldBool (HU.out x6 hx6 2 _ rfl))) hz (fun A8_3 zz kk s79 => ?_)
  replace s2 := kt kk s2
  replace s3 := kt kk s3
  replace s4 := kt kk s4
  replace s5 := kt kk s5
  replace s9 := kt kk s9
  replace hz := zz
  clear kk zz s78 A8_2
  refine vt _ (ex_move rfl (ev s79 rfl)) hz (fun A8_4 zz kk s80 => ?_)
  replace s2 := kt kk s2
  replace s3 := kt kk s3
  replace s4 := kt kk s4
  replace s5 := kt kk s5
  replace s9 := kt kk s9
  replace hz := zz
  clear kk zz s79 A8_3
  refine vl _ (.pointer (some ⟨w.heap.size + 1, 13, none⟩)) (want_g rfl rfl s80) (fun hc => ex_fa rfl (ev s5 rfl) (MBox.faLast _ _)) rfl hz (by decide) (fun A8_5 zz kk s81 => ?_)
  replace s2 := kt kk s2
  replace s3 := kt kk s3
  replace s4 := kt kk s4
  replace s5 := kt kk s5
  replace s9 := kt kk s9
  replace s80 := kt kk s80
  replace hz := zz
  clear kk zz A8_4
  refine vl _ (.int .i64 m.ls) (want_g rfl rfl s80) (fun hc => ex_ld rfl (ev s81 hc) ((HM.out x6 hx6).ldLast)) rfl hz (by decide) (fun A8_6 zz kk s82 => ?_)
  replace s2 := kt kk s2
  replace s3 := kt kk s3
  replace s4 := kt kk s4
  replace s5 := kt kk s5
  replace s9 := kt kk s9
  replace s80 := kt kk s80
  replace hz := zz
  clear kk zz s81 A8_5
  refine vl _ (.bool (decide (m.ls < 0))) (want_g rfl rfl s80) (fun hc => ex_bin rfl (ev s82 hc) rfl (lssC _ _ _ _ _)) rfl hz (by decide) (fun A8_7 zz kk s83 => ?_)
  replace s2 := kt kk s2
  replace s3 := kt kk s3
  replace s4 := kt kk s4
  replace s5 := kt kk s5
  replace s9 := kt kk s9
  replace s80 := kt kk s80
  replace hz := zz
  clear kk zz s82 A8_6
  refine vl _ _ (want_g rfl rfl s80) (fun hc => ex_move rfl (ev s83 hc)) rfl hz (by decide) (fun A8_8 zz kk s84 => ?_)
  replace s2 := kt kk s2
  replace s3 := kt kk s3
  replace s4 := kt kk s4
  replace s5 := kt kk s5
  replace s9 := kt kk s9
  replace s80 := kt kk s80
  replace hz := zz
  clear kk zz s83 A8_7
  refine vl ((true && (u2 == true)) && ((decide (m.ls < 0)) == false)) (.pointer (some ⟨w.heap.size + 1, 13, none⟩)) (want_g rfl rfl s84) (fun hc => ex_fa rfl (ev s5 rfl) (MBox.faLast _ _)) rfl hz (by decide) (fun A8_9 zz kk s85 => ?_)
  replace s2 := kt kk s2
  replace s3 := kt kk s3
  replace s4 := kt kk s4
  replace s5 := kt kk s5
  replace s9 := kt kk s9
  replace s80 := kt kk s80
  replace s84 := kt kk s84
  replace hz := zz
  clear kk zz A8_8
  refine vl ((true && (u2 == true)) && ((decide (m.ls < 0)) == false)) (.int .i64 m.ls) (want_g rfl rfl s84) (fun hc => ex_ld rfl (ev s85 hc) ((HM.out x6 hx6).ldLast)) rfl hz (by decide) (fun A8_10 zz kk s86 => ?_)
  replace s2 := kt kk s2
  replace s3 := kt kk s3
  replace s4 := kt kk s4
  replace s5 := kt kk s5
  replace s9 := kt kk s9
  replace s80 := kt kk s80
  replace s84 := kt kk s84
  replace hz := zz
  clear kk zz s85 A8_9
  refine vl ((true && (u2 == true)) && ((decide (m.ls < 0)) == false)) (.pointer (some ⟨w.heap.size + 1, 2, none⟩)) (want_g rfl rfl s84) (fun hc => ex_fa rfl (ev s5 rfl) (MBox.faView _ _)) rfl hz (by decide) (fun A8_11 zz kk s87 => ?_)
  replace s2 := kt kk s2
  replace s3 := kt kk s3
  replace s4 := kt kk s4
  replace s5 := kt kk s5
  replace s9 := kt kk s9
  replace s80 := kt kk s80
  replace s84 := kt kk s84
  replace s86 := kt kk s86
  replace hz := zz
  clear kk zz A8_10
  refine vl ((true && (u2 == true)) && ((decide (m.ls < 0)) == false)) (.int .i64 m.vw) (want_g rfl rfl s84) (fun hc => ex_ld rfl (ev s87 hc) ((HM.out x6 hx6).ldView)) rfl hz (by decide) (fun A8_12 zz kk s88 => ?_)
  replace s2 := kt kk s2
  replace s3 := kt kk s3
  replace s4 := kt kk s4
  replace s5 := kt kk s5
  replace s9 := kt kk s9
  replace s80 := kt kk s80
  replace s84 := kt kk s84
  replace s86 := kt kk s86
  replace hz := zz
  clear kk zz s87 A8_11
  refine vl ((true && (u2 == true)) && ((decide (m.ls < 0)) == false)) (.bool (decide (m.vw ≤ m.ls))) (want_g rfl rfl s84) (fun hc => ex_bin rfl (ev s86 hc) (ev s88 hc) (geqC _ _ _ _ _)) rfl hz (by decide) (fun A8_13 zz kk s89 => ?_)
  replace s2 := kt kk s2
  replace s3 := kt kk s3
  replace s4 := kt kk s4
  replace s5 := kt kk s5
  replace s9 := kt kk s9
  replace s80 := kt kk s80
  replace s84 := kt kk s84
  replace hz := zz
  clear kk zz s86 s88 A8_12
  refine vl _ (.bool ((decide (m.ls < 0)) || (decide (m.vw ≤ m.ls)))) (want_g rfl rfl s80) (fun hc => ex_or rfl s84 s89 hc) rfl hz (by decide) (fun A8_14 zz kk s90 => ?_)
  replace s2 := kt kk s2
  replace s3 := kt kk s3
  replace s4 := kt kk s4
  replace s5 := kt kk s5
  replace s9 := kt kk s9
  replace s80 := kt kk s80
  replace hz := zz
  clear kk zz s84 s89 A8_13
  refine vt (.bool (u2 && ((decide (m.ls < 0)) || (decide (m.vw ≤ m.ls))))) (ex_and rfl s80 s90 rfl) hz (fun A8_15 zz kk s91 => ?_)
  replace s2 := kt kk s2
  replace s3 := kt kk s3
  replace s4 := kt kk s4
  replace s5 := kt kk s5
  replace s9 := kt kk s9
  replace hz := zz
  clear kk zz s80 s90 A8_14
  refine wpList_nil ?_
  go_upto_region 10 with fail
  cases e8 : (u2 && ((decide (m.ls < 0)) || (decide (m.vw ≤ m.ls))))
  rotate_left
  · refine wp_cond_true ((ev s91 rfl).trans (congrArg Value.bool e8)) ?_
    have HV := hide (HB.out _ hx6)
    have V2 := hide (show fiG f r m L D k u0 u1 u2 u3 u4 u5 u6 u7 u8 u9 = false from by unfold fiG; rw [if_neg (Bool.eq_false_iff.1 e2)]; rw [if_neg (Bool.eq_false_iff.1 e4)]; rw [if_neg (Bool.eq_false_iff.1 e6)]; rw [if_pos e8])
    go_wp2
    refine bodyPost_ret (results_tmp rfl _ _ _) rfl ⟨?_, HV.out⟩
    rw [V2.out]
    show Ending.returned ((Array.setIfInBounds _ 8 (Value.bool false)).getD 8 undef) = _
    rw [getD_of (at_set _ (by rw [hz]; decide))]
  refine wp_cond_false ((ev s91 rfl).trans (congrArg Value.bool e8)) ?_
  go_upto_region 10 with fail
  clear s91
  refine wp_region_lit ?_
  refine vt _ (ex_move rfl (ev s3 rfl)) hz (fun A10_1 zz kk s92 => ?_)
  replace s2 := kt kk s2
  replace s3 := kt kk s3
  replace s4 := kt kk s4
  replace s5 := kt kk s5
  replace s9 := kt kk s9
  replace hz := zz
  clear kk zz
  refine vt (.pointer (some ⟨g, 3, none⟩)) (ex_ix rfl (ev s92 rfl) rfl (ixBool g 3 10 cu (by decide) _)) hz (fun A10_2 zz kk s93 => ?_)
  replace s2 := kt kk s2
  replace s3 := kt kk s3
  replace s4 := kt kk s4
  replace s5 := kt kk s5
  replace s9 := kt kk s9
  replace hz := zz
  clear kk zz s92 A10_1
  refine vt (.bool u3) (ex_ld rfl (ev s93 rfl) (ldBool (HU.out x6 hx6 3 _ rfl))) hz (fun A10_3 zz kk s94 => ?_)
  replace s2 := kt kk s2
  replace s3 := kt kk s3
  replace s4 := kt kk s4
  replace s5 := kt kk s5
  replace s9 := kt kk s9
  replace hz := zz
  clear kk zz s93 A10_2
  refine vt _ (ex_move rfl (ev s94 rfl)) hz (fun A10_4 zz kk s95 => ?_)
  replace s2 := kt kk s2
  replace s3 := kt kk s3
  replace s4 := kt kk s4
  replace s5 := kt kk s5
  replace s9 := kt kk s9
  replace hz := zz
  clear kk zz s94 A10_3
  refine vl _ (.pointer (some ⟨w.heap.size + 1, 11, none⟩)) (want_g rfl rfl s95) (fun hc => ex_fa rfl (ev s5 rfl) (MBox.faPlace _ _)) rfl hz (by decide) (fun A10_5 zz kk s96 => ?_)
  replace s2 := kt kk s2
  replace s3 := kt kk s3
  replace s4 := kt kk s4
  replace s5 := kt kk s5
  replace s9 := kt kk s9
  replace s95 := kt kk s95
  replace hz := zz
  clear kk zz A10_4
  refine vl _ (.int .i64 m.p) (want_g rfl rfl s95) (fun hc => ex_ld rfl (ev s96 hc) ((HM.out x6 hx6).ldPlace)) rfl hz (by decide) (fun A10_6 zz kk s97 => ?_)
  replace s2 := kt kk s2
  replace s3 := kt kk s3
  replace s4 := kt kk s4
  replace s5 := kt kk s5
  replace s9 := kt kk s9
  replace s95 := kt kk s95
  replace hz := zz
  clear kk zz s96 A10_5
  refine vl _ (.bool (decide (m.p < 0))) (want_g rfl rfl s95) (fun hc => ex_bin rfl (ev s97 hc) rfl (lssC _ _ _ _ _)) rfl hz (by decide) (fun A10_7 zz kk s98 => ?_)
  replace s2 := kt kk s2
  replace s3 := kt kk s3
  replace s4 := kt kk s4
  replace s5 := kt kk s5
  replace s9 := kt kk s9
  replace s95 := kt kk s95
  replace hz := zz
  clear kk zz s97 A10_6
  refine vl _ _ (want_g rfl rfl s95) (fun hc => ex_move rfl (ev s98 hc)) rfl hz (by decide) (fun A10_8 zz kk s99 => ?_)
  replace s2 := kt kk s2
  replace s3 := kt kk s3
  replace s4 := kt kk s4
  replace s5 := kt kk s5
  replace s9 := kt kk s9
  replace s95 := kt kk s95
  replace hz := zz
  clear kk zz s98 A10_7
  refine vl ((true && (u3 == true)) && ((decide (m.p < 0)) == false)) (.pointer (some ⟨w.heap.size + 1, 11, none⟩)) (want_g rfl rfl s99) (fun hc => ex_fa rfl (ev s5 rfl) (MBox.faPlace _ _)) rfl hz (by decide) (fun A10_9 zz kk s100 => ?_)
  replace s2 := kt kk s2
  replace s3 := kt kk s3
  replace s4 := kt kk s4
  replace s5 := kt kk s5
  replace s9 := kt kk s9
  replace s95 := kt kk s95
  replace s99 := kt kk s99
  replace hz := zz
  clear kk zz A10_8
  refine vl ((true && (u3 == true)) && ((decide (m.p < 0)) == false)) (.int .i64 m.p) (want_g rfl rfl s99) (fun hc => ex_ld rfl (ev s100 hc) ((HM.out x6 hx6).ldPlace)) rfl hz (by decide) (fun A10_10 zz kk s101 => ?_)
  replace s2 := kt kk s2
  replace s3 := kt kk s3
  replace s4 := kt kk s4
  replace s5 := kt kk s5
  replace s9 := kt kk s9
  replace s95 := kt kk s95
  replace s99 := kt kk s99
  replace hz := zz
  clear kk zz s100 A10_9
  refine vl ((true && (u3 == true)) && ((decide (m.p < 0)) == false)) (.pointer (some ⟨w.heap.size, 1, none⟩)) (want_g rfl rfl s99) (fun hc => ex_fa rfl (ev s4 rfl) (CBox.fa1 _ _)) rfl hz (by decide) (fun A10_11 zz kk s102 => ?_)
  replace s2 := kt kk s2
  replace s3 := kt kk s3
  replace s4 := kt kk s4
  replace s5 := kt kk s5
  replace s9 := kt kk s9
  replace s95 := kt kk s95
  replace s99 := kt kk s99
  replace s101 := kt kk s101
  replace hz := zz
  clear kk zz A10_10
  refine vl ((true && (u3 == true)) && ((decide (m.p < 0)) == false)) (.int .i64 r) (want_g rfl rfl s99) (fun hc => ex_ld rfl (ev s102 hc) ((HC.out x6 hx6).ld1)) rfl hz (by decide) (fun A10_12 zz kk s103 => ?_)
  replace s2 := kt kk s2
  replace s3 := kt kk s3
  replace s4 := kt kk s4
  replace s5 := kt kk s5
  replace s9 := kt kk s9
  replace s95 := kt kk s95
  replace s99 := kt kk s99
  replace s101 := kt kk s101
  replace hz := zz
  clear kk zz s102 A10_11
  refine vl ((true && (u3 == true)) && ((decide (m.p < 0)) == false)) (.bool (decide (r < m.p))) (want_g rfl rfl s99) (fun hc => ex_bin rfl (ev s101 hc) (ev s103 hc) (gtrC _ _ _ _ _)) rfl hz (by decide) (fun A10_13 zz kk s104 => ?_)
  replace s2 := kt kk s2
  replace s3 := kt kk s3
  replace s4 := kt kk s4
  replace s5 := kt kk s5
  replace s9 := kt kk s9
  replace s95 := kt kk s95
  replace s99 := kt kk s99
  replace hz := zz
  clear kk zz s101 s103 A10_12
  refine vl _ (.bool ((decide (m.p < 0)) || (decide (r < m.p)))) (want_g rfl rfl s95) (fun hc => ex_or rfl s99 s104 hc) rfl hz (by decide) (fun A10_14 zz kk s105 => ?_)
  replace s2 := kt kk s2
  replace s3 := kt kk s3
  replace s4 := kt kk s4
  replace s5 := kt kk s5
  replace s9 := kt kk s9
  replace s95 := kt kk s95
  replace hz := zz
  clear kk zz s99 s104 A10_13
  refine vl _ _ (want_g rfl rfl s95) (fun hc => ex_move rfl (ev s105 hc)) rfl hz (by decide) (fun A10_15 zz kk s106 => ?_)
  replace s2 := kt kk s2
  replace s3 := kt kk s3
  replace s4 := kt kk s4
  replace s5 := kt kk s5
  replace s9 := kt kk s9
  replace s95 := kt kk s95
  replace hz := zz
  clear kk zz s105 A10_14
  refine vl ((true && (u3 == true)) && (((decide (m.p < 0)) || (decide (r < m.p))) == false)) (.int .i64 k) (want_g rfl rfl s106) (fun hc => ex_move rfl (ev s2 rfl)) rfl hz (by decide) (fun A10_16 zz kk s107 => ?_)
  replace s2 := kt kk s2
  replace s3 := kt kk s3
  replace s4 := kt kk s4
  replace s5 := kt kk s5
  replace s9 := kt kk s9
  replace s95 := kt kk s95
  replace s106 := kt kk s106
  replace hz := zz
  clear kk zz A10_15
  refine vl ((true && (u3 == true)) && (((decide (m.p < 0)) || (decide (r < m.p))) == false)) (.bool (decide (k = 3))) (want_g rfl rfl s106) (fun hc => ex_bin rfl (ev s107 hc) rfl (eqlC _ _ _ _ _)) rfl hz (by decide) (fun A10_17 zz kk s108 => ?_)
  replace s2 := kt kk s2
  replace s3 := kt kk s3
  replace s4 := kt kk s4
  replace s5 := kt kk s5
  replace s9 := kt kk s9
  replace s95 := kt kk s95
  replace s106 := kt kk s106
  replace hz := zz
  clear kk zz s107 A10_16
  refine vl ((true && (u3 == true)) && (((decide (m.p < 0)) || (decide (r < m.p))) == false)) (.bool (decide (k = 3))) (want_g rfl rfl s106) (fun hc => ex_move rfl (ev s108 hc)) rfl hz (by decide) (fun A10_18 zz kk s109 => ?_)
  replace s2 := kt kk s2
  replace s3 := kt kk s3
  replace s4 := kt kk s4
  replace s5 := kt kk s5
  replace s9 := kt kk s9
  replace s95 := kt kk s95
  replace s106 := kt kk s106
  replace hz := zz
  clear kk zz s108 A10_17
  refine vl (((true && (u3 == true)) && (((decide (m.p < 0)) || (decide (r < m.p))) == false)) && ((decide (k = 3)) == true)) (.pointer (some ⟨w.heap.size + 1, 11, none⟩)) (want_g rfl rfl s109) (fun hc => ex_fa rfl (ev s5 rfl) (MBox.faPlace _ _)) rfl hz (by decide) (fun A10_19 zz kk s110 => ?_)
  replace s2 := kt kk s2
  replace s3 := kt kk s3
  replace s4 := kt kk s4
  replace s5 := kt kk s5
  replace s9 := kt kk s9
  replace s95 := kt kk s95
  replace s106 := kt kk s106
  replace s109 := kt kk s109
  replace hz := zz
  clear kk zz A10_18
  refine vl (((true && (u3 == true)) && (((decide (m.p < 0)) || (decide (r < m.p))) == false)) && ((decide (k = 3)) == true)) (.int .i64 m.p) (want_g rfl rfl s109) (fun hc => ex_ld rfl (ev s110 hc) ((HM.out x6 hx6).ldPlace)) rfl hz (by decide) (fun A10_20 zz kk s111 => ?_)
  replace s2 := kt kk s2
  replace s3 := kt kk s3
  replace s4 := kt kk s4
  replace s5 := kt kk s5
  replace s9 := kt kk s9
  replace s95 := kt kk s95
  replace s106 := kt kk s106
  replace s109 := kt kk s109
  replace hz := zz
  clear kk zz s110 A10_19
  refine vl (((true && (u3 == true)) && (((decide (m.p < 0)) || (decide (r < m.p))) == false)) && ((decide (k = 3)) == true)) (.bool (decide (m.p < 1))) (want_g rfl rfl s109) (fun hc => ex_bin rfl (ev s111 hc) rfl (lssC _ _ _ _ _)) rfl hz (by decide) (fun A10_21 zz kk s112 => ?_)
  replace s2 := kt kk s2
  replace s3 := kt kk s3
  replace s4 := kt kk s4
  replace s5 := kt kk s5
  replace s9 := kt kk s9
  replace s95 := kt kk s95
  replace s106 := kt kk s106
  replace s109 := kt kk s109
  replace hz := zz
  clear kk zz s111 A10_20
  refine vl ((true && (u3 == true)) && (((decide (m.p < 0)) || (decide (r < m.p))) == false)) (.bool ((decide (k = 3)) && (decide (m.p < 1)))) (want_g rfl rfl s106) (fun hc => ex_and rfl s109 s112 hc) rfl hz (by decide) (fun A10_22 zz kk s113 => ?_)
  replace s2 := kt kk s2
  replace s3 := kt kk s3
  replace s4 := kt kk s4
  replace s5 := kt kk s5
  replace s9 := kt kk s9
  replace s95 := kt kk s95
  replace s106 := kt kk s106
  replace hz := zz
  clear kk zz s109 s112 A10_21
  refine vl _ (.bool (((decide (m.p < 0)) || (decide (r < m.p))) || ((decide (k = 3)) && (decide (m.p < 1))))) (want_g rfl rfl s95) (fun hc => ex_or rfl s106 s113 hc) rfl hz (by decide) (fun A10_23 zz kk s114 => ?_)
  replace s2 := kt kk s2
  replace s3 := kt kk s3
  replace s4 := kt kk s4
  replace s5 := kt kk s5
  replace s9 := kt kk s9
  replace s95 := kt kk s95
  replace hz := zz
  clear kk zz s106 s113 A10_22
  refine vl _ _ (want_g rfl rfl s95) (fun hc => ex_move rfl (ev s114 hc)) rfl hz (by decide) (fun A10_24 zz kk s115 => ?_)
  replace s2 := kt kk s2
  replace s3 := kt kk s3
  replace s4 := kt kk s4
  replace s5 := kt kk s5
  replace s9 := kt kk s9
  replace s95 := kt kk s95
  replace hz := zz
  clear kk zz s114 A10_23
  refine vl ((true && (u3 == true)) && ((((decide (m.p < 0)) || (decide (r < m.p))) || ((decide (k = 3)) && (decide (m.p < 1)))) == false)) (.int .i64 k) (want_g rfl rfl s115) (fun hc => ex_move rfl (ev s2 rfl)) rfl hz (by decide) (fun A10_25 zz kk s116 => ?_)
  replace s2 := kt kk s2
  replace s3 := kt kk s3
  replace s4 := kt kk s4
  replace s5 := kt kk s5
  replace s9 := kt kk s9
  replace s95 := kt kk s95
  replace s115 := kt kk s115
  replace hz := zz
  clear kk zz A10_24
  refine vl ((true && (u3 == true)) && ((((decide (m.p < 0)) || (decide (r < m.p))) || ((decide (k = 3)) && (decide (m.p < 1)))) == false)) (.bool (decide (k = 2))) (want_g rfl rfl s115) (fun hc => ex_bin rfl (ev s116 hc) rfl (eqlC _ _ _ _ _)) rfl hz (by decide) (fun A10_26 zz kk s117 => ?_)
  replace s2 := kt kk s2
  replace s3 := kt kk s3
  replace s4 := kt kk s4
  replace s5 := kt kk s5
  replace s9 := kt kk s9
  replace s95 := kt kk s95
  replace s115 := kt kk s115
  replace hz := zz
  clear kk zz s116 A10_25
  refine vl ((true && (u3 == true)) && ((((decide (m.p < 0)) || (decide (r < m.p))) || ((decide (k = 3)) && (decide (m.p < 1)))) == false)) (.bool (decide (k = 2))) (want_g rfl rfl s115) (fun hc => ex_move rfl (ev s117 hc)) rfl hz (by decide) (fun A10_27 zz kk s118 => ?_)
  replace s2 := kt kk s2
  replace s3 := kt kk s3
  replace s4 := kt kk s4
  replace s5 := kt kk s5
  replace s9 := kt kk s9
  replace s95 := kt kk s95
  replace s115 := kt kk s115
  replace hz := zz
  clear kk zz s117 A10_26
  refine vl (((true && (u3 == true)) && ((((decide (m.p < 0)) || (decide (r < m.p))) || ((decide (k = 3)) && (decide (m.p < 1)))) == false)) && ((decide (k = 2)) == true)) (.pointer (some ⟨w.heap.size + 1, 11, none⟩)) (want_g rfl rfl s118) (fun hc => ex_fa rfl (ev s5 rfl) (MBox.faPlace _ _)) rfl hz (by decide) (fun A10_28 zz kk s119 => ?_)
  replace s2 := kt kk s2
  replace s3 := kt kk s3
  replace s4 := kt kk s4
  replace s5 := kt kk s5
  replace s9 := kt kk s9
  replace s95 := kt kk s95
  replace s115 := kt kk s115
  replace s118 := kt kk s118
  replace hz := zz
  clear kk zz A10_27
  refine vl (((true && (u3 == true)) && ((((decide (m.p < 0)) || (decide (r < m.p))) || ((decide (k = 3)) && (decide (m.p < 1)))) == false)) && ((decide (k = 2)) == true)) (.int .i64 m.p) (want_g rfl rfl s118) (fun hc => ex_ld rfl (ev s119 hc) ((HM.out x6 hx6).ldPlace)) rfl hz (by decide) (fun A10_29 zz kk s120 => ?_)
  replace s2 := kt kk s2
  replace s3 := kt kk s3
  replace s4 := kt kk s4
  replace s5 := kt kk s5
  replace s9 := kt kk s9
  replace s95 := kt kk s95
  replace s115 := kt kk s115
  replace s118 := kt kk s118
  replace hz := zz
  clear kk zz s119 A10_28
  refine vl (((true && (u3 == true)) && ((((decide (m.p < 0)) || (decide (r < m.p))) || ((decide (k = 3)) && (decide (m.p < 1)))) == false)) && ((decide (k = 2)) == true)) (.bool (decide (m.p = 0))) (want_g rfl rfl s118) (fun hc => ex_bin rfl (ev s120 hc) rfl (eqlC _ _ _ _ _)) rfl hz (by decide) (fun A10_30 zz kk s121 => ?_)
  replace s2 := kt kk s2
  replace s3 := kt kk s3
  replace s4 := kt kk s4
  replace s5 := kt kk s5
  replace s9 := kt kk s9
  replace s95 := kt kk s95
  replace s115 := kt kk s115
  replace s118 := kt kk s118
  replace hz := zz
  clear kk zz s120 A10_29
  refine vl (((true && (u3 == true)) && ((((decide (m.p < 0)) || (decide (r < m.p))) || ((decide (k = 3)) && (decide (m.p < 1)))) == false)) && ((decide (k = 2)) == true)) (.pointer (some ⟨w.heap.size + 1, 8, none⟩)) (want_g rfl rfl s118) (fun hc => ex_fa rfl (ev s5 rfl) (MBox.faResult _ _)) rfl hz (by decide) (fun A10_31 zz kk s122 => ?_)
  replace s2 := kt kk s2
  replace s3 := kt kk s3
  replace s4 := kt kk s4
  replace s5 := kt kk s5
  replace s9 := kt kk s9
  replace s95 := kt kk s95
  replace s115 := kt kk s115
  replace s118 := kt kk s118
  replace s121 := kt kk s121
  replace hz := zz
  clear kk zz A10_30
  refine vl (((true && (u3 == true)) && ((((decide (m.p < 0)) || (decide (r < m.p))) || ((decide (k = 3)) && (decide (m.p < 1)))) == false)) && ((decide (k = 2)) == true)) (.pointer (some ⟨w.heap.size + 1, 8, none⟩)) (want_g rfl rfl s118) (fun hc => ex_fa rfl (ev s122 hc) (faCode _ _)) rfl hz (by decide) (fun A10_32 zz kk s123 => ?_)
  replace s2 := kt kk s2
  replace s3 := kt kk s3
  replace s4 := kt kk s4
  replace s5 := kt kk s5
  replace s9 := kt kk s9
  replace s95 := kt kk s95
  replace s115 := kt kk s115
  replace s118 := kt kk s118
  replace s121 := kt kk s121
  replace hz := zz
  clear kk zz s122 A10_31
  refine vl (((true && (u3 == true)) && ((((decide (m.p < 0)) || (decide (r < m.p))) || ((decide (k = 3)) && (decide (m.p < 1)))) == false)) && ((decide (k = 2)) == true)) (.int .i64 m.r.1) (want_g rfl rfl s118) (fun hc => ex_ld rfl (ev s123 hc) (s_ldCode (HM.out x6 hx6))) rfl hz (by decide) (fun A10_33 zz kk s124 => ?_)
  replace s2 := kt kk s2
  replace s3 := kt kk s3
  replace s4 := kt kk s4
  replace s5 := kt kk s5
  replace s9 := kt kk s9
  replace s95 := kt kk s95
  replace s115 := kt kk s115
  replace s118 := kt kk s118
  replace s121 := kt kk s121
  replace hz := zz
  clear kk zz s123 A10_32
  refine vl (((true && (u3 == true)) && ((((decide (m.p < 0)) || (decide (r < m.p))) || ((decide (k = 3)) && (decide (m.p < 1)))) == false)) && ((decide (k = 2)) == true)) (.bool (decide (m.r.1 = 7))) (want_g rfl rfl s118) (fun hc => ex_bin rfl (ev s124 hc) rfl (eqlC _ _ _ _ _)) rfl hz (by decide) (fun A10_34 zz kk s125 => ?_)
  replace s2 := kt kk s2
  replace s3 := kt kk s3
  replace s4 := kt kk s4
  replace s5 := kt kk s5
  replace s9 := kt kk s9
  replace s95 := kt kk s95
  replace s115 := kt kk s115
  replace s118 := kt kk s118
  replace s121 := kt kk s121
  replace hz := zz
  clear kk zz s124 A10_33
  refine vl (((true && (u3 == true)) && ((((decide (m.p < 0)) || (decide (r < m.p))) || ((decide (k = 3)) && (decide (m.p < 1)))) == false)) && ((decide (k = 2)) == true)) (.bool ((decide (m.p = 0)) != (decide (m.r.1 = 7)))) (want_g rfl rfl s118) (fun hc => ex_bin rfl (ev s121 hc) (ev s125 hc) (neqB _ _ _ _ _)) rfl hz (by decide) (fun A10_35 zz kk s126 => ?_)
  replace s2 := kt kk s2
  replace s3 := kt kk s3
  replace s4 := kt kk s4
  replace s5 := kt kk s5
  replace s9 := kt kk s9
  replace s95 := kt kk s95
  replace s115 := kt kk s115
  replace s118 := kt kk s118
  replace hz := zz
  clear kk zz s121 s125 A10_34
  refine vl ((true && (u3 == true)) && ((((decide (m.p < 0)) || (decide (r < m.p))) || ((decide (k = 3)) && (decide (m.p < 1)))) == false)) (.bool ((decide (k = 2)) && ((decide (m.p = 0)) != (decide (m.r.1 = 7))))) (want_g rfl rfl s115) (fun hc => ex_and rfl s118 s126 hc) rfl hz (by decide) (fun A10_36 zz kk s127 => ?_)
  replace s2 := kt kk s2
  replace s3 := kt kk s3
  replace s4 := kt kk s4
  replace s5 := kt kk s5
  replace s9 := kt kk s9
  replace s95 := kt kk s95
  replace s115 := kt kk s115
  replace hz := zz
  clear kk zz s118 s126 A10_35
  refine vl _ (.bool ((((decide (m.p < 0)) || (decide (r < m.p))) || ((decide (k = 3)) && (decide (m.p < 1)))) || ((decide (k = 2)) && ((decide (m.p = 0)) != (decide (m.r.1 = 7)))))) (want_g rfl rfl s95) (fun hc => ex_or rfl s115 s127 hc) rfl hz (by decide) (fun A10_37 zz kk s128 => ?_)
  replace s2 := kt kk s2
  replace s3 := kt kk s3
  replace s4 := kt kk s4
  replace s5 := kt kk s5
  replace s9 := kt kk s9
  replace s95 := kt kk s95
  replace hz := zz
  clear kk zz s115 s127 A10_36
  refine vt (.bool (u3 && ((((decide (m.p < 0)) || (decide (r < m.p))) || ((decide (k = 3)) && (decide (m.p < 1)))) || ((decide (k = 2)) && ((decide (m.p = 0)) != (decide (m.r.1 = 7))))))) (ex_and rfl s95 s128 rfl) hz (fun A10_38 zz kk s129 => ?_)
  replace s2 := kt kk s2
  replace s3 := kt kk s3
  replace s4 := kt kk s4
  replace s5 := kt kk s5
  replace s9 := kt kk s9
  replace hz := zz
  clear kk zz s95 s128 A10_37
  refine wpList_nil ?_
  go_upto_region 12 with fail
  cases e10 : (u3 && ((((decide (m.p < 0)) || (decide (r < m.p))) || ((decide (k = 3)) && (decide (m.p < 1)))) || ((decide (k = 2)) && ((decide (m.p = 0)) != (decide (m.r.1 = 7))))))
  rotate_left
  · refine wp_cond_true ((ev s129 rfl).trans (congrArg Value.bool e10)) ?_
    have HV := hide (HB.out _ hx6)
    have V2 := hide (show fiG f r m L D k u0 u1 u2 u3 u4 u5 u6 u7 u8 u9 = false from by unfold fiG; rw [if_neg (Bool.eq_false_iff.1 e2)]; rw [if_neg (Bool.eq_false_iff.1 e4)]; rw [if_neg (Bool.eq_false_iff.1 e6)]; rw [if_neg (Bool.eq_false_iff.1 e8)]; rw [if_pos e10])
    go_wp2
    refine bodyPost_ret (results_tmp rfl _ _ _) rfl ⟨?_, HV.out⟩
    rw [V2.out]
    show Ending.returned ((Array.setIfInBounds _ 8 (Value.bool false)).getD 8 undef) = _
    rw [getD_of (at_set _ (by rw [hz]; decide))]
  refine wp_cond_false ((ev s129 rfl).trans (congrArg Value.bool e10)) ?_
  go_upto_region 12 with fail
  clear s129
  refine wp_region_lit ?_
  refine vt _ (ex_move rfl (ev s3 rfl)) hz (fun A12_1 zz kk s130 => ?_)
  replace s2 := kt kk s2
  replace s3 := kt kk s3
  replace s4 := kt kk s4
  replace s5 := kt kk s5
  replace s9 := kt kk s9
  replace hz := zz
  clear kk zz
  refine vt (.pointer (some ⟨g, 8, none⟩)) (ex_ix rfl (ev s130 rfl) rfl (ixBool g 8 10 cu (by decide) _)) hz (fun A12_2 zz kk s131 => ?_)
  replace s2 := kt kk s2
  replace s3 := kt kk s3
  replace s4 := kt kk s4
  replace s5 := kt kk s5
  replace s9 := kt kk s9
  replace hz := zz
  clear kk zz s130 A12_1
  refine vt (.bool u8) (ex_ld rfl (ev s131 rfl) (ldBool (HU.out x6 hx6 8 _ rfl))) hz (fun A12_3 zz kk s132 => ?_)
  replace s2 := kt kk s2
  replace s3 := kt kk s3
  replace s4 := kt kk s4
  replace s5 := kt kk s5
  replace s9 := kt kk s9
  replace hz := zz
  clear kk zz s131 A12_2
  refine vt _ (ex_move rfl (ev s132 rfl)) hz (fun A12_4 zz kk s133 => ?_)
  replace s2 := kt kk s2
  replace s3 := kt kk s3
  replace s4 := kt kk s4
  replace s5 := kt kk s5
  replace s9 := kt kk s9
  replace hz := zz
  clear kk zz s132 A12_3
  refine vl _ (.pointer (some ⟨w.heap.size + 1, 16, none⟩)) (want_g rfl rfl s133) (fun hc => ex_fa rfl (ev s5 rfl) (MBox.faLog _ _)) rfl hz (by decide) (fun A12_5 zz kk s134 => ?_)
  replace s2 := kt kk s2
  replace s3 := kt kk s3
  replace s4 := kt kk s4
  replace s5 := kt kk s5
  replace s9 := kt kk s9
  replace s133 := kt kk s133
  replace hz := zz
  clear kk zz A12_4
  refine vl _ (.slice a1 L.length cl) (want_g rfl rfl s133) (fun hc => ex_ld rfl (ev s134 hc) ((HM.out x6 hx6).ldLog)) rfl hz (by decide) (fun A12_6 zz kk s135 => ?_)
  replace s2 := kt kk s2
  replace s3 := kt kk s3
  replace s4 := kt kk s4
  replace s5 := kt kk s5
  replace s9 := kt kk s9
  replace s133 := kt kk s133
  replace hz := zz
  clear kk zz s134 A12_5
  refine vl _ (.pointer (some ⟨w.heap.size, 1, none⟩)) (want_g rfl rfl s133) (fun hc => ex_fa rfl (ev s4 rfl) (CBox.fa1 _ _)) rfl hz (by decide) (fun A12_7 zz kk s136 => ?_)
  replace s2 := kt kk s2
  replace s3 := kt kk s3
  replace s4 := kt kk s4
  replace s5 := kt kk s5
  replace s9 := kt kk s9
  replace s133 := kt kk s133
  replace s135 := kt kk s135
  replace hz := zz
  clear kk zz A12_6
  refine vl _ (.int .i64 r) (want_g rfl rfl s133) (fun hc => ex_ld rfl (ev s136 hc) ((HC.out x6 hx6).ld1)) rfl hz (by decide) (fun A12_8 zz kk s137 => ?_)
  replace s2 := kt kk s2
  replace s3 := kt kk s3
  replace s4 := kt kk s4
  replace s5 := kt kk s5
  replace s9 := kt kk s9
  replace s133 := kt kk s133
  replace s135 := kt kk s135
  replace hz := zz
  clear kk zz s136 A12_7
  refine vcall (true && (u8 == true)) (.int .i64 (lg L r)) (want_g rfl rfl s133) (fun hc => by unfold execOp; simp only [resolve, invoke, Sem.run_bind, List.map_toArray, List.map_cons, List.map_nil, (ev s135 hc), (ev s137 hc)]; rfl) (fun hc => HL.out x6 hx6) rfl hz (by decide) (fun A12_9 w2 hb zz kk s138 => ?_)
  have hv2 := hx6.trans (hb.mono hx6.size)
  clear hb
  replace s2 := kt kk s2
  replace s3 := kt kk s3
  replace s4 := kt kk s4
  replace s5 := kt kk s5
  replace s9 := kt kk s9
  replace s133 := kt kk s133
  replace hz := zz
  clear kk zz s135 s137 A12_8
  refine vl _ (.bool (!decide ((lg L r) = 0))) (want_g rfl rfl s133) (fun hc => ex_bin rfl (ev s138 hc) rfl (neqC _ _ _ _ _)) rfl hz (by decide) (fun A12_10 zz kk s139 => ?_)
  replace s2 := kt kk s2
  replace s3 := kt kk s3
  replace s4 := kt kk s4
  replace s5 := kt kk s5
  replace s9 := kt kk s9
  replace s133 := kt kk s133
  replace hz := zz
  clear kk zz s138 A12_9
  refine vt (.bool (u8 && (!decide ((lg L r) = 0)))) (ex_and rfl s133 s139 rfl) hz (fun A12_11 zz kk s140 => ?_)
  replace s2 := kt kk s2
  replace s3 := kt kk s3
  replace s4 := kt kk s4
  replace s5 := kt kk s5
  replace s9 := kt kk s9
  replace hz := zz
  clear kk zz s133 s139 A12_10
  refine wpList_nil ?_
  go_upto_region 14 with fail
  cases e12 : (u8 && (!decide ((lg L r) = 0)))
  rotate_left
  · refine wp_cond_true ((ev s140 rfl).trans (congrArg Value.bool e12)) ?_
    have HV := hide (HB.out _ hv2)
    have V2 := hide (show fiG f r m L D k u0 u1 u2 u3 u4 u5 u6 u7 u8 u9 = false from by unfold fiG; rw [if_neg (Bool.eq_false_iff.1 e2)]; rw [if_neg (Bool.eq_false_iff.1 e4)]; rw [if_neg (Bool.eq_false_iff.1 e6)]; rw [if_neg (Bool.eq_false_iff.1 e8)]; rw [if_neg (Bool.eq_false_iff.1 e10)]; rw [if_pos e12])
    go_wp2
    refine bodyPost_ret (results_tmp rfl _ _ _) rfl ⟨?_, HV.out⟩
    rw [V2.out]
    show Ending.returned ((Array.setIfInBounds _ 8 (Value.bool false)).getD 8 undef) = _
    rw [getD_of (at_set _ (by rw [hz]; decide))]
  refine wp_cond_false ((ev s140 rfl).trans (congrArg Value.bool e12)) ?_
  go_upto_region 14 with fail
  clear s140
  refine wp_region_lit ?_
  refine vt _ (ex_move rfl (ev s3 rfl)) hz (fun A14_1 zz kk s141 => ?_)
  replace s2 := kt kk s2
  replace s3 := kt kk s3
  replace s4 := kt kk s4
  replace s5 := kt kk s5
  replace s9 := kt kk s9
  replace hz := zz
  clear kk zz
  refine vt (.pointer (some ⟨g, 4, none⟩)) (ex_ix rfl (ev s141 rfl) rfl (ixBool g 4 10 cu (by decide) _)) hz (fun A14_2 zz kk s142 => ?_)
  replace s2 := kt kk s2
  replace s3 := kt kk s3
  replace s4 := kt kk s4
  replace s5 := kt kk s5
  replace s9 := kt kk s9
  replace hz := zz
  clear kk zz s141 A14_1
  refine vt (.bool u4) (ex_ld rfl (ev s142 rfl) (ldBool (HU.out w2 hv2 4 _ rfl))) hz (fun A14_3 zz kk s143 => ?_)
  replace s2 := kt kk s2
  replace s3 := kt kk s3
  replace s4 := kt kk s4
  replace s5 := kt kk s5
  replace s9 := kt kk s9
  replace hz := zz
  clear kk zz s142 A14_2
  refine vt _ (ex_move rfl (ev s143 rfl)) hz (fun A14_4 zz kk s144 => ?_)
  replace s2 := kt kk s2
  replace s3 := kt kk s3
  replace s4 := kt kk s4
  replace s5 := kt kk s5
  replace s9 := kt kk s9
  replace hz := zz
  clear kk zz s143 A14_3
  refine vl _ (.pointer (some ⟨w.heap.size + 1, 12, none⟩)) (want_g rfl rfl s144) (fun hc => ex_fa rfl (ev s5 rfl) (MBox.faCommit _ _)) rfl hz (by decide) (fun A14_5 zz kk s145 => ?_)
  replace s2 := kt kk s2
  replace s3 := kt kk s3
  replace s4 := kt kk s4
  replace s5 := kt kk s5
  replace s9 := kt kk s9
  replace s144 := kt kk s144
  replace hz := zz
  clear kk zz A14_4
  refine vl _ (.int .i64 m.cm) (want_g rfl rfl s144) (fun hc => ex_ld rfl (ev s145 hc) ((HM.out w2 hv2).ldCommit)) rfl hz (by decide) (fun A14_6 zz kk s146 => ?_)
  replace s2 := kt kk s2
  replace s3 := kt kk s3
  replace s4 := kt kk s4
  replace s5 := kt kk s5
  replace s9 := kt kk s9
  replace s144 := kt kk s144
  replace hz := zz
  clear kk zz s145 A14_5
  refine vl _ (.bool (decide (m.cm < 0))) (want_g rfl rfl s144) (fun hc => ex_bin rfl (ev s146 hc) rfl (lssC _ _ _ _ _)) rfl hz (by decide) (fun A14_7 zz kk s147 => ?_)
  replace s2 := kt kk s2
  replace s3 := kt kk s3
  replace s4 := kt kk s4
  replace s5 := kt kk s5
  replace s9 := kt kk s9
  replace s144 := kt kk s144
  replace hz := zz
  clear kk zz s146 A14_6
  refine vl _ _ (want_g rfl rfl s144) (fun hc => ex_move rfl (ev s147 hc)) rfl hz (by decide) (fun A14_8 zz kk s148 => ?_)
  replace s2 := kt kk s2
  replace s3 := kt kk s3
  replace s4 := kt kk s4
  replace s5 := kt kk s5
  replace s9 := kt kk s9
  replace s144 := kt kk s144
  replace hz := zz
  clear kk zz s147 A14_7
  refine vl ((true && (u4 == true)) && ((decide (m.cm < 0)) == false)) (.pointer (some ⟨w.heap.size + 1, 12, none⟩)) (want_g rfl rfl s148) (fun hc => ex_fa rfl (ev s5 rfl) (MBox.faCommit _ _)) rfl hz (by decide) (fun A14_9 zz kk s149 => ?_)
  replace s2 := kt kk s2
  replace s3 := kt kk s3
  replace s4 := kt kk s4
  replace s5 := kt kk s5
  replace s9 := kt kk s9
  replace s144 := kt kk s144
  replace s148 := kt kk s148
  replace hz := zz
  clear kk zz A14_8
  refine vl ((true && (u4 == true)) && ((decide (m.cm < 0)) == false)) (.int .i64 m.cm) (want_g rfl rfl s148) (fun hc => ex_ld rfl (ev s149 hc) ((HM.out w2 hv2).ldCommit)) rfl hz (by decide) (fun A14_10 zz kk s150 => ?_)
  replace s2 := kt kk s2
  replace s3 := kt kk s3
  replace s4 := kt kk s4
  replace s5 := kt kk s5
  replace s9 := kt kk s9
  replace s144 := kt kk s144
  replace s148 := kt kk s148
  replace hz := zz
  clear kk zz s149 A14_9
  refine vl ((true && (u4 == true)) && ((decide (m.cm < 0)) == false)) (.pointer (some ⟨w.heap.size, 1, none⟩)) (want_g rfl rfl s148) (fun hc => ex_fa rfl (ev s4 rfl) (CBox.fa1 _ _)) rfl hz (by decide) (fun A14_11 zz kk s151 => ?_)
  replace s2 := kt kk s2
  replace s3 := kt kk s3
  replace s4 := kt kk s4
  replace s5 := kt kk s5
  replace s9 := kt kk s9
  replace s144 := kt kk s144
  replace s148 := kt kk s148
  replace s150 := kt kk s150
  replace hz := zz
  clear kk zz A14_10
  refine vl ((true && (u4 == true)) && ((decide (m.cm < 0)) == false)) (.int .i64 r) (want_g rfl rfl s148) (fun hc => ex_ld rfl (ev s151 hc) ((HC.out w2 hv2).ld1)) rfl hz (by decide) (fun A14_12 zz kk s152 => ?_)
  replace s2 := kt kk s2
  replace s3 := kt kk s3
  replace s4 := kt kk s4
  replace s5 := kt kk s5
  replace s9 := kt kk s9
  replace s144 := kt kk s144
  replace s148 := kt kk s148
  replace s150 := kt kk s150
  replace hz := zz
  clear kk zz s151 A14_11
  refine vl ((true && (u4 == true)) && ((decide (m.cm < 0)) == false)) (.bool (decide (r < m.cm))) (want_g rfl rfl s148) (fun hc => ex_bin rfl (ev s150 hc) (ev s152 hc) (gtrC _ _ _ _ _)) rfl hz (by decide) (fun A14_13 zz kk s153 => ?_)
  replace s2 := kt kk s2
  replace s3 := kt kk s3
  replace s4 := kt kk s4
  replace s5 := kt kk s5
  replace s9 := kt kk s9
  replace s144 := kt kk s144
  replace s148 := kt kk s148
  replace hz := zz
  clear kk zz s150 s152 A14_12
  refine vl _ (.bool ((decide (m.cm < 0)) || (decide (r < m.cm)))) (want_g rfl rfl s144) (fun hc => ex_or rfl s148 s153 hc) rfl hz (by decide) (fun A14_14 zz kk s154 => ?_)
  replace s2 := kt kk s2
  replace s3 := kt kk s3
  replace s4 := kt kk s4
  replace s5 := kt kk s5
  replace s9 := kt kk s9
  replace s144 := kt kk s144
  replace hz := zz
  clear kk zz s148 s153 A14_13
  refine vl _ _ (want_g rfl rfl s144) (fun hc => ex_move rfl (ev s154 hc)) rfl hz (by decide) (fun A14_15 zz kk s155 => ?_)
  replace s2 := kt kk s2
  replace s3 := kt kk s3
  replace s4 := kt kk s4
  replace s5 := kt kk s5
  replace s9 := kt kk s9
  replace s144 := kt kk s144
  replace hz := zz
  clear kk zz s154 A14_14
  refine vl ((true && (u4 == true)) && (((decide (m.cm < 0)) || (decide (r < m.cm))) == false)) (.slice (some ⟨g, 0, none⟩) 10 cu) (want_g rfl rfl s155) (fun hc => ex_move rfl (ev s3 rfl)) rfl hz (by decide) (fun A14_16 zz kk s156 => ?_)
  replace s2 := kt kk s2
  replace s3 := kt kk s3
  replace s4 := kt kk s4
  replace s5 := kt kk s5
  replace s9 := kt kk s9
  replace s144 := kt kk s144
  replace s155 := kt kk s155
  replace hz := zz
  clear kk zz A14_15
  refine vl ((true && (u4 == true)) && (((decide (m.cm < 0)) || (decide (r < m.cm))) == false)) (.pointer (some ⟨g, 8, none⟩)) (want_g rfl rfl s155) (fun hc => ex_ix rfl (ev s156 hc) rfl (ixBool g 8 10 cu (by decide) _)) rfl hz (by decide) (fun A14_17 zz kk s157 => ?_)
  replace s2 := kt kk s2
  replace s3 := kt kk s3
  replace s4 := kt kk s4
  replace s5 := kt kk s5
  replace s9 := kt kk s9
  replace s144 := kt kk s144
  replace s155 := kt kk s155
  replace hz := zz
  clear kk zz s156 A14_16
  refine vl ((true && (u4 == true)) && (((decide (m.cm < 0)) || (decide (r < m.cm))) == false)) (.bool u8) (want_g rfl rfl s155) (fun hc => ex_ld rfl (ev s157 hc) (ldBool (HU.out w2 hv2 8 _ rfl))) rfl hz (by decide) (fun A14_18 zz kk s158 => ?_)
  replace s2 := kt kk s2
  replace s3 := kt kk s3
  replace s4 := kt kk s4
  replace s5 := kt kk s5
  replace s9 := kt kk s9
  replace s144 := kt kk s144
  replace s155 := kt kk s155
  replace hz := zz
  clear kk zz s157 A14_17
  refine vl ((true && (u4 == true)) && (((decide (m.cm < 0)) || (decide (r < m.cm))) == false)) (.bool u8) (want_g rfl rfl s155) (fun hc => ex_move rfl (ev s158 hc)) rfl hz (by decide) (fun A14_19 zz kk s159 => ?_)
  replace s2 := kt kk s2
  replace s3 := kt kk s3
  replace s4 := kt kk s4
  replace s5 := kt kk s5
  replace s9 := kt kk s9
  replace s144 := kt kk s144
  replace s155 := kt kk s155
  replace hz := zz
  clear kk zz s158 A14_18
  refine vl (((true && (u4 == true)) && (((decide (m.cm < 0)) || (decide (r < m.cm))) == false)) && (u8 == true)) (.pointer (some ⟨w.heap.size + 1, 12, none⟩)) (want_g rfl rfl s159) (fun hc => ex_fa rfl (ev s5 rfl) (MBox.faCommit _ _)) rfl hz (by decide) (fun A14_20 zz kk s160 => ?_)
  replace s2 := kt kk s2
  replace s3 := kt kk s3
  replace s4 := kt kk s4
  replace s5 := kt kk s5
  replace s9 := kt kk s9
  replace s144 := kt kk s144
  replace s155 := kt kk s155
  replace s159 := kt kk s159
  replace hz := zz
  clear kk zz A14_19
  refine vl (((true && (u4 == true)) && (((decide (m.cm < 0)) || (decide (r < m.cm))) == false)) && (u8 == true)) (.int .i64 m.cm) (want_g rfl rfl s159) (fun hc => ex_ld rfl (ev s160 hc) ((HM.out w2 hv2).ldCommit)) rfl hz (by decide) (fun A14_21 zz kk s161 => ?_)
  replace s2 := kt kk s2
  replace s3 := kt kk s3
  replace s4 := kt kk s4
  replace s5 := kt kk s5
  replace s9 := kt kk s9
  replace s144 := kt kk s144
  replace s155 := kt kk s155
  replace s159 := kt kk s159
  replace hz := zz
  clear kk zz s160 A14_20
  refine vl (((true && (u4 == true)) && (((decide (m.cm < 0)) || (decide (r < m.cm))) == false)) && (u8 == true)) (.pointer (some ⟨w.heap.size + 1, 16, none⟩)) (want_g rfl rfl s159) (fun hc => ex_fa rfl (ev s5 rfl) (MBox.faLog _ _)) rfl hz (by decide) (fun A14_22 zz kk s162 => ?_)
  replace s2 := kt kk s2
  replace s3 := kt kk s3
  replace s4 := kt kk s4
  replace s5 := kt kk s5
  replace s9 := kt kk s9
  replace s144 := kt kk s144
  replace s155 := kt kk s155
  replace s159 := kt kk s159
  replace s161 := kt kk s161
  replace hz := zz
  clear kk zz A14_21
  refine vl (((true && (u4 == true)) && (((decide (m.cm < 0)) || (decide (r < m.cm))) == false)) && (u8 == true)) (.slice a1 L.length cl) (want_g rfl rfl s159) (fun hc => ex_ld rfl (ev s162 hc) ((HM.out w2 hv2).ldLog)) rfl hz (by decide) (fun A14_23 zz kk s163 => ?_)
  replace s2 := kt kk s2
  replace s3 := kt kk s3
  replace s4 := kt kk s4
  replace s5 := kt kk s5
  replace s9 := kt kk s9
  replace s144 := kt kk s144
  replace s155 := kt kk s155
  replace s159 := kt kk s159
  replace s161 := kt kk s161
  replace hz := zz
  clear kk zz s162 A14_22
  refine vl (((true && (u4 == true)) && (((decide (m.cm < 0)) || (decide (r < m.cm))) == false)) && (u8 == true)) (.int .i64 ((L.length : Nat) : Int)) (want_g rfl rfl s159) (fun hc => ex_lenE rfl rfl (ev s163 hc)) rfl hz (by decide) (fun A14_24 zz kk s164 => ?_)
  replace s2 := kt kk s2
  replace s3 := kt kk s3
  replace s4 := kt kk s4
  replace s5 := kt kk s5
  replace s9 := kt kk s9
  replace s144 := kt kk s144
  replace s155 := kt kk s155
  replace s159 := kt kk s159
  replace s161 := kt kk s161
  replace hz := zz
  clear kk zz s163 A14_23
  refine vl (((true && (u4 == true)) && (((decide (m.cm < 0)) || (decide (r < m.cm))) == false)) && (u8 == true)) (.bool (decide (((L.length : Nat) : Int) < m.cm))) (want_g rfl rfl s159) (fun hc => ex_bin rfl (ev s161 hc) (ev s164 hc) (gtrC _ _ _ _ _)) rfl hz (by decide) (fun A14_25 zz kk s165 => ?_)
  replace s2 := kt kk s2
  replace s3 := kt kk s3
  replace s4 := kt kk s4
  replace s5 := kt kk s5
  replace s9 := kt kk s9
  replace s144 := kt kk s144
  replace s155 := kt kk s155
  replace s159 := kt kk s159
  replace hz := zz
  clear kk zz s161 s164 A14_24
  refine vl ((true && (u4 == true)) && (((decide (m.cm < 0)) || (decide (r < m.cm))) == false)) (.bool (u8 && (decide (((L.length : Nat) : Int) < m.cm)))) (want_g rfl rfl s155) (fun hc => ex_and rfl s159 s165 hc) rfl hz (by decide) (fun A14_26 zz kk s166 => ?_)
  replace s2 := kt kk s2
  replace s3 := kt kk s3
  replace s4 := kt kk s4
  replace s5 := kt kk s5
  replace s9 := kt kk s9
  replace s144 := kt kk s144
  replace s155 := kt kk s155
  replace hz := zz
  clear kk zz s159 s165 A14_25
  refine vl _ (.bool (((decide (m.cm < 0)) || (decide (r < m.cm))) || (u8 && (decide (((L.length : Nat) : Int) < m.cm))))) (want_g rfl rfl s144) (fun hc => ex_or rfl s155 s166 hc) rfl hz (by decide) (fun A14_27 zz kk s167 => ?_)
  replace s2 := kt kk s2
  replace s3 := kt kk s3
  replace s4 := kt kk s4
  replace s5 := kt kk s5
  replace s9 := kt kk s9
  replace s144 := kt kk s144
  replace hz := zz
  clear kk zz s155 s166 A14_26
  refine vt (.bool (u4 && (((decide (m.cm < 0)) || (decide (r < m.cm))) || (u8 && (decide (((L.length : Nat) : Int) < m.cm)))))) (ex_and rfl s144 s167 rfl) hz (fun A14_28 zz kk s168 => ?_)
  replace s2 := kt kk s2
  replace s3 := kt kk s3
  replace s4 := kt kk s4
  replace s5 := kt kk s5
  replace s9 := kt kk s9
  replace hz := zz
  clear kk zz s144 s167 A14_27
  refine wpList_nil ?_
  go_upto_region 16 with fail
  cases e14 : (u4 && (((decide (m.cm < 0)) || (decide (r < m.cm))) || (u8 && (decide (((L.length : Nat) : Int) < m.cm)))))
  rotate_left
  · refine wp_cond_true ((ev s168 rfl).trans (congrArg Value.bool e14)) ?_
    have HV := hide (HB.out _ hv2)
    have V2 := hide (show fiG f r m L D k u0 u1 u2 u3 u4 u5 u6 u7 u8 u9 = false from by unfold fiG; rw [if_neg (Bool.eq_false_iff.1 e2)]; rw [if_neg (Bool.eq_false_iff.1 e4)]; rw [if_neg (Bool.eq_false_iff.1 e6)]; rw [if_neg (Bool.eq_false_iff.1 e8)]; rw [if_neg (Bool.eq_false_iff.1 e10)]; rw [if_neg (Bool.eq_false_iff.1 e12)]; rw [if_pos e14])
    go_wp2
    refine bodyPost_ret (results_tmp rfl _ _ _) rfl ⟨?_, HV.out⟩
    rw [V2.out]
    show Ending.returned ((Array.setIfInBounds _ 8 (Value.bool false)).getD 8 undef) = _
    rw [getD_of (at_set _ (by rw [hz]; decide))]
  refine wp_cond_false ((ev s168 rfl).trans (congrArg Value.bool e14)) ?_
  go_upto_region 16 with fail
  clear s168
  refine vq_start (C := fun v => Below w1.heap.size w1 v) (by kernel_rfl) (by kernel_rfl) (belN hv2 1) ?_
  refine vq true _ (want_none rfl) (fun hc v hv => ex_move rfl (ev s2 rfl)) rfl hz (by decide) (fun A16_1 zz kk s169 => ?_)
  replace s2 := kt kk s2
  replace s3 := kt kk s3
  replace s4 := kt kk s4
  replace s5 := kt kk s5
  replace s9 := kt kk s9
  replace hz := zz
  clear kk zz
  refine vq true (.bool (decide (k = 10))) (want_none rfl) (fun hc v hv => ex_bin rfl (ev s169 rfl) rfl (eqlC _ _ _ _ _)) rfl hz (by decide) (fun A16_2 zz kk s170 => ?_)
  replace s2 := kt kk s2
  replace s3 := kt kk s3
  replace s4 := kt kk s4
  replace s5 := kt kk s5
  replace s9 := kt kk s9
  replace hz := zz
  clear kk zz s169 A16_1
  refine vq true _ (want_none rfl) (fun hc v hv => ex_move rfl (ev s170 rfl)) rfl hz (by decide) (fun A16_3 zz kk s171 => ?_)
  replace s2 := kt kk s2
  replace s3 := kt kk s3
  replace s4 := kt kk s4
  replace s5 := kt kk s5
  replace s9 := kt kk s9
  replace hz := zz
  clear kk zz s170 A16_2
  refine vq _ (.pointer (some ⟨w.heap.size + 1, 16, none⟩)) (want_g rfl rfl s171) (fun hc v hv => ex_fa rfl (ev s5 rfl) (MBox.faLog _ _)) rfl hz (by decide) (fun A16_4 zz kk s172 => ?_)
  replace s2 := kt kk s2
  replace s3 := kt kk s3
  replace s4 := kt kk s4
  replace s5 := kt kk s5
  replace s9 := kt kk s9
  replace s171 := kt kk s171
  replace hz := zz
  clear kk zz A16_3
  refine vq _ (.slice a1 L.length cl) (want_g rfl rfl s171) (fun hc v hv => ex_ld rfl (ev s172 hc) ((HM.out v hv).ldLog)) rfl hz (by decide) (fun A16_5 zz kk s173 => ?_)
  replace s2 := kt kk s2
  replace s3 := kt kk s3
  replace s4 := kt kk s4
  replace s5 := kt kk s5
  replace s9 := kt kk s9
  replace s171 := kt kk s171
  replace hz := zz
  clear kk zz s172 A16_4
  refine vq _ (.int .i64 ((L.length : Nat) : Int)) (want_g rfl rfl s171) (fun hc v hv => ex_lenE rfl rfl (ev s173 hc)) rfl hz (by decide) (fun A16_6 zz kk s174 => ?_)
  replace s2 := kt kk s2
  replace s3 := kt kk s3
  replace s4 := kt kk s4
  replace s5 := kt kk s5
  replace s9 := kt kk s9
  replace s171 := kt kk s171
  replace hz := zz
  clear kk zz s173 A16_5
  refine vq _ (.bool (decide (0 < ((L.length : Nat) : Int)))) (want_g rfl rfl s171) (fun hc v hv => ex_bin rfl (ev s174 hc) rfl (gtrC _ _ _ _ _)) rfl hz (by decide) (fun A16_7 zz kk s175 => ?_)
  replace s2 := kt kk s2
  replace s3 := kt kk s3
  replace s4 := kt kk s4
  replace s5 := kt kk s5
  replace s9 := kt kk s9
  replace s171 := kt kk s171
  replace hz := zz
  clear kk zz s174 A16_6
  refine vq true (.bool ((decide (k = 10)) && (decide (0 < ((L.length : Nat) : Int))))) (want_none rfl) (fun hc v hv => ex_and rfl s171 s175 rfl) rfl hz (by decide) (fun A16_8 zz kk s176 => ?_)
  replace s2 := kt kk s2
  replace s3 := kt kk s3
  replace s4 := kt kk s4
  replace s5 := kt kk s5
  replace s9 := kt kk s9
  replace hz := zz
  clear kk zz s171 s175 A16_7
  refine vq true _ (want_none rfl) (fun hc v hv => ex_move rfl (ev s176 rfl)) rfl hz (by decide) (fun A16_9 zz kk s177 => ?_)
  replace s2 := kt kk s2
  replace s3 := kt kk s3
  replace s4 := kt kk s4
  replace s5 := kt kk s5
  replace s9 := kt kk s9
  replace hz := zz
  clear kk zz s176 A16_8
  refine vq _ (.pointer (some ⟨w.heap.size + 1, 1, none⟩)) (want_g rfl rfl s177) (fun hc v hv => ex_fa rfl (ev s5 rfl) (MBox.faNode _ _)) rfl hz (by decide) (fun A16_10 zz kk s178 => ?_)
  replace s2 := kt kk s2
  replace s3 := kt kk s3
  replace s4 := kt kk s4
  replace s5 := kt kk s5
  replace s9 := kt kk s9
  replace s177 := kt kk s177
  replace hz := zz
  clear kk zz A16_9
  refine vq _ (.int .i64 m.nd) (want_g rfl rfl s177) (fun hc v hv => ex_ld rfl (ev s178 hc) ((HM.out v hv).ldNode)) rfl hz (by decide) (fun A16_11 zz kk s179 => ?_)
  replace s2 := kt kk s2
  replace s3 := kt kk s3
  replace s4 := kt kk s4
  replace s5 := kt kk s5
  replace s9 := kt kk s9
  replace s177 := kt kk s177
  replace hz := zz
  clear kk zz s178 A16_10
  refine vq _ (.pointer (some ⟨w.heap.size + 1, 2, none⟩)) (want_g rfl rfl s177) (fun hc v hv => ex_fa rfl (ev s5 rfl) (MBox.faView _ _)) rfl hz (by decide) (fun A16_12 zz kk s180 => ?_)
  replace s2 := kt kk s2
  replace s3 := kt kk s3
  replace s4 := kt kk s4
  replace s5 := kt kk s5
  replace s9 := kt kk s9
  replace s177 := kt kk s177
  replace s179 := kt kk s179
  replace hz := zz
  clear kk zz A16_11
  refine vq _ (.int .i64 m.vw) (want_g rfl rfl s177) (fun hc v hv => ex_ld rfl (ev s180 hc) ((HM.out v hv).ldView)) rfl hz (by decide) (fun A16_13 zz kk s181 => ?_)
  replace s2 := kt kk s2
  replace s3 := kt kk s3
  replace s4 := kt kk s4
  replace s5 := kt kk s5
  replace s9 := kt kk s9
  replace s177 := kt kk s177
  replace s179 := kt kk s179
  replace hz := zz
  clear kk zz s180 A16_12
  refine vq _ _ (want_g rfl rfl s177) (fun hc v hv => ex_move rfl (ev s9 rfl)) rfl hz (by decide) (fun A16_14 zz kk s182 => ?_)
  replace s2 := kt kk s2
  replace s3 := kt kk s3
  replace s4 := kt kk s4
  replace s5 := kt kk s5
  replace s9 := kt kk s9
  replace s177 := kt kk s177
  replace s179 := kt kk s179
  replace s181 := kt kk s181
  replace hz := zz
  clear kk zz A16_13
  refine vq _ (.int .i64 ((m.vw).tmod ((2 * f + 1)))) (want_g rfl rfl s177) (fun hc v hv => ex_bin rfl (ev s181 hc) (ev s182 hc) (remC HN.out _ _ _ _)) rfl hz (by decide) (fun A16_15 zz kk s183 => ?_)
  replace s2 := kt kk s2
  replace s3 := kt kk s3
  replace s4 := kt kk s4
  replace s5 := kt kk s5
  replace s9 := kt kk s9
  replace s177 := kt kk s177
  replace s179 := kt kk s179
  replace hz := zz
  clear kk zz s181 s182 A16_14
  refine vq _ (.bool (!decide (m.nd = ((m.vw).tmod ((2 * f + 1)))))) (want_g rfl rfl s177) (fun hc v hv => ex_bin rfl (ev s179 hc) (ev s183 hc) (neqC _ _ _ _ _)) rfl hz (by decide) (fun A16_16 zz kk s184 => ?_)
  replace s2 := kt kk s2
  replace s3 := kt kk s3
  replace s4 := kt kk s4
  replace s5 := kt kk s5
  replace s9 := kt kk s9
  replace s177 := kt kk s177
  replace hz := zz
  clear kk zz s179 s183 A16_15
  refine vq true (.bool (((decide (k = 10)) && (decide (0 < ((L.length : Nat) : Int)))) && (!decide (m.nd = ((m.vw).tmod ((2 * f + 1))))))) (want_none rfl) (fun hc v hv => ex_and rfl s177 s184 rfl) rfl hz (by decide) (fun A16_17 zz kk s185 => ?_)
  replace s2 := kt kk s2
  replace s3 := kt kk s3
  replace s4 := kt kk s4
  replace s5 := kt kk s5
  replace s9 := kt kk s9
  replace hz := zz
  clear kk zz s177 s184 A16_16
  refine vq_nil (fun x16 hx16 => ?_)
  go_upto_region 18 with fail
  cases e16 : (((decide (k = 10)) && (decide (0 < ((L.length : Nat) : Int)))) && (!decide (m.nd = ((m.vw).tmod ((2 * f + 1))))))
  rotate_left
  · refine wp_cond_true ((ev s185 rfl).trans (congrArg Value.bool e16)) ?_
    have HV := hide (HB.out _ hx16)
    have V2 := hide (show fiG f r m L D k u0 u1 u2 u3 u4 u5 u6 u7 u8 u9 = false from by unfold fiG; rw [if_neg (Bool.eq_false_iff.1 e2)]; rw [if_neg (Bool.eq_false_iff.1 e4)]; rw [if_neg (Bool.eq_false_iff.1 e6)]; rw [if_neg (Bool.eq_false_iff.1 e8)]; rw [if_neg (Bool.eq_false_iff.1 e10)]; rw [if_neg (Bool.eq_false_iff.1 e12)]; rw [if_neg (Bool.eq_false_iff.1 e14)]; rw [if_pos e16])
    go_wp2
    refine bodyPost_ret (results_tmp rfl _ _ _) rfl ⟨?_, HV.out⟩
    rw [V2.out]
    show Ending.returned ((Array.setIfInBounds _ 8 (Value.bool false)).getD 8 undef) = _
    rw [getD_of (at_set _ (by rw [hz]; decide))]
  refine wp_cond_false ((ev s185 rfl).trans (congrArg Value.bool e16)) ?_
  go_upto_region 18 with fail
  clear s185
  refine wp_region_lit ?_
  refine vt _ (ex_move rfl (ev s3 rfl)) hz (fun A18_1 zz kk s186 => ?_)
  replace s2 := kt kk s2
  replace s3 := kt kk s3
  replace s4 := kt kk s4
  replace s5 := kt kk s5
  replace s9 := kt kk s9
  replace hz := zz
  clear kk zz
  refine vt (.pointer (some ⟨g, 9, none⟩)) (ex_ix rfl (ev s186 rfl) rfl (ixBool g 9 10 cu (by decide) _)) hz (fun A18_2 zz kk s187 => ?_)
  replace s2 := kt kk s2
  replace s3 := kt kk s3
  replace s4 := kt kk s4
  replace s5 := kt kk s5
  replace s9 := kt kk s9
  replace hz := zz
  clear kk zz s186 A18_1
  refine vt (.bool u9) (ex_ld rfl (ev s187 rfl) (ldBool (HU.out x16 hx16 9 _ rfl))) hz (fun A18_3 zz kk s188 => ?_)
  replace s2 := kt kk s2
  replace s3 := kt kk s3
  replace s4 := kt kk s4
  replace s5 := kt kk s5
  replace s9 := kt kk s9
  replace hz := zz
  clear kk zz s187 A18_2
  refine vt _ (ex_move rfl (ev s188 rfl)) hz (fun A18_4 zz kk s189 => ?_)
  replace s2 := kt kk s2
  replace s3 := kt kk s3
  replace s4 := kt kk s4
  replace s5 := kt kk s5
  replace s9 := kt kk s9
  replace hz := zz
  clear kk zz s188 A18_3
  refine vl _ (.pointer (some ⟨w.heap.size + 1, 17, none⟩)) (want_g rfl rfl s189) (fun hc => ex_fa rfl (ev s5 rfl) (MBox.faVector _ _)) rfl hz (by decide) (fun A18_5 zz kk s190 => ?_)
  replace s2 := kt kk s2
  replace s3 := kt kk s3
  replace s4 := kt kk s4
  replace s5 := kt kk s5
  replace s9 := kt kk s9
  replace s189 := kt kk s189
  replace hz := zz
  clear kk zz A18_4
  refine vl _ (.slice a2 D.length cv) (want_g rfl rfl s189) (fun hc => ex_ld rfl (ev s190 hc) ((HM.out x16 hx16).ldVector)) rfl hz (by decide) (fun A18_6 zz kk s191 => ?_)
  replace s2 := kt kk s2
  replace s3 := kt kk s3
  replace s4 := kt kk s4
  replace s5 := kt kk s5
  replace s9 := kt kk s9
  replace s189 := kt kk s189
  replace hz := zz
  clear kk zz s190 A18_5
  refine vl _ (.int .i64 ((D.length : Nat) : Int)) (want_g rfl rfl s189) (fun hc => ex_lenV rfl rfl (ev s191 hc)) rfl hz (by decide) (fun A18_7 zz kk s192 => ?_)
  replace s2 := kt kk s2
  replace s3 := kt kk s3
  replace s4 := kt kk s4
  replace s5 := kt kk s5
  replace s9 := kt kk s9
  replace s189 := kt kk s189
  replace hz := zz
  clear kk zz s191 A18_6
  refine vl _ _ (want_g rfl rfl s189) (fun hc => ex_move rfl (ev s9 rfl)) rfl hz (by decide) (fun A18_8 zz kk s193 => ?_)
  replace s2 := kt kk s2
  replace s3 := kt kk s3
  replace s4 := kt kk s4
  replace s5 := kt kk s5
  replace s9 := kt kk s9
  replace s189 := kt kk s189
  replace s192 := kt kk s192
  replace hz := zz
  clear kk zz A18_7
  refine vl _ (.bool (!decide (((D.length : Nat) : Int) = (2 * f + 1)))) (want_g rfl rfl s189) (fun hc => ex_bin rfl (ev s192 hc) (ev s193 hc) (neqC _ _ _ _ _)) rfl hz (by decide) (fun A18_9 zz kk s194 => ?_)
  replace s2 := kt kk s2
  replace s3 := kt kk s3
  replace s4 := kt kk s4
  replace s5 := kt kk s5
  replace s9 := kt kk s9
  replace s189 := kt kk s189
  replace hz := zz
  clear kk zz s192 s193 A18_8
  refine vt (.bool (u9 && (!decide (((D.length : Nat) : Int) = (2 * f + 1))))) (ex_and rfl s189 s194 rfl) hz (fun A18_10 zz kk s195 => ?_)
  replace s2 := kt kk s2
  replace s3 := kt kk s3
  replace s4 := kt kk s4
  replace s5 := kt kk s5
  replace s9 := kt kk s9
  replace hz := zz
  clear kk zz s189 s194 A18_9
  refine wpList_nil ?_
  go_upto_region 20 with fail
  cases e18 : (u9 && (!decide (((D.length : Nat) : Int) = (2 * f + 1))))
  rotate_left
  · refine wp_cond_true ((ev s195 rfl).trans (congrArg Value.bool e18)) ?_
    have HV := hide (HB.out _ hx16)
    have V2 := hide (show fiG f r m L D k u0 u1 u2 u3 u4 u5 u6 u7 u8 u9 = false from by unfold fiG; rw [if_neg (Bool.eq_false_iff.1 e2)]; rw [if_neg (Bool.eq_false_iff.1 e4)]; rw [if_neg (Bool.eq_false_iff.1 e6)]; rw [if_neg (Bool.eq_false_iff.1 e8)]; rw [if_neg (Bool.eq_false_iff.1 e10)]; rw [if_neg (Bool.eq_false_iff.1 e12)]; rw [if_neg (Bool.eq_false_iff.1 e14)]; rw [if_neg (Bool.eq_false_iff.1 e16)]; rw [if_pos e18])
    go_wp2
    refine bodyPost_ret (results_tmp rfl _ _ _) rfl ⟨?_, HV.out⟩
    rw [V2.out]
    show Ending.returned ((Array.setIfInBounds _ 8 (Value.bool false)).getD 8 undef) = _
    rw [getD_of (at_set _ (by rw [hz]; decide))]
  refine wp_cond_false ((ev s195 rfl).trans (congrArg Value.bool e18)) ?_
  have HX : ∃ q2 o2, Hid (k = 9 → ∀ v, Below w1.heap.size w1 v → (Instr.indexAt 36 (.slice a2 D.length cv) (.int .i64 m.nd)).run Tryz.prog v = .ok (.pointer (some ⟨q2, o2 + m.nd.toNat * 2, none⟩)) v ∧ (Instr.loadAt 33 (.pointer (some ⟨q2, o2 + m.nd.toNat * 2, none⟩))).run Tryz.prog v = .ok (.agg #[.int .u64 (D.getD m.nd.toNat (0, 0)).1, .int .u64 (D.getD m.nd.toNat (0, 0)).2]) v) := by
    have z0 : Hid (k = 9 → 0 ≤ m.nd ∧ m.nd < (D.length : Int)) := fun hk => by
      obtain ⟨rfl, rfl⟩ := H9.out hk
      clear HM HC HU HL HE HR HB
      simp only [Bool.true_and, Bool.or_eq_false_iff, decide_eq_false_iff_not, Bool.not_eq_false', decide_eq_true_eq] at e2 e18
      omega
    exact HXm.out z0.out
  obtain ⟨q2, o2, HX⟩ := HX
  go_upto_region 20 with fail
  clear s195
  refine vq_start (C := fun v => Below w1.heap.size w1 v) (by kernel_rfl) (by kernel_rfl) (belN hx16 1) ?_
  refine vq true _ (want_none rfl) (fun hc v hv => ex_move rfl (ev s3 rfl)) rfl hz (by decide) (fun A20_1 zz kk s196 => ?_)
  replace s2 := kt kk s2
  replace s3 := kt kk s3
  replace s4 := kt kk s4
  replace s5 := kt kk s5
  replace s9 := kt kk s9
  replace hz := zz
  clear kk zz
  refine vq true (.pointer (some ⟨g, 5, none⟩)) (want_none rfl) (fun hc v hv => ex_ix rfl (ev s196 rfl) rfl (ixBool g 5 10 cu (by decide) _)) rfl hz (by decide) (fun A20_2 zz kk s197 => ?_)
  replace s2 := kt kk s2
  replace s3 := kt kk s3
  replace s4 := kt kk s4
  replace s5 := kt kk s5
  replace s9 := kt kk s9
  replace hz := zz
  clear kk zz s196 A20_1
  refine vq true (.bool u5) (want_none rfl) (fun hc v hv => ex_ld rfl (ev s197 rfl) (ldBool (HU.out v hv 5 _ rfl))) rfl hz (by decide) (fun A20_3 zz kk s198 => ?_)
  replace s2 := kt kk s2
  replace s3 := kt kk s3
  replace s4 := kt kk s4
  replace s5 := kt kk s5
  replace s9 := kt kk s9
  replace hz := zz
  clear kk zz s197 A20_2
  refine vq true _ (want_none rfl) (fun hc v hv => ex_move rfl (ev s198 rfl)) rfl hz (by decide) (fun A20_4 zz kk s199 => ?_)
  replace s2 := kt kk s2
  replace s3 := kt kk s3
  replace s4 := kt kk s4
  replace s5 := kt kk s5
  replace s9 := kt kk s9
  replace hz := zz
  clear kk zz s198 A20_3
  refine vq _ (.pointer (some ⟨w.heap.size + 1, 14, none⟩)) (want_g rfl rfl s199) (fun hc v hv => ex_fa rfl (ev s5 rfl) (MBox.faDraw _ _)) rfl hz (by decide) (fun A20_5 zz kk s200 => ?_)
  replace s2 := kt kk s2
  replace s3 := kt kk s3
  replace s4 := kt kk s4
  replace s5 := kt kk s5
  replace s9 := kt kk s9
  replace s199 := kt kk s199
  replace hz := zz
  clear kk zz A20_4
  refine vq _ (.agg #[.int .u64 m.d.1, .int .u64 m.d.2]) (want_g rfl rfl s199) (fun hc v hv => ex_ld rfl (ev s200 hc) ((HM.out v hv).ldDraw)) rfl hz (by decide) (fun A20_6 zz kk s201 => ?_)
  replace s2 := kt kk s2
  replace s3 := kt kk s3
  replace s4 := kt kk s4
  replace s5 := kt kk s5
  replace s9 := kt kk s9
  replace s199 := kt kk s199
  replace hz := zz
  clear kk zz s200 A20_5
  refine vq _ (.agg #[.int .u64 0, .int .u64 0]) (want_g rfl rfl s199) (fun hc v hv => ex_build rfl (buildDr _)) rfl hz (by decide) (fun A20_7 zz kk s202 => ?_)
  replace s2 := kt kk s2
  replace s3 := kt kk s3
  replace s4 := kt kk s4
  replace s5 := kt kk s5
  replace s9 := kt kk s9
  replace s199 := kt kk s199
  replace s201 := kt kk s201
  replace hz := zz
  clear kk zz A20_6
  refine vq _ (.bool (decide (m.d = (0, 0)))) (want_g rfl rfl s199) (fun hc v hv => ex_bin rfl (ev s201 hc) (ev s202 hc) (eqlDr _ _ m.d (0, 0) _)) rfl hz (by decide) (fun A20_8 zz kk s203 => ?_)
  replace s2 := kt kk s2
  replace s3 := kt kk s3
  replace s4 := kt kk s4
  replace s5 := kt kk s5
  replace s9 := kt kk s9
  replace s199 := kt kk s199
  replace hz := zz
  clear kk zz s201 s202 A20_7
  refine vq true (.bool (u5 && (decide (m.d = (0, 0))))) (want_none rfl) (fun hc v hv => ex_and rfl s199 s203 rfl) rfl hz (by decide) (fun A20_9 zz kk s204 => ?_)
  replace s2 := kt kk s2
  replace s3 := kt kk s3
  replace s4 := kt kk s4
  replace s5 := kt kk s5
  replace s9 := kt kk s9
  replace hz := zz
  clear kk zz s199 s203 A20_8
  refine vq true _ (want_none rfl) (fun hc v hv => ex_move rfl (ev s204 rfl)) rfl hz (by decide) (fun A20_10 zz kk s205 => ?_)
  replace s2 := kt kk s2
  replace s3 := kt kk s3
  replace s4 := kt kk s4
  replace s5 := kt kk s5
  replace s9 := kt kk s9
  replace hz := zz
  clear kk zz s204 A20_9
  refine vq _ _ (want_g rfl rfl s205) (fun hc v hv => ex_move rfl (ev s2 rfl)) rfl hz (by decide) (fun A20_11 zz kk s206 => ?_)
  replace s2 := kt kk s2
  replace s3 := kt kk s3
  replace s4 := kt kk s4
  replace s5 := kt kk s5
  replace s9 := kt kk s9
  replace s205 := kt kk s205
  replace hz := zz
  clear kk zz A20_10
  refine vq _ (.bool (decide (k = 9))) (want_g rfl rfl s205) (fun hc v hv => ex_bin rfl (ev s206 hc) rfl (eqlC _ _ _ _ _)) rfl hz (by decide) (fun A20_12 zz kk s207 => ?_)
  replace s2 := kt kk s2
  replace s3 := kt kk s3
  replace s4 := kt kk s4
  replace s5 := kt kk s5
  replace s9 := kt kk s9
  replace s205 := kt kk s205
  replace hz := zz
  clear kk zz s206 A20_11
  refine vq _ _ (want_g rfl rfl s205) (fun hc v hv => ex_move rfl (ev s207 hc)) rfl hz (by decide) (fun A20_13 zz kk s208 => ?_)
  replace s2 := kt kk s2
  replace s3 := kt kk s3
  replace s4 := kt kk s4
  replace s5 := kt kk s5
  replace s9 := kt kk s9
  replace s205 := kt kk s205
  replace hz := zz
  clear kk zz s207 A20_12
  refine vq ((true && ((u5 && (decide (m.d = (0, 0)))) == false)) && ((decide (k = 9)) == true)) (.pointer (some ⟨w.heap.size + 1, 14, none⟩)) (want_g rfl rfl s208) (fun hc v hv => ex_fa rfl (ev s5 rfl) (MBox.faDraw _ _)) rfl hz (by decide) (fun A20_14 zz kk s209 => ?_)
  replace s2 := kt kk s2
  replace s3 := kt kk s3
  replace s4 := kt kk s4
  replace s5 := kt kk s5
  replace s9 := kt kk s9
  replace s205 := kt kk s205
  replace s208 := kt kk s208
  replace hz := zz
  clear kk zz A20_13
  refine vq ((true && ((u5 && (decide (m.d = (0, 0)))) == false)) && ((decide (k = 9)) == true)) (.agg #[.int .u64 m.d.1, .int .u64 m.d.2]) (want_g rfl rfl s208) (fun hc v hv => ex_ld rfl (ev s209 hc) ((HM.out v hv).ldDraw)) rfl hz (by decide) (fun A20_15 zz kk s210 => ?_)
  replace s2 := kt kk s2
  replace s3 := kt kk s3
  replace s4 := kt kk s4
  replace s5 := kt kk s5
  replace s9 := kt kk s9
  replace s205 := kt kk s205
  replace s208 := kt kk s208
  replace hz := zz
  clear kk zz s209 A20_14
  refine vq ((true && ((u5 && (decide (m.d = (0, 0)))) == false)) && ((decide (k = 9)) == true)) (.pointer (some ⟨w.heap.size + 1, 17, none⟩)) (want_g rfl rfl s208) (fun hc v hv => ex_fa rfl (ev s5 rfl) (MBox.faVector _ _)) rfl hz (by decide) (fun A20_16 zz kk s211 => ?_)
  replace s2 := kt kk s2
  replace s3 := kt kk s3
  replace s4 := kt kk s4
  replace s5 := kt kk s5
  replace s9 := kt kk s9
  replace s205 := kt kk s205
  replace s208 := kt kk s208
  replace s210 := kt kk s210
  replace hz := zz
  clear kk zz A20_15
  refine vq ((true && ((u5 && (decide (m.d = (0, 0)))) == false)) && ((decide (k = 9)) == true)) (.slice a2 D.length cv) (want_g rfl rfl s208) (fun hc v hv => ex_ld rfl (ev s211 hc) ((HM.out v hv).ldVector)) rfl hz (by decide) (fun A20_17 zz kk s212 => ?_)
  replace s2 := kt kk s2
  replace s3 := kt kk s3
  replace s4 := kt kk s4
  replace s5 := kt kk s5
  replace s9 := kt kk s9
  replace s205 := kt kk s205
  replace s208 := kt kk s208
  replace s210 := kt kk s210
  replace hz := zz
  clear kk zz s211 A20_16
  refine vq ((true && ((u5 && (decide (m.d = (0, 0)))) == false)) && ((decide (k = 9)) == true)) (.pointer (some ⟨w.heap.size + 1, 1, none⟩)) (want_g rfl rfl s208) (fun hc v hv => ex_fa rfl (ev s5 rfl) (MBox.faNode _ _)) rfl hz (by decide) (fun A20_18 zz kk s213 => ?_)
  replace s2 := kt kk s2
  replace s3 := kt kk s3
  replace s4 := kt kk s4
  replace s5 := kt kk s5
  replace s9 := kt kk s9
  replace s205 := kt kk s205
  replace s208 := kt kk s208
  replace s210 := kt kk s210
  replace s212 := kt kk s212
  replace hz := zz
  clear kk zz A20_17
  refine vq ((true && ((u5 && (decide (m.d = (0, 0)))) == false)) && ((decide (k = 9)) == true)) (.int .i64 m.nd) (want_g rfl rfl s208) (fun hc v hv => ex_ld rfl (ev s213 hc) ((HM.out v hv).ldNode)) rfl hz (by decide) (fun A20_19 zz kk s214 => ?_)
  replace s2 := kt kk s2
  replace s3 := kt kk s3
  replace s4 := kt kk s4
  replace s5 := kt kk s5
  replace s9 := kt kk s9
  replace s205 := kt kk s205
  replace s208 := kt kk s208
  replace s210 := kt kk s210
  replace s212 := kt kk s212
  replace hz := zz
  clear kk zz s213 A20_18
  refine vq ((true && ((u5 && (decide (m.d = (0, 0)))) == false)) && ((decide (k = 9)) == true)) (.pointer (some ⟨q2, o2 + m.nd.toNat * 2, none⟩)) (want_g rfl rfl s208) (fun hc v hv => ex_ix rfl (ev s212 hc) (ev s214 hc) (HX.out (of_decide_eq_true (and_r hc)) v hv).1) rfl hz (by decide) (fun A20_20 zz kk s215 => ?_)
  replace s2 := kt kk s2
  replace s3 := kt kk s3
  replace s4 := kt kk s4
  replace s5 := kt kk s5
  replace s9 := kt kk s9
  replace s205 := kt kk s205
  replace s208 := kt kk s208
  replace s210 := kt kk s210
  replace hz := zz
  clear kk zz s212 s214 A20_19
  refine vq ((true && ((u5 && (decide (m.d = (0, 0)))) == false)) && ((decide (k = 9)) == true)) (.agg #[.int .u64 (D.getD m.nd.toNat (0, 0)).1, .int .u64 (D.getD m.nd.toNat (0, 0)).2]) (want_g rfl rfl s208) (fun hc v hv => ex_ld rfl (ev s215 hc) (HX.out (of_decide_eq_true (and_r hc)) v hv).2) rfl hz (by decide) (fun A20_21 zz kk s216 => ?_)
  replace s2 := kt kk s2
  replace s3 := kt kk s3
  replace s4 := kt kk s4
  replace s5 := kt kk s5
  replace s9 := kt kk s9
  replace s205 := kt kk s205
  replace s208 := kt kk s208
  replace s210 := kt kk s210
  replace hz := zz
  clear kk zz s215 A20_20
  refine vq ((true && ((u5 && (decide (m.d = (0, 0)))) == false)) && ((decide (k = 9)) == true)) (.bool (!decide (m.d = (D.getD m.nd.toNat (0, 0))))) (want_g rfl rfl s208) (fun hc v hv => ex_bin rfl (ev s210 hc) (ev s216 hc) (neqDr _ _ m.d (D.getD m.nd.toNat (0, 0)) _)) rfl hz (by decide) (fun A20_22 zz kk s217 => ?_)
  replace s2 := kt kk s2
  replace s3 := kt kk s3
  replace s4 := kt kk s4
  replace s5 := kt kk s5
  replace s9 := kt kk s9
  replace s205 := kt kk s205
  replace s208 := kt kk s208
  replace hz := zz
  clear kk zz s210 s216 A20_21
  refine vq _ (.bool ((decide (k = 9)) && (!decide (m.d = (D.getD m.nd.toNat (0, 0)))))) (want_g rfl rfl s205) (fun hc v hv => ex_and rfl s208 s217 hc) rfl hz (by decide) (fun A20_23 zz kk s218 => ?_)
  replace s2 := kt kk s2
  replace s3 := kt kk s3
  replace s4 := kt kk s4
  replace s5 := kt kk s5
  replace s9 := kt kk s9
  replace s205 := kt kk s205
  replace hz := zz
  clear kk zz s208 s217 A20_22
  refine vq true (.bool ((u5 && (decide (m.d = (0, 0)))) || ((decide (k = 9)) && (!decide (m.d = (D.getD m.nd.toNat (0, 0))))))) (want_none rfl) (fun hc v hv => ex_or rfl s205 s218 rfl) rfl hz (by decide) (fun A20_24 zz kk s219 => ?_)
  replace s2 := kt kk s2
  replace s3 := kt kk s3
  replace s4 := kt kk s4
  replace s5 := kt kk s5
  replace s9 := kt kk s9
  replace hz := zz
  clear kk zz s205 s218 A20_23
  refine vq_nil (fun x20 hx20 => ?_)
  go_upto_region 22 with fail
  cases e20 : ((u5 && (decide (m.d = (0, 0)))) || ((decide (k = 9)) && (!decide (m.d = (D.getD m.nd.toNat (0, 0))))))
  rotate_left
  · refine wp_cond_true ((ev s219 rfl).trans (congrArg Value.bool e20)) ?_
    have HV := hide (HB.out _ hx20)
    have V2 := hide (show fiG f r m L D k u0 u1 u2 u3 u4 u5 u6 u7 u8 u9 = false from by unfold fiG; rw [if_neg (Bool.eq_false_iff.1 e2)]; rw [if_neg (Bool.eq_false_iff.1 e4)]; rw [if_neg (Bool.eq_false_iff.1 e6)]; rw [if_neg (Bool.eq_false_iff.1 e8)]; rw [if_neg (Bool.eq_false_iff.1 e10)]; rw [if_neg (Bool.eq_false_iff.1 e12)]; rw [if_neg (Bool.eq_false_iff.1 e14)]; rw [if_neg (Bool.eq_false_iff.1 e16)]; rw [if_neg (Bool.eq_false_iff.1 e18)]; rw [if_pos e20])
    go_wp2
    refine bodyPost_ret (results_tmp rfl _ _ _) rfl ⟨?_, HV.out⟩
    rw [V2.out]
    show Ending.returned ((Array.setIfInBounds _ 8 (Value.bool false)).getD 8 undef) = _
    rw [getD_of (at_set _ (by rw [hz]; decide))]
  refine wp_cond_false ((ev s219 rfl).trans (congrArg Value.bool e20)) ?_
  go_upto_region 22 with fail
  clear s219
  refine wp_region_lit ?_
  refine vt _ (ex_move rfl (ev s2 rfl)) hz (fun A22_1 zz kk s220 => ?_)
  replace s2 := kt kk s2
  replace s3 := kt kk s3
  replace s4 := kt kk s4
  replace s5 := kt kk s5
  replace s9 := kt kk s9
  replace hz := zz
  clear kk zz
  refine vt (.bool (decide (k = 14))) (ex_bin rfl (ev s220 rfl) rfl (eqlC _ _ _ _ _)) hz (fun A22_2 zz kk s221 => ?_)
  replace s2 := kt kk s2
  replace s3 := kt kk s3
  replace s4 := kt kk s4
  replace s5 := kt kk s5
  replace s9 := kt kk s9
  replace hz := zz
  clear kk zz s220 A22_1
  refine vt _ (ex_move rfl (ev s221 rfl)) hz (fun A22_3 zz kk s222 => ?_)
  replace s2 := kt kk s2
  replace s3 := kt kk s3
  replace s4 := kt kk s4
  replace s5 := kt kk s5
  replace s9 := kt kk s9
  replace hz := zz
  clear kk zz s221 A22_2
  refine vl _ (.pointer (some ⟨w.heap.size + 1, 8, none⟩)) (want_g rfl rfl s222) (fun hc => ex_fa rfl (ev s5 rfl) (MBox.faResult _ _)) rfl hz (by decide) (fun A22_4 zz kk s223 => ?_)
  replace s2 := kt kk s2
  replace s3 := kt kk s3
  replace s4 := kt kk s4
  replace s5 := kt kk s5
  replace s9 := kt kk s9
  replace s222 := kt kk s222
  replace hz := zz
  clear kk zz A22_3
  refine vl _ (.pointer (some ⟨w.heap.size + 1, 8, none⟩)) (want_g rfl rfl s222) (fun hc => ex_fa rfl (ev s223 hc) (faCode _ _)) rfl hz (by decide) (fun A22_5 zz kk s224 => ?_)
  replace s2 := kt kk s2
  replace s3 := kt kk s3
  replace s4 := kt kk s4
  replace s5 := kt kk s5
  replace s9 := kt kk s9
  replace s222 := kt kk s222
  replace hz := zz
  clear kk zz s223 A22_4
  refine vl _ (.int .i64 m.r.1) (want_g rfl rfl s222) (fun hc => ex_ld rfl (ev s224 hc) (s_ldCode (HM.out x20 hx20))) rfl hz (by decide) (fun A22_6 zz kk s225 => ?_)
  replace s2 := kt kk s2
  replace s3 := kt kk s3
  replace s4 := kt kk s4
  replace s5 := kt kk s5
  replace s9 := kt kk s9
  replace s222 := kt kk s222
  replace hz := zz
  clear kk zz s224 A22_5
  refine vl _ (.bool (decide (m.r.1 < 4))) (want_g rfl rfl s222) (fun hc => ex_bin rfl (ev s225 hc) rfl (lssC _ _ _ _ _)) rfl hz (by decide) (fun A22_7 zz kk s226 => ?_)
  replace s2 := kt kk s2
  replace s3 := kt kk s3
  replace s4 := kt kk s4
  replace s5 := kt kk s5
  replace s9 := kt kk s9
  replace s222 := kt kk s222
  replace hz := zz
  clear kk zz s225 A22_6
  refine vl _ _ (want_g rfl rfl s222) (fun hc => ex_move rfl (ev s226 hc)) rfl hz (by decide) (fun A22_8 zz kk s227 => ?_)
  replace s2 := kt kk s2
  replace s3 := kt kk s3
  replace s4 := kt kk s4
  replace s5 := kt kk s5
  replace s9 := kt kk s9
  replace s222 := kt kk s222
  replace hz := zz
  clear kk zz s226 A22_7
  refine vl ((true && ((decide (k = 14)) == true)) && ((decide (m.r.1 < 4)) == false)) (.pointer (some ⟨w.heap.size + 1, 8, none⟩)) (want_g rfl rfl s227) (fun hc => ex_fa rfl (ev s5 rfl) (MBox.faResult _ _)) rfl hz (by decide) (fun A22_9 zz kk s228 => ?_)
  replace s2 := kt kk s2
  replace s3 := kt kk s3
  replace s4 := kt kk s4
  replace s5 := kt kk s5
  replace s9 := kt kk s9
  replace s222 := kt kk s222
  replace s227 := kt kk s227
  replace hz := zz
  clear kk zz A22_8
  refine vl ((true && ((decide (k = 14)) == true)) && ((decide (m.r.1 < 4)) == false)) (.pointer (some ⟨w.heap.size + 1, 8, none⟩)) (want_g rfl rfl s227) (fun hc => ex_fa rfl (ev s228 hc) (faCode _ _)) rfl hz (by decide) (fun A22_10 zz kk s229 => ?_)
  replace s2 := kt kk s2
  replace s3 := kt kk s3
  replace s4 := kt kk s4
  replace s5 := kt kk s5
  replace s9 := kt kk s9
  replace s222 := kt kk s222
  replace s227 := kt kk s227
  replace hz := zz
  clear kk zz s228 A22_9
  refine vl ((true && ((decide (k = 14)) == true)) && ((decide (m.r.1 < 4)) == false)) (.int .i64 m.r.1) (want_g rfl rfl s227) (fun hc => ex_ld rfl (ev s229 hc) (s_ldCode (HM.out x20 hx20))) rfl hz (by decide) (fun A22_11 zz kk s230 => ?_)
  replace s2 := kt kk s2
  replace s3 := kt kk s3
  replace s4 := kt kk s4
  replace s5 := kt kk s5
  replace s9 := kt kk s9
  replace s222 := kt kk s222
  replace s227 := kt kk s227
  replace hz := zz
  clear kk zz s229 A22_10
  refine vl ((true && ((decide (k = 14)) == true)) && ((decide (m.r.1 < 4)) == false)) (.bool (decide (6 < m.r.1))) (want_g rfl rfl s227) (fun hc => ex_bin rfl (ev s230 hc) rfl (gtrC _ _ _ _ _)) rfl hz (by decide) (fun A22_12 zz kk s231 => ?_)
  replace s2 := kt kk s2
  replace s3 := kt kk s3
  replace s4 := kt kk s4
  replace s5 := kt kk s5
  replace s9 := kt kk s9
  replace s222 := kt kk s222
  replace s227 := kt kk s227
  replace hz := zz
  clear kk zz s230 A22_11
  refine vl _ (.bool ((decide (m.r.1 < 4)) || (decide (6 < m.r.1)))) (want_g rfl rfl s222) (fun hc => ex_or rfl s227 s231 hc) rfl hz (by decide) (fun A22_13 zz kk s232 => ?_)
  replace s2 := kt kk s2
  replace s3 := kt kk s3
  replace s4 := kt kk s4
  replace s5 := kt kk s5
  replace s9 := kt kk s9
  replace s222 := kt kk s222
  replace hz := zz
  clear kk zz s227 s231 A22_12
  refine vt (.bool ((decide (k = 14)) && ((decide (m.r.1 < 4)) || (decide (6 < m.r.1))))) (ex_and rfl s222 s232 rfl) hz (fun A22_14 zz kk s233 => ?_)
  replace s2 := kt kk s2
  replace s3 := kt kk s3
  replace s4 := kt kk s4
  replace s5 := kt kk s5
  replace s9 := kt kk s9
  replace hz := zz
  clear kk zz s222 s232 A22_13
  refine wpList_nil ?_
  go_upto_region 24 with fail
  cases e22 : ((decide (k = 14)) && ((decide (m.r.1 < 4)) || (decide (6 < m.r.1))))
  rotate_left
  · refine wp_cond_true ((ev s233 rfl).trans (congrArg Value.bool e22)) ?_
    have HV := hide (HB.out _ hx20)
    have V2 := hide (show fiG f r m L D k u0 u1 u2 u3 u4 u5 u6 u7 u8 u9 = false from by unfold fiG; rw [if_neg (Bool.eq_false_iff.1 e2)]; rw [if_neg (Bool.eq_false_iff.1 e4)]; rw [if_neg (Bool.eq_false_iff.1 e6)]; rw [if_neg (Bool.eq_false_iff.1 e8)]; rw [if_neg (Bool.eq_false_iff.1 e10)]; rw [if_neg (Bool.eq_false_iff.1 e12)]; rw [if_neg (Bool.eq_false_iff.1 e14)]; rw [if_neg (Bool.eq_false_iff.1 e16)]; rw [if_neg (Bool.eq_false_iff.1 e18)]; rw [if_neg (Bool.eq_false_iff.1 e20)]; rw [if_pos e22])
    go_wp2
    refine bodyPost_ret (results_tmp rfl _ _ _) rfl ⟨?_, HV.out⟩
    rw [V2.out]
    show Ending.returned ((Array.setIfInBounds _ 8 (Value.bool false)).getD 8 undef) = _
    rw [getD_of (at_set _ (by rw [hz]; decide))]
  refine wp_cond_false ((ev s233 rfl).trans (congrArg Value.bool e22)) ?_
  go_upto_region 24 with fail
  clear s233
  refine wp_region_lit ?_
  refine vt _ (ex_move rfl (ev s3 rfl)) hz (fun A24_1 zz kk s234 => ?_)
  replace s2 := kt kk s2
  replace s3 := kt kk s3
  replace s4 := kt kk s4
  replace s5 := kt kk s5
  replace s9 := kt kk s9
  replace hz := zz
  clear kk zz
  refine vt (.pointer (some ⟨g, 6, none⟩)) (ex_ix rfl (ev s234 rfl) rfl (ixBool g 6 10 cu (by decide) _)) hz (fun A24_2 zz kk s235 => ?_)
  replace s2 := kt kk s2
  replace s3 := kt kk s3
  replace s4 := kt kk s4
  replace s5 := kt kk s5
  replace s9 := kt kk s9
  replace hz := zz
  clear kk zz s234 A24_1
  refine vt (.bool u6) (ex_ld rfl (ev s235 rfl) (ldBool (HU.out x20 hx20 6 _ rfl))) hz (fun A24_3 zz kk s236 => ?_)
  replace s2 := kt kk s2
  replace s3 := kt kk s3
  replace s4 := kt kk s4
  replace s5 := kt kk s5
  replace s9 := kt kk s9
  replace hz := zz
  clear kk zz s235 A24_2
  refine vt (.bool (!u6)) (ex_not rfl (ev s236 rfl)) hz (fun A24_4 zz kk s237 => ?_)
  replace s2 := kt kk s2
  replace s3 := kt kk s3
  replace s4 := kt kk s4
  replace s5 := kt kk s5
  replace s9 := kt kk s9
  replace hz := zz
  clear kk zz s236 A24_3
  refine vt _ (ex_move rfl (ev s237 rfl)) hz (fun A24_5 zz kk s238 => ?_)
  replace s2 := kt kk s2
  replace s3 := kt kk s3
  replace s4 := kt kk s4
  replace s5 := kt kk s5
  replace s9 := kt kk s9
  replace hz := zz
  clear kk zz s237 A24_4
  refine vl _ _ (want_g rfl rfl s238) (fun hc => ex_move rfl (ev s2 rfl)) rfl hz (by decide) (fun A24_6 zz kk s239 => ?_)
  replace s2 := kt kk s2
  replace s3 := kt kk s3
  replace s4 := kt kk s4
  replace s5 := kt kk s5
  replace s9 := kt kk s9
  replace s238 := kt kk s238
  replace hz := zz
  clear kk zz A24_5
  refine vl _ (.pointer (some ⟨w.heap.size + 1, 3, none⟩)) (want_g rfl rfl s238) (fun hc => ex_fa rfl (ev s5 rfl) (MBox.faEntry _ _)) rfl hz (by decide) (fun A24_7 zz kk s240 => ?_)
  replace s2 := kt kk s2
  replace s3 := kt kk s3
  replace s4 := kt kk s4
  replace s5 := kt kk s5
  replace s9 := kt kk s9
  replace s238 := kt kk s238
  replace s239 := kt kk s239
  replace hz := zz
  clear kk zz A24_6
  refine vl _ (.agg #[.int .i64 m.e.c, .int .i64 m.e.n, .int .i64 m.e.o.k, .int .i64 m.e.o.s, .string m.e.o.v]) (want_g rfl rfl s238) (fun hc => ex_ld rfl (ev s240 hc) ((HM.out x20 hx20).ldEntry)) rfl hz (by decide) (fun A24_8 zz kk s241 => ?_)
  replace s2 := kt kk s2
  replace s3 := kt kk s3
  replace s4 := kt kk s4
  replace s5 := kt kk s5
  replace s9 := kt kk s9
  replace s238 := kt kk s238
  replace s239 := kt kk s239
  replace hz := zz
  clear kk zz s240 A24_7
  refine vcall (true && ((!u6) == false)) (.bool (enK k m.e)) (want_g rfl rfl s238) (fun hc => by unfold execOp; simp only [resolve, invoke, Sem.run_bind, List.map_toArray, List.map_cons, List.map_nil, (ev s239 hc), (ev s241 hc)]; rfl) (fun hc => HE.out x20) rfl hz (by decide) (fun A24_9 w3 hb zz kk s242 => ?_)
  have hv3 := hx20.trans (hb.mono hx20.size)
  clear hb
  replace s2 := kt kk s2
  replace s3 := kt kk s3
  replace s4 := kt kk s4
  replace s5 := kt kk s5
  replace s9 := kt kk s9
  replace s238 := kt kk s238
  replace hz := zz
  clear kk zz s239 s241 A24_8
  refine vt (.bool ((!u6) || (enK k m.e))) (ex_or rfl s238 s242 rfl) hz (fun A24_10 zz kk s243 => ?_)
  replace s2 := kt kk s2
  replace s3 := kt kk s3
  replace s4 := kt kk s4
  replace s5 := kt kk s5
  replace s9 := kt kk s9
  replace hz := zz
  clear kk zz s238 s242 A24_9
  refine vt _ (ex_move rfl (ev s243 rfl)) hz (fun A24_11 zz kk s244 => ?_)
  replace s2 := kt kk s2
  replace s3 := kt kk s3
  replace s4 := kt kk s4
  replace s5 := kt kk s5
  replace s9 := kt kk s9
  replace hz := zz
  clear kk zz s243 A24_10
  refine vl _ _ (want_g rfl rfl s244) (fun hc => ex_move rfl (ev s3 rfl)) rfl hz (by decide) (fun A24_12 zz kk s245 => ?_)
  replace s2 := kt kk s2
  replace s3 := kt kk s3
  replace s4 := kt kk s4
  replace s5 := kt kk s5
  replace s9 := kt kk s9
  replace s244 := kt kk s244
  replace hz := zz
  clear kk zz A24_11
  refine vl _ (.pointer (some ⟨g, 7, none⟩)) (want_g rfl rfl s244) (fun hc => ex_ix rfl (ev s245 hc) rfl (ixBool g 7 10 cu (by decide) _)) rfl hz (by decide) (fun A24_13 zz kk s246 => ?_)
  replace s2 := kt kk s2
  replace s3 := kt kk s3
  replace s4 := kt kk s4
  replace s5 := kt kk s5
  replace s9 := kt kk s9
  replace s244 := kt kk s244
  replace hz := zz
  clear kk zz s245 A24_12
  refine vl _ (.bool u7) (want_g rfl rfl s244) (fun hc => ex_ld rfl (ev s246 hc) (ldBool (HU.out w3 hv3 7 _ rfl))) rfl hz (by decide) (fun A24_14 zz kk s247 => ?_)
  replace s2 := kt kk s2
  replace s3 := kt kk s3
  replace s4 := kt kk s4
  replace s5 := kt kk s5
  replace s9 := kt kk s9
  replace s244 := kt kk s244
  replace hz := zz
  clear kk zz s246 A24_13
  refine vl _ (.bool (!u7)) (want_g rfl rfl s244) (fun hc => ex_not rfl (ev s247 hc)) rfl hz (by decide) (fun A24_15 zz kk s248 => ?_)
  replace s2 := kt kk s2
  replace s3 := kt kk s3
  replace s4 := kt kk s4
  replace s5 := kt kk s5
  replace s9 := kt kk s9
  replace s244 := kt kk s244
  replace hz := zz
  clear kk zz s247 A24_14
  refine vl _ _ (want_g rfl rfl s244) (fun hc => ex_move rfl (ev s248 hc)) rfl hz (by decide) (fun A24_16 zz kk s249 => ?_)
  replace s2 := kt kk s2
  replace s3 := kt kk s3
  replace s4 := kt kk s4
  replace s5 := kt kk s5
  replace s9 := kt kk s9
  replace s244 := kt kk s244
  replace hz := zz
  clear kk zz s248 A24_15
  refine vl ((true && (((!u6) || (enK k m.e)) == true)) && ((!u7) == false)) (.pointer (some ⟨w.heap.size + 1, 8, none⟩)) (want_g rfl rfl s249) (fun hc => ex_fa rfl (ev s5 rfl) (MBox.faResult _ _)) rfl hz (by decide) (fun A24_17 zz kk s250 => ?_)
  replace s2 := kt kk s2
  replace s3 := kt kk s3
  replace s4 := kt kk s4
  replace s5 := kt kk s5
  replace s9 := kt kk s9
  replace s244 := kt kk s244
  replace s249 := kt kk s249
  replace hz := zz
  clear kk zz A24_16
  refine vl ((true && (((!u6) || (enK k m.e)) == true)) && ((!u7) == false)) (.agg #[.int .i64 m.r.1, .int .i64 m.r.2.1, .string m.r.2.2]) (want_g rfl rfl s249) (fun hc => ex_ld rfl (ev s250 hc) ((HM.out w3 hv3).ldResult)) rfl hz (by decide) (fun A24_18 zz kk s251 => ?_)
  replace s2 := kt kk s2
  replace s3 := kt kk s3
  replace s4 := kt kk s4
  replace s5 := kt kk s5
  replace s9 := kt kk s9
  replace s244 := kt kk s244
  replace s249 := kt kk s249
  replace hz := zz
  clear kk zz s250 A24_17
  refine vcall ((true && (((!u6) || (enK k m.e)) == true)) && ((!u7) == false)) (.bool (resB m.r.1 m.r.2.1 m.r.2.2)) (want_g rfl rfl s249) (fun hc => by unfold execOp; simp only [resolve, invoke, Sem.run_bind, List.map_toArray, List.map_cons, List.map_nil, (ev s251 hc)]; rfl) (fun hc => HR.out w3) rfl hz (by decide) (fun A24_19 w4 hb zz kk s252 => ?_)
  have hv4 := hv3.trans (hb.mono hv3.size)
  clear hb
  replace s2 := kt kk s2
  replace s3 := kt kk s3
  replace s4 := kt kk s4
  replace s5 := kt kk s5
  replace s9 := kt kk s9
  replace s244 := kt kk s244
  replace s249 := kt kk s249
  replace hz := zz
  clear kk zz s251 A24_18
  refine vl _ (.bool ((!u7) || (resB m.r.1 m.r.2.1 m.r.2.2))) (want_g rfl rfl s244) (fun hc => ex_or rfl s249 s252 hc) rfl hz (by decide) (fun A24_20 zz kk s253 => ?_)
  replace s2 := kt kk s2
  replace s3 := kt kk s3
  replace s4 := kt kk s4
  replace s5 := kt kk s5
  replace s9 := kt kk s9
  replace s244 := kt kk s244
  replace hz := zz
  clear kk zz s249 s252 A24_19
  refine vt (.bool (((!u6) || (enK k m.e)) && ((!u7) || (resB m.r.1 m.r.2.1 m.r.2.2)))) (ex_and rfl s244 s253 rfl) hz (fun A24_21 zz kk s254 => ?_)
  replace s2 := kt kk s2
  replace s3 := kt kk s3
  replace s4 := kt kk s4
  replace s5 := kt kk s5
  replace s9 := kt kk s9
  replace hz := zz
  clear kk zz s244 s253 A24_20
  refine vt _ (ex_assign rfl (ev s254 rfl)) hz (fun A24_22 zz kk s8 => ?_)
  replace s2 := kt kk s2
  replace s3 := kt kk s3
  replace s4 := kt kk s4
  replace s5 := kt kk s5
  replace s9 := kt kk s9
  replace hz := zz
  clear kk zz s254 A24_21
  refine wpList_nil ?_
  have s8' : A24_22.getD 8 undef = .bool ((((!u6) || (enK k m.e)) && ((!u7) || (resB m.r.1 m.r.2.1 m.r.2.2)))) := getD_of s8
  have HV := hide (HB.out _ hv4)
  have V2 := hide (show fiG f r m L D k u0 u1 u2 u3 u4 u5 u6 u7 u8 u9 = ((((!u6) || (enK k m.e)) && ((!u7) || (resB m.r.1 m.r.2.1 m.r.2.2)))) from by unfold fiG; rw [if_neg (Bool.eq_false_iff.1 e2)]; rw [if_neg (Bool.eq_false_iff.1 e4)]; rw [if_neg (Bool.eq_false_iff.1 e6)]; rw [if_neg (Bool.eq_false_iff.1 e8)]; rw [if_neg (Bool.eq_false_iff.1 e10)]; rw [if_neg (Bool.eq_false_iff.1 e12)]; rw [if_neg (Bool.eq_false_iff.1 e14)]; rw [if_neg (Bool.eq_false_iff.1 e16)]; rw [if_neg (Bool.eq_false_iff.1 e18)]; rw [if_neg (Bool.eq_false_iff.1 e20)]; rw [if_neg (Bool.eq_false_iff.1 e22)])
  go_wp2
  refine bodyPost_ret (results_tmp rfl _ _ _) rfl ⟨?_, HV.out⟩
  rw [V2.out]
  show Ending.returned (A24_22.getD 8 undef) = _
  rw [s8']
end Go.Proofs.YtibedokegignhaaGreatDoor
