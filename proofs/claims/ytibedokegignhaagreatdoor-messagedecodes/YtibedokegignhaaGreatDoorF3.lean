import Derived.Test.YtibedokegignhaaGreatDoorF2
set_option maxRecDepth 100000
set_option linter.unusedVariables false
set_option linter.unusedSimpArgs false
namespace Go.Proofs.YtibedokegignhaaGreatDoor
open Go.RowKit Go.Maps
open Classical
structure CBox (w : World) (q : Nat) (f r : Int) : Prop where
  c0 : w.cell? ⟨q, 0, none⟩ = some (.int .i64 f)
  c1 : w.cell? ⟨q, 1, none⟩ = some (.int .i64 r)
theorem CBox.fa0 (q : Nat) (w : World) : (Instr.fieldAt 23 (.pointer (some ⟨q, 0, none⟩)) 0).run Tryz.prog w = .ok (.pointer (some ⟨q, 0, none⟩)) w := by
  go_simp
theorem CBox.fa1 (q : Nat) (w : World) : (Instr.fieldAt 23 (.pointer (some ⟨q, 0, none⟩)) 1).run Tryz.prog w = .ok (.pointer (some ⟨q, 1, none⟩)) w := by
  go_simp
theorem CBox.ld0 {w : World} {q : Nat} {f r : Int} (h : CBox w q f r) : (Instr.loadAt 3 (.pointer (some ⟨q, 0, none⟩))).run Tryz.prog w = .ok (.int .i64 f) w := by
  have h0 := h.c0
  go_simp
theorem CBox.ld1 {w : World} {q : Nat} {f r : Int} (h : CBox w q f r) : (Instr.loadAt 3 (.pointer (some ⟨q, 1, none⟩))).run Tryz.prog w = .ok (.int .i64 r) w := by
  have h0 := h.c1
  go_simp
theorem faCode (q : Nat) (w : World) : (Instr.fieldAt 30 (.pointer (some ⟨q, 8, none⟩)) 0).run Tryz.prog w = .ok (.pointer (some ⟨q, 8, none⟩)) w := by
  go_simp
theorem s_ldCode {w : World} {q : Nat} {m : Mg} {s t : Value} (h : MBox w q m s t) : (Instr.loadAt 3 (.pointer (some ⟨q, 8, none⟩))).run Tryz.prog w = .ok (.int .i64 m.r.1) w := by
  have h0 := h.cell 8 _ rfl
  go_simp
theorem mulC {f : Int} (h : 1 ≤ f ∧ f ≤ 3) (x y : Operand) (w : World) : (do eqGuard .mul 3 x y (.int .i64 2) (.int .i64 f); binOp .mul 3 (.int .i64 2) (.int .i64 f) : Sem Value).run Tryz.prog w = .ok (.int .i64 (2 * f)) w := by
  have h1 : IntKind.i64.wrap (2 * f) = 2 * f := by rw [IntKind.wrap_i64]; omega
  go_simp
theorem addC {f : Int} (h : 1 ≤ f ∧ f ≤ 3) (x y : Operand) (w : World) : (do eqGuard .add 3 x y (.int .i64 (2 * f)) (.int .i64 1); binOp .add 3 (.int .i64 (2 * f)) (.int .i64 1) : Sem Value).run Tryz.prog w = .ok (.int .i64 (2 * f + 1)) w := by
  have h1 : IntKind.i64.wrap (2 * f + 1) = 2 * f + 1 := by rw [IntKind.wrap_i64]; omega
  go_simp
theorem remC {f : Int} (h : 1 ≤ f ∧ f ≤ 3) (x y : Operand) (a : Int) (w : World) : (do eqGuard .rem 3 x y (.int .i64 a) (.int .i64 (2 * f + 1)); binOp .rem 3 (.int .i64 a) (.int .i64 (2 * f + 1)) : Sem Value).run Tryz.prog w = .ok (.int .i64 (a.tmod (2 * f + 1))) w := by
  have hn0 : ¬ (2 * f + 1 = 0) := by omega
  go_simp
theorem ixVec (q o n cv nd : Nat) (h : nd < n) (w : World) : (Instr.indexAt 36 (.slice (some ⟨q, o, none⟩) n cv) (.int .i64 (nd : Int))).run Tryz.prog w = .ok (.pointer (some ⟨q, o + nd * 2, none⟩)) w := by
  have h1 : (nd : Int) < (n : Int) := by omega
  go_simp
theorem ldDrAt {w : World} {q p : Nat} {x y : Int} (h0 : w.cell? ⟨q, p, none⟩ = some (.int .u64 x)) (h1 : w.cell? ⟨q, p + 1, none⟩ = some (.int .u64 y)) : (Instr.loadAt 33 (.pointer (some ⟨q, p, none⟩))).run Tryz.prog w = .ok (.agg #[.int .u64 x, .int .u64 y]) w := by
  go_simp
def fiG (f r : Int) (m : Mg) (L : List En) (D : List (Int × Int)) (k : Int) (u0 u1 u2 u3 u4 u5 u6 u7 u8 u9 : Bool) : Bool :=
  if ((u0 && ((decide (m.nd < 0)) || (decide ((2 * f + 1) ≤ m.nd)))) || (u1 && ((decide (m.vw < 0)) || (decide (4294967296 < m.vw))))) = true then false else
  if ((((decide (k = 6)) || (decide (k = 7))) || (decide (k = 8))) && (decide (m.vw < 1))) = true then false else
  if ((((decide (k = 3)) || (decide (k = 5))) || (decide (k = 8))) && (!decide (m.nd = ((m.vw).tmod ((2 * f + 1)))))) = true then false else
  if (u2 && ((decide (m.ls < 0)) || (decide (m.vw ≤ m.ls)))) = true then false else
  if (u3 && ((((decide (m.p < 0)) || (decide (r < m.p))) || ((decide (k = 3)) && (decide (m.p < 1)))) || ((decide (k = 2)) && ((decide (m.p = 0)) != (decide (m.r.1 = 7)))))) = true then false else
  if (u8 && (!decide ((lg L r) = 0))) = true then false else
  if (u4 && (((decide (m.cm < 0)) || (decide (r < m.cm))) || (u8 && (decide (((L.length : Nat) : Int) < m.cm))))) = true then false else
  if (((decide (k = 10)) && (decide (0 < ((L.length : Nat) : Int)))) && (!decide (m.nd = ((m.vw).tmod ((2 * f + 1)))))) = true then false else
  if (u9 && (!decide (((D.length : Nat) : Int) = (2 * f + 1)))) = true then false else
  if ((u5 && (decide (m.d = (0, 0)))) || ((decide (k = 9)) && (!decide (m.d = (D.getD m.nd.toNat (0, 0)))))) = true then false else
  if ((decide (k = 14)) && ((decide (m.r.1 < 4)) || (decide (6 < m.r.1)))) = true then false else
  (((!u6) || (enK k m.e)) && ((!u7) || (resB m.r.1 m.r.2.1 m.r.2.2)))
set_option maxHeartbeats 8000000 in
theorem fields_any (f r p : Int) (b : Bool) (m : Mg) (a1 a2 : Option Addr) (cl cv g cu : Nat) (k : Int) (u0 u1 u2 u3 u4 u5 u6 u7 u8 u9 : Bool) (L : List En) (D : List (Int × Int)) (w : World) (hf : 1 ≤ f ∧ f ≤ 3) (hL : SlY yE w a1 L.length cl L) (hfit : ∀ e ∈ L, e.fits) (hD : SlY yD w a2 D.length cv D) (hfe : m.e.o.fits) (hg : g < w.heap.size) (hu : ∀ (j : Nat) (b : Bool), ([u0, u1, u2, u3, u4, u5, u6, u7, u8, u9] : List Bool)[j]? = some b → w.cell? ⟨g, j, none⟩ = some (.bool b)) (h9 : k = 9 → u0 = true ∧ u9 = true) : Calls Tryz.prog 37 #[.agg #[.int .i64 f, .int .i64 r, .int .i64 p, .bool b], m.val (.slice a1 L.length cl) (.slice a2 D.length cv), .int .i64 k, .slice (some ⟨g, 0, none⟩) 10 cu] w fun e w' => e = .returned (.bool (fiG f r m L D k u0 u1 u2 u3 u4 u5 u6 u7 u8 u9)) ∧ Below w.heap.size w w' := by
  go_enter Tryz.func37, Tryz.ntmps37
  go_upto_region 1 with (refine boxMk rfl (.tmp 1) rfl m _ _ rfl ?_; intro q1 w1 hq1 M1 b1 z1)
  have hq2 : q1 = w.heap.size + 1 := by first | exact hq1 | simpa using hq1
  subst hq2
  have hB : Below w.heap.size w w1 := ((Below.refl _ _).alloc (Nat.le_refl _) _).trans (b1.mono (by simp))
  have HC : Hid (∀ v, Below w1.heap.size w1 v → CBox v w.heap.size f r) := fun v hv => ⟨(hv.cell (p := ⟨w.heap.size, 0, none⟩) (Nat.lt_of_succ_lt M1.lt)).trans ((b1.cell (p := ⟨w.heap.size, 0, none⟩) (by simp)).trans (by simp)), (hv.cell (p := ⟨w.heap.size, 1, none⟩) (Nat.lt_of_succ_lt M1.lt)).trans ((b1.cell (p := ⟨w.heap.size, 1, none⟩) (by simp)).trans (by simp))⟩
  have HM : Hid (∀ v, Below w1.heap.size w1 v → MBox v (w.heap.size + 1) m (.slice a1 L.length cl) (.slice a2 D.length cv)) := fun v hv => M1.bel hv
  have HB : Hid (∀ v, Below w1.heap.size w1 v → Below w.heap.size w v) := fun v hv => hB.trans (hv.mono hB.size)
  have HU : Hid (∀ v, Below w1.heap.size w1 v → ∀ (j : Nat) (b : Bool), ([u0, u1, u2, u3, u4, u5, u6, u7, u8, u9] : List Bool)[j]? = some b → v.cell? ⟨g, j, none⟩ = some (.bool b)) := fun v hv j b hj => ((HB.out v hv).cell (p := ⟨g, j, none⟩) hg).trans (hu j b hj)
  have HL : Hid (∀ v, Below w1.heap.size w1 v → Calls Tryz.prog 83 #[.slice a1 L.length cl, .int .i64 r] v fun e w' => e = .returned (.int .i64 (lg L r)) ∧ Below v.heap.size v w') := fun v hv => reflog_any L a1 cl r v (hL.later (HB.out v hv)) hfit
  have HE : Hid (∀ v, Calls Tryz.prog 84 #[.int .i64 k, .agg #[.int .i64 m.e.c, .int .i64 m.e.n, .int .i64 m.e.o.k, .int .i64 m.e.o.s, .string m.e.o.v]] v fun e w' => e = .returned (.bool (enK k m.e)) ∧ Below v.heap.size v w') := fun v => refentry7 k m.e hfe v
  have HR : Hid (∀ v, Calls Tryz.prog 85 #[.agg #[.int .i64 m.r.1, .int .i64 m.r.2.1, .string m.r.2.2]] v fun e w' => e = .returned (.bool (resB m.r.1 m.r.2.1 m.r.2.2)) ∧ Below v.heap.size v w') := fun v => refresult_any m.r.1 m.r.2.1 m.r.2.2 v
  have HXm : Hid ((k = 9 → 0 ≤ m.nd ∧ m.nd < (D.length : Int)) → ∃ q2 o2, Hid (k = 9 → ∀ v, Below w1.heap.size w1 v → (Instr.indexAt 36 (.slice a2 D.length cv) (.int .i64 m.nd)).run Tryz.prog v = .ok (.pointer (some ⟨q2, o2 + m.nd.toNat * 2, none⟩)) v ∧ (Instr.loadAt 33 (.pointer (some ⟨q2, o2 + m.nd.toNat * 2, none⟩))).run Tryz.prog v = .ok (.agg #[.int .u64 (D.getD m.nd.toNat (0, 0)).1, .int .u64 (D.getD m.nd.toNat (0, 0)).2]) v)) := fun z => by
    by_cases hk : k = 9
    · obtain ⟨z1', z2'⟩ := z hk
      obtain ⟨nn, hn⟩ := Int.eq_ofNat_of_zero_le z1'
      have hlt : nn < D.length := by omega
      obtain ⟨q2, o2, rfl, hq, hl⟩ := hD.place (fun e => by rw [e] at hlt; simp at hlt)
      refine ⟨q2, o2, fun _ v hv => ?_⟩
      rw [hn, Int.toNat_natCast]
      have hd : D[nn]? = some (D.getD nn (0, 0)) := by rw [List.getD_eq_getElem?_getD, List.getElem?_eq_getElem hlt]; rfl
      have lv : LieY yD v q2 o2 D := hl.upd (S := fun _ => False) (Upd.of_below ((HB.out v hv))) hq id
      exact ⟨ixVec q2 o2 D.length cv nn hlt v, ldDrAt (lv nn _ hd 0 _ rfl) (lv nn _ hd 1 _ rfl)⟩
    · exact ⟨0, 0, fun h => absurd h hk⟩
  have H9 := hide h9
  have HN := hide hf
  have h1 : Below w1.heap.size w1 w1 := Below.refl _ _
  clear M1 b1 z1 hB hq1 hu hL hD hfit hfe h9 hf
  refine wp_region_lit ?_
  refine vl_gen (fun T => T.size = 255 ∧ T[2]? = some (gw true (.int .i64 k)) ∧ T[3]? = some (gw true (.slice (some ⟨g, 0, none⟩) 10 cu)) ∧ T[4]? = some (gw true (.pointer (some ⟨w.heap.size, 0, none⟩))) ∧ T[5]? = some (gw true (.pointer (some ⟨w.heap.size + 1, 0, none⟩)))) ⟨rfl, rfl, rfl, rfl, rfl⟩ (fun T0 ⟨hz, s2, s3, s4, s5⟩ => ?_)
  refine vt (.pointer (some ⟨w.heap.size, 0, none⟩)) (ex_fa rfl (ev s4 rfl) (CBox.fa0 _ _)) hz (fun Ya zz kk s10 => ?_)
  replace s2 := ku s2
  replace s3 := ku s3
  replace s4 := ku s4
  replace s5 := ku s5
  replace hz := zz
  clear kk zz
  refine vt (.int .i64 f) (ex_ld rfl (ev s10 rfl) ((HC.out w1 h1).ld0)) hz (fun Yb zz kk s11 => ?_)
  replace s2 := ku s2
  replace s3 := ku s3
  replace s4 := ku s4
  replace s5 := ku s5
  replace hz := zz
  clear kk zz s10 Ya
  refine vt (.int .i64 (2 * f)) (ex_bin rfl rfl (ev s11 rfl) (mulC HN.out _ _ _)) hz (fun Yc zz kk s12 => ?_)
  replace s2 := ku s2
  replace s3 := ku s3
  replace s4 := ku s4
  replace s5 := ku s5
  replace hz := zz
  clear kk zz s11 Yb
  refine vt (.int .i64 (2 * f + 1)) (ex_bin rfl (ev s12 rfl) rfl (addC HN.out _ _ _)) hz (fun Yd zz kk s13 => ?_)
  replace s2 := ku s2
  replace s3 := ku s3
  replace s4 := ku s4
  replace s5 := ku s5
  replace hz := zz
  clear kk zz s12 Yc
  refine vt _ (ex_assign rfl (ev s13 rfl)) hz (fun Ye zz kk s9 => ?_)
  replace s2 := ku s2
  replace s3 := ku s3
  replace s4 := ku s4
  replace s5 := ku s5
  replace hz := zz
  clear kk zz s13 Yd
  refine wpList_nil ?_
  go_upto_region 2 with fail
  refine wp_region_lit ?_
  refine vt _ (ex_move rfl (ev s3 rfl)) hz (fun Yf zz kk s14 => ?_)
  replace s2 := ku s2
  replace s3 := ku s3
  replace s4 := ku s4
  replace s5 := ku s5
  replace s9 := ku s9
  replace hz := zz
  clear kk zz
  refine vt (.pointer (some ⟨g, 0, none⟩)) (ex_ix rfl (ev s14 rfl) rfl (ixBool g 0 10 cu (by decide) _)) hz (fun Yg zz kk s15 => ?_)
  replace s2 := ku s2
  replace s3 := ku s3
  replace s4 := ku s4
  replace s5 := ku s5
  replace s9 := ku s9
  replace hz := zz
  clear kk zz s14 Yf
  refine vt (.bool u0) (ex_ld rfl (ev s15 rfl) (ldBool (HU.out w1 h1 0 _ rfl))) hz (fun Yh zz kk s16 => ?_)
  replace s2 := ku s2
  replace s3 := ku s3
  replace s4 := ku s4
  replace s5 := ku s5
  replace s9 := ku s9
  replace hz := zz
  clear kk zz s15 Yg
  refine vt _ (ex_move rfl (ev s16 rfl)) hz (fun Yi zz kk s17 => ?_)
  replace s2 := ku s2
  replace s3 := ku s3
  replace s4 := ku s4
  replace s5 := ku s5
  replace s9 := ku s9
  replace hz := zz
  clear kk zz s16 Yh
  refine vl _ (.pointer (some ⟨w.heap.size + 1, 1, none⟩)) (want_g rfl rfl s17) (fun hc => ex_fa rfl (ev s5 rfl) (MBox.faNode _ _)) rfl hz (by decide) (fun Yj zz kk s18 => ?_)
  replace s2 := ku s2
  replace s3 := ku s3
  replace s4 := ku s4
  replace s5 := ku s5
  replace s9 := ku s9
  replace s17 := ku s17
  replace hz := zz
  clear kk zz Yi
  refine vl _ (.int .i64 m.nd) (want_g rfl rfl s17) (fun hc => ex_ld rfl (ev s18 hc) ((HM.out w1 h1).ldNode)) rfl hz (by decide) (fun Yk zz kk s19 => ?_)
  replace s2 := ku s2
  replace s3 := ku s3
  replace s4 := ku s4
  replace s5 := ku s5
  replace s9 := ku s9
  replace s17 := ku s17
  replace hz := zz
  clear kk zz s18 Yj
  refine vl _ (.bool (decide (m.nd < 0))) (want_g rfl rfl s17) (fun hc => ex_bin rfl (ev s19 hc) rfl (lssC _ _ _ _ _)) rfl hz (by decide) (fun Yl zz kk s20 => ?_)
  replace s2 := ku s2
  replace s3 := ku s3
  replace s4 := ku s4
  replace s5 := ku s5
  replace s9 := ku s9
  replace s17 := ku s17
  replace hz := zz
  clear kk zz s19 Yk
  refine vl _ _ (want_g rfl rfl s17) (fun hc => ex_move rfl (ev s20 hc)) rfl hz (by decide) (fun Ym zz kk s21 => ?_)
  replace s2 := ku s2
  replace s3 := ku s3
  replace s4 := ku s4
  replace s5 := ku s5
  replace s9 := ku s9
  replace s17 := ku s17
  replace hz := zz
  clear kk zz s20 Yl
  refine vl ((true && (u0 == true)) && ((decide (m.nd < 0)) == false)) (.pointer (some ⟨w.heap.size + 1, 1, none⟩)) (want_g rfl rfl s21) (fun hc => ex_fa rfl (ev s5 rfl) (MBox.faNode _ _)) rfl hz (by decide) (fun Yn zz kk s22 => ?_)
  replace s2 := ku s2
  replace s3 := ku s3
  replace s4 := ku s4
  replace s5 := ku s5
  replace s9 := ku s9
  replace s17 := ku s17
  replace s21 := ku s21
  replace hz := zz
  clear kk zz Ym
  refine vl ((true && (u0 == true)) && ((decide (m.nd < 0)) == false)) (.int .i64 m.nd) (want_g rfl rfl s21) (fun hc => ex_ld rfl (ev s22 hc) ((HM.out w1 h1).ldNode)) rfl hz (by decide) (fun Yo zz kk s23 => ?_)
  replace s2 := ku s2
  replace s3 := ku s3
  replace s4 := ku s4
  replace s5 := ku s5
  replace s9 := ku s9
  replace s17 := ku s17
  replace s21 := ku s21
  replace hz := zz
  clear kk zz s22 Yn
  refine vl ((true && (u0 == true)) && ((decide (m.nd < 0)) == false)) (.int .i64 (2 * f + 1)) (want_g rfl rfl s21) (fun hc => ex_move rfl (ev s9 rfl)) rfl hz (by decide) (fun Yp zz kk s24 => ?_)
  replace s2 := ku s2
  replace s3 := ku s3
  replace s4 := ku s4
  replace s5 := ku s5
  replace s9 := ku s9
  replace s17 := ku s17
  replace s21 := ku s21
  replace s23 := ku s23
  replace hz := zz
  clear kk zz Yo
  refine vl ((true && (u0 == true)) && ((decide (m.nd < 0)) == false)) (.bool (decide ((2 * f + 1) ≤ m.nd))) (want_g rfl rfl s21) (fun hc => ex_bin rfl (ev s23 hc) (ev s24 hc) (geqC _ _ _ _ _)) rfl hz (by decide) (fun Yq zz kk s25 => ?_)
  replace s2 := ku s2
  replace s3 := ku s3
  replace s4 := ku s4
  replace s5 := ku s5
  replace s9 := ku s9
  replace s17 := ku s17
  replace s21 := ku s21
  replace hz := zz
  clear kk zz s23 s24 Yp
  refine vl _ (.bool ((decide (m.nd < 0)) || (decide ((2 * f + 1) ≤ m.nd)))) (want_g rfl rfl s17) (fun hc => ex_or rfl s21 s25 hc) rfl hz (by decide) (fun Yr zz kk s26 => ?_)
  replace s2 := ku s2
  replace s3 := ku s3
  replace s4 := ku s4
  replace s5 := ku s5
  replace s9 := ku s9
  replace s17 := ku s17
  replace hz := zz
  clear kk zz s21 s25 Yq
  refine vt (.bool (u0 && ((decide (m.nd < 0)) || (decide ((2 * f + 1) ≤ m.nd))))) (ex_and rfl s17 s26 rfl) hz (fun Ys zz kk s27 => ?_)
  replace s2 := ku s2
  replace s3 := ku s3
  replace s4 := ku s4
  replace s5 := ku s5
  replace s9 := ku s9
  replace hz := zz
  clear kk zz s17 s26 Yr
  refine vt _ (ex_move rfl (ev s27 rfl)) hz (fun Yt zz kk s28 => ?_)
  replace s2 := ku s2
  replace s3 := ku s3
  replace s4 := ku s4
  replace s5 := ku s5
  replace s9 := ku s9
  replace hz := zz
  clear kk zz s27 Ys
  refine vl _ _ (want_g rfl rfl s28) (fun hc => ex_move rfl (ev s3 rfl)) rfl hz (by decide) (fun Yu zz kk s29 => ?_)
  replace s2 := ku s2
  replace s3 := ku s3
  replace s4 := ku s4
  replace s5 := ku s5
  replace s9 := ku s9
  replace s28 := ku s28
  replace hz := zz
  clear kk zz Yt
  refine vl _ (.pointer (some ⟨g, 1, none⟩)) (want_g rfl rfl s28) (fun hc => ex_ix rfl (ev s29 hc) rfl (ixBool g 1 10 cu (by decide) _)) rfl hz (by decide) (fun Yv zz kk s30 => ?_)
  replace s2 := ku s2
  replace s3 := ku s3
  replace s4 := ku s4
  replace s5 := ku s5
  replace s9 := ku s9
  replace s28 := ku s28
  replace hz := zz
  clear kk zz s29 Yu
  refine vl _ (.bool u1) (want_g rfl rfl s28) (fun hc => ex_ld rfl (ev s30 hc) (ldBool (HU.out w1 h1 1 _ rfl))) rfl hz (by decide) (fun Yw zz kk s31 => ?_)
  replace s2 := ku s2
  replace s3 := ku s3
  replace s4 := ku s4
  replace s5 := ku s5
  replace s9 := ku s9
  replace s28 := ku s28
  replace hz := zz
  clear kk zz s30 Yv
  refine vl _ _ (want_g rfl rfl s28) (fun hc => ex_move rfl (ev s31 hc)) rfl hz (by decide) (fun Yx zz kk s32 => ?_)
  replace s2 := ku s2
  replace s3 := ku s3
  replace s4 := ku s4
  replace s5 := ku s5
  replace s9 := ku s9
  replace s28 := ku s28
  replace hz := zz
  clear kk zz s31 Yw
  refine vl ((true && ((u0 && ((decide (m.nd < 0)) || (decide ((2 * f + 1) ≤ m.nd)))) == false)) && (u1 == true)) (.pointer (some ⟨w.heap.size + 1, 2, none⟩)) (want_g rfl rfl s32) (fun hc => ex_fa rfl (ev s5 rfl) (MBox.faView _ _)) rfl hz (by decide) (fun Yy zz kk s33 => ?_)
  replace s2 := ku s2
  replace s3 := ku s3
  replace s4 := ku s4
  replace s5 := ku s5
  replace s9 := ku s9
  replace s28 := ku s28
  replace s32 := ku s32
  replace hz := zz
  clear kk zz Yx
  refine vl ((true && ((u0 && ((decide (m.nd < 0)) || (decide ((2 * f + 1) ≤ m.nd)))) == false)) && (u1 == true)) (.int .i64 m.vw) (want_g rfl rfl s32) (fun hc => ex_ld rfl (ev s33 hc) ((HM.out w1 h1).ldView)) rfl hz (by decide) (fun Yz zz kk s34 => ?_)
  replace s2 := ku s2
  replace s3 := ku s3
  replace s4 := ku s4
  replace s5 := ku s5
  replace s9 := ku s9
  replace s28 := ku s28
  replace s32 := ku s32
  replace hz := zz
  clear kk zz s33 Yy
  refine vl ((true && ((u0 && ((decide (m.nd < 0)) || (decide ((2 * f + 1) ≤ m.nd)))) == false)) && (u1 == true)) (.bool (decide (m.vw < 0))) (want_g rfl rfl s32) (fun hc => ex_bin rfl (ev s34 hc) rfl (lssC _ _ _ _ _)) rfl hz (by decide) (fun Y0 zz kk s35 => ?_)
  replace s2 := ku s2
  replace s3 := ku s3
  replace s4 := ku s4
  replace s5 := ku s5
  replace s9 := ku s9
  replace s28 := ku s28
  replace s32 := ku s32
  replace hz := zz
  clear kk zz s34 Yz
  refine vl ((true && ((u0 && ((decide (m.nd < 0)) || (decide ((2 * f + 1) ≤ m.nd)))) == false)) && (u1 == true)) (.bool (decide (m.vw < 0))) (want_g rfl rfl s32) (fun hc => ex_move rfl (ev s35 hc)) rfl hz (by decide) (fun Y1 zz kk s36 => ?_)
  replace s2 := ku s2
  replace s3 := ku s3
  replace s4 := ku s4
  replace s5 := ku s5
  replace s9 := ku s9
  replace s28 := ku s28
  replace s32 := ku s32
  replace hz := zz
  clear kk zz s35 Y0
  refine vl (((true && ((u0 && ((decide (m.nd < 0)) || (decide ((2 * f + 1) ≤ m.nd)))) == false)) && (u1 == true)) && ((decide (m.vw < 0)) == false)) (.pointer (some ⟨w.heap.size + 1, 2, none⟩)) (want_g rfl rfl s36) (fun hc => ex_fa rfl (ev s5 rfl) (MBox.faView _ _)) rfl hz (by decide) (fun Y2 zz kk s37 => ?_)
  replace s2 := ku s2
  replace s3 := ku s3
  replace s4 := ku s4
  replace s5 := ku s5
  replace s9 := ku s9
  replace s28 := ku s28
  replace s32 := ku s32
  replace s36 := ku s36
  replace hz := zz
  clear kk zz Y1
  refine vl (((true && ((u0 && ((decide (m.nd < 0)) || (decide ((2 * f + 1) ≤ m.nd)))) == false)) && (u1 == true)) && ((decide (m.vw < 0)) == false)) (.int .i64 m.vw) (want_g rfl rfl s36) (fun hc => ex_ld rfl (ev s37 hc) ((HM.out w1 h1).ldView)) rfl hz (by decide) (fun Y3 zz kk s38 => ?_)
  replace s2 := ku s2
  replace s3 := ku s3
  replace s4 := ku s4
  replace s5 := ku s5
  replace s9 := ku s9
  replace s28 := ku s28
  replace s32 := ku s32
  replace s36 := ku s36
  replace hz := zz
  clear kk zz s37 Y2
  refine vl (((true && ((u0 && ((decide (m.nd < 0)) || (decide ((2 * f + 1) ≤ m.nd)))) == false)) && (u1 == true)) && ((decide (m.vw < 0)) == false)) (.bool (decide (4294967296 < m.vw))) (want_g rfl rfl s36) (fun hc => ex_bin rfl (ev s38 hc) rfl (gtrC _ _ _ _ _)) rfl hz (by decide) (fun Y4 zz kk s39 => ?_)
  replace s2 := ku s2
  replace s3 := ku s3
  replace s4 := ku s4
  replace s5 := ku s5
  replace s9 := ku s9
  replace s28 := ku s28
  replace s32 := ku s32
  replace s36 := ku s36
  replace hz := zz
  clear kk zz s38 Y3
  refine vl ((true && ((u0 && ((decide (m.nd < 0)) || (decide ((2 * f + 1) ≤ m.nd)))) == false)) && (u1 == true)) (.bool ((decide (m.vw < 0)) || (decide (4294967296 < m.vw)))) (want_g rfl rfl s32) (fun hc => ex_or rfl s36 s39 hc) rfl hz (by decide) (fun Y5 zz kk s40 => ?_)
  replace s2 := ku s2
  replace s3 := ku s3
  replace s4 := ku s4
  replace s5 := ku s5
  replace s9 := ku s9
  replace s28 := ku s28
  replace s32 := ku s32
  replace hz := zz
  clear kk zz s36 s39 Y4
  refine vl _ (.bool (u1 && ((decide (m.vw < 0)) || (decide (4294967296 < m.vw))))) (want_g rfl rfl s28) (fun hc => ex_and rfl s32 s40 hc) rfl hz (by decide) (fun Y6 zz kk s41 => ?_)
  replace s2 := ku s2
  replace s3 := ku s3
  replace s4 := ku s4
  replace s5 := ku s5
  replace s9 := ku s9
  replace s28 := ku s28
  replace hz := zz
  clear kk zz s32 s40 Y5
  refine vt (.bool ((u0 && ((decide (m.nd < 0)) || (decide ((2 * f + 1) ≤ m.nd)))) || (u1 && ((decide (m.vw < 0)) || (decide (4294967296 < m.vw)))))) (ex_or rfl s28 s41 rfl) hz (fun Y7 zz kk s42 => ?_)
  replace s2 := ku s2
  replace s3 := ku s3
  replace s4 := ku s4
  replace s5 := ku s5
  replace s9 := ku s9
  replace hz := zz
  clear kk zz s28 s41 Y6
  refine wpList_nil ?_
  go_upto_region 4 with fail
  cases e2 : ((u0 && ((decide (m.nd < 0)) || (decide ((2 * f + 1) ≤ m.nd)))) || (u1 && ((decide (m.vw < 0)) || (decide (4294967296 < m.vw)))))
  rotate_left
  · refine wp_cond_true ((ev s42 rfl).trans (congrArg Value.bool e2)) ?_
    have HV := hide (HB.out _ h1)
    have V2 := hide (show fiG f r m L D k u0 u1 u2 u3 u4 u5 u6 u7 u8 u9 = false from by unfold fiG; rw [if_pos e2])
    go_wp2
    refine bodyPost_ret (results_tmp rfl _ _ _) rfl ⟨?_, HV.out⟩
    rw [V2.out]
    show Ending.returned ((Array.setIfInBounds _ 8 (Value.bool false)).getD 8 undef) = _
    rw [getD_of (at_set _ (by rw [hz]; decide))]
  refine wp_cond_false ((ev s42 rfl).trans (congrArg Value.bool e2)) ?_
  go_upto_region 4 with fail
  clear s42
  refine wp_region_lit ?_
  refine vt _ (ex_move rfl (ev s2 rfl)) hz (fun Y8 zz kk s43 => ?_)
  replace s2 := ku s2
  replace s3 := ku s3
  replace s4 := ku s4
  replace s5 := ku s5
  replace s9 := ku s9
  replace hz := zz
  clear kk zz
  refine vt (.bool (decide (k = 6))) (ex_bin rfl (ev s43 rfl) rfl (eqlC _ _ _ _ _)) hz (fun Y9 zz kk s44 => ?_)
  replace s2 := ku s2
  replace s3 := ku s3
  replace s4 := ku s4
  replace s5 := ku s5
  replace s9 := ku s9
  replace hz := zz
  clear kk zz s43 Y8
  refine vt _ (ex_move rfl (ev s44 rfl)) hz (fun Yba zz kk s45 => ?_)
  replace s2 := ku s2
  replace s3 := ku s3
  replace s4 := ku s4
  replace s5 := ku s5
  replace s9 := ku s9
  replace hz := zz
  clear kk zz s44 Y9
  refine vl _ _ (want_g rfl rfl s45) (fun hc => ex_move rfl (ev s2 rfl)) rfl hz (by decide) (fun Ybb zz kk s46 => ?_)
  replace s2 := ku s2
  replace s3 := ku s3
  replace s4 := ku s4
  replace s5 := ku s5
  replace s9 := ku s9
  replace s45 := ku s45
  replace hz := zz
  clear kk zz Yba
  refine vl _ (.bool (decide (k = 7))) (want_g rfl rfl s45) (fun hc => ex_bin rfl (ev s46 hc) rfl (eqlC _ _ _ _ _)) rfl hz (by decide) (fun Ybc zz kk s47 => ?_)
  replace s2 := ku s2
  replace s3 := ku s3
  replace s4 := ku s4
  replace s5 := ku s5
  replace s9 := ku s9
  replace s45 := ku s45
  replace hz := zz
  clear kk zz s46 Ybb
  refine vt (.bool ((decide (k = 6)) || (decide (k = 7)))) (ex_or rfl s45 s47 rfl) hz (fun Ybd zz kk s48 => ?_)
  replace s2 := ku s2
  replace s3 := ku s3
  replace s4 := ku s4
  replace s5 := ku s5
  replace s9 := ku s9
  replace hz := zz
  clear kk zz s45 s47 Ybc
  refine vt _ (ex_move rfl (ev s48 rfl)) hz (fun Ybe zz kk s49 => ?_)
  replace s2 := ku s2
  replace s3 := ku s3
  replace s4 := ku s4
  replace s5 := ku s5
  replace s9 := ku s9
  replace hz := zz
  clear kk zz s48 Ybd
  refine vl _ _ (want_g rfl rfl s49) (fun hc => ex_move rfl (ev s2 rfl)) rfl hz (by decide) (fun Ybf zz kk s50 => ?_)
  replace s2 := ku s2
  replace s3 := ku s3
  replace s4 := ku s4
  replace s5 := ku s5
  replace s9 := ku s9
  replace s49 := ku s49
  replace hz := zz
  clear kk zz Ybe
  refine vl _ (.bool (decide (k = 8))) (want_g rfl rfl s49) (fun hc => ex_bin rfl (ev s50 hc) rfl (eqlC _ _ _ _ _)) rfl hz (by decide) (fun Ybg zz kk s51 => ?_)
  replace s2 := ku s2
  replace s3 := ku s3
  replace s4 := ku s4
  replace s5 := ku s5
  replace s9 := ku s9
  replace s49 := ku s49
  replace hz := zz
  clear kk zz s50 Ybf
  refine vt (.bool (((decide (k = 6)) || (decide (k = 7))) || (decide (k = 8)))) (ex_or rfl s49 s51 rfl) hz (fun Ybh zz kk s52 => ?_)
  replace s2 := ku s2
  replace s3 := ku s3
  replace s4 := ku s4
  replace s5 := ku s5
  replace s9 := ku s9
  replace hz := zz
  clear kk zz s49 s51 Ybg
  refine vt _ (ex_move rfl (ev s52 rfl)) hz (fun Ybi zz kk s53 => ?_)
  replace s2 := ku s2
  replace s3 := ku s3
  replace s4 := ku s4
  replace s5 := ku s5
  replace s9 := ku s9
  replace hz := zz
  clear kk zz s52 Ybh
  refine vl _ (.pointer (some ⟨w.heap.size + 1, 2, none⟩)) (want_g rfl rfl s53) (fun hc => ex_fa rfl (ev s5 rfl) (MBox.faView _ _)) rfl hz (by decide) (fun Ybj zz kk s54 => ?_)
  replace s2 := ku s2
  replace s3 := ku s3
  replace s4 := ku s4
  replace s5 := ku s5
  replace s9 := ku s9
  replace s53 := ku s53
  replace hz := zz
  clear kk zz Ybi
  refine vl _ (.int .i64 m.vw) (want_g rfl rfl s53) (fun hc => ex_ld rfl (ev s54 hc) ((HM.out w1 h1).ldView)) rfl hz (by decide) (fun Ybk zz kk s55 => ?_)
  replace s2 := ku s2
  replace s3 := ku s3
  replace s4 := ku s4
  replace s5 := ku s5
  replace s9 := ku s9
  replace s53 := ku s53
  replace hz := zz
  clear kk zz s54 Ybj
  refine vl _ (.bool (decide (m.vw < 1))) (want_g rfl rfl s53) (fun hc => ex_bin rfl (ev s55 hc) rfl (lssC _ _ _ _ _)) rfl hz (by decide) (fun Ybl zz kk s56 => ?_)
  replace s2 := ku s2
  replace s3 := ku s3
  replace s4 := ku s4
  replace s5 := ku s5
  replace s9 := ku s9
  replace s53 := ku s53
  replace hz := zz
  clear kk zz s55 Ybk
  refine vt (.bool ((((decide (k = 6)) || (decide (k = 7))) || (decide (k = 8))) && (decide (m.vw < 1)))) (ex_and rfl s53 s56 rfl) hz (fun Ybm zz kk s57 => ?_)
  replace s2 := ku s2
  replace s3 := ku s3
  replace s4 := ku s4
  replace s5 := ku s5
  replace s9 := ku s9
  replace hz := zz
  clear kk zz s53 s56 Ybl
  refine wpList_nil ?_
  go_upto_region 6 with fail
  cases e4 : ((((decide (k = 6)) || (decide (k = 7))) || (decide (k = 8))) && (decide (m.vw < 1)))
  rotate_left
  · refine wp_cond_true ((ev s57 rfl).trans (congrArg Value.bool e4)) ?_
    have HV := hide (HB.out _ h1)
    have V2 := hide (show fiG f r m L D k u0 u1 u2 u3 u4 u5 u6 u7 u8 u9 = false from by unfold fiG; rw [if_neg (Bool.eq_false_iff.1 e2)]; rw [if_pos e4])
    go_wp2
    refine bodyPost_ret (results_tmp rfl _ _ _) rfl ⟨?_, HV.out⟩
    rw [V2.out]
    show Ending.returned ((Array.setIfInBounds _ 8 (Value.bool false)).getD 8 undef) = _
    rw [getD_of (at_set _ (by rw [hz]; decide))]
  refine wp_cond_false ((ev s57 rfl).trans (congrArg Value.bool e4)) ?_
  go_upto_region 6 with fail
  clear s57
  refine vq_start (C := fun v => Below w1.heap.size w1 v) (by kernel_rfl) (by kernel_rfl) (belN h1 1) ?_
  refine vq true _ (want_none rfl) (fun hc v hv => ex_move rfl (ev s2 rfl)) rfl hz (by decide) (fun Ybn zz kk s58 => ?_)
  replace s2 := ku s2
  replace s3 := ku s3
  replace s4 := ku s4
  replace s5 := ku s5
  replace s9 := ku s9
  replace hz := zz
  clear kk zz
  refine vq true (.bool (decide (k = 3))) (want_none rfl) (fun hc v hv => ex_bin rfl (ev s58 rfl) rfl (eqlC _ _ _ _ _)) rfl hz (by decide) (fun Ybo zz kk s59 => ?_)
  replace s2 := ku s2
  replace s3 := ku s3
  replace s4 := ku s4
  replace s5 := ku s5
  replace s9 := ku s9
  replace hz := zz
  clear kk zz s58 Ybn
  refine vq true _ (want_none rfl) (fun hc v hv => ex_move rfl (ev s59 rfl)) rfl hz (by decide) (fun Ybp zz kk s60 => ?_)
  replace s2 := ku s2
  replace s3 := ku s3
  replace s4 := ku s4
  replace s5 := ku s5
  replace s9 := ku s9
  replace hz := zz
  clear kk zz s59 Ybo
  refine vq _ _ (want_g rfl rfl s60) (fun hc v hv => ex_move rfl (ev s2 rfl)) rfl hz (by decide) (fun Ybq zz kk s61 => ?_)
  replace s2 := ku s2
  replace s3 := ku s3
  replace s4 := ku s4
  replace s5 := ku s5
  replace s9 := ku s9
  replace s60 := ku s60
  replace hz := zz
  clear kk zz Ybp
  refine vq _ (.bool (decide (k = 5))) (want_g rfl rfl s60) (fun hc v hv => ex_bin rfl (ev s61 hc) rfl (eqlC _ _ _ _ _)) rfl hz (by decide) (fun Ybr zz kk s62 => ?_)
  replace s2 := ku s2
  replace s3 := ku s3
  replace s4 := ku s4
  replace s5 := ku s5
  replace s9 := ku s9
  replace s60 := ku s60
  replace hz := zz
  clear kk zz s61 Ybq
  refine vq true (.bool ((decide (k = 3)) || (decide (k = 5)))) (want_none rfl) (fun hc v hv => ex_or rfl s60 s62 rfl) rfl hz (by decide) (fun Ybs zz kk s63 => ?_)
  replace s2 := ku s2
  replace s3 := ku s3
  replace s4 := ku s4
  replace s5 := ku s5
  replace s9 := ku s9
  replace hz := zz
  clear kk zz s60 s62 Ybr
  refine vq true _ (want_none rfl) (fun hc v hv => ex_move rfl (ev s63 rfl)) rfl hz (by decide) (fun Ybt zz kk s64 => ?_)
  replace s2 := ku s2
  replace s3 := ku s3
  replace s4 := ku s4
  replace s5 := ku s5
  replace s9 := ku s9
  replace hz := zz
  clear kk zz s63 Ybs
  refine vq _ _ (want_g rfl rfl s64) (fun hc v hv => ex_move rfl (ev s2 rfl)) rfl hz (by decide) (fun Ybu zz kk s65 => ?_)
  replace s2 := ku s2
  replace s3 := ku s3
  replace s4 := ku s4
  replace s5 := ku s5
  replace s9 := ku s9
  replace s64 := ku s64
  replace hz := zz
  clear kk zz Ybt
  refine vq _ (.bool (decide (k = 8))) (want_g rfl rfl s64) (fun hc v hv => ex_bin rfl (ev s65 hc) rfl (eqlC _ _ _ _ _)) rfl hz (by decide) (fun Ybv zz kk s66 => ?_)
  replace s2 := ku s2
  replace s3 := ku s3
  replace s4 := ku s4
  replace s5 := ku s5
  replace s9 := ku s9
  replace s64 := ku s64
  replace hz := zz
  clear kk zz s65 Ybu
  refine vq true (.bool (((decide (k = 3)) || (decide (k = 5))) || (decide (k = 8)))) (want_none rfl) (fun hc v hv => ex_or rfl s64 s66 rfl) rfl hz (by decide) (fun Ybw zz kk s67 => ?_)
  replace s2 := ku s2
  replace s3 := ku s3
  replace s4 := ku s4
  replace s5 := ku s5
  replace s9 := ku s9
  replace hz := zz
  clear kk zz s64 s66 Ybv
  refine vq true _ (want_none rfl) (fun hc v hv => ex_move rfl (ev s67 rfl)) rfl hz (by decide) (fun Ybx zz kk s68 => ?_)
  replace s2 := ku s2
  replace s3 := ku s3
  replace s4 := ku s4
  replace s5 := ku s5
  replace s9 := ku s9
  replace hz := zz
  clear kk zz s67 Ybw
  refine vq _ (.pointer (some ⟨w.heap.size + 1, 1, none⟩)) (want_g rfl rfl s68) (fun hc v hv => ex_fa rfl (ev s5 rfl) (MBox.faNode _ _)) rfl hz (by decide) (fun Yby zz kk s69 => ?_)
  replace s2 := ku s2
  replace s3 := ku s3
  replace s4 := ku s4
  replace s5 := ku s5
  replace s9 := ku s9
  replace s68 := ku s68
  replace hz := zz
  clear kk zz Ybx
  refine vq _ (.int .i64 m.nd) (want_g rfl rfl s68) (fun hc v hv => ex_ld rfl (ev s69 hc) ((HM.out v hv).ldNode)) rfl hz (by decide) (fun Ybz zz kk s70 => ?_)
  replace s2 := ku s2
  replace s3 := ku s3
  replace s4 := ku s4
  replace s5 := ku s5
  replace s9 := ku s9
  replace s68 := ku s68
  replace hz := zz
  clear kk zz s69 Yby
  refine vq _ (.pointer (some ⟨w.heap.size + 1, 2, none⟩)) (want_g rfl rfl s68) (fun hc v hv => ex_fa rfl (ev s5 rfl) (MBox.faView _ _)) rfl hz (by decide) (fun Yb0 zz kk s71 => ?_)
  replace s2 := ku s2
  replace s3 := ku s3
  replace s4 := ku s4
  replace s5 := ku s5
  replace s9 := ku s9
  replace s68 := ku s68
  replace s70 := ku s70
  replace hz := zz
  clear kk zz Ybz
  refine vq _ (.int .i64 m.vw) (want_g rfl rfl s68) (fun hc v hv => ex_ld rfl (ev s71 hc) ((HM.out v hv).ldView)) rfl hz (by decide) (fun Yb1 zz kk s72 => ?_)
  replace s2 := ku s2
  replace s3 := ku s3
  replace s4 := ku s4
  replace s5 := ku s5
  replace s9 := ku s9
  replace s68 := ku s68
  replace s70 := ku s70
  replace hz := zz
  clear kk zz s71 Yb0
  refine vq _ _ (want_g rfl rfl s68) (fun hc v hv => ex_move rfl (ev s9 rfl)) rfl hz (by decide) (fun Yb2 zz kk s73 => ?_)
  replace s2 := ku s2
  replace s3 := ku s3
  replace s4 := ku s4
  replace s5 := ku s5
  replace s9 := ku s9
  replace s68 := ku s68
  replace s70 := ku s70
  replace s72 := ku s72
  replace hz := zz
  clear kk zz Yb1
  refine vq _ (.int .i64 ((m.vw).tmod ((2 * f + 1)))) (want_g rfl rfl s68) (fun hc v hv => ex_bin rfl (ev s72 hc) (ev s73 hc) (remC HN.out _ _ _ _)) rfl hz (by decide) (fun Yb3 zz kk s74 => ?_)
  replace s2 := ku s2
  replace s3 := ku s3
  replace s4 := ku s4
  replace s5 := ku s5
  replace s9 := ku s9
  replace s68 := ku s68
  replace s70 := ku s70
  replace hz := zz
  clear kk zz s72 s73 Yb2
  refine vq _ (.bool (!decide (m.nd = ((m.vw).tmod ((2 * f + 1)))))) (want_g rfl rfl s68) (fun hc v hv => ex_bin rfl (ev s70 hc) (ev s74 hc) (neqC _ _ _ _ _)) rfl hz (by decide) (fun Yb4 zz kk s75 => ?_)
  replace s2 := ku s2
  replace s3 := ku s3
  replace s4 := ku s4
  replace s5 := ku s5
  replace s9 := ku s9
  replace s68 := ku s68
  replace hz := zz
  clear kk zz s70 s74 Yb3
  refine vq true (.bool ((((decide (k = 3)) || (decide (k = 5))) || (decide (k = 8))) && (!decide (m.nd = ((m.vw).tmod ((2 * f + 1))))))) (want_none rfl) (fun hc v hv => ex_and rfl s68 s75 rfl) rfl hz (by decide) (fun Yb5 zz kk s76 => ?_)
  replace s2 := ku s2
  replace s3 := ku s3
  replace s4 := ku s4
  replace s5 := ku s5
  replace s9 := ku s9
  replace hz := zz
  clear kk zz s68 s75 Yb4
  refine vq_nil (fun x6 hx6 => ?_)
  go_upto_region 8 with fail
  cases e6 : ((((decide (k = 3)) || (decide (k = 5))) || (decide (k = 8))) && (!decide (m.nd = ((m.vw).tmod ((2 * f + 1))))))
  rotate_left
  · refine wp_cond_true ((ev s76 rfl).trans (congrArg Value.bool e6)) ?_
    have HV := hide (HB.out _ hx6)
    have V2 := hide (show fiG f r m L D k u0 u1 u2 u3 u4 u5 u6 u7 u8 u9 = false from by unfold fiG; rw [if_neg (Bool.eq_false_iff.1 e2)]; rw [if_neg (Bool.eq_false_iff.1 e4)]; rw [if_pos e6])
    go_wp2
    refine bodyPost_ret (results_tmp rfl _ _ _) rfl ⟨?_, HV.out⟩
    rw [V2.out]
    show Ending.returned ((Array.setIfInBounds _ 8 (Value.bool false)).getD 8 undef) = _
    rw [getD_of (at_set _ (by rw [hz]; decide))]
  refine wp_cond_false ((ev s76 rfl).trans (congrArg Value.bool e6)) ?_
  go_upto_region 8 with fail
  clear s76
  refine wp_region_lit ?_
  refine vt _ (ex_move rfl (ev s3 rfl)) hz (fun Yb6 zz kk s77 => ?_)
  replace s2 := ku s2
  replace s3 := ku s3
  replace s4 := ku s4
  replace s5 := ku s5
  replace s9 := ku s9
  replace hz := zz
  clear kk zz
  refine vt (.pointer (some ⟨g, 2, none⟩)) (ex_ix rfl (ev s77 rfl) rfl (ixBool g 2 10 cu (by decide) _)) hz (fun Yb7 zz kk s78 => ?_)
  replace s2 := ku s2
  replace s3 := ku s3
  replace s4 := ku s4
  replace s5 := ku s5
  replace s9 := ku s9
  replace hz := zz
  clear kk zz s77 Yb6
  refine vt (.bool u2) (ex_ld rfl (ev s78 rfl) (ldBool (HU.out x6 hx6 2 _ rfl))) hz (fun Yb8 zz kk s79 => ?_)
  replace s2 := ku s2
  replace s3 := ku s3
  replace s4 := ku s4
  replace s5 := ku s5
  replace s9 := ku s9
  replace hz := zz
  clear kk zz s78 Yb7
  refine vt _ (ex_move rfl (ev s79 rfl)) hz (fun Yb9 zz kk s80 => ?_)
  replace s2 := ku s2
  replace s3 := ku s3
  replace s4 := ku s4
  replace s5 := ku s5
  replace s9 := ku s9
  replace hz := zz
  clear kk zz s79 Yb8
  refine vl _ (.pointer (some ⟨w.heap.size + 1, 13, none⟩)) (want_g rfl rfl s80) (fun hc => ex_fa rfl (ev s5 rfl) (MBox.faLast _ _)) rfl hz (by decide) (fun Yca zz kk s81 => ?_)
  replace s2 := ku s2
  replace s3 := ku s3
  replace s4 := ku s4
  replace s5 := ku s5
  replace s9 := ku s9
  replace s80 := ku s80
  replace hz := zz
  clear kk zz Yb9
  refine vl _ (.int .i64 m.ls) (want_g rfl rfl s80) (fun hc => ex_ld rfl (ev s81 hc) ((HM.out x6 hx6).ldLast)) rfl hz (by decide) (fun Ycb zz kk s82 => ?_)
  replace s2 := ku s2
  replace s3 := ku s3
  replace s4 := ku s4
  replace s5 := ku s5
  replace s9 := ku s9
  replace s80 := ku s80
  replace hz := zz
  clear kk zz s81 Yca
  refine vl _ (.bool (decide (m.ls < 0))) (want_g rfl rfl s80) (fun hc => ex_bin rfl (ev s82 hc) rfl (lssC _ _ _ _ _)) rfl hz (by decide) (fun Ycc zz kk s83 => ?_)
  replace s2 := ku s2
  replace s3 := ku s3
  replace s4 := ku s4
  replace s5 := ku s5
  replace s9 := ku s9
  replace s80 := ku s80
  replace hz := zz
  clear kk zz s82 Ycb
  refine vl _ _ (want_g rfl rfl s80) (fun hc => ex_move rfl (ev s83 hc)) rfl hz (by decide) (fun Ycd zz kk s84 => ?_)
  replace s2 := ku s2
  replace s3 := ku s3
  replace s4 := ku s4
  replace s5 := ku s5
  replace s9 := ku s9
  replace s80 := ku s80
  replace hz := zz
  clear kk zz s83 Ycc
  refine vl ((true && (u2 == true)) && ((decide (m.ls < 0)) == false)) (.pointer (some ⟨w.heap.size + 1, 13, none⟩)) (want_g rfl rfl s84) (fun hc => ex_fa rfl (ev s5 rfl) (MBox.faLast _ _)) rfl hz (by decide) (fun Yce zz kk s85 => ?_)
  replace s2 := ku s2
  replace s3 := ku s3
  replace s4 := ku s4
  replace s5 := ku s5
  replace s9 := ku s9
  replace s80 := ku s80
  replace s84 := ku s84
  replace hz := zz
  clear kk zz Ycd
  refine vl ((true && (u2 == true)) && ((decide (m.ls < 0)) == false)) (.int .i64 m.ls) (want_g rfl rfl s84) (fun hc => ex_ld rfl (ev s85 hc) ((HM.out x6 hx6).ldLast)) rfl hz (by decide) (fun Ycf zz kk s86 => ?_)
  replace s2 := ku s2
  replace s3 := ku s3
  replace s4 := ku s4
  replace s5 := ku s5
  replace s9 := ku s9
  replace s80 := ku s80
  replace s84 := ku s84
  replace hz := zz
  clear kk zz s85 Yce
  refine vl ((true && (u2 == true)) && ((decide (m.ls < 0)) == false)) (.pointer (some ⟨w.heap.size + 1, 2, none⟩)) (want_g rfl rfl s84) (fun hc => ex_fa rfl (ev s5 rfl) (MBox.faView _ _)) rfl hz (by decide) (fun Ycg zz kk s87 => ?_)
  replace s2 := ku s2
  replace s3 := ku s3
  replace s4 := ku s4
  replace s5 := ku s5
  replace s9 := ku s9
  replace s80 := ku s80
  replace s84 := ku s84
  replace s86 := ku s86
  replace hz := zz
  clear kk zz Ycf
  refine vl ((true && (u2 == true)) && ((decide (m.ls < 0)) == false)) (.int .i64 m.vw) (want_g rfl rfl s84) (fun hc => ex_ld rfl (ev s87 hc) ((HM.out x6 hx6).ldView)) rfl hz (by decide) (fun Ych zz kk s88 => ?_)
  replace s2 := ku s2
  replace s3 := ku s3
  replace s4 := ku s4
  replace s5 := ku s5
  replace s9 := ku s9
  replace s80 := ku s80
  replace s84 := ku s84
  replace s86 := ku s86
  replace hz := zz
  clear kk zz s87 Ycg
  refine vl ((true && (u2 == true)) && ((decide (m.ls < 0)) == false)) (.bool (decide (m.vw ≤ m.ls))) (want_g rfl rfl s84) (fun hc => ex_bin rfl (ev s86 hc) (ev s88 hc) (geqC _ _ _ _ _)) rfl hz (by decide) (fun Yci zz kk s89 => ?_)
  replace s2 := ku s2
  replace s3 := ku s3
  replace s4 := ku s4
  replace s5 := ku s5
  replace s9 := ku s9
  replace s80 := ku s80
  replace s84 := ku s84
  replace hz := zz
  clear kk zz s86 s88 Ych
  refine vl _ (.bool ((decide (m.ls < 0)) || (decide (m.vw ≤ m.ls)))) (want_g rfl rfl s80) (fun hc => ex_or rfl s84 s89 hc) rfl hz (by decide) (fun Ycj zz kk s90 => ?_)
  replace s2 := ku s2
  replace s3 := ku s3
  replace s4 := ku s4
  replace s5 := ku s5
  replace s9 := ku s9
  replace s80 := ku s80
  replace hz := zz
  clear kk zz s84 s89 Yci
  refine vt (.bool (u2 && ((decide (m.ls < 0)) || (decide (m.vw ≤ m.ls))))) (ex_and rfl s80 s90 rfl) hz (fun Yck zz kk s91 => ?_)
  replace s2 := ku s2
  replace s3 := ku s3
  replace s4 := ku s4
  replace s5 := ku s5
  replace s9 := ku s9
  replace hz := zz
  clear kk zz s80 s90 Ycj
  refine wpList_nil ?_
  go_upto_region 10 with fail
  cases e8 : (u2 && ((decide (m.ls < 0)) || (decide (m.vw ≤ m.ls))))
  rotate_left
  · refine wp_cond_true ((ev s91 rfl).trans (congrArg Value.bool e8)) ?_
    have HV := hide (HB.out _ hx6)
    have V2 := hide (show fiG f r m L D k u0 u1 u2 u3 u4 u5 u6 u7 u8 u9 = false from by unfold fiG; rw [if_neg (Bool.eq_false_iff.1 e2)]; rw [if_neg (Bool.eq_false_iff.1 e4)]; rw [if_neg (Bool.eq_false_iff.1 e6)]; rw [if_pos e8])
    go_wp2
    refine bodyPost_ret (results_tmp rfl _ _ _) rfl ⟨?_, HV.out⟩
    rw [V2.out]
    show Ending.returned ((Array.setIfInBounds _ 8 (Value.bool false)).getD 8 undef) = _
    rw [getD_of (at_set _ (by rw [hz]; decide))]
  refine wp_cond_false ((ev s91 rfl).trans (congrArg Value.bool e8)) ?_
  go_upto_region 10 with fail
  clear s91
  refine wp_region_lit ?_
  refine vt _ (ex_move rfl (ev s3 rfl)) hz (fun Ycl zz kk s92 => ?_)
  replace s2 := ku s2
  replace s3 := ku s3
  replace s4 := ku s4
  replace s5 := ku s5
  replace s9 := ku s9
  replace hz := zz
  clear kk zz
  refine vt (.pointer (some ⟨g, 3, none⟩)) (ex_ix rfl (ev s92 rfl) rfl (ixBool g 3 10 cu (by decide) _)) hz (fun Ycm zz kk s93 => ?_)
  replace s2 := ku s2
  replace s3 := ku s3
  replace s4 := ku s4
  replace s5 := ku s5
  replace s9 := ku s9
  replace hz := zz
  clear kk zz s92 Ycl
  refine vt (.bool u3) (ex_ld rfl (ev s93 rfl) (ldBool (HU.out x6 hx6 3 _ rfl))) hz (fun Ycn zz kk s94 => ?_)
  replace s2 := ku s2
  replace s3 := ku s3
  replace s4 := ku s4
  replace s5 := ku s5
  replace s9 := ku s9
  replace hz := zz
  clear kk zz s93 Ycm
  refine vt _ (ex_move rfl (ev s94 rfl)) hz (fun Yco zz kk s95 => ?_)
  replace s2 := ku s2
  replace s3 := ku s3
  replace s4 := ku s4
  replace s5 := ku s5
  replace s9 := ku s9
  replace hz := zz
  clear kk zz s94 Ycn
  refine vl _ (.pointer (some ⟨w.heap.size + 1, 11, none⟩)) (want_g rfl rfl s95) (fun hc => ex_fa rfl (ev s5 rfl) (MBox.faPlace _ _)) rfl hz (by decide) (fun Ycp zz kk s96 => ?_)
  replace s2 := ku s2
  replace s3 := ku s3
  replace s4 := ku s4
  replace s5 := ku s5
  replace s9 := ku s9
  replace s95 := ku s95
  replace hz := zz
  clear kk zz Yco
  refine vl _ (.int .i64 m.p) (want_g rfl rfl s95) (fun hc => ex_ld rfl (ev s96 hc) ((HM.out x6 hx6).ldPlace)) rfl hz (by decide) (fun Ycq zz kk s97 => ?_)
  replace s2 := ku s2
  replace s3 := ku s3
  replace s4 := ku s4
  replace s5 := ku s5
  replace s9 := ku s9
  replace s95 := ku s95
  replace hz := zz
  clear kk zz s96 Ycp
  refine vl _ (.bool (decide (m.p < 0))) (want_g rfl rfl s95) (fun hc => ex_bin rfl (ev s97 hc) rfl (lssC _ _ _ _ _)) rfl hz (by decide) (fun Ycr zz kk s98 => ?_)
  replace s2 := ku s2
  replace s3 := ku s3
  replace s4 := ku s4
  replace s5 := ku s5
  replace s9 := ku s9
  replace s95 := ku s95
  replace hz := zz
  clear kk zz s97 Ycq
  refine vl _ _ (want_g rfl rfl s95) (fun hc => ex_move rfl (ev s98 hc)) rfl hz (by decide) (fun Ycs zz kk s99 => ?_)
  replace s2 := ku s2
  replace s3 := ku s3
  replace s4 := ku s4
  replace s5 := ku s5
  replace s9 := ku s9
  replace s95 := ku s95
  replace hz := zz
  clear kk zz s98 Ycr
  refine vl ((true && (u3 == true)) && ((decide (m.p < 0)) == false)) (.pointer (some ⟨w.heap.size + 1, 11, none⟩)) (want_g rfl rfl s99) (fun hc => ex_fa rfl (ev s5 rfl) (MBox.faPlace _ _)) rfl hz (by decide) (fun Yct zz kk s100 => ?_)
  replace s2 := ku s2
  replace s3 := ku s3
  replace s4 := ku s4
  replace s5 := ku s5
  replace s9 := ku s9
  replace s95 := ku s95
  replace s99 := ku s99
  replace hz := zz
  clear kk zz Ycs
  refine vl ((true && (u3 == true)) && ((decide (m.p < 0)) == false)) (.int .i64 m.p) (want_g rfl rfl s99) (fun hc => ex_ld rfl (ev s100 hc) ((HM.out x6 hx6).ldPlace)) rfl hz (by decide) (fun Ycu zz kk s101 => ?_)
  replace s2 := ku s2
  replace s3 := ku s3
  replace s4 := ku s4
  replace s5 := ku s5
  replace s9 := ku s9
  replace s95 := ku s95
  replace s99 := ku s99
  replace hz := zz
  clear kk zz s100 Yct
  refine vl ((true && (u3 == true)) && ((decide (m.p < 0)) == false)) (.pointer (some ⟨w.heap.size, 1, none⟩)) (want_g rfl rfl s99) (fun hc => ex_fa rfl (ev s4 rfl) (CBox.fa1 _ _)) rfl hz (by decide) (fun Ycv zz kk s102 => ?_)
  replace s2 := ku s2
  replace s3 := ku s3
  replace s4 := ku s4
  replace s5 := ku s5
  replace s9 := ku s9
  replace s95 := ku s95
  replace s99 := ku s99
  replace s101 := ku s101
  replace hz := zz
  clear kk zz Ycu
  refine vl ((true && (u3 == true)) && ((decide (m.p < 0)) == false)) (.int .i64 r) (want_g rfl rfl s99) (fun hc => ex_ld rfl (ev s102 hc) ((HC.out x6 hx6).ld1)) rfl hz (by decide) (fun Ycw zz kk s103 => ?_)
  replace s2 := ku s2
  replace s3 := ku s3
  replace s4 := ku s4
  replace s5 := ku s5
  replace s9 := ku s9
  replace s95 := ku s95
  replace s99 := ku s99
  replace s101 := ku s101
  replace hz := zz
  clear kk zz s102 Ycv
  refine vl ((true && (u3 == true)) && ((decide (m.p < 0)) == false)) (.bool (decide (r < m.p))) (want_g rfl rfl s99) (fun hc => ex_bin rfl (ev s101 hc) (ev s103 hc) (gtrC _ _ _ _ _)) rfl hz (by decide) (fun Ycx zz kk s104 => ?_)
  replace s2 := ku s2
  replace s3 := ku s3
  replace s4 := ku s4
  replace s5 := ku s5
  replace s9 := ku s9
  replace s95 := ku s95
  replace s99 := ku s99
  replace hz := zz
  clear kk zz s101 s103 Ycw
  refine vl _ (.bool ((decide (m.p < 0)) || (decide (r < m.p)))) (want_g rfl rfl s95) (fun hc => ex_or rfl s99 s104 hc) rfl hz (by decide) (fun Ycy zz kk s105 => ?_)
  replace s2 := ku s2
  replace s3 := ku s3
  replace s4 := ku s4
  replace s5 := ku s5
  replace s9 := ku s9
  replace s95 := ku s95
  replace hz := zz
  clear kk zz s99 s104 Ycx
  refine vl _ _ (want_g rfl rfl s95) (fun hc => ex_move rfl (ev s105 hc)) rfl hz (by decide) (fun Ycz zz kk s106 => ?_)
  replace s2 := ku s2
  replace s3 := ku s3
  replace s4 := ku s4
  replace s5 := ku s5
  replace s9 := ku s9
  replace s95 := ku s95
  replace hz := zz
  clear kk zz s105 Ycy
  refine vl ((true && (u3 == true)) && (((decide (m.p < 0)) || (decide (r < m.p))) == false)) (.int .i64 k) (want_g rfl rfl s106) (fun hc => ex_move rfl (ev s2 rfl)) rfl hz (by decide) (fun Yc0 zz kk s107 => ?_)
  replace s2 := ku s2
  replace s3 := ku s3
  replace s4 := ku s4
  replace s5 := ku s5
  replace s9 := ku s9
  replace s95 := ku s95
  replace s106 := ku s106
  replace hz := zz
  clear kk zz Ycz
  refine vl ((true && (u3 == true)) && (((decide (m.p < 0)) || (decide (r < m.p))) == false)) (.bool (decide (k = 3))) (want_g rfl rfl s106) (fun hc => ex_bin rfl (ev s107 hc) rfl (eqlC _ _ _ _ _)) rfl hz (by decide) (fun Yc1 zz kk s108 => ?_)
  replace s2 := ku s2
  replace s3 := ku s3
  replace s4 := ku s4
  replace s5 := ku s5
  replace s9 := ku s9
  replace s95 := ku s95
  replace s106 := ku s106
  replace hz := zz
  clear kk zz s107 Yc0
  refine vl ((true && (u3 == true)) && (((decide (m.p < 0)) || (decide (r < m.p))) == false)) (.bool (decide (k = 3))) (want_g rfl rfl s106) (fun hc => ex_move rfl (ev s108 hc)) rfl hz (by decide) (fun Yc2 zz kk s109 => ?_)
  replace s2 := ku s2
  replace s3 := ku s3
  replace s4 := ku s4
  replace s5 := ku s5
  replace s9 := ku s9
  replace s95 := ku s95
  replace s106 := ku s106
  replace hz := zz
  clear kk zz s108 Yc1
  refine vl (((true && (u3 == true)) && (((decide (m.p < 0)) || (decide (r < m.p))) == false)) && ((decide (k = 3)) == true)) (.pointer (some ⟨w.heap.size + 1, 11, none⟩)) (want_g rfl rfl s109) (fun hc => ex_fa rfl (ev s5 rfl) (MBox.faPlace _ _)) rfl hz (by decide) (fun Yc3 zz kk s110 => ?_)
  replace s2 := ku s2
  replace s3 := ku s3
  replace s4 := ku s4
  replace s5 := ku s5
  replace s9 := ku s9
  replace s95 := ku s95
  replace s106 := ku s106
  replace s109 := ku s109
  replace hz := zz
  clear kk zz Yc2
  refine vl (((true && (u3 == true)) && (((decide (m.p < 0)) || (decide (r < m.p))) == false)) && ((decide (k = 3)) == true)) (.int .i64 m.p) (want_g rfl rfl s109) (fun hc => ex_ld rfl (ev s110 hc) ((HM.out x6 hx6).ldPlace)) rfl hz (by decide) (fun Yc4 zz kk s111 => ?_)
  replace s2 := ku s2
  replace s3 := ku s3
  replace s4 := ku s4
  replace s5 := ku s5
  replace s9 := ku s9
  replace s95 := ku s95
  replace s106 := ku s106
  replace s109 := ku s109
  replace hz := zz
  clear kk zz s110 Yc3
  refine vl (((true && (u3 == true)) && (((decide (m.p < 0)) || (decide (r < m.p))) == false)) && ((decide (k = 3)) == true)) (.bool (decide (m.p < 1))) (want_g rfl rfl s109) (fun hc => ex_bin rfl (ev s111 hc) rfl (lssC _ _ _ _ _)) rfl hz (by decide) (fun Yc5 zz kk s112 => ?_)
  replace s2 := ku s2
  replace s3 := ku s3
  replace s4 := ku s4
  replace s5 := ku s5
  replace s9 := ku s9
  replace s95 := ku s95
  replace s106 := ku s106
  replace s109 := ku s109
  replace hz := zz
  clear kk zz s111 Yc4
  refine vl ((true && (u3 == true)) && (((decide (m.p < 0)) || (decide (r < m.p))) == false)) (.bool ((decide (k = 3)) && (decide (m.p < 1)))) (want_g rfl rfl s106) (fun hc => ex_and rfl s109 s112 hc) rfl hz (by decide) (fun Yc6 zz kk s113 => ?_)
  replace s2 := ku s2
  replace s3 := ku s3
  replace s4 := ku s4
  replace s5 := ku s5
  replace s9 := ku s9
  replace s95 := ku s95
  replace s106 := ku s106
  replace hz := zz
  clear kk zz s109 s112 Yc5
  refine vl _ (.bool (((decide (m.p < 0)) || (decide (r < m.p))) || ((decide (k = 3)) && (decide (m.p < 1))))) (want_g rfl rfl s95) (fun hc => ex_or rfl s106 s113 hc) rfl hz (by decide) (fun Yc7 zz kk s114 => ?_)
  replace s2 := ku s2
  replace s3 := ku s3
  replace s4 := ku s4
  replace s5 := ku s5
  replace s9 := ku s9
  replace s95 := ku s95
  replace hz := zz
  clear kk zz s106 s113 Yc6
  refine vl _ _ (want_g rfl rfl s95) (fun hc => ex_move rfl (ev s114 hc)) rfl hz (by decide) (fun Yc8 zz kk s115 => ?_)
  replace s2 := ku s2
  replace s3 := ku s3
  replace s4 := ku s4
  replace s5 := ku s5
  replace s9 := ku s9
  replace s95 := ku s95
  replace hz := zz
  clear kk zz s114 Yc7
  refine vl ((true && (u3 == true)) && ((((decide (m.p < 0)) || (decide (r < m.p))) || ((decide (k = 3)) && (decide (m.p < 1)))) == false)) (.int .i64 k) (want_g rfl rfl s115) (fun hc => ex_move rfl (ev s2 rfl)) rfl hz (by decide) (fun Yc9 zz kk s116 => ?_)
  replace s2 := ku s2
  replace s3 := ku s3
  replace s4 := ku s4
  replace s5 := ku s5
  replace s9 := ku s9
  replace s95 := ku s95
  replace s115 := ku s115
  replace hz := zz
  clear kk zz Yc8
  refine vl ((true && (u3 == true)) && ((((decide (m.p < 0)) || (decide (r < m.p))) || ((decide (k = 3)) && (decide (m.p < 1)))) == false)) (.bool (decide (k = 2))) (want_g rfl rfl s115) (fun hc => ex_bin rfl (ev s116 hc) rfl (eqlC _ _ _ _ _)) rfl hz (by decide) (fun Yda zz kk s117 => ?_)
  replace s2 := ku s2
  replace s3 := ku s3
  replace s4 := ku s4
  replace s5 := ku s5
  replace s9 := ku s9
  replace s95 := ku s95
  replace s115 := ku s115
  replace hz := zz
  clear kk zz s116 Yc9
  refine vl ((true && (u3 == true)) && ((((decide (m.p < 0)) || (decide (r < m.p))) || ((decide (k = 3)) && (decide (m.p < 1)))) == false)) (.bool (decide (k = 2))) (want_g rfl rfl s115) (fun hc => ex_move rfl (ev s117 hc)) rfl hz (by decide) (fun Ydb zz kk s118 => ?_)
  replace s2 := ku s2
  replace s3 := ku s3
  replace s4 := ku s4
  replace s5 := ku s5
  replace s9 := ku s9
  replace s95 := ku s95
  replace s115 := ku s115
  replace hz := zz
  clear kk zz s117 Yda
  refine vl (((true && (u3 == true)) && ((((decide (m.p < 0)) || (decide (r < m.p))) || ((decide (k = 3)) && (decide (m.p < 1)))) == false)) && ((decide (k = 2)) == true)) (.pointer (some ⟨w.heap.size + 1, 11, none⟩)) (want_g rfl rfl s118) (fun hc => ex_fa rfl (ev s5 rfl) (MBox.faPlace _ _)) rfl hz (by decide) (fun Ydc zz kk s119 => ?_)
  replace s2 := ku s2
  replace s3 := ku s3
  replace s4 := ku s4
  replace s5 := ku s5
  replace s9 := ku s9
  replace s95 := ku s95
  replace s115 := ku s115
  replace s118 := ku s118
  replace hz := zz
  clear kk zz Ydb
  refine vl (((true && (u3 == true)) && ((((decide (m.p < 0)) || (decide (r < m.p))) || ((decide (k = 3)) && (decide (m.p < 1)))) == false)) && ((decide (k = 2)) == true)) (.int .i64 m.p) (want_g rfl rfl s118) (fun hc => ex_ld rfl (ev s119 hc) ((HM.out x6 hx6).ldPlace)) rfl hz (by decide) (fun Ydd zz kk s120 => ?_)
  replace s2 := ku s2
  replace s3 := ku s3
  replace s4 := ku s4
  replace s5 := ku s5
  replace s9 := ku s9
  replace s95 := ku s95
  replace s115 := ku s115
  replace s118 := ku s118
  replace hz := zz
  clear kk zz s119 Ydc
  refine vl (((true && (u3 == true)) && ((((decide (m.p < 0)) || (decide (r < m.p))) || ((decide (k = 3)) && (decide (m.p < 1)))) == false)) && ((decide (k = 2)) == true)) (.bool (decide (m.p = 0))) (want_g rfl rfl s118) (fun hc => ex_bin rfl (ev s120 hc) rfl (eqlC _ _ _ _ _)) rfl hz (by decide) (fun Yde zz kk s121 => ?_)
  replace s2 := ku s2
  replace s3 := ku s3
  replace s4 := ku s4
  replace s5 := ku s5
  replace s9 := ku s9
  replace s95 := ku s95
  replace s115 := ku s115
  replace s118 := ku s118
  replace hz := zz
  clear kk zz s120 Ydd
  refine vl (((true && (u3 == true)) && ((((decide (m.p < 0)) || (decide (r < m.p))) || ((decide (k = 3)) && (decide (m.p < 1)))) == false)) && ((decide (k = 2)) == true)) (.pointer (some ⟨w.heap.size + 1, 8, none⟩)) (want_g rfl rfl s118) (fun hc => ex_fa rfl (ev s5 rfl) (MBox.faResult _ _)) rfl hz (by decide) (fun Ydf zz kk s122 => ?_)
  replace s2 := ku s2
  replace s3 := ku s3
  replace s4 := ku s4
  replace s5 := ku s5
  replace s9 := ku s9
  replace s95 := ku s95
  replace s115 := ku s115
  replace s118 := ku s118
  replace s121 := ku s121
  replace hz := zz
  clear kk zz Yde
  refine vl (((true && (u3 == true)) && ((((decide (m.p < 0)) || (decide (r < m.p))) || ((decide (k = 3)) && (decide (m.p < 1)))) == false)) && ((decide (k = 2)) == true)) (.pointer (some ⟨w.heap.size + 1, 8, none⟩)) (want_g rfl rfl s118) (fun hc => ex_fa rfl (ev s122 hc) (faCode _ _)) rfl hz (by decide) (fun Ydg zz kk s123 => ?_)
  replace s2 := ku s2
  replace s3 := ku s3
  replace s4 := ku s4
  replace s5 := ku s5
  replace s9 := ku s9
  replace s95 := ku s95
  replace s115 := ku s115
  replace s118 := ku s118
  replace s121 := ku s121
  replace hz := zz
  clear kk zz s122 Ydf
  refine vl (((true && (u3 == true)) && ((((decide (m.p < 0)) || (decide (r < m.p))) || ((decide (k = 3)) && (decide (m.p < 1)))) == false)) && ((decide (k = 2)) == true)) (.int .i64 m.r.1) (want_g rfl rfl s118) (fun hc => ex_ld rfl (ev s123 hc) (s_ldCode (HM.out x6 hx6))) rfl hz (by decide) (fun Ydh zz kk s124 => ?_)
  replace s2 := ku s2
  replace s3 := ku s3
  replace s4 := ku s4
  replace s5 := ku s5
  replace s9 := ku s9
  replace s95 := ku s95
  replace s115 := ku s115
  replace s118 := ku s118
  replace s121 := ku s121
  replace hz := zz
  clear kk zz s123 Ydg
  refine vl (((true && (u3 == true)) && ((((decide (m.p < 0)) || (decide (r < m.p))) || ((decide (k = 3)) && (decide (m.p < 1)))) == false)) && ((decide (k = 2)) == true)) (.bool (decide (m.r.1 = 7))) (want_g rfl rfl s118) (fun hc => ex_bin rfl (ev s124 hc) rfl (eqlC _ _ _ _ _)) rfl hz (by decide) (fun Ydi zz kk s125 => ?_)
  replace s2 := ku s2
  replace s3 := ku s3
  replace s4 := ku s4
  replace s5 := ku s5
  replace s9 := ku s9
  replace s95 := ku s95
  replace s115 := ku s115
  replace s118 := ku s118
  replace s121 := ku s121
  replace hz := zz
  clear kk zz s124 Ydh
  refine vl (((true && (u3 == true)) && ((((decide (m.p < 0)) || (decide (r < m.p))) || ((decide (k = 3)) && (decide (m.p < 1)))) == false)) && ((decide (k = 2)) == true)) (.bool ((decide (m.p = 0)) != (decide (m.r.1 = 7)))) (want_g rfl rfl s118) (fun hc => ex_bin rfl (ev s121 hc) (ev s125 hc) (neqB _ _ _ _ _)) rfl hz (by decide) (fun Ydj zz kk s126 => ?_)
  replace s2 := ku s2
  replace s3 := ku s3
  replace s4 := ku s4
  replace s5 := ku s5
  replace s9 := ku s9
  replace s95 := ku s95
  replace s115 := ku s115
  replace s118 := ku s118
  replace hz := zz
  clear kk zz s121 s125 Ydi
  refine vl ((true && (u3 == true)) && ((((decide (m.p < 0)) || (decide (r < m.p))) || ((decide (k = 3)) && (decide (m.p < 1)))) == false)) (.bool ((decide (k = 2)) && ((decide (m.p = 0)) != (decide (m.r.1 = 7))))) (want_g rfl rfl s115) (fun hc => ex_and rfl s118 s126 hc) rfl hz (by decide) (fun Ydk zz kk s127 => ?_)
  replace s2 := ku s2
  replace s3 := ku s3
  replace s4 := ku s4
  replace s5 := ku s5
  replace s9 := ku s9
  replace s95 := ku s95
  replace s115 := ku s115
  replace hz := zz
  clear kk zz s118 s126 Ydj
  refine vl _ (.bool ((((decide (m.p < 0)) || (decide (r < m.p))) || ((decide (k = 3)) && (decide (m.p < 1)))) || ((decide (k = 2)) && ((decide (m.p = 0)) != (decide (m.r.1 = 7)))))) (want_g rfl rfl s95) (fun hc => ex_or rfl s115 s127 hc) rfl hz (by decide) (fun Ydl zz kk s128 => ?_)
  replace s2 := ku s2
  replace s3 := ku s3
  replace s4 := ku s4
  replace s5 := ku s5
  replace s9 := ku s9
  replace s95 := ku s95
  replace hz := zz
  clear kk zz s115 s127 Ydk
  refine vt (.bool (u3 && ((((decide (m.p < 0)) || (decide (r < m.p))) || ((decide (k = 3)) && (decide (m.p < 1)))) || ((decide (k = 2)) && ((decide (m.p = 0)) != (decide (m.r.1 = 7))))))) (ex_and rfl s95 s128 rfl) hz (fun Ydm zz kk s129 => ?_)
  replace s2 := ku s2
  replace s3 := ku s3
  replace s4 := ku s4
  replace s5 := ku s5
  replace s9 := ku s9
  replace hz := zz
  clear kk zz s95 s128 Ydl
  refine wpList_nil ?_
  go_upto_region 12 with fail
  cases e10 : (u3 && ((((decide (m.p < 0)) || (decide (r < m.p))) || ((decide (k = 3)) && (decide (m.p < 1)))) || ((decide (k = 2)) && ((decide (m.p = 0)) != (decide (m.r.1 = 7))))))
  rotate_left
  · refine wp_cond_true ((ev s129 rfl).trans (congrArg Value.bool e10)) ?_
    have HV := hide (HB.out _ hx6)
    have V2 := hide (show fiG f r m L D k u0 u1 u2 u3 u4 u5 u6 u7 u8 u9 = false from by unfold fiG; rw [if_neg (Bool.eq_false_iff.1 e2)]; rw [if_neg (Bool.eq_false_iff.1 e4)]; rw [if_neg (Bool.eq_false_iff.1 e6)]; rw [if_neg (Bool.eq_false_iff.1 e8)]; rw [if_pos e10])
    go_wp2
    refine bodyPost_ret (results_tmp rfl _ _ _) rfl ⟨?_, HV.out⟩
    rw [V2.out]
    show Ending.returned ((Array.setIfInBounds _ 8 (Value.bool false)).getD 8 undef) = _
    rw [getD_of (at_set _ (by rw [hz]; decide))]
  refine wp_cond_false ((ev s129 rfl).trans (congrArg Value.bool e10)) ?_
  go_upto_region 12 with fail
  clear s129
  refine wp_region_lit ?_
  refine vt _ (ex_move rfl (ev s3 rfl)) hz (fun Ydn zz kk s130 => ?_)
  replace s2 := ku s2
  replace s3 := ku s3
  replace s4 := ku s4
  replace s5 := ku s5
  replace s9 := ku s9
  replace hz := zz
  clear kk zz
  refine vt (.pointer (some ⟨g, 8, none⟩)) (ex_ix rfl (ev s130 rfl) rfl (ixBool g 8 10 cu (by decide) _)) hz (fun Ydo zz kk s131 => ?_)
  replace s2 := ku s2
  replace s3 := ku s3
  replace s4 := ku s4
  replace s5 := ku s5
  replace s9 := ku s9
  replace hz := zz
  clear kk zz s130 Ydn
  refine vt (.bool u8) (ex_ld rfl (ev s131 rfl) (ldBool (HU.out x6 hx6 8 _ rfl))) hz (fun Ydp zz kk s132 => ?_)
  replace s2 := ku s2
  replace s3 := ku s3
  replace s4 := ku s4
  replace s5 := ku s5
  replace s9 := ku s9
  replace hz := zz
  clear kk zz s131 Ydo
  refine vt _ (ex_move rfl (ev s132 rfl)) hz (fun Ydq zz kk s133 => ?_)
  replace s2 := ku s2
  replace s3 := ku s3
  replace s4 := ku s4
  replace s5 := ku s5
  replace s9 := ku s9
  replace hz := zz
  clear kk zz s132 Ydp
  refine vl _ (.pointer (some ⟨w.heap.size + 1, 16, none⟩)) (want_g rfl rfl s133) (fun hc => ex_fa rfl (ev s5 rfl) (MBox.faLog _ _)) rfl hz (by decide) (fun Ydr zz kk s134 => ?_)
  replace s2 := ku s2
  replace s3 := ku s3
  replace s4 := ku s4
  replace s5 := ku s5
  replace s9 := ku s9
  replace s133 := ku s133
  replace hz := zz
  clear kk zz Ydq
  refine vl _ (.slice a1 L.length cl) (want_g rfl rfl s133) (fun hc => ex_ld rfl (ev s134 hc) ((HM.out x6 hx6).ldLog)) rfl hz (by decide) (fun Yds zz kk s135 => ?_)
  replace s2 := ku s2
  replace s3 := ku s3
  replace s4 := ku s4
  replace s5 := ku s5
  replace s9 := ku s9
  replace s133 := ku s133
  replace hz := zz
  clear kk zz s134 Ydr
  refine vl _ (.pointer (some ⟨w.heap.size, 1, none⟩)) (want_g rfl rfl s133) (fun hc => ex_fa rfl (ev s4 rfl) (CBox.fa1 _ _)) rfl hz (by decide) (fun Ydt zz kk s136 => ?_)
  replace s2 := ku s2
  replace s3 := ku s3
  replace s4 := ku s4
  replace s5 := ku s5
  replace s9 := ku s9
  replace s133 := ku s133
  replace s135 := ku s135
  replace hz := zz
  clear kk zz Yds
  refine vl _ (.int .i64 r) (want_g rfl rfl s133) (fun hc => ex_ld rfl (ev s136 hc) ((HC.out x6 hx6).ld1)) rfl hz (by decide) (fun Ydu zz kk s137 => ?_)
  replace s2 := ku s2
  replace s3 := ku s3
  replace s4 := ku s4
  replace s5 := ku s5
  replace s9 := ku s9
  replace s133 := ku s133
  replace s135 := ku s135
  replace hz := zz
  clear kk zz s136 Ydt
  refine vcall (true && (u8 == true)) (.int .i64 (lg L r)) (want_g rfl rfl s133) (fun hc => by unfold execOp; simp only [resolve, invoke, Sem.run_bind, List.map_toArray, List.map_cons, List.map_nil, (ev s135 hc), (ev s137 hc)]; rfl) (fun hc => HL.out x6 hx6) rfl hz (by decide) (fun Ydv w2 hb zz kk s138 => ?_)
  have hv2 := hx6.trans (hb.mono hx6.size)
  clear hb
  replace s2 := ku s2
  replace s3 := ku s3
  replace s4 := ku s4
  replace s5 := ku s5
  replace s9 := ku s9
  replace s133 := ku s133
  replace hz := zz
  clear kk zz s135 s137 Ydu
  refine vl _ (.bool (!decide ((lg L r) = 0))) (want_g rfl rfl s133) (fun hc => ex_bin rfl (ev s138 hc) rfl (neqC _ _ _ _ _)) rfl hz (by decide) (fun Ydw zz kk s139 => ?_)
  replace s2 := ku s2
  replace s3 := ku s3
  replace s4 := ku s4
  replace s5 := ku s5
  replace s9 := ku s9
  replace s133 := ku s133
  replace hz := zz
  clear kk zz s138 Ydv
  refine vt (.bool (u8 && (!decide ((lg L r) = 0)))) (ex_and rfl s133 s139 rfl) hz (fun Ydx zz kk s140 => ?_)
  replace s2 := ku s2
  replace s3 := ku s3
  replace s4 := ku s4
  replace s5 := ku s5
  replace s9 := ku s9
  replace hz := zz
  clear kk zz s133 s139 Ydw
  refine wpList_nil ?_
  go_upto_region 14 with fail
  cases e12 : (u8 && (!decide ((lg L r) = 0)))
  rotate_left
  · refine wp_cond_true ((ev s140 rfl).trans (congrArg Value.bool e12)) ?_
    have HV := hide (HB.out _ hv2)
    have V2 := hide (show fiG f r m L D k u0 u1 u2 u3 u4 u5 u6 u7 u8 u9 = false from by unfold fiG; rw [if_neg (Bool.eq_false_iff.1 e2)]; rw [if_neg (Bool.eq_false_iff.1 e4)]; rw [if_neg (Bool.eq_false_iff.1 e6)]; rw [if_neg (Bool.eq_false_iff.1 e8)]; rw [if_neg (Bool.eq_false_iff.1 e10)]; rw [if_pos e12])
    go_wp2
    refine bodyPost_ret (results_tmp rfl _ _ _) rfl ⟨?_, HV.out⟩
    rw [V2.out]
    show Ending.returned ((Array.setIfInBounds _ 8 (Value.bool false)).getD 8 undef) = _
    rw [getD_of (at_set _ (by rw [hz]; decide))]
  refine wp_cond_false ((ev s140 rfl).trans (congrArg Value.bool e12)) ?_
  go_upto_region 14 with fail
  clear s140
  refine wp_region_lit ?_
  refine vt _ (ex_move rfl (ev s3 rfl)) hz (fun Ydy zz kk s141 => ?_)
  replace s2 := ku s2
  replace s3 := ku s3
  replace s4 := ku s4
  replace s5 := ku s5
  replace s9 := ku s9
  replace hz := zz
  clear kk zz
  refine vt (.pointer (some ⟨g, 4, none⟩)) (ex_ix rfl (ev s141 rfl) rfl (ixBool g 4 10 cu (by decide) _)) hz (fun Ydz zz kk s142 => ?_)
  replace s2 := ku s2
  replace s3 := ku s3
  replace s4 := ku s4
  replace s5 := ku s5
  replace s9 := ku s9
  replace hz := zz
  clear kk zz s141 Ydy
  refine vt (.bool u4) (ex_ld rfl (ev s142 rfl) (ldBool (HU.out w2 hv2 4 _ rfl))) hz (fun Yd0 zz kk s143 => ?_)
  replace s2 := ku s2
  replace s3 := ku s3
  replace s4 := ku s4
  replace s5 := ku s5
  replace s9 := ku s9
  replace hz := zz
  clear kk zz s142 Ydz
  refine vt _ (ex_move rfl (ev s143 rfl)) hz (fun Yd1 zz kk s144 => ?_)
  replace s2 := ku s2
  replace s3 := ku s3
  replace s4 := ku s4
  replace s5 := ku s5
  replace s9 := ku s9
  replace hz := zz
  clear kk zz s143 Yd0
  refine vl _ (.pointer (some ⟨w.heap.size + 1, 12, none⟩)) (want_g rfl rfl s144) (fun hc => ex_fa rfl (ev s5 rfl) (MBox.faCommit _ _)) rfl hz (by decide) (fun Yd2 zz kk s145 => ?_)
  replace s2 := ku s2
  replace s3 := ku s3
  replace s4 := ku s4
  replace s5 := ku s5
  replace s9 := ku s9
  replace s144 := ku s144
  replace hz := zz
  clear kk zz Yd1
  refine vl _ (.int .i64 m.cm) (want_g rfl rfl s144) (fun hc => ex_ld rfl (ev s145 hc) ((HM.out w2 hv2).ldCommit)) rfl hz (by decide) (fun Yd3 zz kk s146 => ?_)
  replace s2 := ku s2
  replace s3 := ku s3
  replace s4 := ku s4
  replace s5 := ku s5
  replace s9 := ku s9
  replace s144 := ku s144
  replace hz := zz
  clear kk zz s145 Yd2
  refine vl _ (.bool (decide (m.cm < 0))) (want_g rfl rfl s144) (fun hc => ex_bin rfl (ev s146 hc) rfl (lssC _ _ _ _ _)) rfl hz (by decide) (fun Yd4 zz kk s147 => ?_)
  replace s2 := ku s2
  replace s3 := ku s3
  replace s4 := ku s4
  replace s5 := ku s5
  replace s9 := ku s9
  replace s144 := ku s144
  replace hz := zz
  clear kk zz s146 Yd3
  refine vl _ _ (want_g rfl rfl s144) (fun hc => ex_move rfl (ev s147 hc)) rfl hz (by decide) (fun Yd5 zz kk s148 => ?_)
  replace s2 := ku s2
  replace s3 := ku s3
  replace s4 := ku s4
  replace s5 := ku s5
  replace s9 := ku s9
  replace s144 := ku s144
  replace hz := zz
  clear kk zz s147 Yd4
  refine vl ((true && (u4 == true)) && ((decide (m.cm < 0)) == false)) (.pointer (some ⟨w.heap.size + 1, 12, none⟩)) (want_g rfl rfl s148) (fun hc => ex_fa rfl (ev s5 rfl) (MBox.faCommit _ _)) rfl hz (by decide) (fun Yd6 zz kk s149 => ?_)
  replace s2 := ku s2
  replace s3 := ku s3
  replace s4 := ku s4
  replace s5 := ku s5
  replace s9 := ku s9
  replace s144 := ku s144
  replace s148 := ku s148
  replace hz := zz
  clear kk zz Yd5
  refine vl ((true && (u4 == true)) && ((decide (m.cm < 0)) == false)) (.int .i64 m.cm) (want_g rfl rfl s148) (fun hc => ex_ld rfl (ev s149 hc) ((HM.out w2 hv2).ldCommit)) rfl hz (by decide) (fun Yd7 zz kk s150 => ?_)
  replace s2 := ku s2
  replace s3 := ku s3
  replace s4 := ku s4
  replace s5 := ku s5
  replace s9 := ku s9
  replace s144 := ku s144
  replace s148 := ku s148
  replace hz := zz
  clear kk zz s149 Yd6
  refine vl ((true && (u4 == true)) && ((decide (m.cm < 0)) == false)) (.pointer (some ⟨w.heap.size, 1, none⟩)) (want_g rfl rfl s148) (fun hc => ex_fa rfl (ev s4 rfl) (CBox.fa1 _ _)) rfl hz (by decide) (fun Yd8 zz kk s151 => ?_)
  replace s2 := ku s2
  replace s3 := ku s3
  replace s4 := ku s4
  replace s5 := ku s5
  replace s9 := ku s9
  replace s144 := ku s144
  replace s148 := ku s148
  replace s150 := ku s150
  replace hz := zz
  clear kk zz Yd7
  refine vl ((true && (u4 == true)) && ((decide (m.cm < 0)) == false)) (.int .i64 r) (want_g rfl rfl s148) (fun hc => ex_ld rfl (ev s151 hc) ((HC.out w2 hv2).ld1)) rfl hz (by decide) (fun Yd9 zz kk s152 => ?_)
  replace s2 := ku s2
  replace s3 := ku s3
  replace s4 := ku s4
  replace s5 := ku s5
  replace s9 := ku s9
  replace s144 := ku s144
  replace s148 := ku s148
  replace s150 := ku s150
  replace hz := zz
  clear kk zz s151 Yd8
  refine vl ((true && (u4 == true)) && ((decide (m.cm < 0)) == false)) (.bool (decide (r < m.cm))) (want_g rfl rfl s148) (fun hc => ex_bin rfl (ev s150 hc) (ev s152 hc) (gtrC _ _ _ _ _)) rfl hz (by decide) (fun Yea zz kk s153 => ?_)
  replace s2 := ku s2
  replace s3 := ku s3
  replace s4 := ku s4
  replace s5 := ku s5
  replace s9 := ku s9
  replace s144 := ku s144
  replace s148 := ku s148
  replace hz := zz
  clear kk zz s150 s152 Yd9
  refine vl _ (.bool ((decide (m.cm < 0)) || (decide (r < m.cm)))) (want_g rfl rfl s144) (fun hc => ex_or rfl s148 s153 hc) rfl hz (by decide) (fun Yeb zz kk s154 => ?_)
  replace s2 := ku s2
  replace s3 := ku s3
  replace s4 := ku s4
  replace s5 := ku s5
  replace s9 := ku s9
  replace s144 := ku s144
  replace hz := zz
  clear kk zz s148 s153 Yea
  refine vl _ _ (want_g rfl rfl s144) (fun hc => ex_move rfl (ev s154 hc)) rfl hz (by decide) (fun Yec zz kk s155 => ?_)
  replace s2 := ku s2
  replace s3 := ku s3
  replace s4 := ku s4
  replace s5 := ku s5
  replace s9 := ku s9
  replace s144 := ku s144
  replace hz := zz
  clear kk zz s154 Yeb
  refine vl ((true && (u4 == true)) && (((decide (m.cm < 0)) || (decide (r < m.cm))) == false)) (.slice (some ⟨g, 0, none⟩) 10 cu) (want_g rfl rfl s155) (fun hc => ex_move rfl (ev s3 rfl)) rfl hz (by decide) (fun Yed zz kk s156 => ?_)
  replace s2 := ku s2
  replace s3 := ku s3
  replace s4 := ku s4
  replace s5 := ku s5
  replace s9 := ku s9
  replace s144 := ku s144
  replace s155 := ku s155
  replace hz := zz
  clear kk zz Yec
  refine vl ((true && (u4 == true)) && (((decide (m.cm < 0)) || (decide (r < m.cm))) == false)) (.pointer (some ⟨g, 8, none⟩)) (want_g rfl rfl s155) (fun hc => ex_ix rfl (ev s156 hc) rfl (ixBool g 8 10 cu (by decide) _)) rfl hz (by decide) (fun Yee zz kk s157 => ?_)
  replace s2 := ku s2
  replace s3 := ku s3
  replace s4 := ku s4
  replace s5 := ku s5
  replace s9 := ku s9
  replace s144 := ku s144
  replace s155 := ku s155
  replace hz := zz
  clear kk zz s156 Yed
  refine vl ((true && (u4 == true)) && (((decide (m.cm < 0)) || (decide (r < m.cm))) == false)) (.bool u8) (want_g rfl rfl s155) (fun hc => ex_ld rfl (ev s157 hc) (ldBool (HU.out w2 hv2 8 _ rfl))) rfl hz (by decide) (fun Yef zz kk s158 => ?_)
  replace s2 := ku s2
  replace s3 := ku s3
  replace s4 := ku s4
  replace s5 := ku s5
  replace s9 := ku s9
  replace s144 := ku s144
  replace s155 := ku s155
  replace hz := zz
  clear kk zz s157 Yee
  refine vl ((true && (u4 == true)) && (((decide (m.cm < 0)) || (decide (r < m.cm))) == false)) (.bool u8) (want_g rfl rfl s155) (fun hc => ex_move rfl (ev s158 hc)) rfl hz (by decide) (fun Yeg zz kk s159 => ?_)
  replace s2 := ku s2
  replace s3 := ku s3
  replace s4 := ku s4
  replace s5 := ku s5
  replace s9 := ku s9
  replace s144 := ku s144
  replace s155 := ku s155
  replace hz := zz
  clear kk zz s158 Yef
  refine vl (((true && (u4 == true)) && (((decide (m.cm < 0)) || (decide (r < m.cm))) == false)) && (u8 == true)) (.pointer (some ⟨w.heap.size + 1, 12, none⟩)) (want_g rfl rfl s159) (fun hc => ex_fa rfl (ev s5 rfl) (MBox.faCommit _ _)) rfl hz (by decide) (fun Yeh zz kk s160 => ?_)
  replace s2 := ku s2
  replace s3 := ku s3
  replace s4 := ku s4
  replace s5 := ku s5
  replace s9 := ku s9
  replace s144 := ku s144
  replace s155 := ku s155
  replace s159 := ku s159
  replace hz := zz
  clear kk zz Yeg
  refine vl (((true && (u4 == true)) && (((decide (m.cm < 0)) || (decide (r < m.cm))) == false)) && (u8 == true)) (.int .i64 m.cm) (want_g rfl rfl s159) (fun hc => ex_ld rfl (ev s160 hc) ((HM.out w2 hv2).ldCommit)) rfl hz (by decide) (fun Yei zz kk s161 => ?_)
  replace s2 := ku s2
  replace s3 := ku s3
  replace s4 := ku s4
  replace s5 := ku s5
  replace s9 := ku s9
  replace s144 := ku s144
  replace s155 := ku s155
  replace s159 := ku s159
  replace hz := zz
  clear kk zz s160 Yeh
  refine vl (((true && (u4 == true)) && (((decide (m.cm < 0)) || (decide (r < m.cm))) == false)) && (u8 == true)) (.pointer (some ⟨w.heap.size + 1, 16, none⟩)) (want_g rfl rfl s159) (fun hc => ex_fa rfl (ev s5 rfl) (MBox.faLog _ _)) rfl hz (by decide) (fun Yej zz kk s162 => ?_)
  replace s2 := ku s2
  replace s3 := ku s3
  replace s4 := ku s4
  replace s5 := ku s5
  replace s9 := ku s9
  replace s144 := ku s144
  replace s155 := ku s155
  replace s159 := ku s159
  replace s161 := ku s161
  replace hz := zz
  clear kk zz Yei
  refine vl (((true && (u4 == true)) && (((decide (m.cm < 0)) || (decide (r < m.cm))) == false)) && (u8 == true)) (.slice a1 L.length cl) (want_g rfl rfl s159) (fun hc => ex_ld rfl (ev s162 hc) ((HM.out w2 hv2).ldLog)) rfl hz (by decide) (fun Yek zz kk s163 => ?_)
  replace s2 := ku s2
  replace s3 := ku s3
  replace s4 := ku s4
  replace s5 := ku s5
  replace s9 := ku s9
  replace s144 := ku s144
  replace s155 := ku s155
  replace s159 := ku s159
  replace s161 := ku s161
  replace hz := zz
  clear kk zz s162 Yej
  refine vl (((true && (u4 == true)) && (((decide (m.cm < 0)) || (decide (r < m.cm))) == false)) && (u8 == true)) (.int .i64 ((L.length : Nat) : Int)) (want_g rfl rfl s159) (fun hc => ex_lenE rfl rfl (ev s163 hc)) rfl hz (by decide) (fun Yel zz kk s164 => ?_)
  replace s2 := ku s2
  replace s3 := ku s3
  replace s4 := ku s4
  replace s5 := ku s5
  replace s9 := ku s9
  replace s144 := ku s144
  replace s155 := ku s155
  replace s159 := ku s159
  replace s161 := ku s161
  replace hz := zz
  clear kk zz s163 Yek
  refine vl (((true && (u4 == true)) && (((decide (m.cm < 0)) || (decide (r < m.cm))) == false)) && (u8 == true)) (.bool (decide (((L.length : Nat) : Int) < m.cm))) (want_g rfl rfl s159) (fun hc => ex_bin rfl (ev s161 hc) (ev s164 hc) (gtrC _ _ _ _ _)) rfl hz (by decide) (fun Yem zz kk s165 => ?_)
  replace s2 := ku s2
  replace s3 := ku s3
  replace s4 := ku s4
  replace s5 := ku s5
  replace s9 := ku s9
  replace s144 := ku s144
  replace s155 := ku s155
  replace s159 := ku s159
  replace hz := zz
  clear kk zz s161 s164 Yel
  refine vl ((true && (u4 == true)) && (((decide (m.cm < 0)) || (decide (r < m.cm))) == false)) (.bool (u8 && (decide (((L.length : Nat) : Int) < m.cm)))) (want_g rfl rfl s155) (fun hc => ex_and rfl s159 s165 hc) rfl hz (by decide) (fun Yen zz kk s166 => ?_)
  replace s2 := ku s2
  replace s3 := ku s3
  replace s4 := ku s4
  replace s5 := ku s5
  replace s9 := ku s9
  replace s144 := ku s144
  replace s155 := ku s155
  replace hz := zz
  clear kk zz s159 s165 Yem
  refine vl _ (.bool (((decide (m.cm < 0)) || (decide (r < m.cm))) || (u8 && (decide (((L.length : Nat) : Int) < m.cm))))) (want_g rfl rfl s144) (fun hc => ex_or rfl s155 s166 hc) rfl hz (by decide) (fun Yeo zz kk s167 => ?_)
  replace s2 := ku s2
  replace s3 := ku s3
  replace s4 := ku s4
  replace s5 := ku s5
  replace s9 := ku s9
  replace s144 := ku s144
  replace hz := zz
  clear kk zz s155 s166 Yen
  refine vt (.bool (u4 && (((decide (m.cm < 0)) || (decide (r < m.cm))) || (u8 && (decide (((L.length : Nat) : Int) < m.cm)))))) (ex_and rfl s144 s167 rfl) hz (fun Yep zz kk s168 => ?_)
  replace s2 := ku s2
  replace s3 := ku s3
  replace s4 := ku s4
  replace s5 := ku s5
  replace s9 := ku s9
  replace hz := zz
  clear kk zz s144 s167 Yeo
  refine wpList_nil ?_
  go_upto_region 16 with fail
  cases e14 : (u4 && (((decide (m.cm < 0)) || (decide (r < m.cm))) || (u8 && (decide (((L.length : Nat) : Int) < m.cm)))))
  rotate_left
  · refine wp_cond_true ((ev s168 rfl).trans (congrArg Value.bool e14)) ?_
    have HV := hide (HB.out _ hv2)
    have V2 := hide (show fiG f r m L D k u0 u1 u2 u3 u4 u5 u6 u7 u8 u9 = false from by unfold fiG; rw [if_neg (Bool.eq_false_iff.1 e2)]; rw [if_neg (Bool.eq_false_iff.1 e4)]; rw [if_neg (Bool.eq_false_iff.1 e6)]; rw [if_neg (Bool.eq_false_iff.1 e8)]; rw [if_neg (Bool.eq_false_iff.1 e10)]; rw [if_neg (Bool.eq_false_iff.1 e12)]; rw [if_pos e14])
    go_wp2
    refine bodyPost_ret (results_tmp rfl _ _ _) rfl ⟨?_, HV.out⟩
    rw [V2.out]
    show Ending.returned ((Array.setIfInBounds _ 8 (Value.bool false)).getD 8 undef) = _
    rw [getD_of (at_set _ (by rw [hz]; decide))]
  refine wp_cond_false ((ev s168 rfl).trans (congrArg Value.bool e14)) ?_
  go_upto_region 16 with fail
  clear s168
  refine vq_start (C := fun v => Below w1.heap.size w1 v) (by kernel_rfl) (by kernel_rfl) (belN hv2 1) ?_
  refine vq true _ (want_none rfl) (fun hc v hv => ex_move rfl (ev s2 rfl)) rfl hz (by decide) (fun Yeq zz kk s169 => ?_)
  replace s2 := ku s2
  replace s3 := ku s3
  replace s4 := ku s4
  replace s5 := ku s5
  replace s9 := ku s9
  replace hz := zz
  clear kk zz
  refine vq true (.bool (decide (k = 10))) (want_none rfl) (fun hc v hv => ex_bin rfl (ev s169 rfl) rfl (eqlC _ _ _ _ _)) rfl hz (by decide) (fun Yer zz kk s170 => ?_)
  replace s2 := ku s2
  replace s3 := ku s3
  replace s4 := ku s4
  replace s5 := ku s5
  replace s9 := ku s9
  replace hz := zz
  clear kk zz s169 Yeq
  refine vq true _ (want_none rfl) (fun hc v hv => ex_move rfl (ev s170 rfl)) rfl hz (by decide) (fun Yes zz kk s171 => ?_)
  replace s2 := ku s2
  replace s3 := ku s3
  replace s4 := ku s4
  replace s5 := ku s5
  replace s9 := ku s9
  replace hz := zz
  clear kk zz s170 Yer
  refine vq _ (.pointer (some ⟨w.heap.size + 1, 16, none⟩)) (want_g rfl rfl s171) (fun hc v hv => ex_fa rfl (ev s5 rfl) (MBox.faLog _ _)) rfl hz (by decide) (fun Yet zz kk s172 => ?_)
  replace s2 := ku s2
  replace s3 := ku s3
  replace s4 := ku s4
  replace s5 := ku s5
  replace s9 := ku s9
  replace s171 := ku s171
  replace hz := zz
  clear kk zz Yes
  refine vq _ (.slice a1 L.length cl) (want_g rfl rfl s171) (fun hc v hv => ex_ld rfl (ev s172 hc) ((HM.out v hv).ldLog)) rfl hz (by decide) (fun Yeu zz kk s173 => ?_)
  replace s2 := ku s2
  replace s3 := ku s3
  replace s4 := ku s4
  replace s5 := ku s5
  replace s9 := ku s9
  replace s171 := ku s171
  replace hz := zz
  clear kk zz s172 Yet
  refine vq _ (.int .i64 ((L.length : Nat) : Int)) (want_g rfl rfl s171) (fun hc v hv => ex_lenE rfl rfl (ev s173 hc)) rfl hz (by decide) (fun Yev zz kk s174 => ?_)
  replace s2 := ku s2
  replace s3 := ku s3
  replace s4 := ku s4
  replace s5 := ku s5
  replace s9 := ku s9
  replace s171 := ku s171
  replace hz := zz
  clear kk zz s173 Yeu
  refine vq _ (.bool (decide (0 < ((L.length : Nat) : Int)))) (want_g rfl rfl s171) (fun hc v hv => ex_bin rfl (ev s174 hc) rfl (gtrC _ _ _ _ _)) rfl hz (by decide) (fun Yew zz kk s175 => ?_)
  replace s2 := ku s2
  replace s3 := ku s3
  replace s4 := ku s4
  replace s5 := ku s5
  replace s9 := ku s9
  replace s171 := ku s171
  replace hz := zz
  clear kk zz s174 Yev
  refine vq true (.bool ((decide (k = 10)) && (decide (0 < ((L.length : Nat) : Int))))) (want_none rfl) (fun hc v hv => ex_and rfl s171 s175 rfl) rfl hz (by decide) (fun Yex zz kk s176 => ?_)
  replace s2 := ku s2
  replace s3 := ku s3
  replace s4 := ku s4
  replace s5 := ku s5
  replace s9 := ku s9
  replace hz := zz
  clear kk zz s171 s175 Yew
  refine vq true _ (want_none rfl) (fun hc v hv => ex_move rfl (ev s176 rfl)) rfl hz (by decide) (fun Yey zz kk s177 => ?_)
  replace s2 := ku s2
  replace s3 := ku s3
  replace s4 := ku s4
  replace s5 := ku s5
  replace s9 := ku s9
  replace hz := zz
  clear kk zz s176 Yex
  refine vq _ (.pointer (some ⟨w.heap.size + 1, 1, none⟩)) (want_g rfl rfl s177) (fun hc v hv => ex_fa rfl (ev s5 rfl) (MBox.faNode _ _)) rfl hz (by decide) (fun Yez zz kk s178 => ?_)
  replace s2 := ku s2
  replace s3 := ku s3
  replace s4 := ku s4
  replace s5 := ku s5
  replace s9 := ku s9
  replace s177 := ku s177
  replace hz := zz
  clear kk zz Yey
  refine vq _ (.int .i64 m.nd) (want_g rfl rfl s177) (fun hc v hv => ex_ld rfl (ev s178 hc) ((HM.out v hv).ldNode)) rfl hz (by decide) (fun Ye0 zz kk s179 => ?_)
  replace s2 := ku s2
  replace s3 := ku s3
  replace s4 := ku s4
  replace s5 := ku s5
  replace s9 := ku s9
  replace s177 := ku s177
  replace hz := zz
  clear kk zz s178 Yez
  refine vq _ (.pointer (some ⟨w.heap.size + 1, 2, none⟩)) (want_g rfl rfl s177) (fun hc v hv => ex_fa rfl (ev s5 rfl) (MBox.faView _ _)) rfl hz (by decide) (fun Ye1 zz kk s180 => ?_)
  replace s2 := ku s2
  replace s3 := ku s3
  replace s4 := ku s4
  replace s5 := ku s5
  replace s9 := ku s9
  replace s177 := ku s177
  replace s179 := ku s179
  replace hz := zz
  clear kk zz Ye0
  refine vq _ (.int .i64 m.vw) (want_g rfl rfl s177) (fun hc v hv => ex_ld rfl (ev s180 hc) ((HM.out v hv).ldView)) rfl hz (by decide) (fun Ye2 zz kk s181 => ?_)
  replace s2 := ku s2
  replace s3 := ku s3
  replace s4 := ku s4
  replace s5 := ku s5
  replace s9 := ku s9
  replace s177 := ku s177
  replace s179 := ku s179
  replace hz := zz
  clear kk zz s180 Ye1
  refine vq _ _ (want_g rfl rfl s177) (fun hc v hv => ex_move rfl (ev s9 rfl)) rfl hz (by decide) (fun Ye3 zz kk s182 => ?_)
  replace s2 := ku s2
  replace s3 := ku s3
  replace s4 := ku s4
  replace s5 := ku s5
  replace s9 := ku s9
  replace s177 := ku s177
  replace s179 := ku s179
  replace s181 := ku s181
  replace hz := zz
  clear kk zz Ye2
  refine vq _ (.int .i64 ((m.vw).tmod ((2 * f + 1)))) (want_g rfl rfl s177) (fun hc v hv => ex_bin rfl (ev s181 hc) (ev s182 hc) (remC HN.out _ _ _ _)) rfl hz (by decide) (fun Ye4 zz kk s183 => ?_)
  replace s2 := ku s2
  replace s3 := ku s3
  replace s4 := ku s4
  replace s5 := ku s5
  replace s9 := ku s9
  replace s177 := ku s177
  replace s179 := ku s179
  replace hz := zz
  clear kk zz s181 s182 Ye3
  refine vq _ (.bool (!decide (m.nd = ((m.vw).tmod ((2 * f + 1)))))) (want_g rfl rfl s177) (fun hc v hv => ex_bin rfl (ev s179 hc) (ev s183 hc) (neqC _ _ _ _ _)) rfl hz (by decide) (fun Ye5 zz kk s184 => ?_)
  replace s2 := ku s2
  replace s3 := ku s3
  replace s4 := ku s4
  replace s5 := ku s5
  replace s9 := ku s9
  replace s177 := ku s177
  replace hz := zz
  clear kk zz s179 s183 Ye4
  refine vq true (.bool (((decide (k = 10)) && (decide (0 < ((L.length : Nat) : Int)))) && (!decide (m.nd = ((m.vw).tmod ((2 * f + 1))))))) (want_none rfl) (fun hc v hv => ex_and rfl s177 s184 rfl) rfl hz (by decide) (fun Ye6 zz kk s185 => ?_)
  replace s2 := ku s2
  replace s3 := ku s3
  replace s4 := ku s4
  replace s5 := ku s5
  replace s9 := ku s9
  replace hz := zz
  clear kk zz s177 s184 Ye5
  refine vq_nil (fun x16 hx16 => ?_)
  go_upto_region 18 with fail
  cases e16 : (((decide (k = 10)) && (decide (0 < ((L.length : Nat) : Int)))) && (!decide (m.nd = ((m.vw).tmod ((2 * f + 1))))))
  rotate_left
  · refine wp_cond_true ((ev s185 rfl).trans (congrArg Value.bool e16)) ?_
    have HV := hide (HB.out _ hx16)
    have V2 := hide (show fiG f r m L D k u0 u1 u2 u3 u4 u5 u6 u7 u8 u9 = false from by unfold fiG; rw [if_neg (Bool.eq_false_iff.1 e2)]; rw [if_neg (Bool.eq_false_iff.1 e4)]; rw [if_neg (Bool.eq_false_iff.1 e6)]; rw [if_neg (Bool.eq_false_iff.1 e8)]; rw [if_neg (Bool.eq_false_iff.1 e10)]; rw [if_neg (Bool.eq_false_iff.1 e12)]; rw [if_neg (Bool.eq_false_iff.1 e14)]; rw [if_pos e16])
    go_wp2
    refine bodyPost_ret (results_tmp rfl _ _ _) rfl ⟨?_, HV.out⟩
    rw [V2.out]
    show Ending.returned ((Array.setIfInBounds _ 8 (Value.bool false)).getD 8 undef) = _
    rw [getD_of (at_set _ (by rw [hz]; decide))]
  refine wp_cond_false ((ev s185 rfl).trans (congrArg Value.bool e16)) ?_
  go_upto_region 18 with fail
  clear s185
  refine wp_region_lit ?_
  refine vt _ (ex_move rfl (ev s3 rfl)) hz (fun Ye7 zz kk s186 => ?_)
  replace s2 := ku s2
  replace s3 := ku s3
  replace s4 := ku s4
  replace s5 := ku s5
  replace s9 := ku s9
  replace hz := zz
  clear kk zz
  refine vt (.pointer (some ⟨g, 9, none⟩)) (ex_ix rfl (ev s186 rfl) rfl (ixBool g 9 10 cu (by decide) _)) hz (fun Ye8 zz kk s187 => ?_)
  replace s2 := ku s2
  replace s3 := ku s3
  replace s4 := ku s4
  replace s5 := ku s5
  replace s9 := ku s9
  replace hz := zz
  clear kk zz s186 Ye7
  refine vt (.bool u9) (ex_ld rfl (ev s187 rfl) (ldBool (HU.out x16 hx16 9 _ rfl))) hz (fun Ye9 zz kk s188 => ?_)
  replace s2 := ku s2
  replace s3 := ku s3
  replace s4 := ku s4
  replace s5 := ku s5
  replace s9 := ku s9
  replace hz := zz
  clear kk zz s187 Ye8
  refine vt _ (ex_move rfl (ev s188 rfl)) hz (fun Yfa zz kk s189 => ?_)
  replace s2 := ku s2
  replace s3 := ku s3
  replace s4 := ku s4
  replace s5 := ku s5
  replace s9 := ku s9
  replace hz := zz
  clear kk zz s188 Ye9
  refine vl _ (.pointer (some ⟨w.heap.size + 1, 17, none⟩)) (want_g rfl rfl s189) (fun hc => ex_fa rfl (ev s5 rfl) (MBox.faVector _ _)) rfl hz (by decide) (fun Yfb zz kk s190 => ?_)
  replace s2 := ku s2
  replace s3 := ku s3
  replace s4 := ku s4
  replace s5 := ku s5
  replace s9 := ku s9
  replace s189 := ku s189
  replace hz := zz
  clear kk zz Yfa
  refine vl _ (.slice a2 D.length cv) (want_g rfl rfl s189) (fun hc => ex_ld rfl (ev s190 hc) ((HM.out x16 hx16).ldVector)) rfl hz (by decide) (fun Yfc zz kk s191 => ?_)
  replace s2 := ku s2
  replace s3 := ku s3
  replace s4 := ku s4
  replace s5 := ku s5
  replace s9 := ku s9
  replace s189 := ku s189
  replace hz := zz
  clear kk zz s190 Yfb
  refine vl _ (.int .i64 ((D.length : Nat) : Int)) (want_g rfl rfl s189) (fun hc => ex_lenV rfl rfl (ev s191 hc)) rfl hz (by decide) (fun Yfd zz kk s192 => ?_)
  replace s2 := ku s2
  replace s3 := ku s3
  replace s4 := ku s4
  replace s5 := ku s5
  replace s9 := ku s9
  replace s189 := ku s189
  replace hz := zz
  clear kk zz s191 Yfc
  refine vl _ _ (want_g rfl rfl s189) (fun hc => ex_move rfl (ev s9 rfl)) rfl hz (by decide) (fun Yfe zz kk s193 => ?_)
  replace s2 := ku s2
  replace s3 := ku s3
  replace s4 := ku s4
  replace s5 := ku s5
  replace s9 := ku s9
  replace s189 := ku s189
  replace s192 := ku s192
  replace hz := zz
  clear kk zz Yfd
  refine vl _ (.bool (!decide (((D.length : Nat) : Int) = (2 * f + 1)))) (want_g rfl rfl s189) (fun hc => ex_bin rfl (ev s192 hc) (ev s193 hc) (neqC _ _ _ _ _)) rfl hz (by decide) (fun Yff zz kk s194 => ?_)
  replace s2 := ku s2
  replace s3 := ku s3
  replace s4 := ku s4
  replace s5 := ku s5
  replace s9 := ku s9
  replace s189 := ku s189
  replace hz := zz
  clear kk zz s192 s193 Yfe
  refine vt (.bool (u9 && (!decide (((D.length : Nat) : Int) = (2 * f + 1))))) (ex_and rfl s189 s194 rfl) hz (fun Yfg zz kk s195 => ?_)
  replace s2 := ku s2
  replace s3 := ku s3
  replace s4 := ku s4
  replace s5 := ku s5
  replace s9 := ku s9
  replace hz := zz
  clear kk zz s189 s194 Yff
  refine wpList_nil ?_
  go_upto_region 20 with fail
  cases e18 : (u9 && (!decide (((D.length : Nat) : Int) = (2 * f + 1))))
  rotate_left
  · refine wp_cond_true ((ev s195 rfl).trans (congrArg Value.bool e18)) ?_
    have HV := hide (HB.out _ hx16)
    have V2 := hide (show fiG f r m L D k u0 u1 u2 u3 u4 u5 u6 u7 u8 u9 = false from by unfold fiG; rw [if_neg (Bool.eq_false_iff.1 e2)]; rw [if_neg (Bool.eq_false_iff.1 e4)]; rw [if_neg (Bool.eq_false_iff.1 e6)]; rw [if_neg (Bool.eq_false_iff.1 e8)]; rw [if_neg (Bool.eq_false_iff.1 e10)]; rw [if_neg (Bool.eq_false_iff.1 e12)]; rw [if_neg (Bool.eq_false_iff.1 e14)]; rw [if_neg (Bool.eq_false_iff.1 e16)]; rw [if_pos e18])
    go_wp2
    refine bodyPost_ret (results_tmp rfl _ _ _) rfl ⟨?_, HV.out⟩
    rw [V2.out]
    show Ending.returned ((Array.setIfInBounds _ 8 (Value.bool false)).getD 8 undef) = _
    rw [getD_of (at_set _ (by rw [hz]; decide))]
  refine wp_cond_false ((ev s195 rfl).trans (congrArg Value.bool e18)) ?_
  have HX : ∃ q2 o2, Hid (k = 9 → ∀ v, Below w1.heap.size w1 v → (Instr.indexAt 36 (.slice a2 D.length cv) (.int .i64 m.nd)).run Tryz.prog v = .ok (.pointer (some ⟨q2, o2 + m.nd.toNat * 2, none⟩)) v ∧ (Instr.loadAt 33 (.pointer (some ⟨q2, o2 + m.nd.toNat * 2, none⟩))).run Tryz.prog v = .ok (.agg #[.int .u64 (D.getD m.nd.toNat (0, 0)).1, .int .u64 (D.getD m.nd.toNat (0, 0)).2]) v) := by
    have z0 : Hid (k = 9 → 0 ≤ m.nd ∧ m.nd < (D.length : Int)) := fun hk => by
      obtain ⟨rfl, rfl⟩ := H9.out hk
      clear HM HC HU HL HE HR HB
      simp only [Bool.true_and, Bool.or_eq_false_iff, decide_eq_false_iff_not, Bool.not_eq_false', decide_eq_true_eq] at e2 e18
      omega
    exact HXm.out z0.out
  obtain ⟨q2, o2, HX⟩ := HX
  go_upto_region 20 with fail
  clear s195
  refine vq_start (C := fun v => Below w1.heap.size w1 v) (by kernel_rfl) (by kernel_rfl) (belN hx16 1) ?_
  refine vq true _ (want_none rfl) (fun hc v hv => ex_move rfl (ev s3 rfl)) rfl hz (by decide) (fun Yfh zz kk s196 => ?_)
  replace s2 := ku s2
  replace s3 := ku s3
  replace s4 := ku s4
  replace s5 := ku s5
  replace s9 := ku s9
  replace hz := zz
  clear kk zz
  refine vq true (.pointer (some ⟨g, 5, none⟩)) (want_none rfl) (fun hc v hv => ex_ix rfl (ev s196 rfl) rfl (ixBool g 5 10 cu (by decide) _)) rfl hz (by decide) (fun Yfi zz kk s197 => ?_)
  replace s2 := ku s2
  replace s3 := ku s3
  replace s4 := ku s4
  replace s5 := ku s5
  replace s9 := ku s9
  replace hz := zz
  clear kk zz s196 Yfh
  refine vq true (.bool u5) (want_none rfl) (fun hc v hv => ex_ld rfl (ev s197 rfl) (ldBool (HU.out v hv 5 _ rfl))) rfl hz (by decide) (fun Yfj zz kk s198 => ?_)
  replace s2 := ku s2
  replace s3 := ku s3
  replace s4 := ku s4
  replace s5 := ku s5
  replace s9 := ku s9
  replace hz := zz
  clear kk zz s197 Yfi
  refine vq true _ (want_none rfl) (fun hc v hv => ex_move rfl (ev s198 rfl)) rfl hz (by decide) (fun Yfk zz kk s199 => ?_)
  replace s2 := ku s2
  replace s3 := ku s3
  replace s4 := ku s4
  replace s5 := ku s5
  replace s9 := ku s9
  replace hz := zz
  clear kk zz s198 Yfj
  refine vq _ (.pointer (some ⟨w.heap.size + 1, 14, none⟩)) (want_g rfl rfl s199) (fun hc v hv => ex_fa rfl (ev s5 rfl) (MBox.faDraw _ _)) rfl hz (by decide) (fun Yfl zz kk s200 => ?_)
  replace s2 := ku s2
  replace s3 := ku s3
  replace s4 := ku s4
  replace s5 := ku s5
  replace s9 := ku s9
  replace s199 := ku s199
  replace hz := zz
  clear kk zz Yfk
  refine vq _ (.agg #[.int .u64 m.d.1, .int .u64 m.d.2]) (want_g rfl rfl s199) (fun hc v hv => ex_ld rfl (ev s200 hc) ((HM.out v hv).ldDraw)) rfl hz (by decide) (fun Yfm zz kk s201 => ?_)
  replace s2 := ku s2
  replace s3 := ku s3
  replace s4 := ku s4
  replace s5 := ku s5
  replace s9 := ku s9
  replace s199 := ku s199
  replace hz := zz
  clear kk zz s200 Yfl
  refine vq _ (.agg #[.int .u64 0, .int .u64 0]) (want_g rfl rfl s199) (fun hc v hv => ex_build rfl (buildDr _)) rfl hz (by decide) (fun Yfn zz kk s202 => ?_)
  replace s2 := ku s2
  replace s3 := ku s3
  replace s4 := ku s4
  replace s5 := ku s5
  replace s9 := ku s9
  replace s199 := ku s199
  replace s201 := ku s201
  replace hz := zz
  clear kk zz Yfm
  refine vq _ (.bool (decide (m.d = (0, 0)))) (want_g rfl rfl s199) (fun hc v hv => ex_bin rfl (ev s201 hc) (ev s202 hc) (eqlDr _ _ m.d (0, 0) _)) rfl hz (by decide) (fun Yfo zz kk s203 => ?_)
  replace s2 := ku s2
  replace s3 := ku s3
  replace s4 := ku s4
  replace s5 := ku s5
  replace s9 := ku s9
  replace s199 := ku s199
  replace hz := zz
  clear kk zz s201 s202 Yfn
  refine vq true (.bool (u5 && (decide (m.d = (0, 0))))) (want_none rfl) (fun hc v hv => ex_and rfl s199 s203 rfl) rfl hz (by decide) (fun Yfp zz kk s204 => ?_)
  replace s2 := ku s2
  replace s3 := ku s3
  replace s4 := ku s4
  replace s5 := ku s5
  replace s9 := ku s9
  replace hz := zz
  clear kk zz s199 s203 Yfo
  refine vq true _ (want_none rfl) (fun hc v hv => ex_move rfl (ev s204 rfl)) rfl hz (by decide) (fun Yfq zz kk s205 => ?_)
  replace s2 := ku s2
  replace s3 := ku s3
  replace s4 := ku s4
  replace s5 := ku s5
  replace s9 := ku s9
  replace hz := zz
  clear kk zz s204 Yfp
  refine vq _ _ (want_g rfl rfl s205) (fun hc v hv => ex_move rfl (ev s2 rfl)) rfl hz (by decide) (fun Yfr zz kk s206 => ?_)
  replace s2 := ku s2
  replace s3 := ku s3
  replace s4 := ku s4
  replace s5 := ku s5
  replace s9 := ku s9
  replace s205 := ku s205
  replace hz := zz
  clear kk zz Yfq
  refine vq _ (.bool (decide (k = 9))) (want_g rfl rfl s205) (fun hc v hv => ex_bin rfl (ev s206 hc) rfl (eqlC _ _ _ _ _)) rfl hz (by decide) (fun Yfs zz kk s207 => ?_)
  replace s2 := ku s2
  replace s3 := ku s3
  replace s4 := ku s4
  replace s5 := ku s5
  replace s9 := ku s9
  replace s205 := ku s205
  replace hz := zz
  clear kk zz s206 Yfr
  refine vq _ _ (want_g rfl rfl s205) (fun hc v hv => ex_move rfl (ev s207 hc)) rfl hz (by decide) (fun Yft zz kk s208 => ?_)
  replace s2 := ku s2
  replace s3 := ku s3
  replace s4 := ku s4
  replace s5 := ku s5
  replace s9 := ku s9
  replace s205 := ku s205
  replace hz := zz
  clear kk zz s207 Yfs
  refine vq ((true && ((u5 && (decide (m.d = (0, 0)))) == false)) && ((decide (k = 9)) == true)) (.pointer (some ⟨w.heap.size + 1, 14, none⟩)) (want_g rfl rfl s208) (fun hc v hv => ex_fa rfl (ev s5 rfl) (MBox.faDraw _ _)) rfl hz (by decide) (fun Yfu zz kk s209 => ?_)
  replace s2 := ku s2
  replace s3 := ku s3
  replace s4 := ku s4
  replace s5 := ku s5
  replace s9 := ku s9
  replace s205 := ku s205
  replace s208 := ku s208
  replace hz := zz
  clear kk zz Yft
  refine vq ((true && ((u5 && (decide (m.d = (0, 0)))) == false)) && ((decide (k = 9)) == true)) (.agg #[.int .u64 m.d.1, .int .u64 m.d.2]) (want_g rfl rfl s208) (fun hc v hv => ex_ld rfl (ev s209 hc) ((HM.out v hv).ldDraw)) rfl hz (by decide) (fun Yfv zz kk s210 => ?_)
  replace s2 := ku s2
  replace s3 := ku s3
  replace s4 := ku s4
  replace s5 := ku s5
  replace s9 := ku s9
  replace s205 := ku s205
  replace s208 := ku s208
  replace hz := zz
  clear kk zz s209 Yfu
  refine vq ((true && ((u5 && (decide (m.d = (0, 0)))) == false)) && ((decide (k = 9)) == true)) (.pointer (some ⟨w.heap.size + 1, 17, none⟩)) (want_g rfl rfl s208) (fun hc v hv => ex_fa rfl (ev s5 rfl) (MBox.faVector _ _)) rfl hz (by decide) (fun Yfw zz kk s211 => ?_)
  replace s2 := ku s2
  replace s3 := ku s3
  replace s4 := ku s4
  replace s5 := ku s5
  replace s9 := ku s9
  replace s205 := ku s205
  replace s208 := ku s208
  replace s210 := ku s210
  replace hz := zz
  clear kk zz Yfv
  refine vq ((true && ((u5 && (decide (m.d = (0, 0)))) == false)) && ((decide (k = 9)) == true)) (.slice a2 D.length cv) (want_g rfl rfl s208) (fun hc v hv => ex_ld rfl (ev s211 hc) ((HM.out v hv).ldVector)) rfl hz (by decide) (fun Yfx zz kk s212 => ?_)
  replace s2 := ku s2
  replace s3 := ku s3
  replace s4 := ku s4
  replace s5 := ku s5
  replace s9 := ku s9
  replace s205 := ku s205
  replace s208 := ku s208
  replace s210 := ku s210
  replace hz := zz
  clear kk zz s211 Yfw
  refine vq ((true && ((u5 && (decide (m.d = (0, 0)))) == false)) && ((decide (k = 9)) == true)) (.pointer (some ⟨w.heap.size + 1, 1, none⟩)) (want_g rfl rfl s208) (fun hc v hv => ex_fa rfl (ev s5 rfl) (MBox.faNode _ _)) rfl hz (by decide) (fun Yfy zz kk s213 => ?_)
  replace s2 := ku s2
  replace s3 := ku s3
  replace s4 := ku s4
  replace s5 := ku s5
  replace s9 := ku s9
  replace s205 := ku s205
  replace s208 := ku s208
  replace s210 := ku s210
  replace s212 := ku s212
  replace hz := zz
  clear kk zz Yfx
  refine vq ((true && ((u5 && (decide (m.d = (0, 0)))) == false)) && ((decide (k = 9)) == true)) (.int .i64 m.nd) (want_g rfl rfl s208) (fun hc v hv => ex_ld rfl (ev s213 hc) ((HM.out v hv).ldNode)) rfl hz (by decide) (fun Yfz zz kk s214 => ?_)
  replace s2 := ku s2
  replace s3 := ku s3
  replace s4 := ku s4
  replace s5 := ku s5
  replace s9 := ku s9
  replace s205 := ku s205
  replace s208 := ku s208
  replace s210 := ku s210
  replace s212 := ku s212
  replace hz := zz
  clear kk zz s213 Yfy
  refine vq ((true && ((u5 && (decide (m.d = (0, 0)))) == false)) && ((decide (k = 9)) == true)) (.pointer (some ⟨q2, o2 + m.nd.toNat * 2, none⟩)) (want_g rfl rfl s208) (fun hc v hv => ex_ix rfl (ev s212 hc) (ev s214 hc) (HX.out (of_decide_eq_true (and_r hc)) v hv).1) rfl hz (by decide) (fun Yf0 zz kk s215 => ?_)
  replace s2 := ku s2
  replace s3 := ku s3
  replace s4 := ku s4
  replace s5 := ku s5
  replace s9 := ku s9
  replace s205 := ku s205
  replace s208 := ku s208
  replace s210 := ku s210
  replace hz := zz
  clear kk zz s212 s214 Yfz
  refine vq ((true && ((u5 && (decide (m.d = (0, 0)))) == false)) && ((decide (k = 9)) == true)) (.agg #[.int .u64 (D.getD m.nd.toNat (0, 0)).1, .int .u64 (D.getD m.nd.toNat (0, 0)).2]) (want_g rfl rfl s208) (fun hc v hv => ex_ld rfl (ev s215 hc) (HX.out (of_decide_eq_true (and_r hc)) v hv).2) rfl hz (by decide) (fun Yf1 zz kk s216 => ?_)
  replace s2 := ku s2
  replace s3 := ku s3
  replace s4 := ku s4
  replace s5 := ku s5
  replace s9 := ku s9
  replace s205 := ku s205
  replace s208 := ku s208
  replace s210 := ku s210
  replace hz := zz
  clear kk zz s215 Yf0
  refine vq ((true && ((u5 && (decide (m.d = (0, 0)))) == false)) && ((decide (k = 9)) == true)) (.bool (!decide (m.d = (D.getD m.nd.toNat (0, 0))))) (want_g rfl rfl s208) (fun hc v hv => ex_bin rfl (ev s210 hc) (ev s216 hc) (neqDr _ _ m.d (D.getD m.nd.toNat (0, 0)) _)) rfl hz (by decide) (fun Yf2 zz kk s217 => ?_)
  replace s2 := ku s2
  replace s3 := ku s3
  replace s4 := ku s4
  replace s5 := ku s5
  replace s9 := ku s9
  replace s205 := ku s205
  replace s208 := ku s208
  replace hz := zz
  clear kk zz s210 s216 Yf1
  refine vq _ (.bool ((decide (k = 9)) && (!decide (m.d = (D.getD m.nd.toNat (0, 0)))))) (want_g rfl rfl s205) (fun hc v hv => ex_and rfl s208 s217 hc) rfl hz (by decide) (fun Yf3 zz kk s218 => ?_)
  replace s2 := ku s2
  replace s3 := ku s3
  replace s4 := ku s4
  replace s5 := ku s5
  replace s9 := ku s9
  replace s205 := ku s205
  replace hz := zz
  clear kk zz s208 s217 Yf2
  refine vq true (.bool ((u5 && (decide (m.d = (0, 0)))) || ((decide (k = 9)) && (!decide (m.d = (D.getD m.nd.toNat (0, 0))))))) (want_none rfl) (fun hc v hv => ex_or rfl s205 s218 rfl) rfl hz (by decide) (fun Yf4 zz kk s219 => ?_)
  replace s2 := ku s2
  replace s3 := ku s3
  replace s4 := ku s4
  replace s5 := ku s5
  replace s9 := ku s9
  replace hz := zz
  clear kk zz s205 s218 Yf3
  refine vq_nil (fun x20 hx20 => ?_)
  go_upto_region 22 with fail
  cases e20 : ((u5 && (decide (m.d = (0, 0)))) || ((decide (k = 9)) && (!decide (m.d = (D.getD m.nd.toNat (0, 0))))))
  rotate_left
  · refine wp_cond_true ((ev s219 rfl).trans (congrArg Value.bool e20)) ?_
    have HV := hide (HB.out _ hx20)
    have V2 := hide (show fiG f r m L D k u0 u1 u2 u3 u4 u5 u6 u7 u8 u9 = false from by unfold fiG; rw [if_neg (Bool.eq_false_iff.1 e2)]; rw [if_neg (Bool.eq_false_iff.1 e4)]; rw [if_neg (Bool.eq_false_iff.1 e6)]; rw [if_neg (Bool.eq_false_iff.1 e8)]; rw [if_neg (Bool.eq_false_iff.1 e10)]; rw [if_neg (Bool.eq_false_iff.1 e12)]; rw [if_neg (Bool.eq_false_iff.1 e14)]; rw [if_neg (Bool.eq_false_iff.1 e16)]; rw [if_neg (Bool.eq_false_iff.1 e18)]; rw [if_pos e20])
    go_wp2
    refine bodyPost_ret (results_tmp rfl _ _ _) rfl ⟨?_, HV.out⟩
    rw [V2.out]
    show Ending.returned ((Array.setIfInBounds _ 8 (Value.bool false)).getD 8 undef) = _
    rw [getD_of (at_set _ (by rw [hz]; decide))]
  refine wp_cond_false ((ev s219 rfl).trans (congrArg Value.bool e20)) ?_
  go_upto_region 22 with fail
  clear s219
  refine wp_region_lit ?_
  refine vt _ (ex_move rfl (ev s2 rfl)) hz (fun Yf5 zz kk s220 => ?_)
  replace s2 := ku s2
  replace s3 := ku s3
  replace s4 := ku s4
  replace s5 := ku s5
  replace s9 := ku s9
  replace hz := zz
  clear kk zz
  refine vt (.bool (decide (k = 14))) (ex_bin rfl (ev s220 rfl) rfl (eqlC _ _ _ _ _)) hz (fun Yf6 zz kk s221 => ?_)
  replace s2 := ku s2
  replace s3 := ku s3
  replace s4 := ku s4
  replace s5 := ku s5
  replace s9 := ku s9
  replace hz := zz
  clear kk zz s220 Yf5
  refine vt _ (ex_move rfl (ev s221 rfl)) hz (fun Yf7 zz kk s222 => ?_)
  replace s2 := ku s2
  replace s3 := ku s3
  replace s4 := ku s4
  replace s5 := ku s5
  replace s9 := ku s9
  replace hz := zz
  clear kk zz s221 Yf6
  refine vl _ (.pointer (some ⟨w.heap.size + 1, 8, none⟩)) (want_g rfl rfl s222) (fun hc => ex_fa rfl (ev s5 rfl) (MBox.faResult _ _)) rfl hz (by decide) (fun Yf8 zz kk s223 => ?_)
  replace s2 := ku s2
  replace s3 := ku s3
  replace s4 := ku s4
  replace s5 := ku s5
  replace s9 := ku s9
  replace s222 := ku s222
  replace hz := zz
  clear kk zz Yf7
  refine vl _ (.pointer (some ⟨w.heap.size + 1, 8, none⟩)) (want_g rfl rfl s222) (fun hc => ex_fa rfl (ev s223 hc) (faCode _ _)) rfl hz (by decide) (fun Yf9 zz kk s224 => ?_)
  replace s2 := ku s2
  replace s3 := ku s3
  replace s4 := ku s4
  replace s5 := ku s5
  replace s9 := ku s9
  replace s222 := ku s222
  replace hz := zz
  clear kk zz s223 Yf8
  refine vl _ (.int .i64 m.r.1) (want_g rfl rfl s222) (fun hc => ex_ld rfl (ev s224 hc) (s_ldCode (HM.out x20 hx20))) rfl hz (by decide) (fun Yga zz kk s225 => ?_)
  replace s2 := ku s2
  replace s3 := ku s3
  replace s4 := ku s4
  replace s5 := ku s5
  replace s9 := ku s9
  replace s222 := ku s222
  replace hz := zz
  clear kk zz s224 Yf9
  refine vl _ (.bool (decide (m.r.1 < 4))) (want_g rfl rfl s222) (fun hc => ex_bin rfl (ev s225 hc) rfl (lssC _ _ _ _ _)) rfl hz (by decide) (fun Ygb zz kk s226 => ?_)
  replace s2 := ku s2
  replace s3 := ku s3
  replace s4 := ku s4
  replace s5 := ku s5
  replace s9 := ku s9
  replace s222 := ku s222
  replace hz := zz
  clear kk zz s225 Yga
  refine vl _ _ (want_g rfl rfl s222) (fun hc => ex_move rfl (ev s226 hc)) rfl hz (by decide) (fun Ygc zz kk s227 => ?_)
  replace s2 := ku s2
  replace s3 := ku s3
  replace s4 := ku s4
  replace s5 := ku s5
  replace s9 := ku s9
  replace s222 := ku s222
  replace hz := zz
  clear kk zz s226 Ygb
  refine vl ((true && ((decide (k = 14)) == true)) && ((decide (m.r.1 < 4)) == false)) (.pointer (some ⟨w.heap.size + 1, 8, none⟩)) (want_g rfl rfl s227) (fun hc => ex_fa rfl (ev s5 rfl) (MBox.faResult _ _)) rfl hz (by decide) (fun Ygd zz kk s228 => ?_)
  replace s2 := ku s2
  replace s3 := ku s3
  replace s4 := ku s4
  replace s5 := ku s5
  replace s9 := ku s9
  replace s222 := ku s222
  replace s227 := ku s227
  replace hz := zz
  clear kk zz Ygc
  refine vl ((true && ((decide (k = 14)) == true)) && ((decide (m.r.1 < 4)) == false)) (.pointer (some ⟨w.heap.size + 1, 8, none⟩)) (want_g rfl rfl s227) (fun hc => ex_fa rfl (ev s228 hc) (faCode _ _)) rfl hz (by decide) (fun Yge zz kk s229 => ?_)
  replace s2 := ku s2
  replace s3 := ku s3
  replace s4 := ku s4
  replace s5 := ku s5
  replace s9 := ku s9
  replace s222 := ku s222
  replace s227 := ku s227
  replace hz := zz
  clear kk zz s228 Ygd
  refine vl ((true && ((decide (k = 14)) == true)) && ((decide (m.r.1 < 4)) == false)) (.int .i64 m.r.1) (want_g rfl rfl s227) (fun hc => ex_ld rfl (ev s229 hc) (s_ldCode (HM.out x20 hx20))) rfl hz (by decide) (fun Ygf zz kk s230 => ?_)
  replace s2 := ku s2
  replace s3 := ku s3
  replace s4 := ku s4
  replace s5 := ku s5
  replace s9 := ku s9
  replace s222 := ku s222
  replace s227 := ku s227
  replace hz := zz
  clear kk zz s229 Yge
  refine vl ((true && ((decide (k = 14)) == true)) && ((decide (m.r.1 < 4)) == false)) (.bool (decide (6 < m.r.1))) (want_g rfl rfl s227) (fun hc => ex_bin rfl (ev s230 hc) rfl (gtrC _ _ _ _ _)) rfl hz (by decide) (fun Ygg zz kk s231 => ?_)
  replace s2 := ku s2
  replace s3 := ku s3
  replace s4 := ku s4
  replace s5 := ku s5
  replace s9 := ku s9
  replace s222 := ku s222
  replace s227 := ku s227
  replace hz := zz
  clear kk zz s230 Ygf
  refine vl _ (.bool ((decide (m.r.1 < 4)) || (decide (6 < m.r.1)))) (want_g rfl rfl s222) (fun hc => ex_or rfl s227 s231 hc) rfl hz (by decide) (fun Ygh zz kk s232 => ?_)
  replace s2 := ku s2
  replace s3 := ku s3
  replace s4 := ku s4
  replace s5 := ku s5
  replace s9 := ku s9
  replace s222 := ku s222
  replace hz := zz
  clear kk zz s227 s231 Ygg
  refine vt (.bool ((decide (k = 14)) && ((decide (m.r.1 < 4)) || (decide (6 < m.r.1))))) (ex_and rfl s222 s232 rfl) hz (fun Ygi zz kk s233 => ?_)
  replace s2 := ku s2
  replace s3 := ku s3
  replace s4 := ku s4
  replace s5 := ku s5
  replace s9 := ku s9
  replace hz := zz
  clear kk zz s222 s232 Ygh
  refine wpList_nil ?_
  go_upto_region 24 with fail
  cases e22 : ((decide (k = 14)) && ((decide (m.r.1 < 4)) || (decide (6 < m.r.1))))
  rotate_left
  · refine wp_cond_true ((ev s233 rfl).trans (congrArg Value.bool e22)) ?_
    have HV := hide (HB.out _ hx20)
    have V2 := hide (show fiG f r m L D k u0 u1 u2 u3 u4 u5 u6 u7 u8 u9 = false from by unfold fiG; rw [if_neg (Bool.eq_false_iff.1 e2)]; rw [if_neg (Bool.eq_false_iff.1 e4)]; rw [if_neg (Bool.eq_false_iff.1 e6)]; rw [if_neg (Bool.eq_false_iff.1 e8)]; rw [if_neg (Bool.eq_false_iff.1 e10)]; rw [if_neg (Bool.eq_false_iff.1 e12)]; rw [if_neg (Bool.eq_false_iff.1 e14)]; rw [if_neg (Bool.eq_false_iff.1 e16)]; rw [if_neg (Bool.eq_false_iff.1 e18)]; rw [if_neg (Bool.eq_false_iff.1 e20)]; rw [if_pos e22])
    go_wp2
    refine bodyPost_ret (results_tmp rfl _ _ _) rfl ⟨?_, HV.out⟩
    rw [V2.out]
    show Ending.returned ((Array.setIfInBounds _ 8 (Value.bool false)).getD 8 undef) = _
    rw [getD_of (at_set _ (by rw [hz]; decide))]
  refine wp_cond_false ((ev s233 rfl).trans (congrArg Value.bool e22)) ?_
  go_upto_region 24 with fail
  clear s233
  refine wp_region_lit ?_
  refine vt _ (ex_move rfl (ev s3 rfl)) hz (fun Ygj zz kk s234 => ?_)
  replace s2 := ku s2
  replace s3 := ku s3
  replace s4 := ku s4
  replace s5 := ku s5
  replace s9 := ku s9
  replace hz := zz
  clear kk zz
  refine vt (.pointer (some ⟨g, 6, none⟩)) (ex_ix rfl (ev s234 rfl) rfl (ixBool g 6 10 cu (by decide) _)) hz (fun Ygk zz kk s235 => ?_)
  replace s2 := ku s2
  replace s3 := ku s3
  replace s4 := ku s4
  replace s5 := ku s5
  replace s9 := ku s9
  replace hz := zz
  clear kk zz s234 Ygj
  refine vt (.bool u6) (ex_ld rfl (ev s235 rfl) (ldBool (HU.out x20 hx20 6 _ rfl))) hz (fun Ygl zz kk s236 => ?_)
  replace s2 := ku s2
  replace s3 := ku s3
  replace s4 := ku s4
  replace s5 := ku s5
  replace s9 := ku s9
  replace hz := zz
  clear kk zz s235 Ygk
  refine vt (.bool (!u6)) (ex_not rfl (ev s236 rfl)) hz (fun Ygm zz kk s237 => ?_)
  replace s2 := ku s2
  replace s3 := ku s3
  replace s4 := ku s4
  replace s5 := ku s5
  replace s9 := ku s9
  replace hz := zz
  clear kk zz s236 Ygl
  refine vt _ (ex_move rfl (ev s237 rfl)) hz (fun Ygn zz kk s238 => ?_)
  replace s2 := ku s2
  replace s3 := ku s3
  replace s4 := ku s4
  replace s5 := ku s5
  replace s9 := ku s9
  replace hz := zz
  clear kk zz s237 Ygm
  refine vl _ _ (want_g rfl rfl s238) (fun hc => ex_move rfl (ev s2 rfl)) rfl hz (by decide) (fun Ygo zz kk s239 => ?_)
  replace s2 := ku s2
  replace s3 := ku s3
  replace s4 := ku s4
  replace s5 := ku s5
  replace s9 := ku s9
  replace s238 := ku s238
  replace hz := zz
  clear kk zz Ygn
  refine vl _ (.pointer (some ⟨w.heap.size + 1, 3, none⟩)) (want_g rfl rfl s238) (fun hc => ex_fa rfl (ev s5 rfl) (MBox.faEntry _ _)) rfl hz (by decide) (fun Ygp zz kk s240 => ?_)
  replace s2 := ku s2
  replace s3 := ku s3
  replace s4 := ku s4
  replace s5 := ku s5
  replace s9 := ku s9
  replace s238 := ku s238
  replace s239 := ku s239
  replace hz := zz
  clear kk zz Ygo
  refine vl _ (.agg #[.int .i64 m.e.c, .int .i64 m.e.n, .int .i64 m.e.o.k, .int .i64 m.e.o.s, .string m.e.o.v]) (want_g rfl rfl s238) (fun hc => ex_ld rfl (ev s240 hc) ((HM.out x20 hx20).ldEntry)) rfl hz (by decide) (fun Ygq zz kk s241 => ?_)
  replace s2 := ku s2
  replace s3 := ku s3
  replace s4 := ku s4
  replace s5 := ku s5
  replace s9 := ku s9
  replace s238 := ku s238
  replace s239 := ku s239
  replace hz := zz
  clear kk zz s240 Ygp
  refine vcall (true && ((!u6) == false)) (.bool (enK k m.e)) (want_g rfl rfl s238) (fun hc => by unfold execOp; simp only [resolve, invoke, Sem.run_bind, List.map_toArray, List.map_cons, List.map_nil, (ev s239 hc), (ev s241 hc)]; rfl) (fun hc => HE.out x20) rfl hz (by decide) (fun Ygr w3 hb zz kk s242 => ?_)
  have hv3 := hx20.trans (hb.mono hx20.size)
  clear hb
  replace s2 := ku s2
  replace s3 := ku s3
  replace s4 := ku s4
  replace s5 := ku s5
  replace s9 := ku s9
  replace s238 := ku s238
  replace hz := zz
  clear kk zz s239 s241 Ygq
  refine vt (.bool ((!u6) || (enK k m.e))) (ex_or rfl s238 s242 rfl) hz (fun Ygs zz kk s243 => ?_)
  replace s2 := ku s2
  replace s3 := ku s3
  replace s4 := ku s4
  replace s5 := ku s5
  replace s9 := ku s9
  replace hz := zz
  clear kk zz s238 s242 Ygr
  refine vt _ (ex_move rfl (ev s243 rfl)) hz (fun Ygt zz kk s244 => ?_)
  replace s2 := ku s2
  replace s3 := ku s3
  replace s4 := ku s4
  replace s5 := ku s5
  replace s9 := ku s9
  replace hz := zz
  clear kk zz s243 Ygs
  refine vl _ _ (want_g rfl rfl s244) (fun hc => ex_move rfl (ev s3 rfl)) rfl hz (by decide) (fun Ygu zz kk s245 => ?_)
  replace s2 := ku s2
  replace s3 := ku s3
  replace s4 := ku s4
  replace s5 := ku s5
  replace s9 := ku s9
  replace s244 := ku s244
  replace hz := zz
  clear kk zz Ygt
  refine vl _ (.pointer (some ⟨g, 7, none⟩)) (want_g rfl rfl s244) (fun hc => ex_ix rfl (ev s245 hc) rfl (ixBool g 7 10 cu (by decide) _)) rfl hz (by decide) (fun Ygv zz kk s246 => ?_)
  replace s2 := ku s2
  replace s3 := ku s3
  replace s4 := ku s4
  replace s5 := ku s5
  replace s9 := ku s9
  replace s244 := ku s244
  replace hz := zz
  clear kk zz s245 Ygu
  refine vl _ (.bool u7) (want_g rfl rfl s244) (fun hc => ex_ld rfl (ev s246 hc) (ldBool (HU.out w3 hv3 7 _ rfl))) rfl hz (by decide) (fun Ygw zz kk s247 => ?_)
  replace s2 := ku s2
  replace s3 := ku s3
  replace s4 := ku s4
  replace s5 := ku s5
  replace s9 := ku s9
  replace s244 := ku s244
  replace hz := zz
  clear kk zz s246 Ygv
  refine vl _ (.bool (!u7)) (want_g rfl rfl s244) (fun hc => ex_not rfl (ev s247 hc)) rfl hz (by decide) (fun Ygx zz kk s248 => ?_)
  replace s2 := ku s2
  replace s3 := ku s3
  replace s4 := ku s4
  replace s5 := ku s5
  replace s9 := ku s9
  replace s244 := ku s244
  replace hz := zz
  clear kk zz s247 Ygw
  refine vl _ _ (want_g rfl rfl s244) (fun hc => ex_move rfl (ev s248 hc)) rfl hz (by decide) (fun Ygy zz kk s249 => ?_)
  replace s2 := ku s2
  replace s3 := ku s3
  replace s4 := ku s4
  replace s5 := ku s5
  replace s9 := ku s9
  replace s244 := ku s244
  replace hz := zz
  clear kk zz s248 Ygx
  refine vl ((true && (((!u6) || (enK k m.e)) == true)) && ((!u7) == false)) (.pointer (some ⟨w.heap.size + 1, 8, none⟩)) (want_g rfl rfl s249) (fun hc => ex_fa rfl (ev s5 rfl) (MBox.faResult _ _)) rfl hz (by decide) (fun Ygz zz kk s250 => ?_)
  replace s2 := ku s2
  replace s3 := ku s3
  replace s4 := ku s4
  replace s5 := ku s5
  replace s9 := ku s9
  replace s244 := ku s244
  replace s249 := ku s249
  replace hz := zz
  clear kk zz Ygy
  refine vl ((true && (((!u6) || (enK k m.e)) == true)) && ((!u7) == false)) (.agg #[.int .i64 m.r.1, .int .i64 m.r.2.1, .string m.r.2.2]) (want_g rfl rfl s249) (fun hc => ex_ld rfl (ev s250 hc) ((HM.out w3 hv3).ldResult)) rfl hz (by decide) (fun Yg0 zz kk s251 => ?_)
  replace s2 := ku s2
  replace s3 := ku s3
  replace s4 := ku s4
  replace s5 := ku s5
  replace s9 := ku s9
  replace s244 := ku s244
  replace s249 := ku s249
  replace hz := zz
  clear kk zz s250 Ygz
  refine vcall ((true && (((!u6) || (enK k m.e)) == true)) && ((!u7) == false)) (.bool (resB m.r.1 m.r.2.1 m.r.2.2)) (want_g rfl rfl s249) (fun hc => by unfold execOp; simp only [resolve, invoke, Sem.run_bind, List.map_toArray, List.map_cons, List.map_nil, (ev s251 hc)]; rfl) (fun hc => HR.out w3) rfl hz (by decide) (fun Yg1 w4 hb zz kk s252 => ?_)
  have hv4 := hv3.trans (hb.mono hv3.size)
  clear hb
  replace s2 := ku s2
  replace s3 := ku s3
  replace s4 := ku s4
  replace s5 := ku s5
  replace s9 := ku s9
  replace s244 := ku s244
  replace s249 := ku s249
  replace hz := zz
  clear kk zz s251 Yg0
  refine vl _ (.bool ((!u7) || (resB m.r.1 m.r.2.1 m.r.2.2))) (want_g rfl rfl s244) (fun hc => ex_or rfl s249 s252 hc) rfl hz (by decide) (fun Yg2 zz kk s253 => ?_)
  replace s2 := ku s2
  replace s3 := ku s3
  replace s4 := ku s4
  replace s5 := ku s5
  replace s9 := ku s9
  replace s244 := ku s244
  replace hz := zz
  clear kk zz s249 s252 Yg1
  refine vt (.bool (((!u6) || (enK k m.e)) && ((!u7) || (resB m.r.1 m.r.2.1 m.r.2.2)))) (ex_and rfl s244 s253 rfl) hz (fun Yg3 zz kk s254 => ?_)
  replace s2 := ku s2
  replace s3 := ku s3
  replace s4 := ku s4
  replace s5 := ku s5
  replace s9 := ku s9
  replace hz := zz
  clear kk zz s244 s253 Yg2
  refine vt _ (ex_assign rfl (ev s254 rfl)) hz (fun Yg4 zz kk s8 => ?_)
  replace s2 := ku s2
  replace s3 := ku s3
  replace s4 := ku s4
  replace s5 := ku s5
  replace s9 := ku s9
  replace hz := zz
  clear kk zz s254 Yg3
  refine wpList_nil ?_
  have s8' : Yg4.getD 8 undef = .bool ((((!u6) || (enK k m.e)) && ((!u7) || (resB m.r.1 m.r.2.1 m.r.2.2)))) := getD_of s8
  have HV := hide (HB.out _ hv4)
  have V2 := hide (show fiG f r m L D k u0 u1 u2 u3 u4 u5 u6 u7 u8 u9 = ((((!u6) || (enK k m.e)) && ((!u7) || (resB m.r.1 m.r.2.1 m.r.2.2)))) from by unfold fiG; rw [if_neg (Bool.eq_false_iff.1 e2)]; rw [if_neg (Bool.eq_false_iff.1 e4)]; rw [if_neg (Bool.eq_false_iff.1 e6)]; rw [if_neg (Bool.eq_false_iff.1 e8)]; rw [if_neg (Bool.eq_false_iff.1 e10)]; rw [if_neg (Bool.eq_false_iff.1 e12)]; rw [if_neg (Bool.eq_false_iff.1 e14)]; rw [if_neg (Bool.eq_false_iff.1 e16)]; rw [if_neg (Bool.eq_false_iff.1 e18)]; rw [if_neg (Bool.eq_false_iff.1 e20)]; rw [if_neg (Bool.eq_false_iff.1 e22)])
  go_wp2
  refine bodyPost_ret (results_tmp rfl _ _ _) rfl ⟨?_, HV.out⟩
  rw [V2.out]
  show Ending.returned (Yg4.getD 8 undef) = _
  rw [s8']
end Go.Proofs.YtibedokegignhaaGreatDoor
