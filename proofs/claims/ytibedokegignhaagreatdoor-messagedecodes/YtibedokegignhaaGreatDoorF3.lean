import Derived.Test.YtibedokegignhaaGreatDoorF2
set_option maxRecDepth 100000
set_option linter.unusedVariables false
set_option linter.unusedSimpArgs false
namespace Go.Proofs.YtibedokegignhaaGreatDoor
open Go.RowKit Go.Maps
open Classical
structure CBox (w : World) (q : Nat) (f r : Int) : Prop where
  c0 : w.cell? ⟨q, 0, none⟩ = some (.int .i64 f)
  c1 : w.cell? ⟨q, 1, none⟩ = some (.int .i64 r)
theorem CBox.fa0 (q : Nat) (w : World) : (Instr.fieldAt 23 (.pointer (some ⟨q, 0, none⟩)) 0).run Tryz.prog w = .ok (.pointer (some ⟨q, 0, none⟩)) w := by
  go_simp
theorem CBox.fa1 (q : Nat) (w : World) : (Instr.fieldAt 23 (.pointer (some ⟨q, 0, none⟩)) 1).run Tryz.prog w = .ok (.pointer (some ⟨q, 1, none⟩)) w := by
  go_simp
theorem CBox.ld0 {w : World} {q : Nat} {f r : Int} (h : CBox w q f r) : (Instr.loadAt 3 (.pointer (some ⟨q, 0, none⟩))).run Tryz.prog w = .ok (.int .i64 f) w := by
  have h0 := h.c0
  go_simp
theorem CBox.ld1 {w : World} {q : Nat} {f r : Int} (h : CBox w q f r) : (Instr.loadAt 3 (.pointer (some ⟨q, 1, none⟩))).run Tryz.prog w = .ok (.int .i64 r) w := by
  have h0 := h.c1
  go_simp
theorem faCode (q : Nat) (w : World) : (Instr.fieldAt 30 (.pointer (some ⟨q, 8, none⟩)) 0).run Tryz.prog w = .ok (.pointer (some ⟨q, 8, none⟩)) w := by
  go_simp
theorem s_ldCode {w : World} {q : Nat} {m : Mg} {s t : Value} (h : MBox w q m s t) : (Instr.loadAt 3 (.pointer (some ⟨q, 8, none⟩))).run Tryz.prog w = .ok (.int .i64 m.r.1) w := by
  have h0 := h.cell 8 _ rfl
  go_simp
theorem mulC {f : Int} (h : 1 ≤ f ∧ f ≤ 3) (x y : Operand) (w : World) : (do eqGuard .mul 3 x y (.int .i64 2) (.int .i64 f); binOp .mul 3 (.int .i64 2) (.int .i64 f) : Sem Value).run Tryz.prog w = .ok (.int .i64 (2 * f)) w := by
  have h1 : IntKind.i64.wrap (2 * f) = 2 * f := by rw [IntKind.wrap_i64]; omega
  go_simp
theorem addC {f : Int} (h : 1 ≤ f ∧ f ≤ 3) (x y : Operand) (w : World) : (do eqGuard .add 3 x y (.int .i64 (2 * f)) (.int .i64 1); binOp .add 3 (.int .i64 (2 * f)) (.int .i64 1) : Sem Value).run Tryz.prog w = .ok (.int .i64 (2 * f + 1)) w := by
  have h1 : IntKind.i64.wrap (2 * f + 1) = 2 * f + 1 := by rw [IntKind.wrap_i64]; omega
  go_simp
theorem remC {f : Int} (h : 1 ≤ f ∧ f ≤ 3) (x y : Operand) (a : Int) (w : World) : (do eqGuard .rem 3 x y (.int .i64 a) (.int .i64 (2 * f + 1)); binOp .rem 3 (.int .i64 a) (.int .i64 (2 * f + 1)) : Sem Value).run Tryz.prog w = .ok (.int .i64 (a.tmod (2 * f + 1))) w := by
  have hn0 : ¬ (2 * f + 1 = 0) := by omega
  go_simp
theorem ixVec (q o n cv nd : Nat) (h : nd < n) (w : World) : (Instr.indexAt 36 (.slice (some ⟨q, o, none⟩) n cv) (.int .i64 (nd : Int))).run Tryz.prog w = .ok (.pointer (some ⟨q, o + nd * 2, none⟩)) w := by
  have h1 : (nd : Int) < (n : Int) := by omega
  go_simp
theorem ldDrAt {w : World} {q p : Nat} {x y : Int} (h0 : w.cell? ⟨q, p, none⟩ = some (.int .u64 x)) (h1 : w.cell? ⟨q, p + 1, none⟩ = some (.int .u64 y)) : (Instr.loadAt 33 (.pointer (some ⟨q, p, none⟩))).run Tryz.prog w = .ok (.agg #[.int .u64 x, .int .u64 y]) w := by
  go_simp
def fiG (f r : Int) (m : Mg) (L : List En) (D : List (Int × Int)) (k : Int) (u0 u1 u2 u3 u4 u5 u6 u7 u8 u9 : Bool) : Bool :=
  if ((u0 && ((decide (m.nd < 0)) || (decide ((2 * f + 1) ≤ m.nd)))) || (u1 && ((decide (m.vw < 0)) || (decide (4294967296 < m.vw))))) = true then false else
  if ((((decide (k = 6)) || (decide (k = 7))) || (decide (k = 8))) && (decide (m.vw < 1))) = true then false else
  if ((((decide (k = 3)) || (decide (k = 5))) || (decide (k = 8))) && (!decide (m.nd = ((m.vw).tmod ((2 * f + 1)))))) = true then false else
  if (u2 && ((decide (m.ls < 0)) || (decide (m.vw ≤ m.ls)))) = true then false else
  if (u3 && ((((decide (m.p < 0)) || (decide (r < m.p))) || ((decide (k = 3)) && (decide (m.p < 1)))) || ((decide (k = 2)) && ((decide (m.p = 0)) != (decide (m.r.1 = 7)))))) = true then false else
  if (u8 && (!decide ((lg L r) = 0))) = true then false else
  if (u4 && (((decide (m.cm < 0)) || (decide (r < m.cm))) || (u8 && (decide (((L.length : Nat) : Int) < m.cm))))) = true then false else
  if (((decide (k = 10)) && (decide (0 < ((L.length : Nat) : Int)))) && (!decide (m.nd = ((m.vw).tmod ((2 * f + 1)))))) = true then false else
  if (u9 && (!decide (((D.length : Nat) : Int) = (2 * f + 1)))) = true then false else
  if ((u5 && (decide (m.d = (0, 0)))) || ((decide (k = 9)) && (!decide (m.d = (D.getD m.nd.toNat (0, 0)))))) = true then false else
  if ((decide (k = 14)) && ((decide (m.r.1 < 4)) || (decide (6 < m.r.1)))) = true then false else
  (((!u6) || (enK k m.e)) && ((!u7) || (resB m.r.1 m.r.2.1 m.r.2.2)))
set_option maxHeartbeats 8000000 in
theorem fields_any (f r p : Int) (b : Bool) (m : Mg) (a1 a2 : Option Addr) (cl cv g cu : Nat) (k : Int) (u0 u1 u2 u3 u4 u5 u6 u7 u8 u9 : Bool) (L : List En) (D : List (Int × Int)) (w : World) (hf : 1 ≤ f ∧ f ≤ 3) (hL : SlY yE w a1 L.length cl L) (hfit : ∀ e ∈ L, e.fits) (hD : SlY yD w a2 D.length cv D) (hfe : m.e.o.fits) (hg : g < w.heap.size) (hu : ∀ (j : Nat) (b : Bool), ([u0, u1, u2, u3, u4, u5, u6, u7, u8, u9] : List Bool)[j]? = some b → w.cell? ⟨g, j, none⟩ = some (.bool b)) (h9 : k = 9 → u0 = true ∧ u9 = true) : Calls Tryz.prog 37 #[.agg #[.int .i64 f, .int .i64 r, .int .i64 p, .bool b], m.val (.slice a1 L.length cl) (.slice a2 D.length cv), .int .i64 k, .slice (some ⟨g, 0, none⟩) 10 cu] w fun e w' => e = .returned (.bool (fiG f r m L D k u0 u1 u2 u3 u4 u5 u6 u7 u8 u9)) ∧ Below w.heap.size w w' := by
  go_enter Tryz.func37, Tryz.ntmps37
  go_upto_region 1 with (refine boxMk rfl (.tmp 1) rfl m _ _ rfl ?_; intro q1 w1 hq1 M1 b1 z1)
  have hq2 : q1 = w.heap.size + 1 := by first | exact hq1 | simpa using hq1
  subst hq2
  have hB : Below w.heap.size w w1 := ((Below.refl _ _).alloc (Nat.le_refl _) _).trans (b1.mono (by simp))
  have HC : Hid (∀ v, Below w1.heap.size w1 v → CBox v w.heap.size f r) := fun v hv => ⟨(hv.cell (p := ⟨w.heap.size, 0, none⟩) (Nat.lt_of_succ_lt M1.lt)).trans ((b1.cell (p := ⟨w.heap.size, 0, none⟩) (by simp)).trans (by simp)), (hv.cell (p := ⟨w.heap.size, 1, none⟩) (Nat.lt_of_succ_lt M1.lt)).trans ((b1.cell (p := ⟨w.heap.size, 1, none⟩) (by simp)).trans (by simp))⟩
  have HM : Hid (∀ v, Below w1.heap.size w1 v → MBox v (w.heap.size + 1) m (.slice a1 L.length cl) (.slice a2 D.length cv)) := fun v hv => M1.bel hv
  have HB : Hid (∀ v, Below w1.heap.size w1 v → Below w.heap.size w v) := fun v hv => hB.trans (hv.mono hB.size)
  have HU : Hid (∀ v, Below w1.heap.size w1 v → ∀ (j : Nat) (b : Bool), ([u0, u1, u2, u3, u4, u5, u6, u7, u8, u9] : List Bool)[j]? = some b → v.cell? ⟨g, j, none⟩ = some (.bool b)) := fun v hv j b hj => ((HB.out v hv).cell (p := ⟨g, j, none⟩) hg).trans (hu j b hj)
  have HL : Hid (∀ v, Below w1.heap.size w1 v → Calls Tryz.prog 83 #[.slice a1 L.length cl, .int .i64 r] v fun e w' => e = .returned (.int .i64 (lg L r)) ∧ Below v.heap.size v w') := fun v hv => reflog_any L a1 cl r v (hL.later (HB.out v hv)) hfit
  have HE : Hid (∀ v, Calls Tryz.prog 84 #[.int .i64 k, .agg #[.int .i64 m.e.c, .int .i64 m.e.n, .int .i64 m.e.o.k, .int .i64 m.e.o.s, .string m.e.o.v]] v fun e w' => e = .returned (.bool (enK k m.e)) ∧ Below v.heap.size v w') := fun v => refentry7 k m.e hfe v
  have HR : Hid (∀ v, Calls Tryz.prog 85 #[.agg #[.int .i64 m.r.1, .int .i64 m.r.2.1, .string m.r.2.2]] v fun e w' => e = .returned (.bool (resB m.r.1 m.r.2.1 m.r.2.2)) ∧ Below v.heap.size v w') := fun v => refresult_any m.r.1 m.r.2.1 m.r.2.2 v
  have HXm : Hid ((k = 9 → 0 ≤ m.nd ∧ m.nd < (D.length : Int)) → ∃ q2 o2, Hid (k = 9 → ∀ v, Below w1.heap.size w1 v → (Instr.indexAt 36 (.slice a2 D.length cv) (.int .i64 m.nd)).run Tryz.prog v = .ok (.pointer (some ⟨q2, o2 + m.nd.toNat * 2, none⟩)) v ∧ (Instr.loadAt 33 (.pointer (some ⟨q2, o2 + m.nd.toNat * 2, none⟩))).run Tryz.prog v = .ok (.agg #[.int .u64 (D.getD m.nd.toNat (0, 0)).1, .int .u64 (D.getD m.nd.toNat (0, 0)).2]) v)) := fun z => by
    by_cases hk : k = 9
    · obtain ⟨z1', z2'⟩ := z hk
      obtain ⟨nn, hn⟩ := Int.eq_ofNat_of_zero_le z1'
      have hlt : nn < D.length := by omega
      obtain ⟨q2, o2, rfl, hq, hl⟩ := hD.place (fun e => by rw [e] at hlt; simp at hlt)
      refine ⟨q2, o2, fun _ v hv => ?_⟩
      rw [hn, Int.toNat_natCast]
      have hd : D[nn]? = some (D.getD nn (0, 0)) := by rw [List.getD_eq_getElem?_getD, List.getElem?_eq_getElem hlt]; rfl
      have lv : LieY yD v q2 o2 D := hl.upd (S := fun _ => False) (Upd.of_below ((HB.out v hv))) hq id
      exact ⟨ixVec q2 o2 D.length cv nn hlt v, ldDrAt (lv nn _ hd 0 _ rfl) (lv nn _ hd 1 _ rfl)⟩
    · exact ⟨0, 0, fun h => absurd h hk⟩
  have H9 := hide h9
  have HN := hide hf
  have h1 : Below w1.heap.size w1 w1 := Below.refl _ _
  clear M1 b1 z1 hB hq1 hu hL hD hfit hfe h9 hf
  refine wp_region_lit ?_
  refine vl_gen (fun T => T.size = 255 ∧ T[2]? = some (gw true (.int .i64 k)) ∧ T[3]? = some (gw true (.slice (some ⟨g, 0, none⟩) 10 cu)) ∧ T[4]? = some (gw true (.pointer (some ⟨w.heap.size, 0, none⟩))) ∧ T[5]? = some (gw true (.pointer (some ⟨w.heap.size + 1, 0, none⟩)))) ⟨rfl, rfl, rfl, rfl, rfl⟩ (fun T0 ⟨hz, s2, s3, s4, s5⟩ => ?_)
  refine vt (.pointer (some ⟨w.heap.size, 0, none⟩)) (ex_fa rfl (ev s4 rfl) (CBox.fa0 _ _)) hz (fun Ya zz kk s10 => ?_)
  replace s2 := ku s2
  replace s3 := ku s3
  replace s4 := ku s4
  replace s5 := ku s5
  replace hz := zz
  clear kk zz
  refine vt (.int .i64 f) (ex_ld rfl (ev s10 rfl) ((HC.out w1 h1).ld0)) hz (fun Yb zz kk s11 => ?_)
  replace s2 := ku s2
  replace s3 := ku s3
  replace s4 := ku s4
  replace s5 := ku s5
  replace hz := zz
  clear kk zz s10 Ya
  refine vt (.int .i64 (2 * f)) (ex_bin rfl rfl (ev s11 rfl) (mulC HN.out _ _ _)) hz (fun Yc zz kk s12 => ?_)
  replace s2 := ku s2
  replace s3 := ku s3
  replace s4 := ku s4
  replace s5 := ku s5
  replace hz := zz
  clear kk zz s11 Yb
  refine vt (.int .i64 (2 * f + 1)) (ex_bin rfl (ev s12 rfl) rfl (addC HN.out _ _ _)) hz (fun Yd zz kk s13 => ?_)
  replace s2 := ku s2
  replace s3 := ku s3
  replace s4 := ku s4
  replace s5 := ku s5
  replace hz := zz
  clear kk zz s12 Yc
  refine vt _ (ex_assign rfl (ev s13 rfl)) hz (fun Ye zz kk s9 => ?_)
  replace s2 := ku s2
  replace s3 := ku s3
  replace s4 := ku s4
  replace s5 := ku s5
  replace hz := zz
  clear kk zz s13 Yd
  refine wpList_nil ?_
  go_upto_region 2 with fail
  refine wp_region_lit ?_
  refine vt _ (ex_move rfl (ev s3 rfl)) hz (fun Yf zz kk s14 => ?_)
  replace s2 := ku s2
  replace s3 := ku s3
  replace s4 := ku s4
  replace s5 := ku s5
  replace s9 := ku s9
  replace hz := zz
  clear kk zz
  refine vt (.pointer (some ⟨g, 0, none⟩)) (ex_ix rfl (ev s14 rfl) rfl (ixBool g 0 10 cu (by decide) _)) hz (fun Yg zz kk s15 => ?_)
  replace s2 := ku s2
  replace s3 := ku s3
  replace s4 := ku s4
  replace s5 := ku s5
  replace s9 := ku s9
  replace hz := zz
  clear kk zz s14 Yf
  refine vt (.bool u0) (ex_ld rfl (ev s15 rfl) (ldBool (HU.out w1 h1 0 _ rfl))) hz (fun Yh zz kk s16 => ?_)
  replace s2 := ku s2
  replace s3 := ku s3
  replace s4 := ku s4
  replace s5 := ku s5
  replace s9 := ku s9
  replace hz := zz
  clear kk zz s15 Yg
  refine vt _ (ex_move rfl (ev s16 rfl)) hz (fun Yi zz kk s17 => ?_)
  replace s2 := ku s2
  replace s3 := ku s3
  replace s4 := ku s4
  replace s5 := ku s5
  replace s9 := ku s9
  replace hz := zz
  clear kk zz s16 Yh
  refine vl _ (.pointer (some ⟨w.heap.size + 1, 1, none⟩)) (want_g rfl rfl s17) (fun hc => ex_fa rfl (ev s5 rfl) (MBox.faNode _ _)) rfl hz (by decide) (fun Yj zz kk s18 => ?_)
  replace s2 := ku s2
  replace s3 := ku s3
  replace s4 := ku s4
  replace s5 := ku s5
  replace s9 := ku s9
  replace s17 := ku s17
  replace hz := zz
  clear kk zz Yi
  refine vl _ (.int .i64 m.nd) (want_g rfl rfl s17) (fun hc => ex_ld rfl (ev s18 hc) ((HM.out w1 h1).ldNode)) rfl hz (by decide) (fun Yk zz kk s19 => ?_)
  replace s2 := ku s2
  replace s3 := ku s3
  replace s4 := ku s4
  replace s5 := ku s5
  replace s9 := ku s9
  replace s17 := ku s17
  replace hz := zz
  clear kk zz s18 Yj
  refine vl _ (.bool (decide (m.nd < 0))) (want_g rfl rfl s17) (fun hc => ex_bin rfl (ev s19 hc) rfl (lssC _ _ _ _ _)) rfl hz (by decide) (fun Yl zz kk s20 => ?_)
  replace s2 := ku s2
  replace s3 := ku s3
  replace s4 := ku s4
  replace s5 := ku s5
  replace s9 := ku s9
  replace s17 := ku s17
  replace hz := zz
  clear kk zz s19 Yk
  refine vl _ _ (want_g rfl rfl s17) (fun hc => ex_move rfl (ev s20 hc)) rfl hz (by decide) (fun Ym zz kk s21 => ?_)
  replace s2 := ku s2
  replace s3 := ku s3
  replace s4 := ku s4
  replace s5 := ku s5
  replace s9 := ku s9
  replace s17 := ku s17
  replace hz := zz
  clear kk zz s20 Yl
  refine vl ((true && (u0 == true)) && ((decide (m.nd < 0)) == false)) (.pointer (some ⟨w.heap.size + 1, 1, none⟩)) (want_g rfl rfl s21) (fun hc => ex_fa rfl (ev s5 rfl) (MBox.faNode _ _)) rfl hz (by decide) (fun Yn zz kk s22 => ?_)
  replace s2 := ku s2
  replace s3 := ku s3
  replace s4 := ku s4
  replace s5 := ku s5
  replace s9 := ku s9
  replace s17 := ku s17
  replace s21 := ku s21
  replace hz := zz
  clear kk zz Ym
  refine vl ((true && (u0 == true)) && ((decide (m.nd < 0)) == false)) (.int .i64 m.nd) (want_g rfl rfl s21) (fun hc => ex_ld rfl (ev s22 hc) ((HM.out w1 h1).ldNode)) rfl hz (by decide) (fun Yo zz kk s23 => ?_)
  replace s2 := ku s2
  replace s3 := ku s3
  replace s4 := ku s4
  replace s5 := ku s5
  replace s9 := ku s9
  replace s17 := ku s17
  replace s21 := ku s21
  replace hz := zz
  clear kk zz s22 Yn
  refine vl ((true && (u0 == true)) && ((decide (m.nd < 0)) == false)) (.int .i64 (2 * f + 1)) (want_g rfl rfl s21) (fun hc => ex_move rfl (ev s9 rfl)) rfl hz (by decide) (fun Yp zz kk s24 => ?_)
  replace s2 := ku s2
  replace s3 := ku s3
  replace s4 := ku s4
  replace s5 := ku s5
  replace s9 := ku s9
  replace s17 := ku s17
  replace s21 := ku s21
  replace s23 := ku s23
  replace hz := zz
  clear kk zz Yo
  refine vl ((true && (u0 == true)) && ((decide (m.nd < 0)) == false)) (.bool (decide ((2 * f + 1) ≤ m.nd))) (want_g rfl rfl s21) (fun hc => ex_bin rfl (ev s23 hc) (ev s24 hc) (geqC _ _ _ _ _)) rfl hz (by decide) (fun Yq zz kk s25 => ?_)
  replace s2 := ku s2
  replace s3 := ku s3
  replace s4 := ku s4
  replace s5 := ku s5
  replace s9 := ku s9
  replace s17 := ku s17
  replace s21 := ku s21
  replace hz := zz
  clear kk zz s23 s24 Yp
  refine vl _ (.bool ((decide (m.nd < 0)) || (decide ((2 * f + 1) ≤ m.nd)))) (want_g rfl rfl s17) (fun hc => ex_or rfl s21 s25 hc) rfl hz (by decide) (fun Yr zz kk s26 => ?_)
  replace s2 := ku s2
  replace s3 := ku s3
  replace s4 := ku s4
  replace s5 := ku s5
  replace s9 := ku s9
  replace s17 := ku s17
  replace hz := zz
  clear kk zz s21 s25 Yq
  refine vt (.bool (u0 && ((decide (m.nd < 0)) || (decide ((2 * f + 1) ≤ m.nd))))) (ex_and rfl s17 s26 rfl) hz (fun Ys zz kk s27 => ?_)
  replace s2 := ku s2
  replace s3 := ku s3
  replace s4 := ku s4
  replace s5 := ku s5
  replace s9 := ku s9
  replace hz := zz
  clear kk zz s17 s26 Yr
  refine vt _ (ex_move rfl (ev s27 rfl)) hz (fun Yt zz kk s28 => ?_)
  replace s2 := ku s2
  replace s3 := ku s3
  replace s4 := ku s4
  replace s5 := ku s5
  replace s9 := ku s9
  replace hz := zz
  clear kk zz s27 Ys
  refine vl _ _ (want_g rfl rfl s28) (fun hc => ex_move rfl (ev s3 rfl)) rfl hz (by decide) (fun Yu zz kk s29 => ?_)
  replace s2 := ku s2
  replace s3 := ku s3
  replace s4 := ku s4
  replace s5 := ku s5
  replace s9 := ku s9
  replace s28 := ku s28
  replace hz := zz
  clear kk zz Yt
  refine vl _ (.pointer (some ⟨g, 1, none⟩)) (want_g rfl rfl s28) (fun hc => ex_ix rfl (ev s29 hc) rfl (ixBool g 1 10 cu (by decide) _)) rfl hz (by decide) (fun Yv zz kk s30 => ?_)
  replace s2 := ku s2
  replace s3 := ku s3
  replace s4 := ku s4
  replace s5 := ku s5
  replace s9 := ku s9
  replace s28 := ku s28
  replace hz := zz
  clear kk zz s29 Yu
  refine vl _ (.bool u1) (want_g rfl rfl s28) (fun hc => ex_ld rfl (ev s30 hc) (ldBool (HU.out w1 h1 1 _ rfl))) rfl hz (by decide) (fun Yw zz kk s31 => ?_)
  replace s2 := ku s2
  replace s3 := ku s3
  replace s4 := ku s4
  replace s5 := ku s5
  replace s9 := ku s9
  replace s28 := ku s28
  replace hz := zz
  clear kk zz s30 Yv
  refine vl _ _ (want_g rfl rfl s28) (fun hc => ex_move rfl (ev s31 hc)) rfl hz (by decide) (fun Yx zz kk s32 => ?_)
  replace s2 := ku s2
  replace s3 := ku s3
  replace s4 := ku s4
  replace s5 := ku s5
  replace s9 := ku s9
  replace s28 := ku s28
  replace hz := zz
  clear kk zz s31 Yw
  refine vl ((true && ((u0 && ((decide (m.nd < 0)) || (decide ((2 * f + 1) ≤ m.nd)))) == false)) && (u1 == true)) (.pointer (some ⟨w.heap.size + 1, 2, none⟩)) (want_g rfl rfl s32) (fun hc => ex_fa rfl (ev s5 rfl) (MBox.faView _ _)) rfl hz (by decide) (fun Yy zz kk s33 => ?_)
  replace s2 := ku s2
  replace s3 := ku s3
  replace s4 := ku s4
  replace s5 := ku s5
  replace s9 := ku s9
  replace s28 := ku s28
  replace s32 := ku s32
  replace hz := zz
  clear kk zz Yx
  refine vl ((true && ((u0 && ((decide (m.nd < 0)) || (decide ((2 * f + 1) ≤ m.nd)))) == false)) && (u1 == true)) (.int .i64 m.vw) (want_g rfl rfl s32) (fun hc => ex_ld rfl (ev s33 hc) ((HM.out w1 h1).ldView)) rfl hz (by decide) (fun Yz zz kk s34 => ?_)
  replace s2 := ku s2
  replace s3 := ku s3
  replace s4 := ku s4
  replace s5 := ku s5
  replace s9 := ku s9
  replace s28 := ku s28
  replace s32 := ku s32
  replace hz := zz
  clear kk zz s33 Yy
  refine vl ((true && ((u0 && ((decide (m.nd < 0)) || (decide ((2 * f + 1) ≤ m.nd)))) == false)) && (u1 == true)) (.bool (decide (m.vw < 0))) (want_g rfl rfl s32) (fun hc => ex_bin rfl (ev s34 hc) rfl (lssC _ _ _ _ _)) rfl hz (by decide) (fun Y0 zz kk s35 => ?_)
  replace s2 := ku s2
  replace s3 := ku s3
  replace s4 := ku s4
  replace s5 := ku s5
  replace s9 := ku s9
  replace s28 := ku s28
  replace s32 := ku s32
  replace hz := zz
  clear kk zz s34 Yz
  refine vl ((true && ((u0 && ((decide (m.nd < 0)) || (decide ((2 * f + 1) ≤ m.nd)))) == false)) && (u1 == true)) (.bool (decide (m.vw < 0))) (want_g rfl rfl s32) (fun hc => ex_move rfl (ev s35 hc)) rfl hz (by decide) (fun Y1 zz kk s36 => ?_)
  replace s2 := ku s2
  replace s3 := ku s3
  replace s4 := ku s4
  replace s5 := ku s5
  replace s9 := ku s9
  replace s28 := ku s28
  replace s32 := ku s32
  replace hz := zz
  clear kk zz s35 Y0
  refine vl (((true && ((u0 && ((decide (m.nd < 0)) || (decide ((2 * f + 1) ≤ m.nd)))) == false)) && (u1 == true)) && ((decide (m.vw < 0)) == false)) (.pointer (some ⟨w.heap.size + 1, 2, none⟩)) (want_g rfl rfl s36) (fun hc => ex_fa rfl (ev s5 rfl) (MBox.faView _ _)) rfl hz (by decide) (fun Y2 zz kk s37 => ?_)
  replace s2 := ku s2
  replace s3 := ku s3
  replace s4 := ku s4
  replace s5 := ku s5
  replace s9 := ku s9
  replace s28 := ku s28
  replace s32 := ku s32
  replace s36 := ku s36
  replace hz := zz
  clear kk zz Y1
  refine vl (((true && ((u0 && ((decide (m.nd < 0)) || (decide ((2 * f + 1) ≤ m.nd)))) == false)) && (u1 == true)) && ((decide (m.vw < 0)) == false)) (.int .i64 m.vw) (want_g rfl rfl s36) (fun hc => ex_ld rfl (ev s37 hc) ((HM.out w1 h1).ldView)) rfl hz (by decide) (fun Y3 zz kk s38 => ?_)
  replace s2 := ku s2
  replace s3 := ku s3
  replace s4 := ku s4
  replace s5 := ku s5
  replace s9 := ku s9
  replace s28 := ku s28
  replace s32 := ku s32
  replace s36 := ku s36
  replace hz := zz
  clear kk zz s37 Y2
  refine vl (((true && ((u0 && ((decide (m.nd < 0)) || (decide ((2 * f + 1) ≤ m.nd)))) == false)) && (u1 == true)) && ((decide (m.vw < 0)) == false)) (.bool (decide (4294967296 < m.vw))) (want_g rfl rfl s36) (fun hc => ex_bin rfl (ev s38 hc) rfl (gtrC _ _ _ _ _)) rfl hz (by decide) (fun Y4 zz kk s39 => ?_)
  replace s2 := ku s2
  replace s3 := ku s3
  replace s4 := ku s4
  replace s5 := ku s5
  replace s9 := ku s9
  replace s28 := ku s28
  replace s32 := ku s32
  replace s36 := ku s36
  replace hz := zz
  clear kk zz s38 Y3
  refine vl ((true && ((u0 && ((decide (m.nd < 0)) || (decide ((2 * f + 1) ≤ m.nd)))) == false)) && (u1 == true)) (.bool ((decide (m.vw < 0)) || (decide (4294967296 < m.vw)))) (want_g rfl rfl s32) (fun hc => ex_or rfl s36 s39 hc) rfl hz (by decide) (fun Y5 zz kk s40 => ?_)
  replace s2 := ku s2
  replace s3 := ku s3
  replace s4 := ku s4
  replace s5 := ku s5
  replace s9 := ku s9
  replace s28 := ku s28
  replace s32 := ku s32
  replace hz := zz
  clear kk zz s36 s39 Y4
  refine vl _ (.bool (u1 && ((decide (m.vw < 0)) || (decide (4294967296 < m.vw))))) (want_g rfl rfl s28) (fun hc => ex_and rfl s32 s40 hc) rfl hz (by decide) (fun Y6 zz kk s41 => ?_)
  replace s2 := ku s2
  replace s3 := ku s3
  replace s4 := ku s4
  replace s5 := ku s5
  replace s9 := ku s9
  replace s28 := ku s28
  replace hz := zz
  clear kk zz s32 s40 Y5
  refine vt (.bool ((u0 && ((decide (m.nd < 0)) || (decide ((2 * f + 1) ≤ m.nd)))) || (u1 && ((decide (m.vw < 0)) || (decide (4294967296 < m.vw)))))) (ex_or rfl s28 s41 rfl) hz (fun Y7 zz kk s42 => ?_)
  replace s2 := ku s2
  replace s3 := ku s3
  replace s4 := ku s4
  replace s5 := ku s5
  replace s9 := ku s9
  replace hz := zz
  clear kk zz s28 s41 Y6
  refine wpList_nil ?_
  go_upto_region 4 with fail
  cases e2 : ((u0 && ((decide (m.nd < 0)) || (decide ((2 * f + 1) ≤ m.nd)))) || (u1 && ((decide (m.vw < 0)) || (decide (4294967296 < m.vw)))))
  rotate_left
  · refine wp_cond_true ((ev s42 rfl).trans (congrArg Value.bool e2)) ?_
    have HV := hide (HB.out _ h1)
    have V2 := hide (show fiG f r m L D k u0 u1 u2 u3 u4 u5 u6 u7 u8 u9 = false from by unfold fiG; rw [if_pos e2])
    go_wp2
    refine bodyPost_ret (results_tmp rfl _ _ _) rfl ⟨?_, HV.out⟩
    rw [V2.out]
    show Ending.returned ((Array.setIfInBounds _ 8 (Value.bool false)).getD 8 undef) = _
    rw [getD_of (at_set _ (by rw [hz]; decide))]
  refine wp_cond_false ((ev s42 rfl).trans (congrArg Value.bool e2)) ?_
  go_upto_region 4 with fail
  clear s42
  refine wp_region_lit ?_
  refine vt _ (ex_move rfl (ev s2 rfl)) hz (fun Y8 zz kk s43 => ?_)
  replace s2 := ku s2
  replace s3 := ku s3
  replace s4 := ku s4
  replace s5 := ku s5
  replace s9 := ku s9
  replace hz := zz
  clear kk zz
  refine vt (.bool (decide (k = 6))) (ex_bin rfl (ev s43 rfl) rfl (eqlC _ _ _ _ _)) hz (fun Y9 zz kk s44 => ?_)
  replace s2 := ku s2
  replace s3 := ku s3
  replace s4 := ku s4
  replace s5 := ku s5
  replace s9 := ku s9
  replace hz := zz
  clear kk zz s43 Y8
  refine vt _ (ex_move rfl (ev s44 rfl)) hz (fun Yba zz kk s45 => ?_)
  replace s2 := ku s2
  replace s3 := ku s3
  replace s4 := ku s4
  replace s5 := ku s5
  replace s9 := ku s9
  replace hz := zz
  clear kk zz s44 Y9
  refine vl _ _ (want_g rfl rfl s45) (fun hc => ex_move rfl (ev s2 rfl)) rfl hz (by decide) (fun Ybb zz kk s46 => ?_)
  replace s2 := ku s2
  replace s3 := ku s3
  replace s4 := ku s4
  replace s5 := ku s5
  replace s9 := ku s9
  replace s45 := ku s45
  replace hz := zz
  clear kk zz Yba
  refine vl _ (.bool (decide (k = 7))) (want_g rfl rfl s45) (fun hc => ex_bin rfl (ev s46 hc) rfl (eqlC _ _ _ _ _)) rfl hz (by decide) (fun Ybc zz kk s47 => ?_)
  replace s2 := ku s2
  replace s3 := ku s3
  replace s4 := ku s4
  replace s5 := ku s5
  replace s9 := ku s9
  replace s45 := ku s45
  replace hz := zz
  clear kk zz s46 Ybb
  refine vt (.bool ((decide (k = 6)) || (decide (k = 7)))) (ex_or rfl s45 s47 rfl) hz (fun Ybd zz kk s48 => ?_)
  replace s2 := ku s2
  replace s3 := ku s3
  replace s4 := ku s4
  replace s5 := ku s5
  replace s9 := ku s9
  replace hz := zz
  clear kk zz s45 s47 Ybc
  refine vt _ (ex_move rfl (ev s48 rfl)) hz (fun Ybe zz kk s49 => ?_)
  replace s2 := ku s2
  replace s3 := ku s3
  replace s4 := ku s4
  replace s5 := ku s5
  replace s9 := ku s9
  replace hz := zz
  clear kk zz s48 Ybd
  refine vl _ _ (want_g rfl rfl s49) (fun hc => ex_move rfl (ev s2 rfl)) rfl hz (by decide) (fun Ybf zz kk s50 => ?_)
  replace s2 := ku s2
  replace s3 := ku s3
  replace s4 := ku s4
  replace s5 := ku s5
  replace s9 := ku s9
  replace s49 := ku s49
  replace hz := zz
  clear kk zz Ybe
  refine vl _ (.bool (decide (k = 8))) (want_g rfl rfl s49) (fun hc => ex_bin rfl (ev s50 hc) rfl (eqlC _ _ _ _ _)) rfl hz (by decide) (fun Ybg zz kk s51 => ?_)
  replace s2 := ku s2
  replace s3 := ku s3
  replace s4 := ku s4
  replace s5 := ku s5
  replace s9 := ku s9
  replace s49 := ku s49
  replace hz := zz
  clear kk zz s50 Ybf
  refine vt (.bool (((decide (k = 6)) || (decide (k = 7))) || (decide (k = 8)))) (ex_or rfl s49 s51 rfl) hz (fun Ybh zz kk s52 => ?_)
  replace s2 := ku s2
  replace s3 := ku s3
  replace s4 := ku s4
  replace s5 := ku s5
  replace s9 := ku s9
  replace hz := zz
  clear kk zz s49 s51 Ybg
  refine vt _ (ex_move rfl (ev s52 rfl)) hz (fun Ybi zz kk s53 => ?_)
  replace s2 := ku s2
  replace s3 := ku s3
  replace s4 := ku s4
  replace s5 := ku s5
  replace s9 := ku s9
  replace hz := zz
  clear kk zz s52 Ybh
  refine vl _ (.pointer (some ⟨w.heap.size + 1, 2, none⟩)) (want_g rfl rfl s53) (fun hc => ex_fa rfl (ev s5 rfl) (MBox.faView _ _)) rfl hz (by decide) (fun Ybj zz kk s54 => ?_)
  replace s2 := ku s2
  replace s3 := ku s3
  replace s4 := ku s4
  replace s5 := ku s5
  replace s9 := ku s9
  replace s53 := ku s53
  replace hz := zz
  clear kk zz Ybi
  refine vl _ (.int .i64 m.vw) (want_g rfl rfl s53) (fun hc => ex_ld rfl (ev s54 hc) ((HM.out w1 h1).ldView)) rfl hz (by decide) (fun Ybk zz kk s55 => ?_)
  replace s2 := ku s2
  replace s3 := ku s3
  replace s4 := ku s4
  replace s5 := ku s5
  replace s9 := ku s9
  replace s53 := ku s53
  replace hz := zz
  clear kk zz s54 Ybj
  refine vl _ (.bool (decide (m.vw < 1))) (want_g rfl rfl s53) (fun hc => ex_bin rfl (ev s55 hc) rfl (lssC _ _ _ _ _)) rfl hz (by decide) (fun Ybl zz kk s56 => ?_)
  replace s2 := ku s2
  replace s3 := ku s3
  replace s4 := ku s4
  replace s5 := ku s5
  replace s9 := ku s9
  replace s53 := ku s53
  replace hz := zz
  clear kk zz s55 Ybk
  refine vt (.bool ((((decide (k = 6)) || (decide (k = 7))) || (decide (k = 8))) && (decide (m.vw < 1)))) (ex_and rfl s53 s56 rfl) hz (fun Ybm zz kk s57 => ?_)
  replace s2 := ku s2
  replace s3 := ku s3
  replace s4 := ku s4
  replace s5 := ku s5
  replace s9 := ku s9
  replace hz := zz
  clear kk zz s53 s56 Ybl
  refine wpList_nil ?_
  go_upto_region 6 with fail
  cases e4 : ((((decide (k = 6)) || (decide (k = 7))) || (decide (k = 8))) && (decide (m.vw < 1)))
  rotate_left
  · refine wp_cond_true ((ev s57 rfl).trans (congrArg Value.bool e4)) ?_
    have HV := hide (HB.out _ h1)
    have V2 := hide (show fiG f r m L D k u0 u1 u2 u3 u4 u5 u6 u7 u8 u9 = false from by unfold fiG; rw [if_neg (Bool.eq_false_iff.1 e2)]; rw [if_pos e4])
    go_wp2
    refine bodyPost_ret (results_tmp rfl _ _ _) rfl ⟨?_, HV.out⟩
    rw [V2.out]
    show Ending.returned ((Array.setIfInBounds _ 8 (Value.bool false)).getD 8 undef) = _
    rw [getD_of (at_set _ (by rw [hz]; decide))]
  refine wp_cond_false ((ev s57 rfl).trans (congrArg Value.bool e4)) ?_
  go_upto_region 6 with fail
  clear s57
  refine vq_start (C := fun v => Below w1.heap.size w1 v) (by kernel_rfl) (by kernel_rfl) (belN h1 1) ?_
  refine vq true _ (want_none rfl) (fun hc v hv => ex_move rfl (ev s2 rfl)) rfl hz (by decide) (fun Ybn zz kk s58 => ?_)
  replace s2 := ku s2
  replace s3 := ku s3
  replace s4 := ku s4
  replace s5 := ku s5
  replace s9 := ku s9
  replace hz := zz
  clear kk zz
  refine vq true (.bool (decide (k = 3))) (want_none rfl) (fun hc v hv => ex_bin rfl (ev s58 rfl) rfl (eqlC _ _ _ _ _)) rfl hz (by decide) (fun Ybo zz kk s59 => ?_)
  replace s2 := ku s2
  replace s3 := ku s3
  replace s4 := ku s4
  replace s5 := ku s5
  replace s9 := ku s9
  replace hz := zz
  clear kk zz s58 Ybn
  refine vq true _ (want_none rfl) (fun hc v hv => ex_move rfl (ev s59 rfl)) rfl hz (by decide) (fun Ybp zz kk s60 => ?_)
  replace s2 := ku s2
  replace s3 := ku s3
  replace s4 := ku s4
  replace s5 := ku s5
  replace s9 := ku s9
  replace hz := zz
  clear kk zz s59 Ybo
  refine vq _ _ (want_g rfl rfl s60) (fun hc v hv => ex_move rfl (ev s2 rfl)) rfl hz (by decide) (fun Ybq zz kk s61 => ?_)
  replace s2 := ku s2
  replace s3 := ku s3
  replace s4 := ku s4
  replace s5 := ku s5
  replace s9 := ku s9
  replace s60 := ku s60
  replace hz := zz
  clear kk zz Ybp
  refine vq _ (.bool (decide (k = 5))) (want_g rfl rfl s60) (fun hc v hv => ex_bin rfl (ev s61 hc) rfl (eqlC _ _ _ _ _)) rfl hz (by decide) (fun Ybr zz kk s62 => ?_)
  replace s2 := ku s2
  replace s3 := ku s3
  replace s4 := ku s4
  replace s5 := ku s5
  replace s9 := ku s9
  replace s60 := ku s60
  replace hz := zz
  clear kk zz s61 Ybq
  refine vq true (.bool ((decide (k = 3)) || (decide (k = 5)))) (want_none rfl) (fun hc v hv => ex_or rfl s60 s62 rfl) rfl hz (by decide) (fun Ybs zz kk s63 => ?_)
  replace s2 := ku s2
  replace s3 := ku s3
  replace s4 := ku s4
  replace s5 := ku s5
  replace s9 := ku s9
  replace hz := zz
  clear kk zz s60 s62 Ybr
  refine vq true _ (want_none rfl) (fun hc v hv => ex_move rfl (ev s63 rfl)) rfl hz (by decide) (fun Ybt zz kk s64 => ?_)
  replace s2 := ku s2
  replace s3 := ku s3
  replace s4 := ku s4
  replace s5 := ku s5
  replace s9 := ku s9
  replace hz := zz
  clear kk zz s63 Ybs
  refine vq _ _ (want_g rfl rfl s64) (fun hc v hv => ex_move rfl (ev s2 rfl)) rfl hz (by decide) (fun Ybu zz kk s65 => ?_)
  replace s2 := ku s2
  replace s3 := ku s3
  replace s4 := ku s4
  replace s5 := ku s5
  replace s9 := ku s9
  replace s64 := ku s64
  replace hz := zz
  clear kk zz Ybt
  refine vq _ (.bool (decide (k = 8))) (want_g rfl rfl s64) (fun hc v hv => ex_bin rfl (ev s65 hc) rfl (eqlC _ _ _ _ _)) rfl hz (by decide) (fun Ybv zz kk s66 => ?_)
  replace s2 := ku s2
  replace s3 := ku s3
  replace s4 := ku s4
  replace s5 := ku s5
  replace s9 := ku s9
  replace s64 := ku s64
  replace hz := zz
  clear kk zz s65 Ybu
  refine vq true (.bool (((decide (k = 3)) || (decide (k = 5))) || (decide (k = 8)))) (want_none rfl) (fun hc v hv => ex_or rfl s64 s66 rfl) rfl hz (by decide) (fun Ybw zz kk s67 => ?_)
  replace s2 := ku s2
  replace s3 := ku s3
  replace s4 := ku s4
  replace s5 := ku s5
  replace s9 := ku s9
  replace hz := zz
  clear kk zz s64 s66 Ybv
  refine vq true _ (want_none rfl) (fun hc v hv => ex_move rfl (ev s67 rfl)) rfl hz (by decide) (fun Ybx zz kk s68 => ?_)
  replace s2 := ku s2
  replace s3 := ku s3
  replace s4 := ku s4
  replace s5 := ku s5
  replace s9 := ku s9
  replace hz := zz
  clear kk zz s67 Ybw
  refine vq _ (.pointer (some ⟨w.heap.size + 1, 1, none⟩)) (want_g rfl rfl s68) (fun hc v hv => ex_fa rfl (ev s5 rfl) (MBox.faNode _ _)) rfl hz (by decide) (fun Yby zz kk s69 => ?_)
  replace s2 := ku s2
  replace s3 := ku s3
  replace s4 := ku s4
  replace s5 := ku s5
  replace s9 := ku s9
  replace s68 := ku s68
  replace hz := zz
  clear kk zz Ybx
  refine vq _ (.int .i64 m.nd) (want_g rfl rfl s68) (fun hc v hv => ex_ld rfl (ev s69 hc) ((HM.out v hv).ldNode)) rfl hz (by decide) (fun Ybz zz kk s70 => ?_)
  replace s2 := ku s2
  replace s3 := ku s3
  replace s4 := ku s4
  replace s5 := ku s5
  replace s9 := ku s9
  replace s68 := ku s68
  replace hz := zz
  clear kk zz s69 Yby
  refine vq _ (.pointer (some ⟨w.heap.size + 1, 2, none⟩)) (want_g rfl rfl s68) (fun hc v hv => ex_fa rfl (ev s5 rfl) (MBox.faView _ _)) rfl hz (by decide) (fun Yb0 zz kk s71 => ?_)
  replace s2 := ku s2
  replace s3 := ku s3
  replace s4 := ku s4
  replace s5 := ku s5
  replace s9 := ku s9
  replace s68 := ku s68
  replace s70 := ku s70
  replace hz := zz
  clear kk zz Ybz
  refine vq _ (.int .i64 m.vw) (want_g rfl rfl s68) (fun hc v hv => ex_ld rfl (ev s71 hc) ((HM.out v hv).ldView)) rfl hz (by decide) (fun Yb1 zz kk s72 => ?_)
  replace s2 := ku s2
  replace s3 := ku s3
  replace s4 := ku s4
  replace s5 := ku s5
  replace s9 := ku s9
  replace s68 := ku s68
  replace s70 := ku s70
  replace hz := zz
  clear kk zz s71 Yb0
  refine vq _ _ (want_g rfl rfl s68) (fun hc v hv => ex_move rfl (ev s9 rfl)) rfl hz (by decide) (fun Yb2 zz kk s73 => ?_)
  replace s2 := ku s2
  replace s3 := ku s3
  replace s4 := ku s4
  replace s5 := ku s5
  replace s9 := ku s9
  replace s68 := ku s68
  replace s70 := ku s70
  replace s72 := ku s72
  replace hz := zz
  clear kk zz Yb1
  refine vq _ (.int .i64 ((m.vw).tmod ((2 * f + 1)))) (want_g rfl rfl s68) (fun hc v hv => ex_bin rfl (ev s72 hc) (ev s73 hc) (remC HN.out _ _ _ _)) rfl hz (by decide) (fun Yb3 zz kk s74 => ?_)
  replace s2 := ku s2
  replace s3 := ku s3
  replace s4 := ku s4
  replace s5 := ku s5
  replace s9 := ku s9
  replace s68 := ku s68
  replace s70 := ku s70
  replace hz := zz
  clear kk zz s72 s73 Yb2
  refine vq _ (.bool (!decide (m.nd = ((m.vw).tmod ((2 * f + 1)))))) (want_g rfl rfl s68) (fun hc v hv => ex_bin rfl (ev s70 hc) (ev s74 hc) (neqC _ _ _ _ _)) rfl hz (by decide) (fun Yb4 zz kk s75 => ?_)
  replace s2 := ku s2
  replace s3 := ku s3
  replace s4 := ku s4
  replace s5 := ku s5
  replace s9 := ku s9
  replace s68 := ku s68
  replace hz := zz
  clear kk zz s70 s74 Yb3
  refine vq true (.bool ((((decide (k = 3)) || (decide (k = 5))) || (decide (k = 8))) && (!decide (m.nd = ((m.vw).tmod ((2 * f + 1))))))) (want_none rfl) (fun hc v hv => ex_and rfl s68 s75 rfl) rfl hz (by decide) (fun Yb5 zz kk s76 => ?_)
  replace s2 := ku s2
  replace s3 := ku s3
  replace s4 := ku s4
  replace s5 := ku s5
  replace s9 := ku s9
  replace hz := zz
  clear kk zz s68 s75 Yb4
  refine vq_nil (fun x6 hx6 => ?_)
  go_upto_region 8 with fail
  cases e6 : ((((decide (k = 3)) || (decide (k = 5))) || (decide (k = 8))) && (!decide (m.nd = ((m.vw).tmod ((2 * f + 1))))))
  rotate_left
  · refine wp_cond_true ((ev s76 rfl).trans (congrArg Value.bool e6)) ?_
    have HV := hide (HB.out _ hx6)
    have V2 := hide (show fiG f r m L D k u0 u1 u2 u3 u4 u5 u6 u7 u8 u9 = false from by unfold fiG; rw [if_neg (Bool.eq_false_iff.1 e2)]; rw [if_neg (Bool.eq_false_iff.1 e4)]; rw [if_pos e6])
    go_wp2
    refine bodyPost_ret (results_tmp rfl _ _ _) rfl ⟨?_, HV.out⟩
    rw [V2.out]
    show Ending.returned ((Array.setIfInBounds _ 8 (Value.bool false)).getD 8 undef) = _
    rw [getD_of (at_set _ (by rw [hz]; decide))]
  refine wp_cond_false ((ev s76 rfl).trans (congrArg Value.bool e6)) ?_
  go_upto_region 8 with fail
  clear s76
  refine wp_region_lit ?_
  refine vt _ (ex_move rfl (ev s3 rfl)) hz (fun Yb6 zz kk s77 => ?_)
  replace s2 := ku s2
  replace s3 := ku s3
  replace s4 := ku s4
  replace s5 := ku s5
  replace s9 := ku s9
  replace hz := zz
  clear kk zz
  refine vt (.pointer (some ⟨g, 2, none⟩)) (ex_ix rfl (ev s77 rfl) rfl (ixBool g 2 10 cu (by decide) _)) hz (fun Yb7 zz kk s78 => ?_)
  replace s2 := ku s2
  replace s3 := ku s3
  replace s4 := ku s4
  replace s5 := ku s5
  replace s9 := ku s9
  replace hz := zz
  clear kk zz s77 Yb6
  refine vt (.bool u2) (ex_ld rfl (ev s78 rfl) (ldBool (HU.out x6 hx6 2 _ rfl))) hz (fun Yb8 zz kk s79 => ?_)
  replace s2 := ku s2
  replace s3 := ku s3
  replace s4 := ku s4
  replace s5 := ku s5
  replace s9 := ku s9
  replace hz := zz
  clear kk zz s78 Yb7
  refine vt _ (ex_move rfl (ev s79 rfl)) hz (fun Yb9 zz kk s80 => ?_)
  replace s2 := ku s2
  replace s3 := ku s3
  replace s4 := ku s4
  replace s5 := ku s5
  replace s9 := ku s9
  replace hz := zz
  clear kk zz s79 Yb8
  refine vl _ (.pointer (some ⟨w.heap.size + 1, 13, none⟩)) (want_g rfl rfl s80) (fun hc => ex_fa rfl (ev s5 rfl) (MBox.faLast _ _)) rfl hz (by decide) (fun Yca zz kk s81 => ?_)
  replace s2 := ku s2
  replace s3 := ku s3
  replace s4 := ku s4
  replace s5 := ku s5
  replace s9 := ku s9
  replace s80 := ku s80
  replace hz := zz
  clear kk zz Yb9
  refine vl _ (.int .i64 m.ls) (want_g rfl rfl s80) (fun hc => ex_ld rfl (ev s81 hc) ((HM.out x6 hx6).ldLast)) rfl hz (by decide) (fun Ycb zz kk s82 => ?_)
  replace s2 := ku s2
  replace s3 := ku s3
  replace s4 := ku s4
  replace s5 := ku s5
  replace s9 := ku s9
  replace s80 := ku s80
  replace hz := zz
  clear kk zz s81 Yca
  refine vl _ (.bool (decide (m.ls < 0))) (want_g rfl rfl s80) (fun hc => ex_bin rfl (ev s82 hc) rfl (lssC _ _ _ _ _)) rfl hz (by decide) (fun Ycc zz kk s83 => ?_)
  replace s2 := ku s2
  replace s3 := ku s3
  replace s4 := ku s4
  replace s5 := ku s5
  replace s9 := ku s9
  replace s80 := ku s80
  replace hz := zz
  clear kk zz s82 Ycb
  refine vl _ _ (want_g rfl rfl s80) (fun hc => ex_move rfl (ev s83 hc)) rfl hz (by decide) (fun Ycd zz kk s84 => ?_)
  replace s2 := ku s2
  replace s3 := ku s3
  replace s4 := ku s4
  replace s5 := ku s5
  replace s9 := ku s9
  replace s80 := ku s80
  replace hz := zz
  clear kk zz s83 Ycc
  refine vl ((true && (u2 == true)) && ((decide (m.ls < 0)) == false)) (.pointer (some ⟨w.heap.size + 1, 13, none⟩)) (want_g rfl rfl s84) (fun hc => ex_fa rfl (ev s5 rfl) (MBox.faLast _ _)) rfl hz (by decide) (fun Yce zz kk s85 => ?_)
  replace s2 := ku s2
  replace s3 := ku s3
  replace s4 := ku s4
  replace s5 := ku s5
  replace s9 := ku s9
  replace s80 := ku s80
  replace s84 := ku s84
  replace hz := zz
  clear kk zz Ycd
  refine vl ((true && (u2 == true)) && ((decide (m.ls < 0)) == false)) (.int .i64 m.ls) (want_g rfl rfl s84) (fun hc => ex_ld rfl (ev s85 hc) ((HM.out x6 hx6).ldLast)) rfl hz (by decide) (fun Ycf zz kk s86 => ?_)
  replace s2 := ku s2
  replace s3 := ku s3
  replace s4 := ku s4
  replace s5 := ku s5
  replace s9 := ku s9
  replace s80 := ku s80
  replace s84 := ku s84
  replace hz := zz
  clear kk zz s85 Yce
  refine vl ((true && (u2 == true)) && ((decide (m.ls < 0)) == false)) (.pointer (some ⟨w.heap.size + 1, 2, none⟩)) (want_g rfl rfl s84) (fun hc => ex_fa rfl (ev s5 rfl) (MBox.faView _ _)) rfl hz (by decide) (fun Ycg zz kk s87 => ?_)
  replace s2 := ku s2
  replace s3 := ku s3
  replace s4 := ku s4
  replace s5 := ku s5
  replace s9 := ku s9
  replace s80 := ku s80
  replace s84 := ku s84
  replace s86 := ku s86
  replace hz := zz
  clear kk zz Ycf
  refine vl ((true && (u2 == true)) && ((decide (m.ls < 0)) == false)) (.int .i64 m.vw) (want_g rfl rfl s84) (fun hc => ex_ld rfl (ev s87 hc) ((HM.out x6 hx6).ldView)) rfl hz (by decide) (fun Ych zz kk s88 => ?_)
  replace s2 := ku s2
  replace s3 := ku s3
  replace s4 := ku s4
  replace s5 := ku s5
  replace s9 := ku s9
  replace s80 := ku s80
  replace s84 := ku s84
  replace s86 := ku s86
  replace hz := zz
  clear kk zz s87 Ycg
  refine vl ((true && (u2 == true)) && ((decide (m.ls < 0)) == false)) (.bool (decide (m.vw ≤ m.ls))) (want_g rfl rfl s84) (fun hc => ex_bin rfl (ev s86 hc) (ev s88 hc) (geqC _ _ _ _ _)) rfl hz (by decide) (fun Yci zz kk s89 => ?_)
  replace s2 := ku s2
  replace s3 := ku s3
  replace s4 := ku s4
  replace s5 := ku s5
  replace s9 := ku s9
  replace s80 := ku s80
  replace s84 := ku s84
  replace hz := zz
  clear kk zz s86 s88 Ych
  refine vl _ (.bool ((decide (m.ls < 0)) || (decide (m.vw ≤ m.ls)))) (want_g rfl rfl s80) (fun hc => ex_or rfl s84 s89 hc) rfl hz (by decide) (fun Ycj zz kk s90 => ?_)
  replace s2 := ku s2
  replace s3 := ku s3
  replace s4 := ku s4
  replace s5 := ku s5
  replace s9 := ku s9
  replace s80 := ku s80
  replace hz := zz
  clear kk zz s84 s89 Yci
  refine vt (.bool (u2 && ((decide (m.ls < 0)) || (decide (m.vw ≤ m.ls))))) (ex_and rfl s80 s90 rfl) hz (fun Yck zz kk s91 => ?_)
  replace s2 := ku s2
  replace s3 := ku s3
  replace s4 := ku s4
  replace s5 := ku s5
  replace s9 := ku s9
  replace hz := zz
  clear kk zz s80 s90 Ycj
  refine wpList_nil ?_
  go_upto_region 10 with fail
  cases e8 : (u2 && ((decide (m.ls < 0)) || (decide (m.vw ≤ m.ls))))
  rotate_left
  · refine wp_cond_true ((ev s91 rfl).trans (congrArg Value.bool e8)) ?_
    have HV := hide (HB.out _ hx6)
    have V2 := hide (show fiG f r m L D k u0 u1 u2 u3 u4 u5 u6 u7 u8 u9 = false from by unfold fiG; rw [if_neg (Bool.eq_false_iff.1 e2)]; rw [if_neg (Bool.eq_false_iff.1 e4)]; rw [if_neg (Bool.eq_false_iff.1 e6)]; rw [if_pos e8])
    go_wp2
    refine bodyPost_ret (results_tmp rfl _ _ _) rfl ⟨?_, HV.out⟩
    rw [V2.out]
    show Ending.returned ((Array.setIfInBounds _ 8 (Value.bool false)).getD 8 undef) = _
    rw [getD_of (at_set _ (by rw [hz]; decide))]
  refine wp_cond_false ((ev s91 rfl).trans (congrArg Value.bool e8)) ?_
  go_upto_region 10 with fail
  clear s91
  refine wp_region_lit ?_
  refine vt _ (ex_move rfl (ev s3 rfl)) hz (fun Ycl zz kk s92 => ?_)
  replace s2 := ku s2
  replace s3 := ku s3
  replace s4 := ku s4
  replace s5 := ku s5
  replace s9 := ku s9
  replace hz := zz
  clear kk zz
  refine vt (.pointer (some ⟨g, 3, none⟩)) (ex_ix rfl (ev s92 rfl) rfl (ixBool g 3 10 cu (by decide) _)) hz (fun Ycm zz kk s93 => ?_)
  replace s2 := ku s2
  replace s3 := ku s3
  replace s4 := ku s4
  replace s5 := ku s5
  replace s9 := ku s9
  replace hz := zz
  clear kk zz s92 Ycl
  refine vt (.bool u3) (ex_ld rfl (ev s93 rfl) (ldBool (HU.out x6 hx6 3 _ rfl))) hz (fun Ycn zz kk s94 => ?_)
  replace s2 := ku s2
  replace s3 := ku s3
  replace s4 := ku s4
  replace s5 := ku s5
  replace s9 := ku s9
  replace hz := zz
  clear kk zz s93 Ycm
  refine vt _ (ex_move rfl (ev s94 rfl)) hz (fun Yco zz kk s95 => ?_)
  replace s2 := ku s2
  replace s3 := ku s3
  replace s4 := ku s4
  replace s5 := ku s5
  replace s9 := ku s9
  replace hz := zz
  clear kk zz s94 Ycn
  refine vl _ (.pointer (some ⟨w.heap.size + 1, 11, none⟩)) (want_g rfl rfl s95) (fun hc => ex_fa rfl (ev s5 rfl) (MBox.faPlace _ _)) rfl hz (by decide) (fun Ycp zz kk s96 => ?_)
  replace s2 := ku s2
  replace s3 := ku s3
  replace s4 := ku s4
  replace s5 := ku s5
  replace s9 := ku s9
  replace s95 := ku s95
  replace hz := zz
  clear kk zz Yco
  refine vl _ (.int .i64 m.p) (want_g rfl rfl s95) (fun hc => ex_ld rfl (ev s96 hc) ((HM.out x6 hx6).ldPlace)) rfl hz (by decide) (fun Ycq zz kk s97 => ?_)
  replace s2 := ku s2
  replace s3 := ku s3
  replace s4 := ku s4
  replace s5 := ku s5
  replace s9 := ku s9
  replace s95 := ku s95
  replace hz := zz
  clear kk zz s96 Ycp
  refine vl _ (.bool (decide (m.p < 0))) (want_g rfl rfl s95) (fun hc => ex_bin rfl (ev s97 hc) rfl (lssC _ _ _ _ _)) rfl hz (by decide) (fun Ycr zz kk s98 => ?_)
  replace s2 := ku s2
  replace s3 := ku s3
  replace s4 := ku s4
  replace s5 := ku s5
  replace s9 := ku s9
  replace s95 := ku s95
  replace hz := zz
  clear kk zz s97 Ycq
  refine vl _ _ (want_g rfl rfl s95) (fun hc => ex_move rfl (ev s98 hc)) rfl hz (by decide) (fun Ycs zz kk s99 => ?_)
  replace s2 := ku s2
  replace s3 := ku s3
  replace s4 := ku s4
  replace s5 := ku s5
  replace s9 := ku s9
  replace s95 := ku s95
  replace hz := zz
  clear kk zz s98 Ycr
  refine vl ((true && (u3 == true)) && ((decide (m.p < 0)) == false)) (.pointer (some ⟨w.heap.size + 1, 11, none⟩)) (want_g rfl rfl s99) (fun hc => ex_fa rfl (ev s5 rfl) (MBox.faPlace _ _)) rfl hz (by decide) (fun Yct zz kk s100 => ?_)
  replace s2 := ku s2
  replace s3 := ku s3
  replace s4 := ku s4
  replace s5 := ku s5
  replace s9 := ku s9
  replace s95 := ku s95
  replace s99 := ku s99
  replace hz := zz
  clear kk zz Ycs
  refine vl ((true && (u3 == true)) && ((decide (m.p < 0)) == false)) (.int .i64 m.p) (want_g rfl rfl s99) (fun hc => ex_ld rfl (ev s100 hc) ((HM.out x6 hx6).ldPlace)) rfl hz (by decide) (fun Ycu zz kk s101 => ?_)
  replace s2 := ku s2
  replace s3 := ku s3
  replace s4 := ku s4
  replace s5 := ku s5
  replace s9 := ku s9
  replace s95 := ku s95
  replace s99 := ku s99
  replace hz := zz
  clear kk zz s100 Yct
  refine vl ((true && (u3 == true)) && ((decide (m.p < 0)) == false)) (.pointer (some ⟨w.heap.size, 1, none⟩)) (want_g rfl rfl s99) (fun hc => ex_fa rfl (ev s4 rfl) (CBox.fa1 _ _)) rfl hz (by decide) (fun Ycv zz kk s102 => ?_)
  replace s2 := ku s2
  replace s3 := ku s3
  replace s4 := ku s4
  replace s5 := ku s5
  replace s9 := ku s9
  replace s95 := ku s95
  replace s99 := ku s99
  replace s101 := ku s101
  replace hz := zz
  clear kk zz Ycu
  refine vl ((true && (u3 == true)) && ((decide (m.p < 0)) == false)) (.int .i64 r) (want_g rfl rfl s99) (fun hc => ex_ld rfl (ev s102 hc) ((HC.out x6 hx6).ld1)) rfl hz (by decide) (fun Ycw zz kk s103 => ?_)
  replace s2 := ku s2
  replace s3 := ku s3
  replace s4 := ku s4
  replace s5 := ku s5
  replace s9 := ku s9
  replace s95 := ku s95
  replace s99 := ku s99
  replace s101 := ku s101
  replace hz := zz
  clear kk zz s102 Ycv
  refine vl ((true && (u3 == true)) && ((decide (m.p < 0)) == false)) (.bool (decide (r < m.p))) (want_g rfl rfl s99) (fun hc => ex_bin rfl (ev s101 hc) (ev s103 hc) (gtrC _ _ _ _ _)) rfl hz (by decide) (fun Ycx zz kk s104 => ?_)
  replace s2 := ku s2
  replace s3 := ku s3
  replace s4 := ku s4
  replace s5 := ku s5
  replace s9 := ku s9
  replace s95 := ku s95
  replace s99 := ku s99
  replace hz := zz
  clear kk zz s101 s103 Ycw
  refine vl _ (.bool ((decide (m.p < 0)) || (decide (r < m.p)))) (want_g rfl rfl s95) (fun hc => ex_or rfl s99 s104 hc) rfl hz (by decide) (fun Ycy zz kk s105 => ?_)
  replace s2 := ku s2
  replace s3 := ku s3
  replace s4 := ku s4
  replace s5 := ku s5
  replace s9 := ku s9
  replace s95 := ku s95
  replace hz := zz
  clear kk zz s99 s104 Ycx
  refine vl _ _ (want_g rfl rfl s95) (fun hc => ex_move rfl (ev s105 hc)) rfl hz (by decide) (fun Ycz zz kk s106 => ?_)
  replace s2 := ku s2
  replace s3 := ku s3
  replace s4 := ku s4
  replace s5 := ku s5
  replace s9 := ku s9
  replace s95 := ku s95
  replace hz := zz
  clear kk zz s105 Ycy
  refine vl ((true && (u3 == true)) && (((decide (m.p < 0)) || (decide (r < m.p))) == false)) (.int .i64 k) (want_g rfl rfl s106) (fun hc => ex_move rfl (ev s2 rfl)) rfl hz (by decide) (fun Yc0 zz kk s107 => ?_)
  replace s2 := ku s2
  replace s3 := ku s3
  replace s4 := ku s4
  replace s5 := ku s5
  replace s9 := ku s9
  replace s95 := ku s95
  replace s106 := ku s106
  replace hz := zz
  clear kk zz Ycz
  refine vl ((true && (u3 == true)) && (((decide (m.p < 0)) || (decide (r < m.p))) == false)) (.bool (decide (k = 3))) (want_g rfl rfl s106) (fun hc => ex_bin rfl (ev s107 hc) rfl (eqlC _ _ _ _ _)) rfl hz (by decide) (fun Yc1 zz kk s108 => ?_)
  replace s2 := ku s2
  replace s3 := ku s3
  replace s4 := ku s4
  replace s5 := ku s5
  replace s9 := ku s9
  replace s95 := ku s95
  replace s106 := ku s106
  replace hz := zz
  clear kk zz s107 Yc0
  refine vl ((true && (u3 == true)) && (((decide (m.p < 0)) || (decide (r < m.p))) == false)) (.bool (decide (k = 3))) (want_g rfl rfl s106) (fun hc => ex_move rfl (ev s108 hc)) rfl hz (by decide) (fun Yc2 zz kk s109 => ?_)
  replace s2 := ku s2
  replace s3 := ku s3
  replace s4 := ku s4
  replace s5 := ku s5
  replace s9 := ku s9
  replace s95 := ku s95
  replace s106 := ku s106
  replace hz := zz
  clear kk zz s108 Yc1
  refine vl (((true && (u3 == true)) && (((decide (m.p < 0)) || (decide (r < m.p))) == false)) && ((decide (k = 3)) == true)) (.pointer (some ⟨w.heap.size + 1, 11, none⟩)) (want_g rfl rfl s109) (fun hc => ex_fa rfl (ev s5 rfl) (MBox.faPlace _ _)) rfl hz (by decide) (fun Yc3 zz kk s110 => ?_)
  replace s2 := ku s2
  replace s3 := ku s3
  replace s4 := ku s4
  replace s5 := ku s5
  replace s9 := ku s9
  replace s95 := ku s95
  replace s106 := ku s106
  replace s109 := ku s109
  replace hz := zz
  clear kk zz Yc2
  refine vl (((true && (u3 == true)) && (((decide (m.p < 0)) || (decide (r < m.p))) == false)) && ((decide (k = 3)) == true)) (.int .i64 m.p) (want_g rfl rfl s109) (fun hc => ex_ld rfl (ev s110 hc) ((HM.out x6 hx6).ldPlace)) rfl hz (by decide) (fun Yc4 zz kk s111 => ?_)
  replace s2 := ku s2
  replace s3 := ku s3
  replace s4 := ku s4
  replace s5 := ku s5
  replace s9 := ku s9
  replace s95 := ku s95
  replace s106 := ku s106
  replace s109 := ku s109
  replace hz := zz
  clear kk zz s110 Yc3
  refine vl (((true && (u3 == true)) && (((decide (m.p < 0)) || (decide (r < m.p))) == false)) && ((decide (k = 3)) == true)) (.bool (decide (m.p < 1))) (want_g rfl rfl s109) (fun hc => ex_bin rfl (ev s111 hc) rfl (lssC _ _ _ _ _)) rfl hz (by decide) (fun Yc5 zz kk s112 => ?_)
  replace s2 := ku s2
  replace s3 := ku s3
  replace s4 := ku s4
  replace s5 := ku s5
  replace s9 := ku s9
  replace s95 := ku s95
  replace s106 := ku s106
  replace s109 := ku s109
  replace hz := zz
  clear kk zz s111 Yc4
  refine vl ((true && (u3 == true)) && (((decide (m.p < 0)) || (decide (r < m.p))) == false)) (.bool ((decide (k = 3)) && (decide (m.p < 1)))) (want_g rfl rfl s106) (fun hc => ex_and rfl s109 s112 hc) rfl hz (by decide) (fun Yc6 zz kk s113 => ?_)
  replace s2 := ku s2
  replace s3 := ku s3
  replace s4 := ku s4
  replace s5 := ku s5
  replace s9 := ku s9
  replace s95 := ku s95
  replace s106 := ku s106
  replace hz := zz
  clear kk zz s109 s112 Yc5
  refine vl _ (.bool (((decide (m.p < 0)) || (decide (r < m.p))) || ((decide (k = 3)) && (decide (m.p < 1))))) (want_g rfl rfl s95) (fun hc => ex_or rfl s106 s113 hc) rfl hz (by decide) (fun Yc7 zz kk s114 => ?_)
  replace s2 := ku s2
  replace s3 := ku s3
  replace s4 := ku s4
  replace s5 := ku s5
  replace s9 := ku s9
  replace s95 := ku s95
  replace hz := zz
  clear kk zz s106 s113 Yc6
  refine vl _ _ (want_g rfl rfl s95) (fun hc => ex_move rfl (ev s114 hc)) rfl hz (by decide) (fun Yc8 zz kk s115 => ?_)
  replace s2 := ku s2
  replace s3 := ku s3
  replace s4 := ku s4
  replace s5 := ku s5
  replace s9 := ku s9
  replace s95 := ku s95
  replace hz := zz
  clear kk zz s114 Yc7
  refine vl ((true && (u3 == true)) && ((((decide (m.p < 0)) || (decide (r < m.p))) || ((decide (k = 3)) && (decide (m.p < 1)))) == false)) (.int .i64 k) (want_g rfl rfl s115) (fun hc => ex_move rfl (ev s2 rfl)) rfl hz (by decide) (fun Yc9 zz kk s116 => ?_)
  replace s2 := ku s2
  replace s3 := ku s3
  replace s4 := ku s4
  replace s5 := ku s5
  replace s9 := ku s9
  replace s95 := ku s95
  replace s115 := ku s115
  replace hz := zz
  clear kk zz Yc8
  refine vl ((true && (u3 == true)) && ((((decide (m.p < 0)) || (decide (r < m.p))) || ((decide (k = 3)) && (decide (m.p < 1)))) == false)) (.bool (decide (k = 2))) (want_g rfl rfl s115) (fun hc => ex_bin rfl (ev s116 hc) rfl (eqlC _ _ _ _ _)) rfl hz (by decide) (fun Yda zz kk s117 => ?_)
  replace s2 := ku s2
  replace s3 := ku s3
  replace s4 := ku s4
  replace s5 := ku s5
  replace s9 := ku s9
  replace s95 := ku s95
  replace s115 := ku s115
  replace hz := zz
  clear kk zz s116 Yc9
  refine vl ((true && (u3 == true)) && ((((decide (m.p < 0)) || (decide (r < m.p))) || ((decide (k = 3)) && (decide (m.p < 1)))) == false)) (.bool (decide (k = 2))) (want_g rfl rfl s115) (fun hc => ex_move rfl (ev s117 hc)) rfl hz (by decide) (fun Ydb zz kk s118 => ?_)
  replace s2 := ku s2
  replace s3 := ku s3
  replace s4 := ku s4
  replace s5 := ku s5
  replace s9 := ku s9
  replace s95 := ku s95
  replace s115 := ku s115
  replace hz := zz
  clear kk zz s117 Yda
  refine vl (((true && (u3 == true)) && ((((decide (m.p < 0)) || (decide (r < m.p))) || ((decide (k = 3)) && (decide (m.p < 1)))) == false)) && ((decide (k = 2)) == true)) (.pointer (some ⟨w.heap.size + 1, 11, none⟩)) (want_g rfl rfl s118) (fun hc => ex_fa rfl (ev s5 rfl) (MBox.faPlace _ _)) rfl hz (by decide) (fun Ydc zz kk s119 => ?_)
  replace s2 := ku s2
  replace s3 := ku s3
  replace s4 := ku s4
  replace s5 := ku s5
  replace s9 := ku s9
  replace s95 := ku s95
  replace s115 := ku s115
  replace s118 := ku s118
  replace hz := zz
  clear kk zz Ydb
  refine vl (((true && (u3 == true)) && ((((decide (m.p < 0)) || (decide (r < m.p))) || ((decide (k = 3)) && (decide (m.p < 1)))) == false)) && ((decide (k = 2)) == true)) (.int .i64 m.p) (want_g rfl rfl s118) (fun hc => ex_ld rfl (ev s119 hc) ((HM.out x6 hx6).ldPlace)) rfl hz (by decide) (fun Ydd zz kk s120 => ?_)
  replace s2 := ku s2
  replace s3 := ku s3
  replace s4 := ku s4
  replace s5 := ku s5
  replace s9 := ku s9
  replace s95 := ku s95
  replace s115 := ku s115
  replace s118 := ku s118
  replace hz := zz
  clear kk zz s119 Ydc
  refine vl (((true && (u3 == true)) && ((((decide (m.p < 0)) || (decide (r < m.p))) || ((decide (k = 3)) && (decide (m.p < 1)))) == false)) && ((decide (k = 2)) == true)) (.bool (decide (m.p = 0))) (want_g rfl rfl s118) (fun hc => ex_bin rfl (ev s120 hc) rfl (eqlC _ _ _ _ _)) rfl hz (by decide) (fun Yde zz kk s121 => ?_)
  replace s2 := ku s2
  replace s3 := ku s3
  replace s4 := ku s4
  replace s5 := ku s5
  replace s9 := ku s9
  replace s95 := ku s95
  replace s115 := ku s115
  replace s118 := ku s118
  replace hz := zz
  clear kk zz s120 Ydd
  refine vl (((true && (u3 == true)) && ((((decide (m.p < 0)) || (decide (r < m.p))) || ((decide (k = 3)) && (decide (m.p < 1)))) == false)) && ((decide (k = 2)) == true)) (.pointer (some ⟨w.heap.size + 1, 8, none⟩)) (want_g rfl rfl s118) (fun hc => ex_fa rfl (ev s5 rfl) (MBox.faResult _ _)) rfl hz (by decide) (fun Ydf zz kk s122 => ?_)
  replace s2 := ku s2
  replace s3 := ku s3
  replace s4 := ku s4
  replace s5 := ku s5
  replace s9 := ku s9
  replace s95 := ku s95
  replace s115 := ku s115
  replace s118 := ku s118
  replace s121 := ku s121
  replace hz := zz
  clear kk zz Yde
  refine vl (((true && (u3 == true)) && ((((decide (m.p < 0)) || (decide (r < m.p))) || ((decide (k = 3)) && (decide (m.p < 1)))) == false)) && ((decide (k = 2)) == true)) (.pointer (some ⟨w.heap.size + 1, 8, none⟩)) (want_g rfl rfl s118) (fun hc => ex_fa rfl (ev s122 hc) (faCode _ _)) rfl hz (by decide) (fun Ydg zz kk s123 => ?_)
  replace s2 := ku s2
  replace s3 := ku s3
  replace s4 := ku s4
  replace s5 := ku s5
  replace s9 := ku s9
  replace s95 := ku s95
  replace s115 := ku s115
  replace s118 := ku s118
  replace s121 := ku s121
  replace hz := zz
  clear kk zz s122 Ydf
  refine vl (((true && (u3 == true)) && ((((decide (m.p < 0)) || (decide (r < m.p))) || ((decide (k = 3)) && (decide (m.p < 1)))) == false)) && ((decide (k = 2)) == true)) (.int .i64 m.r.1) (want_g rfl rfl s118) (fun hc => ex_ld rfl (ev s123 hc) (s_ldCode (HM.out x6 hx6))) rfl hz (by decide) (fun Ydh zz kk s124 => ?_)
  replace s2 := ku s2
  replace s3 := ku s3
  replace s4 := ku s4
  replace s5 := ku s5
  replace s9 := ku s9
  replace s95 := ku s95
  replace s115 := ku s115
  replace s118 := ku s118
  replace s121 := ku s121
  replace hz := zz
  clear kk zz s123 Ydg
  refine vl (((true && (u3 == true)) && ((((decide (m.p < 0)) || (decide (r < m.p))) || ((decide (k = 3)) && (decide (m.p < 1)))) == false)) && ((decide (k = 2)) == true)) (.bool (decide (m.r.1 = 7))) (want_g rfl rfl s118) (fun hc => ex_bin rfl (ev s124 hc) rfl (eqlC _ _ _ _ _)) rfl hz (by decide) (fun Ydi zz kk s125 => ?_)
  replace s2 := ku s2
  replace s3 := ku s3
  replace s4 := ku s4
  replace s5 := ku s5
  replace s9 := ku s9
  replace s95 := ku s95
  replace s115 := ku s115
  replace s118 := ku s118
  replace s121 := ku s121
  replace hz := zz
  clear kk zz s124 Ydh
  refine vl (((true && (u3 == true)) && ((((decide (m.p < 0)) || (decide (r < m.p))) || ((decide (k = 3)) && (decide (m.p < 1)))) == false)) && ((decide (k = 2)) == true)) (.bool ((decide (m.p = 0)) != (decide (m.r.1 = 7)))) (want_g rfl rfl s118) (fun hc => ex_bin rfl (ev s121 hc) (ev s125 hc) (neqB _ _ _ _ _)) rfl hz (by decide) (fun Ydj zz kk s126 => ?_)
  replace s2 := ku s2
  replace s3 := ku s3
  replace s4 := ku s4
  replace s5 := ku s5
  replace s9 := ku s9
  replace s95 := ku s95
  replace s115 := ku s115
  replace s118 := ku s118
  replace hz := zz
  clear kk zz s121 s125 Ydi
  refine vl ((true && (u3 == true)) && ((((decide (m.p < 0)) || (decide (r < m.p))) || ((decide (k = 3)) && (decide (m.p < 1)))) == false)) (.bool ((decide (k = 2)) && ((decide (m.p = 0)) != (decide (m.r.1 = 7))))) (want_g rfl rfl s115) (fun hc => ex_and rfl s118 s126 hc) rfl hz (by decide) (fun Ydk zz kk s127 => ?_)
  replace s2 := ku s2
  replace s3 := ku s3
  replace s4 := ku s4
  replace s5 := ku s5
  replace s9 := ku s9
  replace s95 := ku s95
  replace s115 := ku s115
  replace hz := zz
  clear kk zz s118 s126 Ydj
  refine vl _ (.bool ((((decide (m.p < 0)) || (decide (r < m.p))) || ((decide (k = 3)) && (decide (m.p < 1)))) || ((decide (k = 2)) && ((decide (m.p = 0)) != (decide (m.r.1 = 7)))))) (want_g rfl rfl s95) (fun hc => ex_or rfl s115 s127 hc) rfl hz (by decide) (fun Ydl zz kk s128 => ?_)
  replace s2 := ku s2
  replace s3 := ku s3
  replace s4 := ku s4
  replace s5 := ku s5
  replace s9 := ku s9
  replace s95 := ku s95
  replace hz := zz
  clear kk zz s115 s127 Ydk
  refine vt (.bool (u3 && ((((decide (m.p < 0)) || (decide (r < m.p))) || ((decide (k = 3)) && (decide (m.p < 1)))) || ((decide (k = 2)) && ((decide (m.p = 0)) != (decide (m.r.1 = 7))))))) (ex_and rfl s95 s128 rfl) hz (fun Ydm zz kk s129 => ?_)
  replace s2 := ku s2
  replace s3 := ku s3
  replace s4 := ku s4
  replace s5 := ku s5
  replace s9 := ku s9
  replace hz := zz
  clear kk zz s95 s128 Ydl
  refine wpList_nil ?_
  go_upto_region 12 with fail
  cases e10 : (u3 && ((((decide (m.p < 0)) || (decide (r < m.p))) || ((decide (k = 3)) && (decide (m.p < 1)))) || ((decide (k = 2)) && ((decide (m.p = 0)) != (decide (m.r.1 = 7))))))
  rotate_left
  · refine wp_cond_true ((ev s129 rfl).trans (congrArg Value.bool e10)) ?_
    have HV := hide (HB.out _ hx6)
    have V2 := hide (show fiG f r m L D k u0 u1 u2 u3 u4 u5 u6 u7 u8 u9 = false from by unfold fiG; rw [if_neg (Bool.eq_false_iff.1 e2)]; rw [if_neg (Bool.eq_false_iff.1 e4)]; rw [if_neg (Bool.eq_false_iff.1 e6)]; rw [if_neg (Bool.eq_false_iff.1 e8)]; rw [if_pos e10])
    go_wp2
    refine bodyPost_ret (results_tmp rfl _ _ _) rfl ⟨?_, HV.out⟩
    rw [V2.out]
    show Ending.returned ((Array.setIfInBounds _ 8 (Value.bool false)).getD 8 undef) = _
    rw [getD_of (at_set _ (by rw [hz]; decide))]
  refine wp_cond_false ((ev s129 rfl).trans (congrArg Value.bool e10)) ?_
  go_upto_region 12 with fail
  clear s129
  refine wp_region_lit ?_
  refine vt _ (ex_move rfl (ev s3 rfl)) hz (fun Ydn zz kk s130 => ?_)
  replace s2 := ku s2
  replace s3 := ku s3
  replace s4 := ku s4
  replace s5 := ku s5
  replace s9 := ku s9
  replace hz := zz
  clear kk zz
  refine vt (.pointer (some ⟨g, 8, none⟩)) (ex_ix rfl (ev s130 rfl) rfl (ixBool g 8 10 cu (by decide) _)) hz (fun Ydo zz kk s131 => ?_)
  replace s2 := ku s2
  replace s3 := ku s3
  replace s4 := ku s4
  replace s5 := ku s5
  replace s9 := ku s9
  replace hz := zz
  clear kk zz s130 Ydn
  refine vt (.bool u8) (ex_ld rfl (ev s131 rfl) (ldBool (HU.out x6 hx6 8 _ rfl))) hz (fun Ydp zz kk s132 => ?_)
  replace s2 := ku s2
  replace s3 := ku s3
  replace s4 := ku s4
  replace s5 := ku s5
  replace s9 := ku s9
  replace hz := zz
  clear kk zz s131 Ydo
  refine vt _ (ex_move rfl (ev s132 rfl)) hz (fun Ydq zz kk s133 => ?_)
  replace s2 := ku s2
  replace s3 := ku s3
  replace s4 := ku s4
  replace s5 := ku s5
  replace s9 := ku s9
  replace hz := zz
  clear kk zz s132 Ydp
  refine vl _ (.pointer (some ⟨w.heap.size + 1, 16, none⟩)) (want_g rfl rfl s133) (fun hc => ex_fa rfl (ev s5 rfl) (MBox.faLog _ _)) rfl hz (by decide) (fun Ydr zz kk s134 => ?_)
  replace s2 := ku s2
  replace s3 := ku s3
  replace s4 := ku s4
  replace s5 := ku s5
  replace s9 := ku s9
  replace s133 := ku s133
  replace hz := zz
  clear kk zz Ydq
  refine vl _ (.slice a1 L.length cl) (want_g rfl rfl s133) (fun hc => ex_ld rfl (ev s134 hc) ((HM.out x6 hx6).ldLog)) rfl hz (by decide) (fun Yds zz kk s135 => ?_)
  replace s2 := ku s2
  replace s3 := ku s3
  replace s4 := ku s4
  replace s5 := ku s5
  replace s9 := ku s9
  replace s133 := ku s133
  replace hz := zz
  clear kk zz s134 Ydr
  refine vl _ (.pointer (some ⟨w.heap.size, 1, none⟩)) (want_g rfl rfl s133) (fun hc => ex_fa rfl (ev s4 rfl) (CBox.fa1 _ _)) rfl hz (by decide) (fun Ydt zz kk s136 => ?_)
  replace s2 := ku s2
  replace s3 := ku s3
  replace s4 := ku s4
  replace s5 := ku s5
  replace s9 := ku s9
  replace s133 := ku s133
  replace s135 := ku s135
  replace hz := zz
  clear kk zz Yds
  refine vl _ (.int .i64 r) (want_g rfl rfl s133) (fun hc => ex_ld rfl (ev s136 hc) ((HC.out x6 hx6).ld1)) rfl hz (by decide) (fun Ydu zz kk s137 => ?_)
  replace s2 := ku s2
  replace s3 := ku s3
  replace s4 := ku s4
  replace s5 := ku s5
  replace s9 := ku s9
  replace s133 := ku s133
  replace s135 := ku s135
  replace hz := zz
  clear kk zz s136 Ydt
  refine vcall (true && (u8 == true)) (.int .i64 (lg L r)) (want_g rfl rfl s133) (fun hc => by unfold execOp; simp only [resolve, invoke, Sem.run_bind, List.map_toArray, List.map_cons, List.map_nil, (ev s135 hc), (ev s137 hc)]; rfl) (fun hc => HL.out x6 hx6) rfl hz (by decide) (fun Ydv w2 hb zz kk s138 => ?_)
  have hv2 := hx6.trans (hb.mono hx6.size)
  clear hb
  replace s2 := ku s2
  replace s3 := ku s3
  replace s4 := ku s4
  replace s5 := ku s5
  replace s9 := ku s9
  replace s133 := ku s133
  replace hz := zz
  clear kk zz s135 s137 Ydu
  refine vl _ (.bool (!decide ((lg L r) = 0))) (want_g rfl rfl s133) (fun hc => ex_bin rfl (ev s138 hc) rfl (neqC _ _ _ _ _)) rfl hz (by decide) (fun Ydw zz kk s139 => ?_)
  replace s2 := ku s2
  replace s3 := ku s3
  replace s4 := ku s4
  replace s5 := ku s5
  replace s9 := ku s9
  replace s133 := ku s133
  replace hz := zz
  clear kk zz s138 Ydv
  refine vt (.bool (u8 && (!decide ((lg L r) = 0)))) (ex_and rfl s133 s139 rfl) hz (fun Ydx zz kk s140 => ?_)
  replace s2 := ku s2
  replace s3 := ku s3
  replace s4 := ku s4
  replace s5 := ku s5
  replace s9 := ku s9
  replace hz := zz
  clear kk zz s133 s139 Ydw
  refine wpList_nil ?_
  go_upto_region 14 with fail
  cases e12 : (u8 && (!decide ((lg L r) = 0)))
  rotate_left
  · refine wp_cond_true ((ev s140 rfl).trans (congrArg Value.bool e12)) ?_
    have HV := hide (HB.out _ hv2)
    have V2 := hide (show fiG f r m L D k u0 u1 u2 u3 u4 u5 u6 u7 u8 u9 = false from by unfold fiG; rw [if_neg (Bool.eq_false_iff.1 e2)]; rw [if_neg (Bool.eq_false_iff.1 e4)]; rw [if_neg (Bool.eq_false_iff.1 e6)]; rw [if_neg (Bool.eq_false_iff.1 e8)]; rw [if_neg (Bool.eq_false_iff.1 e10)]; rw [if_pos e12])
    go_wp2
    refine bodyPost_ret (results_tmp rfl _ _ _) rfl ⟨?_, HV.out⟩
    rw [V2.out]
    show Ending.returned ((Array.setIfInBounds _ 8 (Value.bool false)).getD 8 undef) = _
    rw [getD_of (at_set _ (by rw [hz]; decide))]
  refine wp_cond_false ((ev s140 rfl).trans (congrArg Value.bool e12)) ?_
  go_upto_region 14 with fail
  clear s140
  refine wp_region_lit ?_
  refine vt _ (ex_move rfl (ev s3 rfl)) hz (fun Ydy zz kk s141 => ?_)
  replace s2 := ku s2
  replace s3 := ku s3
  replace s4 := ku s4
  replace s5 := ku s5
  replace s9 := ku s9
  replace hz := zz
  clear kk zz
  refine vt (.pointer (some ⟨g, 4, none⟩)) (ex_ix rfl (ev s141 rfl) rfl (ixBool g 4 10 cu (by decide) _)) hz (fun Ydz zz kk s142 => ?_)
  replace s2 := ku s2
  replace s3 := ku s3
  replace s4 := ku s4
  replace s5 := ku s5
  replace s9 := ku s9
  replace hz := zz
  clear kk zz s141 Ydy
  refine vt (.bool u4) (ex_ld rfl (ev s142 rfl) (ldBool (HU.out w2 hv2 4 _ rfl))) hz (fun Yd0 zz kk s143 => ?_)
  replace s2 := ku s2
  replace s3 := ku s3
  replace s4 := ku s4
  replace s5 := ku s5
  replace s9 := ku s9
  replace hz := zz
  clear kk zz s142 Ydz
  refine vt _ (ex_move rfl (ev s143 rfl)) hz (fun Yd1 zz kk s144 => ?_)
  replace s2 := ku s2
  replace s3 := ku s3
  replace s4 := ku s4
  replace s5 := ku s5
  replace s9 := ku s9
  replace hz := zz
  clear kk zz s143 Yd0
  refine vl _ (.pointer (some ⟨w.heap.size + 1, 12, none⟩)) (want_g rfl rfl s144) (fun hc => ex_fa rfl (ev s5 rfl) (MBox.faCommit _ _)) rfl hz (by decide) (fun Yd2 zz kk s145 => ?_)
  replace s2 := ku s2
  replace s3 := ku s3
  replace s4 := ku s4
  replace s5 := ku s5
  replace s9 := ku s9
  replace s144 := ku s144
  replace hz := zz
  clear kk zz Yd1
  refine vl _ (.int .i64 m.cm) (want_g rfl rfl s144) (fun hc => ex_ld rfl (ev s145 hc) ((HM.out w2 hv2).ldCommit)) rfl hz (by decide) (fun Yd3 zz kk s146 => ?_)
  replace s2 := ku s2
  replace s3 := ku s3
  replace s4 := ku s4
  replace s5 := ku s5
  replace s9 := ku s9
  replace s144 := ku s144
  replace hz := zz
  clear kk zz s145 Yd2
  refine vl _ (.bool (decide (m.cm < 0))) (want_g rfl rfl s144) (fun hc => ex_bin rfl (ev s146 hc) rfl (lssC _ _ _ _ _)) rfl hz (by decide) (fun Yd4 zz kk s147 => ?_)
  replace s2 := ku s2
  replace s3 := ku s3
  replace s4 := ku s4
  replace s5 := ku s5
  replace s9 := ku s9
  replace s144 := ku s144
  replace hz := zz
  clear kk zz s146 Yd3
  refine vl _ _ (want_g rfl rfl s144) (fun hc => ex_move rfl (ev s147 hc)) rfl hz (by decide) (fun Yd5 zz kk s148 => ?_)
  replace s2 := ku s2
  replace s3 := ku s3
  replace s4 := ku s4
  replace s5 := ku s5
  replace s9 := ku s9
  replace s144 := ku s144
  replace hz := zz
  clear kk zz s147 Yd4
  refine vl ((true && (u4 == true)) && ((decide (m.cm < 0)) == false)) (.pointer (some ⟨w.heap.size + 1, 12, none⟩)) (want_g rfl rfl s148) (fun hc => ex_fa rfl (ev s5 rfl) (MBox.faCommit _ _)) rfl hz (by decide) (fun Yd6 zz kk s149 => ?_)
  replace s2 := ku s2
  replace s3 := ku s3
  replace s4 := ku s4
  replace s5 := ku s5
  replace s9 := ku s9
  replace s144 := ku s144
  replace s148 := ku s148
  replace hz := zz
  clear kk zz Yd5
  refine vl ((true && (u4 == true)) && ((decide (m.cm < 0)) == false)) (.int .i64 m.cm) (want_g rfl rfl s148) (fun hc => ex_ld rfl (ev s149 hc) ((HM.out w2 hv2).ldCommit)) rfl hz (by decide) (fun Yd7 zz kk s150 => ?_)
  replace s2 := ku s2
  replace s3 := ku s3
  replace s4 := ku s4
  replace s5 := ku s5
  replace s9 := ku s9
  replace s144 := ku s144
  replace s148 := ku s148
  replace hz := zz
  clear kk zz s149 Yd6
  refine vl ((true && (u4 == true)) && ((decide (m.cm < 0)) == false)) (.pointer (some ⟨w.heap.size, 1, none⟩)) (want_g rfl rfl s148) (fun hc => ex_fa rfl (ev s4 rfl) (CBox.fa1 _ _)) rfl hz (by decide) (fun Yd8 zz kk s151 => ?_)
  replace s2 := ku s2
  replace s3 := ku s3
  replace s4 := ku s4
  replace s5 := ku s5
  replace s9 := ku s9
  replace s144 := ku s144
  replace s148 := ku s148
  replace s150 := ku s150
  replace hz := zz
  clear kk zz Yd7
  refine vl ((true && (u4 == true)) && ((decide (m.cm < 0)) == false)) (.int .i64 r) (want_g rfl rfl s148) (fun hc => ex_ld rfl (ev s151 hc) ((HC.out w2 hv2).ld1)) rfl hz (by decide) (fun Yd9 zz kk s152 => ?_)
  replace s2 := ku s2
  replace s3 := ku s3
  replace s4 := ku s4
  replace s5 := ku s5
  replace s9 := ku s9
  replace s144 := ku s144
  replace s148 := ku s148
  replace s150 := ku s150
  replace hz := zz
  clear kk zz s151 Yd8
  refine vl ((true && (u4 == true)) && ((decide (m.cm < 0)) == false)) (.bool (decide (r < m.cm))) (want_g rfl rfl s148) (fun hc => ex_bin rfl (ev s150 hc) (ev s152 hc) (gtrC _ _ _ _ _)) rfl hz (by decide) (fun Yea zz kk s153 => ?_)
  replace s2 := ku s2
  replace s3 := ku s3
  replace s4 := ku s4
  replace s5 := ku s5
  replace s9 := ku s9
  replace s144 := ku s144
  replace s148 := ku s148
  replace hz := zz
  clear kk zz s150 s152 Yd9
  refine vl _ (.bool ((decide (m.cm < 0)) || (decide (r < m.cm)))) (want_g rfl rfl s144) (fun hc => ex_or rfl s148 s153 hc) rfl hz (by decide) (fun Yeb zz kk s154 => ?_)
  replace s2 := ku s2
  replace s3 := ku s3
  replace s4 := ku s4
  replace s5 := ku s5
  replace s9 := ku s9
  replace s144 := ku s144
  replace hz := zz
  clear kk zz s148 s153 Yea
  refine vl _ _ (want_g rfl rfl s144) (fun hc => ex_move rfl (ev s154 hc)) rfl hz (by decide) (fun Yec zz kk s155 => ?_)
  replace s2 := ku s2
  replace s3 := ku s3
  replace s4 := ku s4
  replace s5 := ku s5
  replace s9 := ku s9
  replace s144 := ku s144
  replace hz := zz
  clear kk zz s154 Yeb
  refine vl ((true && (u4 == true)) && (((decide (m.cm < 0)) || (decide (r < m.cm))) == false)) (.slice (some ⟨g, 0, none⟩) 10 cu) (want_g rfl rfl s155) (fun hc => ex_move rfl (ev s3 rfl)) rfl hz (by decide) (fun Yed zz kk s156 => ?_)
  replace s2 := ku s2
  replace s3 := ku s3
  replace s4 := ku s4
  replace s5 := ku s5
  replace s9 := ku s9
  replace s144 := ku s144
  replace s155 := ku s155
  replace hz := zz
  clear kk zz Yec
  refine vl ((true && (u4 == true)) && (((decide (m.cm < 0)) || (decide (r < m.cm))) == false)) (.pointer (some ⟨g, 8, none⟩)) (want_g rfl rfl s155) (fun hc => ex_ix rfl (ev s156 hc) rfl (ixBool g 8 10 cu (by decide) _)) rfl hz (by decide) (fun Yee zz kk s157 => ?_)
  replace s2 := ku s2
  replace s3 := ku s3
  replace s4 := ku s4
  replace s5 := ku s5
  replace s9 := ku s9
  replace s144 := ku s144
  replace s155 := ku s155
  replace hz := zz
  clear kk zz s156 Yed
  refine vl ((true && (u4 == true)) && (((decide (m.cm < 0)) || (decide (r < m.cm))) == false)) (.bool u8) (want_g rfl rfl s155) (fun hc => ex_ld rfl (ev s157 hc) (ldBool (HU.out w2 hv2 8 _ rfl))) rfl hz (by decide) (fun Yef zz kk s158 => ?_)
  replace s2 := ku s2
  replace s3 := ku s3
  replace s4 := ku s4
  replace s5 := ku s5
  replace s9 := ku s9
  replace s144 := ku s144
  replace s155 := ku s155
  replace hz := zz
  clear kk zz s157 Yee
  refine vl ((true && (u4 == true)) && (((decide (m.cm < 0)) || (decide (r < m.cm))) == false)) (.bool u8) (want_g rfl rfl s155) (fun hc => ex_move rfl (ev s158 hc)) rfl hz (by decide) (fun Yeg zz kk s159 => ?_)
  replace s2 := ku s2
  replace s3 := ku s3
  replace s4 := ku s4
  replace s5 := ku s5
  replace s9 := ku s9
  replace s144 := ku s144
  replace s155 := ku s155
  replace hz := zz
  clear kk zz s158 Yef
  refine vl (((true && (u4 == true)) && (((decide (m.cm < 0)) || (decide (r < m.cm))) == false)) && (u8 == true)) (.pointer (some ⟨w.heap.size + 1, 12, none⟩)) (want_g rfl rfl s159) (fun hc => ex_fa rfl (ev s5 rfl) (MBox.faCommit _ _)) rfl hz (by decide) (fun Yeh zz kk s160 => ?_)
  replace s2 := ku s2
  replace s3 := ku s3
  replace s4 := ku s4
  replace s5 := ku s5
  replace s9 := ku s9
  replace s144 := ku s144
  replace s155 := ku s155
  replace s159 := ku s159
  replace hz := zz
  clear kk zz Yeg
  refine vl (((true && (u4 == true)) && (((decide (m.cm < 0)) || (decide (r < m.cm))) == false)) && (u8 == true)) (.int .i64 m.cm) (want_g rfl rfl s159) (fun hc => ex_ld rfl (ev s160 hc) ((HM.out w2 hv2).ldCommit)) rfl hz (by decide) (fun Yei zz kk s161 => ?_)
  replace s2 := ku s2
  replace s3 := ku s3
  replace s4 := ku s4
  replace s5 := ku s5
  replace s9 := ku s9
  replace s144 := ku s144
  replace s155 := ku s155
  replace s159 := ku s159
  replace hz := zz
  clear kk zz s160 Yeh
  refine vl (((true && (u4 == true)) && (((decide (m.cm < 0)) || (decide (r < m.cm))) == false)) && (u8 == true)) (.pointer (some ⟨w.heap.size + 1, 16, none⟩)) (want_g rfl rfl s159) (fun hc => ex_fa rfl (ev s5 rfl) (MBox.faLog _ _)) rfl hz (by decide) (fun Yej zz kk s162 => ?_)
  replace s2 := ku s2
  replace s3 := ku s3
  replace s4 := ku s4
  replace s5 := ku s5
  replace s9 := ku s9
  replace s144 := ku s144
  replace s155 := ku s155
  replace s159 := ku s159
  replace s161 := ku s161
  replace hz := zz
  clear kk zz Yei
  refine vl (((true && (u4 == true)) && (((decide (m.cm < 0)) || (decide (r < m.cm))) == false)) && (u8 == true)) (.slice a1 L.length cl) (want_g rfl rfl s159) (fun hc => ex_ld rfl (ev s162 hc) ((HM.out w2 hv2).ldLog)) rfl hz (by decide) (fun Yek zz kk s163 => ?_)
  replace s2 := ku s2
  replace s3 := ku s3
  replace s4 := ku s4
  replace s5 := ku s5
  replace s9 := ku s9
  replace s144 := ku s144
  replace s155 := ku s155
  replace s159 := ku s159
  replace s161 := ku s161
  replace hz := zz
  clear kk zz s162 Yej
  refine vl (((true && (u4 == true)) && (((decide (m.cm < 0)) || (decide (r < m.cm))) == false)) && (u8 == true)) (.int .i64 ((L.length : Nat) : Int)) (want_g rfl rfl s159) (fun hc => ex_lenE rfl rfl (ev s163 hc)) rfl hz (by decide) (fun Yel zz kk s164 => ?_)
  replace s2 := ku s2
  replace s3 := ku s3
  replace s4 := ku s4
  replace s5 := ku s5
  replace s9 := ku s9
  replace s144 := ku s144
  replace s155 := ku s155
  replace s159 := ku s159
  replace s161 := ku s161
  replace hz := zz
  clear kk zz s163 Yek
  refine vl (((true && (u4 == true)) && (((decide (m.cm < 0)) || (decide (r < m.cm))) == false)) && (u8 == true)) (.bool (decide (((L.length : Nat) : Int) < m.cm))) (want_g rfl rfl s159) (fun hc => ex_bin rfl (ev s161 hc) (ev s164 hc) (gtrC _ _ _ _ _)) rfl hz (by decide) (fun Yem zz kk s165 => ?_)
  replace s2 := ku s2
  replace s3 := ku s3
  replace s4 := ku s4
  replace s5 := ku s5
  replace s9 := ku s9
  replace s144 := ku s144
  replace s155 := ku s155
  replace s159 := ku s159
  replace hz := zz
  clear kk zz s161 s164 Yel
  refine vl ((true && (u4 == true)) && (((decide (m.cm < 0)) || (decide (r < m.cm))) == false)) (.bool (u8 && (decide (((L.length : Nat) : Int) < m.cm)))) (want_g rfl rfl s155) (fun hc => ex_and rfl s159 s165 hc) rfl hz (by decide) (fun Yen zz kk s166 => ?_)
  replace s2 := ku s2
  replace s3 := ku s3
  replace s4 := ku s4
  replace s5 := ku s5
  replace s9 := ku s9
  replace s144 := ku s144
  replace s155 := ku s155
  replace hz := zz
  clear kk zz s159 s165 Yem
  refine vl _ (.bool (((decide (m.cm < 0)) || (decide (r < m.cm))) || (u8 && (decide (((L.length : Nat) : Int) < m.cm))))) (want_g rfl rfl s144) (fun hc => ex_or rfl s155 s166 hc) rfl hz (by decide) (fun Yeo zz kk s167 => ?_)
  replace s2 := ku s2
  replace s3 := ku s3
  replace s4 := ku s4
  replace s5 := ku s5
  replace s9 := ku s9
  replace s144 := ku s144
  replace hz := zz
  clear kk zz s155 s166 Yen
  refine vt (.bool (u4 && (((decide (m.cm < 0)) || (decide (r < m.cm))) || (u8 && (decide (((L.length : Nat) : Int) < m.cm)))))) (ex_and rfl s144 s167 rfl) hz (fun Yep zz kk s168 => ?_)
  replace s2 := ku s2
  replace s3 := ku s3
  replace s4 := ku s4
  replace s5 := ku s5
  replace s9 := ku s9
  replace hz := zz
  clear kk zz s144 s167 Yeo
  refine wpList_nil ?_
  go_upto_region 16 with fail
  cases e14 : (u4 && (((decide (m.cm < 0)) || (decide (r < m.cm))) || (u8 && (decide (((L.length : Nat) : Int) < m.cm)))))
  rotate_left
  · refine wp_cond_true ((ev s168 rfl).trans (congrArg Value.bool e14)) ?_
    have HV := hide (HB.out _ hv2)
    have V2 := hide (show fiG f r m L D k u0 u1 u2 u3 u4 u5 u6 u7 u8 u9 = false from by unfold fiG; rw [if_neg (Bool.eq_false_iff.1 e2)]; rw [if_neg (Bool.eq_false_iff.1 e4)]; rw [if_neg (Bool.eq_false_iff.1 e6)]; rw [if_neg (Bool.eq_false_iff.1 e8)]; rw [if_neg (Bool.eq_false_iff.1 e10)]; rw [if_neg (Bool.eq_false_iff.1 e12)]; rw [if_pos e14])
    go_wp2
    refine bodyPost_ret (results_tmp rfl _ _ _) rfl ⟨?_, HV.out⟩
    rw [V2.out]
    show Ending.returned ((Array.setIfInBounds _ 8 (Value.bool false)).getD 8 undef) = _
    rw [getD_of (at_set _ (by rw [hz]; decide))]
  refine wp_cond_false ((ev s168 rfl).trans (congrArg Value.bool e14)) ?_
  go_upto_region 16 with fail
  clear s168
  refine vq_start (C := fun v => Below w1.heap.size w1 v) (by kernel_rfl) (by kernel_rfl) (belN hv2 1) ?_
  refine vq true _ (want_none rfl) (fun hc v hv => ex_move rfl (ev s2 rfl)) rfl hz (by decide) (fun Yeq zz kk s169 => ?_)
  replace s2 := ku s2
  replace s3 := ku s3
  replace s4 := ku s4
  replace s5 := ku s5
  replace s9 := ku s9
  replace hz := zz
  clear kk zz
  refine vq true (.bool (decide (k = 10))) (want_none rfl) (fun hc v hv => ex_bin rfl (ev s169 rfl) rfl (eqlC _ _ _ _ _)) rfl hz (by decide) (fun Yer zz kk s170 => ?_)
  replace s2 := ku s2
  replace s3 := ku s3
  replace s4 := ku s4
  replace s5 := ku s5
  replace s9 := ku s9
  replace hz := zz
  clear kk zz s169 Yeq
  refine vq true _ (want_none rfl) (fun hc v hv => ex_move rfl (ev s170 rfl)) rfl hz (by decide) (fun Yes zz kk s171 => ?_)
  replace s2 := ku s2
  replace s3 := ku s3
  replace s4 := ku s4
  replace s5 := ku s5
  replace s9 := ku s9
  replace hz := zz
  clear kk zz s170 Yer
  refine vq _ (.pointer (some ⟨w.heap.size + 1, 16, none⟩)) (want_g rfl rfl s171) (fun hc v hv => ex_fa rfl (ev s5 rfl) (MBox.faLog _ _)) rfl hz (by decide) (fun Yet zz kk s172 => ?_)
  replace s2 := ku s2
  replace s3 := ku s3
  replace s4 := ku s4
  replace s5 := ku s5
  replace s9 := ku s9
  replace s171 := ku s171
  replace hz := zz
  clear kk zz Yes
  refine vq _ (.slice a1 L.length cl) (want_g rfl rfl s171) (fun hc v hv => ex_ld rfl (ev s172 hc) ((HM.out v hv).ldLog)) rfl hz (by decide) (fun Yeu zz kk s173 => ?_)
  replace s2 := ku s2
  replace s3 := ku s3
  replace s4 := ku s4
  replace s5 := ku s5
  replace s9 := ku s9
  replace s171 := ku s171
  replace hz := zz
  clear kk zz s172 Yet
  refine vq _ (.int .i64 ((L.length : Nat) : Int)) (want_g rfl rfl s171) (fun hc v hv => ex_lenE rfl rfl (ev s173 hc)) rfl hz (by decide) (fun Yev zz kk s174 => ?_)
  replace s2 := ku s2
  replace s3 := ku s3
  replace s4 := ku s4
  replace s5 := ku s5
  replace s9 := ku s9
  replace s171 := ku s171
  replace hz := zz
  clear kk zz s173 Yeu
  refine vq _ (.bool (decide (0 < ((L.length : Nat) : Int)))) (want_g rfl rfl s171) (fun hc v hv => ex_bin rfl (ev s174 hc) rfl (gtrC _ _ _ _ _)) rfl hz (by decide) (fun Yew zz kk s175 => ?_)
  replace s2 := ku s2
  replace s3 := ku s3
  replace s4 := ku s4
  replace s5 := ku s5
  replace s9 := ku s9
  replace s171 := ku s171
  replace hz := zz
  clear kk zz s174 Yev
  refine vq true (.bool ((decide (k = 10)) && (decide (0 < ((L.length : Nat) : Int))))) (want_none rfl) (fun hc v hv => ex_and rfl s171 s175 rfl) rfl hz (by decide) (fun Yex zz kk s176 => ?_)
  replace s2 := ku s2
  replace s3 := ku s3
  replace s4 := ku s4
  replace s5 := ku s5
  replace s9 := ku s9
  replace hz := zz
  clear kk zz s171 s175 Yew
  refine vq true _ (want_none rfl) (fun hc v hv => ex_move rfl (ev s176 rfl)) rfl hz (by decide) (fun Yey zz kk s177 => ?_)
  replace s2 := ku s2
  replace s3 := ku s3
  replace s4 := ku s4
  replace s5 := ku s5
  replace s9 := ku s9
  replace hz := zz
  clear kk zz s176 Yex
  refine vq _ (.pointer (some ⟨w.heap.size + 1, 1, none⟩)) (want_g rfl rfl s177) (fun hc v hv => ex_fa rfl (ev s5 rfl) (MBox.faNode _ _)) rfl hz (by decide) (fun Yez zz kk s178 => ?_)
  replace s2 := ku s2
  replace s3 := ku s3
  replace s4 := ku s4
  replace s5 := ku s5
  replace s9 := ku s9
  replace s177 := ku s177
  replace hz := zz
  clear kk zz Yey
  refine vq _ (.int .i64 m.nd) (want_g rfl rfl s177) (fun hc v hv => ex_ld rfl (ev s178 hc) ((HM.out v hv).ldNode)) rfl hz (by decide) (fun Ye0 zz kk s179 => ?_)
  replace s2 := ku s2
  replace s3 := ku s3
  replace s4 := ku s4
  replace s5 := ku s5
  replace s9 := ku s9
  replace s177 := ku s177
  replace hz := zz
  clear kk zz s178 Yez
  refine vq _ (.pointer (some ⟨w.heap.size + 1, 2, none⟩)) (want_g rfl rfl s177) (fun hc v hv => ex_fa rfl (ev s5 rfl) (MBox.faView _ _)) rfl hz (by decide) (fun Ye1 zz kk s180 => ?_)
  replace s2 := ku s2
  replace s3 := ku s3
  replace s4 := ku s4
  replace s5 := ku s5
  replace s9 := ku s9
  replace s177 := ku s177
  replace s179 := ku s179
  replace hz := zz
  clear kk zz Ye0
  refine vq _ (.int .i64 m.vw) (want_g rfl rfl s177) (fun hc v hv => ex_ld rfl (ev s180 hc) ((HM.out v hv).ldView)) rfl hz (by decide) (fun Ye2 zz kk s181 => ?_)
  replace s2 := ku s2
  replace s3 := ku s3
  replace s4 := ku s4
  replace s5 := ku s5
  replace s9 := ku s9
  replace s177 := ku s177
  replace s179 := ku s179
  replace hz := zz
  clear kk zz s180 Ye1
  refine vq _ _ (want_g rfl rfl s177) (fun hc v hv => ex_move rfl (ev s9 rfl)) rfl hz (by decide) (fun Ye3 zz kk s182 => ?_)
  replace s2 := ku s2
  replace s3 := ku s3
  replace s4 := ku s4
  replace s5 := ku s5
  replace s9 := ku s9
  replace s177 := ku s177
  replace s179 := ku s179
  replace s181 := ku s181
  replace hz := zz
  clear kk zz Ye2
  refine vq _ (.int .i64 ((m.vw).tmod ((2 * f + 1)))) (want_g rfl rfl s177) (fun hc v hv => ex_bin rfl (ev s181 hc) (ev s182 hc) (remC HN.out _ _ _ _)) rfl hz (by decide) (fun Ye4 zz kk s183 => ?_)
  replace s2 := ku s2
  replace s3 := ku s3
  replace s4 := ku s4
  replace s5 := ku s5
  replace s9 := ku s9
  replace s177 := ku s177
  replace s179 := ku s179
  replace hz := zz
  clear kk zz s181 s182 Ye3
  refine vq _ (.bool (!decide (m.nd = ((m.vw).tmod ((2 * f + 1)))))) (want_g rfl rfl s177) (fun hc v hv => ex_bin rfl (ev s179 hc) (ev s183 hc) (neqC _ _ _ _ _)) rfl hz (by decide) (fun Ye5 zz kk s184 => ?_)
  replace s2 := ku s2
  replace s3 := ku s3
  replace s4 := ku s4
  replace s5 := ku s5
  replace s9 := ku s9
  replace s177 := ku s177
  replace hz := zz
  clear kk zz s179 s183 Ye4
  refine vq true (.bool (((decide (k = 10)) && (decide (0 < ((L.length : Nat) : Int)))) && (!decide (m.nd = ((m.vw).tmod ((2 * f + 1))))))) (want_none rfl) (fun hc v hv => ex_and rfl s177 s184 rfl) rfl hz (by decide) (fun Ye6 zz kk s185 => ?_)
  replace s2 := ku s2
  replace s3 := ku s3
  replace s4 := ku s4
  replace s5 := ku s5
  replace s9 := ku s9
  replace hz := zz
  clear kk zz s177 s184 Ye5
  refine vq_nil (fun x16 hx16 => ?_)
  go_upto_region 18 with fail
  cases e16 : (((decide (k = 10)) && (decide (0 < ((L.length : Nat) : Int)))) && (!decide (m.nd = ((m.vw).tmod ((2 * f + 1))))))
  rotate_left
  · refine wp_cond_true ((ev s185 rfl).trans (congrArg Value.bool e16)) ?_
    have HV := hide (HB.out _ hx16)
    have V2 := hide (show fiG f r m L D k u0 u1 u2 u3 u4 u5 u6 u7 u8 u9 = false from by unfold fiG; rw [if_neg (Bool.eq_false_iff.1 e2)]; rw [if_neg (Bool.eq_false_iff.1 e4)]; rw [if_neg (Bool.eq_false_iff.1 e6)]; rw [if_neg (Bool.eq_false_iff.1 e8)]; rw [if_neg (Bool.eq_false_iff.1 e10)]; rw [if_neg (Bool.eq_false_iff.1 e12)]; rw [if_neg (Bool.eq_false_iff.1 e14)]; rw [if_pos e16])
    go_wp2
    refine bodyPost_ret (results_tmp rfl _ _ _) rfl ⟨?_, HV.out⟩
    rw [V2.out]
    show Ending.returned ((Array.setIfInBounds _ 8 (Value.bool false)).getD 8 undef) = _
    rw [getD_of (at_set _ (by rw [hz]; decide))]
  refine wp_cond_false ((ev s185 rfl).trans (congrArg Value.bool e16)) ?_
  go_upto_region 18 with fail
  clear s185
  refine wp_region_lit ?_
  refine vt _ (ex_move rfl (ev s3 rfl)) hz (fun Ye7 zz kk s186 => ?_)
  replace s2 := ku s2
  replace s3 := ku s3
  replace s4 := ku s4
  replace s5 := ku s5
  replace s9 := ku s9
  replace hz := zz
  clear kk zz
  refine vt (.pointer (some ⟨g, 9, none⟩)) (ex_ix rfl (ev s186 rfl) rfl (ixBool g 9 10 cu (by decide) _)) hz (fun Ye8 zz kk s187 => ?_)
  replace s2 := ku s2
  replace s3 := ku s3
  replace s4 := ku s4
  replace s5 := ku s5
  replace s9 := ku s9
  replace hz := zz
  clear kk zz s186 Ye7
  refine vt (.bool u9) (ex_ld rfl (ev s187 rfl) (ldBool (HU.out x16 hx16 9 _ rfl))) hz (fun Ye9 zz kk s188 => ?_)
  replace s2 := ku s2
  replace s3 := ku s3
  replace s4 := ku s4
  replace s5 := ku s5
  replace s9 := ku s9
  replace hz := zz
  clear kk zz s187 Ye8
  refine vt _ (ex_move rfl (ev s188 rfl)) hz (fun Yfa zz kk s189 => ?_)
  replace s2 := ku s2
  replace s3 := ku s3
  replace s4 := ku s4
  replace s5 := ku s5
  replace s9 := ku s9
  replace hz := zz
  clear kk zz s188 Ye9
  refine vl _ (.pointer (some ⟨w.heap.size + 1, 17, none⟩)) (want_g rfl rfl s189) (fun hc => ex_fa rfl (ev s5 rfl) (MBox.faVector _ _)) rfl hz (by decide) (fun Yfb zz kk s190 => ?_)
  replace s2 := ku s2
  replace s3 := ku s3
  replace s4 := ku s4
  replace s5 := ku s5
  replace s9 := ku s9
  replace s189 := ku s189
  replace hz := zz
  clear kk zz Yfa
  refine vl _ (.slice a2 D.length cv) (want_g rfl rfl s189) (fun hc => ex_ld rfl (ev s190 hc) ((HM.out x16 hx16).ldVector)) rfl hz (by decide) (fun Yfc zz kk s191 => ?_)
  replace s2 := ku s2
  replace s3 := ku s3
  replace s4 := ku s4
  replace s5 := ku s5
  replace s9 := ku s9
  replace s189 := ku s189
  replace hz := zz
  clear kk zz s190 Yfb
  refine vl _ (.int .i64 ((D.length : Nat) : Int)) (want_g rfl rfl s189) (fun hc => ex_lenV rfl rfl (ev s191 hc)) rfl hz (by decide) (fun Yfd zz kk s192 => ?_)
  replace s2 := ku s2
  replace s3 := ku s3
  replace s4 := ku s4
  replace s5 := ku s5
  replace s9 := ku s9
  replace s189 := ku s189
  replace hz := zz
  clear kk zz s191 Yfc
  refine vl _ _ (want_g rfl rfl s189) (fun hc => ex_move rfl (ev s9 rfl)) rfl hz (by decide) (fun Yfe zz kk s193 => ?_)
  replace s2 := ku s2
  replace s3 := ku s3
  replace s4 := ku s4
  replace s5 := ku s5
  replace s9 := ku s9
  replace s189 := ku s189
  replace s192 := ku s192
  replace hz := zz
  clear kk zz Yfd
  refine vl _ (.bool (!decide (((D.length : Nat) : Int) = (2 * f + 1)))) (want_g rfl rfl s189) (fun hc => ex_bin rfl (ev s192 hc) (ev s193 hc) (neqC _ _ _ _ _)) rfl hz (by decide) (fun Yff zz kk s194 => ?_)
  replace s2 := ku s2
  replace s3 := ku s3
  replace s4 := ku s4
  replace s5 := ku s5
  replace s9 := ku s9
  replace s189 := ku s189
  replace hz := zz
  clear kk zz s192 s193 Yfe
  refine vt (.bool (u9 && (!decide (((D.length : Nat) : Int) = (2 * f + 1))))) (ex_and rfl s189 s194 rfl) hz (fun Yfg zz kk s195 => ?_)
  replace s2 := ku s2
  replace s3 := ku s3
  replace s4 := ku s4
  replace s5 := ku s5
  replace s9 := ku s9
  replace hz := zz
  clear kk zz s189 s194 Yff
  refine wpList_nil ?_
  go_upto_region 20 with fail
  cases e18 : (u9 && (!decide (((D.length : Nat) : Int) = (2 * f + 1))))
  rotate_left
  · refine wp_cond_true ((ev s195 rfl).trans (congrArg Value.bool e18)) ?_
    have HV := hide (HB.out _ hx16)
    have V2 := hide (show fiG f r m L D k u0 u1 u2 u3 u4 u5 u6 u7 u8 u9 = false from by unfold fiG; rw [if_neg (Bool.eq_false_iff.1 e2)]; rw [if_neg (Bool.eq_false_iff.1 e4)]; rw [if_neg (Bool.eq_false_iff.1 e6)]; rw [if_neg (Bool.eq_false_iff.1 e8)]; rw [if_neg (Bool.eq_false_iff.1 e10)]; rw [if_neg (Bool.eq_false_iff.1 e12)]; rw [if_neg (Bool.eq_false_iff.1 e14)]; rw [if_neg (Bool.eq_false_iff.1 e16)]; rw [if_pos e18])
    go_wp2
    refine bodyPost_ret (results_tmp rfl _ _ _) rfl ⟨?_, HV.out⟩
    rw [V2.out]
    show Ending.returned ((Array.setIfInBounds _ 8 (Value.bool false)).getD 8 undef) = _
    rw [getD_of (at_set _ (by rw [hz]; decide))]
  refine wp_cond_false ((ev s195 rfl).trans (congrArg Value.bool e18)) ?_
  have HX : ∃ q2 o2, Hid (k = 9 → ∀ v, Below w1.heap.size w1 v → (Instr.indexAt 36 (.slice a2 D.length cv) (.int .i64 m.nd)).run Tryz.prog v = .ok (.pointer (some ⟨q2, o2 + m.nd.toNat * 2, none⟩)) v ∧ (Instr.loadAt 33 (.pointer (some ⟨q2, o2 + m.nd.toNat * 2, none⟩))).run Tryz.prog v = .ok (.agg #[.int .u64 (D.getD m.nd.toNat (0, 0)).1, .int .u64 (D.getD m.nd.toNat (0, 0)).2]) v) := by
    have z0 : Hid (k = 9 → 0 ≤ m.nd ∧ m.nd < (D.length : Int)) := fun hk => by
      obtain ⟨rfl, rfl⟩ := H9.out hk
      clear HM HC HU HL HE HR HB
      simp only [Bool.true_and, Bool.or_eq_false_iff, decide_eq_false_iff_not, Bool.not_eq_false', decide_eq_true_eq] at e2 e18
      omega
    exact HXm.out z0.out
  obtain ⟨q2, o2, HX⟩ := HX
  go_upto_region 20 with fail
  clear s195
  refine vq_start (C := fun v => Below w1.heap.size w1 v) (by kernel_rfl) (by kernel_rfl) (belN hx16 1) ?_
  refine vq true _ (want_none rfl) (fun hc v hv => ex_move rfl (ev s3 rfl)) rfl hz (by decide) (fun Yfh zz kk s196 => ?_)
  replace s2 := ku s2
  replace s3 := ku s3
  replace s4 := ku s4
  replace s5 := ku s5
  replace s9 := ku s9
  replace hz := zz
  clear kk zz
  refine vq true (.pointer (some ⟨g, 5, none⟩)) (want_none rfl) (fun hc v hv => ex_ix rfl (ev s196 rfl) rfl (ixBool g 5 10 cu (by decide) _)) rfl hz (by decide) (fun Yfi zz kk s197 => ?_)
  replace s2 := ku s2
  replace s3 := ku s3
  replace s4 := ku s4
  replace s5 := ku s5
  replace s9 := ku s9
  replace hz := zz
  clear kk zz s196 Yfh
  refine vq true (.bool u5) (want_none rfl) (fun hc v hv => ex_ld rfl (ev s197 rfl) (ldBool (HU.out v hv 5 _ rfl))) rfl hz (by decide) (fun Yfj zz kk s198 => ?_)
  replace s2 := ku s2
  replace s3 := ku s3
  replace s4 := ku s4
  replace s5 := ku s5
  replace s9 := ku s9
  replace hz := zz
  clear kk zz s197 Yfi
  refine vq true _ (want_none rfl) (fun hc v hv => ex_move rfl (ev s198 rfl)) rfl hz (by decide) (fun Yfk zz kk s199 => ?_)
  replace s2 := ku s2
  replace s3 := ku s3
  replace s4 := ku s4
  replace s5 := ku s5
  replace s9 := ku s9
  replace hz := zz
  clear kk zz s198 Yfj
  refine vq _ (.pointer (some ⟨w.heap.size + 1, 14, none⟩)) (want_g rfl rfl s199) (fun hc v hv => ex_fa rfl (ev s5 rfl) (MBox.faDraw _ _)) rfl hz (by decide) (fun Yfl zz kk s200 => ?_)
  replace s2 := ku s2
  replace s3 := ku s3
  replace s4 := ku s4
  replace s5 := ku s5
  replace s9 := ku s9
  replace s199 := ku s199
  replace hz := zz
  clear kk zz Yfk
  refine vq _ (.agg #[.int .u64 m.d.1, .int .u64 m.d.2]) (want_g rfl rfl s199) (fun hc v hv => ex_ld rfl (ev s200 hc) ((HM.out v hv).ldDraw)) rfl hz (by decide) (fun Yfm zz kk s201 => ?_)
  replace s2 := ku s2
  replace s3 := ku s3
  replace s4 := ku s4
  replace s5 := ku s5
  replace s9 := ku s9
  replace s199 := ku s199
  replace hz := zz
  clear kk zz s200 Yfl
  refine vq _ (.agg #[.int .u64 0, .int .u64 0]) (want_g rfl rfl s199) (fun hc v hv => ex_build rfl (buildDr _)) rfl hz (by decide) (fun Yfn zz kk s202 => ?_)
  replace s2 := ku s2
  replace s3 := ku s3
  replace s4 := ku s4
  replace s5 := ku s5
  replace s9 := ku s9
  replace s199 := ku s199
  replace s201 := ku s201
  replace hz := zz
  clear kk zz Yfm
  refine vq _ (.bool (decide (m.d = (0, 0)))) (want_g rfl rfl s199) (fun hc v hv => ex_bin rfl (ev s201 hc) (ev s202 hc) (eqlDr _ _ m.d (0, 0) _)) rfl hz (by decide) (fun Yfo zz kk s203 => ?_)
  replace s2 := ku s2
  replace s3 := ku s3
  replace s4 := ku s4
  replace s5 := ku s5
  replace s9 := ku s9
  replace s199 := ku s199
  replace hz := zz
  clear kk zz s201 s202 Yfn
  refine vq true (.bool (u5 && (decide (m.d = (0, 0))))) (want_none rfl) (fun hc v hv => ex_and rfl s199 s203 rfl) rfl hz (by decide) (fun Yfp zz kk s204 => ?_)
  replace s2 := ku s2
  replace s3 := ku s3
  replace s4 := ku s4
  replace s5 := ku s5
  replace s9 := ku s9
  replace hz := zz
  clear kk zz s199 s203 Yfo
  refine vq true _ (want_none rfl) (fun hc v hv => ex_move rfl (ev s204 rfl)) rfl hz (by decide) (fun Yfq zz kk s205 => ?_)
  replace s2 := ku s2
  replace s3 := ku s3
  replace s4 := ku s4
  replace s5 := ku s5
  replace s9 := ku s9
  replace hz := zz
  clear kk zz s204 Yfp
  refine vq _ _ (want_g rfl rfl s205) (fun hc v hv => ex_move rfl (ev s2 rfl)) rfl hz (by decide) (fun Yfr zz kk s206 => ?_)
  replace s2 := ku s2
  replace s3 := ku s3
  replace s4 := ku s4
  replace s5 := ku s5
  replace s9 := ku s9
  replace s205 := ku s205
  replace hz := zz
  clear kk zz Yfq
  refine vq _ (.bool (decide (k = 9))) (want_g rfl rfl s205) (fun hc v hv => ex_bin rfl (ev s206 hc) rfl (eqlC _ _ _ _ _)) rfl hz (by decide) (fun Yfs zz kk s207 => ?_)
  replace s2 := ku s2
  replace s3 := ku s3
  replace s4 := ku s4
  replace s5 := ku s5
  replace s9 := ku s9
  replace s205 := ku s205
  replace hz := zz
  clear kk zz s206 Yfr
  refine vq _ _ (want_g rfl rfl s205) (fun hc v hv => ex_move rfl (ev s207 hc)) rfl hz (by decide) (fun Yft zz kk s208 => ?_)
  replace s2 := ku s2
  replace s3 := ku s3
  replace s4 := ku s4
  replace s5 := ku s5
  replace s9 := ku s9
  replace s205 := ku s205
  replace hz := zz
  clear kk zz s207 Yfs
  refine vq ((true && ((u5 && (decide (m.d = (0, 0)))) == false)) && ((decide (k = 9)) == true)) (.pointer (some ⟨w.heap.size + 1, 14, none⟩)) (want_g rfl rfl s208) (fun hc v hv => ex_fa rfl (ev s5 rfl) (MBox.faDraw _ _)) rfl hz (by decide) (fun Yfu zz kk s209 => ?_)
  replace s2 := ku s2
  replace s3 := ku s3
  replace s4 := ku s4
  replace s5 := ku s5
  replace s9 := ku s9
  replace s205 := ku s205
  replace s208 := ku s208
  replace hz := zz
  clear kk zz Yft
  refine vq ((true && ((u5 && (decide (m.d = (0, 0)))) == false)) && ((decide (k = 9)) == true)) (.agg #[.int .u64 m.d.1, .int .u64 m.d.2]) (want_g rfl rfl s208) (fun hc v hv => ex_ld rfl (ev s209 hc) ((HM.out v hv).ldDraw)) rfl hz (by decide) (fun Yfv zz kk s210 => ?_)
  replace s2 := ku s2
  replace s3 := ku s3
  replace s4 := ku s4
  replace s5 := ku s5
  replace s9 := ku s9
  replace s205 := ku s205
  replace s208 := ku s208
  replace hz := zz
  clear kk zz s209 Yfu
  refine vq ((true && ((u5 && (decide (m.d = (0, 0)))) == false)) && ((decide (k = 9)) == true)) (.pointer (some ⟨w.heap.size + 1, 17, none⟩)) (want_g rfl rfl s208) (fun hc v hv => ex_fa rfl (ev s5 rfl) (MBox.faVector _ _)) rfl hz (by decide) (fun Yfw zz kk s211 => ?_)
  replace s2 := ku s2
  replace s3 := ku s3
  replace s4 := ku s4
  replace s5 := ku s5
  replace s9 := ku s9
  replace s205 := ku s205
  replace s208 := ku s208
  replace s210 := ku s210
  replace hz := zz
  clear kk zz Yfv
  refine vq ((true && ((u5 && (decide (m.d = (0, 0)))) == false)) && ((decide (k = 9)) == true)) (.slice a2 D.length cv) (want_g rfl rfl s208) (fun hc v hv => ex_ld rfl (ev s211 hc) ((HM.out v hv).ldVector)) rfl hz (by decide) (fun Yfx zz kk s212 => ?_)
  replace s2 := ku s2
  replace s3 := ku s3
  replace s4 := ku s4
  replace s5 := ku s5
  replace s9 := ku s9
  replace s205 := ku s205
  replace s208 := ku s208
  replace s210 := ku s210
  replace hz := zz
  clear kk zz s211 Yfw
  refine vq ((true && ((u5 && (decide (m.d = (0, 0)))) == false)) && ((decide (k = 9)) == true)) (.pointer (some ⟨w.heap.size + 1, 1, none⟩)) (want_g rfl rfl s208) (fun hc v hv => ex_fa rfl (ev s5 rfl) (MBox.faNode _ _)) rfl hz (by decide) (fun Yfy zz kk s213 => ?_)
  replace s2 := ku s2
  replace s3 := ku s3
  replace s4 := ku s4
  replace s5 := ku s5
  replace s9 := ku s9
  replace s205 := ku s205
  replace s208 := ku s208
  replace s210 := ku s210
  replace s212 := ku s212
  replace hz := zz
  clear kk zz Yfx
  refine vq ((true && ((u5 && (decide (m.d = (0, 0)))) == false)) && ((decide (k = 9)) == true)) (.int .i64 m.nd) (want_g rfl rfl s208) (fun hc v hv => ex_ld rfl (ev s213 hc) ((HM.out v hv).ldNode)) rfl hz (by decide) (fun Yfz zz kk s214 => ?_)
  replace s2 := ku s2
  replace s3 := ku s3
  replace s4 := ku s4
  replace s5 := ku s5
  replace s9 := ku s9
  replace s205 := ku s205
  replace s208 := ku s208
  replace s210 := ku s210
  replace s212 := ku s212
  replace hz := zz
  clear kk zz s213 Yfy
  refine vq ((true && ((u5 && (decide (m.d = (0, 0)))) == false)) && ((decide (k = 9)) == true)) (.pointer (some ⟨q2, o2 + m.nd.toNat * 2, none⟩)) (want_g rfl rfl s208) (fun hc v hv => ex_ix rfl (ev s212 hc) (ev s214 hc) (HX.out (of_decide_eq_true (and_r hc)) v hv).1) rfl hz (by decide) (fun Yf0 zz kk s215 => ?_)
  replace s2 := ku s2
  replace s3 := ku s3
  replace s4 := ku s4
  replace s5 := ku s5
  replace s9 := ku s9
  replace s205 := ku s205
  replace s208 := ku s208
  replace s210 := ku s210
  replace hz := zz
  clear kk zz s212 s214 Yfz
  refine vq ((true && ((u5 && (decide (m.d = (0, 0)))) == false)) && ((decide (k = 9)) == true)) (.agg #[.int .u64 (D.getD m.nd.toNat (0, 0)).1, .int .u64 (D.getD m.nd.toNat (0, 0)).2]) (want_g rfl rfl s208) (fun hc v hv => ex_ld rfl (ev s215 hc) (HX.out (of_decide_eq_true (and_r hc)) v hv).2) rfl hz (by decide) (fun Yf1 zz kk s216 => ?_)
  replace s2 := ku s2
  replace s3 := ku s3
  replace s4 := ku s4
  replace s5 := ku s5
  replace s9 := ku s9
  replace s205 := ku s205
  replace s208 := ku s208
  replace s210 := ku s210
  replace hz := zz
  clear kk zz s215 Yf0
  refine vq ((true && ((u5 && (decide (m.d = (0, 0)))) == false)) && ((decide (k = 9)) == true)) (.bool (!decide (m.d = (D.getD m.nd.toNat (0, 0))))) (want_g rfl rfl s208) (fun hc v hv => ex_bin rfl (ev s210 hc) (ev s216 hc) (neqDr _ _ m.d (D.getD m.nd.toNat (0, 0)) _)) rfl hz (by decide) (fun Yf2 zz kk s217 => ?_)
  replace s2 := ku s2
  replace s3 := ku s3
  replace s4 := ku s4
  replace s5 := ku s5
  replace s9 := ku s9
  replace s205 := ku s205
  replace s208 := ku s208
  replace hz := zz
  clear kk zz s210 s216 Yf1
  refine vq _ (.bool ((decide (k = 9)) && (!decide (m.d = (D.getD m.nd.toNat (0, 0)))))) (want_g rfl rfl s205) (fun hc v hv => ex_and rfl s208 s217 hc) rfl hz (by decide) (fun Yf3 zz kk s218 => ?_)
  replace s2 := ku s2
  replace s3 := ku s3
  replace s4 := ku s4
  replace s5 := ku s5
  replace s9 := ku s9
  replace s205 := ku s205
  replace hz := zz
  clear kk zz s208 s217 Yf2
  refine vq true (.bool ((u5 && (decide (m.d = (0, 0)))) || ((decide (k = 9)) && (!decide (m.d = (D.getD m.nd.toNat (0, 0))))))) (want_none rfl) (fun hc v hv => ex_or rfl s205 s218 rfl) rfl hz (by decide) (fun Yf4 zz kk s219 => ?_)
  replace s2 := ku s2
  replace s3 := ku s3
  replace s4 := ku s4
  replace s5 := ku s5
  replace s9 := ku s9
  replace hz := zz
  clear kk zz s205 s218 Yf3
  refine vq_nil (fun x20 hx20 => ?_)
  go_upto_region 22 with fail
  cases e20 : ((u5 && (decide (m.d = (0, 0)))) || ((decide (k = 9)) && (!decide (m.d = (D.getD m.nd.toNat (0, 0))))))
  rotate_left
  · refine wp_cond_true ((ev s219 rfl).trans (congrArg Value.bool e20)) ?_
    have HV := hide (HB.out _ hx20)
    have V2 := hide (show fiG f r m L D k u0 u1 u2 u3 u4 u5 u6 u7 u8 u9 = false from by unfold fiG; rw [if_neg (Bool.eq_false_iff.1 e2)]; rw [if_neg (Bool.eq_false_iff.1 e4)]; rw [if_neg (Bool.eq_false_iff.1 e6)]; rw [if_neg (Bool.eq_false_iff.1 e8)]; rw [if_neg (Bool.eq_false_iff.1 e10)]; rw [if_neg (Bool.eq_false_iff.1 e12)]; rw [if_neg (Bool.eq_false_iff.1 e14)]; rw [if_neg (Bool.eq_false_iff.1 e16)]; rw [if_neg (Bool.eq_false_iff.1 e18)]; rw [if_pos e20])
    go_wp2
    refine bodyPost_ret (results_tmp rfl _ _ _) rfl ⟨?_, HV.out⟩
    rw [V2.out]
    show Ending.returned ((Array.setIfInBounds _ 8 (Value.bool false)).getD 8 undef) = _
    rw [getD_of (at_set _ (by rw [hz]; decide))]
  refine wp_cond_false ((ev s219 rfl).trans (congrArg Value.bool e20)) ?_
  go_upto_region 22 with fail
  clear s219
  refine wp_region_lit ?_
  refine vt _ (ex_move rfl (ev s2 rfl)) hz (fun Yf5 zz kk s220 => ?_)
  replace s2 := ku s2
  replace s3 := ku s3
  replace s4 := ku s4
  replace s5 := ku s5
  replace s9 := ku s9
  replace hz := zz
  clear kk zz
  refine vt (.bool (decide (k = 14))) (ex_bin rfl (ev s220 rfl) rfl (eqlC _ _ _ _ _)) hz (fun Yf6 zz kk s221 => ?_)
  replace s2 := ku s2
  replace s3 := ku s3
  replace s4 := ku s4
  replace s5 := ku s5
  replace s9 := ku s9
  replace hz := zz
  clear kk zz s220 Yf5
  refine vt _ (ex_move rfl (ev s221 rfl)) hz (fun Yf7 zz kk s222 => ?_)
  replace s2 := ku s2
  replace s3 := ku s3
  replace s4 := ku s4
  replace s5 := ku s5
  replace s9 := ku s9
  replace hz := zz
  clear kk zz s221 Yf6
  refine vl _ (.pointer (some ⟨w.heap.size + 1, 8, none⟩)) (want_g rfl rfl s222) (fun hc => ex_fa rfl (ev s5 rfl) (MBox.faResult _ _)) rfl hz (by decide) (fun Yf8 zz kk s223 => ?_)
  replace s2 := ku s2
  replace s3 := ku s3
  replace s4 := ku s4
  replace s5 := ku s5
  replace s9 := ku s9
  replace s222 := ku s222
  replace hz := zz
  clear kk zz Yf7
  refine vl _ (.pointer (some ⟨w.heap.size + 1, 8, none⟩)) (want_g rfl rfl s222) (fun hc => ex_fa rfl (ev s223 hc) (faCode _ _)) rfl hz (by decide) (fun Yf9 zz kk s224 => ?_)
  replace s2 := ku s2
  replace s3 := ku s3
  replace s4 := ku s4
  replace s5 := ku s5
  replace s9 := ku s9
  replace s222 := ku s222
  replace hz := zz
  clear kk zz s223 Yf8
  refine vl _ (.int .i64 m.r.1) (want_g rfl rfl s222) (fun hc => ex_ld rfl (ev s224 hc) (s_ldCode (HM.out x20 hx20))) rfl hz (by decide) (fun Yga zz kk s225 => ?_)
  replace s2 := ku s2
  replace s3 := ku s3
  replace s4 := ku s4
  replace s5 := ku s5
  replace s9 := ku s9
  replace s222 := ku s222
  replace hz := zz
  clear kk zz s224 Yf9
  refine vl _ (.bool (decide (m.r.1 < 4))) (want_g rfl rfl s222) (fun hc => ex_bin rfl (ev s225 hc) rfl (lssC _ _ _ _ _)) rfl hz (by decide) (fun Ygb zz kk s226 => ?_)
  replace s2 := ku s2
  replace s3 := ku s3
  replace s4 := ku s4
  replace s5 := ku s5
  replace s9 := ku s9
  replace s222 := ku s222
  replace hz := zz
  clear kk zz s225 Yga
  refine vl _ _ (want_g rfl rfl s222) (fun hc => ex_move rfl (ev s226 hc)) rfl hz (by decide) (fun Ygc zz kk s227 => ?_)
  replace s2 := ku s2
  replace s3 := ku s3
  replace s4 := ku s4
  replace s5 := ku s5
  replace s9 := ku s9
  replace s222 := ku s222
  replace hz := zz
  clear kk zz s226 Ygb
  refine vl ((true && ((decide (k = 14)) == true)) && ((decide (m.r.1 < 4)) == false)) (.pointer (some ⟨w.heap.size + 1, 8, none⟩)) (want_g rfl rfl s227) (fun hc => ex_fa rfl (ev s5 rfl) (MBox.faResult _ _)) rfl hz (by decide) (fun Ygd zz kk s228 => ?_)
  replace s2 := ku s2
  replace s3 := ku s3
  replace s4 := ku s4
  replace s5 := ku s5
  replace s9 := ku s9
  replace s222 := ku s222
  replace s227 := ku s227
  replace hz := zz
  clear kk zz Ygc
  refine vl ((true && ((decide (k = 14)) == true)) && ((decide (m.r.1 < 4)) == false)) (.pointer (some ⟨w.heap.size + 1, 8, none⟩)) (want_g rfl rfl s227) (fun hc => ex_fa rfl (ev s228 hc) (faCode _ _)) rfl hz (by decide) (fun Yge zz kk s229 => ?_)
  replace s2 := ku s2
  replace s3 := ku s3
  replace s4 := ku s4
  replace s5 := ku s5
  replace s9 := ku s9
  replace s222 := ku s222
  replace s227 := ku s227
  replace hz := zz
  clear kk zz s228 Ygd
  refine vl ((true && ((decide (k = 14)) == true)) && ((decide (m.r.1 < 4)) == false)) (.int .i64 m.r.1) (want_g rfl rfl s227) (fun hc => ex_ld rfl (ev s229 hc) (s_ldCode (HM.out x20 hx20))) rfl hz (by decide) (fun Ygf zz kk s230 => ?_)
  replace s2 := ku s2
  replace s3 := ku s3
  replace s4 := ku s4
  replace s5 := ku s5
  replace s9 := ku s9
  replace s222 := ku s222
  replace s227 := ku s227
  replace hz := zz
  clear kk zz s229 Yge
  refine vl ((true && ((decide (k = 14)) == true)) && ((decide (m.r.1 < 4)) == false)) (.bool (decide (6 < m.r.1))) (want_g rfl rfl s227) (fun hc => ex_bin rfl (ev s230 hc) rfl (gtrC _ _ _ _ _)) rfl hz (by decide) (fun Ygg zz kk s231 => ?_)
  replace s2 := ku s2
  replace s3 := ku s3
  replace s4 := ku s4
  replace s5 := ku s5
  replace s9 := ku s9
  replace s222 := ku s222
  replace s227 := ku s227
  replace hz := zz
  clear kk zz s230 Ygf
  refine vl _ (.bool ((decide (m.r.1 < 4)) || (decide (6 < m.r.1)))) (want_g rfl rfl s222) (fun hc => ex_or rfl s227 s231 hc) rfl hz (by decide) (fun Ygh zz kk s232 => ?_)
  replace s2 := ku s2
  replace s3 := ku s3
  replace s4 := ku s4
  replace s5 := ku s5
  replace s9 := ku s9
  replace s222 := ku s222
  replace hz := zz
  clear kk zz s227 s231 Ygg
  refine vt (.bool ((decide (k = 14)) && ((decide (m.r.1 < 4)) || (decide (6 < m.r.1))))) (ex_and rfl s222 s232 rfl) hz (fun Ygi zz kk s233 => ?_)
  replace s2 := ku s2
  replace s3 := ku s3
  replace s4 := ku s4
  replace s5 := ku s5
  replace s9 := ku s9
  replace hz := zz
  clear kk zz s222 s232 Ygh
  refine wpList_nil ?_
  go_upto_region 24 with fail
  cases e22 : ((decide (k = 14)) && ((decide (m.r.1 < 4)) || (decide (6 < m.r.1))))
  rotate_left
  · refine wp_cond_true ((ev s233 rfl).trans (congrArg Value.bool e22)) ?_
    have HV := hide (HB.out _ hx20)
    have V2 := hide (show fiG f r m L D k u0 u1 u2 u3 u4 u5 u6 u7 u8 u9 = false from by unfold fiG; rw [if_neg (Bool.eq_false_iff.1 e2)]; rw [if_neg (Bool.eq_false_iff.1 e4)]; rw [if_neg (Bool.eq_false_iff.1 e6)]; rw [if_neg (Bool.eq_false_iff.1 e8)]; rw [if_neg (Bool.eq_false_iff.1 e10)]; rw [if_neg (Bool.eq_false_iff.1 e12)]; rw [if_neg (Bool.eq_false_iff.1 e14)]; rw [if_neg (Bool.eq_false_iff.1 e16)]; rw [if_neg (Bool.eq_false_iff.1 e18)]; rw [if_neg (Bool.eq_false_iff.1 e20)]; rw [if_pos e22])
    go_wp2
    refine bodyPost_ret (results_tmp rfl _ _ _) rfl ⟨?_, HV.out⟩
    rw [V2.out]
    show Ending.returned ((Array.setIfInBounds _ 8 (Value.bool false)).getD 8 undef) = _
    rw [getD_of (at_set _ (by rw [hz]; decide))]
  refine wp_cond_false ((ev s233 rfl).trans (congrArg Value.bool e22)) ?_
  go_upto_region 24 with fail
  clear s233
  refine wp_region_lit ?_
  refine vt _ (ex_move rfl (ev s3 rfl)) hz (fun Ygj zz kk s234 => ?_)
  replace s2 := ku s2
  replace s3 := ku s3
  replace s4 := ku s4
  replace s5 := ku s5
  replace s9 := ku s9
  replace hz := zz
  clear kk zz
  refine vt (.pointer (some ⟨g, 6, none⟩)) (ex_ix rfl (ev s234 rfl) rfl (ixBool g 6 10 cu (by decide) _)) hz (fun Ygk zz kk s235 => ?_)
  replace s2 := ku s2
  replace s3 := ku s3
  replace s4 := ku s4
  replace s5 := ku s5
  replace s9 := ku s9
  replace hz := zz
  clear kk zz s234 Ygj
  refine vt (.bool u6) (ex_ld rfl (ev s235 rfl) (ldBool (HU.out x20 hx20 6 _ rfl))) hz (fun Ygl zz kk s236 => ?_)
  replace s2 := ku s2
  replace s3 := ku s3
  replace s4 := ku s4
  replace s5 := ku s5
  replace s9 := ku s9
  replace hz := zz
  clear kk zz s235 Ygk
  refine vt (.bool (!u6)) (ex_not rfl (ev s236 rfl)) hz (fun Ygm zz kk s237 => ?_)
  replace s2 := ku s2
  replace s3 := ku s3
  replace s4 := ku s4
  replace s5 := ku s5
  replace s9 := ku s9
  replace hz := zz
  clear kk zz s236 Ygl
  refine vt _ (ex_move rfl (ev s237 rfl)) hz (fun Ygn zz kk s238 => ?_)
  replace s2 := ku s2
  replace s3 := ku s3
  replace s4 := ku s4
  replace s5 := ku s5
  replace s9 := ku s9
  replace hz := zz
  clear kk zz s237 Ygm
  refine vl _ _ (want_g rfl rfl s238) (fun hc => ex_move rfl (ev s2 rfl)) rfl hz (by decide) (fun Ygo zz kk s239 => ?_)
  replace s2 := ku s2
  replace s3 := ku s3
  replace s4 := ku s4
  replace s5 := ku s5
  replace s9 := ku s9
  replace s238 := ku s238
  replace hz := zz
  clear kk zz Ygn
  refine vl _ (.pointer (some ⟨w.heap.size + 1, 3, none⟩)) (want_g rfl rfl s238) (fun hc => ex_fa rfl (ev s5 rfl) (MBox.faEntry _ _)) rfl hz (by decide) (fun Ygp zz kk s240 => ?_)
  replace s2 := ku s2
  replace s3 := ku s3
  replace s4 := ku s4
  replace s5 := ku s5
  replace s9 := ku s9
  replace s238 := ku s238
  replace s239 := ku s239
  replace hz := zz
  clear kk zz Ygo
  refine vl _ (.agg #[.int .i64 m.e.c, .int .i64 m.e.n, .int .i64 m.e.o.k, .int .i64 m.e.o.s, .string m.e.o.v]) (want_g rfl rfl s238) (fun hc => ex_ld rfl (ev s240 hc) ((HM.out x20 hx20).ldEntry)) rfl hz (by decide) (fun Ygq zz kk s241 => ?_)
  replace s2 := ku s2
  replace s3 := ku s3
  replace s4 := ku s4
  replace s5 := ku s5
  replace s9 := ku s9
  replace s238 := ku s238
  replace s239 := ku s239
  replace hz := zz
  clear kk zz s240 Ygp
  refine vcall (true && ((!u6) == false)) (.bool (enK k m.e)) (want_g rfl rfl s238) (fun hc => by unfold execOp; simp only [resolve, invoke, Sem.run_bind, List.map_toArray, List.map_cons, List.map_nil, (ev s239 hc), (ev s241 hc)]; rfl) (fun hc => HE.out x20) rfl hz (by decide) (fun Ygr w3 hb zz kk s242 => ?_)
  have hv3 := hx20.trans (hb.mono hx20.size)
  clear hb
  replace s2 := ku s2
  replace s3 := ku s3
  replace s4 := ku s4
  replace s5 := ku s5
  replace s9 := ku s9
  replace s238 := ku s238
  replace hz := zz
  clear kk zz s239 s241 Ygq
  refine vt (.bool ((!u6) || (enK k m.e))) (ex_or rfl s238 s242 rfl) hz (fun Ygs zz kk s243 => ?_)
  replace s2 := ku s2
  replace s3 := ku s3
  replace s4 := ku s4
  replace s5 := ku s5
  replace s9 := ku s9
  replace hz := zz
  clear kk zz s238 s242 Ygr
  refine vt _ (ex_move rfl (ev s243 rfl)) hz (fun Ygt zz kk s244 => ?_)
  replace s2 := ku s2
  replace s3 := ku s3
  replace s4 := ku s4
  replace s5 := ku s5
  replace s9 := ku s9
  replace hz := zz
  clear kk zz s243 Ygs
  refine vl _ _ (want_g rfl rfl s244) (fun hc => ex_move rfl (ev s3 rfl)) rfl hz (by decide) (fun Ygu zz kk s245 => ?_)
  replace s2 := ku s2
  replace s3 := ku s3
  replace s4 := ku s4
  replace s5 := ku s5
  replace s9 := ku s9
  replace s244 := ku s244
  replace hz := zz
  clear kk zz Ygt
  refine vl _ (.pointer (some ⟨g, 7, none⟩)) (want_g rfl rfl s244) (fun hc => ex_ix rfl (ev s245 hc) rfl (ixBool g 7 10 cu (by decide) _)) rfl hz (by decide) (fun Ygv zz kk s246 => ?_)
  replace s2 := ku s2
  replace s3 := ku s3
  replace s4 := ku s4
  replace s5 := ku s5
  replace s9 := ku s9
  replace s244 := ku s244
  replace hz := zz
  clear kk zz s245 Ygu
  refine vl _ (.bool u7) (want_g rfl rfl s244) (fun hc => ex_ld rfl (ev s246 hc) (ldBool (HU.out w3 hv3 7 _ rfl))) rfl hz (by decide) (fun Ygw zz kk s247 => ?_)
  replace s2 := ku s2
  replace s3 := ku s3
  replace s4 := ku s4
  replace s5 := ku s5
  replace s9 := ku s9
  replace s244 := ku s244
  replace hz := zz
  clear kk zz s246 Ygv
  refine vl _ (.bool (!u7)) (want_g rfl rfl s244) (fun hc => ex_not rfl (ev s247 hc)) rfl hz (by decide) (fun Ygx zz kk s248 => ?_)
  replace s2 := ku s2
  replace s3 := ku s3
  replace s4 := ku s4
  replace s5 := ku s5
  replace s9 := ku s9
  replace s244 := ku s244
  replace hz := zz
  clear kk zz s247 Ygw
  refine vl _ _ (want_g rfl rfl s244) (fun hc => ex_move rfl (ev s248 hc)) rfl hz (by decide) (fun Ygy zz kk s249 => ?_)
  replace s2 := ku s2
  replace s3 := ku s3
  replace s4 := ku s4
  replace s5 := ku s5
  replace s9 := ku s9
  replace s244 := ku s244
  replace hz := zz
  clear kk zz s248 Ygx
  refine vl ((true && (((!u6) || (enK k m.e)) == true)) && ((!u7) == false)) (.pointer (some ⟨w.heap.size + 1, 8, none⟩)) (want_g rfl rfl s249) (fun hc => ex_fa rfl (ev s5 rfl) (MBox.faResult _ _)) rfl hz (by decide) (fun Ygz zz kk s250 => ?_)
  replace s2 := ku s2
  replace s3 := ku s3
  replace s4 := ku s4
  replace s5 := ku s5
  replace s9 := ku s9
  replace s244 := ku s244
  replace s249 := ku s249
  replace hz := zz
  clear kk zz Ygy
  refine vl ((true && (((!u6) || (enK k m.e)) == true)) && ((!u7) == false)) (.agg #[.int .i64 m.r.1, .int .i64 m.r.2.1, .string m.r.2.2]) (want_g rfl rfl s249) (fun hc => ex_ld rfl (ev s250 hc) ((HM.out w3 hv3).ldResult)) rfl hz (by decide) (fun Yg0 zz kk s251 => ?_)
  replace s2 := ku s2
  replace s3 := ku s3
  replace s4 := ku s4
  replace s5 := ku s5
  replace s9 := ku s9
  replace s244 := ku s244
  replace s249 := ku s249
  replace hz := zz
  clear kk zz s250 Ygz
  refine vcall ((true && (((!u6) || (enK k m.e)) == true)) && ((!u7) == false)) (.bool (resB m.r.1 m.r.2.1 m.r.2.2)) (want_g rfl rfl s249) (fun hc => by unfold execOp; simp only [resolve, invoke, Sem.run_bind, List.map_toArray, List.map_cons, List.map_nil, (ev s251 hc)]; rfl) (fun hc => HR.out w3) rfl hz (by decide) (fun Yg1 w4 hb zz kk s252 => ?_)
  have hv4 := hv3.trans (hb.mono hv3.size)
  clear hb
  replace s2 := ku s2
  replace s3 := ku s3
  replace s4 := ku s4
  replace s5 := ku s5
  replace s9 := ku s9
  replace s244 := ku s244
  replace s249 := ku s249
  replace hz := zz
  clear kk zz s251 Yg0
  refine vl _ (.bool ((!u7) || (resB m.r.1 m.r.2.1 m.r.2.2))) (want_g rfl rfl s244) (fun hc => ex_or rfl s249 s252 hc) rfl hz (by decide) (fun Yg2 zz kk s253 => ?_)
  replace s2 := ku s2
  replace s3 := ku s3
  replace s4 := ku s4
  replace s5 := ku s5
  replace s9 := ku s9
  replace s244 := ku s244
  replace hz := zz
  clear kk zz s249 s252 Yg1
  refine vt (.bool (((!u6) || (enK k m.e)) && ((!u7) || (resB m.r.1 m.r.2.1 m.r.2.2)))) (ex_and rfl s244 s253 rfl) hz (fun Yg3 zz kk s254 => ?_)
  replace s2 := ku s2
  replace s3 := ku s3
  replace s4 := ku s4
  replace s5 := ku s5
  replace s9 := ku s9
  replace hz := zz
  clear kk zz s244 s253 Yg2
  refine vt _ (ex_assign rfl (ev s254 rfl)) hz (fun Yg4 zz kk s8 => ?_)
  replace s2 := ku s2
  replace s3 := ku s3
  replace s4 := ku s4
  replace s5 := ku s5
  replace s9 := ku s9
  replace hz := zz
  clear kk zz s254 Yg3
  refine wpList_nil ?_
  have s8' : Yg4.getD 8 undef = .bool ((((!u6) || (enK k m.e)) && ((!u7) || (resB m.r.1 m.r.2.1 m.r.2.2)))) := getD_of s8
  have HV := hide (HB.out _ hv4)
  have V2 := hide (show fiG f r m L D k u0 u1 u2 u3 u4 u5 u6 u7 u8 u9 = ((((!u6) || (enK k m.e)) && ((!u7) || (resB m.r.1 m.r.2.1 m.r.2.2)))) from by unfold fiG; rw [if_neg (Bool.eq_false_iff.1 e2)]; rw [if_neg (Bool.eq_false_iff.1 e4)]; rw [if_neg (Bool.eq_false_iff.1 e6)]; rw [if_neg (Bool.eq_false_iff.1 e8)]; rw [if_neg (Bool.eq_false_iff.1 e10)]; rw [if_neg (Bool.eq_false_iff.1 e12)]; rw [if_neg (Bool.eq_false_iff.1 e14)]; rw [if_neg (Bool.eq_false_iff.1 e16)]; rw [if_neg (Bool.eq_false_iff.1 e18)]; rw [if_neg (Bool.eq_false_iff.1 e20)]; rw [if_neg (Bool.eq_false_iff.1 e22)])
  go_wp2
  refine bodyPost_ret (results_tmp rfl _ _ _) rfl ⟨?_, HV.out⟩
  rw [V2.out]
  show Ending.returned (Yg4.getD 8 undef) = _
  rw [s8']
def drF (d : Int × Int) : Prop := 0 ≤ d.1 ∧ d.1 < 18446744073709551616 ∧ 0 ≤ d.2 ∧ d.2 < 18446744073709551616
def enF (e : En) : Prop := 0 ≤ e.c ∧ e.c ≤ 9223372036854775807 ∧ 0 ≤ e.n ∧ e.n ≤ 9223372036854775807 ∧ 0 ≤ e.o.k ∧ e.o.k ≤ 9223372036854775807 ∧ 0 ≤ e.o.s ∧ e.o.s ≤ 9223372036854775807 ∧ e.o.v.size ≤ 64
def dsBy (D : List (Int × Int)) : List Int := D.flatMap fun d => drBy d.1.toNat d.2.toNat
def veBy (D : List (Int × Int)) : List Int := M.form D.length ++ dsBy D
def enBy (e : En) : List Int := nmBy e.c.toNat e.n.toNat ++ opBy e.o.k.toNat e.o.s.toNat e.o.v
def esBy (L : List En) : List Int := L.flatMap enBy
def lgBy (L : List En) : List Int := M.form L.length ++ esBy L
theorem dsBy_next {D : List (Int × Int)} {j : Nat} {d : Int × Int} (h : D[j]? = some d) : dsBy (D.take (j + 1)) = dsBy (D.take j) ++ drBy d.1.toNat d.2.toNat := by
  unfold dsBy
  rw [List.take_add_one, h]
  simp
theorem esBy_next {D : List En} {j : Nat} {d : En} (h : D[j]? = some d) : esBy (D.take (j + 1)) = esBy (D.take j) ++ enBy d := by
  unfold esBy
  rw [List.take_add_one, h]
  simp
theorem drBy_le {x y : Nat} (hx : x < 2 ^ 64) (hy : y < 2 ^ 64) : (drBy x y).length ≤ 18 := by
  unfold drBy
  have := form_le hx
  have := form_le hy
  rw [List.length_append]
  omega
theorem nmBy_le {x y : Nat} (hx : x < 2 ^ 64) (hy : y < 2 ^ 64) : (nmBy x y).length ≤ 18 := by
  unfold nmBy
  have := form_le hx
  have := form_le hy
  rw [List.length_append]
  omega
theorem opBy_le {x y : Nat} {v : ByteArray} (hx : x < 2 ^ 64) (hy : y < 2 ^ 64) (hv : v.size ≤ 64) : (opBy x y v).length ≤ 82 + 9 := by
  unfold opBy
  have := form_le hx
  have := form_le hy
  have := form_le (show v.size < 2 ^ 64 by omega)
  rw [List.length_append, List.length_append, List.length_append, Wi.sb_length]
  omega
theorem form_small {x : Nat} (h : x < 256) : (M.form x).length ≤ 2 := by
  rw [M.form_length]
  have : M.nb x ≤ 1 := by
    have h1 : M.bl x ≤ 8 := (M.bl_le x 8).2 (by omega)
    unfold M.nb
    omega
  omega
theorem dsBy_le : ∀ (D : List (Int × Int)), (∀ d ∈ D, drF d) → (dsBy D).length ≤ 18 * D.length
  | [], _ => by simp [dsBy]
  | d :: r, h => by
    have h1 := h d (by simp)
    have h2 := dsBy_le r (fun x hx => h x (by simp [hx]))
    have h3 := drBy_le (x := d.1.toNat) (y := d.2.toNat) (by have := h1.2.1; have := h1.1; omega) (by have := h1.2.2.2; have := h1.2.2.1; omega)
    have e : dsBy (d :: r) = drBy d.1.toNat d.2.toNat ++ dsBy r := rfl
    rw [e, List.length_append, List.length_cons]
    omega
theorem enBy_le {e : En} (h : enF e) : (enBy e).length ≤ 102 := by
  obtain ⟨c0, c1, n0, n1, k0, k1, s0, s1, hv⟩ := h
  have e1 : (enBy e) = nmBy e.c.toNat e.n.toNat ++ opBy e.o.k.toNat e.o.s.toNat e.o.v := rfl
  have a := form_le (show e.c.toNat < 2 ^ 64 by omega)
  have b := form_le (show e.n.toNat < 2 ^ 64 by omega)
  have c := form_le (show e.o.k.toNat < 2 ^ 64 by omega)
  have d := form_le (show e.o.s.toNat < 2 ^ 64 by omega)
  have f := form_small (show e.o.v.size < 256 by omega)
  rw [e1]
  unfold nmBy opBy
  simp only [List.length_append, Wi.sb_length]
  omega
theorem esBy_le : ∀ (D : List En), (∀ d ∈ D, enF d) → (esBy D).length ≤ 102 * D.length
  | [], _ => by simp [esBy]
  | d :: r, h => by
    have h2 := esBy_le r (fun x hx => h x (by simp [hx]))
    have h3 := enBy_le (h d (by simp))
    have e : esBy (d :: r) = enBy d ++ esBy r := rfl
    rw [e, List.length_append, List.length_cons]
    omega
theorem addJ (j : Nat) (hj : j < 4611686018427387904) (x y : Operand) (w : World) : (do eqGuard .add 3 x y (.int .i64 (j : Int)) (.int .i64 1); binOp .add 3 (.int .i64 (j : Int)) (.int .i64 1) : Sem Value).run Tryz.prog w = .ok (.int .i64 ((j + 1 : Nat) : Int)) w := by
  have h1 : IntKind.i64.wrap ((j : Int) + 1) = ((j + 1 : Nat) : Int) := by rw [IntKind.wrap_i64]; omega
  go_simp
theorem stDr (w : World) (x y : Int) : (Instr.storeAt 33 (.pointer (some ⟨w.heap.size, 0, none⟩)) (.agg #[.int .u64 x, .int .u64 y])).run Tryz.prog (w.alloc (.cells #[.int .u64 0, .int .u64 0] 33)) = .ok () (w.alloc (.cells #[.int .u64 x, .int .u64 y] 33)) := by
  go_simp
theorem stEn (w : World) (c n k s : Int) (v : ByteArray) : (Instr.storeAt 28 (.pointer (some ⟨w.heap.size, 0, none⟩)) (.agg #[.int .i64 c, .int .i64 n, .int .i64 k, .int .i64 s, .string v])).run Tryz.prog (w.alloc (.cells #[.int .i64 0, .int .i64 0, .int .i64 0, .int .i64 0, .string ⟨#[]⟩] 28)) = .ok () (w.alloc (.cells #[.int .i64 c, .int .i64 n, .int .i64 k, .int .i64 s, .string v] 28)) := by
  go_simp
theorem ldEnAt {w : World} {q p : Nat} {c n k s : Int} {v : ByteArray} (h0 : w.cell? ⟨q, p, none⟩ = some (.int .i64 c)) (h1 : w.cell? ⟨q, p + 1, none⟩ = some (.int .i64 n)) (h2 : w.cell? ⟨q, p + 2, none⟩ = some (.int .i64 k)) (h3 : w.cell? ⟨q, p + 3, none⟩ = some (.int .i64 s)) (h4 : w.cell? ⟨q, p + 4, none⟩ = some (.string v)) : (Instr.loadAt 28 (.pointer (some ⟨q, p, none⟩))).run Tryz.prog w = .ok (.agg #[.int .i64 c, .int .i64 n, .int .i64 k, .int .i64 s, .string v]) w := by
  go_simp
theorem ldOpAt {w : World} {q p : Nat} {k s : Int} {v : ByteArray} (h2 : w.cell? ⟨q, p, none⟩ = some (.int .i64 k)) (h3 : w.cell? ⟨q, p + 1, none⟩ = some (.int .i64 s)) (h4 : w.cell? ⟨q, p + 2, none⟩ = some (.string v)) : (Instr.loadAt 26 (.pointer (some ⟨q, p, none⟩))).run Tryz.prog w = .ok (.agg #[.int .i64 k, .int .i64 s, .string v]) w := by
  go_simp
theorem ixEnt (q o n cv nd : Nat) (h : nd < n) (w : World) : (Instr.indexAt 34 (.slice (some ⟨q, o, none⟩) n cv) (.int .i64 (nd : Int))).run Tryz.prog w = .ok (.pointer (some ⟨q, o + nd * 5, none⟩)) w := by
  have h1 : (nd : Int) < (n : Int) := by omega
  go_simp
set_option maxHeartbeats 4000000 in
theorem wvector_tk (B b : Nat) (l : List Int) (L : List (Int × Int)) (a : Option Addr) (cv : Nat) (w0 w : World) (hB : B ≤ b) (h0 : Below w0.heap.size w0 w) (hB0 : w0.heap.size ≤ B) (hD : SlY yD w0 a L.length cv L) (hfit : ∀ d ∈ L, drF d) (h : Wi.WOkT w b l) (h7 : L.length ≤ 7) (hl : l.length + 162 ≤ 140737488355328) :
    Calls Tryz.prog 125 #[.pointer (some ⟨b, 0, none⟩), .slice a L.length cv] w fun e w' => e = .returned (.tuple #[]) ∧ Wi.WOkT w' b (l ++ veBy L) ∧ Below B w w' ∧ Wi.TKp w w' := by
  go_enter Tryz.func125, Tryz.ntmps125
  go_upto_region 0 with fail
  refine wp_region_lit ?_
  refine vl_gen (fun T => T.size = 22 ∧ T[0]? = some (gw true (.pointer (some ⟨b, 0, none⟩))) ∧ T[1]? = some (gw true (.slice a L.length cv))) ⟨rfl, rfl, rfl⟩ (fun T0 ⟨hz, s0, s1⟩ => ?_)
  refine vt _ (ex_move rfl (ev s0 rfl)) hz (fun Ya zz kk s6 => ?_)
  replace s0 := ku s0
  replace s1 := ku s1
  replace hz := zz
  clear kk zz
  refine vt (.pointer (some ⟨b, 0, none⟩)) (ex_nil rfl (ev s6 rfl)) hz (fun Yb zz kk s7 => ?_)
  replace s0 := ku s0
  replace s1 := ku s1
  replace hz := zz
  clear kk zz s6 Ya
  refine vt (.pointer (some ⟨b, 0, none⟩)) (ex_fa rfl (ev s7 rfl) (by go_simp)) hz (fun Yc zz kk s8 => ?_)
  replace s0 := ku s0
  replace s1 := ku s1
  replace hz := zz
  clear kk zz s7 Yb
  refine vt _ (ex_move rfl (ev s1 rfl)) hz (fun Yd zz kk s9 => ?_)
  replace s0 := ku s0
  replace s1 := ku s1
  replace s8 := ku s8
  replace hz := zz
  clear kk zz Yc
  refine vt (.int .i64 ((L.length : Nat) : Int)) (ex_lenV rfl rfl (ev s9 rfl)) hz (fun Ye zz kk s10 => ?_)
  replace s0 := ku s0
  replace s1 := ku s1
  replace s8 := ku s8
  replace hz := zz
  clear kk zz s9 Yd
  refine vcallP (want_none rfl) (ex_call rfl (by simp only [List.map_toArray, List.map_cons, List.map_nil, (ev s8 rfl), (ev s10 rfl), evc] <;> rfl) rfl) (Wi.count_tk B b l L.length 7 w hB h (by omega) h7 (by omega)) rfl hz (by decide) ?_
  rintro e w1 ⟨rfl, hO1, hb1, ht1⟩
  refine ⟨_, rfl, fun Yf zz kk s11 => ?_⟩
  replace s0 := ku s0
  replace s1 := ku s1
  replace hz := zz
  clear kk zz s8 s10 Ye
  refine wpList_nil ?_
  go_upto_region 1 with fail
  refine wp_region_lit ?_
  refine vt _ (ex_move rfl (ev s1 rfl)) hz (fun Yg zz kk s12 => ?_)
  replace s0 := ku s0
  replace hz := zz
  clear kk zz s1 s11
  refine vt (.int .i64 ((L.length : Nat) : Int)) (ex_lenV rfl rfl (ev s12 rfl)) hz (fun Yh zz kk s13 => ?_)
  replace s0 := ku s0
  replace s12 := ku s12
  replace hz := zz
  clear kk zz Yg
  refine vt (.int .i64 0) (ex_move rfl rfl) hz (fun Yi zz kk s14 => ?_)
  replace s0 := ku s0
  replace s12 := ku s12
  replace s13 := ku s13
  replace hz := zz
  clear kk zz Yh
  refine wpList_nil ?_
  go_upto_region 2 with fail
  refine v_loop 14 L.length (fun j T wr => T.size = 22 ∧ T[0]? = some (gw true (.pointer (some ⟨b, 0, none⟩))) ∧ T[12]? = some (gw true (.slice a L.length cv)) ∧ T[13]? = some (gw true (.int .i64 ((L.length : Nat) : Int))) ∧ T[14]? = some (gw true (.int .i64 (j : Int))) ∧ Hid (Wi.WOkT wr b (l ++ M.form L.length ++ dsBy (L.take j)) ∧ Below B w wr ∧ Wi.TKp w wr)) (fun j T w h => h.2.2.2.2.1) ⟨hz, s0, s12, s13, s14, by simpa [dsBy] using hO1, hb1, ht1⟩ ?_
  intro j R0 wr hj hh
  clear hz s0 s12 s13 s14
  obtain ⟨hz, s0, s12, s13, s14, HI⟩ := hh
  go_upto_region 2 with fail
  refine wp_region_lit ?_
  refine vt (.bool (decide ((j : Int) < (L.length : Int)))) (ex_bin rfl (ev s14 rfl) (ev s13 rfl) (lssC _ _ _ _ _)) hz (fun Yj zz kk s15 => ?_)
  replace s0 := ku s0
  replace s12 := ku s12
  replace s13 := ku s13
  replace s14 := ku s14
  replace hz := zz
  clear kk zz
  refine wpList_nil ?_
  go_upto_region 3 with fail
  cases e2 : decide ((j : Int) < (L.length : Int))
  · refine wp_cond_false ((ev s15 rfl).trans (congrArg Value.bool e2)) ?_
    have hjl : j = L.length := by have := of_decide_eq_false e2; omega
    have HJ := hide hjl
    clear e2 hjl
    go_wp2
    go_end0
    have hI := HI.out
    rw [HJ.out, List.take_length] at hI
    exact ⟨rfl, by simpa [veBy] using hI.1, hI.2⟩
  refine wp_cond_true ((ev s15 rfl).trans (congrArg Value.bool e2)) ?_
  have hlt2 : j < L.length := by have := of_decide_eq_true e2; omega
  clear s15 e2
  go_upto_region 3 with fail
  refine wp_region_lit ?_
  obtain ⟨d, hd⟩ : ∃ d, L[j]? = some d := ⟨_, List.getElem?_eq_getElem hlt2⟩
  have hsl := hD.later (h0.trans (HI.out.2.1.mono hB0))
  obtain ⟨q, o, rfl, hq, hlie⟩ := hsl.place (fun e => by rw [e] at hlt2; simp at hlt2)
  have hdf := hfit d (List.mem_of_getElem? hd)
  obtain ⟨x, hx⟩ := Int.eq_ofNat_of_zero_le hdf.1
  obtain ⟨y, hy⟩ := Int.eq_ofNat_of_zero_le hdf.2.2.1
  have e0 : wr.cell? ⟨q, o + j * 2, none⟩ = some (.int .u64 (x : Int)) := by rw [← hx]; exact hlie j d hd 0 _ rfl
  have e1 : wr.cell? ⟨q, o + j * 2 + 1, none⟩ = some (.int .u64 (y : Int)) := by rw [← hy]; exact hlie j d hd 1 _ rfl
  have hdx := hdf.2.1
  have hdy := hdf.2.2.2
  rw [hx] at hdx
  rw [hy] at hdy
  have enx : drBy d.1.toNat d.2.toNat = drBy x y := by rw [hx, hy]; rfl
  obtain ⟨w5, hw5⟩ : ∃ w5, w5 = wr.alloc (.cells #[.int .u64 (x : Int), .int .u64 (y : Int)] 33) := ⟨_, rfl⟩
  have hs5 : w5.heap.size = wr.heap.size + 1 := by rw [hw5]; simp
  have hb5 : Below wr.heap.size wr w5 := by rw [hw5]; exact (Below.refl _ _).alloc (Nat.le_refl _) _
  have HQ : Hid (∀ vv, Wi.TKp w5 vv → ∀ (ii : Nat) (uu : Value), ([.int .u64 (x : Int), .int .u64 (y : Int)] : List Value)[ii]? = some uu → vv.cell? ⟨wr.heap.size, ii, none⟩ = some uu) := fun vv hv ii uu hx => by
    rw [hv.cell (p := ⟨wr.heap.size, ii, none⟩) (by rw [hs5]; exact Nat.lt_succ_self _) (by rw [hw5]; exact Wi.not_wtyp_box _ _ _ (by decide))]
    rw [hw5]
    exact cell_box _ _ _ _ _ (by simpa using hx)
  have hO5 := HI.out.1.later hb5
  have hlen : ((l ++ M.form L.length ++ dsBy (L.take j)).length) ≤ l.length + 9 + 18 * 7 := by
    have f1 := form_le (show L.length < 2 ^ 64 by omega)
    have f2 := dsBy_le (L.take j) (fun x hx => hfit x (List.mem_of_mem_take hx))
    rw [List.length_append, List.length_append]
    rw [List.length_take] at f2
    omega
  refine vt (.pointer (some ⟨q, o + j * 2, none⟩)) (ex_ix rfl (ev s12 rfl) (ev s14 rfl) (ixVec _ _ _ _ _ hlt2 _)) hz (fun Yk zz kk s16 => ?_)
  replace s0 := ku s0
  replace s12 := ku s12
  replace s13 := ku s13
  replace s14 := ku s14
  replace hz := zz
  clear kk zz
  refine vt (.agg #[.int .u64 (x : Int), .int .u64 (y : Int)]) (ex_ld rfl (ev s16 rfl) (ldDrAt e0 e1)) hz (fun Yl zz kk s17 => ?_)
  replace s0 := ku s0
  replace s12 := ku s12
  replace s13 := ku s13
  replace s14 := ku s14
  replace hz := zz
  clear kk zz s16 Yk
  refine vw (.pointer (some ⟨wr.heap.size, 0, none⟩)) (wr.alloc (.cells #[.int .u64 0, .int .u64 0] 33)) (want_none rfl) (ex_al rfl (by go_simp)) rfl hz (by decide) (fun Ym zz kk s5 => ?_)
  replace s0 := ku s0
  replace s12 := ku s12
  replace s13 := ku s13
  replace s14 := ku s14
  replace s17 := ku s17
  replace hz := zz
  clear kk zz Yl
  refine vs w5 (want_none rfl) (ex_st rfl (ev s5 rfl) (ev s17 rfl) (by rw [hw5]; exact stDr _ _ _ )) rfl ?_
  refine wpList_nil ?_
  go_upto_region 4 with fail
  refine wp_region_lit ?_
  refine vt _ (ex_move rfl (ev s0 rfl)) hz (fun Yn zz kk s18 => ?_)
  replace s0 := ku s0
  replace s5 := ku s5
  replace s12 := ku s12
  replace s13 := ku s13
  replace s14 := ku s14
  replace hz := zz
  clear kk zz s17
  refine vt (.agg #[.int .u64 (x : Int), .int .u64 (y : Int)]) (ex_ld rfl (ev s5 rfl) (ldDrAt (HQ.out w5 (Wi.TKp.refl w5) 0 _ rfl) (HQ.out w5 (Wi.TKp.refl w5) 1 _ rfl))) hz (fun Yo zz kk s19 => ?_)
  replace s0 := ku s0
  replace s5 := ku s5
  replace s12 := ku s12
  replace s13 := ku s13
  replace s14 := ku s14
  replace s18 := ku s18
  replace hz := zz
  clear kk zz Yn
  refine vcallP (want_none rfl) (ex_call rfl (by simp only [List.map_toArray, List.map_cons, List.map_nil, (ev s18 rfl), (ev s19 rfl), evc] <;> rfl) rfl) (wdraw_tk B b (l ++ M.form L.length ++ dsBy (L.take j)) x y w5 hB hO5 (by omega) (by omega) (Nat.le_trans (Nat.add_le_add_right hlen 18) (by omega))) rfl hz (by decide) ?_
  rintro e w6 ⟨rfl, hO6, hb6, ht6⟩
  refine ⟨_, rfl, fun Yp zz kk s20 => ?_⟩
  replace s0 := ku s0
  replace s5 := ku s5
  replace s12 := ku s12
  replace s13 := ku s13
  replace s14 := ku s14
  replace hz := zz
  clear kk zz s18 s19 Yo
  refine wpList_nil ?_
  go_upto_region 5 with fail
  refine wp_region_lit ?_
  refine vt (.int .i64 ((j + 1 : Nat) : Int)) (ex_bin rfl (ev s14 rfl) rfl (addJ j (by omega) _ _ _)) hz (fun Yq zz kk s21 => ?_)
  replace s0 := ku s0
  replace s12 := ku s12
  replace s13 := ku s13
  replace s14 := ku s14
  replace hz := zz
  clear kk zz s5 s20
  refine vt _ (ex_move rfl (ev s21 rfl)) hz (fun Yr zz kk s14x => ?_)
  replace s0 := ku s0
  replace s12 := ku s12
  replace s13 := ku s13
  clear kk hz s21 s14
  have hz := zz
  have s14 := s14x
  clear zz s14x Yq
  refine wpList_nil ?_
  have nx : dsBy (L.take (j + 1)) = dsBy (L.take j) ++ drBy x y := by rw [dsBy_next hd, enx]
  have hsz := HI.out.2.1.size
  exact ⟨_, rfl, by omega, hz, s0, s12, s13, s14, by rw [nx]; simpa only [List.append_assoc] using hO6, HI.out.2.1.trans ((hb5.mono (by have := HI.out.1.lt; omega)).trans (hb6)), HI.out.2.2.trans ((Wi.TKp.of_below hb5).trans (ht6))⟩
set_option maxHeartbeats 4000000 in
theorem wlog_tk (B b : Nat) (l : List Int) (L : List En) (a : Option Addr) (cv : Nat) (w0 w : World) (hB : B ≤ b) (h0 : Below w0.heap.size w0 w) (hB0 : w0.heap.size ≤ B) (hD : SlY yE w0 a L.length cv L) (hfit : ∀ d ∈ L, enF d) (h : Wi.WOkT w b l) (h7 : L.length ≤ 256) (hl : l.length + 26300 ≤ 140737488355328) :
    Calls Tryz.prog 124 #[.pointer (some ⟨b, 0, none⟩), .slice a L.length cv] w fun e w' => e = .returned (.tuple #[]) ∧ Wi.WOkT w' b (l ++ lgBy L) ∧ Below B w w' ∧ Wi.TKp w w' := by
  go_enter Tryz.func124, Tryz.ntmps124
  go_upto_region 0 with fail
  refine wp_region_lit ?_
  refine vl_gen (fun T => T.size = 26 ∧ T[0]? = some (gw true (.pointer (some ⟨b, 0, none⟩))) ∧ T[1]? = some (gw true (.slice a L.length cv))) ⟨rfl, rfl, rfl⟩ (fun T0 ⟨hz, s0, s1⟩ => ?_)
  refine vt _ (ex_move rfl (ev s0 rfl)) hz (fun Ya zz kk s6 => ?_)
  replace s0 := ku s0
  replace s1 := ku s1
  replace hz := zz
  clear kk zz
  refine vt (.pointer (some ⟨b, 0, none⟩)) (ex_nil rfl (ev s6 rfl)) hz (fun Yb zz kk s7 => ?_)
  replace s0 := ku s0
  replace s1 := ku s1
  replace hz := zz
  clear kk zz s6 Ya
  refine vt (.pointer (some ⟨b, 0, none⟩)) (ex_fa rfl (ev s7 rfl) (by go_simp)) hz (fun Yc zz kk s8 => ?_)
  replace s0 := ku s0
  replace s1 := ku s1
  replace hz := zz
  clear kk zz s7 Yb
  refine vt _ (ex_move rfl (ev s1 rfl)) hz (fun Yd zz kk s9 => ?_)
  replace s0 := ku s0
  replace s1 := ku s1
  replace s8 := ku s8
  replace hz := zz
  clear kk zz Yc
  refine vt (.int .i64 ((L.length : Nat) : Int)) (ex_lenE rfl rfl (ev s9 rfl)) hz (fun Ye zz kk s10 => ?_)
  replace s0 := ku s0
  replace s1 := ku s1
  replace s8 := ku s8
  replace hz := zz
  clear kk zz s9 Yd
  refine vcallP (want_none rfl) (ex_call rfl (by simp only [List.map_toArray, List.map_cons, List.map_nil, (ev s8 rfl), (ev s10 rfl), evc] <;> rfl) rfl) (Wi.count_tk B b l L.length 256 w hB h (by omega) h7 (by omega)) rfl hz (by decide) ?_
  rintro e w1 ⟨rfl, hO1, hb1, ht1⟩
  refine ⟨_, rfl, fun Yf zz kk s11 => ?_⟩
  replace s0 := ku s0
  replace s1 := ku s1
  replace hz := zz
  clear kk zz s8 s10 Ye
  refine wpList_nil ?_
  go_upto_region 1 with fail
  refine wp_region_lit ?_
  refine vt _ (ex_move rfl (ev s1 rfl)) hz (fun Yg zz kk s12 => ?_)
  replace s0 := ku s0
  replace hz := zz
  clear kk zz s1 s11
  refine vt (.int .i64 ((L.length : Nat) : Int)) (ex_lenE rfl rfl (ev s12 rfl)) hz (fun Yh zz kk s13 => ?_)
  replace s0 := ku s0
  replace s12 := ku s12
  replace hz := zz
  clear kk zz Yg
  refine vt (.int .i64 0) (ex_move rfl rfl) hz (fun Yi zz kk s14 => ?_)
  replace s0 := ku s0
  replace s12 := ku s12
  replace s13 := ku s13
  replace hz := zz
  clear kk zz Yh
  refine wpList_nil ?_
  go_upto_region 2 with fail
  refine v_loop 14 L.length (fun j T wr => T.size = 26 ∧ T[0]? = some (gw true (.pointer (some ⟨b, 0, none⟩))) ∧ T[12]? = some (gw true (.slice a L.length cv)) ∧ T[13]? = some (gw true (.int .i64 ((L.length : Nat) : Int))) ∧ T[14]? = some (gw true (.int .i64 (j : Int))) ∧ Hid (Wi.WOkT wr b (l ++ M.form L.length ++ esBy (L.take j)) ∧ Below B w wr ∧ Wi.TKp w wr)) (fun j T w h => h.2.2.2.2.1) ⟨hz, s0, s12, s13, s14, by simpa [esBy] using hO1, hb1, ht1⟩ ?_
  intro j R0 wr hj hh
  clear hz s0 s12 s13 s14
  obtain ⟨hz, s0, s12, s13, s14, HI⟩ := hh
  go_upto_region 2 with fail
  refine wp_region_lit ?_
  refine vt (.bool (decide ((j : Int) < (L.length : Int)))) (ex_bin rfl (ev s14 rfl) (ev s13 rfl) (lssC _ _ _ _ _)) hz (fun Yj zz kk s15 => ?_)
  replace s0 := ku s0
  replace s12 := ku s12
  replace s13 := ku s13
  replace s14 := ku s14
  replace hz := zz
  clear kk zz
  refine wpList_nil ?_
  go_upto_region 3 with fail
  cases e2 : decide ((j : Int) < (L.length : Int))
  · refine wp_cond_false ((ev s15 rfl).trans (congrArg Value.bool e2)) ?_
    have hjl : j = L.length := by have := of_decide_eq_false e2; omega
    have HJ := hide hjl
    clear e2 hjl
    go_wp2
    go_end0
    have hI := HI.out
    rw [HJ.out, List.take_length] at hI
    exact ⟨rfl, by simpa [lgBy] using hI.1, hI.2⟩
  refine wp_cond_true ((ev s15 rfl).trans (congrArg Value.bool e2)) ?_
  have hlt2 : j < L.length := by have := of_decide_eq_true e2; omega
  clear s15 e2
  go_upto_region 3 with fail
  refine wp_region_lit ?_
  obtain ⟨d, hd⟩ : ∃ d, L[j]? = some d := ⟨_, List.getElem?_eq_getElem hlt2⟩
  have hsl := hD.later (h0.trans (HI.out.2.1.mono hB0))
  obtain ⟨q, o, rfl, hq, hlie⟩ := hsl.place (fun e => by rw [e] at hlt2; simp at hlt2)
  have hdf := hfit d (List.mem_of_getElem? hd)
  obtain ⟨c, hc0⟩ := Int.eq_ofNat_of_zero_le hdf.1
  obtain ⟨n, hn0⟩ := Int.eq_ofNat_of_zero_le hdf.2.2.1
  obtain ⟨k, hk0⟩ := Int.eq_ofNat_of_zero_le hdf.2.2.2.2.1
  obtain ⟨s, hs0⟩ := Int.eq_ofNat_of_zero_le hdf.2.2.2.2.2.2.1
  obtain ⟨v, hv0⟩ : ∃ v, d.o.v = v := ⟨_, rfl⟩
  have hvs : v.size ≤ 64 := by rw [← hv0]; exact hdf.2.2.2.2.2.2.2.2
  have e0 : wr.cell? ⟨q, o + j * 5, none⟩ = some (.int .i64 (c : Int)) := by rw [← hc0]; exact hlie j d hd 0 _ rfl
  have e1 : wr.cell? ⟨q, o + j * 5 + 1, none⟩ = some (.int .i64 (n : Int)) := by rw [← hn0]; exact hlie j d hd 1 _ rfl
  have e2 : wr.cell? ⟨q, o + j * 5 + 2, none⟩ = some (.int .i64 (k : Int)) := by rw [← hk0]; exact hlie j d hd 2 _ rfl
  have e3 : wr.cell? ⟨q, o + j * 5 + 3, none⟩ = some (.int .i64 (s : Int)) := by rw [← hs0]; exact hlie j d hd 3 _ rfl
  have e4 : wr.cell? ⟨q, o + j * 5 + 4, none⟩ = some (.string v) := by rw [← hv0]; exact hlie j d hd 4 _ rfl
  have h1 := hdf.2.1
  have h2 := hdf.2.2.2.1
  have h3 := hdf.2.2.2.2.2.1
  have h4 := hdf.2.2.2.2.2.2.2.1
  rw [hc0] at h1
  rw [hn0] at h2
  rw [hk0] at h3
  rw [hs0] at h4
  have enx : enBy d = nmBy c n ++ opBy k s v := by unfold enBy; rw [hc0, hn0, hk0, hs0, hv0]; rfl
  obtain ⟨w5, hw5⟩ : ∃ w5, w5 = wr.alloc (.cells #[.int .i64 (c : Int), .int .i64 (n : Int), .int .i64 (k : Int), .int .i64 (s : Int), .string v] 28) := ⟨_, rfl⟩
  have hs5 : w5.heap.size = wr.heap.size + 1 := by rw [hw5]; simp
  have hb5 : Below wr.heap.size wr w5 := by rw [hw5]; exact (Below.refl _ _).alloc (Nat.le_refl _) _
  have HQ : Hid (∀ vv, Wi.TKp w5 vv → ∀ (ii : Nat) (uu : Value), ([.int .i64 (c : Int), .int .i64 (n : Int), .int .i64 (k : Int), .int .i64 (s : Int), .string v] : List Value)[ii]? = some uu → vv.cell? ⟨wr.heap.size, ii, none⟩ = some uu) := fun vv hv ii uu hx => by
    rw [hv.cell (p := ⟨wr.heap.size, ii, none⟩) (by rw [hs5]; exact Nat.lt_succ_self _) (by rw [hw5]; exact Wi.not_wtyp_box _ _ _ (by decide))]
    rw [hw5]
    exact cell_box _ _ _ _ _ (by simpa using hx)
  have hO5 := HI.out.1.later hb5
  have hlen : ((l ++ M.form L.length ++ esBy (L.take j)).length) ≤ l.length + 9 + 102 * 256 := by
    have f1 := form_le (show L.length < 2 ^ 64 by omega)
    have f2 := esBy_le (L.take j) (fun x hx => hfit x (List.mem_of_mem_take hx))
    rw [List.length_append, List.length_append]
    rw [List.length_take] at f2
    omega
  have hlen2 : (nmBy c n).length ≤ 18 := nmBy_le (by omega) (by omega)
  refine vt (.pointer (some ⟨q, o + j * 5, none⟩)) (ex_ix rfl (ev s12 rfl) (ev s14 rfl) (ixEnt _ _ _ _ _ hlt2 _)) hz (fun Yk zz kk s16 => ?_)
  replace s0 := ku s0
  replace s12 := ku s12
  replace s13 := ku s13
  replace s14 := ku s14
  replace hz := zz
  clear kk zz
  refine vt (.agg #[.int .i64 (c : Int), .int .i64 (n : Int), .int .i64 (k : Int), .int .i64 (s : Int), .string v]) (ex_ld rfl (ev s16 rfl) (ldEnAt e0 e1 e2 e3 e4)) hz (fun Yl zz kk s17 => ?_)
  replace s0 := ku s0
  replace s12 := ku s12
  replace s13 := ku s13
  replace s14 := ku s14
  replace hz := zz
  clear kk zz s16 Yk
  refine vw (.pointer (some ⟨wr.heap.size, 0, none⟩)) (wr.alloc (.cells #[.int .i64 0, .int .i64 0, .int .i64 0, .int .i64 0, .string ⟨#[]⟩] 28)) (want_none rfl) (ex_al rfl (by go_simp)) rfl hz (by decide) (fun Ym zz kk s5 => ?_)
  replace s0 := ku s0
  replace s12 := ku s12
  replace s13 := ku s13
  replace s14 := ku s14
  replace s17 := ku s17
  replace hz := zz
  clear kk zz Yl
  refine vs w5 (want_none rfl) (ex_st rfl (ev s5 rfl) (ev s17 rfl) (by rw [hw5]; exact stEn _ _ _ _ _ _)) rfl ?_
  refine wpList_nil ?_
  go_upto_region 4 with fail
  refine wp_region_lit ?_
  refine vt _ (ex_move rfl (ev s0 rfl)) hz (fun Yn zz kk s18 => ?_)
  replace s0 := ku s0
  replace s5 := ku s5
  replace s12 := ku s12
  replace s13 := ku s13
  replace s14 := ku s14
  replace hz := zz
  clear kk zz s17
  refine vt (.agg #[.int .i64 (c : Int), .int .i64 (n : Int), .int .i64 (k : Int), .int .i64 (s : Int), .string v]) (ex_ld rfl (ev s5 rfl) (ldEnAt (HQ.out w5 (Wi.TKp.refl w5) 0 _ rfl) (HQ.out w5 (Wi.TKp.refl w5) 1 _ rfl) (HQ.out w5 (Wi.TKp.refl w5) 2 _ rfl) (HQ.out w5 (Wi.TKp.refl w5) 3 _ rfl) (HQ.out w5 (Wi.TKp.refl w5) 4 _ rfl))) hz (fun Yo zz kk s19 => ?_)
  replace s0 := ku s0
  replace s5 := ku s5
  replace s12 := ku s12
  replace s13 := ku s13
  replace s14 := ku s14
  replace s18 := ku s18
  replace hz := zz
  clear kk zz Yn
  refine vcallP (want_none rfl) (ex_call rfl (by simp only [List.map_toArray, List.map_cons, List.map_nil, (ev s18 rfl), (ev s19 rfl), evc] <;> rfl) rfl) (wname_tk B b (l ++ M.form L.length ++ esBy (L.take j)) c n k s v w5 hB hO5 (by omega) (by omega) (Nat.le_trans (Nat.add_le_add_right hlen 18) (by omega))) rfl hz (by decide) ?_
  rintro e w6 ⟨rfl, hO6, hb6, ht6⟩
  refine ⟨_, rfl, fun Yp zz kk s20 => ?_⟩
  replace s0 := ku s0
  replace s5 := ku s5
  replace s12 := ku s12
  replace s13 := ku s13
  replace s14 := ku s14
  replace hz := zz
  clear kk zz s18 s19 Yo
  refine wpList_nil ?_
  go_upto_region 5 with fail
  refine wp_region_lit ?_
  refine vt _ (ex_move rfl (ev s0 rfl)) hz (fun Yq zz kk s21 => ?_)
  replace s0 := ku s0
  replace s5 := ku s5
  replace s12 := ku s12
  replace s13 := ku s13
  replace s14 := ku s14
  replace hz := zz
  clear kk zz s20
  refine vt (.pointer (some ⟨wr.heap.size, 2, none⟩)) (ex_fa rfl (ev s5 rfl) (by go_simp)) hz (fun Yr zz kk s22 => ?_)
  replace s0 := ku s0
  replace s12 := ku s12
  replace s13 := ku s13
  replace s14 := ku s14
  replace s21 := ku s21
  replace hz := zz
  clear kk zz s5 Yq
  refine vt (.agg #[.int .i64 (k : Int), .int .i64 (s : Int), .string v]) (ex_ld rfl (ev s22 rfl) (ldOpAt (HQ.out w6 ht6 2 _ rfl) (HQ.out w6 ht6 3 _ rfl) (HQ.out w6 ht6 4 _ rfl))) hz (fun Ys zz kk s23 => ?_)
  replace s0 := ku s0
  replace s12 := ku s12
  replace s13 := ku s13
  replace s14 := ku s14
  replace s21 := ku s21
  replace hz := zz
  clear kk zz s22 Yr
  refine vcallP (want_none rfl) (ex_call rfl (by simp only [List.map_toArray, List.map_cons, List.map_nil, (ev s21 rfl), (ev s23 rfl), evc] <;> rfl) rfl) (wop_tk B b ((l ++ M.form L.length ++ esBy (L.take j)) ++ nmBy c n) k s v w6 hB hO6 (by omega) (by omega) hvs (by rw [List.length_append]; exact Nat.le_trans (Nat.add_le_add_right (Nat.add_le_add hlen hlen2) 91) (by omega))) rfl hz (by decide) ?_
  rintro e w7 ⟨rfl, hO7, hb7, ht7⟩
  refine ⟨_, rfl, fun Yt zz kk s24 => ?_⟩
  replace s0 := ku s0
  replace s12 := ku s12
  replace s13 := ku s13
  replace s14 := ku s14
  replace hz := zz
  clear kk zz s21 s23 Ys
  refine wpList_nil ?_
  go_upto_region 6 with fail
  refine wp_region_lit ?_
  refine vt (.int .i64 ((j + 1 : Nat) : Int)) (ex_bin rfl (ev s14 rfl) rfl (addJ j (by omega) _ _ _)) hz (fun Yu zz kk s25 => ?_)
  replace s0 := ku s0
  replace s12 := ku s12
  replace s13 := ku s13
  replace s14 := ku s14
  replace hz := zz
  clear kk zz s24
  refine vt _ (ex_move rfl (ev s25 rfl)) hz (fun Yv zz kk s14x => ?_)
  replace s0 := ku s0
  replace s12 := ku s12
  replace s13 := ku s13
  clear kk hz s25 s14
  have hz := zz
  have s14 := s14x
  clear zz s14x Yu
  refine wpList_nil ?_
  have nx : esBy (L.take (j + 1)) = esBy (L.take j) ++ (nmBy c n ++ opBy k s v) := by rw [esBy_next hd, enx]
  have hsz := HI.out.2.1.size
  exact ⟨_, rfl, by omega, hz, s0, s12, s13, s14, by rw [nx]; simpa only [List.append_assoc] using hO7, HI.out.2.1.trans ((hb5.mono (by have := HI.out.1.lt; omega)).trans (hb6.trans hb7)), HI.out.2.2.trans ((Wi.TKp.of_below hb5).trans (ht6.trans ht7))⟩
theorem int_tkI (B b : Nat) (l : List Int) (x : Int) (w : World) (hB : B ≤ b) (h : Wi.WOkT w b l) (h0 : 0 ≤ x) (h1 : x ≤ 9223372036854775807) (hl : l.length + 9 ≤ 140737488355328) :
    Calls Tryz.prog 90 #[.pointer (some ⟨b, 0, none⟩), .int .i64 x] w fun e w' => e = .returned (.tuple #[]) ∧ Wi.WOkT w' b (l ++ M.form x.toNat) ∧ Below B w w' ∧ Wi.TKp w w' := by
  obtain ⟨n, rfl⟩ := Int.eq_ofNat_of_zero_le h0
  exact Wi.int_tk B b l n w hB h (by omega) hl
theorem wdraw_I (B b : Nat) (l : List Int) (d : Int × Int) (w : World) (hB : B ≤ b) (h : Wi.WOkT w b l) (hd : drF d) (hl : l.length + 18 ≤ 140737488355328) :
    Calls Tryz.prog 120 #[.pointer (some ⟨b, 0, none⟩), .agg #[.int .u64 d.1, .int .u64 d.2]] w fun e w' => e = .returned (.tuple #[]) ∧ Wi.WOkT w' b (l ++ drBy d.1.toNat d.2.toNat) ∧ Below B w w' ∧ Wi.TKp w w' := by
  obtain ⟨x, y⟩ := d
  obtain ⟨a, b', c, e⟩ := hd
  dsimp only at a b' c e ⊢
  obtain ⟨n, rfl⟩ := Int.eq_ofNat_of_zero_le a
  obtain ⟨k, rfl⟩ := Int.eq_ofNat_of_zero_le c
  exact wdraw_tk B b l n k w hB h (by omega) (by omega) hl
theorem wname_I (B b : Nat) (l : List Int) (e : En) (w : World) (hB : B ≤ b) (h : Wi.WOkT w b l) (he : 0 ≤ e.c ∧ e.c ≤ 9223372036854775807 ∧ 0 ≤ e.n ∧ e.n ≤ 9223372036854775807) (hl : l.length + 18 ≤ 140737488355328) :
    Calls Tryz.prog 121 #[.pointer (some ⟨b, 0, none⟩), .agg #[.int .i64 e.c, .int .i64 e.n, .int .i64 e.o.k, .int .i64 e.o.s, .string e.o.v]] w fun r w' => r = .returned (.tuple #[]) ∧ Wi.WOkT w' b (l ++ nmBy e.c.toNat e.n.toNat) ∧ Below B w w' ∧ Wi.TKp w w' := by
  obtain ⟨c, n, ⟨k, s, v⟩⟩ := e
  dsimp only at he ⊢
  obtain ⟨a1, a2, a3, a4⟩ := he
  obtain ⟨c', rfl⟩ := Int.eq_ofNat_of_zero_le a1
  obtain ⟨n', rfl⟩ := Int.eq_ofNat_of_zero_le a3
  exact wname_tk B b l c' n' k s v w hB h (by omega) (by omega) hl
theorem wop_I (B b : Nat) (l : List Int) (k s : Int) (v : ByteArray) (w : World) (hB : B ≤ b) (h : Wi.WOkT w b l) (he : 0 ≤ k ∧ k ≤ 9223372036854775807 ∧ 0 ≤ s ∧ s ≤ 9223372036854775807 ∧ v.size ≤ 64) (hl : l.length + 91 ≤ 140737488355328) :
    Calls Tryz.prog 122 #[.pointer (some ⟨b, 0, none⟩), .agg #[.int .i64 k, .int .i64 s, .string v]] w fun r w' => r = .returned (.tuple #[]) ∧ Wi.WOkT w' b (l ++ opBy k.toNat s.toNat v) ∧ Below B w w' ∧ Wi.TKp w w' := by
  obtain ⟨a1, a2, a3, a4, a5⟩ := he
  obtain ⟨k', rfl⟩ := Int.eq_ofNat_of_zero_le a1
  obtain ⟨s', rfl⟩ := Int.eq_ofNat_of_zero_le a3
  exact wop_tk B b l k' s' v w hB h (by omega) (by omega) a5 hl
theorem wresult_I (B b : Nat) (l : List Int) (r : Int × Int × ByteArray) (w : World) (hB : B ≤ b) (h : Wi.WOkT w b l) (he : 0 ≤ r.1 ∧ r.1 ≤ 9223372036854775807 ∧ 0 ≤ r.2.1 ∧ r.2.1 ≤ 9223372036854775807 ∧ r.2.2.size ≤ 64) (hl : l.length + 91 ≤ 140737488355328) :
    Calls Tryz.prog 123 #[.pointer (some ⟨b, 0, none⟩), .agg #[.int .i64 r.1, .int .i64 r.2.1, .string r.2.2]] w fun r' w' => r' = .returned (.tuple #[]) ∧ Wi.WOkT w' b (l ++ opBy r.1.toNat r.2.1.toNat r.2.2) ∧ Below B w w' ∧ Wi.TKp w w' := by
  obtain ⟨k, s, v⟩ := r
  dsimp only at he ⊢
  obtain ⟨a1, a2, a3, a4, a5⟩ := he
  obtain ⟨k', rfl⟩ := Int.eq_ofNat_of_zero_le a1
  obtain ⟨s', rfl⟩ := Int.eq_ofNat_of_zero_le a3
  exact wresult_tk B b l k' s' v w hB h (by omega) (by omega) a5 hl
structure mgF (m : Mg) (L : List En) (D : List (Int × Int)) : Prop where
  kd : 0 ≤ m.k ∧ m.k ≤ 9223372036854775807
  nd : 0 ≤ m.nd ∧ m.nd ≤ 9223372036854775807
  vw : 0 ≤ m.vw ∧ m.vw ≤ 9223372036854775807
  ls : 0 ≤ m.ls ∧ m.ls ≤ 9223372036854775807
  p : 0 ≤ m.p ∧ m.p ≤ 9223372036854775807
  cm : 0 ≤ m.cm ∧ m.cm ≤ 9223372036854775807
  d : drF m.d
  e : enF m.e
  r : 0 ≤ m.r.1 ∧ m.r.1 ≤ 9223372036854775807 ∧ 0 ≤ m.r.2.1 ∧ m.r.2.1 ≤ 9223372036854775807 ∧ m.r.2.2.size ≤ 64
  es : ∀ e ∈ L, enF e
  lL : L.length ≤ 256
  ds : ∀ d ∈ D, drF d
  lD : D.length ≤ 7
def colBy (m : Mg) (L : List En) (D : List (Int × Int)) (j : Nat) (op : Bool) : List Int :=
  match j with
  | 0 => M.form m.nd.toNat
  | 1 => M.form m.vw.toNat
  | 2 => M.form m.ls.toNat
  | 3 => M.form m.p.toNat
  | 4 => M.form m.cm.toNat
  | 5 => drBy m.d.1.toNat m.d.2.toNat
  | 6 => nmBy m.e.c.toNat m.e.n.toNat ++ (if op then opBy m.e.o.k.toNat m.e.o.s.toNat m.e.o.v else [])
  | 7 => opBy m.r.1.toNat m.r.2.1.toNat m.r.2.2
  | 8 => lgBy L
  | 9 => veBy D
  | _ => []
theorem Wi.not_wtyp_kind {w : World} {q : Nat} {c : Array Value} {t : TypeId} {f : Nat × Nat} (h : w.heap[q]? = some (.cells c t f)) (ht : ¬ (t = 5 ∨ t = 151 ∨ t = 112)) : ¬ Wi.wtyp w q := by
  rintro ⟨c', f', t', e, h'⟩
  rw [h] at e
  cases e
  exact ht h'
theorem MBox.tk {w w' : World} {q : Nat} {m : Mg} {s t : Value} (h : MBox w q m s t) (u : Wi.TKp w w') : MBox w' q m s t := by
  obtain ⟨c, f, hk⟩ := h.kind
  exact h.upd u (Wi.not_wtyp_kind hk (by decide))
theorem MBox.faOp (q : Nat) (w : World) : (Instr.fieldAt 28 (.pointer (some ⟨q, 3, none⟩)) 2).run Tryz.prog w = .ok (.pointer (some ⟨q, 5, none⟩)) w := by
  go_simp
theorem MBox.ldOp {w : World} {q : Nat} {m : Mg} {s t : Value} (h : MBox w q m s t) : (Instr.loadAt 26 (.pointer (some ⟨q, 5, none⟩))).run Tryz.prog w = .ok (.agg #[.int .i64 m.e.o.k, .int .i64 m.e.o.s, .string m.e.o.v]) w := by
  obtain ⟨x0, x1, x2, x3, x4, x5, x6, x7, x8, x9, x10, x11, x12, x13, x14, x15, x16, x17⟩ := h.all
  go_simp
theorem neqU8 (x y : Operand) (a b : Int) (w : World) : (do eqGuard .neq 82 x y (.int .u8 a) (.int .u8 b); binOp .neq 82 (.int .u8 a) (.int .u8 b) : Sem Value).run Tryz.prog w = .ok (.bool (!decide (a = b))) w := by
  go_simp
  by_cases h : a = b <;> simp [h]
set_option maxHeartbeats 4000000 in
theorem wfield_0 (B b : Nat) (l : List Int) (m : Mg) (a1 a2 : Option Addr) (cl cv : Nat) (L : List En) (D : List (Int × Int)) (q : Int) (w0 w : World) (hB : B ≤ b) (h0 : Below w0.heap.size w0 w) (hB0 : w0.heap.size ≤ B) (hL : SlY yE w0 a1 L.length cl L) (hD : SlY yD w0 a2 D.length cv D) (hm : mgF m L D) (h : Wi.WOkT w b l) (hl : l.length + 30000 ≤ 140737488355328) :
    Calls Tryz.prog 91 #[.pointer (some ⟨b, 0, none⟩), m.val (.slice a1 L.length cl) (.slice a2 D.length cv), .int .i64 0, .int .u8 q] w fun e w' => e = .returned (.tuple #[]) ∧ Wi.WOkT w' b (l ++ colBy m L D 0 (!decide (q = 15))) ∧ Below B w w' ∧ Wi.TKp w w' := by
  have hlt := h.lt
  go_enter Tryz.func91, Tryz.ntmps91
  go_upto_region 3 with (refine boxMk rfl (.tmp 1) rfl m _ _ rfl ?_; intro q1 w1 hq1 M1 hBw z1; subst hq1)
  have hO1 := h.later hBw
  have hBl : B ≤ w.heap.size := by omega
  have HM : Hid (∀ v, Wi.TKp w1 v → MBox v w.heap.size m (.slice a1 L.length cl) (.slice a2 D.length cv)) := fun v hv => M1.tk hv
  have hT1 := Wi.TKp.refl w1
  refine vh_start (fun v => Wi.TKp w1 v) (by kernel_rfl) ?_
  have hS : Wi.TKp w1 w1.drew := (Wi.TKp.refl w1).drewN 1
  refine vh_gen (fun T => T.size = 86 ∧ T[0]? = some (gw true (.pointer (some ⟨b, 0, none⟩))) ∧ T[3]? = some (gw true (.int .u8 q)) ∧ T[5]? = some (gw true (.pointer (some ⟨w.heap.size, 0, none⟩)))) ⟨rfl, rfl, rfl, rfl⟩ (fun T0 ⟨hz, s0, s3, s5⟩ => ?_)
  refine vh_take 0 true (.pointer (some ⟨b, 0, none⟩)) rfl (by kernel_rfl) (by kernel_rfl) (by kernel_rfl) (want_none rfl) (fun hc v hv => ex_move rfl (ev s0 rfl)) rfl hz (by decide) hS (fun A_1 zz kk s11 => ?_)
  replace s0 := ku s0
  replace s3 := ku s3
  replace s5 := ku s5
  replace hz := zz
  clear kk zz
  refine vh_take 1 true (.pointer (some ⟨b, 0, none⟩)) rfl (by kernel_rfl) (by kernel_rfl) (by kernel_rfl) (want_none rfl) (fun hc v hv => ex_nil rfl (ev s11 rfl)) rfl hz (by decide) hS (fun A_2 zz kk s12 => ?_)
  replace s0 := ku s0
  replace s3 := ku s3
  replace s5 := ku s5
  replace hz := zz
  clear kk zz s11 A_1
  refine vh_take 2 true (.pointer (some ⟨b, 0, none⟩)) rfl (by kernel_rfl) (by kernel_rfl) (by kernel_rfl) (want_none rfl) (fun hc v hv => ex_fa rfl (ev s12 rfl) (by go_simp)) rfl hz (by decide) hS (fun A_3 zz kk s13 => ?_)
  replace s0 := ku s0
  replace s3 := ku s3
  replace s5 := ku s5
  replace hz := zz
  clear kk zz s12 A_2
  refine vh_take 3 true (.pointer (some ⟨w.heap.size, 1, none⟩)) rfl (by kernel_rfl) (by kernel_rfl) (by kernel_rfl) (want_none rfl) (fun hc v hv => ex_fa rfl (ev s5 rfl) (MBox.faNode _ _)) rfl hz (by decide) hS (fun A_4 zz kk s14 => ?_)
  replace s0 := ku s0
  replace s3 := ku s3
  replace s5 := ku s5
  replace s13 := ku s13
  replace hz := zz
  clear kk zz A_3
  refine vh_take 4 true (.int .i64 m.nd) rfl (by kernel_rfl) (by kernel_rfl) (by kernel_rfl) (want_none rfl) (fun hc v hv => ex_ld rfl (ev s14 rfl) ((HM.out v hv).ldNode)) rfl hz (by decide) hS (fun A_5 zz kk s15 => ?_)
  replace s0 := ku s0
  replace s3 := ku s3
  replace s5 := ku s5
  replace s13 := ku s13
  replace hz := zz
  clear kk zz s14 A_4
  refine vh_call 5 rfl (by kernel_rfl) (want_none rfl) (ex_call rfl (by simp only [List.map_toArray, List.map_cons, List.map_nil, (ev s13 rfl), (ev s15 rfl), evc] <;> rfl) rfl) (int_tkI B b l m.nd w1.drew hB hO1.drew hm.nd.1 hm.nd.2 (by omega)) rfl hz (by decide) ?_
  rintro e w2 ⟨rfl, hO2, hb2, ht2⟩
  refine ⟨_, rfl, (hS.trans ht2), fun A_6 zz kk s16 => ?_⟩
  have hb3 : Below B w1 w2 := (Below.refl _ _).drew.trans hb2
  have ht3 : Wi.TKp w1 w2 := ((Wi.TKp.refl w1).drewN 1).trans ht2
  replace s0 := ku s0
  replace s3 := ku s3
  replace s5 := ku s5
  replace hz := zz
  clear kk zz s13 s15 A_5
  refine vh_done (by kernel_rfl) ?_
  go_wp2
  go_end0
  exact ⟨rfl, hO2, (hBw.mono hBl).trans hb3, (Wi.TKp.of_below hBw).trans ht3⟩
set_option maxHeartbeats 4000000 in
theorem wfield_1 (B b : Nat) (l : List Int) (m : Mg) (a1 a2 : Option Addr) (cl cv : Nat) (L : List En) (D : List (Int × Int)) (q : Int) (w0 w : World) (hB : B ≤ b) (h0 : Below w0.heap.size w0 w) (hB0 : w0.heap.size ≤ B) (hL : SlY yE w0 a1 L.length cl L) (hD : SlY yD w0 a2 D.length cv D) (hm : mgF m L D) (h : Wi.WOkT w b l) (hl : l.length + 30000 ≤ 140737488355328) :
    Calls Tryz.prog 91 #[.pointer (some ⟨b, 0, none⟩), m.val (.slice a1 L.length cl) (.slice a2 D.length cv), .int .i64 1, .int .u8 q] w fun e w' => e = .returned (.tuple #[]) ∧ Wi.WOkT w' b (l ++ colBy m L D 1 (!decide (q = 15))) ∧ Below B w w' ∧ Wi.TKp w w' := by
  have hlt := h.lt
  go_enter Tryz.func91, Tryz.ntmps91
  go_upto_region 5 with (refine boxMk rfl (.tmp 1) rfl m _ _ rfl ?_; intro q1 w1 hq1 M1 hBw z1; subst hq1)
  have hO1 := h.later hBw
  have hBl : B ≤ w.heap.size := by omega
  have HM : Hid (∀ v, Wi.TKp w1 v → MBox v w.heap.size m (.slice a1 L.length cl) (.slice a2 D.length cv)) := fun v hv => M1.tk hv
  have hT1 := Wi.TKp.refl w1
  refine vh_start (fun v => Wi.TKp w1 v) (by kernel_rfl) ?_
  have hS : Wi.TKp w1 w1.drew := (Wi.TKp.refl w1).drewN 1
  refine vh_gen (fun T => T.size = 86 ∧ T[0]? = some (gw true (.pointer (some ⟨b, 0, none⟩))) ∧ T[3]? = some (gw true (.int .u8 q)) ∧ T[5]? = some (gw true (.pointer (some ⟨w.heap.size, 0, none⟩)))) ⟨rfl, rfl, rfl, rfl⟩ (fun T0 ⟨hz, s0, s3, s5⟩ => ?_)
  refine vh_take 0 true (.pointer (some ⟨b, 0, none⟩)) rfl (by kernel_rfl) (by kernel_rfl) (by kernel_rfl) (want_none rfl) (fun hc v hv => ex_move rfl (ev s0 rfl)) rfl hz (by decide) hS (fun A_1 zz kk s19 => ?_)
  replace s0 := ku s0
  replace s3 := ku s3
  replace s5 := ku s5
  replace hz := zz
  clear kk zz
  refine vh_take 1 true (.pointer (some ⟨b, 0, none⟩)) rfl (by kernel_rfl) (by kernel_rfl) (by kernel_rfl) (want_none rfl) (fun hc v hv => ex_nil rfl (ev s19 rfl)) rfl hz (by decide) hS (fun A_2 zz kk s20 => ?_)
  replace s0 := ku s0
  replace s3 := ku s3
  replace s5 := ku s5
  replace hz := zz
  clear kk zz s19 A_1
  refine vh_take 2 true (.pointer (some ⟨b, 0, none⟩)) rfl (by kernel_rfl) (by kernel_rfl) (by kernel_rfl) (want_none rfl) (fun hc v hv => ex_fa rfl (ev s20 rfl) (by go_simp)) rfl hz (by decide) hS (fun A_3 zz kk s21 => ?_)
  replace s0 := ku s0
  replace s3 := ku s3
  replace s5 := ku s5
  replace hz := zz
  clear kk zz s20 A_2
  refine vh_take 3 true (.pointer (some ⟨w.heap.size, 2, none⟩)) rfl (by kernel_rfl) (by kernel_rfl) (by kernel_rfl) (want_none rfl) (fun hc v hv => ex_fa rfl (ev s5 rfl) (MBox.faView _ _)) rfl hz (by decide) hS (fun A_4 zz kk s22 => ?_)
  replace s0 := ku s0
  replace s3 := ku s3
  replace s5 := ku s5
  replace s21 := ku s21
  replace hz := zz
  clear kk zz A_3
  refine vh_take 4 true (.int .i64 m.vw) rfl (by kernel_rfl) (by kernel_rfl) (by kernel_rfl) (want_none rfl) (fun hc v hv => ex_ld rfl (ev s22 rfl) ((HM.out v hv).ldView)) rfl hz (by decide) hS (fun A_5 zz kk s23 => ?_)
  replace s0 := ku s0
  replace s3 := ku s3
  replace s5 := ku s5
  replace s21 := ku s21
  replace hz := zz
  clear kk zz s22 A_4
  refine vh_call 5 rfl (by kernel_rfl) (want_none rfl) (ex_call rfl (by simp only [List.map_toArray, List.map_cons, List.map_nil, (ev s21 rfl), (ev s23 rfl), evc] <;> rfl) rfl) (int_tkI B b l m.vw w1.drew hB hO1.drew hm.vw.1 hm.vw.2 (by omega)) rfl hz (by decide) ?_
  rintro e w2 ⟨rfl, hO2, hb2, ht2⟩
  refine ⟨_, rfl, (hS.trans ht2), fun A_6 zz kk s24 => ?_⟩
  have hb3 : Below B w1 w2 := (Below.refl _ _).drew.trans hb2
  have ht3 : Wi.TKp w1 w2 := ((Wi.TKp.refl w1).drewN 1).trans ht2
  replace s0 := ku s0
  replace s3 := ku s3
  replace s5 := ku s5
  replace hz := zz
  clear kk zz s21 s23 A_5
  refine vh_done (by kernel_rfl) ?_
  go_wp2
  go_end0
  exact ⟨rfl, hO2, (hBw.mono hBl).trans hb3, (Wi.TKp.of_below hBw).trans ht3⟩
set_option maxHeartbeats 4000000 in
theorem wfield_2 (B b : Nat) (l : List Int) (m : Mg) (a1 a2 : Option Addr) (cl cv : Nat) (L : List En) (D : List (Int × Int)) (q : Int) (w0 w : World) (hB : B ≤ b) (h0 : Below w0.heap.size w0 w) (hB0 : w0.heap.size ≤ B) (hL : SlY yE w0 a1 L.length cl L) (hD : SlY yD w0 a2 D.length cv D) (hm : mgF m L D) (h : Wi.WOkT w b l) (hl : l.length + 30000 ≤ 140737488355328) :
    Calls Tryz.prog 91 #[.pointer (some ⟨b, 0, none⟩), m.val (.slice a1 L.length cl) (.slice a2 D.length cv), .int .i64 2, .int .u8 q] w fun e w' => e = .returned (.tuple #[]) ∧ Wi.WOkT w' b (l ++ colBy m L D 2 (!decide (q = 15))) ∧ Below B w w' ∧ Wi.TKp w w' := by
  have hlt := h.lt
  go_enter Tryz.func91, Tryz.ntmps91
  go_upto_region 7 with (refine boxMk rfl (.tmp 1) rfl m _ _ rfl ?_; intro q1 w1 hq1 M1 hBw z1; subst hq1)
  have hO1 := h.later hBw
  have hBl : B ≤ w.heap.size := by omega
  have HM : Hid (∀ v, Wi.TKp w1 v → MBox v w.heap.size m (.slice a1 L.length cl) (.slice a2 D.length cv)) := fun v hv => M1.tk hv
  have hT1 := Wi.TKp.refl w1
  refine vh_start (fun v => Wi.TKp w1 v) (by kernel_rfl) ?_
  have hS : Wi.TKp w1 w1.drew := (Wi.TKp.refl w1).drewN 1
  refine vh_gen (fun T => T.size = 86 ∧ T[0]? = some (gw true (.pointer (some ⟨b, 0, none⟩))) ∧ T[3]? = some (gw true (.int .u8 q)) ∧ T[5]? = some (gw true (.pointer (some ⟨w.heap.size, 0, none⟩)))) ⟨rfl, rfl, rfl, rfl⟩ (fun T0 ⟨hz, s0, s3, s5⟩ => ?_)
  refine vh_take 0 true (.pointer (some ⟨b, 0, none⟩)) rfl (by kernel_rfl) (by kernel_rfl) (by kernel_rfl) (want_none rfl) (fun hc v hv => ex_move rfl (ev s0 rfl)) rfl hz (by decide) hS (fun A_1 zz kk s27 => ?_)
  replace s0 := ku s0
  replace s3 := ku s3
  replace s5 := ku s5
  replace hz := zz
  clear kk zz
  refine vh_take 1 true (.pointer (some ⟨b, 0, none⟩)) rfl (by kernel_rfl) (by kernel_rfl) (by kernel_rfl) (want_none rfl) (fun hc v hv => ex_nil rfl (ev s27 rfl)) rfl hz (by decide) hS (fun A_2 zz kk s28 => ?_)
  replace s0 := ku s0
  replace s3 := ku s3
  replace s5 := ku s5
  replace hz := zz
  clear kk zz s27 A_1
  refine vh_take 2 true (.pointer (some ⟨b, 0, none⟩)) rfl (by kernel_rfl) (by kernel_rfl) (by kernel_rfl) (want_none rfl) (fun hc v hv => ex_fa rfl (ev s28 rfl) (by go_simp)) rfl hz (by decide) hS (fun A_3 zz kk s29 => ?_)
  replace s0 := ku s0
  replace s3 := ku s3
  replace s5 := ku s5
  replace hz := zz
  clear kk zz s28 A_2
  refine vh_take 3 true (.pointer (some ⟨w.heap.size, 13, none⟩)) rfl (by kernel_rfl) (by kernel_rfl) (by kernel_rfl) (want_none rfl) (fun hc v hv => ex_fa rfl (ev s5 rfl) (MBox.faLast _ _)) rfl hz (by decide) hS (fun A_4 zz kk s30 => ?_)
  replace s0 := ku s0
  replace s3 := ku s3
  replace s5 := ku s5
  replace s29 := ku s29
  replace hz := zz
  clear kk zz A_3
  refine vh_take 4 true (.int .i64 m.ls) rfl (by kernel_rfl) (by kernel_rfl) (by kernel_rfl) (want_none rfl) (fun hc v hv => ex_ld rfl (ev s30 rfl) ((HM.out v hv).ldLast)) rfl hz (by decide) hS (fun A_5 zz kk s31 => ?_)
  replace s0 := ku s0
  replace s3 := ku s3
  replace s5 := ku s5
  replace s29 := ku s29
  replace hz := zz
  clear kk zz s30 A_4
  refine vh_call 5 rfl (by kernel_rfl) (want_none rfl) (ex_call rfl (by simp only [List.map_toArray, List.map_cons, List.map_nil, (ev s29 rfl), (ev s31 rfl), evc] <;> rfl) rfl) (int_tkI B b l m.ls w1.drew hB hO1.drew hm.ls.1 hm.ls.2 (by omega)) rfl hz (by decide) ?_
  rintro e w2 ⟨rfl, hO2, hb2, ht2⟩
  refine ⟨_, rfl, (hS.trans ht2), fun A_6 zz kk s32 => ?_⟩
  have hb3 : Below B w1 w2 := (Below.refl _ _).drew.trans hb2
  have ht3 : Wi.TKp w1 w2 := ((Wi.TKp.refl w1).drewN 1).trans ht2
  replace s0 := ku s0
  replace s3 := ku s3
  replace s5 := ku s5
  replace hz := zz
  clear kk zz s29 s31 A_5
  refine vh_done (by kernel_rfl) ?_
  go_wp2
  go_end0
  exact ⟨rfl, hO2, (hBw.mono hBl).trans hb3, (Wi.TKp.of_below hBw).trans ht3⟩
set_option maxHeartbeats 4000000 in
theorem wfield_3 (B b : Nat) (l : List Int) (m : Mg) (a1 a2 : Option Addr) (cl cv : Nat) (L : List En) (D : List (Int × Int)) (q : Int) (w0 w : World) (hB : B ≤ b) (h0 : Below w0.heap.size w0 w) (hB0 : w0.heap.size ≤ B) (hL : SlY yE w0 a1 L.length cl L) (hD : SlY yD w0 a2 D.length cv D) (hm : mgF m L D) (h : Wi.WOkT w b l) (hl : l.length + 30000 ≤ 140737488355328) :
    Calls Tryz.prog 91 #[.pointer (some ⟨b, 0, none⟩), m.val (.slice a1 L.length cl) (.slice a2 D.length cv), .int .i64 3, .int .u8 q] w fun e w' => e = .returned (.tuple #[]) ∧ Wi.WOkT w' b (l ++ colBy m L D 3 (!decide (q = 15))) ∧ Below B w w' ∧ Wi.TKp w w' := by
  have hlt := h.lt
  go_enter Tryz.func91, Tryz.ntmps91
  go_upto_region 9 with (refine boxMk rfl (.tmp 1) rfl m _ _ rfl ?_; intro q1 w1 hq1 M1 hBw z1; subst hq1)
  have hO1 := h.later hBw
  have hBl : B ≤ w.heap.size := by omega
  have HM : Hid (∀ v, Wi.TKp w1 v → MBox v w.heap.size m (.slice a1 L.length cl) (.slice a2 D.length cv)) := fun v hv => M1.tk hv
  have hT1 := Wi.TKp.refl w1
  refine vh_start (fun v => Wi.TKp w1 v) (by kernel_rfl) ?_
  have hS : Wi.TKp w1 w1.drew := (Wi.TKp.refl w1).drewN 1
  refine vh_gen (fun T => T.size = 86 ∧ T[0]? = some (gw true (.pointer (some ⟨b, 0, none⟩))) ∧ T[3]? = some (gw true (.int .u8 q)) ∧ T[5]? = some (gw true (.pointer (some ⟨w.heap.size, 0, none⟩)))) ⟨rfl, rfl, rfl, rfl⟩ (fun T0 ⟨hz, s0, s3, s5⟩ => ?_)
  refine vh_take 0 true (.pointer (some ⟨b, 0, none⟩)) rfl (by kernel_rfl) (by kernel_rfl) (by kernel_rfl) (want_none rfl) (fun hc v hv => ex_move rfl (ev s0 rfl)) rfl hz (by decide) hS (fun A_1 zz kk s35 => ?_)
  replace s0 := ku s0
  replace s3 := ku s3
  replace s5 := ku s5
  replace hz := zz
  clear kk zz
  refine vh_take 1 true (.pointer (some ⟨b, 0, none⟩)) rfl (by kernel_rfl) (by kernel_rfl) (by kernel_rfl) (want_none rfl) (fun hc v hv => ex_nil rfl (ev s35 rfl)) rfl hz (by decide) hS (fun A_2 zz kk s36 => ?_)
  replace s0 := ku s0
  replace s3 := ku s3
  replace s5 := ku s5
  replace hz := zz
  clear kk zz s35 A_1
  refine vh_take 2 true (.pointer (some ⟨b, 0, none⟩)) rfl (by kernel_rfl) (by kernel_rfl) (by kernel_rfl) (want_none rfl) (fun hc v hv => ex_fa rfl (ev s36 rfl) (by go_simp)) rfl hz (by decide) hS (fun A_3 zz kk s37 => ?_)
  replace s0 := ku s0
  replace s3 := ku s3
  replace s5 := ku s5
  replace hz := zz
  clear kk zz s36 A_2
  refine vh_take 3 true (.pointer (some ⟨w.heap.size, 11, none⟩)) rfl (by kernel_rfl) (by kernel_rfl) (by kernel_rfl) (want_none rfl) (fun hc v hv => ex_fa rfl (ev s5 rfl) (MBox.faPlace _ _)) rfl hz (by decide) hS (fun A_4 zz kk s38 => ?_)
  replace s0 := ku s0
  replace s3 := ku s3
  replace s5 := ku s5
  replace s37 := ku s37
  replace hz := zz
  clear kk zz A_3
  refine vh_take 4 true (.int .i64 m.p) rfl (by kernel_rfl) (by kernel_rfl) (by kernel_rfl) (want_none rfl) (fun hc v hv => ex_ld rfl (ev s38 rfl) ((HM.out v hv).ldPlace)) rfl hz (by decide) hS (fun A_5 zz kk s39 => ?_)
  replace s0 := ku s0
  replace s3 := ku s3
  replace s5 := ku s5
  replace s37 := ku s37
  replace hz := zz
  clear kk zz s38 A_4
  refine vh_call 5 rfl (by kernel_rfl) (want_none rfl) (ex_call rfl (by simp only [List.map_toArray, List.map_cons, List.map_nil, (ev s37 rfl), (ev s39 rfl), evc] <;> rfl) rfl) (int_tkI B b l m.p w1.drew hB hO1.drew hm.p.1 hm.p.2 (by omega)) rfl hz (by decide) ?_
  rintro e w2 ⟨rfl, hO2, hb2, ht2⟩
  refine ⟨_, rfl, (hS.trans ht2), fun A_6 zz kk s40 => ?_⟩
  have hb3 : Below B w1 w2 := (Below.refl _ _).drew.trans hb2
  have ht3 : Wi.TKp w1 w2 := ((Wi.TKp.refl w1).drewN 1).trans ht2
  replace s0 := ku s0
  replace s3 := ku s3
  replace s5 := ku s5
  replace hz := zz
  clear kk zz s37 s39 A_5
  refine vh_done (by kernel_rfl) ?_
  go_wp2
  go_end0
  exact ⟨rfl, hO2, (hBw.mono hBl).trans hb3, (Wi.TKp.of_below hBw).trans ht3⟩
set_option maxHeartbeats 4000000 in
theorem wfield_4 (B b : Nat) (l : List Int) (m : Mg) (a1 a2 : Option Addr) (cl cv : Nat) (L : List En) (D : List (Int × Int)) (q : Int) (w0 w : World) (hB : B ≤ b) (h0 : Below w0.heap.size w0 w) (hB0 : w0.heap.size ≤ B) (hL : SlY yE w0 a1 L.length cl L) (hD : SlY yD w0 a2 D.length cv D) (hm : mgF m L D) (h : Wi.WOkT w b l) (hl : l.length + 30000 ≤ 140737488355328) :
    Calls Tryz.prog 91 #[.pointer (some ⟨b, 0, none⟩), m.val (.slice a1 L.length cl) (.slice a2 D.length cv), .int .i64 4, .int .u8 q] w fun e w' => e = .returned (.tuple #[]) ∧ Wi.WOkT w' b (l ++ colBy m L D 4 (!decide (q = 15))) ∧ Below B w w' ∧ Wi.TKp w w' := by
  have hlt := h.lt
  go_enter Tryz.func91, Tryz.ntmps91
  go_upto_region 11 with (refine boxMk rfl (.tmp 1) rfl m _ _ rfl ?_; intro q1 w1 hq1 M1 hBw z1; subst hq1)
  have hO1 := h.later hBw
  have hBl : B ≤ w.heap.size := by omega
  have HM : Hid (∀ v, Wi.TKp w1 v → MBox v w.heap.size m (.slice a1 L.length cl) (.slice a2 D.length cv)) := fun v hv => M1.tk hv
  have hT1 := Wi.TKp.refl w1
  refine vh_start (fun v => Wi.TKp w1 v) (by kernel_rfl) ?_
  have hS : Wi.TKp w1 w1.drew := (Wi.TKp.refl w1).drewN 1
  refine vh_gen (fun T => T.size = 86 ∧ T[0]? = some (gw true (.pointer (some ⟨b, 0, none⟩))) ∧ T[3]? = some (gw true (.int .u8 q)) ∧ T[5]? = some (gw true (.pointer (some ⟨w.heap.size, 0, none⟩)))) ⟨rfl, rfl, rfl, rfl⟩ (fun T0 ⟨hz, s0, s3, s5⟩ => ?_)
  refine vh_take 0 true (.pointer (some ⟨b, 0, none⟩)) rfl (by kernel_rfl) (by kernel_rfl) (by kernel_rfl) (want_none rfl) (fun hc v hv => ex_move rfl (ev s0 rfl)) rfl hz (by decide) hS (fun A_1 zz kk s43 => ?_)
  replace s0 := ku s0
  replace s3 := ku s3
  replace s5 := ku s5
  replace hz := zz
  clear kk zz
  refine vh_take 1 true (.pointer (some ⟨b, 0, none⟩)) rfl (by kernel_rfl) (by kernel_rfl) (by kernel_rfl) (want_none rfl) (fun hc v hv => ex_nil rfl (ev s43 rfl)) rfl hz (by decide) hS (fun A_2 zz kk s44 => ?_)
  replace s0 := ku s0
  replace s3 := ku s3
  replace s5 := ku s5
  replace hz := zz
  clear kk zz s43 A_1
  refine vh_take 2 true (.pointer (some ⟨b, 0, none⟩)) rfl (by kernel_rfl) (by kernel_rfl) (by kernel_rfl) (want_none rfl) (fun hc v hv => ex_fa rfl (ev s44 rfl) (by go_simp)) rfl hz (by decide) hS (fun A_3 zz kk s45 => ?_)
  replace s0 := ku s0
  replace s3 := ku s3
  replace s5 := ku s5
  replace hz := zz
  clear kk zz s44 A_2
  refine vh_take 3 true (.pointer (some ⟨w.heap.size, 12, none⟩)) rfl (by kernel_rfl) (by kernel_rfl) (by kernel_rfl) (want_none rfl) (fun hc v hv => ex_fa rfl (ev s5 rfl) (MBox.faCommit _ _)) rfl hz (by decide) hS (fun A_4 zz kk s46 => ?_)
  replace s0 := ku s0
  replace s3 := ku s3
  replace s5 := ku s5
  replace s45 := ku s45
  replace hz := zz
  clear kk zz A_3
  refine vh_take 4 true (.int .i64 m.cm) rfl (by kernel_rfl) (by kernel_rfl) (by kernel_rfl) (want_none rfl) (fun hc v hv => ex_ld rfl (ev s46 rfl) ((HM.out v hv).ldCommit)) rfl hz (by decide) hS (fun A_5 zz kk s47 => ?_)
  replace s0 := ku s0
  replace s3 := ku s3
  replace s5 := ku s5
  replace s45 := ku s45
  replace hz := zz
  clear kk zz s46 A_4
  refine vh_call 5 rfl (by kernel_rfl) (want_none rfl) (ex_call rfl (by simp only [List.map_toArray, List.map_cons, List.map_nil, (ev s45 rfl), (ev s47 rfl), evc] <;> rfl) rfl) (int_tkI B b l m.cm w1.drew hB hO1.drew hm.cm.1 hm.cm.2 (by omega)) rfl hz (by decide) ?_
  rintro e w2 ⟨rfl, hO2, hb2, ht2⟩
  refine ⟨_, rfl, (hS.trans ht2), fun A_6 zz kk s48 => ?_⟩
  have hb3 : Below B w1 w2 := (Below.refl _ _).drew.trans hb2
  have ht3 : Wi.TKp w1 w2 := ((Wi.TKp.refl w1).drewN 1).trans ht2
  replace s0 := ku s0
  replace s3 := ku s3
  replace s5 := ku s5
  replace hz := zz
  clear kk zz s45 s47 A_5
  refine vh_done (by kernel_rfl) ?_
  go_wp2
  go_end0
  exact ⟨rfl, hO2, (hBw.mono hBl).trans hb3, (Wi.TKp.of_below hBw).trans ht3⟩
set_option maxHeartbeats 4000000 in
theorem wfield_5 (B b : Nat) (l : List Int) (m : Mg) (a1 a2 : Option Addr) (cl cv : Nat) (L : List En) (D : List (Int × Int)) (q : Int) (w0 w : World) (hB : B ≤ b) (h0 : Below w0.heap.size w0 w) (hB0 : w0.heap.size ≤ B) (hL : SlY yE w0 a1 L.length cl L) (hD : SlY yD w0 a2 D.length cv D) (hm : mgF m L D) (h : Wi.WOkT w b l) (hl : l.length + 30000 ≤ 140737488355328) :
    Calls Tryz.prog 91 #[.pointer (some ⟨b, 0, none⟩), m.val (.slice a1 L.length cl) (.slice a2 D.length cv), .int .i64 5, .int .u8 q] w fun e w' => e = .returned (.tuple #[]) ∧ Wi.WOkT w' b (l ++ colBy m L D 5 (!decide (q = 15))) ∧ Below B w w' ∧ Wi.TKp w w' := by
  have hlt := h.lt
  go_enter Tryz.func91, Tryz.ntmps91
  go_upto_region 13 with (refine boxMk rfl (.tmp 1) rfl m _ _ rfl ?_; intro q1 w1 hq1 M1 hBw z1; subst hq1)
  have hO1 := h.later hBw
  have hBl : B ≤ w.heap.size := by omega
  have HM : Hid (∀ v, Wi.TKp w1 v → MBox v w.heap.size m (.slice a1 L.length cl) (.slice a2 D.length cv)) := fun v hv => M1.tk hv
  have hT1 := Wi.TKp.refl w1
  refine wp_region_lit ?_
  refine vl_gen (fun T => T.size = 86 ∧ T[0]? = some (gw true (.pointer (some ⟨b, 0, none⟩))) ∧ T[3]? = some (gw true (.int .u8 q)) ∧ T[5]? = some (gw true (.pointer (some ⟨w.heap.size, 0, none⟩)))) ⟨rfl, rfl, rfl, rfl⟩ (fun T0 ⟨hz, s0, s3, s5⟩ => ?_)
  refine vt _ (ex_move rfl (ev s0 rfl)) hz (fun A_1 zz kk s51 => ?_)
  replace s0 := ku s0
  replace s3 := ku s3
  replace s5 := ku s5
  replace hz := zz
  clear kk zz
  refine vt (.pointer (some ⟨w.heap.size, 14, none⟩)) (ex_fa rfl (ev s5 rfl) (MBox.faDraw _ _)) hz (fun A_2 zz kk s52 => ?_)
  replace s0 := ku s0
  replace s3 := ku s3
  replace s5 := ku s5
  replace s51 := ku s51
  replace hz := zz
  clear kk zz A_1
  refine vt (.agg #[.int .u64 m.d.1, .int .u64 m.d.2]) (ex_ld rfl (ev s52 rfl) ((HM.out w1 hT1).ldDraw)) hz (fun A_3 zz kk s53 => ?_)
  replace s0 := ku s0
  replace s3 := ku s3
  replace s5 := ku s5
  replace s51 := ku s51
  replace hz := zz
  clear kk zz s52 A_2
  refine vcallP (want_none rfl) (ex_call rfl (by simp only [List.map_toArray, List.map_cons, List.map_nil, (ev s51 rfl), (ev s53 rfl), evc] <;> rfl) rfl) (wdraw_I B b l m.d w1 hB hO1 hm.d (by omega)) rfl hz (by decide) ?_
  rintro e w2 ⟨rfl, hO2, hb2, ht2⟩
  refine ⟨_, rfl, fun A_4 zz kk s54 => ?_⟩
  have hb3 := hb2
  have ht3 := ht2
  replace s0 := ku s0
  replace s3 := ku s3
  replace s5 := ku s5
  replace hz := zz
  clear kk zz s51 s53 A_3
  refine wpList_nil ?_
  go_wp2
  go_end0
  exact ⟨rfl, hO2, (hBw.mono hBl).trans hb3, (Wi.TKp.of_below hBw).trans ht3⟩
set_option maxHeartbeats 4000000 in
theorem wfield_6 (B b : Nat) (l : List Int) (m : Mg) (a1 a2 : Option Addr) (cl cv : Nat) (L : List En) (D : List (Int × Int)) (q : Int) (w0 w : World) (hB : B ≤ b) (h0 : Below w0.heap.size w0 w) (hB0 : w0.heap.size ≤ B) (hL : SlY yE w0 a1 L.length cl L) (hD : SlY yD w0 a2 D.length cv D) (hm : mgF m L D) (h : Wi.WOkT w b l) (hl : l.length + 30000 ≤ 140737488355328) :
    Calls Tryz.prog 91 #[.pointer (some ⟨b, 0, none⟩), m.val (.slice a1 L.length cl) (.slice a2 D.length cv), .int .i64 6, .int .u8 q] w fun e w' => e = .returned (.tuple #[]) ∧ Wi.WOkT w' b (l ++ colBy m L D 6 (!decide (q = 15))) ∧ Below B w w' ∧ Wi.TKp w w' := by
  have hlt := h.lt
  go_enter Tryz.func91, Tryz.ntmps91
  go_upto_region 15 with (refine boxMk rfl (.tmp 1) rfl m _ _ rfl ?_; intro q1 w1 hq1 M1 hBw z1; subst hq1)
  have hO1 := h.later hBw
  have hBl : B ≤ w.heap.size := by omega
  have HM : Hid (∀ v, Wi.TKp w1 v → MBox v w.heap.size m (.slice a1 L.length cl) (.slice a2 D.length cv)) := fun v hv => M1.tk hv
  have hT1 := Wi.TKp.refl w1
  refine wp_region_lit ?_
  refine vl_gen (fun T => T.size = 86 ∧ T[0]? = some (gw true (.pointer (some ⟨b, 0, none⟩))) ∧ T[3]? = some (gw true (.int .u8 q)) ∧ T[5]? = some (gw true (.pointer (some ⟨w.heap.size, 0, none⟩)))) ⟨rfl, rfl, rfl, rfl⟩ (fun T0 ⟨hz, s0, s3, s5⟩ => ?_)
  refine vt _ (ex_move rfl (ev s0 rfl)) hz (fun A_1 zz kk s57 => ?_)
  replace s0 := ku s0
  replace s3 := ku s3
  replace s5 := ku s5
  replace hz := zz
  clear kk zz
  refine vt (.pointer (some ⟨w.heap.size, 3, none⟩)) (ex_fa rfl (ev s5 rfl) (MBox.faEntry _ _)) hz (fun A_2 zz kk s58 => ?_)
  replace s0 := ku s0
  replace s3 := ku s3
  replace s5 := ku s5
  replace s57 := ku s57
  replace hz := zz
  clear kk zz A_1
  refine vt (.agg #[.int .i64 m.e.c, .int .i64 m.e.n, .int .i64 m.e.o.k, .int .i64 m.e.o.s, .string m.e.o.v]) (ex_ld rfl (ev s58 rfl) ((HM.out w1 hT1).ldEntry)) hz (fun A_3 zz kk s59 => ?_)
  replace s0 := ku s0
  replace s3 := ku s3
  replace s5 := ku s5
  replace s57 := ku s57
  replace hz := zz
  clear kk zz s58 A_2
  refine vcallP (want_none rfl) (ex_call rfl (by simp only [List.map_toArray, List.map_cons, List.map_nil, (ev s57 rfl), (ev s59 rfl), evc] <;> rfl) rfl) (wname_I B b l m.e w1 hB hO1 ⟨hm.e.1, hm.e.2.1, hm.e.2.2.1, hm.e.2.2.2.1⟩ (by omega)) rfl hz (by decide) ?_
  rintro e w2 ⟨rfl, hO2, hb2, ht2⟩
  refine ⟨_, rfl, fun A_4 zz kk s60 => ?_⟩
  have hb3 := hb2
  have ht3 := ht2
  replace s0 := ku s0
  replace s3 := ku s3
  replace s5 := ku s5
  replace hz := zz
  clear kk zz s57 s59 A_3
  refine wpList_nil ?_
  go_upto_region 16 with fail
  refine wp_region_lit ?_
  refine vt _ (ex_move rfl (ev s3 rfl)) hz (fun C_1 zz kk s61 => ?_)
  replace s0 := ku s0
  replace s3 := ku s3
  replace s5 := ku s5
  replace hz := zz
  clear kk zz s60
  refine vt (.bool (!decide (q = 15))) (ex_bin rfl (ev s61 rfl) rfl (neqU8 _ _ _ _ _)) hz (fun C_2 zz kk s62 => ?_)
  replace s0 := ku s0
  replace s3 := ku s3
  replace s5 := ku s5
  replace hz := zz
  clear kk zz s61 C_1
  refine wpList_nil ?_
  go_upto_region 17 with fail
  cases e6 : !decide (q = 15)
  · refine wp_cond_false ((ev s62 rfl).trans (congrArg Value.bool e6)) ?_
    go_wp2
    go_end0
    exact ⟨rfl, by rw [e6]; simpa [colBy] using hO2, (hBw.mono hBl).trans hb3, (Wi.TKp.of_below hBw).trans ht3⟩
  refine wp_cond_true ((ev s62 rfl).trans (congrArg Value.bool e6)) ?_
  go_upto_region 17 with fail
  refine wp_region_lit ?_
  refine vt _ (ex_move rfl (ev s0 rfl)) hz (fun D_1 zz kk s63 => ?_)
  replace s0 := ku s0
  replace s5 := ku s5
  replace hz := zz
  clear kk zz s3 s62
  refine vt (.pointer (some ⟨w.heap.size, 3, none⟩)) (ex_fa rfl (ev s5 rfl) (MBox.faEntry _ _)) hz (fun D_2 zz kk s64 => ?_)
  replace s0 := ku s0
  replace s63 := ku s63
  replace hz := zz
  clear kk zz s5 D_1
  refine vt (.pointer (some ⟨w.heap.size, 5, none⟩)) (ex_fa rfl (ev s64 rfl) (MBox.faOp _ _)) hz (fun D_3 zz kk s65 => ?_)
  replace s0 := ku s0
  replace s63 := ku s63
  replace hz := zz
  clear kk zz s64 D_2
  refine vt (.agg #[.int .i64 m.e.o.k, .int .i64 m.e.o.s, .string m.e.o.v]) (ex_ld rfl (ev s65 rfl) ((HM.out w2 ht2).ldOp)) hz (fun D_4 zz kk s66 => ?_)
  replace s0 := ku s0
  replace s63 := ku s63
  replace hz := zz
  clear kk zz s65 D_3
  refine vcallP (want_none rfl) (ex_call rfl (by simp only [List.map_toArray, List.map_cons, List.map_nil, (ev s63 rfl), (ev s66 rfl), evc] <;> rfl) rfl) (wop_I B b _ m.e.o.k m.e.o.s m.e.o.v w2 hB hO2 ⟨hm.e.2.2.2.2.1, hm.e.2.2.2.2.2.1, hm.e.2.2.2.2.2.2.1, hm.e.2.2.2.2.2.2.2.1, hm.e.2.2.2.2.2.2.2.2⟩ (by rw [List.length_append]; have := nmBy_le (x := m.e.c.toNat) (y := m.e.n.toNat) (by have := hm.e.2.1; have := hm.e.1; omega) (by have := hm.e.2.2.2.1; have := hm.e.2.2.1; omega); omega)) rfl hz (by decide) ?_
  rintro e w3 ⟨rfl, hO3, hb4, ht4⟩
  refine ⟨_, rfl, fun D_5 zz kk s67 => ?_⟩
  replace s0 := ku s0
  replace hz := zz
  clear kk zz s63 s66 D_4
  refine wpList_nil ?_
  go_wp2
  go_end0
  exact ⟨rfl, by rw [e6]; simpa [colBy, List.append_assoc] using hO3, (hBw.mono hBl).trans (hb3.trans hb4), (Wi.TKp.of_below hBw).trans (ht3.trans ht4)⟩
set_option maxHeartbeats 4000000 in
theorem wfield_7 (B b : Nat) (l : List Int) (m : Mg) (a1 a2 : Option Addr) (cl cv : Nat) (L : List En) (D : List (Int × Int)) (q : Int) (w0 w : World) (hB : B ≤ b) (h0 : Below w0.heap.size w0 w) (hB0 : w0.heap.size ≤ B) (hL : SlY yE w0 a1 L.length cl L) (hD : SlY yD w0 a2 D.length cv D) (hm : mgF m L D) (h : Wi.WOkT w b l) (hl : l.length + 30000 ≤ 140737488355328) :
    Calls Tryz.prog 91 #[.pointer (some ⟨b, 0, none⟩), m.val (.slice a1 L.length cl) (.slice a2 D.length cv), .int .i64 7, .int .u8 q] w fun e w' => e = .returned (.tuple #[]) ∧ Wi.WOkT w' b (l ++ colBy m L D 7 (!decide (q = 15))) ∧ Below B w w' ∧ Wi.TKp w w' := by
  have hlt := h.lt
  go_enter Tryz.func91, Tryz.ntmps91
  go_upto_region 19 with (refine boxMk rfl (.tmp 1) rfl m _ _ rfl ?_; intro q1 w1 hq1 M1 hBw z1; subst hq1)
  have hO1 := h.later hBw
  have hBl : B ≤ w.heap.size := by omega
  have HM : Hid (∀ v, Wi.TKp w1 v → MBox v w.heap.size m (.slice a1 L.length cl) (.slice a2 D.length cv)) := fun v hv => M1.tk hv
  have hT1 := Wi.TKp.refl w1
  refine wp_region_lit ?_
  refine vl_gen (fun T => T.size = 86 ∧ T[0]? = some (gw true (.pointer (some ⟨b, 0, none⟩))) ∧ T[3]? = some (gw true (.int .u8 q)) ∧ T[5]? = some (gw true (.pointer (some ⟨w.heap.size, 0, none⟩)))) ⟨rfl, rfl, rfl, rfl⟩ (fun T0 ⟨hz, s0, s3, s5⟩ => ?_)
  refine vt _ (ex_move rfl (ev s0 rfl)) hz (fun A_1 zz kk s70 => ?_)
  replace s0 := ku s0
  replace s3 := ku s3
  replace s5 := ku s5
  replace hz := zz
  clear kk zz
  refine vt (.pointer (some ⟨w.heap.size, 8, none⟩)) (ex_fa rfl (ev s5 rfl) (MBox.faResult _ _)) hz (fun A_2 zz kk s71 => ?_)
  replace s0 := ku s0
  replace s3 := ku s3
  replace s5 := ku s5
  replace s70 := ku s70
  replace hz := zz
  clear kk zz A_1
  refine vt (.agg #[.int .i64 m.r.1, .int .i64 m.r.2.1, .string m.r.2.2]) (ex_ld rfl (ev s71 rfl) ((HM.out w1 hT1).ldResult)) hz (fun A_3 zz kk s72 => ?_)
  replace s0 := ku s0
  replace s3 := ku s3
  replace s5 := ku s5
  replace s70 := ku s70
  replace hz := zz
  clear kk zz s71 A_2
  refine vcallP (want_none rfl) (ex_call rfl (by simp only [List.map_toArray, List.map_cons, List.map_nil, (ev s70 rfl), (ev s72 rfl), evc] <;> rfl) rfl) (wresult_I B b l m.r w1 hB hO1 hm.r (by omega)) rfl hz (by decide) ?_
  rintro e w2 ⟨rfl, hO2, hb2, ht2⟩
  refine ⟨_, rfl, fun A_4 zz kk s73 => ?_⟩
  have hb3 := hb2
  have ht3 := ht2
  replace s0 := ku s0
  replace s3 := ku s3
  replace s5 := ku s5
  replace hz := zz
  clear kk zz s70 s72 A_3
  refine wpList_nil ?_
  go_wp2
  go_end0
  exact ⟨rfl, hO2, (hBw.mono hBl).trans hb3, (Wi.TKp.of_below hBw).trans ht3⟩
set_option maxHeartbeats 4000000 in
theorem wfield_8 (B b : Nat) (l : List Int) (m : Mg) (a1 a2 : Option Addr) (cl cv : Nat) (L : List En) (D : List (Int × Int)) (q : Int) (w0 w : World) (hB : B ≤ b) (h0 : Below w0.heap.size w0 w) (hB0 : w0.heap.size ≤ B) (hL : SlY yE w0 a1 L.length cl L) (hD : SlY yD w0 a2 D.length cv D) (hm : mgF m L D) (h : Wi.WOkT w b l) (hl : l.length + 30000 ≤ 140737488355328) :
    Calls Tryz.prog 91 #[.pointer (some ⟨b, 0, none⟩), m.val (.slice a1 L.length cl) (.slice a2 D.length cv), .int .i64 8, .int .u8 q] w fun e w' => e = .returned (.tuple #[]) ∧ Wi.WOkT w' b (l ++ colBy m L D 8 (!decide (q = 15))) ∧ Below B w w' ∧ Wi.TKp w w' := by
  have hlt := h.lt
  go_enter Tryz.func91, Tryz.ntmps91
  go_upto_region 21 with (refine boxMk rfl (.tmp 1) rfl m _ _ rfl ?_; intro q1 w1 hq1 M1 hBw z1; subst hq1)
  have hO1 := h.later hBw
  have hBl : B ≤ w.heap.size := by omega
  have HM : Hid (∀ v, Wi.TKp w1 v → MBox v w.heap.size m (.slice a1 L.length cl) (.slice a2 D.length cv)) := fun v hv => M1.tk hv
  have hT1 := Wi.TKp.refl w1
  refine wp_region_lit ?_
  refine vl_gen (fun T => T.size = 86 ∧ T[0]? = some (gw true (.pointer (some ⟨b, 0, none⟩))) ∧ T[3]? = some (gw true (.int .u8 q)) ∧ T[5]? = some (gw true (.pointer (some ⟨w.heap.size, 0, none⟩)))) ⟨rfl, rfl, rfl, rfl⟩ (fun T0 ⟨hz, s0, s3, s5⟩ => ?_)
  refine vt _ (ex_move rfl (ev s0 rfl)) hz (fun A_1 zz kk s76 => ?_)
  replace s0 := ku s0
  replace s3 := ku s3
  replace s5 := ku s5
  replace hz := zz
  clear kk zz
  refine vt (.pointer (some ⟨w.heap.size, 16, none⟩)) (ex_fa rfl (ev s5 rfl) (MBox.faLog _ _)) hz (fun A_2 zz kk s77 => ?_)
  replace s0 := ku s0
  replace s3 := ku s3
  replace s5 := ku s5
  replace s76 := ku s76
  replace hz := zz
  clear kk zz A_1
  refine vt (.slice a1 L.length cl) (ex_ld rfl (ev s77 rfl) ((HM.out w1 hT1).ldLog)) hz (fun A_3 zz kk s78 => ?_)
  replace s0 := ku s0
  replace s3 := ku s3
  replace s5 := ku s5
  replace s76 := ku s76
  replace hz := zz
  clear kk zz s77 A_2
  refine vcallP (want_none rfl) (ex_call rfl (by simp only [List.map_toArray, List.map_cons, List.map_nil, (ev s76 rfl), (ev s78 rfl), evc] <;> rfl) rfl) (wlog_tk B b l L a1 cl w0 w1 hB (h0.trans (hBw.mono h0.size)) hB0 hL hm.es hO1 hm.lL (by omega)) rfl hz (by decide) ?_
  rintro e w2 ⟨rfl, hO2, hb2, ht2⟩
  refine ⟨_, rfl, fun A_4 zz kk s79 => ?_⟩
  have hb3 := hb2
  have ht3 := ht2
  replace s0 := ku s0
  replace s3 := ku s3
  replace s5 := ku s5
  replace hz := zz
  clear kk zz s76 s78 A_3
  refine wpList_nil ?_
  go_wp2
  go_end0
  exact ⟨rfl, hO2, (hBw.mono hBl).trans hb3, (Wi.TKp.of_below hBw).trans ht3⟩
set_option maxHeartbeats 4000000 in
theorem wfield_9 (B b : Nat) (l : List Int) (m : Mg) (a1 a2 : Option Addr) (cl cv : Nat) (L : List En) (D : List (Int × Int)) (q : Int) (w0 w : World) (hB : B ≤ b) (h0 : Below w0.heap.size w0 w) (hB0 : w0.heap.size ≤ B) (hL : SlY yE w0 a1 L.length cl L) (hD : SlY yD w0 a2 D.length cv D) (hm : mgF m L D) (h : Wi.WOkT w b l) (hl : l.length + 30000 ≤ 140737488355328) :
    Calls Tryz.prog 91 #[.pointer (some ⟨b, 0, none⟩), m.val (.slice a1 L.length cl) (.slice a2 D.length cv), .int .i64 9, .int .u8 q] w fun e w' => e = .returned (.tuple #[]) ∧ Wi.WOkT w' b (l ++ colBy m L D 9 (!decide (q = 15))) ∧ Below B w w' ∧ Wi.TKp w w' := by
  have hlt := h.lt
  go_enter Tryz.func91, Tryz.ntmps91
  go_upto_region 23 with (refine boxMk rfl (.tmp 1) rfl m _ _ rfl ?_; intro q1 w1 hq1 M1 hBw z1; subst hq1)
  have hO1 := h.later hBw
  have hBl : B ≤ w.heap.size := by omega
  have HM : Hid (∀ v, Wi.TKp w1 v → MBox v w.heap.size m (.slice a1 L.length cl) (.slice a2 D.length cv)) := fun v hv => M1.tk hv
  have hT1 := Wi.TKp.refl w1
  refine wp_region_lit ?_
  refine vl_gen (fun T => T.size = 86 ∧ T[0]? = some (gw true (.pointer (some ⟨b, 0, none⟩))) ∧ T[3]? = some (gw true (.int .u8 q)) ∧ T[5]? = some (gw true (.pointer (some ⟨w.heap.size, 0, none⟩)))) ⟨rfl, rfl, rfl, rfl⟩ (fun T0 ⟨hz, s0, s3, s5⟩ => ?_)
  refine vt _ (ex_move rfl (ev s0 rfl)) hz (fun A_1 zz kk s82 => ?_)
  replace s0 := ku s0
  replace s3 := ku s3
  replace s5 := ku s5
  replace hz := zz
  clear kk zz
  refine vt (.pointer (some ⟨w.heap.size, 17, none⟩)) (ex_fa rfl (ev s5 rfl) (MBox.faVector _ _)) hz (fun A_2 zz kk s83 => ?_)
  replace s0 := ku s0
  replace s3 := ku s3
  replace s5 := ku s5
  replace s82 := ku s82
  replace hz := zz
  clear kk zz A_1
  refine vt (.slice a2 D.length cv) (ex_ld rfl (ev s83 rfl) ((HM.out w1 hT1).ldVector)) hz (fun A_3 zz kk s84 => ?_)
  replace s0 := ku s0
  replace s3 := ku s3
  replace s5 := ku s5
  replace s82 := ku s82
  replace hz := zz
  clear kk zz s83 A_2
  refine vcallP (want_none rfl) (ex_call rfl (by simp only [List.map_toArray, List.map_cons, List.map_nil, (ev s82 rfl), (ev s84 rfl), evc] <;> rfl) rfl) (wvector_tk B b l D a2 cv w0 w1 hB (h0.trans (hBw.mono h0.size)) hB0 hD hm.ds hO1 hm.lD (by omega)) rfl hz (by decide) ?_
  rintro e w2 ⟨rfl, hO2, hb2, ht2⟩
  refine ⟨_, rfl, fun A_4 zz kk s85 => ?_⟩
  have hb3 := hb2
  have ht3 := ht2
  replace s0 := ku s0
  replace s3 := ku s3
  replace s5 := ku s5
  replace hz := zz
  clear kk zz s82 s84 A_3
  refine wpList_nil ?_
  go_wp2
  go_end0
  exact ⟨rfl, hO2, (hBw.mono hBl).trans hb3, (Wi.TKp.of_below hBw).trans ht3⟩
theorem wfield_all (B b : Nat) (l : List Int) (m : Mg) (a1 a2 : Option Addr) (cl cv : Nat) (L : List En) (D : List (Int × Int)) (j : Nat) (hj : j < 10) (q : Int) (w0 w : World) (hB : B ≤ b) (h0 : Below w0.heap.size w0 w) (hB0 : w0.heap.size ≤ B) (hL : SlY yE w0 a1 L.length cl L) (hD : SlY yD w0 a2 D.length cv D) (hm : mgF m L D) (h : Wi.WOkT w b l) (hl : l.length + 30000 ≤ 140737488355328) :
    Calls Tryz.prog 91 #[.pointer (some ⟨b, 0, none⟩), m.val (.slice a1 L.length cl) (.slice a2 D.length cv), .int .i64 (j : Int), .int .u8 q] w fun e w' => e = .returned (.tuple #[]) ∧ Wi.WOkT w' b (l ++ colBy m L D j (!decide (q = 15))) ∧ Below B w w' ∧ Wi.TKp w w' := by
  match j, hj with
  | 0, _ => exact wfield_0 B b l m a1 a2 cl cv L D q w0 w hB h0 hB0 hL hD hm h hl
  | 1, _ => exact wfield_1 B b l m a1 a2 cl cv L D q w0 w hB h0 hB0 hL hD hm h hl
  | 2, _ => exact wfield_2 B b l m a1 a2 cl cv L D q w0 w hB h0 hB0 hL hD hm h hl
  | 3, _ => exact wfield_3 B b l m a1 a2 cl cv L D q w0 w hB h0 hB0 hL hD hm h hl
  | 4, _ => exact wfield_4 B b l m a1 a2 cl cv L D q w0 w hB h0 hB0 hL hD hm h hl
  | 5, _ => exact wfield_5 B b l m a1 a2 cl cv L D q w0 w hB h0 hB0 hL hD hm h hl
  | 6, _ => exact wfield_6 B b l m a1 a2 cl cv L D q w0 w hB h0 hB0 hL hD hm h hl
  | 7, _ => exact wfield_7 B b l m a1 a2 cl cv L D q w0 w hB h0 hB0 hL hD hm h hl
  | 8, _ => exact wfield_8 B b l m a1 a2 cl cv L D q w0 w hB h0 hB0 hL hD hm h hl
  | 9, _ => exact wfield_9 B b l m a1 a2 cl cv L D q w0 w hB h0 hB0 hL hD hm h hl
  | (k + 10), hk => exact absurd hk (by omega)
theorem ckA_lgA : ∀ (L past : List En), (ckA past L).1 = lgA past L
  | [], past => rfl
  | e :: r, past => by
    unfold ckA lgA
    by_cases h : er past e ≠ 0
    · rw [if_pos h, if_pos h]
    · rw [if_neg h, if_neg h]; exact ckA_lgA r _
theorem chk_lg {r : Int} (h1 : 1 ≤ r) (h2 : r ≤ 256) (L : List En) : (chk L r).1 = lg L r := by
  unfold chk lg
  rw [if_neg (by omega)]
  by_cases h : r < L.length
  · rw [if_pos h, if_pos h]
  · rw [if_neg h, if_neg h]; exact ckA_lgA L []
theorem chk_one (e : En) : (chk [e] 1).1 = ckE e := by
  rw [chk_lg (by decide) (by decide)]
  show (if (1 : Int) < ((1 : Nat) : Int) then 60 else lgA [] [e]) = ckE e
  rw [if_neg (by decide)]
  show (if er [] e ≠ 0 then er [] e else 0) = ckE e
  have he : er [] e = ckE e := by
    unfold er
    by_cases h : ckE e ≠ 0
    · rw [if_pos h]
    · rw [if_neg h]
      have h0 : ckE e = 0 := by omega
      rw [h0]
      rfl
  rw [he]
  by_cases h : ckE e ≠ 0
  · rw [if_pos h]
  · rw [if_neg h]; omega
theorem nmB_en (e : En) (k : Int) (hk : k = 2 ∨ k = 14) : nmB e = enK k e := by
  unfold nmB enK
  rw [if_pos hk, chk_one]
  have h : ckE (nmE e) = if e.c < 0 ∨ 16 ≤ e.c then 62 else if e.n < 1 then 63 else 0 := rfl
  rw [Bool.eq_iff_iff, h]
  simp only [Bool.and_eq_true, decide_eq_true_eq]
  constructor
  · rintro ⟨⟨a, b, c⟩, d⟩
    split at d
    · omega
    · split at d
      · omega
      · exact ⟨by omega, by omega, by omega, a, b, c⟩
  · rintro ⟨a1, a2, a3, a, b, c⟩
    exact ⟨⟨a, b, c⟩, by rw [if_neg (by omega), if_neg (by omega)]⟩
theorem en_1 (e : En) : enK 1 e = decide (ckE e = 0) := by unfold enK; simp
theorem en_3 (e : En) : enK 3 e = decide (ckE e = 0) := by unfold enK; simp
theorem en_13 (e : En) : enK 13 e = (decide (ckE e = 0) && (decide (e.o.k = 3) || decide (e.o.k = 4))) := by unfold enK; simp
theorem tmod_in {x n : Int} (hx : 0 ≤ x) (hn : 0 < n) : 0 ≤ x.tmod n ∧ x.tmod n < n := ⟨Int.tmod_nonneg _ hx, Int.tmod_lt_of_pos _ hn⟩
theorem en_z (e : En) : enb e zEn = decide (e = zEn) := by
  rw [Bool.eq_iff_iff, enb_iff, decide_eq_true_eq]
theorem ite_eq_t {c : Prop} [Decidable c] {x : Bool} : ((if c then false else x) = true) = (¬ c ∧ x = true) := by by_cases h : c <;> simp [h]
theorem lg_nil {r : Int} (h : 1 ≤ r) : lg [] r = 0 := by unfold lg; rw [if_neg (by simp; omega)]; rfl
theorem apB_iff (p c r : Int) : (apB p c r = true) = ((c = 7 ∧ p = 0) ∨ (¬ c = 7 ∧ 1 ≤ p ∧ p ≤ r)) := by
  unfold apB inR
  by_cases h : c = 7 <;> simp [h]
theorem own_at (nd : Int) (D : List (Int × Int)) (d : Int × Int) (h0 : 0 ≤ nd) (h1 : nd < (D.length : Int)) : D[nd.toNat]? = some d ↔ d = D.getD nd.toNat (0, 0) := by
  have hl : nd.toNat < D.length := by omega
  rw [List.getD_eq_getElem?_getD, List.getElem?_eq_getElem hl]
  constructor
  · intro h; exact (Option.some.inj h).symm
  · intro h; exact congrArg some h.symm
theorem lg_len {L : List En} {r : Int} (h : lg L r = 0) : (L.length : Int) ≤ r := by
  unfold lg at h
  by_cases hr : r < L.length
  · rw [if_pos hr] at h; omega
  · omega
set_option maxHeartbeats 4000000 in
theorem docm_1 (f r : Int) (m : Mg) (L : List En) (D : List (Int × Int)) (hf1 : 1 ≤ f) (hf2 : f ≤ 3) (hr1 : 1 ≤ r) (hr2 : r ≤ 256) : (unG m L.length D.length false false false false false false true false false false && fiG f r m L D 1 false false false false false false true false false false) = (keepB f r m L D 0 0 && (keepB f r m L D 1 0 && (keepB f r m L D 2 0 && (keepB f r m L D 3 0 && (keepB f r m L D 4 0 && (keepB f r m L D 5 0 && (keepB f r m L D 6 13 && (keepB f r m L D 7 0 && (keepB f r m L D 8 0 && (keepB f r m L D 9 0 && true)))))))))) := by
  have T : m.vw < 0 ∨ (0 ≤ m.vw.tmod (2 * f + 1) ∧ m.vw.tmod (2 * f + 1) < 2 * f + 1) := by
    by_cases h : m.vw < 0
    · exact .inl h
    · exact .inr (tmod_in (by omega) (by omega))
  have G : ¬ lg L r = 0 ∨ (L.length : Int) ≤ r := by
    by_cases h : lg L r = 0
    · exact .inr (lg_len h)
    · exact .inl h
  rw [Bool.eq_iff_iff]
  simp only [unG, fiG, keepB, blB, inR, prB, plB, owB, rdB, chk_one, chk_lg hr1 hr2, nmB_en m.e 14 (Or.inr rfl), en_1, en_3, en_13, en_z, Bool.true_or, Bool.false_or, Bool.true_and, Bool.false_and, Bool.or_false, Bool.and_true, Bool.not_true, Bool.not_false, Bool.or_true, Bool.and_false, Bool.and_eq_true, Bool.or_eq_true, decide_eq_true_eq, ite_eq_t, apB_iff, Bool.false_eq_true, if_false, if_true, Int.reduceEq, decide_false, decide_true, bne_iff_ne, ne_eq, decide_eq_decide, Bool.not_eq_true', decide_eq_false_iff_not, Nat.reduceEqDiff, reduceIte, Nat.one_ne_zero, and_true, and_assoc, not_or, not_and, not_not, Bool.not_eq_true]
  generalize m.vw.tmod (2 * f + 1) = q at *
  constructor <;> intro h <;> (repeat' apply And.intro) <;> first | omega | (simp [h]; done)
set_option maxHeartbeats 4000000 in
theorem docm_2 (f r : Int) (m : Mg) (L : List En) (D : List (Int × Int)) (hf1 : 1 ≤ f) (hf2 : f ≤ 3) (hr1 : 1 ≤ r) (hr2 : r ≤ 256) : (unG m L.length D.length true true false true false false true true false false && fiG f r m L D 2 true true false true false false true true false false) = (keepB f r m L D 0 1 && (keepB f r m L D 1 3 && (keepB f r m L D 2 0 && (keepB f r m L D 3 8 && (keepB f r m L D 4 0 && (keepB f r m L D 5 0 && (keepB f r m L D 6 15 && (keepB f r m L D 7 16 && (keepB f r m L D 8 0 && (keepB f r m L D 9 0 && true)))))))))) := by
  have T : m.vw < 0 ∨ (0 ≤ m.vw.tmod (2 * f + 1) ∧ m.vw.tmod (2 * f + 1) < 2 * f + 1) := by
    by_cases h : m.vw < 0
    · exact .inl h
    · exact .inr (tmod_in (by omega) (by omega))
  have G : ¬ lg L r = 0 ∨ (L.length : Int) ≤ r := by
    by_cases h : lg L r = 0
    · exact .inr (lg_len h)
    · exact .inl h
  rw [Bool.eq_iff_iff]
  simp only [unG, fiG, keepB, blB, inR, prB, plB, owB, rdB, chk_one, chk_lg hr1 hr2, nmB_en m.e 2 (Or.inl rfl), en_1, en_3, en_13, en_z, Bool.true_or, Bool.false_or, Bool.true_and, Bool.false_and, Bool.or_false, Bool.and_true, Bool.not_true, Bool.not_false, Bool.or_true, Bool.and_false, Bool.and_eq_true, Bool.or_eq_true, decide_eq_true_eq, ite_eq_t, apB_iff, Bool.false_eq_true, if_false, if_true, Int.reduceEq, decide_false, decide_true, bne_iff_ne, ne_eq, decide_eq_decide, Bool.not_eq_true', decide_eq_false_iff_not, Nat.reduceEqDiff, reduceIte, Nat.one_ne_zero, and_true, and_assoc, not_or, not_and, not_not, Bool.not_eq_true]
  generalize m.vw.tmod (2 * f + 1) = q at *
  constructor <;> intro h <;> (repeat' apply And.intro) <;> first | omega | (simp [h]; done)
set_option maxHeartbeats 4000000 in
theorem docm_3 (f r : Int) (m : Mg) (L : List En) (D : List (Int × Int)) (hf1 : 1 ≤ f) (hf2 : f ≤ 3) (hr1 : 1 ≤ r) (hr2 : r ≤ 256) : (unG m L.length D.length true true false true true false true false false true && fiG f r m L D 3 true true false true true false true false false true) = (keepB f r m L D 0 2 && (keepB f r m L D 1 3 && (keepB f r m L D 2 0 && (keepB f r m L D 3 7 && (keepB f r m L D 4 9 && (keepB f r m L D 5 0 && (keepB f r m L D 6 13 && (keepB f r m L D 7 0 && (keepB f r m L D 8 0 && (keepB f r m L D 9 20 && true)))))))))) := by
  have T : m.vw < 0 ∨ (0 ≤ m.vw.tmod (2 * f + 1) ∧ m.vw.tmod (2 * f + 1) < 2 * f + 1) := by
    by_cases h : m.vw < 0
    · exact .inl h
    · exact .inr (tmod_in (by omega) (by omega))
  have G : ¬ lg L r = 0 ∨ (L.length : Int) ≤ r := by
    by_cases h : lg L r = 0
    · exact .inr (lg_len h)
    · exact .inl h
  rw [Bool.eq_iff_iff]
  simp only [unG, fiG, keepB, blB, inR, prB, plB, owB, rdB, chk_one, chk_lg hr1 hr2, nmB_en m.e 14 (Or.inr rfl), en_1, en_3, en_13, en_z, Bool.true_or, Bool.false_or, Bool.true_and, Bool.false_and, Bool.or_false, Bool.and_true, Bool.not_true, Bool.not_false, Bool.or_true, Bool.and_false, Bool.and_eq_true, Bool.or_eq_true, decide_eq_true_eq, ite_eq_t, apB_iff, Bool.false_eq_true, if_false, if_true, Int.reduceEq, decide_false, decide_true, bne_iff_ne, ne_eq, decide_eq_decide, Bool.not_eq_true', decide_eq_false_iff_not, Nat.reduceEqDiff, reduceIte, Nat.one_ne_zero, and_true, and_assoc, not_or, not_and, not_not, Bool.not_eq_true]
  generalize m.vw.tmod (2 * f + 1) = q at *
  constructor <;> intro h <;> (repeat' apply And.intro) <;> first | omega | (simp [h]; done)
set_option maxHeartbeats 4000000 in
theorem docm_4 (f r : Int) (m : Mg) (L : List En) (D : List (Int × Int)) (hf1 : 1 ≤ f) (hf2 : f ≤ 3) (hr1 : 1 ≤ r) (hr2 : r ≤ 256) : (unG m L.length D.length true true false true false false false false false true && fiG f r m L D 4 true true false true false false false false false true) = (keepB f r m L D 0 1 && (keepB f r m L D 1 3 && (keepB f r m L D 2 0 && (keepB f r m L D 3 6 && (keepB f r m L D 4 0 && (keepB f r m L D 5 0 && (keepB f r m L D 6 0 && (keepB f r m L D 7 0 && (keepB f r m L D 8 0 && (keepB f r m L D 9 20 && true)))))))))) := by
  have T : m.vw < 0 ∨ (0 ≤ m.vw.tmod (2 * f + 1) ∧ m.vw.tmod (2 * f + 1) < 2 * f + 1) := by
    by_cases h : m.vw < 0
    · exact .inl h
    · exact .inr (tmod_in (by omega) (by omega))
  have G : ¬ lg L r = 0 ∨ (L.length : Int) ≤ r := by
    by_cases h : lg L r = 0
    · exact .inr (lg_len h)
    · exact .inl h
  rw [Bool.eq_iff_iff]
  simp only [unG, fiG, keepB, blB, inR, prB, plB, owB, rdB, chk_one, chk_lg hr1 hr2, nmB_en m.e 14 (Or.inr rfl), en_1, en_3, en_13, en_z, Bool.true_or, Bool.false_or, Bool.true_and, Bool.false_and, Bool.or_false, Bool.and_true, Bool.not_true, Bool.not_false, Bool.or_true, Bool.and_false, Bool.and_eq_true, Bool.or_eq_true, decide_eq_true_eq, ite_eq_t, apB_iff, Bool.false_eq_true, if_false, if_true, Int.reduceEq, decide_false, decide_true, bne_iff_ne, ne_eq, decide_eq_decide, Bool.not_eq_true', decide_eq_false_iff_not, Nat.reduceEqDiff, reduceIte, Nat.one_ne_zero, and_true, and_assoc, not_or, not_and, not_not, Bool.not_eq_true]
  generalize m.vw.tmod (2 * f + 1) = q at *
  constructor <;> intro h <;> (repeat' apply And.intro) <;> first | omega | (simp [h]; done)
set_option maxHeartbeats 4000000 in
theorem docm_5 (f r : Int) (m : Mg) (L : List En) (D : List (Int × Int)) (hf1 : 1 ≤ f) (hf2 : f ≤ 3) (hr1 : 1 ≤ r) (hr2 : r ≤ 256) : (unG m L.length D.length true true false false true false false false false true && fiG f r m L D 5 true true false false true false false false false true) = (keepB f r m L D 0 2 && (keepB f r m L D 1 3 && (keepB f r m L D 2 0 && (keepB f r m L D 3 0 && (keepB f r m L D 4 9 && (keepB f r m L D 5 0 && (keepB f r m L D 6 0 && (keepB f r m L D 7 0 && (keepB f r m L D 8 0 && (keepB f r m L D 9 20 && true)))))))))) := by
  have T : m.vw < 0 ∨ (0 ≤ m.vw.tmod (2 * f + 1) ∧ m.vw.tmod (2 * f + 1) < 2 * f + 1) := by
    by_cases h : m.vw < 0
    · exact .inl h
    · exact .inr (tmod_in (by omega) (by omega))
  have G : ¬ lg L r = 0 ∨ (L.length : Int) ≤ r := by
    by_cases h : lg L r = 0
    · exact .inr (lg_len h)
    · exact .inl h
  rw [Bool.eq_iff_iff]
  simp only [unG, fiG, keepB, blB, inR, prB, plB, owB, rdB, chk_one, chk_lg hr1 hr2, nmB_en m.e 14 (Or.inr rfl), en_1, en_3, en_13, en_z, Bool.true_or, Bool.false_or, Bool.true_and, Bool.false_and, Bool.or_false, Bool.and_true, Bool.not_true, Bool.not_false, Bool.or_true, Bool.and_false, Bool.and_eq_true, Bool.or_eq_true, decide_eq_true_eq, ite_eq_t, apB_iff, Bool.false_eq_true, if_false, if_true, Int.reduceEq, decide_false, decide_true, bne_iff_ne, ne_eq, decide_eq_decide, Bool.not_eq_true', decide_eq_false_iff_not, Nat.reduceEqDiff, reduceIte, Nat.one_ne_zero, and_true, and_assoc, not_or, not_and, not_not, Bool.not_eq_true]
  generalize m.vw.tmod (2 * f + 1) = q at *
  constructor <;> intro h <;> (repeat' apply And.intro) <;> first | omega | (simp [h]; done)
set_option maxHeartbeats 4000000 in
theorem docm_6 (f r : Int) (m : Mg) (L : List En) (D : List (Int × Int)) (hf1 : 1 ≤ f) (hf2 : f ≤ 3) (hr1 : 1 ≤ r) (hr2 : r ≤ 256) : (unG m L.length D.length true true false false false false false false false true && fiG f r m L D 6 true true false false false false false false false true) = (keepB f r m L D 0 1 && (keepB f r m L D 1 4 && (keepB f r m L D 2 0 && (keepB f r m L D 3 0 && (keepB f r m L D 4 0 && (keepB f r m L D 5 0 && (keepB f r m L D 6 0 && (keepB f r m L D 7 0 && (keepB f r m L D 8 0 && (keepB f r m L D 9 20 && true)))))))))) := by
  have T : m.vw < 0 ∨ (0 ≤ m.vw.tmod (2 * f + 1) ∧ m.vw.tmod (2 * f + 1) < 2 * f + 1) := by
    by_cases h : m.vw < 0
    · exact .inl h
    · exact .inr (tmod_in (by omega) (by omega))
  have G : ¬ lg L r = 0 ∨ (L.length : Int) ≤ r := by
    by_cases h : lg L r = 0
    · exact .inr (lg_len h)
    · exact .inl h
  rw [Bool.eq_iff_iff]
  simp only [unG, fiG, keepB, blB, inR, prB, plB, owB, rdB, chk_one, chk_lg hr1 hr2, nmB_en m.e 14 (Or.inr rfl), en_1, en_3, en_13, en_z, Bool.true_or, Bool.false_or, Bool.true_and, Bool.false_and, Bool.or_false, Bool.and_true, Bool.not_true, Bool.not_false, Bool.or_true, Bool.and_false, Bool.and_eq_true, Bool.or_eq_true, decide_eq_true_eq, ite_eq_t, apB_iff, Bool.false_eq_true, if_false, if_true, Int.reduceEq, decide_false, decide_true, bne_iff_ne, ne_eq, decide_eq_decide, Bool.not_eq_true', decide_eq_false_iff_not, Nat.reduceEqDiff, reduceIte, Nat.one_ne_zero, and_true, and_assoc, not_or, not_and, not_not, Bool.not_eq_true]
  generalize m.vw.tmod (2 * f + 1) = q at *
  constructor <;> intro h <;> (repeat' apply And.intro) <;> first | omega | (simp [h]; done)
set_option maxHeartbeats 4000000 in
theorem docm_7 (f r : Int) (m : Mg) (L : List En) (D : List (Int × Int)) (hf1 : 1 ≤ f) (hf2 : f ≤ 3) (hr1 : 1 ≤ r) (hr2 : r ≤ 256) : (unG m L.length D.length true true true false true false false false true true && fiG f r m L D 7 true true true false true false false false true true) = (keepB f r m L D 0 1 && (keepB f r m L D 1 4 && (keepB f r m L D 2 5 && (keepB f r m L D 3 0 && (keepB f r m L D 4 10 && (keepB f r m L D 5 0 && (keepB f r m L D 6 0 && (keepB f r m L D 7 0 && (keepB f r m L D 8 18 && (keepB f r m L D 9 20 && true)))))))))) := by
  have T : m.vw < 0 ∨ (0 ≤ m.vw.tmod (2 * f + 1) ∧ m.vw.tmod (2 * f + 1) < 2 * f + 1) := by
    by_cases h : m.vw < 0
    · exact .inl h
    · exact .inr (tmod_in (by omega) (by omega))
  have G : ¬ lg L r = 0 ∨ (L.length : Int) ≤ r := by
    by_cases h : lg L r = 0
    · exact .inr (lg_len h)
    · exact .inl h
  rw [Bool.eq_iff_iff]
  simp only [unG, fiG, keepB, blB, inR, prB, plB, owB, rdB, chk_one, chk_lg hr1 hr2, nmB_en m.e 14 (Or.inr rfl), en_1, en_3, en_13, en_z, Bool.true_or, Bool.false_or, Bool.true_and, Bool.false_and, Bool.or_false, Bool.and_true, Bool.not_true, Bool.not_false, Bool.or_true, Bool.and_false, Bool.and_eq_true, Bool.or_eq_true, decide_eq_true_eq, ite_eq_t, apB_iff, Bool.false_eq_true, if_false, if_true, Int.reduceEq, decide_false, decide_true, bne_iff_ne, ne_eq, decide_eq_decide, Bool.not_eq_true', decide_eq_false_iff_not, Nat.reduceEqDiff, reduceIte, Nat.one_ne_zero, and_true, and_assoc, not_or, not_and, not_not, Bool.not_eq_true]
  generalize m.vw.tmod (2 * f + 1) = q at *
  constructor <;> intro h <;> (repeat' apply And.intro) <;> first | omega | (simp [h]; done)
set_option maxHeartbeats 4000000 in
theorem docm_8 (f r : Int) (m : Mg) (L : List En) (D : List (Int × Int)) (hf1 : 1 ≤ f) (hf2 : f ≤ 3) (hr1 : 1 ≤ r) (hr2 : r ≤ 256) : (unG m L.length D.length true true false false true false false false true true && fiG f r m L D 8 true true false false true false false false true true) = (keepB f r m L D 0 2 && (keepB f r m L D 1 4 && (keepB f r m L D 2 0 && (keepB f r m L D 3 0 && (keepB f r m L D 4 10 && (keepB f r m L D 5 0 && (keepB f r m L D 6 0 && (keepB f r m L D 7 0 && (keepB f r m L D 8 18 && (keepB f r m L D 9 20 && true)))))))))) := by
  have T : m.vw < 0 ∨ (0 ≤ m.vw.tmod (2 * f + 1) ∧ m.vw.tmod (2 * f + 1) < 2 * f + 1) := by
    by_cases h : m.vw < 0
    · exact .inl h
    · exact .inr (tmod_in (by omega) (by omega))
  have G : ¬ lg L r = 0 ∨ (L.length : Int) ≤ r := by
    by_cases h : lg L r = 0
    · exact .inr (lg_len h)
    · exact .inl h
  rw [Bool.eq_iff_iff]
  simp only [unG, fiG, keepB, blB, inR, prB, plB, owB, rdB, chk_one, chk_lg hr1 hr2, nmB_en m.e 14 (Or.inr rfl), en_1, en_3, en_13, en_z, Bool.true_or, Bool.false_or, Bool.true_and, Bool.false_and, Bool.or_false, Bool.and_true, Bool.not_true, Bool.not_false, Bool.or_true, Bool.and_false, Bool.and_eq_true, Bool.or_eq_true, decide_eq_true_eq, ite_eq_t, apB_iff, Bool.false_eq_true, if_false, if_true, Int.reduceEq, decide_false, decide_true, bne_iff_ne, ne_eq, decide_eq_decide, Bool.not_eq_true', decide_eq_false_iff_not, Nat.reduceEqDiff, reduceIte, Nat.one_ne_zero, and_true, and_assoc, not_or, not_and, not_not, Bool.not_eq_true]
  generalize m.vw.tmod (2 * f + 1) = q at *
  constructor <;> intro h <;> (repeat' apply And.intro) <;> first | omega | (simp [h]; done)
set_option maxHeartbeats 4000000 in
theorem docm_9 (f r : Int) (m : Mg) (L : List En) (D : List (Int × Int)) (hf1 : 1 ≤ f) (hf2 : f ≤ 3) (hr1 : 1 ≤ r) (hr2 : r ≤ 256) : (unG m L.length D.length true false false false false true false false false true && fiG f r m L D 9 true false false false false true false false false true) = (keepB f r m L D 0 1 && (keepB f r m L D 1 0 && (keepB f r m L D 2 0 && (keepB f r m L D 3 0 && (keepB f r m L D 4 0 && (keepB f r m L D 5 12 && (keepB f r m L D 6 0 && (keepB f r m L D 7 0 && (keepB f r m L D 8 0 && (keepB f r m L D 9 20 && true)))))))))) := by
  have T : m.vw < 0 ∨ (0 ≤ m.vw.tmod (2 * f + 1) ∧ m.vw.tmod (2 * f + 1) < 2 * f + 1) := by
    by_cases h : m.vw < 0
    · exact .inl h
    · exact .inr (tmod_in (by omega) (by omega))
  have G : ¬ lg L r = 0 ∨ (L.length : Int) ≤ r := by
    by_cases h : lg L r = 0
    · exact .inr (lg_len h)
    · exact .inl h
  rw [Bool.eq_iff_iff]
  simp only [unG, fiG, keepB, blB, inR, prB, plB, owB, rdB, chk_one, chk_lg hr1 hr2, nmB_en m.e 14 (Or.inr rfl), en_1, en_3, en_13, en_z, Bool.true_or, Bool.false_or, Bool.true_and, Bool.false_and, Bool.or_false, Bool.and_true, Bool.not_true, Bool.not_false, Bool.or_true, Bool.and_false, Bool.and_eq_true, Bool.or_eq_true, decide_eq_true_eq, ite_eq_t, apB_iff, Bool.false_eq_true, if_false, if_true, Int.reduceEq, decide_false, decide_true, bne_iff_ne, ne_eq, decide_eq_decide, Bool.not_eq_true', decide_eq_false_iff_not, Nat.reduceEqDiff, reduceIte, Nat.one_ne_zero, and_true, and_assoc, not_or, not_and, not_not, Bool.not_eq_true]
  generalize m.vw.tmod (2 * f + 1) = q at *
  have W : 0 ≤ m.nd → m.nd < (D.length : Int) → (D[m.nd.toNat]? = some m.d ↔ m.d = D.getD m.nd.toNat (0, 0)) := own_at m.nd D m.d
  generalize (D[m.nd.toNat]? = some m.d) = X at *
  generalize (m.d = D.getD m.nd.toNat (0, 0)) = Y at *
  constructor
  · intro h
    obtain ⟨b1, b2, b3, b4, b5, b6, b7, b8, b9, b10, b11, b12⟩ := h
    exact ⟨by omega, by omega, b1, b2, b3, b4, b11, by omega, by omega, (W (by omega) (by omega)).2 b12, b5, b6, by omega, b10⟩
  · intro h
    obtain ⟨b1, b2, b3, b4, b5, b6, b7, b8, b9, b10, b11, b12, b13, b14⟩ := h
    exact ⟨b3, b4, b5, b6, b11, b12, by omega, by omega, by omega, b14, b7, (W (by omega) (by omega)).1 b10⟩
set_option maxHeartbeats 4000000 in
theorem docm_10 (f r : Int) (m : Mg) (L : List En) (D : List (Int × Int)) (hf1 : 1 ≤ f) (hf2 : f ≤ 3) (hr1 : 1 ≤ r) (hr2 : r ≤ 256) : (unG m L.length D.length true true false false true true false false true true && fiG f r m L D 10 true true false false true true false false true true) = (keepB f r m L D 0 1 && (keepB f r m L D 1 3 && (keepB f r m L D 2 0 && (keepB f r m L D 3 0 && (keepB f r m L D 4 10 && (keepB f r m L D 5 11 && (keepB f r m L D 6 0 && (keepB f r m L D 7 0 && (keepB f r m L D 8 19 && (keepB f r m L D 9 20 && true)))))))))) := by
  have T : m.vw < 0 ∨ (0 ≤ m.vw.tmod (2 * f + 1) ∧ m.vw.tmod (2 * f + 1) < 2 * f + 1) := by
    by_cases h : m.vw < 0
    · exact .inl h
    · exact .inr (tmod_in (by omega) (by omega))
  have G : ¬ lg L r = 0 ∨ (L.length : Int) ≤ r := by
    by_cases h : lg L r = 0
    · exact .inr (lg_len h)
    · exact .inl h
  rw [Bool.eq_iff_iff]
  simp only [unG, fiG, keepB, blB, inR, prB, plB, owB, rdB, chk_one, chk_lg hr1 hr2, nmB_en m.e 14 (Or.inr rfl), en_1, en_3, en_13, en_z, Bool.true_or, Bool.false_or, Bool.true_and, Bool.false_and, Bool.or_false, Bool.and_true, Bool.not_true, Bool.not_false, Bool.or_true, Bool.and_false, Bool.and_eq_true, Bool.or_eq_true, decide_eq_true_eq, ite_eq_t, apB_iff, Bool.false_eq_true, if_false, if_true, Int.reduceEq, decide_false, decide_true, bne_iff_ne, ne_eq, decide_eq_decide, Bool.not_eq_true', decide_eq_false_iff_not, Nat.reduceEqDiff, reduceIte, Nat.one_ne_zero, and_true, and_assoc, not_or, not_and, not_not, Bool.not_eq_true]
  generalize m.vw.tmod (2 * f + 1) = q at *
  have W : L.length = 0 → lg L r = 0 := fun h => by rw [List.length_eq_zero_iff.1 h]; exact lg_nil hr1
  generalize lg L r = y at *
  constructor
  · intro h
    obtain ⟨b1, b2, b3, b4, b5, b6, b7, b8, b9, b10, b11, b12, b13, b14, b15⟩ := h
    exact ⟨by omega, by omega, by omega, by omega, b1, b2, by omega, by omega, b15, b3, b4, by omega, b14⟩
  · intro h
    obtain ⟨b1, b2, b3, b4, b5, b6, b7, b8, b9, b10, b11, b12, b13⟩ := h
    have y0 : y = 0 := by
      rcases b12 with e | e
      · exact W e
      · exact e.2
    have yl : (L.length : Int) ≤ r := by omega
    exact ⟨b5, b6, b10, b11, by omega, by omega, by omega, by omega, y0, by omega, by omega, by omega, by omega, b13, b9⟩
set_option maxHeartbeats 4000000 in
theorem docm_11 (f r : Int) (m : Mg) (L : List En) (D : List (Int × Int)) (hf1 : 1 ≤ f) (hf2 : f ≤ 3) (hr1 : 1 ≤ r) (hr2 : r ≤ 256) : (unG m L.length D.length true true false false false false false false false true && fiG f r m L D 11 true true false false false false false false false true) = (keepB f r m L D 0 1 && (keepB f r m L D 1 3 && (keepB f r m L D 2 0 && (keepB f r m L D 3 0 && (keepB f r m L D 4 0 && (keepB f r m L D 5 0 && (keepB f r m L D 6 0 && (keepB f r m L D 7 0 && (keepB f r m L D 8 0 && (keepB f r m L D 9 20 && true)))))))))) := by
  have T : m.vw < 0 ∨ (0 ≤ m.vw.tmod (2 * f + 1) ∧ m.vw.tmod (2 * f + 1) < 2 * f + 1) := by
    by_cases h : m.vw < 0
    · exact .inl h
    · exact .inr (tmod_in (by omega) (by omega))
  have G : ¬ lg L r = 0 ∨ (L.length : Int) ≤ r := by
    by_cases h : lg L r = 0
    · exact .inr (lg_len h)
    · exact .inl h
  rw [Bool.eq_iff_iff]
  simp only [unG, fiG, keepB, blB, inR, prB, plB, owB, rdB, chk_one, chk_lg hr1 hr2, nmB_en m.e 14 (Or.inr rfl), en_1, en_3, en_13, en_z, Bool.true_or, Bool.false_or, Bool.true_and, Bool.false_and, Bool.or_false, Bool.and_true, Bool.not_true, Bool.not_false, Bool.or_true, Bool.and_false, Bool.and_eq_true, Bool.or_eq_true, decide_eq_true_eq, ite_eq_t, apB_iff, Bool.false_eq_true, if_false, if_true, Int.reduceEq, decide_false, decide_true, bne_iff_ne, ne_eq, decide_eq_decide, Bool.not_eq_true', decide_eq_false_iff_not, Nat.reduceEqDiff, reduceIte, Nat.one_ne_zero, and_true, and_assoc, not_or, not_and, not_not, Bool.not_eq_true]
  generalize m.vw.tmod (2 * f + 1) = q at *
  constructor <;> intro h <;> (repeat' apply And.intro) <;> first | omega | (simp [h]; done)
set_option maxHeartbeats 4000000 in
theorem docm_12 (f r : Int) (m : Mg) (L : List En) (D : List (Int × Int)) (hf1 : 1 ≤ f) (hf2 : f ≤ 3) (hr1 : 1 ≤ r) (hr2 : r ≤ 256) : (unG m L.length D.length true true false false true false false false true true && fiG f r m L D 12 true true false false true false false false true true) = (keepB f r m L D 0 1 && (keepB f r m L D 1 3 && (keepB f r m L D 2 0 && (keepB f r m L D 3 0 && (keepB f r m L D 4 10 && (keepB f r m L D 5 0 && (keepB f r m L D 6 0 && (keepB f r m L D 7 0 && (keepB f r m L D 8 18 && (keepB f r m L D 9 20 && true)))))))))) := by
  have T : m.vw < 0 ∨ (0 ≤ m.vw.tmod (2 * f + 1) ∧ m.vw.tmod (2 * f + 1) < 2 * f + 1) := by
    by_cases h : m.vw < 0
    · exact .inl h
    · exact .inr (tmod_in (by omega) (by omega))
  have G : ¬ lg L r = 0 ∨ (L.length : Int) ≤ r := by
    by_cases h : lg L r = 0
    · exact .inr (lg_len h)
    · exact .inl h
  rw [Bool.eq_iff_iff]
  simp only [unG, fiG, keepB, blB, inR, prB, plB, owB, rdB, chk_one, chk_lg hr1 hr2, nmB_en m.e 14 (Or.inr rfl), en_1, en_3, en_13, en_z, Bool.true_or, Bool.false_or, Bool.true_and, Bool.false_and, Bool.or_false, Bool.and_true, Bool.not_true, Bool.not_false, Bool.or_true, Bool.and_false, Bool.and_eq_true, Bool.or_eq_true, decide_eq_true_eq, ite_eq_t, apB_iff, Bool.false_eq_true, if_false, if_true, Int.reduceEq, decide_false, decide_true, bne_iff_ne, ne_eq, decide_eq_decide, Bool.not_eq_true', decide_eq_false_iff_not, Nat.reduceEqDiff, reduceIte, Nat.one_ne_zero, and_true, and_assoc, not_or, not_and, not_not, Bool.not_eq_true]
  generalize m.vw.tmod (2 * f + 1) = q at *
  constructor <;> intro h <;> (repeat' apply And.intro) <;> first | omega | (simp [h]; done)
set_option maxHeartbeats 4000000 in
theorem docm_13 (f r : Int) (m : Mg) (L : List En) (D : List (Int × Int)) (hf1 : 1 ≤ f) (hf2 : f ≤ 3) (hr1 : 1 ≤ r) (hr2 : r ≤ 256) : (unG m L.length D.length false false false true false false true false false false && fiG f r m L D 13 false false false true false false true false false false) = (keepB f r m L D 0 0 && (keepB f r m L D 1 0 && (keepB f r m L D 2 0 && (keepB f r m L D 3 6 && (keepB f r m L D 4 0 && (keepB f r m L D 5 0 && (keepB f r m L D 6 14 && (keepB f r m L D 7 0 && (keepB f r m L D 8 0 && (keepB f r m L D 9 0 && true)))))))))) := by
  have T : m.vw < 0 ∨ (0 ≤ m.vw.tmod (2 * f + 1) ∧ m.vw.tmod (2 * f + 1) < 2 * f + 1) := by
    by_cases h : m.vw < 0
    · exact .inl h
    · exact .inr (tmod_in (by omega) (by omega))
  have G : ¬ lg L r = 0 ∨ (L.length : Int) ≤ r := by
    by_cases h : lg L r = 0
    · exact .inr (lg_len h)
    · exact .inl h
  rw [Bool.eq_iff_iff]
  simp only [unG, fiG, keepB, blB, inR, prB, plB, owB, rdB, chk_one, chk_lg hr1 hr2, nmB_en m.e 14 (Or.inr rfl), en_1, en_3, en_13, en_z, Bool.true_or, Bool.false_or, Bool.true_and, Bool.false_and, Bool.or_false, Bool.and_true, Bool.not_true, Bool.not_false, Bool.or_true, Bool.and_false, Bool.and_eq_true, Bool.or_eq_true, decide_eq_true_eq, ite_eq_t, apB_iff, Bool.false_eq_true, if_false, if_true, Int.reduceEq, decide_false, decide_true, bne_iff_ne, ne_eq, decide_eq_decide, Bool.not_eq_true', decide_eq_false_iff_not, Nat.reduceEqDiff, reduceIte, Nat.one_ne_zero, and_true, and_assoc, not_or, not_and, not_not, Bool.not_eq_true]
  generalize m.vw.tmod (2 * f + 1) = q at *
  constructor <;> intro h <;> (repeat' apply And.intro) <;> first | omega | (simp [h]; done)
set_option maxHeartbeats 4000000 in
theorem docm_14 (f r : Int) (m : Mg) (L : List En) (D : List (Int × Int)) (hf1 : 1 ≤ f) (hf2 : f ≤ 3) (hr1 : 1 ≤ r) (hr2 : r ≤ 256) : (unG m L.length D.length true true false false true false true true false false && fiG f r m L D 14 true true false false true false true true false false) = (keepB f r m L D 0 1 && (keepB f r m L D 1 3 && (keepB f r m L D 2 0 && (keepB f r m L D 3 0 && (keepB f r m L D 4 9 && (keepB f r m L D 5 0 && (keepB f r m L D 6 15 && (keepB f r m L D 7 17 && (keepB f r m L D 8 0 && (keepB f r m L D 9 0 && true)))))))))) := by
  have T : m.vw < 0 ∨ (0 ≤ m.vw.tmod (2 * f + 1) ∧ m.vw.tmod (2 * f + 1) < 2 * f + 1) := by
    by_cases h : m.vw < 0
    · exact .inl h
    · exact .inr (tmod_in (by omega) (by omega))
  have G : ¬ lg L r = 0 ∨ (L.length : Int) ≤ r := by
    by_cases h : lg L r = 0
    · exact .inr (lg_len h)
    · exact .inl h
  rw [Bool.eq_iff_iff]
  simp only [unG, fiG, keepB, blB, inR, prB, plB, owB, rdB, chk_one, chk_lg hr1 hr2, nmB_en m.e 14 (Or.inr rfl), en_1, en_3, en_13, en_z, Bool.true_or, Bool.false_or, Bool.true_and, Bool.false_and, Bool.or_false, Bool.and_true, Bool.not_true, Bool.not_false, Bool.or_true, Bool.and_false, Bool.and_eq_true, Bool.or_eq_true, decide_eq_true_eq, ite_eq_t, apB_iff, Bool.false_eq_true, if_false, if_true, Int.reduceEq, decide_false, decide_true, bne_iff_ne, ne_eq, decide_eq_decide, Bool.not_eq_true', decide_eq_false_iff_not, Nat.reduceEqDiff, reduceIte, Nat.one_ne_zero, and_true, and_assoc, not_or, not_and, not_not, Bool.not_eq_true]
  generalize m.vw.tmod (2 * f + 1) = q at *
  constructor <;> intro h <;> (repeat' apply And.intro) <;> first | omega | (simp [h]; done)
structure CfB (w : World) (q : Nat) (c : Cf) : Prop where
  lt : q < w.heap.size
  cell : ∀ i x, ([.int .i64 c.f, .int .i64 c.r, .int .i64 c.p, .bool c.u] : List Value)[i]? = some x → w.cell? ⟨q, i, none⟩ = some x
theorem CfB.bel {w w' : World} {q : Nat} {c : Cf} (h : CfB w q c) (hb : Below w.heap.size w w') : CfB w' q c := ⟨Nat.lt_of_lt_of_le h.lt hb.size, fun i x hx => (hb.cell (p := ⟨q, i, none⟩) h.lt).trans (h.cell i x hx)⟩
theorem CfB.ldAll {w : World} {q : Nat} {c : Cf} (h : CfB w q c) : (Instr.loadAt 23 (.pointer (some ⟨q, 0, none⟩))).run Tryz.prog w = .ok (.agg #[.int .i64 c.f, .int .i64 c.r, .int .i64 c.p, .bool c.u]) w := by
  have c0 := h.cell 0 _ rfl
  have c1 := h.cell 1 _ rfl
  have c2 := h.cell 2 _ rfl
  have c3 := h.cell 3 _ rfl
  go_simp
theorem MBox.ldAll {w : World} {q : Nat} {m : Mg} {s t : Value} (h : MBox w q m s t) : (Instr.loadAt 38 (.pointer (some ⟨q, 0, none⟩))).run Tryz.prog w = .ok (m.val s t) w := by
  obtain ⟨x0, x1, x2, x3, x4, x5, x6, x7, x8, x9, x10, x11, x12, x13, x14, x15, x16, x17⟩ := h.all
  go_simp
  rfl
theorem cfB_r {c : Cf} (h : cfB c = true) : 1 ≤ c.r ∧ c.r ≤ 256 := by
  unfold cfB inR at h
  simp at h
  omega
theorem usL_none {k : Int} (h : ((usL k).length : Int) = 0) : kdB k = false := by
  cases hk : kdB k with
  | false => rfl
  | true =>
    unfold kdB inR at hk
    simp at hk
    have : k = 1 ∨ k = 2 ∨ k = 3 ∨ k = 4 ∨ k = 5 ∨ k = 6 ∨ k = 7 ∨ k = 8 ∨ k = 9 ∨ k = 10 ∨ k = 11 ∨ k = 12 ∨ k = 13 ∨ k = 14 := by omega
    rcases this with rfl | rfl | rfl | rfl | rfl | rfl | rfl | rfl | rfl | rfl | rfl | rfl | rfl | rfl <;> revert h <;> decide
theorem usL_some {k : Int} (h : ¬ ((usL k).length : Int) = 0) : kdB k = true := by
  cases hk : kdB k with
  | true => rfl
  | false =>
    unfold kdB inR at hk
    simp at hk
    refine absurd ?_ h
    unfold usL usN
    rw [if_neg (show ¬ k = 1 by omega), if_neg (show ¬ k = 2 by omega), if_neg (show ¬ k = 3 by omega), if_neg (show ¬ k = 4 by omega), if_neg (show ¬ k = 5 by omega), if_neg (show ¬ k = 6 by omega), if_neg (show ¬ k = 7 by omega), if_neg (show ¬ k = 8 by omega), if_neg (show ¬ k = 9 by omega), if_neg (show ¬ k = 10 by omega), if_neg (show ¬ k = 11 by omega), if_neg (show ¬ k = 12 by omega), if_neg (show ¬ k = 13 by omega), if_neg (show ¬ k = 14 by omega)]
    rfl
theorem doc_all (k : Int) (hk : kdB k = true) : ∃ u0 u1 u2 u3 u4 u5 u6 u7 u8 u9 : Bool, usL k = [u0, u1, u2, u3, u4, u5, u6, u7, u8, u9] ∧ (k = 9 → u0 = true ∧ u9 = true) ∧ ∀ (f r : Int) (m : Mg) (L : List En) (D : List (Int × Int)), m.k = k → 1 ≤ f → f ≤ 3 → 1 ≤ r → r ≤ 256 → (unG m L.length D.length u0 u1 u2 u3 u4 u5 u6 u7 u8 u9 && fiG f r m L D k u0 u1 u2 u3 u4 u5 u6 u7 u8 u9) = (List.range 10).all (fun j => keepB f r m L D j (tabA k.toNat j)) := by
  unfold kdB inR at hk
  simp at hk
  have : k = 1 ∨ k = 2 ∨ k = 3 ∨ k = 4 ∨ k = 5 ∨ k = 6 ∨ k = 7 ∨ k = 8 ∨ k = 9 ∨ k = 10 ∨ k = 11 ∨ k = 12 ∨ k = 13 ∨ k = 14 := by omega
  rcases this with rfl | rfl | rfl | rfl | rfl | rfl | rfl | rfl | rfl | rfl | rfl | rfl | rfl | rfl
  · exact ⟨false, false, false, false, false, false, true, false, false, false, rfl, fun h => absurd h (by decide), fun f r m L D _ h1 h2 h3 h4 => (docm_1 f r m L D h1 h2 h3 h4).trans rfl⟩
  · exact ⟨true, true, false, true, false, false, true, true, false, false, rfl, fun h => absurd h (by decide), fun f r m L D _ h1 h2 h3 h4 => (docm_2 f r m L D h1 h2 h3 h4).trans rfl⟩
  · exact ⟨true, true, false, true, true, false, true, false, false, true, rfl, fun h => absurd h (by decide), fun f r m L D _ h1 h2 h3 h4 => (docm_3 f r m L D h1 h2 h3 h4).trans rfl⟩
  · exact ⟨true, true, false, true, false, false, false, false, false, true, rfl, fun h => absurd h (by decide), fun f r m L D _ h1 h2 h3 h4 => (docm_4 f r m L D h1 h2 h3 h4).trans rfl⟩
  · exact ⟨true, true, false, false, true, false, false, false, false, true, rfl, fun h => absurd h (by decide), fun f r m L D _ h1 h2 h3 h4 => (docm_5 f r m L D h1 h2 h3 h4).trans rfl⟩
  · exact ⟨true, true, false, false, false, false, false, false, false, true, rfl, fun h => absurd h (by decide), fun f r m L D _ h1 h2 h3 h4 => (docm_6 f r m L D h1 h2 h3 h4).trans rfl⟩
  · exact ⟨true, true, true, false, true, false, false, false, true, true, rfl, fun h => absurd h (by decide), fun f r m L D _ h1 h2 h3 h4 => (docm_7 f r m L D h1 h2 h3 h4).trans rfl⟩
  · exact ⟨true, true, false, false, true, false, false, false, true, true, rfl, fun h => absurd h (by decide), fun f r m L D _ h1 h2 h3 h4 => (docm_8 f r m L D h1 h2 h3 h4).trans rfl⟩
  · exact ⟨true, false, false, false, false, true, false, false, false, true, rfl, fun _ => ⟨rfl, rfl⟩, fun f r m L D _ h1 h2 h3 h4 => (docm_9 f r m L D h1 h2 h3 h4).trans rfl⟩
  · exact ⟨true, true, false, false, true, true, false, false, true, true, rfl, fun h => absurd h (by decide), fun f r m L D _ h1 h2 h3 h4 => (docm_10 f r m L D h1 h2 h3 h4).trans rfl⟩
  · exact ⟨true, true, false, false, false, false, false, false, false, true, rfl, fun h => absurd h (by decide), fun f r m L D _ h1 h2 h3 h4 => (docm_11 f r m L D h1 h2 h3 h4).trans rfl⟩
  · exact ⟨true, true, false, false, true, false, false, false, true, true, rfl, fun h => absurd h (by decide), fun f r m L D _ h1 h2 h3 h4 => (docm_12 f r m L D h1 h2 h3 h4).trans rfl⟩
  · exact ⟨false, false, false, true, false, false, true, false, false, false, rfl, fun h => absurd h (by decide), fun f r m L D _ h1 h2 h3 h4 => (docm_13 f r m L D h1 h2 h3 h4).trans rfl⟩
  · exact ⟨true, true, false, false, true, false, true, true, false, false, rfl, fun h => absurd h (by decide), fun f r m L D _ h1 h2 h3 h4 => (docm_14 f r m L D h1 h2 h3 h4).trans rfl⟩
set_option maxHeartbeats 8000000 in
theorem refcheck7 (c : Cf) (m : Mg) (a1 a2 : Option Addr) (cl cv : Nat) (L : List En) (D : List (Int × Int)) (w : World) (hL : SlY yE w a1 L.length cl L) (hfit : ∀ e ∈ L, e.fits) (hD : SlY yD w a2 D.length cv D) (hfe : m.e.fits) :
    Calls Tryz.prog 11 #[c.val, m.val (.slice a1 L.length cl) (.slice a2 D.length cv)] w fun e w' => e = .returned (.int .i64 (ckM c m L D)) ∧ Below w.heap.size w w' := by
  go_enter Tryz.func11, Tryz.ntmps11
  go_upto_region 1 with (refine boxMk rfl (.tmp 1) rfl m _ _ rfl ?_; intro q1 w1 hq1 M1 b1 z1)
  have hq2 : q1 = w.heap.size + 1 := by first | exact hq1 | simpa using hq1
  subst hq2
  have hB : Below w.heap.size w w1 := ((Below.refl _ _).alloc (Nat.le_refl _) _).trans (b1.mono (by simp))
  have hc1 : CfB w1 w.heap.size c := ⟨Nat.lt_of_succ_lt M1.lt, fun i x hx => (b1.cell (p := ⟨w.heap.size, i, none⟩) (by simp)).trans (by
    match i, hx with
    | 0, hx | 1, hx | 2, hx | 3, hx => cases hx; unfold Cf.val; simp
    | (j + 4), hx => simp at hx)⟩
  have HC : Hid (∀ v, Below w1.heap.size w1 v → CfB v w.heap.size c) := fun v hv => hc1.bel hv
  have HM : Hid (∀ v, Below w1.heap.size w1 v → MBox v (w.heap.size + 1) m (.slice a1 L.length cl) (.slice a2 D.length cv)) := fun v hv => M1.bel hv
  have HB : Hid (∀ v, Below w1.heap.size w1 v → Below w.heap.size w v) := fun v hv => hB.trans (hv.mono hB.size)
  have HL : Hid (∀ v, Below w1.heap.size w1 v → SlY yE v a1 L.length cl L) := fun v hv => hL.later (HB.out v hv)
  have HD : Hid (∀ v, Below w1.heap.size w1 v → SlY yD v a2 D.length cv D) := fun v hv => hD.later (HB.out v hv)
  have HFI := hide hfit
  have HFE := hide hfe.ow
  have h1 : Below w1.heap.size w1 w1 := Below.refl _ _
  clear M1 b1 z1 hB hq1 hc1 hL hD hfit hfe
  refine wp_region_lit ?_
  refine vl_gen (fun T => T.size = 29 ∧ T[2]? = some (gw true (.pointer (some ⟨w.heap.size, 0, none⟩))) ∧ T[3]? = some (gw true (.pointer (some ⟨w.heap.size + 1, 0, none⟩)))) ⟨rfl, rfl, rfl⟩ (fun T0 ⟨hz, s2, s3⟩ => ?_)
  refine vt (.agg #[.int .i64 c.f, .int .i64 c.r, .int .i64 c.p, .bool c.u]) (ex_ld rfl (ev s2 rfl) ((HC.out w1 h1).ldAll)) hz (fun Ya zz kk s7 => ?_)
  replace s2 := ku s2
  replace s3 := ku s3
  replace hz := zz
  clear kk zz
  refine vcall true (.bool (cfB c)) (want_none rfl) (fun hc => by unfold execOp; simp only [resolve, invoke, Sem.run_bind, List.map_toArray, List.map_cons, List.map_nil, (ev s7 rfl)]; rfl) (fun hc => refConfig7 c w1) rfl hz (by decide) (fun Yb w2 hb zz kk s8 => ?_)
  have h2 := h1.trans (hb.mono h1.size)
  clear hb
  replace s2 := ku s2
  replace s3 := ku s3
  replace hz := zz
  clear kk zz s7 Ya
  refine vt (.bool (!(cfB c))) (ex_not rfl (ev s8 rfl)) hz (fun Yc zz kk s9 => ?_)
  replace s2 := ku s2
  replace s3 := ku s3
  replace hz := zz
  clear kk zz s8 Yb
  refine wpList_nil ?_
  go_upto_region 3 with fail
  cases e1 : (!(cfB c))
  rotate_left
  · refine wp_cond_true ((ev s9 rfl).trans (congrArg Value.bool e1)) ?_
    have HV := hide (HB.out _ h2)
    have V2 := hide (show ckM c m L D = 1 from by unfold ckM; rw [if_pos (by simpa using e1)])
    go_wp2
    refine bodyPost_ret (results_tmp rfl _ _ _) rfl ⟨?_, HV.out⟩
    rw [V2.out]
    show Ending.returned ((Array.setIfInBounds _ 4 (Value.int IntKind.i64 1)).getD 4 undef) = _
    rw [getD_of (at_set _ (by rw [hz]; decide))]
  refine wp_cond_false ((ev s9 rfl).trans (congrArg Value.bool e1)) ?_
  go_upto_region 3 with fail
  clear s9
  refine wp_region_lit ?_
  refine vt (.pointer (some ⟨w.heap.size + 1, 0, none⟩)) (ex_fa rfl (ev s3 rfl) (MBox.faKind _ _)) hz (fun Yd zz kk s10 => ?_)
  replace s2 := ku s2
  replace s3 := ku s3
  replace hz := zz
  clear kk zz
  refine vt (.int .i64 m.k) (ex_ld rfl (ev s10 rfl) ((HM.out w2 h2).ldKind)) hz (fun Ye zz kk s11 => ?_)
  replace s2 := ku s2
  replace s3 := ku s3
  replace hz := zz
  clear kk zz s10 Yd
  refine vt _ (ex_assign rfl (ev s11 rfl)) hz (fun Yf zz kk s5 => ?_)
  replace s2 := ku s2
  replace s3 := ku s3
  replace hz := zz
  clear kk zz s11 Ye
  refine wpList_nil ?_
  go_upto_region 4 with fail
  refine wp_region_lit ?_
  refine vt _ (ex_move rfl (ev s5 rfl)) hz (fun Yg zz kk s12 => ?_)
  replace s2 := ku s2
  replace s3 := ku s3
  replace s5 := ku s5
  replace hz := zz
  clear kk zz
  refine vcallP (want_none rfl) (by unfold execOp; simp only [resolve, invoke, Sem.run_bind, List.map_toArray, List.map_cons, List.map_nil, (ev s12 rfl)]; rfl) (uses_all m.k w2) rfl hz (by decide) ?_
  rintro e w3 ⟨v6, rfl, O, hb⟩; obtain ⟨au, cu, rfl, _, _, hau1, hau2⟩ := O.form
  refine ⟨_, rfl, fun Yh zz kk s13 => ?_⟩
  have h3 := h2.trans (hb.mono h2.size)
  clear hb
  replace s2 := ku s2
  replace s3 := ku s3
  replace s5 := ku s5
  replace hz := zz
  clear kk zz s12 Yg
  refine vt _ (ex_assign rfl (ev s13 rfl)) hz (fun Yi zz kk s6 => ?_)
  replace s2 := ku s2
  replace s3 := ku s3
  replace s5 := ku s5
  replace hz := zz
  clear kk zz s13 Yh
  refine wpList_nil ?_
  go_upto_region 5 with fail
  refine wp_region_lit ?_
  refine vt _ (ex_move rfl (ev s6 rfl)) hz (fun Yj zz kk s14 => ?_)
  replace s2 := ku s2
  replace s3 := ku s3
  replace s5 := ku s5
  replace s6 := ku s6
  replace hz := zz
  clear kk zz
  refine vt (.int .i64 ((usL m.k).length : Int)) (ex_lenB rfl rfl (ev s14 rfl)) hz (fun Yk zz kk s15 => ?_)
  replace s2 := ku s2
  replace s3 := ku s3
  replace s5 := ku s5
  replace s6 := ku s6
  replace hz := zz
  clear kk zz s14 Yj
  refine vt (.bool (decide (((usL m.k).length : Int) = 0))) (ex_bin rfl (ev s15 rfl) rfl (eqlC _ _ _ _ _)) hz (fun Yl zz kk s16 => ?_)
  replace s2 := ku s2
  replace s3 := ku s3
  replace s5 := ku s5
  replace s6 := ku s6
  replace hz := zz
  clear kk zz s15 Yk
  refine wpList_nil ?_
  go_upto_region 7 with fail
  cases e5 : (decide (((usL m.k).length : Int) = 0))
  rotate_left
  · refine wp_cond_true ((ev s16 rfl).trans (congrArg Value.bool e5)) ?_
    have HV := hide (HB.out _ h3)
    have V2 := hide (show ckM c m L D = 70 from by unfold ckM; rw [if_neg (by simpa using e1), if_pos (usL_none (of_decide_eq_true e5))])
    go_wp2
    refine bodyPost_ret (results_tmp rfl _ _ _) rfl ⟨?_, HV.out⟩
    rw [V2.out]
    show Ending.returned ((Array.setIfInBounds _ 4 (Value.int IntKind.i64 70)).getD 4 undef) = _
    rw [getD_of (at_set _ (by rw [hz]; decide))]
  refine wp_cond_false ((ev s16 rfl).trans (congrArg Value.bool e5)) ?_
  have hc : cfB c = true := by simpa using e1
  have hk : kdB m.k = true := usL_some (of_decide_eq_false e5)
  obtain ⟨u0, u1, u2, u3, u4, u5, u6, u7, u8, u9, hul, h9, hdoc⟩ := doc_all m.k hk
  have hne : usL m.k ≠ [] := by rw [hul]; simp
  obtain ⟨g, rfl⟩ : ∃ g, au = some ⟨g, 0, none⟩ := by
    cases au with
    | none => exact absurd (hau1 rfl).1 hne
    | some x => obtain ⟨g, e, _⟩ := hau2 x rfl; exact ⟨g, by rw [e]⟩
  obtain ⟨g2, eg, hgl, hgs⟩ := hau2 _ rfl
  obtain rfl : g = g2 := by simpa using eg
  have HG : Hid (∀ v, Below w3.heap.size w3 v → g < v.heap.size ∧ ∀ (j : Nat) (b : Bool), ([u0, u1, u2, u3, u4, u5, u6, u7, u8, u9] : List Bool)[j]? = some b → v.cell? ⟨g, j, none⟩ = some (.bool b)) := fun v hv => ⟨Nat.lt_of_lt_of_le hgs hv.size, fun j b hj => (hv.cell (p := ⟨g, j, none⟩) hgs).trans (by have := O.cell kB j b (by rw [hul]; exact hj) 0 (.bool b) rfl; simpa [yB] using this)⟩
  replace s6 : Yl[6]? = some (gw true (.slice (some ⟨g, 0, none⟩) 10 cu)) := by rw [s6, hul]; rfl
  have H9 := hide h9
  have HF := hide (cfB_f hc)
  have HDOC := hide hdoc
  have hcr := cfB_r hc
  have HM2 : Hid (∀ v, Below w3.heap.size w3 v → Below w1.heap.size w1 v) := fun v hv => h3.trans (hv.mono h3.size)
  replace HM : Hid (∀ v, Below w3.heap.size w3 v → MBox v (w.heap.size + 1) m (.slice a1 L.length cl) (.slice a2 D.length cv)) := fun v hv => HM.out v (HM2.out v hv)
  replace HC : Hid (∀ v, Below w3.heap.size w3 v → CfB v w.heap.size c) := fun v hv => HC.out v (HM2.out v hv)
  replace HL : Hid (∀ v, Below w3.heap.size w3 v → SlY yE v a1 L.length cl L) := fun v hv => HL.out v (HM2.out v hv)
  replace HD : Hid (∀ v, Below w3.heap.size w3 v → SlY yD v a2 D.length cv D) := fun v hv => HD.out v (HM2.out v hv)
  replace HB : Hid (∀ v, Below w3.heap.size w3 v → Below w.heap.size w v) := fun v hv => HB.out v (HM2.out v hv)
  have h3y : Below w3.heap.size w3 w3 := Below.refl _ _
  clear O hau1 hau2 eg hgl hgs hne hul h9 hdoc h1 h2 h3 HM2 s16 e5
  have h3 := h3y
  clear h3y
  go_upto_region 7 with fail
  refine wp_region_lit ?_
  refine vt (m.val (.slice a1 L.length cl) (.slice a2 D.length cv)) (ex_ld rfl (ev s3 rfl) ((HM.out w3 h3).ldAll)) hz (fun Ym zz kk s17 => ?_)
  replace s2 := ku s2
  replace s3 := ku s3
  replace s5 := ku s5
  replace s6 := ku s6
  replace hz := zz
  clear kk zz
  refine vt _ (ex_move rfl (ev s6 rfl)) hz (fun Yn zz kk s18 => ?_)
  replace s2 := ku s2
  replace s3 := ku s3
  replace s5 := ku s5
  replace s6 := ku s6
  replace s17 := ku s17
  replace hz := zz
  clear kk zz Ym
  refine vcall true (.bool (unG m L.length D.length u0 u1 u2 u3 u4 u5 u6 u7 u8 u9)) (want_none rfl) (fun hc => by unfold execOp; simp only [resolve, invoke, Sem.run_bind, List.map_toArray, List.map_cons, List.map_nil, (ev s17 rfl), (ev s18 rfl)]; rfl) (fun hc => unused_any m a1 a2 L.length cl D.length cv g cu u0 u1 u2 u3 u4 u5 u6 u7 u8 u9 w3 (HG.out w3 h3).1 (HG.out w3 h3).2) rfl hz (by decide) (fun Yo w4 hb zz kk s19 => ?_)
  have h4 := h3.trans (hb.mono h3.size)
  clear hb
  replace s2 := ku s2
  replace s3 := ku s3
  replace s5 := ku s5
  replace s6 := ku s6
  replace hz := zz
  clear kk zz s17 s18 Yn
  refine vt (.bool (!(unG m L.length D.length u0 u1 u2 u3 u4 u5 u6 u7 u8 u9))) (ex_not rfl (ev s19 rfl)) hz (fun Yp zz kk s20 => ?_)
  replace s2 := ku s2
  replace s3 := ku s3
  replace s5 := ku s5
  replace s6 := ku s6
  replace hz := zz
  clear kk zz s19 Yo
  refine vt _ (ex_move rfl (ev s20 rfl)) hz (fun Yq zz kk s21 => ?_)
  replace s2 := ku s2
  replace s3 := ku s3
  replace s5 := ku s5
  replace s6 := ku s6
  replace hz := zz
  clear kk zz s20 Yp
  refine vl _ (.agg #[.int .i64 c.f, .int .i64 c.r, .int .i64 c.p, .bool c.u]) (want_g rfl rfl s21) (fun hc => ex_ld rfl (ev s2 rfl) ((HC.out w4 h4).ldAll)) rfl hz (by decide) (fun Yr zz kk s22 => ?_)
  replace s2 := ku s2
  replace s3 := ku s3
  replace s5 := ku s5
  replace s6 := ku s6
  replace s21 := ku s21
  replace hz := zz
  clear kk zz Yq
  refine vl _ (m.val (.slice a1 L.length cl) (.slice a2 D.length cv)) (want_g rfl rfl s21) (fun hc => ex_ld rfl (ev s3 rfl) ((HM.out w4 h4).ldAll)) rfl hz (by decide) (fun Ys zz kk s23 => ?_)
  replace s2 := ku s2
  replace s3 := ku s3
  replace s5 := ku s5
  replace s6 := ku s6
  replace s21 := ku s21
  replace s22 := ku s22
  replace hz := zz
  clear kk zz Yr
  refine vl _ _ (want_g rfl rfl s21) (fun hc => ex_move rfl (ev s5 rfl)) rfl hz (by decide) (fun Yt zz kk s24 => ?_)
  replace s2 := ku s2
  replace s3 := ku s3
  replace s5 := ku s5
  replace s6 := ku s6
  replace s21 := ku s21
  replace s22 := ku s22
  replace s23 := ku s23
  replace hz := zz
  clear kk zz Ys
  refine vl _ _ (want_g rfl rfl s21) (fun hc => ex_move rfl (ev s6 rfl)) rfl hz (by decide) (fun Yu zz kk s25 => ?_)
  replace s2 := ku s2
  replace s3 := ku s3
  replace s5 := ku s5
  replace s6 := ku s6
  replace s21 := ku s21
  replace s22 := ku s22
  replace s23 := ku s23
  replace s24 := ku s24
  replace hz := zz
  clear kk zz Yt
  refine vcall (true && ((!(unG m L.length D.length u0 u1 u2 u3 u4 u5 u6 u7 u8 u9)) == false)) (.bool (fiG c.f c.r m L D m.k u0 u1 u2 u3 u4 u5 u6 u7 u8 u9)) (want_g rfl rfl s21) (fun hc => by unfold execOp; simp only [resolve, invoke, Sem.run_bind, List.map_toArray, List.map_cons, List.map_nil, (ev s22 hc), (ev s23 hc), (ev s24 hc), (ev s25 hc)]; rfl) (fun hc => fields_any c.f c.r c.p c.u m a1 a2 cl cv g cu m.k u0 u1 u2 u3 u4 u5 u6 u7 u8 u9 L D w4 HF.out (HL.out w4 h4) HFI.out (HD.out w4 h4) HFE.out (HG.out w4 h4).1 (HG.out w4 h4).2 H9.out) rfl hz (by decide) (fun Yv w5 hb zz kk s26 => ?_)
  have h5 := h4.trans (hb.mono h4.size)
  clear hb
  replace s2 := ku s2
  replace s3 := ku s3
  replace s5 := ku s5
  replace s6 := ku s6
  replace s21 := ku s21
  replace hz := zz
  clear kk zz s22 s23 s24 s25 Yu
  refine vl _ (.bool (!(fiG c.f c.r m L D m.k u0 u1 u2 u3 u4 u5 u6 u7 u8 u9))) (want_g rfl rfl s21) (fun hc => ex_not rfl (ev s26 hc)) rfl hz (by decide) (fun Yw zz kk s27 => ?_)
  replace s2 := ku s2
  replace s3 := ku s3
  replace s5 := ku s5
  replace s6 := ku s6
  replace s21 := ku s21
  replace hz := zz
  clear kk zz s26 Yv
  refine vt (.bool ((!(unG m L.length D.length u0 u1 u2 u3 u4 u5 u6 u7 u8 u9)) || (!(fiG c.f c.r m L D m.k u0 u1 u2 u3 u4 u5 u6 u7 u8 u9)))) (ex_or rfl s21 s27 rfl) hz (fun Yx zz kk s28 => ?_)
  replace s2 := ku s2
  replace s3 := ku s3
  replace s5 := ku s5
  replace s6 := ku s6
  replace hz := zz
  clear kk zz s21 s27 Yw
  refine wpList_nil ?_
  go_upto_region 9 with fail
  cases e7 : ((!(unG m L.length D.length u0 u1 u2 u3 u4 u5 u6 u7 u8 u9)) || (!(fiG c.f c.r m L D m.k u0 u1 u2 u3 u4 u5 u6 u7 u8 u9)))
  rotate_left
  · refine wp_cond_true ((ev s28 rfl).trans (congrArg Value.bool e7)) ?_
    have HV := hide (HB.out _ h5)
    have V2 := hide (show ckM c m L D = 71 from by unfold ckM; rw [if_neg (by simp [hc]), if_neg (by simp [hk]), ← HDOC.out c.f c.r m L D rfl HF.out.1 HF.out.2 hcr.1 hcr.2, if_neg (by rw [Bool.and_eq_true]; rintro ⟨x, y⟩; rw [x, y] at e7; simp at e7)])
    go_wp2
    refine bodyPost_ret (results_tmp rfl _ _ _) rfl ⟨?_, HV.out⟩
    rw [V2.out]
    show Ending.returned ((Array.setIfInBounds _ 4 (Value.int IntKind.i64 71)).getD 4 undef) = _
    rw [getD_of (at_set _ (by rw [hz]; decide))]
  refine wp_cond_false ((ev s28 rfl).trans (congrArg Value.bool e7)) ?_
  have HV := hide (HB.out _ h5)
  have V2 := hide (show ckM c m L D = 0 from by unfold ckM; rw [if_neg (by simp [hc]), if_neg (by simp [hk]), ← HDOC.out c.f c.r m L D rfl HF.out.1 HF.out.2 hcr.1 hcr.2, if_pos (by rw [Bool.and_eq_true]; simpa using e7)])
  go_wp2
  refine bodyPost_ret (results_tmp rfl _ _ _) rfl ⟨?_, HV.out⟩
  rw [V2.out]
  show Ending.returned ((Array.setIfInBounds _ 4 (Value.int IntKind.i64 0)).getD 4 undef) = _
  rw [getD_of (at_set _ (by rw [hz]; decide))]
end Go.Proofs.YtibedokegignhaaGreatDoor
