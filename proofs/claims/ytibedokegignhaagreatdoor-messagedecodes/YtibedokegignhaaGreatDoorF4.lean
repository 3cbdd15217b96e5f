import Derived.Lib.SlBytesConst
import Derived.Deep.SlicePairs
import Derived.Test.YtibedokegignhaaGreatDoorRows
import Derived.Deep.RegionLaw
import Derived.Lib.ConvBytes
import Derived.Test.YtibedokegignhaaGreatDoorF3
set_option maxRecDepth 100000
set_option linter.unusedVariables false
set_option linter.unusedSimpArgs false
namespace Go.Proofs.YtibedokegignhaaGreatDoor
open Go.RowKit Go.Maps
open Classical
def colsBy (m : Mg) (L : List En) (D : List (Int × Int)) (k j : Nat) : List Int := (List.range j).flatMap fun i => if tabA k i = 0 then [] else colBy m L D i (!decide ((tabA k i : Int) = 15))
def mbBy (m : Mg) (L : List En) (D : List (Int × Int)) (k : Nat) : List Int := M.form k ++ colsBy m L D k 10
theorem colsBy_next (m : Mg) (L : List En) (D : List (Int × Int)) (k j : Nat) : colsBy m L D k (j + 1) = colsBy m L D k j ++ (if tabA k j = 0 then [] else colBy m L D j (!decide ((tabA k j : Int) = 15))) := by
  unfold colsBy
  rw [List.range_succ, List.flatMap_append]
  simp
theorem colsBy_none {m : Mg} {L : List En} {D : List (Int × Int)} {k j : Nat} (h : (tabA k j : Int) = 0) : colsBy m L D k (j + 1) = colsBy m L D k j := by
  rw [colsBy_next, if_pos (by omega)]
  simp
theorem colsBy_some {m : Mg} {L : List En} {D : List (Int × Int)} {k j : Nat} (h : ¬ (tabA k j : Int) = 0) : colsBy m L D k (j + 1) = colsBy m L D k j ++ colBy m L D j (!decide ((tabA k j : Int) = 15)) := by
  rw [colsBy_next, if_neg (by omega)]
theorem colBy_le {m : Mg} {L : List En} {D : List (Int × Int)} (hm : mgF m L D) (j : Nat) (op : Bool) : (colBy m L D j op).length ≤ if j = 8 then 26130 else 150 := by
  have fl : ∀ {x : Int}, 0 ≤ x ∧ x ≤ 9223372036854775807 → (M.form x.toNat).length ≤ 9 := fun h => form_le (by omega)
  match j with
  | 0 => have := fl hm.nd; show (M.form _).length ≤ 150; omega
  | 1 => have := fl hm.vw; show (M.form _).length ≤ 150; omega
  | 2 => have := fl hm.ls; show (M.form _).length ≤ 150; omega
  | 3 => have := fl hm.p; show (M.form _).length ≤ 150; omega
  | 4 => have := fl hm.cm; show (M.form _).length ≤ 150; omega
  | 5 =>
    have := drBy_le (x := m.d.1.toNat) (y := m.d.2.toNat) (by have := hm.d.1; have := hm.d.2.1; omega) (by have := hm.d.2.2.1; have := hm.d.2.2.2; omega)
    show (drBy _ _).length ≤ 150
    omega
  | 6 =>
    have h1 := nmBy_le (x := m.e.c.toNat) (y := m.e.n.toNat) (by have := hm.e.1; have := hm.e.2.1; omega) (by have := hm.e.2.2.1; have := hm.e.2.2.2.1; omega)
    have h2 := opBy_le (x := m.e.o.k.toNat) (y := m.e.o.s.toNat) (by have := hm.e.2.2.2.2.1; have := hm.e.2.2.2.2.2.1; omega) (by have := hm.e.2.2.2.2.2.2.1; have := hm.e.2.2.2.2.2.2.2.1; omega) hm.e.2.2.2.2.2.2.2.2
    show (nmBy _ _ ++ _).length ≤ 150
    rw [List.length_append]
    cases op
    · simp; omega
    · simp only [if_true]; omega
  | 7 =>
    have h2 := opBy_le (x := m.r.1.toNat) (y := m.r.2.1.toNat) (by have := hm.r.1; have := hm.r.2.1; omega) (by have := hm.r.2.2.1; have := hm.r.2.2.2.1; omega) hm.r.2.2.2.2
    show (opBy _ _ _).length ≤ 150
    omega
  | 8 =>
    have h1 := esBy_le L hm.es
    have h2 := hm.lL
    have h3 := form_le (show L.length < 2 ^ 64 by omega)
    show (M.form _ ++ _).length ≤ 26130
    rw [List.length_append]
    omega
  | 9 =>
    have h1 := dsBy_le D hm.ds
    have h2 := hm.lD
    have h3 := form_le (show D.length < 2 ^ 64 by omega)
    show (M.form _ ++ _).length ≤ 150
    rw [List.length_append]
    omega
  | (n + 10) => rw [if_neg (by omega)]; exact Nat.zero_le _
theorem tabA_out {k j : Nat} (hj : 10 ≤ j) : tabA k j = 0 := by
  unfold tabA
  by_cases hk : k < 15
  · rw [List.getD_eq_getElem?_getD]
    match k, hk with
    | 0, _ | 1, _ | 2, _ | 3, _ | 4, _ | 5, _ | 6, _ | 7, _ | 8, _ | 9, _ | 10, _ | 11, _ | 12, _ | 13, _ | 14, _ => simp [tabR, List.getElem?_eq_none, hj]
  · rw [List.getElem?_eq_none (show tabR.length ≤ k by show 15 ≤ k; omega)]
    rfl
theorem colsBy_le {m : Mg} {L : List En} {D : List (Int × Int)} (hm : mgF m L D) (k j : Nat) : (colsBy m L D k j).length ≤ 28000 := by
    have key : ∀ j, j ≤ 10 → (colsBy m L D k j).length ≤ 150 * j + if j ≤ 8 then 0 else 26130 := by
      intro j
      induction j with
      | zero => intro _; simp [colsBy]
      | succ j ih =>
        intro hj
        have h1 := ih (by omega)
        have h2 := colBy_le hm j (!decide ((tabA k j : Int) = 15))
        rw [colsBy_next, List.length_append]
        by_cases h0 : tabA k j = 0
        · rw [if_pos h0]
          simp only [List.length_nil]
          split at h1 <;> split <;> omega
        · rw [if_neg h0]
          split at h1 <;> split at h2 <;> split <;> omega
    by_cases hj : j ≤ 10
    · have := key j hj
      split at this <;> omega
    · have e : ∀ n, colsBy m L D k (10 + n) = colsBy m L D k 10 := by
        intro n
        induction n with
        | zero => rfl
        | succ n ih => rw [show 10 + (n + 1) = (10 + n) + 1 from rfl, colsBy_next, if_pos (tabA_out (by omega)), List.append_nil, ih]
      have := key 10 (Nat.le_refl _)
      rw [show j = 10 + (j - 10) by omega, e]
      simp at this
      omega
theorem ixTab (k : Nat) (hk : k < 15) (w : World) : (Instr.indexAt 84 (.pointer (some ⟨0, 0, none⟩)) (.int .i64 (k : Int))).run Tryz.prog w = .ok (.pointer (some ⟨0, k * 10, none⟩)) w := by
  have h1 : (k : Int) < 15 := by omega
  go_simp
theorem ldRow {w : World} (h : Tab w) {k : Nat} (hk : k < 15) : (Instr.loadAt 83 (.pointer (some ⟨0, k * 10, none⟩))).run Tryz.prog w = .ok (.agg #[.int .u8 (tabA k 0 : Int), .int .u8 (tabA k 1 : Int), .int .u8 (tabA k 2 : Int), .int .u8 (tabA k 3 : Int), .int .u8 (tabA k 4 : Int), .int .u8 (tabA k 5 : Int), .int .u8 (tabA k 6 : Int), .int .u8 (tabA k 7 : Int), .int .u8 (tabA k 8 : Int), .int .u8 (tabA k 9 : Int)]) w := by
  have y0 : w.cell? ⟨0, k * 10, none⟩ = some (.int .u8 (tabA k 0 : Int)) := h.cell k 0 hk (by omega)
  have y1 := h.cell k 1 hk (by omega)
  have y2 := h.cell k 2 hk (by omega)
  have y3 := h.cell k 3 hk (by omega)
  have y4 := h.cell k 4 hk (by omega)
  have y5 := h.cell k 5 hk (by omega)
  have y6 := h.cell k 6 hk (by omega)
  have y7 := h.cell k 7 hk (by omega)
  have y8 := h.cell k 8 hk (by omega)
  have y9 := h.cell k 9 hk (by omega)
  go_simp
theorem ex_index {o : Oper} {ρ : Operand → Value} {s : TypeId} {x y : Operand} {X Y V : Value} {w : World} (ho : o.op = .index s x y) (hx : ρ x = X) (hy : ρ y = Y) (hr : (Instr.index s X Y).run Tryz.prog w = .ok V w) : (execOp ρ o).run Tryz.prog w = .ok (.value V) w := by
  unfold execOp
  simp only [ho, hx, hy, Sem.run_bind, hr, Result.andThen_ok]
  rfl
theorem ex_ext {o : Oper} {ρ : Operand → Value} {x : Operand} {i : Nat} {X V : Value} {w : World} (ho : o.op = .extract x i) (hx : ρ x = X) (hr : (Instr.extract X i).run Tryz.prog w = .ok V w) : (execOp ρ o).run Tryz.prog w = .ok (.value V) w := by
  unfold execOp
  simp only [ho, hx, Sem.run_bind, hr, Result.andThen_ok]
  rfl
set_option maxHeartbeats 4000000 in
theorem wmessage_tk (B b : Nat) (l : List Int) (m : Mg) (k : Nat) (hmk : m.k = (k : Int)) (hk2 : k < 15) (a1 a2 : Option Addr) (cl cv : Nat) (L : List En) (D : List (Int × Int)) (w0 w : World) (hB : B ≤ b) (hB1 : 0 < B) (hT : Tab w) (h0 : Below w0.heap.size w0 w) (hB0 : w0.heap.size ≤ B) (hL : SlY yE w0 a1 L.length cl L) (hD : SlY yD w0 a2 D.length cv D) (hm : mgF m L D) (h : Wi.WOkT w b l) (hl : l.length + 100000 ≤ 140737488355328) :
    Calls Tryz.prog 44 #[.pointer (some ⟨b, 0, none⟩), m.val (.slice a1 L.length cl) (.slice a2 D.length cv)] w fun e w' => e = .returned (.tuple #[]) ∧ Wi.WOkT w' b (l ++ mbBy m L D k) ∧ Below B w w' ∧ Wi.TKp w w' := by
  have hlt0 := h.lt
  go_enter Tryz.func44, Tryz.ntmps44
  go_upto_region 1 with (refine boxMk rfl (.tmp 1) rfl m _ _ rfl ?_; intro q1 w1 hq1 M1 hBw z1; subst hq1)
  have hO1 := h.later hBw
  have hBl : B ≤ w.heap.size := by omega
  have HM : Hid (∀ v, Wi.TKp w1 v → MBox v w.heap.size m (.slice a1 L.length cl) (.slice a2 D.length cv)) := fun v hv => M1.tk hv
  have HK : Hid (∀ v, Wi.TKp w1 v → (Instr.loadAt 24 (.pointer (some ⟨w.heap.size, 0, none⟩))).run Tryz.prog v = .ok (.int .i64 (k : Int)) v) := fun v hv => by rw [← hmk]; exact (HM.out v hv).ldKind
  have HTB : Hid (∀ v, Below B w1 v → Tab v) := fun v hv => (hT.later hBw (Nat.lt_of_lt_of_le hB1 hBl)).later hv hB1
  have HLEN : Hid (∀ j, (l ++ M.form k ++ colsBy m L D k j).length + 30000 ≤ 140737488355328) := fun j => by
    have f1 := form_le (show k < 2 ^ 64 by omega)
    have f2 := colsBy_le hm k j
    rw [List.length_append, List.length_append]
    omega
  refine vh_start (fun v => Wi.TKp w1 v) (by kernel_rfl) ?_
  have hS : Wi.TKp w1 w1.drew := (Wi.TKp.refl w1).drewN 1
  refine vh_gen (fun T => T.size = 28 ∧ T[0]? = some (gw true (.pointer (some ⟨b, 0, none⟩))) ∧ T[3]? = some (gw true (.pointer (some ⟨w.heap.size, 0, none⟩)))) ⟨rfl, rfl, rfl⟩ (fun T0 ⟨hz, s0, s3⟩ => ?_)
  refine vh_take 0 true (.pointer (some ⟨b, 0, none⟩)) rfl (by kernel_rfl) (by kernel_rfl) (by kernel_rfl) (want_none rfl) (fun hc v hv => ex_move rfl (ev s0 rfl)) rfl hz (by decide) hS (fun Ya zz kk s6 => ?_)
  replace s0 := ku s0
  replace s3 := ku s3
  replace hz := zz
  clear kk zz
  refine vh_take 1 true (.pointer (some ⟨b, 0, none⟩)) rfl (by kernel_rfl) (by kernel_rfl) (by kernel_rfl) (want_none rfl) (fun hc v hv => ex_nil rfl (ev s6 rfl)) rfl hz (by decide) hS (fun Yb zz kk s7 => ?_)
  replace s0 := ku s0
  replace s3 := ku s3
  replace hz := zz
  clear kk zz s6 Ya
  refine vh_take 2 true (.pointer (some ⟨b, 0, none⟩)) rfl (by kernel_rfl) (by kernel_rfl) (by kernel_rfl) (want_none rfl) (fun hc v hv => ex_fa rfl (ev s7 rfl) (by go_simp)) rfl hz (by decide) hS (fun Yc zz kk s8 => ?_)
  replace s0 := ku s0
  replace s3 := ku s3
  replace hz := zz
  clear kk zz s7 Yb
  refine vh_take 3 true (.pointer (some ⟨w.heap.size, 0, none⟩)) rfl (by kernel_rfl) (by kernel_rfl) (by kernel_rfl) (want_none rfl) (fun hc v hv => ex_fa rfl (ev s3 rfl) (MBox.faKind _ _)) rfl hz (by decide) hS (fun Yd zz kk s9 => ?_)
  replace s0 := ku s0
  replace s3 := ku s3
  replace s8 := ku s8
  replace hz := zz
  clear kk zz Yc
  refine vh_take 4 true (.int .i64 (k : Int)) rfl (by kernel_rfl) (by kernel_rfl) (by kernel_rfl) (want_none rfl) (fun hc v hv => ex_ld rfl (ev s9 rfl) (HK.out v hv)) rfl hz (by decide) hS (fun Ye zz kk s10 => ?_)
  replace s0 := ku s0
  replace s3 := ku s3
  replace s8 := ku s8
  replace hz := zz
  clear kk zz s9 Yd
  refine vh_call 5 rfl (by kernel_rfl) (want_none rfl) (ex_call rfl (by simp only [List.map_toArray, List.map_cons, List.map_nil, (ev s8 rfl), (ev s10 rfl), evc] <;> rfl) rfl) (Wi.int_tk B b l k w1.drew hB hO1.drew (by omega) (by omega)) rfl hz (by decide) ?_
  rintro e w2 ⟨rfl, hO2, hb2, ht2⟩
  refine ⟨_, rfl, (hS.trans ht2), fun Yf zz kk s11 => ?_⟩
  have hb3 : Below B w1 w2 := (Below.refl _ _).drew.trans hb2
  have ht3 : Wi.TKp w1 w2 := ((Wi.TKp.refl w1).drewN 1).trans ht2
  clear hb2 ht2 hS
  replace s0 := ku s0
  replace s3 := ku s3
  replace hz := zz
  clear kk zz s8 s10 Ye
  refine vh_done (by kernel_rfl) ?_
  go_upto_region 2 with fail
  refine wp_region_lit ?_
  refine vt (.pointer (some ⟨w.heap.size, 0, none⟩)) (ex_fa rfl (ev s3 rfl) (MBox.faKind _ _)) hz (fun Yg zz kk s12 => ?_)
  replace s0 := ku s0
  replace s3 := ku s3
  replace hz := zz
  clear kk zz s11
  refine vt (.int .i64 (k : Int)) (ex_ld rfl (ev s12 rfl) (HK.out w2 ht3)) hz (fun Yh zz kk s13 => ?_)
  replace s0 := ku s0
  replace s3 := ku s3
  replace hz := zz
  clear kk zz s12 Yg
  refine vt (.pointer (some ⟨0, k * 10, none⟩)) (ex_ix rfl rfl (ev s13 rfl) (ixTab k hk2 _)) hz (fun Yi zz kk s14 => ?_)
  replace s0 := ku s0
  replace s3 := ku s3
  replace hz := zz
  clear kk zz s13 Yh
  refine vt (.agg #[.int .u8 (tabA k 0 : Int), .int .u8 (tabA k 1 : Int), .int .u8 (tabA k 2 : Int), .int .u8 (tabA k 3 : Int), .int .u8 (tabA k 4 : Int), .int .u8 (tabA k 5 : Int), .int .u8 (tabA k 6 : Int), .int .u8 (tabA k 7 : Int), .int .u8 (tabA k 8 : Int), .int .u8 (tabA k 9 : Int)]) (ex_ld rfl (ev s14 rfl) (ldRow (HTB.out w2 hb3) hk2)) hz (fun Yj zz kk s15 => ?_)
  replace s0 := ku s0
  replace s3 := ku s3
  replace hz := zz
  clear kk zz s14 Yi
  refine vt (.int .i64 0) (ex_move rfl rfl) hz (fun Yk zz kk s16 => ?_)
  replace s0 := ku s0
  replace s3 := ku s3
  replace s15 := ku s15
  replace hz := zz
  clear kk zz Yj
  refine wpList_nil ?_
  go_upto_region 3 with fail
  refine v_loop 16 10 (fun j T wr => T.size = 28 ∧ T[0]? = some (gw true (.pointer (some ⟨b, 0, none⟩))) ∧ T[3]? = some (gw true (.pointer (some ⟨w.heap.size, 0, none⟩))) ∧ T[15]? = some (gw true (.agg #[.int .u8 (tabA k 0 : Int), .int .u8 (tabA k 1 : Int), .int .u8 (tabA k 2 : Int), .int .u8 (tabA k 3 : Int), .int .u8 (tabA k 4 : Int), .int .u8 (tabA k 5 : Int), .int .u8 (tabA k 6 : Int), .int .u8 (tabA k 7 : Int), .int .u8 (tabA k 8 : Int), .int .u8 (tabA k 9 : Int)])) ∧ T[16]? = some (gw true (.int .i64 (j : Int))) ∧ Hid (Wi.WOkT wr b (l ++ M.form k ++ colsBy m L D k j) ∧ Below B w1 wr ∧ Wi.TKp w1 wr)) (fun j T w h => h.2.2.2.2.1) ⟨hz, s0, s3, s15, s16, by simpa [colsBy] using hO2, hb3, ht3⟩ ?_
  intro j R0 wr hj hh
  clear hz s0 s3 s15 s16
  obtain ⟨hz, s0, s3, s15, s16, HI⟩ := hh
  go_upto_region 3 with fail
  refine wp_region_lit ?_
  refine vt (.bool (decide ((j : Int) < 10))) (ex_bin rfl (ev s16 rfl) rfl (lssC _ _ _ _ _)) hz (fun Yl zz kk s17 => ?_)
  replace s0 := ku s0
  replace s3 := ku s3
  replace s15 := ku s15
  replace s16 := ku s16
  replace hz := zz
  clear kk zz
  refine wpList_nil ?_
  go_upto_region 4 with fail
  cases e3 : decide ((j : Int) < 10)
  · refine wp_cond_false ((ev s17 rfl).trans (congrArg Value.bool e3)) ?_
    have hjl : j = 10 := by have := of_decide_eq_false e3; omega
    have HJ := hide hjl
    clear e3 hjl
    go_wp2
    go_end0
    have hI := HI.out
    rw [HJ.out] at hI
    exact ⟨rfl, by simpa [mbBy, List.append_assoc] using hI.1, (hBw.mono hBl).trans hI.2.1, (Wi.TKp.of_below hBw).trans hI.2.2⟩
  refine wp_cond_true ((ev s17 rfl).trans (congrArg Value.bool e3)) ?_
  have hlt : j < 10 := by have := of_decide_eq_true e3; omega
  clear s17 e3
  go_upto_region 4 with fail
  refine wp_region_lit ?_
  refine vt _ (ex_move rfl (ev s16 rfl)) hz (fun Ym zz kk s18 => ?_)
  replace s0 := ku s0
  replace s3 := ku s3
  replace s15 := ku s15
  replace s16 := ku s16
  replace hz := zz
  clear kk zz
  refine vt (.int .u8 (tabA k j : Int)) (ex_index rfl (ev s15 rfl) (ev s16 rfl) (rowIx k j hlt _)) hz (fun Yn zz kk s19 => ?_)
  replace s0 := ku s0
  replace s3 := ku s3
  replace s15 := ku s15
  replace s16 := ku s16
  replace s18 := ku s18
  replace hz := zz
  clear kk zz Ym
  refine vt _ (ex_assign rfl (ev s18 rfl)) hz (fun Yo zz kk s4 => ?_)
  replace s0 := ku s0
  replace s3 := ku s3
  replace s15 := ku s15
  replace s16 := ku s16
  replace s19 := ku s19
  replace hz := zz
  clear kk zz s18 Yn
  refine vt _ (ex_assign rfl (ev s19 rfl)) hz (fun Yp zz kk s5 => ?_)
  replace s0 := ku s0
  replace s3 := ku s3
  replace s4 := ku s4
  replace s15 := ku s15
  replace s16 := ku s16
  replace hz := zz
  clear kk zz s19 Yo
  refine wpList_nil ?_
  go_upto_region 5 with fail
  refine wp_region_lit ?_
  refine vt _ (ex_move rfl (ev s5 rfl)) hz (fun Yq zz kk s20 => ?_)
  replace s0 := ku s0
  replace s3 := ku s3
  replace s4 := ku s4
  replace s5 := ku s5
  replace s15 := ku s15
  replace s16 := ku s16
  replace hz := zz
  clear kk zz
  refine vt (.bool (!decide ((tabA k j : Int) = 0))) (ex_bin rfl (ev s20 rfl) rfl (neqU8 _ _ _ _ _)) hz (fun Yr zz kk s21 => ?_)
  replace s0 := ku s0
  replace s3 := ku s3
  replace s4 := ku s4
  replace s5 := ku s5
  replace s15 := ku s15
  replace s16 := ku s16
  replace hz := zz
  clear kk zz s20 Yq
  refine wpList_nil ?_
  go_upto_region 6 with fail
  cases e5 : !decide ((tabA k j : Int) = 0)
  · refine wp_cond_false ((ev s21 rfl).trans (congrArg Value.bool e5)) ?_
    clear s21
    go_upto_region 7 with fail
    refine wp_region_lit ?_
    refine vt (.int .i64 ((j + 1 : Nat) : Int)) (ex_bin rfl (ev s16 rfl) rfl (addJ j (by omega) _ _ _)) hz (fun Ys zz kk s27 => ?_)
    replace s0 := ku s0
    replace s3 := ku s3
    replace s15 := ku s15
    replace s16 := ku s16
    replace hz := zz
    clear kk zz s4 s5
    refine vt _ (ex_move rfl (ev s27 rfl)) hz (fun Yt zz kk s16x => ?_)
    replace s0 := ku s0
    replace s3 := ku s3
    replace s15 := ku s15
    clear kk hz s27 s16
    have hz := zz
    have s16 := s16x
    clear zz s16x Ys
    refine wpList_nil ?_
    exact ⟨_, rfl, by omega, hz, s0, s3, s15, s16, by rw [colsBy_none (by simpa using e5)]; exact HI.out.1, HI.out.2.1, HI.out.2.2⟩
  refine wp_cond_true ((ev s21 rfl).trans (congrArg Value.bool e5)) ?_
  clear s21
  go_upto_region 6 with fail
  refine wp_region_lit ?_
  refine vt _ (ex_move rfl (ev s0 rfl)) hz (fun Yu zz kk s22 => ?_)
  replace s0 := ku s0
  replace s3 := ku s3
  replace s4 := ku s4
  replace s5 := ku s5
  replace s15 := ku s15
  replace s16 := ku s16
  replace hz := zz
  clear kk zz
  refine vt (m.val (.slice a1 L.length cl) (.slice a2 D.length cv)) (ex_ld rfl (ev s3 rfl) ((HM.out wr HI.out.2.2).ldAll)) hz (fun Yv zz kk s23 => ?_)
  replace s0 := ku s0
  replace s3 := ku s3
  replace s4 := ku s4
  replace s5 := ku s5
  replace s15 := ku s15
  replace s16 := ku s16
  replace s22 := ku s22
  replace hz := zz
  clear kk zz Yu
  refine vt _ (ex_move rfl (ev s4 rfl)) hz (fun Yw zz kk s24 => ?_)
  replace s0 := ku s0
  replace s3 := ku s3
  replace s5 := ku s5
  replace s15 := ku s15
  replace s16 := ku s16
  replace s22 := ku s22
  replace s23 := ku s23
  replace hz := zz
  clear kk zz s4 Yv
  refine vt _ (ex_move rfl (ev s5 rfl)) hz (fun Yx zz kk s25 => ?_)
  replace s0 := ku s0
  replace s3 := ku s3
  replace s15 := ku s15
  replace s16 := ku s16
  replace s22 := ku s22
  replace s23 := ku s23
  replace s24 := ku s24
  replace hz := zz
  clear kk zz s5 Yw
  refine vcallP (want_none rfl) (ex_call rfl (by simp only [List.map_toArray, List.map_cons, List.map_nil, (ev s22 rfl), (ev s23 rfl), (ev s24 rfl), (ev s25 rfl), evc] <;> rfl) rfl) (wfield_all B b (l ++ M.form k ++ colsBy m L D k j) m a1 a2 cl cv L D j hlt (tabA k j : Int) w0 wr hB (h0.trans ((hBw.mono h0.size).trans (HI.out.2.1.mono hB0))) hB0 hL hD hm HI.out.1 (by have := HLEN.out j; omega)) rfl hz (by decide) ?_
  rintro e w7 ⟨rfl, hO7, hb7, ht7⟩
  refine ⟨_, rfl, fun Yy zz kk s26 => ?_⟩
  replace s0 := ku s0
  replace s3 := ku s3
  replace s15 := ku s15
  replace s16 := ku s16
  replace hz := zz
  clear kk zz s22 s23 s24 s25 Yx
  refine wpList_nil ?_
  go_upto_region 7 with fail
  refine wp_region_lit ?_
  refine vt (.int .i64 ((j + 1 : Nat) : Int)) (ex_bin rfl (ev s16 rfl) rfl (addJ j (by omega) _ _ _)) hz (fun Ys zz kk s27 => ?_)
  replace s0 := ku s0
  replace s3 := ku s3
  replace s15 := ku s15
  replace s16 := ku s16
  replace hz := zz
  clear kk zz s26
  refine vt _ (ex_move rfl (ev s27 rfl)) hz (fun Yt zz kk s16x => ?_)
  replace s0 := ku s0
  replace s3 := ku s3
  replace s15 := ku s15
  clear kk hz s27 s16
  have hz := zz
  have s16 := s16x
  clear zz s16x Ys
  refine wpList_nil ?_
  exact ⟨_, rfl, by omega, hz, s0, s3, s15, s16, by rw [colsBy_some (by simpa using e5)]; simpa only [List.append_assoc] using hO7, HI.out.2.1.trans hb7, HI.out.2.2.trans ht7⟩
end Go.Proofs.YtibedokegignhaaGreatDoor
namespace Go.Proofs.YtibedokegignhaaGreatDoor.Wi
open Go.RowKit
theorem bytes_any (b : Nat) (l : List Int) (w : World) (h : WOk w b l) (hl : l.length ≤ 140737488355328) :
    Calls Tryz.prog 45 #[.pointer (some ⟨b, 0, none⟩)] w fun e w' => ∃ v, e = .returned (.tuple #[v, .int .i64 0]) ∧ Own w.heap.size w' v l ∧ Below w.heap.size w w' := by
  rcases h with ⟨rfl, h⟩ | ⟨q, g, n, c, h⟩
  · refine (bytes_new b w h).mono ?_
    rintro e w' ⟨rfl, rfl⟩
    exact ⟨_, rfl, Own.nil _ _, Below.refl _ _⟩
  · exact bytes_has b q g n c l w h hl
structure Pt where
  K : Int
  V : Int
  N : Int
  m : Int
  s : ByteArray
theorem take_snoc (P : List Pt) (k : Nat) (h : k < P.length) : P.take (k + 1) = P.take k ++ [P[k]] := by rw [List.take_add_one, List.getElem?_eq_getElem h]; rfl
def tnErr : List Int → Int
  | [] => 10
  | k :: d => if 8 < k then 12 else if (d.length : Int) < k then 10 else if 0 < k ∧ d.getD 0 0 = 0 then 12 else 0
def tnVal (l : List Int) : Nat := if tnErr l = 0 then M.rb ((l.drop 1).take (l.getD 0 0).toNat) else 0
def tnSize (l : List Int) : Nat := if tnErr l = 0 then 1 + (l.getD 0 0).toNat else 0
theorem tn_bad {l : List Int} (h : tnErr l ≠ 0) : tnVal l = 0 ∧ tnSize l = 0 := by unfold tnVal tnSize; rw [if_neg h, if_neg h]; exact ⟨rfl, rfl⟩
theorem ret3 {a b c : Int} {a' b' c' : Int} (h1 : a = a') (h2 : b = b') (h3 : c = c') : Ending.returned (.tuple #[.int .u64 a, .int .i64 b, .int .i64 c]) = .returned (.tuple #[.int .u64 a', .int .i64 b', .int .i64 c']) := by rw [h1, h2, h3]
def TnPost (l : List Int) (w : World) (e : Ending) (w' : World) : Prop := e = .returned (.tuple #[.int .u64 (tnVal l), .int .i64 (tnSize l), .int .i64 (tnErr l)]) ∧ ∃ k, w' = w.drewN k
theorem TnPost.mk_bad {l : List Int} {w : World} {E : Int} (k : Nat) (h : tnErr l = E) (hE : E ≠ 0) : TnPost l w (.returned (.tuple #[.int .u64 0, .int .i64 0, .int .i64 E])) (w.drewN k) := by
  obtain ⟨h1, h2⟩ := tn_bad (l := l) (by rw [h]; exact hE)
  exact ⟨ret3 (by rw [h1]; rfl) (by rw [h2]; rfl) h.symm, k, rfl⟩
theorem tn_none (a : Option Addr) (c : Nat) (w : World) :
    Calls Tryz.prog 153 #[.slice a 0 c] w fun e w' => TnPost [] w e w' := by
  go_enter Tryz.func153, Tryz.ntmps153
  go_wp2
  go_ret3
  exact TnPost.mk_bad 0 rfl (by decide)
theorem rb_step64 (v : Nat) (z : Int) (hv : v < 72057594037927936) (h0 : 0 ≤ z) (h1 : z < 256) : bits .or .u64 ((v : Int) * 256 % 18446744073709551616) (z % 18446744073709551616) = ((v * 256 + z.toNat : Nat) : Int) := by
  obtain ⟨n, rfl⟩ := Int.eq_ofNat_of_zero_le h0
  have e1 : ((v : Int) * 256 % 18446744073709551616) = ((v * 2 ^ 8 : Nat) : Int) := by omega
  have e2 : ((n : Int) % 18446744073709551616) = (n : Int) := by omega
  rw [e1, e2, u64_or_nat _ _ (by omega) (by omega), M.or_low v n 8 (by omega)]
  simp
theorem tnErr_form {k : Int} {d : List Int} (h : 8 < k) : tnErr (k :: d) = 12 := by simp only [tnErr]; rw [if_pos h]
theorem tnErr_short {k : Int} {d : List Int} (h : ¬ 8 < k) (h2 : (d.length : Int) < k) : tnErr (k :: d) = 10 := by simp only [tnErr]; rw [if_neg h, if_pos h2]
theorem tnErr_zero {k : Int} {d : List Int} (h : ¬ 8 < k) (h2 : ¬ (d.length : Int) < k) (h3 : 0 < k) (h4 : d.getD 0 0 = 0) : tnErr (k :: d) = 12 := by simp only [tnErr]; rw [if_neg h, if_neg h2, if_pos ⟨h3, h4⟩]
theorem tnErr_ok {k : Int} {d : List Int} (h : ¬ 8 < k) (h2 : ¬ (d.length : Int) < k) (h3 : ¬ (0 < k ∧ d.getD 0 0 = 0)) : tnErr (k :: d) = 0 := by simp only [tnErr]; rw [if_neg h, if_neg h2, if_neg h3]
theorem TnPost.mk_ok {k : Int} {d : List Int} {w : World} (j : Nat) (h : tnErr (k :: d) = 0) {v s : Int} (hv : v = (M.rb (d.take k.toNat) : Nat)) (hs : s = ((1 + k.toNat : Nat) : Int)) : TnPost (k :: d) w (.returned (.tuple #[.int .u64 v, .int .i64 s, .int .i64 0])) (w.drewN j) := by
  refine ⟨ret3 ?_ ?_ h.symm, j, rfl⟩
  · unfold tnVal; rw [if_pos h, hv]; rfl
  · unfold tnSize; rw [if_pos h, hs]; rfl
set_option maxHeartbeats 400000 in
theorem tn_one (b o : Nat) (k : Int) (w : World) (hk0 : 0 ≤ k) (hk1 : k < 256) (h0 : w.cell? ⟨b, o, none⟩ = some (.int .u8 k)) :
    Calls Tryz.prog 153 #[.slice (some ⟨b, o, none⟩) 1 1] w fun e w' => TnPost [k] w e w' := by
  by_cases h8 : 8 < k
  · have H := hide (tnErr_form (d := []) h8)
    go_enter Tryz.func153, Tryz.ntmps153
    go_wp2
    go_quiet (fail)
    go_wp2
    go_ret3
    exact TnPost.mk_bad nq H.out (by decide)
  · by_cases hp : 0 < k
    · have H := hide (tnErr_short (d := []) h8 (by simpa using hp))
      go_enter Tryz.func153, Tryz.ntmps153
      go_wp2
      go_quiet (fail)
      go_wp2
      go_ret3
      exact TnPost.mk_bad nq H.out (by decide)
    · obtain rfl : k = 0 := by omega
      have H := hide (tnErr_ok (k := 0) (d := []) h8 (by simp) (by simp))
      go_enter Tryz.func153, Tryz.ntmps153
      go_wp2
      go_quiet (fail)
      go_wp2
      go_loop [7, 8, 36] (fun v _ i => v = .int .u64 0 ∧ i = .int .i64 0) (fun _ _ _ => 0)
      case atStart => exact ⟨rfl, rfl⟩
      case round =>
        obtain ⟨rfl, rfl⟩ := hrel
        go_wp2
        go_ret3
        exact TnPost.mk_ok nq H.out rfl rfl
set_option maxHeartbeats 1000000 in
theorem tn_more (b o n c : Nat) (k : Int) (d : List Int) (w : World) (hn : d.length = n) (hc : n + 1 ≤ c) (hc2 : 2 ≤ c) (hmx : c ≤ maxLen) (hr : Row w ⟨b, o, none⟩ (k :: d)) (hb : ∀ z ∈ k :: d, 0 ≤ z ∧ z < 256) :
    Calls Tryz.prog 153 #[.slice (some ⟨b, o, none⟩) (n + 1) c] w fun e w' => TnPost (k :: d) w e w' := by
  obtain ⟨hk0, hk1⟩ := hb k (by simp)
  unfold maxLen at hmx
  have h0 : w.cell? ⟨b, o, none⟩ = some (.int .u8 k) := hr 0 (by simp)
  have hd : ∀ i, i < n → w.cell? ⟨b, o + 1 + i, none⟩ = some (.int .u8 (d.getD i 0)) := by
    intro i hi
    have := hr (i + 1) (by simp; omega)
    rw [Addr.add_lit] at this
    rw [show o + 1 + i = o + (i + 1) from by omega, this]
    rfl
  have hnc : (n : Int) + 1 ≤ (c : Int) := by omega
  by_cases h8 : 8 < k
  · have H := hide (tnErr_form (d := d) h8)
    clear hr hd hb hn
    go_enter Tryz.func153, Tryz.ntmps153
    go_wp2
    go_quiet (fail)
    go_wp2
    go_ret3
    exact TnPost.mk_bad nq H.out (by decide)
  · by_cases hs : (n : Int) < k
    · have H := hide (tnErr_short (d := d) h8 (by rw [hn]; exact hs))
      clear hr hd hb hn
      go_enter Tryz.func153, Tryz.ntmps153
      go_wp2
      go_quiet (fail)
      go_wp2
      go_ret3
      exact TnPost.mk_bad nq H.out (by decide)
    · by_cases hz : 0 < k ∧ d.getD 0 0 = 0
      · have H := hide (tnErr_zero h8 (by rw [hn]; exact hs) hz.1 hz.2)
        have hd0 := hd 0 (by omega)
        rw [hz.2, Nat.add_zero] at hd0
        obtain ⟨hz1, _⟩ := hz
        clear hr hd hb hn
        go_enter Tryz.func153, Tryz.ntmps153
        go_wp2
        go_quiet (fail)
        go_wp2
        go_ret3
        exact TnPost.mk_bad nq H.out (by decide)
      · have H := hide (tnErr_ok h8 (by rw [hn]; exact hs) hz)
        obtain ⟨K, rfl⟩ := Int.eq_ofNat_of_zero_le hk0
        have hbd : ∀ z ∈ d, 0 ≤ z ∧ z < 256 := fun z hz => hb z (by simp [hz])
        have hKn : K ≤ n := by omega
        have hlen := hide hn
        by_cases hp : 0 < K
        · have hd0 := hd 0 (by omega)
          rw [Nat.add_zero] at hd0
          have hzb : (d[0]?.getD 0 == 0) = false := by
            rw [beq_eq_false_iff_ne]
            intro h
            exact hz ⟨by omega, h⟩
          have HD := hide hd
          clear hr hb hn hz hd
          go_enter Tryz.func153, Tryz.ntmps153
          go_wp2
          go_quiet (fail)
          go_wp2
          go_loop [7, 8, 36] (fun v _ i => ∃ j : Nat, j ≤ K ∧ i = .int .i64 j ∧ v = .int .u64 (M.rb (d.take j) : Nat)) (fun _ _ i => K - (intOf i).toNat)
          case atStart => exact ⟨0, Nat.zero_le _, rfl, rfl⟩
          case round =>
            obtain ⟨j, hj, rfl, rfl⟩ := hrel
            by_cases hlt : j < K
            · have hcell := HD.out j (by omega)
              have hdl : j < d.length := by rw [hlen.out]; omega
              have hz : 0 ≤ d.getD j 0 ∧ d.getD j 0 < 256 := hbd _ (by simp [List.getD, hdl])
              have hv : M.rb (d.take j) < 256 ^ 7 := Nat.lt_of_lt_of_le (M.rb_lt (d.take j) (fun z hz => hbd z (List.mem_of_mem_take hz))) (Nat.pow_le_pow_right (by omega) (by simp; omega))
              have HV := hide (rb_step64 (M.rb (d.take j)) (d.getD j 0) (by omega) hz.1 hz.2)
              have HT := hide (M.rb_take d j hdl)
              clear hv hz hdl
              go_wp2
              go_round
              case rel => exact ⟨j + 1, by omega, by go_num, int_eq (by rw [HT.out]; exact HV.out)⟩
              case measure => simp [intOf]; omega
            · obtain rfl : j = K := by omega
              go_wp2
              go_ret3
              exact TnPost.mk_ok nq H.out rfl (by simp)
        · obtain rfl : K = 0 := by omega
          clear hr hb hn hz hd
          go_enter Tryz.func153, Tryz.ntmps153
          go_wp2
          go_quiet (fail)
          go_wp2
          go_loop [7, 8, 36] (fun v _ i => v = .int .u64 0 ∧ i = .int .i64 0) (fun _ _ _ => 0)
          case atStart => exact ⟨rfl, rfl⟩
          case round =>
            obtain ⟨rfl, rfl⟩ := hrel
            go_wp2
            go_ret3
            exact TnPost.mk_ok nq H.out rfl rfl
theorem tn_any (a : Option Addr) (n c : Nat) (l : List Int) (w : World) (h : Hs w a n c l) (hm : c ≤ maxLen) :
    Calls Tryz.prog 153 #[.slice a n c] w fun e w' => TnPost l w e w' := by
  cases l with
  | nil =>
    obtain rfl : n = 0 := h.len.symm
    exact tn_none a c w
  | cons k d =>
    have hn : n = d.length + 1 := h.len.symm
    subst hn
    cases a with
    | none => cases (h.nil rfl).1
    | some x =>
      obtain ⟨b, o, rfl⟩ := h.flat (by omega)
      have hr := h.row _ rfl
      have hcap := h.cap
      by_cases hc : 2 ≤ c
      · exact tn_more b o d.length c k d w rfl hcap hc hm hr h.byte
      · obtain rfl : c = 1 := by omega
        obtain rfl : d = [] := List.eq_nil_of_length_eq_zero (by omega)
        obtain ⟨h1, h2⟩ := h.byte k (by simp)
        exact tn_one b o k w h1 h2 (hr 0 (by simp))
structure RSt (w : World) (b : Nat) (a : Option Addr) (n c : Nat) (l : List Int) (p : Nat) (err : Int) : Prop where
  lt : b < w.heap.size
  c0 : w.cell? ⟨b, 0, none⟩ = some (.bool true)
  c1 : w.cell? ⟨b, 1, none⟩ = some (.slice a n c)
  c2 : w.cell? ⟨b, 2, none⟩ = some (.int .i64 p)
  c3 : w.cell? ⟨b, 3, none⟩ = some (.int .i64 err)
  f2 : w.frozen? ⟨b, 2, none⟩ = false
  f3 : w.frozen? ⟨b, 3, none⟩ = false
  hs : Hs w a n c l
  cmax : c ≤ maxLen
  ne : ∀ x, a = some x → ∃ g, x = ⟨g, 0, none⟩ ∧ g ≠ b
  le : p ≤ n
theorem Row.far {w : World} {g : Nat} {l : List Int} (h : Row w ⟨g, 0, none⟩ l) {p : Addr} (hp : p.block ≠ g) (u : Value) : Row (w.setCell p u) ⟨g, 0, none⟩ l := by
  intro i hi
  have h1 := h i hi
  rw [Addr.add_lit] at h1 ⊢
  rw [World.cell?_of_block (w := w) (Below.heap_setCell w p u g (fun e => hp e.symm))]
  exact h1
theorem Hs.far {w : World} {a : Option Addr} {n c : Nat} {l : List Int} (h : Hs w a n c l) {b : Nat} (hne : ∀ x, a = some x → ∃ g, x = ⟨g, 0, none⟩ ∧ g ≠ b) (k : Nat) (u : Value) : Hs (w.setCell ⟨b, k, none⟩ u) a n c l := by
  refine ⟨h.len, h.cap, fun x hx => ?_, h.nil, h.byte⟩
  obtain ⟨g, rfl, hg⟩ := hne x hx
  exact (h.row _ hx).far (by show b ≠ g; exact fun e => hg e.symm) u
theorem Hs.rest {w : World} {g n c : Nat} {l : List Int} (h : Hs w (some ⟨g, 0, none⟩) n c l) (p : Nat) (hp : p ≤ n) : Hs w (some ⟨g, p, none⟩) (n - p) (c - p) (l.drop p) := by
  refine ⟨by rw [List.length_drop, h.len], by have := h.cap; omega, fun x hx => ?_, fun hx => by (cases hx), fun z hz => h.byte z (List.mem_of_mem_drop hz)⟩
  cases hx
  have := (h.row _ rfl).drop p
  rwa [Nat.zero_add] at this
theorem Hs.rest_end {w : World} {g n c : Nat} {l : List Int} (h : Hs w (some ⟨g, 0, none⟩) n c l) (hp : n = c) : Hs w (some ⟨g, 0, none⟩) 0 0 (l.drop c) := by
  have hl : l.drop c = [] := List.drop_eq_nil_of_le (by rw [h.len]; omega)
  rw [hl]
  exact ⟨rfl, Nat.le_refl _, fun x hx i hi => by (simp at hi), fun hx => by (cases hx), fun z hz => by (cases hz)⟩
theorem tn_quiet (a : Option Addr) (n c : Nat) (l : List Int) (w : World) (k : Nat) (h : Hs w a n c l) (hm : c ≤ maxLen) :
    Calls Tryz.prog 153 #[.slice a n c] (w.drewN k) fun e w' => e = .returned (.tuple #[.int .u64 (tnVal l), .int .i64 (tnSize l), .int .i64 (tnErr l)]) ∧ ∃ m, w' = w.drewN m := by
  refine (tn_any a n c l (w.drewN k) (h.later (below_drewN (Below.refl _ _) k)) hm).mono ?_
  rintro e w' ⟨rfl, j, rfl⟩
  exact ⟨rfl, _, World.drewN_drewN _ _ _⟩
theorem tnSize_le (l : List Int) (h : ∀ z ∈ l, 0 ≤ z ∧ z < 256) : tnSize l ≤ l.length ∧ tnSize l ≤ 9 := by
  cases l with
  | nil => exact ⟨by simp [tnSize, tnErr], by simp [tnSize, tnErr]⟩
  | cons k d =>
    by_cases he : tnErr (k :: d) = 0
    · have hk := h k (by simp)
      have : tnSize (k :: d) = 1 + k.toNat := by unfold tnSize; rw [if_pos he]; rfl
      simp only [tnErr] at he
      split at he
      · cases he
      · split at he
        · cases he
        · rename_i h1 h2
          rw [this]
          simp only [List.length_cons]
          omega
    · rw [(tn_bad he).2]
      exact ⟨Nat.zero_le _, Nat.zero_le _⟩
theorem step_any (b : Nat) (p S : Nat) (E v3 : Int) (w : World) (c2 : w.cell? ⟨b, 2, none⟩ = some (.int .i64 p)) (c3 : w.cell? ⟨b, 3, none⟩ = some (.int .i64 v3)) (f2 : w.frozen? ⟨b, 2, none⟩ = false) (f3 : w.frozen? ⟨b, 3, none⟩ = false) (hb : p + S ≤ 9223372036854775807) :
    Calls Tryz.prog 152 #[.pointer (some ⟨b, 0, none⟩), .int .i64 S, .int .i64 E] w fun e w' => e = .returned (.tuple #[]) ∧ w' = (w.setCell ⟨b, 2, none⟩ (.int .i64 ((p + S : Nat) : Int))).setCell ⟨b, 3, none⟩ (.int .i64 E) := by
  have hb1 : (p : Int) + (S : Int) ≤ 9223372036854775807 := by omega
  go_enter Tryz.func152, Tryz.ntmps152
  go_wp2
  go_end0
  exact ⟨rfl, rfl⟩
set_option maxHeartbeats 400000 in
theorem number_core (b : Nat) (a a' : Option Addr) (n c : Nat) (l : List Int) (p : Nat) (w : World) (h : RSt w b a n c l p 0) (n' c' : Nat) (h' : Hs w a' n' c' (l.drop p)) (ha : (∃ g, a = some ⟨g, 0, none⟩ ∧ p < c ∧ a' = some ⟨g, p, none⟩ ∧ n' = n - p ∧ c' = c - p) ∨ (∃ g, a = some ⟨g, 0, none⟩ ∧ n = p ∧ c = p ∧ a' = some ⟨g, 0, none⟩ ∧ n' = 0 ∧ c' = 0) ∨ (a = none ∧ n = 0 ∧ c = 0 ∧ p = 0 ∧ a' = none ∧ n' = 0 ∧ c' = 0)) :
    Calls Tryz.prog 144 #[.pointer (some ⟨b, 0, none⟩)] w fun e w' => e = .returned (.int .u64 (tnVal (l.drop p))) ∧ ∃ k, w' = ((w.setCell ⟨b, 2, none⟩ (.int .i64 ((p + tnSize (l.drop p) : Nat) : Int))).setCell ⟨b, 3, none⟩ (.int .i64 (tnErr (l.drop p)))).drewN k := by
  obtain ⟨hlt, c0, c1, c2, c3, f2, f3, hs, cmax, ne, hle⟩ := h
  have hcap := hs.cap
  have hc' : c' ≤ maxLen := by
    rcases ha with ⟨g, _, _, _, _, hc⟩ | ⟨g, _, _, _, _, _, hc⟩ | ⟨_, _, _, _, _, _, hc⟩ <;> omega
  have HQ := fun k => hide (tn_quiet a' n' c' (l.drop p) w k h' hc')
  have hsz := tnSize_le (l.drop p) h'.byte
  have hln : (l.drop p).length = n - p := by rw [List.length_drop, hs.len]
  unfold maxLen at cmax
  clear hs ne h'
  generalize tnVal (l.drop p) = V at *
  generalize tnSize (l.drop p) = S at *
  generalize tnErr (l.drop p) = E at *
  have hS : S ≤ 9 := hsz.2
  have hb1 : p + S ≤ 9223372036854775807 := by omega
  clear hsz hln hc'
  have HS := fun k => hide (step_any b p S E 0 (w.drewN k) c2 c3 f2 f3 hb1)
  rcases ha with ⟨g, rfl, hpc, rfl, rfl, rfl⟩ | ⟨g, rfl, rfl, rfl, rfl, rfl, rfl⟩ | ⟨rfl, rfl, rfl, rfl, rfl, rfl, rfl⟩
  all_goals
    go_enter Tryz.func144, Tryz.ntmps144
    go_wp2_with (go_at_call 150; go_in)
    go_quiet ((go_at_call 153; exact (HQ _).out))
    go_wp2_with fail
    refine (HS _).out.mono ?_
    rintro e w' ⟨rfl, rfl⟩
    clear HS HQ
    go_wp2
    go_ret
    first | exact ⟨rfl, _, rfl⟩ | exact ⟨rfl, nq, by rw [Nat.zero_add]; rfl⟩
theorem RSt.stepped {w : World} {b : Nat} {a : Option Addr} {n c : Nat} {l : List Int} {p : Nat} {e : Int} (h : RSt w b a n c l p e) (p' : Nat) (e' : Int) (k : Nat) (hp : p' ≤ n) :
    RSt (((w.setCell ⟨b, 2, none⟩ (.int .i64 (p' : Int))).setCell ⟨b, 3, none⟩ (.int .i64 e')).drewN k) b a n c l p' e' := by
  obtain ⟨hlt, c0, c1, c2, c3, f2, f3, hs, cmax, ne, hle⟩ := h
  refine ⟨?_, ?_, ?_, ?_, ?_, ?_, ?_, ((hs.far ne 2 _).far ne 3 _).later (below_drewN (Below.refl _ _) k), cmax, ne, hp⟩
  all_goals go_simp
theorem rd_number_err (b : Nat) (a : Option Addr) (n c : Nat) (l : List Int) (p : Nat) (E : Int) (w : World) (h : RSt w b a n c l p E) (hE : E ≠ 0) :
    Calls Tryz.prog 144 #[.pointer (some ⟨b, 0, none⟩)] w fun e w' => e = .returned (.int .u64 0) ∧ w' = w := by
  obtain ⟨hlt, c0, c1, c2, c3, f2, f3, hs, cmax, ne, hle⟩ := h
  have hb : (E == 0) = false := by simp [hE]
  clear hs ne
  go_enter Tryz.func144, Tryz.ntmps144
  go_wp2
  go_ret
  exact ⟨rfl, rfl⟩
theorem rd_at (b : Nat) (a : Option Addr) (n c : Nat) (l : List Int) (p : Nat) (E : Int) (w : World) (h : RSt w b a n c l p E) :
    Calls Tryz.prog 99 #[.pointer (some ⟨b, 0, none⟩)] w fun e w' => e = .returned (.int .i64 p) ∧ w' = w := by
  obtain ⟨hlt, c0, c1, c2, c3, f2, f3, hs, cmax, ne, hle⟩ := h
  clear hs ne
  go_enter Tryz.func99, Tryz.ntmps99
  go_wp2
  go_ret
  exact ⟨rfl, rfl⟩
theorem rd_left (b : Nat) (a : Option Addr) (n c : Nat) (l : List Int) (p : Nat) (E : Int) (w : World) (h : RSt w b a n c l p E) :
    Calls Tryz.prog 128 #[.pointer (some ⟨b, 0, none⟩)] w fun e w' => e = .returned (.int .i64 ((n - p : Nat) : Int)) ∧ ∃ k, w' = w.drewN k := by
  obtain ⟨hlt, c0, c1, c2, c3, f2, f3, hs, cmax, ne, hle⟩ := h
  have hcap := hs.cap
  unfold maxLen at cmax
  clear hs ne
  go_enter Tryz.func128, Tryz.ntmps128
  go_wp2
  go_quiet (fail)
  go_wp2
  go_ret
  exact ⟨ret_int (by omega), _, rfl⟩
def endErr (n p : Nat) (E : Int) : Int := if E = 0 then if p < n then 15 else 0 else E
theorem rd_end (b : Nat) (a : Option Addr) (n c : Nat) (l : List Int) (p : Nat) (E : Int) (w : World) (h : RSt w b a n c l p E) :
    Calls Tryz.prog 100 #[.pointer (some ⟨b, 0, none⟩)] w fun e w' => e = .returned (.int .i64 (endErr n p E)) ∧ ∃ k, w' = w.drewN k := by
  have HL := hide (rd_left b a n c l p E w h)
  obtain ⟨hlt, c0, c1, c2, c3, f2, f3, hs, cmax, ne, hle⟩ := h
  clear hs ne
  by_cases hE : E = 0
  · subst hE
    by_cases hp : p < n
    · have H : Hid (endErr n p 0 = 15) := by unfold endErr; rw [if_pos rfl, if_pos hp]; rfl
      go_enter Tryz.func100, Tryz.ntmps100
      go_wp2_with fail
      refine HL.out.mono ?_
      rintro e w' ⟨rfl, k, rfl⟩
      have hd : decide (0 < n - p) = true := by simp; omega
      go_wp2
      go_ret
      exact ⟨ret_int H.out.symm, _, rfl⟩
    · have H : Hid (endErr n p 0 = 0) := by unfold endErr; rw [if_pos rfl, if_neg hp]; rfl
      go_enter Tryz.func100, Tryz.ntmps100
      go_wp2_with fail
      refine HL.out.mono ?_
      rintro e w' ⟨rfl, k, rfl⟩
      have hd : decide (0 < n - p) = false := by simp; omega
      go_wp2
      go_ret
      exact ⟨ret_int H.out.symm, _, rfl⟩
  · have H : Hid (endErr n p E = E) := by unfold endErr; rw [if_neg hE]; rfl
    have hb : (E != 0) = true := by simp [hE]
    clear HL
    go_enter Tryz.func100, Tryz.ntmps100
    go_wp2
    go_ret
    exact ⟨ret_int H.out.symm, 0, rfl⟩
theorem clone_none (w : World) : Calls Tryz.prog 92 #[.slice none 0 0] w fun e w' => e = .returned (.slice none 0 0) ∧ w' = w := by
  have kn := fun (w : World) => Lib.run_eql_slice_nil (P := Tryz.prog) w 55 5 none 0 0 0 0 Tryz.underlying55
  go_enter Tryz.func92, Tryz.ntmps92
  go_wp2
  go_ret
  exact ⟨rfl, rfl⟩
theorem clone_hs (a : Option Addr) (n c : Nat) (l : List Int) (w : World) (h : Hs w a n c l) (hm : n ≤ 140737488355328) :
    Calls Tryz.prog 92 #[.slice a n c] w fun e w' => ∃ v', e = .returned v' ∧ Own w.heap.size w' v' l ∧ (a ≠ none → v' ≠ .slice none 0 0) ∧ Below w.heap.size w w' := by
  cases a with
  | none =>
    obtain ⟨rfl, rfl⟩ := h.nil rfl
    obtain rfl : 0 = n := h.len
    refine (clone_none w).mono ?_
    rintro e w' ⟨rfl, rfl⟩
    exact ⟨_, rfl, Own.nil _ _, fun h => absurd rfl h, Below.refl _ _⟩
  | some x =>
    refine (clone_any x n c l w (Nat.le_of_eq h.len.symm) hm (h.row x rfl)).mono ?_
    rintro e w' ⟨v', rfl, h1, h2, h3⟩
    rw [List.take_of_length_le (Nat.le_of_eq h.len)] at h1
    exact ⟨v', rfl, h1, fun _ => h2, h3⟩
theorem Own.place {B : Nat} {w : World} {v : Value} {l : List Int} (h : Own B w v l) (hb : ∀ z ∈ l, 0 ≤ z ∧ z < 256) : ∃ a n c, v = .slice a n c ∧ Hs w a n c l ∧ c ≤ maxLen ∧ ∀ x, a = some x → ∃ g, x = ⟨g, 0, none⟩ ∧ B ≤ g ∧ g < w.heap.size := by
  have hl := World.ownsRow.lt h
  obtain ⟨a, n, c, rfl, h2, _⟩ := h.hs hb
  refine ⟨a, n, c, rfl, h2, ?_, ?_⟩
  · rcases h.2 with ⟨h1, _⟩ | ⟨g, c, _, h1, _, _, _, h3, _⟩
    · cases h1; unfold maxLen; omega
    · cases h1; exact h3
  · intro x hx
    subst hx
    rcases h.2 with ⟨h1, _⟩ | ⟨g, c, _, h1, h3, _⟩
    · cases h1
    · cases h1
      exact ⟨g, rfl, h3, (hl g rfl).2⟩
theorem newreader_any (a : Option Addr) (n c : Nat) (l : List Int) (w : World) (h : Hs w a n c l) (hm : n ≤ 140737488355328) :
    Calls Tryz.prog 97 #[.slice a n c] w fun e w' => ∃ b a' c', e = .returned (.pointer (some ⟨b, 0, none⟩)) ∧ RSt w' b a' n c' l 0 0 ∧ w.heap.size ≤ b ∧ Below w.heap.size w w' := by
  have hby := h.byte
  have hln := h.len
  go_enter Tryz.func97, Tryz.ntmps97
  go_wp2_with fail
  refine (clone_hs a n c l w h hm).mono ?_
  clear h
  rintro e w1 ⟨v, rfl, ho, _, hb⟩
  obtain ⟨a', n', c', rfl, h2, h3, h4⟩ := ho.place hby
  have hnn : n' = n := by rw [← h2.len, hln]
  subst hnn
  clear ho hln
  go_wp2
  go_ret
  refine ⟨w1.heap.size, a', c', rfl, ⟨by simp, ?_, ?_, ?_, ?_, ?_, ?_, h2.later ((Below.refl _ _).alloc (Nat.le_refl _) _), h3, ?_, Nat.zero_le _⟩, hb.size, hb.alloc hb.size _⟩
  all_goals first | (intro x hx; obtain ⟨g, h5, h6, h7⟩ := h4 x hx; exact ⟨g, h5, by omega⟩) | simp
theorem conv_hs (w : World) (a : Option Addr) (n c : Nat) (l : List Int) (h : Hs w a n c l) :
    (convert 55 9 (.slice a n c)).run Tryz.prog w = .ok (.string (strOfNums l)) w := by
  cases a with
  | none =>
    rw [run_convert_bytes_nil w 55 5 Tryz.underlying55 Tryz.underlying5 n c 9 Tryz.underlying9, (h.nil rfl).1]
    rfl
  | some x =>
    by_cases hn : 0 < n
    · obtain ⟨b, o, rfl⟩ := h.flat hn
      exact conv_row w b o n c l h.len (h.row _ rfl)
    · obtain rfl : n = 0 := by omega
      obtain rfl : l = [] := List.eq_nil_of_length_eq_zero h.len
      rw [run_convert_bytes_string w 55 9 5 _ 0 c Tryz.underlying55 Tryz.underlying5 Tryz.underlying9, run_bytesToString w x 0 c [] (run_loadCells_list (P := Tryz.prog) w x [] (fun j v hj => by simp at hj))]
      rfl
theorem nums_eq (l m : List Int) (hl : ∀ z ∈ l, 0 ≤ z ∧ z < 256) (hm : ∀ z ∈ m, 0 ≤ z ∧ z < 256) : ((strOfNums l).toList == (strOfNums m).toList) = decide (l = m) := by
  by_cases h : l = m
  · subst h; simp
  · rw [decide_eq_false h, beq_eq_false_iff_ne]
    intro he
    apply h
    rw [ByteArray.toList_eq, ByteArray.toList_eq] at he
    have h2 : sb (strOfNums l) = sb (strOfNums m) := by unfold sb; rw [he]
    rwa [sb_nums l hl, sb_nums m hm] at h2
set_option maxHeartbeats 400000 in
theorem same_any (a a' : Option Addr) (n c n' c' : Nat) (l m : List Int) (w : World) (h : Hs w a n c l) (h' : Hs w a' n' c' m) :
    Calls Tryz.prog 18 #[.slice a n c, .slice a' n' c'] w fun e w' => e = .returned (.bool (decide (l = m))) ∧ w' = w := by
  have k1 := conv_hs w a n c l h
  have k2 := conv_hs w a' n' c' m h'
  have H := hide (nums_eq l m h.byte h'.byte)
  clear h h'
  go_enter Tryz.func18, Tryz.ntmps18
  go_wp2
  go_ret
  refine ⟨?_, rfl⟩
  rw [← H.out]
  rfl
def tcErr (m : Int) (l : List Int) : Int := if m < 0 then 3 else if tnErr l ≠ 0 then tnErr l else if m < (tnVal l : Int) then 11 else 0
def tcVal (m : Int) (l : List Int) : Nat := if tcErr m l = 0 then tnVal l else 0
def tcSize (m : Int) (l : List Int) : Nat := if tcErr m l = 0 then tnSize l else 0
theorem tc_bad {m : Int} {l : List Int} (h : tcErr m l ≠ 0) : tcVal m l = 0 ∧ tcSize m l = 0 := by unfold tcVal tcSize; rw [if_neg h, if_neg h]; exact ⟨rfl, rfl⟩
theorem ret3i {a b c : Int} {a' b' c' : Int} (h1 : a = a') (h2 : b = b') (h3 : c = c') : Ending.returned (.tuple #[.int .i64 a, .int .i64 b, .int .i64 c]) = .returned (.tuple #[.int .i64 a', .int .i64 b', .int .i64 c']) := by rw [h1, h2, h3]
def TcPost (m : Int) (l : List Int) (w : World) (e : Ending) (w' : World) : Prop := e = .returned (.tuple #[.int .i64 (tcVal m l), .int .i64 (tcSize m l), .int .i64 (tcErr m l)]) ∧ ∃ k, w' = w.drewN k
theorem TcPost.mk_bad {m : Int} {l : List Int} {w : World} {E : Int} (k : Nat) (h : tcErr m l = E) (hE : E ≠ 0) : TcPost m l w (.returned (.tuple #[.int .i64 0, .int .i64 0, .int .i64 E])) (w.drewN k) := by
  obtain ⟨h1, h2⟩ := tc_bad (m := m) (l := l) (by rw [h]; exact hE)
  exact ⟨ret3i (by rw [h1]; rfl) (by rw [h2]; rfl) h.symm, k, rfl⟩
theorem tc_any (a : Option Addr) (n c : Nat) (l : List Int) (m : Int) (w : World) (h : Hs w a n c l) (hm : c ≤ maxLen) (q : m ≤ 9223372036854775807) :
    Calls Tryz.prog 151 #[.slice a n c, .int .i64 m] w fun e w' => TcPost m l w e w' := by
  by_cases hm0 : m < 0
  · have H : Hid (tcErr m l = 3) := by unfold tcErr; rw [if_pos hm0]; rfl
    go_enter Tryz.func151, Tryz.ntmps151
    go_wp2
    go_ret3
    exact TcPost.mk_bad 0 H.out (by decide)
  · obtain ⟨q0, rfl⟩ := Int.eq_ofNat_of_zero_le (Int.not_lt.1 hm0)
    have HT := hide (tn_any a n c l w h hm)
    clear h hm0
    by_cases hE : tnErr l = 0
    · by_cases hV : q0 < tnVal l
      · have H : Hid (tcErr q0 l = 11) := by unfold tcErr; rw [if_neg (by omega), if_neg (by simp [hE]), if_pos (by omega)]; rfl
        go_enter Tryz.func151, Tryz.ntmps151
        go_wp2_with fail
        refine HT.out.mono ?_
        rintro e w' ⟨rfl, k, rfl⟩
        rw [hE]
        clear HT hE
        generalize tnVal l = V at *
        generalize tnSize l = S at *
        go_wp2
        go_ret3
        exact TcPost.mk_bad k H.out (by decide)
      · have H : Hid (tcErr q0 l = 0) := by unfold tcErr; rw [if_neg (by omega), if_neg (by simp [hE]), if_neg (by omega)]; rfl
        have H1 : Hid (tcVal q0 l = tnVal l) := by unfold tcVal; rw [if_pos H.out]; rfl
        have H2 : Hid (tcSize q0 l = tnSize l) := by unfold tcSize; rw [if_pos H.out]; rfl
        go_enter Tryz.func151, Tryz.ntmps151
        go_wp2_with fail
        refine HT.out.mono ?_
        rintro e w' ⟨rfl, k, rfl⟩
        rw [hE]
        clear HT hE
        generalize tnVal l = V at *
        generalize tnSize l = S at *
        go_wp2
        go_ret3
        exact ⟨ret3i (by rw [H1.out]) (by rw [H2.out]) (by rw [H.out]), k, rfl⟩
    · have H : Hid (tcErr q0 l = tnErr l) := by unfold tcErr; rw [if_neg (by omega), if_pos hE]; rfl
      have hb : (tnErr l != 0) = true := by simp [hE]
      go_enter Tryz.func151, Tryz.ntmps151
      go_wp2_with fail
      refine HT.out.mono ?_
      rintro e w' ⟨rfl, k, rfl⟩
      clear HT
      generalize tnVal l = V at *
      generalize tnSize l = S at *
      generalize tnErr l = E at *
      go_wp2
      go_ret3
      exact TcPost.mk_bad k H.out hE
theorem Hs.cut {w : World} {a : Option Addr} {n c : Nat} {l : List Int} (h : Hs w a n c l) (k : Nat) (hk : k ≤ n) : Hs w a k c (l.take k) :=
  ⟨by rw [List.length_take, h.len]; omega, Nat.le_trans hk h.cap, fun x hx => (h.row x hx).take k, fun hx => by (have := h.nil hx; rw [this.1]; exact ⟨by simp, this.2⟩), fun z hz => h.byte z (List.mem_of_mem_take hz)⟩
theorem i64_wf {a : Int} (h : (Lit.int .i64 a).wf = true) : -9223372036854775808 ≤ a ∧ a ≤ 9223372036854775807 := by
  simp [Lit.wf, IntKind.min, IntKind.max, IntKind.bits, IntKind.signed] at h
  omega
def ttErr (m : Int) (l : List Int) : Int := if tcErr m l ≠ 0 then tcErr m l else if l.length < tcSize m l + tcVal m l then 10 else 0
def ttList (m : Int) (l : List Int) : List Int := if ttErr m l = 0 then (l.drop (tcSize m l)).take (tcVal m l) else []
def ttSize (m : Int) (l : List Int) : Nat := if ttErr m l = 0 then tcSize m l + tcVal m l else 0
theorem tt_bad {m : Int} {l : List Int} (h : ttErr m l ≠ 0) : ttList m l = [] ∧ ttSize m l = 0 := by unfold ttList ttSize; rw [if_neg h, if_neg h]; exact ⟨rfl, rfl⟩
theorem ret3s {a a' : ByteArray} {b c : Int} {b' c' : Int} (h1 : a = a') (h2 : b = b') (h3 : c = c') : Ending.returned (.tuple #[.string a, .int .i64 b, .int .i64 c]) = .returned (.tuple #[.string a', .int .i64 b', .int .i64 c']) := by rw [h1, h2, h3]
def TtPost (m : Int) (l : List Int) (w : World) (e : Ending) (w' : World) : Prop := e = .returned (.tuple #[.string (strOfNums (ttList m l)), .int .i64 (ttSize m l), .int .i64 (ttErr m l)]) ∧ ∃ k, w' = w.drewN k
theorem TtPost.mk_bad {m : Int} {l : List Int} {w : World} {E : Int} (k : Nat) (h : ttErr m l = E) (hE : E ≠ 0) : TtPost m l w (.returned (.tuple #[.string (strOfNums []), .int .i64 0, .int .i64 E])) (w.drewN k) := by
  obtain ⟨h1, h2⟩ := tt_bad (m := m) (l := l) (by rw [h]; exact hE)
  exact ⟨ret3s (by rw [h1]) (by rw [h2]; rfl) h.symm, k, rfl⟩
theorem Hs.rest' {w : World} {g o n c : Nat} {l : List Int} (h : Hs w (some ⟨g, o, none⟩) n c l) (p : Nat) (hp : p ≤ n) : Hs w (some ⟨g, o + p, none⟩) (n - p) (c - p) (l.drop p) := by
  refine ⟨by rw [List.length_drop, h.len], by have := h.cap; omega, fun x hx => ?_, fun hx => by (cases hx), fun z hz => h.byte z (List.mem_of_mem_drop hz)⟩
  cases hx
  exact (h.row _ rfl).drop p
theorem tcSize_le (m : Int) (l : List Int) (h : ∀ z ∈ l, 0 ≤ z ∧ z < 256) : tcSize m l ≤ l.length ∧ tcSize m l ≤ 9 := by
  have := tnSize_le l h
  unfold tcSize
  split <;> omega
theorem tcVal_le (m : Int) (l : List Int) (hm : m ≤ 9223372036854775807) : (tcVal m l : Int) ≤ 9223372036854775807 := by
  by_cases h : tcErr m l = 0
  · have h2 : tcVal m l = tnVal l := by unfold tcVal; rw [if_pos h]
    rw [h2]
    unfold tcErr at h
    split at h
    · cases h
    · split at h
      · rename_i h3; exact absurd h h3
      · split at h
        · cases h
        · omega
  · rw [(tc_bad h).1]; decide
set_option maxHeartbeats 400000 in
theorem tt_any (a : Option Addr) (n c : Nat) (l : List Int) (m : Int) (w : World) (h : Hs w a n c l) (hm : c ≤ maxLen) (q : m ≤ 9223372036854775807) :
    Calls Tryz.prog 154 #[.slice a n c, .int .i64 m] w fun e w' => TtPost m l w e w' := by
  have HT := hide (tc_any a n c l m w h hm q)
  have hln := h.len
  have hcap := h.cap
  have hsz := tcSize_le m l h.byte
  have hvl := tcVal_le m l q
  unfold maxLen at hm
  by_cases hE : tcErr m l = 0
  · by_cases hS : l.length < tcSize m l + tcVal m l
    · have H : Hid (ttErr m l = 10) := by unfold ttErr; rw [if_neg (by simp [hE]), if_pos hS]; rfl
      rw [hln] at hS hsz
      clear h
      go_enter Tryz.func154, Tryz.ntmps154
      go_wp2_with fail
      refine HT.out.mono ?_
      rintro e w' ⟨rfl, k, rfl⟩
      rw [hE]
      clear HT hE hln
      generalize tcVal m l = V at *
      generalize tcSize m l = S at *
      obtain ⟨hs1, hs2⟩ := hsz
      have hlt : (n : Int) - (S : Int) < (V : Int) := by omega
      go_wp2
      go_ret3
      exact TtPost.mk_bad k H.out (by decide)
    · have H : Hid (ttErr m l = 0) := by unfold ttErr; rw [if_neg (by simp [hE]), if_neg hS]; rfl
      have H1 : Hid (ttList m l = (l.drop (tcSize m l)).take (tcVal m l)) := by unfold ttList; rw [if_pos H.out]; rfl
      have H2 : Hid (ttSize m l = tcSize m l + tcVal m l) := by unfold ttSize; rw [if_pos H.out]; rfl
      have hne : 0 < n := by
        rw [← hln]
        refine List.length_pos_iff.2 ?_
        rintro rfl
        unfold tcErr at hE
        split at hE
        · cases hE
        · simp [tnErr] at hE
      cases a with
      | none => rw [(h.nil rfl).1] at hln; simp at hln; omega
      | some x =>
      obtain ⟨b, o, rfl⟩ := h.flat hne
      rw [hln] at hS hsz
      obtain ⟨hs1, hs2⟩ := hsz
      have hR := (h.rest' (tcSize m l) hs1).cut (tcVal m l) (by omega)
      rw [← H1.out] at hR
      by_cases hSc : tcSize m l < c
      · have kc := fun j => conv_hs (w.drewN j) _ _ _ _ (hR.later (below_drewN (Below.refl _ _) j))
        clear h hR hln hne
        go_enter Tryz.func154, Tryz.ntmps154
        go_wp2_with fail
        refine HT.out.mono ?_
        rintro e w' ⟨rfl, k, rfl⟩
        rw [hE]
        clear HT hE H1
        generalize tcVal m l = V at *
        generalize tcSize m l = S at *
        generalize hL : ttList m l = L at *
        have hge : ¬ ((n : Int) - (S : Int) < (V : Int)) := by omega
        go_wp2
        go_ret3
        exact ⟨ret3s (by rw [hL]) (by rw [H2.out]; omega) (by rw [H.out]), k, rfl⟩
      · have e1 : n = c := by omega
        have e2 : tcSize m l = c := by omega
        have e3 : tcVal m l = 0 := by omega
        have eL : ttList m l = [] := by rw [H1.out, e3]; rfl
        have hZ : Hs w (some ⟨b, o, none⟩) 0 0 [] := ⟨rfl, Nat.le_refl _, fun x hx i hi => by (simp at hi), fun hx => by (cases hx), fun z hz => by (cases hz)⟩
        have kc := fun j => conv_hs (w.drewN j) _ _ _ _ (hZ.later (below_drewN (Below.refl _ _) j))
        have hsz2 : ttSize m l = c := by rw [H2.out, e2, e3, Nat.add_zero]
        have HSZ := hide hsz2
        have HEL := hide eL
        clear h hR hln H1 H2 hS hSc hs1 hZ eL hsz2
        rw [e2] at hs2
        subst e1
        go_enter Tryz.func154, Tryz.ntmps154
        go_wp2_with fail
        refine HT.out.mono ?_
        rintro e w' ⟨rfl, k, rfl⟩
        rw [hE, e2, e3]
        clear HT hE e2 e3 hvl
        go_wp2
        go_ret3
        exact ⟨ret3s (by rw [HEL.out]) (by rw [HSZ.out]) (by rw [H.out]), k, rfl⟩
  · have H : Hid (ttErr m l = tcErr m l) := by unfold ttErr; rw [if_pos hE]; rfl
    have hb : (tcErr m l != 0) = true := by simp [hE]
    clear h
    go_enter Tryz.func154, Tryz.ntmps154
    go_wp2_with fail
    refine HT.out.mono ?_
    rintro e w' ⟨rfl, k, rfl⟩
    clear HT
    generalize tcVal m l = V at *
    generalize tcSize m l = S at *
    generalize tcErr m l = E at *
    go_wp2
    go_ret3
    exact TtPost.mk_bad k H.out hE
end Go.Proofs.YtibedokegignhaaGreatDoor.Wi
namespace Go.Proofs.YtibedokegignhaaGreatDoor.Wi
open Go.RowKit Go.ChangeShapes Go.WideShapes
theorem intCells : Tryz.prog.cellsOf 3 = 1 := by kernel_rfl
end Go.Proofs.YtibedokegignhaaGreatDoor.Wi
namespace Go.Proofs.YtibedokegignhaaGreatDoor.Wi
open Go.RowKit
end Go.Proofs.YtibedokegignhaaGreatDoor.Wi
namespace Go.Proofs.YtibedokegignhaaGreatDoor.Wi
open Go.RowKit
theorem Own.low {B B' : Nat} {w : World} {v : Value} {l : List Int} (h : Own B w v l) (hb : B' ≤ B) : Own B' w v l := by
  obtain ⟨h1, h2⟩ := h
  refine ⟨h1, ?_⟩
  rcases h2 with h2 | ⟨g, cap, cur, e1, e2, r⟩
  · exact .inl h2
  · exact .inr ⟨g, cap, cur, e1, Nat.le_trans hb e2, r⟩
end Go.Proofs.YtibedokegignhaaGreatDoor.Wi
namespace Go.Proofs.YtibedokegignhaaGreatDoor.Wi
open Go.RowKit
end Go.Proofs.YtibedokegignhaaGreatDoor.Wi
namespace Go.Proofs.YtibedokegignhaaGreatDoor.Wi
open Go.RowKit
end Go.Proofs.YtibedokegignhaaGreatDoor.Wi
namespace Go.Proofs.YtibedokegignhaaGreatDoor
open Go.RowKit Go.Maps
open Classical
theorem enF_ck {e : En} (h : ckE e = 0) (hf : e.fits) : enF e := by
  have hn := (i64_wf hf.nw).2
  unfold ckE at h
  split at h
  · omega
  · split at h
    · omega
    · unfold ck at h
      refine ⟨by omega, by omega, by omega, hn, ?_⟩
      repeat' split at h
      all_goals first | omega | skip
      all_goals refine ⟨by omega, by omega, by omega, by omega, ?_⟩
      all_goals first | omega | (split at * <;> omega)
theorem enF_z : enF zEn := ⟨by decide, by decide, by decide, by decide, by decide, by decide, by decide, by decide, by decide⟩
theorem enF_nm {e : En} (h : nmB e = true) (hf : e.fits) : enF e := by
  rw [nmB_en e 2 (Or.inl rfl)] at h
  unfold enK at h
  rw [if_pos (Or.inl rfl)] at h
  simp only [Bool.and_eq_true, decide_eq_true_eq] at h
  obtain ⟨a, b, c, d, e1, f⟩ := h
  have hn := (i64_wf hf.nw).2
  refine ⟨a, by omega, by omega, hn, by omega, by omega, by omega, by omega, ?_⟩
  rw [f]
  decide
def rsF (r : Int × Int × ByteArray) : Prop := 0 ≤ r.1 ∧ r.1 ≤ 9223372036854775807 ∧ 0 ≤ r.2.1 ∧ r.2.1 ≤ 9223372036854775807 ∧ r.2.2.size ≤ 64
theorem rsF_res {r : Int × Int × ByteArray} (h : resB r.1 r.2.1 r.2.2 = true) : rsF r := by
  unfold resB inR noV at h
  unfold rsF
  split at h
  · simp only [Bool.and_eq_true, decide_eq_true_eq] at h; omega
  · split at h
    · simp only [Bool.and_eq_true, decide_eq_true_eq] at h
      rw [h.2]
      refine ⟨by omega, by omega, by omega, by omega, by decide⟩
    · split at h
      · simp only [Bool.and_eq_true, decide_eq_true_eq] at h
        rw [h.2]
        refine ⟨by omega, by omega, by omega, by omega, by decide⟩
      · split at h
        · simp only [Bool.and_eq_true, decide_eq_true_eq] at h
          rw [h.2]
          refine ⟨by omega, by omega, by omega, by omega, by decide⟩
        · cases h
theorem lg_ok {L : List En} {r : Int} (h : lg L r = 0) : ∀ e ∈ L, ckE e = 0 := by
  unfold lg at h
  by_cases hr : r < L.length
  · rw [if_pos hr] at h; omega
  · rw [if_neg hr] at h
    have hz := lgA_zero L.length L 0 (by omega) (by simpa using h)
    intro e he
    obtain ⟨i, hi⟩ := List.getElem?_of_mem he
    have := hz i e (Nat.zero_le _) hi
    unfold er at this
    by_cases h0 : ckE e ≠ 0
    · rw [if_pos h0] at this; exact absurd this h0
    · omega
theorem pl_es {f r : Int} {m : Mg} {L : List En} (hr1 : 1 ≤ r) (hr2 : r ≤ 256) (h : plB f r m L = true) (hL : ∀ e ∈ L, e.fits) : ∀ e ∈ L, enF e := by
  unfold plB at h
  rw [Bool.or_eq_true] at h
  rcases h with h | h
  · have e := List.length_eq_zero_iff.1 (of_decide_eq_true h); rw [e]; intro e he; cases he
  · exact fun e he => enF_ck (lg_ok (by rw [← chk_lg hr1 hr2]; exact of_decide_eq_true (Bool.and_eq_true_iff.1 h).2) e he) (hL e he)
theorem pl_len {f r : Int} {m : Mg} {L : List En} (hr1 : 1 ≤ r) (hr2 : r ≤ 256) (h : plB f r m L = true) : L.length ≤ 256 := by
  unfold plB at h
  rw [Bool.or_eq_true] at h
  rcases h with h | h
  · have := of_decide_eq_true h; omega
  · have := lg_len (L := L) (r := r) (by rw [← chk_lg hr1 hr2]; exact of_decide_eq_true (Bool.and_eq_true_iff.1 h).2); omega
theorem inR_iff {x a b : Int} : inR x a b = true ↔ a ≤ x ∧ x ≤ b := by
  unfold inR
  rw [Bool.and_eq_true, decide_eq_true_eq, decide_eq_true_eq]
theorem mgF_1 {f r : Int} {m : Mg} {L : List En} {D : List (Int × Int)} (hk : m.k = 1) (hf1 : 1 ≤ f) (hf2 : f ≤ 3) (hr1 : 1 ≤ r) (hr2 : r ≤ 256) (hf : m.e.fits) (hL : ∀ e ∈ L, e.fits) (hd : drF m.d) (hD : ∀ d ∈ D, drF d) (hlen : (L.length : Int) ≤ 9223372036854775807) (H : ∀ j, j < 10 → keepB f r m L D j (tabA 1 j) = true) : mgF m L D := by
  have h0 : keepB f r m L D 0 0 = true := H 0 (by decide)
  have h1 : keepB f r m L D 1 0 = true := H 1 (by decide)
  have h2 : keepB f r m L D 2 0 = true := H 2 (by decide)
  have h3 : keepB f r m L D 3 0 = true := H 3 (by decide)
  have h4 : keepB f r m L D 4 0 = true := H 4 (by decide)
  have h5 : keepB f r m L D 5 0 = true := H 5 (by decide)
  have h6 : keepB f r m L D 6 13 = true := H 6 (by decide)
  have h7 : keepB f r m L D 7 0 = true := H 7 (by decide)
  have h8 : keepB f r m L D 8 0 = true := H 8 (by decide)
  have h9 : keepB f r m L D 9 0 = true := H 9 (by decide)
  clear H
  have g1 : m.vw = 0 := of_decide_eq_true h1
  have g0 : m.nd = 0 := of_decide_eq_true h0
  have g2 : m.ls = 0 := of_decide_eq_true h2
  have g3 : m.p = 0 := of_decide_eq_true h3
  have g4 : m.cm = 0 := of_decide_eq_true h4
  have T : m.vw < 0 ∨ (0 ≤ m.vw.tmod (2 * f + 1) ∧ m.vw.tmod (2 * f + 1) < 2 * f + 1) := by
    by_cases h : m.vw < 0
    · exact .inl h
    · exact .inr (tmod_in (by omega) (by omega))
  exact ⟨by omega, by omega, by omega, by omega, by omega, by omega, hd, (enF_ck (by rw [← chk_one]; exact of_decide_eq_true h6) hf), (by have := of_decide_eq_true h7; rw [this]; exact ⟨by decide, by decide, by decide, by decide, by decide⟩), (by have := of_decide_eq_true h8; have e := List.length_eq_zero_iff.1 this; rw [e]; intro e he; cases he), (by have := of_decide_eq_true h8; omega), hD, (by have := of_decide_eq_true h9; omega)⟩
theorem mgF_2 {f r : Int} {m : Mg} {L : List En} {D : List (Int × Int)} (hk : m.k = 2) (hf1 : 1 ≤ f) (hf2 : f ≤ 3) (hr1 : 1 ≤ r) (hr2 : r ≤ 256) (hf : m.e.fits) (hL : ∀ e ∈ L, e.fits) (hd : drF m.d) (hD : ∀ d ∈ D, drF d) (hlen : (L.length : Int) ≤ 9223372036854775807) (H : ∀ j, j < 10 → keepB f r m L D j (tabA 2 j) = true) : mgF m L D := by
  have h0 : keepB f r m L D 0 1 = true := H 0 (by decide)
  have h1 : keepB f r m L D 1 3 = true := H 1 (by decide)
  have h2 : keepB f r m L D 2 0 = true := H 2 (by decide)
  have h3 : keepB f r m L D 3 8 = true := H 3 (by decide)
  have h4 : keepB f r m L D 4 0 = true := H 4 (by decide)
  have h5 : keepB f r m L D 5 0 = true := H 5 (by decide)
  have h6 : keepB f r m L D 6 15 = true := H 6 (by decide)
  have h7 : keepB f r m L D 7 16 = true := H 7 (by decide)
  have h8 : keepB f r m L D 8 0 = true := H 8 (by decide)
  have h9 : keepB f r m L D 9 0 = true := H 9 (by decide)
  clear H
  have g1 := inR_iff.1 h1
  have g0 := inR_iff.1 h0
  have g2 : m.ls = 0 := of_decide_eq_true h2
  have g3 : (m.r.1 = 7 ∧ m.p = 0) ∨ (¬ m.r.1 = 7 ∧ 1 ≤ m.p ∧ m.p ≤ r) := by rw [← apB_iff]; exact h3
  have g4 : m.cm = 0 := of_decide_eq_true h4
  have T : m.vw < 0 ∨ (0 ≤ m.vw.tmod (2 * f + 1) ∧ m.vw.tmod (2 * f + 1) < 2 * f + 1) := by
    by_cases h : m.vw < 0
    · exact .inl h
    · exact .inr (tmod_in (by omega) (by omega))
  exact ⟨by omega, by omega, by omega, by omega, by omega, by omega, hd, (enF_nm h6 hf), (rsF_res h7), (by have := of_decide_eq_true h8; have e := List.length_eq_zero_iff.1 this; rw [e]; intro e he; cases he), (by have := of_decide_eq_true h8; omega), hD, (by have := of_decide_eq_true h9; omega)⟩
theorem mgF_3 {f r : Int} {m : Mg} {L : List En} {D : List (Int × Int)} (hk : m.k = 3) (hf1 : 1 ≤ f) (hf2 : f ≤ 3) (hr1 : 1 ≤ r) (hr2 : r ≤ 256) (hf : m.e.fits) (hL : ∀ e ∈ L, e.fits) (hd : drF m.d) (hD : ∀ d ∈ D, drF d) (hlen : (L.length : Int) ≤ 9223372036854775807) (H : ∀ j, j < 10 → keepB f r m L D j (tabA 3 j) = true) : mgF m L D := by
  have h0 : keepB f r m L D 0 2 = true := H 0 (by decide)
  have h1 : keepB f r m L D 1 3 = true := H 1 (by decide)
  have h2 : keepB f r m L D 2 0 = true := H 2 (by decide)
  have h3 : keepB f r m L D 3 7 = true := H 3 (by decide)
  have h4 : keepB f r m L D 4 9 = true := H 4 (by decide)
  have h5 : keepB f r m L D 5 0 = true := H 5 (by decide)
  have h6 : keepB f r m L D 6 13 = true := H 6 (by decide)
  have h7 : keepB f r m L D 7 0 = true := H 7 (by decide)
  have h8 : keepB f r m L D 8 0 = true := H 8 (by decide)
  have h9 : keepB f r m L D 9 20 = true := H 9 (by decide)
  clear H
  have g1 := inR_iff.1 h1
  have g0 : m.nd = m.vw.tmod (2 * f + 1) := of_decide_eq_true h0
  have g2 : m.ls = 0 := of_decide_eq_true h2
  have g3 := inR_iff.1 h3
  have g4 := inR_iff.1 h4
  have T : m.vw < 0 ∨ (0 ≤ m.vw.tmod (2 * f + 1) ∧ m.vw.tmod (2 * f + 1) < 2 * f + 1) := by
    by_cases h : m.vw < 0
    · exact .inl h
    · exact .inr (tmod_in (by omega) (by omega))
  exact ⟨by omega, by omega, by omega, by omega, by omega, by omega, hd, (enF_ck (by rw [← chk_one]; exact of_decide_eq_true h6) hf), (by have := of_decide_eq_true h7; rw [this]; exact ⟨by decide, by decide, by decide, by decide, by decide⟩), (by have := of_decide_eq_true h8; have e := List.length_eq_zero_iff.1 this; rw [e]; intro e he; cases he), (by have := of_decide_eq_true h8; omega), hD, (by have := of_decide_eq_true h9; omega)⟩
theorem mgF_4 {f r : Int} {m : Mg} {L : List En} {D : List (Int × Int)} (hk : m.k = 4) (hf1 : 1 ≤ f) (hf2 : f ≤ 3) (hr1 : 1 ≤ r) (hr2 : r ≤ 256) (hf : m.e.fits) (hL : ∀ e ∈ L, e.fits) (hd : drF m.d) (hD : ∀ d ∈ D, drF d) (hlen : (L.length : Int) ≤ 9223372036854775807) (H : ∀ j, j < 10 → keepB f r m L D j (tabA 4 j) = true) : mgF m L D := by
  have h0 : keepB f r m L D 0 1 = true := H 0 (by decide)
  have h1 : keepB f r m L D 1 3 = true := H 1 (by decide)
  have h2 : keepB f r m L D 2 0 = true := H 2 (by decide)
  have h3 : keepB f r m L D 3 6 = true := H 3 (by decide)
  have h4 : keepB f r m L D 4 0 = true := H 4 (by decide)
  have h5 : keepB f r m L D 5 0 = true := H 5 (by decide)
  have h6 : keepB f r m L D 6 0 = true := H 6 (by decide)
  have h7 : keepB f r m L D 7 0 = true := H 7 (by decide)
  have h8 : keepB f r m L D 8 0 = true := H 8 (by decide)
  have h9 : keepB f r m L D 9 20 = true := H 9 (by decide)
  clear H
  have g1 := inR_iff.1 h1
  have g0 := inR_iff.1 h0
  have g2 : m.ls = 0 := of_decide_eq_true h2
  have g3 := inR_iff.1 h3
  have g4 : m.cm = 0 := of_decide_eq_true h4
  have T : m.vw < 0 ∨ (0 ≤ m.vw.tmod (2 * f + 1) ∧ m.vw.tmod (2 * f + 1) < 2 * f + 1) := by
    by_cases h : m.vw < 0
    · exact .inl h
    · exact .inr (tmod_in (by omega) (by omega))
  exact ⟨by omega, by omega, by omega, by omega, by omega, by omega, hd, (by rw [(enb_iff _ _).1 h6]; exact enF_z), (by have := of_decide_eq_true h7; rw [this]; exact ⟨by decide, by decide, by decide, by decide, by decide⟩), (by have := of_decide_eq_true h8; have e := List.length_eq_zero_iff.1 this; rw [e]; intro e he; cases he), (by have := of_decide_eq_true h8; omega), hD, (by have := of_decide_eq_true h9; omega)⟩
theorem mgF_5 {f r : Int} {m : Mg} {L : List En} {D : List (Int × Int)} (hk : m.k = 5) (hf1 : 1 ≤ f) (hf2 : f ≤ 3) (hr1 : 1 ≤ r) (hr2 : r ≤ 256) (hf : m.e.fits) (hL : ∀ e ∈ L, e.fits) (hd : drF m.d) (hD : ∀ d ∈ D, drF d) (hlen : (L.length : Int) ≤ 9223372036854775807) (H : ∀ j, j < 10 → keepB f r m L D j (tabA 5 j) = true) : mgF m L D := by
  have h0 : keepB f r m L D 0 2 = true := H 0 (by decide)
  have h1 : keepB f r m L D 1 3 = true := H 1 (by decide)
  have h2 : keepB f r m L D 2 0 = true := H 2 (by decide)
  have h3 : keepB f r m L D 3 0 = true := H 3 (by decide)
  have h4 : keepB f r m L D 4 9 = true := H 4 (by decide)
  have h5 : keepB f r m L D 5 0 = true := H 5 (by decide)
  have h6 : keepB f r m L D 6 0 = true := H 6 (by decide)
  have h7 : keepB f r m L D 7 0 = true := H 7 (by decide)
  have h8 : keepB f r m L D 8 0 = true := H 8 (by decide)
  have h9 : keepB f r m L D 9 20 = true := H 9 (by decide)
  clear H
  have g1 := inR_iff.1 h1
  have g0 : m.nd = m.vw.tmod (2 * f + 1) := of_decide_eq_true h0
  have g2 : m.ls = 0 := of_decide_eq_true h2
  have g3 : m.p = 0 := of_decide_eq_true h3
  have g4 := inR_iff.1 h4
  have T : m.vw < 0 ∨ (0 ≤ m.vw.tmod (2 * f + 1) ∧ m.vw.tmod (2 * f + 1) < 2 * f + 1) := by
    by_cases h : m.vw < 0
    · exact .inl h
    · exact .inr (tmod_in (by omega) (by omega))
  exact ⟨by omega, by omega, by omega, by omega, by omega, by omega, hd, (by rw [(enb_iff _ _).1 h6]; exact enF_z), (by have := of_decide_eq_true h7; rw [this]; exact ⟨by decide, by decide, by decide, by decide, by decide⟩), (by have := of_decide_eq_true h8; have e := List.length_eq_zero_iff.1 this; rw [e]; intro e he; cases he), (by have := of_decide_eq_true h8; omega), hD, (by have := of_decide_eq_true h9; omega)⟩
theorem mgF_6 {f r : Int} {m : Mg} {L : List En} {D : List (Int × Int)} (hk : m.k = 6) (hf1 : 1 ≤ f) (hf2 : f ≤ 3) (hr1 : 1 ≤ r) (hr2 : r ≤ 256) (hf : m.e.fits) (hL : ∀ e ∈ L, e.fits) (hd : drF m.d) (hD : ∀ d ∈ D, drF d) (hlen : (L.length : Int) ≤ 9223372036854775807) (H : ∀ j, j < 10 → keepB f r m L D j (tabA 6 j) = true) : mgF m L D := by
  have h0 : keepB f r m L D 0 1 = true := H 0 (by decide)
  have h1 : keepB f r m L D 1 4 = true := H 1 (by decide)
  have h2 : keepB f r m L D 2 0 = true := H 2 (by decide)
  have h3 : keepB f r m L D 3 0 = true := H 3 (by decide)
  have h4 : keepB f r m L D 4 0 = true := H 4 (by decide)
  have h5 : keepB f r m L D 5 0 = true := H 5 (by decide)
  have h6 : keepB f r m L D 6 0 = true := H 6 (by decide)
  have h7 : keepB f r m L D 7 0 = true := H 7 (by decide)
  have h8 : keepB f r m L D 8 0 = true := H 8 (by decide)
  have h9 : keepB f r m L D 9 20 = true := H 9 (by decide)
  clear H
  have g1 := inR_iff.1 h1
  have g0 := inR_iff.1 h0
  have g2 : m.ls = 0 := of_decide_eq_true h2
  have g3 : m.p = 0 := of_decide_eq_true h3
  have g4 : m.cm = 0 := of_decide_eq_true h4
  have T : m.vw < 0 ∨ (0 ≤ m.vw.tmod (2 * f + 1) ∧ m.vw.tmod (2 * f + 1) < 2 * f + 1) := by
    by_cases h : m.vw < 0
    · exact .inl h
    · exact .inr (tmod_in (by omega) (by omega))
  exact ⟨by omega, by omega, by omega, by omega, by omega, by omega, hd, (by rw [(enb_iff _ _).1 h6]; exact enF_z), (by have := of_decide_eq_true h7; rw [this]; exact ⟨by decide, by decide, by decide, by decide, by decide⟩), (by have := of_decide_eq_true h8; have e := List.length_eq_zero_iff.1 this; rw [e]; intro e he; cases he), (by have := of_decide_eq_true h8; omega), hD, (by have := of_decide_eq_true h9; omega)⟩
theorem mgF_7 {f r : Int} {m : Mg} {L : List En} {D : List (Int × Int)} (hk : m.k = 7) (hf1 : 1 ≤ f) (hf2 : f ≤ 3) (hr1 : 1 ≤ r) (hr2 : r ≤ 256) (hf : m.e.fits) (hL : ∀ e ∈ L, e.fits) (hd : drF m.d) (hD : ∀ d ∈ D, drF d) (hlen : (L.length : Int) ≤ 9223372036854775807) (H : ∀ j, j < 10 → keepB f r m L D j (tabA 7 j) = true) : mgF m L D := by
  have h0 : keepB f r m L D 0 1 = true := H 0 (by decide)
  have h1 : keepB f r m L D 1 4 = true := H 1 (by decide)
  have h2 : keepB f r m L D 2 5 = true := H 2 (by decide)
  have h3 : keepB f r m L D 3 0 = true := H 3 (by decide)
  have h4 : keepB f r m L D 4 10 = true := H 4 (by decide)
  have h5 : keepB f r m L D 5 0 = true := H 5 (by decide)
  have h6 : keepB f r m L D 6 0 = true := H 6 (by decide)
  have h7 : keepB f r m L D 7 0 = true := H 7 (by decide)
  have h8 : keepB f r m L D 8 18 = true := H 8 (by decide)
  have h9 : keepB f r m L D 9 20 = true := H 9 (by decide)
  clear H
  have g1 := inR_iff.1 h1
  have g0 := inR_iff.1 h0
  have g2 := Bool.and_eq_true_iff.1 h2
  have g2a := of_decide_eq_true g2.1
  have g2b := of_decide_eq_true g2.2
  have g3 : m.p = 0 := of_decide_eq_true h3
  have g4 := inR_iff.1 h4
  have T : m.vw < 0 ∨ (0 ≤ m.vw.tmod (2 * f + 1) ∧ m.vw.tmod (2 * f + 1) < 2 * f + 1) := by
    by_cases h : m.vw < 0
    · exact .inl h
    · exact .inr (tmod_in (by omega) (by omega))
  exact ⟨by omega, by omega, by omega, by omega, by omega, by omega, hd, (by rw [(enb_iff _ _).1 h6]; exact enF_z), (by have := of_decide_eq_true h7; rw [this]; exact ⟨by decide, by decide, by decide, by decide, by decide⟩), (fun e he => enF_ck (lg_ok (by rw [← chk_lg hr1 hr2]; exact of_decide_eq_true h8) e he) (hL e he)), (by have := lg_len (L := L) (r := r) (by rw [← chk_lg hr1 hr2]; exact of_decide_eq_true h8); omega), hD, (by have := of_decide_eq_true h9; omega)⟩
theorem mgF_8 {f r : Int} {m : Mg} {L : List En} {D : List (Int × Int)} (hk : m.k = 8) (hf1 : 1 ≤ f) (hf2 : f ≤ 3) (hr1 : 1 ≤ r) (hr2 : r ≤ 256) (hf : m.e.fits) (hL : ∀ e ∈ L, e.fits) (hd : drF m.d) (hD : ∀ d ∈ D, drF d) (hlen : (L.length : Int) ≤ 9223372036854775807) (H : ∀ j, j < 10 → keepB f r m L D j (tabA 8 j) = true) : mgF m L D := by
  have h0 : keepB f r m L D 0 2 = true := H 0 (by decide)
  have h1 : keepB f r m L D 1 4 = true := H 1 (by decide)
  have h2 : keepB f r m L D 2 0 = true := H 2 (by decide)
  have h3 : keepB f r m L D 3 0 = true := H 3 (by decide)
  have h4 : keepB f r m L D 4 10 = true := H 4 (by decide)
  have h5 : keepB f r m L D 5 0 = true := H 5 (by decide)
  have h6 : keepB f r m L D 6 0 = true := H 6 (by decide)
  have h7 : keepB f r m L D 7 0 = true := H 7 (by decide)
  have h8 : keepB f r m L D 8 18 = true := H 8 (by decide)
  have h9 : keepB f r m L D 9 20 = true := H 9 (by decide)
  clear H
  have g1 := inR_iff.1 h1
  have g0 : m.nd = m.vw.tmod (2 * f + 1) := of_decide_eq_true h0
  have g2 : m.ls = 0 := of_decide_eq_true h2
  have g3 : m.p = 0 := of_decide_eq_true h3
  have g4 := inR_iff.1 h4
  have T : m.vw < 0 ∨ (0 ≤ m.vw.tmod (2 * f + 1) ∧ m.vw.tmod (2 * f + 1) < 2 * f + 1) := by
    by_cases h : m.vw < 0
    · exact .inl h
    · exact .inr (tmod_in (by omega) (by omega))
  exact ⟨by omega, by omega, by omega, by omega, by omega, by omega, hd, (by rw [(enb_iff _ _).1 h6]; exact enF_z), (by have := of_decide_eq_true h7; rw [this]; exact ⟨by decide, by decide, by decide, by decide, by decide⟩), (fun e he => enF_ck (lg_ok (by rw [← chk_lg hr1 hr2]; exact of_decide_eq_true h8) e he) (hL e he)), (by have := lg_len (L := L) (r := r) (by rw [← chk_lg hr1 hr2]; exact of_decide_eq_true h8); omega), hD, (by have := of_decide_eq_true h9; omega)⟩
theorem mgF_9 {f r : Int} {m : Mg} {L : List En} {D : List (Int × Int)} (hk : m.k = 9) (hf1 : 1 ≤ f) (hf2 : f ≤ 3) (hr1 : 1 ≤ r) (hr2 : r ≤ 256) (hf : m.e.fits) (hL : ∀ e ∈ L, e.fits) (hd : drF m.d) (hD : ∀ d ∈ D, drF d) (hlen : (L.length : Int) ≤ 9223372036854775807) (H : ∀ j, j < 10 → keepB f r m L D j (tabA 9 j) = true) : mgF m L D := by
  have h0 : keepB f r m L D 0 1 = true := H 0 (by decide)
  have h1 : keepB f r m L D 1 0 = true := H 1 (by decide)
  have h2 : keepB f r m L D 2 0 = true := H 2 (by decide)
  have h3 : keepB f r m L D 3 0 = true := H 3 (by decide)
  have h4 : keepB f r m L D 4 0 = true := H 4 (by decide)
  have h5 : keepB f r m L D 5 12 = true := H 5 (by decide)
  have h6 : keepB f r m L D 6 0 = true := H 6 (by decide)
  have h7 : keepB f r m L D 7 0 = true := H 7 (by decide)
  have h8 : keepB f r m L D 8 0 = true := H 8 (by decide)
  have h9 : keepB f r m L D 9 20 = true := H 9 (by decide)
  clear H
  have g1 : m.vw = 0 := of_decide_eq_true h1
  have g0 := inR_iff.1 h0
  have g2 : m.ls = 0 := of_decide_eq_true h2
  have g3 : m.p = 0 := of_decide_eq_true h3
  have g4 : m.cm = 0 := of_decide_eq_true h4
  have T : m.vw < 0 ∨ (0 ≤ m.vw.tmod (2 * f + 1) ∧ m.vw.tmod (2 * f + 1) < 2 * f + 1) := by
    by_cases h : m.vw < 0
    · exact .inl h
    · exact .inr (tmod_in (by omega) (by omega))
  exact ⟨by omega, by omega, by omega, by omega, by omega, by omega, hd, (by rw [(enb_iff _ _).1 h6]; exact enF_z), (by have := of_decide_eq_true h7; rw [this]; exact ⟨by decide, by decide, by decide, by decide, by decide⟩), (by have := of_decide_eq_true h8; have e := List.length_eq_zero_iff.1 this; rw [e]; intro e he; cases he), (by have := of_decide_eq_true h8; omega), hD, (by have := of_decide_eq_true h9; omega)⟩
theorem mgF_10 {f r : Int} {m : Mg} {L : List En} {D : List (Int × Int)} (hk : m.k = 10) (hf1 : 1 ≤ f) (hf2 : f ≤ 3) (hr1 : 1 ≤ r) (hr2 : r ≤ 256) (hf : m.e.fits) (hL : ∀ e ∈ L, e.fits) (hd : drF m.d) (hD : ∀ d ∈ D, drF d) (hlen : (L.length : Int) ≤ 9223372036854775807) (H : ∀ j, j < 10 → keepB f r m L D j (tabA 10 j) = true) : mgF m L D := by
  have h0 : keepB f r m L D 0 1 = true := H 0 (by decide)
  have h1 : keepB f r m L D 1 3 = true := H 1 (by decide)
  have h2 : keepB f r m L D 2 0 = true := H 2 (by decide)
  have h3 : keepB f r m L D 3 0 = true := H 3 (by decide)
  have h4 : keepB f r m L D 4 10 = true := H 4 (by decide)
  have h5 : keepB f r m L D 5 11 = true := H 5 (by decide)
  have h6 : keepB f r m L D 6 0 = true := H 6 (by decide)
  have h7 : keepB f r m L D 7 0 = true := H 7 (by decide)
  have h8 : keepB f r m L D 8 19 = true := H 8 (by decide)
  have h9 : keepB f r m L D 9 20 = true := H 9 (by decide)
  clear H
  have g1 := inR_iff.1 h1
  have g0 := inR_iff.1 h0
  have g2 : m.ls = 0 := of_decide_eq_true h2
  have g3 : m.p = 0 := of_decide_eq_true h3
  have g4 := inR_iff.1 h4
  have T : m.vw < 0 ∨ (0 ≤ m.vw.tmod (2 * f + 1) ∧ m.vw.tmod (2 * f + 1) < 2 * f + 1) := by
    by_cases h : m.vw < 0
    · exact .inl h
    · exact .inr (tmod_in (by omega) (by omega))
  exact ⟨by omega, by omega, by omega, by omega, by omega, by omega, hd, (by rw [(enb_iff _ _).1 h6]; exact enF_z), (by have := of_decide_eq_true h7; rw [this]; exact ⟨by decide, by decide, by decide, by decide, by decide⟩), (pl_es hr1 hr2 h8 hL), (pl_len hr1 hr2 h8), hD, (by have := of_decide_eq_true h9; omega)⟩
theorem mgF_11 {f r : Int} {m : Mg} {L : List En} {D : List (Int × Int)} (hk : m.k = 11) (hf1 : 1 ≤ f) (hf2 : f ≤ 3) (hr1 : 1 ≤ r) (hr2 : r ≤ 256) (hf : m.e.fits) (hL : ∀ e ∈ L, e.fits) (hd : drF m.d) (hD : ∀ d ∈ D, drF d) (hlen : (L.length : Int) ≤ 9223372036854775807) (H : ∀ j, j < 10 → keepB f r m L D j (tabA 11 j) = true) : mgF m L D := by
  have h0 : keepB f r m L D 0 1 = true := H 0 (by decide)
  have h1 : keepB f r m L D 1 3 = true := H 1 (by decide)
  have h2 : keepB f r m L D 2 0 = true := H 2 (by decide)
  have h3 : keepB f r m L D 3 0 = true := H 3 (by decide)
  have h4 : keepB f r m L D 4 0 = true := H 4 (by decide)
  have h5 : keepB f r m L D 5 0 = true := H 5 (by decide)
  have h6 : keepB f r m L D 6 0 = true := H 6 (by decide)
  have h7 : keepB f r m L D 7 0 = true := H 7 (by decide)
  have h8 : keepB f r m L D 8 0 = true := H 8 (by decide)
  have h9 : keepB f r m L D 9 20 = true := H 9 (by decide)
  clear H
  have g1 := inR_iff.1 h1
  have g0 := inR_iff.1 h0
  have g2 : m.ls = 0 := of_decide_eq_true h2
  have g3 : m.p = 0 := of_decide_eq_true h3
  have g4 : m.cm = 0 := of_decide_eq_true h4
  have T : m.vw < 0 ∨ (0 ≤ m.vw.tmod (2 * f + 1) ∧ m.vw.tmod (2 * f + 1) < 2 * f + 1) := by
    by_cases h : m.vw < 0
    · exact .inl h
    · exact .inr (tmod_in (by omega) (by omega))
  exact ⟨by omega, by omega, by omega, by omega, by omega, by omega, hd, (by rw [(enb_iff _ _).1 h6]; exact enF_z), (by have := of_decide_eq_true h7; rw [this]; exact ⟨by decide, by decide, by decide, by decide, by decide⟩), (by have := of_decide_eq_true h8; have e := List.length_eq_zero_iff.1 this; rw [e]; intro e he; cases he), (by have := of_decide_eq_true h8; omega), hD, (by have := of_decide_eq_true h9; omega)⟩
theorem mgF_12 {f r : Int} {m : Mg} {L : List En} {D : List (Int × Int)} (hk : m.k = 12) (hf1 : 1 ≤ f) (hf2 : f ≤ 3) (hr1 : 1 ≤ r) (hr2 : r ≤ 256) (hf : m.e.fits) (hL : ∀ e ∈ L, e.fits) (hd : drF m.d) (hD : ∀ d ∈ D, drF d) (hlen : (L.length : Int) ≤ 9223372036854775807) (H : ∀ j, j < 10 → keepB f r m L D j (tabA 12 j) = true) : mgF m L D := by
  have h0 : keepB f r m L D 0 1 = true := H 0 (by decide)
  have h1 : keepB f r m L D 1 3 = true := H 1 (by decide)
  have h2 : keepB f r m L D 2 0 = true := H 2 (by decide)
  have h3 : keepB f r m L D 3 0 = true := H 3 (by decide)
  have h4 : keepB f r m L D 4 10 = true := H 4 (by decide)
  have h5 : keepB f r m L D 5 0 = true := H 5 (by decide)
  have h6 : keepB f r m L D 6 0 = true := H 6 (by decide)
  have h7 : keepB f r m L D 7 0 = true := H 7 (by decide)
  have h8 : keepB f r m L D 8 18 = true := H 8 (by decide)
  have h9 : keepB f r m L D 9 20 = true := H 9 (by decide)
  clear H
  have g1 := inR_iff.1 h1
  have g0 := inR_iff.1 h0
  have g2 : m.ls = 0 := of_decide_eq_true h2
  have g3 : m.p = 0 := of_decide_eq_true h3
  have g4 := inR_iff.1 h4
  have T : m.vw < 0 ∨ (0 ≤ m.vw.tmod (2 * f + 1) ∧ m.vw.tmod (2 * f + 1) < 2 * f + 1) := by
    by_cases h : m.vw < 0
    · exact .inl h
    · exact .inr (tmod_in (by omega) (by omega))
  exact ⟨by omega, by omega, by omega, by omega, by omega, by omega, hd, (by rw [(enb_iff _ _).1 h6]; exact enF_z), (by have := of_decide_eq_true h7; rw [this]; exact ⟨by decide, by decide, by decide, by decide, by decide⟩), (fun e he => enF_ck (lg_ok (by rw [← chk_lg hr1 hr2]; exact of_decide_eq_true h8) e he) (hL e he)), (by have := lg_len (L := L) (r := r) (by rw [← chk_lg hr1 hr2]; exact of_decide_eq_true h8); omega), hD, (by have := of_decide_eq_true h9; omega)⟩
theorem mgF_13 {f r : Int} {m : Mg} {L : List En} {D : List (Int × Int)} (hk : m.k = 13) (hf1 : 1 ≤ f) (hf2 : f ≤ 3) (hr1 : 1 ≤ r) (hr2 : r ≤ 256) (hf : m.e.fits) (hL : ∀ e ∈ L, e.fits) (hd : drF m.d) (hD : ∀ d ∈ D, drF d) (hlen : (L.length : Int) ≤ 9223372036854775807) (H : ∀ j, j < 10 → keepB f r m L D j (tabA 13 j) = true) : mgF m L D := by
  have h0 : keepB f r m L D 0 0 = true := H 0 (by decide)
  have h1 : keepB f r m L D 1 0 = true := H 1 (by decide)
  have h2 : keepB f r m L D 2 0 = true := H 2 (by decide)
  have h3 : keepB f r m L D 3 6 = true := H 3 (by decide)
  have h4 : keepB f r m L D 4 0 = true := H 4 (by decide)
  have h5 : keepB f r m L D 5 0 = true := H 5 (by decide)
  have h6 : keepB f r m L D 6 14 = true := H 6 (by decide)
  have h7 : keepB f r m L D 7 0 = true := H 7 (by decide)
  have h8 : keepB f r m L D 8 0 = true := H 8 (by decide)
  have h9 : keepB f r m L D 9 0 = true := H 9 (by decide)
  clear H
  have g1 : m.vw = 0 := of_decide_eq_true h1
  have g0 : m.nd = 0 := of_decide_eq_true h0
  have g2 : m.ls = 0 := of_decide_eq_true h2
  have g3 := inR_iff.1 h3
  have g4 : m.cm = 0 := of_decide_eq_true h4
  have T : m.vw < 0 ∨ (0 ≤ m.vw.tmod (2 * f + 1) ∧ m.vw.tmod (2 * f + 1) < 2 * f + 1) := by
    by_cases h : m.vw < 0
    · exact .inl h
    · exact .inr (tmod_in (by omega) (by omega))
  exact ⟨by omega, by omega, by omega, by omega, by omega, by omega, hd, (enF_ck (by rw [← chk_one]; exact of_decide_eq_true (Bool.and_eq_true_iff.1 h6).1) hf), (by have := of_decide_eq_true h7; rw [this]; exact ⟨by decide, by decide, by decide, by decide, by decide⟩), (by have := of_decide_eq_true h8; have e := List.length_eq_zero_iff.1 this; rw [e]; intro e he; cases he), (by have := of_decide_eq_true h8; omega), hD, (by have := of_decide_eq_true h9; omega)⟩
theorem mgF_14 {f r : Int} {m : Mg} {L : List En} {D : List (Int × Int)} (hk : m.k = 14) (hf1 : 1 ≤ f) (hf2 : f ≤ 3) (hr1 : 1 ≤ r) (hr2 : r ≤ 256) (hf : m.e.fits) (hL : ∀ e ∈ L, e.fits) (hd : drF m.d) (hD : ∀ d ∈ D, drF d) (hlen : (L.length : Int) ≤ 9223372036854775807) (H : ∀ j, j < 10 → keepB f r m L D j (tabA 14 j) = true) : mgF m L D := by
  have h0 : keepB f r m L D 0 1 = true := H 0 (by decide)
  have h1 : keepB f r m L D 1 3 = true := H 1 (by decide)
  have h2 : keepB f r m L D 2 0 = true := H 2 (by decide)
  have h3 : keepB f r m L D 3 0 = true := H 3 (by decide)
  have h4 : keepB f r m L D 4 9 = true := H 4 (by decide)
  have h5 : keepB f r m L D 5 0 = true := H 5 (by decide)
  have h6 : keepB f r m L D 6 15 = true := H 6 (by decide)
  have h7 : keepB f r m L D 7 17 = true := H 7 (by decide)
  have h8 : keepB f r m L D 8 0 = true := H 8 (by decide)
  have h9 : keepB f r m L D 9 0 = true := H 9 (by decide)
  clear H
  have g1 := inR_iff.1 h1
  have g0 := inR_iff.1 h0
  have g2 : m.ls = 0 := of_decide_eq_true h2
  have g3 : m.p = 0 := of_decide_eq_true h3
  have g4 := inR_iff.1 h4
  have T : m.vw < 0 ∨ (0 ≤ m.vw.tmod (2 * f + 1) ∧ m.vw.tmod (2 * f + 1) < 2 * f + 1) := by
    by_cases h : m.vw < 0
    · exact .inl h
    · exact .inr (tmod_in (by omega) (by omega))
  exact ⟨by omega, by omega, by omega, by omega, by omega, by omega, hd, (enF_nm h6 hf), (rsF_res (Bool.and_eq_true_iff.1 h7).1), (by have := of_decide_eq_true h8; have e := List.length_eq_zero_iff.1 this; rw [e]; intro e he; cases he), (by have := of_decide_eq_true h8; omega), hD, (by have := of_decide_eq_true h9; omega)⟩
theorem ck_mgF {c : Cf} {m : Mg} {L : List En} {D : List (Int × Int)} (h : ckM c m L D = 0) (hf : m.e.fits) (hL : ∀ e ∈ L, e.fits) (hd : drF m.d) (hD : ∀ d ∈ D, drF d) (hlen : (L.length : Int) ≤ 9223372036854775807) : mgF m L D ∧ 1 ≤ m.k ∧ m.k ≤ 14 := by
  unfold ckM at h
  split at h
  · omega
  · rename_i hc
    split at h
    · omega
    · rename_i hk
      split at h
      · rename_i hall
        have hc' : cfB c = true := by simpa using hc
        have hk' : kdB m.k = true := by simpa using hk
        obtain ⟨f1, f2⟩ := cfB_f hc'
        obtain ⟨r1, r2⟩ := cfB_r hc'
        have H : ∀ j, j < 10 → keepB c.f c.r m L D j (tabA m.k.toNat j) = true := fun j hj => List.all_eq_true.1 hall j (List.mem_range.2 hj)
        have hkk := inR_iff.1 hk'
        refine ⟨?_, hkk⟩
        have : m.k = 1 ∨ m.k = 2 ∨ m.k = 3 ∨ m.k = 4 ∨ m.k = 5 ∨ m.k = 6 ∨ m.k = 7 ∨ m.k = 8 ∨ m.k = 9 ∨ m.k = 10 ∨ m.k = 11 ∨ m.k = 12 ∨ m.k = 13 ∨ m.k = 14 := by omega
        rcases this with e | e | e | e | e | e | e | e | e | e | e | e | e | e <;> rw [e] at H
        · exact mgF_1 e f1 f2 r1 r2 hf hL hd hD hlen H
        · exact mgF_2 e f1 f2 r1 r2 hf hL hd hD hlen H
        · exact mgF_3 e f1 f2 r1 r2 hf hL hd hD hlen H
        · exact mgF_4 e f1 f2 r1 r2 hf hL hd hD hlen H
        · exact mgF_5 e f1 f2 r1 r2 hf hL hd hD hlen H
        · exact mgF_6 e f1 f2 r1 r2 hf hL hd hD hlen H
        · exact mgF_7 e f1 f2 r1 r2 hf hL hd hD hlen H
        · exact mgF_8 e f1 f2 r1 r2 hf hL hd hD hlen H
        · exact mgF_9 e f1 f2 r1 r2 hf hL hd hD hlen H
        · exact mgF_10 e f1 f2 r1 r2 hf hL hd hD hlen H
        · exact mgF_11 e f1 f2 r1 r2 hf hL hd hD hlen H
        · exact mgF_12 e f1 f2 r1 r2 hf hL hd hD hlen H
        · exact mgF_13 e f1 f2 r1 r2 hf hL hd hD hlen H
        · exact mgF_14 e f1 f2 r1 r2 hf hL hd hD hlen H
      · omega
def enB (c : Cf) (m : Mg) (L : List En) (D : List (Int × Int)) : List Int := if ckM c m L D = 0 then M.frame (mbBy m L D m.k.toNat) else []
def isB (l : List Int) : Prop := ∀ z ∈ l, 0 ≤ z ∧ z < 256
theorem isB.app {a b : List Int} (h : isB a) (k : isB b) : isB (a ++ b) := fun z hz => (List.mem_append.1 hz).elim (h z) (k z)
theorem isB.nil : isB [] := fun z hz => by cases hz
theorem isB.form {x : Nat} (h : x < 2 ^ 64) : isB (M.form x) := M.form_byte x h
theorem isB.dr {x y : Nat} (hx : x < 2 ^ 64) (hy : y < 2 ^ 64) : isB (drBy x y) := (isB.form hx).app (isB.form hy)
theorem isB.nm {x y : Nat} (hx : x < 2 ^ 64) (hy : y < 2 ^ 64) : isB (nmBy x y) := (isB.form hx).app (isB.form hy)
theorem isB.op {x y : Nat} {v : ByteArray} (hx : x < 2 ^ 64) (hy : y < 2 ^ 64) (hv : v.size ≤ 64) : isB (opBy x y v) := (isB.form hx).app ((isB.form hy).app ((isB.form (by omega)).app (Wi.sb_byte v)))
theorem isB.flat {α : Type} (f : α → List Int) : ∀ l : List α, (∀ x ∈ l, isB (f x)) → isB (l.flatMap f)
  | [], _ => isB.nil
  | x :: r, h => by
    rw [List.flatMap_cons]
    exact (h x (by simp)).app (isB.flat f r (fun y hy => h y (by simp [hy])))
theorem isB.drF {d : Int × Int} (h : drF d) : isB (drBy d.1.toNat d.2.toNat) := isB.dr (by have := h.1; have := h.2.1; omega) (by have := h.2.2.1; have := h.2.2.2; omega)
theorem isB.enF {e : En} (h : enF e) : isB (nmBy e.c.toNat e.n.toNat) ∧ isB (opBy e.o.k.toNat e.o.s.toNat e.o.v) := by
  obtain ⟨a1, a2, a3, a4, a5, a6, a7, a8, a9⟩ := h
  exact ⟨isB.nm (by omega) (by omega), isB.op (by omega) (by omega) a9⟩
theorem isB.col {m : Mg} {L : List En} {D : List (Int × Int)} (hm : mgF m L D) (j : Nat) (op : Bool) : isB (colBy m L D j op) := by
  match j with
  | 0 => have := hm.nd; exact isB.form (by omega)
  | 1 => have := hm.vw; exact isB.form (by omega)
  | 2 => have := hm.ls; exact isB.form (by omega)
  | 3 => have := hm.p; exact isB.form (by omega)
  | 4 => have := hm.cm; exact isB.form (by omega)
  | 5 => exact isB.drF hm.d
  | 6 => exact (isB.enF hm.e).1.app (by cases op <;> first | exact isB.nil | exact (isB.enF hm.e).2)
  | 7 =>
    obtain ⟨a1, a2, a3, a4, a5⟩ := hm.r
    exact isB.op (by omega) (by omega) a5
  | 8 => have := hm.lL; exact (isB.form (by omega)).app (isB.flat _ _ (fun e he => (isB.enF (hm.es e he)).1.app (isB.enF (hm.es e he)).2))
  | 9 => have := hm.lD; exact (isB.form (by omega)).app (isB.flat _ _ (fun d hd => isB.drF (hm.ds d hd)))
  | (n + 10) => exact isB.nil
theorem mbBy_byte {m : Mg} {L : List En} {D : List (Int × Int)} (hm : mgF m L D) {k : Nat} (hk : k < 15) : ∀ z ∈ mbBy m L D k, 0 ≤ z ∧ z < 256 :=
  (isB.form (by omega)).app (isB.flat _ _ (fun i _ => by
    show isB (if tabA k i = 0 then [] else colBy m L D i _)
    split
    · exact isB.nil
    · exact isB.col hm i _))
theorem bodyPost_ret2 {fn : Func} {R : Ending → World → Prop} {T : Array Value} {t u : Tmp} {V U : Value} {w : World} (h : fn.results = #[.tmp t, .tmp u]) (hT : T[t]? = some (gw true V)) (hU : T[u]? = some (gw true U)) (hR : R (.returned (.tuple #[V, U])) w) : bodyPost Tryz.prog fn R .ret ⟨T, []⟩ w := by
  refine bodyPost_ret (v := .tuple #[V, U]) ?_ rfl hR
  have e1 : T.getD t undef = V := getD_of hT
  have e2 : T.getD u undef = U := getD_of hU
  rw [results_tmp2 h]
  rw [e1, e2]
theorem neqEr (x y : Operand) (a b : Int) (w : World) : (do eqGuard .neq 47 x y (.int .i64 a) (.int .i64 b); binOp .neq 47 (.int .i64 a) (.int .i64 b) : Sem Value).run Tryz.prog w = .ok (.bool (!decide (a = b))) w := by
  go_simp
  by_cases h : a = b <;> simp [h]
theorem froz_box (w : World) (c : Array Value) (t : TypeId) (i : Nat) : (w.alloc (.cells c t)).frozen? ⟨w.heap.size, i, none⟩ = false := by
  simp
theorem Wi.wtyp_new (w : World) (c : Array Value) : Wi.wtyp (w.alloc (.cells c 112)) w.heap.size := ⟨c, (0, 0), 112, by
    show (w.heap.push _)[w.heap.size]? = _
    simp, .inr (.inr rfl)⟩
set_option maxHeartbeats 4000000 in
theorem encode_any (c : Cf) (m : Mg) (a1 a2 : Option Addr) (cl cv : Nat) (L : List En) (D : List (Int × Int)) (w : World) (hT : Tab w) (hL : SlY yE w a1 L.length cl L) (hfit : ∀ e ∈ L, e.fits) (hD : SlY yD w a2 D.length cv D) (hfe : m.e.fits) (hd : drF m.d) (hds : ∀ d ∈ D, drF d) :
    Calls Tryz.prog 16 #[c.val, m.val (.slice a1 L.length cl) (.slice a2 D.length cv)] w fun e w' => ∃ v, e = .returned (.tuple #[v, .int .i64 (ckM c m L D)]) ∧ Wi.Own w.heap.size w' v (enB c m L D) ∧ Below w.heap.size w w' := by
  have hlen : (L.length : Int) ≤ 9223372036854775807 := by have := hL.cap; have := hL.max; unfold maxLen at *; omega
  have hT0 := hT.lt
  go_enter Tryz.func16, Tryz.ntmps16
  go_upto_region 1 with (refine boxMk rfl (.tmp 1) rfl m _ _ rfl ?_; intro q1 w1 hq1 M1 b1 z1)
  have hq2 : q1 = w.heap.size + 1 := by first | exact hq1 | simpa using hq1
  subst hq2
  have hB : Below w.heap.size w w1 := ((Below.refl _ _).alloc (Nat.le_refl _) _).trans (b1.mono (by simp))
  have hc1 : CfB w1 w.heap.size c := ⟨Nat.lt_of_succ_lt M1.lt, fun i x hx => (b1.cell (p := ⟨w.heap.size, i, none⟩) (by simp)).trans (by
    match i, hx with
    | 0, hx | 1, hx | 2, hx | 3, hx => cases hx; unfold Cf.val; simp
    | (j + 4), hx => simp at hx)⟩
  have HC : Hid (∀ v, Below w1.heap.size w1 v → CfB v w.heap.size c) := fun v hv => hc1.bel hv
  have HM : Hid (∀ v, Below w1.heap.size w1 v → MBox v (w.heap.size + 1) m (.slice a1 L.length cl) (.slice a2 D.length cv)) := fun v hv => M1.bel hv
  have HB : Hid (∀ v, Below w1.heap.size w1 v → Below w.heap.size w v) := fun v hv => hB.trans (hv.mono hB.size)
  have HTB : Hid (∀ v, Below w1.heap.size w1 v → Tab v) := fun v hv => hT.later (HB.out v hv) hT0
  have HLB : Hid (∀ v, Below w1.heap.size w1 v → SlY yE v a1 L.length cl L) := fun v hv => hL.later (HB.out v hv)
  have HDB : Hid (∀ v, Below w1.heap.size w1 v → SlY yD v a2 D.length cv D) := fun v hv => hD.later (HB.out v hv)
  have h1 : Below w1.heap.size w1 w1 := Below.refl _ _
  have HT1 := hide (HTB.out w1 h1)
  have HL1 := hide (HLB.out w1 h1)
  have HD1 := hide (HDB.out w1 h1)
  have HFI := hide hfit
  have HFE := hide hfe
  have HFD := hide hd
  have HFDs := hide hds
  have HLN := hide hlen
  have H1P := hide M1.lt
  clear M1 b1 z1 hB hq1 hc1 hL hD hfit hfe hd hds hlen hT
  refine wp_region_lit ?_
  refine vl_gen (fun T => T.size = 30 ∧ T[2]? = some (gw true (.pointer (some ⟨w.heap.size, 0, none⟩))) ∧ T[3]? = some (gw true (.pointer (some ⟨w.heap.size + 1, 0, none⟩)))) ⟨rfl, rfl, rfl⟩ (fun T0 ⟨hz, s2, s3⟩ => ?_)
  refine vt (.agg #[.int .i64 c.f, .int .i64 c.r, .int .i64 c.p, .bool c.u]) (ex_ld rfl (ev s2 rfl) ((HC.out w1 h1).ldAll)) hz (fun Ya zz kk s10 => ?_)
  replace s3 := ku s3
  replace hz := zz
  clear kk zz s2
  refine vt (m.val (.slice a1 L.length cl) (.slice a2 D.length cv)) (ex_ld rfl (ev s3 rfl) ((HM.out w1 h1).ldAll)) hz (fun Yb zz kk s11 => ?_)
  replace s3 := ku s3
  replace s10 := ku s10
  replace hz := zz
  clear kk zz Ya
  refine vcallP (want_none rfl) (ex_call rfl (by simp only [List.map_toArray, List.map_cons, List.map_nil, (ev s10 rfl), (ev s11 rfl), evc] <;> rfl) rfl) (checkM_any c m a1 a2 cl cv L D w1 HT1.out HL1.out HFI.out HD1.out HFE.out) rfl hz (by decide) ?_
  rintro e w2 ⟨rfl, hb2⟩
  refine ⟨_, rfl, fun Yc zz kk s12 => ?_⟩
  replace s3 := ku s3
  replace hz := zz
  clear kk zz s10 s11 Yb
  refine vt _ (ex_assign rfl (ev s12 rfl)) hz (fun Yd zz kk s6 => ?_)
  replace s3 := ku s3
  replace hz := zz
  clear kk zz s12 Yc
  refine wpList_nil ?_
  go_upto_region 2 with fail
  refine wp_region_lit ?_
  refine vt _ (ex_move rfl (ev s6 rfl)) hz (fun Ye zz kk s13 => ?_)
  replace s3 := ku s3
  replace s6 := ku s6
  replace hz := zz
  clear kk zz
  refine vt (.bool (!decide ((ckM c m L D) = 0))) (ex_bin rfl (ev s13 rfl) rfl (neqEr _ _ _ _ _)) hz (fun Yf zz kk s14 => ?_)
  replace s3 := ku s3
  replace s6 := ku s6
  replace hz := zz
  clear kk zz s13 Ye
  refine wpList_nil ?_
  go_upto_region 4 with fail
  cases e2 : !decide (ckM c m L D = 0)
  rotate_left
  · refine wp_cond_true ((ev s14 rfl).trans (congrArg Value.bool e2)) ?_
    have hn : ¬ ckM c m L D = 0 := by simpa using e2
    have EN : enB c m L D = [] := by unfold enB; rw [if_neg hn]
    go_upto_region 3 with fail
    refine wp_region_lit ?_
    clear s14 s3 e2
    refine vt _ (ex_move rfl (ev s6 rfl)) hz (fun Yg zz kk s15 => ?_)
    replace hz := zz
    clear kk zz s6
    refine vt (.slice none 0 0) (ex_assign rfl rfl) hz (fun Yh zz kk s4 => ?_)
    replace s15 := ku s15
    replace hz := zz
    clear kk zz Yg
    refine vt _ (ex_assign rfl (ev s15 rfl)) hz (fun Yi zz kk s5 => ?_)
    replace s4 := ku s4
    replace hz := zz
    clear kk zz s15 Yh
    refine wpList_nil ?_
    have hfin := (HB.out w2 hb2)
    clear HC HM HB HTB HLB HDB HT1 HL1 HD1
    go_wp2
    refine bodyPost_ret2 rfl s4 s5 ⟨_, rfl, ?_, hfin⟩
    rw [EN]
    exact Wi.Own.nil _ _
  refine wp_cond_false ((ev s14 rfl).trans (congrArg Value.bool e2)) ?_
  have hck : ckM c m L D = 0 := by simpa using e2
  clear s14 e2
  obtain ⟨hmg, hk1, hk2⟩ := ck_mgF hck HFE.out HFI.out HFD.out HFDs.out HLN.out
  obtain ⟨k, hmk⟩ := Int.eq_ofNat_of_zero_le (show 0 ≤ m.k by omega)
  have EN : enB c m L D = M.frame (mbBy m L D k) := by unfold enB; rw [if_pos hck, hmk]; rfl
  have hlb0 : (mbBy m L D k).length ≤ 28009 := by
    have f1 := form_le (show k < 2 ^ 64 by omega)
    have f2 := colsBy_le hmg k 10
    unfold mbBy
    rw [List.length_append]
    omega
  have hlb : (mbBy m L D k).length ≤ 140737488355328 := by omega
  obtain ⟨w4, hw4⟩ : ∃ w4, w4 = w2.alloc (.cells #[.pointer none, .int .i64 0, .int .i64 0] 112) := ⟨_, rfl⟩
  have hs4 : w4.heap.size = w2.heap.size + 1 := by rw [hw4]; simp
  have hb24 : Below w2.heap.size w2 w4 := by rw [hw4]; exact (Below.refl _ _).alloc (Nat.le_refl _) _
  have hb4 : Below w1.heap.size w1 w4 := hb2.trans (hb24.mono hb2.size)
  have hpos : 0 < w2.heap.size := Nat.lt_of_lt_of_le (Nat.lt_of_le_of_lt (Nat.zero_le _) H1P.out) hb2.size
  have hO4 : Wi.WOkT w4 w2.heap.size [] := .inl ⟨rfl, ⟨by omega, by rw [hw4]; exact cell_box _ _ _ _ _ rfl, by rw [hw4]; exact cell_box _ _ _ _ _ rfl, by rw [hw4]; exact cell_box _ _ _ _ _ rfl, by rw [hw4]; exact froz_box _ _ _ _, by rw [hw4]; exact froz_box _ _ _ _, by rw [hw4]; exact froz_box _ _ _ _⟩, by rw [hw4]; exact Wi.wtyp_new _ _⟩
  go_upto_region 4 with fail
  refine wp_region_lit ?_
  refine vw (.pointer (some ⟨w2.heap.size, 0, none⟩)) w4 (want_none rfl) (ex_al rfl (by rw [hw4]; go_simp)) rfl hz (by decide) (fun Yj zz kk s7 => ?_)
  replace s3 := ku s3
  replace s6 := ku s6
  replace hz := zz
  clear kk zz
  refine wpList_nil ?_
  go_upto_region 5 with fail
  refine wp_region_lit ?_
  refine vt (m.val (.slice a1 L.length cl) (.slice a2 D.length cv)) (ex_ld rfl (ev s3 rfl) ((HM.out w4 hb4).ldAll)) hz (fun Yk zz kk s16 => ?_)
  replace s3 := ku s3
  replace s6 := ku s6
  replace s7 := ku s7
  replace hz := zz
  clear kk zz
  refine vcallP (want_none rfl) (ex_call rfl (by simp only [List.map_toArray, List.map_cons, List.map_nil, (ev s7 rfl), (ev s16 rfl), evc] <;> rfl) rfl) (wmessage_tk w2.heap.size w2.heap.size [] m k hmk (by omega) a1 a2 cl cv L D w2 w4 (Nat.le_refl _) hpos (HTB.out w4 hb4) hb24 (Nat.le_refl _) (HLB.out w2 hb2) (HDB.out w2 hb2) hmg hO4 (by show 0 + 100000 ≤ _; omega)) rfl hz (by decide) ?_
  rintro e w5 ⟨rfl, hO5, hb5, ht5⟩
  refine ⟨_, rfl, fun Yl zz kk s17 => ?_⟩
  rw [List.nil_append] at hO5
  replace s3 := ku s3
  replace s6 := ku s6
  replace s7 := ku s7
  replace hz := zz
  clear kk zz s16 Yk
  refine wpList_nil ?_
  go_upto_region 6 with fail
  refine wp_region_lit ?_
  refine vt (.pointer (some ⟨w2.heap.size, 0, none⟩)) (ex_fa rfl (ev s7 rfl) (by go_simp)) hz (fun Ym zz kk s19 => ?_)
  replace hz := zz
  clear kk zz s3 s6 s7 s17
  refine vcallP (want_none rfl) (ex_call rfl (by simp only [List.map_toArray, List.map_cons, List.map_nil, (ev s19 rfl), evc] <;> rfl) rfl) (Wi.bytes_any w2.heap.size (mbBy m L D k) w5 hO5.ok hlb) rfl hz (by decide) ?_
  rintro e w6 ⟨v6, rfl, hO6, hb6⟩; obtain ⟨a6, n6, c6, rfl, hs6, _⟩ := hO6.hs (mbBy_byte hmg (by omega))
  refine ⟨_, rfl, fun Yn zz kk s20 => ?_⟩
  replace hz := zz
  clear kk zz s19 Ym
  refine vt _ (ex_move rfl (ev s20 rfl)) hz (fun Yo zz kk s18 => ?_)
  replace hz := zz
  clear kk zz s20 Yn
  refine vt (.slice a6 n6 c6) (ex_ext rfl (ev s18 rfl) rfl) hz (fun Yp zz kk s21 => ?_)
  replace s18 := ku s18
  replace hz := zz
  clear kk zz Yo
  refine vt (.int .i64 0) (ex_ext rfl (ev s18 rfl) rfl) hz (fun Yq zz kk s22 => ?_)
  replace s21 := ku s21
  replace hz := zz
  clear kk zz s18 Yp
  refine vt _ (ex_assign rfl (ev s21 rfl)) hz (fun Yr zz kk s8 => ?_)
  replace s22 := ku s22
  replace hz := zz
  clear kk zz s21 Yq
  refine vt _ (ex_assign rfl (ev s22 rfl)) hz (fun Ys zz kk s9 => ?_)
  replace s8 := ku s8
  replace hz := zz
  clear kk zz s22 Yr
  refine wpList_nil ?_
  go_upto_region 7 with fail
  refine wp_region_lit ?_
  refine vt _ (ex_move rfl (ev s9 rfl)) hz (fun Yt zz kk s23 => ?_)
  replace s8 := ku s8
  replace s9 := ku s9
  replace hz := zz
  clear kk zz
  refine vt (.bool (!decide (0 = 0))) (ex_bin rfl (ev s23 rfl) rfl (neqEr _ _ _ _ _)) hz (fun Yu zz kk s24 => ?_)
  replace s8 := ku s8
  replace s9 := ku s9
  replace hz := zz
  clear kk zz s23 Yt
  refine wpList_nil ?_
  go_upto_region 9 with fail
  refine wp_cond_false ((ev s24 rfl).trans (congrArg Value.bool (by decide))) ?_
  clear s24
  go_upto_region 9 with fail
  refine wp_region_lit ?_
  refine vt _ (ex_move rfl (ev s8 rfl)) hz (fun Yv zz kk s26 => ?_)
  replace hz := zz
  clear kk zz s8 s9
  refine vcallP (want_none rfl) (ex_call rfl (by simp only [List.map_toArray, List.map_cons, List.map_nil, (ev s26 rfl), evc] <;> rfl) rfl) (Wi.seal_ok a6 n6 c6 (mbBy m L D k) w6 hs6 (by have := hs6.len; omega)) rfl hz (by decide) ?_
  rintro e w7 ⟨v7, rfl, hO7, _, hb7⟩
  refine ⟨_, rfl, fun Yw zz kk s27 => ?_⟩
  replace hz := zz
  clear kk zz s26 Yv
  refine vt (v7) (ex_ext rfl (ev s27 rfl) rfl) hz (fun Yx zz kk s28 => ?_)
  replace s27 := ku s27
  replace hz := zz
  clear kk zz Yw
  refine vt (.int .i64 0) (ex_ext rfl (ev s27 rfl) rfl) hz (fun Yy zz kk s29 => ?_)
  replace s28 := ku s28
  replace hz := zz
  clear kk zz s27 Yx
  refine vt _ (ex_assign rfl (ev s28 rfl)) hz (fun Yz zz kk s4 => ?_)
  replace s29 := ku s29
  replace hz := zz
  clear kk zz s28 Yy
  refine vt _ (ex_assign rfl (ev s29 rfl)) hz (fun Y0 zz kk s5 => ?_)
  replace s4 := ku s4
  replace hz := zz
  clear kk zz s29 Yz
  refine wpList_nil ?_
  have hbB : Below w1.heap.size w1 w7 := hb4.trans ((hb5.mono hb2.size).trans ((hb6.mono (Nat.le_trans hb4.size hb5.size)).trans (hb7.mono (Nat.le_trans (Nat.le_trans hb4.size hb5.size) hb6.size))))
  have hfin := HB.out w7 hbB
  have hfin0 := HB.out w1 h1
  have hown := Wi.Own.low hO7 (Nat.le_trans hfin0.size (Nat.le_trans (Nat.le_trans hb4.size hb5.size) hb6.size))
  clear HC HM HB HTB HLB HDB HT1 HL1 HD1
  go_wp2
  refine bodyPost_ret2 rfl s4 s5 ⟨_, by rw [hck], ?_, hfin⟩
  rw [EN]
  exact hown
theorem bodyPost_ret1 {fn : Func} {R : Ending → World → Prop} {T : Array Value} {t : Tmp} {V : Value} {w : World} (h : fn.results = #[.tmp t]) (hT : T[t]? = some (gw true V)) (hR : R (.returned V) w) : bodyPost Tryz.prog fn R .ret ⟨T, []⟩ w := by
  refine bodyPost_ret (v := V) ?_ rfl hR
  have e1 : T.getD t undef = V := getD_of hT
  rw [results_tmp h, e1]
theorem ex_bs {o : Oper} {ρ : Operand → Value} {s : TypeId} {k : Nat} {ps : Array (Nat × Operand)} {P : Array (Nat × Value)} {V : Value} {w w' : World} (ho : o.op = .buildSlice s k ps) (hp : ps.map (fun (i, x) => (i, ρ x)) = P) (hr : (Instr.buildSlice s k P).run Tryz.prog w = .ok V w') : (execOp ρ o).run Tryz.prog w = .ok (.value V) w' := by
  unfold execOp
  simp only [ho, hp, Sem.run_bind, hr, Result.andThen_ok]
  rfl
theorem v_cond {x : Code} {R : Exit → Act → World → Prop} {T : Array Value} {w : World} {t : Nat} {b : Bool} (J : Array Value → World → Prop) (ht : T[t]? = some (gw true (.bool b))) (h1 : b = true → x.wp Tryz.prog (Exit.then (fun a w' => ∃ T', a = ⟨T', []⟩ ∧ J T' w') R) ⟨T, []⟩ w) (h2 : b = false → J T w) (hk : ∀ T' w', J T' w' → R .normal ⟨T', []⟩ w') : (Code.cond (.tmp t) x Code.skip).wp Tryz.prog R ⟨T, []⟩ w := by
  cases b with
  | true =>
    refine wp_cond_true (ev ht rfl) (Code.wp_mono (fun e a' w' h => ?_) (h1 rfl))
    cases e with
    | normal =>
      obtain ⟨T', rfl, hJ⟩ := h
      exact hk T' w' hJ
    | _ => exact h
  | false => exact wp_cond_false (ev ht rfl) (wp_skip (hk T w (h2 rfl)))
end Go.Proofs.YtibedokegignhaaGreatDoor
namespace Go.Proofs.YtibedokegignhaaGreatDoor.Wi
open Go.RowKit
structure Only (b : Nat) (w w' : World) : Prop where
  bel : Below b w w'
  same : w'.heap.size = w.heap.size
  block : ∀ k, k ≠ b → w'.heap[k]? = w.heap[k]?
theorem Only.refl (b : Nat) (w : World) : Only b w w := ⟨Below.refl _ _, rfl, fun _ _ => rfl⟩
theorem Only.setCell {b : Nat} {w0 w : World} (h : Only b w0 w) (j : Nat) (u : Value) : Only b w0 (w.setCell ⟨b, j, none⟩ u) :=
  ⟨h.bel.setCell (Nat.le_refl _) u, by simp [World.setCell, h.same], fun k hk => (Below.heap_setCell w ⟨b, j, none⟩ u k hk).trans (h.block k hk)⟩
theorem Only.drewN {b : Nat} {w0 w : World} (h : Only b w0 w) (k : Nat) : Only b w0 (w.drewN k) := ⟨below_drewN h.bel k, h.same, h.block⟩
theorem Only.cell {b : Nat} {w w' : World} (h : Only b w w') {p : Addr} (hp : p.block ≠ b) : w'.cell? p = w.cell? p := World.cell?_of_block (h.block _ hp)
theorem tc_quiet (a : Option Addr) (n c : Nat) (l : List Int) (m : Int) (w : World) (k : Nat) (h : Hs w a n c l) (hm : c ≤ maxLen) (q : m ≤ 9223372036854775807) :
    Calls Tryz.prog 151 #[.slice a n c, .int .i64 m] (w.drewN k) fun e w' => e = .returned (.tuple #[.int .i64 (tcVal m l), .int .i64 (tcSize m l), .int .i64 (tcErr m l)]) ∧ ∃ j, w' = w.drewN j := by
  refine (tc_any a n c l m (w.drewN k) (h.later (below_drewN (Below.refl _ _) k)) hm q).mono ?_
  rintro e w' ⟨rfl, j, rfl⟩
  exact ⟨rfl, _, World.drewN_drewN _ _ _⟩
theorem tt_quiet (a : Option Addr) (n c : Nat) (l : List Int) (m : Int) (w : World) (k : Nat) (h : Hs w a n c l) (hm : c ≤ maxLen) (q : m ≤ 9223372036854775807) :
    Calls Tryz.prog 154 #[.slice a n c, .int .i64 m] (w.drewN k) fun e w' => e = .returned (.tuple #[.string (strOfNums (ttList m l)), .int .i64 (ttSize m l), .int .i64 (ttErr m l)]) ∧ ∃ j, w' = w.drewN j := by
  refine (tt_any a n c l m (w.drewN k) (h.later (below_drewN (Below.refl _ _) k)) hm q).mono ?_
  rintro e w' ⟨rfl, j, rfl⟩
  exact ⟨rfl, _, World.drewN_drewN _ _ _⟩
theorem ttSize_le (m : Int) (l : List Int) : ttSize m l ≤ l.length := by
  by_cases h : ttErr m l = 0
  · have h2 : ttSize m l = tcSize m l + tcVal m l := by unfold ttSize; rw [if_pos h]
    rw [h2]
    unfold ttErr at h
    split at h
    · rename_i h3; exact absurd h h3
    · split at h
      · cases h
      · omega
  · rw [(tt_bad h).2]; exact Nat.zero_le _
set_option maxHeartbeats 400000 in
theorem count_core (b : Nat) (a a' : Option Addr) (n c : Nat) (l : List Int) (p : Nat) (m : Int) (q : m ≤ 9223372036854775807) (w : World) (h : RSt w b a n c l p 0) (n' c' : Nat) (h' : Hs w a' n' c' (l.drop p)) (ha : (∃ g, a = some ⟨g, 0, none⟩ ∧ p < c ∧ a' = some ⟨g, p, none⟩ ∧ n' = n - p ∧ c' = c - p) ∨ (∃ g, a = some ⟨g, 0, none⟩ ∧ n = p ∧ c = p ∧ a' = some ⟨g, 0, none⟩ ∧ n' = 0 ∧ c' = 0) ∨ (a = none ∧ n = 0 ∧ c = 0 ∧ p = 0 ∧ a' = none ∧ n' = 0 ∧ c' = 0)) :
    Calls Tryz.prog 143 #[.pointer (some ⟨b, 0, none⟩), .int .i64 m] w fun e w' => e = .returned (.int .i64 (tcVal m (l.drop p))) ∧ ∃ k, w' = ((w.setCell ⟨b, 2, none⟩ (.int .i64 ((p + tcSize m (l.drop p) : Nat) : Int))).setCell ⟨b, 3, none⟩ (.int .i64 (tcErr m (l.drop p)))).drewN k := by
  obtain ⟨hlt, c0, c1, c2, c3, f2, f3, hs, cmax, ne, hle⟩ := h
  have hcap := hs.cap
  have hc' : c' ≤ maxLen := by
    rcases ha with ⟨g, _, _, _, _, hc⟩ | ⟨g, _, _, _, _, _, hc⟩ | ⟨_, _, _, _, _, _, hc⟩ <;> omega
  have HQ := fun k => hide (tc_quiet a' n' c' (l.drop p) m w k h' hc' q)
  have hsz := tcSize_le m (l.drop p) h'.byte
  have hln : (l.drop p).length = n - p := by rw [List.length_drop, hs.len]
  unfold maxLen at cmax
  clear hs ne h'
  generalize tcVal m (l.drop p) = V at *
  generalize tcSize m (l.drop p) = S at *
  generalize tcErr m (l.drop p) = E at *
  have hS : S ≤ 9 := hsz.2
  have hb1 : p + S ≤ 9223372036854775807 := by omega
  clear hsz hln hc'
  have HS := fun k => hide (step_any b p S E 0 (w.drewN k) c2 c3 f2 f3 hb1)
  rcases ha with ⟨g, rfl, hpc, rfl, rfl, rfl⟩ | ⟨g, rfl, rfl, rfl, rfl, rfl, rfl⟩ | ⟨rfl, rfl, rfl, rfl, rfl, rfl, rfl⟩
  all_goals
    go_enter Tryz.func143, Tryz.ntmps143
    go_wp2_with (go_at_call 150; go_in)
    go_quiet ((go_at_call 151; exact (HQ _).out))
    go_wp2_with fail
    refine (HS _).out.mono ?_
    rintro e w' ⟨rfl, rfl⟩
    clear HS HQ
    go_wp2
    go_ret
    first | exact ⟨rfl, _, rfl⟩ | exact ⟨rfl, nq, by rw [Nat.zero_add]; rfl⟩
theorem rd_count (b : Nat) (a : Option Addr) (n c : Nat) (l : List Int) (p : Nat) (m : Int) (q : m ≤ 9223372036854775807) (w : World) (h : RSt w b a n c l p 0) :
    Calls Tryz.prog 143 #[.pointer (some ⟨b, 0, none⟩), .int .i64 m] w fun e w' => e = .returned (.int .i64 (tcVal m (l.drop p))) ∧ RSt w' b a n c l (p + tcSize m (l.drop p)) (tcErr m (l.drop p)) ∧ Only b w w' := by
  have hsz := (tcSize_le m (l.drop p) (fun z hz => h.hs.byte z (List.mem_of_mem_drop hz))).1
  rw [List.length_drop, h.hs.len] at hsz
  have hle := h.le
  have hcap := h.hs.cap
  have fin : ∀ a' n' c', Hs w a' n' c' (l.drop p) → _ → Calls Tryz.prog 143 #[.pointer (some ⟨b, 0, none⟩), .int .i64 m] w fun e w' => e = .returned (.int .i64 (tcVal m (l.drop p))) ∧ RSt w' b a n c l (p + tcSize m (l.drop p)) (tcErr m (l.drop p)) ∧ Only b w w' :=
    fun a' n' c' h1 h2 => (count_core b a a' n c l p m q w h n' c' h1 h2).mono (by
      rintro e w' ⟨rfl, k, rfl⟩
      exact ⟨rfl, h.stepped _ _ k (by omega), (((Only.refl _ _).setCell _ _).setCell _ _).drewN k⟩)
  cases ha : a with
  | none =>
    subst ha
    obtain ⟨e1, e2⟩ := h.hs.nil rfl
    have e3 := h.hs.len
    rw [e1] at e3
    obtain rfl : 0 = n := e3
    subst e2
    obtain rfl : p = 0 := by omega
    exact fin none 0 0 h.hs (.inr (.inr ⟨rfl, rfl, rfl, rfl, rfl, rfl, rfl⟩))
  | some x =>
    subst ha
    obtain ⟨g, rfl, hg⟩ := h.ne x rfl
    by_cases hp : p < c
    · exact fin _ _ _ (h.hs.rest p hle) (.inl ⟨g, rfl, hp, rfl, rfl, rfl⟩)
    · have e1 : c = p := by omega
      have e2 : n = p := by omega
      have h2 := h.hs.rest_end (by omega)
      rw [e1] at h2
      exact fin _ 0 0 h2 (.inr (.inl ⟨g, rfl, e2, e1, rfl, rfl, rfl⟩))
theorem rd_count_err (b : Nat) (a : Option Addr) (n c : Nat) (l : List Int) (p : Nat) (E : Int) (m : Int) (w : World) (h : RSt w b a n c l p E) (hE : E ≠ 0) :
    Calls Tryz.prog 143 #[.pointer (some ⟨b, 0, none⟩), .int .i64 m] w fun e w' => e = .returned (.int .i64 0) ∧ w' = w := by
  obtain ⟨hlt, c0, c1, c2, c3, f2, f3, hs, cmax, ne, hle⟩ := h
  have hb : (E == 0) = false := by simp [hE]
  clear hs ne
  go_enter Tryz.func143, Tryz.ntmps143
  go_wp2
  go_ret
  exact ⟨rfl, rfl⟩
set_option maxHeartbeats 400000 in
theorem text_core (b : Nat) (a a' : Option Addr) (n c : Nat) (l : List Int) (p : Nat) (m : Int) (q : m ≤ 9223372036854775807) (w : World) (h : RSt w b a n c l p 0) (n' c' : Nat) (h' : Hs w a' n' c' (l.drop p)) (ha : (∃ g, a = some ⟨g, 0, none⟩ ∧ p < c ∧ a' = some ⟨g, p, none⟩ ∧ n' = n - p ∧ c' = c - p) ∨ (∃ g, a = some ⟨g, 0, none⟩ ∧ n = p ∧ c = p ∧ a' = some ⟨g, 0, none⟩ ∧ n' = 0 ∧ c' = 0) ∨ (a = none ∧ n = 0 ∧ c = 0 ∧ p = 0 ∧ a' = none ∧ n' = 0 ∧ c' = 0)) :
    Calls Tryz.prog 145 #[.pointer (some ⟨b, 0, none⟩), .int .i64 m] w fun e w' => e = .returned (.string (strOfNums (ttList m (l.drop p)))) ∧ ∃ k, w' = ((w.setCell ⟨b, 2, none⟩ (.int .i64 ((p + ttSize m (l.drop p) : Nat) : Int))).setCell ⟨b, 3, none⟩ (.int .i64 (ttErr m (l.drop p)))).drewN k := by
  obtain ⟨hlt, c0, c1, c2, c3, f2, f3, hs, cmax, ne, hle⟩ := h
  have hcap := hs.cap
  have hc' : c' ≤ maxLen := by
    rcases ha with ⟨g, _, _, _, _, hc⟩ | ⟨g, _, _, _, _, _, hc⟩ | ⟨_, _, _, _, _, _, hc⟩ <;> omega
  have HQ := fun k => hide (tt_quiet a' n' c' (l.drop p) m w k h' hc' q)
  have hsz := ttSize_le m (l.drop p)
  have hln : (l.drop p).length = n - p := by rw [List.length_drop, hs.len]
  unfold maxLen at cmax
  clear hs ne h'
  generalize ttList m (l.drop p) = V at *
  generalize ttSize m (l.drop p) = S at *
  generalize ttErr m (l.drop p) = E at *
  have hb1 : p + S ≤ 9223372036854775807 := by omega
  clear hsz hln hc'
  have HS := fun k => hide (step_any b p S E 0 (w.drewN k) c2 c3 f2 f3 hb1)
  rcases ha with ⟨g, rfl, hpc, rfl, rfl, rfl⟩ | ⟨g, rfl, rfl, rfl, rfl, rfl, rfl⟩ | ⟨rfl, rfl, rfl, rfl, rfl, rfl, rfl⟩
  all_goals
    go_enter Tryz.func145, Tryz.ntmps145
    go_wp2_with (go_at_call 150; go_in)
    go_quiet ((go_at_call 154; exact (HQ _).out))
    go_wp2_with fail
    refine (HS _).out.mono ?_
    rintro e w' ⟨rfl, rfl⟩
    clear HS HQ
    go_wp2
    go_ret
    first | exact ⟨rfl, _, rfl⟩ | exact ⟨rfl, nq, by rw [Nat.zero_add]; rfl⟩
theorem rd_text (b : Nat) (a : Option Addr) (n c : Nat) (l : List Int) (p : Nat) (m : Int) (q : m ≤ 9223372036854775807) (w : World) (h : RSt w b a n c l p 0) :
    Calls Tryz.prog 145 #[.pointer (some ⟨b, 0, none⟩), .int .i64 m] w fun e w' => e = .returned (.string (strOfNums (ttList m (l.drop p)))) ∧ RSt w' b a n c l (p + ttSize m (l.drop p)) (ttErr m (l.drop p)) ∧ Only b w w' := by
  have hsz := (ttSize_le m (l.drop p))
  rw [List.length_drop, h.hs.len] at hsz
  have hle := h.le
  have hcap := h.hs.cap
  have fin : ∀ a' n' c', Hs w a' n' c' (l.drop p) → _ → Calls Tryz.prog 145 #[.pointer (some ⟨b, 0, none⟩), .int .i64 m] w fun e w' => e = .returned (.string (strOfNums (ttList m (l.drop p)))) ∧ RSt w' b a n c l (p + ttSize m (l.drop p)) (ttErr m (l.drop p)) ∧ Only b w w' :=
    fun a' n' c' h1 h2 => (text_core b a a' n c l p m q w h n' c' h1 h2).mono (by
      rintro e w' ⟨rfl, k, rfl⟩
      exact ⟨rfl, h.stepped _ _ k (by omega), (((Only.refl _ _).setCell _ _).setCell _ _).drewN k⟩)
  cases ha : a with
  | none =>
    subst ha
    obtain ⟨e1, e2⟩ := h.hs.nil rfl
    have e3 := h.hs.len
    rw [e1] at e3
    obtain rfl : 0 = n := e3
    subst e2
    obtain rfl : p = 0 := by omega
    exact fin none 0 0 h.hs (.inr (.inr ⟨rfl, rfl, rfl, rfl, rfl, rfl, rfl⟩))
  | some x =>
    subst ha
    obtain ⟨g, rfl, hg⟩ := h.ne x rfl
    by_cases hp : p < c
    · exact fin _ _ _ (h.hs.rest p hle) (.inl ⟨g, rfl, hp, rfl, rfl, rfl⟩)
    · have e1 : c = p := by omega
      have e2 : n = p := by omega
      have h2 := h.hs.rest_end (by omega)
      rw [e1] at h2
      exact fin _ 0 0 h2 (.inr (.inl ⟨g, rfl, e2, e1, rfl, rfl, rfl⟩))
theorem rd_text_err (b : Nat) (a : Option Addr) (n c : Nat) (l : List Int) (p : Nat) (E : Int) (m : Int) (w : World) (h : RSt w b a n c l p E) (hE : E ≠ 0) :
    Calls Tryz.prog 145 #[.pointer (some ⟨b, 0, none⟩), .int .i64 m] w fun e w' => e = .returned (.string (strOfNums [])) ∧ w' = w := by
  obtain ⟨hlt, c0, c1, c2, c3, f2, f3, hs, cmax, ne, hle⟩ := h
  have hb : (E == 0) = false := by simp [hE]
  clear hs ne
  go_enter Tryz.func145, Tryz.ntmps145
  go_wp2
  go_ret
  exact ⟨rfl, rfl⟩
theorem rd_number2 (b : Nat) (a : Option Addr) (n c : Nat) (l : List Int) (p : Nat) (w : World) (h : RSt w b a n c l p 0) :
    Calls Tryz.prog 144 #[.pointer (some ⟨b, 0, none⟩)] w fun e w' => e = .returned (.int .u64 (tnVal (l.drop p))) ∧ RSt w' b a n c l (p + tnSize (l.drop p)) (tnErr (l.drop p)) ∧ Only b w w' := by
  have hsz := (tnSize_le (l.drop p) (fun z hz => h.hs.byte z (List.mem_of_mem_drop hz))).1
  rw [List.length_drop, h.hs.len] at hsz
  have hle := h.le
  have hcap := h.hs.cap
  have fin : ∀ a' n' c', Hs w a' n' c' (l.drop p) → _ → Calls Tryz.prog 144 #[.pointer (some ⟨b, 0, none⟩)] w fun e w' => e = .returned (.int .u64 (tnVal (l.drop p))) ∧ RSt w' b a n c l (p + tnSize (l.drop p)) (tnErr (l.drop p)) ∧ Only b w w' :=
    fun a' n' c' h1 h2 => (number_core b a a' n c l p w h n' c' h1 h2).mono (by
      rintro e w' ⟨rfl, k, rfl⟩
      exact ⟨rfl, h.stepped _ _ k (by omega), (((Only.refl _ _).setCell _ _).setCell _ _).drewN k⟩)
  cases ha : a with
  | none =>
    subst ha
    obtain ⟨e1, e2⟩ := h.hs.nil rfl
    have e3 := h.hs.len
    rw [e1] at e3
    obtain rfl : 0 = n := e3
    subst e2
    obtain rfl : p = 0 := by omega
    exact fin none 0 0 h.hs (.inr (.inr ⟨rfl, rfl, rfl, rfl, rfl, rfl, rfl⟩))
  | some x =>
    subst ha
    obtain ⟨g, rfl, hg⟩ := h.ne x rfl
    by_cases hp : p < c
    · exact fin _ _ _ (h.hs.rest p hle) (.inl ⟨g, rfl, hp, rfl, rfl, rfl⟩)
    · have e1 : c = p := by omega
      have e2 : n = p := by omega
      have h2 := h.hs.rest_end (by omega)
      rw [e1] at h2
      exact fin _ 0 0 h2 (.inr (.inl ⟨g, rfl, e2, e1, rfl, rfl, rfl⟩))
theorem rd_int (b : Nat) (a : Option Addr) (n c : Nat) (l : List Int) (p : Nat) (m : Int) (q : m ≤ 9223372036854775807) (w : World) (h : RSt w b a n c l p 0) :
    Calls Tryz.prog 127 #[.pointer (some ⟨b, 0, none⟩), .int .i64 m] w fun e w' => e = .returned (.int .i64 (tcVal m (l.drop p))) ∧ RSt w' b a n c l (p + tcSize m (l.drop p)) (tcErr m (l.drop p)) ∧ Only b w w' := by
  have HC := hide (rd_count b a n c l p m q w h)
  clear h
  go_enter Tryz.func127, Tryz.ntmps127
  go_wp2_with fail
  refine HC.out.mono ?_
  rintro e w' ⟨rfl, h1, h2⟩
  clear HC
  go_wp2
  go_ret
  exact ⟨rfl, h1, h2⟩
theorem rd_int_err (b : Nat) (a : Option Addr) (n c : Nat) (l : List Int) (p : Nat) (E : Int) (m : Int) (w : World) (h : RSt w b a n c l p E) (hE : E ≠ 0) :
    Calls Tryz.prog 127 #[.pointer (some ⟨b, 0, none⟩), .int .i64 m] w fun e w' => e = .returned (.int .i64 0) ∧ w' = w := by
  have HC := hide (rd_count_err b a n c l p E m w h hE)
  clear h
  go_enter Tryz.func127, Tryz.ntmps127
  go_wp2_with fail
  refine HC.out.mono ?_
  rintro e w' ⟨rfl, h1⟩
  rw [h1]
  clear HC
  go_wp2
  go_ret
  exact ⟨rfl, rfl⟩
end Go.Proofs.YtibedokegignhaaGreatDoor.Wi
namespace Go.Proofs.YtibedokegignhaaGreatDoor.Wi
open Go.RowKit
def RnPost (p : Nat) (q : List Int) (w : World) (e : Ending) (w' : World) : Prop := e = .returned (.tuple #[.int .u64 (tnVal q), .int .i64 ((p + tnSize q : Nat) : Int), .int .i64 (tnErr q)]) ∧ ∃ k, w' = w.drewN k
theorem RnPost.mk_bad {p : Nat} {q : List Int} {w : World} {E : Int} (k : Nat) (h : tnErr q = E) (hE : E ≠ 0) : RnPost p q w (.returned (.tuple #[.int .u64 0, .int .i64 p, .int .i64 E])) (w.drewN k) := by
  obtain ⟨h1, h2⟩ := tn_bad (l := q) (by rw [h]; exact hE)
  exact ⟨ret3 (by rw [h1]; rfl) (by rw [h2]; rfl) h.symm, k, rfl⟩
theorem RnPost.mk_ok {p : Nat} {k : Int} {d : List Int} {w : World} (j : Nat) (h : tnErr (k :: d) = 0) {v s : Int} (hv : v = (M.rb (d.take k.toNat) : Nat)) (hs : s = ((p + (1 + k.toNat) : Nat) : Int)) : RnPost p (k :: d) w (.returned (.tuple #[.int .u64 v, .int .i64 s, .int .i64 0])) (w.drewN j) := by
  refine ⟨ret3 ?_ ?_ h.symm, j, rfl⟩
  · unfold tnVal; rw [if_pos h, hv]; rfl
  · unfold tnSize; rw [if_pos h, hs]; rfl
theorem rn_none (a : Option Addr) (n c : Nat) (w : World) (hn : n ≤ 9223372036854775807) :
    Calls Tryz.prog 102 #[.slice a n c, .int .i64 n] w fun e w' => RnPost n [] w e w' := by
  go_enter Tryz.func102, Tryz.ntmps102
  go_wp2
  go_ret3
  exact RnPost.mk_bad 0 rfl (by decide)
set_option maxHeartbeats 1000000 in
theorem rn_more (b o n c p m : Nat) (k : Int) (d : List Int) (w : World) (hn : d.length = m) (hpm : p + m + 1 = n) (hc : n ≤ c) (hmx : n ≤ 9223372036854775807) (h0 : w.cell? ⟨b, o + p, none⟩ = some (.int .u8 k)) (hd : ∀ i, i < m → w.cell? ⟨b, o + (p + 1 + i), none⟩ = some (.int .u8 (d.getD i 0))) (hb : ∀ z ∈ k :: d, 0 ≤ z ∧ z < 256) :
    Calls Tryz.prog 102 #[.slice (some ⟨b, o, none⟩) n c, .int .i64 p] w fun e w' => RnPost p (k :: d) w e w' := by
  obtain ⟨hk0, hk1⟩ := hb k (by simp)
  have hpn : (p : Int) < (n : Int) := by omega
  by_cases h8 : 8 < k
  · have H := hide (tnErr_form (d := d) h8)
    clear hd hb hn
    go_enter Tryz.func102, Tryz.ntmps102
    go_wp2
    go_ret3
    exact RnPost.mk_bad 0 H.out (by decide)
  · by_cases hs : (m : Int) < k
    · have H := hide (tnErr_short (d := d) h8 (by rw [hn]; exact hs))
      have hs2 : (n : Int) - (p : Int) - 1 < k := by omega
      clear hd hb hn
      go_enter Tryz.func102, Tryz.ntmps102
      go_wp2
      go_ret3
      exact RnPost.mk_bad 0 H.out (by decide)
    · have hs2 : ¬ ((n : Int) - (p : Int) - 1 < k) := by omega
      by_cases hz : 0 < k ∧ d.getD 0 0 = 0
      · have H := hide (tnErr_zero h8 (by rw [hn]; exact hs) hz.1 hz.2)
        have hd0 := hd 0 (by omega)
        rw [hz.2, Nat.add_zero] at hd0
        obtain ⟨hz1, _⟩ := hz
        clear hd hb hn
        go_enter Tryz.func102, Tryz.ntmps102
        go_wp2
        go_ret3
        exact RnPost.mk_bad 0 H.out (by decide)
      · have H := hide (tnErr_ok h8 (by rw [hn]; exact hs) hz)
        obtain ⟨K, rfl⟩ := Int.eq_ofNat_of_zero_le hk0
        have hbd : ∀ z ∈ d, 0 ≤ z ∧ z < 256 := fun z hz => hb z (by simp [hz])
        have hKn : K ≤ m := by omega
        have hlen := hide hn
        by_cases hp : 0 < K
        · have hd0 := hd 0 (by omega)
          rw [Nat.add_zero] at hd0
          have hzb : (d[0]?.getD 0 == 0) = false := by
            rw [beq_eq_false_iff_ne]
            intro h
            exact hz ⟨by omega, h⟩
          have HD := hide hd
          clear hb hn hz hd
          go_enter Tryz.func102, Tryz.ntmps102
          go_wp2
          go_loop [8, 9] (fun v i => ∃ j : Nat, j ≤ K ∧ i = .int .i64 j ∧ v = .int .u64 (M.rb (d.take j) : Nat)) (fun _ i => K - (intOf i).toNat)
          case atStart => exact ⟨0, Nat.zero_le _, rfl, rfl⟩
          case round =>
            obtain ⟨j, hj, rfl, rfl⟩ := hrel
            by_cases hlt : j < K
            · have hcell := HD.out j (by omega)
              have hdl : j < d.length := by rw [hlen.out]; omega
              have hz : 0 ≤ d.getD j 0 ∧ d.getD j 0 < 256 := hbd _ (by simp [List.getD, hdl])
              have hv : M.rb (d.take j) < 256 ^ 7 := Nat.lt_of_lt_of_le (M.rb_lt (d.take j) (fun z hz => hbd z (List.mem_of_mem_take hz))) (Nat.pow_le_pow_right (by omega) (by simp; omega))
              have HT := hide (M.rb_take d j hdl)
              have HV := hide hv
              have HZ := hide hz
              have hx1 : (p : Int) + 1 + (j : Int) < (n : Int) := by omega
              clear hdl hv
              go_wp2
              go_round
              case rel =>
                have hv := HV.out
                have hz := HZ.out
                refine ⟨j + 1, by omega, by go_num, int_eq ?_⟩
                rw [HT.out]
                have e : ∀ x : Int, IntKind.u64.wrap x = x % 18446744073709551616 := fun x => by simp [IntKind.wrap, IntKind.bits, IntKind.signed]
                rw [e, e, e, show d[j]?.getD 0 = d.getD j 0 from rfl]
                omega
              case measure => simp [intOf]; omega
            · obtain rfl : j = K := by omega
              go_wp2
              go_ret3
              exact RnPost.mk_ok 0 H.out rfl (by simp; omega)
        · obtain rfl : K = 0 := by omega
          clear hb hn hz hd
          go_enter Tryz.func102, Tryz.ntmps102
          go_wp2
          go_loop [8, 9] (fun v i => v = .int .u64 0 ∧ i = .int .i64 0) (fun _ _ => 0)
          case atStart => exact ⟨rfl, rfl⟩
          case round =>
            obtain ⟨rfl, rfl⟩ := hrel
            go_wp2
            go_ret3
            exact RnPost.mk_ok 0 H.out rfl (by simp)
theorem rn_any (a : Option Addr) (n c : Nat) (l : List Int) (p : Nat) (w : World) (h : Hs w a n c l) (hm : n ≤ 9223372036854775807) (hp : p ≤ n) :
    Calls Tryz.prog 102 #[.slice a n c, .int .i64 p] w fun e w' => RnPost p (l.drop p) w e w' := by
  by_cases hpn : p < n
  · have hlp : p < l.length := by rw [h.len]; exact hpn
    rw [List.drop_eq_getElem_cons hlp]
    cases a with
    | none => have := h.len; rw [(h.nil rfl).1] at this; simp at this; omega
    | some x =>
      obtain ⟨b, o, rfl⟩ := h.flat (by omega)
      have hr := h.row _ rfl
      refine rn_more b o n c p (n - p - 1) _ _ w (by rw [List.length_drop, h.len]; omega) (by omega) h.cap hm ?_ ?_ ?_
      · have := hr p hlp
        rw [Addr.add_lit] at this
        rw [this]
        simp [List.getD, hlp]
      · intro i hi
        have := hr (p + 1 + i) (by rw [h.len]; omega)
        rw [Addr.add_lit] at this
        rw [this]
        simp [List.getD]
      · intro z hz
        rw [← List.drop_eq_getElem_cons hlp] at hz
        exact h.byte z (List.mem_of_mem_drop hz)
  · obtain rfl : p = n := by omega
    rw [List.drop_eq_nil_of_le (by rw [h.len]; exact Nat.le_refl _)]
    exact rn_none a p c w hm
end Go.Proofs.YtibedokegignhaaGreatDoor.Wi
namespace Go.Proofs.YtibedokegignhaaGreatDoor.Wi
open Go.RowKit
structure QSt (w : World) (b : Nat) (a : Option Addr) (n c p : Nat) (err : Int) : Prop where
  lt : b < w.heap.size
  c0 : w.cell? ⟨b, 0, none⟩ = some (.slice a n c)
  c1 : w.cell? ⟨b, 1, none⟩ = some (.int .i64 p)
  c2 : w.cell? ⟨b, 2, none⟩ = some (.int .i64 err)
  f1 : w.frozen? ⟨b, 1, none⟩ = false
  f2 : w.frozen? ⟨b, 2, none⟩ = false
  le : p ≤ n
theorem QSt.stepped {w : World} {b : Nat} {a : Option Addr} {n c p : Nat} {E : Int} (h : QSt w b a n c p E) (p' : Nat) (e' : Int) (k : Nat) (hp : p' ≤ n) : QSt (((w.drewN k).setCell ⟨b, 2, none⟩ (.int .i64 e')).setCell ⟨b, 1, none⟩ (.int .i64 (p' : Int))) b a n c p' e' := by
  obtain ⟨hlt, c0, c1, c2, f1, f2, hle⟩ := h
  refine ⟨?_, ?_, ?_, ?_, ?_, ?_, hp⟩
  all_goals go_simp
theorem QSt.failed {w : World} {b : Nat} {a : Option Addr} {n c p : Nat} {E : Int} (h : QSt w b a n c p E) (e' : Int) (k : Nat) : QSt ((w.drewN k).setCell ⟨b, 2, none⟩ (.int .i64 e')) b a n c p e' := by
  obtain ⟨hlt, c0, c1, c2, f1, f2, hle⟩ := h
  refine ⟨?_, ?_, ?_, ?_, ?_, ?_, hle⟩
  all_goals go_simp
theorem rn_quiet (a : Option Addr) (n c : Nat) (l : List Int) (p : Nat) (w : World) (k : Nat) (h : Hs w a n c l) (hm : n ≤ 9223372036854775807) (hp : p ≤ n) :
    Calls Tryz.prog 102 #[.slice a n c, .int .i64 p] (w.drewN k) fun e w' => e = .returned (.tuple #[.int .u64 (tnVal (l.drop p)), .int .i64 ((p + tnSize (l.drop p) : Nat) : Int), .int .i64 (tnErr (l.drop p))]) ∧ ∃ j, w' = w.drewN j := by
  refine (rn_any a n c l p (w.drewN k) (h.later (below_drewN (Below.refl _ _) k)) hm hp).mono ?_
  rintro e w' ⟨rfl, j, rfl⟩
  exact ⟨rfl, _, World.drewN_drewN _ _ _⟩
theorem rq_number (b : Nat) (a : Option Addr) (n c : Nat) (l : List Int) (p : Nat) (w : World) (h : QSt w b a n c p 0) (hh : Hs w a n c l) (hm : n ≤ 9223372036854775807) :
    Calls Tryz.prog 103 #[.pointer (some ⟨b, 0, none⟩)] w fun e w' => e = .returned (.int .u64 (tnVal (l.drop p))) ∧ QSt w' b a n c (p + tnSize (l.drop p)) (tnErr (l.drop p)) ∧ Only b w w' := by
  have HQS := hide h
  obtain ⟨hlt, c0, c1, c2, f1, f2, hle⟩ := h
  have HN := fun k => hide (rn_quiet a n c l p w k hh hm hle)
  have hsz := tnSize_le (l.drop p) (fun z hz => hh.byte z (List.mem_of_mem_drop hz))
  rw [List.length_drop, hh.len] at hsz
  have hbad := @tn_bad (l.drop p)
  clear hh
  by_cases hE : tnErr (l.drop p) = 0
  · rw [hE] at HN ⊢
    generalize tnVal (l.drop p) = V at *
    generalize tnSize (l.drop p) = S at *
    clear hbad hE
    obtain ⟨hs1, hs2⟩ := hsz
    go_enter Tryz.func103, Tryz.ntmps103
    go_wp2_with fail
    go_quiet ((go_at_call 102; exact (HN _).out))
    go_wp2
    go_ret
    have hq := HQS.out.stepped (p + S) 0 nq (by omega)
    have hbl : Only b w (((w.drewN nq).setCell ⟨b, 2, none⟩ (.int .i64 0)).setCell ⟨b, 1, none⟩ (.int .i64 ((p + S : Nat) : Int))) := (((Only.refl _ _).drewN nq).setCell _ _).setCell _ _
    exact ⟨rfl, hq, hbl⟩
  · obtain ⟨e1, e2⟩ := hbad hE
    rw [e1, e2] at HN ⊢
    have hb : (tnErr (l.drop p) != 0) = true := by simp [hE]
    generalize tnErr (l.drop p) = E at *
    clear hbad hE hsz
    go_enter Tryz.func103, Tryz.ntmps103
    go_wp2_with fail
    go_quiet ((go_at_call 102; exact (HN _).out))
    go_wp2
    go_ret
    exact ⟨rfl, HQS.out.failed E nq, ((Only.refl _ _).drewN nq).setCell _ _⟩
theorem rq_number_err (b : Nat) (a : Option Addr) (n c p : Nat) (E : Int) (w : World) (h : QSt w b a n c p E) (hE : E ≠ 0) :
    Calls Tryz.prog 103 #[.pointer (some ⟨b, 0, none⟩)] w fun e w' => e = .returned (.int .u64 0) ∧ w' = w := by
  obtain ⟨hlt, c0, c1, c2, f1, f2, hle⟩ := h
  have hb : (E != 0) = true := by simp [hE]
  go_enter Tryz.func103, Tryz.ntmps103
  go_wp2
  go_ret
  exact ⟨rfl, rfl⟩
theorem rq_end (b : Nat) (a : Option Addr) (n c p : Nat) (E : Int) (w : World) (h : QSt w b a n c p E) (hm : n ≤ 9223372036854775807) :
    Calls Tryz.prog 58 #[.pointer (some ⟨b, 0, none⟩)] w fun e w' => e = .returned (.int .i64 (endErr n p E)) ∧ ∃ k, w' = w.drewN k := by
  obtain ⟨hlt, c0, c1, c2, f1, f2, hle⟩ := h
  by_cases hE : E = 0
  · subst hE
    by_cases hp : p < n
    · have H : Hid (endErr n p 0 = 15) := by unfold endErr; rw [if_pos rfl, if_pos hp]; rfl
      go_enter Tryz.func58, Tryz.ntmps58
      go_wp2
      go_quiet (fail)
      go_wp2
      go_ret
      exact ⟨ret_int H.out.symm, _, rfl⟩
    · have H : Hid (endErr n p 0 = 0) := by unfold endErr; rw [if_pos rfl, if_neg hp]; rfl
      go_enter Tryz.func58, Tryz.ntmps58
      go_wp2
      go_quiet (fail)
      go_wp2
      go_ret
      exact ⟨ret_int H.out.symm, _, rfl⟩
  · have H : Hid (endErr n p E = E) := by unfold endErr; rw [if_neg hE]; rfl
    have hb : (E == 0) = false := by simp [hE]
    go_enter Tryz.func58, Tryz.ntmps58
    go_wp2
    go_quiet (fail)
    go_wp2
    go_ret
    exact ⟨ret_int H.out.symm, _, rfl⟩
theorem rq_int_err (b : Nat) (a : Option Addr) (n c p : Nat) (E m : Int) (w : World) (h : QSt w b a n c p E) (hE : E ≠ 0) :
    Calls Tryz.prog 54 #[.pointer (some ⟨b, 0, none⟩), .int .i64 m] w fun e w' => e = .returned (.int .i64 0) ∧ w' = w := by
  obtain ⟨hlt, c0, c1, c2, f1, f2, hle⟩ := h
  have hb : (E != 0) = true := by simp [hE]
  go_enter Tryz.func54, Tryz.ntmps54
  go_wp2
  go_ret
  exact ⟨rfl, rfl⟩
theorem rq_text_err (b : Nat) (a : Option Addr) (n c p : Nat) (E m : Int) (w : World) (h : QSt w b a n c p E) (hE : E ≠ 0) :
    Calls Tryz.prog 57 #[.pointer (some ⟨b, 0, none⟩), .int .i64 m] w fun e w' => e = .returned (.string (strOfNums [])) ∧ w' = w := by
  have HI := hide (rq_int_err b a n c p E m w h hE)
  obtain ⟨hlt, c0, c1, c2, f1, f2, hle⟩ := h
  have hb : (E != 0) = true := by simp [hE]
  go_enter Tryz.func57, Tryz.ntmps57
  go_wp2_with fail
  refine HI.out.mono ?_
  rintro e w' ⟨rfl, hw⟩
  rw [hw]
  clear hw HI
  go_wp2
  go_ret
  exact ⟨rfl, rfl⟩
set_option maxHeartbeats 1000000 in
theorem rq_int (b : Nat) (a : Option Addr) (n c : Nat) (l : List Int) (p : Nat) (m : Int) (q : m ≤ 9223372036854775807) (w : World) (h : QSt w b a n c p 0) (hh : Hs w a n c l) (hm : n ≤ 9223372036854775807) :
    Calls Tryz.prog 54 #[.pointer (some ⟨b, 0, none⟩), .int .i64 m] w fun e w' => e = .returned (.int .i64 (tcVal m (l.drop p))) ∧ QSt w' b a n c (p + tcSize m (l.drop p)) (tcErr m (l.drop p)) ∧ Only b w w' := by
  have HQS := hide h
  obtain ⟨hlt, c0, c1, c2, f1, f2, hle⟩ := h
  have HN := fun k => hide (rn_quiet a n c l p w k hh hm hle)
  have hsz := tnSize_le (l.drop p) (fun z hz => hh.byte z (List.mem_of_mem_drop hz))
  rw [List.length_drop, hh.len] at hsz
  obtain ⟨hs1, hs2⟩ := hsz
  clear hh
  have hbad := @tc_bad m (l.drop p)
  by_cases hm0 : m < 0
  · have H : tcErr m (l.drop p) = 3 := by unfold tcErr; rw [if_pos hm0]
    obtain ⟨e1, e2⟩ := hbad (by rw [H]; decide)
    rw [e1, e2, H]
    clear HN H e1 e2 hbad hs1 hs2
    go_enter Tryz.func54, Tryz.ntmps54
    go_wp2
    go_ret
    exact ⟨rfl, HQS.out.failed 3 0, (Only.refl _ _).setCell _ _⟩
  · obtain ⟨q0, rfl⟩ := Int.eq_ofNat_of_zero_le (Int.not_lt.1 hm0)
    clear hm0
    by_cases hE : tnErr (l.drop p) = 0
    · by_cases hV : q0 < tnVal (l.drop p)
      · have H : tcErr q0 (l.drop p) = 11 := by unfold tcErr; rw [if_neg (by omega), if_neg (by simp [hE]), if_pos (by omega)]
        obtain ⟨e1, e2⟩ := hbad (by rw [H]; decide)
        rw [e1, e2, H]
        rw [hE] at HN
        clear H e1 e2 hbad hE
        generalize tnVal (l.drop p) = V at *
        generalize tnSize (l.drop p) = S at *
        go_enter Tryz.func54, Tryz.ntmps54
        go_wp2_with fail
        go_quiet ((go_at_call 102; exact (HN _).out))
        go_wp2
        go_ret
        exact ⟨rfl, HQS.out.failed 11 nq, ((Only.refl _ _).drewN nq).setCell _ _⟩
      · have H : tcErr q0 (l.drop p) = 0 := by unfold tcErr; rw [if_neg (by omega), if_neg (by simp [hE]), if_neg (by omega)]
        have H1 : tcVal q0 (l.drop p) = tnVal (l.drop p) := by unfold tcVal; rw [if_pos H]
        have H2 : tcSize q0 (l.drop p) = tnSize (l.drop p) := by unfold tcSize; rw [if_pos H]
        rw [H, H1, H2]
        rw [hE] at HN
        clear H H1 H2 hbad hE
        generalize tnVal (l.drop p) = V at *
        generalize tnSize (l.drop p) = S at *
        go_enter Tryz.func54, Tryz.ntmps54
        go_wp2_with fail
        go_quiet ((go_at_call 102; exact (HN _).out))
        go_wp2
        go_ret
        have hq := HQS.out.stepped (p + S) 0 nq (by omega)
        have hbl : Only b w (((w.drewN nq).setCell ⟨b, 2, none⟩ (.int .i64 0)).setCell ⟨b, 1, none⟩ (.int .i64 ((p + S : Nat) : Int))) := (((Only.refl _ _).drewN nq).setCell _ _).setCell _ _
        exact ⟨rfl, hq, hbl⟩
    · have H : tcErr q0 (l.drop p) = tnErr (l.drop p) := by unfold tcErr; rw [if_neg (by omega), if_pos hE]
      obtain ⟨e1, e2⟩ := hbad (by rw [H]; exact hE)
      rw [e1, e2, H]
      have hb : (tnErr (l.drop p) != 0) = true := by simp [hE]
      have hb2 : (tnErr (l.drop p) == 0) = false := by simp [hE]
      clear H e1 e2 hbad hE
      generalize tnErr (l.drop p) = E at *
      generalize tnVal (l.drop p) = V at *
      generalize tnSize (l.drop p) = S at *
      go_enter Tryz.func54, Tryz.ntmps54
      go_wp2_with fail
      go_quiet ((go_at_call 102; exact (HN _).out))
      go_wp2
      go_ret
      exact ⟨rfl, HQS.out.failed E nq, ((Only.refl _ _).drewN nq).setCell _ _⟩
end Go.Proofs.YtibedokegignhaaGreatDoor.Wi
namespace Go.Proofs.YtibedokegignhaaGreatDoor.Wi
open Go.RowKit
theorem ok_len {m : Int} {q : List Int} (hE : tcErr m q = 0) : 0 < q.length := by
  refine List.length_pos_iff.2 ?_
  rintro rfl
  unfold tcErr at hE
  split at hE
  · cases hE
  · simp [tnErr] at hE
theorem ret_str {x y : ByteArray} (h : x = y) : Ending.returned (.string x) = .returned (.string y) := by rw [h]
theorem QSt.moved {w : World} {b : Nat} {a : Option Addr} {n c p : Nat} {E : Int} (h : QSt w b a n c p E) (p' : Nat) (k : Nat) (hp : p' ≤ n) : QSt ((w.drewN k).setCell ⟨b, 1, none⟩ (.int .i64 (p' : Int))) b a n c p' E := by
  obtain ⟨hlt, c0, c1, c2, f1, f2, hle⟩ := h
  refine ⟨?_, ?_, ?_, ?_, ?_, ?_, hp⟩
  all_goals go_simp
set_option maxHeartbeats 1000000 in
theorem rq_text (b : Nat) (a : Option Addr) (n c : Nat) (l : List Int) (p : Nat) (m : Int) (q : m ≤ 9223372036854775807) (w : World) (h : QSt w b a n c p 0) (hk : ∀ w', Only b w w' → Hs w' a n c l) (hm : n ≤ 9223372036854775807) :
    Calls Tryz.prog 57 #[.pointer (some ⟨b, 0, none⟩), .int .i64 m] w fun e w' => e = .returned (.string (strOfNums (ttList m (l.drop p)))) ∧ QSt w' b a n c (p + ttSize m (l.drop p)) (ttErr m (l.drop p)) ∧ Only b w w' := by
  have HI := hide (rq_int b a n c l p m q w h (hk w (Only.refl _ _)) hm)
  have hlen := (hk w (Only.refl _ _)).len
  have hcap := (hk w (Only.refl _ _)).cap
  have hsz := (tcSize_le m (l.drop p) (fun z hz => (hk w (Only.refl _ _)).byte z (List.mem_of_mem_drop hz)))
  have hln : (l.drop p).length = n - p := by rw [List.length_drop, hlen]
  rw [hln] at hsz
  obtain ⟨hs1, hs2⟩ := hsz
  have hvl := tcVal_le m (l.drop p) q
  obtain ⟨hlt, c0, c1, c2, f1, f2, hle⟩ := h
  by_cases hE : tcErr m (l.drop p) = 0
  · have hpos := ok_len hE
    rw [hln] at hpos
    by_cases hS : (l.drop p).length < tcSize m (l.drop p) + tcVal m (l.drop p)
    · have H : ttErr m (l.drop p) = 10 := by unfold ttErr; rw [if_neg (by simp [hE]), if_pos hS]
      obtain ⟨e1, e2⟩ := tt_bad (m := m) (l := l.drop p) (by rw [H]; decide)
      rw [e1, e2, H]
      rw [hE] at HI
      rw [hln] at hS
      clear e1 e2 H hE hk hln hlen
      generalize tcVal m (l.drop p) = V at *
      generalize tcSize m (l.drop p) = S at *
      go_enter Tryz.func57, Tryz.ntmps57
      go_wp2_with fail
      refine HI.out.mono ?_
      rintro e w1 ⟨rfl, HQ, bw⟩
      clear HI c0 c1 c2 f1 f2
      have HQS := hide HQ
      obtain ⟨hlt1, c0, c1, c2, f1, f2, hle1⟩ := HQ
      have hx : (n : Int) - ((p + S : Nat) : Int) < (V : Int) := by omega
      go_wp2
      go_quiet (fail)
      go_wp2
      go_ret
      exact ⟨rfl, HQS.out.stepped p 10 nq hle, ((bw.drewN nq).setCell _ _).setCell _ _⟩
    · have H : ttErr m (l.drop p) = 0 := by unfold ttErr; rw [if_neg (by simp [hE]), if_neg hS]
      have H1 : ttList m (l.drop p) = ((l.drop p).drop (tcSize m (l.drop p))).take (tcVal m (l.drop p)) := by unfold ttList; rw [if_pos H]
      have H2 : ttSize m (l.drop p) = tcSize m (l.drop p) + tcVal m (l.drop p) := by unfold ttSize; rw [if_pos H]
      rw [List.drop_drop] at H1
      rw [H, H1, H2]
      rw [hE] at HI
      rw [hln] at hS
      clear H H1 H2 hE hln
      generalize tcVal m (l.drop p) = V at *
      generalize tcSize m (l.drop p) = S at *
      cases a with
      | none => have h3 := hk w (Only.refl _ _); rw [(h3.nil rfl).1] at hlen; simp at hlen; omega
      | some x =>
      obtain ⟨g, o, rfl⟩ := (hk w (Only.refl _ _)).flat (by omega)
      have hle2 : (p + S) + V ≤ n := by omega
      have hlS : ((l.drop (p + S)).take V) = ((l.drop (p + S)).take V) := rfl
      by_cases hSc : p + S < c
      · go_enter Tryz.func57, Tryz.ntmps57
        go_wp2_with fail
        refine HI.out.mono ?_
        rintro e w1 ⟨rfl, HQ, bw⟩
        have kc := fun j => conv_hs (w1.drewN j) _ _ _ _ ((((hk w1 bw).rest' (p + S) (by omega)).cut V (by omega)).later (below_drewN (Below.refl _ _) j))
        clear HI c0 c1 c2 f1 f2 hk hlen hlS
        have HQS := hide HQ
        obtain ⟨hlt1, c0, c1, c2, f1, f2, hle1⟩ := HQ
        generalize hL : ((l.drop (p + S)).take V) = L at *
        generalize hps : p + S = ps at *
        have HL := hide (hps ▸ hL : ((l.drop (p + S)).take V) = L)
        have HP := hide hps
        clear hL
        have hx : ¬ ((n : Int) - (ps : Int) < (V : Int)) := by omega
        have hx2 : (ps : Int) + (V : Int) ≤ (n : Int) := by omega
        clear hps
        go_wp2
        go_quiet (fail)
        go_wp2
        go_quiet (fail)
        go_wp2
        go_ret
        have hq := fun k => HQS.out.moved (ps + V) k (by omega)
        rw [Int.natCast_add] at hq
        refine ⟨ret_str (by rw [HL.out]), ?_, (bw.drewN _).setCell _ _⟩
        rw [← Nat.add_assoc, HP.out]
        exact hq _
      · have e1 : n = c := by omega
        have e2 : p + S = c := by omega
        have e3 : V = 0 := by omega
        subst e3
        have hZ : ∀ w', Hs w' (some ⟨g, o, none⟩) 0 0 [] := fun w' => ⟨rfl, Nat.le_refl _, fun x hx i hi => by (simp at hi), fun hx => by (cases hx), fun z hz => by (cases hz)⟩
        have kc := fun w' => conv_hs w' _ _ _ _ (hZ w')
        rw [List.take_zero]
        go_enter Tryz.func57, Tryz.ntmps57
        go_wp2_with fail
        refine HI.out.mono ?_
        rintro e w1 ⟨rfl, HQ, bw⟩
        clear HI c0 c1 c2 f1 f2 hk hlen hlS hZ
        rw [e2] at HQ
        have HP := hide e2
        clear e2
        have HQS := hide HQ
        obtain ⟨hlt1, c0, c1, c2, f1, f2, hle1⟩ := HQ
        subst e1
        go_wp2
        go_quiet (fail)
        go_wp2
        go_quiet (fail)
        go_wp2
        go_ret
        have hq := fun k => HQS.out.moved n k (by omega)
        refine ⟨rfl, ?_, (bw.drewN _).setCell _ _⟩
        rw [Nat.add_zero, HP.out]
        exact hq _
  · have H : ttErr m (l.drop p) = tcErr m (l.drop p) := by unfold ttErr; rw [if_pos hE]
    obtain ⟨e1, e2⟩ := tt_bad (m := m) (l := l.drop p) (by rw [H]; exact hE)
    obtain ⟨e3, e4⟩ := tc_bad hE
    rw [e1, e2, H]
    have hb : (tcErr m (l.drop p) != 0) = true := by simp [hE]
    rw [e3, e4] at HI
    clear H e1 e2 e3 e4 hE hs1 hs2 hvl hk
    generalize tcErr m (l.drop p) = E at *
    go_enter Tryz.func57, Tryz.ntmps57
    go_wp2_with fail
    refine HI.out.mono ?_
    rintro e w1 ⟨rfl, HQ, bw⟩
    clear HI c0 c1 c2 f1 f2
    have HQS := hide HQ
    obtain ⟨hlt1, c0, c1, c2, f1, f2, hle1⟩ := HQ
    go_wp2
    go_ret
    exact ⟨rfl, HQS.out, bw⟩
end Go.Proofs.YtibedokegignhaaGreatDoor.Wi
namespace Go.Proofs.YtibedokegignhaaGreatDoor.Wi
open Go.RowKit
theorem Tryz.info22 : (Tryz.prog.info? 55).map (fun i => (i.zero, i.size, i.bytes)) = some (some (.slice none 0 0), 1, 24) := by kernel_rfl
theorem copy_any (a : Option Addr) (n c : Nat) (l : List Int) (w : World) (h : Hs w a n c l) (hm : n ≤ 140737488355328) :
    Calls Tryz.prog 28 #[.slice a n c] w fun e w' => ∃ v', e = .returned v' ∧ Own w.heap.size w' v' l ∧ Below w.heap.size w w' := by
  go_enter Tryz.func28, Tryz.ntmps28
  go_wp2_with (at_builtin; go_must (refine app_hs _ rfl (.const (.slice none 0 0)) (.tmp 3) rfl w.heap.size [] _ rfl a n c rfl l h (Own.nil _ _) (Nat.le_refl _) (by simpa using hm) ?_))
  intro v' w' h1 h2 h3
  have hb : Below w.heap.size w w' := (Below.refl _ _).grown h3 (Nat.le_refl _) (fun k hk => by cases hk)
  go_wp2
  go_ret
  exact ⟨v', rfl, h1, hb⟩
theorem run_first (w : World) (ty : TypeId) (ad : Addr) (u : Value) (hu : u.oneCell' = true) (hc : w.cell? ad = some u) :
    ∃ g c w', (Builtin.append_ #[39, 39] ty #[.slice none 0 0, .slice (some ad) 1 1]).run Tryz.prog w = .ok (.slice (some ⟨g, 0, none⟩) 1 c) w' ∧ w'.cell? ⟨g, 0, none⟩ = some u ∧ w.heap.size ≤ g ∧ g < w'.heap.size ∧ 1 ≤ c ∧ Below w.heap.size w w' := by
  obtain ⟨i0, hi, hz0, hz1, hz2⟩ := info_parts Tryz.info22
  obtain ⟨v', w', h1, h2, h3, h4⟩ := run_append_own (P := Tryz.prog) w w.heap.size 39 ty 55 i0 (.slice none 0 0) 1 24 Tryz.underlying39 hi hz0 hz1 hz2 rfl (by decide) (.slice none 0 0) 0 [] (World.ownsRow_nil w w.heap.size 55 1) ad 1 1 [u] rfl (by
    intro j y hy
    have hj : j = 0 := by
      have := (List.getElem?_eq_some_iff.1 hy).1
      simp at this
      omega
    subst hj
    simp at hy
    subst hy
    obtain ⟨b, o, s⟩ := ad
    exact hc) (by intro y hy; simp at hy; rw [hy]; exact hu) (by unfold maxLen; omega) (by omega) (Nat.le_refl _)
  have hb : Below w.heap.size w w' := (Below.refl _ _).grown h3 (Nat.le_refl _) (fun k hk => by cases hk)
  have hl := World.ownsRow.lt h2
  rcases h2.2 with ⟨_, e⟩ | ⟨g, c, cur, rfl, r1, r2, r3, r4, r5, r6⟩
  · cases e
  · refine ⟨g, c, w', h1, ?_, r1, (hl g rfl).2, r3, hb⟩
    have := World.ownsRow.cells h2 (g := g) rfl 0 u rfl
    exact this
theorem first_one (w : World) {ops : Array Oper} {rest : List Oper} {o : Oper} {a : Act} {Q : Exit → Act → World → Prop} (hgd : o.guard = none) (s x : Operand)
    (ho : o.op = .call { callee := .builtin .append, args := #[s, x], argTypes := #[39, 39] }) (hs : a.eval s = .slice none 0 0) (ad : Addr) (hx : a.eval x = .slice (some ad) 1 1) (u : Value) (hu : u.oneCell' = true) (hc : w.cell? ad = some u)
    (h : ∀ g c w', w'.cell? ⟨g, 0, none⟩ = some u → w.heap.size ≤ g → g < w'.heap.size → 1 ≤ c → Below w.heap.size w w' → wpList Tryz.prog ops Q rest (a.put o.dst (.slice (some ⟨g, 0, none⟩) 1 c)) w') : wpList Tryz.prog ops Q (o :: rest) a w := by
  refine wpList_plain hgd fun K hK => ?_
  obtain ⟨g, c, w', hr, h2, h3, h4, h5, h6⟩ := run_first w o.type ad u hu hc
  unfold Oper.wp execOp
  simp only [ho, resolve, invoke, builtin, Sem.run_bind, Sem.run_pure, Result.andThen_ok, List.map_toArray, List.map_cons, List.map_nil, hs, hx, hr]
  exact hK _ _ (h g c w' h2 h3 h4 h5 h6)
theorem step_first {ops : Array Oper} {o : Oper} {a : Act} {w : World} {K : Act → World → Prop} {Q : Exit → Act → World → Prop} {E : Prop} (hg : o.guard = none) (s x : Operand)
    (ho : o.op = .call { callee := .builtin .append, args := #[s, x], argTypes := #[39, 39] }) (hs : a.eval s = .slice none 0 0) (ad : Addr) (hx : a.eval x = .slice (some ad) 1 1) (u : Value) (hu : u.oneCell' = true) (hc : w.cell? ad = some u)
    (h : ∀ g c w', w'.cell? ⟨g, 0, none⟩ = some u → w.heap.size ≤ g → g < w'.heap.size → 1 ≤ c → Below w.heap.size w w' → K (a.put o.dst (.slice (some ⟨g, 0, none⟩) 1 c)) w') :
    if Region.wanted o (yielded ops a.tmps) = true then Oper.wp Tryz.prog o a w K Q else E := by
  have hw : Region.wanted o (yielded ops a.tmps) = true := by simp [Region.wanted, hg]
  rw [if_pos hw]
  obtain ⟨g, c, w', hr, h2, h3, h4, h5, h6⟩ := run_first w o.type ad u hu hc
  unfold Oper.wp execOp
  simp only [ho, resolve, invoke, builtin, Sem.run_bind, Sem.run_pure, Result.andThen_ok, List.map_toArray, List.map_cons, List.map_nil, hs, hx, hr]
  exact h g c w' h2 h3 h4 h5 h6
theorem Own.ne_nil {B : Nat} {w : World} {v : Value} {l : List Int} (h : Own B w v l) (hl : 0 < l.length) : v ≠ .slice none 0 0 := by
  rintro rfl
  rcases h.2 with ⟨_, h2⟩ | ⟨_, _, _, h2, _⟩
  · omega
  · cases h2
theorem Row.far' {w : World} {g : Nat} {l : List Int} (h : Row w ⟨g, 0, none⟩ l) {p : Addr} (hp : p.block ≠ g) (u : Value) : Row (w.setCell p u) ⟨g, 0, none⟩ l := by
  intro i hi
  have h1 := h i hi
  rw [Addr.add_lit] at h1 ⊢
  rw [World.cell?_of_block (w := w) (Below.heap_setCell w p u g (fun e => hp e.symm))]
  exact h1
theorem Hs.far' {w : World} {g n c : Nat} {l : List Int} (h : Hs w (some ⟨g, 0, none⟩) n c l) {p : Addr} (hp : p.block ≠ g) (u : Value) : Hs (w.setCell p u) (some ⟨g, 0, none⟩) n c l :=
  ⟨h.len, h.cap, fun x hx => by (cases hx; exact (h.row _ rfl).far' hp u), fun hx => by (cases hx), h.byte⟩
theorem Own.hs' {B : Nat} {w : World} {g n c : Nat} {l : List Int} (h : Own B w (.slice (some ⟨g, 0, none⟩) n c) l) (hn : l.length = n) (hb : ∀ z ∈ l, 0 ≤ z ∧ z < 256) : Hs w (some ⟨g, 0, none⟩) n c l :=
  ⟨hn, h.cap, fun x hx => by (cases hx; exact h.row), fun hx => by (cases hx), hb⟩
theorem Own.capmax {B : Nat} {w : World} {g n c : Nat} {l : List Int} (h : Own B w (.slice (some ⟨g, 0, none⟩) n c) l) : c ≤ maxLen := by
  rcases h.2 with ⟨h1, _⟩ | ⟨g, c, _, h1, _, _, _, h3, _⟩
  · cases h1
  · cases h1; exact h3
theorem step_copy {ops : Array Oper} {o : Oper} {a : Act} {w : World} {K : Act → World → Prop} {Q : Exit → Act → World → Prop} {E : Prop} (hg : o.guard = none) (x : Operand)
    (ho : o.op = .call { callee := .value (.func 28), args := #[x], argTypes := #[55] }) (ad : Option Addr) (n c : Nat) (hx : a.eval x = .slice ad n c) (l : List Int) (h : Hs w ad n c l) (hm : n ≤ 140737488355328)
    (hK : ∀ v' w', Own w.heap.size w' v' l → Below w.heap.size w w' → K (a.put o.dst v') w') :
    if Region.wanted o (yielded ops a.tmps) = true then Oper.wp Tryz.prog o a w K Q else E := by
  have hw : Region.wanted o (yielded ops a.tmps) = true := by simp [Region.wanted, hg]
  rw [if_pos hw]
  have hr : (execOp a.eval o).run Tryz.prog w = .ok (.enter 28 #[.slice ad n c]) w := by
    unfold execOp
    simp only [ho, resolve, invoke, Sem.run_bind, List.map_toArray, List.map_cons, List.map_nil, hx]
    rfl
  unfold Oper.wp
  rw [hr, Oper.upon_enter]
  refine (copy_any ad n c l w h hm).mono ?_
  rintro e w' ⟨v', rfl, h1, h2⟩
  exact hK v' w' h1 h2
structure GOne (w : World) (b : Nat) (l : List Int) : Prop where
  lt : b < w.heap.size
  bytes : ∃ r c a n k, w.cell? ⟨b, 0, none⟩ = some (.slice (some ⟨r, 0, none⟩) 1 c) ∧ 1 ≤ c ∧ w.cell? ⟨r, 0, none⟩ = some (.slice a n k) ∧ Hs w a n k l
  was : ∃ r c a n k, w.cell? ⟨b, 1, none⟩ = some (.slice (some ⟨r, 0, none⟩) 1 c) ∧ 1 ≤ c ∧ w.cell? ⟨r, 0, none⟩ = some (.slice a n k) ∧ Hs w a n k l
  draws : w.cell? ⟨b, 2, none⟩ = some (.slice none 0 0)
  entries : w.cell? ⟨b, 4, none⟩ = some (.slice none 0 0)
  ints : w.cell? ⟨b, 6, none⟩ = some (.slice none 0 0)
  states : w.cell? ⟨b, 8, none⟩ = some (.slice none 0 0)
theorem GOne.later {w w' : World} {b : Nat} {l : List Int} (h : GOne w b l) (hb : Below w.heap.size w w') : GOne w' b l := by
  obtain ⟨r, c, a, n, k, e1, e2, e3, e4⟩ := h.bytes
  obtain ⟨r', c', a', n', k', e1', e2', e3', e4'⟩ := h.was
  exact ⟨Nat.lt_of_lt_of_le h.lt hb.size, ⟨r, c, a, n, k, cell_later hb e1, e2, cell_later hb e3, e4.later hb⟩, ⟨r', c', a', n', k', cell_later hb e1', e2', cell_later hb e3', e4'.later hb⟩, cell_later hb h.draws, cell_later hb h.entries, cell_later hb h.ints, cell_later hb h.states⟩
set_option maxHeartbeats 1000000 in
theorem intact_one (b : Nat) (l : List Int) (w : World) (h : GOne w b l) :
    Calls Tryz.prog 14 #[.pointer (some ⟨b, 0, none⟩)] w fun e w' => e = .returned (.bool true) ∧ Below w.heap.size w w' := by
  obtain ⟨lt, ⟨r, c, a, n, k, e1, e2, e3, e4⟩, ⟨r', c', a', n', k', f1, f2, f3, f4⟩, hd0, he0, hi0, hs0⟩ := h
  go_enter Tryz.func14, Tryz.ntmps14
  go_wp2_with fail
  go_loopw [3] (fun i wr => ∃ j : Nat, i = .int .i64 j ∧ j ≤ 1 ∧ Below w.heap.size w wr) (fun i _ => 1 - (intOf i).toNat)
  case atStart => exact ⟨0, rfl, Nat.zero_le _, Below.refl _ _⟩
  case round =>
    obtain ⟨j, rfl, hj, hb⟩ := hrel
    have e1 := cell_later hb e1
    have e3 := cell_later hb e3
    have f1 := cell_later hb f1
    have f3 := cell_later hb f3
    have hd := cell_later hb hd0
    have he := cell_later hb he0
    have hi := cell_later hb hi0
    have hs := cell_later hb hs0
    have e4 := e4.later hb
    have f4 := f4.later hb
    rcases (by omega : j = 0 ∨ j = 1) with rfl | rfl
    · have HH := fun j => hide (same_any a a' n k n' k' l l (wr.drewN j) (e4.later (below_drewN (Below.refl _ _) j)) (f4.later (below_drewN (Below.refl _ _) j)))
      rw [decide_eq_true (rfl : l = l)] at HH
      clear e4 f4
      go_wp2_with fail
      go_quiet ((go_at_call 18; exact Calls.quiet_of_same (HH _).out))
      go_wp2_with fail
      exact ⟨⟨1, rfl, Nat.le_refl _, below_drewN hb nq⟩, by simp [intOf]⟩
    · clear e3 f1 f3 e4 f4
      go_wp2_with fail
      go_loopw [4] (fun i wr => i = .int .i64 0 ∧ Below w.heap.size w wr) (fun i _ => 0)
      case atStart => exact ⟨rfl, hb⟩
      case round =>
        obtain ⟨rfl, hb⟩ := hrel
        have hd := cell_later hb hd0
        have he := cell_later hb he0
        have hi := cell_later hb hi0
        have hs := cell_later hb hs0
        go_wp2_with fail
        go_loopw [5] (fun i wr => i = .int .i64 0 ∧ Below w.heap.size w wr) (fun i _ => 0)
        case atStart => exact ⟨rfl, hb⟩
        case round =>
          obtain ⟨rfl, hb⟩ := hrel
          have hd := cell_later hb hd0
          have he := cell_later hb he0
          have hi := cell_later hb hi0
          have hs := cell_later hb hs0
          go_wp2_with fail
          go_loopw [6] (fun i wr => i = .int .i64 0 ∧ Below w.heap.size w wr) (fun i _ => 0)
          case atStart => exact ⟨rfl, hb⟩
          case round =>
            obtain ⟨rfl, hb⟩ := hrel
            have hd := cell_later hb hd0
            have he := cell_later hb he0
            have hi := cell_later hb hi0
            have hs := cell_later hb hs0
            go_wp2_with fail
            go_loopw [7] (fun i wr => i = .int .i64 0 ∧ Below w.heap.size w wr) (fun i _ => 0)
            case atStart => exact ⟨rfl, hb⟩
            case round =>
              obtain ⟨rfl, hb⟩ := hrel
              have hd := cell_later hb hd0
              have he := cell_later hb he0
              have hi := cell_later hb hi0
              have hs := cell_later hb hs0
              go_wp2_with fail
              go_ret
              exact ⟨rfl, hb⟩
def sel (E : Int) (x : Nat) : Nat := if E = 0 then x else 0
def selE (E e : Int) : Int := if E = 0 then e else E
def selL (E : Int) (L : List Int) : List Int := if E = 0 then L else []
theorem sel_ok (x : Nat) : sel 0 x = x := rfl
theorem selE_ok (e : Int) : selE 0 e = e := rfl
theorem sel_no {E : Int} (h : E ≠ 0) (x : Nat) : sel E x = 0 := by unfold sel; rw [if_neg h]
theorem selE_no {E : Int} (h : E ≠ 0) (e : Int) : selE E e = E := by unfold selE; rw [if_neg h]
theorem selL_no {E : Int} (h : E ≠ 0) (L : List Int) : selL E L = [] := by unfold selL; rw [if_neg h]
theorem ru_number (b : Nat) (a : Option Addr) (n c : Nat) (l : List Int) (p : Nat) (E : Int) (w : World) (h : RSt w b a n c l p E) :
    Calls Tryz.prog 144 #[.pointer (some ⟨b, 0, none⟩)] w fun e w' => e = .returned (.int .u64 (sel E (tnVal (l.drop p)))) ∧ RSt w' b a n c l (p + sel E (tnSize (l.drop p))) (selE E (tnErr (l.drop p))) ∧ Only b w w' := by
  by_cases hE : E = 0
  · subst hE
    exact rd_number2 b a n c l p w h
  · rw [sel_no hE, sel_no hE, selE_no hE]
    refine (rd_number_err b a n c l p E w h hE).mono ?_
    rintro e w' ⟨rfl, rfl⟩
    exact ⟨rfl, h, Only.refl _ _⟩
theorem ru_count (b : Nat) (a : Option Addr) (n c : Nat) (l : List Int) (p : Nat) (E : Int) (m : Int) (q : m ≤ 9223372036854775807) (w : World) (h : RSt w b a n c l p E) :
    Calls Tryz.prog 143 #[.pointer (some ⟨b, 0, none⟩), .int .i64 m] w fun e w' => e = .returned (.int .i64 (sel E (tcVal m (l.drop p)))) ∧ RSt w' b a n c l (p + sel E (tcSize m (l.drop p))) (selE E (tcErr m (l.drop p))) ∧ Only b w w' := by
  by_cases hE : E = 0
  · subst hE
    exact rd_count b a n c l p m q w h
  · rw [sel_no hE, sel_no hE, selE_no hE]
    refine (rd_count_err b a n c l p E m w h hE).mono ?_
    rintro e w' ⟨rfl, rfl⟩
    exact ⟨rfl, h, Only.refl _ _⟩
theorem ru_int (b : Nat) (a : Option Addr) (n c : Nat) (l : List Int) (p : Nat) (E : Int) (m : Int) (q : m ≤ 9223372036854775807) (w : World) (h : RSt w b a n c l p E) :
    Calls Tryz.prog 127 #[.pointer (some ⟨b, 0, none⟩), .int .i64 m] w fun e w' => e = .returned (.int .i64 (sel E (tcVal m (l.drop p)))) ∧ RSt w' b a n c l (p + sel E (tcSize m (l.drop p))) (selE E (tcErr m (l.drop p))) ∧ Only b w w' := by
  by_cases hE : E = 0
  · subst hE
    exact rd_int b a n c l p m q w h
  · rw [sel_no hE, sel_no hE, selE_no hE]
    refine (rd_int_err b a n c l p E m w h hE).mono ?_
    rintro e w' ⟨rfl, rfl⟩
    exact ⟨rfl, h, Only.refl _ _⟩
theorem ru_text (b : Nat) (a : Option Addr) (n c : Nat) (l : List Int) (p : Nat) (E : Int) (m : Int) (q : m ≤ 9223372036854775807) (w : World) (h : RSt w b a n c l p E) :
    Calls Tryz.prog 145 #[.pointer (some ⟨b, 0, none⟩), .int .i64 m] w fun e w' => e = .returned (.string (strOfNums (selL E (ttList m (l.drop p))))) ∧ RSt w' b a n c l (p + sel E (ttSize m (l.drop p))) (selE E (ttErr m (l.drop p))) ∧ Only b w w' := by
  by_cases hE : E = 0
  · subst hE
    exact rd_text b a n c l p m q w h
  · rw [selL_no hE, sel_no hE, selE_no hE]
    refine (rd_text_err b a n c l p E m w h hE).mono ?_
    rintro e w' ⟨rfl, rfl⟩
    exact ⟨rfl, h, Only.refl _ _⟩
theorem qu_number (b : Nat) (a : Option Addr) (n c : Nat) (l : List Int) (p : Nat) (E : Int) (w : World) (h : QSt w b a n c p E) (hk : ∀ w', Only b w w' → Hs w' a n c l) (hm : n ≤ 9223372036854775807) :
    Calls Tryz.prog 103 #[.pointer (some ⟨b, 0, none⟩)] w fun e w' => e = .returned (.int .u64 (sel E (tnVal (l.drop p)))) ∧ QSt w' b a n c (p + sel E (tnSize (l.drop p))) (selE E (tnErr (l.drop p))) ∧ Only b w w' := by
  by_cases hE : E = 0
  · subst hE
    exact rq_number b a n c l p w h (hk w (Only.refl _ _)) hm
  · rw [sel_no hE, sel_no hE, selE_no hE]
    refine (rq_number_err b a n c p E w h hE).mono ?_
    rintro e w' ⟨rfl, rfl⟩
    exact ⟨rfl, h, Only.refl _ _⟩
theorem qu_int (b : Nat) (a : Option Addr) (n c : Nat) (l : List Int) (p : Nat) (E : Int) (m : Int) (q : m ≤ 9223372036854775807) (w : World) (h : QSt w b a n c p E) (hk : ∀ w', Only b w w' → Hs w' a n c l) (hm : n ≤ 9223372036854775807) :
    Calls Tryz.prog 54 #[.pointer (some ⟨b, 0, none⟩), .int .i64 m] w fun e w' => e = .returned (.int .i64 (sel E (tcVal m (l.drop p)))) ∧ QSt w' b a n c (p + sel E (tcSize m (l.drop p))) (selE E (tcErr m (l.drop p))) ∧ Only b w w' := by
  by_cases hE : E = 0
  · subst hE
    exact rq_int b a n c l p m q w h (hk w (Only.refl _ _)) hm
  · rw [sel_no hE, sel_no hE, selE_no hE]
    refine (rq_int_err b a n c p E m w h hE).mono ?_
    rintro e w' ⟨rfl, rfl⟩
    exact ⟨rfl, h, Only.refl _ _⟩
theorem qu_text (b : Nat) (a : Option Addr) (n c : Nat) (l : List Int) (p : Nat) (E : Int) (m : Int) (q : m ≤ 9223372036854775807) (w : World) (h : QSt w b a n c p E) (hk : ∀ w', Only b w w' → Hs w' a n c l) (hm : n ≤ 9223372036854775807) :
    Calls Tryz.prog 57 #[.pointer (some ⟨b, 0, none⟩), .int .i64 m] w fun e w' => e = .returned (.string (strOfNums (selL E (ttList m (l.drop p))))) ∧ QSt w' b a n c (p + sel E (ttSize m (l.drop p))) (selE E (ttErr m (l.drop p))) ∧ Only b w w' := by
  by_cases hE : E = 0
  · subst hE
    exact rq_text b a n c l p m q w h hk hm
  · rw [selL_no hE, sel_no hE, selE_no hE]
    refine (rq_text_err b a n c p E m w h hE).mono ?_
    rintro e w' ⟨rfl, rfl⟩
    exact ⟨rfl, h, Only.refl _ _⟩
end Go.Proofs.YtibedokegignhaaGreatDoor.Wi
namespace Go.Proofs.YtibedokegignhaaGreatDoor
open Go.RowKit Go.Maps
open Classical
def rN (l : List Int) (s : Nat × Int) : Nat := Wi.sel s.2 (Wi.tnVal (l.drop s.1))
def sN (l : List Int) (s : Nat × Int) : Nat × Int := (s.1 + Wi.sel s.2 (Wi.tnSize (l.drop s.1)), Wi.selE s.2 (Wi.tnErr (l.drop s.1)))
def rI (m : Int) (l : List Int) (s : Nat × Int) : Nat := Wi.sel s.2 (Wi.tcVal m (l.drop s.1))
def sI (m : Int) (l : List Int) (s : Nat × Int) : Nat × Int := (s.1 + Wi.sel s.2 (Wi.tcSize m (l.drop s.1)), Wi.selE s.2 (Wi.tcErr m (l.drop s.1)))
def rT (l : List Int) (s : Nat × Int) : ByteArray := strOfNums (Wi.selL s.2 (Wi.ttList 64 (l.drop s.1)))
def sT (l : List Int) (s : Nat × Int) : Nat × Int := (s.1 + Wi.sel s.2 (Wi.ttSize 64 (l.drop s.1)), Wi.selE s.2 (Wi.ttErr 64 (l.drop s.1)))
def mxI : Int := 9223372036854775807
def rD (l : List Int) (s : Nat × Int) : Int × Int := ((rN l s : Int), (rN l (sN l s) : Int))
def sD (l : List Int) (s : Nat × Int) : Nat × Int := sN l (sN l s)
def s2 (l : List Int) (s : Nat × Int) : Nat × Int := sI mxI l (sI mxI l s)
def rO (l : List Int) (s : Nat × Int) : Opn := ⟨(rI mxI l s : Int), (rI mxI l (sI mxI l s) : Int), rT l (s2 l s)⟩
def sO (l : List Int) (s : Nat × Int) : Nat × Int := sT l (s2 l s)
def rE (l : List Int) (s : Nat × Int) : En := ⟨(rI mxI l s : Int), (rI mxI l (sI mxI l s) : Int), rO l (s2 l s)⟩
def sE (l : List Int) (s : Nat × Int) : Nat × Int := sO l (s2 l s)
def RD (N : Nat) (w : World) (b : Nat) (l : List Int) (s : Nat × Int) : Prop := ∃ a n c, Wi.RSt w b a n c l s.1 s.2 ∧ b < N ∧ N ≤ w.heap.size ∧ ∀ x, a = some x → 0 < l.length → x.block < N
theorem RD.lt {N : Nat} {w : World} {b : Nat} {l : List Int} {s : Nat × Int} (h : RD N w b l s) : b < N ∧ N ≤ w.heap.size := by
  obtain ⟨a, n, c, h, h1, h2, h3⟩ := h
  exact ⟨h1, h2⟩
def UB (b : Nat) (w w' : World) : Prop := Upd (fun k => k = b) w w'
theorem UB.trans {b : Nat} {u v w : World} (h : UB b u v) (k : UB b v w) : UB b u w := Upd.trans h k
theorem UB.of_below {b : Nat} {w w' : World} (h : Below w.heap.size w w') : UB b w w' := Upd.of_below h
theorem UB.of_only {b : Nat} {w w' : World} (h : Wi.Only b w w') : UB b w w' := ⟨h.bel.os, h.bel.tape, h.bel.output, by rw [h.same]; exact Nat.le_refl _, fun k _ hs => h.block k hs⟩
theorem UB.below {b B : Nat} {w w' : World} (h : UB b w w') (hB : B ≤ w.heap.size) (hb : B ≤ b) : Below B w w' := Upd.below h hB (fun k hk => by omega)
theorem RD.ub {N : Nat} {w w' : World} {b : Nat} {l : List Int} {s : Nat × Int} {S : Nat → Prop} (h : RD N w b l s) (u : Upd S w w') (hS : ∀ k, k < N → ¬ S k) : RD N w' b l s := by
  obtain ⟨a, n, c, h, h1, h2, h3⟩ := h
  have hb := hS b h1
  refine ⟨a, n, c, ⟨Nat.lt_of_lt_of_le h.lt u.size, (u.cell (p := ⟨b, 0, none⟩) h.lt hb).trans h.c0, (u.cell (p := ⟨b, 1, none⟩) h.lt hb).trans h.c1, (u.cell (p := ⟨b, 2, none⟩) h.lt hb).trans h.c2, (u.cell (p := ⟨b, 3, none⟩) h.lt hb).trans h.c3, (u.frozen (p := ⟨b, 2, none⟩) h.lt hb).trans h.f2, (u.frozen (p := ⟨b, 3, none⟩) h.lt hb).trans h.f3, ⟨h.hs.len, h.hs.cap, fun x hx i hi => ?_, h.hs.nil, h.hs.byte⟩, h.cmax, h.ne, h.le⟩, h1, Nat.le_trans h2 u.size, h3⟩
  have hx3 := h3 x hx (by omega)
  have hr := h.hs.row x hx i hi
  obtain ⟨g, rfl, hg⟩ := h.ne x hx
  rw [Addr.add_lit] at hr ⊢
  rw [u.cell (p := ⟨g, 0 + i, none⟩) (Nat.lt_of_lt_of_le hx3 h2) (hS g hx3)]
  exact hr
theorem RD.later {N : Nat} {w w' : World} {b : Nat} {l : List Int} {s : Nat × Int} (h : RD N w b l s) (hb : Below w.heap.size w w') : RD N w' b l s := h.ub (S := fun _ => False) (Upd.of_below hb) (fun _ _ => id)
theorem rd_N (N : Nat) (b : Nat) (l : List Int) (s : Nat × Int) (w : World) (h : RD N w b l s) : Calls Tryz.prog 144 #[.pointer (some ⟨b, 0, none⟩)] w fun e w' => e = .returned (.int .u64 (rN l s : Int)) ∧ RD N w' b l (sN l s) ∧ UB b w w' := by
  obtain ⟨a, n, c, h, k1, k2, k3⟩ := h
  exact (Wi.ru_number b a n c l s.1 s.2 w h).mono (fun e w' ⟨h1, h2, h3⟩ => ⟨h1, ⟨a, n, c, h2, k1, by rw [h3.same]; exact k2, k3⟩, UB.of_only h3⟩)
theorem rd_I (N : Nat) (b : Nat) (m : Int) (hm : m ≤ 9223372036854775807) (l : List Int) (s : Nat × Int) (w : World) (h : RD N w b l s) : Calls Tryz.prog 127 #[.pointer (some ⟨b, 0, none⟩), .int .i64 m] w fun e w' => e = .returned (.int .i64 (rI m l s : Int)) ∧ RD N w' b l (sI m l s) ∧ UB b w w' := by
  obtain ⟨a, n, c, h, k1, k2, k3⟩ := h
  exact (Wi.ru_int b a n c l s.1 s.2 m hm w h).mono (fun e w' ⟨h1, h2, h3⟩ => ⟨h1, ⟨a, n, c, h2, k1, by rw [h3.same]; exact k2, k3⟩, UB.of_only h3⟩)
theorem rd_C (N : Nat) (b : Nat) (m : Int) (hm : m ≤ 9223372036854775807) (l : List Int) (s : Nat × Int) (w : World) (h : RD N w b l s) : Calls Tryz.prog 143 #[.pointer (some ⟨b, 0, none⟩), .int .i64 m] w fun e w' => e = .returned (.int .i64 (rI m l s : Int)) ∧ RD N w' b l (sI m l s) ∧ UB b w w' := by
  obtain ⟨a, n, c, h, k1, k2, k3⟩ := h
  exact (Wi.ru_count b a n c l s.1 s.2 m hm w h).mono (fun e w' ⟨h1, h2, h3⟩ => ⟨h1, ⟨a, n, c, h2, k1, by rw [h3.same]; exact k2, k3⟩, UB.of_only h3⟩)
theorem rd_T (N : Nat) (b : Nat) (l : List Int) (s : Nat × Int) (w : World) (h : RD N w b l s) : Calls Tryz.prog 145 #[.pointer (some ⟨b, 0, none⟩), .int .i64 64] w fun e w' => e = .returned (.string (rT l s)) ∧ RD N w' b l (sT l s) ∧ UB b w w' := by
  obtain ⟨a, n, c, h, k1, k2, k3⟩ := h
  exact (Wi.ru_text b a n c l s.1 s.2 64 (by decide) w h).mono (fun e w' ⟨h1, h2, h3⟩ => ⟨h1, ⟨a, n, c, h2, k1, by rw [h3.same]; exact k2, k3⟩, UB.of_only h3⟩)
theorem ex_buildP {o : Oper} {ρ : Operand → Value} {s : TypeId} {ps : Array (Nat × Operand)} {P : Array (Nat × Value)} {V : Value} {w : World} (ho : o.op = .build s ps) (hp : ps.map (fun (i, x) => (i, ρ x)) = P) (hr : (Instr.build s P).run Tryz.prog w = .ok V w) : (execOp ρ o).run Tryz.prog w = .ok (.value V) w := by
  unfold execOp
  simp only [ho, hp, Sem.run_bind, hr, Result.andThen_ok]
  rfl
theorem bdDr (x y : Int) (w : World) : (Instr.build 33 #[(0, .int .u64 x), (1, .int .u64 y)]).run Tryz.prog w = .ok (.agg #[.int .u64 x, .int .u64 y]) w := by go_simp
theorem bdEn (x y : Int) (w : World) : (Instr.build 28 #[(0, .int .i64 x), (1, .int .i64 y)]).run Tryz.prog w = .ok (.agg #[.int .i64 x, .int .i64 y, .int .i64 0, .int .i64 0, .string ⟨#[]⟩]) w := by go_simp
theorem bdOp (x y : Int) (v : ByteArray) (w : World) : (Instr.build 26 #[(0, .int .i64 x), (1, .int .i64 y), (2, .string v)]).run Tryz.prog w = .ok (.agg #[.int .i64 x, .int .i64 y, .string v]) w := by go_simp
theorem bdRs (x y : Int) (v : ByteArray) (w : World) : (Instr.build 30 #[(0, .int .i64 x), (1, .int .i64 y), (2, .string v)]).run Tryz.prog w = .ok (.agg #[.int .i64 x, .int .i64 y, .string v]) w := by go_simp
structure Bx (w : World) (q : Nat) (cs : List Value) : Prop where
  lt : q < w.heap.size
  cell : ∀ i x, cs[i]? = some x → w.cell? ⟨q, i, none⟩ = some x
  free : ∀ i, w.frozen? ⟨q, i, none⟩ = false
theorem Bx.ub {w w' : World} {q b : Nat} {cs : List Value} (h : Bx w q cs) (u : UB b w w') (hq : q ≠ b) : Bx w' q cs :=
  ⟨Nat.lt_of_lt_of_le h.lt u.size, fun i x hx => (u.cell (p := ⟨q, i, none⟩) h.lt hq).trans (h.cell i x hx), fun i => (u.frozen (p := ⟨q, i, none⟩) h.lt hq).trans (h.free i)⟩
theorem Bx.new (w : World) (cs : List Value) (t : TypeId) : Bx (w.alloc (.cells cs.toArray t)) w.heap.size cs :=
  ⟨by simp, fun i x hx => cell_box _ _ _ _ _ (by simpa using hx), fun i => froz_box _ _ _ _⟩
theorem Bx.later {w w' : World} {q : Nat} {cs : List Value} (h : Bx w q cs) (hb : Below w.heap.size w w') : Bx w' q cs :=
  ⟨Nat.lt_of_lt_of_le h.lt hb.size, fun i x hx => (hb.cell (p := ⟨q, i, none⟩) h.lt).trans (h.cell i x hx), fun i => (hb.frozen (p := ⟨q, i, none⟩) h.lt).trans (h.free i)⟩
theorem Bx.put {w : World} {q : Nat} {cs : List Value} (h : Bx w q cs) (cs' : List Value) (hl : cs'.length ≤ cs.length) : Bx (sets w q 0 cs') q cs' ∧ UB q w (sets w q 0 cs') := by
  refine ⟨⟨by rw [size_sets]; exact h.lt, fun i x hx => ?_, fun i => sets_free _ _ _ (h.free i)⟩, upd_sets (S := fun b => b = q) (b := q) rfl _ _ _ (Upd.refl _ _)⟩
  have := sets_at (b := q) cs' 0 w (fun k hk => ⟨_, by rw [Nat.zero_add]; exact h.cell k _ (List.getElem?_eq_getElem (show k < cs.length by omega))⟩) i x hx
  rw [Nat.zero_add] at this
  exact this
theorem Bx.st {w : World} {q : Nat} {cs : List Value} (h : Bx w q cs) (ty : TypeId) (cs' : List Value) (hl : cs'.length = cs.length) (hi : (Tryz.prog.info? ty).map (·.size) = some cs'.toArray.size) (h1 : cs'.toArray.all (·.oneCell') = true) : (Instr.storeAt ty (.pointer (some ⟨q, 0, none⟩)) (.agg cs'.toArray)).run Tryz.prog w = .ok () (sets w q 0 cs') := by
  have := run_storeAt_mid (P := Tryz.prog) w q 0 ty cs'.toArray (fun j hj => ⟨by rw [Nat.zero_add, h.cell j _ (List.getElem?_eq_getElem (show j < cs.length by simpa [hl] using hj))]; rfl, by rw [Nat.zero_add]; exact h.free j⟩) hi h1
  rw [setCells_sets] at this
  exact this
theorem Bx.res {w : World} {q : Nat} {cs : List Value} (h : Bx w q cs) {fn : Func} {i : Tmp} {ty : TypeId} {T : Array Value} {R : Ending → World → Prop} (hf : fn.results = #[.cell i ty]) (hq : T[i]? = some (gw true (.pointer (some ⟨q, 0, none⟩)))) {d : TypeDesc} (hu : Tryz.prog.underlying ty = some d) (hd : d.isRow = true) (hi : (Tryz.prog.info? ty).map (·.size) = some cs.length) (hR : R (.returned (.agg cs.toArray)) w) : bodyPost Tryz.prog fn R .ret ⟨T, []⟩ w := by
  refine bodyPost_ret (v := .agg cs.toArray) ?_ rfl hR
  have := run_loadVar_mid (P := Tryz.prog) w q 0 ty cs _ (fun j v hv => by rw [Nat.zero_add]; exact h.cell j v hv) hu hd hi
  have hq' : T.getD i undef = .pointer (some ⟨q, 0, none⟩) := getD_of hq
  simp only [results, hf]
  simp only [Array.getD_eq_getD_getElem?] at hq'
  simp [Sem.run_bind, Result.andThen, hq', asAddr, this]
theorem ldRd {w : World} {q b : Nat} (h : w.cell? ⟨q, 0, none⟩ = some (.pointer (some ⟨b, 0, none⟩))) : (Instr.loadAt 157 (.pointer (some ⟨q, 0, none⟩))).run Tryz.prog w = .ok (.agg #[.pointer (some ⟨b, 0, none⟩)]) w := by
  go_simp
theorem ldRp {w : World} {q b : Nat} (h : w.cell? ⟨q, 0, none⟩ = some (.pointer (some ⟨b, 0, none⟩))) : (Instr.loadAt 154 (.pointer (some ⟨q, 0, none⟩))).run Tryz.prog w = .ok (.pointer (some ⟨b, 0, none⟩)) w := by
  go_simp
theorem UB.trans_new {b q : Nat} {u v w : World} (h : UB b u v) (k : UB q v w) (hq : u.heap.size ≤ q) : UB b u w :=
  ⟨k.os.trans h.os, k.tape.trans h.tape, k.output.trans h.output, Nat.le_trans h.size k.size, fun i hi hs => (k.block i (Nat.lt_of_lt_of_le hi h.size) (by omega)).trans (h.block i hi hs)⟩
theorem rnumber_any (N b : Nat) (l : List Int) (s : Nat × Int) (w : World) (h : RD N w b l s) : Calls Tryz.prog 98 #[.agg #[.pointer (some ⟨b, 0, none⟩)]] w fun e w' => e = .returned (.int .i64 (rI mxI l s : Int)) ∧ RD N w' b l (sI mxI l s) ∧ UB b w w' := by
  have hb01 := fun o => (Below.refl w.heap.size w).alloc (Nat.le_refl _) o
  have HR := hide (fun o => rd_I N b mxI (Int.le_refl _) l s (w.alloc o) (h.later (hb01 o)))
  have HB := hide hb01
  clear h hb01
  go_enter Tryz.func98, Tryz.ntmps98
  go_wp2_with fail
  refine (HR.out _).mono ?_
  rintro e w2 ⟨rfl, h2, h3⟩
  have H2 := hide h2
  have H3 := hide h3
  clear h2 h3
  go_wp2
  go_ret
  exact ⟨rfl, H2.out, (UB.of_below (HB.out _)).trans H3.out⟩
set_option maxHeartbeats 2000000 in
theorem rdraw_any (N b : Nat) (l : List Int) (s : Nat × Int) (w : World) (h : RD N w b l s) : Calls Tryz.prog 129 #[.agg #[.pointer (some ⟨b, 0, none⟩)]] w fun e w' => e = .returned (.agg #[.int .u64 (rD l s).1, .int .u64 (rD l s).2]) ∧ RD N w' b l (sD l s) ∧ UB b w w' := by
  have hlt := h.lt
  have hqb : w.heap.size ≠ b := by omega
  have hqb2 : w.heap.size + 1 ≠ b := by omega
  go_enter Tryz.func129, Tryz.ntmps129
  go_upto_region 1 with fail
  obtain ⟨w1, hw1⟩ : ∃ w1, w1 = (w.alloc (.cells #[.pointer (some ⟨b, 0, none⟩)] 157)).alloc (.cells #[.int .u64 0, .int .u64 0] 33) := ⟨_, rfl⟩
  rw [← hw1]
  have hb01 : Below w.heap.size w w1 := by rw [hw1]; exact ((Below.refl _ _).alloc (Nat.le_refl _) _).alloc (by simp) _
  have Ya : Bx w1 w.heap.size [.pointer (some ⟨b, 0, none⟩)] := by rw [hw1]; exact (Bx.new w [.pointer (some ⟨b, 0, none⟩)] _).later ((Below.refl _ _).alloc (Nat.le_refl _) _)
  have Yb : Bx w1 (w.heap.size + 1) [.int .u64 0, .int .u64 0] := by rw [hw1]; have := Bx.new (w.alloc (.cells #[.pointer (some ⟨b, 0, none⟩)] 157)) [.int .u64 0, .int .u64 0] 33; simpa using this
  have hR1 := h.later hb01
  have hv0 : UB b w w1 := UB.of_below hb01
  clear hw1
  refine wp_region_lit ?_
  refine vl_gen (fun T => T.size = 12 ∧ T[1]? = some (gw true (.pointer (some ⟨w.heap.size, 0, none⟩))) ∧ T[2]? = some (gw true (.pointer (some ⟨w.heap.size + 1, 0, none⟩)))) ⟨rfl, rfl, rfl⟩ (fun T0 ⟨hz, s1, s2_⟩ => ?_)
  have s2 := s2_
  clear s2_
  refine vt (.pointer (some ⟨w.heap.size, 0, none⟩)) (ex_fa rfl (ev s1 rfl) (by go_simp)) hz (fun Yc zz kk s4 => ?_)
  replace s1 := ku s1
  replace s2 := ku s2
  replace hz := zz
  clear kk zz
  refine vt (.pointer (some ⟨b, 0, none⟩)) (ex_ld rfl (ev s4 rfl) (ldRp (Ya.cell 0 _ rfl))) hz (fun Yd zz kk s5 => ?_)
  replace s1 := ku s1
  replace s2 := ku s2
  replace s4 := ku s4
  replace hz := zz
  clear kk zz Yc
  refine vcallP (want_none rfl) (ex_call rfl (by simp only [List.map_toArray, List.map_cons, List.map_nil, (ev s5 rfl), evc] <;> rfl) rfl) (rd_N N b l s w1 hR1) rfl hz (by decide) ?_
  rintro e v1 ⟨rfl, hR2, hu1⟩
  refine ⟨_, rfl, fun Ye zz kk s6 => ?_⟩
  have Yf := Ya.ub hu1 hqb
  have Yg := Yb.ub hu1 hqb2
  have hv1 := hv0.trans hu1
  replace s1 := ku s1
  replace s2 := ku s2
  replace s4 := ku s4
  replace hz := zz
  clear kk zz s5 Yd
  refine vt _ (ex_assign rfl (ev s6 rfl)) hz (fun Yh zz kk s3 => ?_)
  replace s1 := ku s1
  replace s2 := ku s2
  replace s4 := ku s4
  replace hz := zz
  clear kk zz s6 Ye
  refine wpList_nil ?_
  go_upto_region 2 with fail
  refine wp_region_lit ?_
  refine vt _ (ex_move rfl (ev s3 rfl)) hz (fun Yi zz kk s7 => ?_)
  replace s1 := ku s1
  replace s2 := ku s2
  replace s3 := ku s3
  replace s4 := ku s4
  replace hz := zz
  clear kk zz
  refine vt (.pointer (some ⟨w.heap.size, 0, none⟩)) (ex_fa rfl (ev s1 rfl) (by go_simp)) hz (fun Yj zz kk s8 => ?_)
  replace s1 := ku s1
  replace s2 := ku s2
  replace s3 := ku s3
  replace s4 := ku s4
  replace s7 := ku s7
  replace hz := zz
  clear kk zz Yi
  refine vt (.pointer (some ⟨b, 0, none⟩)) (ex_ld rfl (ev s8 rfl) (ldRp (Yf.cell 0 _ rfl))) hz (fun Yk zz kk s9 => ?_)
  replace s1 := ku s1
  replace s2 := ku s2
  replace s3 := ku s3
  replace s4 := ku s4
  replace s7 := ku s7
  replace hz := zz
  clear kk zz s8 Yj
  refine vcallP (want_none rfl) (ex_call rfl (by simp only [List.map_toArray, List.map_cons, List.map_nil, (ev s9 rfl), evc] <;> rfl) rfl) (rd_N N b l (sN l s) v1 hR2) rfl hz (by decide) ?_
  rintro e v2 ⟨rfl, hR3, hu2⟩
  refine ⟨_, rfl, fun Yl zz kk s10 => ?_⟩
  have Ym := Yf.ub hu2 hqb
  have Yn := Yg.ub hu2 hqb2
  have hv2 := hv1.trans hu2
  replace s1 := ku s1
  replace s2 := ku s2
  replace s3 := ku s3
  replace s4 := ku s4
  replace s7 := ku s7
  replace hz := zz
  clear kk zz s9 Yk
  refine vt (.agg #[.int .u64 (rN l s : Int), .int .u64 (rN l (sN l s) : Int)]) (ex_buildP rfl (by simp only [List.map_toArray, List.map_cons, List.map_nil, (ev s7 rfl), (ev s10 rfl)] <;> rfl) (bdDr _ _ _)) hz (fun Yo zz kk s11 => ?_)
  replace s1 := ku s1
  replace s2 := ku s2
  replace s3 := ku s3
  replace s4 := ku s4
  replace hz := zz
  clear kk zz s7 s10 Yl
  refine vs (sets v2 (w.heap.size + 1) 0 [.int .u64 (rN l s : Int), .int .u64 (rN l (sN l s) : Int)]) (want_none rfl) (ex_st rfl (ev s2 rfl) (ev s11 rfl) (Yn.st 33 [.int .u64 (rN l s : Int), .int .u64 (rN l (sN l s) : Int)] rfl (by kernel_rfl) (by kernel_rfl))) rfl ?_
  have BR := Yn.put [.int .u64 (rN l s : Int), .int .u64 (rN l (sN l s) : Int)] (Nat.le_refl _)
  refine wpList_nil ?_
  go_wp2
  exact BR.1.res rfl s2 Tryz.underlying33 rfl (by kernel_rfl) ⟨rfl, hR3.ub BR.2 (fun k hk => by omega), hv2.trans_new BR.2 (by have := hb01.size; omega)⟩
set_option maxHeartbeats 2000000 in
theorem rname_any (N b : Nat) (l : List Int) (s : Nat × Int) (w : World) (h : RD N w b l s) : Calls Tryz.prog 130 #[.agg #[.pointer (some ⟨b, 0, none⟩)]] w fun e w' => e = .returned (.agg #[.int .i64 (rI mxI l s : Int), .int .i64 (rI mxI l (sI mxI l s) : Int), .int .i64 0, .int .i64 0, .string ⟨#[]⟩]) ∧ RD N w' b l (s2 l s) ∧ UB b w w' := by
  have hlt := h.lt
  have hqb : w.heap.size ≠ b := by omega
  have hqb2 : w.heap.size + 1 ≠ b := by omega
  go_enter Tryz.func130, Tryz.ntmps130
  go_upto_region 1 with fail
  obtain ⟨w1, hw1⟩ : ∃ w1, w1 = (w.alloc (.cells #[.pointer (some ⟨b, 0, none⟩)] 157)).alloc (.cells #[.int .i64 0, .int .i64 0, .int .i64 0, .int .i64 0, .string ⟨#[]⟩] 28) := ⟨_, rfl⟩
  rw [← hw1]
  have hb01 : Below w.heap.size w w1 := by rw [hw1]; exact ((Below.refl _ _).alloc (Nat.le_refl _) _).alloc (by simp) _
  have Ya : Bx w1 w.heap.size [.pointer (some ⟨b, 0, none⟩)] := by rw [hw1]; exact (Bx.new w [.pointer (some ⟨b, 0, none⟩)] _).later ((Below.refl _ _).alloc (Nat.le_refl _) _)
  have Yb : Bx w1 (w.heap.size + 1) [.int .i64 0, .int .i64 0, .int .i64 0, .int .i64 0, .string ⟨#[]⟩] := by rw [hw1]; have := Bx.new (w.alloc (.cells #[.pointer (some ⟨b, 0, none⟩)] 157)) [.int .i64 0, .int .i64 0, .int .i64 0, .int .i64 0, .string ⟨#[]⟩] 28; simpa using this
  have hR1 := h.later hb01
  have hv0 : UB b w w1 := UB.of_below hb01
  clear hw1
  refine wp_region_lit ?_
  refine vl_gen (fun T => T.size = 10 ∧ T[1]? = some (gw true (.pointer (some ⟨w.heap.size, 0, none⟩))) ∧ T[2]? = some (gw true (.pointer (some ⟨w.heap.size + 1, 0, none⟩)))) ⟨rfl, rfl, rfl⟩ (fun T0 ⟨hz, s1, s2_⟩ => ?_)
  have s2 := s2_
  clear s2_
  refine vt (.agg #[.pointer (some ⟨b, 0, none⟩)]) (ex_ld rfl (ev s1 rfl) (ldRd (Ya.cell 0 _ rfl))) hz (fun Yc zz kk s4 => ?_)
  replace s1 := ku s1
  replace s2 := ku s2
  replace hz := zz
  clear kk zz
  refine vcallP (want_none rfl) (ex_call rfl (by simp only [List.map_toArray, List.map_cons, List.map_nil, (ev s4 rfl), evc] <;> rfl) rfl) (rnumber_any N b l s w1 hR1) rfl hz (by decide) ?_
  rintro e v1 ⟨rfl, hR2, hu1⟩
  refine ⟨_, rfl, fun Yd zz kk s5 => ?_⟩
  have Ye := Ya.ub hu1 hqb
  have Yf := Yb.ub hu1 hqb2
  have hv1 := hv0.trans hu1
  replace s1 := ku s1
  replace s2 := ku s2
  replace s4 := ku s4
  replace hz := zz
  clear kk zz Yc
  refine vt _ (ex_assign rfl (ev s5 rfl)) hz (fun Yg zz kk s3 => ?_)
  replace s1 := ku s1
  replace s2 := ku s2
  replace s4 := ku s4
  replace hz := zz
  clear kk zz s5 Yd
  refine wpList_nil ?_
  go_upto_region 2 with fail
  refine wp_region_lit ?_
  refine vt _ (ex_move rfl (ev s3 rfl)) hz (fun Yh zz kk s6 => ?_)
  replace s1 := ku s1
  replace s2 := ku s2
  replace s3 := ku s3
  replace s4 := ku s4
  replace hz := zz
  clear kk zz
  refine vt (.agg #[.pointer (some ⟨b, 0, none⟩)]) (ex_ld rfl (ev s1 rfl) (ldRd (Ye.cell 0 _ rfl))) hz (fun Yi zz kk s7 => ?_)
  replace s1 := ku s1
  replace s2 := ku s2
  replace s3 := ku s3
  replace s4 := ku s4
  replace s6 := ku s6
  replace hz := zz
  clear kk zz Yh
  refine vcallP (want_none rfl) (ex_call rfl (by simp only [List.map_toArray, List.map_cons, List.map_nil, (ev s7 rfl), evc] <;> rfl) rfl) (rnumber_any N b l (sI mxI l s) v1 hR2) rfl hz (by decide) ?_
  rintro e v2 ⟨rfl, hR3, hu2⟩
  refine ⟨_, rfl, fun Yj zz kk s8 => ?_⟩
  have Yk := Ye.ub hu2 hqb
  have Yl := Yf.ub hu2 hqb2
  have hv2 := hv1.trans hu2
  replace s1 := ku s1
  replace s2 := ku s2
  replace s3 := ku s3
  replace s4 := ku s4
  replace s6 := ku s6
  replace hz := zz
  clear kk zz s7 Yi
  refine vt (.agg #[.int .i64 (rI mxI l s : Int), .int .i64 (rI mxI l (sI mxI l s) : Int), .int .i64 0, .int .i64 0, .string ⟨#[]⟩]) (ex_buildP rfl (by simp only [List.map_toArray, List.map_cons, List.map_nil, (ev s6 rfl), (ev s8 rfl)] <;> rfl) (bdEn _ _ _)) hz (fun Ym zz kk s9 => ?_)
  replace s1 := ku s1
  replace s2 := ku s2
  replace s3 := ku s3
  replace s4 := ku s4
  replace hz := zz
  clear kk zz s6 s8 Yj
  refine vs (sets v2 (w.heap.size + 1) 0 [.int .i64 (rI mxI l s : Int), .int .i64 (rI mxI l (sI mxI l s) : Int), .int .i64 0, .int .i64 0, .string ⟨#[]⟩]) (want_none rfl) (ex_st rfl (ev s2 rfl) (ev s9 rfl) (Yl.st 28 [.int .i64 (rI mxI l s : Int), .int .i64 (rI mxI l (sI mxI l s) : Int), .int .i64 0, .int .i64 0, .string ⟨#[]⟩] rfl (by kernel_rfl) (by kernel_rfl))) rfl ?_
  have BR := Yl.put [.int .i64 (rI mxI l s : Int), .int .i64 (rI mxI l (sI mxI l s) : Int), .int .i64 0, .int .i64 0, .string ⟨#[]⟩] (Nat.le_refl _)
  refine wpList_nil ?_
  go_wp2
  exact BR.1.res rfl s2 Tryz.underlying28 rfl (by kernel_rfl) ⟨rfl, hR3.ub BR.2 (fun k hk => by omega), hv2.trans_new BR.2 (by have := hb01.size; omega)⟩
set_option maxHeartbeats 2000000 in
theorem rop_any (N b : Nat) (l : List Int) (s : Nat × Int) (w : World) (h : RD N w b l s) : Calls Tryz.prog 131 #[.agg #[.pointer (some ⟨b, 0, none⟩)]] w fun e w' => e = .returned (.agg #[.int .i64 (rO l s).k, .int .i64 (rO l s).s, .string (rO l s).v]) ∧ RD N w' b l (sO l s) ∧ UB b w w' := by
  have hlt := h.lt
  have hqb : w.heap.size ≠ b := by omega
  have hqb2 : w.heap.size + 1 ≠ b := by omega
  go_enter Tryz.func131, Tryz.ntmps131
  go_upto_region 1 with fail
  obtain ⟨w1, hw1⟩ : ∃ w1, w1 = (w.alloc (.cells #[.pointer (some ⟨b, 0, none⟩)] 157)).alloc (.cells #[.int .i64 0, .int .i64 0, .string ⟨#[]⟩] 26) := ⟨_, rfl⟩
  rw [← hw1]
  have hb01 : Below w.heap.size w w1 := by rw [hw1]; exact ((Below.refl _ _).alloc (Nat.le_refl _) _).alloc (by simp) _
  have Ya : Bx w1 w.heap.size [.pointer (some ⟨b, 0, none⟩)] := by rw [hw1]; exact (Bx.new w [.pointer (some ⟨b, 0, none⟩)] _).later ((Below.refl _ _).alloc (Nat.le_refl _) _)
  have Yb : Bx w1 (w.heap.size + 1) [.int .i64 0, .int .i64 0, .string ⟨#[]⟩] := by rw [hw1]; have := Bx.new (w.alloc (.cells #[.pointer (some ⟨b, 0, none⟩)] 157)) [.int .i64 0, .int .i64 0, .string ⟨#[]⟩] 26; simpa using this
  have hR1 := h.later hb01
  have hv0 : UB b w w1 := UB.of_below hb01
  clear hw1
  refine vh_start (fun v => UB b w1 v) (by kernel_rfl) ?_
  have hS : UB b w1 w1.drew := UB.of_below (Below.refl _ _).drew
  have hR1d := hR1.later (Below.refl _ _).drew
  have B1_0d := Ya.later (Below.refl _ _).drew
  have B2_0d := Yb.later (Below.refl _ _).drew
  refine vh_gen (fun T => T.size = 15 ∧ T[1]? = some (gw true (.pointer (some ⟨w.heap.size, 0, none⟩))) ∧ T[2]? = some (gw true (.pointer (some ⟨w.heap.size + 1, 0, none⟩)))) ⟨rfl, rfl, rfl⟩ (fun T0 ⟨hz, s1, s2_⟩ => ?_)
  have s2 := s2_
  clear s2_
  refine vh_take 0 true (.agg #[.pointer (some ⟨b, 0, none⟩)]) rfl (by kernel_rfl) (by kernel_rfl) (by kernel_rfl) (want_none rfl) (fun hc v hv => ex_ld rfl (ev s1 rfl) (ldRd ((Ya.ub hv hqb).cell 0 _ rfl))) rfl hz (by decide) hS (fun Yc zz kk s5 => ?_)
  replace s1 := ku s1
  replace s2 := ku s2
  replace hz := zz
  clear kk zz
  refine vh_take 2 true (.agg #[.pointer (some ⟨b, 0, none⟩)]) rfl (by kernel_rfl) (by kernel_rfl) (by kernel_rfl) (want_none rfl) (fun hc v hv => ex_ld rfl (ev s1 rfl) (ldRd ((Ya.ub hv hqb).cell 0 _ rfl))) rfl hz (by decide) hS (fun Yd zz kk s7 => ?_)
  replace s1 := ku s1
  replace s2 := ku s2
  replace s5 := ku s5
  replace hz := zz
  clear kk zz Yc
  refine vh_call 1 rfl (by kernel_rfl) (want_none rfl) (ex_call rfl (by simp only [List.map_toArray, List.map_cons, List.map_nil, (ev s5 rfl), evc] <;> rfl) rfl) (rnumber_any N b l s w1.drew hR1d) rfl hz (by decide) ?_
  rintro e v1 ⟨rfl, hR2, hu1⟩
  refine ⟨_, rfl, (hS.trans hu1), fun Ye zz kk s6 => ?_⟩
  have Yf := B1_0d.ub hu1 hqb
  have Yg := B2_0d.ub hu1 hqb2
  have hv1 := hv0.trans (UB.trans (UB.of_below (Below.refl _ _).drew) hu1)
  have hSn1 := hS.trans hu1
  replace s1 := ku s1
  replace s2 := ku s2
  replace s7 := ku s7
  replace hz := zz
  clear kk zz s5 Yd
  refine vh_call 3 rfl (by kernel_rfl) (want_none rfl) (ex_call rfl (by simp only [List.map_toArray, List.map_cons, List.map_nil, (ev s7 rfl), evc] <;> rfl) rfl) (rnumber_any N b l (sI mxI l s) v1 hR2) rfl hz (by decide) ?_
  rintro e v2 ⟨rfl, hR3, hu2⟩
  refine ⟨_, rfl, (hSn1.trans hu2), fun Yh zz kk s8 => ?_⟩
  have Yi := Yf.ub hu2 hqb
  have Yj := Yg.ub hu2 hqb2
  have hv2 := hv1.trans hu2
  have hSn2 := hSn1.trans hu2
  replace s1 := ku s1
  replace s2 := ku s2
  replace s6 := ku s6
  replace hz := zz
  clear kk zz s7 Ye
  refine vh_take 4 true (.int .i64 (rI mxI l s : Int)) rfl (by kernel_rfl) (by kernel_rfl) (by kernel_rfl) (want_none rfl) (fun hc v hv => ex_assign rfl (ev s6 rfl)) rfl hz (by decide) hSn2 (fun Yk zz kk s3 => ?_)
  replace s1 := ku s1
  replace s2 := ku s2
  replace s8 := ku s8
  replace hz := zz
  clear kk zz s6 Yh
  refine vh_take 5 true (.int .i64 (rI mxI l (sI mxI l s) : Int)) rfl (by kernel_rfl) (by kernel_rfl) (by kernel_rfl) (want_none rfl) (fun hc v hv => ex_assign rfl (ev s8 rfl)) rfl hz (by decide) hSn2 (fun Yl zz kk s4 => ?_)
  replace s1 := ku s1
  replace s2 := ku s2
  replace s3 := ku s3
  replace hz := zz
  clear kk zz s8 Yk
  refine vh_done (by kernel_rfl) ?_
  go_upto_region 2 with fail
  refine wp_region_lit ?_
  refine vt _ (ex_move rfl (ev s3 rfl)) hz (fun Ym zz kk s9 => ?_)
  replace s1 := ku s1
  replace s2 := ku s2
  replace s3 := ku s3
  replace s4 := ku s4
  replace hz := zz
  clear kk zz
  refine vt _ (ex_move rfl (ev s4 rfl)) hz (fun Yn zz kk s10 => ?_)
  replace s1 := ku s1
  replace s2 := ku s2
  replace s3 := ku s3
  replace s4 := ku s4
  replace s9 := ku s9
  replace hz := zz
  clear kk zz Ym
  refine vt (.pointer (some ⟨w.heap.size, 0, none⟩)) (ex_fa rfl (ev s1 rfl) (by go_simp)) hz (fun Yo zz kk s11 => ?_)
  replace s1 := ku s1
  replace s2 := ku s2
  replace s3 := ku s3
  replace s4 := ku s4
  replace s9 := ku s9
  replace s10 := ku s10
  replace hz := zz
  clear kk zz Yn
  refine vt (.pointer (some ⟨b, 0, none⟩)) (ex_ld rfl (ev s11 rfl) (ldRp (Yi.cell 0 _ rfl))) hz (fun Yp zz kk s12 => ?_)
  replace s1 := ku s1
  replace s2 := ku s2
  replace s3 := ku s3
  replace s4 := ku s4
  replace s9 := ku s9
  replace s10 := ku s10
  replace hz := zz
  clear kk zz s11 Yo
  refine vcallP (want_none rfl) (ex_call rfl (by simp only [List.map_toArray, List.map_cons, List.map_nil, (ev s12 rfl), evc] <;> rfl) rfl) (rd_T N b l (sI mxI l (sI mxI l s)) v2 hR3) rfl hz (by decide) ?_
  rintro e v3 ⟨rfl, hR4, hu3⟩
  refine ⟨_, rfl, fun Yq zz kk s13 => ?_⟩
  have Yr := Yi.ub hu3 hqb
  have Ys := Yj.ub hu3 hqb2
  have hv3 := hv2.trans hu3
  have hSn3 := hSn2.trans hu3
  replace s1 := ku s1
  replace s2 := ku s2
  replace s3 := ku s3
  replace s4 := ku s4
  replace s9 := ku s9
  replace s10 := ku s10
  replace hz := zz
  clear kk zz s12 Yp
  refine vt (.agg #[.int .i64 (rI mxI l s : Int), .int .i64 (rI mxI l (sI mxI l s) : Int), .string (rT l (sI mxI l (sI mxI l s)))]) (ex_buildP rfl (by simp only [List.map_toArray, List.map_cons, List.map_nil, (ev s9 rfl), (ev s10 rfl), (ev s13 rfl)] <;> rfl) (bdOp _ _ _ _)) hz (fun Yt zz kk s14 => ?_)
  replace s1 := ku s1
  replace s2 := ku s2
  replace s3 := ku s3
  replace s4 := ku s4
  replace hz := zz
  clear kk zz s9 s10 s13 Yq
  refine vs (sets v3 (w.heap.size + 1) 0 [.int .i64 (rI mxI l s : Int), .int .i64 (rI mxI l (sI mxI l s) : Int), .string (rT l (sI mxI l (sI mxI l s)))]) (want_none rfl) (ex_st rfl (ev s2 rfl) (ev s14 rfl) (Ys.st 26 [.int .i64 (rI mxI l s : Int), .int .i64 (rI mxI l (sI mxI l s) : Int), .string (rT l (sI mxI l (sI mxI l s)))] rfl (by kernel_rfl) (by kernel_rfl))) rfl ?_
  have BR := Ys.put [.int .i64 (rI mxI l s : Int), .int .i64 (rI mxI l (sI mxI l s) : Int), .string (rT l (sI mxI l (sI mxI l s)))] (Nat.le_refl _)
  refine wpList_nil ?_
  go_wp2
  exact BR.1.res rfl s2 Tryz.underlying26 rfl (by kernel_rfl) ⟨rfl, hR4.ub BR.2 (fun k hk => by omega), hv3.trans_new BR.2 (by have := hb01.size; omega)⟩
set_option maxHeartbeats 2000000 in
theorem rresult_any (N b : Nat) (l : List Int) (s : Nat × Int) (w : World) (h : RD N w b l s) : Calls Tryz.prog 132 #[.agg #[.pointer (some ⟨b, 0, none⟩)]] w fun e w' => e = .returned (.agg #[.int .i64 (rO l s).k, .int .i64 (rO l s).s, .string (rO l s).v]) ∧ RD N w' b l (sO l s) ∧ UB b w w' := by
  have hlt := h.lt
  have hqb : w.heap.size ≠ b := by omega
  have hqb2 : w.heap.size + 1 ≠ b := by omega
  go_enter Tryz.func132, Tryz.ntmps132
  go_upto_region 1 with fail
  obtain ⟨w1, hw1⟩ : ∃ w1, w1 = (w.alloc (.cells #[.pointer (some ⟨b, 0, none⟩)] 157)).alloc (.cells #[.int .i64 0, .int .i64 0, .string ⟨#[]⟩] 30) := ⟨_, rfl⟩
  rw [← hw1]
  have hb01 : Below w.heap.size w w1 := by rw [hw1]; exact ((Below.refl _ _).alloc (Nat.le_refl _) _).alloc (by simp) _
  have Ya : Bx w1 w.heap.size [.pointer (some ⟨b, 0, none⟩)] := by rw [hw1]; exact (Bx.new w [.pointer (some ⟨b, 0, none⟩)] _).later ((Below.refl _ _).alloc (Nat.le_refl _) _)
  have Yb : Bx w1 (w.heap.size + 1) [.int .i64 0, .int .i64 0, .string ⟨#[]⟩] := by rw [hw1]; have := Bx.new (w.alloc (.cells #[.pointer (some ⟨b, 0, none⟩)] 157)) [.int .i64 0, .int .i64 0, .string ⟨#[]⟩] 30; simpa using this
  have hR1 := h.later hb01
  have hv0 : UB b w w1 := UB.of_below hb01
  clear hw1
  refine vh_start (fun v => UB b w1 v) (by kernel_rfl) ?_
  have hS : UB b w1 w1.drew := UB.of_below (Below.refl _ _).drew
  have hR1d := hR1.later (Below.refl _ _).drew
  have B1_0d := Ya.later (Below.refl _ _).drew
  have B2_0d := Yb.later (Below.refl _ _).drew
  refine vh_gen (fun T => T.size = 15 ∧ T[1]? = some (gw true (.pointer (some ⟨w.heap.size, 0, none⟩))) ∧ T[2]? = some (gw true (.pointer (some ⟨w.heap.size + 1, 0, none⟩)))) ⟨rfl, rfl, rfl⟩ (fun T0 ⟨hz, s1, s2_⟩ => ?_)
  have s2 := s2_
  clear s2_
  refine vh_take 0 true (.agg #[.pointer (some ⟨b, 0, none⟩)]) rfl (by kernel_rfl) (by kernel_rfl) (by kernel_rfl) (want_none rfl) (fun hc v hv => ex_ld rfl (ev s1 rfl) (ldRd ((Ya.ub hv hqb).cell 0 _ rfl))) rfl hz (by decide) hS (fun Yc zz kk s5 => ?_)
  replace s1 := ku s1
  replace s2 := ku s2
  replace hz := zz
  clear kk zz
  refine vh_take 2 true (.agg #[.pointer (some ⟨b, 0, none⟩)]) rfl (by kernel_rfl) (by kernel_rfl) (by kernel_rfl) (want_none rfl) (fun hc v hv => ex_ld rfl (ev s1 rfl) (ldRd ((Ya.ub hv hqb).cell 0 _ rfl))) rfl hz (by decide) hS (fun Yd zz kk s7 => ?_)
  replace s1 := ku s1
  replace s2 := ku s2
  replace s5 := ku s5
  replace hz := zz
  clear kk zz Yc
  refine vh_call 1 rfl (by kernel_rfl) (want_none rfl) (ex_call rfl (by simp only [List.map_toArray, List.map_cons, List.map_nil, (ev s5 rfl), evc] <;> rfl) rfl) (rnumber_any N b l s w1.drew hR1d) rfl hz (by decide) ?_
  rintro e v1 ⟨rfl, hR2, hu1⟩
  refine ⟨_, rfl, (hS.trans hu1), fun Ye zz kk s6 => ?_⟩
  have Yf := B1_0d.ub hu1 hqb
  have Yg := B2_0d.ub hu1 hqb2
  have hv1 := hv0.trans (UB.trans (UB.of_below (Below.refl _ _).drew) hu1)
  have hSn1 := hS.trans hu1
  replace s1 := ku s1
  replace s2 := ku s2
  replace s7 := ku s7
  replace hz := zz
  clear kk zz s5 Yd
  refine vh_call 3 rfl (by kernel_rfl) (want_none rfl) (ex_call rfl (by simp only [List.map_toArray, List.map_cons, List.map_nil, (ev s7 rfl), evc] <;> rfl) rfl) (rnumber_any N b l (sI mxI l s) v1 hR2) rfl hz (by decide) ?_
  rintro e v2 ⟨rfl, hR3, hu2⟩
  refine ⟨_, rfl, (hSn1.trans hu2), fun Yh zz kk s8 => ?_⟩
  have Yi := Yf.ub hu2 hqb
  have Yj := Yg.ub hu2 hqb2
  have hv2 := hv1.trans hu2
  have hSn2 := hSn1.trans hu2
  replace s1 := ku s1
  replace s2 := ku s2
  replace s6 := ku s6
  replace hz := zz
  clear kk zz s7 Ye
  refine vh_take 4 true (.int .i64 (rI mxI l s : Int)) rfl (by kernel_rfl) (by kernel_rfl) (by kernel_rfl) (want_none rfl) (fun hc v hv => ex_assign rfl (ev s6 rfl)) rfl hz (by decide) hSn2 (fun Yk zz kk s3 => ?_)
  replace s1 := ku s1
  replace s2 := ku s2
  replace s8 := ku s8
  replace hz := zz
  clear kk zz s6 Yh
  refine vh_take 5 true (.int .i64 (rI mxI l (sI mxI l s) : Int)) rfl (by kernel_rfl) (by kernel_rfl) (by kernel_rfl) (want_none rfl) (fun hc v hv => ex_assign rfl (ev s8 rfl)) rfl hz (by decide) hSn2 (fun Yl zz kk s4 => ?_)
  replace s1 := ku s1
  replace s2 := ku s2
  replace s3 := ku s3
  replace hz := zz
  clear kk zz s8 Yk
  refine vh_done (by kernel_rfl) ?_
  go_upto_region 2 with fail
  refine wp_region_lit ?_
  refine vt _ (ex_move rfl (ev s3 rfl)) hz (fun Ym zz kk s9 => ?_)
  replace s1 := ku s1
  replace s2 := ku s2
  replace s3 := ku s3
  replace s4 := ku s4
  replace hz := zz
  clear kk zz
  refine vt _ (ex_move rfl (ev s4 rfl)) hz (fun Yn zz kk s10 => ?_)
  replace s1 := ku s1
  replace s2 := ku s2
  replace s3 := ku s3
  replace s4 := ku s4
  replace s9 := ku s9
  replace hz := zz
  clear kk zz Ym
  refine vt (.pointer (some ⟨w.heap.size, 0, none⟩)) (ex_fa rfl (ev s1 rfl) (by go_simp)) hz (fun Yo zz kk s11 => ?_)
  replace s1 := ku s1
  replace s2 := ku s2
  replace s3 := ku s3
  replace s4 := ku s4
  replace s9 := ku s9
  replace s10 := ku s10
  replace hz := zz
  clear kk zz Yn
  refine vt (.pointer (some ⟨b, 0, none⟩)) (ex_ld rfl (ev s11 rfl) (ldRp (Yi.cell 0 _ rfl))) hz (fun Yp zz kk s12 => ?_)
  replace s1 := ku s1
  replace s2 := ku s2
  replace s3 := ku s3
  replace s4 := ku s4
  replace s9 := ku s9
  replace s10 := ku s10
  replace hz := zz
  clear kk zz s11 Yo
  refine vcallP (want_none rfl) (ex_call rfl (by simp only [List.map_toArray, List.map_cons, List.map_nil, (ev s12 rfl), evc] <;> rfl) rfl) (rd_T N b l (sI mxI l (sI mxI l s)) v2 hR3) rfl hz (by decide) ?_
  rintro e v3 ⟨rfl, hR4, hu3⟩
  refine ⟨_, rfl, fun Yq zz kk s13 => ?_⟩
  have Yr := Yi.ub hu3 hqb
  have Ys := Yj.ub hu3 hqb2
  have hv3 := hv2.trans hu3
  have hSn3 := hSn2.trans hu3
  replace s1 := ku s1
  replace s2 := ku s2
  replace s3 := ku s3
  replace s4 := ku s4
  replace s9 := ku s9
  replace s10 := ku s10
  replace hz := zz
  clear kk zz s12 Yp
  refine vt (.agg #[.int .i64 (rI mxI l s : Int), .int .i64 (rI mxI l (sI mxI l s) : Int), .string (rT l (sI mxI l (sI mxI l s)))]) (ex_buildP rfl (by simp only [List.map_toArray, List.map_cons, List.map_nil, (ev s9 rfl), (ev s10 rfl), (ev s13 rfl)] <;> rfl) (bdRs _ _ _ _)) hz (fun Yt zz kk s14 => ?_)
  replace s1 := ku s1
  replace s2 := ku s2
  replace s3 := ku s3
  replace s4 := ku s4
  replace hz := zz
  clear kk zz s9 s10 s13 Yq
  refine vs (sets v3 (w.heap.size + 1) 0 [.int .i64 (rI mxI l s : Int), .int .i64 (rI mxI l (sI mxI l s) : Int), .string (rT l (sI mxI l (sI mxI l s)))]) (want_none rfl) (ex_st rfl (ev s2 rfl) (ev s14 rfl) (Ys.st 30 [.int .i64 (rI mxI l s : Int), .int .i64 (rI mxI l (sI mxI l s) : Int), .string (rT l (sI mxI l (sI mxI l s)))] rfl (by kernel_rfl) (by kernel_rfl))) rfl ?_
  have BR := Ys.put [.int .i64 (rI mxI l s : Int), .int .i64 (rI mxI l (sI mxI l s) : Int), .string (rT l (sI mxI l (sI mxI l s)))] (Nat.le_refl _)
  refine wpList_nil ?_
  go_wp2
  exact BR.1.res rfl s2 Tryz.underlying30 rfl (by kernel_rfl) ⟨rfl, hR4.ub BR.2 (fun k hk => by omega), hv3.trans_new BR.2 (by have := hb01.size; omega)⟩
def dsS (l : List Int) (s : Nat × Int) : Nat → Nat × Int
  | 0 => s
  | j + 1 => sD l (dsS l s j)
def esS (l : List Int) (s : Nat × Int) : Nat → Nat × Int
  | 0 => s
  | j + 1 => sE l (esS l s j)
def dsL (l : List Int) (s : Nat × Int) (n : Nat) : List (Int × Int) := (List.range n).map fun i => rD l (dsS l s i)
def esL (l : List Int) (s : Nat × Int) (n : Nat) : List En := (List.range n).map fun i => rE l (esS l s i)
def dsR (l : List Int) (s : Nat × Int) (n j : Nat) : List (Int × Int) := dsL l s j ++ List.replicate (n - j) (0, 0)
def esR (l : List Int) (s : Nat × Int) (n j : Nat) : List En := esL l s j ++ List.replicate (n - j) ⟨0, 0, ⟨0, 0, ByteArray.empty⟩⟩
theorem dsR_len {l : List Int} {s : Nat × Int} {n j : Nat} (h : j ≤ n) : (dsR l s n j).length = n := by simp [dsR, dsL]; omega
theorem esR_len {l : List Int} {s : Nat × Int} {n j : Nat} (h : j ≤ n) : (esR l s n j).length = n := by simp [esR, esL]; omega
theorem dsR_all (l : List Int) (s : Nat × Int) (n : Nat) : dsR l s n n = dsL l s n := by simp [dsR]
theorem esR_all (l : List Int) (s : Nat × Int) (n : Nat) : esR l s n n = esL l s n := by simp [esR]
theorem set_rep {α : Type} (A : List α) (z x : α) (m : Nat) (h : 0 < m) : (A ++ List.replicate m z).set A.length x = A ++ [x] ++ List.replicate (m - 1) z := by
  rw [List.set_append_right _ _ (Nat.le_refl _), Nat.sub_self]
  cases m with
  | zero => omega
  | succ k => simp [List.replicate_succ]
theorem dsR_next {l : List Int} {s : Nat × Int} {n j : Nat} (h : j < n) : dsR l s n (j + 1) = (dsR l s n j).set j (rD l (dsS l s j)) := by
  have e : (dsL l s j).length = j := by simp [dsL]
  have := set_rep (dsL l s j) (0, 0) (rD l (dsS l s j)) (n - j) (by omega)
  rw [e] at this
  unfold dsR
  rw [this]
  have e2 : dsL l s (j + 1) = dsL l s j ++ [rD l (dsS l s j)] := by simp [dsL, List.range_succ]
  rw [e2, show n - (j + 1) = n - j - 1 by omega]
theorem esR_next {l : List Int} {s : Nat × Int} {n j : Nat} (h : j < n) : esR l s n (j + 1) = (esR l s n j).set j (rE l (esS l s j)) := by
  have e : (esL l s j).length = j := by simp [esL]
  have := set_rep (esL l s j) ⟨0, 0, ⟨0, 0, ByteArray.empty⟩⟩ (rE l (esS l s j)) (n - j) (by omega)
  rw [e] at this
  unfold esR
  rw [this]
  have e2 : esL l s (j + 1) = esL l s j ++ [rE l (esS l s j)] := by simp [esL, List.range_succ]
  rw [e2, show n - (j + 1) = n - j - 1 by omega]
theorem rI_le (m : Nat) (hm : m ≤ 9223372036854775807) (l : List Int) (s : Nat × Int) : rI (m : Int) l s ≤ m := by
  unfold rI Wi.sel
  split
  · unfold Wi.tcVal
    split
    · rename_i h
      unfold Wi.tcErr at h
      repeat' split at h
      all_goals omega
    · omega
  · omega
theorem vput {ops : Array Oper} {rest : List Oper} {o : Oper} {T : Array Value} {df : List Deferred} {w : World} {Q : Exit → Act → World → Prop} {d n : Nat} {v : Value} (hd : o.dst = some d) (hz : T.size = n) (hn : d < n) (hk : ∀ T' : Array Value, T'.size = n → (∀ i, i ≠ d → T'[i]? = T[i]?) → T'[d]? = some (gw true v) → wpList Tryz.prog ops Q rest ⟨T', df⟩ w) : wpList Tryz.prog ops Q rest ((⟨T, df⟩ : Act).put o.dst v) w := by
  rw [hd]
  exact hk (T.setIfInBounds d v) (by simp [hz]) (fun i hi => at_set_ne _ hi) (at_set _ (by omega))
theorem ixVec0 (q n cv nd : Nat) (h : nd < n) (w : World) : (Instr.indexAt 36 (.slice (some ⟨q, 0, none⟩) n cv) (.int .i64 (nd : Int))).run Tryz.prog w = .ok (.pointer (some ⟨q, nd * 2, none⟩)) w := by
  have := ixVec q 0 n cv nd h w
  rw [Nat.zero_add] at this
  exact this
theorem ixEnt0 (q n cv nd : Nat) (h : nd < n) (w : World) : (Instr.indexAt 34 (.slice (some ⟨q, 0, none⟩) n cv) (.int .i64 (nd : Int))).run Tryz.prog w = .ok (.pointer (some ⟨q, nd * 5, none⟩)) w := by
  have := ixEnt q 0 n cv nd h w
  rw [Nat.zero_add] at this
  exact this
set_option maxHeartbeats 4000000 in
theorem rvector_any (N b : Nat) (l : List Int) (s : Nat × Int) (w : World) (h : RD N w b l s) : Calls Tryz.prog 134 #[.agg #[.pointer (some ⟨b, 0, none⟩)]] w fun e w' => ∃ v, e = .returned v ∧ OwnY yD w.heap.size w' v (dsL l (sI 7 l s) (rI 7 l s)) ∧ RD N w' b l (dsS l (sI 7 l s) (rI 7 l s)) ∧ UB b w w' := by
  have hlt := h.lt
  have hqb : w.heap.size ≠ b := by omega
  obtain ⟨n0, hn0⟩ : ∃ n0, n0 = rI 7 l s := ⟨_, rfl⟩
  obtain ⟨st1, hst1⟩ : ∃ st1, st1 = sI 7 l s := ⟨_, rfl⟩
  have hn7 : n0 ≤ 7 := by rw [hn0]; exact rI_le 7 (by decide) l s
  rw [← hst1, ← hn0]
  go_enter Tryz.func134, Tryz.ntmps134
  go_upto_region 1 with fail
  obtain ⟨w1, hw1⟩ : ∃ w1, w1 = w.alloc (.cells #[.pointer (some ⟨b, 0, none⟩)] 157) := ⟨_, rfl⟩
  rw [← hw1]
  have hb01 : Below w.heap.size w w1 := by rw [hw1]; exact (Below.refl _ _).alloc (Nat.le_refl _) _
  have B1 : Bx w1 w.heap.size [.pointer (some ⟨b, 0, none⟩)] := by rw [hw1]; exact Bx.new w [.pointer (some ⟨b, 0, none⟩)] _
  have hR1 := h.later hb01
  have hv1 : UB b w w1 := UB.of_below hb01
  have hsz1 := hb01.size
  have hB1lt := B1.lt
  clear hw1
  refine wp_region_lit ?_
  refine vl_gen (fun T => T.size = 21 ∧ T[1]? = some (gw true (.pointer (some ⟨w.heap.size, 0, none⟩)))) ⟨rfl, rfl⟩ (fun T0 ⟨hz, s1⟩ => ?_)
  refine vt (.pointer (some ⟨w.heap.size, 0, none⟩)) (ex_fa rfl (ev s1 rfl) (by go_simp)) hz (fun Ya zz kk s5 => ?_)
  replace s1 := ku s1
  replace hz := zz
  clear kk zz
  refine vt (.pointer (some ⟨b, 0, none⟩)) (ex_ld rfl (ev s5 rfl) (ldRp (B1.cell 0 _ rfl))) hz (fun Yb zz kk s6 => ?_)
  replace s1 := ku s1
  replace hz := zz
  clear kk zz s5 Ya
  refine vcallP (want_none rfl) (ex_call rfl (by simp only [List.map_toArray, List.map_cons, List.map_nil, (ev s6 rfl), evc] <;> rfl) rfl) (rd_C N b 7 (by decide) l s w1 hR1) rfl hz (by decide) ?_
  rw [← hn0, ← hst1]; rintro e w2 ⟨rfl, hR2, hu2⟩
  refine ⟨_, rfl, fun Yc zz kk s7 => ?_⟩
  have B2 := B1.ub hu2 hqb
  replace s1 := ku s1
  replace hz := zz
  clear kk zz s6 Yb
  refine makeY kD _ rfl (.tmp 7) rfl n0 (ev s7 rfl) (by unfold maxLen; omega) (by show n0 * _ ≤ _; simp only [yD]; omega) ?_
  intro w3 O3 hb3
  refine vput rfl hz (by decide) (fun Yd zz kk s8 => ?_)
  replace s1 := ku s1
  replace hz := zz
  clear kk zz s7 Yc
  refine vt _ (ex_assign rfl (ev s8 rfl)) hz (fun Ye zz kk s3 => ?_)
  replace s1 := ku s1
  replace hz := zz
  clear kk zz s8 Yd
  refine wpList_nil ?_
  have hsz2 := hu2.size
  have O3b := O3.low (show w.heap.size ≤ w2.heap.size by omega)
  have hv3 : UB b w w3 := (hv1.trans hu2).trans (UB.of_below hb3)
  have hR3 := hR2.later hb3
  have B3 := B2.later hb3
  go_upto_region 2 with fail
  refine wp_region_lit ?_
  refine vt _ (ex_move rfl (ev s3 rfl)) hz (fun Yf zz kk s9 => ?_)
  replace s1 := ku s1
  replace s3 := ku s3
  replace hz := zz
  clear kk zz
  refine vt (.int .i64 ((n0 : Nat) : Int)) (ex_lenV rfl rfl (ev s9 rfl)) hz (fun Yg zz kk s10 => ?_)
  replace s1 := ku s1
  replace s3 := ku s3
  replace hz := zz
  clear kk zz s9 Yf
  refine vt (.int .i64 0) (ex_move rfl rfl) hz (fun Yh zz kk s11 => ?_)
  replace s1 := ku s1
  replace s3 := ku s3
  replace s10 := ku s10
  replace hz := zz
  clear kk zz Yg
  refine wpList_nil ?_
  go_upto_region 3 with fail
  refine v_loop 11 n0 (fun j T wr => T.size = 21 ∧ T[1]? = some (gw true (.pointer (some ⟨w.heap.size, 0, none⟩))) ∧ T[3]? = some (gw true (.slice (some ⟨w2.heap.size, 0, none⟩) n0 n0)) ∧ T[10]? = some (gw true (.int .i64 ((n0 : Nat) : Int))) ∧ T[11]? = some (gw true (.int .i64 (j : Int))) ∧ Hid (RD N wr b l (dsS l st1 j) ∧ OwnY yD w.heap.size wr (.slice (some ⟨w2.heap.size, 0, none⟩) n0 n0) (dsR l st1 n0 j) ∧ UB b w wr ∧ Bx wr w.heap.size [.pointer (some ⟨b, 0, none⟩)])) (fun j T w h => h.2.2.2.2.1) ⟨hz, s1, s3, s10, s11, hR3, O3b, hv3, B3⟩ ?_
  clear hz s1 s3 s10 s11
  intro j R0 wr hj hh
  obtain ⟨hz, s1, s3, s10, s11, HI⟩ := hh
  have hwr := HI.out.2.2.1.size
  go_upto_region 3 with fail
  refine wp_region_lit ?_
  refine vt (.bool (decide ((j : Int) < (n0 : Int)))) (ex_bin rfl (ev s11 rfl) (ev s10 rfl) (lssC _ _ _ _ _)) hz (fun Yi zz kk s12 => ?_)
  replace s1 := ku s1
  replace s3 := ku s3
  replace s10 := ku s10
  replace s11 := ku s11
  replace hz := zz
  clear kk zz
  refine wpList_nil ?_
  go_upto_region 4 with fail
  cases e3 : decide ((j : Int) < (n0 : Int))
  · refine wp_cond_false ((ev s12 rfl).trans (congrArg Value.bool e3)) ?_
    have hjl : j = n0 := by have := of_decide_eq_false e3; omega
    have hI := HI.out
    rw [hjl, dsR_all] at hI
    clear e3 s12
    go_upto_region 7 with fail
    refine wp_region_lit ?_
    refine vt _ (ex_move rfl (ev s3 rfl)) hz (fun Yj zz kk s20 => ?_)
    replace hz := zz
    clear kk zz s3
    refine vt _ (ex_assign rfl (ev s20 rfl)) hz (fun Yk zz kk s2 => ?_)
    replace hz := zz
    clear kk zz s20 Yj
    refine wpList_nil ?_
    go_wp2
    exact bodyPost_ret1 rfl s2 ⟨_, rfl, hI.2.1, hI.1, hI.2.2.1⟩
  refine wp_cond_true ((ev s12 rfl).trans (congrArg Value.bool e3)) ?_
  have hlt2 : j < n0 := by have := of_decide_eq_true e3; omega
  clear e3 s12
  go_upto_region 4 with fail
  refine wp_region_lit ?_
  refine vt _ (ex_move rfl (ev s11 rfl)) hz (fun Yl zz kk s13 => ?_)
  replace s1 := ku s1
  replace s3 := ku s3
  replace s10 := ku s10
  replace s11 := ku s11
  replace hz := zz
  clear kk zz
  refine vt _ (ex_assign rfl (ev s13 rfl)) hz (fun Ym zz kk s4 => ?_)
  replace s1 := ku s1
  replace s3 := ku s3
  replace s10 := ku s10
  replace s11 := ku s11
  replace hz := zz
  clear kk zz s13 Yl
  refine wpList_nil ?_
  go_upto_region 5 with fail
  refine wp_region_lit ?_
  refine vt _ (ex_move rfl (ev s3 rfl)) hz (fun Yn zz kk s14 => ?_)
  replace s1 := ku s1
  replace s3 := ku s3
  replace s4 := ku s4
  replace s10 := ku s10
  replace s11 := ku s11
  replace hz := zz
  clear kk zz
  refine vt _ (ex_move rfl (ev s4 rfl)) hz (fun Yo zz kk s15 => ?_)
  replace s1 := ku s1
  replace s3 := ku s3
  replace s4 := ku s4
  replace s10 := ku s10
  replace s11 := ku s11
  replace s14 := ku s14
  replace hz := zz
  clear kk zz Yn
  refine vt (.agg #[.pointer (some ⟨b, 0, none⟩)]) (ex_ld rfl (ev s1 rfl) (ldRd (HI.out.2.2.2.cell 0 _ rfl))) hz (fun Yp zz kk s16 => ?_)
  replace s1 := ku s1
  replace s3 := ku s3
  replace s4 := ku s4
  replace s10 := ku s10
  replace s11 := ku s11
  replace s14 := ku s14
  replace s15 := ku s15
  replace hz := zz
  clear kk zz Yo
  refine vcallP (want_none rfl) (ex_call rfl (by simp only [List.map_toArray, List.map_cons, List.map_nil, (ev s16 rfl), evc] <;> rfl) rfl) (rdraw_any N b l (dsS l st1 j) wr HI.out.1) rfl hz (by decide) ?_
  rintro e w5 ⟨rfl, hR5, hu5⟩
  refine ⟨_, rfl, fun Yq zz kk s17 => ?_⟩
  have B5 := HI.out.2.2.2.ub hu5 hqb
  have O5 := HI.out.2.1.upd1 hu5 (fun g hg => by simp [Value.ownBlock] at hg; omega)
  have hv5 := HI.out.2.2.1.trans hu5
  have hs5 := hu5.size
  replace s1 := ku s1
  replace s3 := ku s3
  replace s4 := ku s4
  replace s10 := ku s10
  replace s11 := ku s11
  replace s14 := ku s14
  replace s15 := ku s15
  replace hz := zz
  clear kk zz s16 Yp
  refine vt (.pointer (some ⟨w2.heap.size, j * 2, none⟩)) (ex_ix rfl (ev s14 rfl) (ev s15 rfl) (ixVec0 _ _ _ _ hlt2 _)) hz (fun Yr zz kk s18 => ?_)
  replace s1 := ku s1
  replace s3 := ku s3
  replace s4 := ku s4
  replace s10 := ku s10
  replace s11 := ku s11
  replace s17 := ku s17
  replace hz := zz
  clear kk zz s14 s15 Yq
  obtain ⟨d0, hd0⟩ : ∃ d0, (dsR l st1 n0 j)[j]? = some d0 := ⟨_, List.getElem?_eq_getElem (by rw [dsR_len hj]; exact hlt2)⟩
  refine storeY kD _ rfl _ (.tmp 18) (.tmp 17) rfl w.heap.size w2.heap.size n0 n0 _ j 0 d0 (rD l (dsS l st1 j)) _ (ev s18 rfl) (ev s17 rfl) hd0 (by kernel_rfl) (by exact (by decide : 2 ≤ 2)) rfl O5 ?_
  intro w6 O6 u6 z6
  change wpList _ _ _ _ ⟨_, []⟩ w6
  have hR6 := hR5.ub u6 (fun k hk => by omega)
  have B6 := B5.ub u6 (by omega)
  have hv6 := hv5.trans_new u6 (by omega)
  refine wpList_nil ?_
  go_upto_region 6 with fail
  refine wp_region_lit ?_
  refine vt (.int .i64 ((j + 1 : Nat) : Int)) (ex_bin rfl (ev s11 rfl) rfl (addJ j (by omega) _ _ _)) hz (fun Ys zz kk s19 => ?_)
  replace s1 := ku s1
  replace s3 := ku s3
  replace s10 := ku s10
  replace s11 := ku s11
  replace hz := zz
  clear kk zz s4 s17 s18
  refine vt _ (ex_move rfl (ev s19 rfl)) hz (fun Yt zz kk s11x => ?_)
  replace s1 := ku s1
  replace s3 := ku s3
  replace s10 := ku s10
  clear kk hz s19 s11
  have hz := zz
  have s11 := s11x
  clear zz s11x Ys
  refine wpList_nil ?_
  exact ⟨_, rfl, by omega, hz, s1, s3, s10, s11, hR6, by rw [dsR_next hlt2]; exact O6, hv6, B6⟩
set_option maxHeartbeats 4000000 in
theorem rlog_any (N b : Nat) (l : List Int) (s : Nat × Int) (w : World) (h : RD N w b l s) : Calls Tryz.prog 133 #[.agg #[.pointer (some ⟨b, 0, none⟩)]] w fun e w' => ∃ v, e = .returned v ∧ OwnY yE w.heap.size w' v (esL l (sI 256 l s) (rI 256 l s)) ∧ RD N w' b l (esS l (sI 256 l s) (rI 256 l s)) ∧ UB b w w' := by
  have hlt := h.lt
  have hqb : w.heap.size ≠ b := by omega
  obtain ⟨n0, hn0⟩ : ∃ n0, n0 = rI 256 l s := ⟨_, rfl⟩
  obtain ⟨st1, hst1⟩ : ∃ st1, st1 = sI 256 l s := ⟨_, rfl⟩
  have hn7 : n0 ≤ 256 := by rw [hn0]; exact rI_le 256 (by decide) l s
  rw [← hst1, ← hn0]
  go_enter Tryz.func133, Tryz.ntmps133
  go_upto_region 1 with fail
  obtain ⟨w1, hw1⟩ : ∃ w1, w1 = w.alloc (.cells #[.pointer (some ⟨b, 0, none⟩)] 157) := ⟨_, rfl⟩
  rw [← hw1]
  have hb01 : Below w.heap.size w w1 := by rw [hw1]; exact (Below.refl _ _).alloc (Nat.le_refl _) _
  have B1 : Bx w1 w.heap.size [.pointer (some ⟨b, 0, none⟩)] := by rw [hw1]; exact Bx.new w [.pointer (some ⟨b, 0, none⟩)] _
  have hR1 := h.later hb01
  have hv1 : UB b w w1 := UB.of_below hb01
  have hsz1 := hb01.size
  have hB1lt := B1.lt
  clear hw1
  refine wp_region_lit ?_
  refine vl_gen (fun T => T.size = 27 ∧ T[1]? = some (gw true (.pointer (some ⟨w.heap.size, 0, none⟩)))) ⟨rfl, rfl⟩ (fun T0 ⟨hz, s1⟩ => ?_)
  refine vt (.pointer (some ⟨w.heap.size, 0, none⟩)) (ex_fa rfl (ev s1 rfl) (by go_simp)) hz (fun Ya zz kk s5 => ?_)
  replace s1 := ku s1
  replace hz := zz
  clear kk zz
  refine vt (.pointer (some ⟨b, 0, none⟩)) (ex_ld rfl (ev s5 rfl) (ldRp (B1.cell 0 _ rfl))) hz (fun Yb zz kk s6 => ?_)
  replace s1 := ku s1
  replace hz := zz
  clear kk zz s5 Ya
  refine vcallP (want_none rfl) (ex_call rfl (by simp only [List.map_toArray, List.map_cons, List.map_nil, (ev s6 rfl), evc] <;> rfl) rfl) (rd_C N b 256 (by decide) l s w1 hR1) rfl hz (by decide) ?_
  rw [← hn0, ← hst1]; rintro e w2 ⟨rfl, hR2, hu2⟩
  refine ⟨_, rfl, fun Yc zz kk s7 => ?_⟩
  have B2 := B1.ub hu2 hqb
  replace s1 := ku s1
  replace hz := zz
  clear kk zz s6 Yb
  refine makeY kE _ rfl (.tmp 7) rfl n0 (ev s7 rfl) (by unfold maxLen; omega) (by show n0 * _ ≤ _; simp only [yE]; omega) ?_
  intro w3 O3 hb3
  refine vput rfl hz (by decide) (fun Yd zz kk s8 => ?_)
  replace s1 := ku s1
  replace hz := zz
  clear kk zz s7 Yc
  refine vt _ (ex_assign rfl (ev s8 rfl)) hz (fun Ye zz kk s3 => ?_)
  replace s1 := ku s1
  replace hz := zz
  clear kk zz s8 Yd
  refine wpList_nil ?_
  have hsz2 := hu2.size
  have O3b := O3.low (show w.heap.size ≤ w2.heap.size by omega)
  have hv3 : UB b w w3 := (hv1.trans hu2).trans (UB.of_below hb3)
  have hR3 := hR2.later hb3
  have B3 := B2.later hb3
  go_upto_region 2 with fail
  refine wp_region_lit ?_
  refine vt _ (ex_move rfl (ev s3 rfl)) hz (fun Yf zz kk s9 => ?_)
  replace s1 := ku s1
  replace s3 := ku s3
  replace hz := zz
  clear kk zz
  refine vt (.int .i64 ((n0 : Nat) : Int)) (ex_lenE rfl rfl (ev s9 rfl)) hz (fun Yg zz kk s10 => ?_)
  replace s1 := ku s1
  replace s3 := ku s3
  replace hz := zz
  clear kk zz s9 Yf
  refine vt (.int .i64 0) (ex_move rfl rfl) hz (fun Yh zz kk s11 => ?_)
  replace s1 := ku s1
  replace s3 := ku s3
  replace s10 := ku s10
  replace hz := zz
  clear kk zz Yg
  refine wpList_nil ?_
  go_upto_region 3 with fail
  refine v_loop 11 n0 (fun j T wr => T.size = 27 ∧ T[1]? = some (gw true (.pointer (some ⟨w.heap.size, 0, none⟩))) ∧ T[3]? = some (gw true (.slice (some ⟨w2.heap.size, 0, none⟩) n0 n0)) ∧ T[10]? = some (gw true (.int .i64 ((n0 : Nat) : Int))) ∧ T[11]? = some (gw true (.int .i64 (j : Int))) ∧ Hid (RD N wr b l (esS l st1 j) ∧ OwnY yE w.heap.size wr (.slice (some ⟨w2.heap.size, 0, none⟩) n0 n0) (esR l st1 n0 j) ∧ UB b w wr ∧ Bx wr w.heap.size [.pointer (some ⟨b, 0, none⟩)])) (fun j T w h => h.2.2.2.2.1) ⟨hz, s1, s3, s10, s11, hR3, O3b, hv3, B3⟩ ?_
  clear hz s1 s3 s10 s11
  intro j R0 wr hj hh
  obtain ⟨hz, s1, s3, s10, s11, HI⟩ := hh
  have hwr := HI.out.2.2.1.size
  go_upto_region 3 with fail
  refine wp_region_lit ?_
  refine vt (.bool (decide ((j : Int) < (n0 : Int)))) (ex_bin rfl (ev s11 rfl) (ev s10 rfl) (lssC _ _ _ _ _)) hz (fun Yi zz kk s12 => ?_)
  replace s1 := ku s1
  replace s3 := ku s3
  replace s10 := ku s10
  replace s11 := ku s11
  replace hz := zz
  clear kk zz
  refine wpList_nil ?_
  go_upto_region 4 with fail
  cases e3 : decide ((j : Int) < (n0 : Int))
  · refine wp_cond_false ((ev s12 rfl).trans (congrArg Value.bool e3)) ?_
    have hjl : j = n0 := by have := of_decide_eq_false e3; omega
    have hI := HI.out
    rw [hjl, esR_all] at hI
    clear e3 s12
    go_upto_region 8 with fail
    refine wp_region_lit ?_
    refine vt _ (ex_move rfl (ev s3 rfl)) hz (fun Yj zz kk s26 => ?_)
    replace hz := zz
    clear kk zz s3
    refine vt _ (ex_assign rfl (ev s26 rfl)) hz (fun Yk zz kk s2 => ?_)
    replace hz := zz
    clear kk zz s26 Yj
    refine wpList_nil ?_
    go_wp2
    exact bodyPost_ret1 rfl s2 ⟨_, rfl, hI.2.1, hI.1, hI.2.2.1⟩
  refine wp_cond_true ((ev s12 rfl).trans (congrArg Value.bool e3)) ?_
  have hlt2 : j < n0 := by have := of_decide_eq_true e3; omega
  clear e3 s12
  go_upto_region 4 with fail
  refine wp_region_lit ?_
  refine vt _ (ex_move rfl (ev s11 rfl)) hz (fun Yl zz kk s13 => ?_)
  replace s1 := ku s1
  replace s3 := ku s3
  replace s10 := ku s10
  replace s11 := ku s11
  replace hz := zz
  clear kk zz
  refine vt _ (ex_assign rfl (ev s13 rfl)) hz (fun Ym zz kk s4 => ?_)
  replace s1 := ku s1
  replace s3 := ku s3
  replace s10 := ku s10
  replace s11 := ku s11
  replace hz := zz
  clear kk zz s13 Yl
  refine wpList_nil ?_
  go_upto_region 5 with fail
  refine wp_region_lit ?_
  refine vt _ (ex_move rfl (ev s3 rfl)) hz (fun Yn zz kk s14 => ?_)
  replace s1 := ku s1
  replace s3 := ku s3
  replace s4 := ku s4
  replace s10 := ku s10
  replace s11 := ku s11
  replace hz := zz
  clear kk zz
  refine vt _ (ex_move rfl (ev s4 rfl)) hz (fun Yo zz kk s15 => ?_)
  replace s1 := ku s1
  replace s3 := ku s3
  replace s4 := ku s4
  replace s10 := ku s10
  replace s11 := ku s11
  replace s14 := ku s14
  replace hz := zz
  clear kk zz Yn
  refine vt (.agg #[.pointer (some ⟨b, 0, none⟩)]) (ex_ld rfl (ev s1 rfl) (ldRd (HI.out.2.2.2.cell 0 _ rfl))) hz (fun Yp zz kk s16 => ?_)
  replace s1 := ku s1
  replace s3 := ku s3
  replace s4 := ku s4
  replace s10 := ku s10
  replace s11 := ku s11
  replace s14 := ku s14
  replace s15 := ku s15
  replace hz := zz
  clear kk zz Yo
  refine vcallP (want_none rfl) (ex_call rfl (by simp only [List.map_toArray, List.map_cons, List.map_nil, (ev s16 rfl), evc] <;> rfl) rfl) (rname_any N b l (esS l st1 j) wr HI.out.1) rfl hz (by decide) ?_
  rintro e w5 ⟨rfl, hR5, hu5⟩
  refine ⟨_, rfl, fun Yq zz kk s17 => ?_⟩
  have B5 := HI.out.2.2.2.ub hu5 hqb
  have O5 := HI.out.2.1.upd1 hu5 (fun g hg => by simp [Value.ownBlock] at hg; omega)
  have hv5 := HI.out.2.2.1.trans hu5
  have hs5 := hu5.size
  replace s1 := ku s1
  replace s3 := ku s3
  replace s4 := ku s4
  replace s10 := ku s10
  replace s11 := ku s11
  replace s14 := ku s14
  replace s15 := ku s15
  replace hz := zz
  clear kk zz s16 Yp
  refine vt (.pointer (some ⟨w2.heap.size, j * 5, none⟩)) (ex_ix rfl (ev s14 rfl) (ev s15 rfl) (ixEnt0 _ _ _ _ hlt2 _)) hz (fun Yr zz kk s18 => ?_)
  replace s1 := ku s1
  replace s3 := ku s3
  replace s4 := ku s4
  replace s10 := ku s10
  replace s11 := ku s11
  replace s17 := ku s17
  replace hz := zz
  clear kk zz s14 s15 Yq
  obtain ⟨d0, hd0⟩ : ∃ d0, (esR l st1 n0 j)[j]? = some d0 := ⟨_, List.getElem?_eq_getElem (by rw [esR_len hj]; exact hlt2)⟩
  refine storeY kE _ rfl _ (.tmp 18) (.tmp 17) rfl w.heap.size w2.heap.size n0 n0 _ j 0 d0 (⟨(rI mxI l (esS l st1 j) : Int), (rI mxI l (sI mxI l (esS l st1 j)) : Int), ⟨0, 0, ⟨#[]⟩⟩⟩ : En) _ (ev s18 rfl) (ev s17 rfl) hd0 (by kernel_rfl) (by exact (by decide : 5 ≤ 5)) rfl O5 ?_
  intro w6 O6 u6 z6
  change wpList _ _ _ _ ⟨_, []⟩ w6
  have hR6 := hR5.ub u6 (fun k hk => by omega)
  have B6 := B5.ub u6 (by omega)
  have hv6 := hv5.trans_new u6 (by omega)
  refine wpList_nil ?_
  go_upto_region 6 with fail
  refine wp_region_lit ?_
  refine vt _ (ex_move rfl (ev s3 rfl)) hz (fun Ys zz kk s19 => ?_)
  replace s1 := ku s1
  replace s3 := ku s3
  replace s4 := ku s4
  replace s10 := ku s10
  replace s11 := ku s11
  replace hz := zz
  clear kk zz s17 s18
  refine vt _ (ex_move rfl (ev s4 rfl)) hz (fun Yt zz kk s20 => ?_)
  replace s1 := ku s1
  replace s3 := ku s3
  replace s10 := ku s10
  replace s11 := ku s11
  replace s19 := ku s19
  replace hz := zz
  clear kk zz s4 Ys
  refine vt (.agg #[.pointer (some ⟨b, 0, none⟩)]) (ex_ld rfl (ev s1 rfl) (ldRd (B6.cell 0 _ rfl))) hz (fun Yu zz kk s21 => ?_)
  replace s1 := ku s1
  replace s3 := ku s3
  replace s10 := ku s10
  replace s11 := ku s11
  replace s19 := ku s19
  replace s20 := ku s20
  replace hz := zz
  clear kk zz Yt
  refine vcallP (want_none rfl) (ex_call rfl (by simp only [List.map_toArray, List.map_cons, List.map_nil, (ev s21 rfl), evc] <;> rfl) rfl) (rop_any N b l (s2 l (esS l st1 j)) w6 hR6) rfl hz (by decide) ?_
  rintro e w7 ⟨rfl, hR7, hu7⟩
  refine ⟨_, rfl, fun Yv zz kk s22 => ?_⟩
  have B7 := B6.ub hu7 hqb
  have O7 := O6.upd1 hu7 (fun g hg => by simp [Value.ownBlock] at hg; omega)
  have hv7 := hv6.trans hu7
  have hs7 := hu7.size
  replace s1 := ku s1
  replace s3 := ku s3
  replace s10 := ku s10
  replace s11 := ku s11
  replace s19 := ku s19
  replace s20 := ku s20
  replace hz := zz
  clear kk zz s21 Yu
  refine vt (.pointer (some ⟨w2.heap.size, j * 5, none⟩)) (ex_ix rfl (ev s19 rfl) (ev s20 rfl) (ixEnt0 _ _ _ _ hlt2 _)) hz (fun Yw zz kk s23 => ?_)
  replace s1 := ku s1
  replace s3 := ku s3
  replace s10 := ku s10
  replace s11 := ku s11
  replace s22 := ku s22
  replace hz := zz
  clear kk zz s19 s20 Yv
  refine vt (.pointer (some ⟨w2.heap.size, j * 5 + 2, none⟩)) (ex_fa rfl (ev s23 rfl) (by go_simp)) hz (fun Yx zz kk s24 => ?_)
  replace s1 := ku s1
  replace s3 := ku s3
  replace s10 := ku s10
  replace s11 := ku s11
  replace s22 := ku s22
  replace hz := zz
  clear kk zz s23 Yw
  refine storeY kE _ rfl _ (.tmp 24) (.tmp 22) rfl w.heap.size w2.heap.size n0 n0 ((esR l st1 n0 j).set j (⟨(rI mxI l (esS l st1 j) : Int), (rI mxI l (sI mxI l (esS l st1 j)) : Int), ⟨0, 0, ⟨#[]⟩⟩⟩ : En)) j 2 (⟨(rI mxI l (esS l st1 j) : Int), (rI mxI l (sI mxI l (esS l st1 j)) : Int), ⟨0, 0, ⟨#[]⟩⟩⟩ : En) (rE l (esS l st1 j)) _ (ev s24 rfl) (ev s22 rfl) (List.getElem?_set_self (by rw [esR_len hj]; exact hlt2)) (by kernel_rfl) (by exact (by decide : 5 ≤ 5)) rfl O7 ?_
  intro w8 O8 u8 z8
  rw [List.set_set] at O8
  change wpList _ _ _ _ ⟨_, []⟩ w8
  have hR8 := hR7.ub u8 (fun k hk => by omega)
  have B8 := B7.ub u8 (by omega)
  have hv8 := hv7.trans_new u8 (by omega)
  refine wpList_nil ?_
  go_upto_region 7 with fail
  refine wp_region_lit ?_
  refine vt (.int .i64 ((j + 1 : Nat) : Int)) (ex_bin rfl (ev s11 rfl) rfl (addJ j (by omega) _ _ _)) hz (fun Yy zz kk s25 => ?_)
  replace s1 := ku s1
  replace s3 := ku s3
  replace s10 := ku s10
  replace s11 := ku s11
  replace hz := zz
  clear kk zz s22 s24
  refine vt _ (ex_move rfl (ev s25 rfl)) hz (fun Yz zz kk s11x => ?_)
  replace s1 := ku s1
  replace s3 := ku s3
  replace s10 := ku s10
  clear kk hz s25 s11
  have hz := zz
  have s11 := s11x
  clear zz s11x Yy
  refine wpList_nil ?_
  exact ⟨_, rfl, by omega, hz, s1, s3, s10, s11, hR8, by rw [esR_next hlt2]; exact O8, hv8, B8⟩
end Go.Proofs.YtibedokegignhaaGreatDoor
