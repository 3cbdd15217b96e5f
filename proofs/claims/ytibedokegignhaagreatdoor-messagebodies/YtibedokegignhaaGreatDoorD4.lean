import Derived.Lib.SlBytesConst
import Derived.Deep.SlicePairs
import Derived.Test.YtibedokegignhaaGreatDoorRows
import Derived.Deep.RegionLaw
import Derived.Lib.ConvBytes
import Derived.Test.YtibedokegignhaaGreatDoorD3c
namespace Go.Proofs.YtibedokegignhaaGreatDoor
open Go.RowKit Go.Maps
open Classical
set_option linter.unusedVariables false
set_option linter.unusedSimpArgs false
def colsBy (m : Mg) (L : List En) (D : List (Int × Int)) (k j : Nat) : List Int := (List.range j).flatMap fun i => if tabA k i = 0 then [] else colBy m L D i (!decide ((tabA k i : Int) = 15))
def mbBy (m : Mg) (L : List En) (D : List (Int × Int)) (k : Nat) : List Int := M.form k ++ colsBy m L D k 10
theorem colsBy_next (m : Mg) (L : List En) (D : List (Int × Int)) (k j : Nat) : colsBy m L D k (j + 1) = colsBy m L D k j ++ (if tabA k j = 0 then [] else colBy m L D j (!decide ((tabA k j : Int) = 15))) := by
  unfold colsBy
  rw [List.range_succ, List.flatMap_append]
  simp
theorem colsBy_none {m : Mg} {L : List En} {D : List (Int × Int)} {k j : Nat} (h : (tabA k j : Int) = 0) : colsBy m L D k (j + 1) = colsBy m L D k j := by
  rw [colsBy_next, if_pos (by omega)]
  simp
theorem colsBy_some {m : Mg} {L : List En} {D : List (Int × Int)} {k j : Nat} (h : ¬ (tabA k j : Int) = 0) : colsBy m L D k (j + 1) = colsBy m L D k j ++ colBy m L D j (!decide ((tabA k j : Int) = 15)) := by
  rw [colsBy_next, if_neg (by omega)]
theorem colBy_le {m : Mg} {L : List En} {D : List (Int × Int)} (hm : mgF m L D) (j : Nat) (op : Bool) : (colBy m L D j op).length ≤ if j = 8 then 26130 else 150 := by
  have fl : ∀ {x : Int}, 0 ≤ x ∧ x ≤ 9223372036854775807 → (M.form x.toNat).length ≤ 9 := fun h => form_le (by omega)
  match j with
  | 0 => have := fl hm.nd; show (M.form _).length ≤ 150; omega
  | 1 => have := fl hm.vw; show (M.form _).length ≤ 150; omega
  | 2 => have := fl hm.ls; show (M.form _).length ≤ 150; omega
  | 3 => have := fl hm.p; show (M.form _).length ≤ 150; omega
  | 4 => have := fl hm.cm; show (M.form _).length ≤ 150; omega
  | 5 =>
    have := drBy_le (x := m.d.1.toNat) (y := m.d.2.toNat) (by have := hm.d.1; have := hm.d.2.1; omega) (by have := hm.d.2.2.1; have := hm.d.2.2.2; omega)
    show (drBy _ _).length ≤ 150
    omega
  | 6 =>
    have h1 := nmBy_le (x := m.e.c.toNat) (y := m.e.n.toNat) (by have := hm.e.1; have := hm.e.2.1; omega) (by have := hm.e.2.2.1; have := hm.e.2.2.2.1; omega)
    have h2 := opBy_le (x := m.e.o.k.toNat) (y := m.e.o.s.toNat) (by have := hm.e.2.2.2.2.1; have := hm.e.2.2.2.2.2.1; omega) (by have := hm.e.2.2.2.2.2.2.1; have := hm.e.2.2.2.2.2.2.2.1; omega) hm.e.2.2.2.2.2.2.2.2
    show (nmBy _ _ ++ _).length ≤ 150
    rw [List.length_append]
    cases op
    · simp; omega
    · simp only [if_true]; omega
  | 7 =>
    have h2 := opBy_le (x := m.r.1.toNat) (y := m.r.2.1.toNat) (by have := hm.r.1; have := hm.r.2.1; omega) (by have := hm.r.2.2.1; have := hm.r.2.2.2.1; omega) hm.r.2.2.2.2
    show (opBy _ _ _).length ≤ 150
    omega
  | 8 =>
    have h1 := esBy_le L hm.es
    have h2 := hm.lL
    have h3 := form_le (show L.length < 2 ^ 64 by omega)
    show (M.form _ ++ _).length ≤ 26130
    rw [List.length_append]
    omega
  | 9 =>
    have h1 := dsBy_le D hm.ds
    have h2 := hm.lD
    have h3 := form_le (show D.length < 2 ^ 64 by omega)
    show (M.form _ ++ _).length ≤ 150
    rw [List.length_append]
    omega
  | (n + 10) => rw [if_neg (by omega)]; exact Nat.zero_le _
theorem tabA_out {k j : Nat} (hj : 10 ≤ j) : tabA k j = 0 := by
  unfold tabA
  by_cases hk : k < 15
  · rw [List.getD_eq_getElem?_getD]
    match k, hk with
    | 0, _ | 1, _ | 2, _ | 3, _ | 4, _ | 5, _ | 6, _ | 7, _ | 8, _ | 9, _ | 10, _ | 11, _ | 12, _ | 13, _ | 14, _ => simp [tabR, List.getElem?_eq_none, hj]
  · rw [List.getElem?_eq_none (show tabR.length ≤ k by show 15 ≤ k; omega)]
    rfl
theorem colsBy_le {m : Mg} {L : List En} {D : List (Int × Int)} (hm : mgF m L D) (k j : Nat) : (colsBy m L D k j).length ≤ 28000 := by
    have key : ∀ j, j ≤ 10 → (colsBy m L D k j).length ≤ 150 * j + if j ≤ 8 then 0 else 26130 := by
      intro j
      induction j with
      | zero => intro _; simp [colsBy]
      | succ j ih =>
        intro hj
        have h1 := ih (by omega)
        have h2 := colBy_le hm j (!decide ((tabA k j : Int) = 15))
        rw [colsBy_next, List.length_append]
        by_cases h0 : tabA k j = 0
        · rw [if_pos h0]
          simp only [List.length_nil]
          split at h1 <;> split <;> omega
        · rw [if_neg h0]
          split at h1 <;> split at h2 <;> split <;> omega
    by_cases hj : j ≤ 10
    · have := key j hj
      split at this <;> omega
    · have e : ∀ n, colsBy m L D k (10 + n) = colsBy m L D k 10 := by
        intro n
        induction n with
        | zero => rfl
        | succ n ih => rw [show 10 + (n + 1) = (10 + n) + 1 from rfl, colsBy_next, if_pos (tabA_out (by omega)), List.append_nil, ih]
      have := key 10 (Nat.le_refl _)
      rw [show j = 10 + (j - 10) by omega, e]
      simp at this
      omega
theorem ixTab (k : Nat) (hk : k < 15) (w : World) : (Instr.indexAt 84 (.pointer (some ⟨0, 0, none⟩)) (.int .i64 (k : Int))).run Tryz.prog w = .ok (.pointer (some ⟨0, k * 10, none⟩)) w := by
  have h1 : (k : Int) < 15 := by omega
  go_simp
theorem ldRow {w : World} (h : Tab w) {k : Nat} (hk : k < 15) : (Instr.loadAt 83 (.pointer (some ⟨0, k * 10, none⟩))).run Tryz.prog w = .ok (.agg #[.int .u8 (tabA k 0 : Int), .int .u8 (tabA k 1 : Int), .int .u8 (tabA k 2 : Int), .int .u8 (tabA k 3 : Int), .int .u8 (tabA k 4 : Int), .int .u8 (tabA k 5 : Int), .int .u8 (tabA k 6 : Int), .int .u8 (tabA k 7 : Int), .int .u8 (tabA k 8 : Int), .int .u8 (tabA k 9 : Int)]) w := by
  have y0 : w.cell? ⟨0, k * 10, none⟩ = some (.int .u8 (tabA k 0 : Int)) := h.cell k 0 hk (by omega)
  have y1 := h.cell k 1 hk (by omega)
  have y2 := h.cell k 2 hk (by omega)
  have y3 := h.cell k 3 hk (by omega)
  have y4 := h.cell k 4 hk (by omega)
  have y5 := h.cell k 5 hk (by omega)
  have y6 := h.cell k 6 hk (by omega)
  have y7 := h.cell k 7 hk (by omega)
  have y8 := h.cell k 8 hk (by omega)
  have y9 := h.cell k 9 hk (by omega)
  go_simp
theorem ex_index {o : Oper} {ρ : Operand → Value} {s : TypeId} {x y : Operand} {X Y V : Value} {w : World} (ho : o.op = .index s x y) (hx : ρ x = X) (hy : ρ y = Y) (hr : (Instr.index s X Y).run Tryz.prog w = .ok V w) : (execOp ρ o).run Tryz.prog w = .ok (.value V) w := by
  unfold execOp
  simp only [ho, hx, hy, Sem.run_bind, hr, Result.andThen_ok]
  rfl
theorem ex_ext {o : Oper} {ρ : Operand → Value} {x : Operand} {i : Nat} {X V : Value} {w : World} (ho : o.op = .extract x i) (hx : ρ x = X) (hr : (Instr.extract X i).run Tryz.prog w = .ok V w) : (execOp ρ o).run Tryz.prog w = .ok (.value V) w := by
  unfold execOp
  simp only [ho, hx, Sem.run_bind, hr, Result.andThen_ok]
  rfl
set_option maxRecDepth 100000 in
set_option maxHeartbeats 4000000 in
theorem wmessage_tk (B b : Nat) (l : List Int) (m : Mg) (k : Nat) (hmk : m.k = (k : Int)) (hk2 : k < 15) (a1 a2 : Option Addr) (cl cv : Nat) (L : List En) (D : List (Int × Int)) (w0 w : World) (hB : B ≤ b) (hB1 : 0 < B) (hT : Tab w) (h0 : Below w0.heap.size w0 w) (hB0 : w0.heap.size ≤ B) (hL : SlY yE w0 a1 L.length cl L) (hD : SlY yD w0 a2 D.length cv D) (hm : mgF m L D) (h : Wi.WOkT w b l) (hl : l.length + 100000 ≤ 140737488355328) :
    Calls Tryz.prog 44 #[.pointer (some ⟨b, 0, none⟩), m.val (.slice a1 L.length cl) (.slice a2 D.length cv)] w fun e w' => e = .returned (.tuple #[]) ∧ Wi.WOkT w' b (l ++ mbBy m L D k) ∧ Below B w w' ∧ Wi.TKp w w' := by
  have hlt0 := h.lt
  go_enter Tryz.func44, Tryz.ntmps44
  go_upto_region 1 with (refine boxMk rfl (.tmp 1) rfl m _ _ rfl ?_; intro q1 w1 hq1 M1 hBw z1; subst hq1)
  have hO1 := h.later hBw
  have hBl : B ≤ w.heap.size := by omega
  have HM : Hid (∀ v, Wi.TKp w1 v → MBox v w.heap.size m (.slice a1 L.length cl) (.slice a2 D.length cv)) := fun v hv => M1.tk hv
  have HK : Hid (∀ v, Wi.TKp w1 v → (Instr.loadAt 24 (.pointer (some ⟨w.heap.size, 0, none⟩))).run Tryz.prog v = .ok (.int .i64 (k : Int)) v) := fun v hv => by rw [← hmk]; exact (HM.out v hv).ldKind
  have HTB : Hid (∀ v, Below B w1 v → Tab v) := fun v hv => (hT.later hBw (Nat.lt_of_lt_of_le hB1 hBl)).later hv hB1
  have HLEN : Hid (∀ j, (l ++ M.form k ++ colsBy m L D k j).length + 30000 ≤ 140737488355328) := fun j => by
    have f1 := form_le (show k < 2 ^ 64 by omega)
    have f2 := colsBy_le hm k j
    rw [List.length_append, List.length_append]
    omega
  refine vh_start (fun v => Wi.TKp w1 v) (by kernel_rfl) ?_
  have hS : Wi.TKp w1 w1.drew := (Wi.TKp.refl w1).drewN 1
  refine vh_gen (fun T => T.size = 28 ∧ T[0]? = some (gw true (.pointer (some ⟨b, 0, none⟩))) ∧ T[3]? = some (gw true (.pointer (some ⟨w.heap.size, 0, none⟩)))) ⟨rfl, rfl, rfl⟩ (fun T0 ⟨hz, s0, s3⟩ => ?_)
  refine vh_take 0 true (.pointer (some ⟨b, 0, none⟩)) rfl (by kernel_rfl) (by kernel_rfl) (by kernel_rfl) (want_none rfl) (fun hc v hv => ex_move rfl (ev s0 rfl)) rfl hz (by decide) hS (fun A1_1 zz kk s6 => ?_)
  replace s0 := kt kk s0
  replace s3 := kt kk s3
  replace hz := zz
  clear kk zz
  refine vh_take 1 true (.pointer (some ⟨b, 0, none⟩)) rfl (by kernel_rfl) (by kernel_rfl) (by kernel_rfl) (want_none rfl) (fun hc v hv => ex_nil rfl (ev s6 rfl)) rfl hz (by decide) hS (fun A1_2 zz kk s7 => ?_)
  replace s0 := kt kk s0
  replace s3 := kt kk s3
  replace hz := zz
  clear kk zz s6 A1_1
  refine vh_take 2 true (.pointer (some ⟨b, 0, none⟩)) rfl (by kernel_rfl) (by kernel_rfl) (by kernel_rfl) (want_none rfl) (fun hc v hv => ex_fa rfl (ev s7 rfl) (by go_simp)) rfl hz (by decide) hS (fun A1_3 zz kk s8 => ?_)
  replace s0 := kt kk s0
  replace s3 := kt kk s3
  replace hz := zz
  clear kk zz s7 A1_2
  refine vh_take 3 true (.pointer (some ⟨w.heap.size, 0, none⟩)) rfl (by kernel_rfl) (by kernel_rfl) (by kernel_rfl) (want_none rfl) (fun hc v hv => ex_fa rfl (ev s3 rfl) (MBox.faKind _ _)) rfl hz (by decide) hS (fun A1_4 zz kk s9 => ?_)
  replace s0 := kt kk s0
  replace s3 := kt kk s3
  replace s8 := kt kk s8
  replace hz := zz
  clear kk zz A1_3
  refine vh_take 4 true (.int .i64 (k : Int)) rfl (by kernel_rfl) (by kernel_rfl) (by kernel_rfl) (want_none rfl) (fun hc v hv => ex_ld rfl (ev s9 rfl) (HK.out v hv)) rfl hz (by decide) hS (fun A1_5 zz kk s10 => ?_)
  replace s0 := kt kk s0
  replace s3 := kt kk s3
  replace s8 := kt kk s8
  replace hz := zz
  clear kk zz s9 A1_4
  refine vh_call 5 rfl (by kernel_rfl) (want_none rfl) (ex_call rfl (by simp only [List.map_toArray, List.map_cons, List.map_nil, (ev s8 rfl), (ev s10 rfl), evc] <;> rfl) rfl) (Wi.int_tk B b l k w1.drew hB hO1.drew (by omega) (by omega)) rfl hz (by decide) ?_
  rintro e w2 ⟨rfl, hO2, hb2, ht2⟩
  refine ⟨_, rfl, (hS.trans ht2), fun A1_6 zz kk s11 => ?_⟩
  have hb3 : Below B w1 w2 := (Below.refl _ _).drew.trans hb2
  have ht3 : Wi.TKp w1 w2 := ((Wi.TKp.refl w1).drewN 1).trans ht2
  clear hb2 ht2 hS
  replace s0 := kt kk s0
  replace s3 := kt kk s3
  replace hz := zz
  clear kk zz s8 s10 A1_5
  refine vh_done (by kernel_rfl) ?_
  go_upto_region 2 with fail
  refine wp_region_lit ?_
  refine vt (.pointer (some ⟨w.heap.size, 0, none⟩)) (ex_fa rfl (ev s3 rfl) (MBox.faKind _ _)) hz (fun A2_1 zz kk s12 => ?_)
  replace s0 := kt kk s0
  replace s3 := kt kk s3
  replace hz := zz
  clear kk zz s11
  refine vt (.int .i64 (k : Int)) (ex_ld rfl (ev s12 rfl) (HK.out w2 ht3)) hz (fun A2_2 zz kk s13 => ?_)
  replace s0 := kt kk s0
  replace s3 := kt kk s3
  replace hz := zz
  clear kk zz s12 A2_1
  refine vt (.pointer (some ⟨0, k * 10, none⟩)) (ex_ix rfl rfl (ev s13 rfl) (ixTab k hk2 _)) hz (fun A2_3 zz kk s14 => ?_)
  replace s0 := kt kk s0
  replace s3 := kt kk s3
  replace hz := zz
  clear kk zz s13 A2_2
  refine vt (.agg #[.int .u8 (tabA k 0 : Int), .int .u8 (tabA k 1 : Int), .int .u8 (tabA k 2 : Int), .int .u8 (tabA k 3 : Int), .int .u8 (tabA k 4 : Int), .int .u8 (tabA k 5 : Int), .int .u8 (tabA k 6 : Int), .int .u8 (tabA k 7 : Int), .int .u8 (tabA k 8 : Int), .int .u8 (tabA k 9 : Int)]) (ex_ld rfl (ev s14 rfl) (ldRow (HTB.out w2 hb3) hk2)) hz (fun A2_4 zz kk s15 => ?_)
  replace s0 := kt kk s0
  replace s3 := kt kk s3
  replace hz := zz
  clear kk zz s14 A2_3
  refine vt (.int .i64 0) (ex_move rfl rfl) hz (fun A2_5 zz kk s16 => ?_)
  replace s0 := kt kk s0
  replace s3 := kt kk s3
  replace s15 := kt kk s15
  replace hz := zz
  clear kk zz A2_4
  refine wpList_nil ?_
  go_upto_region 3 with fail
  refine v_loop 16 10 (fun j T wr => T.size = 28 ∧ T[0]? = some (gw true (.pointer (some ⟨b, 0, none⟩))) ∧ T[3]? = some (gw true (.pointer (some ⟨w.heap.size, 0, none⟩))) ∧ T[15]? = some (gw true (.agg #[.int .u8 (tabA k 0 : Int), .int .u8 (tabA k 1 : Int), .int .u8 (tabA k 2 : Int), .int .u8 (tabA k 3 : Int), .int .u8 (tabA k 4 : Int), .int .u8 (tabA k 5 : Int), .int .u8 (tabA k 6 : Int), .int .u8 (tabA k 7 : Int), .int .u8 (tabA k 8 : Int), .int .u8 (tabA k 9 : Int)])) ∧ T[16]? = some (gw true (.int .i64 (j : Int))) ∧ Hid (Wi.WOkT wr b (l ++ M.form k ++ colsBy m L D k j) ∧ Below B w1 wr ∧ Wi.TKp w1 wr)) (fun j T w h => h.2.2.2.2.1) ⟨hz, s0, s3, s15, s16, by simpa [colsBy] using hO2, hb3, ht3⟩ ?_
  intro j R0 wr hj hh
  clear hz s0 s3 s15 s16
  obtain ⟨hz, s0, s3, s15, s16, HI⟩ := hh
  go_upto_region 3 with fail
  refine wp_region_lit ?_
  refine vt (.bool (decide ((j : Int) < 10))) (ex_bin rfl (ev s16 rfl) rfl (lssC _ _ _ _ _)) hz (fun A3_1 zz kk s17 => ?_)
  replace s0 := kt kk s0
  replace s3 := kt kk s3
  replace s15 := kt kk s15
  replace s16 := kt kk s16
  replace hz := zz
  clear kk zz
  refine wpList_nil ?_
  go_upto_region 4 with fail
  cases e3 : decide ((j : Int) < 10)
  · refine wp_cond_false ((ev s17 rfl).trans (congrArg Value.bool e3)) ?_
    have hjl : j = 10 := by have := of_decide_eq_false e3; omega
    have HJ := hide hjl
    clear e3 hjl
    go_wp2
    go_end0
    have hI := HI.out
    rw [HJ.out] at hI
    exact ⟨rfl, by simpa [mbBy, List.append_assoc] using hI.1, (hBw.mono hBl).trans hI.2.1, (Wi.TKp.of_below hBw).trans hI.2.2⟩
  refine wp_cond_true ((ev s17 rfl).trans (congrArg Value.bool e3)) ?_
  have hlt : j < 10 := by have := of_decide_eq_true e3; omega
  clear s17 e3
  go_upto_region 4 with fail
  refine wp_region_lit ?_
  refine vt _ (ex_move rfl (ev s16 rfl)) hz (fun A4_1 zz kk s18 => ?_)
  replace s0 := kt kk s0
  replace s3 := kt kk s3
  replace s15 := kt kk s15
  replace s16 := kt kk s16
  replace hz := zz
  clear kk zz
  refine vt (.int .u8 (tabA k j : Int)) (ex_index rfl (ev s15 rfl) (ev s16 rfl) (rowIx k j hlt _)) hz (fun A4_2 zz kk s19 => ?_)
  replace s0 := kt kk s0
  replace s3 := kt kk s3
  replace s15 := kt kk s15
  replace s16 := kt kk s16
  replace s18 := kt kk s18
  replace hz := zz
  clear kk zz A4_1
  refine vt _ (ex_assign rfl (ev s18 rfl)) hz (fun A4_3 zz kk s4 => ?_)
  replace s0 := kt kk s0
  replace s3 := kt kk s3
  replace s15 := kt kk s15
  replace s16 := kt kk s16
  replace s19 := kt kk s19
  replace hz := zz
  clear kk zz s18 A4_2
  refine vt _ (ex_assign rfl (ev s19 rfl)) hz (fun A4_4 zz kk s5 => ?_)
  replace s0 := kt kk s0
  replace s3 := kt kk s3
  replace s4 := kt kk s4
  replace s15 := kt kk s15
  replace s16 := kt kk s16
  replace hz := zz
  clear kk zz s19 A4_3
  refine wpList_nil ?_
  go_upto_region 5 with fail
  refine wp_region_lit ?_
  refine vt _ (ex_move rfl (ev s5 rfl)) hz (fun A5_1 zz kk s20 => ?_)
  replace s0 := kt kk s0
  replace s3 := kt kk s3
  replace s4 := kt kk s4
  replace s5 := kt kk s5
  replace s15 := kt kk s15
  replace s16 := kt kk s16
  replace hz := zz
  clear kk zz
  refine vt (.bool (!decide ((tabA k j : Int) = 0))) (ex_bin rfl (ev s20 rfl) rfl (neqU8 _ _ _ _ _)) hz (fun A5_2 zz kk s21 => ?_)
  replace s0 := kt kk s0
  replace s3 := kt kk s3
  replace s4 := kt kk s4
  replace s5 := kt kk s5
  replace s15 := kt kk s15
  replace s16 := kt kk s16
  replace hz := zz
  clear kk zz s20 A5_1
  refine wpList_nil ?_
  go_upto_region 6 with fail
  cases e5 : !decide ((tabA k j : Int) = 0)
  · refine wp_cond_false ((ev s21 rfl).trans (congrArg Value.bool e5)) ?_
    clear s21
    go_upto_region 7 with fail
    refine wp_region_lit ?_
    refine vt (.int .i64 ((j + 1 : Nat) : Int)) (ex_bin rfl (ev s16 rfl) rfl (addJ j (by omega) _ _ _)) hz (fun A7_1 zz kk s27 => ?_)
    replace s0 := kt kk s0
    replace s3 := kt kk s3
    replace s15 := kt kk s15
    replace s16 := kt kk s16
    replace hz := zz
    clear kk zz s4 s5
    refine vt _ (ex_move rfl (ev s27 rfl)) hz (fun A7_2 zz kk s16x => ?_)
    replace s0 := kt kk s0
    replace s3 := kt kk s3
    replace s15 := kt kk s15
    clear kk hz s27 s16
    have hz := zz
    have s16 := s16x
    clear zz s16x A7_1
    refine wpList_nil ?_
    exact ⟨_, rfl, by omega, hz, s0, s3, s15, s16, by rw [colsBy_none (by simpa using e5)]; exact HI.out.1, HI.out.2.1, HI.out.2.2⟩
  refine wp_cond_true ((ev s21 rfl).trans (congrArg Value.bool e5)) ?_
  clear s21
  go_upto_region 6 with fail
  refine wp_region_lit ?_
  refine vt _ (ex_move rfl (ev s0 rfl)) hz (fun A6_1 zz kk s22 => ?_)
  replace s0 := kt kk s0
  replace s3 := kt kk s3
  replace s4 := kt kk s4
  replace s5 := kt kk s5
  replace s15 := kt kk s15
  replace s16 := kt kk s16
  replace hz := zz
  clear kk zz
  refine vt (m.val (.slice a1 L.length cl) (.slice a2 D.length cv)) (ex_ld rfl (ev s3 rfl) ((HM.out wr HI.out.2.2).ldAll)) hz (fun A6_2 zz kk s23 => ?_)
  replace s0 := kt kk s0
  replace s3 := kt kk s3
  replace s4 := kt kk s4
  replace s5 := kt kk s5
  replace s15 := kt kk s15
  replace s16 := kt kk s16
  replace s22 := kt kk s22
  replace hz := zz
  clear kk zz A6_1
  refine vt _ (ex_move rfl (ev s4 rfl)) hz (fun A6_3 zz kk s24 => ?_)
  replace s0 := kt kk s0
  replace s3 := kt kk s3
  replace s5 := kt kk s5
  replace s15 := kt kk s15
  replace s16 := kt kk s16
  replace s22 := kt kk s22
  replace s23 := kt kk s23
  replace hz := zz
  clear kk zz s4 A6_2
  refine vt _ (ex_move rfl (ev s5 rfl)) hz (fun A6_4 zz kk s25 => ?_)
  replace s0 := kt kk s0
  replace s3 := kt kk s3
  replace s15 := kt kk s15
  replace s16 := kt kk s16
  replace s22 := kt kk s22
  replace s23 := kt kk s23
  replace s24 := kt kk s24
  replace hz := zz
  clear kk zz s5 A6_3
  refine vcallP (want_none rfl) (ex_call rfl (by simp only [List.map_toArray, List.map_cons, List.map_nil, (ev s22 rfl), (ev s23 rfl), (ev s24 rfl), (ev s25 rfl), evc] <;> rfl) rfl) (wfield_all B b (l ++ M.form k ++ colsBy m L D k j) m a1 a2 cl cv L D j hlt (tabA k j : Int) w0 wr hB (h0.trans ((hBw.mono h0.size).trans (HI.out.2.1.mono hB0))) hB0 hL hD hm HI.out.1 (by have := HLEN.out j; omega)) rfl hz (by decide) ?_
  rintro e w7 ⟨rfl, hO7, hb7, ht7⟩
  refine ⟨_, rfl, fun A6_5 zz kk s26 => ?_⟩
  replace s0 := kt kk s0
  replace s3 := kt kk s3
  replace s15 := kt kk s15
  replace s16 := kt kk s16
  replace hz := zz
  clear kk zz s22 s23 s24 s25 A6_4
  refine wpList_nil ?_
  go_upto_region 7 with fail
  refine wp_region_lit ?_
  refine vt (.int .i64 ((j + 1 : Nat) : Int)) (ex_bin rfl (ev s16 rfl) rfl (addJ j (by omega) _ _ _)) hz (fun A7_1 zz kk s27 => ?_)
  replace s0 := kt kk s0
  replace s3 := kt kk s3
  replace s15 := kt kk s15
  replace s16 := kt kk s16
  replace hz := zz
  clear kk zz s26
  refine vt _ (ex_move rfl (ev s27 rfl)) hz (fun A7_2 zz kk s16x => ?_)
  replace s0 := kt kk s0
  replace s3 := kt kk s3
  replace s15 := kt kk s15
  clear kk hz s27 s16
  have hz := zz
  have s16 := s16x
  clear zz s16x A7_1
  refine wpList_nil ?_
  exact ⟨_, rfl, by omega, hz, s0, s3, s15, s16, by rw [colsBy_some (by simpa using e5)]; simpa only [List.append_assoc] using hO7, HI.out.2.1.trans hb7, HI.out.2.2.trans ht7⟩
end Go.Proofs.YtibedokegignhaaGreatDoor
namespace Go.Proofs.YtibedokegignhaaGreatDoor.Wi
open Go.RowKit
set_option linter.unusedVariables false
theorem bytes_any (b : Nat) (l : List Int) (w : World) (h : WOk w b l) (hl : l.length ≤ 140737488355328) :
    Calls Tryz.prog 45 #[.pointer (some ⟨b, 0, none⟩)] w fun e w' => ∃ v, e = .returned (.tuple #[v, .int .i64 0]) ∧ Own w.heap.size w' v l ∧ Below w.heap.size w w' := by
  rcases h with ⟨rfl, h⟩ | ⟨q, g, n, c, h⟩
  · refine (bytes_new b w h).mono ?_
    rintro e w' ⟨rfl, rfl⟩
    exact ⟨_, rfl, Own.nil _ _, Below.refl _ _⟩
  · exact bytes_has b q g n c l w h hl
structure Pt where
  K : Int
  V : Int
  N : Int
  m : Int
  s : ByteArray
theorem take_snoc (P : List Pt) (k : Nat) (h : k < P.length) : P.take (k + 1) = P.take k ++ [P[k]] := by rw [List.take_add_one, List.getElem?_eq_getElem h]; rfl
def tnErr : List Int → Int
  | [] => 10
  | k :: d => if 8 < k then 12 else if (d.length : Int) < k then 10 else if 0 < k ∧ d.getD 0 0 = 0 then 12 else 0
def tnVal (l : List Int) : Nat := if tnErr l = 0 then M.rb ((l.drop 1).take (l.getD 0 0).toNat) else 0
def tnSize (l : List Int) : Nat := if tnErr l = 0 then 1 + (l.getD 0 0).toNat else 0
theorem tn_bad {l : List Int} (h : tnErr l ≠ 0) : tnVal l = 0 ∧ tnSize l = 0 := by unfold tnVal tnSize; rw [if_neg h, if_neg h]; exact ⟨rfl, rfl⟩
theorem ret3 {a b c : Int} {a' b' c' : Int} (h1 : a = a') (h2 : b = b') (h3 : c = c') : Ending.returned (.tuple #[.int .u64 a, .int .i64 b, .int .i64 c]) = .returned (.tuple #[.int .u64 a', .int .i64 b', .int .i64 c']) := by rw [h1, h2, h3]
def TnPost (l : List Int) (w : World) (e : Ending) (w' : World) : Prop := e = .returned (.tuple #[.int .u64 (tnVal l), .int .i64 (tnSize l), .int .i64 (tnErr l)]) ∧ ∃ k, w' = w.drewN k
theorem TnPost.mk_bad {l : List Int} {w : World} {E : Int} (k : Nat) (h : tnErr l = E) (hE : E ≠ 0) : TnPost l w (.returned (.tuple #[.int .u64 0, .int .i64 0, .int .i64 E])) (w.drewN k) := by
  obtain ⟨h1, h2⟩ := tn_bad (l := l) (by rw [h]; exact hE)
  exact ⟨ret3 (by rw [h1]; rfl) (by rw [h2]; rfl) h.symm, k, rfl⟩
theorem tn_none (a : Option Addr) (c : Nat) (w : World) :
    Calls Tryz.prog 153 #[.slice a 0 c] w fun e w' => TnPost [] w e w' := by
  go_enter Tryz.func153, Tryz.ntmps153
  go_wp2
  go_ret3
  exact TnPost.mk_bad 0 rfl (by decide)
theorem rb_step64 (v : Nat) (z : Int) (hv : v < 72057594037927936) (h0 : 0 ≤ z) (h1 : z < 256) : bits .or .u64 ((v : Int) * 256 % 18446744073709551616) (z % 18446744073709551616) = ((v * 256 + z.toNat : Nat) : Int) := by
  obtain ⟨n, rfl⟩ := Int.eq_ofNat_of_zero_le h0
  have e1 : ((v : Int) * 256 % 18446744073709551616) = ((v * 2 ^ 8 : Nat) : Int) := by omega
  have e2 : ((n : Int) % 18446744073709551616) = (n : Int) := by omega
  rw [e1, e2, u64_or_nat _ _ (by omega) (by omega), M.or_low v n 8 (by omega)]
  simp
theorem tnErr_form {k : Int} {d : List Int} (h : 8 < k) : tnErr (k :: d) = 12 := by simp only [tnErr]; rw [if_pos h]
theorem tnErr_short {k : Int} {d : List Int} (h : ¬ 8 < k) (h2 : (d.length : Int) < k) : tnErr (k :: d) = 10 := by simp only [tnErr]; rw [if_neg h, if_pos h2]
theorem tnErr_zero {k : Int} {d : List Int} (h : ¬ 8 < k) (h2 : ¬ (d.length : Int) < k) (h3 : 0 < k) (h4 : d.getD 0 0 = 0) : tnErr (k :: d) = 12 := by simp only [tnErr]; rw [if_neg h, if_neg h2, if_pos ⟨h3, h4⟩]
theorem tnErr_ok {k : Int} {d : List Int} (h : ¬ 8 < k) (h2 : ¬ (d.length : Int) < k) (h3 : ¬ (0 < k ∧ d.getD 0 0 = 0)) : tnErr (k :: d) = 0 := by simp only [tnErr]; rw [if_neg h, if_neg h2, if_neg h3]
theorem TnPost.mk_ok {k : Int} {d : List Int} {w : World} (j : Nat) (h : tnErr (k :: d) = 0) {v s : Int} (hv : v = (M.rb (d.take k.toNat) : Nat)) (hs : s = ((1 + k.toNat : Nat) : Int)) : TnPost (k :: d) w (.returned (.tuple #[.int .u64 v, .int .i64 s, .int .i64 0])) (w.drewN j) := by
  refine ⟨ret3 ?_ ?_ h.symm, j, rfl⟩
  · unfold tnVal; rw [if_pos h, hv]; rfl
  · unfold tnSize; rw [if_pos h, hs]; rfl
set_option maxHeartbeats 400000 in
theorem tn_one (b o : Nat) (k : Int) (w : World) (hk0 : 0 ≤ k) (hk1 : k < 256) (h0 : w.cell? ⟨b, o, none⟩ = some (.int .u8 k)) :
    Calls Tryz.prog 153 #[.slice (some ⟨b, o, none⟩) 1 1] w fun e w' => TnPost [k] w e w' := by
  by_cases h8 : 8 < k
  · have H := hide (tnErr_form (d := []) h8)
    go_enter Tryz.func153, Tryz.ntmps153
    go_wp2
    go_quiet (fail)
    go_wp2
    go_ret3
    exact TnPost.mk_bad nq H.out (by decide)
  · by_cases hp : 0 < k
    · have H := hide (tnErr_short (d := []) h8 (by simpa using hp))
      go_enter Tryz.func153, Tryz.ntmps153
      go_wp2
      go_quiet (fail)
      go_wp2
      go_ret3
      exact TnPost.mk_bad nq H.out (by decide)
    · obtain rfl : k = 0 := by omega
      have H := hide (tnErr_ok (k := 0) (d := []) h8 (by simp) (by simp))
      go_enter Tryz.func153, Tryz.ntmps153
      go_wp2
      go_quiet (fail)
      go_wp2
      go_loop [7, 8, 36] (fun v _ i => v = .int .u64 0 ∧ i = .int .i64 0) (fun _ _ _ => 0)
      case atStart => exact ⟨rfl, rfl⟩
      case round =>
        obtain ⟨rfl, rfl⟩ := hrel
        go_wp2
        go_ret3
        exact TnPost.mk_ok nq H.out rfl rfl
set_option maxRecDepth 100000 in
set_option maxHeartbeats 1000000 in
theorem tn_more (b o n c : Nat) (k : Int) (d : List Int) (w : World) (hn : d.length = n) (hc : n + 1 ≤ c) (hc2 : 2 ≤ c) (hmx : c ≤ maxLen) (hr : Row w ⟨b, o, none⟩ (k :: d)) (hb : ∀ z ∈ k :: d, 0 ≤ z ∧ z < 256) :
    Calls Tryz.prog 153 #[.slice (some ⟨b, o, none⟩) (n + 1) c] w fun e w' => TnPost (k :: d) w e w' := by
  obtain ⟨hk0, hk1⟩ := hb k (by simp)
  unfold maxLen at hmx
  have h0 : w.cell? ⟨b, o, none⟩ = some (.int .u8 k) := hr 0 (by simp)
  have hd : ∀ i, i < n → w.cell? ⟨b, o + 1 + i, none⟩ = some (.int .u8 (d.getD i 0)) := by
    intro i hi
    have := hr (i + 1) (by simp; omega)
    rw [Addr.add_lit] at this
    rw [show o + 1 + i = o + (i + 1) from by omega, this]
    rfl
  have hnc : (n : Int) + 1 ≤ (c : Int) := by omega
  by_cases h8 : 8 < k
  · have H := hide (tnErr_form (d := d) h8)
    clear hr hd hb hn
    go_enter Tryz.func153, Tryz.ntmps153
    go_wp2
    go_quiet (fail)
    go_wp2
    go_ret3
    exact TnPost.mk_bad nq H.out (by decide)
  · by_cases hs : (n : Int) < k
    · have H := hide (tnErr_short (d := d) h8 (by rw [hn]; exact hs))
      clear hr hd hb hn
      go_enter Tryz.func153, Tryz.ntmps153
      go_wp2
      go_quiet (fail)
      go_wp2
      go_ret3
      exact TnPost.mk_bad nq H.out (by decide)
    · by_cases hz : 0 < k ∧ d.getD 0 0 = 0
      · have H := hide (tnErr_zero h8 (by rw [hn]; exact hs) hz.1 hz.2)
        have hd0 := hd 0 (by omega)
        rw [hz.2, Nat.add_zero] at hd0
        obtain ⟨hz1, _⟩ := hz
        clear hr hd hb hn
        go_enter Tryz.func153, Tryz.ntmps153
        go_wp2
        go_quiet (fail)
        go_wp2
        go_ret3
        exact TnPost.mk_bad nq H.out (by decide)
      · have H := hide (tnErr_ok h8 (by rw [hn]; exact hs) hz)
        obtain ⟨K, rfl⟩ := Int.eq_ofNat_of_zero_le hk0
        have hbd : ∀ z ∈ d, 0 ≤ z ∧ z < 256 := fun z hz => hb z (by simp [hz])
        have hKn : K ≤ n := by omega
        have hlen := hide hn
        by_cases hp : 0 < K
        · have hd0 := hd 0 (by omega)
          rw [Nat.add_zero] at hd0
          have hzb : (d[0]?.getD 0 == 0) = false := by
            rw [beq_eq_false_iff_ne]
            intro h
            exact hz ⟨by omega, h⟩
          have HD := hide hd
          clear hr hb hn hz hd
          go_enter Tryz.func153, Tryz.ntmps153
          go_wp2
          go_quiet (fail)
          go_wp2
          go_loop [7, 8, 36] (fun v _ i => ∃ j : Nat, j ≤ K ∧ i = .int .i64 j ∧ v = .int .u64 (M.rb (d.take j) : Nat)) (fun _ _ i => K - (intOf i).toNat)
          case atStart => exact ⟨0, Nat.zero_le _, rfl, rfl⟩
          case round =>
            obtain ⟨j, hj, rfl, rfl⟩ := hrel
            by_cases hlt : j < K
            · have hcell := HD.out j (by omega)
              have hdl : j < d.length := by rw [hlen.out]; omega
              have hz : 0 ≤ d.getD j 0 ∧ d.getD j 0 < 256 := hbd _ (by simp [List.getD, hdl])
              have hv : M.rb (d.take j) < 256 ^ 7 := Nat.lt_of_lt_of_le (M.rb_lt (d.take j) (fun z hz => hbd z (List.mem_of_mem_take hz))) (Nat.pow_le_pow_right (by omega) (by simp; omega))
              have HV := hide (rb_step64 (M.rb (d.take j)) (d.getD j 0) (by omega) hz.1 hz.2)
              have HT := hide (M.rb_take d j hdl)
              clear hv hz hdl
              go_wp2
              go_round
              case rel => exact ⟨j + 1, by omega, by go_num, int_eq (by rw [HT.out]; exact HV.out)⟩
              case measure => simp [intOf]; omega
            · obtain rfl : j = K := by omega
              go_wp2
              go_ret3
              exact TnPost.mk_ok nq H.out rfl (by simp)
        · obtain rfl : K = 0 := by omega
          clear hr hb hn hz hd
          go_enter Tryz.func153, Tryz.ntmps153
          go_wp2
          go_quiet (fail)
          go_wp2
          go_loop [7, 8, 36] (fun v _ i => v = .int .u64 0 ∧ i = .int .i64 0) (fun _ _ _ => 0)
          case atStart => exact ⟨rfl, rfl⟩
          case round =>
            obtain ⟨rfl, rfl⟩ := hrel
            go_wp2
            go_ret3
            exact TnPost.mk_ok nq H.out rfl rfl
theorem tn_any (a : Option Addr) (n c : Nat) (l : List Int) (w : World) (h : Hs w a n c l) (hm : c ≤ maxLen) :
    Calls Tryz.prog 153 #[.slice a n c] w fun e w' => TnPost l w e w' := by
  cases l with
  | nil =>
    obtain rfl : n = 0 := h.len.symm
    exact tn_none a c w
  | cons k d =>
    have hn : n = d.length + 1 := h.len.symm
    subst hn
    cases a with
    | none => cases (h.nil rfl).1
    | some x =>
      obtain ⟨b, o, rfl⟩ := h.flat (by omega)
      have hr := h.row _ rfl
      have hcap := h.cap
      by_cases hc : 2 ≤ c
      · exact tn_more b o d.length c k d w rfl hcap hc hm hr h.byte
      · obtain rfl : c = 1 := by omega
        obtain rfl : d = [] := List.eq_nil_of_length_eq_zero (by omega)
        obtain ⟨h1, h2⟩ := h.byte k (by simp)
        exact tn_one b o k w h1 h2 (hr 0 (by simp))
structure RSt (w : World) (b : Nat) (a : Option Addr) (n c : Nat) (l : List Int) (p : Nat) (err : Int) : Prop where
  lt : b < w.heap.size
  c0 : w.cell? ⟨b, 0, none⟩ = some (.bool true)
  c1 : w.cell? ⟨b, 1, none⟩ = some (.slice a n c)
  c2 : w.cell? ⟨b, 2, none⟩ = some (.int .i64 p)
  c3 : w.cell? ⟨b, 3, none⟩ = some (.int .i64 err)
  f2 : w.frozen? ⟨b, 2, none⟩ = false
  f3 : w.frozen? ⟨b, 3, none⟩ = false
  hs : Hs w a n c l
  cmax : c ≤ maxLen
  ne : ∀ x, a = some x → ∃ g, x = ⟨g, 0, none⟩ ∧ g ≠ b
  le : p ≤ n
theorem Row.far {w : World} {g : Nat} {l : List Int} (h : Row w ⟨g, 0, none⟩ l) {p : Addr} (hp : p.block ≠ g) (u : Value) : Row (w.setCell p u) ⟨g, 0, none⟩ l := by
  intro i hi
  have h1 := h i hi
  rw [Addr.add_lit] at h1 ⊢
  rw [World.cell?_of_block (w := w) (Below.heap_setCell w p u g (fun e => hp e.symm))]
  exact h1
theorem Hs.far {w : World} {a : Option Addr} {n c : Nat} {l : List Int} (h : Hs w a n c l) {b : Nat} (hne : ∀ x, a = some x → ∃ g, x = ⟨g, 0, none⟩ ∧ g ≠ b) (k : Nat) (u : Value) : Hs (w.setCell ⟨b, k, none⟩ u) a n c l := by
  refine ⟨h.len, h.cap, fun x hx => ?_, h.nil, h.byte⟩
  obtain ⟨g, rfl, hg⟩ := hne x hx
  exact (h.row _ hx).far (by show b ≠ g; exact fun e => hg e.symm) u
theorem Hs.rest {w : World} {g n c : Nat} {l : List Int} (h : Hs w (some ⟨g, 0, none⟩) n c l) (p : Nat) (hp : p ≤ n) : Hs w (some ⟨g, p, none⟩) (n - p) (c - p) (l.drop p) := by
  refine ⟨by rw [List.length_drop, h.len], by have := h.cap; omega, fun x hx => ?_, fun hx => by (cases hx), fun z hz => h.byte z (List.mem_of_mem_drop hz)⟩
  cases hx
  have := (h.row _ rfl).drop p
  rwa [Nat.zero_add] at this
theorem Hs.rest_end {w : World} {g n c : Nat} {l : List Int} (h : Hs w (some ⟨g, 0, none⟩) n c l) (hp : n = c) : Hs w (some ⟨g, 0, none⟩) 0 0 (l.drop c) := by
  have hl : l.drop c = [] := List.drop_eq_nil_of_le (by rw [h.len]; omega)
  rw [hl]
  exact ⟨rfl, Nat.le_refl _, fun x hx i hi => by (simp at hi), fun hx => by (cases hx), fun z hz => by (cases hz)⟩
theorem tn_quiet (a : Option Addr) (n c : Nat) (l : List Int) (w : World) (k : Nat) (h : Hs w a n c l) (hm : c ≤ maxLen) :
    Calls Tryz.prog 153 #[.slice a n c] (w.drewN k) fun e w' => e = .returned (.tuple #[.int .u64 (tnVal l), .int .i64 (tnSize l), .int .i64 (tnErr l)]) ∧ ∃ m, w' = w.drewN m := by
  refine (tn_any a n c l (w.drewN k) (h.later (below_drewN (Below.refl _ _) k)) hm).mono ?_
  rintro e w' ⟨rfl, j, rfl⟩
  exact ⟨rfl, _, World.drewN_drewN _ _ _⟩
theorem tnSize_le (l : List Int) (h : ∀ z ∈ l, 0 ≤ z ∧ z < 256) : tnSize l ≤ l.length ∧ tnSize l ≤ 9 := by
  cases l with
  | nil => exact ⟨by simp [tnSize, tnErr], by simp [tnSize, tnErr]⟩
  | cons k d =>
    by_cases he : tnErr (k :: d) = 0
    · have hk := h k (by simp)
      have : tnSize (k :: d) = 1 + k.toNat := by unfold tnSize; rw [if_pos he]; rfl
      simp only [tnErr] at he
      split at he
      · cases he
      · split at he
        · cases he
        · rename_i h1 h2
          rw [this]
          simp only [List.length_cons]
          omega
    · rw [(tn_bad he).2]
      exact ⟨Nat.zero_le _, Nat.zero_le _⟩
theorem step_any (b : Nat) (p S : Nat) (E v3 : Int) (w : World) (c2 : w.cell? ⟨b, 2, none⟩ = some (.int .i64 p)) (c3 : w.cell? ⟨b, 3, none⟩ = some (.int .i64 v3)) (f2 : w.frozen? ⟨b, 2, none⟩ = false) (f3 : w.frozen? ⟨b, 3, none⟩ = false) (hb : p + S ≤ 9223372036854775807) :
    Calls Tryz.prog 152 #[.pointer (some ⟨b, 0, none⟩), .int .i64 S, .int .i64 E] w fun e w' => e = .returned (.tuple #[]) ∧ w' = (w.setCell ⟨b, 2, none⟩ (.int .i64 ((p + S : Nat) : Int))).setCell ⟨b, 3, none⟩ (.int .i64 E) := by
  have hb1 : (p : Int) + (S : Int) ≤ 9223372036854775807 := by omega
  go_enter Tryz.func152, Tryz.ntmps152
  go_wp2
  go_end0
  exact ⟨rfl, rfl⟩
set_option maxRecDepth 100000 in
set_option maxHeartbeats 400000 in
theorem number_core (b : Nat) (a a' : Option Addr) (n c : Nat) (l : List Int) (p : Nat) (w : World) (h : RSt w b a n c l p 0) (n' c' : Nat) (h' : Hs w a' n' c' (l.drop p)) (ha : (∃ g, a = some ⟨g, 0, none⟩ ∧ p < c ∧ a' = some ⟨g, p, none⟩ ∧ n' = n - p ∧ c' = c - p) ∨ (∃ g, a = some ⟨g, 0, none⟩ ∧ n = p ∧ c = p ∧ a' = some ⟨g, 0, none⟩ ∧ n' = 0 ∧ c' = 0) ∨ (a = none ∧ n = 0 ∧ c = 0 ∧ p = 0 ∧ a' = none ∧ n' = 0 ∧ c' = 0)) :
    Calls Tryz.prog 144 #[.pointer (some ⟨b, 0, none⟩)] w fun e w' => e = .returned (.int .u64 (tnVal (l.drop p))) ∧ ∃ k, w' = ((w.setCell ⟨b, 2, none⟩ (.int .i64 ((p + tnSize (l.drop p) : Nat) : Int))).setCell ⟨b, 3, none⟩ (.int .i64 (tnErr (l.drop p)))).drewN k := by
  obtain ⟨hlt, c0, c1, c2, c3, f2, f3, hs, cmax, ne, hle⟩ := h
  have hcap := hs.cap
  have hc' : c' ≤ maxLen := by
    rcases ha with ⟨g, _, _, _, _, hc⟩ | ⟨g, _, _, _, _, _, hc⟩ | ⟨_, _, _, _, _, _, hc⟩ <;> omega
  have HQ := fun k => hide (tn_quiet a' n' c' (l.drop p) w k h' hc')
  have hsz := tnSize_le (l.drop p) h'.byte
  have hln : (l.drop p).length = n - p := by rw [List.length_drop, hs.len]
  unfold maxLen at cmax
  clear hs ne h'
  generalize tnVal (l.drop p) = V at *
  generalize tnSize (l.drop p) = S at *
  generalize tnErr (l.drop p) = E at *
  have hS : S ≤ 9 := hsz.2
  have hb1 : p + S ≤ 9223372036854775807 := by omega
  clear hsz hln hc'
  have HS := fun k => hide (step_any b p S E 0 (w.drewN k) c2 c3 f2 f3 hb1)
  rcases ha with ⟨g, rfl, hpc, rfl, rfl, rfl⟩ | ⟨g, rfl, rfl, rfl, rfl, rfl, rfl⟩ | ⟨rfl, rfl, rfl, rfl, rfl, rfl, rfl⟩
  all_goals
    go_enter Tryz.func144, Tryz.ntmps144
    go_wp2_with (go_at_call 150; go_in)
    go_quiet ((go_at_call 153; exact (HQ _).out))
    go_wp2_with fail
    refine (HS _).out.mono ?_
    rintro e w' ⟨rfl, rfl⟩
    clear HS HQ
    go_wp2
    go_ret
    first | exact ⟨rfl, _, rfl⟩ | exact ⟨rfl, nq, by rw [Nat.zero_add]; rfl⟩
theorem RSt.stepped {w : World} {b : Nat} {a : Option Addr} {n c : Nat} {l : List Int} {p : Nat} {e : Int} (h : RSt w b a n c l p e) (p' : Nat) (e' : Int) (k : Nat) (hp : p' ≤ n) :
    RSt (((w.setCell ⟨b, 2, none⟩ (.int .i64 (p' : Int))).setCell ⟨b, 3, none⟩ (.int .i64 e')).drewN k) b a n c l p' e' := by
  obtain ⟨hlt, c0, c1, c2, c3, f2, f3, hs, cmax, ne, hle⟩ := h
  refine ⟨?_, ?_, ?_, ?_, ?_, ?_, ?_, ((hs.far ne 2 _).far ne 3 _).later (below_drewN (Below.refl _ _) k), cmax, ne, hp⟩
  all_goals go_simp
theorem rd_number_err (b : Nat) (a : Option Addr) (n c : Nat) (l : List Int) (p : Nat) (E : Int) (w : World) (h : RSt w b a n c l p E) (hE : E ≠ 0) :
    Calls Tryz.prog 144 #[.pointer (some ⟨b, 0, none⟩)] w fun e w' => e = .returned (.int .u64 0) ∧ w' = w := by
  obtain ⟨hlt, c0, c1, c2, c3, f2, f3, hs, cmax, ne, hle⟩ := h
  have hb : (E == 0) = false := by simp [hE]
  clear hs ne
  go_enter Tryz.func144, Tryz.ntmps144
  go_wp2
  go_ret
  exact ⟨rfl, rfl⟩
theorem rd_at (b : Nat) (a : Option Addr) (n c : Nat) (l : List Int) (p : Nat) (E : Int) (w : World) (h : RSt w b a n c l p E) :
    Calls Tryz.prog 99 #[.pointer (some ⟨b, 0, none⟩)] w fun e w' => e = .returned (.int .i64 p) ∧ w' = w := by
  obtain ⟨hlt, c0, c1, c2, c3, f2, f3, hs, cmax, ne, hle⟩ := h
  clear hs ne
  go_enter Tryz.func99, Tryz.ntmps99
  go_wp2
  go_ret
  exact ⟨rfl, rfl⟩
theorem rd_left (b : Nat) (a : Option Addr) (n c : Nat) (l : List Int) (p : Nat) (E : Int) (w : World) (h : RSt w b a n c l p E) :
    Calls Tryz.prog 128 #[.pointer (some ⟨b, 0, none⟩)] w fun e w' => e = .returned (.int .i64 ((n - p : Nat) : Int)) ∧ ∃ k, w' = w.drewN k := by
  obtain ⟨hlt, c0, c1, c2, c3, f2, f3, hs, cmax, ne, hle⟩ := h
  have hcap := hs.cap
  unfold maxLen at cmax
  clear hs ne
  go_enter Tryz.func128, Tryz.ntmps128
  go_wp2
  go_quiet (fail)
  go_wp2
  go_ret
  exact ⟨ret_int (by omega), _, rfl⟩
def endErr (n p : Nat) (E : Int) : Int := if E = 0 then if p < n then 15 else 0 else E
set_option maxRecDepth 100000 in
theorem rd_end (b : Nat) (a : Option Addr) (n c : Nat) (l : List Int) (p : Nat) (E : Int) (w : World) (h : RSt w b a n c l p E) :
    Calls Tryz.prog 100 #[.pointer (some ⟨b, 0, none⟩)] w fun e w' => e = .returned (.int .i64 (endErr n p E)) ∧ ∃ k, w' = w.drewN k := by
  have HL := hide (rd_left b a n c l p E w h)
  obtain ⟨hlt, c0, c1, c2, c3, f2, f3, hs, cmax, ne, hle⟩ := h
  clear hs ne
  by_cases hE : E = 0
  · subst hE
    by_cases hp : p < n
    · have H : Hid (endErr n p 0 = 15) := by unfold endErr; rw [if_pos rfl, if_pos hp]; rfl
      go_enter Tryz.func100, Tryz.ntmps100
      go_wp2_with fail
      refine HL.out.mono ?_
      rintro e w' ⟨rfl, k, rfl⟩
      have hd : decide (0 < n - p) = true := by simp; omega
      go_wp2
      go_ret
      exact ⟨ret_int H.out.symm, _, rfl⟩
    · have H : Hid (endErr n p 0 = 0) := by unfold endErr; rw [if_pos rfl, if_neg hp]; rfl
      go_enter Tryz.func100, Tryz.ntmps100
      go_wp2_with fail
      refine HL.out.mono ?_
      rintro e w' ⟨rfl, k, rfl⟩
      have hd : decide (0 < n - p) = false := by simp; omega
      go_wp2
      go_ret
      exact ⟨ret_int H.out.symm, _, rfl⟩
  · have H : Hid (endErr n p E = E) := by unfold endErr; rw [if_neg hE]; rfl
    have hb : (E != 0) = true := by simp [hE]
    clear HL
    go_enter Tryz.func100, Tryz.ntmps100
    go_wp2
    go_ret
    exact ⟨ret_int H.out.symm, 0, rfl⟩
theorem clone_none (w : World) : Calls Tryz.prog 92 #[.slice none 0 0] w fun e w' => e = .returned (.slice none 0 0) ∧ w' = w := by
  have kn := fun (w : World) => Lib.run_eql_slice_nil (P := Tryz.prog) w 55 5 none 0 0 0 0 Tryz.underlying55
  go_enter Tryz.func92, Tryz.ntmps92
  go_wp2
  go_ret
  exact ⟨rfl, rfl⟩
theorem clone_hs (a : Option Addr) (n c : Nat) (l : List Int) (w : World) (h : Hs w a n c l) (hm : n ≤ 140737488355328) :
    Calls Tryz.prog 92 #[.slice a n c] w fun e w' => ∃ v', e = .returned v' ∧ Own w.heap.size w' v' l ∧ (a ≠ none → v' ≠ .slice none 0 0) ∧ Below w.heap.size w w' := by
  cases a with
  | none =>
    obtain ⟨rfl, rfl⟩ := h.nil rfl
    obtain rfl : 0 = n := h.len
    refine (clone_none w).mono ?_
    rintro e w' ⟨rfl, rfl⟩
    exact ⟨_, rfl, Own.nil _ _, fun h => absurd rfl h, Below.refl _ _⟩
  | some x =>
    refine (clone_any x n c l w (Nat.le_of_eq h.len.symm) hm (h.row x rfl)).mono ?_
    rintro e w' ⟨v', rfl, h1, h2, h3⟩
    rw [List.take_of_length_le (Nat.le_of_eq h.len)] at h1
    exact ⟨v', rfl, h1, fun _ => h2, h3⟩
theorem Own.place {B : Nat} {w : World} {v : Value} {l : List Int} (h : Own B w v l) (hb : ∀ z ∈ l, 0 ≤ z ∧ z < 256) : ∃ a n c, v = .slice a n c ∧ Hs w a n c l ∧ c ≤ maxLen ∧ ∀ x, a = some x → ∃ g, x = ⟨g, 0, none⟩ ∧ B ≤ g ∧ g < w.heap.size := by
  have hl := World.ownsRow.lt h
  obtain ⟨a, n, c, rfl, h2, _⟩ := h.hs hb
  refine ⟨a, n, c, rfl, h2, ?_, ?_⟩
  · rcases h.2 with ⟨h1, _⟩ | ⟨g, c, _, h1, _, _, _, h3, _⟩
    · cases h1; unfold maxLen; omega
    · cases h1; exact h3
  · intro x hx
    subst hx
    rcases h.2 with ⟨h1, _⟩ | ⟨g, c, _, h1, h3, _⟩
    · cases h1
    · cases h1
      exact ⟨g, rfl, h3, (hl g rfl).2⟩
set_option maxRecDepth 100000 in
theorem newreader_any (a : Option Addr) (n c : Nat) (l : List Int) (w : World) (h : Hs w a n c l) (hm : n ≤ 140737488355328) :
    Calls Tryz.prog 97 #[.slice a n c] w fun e w' => ∃ b a' c', e = .returned (.pointer (some ⟨b, 0, none⟩)) ∧ RSt w' b a' n c' l 0 0 ∧ w.heap.size ≤ b ∧ Below w.heap.size w w' := by
  have hby := h.byte
  have hln := h.len
  go_enter Tryz.func97, Tryz.ntmps97
  go_wp2_with fail
  refine (clone_hs a n c l w h hm).mono ?_
  clear h
  rintro e w1 ⟨v, rfl, ho, _, hb⟩
  obtain ⟨a', n', c', rfl, h2, h3, h4⟩ := ho.place hby
  have hnn : n' = n := by rw [← h2.len, hln]
  subst hnn
  clear ho hln
  go_wp2
  go_ret
  refine ⟨w1.heap.size, a', c', rfl, ⟨by simp, ?_, ?_, ?_, ?_, ?_, ?_, h2.later ((Below.refl _ _).alloc (Nat.le_refl _) _), h3, ?_, Nat.zero_le _⟩, hb.size, hb.alloc hb.size _⟩
  all_goals first | (intro x hx; obtain ⟨g, h5, h6, h7⟩ := h4 x hx; exact ⟨g, h5, by omega⟩) | simp
theorem conv_hs (w : World) (a : Option Addr) (n c : Nat) (l : List Int) (h : Hs w a n c l) :
    (convert 55 9 (.slice a n c)).run Tryz.prog w = .ok (.string (strOfNums l)) w := by
  cases a with
  | none =>
    rw [run_convert_bytes_nil w 55 5 Tryz.underlying55 Tryz.underlying5 n c 9 Tryz.underlying9, (h.nil rfl).1]
    rfl
  | some x =>
    by_cases hn : 0 < n
    · obtain ⟨b, o, rfl⟩ := h.flat hn
      exact conv_row w b o n c l h.len (h.row _ rfl)
    · obtain rfl : n = 0 := by omega
      obtain rfl : l = [] := List.eq_nil_of_length_eq_zero h.len
      rw [run_convert_bytes_string w 55 9 5 _ 0 c Tryz.underlying55 Tryz.underlying5 Tryz.underlying9, run_bytesToString w x 0 c [] (run_loadCells_list (P := Tryz.prog) w x [] (fun j v hj => by simp at hj))]
      rfl
theorem nums_eq (l m : List Int) (hl : ∀ z ∈ l, 0 ≤ z ∧ z < 256) (hm : ∀ z ∈ m, 0 ≤ z ∧ z < 256) : ((strOfNums l).toList == (strOfNums m).toList) = decide (l = m) := by
  by_cases h : l = m
  · subst h; simp
  · rw [decide_eq_false h, beq_eq_false_iff_ne]
    intro he
    apply h
    rw [ByteArray.toList_eq, ByteArray.toList_eq] at he
    have h2 : sb (strOfNums l) = sb (strOfNums m) := by unfold sb; rw [he]
    rwa [sb_nums l hl, sb_nums m hm] at h2
set_option maxHeartbeats 400000 in
theorem same_any (a a' : Option Addr) (n c n' c' : Nat) (l m : List Int) (w : World) (h : Hs w a n c l) (h' : Hs w a' n' c' m) :
    Calls Tryz.prog 18 #[.slice a n c, .slice a' n' c'] w fun e w' => e = .returned (.bool (decide (l = m))) ∧ w' = w := by
  have k1 := conv_hs w a n c l h
  have k2 := conv_hs w a' n' c' m h'
  have H := hide (nums_eq l m h.byte h'.byte)
  clear h h'
  go_enter Tryz.func18, Tryz.ntmps18
  go_wp2
  go_ret
  refine ⟨?_, rfl⟩
  rw [← H.out]
  rfl
def tcErr (m : Int) (l : List Int) : Int := if m < 0 then 3 else if tnErr l ≠ 0 then tnErr l else if m < (tnVal l : Int) then 11 else 0
def tcVal (m : Int) (l : List Int) : Nat := if tcErr m l = 0 then tnVal l else 0
def tcSize (m : Int) (l : List Int) : Nat := if tcErr m l = 0 then tnSize l else 0
theorem tc_bad {m : Int} {l : List Int} (h : tcErr m l ≠ 0) : tcVal m l = 0 ∧ tcSize m l = 0 := by unfold tcVal tcSize; rw [if_neg h, if_neg h]; exact ⟨rfl, rfl⟩
theorem ret3i {a b c : Int} {a' b' c' : Int} (h1 : a = a') (h2 : b = b') (h3 : c = c') : Ending.returned (.tuple #[.int .i64 a, .int .i64 b, .int .i64 c]) = .returned (.tuple #[.int .i64 a', .int .i64 b', .int .i64 c']) := by rw [h1, h2, h3]
def TcPost (m : Int) (l : List Int) (w : World) (e : Ending) (w' : World) : Prop := e = .returned (.tuple #[.int .i64 (tcVal m l), .int .i64 (tcSize m l), .int .i64 (tcErr m l)]) ∧ ∃ k, w' = w.drewN k
theorem TcPost.mk_bad {m : Int} {l : List Int} {w : World} {E : Int} (k : Nat) (h : tcErr m l = E) (hE : E ≠ 0) : TcPost m l w (.returned (.tuple #[.int .i64 0, .int .i64 0, .int .i64 E])) (w.drewN k) := by
  obtain ⟨h1, h2⟩ := tc_bad (m := m) (l := l) (by rw [h]; exact hE)
  exact ⟨ret3i (by rw [h1]; rfl) (by rw [h2]; rfl) h.symm, k, rfl⟩
set_option maxRecDepth 100000 in
theorem tc_any (a : Option Addr) (n c : Nat) (l : List Int) (m : Int) (w : World) (h : Hs w a n c l) (hm : c ≤ maxLen) (q : m ≤ 9223372036854775807) :
    Calls Tryz.prog 151 #[.slice a n c, .int .i64 m] w fun e w' => TcPost m l w e w' := by
  by_cases hm0 : m < 0
  · have H : Hid (tcErr m l = 3) := by unfold tcErr; rw [if_pos hm0]; rfl
    go_enter Tryz.func151, Tryz.ntmps151
    go_wp2
    go_ret3
    exact TcPost.mk_bad 0 H.out (by decide)
  · obtain ⟨q0, rfl⟩ := Int.eq_ofNat_of_zero_le (Int.not_lt.1 hm0)
    have HT := hide (tn_any a n c l w h hm)
    clear h hm0
    by_cases hE : tnErr l = 0
    · by_cases hV : q0 < tnVal l
      · have H : Hid (tcErr q0 l = 11) := by unfold tcErr; rw [if_neg (by omega), if_neg (by simp [hE]), if_pos (by omega)]; rfl
        go_enter Tryz.func151, Tryz.ntmps151
        go_wp2_with fail
        refine HT.out.mono ?_
        rintro e w' ⟨rfl, k, rfl⟩
        rw [hE]
        clear HT hE
        generalize tnVal l = V at *
        generalize tnSize l = S at *
        go_wp2
        go_ret3
        exact TcPost.mk_bad k H.out (by decide)
      · have H : Hid (tcErr q0 l = 0) := by unfold tcErr; rw [if_neg (by omega), if_neg (by simp [hE]), if_neg (by omega)]; rfl
        have H1 : Hid (tcVal q0 l = tnVal l) := by unfold tcVal; rw [if_pos H.out]; rfl
        have H2 : Hid (tcSize q0 l = tnSize l) := by unfold tcSize; rw [if_pos H.out]; rfl
        go_enter Tryz.func151, Tryz.ntmps151
        go_wp2_with fail
        refine HT.out.mono ?_
        rintro e w' ⟨rfl, k, rfl⟩
        rw [hE]
        clear HT hE
        generalize tnVal l = V at *
        generalize tnSize l = S at *
        go_wp2
        go_ret3
        exact ⟨ret3i (by rw [H1.out]) (by rw [H2.out]) (by rw [H.out]), k, rfl⟩
    · have H : Hid (tcErr q0 l = tnErr l) := by unfold tcErr; rw [if_neg (by omega), if_pos hE]; rfl
      have hb : (tnErr l != 0) = true := by simp [hE]
      go_enter Tryz.func151, Tryz.ntmps151
      go_wp2_with fail
      refine HT.out.mono ?_
      rintro e w' ⟨rfl, k, rfl⟩
      clear HT
      generalize tnVal l = V at *
      generalize tnSize l = S at *
      generalize tnErr l = E at *
      go_wp2
      go_ret3
      exact TcPost.mk_bad k H.out hE
theorem Hs.cut {w : World} {a : Option Addr} {n c : Nat} {l : List Int} (h : Hs w a n c l) (k : Nat) (hk : k ≤ n) : Hs w a k c (l.take k) :=
  ⟨by rw [List.length_take, h.len]; omega, Nat.le_trans hk h.cap, fun x hx => (h.row x hx).take k, fun hx => by (have := h.nil hx; rw [this.1]; exact ⟨by simp, this.2⟩), fun z hz => h.byte z (List.mem_of_mem_take hz)⟩
theorem i64_wf {a : Int} (h : (Lit.int .i64 a).wf = true) : -9223372036854775808 ≤ a ∧ a ≤ 9223372036854775807 := by
  simp [Lit.wf, IntKind.min, IntKind.max, IntKind.bits, IntKind.signed] at h
  omega
def ttErr (m : Int) (l : List Int) : Int := if tcErr m l ≠ 0 then tcErr m l else if l.length < tcSize m l + tcVal m l then 10 else 0
def ttList (m : Int) (l : List Int) : List Int := if ttErr m l = 0 then (l.drop (tcSize m l)).take (tcVal m l) else []
def ttSize (m : Int) (l : List Int) : Nat := if ttErr m l = 0 then tcSize m l + tcVal m l else 0
theorem tt_bad {m : Int} {l : List Int} (h : ttErr m l ≠ 0) : ttList m l = [] ∧ ttSize m l = 0 := by unfold ttList ttSize; rw [if_neg h, if_neg h]; exact ⟨rfl, rfl⟩
theorem ret3s {a a' : ByteArray} {b c : Int} {b' c' : Int} (h1 : a = a') (h2 : b = b') (h3 : c = c') : Ending.returned (.tuple #[.string a, .int .i64 b, .int .i64 c]) = .returned (.tuple #[.string a', .int .i64 b', .int .i64 c']) := by rw [h1, h2, h3]
def TtPost (m : Int) (l : List Int) (w : World) (e : Ending) (w' : World) : Prop := e = .returned (.tuple #[.string (strOfNums (ttList m l)), .int .i64 (ttSize m l), .int .i64 (ttErr m l)]) ∧ ∃ k, w' = w.drewN k
theorem TtPost.mk_bad {m : Int} {l : List Int} {w : World} {E : Int} (k : Nat) (h : ttErr m l = E) (hE : E ≠ 0) : TtPost m l w (.returned (.tuple #[.string (strOfNums []), .int .i64 0, .int .i64 E])) (w.drewN k) := by
  obtain ⟨h1, h2⟩ := tt_bad (m := m) (l := l) (by rw [h]; exact hE)
  exact ⟨ret3s (by rw [h1]) (by rw [h2]; rfl) h.symm, k, rfl⟩
theorem Hs.rest' {w : World} {g o n c : Nat} {l : List Int} (h : Hs w (some ⟨g, o, none⟩) n c l) (p : Nat) (hp : p ≤ n) : Hs w (some ⟨g, o + p, none⟩) (n - p) (c - p) (l.drop p) := by
  refine ⟨by rw [List.length_drop, h.len], by have := h.cap; omega, fun x hx => ?_, fun hx => by (cases hx), fun z hz => h.byte z (List.mem_of_mem_drop hz)⟩
  cases hx
  exact (h.row _ rfl).drop p
theorem tcSize_le (m : Int) (l : List Int) (h : ∀ z ∈ l, 0 ≤ z ∧ z < 256) : tcSize m l ≤ l.length ∧ tcSize m l ≤ 9 := by
  have := tnSize_le l h
  unfold tcSize
  split <;> omega
theorem tcVal_le (m : Int) (l : List Int) (hm : m ≤ 9223372036854775807) : (tcVal m l : Int) ≤ 9223372036854775807 := by
  by_cases h : tcErr m l = 0
  · have h2 : tcVal m l = tnVal l := by unfold tcVal; rw [if_pos h]
    rw [h2]
    unfold tcErr at h
    split at h
    · cases h
    · split at h
      · rename_i h3; exact absurd h h3
      · split at h
        · cases h
        · omega
  · rw [(tc_bad h).1]; decide
set_option maxRecDepth 100000 in
set_option maxHeartbeats 400000 in
theorem tt_any (a : Option Addr) (n c : Nat) (l : List Int) (m : Int) (w : World) (h : Hs w a n c l) (hm : c ≤ maxLen) (q : m ≤ 9223372036854775807) :
    Calls Tryz.prog 154 #[.slice a n c, .int .i64 m] w fun e w' => TtPost m l w e w' := by
  have HT := hide (tc_any a n c l m w h hm q)
  have hln := h.len
  have hcap := h.cap
  have hsz := tcSize_le m l h.byte
  have hvl := tcVal_le m l q
  unfold maxLen at hm
  by_cases hE : tcErr m l = 0
  · by_cases hS : l.length < tcSize m l + tcVal m l
    · have H : Hid (ttErr m l = 10) := by unfold ttErr; rw [if_neg (by simp [hE]), if_pos hS]; rfl
      rw [hln] at hS hsz
      clear h
      go_enter Tryz.func154, Tryz.ntmps154
      go_wp2_with fail
      refine HT.out.mono ?_
      rintro e w' ⟨rfl, k, rfl⟩
      rw [hE]
      clear HT hE hln
      generalize tcVal m l = V at *
      generalize tcSize m l = S at *
      obtain ⟨hs1, hs2⟩ := hsz
      have hlt : (n : Int) - (S : Int) < (V : Int) := by omega
      go_wp2
      go_ret3
      exact TtPost.mk_bad k H.out (by decide)
    · have H : Hid (ttErr m l = 0) := by unfold ttErr; rw [if_neg (by simp [hE]), if_neg hS]; rfl
      have H1 : Hid (ttList m l = (l.drop (tcSize m l)).take (tcVal m l)) := by unfold ttList; rw [if_pos H.out]; rfl
      have H2 : Hid (ttSize m l = tcSize m l + tcVal m l) := by unfold ttSize; rw [if_pos H.out]; rfl
      have hne : 0 < n := by
        rw [← hln]
        refine List.length_pos_iff.2 ?_
        rintro rfl
        unfold tcErr at hE
        split at hE
        · cases hE
        · simp [tnErr] at hE
      cases a with
      | none => rw [(h.nil rfl).1] at hln; simp at hln; omega
      | some x =>
      obtain ⟨b, o, rfl⟩ := h.flat hne
      rw [hln] at hS hsz
      obtain ⟨hs1, hs2⟩ := hsz
      have hR := (h.rest' (tcSize m l) hs1).cut (tcVal m l) (by omega)
      rw [← H1.out] at hR
      by_cases hSc : tcSize m l < c
      · have kc := fun j => conv_hs (w.drewN j) _ _ _ _ (hR.later (below_drewN (Below.refl _ _) j))
        clear h hR hln hne
        go_enter Tryz.func154, Tryz.ntmps154
        go_wp2_with fail
        refine HT.out.mono ?_
        rintro e w' ⟨rfl, k, rfl⟩
        rw [hE]
        clear HT hE H1
        generalize tcVal m l = V at *
        generalize tcSize m l = S at *
        generalize hL : ttList m l = L at *
        have hge : ¬ ((n : Int) - (S : Int) < (V : Int)) := by omega
        go_wp2
        go_ret3
        exact ⟨ret3s (by rw [hL]) (by rw [H2.out]; omega) (by rw [H.out]), k, rfl⟩
      · have e1 : n = c := by omega
        have e2 : tcSize m l = c := by omega
        have e3 : tcVal m l = 0 := by omega
        have eL : ttList m l = [] := by rw [H1.out, e3]; rfl
        have hZ : Hs w (some ⟨b, o, none⟩) 0 0 [] := ⟨rfl, Nat.le_refl _, fun x hx i hi => by (simp at hi), fun hx => by (cases hx), fun z hz => by (cases hz)⟩
        have kc := fun j => conv_hs (w.drewN j) _ _ _ _ (hZ.later (below_drewN (Below.refl _ _) j))
        have hsz2 : ttSize m l = c := by rw [H2.out, e2, e3, Nat.add_zero]
        have HSZ := hide hsz2
        have HEL := hide eL
        clear h hR hln H1 H2 hS hSc hs1 hZ eL hsz2
        rw [e2] at hs2
        subst e1
        go_enter Tryz.func154, Tryz.ntmps154
        go_wp2_with fail
        refine HT.out.mono ?_
        rintro e w' ⟨rfl, k, rfl⟩
        rw [hE, e2, e3]
        clear HT hE e2 e3 hvl
        go_wp2
        go_ret3
        exact ⟨ret3s (by rw [HEL.out]) (by rw [HSZ.out]) (by rw [H.out]), k, rfl⟩
  · have H : Hid (ttErr m l = tcErr m l) := by unfold ttErr; rw [if_pos hE]; rfl
    have hb : (tcErr m l != 0) = true := by simp [hE]
    clear h
    go_enter Tryz.func154, Tryz.ntmps154
    go_wp2_with fail
    refine HT.out.mono ?_
    rintro e w' ⟨rfl, k, rfl⟩
    clear HT
    generalize tcVal m l = V at *
    generalize tcSize m l = S at *
    generalize tcErr m l = E at *
    go_wp2
    go_ret3
    exact TtPost.mk_bad k H.out hE
end Go.Proofs.YtibedokegignhaaGreatDoor.Wi
namespace Go.Proofs.YtibedokegignhaaGreatDoor.Wi
open Go.RowKit Go.ChangeShapes Go.WideShapes
set_option linter.unusedVariables false
theorem intCells : Tryz.prog.cellsOf 3 = 1 := by kernel_rfl
end Go.Proofs.YtibedokegignhaaGreatDoor.Wi
namespace Go.Proofs.YtibedokegignhaaGreatDoor.Wi
open Go.RowKit
set_option linter.unusedVariables false
end Go.Proofs.YtibedokegignhaaGreatDoor.Wi
namespace Go.Proofs.YtibedokegignhaaGreatDoor.Wi
open Go.RowKit
set_option linter.unusedVariables false
set_option linter.unusedSimpArgs false
theorem Own.low {B B' : Nat} {w : World} {v : Value} {l : List Int} (h : Own B w v l) (hb : B' ≤ B) : Own B' w v l := by
  obtain ⟨h1, h2⟩ := h
  refine ⟨h1, ?_⟩
  rcases h2 with h2 | ⟨g, cap, cur, e1, e2, r⟩
  · exact .inl h2
  · exact .inr ⟨g, cap, cur, e1, Nat.le_trans hb e2, r⟩
end Go.Proofs.YtibedokegignhaaGreatDoor.Wi
namespace Go.Proofs.YtibedokegignhaaGreatDoor.Wi
open Go.RowKit
set_option linter.unusedVariables false
set_option linter.unusedSimpArgs false
end Go.Proofs.YtibedokegignhaaGreatDoor.Wi
namespace Go.Proofs.YtibedokegignhaaGreatDoor.Wi
open Go.RowKit
set_option linter.unusedVariables false
set_option linter.unusedSimpArgs false
end Go.Proofs.YtibedokegignhaaGreatDoor.Wi
namespace Go.Proofs.YtibedokegignhaaGreatDoor
open Go.RowKit Go.Maps
open Classical
set_option linter.unusedVariables false
set_option linter.unusedSimpArgs false
theorem enF_ck {e : En} (h : ckE e = 0) (hf : e.fits) : enF e := by
  have hn := (i64_wf hf.nw).2
  unfold ckE at h
  split at h
  · omega
  · split at h
    · omega
    · unfold ck at h
      refine ⟨by omega, by omega, by omega, hn, ?_⟩
      repeat' split at h
      all_goals first | omega | skip
      all_goals refine ⟨by omega, by omega, by omega, by omega, ?_⟩
      all_goals first | omega | (split at * <;> omega)
theorem enF_z : enF zEn := ⟨by decide, by decide, by decide, by decide, by decide, by decide, by decide, by decide, by decide⟩
theorem enF_nm {e : En} (h : nmB e = true) (hf : e.fits) : enF e := by
  rw [nmB_en e 2 (Or.inl rfl)] at h
  unfold enK at h
  rw [if_pos (Or.inl rfl)] at h
  simp only [Bool.and_eq_true, decide_eq_true_eq] at h
  obtain ⟨a, b, c, d, e1, f⟩ := h
  have hn := (i64_wf hf.nw).2
  refine ⟨a, by omega, by omega, hn, by omega, by omega, by omega, by omega, ?_⟩
  rw [f]
  decide
def rsF (r : Int × Int × ByteArray) : Prop := 0 ≤ r.1 ∧ r.1 ≤ 9223372036854775807 ∧ 0 ≤ r.2.1 ∧ r.2.1 ≤ 9223372036854775807 ∧ r.2.2.size ≤ 64
theorem rsF_res {r : Int × Int × ByteArray} (h : resB r.1 r.2.1 r.2.2 = true) : rsF r := by
  unfold resB inR noV at h
  unfold rsF
  split at h
  · simp only [Bool.and_eq_true, decide_eq_true_eq] at h; omega
  · split at h
    · simp only [Bool.and_eq_true, decide_eq_true_eq] at h
      rw [h.2]
      refine ⟨by omega, by omega, by omega, by omega, by decide⟩
    · split at h
      · simp only [Bool.and_eq_true, decide_eq_true_eq] at h
        rw [h.2]
        refine ⟨by omega, by omega, by omega, by omega, by decide⟩
      · split at h
        · simp only [Bool.and_eq_true, decide_eq_true_eq] at h
          rw [h.2]
          refine ⟨by omega, by omega, by omega, by omega, by decide⟩
        · cases h
theorem lg_ok {L : List En} {r : Int} (h : lg L r = 0) : ∀ e ∈ L, ckE e = 0 := by
  unfold lg at h
  by_cases hr : r < L.length
  · rw [if_pos hr] at h; omega
  · rw [if_neg hr] at h
    have hz := lgA_zero L.length L 0 (by omega) (by simpa using h)
    intro e he
    obtain ⟨i, hi⟩ := List.getElem?_of_mem he
    have := hz i e (Nat.zero_le _) hi
    unfold er at this
    by_cases h0 : ckE e ≠ 0
    · rw [if_pos h0] at this; exact absurd this h0
    · omega
theorem pl_es {f r : Int} {m : Mg} {L : List En} (hr1 : 1 ≤ r) (hr2 : r ≤ 256) (h : plB f r m L = true) (hL : ∀ e ∈ L, e.fits) : ∀ e ∈ L, enF e := by
  unfold plB at h
  rw [Bool.or_eq_true] at h
  rcases h with h | h
  · have e := List.length_eq_zero_iff.1 (of_decide_eq_true h); rw [e]; intro e he; cases he
  · exact fun e he => enF_ck (lg_ok (by rw [← chk_lg hr1 hr2]; exact of_decide_eq_true (Bool.and_eq_true_iff.1 h).2) e he) (hL e he)
theorem pl_len {f r : Int} {m : Mg} {L : List En} (hr1 : 1 ≤ r) (hr2 : r ≤ 256) (h : plB f r m L = true) : L.length ≤ 256 := by
  unfold plB at h
  rw [Bool.or_eq_true] at h
  rcases h with h | h
  · have := of_decide_eq_true h; omega
  · have := lg_len (L := L) (r := r) (by rw [← chk_lg hr1 hr2]; exact of_decide_eq_true (Bool.and_eq_true_iff.1 h).2); omega
theorem inR_iff {x a b : Int} : inR x a b = true ↔ a ≤ x ∧ x ≤ b := by
  unfold inR
  rw [Bool.and_eq_true, decide_eq_true_eq, decide_eq_true_eq]
theorem mgF_1 {f r : Int} {m : Mg} {L : List En} {D : List (Int × Int)} (hk : m.k = 1) (hf1 : 1 ≤ f) (hf2 : f ≤ 3) (hr1 : 1 ≤ r) (hr2 : r ≤ 256) (hf : m.e.fits) (hL : ∀ e ∈ L, e.fits) (hd : drF m.d) (hD : ∀ d ∈ D, drF d) (hlen : (L.length : Int) ≤ 9223372036854775807) (H : ∀ j, j < 10 → keepB f r m L D j (tabA 1 j) = true) : mgF m L D := by
  have h0 : keepB f r m L D 0 0 = true := H 0 (by decide)
  have h1 : keepB f r m L D 1 0 = true := H 1 (by decide)
  have h2 : keepB f r m L D 2 0 = true := H 2 (by decide)
  have h3 : keepB f r m L D 3 0 = true := H 3 (by decide)
  have h4 : keepB f r m L D 4 0 = true := H 4 (by decide)
  have h5 : keepB f r m L D 5 0 = true := H 5 (by decide)
  have h6 : keepB f r m L D 6 13 = true := H 6 (by decide)
  have h7 : keepB f r m L D 7 0 = true := H 7 (by decide)
  have h8 : keepB f r m L D 8 0 = true := H 8 (by decide)
  have h9 : keepB f r m L D 9 0 = true := H 9 (by decide)
  clear H
  have g1 : m.vw = 0 := of_decide_eq_true h1
  have g0 : m.nd = 0 := of_decide_eq_true h0
  have g2 : m.ls = 0 := of_decide_eq_true h2
  have g3 : m.p = 0 := of_decide_eq_true h3
  have g4 : m.cm = 0 := of_decide_eq_true h4
  have T : m.vw < 0 ∨ (0 ≤ m.vw.tmod (2 * f + 1) ∧ m.vw.tmod (2 * f + 1) < 2 * f + 1) := by
    by_cases h : m.vw < 0
    · exact .inl h
    · exact .inr (tmod_in (by omega) (by omega))
  exact ⟨by omega, by omega, by omega, by omega, by omega, by omega, hd, (enF_ck (by rw [← chk_one]; exact of_decide_eq_true h6) hf), (by have := of_decide_eq_true h7; rw [this]; exact ⟨by decide, by decide, by decide, by decide, by decide⟩), (by have := of_decide_eq_true h8; have e := List.length_eq_zero_iff.1 this; rw [e]; intro e he; cases he), (by have := of_decide_eq_true h8; omega), hD, (by have := of_decide_eq_true h9; omega)⟩
theorem mgF_2 {f r : Int} {m : Mg} {L : List En} {D : List (Int × Int)} (hk : m.k = 2) (hf1 : 1 ≤ f) (hf2 : f ≤ 3) (hr1 : 1 ≤ r) (hr2 : r ≤ 256) (hf : m.e.fits) (hL : ∀ e ∈ L, e.fits) (hd : drF m.d) (hD : ∀ d ∈ D, drF d) (hlen : (L.length : Int) ≤ 9223372036854775807) (H : ∀ j, j < 10 → keepB f r m L D j (tabA 2 j) = true) : mgF m L D := by
  have h0 : keepB f r m L D 0 1 = true := H 0 (by decide)
  have h1 : keepB f r m L D 1 3 = true := H 1 (by decide)
  have h2 : keepB f r m L D 2 0 = true := H 2 (by decide)
  have h3 : keepB f r m L D 3 8 = true := H 3 (by decide)
  have h4 : keepB f r m L D 4 0 = true := H 4 (by decide)
  have h5 : keepB f r m L D 5 0 = true := H 5 (by decide)
  have h6 : keepB f r m L D 6 15 = true := H 6 (by decide)
  have h7 : keepB f r m L D 7 16 = true := H 7 (by decide)
  have h8 : keepB f r m L D 8 0 = true := H 8 (by decide)
  have h9 : keepB f r m L D 9 0 = true := H 9 (by decide)
  clear H
  have g1 := inR_iff.1 h1
  have g0 := inR_iff.1 h0
  have g2 : m.ls = 0 := of_decide_eq_true h2
  have g3 : (m.r.1 = 7 ∧ m.p = 0) ∨ (¬ m.r.1 = 7 ∧ 1 ≤ m.p ∧ m.p ≤ r) := by rw [← apB_iff]; exact h3
  have g4 : m.cm = 0 := of_decide_eq_true h4
  have T : m.vw < 0 ∨ (0 ≤ m.vw.tmod (2 * f + 1) ∧ m.vw.tmod (2 * f + 1) < 2 * f + 1) := by
    by_cases h : m.vw < 0
    · exact .inl h
    · exact .inr (tmod_in (by omega) (by omega))
  exact ⟨by omega, by omega, by omega, by omega, by omega, by omega, hd, (enF_nm h6 hf), (rsF_res h7), (by have := of_decide_eq_true h8; have e := List.length_eq_zero_iff.1 this; rw [e]; intro e he; cases he), (by have := of_decide_eq_true h8; omega), hD, (by have := of_decide_eq_true h9; omega)⟩
theorem mgF_3 {f r : Int} {m : Mg} {L : List En} {D : List (Int × Int)} (hk : m.k = 3) (hf1 : 1 ≤ f) (hf2 : f ≤ 3) (hr1 : 1 ≤ r) (hr2 : r ≤ 256) (hf : m.e.fits) (hL : ∀ e ∈ L, e.fits) (hd : drF m.d) (hD : ∀ d ∈ D, drF d) (hlen : (L.length : Int) ≤ 9223372036854775807) (H : ∀ j, j < 10 → keepB f r m L D j (tabA 3 j) = true) : mgF m L D := by
  have h0 : keepB f r m L D 0 2 = true := H 0 (by decide)
  have h1 : keepB f r m L D 1 3 = true := H 1 (by decide)
  have h2 : keepB f r m L D 2 0 = true := H 2 (by decide)
  have h3 : keepB f r m L D 3 7 = true := H 3 (by decide)
  have h4 : keepB f r m L D 4 9 = true := H 4 (by decide)
  have h5 : keepB f r m L D 5 0 = true := H 5 (by decide)
  have h6 : keepB f r m L D 6 13 = true := H 6 (by decide)
  have h7 : keepB f r m L D 7 0 = true := H 7 (by decide)
  have h8 : keepB f r m L D 8 0 = true := H 8 (by decide)
  have h9 : keepB f r m L D 9 20 = true := H 9 (by decide)
  clear H
  have g1 := inR_iff.1 h1
  have g0 : m.nd = m.vw.tmod (2 * f + 1) := of_decide_eq_true h0
  have g2 : m.ls = 0 := of_decide_eq_true h2
  have g3 := inR_iff.1 h3
  have g4 := inR_iff.1 h4
  have T : m.vw < 0 ∨ (0 ≤ m.vw.tmod (2 * f + 1) ∧ m.vw.tmod (2 * f + 1) < 2 * f + 1) := by
    by_cases h : m.vw < 0
    · exact .inl h
    · exact .inr (tmod_in (by omega) (by omega))
  exact ⟨by omega, by omega, by omega, by omega, by omega, by omega, hd, (enF_ck (by rw [← chk_one]; exact of_decide_eq_true h6) hf), (by have := of_decide_eq_true h7; rw [this]; exact ⟨by decide, by decide, by decide, by decide, by decide⟩), (by have := of_decide_eq_true h8; have e := List.length_eq_zero_iff.1 this; rw [e]; intro e he; cases he), (by have := of_decide_eq_true h8; omega), hD, (by have := of_decide_eq_true h9; omega)⟩
theorem mgF_4 {f r : Int} {m : Mg} {L : List En} {D : List (Int × Int)} (hk : m.k = 4) (hf1 : 1 ≤ f) (hf2 : f ≤ 3) (hr1 : 1 ≤ r) (hr2 : r ≤ 256) (hf : m.e.fits) (hL : ∀ e ∈ L, e.fits) (hd : drF m.d) (hD : ∀ d ∈ D, drF d) (hlen : (L.length : Int) ≤ 9223372036854775807) (H : ∀ j, j < 10 → keepB f r m L D j (tabA 4 j) = true) : mgF m L D := by
  have h0 : keepB f r m L D 0 1 = true := H 0 (by decide)
  have h1 : keepB f r m L D 1 3 = true := H 1 (by decide)
  have h2 : keepB f r m L D 2 0 = true := H 2 (by decide)
  have h3 : keepB f r m L D 3 6 = true := H 3 (by decide)
  have h4 : keepB f r m L D 4 0 = true := H 4 (by decide)
  have h5 : keepB f r m L D 5 0 = true := H 5 (by decide)
  have h6 : keepB f r m L D 6 0 = true := H 6 (by decide)
  have h7 : keepB f r m L D 7 0 = true := H 7 (by decide)
  have h8 : keepB f r m L D 8 0 = true := H 8 (by decide)
  have h9 : keepB f r m L D 9 20 = true := H 9 (by decide)
  clear H
  have g1 := inR_iff.1 h1
  have g0 := inR_iff.1 h0
  have g2 : m.ls = 0 := of_decide_eq_true h2
  have g3 := inR_iff.1 h3
  have g4 : m.cm = 0 := of_decide_eq_true h4
  have T : m.vw < 0 ∨ (0 ≤ m.vw.tmod (2 * f + 1) ∧ m.vw.tmod (2 * f + 1) < 2 * f + 1) := by
    by_cases h : m.vw < 0
    · exact .inl h
    · exact .inr (tmod_in (by omega) (by omega))
  exact ⟨by omega, by omega, by omega, by omega, by omega, by omega, hd, (by rw [(enb_iff _ _).1 h6]; exact enF_z), (by have := of_decide_eq_true h7; rw [this]; exact ⟨by decide, by decide, by decide, by decide, by decide⟩), (by have := of_decide_eq_true h8; have e := List.length_eq_zero_iff.1 this; rw [e]; intro e he; cases he), (by have := of_decide_eq_true h8; omega), hD, (by have := of_decide_eq_true h9; omega)⟩
theorem mgF_5 {f r : Int} {m : Mg} {L : List En} {D : List (Int × Int)} (hk : m.k = 5) (hf1 : 1 ≤ f) (hf2 : f ≤ 3) (hr1 : 1 ≤ r) (hr2 : r ≤ 256) (hf : m.e.fits) (hL : ∀ e ∈ L, e.fits) (hd : drF m.d) (hD : ∀ d ∈ D, drF d) (hlen : (L.length : Int) ≤ 9223372036854775807) (H : ∀ j, j < 10 → keepB f r m L D j (tabA 5 j) = true) : mgF m L D := by
  have h0 : keepB f r m L D 0 2 = true := H 0 (by decide)
  have h1 : keepB f r m L D 1 3 = true := H 1 (by decide)
  have h2 : keepB f r m L D 2 0 = true := H 2 (by decide)
  have h3 : keepB f r m L D 3 0 = true := H 3 (by decide)
  have h4 : keepB f r m L D 4 9 = true := H 4 (by decide)
  have h5 : keepB f r m L D 5 0 = true := H 5 (by decide)
  have h6 : keepB f r m L D 6 0 = true := H 6 (by decide)
  have h7 : keepB f r m L D 7 0 = true := H 7 (by decide)
  have h8 : keepB f r m L D 8 0 = true := H 8 (by decide)
  have h9 : keepB f r m L D 9 20 = true := H 9 (by decide)
  clear H
  have g1 := inR_iff.1 h1
  have g0 : m.nd = m.vw.tmod (2 * f + 1) := of_decide_eq_true h0
  have g2 : m.ls = 0 := of_decide_eq_true h2
  have g3 : m.p = 0 := of_decide_eq_true h3
  have g4 := inR_iff.1 h4
  have T : m.vw < 0 ∨ (0 ≤ m.vw.tmod (2 * f + 1) ∧ m.vw.tmod (2 * f + 1) < 2 * f + 1) := by
    by_cases h : m.vw < 0
    · exact .inl h
    · exact .inr (tmod_in (by omega) (by omega))
  exact ⟨by omega, by omega, by omega, by omega, by omega, by omega, hd, (by rw [(enb_iff _ _).1 h6]; exact enF_z), (by have := of_decide_eq_true h7; rw [this]; exact ⟨by decide, by decide, by decide, by decide, by decide⟩), (by have := of_decide_eq_true h8; have e := List.length_eq_zero_iff.1 this; rw [e]; intro e he; cases he), (by have := of_decide_eq_true h8; omega), hD, (by have := of_decide_eq_true h9; omega)⟩
theorem mgF_6 {f r : Int} {m : Mg} {L : List En} {D : List (Int × Int)} (hk : m.k = 6) (hf1 : 1 ≤ f) (hf2 : f ≤ 3) (hr1 : 1 ≤ r) (hr2 : r ≤ 256) (hf : m.e.fits) (hL : ∀ e ∈ L, e.fits) (hd : drF m.d) (hD : ∀ d ∈ D, drF d) (hlen : (L.length : Int) ≤ 9223372036854775807) (H : ∀ j, j < 10 → keepB f r m L D j (tabA 6 j) = true) : mgF m L D := by
  have h0 : keepB f r m L D 0 1 = true := H 0 (by decide)
  have h1 : keepB f r m L D 1 4 = true := H 1 (by decide)
  have h2 : keepB f r m L D 2 0 = true := H 2 (by decide)
  have h3 : keepB f r m L D 3 0 = true := H 3 (by decide)
  have h4 : keepB f r m L D 4 0 = true := H 4 (by decide)
  have h5 : keepB f r m L D 5 0 = true := H 5 (by decide)
  have h6 : keepB f r m L D 6 0 = true := H 6 (by decide)
  have h7 : keepB f r m L D 7 0 = true := H 7 (by decide)
  have h8 : keepB f r m L D 8 0 = true := H 8 (by decide)
  have h9 : keepB f r m L D 9 20 = true := H 9 (by decide)
  clear H
  have g1 := inR_iff.1 h1
  have g0 := inR_iff.1 h0
  have g2 : m.ls = 0 := of_decide_eq_true h2
  have g3 : m.p = 0 := of_decide_eq_true h3
  have g4 : m.cm = 0 := of_decide_eq_true h4
  have T : m.vw < 0 ∨ (0 ≤ m.vw.tmod (2 * f + 1) ∧ m.vw.tmod (2 * f + 1) < 2 * f + 1) := by
    by_cases h : m.vw < 0
    · exact .inl h
    · exact .inr (tmod_in (by omega) (by omega))
  exact ⟨by omega, by omega, by omega, by omega, by omega, by omega, hd, (by rw [(enb_iff _ _).1 h6]; exact enF_z), (by have := of_decide_eq_true h7; rw [this]; exact ⟨by decide, by decide, by decide, by decide, by decide⟩), (by have := of_decide_eq_true h8; have e := List.length_eq_zero_iff.1 this; rw [e]; intro e he; cases he), (by have := of_decide_eq_true h8; omega), hD, (by have := of_decide_eq_true h9; omega)⟩
theorem mgF_7 {f r : Int} {m : Mg} {L : List En} {D : List (Int × Int)} (hk : m.k = 7) (hf1 : 1 ≤ f) (hf2 : f ≤ 3) (hr1 : 1 ≤ r) (hr2 : r ≤ 256) (hf : m.e.fits) (hL : ∀ e ∈ L, e.fits) (hd : drF m.d) (hD : ∀ d ∈ D, drF d) (hlen : (L.length : Int) ≤ 9223372036854775807) (H : ∀ j, j < 10 → keepB f r m L D j (tabA 7 j) = true) : mgF m L D := by
  have h0 : keepB f r m L D 0 1 = true := H 0 (by decide)
  have h1 : keepB f r m L D 1 4 = true := H 1 (by decide)
  have h2 : keepB f r m L D 2 5 = true := H 2 (by decide)
  have h3 : keepB f r m L D 3 0 = true := H 3 (by decide)
  have h4 : keepB f r m L D 4 10 = true := H 4 (by decide)
  have h5 : keepB f r m L D 5 0 = true := H 5 (by decide)
  have h6 : keepB f r m L D 6 0 = true := H 6 (by decide)
  have h7 : keepB f r m L D 7 0 = true := H 7 (by decide)
  have h8 : keepB f r m L D 8 18 = true := H 8 (by decide)
  have h9 : keepB f r m L D 9 20 = true := H 9 (by decide)
  clear H
  have g1 := inR_iff.1 h1
  have g0 := inR_iff.1 h0
  have g2 := Bool.and_eq_true_iff.1 h2
  have g2a := of_decide_eq_true g2.1
  have g2b := of_decide_eq_true g2.2
  have g3 : m.p = 0 := of_decide_eq_true h3
  have g4 := inR_iff.1 h4
  have T : m.vw < 0 ∨ (0 ≤ m.vw.tmod (2 * f + 1) ∧ m.vw.tmod (2 * f + 1) < 2 * f + 1) := by
    by_cases h : m.vw < 0
    · exact .inl h
    · exact .inr (tmod_in (by omega) (by omega))
  exact ⟨by omega, by omega, by omega, by omega, by omega, by omega, hd, (by rw [(enb_iff _ _).1 h6]; exact enF_z), (by have := of_decide_eq_true h7; rw [this]; exact ⟨by decide, by decide, by decide, by decide, by decide⟩), (fun e he => enF_ck (lg_ok (by rw [← chk_lg hr1 hr2]; exact of_decide_eq_true h8) e he) (hL e he)), (by have := lg_len (L := L) (r := r) (by rw [← chk_lg hr1 hr2]; exact of_decide_eq_true h8); omega), hD, (by have := of_decide_eq_true h9; omega)⟩
theorem mgF_8 {f r : Int} {m : Mg} {L : List En} {D : List (Int × Int)} (hk : m.k = 8) (hf1 : 1 ≤ f) (hf2 : f ≤ 3) (hr1 : 1 ≤ r) (hr2 : r ≤ 256) (hf : m.e.fits) (hL : ∀ e ∈ L, e.fits) (hd : drF m.d) (hD : ∀ d ∈ D, drF d) (hlen : (L.length : Int) ≤ 9223372036854775807) (H : ∀ j, j < 10 → keepB f r m L D j (tabA 8 j) = true) : mgF m L D := by
  have h0 : keepB f r m L D 0 2 = true := H 0 (by decide)
  have h1 : keepB f r m L D 1 4 = true := H 1 (by decide)
  have h2 : keepB f r m L D 2 0 = true := H 2 (by decide)
  have h3 : keepB f r m L D 3 0 = true := H 3 (by decide)
  have h4 : keepB f r m L D 4 10 = true := H 4 (by decide)
  have h5 : keepB f r m L D 5 0 = true := H 5 (by decide)
  have h6 : keepB f r m L D 6 0 = true := H 6 (by decide)
  have h7 : keepB f r m L D 7 0 = true := H 7 (by decide)
  have h8 : keepB f r m L D 8 18 = true := H 8 (by decide)
  have h9 : keepB f r m L D 9 20 = true := H 9 (by decide)
  clear H
  have g1 := inR_iff.1 h1
  have g0 : m.nd = m.vw.tmod (2 * f + 1) := of_decide_eq_true h0
  have g2 : m.ls = 0 := of_decide_eq_true h2
  have g3 : m.p = 0 := of_decide_eq_true h3
  have g4 := inR_iff.1 h4
  have T : m.vw < 0 ∨ (0 ≤ m.vw.tmod (2 * f + 1) ∧ m.vw.tmod (2 * f + 1) < 2 * f + 1) := by
    by_cases h : m.vw < 0
    · exact .inl h
    · exact .inr (tmod_in (by omega) (by omega))
  exact ⟨by omega, by omega, by omega, by omega, by omega, by omega, hd, (by rw [(enb_iff _ _).1 h6]; exact enF_z), (by have := of_decide_eq_true h7; rw [this]; exact ⟨by decide, by decide, by decide, by decide, by decide⟩), (fun e he => enF_ck (lg_ok (by rw [← chk_lg hr1 hr2]; exact of_decide_eq_true h8) e he) (hL e he)), (by have := lg_len (L := L) (r := r) (by rw [← chk_lg hr1 hr2]; exact of_decide_eq_true h8); omega), hD, (by have := of_decide_eq_true h9; omega)⟩
theorem mgF_9 {f r : Int} {m : Mg} {L : List En} {D : List (Int × Int)} (hk : m.k = 9) (hf1 : 1 ≤ f) (hf2 : f ≤ 3) (hr1 : 1 ≤ r) (hr2 : r ≤ 256) (hf : m.e.fits) (hL : ∀ e ∈ L, e.fits) (hd : drF m.d) (hD : ∀ d ∈ D, drF d) (hlen : (L.length : Int) ≤ 9223372036854775807) (H : ∀ j, j < 10 → keepB f r m L D j (tabA 9 j) = true) : mgF m L D := by
  have h0 : keepB f r m L D 0 1 = true := H 0 (by decide)
  have h1 : keepB f r m L D 1 0 = true := H 1 (by decide)
  have h2 : keepB f r m L D 2 0 = true := H 2 (by decide)
  have h3 : keepB f r m L D 3 0 = true := H 3 (by decide)
  have h4 : keepB f r m L D 4 0 = true := H 4 (by decide)
  have h5 : keepB f r m L D 5 12 = true := H 5 (by decide)
  have h6 : keepB f r m L D 6 0 = true := H 6 (by decide)
  have h7 : keepB f r m L D 7 0 = true := H 7 (by decide)
  have h8 : keepB f r m L D 8 0 = true := H 8 (by decide)
  have h9 : keepB f r m L D 9 20 = true := H 9 (by decide)
  clear H
  have g1 : m.vw = 0 := of_decide_eq_true h1
  have g0 := inR_iff.1 h0
  have g2 : m.ls = 0 := of_decide_eq_true h2
  have g3 : m.p = 0 := of_decide_eq_true h3
  have g4 : m.cm = 0 := of_decide_eq_true h4
  have T : m.vw < 0 ∨ (0 ≤ m.vw.tmod (2 * f + 1) ∧ m.vw.tmod (2 * f + 1) < 2 * f + 1) := by
    by_cases h : m.vw < 0
    · exact .inl h
    · exact .inr (tmod_in (by omega) (by omega))
  exact ⟨by omega, by omega, by omega, by omega, by omega, by omega, hd, (by rw [(enb_iff _ _).1 h6]; exact enF_z), (by have := of_decide_eq_true h7; rw [this]; exact ⟨by decide, by decide, by decide, by decide, by decide⟩), (by have := of_decide_eq_true h8; have e := List.length_eq_zero_iff.1 this; rw [e]; intro e he; cases he), (by have := of_decide_eq_true h8; omega), hD, (by have := of_decide_eq_true h9; omega)⟩
theorem mgF_10 {f r : Int} {m : Mg} {L : List En} {D : List (Int × Int)} (hk : m.k = 10) (hf1 : 1 ≤ f) (hf2 : f ≤ 3) (hr1 : 1 ≤ r) (hr2 : r ≤ 256) (hf : m.e.fits) (hL : ∀ e ∈ L, e.fits) (hd : drF m.d) (hD : ∀ d ∈ D, drF d) (hlen : (L.length : Int) ≤ 9223372036854775807) (H : ∀ j, j < 10 → keepB f r m L D j (tabA 10 j) = true) : mgF m L D := by
  have h0 : keepB f r m L D 0 1 = true := H 0 (by decide)
  have h1 : keepB f r m L D 1 3 = true := H 1 (by decide)
  have h2 : keepB f r m L D 2 0 = true := H 2 (by decide)
  have h3 : keepB f r m L D 3 0 = true := H 3 (by decide)
  have h4 : keepB f r m L D 4 10 = true := H 4 (by decide)
  have h5 : keepB f r m L D 5 11 = true := H 5 (by decide)
  have h6 : keepB f r m L D 6 0 = true := H 6 (by decide)
  have h7 : keepB f r m L D 7 0 = true := H 7 (by decide)
  have h8 : keepB f r m L D 8 19 = true := H 8 (by decide)
  have h9 : keepB f r m L D 9 20 = true := H 9 (by decide)
  clear H
  have g1 := inR_iff.1 h1
  have g0 := inR_iff.1 h0
  have g2 : m.ls = 0 := of_decide_eq_true h2
  have g3 : m.p = 0 := of_decide_eq_true h3
  have g4 := inR_iff.1 h4
  have T : m.vw < 0 ∨ (0 ≤ m.vw.tmod (2 * f + 1) ∧ m.vw.tmod (2 * f + 1) < 2 * f + 1) := by
    by_cases h : m.vw < 0
    · exact .inl h
    · exact .inr (tmod_in (by omega) (by omega))
  exact ⟨by omega, by omega, by omega, by omega, by omega, by omega, hd, (by rw [(enb_iff _ _).1 h6]; exact enF_z), (by have := of_decide_eq_true h7; rw [this]; exact ⟨by decide, by decide, by decide, by decide, by decide⟩), (pl_es hr1 hr2 h8 hL), (pl_len hr1 hr2 h8), hD, (by have := of_decide_eq_true h9; omega)⟩
theorem mgF_11 {f r : Int} {m : Mg} {L : List En} {D : List (Int × Int)} (hk : m.k = 11) (hf1 : 1 ≤ f) (hf2 : f ≤ 3) (hr1 : 1 ≤ r) (hr2 : r ≤ 256) (hf : m.e.fits) (hL : ∀ e ∈ L, e.fits) (hd : drF m.d) (hD : ∀ d ∈ D, drF d) (hlen : (L.length : Int) ≤ 9223372036854775807) (H : ∀ j, j < 10 → keepB f r m L D j (tabA 11 j) = true) : mgF m L D := by
  have h0 : keepB f r m L D 0 1 = true := H 0 (by decide)
  have h1 : keepB f r m L D 1 3 = true := H 1 (by decide)
  have h2 : keepB f r m L D 2 0 = true := H 2 (by decide)
  have h3 : keepB f r m L D 3 0 = true := H 3 (by decide)
  have h4 : keepB f r m L D 4 0 = true := H 4 (by decide)
  have h5 : keepB f r m L D 5 0 = true := H 5 (by decide)
  have h6 : keepB f r m L D 6 0 = true := H 6 (by decide)
  have h7 : keepB f r m L D 7 0 = true := H 7 (by decide)
  have h8 : keepB f r m L D 8 0 = true := H 8 (by decide)
  have h9 : keepB f r m L D 9 20 = true := H 9 (by decide)
  clear H
  have g1 := inR_iff.1 h1
  have g0 := inR_iff.1 h0
  have g2 : m.ls = 0 := of_decide_eq_true h2
  have g3 : m.p = 0 := of_decide_eq_true h3
  have g4 : m.cm = 0 := of_decide_eq_true h4
  have T : m.vw < 0 ∨ (0 ≤ m.vw.tmod (2 * f + 1) ∧ m.vw.tmod (2 * f + 1) < 2 * f + 1) := by
    by_cases h : m.vw < 0
    · exact .inl h
    · exact .inr (tmod_in (by omega) (by omega))
  exact ⟨by omega, by omega, by omega, by omega, by omega, by omega, hd, (by rw [(enb_iff _ _).1 h6]; exact enF_z), (by have := of_decide_eq_true h7; rw [this]; exact ⟨by decide, by decide, by decide, by decide, by decide⟩), (by have := of_decide_eq_true h8; have e := List.length_eq_zero_iff.1 this; rw [e]; intro e he; cases he), (by have := of_decide_eq_true h8; omega), hD, (by have := of_decide_eq_true h9; omega)⟩
theorem mgF_12 {f r : Int} {m : Mg} {L : List En} {D : List (Int × Int)} (hk : m.k = 12) (hf1 : 1 ≤ f) (hf2 : f ≤ 3) (hr1 : 1 ≤ r) (hr2 : r ≤ 256) (hf : m.e.fits) (hL : ∀ e ∈ L, e.fits) (hd : drF m.d) (hD : ∀ d ∈ D, drF d) (hlen : (L.length : Int) ≤ 9223372036854775807) (H : ∀ j, j < 10 → keepB f r m L D j (tabA 12 j) = true) : mgF m L D := by
  have h0 : keepB f r m L D 0 1 = true := H 0 (by decide)
  have h1 : keepB f r m L D 1 3 = true := H 1 (by decide)
  have h2 : keepB f r m L D 2 0 = true := H 2 (by decide)
  have h3 : keepB f r m L D 3 0 = true := H 3 (by decide)
  have h4 : keepB f r m L D 4 10 = true := H 4 (by decide)
  have h5 : keepB f r m L D 5 0 = true := H 5 (by decide)
  have h6 : keepB f r m L D 6 0 = true := H 6 (by decide)
  have h7 : keepB f r m L D 7 0 = true := H 7 (by decide)
  have h8 : keepB f r m L D 8 18 = true := H 8 (by decide)
  have h9 : keepB f r m L D 9 20 = true := H 9 (by decide)
  clear H
  have g1 := inR_iff.1 h1
  have g0 := inR_iff.1 h0
  have g2 : m.ls = 0 := of_decide_eq_true h2
  have g3 : m.p = 0 := of_decide_eq_true h3
  have g4 := inR_iff.1 h4
  have T : m.vw < 0 ∨ (0 ≤ m.vw.tmod (2 * f + 1) ∧ m.vw.tmod (2 * f + 1) < 2 * f + 1) := by
    by_cases h : m.vw < 0
    · exact .inl h
    · exact .inr (tmod_in (by omega) (by omega))
  exact ⟨by omega, by omega, by omega, by omega, by omega, by omega, hd, (by rw [(enb_iff _ _).1 h6]; exact enF_z), (by have := of_decide_eq_true h7; rw [this]; exact ⟨by decide, by decide, by decide, by decide, by decide⟩), (fun e he => enF_ck (lg_ok (by rw [← chk_lg hr1 hr2]; exact of_decide_eq_true h8) e he) (hL e he)), (by have := lg_len (L := L) (r := r) (by rw [← chk_lg hr1 hr2]; exact of_decide_eq_true h8); omega), hD, (by have := of_decide_eq_true h9; omega)⟩
theorem mgF_13 {f r : Int} {m : Mg} {L : List En} {D : List (Int × Int)} (hk : m.k = 13) (hf1 : 1 ≤ f) (hf2 : f ≤ 3) (hr1 : 1 ≤ r) (hr2 : r ≤ 256) (hf : m.e.fits) (hL : ∀ e ∈ L, e.fits) (hd : drF m.d) (hD : ∀ d ∈ D, drF d) (hlen : (L.length : Int) ≤ 9223372036854775807) (H : ∀ j, j < 10 → keepB f r m L D j (tabA 13 j) = true) : mgF m L D := by
  have h0 : keepB f r m L D 0 0 = true := H 0 (by decide)
  have h1 : keepB f r m L D 1 0 = true := H 1 (by decide)
  have h2 : keepB f r m L D 2 0 = true := H 2 (by decide)
  have h3 : keepB f r m L D 3 6 = true := H 3 (by decide)
  have h4 : keepB f r m L D 4 0 = true := H 4 (by decide)
  have h5 : keepB f r m L D 5 0 = true := H 5 (by decide)
  have h6 : keepB f r m L D 6 14 = true := H 6 (by decide)
  have h7 : keepB f r m L D 7 0 = true := H 7 (by decide)
  have h8 : keepB f r m L D 8 0 = true := H 8 (by decide)
  have h9 : keepB f r m L D 9 0 = true := H 9 (by decide)
  clear H
  have g1 : m.vw = 0 := of_decide_eq_true h1
  have g0 : m.nd = 0 := of_decide_eq_true h0
  have g2 : m.ls = 0 := of_decide_eq_true h2
  have g3 := inR_iff.1 h3
  have g4 : m.cm = 0 := of_decide_eq_true h4
  have T : m.vw < 0 ∨ (0 ≤ m.vw.tmod (2 * f + 1) ∧ m.vw.tmod (2 * f + 1) < 2 * f + 1) := by
    by_cases h : m.vw < 0
    · exact .inl h
    · exact .inr (tmod_in (by omega) (by omega))
  exact ⟨by omega, by omega, by omega, by omega, by omega, by omega, hd, (enF_ck (by rw [← chk_one]; exact of_decide_eq_true (Bool.and_eq_true_iff.1 h6).1) hf), (by have := of_decide_eq_true h7; rw [this]; exact ⟨by decide, by decide, by decide, by decide, by decide⟩), (by have := of_decide_eq_true h8; have e := List.length_eq_zero_iff.1 this; rw [e]; intro e he; cases he), (by have := of_decide_eq_true h8; omega), hD, (by have := of_decide_eq_true h9; omega)⟩
theorem mgF_14 {f r : Int} {m : Mg} {L : List En} {D : List (Int × Int)} (hk : m.k = 14) (hf1 : 1 ≤ f) (hf2 : f ≤ 3) (hr1 : 1 ≤ r) (hr2 : r ≤ 256) (hf : m.e.fits) (hL : ∀ e ∈ L, e.fits) (hd : drF m.d) (hD : ∀ d ∈ D, drF d) (hlen : (L.length : Int) ≤ 9223372036854775807) (H : ∀ j, j < 10 → keepB f r m L D j (tabA 14 j) = true) : mgF m L D := by
  have h0 : keepB f r m L D 0 1 = true := H 0 (by decide)
  have h1 : keepB f r m L D 1 3 = true := H 1 (by decide)
  have h2 : keepB f r m L D 2 0 = true := H 2 (by decide)
  have h3 : keepB f r m L D 3 0 = true := H 3 (by decide)
  have h4 : keepB f r m L D 4 9 = true := H 4 (by decide)
  have h5 : keepB f r m L D 5 0 = true := H 5 (by decide)
  have h6 : keepB f r m L D 6 15 = true := H 6 (by decide)
  have h7 : keepB f r m L D 7 17 = true := H 7 (by decide)
  have h8 : keepB f r m L D 8 0 = true := H 8 (by decide)
  have h9 : keepB f r m L D 9 0 = true := H 9 (by decide)
  clear H
  have g1 := inR_iff.1 h1
  have g0 := inR_iff.1 h0
  have g2 : m.ls = 0 := of_decide_eq_true h2
  have g3 : m.p = 0 := of_decide_eq_true h3
  have g4 := inR_iff.1 h4
  have T : m.vw < 0 ∨ (0 ≤ m.vw.tmod (2 * f + 1) ∧ m.vw.tmod (2 * f + 1) < 2 * f + 1) := by
    by_cases h : m.vw < 0
    · exact .inl h
    · exact .inr (tmod_in (by omega) (by omega))
  exact ⟨by omega, by omega, by omega, by omega, by omega, by omega, hd, (enF_nm h6 hf), (rsF_res (Bool.and_eq_true_iff.1 h7).1), (by have := of_decide_eq_true h8; have e := List.length_eq_zero_iff.1 this; rw [e]; intro e he; cases he), (by have := of_decide_eq_true h8; omega), hD, (by have := of_decide_eq_true h9; omega)⟩
theorem ck_mgF {c : Cf} {m : Mg} {L : List En} {D : List (Int × Int)} (h : ckM c m L D = 0) (hf : m.e.fits) (hL : ∀ e ∈ L, e.fits) (hd : drF m.d) (hD : ∀ d ∈ D, drF d) (hlen : (L.length : Int) ≤ 9223372036854775807) : mgF m L D ∧ 1 ≤ m.k ∧ m.k ≤ 14 := by
  unfold ckM at h
  split at h
  · omega
  · rename_i hc
    split at h
    · omega
    · rename_i hk
      split at h
      · rename_i hall
        have hc' : cfB c = true := by simpa using hc
        have hk' : kdB m.k = true := by simpa using hk
        obtain ⟨f1, f2⟩ := cfB_f hc'
        obtain ⟨r1, r2⟩ := cfB_r hc'
        have H : ∀ j, j < 10 → keepB c.f c.r m L D j (tabA m.k.toNat j) = true := fun j hj => List.all_eq_true.1 hall j (List.mem_range.2 hj)
        have hkk := inR_iff.1 hk'
        refine ⟨?_, hkk⟩
        have : m.k = 1 ∨ m.k = 2 ∨ m.k = 3 ∨ m.k = 4 ∨ m.k = 5 ∨ m.k = 6 ∨ m.k = 7 ∨ m.k = 8 ∨ m.k = 9 ∨ m.k = 10 ∨ m.k = 11 ∨ m.k = 12 ∨ m.k = 13 ∨ m.k = 14 := by omega
        rcases this with e | e | e | e | e | e | e | e | e | e | e | e | e | e <;> rw [e] at H
        · exact mgF_1 e f1 f2 r1 r2 hf hL hd hD hlen H
        · exact mgF_2 e f1 f2 r1 r2 hf hL hd hD hlen H
        · exact mgF_3 e f1 f2 r1 r2 hf hL hd hD hlen H
        · exact mgF_4 e f1 f2 r1 r2 hf hL hd hD hlen H
        · exact mgF_5 e f1 f2 r1 r2 hf hL hd hD hlen H
        · exact mgF_6 e f1 f2 r1 r2 hf hL hd hD hlen H
        · exact mgF_7 e f1 f2 r1 r2 hf hL hd hD hlen H
        · exact mgF_8 e f1 f2 r1 r2 hf hL hd hD hlen H
        · exact mgF_9 e f1 f2 r1 r2 hf hL hd hD hlen H
        · exact mgF_10 e f1 f2 r1 r2 hf hL hd hD hlen H
        · exact mgF_11 e f1 f2 r1 r2 hf hL hd hD hlen H
        · exact mgF_12 e f1 f2 r1 r2 hf hL hd hD hlen H
        · exact mgF_13 e f1 f2 r1 r2 hf hL hd hD hlen H
        · exact mgF_14 e f1 f2 r1 r2 hf hL hd hD hlen H
      · omega
end Go.Proofs.YtibedokegignhaaGreatDoor
