import Derived.Test.YtibedokegignhaaGreatDoorF5
set_option maxRecDepth 100000
set_option linter.unusedVariables false
set_option linter.unusedSimpArgs false
namespace Go.Proofs.YtibedokegignhaaGreatDoor
open Go.RowKit Go.Maps
open Classical
theorem op_len (f : List Int) : (Wi.opBody f).length ≤ f.length := by
  unfold Wi.opBody
  split
  · simp; omega
  · simp
theorem rI_wf (l : List Int) (s : Nat × Int) : (Lit.int .i64 (rI mxI l s : Int)).wf = true := by
  have h : rI ((9223372036854775807 : Nat) : Int) l s ≤ 9223372036854775807 := rI_le 9223372036854775807 (Nat.le_refl _) l s
  have h2 : rI mxI l s ≤ 9223372036854775807 := h
  exact wf_i64 (by omega)
theorem fits_none : (⟨0, 0, ⟨#[]⟩⟩ : Opn).fits := ⟨by dsimp only; decide, by dsimp only; decide, by dsimp only; unfold maxLen; decide⟩
theorem str_sz (l : List Int) : (strOfNums l).size = l.length := by
  show (strOfNums l).data.size = _
  simp [strOfNums]
theorem rT_le (l : List Int) (s : Nat × Int) : (rT l s).size ≤ 64 := by
  unfold rT
  rw [str_sz]
  unfold Wi.selL
  split
  · unfold Wi.ttList
    split
    · have h : Wi.tcVal (64 : Nat) (l.drop s.1) ≤ 64 := by
        have := rI_le 64 (by decide) (l.drop s.1) (0, 0)
        unfold rI at this
        rw [Wi.sel_ok] at this
        simpa using this
      rw [List.length_take]
      exact Nat.le_trans (Nat.min_le_left _ _) h
    · simp
  · simp
theorem rO_fits (l : List Int) (s : Nat × Int) : (rO l s).fits := ⟨rI_wf _ _, rI_wf _ _, Nat.le_trans (rT_le _ _) (by unfold maxLen; omega)⟩
theorem rE_fits (l : List Int) (s : Nat × Int) : (rE l s).fits := ⟨rI_wf _ _, rI_wf _ _, rO_fits _ _⟩
theorem rCol_fits (l : List Int) (x : Rst) (j : Nat) (op : Bool) (h : (∀ e ∈ x.L, e.fits) ∧ x.m.e.fits) : (∀ e ∈ (rCol l x j op).L, e.fits) ∧ (rCol l x j op).m.e.fits := by
  unfold rCol
  split
  case h_7 =>
    split
    · exact ⟨h.1, rE_fits _ _⟩
    · exact ⟨h.1, rI_wf _ _, rI_wf _ _, fits_none⟩
  case h_9 =>
    refine ⟨fun e he => ?_, h.2⟩
    simp only [esL, List.mem_map] at he
    obtain ⟨i, _, rfl⟩ := he
    exact rE_fits _ _
  all_goals exact h
theorem rCols_fits (l : List Int) (k : Nat) (x : Rst) (h : (∀ e ∈ x.L, e.fits) ∧ x.m.e.fits) : ∀ j, (∀ e ∈ (rCols l k x j).L, e.fits) ∧ (rCols l k x j).m.e.fits
  | 0 => h
  | j + 1 => by
    unfold rCols
    split
    · exact rCols_fits l k x h j
    · exact rCol_fits _ _ _ _ (rCols_fits l k x h j)
theorem zG_fits : zG.e.fits := ⟨by decide, by decide, by decide, by decide, by unfold maxLen; decide⟩
theorem rdM_fits (l : List Int) : (∀ e ∈ (rdM l).1.L, e.fits) ∧ (rdM l).1.m.e.fits := by
  unfold rdM
  split
  · exact ⟨(fun e he => by cases he), zG_fits⟩
  · split
    · exact ⟨(fun e he => by cases he), zG_fits⟩
    · exact rCols_fits _ _ _ ⟨(fun e he => by cases he), zG_fits⟩ 10
theorem rdM_L (l : List Int) : ∀ e ∈ (rdM l).1.L, e.fits := (rdM_fits l).1
theorem rdM_e (l : List Int) : (rdM l).1.m.e.fits := (rdM_fits l).2
theorem OwnY.far6 {α : Type} {Y : Lay α} {B q : Nat} {w w1 w2 : World} {v : Value} {l : List α} (h : OwnY Y B w1 v l) (h0 : OwnY Y B w v l) (u : UB q w1 w2) (hq : q = w.heap.size) : OwnY Y B w2 v l :=
  h.upd1 u (fun g hg he => by have := (World.ownsRow.lt h0 g hg).2; omega)
theorem ex_box {o : Oper} {ρ : Operand → Value} {s : TypeId} {x : Operand} {X V : Value} {w w' : World} (ho : o.op = .box s x) (hx : ρ x = X) (hr : (Instr.box s X).run Tryz.prog w = .ok V w') : (execOp ρ o).run Tryz.prog w = .ok (.value V) w' := by
  unfold execOp
  simp only [ho, hx, Sem.run_bind, hr, Result.andThen_ok]
  rfl
theorem bxCf (f r p : Int) (u : Bool) (w : World) : (Instr.box 23 (.agg #[.int .i64 f, .int .i64 r, .int .i64 p, .bool u])).run Tryz.prog w = .ok (.pointer (some ⟨w.heap.size, 0, none⟩)) (w.alloc (.cells #[.int .i64 f, .int .i64 r, .int .i64 p, .bool u] 23)) := by
  go_simp
  first | done | rfl
set_option maxHeartbeats 8000000 in
theorem decode_any (c : Cf) (a : Option Addr) (n c_ : Nat) (f : List Int) (w : World) (hH : Wi.Hs w a n c_ f) (hm : n ≤ 140737488355328) (hT : Tab w) :
    Calls Tryz.prog 19 #[c.val, .slice a n c_] w fun e w' => ∃ s t, e = .returned (.tuple #[(dcM c f).1.m.val s t, .int .i64 (dcM c f).2]) ∧ OwnY yE w.heap.size w' s (dcM c f).1.L ∧ OwnY yD w.heap.size w' t (dcM c f).1.D ∧ Below w.heap.size w w' := by
  go_enter Tryz.func19, Tryz.ntmps19
  go_upto_region 0 with fail
  refine wp_region_lit ?_
  refine vl_gen (fun T => T.size = 40 ∧ T[0]? = some (gw true (.agg #[.int .i64 c.f, .int .i64 c.r, .int .i64 c.p, .bool c.u])) ∧ T[1]? = some (gw true (.slice a n c_))) ⟨rfl, rfl, rfl⟩ (fun Z0 ⟨hz, s0, s1⟩ => ?_)
  obtain ⟨w0, hw0⟩ : ∃ w0, w0 = w.alloc (.cells #[.int .i64 c.f, .int .i64 c.r, .int .i64 c.p, .bool c.u] 23) := ⟨_, rfl⟩
  have hB0 : Below w.heap.size w w0 := by rw [hw0]; exact (Below.refl _ _).alloc (Nat.le_refl _) _
  have hs0 : w0.heap.size = w.heap.size + 1 := by rw [hw0]; simp
  have C0 : CfB w0 w.heap.size c := ⟨by omega, fun i x hx => by rw [hw0]; exact cell_box _ _ _ _ _ (by simpa using hx)⟩
  refine vw (.pointer (some ⟨w.heap.size, 0, none⟩)) w0 (want_none rfl) (ex_box rfl (ev s0 rfl) (by rw [hw0]; exact bxCf _ _ _ _ _)) rfl hz (by decide) (fun Z1 zz kk s2x => ?_)
  replace s1 := ku s1
  clear kk hz hw0 s0
  have hz := zz
  have s2 := s2x
  clear zz s2x
  obtain ⟨w1, hw1⟩ : ∃ w1, w1 = w0.alloc (.cells (zG.cs nilS nilS).toArray 38) := ⟨_, rfl⟩
  have hb01 : Below w0.heap.size w0 w1 := by rw [hw1]; exact (Below.refl _ _).alloc (Nat.le_refl _) _
  have hs1 : w1.heap.size = w0.heap.size + 1 := by rw [hw1]; simp
  have M1 : MBox w1 (w.heap.size + 1) zG nilS nilS := by rw [hw1, ← hs0]; exact MBox.new0 w0
  have C1 := C0.bel hb01
  have hB1 := hB0.trans (hb01.mono hB0.size)
  refine vw (.pointer (some ⟨w.heap.size + 1, 0, none⟩)) w1 (want_none rfl) (ex_al rfl (by rw [hw1, ← hs0]; exact alM _)) rfl hz (by decide) (fun Z2 zz kk s4x => ?_)
  replace s1 := ku s1
  replace s2 := ku s2
  clear kk hz hw1
  have hz := zz
  have s4 := s4x
  clear zz s4x
  refine vt (.int .i64 0) (ex_assign rfl rfl) hz (fun Z3 zz kk s5x => ?_)
  replace s1 := ku s1
  replace s2 := ku s2
  replace s4 := ku s4
  clear kk hz s5x
  have hz := zz
  clear zz
  refine wpList_nil ?_
  go_upto_region 1 with fail
  refine wp_region_lit ?_
  refine vt (.agg #[.int .i64 c.f, .int .i64 c.r, .int .i64 c.p, .bool c.u]) (ex_ld rfl (ev s2 rfl) ((C1).ldAll)) hz (fun Ya zz kk s10 => ?_)
  replace s1 := ku s1
  replace s2 := ku s2
  replace s4 := ku s4
  replace hz := zz
  clear kk zz
  refine vcallP (want_none rfl) (ex_call rfl (by simp only [List.map_toArray, List.map_cons, List.map_nil, (ev s10 rfl), evc] <;> rfl) rfl) (configMayBe_any c w1) rfl hz (by decide) ?_
  rintro e w2 ⟨rfl, hb2⟩
  refine ⟨_, rfl, fun Yb zz kk s11 => ?_⟩
  have M2 := M1.bel hb2
  have C2 := C1.bel hb2
  have hB2 := hB1.trans (hb2.mono hB1.size)
  replace s1 := ku s1
  replace s2 := ku s2
  replace s4 := ku s4
  replace hz := zz
  clear kk zz s10 Ya
  refine vt (.bool (!(cfB c))) (ex_not rfl (ev s11 rfl)) hz (fun Yc zz kk s12 => ?_)
  replace s1 := ku s1
  replace s2 := ku s2
  replace s4 := ku s4
  replace hz := zz
  clear kk zz s11 Yb
  refine wpList_nil ?_
  go_upto_region 3 with fail
  cases e1 : !cfB c
  rotate_left
  · refine wp_cond_true ((ev s12 rfl).trans (congrArg Value.bool e1)) ?_
    have hn : cfB c = false := by simpa using e1
    have VV : dcM c f = (⟨zG, [], [], (0, 0)⟩, 1) := by unfold dcM; rw [if_pos hn]
    clear s1 s2 s12
    go_upto_region 2 with fail
    refine wp_region_lit ?_
    refine vt (zG.val nilS nilS) (ex_build rfl (bdM0 _)) hz (fun Yd zz kk s13 => ?_)
    replace s4 := ku s4
    replace hz := zz
    clear kk zz
    refine vs (sets w2 (w.heap.size + 1) 0 (zG.cs nilS nilS)) (want_none rfl) (ex_st rfl (ev s4 rfl) (ev s13 rfl) (stM M2 zG nilS nilS rfl rfl)) rfl ?_
    have SP := M2.putU zG nilS nilS
    obtain ⟨we, hwe⟩ : ∃ y, y = sets w2 (w.heap.size + 1) 0 (zG.cs nilS nilS) := ⟨_, rfl⟩
    rw [← hwe] at SP ⊢
    clear hwe
    refine vt (.int .i64 1) (ex_assign rfl rfl) hz (fun Ye zz kk s5 => ?_)
    replace s4 := ku s4
    replace hz := zz
    clear kk zz s13 Yd
    refine wpList_nil ?_
    have hfin : Below w.heap.size w we := hB2.trans (SP.2.below (by have := (hB2).size; omega) (by omega))
    go_wp2
    refine bodyPost_msg rfl s4 s5 SP.1 ?_
    rw [VV]
    exact ⟨_, _, rfl, OwnY.nil _ _ _, OwnY.nil _ _ _, hfin⟩
  refine wp_cond_false ((ev s12 rfl).trans (congrArg Value.bool e1)) ?_
  have hcf : cfB c = true := by simpa using e1
  clear s12 e1
  go_upto_region 3 with fail
  refine wp_region_lit ?_
  refine vt _ (ex_move rfl (ev s1 rfl)) hz (fun Yf zz kk s15 => ?_)
  replace s2 := ku s2
  replace s4 := ku s4
  replace hz := zz
  clear kk zz s1
  refine vcallP (want_none rfl) (ex_call rfl (by simp only [List.map_toArray, List.map_cons, List.map_nil, (ev s15 rfl), evc] <;> rfl) rfl) (Wi.open_any a n c_ f w2 (hH.later hB2)) rfl hz (by decide) ?_
  rintro e w3 ⟨vo, rfl, Oo, hb3⟩
  refine ⟨_, rfl, fun Yg zz kk s16 => ?_⟩
  have M3 := M2.bel hb3
  have C3 := C2.bel hb3
  have hB3 := hB2.trans (hb3.mono hB2.size)
  replace s2 := ku s2
  replace s4 := ku s4
  replace hz := zz
  clear kk zz s15 Yf
  refine vt _ (ex_move rfl (ev s16 rfl)) hz (fun Yh zz kk s14 => ?_)
  replace s2 := ku s2
  replace s4 := ku s4
  replace hz := zz
  clear kk zz s16 Yg
  refine vt (vo) (ex_ext rfl (ev s14 rfl) rfl) hz (fun Yi zz kk s17 => ?_)
  replace s2 := ku s2
  replace s4 := ku s4
  replace s14 := ku s14
  replace hz := zz
  clear kk zz Yh
  refine vt (.int .i64 (Wi.opErr f)) (ex_ext rfl (ev s14 rfl) rfl) hz (fun Yj zz kk s18 => ?_)
  replace s2 := ku s2
  replace s4 := ku s4
  replace s17 := ku s17
  replace hz := zz
  clear kk zz s14 Yi
  refine vt _ (ex_assign rfl (ev s17 rfl)) hz (fun Yk zz kk s6 => ?_)
  replace s2 := ku s2
  replace s4 := ku s4
  replace s18 := ku s18
  replace hz := zz
  clear kk zz s17 Yj
  refine vt _ (ex_assign rfl (ev s18 rfl)) hz (fun Yl zz kk s7 => ?_)
  replace s2 := ku s2
  replace s4 := ku s4
  replace s6 := ku s6
  replace hz := zz
  clear kk zz s18 Yk
  refine wpList_nil ?_
  go_upto_region 4 with fail
  refine wp_region_lit ?_
  refine vt _ (ex_move rfl (ev s7 rfl)) hz (fun Ym zz kk s19 => ?_)
  replace s2 := ku s2
  replace s4 := ku s4
  replace s6 := ku s6
  replace s7 := ku s7
  replace hz := zz
  clear kk zz
  refine vt (.bool (!decide ((Wi.opErr f) = 0))) (ex_bin rfl (ev s19 rfl) rfl (neqEr _ _ _ _ _)) hz (fun Yn zz kk s20 => ?_)
  replace s2 := ku s2
  replace s4 := ku s4
  replace s6 := ku s6
  replace s7 := ku s7
  replace hz := zz
  clear kk zz s19 Ym
  refine wpList_nil ?_
  go_upto_region 6 with fail
  cases e4 : !decide (Wi.opErr f = 0)
  rotate_left
  · refine wp_cond_true ((ev s20 rfl).trans (congrArg Value.bool e4)) ?_
    have hn : ¬ Wi.opErr f = 0 := by simpa using e4
    have VV : dcM c f = (⟨zG, [], [], (0, 0)⟩, Wi.opErr f) := by unfold dcM; rw [if_neg (by simp [hcf]), if_pos hn]
    clear s2 s6 s20
    go_upto_region 5 with fail
    refine wp_region_lit ?_
    refine vt (zG.val nilS nilS) (ex_build rfl (bdM0 _)) hz (fun Yo zz kk s21 => ?_)
    replace s4 := ku s4
    replace s7 := ku s7
    replace hz := zz
    clear kk zz
    refine vt _ (ex_move rfl (ev s7 rfl)) hz (fun Yp zz kk s22 => ?_)
    replace s4 := ku s4
    replace s21 := ku s21
    replace hz := zz
    clear kk zz s7 Yo
    refine vs (sets w3 (w.heap.size + 1) 0 (zG.cs nilS nilS)) (want_none rfl) (ex_st rfl (ev s4 rfl) (ev s21 rfl) (stM M3 zG nilS nilS rfl rfl)) rfl ?_
    have SP := M3.putU zG nilS nilS
    obtain ⟨we, hwe⟩ : ∃ y, y = sets w3 (w.heap.size + 1) 0 (zG.cs nilS nilS) := ⟨_, rfl⟩
    rw [← hwe] at SP ⊢
    clear hwe
    refine vt _ (ex_assign rfl (ev s22 rfl)) hz (fun Yq zz kk s5 => ?_)
    replace s4 := ku s4
    replace hz := zz
    clear kk zz s21 s22 Yp
    refine wpList_nil ?_
    have hfin : Below w.heap.size w we := hB3.trans (SP.2.below (by have := (hB3).size; omega) (by omega))
    go_wp2
    refine bodyPost_msg rfl s4 s5 SP.1 ?_
    rw [VV]
    exact ⟨_, _, rfl, OwnY.nil _ _ _, OwnY.nil _ _ _, hfin⟩
  refine wp_cond_false ((ev s20 rfl).trans (congrArg Value.bool e4)) ?_
  have hop : Wi.opErr f = 0 := by simpa using e4
  clear s20 e4 s7
  obtain ⟨ao, no, co, rfl, hso, _⟩ := Oo.hs (op_byte hH.byte)
  have hno : no ≤ 140737488355328 := by have h1 := hso.len; have h2 := op_len f; have h3 := hH.len; omega
  go_upto_region 6 with fail
  refine wp_region_lit ?_
  refine vt _ (ex_move rfl (ev s6 rfl)) hz (fun Yr zz kk s24 => ?_)
  replace s2 := ku s2
  replace s4 := ku s4
  replace hz := zz
  clear kk zz s6
  refine vcallP (want_none rfl) (ex_call rfl (by simp only [List.map_toArray, List.map_cons, List.map_nil, (ev s24 rfl), evc] <;> rfl) rfl) (readM_any ao no co (Wi.opBody f) w3 hso hno (hT.later hB3 hT.lt)) rfl hz (by decide) ?_
  rintro e w4 ⟨vs_, vt_, rfl, OL, OD, hb4⟩; obtain ⟨sa, sc, rfl, _⟩ := OL.form; obtain ⟨ta, tc, rfl, _⟩ := OD.form
  refine ⟨_, rfl, fun Ys zz kk s25 => ?_⟩
  have M4 := M3.bel hb4
  have C4 := C3.bel hb4
  have hB4 := hB3.trans (hb4.mono hB3.size)
  obtain ⟨qm, hqm⟩ : ∃ qm, qm = w4.heap.size := ⟨_, rfl⟩
  obtain ⟨w5, hw5⟩ : ∃ y, y = w4.alloc (.cells (zG.cs nilS nilS).toArray 38) := ⟨_, rfl⟩
  have hb45 : Below w4.heap.size w4 w5 := by rw [hw5]; exact (Below.refl _ _).alloc (Nat.le_refl _) _
  have hs5 : w5.heap.size = w4.heap.size + 1 := by rw [hw5]; simp
  have MM5 : MBox w5 qm zG nilS nilS := by rw [hw5, hqm]; exact MBox.new0 w4
  have M5 := M4.bel hb45
  have C5 := C4.bel hb45
  have hsz1 := hB1.size
  have hs34 := hb4.size
  have hs23 := hb3.size
  have hs12 := hb2.size
  have hM1lt := M1.lt
  replace s2 := ku s2
  replace s4 := ku s4
  replace hz := zz
  clear kk zz s24 Yr
  refine vt _ (ex_move rfl (ev s25 rfl)) hz (fun Yt zz kk s23 => ?_)
  replace s2 := ku s2
  replace s4 := ku s4
  replace hz := zz
  clear kk zz s25 Ys
  refine vt ((rdM (Wi.opBody f)).1.m.val (.slice sa (rdM (Wi.opBody f)).1.L.length sc) (.slice ta (rdM (Wi.opBody f)).1.D.length tc)) (ex_ext rfl (ev s23 rfl) rfl) hz (fun Yu zz kk s26 => ?_)
  replace s2 := ku s2
  replace s4 := ku s4
  replace s23 := ku s23
  replace hz := zz
  clear kk zz Yt
  refine vt (.int .i64 (rdM (Wi.opBody f)).2) (ex_ext rfl (ev s23 rfl) rfl) hz (fun Yv zz kk s27 => ?_)
  replace s2 := ku s2
  replace s4 := ku s4
  replace s26 := ku s26
  replace hz := zz
  clear kk zz s23 Yu
  refine vw (.pointer (some ⟨qm, 0, none⟩)) w5 (want_none rfl) (ex_al rfl (by rw [hw5, hqm]; exact alM _)) rfl hz (by decide) (fun Yw zz kk s8 => ?_)
  replace s2 := ku s2
  replace s4 := ku s4
  replace s26 := ku s26
  replace s27 := ku s27
  replace hz := zz
  clear kk zz Yv
  refine vs (sets w5 qm 0 ((rdM (Wi.opBody f)).1.m.cs (.slice sa (rdM (Wi.opBody f)).1.L.length sc) (.slice ta (rdM (Wi.opBody f)).1.D.length tc))) (want_none rfl) (ex_st rfl (ev s8 rfl) (ev s26 rfl) (stM MM5 (rdM (Wi.opBody f)).1.m (.slice sa (rdM (Wi.opBody f)).1.L.length sc) (.slice ta (rdM (Wi.opBody f)).1.D.length tc) rfl rfl)) rfl ?_
  have SP6 := MM5.putU (rdM (Wi.opBody f)).1.m (.slice sa (rdM (Wi.opBody f)).1.L.length sc) (.slice ta (rdM (Wi.opBody f)).1.D.length tc)
  obtain ⟨w6, hw6⟩ : ∃ y, y = sets w5 qm 0 ((rdM (Wi.opBody f)).1.m.cs (.slice sa (rdM (Wi.opBody f)).1.L.length sc) (.slice ta (rdM (Wi.opBody f)).1.D.length tc)) := ⟨_, rfl⟩
  rw [← hw6] at SP6 ⊢
  have hs6 : w6.heap.size = w5.heap.size := by rw [hw6, size_sets]
  clear hw6 hw5
  have M6 := M5.upd SP6.2 (by omega)
  have C6 : CfB w6 w.heap.size c := ⟨by omega, fun i x hx => (SP6.2.cell (p := ⟨w.heap.size, i, none⟩) C5.lt (by show ¬ w.heap.size = qm; omega)).trans (C5.cell i x hx)⟩
  have hB6 : Below w.heap.size w w6 := hB4.trans ((hb45.mono hB4.size).trans (SP6.2.below (by omega) (by omega)))
  have OL6 := (OL.later8 hb45).far6 OL SP6.2 hqm
  have OD6 := (OD.later8 hb45).far6 OD SP6.2 hqm
  refine vt _ (ex_assign rfl (ev s27 rfl)) hz (fun Yx zz kk s7 => ?_)
  replace s2 := ku s2
  replace s4 := ku s4
  replace s8 := ku s8
  replace hz := zz
  clear kk zz s26 s27 Yw
  refine wpList_nil ?_
  go_upto_region 7 with fail
  refine wp_region_lit ?_
  refine vt _ (ex_move rfl (ev s7 rfl)) hz (fun Yy zz kk s28 => ?_)
  replace s2 := ku s2
  replace s4 := ku s4
  replace s7 := ku s7
  replace s8 := ku s8
  replace hz := zz
  clear kk zz
  refine vt (.bool (!decide ((rdM (Wi.opBody f)).2 = 0))) (ex_bin rfl (ev s28 rfl) rfl (neqEr _ _ _ _ _)) hz (fun Yz zz kk s29 => ?_)
  replace s2 := ku s2
  replace s4 := ku s4
  replace s7 := ku s7
  replace s8 := ku s8
  replace hz := zz
  clear kk zz s28 Yy
  refine wpList_nil ?_
  go_upto_region 9 with fail
  cases e7 : !decide ((rdM (Wi.opBody f)).2 = 0)
  rotate_left
  · refine wp_cond_true ((ev s29 rfl).trans (congrArg Value.bool e7)) ?_
    have hn : ¬ (rdM (Wi.opBody f)).2 = 0 := by simpa using e7
    have VV : dcM c f = (⟨zG, [], [], (0, 0)⟩, (rdM (Wi.opBody f)).2) := by unfold dcM; rw [if_neg (by simp [hcf]), if_neg (by simp [hop]), if_pos hn]
    clear s2 s8 s29
    go_upto_region 8 with fail
    refine wp_region_lit ?_
    refine vt (zG.val nilS nilS) (ex_build rfl (bdM0 _)) hz (fun Y0 zz kk s30 => ?_)
    replace s4 := ku s4
    replace s7 := ku s7
    replace hz := zz
    clear kk zz
    refine vt _ (ex_move rfl (ev s7 rfl)) hz (fun Y1 zz kk s31 => ?_)
    replace s4 := ku s4
    replace s30 := ku s30
    replace hz := zz
    clear kk zz s7 Y0
    refine vs (sets w6 (w.heap.size + 1) 0 (zG.cs nilS nilS)) (want_none rfl) (ex_st rfl (ev s4 rfl) (ev s30 rfl) (stM M6 zG nilS nilS rfl rfl)) rfl ?_
    have SP := M6.putU zG nilS nilS
    obtain ⟨we, hwe⟩ : ∃ y, y = sets w6 (w.heap.size + 1) 0 (zG.cs nilS nilS) := ⟨_, rfl⟩
    rw [← hwe] at SP ⊢
    clear hwe
    refine vt _ (ex_assign rfl (ev s31 rfl)) hz (fun Y2 zz kk s5 => ?_)
    replace s4 := ku s4
    replace hz := zz
    clear kk zz s30 s31 Y1
    refine wpList_nil ?_
    have hfin : Below w.heap.size w we := hB6.trans (SP.2.below (by have := (hB6).size; omega) (by omega))
    go_wp2
    refine bodyPost_msg rfl s4 s5 SP.1 ?_
    rw [VV]
    exact ⟨_, _, rfl, OwnY.nil _ _ _, OwnY.nil _ _ _, hfin⟩
  refine wp_cond_false ((ev s29 rfl).trans (congrArg Value.bool e7)) ?_
  have hrd : (rdM (Wi.opBody f)).2 = 0 := by simpa using e7
  clear s29 e7 s7
  go_upto_region 9 with fail
  refine wp_region_lit ?_
  refine vt (.agg #[.int .i64 c.f, .int .i64 c.r, .int .i64 c.p, .bool c.u]) (ex_ld rfl (ev s2 rfl) ((C6).ldAll)) hz (fun Y3 zz kk s32 => ?_)
  replace s4 := ku s4
  replace s8 := ku s8
  replace hz := zz
  clear kk zz s2
  refine vt ((rdM (Wi.opBody f)).1.m.val (.slice sa (rdM (Wi.opBody f)).1.L.length sc) (.slice ta (rdM (Wi.opBody f)).1.D.length tc)) (ex_ld rfl (ev s8 rfl) (SP6.1.ldAll)) hz (fun Y4 zz kk s33 => ?_)
  replace s4 := ku s4
  replace s8 := ku s8
  replace s32 := ku s32
  replace hz := zz
  clear kk zz Y3
  refine vcallP (want_none rfl) (ex_call rfl (by simp only [List.map_toArray, List.map_cons, List.map_nil, (ev s32 rfl), (ev s33 rfl), evc] <;> rfl) rfl) (checkM_any c (rdM (Wi.opBody f)).1.m sa ta sc tc (rdM (Wi.opBody f)).1.L (rdM (Wi.opBody f)).1.D w6 (hT.later hB6 hT.lt) (OL6.sl' kE) (rdM_L _) (OD6.sl' kD) (rdM_e _)) rfl hz (by decide) ?_
  rintro e w7 ⟨rfl, hb7⟩
  refine ⟨_, rfl, fun Y5 zz kk s34 => ?_⟩
  have M7 := M6.bel hb7
  have MM7 := SP6.1.bel hb7
  have hB7 := hB6.trans (hb7.mono hB6.size)
  have hs7 := hb7.size
  have OL7 := OL6.later8 hb7
  have OD7 := OD6.later8 hb7
  replace s4 := ku s4
  replace s8 := ku s8
  replace hz := zz
  clear kk zz s32 s33 Y4
  refine vt _ (ex_assign rfl (ev s34 rfl)) hz (fun Y6 zz kk s9 => ?_)
  replace s4 := ku s4
  replace s8 := ku s8
  replace hz := zz
  clear kk zz s34 Y5
  refine wpList_nil ?_
  go_upto_region 10 with fail
  refine wp_region_lit ?_
  refine vt _ (ex_move rfl (ev s9 rfl)) hz (fun Y7 zz kk s35 => ?_)
  replace s4 := ku s4
  replace s8 := ku s8
  replace s9 := ku s9
  replace hz := zz
  clear kk zz
  refine vt (.bool (!decide ((ckM c (rdM (Wi.opBody f)).1.m (rdM (Wi.opBody f)).1.L (rdM (Wi.opBody f)).1.D) = 0))) (ex_bin rfl (ev s35 rfl) rfl (neqEr _ _ _ _ _)) hz (fun Y8 zz kk s36 => ?_)
  replace s4 := ku s4
  replace s8 := ku s8
  replace s9 := ku s9
  replace hz := zz
  clear kk zz s35 Y7
  refine wpList_nil ?_
  go_upto_region 12 with fail
  cases e10 : !decide ((ckM c (rdM (Wi.opBody f)).1.m (rdM (Wi.opBody f)).1.L (rdM (Wi.opBody f)).1.D) = 0)
  rotate_left
  · refine wp_cond_true ((ev s36 rfl).trans (congrArg Value.bool e10)) ?_
    have hn : ¬ (ckM c (rdM (Wi.opBody f)).1.m (rdM (Wi.opBody f)).1.L (rdM (Wi.opBody f)).1.D) = 0 := by simpa using e10
    have VV : dcM c f = (⟨zG, [], [], (0, 0)⟩, (ckM c (rdM (Wi.opBody f)).1.m (rdM (Wi.opBody f)).1.L (rdM (Wi.opBody f)).1.D)) := by unfold dcM; rw [if_neg (by simp [hcf]), if_neg (by simp [hop]), if_neg (by simp [hrd]), if_pos hn]
    clear s8 s36
    go_upto_region 11 with fail
    refine wp_region_lit ?_
    refine vt (zG.val nilS nilS) (ex_build rfl (bdM0 _)) hz (fun Y9 zz kk s37 => ?_)
    replace s4 := ku s4
    replace s9 := ku s9
    replace hz := zz
    clear kk zz
    refine vt _ (ex_move rfl (ev s9 rfl)) hz (fun Yba zz kk s38 => ?_)
    replace s4 := ku s4
    replace s37 := ku s37
    replace hz := zz
    clear kk zz s9 Y9
    refine vs (sets w7 (w.heap.size + 1) 0 (zG.cs nilS nilS)) (want_none rfl) (ex_st rfl (ev s4 rfl) (ev s37 rfl) (stM M7 zG nilS nilS rfl rfl)) rfl ?_
    have SP := M7.putU zG nilS nilS
    obtain ⟨we, hwe⟩ : ∃ y, y = sets w7 (w.heap.size + 1) 0 (zG.cs nilS nilS) := ⟨_, rfl⟩
    rw [← hwe] at SP ⊢
    clear hwe
    refine vt _ (ex_assign rfl (ev s38 rfl)) hz (fun Ybb zz kk s5 => ?_)
    replace s4 := ku s4
    replace hz := zz
    clear kk zz s37 s38 Yba
    refine wpList_nil ?_
    have hfin : Below w.heap.size w we := hB7.trans (SP.2.below (by have := (hB7).size; omega) (by omega))
    go_wp2
    refine bodyPost_msg rfl s4 s5 SP.1 ?_
    rw [VV]
    exact ⟨_, _, rfl, OwnY.nil _ _ _, OwnY.nil _ _ _, hfin⟩
  refine wp_cond_false ((ev s36 rfl).trans (congrArg Value.bool e10)) ?_
  have hck : (ckM c (rdM (Wi.opBody f)).1.m (rdM (Wi.opBody f)).1.L (rdM (Wi.opBody f)).1.D) = 0 := by simpa using e10
  clear s36 e10 s9
  have VV : dcM c f = ((rdM (Wi.opBody f)).1, 0) := by unfold dcM; rw [if_neg (by simp [hcf]), if_neg (by simp [hop]), if_neg (by simp [hrd]), if_neg (by simp [hck])]
  go_upto_region 12 with fail
  refine wp_region_lit ?_
  refine vt ((rdM (Wi.opBody f)).1.m.val (.slice sa (rdM (Wi.opBody f)).1.L.length sc) (.slice ta (rdM (Wi.opBody f)).1.D.length tc)) (ex_ld rfl (ev s8 rfl) (MM7.ldAll)) hz (fun Ybc zz kk s39 => ?_)
  replace s4 := ku s4
  replace hz := zz
  clear kk zz s8
  refine vs (sets w7 (w.heap.size + 1) 0 ((rdM (Wi.opBody f)).1.m.cs (.slice sa (rdM (Wi.opBody f)).1.L.length sc) (.slice ta (rdM (Wi.opBody f)).1.D.length tc))) (want_none rfl) (ex_st rfl (ev s4 rfl) (ev s39 rfl) (stM M7 (rdM (Wi.opBody f)).1.m (.slice sa (rdM (Wi.opBody f)).1.L.length sc) (.slice ta (rdM (Wi.opBody f)).1.D.length tc) rfl rfl)) rfl ?_
  have SP := M7.putU (rdM (Wi.opBody f)).1.m (.slice sa (rdM (Wi.opBody f)).1.L.length sc) (.slice ta (rdM (Wi.opBody f)).1.D.length tc)
  obtain ⟨we, hwe⟩ : ∃ y, y = sets w7 (w.heap.size + 1) 0 ((rdM (Wi.opBody f)).1.m.cs (.slice sa (rdM (Wi.opBody f)).1.L.length sc) (.slice ta (rdM (Wi.opBody f)).1.D.length tc)) := ⟨_, rfl⟩
  rw [← hwe] at SP ⊢
  clear hwe
  refine vt (.int .i64 0) (ex_assign rfl rfl) hz (fun Ybd zz kk s5 => ?_)
  replace s4 := ku s4
  replace hz := zz
  clear kk zz s39 Ybc
  refine wpList_nil ?_
  have hfin : Below w.heap.size w we := hB7.trans (SP.2.below (by omega) (by omega))
  have hlow : w.heap.size ≤ w3.heap.size := hB3.size
  have OLe := ((OL7.far SP.2 (fun k hk => by omega)).low hlow)
  have ODe := ((OD7.far SP.2 (fun k hk => by omega)).low hlow)
  go_wp2
  refine bodyPost_msg rfl s4 s5 SP.1 ?_
  rw [VV]
  exact ⟨_, _, rfl, OLe, ODe, hfin⟩
def QD (N : Nat) (w : World) (b : Nat) (l : List Int) (s : Nat × Int) : Prop := ∃ a n c, Wi.QSt w b a n c s.1 s.2 ∧ Wi.Hs w a n c l ∧ n ≤ 9223372036854775807 ∧ b < N ∧ N ≤ w.heap.size ∧ ∀ x, a = some x → 0 < l.length → ∃ g o, x = ⟨g, o, none⟩ ∧ g < N ∧ g ≠ b
theorem QD.lt {N : Nat} {w : World} {b : Nat} {l : List Int} {s : Nat × Int} (h : QD N w b l s) : b < N ∧ N ≤ w.heap.size := by
  obtain ⟨a, n, c, _, _, _, h1, h2, _⟩ := h
  exact ⟨h1, h2⟩
theorem hs_far {w w' : World} {a : Option Addr} {n c : Nat} {l : List Int} (h : Wi.Hs w a n c l) (hx : ∀ x, a = some x → 0 < l.length → ∃ g o, x = ⟨g, o, none⟩ ∧ ∀ i, w'.cell? ⟨g, i, none⟩ = w.cell? ⟨g, i, none⟩) : Wi.Hs w' a n c l := by
  refine ⟨h.len, h.cap, fun x hx2 i hi => ?_, h.nil, h.byte⟩
  obtain ⟨g, o, rfl, hc⟩ := hx x hx2 (by omega)
  have hr := h.row _ hx2 i hi
  rw [Addr.add_lit] at hr ⊢
  rw [hc]
  exact hr
theorem QD.ub {N : Nat} {w w' : World} {b : Nat} {l : List Int} {s : Nat × Int} {S : Nat → Prop} (h : QD N w b l s) (u : Upd S w w') (hS : ∀ k, k < N → ¬ S k) : QD N w' b l s := by
  obtain ⟨a, n, c, q, hh, hn, h1, h2, h3⟩ := h
  have hb := hS b h1
  refine ⟨a, n, c, ⟨Nat.lt_of_lt_of_le q.lt u.size, (u.cell (p := ⟨b, 0, none⟩) q.lt hb).trans q.c0, (u.cell (p := ⟨b, 1, none⟩) q.lt hb).trans q.c1, (u.cell (p := ⟨b, 2, none⟩) q.lt hb).trans q.c2, (u.frozen (p := ⟨b, 1, none⟩) q.lt hb).trans q.f1, (u.frozen (p := ⟨b, 2, none⟩) q.lt hb).trans q.f2, q.le⟩, hs_far hh (fun x hx hl => ?_), hn, h1, Nat.le_trans h2 u.size, h3⟩
  obtain ⟨g, o, rfl, hg, _⟩ := h3 x hx hl
  exact ⟨g, o, rfl, fun i => u.cell (p := ⟨g, i, none⟩) (Nat.lt_of_lt_of_le hg h2) (hS g hg)⟩
theorem QD.later {N : Nat} {w w' : World} {b : Nat} {l : List Int} {s : Nat × Int} (h : QD N w b l s) (hb : Below w.heap.size w w') : QD N w' b l s := h.ub (S := fun _ => False) (Upd.of_below hb) (fun _ _ => id)
theorem QD.step {N : Nat} {w w' : World} {b : Nat} {l : List Int} {a : Option Addr} {n c : Nat} {s' : Nat × Int} (q : Wi.QSt w' b a n c s'.1 s'.2) (o : Wi.Only b w w') (hh : Wi.Hs w a n c l) (hn : n ≤ 9223372036854775807) (h1 : b < N) (h2 : N ≤ w.heap.size) (h3 : ∀ x, a = some x → 0 < l.length → ∃ g o, x = ⟨g, o, none⟩ ∧ g < N ∧ g ≠ b) : QD N w' b l s' :=
  ⟨a, n, c, q, hs_far hh (fun x hx hl => by obtain ⟨g, o2, rfl, _, hne⟩ := h3 x hx hl; exact ⟨g, o2, rfl, fun i => o.cell (p := ⟨g, i, none⟩) hne⟩), hn, h1, by rw [o.same]; exact h2, h3⟩
theorem QD.keep {N : Nat} {w : World} {b : Nat} {l : List Int} {a : Option Addr} {n c : Nat} (hh : Wi.Hs w a n c l) (h3 : ∀ x, a = some x → 0 < l.length → ∃ g o, x = ⟨g, o, none⟩ ∧ g < N ∧ g ≠ b) (w' : World) (o : Wi.Only b w w') : Wi.Hs w' a n c l :=
  hs_far hh (fun x hx hl => by obtain ⟨g, o2, rfl, _, hne⟩ := h3 x hx hl; exact ⟨g, o2, rfl, fun i => o.cell (p := ⟨g, i, none⟩) hne⟩)
theorem qd_N (N : Nat) (b : Nat) (l : List Int) (s : Nat × Int) (w : World) (h : QD N w b l s) : Calls Tryz.prog 103 #[.pointer (some ⟨b, 0, none⟩)] w fun e w' => e = .returned (.int .u64 (rN l s : Int)) ∧ QD N w' b l (sN l s) ∧ UB b w w' := by
  obtain ⟨a, n, c, q, hh, hn, h1, h2, h3⟩ := h
  exact (Wi.qu_number b a n c l s.1 s.2 w q (QD.keep hh h3) hn).mono (fun e w' ⟨k1, k2, k3⟩ => ⟨k1, QD.step (s' := sN l s) k2 k3 hh hn h1 h2 h3, UB.of_only k3⟩)
theorem qd_I (N : Nat) (b : Nat) (m : Int) (hm : m ≤ 9223372036854775807) (l : List Int) (s : Nat × Int) (w : World) (h : QD N w b l s) : Calls Tryz.prog 54 #[.pointer (some ⟨b, 0, none⟩), .int .i64 m] w fun e w' => e = .returned (.int .i64 (rI m l s : Int)) ∧ QD N w' b l (sI m l s) ∧ UB b w w' := by
  obtain ⟨a, n, c, q, hh, hn, h1, h2, h3⟩ := h
  exact (Wi.qu_int b a n c l s.1 s.2 m hm w q (QD.keep hh h3) hn).mono (fun e w' ⟨k1, k2, k3⟩ => ⟨k1, QD.step (s' := sI m l s) k2 k3 hh hn h1 h2 h3, UB.of_only k3⟩)
theorem qd_T (N : Nat) (b : Nat) (l : List Int) (s : Nat × Int) (w : World) (h : QD N w b l s) : Calls Tryz.prog 57 #[.pointer (some ⟨b, 0, none⟩), .int .i64 64] w fun e w' => e = .returned (.string (rT l s)) ∧ QD N w' b l (sT l s) ∧ UB b w w' := by
  obtain ⟨a, n, c, q, hh, hn, h1, h2, h3⟩ := h
  exact (Wi.qu_text b a n c l s.1 s.2 64 (by decide) w q (QD.keep hh h3) hn).mono (fun e w' ⟨k1, k2, k3⟩ => ⟨k1, QD.step (s' := sT l s) k2 k3 hh hn h1 h2 h3, UB.of_only k3⟩)
theorem Bx.put1 {w : World} {q : Nat} {cs : List Value} (h : Bx w q cs) (i : Nat) (v : Value) (cs' : List Value) (hi : i < cs.length) (hc : cs' = cs.set i v) : Bx (sets w q i [v]) q cs' ∧ UB q w (sets w q i [v]) := by
  refine ⟨⟨by rw [size_sets]; exact h.lt, fun j x hx => ?_, fun j => sets_free _ _ _ (h.free j)⟩, upd_sets (S := fun b => b = q) (b := q) rfl _ _ _ (Upd.refl _ _)⟩
  rw [hc] at hx
  by_cases e : i = j
  · subst e
    rw [List.getElem?_set_self hi] at hx
    have := sets_at (b := q) [v] i w (fun k hk => ⟨_, by obtain rfl : k = 0 := by simpa using hk
                                                         rw [Nat.add_zero]; exact h.cell i _ (List.getElem?_eq_getElem hi)⟩) 0 v rfl
    rw [Nat.add_zero] at this
    rw [this]
    exact hx
  · rw [List.getElem?_set_ne e] at hx
    rw [← setCells_sets, World.cell?_setCells_out _ _ _ _ _ (fun _ _ => by show j < i ∨ i + 1 ≤ j; omega)]
    exact h.cell j x hx
theorem stStr {w : World} {q o : Nat} {y : Value} (x : ByteArray) (h : w.cell? ⟨q, o, none⟩ = some y) (hf : w.frozen? ⟨q, o, none⟩ = false) : (Instr.storeAt 9 (.pointer (some ⟨q, o, none⟩)) (.string x)).run Tryz.prog w = .ok () (sets w q o [.string x]) := by
  show _ = Result.ok () (w.setCell ⟨q, o, none⟩ (.string x))
  go_simp
theorem ldEn5 {w : World} {q : Nat} {a b c d : Int} {v : ByteArray} (h0 : w.cell? ⟨q, 0, none⟩ = some (.int .i64 a)) (h1 : w.cell? ⟨q, 1, none⟩ = some (.int .i64 b)) (h2 : w.cell? ⟨q, 2, none⟩ = some (.int .i64 c)) (h3 : w.cell? ⟨q, 3, none⟩ = some (.int .i64 d)) (h4 : w.cell? ⟨q, 4, none⟩ = some (.string v)) : (Instr.loadAt 28 (.pointer (some ⟨q, 0, none⟩))).run Tryz.prog w = .ok (.agg #[.int .i64 a, .int .i64 b, .int .i64 c, .int .i64 d, .string v]) w := by go_simp
set_option maxHeartbeats 2000000 in
theorem qdraw_any (N b : Nat) (l : List Int) (s : Nat × Int) (w : World) (h : QD N w b l s) : Calls Tryz.prog 55 #[.pointer (some ⟨b, 0, none⟩)] w fun e w' => e = .returned (.agg #[.int .u64 (rN l s : Int), .int .u64 (rN l (sN l s) : Int)]) ∧ QD N w' b l (sD l s) ∧ UB b w w' := by
  have hlt := h.lt
  have hqb : w.heap.size ≠ b := by omega
  go_enter Tryz.func55, Tryz.ntmps55
  go_upto_region 1 with fail
  obtain ⟨w1, hw1⟩ : ∃ w1, w1 = w.alloc (.cells #[.int .u64 0, .int .u64 0] 33) := ⟨_, rfl⟩
  rw [← hw1]
  have hb01 : Below w.heap.size w w1 := by rw [hw1]; exact (Below.refl _ _).alloc (Nat.le_refl _) _
  have B_0 : Bx w1 w.heap.size [.int .u64 0, .int .u64 0] := by rw [hw1]; exact Bx.new w [.int .u64 0, .int .u64 0] _
  have hR1 := h.later hb01
  have hv0 : UB b w w1 := UB.of_below hb01
  clear hw1
  refine wp_region_lit ?_
  refine vl_gen (fun T => T.size = 12 ∧ T[0]? = some (gw true (.pointer (some ⟨b, 0, none⟩))) ∧ T[2]? = some (gw true (.pointer (some ⟨w.heap.size, 0, none⟩)))) ⟨rfl, rfl, rfl⟩ (fun T0 ⟨hz, s0, s2⟩ => ?_)
  refine vt _ (ex_move rfl (ev s0 rfl)) hz (fun Ya zz kk s5 => ?_)
  replace s0 := ku s0
  replace s2 := ku s2
  replace hz := zz
  clear kk zz
  refine vcallP (want_none rfl) (ex_call rfl (by simp only [List.map_toArray, List.map_cons, List.map_nil, (ev s5 rfl), evc] <;> rfl) rfl) (qd_N N b l s w1 hR1) rfl hz (by decide) ?_
  rintro e v1 ⟨rfl, hR2, hu1⟩
  refine ⟨_, rfl, fun Yb zz kk s6 => ?_⟩
  have B_1 := B_0.ub hu1 hqb
  have hv1 := hv0.trans hu1
  clear hu1
  replace s0 := ku s0
  replace s2 := ku s2
  replace hz := zz
  clear kk zz s5 Ya
  refine vt _ (ex_assign rfl (ev s6 rfl)) hz (fun Yc zz kk s3 => ?_)
  replace s0 := ku s0
  replace s2 := ku s2
  replace hz := zz
  clear kk zz s6 Yb
  refine wpList_nil ?_
  go_upto_region 2 with fail
  refine wp_region_lit ?_
  refine vt _ (ex_move rfl (ev s0 rfl)) hz (fun Yd zz kk s7 => ?_)
  replace s2 := ku s2
  replace s3 := ku s3
  replace hz := zz
  clear kk zz s0
  refine vcallP (want_none rfl) (ex_call rfl (by simp only [List.map_toArray, List.map_cons, List.map_nil, (ev s7 rfl), evc] <;> rfl) rfl) (qd_N N b l (sN l s) v1 hR2) rfl hz (by decide) ?_
  rintro e v2 ⟨rfl, hR3, hu2⟩
  refine ⟨_, rfl, fun Ye zz kk s8 => ?_⟩
  have B_2 := B_1.ub hu2 hqb
  have hv2 := hv1.trans hu2
  clear hu2
  replace s2 := ku s2
  replace s3 := ku s3
  replace hz := zz
  clear kk zz s7 Yd
  refine vt _ (ex_assign rfl (ev s8 rfl)) hz (fun Yf zz kk s4 => ?_)
  replace s2 := ku s2
  replace s3 := ku s3
  replace hz := zz
  clear kk zz s8 Ye
  refine wpList_nil ?_
  go_upto_region 3 with fail
  refine wp_region_lit ?_
  refine vt _ (ex_move rfl (ev s3 rfl)) hz (fun Yg zz kk s9 => ?_)
  replace s2 := ku s2
  replace s4 := ku s4
  replace hz := zz
  clear kk zz s3
  refine vt _ (ex_move rfl (ev s4 rfl)) hz (fun Yh zz kk s10 => ?_)
  replace s2 := ku s2
  replace s9 := ku s9
  replace hz := zz
  clear kk zz s4 Yg
  refine vt (.agg #[.int .u64 (rN l s : Int), .int .u64 (rN l (sN l s) : Int)]) (ex_buildP rfl (by simp only [List.map_toArray, List.map_cons, List.map_nil, (ev s9 rfl), (ev s10 rfl)] <;> rfl) (bdDr _ _ _)) hz (fun Yi zz kk s11 => ?_)
  replace s2 := ku s2
  replace hz := zz
  clear kk zz s9 s10 Yh
  refine vs (sets v2 w.heap.size 0 [.int .u64 (rN l s : Int), .int .u64 (rN l (sN l s) : Int)]) (want_none rfl) (ex_st rfl (ev s2 rfl) (ev s11 rfl) (B_2.st 33 [.int .u64 (rN l s : Int), .int .u64 (rN l (sN l s) : Int)] rfl (by kernel_rfl) (by kernel_rfl))) rfl ?_
  have BR := B_2.put [.int .u64 (rN l s : Int), .int .u64 (rN l (sN l s) : Int)] (Nat.le_refl _)
  refine wpList_nil ?_
  go_wp2
  exact BR.1.res rfl s2 Tryz.underlying33 rfl (by kernel_rfl) ⟨rfl, hR3.ub BR.2 (fun k hk => by omega), hv2.trans_new BR.2 (by have := hb01.size; omega)⟩
set_option maxHeartbeats 4000000 in
theorem qentry_any (N b : Nat) (op : Bool) (l : List Int) (s : Nat × Int) (w : World) (h : QD N w b l s) : Calls Tryz.prog 56 #[.pointer (some ⟨b, 0, none⟩), .bool op] w fun e w' => e = .returned (if op then .agg #[.int .i64 (rI mxI l s : Int), .int .i64 (rI mxI l (sI mxI l s) : Int), .int .i64 (rI mxI l (s2 l s) : Int), .int .i64 (rI mxI l (sI mxI l (s2 l s)) : Int), .string (rT l (s2 l (s2 l s)))] else .agg #[.int .i64 (rI mxI l s : Int), .int .i64 (rI mxI l (sI mxI l s) : Int), .int .i64 0, .int .i64 0, .string ⟨#[]⟩]) ∧ QD N w' b l (if op then sE l s else s2 l s) ∧ UB b w w' := by
  have hlt := h.lt
  have hq4 : w.heap.size ≠ b := by omega
  have hq5 : w.heap.size + 1 ≠ b := by omega
  go_enter Tryz.func56, Tryz.ntmps56
  go_upto_region 2 with fail
  obtain ⟨w1, hw1⟩ : ∃ w1, w1 = (w.alloc (.cells #[.int .i64 0, .int .i64 0, .int .i64 0, .int .i64 0, .string ⟨#[]⟩] 28)).alloc (.cells #[.int .i64 0, .int .i64 0, .int .i64 0, .int .i64 0, .string ⟨#[]⟩] 28) := ⟨_, rfl⟩
  rw [← hw1]
  have hb01 : Below w.heap.size w w1 := by rw [hw1]; exact ((Below.refl _ _).alloc (Nat.le_refl _) _).alloc (by simp) _
  have hsz1 := hb01.size
  have Ya : Bx w1 w.heap.size [.int .i64 0, .int .i64 0, .int .i64 0, .int .i64 0, .string ⟨#[]⟩] := by rw [hw1]; exact (Bx.new w [.int .i64 0, .int .i64 0, .int .i64 0, .int .i64 0, .string ⟨#[]⟩] _).later ((Below.refl _ _).alloc (Nat.le_refl _) _)
  have Yb : Bx w1 (w.heap.size + 1) [.int .i64 0, .int .i64 0, .int .i64 0, .int .i64 0, .string ⟨#[]⟩] := by rw [hw1]; have := Bx.new (w.alloc (.cells #[.int .i64 0, .int .i64 0, .int .i64 0, .int .i64 0, .string ⟨#[]⟩] 28)) [.int .i64 0, .int .i64 0, .int .i64 0, .int .i64 0, .string ⟨#[]⟩] 28; simpa using this
  have hR1 := h.later hb01
  have hv0 : UB b w w1 := UB.of_below hb01
  clear hw1
  refine wp_region_lit ?_
  refine vl_gen (fun T => T.size = 26 ∧ T[0]? = some (gw true (.pointer (some ⟨b, 0, none⟩))) ∧ T[1]? = some (gw true (.bool op)) ∧ T[4]? = some (gw true (.pointer (some ⟨w.heap.size, 0, none⟩))) ∧ T[5]? = some (gw true (.pointer (some ⟨w.heap.size + 1, 0, none⟩)))) ⟨rfl, rfl, rfl, rfl, rfl⟩ (fun T0 ⟨hz, s0, s1, s4, s5⟩ => ?_)
  refine vt _ (ex_move rfl (ev s0 rfl)) hz (fun Yc zz kk s6 => ?_)
  replace s0 := ku s0
  replace s1 := ku s1
  replace s4 := ku s4
  replace s5 := ku s5
  replace hz := zz
  clear kk zz
  refine vcallP (want_none rfl) (ex_call rfl (by simp only [List.map_toArray, List.map_cons, List.map_nil, (ev s6 rfl), evc] <;> rfl) rfl) (qd_I N b mxI (Int.le_refl _) l s w1 hR1) rfl hz (by decide) ?_
  rintro e u1 ⟨rfl, hR1c, hu1⟩
  refine ⟨_, rfl, fun Yd zz kk s7 => ?_⟩
  have B4_1c := Ya.ub hu1 hq4
  have B5_1c := Yb.ub hu1 hq5
  have hv1c := hv0.trans hu1
  have hz1 : w1.heap.size ≤ u1.heap.size := hu1.size
  clear hu1
  replace s0 := ku s0
  replace s1 := ku s1
  replace s4 := ku s4
  replace s5 := ku s5
  replace hz := zz
  clear kk zz s6 Yc
  refine vt (.pointer (some ⟨w.heap.size + 1, 0, none⟩)) (ex_fa rfl (ev s5 rfl) (by go_simp)) hz (fun Ye zz kk s8 => ?_)
  replace s0 := ku s0
  replace s1 := ku s1
  replace s4 := ku s4
  replace s5 := ku s5
  replace s7 := ku s7
  replace hz := zz
  clear kk zz Yd
  refine vs (sets u1 (w.heap.size + 1) 0 [.int .i64 (rI mxI l s : Int)]) (want_none rfl) (ex_st rfl (ev s8 rfl) (ev s7 rfl) (stInt (rI mxI l s : Int) (B5_1c.cell 0 _ rfl) (B5_1c.free 0))) rfl ?_
  have SP := B5_1c.put1 0 (.int .i64 (rI mxI l s : Int)) [.int .i64 (rI mxI l s : Int), .int .i64 0, .int .i64 0, .int .i64 0, .string ⟨#[]⟩] (by simp) rfl
  obtain ⟨v1, hw1⟩ : ∃ y, y = sets u1 (w.heap.size + 1) 0 [.int .i64 (rI mxI l s : Int)] := ⟨_, rfl⟩
  rw [← hw1] at SP ⊢
  clear hw1
  have Yf := SP.1
  have Yg := B4_1c.ub SP.2 (by omega)
  have hR2 := hR1c.ub SP.2 (fun k hk => by omega)
  have hv1 := hv1c.trans_new SP.2 (by omega)
  clear SP hR1c hv1c B4_1c B5_1c
  refine wpList_nil ?_
  go_upto_region 3 with fail
  refine wp_region_lit ?_
  refine vt _ (ex_move rfl (ev s0 rfl)) hz (fun Yh zz kk s9 => ?_)
  replace s0 := ku s0
  replace s1 := ku s1
  replace s4 := ku s4
  replace s5 := ku s5
  replace hz := zz
  clear kk zz s7 s8
  refine vcallP (want_none rfl) (ex_call rfl (by simp only [List.map_toArray, List.map_cons, List.map_nil, (ev s9 rfl), evc] <;> rfl) rfl) (qd_I N b mxI (Int.le_refl _) l (sI mxI l s) v1 hR2) rfl hz (by decide) ?_
  rintro e u2 ⟨rfl, hR2c, hu2⟩
  refine ⟨_, rfl, fun Yi zz kk s10 => ?_⟩
  have B4_2c := Yg.ub hu2 hq4
  have B5_2c := Yf.ub hu2 hq5
  have hv2c := hv1.trans hu2
  have hz2 : v1.heap.size ≤ u2.heap.size := hu2.size
  clear hu2
  replace s0 := ku s0
  replace s1 := ku s1
  replace s4 := ku s4
  replace s5 := ku s5
  replace hz := zz
  clear kk zz s9 Yh
  refine vt (.pointer (some ⟨w.heap.size + 1, 1, none⟩)) (ex_fa rfl (ev s5 rfl) (by go_simp)) hz (fun Yj zz kk s11 => ?_)
  replace s0 := ku s0
  replace s1 := ku s1
  replace s4 := ku s4
  replace s5 := ku s5
  replace s10 := ku s10
  replace hz := zz
  clear kk zz Yi
  refine vs (sets u2 (w.heap.size + 1) 1 [.int .i64 (rI mxI l (sI mxI l s) : Int)]) (want_none rfl) (ex_st rfl (ev s11 rfl) (ev s10 rfl) (stInt (rI mxI l (sI mxI l s) : Int) (B5_2c.cell 1 _ rfl) (B5_2c.free 1))) rfl ?_
  have SP := B5_2c.put1 1 (.int .i64 (rI mxI l (sI mxI l s) : Int)) [.int .i64 (rI mxI l s : Int), .int .i64 (rI mxI l (sI mxI l s) : Int), .int .i64 0, .int .i64 0, .string ⟨#[]⟩] (by simp) rfl
  obtain ⟨v2, hw2⟩ : ∃ y, y = sets u2 (w.heap.size + 1) 1 [.int .i64 (rI mxI l (sI mxI l s) : Int)] := ⟨_, rfl⟩
  rw [← hw2] at SP ⊢
  clear hw2
  have Yk := SP.1
  have Yl := B4_2c.ub SP.2 (by omega)
  have hR3 := hR2c.ub SP.2 (fun k hk => by omega)
  have hv2 := hv2c.trans_new SP.2 (by omega)
  clear SP hR2c hv2c B4_2c B5_2c
  refine wpList_nil ?_
  go_upto_region 4 with fail
  refine wp_region_lit ?_
  refine vt _ (ex_move rfl (ev s1 rfl)) hz (fun Ym zz kk s12 => ?_)
  replace s0 := ku s0
  replace s4 := ku s4
  replace s5 := ku s5
  replace hz := zz
  clear kk zz s1
  refine wpList_nil ?_
  go_upto_region 8 with fail
  cases op with
  | false =>
    refine wp_cond_false (ev s12 rfl) ?_
    clear s12 s0
    go_upto_region 8 with fail
    refine wp_region_lit ?_
    refine vt (.agg #[.int .i64 (rI mxI l s : Int), .int .i64 (rI mxI l (sI mxI l s) : Int), .int .i64 0, .int .i64 0, .string ⟨#[]⟩]) (ex_ld rfl (ev s5 rfl) (ldEn5 (Yk.cell 0 _ rfl) (Yk.cell 1 _ rfl) (Yk.cell 2 _ rfl) (Yk.cell 3 _ rfl) (Yk.cell 4 _ rfl))) hz (fun Yn zz kk s25 => ?_)
    replace s4 := ku s4
    replace hz := zz
    clear kk zz s5
    refine vs (sets v2 (w.heap.size) 0 [.int .i64 (rI mxI l s : Int), .int .i64 (rI mxI l (sI mxI l s) : Int), .int .i64 0, .int .i64 0, .string ⟨#[]⟩]) (want_none rfl) (ex_st rfl (ev s4 rfl) (ev s25 rfl) (Yl.st 28 [.int .i64 (rI mxI l s : Int), .int .i64 (rI mxI l (sI mxI l s) : Int), .int .i64 0, .int .i64 0, .string ⟨#[]⟩] rfl (by kernel_rfl) (by kernel_rfl))) rfl ?_
    have BR := Yl.put [.int .i64 (rI mxI l s : Int), .int .i64 (rI mxI l (sI mxI l s) : Int), .int .i64 0, .int .i64 0, .string ⟨#[]⟩] (Nat.le_refl _)
    refine wpList_nil ?_
    go_wp2
    exact BR.1.res rfl s4 Tryz.underlying28 rfl (by kernel_rfl) ⟨rfl, hR3.ub BR.2 (fun k hk => by omega), hv2.trans_new BR.2 (by omega)⟩
  | true =>
    refine wp_cond_true (ev s12 rfl) ?_
    clear s12
    go_upto_region 5 with fail
    refine wp_region_lit ?_
    refine vt _ (ex_move rfl (ev s0 rfl)) hz (fun Yo zz kk s13 => ?_)
    replace s0 := ku s0
    replace s4 := ku s4
    replace s5 := ku s5
    replace hz := zz
    clear kk zz
    refine vcallP (want_none rfl) (ex_call rfl (by simp only [List.map_toArray, List.map_cons, List.map_nil, (ev s13 rfl), evc] <;> rfl) rfl) (qd_I N b mxI (Int.le_refl _) l (s2 l s) v2 hR3) rfl hz (by decide) ?_
    rintro e u3 ⟨rfl, hR3c, hu3⟩
    refine ⟨_, rfl, fun Yp zz kk s14 => ?_⟩
    have B4_3c := Yl.ub hu3 hq4
    have B5_3c := Yk.ub hu3 hq5
    have hv3c := hv2.trans hu3
    have hz3 : v2.heap.size ≤ u3.heap.size := hu3.size
    clear hu3
    replace s0 := ku s0
    replace s4 := ku s4
    replace s5 := ku s5
    replace hz := zz
    clear kk zz s13 Yo
    refine vt (.pointer (some ⟨w.heap.size + 1, 2, none⟩)) (ex_fa rfl (ev s5 rfl) (by go_simp)) hz (fun Yq zz kk s15 => ?_)
    replace s0 := ku s0
    replace s4 := ku s4
    replace s5 := ku s5
    replace s14 := ku s14
    replace hz := zz
    clear kk zz Yp
    refine vt (.pointer (some ⟨w.heap.size + 1, 2, none⟩)) (ex_fa rfl (ev s15 rfl) (by go_simp)) hz (fun Yr zz kk s16 => ?_)
    replace s0 := ku s0
    replace s4 := ku s4
    replace s5 := ku s5
    replace s14 := ku s14
    replace hz := zz
    clear kk zz s15 Yq
    refine vs (sets u3 (w.heap.size + 1) 2 [.int .i64 (rI mxI l (s2 l s) : Int)]) (want_none rfl) (ex_st rfl (ev s16 rfl) (ev s14 rfl) (stInt (rI mxI l (s2 l s) : Int) (B5_3c.cell 2 _ rfl) (B5_3c.free 2))) rfl ?_
    have SP := B5_3c.put1 2 (.int .i64 (rI mxI l (s2 l s) : Int)) [.int .i64 (rI mxI l s : Int), .int .i64 (rI mxI l (sI mxI l s) : Int), .int .i64 (rI mxI l (s2 l s) : Int), .int .i64 0, .string ⟨#[]⟩] (by simp) rfl
    obtain ⟨v3, hw3⟩ : ∃ y, y = sets u3 (w.heap.size + 1) 2 [.int .i64 (rI mxI l (s2 l s) : Int)] := ⟨_, rfl⟩
    rw [← hw3] at SP ⊢
    clear hw3
    have Ys := SP.1
    have Yt := B4_3c.ub SP.2 (by omega)
    have hR4 := hR3c.ub SP.2 (fun k hk => by omega)
    have hv3 := hv3c.trans_new SP.2 (by omega)
    clear SP hR3c hv3c B4_3c B5_3c
    refine wpList_nil ?_
    go_upto_region 6 with fail
    refine wp_region_lit ?_
    refine vt _ (ex_move rfl (ev s0 rfl)) hz (fun Yu zz kk s17 => ?_)
    replace s0 := ku s0
    replace s4 := ku s4
    replace s5 := ku s5
    replace hz := zz
    clear kk zz
    refine vcallP (want_none rfl) (ex_call rfl (by simp only [List.map_toArray, List.map_cons, List.map_nil, (ev s17 rfl), evc] <;> rfl) rfl) (qd_I N b mxI (Int.le_refl _) l (sI mxI l (s2 l s)) v3 hR4) rfl hz (by decide) ?_
    rintro e u4 ⟨rfl, hR4c, hu4⟩
    refine ⟨_, rfl, fun Yv zz kk s18 => ?_⟩
    have B4_4c := Yt.ub hu4 hq4
    have B5_4c := Ys.ub hu4 hq5
    have hv4c := hv3.trans hu4
    have hz4 : v3.heap.size ≤ u4.heap.size := hu4.size
    clear hu4
    replace s0 := ku s0
    replace s4 := ku s4
    replace s5 := ku s5
    replace hz := zz
    clear kk zz s17 Yu
    refine vt (.pointer (some ⟨w.heap.size + 1, 2, none⟩)) (ex_fa rfl (ev s5 rfl) (by go_simp)) hz (fun Yw zz kk s19 => ?_)
    replace s0 := ku s0
    replace s4 := ku s4
    replace s5 := ku s5
    replace s18 := ku s18
    replace hz := zz
    clear kk zz Yv
    refine vt (.pointer (some ⟨w.heap.size + 1, 3, none⟩)) (ex_fa rfl (ev s19 rfl) (by go_simp)) hz (fun Yx zz kk s20 => ?_)
    replace s0 := ku s0
    replace s4 := ku s4
    replace s5 := ku s5
    replace s18 := ku s18
    replace hz := zz
    clear kk zz s19 Yw
    refine vs (sets u4 (w.heap.size + 1) 3 [.int .i64 (rI mxI l (sI mxI l (s2 l s)) : Int)]) (want_none rfl) (ex_st rfl (ev s20 rfl) (ev s18 rfl) (stInt (rI mxI l (sI mxI l (s2 l s)) : Int) (B5_4c.cell 3 _ rfl) (B5_4c.free 3))) rfl ?_
    have SP := B5_4c.put1 3 (.int .i64 (rI mxI l (sI mxI l (s2 l s)) : Int)) [.int .i64 (rI mxI l s : Int), .int .i64 (rI mxI l (sI mxI l s) : Int), .int .i64 (rI mxI l (s2 l s) : Int), .int .i64 (rI mxI l (sI mxI l (s2 l s)) : Int), .string ⟨#[]⟩] (by simp) rfl
    obtain ⟨v4, hw4⟩ : ∃ y, y = sets u4 (w.heap.size + 1) 3 [.int .i64 (rI mxI l (sI mxI l (s2 l s)) : Int)] := ⟨_, rfl⟩
    rw [← hw4] at SP ⊢
    clear hw4
    have Yy := SP.1
    have Yz := B4_4c.ub SP.2 (by omega)
    have hR5 := hR4c.ub SP.2 (fun k hk => by omega)
    have hv4 := hv4c.trans_new SP.2 (by omega)
    clear SP hR4c hv4c B4_4c B5_4c
    refine wpList_nil ?_
    go_upto_region 7 with fail
    refine wp_region_lit ?_
    refine vt _ (ex_move rfl (ev s0 rfl)) hz (fun Y0 zz kk s21 => ?_)
    replace s4 := ku s4
    replace s5 := ku s5
    replace hz := zz
    clear kk zz s0
    refine vcallP (want_none rfl) (ex_call rfl (by simp only [List.map_toArray, List.map_cons, List.map_nil, (ev s21 rfl), evc] <;> rfl) rfl) (qd_T N b l (s2 l (s2 l s)) v4 hR5) rfl hz (by decide) ?_
    rintro e u5 ⟨rfl, hR5c, hu5⟩
    refine ⟨_, rfl, fun Y1 zz kk s22 => ?_⟩
    have B4_5c := Yz.ub hu5 hq4
    have B5_5c := Yy.ub hu5 hq5
    have hv5c := hv4.trans hu5
    have hz5 : v4.heap.size ≤ u5.heap.size := hu5.size
    clear hu5
    replace s4 := ku s4
    replace s5 := ku s5
    replace hz := zz
    clear kk zz s21 Y0
    refine vt (.pointer (some ⟨w.heap.size + 1, 2, none⟩)) (ex_fa rfl (ev s5 rfl) (by go_simp)) hz (fun Y2 zz kk s23 => ?_)
    replace s4 := ku s4
    replace s5 := ku s5
    replace s22 := ku s22
    replace hz := zz
    clear kk zz Y1
    refine vt (.pointer (some ⟨w.heap.size + 1, 4, none⟩)) (ex_fa rfl (ev s23 rfl) (by go_simp)) hz (fun Y3 zz kk s24 => ?_)
    replace s4 := ku s4
    replace s5 := ku s5
    replace s22 := ku s22
    replace hz := zz
    clear kk zz s23 Y2
    refine vs (sets u5 (w.heap.size + 1) 4 [.string (rT l (s2 l (s2 l s)))]) (want_none rfl) (ex_st rfl (ev s24 rfl) (ev s22 rfl) (stStr (rT l (s2 l (s2 l s))) (B5_5c.cell 4 _ rfl) (B5_5c.free 4))) rfl ?_
    have SP := B5_5c.put1 4 (.string (rT l (s2 l (s2 l s)))) [.int .i64 (rI mxI l s : Int), .int .i64 (rI mxI l (sI mxI l s) : Int), .int .i64 (rI mxI l (s2 l s) : Int), .int .i64 (rI mxI l (sI mxI l (s2 l s)) : Int), .string (rT l (s2 l (s2 l s)))] (by simp) rfl
    obtain ⟨v5, hw5⟩ : ∃ y, y = sets u5 (w.heap.size + 1) 4 [.string (rT l (s2 l (s2 l s)))] := ⟨_, rfl⟩
    rw [← hw5] at SP ⊢
    clear hw5
    have Y4 := SP.1
    have Y5 := B4_5c.ub SP.2 (by omega)
    have hR6 := hR5c.ub SP.2 (fun k hk => by omega)
    have hv5 := hv5c.trans_new SP.2 (by omega)
    clear SP hR5c hv5c B4_5c B5_5c
    refine wpList_nil ?_
    go_upto_region 8 with fail
    refine wp_region_lit ?_
    refine vt (.agg #[.int .i64 (rI mxI l s : Int), .int .i64 (rI mxI l (sI mxI l s) : Int), .int .i64 (rI mxI l (s2 l s) : Int), .int .i64 (rI mxI l (sI mxI l (s2 l s)) : Int), .string (rT l (s2 l (s2 l s)))]) (ex_ld rfl (ev s5 rfl) (ldEn5 (Y4.cell 0 _ rfl) (Y4.cell 1 _ rfl) (Y4.cell 2 _ rfl) (Y4.cell 3 _ rfl) (Y4.cell 4 _ rfl))) hz (fun Yn zz kk s25 => ?_)
    replace s4 := ku s4
    replace hz := zz
    clear kk zz s5
    refine vs (sets v5 (w.heap.size) 0 [.int .i64 (rI mxI l s : Int), .int .i64 (rI mxI l (sI mxI l s) : Int), .int .i64 (rI mxI l (s2 l s) : Int), .int .i64 (rI mxI l (sI mxI l (s2 l s)) : Int), .string (rT l (s2 l (s2 l s)))]) (want_none rfl) (ex_st rfl (ev s4 rfl) (ev s25 rfl) (Y5.st 28 [.int .i64 (rI mxI l s : Int), .int .i64 (rI mxI l (sI mxI l s) : Int), .int .i64 (rI mxI l (s2 l s) : Int), .int .i64 (rI mxI l (sI mxI l (s2 l s)) : Int), .string (rT l (s2 l (s2 l s)))] rfl (by kernel_rfl) (by kernel_rfl))) rfl ?_
    have BR := Y5.put [.int .i64 (rI mxI l s : Int), .int .i64 (rI mxI l (sI mxI l s) : Int), .int .i64 (rI mxI l (s2 l s) : Int), .int .i64 (rI mxI l (sI mxI l (s2 l s)) : Int), .string (rT l (s2 l (s2 l s)))] (Nat.le_refl _)
    refine wpList_nil ?_
    go_wp2
    exact BR.1.res rfl s4 Tryz.underlying28 rfl (by kernel_rfl) ⟨rfl, hR6.ub BR.2 (fun k hk => by omega), hv5.trans_new BR.2 (by omega)⟩
def c3 : Cf := ⟨1, 4, 6, false⟩
def rq : Mg := ⟨1, 0, 0, ⟨1, 2, ⟨1, 7, ⟨#[97]⟩⟩⟩, (0, 0, ⟨#[]⟩), 0, 0, 0, (0, 0)⟩
def b13 : List Int := [1, 1, 1, 1, 1, 2, 1, 1, 1, 7, 1, 1, 97]
def cmB : Mg := ⟨5, 1, 0, ⟨0, 0, ⟨0, 0, ⟨#[]⟩⟩⟩, (0, 0, ⟨#[]⟩), 0, 0, 0, (0, 0)⟩
theorem ck_rq : ckM c3 rq [] [] = 0 := by decide
theorem mb_rq : mbBy rq [] [] 1 = b13 := by decide
theorem rd_b13 : rdM b13 = (⟨rq, [], [], (13, 0)⟩, 0) := by rfl
theorem ck_cm : ckM c3 cmB [] [(0, 0), (0, 0), (0, 0)] = 71 := by decide
theorem num7_any (x : Int) (w : World) : Calls Tryz.prog 8 #[.int .i64 x] w fun e w' => e = .returned (.int .i64 x) ∧ w' = w := by
  go_enter Tryz.func8, Tryz.ntmps8
  go_wp2
  go_ret
  exact ⟨rfl, rfl⟩
theorem three7_any (w : World) : Calls Tryz.prog 42 #[] w fun e w' => e = .returned c3.val ∧ Below w.heap.size w w' := by
  go_enter Tryz.func42, Tryz.ntmps42
  go_wp2
  exact bodyPost_ret (v := c3.val) (by simp [results, Tryz.results42, go_sem]; first | done | rfl) rfl ⟨rfl, (Below.refl _ _).alloc (Nat.le_refl _) _⟩
theorem bdEn3 (w : World) : (Instr.build 28 #[(0, .int .i64 1), (1, .int .i64 2), (2, .agg #[.int .i64 1, .int .i64 7, .string ⟨#[97]⟩])]).run Tryz.prog w = .ok (.agg #[.int .i64 1, .int .i64 2, .int .i64 1, .int .i64 7, .string ⟨#[97]⟩]) w := by go_simp
theorem bdRq (w : World) : (Instr.build 38 #[(0, .int .i64 1), (3, .agg #[.int .i64 1, .int .i64 2, .int .i64 1, .int .i64 7, .string ⟨#[97]⟩])]).run Tryz.prog w = .ok (rq.val nilS nilS) w := by
  go_simp
  first | done | rfl
theorem request7_any (w : World) : Calls Tryz.prog 43 #[] w fun e w' => e = .returned (rq.val nilS nilS) ∧ Below w.heap.size w w' := by
  go_enter Tryz.func43, Tryz.ntmps43
  go_upto_region 0 with fail
  refine wp_region_lit ?_
  refine vl_gen (fun T => T.size = 4) rfl (fun Z0 hz => ?_)
  obtain ⟨w1, hw1⟩ : ∃ w1, w1 = w.alloc (.cells (zG.cs nilS nilS).toArray 38) := ⟨_, rfl⟩
  have M1 : MBox w1 w.heap.size zG nilS nilS := by rw [hw1]; exact MBox.new0 w
  have hB1 : Below w.heap.size w w1 := by rw [hw1]; exact (Below.refl _ _).alloc (Nat.le_refl _) _
  refine vw (.pointer (some ⟨w.heap.size, 0, none⟩)) w1 (want_none rfl) (ex_al rfl (by rw [hw1]; exact alM _)) rfl hz (by decide) (fun Z1 zz kk s0 => ?_)
  clear kk hz hw1
  have hz := zz
  clear zz
  refine wpList_nil ?_
  go_upto_region 1 with fail
  refine wp_region_lit ?_
  refine vl true (.agg #[.int .i64 1, .int .i64 7, .string ⟨#[97]⟩]) (want_none rfl) (fun hc => ex_buildP rfl (by simp only [List.map_toArray, List.map_cons, List.map_nil] <;> rfl) (bdOp 1 7 ⟨#[97]⟩ _)) rfl hz (by decide) (fun Z2 zz kk s1 => ?_)
  replace s0 := ku s0
  clear kk hz
  have hz := zz
  clear zz
  refine vl true (.agg #[.int .i64 1, .int .i64 2, .int .i64 1, .int .i64 7, .string ⟨#[97]⟩]) (want_none rfl) (fun hc => ex_buildP rfl (by simp only [List.map_toArray, List.map_cons, List.map_nil, (ev s1 rfl)] <;> rfl) (bdEn3 _)) rfl hz (by decide) (fun Z3 zz kk s2 => ?_)
  replace s0 := ku s0
  clear kk hz s1
  have hz := zz
  clear zz
  refine vl true (rq.val nilS nilS) (want_none rfl) (fun hc => ex_buildP rfl (by simp only [List.map_toArray, List.map_cons, List.map_nil, (ev s2 rfl)] <;> rfl) (bdRq _)) rfl hz (by decide) (fun Z4 zz kk s3 => ?_)
  replace s0 := ku s0
  clear kk hz s2
  have hz := zz
  clear zz
  refine vs (sets w1 w.heap.size 0 (rq.cs nilS nilS)) (want_none rfl) (ex_st rfl (ev s0 rfl) (ev s3 rfl) (stM M1 rq nilS nilS rfl rfl)) rfl ?_
  have SP := M1.putU rq nilS nilS
  obtain ⟨we, hwe⟩ : ∃ y, y = sets w1 w.heap.size 0 (rq.cs nilS nilS) := ⟨_, rfl⟩
  rw [← hwe] at SP ⊢
  clear hwe
  have hfin : Below w.heap.size w we := hB1.trans (SP.2.below (by have := hB1.size; omega) (Nat.le_refl _))
  refine wpList_nil ?_
  go_wp2
  exact (Bx.mk SP.1.lt SP.1.cell SP.1.free).res rfl s0 Tryz.underlying38 rfl (by kernel_rfl) ⟨rfl, hfin⟩
theorem sl_nil {α : Type} (Y : Lay α) (w : World) : SlY Y w none 0 0 [] := ⟨rfl, Nat.le_refl _, by unfold maxLen; omega, fun _ => ⟨rfl, rfl⟩, fun x hx => .inl rfl⟩
theorem rq_fits : rq.e.fits := ⟨rfl, rfl, rfl, rfl, by show 1 ≤ maxLen; unfold maxLen; omega⟩
theorem b13_byte : ∀ z ∈ b13, 0 ≤ z ∧ z < 256 := by decide
theorem encode_rq (w : World) (hT : Tab w) : Calls Tryz.prog 16 #[c3.val, rq.val nilS nilS] w fun e w' => ∃ a n c, e = .returned (.tuple #[.slice a n c, .int .i64 0]) ∧ Wi.Hs w' a n c (M.frame b13) ∧ Below w.heap.size w w' := by
  refine (encode_any c3 rq none none 0 0 [] [] w hT (sl_nil _ _) (fun e he => by cases he) (sl_nil _ _) rq_fits (by unfold drF; decide) (fun d hd => by cases hd)).mono ?_
  rintro e w' ⟨v, rfl, O, hb⟩
  have he : enB c3 rq [] [] = M.frame b13 := by
    unfold enB
    rw [if_pos ck_rq]
    exact congrArg M.frame mb_rq
  rw [he] at O
  obtain ⟨a, n, c, rfl, hs, _⟩ := O.hs (M.frame_byte _ b13_byte)
  exact ⟨a, n, c, by rw [ck_rq], hs, hb⟩
theorem decode_rq (a : Option Addr) (n c : Nat) (w : World) (hH : Wi.Hs w a n c (M.frame b13)) (hT : Tab w) : Calls Tryz.prog 19 #[c3.val, .slice a n c] w fun e w' => ∃ sa sc ta tc, e = .returned (.tuple #[rq.val (.slice sa 0 sc) (.slice ta 0 tc), .int .i64 0]) ∧ SlY yE w' sa 0 sc [] ∧ SlY yD w' ta 0 tc [] ∧ Below w.heap.size w w' := by
  have hl : (M.frame b13).length ≤ 100 := by rw [M.frame_length]; decide
  refine (decode_any c3 a n c (M.frame b13) w hH (by have := hH.len; omega) hT).mono ?_
  have he : dcM c3 (M.frame b13) = (⟨rq, [], [], (13, 0)⟩, 0) := by
    have h1 := Wi.frame_err b13 (by decide) b13_byte
    have h2 := Wi.frame_body b13 (by decide) b13_byte
    unfold dcM
    rw [h2, rd_b13]
    simp only [h1, ck_rq]
    rfl
  rw [he]
  rintro e w' ⟨s, t, rfl, O1, O2, hb⟩
  obtain ⟨sa, sc, rfl, _⟩ := O1.form
  obtain ⟨ta, tc, rfl, _⟩ := O2.form
  exact ⟨sa, sc, ta, tc, rfl, O1.sl' kE, O2.sl' kD, hb⟩
theorem check_cm (g : Nat) (w : World) (hT : Tab w) (h : SlY yD w (some ⟨g, 0, none⟩) 3 3 [(0, 0), (0, 0), (0, 0)]) : Calls Tryz.prog 9 #[c3.val, cmB.val nilS (.slice (some ⟨g, 0, none⟩) 3 3)] w fun e w' => e = .returned (.int .i64 71) ∧ Below w.heap.size w w' := by
  refine (checkM_any c3 cmB none (some ⟨g, 0, none⟩) 0 3 [] [(0, 0), (0, 0), (0, 0)] w hT (sl_nil _ _) (fun e he => by cases he) h ⟨rfl, rfl, rfl, rfl, by show 0 ≤ maxLen; omega⟩).mono ?_
  rw [ck_cm]
  exact fun e w' h => h
theorem same_rq (sa ta : Option Addr) (sc tc : Nat) (w : World) (h1 : SlY yE w sa 0 sc []) (h2 : SlY yD w ta 0 tc []) : Calls Tryz.prog 22 #[rq.val (.slice sa 0 sc) (.slice ta 0 tc), rq.val nilS nilS] w fun e w' => e = .returned (.bool true) ∧ Below w.heap.size w w' := by
  refine (samemsg_any rq rq sa ta none none 0 0 0 0 sc tc 0 0 [] [] [] [] w h1 h2 (sl_nil _ _) (sl_nil _ _)).mono ?_
  rw [(sameM_iff rq rq [] [] [] []).2 ⟨rfl, rfl, rfl⟩]
  exact fun e w' h => h
theorem v_cut {c : Code} {Q : Exit → Act → World → Prop} {T : Array Value} {w : World} (J : Array Value → World → Prop) (h : c.wp Tryz.prog (Exit.then (fun a w' => ∃ T', a = ⟨T', []⟩ ∧ J T' w') Q) ⟨T, []⟩ w) (hk : ∀ T' w', J T' w' → Q .normal ⟨T', []⟩ w') : c.wp Tryz.prog Q ⟨T, []⟩ w := by
  refine Code.wp_mono (fun e a' w' h => ?_) h
  cases e with
  | normal =>
    obtain ⟨T', rfl, hJ⟩ := h
    exact hk T' w' hJ
  | _ => exact h
theorem want_t {ops : Array Oper} {T : Array Value} {o : Oper} {k j : Nat} (hg : o.guard = some (k, true)) (hk : (ops[k]?).bind (·.dst) = some j) (hs : T[j]? = some (gw true (.bool true))) : Region.wanted o (yielded ops T) = true := want_g hg hk hs
theorem ex_andT {o : Oper} {T : Array Value} {df : List Deferred} {j x : Nat} {w : World} (ho : o.op = .pick (.tmp j) (.tmp x) (.const (.bool false))) (hj : T[j]? = some (gw true (.bool true))) (hy : T[x]? = some (gw true (.bool true))) : (execOp (⟨T, df⟩ : Act).eval o).run Tryz.prog w = .ok (.value (.bool true)) w := ex_and (c := true) (b := true) (z := true) ho hj hy rfl
theorem eq00 (x y : Operand) (w : World) : (do eqGuard .eql 3 x y (.int .i64 0) (.int .i64 0); binOp .eql 3 (.int .i64 0) (.int .i64 0) : Sem Value).run Tryz.prog w = .ok (.bool true) w := eqlC x y 0 0 w
theorem eq71 (x y : Operand) (w : World) : (do eqGuard .eql 3 x y (.int .i64 71) (.int .i64 71); binOp .eql 3 (.int .i64 71) (.int .i64 71) : Sem Value).run Tryz.prog w = .ok (.bool true) w := eqlC x y 71 71 w
theorem vh_val {ops : Array Oper} {o : Oper} {T : Array Value} {df : List Deferred} {w : World} {Q : Exit → Act → World → Prop} {S : World → Prop} {fuel d n : Nat} {listed : Array Bool} (i : Nat) (V : Value) (w' : World) (hi : ops[i]? = some o) (hr : Region.ready .any ops listed = [i])
    (hw : Region.wanted o (yielded ops T) = true) (he : (execOp (⟨T, df⟩ : Act).eval o).run Tryz.prog w = .ok (.value V) w') (hd : o.dst = some d) (hz : T.size = n) (hn : d < n) (hS : S w')
    (hk : ∀ T' : Array Value, T'.size = n → (∀ j, j ≠ d → T'[j]? = T[j]?) → T'[d]? = some (gw true V) → VH ops Q S fuel (listed.setIfInBounds i true) ⟨T', df⟩ w') : VH ops Q S (fuel + 1) listed ⟨T, df⟩ w := by
  refine ⟨wpAnyH_all hr (by simp) (fun j hj => ?_)⟩
  obtain rfl : j = i := by simpa using hj
  unfold wpOp
  rw [hi]
  simp only [hw, if_true]
  refine .inl ?_
  unfold Oper.wp
  rw [he, Oper.upon_value]
  refine ⟨hS, ?_⟩
  rw [hd]
  exact (hk (T.setIfInBounds d V) (by simp [hz]) (fun i hi => at_set_ne _ hi) (at_set _ (by omega))).out
theorem vh_two {ops : Array Oper} {o o2 : Oper} {T : Array Value} {df : List Deferred} {w : World} {Q : Exit → Act → World → Prop} {S : World → Prop} {fuel d d2 n : Nat} {listed : Array Bool} (i j : Nat) {fid : FuncId} {args : Array Value} {R : Ending → World → Prop} (hr : Region.ready .any ops listed = [i, j]) (hi : ops[i]? = some o) (hj : ops[j]? = some o2)
    (hw : Region.wanted o (yielded ops T) = true) (he : (execOp (⟨T, df⟩ : Act).eval o).run Tryz.prog w = .ok (.enter fid args) w) (hc : Calls Tryz.prog fid args w R) (hd : o.dst = some d) (hz : T.size = n) (hn : d < n)
    (hk : ∀ (e : Ending) (w' : World), R e w' → ∃ V, e = .returned V ∧ S w' ∧ ∀ T' : Array Value, T'.size = n → (∀ j, j ≠ d → T'[j]? = T[j]?) → T'[d]? = some (gw true V) → VH ops Q S fuel (listed.setIfInBounds i true) ⟨T', df⟩ w')
    (V : Value) (w2 : World) (hw2 : Region.wanted o2 (yielded ops T) = true) (he2 : (execOp (⟨T, df⟩ : Act).eval o2).run Tryz.prog w = .ok (.value V) w2) (hd2 : o2.dst = some d2) (hn2 : d2 < n) (hS2 : S w2)
    (hk2 : ∀ T' : Array Value, T'.size = n → (∀ j, j ≠ d2 → T'[j]? = T[j]?) → T'[d2]? = some (gw true V) → VH ops Q S fuel (listed.setIfInBounds j true) ⟨T', df⟩ w2) : VH ops Q S (fuel + 1) listed ⟨T, df⟩ w := by
  refine ⟨wpAnyH_all hr (by simp) (fun k hkm => ?_)⟩
  have hkm : k = i ∨ k = j := by simpa using hkm
  rcases hkm with rfl | rfl
  · unfold wpOp
    rw [hi]
    simp only [hw, if_true]
    refine .inl ?_
    unfold Oper.wp
    rw [he, Oper.upon_enter]
    refine hc.mono ?_
    intro e w' hR
    obtain ⟨V, rfl, hS, hk'⟩ := hk e w' hR
    refine ⟨hS, ?_⟩
    rw [hd]
    exact (hk' (T.setIfInBounds d V) (by simp [hz]) (fun i hi => at_set_ne _ hi) (at_set _ (by omega))).out
  · unfold wpOp
    rw [hj]
    simp only [hw2, if_true]
    refine .inl ?_
    unfold Oper.wp
    rw [he2, Oper.upon_value]
    refine ⟨hS2, ?_⟩
    rw [hd2]
    exact (hk2 (T.setIfInBounds d2 V) (by simp [hz]) (fun i hi => at_set_ne _ hi) (at_set _ (by omega))).out
theorem ex_mk {o : Oper} {ρ : Operand → Value} {s : TypeId} {x y : Operand} {X Y V : Value} {w w' : World} (ho : o.op = .makeSlice s x y) (hx : ρ x = X) (hy : ρ y = Y) (hr : (Instr.makeSlice s X Y).run Tryz.prog w = .ok V w') : (execOp ρ o).run Tryz.prog w = .ok (.value V) w' := by
  unfold execOp
  simp only [ho, hx, hy, Sem.run_bind, hr, Result.andThen_ok]
  rfl
def zV3 : Obj := .cells #[.int .u64 0, .int .u64 0, .int .u64 0, .int .u64 0, .int .u64 0, .int .u64 0] 33
theorem mk3 (w : World) : (Instr.makeSlice 36 (.int .i64 3) (.int .i64 3)).run Tryz.prog w = .ok (.slice (some ⟨w.heap.size, 0, none⟩) 3 3) (w.alloc zV3) := by
  have hinfo : (Tryz.prog.info? 33).map (fun i => (i.zero, i.size, i.bytes)) = some (some (.agg #[.int .u64 0, .int .u64 0]), 2, 16) := by kernel_rfl
  obtain ⟨i0, hi, hz0, hz1, hz2⟩ := info_parts hinfo
  have hr := run_make (P := Tryz.prog) w 36 33 i0 (.agg #[.int .u64 0, .int .u64 0]) Tryz.underlying36 hi hz0 .i64 .i64 3 3 (by omega) (Int.le_refl _) (by rw [hz2]; omega) (by omega)
  rw [hz1] at hr
  have hm : madeCells (Value.agg #[Value.int IntKind.u64 0, Value.int IntKind.u64 0]).cells (Int.toNat 3 * 2) = #[.int .u64 0, .int .u64 0, .int .u64 0, .int .u64 0, .int .u64 0, .int .u64 0] := by kernel_rfl
  rw [hm] at hr
  exact hr
theorem sl3 (w : World) : SlY yD (w.alloc zV3) (some ⟨w.heap.size, 0, none⟩) 3 3 [(0, 0), (0, 0), (0, 0)] := sl_lit kD w [(0, 0), (0, 0), (0, 0)] 33 (by unfold maxLen; decide)
theorem bdCm (g : Nat) (w : World) : (Instr.build 38 #[(0, .int .i64 5), (1, .int .i64 1), (10, .slice (some ⟨g, 0, none⟩) 3 3)]).run Tryz.prog w = .ok (cmB.val nilS (.slice (some ⟨g, 0, none⟩) 3 3)) w := by
  go_simp
  first | done | rfl
theorem bslice13 (W : World) : (Instr.buildSlice 55 13 #[(0, .int .u8 1), (1, .int .u8 1), (2, .int .u8 1), (3, .int .u8 1), (4, .int .u8 1), (5, .int .u8 2), (6, .int .u8 1), (7, .int .u8 1), (8, .int .u8 1), (9, .int .u8 7), (10, .int .u8 1), (11, .int .u8 1), (12, .int .u8 97)]).run Tryz.prog W = .ok (.slice (some ⟨W.heap.size, 0, none⟩) 13 13) (W.alloc (.cells (b13.map (Value.int .u8)).toArray 5)) := by
  go_simp
  first | done | rfl
theorem hs13 (W : World) : Wi.Hs (W.alloc (.cells (b13.map (Value.int .u8)).toArray 5)) (some ⟨W.heap.size, 0, none⟩) 13 13 b13 :=
  ⟨rfl, by decide, fun x hx i hi => by
    obtain rfl := (Option.some.inj hx)
    rw [Addr.add_lit, Nat.zero_add]
    refine cell_box _ _ _ _ _ ?_
    simp [List.getD_eq_getElem?_getD, List.getElem?_eq_getElem hi], (fun h => by cases h), b13_byte⟩
theorem same_fr (a a' : Option Addr) (n c n' c' : Nat) (w : World) (h : Wi.Hs w a n c (M.frame b13)) (h' : Wi.Hs w a' n' c' (M.frame b13)) : Calls Tryz.prog 18 #[.slice a n c, .slice a' n' c'] w fun e w' => e = .returned (.bool true) ∧ w' = w := by
  refine (Wi.same_any a a' n c n' c' _ _ w h h').mono ?_
  rintro e w' ⟨rfl, rfl⟩
  exact ⟨by rw [decide_eq_true rfl], rfl⟩
set_option maxHeartbeats 4000000 in
theorem alive7 (w : World) (hT : Tab w) : Calls Tryz.prog 15 #[] w fun e w' => e = .returned (.bool true) ∧ Below w.heap.size w w' := by
  go_enter Tryz.func15, Tryz.ntmps15
  go_upto_region 1 with fail
  refine wp_region_lit ?_
  refine vl_gen (fun T => T.size = 52) rfl (fun T0 hz => ?_)
  refine vcallP (want_none rfl) (ex_call (args := #[]) rfl (by simp) rfl) (three7_any w) rfl hz (by decide) ?_
  rintro e w1 ⟨rfl, hB1⟩
  refine ⟨_, rfl, fun Ya zz kk s9 => ?_⟩
  replace hz := zz
  clear kk zz
  refine vcallP (want_none rfl) (ex_call (args := #[]) rfl (by simp) rfl) (request7_any w1) rfl hz (by decide) ?_
  rintro e w2 ⟨rfl, hb2⟩
  refine ⟨_, rfl, fun Yb zz kk s10 => ?_⟩
  have hB2 := hB1.trans (hb2.mono hB1.size)
  clear hb2 hB1
  replace s9 := ku s9
  replace hz := zz
  clear kk zz Ya
  refine vcallP (want_none rfl) (ex_call rfl (by simp only [List.map_toArray, List.map_cons, List.map_nil, (ev s9 rfl), (ev s10 rfl), evc] <;> rfl) rfl) (encode_rq w2 (hT.later hB2 hT.lt)) rfl hz (by decide) ?_
  rintro e w3 ⟨af, nf, cf, rfl, hsF, hb3⟩
  refine ⟨_, rfl, fun Yc zz kk s11 => ?_⟩
  have hB3 := hB2.trans (hb3.mono hB2.size)
  clear hb3 hB2
  replace hz := zz
  clear kk zz s9 s10 Yb
  refine vt _ (ex_move rfl (ev s11 rfl)) hz (fun Yd zz kk s8 => ?_)
  replace hz := zz
  clear kk zz s11 Yc
  refine vt (.slice af nf cf) (ex_ext rfl (ev s8 rfl) rfl) hz (fun Ye zz kk s12 => ?_)
  replace s8 := ku s8
  replace hz := zz
  clear kk zz Yd
  refine vt (.int .i64 0) (ex_ext rfl (ev s8 rfl) rfl) hz (fun Yf zz kk s13 => ?_)
  replace s12 := ku s12
  replace hz := zz
  clear kk zz s8 Ye
  refine vt _ (ex_assign rfl (ev s12 rfl)) hz (fun Yg zz kk s1 => ?_)
  replace s13 := ku s13
  replace hz := zz
  clear kk zz s12 Yf
  refine vt _ (ex_assign rfl (ev s13 rfl)) hz (fun Yh zz kk s2 => ?_)
  replace s1 := ku s1
  replace hz := zz
  clear kk zz s13 Yg
  refine wpList_nil ?_
  go_upto_region 2 with fail
  refine wp_region_lit ?_
  obtain ⟨wb, hwb⟩ : ∃ y, y = w3.alloc (.cells (b13.map (Value.int .u8)).toArray 5) := ⟨_, rfl⟩
  have hbb : Below w3.heap.size w3 wb := by rw [hwb]; exact (Below.refl _ _).alloc (Nat.le_refl _) _
  have hSb : Wi.Hs wb (some ⟨w3.heap.size, 0, none⟩) 13 13 b13 := by rw [hwb]; exact hs13 _
  refine vw (.slice (some ⟨w3.heap.size, 0, none⟩) 13 13) wb (want_none rfl) (ex_bs rfl (by simp only [List.map_toArray, List.map_cons, List.map_nil] <;> rfl) (by rw [hwb]; exact bslice13 _)) rfl hz (by decide) (fun Yi zz kk s15 => ?_)
  replace s1 := ku s1
  replace s2 := ku s2
  replace hz := zz
  clear kk zz
  clear hwb
  refine vcallP (want_none rfl) (ex_call rfl (by simp only [List.map_toArray, List.map_cons, List.map_nil, (ev s15 rfl), evc] <;> rfl) rfl) (Wi.refseal_ok _ 13 13 b13 wb hSb (by decide)) rfl hz (by decide) ?_
  rintro e w4 ⟨vw_, rfl, Ow, _, hb4⟩; obtain ⟨aw, nw, cw, rfl, hsW, _⟩ := Ow.hs (M.frame_byte _ b13_byte)
  refine ⟨_, rfl, fun Yj zz kk s16 => ?_⟩
  have hsF4 := (hsF.later hbb).later hb4
  have hBb := hB3.trans (hbb.mono hB3.size)
  have hB4 := hBb.trans (hb4.mono hBb.size)
  clear hb4 hBb hbb hB3 hsF hSb Ow
  replace s1 := ku s1
  replace s2 := ku s2
  replace hz := zz
  clear kk zz s15 Yi
  refine vt _ (ex_move rfl (ev s16 rfl)) hz (fun Yk zz kk s14 => ?_)
  replace s1 := ku s1
  replace s2 := ku s2
  replace hz := zz
  clear kk zz s16 Yj
  refine vt (.slice aw nw cw) (ex_ext rfl (ev s14 rfl) rfl) hz (fun Yl zz kk s17 => ?_)
  replace s1 := ku s1
  replace s2 := ku s2
  replace s14 := ku s14
  replace hz := zz
  clear kk zz Yk
  refine vt (.int .i64 0) (ex_ext rfl (ev s14 rfl) rfl) hz (fun Ym zz kk s18 => ?_)
  replace s1 := ku s1
  replace s2 := ku s2
  replace s17 := ku s17
  replace hz := zz
  clear kk zz s14 Yl
  refine vt _ (ex_assign rfl (ev s17 rfl)) hz (fun Yn zz kk s3 => ?_)
  replace s1 := ku s1
  replace s2 := ku s2
  replace s18 := ku s18
  replace hz := zz
  clear kk zz s17 Ym
  refine vt _ (ex_assign rfl (ev s18 rfl)) hz (fun Yo zz kk s4 => ?_)
  replace s1 := ku s1
  replace s2 := ku s2
  replace s3 := ku s3
  replace hz := zz
  clear kk zz s18 Yn
  refine wpList_nil ?_
  clear s4
  go_upto_region 3 with fail
  refine wp_region_lit ?_
  refine vcallP (want_none rfl) (ex_call (args := #[]) rfl (by simp) rfl) (three7_any w4) rfl hz (by decide) ?_
  rintro e w5 ⟨rfl, hb5⟩
  refine ⟨_, rfl, fun Yp zz kk s20 => ?_⟩
  have hB5 := hB4.trans (hb5.mono hB4.size)
  have hsF5 := hsF4.later hb5
  have hsW5 := hsW.later hb5
  clear hb5 hB4 hsF4 hsW
  replace s1 := ku s1
  replace s2 := ku s2
  replace s3 := ku s3
  replace hz := zz
  clear kk zz
  refine vt _ (ex_move rfl (ev s3 rfl)) hz (fun Yq zz kk s21 => ?_)
  replace s1 := ku s1
  replace s2 := ku s2
  replace s3 := ku s3
  replace s20 := ku s20
  replace hz := zz
  clear kk zz Yp
  refine vcallP (want_none rfl) (ex_call rfl (by simp only [List.map_toArray, List.map_cons, List.map_nil, (ev s20 rfl), (ev s21 rfl), evc] <;> rfl) rfl) (decode_rq aw nw cw w5 hsW5 (hT.later hB5 hT.lt)) rfl hz (by decide) ?_
  rintro e w6 ⟨sa, sc, ta, tc, rfl, hsl1, hsl2, hb6⟩
  refine ⟨_, rfl, fun Yr zz kk s22 => ?_⟩
  have hB6 := hB5.trans (hb6.mono hB5.size)
  have hsF6 := hsF5.later hb6
  have hsW6 := hsW5.later hb6
  clear hb6 hB5 hsF5 hsW5
  obtain ⟨q, hq⟩ : ∃ q, q = w6.heap.size := ⟨_, rfl⟩
  obtain ⟨w7, hw7⟩ : ∃ y, y = w6.alloc (.cells (zG.cs nilS nilS).toArray 38) := ⟨_, rfl⟩
  have hb7 : Below w6.heap.size w6 w7 := by rw [hw7]; exact (Below.refl _ _).alloc (Nat.le_refl _) _
  have M7 : MBox w7 q zG nilS nilS := by rw [hw7, hq]; exact MBox.new0 w6
  replace s1 := ku s1
  replace s2 := ku s2
  replace s3 := ku s3
  replace hz := zz
  clear kk zz s20 s21 Yq
  refine vt _ (ex_move rfl (ev s22 rfl)) hz (fun Ys zz kk s19 => ?_)
  replace s1 := ku s1
  replace s2 := ku s2
  replace s3 := ku s3
  replace hz := zz
  clear kk zz s22 Yr
  refine vt (rq.val (.slice sa 0 sc) (.slice ta 0 tc)) (ex_ext rfl (ev s19 rfl) rfl) hz (fun Yt zz kk s23 => ?_)
  replace s1 := ku s1
  replace s2 := ku s2
  replace s3 := ku s3
  replace s19 := ku s19
  replace hz := zz
  clear kk zz Ys
  refine vt (.int .i64 0) (ex_ext rfl (ev s19 rfl) rfl) hz (fun Yu zz kk s24 => ?_)
  replace s1 := ku s1
  replace s2 := ku s2
  replace s3 := ku s3
  replace s23 := ku s23
  replace hz := zz
  clear kk zz s19 Yt
  refine vw (.pointer (some ⟨q, 0, none⟩)) w7 (want_none rfl) (ex_al rfl (by rw [hw7, hq]; exact alM _)) rfl hz (by decide) (fun Yv zz kk s5 => ?_)
  replace s1 := ku s1
  replace s2 := ku s2
  replace s3 := ku s3
  replace s23 := ku s23
  replace s24 := ku s24
  replace hz := zz
  clear kk zz Yu
  refine vs (sets w7 q 0 (rq.cs (.slice sa 0 sc) (.slice ta 0 tc))) (want_none rfl) (ex_st rfl (ev s5 rfl) (ev s23 rfl) (stM M7 rq (.slice sa 0 sc) (.slice ta 0 tc) rfl rfl)) rfl ?_
  have SP := M7.putU rq (.slice sa 0 sc) (.slice ta 0 tc)
  obtain ⟨w8, hw8⟩ : ∃ y, y = sets w7 q 0 (rq.cs (.slice sa 0 sc) (.slice ta 0 tc)) := ⟨_, rfl⟩
  rw [← hw8] at SP ⊢
  clear hw8 hw7
  have hb8 : Below w6.heap.size w6 w8 := hb7.trans (SP.2.below hb7.size (by omega))
  have hB8 := hB6.trans (hb8.mono hB6.size)
  have hsF8 := hsF6.later hb8
  have hsW8 := hsW6.later hb8
  have hl1 := hsl1.later hb8
  have hl2 := hsl2.later hb8
  have M8 := SP.1
  have hT8 := hT.later hB8 hT.lt
  clear SP hb8 hb7 M7 hB6 hsF6 hsW6 hsl1 hsl2
  refine vt _ (ex_assign rfl (ev s24 rfl)) hz (fun Yw zz kk s6 => ?_)
  replace s1 := ku s1
  replace s2 := ku s2
  replace s3 := ku s3
  replace s5 := ku s5
  replace hz := zz
  clear kk zz s23 s24 Yv
  refine wpList_nil ?_
  go_upto_region 4 with fail
  refine v_cut (fun T v => T.size = 52 ∧ T[1]? = some (gw true (.slice af nf cf)) ∧ T[2]? = some (gw true (.int .i64 0)) ∧ T[3]? = some (gw true (.slice aw nw cw)) ∧ T[5]? = some (gw true (.pointer (some ⟨q, 0, none⟩))) ∧ T[6]? = some (gw true (.int .i64 0)) ∧ T[7]? = some (gw true (.int .i64 71)) ∧ Below w8.heap.size w8 v) ?_ ?_
  rotate_left
  · rintro T4 w9 ⟨hz, s1, s2, s3, s5, s6, s7, hb9⟩
    have M9 := M8.bel hb9
    have hsF9 := hsF8.later hb9
    have hsW9 := hsW8.later hb9
    have k1 := hl1.later hb9
    have k2 := hl2.later hb9
    have hB9 := hB8.trans (hb9.mono hB8.size)
    clear hb9 hsF8 hsW8 hl1 hl2 hB8 hT8 M8
    go_upto_region 5 with fail
    refine vh_start (fun v => Below w9.heap.size w9 v) (by kernel_rfl) ?_
    have hS : Below w9.heap.size w9 w9.drew := (Below.refl _ _).drew
    refine vh_take 0 true (.int .i64 0) rfl (by kernel_rfl) (by kernel_rfl) (by kernel_rfl) (want_none rfl) (fun hc v hv => ex_move rfl (ev s2 rfl)) rfl hz (by decide) hS (fun Yx zz kk s29 => ?_)
    replace s1 := ku s1
    replace s3 := ku s3
    replace s5 := ku s5
    replace s6 := ku s6
    replace s7 := ku s7
    replace hz := zz
    clear kk zz s2
    refine vh_call 1 rfl (by kernel_rfl) (want_none rfl) (ex_call rfl (by simp only [List.map_toArray, List.map_cons, List.map_nil, (ev s29 rfl), evc] <;> rfl) rfl) (num7_any 0 _) rfl hz (by decide) ?_
    rintro e y1 ⟨rfl, rfl⟩
    refine ⟨_, rfl, hS, fun Yy zz kk s30 => ?_⟩
    replace s1 := ku s1
    replace s3 := ku s3
    replace s5 := ku s5
    replace s6 := ku s6
    replace s7 := ku s7
    replace hz := zz
    clear kk zz s29 Yx
    refine vh_take 2 true (.bool true) rfl (by kernel_rfl) (by kernel_rfl) (by kernel_rfl) (want_none rfl) (fun hc v hv => ex_bin rfl (ev s30 rfl) rfl (eq00 _ _ _)) rfl hz (by decide) hS (fun Yz zz kk s31 => ?_)
    replace s1 := ku s1
    replace s3 := ku s3
    replace s5 := ku s5
    replace s6 := ku s6
    replace s7 := ku s7
    replace hz := zz
    clear kk zz s30 Yy
    refine vh_take 3 true (.bool true) rfl (by kernel_rfl) (by kernel_rfl) (by kernel_rfl) (want_none rfl) (fun hc v hv => ex_move rfl (ev s31 rfl)) rfl hz (by decide) hS (fun Y0 zz kk s32 => ?_)
    replace s1 := ku s1
    replace s3 := ku s3
    replace s5 := ku s5
    replace s6 := ku s6
    replace s7 := ku s7
    replace hz := zz
    clear kk zz s31 Yz
    refine vh_take 4 true (.slice af nf cf) rfl (by kernel_rfl) (by kernel_rfl) (by kernel_rfl) (want_t rfl rfl s32) (fun hc v hv => ex_move rfl (ev s1 rfl)) rfl hz (by decide) hS (fun Y1 zz kk s33 => ?_)
    replace s3 := ku s3
    replace s5 := ku s5
    replace s6 := ku s6
    replace s7 := ku s7
    replace s32 := ku s32
    replace hz := zz
    clear kk zz s1 Y0
    refine vh_take 5 true (.slice aw nw cw) rfl (by kernel_rfl) (by kernel_rfl) (by kernel_rfl) (want_t rfl rfl s32) (fun hc v hv => ex_move rfl (ev s3 rfl)) rfl hz (by decide) hS (fun Y2 zz kk s34 => ?_)
    replace s5 := ku s5
    replace s6 := ku s6
    replace s7 := ku s7
    replace s32 := ku s32
    replace s33 := ku s33
    replace hz := zz
    clear kk zz s3 Y1
    refine vh_call 6 rfl (by kernel_rfl) (want_t rfl rfl s32) (ex_call rfl (by simp only [List.map_toArray, List.map_cons, List.map_nil, (ev s33 rfl), (ev s34 rfl), evc] <;> rfl) rfl) (same_fr af aw nf cf nw cw _ (hsF9.later hS) (hsW9.later hS)) rfl hz (by decide) ?_
    rintro e y2 ⟨rfl, rfl⟩
    refine ⟨_, rfl, hS, fun Y3 zz kk s35 => ?_⟩
    replace s5 := ku s5
    replace s6 := ku s6
    replace s7 := ku s7
    replace s32 := ku s32
    replace hz := zz
    clear kk zz s33 s34 Y2
    refine vh_take 7 true (.bool true) rfl (by kernel_rfl) (by kernel_rfl) (by kernel_rfl) (want_none rfl) (fun hc v hv => ex_andT rfl s32 s35) rfl hz (by decide) hS (fun Y4 zz kk s36 => ?_)
    replace s5 := ku s5
    replace s6 := ku s6
    replace s7 := ku s7
    replace hz := zz
    clear kk zz s32 s35 Y3
    refine vh_take 8 true (.bool true) rfl (by kernel_rfl) (by kernel_rfl) (by kernel_rfl) (want_none rfl) (fun hc v hv => ex_move rfl (ev s36 rfl)) rfl hz (by decide) hS (fun Y5 zz kk s37 => ?_)
    replace s5 := ku s5
    replace s6 := ku s6
    replace s7 := ku s7
    replace hz := zz
    clear kk zz s36 Y4
    refine vh_take 9 true (.int .i64 0) rfl (by kernel_rfl) (by kernel_rfl) (by kernel_rfl) (want_t rfl rfl s37) (fun hc v hv => ex_move rfl (ev s6 rfl)) rfl hz (by decide) hS (fun Y6 zz kk s38 => ?_)
    replace s5 := ku s5
    replace s7 := ku s7
    replace s37 := ku s37
    replace hz := zz
    clear kk zz s6 Y5
    refine vh_call 10 rfl (by kernel_rfl) (want_t rfl rfl s37) (ex_call rfl (by simp only [List.map_toArray, List.map_cons, List.map_nil, (ev s38 rfl), evc] <;> rfl) rfl) (num7_any 0 _) rfl hz (by decide) ?_
    rintro e y3 ⟨rfl, rfl⟩
    refine ⟨_, rfl, hS, fun Y7 zz kk s39 => ?_⟩
    replace s5 := ku s5
    replace s7 := ku s7
    replace s37 := ku s37
    replace hz := zz
    clear kk zz s38 Y6
    refine vh_take 11 true (.bool true) rfl (by kernel_rfl) (by kernel_rfl) (by kernel_rfl) (want_t rfl rfl s37) (fun hc v hv => ex_bin rfl (ev s39 rfl) rfl (eq00 _ _ _)) rfl hz (by decide) hS (fun Y8 zz kk s40 => ?_)
    replace s5 := ku s5
    replace s7 := ku s7
    replace s37 := ku s37
    replace hz := zz
    clear kk zz s39 Y7
    refine vh_take 12 true (.bool true) rfl (by kernel_rfl) (by kernel_rfl) (by kernel_rfl) (want_none rfl) (fun hc v hv => ex_andT rfl s37 s40) rfl hz (by decide) hS (fun Y9 zz kk s41 => ?_)
    replace s5 := ku s5
    replace s7 := ku s7
    replace hz := zz
    clear kk zz s37 s40 Y8
    refine vh_take 13 true (.bool true) rfl (by kernel_rfl) (by kernel_rfl) (by kernel_rfl) (want_none rfl) (fun hc v hv => ex_move rfl (ev s41 rfl)) rfl hz (by decide) hS (fun Yba zz kk s42 => ?_)
    replace s5 := ku s5
    replace s7 := ku s7
    replace hz := zz
    clear kk zz s41 Y9
    refine vh_take 14 true (rq.val (.slice sa 0 sc) (.slice ta 0 tc)) rfl (by kernel_rfl) (by kernel_rfl) (by kernel_rfl) (want_t rfl rfl s42) (fun hc v hv => ex_ld rfl (ev s5 rfl) ((M9.bel hv).ldAll)) rfl hz (by decide) hS (fun Ybb zz kk s43 => ?_)
    replace s7 := ku s7
    replace s42 := ku s42
    replace hz := zz
    clear kk zz s5 Yba
    refine vh_call 15 rfl (by kernel_rfl) (want_t rfl rfl s42) (ex_call (args := #[]) rfl (by simp) rfl) (request7_any _) rfl hz (by decide) ?_
    rintro e y4 ⟨rfl, hb4⟩
    refine ⟨_, rfl, (hS.trans (hb4.mono hS.size)), fun Ybc zz kk s44 => ?_⟩
    replace hS := hS.trans (hb4.mono hS.size)
    clear hb4
    replace s7 := ku s7
    replace s42 := ku s42
    replace s43 := ku s43
    replace hz := zz
    clear kk zz Ybb
    refine vh_call 16 rfl (by kernel_rfl) (want_t rfl rfl s42) (ex_call rfl (by simp only [List.map_toArray, List.map_cons, List.map_nil, (ev s43 rfl), (ev s44 rfl), evc] <;> rfl) rfl) (same_rq sa ta sc tc _ (k1.later hS) (k2.later hS)) rfl hz (by decide) ?_
    rintro e y5 ⟨rfl, hb5⟩
    refine ⟨_, rfl, (hS.trans (hb5.mono hS.size)), fun Ybd zz kk s45 => ?_⟩
    replace hS := hS.trans (hb5.mono hS.size)
    clear hb5
    replace s7 := ku s7
    replace s42 := ku s42
    replace hz := zz
    clear kk zz s43 s44 Ybc
    refine vh_take 17 true (.bool true) rfl (by kernel_rfl) (by kernel_rfl) (by kernel_rfl) (want_none rfl) (fun hc v hv => ex_andT rfl s42 s45) rfl hz (by decide) hS (fun Ybe zz kk s46 => ?_)
    replace s7 := ku s7
    replace hz := zz
    clear kk zz s42 s45 Ybd
    refine vh_take 18 true (.bool true) rfl (by kernel_rfl) (by kernel_rfl) (by kernel_rfl) (want_none rfl) (fun hc v hv => ex_move rfl (ev s46 rfl)) rfl hz (by decide) hS (fun Ybf zz kk s47 => ?_)
    replace s7 := ku s7
    replace hz := zz
    clear kk zz s46 Ybe
    refine vh_take 19 true (.int .i64 71) rfl (by kernel_rfl) (by kernel_rfl) (by kernel_rfl) (want_t rfl rfl s47) (fun hc v hv => ex_move rfl (ev s7 rfl)) rfl hz (by decide) hS (fun Ybg zz kk s48 => ?_)
    replace s47 := ku s47
    replace hz := zz
    clear kk zz s7 Ybf
    refine vh_call 20 rfl (by kernel_rfl) (want_t rfl rfl s47) (ex_call rfl (by simp only [List.map_toArray, List.map_cons, List.map_nil, (ev s48 rfl), evc] <;> rfl) rfl) (num7_any 71 _) rfl hz (by decide) ?_
    rintro e y6 ⟨rfl, rfl⟩
    refine ⟨_, rfl, hS, fun Ybh zz kk s49 => ?_⟩
    replace s47 := ku s47
    replace hz := zz
    clear kk zz s48 Ybg
    refine vh_take 21 true (.bool true) rfl (by kernel_rfl) (by kernel_rfl) (by kernel_rfl) (want_t rfl rfl s47) (fun hc v hv => ex_bin rfl (ev s49 rfl) rfl (eq71 _ _ _)) rfl hz (by decide) hS (fun Ybi zz kk s50 => ?_)
    replace s47 := ku s47
    replace hz := zz
    clear kk zz s49 Ybh
    refine vh_take 22 true (.bool true) rfl (by kernel_rfl) (by kernel_rfl) (by kernel_rfl) (want_none rfl) (fun hc v hv => ex_andT rfl s47 s50) rfl hz (by decide) hS (fun Ybj zz kk s51 => ?_)
    replace hz := zz
    clear kk zz s47 s50 Ybi
    refine vh_take 23 true (.bool true) rfl (by kernel_rfl) (by kernel_rfl) (by kernel_rfl) (want_none rfl) (fun hc v hv => ex_assign rfl (ev s51 rfl)) rfl hz (by decide) hS (fun Ybk zz kk s0 => ?_)
    replace hz := zz
    clear kk zz s51 Ybj
    refine vh_done (by kernel_rfl) ?_
    have hfin := hB9.trans (hS.mono hB9.size)
    go_wp2
    refine bodyPost_ret (results_tmp rfl _ _ _) rfl ⟨?_, hfin⟩
    rw [getD_of s0]
    rfl
  refine vh_start (fun v => Below w8.heap.size w8 v) (by kernel_rfl) ?_
  have hS : Below w8.heap.size w8 w8.drew := (Below.refl _ _).drew
  refine vh_two 0 1 (by kernel_rfl) rfl rfl (want_none rfl) (ex_call (args := #[]) rfl (by simp) rfl) (three7_any _) rfl hz (by decide) ?_ (.slice (some ⟨w8.drew.heap.size, 0, none⟩) 3 3) (w8.drew.alloc zV3) (want_none rfl) (ex_mk rfl rfl rfl (mk3 _)) rfl (by decide) (hS.alloc hS.size _) ?_
  · rintro e y1 ⟨rfl, hb1⟩
    refine ⟨_, rfl, hS.trans (hb1.mono hS.size), fun Ta zz kk s25 => ?_⟩
    replace hS := hS.trans (hb1.mono hS.size)
    replace s1 := ku s1
    replace s2 := ku s2
    replace s3 := ku s3
    replace s5 := ku s5
    replace s6 := ku s6
    replace hz := zz
    clear kk zz
    refine vh_val 1 (.slice (some ⟨y1.heap.size, 0, none⟩) 3 3) (y1.alloc zV3) rfl (by kernel_rfl) (want_none rfl) (ex_mk rfl rfl rfl (mk3 _)) rfl hz (by decide) (hS.alloc hS.size _) (fun Te zz kk s26 => ?_)
    have hsl := sl3 y1
    replace hS := hS.alloc hS.size zV3
    replace s1 := ku s1
    replace s2 := ku s2
    replace s3 := ku s3
    replace s5 := ku s5
    replace s6 := ku s6
    replace s25 := ku s25
    replace hz := zz
    clear kk zz
    refine vh_take 2 true (cmB.val nilS (.slice (some ⟨y1.heap.size, 0, none⟩) 3 3)) rfl (by kernel_rfl) (by kernel_rfl) (by kernel_rfl) (want_none rfl) (fun hc v hv => ex_buildP rfl (by simp only [List.map_toArray, List.map_cons, List.map_nil, (ev s26 rfl)] <;> rfl) (bdCm _ _)) rfl hz (by decide) hS (fun Tb zz kk s27 => ?_)
    replace s1 := ku s1
    replace s2 := ku s2
    replace s3 := ku s3
    replace s5 := ku s5
    replace s6 := ku s6
    replace s25 := ku s25
    replace hz := zz
    clear kk zz
    refine vh_call 3 rfl (by kernel_rfl) (want_none rfl) (ex_call rfl (by simp only [List.map_toArray, List.map_cons, List.map_nil, (ev s25 rfl), (ev s27 rfl), evc] <;> rfl) rfl) (check_cm y1.heap.size _ (hT8.later hS hT8.lt) hsl) rfl hz (by decide) ?_
    rintro e y2 ⟨rfl, hbz⟩
    refine ⟨_, rfl, hS.trans (hbz.mono hS.size), fun Tc zz kk s28 => ?_⟩
    replace hS := hS.trans (hbz.mono hS.size)
    replace s1 := ku s1
    replace s2 := ku s2
    replace s3 := ku s3
    replace s5 := ku s5
    replace s6 := ku s6
    replace hz := zz
    clear kk zz
    refine vh_take 4 true (.int .i64 71) rfl (by kernel_rfl) (by kernel_rfl) (by kernel_rfl) (want_none rfl) (fun hc v hv => ex_assign rfl (ev s28 rfl)) rfl hz (by decide) hS (fun Td zz kk s7 => ?_)
    replace s1 := ku s1
    replace s2 := ku s2
    replace s3 := ku s3
    replace s5 := ku s5
    replace s6 := ku s6
    replace hz := zz
    clear kk zz
    refine vh_done (by kernel_rfl) ?_
    exact ⟨_, rfl, hz, s1, s2, s3, s5, s6, s7, hS⟩
  · intro Ta zz kk s26x
    have hsl := sl3 w8.drew
    replace hS := hS.alloc hS.size zV3
    replace s1 := ku s1
    replace s2 := ku s2
    replace s3 := ku s3
    replace s5 := ku s5
    replace s6 := ku s6
    clear kk hz
    have hz := zz
    have s26 := s26x
    clear zz s26x
    refine vh_take 2 true (cmB.val nilS (.slice (some ⟨w8.drew.heap.size, 0, none⟩) 3 3)) rfl (by kernel_rfl) (by kernel_rfl) (by kernel_rfl) (want_none rfl) (fun hc v hv => ex_buildP rfl (by simp only [List.map_toArray, List.map_cons, List.map_nil, (ev s26 rfl)] <;> rfl) (bdCm _ _)) rfl hz (by decide) hS (fun Tb zz kk s27 => ?_)
    replace s1 := ku s1
    replace s2 := ku s2
    replace s3 := ku s3
    replace s5 := ku s5
    replace s6 := ku s6
    replace hz := zz
    clear kk zz
    refine vh_call 0 rfl (by kernel_rfl) (want_none rfl) (ex_call (args := #[]) rfl (by simp) rfl) (three7_any _) rfl hz (by decide) ?_
    rintro e y1 ⟨rfl, hb1⟩
    refine ⟨_, rfl, hS.trans (hb1.mono hS.size), fun Tf zz kk s25 => ?_⟩
    replace hS := hS.trans (hb1.mono hS.size)
    replace s1 := ku s1
    replace s2 := ku s2
    replace s3 := ku s3
    replace s5 := ku s5
    replace s6 := ku s6
    replace s27 := ku s27
    replace hz := zz
    clear kk zz
    refine vh_call 3 rfl (by kernel_rfl) (want_none rfl) (ex_call rfl (by simp only [List.map_toArray, List.map_cons, List.map_nil, (ev s25 rfl), (ev s27 rfl), evc] <;> rfl) rfl) (check_cm w8.drew.heap.size _ (hT8.later hS hT8.lt) (hsl.later hb1)) rfl hz (by decide) ?_
    rintro e y2 ⟨rfl, hbz⟩
    refine ⟨_, rfl, hS.trans (hbz.mono hS.size), fun Tc zz kk s28 => ?_⟩
    replace hS := hS.trans (hbz.mono hS.size)
    replace s1 := ku s1
    replace s2 := ku s2
    replace s3 := ku s3
    replace s5 := ku s5
    replace s6 := ku s6
    replace hz := zz
    clear kk zz
    refine vh_take 4 true (.int .i64 71) rfl (by kernel_rfl) (by kernel_rfl) (by kernel_rfl) (want_none rfl) (fun hc v hv => ex_assign rfl (ev s28 rfl)) rfl hz (by decide) hS (fun Td zz kk s7 => ?_)
    replace s1 := ku s1
    replace s2 := ku s2
    replace s3 := ku s3
    replace s5 := ku s5
    replace s6 := ku s6
    replace hz := zz
    clear kk zz
    refine vh_done (by kernel_rfl) ?_
    exact ⟨_, rfl, hz, s1, s2, s3, s5, s6, s7, hS⟩
/-! What the document's Decode needs. -/
end Go.Proofs.YtibedokegignhaaGreatDoor
