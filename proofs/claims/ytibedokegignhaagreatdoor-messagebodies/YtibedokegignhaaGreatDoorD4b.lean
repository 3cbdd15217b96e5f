import Derived.Test.YtibedokegignhaaGreatDoorD4
namespace Go.Proofs.YtibedokegignhaaGreatDoor
open Go.RowKit Go.Maps
open Classical
set_option linter.unusedVariables false
set_option linter.unusedSimpArgs false
def enB (c : Cf) (m : Mg) (L : List En) (D : List (Int × Int)) : List Int := if ckM c m L D = 0 then M.frame (mbBy m L D m.k.toNat) else []
def isB (l : List Int) : Prop := ∀ z ∈ l, 0 ≤ z ∧ z < 256
theorem isB.app {a b : List Int} (h : isB a) (k : isB b) : isB (a ++ b) := fun z hz => (List.mem_append.1 hz).elim (h z) (k z)
theorem isB.nil : isB [] := fun z hz => by cases hz
theorem isB.form {x : Nat} (h : x < 2 ^ 64) : isB (M.form x) := M.form_byte x h
theorem isB.dr {x y : Nat} (hx : x < 2 ^ 64) (hy : y < 2 ^ 64) : isB (drBy x y) := (isB.form hx).app (isB.form hy)
theorem isB.nm {x y : Nat} (hx : x < 2 ^ 64) (hy : y < 2 ^ 64) : isB (nmBy x y) := (isB.form hx).app (isB.form hy)
theorem isB.op {x y : Nat} {v : ByteArray} (hx : x < 2 ^ 64) (hy : y < 2 ^ 64) (hv : v.size ≤ 64) : isB (opBy x y v) := (isB.form hx).app ((isB.form hy).app ((isB.form (by omega)).app (Wi.sb_byte v)))
theorem isB.flat {α : Type} (f : α → List Int) : ∀ l : List α, (∀ x ∈ l, isB (f x)) → isB (l.flatMap f)
  | [], _ => isB.nil
  | x :: r, h => by
    rw [List.flatMap_cons]
    exact (h x (by simp)).app (isB.flat f r (fun y hy => h y (by simp [hy])))
theorem isB.drF {d : Int × Int} (h : drF d) : isB (drBy d.1.toNat d.2.toNat) := isB.dr (by have := h.1; have := h.2.1; omega) (by have := h.2.2.1; have := h.2.2.2; omega)
theorem isB.enF {e : En} (h : enF e) : isB (nmBy e.c.toNat e.n.toNat) ∧ isB (opBy e.o.k.toNat e.o.s.toNat e.o.v) := by
  obtain ⟨a1, a2, a3, a4, a5, a6, a7, a8, a9⟩ := h
  exact ⟨isB.nm (by omega) (by omega), isB.op (by omega) (by omega) a9⟩
theorem isB.col {m : Mg} {L : List En} {D : List (Int × Int)} (hm : mgF m L D) (j : Nat) (op : Bool) : isB (colBy m L D j op) := by
  match j with
  | 0 => have := hm.nd; exact isB.form (by omega)
  | 1 => have := hm.vw; exact isB.form (by omega)
  | 2 => have := hm.ls; exact isB.form (by omega)
  | 3 => have := hm.p; exact isB.form (by omega)
  | 4 => have := hm.cm; exact isB.form (by omega)
  | 5 => exact isB.drF hm.d
  | 6 => exact (isB.enF hm.e).1.app (by cases op <;> first | exact isB.nil | exact (isB.enF hm.e).2)
  | 7 =>
    obtain ⟨a1, a2, a3, a4, a5⟩ := hm.r
    exact isB.op (by omega) (by omega) a5
  | 8 => have := hm.lL; exact (isB.form (by omega)).app (isB.flat _ _ (fun e he => (isB.enF (hm.es e he)).1.app (isB.enF (hm.es e he)).2))
  | 9 => have := hm.lD; exact (isB.form (by omega)).app (isB.flat _ _ (fun d hd => isB.drF (hm.ds d hd)))
  | (n + 10) => exact isB.nil
theorem mbBy_byte {m : Mg} {L : List En} {D : List (Int × Int)} (hm : mgF m L D) {k : Nat} (hk : k < 15) : ∀ z ∈ mbBy m L D k, 0 ≤ z ∧ z < 256 :=
  (isB.form (by omega)).app (isB.flat _ _ (fun i _ => by
    show isB (if tabA k i = 0 then [] else colBy m L D i _)
    split
    · exact isB.nil
    · exact isB.col hm i _))
theorem bodyPost_ret2 {fn : Func} {R : Ending → World → Prop} {T : Array Value} {t u : Tmp} {V U : Value} {w : World} (h : fn.results = #[.tmp t, .tmp u]) (hT : T[t]? = some (gw true V)) (hU : T[u]? = some (gw true U)) (hR : R (.returned (.tuple #[V, U])) w) : bodyPost Tryz.prog fn R .ret ⟨T, []⟩ w := by
  refine bodyPost_ret (v := .tuple #[V, U]) ?_ rfl hR
  have e1 : T.getD t undef = V := getD_of hT
  have e2 : T.getD u undef = U := getD_of hU
  rw [results_tmp2 h]
  rw [e1, e2]
theorem neqEr (x y : Operand) (a b : Int) (w : World) : (do eqGuard .neq 47 x y (.int .i64 a) (.int .i64 b); binOp .neq 47 (.int .i64 a) (.int .i64 b) : Sem Value).run Tryz.prog w = .ok (.bool (!decide (a = b))) w := by
  go_simp
  by_cases h : a = b <;> simp [h]
theorem froz_box (w : World) (c : Array Value) (t : TypeId) (i : Nat) : (w.alloc (.cells c t)).frozen? ⟨w.heap.size, i, none⟩ = false := by
  simp
theorem Wi.wtyp_new (w : World) (c : Array Value) : Wi.wtyp (w.alloc (.cells c 112)) w.heap.size := ⟨c, (0, 0), 112, by
    show (w.heap.push _)[w.heap.size]? = _
    simp, .inr (.inr rfl)⟩
set_option maxRecDepth 100000 in
set_option maxHeartbeats 4000000 in
theorem encode_any (c : Cf) (m : Mg) (a1 a2 : Option Addr) (cl cv : Nat) (L : List En) (D : List (Int × Int)) (w : World) (hT : Tab w) (hL : SlY yE w a1 L.length cl L) (hfit : ∀ e ∈ L, e.fits) (hD : SlY yD w a2 D.length cv D) (hfe : m.e.fits) (hd : drF m.d) (hds : ∀ d ∈ D, drF d) :
    Calls Tryz.prog 16 #[c.val, m.val (.slice a1 L.length cl) (.slice a2 D.length cv)] w fun e w' => ∃ v, e = .returned (.tuple #[v, .int .i64 (ckM c m L D)]) ∧ Wi.Own w.heap.size w' v (enB c m L D) ∧ Below w.heap.size w w' := by
  have hlen : (L.length : Int) ≤ 9223372036854775807 := by have := hL.cap; have := hL.max; unfold maxLen at *; omega
  have hT0 := hT.lt
  go_enter Tryz.func16, Tryz.ntmps16
  go_upto_region 1 with (refine boxMk rfl (.tmp 1) rfl m _ _ rfl ?_; intro q1 w1 hq1 M1 b1 z1)
  have hq2 : q1 = w.heap.size + 1 := by first | exact hq1 | simpa using hq1
  subst hq2
  have hB : Below w.heap.size w w1 := ((Below.refl _ _).alloc (Nat.le_refl _) _).trans (b1.mono (by simp))
  have hc1 : CfB w1 w.heap.size c := ⟨Nat.lt_of_succ_lt M1.lt, fun i x hx => (b1.cell (p := ⟨w.heap.size, i, none⟩) (by simp)).trans (by
    match i, hx with
    | 0, hx | 1, hx | 2, hx | 3, hx => cases hx; unfold Cf.val; simp
    | (j + 4), hx => simp at hx)⟩
  have HC : Hid (∀ v, Below w1.heap.size w1 v → CfB v w.heap.size c) := fun v hv => hc1.bel hv
  have HM : Hid (∀ v, Below w1.heap.size w1 v → MBox v (w.heap.size + 1) m (.slice a1 L.length cl) (.slice a2 D.length cv)) := fun v hv => M1.bel hv
  have HB : Hid (∀ v, Below w1.heap.size w1 v → Below w.heap.size w v) := fun v hv => hB.trans (hv.mono hB.size)
  have HTB : Hid (∀ v, Below w1.heap.size w1 v → Tab v) := fun v hv => hT.later (HB.out v hv) hT0
  have HLB : Hid (∀ v, Below w1.heap.size w1 v → SlY yE v a1 L.length cl L) := fun v hv => hL.later (HB.out v hv)
  have HDB : Hid (∀ v, Below w1.heap.size w1 v → SlY yD v a2 D.length cv D) := fun v hv => hD.later (HB.out v hv)
  have h1 : Below w1.heap.size w1 w1 := Below.refl _ _
  have HT1 := hide (HTB.out w1 h1)
  have HL1 := hide (HLB.out w1 h1)
  have HD1 := hide (HDB.out w1 h1)
  have HFI := hide hfit
  have HFE := hide hfe
  have HFD := hide hd
  have HFDs := hide hds
  have HLN := hide hlen
  have H1P := hide M1.lt
  clear M1 b1 z1 hB hq1 hc1 hL hD hfit hfe hd hds hlen hT
  refine wp_region_lit ?_
  refine vl_gen (fun T => T.size = 30 ∧ T[2]? = some (gw true (.pointer (some ⟨w.heap.size, 0, none⟩))) ∧ T[3]? = some (gw true (.pointer (some ⟨w.heap.size + 1, 0, none⟩)))) ⟨rfl, rfl, rfl⟩ (fun T0 ⟨hz, s2, s3⟩ => ?_)
  refine vt (.agg #[.int .i64 c.f, .int .i64 c.r, .int .i64 c.p, .bool c.u]) (ex_ld rfl (ev s2 rfl) ((HC.out w1 h1).ldAll)) hz (fun A1_1 zz kk s10 => ?_)
  replace s3 := kt kk s3
  replace hz := zz
  clear kk zz s2
  refine vt (m.val (.slice a1 L.length cl) (.slice a2 D.length cv)) (ex_ld rfl (ev s3 rfl) ((HM.out w1 h1).ldAll)) hz (fun A1_2 zz kk s11 => ?_)
  replace s3 := kt kk s3
  replace s10 := kt kk s10
  replace hz := zz
  clear kk zz A1_1
  refine vcallP (want_none rfl) (ex_call rfl (by simp only [List.map_toArray, List.map_cons, List.map_nil, (ev s10 rfl), (ev s11 rfl), evc] <;> rfl) rfl) (checkM_any c m a1 a2 cl cv L D w1 HT1.out HL1.out HFI.out HD1.out HFE.out) rfl hz (by decide) ?_
  rintro e w2 ⟨rfl, hb2⟩
  refine ⟨_, rfl, fun A1_3 zz kk s12 => ?_⟩
  replace s3 := kt kk s3
  replace hz := zz
  clear kk zz s10 s11 A1_2
  refine vt _ (ex_assign rfl (ev s12 rfl)) hz (fun A1_4 zz kk s6 => ?_)
  replace s3 := kt kk s3
  replace hz := zz
  clear kk zz s12 A1_3
  refine wpList_nil ?_
  go_upto_region 2 with fail
  refine wp_region_lit ?_
  refine vt _ (ex_move rfl (ev s6 rfl)) hz (fun A2_1 zz kk s13 => ?_)
  replace s3 := kt kk s3
  replace s6 := kt kk s6
  replace hz := zz
  clear kk zz
  refine vt (.bool (!decide ((ckM c m L D) = 0))) (ex_bin rfl (ev s13 rfl) rfl (neqEr _ _ _ _ _)) hz (fun A2_2 zz kk s14 => ?_)
  replace s3 := kt kk s3
  replace s6 := kt kk s6
  replace hz := zz
  clear kk zz s13 A2_1
  refine wpList_nil ?_
  go_upto_region 4 with fail
  cases e2 : !decide (ckM c m L D = 0)
  rotate_left
  · refine wp_cond_true ((ev s14 rfl).trans (congrArg Value.bool e2)) ?_
    have hn : ¬ ckM c m L D = 0 := by simpa using e2
    have EN : enB c m L D = [] := by unfold enB; rw [if_neg hn]
    go_upto_region 3 with fail
    refine wp_region_lit ?_
    clear s14 s3 e2
    refine vt _ (ex_move rfl (ev s6 rfl)) hz (fun A3_1 zz kk s15 => ?_)
    replace hz := zz
    clear kk zz s6
    refine vt (.slice none 0 0) (ex_assign rfl rfl) hz (fun A3_2 zz kk s4 => ?_)
    replace s15 := kt kk s15
    replace hz := zz
    clear kk zz A3_1
    refine vt _ (ex_assign rfl (ev s15 rfl)) hz (fun A3_3 zz kk s5 => ?_)
    replace s4 := kt kk s4
    replace hz := zz
    clear kk zz s15 A3_2
    refine wpList_nil ?_
    have hfin := (HB.out w2 hb2)
    clear HC HM HB HTB HLB HDB HT1 HL1 HD1
    go_wp2
    refine bodyPost_ret2 rfl s4 s5 ⟨_, rfl, ?_, hfin⟩
    rw [EN]
    exact Wi.Own.nil _ _
  refine wp_cond_false ((ev s14 rfl).trans (congrArg Value.bool e2)) ?_
  have hck : ckM c m L D = 0 := by simpa using e2
  clear s14 e2
  obtain ⟨hmg, hk1, hk2⟩ := ck_mgF hck HFE.out HFI.out HFD.out HFDs.out HLN.out
  obtain ⟨k, hmk⟩ := Int.eq_ofNat_of_zero_le (show 0 ≤ m.k by omega)
  have EN : enB c m L D = M.frame (mbBy m L D k) := by unfold enB; rw [if_pos hck, hmk]; rfl
  have hlb0 : (mbBy m L D k).length ≤ 28009 := by
    have f1 := form_le (show k < 2 ^ 64 by omega)
    have f2 := colsBy_le hmg k 10
    unfold mbBy
    rw [List.length_append]
    omega
  have hlb : (mbBy m L D k).length ≤ 140737488355328 := by omega
  obtain ⟨w4, hw4⟩ : ∃ w4, w4 = w2.alloc (.cells #[.pointer none, .int .i64 0, .int .i64 0] 112) := ⟨_, rfl⟩
  have hs4 : w4.heap.size = w2.heap.size + 1 := by rw [hw4]; simp
  have hb24 : Below w2.heap.size w2 w4 := by rw [hw4]; exact (Below.refl _ _).alloc (Nat.le_refl _) _
  have hb4 : Below w1.heap.size w1 w4 := hb2.trans (hb24.mono hb2.size)
  have hpos : 0 < w2.heap.size := Nat.lt_of_lt_of_le (Nat.lt_of_le_of_lt (Nat.zero_le _) H1P.out) hb2.size
  have hO4 : Wi.WOkT w4 w2.heap.size [] := .inl ⟨rfl, ⟨by omega, by rw [hw4]; exact cell_box _ _ _ _ _ rfl, by rw [hw4]; exact cell_box _ _ _ _ _ rfl, by rw [hw4]; exact cell_box _ _ _ _ _ rfl, by rw [hw4]; exact froz_box _ _ _ _, by rw [hw4]; exact froz_box _ _ _ _, by rw [hw4]; exact froz_box _ _ _ _⟩, by rw [hw4]; exact Wi.wtyp_new _ _⟩
  go_upto_region 4 with fail
  refine wp_region_lit ?_
  refine vw (.pointer (some ⟨w2.heap.size, 0, none⟩)) w4 (want_none rfl) (ex_al rfl (by rw [hw4]; go_simp)) rfl hz (by decide) (fun A4_1 zz kk s7 => ?_)
  replace s3 := kt kk s3
  replace s6 := kt kk s6
  replace hz := zz
  clear kk zz
  refine wpList_nil ?_
  go_upto_region 5 with fail
  refine wp_region_lit ?_
  refine vt (m.val (.slice a1 L.length cl) (.slice a2 D.length cv)) (ex_ld rfl (ev s3 rfl) ((HM.out w4 hb4).ldAll)) hz (fun A5_1 zz kk s16 => ?_)
  replace s3 := kt kk s3
  replace s6 := kt kk s6
  replace s7 := kt kk s7
  replace hz := zz
  clear kk zz
  refine vcallP (want_none rfl) (ex_call rfl (by simp only [List.map_toArray, List.map_cons, List.map_nil, (ev s7 rfl), (ev s16 rfl), evc] <;> rfl) rfl) (wmessage_tk w2.heap.size w2.heap.size [] m k hmk (by omega) a1 a2 cl cv L D w2 w4 (Nat.le_refl _) hpos (HTB.out w4 hb4) hb24 (Nat.le_refl _) (HLB.out w2 hb2) (HDB.out w2 hb2) hmg hO4 (by show 0 + 100000 ≤ _; omega)) rfl hz (by decide) ?_
  rintro e w5 ⟨rfl, hO5, hb5, ht5⟩
  refine ⟨_, rfl, fun A5_2 zz kk s17 => ?_⟩
  rw [List.nil_append] at hO5
  replace s3 := kt kk s3
  replace s6 := kt kk s6
  replace s7 := kt kk s7
  replace hz := zz
  clear kk zz s16 A5_1
  refine wpList_nil ?_
  go_upto_region 6 with fail
  refine wp_region_lit ?_
  refine vt (.pointer (some ⟨w2.heap.size, 0, none⟩)) (ex_fa rfl (ev s7 rfl) (by go_simp)) hz (fun A6_1 zz kk s19 => ?_)
  replace hz := zz
  clear kk zz s3 s6 s7 s17
  refine vcallP (want_none rfl) (ex_call rfl (by simp only [List.map_toArray, List.map_cons, List.map_nil, (ev s19 rfl), evc] <;> rfl) rfl) (Wi.bytes_any w2.heap.size (mbBy m L D k) w5 hO5.ok hlb) rfl hz (by decide) ?_
  rintro e w6 ⟨v6, rfl, hO6, hb6⟩; obtain ⟨a6, n6, c6, rfl, hs6, _⟩ := hO6.hs (mbBy_byte hmg (by omega))
  refine ⟨_, rfl, fun A6_2 zz kk s20 => ?_⟩
  replace hz := zz
  clear kk zz s19 A6_1
  refine vt _ (ex_move rfl (ev s20 rfl)) hz (fun A6_3 zz kk s18 => ?_)
  replace hz := zz
  clear kk zz s20 A6_2
  refine vt (.slice a6 n6 c6) (ex_ext rfl (ev s18 rfl) rfl) hz (fun A6_4 zz kk s21 => ?_)
  replace s18 := kt kk s18
  replace hz := zz
  clear kk zz A6_3
  refine vt (.int .i64 0) (ex_ext rfl (ev s18 rfl) rfl) hz (fun A6_5 zz kk s22 => ?_)
  replace s21 := kt kk s21
  replace hz := zz
  clear kk zz s18 A6_4
  refine vt _ (ex_assign rfl (ev s21 rfl)) hz (fun A6_6 zz kk s8 => ?_)
  replace s22 := kt kk s22
  replace hz := zz
  clear kk zz s21 A6_5
  refine vt _ (ex_assign rfl (ev s22 rfl)) hz (fun A6_7 zz kk s9 => ?_)
  replace s8 := kt kk s8
  replace hz := zz
  clear kk zz s22 A6_6
  refine wpList_nil ?_
  go_upto_region 7 with fail
  refine wp_region_lit ?_
  refine vt _ (ex_move rfl (ev s9 rfl)) hz (fun A7_1 zz kk s23 => ?_)
  replace s8 := kt kk s8
  replace s9 := kt kk s9
  replace hz := zz
  clear kk zz
  refine vt (.bool (!decide (0 = 0))) (ex_bin rfl (ev s23 rfl) rfl (neqEr _ _ _ _ _)) hz (fun A7_2 zz kk s24 => ?_)
  replace s8 := kt kk s8
  replace s9 := kt kk s9
  replace hz := zz
  clear kk zz s23 A7_1
  refine wpList_nil ?_
  go_upto_region 9 with fail
  refine wp_cond_false ((ev s24 rfl).trans (congrArg Value.bool (by decide))) ?_
  clear s24
  go_upto_region 9 with fail
  refine wp_region_lit ?_
  refine vt _ (ex_move rfl (ev s8 rfl)) hz (fun A9_1 zz kk s26 => ?_)
  replace hz := zz
  clear kk zz s8 s9
  refine vcallP (want_none rfl) (ex_call rfl (by simp only [List.map_toArray, List.map_cons, List.map_nil, (ev s26 rfl), evc] <;> rfl) rfl) (Wi.seal_ok a6 n6 c6 (mbBy m L D k) w6 hs6 (by have := hs6.len; omega)) rfl hz (by decide) ?_
  rintro e w7 ⟨v7, rfl, hO7, _, hb7⟩
  refine ⟨_, rfl, fun A9_2 zz kk s27 => ?_⟩
  replace hz := zz
  clear kk zz s26 A9_1
  refine vt (v7) (ex_ext rfl (ev s27 rfl) rfl) hz (fun A9_3 zz kk s28 => ?_)
  replace s27 := kt kk s27
  replace hz := zz
  clear kk zz A9_2
  refine vt (.int .i64 0) (ex_ext rfl (ev s27 rfl) rfl) hz (fun A9_4 zz kk s29 => ?_)
  replace s28 := kt kk s28
  replace hz := zz
  clear kk zz s27 A9_3
  refine vt _ (ex_assign rfl (ev s28 rfl)) hz (fun A9_5 zz kk s4 => ?_)
  replace s29 := kt kk s29
  replace hz := zz
  clear kk zz s28 A9_4
  refine vt _ (ex_assign rfl (ev s29 rfl)) hz (fun A9_6 zz kk s5 => ?_)
  replace s4 := kt kk s4
  replace hz := zz
  clear kk zz s29 A9_5
  refine wpList_nil ?_
  have hbB : Below w1.heap.size w1 w7 := hb4.trans ((hb5.mono hb2.size).trans ((hb6.mono (Nat.le_trans hb4.size hb5.size)).trans (hb7.mono (Nat.le_trans (Nat.le_trans hb4.size hb5.size) hb6.size))))
  have hfin := HB.out w7 hbB
  have hfin0 := HB.out w1 h1
  have hown := Wi.Own.low hO7 (Nat.le_trans hfin0.size (Nat.le_trans (Nat.le_trans hb4.size hb5.size) hb6.size))
  clear HC HM HB HTB HLB HDB HT1 HL1 HD1
  go_wp2
  refine bodyPost_ret2 rfl s4 s5 ⟨_, by rw [hck], ?_, hfin⟩
  rw [EN]
  exact hown
theorem bodyPost_ret1 {fn : Func} {R : Ending → World → Prop} {T : Array Value} {t : Tmp} {V : Value} {w : World} (h : fn.results = #[.tmp t]) (hT : T[t]? = some (gw true V)) (hR : R (.returned V) w) : bodyPost Tryz.prog fn R .ret ⟨T, []⟩ w := by
  refine bodyPost_ret (v := V) ?_ rfl hR
  have e1 : T.getD t undef = V := getD_of hT
  rw [results_tmp h, e1]
theorem ex_bs {o : Oper} {ρ : Operand → Value} {s : TypeId} {k : Nat} {ps : Array (Nat × Operand)} {P : Array (Nat × Value)} {V : Value} {w w' : World} (ho : o.op = .buildSlice s k ps) (hp : ps.map (fun (i, x) => (i, ρ x)) = P) (hr : (Instr.buildSlice s k P).run Tryz.prog w = .ok V w') : (execOp ρ o).run Tryz.prog w = .ok (.value V) w' := by
  unfold execOp
  simp only [ho, hp, Sem.run_bind, hr, Result.andThen_ok]
  rfl
theorem v_cond {x : Code} {R : Exit → Act → World → Prop} {T : Array Value} {w : World} {t : Nat} {b : Bool} (J : Array Value → World → Prop) (ht : T[t]? = some (gw true (.bool b))) (h1 : b = true → x.wp Tryz.prog (Exit.then (fun a w' => ∃ T', a = ⟨T', []⟩ ∧ J T' w') R) ⟨T, []⟩ w) (h2 : b = false → J T w) (hk : ∀ T' w', J T' w' → R .normal ⟨T', []⟩ w') : (Code.cond (.tmp t) x Code.skip).wp Tryz.prog R ⟨T, []⟩ w := by
  cases b with
  | true =>
    refine wp_cond_true (ev ht rfl) (Code.wp_mono (fun e a' w' h => ?_) (h1 rfl))
    cases e with
    | normal =>
      obtain ⟨T', rfl, hJ⟩ := h
      exact hk T' w' hJ
    | _ => exact h
  | false => exact wp_cond_false (ev ht rfl) (wp_skip (hk T w (h2 rfl)))
end Go.Proofs.YtibedokegignhaaGreatDoor
namespace Go.Proofs.YtibedokegignhaaGreatDoor.Wi
open Go.RowKit
set_option linter.unusedVariables false
structure Only (b : Nat) (w w' : World) : Prop where
  bel : Below b w w'
  same : w'.heap.size = w.heap.size
  block : ∀ k, k ≠ b → w'.heap[k]? = w.heap[k]?
theorem Only.refl (b : Nat) (w : World) : Only b w w := ⟨Below.refl _ _, rfl, fun _ _ => rfl⟩
theorem Only.setCell {b : Nat} {w0 w : World} (h : Only b w0 w) (j : Nat) (u : Value) : Only b w0 (w.setCell ⟨b, j, none⟩ u) :=
  ⟨h.bel.setCell (Nat.le_refl _) u, by simp [World.setCell, h.same], fun k hk => (Below.heap_setCell w ⟨b, j, none⟩ u k hk).trans (h.block k hk)⟩
theorem Only.drewN {b : Nat} {w0 w : World} (h : Only b w0 w) (k : Nat) : Only b w0 (w.drewN k) := ⟨below_drewN h.bel k, h.same, h.block⟩
theorem Only.cell {b : Nat} {w w' : World} (h : Only b w w') {p : Addr} (hp : p.block ≠ b) : w'.cell? p = w.cell? p := World.cell?_of_block (h.block _ hp)
theorem tc_quiet (a : Option Addr) (n c : Nat) (l : List Int) (m : Int) (w : World) (k : Nat) (h : Hs w a n c l) (hm : c ≤ maxLen) (q : m ≤ 9223372036854775807) :
    Calls Tryz.prog 151 #[.slice a n c, .int .i64 m] (w.drewN k) fun e w' => e = .returned (.tuple #[.int .i64 (tcVal m l), .int .i64 (tcSize m l), .int .i64 (tcErr m l)]) ∧ ∃ j, w' = w.drewN j := by
  refine (tc_any a n c l m (w.drewN k) (h.later (below_drewN (Below.refl _ _) k)) hm q).mono ?_
  rintro e w' ⟨rfl, j, rfl⟩
  exact ⟨rfl, _, World.drewN_drewN _ _ _⟩
theorem tt_quiet (a : Option Addr) (n c : Nat) (l : List Int) (m : Int) (w : World) (k : Nat) (h : Hs w a n c l) (hm : c ≤ maxLen) (q : m ≤ 9223372036854775807) :
    Calls Tryz.prog 154 #[.slice a n c, .int .i64 m] (w.drewN k) fun e w' => e = .returned (.tuple #[.string (strOfNums (ttList m l)), .int .i64 (ttSize m l), .int .i64 (ttErr m l)]) ∧ ∃ j, w' = w.drewN j := by
  refine (tt_any a n c l m (w.drewN k) (h.later (below_drewN (Below.refl _ _) k)) hm q).mono ?_
  rintro e w' ⟨rfl, j, rfl⟩
  exact ⟨rfl, _, World.drewN_drewN _ _ _⟩
theorem ttSize_le (m : Int) (l : List Int) : ttSize m l ≤ l.length := by
  by_cases h : ttErr m l = 0
  · have h2 : ttSize m l = tcSize m l + tcVal m l := by unfold ttSize; rw [if_pos h]
    rw [h2]
    unfold ttErr at h
    split at h
    · rename_i h3; exact absurd h h3
    · split at h
      · cases h
      · omega
  · rw [(tt_bad h).2]; exact Nat.zero_le _
set_option maxRecDepth 100000 in
set_option maxHeartbeats 400000 in
theorem count_core (b : Nat) (a a' : Option Addr) (n c : Nat) (l : List Int) (p : Nat) (m : Int) (q : m ≤ 9223372036854775807) (w : World) (h : RSt w b a n c l p 0) (n' c' : Nat) (h' : Hs w a' n' c' (l.drop p)) (ha : (∃ g, a = some ⟨g, 0, none⟩ ∧ p < c ∧ a' = some ⟨g, p, none⟩ ∧ n' = n - p ∧ c' = c - p) ∨ (∃ g, a = some ⟨g, 0, none⟩ ∧ n = p ∧ c = p ∧ a' = some ⟨g, 0, none⟩ ∧ n' = 0 ∧ c' = 0) ∨ (a = none ∧ n = 0 ∧ c = 0 ∧ p = 0 ∧ a' = none ∧ n' = 0 ∧ c' = 0)) :
    Calls Tryz.prog 143 #[.pointer (some ⟨b, 0, none⟩), .int .i64 m] w fun e w' => e = .returned (.int .i64 (tcVal m (l.drop p))) ∧ ∃ k, w' = ((w.setCell ⟨b, 2, none⟩ (.int .i64 ((p + tcSize m (l.drop p) : Nat) : Int))).setCell ⟨b, 3, none⟩ (.int .i64 (tcErr m (l.drop p)))).drewN k := by
  obtain ⟨hlt, c0, c1, c2, c3, f2, f3, hs, cmax, ne, hle⟩ := h
  have hcap := hs.cap
  have hc' : c' ≤ maxLen := by
    rcases ha with ⟨g, _, _, _, _, hc⟩ | ⟨g, _, _, _, _, _, hc⟩ | ⟨_, _, _, _, _, _, hc⟩ <;> omega
  have HQ := fun k => hide (tc_quiet a' n' c' (l.drop p) m w k h' hc' q)
  have hsz := tcSize_le m (l.drop p) h'.byte
  have hln : (l.drop p).length = n - p := by rw [List.length_drop, hs.len]
  unfold maxLen at cmax
  clear hs ne h'
  generalize tcVal m (l.drop p) = V at *
  generalize tcSize m (l.drop p) = S at *
  generalize tcErr m (l.drop p) = E at *
  have hS : S ≤ 9 := hsz.2
  have hb1 : p + S ≤ 9223372036854775807 := by omega
  clear hsz hln hc'
  have HS := fun k => hide (step_any b p S E 0 (w.drewN k) c2 c3 f2 f3 hb1)
  rcases ha with ⟨g, rfl, hpc, rfl, rfl, rfl⟩ | ⟨g, rfl, rfl, rfl, rfl, rfl, rfl⟩ | ⟨rfl, rfl, rfl, rfl, rfl, rfl, rfl⟩
  all_goals
    go_enter Tryz.func143, Tryz.ntmps143
    go_wp2_with (go_at_call 150; go_in)
    go_quiet ((go_at_call 151; exact (HQ _).out))
    go_wp2_with fail
    refine (HS _).out.mono ?_
    rintro e w' ⟨rfl, rfl⟩
    clear HS HQ
    go_wp2
    go_ret
    first | exact ⟨rfl, _, rfl⟩ | exact ⟨rfl, nq, by rw [Nat.zero_add]; rfl⟩
theorem rd_count (b : Nat) (a : Option Addr) (n c : Nat) (l : List Int) (p : Nat) (m : Int) (q : m ≤ 9223372036854775807) (w : World) (h : RSt w b a n c l p 0) :
    Calls Tryz.prog 143 #[.pointer (some ⟨b, 0, none⟩), .int .i64 m] w fun e w' => e = .returned (.int .i64 (tcVal m (l.drop p))) ∧ RSt w' b a n c l (p + tcSize m (l.drop p)) (tcErr m (l.drop p)) ∧ Only b w w' := by
  have hsz := (tcSize_le m (l.drop p) (fun z hz => h.hs.byte z (List.mem_of_mem_drop hz))).1
  rw [List.length_drop, h.hs.len] at hsz
  have hle := h.le
  have hcap := h.hs.cap
  have fin : ∀ a' n' c', Hs w a' n' c' (l.drop p) → _ → Calls Tryz.prog 143 #[.pointer (some ⟨b, 0, none⟩), .int .i64 m] w fun e w' => e = .returned (.int .i64 (tcVal m (l.drop p))) ∧ RSt w' b a n c l (p + tcSize m (l.drop p)) (tcErr m (l.drop p)) ∧ Only b w w' :=
    fun a' n' c' h1 h2 => (count_core b a a' n c l p m q w h n' c' h1 h2).mono (by
      rintro e w' ⟨rfl, k, rfl⟩
      exact ⟨rfl, h.stepped _ _ k (by omega), (((Only.refl _ _).setCell _ _).setCell _ _).drewN k⟩)
  cases ha : a with
  | none =>
    subst ha
    obtain ⟨e1, e2⟩ := h.hs.nil rfl
    have e3 := h.hs.len
    rw [e1] at e3
    obtain rfl : 0 = n := e3
    subst e2
    obtain rfl : p = 0 := by omega
    exact fin none 0 0 h.hs (.inr (.inr ⟨rfl, rfl, rfl, rfl, rfl, rfl, rfl⟩))
  | some x =>
    subst ha
    obtain ⟨g, rfl, hg⟩ := h.ne x rfl
    by_cases hp : p < c
    · exact fin _ _ _ (h.hs.rest p hle) (.inl ⟨g, rfl, hp, rfl, rfl, rfl⟩)
    · have e1 : c = p := by omega
      have e2 : n = p := by omega
      have h2 := h.hs.rest_end (by omega)
      rw [e1] at h2
      exact fin _ 0 0 h2 (.inr (.inl ⟨g, rfl, e2, e1, rfl, rfl, rfl⟩))
theorem rd_count_err (b : Nat) (a : Option Addr) (n c : Nat) (l : List Int) (p : Nat) (E : Int) (m : Int) (w : World) (h : RSt w b a n c l p E) (hE : E ≠ 0) :
    Calls Tryz.prog 143 #[.pointer (some ⟨b, 0, none⟩), .int .i64 m] w fun e w' => e = .returned (.int .i64 0) ∧ w' = w := by
  obtain ⟨hlt, c0, c1, c2, c3, f2, f3, hs, cmax, ne, hle⟩ := h
  have hb : (E == 0) = false := by simp [hE]
  clear hs ne
  go_enter Tryz.func143, Tryz.ntmps143
  go_wp2
  go_ret
  exact ⟨rfl, rfl⟩
set_option maxRecDepth 100000 in
set_option maxHeartbeats 400000 in
theorem text_core (b : Nat) (a a' : Option Addr) (n c : Nat) (l : List Int) (p : Nat) (m : Int) (q : m ≤ 9223372036854775807) (w : World) (h : RSt w b a n c l p 0) (n' c' : Nat) (h' : Hs w a' n' c' (l.drop p)) (ha : (∃ g, a = some ⟨g, 0, none⟩ ∧ p < c ∧ a' = some ⟨g, p, none⟩ ∧ n' = n - p ∧ c' = c - p) ∨ (∃ g, a = some ⟨g, 0, none⟩ ∧ n = p ∧ c = p ∧ a' = some ⟨g, 0, none⟩ ∧ n' = 0 ∧ c' = 0) ∨ (a = none ∧ n = 0 ∧ c = 0 ∧ p = 0 ∧ a' = none ∧ n' = 0 ∧ c' = 0)) :
    Calls Tryz.prog 145 #[.pointer (some ⟨b, 0, none⟩), .int .i64 m] w fun e w' => e = .returned (.string (strOfNums (ttList m (l.drop p)))) ∧ ∃ k, w' = ((w.setCell ⟨b, 2, none⟩ (.int .i64 ((p + ttSize m (l.drop p) : Nat) : Int))).setCell ⟨b, 3, none⟩ (.int .i64 (ttErr m (l.drop p)))).drewN k := by
  obtain ⟨hlt, c0, c1, c2, c3, f2, f3, hs, cmax, ne, hle⟩ := h
  have hcap := hs.cap
  have hc' : c' ≤ maxLen := by
    rcases ha with ⟨g, _, _, _, _, hc⟩ | ⟨g, _, _, _, _, _, hc⟩ | ⟨_, _, _, _, _, _, hc⟩ <;> omega
  have HQ := fun k => hide (tt_quiet a' n' c' (l.drop p) m w k h' hc' q)
  have hsz := ttSize_le m (l.drop p)
  have hln : (l.drop p).length = n - p := by rw [List.length_drop, hs.len]
  unfold maxLen at cmax
  clear hs ne h'
  generalize ttList m (l.drop p) = V at *
  generalize ttSize m (l.drop p) = S at *
  generalize ttErr m (l.drop p) = E at *
  have hb1 : p + S ≤ 9223372036854775807 := by omega
  clear hsz hln hc'
  have HS := fun k => hide (step_any b p S E 0 (w.drewN k) c2 c3 f2 f3 hb1)
  rcases ha with ⟨g, rfl, hpc, rfl, rfl, rfl⟩ | ⟨g, rfl, rfl, rfl, rfl, rfl, rfl⟩ | ⟨rfl, rfl, rfl, rfl, rfl, rfl, rfl⟩
  all_goals
    go_enter Tryz.func145, Tryz.ntmps145
    go_wp2_with (go_at_call 150; go_in)
    go_quiet ((go_at_call 154; exact (HQ _).out))
    go_wp2_with fail
    refine (HS _).out.mono ?_
    rintro e w' ⟨rfl, rfl⟩
    clear HS HQ
    go_wp2
    go_ret
    first | exact ⟨rfl, _, rfl⟩ | exact ⟨rfl, nq, by rw [Nat.zero_add]; rfl⟩
theorem rd_text (b : Nat) (a : Option Addr) (n c : Nat) (l : List Int) (p : Nat) (m : Int) (q : m ≤ 9223372036854775807) (w : World) (h : RSt w b a n c l p 0) :
    Calls Tryz.prog 145 #[.pointer (some ⟨b, 0, none⟩), .int .i64 m] w fun e w' => e = .returned (.string (strOfNums (ttList m (l.drop p)))) ∧ RSt w' b a n c l (p + ttSize m (l.drop p)) (ttErr m (l.drop p)) ∧ Only b w w' := by
  have hsz := (ttSize_le m (l.drop p))
  rw [List.length_drop, h.hs.len] at hsz
  have hle := h.le
  have hcap := h.hs.cap
  have fin : ∀ a' n' c', Hs w a' n' c' (l.drop p) → _ → Calls Tryz.prog 145 #[.pointer (some ⟨b, 0, none⟩), .int .i64 m] w fun e w' => e = .returned (.string (strOfNums (ttList m (l.drop p)))) ∧ RSt w' b a n c l (p + ttSize m (l.drop p)) (ttErr m (l.drop p)) ∧ Only b w w' :=
    fun a' n' c' h1 h2 => (text_core b a a' n c l p m q w h n' c' h1 h2).mono (by
      rintro e w' ⟨rfl, k, rfl⟩
      exact ⟨rfl, h.stepped _ _ k (by omega), (((Only.refl _ _).setCell _ _).setCell _ _).drewN k⟩)
  cases ha : a with
  | none =>
    subst ha
    obtain ⟨e1, e2⟩ := h.hs.nil rfl
    have e3 := h.hs.len
    rw [e1] at e3
    obtain rfl : 0 = n := e3
    subst e2
    obtain rfl : p = 0 := by omega
    exact fin none 0 0 h.hs (.inr (.inr ⟨rfl, rfl, rfl, rfl, rfl, rfl, rfl⟩))
  | some x =>
    subst ha
    obtain ⟨g, rfl, hg⟩ := h.ne x rfl
    by_cases hp : p < c
    · exact fin _ _ _ (h.hs.rest p hle) (.inl ⟨g, rfl, hp, rfl, rfl, rfl⟩)
    · have e1 : c = p := by omega
      have e2 : n = p := by omega
      have h2 := h.hs.rest_end (by omega)
      rw [e1] at h2
      exact fin _ 0 0 h2 (.inr (.inl ⟨g, rfl, e2, e1, rfl, rfl, rfl⟩))
theorem rd_text_err (b : Nat) (a : Option Addr) (n c : Nat) (l : List Int) (p : Nat) (E : Int) (m : Int) (w : World) (h : RSt w b a n c l p E) (hE : E ≠ 0) :
    Calls Tryz.prog 145 #[.pointer (some ⟨b, 0, none⟩), .int .i64 m] w fun e w' => e = .returned (.string (strOfNums [])) ∧ w' = w := by
  obtain ⟨hlt, c0, c1, c2, c3, f2, f3, hs, cmax, ne, hle⟩ := h
  have hb : (E == 0) = false := by simp [hE]
  clear hs ne
  go_enter Tryz.func145, Tryz.ntmps145
  go_wp2
  go_ret
  exact ⟨rfl, rfl⟩
theorem rd_number2 (b : Nat) (a : Option Addr) (n c : Nat) (l : List Int) (p : Nat) (w : World) (h : RSt w b a n c l p 0) :
    Calls Tryz.prog 144 #[.pointer (some ⟨b, 0, none⟩)] w fun e w' => e = .returned (.int .u64 (tnVal (l.drop p))) ∧ RSt w' b a n c l (p + tnSize (l.drop p)) (tnErr (l.drop p)) ∧ Only b w w' := by
  have hsz := (tnSize_le (l.drop p) (fun z hz => h.hs.byte z (List.mem_of_mem_drop hz))).1
  rw [List.length_drop, h.hs.len] at hsz
  have hle := h.le
  have hcap := h.hs.cap
  have fin : ∀ a' n' c', Hs w a' n' c' (l.drop p) → _ → Calls Tryz.prog 144 #[.pointer (some ⟨b, 0, none⟩)] w fun e w' => e = .returned (.int .u64 (tnVal (l.drop p))) ∧ RSt w' b a n c l (p + tnSize (l.drop p)) (tnErr (l.drop p)) ∧ Only b w w' :=
    fun a' n' c' h1 h2 => (number_core b a a' n c l p w h n' c' h1 h2).mono (by
      rintro e w' ⟨rfl, k, rfl⟩
      exact ⟨rfl, h.stepped _ _ k (by omega), (((Only.refl _ _).setCell _ _).setCell _ _).drewN k⟩)
  cases ha : a with
  | none =>
    subst ha
    obtain ⟨e1, e2⟩ := h.hs.nil rfl
    have e3 := h.hs.len
    rw [e1] at e3
    obtain rfl : 0 = n := e3
    subst e2
    obtain rfl : p = 0 := by omega
    exact fin none 0 0 h.hs (.inr (.inr ⟨rfl, rfl, rfl, rfl, rfl, rfl, rfl⟩))
  | some x =>
    subst ha
    obtain ⟨g, rfl, hg⟩ := h.ne x rfl
    by_cases hp : p < c
    · exact fin _ _ _ (h.hs.rest p hle) (.inl ⟨g, rfl, hp, rfl, rfl, rfl⟩)
    · have e1 : c = p := by omega
      have e2 : n = p := by omega
      have h2 := h.hs.rest_end (by omega)
      rw [e1] at h2
      exact fin _ 0 0 h2 (.inr (.inl ⟨g, rfl, e2, e1, rfl, rfl, rfl⟩))
theorem rd_int (b : Nat) (a : Option Addr) (n c : Nat) (l : List Int) (p : Nat) (m : Int) (q : m ≤ 9223372036854775807) (w : World) (h : RSt w b a n c l p 0) :
    Calls Tryz.prog 127 #[.pointer (some ⟨b, 0, none⟩), .int .i64 m] w fun e w' => e = .returned (.int .i64 (tcVal m (l.drop p))) ∧ RSt w' b a n c l (p + tcSize m (l.drop p)) (tcErr m (l.drop p)) ∧ Only b w w' := by
  have HC := hide (rd_count b a n c l p m q w h)
  clear h
  go_enter Tryz.func127, Tryz.ntmps127
  go_wp2_with fail
  refine HC.out.mono ?_
  rintro e w' ⟨rfl, h1, h2⟩
  clear HC
  go_wp2
  go_ret
  exact ⟨rfl, h1, h2⟩
theorem rd_int_err (b : Nat) (a : Option Addr) (n c : Nat) (l : List Int) (p : Nat) (E : Int) (m : Int) (w : World) (h : RSt w b a n c l p E) (hE : E ≠ 0) :
    Calls Tryz.prog 127 #[.pointer (some ⟨b, 0, none⟩), .int .i64 m] w fun e w' => e = .returned (.int .i64 0) ∧ w' = w := by
  have HC := hide (rd_count_err b a n c l p E m w h hE)
  clear h
  go_enter Tryz.func127, Tryz.ntmps127
  go_wp2_with fail
  refine HC.out.mono ?_
  rintro e w' ⟨rfl, h1⟩
  rw [h1]
  clear HC
  go_wp2
  go_ret
  exact ⟨rfl, rfl⟩
end Go.Proofs.YtibedokegignhaaGreatDoor.Wi
namespace Go.Proofs.YtibedokegignhaaGreatDoor.Wi
open Go.RowKit
set_option linter.unusedVariables false
def RnPost (p : Nat) (q : List Int) (w : World) (e : Ending) (w' : World) : Prop := e = .returned (.tuple #[.int .u64 (tnVal q), .int .i64 ((p + tnSize q : Nat) : Int), .int .i64 (tnErr q)]) ∧ ∃ k, w' = w.drewN k
theorem RnPost.mk_bad {p : Nat} {q : List Int} {w : World} {E : Int} (k : Nat) (h : tnErr q = E) (hE : E ≠ 0) : RnPost p q w (.returned (.tuple #[.int .u64 0, .int .i64 p, .int .i64 E])) (w.drewN k) := by
  obtain ⟨h1, h2⟩ := tn_bad (l := q) (by rw [h]; exact hE)
  exact ⟨ret3 (by rw [h1]; rfl) (by rw [h2]; rfl) h.symm, k, rfl⟩
theorem RnPost.mk_ok {p : Nat} {k : Int} {d : List Int} {w : World} (j : Nat) (h : tnErr (k :: d) = 0) {v s : Int} (hv : v = (M.rb (d.take k.toNat) : Nat)) (hs : s = ((p + (1 + k.toNat) : Nat) : Int)) : RnPost p (k :: d) w (.returned (.tuple #[.int .u64 v, .int .i64 s, .int .i64 0])) (w.drewN j) := by
  refine ⟨ret3 ?_ ?_ h.symm, j, rfl⟩
  · unfold tnVal; rw [if_pos h, hv]; rfl
  · unfold tnSize; rw [if_pos h, hs]; rfl
theorem rn_none (a : Option Addr) (n c : Nat) (w : World) (hn : n ≤ 9223372036854775807) :
    Calls Tryz.prog 102 #[.slice a n c, .int .i64 n] w fun e w' => RnPost n [] w e w' := by
  go_enter Tryz.func102, Tryz.ntmps102
  go_wp2
  go_ret3
  exact RnPost.mk_bad 0 rfl (by decide)
set_option maxRecDepth 100000 in
set_option maxHeartbeats 1000000 in
theorem rn_more (b o n c p m : Nat) (k : Int) (d : List Int) (w : World) (hn : d.length = m) (hpm : p + m + 1 = n) (hc : n ≤ c) (hmx : n ≤ 9223372036854775807) (h0 : w.cell? ⟨b, o + p, none⟩ = some (.int .u8 k)) (hd : ∀ i, i < m → w.cell? ⟨b, o + (p + 1 + i), none⟩ = some (.int .u8 (d.getD i 0))) (hb : ∀ z ∈ k :: d, 0 ≤ z ∧ z < 256) :
    Calls Tryz.prog 102 #[.slice (some ⟨b, o, none⟩) n c, .int .i64 p] w fun e w' => RnPost p (k :: d) w e w' := by
  obtain ⟨hk0, hk1⟩ := hb k (by simp)
  have hpn : (p : Int) < (n : Int) := by omega
  by_cases h8 : 8 < k
  · have H := hide (tnErr_form (d := d) h8)
    clear hd hb hn
    go_enter Tryz.func102, Tryz.ntmps102
    go_wp2
    go_ret3
    exact RnPost.mk_bad 0 H.out (by decide)
  · by_cases hs : (m : Int) < k
    · have H := hide (tnErr_short (d := d) h8 (by rw [hn]; exact hs))
      have hs2 : (n : Int) - (p : Int) - 1 < k := by omega
      clear hd hb hn
      go_enter Tryz.func102, Tryz.ntmps102
      go_wp2
      go_ret3
      exact RnPost.mk_bad 0 H.out (by decide)
    · have hs2 : ¬ ((n : Int) - (p : Int) - 1 < k) := by omega
      by_cases hz : 0 < k ∧ d.getD 0 0 = 0
      · have H := hide (tnErr_zero h8 (by rw [hn]; exact hs) hz.1 hz.2)
        have hd0 := hd 0 (by omega)
        rw [hz.2, Nat.add_zero] at hd0
        obtain ⟨hz1, _⟩ := hz
        clear hd hb hn
        go_enter Tryz.func102, Tryz.ntmps102
        go_wp2
        go_ret3
        exact RnPost.mk_bad 0 H.out (by decide)
      · have H := hide (tnErr_ok h8 (by rw [hn]; exact hs) hz)
        obtain ⟨K, rfl⟩ := Int.eq_ofNat_of_zero_le hk0
        have hbd : ∀ z ∈ d, 0 ≤ z ∧ z < 256 := fun z hz => hb z (by simp [hz])
        have hKn : K ≤ m := by omega
        have hlen := hide hn
        by_cases hp : 0 < K
        · have hd0 := hd 0 (by omega)
          rw [Nat.add_zero] at hd0
          have hzb : (d[0]?.getD 0 == 0) = false := by
            rw [beq_eq_false_iff_ne]
            intro h
            exact hz ⟨by omega, h⟩
          have HD := hide hd
          clear hb hn hz hd
          go_enter Tryz.func102, Tryz.ntmps102
          go_wp2
          go_loop [8, 9] (fun v i => ∃ j : Nat, j ≤ K ∧ i = .int .i64 j ∧ v = .int .u64 (M.rb (d.take j) : Nat)) (fun _ i => K - (intOf i).toNat)
          case atStart => exact ⟨0, Nat.zero_le _, rfl, rfl⟩
          case round =>
            obtain ⟨j, hj, rfl, rfl⟩ := hrel
            by_cases hlt : j < K
            · have hcell := HD.out j (by omega)
              have hdl : j < d.length := by rw [hlen.out]; omega
              have hz : 0 ≤ d.getD j 0 ∧ d.getD j 0 < 256 := hbd _ (by simp [List.getD, hdl])
              have hv : M.rb (d.take j) < 256 ^ 7 := Nat.lt_of_lt_of_le (M.rb_lt (d.take j) (fun z hz => hbd z (List.mem_of_mem_take hz))) (Nat.pow_le_pow_right (by omega) (by simp; omega))
              have HT := hide (M.rb_take d j hdl)
              have HV := hide hv
              have HZ := hide hz
              have hx1 : (p : Int) + 1 + (j : Int) < (n : Int) := by omega
              clear hdl hv
              go_wp2
              go_round
              case rel =>
                have hv := HV.out
                have hz := HZ.out
                refine ⟨j + 1, by omega, by go_num, int_eq ?_⟩
                rw [HT.out]
                have e : ∀ x : Int, IntKind.u64.wrap x = x % 18446744073709551616 := fun x => by simp [IntKind.wrap, IntKind.bits, IntKind.signed]
                rw [e, e, e, show d[j]?.getD 0 = d.getD j 0 from rfl]
                omega
              case measure => simp [intOf]; omega
            · obtain rfl : j = K := by omega
              go_wp2
              go_ret3
              exact RnPost.mk_ok 0 H.out rfl (by simp; omega)
        · obtain rfl : K = 0 := by omega
          clear hb hn hz hd
          go_enter Tryz.func102, Tryz.ntmps102
          go_wp2
          go_loop [8, 9] (fun v i => v = .int .u64 0 ∧ i = .int .i64 0) (fun _ _ => 0)
          case atStart => exact ⟨rfl, rfl⟩
          case round =>
            obtain ⟨rfl, rfl⟩ := hrel
            go_wp2
            go_ret3
            exact RnPost.mk_ok 0 H.out rfl (by simp)
theorem rn_any (a : Option Addr) (n c : Nat) (l : List Int) (p : Nat) (w : World) (h : Hs w a n c l) (hm : n ≤ 9223372036854775807) (hp : p ≤ n) :
    Calls Tryz.prog 102 #[.slice a n c, .int .i64 p] w fun e w' => RnPost p (l.drop p) w e w' := by
  by_cases hpn : p < n
  · have hlp : p < l.length := by rw [h.len]; exact hpn
    rw [List.drop_eq_getElem_cons hlp]
    cases a with
    | none => have := h.len; rw [(h.nil rfl).1] at this; simp at this; omega
    | some x =>
      obtain ⟨b, o, rfl⟩ := h.flat (by omega)
      have hr := h.row _ rfl
      refine rn_more b o n c p (n - p - 1) _ _ w (by rw [List.length_drop, h.len]; omega) (by omega) h.cap hm ?_ ?_ ?_
      · have := hr p hlp
        rw [Addr.add_lit] at this
        rw [this]
        simp [List.getD, hlp]
      · intro i hi
        have := hr (p + 1 + i) (by rw [h.len]; omega)
        rw [Addr.add_lit] at this
        rw [this]
        simp [List.getD]
      · intro z hz
        rw [← List.drop_eq_getElem_cons hlp] at hz
        exact h.byte z (List.mem_of_mem_drop hz)
  · obtain rfl : p = n := by omega
    rw [List.drop_eq_nil_of_le (by rw [h.len]; exact Nat.le_refl _)]
    exact rn_none a p c w hm
end Go.Proofs.YtibedokegignhaaGreatDoor.Wi
namespace Go.Proofs.YtibedokegignhaaGreatDoor.Wi
open Go.RowKit
set_option linter.unusedVariables false
structure QSt (w : World) (b : Nat) (a : Option Addr) (n c p : Nat) (err : Int) : Prop where
  lt : b < w.heap.size
  c0 : w.cell? ⟨b, 0, none⟩ = some (.slice a n c)
  c1 : w.cell? ⟨b, 1, none⟩ = some (.int .i64 p)
  c2 : w.cell? ⟨b, 2, none⟩ = some (.int .i64 err)
  f1 : w.frozen? ⟨b, 1, none⟩ = false
  f2 : w.frozen? ⟨b, 2, none⟩ = false
  le : p ≤ n
theorem QSt.stepped {w : World} {b : Nat} {a : Option Addr} {n c p : Nat} {E : Int} (h : QSt w b a n c p E) (p' : Nat) (e' : Int) (k : Nat) (hp : p' ≤ n) : QSt (((w.drewN k).setCell ⟨b, 2, none⟩ (.int .i64 e')).setCell ⟨b, 1, none⟩ (.int .i64 (p' : Int))) b a n c p' e' := by
  obtain ⟨hlt, c0, c1, c2, f1, f2, hle⟩ := h
  refine ⟨?_, ?_, ?_, ?_, ?_, ?_, hp⟩
  all_goals go_simp
theorem QSt.failed {w : World} {b : Nat} {a : Option Addr} {n c p : Nat} {E : Int} (h : QSt w b a n c p E) (e' : Int) (k : Nat) : QSt ((w.drewN k).setCell ⟨b, 2, none⟩ (.int .i64 e')) b a n c p e' := by
  obtain ⟨hlt, c0, c1, c2, f1, f2, hle⟩ := h
  refine ⟨?_, ?_, ?_, ?_, ?_, ?_, hle⟩
  all_goals go_simp
theorem rn_quiet (a : Option Addr) (n c : Nat) (l : List Int) (p : Nat) (w : World) (k : Nat) (h : Hs w a n c l) (hm : n ≤ 9223372036854775807) (hp : p ≤ n) :
    Calls Tryz.prog 102 #[.slice a n c, .int .i64 p] (w.drewN k) fun e w' => e = .returned (.tuple #[.int .u64 (tnVal (l.drop p)), .int .i64 ((p + tnSize (l.drop p) : Nat) : Int), .int .i64 (tnErr (l.drop p))]) ∧ ∃ j, w' = w.drewN j := by
  refine (rn_any a n c l p (w.drewN k) (h.later (below_drewN (Below.refl _ _) k)) hm hp).mono ?_
  rintro e w' ⟨rfl, j, rfl⟩
  exact ⟨rfl, _, World.drewN_drewN _ _ _⟩
set_option maxRecDepth 100000 in
theorem rq_number (b : Nat) (a : Option Addr) (n c : Nat) (l : List Int) (p : Nat) (w : World) (h : QSt w b a n c p 0) (hh : Hs w a n c l) (hm : n ≤ 9223372036854775807) :
    Calls Tryz.prog 103 #[.pointer (some ⟨b, 0, none⟩)] w fun e w' => e = .returned (.int .u64 (tnVal (l.drop p))) ∧ QSt w' b a n c (p + tnSize (l.drop p)) (tnErr (l.drop p)) ∧ Only b w w' := by
  have HQS := hide h
  obtain ⟨hlt, c0, c1, c2, f1, f2, hle⟩ := h
  have HN := fun k => hide (rn_quiet a n c l p w k hh hm hle)
  have hsz := tnSize_le (l.drop p) (fun z hz => hh.byte z (List.mem_of_mem_drop hz))
  rw [List.length_drop, hh.len] at hsz
  have hbad := @tn_bad (l.drop p)
  clear hh
  by_cases hE : tnErr (l.drop p) = 0
  · rw [hE] at HN ⊢
    generalize tnVal (l.drop p) = V at *
    generalize tnSize (l.drop p) = S at *
    clear hbad hE
    obtain ⟨hs1, hs2⟩ := hsz
    go_enter Tryz.func103, Tryz.ntmps103
    go_wp2_with fail
    go_quiet ((go_at_call 102; exact (HN _).out))
    go_wp2
    go_ret
    have hq := HQS.out.stepped (p + S) 0 nq (by omega)
    have hbl : Only b w (((w.drewN nq).setCell ⟨b, 2, none⟩ (.int .i64 0)).setCell ⟨b, 1, none⟩ (.int .i64 ((p + S : Nat) : Int))) := (((Only.refl _ _).drewN nq).setCell _ _).setCell _ _
    exact ⟨rfl, hq, hbl⟩
  · obtain ⟨e1, e2⟩ := hbad hE
    rw [e1, e2] at HN ⊢
    have hb : (tnErr (l.drop p) != 0) = true := by simp [hE]
    generalize tnErr (l.drop p) = E at *
    clear hbad hE hsz
    go_enter Tryz.func103, Tryz.ntmps103
    go_wp2_with fail
    go_quiet ((go_at_call 102; exact (HN _).out))
    go_wp2
    go_ret
    exact ⟨rfl, HQS.out.failed E nq, ((Only.refl _ _).drewN nq).setCell _ _⟩
theorem rq_number_err (b : Nat) (a : Option Addr) (n c p : Nat) (E : Int) (w : World) (h : QSt w b a n c p E) (hE : E ≠ 0) :
    Calls Tryz.prog 103 #[.pointer (some ⟨b, 0, none⟩)] w fun e w' => e = .returned (.int .u64 0) ∧ w' = w := by
  obtain ⟨hlt, c0, c1, c2, f1, f2, hle⟩ := h
  have hb : (E != 0) = true := by simp [hE]
  go_enter Tryz.func103, Tryz.ntmps103
  go_wp2
  go_ret
  exact ⟨rfl, rfl⟩
set_option maxRecDepth 100000 in
theorem rq_end (b : Nat) (a : Option Addr) (n c p : Nat) (E : Int) (w : World) (h : QSt w b a n c p E) (hm : n ≤ 9223372036854775807) :
    Calls Tryz.prog 58 #[.pointer (some ⟨b, 0, none⟩)] w fun e w' => e = .returned (.int .i64 (endErr n p E)) ∧ ∃ k, w' = w.drewN k := by
  obtain ⟨hlt, c0, c1, c2, f1, f2, hle⟩ := h
  by_cases hE : E = 0
  · subst hE
    by_cases hp : p < n
    · have H : Hid (endErr n p 0 = 15) := by unfold endErr; rw [if_pos rfl, if_pos hp]; rfl
      go_enter Tryz.func58, Tryz.ntmps58
      go_wp2
      go_quiet (fail)
      go_wp2
      go_ret
      exact ⟨ret_int H.out.symm, _, rfl⟩
    · have H : Hid (endErr n p 0 = 0) := by unfold endErr; rw [if_pos rfl, if_neg hp]; rfl
      go_enter Tryz.func58, Tryz.ntmps58
      go_wp2
      go_quiet (fail)
      go_wp2
      go_ret
      exact ⟨ret_int H.out.symm, _, rfl⟩
  · have H : Hid (endErr n p E = E) := by unfold endErr; rw [if_neg hE]; rfl
    have hb : (E == 0) = false := by simp [hE]
    go_enter Tryz.func58, Tryz.ntmps58
    go_wp2
    go_quiet (fail)
    go_wp2
    go_ret
    exact ⟨ret_int H.out.symm, _, rfl⟩
set_option maxRecDepth 100000 in
theorem rq_int_err (b : Nat) (a : Option Addr) (n c p : Nat) (E m : Int) (w : World) (h : QSt w b a n c p E) (hE : E ≠ 0) :
    Calls Tryz.prog 54 #[.pointer (some ⟨b, 0, none⟩), .int .i64 m] w fun e w' => e = .returned (.int .i64 0) ∧ w' = w := by
  obtain ⟨hlt, c0, c1, c2, f1, f2, hle⟩ := h
  have hb : (E != 0) = true := by simp [hE]
  go_enter Tryz.func54, Tryz.ntmps54
  go_wp2
  go_ret
  exact ⟨rfl, rfl⟩
set_option maxRecDepth 100000 in
theorem rq_text_err (b : Nat) (a : Option Addr) (n c p : Nat) (E m : Int) (w : World) (h : QSt w b a n c p E) (hE : E ≠ 0) :
    Calls Tryz.prog 57 #[.pointer (some ⟨b, 0, none⟩), .int .i64 m] w fun e w' => e = .returned (.string (strOfNums [])) ∧ w' = w := by
  have HI := hide (rq_int_err b a n c p E m w h hE)
  obtain ⟨hlt, c0, c1, c2, f1, f2, hle⟩ := h
  have hb : (E != 0) = true := by simp [hE]
  go_enter Tryz.func57, Tryz.ntmps57
  go_wp2_with fail
  refine HI.out.mono ?_
  rintro e w' ⟨rfl, hw⟩
  rw [hw]
  clear hw HI
  go_wp2
  go_ret
  exact ⟨rfl, rfl⟩
set_option maxRecDepth 100000 in
set_option maxHeartbeats 1000000 in
theorem rq_int (b : Nat) (a : Option Addr) (n c : Nat) (l : List Int) (p : Nat) (m : Int) (q : m ≤ 9223372036854775807) (w : World) (h : QSt w b a n c p 0) (hh : Hs w a n c l) (hm : n ≤ 9223372036854775807) :
    Calls Tryz.prog 54 #[.pointer (some ⟨b, 0, none⟩), .int .i64 m] w fun e w' => e = .returned (.int .i64 (tcVal m (l.drop p))) ∧ QSt w' b a n c (p + tcSize m (l.drop p)) (tcErr m (l.drop p)) ∧ Only b w w' := by
  have HQS := hide h
  obtain ⟨hlt, c0, c1, c2, f1, f2, hle⟩ := h
  have HN := fun k => hide (rn_quiet a n c l p w k hh hm hle)
  have hsz := tnSize_le (l.drop p) (fun z hz => hh.byte z (List.mem_of_mem_drop hz))
  rw [List.length_drop, hh.len] at hsz
  obtain ⟨hs1, hs2⟩ := hsz
  clear hh
  have hbad := @tc_bad m (l.drop p)
  by_cases hm0 : m < 0
  · have H : tcErr m (l.drop p) = 3 := by unfold tcErr; rw [if_pos hm0]
    obtain ⟨e1, e2⟩ := hbad (by rw [H]; decide)
    rw [e1, e2, H]
    clear HN H e1 e2 hbad hs1 hs2
    go_enter Tryz.func54, Tryz.ntmps54
    go_wp2
    go_ret
    exact ⟨rfl, HQS.out.failed 3 0, (Only.refl _ _).setCell _ _⟩
  · obtain ⟨q0, rfl⟩ := Int.eq_ofNat_of_zero_le (Int.not_lt.1 hm0)
    clear hm0
    by_cases hE : tnErr (l.drop p) = 0
    · by_cases hV : q0 < tnVal (l.drop p)
      · have H : tcErr q0 (l.drop p) = 11 := by unfold tcErr; rw [if_neg (by omega), if_neg (by simp [hE]), if_pos (by omega)]
        obtain ⟨e1, e2⟩ := hbad (by rw [H]; decide)
        rw [e1, e2, H]
        rw [hE] at HN
        clear H e1 e2 hbad hE
        generalize tnVal (l.drop p) = V at *
        generalize tnSize (l.drop p) = S at *
        go_enter Tryz.func54, Tryz.ntmps54
        go_wp2_with fail
        go_quiet ((go_at_call 102; exact (HN _).out))
        go_wp2
        go_ret
        exact ⟨rfl, HQS.out.failed 11 nq, ((Only.refl _ _).drewN nq).setCell _ _⟩
      · have H : tcErr q0 (l.drop p) = 0 := by unfold tcErr; rw [if_neg (by omega), if_neg (by simp [hE]), if_neg (by omega)]
        have H1 : tcVal q0 (l.drop p) = tnVal (l.drop p) := by unfold tcVal; rw [if_pos H]
        have H2 : tcSize q0 (l.drop p) = tnSize (l.drop p) := by unfold tcSize; rw [if_pos H]
        rw [H, H1, H2]
        rw [hE] at HN
        clear H H1 H2 hbad hE
        generalize tnVal (l.drop p) = V at *
        generalize tnSize (l.drop p) = S at *
        go_enter Tryz.func54, Tryz.ntmps54
        go_wp2_with fail
        go_quiet ((go_at_call 102; exact (HN _).out))
        go_wp2
        go_ret
        have hq := HQS.out.stepped (p + S) 0 nq (by omega)
        have hbl : Only b w (((w.drewN nq).setCell ⟨b, 2, none⟩ (.int .i64 0)).setCell ⟨b, 1, none⟩ (.int .i64 ((p + S : Nat) : Int))) := (((Only.refl _ _).drewN nq).setCell _ _).setCell _ _
        exact ⟨rfl, hq, hbl⟩
    · have H : tcErr q0 (l.drop p) = tnErr (l.drop p) := by unfold tcErr; rw [if_neg (by omega), if_pos hE]
      obtain ⟨e1, e2⟩ := hbad (by rw [H]; exact hE)
      rw [e1, e2, H]
      have hb : (tnErr (l.drop p) != 0) = true := by simp [hE]
      have hb2 : (tnErr (l.drop p) == 0) = false := by simp [hE]
      clear H e1 e2 hbad hE
      generalize tnErr (l.drop p) = E at *
      generalize tnVal (l.drop p) = V at *
      generalize tnSize (l.drop p) = S at *
      go_enter Tryz.func54, Tryz.ntmps54
      go_wp2_with fail
      go_quiet ((go_at_call 102; exact (HN _).out))
      go_wp2
      go_ret
      exact ⟨rfl, HQS.out.failed E nq, ((Only.refl _ _).drewN nq).setCell _ _⟩
end Go.Proofs.YtibedokegignhaaGreatDoor.Wi
namespace Go.Proofs.YtibedokegignhaaGreatDoor.Wi
open Go.RowKit
set_option linter.unusedVariables false
theorem ok_len {m : Int} {q : List Int} (hE : tcErr m q = 0) : 0 < q.length := by
  refine List.length_pos_iff.2 ?_
  rintro rfl
  unfold tcErr at hE
  split at hE
  · cases hE
  · simp [tnErr] at hE
theorem ret_str {x y : ByteArray} (h : x = y) : Ending.returned (.string x) = .returned (.string y) := by rw [h]
theorem QSt.moved {w : World} {b : Nat} {a : Option Addr} {n c p : Nat} {E : Int} (h : QSt w b a n c p E) (p' : Nat) (k : Nat) (hp : p' ≤ n) : QSt ((w.drewN k).setCell ⟨b, 1, none⟩ (.int .i64 (p' : Int))) b a n c p' E := by
  obtain ⟨hlt, c0, c1, c2, f1, f2, hle⟩ := h
  refine ⟨?_, ?_, ?_, ?_, ?_, ?_, hp⟩
  all_goals go_simp
set_option maxRecDepth 100000 in
set_option maxHeartbeats 1000000 in
theorem rq_text (b : Nat) (a : Option Addr) (n c : Nat) (l : List Int) (p : Nat) (m : Int) (q : m ≤ 9223372036854775807) (w : World) (h : QSt w b a n c p 0) (hk : ∀ w', Only b w w' → Hs w' a n c l) (hm : n ≤ 9223372036854775807) :
    Calls Tryz.prog 57 #[.pointer (some ⟨b, 0, none⟩), .int .i64 m] w fun e w' => e = .returned (.string (strOfNums (ttList m (l.drop p)))) ∧ QSt w' b a n c (p + ttSize m (l.drop p)) (ttErr m (l.drop p)) ∧ Only b w w' := by
  have HI := hide (rq_int b a n c l p m q w h (hk w (Only.refl _ _)) hm)
  have hlen := (hk w (Only.refl _ _)).len
  have hcap := (hk w (Only.refl _ _)).cap
  have hsz := (tcSize_le m (l.drop p) (fun z hz => (hk w (Only.refl _ _)).byte z (List.mem_of_mem_drop hz)))
  have hln : (l.drop p).length = n - p := by rw [List.length_drop, hlen]
  rw [hln] at hsz
  obtain ⟨hs1, hs2⟩ := hsz
  have hvl := tcVal_le m (l.drop p) q
  obtain ⟨hlt, c0, c1, c2, f1, f2, hle⟩ := h
  by_cases hE : tcErr m (l.drop p) = 0
  · have hpos := ok_len hE
    rw [hln] at hpos
    by_cases hS : (l.drop p).length < tcSize m (l.drop p) + tcVal m (l.drop p)
    · have H : ttErr m (l.drop p) = 10 := by unfold ttErr; rw [if_neg (by simp [hE]), if_pos hS]
      obtain ⟨e1, e2⟩ := tt_bad (m := m) (l := l.drop p) (by rw [H]; decide)
      rw [e1, e2, H]
      rw [hE] at HI
      rw [hln] at hS
      clear e1 e2 H hE hk hln hlen
      generalize tcVal m (l.drop p) = V at *
      generalize tcSize m (l.drop p) = S at *
      go_enter Tryz.func57, Tryz.ntmps57
      go_wp2_with fail
      refine HI.out.mono ?_
      rintro e w1 ⟨rfl, HQ, bw⟩
      clear HI c0 c1 c2 f1 f2
      have HQS := hide HQ
      obtain ⟨hlt1, c0, c1, c2, f1, f2, hle1⟩ := HQ
      have hx : (n : Int) - ((p + S : Nat) : Int) < (V : Int) := by omega
      go_wp2
      go_quiet (fail)
      go_wp2
      go_ret
      exact ⟨rfl, HQS.out.stepped p 10 nq hle, ((bw.drewN nq).setCell _ _).setCell _ _⟩
    · have H : ttErr m (l.drop p) = 0 := by unfold ttErr; rw [if_neg (by simp [hE]), if_neg hS]
      have H1 : ttList m (l.drop p) = ((l.drop p).drop (tcSize m (l.drop p))).take (tcVal m (l.drop p)) := by unfold ttList; rw [if_pos H]
      have H2 : ttSize m (l.drop p) = tcSize m (l.drop p) + tcVal m (l.drop p) := by unfold ttSize; rw [if_pos H]
      rw [List.drop_drop] at H1
      rw [H, H1, H2]
      rw [hE] at HI
      rw [hln] at hS
      clear H H1 H2 hE hln
      generalize tcVal m (l.drop p) = V at *
      generalize tcSize m (l.drop p) = S at *
      cases a with
      | none => have h3 := hk w (Only.refl _ _); rw [(h3.nil rfl).1] at hlen; simp at hlen; omega
      | some x =>
      obtain ⟨g, o, rfl⟩ := (hk w (Only.refl _ _)).flat (by omega)
      have hle2 : (p + S) + V ≤ n := by omega
      have hlS : ((l.drop (p + S)).take V) = ((l.drop (p + S)).take V) := rfl
      by_cases hSc : p + S < c
      · go_enter Tryz.func57, Tryz.ntmps57
        go_wp2_with fail
        refine HI.out.mono ?_
        rintro e w1 ⟨rfl, HQ, bw⟩
        have kc := fun j => conv_hs (w1.drewN j) _ _ _ _ ((((hk w1 bw).rest' (p + S) (by omega)).cut V (by omega)).later (below_drewN (Below.refl _ _) j))
        clear HI c0 c1 c2 f1 f2 hk hlen hlS
        have HQS := hide HQ
        obtain ⟨hlt1, c0, c1, c2, f1, f2, hle1⟩ := HQ
        generalize hL : ((l.drop (p + S)).take V) = L at *
        generalize hps : p + S = ps at *
        have HL := hide (hps ▸ hL : ((l.drop (p + S)).take V) = L)
        have HP := hide hps
        clear hL
        have hx : ¬ ((n : Int) - (ps : Int) < (V : Int)) := by omega
        have hx2 : (ps : Int) + (V : Int) ≤ (n : Int) := by omega
        clear hps
        go_wp2
        go_quiet (fail)
        go_wp2
        go_quiet (fail)
        go_wp2
        go_ret
        have hq := fun k => HQS.out.moved (ps + V) k (by omega)
        rw [Int.natCast_add] at hq
        refine ⟨ret_str (by rw [HL.out]), ?_, (bw.drewN _).setCell _ _⟩
        rw [← Nat.add_assoc, HP.out]
        exact hq _
      · have e1 : n = c := by omega
        have e2 : p + S = c := by omega
        have e3 : V = 0 := by omega
        subst e3
        have hZ : ∀ w', Hs w' (some ⟨g, o, none⟩) 0 0 [] := fun w' => ⟨rfl, Nat.le_refl _, fun x hx i hi => by (simp at hi), fun hx => by (cases hx), fun z hz => by (cases hz)⟩
        have kc := fun w' => conv_hs w' _ _ _ _ (hZ w')
        rw [List.take_zero]
        go_enter Tryz.func57, Tryz.ntmps57
        go_wp2_with fail
        refine HI.out.mono ?_
        rintro e w1 ⟨rfl, HQ, bw⟩
        clear HI c0 c1 c2 f1 f2 hk hlen hlS hZ
        rw [e2] at HQ
        have HP := hide e2
        clear e2
        have HQS := hide HQ
        obtain ⟨hlt1, c0, c1, c2, f1, f2, hle1⟩ := HQ
        subst e1
        go_wp2
        go_quiet (fail)
        go_wp2
        go_quiet (fail)
        go_wp2
        go_ret
        have hq := fun k => HQS.out.moved n k (by omega)
        refine ⟨rfl, ?_, (bw.drewN _).setCell _ _⟩
        rw [Nat.add_zero, HP.out]
        exact hq _
  · have H : ttErr m (l.drop p) = tcErr m (l.drop p) := by unfold ttErr; rw [if_pos hE]
    obtain ⟨e1, e2⟩ := tt_bad (m := m) (l := l.drop p) (by rw [H]; exact hE)
    obtain ⟨e3, e4⟩ := tc_bad hE
    rw [e1, e2, H]
    have hb : (tcErr m (l.drop p) != 0) = true := by simp [hE]
    rw [e3, e4] at HI
    clear H e1 e2 e3 e4 hE hs1 hs2 hvl hk
    generalize tcErr m (l.drop p) = E at *
    go_enter Tryz.func57, Tryz.ntmps57
    go_wp2_with fail
    refine HI.out.mono ?_
    rintro e w1 ⟨rfl, HQ, bw⟩
    clear HI c0 c1 c2 f1 f2
    have HQS := hide HQ
    obtain ⟨hlt1, c0, c1, c2, f1, f2, hle1⟩ := HQ
    go_wp2
    go_ret
    exact ⟨rfl, HQS.out, bw⟩
end Go.Proofs.YtibedokegignhaaGreatDoor.Wi
namespace Go.Proofs.YtibedokegignhaaGreatDoor.Wi
open Go.RowKit
set_option linter.unusedVariables false
def sel (E : Int) (x : Nat) : Nat := if E = 0 then x else 0
def selE (E e : Int) : Int := if E = 0 then e else E
def selL (E : Int) (L : List Int) : List Int := if E = 0 then L else []
theorem sel_ok (x : Nat) : sel 0 x = x := rfl
theorem selE_ok (e : Int) : selE 0 e = e := rfl
theorem sel_no {E : Int} (h : E ≠ 0) (x : Nat) : sel E x = 0 := by unfold sel; rw [if_neg h]
theorem selE_no {E : Int} (h : E ≠ 0) (e : Int) : selE E e = E := by unfold selE; rw [if_neg h]
theorem selL_no {E : Int} (h : E ≠ 0) (L : List Int) : selL E L = [] := by unfold selL; rw [if_neg h]
theorem ru_number (b : Nat) (a : Option Addr) (n c : Nat) (l : List Int) (p : Nat) (E : Int) (w : World) (h : RSt w b a n c l p E) :
    Calls Tryz.prog 144 #[.pointer (some ⟨b, 0, none⟩)] w fun e w' => e = .returned (.int .u64 (sel E (tnVal (l.drop p)))) ∧ RSt w' b a n c l (p + sel E (tnSize (l.drop p))) (selE E (tnErr (l.drop p))) ∧ Only b w w' := by
  by_cases hE : E = 0
  · subst hE
    exact rd_number2 b a n c l p w h
  · rw [sel_no hE, sel_no hE, selE_no hE]
    refine (rd_number_err b a n c l p E w h hE).mono ?_
    rintro e w' ⟨rfl, rfl⟩
    exact ⟨rfl, h, Only.refl _ _⟩
theorem ru_count (b : Nat) (a : Option Addr) (n c : Nat) (l : List Int) (p : Nat) (E : Int) (m : Int) (q : m ≤ 9223372036854775807) (w : World) (h : RSt w b a n c l p E) :
    Calls Tryz.prog 143 #[.pointer (some ⟨b, 0, none⟩), .int .i64 m] w fun e w' => e = .returned (.int .i64 (sel E (tcVal m (l.drop p)))) ∧ RSt w' b a n c l (p + sel E (tcSize m (l.drop p))) (selE E (tcErr m (l.drop p))) ∧ Only b w w' := by
  by_cases hE : E = 0
  · subst hE
    exact rd_count b a n c l p m q w h
  · rw [sel_no hE, sel_no hE, selE_no hE]
    refine (rd_count_err b a n c l p E m w h hE).mono ?_
    rintro e w' ⟨rfl, rfl⟩
    exact ⟨rfl, h, Only.refl _ _⟩
theorem ru_int (b : Nat) (a : Option Addr) (n c : Nat) (l : List Int) (p : Nat) (E : Int) (m : Int) (q : m ≤ 9223372036854775807) (w : World) (h : RSt w b a n c l p E) :
    Calls Tryz.prog 127 #[.pointer (some ⟨b, 0, none⟩), .int .i64 m] w fun e w' => e = .returned (.int .i64 (sel E (tcVal m (l.drop p)))) ∧ RSt w' b a n c l (p + sel E (tcSize m (l.drop p))) (selE E (tcErr m (l.drop p))) ∧ Only b w w' := by
  by_cases hE : E = 0
  · subst hE
    exact rd_int b a n c l p m q w h
  · rw [sel_no hE, sel_no hE, selE_no hE]
    refine (rd_int_err b a n c l p E m w h hE).mono ?_
    rintro e w' ⟨rfl, rfl⟩
    exact ⟨rfl, h, Only.refl _ _⟩
theorem ru_text (b : Nat) (a : Option Addr) (n c : Nat) (l : List Int) (p : Nat) (E : Int) (m : Int) (q : m ≤ 9223372036854775807) (w : World) (h : RSt w b a n c l p E) :
    Calls Tryz.prog 145 #[.pointer (some ⟨b, 0, none⟩), .int .i64 m] w fun e w' => e = .returned (.string (strOfNums (selL E (ttList m (l.drop p))))) ∧ RSt w' b a n c l (p + sel E (ttSize m (l.drop p))) (selE E (ttErr m (l.drop p))) ∧ Only b w w' := by
  by_cases hE : E = 0
  · subst hE
    exact rd_text b a n c l p m q w h
  · rw [selL_no hE, sel_no hE, selE_no hE]
    refine (rd_text_err b a n c l p E m w h hE).mono ?_
    rintro e w' ⟨rfl, rfl⟩
    exact ⟨rfl, h, Only.refl _ _⟩
theorem qu_number (b : Nat) (a : Option Addr) (n c : Nat) (l : List Int) (p : Nat) (E : Int) (w : World) (h : QSt w b a n c p E) (hk : ∀ w', Only b w w' → Hs w' a n c l) (hm : n ≤ 9223372036854775807) :
    Calls Tryz.prog 103 #[.pointer (some ⟨b, 0, none⟩)] w fun e w' => e = .returned (.int .u64 (sel E (tnVal (l.drop p)))) ∧ QSt w' b a n c (p + sel E (tnSize (l.drop p))) (selE E (tnErr (l.drop p))) ∧ Only b w w' := by
  by_cases hE : E = 0
  · subst hE
    exact rq_number b a n c l p w h (hk w (Only.refl _ _)) hm
  · rw [sel_no hE, sel_no hE, selE_no hE]
    refine (rq_number_err b a n c p E w h hE).mono ?_
    rintro e w' ⟨rfl, rfl⟩
    exact ⟨rfl, h, Only.refl _ _⟩
theorem qu_int (b : Nat) (a : Option Addr) (n c : Nat) (l : List Int) (p : Nat) (E : Int) (m : Int) (q : m ≤ 9223372036854775807) (w : World) (h : QSt w b a n c p E) (hk : ∀ w', Only b w w' → Hs w' a n c l) (hm : n ≤ 9223372036854775807) :
    Calls Tryz.prog 54 #[.pointer (some ⟨b, 0, none⟩), .int .i64 m] w fun e w' => e = .returned (.int .i64 (sel E (tcVal m (l.drop p)))) ∧ QSt w' b a n c (p + sel E (tcSize m (l.drop p))) (selE E (tcErr m (l.drop p))) ∧ Only b w w' := by
  by_cases hE : E = 0
  · subst hE
    exact rq_int b a n c l p m q w h (hk w (Only.refl _ _)) hm
  · rw [sel_no hE, sel_no hE, selE_no hE]
    refine (rq_int_err b a n c p E m w h hE).mono ?_
    rintro e w' ⟨rfl, rfl⟩
    exact ⟨rfl, h, Only.refl _ _⟩
theorem qu_text (b : Nat) (a : Option Addr) (n c : Nat) (l : List Int) (p : Nat) (E : Int) (m : Int) (q : m ≤ 9223372036854775807) (w : World) (h : QSt w b a n c p E) (hk : ∀ w', Only b w w' → Hs w' a n c l) (hm : n ≤ 9223372036854775807) :
    Calls Tryz.prog 57 #[.pointer (some ⟨b, 0, none⟩), .int .i64 m] w fun e w' => e = .returned (.string (strOfNums (selL E (ttList m (l.drop p))))) ∧ QSt w' b a n c (p + sel E (ttSize m (l.drop p))) (selE E (ttErr m (l.drop p))) ∧ Only b w w' := by
  by_cases hE : E = 0
  · subst hE
    exact rq_text b a n c l p m q w h hk hm
  · rw [selL_no hE, sel_no hE, selE_no hE]
    refine (rq_text_err b a n c p E m w h hE).mono ?_
    rintro e w' ⟨rfl, rfl⟩
    exact ⟨rfl, h, Only.refl _ _⟩
end Go.Proofs.YtibedokegignhaaGreatDoor.Wi
namespace Go.Proofs.YtibedokegignhaaGreatDoor
open Go.RowKit Go.Maps
open Classical
set_option linter.unusedVariables false
set_option linter.unusedSimpArgs false
def rN (l : List Int) (s : Nat × Int) : Nat := Wi.sel s.2 (Wi.tnVal (l.drop s.1))
def sN (l : List Int) (s : Nat × Int) : Nat × Int := (s.1 + Wi.sel s.2 (Wi.tnSize (l.drop s.1)), Wi.selE s.2 (Wi.tnErr (l.drop s.1)))
def rI (m : Int) (l : List Int) (s : Nat × Int) : Nat := Wi.sel s.2 (Wi.tcVal m (l.drop s.1))
def sI (m : Int) (l : List Int) (s : Nat × Int) : Nat × Int := (s.1 + Wi.sel s.2 (Wi.tcSize m (l.drop s.1)), Wi.selE s.2 (Wi.tcErr m (l.drop s.1)))
def rT (l : List Int) (s : Nat × Int) : ByteArray := strOfNums (Wi.selL s.2 (Wi.ttList 64 (l.drop s.1)))
def sT (l : List Int) (s : Nat × Int) : Nat × Int := (s.1 + Wi.sel s.2 (Wi.ttSize 64 (l.drop s.1)), Wi.selE s.2 (Wi.ttErr 64 (l.drop s.1)))
def mxI : Int := 9223372036854775807
def rD (l : List Int) (s : Nat × Int) : Int × Int := ((rN l s : Int), (rN l (sN l s) : Int))
def sD (l : List Int) (s : Nat × Int) : Nat × Int := sN l (sN l s)
def s2 (l : List Int) (s : Nat × Int) : Nat × Int := sI mxI l (sI mxI l s)
def rO (l : List Int) (s : Nat × Int) : Opn := ⟨(rI mxI l s : Int), (rI mxI l (sI mxI l s) : Int), rT l (s2 l s)⟩
def sO (l : List Int) (s : Nat × Int) : Nat × Int := sT l (s2 l s)
def rE (l : List Int) (s : Nat × Int) : En := ⟨(rI mxI l s : Int), (rI mxI l (sI mxI l s) : Int), rO l (s2 l s)⟩
def sE (l : List Int) (s : Nat × Int) : Nat × Int := sO l (s2 l s)
def RD (N : Nat) (w : World) (b : Nat) (l : List Int) (s : Nat × Int) : Prop := ∃ a n c, Wi.RSt w b a n c l s.1 s.2 ∧ b < N ∧ N ≤ w.heap.size ∧ ∀ x, a = some x → 0 < l.length → x.block < N
theorem RD.lt {N : Nat} {w : World} {b : Nat} {l : List Int} {s : Nat × Int} (h : RD N w b l s) : b < N ∧ N ≤ w.heap.size := by
  obtain ⟨a, n, c, h, h1, h2, h3⟩ := h
  exact ⟨h1, h2⟩
def UB (b : Nat) (w w' : World) : Prop := Upd (fun k => k = b) w w'
theorem UB.trans {b : Nat} {u v w : World} (h : UB b u v) (k : UB b v w) : UB b u w := Upd.trans h k
theorem UB.of_below {b : Nat} {w w' : World} (h : Below w.heap.size w w') : UB b w w' := Upd.of_below h
theorem UB.of_only {b : Nat} {w w' : World} (h : Wi.Only b w w') : UB b w w' := ⟨h.bel.os, h.bel.tape, h.bel.output, by rw [h.same]; exact Nat.le_refl _, fun k _ hs => h.block k hs⟩
theorem UB.below {b B : Nat} {w w' : World} (h : UB b w w') (hB : B ≤ w.heap.size) (hb : B ≤ b) : Below B w w' := Upd.below h hB (fun k hk => by omega)
theorem RD.ub {N : Nat} {w w' : World} {b : Nat} {l : List Int} {s : Nat × Int} {S : Nat → Prop} (h : RD N w b l s) (u : Upd S w w') (hS : ∀ k, k < N → ¬ S k) : RD N w' b l s := by
  obtain ⟨a, n, c, h, h1, h2, h3⟩ := h
  have hb := hS b h1
  refine ⟨a, n, c, ⟨Nat.lt_of_lt_of_le h.lt u.size, (u.cell (p := ⟨b, 0, none⟩) h.lt hb).trans h.c0, (u.cell (p := ⟨b, 1, none⟩) h.lt hb).trans h.c1, (u.cell (p := ⟨b, 2, none⟩) h.lt hb).trans h.c2, (u.cell (p := ⟨b, 3, none⟩) h.lt hb).trans h.c3, (u.frozen (p := ⟨b, 2, none⟩) h.lt hb).trans h.f2, (u.frozen (p := ⟨b, 3, none⟩) h.lt hb).trans h.f3, ⟨h.hs.len, h.hs.cap, fun x hx i hi => ?_, h.hs.nil, h.hs.byte⟩, h.cmax, h.ne, h.le⟩, h1, Nat.le_trans h2 u.size, h3⟩
  have hx3 := h3 x hx (by omega)
  have hr := h.hs.row x hx i hi
  obtain ⟨g, rfl, hg⟩ := h.ne x hx
  rw [Addr.add_lit] at hr ⊢
  rw [u.cell (p := ⟨g, 0 + i, none⟩) (Nat.lt_of_lt_of_le hx3 h2) (hS g hx3)]
  exact hr
theorem RD.later {N : Nat} {w w' : World} {b : Nat} {l : List Int} {s : Nat × Int} (h : RD N w b l s) (hb : Below w.heap.size w w') : RD N w' b l s := h.ub (S := fun _ => False) (Upd.of_below hb) (fun _ _ => id)
theorem rd_N (N : Nat) (b : Nat) (l : List Int) (s : Nat × Int) (w : World) (h : RD N w b l s) : Calls Tryz.prog 144 #[.pointer (some ⟨b, 0, none⟩)] w fun e w' => e = .returned (.int .u64 (rN l s : Int)) ∧ RD N w' b l (sN l s) ∧ UB b w w' := by
  obtain ⟨a, n, c, h, k1, k2, k3⟩ := h
  exact (Wi.ru_number b a n c l s.1 s.2 w h).mono (fun e w' ⟨h1, h2, h3⟩ => ⟨h1, ⟨a, n, c, h2, k1, by rw [h3.same]; exact k2, k3⟩, UB.of_only h3⟩)
theorem rd_I (N : Nat) (b : Nat) (m : Int) (hm : m ≤ 9223372036854775807) (l : List Int) (s : Nat × Int) (w : World) (h : RD N w b l s) : Calls Tryz.prog 127 #[.pointer (some ⟨b, 0, none⟩), .int .i64 m] w fun e w' => e = .returned (.int .i64 (rI m l s : Int)) ∧ RD N w' b l (sI m l s) ∧ UB b w w' := by
  obtain ⟨a, n, c, h, k1, k2, k3⟩ := h
  exact (Wi.ru_int b a n c l s.1 s.2 m hm w h).mono (fun e w' ⟨h1, h2, h3⟩ => ⟨h1, ⟨a, n, c, h2, k1, by rw [h3.same]; exact k2, k3⟩, UB.of_only h3⟩)
theorem rd_C (N : Nat) (b : Nat) (m : Int) (hm : m ≤ 9223372036854775807) (l : List Int) (s : Nat × Int) (w : World) (h : RD N w b l s) : Calls Tryz.prog 143 #[.pointer (some ⟨b, 0, none⟩), .int .i64 m] w fun e w' => e = .returned (.int .i64 (rI m l s : Int)) ∧ RD N w' b l (sI m l s) ∧ UB b w w' := by
  obtain ⟨a, n, c, h, k1, k2, k3⟩ := h
  exact (Wi.ru_count b a n c l s.1 s.2 m hm w h).mono (fun e w' ⟨h1, h2, h3⟩ => ⟨h1, ⟨a, n, c, h2, k1, by rw [h3.same]; exact k2, k3⟩, UB.of_only h3⟩)
theorem rd_T (N : Nat) (b : Nat) (l : List Int) (s : Nat × Int) (w : World) (h : RD N w b l s) : Calls Tryz.prog 145 #[.pointer (some ⟨b, 0, none⟩), .int .i64 64] w fun e w' => e = .returned (.string (rT l s)) ∧ RD N w' b l (sT l s) ∧ UB b w w' := by
  obtain ⟨a, n, c, h, k1, k2, k3⟩ := h
  exact (Wi.ru_text b a n c l s.1 s.2 64 (by decide) w h).mono (fun e w' ⟨h1, h2, h3⟩ => ⟨h1, ⟨a, n, c, h2, k1, by rw [h3.same]; exact k2, k3⟩, UB.of_only h3⟩)
theorem ex_buildP {o : Oper} {ρ : Operand → Value} {s : TypeId} {ps : Array (Nat × Operand)} {P : Array (Nat × Value)} {V : Value} {w : World} (ho : o.op = .build s ps) (hp : ps.map (fun (i, x) => (i, ρ x)) = P) (hr : (Instr.build s P).run Tryz.prog w = .ok V w) : (execOp ρ o).run Tryz.prog w = .ok (.value V) w := by
  unfold execOp
  simp only [ho, hp, Sem.run_bind, hr, Result.andThen_ok]
  rfl
theorem bdDr (x y : Int) (w : World) : (Instr.build 33 #[(0, .int .u64 x), (1, .int .u64 y)]).run Tryz.prog w = .ok (.agg #[.int .u64 x, .int .u64 y]) w := by go_simp
theorem bdEn (x y : Int) (w : World) : (Instr.build 28 #[(0, .int .i64 x), (1, .int .i64 y)]).run Tryz.prog w = .ok (.agg #[.int .i64 x, .int .i64 y, .int .i64 0, .int .i64 0, .string ⟨#[]⟩]) w := by go_simp
theorem bdOp (x y : Int) (v : ByteArray) (w : World) : (Instr.build 26 #[(0, .int .i64 x), (1, .int .i64 y), (2, .string v)]).run Tryz.prog w = .ok (.agg #[.int .i64 x, .int .i64 y, .string v]) w := by go_simp
theorem bdRs (x y : Int) (v : ByteArray) (w : World) : (Instr.build 30 #[(0, .int .i64 x), (1, .int .i64 y), (2, .string v)]).run Tryz.prog w = .ok (.agg #[.int .i64 x, .int .i64 y, .string v]) w := by go_simp
structure Bx (w : World) (q : Nat) (cs : List Value) : Prop where
  lt : q < w.heap.size
  cell : ∀ i x, cs[i]? = some x → w.cell? ⟨q, i, none⟩ = some x
  free : ∀ i, w.frozen? ⟨q, i, none⟩ = false
theorem Bx.ub {w w' : World} {q b : Nat} {cs : List Value} (h : Bx w q cs) (u : UB b w w') (hq : q ≠ b) : Bx w' q cs :=
  ⟨Nat.lt_of_lt_of_le h.lt u.size, fun i x hx => (u.cell (p := ⟨q, i, none⟩) h.lt hq).trans (h.cell i x hx), fun i => (u.frozen (p := ⟨q, i, none⟩) h.lt hq).trans (h.free i)⟩
theorem Bx.new (w : World) (cs : List Value) (t : TypeId) : Bx (w.alloc (.cells cs.toArray t)) w.heap.size cs :=
  ⟨by simp, fun i x hx => cell_box _ _ _ _ _ (by simpa using hx), fun i => froz_box _ _ _ _⟩
theorem Bx.later {w w' : World} {q : Nat} {cs : List Value} (h : Bx w q cs) (hb : Below w.heap.size w w') : Bx w' q cs :=
  ⟨Nat.lt_of_lt_of_le h.lt hb.size, fun i x hx => (hb.cell (p := ⟨q, i, none⟩) h.lt).trans (h.cell i x hx), fun i => (hb.frozen (p := ⟨q, i, none⟩) h.lt).trans (h.free i)⟩
theorem Bx.put {w : World} {q : Nat} {cs : List Value} (h : Bx w q cs) (cs' : List Value) (hl : cs'.length ≤ cs.length) : Bx (sets w q 0 cs') q cs' ∧ UB q w (sets w q 0 cs') := by
  refine ⟨⟨by rw [size_sets]; exact h.lt, fun i x hx => ?_, fun i => sets_free _ _ _ (h.free i)⟩, upd_sets (S := fun b => b = q) (b := q) rfl _ _ _ (Upd.refl _ _)⟩
  have := sets_at (b := q) cs' 0 w (fun k hk => ⟨_, by rw [Nat.zero_add]; exact h.cell k _ (List.getElem?_eq_getElem (show k < cs.length by omega))⟩) i x hx
  rw [Nat.zero_add] at this
  exact this
theorem Bx.st {w : World} {q : Nat} {cs : List Value} (h : Bx w q cs) (ty : TypeId) (cs' : List Value) (hl : cs'.length = cs.length) (hi : (Tryz.prog.info? ty).map (·.size) = some cs'.toArray.size) (h1 : cs'.toArray.all (·.oneCell') = true) : (Instr.storeAt ty (.pointer (some ⟨q, 0, none⟩)) (.agg cs'.toArray)).run Tryz.prog w = .ok () (sets w q 0 cs') := by
  have := run_storeAt_mid (P := Tryz.prog) w q 0 ty cs'.toArray (fun j hj => ⟨by rw [Nat.zero_add, h.cell j _ (List.getElem?_eq_getElem (show j < cs.length by simpa [hl] using hj))]; rfl, by rw [Nat.zero_add]; exact h.free j⟩) hi h1
  rw [setCells_sets] at this
  exact this
theorem Bx.res {w : World} {q : Nat} {cs : List Value} (h : Bx w q cs) {fn : Func} {i : Tmp} {ty : TypeId} {T : Array Value} {R : Ending → World → Prop} (hf : fn.results = #[.cell i ty]) (hq : T[i]? = some (gw true (.pointer (some ⟨q, 0, none⟩)))) {d : TypeDesc} (hu : Tryz.prog.underlying ty = some d) (hd : d.isRow = true) (hi : (Tryz.prog.info? ty).map (·.size) = some cs.length) (hR : R (.returned (.agg cs.toArray)) w) : bodyPost Tryz.prog fn R .ret ⟨T, []⟩ w := by
  refine bodyPost_ret (v := .agg cs.toArray) ?_ rfl hR
  have := run_loadVar_mid (P := Tryz.prog) w q 0 ty cs _ (fun j v hv => by rw [Nat.zero_add]; exact h.cell j v hv) hu hd hi
  have hq' : T.getD i undef = .pointer (some ⟨q, 0, none⟩) := getD_of hq
  simp only [results, hf]
  simp only [Array.getD_eq_getD_getElem?] at hq'
  simp [Sem.run_bind, Result.andThen, hq', asAddr, this]
theorem ldRd {w : World} {q b : Nat} (h : w.cell? ⟨q, 0, none⟩ = some (.pointer (some ⟨b, 0, none⟩))) : (Instr.loadAt 157 (.pointer (some ⟨q, 0, none⟩))).run Tryz.prog w = .ok (.agg #[.pointer (some ⟨b, 0, none⟩)]) w := by
  go_simp
theorem ldRp {w : World} {q b : Nat} (h : w.cell? ⟨q, 0, none⟩ = some (.pointer (some ⟨b, 0, none⟩))) : (Instr.loadAt 154 (.pointer (some ⟨q, 0, none⟩))).run Tryz.prog w = .ok (.pointer (some ⟨b, 0, none⟩)) w := by
  go_simp
theorem UB.trans_new {b q : Nat} {u v w : World} (h : UB b u v) (k : UB q v w) (hq : u.heap.size ≤ q) : UB b u w :=
  ⟨k.os.trans h.os, k.tape.trans h.tape, k.output.trans h.output, Nat.le_trans h.size k.size, fun i hi hs => (k.block i (Nat.lt_of_lt_of_le hi h.size) (by omega)).trans (h.block i hi hs)⟩
set_option maxRecDepth 100000 in
theorem rnumber_any (N b : Nat) (l : List Int) (s : Nat × Int) (w : World) (h : RD N w b l s) : Calls Tryz.prog 98 #[.agg #[.pointer (some ⟨b, 0, none⟩)]] w fun e w' => e = .returned (.int .i64 (rI mxI l s : Int)) ∧ RD N w' b l (sI mxI l s) ∧ UB b w w' := by
  have hb01 := fun o => (Below.refl w.heap.size w).alloc (Nat.le_refl _) o
  have HR := hide (fun o => rd_I N b mxI (Int.le_refl _) l s (w.alloc o) (h.later (hb01 o)))
  have HB := hide hb01
  clear h hb01
  go_enter Tryz.func98, Tryz.ntmps98
  go_wp2_with fail
  refine (HR.out _).mono ?_
  rintro e w2 ⟨rfl, h2, h3⟩
  have H2 := hide h2
  have H3 := hide h3
  clear h2 h3
  go_wp2
  go_ret
  exact ⟨rfl, H2.out, (UB.of_below (HB.out _)).trans H3.out⟩
set_option maxRecDepth 100000 in
set_option maxHeartbeats 2000000 in
theorem rdraw_any (N b : Nat) (l : List Int) (s : Nat × Int) (w : World) (h : RD N w b l s) : Calls Tryz.prog 129 #[.agg #[.pointer (some ⟨b, 0, none⟩)]] w fun e w' => e = .returned (.agg #[.int .u64 (rD l s).1, .int .u64 (rD l s).2]) ∧ RD N w' b l (sD l s) ∧ UB b w w' := by
  have hlt := h.lt
  have hqb : w.heap.size ≠ b := by omega
  have hqb2 : w.heap.size + 1 ≠ b := by omega
  go_enter Tryz.func129, Tryz.ntmps129
  go_upto_region 1 with fail
  obtain ⟨w1, hw1⟩ : ∃ w1, w1 = (w.alloc (.cells #[.pointer (some ⟨b, 0, none⟩)] 157)).alloc (.cells #[.int .u64 0, .int .u64 0] 33) := ⟨_, rfl⟩
  rw [← hw1]
  have hb01 : Below w.heap.size w w1 := by rw [hw1]; exact ((Below.refl _ _).alloc (Nat.le_refl _) _).alloc (by simp) _
  have B1_0 : Bx w1 w.heap.size [.pointer (some ⟨b, 0, none⟩)] := by rw [hw1]; exact (Bx.new w [.pointer (some ⟨b, 0, none⟩)] _).later ((Below.refl _ _).alloc (Nat.le_refl _) _)
  have B2_0 : Bx w1 (w.heap.size + 1) [.int .u64 0, .int .u64 0] := by rw [hw1]; have := Bx.new (w.alloc (.cells #[.pointer (some ⟨b, 0, none⟩)] 157)) [.int .u64 0, .int .u64 0] 33; simpa using this
  have hR1 := h.later hb01
  have hv0 : UB b w w1 := UB.of_below hb01
  clear hw1
  refine wp_region_lit ?_
  refine vl_gen (fun T => T.size = 12 ∧ T[1]? = some (gw true (.pointer (some ⟨w.heap.size, 0, none⟩))) ∧ T[2]? = some (gw true (.pointer (some ⟨w.heap.size + 1, 0, none⟩)))) ⟨rfl, rfl, rfl⟩ (fun T0 ⟨hz, s1, s2_⟩ => ?_)
  have s2 := s2_
  clear s2_
  refine vt (.pointer (some ⟨w.heap.size, 0, none⟩)) (ex_fa rfl (ev s1 rfl) (by go_simp)) hz (fun A1_1 zz kk s4 => ?_)
  replace s1 := kt kk s1
  replace s2 := kt kk s2
  replace hz := zz
  clear kk zz
  refine vt (.pointer (some ⟨b, 0, none⟩)) (ex_ld rfl (ev s4 rfl) (ldRp (B1_0.cell 0 _ rfl))) hz (fun A1_2 zz kk s5 => ?_)
  replace s1 := kt kk s1
  replace s2 := kt kk s2
  replace s4 := kt kk s4
  replace hz := zz
  clear kk zz A1_1
  refine vcallP (want_none rfl) (ex_call rfl (by simp only [List.map_toArray, List.map_cons, List.map_nil, (ev s5 rfl), evc] <;> rfl) rfl) (rd_N N b l s w1 hR1) rfl hz (by decide) ?_
  rintro e v1 ⟨rfl, hR2, hu1⟩
  refine ⟨_, rfl, fun A1_3 zz kk s6 => ?_⟩
  have B1_1 := B1_0.ub hu1 hqb
  have B2_1 := B2_0.ub hu1 hqb2
  have hv1 := hv0.trans hu1
  replace s1 := kt kk s1
  replace s2 := kt kk s2
  replace s4 := kt kk s4
  replace hz := zz
  clear kk zz s5 A1_2
  refine vt _ (ex_assign rfl (ev s6 rfl)) hz (fun A1_4 zz kk s3 => ?_)
  replace s1 := kt kk s1
  replace s2 := kt kk s2
  replace s4 := kt kk s4
  replace hz := zz
  clear kk zz s6 A1_3
  refine wpList_nil ?_
  go_upto_region 2 with fail
  refine wp_region_lit ?_
  refine vt _ (ex_move rfl (ev s3 rfl)) hz (fun A2_1 zz kk s7 => ?_)
  replace s1 := kt kk s1
  replace s2 := kt kk s2
  replace s3 := kt kk s3
  replace s4 := kt kk s4
  replace hz := zz
  clear kk zz
  refine vt (.pointer (some ⟨w.heap.size, 0, none⟩)) (ex_fa rfl (ev s1 rfl) (by go_simp)) hz (fun A2_2 zz kk s8 => ?_)
  replace s1 := kt kk s1
  replace s2 := kt kk s2
  replace s3 := kt kk s3
  replace s4 := kt kk s4
  replace s7 := kt kk s7
  replace hz := zz
  clear kk zz A2_1
  refine vt (.pointer (some ⟨b, 0, none⟩)) (ex_ld rfl (ev s8 rfl) (ldRp (B1_1.cell 0 _ rfl))) hz (fun A2_3 zz kk s9 => ?_)
  replace s1 := kt kk s1
  replace s2 := kt kk s2
  replace s3 := kt kk s3
  replace s4 := kt kk s4
  replace s7 := kt kk s7
  replace hz := zz
  clear kk zz s8 A2_2
  refine vcallP (want_none rfl) (ex_call rfl (by simp only [List.map_toArray, List.map_cons, List.map_nil, (ev s9 rfl), evc] <;> rfl) rfl) (rd_N N b l (sN l s) v1 hR2) rfl hz (by decide) ?_
  rintro e v2 ⟨rfl, hR3, hu2⟩
  refine ⟨_, rfl, fun A2_4 zz kk s10 => ?_⟩
  have B1_2 := B1_1.ub hu2 hqb
  have B2_2 := B2_1.ub hu2 hqb2
  have hv2 := hv1.trans hu2
  replace s1 := kt kk s1
  replace s2 := kt kk s2
  replace s3 := kt kk s3
  replace s4 := kt kk s4
  replace s7 := kt kk s7
  replace hz := zz
  clear kk zz s9 A2_3
  refine vt (.agg #[.int .u64 (rN l s : Int), .int .u64 (rN l (sN l s) : Int)]) (ex_buildP rfl (by simp only [List.map_toArray, List.map_cons, List.map_nil, (ev s7 rfl), (ev s10 rfl)] <;> rfl) (bdDr _ _ _)) hz (fun A2_5 zz kk s11 => ?_)
  replace s1 := kt kk s1
  replace s2 := kt kk s2
  replace s3 := kt kk s3
  replace s4 := kt kk s4
  replace hz := zz
  clear kk zz s7 s10 A2_4
  refine vs (sets v2 (w.heap.size + 1) 0 [.int .u64 (rN l s : Int), .int .u64 (rN l (sN l s) : Int)]) (want_none rfl) (ex_st rfl (ev s2 rfl) (ev s11 rfl) (B2_2.st 33 [.int .u64 (rN l s : Int), .int .u64 (rN l (sN l s) : Int)] rfl (by kernel_rfl) (by kernel_rfl))) rfl ?_
  have BR := B2_2.put [.int .u64 (rN l s : Int), .int .u64 (rN l (sN l s) : Int)] (Nat.le_refl _)
  refine wpList_nil ?_
  go_wp2
  exact BR.1.res rfl s2 Tryz.underlying33 rfl (by kernel_rfl) ⟨rfl, hR3.ub BR.2 (fun k hk => by omega), hv2.trans_new BR.2 (by have := hb01.size; omega)⟩
set_option maxRecDepth 100000 in
set_option maxHeartbeats 2000000 in
theorem rname_any (N b : Nat) (l : List Int) (s : Nat × Int) (w : World) (h : RD N w b l s) : Calls Tryz.prog 130 #[.agg #[.pointer (some ⟨b, 0, none⟩)]] w fun e w' => e = .returned (.agg #[.int .i64 (rI mxI l s : Int), .int .i64 (rI mxI l (sI mxI l s) : Int), .int .i64 0, .int .i64 0, .string ⟨#[]⟩]) ∧ RD N w' b l (s2 l s) ∧ UB b w w' := by
  have hlt := h.lt
  have hqb : w.heap.size ≠ b := by omega
  have hqb2 : w.heap.size + 1 ≠ b := by omega
  go_enter Tryz.func130, Tryz.ntmps130
  go_upto_region 1 with fail
  obtain ⟨w1, hw1⟩ : ∃ w1, w1 = (w.alloc (.cells #[.pointer (some ⟨b, 0, none⟩)] 157)).alloc (.cells #[.int .i64 0, .int .i64 0, .int .i64 0, .int .i64 0, .string ⟨#[]⟩] 28) := ⟨_, rfl⟩
  rw [← hw1]
  have hb01 : Below w.heap.size w w1 := by rw [hw1]; exact ((Below.refl _ _).alloc (Nat.le_refl _) _).alloc (by simp) _
  have B1_0 : Bx w1 w.heap.size [.pointer (some ⟨b, 0, none⟩)] := by rw [hw1]; exact (Bx.new w [.pointer (some ⟨b, 0, none⟩)] _).later ((Below.refl _ _).alloc (Nat.le_refl _) _)
  have B2_0 : Bx w1 (w.heap.size + 1) [.int .i64 0, .int .i64 0, .int .i64 0, .int .i64 0, .string ⟨#[]⟩] := by rw [hw1]; have := Bx.new (w.alloc (.cells #[.pointer (some ⟨b, 0, none⟩)] 157)) [.int .i64 0, .int .i64 0, .int .i64 0, .int .i64 0, .string ⟨#[]⟩] 28; simpa using this
  have hR1 := h.later hb01
  have hv0 : UB b w w1 := UB.of_below hb01
  clear hw1
  refine wp_region_lit ?_
  refine vl_gen (fun T => T.size = 10 ∧ T[1]? = some (gw true (.pointer (some ⟨w.heap.size, 0, none⟩))) ∧ T[2]? = some (gw true (.pointer (some ⟨w.heap.size + 1, 0, none⟩)))) ⟨rfl, rfl, rfl⟩ (fun T0 ⟨hz, s1, s2_⟩ => ?_)
  have s2 := s2_
  clear s2_
  refine vt (.agg #[.pointer (some ⟨b, 0, none⟩)]) (ex_ld rfl (ev s1 rfl) (ldRd (B1_0.cell 0 _ rfl))) hz (fun A1_1 zz kk s4 => ?_)
  replace s1 := kt kk s1
  replace s2 := kt kk s2
  replace hz := zz
  clear kk zz
  refine vcallP (want_none rfl) (ex_call rfl (by simp only [List.map_toArray, List.map_cons, List.map_nil, (ev s4 rfl), evc] <;> rfl) rfl) (rnumber_any N b l s w1 hR1) rfl hz (by decide) ?_
  rintro e v1 ⟨rfl, hR2, hu1⟩
  refine ⟨_, rfl, fun A1_2 zz kk s5 => ?_⟩
  have B1_1 := B1_0.ub hu1 hqb
  have B2_1 := B2_0.ub hu1 hqb2
  have hv1 := hv0.trans hu1
  replace s1 := kt kk s1
  replace s2 := kt kk s2
  replace s4 := kt kk s4
  replace hz := zz
  clear kk zz A1_1
  refine vt _ (ex_assign rfl (ev s5 rfl)) hz (fun A1_3 zz kk s3 => ?_)
  replace s1 := kt kk s1
  replace s2 := kt kk s2
  replace s4 := kt kk s4
  replace hz := zz
  clear kk zz s5 A1_2
  refine wpList_nil ?_
  go_upto_region 2 with fail
  refine wp_region_lit ?_
  refine vt _ (ex_move rfl (ev s3 rfl)) hz (fun A2_1 zz kk s6 => ?_)
  replace s1 := kt kk s1
  replace s2 := kt kk s2
  replace s3 := kt kk s3
  replace s4 := kt kk s4
  replace hz := zz
  clear kk zz
  refine vt (.agg #[.pointer (some ⟨b, 0, none⟩)]) (ex_ld rfl (ev s1 rfl) (ldRd (B1_1.cell 0 _ rfl))) hz (fun A2_2 zz kk s7 => ?_)
  replace s1 := kt kk s1
  replace s2 := kt kk s2
  replace s3 := kt kk s3
  replace s4 := kt kk s4
  replace s6 := kt kk s6
  replace hz := zz
  clear kk zz A2_1
  refine vcallP (want_none rfl) (ex_call rfl (by simp only [List.map_toArray, List.map_cons, List.map_nil, (ev s7 rfl), evc] <;> rfl) rfl) (rnumber_any N b l (sI mxI l s) v1 hR2) rfl hz (by decide) ?_
  rintro e v2 ⟨rfl, hR3, hu2⟩
  refine ⟨_, rfl, fun A2_3 zz kk s8 => ?_⟩
  have B1_2 := B1_1.ub hu2 hqb
  have B2_2 := B2_1.ub hu2 hqb2
  have hv2 := hv1.trans hu2
  replace s1 := kt kk s1
  replace s2 := kt kk s2
  replace s3 := kt kk s3
  replace s4 := kt kk s4
  replace s6 := kt kk s6
  replace hz := zz
  clear kk zz s7 A2_2
  refine vt (.agg #[.int .i64 (rI mxI l s : Int), .int .i64 (rI mxI l (sI mxI l s) : Int), .int .i64 0, .int .i64 0, .string ⟨#[]⟩]) (ex_buildP rfl (by simp only [List.map_toArray, List.map_cons, List.map_nil, (ev s6 rfl), (ev s8 rfl)] <;> rfl) (bdEn _ _ _)) hz (fun A2_4 zz kk s9 => ?_)
  replace s1 := kt kk s1
  replace s2 := kt kk s2
  replace s3 := kt kk s3
  replace s4 := kt kk s4
  replace hz := zz
  clear kk zz s6 s8 A2_3
  refine vs (sets v2 (w.heap.size + 1) 0 [.int .i64 (rI mxI l s : Int), .int .i64 (rI mxI l (sI mxI l s) : Int), .int .i64 0, .int .i64 0, .string ⟨#[]⟩]) (want_none rfl) (ex_st rfl (ev s2 rfl) (ev s9 rfl) (B2_2.st 28 [.int .i64 (rI mxI l s : Int), .int .i64 (rI mxI l (sI mxI l s) : Int), .int .i64 0, .int .i64 0, .string ⟨#[]⟩] rfl (by kernel_rfl) (by kernel_rfl))) rfl ?_
  have BR := B2_2.put [.int .i64 (rI mxI l s : Int), .int .i64 (rI mxI l (sI mxI l s) : Int), .int .i64 0, .int .i64 0, .string ⟨#[]⟩] (Nat.le_refl _)
  refine wpList_nil ?_
  go_wp2
  exact BR.1.res rfl s2 Tryz.underlying28 rfl (by kernel_rfl) ⟨rfl, hR3.ub BR.2 (fun k hk => by omega), hv2.trans_new BR.2 (by have := hb01.size; omega)⟩
set_option maxRecDepth 100000 in
set_option maxHeartbeats 2000000 in
theorem rop_any (N b : Nat) (l : List Int) (s : Nat × Int) (w : World) (h : RD N w b l s) : Calls Tryz.prog 131 #[.agg #[.pointer (some ⟨b, 0, none⟩)]] w fun e w' => e = .returned (.agg #[.int .i64 (rO l s).k, .int .i64 (rO l s).s, .string (rO l s).v]) ∧ RD N w' b l (sO l s) ∧ UB b w w' := by
  have hlt := h.lt
  have hqb : w.heap.size ≠ b := by omega
  have hqb2 : w.heap.size + 1 ≠ b := by omega
  go_enter Tryz.func131, Tryz.ntmps131
  go_upto_region 1 with fail
  obtain ⟨w1, hw1⟩ : ∃ w1, w1 = (w.alloc (.cells #[.pointer (some ⟨b, 0, none⟩)] 157)).alloc (.cells #[.int .i64 0, .int .i64 0, .string ⟨#[]⟩] 26) := ⟨_, rfl⟩
  rw [← hw1]
  have hb01 : Below w.heap.size w w1 := by rw [hw1]; exact ((Below.refl _ _).alloc (Nat.le_refl _) _).alloc (by simp) _
  have B1_0 : Bx w1 w.heap.size [.pointer (some ⟨b, 0, none⟩)] := by rw [hw1]; exact (Bx.new w [.pointer (some ⟨b, 0, none⟩)] _).later ((Below.refl _ _).alloc (Nat.le_refl _) _)
  have B2_0 : Bx w1 (w.heap.size + 1) [.int .i64 0, .int .i64 0, .string ⟨#[]⟩] := by rw [hw1]; have := Bx.new (w.alloc (.cells #[.pointer (some ⟨b, 0, none⟩)] 157)) [.int .i64 0, .int .i64 0, .string ⟨#[]⟩] 26; simpa using this
  have hR1 := h.later hb01
  have hv0 : UB b w w1 := UB.of_below hb01
  clear hw1
  refine vh_start (fun v => UB b w1 v) (by kernel_rfl) ?_
  have hS : UB b w1 w1.drew := UB.of_below (Below.refl _ _).drew
  have hR1d := hR1.later (Below.refl _ _).drew
  have B1_0d := B1_0.later (Below.refl _ _).drew
  have B2_0d := B2_0.later (Below.refl _ _).drew
  refine vh_gen (fun T => T.size = 15 ∧ T[1]? = some (gw true (.pointer (some ⟨w.heap.size, 0, none⟩))) ∧ T[2]? = some (gw true (.pointer (some ⟨w.heap.size + 1, 0, none⟩)))) ⟨rfl, rfl, rfl⟩ (fun T0 ⟨hz, s1, s2_⟩ => ?_)
  have s2 := s2_
  clear s2_
  refine vh_take 0 true (.agg #[.pointer (some ⟨b, 0, none⟩)]) rfl (by kernel_rfl) (by kernel_rfl) (by kernel_rfl) (want_none rfl) (fun hc v hv => ex_ld rfl (ev s1 rfl) (ldRd ((B1_0.ub hv hqb).cell 0 _ rfl))) rfl hz (by decide) hS (fun A1_1 zz kk s5 => ?_)
  replace s1 := kt kk s1
  replace s2 := kt kk s2
  replace hz := zz
  clear kk zz
  refine vh_take 2 true (.agg #[.pointer (some ⟨b, 0, none⟩)]) rfl (by kernel_rfl) (by kernel_rfl) (by kernel_rfl) (want_none rfl) (fun hc v hv => ex_ld rfl (ev s1 rfl) (ldRd ((B1_0.ub hv hqb).cell 0 _ rfl))) rfl hz (by decide) hS (fun A1_2 zz kk s7 => ?_)
  replace s1 := kt kk s1
  replace s2 := kt kk s2
  replace s5 := kt kk s5
  replace hz := zz
  clear kk zz A1_1
  refine vh_call 1 rfl (by kernel_rfl) (want_none rfl) (ex_call rfl (by simp only [List.map_toArray, List.map_cons, List.map_nil, (ev s5 rfl), evc] <;> rfl) rfl) (rnumber_any N b l s w1.drew hR1d) rfl hz (by decide) ?_
  rintro e v1 ⟨rfl, hR2, hu1⟩
  refine ⟨_, rfl, (hS.trans hu1), fun A1_3 zz kk s6 => ?_⟩
  have B1_1 := B1_0d.ub hu1 hqb
  have B2_1 := B2_0d.ub hu1 hqb2
  have hv1 := hv0.trans (UB.trans (UB.of_below (Below.refl _ _).drew) hu1)
  have hSn1 := hS.trans hu1
  replace s1 := kt kk s1
  replace s2 := kt kk s2
  replace s7 := kt kk s7
  replace hz := zz
  clear kk zz s5 A1_2
  refine vh_call 3 rfl (by kernel_rfl) (want_none rfl) (ex_call rfl (by simp only [List.map_toArray, List.map_cons, List.map_nil, (ev s7 rfl), evc] <;> rfl) rfl) (rnumber_any N b l (sI mxI l s) v1 hR2) rfl hz (by decide) ?_
  rintro e v2 ⟨rfl, hR3, hu2⟩
  refine ⟨_, rfl, (hSn1.trans hu2), fun A1_4 zz kk s8 => ?_⟩
  have B1_2 := B1_1.ub hu2 hqb
  have B2_2 := B2_1.ub hu2 hqb2
  have hv2 := hv1.trans hu2
  have hSn2 := hSn1.trans hu2
  replace s1 := kt kk s1
  replace s2 := kt kk s2
  replace s6 := kt kk s6
  replace hz := zz
  clear kk zz s7 A1_3
  refine vh_take 4 true (.int .i64 (rI mxI l s : Int)) rfl (by kernel_rfl) (by kernel_rfl) (by kernel_rfl) (want_none rfl) (fun hc v hv => ex_assign rfl (ev s6 rfl)) rfl hz (by decide) hSn2 (fun A1_5 zz kk s3 => ?_)
  replace s1 := kt kk s1
  replace s2 := kt kk s2
  replace s8 := kt kk s8
  replace hz := zz
  clear kk zz s6 A1_4
  refine vh_take 5 true (.int .i64 (rI mxI l (sI mxI l s) : Int)) rfl (by kernel_rfl) (by kernel_rfl) (by kernel_rfl) (want_none rfl) (fun hc v hv => ex_assign rfl (ev s8 rfl)) rfl hz (by decide) hSn2 (fun A1_6 zz kk s4 => ?_)
  replace s1 := kt kk s1
  replace s2 := kt kk s2
  replace s3 := kt kk s3
  replace hz := zz
  clear kk zz s8 A1_5
  refine vh_done (by kernel_rfl) ?_
  go_upto_region 2 with fail
  refine wp_region_lit ?_
  refine vt _ (ex_move rfl (ev s3 rfl)) hz (fun A2_1 zz kk s9 => ?_)
  replace s1 := kt kk s1
  replace s2 := kt kk s2
  replace s3 := kt kk s3
  replace s4 := kt kk s4
  replace hz := zz
  clear kk zz
  refine vt _ (ex_move rfl (ev s4 rfl)) hz (fun A2_2 zz kk s10 => ?_)
  replace s1 := kt kk s1
  replace s2 := kt kk s2
  replace s3 := kt kk s3
  replace s4 := kt kk s4
  replace s9 := kt kk s9
  replace hz := zz
  clear kk zz A2_1
  refine vt (.pointer (some ⟨w.heap.size, 0, none⟩)) (ex_fa rfl (ev s1 rfl) (by go_simp)) hz (fun A2_3 zz kk s11 => ?_)
  replace s1 := kt kk s1
  replace s2 := kt kk s2
  replace s3 := kt kk s3
  replace s4 := kt kk s4
  replace s9 := kt kk s9
  replace s10 := kt kk s10
  replace hz := zz
  clear kk zz A2_2
  refine vt (.pointer (some ⟨b, 0, none⟩)) (ex_ld rfl (ev s11 rfl) (ldRp (B1_2.cell 0 _ rfl))) hz (fun A2_4 zz kk s12 => ?_)
  replace s1 := kt kk s1
  replace s2 := kt kk s2
  replace s3 := kt kk s3
  replace s4 := kt kk s4
  replace s9 := kt kk s9
  replace s10 := kt kk s10
  replace hz := zz
  clear kk zz s11 A2_3
  refine vcallP (want_none rfl) (ex_call rfl (by simp only [List.map_toArray, List.map_cons, List.map_nil, (ev s12 rfl), evc] <;> rfl) rfl) (rd_T N b l (sI mxI l (sI mxI l s)) v2 hR3) rfl hz (by decide) ?_
  rintro e v3 ⟨rfl, hR4, hu3⟩
  refine ⟨_, rfl, fun A2_5 zz kk s13 => ?_⟩
  have B1_3 := B1_2.ub hu3 hqb
  have B2_3 := B2_2.ub hu3 hqb2
  have hv3 := hv2.trans hu3
  have hSn3 := hSn2.trans hu3
  replace s1 := kt kk s1
  replace s2 := kt kk s2
  replace s3 := kt kk s3
  replace s4 := kt kk s4
  replace s9 := kt kk s9
  replace s10 := kt kk s10
  replace hz := zz
  clear kk zz s12 A2_4
  refine vt (.agg #[.int .i64 (rI mxI l s : Int), .int .i64 (rI mxI l (sI mxI l s) : Int), .string (rT l (sI mxI l (sI mxI l s)))]) (ex_buildP rfl (by simp only [List.map_toArray, List.map_cons, List.map_nil, (ev s9 rfl), (ev s10 rfl), (ev s13 rfl)] <;> rfl) (bdOp _ _ _ _)) hz (fun A2_6 zz kk s14 => ?_)
  replace s1 := kt kk s1
  replace s2 := kt kk s2
  replace s3 := kt kk s3
  replace s4 := kt kk s4
  replace hz := zz
  clear kk zz s9 s10 s13 A2_5
  refine vs (sets v3 (w.heap.size + 1) 0 [.int .i64 (rI mxI l s : Int), .int .i64 (rI mxI l (sI mxI l s) : Int), .string (rT l (sI mxI l (sI mxI l s)))]) (want_none rfl) (ex_st rfl (ev s2 rfl) (ev s14 rfl) (B2_3.st 26 [.int .i64 (rI mxI l s : Int), .int .i64 (rI mxI l (sI mxI l s) : Int), .string (rT l (sI mxI l (sI mxI l s)))] rfl (by kernel_rfl) (by kernel_rfl))) rfl ?_
  have BR := B2_3.put [.int .i64 (rI mxI l s : Int), .int .i64 (rI mxI l (sI mxI l s) : Int), .string (rT l (sI mxI l (sI mxI l s)))] (Nat.le_refl _)
  refine wpList_nil ?_
  go_wp2
  exact BR.1.res rfl s2 Tryz.underlying26 rfl (by kernel_rfl) ⟨rfl, hR4.ub BR.2 (fun k hk => by omega), hv3.trans_new BR.2 (by have := hb01.size; omega)⟩
end Go.Proofs.YtibedokegignhaaGreatDoor
