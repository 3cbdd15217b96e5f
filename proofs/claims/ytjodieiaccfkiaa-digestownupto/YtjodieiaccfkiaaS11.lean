import Derived.Test.YtjodieiaccfkiaaS10
import Derived.OpenShut
namespace Go.Proofs.Ytjodieiaccfkiaa
open Go.RowKit Go.Maps Go.WideShapes
open Classical
set_option linter.unusedVariables false
set_option linter.unusedSimpArgs false

theorem PS.len {t : List Int} {r : List Int × Int × Int} (h : PS t r) : r.1.length = 32 := by
  have h64 := hS9_len t 64
  unfold PS at h
  generalize hS9 t 64 = X at *
  rcases h with ⟨j, _, _, _, rfl⟩ | ⟨_, ⟨_, rfl⟩ | ⟨_, rfl⟩⟩
  · rfl
  · rfl
  · exact h64
theorem u8_wf {n : Int} (h : (Lit.int .u8 n).wf = true) : 0 ≤ n ∧ n < 256 := by
  simp [Lit.wf, IntKind.min, IntKind.max, IntKind.signed, IntKind.bits] at h
  omega
set_option maxRecDepth 100000 in
/-- A hash that came in by value. -/
theorem open_hash {H : Type} {enc : TypeId × Value → H} {W : World} {base : Nat} {v : Value} {d : DataW H} {p : List MemPlace} (hv : Value.okWide Try.prog W .any base 32 v) (h : DataW.Trod enc Try.prog W 0 (fun _ => true) true 32 v d p) :
    ∃ o : List Int, v = .agg (o.map bV).toArray ∧ Hb o := by
  obtain ⟨fuel, hf⟩ := h
  obtain ⟨xs, m, _, _, hl, hx, he⟩ := DataW.trod_array Try.underlying32 hf
  have c32 : Try.prog.cellsOf 32 = 32 := by kernel_rfl
  have c1 : Try.prog.cellsOf 5 = 1 := by kernel_rfl
  rw [c32] at hl
  have hag : ∃ cs, v = .agg cs := by
    cases v with
    | agg cs => exact ⟨cs, rfl⟩
    | _ => simp [Value.cells] at hl
  obtain ⟨cs, rfl⟩ := hag
  have hcl : cs.toList.length = 32 := hl
  have key : ∀ i, (hi : i < 32) → ∃ n : Int, cs.toList[i]? = some (.int .u8 n) ∧ 0 ≤ n ∧ n < 256 := fun i hi => by
    have h1 := he i hi
    rw [c1, Nat.mul_one] at h1
    obtain ⟨x, hxx⟩ : ∃ x, xs[i]? = some x := ⟨_, List.getElem?_eq_getElem (by omega)⟩
    rw [hxx] at h1
    obtain ⟨K, hK, _, hw⟩ := DataW.trod_int Try.underlying5 h1
    have hb := u8_wf hw
    refine ⟨K, ?_, hb.1, hb.2⟩
    have h2 : (cs.toList.drop i).take 1 = [.int .u8 K] := hK
    have h3 : ((cs.toList.drop i).take 1)[0]? = some (.int .u8 K) := by rw [h2]; rfl
    rw [List.getElem?_take, if_pos (by decide), List.getElem?_drop, Nat.add_zero] at h3
    exact h3
  refine ⟨cs.toList.map intOf, ?_, ⟨by rw [List.length_map, hcl], fun x hx => ?_⟩⟩
  · have : (cs.toList.map intOf).map bV = cs.toList := by
      apply List.ext_getElem?
      intro i
      rw [List.getElem?_map, List.getElem?_map]
      by_cases hi : i < 32
      · obtain ⟨n, hn, _⟩ := key i hi
        rw [hn]
        rfl
      · rw [List.getElem?_eq_none (by omega)]
        rfl
    rw [this]
  · obtain ⟨u, hu, rfl⟩ := List.mem_map.1 hx
    obtain ⟨i, hi, rfl⟩ := List.mem_iff_getElem.1 hu
    obtain ⟨n, hn, h0, h1⟩ := key i (by omega)
    rw [List.getElem?_eq_getElem hi] at hn
    rw [Option.some.inj hn]
    exact ⟨h0, h1⟩
set_option maxRecDepth 100000 in
set_option maxHeartbeats 2000000 in
theorem texts19 (h : List Int) (hh : Hb h) (t : ByteArray) (w : World) :
    Calls Try.prog 4 #[.agg (h.map bV).toArray, .string t] w fun e w' => e = .returned (.bool true) ∧ Below w.heap.size w w' := by
  go_enter Try.func4, Try.ntmps4
  go_upto_region 0 with fail
  refine wp_region_lit ?_
  refine vl_gen (fun T => Rp T 47 [(1, gw true (.string t)), (0, gw true (.agg (h.map bV).toArray))]) (((Rp.nil rfl).cons rfl).cons rfl) (fun Z0 q0 => ?_)
  obtain ⟨w1, hw1⟩ : ∃ y, y = w.alloc (.cells (h.map bV).toArray 32) := ⟨_, rfl⟩
  refine vw (.pointer (some ⟨w.heap.size, 0, none⟩)) w1 (want_none rfl) (ex_box18 rfl (q0.e (j := 0) rfl) (by rw [hw1]; exact bxH _ _)) rfl q0.z (by decide) (q0.k fun _ q1 => ?_);clear q0
  have B1 : BB w1 w.heap.size 32 (h.map bV) := by rw [hw1]; exact BB.new _ _ _
  have b1 : Below w.heap.size w w1 := by rw [hw1]; exact (Below.refl _ _).alloc (Nat.le_refl _) _
  have z1 := b1.size
  clear hw1
  have hm : (h.map bV).length = 32 := by rw [len_bV, hh.len]
  refine q1.t (.bool false) (ex_assign rfl rfl) fun _ q2 => ?_;clear q1
  refine wpList_nil ?_
  go_upto_region 1 with fail
  refine wp_region_lit ?_
  refine q2.t (.string t) (ex_move rfl (q2.e (j := 1) rfl)) fun _ q3 => ?_;clear q2
  refine vcallP (want_none rfl) (ex_call rfl (by simp only [List.map_toArray, List.map_cons, List.map_nil, (q3.e (j := 12) rfl), evc] <;> rfl) rfl) (parse19 t w1) rfl q3.z (by decide) ?_
  rintro e x1 ⟨r, rfl, hr, bx1⟩
  refine ⟨_, rfl, q3.k fun _ q4 => ?_⟩;clear q3
  have yx := bx1.size
  have cx1 : Below w.heap.size w x1 := b1.trans (bx1.mono b1.size)
  have zx := cx1.size
  have lr : (r.1.map bV).length = 32 := by rw [len_bV]; exact hr.len
  refine q4.t (.tuple #[.agg (r.1.map bV).toArray, .int .i64 r.2.1, .int .i64 r.2.2]) (ex_move rfl (q4.e (j := 13) rfl)) fun _ q5 => ?_;clear q4
  refine q5.t (.agg (r.1.map bV).toArray) (ex_ext18 rfl (q5.e (j := 11) rfl) rfl) fun _ q6 => ?_;clear q5
  refine q6.t (.int .i64 r.2.1) (ex_ext18 rfl (q6.e (j := 11) rfl) rfl) fun _ q7 => ?_;clear q6
  refine q7.t (.int .i64 r.2.2) (ex_ext18 rfl (q7.e (j := 11) rfl) rfl) fun _ q8 => ?_;clear q7
  obtain ⟨x2, hx2⟩ : ∃ y, y = x1.alloc (.cells (z32.map bV).toArray 32) := ⟨_, rfl⟩
  refine vw (.pointer (some ⟨x1.heap.size, 0, none⟩)) x2 (want_none rfl) (ex_al rfl (by rw [hx2]; exact alH _)) rfl q8.z (by decide) (q8.k fun _ q9 => ?_);clear q8
  have Zx : BB x2 x1.heap.size 32 (z32.map bV) := by rw [hx2]; exact BB.new _ _ _
  have bx2 : Below x1.heap.size x1 x2 := by rw [hx2]; exact (Below.refl _ _).alloc (Nat.le_refl _) _
  clear hx2
  obtain ⟨x3, hx3⟩ : ∃ y, y = x2.setCells x1.heap.size 0 (r.1.map bV) := ⟨_, rfl⟩
  refine vs x3 (want_none rfl) (ex_st rfl (q9.e (j := 5) rfl) (q9.e (j := 14) rfl) (by rw [hx3]; exact Zx.st 32 _ (by rw [lr, z32_m]) (by rw [List.size_toArray, lr]; exact i32h) (one_b _))) rfl ?_
  have Bx : BB x3 x1.heap.size 32 (r.1.map bV) := by rw [hx3]; exact Zx.whole _ (by rw [lr, z32_m])
  have bx3 : Below x1.heap.size x1 x3 := by rw [hx3]; exact bx2.trans (bel_ge (upd18 _ _ _ _) bx2.size (Nat.le_refl _))
  clear hx3 Zx
  have cx3 : Below w.heap.size w x3 := cx1.trans (bx3.mono zx)
  refine q9.t (.int .i64 r.2.1) (ex_assign rfl (q9.e (j := 15) rfl)) fun _ q10 => ?_;clear q9
  refine q10.t (.int .i64 r.2.2) (ex_assign rfl (q10.e (j := 16) rfl)) fun _ q11 => ?_;clear q10
  have B1 := (B1.later bx1).later bx3
  have q12 := (((((((Rp.nil q11.z).cons (q11.a 0 rfl)).cons (q11.a 1 rfl)).cons (q11.a 2 rfl)).cons (q11.a 5 rfl)).cons (q11.a 6 rfl)).cons (q11.a 7 rfl))
  clear q11
  refine wpList_nil ?_
  go_upto_region 2 with fail
  refine wp_region_lit ?_
  refine q12.t (.string t) (ex_move rfl (q12.e (j := 1) rfl)) fun _ q13 => ?_;clear q12
  refine vcallP (want_none rfl) (ex_call rfl (by simp only [List.map_toArray, List.map_cons, List.map_nil, (q13.e (j := 18) rfl), evc] <;> rfl) rfl) (rparse19 t x3) rfl q13.z (by decide) ?_
  rintro e y1 ⟨s, rfl, hs, by1⟩
  refine ⟨_, rfl, q13.k fun _ q14 => ?_⟩;clear q13
  have yy := by1.size
  have cy1 : Below w.heap.size w y1 := cx3.trans (by1.mono cx3.size)
  have zy := cy1.size
  have ls : (s.1.map bV).length = 32 := by rw [len_bV]; exact hs.len
  refine q14.t (.tuple #[.agg (s.1.map bV).toArray, .int .i64 s.2.1, .int .i64 s.2.2]) (ex_move rfl (q14.e (j := 19) rfl)) fun _ q15 => ?_;clear q14
  refine q15.t (.agg (s.1.map bV).toArray) (ex_ext18 rfl (q15.e (j := 17) rfl) rfl) fun _ q16 => ?_;clear q15
  refine q16.t (.int .i64 s.2.1) (ex_ext18 rfl (q16.e (j := 17) rfl) rfl) fun _ q17 => ?_;clear q16
  refine q17.t (.int .i64 s.2.2) (ex_ext18 rfl (q17.e (j := 17) rfl) rfl) fun _ q18 => ?_;clear q17
  obtain ⟨y2, hy2⟩ : ∃ y, y = y1.alloc (.cells (z32.map bV).toArray 32) := ⟨_, rfl⟩
  refine vw (.pointer (some ⟨y1.heap.size, 0, none⟩)) y2 (want_none rfl) (ex_al rfl (by rw [hy2]; exact alH _)) rfl q18.z (by decide) (q18.k fun _ q19 => ?_);clear q18
  have Zy : BB y2 y1.heap.size 32 (z32.map bV) := by rw [hy2]; exact BB.new _ _ _
  have by2 : Below y1.heap.size y1 y2 := by rw [hy2]; exact (Below.refl _ _).alloc (Nat.le_refl _) _
  clear hy2
  obtain ⟨y3, hy3⟩ : ∃ y, y = y2.setCells y1.heap.size 0 (s.1.map bV) := ⟨_, rfl⟩
  refine vs y3 (want_none rfl) (ex_st rfl (q19.e (j := 8) rfl) (q19.e (j := 20) rfl) (by rw [hy3]; exact Zy.st 32 _ (by rw [ls, z32_m]) (by rw [List.size_toArray, ls]; exact i32h) (one_b _))) rfl ?_
  have By : BB y3 y1.heap.size 32 (s.1.map bV) := by rw [hy3]; exact Zy.whole _ (by rw [ls, z32_m])
  have by3 : Below y1.heap.size y1 y3 := by rw [hy3]; exact by2.trans (bel_ge (upd18 _ _ _ _) by2.size (Nat.le_refl _))
  clear hy3 Zy
  have cy3 : Below w.heap.size w y3 := cy1.trans (by3.mono zy)
  refine q19.t (.int .i64 s.2.1) (ex_assign rfl (q19.e (j := 21) rfl)) fun _ q20 => ?_;clear q19
  refine q20.t (.int .i64 s.2.2) (ex_assign rfl (q20.e (j := 22) rfl)) fun _ q21 => ?_;clear q20
  have B1 := (B1.later by1).later by3
  have Bx := (Bx.later by1).later by3
  obtain rfl := hr.one hs
  have q22 := ((((((((Rp.nil q21.z).cons (q21.a 2 rfl)).cons (q21.a 5 rfl)).cons (q21.a 6 rfl)).cons (q21.a 7 rfl)).cons (q21.a 8 rfl)).cons (q21.a 9 rfl)).cons (q21.a 10 rfl))
  clear q21
  refine wpList_nil ?_
  go_upto_region 3 with fail
  refine vq_start (C := fun v => Below y3.heap.size y3 v) (by kernel_rfl) (by kernel_rfl) (Below.refl _ _).drew ?_
  refine q22.q (.agg (h.map bV).toArray) (fun v hv => ex_ld rfl (q22.e (j := 2) rfl) ((B1.later hv).ld 32 Try.underlying32 rfl (by rw [hm]; exact i32h))) fun _ q23 => ?_;clear q22
  refine vq_call18 (true) (.string (strOfNums (prF h))) (want_none rfl) (fun hc v hv => ex_call rfl (by simp only [List.map_toArray, List.map_cons, List.map_nil, (q23.e (j := 23) rfl), evc] <;> rfl) rfl) (fun hc v hv => (print19 h hh v).mono fun e w9 h9 => ⟨h9.1, hv.trans (h9.2.mono hv.size)⟩) rfl q23.z (by decide) (q23.k fun _ q24 => ?_);clear q23
  refine q24.q (.agg (h.map bV).toArray) (fun v hv => ex_ld rfl (q24.e (j := 2) rfl) ((B1.later hv).ld 32 Try.underlying32 rfl (by rw [hm]; exact i32h))) fun _ q25 => ?_;clear q24
  refine vq_call18 (true) (.string (strOfNums (prF h))) (want_none rfl) (fun hc v hv => ex_call rfl (by simp only [List.map_toArray, List.map_cons, List.map_nil, (q25.e (j := 25) rfl), evc] <;> rfl) rfl) (fun hc v hv => (rprint19 h hh v).mono fun e w9 h9 => ⟨h9.1, hv.trans (h9.2.mono hv.size)⟩) rfl q25.z (by decide) (q25.k fun _ q26 => ?_);clear q25
  refine q26.q (.bool true) (fun v hv => ex_bin rfl (q26.e (j := 24) rfl) (q26.e (j := 26) rfl) (by rw [eqlS, beq_self_eq_true])) fun _ q27 => ?_;clear q26
  refine q27.q (.bool true) (fun v hv => ex_move rfl (q27.e (j := 27) rfl)) fun _ q28 => ?_;clear q27
  refine vq (true && (true == true)) (.agg (r.1.map bV).toArray) (want_g rfl rfl (q28.a 28 rfl)) (fun hc v hv => ex_ld rfl (q28.e (j := 5) rfl) ((Bx.later hv).ld 32 Try.underlying32 rfl (by rw [lr]; exact i32h))) rfl q28.z (by decide) (q28.k fun _ q29 => ?_);clear q28
  refine vq (true && (true == true)) (.agg (r.1.map bV).toArray) (want_g rfl rfl (q29.a 28 rfl)) (fun hc v hv => ex_ld rfl (q29.e (j := 8) rfl) ((By.later hv).ld 32 Try.underlying32 rfl (by rw [lr]; exact i32h))) rfl q29.z (by decide) (q29.k fun _ q30 => ?_);clear q29
  refine vq (true && (true == true)) (.bool true) (want_g rfl rfl (q30.a 28 rfl)) (fun hc v hv => ex_bin rfl (q30.e (j := 29) rfl) (q30.e (j := 30) rfl) (by rw [eqlH _ _ hr.len hr.len, decide_eq_true rfl])) rfl q30.z (by decide) (q30.k fun _ q31 => ?_);clear q30
  refine q31.q (.bool true) (fun v hv => ex_and (z := true) rfl (q31.a 28 rfl) (q31.a 31 rfl) rfl) fun _ q32 => ?_;clear q31
  refine q32.q (.bool true) (fun v hv => ex_move rfl (q32.e (j := 32) rfl)) fun _ q33 => ?_;clear q32
  refine vq (true && (true == true)) (.int .i64 r.2.1) (want_g rfl rfl (q33.a 33 rfl)) (fun hc v hv => ex_move rfl (q33.e (j := 6) rfl)) rfl q33.z (by decide) (q33.k fun _ q34 => ?_);clear q33
  refine vq_call18 (true && (true == true)) (.int .i64 r.2.1) (want_g rfl rfl (q34.a 33 rfl)) (fun hc v hv => ex_call rfl (by simp only [List.map_toArray, List.map_cons, List.map_nil, (q34.e (j := 34) rfl), evc] <;> rfl) rfl) (fun hc v hv => (num19 _ v).mono fun e w9 h9 => ⟨h9.1, h9.2 ▸ hv⟩) rfl q34.z (by decide) (q34.k fun _ q35 => ?_);clear q34
  refine vq (true && (true == true)) (.int .i64 r.2.1) (want_g rfl rfl (q35.a 33 rfl)) (fun hc v hv => ex_move rfl (q35.e (j := 9) rfl)) rfl q35.z (by decide) (q35.k fun _ q36 => ?_);clear q35
  refine vq (true && (true == true)) (.bool true) (want_g rfl rfl (q36.a 33 rfl)) (fun hc v hv => ex_bin rfl (q36.e (j := 35) rfl) (q36.e (j := 36) rfl) (by rw [eqlC, decide_eq_true rfl])) rfl q36.z (by decide) (q36.k fun _ q37 => ?_);clear q36
  refine q37.q (.bool true) (fun v hv => ex_and (z := true) rfl (q37.a 33 rfl) (q37.a 37 rfl) rfl) fun _ q38 => ?_;clear q37
  refine q38.q (.bool true) (fun v hv => ex_move rfl (q38.e (j := 38) rfl)) fun _ q39 => ?_;clear q38
  refine vq (true && (true == true)) (.int .i64 r.2.2) (want_g rfl rfl (q39.a 39 rfl)) (fun hc v hv => ex_move rfl (q39.e (j := 7) rfl)) rfl q39.z (by decide) (q39.k fun _ q40 => ?_);clear q39
  refine vq (true && (true == true)) (.int .i64 r.2.2) (want_g rfl rfl (q40.a 39 rfl)) (fun hc v hv => ex_move rfl (q40.e (j := 10) rfl)) rfl q40.z (by decide) (q40.k fun _ q41 => ?_);clear q40
  refine vq (true && (true == true)) (.bool true) (want_g rfl rfl (q41.a 39 rfl)) (fun hc v hv => ex_bin rfl (q41.e (j := 40) rfl) (q41.e (j := 41) rfl) (by rw [eqlC, decide_eq_true rfl])) rfl q41.z (by decide) (q41.k fun _ q42 => ?_);clear q41
  refine q42.q (.bool true) (fun v hv => ex_and (z := true) rfl (q42.a 39 rfl) (q42.a 42 rfl) rfl) fun _ q43 => ?_;clear q42
  refine q43.q (.bool true) (fun v hv => ex_move rfl (q43.e (j := 43) rfl)) fun _ q44 => ?_;clear q43
  refine vq_call18 (true && (true == true)) (.bool true) (want_g rfl rfl (q44.a 44 rfl)) (fun hc v hv => ex_call (args := #[]) rfl (by simp) rfl) (fun hc v hv => (alive19 v).mono fun e w9 h9 => ⟨h9.1, hv.trans (h9.2.mono hv.size)⟩) rfl q44.z (by decide) (q44.k fun _ q45 => ?_);clear q44
  refine q45.q (.bool true) (fun v hv => ex_and (z := true) rfl (q45.a 44 rfl) (q45.a 45 rfl) rfl) fun _ q46 => ?_;clear q45
  refine q46.q (.bool true) (fun v hv => ex_assign rfl (q46.e (j := 46) rfl)) fun _ q47 => ?_;clear q46
  refine vq_nil (fun r1 hr1 => ?_)
  go_wp2
  refine bodyPost_ret (results_tmp rfl _ _ _) rfl ⟨?_, cy3.trans (hr1.mono cy3.size)⟩
  rw [getD_of (q47.a 4 rfl)]
  rfl

end Go.Proofs.Ytjodieiaccfkiaa
