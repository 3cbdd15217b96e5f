import Derived.Test.YtjfbkeommlopmaaGreatDoorRows
import Derived.Lib.LaidTab
import Derived.MakeChecks
import Derived.Test.YtjfbkeommlopmaaGreatDoorP5
namespace Go.Proofs.YtjfbkeommlopmaaGreatDoor
open Go.RowKit Go.Maps
open Classical
set_option linter.unusedVariables false
set_option linter.unusedSimpArgs false
theorem v_cut {c : Code} {Q : Exit → Act → World → Prop} {T : Array Value} {w : World} (J : Array Value → World → Prop) (h : c.wp Tryz.prog (Exit.then (fun a w' => ∃ T', a = ⟨T', []⟩ ∧ J T' w') Q) ⟨T, []⟩ w) (hk : ∀ T' w', J T' w' → Q .normal ⟨T', []⟩ w') : c.wp Tryz.prog Q ⟨T, []⟩ w := by
  refine Code.wp_mono (fun e a' w' h => ?_) h
  cases e with
  | normal =>
    obtain ⟨T', rfl, hJ⟩ := h
    exact hk T' w' hJ
  | _ => exact h
theorem want_t {ops : Array Oper} {T : Array Value} {o : Oper} {k j : Nat} (hg : o.guard = some (k, true)) (hk : (ops[k]?).bind (·.dst) = some j) (hs : T[j]? = some (gw true (.bool true))) : Region.wanted o (yielded ops T) = true := want_g hg hk hs
theorem ex_andT {o : Oper} {T : Array Value} {df : List Deferred} {j x : Nat} {w : World} (ho : o.op = .pick (.tmp j) (.tmp x) (.const (.bool false))) (hj : T[j]? = some (gw true (.bool true))) (hy : T[x]? = some (gw true (.bool true))) : (execOp (⟨T, df⟩ : Act).eval o).run Tryz.prog w = .ok (.value (.bool true)) w := ex_and (c := true) (b := true) (z := true) ho hj hy rfl
theorem eq00 (x y : Operand) (w : World) : (do eqGuard .eql 3 x y (.int .i64 0) (.int .i64 0); binOp .eql 3 (.int .i64 0) (.int .i64 0) : Sem Value).run Tryz.prog w = .ok (.bool true) w := eqlC x y 0 0 w
theorem eq71 (x y : Operand) (w : World) : (do eqGuard .eql 3 x y (.int .i64 71) (.int .i64 71); binOp .eql 3 (.int .i64 71) (.int .i64 71) : Sem Value).run Tryz.prog w = .ok (.bool true) w := eqlC x y 71 71 w
theorem vh_val {ops : Array Oper} {o : Oper} {T : Array Value} {df : List Deferred} {w : World} {Q : Exit → Act → World → Prop} {S : World → Prop} {fuel d n : Nat} {listed : Array Bool} (i : Nat) (V : Value) (w' : World) (hi : ops[i]? = some o) (hr : Region.ready .any ops listed = [i])
    (hw : Region.wanted o (yielded ops T) = true) (he : (execOp (⟨T, df⟩ : Act).eval o).run Tryz.prog w = .ok (.value V) w') (hd : o.dst = some d) (hz : T.size = n) (hn : d < n) (hS : S w')
    (hk : ∀ T' : Array Value, T'.size = n → (∀ j, j ≠ d → T'[j]? = T[j]?) → T'[d]? = some (gw true V) → VH ops Q S fuel (listed.setIfInBounds i true) ⟨T', df⟩ w') : VH ops Q S (fuel + 1) listed ⟨T, df⟩ w := by
  refine ⟨wpAnyH_all hr (by simp) (fun j hj => ?_)⟩
  obtain rfl : j = i := by simpa using hj
  unfold wpOp
  rw [hi]
  simp only [hw, if_true]
  refine .inl ?_
  unfold Oper.wp
  rw [he, Oper.upon_value]
  refine ⟨hS, ?_⟩
  rw [hd]
  exact (hk (T.setIfInBounds d V) (by simp [hz]) (fun i hi => at_set_ne _ hi) (at_set _ (by omega))).out
theorem vh_two {ops : Array Oper} {o o2 : Oper} {T : Array Value} {df : List Deferred} {w : World} {Q : Exit → Act → World → Prop} {S : World → Prop} {fuel d d2 n : Nat} {listed : Array Bool} (i j : Nat) {fid : FuncId} {args : Array Value} {R : Ending → World → Prop} (hr : Region.ready .any ops listed = [i, j]) (hi : ops[i]? = some o) (hj : ops[j]? = some o2)
    (hw : Region.wanted o (yielded ops T) = true) (he : (execOp (⟨T, df⟩ : Act).eval o).run Tryz.prog w = .ok (.enter fid args) w) (hc : Calls Tryz.prog fid args w R) (hd : o.dst = some d) (hz : T.size = n) (hn : d < n)
    (hk : ∀ (e : Ending) (w' : World), R e w' → ∃ V, e = .returned V ∧ S w' ∧ ∀ T' : Array Value, T'.size = n → (∀ j, j ≠ d → T'[j]? = T[j]?) → T'[d]? = some (gw true V) → VH ops Q S fuel (listed.setIfInBounds i true) ⟨T', df⟩ w')
    (V : Value) (w2 : World) (hw2 : Region.wanted o2 (yielded ops T) = true) (he2 : (execOp (⟨T, df⟩ : Act).eval o2).run Tryz.prog w = .ok (.value V) w2) (hd2 : o2.dst = some d2) (hn2 : d2 < n) (hS2 : S w2)
    (hk2 : ∀ T' : Array Value, T'.size = n → (∀ j, j ≠ d2 → T'[j]? = T[j]?) → T'[d2]? = some (gw true V) → VH ops Q S fuel (listed.setIfInBounds j true) ⟨T', df⟩ w2) : VH ops Q S (fuel + 1) listed ⟨T, df⟩ w := by
  refine ⟨wpAnyH_all hr (by simp) (fun k hkm => ?_)⟩
  have hkm : k = i ∨ k = j := by simpa using hkm
  rcases hkm with rfl | rfl
  · unfold wpOp
    rw [hi]
    simp only [hw, if_true]
    refine .inl ?_
    unfold Oper.wp
    rw [he, Oper.upon_enter]
    refine hc.mono ?_
    intro e w' hR
    obtain ⟨V, rfl, hS, hk'⟩ := hk e w' hR
    refine ⟨hS, ?_⟩
    rw [hd]
    exact (hk' (T.setIfInBounds d V) (by simp [hz]) (fun i hi => at_set_ne _ hi) (at_set _ (by omega))).out
  · unfold wpOp
    rw [hj]
    simp only [hw2, if_true]
    refine .inl ?_
    unfold Oper.wp
    rw [he2, Oper.upon_value]
    refine ⟨hS2, ?_⟩
    rw [hd2]
    exact (hk2 (T.setIfInBounds d2 V) (by simp [hz]) (fun i hi => at_set_ne _ hi) (at_set _ (by omega))).out
theorem ex_mk {o : Oper} {ρ : Operand → Value} {s : TypeId} {x y : Operand} {X Y V : Value} {w w' : World} (ho : o.op = .makeSlice s x y) (hx : ρ x = X) (hy : ρ y = Y) (hr : (Instr.makeSlice s X Y).run Tryz.prog w = .ok V w') : (execOp ρ o).run Tryz.prog w = .ok (.value V) w' := by
  unfold execOp
  simp only [ho, hx, hy, Sem.run_bind, hr, Result.andThen_ok]
  rfl
def zV3 : Obj := .cells #[.int .u64 0, .int .u64 0, .int .u64 0, .int .u64 0, .int .u64 0, .int .u64 0] 33
theorem mk3 (w : World) : (Instr.makeSlice 36 (.int .i64 3) (.int .i64 3)).run Tryz.prog w = .ok (.slice (some ⟨w.heap.size, 0, none⟩) 3 3) (w.alloc zV3) := by
  have hinfo : (Tryz.prog.info? 33).map (fun i => (i.zero, i.size, i.bytes)) = some (some (.agg #[.int .u64 0, .int .u64 0]), 2, 16) := by kernel_rfl
  obtain ⟨i0, hi, hz0, hz1, hz2⟩ := info_parts hinfo
  have hr := run_make (P := Tryz.prog) w 36 33 i0 (.agg #[.int .u64 0, .int .u64 0]) Tryz.underlying36 hi hz0 .i64 .i64 3 3 (by omega) (Int.le_refl _) (by rw [hz2]; omega) (by omega)
  rw [hz1] at hr
  have hm : madeCells (Value.agg #[Value.int IntKind.u64 0, Value.int IntKind.u64 0]).cells (Int.toNat 3 * 2) = #[.int .u64 0, .int .u64 0, .int .u64 0, .int .u64 0, .int .u64 0, .int .u64 0] := by kernel_rfl
  rw [hm] at hr
  exact hr
theorem sl3 (w : World) : SlY yD (w.alloc zV3) (some ⟨w.heap.size, 0, none⟩) 3 3 [(0, 0), (0, 0), (0, 0)] := sl_lit kD w [(0, 0), (0, 0), (0, 0)] 33 (by unfold maxLen; decide)
theorem bdCm (g : Nat) (w : World) : (Instr.build 38 #[(0, .int .i64 5), (1, .int .i64 1), (10, .slice (some ⟨g, 0, none⟩) 3 3)]).run Tryz.prog w = .ok (cmB.val nilS (.slice (some ⟨g, 0, none⟩) 3 3)) w := by
  go_simp
  first | done | rfl
set_option maxRecDepth 100000 in
theorem bslice13 (W : World) : (Instr.buildSlice 55 13 #[(0, .int .u8 1), (1, .int .u8 1), (2, .int .u8 1), (3, .int .u8 1), (4, .int .u8 1), (5, .int .u8 2), (6, .int .u8 1), (7, .int .u8 1), (8, .int .u8 1), (9, .int .u8 7), (10, .int .u8 1), (11, .int .u8 1), (12, .int .u8 97)]).run Tryz.prog W = .ok (.slice (some ⟨W.heap.size, 0, none⟩) 13 13) (W.alloc (.cells (b13.map (Value.int .u8)).toArray 5)) := by
  go_simp
  first | done | rfl
theorem hs13 (W : World) : Wi.Hs (W.alloc (.cells (b13.map (Value.int .u8)).toArray 5)) (some ⟨W.heap.size, 0, none⟩) 13 13 b13 :=
  ⟨rfl, by decide, fun x hx i hi => by
    obtain rfl := (Option.some.inj hx)
    rw [Addr.add_lit, Nat.zero_add]
    refine cell_box _ _ _ _ _ ?_
    simp [List.getD_eq_getElem?_getD, List.getElem?_eq_getElem hi], (fun h => by cases h), b13_byte⟩
theorem same_fr (a a' : Option Addr) (n c n' c' : Nat) (w : World) (h : Wi.Hs w a n c (M.frame b13)) (h' : Wi.Hs w a' n' c' (M.frame b13)) : Calls Tryz.prog 18 #[.slice a n c, .slice a' n' c'] w fun e w' => e = .returned (.bool true) ∧ w' = w := by
  refine (Wi.same_any a a' n c n' c' _ _ w h h').mono ?_
  rintro e w' ⟨rfl, rfl⟩
  exact ⟨by rw [decide_eq_true rfl], rfl⟩
set_option maxRecDepth 100000 in
set_option maxHeartbeats 4000000 in
theorem alive7 (w : World) (hT : Tab w) : Calls Tryz.prog 15 #[] w fun e w' => e = .returned (.bool true) ∧ Below w.heap.size w w' := by
  go_enter Tryz.func15, Tryz.ntmps15
  go_upto_region 1 with fail
  refine wp_region_lit ?_
  refine vl_gen (fun T => T.size = 52) rfl (fun T0 hz => ?_)
  refine vcallP (want_none rfl) (ex_call (args := #[]) rfl (by simp) rfl) (three7_any w) rfl hz (by decide) ?_
  rintro e w1 ⟨rfl, hB1⟩
  refine ⟨_, rfl, fun A1_1 zz kk s9x => ?_⟩
  clear kk hz
  have hz := zz
  have s9 := s9x
  clear zz s9x
  refine vcallP (want_none rfl) (ex_call (args := #[]) rfl (by simp) rfl) (request7_any w1) rfl hz (by decide) ?_
  rintro e w2 ⟨rfl, hb2⟩
  refine ⟨_, rfl, fun A1_2 zz kk s10x => ?_⟩
  have hB2 := hB1.trans (hb2.mono hB1.size)
  clear hb2 hB1
  replace s9 := (kk 9 (by decide)).trans s9
  clear kk hz
  have hz := zz
  have s10 := s10x
  clear zz s10x A1_1
  refine vcallP (want_none rfl) (ex_call rfl (by simp only [List.map_toArray, List.map_cons, List.map_nil, (ev s9 rfl), (ev s10 rfl), evc] <;> rfl) rfl) (encode_rq w2 (hT.later hB2 hT.lt)) rfl hz (by decide) ?_
  rintro e w3 ⟨af, nf, cf, rfl, hsF, hb3⟩
  refine ⟨_, rfl, fun A1_3 zz kk s11x => ?_⟩
  have hB3 := hB2.trans (hb3.mono hB2.size)
  clear hb3 hB2
  clear kk hz s9 s10
  have hz := zz
  have s11 := s11x
  clear zz s11x A1_2
  refine vl true (.tuple #[.slice af nf cf, .int .i64 0]) (want_none rfl) (fun hc => ex_move rfl (ev s11 rfl)) rfl hz (by decide) (fun A1_4 zz kk s8x => ?_)
  clear kk hz s11
  have hz := zz
  have s8 := s8x
  clear zz s8x A1_3
  refine vl true (.slice af nf cf) (want_none rfl) (fun hc => ex_ext rfl (ev s8 rfl) rfl) rfl hz (by decide) (fun A1_5 zz kk s12x => ?_)
  replace s8 := (kk 8 (by decide)).trans s8
  clear kk hz
  have hz := zz
  have s12 := s12x
  clear zz s12x A1_4
  refine vl true (.int .i64 0) (want_none rfl) (fun hc => ex_ext rfl (ev s8 rfl) rfl) rfl hz (by decide) (fun A1_6 zz kk s13x => ?_)
  replace s12 := (kk 12 (by decide)).trans s12
  clear kk hz s8
  have hz := zz
  have s13 := s13x
  clear zz s13x A1_5
  refine vl true (.slice af nf cf) (want_none rfl) (fun hc => ex_assign rfl (ev s12 rfl)) rfl hz (by decide) (fun A1_7 zz kk s1x => ?_)
  replace s13 := (kk 13 (by decide)).trans s13
  clear kk hz s12
  have hz := zz
  have s1 := s1x
  clear zz s1x A1_6
  refine vl true (.int .i64 0) (want_none rfl) (fun hc => ex_assign rfl (ev s13 rfl)) rfl hz (by decide) (fun A1_8 zz kk s2x => ?_)
  replace s1 := (kk 1 (by decide)).trans s1
  clear kk hz s13
  have hz := zz
  have s2 := s2x
  clear zz s2x A1_7
  refine wpList_nil ?_
  go_upto_region 2 with fail
  refine wp_region_lit ?_
  obtain ⟨wb, hwb⟩ : ∃ y, y = w3.alloc (.cells (b13.map (Value.int .u8)).toArray 5) := ⟨_, rfl⟩
  have hbb : Below w3.heap.size w3 wb := by rw [hwb]; exact (Below.refl _ _).alloc (Nat.le_refl _) _
  have hSb : Wi.Hs wb (some ⟨w3.heap.size, 0, none⟩) 13 13 b13 := by rw [hwb]; exact hs13 _
  refine vw (.slice (some ⟨w3.heap.size, 0, none⟩) 13 13) wb (want_none rfl) (ex_bs rfl (by simp only [List.map_toArray, List.map_cons, List.map_nil] <;> rfl) (by rw [hwb]; exact bslice13 _)) rfl hz (by decide) (fun A2_1 zz kk s15x => ?_)
  replace s1 := (kk 1 (by decide)).trans s1
  replace s2 := (kk 2 (by decide)).trans s2
  clear kk hz
  have hz := zz
  have s15 := s15x
  clear zz s15x
  clear hwb
  refine vcallP (want_none rfl) (ex_call rfl (by simp only [List.map_toArray, List.map_cons, List.map_nil, (ev s15 rfl), evc] <;> rfl) rfl) (Wi.refseal_ok _ 13 13 b13 wb hSb (by decide)) rfl hz (by decide) ?_
  rintro e w4 ⟨vw_, rfl, Ow, _, hb4⟩; obtain ⟨aw, nw, cw, rfl, hsW, _⟩ := Ow.hs (M.frame_byte _ b13_byte)
  refine ⟨_, rfl, fun A2_2 zz kk s16x => ?_⟩
  have hsF4 := (hsF.later hbb).later hb4
  have hBb := hB3.trans (hbb.mono hB3.size)
  have hB4 := hBb.trans (hb4.mono hBb.size)
  clear hb4 hBb hbb hB3 hsF hSb Ow
  replace s1 := (kk 1 (by decide)).trans s1
  replace s2 := (kk 2 (by decide)).trans s2
  clear kk hz s15
  have hz := zz
  have s16 := s16x
  clear zz s16x A2_1
  refine vl true (.tuple #[.slice aw nw cw, .int .i64 0]) (want_none rfl) (fun hc => ex_move rfl (ev s16 rfl)) rfl hz (by decide) (fun A2_3 zz kk s14x => ?_)
  replace s1 := (kk 1 (by decide)).trans s1
  replace s2 := (kk 2 (by decide)).trans s2
  clear kk hz s16
  have hz := zz
  have s14 := s14x
  clear zz s14x A2_2
  refine vl true (.slice aw nw cw) (want_none rfl) (fun hc => ex_ext rfl (ev s14 rfl) rfl) rfl hz (by decide) (fun A2_4 zz kk s17x => ?_)
  replace s1 := (kk 1 (by decide)).trans s1
  replace s2 := (kk 2 (by decide)).trans s2
  replace s14 := (kk 14 (by decide)).trans s14
  clear kk hz
  have hz := zz
  have s17 := s17x
  clear zz s17x A2_3
  refine vl true (.int .i64 0) (want_none rfl) (fun hc => ex_ext rfl (ev s14 rfl) rfl) rfl hz (by decide) (fun A2_5 zz kk s18x => ?_)
  replace s1 := (kk 1 (by decide)).trans s1
  replace s2 := (kk 2 (by decide)).trans s2
  replace s17 := (kk 17 (by decide)).trans s17
  clear kk hz s14
  have hz := zz
  have s18 := s18x
  clear zz s18x A2_4
  refine vl true (.slice aw nw cw) (want_none rfl) (fun hc => ex_assign rfl (ev s17 rfl)) rfl hz (by decide) (fun A2_6 zz kk s3x => ?_)
  replace s1 := (kk 1 (by decide)).trans s1
  replace s2 := (kk 2 (by decide)).trans s2
  replace s18 := (kk 18 (by decide)).trans s18
  clear kk hz s17
  have hz := zz
  have s3 := s3x
  clear zz s3x A2_5
  refine vl true (.int .i64 0) (want_none rfl) (fun hc => ex_assign rfl (ev s18 rfl)) rfl hz (by decide) (fun A2_7 zz kk s4x => ?_)
  replace s1 := (kk 1 (by decide)).trans s1
  replace s2 := (kk 2 (by decide)).trans s2
  replace s3 := (kk 3 (by decide)).trans s3
  clear kk hz s18
  have hz := zz
  have s4 := s4x
  clear zz s4x A2_6
  refine wpList_nil ?_
  clear s4
  go_upto_region 3 with fail
  refine wp_region_lit ?_
  refine vcallP (want_none rfl) (ex_call (args := #[]) rfl (by simp) rfl) (three7_any w4) rfl hz (by decide) ?_
  rintro e w5 ⟨rfl, hb5⟩
  refine ⟨_, rfl, fun A3_1 zz kk s20x => ?_⟩
  have hB5 := hB4.trans (hb5.mono hB4.size)
  have hsF5 := hsF4.later hb5
  have hsW5 := hsW.later hb5
  clear hb5 hB4 hsF4 hsW
  replace s1 := (kk 1 (by decide)).trans s1
  replace s2 := (kk 2 (by decide)).trans s2
  replace s3 := (kk 3 (by decide)).trans s3
  clear kk hz
  have hz := zz
  have s20 := s20x
  clear zz s20x
  refine vl true (.slice aw nw cw) (want_none rfl) (fun hc => ex_move rfl (ev s3 rfl)) rfl hz (by decide) (fun A3_2 zz kk s21x => ?_)
  replace s1 := (kk 1 (by decide)).trans s1
  replace s2 := (kk 2 (by decide)).trans s2
  replace s3 := (kk 3 (by decide)).trans s3
  replace s20 := (kk 20 (by decide)).trans s20
  clear kk hz
  have hz := zz
  have s21 := s21x
  clear zz s21x A3_1
  refine vcallP (want_none rfl) (ex_call rfl (by simp only [List.map_toArray, List.map_cons, List.map_nil, (ev s20 rfl), (ev s21 rfl), evc] <;> rfl) rfl) (decode_rq aw nw cw w5 hsW5 (hT.later hB5 hT.lt)) rfl hz (by decide) ?_
  rintro e w6 ⟨sa, sc, ta, tc, rfl, hsl1, hsl2, hb6⟩
  refine ⟨_, rfl, fun A3_3 zz kk s22x => ?_⟩
  have hB6 := hB5.trans (hb6.mono hB5.size)
  have hsF6 := hsF5.later hb6
  have hsW6 := hsW5.later hb6
  clear hb6 hB5 hsF5 hsW5
  obtain ⟨q, hq⟩ : ∃ q, q = w6.heap.size := ⟨_, rfl⟩
  obtain ⟨w7, hw7⟩ : ∃ y, y = w6.alloc (.cells (zG.cs nilS nilS).toArray 38) := ⟨_, rfl⟩
  have hb7 : Below w6.heap.size w6 w7 := by rw [hw7]; exact (Below.refl _ _).alloc (Nat.le_refl _) _
  have M7 : MBox w7 q zG nilS nilS := by rw [hw7, hq]; exact MBox.new0 w6
  replace s1 := (kk 1 (by decide)).trans s1
  replace s2 := (kk 2 (by decide)).trans s2
  replace s3 := (kk 3 (by decide)).trans s3
  clear kk hz s20 s21
  have hz := zz
  have s22 := s22x
  clear zz s22x A3_2
  refine vl true (.tuple #[rq.val (.slice sa 0 sc) (.slice ta 0 tc), .int .i64 0]) (want_none rfl) (fun hc => ex_move rfl (ev s22 rfl)) rfl hz (by decide) (fun A3_4 zz kk s19x => ?_)
  replace s1 := (kk 1 (by decide)).trans s1
  replace s2 := (kk 2 (by decide)).trans s2
  replace s3 := (kk 3 (by decide)).trans s3
  clear kk hz s22
  have hz := zz
  have s19 := s19x
  clear zz s19x A3_3
  refine vl true (rq.val (.slice sa 0 sc) (.slice ta 0 tc)) (want_none rfl) (fun hc => ex_ext rfl (ev s19 rfl) rfl) rfl hz (by decide) (fun A3_5 zz kk s23x => ?_)
  replace s1 := (kk 1 (by decide)).trans s1
  replace s2 := (kk 2 (by decide)).trans s2
  replace s3 := (kk 3 (by decide)).trans s3
  replace s19 := (kk 19 (by decide)).trans s19
  clear kk hz
  have hz := zz
  have s23 := s23x
  clear zz s23x A3_4
  refine vl true (.int .i64 0) (want_none rfl) (fun hc => ex_ext rfl (ev s19 rfl) rfl) rfl hz (by decide) (fun A3_6 zz kk s24x => ?_)
  replace s1 := (kk 1 (by decide)).trans s1
  replace s2 := (kk 2 (by decide)).trans s2
  replace s3 := (kk 3 (by decide)).trans s3
  replace s23 := (kk 23 (by decide)).trans s23
  clear kk hz s19
  have hz := zz
  have s24 := s24x
  clear zz s24x A3_5
  refine vw (.pointer (some ⟨q, 0, none⟩)) w7 (want_none rfl) (ex_al rfl (by rw [hw7, hq]; exact alM _)) rfl hz (by decide) (fun A3_7 zz kk s5x => ?_)
  replace s1 := (kk 1 (by decide)).trans s1
  replace s2 := (kk 2 (by decide)).trans s2
  replace s3 := (kk 3 (by decide)).trans s3
  replace s23 := (kk 23 (by decide)).trans s23
  replace s24 := (kk 24 (by decide)).trans s24
  clear kk hz
  have hz := zz
  have s5 := s5x
  clear zz s5x A3_6
  refine vs (sets w7 q 0 (rq.cs (.slice sa 0 sc) (.slice ta 0 tc))) (want_none rfl) (ex_st rfl (ev s5 rfl) (ev s23 rfl) (stM M7 rq (.slice sa 0 sc) (.slice ta 0 tc) rfl rfl)) rfl ?_
  have SP := M7.putU rq (.slice sa 0 sc) (.slice ta 0 tc)
  obtain ⟨w8, hw8⟩ : ∃ y, y = sets w7 q 0 (rq.cs (.slice sa 0 sc) (.slice ta 0 tc)) := ⟨_, rfl⟩
  rw [← hw8] at SP ⊢
  clear hw8 hw7
  have hb8 : Below w6.heap.size w6 w8 := hb7.trans (SP.2.below hb7.size (by omega))
  have hB8 := hB6.trans (hb8.mono hB6.size)
  have hsF8 := hsF6.later hb8
  have hsW8 := hsW6.later hb8
  have hl1 := hsl1.later hb8
  have hl2 := hsl2.later hb8
  have M8 := SP.1
  have hT8 := hT.later hB8 hT.lt
  clear SP hb8 hb7 M7 hB6 hsF6 hsW6 hsl1 hsl2
  refine vl true (.int .i64 0) (want_none rfl) (fun hc => ex_assign rfl (ev s24 rfl)) rfl hz (by decide) (fun A3_8 zz kk s6x => ?_)
  replace s1 := (kk 1 (by decide)).trans s1
  replace s2 := (kk 2 (by decide)).trans s2
  replace s3 := (kk 3 (by decide)).trans s3
  replace s5 := (kk 5 (by decide)).trans s5
  clear kk hz s23 s24
  have hz := zz
  have s6 := s6x
  clear zz s6x A3_7
  refine wpList_nil ?_
  go_upto_region 4 with fail
  refine v_cut (fun T v => T.size = 52 ∧ T[1]? = some (gw true (.slice af nf cf)) ∧ T[2]? = some (gw true (.int .i64 0)) ∧ T[3]? = some (gw true (.slice aw nw cw)) ∧ T[5]? = some (gw true (.pointer (some ⟨q, 0, none⟩))) ∧ T[6]? = some (gw true (.int .i64 0)) ∧ T[7]? = some (gw true (.int .i64 71)) ∧ Below w8.heap.size w8 v) ?_ ?_
  rotate_left
  · rintro T4 w9 ⟨hz, s1, s2, s3, s5, s6, s7, hb9⟩
    have M9 := M8.bel hb9
    have hsF9 := hsF8.later hb9
    have hsW9 := hsW8.later hb9
    have k1 := hl1.later hb9
    have k2 := hl2.later hb9
    have hB9 := hB8.trans (hb9.mono hB8.size)
    clear hb9 hsF8 hsW8 hl1 hl2 hB8 hT8 M8
    go_upto_region 5 with fail
    refine vh_start (fun v => Below w9.heap.size w9 v) (by kernel_rfl) ?_
    have hS : Below w9.heap.size w9 w9.drew := (Below.refl _ _).drew
    refine vh_take 0 true (.int .i64 0) rfl (by kernel_rfl) (by kernel_rfl) (by kernel_rfl) (want_none rfl) (fun hc v hv => ex_move rfl (ev s2 rfl)) rfl hz (by decide) hS (fun A5_1 zz kk s29x => ?_)
    replace s1 := (kk 1 (by decide)).trans s1
    replace s3 := (kk 3 (by decide)).trans s3
    replace s5 := (kk 5 (by decide)).trans s5
    replace s6 := (kk 6 (by decide)).trans s6
    replace s7 := (kk 7 (by decide)).trans s7
    clear kk hz s2
    have hz := zz
    have s29 := s29x
    clear zz s29x
    refine vh_call 1 rfl (by kernel_rfl) (want_none rfl) (ex_call rfl (by simp only [List.map_toArray, List.map_cons, List.map_nil, (ev s29 rfl), evc] <;> rfl) rfl) (num7_any 0 _) rfl hz (by decide) ?_
    rintro e y1 ⟨rfl, rfl⟩
    refine ⟨_, rfl, hS, fun A5_2 zz kk s30x => ?_⟩
    replace s1 := (kk 1 (by decide)).trans s1
    replace s3 := (kk 3 (by decide)).trans s3
    replace s5 := (kk 5 (by decide)).trans s5
    replace s6 := (kk 6 (by decide)).trans s6
    replace s7 := (kk 7 (by decide)).trans s7
    clear kk hz s29
    have hz := zz
    have s30 := s30x
    clear zz s30x A5_1
    refine vh_take 2 true (.bool true) rfl (by kernel_rfl) (by kernel_rfl) (by kernel_rfl) (want_none rfl) (fun hc v hv => ex_bin rfl (ev s30 rfl) rfl (eq00 _ _ _)) rfl hz (by decide) hS (fun A5_3 zz kk s31x => ?_)
    replace s1 := (kk 1 (by decide)).trans s1
    replace s3 := (kk 3 (by decide)).trans s3
    replace s5 := (kk 5 (by decide)).trans s5
    replace s6 := (kk 6 (by decide)).trans s6
    replace s7 := (kk 7 (by decide)).trans s7
    clear kk hz s30
    have hz := zz
    have s31 := s31x
    clear zz s31x A5_2
    refine vh_take 3 true (.bool true) rfl (by kernel_rfl) (by kernel_rfl) (by kernel_rfl) (want_none rfl) (fun hc v hv => ex_move rfl (ev s31 rfl)) rfl hz (by decide) hS (fun A5_4 zz kk s32x => ?_)
    replace s1 := (kk 1 (by decide)).trans s1
    replace s3 := (kk 3 (by decide)).trans s3
    replace s5 := (kk 5 (by decide)).trans s5
    replace s6 := (kk 6 (by decide)).trans s6
    replace s7 := (kk 7 (by decide)).trans s7
    clear kk hz s31
    have hz := zz
    have s32 := s32x
    clear zz s32x A5_3
    refine vh_take 4 true (.slice af nf cf) rfl (by kernel_rfl) (by kernel_rfl) (by kernel_rfl) (want_t rfl rfl s32) (fun hc v hv => ex_move rfl (ev s1 rfl)) rfl hz (by decide) hS (fun A5_5 zz kk s33x => ?_)
    replace s3 := (kk 3 (by decide)).trans s3
    replace s5 := (kk 5 (by decide)).trans s5
    replace s6 := (kk 6 (by decide)).trans s6
    replace s7 := (kk 7 (by decide)).trans s7
    replace s32 := (kk 32 (by decide)).trans s32
    clear kk hz s1
    have hz := zz
    have s33 := s33x
    clear zz s33x A5_4
    refine vh_take 5 true (.slice aw nw cw) rfl (by kernel_rfl) (by kernel_rfl) (by kernel_rfl) (want_t rfl rfl s32) (fun hc v hv => ex_move rfl (ev s3 rfl)) rfl hz (by decide) hS (fun A5_6 zz kk s34x => ?_)
    replace s5 := (kk 5 (by decide)).trans s5
    replace s6 := (kk 6 (by decide)).trans s6
    replace s7 := (kk 7 (by decide)).trans s7
    replace s32 := (kk 32 (by decide)).trans s32
    replace s33 := (kk 33 (by decide)).trans s33
    clear kk hz s3
    have hz := zz
    have s34 := s34x
    clear zz s34x A5_5
    refine vh_call 6 rfl (by kernel_rfl) (want_t rfl rfl s32) (ex_call rfl (by simp only [List.map_toArray, List.map_cons, List.map_nil, (ev s33 rfl), (ev s34 rfl), evc] <;> rfl) rfl) (same_fr af aw nf cf nw cw _ (hsF9.later hS) (hsW9.later hS)) rfl hz (by decide) ?_
    rintro e y2 ⟨rfl, rfl⟩
    refine ⟨_, rfl, hS, fun A5_7 zz kk s35x => ?_⟩
    replace s5 := (kk 5 (by decide)).trans s5
    replace s6 := (kk 6 (by decide)).trans s6
    replace s7 := (kk 7 (by decide)).trans s7
    replace s32 := (kk 32 (by decide)).trans s32
    clear kk hz s33 s34
    have hz := zz
    have s35 := s35x
    clear zz s35x A5_6
    refine vh_take 7 true (.bool true) rfl (by kernel_rfl) (by kernel_rfl) (by kernel_rfl) (want_none rfl) (fun hc v hv => ex_andT rfl s32 s35) rfl hz (by decide) hS (fun A5_8 zz kk s36x => ?_)
    replace s5 := (kk 5 (by decide)).trans s5
    replace s6 := (kk 6 (by decide)).trans s6
    replace s7 := (kk 7 (by decide)).trans s7
    clear kk hz s32 s35
    have hz := zz
    have s36 := s36x
    clear zz s36x A5_7
    refine vh_take 8 true (.bool true) rfl (by kernel_rfl) (by kernel_rfl) (by kernel_rfl) (want_none rfl) (fun hc v hv => ex_move rfl (ev s36 rfl)) rfl hz (by decide) hS (fun A5_9 zz kk s37x => ?_)
    replace s5 := (kk 5 (by decide)).trans s5
    replace s6 := (kk 6 (by decide)).trans s6
    replace s7 := (kk 7 (by decide)).trans s7
    clear kk hz s36
    have hz := zz
    have s37 := s37x
    clear zz s37x A5_8
    refine vh_take 9 true (.int .i64 0) rfl (by kernel_rfl) (by kernel_rfl) (by kernel_rfl) (want_t rfl rfl s37) (fun hc v hv => ex_move rfl (ev s6 rfl)) rfl hz (by decide) hS (fun A5_10 zz kk s38x => ?_)
    replace s5 := (kk 5 (by decide)).trans s5
    replace s7 := (kk 7 (by decide)).trans s7
    replace s37 := (kk 37 (by decide)).trans s37
    clear kk hz s6
    have hz := zz
    have s38 := s38x
    clear zz s38x A5_9
    refine vh_call 10 rfl (by kernel_rfl) (want_t rfl rfl s37) (ex_call rfl (by simp only [List.map_toArray, List.map_cons, List.map_nil, (ev s38 rfl), evc] <;> rfl) rfl) (num7_any 0 _) rfl hz (by decide) ?_
    rintro e y3 ⟨rfl, rfl⟩
    refine ⟨_, rfl, hS, fun A5_11 zz kk s39x => ?_⟩
    replace s5 := (kk 5 (by decide)).trans s5
    replace s7 := (kk 7 (by decide)).trans s7
    replace s37 := (kk 37 (by decide)).trans s37
    clear kk hz s38
    have hz := zz
    have s39 := s39x
    clear zz s39x A5_10
    refine vh_take 11 true (.bool true) rfl (by kernel_rfl) (by kernel_rfl) (by kernel_rfl) (want_t rfl rfl s37) (fun hc v hv => ex_bin rfl (ev s39 rfl) rfl (eq00 _ _ _)) rfl hz (by decide) hS (fun A5_12 zz kk s40x => ?_)
    replace s5 := (kk 5 (by decide)).trans s5
    replace s7 := (kk 7 (by decide)).trans s7
    replace s37 := (kk 37 (by decide)).trans s37
    clear kk hz s39
    have hz := zz
    have s40 := s40x
    clear zz s40x A5_11
    refine vh_take 12 true (.bool true) rfl (by kernel_rfl) (by kernel_rfl) (by kernel_rfl) (want_none rfl) (fun hc v hv => ex_andT rfl s37 s40) rfl hz (by decide) hS (fun A5_13 zz kk s41x => ?_)
    replace s5 := (kk 5 (by decide)).trans s5
    replace s7 := (kk 7 (by decide)).trans s7
    clear kk hz s37 s40
    have hz := zz
    have s41 := s41x
    clear zz s41x A5_12
    refine vh_take 13 true (.bool true) rfl (by kernel_rfl) (by kernel_rfl) (by kernel_rfl) (want_none rfl) (fun hc v hv => ex_move rfl (ev s41 rfl)) rfl hz (by decide) hS (fun A5_14 zz kk s42x => ?_)
    replace s5 := (kk 5 (by decide)).trans s5
    replace s7 := (kk 7 (by decide)).trans s7
    clear kk hz s41
    have hz := zz
    have s42 := s42x
    clear zz s42x A5_13
    refine vh_take 14 true (rq.val (.slice sa 0 sc) (.slice ta 0 tc)) rfl (by kernel_rfl) (by kernel_rfl) (by kernel_rfl) (want_t rfl rfl s42) (fun hc v hv => ex_ld rfl (ev s5 rfl) ((M9.bel hv).ldAll)) rfl hz (by decide) hS (fun A5_15 zz kk s43x => ?_)
    replace s7 := (kk 7 (by decide)).trans s7
    replace s42 := (kk 42 (by decide)).trans s42
    clear kk hz s5
    have hz := zz
    have s43 := s43x
    clear zz s43x A5_14
    refine vh_call 15 rfl (by kernel_rfl) (want_t rfl rfl s42) (ex_call (args := #[]) rfl (by simp) rfl) (request7_any _) rfl hz (by decide) ?_
    rintro e y4 ⟨rfl, hb4⟩
    refine ⟨_, rfl, (hS.trans (hb4.mono hS.size)), fun A5_16 zz kk s44x => ?_⟩
    replace hS := hS.trans (hb4.mono hS.size)
    clear hb4
    replace s7 := (kk 7 (by decide)).trans s7
    replace s42 := (kk 42 (by decide)).trans s42
    replace s43 := (kk 43 (by decide)).trans s43
    clear kk hz
    have hz := zz
    have s44 := s44x
    clear zz s44x A5_15
    refine vh_call 16 rfl (by kernel_rfl) (want_t rfl rfl s42) (ex_call rfl (by simp only [List.map_toArray, List.map_cons, List.map_nil, (ev s43 rfl), (ev s44 rfl), evc] <;> rfl) rfl) (same_rq sa ta sc tc _ (k1.later hS) (k2.later hS)) rfl hz (by decide) ?_
    rintro e y5 ⟨rfl, hb5⟩
    refine ⟨_, rfl, (hS.trans (hb5.mono hS.size)), fun A5_17 zz kk s45x => ?_⟩
    replace hS := hS.trans (hb5.mono hS.size)
    clear hb5
    replace s7 := (kk 7 (by decide)).trans s7
    replace s42 := (kk 42 (by decide)).trans s42
    clear kk hz s43 s44
    have hz := zz
    have s45 := s45x
    clear zz s45x A5_16
    refine vh_take 17 true (.bool true) rfl (by kernel_rfl) (by kernel_rfl) (by kernel_rfl) (want_none rfl) (fun hc v hv => ex_andT rfl s42 s45) rfl hz (by decide) hS (fun A5_18 zz kk s46x => ?_)
    replace s7 := (kk 7 (by decide)).trans s7
    clear kk hz s42 s45
    have hz := zz
    have s46 := s46x
    clear zz s46x A5_17
    refine vh_take 18 true (.bool true) rfl (by kernel_rfl) (by kernel_rfl) (by kernel_rfl) (want_none rfl) (fun hc v hv => ex_move rfl (ev s46 rfl)) rfl hz (by decide) hS (fun A5_19 zz kk s47x => ?_)
    replace s7 := (kk 7 (by decide)).trans s7
    clear kk hz s46
    have hz := zz
    have s47 := s47x
    clear zz s47x A5_18
    refine vh_take 19 true (.int .i64 71) rfl (by kernel_rfl) (by kernel_rfl) (by kernel_rfl) (want_t rfl rfl s47) (fun hc v hv => ex_move rfl (ev s7 rfl)) rfl hz (by decide) hS (fun A5_20 zz kk s48x => ?_)
    replace s47 := (kk 47 (by decide)).trans s47
    clear kk hz s7
    have hz := zz
    have s48 := s48x
    clear zz s48x A5_19
    refine vh_call 20 rfl (by kernel_rfl) (want_t rfl rfl s47) (ex_call rfl (by simp only [List.map_toArray, List.map_cons, List.map_nil, (ev s48 rfl), evc] <;> rfl) rfl) (num7_any 71 _) rfl hz (by decide) ?_
    rintro e y6 ⟨rfl, rfl⟩
    refine ⟨_, rfl, hS, fun A5_21 zz kk s49x => ?_⟩
    replace s47 := (kk 47 (by decide)).trans s47
    clear kk hz s48
    have hz := zz
    have s49 := s49x
    clear zz s49x A5_20
    refine vh_take 21 true (.bool true) rfl (by kernel_rfl) (by kernel_rfl) (by kernel_rfl) (want_t rfl rfl s47) (fun hc v hv => ex_bin rfl (ev s49 rfl) rfl (eq71 _ _ _)) rfl hz (by decide) hS (fun A5_22 zz kk s50x => ?_)
    replace s47 := (kk 47 (by decide)).trans s47
    clear kk hz s49
    have hz := zz
    have s50 := s50x
    clear zz s50x A5_21
    refine vh_take 22 true (.bool true) rfl (by kernel_rfl) (by kernel_rfl) (by kernel_rfl) (want_none rfl) (fun hc v hv => ex_andT rfl s47 s50) rfl hz (by decide) hS (fun A5_23 zz kk s51x => ?_)
    clear kk hz s47 s50
    have hz := zz
    have s51 := s51x
    clear zz s51x A5_22
    refine vh_take 23 true (.bool true) rfl (by kernel_rfl) (by kernel_rfl) (by kernel_rfl) (want_none rfl) (fun hc v hv => ex_assign rfl (ev s51 rfl)) rfl hz (by decide) hS (fun A5_24 zz kk s0x => ?_)
    clear kk hz s51
    have hz := zz
    have s0 := s0x
    clear zz s0x A5_23
    refine vh_done (by kernel_rfl) ?_
    have hfin := hB9.trans (hS.mono hB9.size)
    go_wp2
    refine bodyPost_ret (results_tmp rfl _ _ _) rfl ⟨?_, hfin⟩
    rw [getD_of s0]
    rfl
  refine vh_start (fun v => Below w8.heap.size w8 v) (by kernel_rfl) ?_
  have hS : Below w8.heap.size w8 w8.drew := (Below.refl _ _).drew
  refine vh_two 0 1 (by kernel_rfl) rfl rfl (want_none rfl) (ex_call (args := #[]) rfl (by simp) rfl) (three7_any _) rfl hz (by decide) ?_ (.slice (some ⟨w8.drew.heap.size, 0, none⟩) 3 3) (w8.drew.alloc zV3) (want_none rfl) (ex_mk rfl rfl rfl (mk3 _)) rfl (by decide) (hS.alloc hS.size _) ?_
  · rintro e y1 ⟨rfl, hb1⟩
    refine ⟨_, rfl, hS.trans (hb1.mono hS.size), fun Ta zz kk s25x => ?_⟩
    replace hS := hS.trans (hb1.mono hS.size)
    replace s1 := (kk 1 (by decide)).trans s1
    replace s2 := (kk 2 (by decide)).trans s2
    replace s3 := (kk 3 (by decide)).trans s3
    replace s5 := (kk 5 (by decide)).trans s5
    replace s6 := (kk 6 (by decide)).trans s6
    clear kk hz
    have hz := zz
    have s25 := s25x
    clear zz s25x
    refine vh_val 1 (.slice (some ⟨y1.heap.size, 0, none⟩) 3 3) (y1.alloc zV3) rfl (by kernel_rfl) (want_none rfl) (ex_mk rfl rfl rfl (mk3 _)) rfl hz (by decide) (hS.alloc hS.size _) (fun Te zz kk s26x => ?_)
    have hsl := sl3 y1
    replace hS := hS.alloc hS.size zV3
    replace s1 := (kk 1 (by decide)).trans s1
    replace s2 := (kk 2 (by decide)).trans s2
    replace s3 := (kk 3 (by decide)).trans s3
    replace s5 := (kk 5 (by decide)).trans s5
    replace s6 := (kk 6 (by decide)).trans s6
    replace s25 := (kk 25 (by decide)).trans s25
    clear kk hz
    have hz := zz
    have s26 := s26x
    clear zz s26x
    refine vh_take 2 true (cmB.val nilS (.slice (some ⟨y1.heap.size, 0, none⟩) 3 3)) rfl (by kernel_rfl) (by kernel_rfl) (by kernel_rfl) (want_none rfl) (fun hc v hv => ex_buildP rfl (by simp only [List.map_toArray, List.map_cons, List.map_nil, (ev s26 rfl)] <;> rfl) (bdCm _ _)) rfl hz (by decide) hS (fun Tb zz kk s27x => ?_)
    replace s1 := (kk 1 (by decide)).trans s1
    replace s2 := (kk 2 (by decide)).trans s2
    replace s3 := (kk 3 (by decide)).trans s3
    replace s5 := (kk 5 (by decide)).trans s5
    replace s6 := (kk 6 (by decide)).trans s6
    replace s25 := (kk 25 (by decide)).trans s25
    clear kk hz
    have hz := zz
    have s27 := s27x
    clear zz s27x
    refine vh_call 3 rfl (by kernel_rfl) (want_none rfl) (ex_call rfl (by simp only [List.map_toArray, List.map_cons, List.map_nil, (ev s25 rfl), (ev s27 rfl), evc] <;> rfl) rfl) (check_cm y1.heap.size _ (hT8.later hS hT8.lt) hsl) rfl hz (by decide) ?_
    rintro e y2 ⟨rfl, hbz⟩
    refine ⟨_, rfl, hS.trans (hbz.mono hS.size), fun Tc zz kk s28x => ?_⟩
    replace hS := hS.trans (hbz.mono hS.size)
    replace s1 := (kk 1 (by decide)).trans s1
    replace s2 := (kk 2 (by decide)).trans s2
    replace s3 := (kk 3 (by decide)).trans s3
    replace s5 := (kk 5 (by decide)).trans s5
    replace s6 := (kk 6 (by decide)).trans s6
    clear kk hz
    have hz := zz
    have s28 := s28x
    clear zz s28x
    refine vh_take 4 true (.int .i64 71) rfl (by kernel_rfl) (by kernel_rfl) (by kernel_rfl) (want_none rfl) (fun hc v hv => ex_assign rfl (ev s28 rfl)) rfl hz (by decide) hS (fun Td zz kk s7x => ?_)
    replace s1 := (kk 1 (by decide)).trans s1
    replace s2 := (kk 2 (by decide)).trans s2
    replace s3 := (kk 3 (by decide)).trans s3
    replace s5 := (kk 5 (by decide)).trans s5
    replace s6 := (kk 6 (by decide)).trans s6
    clear kk hz
    have hz := zz
    have s7 := s7x
    clear zz s7x
    refine vh_done (by kernel_rfl) ?_
    exact ⟨_, rfl, hz, s1, s2, s3, s5, s6, s7, hS⟩
  · intro Ta zz kk s26x
    have hsl := sl3 w8.drew
    replace hS := hS.alloc hS.size zV3
    replace s1 := (kk 1 (by decide)).trans s1
    replace s2 := (kk 2 (by decide)).trans s2
    replace s3 := (kk 3 (by decide)).trans s3
    replace s5 := (kk 5 (by decide)).trans s5
    replace s6 := (kk 6 (by decide)).trans s6
    clear kk hz
    have hz := zz
    have s26 := s26x
    clear zz s26x
    refine vh_take 2 true (cmB.val nilS (.slice (some ⟨w8.drew.heap.size, 0, none⟩) 3 3)) rfl (by kernel_rfl) (by kernel_rfl) (by kernel_rfl) (want_none rfl) (fun hc v hv => ex_buildP rfl (by simp only [List.map_toArray, List.map_cons, List.map_nil, (ev s26 rfl)] <;> rfl) (bdCm _ _)) rfl hz (by decide) hS (fun Tb zz kk s27x => ?_)
    replace s1 := (kk 1 (by decide)).trans s1
    replace s2 := (kk 2 (by decide)).trans s2
    replace s3 := (kk 3 (by decide)).trans s3
    replace s5 := (kk 5 (by decide)).trans s5
    replace s6 := (kk 6 (by decide)).trans s6
    clear kk hz
    have hz := zz
    have s27 := s27x
    clear zz s27x
    refine vh_call 0 rfl (by kernel_rfl) (want_none rfl) (ex_call (args := #[]) rfl (by simp) rfl) (three7_any _) rfl hz (by decide) ?_
    rintro e y1 ⟨rfl, hb1⟩
    refine ⟨_, rfl, hS.trans (hb1.mono hS.size), fun Tf zz kk s25x => ?_⟩
    replace hS := hS.trans (hb1.mono hS.size)
    replace s1 := (kk 1 (by decide)).trans s1
    replace s2 := (kk 2 (by decide)).trans s2
    replace s3 := (kk 3 (by decide)).trans s3
    replace s5 := (kk 5 (by decide)).trans s5
    replace s6 := (kk 6 (by decide)).trans s6
    replace s27 := (kk 27 (by decide)).trans s27
    clear kk hz
    have hz := zz
    have s25 := s25x
    clear zz s25x
    refine vh_call 3 rfl (by kernel_rfl) (want_none rfl) (ex_call rfl (by simp only [List.map_toArray, List.map_cons, List.map_nil, (ev s25 rfl), (ev s27 rfl), evc] <;> rfl) rfl) (check_cm w8.drew.heap.size _ (hT8.later hS hT8.lt) (hsl.later hb1)) rfl hz (by decide) ?_
    rintro e y2 ⟨rfl, hbz⟩
    refine ⟨_, rfl, hS.trans (hbz.mono hS.size), fun Tc zz kk s28x => ?_⟩
    replace hS := hS.trans (hbz.mono hS.size)
    replace s1 := (kk 1 (by decide)).trans s1
    replace s2 := (kk 2 (by decide)).trans s2
    replace s3 := (kk 3 (by decide)).trans s3
    replace s5 := (kk 5 (by decide)).trans s5
    replace s6 := (kk 6 (by decide)).trans s6
    clear kk hz
    have hz := zz
    have s28 := s28x
    clear zz s28x
    refine vh_take 4 true (.int .i64 71) rfl (by kernel_rfl) (by kernel_rfl) (by kernel_rfl) (want_none rfl) (fun hc v hv => ex_assign rfl (ev s28 rfl)) rfl hz (by decide) hS (fun Td zz kk s7x => ?_)
    replace s1 := (kk 1 (by decide)).trans s1
    replace s2 := (kk 2 (by decide)).trans s2
    replace s3 := (kk 3 (by decide)).trans s3
    replace s5 := (kk 5 (by decide)).trans s5
    replace s6 := (kk 6 (by decide)).trans s6
    clear kk hz
    have hz := zz
    have s7 := s7x
    clear zz s7x
    refine vh_done (by kernel_rfl) ?_
    exact ⟨_, rfl, hz, s1, s2, s3, s5, s6, s7, hS⟩
theorem CfB.upd {S : Nat → Prop} {w w' : World} {q : Nat} {c : Cf} (h : CfB w q c) (u : Upd S w w') (hs : ¬ S q) : CfB w' q c := ⟨Nat.lt_of_lt_of_le h.lt u.size, fun i x hx => (u.cell (p := ⟨q, i, none⟩) h.lt hs).trans (h.cell i x hx)⟩
theorem Tab.upd {S : Nat → Prop} {w w' : World} (h : Tab w) (u : Upd S w w') (hs : ¬ S 0) : Tab w' := ⟨Nat.lt_of_lt_of_le h.lt u.size, fun k j hk hj => (u.cell (p := ⟨0, k * 10 + j, none⟩) h.lt hs).trans (h.cell k j hk hj)⟩
theorem bxM (m : Mg) (s t : Value) (w : World) : (Instr.box 38 (m.val s t)).run Tryz.prog w = .ok (.pointer (some ⟨w.heap.size, 0, none⟩)) (w.alloc (.cells (m.cs s t).toArray 38)) := rfl
def gvO : Obj := .cells #[.slice none 0 0, .slice none 0 0, .slice none 0 0, .slice none 0 0, .slice none 0 0, .slice none 0 0, .slice none 0 0, .slice none 0 0, .slice none 0 0, .slice none 0 0] 45
theorem alGv (w : World) : (Instr.alloc 45 true (.tuple #[])).run Tryz.prog w = .ok (.pointer (some ⟨w.heap.size, 0, none⟩)) (w.alloc gvO) := by
  go_simp
  first | done | rfl
theorem eqSelf (x y : Operand) (a : Int) (w : World) : (do eqGuard .eql 3 x y (.int .i64 a) (.int .i64 a); binOp .eql 3 (.int .i64 a) (.int .i64 a) : Sem Value).run Tryz.prog w = .ok (.bool true) w := by
  have := eqlC x y a a w
  rwa [decide_eq_true rfl] at this
theorem given7 (m : Mg) (a1 a2 : Option Addr) (n1 n2 c1 c2 : Nat) (L : List En) (D : List (Int × Int)) (b : Nat) (w : World) (G : GM w b (b + 1) nS nS nS nS [] [] [] []) (h1 : SlY yE w a1 n1 c1 L) (h2 : SlY yD w a2 n2 c2 D) (hb1 : n1 * 48 ≤ 140737488351232) (hb2 : n2 * 16 ≤ 140737488351232) (hne : ∀ z, a2 = some z → D ≠ [] → z.block ≠ b) :
    Calls Tryz.prog 10 #[.pointer (some ⟨b, 0, none⟩), m.val (.slice a1 n1 c1) (.slice a2 n2 c2)] w fun e w' => ∃ g c g' c', e = .returned (m.val (.slice (some ⟨g, 0, none⟩) n1 c) (.slice (some ⟨g', 0, none⟩) n2 c')) ∧ SlY yE w' (some ⟨g, 0, none⟩) n1 c L ∧ SlY yD w' (some ⟨g', 0, none⟩) n2 c' D ∧ (∀ v, Below w'.heap.size w' v → Calls Tryz.prog 14 #[.pointer (some ⟨b, 0, none⟩)] v fun e u => e = .returned (.bool true) ∧ Below v.heap.size v u) ∧ UB b w w' := by
  refine (given_msg m a1 a2 n1 n2 c1 c2 L D b (b + 1) nS nS nS nS [] [] [] [] w G h1 h2 hb1 hb2 (by simp) rfl (by simp) rfl (fun z hz hd => ⟨hne z hz hd, (fun h => by cases h), (fun h => by cases h)⟩)).mono ?_
  rintro e w' ⟨g, c, g', c', v2, v3, v4, v5, h, k, h', k', rfl, G', u, _⟩
  refine ⟨g, c, g', c', rfl, G'.logAt (by simp) h1.len, G'.vecAt (by simp) h2.len, fun v hv => ?_, ?_⟩
  · refine (intactM_any b (b + 1) v2 v3 v4 v5 _ _ _ _ v (G'.bel hv) rfl rfl).mono ?_
    rintro e u ⟨rfl, n, rfl⟩
    exact ⟨rfl, belN (Below.refl _ _) n⟩
  · exact Upd.mono u (fun k _ hk => by
      rcases hk with e | e | e | e | e
      · exact e
      all_goals cases e)
theorem ixR9 (o : Nat) (w : World) : (Instr.indexAt 83 (.pointer (some ⟨0, o, none⟩)) (.int .i64 9)).run Tryz.prog w = .ok (.pointer (some ⟨0, o + 9, none⟩)) w := by go_simp
theorem ldR9 {w : World} {o : Nat} {x : Int} (h : w.cell? ⟨0, o, none⟩ = some (.int .u8 x)) : (Instr.loadAt 82 (.pointer (some ⟨0, o, none⟩))).run Tryz.prog w = .ok (.int .u8 x) w := by go_simp
def btB (k : Int) : Bool := decide (3 ≤ k) && decide (k ≤ 12)
theorem bt_row : ∀ k, k < 15 → 1 ≤ k → (true && !decide ((tabA k 9 : Int) = 0)) = (decide (3 ≤ (k : Int)) && decide ((k : Int) ≤ 12)) := by decide
set_option maxRecDepth 100000 in
set_option maxHeartbeats 1000000 in
theorem between7 (x : Int) (w : World) (hT : Tab w) : Calls Tryz.prog 12 #[.int .i64 x] w fun e w' => e = .returned (.bool (btB x)) ∧ w' = w := by
  cases hkd : kdB x with
  | false =>
    have hv : btB x = false := by
      unfold kdB inR at hkd
      unfold btB
      simp only [Bool.and_eq_false_iff, decide_eq_false_iff_not] at hkd ⊢
      omega
    rw [hv]
    have HC := hide (isKind_any x w)
    rw [hkd] at HC
    clear hT hkd hv
    go_enter Tryz.func12, Tryz.ntmps12
    go_wp2_with fail
    refine HC.out.mono ?_
    rintro e w1 ⟨rfl, rfl⟩
    go_wp2
    go_ret
    exact ⟨rfl, rfl⟩
  | true =>
    have hk : 1 ≤ x ∧ x ≤ 14 := by
      unfold kdB inR at hkd
      simpa only [Bool.and_eq_true, decide_eq_true_eq] using hkd
    obtain ⟨k, rfl⟩ := Int.eq_ofNat_of_zero_le (show 0 ≤ x by omega)
    have hk2 : k < 15 := by omega
    have hv : btB (k : Int) = (true && !decide ((tabA k 9 : Int) = 0)) := (bt_row k hk2 (by omega)).symm
    rw [hv]
    go_enter Tryz.func12, Tryz.ntmps12
    go_upto_region 1 with fail
    refine wp_region_lit ?_
    refine vl_gen (fun T => T.size = 12 ∧ T[0]? = some (gw true (.int .i64 (k : Int)))) ⟨rfl, rfl⟩ (fun T0 ⟨hz, s0⟩ => ?_)
    refine vl true (.int .i64 (k : Int)) (want_none rfl) (fun hc => ex_move rfl (ev s0 rfl)) rfl hz (by decide) (fun T1 zz kk s3x => ?_)
    replace s0 := (kk 0 (by decide)).trans s0
    clear kk hz
    have hz := zz
    have s3 := s3x
    clear zz s3x
    refine vcallP (want_none rfl) (ex_call rfl (by simp only [List.map_toArray, List.map_cons, List.map_nil, (ev s3 rfl), evc] <;> rfl) rfl) (isKind_any (k : Int) w) rfl hz (by decide) ?_
    rintro e w1 ⟨rfl, rfl⟩
    refine ⟨_, rfl, fun T2 zz kk s4x => ?_⟩
    replace s0 := (kk 0 (by decide)).trans s0
    clear kk hz s3
    have hz := zz
    have s4 := s4x
    clear zz s4x
    rw [hkd] at s4
    refine vl true (.bool true) (want_none rfl) (fun hc => ex_move rfl (ev s4 rfl)) rfl hz (by decide) (fun T3 zz kk s5x => ?_)
    replace s0 := (kk 0 (by decide)).trans s0
    clear kk hz s4
    have hz := zz
    have s5 := s5x
    clear zz s5x
    refine vl true (.int .i64 (k : Int)) (want_t rfl rfl s5) (fun hc => ex_move rfl (ev s0 rfl)) rfl hz (by decide) (fun T4 zz kk s6x => ?_)
    replace s5 := (kk 5 (by decide)).trans s5
    clear kk hz s0
    have hz := zz
    have s6 := s6x
    clear zz s6x
    refine vl true (.pointer (some ⟨0, k * 10, none⟩)) (want_t rfl rfl s5) (fun hc => ex_ix rfl rfl (ev s6 rfl) (ixTab k hk2 _)) rfl hz (by decide) (fun T5 zz kk s7x => ?_)
    replace s5 := (kk 5 (by decide)).trans s5
    clear kk hz s6
    have hz := zz
    have s7 := s7x
    clear zz s7x
    refine vl true (.pointer (some ⟨0, k * 10 + 9, none⟩)) (want_t rfl rfl s5) (fun hc => ex_ix rfl (ev s7 rfl) rfl (ixR9 _ _)) rfl hz (by decide) (fun T6 zz kk s8x => ?_)
    replace s5 := (kk 5 (by decide)).trans s5
    clear kk hz s7
    have hz := zz
    have s8 := s8x
    clear zz s8x
    refine vl true (.int .u8 (tabA k 9 : Int)) (want_t rfl rfl s5) (fun hc => ex_ld rfl (ev s8 rfl) (ldR9 (hT.cell k 9 hk2 (by decide)))) rfl hz (by decide) (fun T7 zz kk s9x => ?_)
    replace s5 := (kk 5 (by decide)).trans s5
    clear kk hz s8
    have hz := zz
    have s9 := s9x
    clear zz s9x
    refine vl true (.bool (!decide ((tabA k 9 : Int) = 0))) (want_t rfl rfl s5) (fun hc => ex_bin rfl (ev s9 rfl) rfl (neqU8 _ _ _ _ _)) rfl hz (by decide) (fun T8 zz kk s10x => ?_)
    replace s5 := (kk 5 (by decide)).trans s5
    clear kk hz s9
    have hz := zz
    have s10 := s10x
    clear zz s10x
    refine vl true (.bool (true && !decide ((tabA k 9 : Int) = 0))) (want_none rfl) (fun hc => ex_and (c := true) (b := true) rfl s5 s10 rfl) rfl hz (by decide) (fun T9 zz kk s11x => ?_)
    clear kk hz s5 s10
    have hz := zz
    have s11 := s11x
    clear zz s11x
    refine vl true (.bool (true && !decide ((tabA k 9 : Int) = 0))) (want_none rfl) (fun hc => ex_assign rfl (ev s11 rfl)) rfl hz (by decide) (fun Ta zz kk s2x => ?_)
    clear kk hz s11
    have hz := zz
    have s2 := s2x
    clear zz s2x
    refine wpList_nil ?_
    go_wp2
    refine bodyPost_ret (results_tmp rfl _ _ _) rfl ⟨?_, rfl⟩
    rw [getD_of s2]
    rfl
theorem refbetween7 (x : Int) (w : World) : Calls Tryz.prog 13 #[.int .i64 x] w fun e w' => e = .returned (.bool (btB x)) ∧ w' = w := by
  unfold btB
  by_cases h : 3 ≤ x
  · have h1 : decide (3 ≤ x) = true := decide_eq_true h
    by_cases h' : x ≤ 12
    · have h2 : decide (x ≤ 12) = true := decide_eq_true h'
      go_enter Tryz.func13, Tryz.ntmps13
      go_wp2
      go_ret
      refine ⟨?_, rfl⟩
      simp [h, h']
    · have h2 : decide (x ≤ 12) = false := decide_eq_false h'
      go_enter Tryz.func13, Tryz.ntmps13
      go_wp2
      go_ret
      refine ⟨?_, rfl⟩
      simp [h, h']
  · have h1 : decide (3 ≤ x) = false := decide_eq_false h
    go_enter Tryz.func13, Tryz.ntmps13
    go_wp2
    go_ret
    refine ⟨?_, rfl⟩
    simp [h]
set_option maxRecDepth 100000 in
set_option maxHeartbeats 4000000 in
theorem law_checks7 (c : Cf) (m : Mg) (a1 a2 : Option Addr) (c1 c2 : Nat) (L : List En) (D : List (Int × Int)) (kd : Int) (w : World) (hT : Tab w) (hL : SlY yE w a1 L.length c1 L) (hfit : ∀ e ∈ L, e.fits) (hD : SlY yD w a2 D.length c2 D) (hfe : m.e.fits) (k1 : L.length * 48 ≤ 140737488351232) (k2 : D.length * 16 ≤ 140737488351232) :
    Calls Tryz.prog 3 #[c.val, m.val (.slice a1 L.length c1) (.slice a2 D.length c2), .int .i64 kd] w fun e w' => e = .returned (.bool true) ∧ Below w.heap.size w w' := by
  have H1 := hide hL
  have H2 := hide hD
  clear hL hD
  have HT := hide hT
  have H0 := hT.lt
  clear hT
  go_enter Tryz.func3, Tryz.ntmps3
  go_upto_region 0 with fail
  refine wp_region_lit ?_
  refine vl_gen (fun T => T.size = 30 ∧ T[0]? = some (gw true (.agg #[.int .i64 c.f, .int .i64 c.r, .int .i64 c.p, .bool c.u])) ∧ T[1]? = some (gw true (m.val (.slice a1 L.length c1) (.slice a2 D.length c2))) ∧ T[2]? = some (gw true (.int .i64 kd))) ⟨rfl, rfl, rfl, rfl⟩ (fun Z0 ⟨hz, s0, s1, s2⟩ => ?_)
  obtain ⟨w1, hw1⟩ : ∃ y, y = w.alloc (.cells #[.int .i64 c.f, .int .i64 c.r, .int .i64 c.p, .bool c.u] 23) := ⟨_, rfl⟩
  have hB1 : Below w.heap.size w w1 := by rw [hw1]; exact (Below.refl _ _).alloc (Nat.le_refl _) _
  have hs1 : w1.heap.size = w.heap.size + 1 := by rw [hw1]; simp
  have C1 : CfB w1 w.heap.size c := ⟨by omega, fun i x hx => by rw [hw1]; exact cell_box _ _ _ _ _ (by simpa using hx)⟩
  refine vw (.pointer (some ⟨w.heap.size, 0, none⟩)) w1 (want_none rfl) (ex_box rfl (ev s0 rfl) (by rw [hw1]; exact bxCf _ _ _ _ _)) rfl hz (by decide) (fun Z1 zz kk s3 => ?_)
  replace s1 := (kk 1 (by decide)).trans s1
  replace s2 := (kk 2 (by decide)).trans s2
  clear kk hz s0 hw1
  have hz := zz
  clear zz
  obtain ⟨w2, hw2⟩ : ∃ y, y = w1.alloc (.cells (m.cs (.slice a1 L.length c1) (.slice a2 D.length c2)).toArray 38) := ⟨_, rfl⟩
  have hb12 : Below w1.heap.size w1 w2 := by rw [hw2]; exact (Below.refl _ _).alloc (Nat.le_refl _) _
  have hs2 : w2.heap.size = w1.heap.size + 1 := by rw [hw2]; simp
  have M2 : MBox w2 (w.heap.size + 1) m (.slice a1 L.length c1) (.slice a2 D.length c2) := by rw [hw2, ← hs1]; exact MBox.new w1 m _ _
  have C2 := C1.bel hb12
  have hB2 := hB1.trans (hb12.mono hB1.size)
  refine vw (.pointer (some ⟨w.heap.size + 1, 0, none⟩)) w2 (want_none rfl) (ex_box rfl (ev s1 rfl) (by rw [hw2, ← hs1]; exact bxM _ _ _ _)) rfl hz (by decide) (fun Z2 zz kk s4 => ?_)
  replace s2 := (kk 2 (by decide)).trans s2
  replace s3 := (kk 3 (by decide)).trans s3
  clear kk hz s1 hw2
  have hz := zz
  clear zz
  refine vl true (.bool false) (want_none rfl) (fun hc => ex_assign rfl rfl) rfl hz (by decide) (fun Z3 zz kk s6 => ?_)
  replace s2 := (kk 2 (by decide)).trans s2
  replace s3 := (kk 3 (by decide)).trans s3
  replace s4 := (kk 4 (by decide)).trans s4
  clear kk hz s6
  have hz := zz
  clear zz
  refine wpList_nil ?_
  go_upto_region 1 with fail
  refine wp_region_lit ?_
  obtain ⟨bG, hbG⟩ : ∃ bG, bG = w2.heap.size := ⟨_, rfl⟩
  obtain ⟨w3, hw3⟩ : ∃ y, y = w2.alloc gvO := ⟨_, rfl⟩
  have hb23 : Below w2.heap.size w2 w3 := by rw [hw3]; exact (Below.refl _ _).alloc (Nat.le_refl _) _
  have hs3 : w3.heap.size = w2.heap.size + 1 := by rw [hw3]; simp
  have G3 : GM w3 bG (bG + 1) nS nS nS nS [] [] [] [] := by rw [hw3, hbG]; exact GM.new w2 45
  have C3 := C2.bel hb23
  have M3 := M2.bel hb23
  have hB3 := hB2.trans (hb23.mono hB2.size)
  refine vw (.pointer (some ⟨bG, 0, none⟩)) w3 (want_none rfl) (ex_al rfl (by rw [hw3, hbG]; exact alGv _)) rfl hz (by decide) (fun Z4 zz kk s7 => ?_)
  replace s2 := (kk 2 (by decide)).trans s2
  replace s3 := (kk 3 (by decide)).trans s3
  replace s4 := (kk 4 (by decide)).trans s4
  clear kk hz hw3
  have hz := zz
  clear zz
  refine wpList_nil ?_
  have hL3 := H1.out.later hB3
  have hD3 := H2.out.later hB3
  have T3 := HT.out.later hB3 H0
  have hneL : ∀ x, a1 = some x → L ≠ [] → ¬ x.block = bG := fun x hx hne => by have := SlY.apart0 H1.out x hx hne; omega
  have hneD : ∀ x, a2 = some x → D ≠ [] → ¬ x.block = bG := fun x hx hne => by have := SlY.apart0 H2.out x hx hne; omega
  have hne : ∀ z, a2 = some z → D ≠ [] → z.block ≠ bG := hneD
  clear C2 M2 C1 hB1 hB2 hb12 hb23
  go_upto_region 2 with fail
  refine vh_start (fun v => UB bG w3 v) (by kernel_rfl) ?_
  have hS : UB bG w3 w3.drew := UB.of_below (Below.refl _ _).drew
  refine vh_take 0 true (.agg #[.int .i64 c.f, .int .i64 c.r, .int .i64 c.p, .bool c.u]) rfl (by kernel_rfl) (by kernel_rfl) (by kernel_rfl) (want_none rfl) (fun hc v hv => ex_ld rfl (ev s3 rfl) ((C3.upd hv (by omega)).ldAll)) rfl hz (by decide) hS (fun A2_1 zz kk s8x => ?_)
  replace s2 := (kk 2 (by decide)).trans s2
  replace s3 := (kk 3 (by decide)).trans s3
  replace s4 := (kk 4 (by decide)).trans s4
  replace s7 := (kk 7 (by decide)).trans s7
  clear kk hz
  have hz := zz
  have s8 := s8x
  clear zz s8x
  refine vh_take 1 true (m.val (.slice a1 L.length c1) (.slice a2 D.length c2)) rfl (by kernel_rfl) (by kernel_rfl) (by kernel_rfl) (want_none rfl) (fun hc v hv => ex_ld rfl (ev s4 rfl) ((M3.upd hv (by omega)).ldAll)) rfl hz (by decide) hS (fun A2_2 zz kk s9x => ?_)
  replace s2 := (kk 2 (by decide)).trans s2
  replace s3 := (kk 3 (by decide)).trans s3
  replace s4 := (kk 4 (by decide)).trans s4
  replace s7 := (kk 7 (by decide)).trans s7
  replace s8 := (kk 8 (by decide)).trans s8
  clear kk hz
  have hz := zz
  have s9 := s9x
  clear zz s9x A2_1
  refine vh_take 5 true (.agg #[.int .i64 c.f, .int .i64 c.r, .int .i64 c.p, .bool c.u]) rfl (by kernel_rfl) (by kernel_rfl) (by kernel_rfl) (want_none rfl) (fun hc v hv => ex_ld rfl (ev s3 rfl) ((C3.upd hv (by omega)).ldAll)) rfl hz (by decide) hS (fun A2_3 zz kk s13x => ?_)
  replace s2 := (kk 2 (by decide)).trans s2
  replace s4 := (kk 4 (by decide)).trans s4
  replace s7 := (kk 7 (by decide)).trans s7
  replace s8 := (kk 8 (by decide)).trans s8
  replace s9 := (kk 9 (by decide)).trans s9
  clear kk hz s3
  have hz := zz
  have s13 := s13x
  clear zz s13x A2_2
  refine vh_take 6 true (m.val (.slice a1 L.length c1) (.slice a2 D.length c2)) rfl (by kernel_rfl) (by kernel_rfl) (by kernel_rfl) (want_none rfl) (fun hc v hv => ex_ld rfl (ev s4 rfl) ((M3.upd hv (by omega)).ldAll)) rfl hz (by decide) hS (fun A2_4 zz kk s14x => ?_)
  replace s2 := (kk 2 (by decide)).trans s2
  replace s7 := (kk 7 (by decide)).trans s7
  replace s8 := (kk 8 (by decide)).trans s8
  replace s9 := (kk 9 (by decide)).trans s9
  replace s13 := (kk 13 (by decide)).trans s13
  clear kk hz s4
  have hz := zz
  have s14 := s14x
  clear zz s14x A2_3
  refine vh_call 2 rfl (by kernel_rfl) (want_none rfl) (ex_call rfl (by simp only [List.map_toArray, List.map_cons, List.map_nil, (ev s7 rfl), (ev s9 rfl), evc] <;> rfl) rfl) (given7 m a1 a2 L.length D.length c1 c2 L D bG _ (G3.bel (Below.refl _ _).drew) (hL3.later (Below.refl _ _).drew) (hD3.later (Below.refl _ _).drew) k1 k2 hne) rfl hz (by decide) ?_
  rintro e y1 ⟨g, cg, g', cg', rfl, sl1, sl2, HI, u1⟩
  refine ⟨_, rfl, (hS.trans u1), fun A2_5 zz kk s10x => ?_⟩
  replace hS := hS.trans u1
  have hI : Below y1.heap.size y1 y1 := Below.refl _ _
  clear u1
  replace s2 := (kk 2 (by decide)).trans s2
  replace s7 := (kk 7 (by decide)).trans s7
  replace s8 := (kk 8 (by decide)).trans s8
  replace s13 := (kk 13 (by decide)).trans s13
  replace s14 := (kk 14 (by decide)).trans s14
  clear kk hz s9
  have hz := zz
  have s10 := s10x
  clear zz s10x A2_4
  refine vh_call 3 rfl (by kernel_rfl) (want_none rfl) (ex_call rfl (by simp only [List.map_toArray, List.map_cons, List.map_nil, (ev s8 rfl), (ev s10 rfl), evc] <;> rfl) rfl) (checkM_any c m (some ⟨g, 0, none⟩) (some ⟨g', 0, none⟩) cg cg' L D _ (T3.upd hS (by omega)) sl1 hfit sl2 hfe) rfl hz (by decide) ?_
  rintro e y2 ⟨rfl, hb⟩
  refine ⟨_, rfl, (hS.trans (UB.of_below hb)), fun A2_6 zz kk s11x => ?_⟩
  replace hS := hS.trans (UB.of_below hb)
  replace hI := hI.trans (hb.mono hI.size)
  clear hb
  replace s2 := (kk 2 (by decide)).trans s2
  replace s7 := (kk 7 (by decide)).trans s7
  replace s13 := (kk 13 (by decide)).trans s13
  replace s14 := (kk 14 (by decide)).trans s14
  clear kk hz s8 s10
  have hz := zz
  have s11 := s11x
  clear zz s11x A2_5
  refine vh_call 4 rfl (by kernel_rfl) (want_none rfl) (ex_call rfl (by simp only [List.map_toArray, List.map_cons, List.map_nil, (ev s11 rfl), evc] <;> rfl) rfl) (num7_any (ckM c m L D) _) rfl hz (by decide) ?_
  rintro e y ⟨rfl, rfl⟩
  refine ⟨_, rfl, hS, fun A2_7 zz kk s12x => ?_⟩
  replace s2 := (kk 2 (by decide)).trans s2
  replace s7 := (kk 7 (by decide)).trans s7
  replace s13 := (kk 13 (by decide)).trans s13
  replace s14 := (kk 14 (by decide)).trans s14
  clear kk hz s11
  have hz := zz
  have s12 := s12x
  clear zz s12x A2_6
  refine vh_call 7 rfl (by kernel_rfl) (want_none rfl) (ex_call rfl (by simp only [List.map_toArray, List.map_cons, List.map_nil, (ev s13 rfl), (ev s14 rfl), evc] <;> rfl) rfl) (refcheck7 c m a1 a2 c1 c2 L D _ (hL3.upd hS hneL) hfit (hD3.upd hS hneD) hfe) rfl hz (by decide) ?_
  rintro e y3 ⟨rfl, hb⟩
  refine ⟨_, rfl, (hS.trans (UB.of_below hb)), fun A2_8 zz kk s15x => ?_⟩
  replace hS := hS.trans (UB.of_below hb)
  replace hI := hI.trans (hb.mono hI.size)
  clear hb
  replace s2 := (kk 2 (by decide)).trans s2
  replace s7 := (kk 7 (by decide)).trans s7
  replace s12 := (kk 12 (by decide)).trans s12
  clear kk hz s13 s14
  have hz := zz
  have s15 := s15x
  clear zz s15x A2_7
  refine vh_take 8 true (.bool true) rfl (by kernel_rfl) (by kernel_rfl) (by kernel_rfl) (want_none rfl) (fun hc v hv => ex_bin rfl (ev s12 rfl) (ev s15 rfl) (eqSelf _ _ _ _)) rfl hz (by decide) hS (fun A2_9 zz kk s16x => ?_)
  replace s2 := (kk 2 (by decide)).trans s2
  replace s7 := (kk 7 (by decide)).trans s7
  clear kk hz s12 s15
  have hz := zz
  have s16 := s16x
  clear zz s16x A2_8
  refine vh_take 9 true (.bool true) rfl (by kernel_rfl) (by kernel_rfl) (by kernel_rfl) (want_none rfl) (fun hc v hv => ex_move rfl (ev s16 rfl)) rfl hz (by decide) hS (fun A2_10 zz kk s17x => ?_)
  replace s2 := (kk 2 (by decide)).trans s2
  replace s7 := (kk 7 (by decide)).trans s7
  clear kk hz s16
  have hz := zz
  have s17 := s17x
  clear zz s17x A2_9
  refine vh_take 10 true (.int .i64 kd) rfl (by kernel_rfl) (by kernel_rfl) (by kernel_rfl) (want_t rfl rfl s17) (fun hc v hv => ex_move rfl (ev s2 rfl)) rfl hz (by decide) hS (fun A2_11 zz kk s18x => ?_)
  replace s2 := (kk 2 (by decide)).trans s2
  replace s7 := (kk 7 (by decide)).trans s7
  replace s17 := (kk 17 (by decide)).trans s17
  clear kk hz
  have hz := zz
  have s18 := s18x
  clear zz s18x A2_10
  refine vh_take 12 true (.int .i64 kd) rfl (by kernel_rfl) (by kernel_rfl) (by kernel_rfl) (want_t rfl rfl s17) (fun hc v hv => ex_move rfl (ev s2 rfl)) rfl hz (by decide) hS (fun A2_12 zz kk s20x => ?_)
  replace s7 := (kk 7 (by decide)).trans s7
  replace s17 := (kk 17 (by decide)).trans s17
  replace s18 := (kk 18 (by decide)).trans s18
  clear kk hz s2
  have hz := zz
  have s20 := s20x
  clear zz s20x A2_11
  refine vh_call 11 rfl (by kernel_rfl) (want_t rfl rfl s17) (ex_call rfl (by simp only [List.map_toArray, List.map_cons, List.map_nil, (ev s18 rfl), evc] <;> rfl) rfl) (between7 kd _ (T3.upd hS (by omega))) rfl hz (by decide) ?_
  rintro e y ⟨rfl, rfl⟩
  refine ⟨_, rfl, hS, fun A2_13 zz kk s19x => ?_⟩
  replace s7 := (kk 7 (by decide)).trans s7
  replace s17 := (kk 17 (by decide)).trans s17
  replace s20 := (kk 20 (by decide)).trans s20
  clear kk hz s18
  have hz := zz
  have s19 := s19x
  clear zz s19x A2_12
  refine vh_call 13 rfl (by kernel_rfl) (want_t rfl rfl s17) (ex_call rfl (by simp only [List.map_toArray, List.map_cons, List.map_nil, (ev s20 rfl), evc] <;> rfl) rfl) (refbetween7 kd _) rfl hz (by decide) ?_
  rintro e y ⟨rfl, rfl⟩
  refine ⟨_, rfl, hS, fun A2_14 zz kk s21x => ?_⟩
  replace s7 := (kk 7 (by decide)).trans s7
  replace s17 := (kk 17 (by decide)).trans s17
  replace s19 := (kk 19 (by decide)).trans s19
  clear kk hz s20
  have hz := zz
  have s21 := s21x
  clear zz s21x A2_13
  refine vh_take 14 true (.bool true) rfl (by kernel_rfl) (by kernel_rfl) (by kernel_rfl) (want_t rfl rfl s17) (fun hc v hv => ex_bin rfl (ev s19 rfl) (ev s21 rfl) (eqlBB _ _ _ _)) rfl hz (by decide) hS (fun A2_15 zz kk s22x => ?_)
  replace s7 := (kk 7 (by decide)).trans s7
  replace s17 := (kk 17 (by decide)).trans s17
  clear kk hz s19 s21
  have hz := zz
  have s22 := s22x
  clear zz s22x A2_14
  refine vh_take 15 true (.bool true) rfl (by kernel_rfl) (by kernel_rfl) (by kernel_rfl) (want_none rfl) (fun hc v hv => ex_andT rfl s17 s22) rfl hz (by decide) hS (fun A2_16 zz kk s23x => ?_)
  replace s7 := (kk 7 (by decide)).trans s7
  clear kk hz s17 s22
  have hz := zz
  have s23 := s23x
  clear zz s23x A2_15
  refine vh_take 16 true (.bool true) rfl (by kernel_rfl) (by kernel_rfl) (by kernel_rfl) (want_none rfl) (fun hc v hv => ex_move rfl (ev s23 rfl)) rfl hz (by decide) hS (fun A2_17 zz kk s24x => ?_)
  replace s7 := (kk 7 (by decide)).trans s7
  clear kk hz s23
  have hz := zz
  have s24 := s24x
  clear zz s24x A2_16
  refine vh_call 17 rfl (by kernel_rfl) (want_t rfl rfl s24) (ex_call rfl (by simp only [List.map_toArray, List.map_cons, List.map_nil, (ev s7 rfl), evc] <;> rfl) rfl) (HI _ hI) rfl hz (by decide) ?_
  rintro e y4 ⟨rfl, hb⟩
  refine ⟨_, rfl, (hS.trans (UB.of_below hb)), fun A2_18 zz kk s25x => ?_⟩
  replace hS := hS.trans (UB.of_below hb)
  replace hI := hI.trans (hb.mono hI.size)
  clear hb
  replace s24 := (kk 24 (by decide)).trans s24
  clear kk hz s7
  have hz := zz
  have s25 := s25x
  clear zz s25x A2_17
  refine vh_take 18 true (.bool true) rfl (by kernel_rfl) (by kernel_rfl) (by kernel_rfl) (want_none rfl) (fun hc v hv => ex_andT rfl s24 s25) rfl hz (by decide) hS (fun A2_19 zz kk s26x => ?_)
  clear kk hz s24 s25
  have hz := zz
  have s26 := s26x
  clear zz s26x A2_18
  refine vh_take 19 true (.bool true) rfl (by kernel_rfl) (by kernel_rfl) (by kernel_rfl) (want_none rfl) (fun hc v hv => ex_move rfl (ev s26 rfl)) rfl hz (by decide) hS (fun A2_20 zz kk s27x => ?_)
  clear kk hz s26
  have hz := zz
  have s27 := s27x
  clear zz s27x A2_19
  refine vh_call 20 rfl (by kernel_rfl) (want_t rfl rfl s27) (ex_call (args := #[]) rfl (by simp) rfl) (alive7 _ (T3.upd hS (by omega))) rfl hz (by decide) ?_
  rintro e y5 ⟨rfl, hb⟩
  refine ⟨_, rfl, (hS.trans (UB.of_below hb)), fun A2_21 zz kk s28x => ?_⟩
  replace hS := hS.trans (UB.of_below hb)
  replace hI := hI.trans (hb.mono hI.size)
  clear hb
  replace s27 := (kk 27 (by decide)).trans s27
  clear kk hz
  have hz := zz
  have s28 := s28x
  clear zz s28x A2_20
  refine vh_take 21 true (.bool true) rfl (by kernel_rfl) (by kernel_rfl) (by kernel_rfl) (want_none rfl) (fun hc v hv => ex_andT rfl s27 s28) rfl hz (by decide) hS (fun A2_22 zz kk s29x => ?_)
  clear kk hz s27 s28
  have hz := zz
  have s29 := s29x
  clear zz s29x A2_21
  refine vh_take 22 true (.bool true) rfl (by kernel_rfl) (by kernel_rfl) (by kernel_rfl) (want_none rfl) (fun hc v hv => ex_assign rfl (ev s29 rfl)) rfl hz (by decide) hS (fun A2_23 zz kk s6x => ?_)
  clear kk hz s29
  have hz := zz
  have s6 := s6x
  clear zz s6x A2_22
  refine vh_done (by kernel_rfl) ?_
  have hfin := hB3.trans (hS.below hB3.size (by omega))
  go_wp2
  refine bodyPost_ret (results_tmp rfl _ _ _) rfl ⟨?_, hfin⟩
  rw [getD_of s6]
  rfl
end Go.Proofs.YtjfbkeommlopmaaGreatDoor
namespace Go.Proofs.YtjfbkeommlopmaaGreatDoor
open Go.ChangeShapes Go.WideShapes Go.ChangeAt Go.RowKit
open Classical
set_option linter.unusedVariables false
theorem drCells : Tryz.prog.cellsOf 33 = 2 := by kernel_rfl
theorem drBytes : Tryz.prog.bytesOf 33 = 16 := by kernel_rfl
theorem rsCells : Tryz.prog.cellsOf 30 = 3 := by kernel_rfl
theorem kdCells : Tryz.prog.cellsOf 24 = 1 := by kernel_rfl
theorem u64Cells : Tryz.prog.cellsOf 31 = 1 := by kernel_rfl
theorem slCells : Tryz.prog.cellsOf 34 = 1 := by kernel_rfl
theorem vcCells : Tryz.prog.cellsOf 36 = 1 := by kernel_rfl
theorem msCells : Tryz.prog.cellsOf 38 = 18 := by kernel_rfl
def Mg.fits (m : Mg) : Prop := (Lit.int .i64 m.k).wf = true ∧ (Lit.int .i64 m.nd).wf = true ∧ (Lit.int .i64 m.vw).wf = true ∧ m.e.fits ∧ ((Lit.int .i64 m.r.1).wf = true ∧ (Lit.int .i64 m.r.2.1).wf = true ∧ m.r.2.2.size ≤ maxLen) ∧ (Lit.int .i64 m.p).wf = true ∧ (Lit.int .i64 m.cm).wf = true ∧ (Lit.int .i64 m.ls).wf = true ∧ (Lit.int .u64 m.d.1).wf = true ∧ (Lit.int .u64 m.d.2).wf = true
set_option maxRecDepth 100000 in
theorem open_drc {H : Type} {enc : TypeId × Value → H} {W : World} {base : Nat} {sp : Nat → Bool} {held : Bool} {n : Nat} {cs : List Value} {x : DataW H × List MemPlace} (h : DataW.trod enc Tryz.prog W base sp held n 33 cs = some x) :
    ∃ p : Int × Int, ((Lit.int .u64 p.1).wf = true ∧ (Lit.int .u64 p.2).wf = true) ∧ cs = [.int .u64 p.1, .int .u64 p.2] := by
  obtain ⟨xs, k, hk, hxy, hlen, hxl, hf⟩ := DataW.trod_struct Tryz.underlying33 h
  rw [drCells] at hlen
  have hxl : xs.length = 2 := hxl
  match xs, hxl, cs, hlen with
  | [y0, y1], _, [v0, v1], _ =>
    have g0 := hf 0 _ rfl
    have g1 := hf 1 _ rfl
    simp [u64Cells] at g0 g1
    obtain ⟨K, hK, hx0, hw0⟩ := DataW.trod_int Tryz.underlying31 g0
    obtain ⟨N, hN, hx2, hw2⟩ := DataW.trod_int Tryz.underlying31 g1
    refine ⟨(K, N), ⟨hw0, hw2⟩, ?_⟩
    rw [(List.cons_eq_cons.1 hK).1, (List.cons_eq_cons.1 hN).1]
set_option maxRecDepth 100000 in
theorem open_rsc {H : Type} {enc : TypeId × Value → H} {W : World} {base : Nat} {sp : Nat → Bool} {held : Bool} {n : Nat} {cs : List Value} {x : DataW H × List MemPlace} (h : DataW.trod enc Tryz.prog W base sp held n 30 cs = some x) :
    ∃ r : Int × Int × ByteArray, ((Lit.int .i64 r.1).wf = true ∧ (Lit.int .i64 r.2.1).wf = true ∧ r.2.2.size ≤ maxLen) ∧ cs = [.int .i64 r.1, .int .i64 r.2.1, .string r.2.2] := by
  obtain ⟨xs, k, hk, hxy, hlen, hxl, hf⟩ := DataW.trod_struct Tryz.underlying30 h
  rw [rsCells] at hlen
  have hxl : xs.length = 3 := hxl
  match xs, hxl, cs, hlen with
  | [y0, y1, y2], _, [v0, v1, v2], _ =>
    have g0 := hf 0 _ rfl
    have g1 := hf 1 _ rfl
    have g2 := hf 2 _ rfl
    simp [intCells, strCells] at g0 g1 g2
    obtain ⟨K, hK, hx0, hw0⟩ := DataW.trod_int Tryz.underlying3 g0
    obtain ⟨N, hN, hx2, hw2⟩ := DataW.trod_int Tryz.underlying3 g1
    obtain ⟨t, hS, hx4, hw4⟩ := DataW.trod_string Tryz.underlying9 g2
    refine ⟨(K, N, t), ⟨hw0, hw2, hw4⟩, ?_⟩
    rw [(List.cons_eq_cons.1 hK).1, (List.cons_eq_cons.1 hN).1, (List.cons_eq_cons.1 hS).1]
set_option maxRecDepth 100000 in
theorem slice_of_trod {α : Type} [Inhabited α] {Y : Lay α} (F : α → Prop) {T ST : TypeId} {k by_ : Nat} (hT : Y.T = T) (hk : Y.k = k) (kp : 0 < k) (klen : ∀ x, (Y.cs x).length = k) (hu : Tryz.prog.underlying ST = some (.slice T)) (hcl : Tryz.prog.cellsOf T = k) (hby : Tryz.prog.bytesOf T = by_) (hmul : ∀ n, n * by_ ≤ 140737488351232 → n * by_ ≤ 140737488351232)
    {H : Type} {enc : TypeId × Value → H} {W : World} {n : Nat} {v : Value} {d : DataW H} {p : List MemPlace}
    (hop : ∀ {m cs x}, DataW.trod enc Tryz.prog W 0 (fun _ => true) true m T cs = some x → ∃ e : α, F e ∧ cs = Y.cs e)
    (hf : DataW.trod enc Tryz.prog W 0 (fun _ => true) true n ST [v] = some (d, p))
    (hw : ∀ m, m ∈ d.weights Tryz.prog ST → m ≤ reachBytes) : ∃ a len cap, v = .slice a len cap ∧ ∃ P : List α, SlY Y W a len cap P ∧ (∀ e ∈ P, F e) ∧ len * by_ ≤ 140737488351232 := by
  rcases Go.Deep.open_slice hu hf with ⟨hcs, hx⟩ | ⟨y, ln, cp, m, k', D, Pl, hcs, hb, hl, hm, hmm, hx, hall⟩
  · have e := (List.cons_eq_cons.1 hcs).1
    cases e
    exact ⟨none, 0, 0, rfl, [], ⟨rfl, Nat.le_refl _, by unfold maxLen; omega, fun _ => ⟨rfl, rfl⟩, fun x hx => .inl rfl⟩, by simp, by omega⟩
  · have e := (List.cons_eq_cons.1 hcs).1
    subst e
    have hlm : ln ≤ m := by rw [hmm]; split <;> omega
    have each : ∀ i, i < ln → ∃ e : α, F e ∧ (∀ j, j < k → W.cell? ((y.add (i * k)).add j) = (Y.cs e)[j]?) := by
      intro i hi
      obtain ⟨cs', h1, h2⟩ := hall i (by omega)
      rw [hcl] at h1
      obtain ⟨e, hF, rfl⟩ := hop h2
      obtain ⟨_, _, hcell⟩ := World.cells?_some h1
      exact ⟨e, hF, hcell⟩
    obtain ⟨f, hp⟩ := Go.Deep.choose_lt each
    have hd := congrArg Prod.fst hx
    have hsz : ln * by_ ≤ 140737488351232 := by
      have hdd : d = _ := hd
      have := hw _ (by
        rw [hdd]
        simp only [DataW.weights, hu, hby]
        exact List.mem_cons_self)
      simp only [List.length_map, List.length_range, reachBytes] at this
      rw [Nat.add_mul] at this
      omega
    refine ⟨some y, ln, cp, rfl, (List.range ln).map f, ⟨by simp, hl, hm, (fun e => by cases e), fun x hx => ?_⟩, ?_, hsz⟩
    · cases hx
      by_cases hn0 : ln = 0
      · subst hn0
        exact .inl rfl
      · obtain ⟨b, o, s⟩ := y
        have z0 := (hp 0 (by omega)).2 0 kp
        have hs := World.cell?_spot (z0.trans (List.getElem?_eq_getElem (by rw [klen]; exact kp)))
        obtain rfl : s = none := by
          rw [Nat.zero_mul] at hs
          simpa [Addr.add] using hs
        refine .inr ⟨b, o, rfl, ?_, fun i x hx j u hu => ?_⟩
        · have c0 := z0.trans (List.getElem?_eq_getElem (by rw [klen]; exact kp))
          rw [Addr.add_lit, Addr.add_lit] at c0
          exact World.block_lt_of_cell? _ _ c0
        · have hi : i < ln := by
            have := (List.getElem?_eq_some_iff.1 hx).1
            simpa using this
          have e : f i = x := by
            simp [hi] at hx
            exact hx
          subst e
          have hj : j < k := by have := (List.getElem?_eq_some_iff.1 hu).1; rw [klen] at this; exact this
          have := (hp i hi).2 j hj
          rw [Addr.add_lit, Addr.add_lit] at this
          rw [hk]
          exact this.trans hu
    · intro q hq
      obtain ⟨i, hi, rfl⟩ := List.mem_map.1 hq
      exact (hp i (List.mem_range.1 hi)).1
def CameM (W : World) (m : Mg) (a1 : Option Addr) (n1 c1 : Nat) (a2 : Option Addr) (n2 c2 : Nat) : Prop := m.fits ∧ (∃ L : List En, SlY yE W a1 n1 c1 L ∧ (∀ e ∈ L, e.fits) ∧ n1 * 48 ≤ 140737488351232) ∧ ∃ D : List (Int × Int), SlY yD W a2 n2 c2 D ∧ (∀ d ∈ D, (Lit.int .u64 d.1).wf = true ∧ (Lit.int .u64 d.2).wf = true) ∧ n2 * 16 ≤ 140737488351232
set_option maxRecDepth 100000 in
set_option maxHeartbeats 2000000 in
theorem open_msg {H : Type} {enc : TypeId × Value → H} {W : World} {base : Nat} {v : Value} {d : DataW H} {p : List MemPlace} (hv : Value.okWide Tryz.prog W .any base 38 v) (h : DataW.Trod enc Tryz.prog W 0 (fun _ => true) true 38 v d p)
    (hw : ∀ m, m ∈ d.weights Tryz.prog 38 → m ≤ reachBytes) :
    ∃ (m : Mg) (a1 : Option Addr) (n1 c1 : Nat) (a2 : Option Addr) (n2 c2 : Nat), v = m.val (.slice a1 n1 c1) (.slice a2 n2 c2) ∧ CameM W m a1 n1 c1 a2 n2 c2 := by
  obtain ⟨cs, rfl, hsz⟩ := okWide_struct Tryz.underlying38 hv
  rw [msCells] at hsz
  obtain ⟨l⟩ := cs
  obtain ⟨fuel, hf⟩ := h
  obtain ⟨xs, k, hk, hxy, hlen, hxl, hf⟩ := DataW.trod_struct Tryz.underlying38 hf
  have hxl : xs.length = 11 := hxl
  match xs, hxl, l, hsz with
  | [y0, y1, y2, y3, y4, y5, y6, y7, y8, y9, y10], _, [v0, v1, v2, v3, v4, v5, v6, v7, v8, v9, v10, v11, v12, v13, v14, v15, v16, v17], _ =>
    have g0 := hf 0 _ rfl
    have g1 := hf 1 _ rfl
    have g2 := hf 2 _ rfl
    have g3 := hf 3 _ rfl
    have g4 := hf 4 _ rfl
    have g5 := hf 5 _ rfl
    have g6 := hf 6 _ rfl
    have g7 := hf 7 _ rfl
    have g8 := hf 8 _ rfl
    have g9 := hf 9 _ rfl
    have g10 := hf 10 _ rfl
    simp [Value.cells, intCells, kdCells, enCells, rsCells, drCells, slCells, vcCells] at g0 g1 g2 g3 g4 g5 g6 g7 g8 g9 g10
    obtain ⟨K, hK, _, wK⟩ := DataW.trod_int Tryz.underlying24 g0
    obtain ⟨N, hN, _, wN⟩ := DataW.trod_int Tryz.underlying3 g1
    obtain ⟨V, hV, _, wV⟩ := DataW.trod_int Tryz.underlying3 g2
    obtain ⟨e, we, he⟩ := open_enc g3
    obtain ⟨r, wr, hr⟩ := open_rsc g4
    obtain ⟨P, hP, _, wP⟩ := DataW.trod_int Tryz.underlying3 g5
    obtain ⟨C, hC, _, wC⟩ := DataW.trod_int Tryz.underlying3 g6
    obtain ⟨Ls, hLs, _, wLs⟩ := DataW.trod_int Tryz.underlying3 g7
    obtain ⟨dr, wdr, hdr⟩ := open_drc g8
    have hd : d = .agg ([y0, y1, y2, y3, y4, y5, y6, y7, y8, y9, y10].map Prod.fst) := congrArg Prod.fst hxy
    haveI : Inhabited En := ⟨⟨0, 0, ⟨0, 0, ⟨#[]⟩⟩⟩⟩
    obtain ⟨a1, n1, c1, e16, hL⟩ := slice_of_trod (Y := yE) En.fits rfl rfl (by decide) (fun _ => rfl) Tryz.underlying34 enCells enBytes (fun _ h => h) (fun h => open_enc h) g9 (fun k hk => hw k (by
      rw [hd]
      simp only [DataW.weights, Tryz.underlying38]
      exact DataW.weights_mem_each (j := 9) (t := 34) rfl rfl k hk))
    obtain ⟨a2, n2, c2, e17, hD⟩ := slice_of_trod (Y := yD) (fun d => (Lit.int .u64 d.1).wf = true ∧ (Lit.int .u64 d.2).wf = true) rfl rfl (by decide) (fun _ => rfl) Tryz.underlying36 drCells drBytes (fun _ h => h) (fun h => open_drc h) g10 (fun k hk => hw k (by
      rw [hd]
      simp only [DataW.weights, Tryz.underlying38]
      exact DataW.weights_mem_each (j := 10) (t := 36) rfl rfl k hk))
    refine ⟨⟨K, N, V, e, r, P, C, Ls, dr⟩, a1, n1, c1, a2, n2, c2, ?_, ⟨wK, wN, wV, we, wr, wP, wC, wLs, wdr.1, wdr.2⟩, hL, hD⟩
    simp [En.cs] at hK hN hV he hr hP hC hLs hdr
    obtain ⟨q3, q4, q5, q6, q7⟩ := he
    obtain ⟨q8, q9, q10⟩ := hr
    obtain ⟨q14, q15⟩ := hdr
    subst hK hN hV q3 q4 q5 q6 q7 q8 q9 q10 hP hC hLs q14 q15 e16 e17
    rfl
end Go.Proofs.YtjfbkeommlopmaaGreatDoor
namespace Go.Proofs.YtjfbkeommlopmaaGreatDoor
open Go.RowKit Go.Maps Go.WideShapes Go.ChangeShapes
open Classical
set_option linter.unusedVariables false
set_option linter.unusedSimpArgs false
theorem gTab : Tryz.prog.globalNamed "amnesia/message.table" = some 0 := by kernel_rfl
theorem gTabT : (Tryz.prog.globals[0]?).map (·.type) = some 84 := by kernel_rfl
theorem cellsRow : Tryz.prog.cellsOf 83 = 10 := by kernel_rfl
theorem cellsRule : Tryz.prog.cellsOf 82 = 1 := by kernel_rfl
theorem undTab : Tryz.prog.underlying 84 = some (.array 15 83) := by kernel_rfl
theorem undRow : Tryz.prog.underlying 83 = some (.array 10 82) := by kernel_rfl
theorem undRule : Tryz.prog.underlying 82 = some (.int .u8) := by kernel_rfl
theorem tab_of_laid7 {W : World} (h : laidMetH Tryz.prog [("amnesia/message.table", Rows.laid_amnesia_message_table)] W) : Tab W := by
  rw [MakeChecks.laidMetH_plain _ _ _ (by kernel_rfl)] at h
  obtain ⟨ps, ⟨g', t', cs, fuel, p, q, hg', ht', hvar, hd, _, _⟩, _⟩ := h
  obtain rfl := Option.some.inj (gTab.symm.trans hg')
  obtain rfl := Option.some.inj (gTabT.symm.trans ht')
  obtain ⟨xs, m, _, hx, hl, hxl, hall⟩ := DataW.trod_array undTab hd
  have e : (Rows.laid_amnesia_message_table : DataW Unit) = .agg ((List.range 15).map fun k => Lib.tabData .u8 ((List.range 10).map fun j => (tabA k j : Int))) := by kernel_rfl
  have hxs : xs.map (·.1) = (List.range 15).map fun k => (Lib.tabData .u8 ((List.range 10).map fun j => (tabA k j : Int)) : DataW Unit) := by
    have h1 := congrArg Prod.fst hx
    rw [e] at h1
    exact (DataW.agg.inj h1).symm
  have row : ∀ k, k < 15 → (cs.toList.drop (k * 10)).take 10 = ((List.range 10).map fun j => (tabA k j : Int)).map fun z => Value.int .u8 z := by
    intro k hk
    have h1 := hall k hk
    rw [cellsRow] at h1
    obtain ⟨x, hx⟩ : ∃ x, xs[k]? = some x := ⟨_, List.getElem?_eq_getElem (by omega)⟩
    rw [hx] at h1
    have h2 : x.1 = (Lib.tabData .u8 ((List.range 10).map fun j => (tabA k j : Int)) : DataW Unit) := by
      have h3 := congrArg (fun l => l[k]?) hxs
      simp only [List.getElem?_map, hx, Option.map_some, List.getElem?_range hk] at h3
      exact Option.some.inj h3
    obtain ⟨d, pp⟩ := x
    subst h2
    exact Lib.cells_of_tab undRow undRule cellsRule cellsRow h1
  have cell : ∀ k j, k < 15 → j < 10 → W.cell? ⟨0, k * 10 + j, none⟩ = some (.int .u8 (tabA k j : Int)) := by
    intro k j hk hj
    have h1 := World.var?_cell gTab hvar (k * 10 + j)
    rw [h1]
    have h2 := congrArg (fun l => l[j]?) (row k hk)
    simp only [List.getElem?_take_of_lt hj, List.getElem?_drop, List.getElem?_map, List.getElem?_range hj, Option.map_some, Array.getElem?_toList] at h2
    exact h2
  refine ⟨?_, cell⟩
  have h0 := cell 0 0 (by decide) (by decide)
  apply Nat.pos_of_ne_zero
  intro hz
  have : W.heap[0]? = none := Array.getElem?_eq_none (by omega)
  simp [World.cell?, this] at h0
theorem cfCells7 : Tryz.prog.cellsOf 23 = 4 := by kernel_rfl
theorem boolCells7 : Tryz.prog.cellsOf 4 = 1 := by kernel_rfl
set_option maxRecDepth 100000 in
theorem open_cfg {H : Type} {enc : TypeId × Value → H} {W : World} {base : Nat} {v : Value} {d : DataW H} {p : List MemPlace} (hv : Value.okWide Tryz.prog W .any base 23 v) (h : DataW.Trod enc Tryz.prog W 0 (fun _ => true) true 23 v d p) :
    ∃ x : Cf, v = x.val ∧ True := by
  obtain ⟨cs, rfl, hsz⟩ := okWide_struct Tryz.underlying23 hv
  obtain ⟨fuel, hf⟩ := h
  obtain ⟨xs, k, hk, hxy, hlen, hxl, hf⟩ := DataW.trod_struct Tryz.underlying23 hf
  rw [cfCells7] at hlen
  have hxl : xs.length = 4 := hxl
  simp only [Value.cells] at hlen hf
  obtain ⟨l⟩ := cs
  match xs, hxl, l, hlen with
  | [y0, y1, y2, y3], _, [v0, v1, v2, v3], _ =>
    have g0 := hf 0 _ rfl
    have g1 := hf 1 _ rfl
    have g2 := hf 2 _ rfl
    have g3 := hf 3 _ rfl
    simp [intCells, boolCells7] at g0 g1 g2 g3
    obtain ⟨A, hA, _, _⟩ := DataW.trod_int Tryz.underlying3 g0
    obtain ⟨B, hB, _, _⟩ := DataW.trod_int Tryz.underlying3 g1
    obtain ⟨C, hC, _, _⟩ := DataW.trod_int Tryz.underlying3 g2
    obtain ⟨b, hb, _⟩ := DataW.trod_bool Tryz.underlying4 g3
    refine ⟨⟨A, B, C, b⟩, ?_, trivial⟩
    simp at hA hB hC hb
    subst hA hB hC hb
    rfl
theorem checks_came7 (c : Cf) (m : Mg) (a1 : Option Addr) (n1 c1 : Nat) (a2 : Option Addr) (n2 c2 : Nat) (kd : Int) (w : World) (h : CameM w m a1 n1 c1 a2 n2 c2) (hT : Tab w) :
    Calls Tryz.prog 3 #[c.val, m.val (.slice a1 n1 c1) (.slice a2 n2 c2), .int .i64 kd] w fun e w' => e = .returned (.bool true) ∧ Below w.heap.size w w' := by
  obtain ⟨hm, ⟨L, h1, hf, k1⟩, D, h2, _, k2⟩ := h
  obtain rfl := h1.len
  obtain rfl := h2.len
  exact law_checks7 c m a1 a2 c1 c2 L D kd w hT h1 hf h2 hm.2.2.2.1 k1 k2
end Go.Proofs.YtjfbkeommlopmaaGreatDoor
