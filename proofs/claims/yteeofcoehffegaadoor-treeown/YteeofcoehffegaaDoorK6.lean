import Derived.OpenShut
import Derived.Test.YteeofcoehffegaaDoorRows
import Derived.Deep.SlicePairs
import Derived.ChangeOld
import Derived.ProofKit
import Derived.SizedLaws
import Derived.Deep.RegionLaw
import Derived.Lib.ConvBytes
import Derived.Test.YteeofcoehffegaaDoorK5
set_option maxRecDepth 100000
set_option linter.unusedVariables false
set_option linter.unusedSimpArgs false
namespace Go.Proofs.YteeofcoehffegaaDoor
open Go.RowKit Go.Maps
open Classical
theorem gupd20 {w w' : World} {row : Option Nat} (h : w.grownBy w' row) : Upd (fun k => row = some k) w w' :=
  ⟨h.os, h.tape, h.output, h.size, fun k hk hs => h.block k hk (fun e => hs e.symm)⟩
structure TV (w : World) (B q : Nat) (v : Value) (L E : List Hs) : Prop where
  box : TB w q v E
  own : OwnY yH B w v L
  lt : q < B
  le : B ≤ w.heap.size
theorem TV.later {w w' : World} {B q : Nat} {v : Value} {L E : List Hs} (h : TV w B q v L E) (hb : Below w.heap.size w w') : TV w' B q v L E := ⟨h.box.later hb, h.own.grow hb, h.lt, Nat.le_trans h.le hb.size⟩
theorem TV.rc {w : World} {B q : Nat} {v : Value} {L E : List Hs} (h : TV w B q v L E) : Rc (.pointer (some ⟨q, 0, none⟩)) w L := by
  obtain ⟨a, c, hv, _, _, _⟩ := h.own.form
  subst hv
  exact TR.rc ⟨a, c, h.box, h.own, h.lt, h.le⟩
theorem TB.st0 {w : World} {q : Nat} {a a2 : Option Addr} {n c n2 c2 : Nat} {E : List Hs} (h : TB w q (.slice a n c) E) :
    (Instr.storeAt 44 (.pointer (some ⟨q, 0, none⟩)) (.slice a2 n2 c2)).run Tryd.prog w = .ok () (w.setCell ⟨q, 0, none⟩ (.slice a2 n2 c2)) ∧ TB (w.setCell ⟨q, 0, none⟩ (.slice a2 n2 c2)) q (.slice a2 n2 c2) E := by
  have hc : w.cell? ⟨q, 0, none⟩ = some (.slice a n c) := by rw [h.box.cell]; rfl
  have hf := h.box.free 0
  exact ⟨by go_simp, h.box.set1 0 _, h.len⟩
set_option maxHeartbeats 2000000 in
theorem add20 (B q : Nat) (v : Value) (L E : List Hs) (x : En) (w : World) (h : TV w B q v L E) (hn : L.length ≤ 4398046511000) (hv0 : x.o.v.size ≤ 140737488352232) :
    Calls Tryd.prog 7 #[.pointer (some ⟨q, 0, none⟩), x.val20] w fun e w' => e = .returned (.int .i64 ((L.length + 1 : Nat) : Int)) ∧ ∃ v', TV w' B q v' (L ++ [lf x]) (cry L.length 63 0 (lf x) E) ∧ Upd (fun k => k = q ∨ v.ownBlock = some k) w w' ∧ (v'.ownBlock = v.ownBlock ∨ ∃ k, v'.ownBlock = some k ∧ w.heap.size ≤ k) := by
  go_enter Tryd.func7, Tryd.ntmps7
  go_upto_region 0 with fail
  refine wp_region_lit ?_
  refine vl_gen (fun T => Rp T 28 [(1, gw true (x.val20)), (0, gw true (.pointer (some ⟨q, 0, none⟩)))]) (((Rp.nil rfl).cons rfl).cons rfl) (fun Z0 q0 => ?_)
  obtain ⟨a, c, hv, hcap, hmx, _⟩ := h.own.form
  subst hv
  have hqB := h.lt
  have hBw := h.le
  obtain ⟨w1, hw1⟩ : ∃ y, y = w.alloc (.cells (x.cs).toArray 29) := ⟨_, rfl⟩
  refine vw (.pointer (some ⟨w.heap.size, 0, none⟩)) w1 (want_none rfl) (ex_box18 rfl (q0.e (j := 1) rfl) (by rw [hw1]; exact bxE20 _ _)) rfl q0.z (by decide) (q0.k fun _ q1 => ?_);clear q0
  have Bw1 : BB w1 w.heap.size 29 (x.cs) := by rw [hw1]; exact BB.new _ _ _
  have bw1 : Below w.heap.size w w1 := by rw [hw1]; exact (Below.refl _ _).alloc (Nat.le_refl _) _
  have zw1 : w1.heap.size = w.heap.size + 1 := by rw [hw1]; exact World.size_alloc _ _
  clear hw1
  refine q1.t (.int .i64 (0 : Int)) (ex_assign rfl rfl) fun _ q2 => ?_;clear q1
  refine wpList_nil ?_
  go_upto_region 1 with fail
  refine wp_region_lit ?_
  refine q2.t (.pointer (some ⟨q, 0, none⟩)) (ex_move rfl (q2.e (j := 0) rfl)) fun _ q3 => ?_;clear q2
  refine q3.t (.bool false) (ex_bin (Y := .pointer none) rfl (q3.e (j := 6) rfl) rfl (eqPT20 _ _ q _)) fun _ q4 => ?_;clear q3
  refine wpList_nil ?_
  go_upto_region 3 with fail
  refine wp_cond_false (q4.e (j := 7) rfl) ?_
  go_upto_region 3 with fail
  refine wp_region_lit ?_
  refine q4.t (x.val20) (ex_ld rfl (q4.e (j := 3) rfl) Bw1.ldE20) fun _ q5 => ?_;clear q4
  refine vcallP (want_none rfl) (ex_call rfl (by simp only [List.map_toArray, List.map_cons, List.map_nil, (q5.e (j := 8) rfl), evc] <;> rfl) rfl) (leaf20 x w1 hv0) rfl q5.z (by decide) ?_
  rintro e w2 ⟨rfl, b2⟩
  refine ⟨_, rfl, q5.k fun _ q6 => ?_⟩;clear q5
  have z2 := b2.size
  obtain ⟨w3, hw3⟩ : ∃ y, y = w2.alloc (.cells (zH.cs).toArray 38) := ⟨_, rfl⟩
  refine vw (.pointer (some ⟨w2.heap.size, 0, none⟩)) w3 (want_none rfl) (ex_al rfl (by rw [hw3]; exact alH _)) rfl q6.z (by decide) (q6.k fun _ q7 => ?_);clear q6
  have Bw3 : BB w3 w2.heap.size 38 (zH.cs) := by rw [hw3]; exact BB.new _ _ _
  have bw3 : Below w2.heap.size w2 w3 := by rw [hw3]; exact (Below.refl _ _).alloc (Nat.le_refl _) _
  have zw3 : w3.heap.size = w2.heap.size + 1 := by rw [hw3]; exact World.size_alloc _ _
  clear hw3
  obtain ⟨w4, hw4⟩ : ∃ y, y = w3.setCells w2.heap.size 0 (lf x).cs := ⟨_, rfl⟩
  refine vs w4 (want_none rfl) (ex_st rfl (q7.e (j := 5) rfl) (q7.e (j := 9) rfl) (by rw [hw4]; exact Bw3.stH rfl _)) rfl ?_
  have B4 : BB w4 w2.heap.size 38 (lf x).cs := by rw [hw4]; exact Bw3.putH rfl _
  have u4 : Upd (fun k => k = w2.heap.size) w3 w4 := by rw [hw4]; exact upd18 _ _ _ _
  clear hw4
  have z4 := u4.size
  have d4 : Below w.heap.size w w4 := ((bw1.trans (b2.mono (by omega))).trans (bw3.mono (by omega))).trans (bel_ge u4 (by omega) (by omega))
  have T4 := h.later d4
  refine wpList_nil ?_
  go_upto_region 4 with fail
  refine wp_region_lit ?_
  refine q7.t (.pointer (some ⟨q, 0, none⟩)) (ex_move rfl (q7.e (j := 0) rfl)) fun _ q8 => ?_;clear q7
  refine q8.t ((lf x).val) (ex_ld rfl (q8.e (j := 5) rfl) B4.ldH) fun _ q9 => ?_;clear q8
  refine vcallP (want_none rfl) (ex_call rfl (by simp only [List.map_toArray, List.map_cons, List.map_nil, (q9.e (j := 10) rfl), (q9.e (j := 11) rfl), evc] <;> rfl) rfl) (carry20 q a L.length c E (lf x) w4 T4.box (by omega)) rfl q9.z (by decide) ?_
  rintro e w5 ⟨rfl, T5, U5⟩
  refine ⟨_, rfl, q9.k fun _ q10 => ?_⟩;clear q9
  have z5 := U5.size
  have O5 : OwnY yH B w5 (.slice a L.length c) L := T4.own.upd1 U5 (fun g hg e => by have := (T4.own.blk g hg).1; omega)
  have B5 := B4.upd U5 (show ¬ w2.heap.size = q by omega)
  obtain ⟨E', hE'⟩ : ∃ E', E' = cry L.length 63 0 (lf x) E := ⟨_, rfl⟩
  rw [← hE'] at T5
  refine wpList_nil ?_
  go_upto_region 5 with fail
  refine vg_start (fun k => k == 10) (fun v => TB v q (.slice a L.length c) E' ∧ BB v w2.heap.size 38 (lf x).cs) (by kernel_rfl) ?_
  have hy0 : Below w5.heap.size w5 w5.drew := (Below.refl _ _).drew
  have hzy0 : w5.drew.heap.size = w5.heap.size := rfl
  generalize w5.drew = y0 at *
  have T6 := T5.later hy0
  have B6 := B5.later hy0
  have O6 := O5.grow hy0
  refine vg_takeW 0 true (.pointer (some ⟨q, 0, none⟩)) rfl (by kernel_rfl) (by kernel_rfl) (by kernel_rfl) (by kernel_rfl) (want_none rfl) (fun hc v => ex_move rfl (q10.e (j := 0) rfl)) rfl q10.z (by decide) (fun _ => ⟨T6, B6⟩) (q10.k fun _ q11 => ?_);clear q10
  refine vg_takeW 1 true (.pointer (some ⟨q, 0, none⟩)) rfl (by kernel_rfl) (by kernel_rfl) (by kernel_rfl) (by kernel_rfl) (want_none rfl) (fun hc v => ex_move rfl (q11.e (j := 0) rfl)) rfl q11.z (by decide) (fun _ => ⟨T6, B6⟩) (q11.k fun _ q12 => ?_);clear q11
  refine vg_takeW 2 true (.pointer (some ⟨q, 0, none⟩)) rfl (by kernel_rfl) (by kernel_rfl) (by kernel_rfl) (by kernel_rfl) (want_none rfl) (fun hc v => ex_nil rfl (q12.e (j := 14) rfl)) rfl q12.z (by decide) (fun _ => ⟨T6, B6⟩) (q12.k fun _ q13 => ?_);clear q12
  refine vg_takeW 3 true (.pointer (some ⟨q, 0, none⟩)) rfl (by kernel_rfl) (by kernel_rfl) (by kernel_rfl) (by kernel_rfl) (want_none rfl) (fun hc v => ex_fa rfl (q13.e (j := 15) rfl) (faT20 q 0 0 (.inl ⟨rfl, rfl⟩) _)) rfl q13.z (by decide) (fun _ => ⟨T6, B6⟩) (q13.k fun _ q14 => ?_);clear q13
  refine vg_take 4 true (.slice a L.length c) rfl (by kernel_rfl) (by kernel_rfl) (by kernel_rfl) (by kernel_rfl) (by kernel_rfl) (by kernel_rfl) (want_none rfl) (fun hc v hv => ex_ld rfl (q14.e (j := 16) rfl) hv.1.ld0) rfl q14.z (by decide) ⟨T6, B6⟩ (q14.k fun _ q15 => ?_);clear q14
  refine vg_take 5 true ((lf x).val) rfl (by kernel_rfl) (by kernel_rfl) (by kernel_rfl) (by kernel_rfl) (by kernel_rfl) (by kernel_rfl) (want_none rfl) (fun hc v hv => ex_ld rfl (q15.e (j := 5) rfl) hv.2.ldH) rfl q15.z (by decide) ⟨T6, B6⟩ (q15.k fun _ q16 => ?_);clear q15
  obtain ⟨d3, hd3⟩ : ∃ y, y = y0.alloc (.cells (lf x).cs.toArray 38) := ⟨_, rfl⟩
  have b3 : Below y0.heap.size y0 d3 := by rw [hd3]; exact (Below.refl _ _).alloc (Nat.le_refl _) _
  have T7 := T6.later b3
  have B7 := B6.later b3
  refine vg_val 6 (.slice (some ⟨y0.heap.size, 0, none⟩) 1 1) d3 rfl (by kernel_rfl) (want_none rfl) (ex_bs18 rfl (q16.e (j := 18) rfl) (by rw [hd3]; exact bsH20 _ _)) rfl q16.z (by decide) (fun _ => ⟨T7, B7⟩) (q16.k fun _ q17 => ?_);clear q16
  have s3 : SlY yH d3 (some ⟨y0.heap.size, 0, none⟩) 1 1 [lf x] := by rw [hd3]; exact sl1H _ _
  have z3 := b3.size
  clear hd3
  have O7 := O6.grow b3
  obtain ⟨v4, d4x, ha4, o4, g4, hb4⟩ := run_appY kH d3 44 B L (.slice a L.length c) _ 1 1 [lf x] s3 O7 (by omega) (by unfold maxLen; omega) (by show (L.length + 1) * 32 ≤ _; omega)
  have u8 := gupd20 g4
  have z8 := u8.size
  have T8 := T7.upd u8 (fun e => by have := (O7.blk q e).1; omega)
  have B8 := B7.upd u8 (fun e => by have := (h.own.blk _ e).2; omega)
  refine vg_val 7 (v4) d4x rfl (by kernel_rfl) (want_none rfl) (ex_app18 rfl (q17.e (j := 17) rfl) (q17.e (j := 19) rfl) ha4) rfl q17.z (by decide) (fun _ => ⟨T8, B8⟩) (q17.k fun _ q18 => ?_);clear q17
  refine vg_takeW 8 true (.pointer (some ⟨q, 0, none⟩)) rfl (by kernel_rfl) (by kernel_rfl) (by kernel_rfl) (by kernel_rfl) (want_none rfl) (fun hc v => ex_nil rfl (q18.e (j := 13) rfl)) rfl q18.z (by decide) (fun _ => ⟨T8, B8⟩) (q18.k fun _ q19 => ?_);clear q18
  refine vg_takeW 9 true (.pointer (some ⟨q, 0, none⟩)) rfl (by kernel_rfl) (by kernel_rfl) (by kernel_rfl) (by kernel_rfl) (want_none rfl) (fun hc v => ex_fa rfl (q19.e (j := 21) rfl) (faT20 q 0 0 (.inl ⟨rfl, rfl⟩) _)) rfl q19.z (by decide) (fun _ => ⟨T8, B8⟩) (q19.k fun _ q20 => ?_);clear q19
  obtain ⟨a4, c4, hv4, s4, _⟩ := o4.sl kH
  subst hv4
  obtain ⟨hst, T9⟩ := T8.st0 (a2 := a4) (n2 := (L ++ [lf x]).length) (c2 := c4)
  obtain ⟨w9, hw9⟩ : ∃ y, y = d4x.setCell ⟨q, 0, none⟩ (.slice a4 (L ++ [lf x]).length c4) := ⟨_, rfl⟩
  rw [← hw9] at hst T9
  have u9 : Upd (fun k => k = q) d4x w9 := by rw [hw9]; exact (Upd.refl (fun k => k = q) d4x).setCell (p := ⟨q, 0, none⟩) (.inl rfl) _
  have z9 := u9.size
  clear hw9
  refine vg_store 10 w9 rfl (by kernel_rfl) (by kernel_rfl) (want_none rfl) (ex_st rfl (q20.e (j := 22) rfl) (q20.e (j := 20) rfl) hst) rfl ?_
  have O9 := o4.upd1 u9 (fun g hg e => by have := (o4.blk g hg).1; omega)
  refine vg_done (by kernel_rfl) ?_
  go_upto_region 6 with fail
  refine wp_region_lit ?_
  refine q20.t (.pointer (some ⟨q, 0, none⟩)) (ex_move rfl (q20.e (j := 0) rfl)) fun _ q21 => ?_;clear q20
  refine q21.t (.pointer (some ⟨q, 0, none⟩)) (ex_nil rfl (q21.e (j := 23) rfl)) fun _ q22 => ?_;clear q21
  refine q22.t (.pointer (some ⟨q, 0, none⟩)) (ex_fa rfl (q22.e (j := 24) rfl) (faT20 q 0 0 (.inl ⟨rfl, rfl⟩) _)) fun _ q23 => ?_;clear q22
  refine q23.t (.slice a4 (L ++ [lf x]).length c4) (ex_ld rfl (q23.e (j := 25) rfl) T9.ld0) fun _ q24 => ?_;clear q23
  refine q24.t (.int .i64 (((L ++ [lf x]).length : Nat) : Int)) (ex_lenG rfl rfl Tryd.underlying44 (q24.e (j := 26) rfl)) fun _ q25 => ?_;clear q24
  refine q25.t (.int .i64 (((L ++ [lf x]).length : Nat) : Int)) (ex_assign rfl (q25.e (j := 27) rfl)) fun _ q26 => ?_;clear q25
  refine wpList_nil ?_
  have V1 : Upd (fun k => k = q ∨ (Value.slice a L.length c).ownBlock = some k) w w4 := Upd.of_below d4
  have V2 := V1.tr20 U5 (fun k _ hk => .inl hk)
  have V3 := (V2.tr20 (Upd.of_below (S := fun _ => False) hy0) (fun k _ hk => hk.elim)).tr20 (Upd.of_below (S := fun _ => False) b3) (fun k _ hk => hk.elim)
  have V4 := V3.tr20 u8 (fun k _ hk => .inr hk)
  have V5 := V4.tr20 u9 (fun k _ hk => .inl hk)
  go_wp2
  refine bodyPost_ret (results_tmp rfl _ _ _) rfl ?_
  rw [getD_of (q26.a 4 rfl)]
  refine ⟨by rw [List.length_append]; rfl, _, ⟨by rw [← hE']; exact T9, O9, hqB, by omega⟩, V5, ?_⟩
  rcases hb4 with e | ⟨k, e, hk⟩
  · exact .inl e
  · exact .inr ⟨k, e, by omega⟩
set_option maxHeartbeats 2000000 in
theorem head020 (V : Value) (w : World) (hr : Rc V w []) :
    Calls Tryd.prog 11 #[V] w fun e w' => e = .returned (hd []).val ∧ Below w.heap.size w w' := by
  go_enter Tryd.func11, Tryd.ntmps11
  go_upto_region 0 with fail
  refine wp_region_lit ?_
  refine vl_gen (fun T => Rp T 44 [(0, gw true (V))]) ((Rp.nil rfl).cons rfl) (fun Z0 q0 => ?_)
  obtain ⟨w1, hw1⟩ : ∃ y, y = w.alloc (.cells (zH.cs).toArray 38) := ⟨_, rfl⟩
  refine vw (.pointer (some ⟨w.heap.size, 0, none⟩)) w1 (want_none rfl) (ex_al rfl (by rw [hw1]; exact alH _)) rfl q0.z (by decide) (q0.k fun _ q1 => ?_);clear q0
  have Bw1 : BB w1 w.heap.size 38 (zH.cs) := by rw [hw1]; exact BB.new _ _ _
  have bw1 : Below w.heap.size w w1 := by rw [hw1]; exact (Below.refl _ _).alloc (Nat.le_refl _) _
  have zw1 : w1.heap.size = w.heap.size + 1 := by rw [hw1]; exact World.size_alloc _ _
  clear hw1
  refine wpList_nil ?_
  go_upto_region 1 with fail
  refine wp_region_lit ?_
  obtain ⟨a, c, hr⟩ := hr
  have hS := (hr w1 bw1).1
  refine q1.t (V) (ex_move rfl (q1.e (j := 0) rfl)) fun _ q2 => ?_;clear q1
  refine vcallP (want_none rfl) (ex_call rfl (by simp only [List.map_toArray, List.map_cons, List.map_nil, (q2.e (j := 7) rfl), evc] <;> rfl) rfl) (hS) rfl q2.z (by decide) ?_
  rintro e w2 ⟨rfl, hw2⟩
  refine ⟨_, rfl, q2.k fun _ q3 => ?_⟩;clear q2
  have hw2 := hw2.symm
  subst hw2
  refine q3.t (.int .i64 ((([] : List Hs).length : Nat) : Int)) (ex_assign rfl (q3.e (j := 8) rfl)) fun _ q4 => ?_;clear q3
  refine wpList_nil ?_
  go_upto_region 2 with fail
  refine wp_region_lit ?_
  refine q4.t (.int .i64 ((([] : List Hs).length : Nat) : Int)) (ex_move rfl (q4.e (j := 3) rfl)) fun _ q5 => ?_;clear q4
  refine q5.t (.bool true) (ex_bin (Y := .int .i64 ((0 : Nat) : Int)) rfl (q5.e (j := 9) rfl) rfl (eqT20 _ _ rfl _)) fun _ q6 => ?_;clear q5
  refine wpList_nil ?_
  go_upto_region 3 with fail
  refine wp_cond_true (q6.e (j := 10) rfl) ?_
  go_upto_region 3 with fail
  refine wp_region_lit ?_
  refine vcallP (want_none rfl) (ex_call (args := #[.slice none 0 0]) rfl (by simp [evc]) rfl) (headOf20 [] none 0 0 w1 ((OwnY.nil yH w1.heap.size w1).sl' kH) (by omega)) rfl q6.z (by decide) ?_
  rintro e w3 ⟨rfl, b3⟩
  have z3 := b3.size
  have B3 := Bw1.later b3
  refine ⟨_, rfl, q6.k fun _ q7 => ?_⟩;clear q6
  obtain ⟨w4, hw4⟩ : ∃ y, y = w3.setCells w.heap.size 0 (hd []).cs := ⟨_, rfl⟩
  refine vs w4 (want_none rfl) (ex_st rfl (q7.e (j := 2) rfl) (q7.e (j := 11) rfl) (by rw [hw4]; exact B3.stH rfl _)) rfl ?_
  have B4 : BB w4 w.heap.size 38 (hd []).cs := by rw [hw4]; exact B3.putH rfl _
  have d4 : Below w.heap.size w w4 := (bw1.trans (b3.mono (by omega))).trans (by rw [hw4]; exact bel_ge (upd18 _ _ _ _) (by omega) (Nat.le_refl _))
  refine wpList_nil ?_
  go_wp2
  exact B4.res rfl (q7.a 2 rfl) Tryd.underlying38 rfl (by rw [Hs.len]; exact i32h) ⟨rfl, d4⟩
theorem Tb.lt {w : World} (h : Tb w) : 1 < w.heap.size := by
  have := h 0 (by decide)
  rcases Nat.lt_or_ge 1 w.heap.size with h' | h'
  · exact h'
  · unfold World.cell? at this
    rw [Array.getElem?_eq_none h'] at this
    cases this
theorem ctz_le20 (n : Nat) (h0 : 0 < n) (hn : n ≤ 4398046511104) : Lib.ctz 64 n ≤ 42 := by
  unfold Lib.ctz
  rw [if_neg (by omega)]
  obtain ⟨m, hm, _⟩ := Lib.ctzFrom_spec 64 n h0 (by omega)
  generalize Lib.ctzFrom 64 n = c at *
  rcases Nat.lt_or_ge 42 c with h | h
  · have h1 : 2 ^ 43 ≤ 2 ^ c := Nat.pow_le_pow_right (by decide) h
    have h2 : 2 ^ c * 1 ≤ 2 ^ c * (2 * m + 1) := Nat.mul_le_mul_left _ (by omega)
    omega
  · exact h
def hfl (n last : Nat) (E : List Hs) : Nat → Hs → Hs
  | 0, x => x
  | j + 1, x => if last < j ∧ n / 2 ^ j % 2 = 1 then nd (E.getD j zH) (hfl n last E j x) else hfl n last E j x
def thd (n : Nat) (E : List Hs) : Hs := hfl n (Lib.ctz 64 n) E 63 (E.getD (Lib.ctz 64 n) zH)
set_option maxHeartbeats 2000000 in
theorem thead20 (B q : Nat) (v : Value) (L E : List Hs) (w : World) (h : TV w B q v L E) (ht : Tb w) (h0 : 1 ≤ L.length) (hn : L.length ≤ 4398046511000) :
    Calls Tryd.prog 11 #[.pointer (some ⟨q, 0, none⟩)] w fun e w' => e = .returned (thd L.length E).val ∧ Below w.heap.size w w' := by
  go_enter Tryd.func11, Tryd.ntmps11
  go_upto_region 0 with fail
  refine wp_region_lit ?_
  refine vl_gen (fun T => Rp T 44 [(0, gw true (.pointer (some ⟨q, 0, none⟩)))]) ((Rp.nil rfl).cons rfl) (fun Z0 q0 => ?_)
  have hrc := h.rc
  obtain ⟨a, c, hv, hcap, hmx, _⟩ := h.own.form
  subst hv
  have TB0 := h.box
  have h1w := ht.lt
  obtain ⟨la, hla⟩ : ∃ z, z = Lib.ctz 64 L.length := ⟨_, rfl⟩
  have hl42 : la ≤ 42 := by rw [hla]; exact ctz_le20 _ (by omega) (by omega)
  obtain ⟨x0, hx0⟩ : ∃ z, E[la]? = some z := ⟨_, List.getElem?_eq_getElem (by rw [TB0.len]; omega)⟩
  have hx0d : E.getD la zH = x0 := by rw [List.getD_eq_getElem?_getD, hx0]; rfl
  have hth : thd L.length E = hfl L.length la E 63 x0 := by unfold thd; rw [← hla, hx0d]
  obtain ⟨w1, hw1⟩ : ∃ y, y = w.alloc (.cells (zH.cs).toArray 38) := ⟨_, rfl⟩
  refine vw (.pointer (some ⟨w.heap.size, 0, none⟩)) w1 (want_none rfl) (ex_al rfl (by rw [hw1]; exact alH _)) rfl q0.z (by decide) (q0.k fun _ q1 => ?_);clear q0
  have Bw1 : BB w1 w.heap.size 38 (zH.cs) := by rw [hw1]; exact BB.new _ _ _
  have bw1 : Below w.heap.size w w1 := by rw [hw1]; exact (Below.refl _ _).alloc (Nat.le_refl _) _
  have zw1 : w1.heap.size = w.heap.size + 1 := by rw [hw1]; exact World.size_alloc _ _
  clear hw1
  refine wpList_nil ?_
  go_upto_region 1 with fail
  refine wp_region_lit ?_
  have T1 := TB0.later bw1
  have hS := size20 q a L.length c E w1 T1
  refine q1.t (.pointer (some ⟨q, 0, none⟩)) (ex_move rfl (q1.e (j := 0) rfl)) fun _ q2 => ?_;clear q1
  refine vcallP (want_none rfl) (ex_call rfl (by simp only [List.map_toArray, List.map_cons, List.map_nil, (q2.e (j := 7) rfl), evc] <;> rfl) rfl) (hS) rfl q2.z (by decide) ?_
  rintro e w2 ⟨rfl, hw2⟩
  refine ⟨_, rfl, q2.k fun _ q3 => ?_⟩;clear q2
  have hw2 := hw2.symm
  subst hw2
  refine q3.t (.int .i64 ((L.length : Nat) : Int)) (ex_assign rfl (q3.e (j := 8) rfl)) fun _ q4 => ?_;clear q3
  refine wpList_nil ?_
  go_upto_region 2 with fail
  refine wp_region_lit ?_
  refine q4.t (.int .i64 ((L.length : Nat) : Int)) (ex_move rfl (q4.e (j := 3) rfl)) fun _ q5 => ?_;clear q4
  refine q5.t (.bool false) (ex_bin (Y := .int .i64 ((0 : Nat) : Int)) rfl (q5.e (j := 9) rfl) rfl (eqF20 _ _ (by omega) _)) fun _ q6 => ?_;clear q5
  refine wpList_nil ?_
  go_upto_region 4 with fail
  refine wp_cond_false (q6.e (j := 10) rfl) ?_
  go_upto_region 4 with fail
  refine wp_region_lit ?_
  refine q6.t (.int .i64 ((L.length : Nat) : Int)) (ex_move rfl (q6.e (j := 3) rfl)) fun _ q7 => ?_;clear q6
  refine q7.t (.int .u64 ((L.length : Nat) : Int)) (ex_cv19 rfl (q7.e (j := 12) rfl) (cvIu20 _ (by omega) _)) fun _ q8 => ?_;clear q7
  refine vcallP (want_none rfl) (ex_call rfl (by simp only [List.map_toArray, List.map_cons, List.map_nil, (q8.e (j := 13) rfl), evc] <;> rfl) rfl) (tz20 L.length (by omega) w1 (ht.of_below bw1 h1w)) rfl q8.z (by decide) ?_
  rintro e w2 ⟨rfl, hw2⟩
  refine ⟨_, rfl, q8.k fun _ q9 => ?_⟩;clear q8
  have hw2 := hw2.symm
  subst hw2
  rw [← hla] at q9
  refine q9.t (.int .i64 ((la : Nat) : Int)) (ex_assign rfl (q9.e (j := 14) rfl)) fun _ q10 => ?_;clear q9
  refine wpList_nil ?_
  go_upto_region 5 with fail
  refine wp_region_lit ?_
  refine q10.t (.pointer (some ⟨q, 0, none⟩)) (ex_move rfl (q10.e (j := 0) rfl)) fun _ q11 => ?_;clear q10
  refine q11.t (.int .i64 ((la : Nat) : Int)) (ex_move rfl (q11.e (j := 4) rfl)) fun _ q12 => ?_;clear q11
  refine q12.t (.pointer (some ⟨q, 0, none⟩)) (ex_nil rfl (q12.e (j := 15) rfl)) fun _ q13 => ?_;clear q12
  refine q13.t (.pointer (some ⟨q, 1, none⟩)) (ex_fa rfl (q13.e (j := 17) rfl) (faT20 q 1 1 (.inr ⟨rfl, rfl⟩) _)) fun _ q14 => ?_;clear q13
  refine q14.t (.pointer (some ⟨q, 1 + la * 32, none⟩)) (ex_ix rfl (q14.e (j := 18) rfl) (q14.e (j := 16) rfl) (ixT20 q la (by omega) _)) fun _ q15 => ?_;clear q14
  refine q15.t (x0.val) (ex_ld rfl (q15.e (j := 19) rfl) (T1.ldE hx0)) fun _ q16 => ?_;clear q15
  obtain ⟨w3, hw3⟩ : ∃ y, y = w1.alloc (.cells (zH.cs).toArray 38) := ⟨_, rfl⟩
  refine vw (.pointer (some ⟨w1.heap.size, 0, none⟩)) w3 (want_none rfl) (ex_al rfl (by rw [hw3]; exact alH _)) rfl q16.z (by decide) (q16.k fun _ q17 => ?_);clear q16
  have Bw3 : BB w3 w1.heap.size 38 (zH.cs) := by rw [hw3]; exact BB.new _ _ _
  have bw3 : Below w1.heap.size w1 w3 := by rw [hw3]; exact (Below.refl _ _).alloc (Nat.le_refl _) _
  have zw3 : w3.heap.size = w1.heap.size + 1 := by rw [hw3]; exact World.size_alloc _ _
  clear hw3
  obtain ⟨w4, hw4⟩ : ∃ y, y = w3.setCells w1.heap.size 0 x0.cs := ⟨_, rfl⟩
  refine vs w4 (want_none rfl) (ex_st rfl (q17.e (j := 5) rfl) (q17.e (j := 20) rfl) (by rw [hw4]; exact Bw3.stH rfl _)) rfl ?_
  have B4 : BB w4 w1.heap.size 38 x0.cs := by rw [hw4]; exact Bw3.putH rfl _
  have u4 : Upd (fun k => k = w1.heap.size) w3 w4 := by rw [hw4]; exact upd18 _ _ _ _
  clear hw4
  have z4 := u4.size
  have d4 : Below w.heap.size w w4 := (bw1.trans (bw3.mono (by omega))).trans (bel_ge u4 (by omega) (by omega))
  have T4 := TB0.later d4
  have C4 := (Bw1.later bw3).upd u4 (show ¬ w.heap.size = w1.heap.size by omega)
  refine wpList_nil ?_
  go_upto_region 6 with fail
  refine wp_region_lit ?_
  refine q17.t (.int .i64 ((0 : Nat) : Int)) (ex_move rfl rfl) fun _ q18 => ?_;clear q17
  have q19 := (((((((Rp.nil q18.z).cons (q18.a 0 rfl)).cons (q18.a 2 rfl)).cons (q18.a 3 rfl)).cons (q18.a 4 rfl)).cons (q18.a 5 rfl)).cons (q18.a 21 rfl))
  clear q18
  refine wpList_nil ?_
  go_upto_region 7 with fail
  refine v_loop 21 63 (fun j T wr => Rp T 44 [(21, gw true (.int .i64 ((j : Nat) : Int))), (5, gw true (.pointer (some ⟨w1.heap.size, 0, none⟩))), (4, gw true (.int .i64 ((la : Nat) : Int))), (3, gw true (.int .i64 ((L.length : Nat) : Int))), (2, gw true (.pointer (some ⟨w.heap.size, 0, none⟩))), (0, gw true (.pointer (some ⟨q, 0, none⟩)))] ∧ Hid (TB wr q (.slice a L.length c) E ∧ BB wr w1.heap.size 38 (hfl L.length la E j x0).cs ∧ BB wr w.heap.size 38 zH.cs ∧ Below w.heap.size w wr)) (fun j T w h => h.1.a 21 rfl) ⟨q19, T4, B4, C4, d4⟩ ?_
  clear q19
  intro j T wr hj hh
  obtain ⟨q100, HJ⟩ := hh
  obtain ⟨TB1, Bx1, C1, dr⟩ := HJ.out
  clear HJ
  have zr := dr.size
  have hdv := div_lt20 L.length j (by omega)
  by_cases hit : j < 63
  · obtain ⟨y, hy⟩ : ∃ y, E[j]? = some y := ⟨_, List.getElem?_eq_getElem (by rw [TB1.len]; exact hit)⟩
    have hyd : E.getD j zH = y := by rw [List.getD_eq_getElem?_getD, hy]; rfl
    have hst0 : hfl L.length la E (j + 1) x0 = if la < j ∧ L.length / 2 ^ j % 2 = 1 then nd y (hfl L.length la E j x0) else hfl L.length la E j x0 := by rw [hfl, hyd]
    obtain ⟨x', hx'⟩ : ∃ z, z = hfl L.length la E j x0 := ⟨_, rfl⟩
    rw [← hx'] at Bx1 hst0
    clear hx'
    go_upto_region 7 with fail
    refine wp_region_lit ?_
    refine q100.t (.bool true) (ex_bin (Y := .int .i64 ((63 : Nat) : Int)) rfl (q100.e (j := 21) rfl) rfl (ltT _ _ hit _)) fun _ q101 => ?_;clear q100
    refine wpList_nil ?_
    go_upto_region 8 with fail
    refine wp_cond_true (q101.e (j := 22) rfl) ?_
    go_upto_region 8 with fail
    refine wp_region_lit ?_
    refine q101.t (.int .i64 ((j : Nat) : Int)) (ex_move rfl (q101.e (j := 21) rfl)) fun _ q102 => ?_;clear q101
    refine q102.t (.int .i64 ((j : Nat) : Int)) (ex_assign rfl (q102.e (j := 23) rfl)) fun _ q103 => ?_;clear q102
    refine wpList_nil ?_
    go_upto_region 9 with fail
    refine wp_region_lit ?_
    refine q103.t (.int .i64 ((j : Nat) : Int)) (ex_move rfl (q103.e (j := 6) rfl)) fun _ q104 => ?_;clear q103
    refine q104.t (.int .i64 ((la : Nat) : Int)) (ex_move rfl (q104.e (j := 4) rfl)) fun _ q105 => ?_;clear q104
    by_cases h1 : la < j
    · refine q105.t (.bool true) (ex_bin rfl (q105.e (j := 24) rfl) (q105.e (j := 25) rfl) (gtT20 _ _ (by omega) _)) fun _ q106 => ?_;clear q105
      refine q106.t (.bool true) (ex_move rfl (q106.e (j := 26) rfl)) fun _ q107 => ?_;clear q106
      refine vl _ (.int .i64 ((L.length : Nat) : Int)) (want_g rfl rfl (q107.a 27 rfl)) (fun hc => ex_move rfl (q107.e (j := 3) rfl)) rfl q107.z (by decide) (q107.k fun _ q108 => ?_);clear q107
      refine vl _ (.int .i64 ((j : Nat) : Int)) (want_g rfl rfl (q108.a 27 rfl)) (fun hc => ex_move rfl (q108.e (j := 6) rfl)) rfl q108.z (by decide) (q108.k fun _ q109 => ?_);clear q108
      refine vl _ (.int .i64 ((L.length / 2 ^ j : Nat) : Int)) (want_g rfl rfl (q109.a 27 rfl)) (fun hc => ex_bin rfl (ev (q109.a 28 rfl) hc) (ev (q109.a 29 rfl) hc) (shr20 _ _ L.length j (by omega) _)) rfl q109.z (by decide) (q109.k fun _ q110 => ?_);clear q109
      refine vl _ (.int .i64 ((L.length / 2 ^ j % 2 : Nat) : Int)) (want_g rfl rfl (q110.a 27 rfl)) (fun hc => ex_bin (Y := .int .i64 1) rfl (ev (q110.a 30 rfl) hc) rfl (andB20 _ _ _ hdv _)) rfl q110.z (by decide) (q110.k fun _ q111 => ?_);clear q110
      by_cases h2 : L.length / 2 ^ j % 2 = 1
      · rw [if_pos ⟨h1, h2⟩] at hst0
        refine vl _ (.bool true) (want_g rfl rfl (q111.a 27 rfl)) (fun hc => ex_bin (Y := .int .i64 ((1 : Nat) : Int)) rfl (ev (q111.a 31 rfl) hc) rfl (eqT20 _ _ (by omega) _)) rfl q111.z (by decide) (q111.k fun _ q112 => ?_);clear q111
        refine q112.t (.bool true) (ex_and (z := true) rfl (q112.a 27 rfl) (q112.a 32 rfl) rfl) fun _ q113 => ?_;clear q112
        refine wpList_nil ?_
        go_upto_region 10 with fail
        refine wp_cond_true (q113.e (j := 33) rfl) ?_
        go_upto_region 10 with fail
        refine vg_start (fun k => k == 8) (fun v => TB v q (.slice a L.length c) E ∧ BB v w1.heap.size 38 x'.cs) (by kernel_rfl) ?_
        have hy0 : Below wr.heap.size wr wr.drew := (Below.refl _ _).drew
        have hzy0 : wr.drew.heap.size = wr.heap.size := rfl
        generalize wr.drew = y0 at *
        have T2 := TB1.later hy0
        have B2 := Bx1.later hy0
        have C2 := C1.later hy0
        refine vg_takeW 0 true (.pointer (some ⟨q, 0, none⟩)) rfl (by kernel_rfl) (by kernel_rfl) (by kernel_rfl) (by kernel_rfl) (want_none rfl) (fun hc v => ex_move rfl (q113.e (j := 0) rfl)) rfl q113.z (by decide) (fun _ => ⟨T2, B2⟩) (q113.k fun _ q114 => ?_);clear q113
        refine vg_takeW 1 true (.int .i64 ((j : Nat) : Int)) rfl (by kernel_rfl) (by kernel_rfl) (by kernel_rfl) (by kernel_rfl) (want_none rfl) (fun hc v => ex_move rfl (q114.e (j := 6) rfl)) rfl q114.z (by decide) (fun _ => ⟨T2, B2⟩) (q114.k fun _ q115 => ?_);clear q114
        refine vg_takeW 2 true (.pointer (some ⟨q, 0, none⟩)) rfl (by kernel_rfl) (by kernel_rfl) (by kernel_rfl) (by kernel_rfl) (want_none rfl) (fun hc v => ex_nil rfl (q115.e (j := 34) rfl)) rfl q115.z (by decide) (fun _ => ⟨T2, B2⟩) (q115.k fun _ q116 => ?_);clear q115
        refine vg_takeW 3 true (.pointer (some ⟨q, 1, none⟩)) rfl (by kernel_rfl) (by kernel_rfl) (by kernel_rfl) (by kernel_rfl) (want_none rfl) (fun hc v => ex_fa rfl (q116.e (j := 36) rfl) (faT20 q 1 1 (.inr ⟨rfl, rfl⟩) _)) rfl q116.z (by decide) (fun _ => ⟨T2, B2⟩) (q116.k fun _ q117 => ?_);clear q116
        refine vg_takeW 4 true (.pointer (some ⟨q, 1 + j * 32, none⟩)) rfl (by kernel_rfl) (by kernel_rfl) (by kernel_rfl) (by kernel_rfl) (want_none rfl) (fun hc v => ex_ix rfl (q117.e (j := 37) rfl) (q117.e (j := 35) rfl) (ixT20 q j hit _)) rfl q117.z (by decide) (fun _ => ⟨T2, B2⟩) (q117.k fun _ q118 => ?_);clear q117
        refine vg_take 5 true (y.val) rfl (by kernel_rfl) (by kernel_rfl) (by kernel_rfl) (by kernel_rfl) (by kernel_rfl) (by kernel_rfl) (want_none rfl) (fun hc v hv => ex_ld rfl (q118.e (j := 38) rfl) (hv.1.ldE hy)) rfl q118.z (by decide) ⟨T2, B2⟩ (q118.k fun _ q119 => ?_);clear q118
        refine vg_take 6 true (x'.val) rfl (by kernel_rfl) (by kernel_rfl) (by kernel_rfl) (by kernel_rfl) (by kernel_rfl) (by kernel_rfl) (want_none rfl) (fun hc v hv => ex_ld rfl (q119.e (j := 5) rfl) hv.2.ldH) rfl q119.z (by decide) ⟨T2, B2⟩ (q119.k fun _ q120 => ?_);clear q119
        refine vg_call 7 rfl (by kernel_rfl) (want_none rfl) (ex_call rfl (by simp only [List.map_toArray, List.map_cons, List.map_nil, (q120.e (j := 39) rfl), (q120.e (j := 40) rfl), evc] <;> rfl) rfl) (node20 y x' _) rfl q120.z (by decide) ?_
        rintro e w5 ⟨rfl, b5⟩
        have z5 := b5.size
        have T3 := T2.later b5
        have B3 := B2.later b5
        have C3 := C2.later b5
        refine ⟨_, rfl, ⟨T3, B3⟩, q120.k fun _ q121 => ?_⟩;clear q120
        obtain ⟨w6, hw6⟩ : ∃ z, z = w5.setCells w1.heap.size 0 (nd y x').cs := ⟨_, rfl⟩
        refine vg_store 8 w6 rfl (by kernel_rfl) (by kernel_rfl) (want_none rfl) (ex_st rfl (q121.e (j := 5) rfl) (q121.e (j := 41) rfl) (by rw [hw6]; exact B3.stH x'.len _)) rfl ?_
        have B6 : BB w6 w1.heap.size 38 (nd y x').cs := by rw [hw6]; exact B3.putH x'.len _
        have u6 : Upd (fun k => k = w1.heap.size) w5 w6 := by rw [hw6]; exact upd18 _ _ _ _
        clear hw6
        have z6 := u6.size
        have hqw := TB0.box.lt
        have T6 := T3.upd u6 (show ¬ q = w1.heap.size by omega)
        have C6 := C3.upd u6 (show ¬ w.heap.size = w1.heap.size by omega)
        have d6 : Below w.heap.size w w6 := ((dr.trans (hy0.mono (by omega))).trans (b5.mono (by omega))).trans (bel_ge u6 (by omega) (by omega))
        refine vg_done (by kernel_rfl) ?_
        go_upto_region 11 with fail
        refine wp_region_lit ?_
        refine q121.t (.int .i64 ((j + 1 : Nat) : Int)) (ex_bin rfl (q121.e (j := 21) rfl) rfl (add1C _ _ j (by omega) _)) fun _ q122 => ?_;clear q121
        refine q122.t (.int .i64 ((j + 1 : Nat) : Int)) (ex_move rfl (q122.e (j := 42) rfl)) fun _ q123 => ?_;clear q122
        have q124 := (((((((Rp.nil q123.z).cons (q123.a 0 rfl)).cons (q123.a 2 rfl)).cons (q123.a 3 rfl)).cons (q123.a 4 rfl)).cons (q123.a 5 rfl)).cons (q123.a 21 rfl))
        clear q123
        refine wpList_nil ?_
        exact ⟨_, rfl, hit, q124, T6, by rw [hst0]; exact B6, C6, d6⟩
      · rw [if_neg (fun h => h2 h.2)] at hst0
        refine vl _ (.bool false) (want_g rfl rfl (q111.a 27 rfl)) (fun hc => ex_bin (Y := .int .i64 ((1 : Nat) : Int)) rfl (ev (q111.a 31 rfl) hc) rfl (eqF20 _ _ (by omega) _)) rfl q111.z (by decide) (q111.k fun _ q112 => ?_);clear q111
        refine q112.t (.bool false) (ex_and (z := false) rfl (q112.a 27 rfl) (q112.a 32 rfl) rfl) fun _ q113 => ?_;clear q112
        refine wpList_nil ?_
        go_upto_region 11 with fail
        refine wp_cond_false (q113.e (j := 33) rfl) ?_
        go_upto_region 11 with fail
        refine wp_region_lit ?_
        refine q113.t (.int .i64 ((j + 1 : Nat) : Int)) (ex_bin rfl (q113.e (j := 21) rfl) rfl (add1C _ _ j (by omega) _)) fun _ q114 => ?_;clear q113
        refine q114.t (.int .i64 ((j + 1 : Nat) : Int)) (ex_move rfl (q114.e (j := 42) rfl)) fun _ q115 => ?_;clear q114
        have q116 := (((((((Rp.nil q115.z).cons (q115.a 0 rfl)).cons (q115.a 2 rfl)).cons (q115.a 3 rfl)).cons (q115.a 4 rfl)).cons (q115.a 5 rfl)).cons (q115.a 21 rfl))
        clear q115
        refine wpList_nil ?_
        exact ⟨_, rfl, hit, q116, TB1, by rw [hst0]; exact Bx1, C1, dr⟩
    · refine q105.t (.bool false) (ex_bin rfl (q105.e (j := 24) rfl) (q105.e (j := 25) rfl) (gtF20 _ _ (by omega) _)) fun _ q106 => ?_;clear q105
      refine q106.t (.bool false) (ex_move rfl (q106.e (j := 26) rfl)) fun _ q107 => ?_;clear q106
      refine vl _ (.int .i64 ((L.length : Nat) : Int)) (want_g rfl rfl (q107.a 27 rfl)) (fun hc => absurd hc (by decide)) rfl q107.z (by decide) (q107.k fun _ q108 => ?_);clear q107
      refine vl _ (.int .i64 ((j : Nat) : Int)) (want_g rfl rfl (q108.a 27 rfl)) (fun hc => absurd hc (by decide)) rfl q108.z (by decide) (q108.k fun _ q109 => ?_);clear q108
      refine vl _ (.int .i64 ((L.length / 2 ^ j : Nat) : Int)) (want_g rfl rfl (q109.a 27 rfl)) (fun hc => absurd hc (by decide)) rfl q109.z (by decide) (q109.k fun _ q110 => ?_);clear q109
      refine vl _ (.int .i64 ((L.length / 2 ^ j % 2 : Nat) : Int)) (want_g rfl rfl (q110.a 27 rfl)) (fun hc => absurd hc (by decide)) rfl q110.z (by decide) (q110.k fun _ q111 => ?_);clear q110
      refine vl _ (.bool false) (want_g rfl rfl (q111.a 27 rfl)) (fun hc => absurd hc (by decide)) rfl q111.z (by decide) (q111.k fun _ q112 => ?_);clear q111
      refine q112.t (.bool false) (ex_and (z := false) rfl (q112.a 27 rfl) (q112.a 32 rfl) rfl) fun _ q113 => ?_;clear q112
      rw [if_neg (fun h => h1 h.1)] at hst0
      refine wpList_nil ?_
      go_upto_region 11 with fail
      refine wp_cond_false (q113.e (j := 33) rfl) ?_
      go_upto_region 11 with fail
      refine wp_region_lit ?_
      refine q113.t (.int .i64 ((j + 1 : Nat) : Int)) (ex_bin rfl (q113.e (j := 21) rfl) rfl (add1C _ _ j (by omega) _)) fun _ q114 => ?_;clear q113
      refine q114.t (.int .i64 ((j + 1 : Nat) : Int)) (ex_move rfl (q114.e (j := 42) rfl)) fun _ q115 => ?_;clear q114
      have q116 := (((((((Rp.nil q115.z).cons (q115.a 0 rfl)).cons (q115.a 2 rfl)).cons (q115.a 3 rfl)).cons (q115.a 4 rfl)).cons (q115.a 5 rfl)).cons (q115.a 21 rfl))
      clear q115
      refine wpList_nil ?_
      exact ⟨_, rfl, hit, q116, TB1, by rw [hst0]; exact Bx1, C1, dr⟩
  · obtain rfl : j = 63 := by omega
    rw [← hth] at Bx1
    go_upto_region 7 with fail
    refine wp_region_lit ?_
    refine q100.t (.bool false) (ex_bin (Y := .int .i64 ((63 : Nat) : Int)) rfl (q100.e (j := 21) rfl) rfl (ltF _ _ hit _)) fun _ q101 => ?_;clear q100
    refine wpList_nil ?_
    go_upto_region 12 with fail
    refine wp_cond_false (q101.e (j := 22) rfl) ?_
    go_upto_region 12 with fail
    refine wp_region_lit ?_
    refine q101.t ((thd L.length E).val) (ex_ld rfl (q101.e (j := 5) rfl) Bx1.ldH) fun _ q102 => ?_;clear q101
    obtain ⟨w8, hw8⟩ : ∃ z, z = wr.setCells w.heap.size 0 (thd L.length E).cs := ⟨_, rfl⟩
    refine vs w8 (want_none rfl) (ex_st rfl (q102.e (j := 2) rfl) (q102.e (j := 43) rfl) (by rw [hw8]; exact C1.stH rfl _)) rfl ?_
    have B8 : BB w8 w.heap.size 38 (thd L.length E).cs := by rw [hw8]; exact C1.putH rfl _
    have d8 : Below w.heap.size w w8 := dr.trans (by rw [hw8]; exact bel_ge (upd18 _ _ _ _) (by omega) (Nat.le_refl _))
    refine wpList_nil ?_
    go_wp2
    exact B8.res rfl (q102.a 2 rfl) Tryd.underlying38 rfl (by rw [Hs.len]; exact i32h) ⟨rfl, d8⟩
end Go.Proofs.YteeofcoehffegaaDoor
namespace Go.Proofs.YteeofcoehffegaaDoor
open Classical
/-! ### The edge of a log -/
def seg (L : List Hs) (h : Nat) : List Hs := (L.drop (L.length - L.length % 2 ^ (h + 1))).take (2 ^ h)
def edg (L : List Hs) (h : Nat) : Hs := if L.length / 2 ^ h % 2 = 1 then hd (seg L h) else zH
def EdgeOf (L E : List Hs) : Prop := E.length = 63 ∧ ∀ h, h < 63 → E[h]? = some (edg L h)
theorem edge_nil : EdgeOf [] (List.replicate 63 zH) := by
  refine ⟨by simp, fun h hh => ?_⟩
  rw [List.getElem?_replicate, if_pos hh]
  unfold edg
  rw [if_neg (by simp)]
theorem pow_s (h : Nat) : 2 ^ (h + 1) = 2 * 2 ^ h := by rw [Nat.pow_succ, Nat.mul_comm]
theorem pow_1 (h : Nat) : 1 ≤ 2 ^ h := Nat.one_le_two_pow
theorem mod_bit (n h : Nat) : n % 2 ^ (h + 1) = n % 2 ^ h + 2 ^ h * (n / 2 ^ h % 2) := Nat.mod_pow_succ
theorem bit_01 (n h : Nat) : n / 2 ^ h % 2 = 0 ∨ n / 2 ^ h % 2 = 1 := by omega
theorem succ_mod20 {n m : Nat} (h : n % m + 1 < m) : (n + 1) % m = n % m + 1 := by
  rw [Nat.add_mod, Nat.mod_eq_of_lt (a := 1) (by omega), Nat.mod_eq_of_lt h]
theorem succ_div20 {n m : Nat} (h : n % m + 1 < m) : (n + 1) / m = n / m := by
  have h1 := Nat.div_add_mod (n + 1) m
  have h2 := Nat.div_add_mod n m
  rw [succ_mod20 h] at h1
  exact Nat.eq_of_mul_eq_mul_left (by omega) (show m * ((n + 1) / m) = m * (n / m) by omega)
theorem hd_join (A B : List Hs) (j : Nat) (hA : A.length = 2 ^ j) (h1 : 1 ≤ B.length) (h2 : B.length ≤ 2 ^ j) : hd (A ++ B) = nd (hd A) (hd B) := by
  have hp := pow_1 j
  have hl : lft (A ++ B).length = 2 ^ j := lft_uniq (j := j) rfl (by rw [List.length_append, hA]; omega) (by rw [List.length_append, hA]; omega)
  rw [hd_2 _ (by rw [List.length_append, hA]; omega), hl, List.take_left' hA, List.drop_left' hA]
def tl (L : List Hs) (j : Nat) : List Hs := L.drop (L.length - L.length % 2 ^ j)
theorem tl_len (L : List Hs) (j : Nat) : (tl L j).length = L.length % 2 ^ j := by
  unfold tl
  have := Nat.mod_le L.length (2 ^ j)
  rw [List.length_drop]
  omega
theorem tl_0 {L : List Hs} {j : Nat} (h : L.length / 2 ^ j % 2 = 0) : tl L (j + 1) = tl L j := by
  unfold tl
  rw [mod_bit, h, Nat.mul_zero, Nat.add_zero]
theorem tl_1 {L : List Hs} {j : Nat} (h : L.length / 2 ^ j % 2 = 1) : tl L (j + 1) = seg L j ++ tl L j := by
  have hb := mod_bit L.length j
  rw [h, Nat.mul_one] at hb
  have hle := Nat.mod_le L.length (2 ^ (j + 1))
  unfold tl seg
  generalize hs : L.length - L.length % 2 ^ (j + 1) = s at *
  have e : L.length - L.length % 2 ^ j = s + 2 ^ j := by omega
  rw [e, ← List.drop_drop, List.take_append_drop]
theorem seg_len {L : List Hs} {j : Nat} (h : L.length / 2 ^ j % 2 = 1) : (seg L j).length = 2 ^ j := by
  have hb := mod_bit L.length j
  rw [h, Nat.mul_one] at hb
  have hle := Nat.mod_le L.length (2 ^ (j + 1))
  unfold seg
  rw [List.length_take, List.length_drop]
  omega
theorem getD_edge {L E : List Hs} (h : EdgeOf L E) {j : Nat} (hj : j < 63) : E.getD j zH = edg L j := by
  rw [List.getD_eq_getElem?_getD, h.2 j hj]
  rfl
theorem thd_hd {L E : List Hs} (h : EdgeOf L E) (h0 : 1 ≤ L.length) (hn : L.length ≤ 4398046511104) : thd L.length E = hd L := by
  have hc42 := ctz_le20 L.length h0 hn
  have hcz : L.length % 2 ^ Lib.ctz 64 L.length = 0 ∧ L.length / 2 ^ Lib.ctz 64 L.length % 2 = 1 := by
    unfold Lib.ctz
    rw [if_neg (by omega)]
    obtain ⟨m, hm, _⟩ := Lib.ctzFrom_spec 64 L.length h0 (by omega)
    generalize Lib.ctzFrom 64 L.length = c at *
    have hp := pow_1 c
    rw [hm]
    refine ⟨Nat.mul_mod_right _ _, ?_⟩
    rw [Nat.mul_div_cancel_left _ hp]
    omega
  unfold thd
  rw [getD_edge h (by omega)]
  generalize Lib.ctz 64 L.length = c at *
  have hx0 : edg L c = hd (seg L c) := by unfold edg; rw [if_pos hcz.2]
  rw [hx0]
  have key : ∀ j, j ≤ 63 → (j ≤ c → hfl L.length c E j (hd (seg L c)) = hd (seg L c)) ∧ (c < j → hfl L.length c E j (hd (seg L c)) = hd (tl L j) ∧ 1 ≤ L.length % 2 ^ j) := by
    intro j
    induction j with
    | zero => exact fun _ => ⟨fun _ => rfl, fun h => by omega⟩
    | succ j ih =>
      intro hj
      obtain ⟨i1, i2⟩ := ih (by omega)
      refine ⟨fun hjc => ?_, fun hcj => ?_⟩
      · rw [hfl, if_neg (by omega), i1 (by omega)]
      · have hmb := mod_bit L.length j
        by_cases e : j = c
        · subst e
          rw [hfl, if_neg (by omega), i1 (Nat.le_refl _), tl_1 hcz.2]
          have ht : tl L j = [] := List.eq_nil_of_length_eq_zero (by rw [tl_len, hcz.1])
          rw [ht, List.append_nil]
          refine ⟨rfl, ?_⟩
          rw [hmb, hcz.2]
          have := pow_1 j
          omega
        · obtain ⟨i3, i4⟩ := i2 (by omega)
          rcases bit_01 L.length j with hb | hb
          · rw [hfl, if_neg (by omega), i3, tl_0 hb]
            refine ⟨rfl, ?_⟩
            rw [hmb, hb]
            omega
          · have hlt : L.length % 2 ^ j < 2 ^ j := Nat.mod_lt _ (pow_1 j)
            rw [hfl, if_pos ⟨by omega, hb⟩, i3, tl_1 hb, hd_join (seg L j) (tl L j) j (seg_len hb) (by rw [tl_len]; omega) (by rw [tl_len]; omega), getD_edge h (by omega)]
            refine ⟨by unfold edg; rw [if_pos hb], ?_⟩
            rw [hmb, hb]
            omega
  have := ((key 63 (Nat.le_refl _)).2 (by omega)).1
  rw [this]
  unfold tl
  rw [Nat.mod_eq_of_lt (by omega), Nat.sub_self, List.drop_zero]
theorem ones_next {n h : Nat} (hm : n % 2 ^ h + 1 = 2 ^ h) : (n + 1) % 2 ^ h = 0 ∧ (n + 1) / 2 ^ h = n / 2 ^ h + 1 := by
  have h1 := Nat.div_add_mod n (2 ^ h)
  have hp := pow_1 h
  have e : n + 1 = 2 ^ h * (n / 2 ^ h + 1) := by rw [Nat.mul_add, Nat.mul_one]; omega
  refine ⟨by rw [e]; exact Nat.mul_mod_right _ _, ?_⟩
  have e2 : (n + 1) / 2 ^ h = 2 ^ h * (n / 2 ^ h + 1) / 2 ^ h := congrArg (· / 2 ^ h) e
  rw [e2, Nat.mul_div_cancel_left _ hp]
theorem low_zero {n h k : Nat} (hm : n % 2 ^ h = 0) (hk : k < h) : n / 2 ^ k % 2 = 0 := by
  have hd : 2 ^ (k + 1) ∣ 2 ^ h := Nat.pow_dvd_pow 2 hk
  have h0 : n % 2 ^ (k + 1) = 0 := Nat.mod_eq_zero_of_dvd (Nat.dvd_trans hd (Nat.dvd_of_mod_eq_zero hm))
  have hb := mod_bit n k
  rw [h0] at hb
  have hp := pow_1 k
  rcases bit_01 n k with e | e
  · exact e
  · rw [e] at hb; omega
theorem high_small {n h k : Nat} (hm : n % 2 ^ h + 1 = 2 ^ h) (hb : n / 2 ^ h % 2 = 0) (hk : h < k) : n % 2 ^ k + 1 < 2 ^ k := by
  have hlt : n % 2 ^ k < 2 ^ k := Nat.mod_lt _ (pow_1 k)
  rcases Nat.lt_or_ge (n % 2 ^ k + 1) (2 ^ k) with h1 | h1
  · exact h1
  · exfalso
    have e : n % 2 ^ k = 2 ^ k - 1 := by omega
    have hd : 2 ^ (h + 1) ∣ 2 ^ k := Nat.pow_dvd_pow 2 hk
    have e2 : n % 2 ^ (h + 1) = (2 ^ k - 1) % 2 ^ (h + 1) := by rw [← e, Nat.mod_mod_of_dvd _ hd]
    obtain ⟨t, ht⟩ := hd
    have hp := pow_1 (h + 1)
    have hk1 := pow_1 k
    have ht1 : 1 ≤ t := by
      rcases Nat.eq_zero_or_pos t with z | z
      · rw [z, Nat.mul_zero] at ht; omega
      · exact z
    obtain ⟨s, rfl⟩ : ∃ s, t = s + 1 := ⟨t - 1, by omega⟩
    have e4 : ∀ M : Nat, 1 ≤ M → M * s + M - 1 = M * s + (M - 1) := fun M hM => by omega
    have e3 : 2 ^ k - 1 = 2 ^ (h + 1) * s + (2 ^ (h + 1) - 1) := by rw [ht, Nat.mul_add, Nat.mul_one, e4 _ hp]
    rw [e3, Nat.mul_add_mod, Nat.mod_eq_of_lt (a := 2 ^ (h + 1) - 1) (Nat.sub_lt hp (by decide))] at e2
    have hmb := mod_bit n h
    rw [hb, Nat.mul_zero, Nat.add_zero] at hmb
    have hs := pow_s h
    have := pow_1 h
    omega
structure CrI (L : List Hs) (x : Hs) (h : Nat) (y : Hs) (E : List Hs) : Prop where
  ones : L.length % 2 ^ h + 1 = 2 ^ h
  hd : y = hd ((L ++ [x]).drop (L.length + 1 - 2 ^ h))
  len : E.length = 63
  low : ∀ k, k < h → k < 63 → E[k]? = some zH
  high : ∀ k, h ≤ k → k < 63 → E[k]? = some (edg L k)
theorem drop_one {L : List Hs} {x : Hs} {s : Nat} (h : s ≤ L.length) : (L ++ [x]).drop s = L.drop s ++ [x] := List.drop_append_of_le_length h
theorem CrI.stop {L : List Hs} {x : Hs} {h : Nat} {y : Hs} {E : List Hs} (c : CrI L x h y E) (hb : L.length / 2 ^ h % 2 = 0) : EdgeOf (L ++ [x]) (E.set h y) := by
  refine ⟨by rw [List.length_set]; exact c.len, fun k hk => ?_⟩
  have hl : (L ++ [x]).length = L.length + 1 := by simp
  obtain ⟨o1, o2⟩ := ones_next c.ones
  have hp := pow_1 h
  rcases Nat.lt_trichotomy k h with h1 | h1 | h1
  · rw [List.getElem?_set_ne (by omega), c.low k h1 hk]
    unfold edg
    rw [hl, if_neg (by rw [low_zero o1 h1]; decide)]
  · subst h1
    rw [List.getElem?_set_self (by rw [c.len]; exact hk), c.hd]
    unfold edg seg
    rw [hl, o2, if_pos (by omega), mod_bit, o1, o2, show (L.length / 2 ^ k + 1) % 2 = 1 by omega, Nat.mul_one, Nat.zero_add, List.take_of_length_le (by rw [List.length_drop, hl]; have := Nat.mod_le L.length (2 ^ k); have := c.ones; omega)]
  · have hs := high_small c.ones hb h1
    have hs2 := high_small c.ones hb (show h < k + 1 by omega)
    rw [List.getElem?_set_ne (by omega), c.high k (by omega) hk]
    unfold edg
    rw [hl, succ_div20 hs]
    by_cases hbit : L.length / 2 ^ k % 2 = 1
    · rw [if_pos hbit, if_pos hbit]
      congr 2
      unfold seg
      have hmb := mod_bit L.length k
      rw [hbit, Nat.mul_one] at hmb
      have hle := Nat.mod_le L.length (2 ^ (k + 1))
      rw [hl, succ_mod20 hs2, show L.length + 1 - (L.length % 2 ^ (k + 1) + 1) = L.length - L.length % 2 ^ (k + 1) by omega, drop_one (by omega), List.take_append_of_le_length (by rw [List.length_drop]; omega)]
    · rw [if_neg hbit, if_neg hbit]
theorem CrI.next {L : List Hs} {x : Hs} {h : Nat} {y : Hs} {E : List Hs} (c : CrI L x h y E) (hb : L.length / 2 ^ h % 2 = 1) (hh : h < 63) : CrI L x (h + 1) (nd (E.getD h zH) y) (E.set h zH) := by
  have hp := pow_1 h
  have hs := pow_s h
  have hmb := mod_bit L.length h
  rw [hb, Nat.mul_one] at hmb
  have ho := c.ones
  have hle := Nat.mod_le L.length (2 ^ (h + 1))
  have hE : E.getD h zH = edg L h := by rw [List.getD_eq_getElem?_getD, c.high h (Nat.le_refl _) hh]; rfl
  refine ⟨by omega, ?_, by rw [List.length_set]; exact c.len, fun k hk hk2 => ?_, fun k hk hk2 => ?_⟩
  · rw [hE, c.hd]
    unfold edg
    rw [if_pos hb]
    have e1 : (L ++ [x]).drop (L.length + 1 - 2 ^ (h + 1)) = seg L h ++ (L ++ [x]).drop (L.length + 1 - 2 ^ h) := by
      have e2 : L.length + 1 - 2 ^ (h + 1) = L.length - L.length % 2 ^ (h + 1) := by omega
      have e3 : L.length + 1 - 2 ^ h = (L.length - L.length % 2 ^ (h + 1)) + 2 ^ h := by omega
      rw [e2, e3, ← List.drop_drop, drop_one (by omega)]
      unfold seg
      generalize hT : L.drop (L.length - L.length % 2 ^ (h + 1)) = T
      have hTl : 2 ^ h ≤ T.length := by rw [← hT, List.length_drop]; omega
      have : T.take (2 ^ h) = (T ++ [x]).take (2 ^ h) := by rw [List.take_append_of_le_length hTl]
      rw [this, List.take_append_drop]
    rw [e1, hd_join (seg L h) _ h (seg_len hb) (by rw [List.length_drop]; simp; omega) (by rw [List.length_drop]; simp; omega)]
  · by_cases e : k = h
    · subst e; rw [List.getElem?_set_self (by rw [c.len]; exact hk2)]
    · rw [List.getElem?_set_ne (by omega)]; exact c.low k (by omega) hk2
  · rw [List.getElem?_set_ne (by omega)]
    exact c.high k (by omega) hk2
theorem cry_edge (L : List Hs) (x : Hs) (hn : L.length ≤ 4398046511104) : ∀ (f h : Nat) (y : Hs) (E : List Hs), f + h = 63 → CrI L x h y E → EdgeOf (L ++ [x]) (cry L.length f h y E)
  | 0, h, y, E, hf, c => by
    exfalso
    have := c.ones
    obtain rfl : h = 63 := by omega
    rw [Nat.mod_eq_of_lt (by omega)] at this
    omega
  | f + 1, h, y, E, hf, c => by
    rw [cry]
    rcases bit_01 L.length h with hb | hb
    · rw [if_pos hb]; exact c.stop hb
    · rw [if_neg (by omega)]
      exact cry_edge L x hn f (h + 1) _ _ (by omega) (c.next hb (by omega))
theorem edge_add {L E : List Hs} {x : Hs} (h : EdgeOf L E) (hn : L.length ≤ 4398046511104) : EdgeOf (L ++ [x]) (cry L.length 63 0 x E) :=
  cry_edge L x hn 63 0 x E rfl ⟨by omega, by
    rw [Nat.pow_zero, Nat.add_sub_cancel, List.drop_left]
    rfl, h.1, fun k hk => by omega, fun k _ hk => h.2 k hk⟩
end Go.Proofs.YteeofcoehffegaaDoor
namespace Go.Proofs.YteeofcoehffegaaDoor
open Go.RowKit Go.Maps
open Classical
set_option maxRecDepth 1000000 in
theorem bdT20 (w : World) : (Instr.build 56 #[]).run Tryd.prog w = .ok (.agg (tcs (.slice none 0 0) (List.replicate 63 zH)).toArray) w := by kernel_rfl
theorem bxT20 (v : Value) (E : List Hs) (w : World) : (Instr.box 56 (.agg (tcs v E).toArray)).run Tryd.prog w = .ok (.pointer (some ⟨w.heap.size, 0, none⟩)) (w.alloc (.cells (tcs v E).toArray 56)) := rfl
theorem tv_new {w w1 : World} (h : BB w1 w.heap.size 56 (tcs (.slice none 0 0) (List.replicate 63 zH))) (hz : w1.heap.size = w.heap.size + 1) : TV w1 (w.heap.size + 1) w.heap.size (.slice none 0 0) [] (List.replicate 63 zH) := ⟨⟨h, by simp⟩, OwnY.nil _ _ _, by omega, by omega⟩
theorem rcS20 {V : Value} {w : World} {L : List Hs} (h : Rc V w L) : Calls Tryd.prog 12 #[V] w (fun e w' => e = .returned (.int .i64 ((L.length : Nat) : Int)) ∧ w' = w) := by
  obtain ⟨a, c, hr⟩ := h
  exact (hr w (Below.refl _ _)).1
end Go.Proofs.YteeofcoehffegaaDoor
namespace Go.Proofs.YteeofcoehffegaaDoor
open Go.RowKit Go.Maps
open Classical
def vl9 (c : Int) : Int := if 48 ≤ c ∧ c ≤ 57 then c - 48 else if 97 ≤ c ∧ c ≤ 102 then c - 87 else -1
def hS9 (t : List Int) : Nat → List Int
  | 0 => List.replicate 32 0
  | i + 1 => (hS9 t i).set (i / 2) (((hS9 t i).getD (i / 2) 0 * 16 + vl9 (t.getD i 0)) % 256)
end Go.Proofs.YteeofcoehffegaaDoor
namespace Go.Proofs.YteeofcoehffegaaDoor
open Go.RowKit Go.Maps
open Classical
end Go.Proofs.YteeofcoehffegaaDoor
namespace Go.Proofs.YteeofcoehffegaaDoor
open Go.RowKit Go.Maps Go.WideShapes
open Classical
end Go.Proofs.YteeofcoehffegaaDoor
namespace Go.Proofs.YteeofcoehffegaaDoor
open Go.RowKit Go.Maps
open Classical
end Go.Proofs.YteeofcoehffegaaDoor
namespace Go.Proofs.YteeofcoehffegaaDoor
open Go.RowKit Go.Maps
open Classical
end Go.Proofs.YteeofcoehffegaaDoor
namespace Go.Proofs.YteeofcoehffegaaDoor
open Go.RowKit Go.Maps
open Classical
/-! The document's numbers of many halves. -/
end Go.Proofs.YteeofcoehffegaaDoor
namespace Go.Proofs.YteeofcoehffegaaDoor
open Go.RowKit Go.Maps
open Classical
end Go.Proofs.YteeofcoehffegaaDoor
namespace Go.Proofs.YteeofcoehffegaaDoor
open Go.RowKit Go.Maps
open Classical
end Go.Proofs.YteeofcoehffegaaDoor
namespace Go.Proofs.YteeofcoehffegaaDoor
open Go.RowKit Go.Maps
open Classical
end Go.Proofs.YteeofcoehffegaaDoor
namespace Go.Proofs.YteeofcoehffegaaDoor
open Go.RowKit Go.Maps
open Classical
end Go.Proofs.YteeofcoehffegaaDoor
namespace Go.Proofs.YteeofcoehffegaaDoor
open Go.RowKit Go.Maps
open Classical
end Go.Proofs.YteeofcoehffegaaDoor
