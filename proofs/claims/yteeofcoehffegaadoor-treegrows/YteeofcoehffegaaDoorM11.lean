import Derived.Test.YteeofcoehffegaaDoorM10
set_option maxRecDepth 100000
set_option linter.unusedVariables false
set_option linter.unusedSimpArgs false
namespace Go.Proofs.YteeofcoehffegaaDoor
open Go.RowKit Go.Maps
open Classical
def m9z : Hs := ⟨[9] ++ List.replicate 31 0, rfl, by decide⟩
theorem bd9z (w : World) : (Instr.build 38 #[(0, .int .u8 9)]).run Tryd.prog w = .ok m9z.val w := by kernel_rfl
theorem sameJ20 (A : List Hs) (a : Option Addr) (n c : Nat) (a2 : Option Addr) (n2 c2 : Nat) (w : World) (hA : SlY yH w a n c A) (hB : SlY yH w a2 n2 c2 A) (hn : n ≤ 8000000000000000000) :
    Calls Tryd.prog 19 #[.slice a n c, .slice a2 n2 c2] w fun e w' => e = .returned (.bool true) ∧ Below w.heap.size w w' := by
  have := sameH20 A A a n c a2 n2 c2 w hA hB hn
  rw [decide_eq_true rfl] at this
  exact this
theorem inJ_le (L : List Hs) (p : Int) : (inR L p).1.length ≤ L.length := by
  unfold inR
  by_cases hb : p < 1 ∨ (L.length : Int) < p
  · rw [if_pos hb]; exact Nat.zero_le _
  · rw [if_neg hb]
    have e1 := pu_len L.length L p.toNat rfl (by omega)
    have e2 := su_le L.length p.toNat (by omega)
    show (pu L p.toNat).length ≤ _
    omega
theorem csJ_le (L : List Hs) (p : Int) : (csR L p).1.length ≤ L.length := by
  unfold csR
  by_cases hb : p < 0 ∨ (L.length : Int) < p
  · rw [if_pos hb]; exact Nat.zero_le _
  · rw [if_neg hb]
    by_cases h0 : p = 0
    · rw [if_pos h0]; exact Nat.zero_le _
    · rw [if_neg h0]
      have e1 := pa_len L.length L p.toNat true rfl (by omega) (by omega)
      have e2 := sa_le L.length p.toNat true (by omega) (by omega)
      show (pa L p.toNat true).length ≤ _
      omega
set_option maxHeartbeats 2000000 in
theorem does4_20 (l : List En) (a : Option Addr) (n c : Nat) (B9 q : Nat) (v : Value) (E : List Hs) (x : En) (A : Int) (B : Nat) (hB : B ≤ n) (w : World) (h : SlY yE w a n c l) (ht : TV w B9 q v (l.map lf) E) (hn : n ≤ 2932031007317) (hv : ∀ x ∈ l, x.o.v.size ≤ 140737488351232) :
    Calls Tryd.prog 8 #[.pointer (some ⟨q, 0, none⟩), .slice a n c, oval 4 x A (B : Int)] w fun e w' => e = .returned (.bool true) ∧ Below w.heap.size w w' := by
  have hln := h.len
  have hl9 := inJ_le ((l.map lf).take B) A
  rw [List.length_take, List.length_map] at hl9
  go_enter Tryd.func8, Tryd.ntmps8
  go_upto_region 0 with fail
  refine wp_region_lit ?_
  refine vl_gen (fun T => Rp T 156 [(2, gw true (oval 4 x A (B : Int))), (1, gw true (.slice a n c)), (0, gw true (.pointer (some ⟨q, 0, none⟩)))]) ((((Rp.nil rfl).cons rfl).cons rfl).cons rfl) (fun Z0 q0 => ?_)
  obtain ⟨w1, hw1⟩ : ∃ y, y = w.alloc (.cells (ocs 4 x A (B : Int)).toArray 31) := ⟨_, rfl⟩
  refine vw (.pointer (some ⟨w.heap.size, 0, none⟩)) w1 (want_none rfl) (ex_box18 rfl (q0.e (j := 2) rfl) (by rw [hw1]; exact bxO20 _ _ _ _ _)) rfl q0.z (by decide) (q0.k fun _ q1 => ?_);clear q0
  have Bw1 : BB w1 w.heap.size 31 (ocs 4 x A (B : Int)) := by rw [hw1]; exact BB.new _ _ _
  have bw1 : Below w.heap.size w w1 := by rw [hw1]; exact (Below.refl _ _).alloc (Nat.le_refl _) _
  have zw1 : w1.heap.size = w.heap.size + 1 := by rw [hw1]; exact World.size_alloc _ _
  clear hw1
  have d2 : Below w.heap.size w w1 := bw1
  refine q1.t (.bool false) (ex_assign rfl rfl) fun _ q2 => ?_;clear q1
  refine wpList_nil ?_
  go_upto_region 1 with fail
  refine wp_region_lit ?_
  refine q2.t (.pointer (some ⟨w.heap.size, 0, none⟩)) (ex_fa rfl (q2.e (j := 5) rfl) (faOp20 _ _ _ (.inl ⟨rfl, rfl⟩) _)) fun _ q3 => ?_;clear q2
  refine q3.t (.int .i64 (4 : Int)) (ex_ld rfl (q3.e (j := 15) rfl) Bw1.ldO0) fun _ q4 => ?_;clear q3
  refine wpList_nil ?_
  go_upto_region 2 with fail
  refine wp_region_lit ?_
  refine q4.t (.bool false) (ex_bin (Y := .int .i64 ((1 : Nat) : Int)) rfl (q4.e (j := 16) rfl) rfl (eqF20 _ _ (by omega) _)) fun _ q5 => ?_;clear q4
  refine q5.t (.bool false) (ex_assign rfl (q5.e (j := 18) rfl)) fun _ q6 => ?_;clear q5
  refine wpList_nil ?_
  go_upto_region 4 with fail
  refine wp_cond_false (q6.e (j := 17) rfl) ?_
  go_upto_region 4 with fail
  refine wp_region_lit ?_
  refine q6.t (.bool false) (ex_bin (Y := .int .i64 ((2 : Nat) : Int)) rfl (q6.e (j := 16) rfl) rfl (eqF20 _ _ (by omega) _)) fun _ q7 => ?_;clear q6
  refine q7.t (.bool false) (ex_assign rfl (q7.e (j := 25) rfl)) fun _ q8 => ?_;clear q7
  refine wpList_nil ?_
  go_upto_region 6 with fail
  refine wp_cond_false (q8.e (j := 24) rfl) ?_
  go_upto_region 6 with fail
  refine wp_region_lit ?_
  refine q8.t (.bool false) (ex_bin (Y := .int .i64 ((3 : Nat) : Int)) rfl (q8.e (j := 16) rfl) rfl (eqF20 _ _ (by omega) _)) fun _ q9 => ?_;clear q8
  refine q9.t (.bool false) (ex_assign rfl (q9.e (j := 32) rfl)) fun _ q10 => ?_;clear q9
  refine wpList_nil ?_
  go_upto_region 11 with fail
  refine wp_cond_false (q10.e (j := 31) rfl) ?_
  go_upto_region 11 with fail
  refine wp_region_lit ?_
  refine q10.t (.bool true) (ex_bin (Y := .int .i64 ((4 : Nat) : Int)) rfl (q10.e (j := 16) rfl) rfl (eqT20 _ _ (by omega) _)) fun _ q11 => ?_;clear q10
  refine q11.t (.bool true) (ex_assign rfl (q11.e (j := 69) rfl)) fun _ q12 => ?_;clear q11
  refine wpList_nil ?_
  go_upto_region 29 with fail
  refine wp_cond_true (q12.e (j := 68) rfl) ?_
  go_upto_region 13 with fail
  refine wp_cond_true (q12.e (j := 68) rfl) ?_
  go_upto_region 13 with fail
  refine wp_region_lit ?_
  refine q12.t (.slice none 0 0) (ex_assign rfl rfl) fun _ q13 => ?_;clear q12
  refine q13.t (.slice none 0 0) (ex_assign rfl rfl) fun _ q14 => ?_;clear q13
  refine wpList_nil ?_
  go_upto_region 14 with fail
  refine wp_region_lit ?_
  refine q14.t (.int .i64 ((0 : Nat) : Int)) (ex_assign rfl rfl) fun _ q15 => ?_;clear q14
  refine wpList_nil ?_
  go_upto_region 15 with fail
  refine wp_region_lit ?_
  refine q15.t (.int .i64 ((200 : Nat) : Int)) (ex_assign rfl rfl) fun _ q16 => ?_;clear q15
  refine wpList_nil ?_
  go_upto_region 16 with fail
  refine wp_region_lit ?_
  refine q16.t (.pointer (some ⟨w.heap.size, 0, none⟩)) (ex_fa rfl (q16.e (j := 5) rfl) (faOp20 _ _ _ (.inl ⟨rfl, rfl⟩) _)) fun _ q17 => ?_;clear q16
  refine q17.t (.int .i64 (4 : Int)) (ex_ld rfl (q17.e (j := 71) rfl) Bw1.ldO0) fun _ q18 => ?_;clear q17
  refine q18.t (.bool true) (ex_bin (Y := .int .i64 ((4 : Nat) : Int)) rfl (q18.e (j := 72) rfl) rfl (eqT20 _ _ (by omega) _)) fun _ q19 => ?_;clear q18
  refine wpList_nil ?_
  go_upto_region 17 with fail
  refine wp_cond_true (q19.e (j := 73) rfl) ?_
  go_upto_region 17 with fail
  refine wp_region_lit ?_
  refine q19.t (.pointer (some ⟨q, 0, none⟩)) (ex_move rfl (q19.e (j := 0) rfl)) fun _ q20 => ?_;clear q19
  refine q20.t (.pointer (some ⟨w.heap.size, 6, none⟩)) (ex_fa rfl (q20.e (j := 5) rfl) (faOp20 _ _ _ (.inr (.inr (.inl ⟨rfl, rfl⟩))) _)) fun _ q21 => ?_;clear q20
  refine q21.t (.int .i64 (A : Int)) (ex_ld rfl (q21.e (j := 76) rfl) Bw1.ldO2) fun _ q22 => ?_;clear q21
  refine q22.t (.pointer (some ⟨w.heap.size, 7, none⟩)) (ex_fa rfl (q22.e (j := 5) rfl) (faOp20 _ _ _ (.inr (.inr (.inr ⟨rfl, rfl⟩))) _)) fun _ q23 => ?_;clear q22
  refine q23.t (.int .i64 ((B : Nat) : Int)) (ex_ld rfl (q23.e (j := 78) rfl) Bw1.ldO3) fun _ q24 => ?_;clear q23
  refine vcallP (want_none rfl) (ex_call rfl (by simp only [List.map_toArray, List.map_cons, List.map_nil, (q24.e (j := 75) rfl), (q24.e (j := 77) rfl), (q24.e (j := 79) rfl), evc] <;> rfl) rfl) (tincl20 (.pointer (some ⟨q, 0, none⟩)) (l.map lf) A B (by simp; omega) (by rw [List.length_map]; omega) w1 (ht.later (d2)).rc (by rw [List.length_map]; omega)) rfl q24.z (by decide) ?_
  rintro e w3 ⟨v8, rfl, o8, bw3⟩
  refine ⟨_, rfl, q24.k fun _ q25 => ?_⟩;clear q24
  have zw3 := bw3.size
  have d4 : Below w.heap.size w w3 := d2.trans (bw3.mono d2.size)
  obtain ⟨a8, c8, hv8, s8, _⟩ := o8.sl kH
  subst hv8
  have o8 := o8.low (B' := w.heap.size) (by omega)
  refine q25.t (.tuple #[.slice a8 ((inR ((l.map lf).take B) A).1.length) c8, .int .i64 ((inR ((l.map lf).take B) A).2 : Int)]) (ex_move rfl (q25.e (j := 80) rfl)) fun _ q26 => ?_;clear q25
  refine q26.t (.slice a8 ((inR ((l.map lf).take B) A).1.length) c8) (ex_ext18 rfl (q26.e (j := 74) rfl) rfl) fun _ q27 => ?_;clear q26
  refine q27.t (.int .i64 ((inR ((l.map lf).take B) A).2 : Int)) (ex_ext18 rfl (q27.e (j := 74) rfl) rfl) fun _ q28 => ?_;clear q27
  refine q28.t (.slice a8 ((inR ((l.map lf).take B) A).1.length) c8) (ex_assign rfl (q28.e (j := 81) rfl)) fun _ q29 => ?_;clear q28
  refine q29.t (.int .i64 ((inR ((l.map lf).take B) A).2 : Int)) (ex_assign rfl (q29.e (j := 82) rfl)) fun _ q30 => ?_;clear q29
  refine wpList_nil ?_
  go_upto_region 19 with fail
  refine wp_region_lit ?_
  refine q30.t (.pointer (some ⟨w.heap.size, 7, none⟩)) (ex_fa rfl (q30.e (j := 5) rfl) (faOp20 _ _ _ (.inr (.inr (.inr ⟨rfl, rfl⟩))) _)) fun _ q31 => ?_;clear q30
  have B5 : BB w3 w.heap.size 31 (ocs 4 x A (B : Int)) := (Bw1.later bw3)
  refine q31.t (.int .i64 ((B : Nat) : Int)) (ex_ld rfl (q31.e (j := 92) rfl) B5.ldO3) fun _ q32 => ?_;clear q31
  refine q32.t (.bool true) (ex_bin (Y := .int .i64 ((0 : Nat) : Int)) rfl (q32.e (j := 93) rfl) rfl (geT20 _ _ (by omega) _)) fun _ q33 => ?_;clear q32
  refine q33.t (.bool true) (ex_move rfl (q33.e (j := 94) rfl)) fun _ q34 => ?_;clear q33
  refine vl ((true && (true == true))) (.pointer (some ⟨w.heap.size, 7, none⟩)) (want_g rfl rfl (q34.a 95 rfl)) (fun hc => ex_fa rfl (q34.e (j := 5) rfl) (faOp20 _ _ _ (.inr (.inr (.inr ⟨rfl, rfl⟩))) _)) rfl q34.z (by decide) (q34.k fun _ q35 => ?_);clear q34
  refine vl ((true && (true == true))) (.int .i64 ((B : Nat) : Int)) (want_g rfl rfl (q35.a 95 rfl)) (fun hc => ex_ld rfl (ev (q35.a 96 rfl) hc) B5.ldO3) rfl q35.z (by decide) (q35.k fun _ q36 => ?_);clear q35
  refine vl ((true && (true == true))) (.slice a n c) (want_g rfl rfl (q36.a 95 rfl)) (fun hc => ex_move rfl (q36.e (j := 1) rfl)) rfl q36.z (by decide) (q36.k fun _ q37 => ?_);clear q36
  refine vl ((true && (true == true))) (.int .i64 ((n : Nat) : Int)) (want_g rfl rfl (q37.a 95 rfl)) (fun hc => ex_lenG rfl rfl Tryd.underlying25 (ev (q37.a 98 rfl) hc)) rfl q37.z (by decide) (q37.k fun _ q38 => ?_);clear q37
  refine vl ((true && (true == true))) (.bool true) (want_g rfl rfl (q38.a 95 rfl)) (fun hc => ex_bin rfl (ev (q38.a 97 rfl) hc) (ev (q38.a 99 rfl) hc) (leT20 _ _ (by omega) _)) rfl q38.z (by decide) (q38.k fun _ q39 => ?_);clear q38
  refine q39.t (.bool true) (ex_and (c := true) (b := true) (z := true) rfl (q39.a 95 rfl) (q39.a 100 rfl) rfl) fun _ q40 => ?_;clear q39
  refine q40.t (.bool true) (ex_move rfl (q40.e (j := 101) rfl)) fun _ q41 => ?_;clear q40
  refine vl ((true && (true == true))) (.pointer (some ⟨w.heap.size, 0, none⟩)) (want_g rfl rfl (q41.a 102 rfl)) (fun hc => ex_fa rfl (q41.e (j := 5) rfl) (faOp20 _ _ _ (.inl ⟨rfl, rfl⟩) _)) rfl q41.z (by decide) (q41.k fun _ q42 => ?_);clear q41
  refine vl ((true && (true == true))) (.int .i64 (4 : Int)) (want_g rfl rfl (q42.a 102 rfl)) (fun hc => ex_ld rfl (ev (q42.a 103 rfl) hc) B5.ldO0) rfl q42.z (by decide) (q42.k fun _ q43 => ?_);clear q42
  refine vl ((true && (true == true))) (.bool true) (want_g rfl rfl (q43.a 102 rfl)) (fun hc => ex_bin (Y := .int .i64 ((4 : Nat) : Int)) rfl (ev (q43.a 104 rfl) hc) rfl (eqT20 _ _ (by omega) _)) rfl q43.z (by decide) (q43.k fun _ q44 => ?_);clear q43
  refine q44.t (.bool true) (ex_and (c := true) (b := true) (z := true) rfl (q44.a 102 rfl) (q44.a 105 rfl) rfl) fun _ q45 => ?_;clear q44
  refine wpList_nil ?_
  go_upto_region 20 with fail
  refine wp_cond_true (q45.e (j := 106) rfl) ?_
  go_upto_region 20 with fail
  have hsl := (h.later d4)
  refine vg_start (fun k => false) (fun v => BB v w.heap.size 31 (ocs 4 x A (B : Int))) (by kernel_rfl) ?_
  have hy0 : Below w3.heap.size w3 w3.drew := (Below.refl _ _).drew
  have hzy0 : w3.drew.heap.size = w3.heap.size := rfl
  generalize w3.drew = y0 at *
  have OB2 := B5.later hy0
  have sT := (hsl.later hy0).take B hB
  refine vg_takeW 0 true (.slice a n c) rfl (by kernel_rfl) (by kernel_rfl) (by kernel_rfl) (by kernel_rfl) (want_none rfl) (fun hc v => ex_move rfl (q45.e (j := 1) rfl)) rfl q45.z (by decide) (fun _ => OB2) (q45.k fun _ q46 => ?_);clear q45
  refine vg_takeW 1 true (.pointer (some ⟨w.heap.size, 7, none⟩)) rfl (by kernel_rfl) (by kernel_rfl) (by kernel_rfl) (by kernel_rfl) (want_none rfl) (fun hc v => ex_fa rfl (q46.e (j := 5) rfl) (faOp20 _ _ _ (.inr (.inr (.inr ⟨rfl, rfl⟩))) _)) rfl q46.z (by decide) (fun _ => OB2) (q46.k fun _ q47 => ?_);clear q46
  refine vg_take 2 true (.int .i64 ((B : Nat) : Int)) rfl (by kernel_rfl) (by kernel_rfl) (by kernel_rfl) (by kernel_rfl) (by kernel_rfl) (by kernel_rfl) (want_none rfl) (fun hc v hv => ex_ld rfl (q47.e (j := 109) rfl) hv.ldO3) rfl q47.z (by decide) OB2 (q47.k fun _ q48 => ?_);clear q47
  refine vg_takeW 3 true (.slice a B c) rfl (by kernel_rfl) (by kernel_rfl) (by kernel_rfl) (by kernel_rfl) (want_none rfl) (fun hc v => ex_sl19 rfl (q48.e (j := 108) rfl) rfl (congrArg some (q48.e (j := 110) rfl)) rfl (slToE20A a n c B hB h.cap (fun e => (h.nil e).2) _)) rfl q48.z (by decide) (fun _ => OB2) (q48.k fun _ q49 => ?_);clear q48
  refine vg_takeW 4 true (.pointer (some ⟨w.heap.size, 6, none⟩)) rfl (by kernel_rfl) (by kernel_rfl) (by kernel_rfl) (by kernel_rfl) (want_none rfl) (fun hc v => ex_fa rfl (q49.e (j := 5) rfl) (faOp20 _ _ _ (.inr (.inr (.inl ⟨rfl, rfl⟩))) _)) rfl q49.z (by decide) (fun _ => OB2) (q49.k fun _ q50 => ?_);clear q49
  refine vg_take 5 true (.int .i64 A) rfl (by kernel_rfl) (by kernel_rfl) (by kernel_rfl) (by kernel_rfl) (by kernel_rfl) (by kernel_rfl) (want_none rfl) (fun hc v hv => ex_ld rfl (q50.e (j := 112) rfl) hv.ldO2) rfl q50.z (by decide) OB2 (q50.k fun _ q51 => ?_);clear q50
  refine vg_call 6 rfl (by kernel_rfl) (want_none rfl) (ex_call rfl (by simp only [List.map_toArray, List.map_cons, List.map_nil, (q51.e (j := 111) rfl), (q51.e (j := 113) rfl), evc] <;> rfl) rfl) (rincl20 _ _ _ _ A _ sT (by omega) (fun x hx => hv x (List.mem_of_mem_take hx))) rfl q51.z (by decide) ?_
  rintro e d1 ⟨v7, rfl, o7, b7⟩
  have z7 := b7.size
  have e7 : (l.take B).map lf = (l.map lf).take B := List.map_take
  rw [e7] at o7
  obtain ⟨a7, c7, hv7, s7, _⟩ := o7.sl kH
  subst hv7
  have OB3 := OB2.later b7
  refine ⟨_, rfl, OB2.later b7, q51.k fun _ q52 => ?_⟩;clear q51
  rw [e7] at q52
  refine vg_takeW 7 true (.tuple #[.slice a7 (inR ((l.map lf).take B) A).1.length c7, .int .i64 (inR ((l.map lf).take B) A).2]) rfl (by kernel_rfl) (by kernel_rfl) (by kernel_rfl) (by kernel_rfl) (want_none rfl) (fun hc v => ex_move rfl (q52.e (j := 114) rfl)) rfl q52.z (by decide) (fun _ => OB3) (q52.k fun _ q53 => ?_);clear q52
  refine vg_takeW 8 true (.slice a7 (inR ((l.map lf).take B) A).1.length c7) rfl (by kernel_rfl) (by kernel_rfl) (by kernel_rfl) (by kernel_rfl) (want_none rfl) (fun hc v => ex_ext18 rfl (q53.e (j := 107) rfl) rfl) rfl q53.z (by decide) (fun _ => OB3) (q53.k fun _ q54 => ?_);clear q53
  refine vg_takeW 10 true (.slice a7 (inR ((l.map lf).take B) A).1.length c7) rfl (by kernel_rfl) (by kernel_rfl) (by kernel_rfl) (by kernel_rfl) (want_none rfl) (fun hc v => ex_assign rfl (q54.e (j := 115) rfl)) rfl q54.z (by decide) (fun _ => OB3) (q54.k fun _ q55 => ?_);clear q54
  refine vg_takeW 9 true (.int .i64 ((inR ((l.map lf).take B) A).2 : Int)) rfl (by kernel_rfl) (by kernel_rfl) (by kernel_rfl) (by kernel_rfl) (want_none rfl) (fun hc v => ex_ext18 rfl (q55.e (j := 107) rfl) rfl) rfl q55.z (by decide) (fun _ => OB3) (q55.k fun _ q56 => ?_);clear q55
  refine vg_takeW 11 true (.int .i64 ((inR ((l.map lf).take B) A).2 : Int)) rfl (by kernel_rfl) (by kernel_rfl) (by kernel_rfl) (by kernel_rfl) (want_none rfl) (fun hc v => ex_assign rfl (q56.e (j := 116) rfl)) rfl q56.z (by decide) (fun _ => OB3) (q56.k fun _ q57 => ?_);clear q56
  refine vg_done (by kernel_rfl) ?_
  have d6 : Below w.heap.size w y0 := d4.trans (hy0.mono d4.size)
  have d7 : Below w.heap.size w d1 := d6.trans (b7.mono d6.size)
  go_upto_region 23 with fail
  refine wp_region_lit ?_
  refine q57.t (.int .i64 ((inR ((l.map lf).take B) A).2 : Int)) (ex_move rfl (q57.e (j := 11) rfl)) fun _ q58 => ?_;clear q57
  refine q58.t (.int .i64 ((inR ((l.map lf).take B) A).2 : Int)) (ex_move rfl (q58.e (j := 12) rfl)) fun _ q59 => ?_;clear q58
  refine q59.t (.bool true) (ex_bin rfl (q59.e (j := 137) rfl) (q59.e (j := 138) rfl) (eqT20 _ _ (by omega) _)) fun _ q60 => ?_;clear q59
  refine q60.t (.bool true) (ex_move rfl (q60.e (j := 139) rfl)) fun _ q61 => ?_;clear q60
  refine vl ((true && (true == true))) (.slice a8 ((inR ((l.map lf).take B) A).1.length) c8) (want_g rfl rfl (q61.a 140 rfl)) (fun hc => ex_move rfl (q61.e (j := 9) rfl)) rfl q61.z (by decide) (q61.k fun _ q62 => ?_);clear q61
  refine vl ((true && (true == true))) (.slice a7 ((inR ((l.map lf).take B) A).1.length) c7) (want_g rfl rfl (q62.a 140 rfl)) (fun hc => ex_move rfl (q62.e (j := 10) rfl)) rfl q62.z (by decide) (q62.k fun _ q63 => ?_);clear q62
  refine vcallP (show Region.wanted _ _ = (true && (true == true)) from want_g rfl rfl (q63.a 140 rfl)) (ex_call rfl (by simp only [List.map_toArray, List.map_cons, List.map_nil, (q63.e (j := 141) rfl), (q63.e (j := 142) rfl), evc] <;> rfl) rfl) (sameJ20 (inR ((l.map lf).take B) A).1 _ _ _ _ _ _ d1 ((s8.later hy0).later b7) s7 (by omega)) rfl q63.z (by decide) ?_
  rintro e w8 ⟨rfl, bw8⟩
  refine ⟨_, rfl, q63.k fun _ q64 => ?_⟩;clear q63
  have zw8 := bw8.size
  have d9 : Below w.heap.size w w8 := d7.trans (bw8.mono d7.size)
  refine q64.t (.bool true) (ex_and (c := true) (b := true) (z := true) rfl (q64.a 140 rfl) (q64.a 143 rfl) rfl) fun _ q65 => ?_;clear q64
  refine q65.t (.bool true) (ex_assign rfl (q65.e (j := 144) rfl)) fun _ q66 => ?_;clear q65
  refine wpList_nil ?_
  go_upto_region 24 with fail
  refine wp_region_lit ?_
  refine q66.t (.int .i64 ((0 : Nat) : Int)) (ex_assign rfl rfl) fun _ q67 => ?_;clear q66
  have q67k := (((Rp.nil q67.z).cons (q67.a 9 rfl)).cons (q67.a 13 rfl)).cons (q67.a 14 rfl)
  refine wpList_nil ?_
  go_upto_region 25 with fail
  refine v_loop 14 ((inR ((l.map lf).take B) A).1.length) (fun j T wr => ∃ D : List Hs, Rp T 156 [(14, gw true (.int .i64 ((j : Nat) : Int))), (13, gw true (.bool true)), (9, gw true (.slice a8 ((inR ((l.map lf).take B) A).1.length) c8))] ∧ Hid (OwnY yH w.heap.size wr (.slice a8 ((inR ((l.map lf).take B) A).1.length) c8) D ∧ D.length = (inR ((l.map lf).take B) A).1.length ∧ Below w.heap.size w wr)) (fun j T w h => by obtain ⟨_, h, _⟩ := h; exact h.a 14 rfl) ⟨(inR ((l.map lf).take B) A).1, q67k, (((o8.grow hy0).grow b7).grow bw8), rfl, d9⟩ ?_
  intro j T wr hj hh
  obtain ⟨D, q300, HJ⟩ := hh
  obtain ⟨oD, hDl, dr⟩ := HJ.out
  clear HJ
  have zr := dr.size
  by_cases hit : j < (inR ((l.map lf).take B) A).1.length
  · obtain ⟨g9, hg9⟩ : ∃ g, (.slice a8 ((inR ((l.map lf).take B) A).1.length) c8 : Value) = .slice (some ⟨g, 0, none⟩) ((inR ((l.map lf).take B) A).1.length) c8 := by
      obtain ⟨a9, c9, h1, _, _, h5, h6⟩ := oD.form
      cases a9 with
      | none => have := (h5 rfl).1; rw [this] at hDl; simp at hDl; omega
      | some z => obtain ⟨g, e, _, _⟩ := h6 z rfl; subst e; injection h1 with e1 e2 e3; exact ⟨g, by rw [e1]⟩
    rw [hg9] at oD
    have HG := hide hg9
    clear hg9
    go_upto_region 25 with fail
    refine wp_region_lit ?_
    refine q300.t (.int .i64 ((j : Nat) : Int)) (ex_move rfl (q300.e (j := 14) rfl)) fun _ q301 => ?_;clear q300
    refine q301.t (.slice a8 ((inR ((l.map lf).take B) A).1.length) c8) (ex_move rfl (q301.e (j := 9) rfl)) fun _ q302 => ?_;clear q301
    refine q302.t (.int .i64 (((inR ((l.map lf).take B) A).1.length : Nat) : Int)) (ex_lenG rfl rfl Tryd.underlying44 (q302.e (j := 146) rfl)) fun _ q303 => ?_;clear q302
    refine q303.t (.bool true) (ex_bin rfl (q303.e (j := 145) rfl) (q303.e (j := 147) rfl) (ltT _ _ hit _)) fun _ q304 => ?_;clear q303
    refine wpList_nil ?_
    go_upto_region 27 with fail
    refine wp_cond_true (q304.e (j := 148) rfl) ?_
    go_upto_region 27 with fail
    refine wp_region_lit ?_
    have q304g := q304.a 9 rfl
    rw [HG.out] at q304g
    refine q304.t (.slice (some ⟨g9, 0, none⟩) ((inR ((l.map lf).take B) A).1.length) c8) (ex_move rfl (ev q304g rfl)) fun _ q305 => ?_;clear q304
    refine q305.t (.int .i64 ((j : Nat) : Int)) (ex_move rfl (q305.e (j := 14) rfl)) fun _ q306 => ?_;clear q305
    refine q306.t (m9z.val) (ex_buildP18 (P := #[(0, .int .u8 9)]) rfl (by simp only [List.map_toArray, List.map_cons, List.map_nil, evc] <;> rfl) (bd9z _)) fun _ q307 => ?_;clear q306
    refine q307.t (.pointer (some ⟨g9, j * 32, none⟩)) (ex_ix rfl (q307.e (j := 151) rfl) (q307.e (j := 152) rfl) (ixH0 g9 ((inR ((l.map lf).take B) A).1.length) c8 j hit _)) fun _ q308 => ?_;clear q307
    obtain ⟨w9, hst, o9, u9, hz9⟩ := run_stH wr w.heap.size g9 ((inR ((l.map lf).take B) A).1.length) c8 D j m9z (by omega) oD
    have hgl := (oD.blk g9 rfl).1
    refine vs w9 (want_none rfl) (ex_st rfl (q308.e (j := 154) rfl) (q308.e (j := 153) rfl) hst) rfl ?_
    refine wpList_nil ?_
    go_upto_region 26 with fail
    refine wp_region_lit ?_
    refine q308.t (.int .i64 ((j : Nat) : Int)) (ex_move rfl (q308.e (j := 14) rfl)) fun _ q309 => ?_;clear q308
    refine q309.t (.int .i64 ((j + 1 : Nat) : Int)) (ex_bin rfl (q309.e (j := 149) rfl) rfl (add1C _ _ j (by omega) _)) fun _ q310 => ?_;clear q309
    refine q310.t (.int .i64 ((j + 1 : Nat) : Int)) (ex_assign rfl (q310.e (j := 150) rfl)) fun _ q311 => ?_;clear q310
    have q312 := ((((Rp.nil q311.z).cons (q311.a 9 rfl)).cons (q311.a 13 rfl)).cons (q311.a 14 rfl))
    clear q311
    refine wpList_nil ?_
    exact ⟨_, rfl, hit, _, q312, by rw [HG.out]; exact o9, by rw [List.length_set]; exact hDl, dr.trans (bel_ge u9 (by omega) hgl)⟩
  · go_upto_region 25 with fail
    refine wp_region_lit ?_
    refine q300.t (.int .i64 ((j : Nat) : Int)) (ex_move rfl (q300.e (j := 14) rfl)) fun _ q301 => ?_;clear q300
    refine q301.t (.slice a8 ((inR ((l.map lf).take B) A).1.length) c8) (ex_move rfl (q301.e (j := 9) rfl)) fun _ q302 => ?_;clear q301
    refine q302.t (.int .i64 (((inR ((l.map lf).take B) A).1.length : Nat) : Int)) (ex_lenG rfl rfl Tryd.underlying44 (q302.e (j := 146) rfl)) fun _ q303 => ?_;clear q302
    refine q303.t (.bool false) (ex_bin rfl (q303.e (j := 145) rfl) (q303.e (j := 147) rfl) (ltF _ _ hit _)) fun _ q304 => ?_;clear q303
    refine wpList_nil ?_
    go_upto_region 28 with fail
    refine wp_cond_false (q304.e (j := 148) rfl) ?_
    go_upto_region 28 with fail
    refine wp_region_lit ?_
    refine q304.t (.bool true) (ex_move rfl (q304.e (j := 13) rfl)) fun _ q305 => ?_;clear q304
    refine q305.t (.bool true) (ex_assign rfl (q305.e (j := 155) rfl)) fun _ q306 => ?_;clear q305
    refine wpList_nil ?_
    go_wp2
    refine bodyPost_ret (results_tmp rfl _ _ _) rfl ?_
    rw [getD_of (q306.a 6 rfl)]
    exact ⟨rfl, dr⟩
set_option maxHeartbeats 2000000 in
theorem does4B_20 (l : List En) (a : Option Addr) (n c : Nat) (B9 q : Nat) (v : Value) (E : List Hs) (x : En) (A B : Int) (hB : B < 0 ∨ (n : Int) < B) (w : World) (h : SlY yE w a n c l) (ht : TV w B9 q v (l.map lf) E) (hn : n ≤ 2932031007317) (hv : ∀ x ∈ l, x.o.v.size ≤ 140737488351232) :
    Calls Tryd.prog 8 #[.pointer (some ⟨q, 0, none⟩), .slice a n c, oval 4 x A B] w fun e w' => e = .returned (.bool true) ∧ Below w.heap.size w w' := by
  have hln := h.len
  have hN9 : SlY yH w none 0 0 ([] : List Hs) := (OwnY.nil yH w.heap.size w).sl' kH
  go_enter Tryd.func8, Tryd.ntmps8
  go_upto_region 0 with fail
  refine wp_region_lit ?_
  refine vl_gen (fun T => Rp T 156 [(2, gw true (oval 4 x A B)), (1, gw true (.slice a n c)), (0, gw true (.pointer (some ⟨q, 0, none⟩)))]) ((((Rp.nil rfl).cons rfl).cons rfl).cons rfl) (fun Z0 q0 => ?_)
  obtain ⟨w1, hw1⟩ : ∃ y, y = w.alloc (.cells (ocs 4 x A B).toArray 31) := ⟨_, rfl⟩
  refine vw (.pointer (some ⟨w.heap.size, 0, none⟩)) w1 (want_none rfl) (ex_box18 rfl (q0.e (j := 2) rfl) (by rw [hw1]; exact bxO20 _ _ _ _ _)) rfl q0.z (by decide) (q0.k fun _ q1 => ?_);clear q0
  have Bw1 : BB w1 w.heap.size 31 (ocs 4 x A B) := by rw [hw1]; exact BB.new _ _ _
  have bw1 : Below w.heap.size w w1 := by rw [hw1]; exact (Below.refl _ _).alloc (Nat.le_refl _) _
  have zw1 : w1.heap.size = w.heap.size + 1 := by rw [hw1]; exact World.size_alloc _ _
  clear hw1
  have d2 : Below w.heap.size w w1 := bw1
  refine q1.t (.bool false) (ex_assign rfl rfl) fun _ q2 => ?_;clear q1
  refine wpList_nil ?_
  go_upto_region 1 with fail
  refine wp_region_lit ?_
  refine q2.t (.pointer (some ⟨w.heap.size, 0, none⟩)) (ex_fa rfl (q2.e (j := 5) rfl) (faOp20 _ _ _ (.inl ⟨rfl, rfl⟩) _)) fun _ q3 => ?_;clear q2
  refine q3.t (.int .i64 (4 : Int)) (ex_ld rfl (q3.e (j := 15) rfl) Bw1.ldO0) fun _ q4 => ?_;clear q3
  refine wpList_nil ?_
  go_upto_region 2 with fail
  refine wp_region_lit ?_
  refine q4.t (.bool false) (ex_bin (Y := .int .i64 ((1 : Nat) : Int)) rfl (q4.e (j := 16) rfl) rfl (eqF20 _ _ (by omega) _)) fun _ q5 => ?_;clear q4
  refine q5.t (.bool false) (ex_assign rfl (q5.e (j := 18) rfl)) fun _ q6 => ?_;clear q5
  refine wpList_nil ?_
  go_upto_region 4 with fail
  refine wp_cond_false (q6.e (j := 17) rfl) ?_
  go_upto_region 4 with fail
  refine wp_region_lit ?_
  refine q6.t (.bool false) (ex_bin (Y := .int .i64 ((2 : Nat) : Int)) rfl (q6.e (j := 16) rfl) rfl (eqF20 _ _ (by omega) _)) fun _ q7 => ?_;clear q6
  refine q7.t (.bool false) (ex_assign rfl (q7.e (j := 25) rfl)) fun _ q8 => ?_;clear q7
  refine wpList_nil ?_
  go_upto_region 6 with fail
  refine wp_cond_false (q8.e (j := 24) rfl) ?_
  go_upto_region 6 with fail
  refine wp_region_lit ?_
  refine q8.t (.bool false) (ex_bin (Y := .int .i64 ((3 : Nat) : Int)) rfl (q8.e (j := 16) rfl) rfl (eqF20 _ _ (by omega) _)) fun _ q9 => ?_;clear q8
  refine q9.t (.bool false) (ex_assign rfl (q9.e (j := 32) rfl)) fun _ q10 => ?_;clear q9
  refine wpList_nil ?_
  go_upto_region 11 with fail
  refine wp_cond_false (q10.e (j := 31) rfl) ?_
  go_upto_region 11 with fail
  refine wp_region_lit ?_
  refine q10.t (.bool true) (ex_bin (Y := .int .i64 ((4 : Nat) : Int)) rfl (q10.e (j := 16) rfl) rfl (eqT20 _ _ (by omega) _)) fun _ q11 => ?_;clear q10
  refine q11.t (.bool true) (ex_assign rfl (q11.e (j := 69) rfl)) fun _ q12 => ?_;clear q11
  refine wpList_nil ?_
  go_upto_region 29 with fail
  refine wp_cond_true (q12.e (j := 68) rfl) ?_
  go_upto_region 13 with fail
  refine wp_cond_true (q12.e (j := 68) rfl) ?_
  go_upto_region 13 with fail
  refine wp_region_lit ?_
  refine q12.t (.slice none 0 0) (ex_assign rfl rfl) fun _ q13 => ?_;clear q12
  refine q13.t (.slice none 0 0) (ex_assign rfl rfl) fun _ q14 => ?_;clear q13
  refine wpList_nil ?_
  go_upto_region 14 with fail
  refine wp_region_lit ?_
  refine q14.t (.int .i64 ((0 : Nat) : Int)) (ex_assign rfl rfl) fun _ q15 => ?_;clear q14
  refine wpList_nil ?_
  go_upto_region 15 with fail
  refine wp_region_lit ?_
  refine q15.t (.int .i64 ((200 : Nat) : Int)) (ex_assign rfl rfl) fun _ q16 => ?_;clear q15
  refine wpList_nil ?_
  go_upto_region 16 with fail
  refine wp_region_lit ?_
  refine q16.t (.pointer (some ⟨w.heap.size, 0, none⟩)) (ex_fa rfl (q16.e (j := 5) rfl) (faOp20 _ _ _ (.inl ⟨rfl, rfl⟩) _)) fun _ q17 => ?_;clear q16
  refine q17.t (.int .i64 (4 : Int)) (ex_ld rfl (q17.e (j := 71) rfl) Bw1.ldO0) fun _ q18 => ?_;clear q17
  refine q18.t (.bool true) (ex_bin (Y := .int .i64 ((4 : Nat) : Int)) rfl (q18.e (j := 72) rfl) rfl (eqT20 _ _ (by omega) _)) fun _ q19 => ?_;clear q18
  refine wpList_nil ?_
  go_upto_region 17 with fail
  refine wp_cond_true (q19.e (j := 73) rfl) ?_
  go_upto_region 17 with fail
  refine wp_region_lit ?_
  refine q19.t (.pointer (some ⟨q, 0, none⟩)) (ex_move rfl (q19.e (j := 0) rfl)) fun _ q20 => ?_;clear q19
  refine q20.t (.pointer (some ⟨w.heap.size, 6, none⟩)) (ex_fa rfl (q20.e (j := 5) rfl) (faOp20 _ _ _ (.inr (.inr (.inl ⟨rfl, rfl⟩))) _)) fun _ q21 => ?_;clear q20
  refine q21.t (.int .i64 (A : Int)) (ex_ld rfl (q21.e (j := 76) rfl) Bw1.ldO2) fun _ q22 => ?_;clear q21
  refine q22.t (.pointer (some ⟨w.heap.size, 7, none⟩)) (ex_fa rfl (q22.e (j := 5) rfl) (faOp20 _ _ _ (.inr (.inr (.inr ⟨rfl, rfl⟩))) _)) fun _ q23 => ?_;clear q22
  refine q23.t (.int .i64 (B : Int)) (ex_ld rfl (q23.e (j := 78) rfl) Bw1.ldO3) fun _ q24 => ?_;clear q23
  refine vcallP (want_none rfl) (ex_call rfl (by simp only [List.map_toArray, List.map_cons, List.map_nil, (q24.e (j := 75) rfl), (q24.e (j := 77) rfl), (q24.e (j := 79) rfl), evc] <;> rfl) rfl) (tinclB20 (.pointer (some ⟨q, 0, none⟩)) (l.map lf) A B (by simp; omega) w1 (ht.later (d2)).rc (by rw [List.length_map]; omega)) rfl q24.z (by decide) ?_
  rintro e w3 ⟨rfl, bw3⟩
  refine ⟨_, rfl, q24.k fun _ q25 => ?_⟩;clear q24
  have zw3 := bw3.size
  have d4 : Below w.heap.size w w3 := d2.trans (bw3.mono d2.size)
  refine q25.t (.tuple #[.slice none 0 0, .int .i64 (200 : Int)]) (ex_move rfl (q25.e (j := 80) rfl)) fun _ q26 => ?_;clear q25
  refine q26.t (.slice none 0 0) (ex_ext18 rfl (q26.e (j := 74) rfl) rfl) fun _ q27 => ?_;clear q26
  refine q27.t (.int .i64 (200 : Int)) (ex_ext18 rfl (q27.e (j := 74) rfl) rfl) fun _ q28 => ?_;clear q27
  refine q28.t (.slice none 0 0) (ex_assign rfl (q28.e (j := 81) rfl)) fun _ q29 => ?_;clear q28
  refine q29.t (.int .i64 (200 : Int)) (ex_assign rfl (q29.e (j := 82) rfl)) fun _ q30 => ?_;clear q29
  refine wpList_nil ?_
  go_upto_region 19 with fail
  refine wp_region_lit ?_
  refine q30.t (.pointer (some ⟨w.heap.size, 7, none⟩)) (ex_fa rfl (q30.e (j := 5) rfl) (faOp20 _ _ _ (.inr (.inr (.inr ⟨rfl, rfl⟩))) _)) fun _ q31 => ?_;clear q30
  have B5 : BB w3 w.heap.size 31 (ocs 4 x A B) := (Bw1.later bw3)
  refine q31.t (.int .i64 (B : Int)) (ex_ld rfl (q31.e (j := 92) rfl) B5.ldO3) fun _ q32 => ?_;clear q31
  by_cases hB0 : 0 ≤ B
  · refine q32.t (.bool true) (ex_bin (Y := .int .i64 ((0 : Nat) : Int)) rfl (q32.e (j := 93) rfl) rfl (geT20 _ _ (by omega) _)) fun _ q33 => ?_;clear q32
    refine q33.t (.bool true) (ex_move rfl (q33.e (j := 94) rfl)) fun _ q34 => ?_;clear q33
    refine vl ((true && (true == true))) (.pointer (some ⟨w.heap.size, 7, none⟩)) (want_g rfl rfl (q34.a 95 rfl)) (fun hc => ex_fa rfl (q34.e (j := 5) rfl) (faOp20 _ _ _ (.inr (.inr (.inr ⟨rfl, rfl⟩))) _)) rfl q34.z (by decide) (q34.k fun _ q35 => ?_);clear q34
    refine vl ((true && (true == true))) (.int .i64 (B : Int)) (want_g rfl rfl (q35.a 95 rfl)) (fun hc => ex_ld rfl (ev (q35.a 96 rfl) hc) B5.ldO3) rfl q35.z (by decide) (q35.k fun _ q36 => ?_);clear q35
    refine vl ((true && (true == true))) (.slice a n c) (want_g rfl rfl (q36.a 95 rfl)) (fun hc => ex_move rfl (q36.e (j := 1) rfl)) rfl q36.z (by decide) (q36.k fun _ q37 => ?_);clear q36
    refine vl ((true && (true == true))) (.int .i64 ((n : Nat) : Int)) (want_g rfl rfl (q37.a 95 rfl)) (fun hc => ex_lenG rfl rfl Tryd.underlying25 (ev (q37.a 98 rfl) hc)) rfl q37.z (by decide) (q37.k fun _ q38 => ?_);clear q37
    refine vl ((true && (true == true))) (.bool false) (want_g rfl rfl (q38.a 95 rfl)) (fun hc => ex_bin rfl (ev (q38.a 97 rfl) hc) (ev (q38.a 99 rfl) hc) (leF20 _ _ (by omega) _)) rfl q38.z (by decide) (q38.k fun _ q39 => ?_);clear q38
    refine q39.t (.bool false) (ex_and (c := true) (b := true) (z := false) rfl (q39.a 95 rfl) (q39.a 100 rfl) rfl) fun _ q40 => ?_;clear q39
    refine q40.t (.bool false) (ex_move rfl (q40.e (j := 101) rfl)) fun _ q41 => ?_;clear q40
    refine vl ((true && (false == true))) (undef) (want_g rfl rfl (q41.a 102 rfl)) (fun hc => absurd hc (by decide)) rfl q41.z (by decide) (q41.k fun _ q42 => ?_);clear q41
    refine vl ((true && (false == true))) (undef) (want_g rfl rfl (q42.a 102 rfl)) (fun hc => absurd hc (by decide)) rfl q42.z (by decide) (q42.k fun _ q43 => ?_);clear q42
    refine vl ((true && (false == true))) (.bool false) (want_g rfl rfl (q43.a 102 rfl)) (fun hc => absurd hc (by decide)) rfl q43.z (by decide) (q43.k fun _ q44 => ?_);clear q43
    refine q44.t (.bool false) (ex_and (c := true) (b := false) (z := false) rfl (q44.a 102 rfl) (q44.a 105 rfl) rfl) fun _ q45 => ?_;clear q44
    refine wpList_nil ?_
    go_upto_region 21 with fail
    refine wp_cond_false (q45.e (j := 106) rfl) ?_
    go_upto_region 21 with fail
    refine wp_region_lit ?_
    refine q45.t (.pointer (some ⟨w.heap.size, 7, none⟩)) (ex_fa rfl (q45.e (j := 5) rfl) (faOp20 _ _ _ (.inr (.inr (.inr ⟨rfl, rfl⟩))) _)) fun _ q46 => ?_;clear q45
    refine q46.t (.int .i64 (B : Int)) (ex_ld rfl (q46.e (j := 117) rfl) B5.ldO3) fun _ q47 => ?_;clear q46
    by_cases hB1 : 0 ≤ B
    · refine q47.t (.bool true) (ex_bin (Y := .int .i64 ((0 : Nat) : Int)) rfl (q47.e (j := 118) rfl) rfl (geT20 _ _ (by omega) _)) fun _ q48 => ?_;clear q47
      refine q48.t (.bool true) (ex_move rfl (q48.e (j := 119) rfl)) fun _ q49 => ?_;clear q48
      refine vl ((true && (true == true))) (.pointer (some ⟨w.heap.size, 7, none⟩)) (want_g rfl rfl (q49.a 120 rfl)) (fun hc => ex_fa rfl (q49.e (j := 5) rfl) (faOp20 _ _ _ (.inr (.inr (.inr ⟨rfl, rfl⟩))) _)) rfl q49.z (by decide) (q49.k fun _ q50 => ?_);clear q49
      refine vl ((true && (true == true))) (.int .i64 (B : Int)) (want_g rfl rfl (q50.a 120 rfl)) (fun hc => ex_ld rfl (ev (q50.a 121 rfl) hc) B5.ldO3) rfl q50.z (by decide) (q50.k fun _ q51 => ?_);clear q50
      refine vl ((true && (true == true))) (.slice a n c) (want_g rfl rfl (q51.a 120 rfl)) (fun hc => ex_move rfl (q51.e (j := 1) rfl)) rfl q51.z (by decide) (q51.k fun _ q52 => ?_);clear q51
      refine vl ((true && (true == true))) (.int .i64 ((n : Nat) : Int)) (want_g rfl rfl (q52.a 120 rfl)) (fun hc => ex_lenG rfl rfl Tryd.underlying25 (ev (q52.a 123 rfl) hc)) rfl q52.z (by decide) (q52.k fun _ q53 => ?_);clear q52
      refine vl ((true && (true == true))) (.bool false) (want_g rfl rfl (q53.a 120 rfl)) (fun hc => ex_bin rfl (ev (q53.a 122 rfl) hc) (ev (q53.a 124 rfl) hc) (leF20 _ _ (by omega) _)) rfl q53.z (by decide) (q53.k fun _ q54 => ?_);clear q53
      refine q54.t (.bool false) (ex_and (c := true) (b := true) (z := false) rfl (q54.a 120 rfl) (q54.a 125 rfl) rfl) fun _ q55 => ?_;clear q54
      refine wpList_nil ?_
      go_upto_region 23 with fail
      refine wp_cond_false (q55.e (j := 126) rfl) ?_
      go_upto_region 23 with fail
      refine wp_region_lit ?_
      refine q55.t (.int .i64 (200 : Int)) (ex_move rfl (q55.e (j := 11) rfl)) fun _ q56 => ?_;clear q55
      refine q56.t (.int .i64 ((200 : Nat) : Int)) (ex_move rfl (q56.e (j := 12) rfl)) fun _ q57 => ?_;clear q56
      refine q57.t (.bool true) (ex_bin rfl (q57.e (j := 137) rfl) (q57.e (j := 138) rfl) (eqT20 _ _ (by omega) _)) fun _ q58 => ?_;clear q57
      refine q58.t (.bool true) (ex_move rfl (q58.e (j := 139) rfl)) fun _ q59 => ?_;clear q58
      refine vl ((true && (true == true))) (.slice none 0 0) (want_g rfl rfl (q59.a 140 rfl)) (fun hc => ex_move rfl (q59.e (j := 9) rfl)) rfl q59.z (by decide) (q59.k fun _ q60 => ?_);clear q59
      refine vl ((true && (true == true))) (.slice none 0 0) (want_g rfl rfl (q60.a 140 rfl)) (fun hc => ex_move rfl (q60.e (j := 10) rfl)) rfl q60.z (by decide) (q60.k fun _ q61 => ?_);clear q60
      refine vcallP (show Region.wanted _ _ = (true && (true == true)) from want_g rfl rfl (q61.a 140 rfl)) (ex_call rfl (by simp only [List.map_toArray, List.map_cons, List.map_nil, (q61.e (j := 141) rfl), (q61.e (j := 142) rfl), evc] <;> rfl) rfl) (sameJ20 ([] : List Hs) _ _ _ _ _ _ w3 (hN9.later d4) (hN9.later d4) (by omega)) rfl q61.z (by decide) ?_
      rintro e w6 ⟨rfl, bw6⟩
      refine ⟨_, rfl, q61.k fun _ q62 => ?_⟩;clear q61
      have zw6 := bw6.size
      have d7 : Below w.heap.size w w6 := d4.trans (bw6.mono d4.size)
      refine q62.t (.bool true) (ex_and (c := true) (b := true) (z := true) rfl (q62.a 140 rfl) (q62.a 143 rfl) rfl) fun _ q63 => ?_;clear q62
      refine q63.t (.bool true) (ex_assign rfl (q63.e (j := 144) rfl)) fun _ q64 => ?_;clear q63
      refine wpList_nil ?_
      go_upto_region 24 with fail
      refine wp_region_lit ?_
      refine q64.t (.int .i64 ((0 : Nat) : Int)) (ex_assign rfl rfl) fun _ q65 => ?_;clear q64
      have q65k := (((Rp.nil q65.z).cons (q65.a 9 rfl)).cons (q65.a 13 rfl)).cons (q65.a 14 rfl)
      refine wpList_nil ?_
      go_upto_region 25 with fail
      refine v_loop 14 0 (fun j T wr => ∃ D : List Hs, Rp T 156 [(14, gw true (.int .i64 ((j : Nat) : Int))), (13, gw true (.bool true)), (9, gw true (.slice none 0 0))] ∧ Hid (OwnY yH w.heap.size wr (.slice none 0 0) D ∧ D.length = 0 ∧ Below w.heap.size w wr)) (fun j T w h => by obtain ⟨_, h, _⟩ := h; exact h.a 14 rfl) ⟨([] : List Hs), q65k, (OwnY.nil yH w.heap.size w6), rfl, d7⟩ ?_
      intro j T wr hj hh
      obtain ⟨D, q300, HJ⟩ := hh
      obtain ⟨oD, hDl, dr⟩ := HJ.out
      clear HJ
      have zr := dr.size
      by_cases hit : j < 0
      · exact absurd hit (by omega)
      · go_upto_region 25 with fail
        refine wp_region_lit ?_
        refine q300.t (.int .i64 ((j : Nat) : Int)) (ex_move rfl (q300.e (j := 14) rfl)) fun _ q301 => ?_;clear q300
        refine q301.t (.slice none 0 0) (ex_move rfl (q301.e (j := 9) rfl)) fun _ q302 => ?_;clear q301
        refine q302.t (.int .i64 ((0 : Nat) : Int)) (ex_lenG rfl rfl Tryd.underlying44 (q302.e (j := 146) rfl)) fun _ q303 => ?_;clear q302
        refine q303.t (.bool false) (ex_bin rfl (q303.e (j := 145) rfl) (q303.e (j := 147) rfl) (ltF _ _ hit _)) fun _ q304 => ?_;clear q303
        refine wpList_nil ?_
        go_upto_region 28 with fail
        refine wp_cond_false (q304.e (j := 148) rfl) ?_
        go_upto_region 28 with fail
        refine wp_region_lit ?_
        refine q304.t (.bool true) (ex_move rfl (q304.e (j := 13) rfl)) fun _ q305 => ?_;clear q304
        refine q305.t (.bool true) (ex_assign rfl (q305.e (j := 155) rfl)) fun _ q306 => ?_;clear q305
        refine wpList_nil ?_
        go_wp2
        refine bodyPost_ret (results_tmp rfl _ _ _) rfl ?_
        rw [getD_of (q306.a 6 rfl)]
        exact ⟨rfl, dr⟩
    · refine q47.t (.bool false) (ex_bin (Y := .int .i64 ((0 : Nat) : Int)) rfl (q47.e (j := 118) rfl) rfl (geF20 _ _ (by omega) _)) fun _ q48 => ?_;clear q47
      refine q48.t (.bool false) (ex_move rfl (q48.e (j := 119) rfl)) fun _ q49 => ?_;clear q48
      refine vl ((true && (false == true))) (undef) (want_g rfl rfl (q49.a 120 rfl)) (fun hc => absurd hc (by decide)) rfl q49.z (by decide) (q49.k fun _ q50 => ?_);clear q49
      refine vl ((true && (false == true))) (undef) (want_g rfl rfl (q50.a 120 rfl)) (fun hc => absurd hc (by decide)) rfl q50.z (by decide) (q50.k fun _ q51 => ?_);clear q50
      refine vl ((true && (false == true))) (undef) (want_g rfl rfl (q51.a 120 rfl)) (fun hc => absurd hc (by decide)) rfl q51.z (by decide) (q51.k fun _ q52 => ?_);clear q51
      refine vl ((true && (false == true))) (undef) (want_g rfl rfl (q52.a 120 rfl)) (fun hc => absurd hc (by decide)) rfl q52.z (by decide) (q52.k fun _ q53 => ?_);clear q52
      refine vl ((true && (false == true))) (.bool false) (want_g rfl rfl (q53.a 120 rfl)) (fun hc => absurd hc (by decide)) rfl q53.z (by decide) (q53.k fun _ q54 => ?_);clear q53
      refine q54.t (.bool false) (ex_and (c := true) (b := false) (z := false) rfl (q54.a 120 rfl) (q54.a 125 rfl) rfl) fun _ q55 => ?_;clear q54
      refine wpList_nil ?_
      go_upto_region 23 with fail
      refine wp_cond_false (q55.e (j := 126) rfl) ?_
      go_upto_region 23 with fail
      refine wp_region_lit ?_
      refine q55.t (.int .i64 (200 : Int)) (ex_move rfl (q55.e (j := 11) rfl)) fun _ q56 => ?_;clear q55
      refine q56.t (.int .i64 ((200 : Nat) : Int)) (ex_move rfl (q56.e (j := 12) rfl)) fun _ q57 => ?_;clear q56
      refine q57.t (.bool true) (ex_bin rfl (q57.e (j := 137) rfl) (q57.e (j := 138) rfl) (eqT20 _ _ (by omega) _)) fun _ q58 => ?_;clear q57
      refine q58.t (.bool true) (ex_move rfl (q58.e (j := 139) rfl)) fun _ q59 => ?_;clear q58
      refine vl ((true && (true == true))) (.slice none 0 0) (want_g rfl rfl (q59.a 140 rfl)) (fun hc => ex_move rfl (q59.e (j := 9) rfl)) rfl q59.z (by decide) (q59.k fun _ q60 => ?_);clear q59
      refine vl ((true && (true == true))) (.slice none 0 0) (want_g rfl rfl (q60.a 140 rfl)) (fun hc => ex_move rfl (q60.e (j := 10) rfl)) rfl q60.z (by decide) (q60.k fun _ q61 => ?_);clear q60
      refine vcallP (show Region.wanted _ _ = (true && (true == true)) from want_g rfl rfl (q61.a 140 rfl)) (ex_call rfl (by simp only [List.map_toArray, List.map_cons, List.map_nil, (q61.e (j := 141) rfl), (q61.e (j := 142) rfl), evc] <;> rfl) rfl) (sameJ20 ([] : List Hs) _ _ _ _ _ _ w3 (hN9.later d4) (hN9.later d4) (by omega)) rfl q61.z (by decide) ?_
      rintro e w6 ⟨rfl, bw6⟩
      refine ⟨_, rfl, q61.k fun _ q62 => ?_⟩;clear q61
      have zw6 := bw6.size
      have d7 : Below w.heap.size w w6 := d4.trans (bw6.mono d4.size)
      refine q62.t (.bool true) (ex_and (c := true) (b := true) (z := true) rfl (q62.a 140 rfl) (q62.a 143 rfl) rfl) fun _ q63 => ?_;clear q62
      refine q63.t (.bool true) (ex_assign rfl (q63.e (j := 144) rfl)) fun _ q64 => ?_;clear q63
      refine wpList_nil ?_
      go_upto_region 24 with fail
      refine wp_region_lit ?_
      refine q64.t (.int .i64 ((0 : Nat) : Int)) (ex_assign rfl rfl) fun _ q65 => ?_;clear q64
      have q65k := (((Rp.nil q65.z).cons (q65.a 9 rfl)).cons (q65.a 13 rfl)).cons (q65.a 14 rfl)
      refine wpList_nil ?_
      go_upto_region 25 with fail
      refine v_loop 14 0 (fun j T wr => ∃ D : List Hs, Rp T 156 [(14, gw true (.int .i64 ((j : Nat) : Int))), (13, gw true (.bool true)), (9, gw true (.slice none 0 0))] ∧ Hid (OwnY yH w.heap.size wr (.slice none 0 0) D ∧ D.length = 0 ∧ Below w.heap.size w wr)) (fun j T w h => by obtain ⟨_, h, _⟩ := h; exact h.a 14 rfl) ⟨([] : List Hs), q65k, (OwnY.nil yH w.heap.size w6), rfl, d7⟩ ?_
      intro j T wr hj hh
      obtain ⟨D, q300, HJ⟩ := hh
      obtain ⟨oD, hDl, dr⟩ := HJ.out
      clear HJ
      have zr := dr.size
      by_cases hit : j < 0
      · exact absurd hit (by omega)
      · go_upto_region 25 with fail
        refine wp_region_lit ?_
        refine q300.t (.int .i64 ((j : Nat) : Int)) (ex_move rfl (q300.e (j := 14) rfl)) fun _ q301 => ?_;clear q300
        refine q301.t (.slice none 0 0) (ex_move rfl (q301.e (j := 9) rfl)) fun _ q302 => ?_;clear q301
        refine q302.t (.int .i64 ((0 : Nat) : Int)) (ex_lenG rfl rfl Tryd.underlying44 (q302.e (j := 146) rfl)) fun _ q303 => ?_;clear q302
        refine q303.t (.bool false) (ex_bin rfl (q303.e (j := 145) rfl) (q303.e (j := 147) rfl) (ltF _ _ hit _)) fun _ q304 => ?_;clear q303
        refine wpList_nil ?_
        go_upto_region 28 with fail
        refine wp_cond_false (q304.e (j := 148) rfl) ?_
        go_upto_region 28 with fail
        refine wp_region_lit ?_
        refine q304.t (.bool true) (ex_move rfl (q304.e (j := 13) rfl)) fun _ q305 => ?_;clear q304
        refine q305.t (.bool true) (ex_assign rfl (q305.e (j := 155) rfl)) fun _ q306 => ?_;clear q305
        refine wpList_nil ?_
        go_wp2
        refine bodyPost_ret (results_tmp rfl _ _ _) rfl ?_
        rw [getD_of (q306.a 6 rfl)]
        exact ⟨rfl, dr⟩
  · refine q32.t (.bool false) (ex_bin (Y := .int .i64 ((0 : Nat) : Int)) rfl (q32.e (j := 93) rfl) rfl (geF20 _ _ (by omega) _)) fun _ q33 => ?_;clear q32
    refine q33.t (.bool false) (ex_move rfl (q33.e (j := 94) rfl)) fun _ q34 => ?_;clear q33
    refine vl ((true && (false == true))) (undef) (want_g rfl rfl (q34.a 95 rfl)) (fun hc => absurd hc (by decide)) rfl q34.z (by decide) (q34.k fun _ q35 => ?_);clear q34
    refine vl ((true && (false == true))) (undef) (want_g rfl rfl (q35.a 95 rfl)) (fun hc => absurd hc (by decide)) rfl q35.z (by decide) (q35.k fun _ q36 => ?_);clear q35
    refine vl ((true && (false == true))) (undef) (want_g rfl rfl (q36.a 95 rfl)) (fun hc => absurd hc (by decide)) rfl q36.z (by decide) (q36.k fun _ q37 => ?_);clear q36
    refine vl ((true && (false == true))) (undef) (want_g rfl rfl (q37.a 95 rfl)) (fun hc => absurd hc (by decide)) rfl q37.z (by decide) (q37.k fun _ q38 => ?_);clear q37
    refine vl ((true && (false == true))) (.bool false) (want_g rfl rfl (q38.a 95 rfl)) (fun hc => absurd hc (by decide)) rfl q38.z (by decide) (q38.k fun _ q39 => ?_);clear q38
    refine q39.t (.bool false) (ex_and (c := true) (b := false) (z := false) rfl (q39.a 95 rfl) (q39.a 100 rfl) rfl) fun _ q40 => ?_;clear q39
    refine q40.t (.bool false) (ex_move rfl (q40.e (j := 101) rfl)) fun _ q41 => ?_;clear q40
    refine vl ((true && (false == true))) (undef) (want_g rfl rfl (q41.a 102 rfl)) (fun hc => absurd hc (by decide)) rfl q41.z (by decide) (q41.k fun _ q42 => ?_);clear q41
    refine vl ((true && (false == true))) (undef) (want_g rfl rfl (q42.a 102 rfl)) (fun hc => absurd hc (by decide)) rfl q42.z (by decide) (q42.k fun _ q43 => ?_);clear q42
    refine vl ((true && (false == true))) (.bool false) (want_g rfl rfl (q43.a 102 rfl)) (fun hc => absurd hc (by decide)) rfl q43.z (by decide) (q43.k fun _ q44 => ?_);clear q43
    refine q44.t (.bool false) (ex_and (c := true) (b := false) (z := false) rfl (q44.a 102 rfl) (q44.a 105 rfl) rfl) fun _ q45 => ?_;clear q44
    refine wpList_nil ?_
    go_upto_region 21 with fail
    refine wp_cond_false (q45.e (j := 106) rfl) ?_
    go_upto_region 21 with fail
    refine wp_region_lit ?_
    refine q45.t (.pointer (some ⟨w.heap.size, 7, none⟩)) (ex_fa rfl (q45.e (j := 5) rfl) (faOp20 _ _ _ (.inr (.inr (.inr ⟨rfl, rfl⟩))) _)) fun _ q46 => ?_;clear q45
    refine q46.t (.int .i64 (B : Int)) (ex_ld rfl (q46.e (j := 117) rfl) B5.ldO3) fun _ q47 => ?_;clear q46
    by_cases hB1 : 0 ≤ B
    · refine q47.t (.bool true) (ex_bin (Y := .int .i64 ((0 : Nat) : Int)) rfl (q47.e (j := 118) rfl) rfl (geT20 _ _ (by omega) _)) fun _ q48 => ?_;clear q47
      refine q48.t (.bool true) (ex_move rfl (q48.e (j := 119) rfl)) fun _ q49 => ?_;clear q48
      refine vl ((true && (true == true))) (.pointer (some ⟨w.heap.size, 7, none⟩)) (want_g rfl rfl (q49.a 120 rfl)) (fun hc => ex_fa rfl (q49.e (j := 5) rfl) (faOp20 _ _ _ (.inr (.inr (.inr ⟨rfl, rfl⟩))) _)) rfl q49.z (by decide) (q49.k fun _ q50 => ?_);clear q49
      refine vl ((true && (true == true))) (.int .i64 (B : Int)) (want_g rfl rfl (q50.a 120 rfl)) (fun hc => ex_ld rfl (ev (q50.a 121 rfl) hc) B5.ldO3) rfl q50.z (by decide) (q50.k fun _ q51 => ?_);clear q50
      refine vl ((true && (true == true))) (.slice a n c) (want_g rfl rfl (q51.a 120 rfl)) (fun hc => ex_move rfl (q51.e (j := 1) rfl)) rfl q51.z (by decide) (q51.k fun _ q52 => ?_);clear q51
      refine vl ((true && (true == true))) (.int .i64 ((n : Nat) : Int)) (want_g rfl rfl (q52.a 120 rfl)) (fun hc => ex_lenG rfl rfl Tryd.underlying25 (ev (q52.a 123 rfl) hc)) rfl q52.z (by decide) (q52.k fun _ q53 => ?_);clear q52
      refine vl ((true && (true == true))) (.bool false) (want_g rfl rfl (q53.a 120 rfl)) (fun hc => ex_bin rfl (ev (q53.a 122 rfl) hc) (ev (q53.a 124 rfl) hc) (leF20 _ _ (by omega) _)) rfl q53.z (by decide) (q53.k fun _ q54 => ?_);clear q53
      refine q54.t (.bool false) (ex_and (c := true) (b := true) (z := false) rfl (q54.a 120 rfl) (q54.a 125 rfl) rfl) fun _ q55 => ?_;clear q54
      refine wpList_nil ?_
      go_upto_region 23 with fail
      refine wp_cond_false (q55.e (j := 126) rfl) ?_
      go_upto_region 23 with fail
      refine wp_region_lit ?_
      refine q55.t (.int .i64 (200 : Int)) (ex_move rfl (q55.e (j := 11) rfl)) fun _ q56 => ?_;clear q55
      refine q56.t (.int .i64 ((200 : Nat) : Int)) (ex_move rfl (q56.e (j := 12) rfl)) fun _ q57 => ?_;clear q56
      refine q57.t (.bool true) (ex_bin rfl (q57.e (j := 137) rfl) (q57.e (j := 138) rfl) (eqT20 _ _ (by omega) _)) fun _ q58 => ?_;clear q57
      refine q58.t (.bool true) (ex_move rfl (q58.e (j := 139) rfl)) fun _ q59 => ?_;clear q58
      refine vl ((true && (true == true))) (.slice none 0 0) (want_g rfl rfl (q59.a 140 rfl)) (fun hc => ex_move rfl (q59.e (j := 9) rfl)) rfl q59.z (by decide) (q59.k fun _ q60 => ?_);clear q59
      refine vl ((true && (true == true))) (.slice none 0 0) (want_g rfl rfl (q60.a 140 rfl)) (fun hc => ex_move rfl (q60.e (j := 10) rfl)) rfl q60.z (by decide) (q60.k fun _ q61 => ?_);clear q60
      refine vcallP (show Region.wanted _ _ = (true && (true == true)) from want_g rfl rfl (q61.a 140 rfl)) (ex_call rfl (by simp only [List.map_toArray, List.map_cons, List.map_nil, (q61.e (j := 141) rfl), (q61.e (j := 142) rfl), evc] <;> rfl) rfl) (sameJ20 ([] : List Hs) _ _ _ _ _ _ w3 (hN9.later d4) (hN9.later d4) (by omega)) rfl q61.z (by decide) ?_
      rintro e w6 ⟨rfl, bw6⟩
      refine ⟨_, rfl, q61.k fun _ q62 => ?_⟩;clear q61
      have zw6 := bw6.size
      have d7 : Below w.heap.size w w6 := d4.trans (bw6.mono d4.size)
      refine q62.t (.bool true) (ex_and (c := true) (b := true) (z := true) rfl (q62.a 140 rfl) (q62.a 143 rfl) rfl) fun _ q63 => ?_;clear q62
      refine q63.t (.bool true) (ex_assign rfl (q63.e (j := 144) rfl)) fun _ q64 => ?_;clear q63
      refine wpList_nil ?_
      go_upto_region 24 with fail
      refine wp_region_lit ?_
      refine q64.t (.int .i64 ((0 : Nat) : Int)) (ex_assign rfl rfl) fun _ q65 => ?_;clear q64
      have q65k := (((Rp.nil q65.z).cons (q65.a 9 rfl)).cons (q65.a 13 rfl)).cons (q65.a 14 rfl)
      refine wpList_nil ?_
      go_upto_region 25 with fail
      refine v_loop 14 0 (fun j T wr => ∃ D : List Hs, Rp T 156 [(14, gw true (.int .i64 ((j : Nat) : Int))), (13, gw true (.bool true)), (9, gw true (.slice none 0 0))] ∧ Hid (OwnY yH w.heap.size wr (.slice none 0 0) D ∧ D.length = 0 ∧ Below w.heap.size w wr)) (fun j T w h => by obtain ⟨_, h, _⟩ := h; exact h.a 14 rfl) ⟨([] : List Hs), q65k, (OwnY.nil yH w.heap.size w6), rfl, d7⟩ ?_
      intro j T wr hj hh
      obtain ⟨D, q300, HJ⟩ := hh
      obtain ⟨oD, hDl, dr⟩ := HJ.out
      clear HJ
      have zr := dr.size
      by_cases hit : j < 0
      · exact absurd hit (by omega)
      · go_upto_region 25 with fail
        refine wp_region_lit ?_
        refine q300.t (.int .i64 ((j : Nat) : Int)) (ex_move rfl (q300.e (j := 14) rfl)) fun _ q301 => ?_;clear q300
        refine q301.t (.slice none 0 0) (ex_move rfl (q301.e (j := 9) rfl)) fun _ q302 => ?_;clear q301
        refine q302.t (.int .i64 ((0 : Nat) : Int)) (ex_lenG rfl rfl Tryd.underlying44 (q302.e (j := 146) rfl)) fun _ q303 => ?_;clear q302
        refine q303.t (.bool false) (ex_bin rfl (q303.e (j := 145) rfl) (q303.e (j := 147) rfl) (ltF _ _ hit _)) fun _ q304 => ?_;clear q303
        refine wpList_nil ?_
        go_upto_region 28 with fail
        refine wp_cond_false (q304.e (j := 148) rfl) ?_
        go_upto_region 28 with fail
        refine wp_region_lit ?_
        refine q304.t (.bool true) (ex_move rfl (q304.e (j := 13) rfl)) fun _ q305 => ?_;clear q304
        refine q305.t (.bool true) (ex_assign rfl (q305.e (j := 155) rfl)) fun _ q306 => ?_;clear q305
        refine wpList_nil ?_
        go_wp2
        refine bodyPost_ret (results_tmp rfl _ _ _) rfl ?_
        rw [getD_of (q306.a 6 rfl)]
        exact ⟨rfl, dr⟩
    · refine q47.t (.bool false) (ex_bin (Y := .int .i64 ((0 : Nat) : Int)) rfl (q47.e (j := 118) rfl) rfl (geF20 _ _ (by omega) _)) fun _ q48 => ?_;clear q47
      refine q48.t (.bool false) (ex_move rfl (q48.e (j := 119) rfl)) fun _ q49 => ?_;clear q48
      refine vl ((true && (false == true))) (undef) (want_g rfl rfl (q49.a 120 rfl)) (fun hc => absurd hc (by decide)) rfl q49.z (by decide) (q49.k fun _ q50 => ?_);clear q49
      refine vl ((true && (false == true))) (undef) (want_g rfl rfl (q50.a 120 rfl)) (fun hc => absurd hc (by decide)) rfl q50.z (by decide) (q50.k fun _ q51 => ?_);clear q50
      refine vl ((true && (false == true))) (undef) (want_g rfl rfl (q51.a 120 rfl)) (fun hc => absurd hc (by decide)) rfl q51.z (by decide) (q51.k fun _ q52 => ?_);clear q51
      refine vl ((true && (false == true))) (undef) (want_g rfl rfl (q52.a 120 rfl)) (fun hc => absurd hc (by decide)) rfl q52.z (by decide) (q52.k fun _ q53 => ?_);clear q52
      refine vl ((true && (false == true))) (.bool false) (want_g rfl rfl (q53.a 120 rfl)) (fun hc => absurd hc (by decide)) rfl q53.z (by decide) (q53.k fun _ q54 => ?_);clear q53
      refine q54.t (.bool false) (ex_and (c := true) (b := false) (z := false) rfl (q54.a 120 rfl) (q54.a 125 rfl) rfl) fun _ q55 => ?_;clear q54
      refine wpList_nil ?_
      go_upto_region 23 with fail
      refine wp_cond_false (q55.e (j := 126) rfl) ?_
      go_upto_region 23 with fail
      refine wp_region_lit ?_
      refine q55.t (.int .i64 (200 : Int)) (ex_move rfl (q55.e (j := 11) rfl)) fun _ q56 => ?_;clear q55
      refine q56.t (.int .i64 ((200 : Nat) : Int)) (ex_move rfl (q56.e (j := 12) rfl)) fun _ q57 => ?_;clear q56
      refine q57.t (.bool true) (ex_bin rfl (q57.e (j := 137) rfl) (q57.e (j := 138) rfl) (eqT20 _ _ (by omega) _)) fun _ q58 => ?_;clear q57
      refine q58.t (.bool true) (ex_move rfl (q58.e (j := 139) rfl)) fun _ q59 => ?_;clear q58
      refine vl ((true && (true == true))) (.slice none 0 0) (want_g rfl rfl (q59.a 140 rfl)) (fun hc => ex_move rfl (q59.e (j := 9) rfl)) rfl q59.z (by decide) (q59.k fun _ q60 => ?_);clear q59
      refine vl ((true && (true == true))) (.slice none 0 0) (want_g rfl rfl (q60.a 140 rfl)) (fun hc => ex_move rfl (q60.e (j := 10) rfl)) rfl q60.z (by decide) (q60.k fun _ q61 => ?_);clear q60
      refine vcallP (show Region.wanted _ _ = (true && (true == true)) from want_g rfl rfl (q61.a 140 rfl)) (ex_call rfl (by simp only [List.map_toArray, List.map_cons, List.map_nil, (q61.e (j := 141) rfl), (q61.e (j := 142) rfl), evc] <;> rfl) rfl) (sameJ20 ([] : List Hs) _ _ _ _ _ _ w3 (hN9.later d4) (hN9.later d4) (by omega)) rfl q61.z (by decide) ?_
      rintro e w6 ⟨rfl, bw6⟩
      refine ⟨_, rfl, q61.k fun _ q62 => ?_⟩;clear q61
      have zw6 := bw6.size
      have d7 : Below w.heap.size w w6 := d4.trans (bw6.mono d4.size)
      refine q62.t (.bool true) (ex_and (c := true) (b := true) (z := true) rfl (q62.a 140 rfl) (q62.a 143 rfl) rfl) fun _ q63 => ?_;clear q62
      refine q63.t (.bool true) (ex_assign rfl (q63.e (j := 144) rfl)) fun _ q64 => ?_;clear q63
      refine wpList_nil ?_
      go_upto_region 24 with fail
      refine wp_region_lit ?_
      refine q64.t (.int .i64 ((0 : Nat) : Int)) (ex_assign rfl rfl) fun _ q65 => ?_;clear q64
      have q65k := (((Rp.nil q65.z).cons (q65.a 9 rfl)).cons (q65.a 13 rfl)).cons (q65.a 14 rfl)
      refine wpList_nil ?_
      go_upto_region 25 with fail
      refine v_loop 14 0 (fun j T wr => ∃ D : List Hs, Rp T 156 [(14, gw true (.int .i64 ((j : Nat) : Int))), (13, gw true (.bool true)), (9, gw true (.slice none 0 0))] ∧ Hid (OwnY yH w.heap.size wr (.slice none 0 0) D ∧ D.length = 0 ∧ Below w.heap.size w wr)) (fun j T w h => by obtain ⟨_, h, _⟩ := h; exact h.a 14 rfl) ⟨([] : List Hs), q65k, (OwnY.nil yH w.heap.size w6), rfl, d7⟩ ?_
      intro j T wr hj hh
      obtain ⟨D, q300, HJ⟩ := hh
      obtain ⟨oD, hDl, dr⟩ := HJ.out
      clear HJ
      have zr := dr.size
      by_cases hit : j < 0
      · exact absurd hit (by omega)
      · go_upto_region 25 with fail
        refine wp_region_lit ?_
        refine q300.t (.int .i64 ((j : Nat) : Int)) (ex_move rfl (q300.e (j := 14) rfl)) fun _ q301 => ?_;clear q300
        refine q301.t (.slice none 0 0) (ex_move rfl (q301.e (j := 9) rfl)) fun _ q302 => ?_;clear q301
        refine q302.t (.int .i64 ((0 : Nat) : Int)) (ex_lenG rfl rfl Tryd.underlying44 (q302.e (j := 146) rfl)) fun _ q303 => ?_;clear q302
        refine q303.t (.bool false) (ex_bin rfl (q303.e (j := 145) rfl) (q303.e (j := 147) rfl) (ltF _ _ hit _)) fun _ q304 => ?_;clear q303
        refine wpList_nil ?_
        go_upto_region 28 with fail
        refine wp_cond_false (q304.e (j := 148) rfl) ?_
        go_upto_region 28 with fail
        refine wp_region_lit ?_
        refine q304.t (.bool true) (ex_move rfl (q304.e (j := 13) rfl)) fun _ q305 => ?_;clear q304
        refine q305.t (.bool true) (ex_assign rfl (q305.e (j := 155) rfl)) fun _ q306 => ?_;clear q305
        refine wpList_nil ?_
        go_wp2
        refine bodyPost_ret (results_tmp rfl _ _ _) rfl ?_
        rw [getD_of (q306.a 6 rfl)]
        exact ⟨rfl, dr⟩
set_option maxHeartbeats 2000000 in
theorem does5_20 (l : List En) (a : Option Addr) (n c : Nat) (B9 q : Nat) (v : Value) (E : List Hs) (x : En) (A : Int) (B : Nat) (hB : B ≤ n) (w : World) (h : SlY yE w a n c l) (ht : TV w B9 q v (l.map lf) E) (hn : n ≤ 2932031007317) (hv : ∀ x ∈ l, x.o.v.size ≤ 140737488351232) :
    Calls Tryd.prog 8 #[.pointer (some ⟨q, 0, none⟩), .slice a n c, oval 5 x A (B : Int)] w fun e w' => e = .returned (.bool true) ∧ Below w.heap.size w w' := by
  have hln := h.len
  have hl9 := csJ_le ((l.map lf).take B) A
  rw [List.length_take, List.length_map] at hl9
  go_enter Tryd.func8, Tryd.ntmps8
  go_upto_region 0 with fail
  refine wp_region_lit ?_
  refine vl_gen (fun T => Rp T 156 [(2, gw true (oval 5 x A (B : Int))), (1, gw true (.slice a n c)), (0, gw true (.pointer (some ⟨q, 0, none⟩)))]) ((((Rp.nil rfl).cons rfl).cons rfl).cons rfl) (fun Z0 q0 => ?_)
  obtain ⟨w1, hw1⟩ : ∃ y, y = w.alloc (.cells (ocs 5 x A (B : Int)).toArray 31) := ⟨_, rfl⟩
  refine vw (.pointer (some ⟨w.heap.size, 0, none⟩)) w1 (want_none rfl) (ex_box18 rfl (q0.e (j := 2) rfl) (by rw [hw1]; exact bxO20 _ _ _ _ _)) rfl q0.z (by decide) (q0.k fun _ q1 => ?_);clear q0
  have Bw1 : BB w1 w.heap.size 31 (ocs 5 x A (B : Int)) := by rw [hw1]; exact BB.new _ _ _
  have bw1 : Below w.heap.size w w1 := by rw [hw1]; exact (Below.refl _ _).alloc (Nat.le_refl _) _
  have zw1 : w1.heap.size = w.heap.size + 1 := by rw [hw1]; exact World.size_alloc _ _
  clear hw1
  have d2 : Below w.heap.size w w1 := bw1
  refine q1.t (.bool false) (ex_assign rfl rfl) fun _ q2 => ?_;clear q1
  refine wpList_nil ?_
  go_upto_region 1 with fail
  refine wp_region_lit ?_
  refine q2.t (.pointer (some ⟨w.heap.size, 0, none⟩)) (ex_fa rfl (q2.e (j := 5) rfl) (faOp20 _ _ _ (.inl ⟨rfl, rfl⟩) _)) fun _ q3 => ?_;clear q2
  refine q3.t (.int .i64 (5 : Int)) (ex_ld rfl (q3.e (j := 15) rfl) Bw1.ldO0) fun _ q4 => ?_;clear q3
  refine wpList_nil ?_
  go_upto_region 2 with fail
  refine wp_region_lit ?_
  refine q4.t (.bool false) (ex_bin (Y := .int .i64 ((1 : Nat) : Int)) rfl (q4.e (j := 16) rfl) rfl (eqF20 _ _ (by omega) _)) fun _ q5 => ?_;clear q4
  refine q5.t (.bool false) (ex_assign rfl (q5.e (j := 18) rfl)) fun _ q6 => ?_;clear q5
  refine wpList_nil ?_
  go_upto_region 4 with fail
  refine wp_cond_false (q6.e (j := 17) rfl) ?_
  go_upto_region 4 with fail
  refine wp_region_lit ?_
  refine q6.t (.bool false) (ex_bin (Y := .int .i64 ((2 : Nat) : Int)) rfl (q6.e (j := 16) rfl) rfl (eqF20 _ _ (by omega) _)) fun _ q7 => ?_;clear q6
  refine q7.t (.bool false) (ex_assign rfl (q7.e (j := 25) rfl)) fun _ q8 => ?_;clear q7
  refine wpList_nil ?_
  go_upto_region 6 with fail
  refine wp_cond_false (q8.e (j := 24) rfl) ?_
  go_upto_region 6 with fail
  refine wp_region_lit ?_
  refine q8.t (.bool false) (ex_bin (Y := .int .i64 ((3 : Nat) : Int)) rfl (q8.e (j := 16) rfl) rfl (eqF20 _ _ (by omega) _)) fun _ q9 => ?_;clear q8
  refine q9.t (.bool false) (ex_assign rfl (q9.e (j := 32) rfl)) fun _ q10 => ?_;clear q9
  refine wpList_nil ?_
  go_upto_region 11 with fail
  refine wp_cond_false (q10.e (j := 31) rfl) ?_
  go_upto_region 11 with fail
  refine wp_region_lit ?_
  refine q10.t (.bool false) (ex_bin (Y := .int .i64 ((4 : Nat) : Int)) rfl (q10.e (j := 16) rfl) rfl (eqF20 _ _ (by omega) _)) fun _ q11 => ?_;clear q10
  refine q11.t (.bool false) (ex_assign rfl (q11.e (j := 69) rfl)) fun _ q12 => ?_;clear q11
  refine wpList_nil ?_
  go_upto_region 12 with fail
  refine wp_cond_false (q12.e (j := 68) rfl) ?_
  go_upto_region 12 with fail
  refine wp_region_lit ?_
  refine q12.t (.bool true) (ex_bin (Y := .int .i64 ((5 : Nat) : Int)) rfl (q12.e (j := 16) rfl) rfl (eqT20 _ _ (by omega) _)) fun _ q13 => ?_;clear q12
  refine q13.t (.bool true) (ex_assign rfl (q13.e (j := 70) rfl)) fun _ q14 => ?_;clear q13
  refine wpList_nil ?_
  go_upto_region 13 with fail
  refine wp_cond_true (q14.e (j := 68) rfl) ?_
  go_upto_region 13 with fail
  refine wp_region_lit ?_
  refine q14.t (.slice none 0 0) (ex_assign rfl rfl) fun _ q15 => ?_;clear q14
  refine q15.t (.slice none 0 0) (ex_assign rfl rfl) fun _ q16 => ?_;clear q15
  refine wpList_nil ?_
  go_upto_region 14 with fail
  refine wp_region_lit ?_
  refine q16.t (.int .i64 ((0 : Nat) : Int)) (ex_assign rfl rfl) fun _ q17 => ?_;clear q16
  refine wpList_nil ?_
  go_upto_region 15 with fail
  refine wp_region_lit ?_
  refine q17.t (.int .i64 ((200 : Nat) : Int)) (ex_assign rfl rfl) fun _ q18 => ?_;clear q17
  refine wpList_nil ?_
  go_upto_region 16 with fail
  refine wp_region_lit ?_
  refine q18.t (.pointer (some ⟨w.heap.size, 0, none⟩)) (ex_fa rfl (q18.e (j := 5) rfl) (faOp20 _ _ _ (.inl ⟨rfl, rfl⟩) _)) fun _ q19 => ?_;clear q18
  refine q19.t (.int .i64 (5 : Int)) (ex_ld rfl (q19.e (j := 71) rfl) Bw1.ldO0) fun _ q20 => ?_;clear q19
  refine q20.t (.bool false) (ex_bin (Y := .int .i64 ((4 : Nat) : Int)) rfl (q20.e (j := 72) rfl) rfl (eqF20 _ _ (by omega) _)) fun _ q21 => ?_;clear q20
  refine wpList_nil ?_
  go_upto_region 18 with fail
  refine wp_cond_false (q21.e (j := 73) rfl) ?_
  go_upto_region 18 with fail
  refine wp_region_lit ?_
  refine q21.t (.pointer (some ⟨q, 0, none⟩)) (ex_move rfl (q21.e (j := 0) rfl)) fun _ q22 => ?_;clear q21
  refine q22.t (.pointer (some ⟨w.heap.size, 6, none⟩)) (ex_fa rfl (q22.e (j := 5) rfl) (faOp20 _ _ _ (.inr (.inr (.inl ⟨rfl, rfl⟩))) _)) fun _ q23 => ?_;clear q22
  refine q23.t (.int .i64 (A : Int)) (ex_ld rfl (q23.e (j := 85) rfl) Bw1.ldO2) fun _ q24 => ?_;clear q23
  refine q24.t (.pointer (some ⟨w.heap.size, 7, none⟩)) (ex_fa rfl (q24.e (j := 5) rfl) (faOp20 _ _ _ (.inr (.inr (.inr ⟨rfl, rfl⟩))) _)) fun _ q25 => ?_;clear q24
  refine q25.t (.int .i64 ((B : Nat) : Int)) (ex_ld rfl (q25.e (j := 87) rfl) Bw1.ldO3) fun _ q26 => ?_;clear q25
  refine vcallP (want_none rfl) (ex_call rfl (by simp only [List.map_toArray, List.map_cons, List.map_nil, (q26.e (j := 84) rfl), (q26.e (j := 86) rfl), (q26.e (j := 88) rfl), evc] <;> rfl) rfl) (tcons20 (.pointer (some ⟨q, 0, none⟩)) (l.map lf) A B (by simp; omega) (by rw [List.length_map]; omega) w1 (ht.later (d2)).rc (by rw [List.length_map]; omega)) rfl q26.z (by decide) ?_
  rintro e w3 ⟨v8, rfl, o8, bw3⟩
  refine ⟨_, rfl, q26.k fun _ q27 => ?_⟩;clear q26
  have zw3 := bw3.size
  have d4 : Below w.heap.size w w3 := d2.trans (bw3.mono d2.size)
  obtain ⟨a8, c8, hv8, s8, _⟩ := o8.sl kH
  subst hv8
  have o8 := o8.low (B' := w.heap.size) (by omega)
  refine q27.t (.tuple #[.slice a8 ((csR ((l.map lf).take B) A).1.length) c8, .int .i64 ((csR ((l.map lf).take B) A).2 : Int)]) (ex_move rfl (q27.e (j := 89) rfl)) fun _ q28 => ?_;clear q27
  refine q28.t (.slice a8 ((csR ((l.map lf).take B) A).1.length) c8) (ex_ext18 rfl (q28.e (j := 83) rfl) rfl) fun _ q29 => ?_;clear q28
  refine q29.t (.int .i64 ((csR ((l.map lf).take B) A).2 : Int)) (ex_ext18 rfl (q29.e (j := 83) rfl) rfl) fun _ q30 => ?_;clear q29
  refine q30.t (.slice a8 ((csR ((l.map lf).take B) A).1.length) c8) (ex_assign rfl (q30.e (j := 90) rfl)) fun _ q31 => ?_;clear q30
  refine q31.t (.int .i64 ((csR ((l.map lf).take B) A).2 : Int)) (ex_assign rfl (q31.e (j := 91) rfl)) fun _ q32 => ?_;clear q31
  refine wpList_nil ?_
  go_upto_region 19 with fail
  refine wp_region_lit ?_
  refine q32.t (.pointer (some ⟨w.heap.size, 7, none⟩)) (ex_fa rfl (q32.e (j := 5) rfl) (faOp20 _ _ _ (.inr (.inr (.inr ⟨rfl, rfl⟩))) _)) fun _ q33 => ?_;clear q32
  have B5 : BB w3 w.heap.size 31 (ocs 5 x A (B : Int)) := (Bw1.later bw3)
  refine q33.t (.int .i64 ((B : Nat) : Int)) (ex_ld rfl (q33.e (j := 92) rfl) B5.ldO3) fun _ q34 => ?_;clear q33
  refine q34.t (.bool true) (ex_bin (Y := .int .i64 ((0 : Nat) : Int)) rfl (q34.e (j := 93) rfl) rfl (geT20 _ _ (by omega) _)) fun _ q35 => ?_;clear q34
  refine q35.t (.bool true) (ex_move rfl (q35.e (j := 94) rfl)) fun _ q36 => ?_;clear q35
  refine vl ((true && (true == true))) (.pointer (some ⟨w.heap.size, 7, none⟩)) (want_g rfl rfl (q36.a 95 rfl)) (fun hc => ex_fa rfl (q36.e (j := 5) rfl) (faOp20 _ _ _ (.inr (.inr (.inr ⟨rfl, rfl⟩))) _)) rfl q36.z (by decide) (q36.k fun _ q37 => ?_);clear q36
  refine vl ((true && (true == true))) (.int .i64 ((B : Nat) : Int)) (want_g rfl rfl (q37.a 95 rfl)) (fun hc => ex_ld rfl (ev (q37.a 96 rfl) hc) B5.ldO3) rfl q37.z (by decide) (q37.k fun _ q38 => ?_);clear q37
  refine vl ((true && (true == true))) (.slice a n c) (want_g rfl rfl (q38.a 95 rfl)) (fun hc => ex_move rfl (q38.e (j := 1) rfl)) rfl q38.z (by decide) (q38.k fun _ q39 => ?_);clear q38
  refine vl ((true && (true == true))) (.int .i64 ((n : Nat) : Int)) (want_g rfl rfl (q39.a 95 rfl)) (fun hc => ex_lenG rfl rfl Tryd.underlying25 (ev (q39.a 98 rfl) hc)) rfl q39.z (by decide) (q39.k fun _ q40 => ?_);clear q39
  refine vl ((true && (true == true))) (.bool true) (want_g rfl rfl (q40.a 95 rfl)) (fun hc => ex_bin rfl (ev (q40.a 97 rfl) hc) (ev (q40.a 99 rfl) hc) (leT20 _ _ (by omega) _)) rfl q40.z (by decide) (q40.k fun _ q41 => ?_);clear q40
  refine q41.t (.bool true) (ex_and (c := true) (b := true) (z := true) rfl (q41.a 95 rfl) (q41.a 100 rfl) rfl) fun _ q42 => ?_;clear q41
  refine q42.t (.bool true) (ex_move rfl (q42.e (j := 101) rfl)) fun _ q43 => ?_;clear q42
  refine vl ((true && (true == true))) (.pointer (some ⟨w.heap.size, 0, none⟩)) (want_g rfl rfl (q43.a 102 rfl)) (fun hc => ex_fa rfl (q43.e (j := 5) rfl) (faOp20 _ _ _ (.inl ⟨rfl, rfl⟩) _)) rfl q43.z (by decide) (q43.k fun _ q44 => ?_);clear q43
  refine vl ((true && (true == true))) (.int .i64 (5 : Int)) (want_g rfl rfl (q44.a 102 rfl)) (fun hc => ex_ld rfl (ev (q44.a 103 rfl) hc) B5.ldO0) rfl q44.z (by decide) (q44.k fun _ q45 => ?_);clear q44
  refine vl ((true && (true == true))) (.bool false) (want_g rfl rfl (q45.a 102 rfl)) (fun hc => ex_bin (Y := .int .i64 ((4 : Nat) : Int)) rfl (ev (q45.a 104 rfl) hc) rfl (eqF20 _ _ (by omega) _)) rfl q45.z (by decide) (q45.k fun _ q46 => ?_);clear q45
  refine q46.t (.bool false) (ex_and (c := true) (b := true) (z := false) rfl (q46.a 102 rfl) (q46.a 105 rfl) rfl) fun _ q47 => ?_;clear q46
  refine wpList_nil ?_
  go_upto_region 21 with fail
  refine wp_cond_false (q47.e (j := 106) rfl) ?_
  go_upto_region 21 with fail
  refine wp_region_lit ?_
  refine q47.t (.pointer (some ⟨w.heap.size, 7, none⟩)) (ex_fa rfl (q47.e (j := 5) rfl) (faOp20 _ _ _ (.inr (.inr (.inr ⟨rfl, rfl⟩))) _)) fun _ q48 => ?_;clear q47
  refine q48.t (.int .i64 ((B : Nat) : Int)) (ex_ld rfl (q48.e (j := 117) rfl) B5.ldO3) fun _ q49 => ?_;clear q48
  refine q49.t (.bool true) (ex_bin (Y := .int .i64 ((0 : Nat) : Int)) rfl (q49.e (j := 118) rfl) rfl (geT20 _ _ (by omega) _)) fun _ q50 => ?_;clear q49
  refine q50.t (.bool true) (ex_move rfl (q50.e (j := 119) rfl)) fun _ q51 => ?_;clear q50
  refine vl ((true && (true == true))) (.pointer (some ⟨w.heap.size, 7, none⟩)) (want_g rfl rfl (q51.a 120 rfl)) (fun hc => ex_fa rfl (q51.e (j := 5) rfl) (faOp20 _ _ _ (.inr (.inr (.inr ⟨rfl, rfl⟩))) _)) rfl q51.z (by decide) (q51.k fun _ q52 => ?_);clear q51
  refine vl ((true && (true == true))) (.int .i64 ((B : Nat) : Int)) (want_g rfl rfl (q52.a 120 rfl)) (fun hc => ex_ld rfl (ev (q52.a 121 rfl) hc) B5.ldO3) rfl q52.z (by decide) (q52.k fun _ q53 => ?_);clear q52
  refine vl ((true && (true == true))) (.slice a n c) (want_g rfl rfl (q53.a 120 rfl)) (fun hc => ex_move rfl (q53.e (j := 1) rfl)) rfl q53.z (by decide) (q53.k fun _ q54 => ?_);clear q53
  refine vl ((true && (true == true))) (.int .i64 ((n : Nat) : Int)) (want_g rfl rfl (q54.a 120 rfl)) (fun hc => ex_lenG rfl rfl Tryd.underlying25 (ev (q54.a 123 rfl) hc)) rfl q54.z (by decide) (q54.k fun _ q55 => ?_);clear q54
  refine vl ((true && (true == true))) (.bool true) (want_g rfl rfl (q55.a 120 rfl)) (fun hc => ex_bin rfl (ev (q55.a 122 rfl) hc) (ev (q55.a 124 rfl) hc) (leT20 _ _ (by omega) _)) rfl q55.z (by decide) (q55.k fun _ q56 => ?_);clear q55
  refine q56.t (.bool true) (ex_and (c := true) (b := true) (z := true) rfl (q56.a 120 rfl) (q56.a 125 rfl) rfl) fun _ q57 => ?_;clear q56
  refine wpList_nil ?_
  go_upto_region 22 with fail
  refine wp_cond_true (q57.e (j := 126) rfl) ?_
  go_upto_region 22 with fail
  have hsl := (h.later d4)
  refine vg_start (fun k => false) (fun v => BB v w.heap.size 31 (ocs 5 x A (B : Int))) (by kernel_rfl) ?_
  have hy0 : Below w3.heap.size w3 w3.drew := (Below.refl _ _).drew
  have hzy0 : w3.drew.heap.size = w3.heap.size := rfl
  generalize w3.drew = y0 at *
  have OB2 := B5.later hy0
  have sT := (hsl.later hy0).take B hB
  refine vg_takeW 0 true (.slice a n c) rfl (by kernel_rfl) (by kernel_rfl) (by kernel_rfl) (by kernel_rfl) (want_none rfl) (fun hc v => ex_move rfl (q57.e (j := 1) rfl)) rfl q57.z (by decide) (fun _ => OB2) (q57.k fun _ q58 => ?_);clear q57
  refine vg_takeW 1 true (.pointer (some ⟨w.heap.size, 7, none⟩)) rfl (by kernel_rfl) (by kernel_rfl) (by kernel_rfl) (by kernel_rfl) (want_none rfl) (fun hc v => ex_fa rfl (q58.e (j := 5) rfl) (faOp20 _ _ _ (.inr (.inr (.inr ⟨rfl, rfl⟩))) _)) rfl q58.z (by decide) (fun _ => OB2) (q58.k fun _ q59 => ?_);clear q58
  refine vg_take 2 true (.int .i64 ((B : Nat) : Int)) rfl (by kernel_rfl) (by kernel_rfl) (by kernel_rfl) (by kernel_rfl) (by kernel_rfl) (by kernel_rfl) (want_none rfl) (fun hc v hv => ex_ld rfl (q59.e (j := 129) rfl) hv.ldO3) rfl q59.z (by decide) OB2 (q59.k fun _ q60 => ?_);clear q59
  refine vg_takeW 3 true (.slice a B c) rfl (by kernel_rfl) (by kernel_rfl) (by kernel_rfl) (by kernel_rfl) (want_none rfl) (fun hc v => ex_sl19 rfl (q60.e (j := 128) rfl) rfl (congrArg some (q60.e (j := 130) rfl)) rfl (slToE20A a n c B hB h.cap (fun e => (h.nil e).2) _)) rfl q60.z (by decide) (fun _ => OB2) (q60.k fun _ q61 => ?_);clear q60
  refine vg_takeW 4 true (.pointer (some ⟨w.heap.size, 6, none⟩)) rfl (by kernel_rfl) (by kernel_rfl) (by kernel_rfl) (by kernel_rfl) (want_none rfl) (fun hc v => ex_fa rfl (q61.e (j := 5) rfl) (faOp20 _ _ _ (.inr (.inr (.inl ⟨rfl, rfl⟩))) _)) rfl q61.z (by decide) (fun _ => OB2) (q61.k fun _ q62 => ?_);clear q61
  refine vg_take 5 true (.int .i64 A) rfl (by kernel_rfl) (by kernel_rfl) (by kernel_rfl) (by kernel_rfl) (by kernel_rfl) (by kernel_rfl) (want_none rfl) (fun hc v hv => ex_ld rfl (q62.e (j := 132) rfl) hv.ldO2) rfl q62.z (by decide) OB2 (q62.k fun _ q63 => ?_);clear q62
  refine vg_call 6 rfl (by kernel_rfl) (want_none rfl) (ex_call rfl (by simp only [List.map_toArray, List.map_cons, List.map_nil, (q63.e (j := 131) rfl), (q63.e (j := 133) rfl), evc] <;> rfl) rfl) (rcons20 _ _ _ _ A _ sT (by omega) (fun x hx => hv x (List.mem_of_mem_take hx))) rfl q63.z (by decide) ?_
  rintro e d1 ⟨v7, rfl, o7, b7⟩
  have z7 := b7.size
  have e7 : (l.take B).map lf = (l.map lf).take B := List.map_take
  rw [e7] at o7
  obtain ⟨a7, c7, hv7, s7, _⟩ := o7.sl kH
  subst hv7
  have OB3 := OB2.later b7
  refine ⟨_, rfl, OB2.later b7, q63.k fun _ q64 => ?_⟩;clear q63
  rw [e7] at q64
  refine vg_takeW 7 true (.tuple #[.slice a7 (csR ((l.map lf).take B) A).1.length c7, .int .i64 (csR ((l.map lf).take B) A).2]) rfl (by kernel_rfl) (by kernel_rfl) (by kernel_rfl) (by kernel_rfl) (want_none rfl) (fun hc v => ex_move rfl (q64.e (j := 134) rfl)) rfl q64.z (by decide) (fun _ => OB3) (q64.k fun _ q65 => ?_);clear q64
  refine vg_takeW 8 true (.slice a7 (csR ((l.map lf).take B) A).1.length c7) rfl (by kernel_rfl) (by kernel_rfl) (by kernel_rfl) (by kernel_rfl) (want_none rfl) (fun hc v => ex_ext18 rfl (q65.e (j := 127) rfl) rfl) rfl q65.z (by decide) (fun _ => OB3) (q65.k fun _ q66 => ?_);clear q65
  refine vg_takeW 10 true (.slice a7 (csR ((l.map lf).take B) A).1.length c7) rfl (by kernel_rfl) (by kernel_rfl) (by kernel_rfl) (by kernel_rfl) (want_none rfl) (fun hc v => ex_assign rfl (q66.e (j := 135) rfl)) rfl q66.z (by decide) (fun _ => OB3) (q66.k fun _ q67 => ?_);clear q66
  refine vg_takeW 9 true (.int .i64 ((csR ((l.map lf).take B) A).2 : Int)) rfl (by kernel_rfl) (by kernel_rfl) (by kernel_rfl) (by kernel_rfl) (want_none rfl) (fun hc v => ex_ext18 rfl (q67.e (j := 127) rfl) rfl) rfl q67.z (by decide) (fun _ => OB3) (q67.k fun _ q68 => ?_);clear q67
  refine vg_takeW 11 true (.int .i64 ((csR ((l.map lf).take B) A).2 : Int)) rfl (by kernel_rfl) (by kernel_rfl) (by kernel_rfl) (by kernel_rfl) (want_none rfl) (fun hc v => ex_assign rfl (q68.e (j := 136) rfl)) rfl q68.z (by decide) (fun _ => OB3) (q68.k fun _ q69 => ?_);clear q68
  refine vg_done (by kernel_rfl) ?_
  have d6 : Below w.heap.size w y0 := d4.trans (hy0.mono d4.size)
  have d7 : Below w.heap.size w d1 := d6.trans (b7.mono d6.size)
  go_upto_region 23 with fail
  refine wp_region_lit ?_
  refine q69.t (.int .i64 ((csR ((l.map lf).take B) A).2 : Int)) (ex_move rfl (q69.e (j := 11) rfl)) fun _ q70 => ?_;clear q69
  refine q70.t (.int .i64 ((csR ((l.map lf).take B) A).2 : Int)) (ex_move rfl (q70.e (j := 12) rfl)) fun _ q71 => ?_;clear q70
  refine q71.t (.bool true) (ex_bin rfl (q71.e (j := 137) rfl) (q71.e (j := 138) rfl) (eqT20 _ _ (by omega) _)) fun _ q72 => ?_;clear q71
  refine q72.t (.bool true) (ex_move rfl (q72.e (j := 139) rfl)) fun _ q73 => ?_;clear q72
  refine vl ((true && (true == true))) (.slice a8 ((csR ((l.map lf).take B) A).1.length) c8) (want_g rfl rfl (q73.a 140 rfl)) (fun hc => ex_move rfl (q73.e (j := 9) rfl)) rfl q73.z (by decide) (q73.k fun _ q74 => ?_);clear q73
  refine vl ((true && (true == true))) (.slice a7 ((csR ((l.map lf).take B) A).1.length) c7) (want_g rfl rfl (q74.a 140 rfl)) (fun hc => ex_move rfl (q74.e (j := 10) rfl)) rfl q74.z (by decide) (q74.k fun _ q75 => ?_);clear q74
  refine vcallP (show Region.wanted _ _ = (true && (true == true)) from want_g rfl rfl (q75.a 140 rfl)) (ex_call rfl (by simp only [List.map_toArray, List.map_cons, List.map_nil, (q75.e (j := 141) rfl), (q75.e (j := 142) rfl), evc] <;> rfl) rfl) (sameJ20 (csR ((l.map lf).take B) A).1 _ _ _ _ _ _ d1 ((s8.later hy0).later b7) s7 (by omega)) rfl q75.z (by decide) ?_
  rintro e w8 ⟨rfl, bw8⟩
  refine ⟨_, rfl, q75.k fun _ q76 => ?_⟩;clear q75
  have zw8 := bw8.size
  have d9 : Below w.heap.size w w8 := d7.trans (bw8.mono d7.size)
  refine q76.t (.bool true) (ex_and (c := true) (b := true) (z := true) rfl (q76.a 140 rfl) (q76.a 143 rfl) rfl) fun _ q77 => ?_;clear q76
  refine q77.t (.bool true) (ex_assign rfl (q77.e (j := 144) rfl)) fun _ q78 => ?_;clear q77
  refine wpList_nil ?_
  go_upto_region 24 with fail
  refine wp_region_lit ?_
  refine q78.t (.int .i64 ((0 : Nat) : Int)) (ex_assign rfl rfl) fun _ q79 => ?_;clear q78
  have q79k := (((Rp.nil q79.z).cons (q79.a 9 rfl)).cons (q79.a 13 rfl)).cons (q79.a 14 rfl)
  refine wpList_nil ?_
  go_upto_region 25 with fail
  refine v_loop 14 ((csR ((l.map lf).take B) A).1.length) (fun j T wr => ∃ D : List Hs, Rp T 156 [(14, gw true (.int .i64 ((j : Nat) : Int))), (13, gw true (.bool true)), (9, gw true (.slice a8 ((csR ((l.map lf).take B) A).1.length) c8))] ∧ Hid (OwnY yH w.heap.size wr (.slice a8 ((csR ((l.map lf).take B) A).1.length) c8) D ∧ D.length = (csR ((l.map lf).take B) A).1.length ∧ Below w.heap.size w wr)) (fun j T w h => by obtain ⟨_, h, _⟩ := h; exact h.a 14 rfl) ⟨(csR ((l.map lf).take B) A).1, q79k, (((o8.grow hy0).grow b7).grow bw8), rfl, d9⟩ ?_
  intro j T wr hj hh
  obtain ⟨D, q300, HJ⟩ := hh
  obtain ⟨oD, hDl, dr⟩ := HJ.out
  clear HJ
  have zr := dr.size
  by_cases hit : j < (csR ((l.map lf).take B) A).1.length
  · obtain ⟨g9, hg9⟩ : ∃ g, (.slice a8 ((csR ((l.map lf).take B) A).1.length) c8 : Value) = .slice (some ⟨g, 0, none⟩) ((csR ((l.map lf).take B) A).1.length) c8 := by
      obtain ⟨a9, c9, h1, _, _, h5, h6⟩ := oD.form
      cases a9 with
      | none => have := (h5 rfl).1; rw [this] at hDl; simp at hDl; omega
      | some z => obtain ⟨g, e, _, _⟩ := h6 z rfl; subst e; injection h1 with e1 e2 e3; exact ⟨g, by rw [e1]⟩
    rw [hg9] at oD
    have HG := hide hg9
    clear hg9
    go_upto_region 25 with fail
    refine wp_region_lit ?_
    refine q300.t (.int .i64 ((j : Nat) : Int)) (ex_move rfl (q300.e (j := 14) rfl)) fun _ q301 => ?_;clear q300
    refine q301.t (.slice a8 ((csR ((l.map lf).take B) A).1.length) c8) (ex_move rfl (q301.e (j := 9) rfl)) fun _ q302 => ?_;clear q301
    refine q302.t (.int .i64 (((csR ((l.map lf).take B) A).1.length : Nat) : Int)) (ex_lenG rfl rfl Tryd.underlying44 (q302.e (j := 146) rfl)) fun _ q303 => ?_;clear q302
    refine q303.t (.bool true) (ex_bin rfl (q303.e (j := 145) rfl) (q303.e (j := 147) rfl) (ltT _ _ hit _)) fun _ q304 => ?_;clear q303
    refine wpList_nil ?_
    go_upto_region 27 with fail
    refine wp_cond_true (q304.e (j := 148) rfl) ?_
    go_upto_region 27 with fail
    refine wp_region_lit ?_
    have q304g := q304.a 9 rfl
    rw [HG.out] at q304g
    refine q304.t (.slice (some ⟨g9, 0, none⟩) ((csR ((l.map lf).take B) A).1.length) c8) (ex_move rfl (ev q304g rfl)) fun _ q305 => ?_;clear q304
    refine q305.t (.int .i64 ((j : Nat) : Int)) (ex_move rfl (q305.e (j := 14) rfl)) fun _ q306 => ?_;clear q305
    refine q306.t (m9z.val) (ex_buildP18 (P := #[(0, .int .u8 9)]) rfl (by simp only [List.map_toArray, List.map_cons, List.map_nil, evc] <;> rfl) (bd9z _)) fun _ q307 => ?_;clear q306
    refine q307.t (.pointer (some ⟨g9, j * 32, none⟩)) (ex_ix rfl (q307.e (j := 151) rfl) (q307.e (j := 152) rfl) (ixH0 g9 ((csR ((l.map lf).take B) A).1.length) c8 j hit _)) fun _ q308 => ?_;clear q307
    obtain ⟨w9, hst, o9, u9, hz9⟩ := run_stH wr w.heap.size g9 ((csR ((l.map lf).take B) A).1.length) c8 D j m9z (by omega) oD
    have hgl := (oD.blk g9 rfl).1
    refine vs w9 (want_none rfl) (ex_st rfl (q308.e (j := 154) rfl) (q308.e (j := 153) rfl) hst) rfl ?_
    refine wpList_nil ?_
    go_upto_region 26 with fail
    refine wp_region_lit ?_
    refine q308.t (.int .i64 ((j : Nat) : Int)) (ex_move rfl (q308.e (j := 14) rfl)) fun _ q309 => ?_;clear q308
    refine q309.t (.int .i64 ((j + 1 : Nat) : Int)) (ex_bin rfl (q309.e (j := 149) rfl) rfl (add1C _ _ j (by omega) _)) fun _ q310 => ?_;clear q309
    refine q310.t (.int .i64 ((j + 1 : Nat) : Int)) (ex_assign rfl (q310.e (j := 150) rfl)) fun _ q311 => ?_;clear q310
    have q312 := ((((Rp.nil q311.z).cons (q311.a 9 rfl)).cons (q311.a 13 rfl)).cons (q311.a 14 rfl))
    clear q311
    refine wpList_nil ?_
    exact ⟨_, rfl, hit, _, q312, by rw [HG.out]; exact o9, by rw [List.length_set]; exact hDl, dr.trans (bel_ge u9 (by omega) hgl)⟩
  · go_upto_region 25 with fail
    refine wp_region_lit ?_
    refine q300.t (.int .i64 ((j : Nat) : Int)) (ex_move rfl (q300.e (j := 14) rfl)) fun _ q301 => ?_;clear q300
    refine q301.t (.slice a8 ((csR ((l.map lf).take B) A).1.length) c8) (ex_move rfl (q301.e (j := 9) rfl)) fun _ q302 => ?_;clear q301
    refine q302.t (.int .i64 (((csR ((l.map lf).take B) A).1.length : Nat) : Int)) (ex_lenG rfl rfl Tryd.underlying44 (q302.e (j := 146) rfl)) fun _ q303 => ?_;clear q302
    refine q303.t (.bool false) (ex_bin rfl (q303.e (j := 145) rfl) (q303.e (j := 147) rfl) (ltF _ _ hit _)) fun _ q304 => ?_;clear q303
    refine wpList_nil ?_
    go_upto_region 28 with fail
    refine wp_cond_false (q304.e (j := 148) rfl) ?_
    go_upto_region 28 with fail
    refine wp_region_lit ?_
    refine q304.t (.bool true) (ex_move rfl (q304.e (j := 13) rfl)) fun _ q305 => ?_;clear q304
    refine q305.t (.bool true) (ex_assign rfl (q305.e (j := 155) rfl)) fun _ q306 => ?_;clear q305
    refine wpList_nil ?_
    go_wp2
    refine bodyPost_ret (results_tmp rfl _ _ _) rfl ?_
    rw [getD_of (q306.a 6 rfl)]
    exact ⟨rfl, dr⟩
set_option maxHeartbeats 2000000 in
theorem does5B_20 (l : List En) (a : Option Addr) (n c : Nat) (B9 q : Nat) (v : Value) (E : List Hs) (x : En) (A B : Int) (hB : B < 0 ∨ (n : Int) < B) (w : World) (h : SlY yE w a n c l) (ht : TV w B9 q v (l.map lf) E) (hn : n ≤ 2932031007317) (hv : ∀ x ∈ l, x.o.v.size ≤ 140737488351232) :
    Calls Tryd.prog 8 #[.pointer (some ⟨q, 0, none⟩), .slice a n c, oval 5 x A B] w fun e w' => e = .returned (.bool true) ∧ Below w.heap.size w w' := by
  have hln := h.len
  have hN9 : SlY yH w none 0 0 ([] : List Hs) := (OwnY.nil yH w.heap.size w).sl' kH
  go_enter Tryd.func8, Tryd.ntmps8
  go_upto_region 0 with fail
  refine wp_region_lit ?_
  refine vl_gen (fun T => Rp T 156 [(2, gw true (oval 5 x A B)), (1, gw true (.slice a n c)), (0, gw true (.pointer (some ⟨q, 0, none⟩)))]) ((((Rp.nil rfl).cons rfl).cons rfl).cons rfl) (fun Z0 q0 => ?_)
  obtain ⟨w1, hw1⟩ : ∃ y, y = w.alloc (.cells (ocs 5 x A B).toArray 31) := ⟨_, rfl⟩
  refine vw (.pointer (some ⟨w.heap.size, 0, none⟩)) w1 (want_none rfl) (ex_box18 rfl (q0.e (j := 2) rfl) (by rw [hw1]; exact bxO20 _ _ _ _ _)) rfl q0.z (by decide) (q0.k fun _ q1 => ?_);clear q0
  have Bw1 : BB w1 w.heap.size 31 (ocs 5 x A B) := by rw [hw1]; exact BB.new _ _ _
  have bw1 : Below w.heap.size w w1 := by rw [hw1]; exact (Below.refl _ _).alloc (Nat.le_refl _) _
  have zw1 : w1.heap.size = w.heap.size + 1 := by rw [hw1]; exact World.size_alloc _ _
  clear hw1
  have d2 : Below w.heap.size w w1 := bw1
  refine q1.t (.bool false) (ex_assign rfl rfl) fun _ q2 => ?_;clear q1
  refine wpList_nil ?_
  go_upto_region 1 with fail
  refine wp_region_lit ?_
  refine q2.t (.pointer (some ⟨w.heap.size, 0, none⟩)) (ex_fa rfl (q2.e (j := 5) rfl) (faOp20 _ _ _ (.inl ⟨rfl, rfl⟩) _)) fun _ q3 => ?_;clear q2
  refine q3.t (.int .i64 (5 : Int)) (ex_ld rfl (q3.e (j := 15) rfl) Bw1.ldO0) fun _ q4 => ?_;clear q3
  refine wpList_nil ?_
  go_upto_region 2 with fail
  refine wp_region_lit ?_
  refine q4.t (.bool false) (ex_bin (Y := .int .i64 ((1 : Nat) : Int)) rfl (q4.e (j := 16) rfl) rfl (eqF20 _ _ (by omega) _)) fun _ q5 => ?_;clear q4
  refine q5.t (.bool false) (ex_assign rfl (q5.e (j := 18) rfl)) fun _ q6 => ?_;clear q5
  refine wpList_nil ?_
  go_upto_region 4 with fail
  refine wp_cond_false (q6.e (j := 17) rfl) ?_
  go_upto_region 4 with fail
  refine wp_region_lit ?_
  refine q6.t (.bool false) (ex_bin (Y := .int .i64 ((2 : Nat) : Int)) rfl (q6.e (j := 16) rfl) rfl (eqF20 _ _ (by omega) _)) fun _ q7 => ?_;clear q6
  refine q7.t (.bool false) (ex_assign rfl (q7.e (j := 25) rfl)) fun _ q8 => ?_;clear q7
  refine wpList_nil ?_
  go_upto_region 6 with fail
  refine wp_cond_false (q8.e (j := 24) rfl) ?_
  go_upto_region 6 with fail
  refine wp_region_lit ?_
  refine q8.t (.bool false) (ex_bin (Y := .int .i64 ((3 : Nat) : Int)) rfl (q8.e (j := 16) rfl) rfl (eqF20 _ _ (by omega) _)) fun _ q9 => ?_;clear q8
  refine q9.t (.bool false) (ex_assign rfl (q9.e (j := 32) rfl)) fun _ q10 => ?_;clear q9
  refine wpList_nil ?_
  go_upto_region 11 with fail
  refine wp_cond_false (q10.e (j := 31) rfl) ?_
  go_upto_region 11 with fail
  refine wp_region_lit ?_
  refine q10.t (.bool false) (ex_bin (Y := .int .i64 ((4 : Nat) : Int)) rfl (q10.e (j := 16) rfl) rfl (eqF20 _ _ (by omega) _)) fun _ q11 => ?_;clear q10
  refine q11.t (.bool false) (ex_assign rfl (q11.e (j := 69) rfl)) fun _ q12 => ?_;clear q11
  refine wpList_nil ?_
  go_upto_region 12 with fail
  refine wp_cond_false (q12.e (j := 68) rfl) ?_
  go_upto_region 12 with fail
  refine wp_region_lit ?_
  refine q12.t (.bool true) (ex_bin (Y := .int .i64 ((5 : Nat) : Int)) rfl (q12.e (j := 16) rfl) rfl (eqT20 _ _ (by omega) _)) fun _ q13 => ?_;clear q12
  refine q13.t (.bool true) (ex_assign rfl (q13.e (j := 70) rfl)) fun _ q14 => ?_;clear q13
  refine wpList_nil ?_
  go_upto_region 13 with fail
  refine wp_cond_true (q14.e (j := 68) rfl) ?_
  go_upto_region 13 with fail
  refine wp_region_lit ?_
  refine q14.t (.slice none 0 0) (ex_assign rfl rfl) fun _ q15 => ?_;clear q14
  refine q15.t (.slice none 0 0) (ex_assign rfl rfl) fun _ q16 => ?_;clear q15
  refine wpList_nil ?_
  go_upto_region 14 with fail
  refine wp_region_lit ?_
  refine q16.t (.int .i64 ((0 : Nat) : Int)) (ex_assign rfl rfl) fun _ q17 => ?_;clear q16
  refine wpList_nil ?_
  go_upto_region 15 with fail
  refine wp_region_lit ?_
  refine q17.t (.int .i64 ((200 : Nat) : Int)) (ex_assign rfl rfl) fun _ q18 => ?_;clear q17
  refine wpList_nil ?_
  go_upto_region 16 with fail
  refine wp_region_lit ?_
  refine q18.t (.pointer (some ⟨w.heap.size, 0, none⟩)) (ex_fa rfl (q18.e (j := 5) rfl) (faOp20 _ _ _ (.inl ⟨rfl, rfl⟩) _)) fun _ q19 => ?_;clear q18
  refine q19.t (.int .i64 (5 : Int)) (ex_ld rfl (q19.e (j := 71) rfl) Bw1.ldO0) fun _ q20 => ?_;clear q19
  refine q20.t (.bool false) (ex_bin (Y := .int .i64 ((4 : Nat) : Int)) rfl (q20.e (j := 72) rfl) rfl (eqF20 _ _ (by omega) _)) fun _ q21 => ?_;clear q20
  refine wpList_nil ?_
  go_upto_region 18 with fail
  refine wp_cond_false (q21.e (j := 73) rfl) ?_
  go_upto_region 18 with fail
  refine wp_region_lit ?_
  refine q21.t (.pointer (some ⟨q, 0, none⟩)) (ex_move rfl (q21.e (j := 0) rfl)) fun _ q22 => ?_;clear q21
  refine q22.t (.pointer (some ⟨w.heap.size, 6, none⟩)) (ex_fa rfl (q22.e (j := 5) rfl) (faOp20 _ _ _ (.inr (.inr (.inl ⟨rfl, rfl⟩))) _)) fun _ q23 => ?_;clear q22
  refine q23.t (.int .i64 (A : Int)) (ex_ld rfl (q23.e (j := 85) rfl) Bw1.ldO2) fun _ q24 => ?_;clear q23
  refine q24.t (.pointer (some ⟨w.heap.size, 7, none⟩)) (ex_fa rfl (q24.e (j := 5) rfl) (faOp20 _ _ _ (.inr (.inr (.inr ⟨rfl, rfl⟩))) _)) fun _ q25 => ?_;clear q24
  refine q25.t (.int .i64 (B : Int)) (ex_ld rfl (q25.e (j := 87) rfl) Bw1.ldO3) fun _ q26 => ?_;clear q25
  refine vcallP (want_none rfl) (ex_call rfl (by simp only [List.map_toArray, List.map_cons, List.map_nil, (q26.e (j := 84) rfl), (q26.e (j := 86) rfl), (q26.e (j := 88) rfl), evc] <;> rfl) rfl) (tconsB20 (.pointer (some ⟨q, 0, none⟩)) (l.map lf) A B (by simp; omega) w1 (ht.later (d2)).rc (by rw [List.length_map]; omega)) rfl q26.z (by decide) ?_
  rintro e w3 ⟨rfl, bw3⟩
  refine ⟨_, rfl, q26.k fun _ q27 => ?_⟩;clear q26
  have zw3 := bw3.size
  have d4 : Below w.heap.size w w3 := d2.trans (bw3.mono d2.size)
  refine q27.t (.tuple #[.slice none 0 0, .int .i64 (200 : Int)]) (ex_move rfl (q27.e (j := 89) rfl)) fun _ q28 => ?_;clear q27
  refine q28.t (.slice none 0 0) (ex_ext18 rfl (q28.e (j := 83) rfl) rfl) fun _ q29 => ?_;clear q28
  refine q29.t (.int .i64 (200 : Int)) (ex_ext18 rfl (q29.e (j := 83) rfl) rfl) fun _ q30 => ?_;clear q29
  refine q30.t (.slice none 0 0) (ex_assign rfl (q30.e (j := 90) rfl)) fun _ q31 => ?_;clear q30
  refine q31.t (.int .i64 (200 : Int)) (ex_assign rfl (q31.e (j := 91) rfl)) fun _ q32 => ?_;clear q31
  refine wpList_nil ?_
  go_upto_region 19 with fail
  refine wp_region_lit ?_
  refine q32.t (.pointer (some ⟨w.heap.size, 7, none⟩)) (ex_fa rfl (q32.e (j := 5) rfl) (faOp20 _ _ _ (.inr (.inr (.inr ⟨rfl, rfl⟩))) _)) fun _ q33 => ?_;clear q32
  have B5 : BB w3 w.heap.size 31 (ocs 5 x A B) := (Bw1.later bw3)
  refine q33.t (.int .i64 (B : Int)) (ex_ld rfl (q33.e (j := 92) rfl) B5.ldO3) fun _ q34 => ?_;clear q33
  by_cases hB0 : 0 ≤ B
  · refine q34.t (.bool true) (ex_bin (Y := .int .i64 ((0 : Nat) : Int)) rfl (q34.e (j := 93) rfl) rfl (geT20 _ _ (by omega) _)) fun _ q35 => ?_;clear q34
    refine q35.t (.bool true) (ex_move rfl (q35.e (j := 94) rfl)) fun _ q36 => ?_;clear q35
    refine vl ((true && (true == true))) (.pointer (some ⟨w.heap.size, 7, none⟩)) (want_g rfl rfl (q36.a 95 rfl)) (fun hc => ex_fa rfl (q36.e (j := 5) rfl) (faOp20 _ _ _ (.inr (.inr (.inr ⟨rfl, rfl⟩))) _)) rfl q36.z (by decide) (q36.k fun _ q37 => ?_);clear q36
    refine vl ((true && (true == true))) (.int .i64 (B : Int)) (want_g rfl rfl (q37.a 95 rfl)) (fun hc => ex_ld rfl (ev (q37.a 96 rfl) hc) B5.ldO3) rfl q37.z (by decide) (q37.k fun _ q38 => ?_);clear q37
    refine vl ((true && (true == true))) (.slice a n c) (want_g rfl rfl (q38.a 95 rfl)) (fun hc => ex_move rfl (q38.e (j := 1) rfl)) rfl q38.z (by decide) (q38.k fun _ q39 => ?_);clear q38
    refine vl ((true && (true == true))) (.int .i64 ((n : Nat) : Int)) (want_g rfl rfl (q39.a 95 rfl)) (fun hc => ex_lenG rfl rfl Tryd.underlying25 (ev (q39.a 98 rfl) hc)) rfl q39.z (by decide) (q39.k fun _ q40 => ?_);clear q39
    refine vl ((true && (true == true))) (.bool false) (want_g rfl rfl (q40.a 95 rfl)) (fun hc => ex_bin rfl (ev (q40.a 97 rfl) hc) (ev (q40.a 99 rfl) hc) (leF20 _ _ (by omega) _)) rfl q40.z (by decide) (q40.k fun _ q41 => ?_);clear q40
    refine q41.t (.bool false) (ex_and (c := true) (b := true) (z := false) rfl (q41.a 95 rfl) (q41.a 100 rfl) rfl) fun _ q42 => ?_;clear q41
    refine q42.t (.bool false) (ex_move rfl (q42.e (j := 101) rfl)) fun _ q43 => ?_;clear q42
    refine vl ((true && (false == true))) (undef) (want_g rfl rfl (q43.a 102 rfl)) (fun hc => absurd hc (by decide)) rfl q43.z (by decide) (q43.k fun _ q44 => ?_);clear q43
    refine vl ((true && (false == true))) (undef) (want_g rfl rfl (q44.a 102 rfl)) (fun hc => absurd hc (by decide)) rfl q44.z (by decide) (q44.k fun _ q45 => ?_);clear q44
    refine vl ((true && (false == true))) (.bool false) (want_g rfl rfl (q45.a 102 rfl)) (fun hc => absurd hc (by decide)) rfl q45.z (by decide) (q45.k fun _ q46 => ?_);clear q45
    refine q46.t (.bool false) (ex_and (c := true) (b := false) (z := false) rfl (q46.a 102 rfl) (q46.a 105 rfl) rfl) fun _ q47 => ?_;clear q46
    refine wpList_nil ?_
    go_upto_region 21 with fail
    refine wp_cond_false (q47.e (j := 106) rfl) ?_
    go_upto_region 21 with fail
    refine wp_region_lit ?_
    refine q47.t (.pointer (some ⟨w.heap.size, 7, none⟩)) (ex_fa rfl (q47.e (j := 5) rfl) (faOp20 _ _ _ (.inr (.inr (.inr ⟨rfl, rfl⟩))) _)) fun _ q48 => ?_;clear q47
    refine q48.t (.int .i64 (B : Int)) (ex_ld rfl (q48.e (j := 117) rfl) B5.ldO3) fun _ q49 => ?_;clear q48
    by_cases hB1 : 0 ≤ B
    · refine q49.t (.bool true) (ex_bin (Y := .int .i64 ((0 : Nat) : Int)) rfl (q49.e (j := 118) rfl) rfl (geT20 _ _ (by omega) _)) fun _ q50 => ?_;clear q49
      refine q50.t (.bool true) (ex_move rfl (q50.e (j := 119) rfl)) fun _ q51 => ?_;clear q50
      refine vl ((true && (true == true))) (.pointer (some ⟨w.heap.size, 7, none⟩)) (want_g rfl rfl (q51.a 120 rfl)) (fun hc => ex_fa rfl (q51.e (j := 5) rfl) (faOp20 _ _ _ (.inr (.inr (.inr ⟨rfl, rfl⟩))) _)) rfl q51.z (by decide) (q51.k fun _ q52 => ?_);clear q51
      refine vl ((true && (true == true))) (.int .i64 (B : Int)) (want_g rfl rfl (q52.a 120 rfl)) (fun hc => ex_ld rfl (ev (q52.a 121 rfl) hc) B5.ldO3) rfl q52.z (by decide) (q52.k fun _ q53 => ?_);clear q52
      refine vl ((true && (true == true))) (.slice a n c) (want_g rfl rfl (q53.a 120 rfl)) (fun hc => ex_move rfl (q53.e (j := 1) rfl)) rfl q53.z (by decide) (q53.k fun _ q54 => ?_);clear q53
      refine vl ((true && (true == true))) (.int .i64 ((n : Nat) : Int)) (want_g rfl rfl (q54.a 120 rfl)) (fun hc => ex_lenG rfl rfl Tryd.underlying25 (ev (q54.a 123 rfl) hc)) rfl q54.z (by decide) (q54.k fun _ q55 => ?_);clear q54
      refine vl ((true && (true == true))) (.bool false) (want_g rfl rfl (q55.a 120 rfl)) (fun hc => ex_bin rfl (ev (q55.a 122 rfl) hc) (ev (q55.a 124 rfl) hc) (leF20 _ _ (by omega) _)) rfl q55.z (by decide) (q55.k fun _ q56 => ?_);clear q55
      refine q56.t (.bool false) (ex_and (c := true) (b := true) (z := false) rfl (q56.a 120 rfl) (q56.a 125 rfl) rfl) fun _ q57 => ?_;clear q56
      refine wpList_nil ?_
      go_upto_region 23 with fail
      refine wp_cond_false (q57.e (j := 126) rfl) ?_
      go_upto_region 23 with fail
      refine wp_region_lit ?_
      refine q57.t (.int .i64 (200 : Int)) (ex_move rfl (q57.e (j := 11) rfl)) fun _ q58 => ?_;clear q57
      refine q58.t (.int .i64 ((200 : Nat) : Int)) (ex_move rfl (q58.e (j := 12) rfl)) fun _ q59 => ?_;clear q58
      refine q59.t (.bool true) (ex_bin rfl (q59.e (j := 137) rfl) (q59.e (j := 138) rfl) (eqT20 _ _ (by omega) _)) fun _ q60 => ?_;clear q59
      refine q60.t (.bool true) (ex_move rfl (q60.e (j := 139) rfl)) fun _ q61 => ?_;clear q60
      refine vl ((true && (true == true))) (.slice none 0 0) (want_g rfl rfl (q61.a 140 rfl)) (fun hc => ex_move rfl (q61.e (j := 9) rfl)) rfl q61.z (by decide) (q61.k fun _ q62 => ?_);clear q61
      refine vl ((true && (true == true))) (.slice none 0 0) (want_g rfl rfl (q62.a 140 rfl)) (fun hc => ex_move rfl (q62.e (j := 10) rfl)) rfl q62.z (by decide) (q62.k fun _ q63 => ?_);clear q62
      refine vcallP (show Region.wanted _ _ = (true && (true == true)) from want_g rfl rfl (q63.a 140 rfl)) (ex_call rfl (by simp only [List.map_toArray, List.map_cons, List.map_nil, (q63.e (j := 141) rfl), (q63.e (j := 142) rfl), evc] <;> rfl) rfl) (sameJ20 ([] : List Hs) _ _ _ _ _ _ w3 (hN9.later d4) (hN9.later d4) (by omega)) rfl q63.z (by decide) ?_
      rintro e w6 ⟨rfl, bw6⟩
      refine ⟨_, rfl, q63.k fun _ q64 => ?_⟩;clear q63
      have zw6 := bw6.size
      have d7 : Below w.heap.size w w6 := d4.trans (bw6.mono d4.size)
      refine q64.t (.bool true) (ex_and (c := true) (b := true) (z := true) rfl (q64.a 140 rfl) (q64.a 143 rfl) rfl) fun _ q65 => ?_;clear q64
      refine q65.t (.bool true) (ex_assign rfl (q65.e (j := 144) rfl)) fun _ q66 => ?_;clear q65
      refine wpList_nil ?_
      go_upto_region 24 with fail
      refine wp_region_lit ?_
      refine q66.t (.int .i64 ((0 : Nat) : Int)) (ex_assign rfl rfl) fun _ q67 => ?_;clear q66
      have q67k := (((Rp.nil q67.z).cons (q67.a 9 rfl)).cons (q67.a 13 rfl)).cons (q67.a 14 rfl)
      refine wpList_nil ?_
      go_upto_region 25 with fail
      refine v_loop 14 0 (fun j T wr => ∃ D : List Hs, Rp T 156 [(14, gw true (.int .i64 ((j : Nat) : Int))), (13, gw true (.bool true)), (9, gw true (.slice none 0 0))] ∧ Hid (OwnY yH w.heap.size wr (.slice none 0 0) D ∧ D.length = 0 ∧ Below w.heap.size w wr)) (fun j T w h => by obtain ⟨_, h, _⟩ := h; exact h.a 14 rfl) ⟨([] : List Hs), q67k, (OwnY.nil yH w.heap.size w6), rfl, d7⟩ ?_
      intro j T wr hj hh
      obtain ⟨D, q300, HJ⟩ := hh
      obtain ⟨oD, hDl, dr⟩ := HJ.out
      clear HJ
      have zr := dr.size
      by_cases hit : j < 0
      · exact absurd hit (by omega)
      · go_upto_region 25 with fail
        refine wp_region_lit ?_
        refine q300.t (.int .i64 ((j : Nat) : Int)) (ex_move rfl (q300.e (j := 14) rfl)) fun _ q301 => ?_;clear q300
        refine q301.t (.slice none 0 0) (ex_move rfl (q301.e (j := 9) rfl)) fun _ q302 => ?_;clear q301
        refine q302.t (.int .i64 ((0 : Nat) : Int)) (ex_lenG rfl rfl Tryd.underlying44 (q302.e (j := 146) rfl)) fun _ q303 => ?_;clear q302
        refine q303.t (.bool false) (ex_bin rfl (q303.e (j := 145) rfl) (q303.e (j := 147) rfl) (ltF _ _ hit _)) fun _ q304 => ?_;clear q303
        refine wpList_nil ?_
        go_upto_region 28 with fail
        refine wp_cond_false (q304.e (j := 148) rfl) ?_
        go_upto_region 28 with fail
        refine wp_region_lit ?_
        refine q304.t (.bool true) (ex_move rfl (q304.e (j := 13) rfl)) fun _ q305 => ?_;clear q304
        refine q305.t (.bool true) (ex_assign rfl (q305.e (j := 155) rfl)) fun _ q306 => ?_;clear q305
        refine wpList_nil ?_
        go_wp2
        refine bodyPost_ret (results_tmp rfl _ _ _) rfl ?_
        rw [getD_of (q306.a 6 rfl)]
        exact ⟨rfl, dr⟩
    · refine q49.t (.bool false) (ex_bin (Y := .int .i64 ((0 : Nat) : Int)) rfl (q49.e (j := 118) rfl) rfl (geF20 _ _ (by omega) _)) fun _ q50 => ?_;clear q49
      refine q50.t (.bool false) (ex_move rfl (q50.e (j := 119) rfl)) fun _ q51 => ?_;clear q50
      refine vl ((true && (false == true))) (undef) (want_g rfl rfl (q51.a 120 rfl)) (fun hc => absurd hc (by decide)) rfl q51.z (by decide) (q51.k fun _ q52 => ?_);clear q51
      refine vl ((true && (false == true))) (undef) (want_g rfl rfl (q52.a 120 rfl)) (fun hc => absurd hc (by decide)) rfl q52.z (by decide) (q52.k fun _ q53 => ?_);clear q52
      refine vl ((true && (false == true))) (undef) (want_g rfl rfl (q53.a 120 rfl)) (fun hc => absurd hc (by decide)) rfl q53.z (by decide) (q53.k fun _ q54 => ?_);clear q53
      refine vl ((true && (false == true))) (undef) (want_g rfl rfl (q54.a 120 rfl)) (fun hc => absurd hc (by decide)) rfl q54.z (by decide) (q54.k fun _ q55 => ?_);clear q54
      refine vl ((true && (false == true))) (.bool false) (want_g rfl rfl (q55.a 120 rfl)) (fun hc => absurd hc (by decide)) rfl q55.z (by decide) (q55.k fun _ q56 => ?_);clear q55
      refine q56.t (.bool false) (ex_and (c := true) (b := false) (z := false) rfl (q56.a 120 rfl) (q56.a 125 rfl) rfl) fun _ q57 => ?_;clear q56
      refine wpList_nil ?_
      go_upto_region 23 with fail
      refine wp_cond_false (q57.e (j := 126) rfl) ?_
      go_upto_region 23 with fail
      refine wp_region_lit ?_
      refine q57.t (.int .i64 (200 : Int)) (ex_move rfl (q57.e (j := 11) rfl)) fun _ q58 => ?_;clear q57
      refine q58.t (.int .i64 ((200 : Nat) : Int)) (ex_move rfl (q58.e (j := 12) rfl)) fun _ q59 => ?_;clear q58
      refine q59.t (.bool true) (ex_bin rfl (q59.e (j := 137) rfl) (q59.e (j := 138) rfl) (eqT20 _ _ (by omega) _)) fun _ q60 => ?_;clear q59
      refine q60.t (.bool true) (ex_move rfl (q60.e (j := 139) rfl)) fun _ q61 => ?_;clear q60
      refine vl ((true && (true == true))) (.slice none 0 0) (want_g rfl rfl (q61.a 140 rfl)) (fun hc => ex_move rfl (q61.e (j := 9) rfl)) rfl q61.z (by decide) (q61.k fun _ q62 => ?_);clear q61
      refine vl ((true && (true == true))) (.slice none 0 0) (want_g rfl rfl (q62.a 140 rfl)) (fun hc => ex_move rfl (q62.e (j := 10) rfl)) rfl q62.z (by decide) (q62.k fun _ q63 => ?_);clear q62
      refine vcallP (show Region.wanted _ _ = (true && (true == true)) from want_g rfl rfl (q63.a 140 rfl)) (ex_call rfl (by simp only [List.map_toArray, List.map_cons, List.map_nil, (q63.e (j := 141) rfl), (q63.e (j := 142) rfl), evc] <;> rfl) rfl) (sameJ20 ([] : List Hs) _ _ _ _ _ _ w3 (hN9.later d4) (hN9.later d4) (by omega)) rfl q63.z (by decide) ?_
      rintro e w6 ⟨rfl, bw6⟩
      refine ⟨_, rfl, q63.k fun _ q64 => ?_⟩;clear q63
      have zw6 := bw6.size
      have d7 : Below w.heap.size w w6 := d4.trans (bw6.mono d4.size)
      refine q64.t (.bool true) (ex_and (c := true) (b := true) (z := true) rfl (q64.a 140 rfl) (q64.a 143 rfl) rfl) fun _ q65 => ?_;clear q64
      refine q65.t (.bool true) (ex_assign rfl (q65.e (j := 144) rfl)) fun _ q66 => ?_;clear q65
      refine wpList_nil ?_
      go_upto_region 24 with fail
      refine wp_region_lit ?_
      refine q66.t (.int .i64 ((0 : Nat) : Int)) (ex_assign rfl rfl) fun _ q67 => ?_;clear q66
      have q67k := (((Rp.nil q67.z).cons (q67.a 9 rfl)).cons (q67.a 13 rfl)).cons (q67.a 14 rfl)
      refine wpList_nil ?_
      go_upto_region 25 with fail
      refine v_loop 14 0 (fun j T wr => ∃ D : List Hs, Rp T 156 [(14, gw true (.int .i64 ((j : Nat) : Int))), (13, gw true (.bool true)), (9, gw true (.slice none 0 0))] ∧ Hid (OwnY yH w.heap.size wr (.slice none 0 0) D ∧ D.length = 0 ∧ Below w.heap.size w wr)) (fun j T w h => by obtain ⟨_, h, _⟩ := h; exact h.a 14 rfl) ⟨([] : List Hs), q67k, (OwnY.nil yH w.heap.size w6), rfl, d7⟩ ?_
      intro j T wr hj hh
      obtain ⟨D, q300, HJ⟩ := hh
      obtain ⟨oD, hDl, dr⟩ := HJ.out
      clear HJ
      have zr := dr.size
      by_cases hit : j < 0
      · exact absurd hit (by omega)
      · go_upto_region 25 with fail
        refine wp_region_lit ?_
        refine q300.t (.int .i64 ((j : Nat) : Int)) (ex_move rfl (q300.e (j := 14) rfl)) fun _ q301 => ?_;clear q300
        refine q301.t (.slice none 0 0) (ex_move rfl (q301.e (j := 9) rfl)) fun _ q302 => ?_;clear q301
        refine q302.t (.int .i64 ((0 : Nat) : Int)) (ex_lenG rfl rfl Tryd.underlying44 (q302.e (j := 146) rfl)) fun _ q303 => ?_;clear q302
        refine q303.t (.bool false) (ex_bin rfl (q303.e (j := 145) rfl) (q303.e (j := 147) rfl) (ltF _ _ hit _)) fun _ q304 => ?_;clear q303
        refine wpList_nil ?_
        go_upto_region 28 with fail
        refine wp_cond_false (q304.e (j := 148) rfl) ?_
        go_upto_region 28 with fail
        refine wp_region_lit ?_
        refine q304.t (.bool true) (ex_move rfl (q304.e (j := 13) rfl)) fun _ q305 => ?_;clear q304
        refine q305.t (.bool true) (ex_assign rfl (q305.e (j := 155) rfl)) fun _ q306 => ?_;clear q305
        refine wpList_nil ?_
        go_wp2
        refine bodyPost_ret (results_tmp rfl _ _ _) rfl ?_
        rw [getD_of (q306.a 6 rfl)]
        exact ⟨rfl, dr⟩
  · refine q34.t (.bool false) (ex_bin (Y := .int .i64 ((0 : Nat) : Int)) rfl (q34.e (j := 93) rfl) rfl (geF20 _ _ (by omega) _)) fun _ q35 => ?_;clear q34
    refine q35.t (.bool false) (ex_move rfl (q35.e (j := 94) rfl)) fun _ q36 => ?_;clear q35
    refine vl ((true && (false == true))) (undef) (want_g rfl rfl (q36.a 95 rfl)) (fun hc => absurd hc (by decide)) rfl q36.z (by decide) (q36.k fun _ q37 => ?_);clear q36
    refine vl ((true && (false == true))) (undef) (want_g rfl rfl (q37.a 95 rfl)) (fun hc => absurd hc (by decide)) rfl q37.z (by decide) (q37.k fun _ q38 => ?_);clear q37
    refine vl ((true && (false == true))) (undef) (want_g rfl rfl (q38.a 95 rfl)) (fun hc => absurd hc (by decide)) rfl q38.z (by decide) (q38.k fun _ q39 => ?_);clear q38
    refine vl ((true && (false == true))) (undef) (want_g rfl rfl (q39.a 95 rfl)) (fun hc => absurd hc (by decide)) rfl q39.z (by decide) (q39.k fun _ q40 => ?_);clear q39
    refine vl ((true && (false == true))) (.bool false) (want_g rfl rfl (q40.a 95 rfl)) (fun hc => absurd hc (by decide)) rfl q40.z (by decide) (q40.k fun _ q41 => ?_);clear q40
    refine q41.t (.bool false) (ex_and (c := true) (b := false) (z := false) rfl (q41.a 95 rfl) (q41.a 100 rfl) rfl) fun _ q42 => ?_;clear q41
    refine q42.t (.bool false) (ex_move rfl (q42.e (j := 101) rfl)) fun _ q43 => ?_;clear q42
    refine vl ((true && (false == true))) (undef) (want_g rfl rfl (q43.a 102 rfl)) (fun hc => absurd hc (by decide)) rfl q43.z (by decide) (q43.k fun _ q44 => ?_);clear q43
    refine vl ((true && (false == true))) (undef) (want_g rfl rfl (q44.a 102 rfl)) (fun hc => absurd hc (by decide)) rfl q44.z (by decide) (q44.k fun _ q45 => ?_);clear q44
    refine vl ((true && (false == true))) (.bool false) (want_g rfl rfl (q45.a 102 rfl)) (fun hc => absurd hc (by decide)) rfl q45.z (by decide) (q45.k fun _ q46 => ?_);clear q45
    refine q46.t (.bool false) (ex_and (c := true) (b := false) (z := false) rfl (q46.a 102 rfl) (q46.a 105 rfl) rfl) fun _ q47 => ?_;clear q46
    refine wpList_nil ?_
    go_upto_region 21 with fail
    refine wp_cond_false (q47.e (j := 106) rfl) ?_
    go_upto_region 21 with fail
    refine wp_region_lit ?_
    refine q47.t (.pointer (some ⟨w.heap.size, 7, none⟩)) (ex_fa rfl (q47.e (j := 5) rfl) (faOp20 _ _ _ (.inr (.inr (.inr ⟨rfl, rfl⟩))) _)) fun _ q48 => ?_;clear q47
    refine q48.t (.int .i64 (B : Int)) (ex_ld rfl (q48.e (j := 117) rfl) B5.ldO3) fun _ q49 => ?_;clear q48
    by_cases hB1 : 0 ≤ B
    · refine q49.t (.bool true) (ex_bin (Y := .int .i64 ((0 : Nat) : Int)) rfl (q49.e (j := 118) rfl) rfl (geT20 _ _ (by omega) _)) fun _ q50 => ?_;clear q49
      refine q50.t (.bool true) (ex_move rfl (q50.e (j := 119) rfl)) fun _ q51 => ?_;clear q50
      refine vl ((true && (true == true))) (.pointer (some ⟨w.heap.size, 7, none⟩)) (want_g rfl rfl (q51.a 120 rfl)) (fun hc => ex_fa rfl (q51.e (j := 5) rfl) (faOp20 _ _ _ (.inr (.inr (.inr ⟨rfl, rfl⟩))) _)) rfl q51.z (by decide) (q51.k fun _ q52 => ?_);clear q51
      refine vl ((true && (true == true))) (.int .i64 (B : Int)) (want_g rfl rfl (q52.a 120 rfl)) (fun hc => ex_ld rfl (ev (q52.a 121 rfl) hc) B5.ldO3) rfl q52.z (by decide) (q52.k fun _ q53 => ?_);clear q52
      refine vl ((true && (true == true))) (.slice a n c) (want_g rfl rfl (q53.a 120 rfl)) (fun hc => ex_move rfl (q53.e (j := 1) rfl)) rfl q53.z (by decide) (q53.k fun _ q54 => ?_);clear q53
      refine vl ((true && (true == true))) (.int .i64 ((n : Nat) : Int)) (want_g rfl rfl (q54.a 120 rfl)) (fun hc => ex_lenG rfl rfl Tryd.underlying25 (ev (q54.a 123 rfl) hc)) rfl q54.z (by decide) (q54.k fun _ q55 => ?_);clear q54
      refine vl ((true && (true == true))) (.bool false) (want_g rfl rfl (q55.a 120 rfl)) (fun hc => ex_bin rfl (ev (q55.a 122 rfl) hc) (ev (q55.a 124 rfl) hc) (leF20 _ _ (by omega) _)) rfl q55.z (by decide) (q55.k fun _ q56 => ?_);clear q55
      refine q56.t (.bool false) (ex_and (c := true) (b := true) (z := false) rfl (q56.a 120 rfl) (q56.a 125 rfl) rfl) fun _ q57 => ?_;clear q56
      refine wpList_nil ?_
      go_upto_region 23 with fail
      refine wp_cond_false (q57.e (j := 126) rfl) ?_
      go_upto_region 23 with fail
      refine wp_region_lit ?_
      refine q57.t (.int .i64 (200 : Int)) (ex_move rfl (q57.e (j := 11) rfl)) fun _ q58 => ?_;clear q57
      refine q58.t (.int .i64 ((200 : Nat) : Int)) (ex_move rfl (q58.e (j := 12) rfl)) fun _ q59 => ?_;clear q58
      refine q59.t (.bool true) (ex_bin rfl (q59.e (j := 137) rfl) (q59.e (j := 138) rfl) (eqT20 _ _ (by omega) _)) fun _ q60 => ?_;clear q59
      refine q60.t (.bool true) (ex_move rfl (q60.e (j := 139) rfl)) fun _ q61 => ?_;clear q60
      refine vl ((true && (true == true))) (.slice none 0 0) (want_g rfl rfl (q61.a 140 rfl)) (fun hc => ex_move rfl (q61.e (j := 9) rfl)) rfl q61.z (by decide) (q61.k fun _ q62 => ?_);clear q61
      refine vl ((true && (true == true))) (.slice none 0 0) (want_g rfl rfl (q62.a 140 rfl)) (fun hc => ex_move rfl (q62.e (j := 10) rfl)) rfl q62.z (by decide) (q62.k fun _ q63 => ?_);clear q62
      refine vcallP (show Region.wanted _ _ = (true && (true == true)) from want_g rfl rfl (q63.a 140 rfl)) (ex_call rfl (by simp only [List.map_toArray, List.map_cons, List.map_nil, (q63.e (j := 141) rfl), (q63.e (j := 142) rfl), evc] <;> rfl) rfl) (sameJ20 ([] : List Hs) _ _ _ _ _ _ w3 (hN9.later d4) (hN9.later d4) (by omega)) rfl q63.z (by decide) ?_
      rintro e w6 ⟨rfl, bw6⟩
      refine ⟨_, rfl, q63.k fun _ q64 => ?_⟩;clear q63
      have zw6 := bw6.size
      have d7 : Below w.heap.size w w6 := d4.trans (bw6.mono d4.size)
      refine q64.t (.bool true) (ex_and (c := true) (b := true) (z := true) rfl (q64.a 140 rfl) (q64.a 143 rfl) rfl) fun _ q65 => ?_;clear q64
      refine q65.t (.bool true) (ex_assign rfl (q65.e (j := 144) rfl)) fun _ q66 => ?_;clear q65
      refine wpList_nil ?_
      go_upto_region 24 with fail
      refine wp_region_lit ?_
      refine q66.t (.int .i64 ((0 : Nat) : Int)) (ex_assign rfl rfl) fun _ q67 => ?_;clear q66
      have q67k := (((Rp.nil q67.z).cons (q67.a 9 rfl)).cons (q67.a 13 rfl)).cons (q67.a 14 rfl)
      refine wpList_nil ?_
      go_upto_region 25 with fail
      refine v_loop 14 0 (fun j T wr => ∃ D : List Hs, Rp T 156 [(14, gw true (.int .i64 ((j : Nat) : Int))), (13, gw true (.bool true)), (9, gw true (.slice none 0 0))] ∧ Hid (OwnY yH w.heap.size wr (.slice none 0 0) D ∧ D.length = 0 ∧ Below w.heap.size w wr)) (fun j T w h => by obtain ⟨_, h, _⟩ := h; exact h.a 14 rfl) ⟨([] : List Hs), q67k, (OwnY.nil yH w.heap.size w6), rfl, d7⟩ ?_
      intro j T wr hj hh
      obtain ⟨D, q300, HJ⟩ := hh
      obtain ⟨oD, hDl, dr⟩ := HJ.out
      clear HJ
      have zr := dr.size
      by_cases hit : j < 0
      · exact absurd hit (by omega)
      · go_upto_region 25 with fail
        refine wp_region_lit ?_
        refine q300.t (.int .i64 ((j : Nat) : Int)) (ex_move rfl (q300.e (j := 14) rfl)) fun _ q301 => ?_;clear q300
        refine q301.t (.slice none 0 0) (ex_move rfl (q301.e (j := 9) rfl)) fun _ q302 => ?_;clear q301
        refine q302.t (.int .i64 ((0 : Nat) : Int)) (ex_lenG rfl rfl Tryd.underlying44 (q302.e (j := 146) rfl)) fun _ q303 => ?_;clear q302
        refine q303.t (.bool false) (ex_bin rfl (q303.e (j := 145) rfl) (q303.e (j := 147) rfl) (ltF _ _ hit _)) fun _ q304 => ?_;clear q303
        refine wpList_nil ?_
        go_upto_region 28 with fail
        refine wp_cond_false (q304.e (j := 148) rfl) ?_
        go_upto_region 28 with fail
        refine wp_region_lit ?_
        refine q304.t (.bool true) (ex_move rfl (q304.e (j := 13) rfl)) fun _ q305 => ?_;clear q304
        refine q305.t (.bool true) (ex_assign rfl (q305.e (j := 155) rfl)) fun _ q306 => ?_;clear q305
        refine wpList_nil ?_
        go_wp2
        refine bodyPost_ret (results_tmp rfl _ _ _) rfl ?_
        rw [getD_of (q306.a 6 rfl)]
        exact ⟨rfl, dr⟩
    · refine q49.t (.bool false) (ex_bin (Y := .int .i64 ((0 : Nat) : Int)) rfl (q49.e (j := 118) rfl) rfl (geF20 _ _ (by omega) _)) fun _ q50 => ?_;clear q49
      refine q50.t (.bool false) (ex_move rfl (q50.e (j := 119) rfl)) fun _ q51 => ?_;clear q50
      refine vl ((true && (false == true))) (undef) (want_g rfl rfl (q51.a 120 rfl)) (fun hc => absurd hc (by decide)) rfl q51.z (by decide) (q51.k fun _ q52 => ?_);clear q51
      refine vl ((true && (false == true))) (undef) (want_g rfl rfl (q52.a 120 rfl)) (fun hc => absurd hc (by decide)) rfl q52.z (by decide) (q52.k fun _ q53 => ?_);clear q52
      refine vl ((true && (false == true))) (undef) (want_g rfl rfl (q53.a 120 rfl)) (fun hc => absurd hc (by decide)) rfl q53.z (by decide) (q53.k fun _ q54 => ?_);clear q53
      refine vl ((true && (false == true))) (undef) (want_g rfl rfl (q54.a 120 rfl)) (fun hc => absurd hc (by decide)) rfl q54.z (by decide) (q54.k fun _ q55 => ?_);clear q54
      refine vl ((true && (false == true))) (.bool false) (want_g rfl rfl (q55.a 120 rfl)) (fun hc => absurd hc (by decide)) rfl q55.z (by decide) (q55.k fun _ q56 => ?_);clear q55
      refine q56.t (.bool false) (ex_and (c := true) (b := false) (z := false) rfl (q56.a 120 rfl) (q56.a 125 rfl) rfl) fun _ q57 => ?_;clear q56
      refine wpList_nil ?_
      go_upto_region 23 with fail
      refine wp_cond_false (q57.e (j := 126) rfl) ?_
      go_upto_region 23 with fail
      refine wp_region_lit ?_
      refine q57.t (.int .i64 (200 : Int)) (ex_move rfl (q57.e (j := 11) rfl)) fun _ q58 => ?_;clear q57
      refine q58.t (.int .i64 ((200 : Nat) : Int)) (ex_move rfl (q58.e (j := 12) rfl)) fun _ q59 => ?_;clear q58
      refine q59.t (.bool true) (ex_bin rfl (q59.e (j := 137) rfl) (q59.e (j := 138) rfl) (eqT20 _ _ (by omega) _)) fun _ q60 => ?_;clear q59
      refine q60.t (.bool true) (ex_move rfl (q60.e (j := 139) rfl)) fun _ q61 => ?_;clear q60
      refine vl ((true && (true == true))) (.slice none 0 0) (want_g rfl rfl (q61.a 140 rfl)) (fun hc => ex_move rfl (q61.e (j := 9) rfl)) rfl q61.z (by decide) (q61.k fun _ q62 => ?_);clear q61
      refine vl ((true && (true == true))) (.slice none 0 0) (want_g rfl rfl (q62.a 140 rfl)) (fun hc => ex_move rfl (q62.e (j := 10) rfl)) rfl q62.z (by decide) (q62.k fun _ q63 => ?_);clear q62
      refine vcallP (show Region.wanted _ _ = (true && (true == true)) from want_g rfl rfl (q63.a 140 rfl)) (ex_call rfl (by simp only [List.map_toArray, List.map_cons, List.map_nil, (q63.e (j := 141) rfl), (q63.e (j := 142) rfl), evc] <;> rfl) rfl) (sameJ20 ([] : List Hs) _ _ _ _ _ _ w3 (hN9.later d4) (hN9.later d4) (by omega)) rfl q63.z (by decide) ?_
      rintro e w6 ⟨rfl, bw6⟩
      refine ⟨_, rfl, q63.k fun _ q64 => ?_⟩;clear q63
      have zw6 := bw6.size
      have d7 : Below w.heap.size w w6 := d4.trans (bw6.mono d4.size)
      refine q64.t (.bool true) (ex_and (c := true) (b := true) (z := true) rfl (q64.a 140 rfl) (q64.a 143 rfl) rfl) fun _ q65 => ?_;clear q64
      refine q65.t (.bool true) (ex_assign rfl (q65.e (j := 144) rfl)) fun _ q66 => ?_;clear q65
      refine wpList_nil ?_
      go_upto_region 24 with fail
      refine wp_region_lit ?_
      refine q66.t (.int .i64 ((0 : Nat) : Int)) (ex_assign rfl rfl) fun _ q67 => ?_;clear q66
      have q67k := (((Rp.nil q67.z).cons (q67.a 9 rfl)).cons (q67.a 13 rfl)).cons (q67.a 14 rfl)
      refine wpList_nil ?_
      go_upto_region 25 with fail
      refine v_loop 14 0 (fun j T wr => ∃ D : List Hs, Rp T 156 [(14, gw true (.int .i64 ((j : Nat) : Int))), (13, gw true (.bool true)), (9, gw true (.slice none 0 0))] ∧ Hid (OwnY yH w.heap.size wr (.slice none 0 0) D ∧ D.length = 0 ∧ Below w.heap.size w wr)) (fun j T w h => by obtain ⟨_, h, _⟩ := h; exact h.a 14 rfl) ⟨([] : List Hs), q67k, (OwnY.nil yH w.heap.size w6), rfl, d7⟩ ?_
      intro j T wr hj hh
      obtain ⟨D, q300, HJ⟩ := hh
      obtain ⟨oD, hDl, dr⟩ := HJ.out
      clear HJ
      have zr := dr.size
      by_cases hit : j < 0
      · exact absurd hit (by omega)
      · go_upto_region 25 with fail
        refine wp_region_lit ?_
        refine q300.t (.int .i64 ((j : Nat) : Int)) (ex_move rfl (q300.e (j := 14) rfl)) fun _ q301 => ?_;clear q300
        refine q301.t (.slice none 0 0) (ex_move rfl (q301.e (j := 9) rfl)) fun _ q302 => ?_;clear q301
        refine q302.t (.int .i64 ((0 : Nat) : Int)) (ex_lenG rfl rfl Tryd.underlying44 (q302.e (j := 146) rfl)) fun _ q303 => ?_;clear q302
        refine q303.t (.bool false) (ex_bin rfl (q303.e (j := 145) rfl) (q303.e (j := 147) rfl) (ltF _ _ hit _)) fun _ q304 => ?_;clear q303
        refine wpList_nil ?_
        go_upto_region 28 with fail
        refine wp_cond_false (q304.e (j := 148) rfl) ?_
        go_upto_region 28 with fail
        refine wp_region_lit ?_
        refine q304.t (.bool true) (ex_move rfl (q304.e (j := 13) rfl)) fun _ q305 => ?_;clear q304
        refine q305.t (.bool true) (ex_assign rfl (q305.e (j := 155) rfl)) fun _ q306 => ?_;clear q305
        refine wpList_nil ?_
        go_wp2
        refine bodyPost_ret (results_tmp rfl _ _ _) rfl ?_
        rw [getD_of (q306.a 6 rfl)]
        exact ⟨rfl, dr⟩
end Go.Proofs.YteeofcoehffegaaDoor
