import Derived.Test.YtjabbplfbjaenaaB8
set_option maxRecDepth 100000
set_option linter.unusedVariables false
set_option linter.unusedSimpArgs false
namespace Go.Proofs.Ytjabbplfbjaenaa
open Go.RowKit Go.Maps
open Classical
theorem ltI69 (x y : Operand) (a b : Int) (w : World) : (do eqGuard .lss 3 x y (.int .i64 a) (.int .i64 b); binOp .lss 3 (.int .i64 a) (.int .i64 b) : Sem Value).run Try.prog w = .ok (.bool (decide (a < b))) w := by
  by_cases h : a < b
  · rw [decide_eq_true h]; exact ltT62 _ _ h _
  · rw [decide_eq_false h]; exact ltF62 _ _ h _
theorem ownP69 {B : Nat} {w : World} {a : Option Addr} {n c : Nat} {l : List Kl} (h : OwnY yK B w (.slice a n c) l) (h0 : 0 < l.length) : ∃ g, a = some ⟨g, 0, none⟩ ∧ B ≤ g ∧ g < w.heap.size := by
  obtain ⟨a2, c2, e, _, _, h3, h4⟩ := h.form
  injection e with e1 _ _
  subst e1
  cases a with
  | none => rw [(h3 rfl).1] at h0; cases h0
  | some z =>
    obtain ⟨g, rfl, h5, h6⟩ := h4 z rfl
    exact ⟨g, rfl, h5, h6⟩
set_option maxHeartbeats 2000000 in
theorem own18 (l o : List Kl) (a1 : Option Addr) (c1 : Nat) (a2 : Option Addr) (c2 : Nat) (row : Int) (w : World) (h1 : SlY yK w a1 l.length c1 l) (h2 : SlY yK w a2 o.length c2 o) (hf1 : ∀ x ∈ l, x.fits) (hf2 : ∀ x ∈ o, x.fits) (hn1 : l.length * 96 ≤ 140737488351232) (hn2 : o.length * 96 ≤ 140737488351232) (hrow : -9223372036854775808 ≤ row ∧ row ≤ 9223372036854775807) :
    Calls Try.prog 6 #[.slice a1 l.length c1, .slice a2 o.length c2, .int .i64 row] w fun e w' => e = .returned (.bool true) ∧ Below w.heap.size w w' := by
  go_enter Try.func6, Try.ntmps6
  go_upto_region 0 with fail
  refine wp_region_lit ?_
  refine vl_gen (fun T => Rp T 224 [(2, gw true (.int .i64 (row))), (1, gw true (.slice a2 o.length c2)), (0, gw true (.slice a1 l.length c1))]) ((((Rp.nil rfl).cons rfl).cons rfl).cons rfl) (fun Z0 q0 => ?_)
  refine q0.t (.bool false) (ex_assign rfl rfl) fun _ q1 => ?_;clear q0
  refine wpList_nil ?_
  go_upto_region 1 with fail
  refine wp_region_lit ?_
  obtain ⟨w1, hw1⟩ : ∃ y, y = w.alloc (.cells (bkC nilS).toArray 67) := ⟨_, rfl⟩
  refine vw (.pointer (some ⟨w.heap.size, 0, none⟩)) w1 (want_none rfl) (ex_al rfl (by rw [hw1]; exact alBk63 _)) rfl q1.z (by decide) (q1.k fun _ q2 => ?_);clear q1
  have Bk : BB w1 w.heap.size 67 (bkC nilS) := by rw [hw1]; exact BB.new _ _ _
  have d : Below w.heap.size w w1 := by rw [hw1]; exact (Below.refl _ _).alloc (Nat.le_refl _) _
  have y1 : w1.heap.size = w.heap.size + 1 := by rw [hw1]; exact World.size_alloc _ _
  clear hw1
  refine wpList_nil ?_
  go_upto_region 2 with fail
  refine wp_region_lit ?_
  obtain ⟨w2, hw2⟩ : ∃ y, y = w1.alloc (.cells #[] 45) := ⟨_, rfl⟩
  refine vw (.slice (some ⟨w1.heap.size, 0, none⟩) 0 0) w2 (want_none rfl) (ex_bs0_68 rfl (by rw [hw2]; exact bs0_68 _)) rfl q2.z (by decide) (q2.k fun _ q3 => ?_);clear q2
  have o2 : OwnY yK w1.heap.size w2 (.slice (some ⟨w1.heap.size, 0, none⟩) 0 0) [] := by rw [hw2]; exact own0_68 w1 (Nat.le_refl _)
  have b2 : Below w1.heap.size w1 w2 := by rw [hw2]; exact (Below.refl _ _).alloc (Nat.le_refl _) _
  clear hw2
  have y2 := b2.size
  replace Bk := Bk.later b2
  replace d := d.trans (b2.mono d.size)
  refine q3.t (.slice a1 l.length c1) (ex_move rfl (q3.e (j := 0) rfl)) fun _ q4 => ?_;clear q3
  obtain ⟨v3, w3, ha3, o3, g3, n3⟩ := run_appZ kK w2 24 w1.heap.size [] (.slice (some ⟨w1.heap.size, 0, none⟩) 0 0) a1 l.length c1 l (h1.later d) o2 y2 (by show 0 + l.length ≤ maxLen; unfold maxLen; omega) (by show (0 + l.length) * 96 ≤ _; omega)
  have o3 : OwnY yK w1.heap.size w3 v3 l := o3
  have u3 := gupd63 g3
  have y3 := u3.size
  have r2 : ∀ k, Value.ownBlock (.slice (some ⟨w1.heap.size, 0, none⟩) 0 0) = some k → w1.heap.size ≤ k := fun k hk => by
    have e : some w1.heap.size = some k := hk
    injection e with e
    omega
  replace Bk := Bk.upd u3 (fun e => by have := r2 _ e; omega)
  replace d := d.trans (u3.below d.size (fun k hk => by have := r2 k hk; omega))
  have r3 := o3.blk
  obtain ⟨a3, c3, hv3, _, _, _, _⟩ := o3.form
  subst hv3
  clear o2 g3 n3
  refine vw (.slice a3 l.length c3) w3 (want_none rfl) (ex_app18 rfl (q4.e (j := 34) rfl) (q4.e (j := 35) rfl) ha3) rfl q4.z (by decide) (q4.k fun _ q5 => ?_);clear q4
  refine q5.t (.slice a3 l.length c3) (ex_assign rfl (q5.e (j := 36) rfl)) fun _ q6 => ?_;clear q5
  refine wpList_nil ?_
  go_upto_region 3 with fail
  refine wp_region_lit ?_
  refine q6.t (.int .i64 (row)) (ex_move rfl (q6.e (j := 2) rfl)) fun _ q7 => ?_;clear q6
  refine q7.t (.bool (decide (row < 0))) (ex_bin (Y := .int .i64 (0)) rfl (q7.e (j := 37) rfl) rfl (ltI69 _ _ _ _ _)) fun _ q8 => ?_;clear q7
  have q9 := (((((((Rp.nil q8.z).cons (q8.a 0 rfl)).cons (q8.a 1 rfl)).cons (q8.a 7 rfl)).cons (q8.a 8 rfl)).cons (q8.a 2 rfl)).cons (q8.a 38 rfl))
  clear q8
  refine wpList_nil ?_
  go_upto_if 38 with fail
  refine v_cut18 (fun T w9 => ∃ r : Int, Rp T 224 [(2, gw true (.int .i64 (r))), (8, gw true (.slice a3 l.length c3)), (7, gw true (.pointer (some ⟨w.heap.size, 0, none⟩))), (1, gw true (.slice a2 o.length c2)), (0, gw true (.slice a1 l.length c1))] ∧ r ≤ 9223372036854775807 ∧ w9 = w3) ?_ ?_
  · by_cases hr : row < 0
    · have q9x := q9.a 38 rfl
      rw [decide_eq_true hr] at q9x
      refine wp_cond_true (ev q9x rfl) ?_
      clear q9x
      go_upto_region 4 with fail
      refine wp_region_lit ?_
      refine q9.t (.int .i64 (row)) (ex_move rfl (q9.e (j := 2) rfl)) fun _ q10 => ?_;clear q9
      refine q10.t (.int .i64 (row + 1)) (ex_bin (Y := .int .i64 (1)) rfl (q10.e (j := 39) rfl) rfl (addZ62 _ _ _ _ (by omega) _)) fun _ q11 => ?_;clear q10
      refine q11.t (.int .i64 (-(row + 1))) (ex_neg68 rfl (q11.e (j := 40) rfl) (by omega)) fun _ q12 => ?_;clear q11
      refine q12.t (.int .i64 (-(row + 1))) (ex_assign rfl (q12.e (j := 41) rfl)) fun _ q13 => ?_;clear q12
      have q14 := ((((((Rp.nil q13.z).cons (q13.a 0 rfl)).cons (q13.a 1 rfl)).cons (q13.a 7 rfl)).cons (q13.a 8 rfl)).cons (q13.a 2 rfl))
      clear q13
      refine wpList_nil ?_
      exact ⟨_, rfl, -(row + 1), q14, by omega, rfl⟩
    · have q9x := q9.a 38 rfl
      rw [decide_eq_false hr] at q9x
      refine wp_cond_false (ev q9x rfl) ?_
      clear q9x
      have q10 := ((((((Rp.nil q9.z).cons (q9.a 0 rfl)).cons (q9.a 1 rfl)).cons (q9.a 7 rfl)).cons (q9.a 8 rfl)).cons (q9.a 2 rfl))
      clear q9
      apply wp_skip
      exact ⟨_, rfl, row, q10, by omega, rfl⟩
  · rintro T w99 ⟨r, q100, hrm, hw99⟩
    have hw99 := hw99.symm
    subst hw99
    obtain ⟨I1, hI1⟩ : ∃ z, z = ints ((srA l).getD []) := ⟨_, rfl⟩
    obtain ⟨I2, hI2⟩ : ∃ z, z = ints ((srA o).getD []) := ⟨_, rfl⟩
    obtain ⟨X, hX⟩ : ∃ z, z = (ctR l r).1 := ⟨_, rfl⟩
    obtain ⟨Y, hY⟩ : ∃ z, z = (ctR o r).1 := ⟨_, rfl⟩
    have i1 : I1.length ≤ 8 := by rw [hI1]; exact srA_le68 l
    have i2 : I2.length ≤ 8 := by rw [hI2]; exact srA_le68 o
    have lX : X.length ≤ l.length := by rw [hX]; exact ctR_len68 l r
    have lY : Y.length ≤ o.length := by rw [hY]; exact ctR_len68 o r
    have pX : ∀ x ∈ X, 0 ≤ x.b := by rw [hX]; exact ctR_pos
    go_upto_region 5 with fail
    refine wp_region_lit ?_
    refine q100.t (.slice a3 l.length c3) (ex_move rfl (q100.e (j := 8) rfl)) fun _ q101 => ?_;clear q100
    have hS9 := search18_any l a3 c3 w3 (o3.sl' kK) hf1
    rw [← hI1] at hS9
    refine vcallP (want_none rfl) (ex_call rfl (by simp only [List.map_toArray, List.map_cons, List.map_nil, (q101.e (j := 43) rfl), evc] <;> rfl) rfl) (hS9) rfl q101.z (by decide) ?_
    rintro e w4 ⟨v9, rfl, o9, b9⟩
    refine ⟨_, rfl, q101.k fun _ q102 => ?_⟩;clear q101
    have z9 := b9.size
    replace o3 := o3.grow b9
    replace Bk := Bk.later b9
    replace d := d.trans (b9.mono d.size)
    have r9 := o9.blk
    obtain ⟨a9, c9, hv9, _, _, _, _⟩ := o9.form
    subst hv9
    refine q102.t (.tuple #[.slice a9 I1.length c9, .bool ((srA l).isSome), .int .i64 (srE l)]) (ex_move rfl (q102.e (j := 44) rfl)) fun _ q103 => ?_;clear q102
    refine q103.t (.slice a9 I1.length c9) (ex_ext18 rfl (q103.e (j := 42) rfl) rfl) fun _ q104 => ?_;clear q103
    refine q104.t (.bool ((srA l).isSome)) (ex_ext18 rfl (q104.e (j := 42) rfl) rfl) fun _ q105 => ?_;clear q104
    refine q105.t (.int .i64 (srE l)) (ex_ext18 rfl (q105.e (j := 42) rfl) rfl) fun _ q106 => ?_;clear q105
    refine q106.t (.slice a9 I1.length c9) (ex_assign rfl (q106.e (j := 45) rfl)) fun _ q107 => ?_;clear q106
    refine q107.t (.bool ((srA l).isSome)) (ex_assign rfl (q107.e (j := 46) rfl)) fun _ q108 => ?_;clear q107
    refine q108.t (.int .i64 (srE l)) (ex_assign rfl (q108.e (j := 47) rfl)) fun _ q109 => ?_;clear q108
    refine wpList_nil ?_
    go_upto_region 6 with fail
    refine wp_region_lit ?_
    refine q109.t (.slice a2 o.length c2) (ex_move rfl (q109.e (j := 1) rfl)) fun _ q110 => ?_;clear q109
    have hS12 := search18_any o a2 c2 w4 (h2.later d) hf2
    rw [← hI2] at hS12
    refine vcallP (want_none rfl) (ex_call rfl (by simp only [List.map_toArray, List.map_cons, List.map_nil, (q110.e (j := 49) rfl), evc] <;> rfl) rfl) (hS12) rfl q110.z (by decide) ?_
    rintro e w5 ⟨v12, rfl, o12, b12⟩
    refine ⟨_, rfl, q110.k fun _ q111 => ?_⟩;clear q110
    have z12 := b12.size
    replace o3 := o3.grow b12
    replace o9 := o9.grow b12
    replace Bk := Bk.later b12
    replace d := d.trans (b12.mono d.size)
    have r12 := o12.blk
    obtain ⟨a12, c12, hv12, _, _, _, _⟩ := o12.form
    subst hv12
    refine q111.t (.tuple #[.slice a12 I2.length c12, .bool ((srA o).isSome), .int .i64 (srE o)]) (ex_move rfl (q111.e (j := 50) rfl)) fun _ q112 => ?_;clear q111
    refine q112.t (.slice a12 I2.length c12) (ex_ext18 rfl (q112.e (j := 48) rfl) rfl) fun _ q113 => ?_;clear q112
    refine q113.t (.bool ((srA o).isSome)) (ex_ext18 rfl (q113.e (j := 48) rfl) rfl) fun _ q114 => ?_;clear q113
    refine q114.t (.int .i64 (srE o)) (ex_ext18 rfl (q114.e (j := 48) rfl) rfl) fun _ q115 => ?_;clear q114
    refine q115.t (.slice a12 I2.length c12) (ex_assign rfl (q115.e (j := 51) rfl)) fun _ q116 => ?_;clear q115
    refine q116.t (.bool ((srA o).isSome)) (ex_assign rfl (q116.e (j := 52) rfl)) fun _ q117 => ?_;clear q116
    refine q117.t (.int .i64 (srE o)) (ex_assign rfl (q117.e (j := 53) rfl)) fun _ q118 => ?_;clear q117
    refine wpList_nil ?_
    go_upto_region 7 with fail
    refine wp_region_lit ?_
    refine q118.t (.slice a3 l.length c3) (ex_move rfl (q118.e (j := 8) rfl)) fun _ q119 => ?_;clear q118
    have hS15 := search18_any l a3 c3 w5 (o3.sl' kK) hf1
    rw [← hI1] at hS15
    refine vcallP (want_none rfl) (ex_call rfl (by simp only [List.map_toArray, List.map_cons, List.map_nil, (q119.e (j := 55) rfl), evc] <;> rfl) rfl) (hS15) rfl q119.z (by decide) ?_
    rintro e w6 ⟨v15, rfl, o15, b15⟩
    refine ⟨_, rfl, q119.k fun _ q120 => ?_⟩;clear q119
    have z15 := b15.size
    replace o3 := o3.grow b15
    replace o9 := o9.grow b15
    replace o12 := o12.grow b15
    replace Bk := Bk.later b15
    replace d := d.trans (b15.mono d.size)
    have r15 := o15.blk
    obtain ⟨a15, c15, hv15, _, _, _, _⟩ := o15.form
    subst hv15
    refine q120.t (.tuple #[.slice a15 I1.length c15, .bool ((srA l).isSome), .int .i64 (srE l)]) (ex_move rfl (q120.e (j := 56) rfl)) fun _ q121 => ?_;clear q120
    refine q121.t (.slice a15 I1.length c15) (ex_ext18 rfl (q121.e (j := 54) rfl) rfl) fun _ q122 => ?_;clear q121
    refine q122.t (.bool ((srA l).isSome)) (ex_ext18 rfl (q122.e (j := 54) rfl) rfl) fun _ q123 => ?_;clear q122
    refine q123.t (.int .i64 (srE l)) (ex_ext18 rfl (q123.e (j := 54) rfl) rfl) fun _ q124 => ?_;clear q123
    refine q124.t (.slice a15 I1.length c15) (ex_assign rfl (q124.e (j := 57) rfl)) fun _ q125 => ?_;clear q124
    refine q125.t (.bool ((srA l).isSome)) (ex_assign rfl (q125.e (j := 58) rfl)) fun _ q126 => ?_;clear q125
    refine q126.t (.int .i64 (srE l)) (ex_assign rfl (q126.e (j := 59) rfl)) fun _ q127 => ?_;clear q126
    refine wpList_nil ?_
    have q128 := (((((((((Rp.nil q127.z).cons (q127.a 0 rfl)).cons (q127.a 1 rfl)).cons (q127.a 2 rfl)).cons (q127.a 7 rfl)).cons (q127.a 8 rfl)).cons (q127.a 9 rfl)).cons (q127.a 12 rfl)).cons (q127.a 15 rfl))
    clear q127
    go_upto_region 8 with fail
    refine wp_region_lit ?_
    refine q128.t (.slice a3 l.length c3) (ex_move rfl (q128.e (j := 8) rfl)) fun _ q129 => ?_;clear q128
    refine q129.t (.int .i64 (r)) (ex_move rfl (q129.e (j := 2) rfl)) fun _ q130 => ?_;clear q129
    have hC18 := cut18 l a3 c3 r w6 (o3.sl' kK) hf1 hn1 hrm
    rw [← hX] at hC18
    refine vcallP (want_none rfl) (ex_call rfl (by simp only [List.map_toArray, List.map_cons, List.map_nil, (q130.e (j := 61) rfl), (q130.e (j := 62) rfl), evc] <;> rfl) rfl) (hC18) rfl q130.z (by decide) ?_
    rintro e w7 ⟨v18, rfl, o18, b18⟩
    refine ⟨_, rfl, q130.k fun _ q131 => ?_⟩;clear q130
    have z18 := b18.size
    replace o3 := o3.grow b18
    replace o9 := o9.grow b18
    replace o12 := o12.grow b18
    replace o15 := o15.grow b18
    replace Bk := Bk.later b18
    replace d := d.trans (b18.mono d.size)
    have r18 := o18.blk
    obtain ⟨a18, c18, hv18, _, _, _, _⟩ := o18.form
    subst hv18
    refine q131.t (.tuple #[.slice a18 X.length c18, .int .i64 ((ctR l r).2)]) (ex_move rfl (q131.e (j := 63) rfl)) fun _ q132 => ?_;clear q131
    refine q132.t (.slice a18 X.length c18) (ex_ext18 rfl (q132.e (j := 60) rfl) rfl) fun _ q133 => ?_;clear q132
    refine q133.t (.int .i64 ((ctR l r).2)) (ex_ext18 rfl (q133.e (j := 60) rfl) rfl) fun _ q134 => ?_;clear q133
    refine q134.t (.slice a18 X.length c18) (ex_assign rfl (q134.e (j := 64) rfl)) fun _ q135 => ?_;clear q134
    refine q135.t (.int .i64 ((ctR l r).2)) (ex_assign rfl (q135.e (j := 65) rfl)) fun _ q136 => ?_;clear q135
    refine wpList_nil ?_
    go_upto_region 9 with fail
    refine wp_region_lit ?_
    refine q136.t (.slice a2 o.length c2) (ex_move rfl (q136.e (j := 1) rfl)) fun _ q137 => ?_;clear q136
    refine q137.t (.int .i64 (r)) (ex_move rfl (q137.e (j := 2) rfl)) fun _ q138 => ?_;clear q137
    have hC20 := cut18 o a2 c2 r w7 (h2.later d) hf2 hn2 hrm
    rw [← hY] at hC20
    refine vcallP (want_none rfl) (ex_call rfl (by simp only [List.map_toArray, List.map_cons, List.map_nil, (q138.e (j := 67) rfl), (q138.e (j := 68) rfl), evc] <;> rfl) rfl) (hC20) rfl q138.z (by decide) ?_
    rintro e w8 ⟨v20, rfl, o20, b20⟩
    refine ⟨_, rfl, q138.k fun _ q139 => ?_⟩;clear q138
    have z20 := b20.size
    replace o3 := o3.grow b20
    replace o9 := o9.grow b20
    replace o12 := o12.grow b20
    replace o15 := o15.grow b20
    replace o18 := o18.grow b20
    replace Bk := Bk.later b20
    replace d := d.trans (b20.mono d.size)
    have r20 := o20.blk
    obtain ⟨a20, c20, hv20, _, _, _, _⟩ := o20.form
    subst hv20
    refine q139.t (.tuple #[.slice a20 Y.length c20, .int .i64 ((ctR o r).2)]) (ex_move rfl (q139.e (j := 69) rfl)) fun _ q140 => ?_;clear q139
    refine q140.t (.slice a20 Y.length c20) (ex_ext18 rfl (q140.e (j := 66) rfl) rfl) fun _ q141 => ?_;clear q140
    refine q141.t (.int .i64 ((ctR o r).2)) (ex_ext18 rfl (q141.e (j := 66) rfl) rfl) fun _ q142 => ?_;clear q141
    refine q142.t (.slice a20 Y.length c20) (ex_assign rfl (q142.e (j := 70) rfl)) fun _ q143 => ?_;clear q142
    refine q143.t (.int .i64 ((ctR o r).2)) (ex_assign rfl (q143.e (j := 71) rfl)) fun _ q144 => ?_;clear q143
    refine wpList_nil ?_
    go_upto_region 10 with fail
    refine wp_region_lit ?_
    refine q144.t (.slice a3 l.length c3) (ex_move rfl (q144.e (j := 8) rfl)) fun _ q145 => ?_;clear q144
    refine q145.t (.int .i64 (r)) (ex_move rfl (q145.e (j := 2) rfl)) fun _ q146 => ?_;clear q145
    have hC22 := cut18 l a3 c3 r w8 (o3.sl' kK) hf1 hn1 hrm
    rw [← hX] at hC22
    refine vcallP (want_none rfl) (ex_call rfl (by simp only [List.map_toArray, List.map_cons, List.map_nil, (q146.e (j := 73) rfl), (q146.e (j := 74) rfl), evc] <;> rfl) rfl) (hC22) rfl q146.z (by decide) ?_
    rintro e w9 ⟨v22, rfl, o22, b22⟩
    refine ⟨_, rfl, q146.k fun _ q147 => ?_⟩;clear q146
    have z22 := b22.size
    replace o3 := o3.grow b22
    replace o9 := o9.grow b22
    replace o12 := o12.grow b22
    replace o15 := o15.grow b22
    replace o18 := o18.grow b22
    replace o20 := o20.grow b22
    replace Bk := Bk.later b22
    replace d := d.trans (b22.mono d.size)
    have r22 := o22.blk
    obtain ⟨a22, c22, hv22, _, _, _, _⟩ := o22.form
    subst hv22
    refine q147.t (.tuple #[.slice a22 X.length c22, .int .i64 ((ctR l r).2)]) (ex_move rfl (q147.e (j := 75) rfl)) fun _ q148 => ?_;clear q147
    refine q148.t (.slice a22 X.length c22) (ex_ext18 rfl (q148.e (j := 72) rfl) rfl) fun _ q149 => ?_;clear q148
    refine q149.t (.int .i64 ((ctR l r).2)) (ex_ext18 rfl (q149.e (j := 72) rfl) rfl) fun _ q150 => ?_;clear q149
    refine q150.t (.slice a22 X.length c22) (ex_assign rfl (q150.e (j := 76) rfl)) fun _ q151 => ?_;clear q150
    refine q151.t (.int .i64 ((ctR l r).2)) (ex_assign rfl (q151.e (j := 77) rfl)) fun _ q152 => ?_;clear q151
    refine wpList_nil ?_
    have q153 := ((((((((((Rp.nil q152.z).cons (q152.a 0 rfl)).cons (q152.a 7 rfl)).cons (q152.a 8 rfl)).cons (q152.a 9 rfl)).cons (q152.a 12 rfl)).cons (q152.a 15 rfl)).cons (q152.a 18 rfl)).cons (q152.a 20 rfl)).cons (q152.a 22 rfl))
    clear q152
    go_upto_region 11 with fail
    refine wp_region_lit ?_
    refine q153.t (.slice a9 I1.length c9) (ex_move rfl (q153.e (j := 9) rfl)) fun _ q154 => ?_;clear q153
    refine q154.t (.slice a15 I1.length c15) (ex_move rfl (q154.e (j := 15) rfl)) fun _ q155 => ?_;clear q154
    refine vcallP (want_none rfl) (ex_call rfl (by simp only [List.map_toArray, List.map_cons, List.map_nil, (q155.e (j := 78) rfl), (q155.e (j := 79) rfl), evc] <;> rfl) rfl) (sameInts18 I1 a9 a15 c9 c15 w9 (o9.sl' kN) (o15.sl' kN) (by omega)) rfl q155.z (by decide) ?_
    rintro e wa ⟨rfl, ba⟩
    refine ⟨_, rfl, q155.k fun _ q156 => ?_⟩;clear q155
    have za := ba.size
    replace o3 := o3.grow ba
    replace o9 := o9.grow ba
    replace o12 := o12.grow ba
    replace o15 := o15.grow ba
    replace o18 := o18.grow ba
    replace o20 := o20.grow ba
    replace o22 := o22.grow ba
    replace Bk := Bk.later ba
    replace d := d.trans (ba.mono d.size)
    refine q156.t (.bool false) (ex_not rfl (q156.e (j := 80) rfl)) fun _ q157 => ?_;clear q156
    refine q157.t (.bool false) (ex_move rfl (q157.e (j := 81) rfl)) fun _ q158 => ?_;clear q157
    refine vl _ (.slice a18 X.length c18) (want_g rfl rfl (q158.a 82 rfl)) (fun hc => ex_move rfl (q158.e (j := 18) rfl)) rfl q158.z (by decide) (q158.k fun _ q159 => ?_);clear q158
    refine vl _ (.slice a22 X.length c22) (want_g rfl rfl (q159.a 82 rfl)) (fun hc => ex_move rfl (q159.e (j := 22) rfl)) rfl q159.z (by decide) (q159.k fun _ q160 => ?_);clear q159
    refine vcallP (show Region.wanted _ _ = (true && (false == false)) from want_g rfl rfl (q160.a 82 rfl)) (ex_call rfl (by simp only [List.map_toArray, List.map_cons, List.map_nil, (ev (q160.a 83 rfl) rfl), (ev (q160.a 84 rfl) rfl), evc] <;> rfl) rfl) (same18 X a18 a22 c18 c22 wa (o18.sl' kK) (o22.sl' kK) (by omega)) rfl q160.z (by decide) ?_
    rintro e wb ⟨rfl, bb⟩
    refine ⟨_, rfl, q160.k fun _ q161 => ?_⟩;clear q160
    have zb := bb.size
    replace o3 := o3.grow bb
    replace o9 := o9.grow bb
    replace o12 := o12.grow bb
    replace o15 := o15.grow bb
    replace o18 := o18.grow bb
    replace o20 := o20.grow bb
    replace o22 := o22.grow bb
    replace Bk := Bk.later bb
    replace d := d.trans (bb.mono d.size)
    refine vl _ (.bool false) (want_g rfl rfl (q161.a 82 rfl)) (fun hc => ex_not rfl (ev (q161.a 85 rfl) hc)) rfl q161.z (by decide) (q161.k fun _ q162 => ?_);clear q161
    refine q162.t (.bool false) (ex_or (c := true) (b := false) (z := false) rfl (q162.a 82 rfl) (q162.a 86 rfl) rfl) fun _ q163 => ?_;clear q162
    refine q163.t (.bool false) (ex_move rfl (q163.e (j := 87) rfl)) fun _ q164 => ?_;clear q163
    refine vl _ (.slice a3 l.length c3) (want_g rfl rfl (q164.a 88 rfl)) (fun hc => ex_move rfl (q164.e (j := 8) rfl)) rfl q164.z (by decide) (q164.k fun _ q165 => ?_);clear q164
    refine vl _ (.slice a1 l.length c1) (want_g rfl rfl (q165.a 88 rfl)) (fun hc => ex_move rfl (q165.e (j := 0) rfl)) rfl q165.z (by decide) (q165.k fun _ q166 => ?_);clear q165
    refine vcallP (show Region.wanted _ _ = (true && (false == false)) from want_g rfl rfl (q166.a 88 rfl)) (ex_call rfl (by simp only [List.map_toArray, List.map_cons, List.map_nil, (ev (q166.a 89 rfl) rfl), (ev (q166.a 90 rfl) rfl), evc] <;> rfl) rfl) (same18 l a3 a1 c3 c1 wb (o3.sl' kK) (h1.later d) (by omega)) rfl q166.z (by decide) ?_
    rintro e wc ⟨rfl, bc⟩
    refine ⟨_, rfl, q166.k fun _ q167 => ?_⟩;clear q166
    have zc := bc.size
    replace o3 := o3.grow bc
    replace o9 := o9.grow bc
    replace o12 := o12.grow bc
    replace o15 := o15.grow bc
    replace o18 := o18.grow bc
    replace o20 := o20.grow bc
    replace o22 := o22.grow bc
    replace Bk := Bk.later bc
    replace d := d.trans (bc.mono d.size)
    refine vl _ (.bool false) (want_g rfl rfl (q167.a 88 rfl)) (fun hc => ex_not rfl (ev (q167.a 91 rfl) hc)) rfl q167.z (by decide) (q167.k fun _ q168 => ?_);clear q167
    refine q168.t (.bool false) (ex_or (c := true) (b := false) (z := false) rfl (q168.a 88 rfl) (q168.a 92 rfl) rfl) fun _ q169 => ?_;clear q168
    have q170 := (((((((((((Rp.nil q169.z).cons (q169.a 0 rfl)).cons (q169.a 7 rfl)).cons (q169.a 8 rfl)).cons (q169.a 9 rfl)).cons (q169.a 12 rfl)).cons (q169.a 15 rfl)).cons (q169.a 18 rfl)).cons (q169.a 20 rfl)).cons (q169.a 22 rfl)).cons (q169.a 93 rfl))
    clear q169
    refine wpList_nil ?_
    go_upto_region 13 with fail
    refine wp_cond_false (q170.e (j := 93) rfl) ?_
    go_upto_region 13 with fail
    refine wp_region_lit ?_
    refine q170.t (.int .i64 ((0 : Nat) : Int)) (ex_assign rfl rfl) fun _ q171 => ?_;clear q170
    have q172 := (((((((((((Rp.nil q171.z).cons (q171.a 0 rfl)).cons (q171.a 7 rfl)).cons (q171.a 8 rfl)).cons (q171.a 9 rfl)).cons (q171.a 12 rfl)).cons (q171.a 15 rfl)).cons (q171.a 18 rfl)).cons (q171.a 20 rfl)).cons (q171.a 22 rfl)).cons (q171.a 24 rfl))
    clear q171
    refine wpList_nil ?_
    go_upto_region 14 with fail
    refine v_loop 24 X.length (fun j T wr => Rp T 224 [(24, gw true (.int .i64 ((j : Nat) : Int))), (22, gw true (.slice a22 X.length c22)), (20, gw true (.slice a20 Y.length c20)), (18, gw true (.slice a18 X.length c18)), (15, gw true (.slice a15 I1.length c15)), (12, gw true (.slice a12 I2.length c12)), (9, gw true (.slice a9 I1.length c9)), (8, gw true (.slice a3 l.length c3)), (7, gw true (.pointer (some ⟨w.heap.size, 0, none⟩))), (0, gw true (.slice a1 l.length c1))] ∧ Hid (OwnY yK w6.heap.size wr (.slice a18 X.length c18) (fF (bz (-100)) j X) ∧ Upd (fun k => Value.ownBlock (.slice a18 X.length c18) = some k) wc wr)) (fun j T w h => h.1.a 24 rfl) ⟨q172, o18, Upd.refl _ _⟩ ?_
    clear q172
    intro j T wd hj hh
    obtain ⟨q200, HJ⟩ := hh
    obtain ⟨oj, uwd⟩ := HJ.out
    clear HJ
    have ywd := uwd.size
    by_cases hit : j < X.length
    · obtain ⟨x, hx⟩ : ∃ x, X[j]? = some x := ⟨_, List.getElem?_eq_getElem (by omega)⟩
      obtain ⟨g, hg, hg1, hg2⟩ := ownP69 oj (by rw [fF_len]; omega)
      have oj2 := oj
      rw [hg] at oj2
      go_upto_region 14 with fail
      refine wp_region_lit ?_
      refine q200.t (.int .i64 ((j : Nat) : Int)) (ex_move rfl (q200.e (j := 24) rfl)) fun _ q201 => ?_;clear q200
      refine q201.t (.slice a18 X.length c18) (ex_move rfl (q201.e (j := 18) rfl)) fun _ q202 => ?_;clear q201
      refine q202.t (.int .i64 ((X.length : Nat) : Int)) (ex_len18 rfl rfl (q202.e (j := 95) rfl)) fun _ q203 => ?_;clear q202
      refine q203.t (.bool true) (ex_bin rfl (q203.e (j := 94) rfl) (q203.e (j := 96) rfl) (ltT _ _ hit _)) fun _ q204 => ?_;clear q203
      refine wpList_nil ?_
      go_upto_region 16 with fail
      refine wp_cond_true (q204.e (j := 97) rfl) ?_
      go_upto_region 16 with fail
      refine wp_region_lit ?_
      refine q204.t (.slice a18 X.length c18) (ex_move rfl (q204.e (j := 18) rfl)) fun _ q205 => ?_;clear q204
      refine q205.t (.int .i64 ((j : Nat) : Int)) (ex_move rfl (q205.e (j := 24) rfl)) fun _ q206 => ?_;clear q205
      refine q206.t (.pointer (some ⟨g, j * 10, none⟩)) (ex_ix rfl (q206.e (j := 100) rfl) (q206.e (j := 101) rfl) (by rw [hg]; exact ix0_68 g X.length c18 j hit _)) fun _ q207 => ?_;clear q206
      refine q207.t (.pointer (some ⟨g, j * 10 + 5, none⟩)) (ex_fa rfl (q207.e (j := 102) rfl) (fa3_68 _ _ _)) fun _ q208 => ?_;clear q207
      obtain ⟨wx, hst, ox, ux⟩ := stKb68 oj2 (fF_get hx) (-100)
      rw [fF_set (f := bz (-100)) hx] at ox
      refine vs wx (want_none rfl) (ex_st rfl (q208.e (j := 103) rfl) rfl hst) rfl ?_
      refine wpList_nil ?_
      rw [← hg] at ox
      have uj := uwd.tr20 ux (fun i _ hr => by have e : i = g := hr; rw [hg, e]; rfl)
      go_upto_region 15 with fail
      refine wp_region_lit ?_
      refine q208.t (.int .i64 ((j : Nat) : Int)) (ex_move rfl (q208.e (j := 24) rfl)) fun _ q209 => ?_;clear q208
      refine q209.t (.int .i64 ((j + 1 : Nat) : Int)) (ex_bin rfl (q209.e (j := 98) rfl) rfl (add1C _ _ j (by omega) _)) fun _ q210 => ?_;clear q209
      refine q210.t (.int .i64 ((j + 1 : Nat) : Int)) (ex_assign rfl (q210.e (j := 99) rfl)) fun _ q211 => ?_;clear q210
      have q212 := (((((((((((Rp.nil q211.z).cons (q211.a 0 rfl)).cons (q211.a 7 rfl)).cons (q211.a 8 rfl)).cons (q211.a 9 rfl)).cons (q211.a 12 rfl)).cons (q211.a 15 rfl)).cons (q211.a 18 rfl)).cons (q211.a 20 rfl)).cons (q211.a 22 rfl)).cons (q211.a 24 rfl))
      clear q211
      refine wpList_nil ?_
      exact ⟨_, rfl, hit, q212, ox, uj⟩
    · obtain rfl : j = X.length := by omega
      rw [fF_end] at oj
      replace o3 := o3.upd1 uwd (fun g hg e => by have := r3 g hg; have := r18 g e; omega)
      replace o9 := o9.upd1 uwd (fun g hg e => by have := r9 g hg; have := r18 g e; omega)
      replace o12 := o12.upd1 uwd (fun g hg e => by have := r12 g hg; have := r18 g e; omega)
      replace o15 := o15.upd1 uwd (fun g hg e => by have := r15 g hg; have := r18 g e; omega)
      replace o20 := o20.upd1 uwd (fun g hg e => by have := r20 g hg; have := r18 g e; omega)
      replace o22 := o22.upd1 uwd (fun g hg e => by have := r22 g hg; have := r18 g e; omega)
      replace Bk := Bk.upd uwd (fun e => by have := r18 _ e; omega)
      replace d := d.trans (uwd.below d.size (fun k hk => by have := r18 k hk; omega))
      replace o18 := oj
      clear oj
      go_upto_region 14 with fail
      refine wp_region_lit ?_
      refine q200.t (.int .i64 ((X.length : Nat) : Int)) (ex_move rfl (q200.e (j := 24) rfl)) fun _ q201 => ?_;clear q200
      refine q201.t (.slice a18 X.length c18) (ex_move rfl (q201.e (j := 18) rfl)) fun _ q202 => ?_;clear q201
      refine q202.t (.int .i64 ((X.length : Nat) : Int)) (ex_len18 rfl rfl (q202.e (j := 95) rfl)) fun _ q203 => ?_;clear q202
      refine q203.t (.bool false) (ex_bin rfl (q203.e (j := 94) rfl) (q203.e (j := 96) rfl) (ltF _ _ hit _)) fun _ q204 => ?_;clear q203
      refine wpList_nil ?_
      go_upto_region 17 with fail
      refine wp_cond_false (q204.e (j := 97) rfl) ?_
      go_upto_region 17 with fail
      refine wp_region_lit ?_
      refine q204.t (.int .i64 ((0 : Nat) : Int)) (ex_assign rfl rfl) fun _ q205 => ?_;clear q204
      have q206 := (((((((((((Rp.nil q205.z).cons (q205.a 0 rfl)).cons (q205.a 7 rfl)).cons (q205.a 8 rfl)).cons (q205.a 9 rfl)).cons (q205.a 12 rfl)).cons (q205.a 15 rfl)).cons (q205.a 18 rfl)).cons (q205.a 20 rfl)).cons (q205.a 22 rfl)).cons (q205.a 25 rfl))
      clear q205
      refine wpList_nil ?_
      go_upto_region 18 with fail
      refine v_loop 25 Y.length (fun j T wr => Rp T 224 [(25, gw true (.int .i64 ((j : Nat) : Int))), (22, gw true (.slice a22 X.length c22)), (20, gw true (.slice a20 Y.length c20)), (18, gw true (.slice a18 X.length c18)), (15, gw true (.slice a15 I1.length c15)), (12, gw true (.slice a12 I2.length c12)), (9, gw true (.slice a9 I1.length c9)), (8, gw true (.slice a3 l.length c3)), (7, gw true (.pointer (some ⟨w.heap.size, 0, none⟩))), (0, gw true (.slice a1 l.length c1))] ∧ Hid (OwnY yK w7.heap.size wr (.slice a20 Y.length c20) (fF (bz (-200)) j Y) ∧ Upd (fun k => Value.ownBlock (.slice a20 Y.length c20) = some k) wd wr)) (fun j T w h => h.1.a 25 rfl) ⟨q206, o20, Upd.refl _ _⟩ ?_
      clear q206
      intro j T we hj hh
      obtain ⟨q300, HJ⟩ := hh
      obtain ⟨oj, uwe⟩ := HJ.out
      clear HJ
      have ywe := uwe.size
      by_cases hit : j < Y.length
      · obtain ⟨x, hx⟩ : ∃ x, Y[j]? = some x := ⟨_, List.getElem?_eq_getElem (by omega)⟩
        obtain ⟨g, hg, hg1, hg2⟩ := ownP69 oj (by rw [fF_len]; omega)
        have oj2 := oj
        rw [hg] at oj2
        go_upto_region 18 with fail
        refine wp_region_lit ?_
        refine q300.t (.int .i64 ((j : Nat) : Int)) (ex_move rfl (q300.e (j := 25) rfl)) fun _ q301 => ?_;clear q300
        refine q301.t (.slice a20 Y.length c20) (ex_move rfl (q301.e (j := 20) rfl)) fun _ q302 => ?_;clear q301
        refine q302.t (.int .i64 ((Y.length : Nat) : Int)) (ex_len18 rfl rfl (q302.e (j := 105) rfl)) fun _ q303 => ?_;clear q302
        refine q303.t (.bool true) (ex_bin rfl (q303.e (j := 104) rfl) (q303.e (j := 106) rfl) (ltT _ _ hit _)) fun _ q304 => ?_;clear q303
        refine wpList_nil ?_
        go_upto_region 20 with fail
        refine wp_cond_true (q304.e (j := 107) rfl) ?_
        go_upto_region 20 with fail
        refine wp_region_lit ?_
        refine q304.t (.slice a20 Y.length c20) (ex_move rfl (q304.e (j := 20) rfl)) fun _ q305 => ?_;clear q304
        refine q305.t (.int .i64 ((j : Nat) : Int)) (ex_move rfl (q305.e (j := 25) rfl)) fun _ q306 => ?_;clear q305
        refine q306.t (.pointer (some ⟨g, j * 10, none⟩)) (ex_ix rfl (q306.e (j := 110) rfl) (q306.e (j := 111) rfl) (by rw [hg]; exact ix0_68 g Y.length c20 j hit _)) fun _ q307 => ?_;clear q306
        refine q307.t (.pointer (some ⟨g, j * 10 + 5, none⟩)) (ex_fa rfl (q307.e (j := 112) rfl) (fa3_68 _ _ _)) fun _ q308 => ?_;clear q307
        obtain ⟨wx, hst, ox, ux⟩ := stKb68 oj2 (fF_get hx) (-200)
        rw [fF_set (f := bz (-200)) hx] at ox
        refine vs wx (want_none rfl) (ex_st rfl (q308.e (j := 113) rfl) rfl hst) rfl ?_
        refine wpList_nil ?_
        rw [← hg] at ox
        have uj := uwe.tr20 ux (fun i _ hr => by have e : i = g := hr; rw [hg, e]; rfl)
        go_upto_region 19 with fail
        refine wp_region_lit ?_
        refine q308.t (.int .i64 ((j : Nat) : Int)) (ex_move rfl (q308.e (j := 25) rfl)) fun _ q309 => ?_;clear q308
        refine q309.t (.int .i64 ((j + 1 : Nat) : Int)) (ex_bin rfl (q309.e (j := 108) rfl) rfl (add1C _ _ j (by omega) _)) fun _ q310 => ?_;clear q309
        refine q310.t (.int .i64 ((j + 1 : Nat) : Int)) (ex_assign rfl (q310.e (j := 109) rfl)) fun _ q311 => ?_;clear q310
        have q312 := (((((((((((Rp.nil q311.z).cons (q311.a 0 rfl)).cons (q311.a 7 rfl)).cons (q311.a 8 rfl)).cons (q311.a 9 rfl)).cons (q311.a 12 rfl)).cons (q311.a 15 rfl)).cons (q311.a 18 rfl)).cons (q311.a 20 rfl)).cons (q311.a 22 rfl)).cons (q311.a 25 rfl))
        clear q311
        refine wpList_nil ?_
        exact ⟨_, rfl, hit, q312, ox, uj⟩
      · obtain rfl : j = Y.length := by omega
        rw [fF_end] at oj
        replace o3 := o3.upd1 uwe (fun g hg e => by have := r3 g hg; have := r20 g e; omega)
        replace o9 := o9.upd1 uwe (fun g hg e => by have := r9 g hg; have := r20 g e; omega)
        replace o12 := o12.upd1 uwe (fun g hg e => by have := r12 g hg; have := r20 g e; omega)
        replace o15 := o15.upd1 uwe (fun g hg e => by have := r15 g hg; have := r20 g e; omega)
        replace o18 := o18.upd1 uwe (fun g hg e => by have := r18 g hg; have := r20 g e; omega)
        replace o22 := o22.upd1 uwe (fun g hg e => by have := r22 g hg; have := r20 g e; omega)
        replace Bk := Bk.upd uwe (fun e => by have := r20 _ e; omega)
        replace d := d.trans (uwe.below d.size (fun k hk => by have := r20 k hk; omega))
        replace o20 := oj
        clear oj
        go_upto_region 18 with fail
        refine wp_region_lit ?_
        refine q300.t (.int .i64 ((Y.length : Nat) : Int)) (ex_move rfl (q300.e (j := 25) rfl)) fun _ q301 => ?_;clear q300
        refine q301.t (.slice a20 Y.length c20) (ex_move rfl (q301.e (j := 20) rfl)) fun _ q302 => ?_;clear q301
        refine q302.t (.int .i64 ((Y.length : Nat) : Int)) (ex_len18 rfl rfl (q302.e (j := 105) rfl)) fun _ q303 => ?_;clear q302
        refine q303.t (.bool false) (ex_bin rfl (q303.e (j := 104) rfl) (q303.e (j := 106) rfl) (ltF _ _ hit _)) fun _ q304 => ?_;clear q303
        refine wpList_nil ?_
        go_upto_region 21 with fail
        refine wp_cond_false (q304.e (j := 107) rfl) ?_
        go_upto_region 21 with fail
        refine wp_region_lit ?_
        refine q304.t (.slice a18 X.length c18) (ex_move rfl (q304.e (j := 18) rfl)) fun _ q305 => ?_;clear q304
        refine q305.t ((nK (-300)).val) (ex_buildP18 (P := #[(3, .int .i64 (-300))]) rfl (by simp only [List.map_toArray, List.map_cons, List.map_nil, evc] <;> rfl) (bdB68 _ _)) fun _ q306 => ?_;clear q305
        refine q306.t ((nK (-300)).val) (ex_buildP18 (P := #[(3, .int .i64 (-300))]) rfl (by simp only [List.map_toArray, List.map_cons, List.map_nil, evc] <;> rfl) (bdB68 _ _)) fun _ q307 => ?_;clear q306
        refine q307.t ((nK (-300)).val) (ex_buildP18 (P := #[(3, .int .i64 (-300))]) rfl (by simp only [List.map_toArray, List.map_cons, List.map_nil, evc] <;> rfl) (bdB68 _ _)) fun _ q308 => ?_;clear q307
        obtain ⟨wf, hwf⟩ : ∃ y, y = we.alloc (.cells (fl yK [nK (-300), nK (-300), nK (-300)]).toArray 45) := ⟨_, rfl⟩
        refine vw (.slice (some ⟨we.heap.size, 0, none⟩) 3 3) wf (want_none rfl) (ex_bs3_68 rfl (q308.e (j := 115) rfl) (q308.e (j := 116) rfl) (q308.e (j := 117) rfl) (by rw [hwf]; exact bs3_68 _ _)) rfl q308.z (by decide) (q308.k fun _ q309 => ?_);clear q308
        have swf : SlY yK wf (some ⟨we.heap.size, 0, none⟩) 3 3 [nK (-300), nK (-300), nK (-300)] := by rw [hwf]; exact sl_lit kK we [nK (-300), nK (-300), nK (-300)] 45 (by show 3 ≤ maxLen; unfold maxLen; omega)
        have bwf : Below we.heap.size we wf := by rw [hwf]; exact (Below.refl _ _).alloc (Nat.le_refl _) _
        clear hwf
        have ywf := bwf.size
        replace o3 := o3.grow bwf
        replace o9 := o9.grow bwf
        replace o12 := o12.grow bwf
        replace o15 := o15.grow bwf
        replace o18 := o18.grow bwf
        replace o20 := o20.grow bwf
        replace o22 := o22.grow bwf
        replace Bk := Bk.later bwf
        replace d := d.trans (bwf.mono d.size)
        obtain ⟨v26, wg, ha26, o26, g26, n26⟩ := run_appZ kK wf 24 w6.heap.size (X.map (bz (-100))) (.slice a18 X.length c18) _ 3 3 [nK (-300), nK (-300), nK (-300)] swf o18 (by omega) (by rw [List.length_map]; unfold maxLen; omega) (by rw [List.length_map]; show (X.length + 3) * 96 ≤ _; omega)
        have s18 := keep68 o18 o26 g26 n26
        have uwg := gupd63 g26
        have ywg := uwg.size
        have r26 : ∀ k, v26.ownBlock = some k → (w6.heap.size ≤ k ∧ k < w7.heap.size) ∨ wf.heap.size ≤ k := fun k hk => by
          rcases n26 with e | ⟨⟨k2, e, e2⟩, _⟩
          · exact .inl (r18 k (by rw [← e]; exact hk))
          · rw [e] at hk
            cases hk
            exact .inr e2
        replace o3 := o3.upd1 uwg (fun g hg e => by have := r3 g hg; have := r18 g e; omega)
        replace o9 := o9.upd1 uwg (fun g hg e => by have := r9 g hg; have := r18 g e; omega)
        replace o12 := o12.upd1 uwg (fun g hg e => by have := r12 g hg; have := r18 g e; omega)
        replace o15 := o15.upd1 uwg (fun g hg e => by have := r15 g hg; have := r18 g e; omega)
        replace o20 := o20.upd1 uwg (fun g hg e => by have := r20 g hg; have := r18 g e; omega)
        replace o22 := o22.upd1 uwg (fun g hg e => by have := r22 g hg; have := r18 g e; omega)
        replace Bk := Bk.upd uwg (fun e => by have := r18 _ e; omega)
        replace d := d.trans (uwg.below d.size (fun k hk => by have := r18 k hk; omega))
        have hl26 : ((X.map (bz (-100))) ++ [nK (-300), nK (-300), nK (-300)]).length = X.length + 3 := by rw [List.length_append, List.length_map]; rfl
        obtain ⟨a26, c26, hv26, _, _, _, _⟩ := o26.form
        rw [hl26] at hv26
        subst hv26
        clear g26 n26 o18 swf
        refine vw (.slice a26 (X.length + 3) c26) wg (want_none rfl) (ex_app18 rfl (q309.e (j := 114) rfl) (q309.e (j := 118) rfl) ha26) rfl q309.z (by decide) (q309.k fun _ q310 => ?_);clear q309
        refine q310.t (.slice a26 (X.length + 3) c26) (ex_assign rfl (q310.e (j := 119) rfl)) fun _ q311 => ?_;clear q310
        refine wpList_nil ?_
        go_upto_region 22 with fail
        refine wp_region_lit ?_
        refine q311.t (.slice a20 Y.length c20) (ex_move rfl (q311.e (j := 20) rfl)) fun _ q312 => ?_;clear q311
        refine q312.t ((nK (-400)).val) (ex_buildP18 (P := #[(3, .int .i64 (-400))]) rfl (by simp only [List.map_toArray, List.map_cons, List.map_nil, evc] <;> rfl) (bdB68 _ _)) fun _ q313 => ?_;clear q312
        refine q313.t ((nK (-400)).val) (ex_buildP18 (P := #[(3, .int .i64 (-400))]) rfl (by simp only [List.map_toArray, List.map_cons, List.map_nil, evc] <;> rfl) (bdB68 _ _)) fun _ q314 => ?_;clear q313
        refine q314.t ((nK (-400)).val) (ex_buildP18 (P := #[(3, .int .i64 (-400))]) rfl (by simp only [List.map_toArray, List.map_cons, List.map_nil, evc] <;> rfl) (bdB68 _ _)) fun _ q315 => ?_;clear q314
        obtain ⟨wh, hwh⟩ : ∃ y, y = wg.alloc (.cells (fl yK [nK (-400), nK (-400), nK (-400)]).toArray 45) := ⟨_, rfl⟩
        refine vw (.slice (some ⟨wg.heap.size, 0, none⟩) 3 3) wh (want_none rfl) (ex_bs3_68 rfl (q315.e (j := 121) rfl) (q315.e (j := 122) rfl) (q315.e (j := 123) rfl) (by rw [hwh]; exact bs3_68 _ _)) rfl q315.z (by decide) (q315.k fun _ q316 => ?_);clear q315
        have swh : SlY yK wh (some ⟨wg.heap.size, 0, none⟩) 3 3 [nK (-400), nK (-400), nK (-400)] := by rw [hwh]; exact sl_lit kK wg [nK (-400), nK (-400), nK (-400)] 45 (by show 3 ≤ maxLen; unfold maxLen; omega)
        have bwh : Below wg.heap.size wg wh := by rw [hwh]; exact (Below.refl _ _).alloc (Nat.le_refl _) _
        clear hwh
        have ywh := bwh.size
        replace o3 := o3.grow bwh
        replace o9 := o9.grow bwh
        replace o12 := o12.grow bwh
        replace o15 := o15.grow bwh
        replace o20 := o20.grow bwh
        replace o22 := o22.grow bwh
        replace o26 := o26.grow bwh
        replace s18 := s18.later bwh
        replace Bk := Bk.later bwh
        replace d := d.trans (bwh.mono d.size)
        obtain ⟨v27, wi, ha27, o27, g27, n27⟩ := run_appZ kK wh 24 w7.heap.size (Y.map (bz (-200))) (.slice a20 Y.length c20) _ 3 3 [nK (-400), nK (-400), nK (-400)] swh o20 (by omega) (by rw [List.length_map]; unfold maxLen; omega) (by rw [List.length_map]; show (Y.length + 3) * 96 ≤ _; omega)
        have s20 := keep68 o20 o27 g27 n27
        have uwi := gupd63 g27
        have ywi := uwi.size
        have r27 : ∀ k, v27.ownBlock = some k → (w7.heap.size ≤ k ∧ k < w8.heap.size) ∨ wh.heap.size ≤ k := fun k hk => by
          rcases n27 with e | ⟨⟨k2, e, e2⟩, _⟩
          · exact .inl (r20 k (by rw [← e]; exact hk))
          · rw [e] at hk
            cases hk
            exact .inr e2
        replace o3 := o3.upd1 uwi (fun g hg e => by have := r3 g hg; have := r20 g e; omega)
        replace o9 := o9.upd1 uwi (fun g hg e => by have := r9 g hg; have := r20 g e; omega)
        replace o12 := o12.upd1 uwi (fun g hg e => by have := r12 g hg; have := r20 g e; omega)
        replace o15 := o15.upd1 uwi (fun g hg e => by have := r15 g hg; have := r20 g e; omega)
        replace o22 := o22.upd1 uwi (fun g hg e => by have := r22 g hg; have := r20 g e; omega)
        replace o26 := o26.upd1 uwi (fun g hg e => by have := r26 g hg; have := r20 g e; omega)
        replace s18 := s18.off68 uwi (fun g hg e => by have := r18 g hg; have := r20 g e; omega)
        replace Bk := Bk.upd uwi (fun e => by have := r20 _ e; omega)
        replace d := d.trans (uwi.below d.size (fun k hk => by have := r20 k hk; omega))
        have hl27 : ((Y.map (bz (-200))) ++ [nK (-400), nK (-400), nK (-400)]).length = Y.length + 3 := by rw [List.length_append, List.length_map]; rfl
        obtain ⟨a27, c27, hv27, _, _, _, _⟩ := o27.form
        rw [hl27] at hv27
        subst hv27
        clear g27 n27 o20 swh
        refine vw (.slice a27 (Y.length + 3) c27) wi (want_none rfl) (ex_app18 rfl (q316.e (j := 120) rfl) (q316.e (j := 124) rfl) ha27) rfl q316.z (by decide) (q316.k fun _ q317 => ?_);clear q316
        refine q317.t (.slice a27 (Y.length + 3) c27) (ex_assign rfl (q317.e (j := 125) rfl)) fun _ q318 => ?_;clear q317
        refine wpList_nil ?_
        go_upto_region 23 with fail
        refine wp_region_lit ?_
        refine q318.t (.int .i64 ((0 : Nat) : Int)) (ex_assign rfl rfl) fun _ q319 => ?_;clear q318
        have q320 := (((((((((((((Rp.nil q319.z).cons (q319.a 0 rfl)).cons (q319.a 7 rfl)).cons (q319.a 8 rfl)).cons (q319.a 9 rfl)).cons (q319.a 12 rfl)).cons (q319.a 15 rfl)).cons (q319.a 18 rfl)).cons (q319.a 20 rfl)).cons (q319.a 22 rfl)).cons (q319.a 26 rfl)).cons (q319.a 27 rfl)).cons (q319.a 28 rfl))
        clear q319
        refine wpList_nil ?_
        go_upto_region 24 with fail
        refine v_loop 28 X.length (fun j T wr => Rp T 224 [(28, gw true (.int .i64 ((j : Nat) : Int))), (27, gw true (.slice a27 (Y.length + 3) c27)), (26, gw true (.slice a26 (X.length + 3) c26)), (22, gw true (.slice a22 X.length c22)), (20, gw true (.slice a20 Y.length c20)), (18, gw true (.slice a18 X.length c18)), (15, gw true (.slice a15 I1.length c15)), (12, gw true (.slice a12 I2.length c12)), (9, gw true (.slice a9 I1.length c9)), (8, gw true (.slice a3 l.length c3)), (7, gw true (.pointer (some ⟨w.heap.size, 0, none⟩))), (0, gw true (.slice a1 l.length c1))] ∧ wr = wi) (fun j T w h => h.1.a 28 rfl) ⟨q320, rfl⟩ ?_
        clear q320
        intro j T wr hj hh
        obtain ⟨q400, hwr⟩ := hh
        have hwr := hwr.symm
        subst hwr
        by_cases hit : j < X.length
        · obtain ⟨x, hx⟩ : ∃ x, X[j]? = some x := ⟨_, List.getElem?_eq_getElem (by omega)⟩
          go_upto_region 24 with fail
          refine wp_region_lit ?_
          refine q400.t (.int .i64 ((j : Nat) : Int)) (ex_move rfl (q400.e (j := 28) rfl)) fun _ q401 => ?_;clear q400
          refine q401.t (.slice a22 X.length c22) (ex_move rfl (q401.e (j := 22) rfl)) fun _ q402 => ?_;clear q401
          refine q402.t (.int .i64 ((X.length : Nat) : Int)) (ex_len18 rfl rfl (q402.e (j := 127) rfl)) fun _ q403 => ?_;clear q402
          refine q403.t (.bool true) (ex_bin rfl (q403.e (j := 126) rfl) (q403.e (j := 128) rfl) (ltT _ _ hit _)) fun _ q404 => ?_;clear q403
          refine wpList_nil ?_
          go_upto_region 26 with fail
          refine wp_cond_true (q404.e (j := 129) rfl) ?_
          go_upto_region 26 with fail
          refine wp_region_lit ?_
          obtain ⟨g, hg, hg1, hg2⟩ := ownP69 o22 (by omega)
          have oz := o22
          rw [hg] at oz
          have px := pX x (List.mem_of_getElem? hx)
          obtain ⟨qa, oa, hqa, hqal, hl9⟩ := s18.place (by intro e; have h9 := congrArg List.length e; rw [List.length_map] at h9; have h8 : X.length = 0 := h9; omega)
          have hxb : (X.map (bz (-100)))[j]? = some (bz (-100) x) := by rw [List.getElem?_map, hx]; rfl
          refine q404.t (.slice a22 X.length c22) (ex_move rfl (q404.e (j := 22) rfl)) fun _ q405 => ?_;clear q404
          refine q405.t (.int .i64 ((j : Nat) : Int)) (ex_move rfl (q405.e (j := 28) rfl)) fun _ q406 => ?_;clear q405
          refine q406.t (.pointer (some ⟨g, j * 10, none⟩)) (ex_ix rfl (q406.e (j := 132) rfl) (q406.e (j := 133) rfl) (by rw [hg]; exact ix0_68 g X.length c22 j hit _)) fun _ q407 => ?_;clear q406
          refine q407.t (.pointer (some ⟨g, j * 10 + 5, none⟩)) (ex_fa rfl (q407.e (j := 134) rfl) (fa3_68 _ _ _)) fun _ q408 => ?_;clear q407
          refine q408.t (.int .i64 (x.b)) (ex_ld rfl (q408.e (j := 135) rfl) (ldI18 (oz.cell kK j x hx 5 _ rfl))) fun _ q409 => ?_;clear q408
          refine q409.t (.bool false) (ex_bin (Y := .int .i64 (0)) rfl (q409.e (j := 136) rfl) rfl (ltF62 _ _ (by omega) _)) fun _ q410 => ?_;clear q409
          refine q410.t (.bool false) (ex_move rfl (q410.e (j := 137) rfl)) fun _ q411 => ?_;clear q410
          refine vl _ (.slice a18 X.length c18) (want_g rfl rfl (q411.a 138 rfl)) (fun hc => ex_move rfl (q411.e (j := 18) rfl)) rfl q411.z (by decide) (q411.k fun _ q412 => ?_);clear q411
          refine vl _ (.int .i64 ((j : Nat) : Int)) (want_g rfl rfl (q412.a 138 rfl)) (fun hc => ex_move rfl (q412.e (j := 28) rfl)) rfl q412.z (by decide) (q412.k fun _ q413 => ?_);clear q412
          refine vl _ (.pointer (some ⟨qa, oa + j * 10, none⟩)) (want_g rfl rfl (q413.a 138 rfl)) (fun hc => ex_ix rfl (ev (q413.a 139 rfl) hc) (ev (q413.a 140 rfl) hc) (by rw [hqa]; exact ixK qa oa X.length c18 j hit _)) rfl q413.z (by decide) (q413.k fun _ q414 => ?_);clear q413
          refine vl _ (.pointer (some ⟨qa, oa + j * 10 + 5, none⟩)) (want_g rfl rfl (q414.a 138 rfl)) (fun hc => ex_fa rfl (ev (q414.a 141 rfl) hc) (fa3_68 _ _ _)) rfl q414.z (by decide) (q414.k fun _ q415 => ?_);clear q414
          refine vl _ (.int .i64 (-100)) (want_g rfl rfl (q415.a 138 rfl)) (fun hc => ex_ld rfl (ev (q415.a 142 rfl) hc) (ldI18 (hl9 j (bz (-100) x) hxb 5 _ rfl))) rfl q415.z (by decide) (q415.k fun _ q416 => ?_);clear q415
          refine vl _ (.bool false) (want_g rfl rfl (q416.a 138 rfl)) (fun hc => ex_bin (Y := .int .i64 (-100)) rfl (ev (q416.a 143 rfl) hc) rfl (neqF62 _ _ rfl _)) rfl q416.z (by decide) (q416.k fun _ q417 => ?_);clear q416
          refine q417.t (.bool false) (ex_or (c := true) (b := false) (z := false) rfl (q417.a 138 rfl) (q417.a 144 rfl) rfl) fun _ q418 => ?_;clear q417
          refine wpList_nil ?_
          go_upto_region 25 with fail
          refine wp_cond_false (q418.e (j := 145) rfl) ?_
          go_upto_region 25 with fail
          refine wp_region_lit ?_
          refine q418.t (.int .i64 ((j : Nat) : Int)) (ex_move rfl (q418.e (j := 28) rfl)) fun _ q419 => ?_;clear q418
          refine q419.t (.int .i64 ((j + 1 : Nat) : Int)) (ex_bin rfl (q419.e (j := 130) rfl) rfl (add1C _ _ j (by omega) _)) fun _ q420 => ?_;clear q419
          refine q420.t (.int .i64 ((j + 1 : Nat) : Int)) (ex_assign rfl (q420.e (j := 131) rfl)) fun _ q421 => ?_;clear q420
          have q422 := (((((((((((((Rp.nil q421.z).cons (q421.a 0 rfl)).cons (q421.a 7 rfl)).cons (q421.a 8 rfl)).cons (q421.a 9 rfl)).cons (q421.a 12 rfl)).cons (q421.a 15 rfl)).cons (q421.a 18 rfl)).cons (q421.a 20 rfl)).cons (q421.a 22 rfl)).cons (q421.a 26 rfl)).cons (q421.a 27 rfl)).cons (q421.a 28 rfl))
          clear q421
          refine wpList_nil ?_
          exact ⟨_, rfl, hit, q422, rfl⟩
        · obtain rfl : j = X.length := by omega
          go_upto_region 24 with fail
          refine wp_region_lit ?_
          refine q400.t (.int .i64 ((X.length : Nat) : Int)) (ex_move rfl (q400.e (j := 28) rfl)) fun _ q401 => ?_;clear q400
          refine q401.t (.slice a22 X.length c22) (ex_move rfl (q401.e (j := 22) rfl)) fun _ q402 => ?_;clear q401
          refine q402.t (.int .i64 ((X.length : Nat) : Int)) (ex_len18 rfl rfl (q402.e (j := 127) rfl)) fun _ q403 => ?_;clear q402
          refine q403.t (.bool false) (ex_bin rfl (q403.e (j := 126) rfl) (q403.e (j := 128) rfl) (ltF _ _ hit _)) fun _ q404 => ?_;clear q403
          refine wpList_nil ?_
          go_upto_region 28 with fail
          refine wp_cond_false (q404.e (j := 129) rfl) ?_
          go_upto_region 28 with fail
          refine wp_region_lit ?_
          refine q404.t (.int .i64 ((0 : Nat) : Int)) (ex_assign rfl rfl) fun _ q405 => ?_;clear q404
          have q406 := (((((((((((((Rp.nil q405.z).cons (q405.a 0 rfl)).cons (q405.a 7 rfl)).cons (q405.a 8 rfl)).cons (q405.a 9 rfl)).cons (q405.a 12 rfl)).cons (q405.a 15 rfl)).cons (q405.a 18 rfl)).cons (q405.a 20 rfl)).cons (q405.a 22 rfl)).cons (q405.a 26 rfl)).cons (q405.a 27 rfl)).cons (q405.a 29 rfl))
          clear q405
          refine wpList_nil ?_
          go_upto_region 29 with fail
          refine v_loop 29 Y.length (fun j T wr => Rp T 224 [(29, gw true (.int .i64 ((j : Nat) : Int))), (27, gw true (.slice a27 (Y.length + 3) c27)), (26, gw true (.slice a26 (X.length + 3) c26)), (22, gw true (.slice a22 X.length c22)), (20, gw true (.slice a20 Y.length c20)), (18, gw true (.slice a18 X.length c18)), (15, gw true (.slice a15 I1.length c15)), (12, gw true (.slice a12 I2.length c12)), (9, gw true (.slice a9 I1.length c9)), (8, gw true (.slice a3 l.length c3)), (7, gw true (.pointer (some ⟨w.heap.size, 0, none⟩))), (0, gw true (.slice a1 l.length c1))] ∧ wr = wi) (fun j T w h => h.1.a 29 rfl) ⟨q406, rfl⟩ ?_
          clear q406
          intro j T wr hj hh
          obtain ⟨q500, hwr⟩ := hh
          have hwr := hwr.symm
          subst hwr
          by_cases hit : j < Y.length
          · obtain ⟨x, hx⟩ : ∃ x, Y[j]? = some x := ⟨_, List.getElem?_eq_getElem (by omega)⟩
            go_upto_region 29 with fail
            refine wp_region_lit ?_
            refine q500.t (.int .i64 ((j : Nat) : Int)) (ex_move rfl (q500.e (j := 29) rfl)) fun _ q501 => ?_;clear q500
            refine q501.t (.slice a20 Y.length c20) (ex_move rfl (q501.e (j := 20) rfl)) fun _ q502 => ?_;clear q501
            refine q502.t (.int .i64 ((Y.length : Nat) : Int)) (ex_len18 rfl rfl (q502.e (j := 147) rfl)) fun _ q503 => ?_;clear q502
            refine q503.t (.bool true) (ex_bin rfl (q503.e (j := 146) rfl) (q503.e (j := 148) rfl) (ltT _ _ hit _)) fun _ q504 => ?_;clear q503
            refine wpList_nil ?_
            go_upto_region 31 with fail
            refine wp_cond_true (q504.e (j := 149) rfl) ?_
            go_upto_region 31 with fail
            refine wp_region_lit ?_
            obtain ⟨qa, oa, hqa, hqal, hl9⟩ := s20.place (by intro e; have h9 := congrArg List.length e; rw [List.length_map] at h9; have h8 : Y.length = 0 := h9; omega)
            have hxb : (Y.map (bz (-200)))[j]? = some (bz (-200) x) := by rw [List.getElem?_map, hx]; rfl
            refine q504.t (.slice a20 Y.length c20) (ex_move rfl (q504.e (j := 20) rfl)) fun _ q505 => ?_;clear q504
            refine q505.t (.int .i64 ((j : Nat) : Int)) (ex_move rfl (q505.e (j := 29) rfl)) fun _ q506 => ?_;clear q505
            refine q506.t (.pointer (some ⟨qa, oa + j * 10, none⟩)) (ex_ix rfl (q506.e (j := 152) rfl) (q506.e (j := 153) rfl) (by rw [hqa]; exact ixK qa oa Y.length c20 j hit _)) fun _ q507 => ?_;clear q506
            refine q507.t (.pointer (some ⟨qa, oa + j * 10 + 5, none⟩)) (ex_fa rfl (q507.e (j := 154) rfl) (fa3_68 _ _ _)) fun _ q508 => ?_;clear q507
            refine q508.t (.int .i64 (-200)) (ex_ld rfl (q508.e (j := 155) rfl) (ldI18 (hl9 j (bz (-200) x) hxb 5 _ rfl))) fun _ q509 => ?_;clear q508
            refine q509.t (.bool false) (ex_bin (Y := .int .i64 (-200)) rfl (q509.e (j := 156) rfl) rfl (neqF62 _ _ rfl _)) fun _ q510 => ?_;clear q509
            refine wpList_nil ?_
            go_upto_region 30 with fail
            refine wp_cond_false (q510.e (j := 157) rfl) ?_
            go_upto_region 30 with fail
            refine wp_region_lit ?_
            refine q510.t (.int .i64 ((j : Nat) : Int)) (ex_move rfl (q510.e (j := 29) rfl)) fun _ q511 => ?_;clear q510
            refine q511.t (.int .i64 ((j + 1 : Nat) : Int)) (ex_bin rfl (q511.e (j := 150) rfl) rfl (add1C _ _ j (by omega) _)) fun _ q512 => ?_;clear q511
            refine q512.t (.int .i64 ((j + 1 : Nat) : Int)) (ex_assign rfl (q512.e (j := 151) rfl)) fun _ q513 => ?_;clear q512
            have q514 := (((((((((((((Rp.nil q513.z).cons (q513.a 0 rfl)).cons (q513.a 7 rfl)).cons (q513.a 8 rfl)).cons (q513.a 9 rfl)).cons (q513.a 12 rfl)).cons (q513.a 15 rfl)).cons (q513.a 18 rfl)).cons (q513.a 20 rfl)).cons (q513.a 22 rfl)).cons (q513.a 26 rfl)).cons (q513.a 27 rfl)).cons (q513.a 29 rfl))
            clear q513
            refine wpList_nil ?_
            exact ⟨_, rfl, hit, q514, rfl⟩
          · obtain rfl : j = Y.length := by omega
            go_upto_region 29 with fail
            refine wp_region_lit ?_
            refine q500.t (.int .i64 ((Y.length : Nat) : Int)) (ex_move rfl (q500.e (j := 29) rfl)) fun _ q501 => ?_;clear q500
            refine q501.t (.slice a20 Y.length c20) (ex_move rfl (q501.e (j := 20) rfl)) fun _ q502 => ?_;clear q501
            refine q502.t (.int .i64 ((Y.length : Nat) : Int)) (ex_len18 rfl rfl (q502.e (j := 147) rfl)) fun _ q503 => ?_;clear q502
            refine q503.t (.bool false) (ex_bin rfl (q503.e (j := 146) rfl) (q503.e (j := 148) rfl) (ltF _ _ hit _)) fun _ q504 => ?_;clear q503
            refine wpList_nil ?_
            go_upto_region 33 with fail
            refine wp_cond_false (q504.e (j := 149) rfl) ?_
            go_upto_region 33 with fail
            refine wp_region_lit ?_
            clear s18 s20 o22
            have okv : OwnY zN w3.heap.size wi nilS [] := OwnY.nil _ _ _
            have hrk : ∀ (i : Nat) (y : SV Int), ([] : List (SV Int))[i]? = some y → OwnY yN w3.heap.size wi y.v y.D ∧ y.D.length ≤ 8 := fun i y h => by simp at h
            have hzk := Rz68.nil w3.heap.size
            refine q504.t (.slice a9 I1.length c9) (ex_move rfl (q504.e (j := 9) rfl)) fun _ q505 => ?_;clear q504
            refine vcallP (want_none rfl) (ex_call rfl (by simp only [List.map_toArray, List.map_cons, List.map_nil, (q505.e (j := 7) rfl), (q505.e (j := 158) rfl), evc] <;> rfl) rfl) (ints68 w.heap.size w3.heap.size w3.heap.size w4.heap.size nilS [] ⟨a9, c9, I1⟩ wi Bk okv (by omega) (by omega) (by show 0 ≤ 100; omega) hrk hzk (o9.low (by omega)) (by exact i1) r9 (by omega)) rfl q505.z (by decide) ?_
            rintro e wj ⟨kv0, K0, rfl, Bk2, okv2, hkn0, hrk2, hzk2, uwj⟩
            refine ⟨_, rfl, q505.k fun _ q506 => ?_⟩;clear q505
            have ywj := uwj.size
            replace hkn0 : K0.length ≤ 1 := hkn0
            replace o3 := o3.upd1 uwj (fun g hg e => by
              rcases e with e | e
              · have := r3 g hg
                omega
              · exact OwnY.apart o3 okv hK_Z g hg e)
            replace o12 := o12.upd1 uwj (fun g hg e => by
              rcases e with e | e
              · have := r12 g hg
                omega
              · exact OwnY.apart o12 okv hN_NN g hg e)
            replace o15 := o15.upd1 uwj (fun g hg e => by
              rcases e with e | e
              · have := r15 g hg
                omega
              · exact OwnY.apart o15 okv hN_NN g hg e)
            replace o26 := o26.upd1 uwj (fun g hg e => by
              rcases e with e | e
              · have := r26 g hg
                omega
              · exact OwnY.apart o26 okv hK_Z g hg e)
            replace o27 := o27.upd1 uwj (fun g hg e => by
              rcases e with e | e
              · have := r27 g hg
                omega
              · exact OwnY.apart o27 okv hK_Z g hg e)
            replace d := d.trans (uwj.below d.size (fun k hk => by
              rcases hk with e | e
              · omega
              · have := (okv.blk k e).1
                omega))
            replace Bk := Bk2
            replace okv := okv2
            replace hrk := hrk2
            replace hzk := hzk2
            clear Bk2 okv2 hrk2 hzk2
            refine wpList_nil ?_
            go_upto_region 34 with fail
            refine wp_region_lit ?_
            refine q506.t (.slice a12 I2.length c12) (ex_move rfl (q506.e (j := 12) rfl)) fun _ q507 => ?_;clear q506
            refine vcallP (want_none rfl) (ex_call rfl (by simp only [List.map_toArray, List.map_cons, List.map_nil, (q507.e (j := 7) rfl), (q507.e (j := 160) rfl), evc] <;> rfl) rfl) (ints68 w.heap.size w3.heap.size w4.heap.size w5.heap.size kv0 K0 ⟨a12, c12, I2⟩ wj Bk okv (by omega) (by omega) (by omega) hrk hzk (o12.low (by omega)) (by exact i2) r12 (by omega)) rfl q507.z (by decide) ?_
            rintro e wk ⟨kv1, K1, rfl, Bk2, okv2, hkn1, hrk2, hzk2, uwk⟩
            refine ⟨_, rfl, q507.k fun _ q508 => ?_⟩;clear q507
            have ywk := uwk.size
            replace o3 := o3.upd1 uwk (fun g hg e => by
              rcases e with e | e
              · have := r3 g hg
                omega
              · exact OwnY.apart o3 okv hK_Z g hg e)
            replace o15 := o15.upd1 uwk (fun g hg e => by
              rcases e with e | e
              · have := r15 g hg
                omega
              · exact OwnY.apart o15 okv hN_NN g hg e)
            replace o26 := o26.upd1 uwk (fun g hg e => by
              rcases e with e | e
              · have := r26 g hg
                omega
              · exact OwnY.apart o26 okv hK_Z g hg e)
            replace o27 := o27.upd1 uwk (fun g hg e => by
              rcases e with e | e
              · have := r27 g hg
                omega
              · exact OwnY.apart o27 okv hK_Z g hg e)
            replace d := d.trans (uwk.below d.size (fun k hk => by
              rcases hk with e | e
              · omega
              · have := (okv.blk k e).1
                omega))
            replace Bk := Bk2
            replace okv := okv2
            replace hrk := hrk2
            replace hzk := hzk2
            clear Bk2 okv2 hrk2 hzk2
            refine wpList_nil ?_
            go_upto_region 35 with fail
            refine wp_region_lit ?_
            refine q508.t (.slice a15 I1.length c15) (ex_move rfl (q508.e (j := 15) rfl)) fun _ q509 => ?_;clear q508
            refine vcallP (want_none rfl) (ex_call rfl (by simp only [List.map_toArray, List.map_cons, List.map_nil, (q509.e (j := 7) rfl), (q509.e (j := 162) rfl), evc] <;> rfl) rfl) (ints68 w.heap.size w3.heap.size w5.heap.size w6.heap.size kv1 K1 ⟨a15, c15, I1⟩ wk Bk okv (by omega) (by omega) (by omega) hrk hzk (o15.low (by omega)) (by exact i1) r15 (by omega)) rfl q509.z (by decide) ?_
            rintro e wl ⟨kv2, K2, rfl, Bk2, okv2, hkn2, hrk2, hzk2, uwl⟩
            refine ⟨_, rfl, q509.k fun _ q510 => ?_⟩;clear q509
            have ywl := uwl.size
            replace o3 := o3.upd1 uwl (fun g hg e => by
              rcases e with e | e
              · have := r3 g hg
                omega
              · exact OwnY.apart o3 okv hK_Z g hg e)
            replace o26 := o26.upd1 uwl (fun g hg e => by
              rcases e with e | e
              · have := r26 g hg
                omega
              · exact OwnY.apart o26 okv hK_Z g hg e)
            replace o27 := o27.upd1 uwl (fun g hg e => by
              rcases e with e | e
              · have := r27 g hg
                omega
              · exact OwnY.apart o27 okv hK_Z g hg e)
            replace d := d.trans (uwl.below d.size (fun k hk => by
              rcases hk with e | e
              · omega
              · have := (okv.blk k e).1
                omega))
            replace Bk := Bk2
            replace okv := okv2
            replace hrk := hrk2
            replace hzk := hzk2
            clear Bk2 okv2 hrk2 hzk2
            refine wpList_nil ?_
            have hK3 : K2.length ≤ 3 := by omega
            obtain ⟨ak, ck, hkv, _, _, _, _⟩ := okv.form
            subst hkv
            have q511 := ((((((((Rp.nil q510.z).cons (q510.a 0 rfl)).cons (q510.a 7 rfl)).cons (q510.a 8 rfl)).cons (q510.a 18 rfl)).cons (q510.a 20 rfl)).cons (q510.a 26 rfl)).cons (q510.a 27 rfl))
            clear q510
            go_upto_region 36 with fail
            refine wp_region_lit ?_
            refine vcallP (want_none rfl) (ex_call rfl (by simp only [List.map_toArray, List.map_cons, List.map_nil, (q511.e (j := 7) rfl), evc] <;> rfl) rfl) (apart_bk67 K2 ak ck w.heap.size w3.heap.size wl Bk okv (by omega) (by omega) (fun i y hy => (hrk i y hy).1) hzk.2 (by omega) (fun i y hy => by have := (hrk i y hy).2; omega)) rfl q511.z (by decide) ?_
            rintro e wm ⟨rfl, um⟩
            refine ⟨_, rfl, q511.k fun _ q512 => ?_⟩;clear q511
            have ym := um.size
            replace o3 := o3.upd1 um (fun g hg ⟨i, y, hy, e⟩ => OwnY.apart o3 (hrk i y hy).1 hK_N g hg e)
            replace o26 := o26.upd1 um (fun g hg ⟨i, y, hy, e⟩ => OwnY.apart o26 (hrk i y hy).1 hK_N g hg e)
            replace o27 := o27.upd1 um (fun g hg ⟨i, y, hy, e⟩ => OwnY.apart o27 (hrk i y hy).1 hK_N g hg e)
            replace d := d.trans (um.below d.size (fun k ⟨i, y, hy, e⟩ => by have := ((hrk i y hy).1.blk k e).1; omega))
            clear hrk hzk okv Bk
            refine q512.t (.bool false) (ex_not rfl (q512.e (j := 164) rfl)) fun _ q513 => ?_;clear q512
            refine q513.t (.bool false) (ex_move rfl (q513.e (j := 165) rfl)) fun _ q514 => ?_;clear q513
            refine vl _ (.slice a3 l.length c3) (want_g rfl rfl (q514.a 166 rfl)) (fun hc => ex_move rfl (q514.e (j := 8) rfl)) rfl q514.z (by decide) (q514.k fun _ q515 => ?_);clear q514
            refine vl _ (.slice a1 l.length c1) (want_g rfl rfl (q515.a 166 rfl)) (fun hc => ex_move rfl (q515.e (j := 0) rfl)) rfl q515.z (by decide) (q515.k fun _ q516 => ?_);clear q515
            refine vcallP (show Region.wanted _ _ = (true && (false == false)) from want_g rfl rfl (q516.a 166 rfl)) (ex_call rfl (by simp only [List.map_toArray, List.map_cons, List.map_nil, (ev (q516.a 167 rfl) rfl), (ev (q516.a 168 rfl) rfl), evc] <;> rfl) rfl) (same18 l a3 a1 c3 c1 wm (o3.sl' kK) (h1.later d) (by omega)) rfl q516.z (by decide) ?_
            rintro e wn ⟨rfl, bn⟩
            refine ⟨_, rfl, q516.k fun _ q517 => ?_⟩;clear q516
            have zn := bn.size
            replace o3 := o3.grow bn
            replace o26 := o26.grow bn
            replace o27 := o27.grow bn
            replace d := d.trans (bn.mono d.size)
            refine vl _ (.bool false) (want_g rfl rfl (q517.a 166 rfl)) (fun hc => ex_not rfl (ev (q517.a 169 rfl) hc)) rfl q517.z (by decide) (q517.k fun _ q518 => ?_);clear q517
            refine q518.t (.bool false) (ex_or (c := true) (b := false) (z := false) rfl (q518.a 166 rfl) (q518.a 170 rfl) rfl) fun _ q519 => ?_;clear q518
            refine q519.t (.bool false) (ex_move rfl (q519.e (j := 171) rfl)) fun _ q520 => ?_;clear q519
            obtain ⟨g26, hg26, _, _⟩ := ownP69 o26 (by rw [hl26]; omega)
            have oz26 := o26
            rw [hg26] at oz26
            have hx26 : (X.map (bz (-100)) ++ [nK (-300), nK (-300), nK (-300)])[X.length]? = some (nK (-300)) := by
              rw [List.getElem?_append_right (by rw [List.length_map]; exact Nat.le_refl _), List.length_map, Nat.sub_self]
              rfl
            refine vl _ (.slice a26 (X.length + 3) c26) (want_g rfl rfl (q520.a 172 rfl)) (fun hc => ex_move rfl (q520.e (j := 26) rfl)) rfl q520.z (by decide) (q520.k fun _ q521 => ?_);clear q520
            refine vl _ (.slice a18 X.length c18) (want_g rfl rfl (q521.a 172 rfl)) (fun hc => ex_move rfl (q521.e (j := 18) rfl)) rfl q521.z (by decide) (q521.k fun _ q522 => ?_);clear q521
            refine vl _ (.int .i64 ((X.length : Nat) : Int)) (want_g rfl rfl (q522.a 172 rfl)) (fun hc => ex_len18 rfl rfl (ev (q522.a 174 rfl) hc)) rfl q522.z (by decide) (q522.k fun _ q523 => ?_);clear q522
            refine vl _ (.pointer (some ⟨g26, X.length * 10, none⟩)) (want_g rfl rfl (q523.a 172 rfl)) (fun hc => ex_ix rfl (ev (q523.a 173 rfl) hc) (ev (q523.a 175 rfl) hc) (by rw [hg26]; exact ix0_68 g26 (X.length + 3) c26 X.length (by omega) _)) rfl q523.z (by decide) (q523.k fun _ q524 => ?_);clear q523
            refine vl _ (.pointer (some ⟨g26, X.length * 10 + 5, none⟩)) (want_g rfl rfl (q524.a 172 rfl)) (fun hc => ex_fa rfl (ev (q524.a 176 rfl) hc) (fa3_68 _ _ _)) rfl q524.z (by decide) (q524.k fun _ q525 => ?_);clear q524
            refine vl _ (.int .i64 (-300)) (want_g rfl rfl (q525.a 172 rfl)) (fun hc => ex_ld rfl (ev (q525.a 177 rfl) hc) (ldI18 (oz26.cell kK X.length (nK (-300)) hx26 5 _ rfl))) rfl q525.z (by decide) (q525.k fun _ q526 => ?_);clear q525
            refine vl _ (.bool false) (want_g rfl rfl (q526.a 172 rfl)) (fun hc => ex_bin (Y := .int .i64 (-300)) rfl (ev (q526.a 178 rfl) hc) rfl (neqF62 _ _ rfl _)) rfl q526.z (by decide) (q526.k fun _ q527 => ?_);clear q526
            refine q527.t (.bool false) (ex_or (c := true) (b := false) (z := false) rfl (q527.a 172 rfl) (q527.a 179 rfl) rfl) fun _ q528 => ?_;clear q527
            refine q528.t (.bool false) (ex_move rfl (q528.e (j := 180) rfl)) fun _ q529 => ?_;clear q528
            obtain ⟨g27, hg27, _, _⟩ := ownP69 o27 (by rw [hl27]; omega)
            have oz27 := o27
            rw [hg27] at oz27
            have hx27 : (Y.map (bz (-200)) ++ [nK (-400), nK (-400), nK (-400)])[Y.length]? = some (nK (-400)) := by
              rw [List.getElem?_append_right (by rw [List.length_map]; exact Nat.le_refl _), List.length_map, Nat.sub_self]
              rfl
            refine vl _ (.slice a27 (Y.length + 3) c27) (want_g rfl rfl (q529.a 181 rfl)) (fun hc => ex_move rfl (q529.e (j := 27) rfl)) rfl q529.z (by decide) (q529.k fun _ q530 => ?_);clear q529
            refine vl _ (.slice a20 Y.length c20) (want_g rfl rfl (q530.a 181 rfl)) (fun hc => ex_move rfl (q530.e (j := 20) rfl)) rfl q530.z (by decide) (q530.k fun _ q531 => ?_);clear q530
            refine vl _ (.int .i64 ((Y.length : Nat) : Int)) (want_g rfl rfl (q531.a 181 rfl)) (fun hc => ex_len18 rfl rfl (ev (q531.a 183 rfl) hc)) rfl q531.z (by decide) (q531.k fun _ q532 => ?_);clear q531
            refine vl _ (.pointer (some ⟨g27, Y.length * 10, none⟩)) (want_g rfl rfl (q532.a 181 rfl)) (fun hc => ex_ix rfl (ev (q532.a 182 rfl) hc) (ev (q532.a 184 rfl) hc) (by rw [hg27]; exact ix0_68 g27 (Y.length + 3) c27 Y.length (by omega) _)) rfl q532.z (by decide) (q532.k fun _ q533 => ?_);clear q532
            refine vl _ (.pointer (some ⟨g27, Y.length * 10 + 5, none⟩)) (want_g rfl rfl (q533.a 181 rfl)) (fun hc => ex_fa rfl (ev (q533.a 185 rfl) hc) (fa3_68 _ _ _)) rfl q533.z (by decide) (q533.k fun _ q534 => ?_);clear q533
            refine vl _ (.int .i64 (-400)) (want_g rfl rfl (q534.a 181 rfl)) (fun hc => ex_ld rfl (ev (q534.a 186 rfl) hc) (ldI18 (oz27.cell kK Y.length (nK (-400)) hx27 5 _ rfl))) rfl q534.z (by decide) (q534.k fun _ q535 => ?_);clear q534
            refine vl _ (.bool false) (want_g rfl rfl (q535.a 181 rfl)) (fun hc => ex_bin (Y := .int .i64 (-400)) rfl (ev (q535.a 187 rfl) hc) rfl (neqF62 _ _ rfl _)) rfl q535.z (by decide) (q535.k fun _ q536 => ?_);clear q535
            refine q536.t (.bool false) (ex_or (c := true) (b := false) (z := false) rfl (q536.a 181 rfl) (q536.a 188 rfl) rfl) fun _ q537 => ?_;clear q536
            have q538 := (((Rp.nil q537.z).cons (q537.a 8 rfl)).cons (q537.a 189 rfl))
            clear q537
            refine wpList_nil ?_
            go_upto_region 38 with fail
            refine wp_cond_false (q538.e (j := 189) rfl) ?_
            go_upto_region 38 with fail
            refine wp_region_lit ?_
            refine q538.t (.int .i64 ((0 : Nat) : Int)) (ex_assign rfl rfl) fun _ q539 => ?_;clear q538
            clear o26 o27
            have q540 := (((Rp.nil q539.z).cons (q539.a 8 rfl)).cons (q539.a 30 rfl))
            clear q539
            refine wpList_nil ?_
            go_upto_region 39 with fail
            refine v_loop 30 l.length (fun j T wr => Rp T 224 [(30, gw true (.int .i64 ((j : Nat) : Int))), (8, gw true (.slice a3 l.length c3))] ∧ Hid (OwnY yK w1.heap.size wr (.slice a3 l.length c3) (fF opn j l) ∧ Upd (fun k => Value.ownBlock (.slice a3 l.length c3) = some k) wn wr)) (fun j T w h => h.1.a 30 rfl) ⟨q540, o3, Upd.refl _ _⟩ ?_
            clear q540
            intro j T wt hj hh
            obtain ⟨q600, HJ⟩ := hh
            obtain ⟨oj, uwt⟩ := HJ.out
            clear HJ
            have ywt := uwt.size
            by_cases hit : j < l.length
            · obtain ⟨x, hx⟩ : ∃ x, l[j]? = some x := ⟨_, List.getElem?_eq_getElem (by omega)⟩
              obtain ⟨g, hg, hg1, hg2⟩ := ownP69 oj (by rw [fF_len]; omega)
              have oj2 := oj
              rw [hg] at oj2
              go_upto_region 39 with fail
              refine wp_region_lit ?_
              refine q600.t (.int .i64 ((j : Nat) : Int)) (ex_move rfl (q600.e (j := 30) rfl)) fun _ q601 => ?_;clear q600
              refine q601.t (.slice a3 l.length c3) (ex_move rfl (q601.e (j := 8) rfl)) fun _ q602 => ?_;clear q601
              refine q602.t (.int .i64 ((l.length : Nat) : Int)) (ex_len18 rfl rfl (q602.e (j := 191) rfl)) fun _ q603 => ?_;clear q602
              refine q603.t (.bool true) (ex_bin rfl (q603.e (j := 190) rfl) (q603.e (j := 192) rfl) (ltT _ _ hit _)) fun _ q604 => ?_;clear q603
              refine wpList_nil ?_
              go_upto_region 41 with fail
              refine wp_cond_true (q604.e (j := 193) rfl) ?_
              go_upto_region 41 with fail
              refine wp_region_lit ?_
              refine q604.t (.slice a3 l.length c3) (ex_move rfl (q604.e (j := 8) rfl)) fun _ q605 => ?_;clear q604
              refine q605.t (.int .i64 ((j : Nat) : Int)) (ex_move rfl (q605.e (j := 30) rfl)) fun _ q606 => ?_;clear q605
              refine q606.t (.pointer (some ⟨g, j * 10, none⟩)) (ex_ix rfl (q606.e (j := 196) rfl) (q606.e (j := 197) rfl) (by rw [hg]; exact ix0_68 g l.length c3 j hit _)) fun _ q607 => ?_;clear q606
              refine q607.t (.pointer (some ⟨g, j * 10 + 6, none⟩)) (ex_fa rfl (q607.e (j := 198) rfl) (fa4_68 _ _ _)) fun _ q608 => ?_;clear q607
              obtain ⟨wx, hst, oe, ue⟩ := stKe68 oj2 (fF_get hx) (-1)
              refine vs wx (want_none rfl) (ex_st rfl (q608.e (j := 199) rfl) rfl hst) rfl ?_
              refine wpList_nil ?_
              obtain ⟨wy, hst2, ox, ur2⟩ := stKr68 oe (by rw [List.getElem?_set_self (by rw [fF_len]; omega)]) (0, 0, ⟨#[]⟩)
              rw [List.set_set] at ox
              have ox : OwnY yK w1.heap.size wy (.slice (some ⟨g, 0, none⟩) l.length c3) (fF opn (j + 1) l) := by
                rw [← fF_set hx]
                exact ox
              have ux := ue.trans ur2
              go_upto_region 42 with fail
              refine wp_region_lit ?_
              refine q608.t (.slice a3 l.length c3) (ex_move rfl (q608.e (j := 8) rfl)) fun _ q609 => ?_;clear q608
              refine q609.t (.int .i64 ((j : Nat) : Int)) (ex_move rfl (q609.e (j := 30) rfl)) fun _ q610 => ?_;clear q609
              refine q610.t (rV (0, 0, ⟨#[]⟩)) (ex_buildP18 (P := #[]) rfl (by simp) (bdr62 _)) fun _ q611 => ?_;clear q610
              refine q611.t (.pointer (some ⟨g, j * 10, none⟩)) (ex_ix rfl (q611.e (j := 200) rfl) (q611.e (j := 201) rfl) (by rw [hg]; exact ix0_68 g l.length c3 j hit _)) fun _ q612 => ?_;clear q611
              refine q612.t (.pointer (some ⟨g, j * 10 + 7, none⟩)) (ex_fa rfl (q612.e (j := 203) rfl) (fa5_68 _ _ _)) fun _ q613 => ?_;clear q612
              refine vs wy (want_none rfl) (ex_st rfl (q613.e (j := 204) rfl) (q613.e (j := 202) rfl) hst2) rfl ?_
              refine wpList_nil ?_
              rw [← hg] at ox
              have uj := uwt.tr20 ux (fun i _ hr => by have e : i = g := hr; rw [hg, e]; rfl)
              go_upto_region 40 with fail
              refine wp_region_lit ?_
              refine q613.t (.int .i64 ((j : Nat) : Int)) (ex_move rfl (q613.e (j := 30) rfl)) fun _ q614 => ?_;clear q613
              refine q614.t (.int .i64 ((j + 1 : Nat) : Int)) (ex_bin rfl (q614.e (j := 194) rfl) rfl (add1C _ _ j (by omega) _)) fun _ q615 => ?_;clear q614
              refine q615.t (.int .i64 ((j + 1 : Nat) : Int)) (ex_assign rfl (q615.e (j := 195) rfl)) fun _ q616 => ?_;clear q615
              have q617 := (((Rp.nil q616.z).cons (q616.a 8 rfl)).cons (q616.a 30 rfl))
              clear q616
              refine wpList_nil ?_
              exact ⟨_, rfl, hit, q617, ox, uj⟩
            · obtain rfl : j = l.length := by omega
              rw [fF_end] at oj
              replace d := d.trans (uwt.below d.size (fun k hk => by have := r3 k hk; omega))
              replace o3 := oj
              clear oj
              go_upto_region 39 with fail
              refine wp_region_lit ?_
              refine q600.t (.int .i64 ((l.length : Nat) : Int)) (ex_move rfl (q600.e (j := 30) rfl)) fun _ q601 => ?_;clear q600
              refine q601.t (.slice a3 l.length c3) (ex_move rfl (q601.e (j := 8) rfl)) fun _ q602 => ?_;clear q601
              refine q602.t (.int .i64 ((l.length : Nat) : Int)) (ex_len18 rfl rfl (q602.e (j := 191) rfl)) fun _ q603 => ?_;clear q602
              refine q603.t (.bool false) (ex_bin rfl (q603.e (j := 190) rfl) (q603.e (j := 192) rfl) (ltF _ _ hit _)) fun _ q604 => ?_;clear q603
              refine wpList_nil ?_
              go_upto_region 43 with fail
              refine wp_cond_false (q604.e (j := 193) rfl) ?_
              go_upto_region 43 with fail
              refine wp_region_lit ?_
              have sO0 := o3.sl' kK
              have sO : SlY yK wt a3 (l.map opn).length c3 (l.map opn) := by rw [List.length_map]; exact sO0
              refine q604.t (.slice a3 l.length c3) (ex_move rfl (q604.e (j := 8) rfl)) fun _ q605 => ?_;clear q604
              have hS31 := search18_any (l.map opn) a3 c3 wt sO (fun x hx => by obtain ⟨y, hy, rfl⟩ := List.mem_map.1 hx; exact opn_fits (hf1 y hy))
              rw [List.length_map] at hS31
              refine vcallP (want_none rfl) (ex_call rfl (by simp only [List.map_toArray, List.map_cons, List.map_nil, (q605.e (j := 206) rfl), evc] <;> rfl) rfl) (hS31) rfl q605.z (by decide) ?_
              rintro e wu ⟨v31, rfl, o31, b31⟩
              refine ⟨_, rfl, q605.k fun _ q606 => ?_⟩;clear q605
              have z31 := b31.size
              replace d := d.trans (b31.mono d.size)
              obtain ⟨a31, c31, hv31, _, _, _, _⟩ := o31.form
              subst hv31
              refine q606.t (.tuple #[.slice a31 (ints ((srA (l.map opn)).getD [])).length c31, .bool ((srA (l.map opn)).isSome), .int .i64 (srE (l.map opn))]) (ex_move rfl (q606.e (j := 207) rfl)) fun _ q607 => ?_;clear q606
              refine q607.t (.slice a31 (ints ((srA (l.map opn)).getD [])).length c31) (ex_ext18 rfl (q607.e (j := 205) rfl) rfl) fun _ q608 => ?_;clear q607
              refine q608.t (.bool ((srA (l.map opn)).isSome)) (ex_ext18 rfl (q608.e (j := 205) rfl) rfl) fun _ q609 => ?_;clear q608
              refine q609.t (.int .i64 (srE (l.map opn))) (ex_ext18 rfl (q609.e (j := 205) rfl) rfl) fun _ q610 => ?_;clear q609
              refine q610.t (.slice a31 (ints ((srA (l.map opn)).getD [])).length c31) (ex_assign rfl (q610.e (j := 208) rfl)) fun _ q611 => ?_;clear q610
              refine q611.t (.bool ((srA (l.map opn)).isSome)) (ex_assign rfl (q611.e (j := 209) rfl)) fun _ q612 => ?_;clear q611
              refine q612.t (.int .i64 (srE (l.map opn))) (ex_assign rfl (q612.e (j := 210) rfl)) fun _ q613 => ?_;clear q612
              have q614 := ((((Rp.nil q613.z).cons (q613.a 31 rfl)).cons (q613.a 32 rfl)).cons (q613.a 33 rfl))
              clear q613
              refine wpList_nil ?_
              go_upto_region 44 with fail
              refine wp_region_lit ?_
              refine vcallP (want_none rfl) (ex_call (args := #[]) rfl (by simp) rfl) (works18_any wu) rfl q614.z (by decide) ?_
              rintro e wv ⟨rfl, bv⟩
              refine ⟨_, rfl, q614.k fun _ q615 => ?_⟩;clear q614
              replace d := d.trans (bv.mono d.size)
              refine q615.t (.bool true) (ex_move rfl (q615.e (j := 211) rfl)) fun _ q616 => ?_;clear q615
              by_cases hE : srE (l.map opn) = 0
              · rw [srA_open68 hE] at q616
                refine vl _ (.int .i64 (srE (l.map opn))) (want_g rfl rfl (q616.a 212 rfl)) (fun hc => ex_move rfl (q616.e (j := 33) rfl)) rfl q616.z (by decide) (q616.k fun _ q617 => ?_);clear q616
                refine vl _ (.bool false) (want_g rfl rfl (q617.a 212 rfl)) (fun hc => ex_bin (Y := .int .i64 (0)) rfl (ev (q617.a 213 rfl) hc) rfl (by rw [hE]; exact neEf62 _ _ 0 _)) rfl q617.z (by decide) (q617.k fun _ q618 => ?_);clear q617
                refine vl _ (.bool false) (want_g rfl rfl (q618.a 212 rfl)) (fun hc => ex_move rfl (ev (q618.a 214 rfl) hc)) rfl q618.z (by decide) (q618.k fun _ q619 => ?_);clear q618
                refine vl ((true && (true == true)) && (false == false)) (.bool true) (want_g rfl rfl (q619.a 215 rfl)) (fun hc => ex_move rfl (q619.e (j := 32) rfl)) rfl q619.z (by decide) (q619.k fun _ q620 => ?_);clear q619
                refine vl ((true && (true == true)) && (false == false)) (.bool true) (want_g rfl rfl (q620.a 215 rfl)) (fun hc => ex_move rfl (ev (q620.a 216 rfl) hc)) rfl q620.z (by decide) (q620.k fun _ q621 => ?_);clear q620
                refine vl (((true && (true == true)) && (false == false)) && (true == true)) (.slice a31 0 c31) (want_g rfl rfl (q621.a 217 rfl)) (fun hc => ex_move rfl (q621.e (j := 31) rfl)) rfl q621.z (by decide) (q621.k fun _ q622 => ?_);clear q621
                refine vl (((true && (true == true)) && (false == false)) && (true == true)) (.int .i64 ((0 : Nat) : Int)) (want_g rfl rfl (q622.a 217 rfl)) (fun hc => ex_lenN18 rfl rfl (ev (q622.a 218 rfl) hc)) rfl q622.z (by decide) (q622.k fun _ q623 => ?_);clear q622
                refine vl (((true && (true == true)) && (false == false)) && (true == true)) (.bool true) (want_g rfl rfl (q623.a 217 rfl)) (fun hc => ex_bin (Y := .int .i64 (0)) rfl (ev (q623.a 219 rfl) hc) rfl (eqT62 _ _ rfl _)) rfl q623.z (by decide) (q623.k fun _ q624 => ?_);clear q623
                refine vl ((true && (true == true)) && (false == false)) (.bool true) (want_g rfl rfl (q624.a 215 rfl)) (fun hc => ex_and (c := (true && (true == true)) && (false == false)) (b := true) (z := true) rfl (q624.a 217 rfl) (q624.a 220 rfl) hc) rfl q624.z (by decide) (q624.k fun _ q625 => ?_);clear q624
                refine vl _ (.bool true) (want_g rfl rfl (q625.a 212 rfl)) (fun hc => ex_or (c := true && (true == true)) (b := false) (z := true) rfl (q625.a 215 rfl) (q625.a 221 rfl) hc) rfl q625.z (by decide) (q625.k fun _ q626 => ?_);clear q625
                refine q626.t (.bool true) (ex_and (c := true) (b := true) (z := true) rfl (q626.a 212 rfl) (q626.a 222 rfl) rfl) fun _ q627 => ?_;clear q626
                refine q627.t (.bool true) (ex_assign rfl (q627.e (j := 223) rfl)) fun _ q628 => ?_;clear q627
                refine wpList_nil ?_
                go_wp2
                refine bodyPost_ret (results_tmp rfl _ _ _) rfl ?_
                rw [getD_of (q628.a 6 rfl)]
                exact ⟨rfl, d⟩
              · refine vl (true && (true == true)) (.int .i64 (srE (l.map opn))) (want_g rfl rfl (q616.a 212 rfl)) (fun hc => ex_move rfl (q616.e (j := 33) rfl)) rfl q616.z (by decide) (q616.k fun _ q617 => ?_);clear q616
                refine vl _ (.bool true) (want_g rfl rfl (q617.a 212 rfl)) (fun hc => ex_bin (Y := .int .i64 (0)) rfl (ev (q617.a 213 rfl) hc) rfl (neEt68 _ _ hE _)) rfl q617.z (by decide) (q617.k fun _ q618 => ?_);clear q617
                refine vl _ (.bool true) (want_g rfl rfl (q618.a 212 rfl)) (fun hc => ex_move rfl (ev (q618.a 214 rfl) hc)) rfl q618.z (by decide) (q618.k fun _ q619 => ?_);clear q618
                refine vl ((true && (true == true)) && (true == false)) (.bool false) (want_g rfl rfl (q619.a 215 rfl)) (fun hc => absurd hc (by decide)) rfl q619.z (by decide) (q619.k fun _ q620 => ?_);clear q619
                refine vl ((true && (true == true)) && (true == false)) (.bool false) (want_g rfl rfl (q620.a 215 rfl)) (fun hc => absurd hc (by decide)) rfl q620.z (by decide) (q620.k fun _ q621 => ?_);clear q620
                refine vl (((true && (true == true)) && (true == false)) && (false == true)) (undef) (want_g rfl rfl (q621.a 217 rfl)) (fun hc => absurd hc (by decide)) rfl q621.z (by decide) (q621.k fun _ q622 => ?_);clear q621
                refine vl (((true && (true == true)) && (true == false)) && (false == true)) (undef) (want_g rfl rfl (q622.a 217 rfl)) (fun hc => absurd hc (by decide)) rfl q622.z (by decide) (q622.k fun _ q623 => ?_);clear q622
                refine vl (((true && (true == true)) && (true == false)) && (false == true)) (.bool false) (want_g rfl rfl (q623.a 217 rfl)) (fun hc => absurd hc (by decide)) rfl q623.z (by decide) (q623.k fun _ q624 => ?_);clear q623
                refine vl ((true && (true == true)) && (true == false)) (.bool false) (want_g rfl rfl (q624.a 215 rfl)) (fun hc => absurd hc (by decide)) rfl q624.z (by decide) (q624.k fun _ q625 => ?_);clear q624
                refine vl _ (.bool true) (want_g rfl rfl (q625.a 212 rfl)) (fun hc => ex_or (c := true && (true == true)) (b := true) (z := false) rfl (q625.a 215 rfl) (q625.a 221 rfl) hc) rfl q625.z (by decide) (q625.k fun _ q626 => ?_);clear q625
                refine q626.t (.bool true) (ex_and (c := true) (b := true) (z := true) rfl (q626.a 212 rfl) (q626.a 222 rfl) rfl) fun _ q627 => ?_;clear q626
                refine q627.t (.bool true) (ex_assign rfl (q627.e (j := 223) rfl)) fun _ q628 => ?_;clear q627
                refine wpList_nil ?_
                go_wp2
                refine bodyPost_ret (results_tmp rfl _ _ _) rfl ?_
                rw [getD_of (q628.a 6 rfl)]
                exact ⟨rfl, d⟩
theorem own_came18 (a1 : Option Addr) (n1 c1 : Nat) (a2 : Option Addr) (n2 c2 : Nat) (r : Int) (W : World) (h : CameKl W a1 n1 c1) (k : CameKl W a2 n2 c2) (hr : (Lit.int .i64 r).wf = true) :
    Calls Try.prog 6 #[.slice a1 n1 c1, .slice a2 n2 c2, .int .i64 r] W fun e w' => e = .returned (.bool true) ∧ Below W.heap.size W w' := by
  obtain ⟨P, s, f, hn⟩ := h
  obtain ⟨Q, s2, f2, hn2⟩ := k
  have e := s.len
  have e2 := s2.len
  subst e e2
  exact own18 P Q a1 c1 a2 c2 r W s s2 f f2 hn hn2 (i64_wf hr)
end Go.Proofs.Ytjabbplfbjaenaa
