import Derived.Test.YtjodieiaccfkiaaS26
namespace Go.Proofs.Ytjodieiaccfkiaa
open Go.RowKit Go.Maps
open Classical
set_option linter.unusedVariables false
set_option linter.unusedSimpArgs false

def xorN (D : List Int) : Nat → List Int
  | 0 => D
  | j + 1 => (xorN D j).set j (bits .xor .u8 ((xorN D j).getD j 0) 85)
theorem xorN_len (D : List Int) : ∀ j, (xorN D j).length = D.length
  | 0 => rfl
  | j + 1 => by rw [xorN, List.length_set, xorN_len D j]
theorem xorN_by {D : List Int} (h : ∀ x ∈ D, (0 : Int) ≤ x ∧ x < 256) : ∀ j, ∀ x ∈ xorN D j, (0 : Int) ≤ x ∧ x < 256
  | 0 => h
  | j + 1 => fun x hx => by
    rw [xorN] at hx
    rcases List.mem_or_eq_of_mem_set hx with hx | rfl
    · exact xorN_by h j x hx
    · exact bits8 _ _
theorem ixB0 (q n c j : Nat) (hj : j < n) (w : World) : (Instr.indexAt 22 (.slice (some ⟨q, 0, none⟩) n c) (.int .i64 (j : Int))).run Try.prog w = .ok (.pointer (some ⟨q, j, none⟩)) w := by
  have := ixB9 q 0 n c j hj w
  rwa [Nat.zero_add] at this
set_option maxRecDepth 100000 in
set_option maxHeartbeats 2000000 in
theorem own19 (D0 : List Int) (a0 : Option Addr) (c0 : Nat) (D1 : List Int) (a1 : Option Addr) (c1 : Nat) (w : World) (h0 : SlY yB9 w a0 D0.length c0 D0) (hb0 : ∀ y ∈ D0, (0 : Int) ≤ y ∧ y < 256) (h1 : SlY yB9 w a1 D1.length c1 D1) (m0 : D0.length ≤ 1048576) (m1 : D1.length ≤ 1048576) :
    Calls Try.prog 7 #[.slice a0 D0.length c0, .slice a1 D1.length c1] w fun e w' => e = .returned (.bool true) ∧ Below w.heap.size w w' := by
  go_enter Try.func7, Try.ntmps7
  go_upto_region 0 with fail
  refine wp_region_lit ?_
  refine vl_gen (fun T => Rp T 117 [(1, gw true (.slice a1 D1.length c1)), (0, gw true (.slice a0 D0.length c0))]) (((Rp.nil rfl).cons rfl).cons rfl) (fun Z0 q0 => ?_)
  refine q0.t (.bool false) (ex_assign rfl rfl) fun _ q1 => ?_;clear q0
  refine wpList_nil ?_
  go_upto_region 1 with fail
  refine wp_region_lit ?_
  refine vcallP (want_none rfl) (ex_call (args := #[]) rfl (by simp) rfl) (alive19 w) rfl q1.z (by decide) ?_
  rintro e w1 ⟨rfl, b1⟩
  refine ⟨_, rfl, q1.k fun _ q2 => ?_⟩;clear q1
  have z1 := b1.size
  refine q2.t (.bool false) (ex_not rfl (q2.e (j := 13) rfl)) fun _ q3 => ?_;clear q2
  refine wpList_nil ?_
  go_upto_region 3 with fail
  refine wp_cond_false (q3.e (j := 14) rfl) ?_
  go_upto_region 3 with fail
  refine wp_region_lit ?_
  refine vcallP (want_none rfl) (ex_call (args := #[]) rfl (by simp) rfl) (new19 w1) rfl q3.z (by decide) ?_
  rintro e w2 ⟨q, rfl, hq, I2, b2⟩
  refine ⟨_, rfl, q3.k fun _ q4 => ?_⟩;clear q3
  have z2 := b2.size
  have hq2 := I2.lt
  refine vcallP (want_none rfl) (ex_call (args := #[]) rfl (by simp) rfl) (new19 w2) rfl q4.z (by decide) ?_
  rintro e w3 ⟨y, rfl, hy, J3, b3⟩
  refine ⟨_, rfl, q4.k fun _ q5 => ?_⟩;clear q4
  have z3 := b3.size
  have hy3 := J3.lt
  have I3 := I2.later b3
  refine q5.t (.pointer (some ⟨q, 0, none⟩)) (ex_assign rfl (q5.e (j := 15) rfl)) fun _ q6 => ?_;clear q5
  refine q6.t (.pointer (some ⟨y, 0, none⟩)) (ex_assign rfl (q6.e (j := 16) rfl)) fun _ q7 => ?_;clear q6
  have q8 := (((((Rp.nil q7.z).cons (q7.a 0 rfl)).cons (q7.a 1 rfl)).cons (q7.a 5 rfl)).cons (q7.a 6 rfl))
  clear q7
  refine wpList_nil ?_
  go_upto_region 4 with fail
  refine wp_region_lit ?_
  refine q8.t (.pointer (some ⟨q, 0, none⟩)) (ex_move rfl (q8.e (j := 5) rfl)) fun _ q9 => ?_;clear q8
  refine q9.t (.bool false) (ex_bin (Y := .pointer none) rfl (q9.e (j := 17) rfl) rfl (eqlP _ _ q _)) fun _ q10 => ?_;clear q9
  refine q10.t (.bool false) (ex_move rfl (q10.e (j := 18) rfl)) fun _ q11 => ?_;clear q10
  refine vl (true && (false == false)) (.pointer (some ⟨y, 0, none⟩)) (want_g rfl rfl (q11.a 19 rfl)) (fun hc => ex_move rfl (q11.e (j := 6) rfl)) rfl q11.z (by decide) (q11.k fun _ q12 => ?_);clear q11
  refine vl (true && (false == false)) (.bool false) (want_g rfl rfl (q12.a 19 rfl)) (fun hc => ex_bin (Y := .pointer none) rfl (q12.e (j := 20) rfl) rfl (eqlP _ _ y _)) rfl q12.z (by decide) (q12.k fun _ q13 => ?_);clear q12
  refine q13.t (.bool false) (ex_or (z := false) rfl (q13.a 19 rfl) (q13.a 21 rfl) rfl) fun _ q14 => ?_;clear q13
  refine wpList_nil ?_
  go_upto_region 6 with fail
  refine wp_cond_false (q14.e (j := 22) rfl) ?_
  go_upto_region 6 with fail
  refine wp_region_lit ?_
  have d3 : Below w.heap.size w w3 := (b1.trans (b2.mono z1)).trans (b3.mono (by omega))
  refine q14.t (.slice a0 D0.length c0) (ex_move rfl (q14.e (j := 0) rfl)) fun _ q15 => ?_;clear q14
  refine vcallP (want_none rfl) (ex_call rfl (by simp only [List.map_toArray, List.map_cons, List.map_nil, (q15.e (j := 23) rfl), evc] <;> rfl) rfl) (copyby_any a0 D0.length c0 D0 w3 (h0.on d3 (Nat.le_refl _)) (by omega)) rfl q15.z (by decide) ?_
  rintro e w4 ⟨v4, rfl, o4, b4⟩
  refine ⟨_, rfl, q15.k fun _ q16 => ?_⟩;clear q15
  have z4 := b4.size
  have d4 : Below w.heap.size w w4 := d3.trans (b4.mono (by omega))
  refine q16.t (.slice a1 D1.length c1) (ex_move rfl (q16.e (j := 1) rfl)) fun _ q17 => ?_;clear q16
  refine vcallP (want_none rfl) (ex_call rfl (by simp only [List.map_toArray, List.map_cons, List.map_nil, (q17.e (j := 25) rfl), evc] <;> rfl) rfl) (copyby_any a1 D1.length c1 D1 w4 (h1.on d4 (Nat.le_refl _)) (by omega)) rfl q17.z (by decide) ?_
  rintro e w5 ⟨v5, rfl, o5, b5⟩
  refine ⟨_, rfl, q17.k fun _ q18 => ?_⟩;clear q17
  have z5 := b5.size
  have d5 : Below w.heap.size w w5 := d4.trans (b5.mono (by omega))
  refine q18.t (v4) (ex_assign rfl (q18.e (j := 24) rfl)) fun _ q19 => ?_;clear q18
  refine q19.t (v5) (ex_assign rfl (q19.e (j := 26) rfl)) fun _ q20 => ?_;clear q19
  have hpq : ∀ k, v4.ownBlock = some k → k < w4.heap.size := fun k hk => (o4.blk k hk).2
  have P5 := o4.grow b5
  obtain ⟨ap, cp, hvp, _, hap⟩ := P5.sl kBy
  subst hvp
  obtain ⟨aq, cq, hvq, _, haq⟩ := o5.sl kBy
  subst hvq
  have I5 := (I3.later b4).later b5
  have J5 := (J3.later b4).later b5
  clear o4 I2 I3 J3
  have q21 := (((((((Rp.nil q20.z).cons (q20.a 0 rfl)).cons (q20.a 1 rfl)).cons (q20.a 5 rfl)).cons (q20.a 6 rfl)).cons (q20.a 7 rfl)).cons (q20.a 8 rfl))
  clear q20
  refine wpList_nil ?_
  go_upto_region 7 with fail
  refine wp_region_lit ?_
  refine q21.t (.pointer (some ⟨q, 0, none⟩)) (ex_move rfl (q21.e (j := 5) rfl)) fun _ q22 => ?_;clear q21
  refine q22.t (.slice ap D0.length cp) (ex_move rfl (q22.e (j := 7) rfl)) fun _ q23 => ?_;clear q22
  refine vcallP (want_none rfl) (ex_call rfl (by simp only [List.map_toArray, List.map_cons, List.map_nil, (q23.e (j := 27) rfl), (q23.e (j := 28) rfl), evc] <;> rfl) rfl) (write19 q [] D0 ap cp w5 I5 (P5.sl' kBy) (fun z hz _ => by obtain ⟨g, rfl, h9, _⟩ := hap z hz; show g ≠ q; omega) (by simp; omega)) rfl q23.z (by decide) ?_
  rintro e w6 ⟨rfl, I6, u6⟩
  refine ⟨_, rfl, q23.k fun _ q24 => ?_⟩;clear q23
  rw [List.nil_append] at I6
  have J6 := J5.upd u6 (by show ¬ y = q; omega)
  have P6 := P5.upd1 u6 (fun k hk => by have := (P5.blk k hk).1; show ¬ k = q; omega)
  have Q6 := o5.upd1 u6 (fun k hk => by have := (o5.blk k hk).1; show ¬ k = q; omega)
  have d6 : Below w.heap.size w w6 := d5.trans (bel_ge u6 (by omega) (by omega))
  clear I5 J5 P5 o5
  refine wpList_nil ?_
  have q25 := (((((((Rp.nil q24.z).cons (q24.a 0 rfl)).cons (q24.a 1 rfl)).cons (q24.a 5 rfl)).cons (q24.a 6 rfl)).cons (q24.a 7 rfl)).cons (q24.a 8 rfl))
  clear q24
  go_upto_region 8 with fail
  refine wp_region_lit ?_
  refine q25.t (.pointer (some ⟨y, 0, none⟩)) (ex_move rfl (q25.e (j := 6) rfl)) fun _ q26 => ?_;clear q25
  refine q26.t (.slice aq D1.length cq) (ex_move rfl (q26.e (j := 8) rfl)) fun _ q27 => ?_;clear q26
  refine vcallP (want_none rfl) (ex_call rfl (by simp only [List.map_toArray, List.map_cons, List.map_nil, (q27.e (j := 30) rfl), (q27.e (j := 31) rfl), evc] <;> rfl) rfl) (write19 y [] D1 aq cq w6 J6 (Q6.sl' kBy) (fun z hz _ => by obtain ⟨g, rfl, h9, _⟩ := haq z hz; show g ≠ y; omega) (by simp; omega)) rfl q27.z (by decide) ?_
  rintro e w7 ⟨rfl, J7, u7⟩
  refine ⟨_, rfl, q27.k fun _ q28 => ?_⟩;clear q27
  rw [List.nil_append] at J7
  have I7 := I6.upd u7 (by show ¬ q = y; omega)
  have P7 := P6.upd1 u7 (fun k hk => by have := (P6.blk k hk).1; show ¬ k = y; omega)
  have Q7 := Q6.upd1 u7 (fun k hk => by have := (Q6.blk k hk).1; show ¬ k = y; omega)
  have d7 : Below w.heap.size w w7 := d6.trans (bel_ge u7 d6.size (by omega))
  have z7 := d7.size
  clear J6 I6 P6 Q6
  refine wpList_nil ?_
  have q29 := (((((((Rp.nil q28.z).cons (q28.a 0 rfl)).cons (q28.a 1 rfl)).cons (q28.a 5 rfl)).cons (q28.a 6 rfl)).cons (q28.a 7 rfl)).cons (q28.a 8 rfl))
  clear q28
  go_upto_region 9 with fail
  refine wp_region_lit ?_
  refine q29.t (.int .i64 ((0 : Nat) : Int)) (ex_assign rfl rfl) fun _ q30 => ?_;clear q29
  have q31 := ((((((((Rp.nil q30.z).cons (q30.a 0 rfl)).cons (q30.a 1 rfl)).cons (q30.a 5 rfl)).cons (q30.a 6 rfl)).cons (q30.a 7 rfl)).cons (q30.a 8 rfl)).cons (q30.a 9 rfl))
  clear q30
  refine wpList_nil ?_
  go_upto_region 10 with fail
  refine v_loop 9 D0.length (fun j T wr => Rp T 117 [(9, gw true (.int .i64 ((j : Nat) : Int))), (8, gw true (.slice aq D1.length cq)), (7, gw true (.slice ap D0.length cp)), (6, gw true (.pointer (some ⟨y, 0, none⟩))), (5, gw true (.pointer (some ⟨q, 0, none⟩))), (1, gw true (.slice a1 D1.length c1)), (0, gw true (.slice a0 D0.length c0))] ∧ Hid (OwnY yBy w3.heap.size wr (.slice ap D0.length cp) (xorN D0 j) ∧ Upd (fun k => (Value.slice ap D0.length cp).ownBlock = some k) w7 wr)) (fun j T w h => h.1.a 9 rfl) ⟨q31, P7, Upd.refl _ _⟩ ?_
  clear q31
  intro j T wr hj hh
  obtain ⟨q100, HJ⟩ := hh
  obtain ⟨oX, uX⟩ := HJ.out
  clear HJ
  have hl := xorN_len D0 j
  by_cases hit : j < D0.length
  · obtain ⟨g, hg⟩ : ∃ g, ap = some ⟨g, 0, none⟩ := by
      obtain ⟨q9, o9, e9, _⟩ := (P7.sl' kBy).place (by rintro rfl; simp at hit)
      obtain ⟨g, e, _⟩ := hap _ e9
      exact ⟨g, by rw [e9, e]⟩
    subst hg
    have hx : (xorN D0 j)[j]? = some ((xorN D0 j).getD j 0) := by rw [List.getD_eq_getElem?_getD, List.getElem?_eq_getElem (by omega)]; rfl
    have cj := oX.rwBy hx
    have fj := oX.free j
    go_upto_region 10 with fail
    refine wp_region_lit ?_
    refine q100.t (.int .i64 ((j : Nat) : Int)) (ex_move rfl (q100.e (j := 9) rfl)) fun _ q101 => ?_;clear q100
    refine q101.t (.slice (some ⟨g, 0, none⟩) D0.length cp) (ex_move rfl (q101.e (j := 7) rfl)) fun _ q102 => ?_;clear q101
    refine q102.t (.int .i64 ((D0.length : Nat) : Int)) (ex_lenG rfl rfl Try.underlying22 (q102.e (j := 34) rfl)) fun _ q103 => ?_;clear q102
    refine q103.t (.bool true) (ex_bin rfl (q103.e (j := 33) rfl) (q103.e (j := 35) rfl) (ltT _ _ hit _)) fun _ q104 => ?_;clear q103
    refine wpList_nil ?_
    go_upto_region 12 with fail
    refine wp_cond_true (q104.e (j := 36) rfl) ?_
    go_upto_region 12 with fail
    refine wp_region_lit ?_
    refine q104.t (.slice (some ⟨g, 0, none⟩) D0.length cp) (ex_move rfl (q104.e (j := 7) rfl)) fun _ q105 => ?_;clear q104
    refine q105.t (.int .i64 ((j : Nat) : Int)) (ex_move rfl (q105.e (j := 9) rfl)) fun _ q106 => ?_;clear q105
    refine q106.t (.slice (some ⟨g, 0, none⟩) D0.length cp) (ex_move rfl (q106.e (j := 7) rfl)) fun _ q107 => ?_;clear q106
    refine q107.t (.int .i64 ((j : Nat) : Int)) (ex_move rfl (q107.e (j := 9) rfl)) fun _ q108 => ?_;clear q107
    refine q108.t (.pointer (some ⟨g, j, none⟩)) (ex_ix rfl (q108.e (j := 41) rfl) (q108.e (j := 42) rfl) (ixB0 g D0.length cp j hit _)) fun _ q109 => ?_;clear q108
    refine q109.t (.int .u8 ((xorN D0 j).getD j 0)) (ex_ld rfl (q109.e (j := 43) rfl) (ld8 cj)) fun _ q110 => ?_;clear q109
    refine q110.t (.int .u8 (bits .xor .u8 ((xorN D0 j).getD j 0) 85)) (ex_bin rfl (q110.e (j := 44) rfl) rfl (xor8 _ _ _ _ _)) fun _ q111 => ?_;clear q110
    refine q111.t (.pointer (some ⟨g, j, none⟩)) (ex_ix rfl (q111.e (j := 39) rfl) (q111.e (j := 40) rfl) (ixB0 g D0.length cp j hit _)) fun _ q112 => ?_;clear q111
    obtain ⟨e2, he2⟩ : ∃ z, z = wr.setCell ⟨g, j, none⟩ (.int .u8 (bits .xor .u8 ((xorN D0 j).getD j 0) 85)) := ⟨_, rfl⟩
    refine vs e2 (want_none rfl) (ex_st rfl (q112.e (j := 46) rfl) (q112.e (j := 45) rfl) (by rw [he2]; exact st8 cj fj)) rfl ?_
    have oX2 : OwnY yBy w3.heap.size e2 (.slice (some ⟨g, 0, none⟩) D0.length cp) (xorN D0 (j + 1)) := by rw [he2]; exact oX.putBy (by omega) _
    have uX2 : Upd (fun k => (Value.slice (some ⟨g, 0, none⟩) D0.length cp).ownBlock = some k) w7 e2 := by rw [he2]; exact uX.trans18 (upd1 _ _ _ _) (fun i _ e => by obtain rfl : i = g := e; simp [Value.ownBlock])
    clear he2
    have q113 := ((((((((Rp.nil q112.z).cons (q112.a 0 rfl)).cons (q112.a 1 rfl)).cons (q112.a 5 rfl)).cons (q112.a 6 rfl)).cons (q112.a 7 rfl)).cons (q112.a 8 rfl)).cons (q112.a 9 rfl))
    clear q112
    refine wpList_nil ?_
    go_upto_region 11 with fail
    refine wp_region_lit ?_
    refine q113.t (.int .i64 ((j : Nat) : Int)) (ex_move rfl (q113.e (j := 9) rfl)) fun _ q114 => ?_;clear q113
    refine q114.t (.int .i64 ((j + 1 : Nat) : Int)) (ex_bin rfl (q114.e (j := 37) rfl) rfl (add1C _ _ j (by omega) _)) fun _ q115 => ?_;clear q114
    refine q115.t (.int .i64 ((j + 1 : Nat) : Int)) (ex_assign rfl (q115.e (j := 38) rfl)) fun _ q116 => ?_;clear q115
    have q117 := ((((((((Rp.nil q116.z).cons (q116.a 0 rfl)).cons (q116.a 1 rfl)).cons (q116.a 5 rfl)).cons (q116.a 6 rfl)).cons (q116.a 7 rfl)).cons (q116.a 8 rfl)).cons (q116.a 9 rfl))
    clear q116
    refine wpList_nil ?_
    exact ⟨_, rfl, hit, q117, oX2, uX2⟩
  · obtain rfl : j = D0.length := by omega
    go_upto_region 10 with fail
    refine wp_region_lit ?_
    refine q100.t (.int .i64 ((D0.length : Nat) : Int)) (ex_move rfl (q100.e (j := 9) rfl)) fun _ q101 => ?_;clear q100
    refine q101.t (.slice ap D0.length cp) (ex_move rfl (q101.e (j := 7) rfl)) fun _ q102 => ?_;clear q101
    refine q102.t (.int .i64 ((D0.length : Nat) : Int)) (ex_lenG rfl rfl Try.underlying22 (q102.e (j := 34) rfl)) fun _ q103 => ?_;clear q102
    refine q103.t (.bool false) (ex_bin rfl (q103.e (j := 33) rfl) (q103.e (j := 35) rfl) (ltF _ _ hit _)) fun _ q104 => ?_;clear q103
    refine wpList_nil ?_
    go_upto_region 13 with fail
    refine wp_cond_false (q104.e (j := 36) rfl) ?_
    obtain ⟨X, hX⟩ : ∃ X, X = xorN D0 D0.length := ⟨_, rfl⟩
    rw [← hX] at oX hl
    have hXb : ∀ x ∈ X, (0 : Int) ≤ x ∧ x < 256 := by rw [hX]; exact xorN_by hb0 _
    have hlow : ∀ k, (Value.slice ap D0.length cp).ownBlock = some k → w3.heap.size ≤ k := fun k hk => (P7.blk k hk).1
    have I8 := I7.upd uX (fun e => by have := hlow _ e; omega)
    have J8 := J7.upd uX (fun e => by have := hlow _ e; omega)
    have Q8 := Q7.upd1 uX (fun k hk e => by have := hpq k e; have := (Q7.blk k hk).1; omega)
    have d8 : Below w.heap.size w wr := d7.trans (uX.below z7 (fun k hk => by have := hlow k hk; omega))
    have z8 := d8.size
    clear I7 J7 Q7 P7 hit hj
    go_upto_region 13 with fail
    refine wp_region_lit ?_
    refine q104.t (.pointer (some ⟨q, 0, none⟩)) (ex_move rfl (q104.e (j := 5) rfl)) fun _ q105 => ?_;clear q104
    refine q105.t (.slice aq D1.length cq) (ex_move rfl (q105.e (j := 8) rfl)) fun _ q106 => ?_;clear q105
    refine vcallP (want_none rfl) (ex_call rfl (by simp only [List.map_toArray, List.map_cons, List.map_nil, (q106.e (j := 47) rfl), (q106.e (j := 48) rfl), evc] <;> rfl) rfl) (write19 q D0 D1 aq cq wr I8 (Q8.sl' kBy) (fun z hz _ => by obtain ⟨g, rfl, h9, _⟩ := haq z hz; show g ≠ q; omega) (by omega)) rfl q106.z (by decide) ?_
    rintro e r1 ⟨rfl, I9, u9⟩
    refine ⟨_, rfl, q106.k fun _ q107 => ?_⟩;clear q106
    have J9 := J8.upd u9 (by show ¬ y = q; omega)
    have P9 := oX.upd1 u9 (fun k hk => by have := (oX.blk k hk).1; show ¬ k = q; omega)
    have d9 : Below w.heap.size w r1 := d8.trans (bel_ge u9 z8 (by omega))
    have z9 := d9.size
    clear I8 J8 Q8 oX
    have q108 := ((((((Rp.nil q107.z).cons (q107.a 0 rfl)).cons (q107.a 1 rfl)).cons (q107.a 5 rfl)).cons (q107.a 6 rfl)).cons (q107.a 7 rfl))
    clear q107
    refine wpList_nil ?_
    go_upto_region 14 with fail
    refine wp_region_lit ?_
    refine q108.t (.slice none 0 0) (ex_assign rfl rfl) fun _ q109 => ?_;clear q108
    refine wpList_nil ?_
    go_upto_region 15 with fail
    refine wp_region_lit ?_
    refine q109.t (.slice none 0 0) (ex_move rfl (q109.e (j := 10) rfl)) fun _ q110 => ?_;clear q109
    refine q110.t (.slice a0 D0.length c0) (ex_move rfl (q110.e (j := 0) rfl)) fun _ q111 => ?_;clear q110
    obtain ⟨v2, r2, ha2, oA, gA, _⟩ := run_appY kB9 r1 22 r1.heap.size [] (.slice none 0 0) a0 D0.length c0 D0 (h0.on d9 (Nat.le_refl _)) (OwnY.nil _ _ _) (Nat.le_refl _) (by unfold maxLen; simp; omega) (by show (([] : List Int).length + D0.length) * 1 ≤ _; simp; omega)
    rw [List.nil_append] at oA
    have e2 : Below r1.heap.size r1 r2 := (Below.refl _ _).grown gA (Nat.le_refl _) (fun k hk => by cases hk)
    have d10 : Below w.heap.size w r2 := d9.trans (e2.mono z9)
    refine vw (v2) r2 (want_none rfl) (ex_app18 rfl (q111.e (j := 50) rfl) (q111.e (j := 51) rfl) ha2) rfl q111.z (by decide) (q111.k fun _ q112 => ?_);clear q111
    refine q112.t (v2) (ex_assign rfl (q112.e (j := 52) rfl)) fun _ q113 => ?_;clear q112
    have q114 := (((((((Rp.nil q113.z).cons (q113.a 0 rfl)).cons (q113.a 1 rfl)).cons (q113.a 5 rfl)).cons (q113.a 6 rfl)).cons (q113.a 7 rfl)).cons (q113.a 10 rfl))
    clear q113
    refine wpList_nil ?_
    go_upto_region 16 with fail
    refine wp_region_lit ?_
    refine q114.t (v2) (ex_move rfl (q114.e (j := 10) rfl)) fun _ q115 => ?_;clear q114
    refine q115.t (.slice a1 D1.length c1) (ex_move rfl (q115.e (j := 1) rfl)) fun _ q116 => ?_;clear q115
    obtain ⟨v3, r3, ha3, o3, g3, _⟩ := run_appY kB9 r2 22 r1.heap.size D0 v2 a1 D1.length c1 D1 (h1.on d10 (Nat.le_refl _)) oA e2.size (by unfold maxLen; omega) (by show (D0.length + D1.length) * 1 ≤ _; omega)
    have e3 : Below r1.heap.size r1 r3 := oA.grown e2 g3 e2.size
    have d11 : Below w.heap.size w r3 := d9.trans (e3.mono z9)
    refine vw (v3) r3 (want_none rfl) (ex_app18 rfl (q116.e (j := 53) rfl) (q116.e (j := 54) rfl) ha3) rfl q116.z (by decide) (q116.k fun _ q117 => ?_);clear q116
    refine q117.t (v3) (ex_assign rfl (q117.e (j := 55) rfl)) fun _ q118 => ?_;clear q117
    obtain ⟨a9, c9, hv9, sA, _⟩ := o3.sl kB9
    subst hv9
    have z11 := d11.size
    have q119 := (((((((Rp.nil q118.z).cons (q118.a 0 rfl)).cons (q118.a 1 rfl)).cons (q118.a 5 rfl)).cons (q118.a 6 rfl)).cons (q118.a 7 rfl)).cons (q118.a 10 rfl))
    clear q118
    refine wpList_nil ?_
    go_upto_region 17 with fail
    refine wp_region_lit ?_
    refine q119.t (.pointer none) (ex_assign rfl rfl) fun _ q120 => ?_;clear q119
    refine wpList_nil ?_
    go_upto_region 18 with fail
    refine wp_region_lit ?_
    obtain ⟨r4, hr4⟩ : ∃ y, y = r3.alloc (.cells (hC false (List.replicate 8 0) (List.replicate 64 0) 0).toArray 59) := ⟨_, rfl⟩
    refine vw (.pointer (some ⟨r3.heap.size, 0, none⟩)) r4 (want_none rfl) (ex_al rfl (by rw [hr4]; exact alHs _)) rfl q120.z (by decide) (q120.k fun _ q121 => ?_);clear q120
    have Br4 : BB r4 r3.heap.size 59 (hC false (List.replicate 8 0) (List.replicate 64 0) 0) := by rw [hr4]; exact BB.new _ _ _
    have br4 : Below r3.heap.size r3 r4 := by rw [hr4]; exact (Below.refl _ _).alloc (Nat.le_refl _) _
    have zr4 : r4.heap.size = r3.heap.size + 1 := by rw [hr4]; exact World.size_alloc _ _
    clear hr4
    have I := (I9.later e3).later br4
    have J := (J9.later e3).later br4
    have sP := ((P9.grow e3).grow br4).sl' kBy
    have sA := sA.later br4
    have d : Below w.heap.size w r4 := d11.trans (br4.mono z11)
    clear I9 J9 P9 oA o3
    obtain ⟨k, hk⟩ : ∃ k, k = r3.heap.size := ⟨_, rfl⟩
    rw [← hk] at q121 Br4
    have q122 := (((((((((Rp.nil q121.z).cons (q121.a 0 rfl)).cons (q121.a 1 rfl)).cons (q121.a 5 rfl)).cons (q121.a 6 rfl)).cons (q121.a 7 rfl)).cons (q121.a 10 rfl)).cons (q121.a 11 rfl)).cons (q121.a 12 rfl))
    clear q121
    refine wpList_nil ?_
    go_upto_region 19 with fail
    refine wp_region_lit ?_
    refine q122.t (.pointer none) (ex_move rfl (q122.e (j := 11) rfl)) fun _ q123 => ?_;clear q122
    refine q123.t (.slice a0 D0.length c0) (ex_move rfl (q123.e (j := 0) rfl)) fun _ q124 => ?_;clear q123
    refine vcallP (want_none rfl) (ex_call rfl (by simp only [List.map_toArray, List.map_cons, List.map_nil, (q124.e (j := 56) rfl), (q124.e (j := 57) rfl), evc] <;> rfl) rfl) (writeN19 _ _ r4 (NM.nil _)) rfl q124.z (by decide) ?_
    rintro e r5 ⟨rfl, rfl⟩
    refine ⟨_, rfl, q124.k fun _ q125 => ?_⟩;clear q124
    refine wpList_nil ?_
    go_upto_region 20 with fail
    refine wp_region_lit ?_
    refine q125.t (.pointer none) (ex_move rfl (q125.e (j := 11) rfl)) fun _ q126 => ?_;clear q125
    refine vcallP (want_none rfl) (ex_call rfl (by simp only [List.map_toArray, List.map_cons, List.map_nil, (q126.e (j := 59) rfl), evc] <;> rfl) rfl) (resetN19 _ r5 (NM.nil _)) rfl q126.z (by decide) ?_
    rintro e r6 ⟨rfl, rfl⟩
    refine ⟨_, rfl, q126.k fun _ q127 => ?_⟩;clear q126
    refine wpList_nil ?_
    go_upto_region 21 with fail
    refine wp_region_lit ?_
    refine q127.t (.slice a0 D0.length c0) (ex_move rfl (q127.e (j := 0) rfl)) fun _ q128 => ?_;clear q127
    refine vcallP (want_none rfl) (ex_call rfl (by simp only [List.map_toArray, List.map_cons, List.map_nil, (q128.e (j := 12) rfl), (q128.e (j := 61) rfl), evc] <;> rfl) rfl) (writeN19 _ _ r6 (NM.zero Br4)) rfl q128.z (by decide) ?_
    rintro e r7 ⟨rfl, rfl⟩
    refine ⟨_, rfl, q128.k fun _ q129 => ?_⟩;clear q128
    refine wpList_nil ?_
    go_upto_region 22 with fail
    refine wp_region_lit ?_
    refine vcallP (want_none rfl) (ex_call rfl (by simp only [List.map_toArray, List.map_cons, List.map_nil, (q129.e (j := 12) rfl), evc] <;> rfl) rfl) (resetN19 _ r7 (NM.zero Br4)) rfl q129.z (by decide) ?_
    rintro e r8 ⟨rfl, rfl⟩
    refine ⟨_, rfl, q129.k fun _ q130 => ?_⟩;clear q129
    have q131 := (((((((((Rp.nil q130.z).cons (q130.a 0 rfl)).cons (q130.a 1 rfl)).cons (q130.a 5 rfl)).cons (q130.a 6 rfl)).cons (q130.a 7 rfl)).cons (q130.a 10 rfl)).cons (q130.a 11 rfl)).cons (q130.a 12 rfl))
    clear q130
    refine wpList_nil ?_
    go_upto_region 23 with fail
    refine wp_region_lit ?_
    have hAl : (D0 ++ D1).length = D0.length + D1.length := List.length_append
    have eqA : ∀ (x y : Operand) (W : World), (do eqGuard .eql 32 x y (.agg ((sumF (D0 ++ D1)).map bV).toArray) (.agg ((sumF (D0 ++ D1)).map bV).toArray); binOp .eql 32 (.agg ((sumF (D0 ++ D1)).map bV).toArray) (.agg ((sumF (D0 ++ D1)).map bV).toArray) : Sem Value).run Try.prog W = .ok (.bool true) W := fun x y W => by rw [eqlH _ _ (show (sumF (D0 ++ D1)).length = 32 from out_len _) (show (sumF (D0 ++ D1)).length = 32 from out_len _), decide_eq_true rfl]
    have eqB : ∀ (x y : Operand) (W : World), (do eqGuard .eql 32 x y (.agg ((sumF D1).map bV).toArray) (.agg ((sumF D1).map bV).toArray); binOp .eql 32 (.agg ((sumF D1).map bV).toArray) (.agg ((sumF D1).map bV).toArray) : Sem Value).run Try.prog W = .ok (.bool true) W := fun x y W => by rw [eqlH _ _ (show (sumF D1).length = 32 from out_len _) (show (sumF D1).length = 32 from out_len _), decide_eq_true rfl]
    have eqC : ∀ (x y : Operand) (W : World), (do eqGuard .eql 32 x y (.agg ((sumF X).map bV).toArray) (.agg ((sumF X).map bV).toArray); binOp .eql 32 (.agg ((sumF X).map bV).toArray) (.agg ((sumF X).map bV).toArray) : Sem Value).run Try.prog W = .ok (.bool true) W := fun x y W => by rw [eqlH _ _ (show (sumF X).length = 32 from out_len _) (show (sumF X).length = 32 from out_len _), decide_eq_true rfl]
    have eqZ : ∀ (x y : Operand) (W : World), (do eqGuard .eql 32 x y (.agg ((z32).map bV).toArray) (.agg ((z32).map bV).toArray); binOp .eql 32 (.agg ((z32).map bV).toArray) (.agg ((z32).map bV).toArray) : Sem Value).run Try.prog W = .ok (.bool true) W := fun x y W => by rw [eqlH _ _ (show z32.length = 32 from rfl) (show z32.length = 32 from rfl), decide_eq_true rfl]
    refine q131.t (.pointer (some ⟨q, 0, none⟩)) (ex_move rfl (q131.e (j := 5) rfl)) fun _ q132 => ?_;clear q131
    refine vcallP (want_none rfl) (ex_call rfl (by simp only [List.map_toArray, List.map_cons, List.map_nil, (q132.e (j := 64) rfl), evc] <;> rfl) rfl) (hsum19 q (D0 ++ D1) r8 I (by omega)) rfl q132.z (by decide) ?_
    rintro e s1 ⟨rfl, f1⟩
    refine ⟨_, rfl, q132.k fun _ q133 => ?_⟩;clear q132
    refine q133.t (.slice a9 (D0 ++ D1).length c9) (ex_move rfl (q133.e (j := 10) rfl)) fun _ q134 => ?_;clear q133
    refine vcallP (want_none rfl) (ex_call rfl (by simp only [List.map_toArray, List.map_cons, List.map_nil, (q134.e (j := 66) rfl), evc] <;> rfl) rfl) (sum19 (D0 ++ D1) a9 c9 s1 (sA.later f1) (by omega)) rfl q134.z (by decide) ?_
    rintro e s2 ⟨rfl, e2b⟩
    refine ⟨_, rfl, q134.k fun _ q135 => ?_⟩;clear q134
    have f2 : Below r8.heap.size r8 s2 := f1.trans (e2b.mono f1.size)
    refine q135.t (.bool true) (ex_bin rfl (q135.e (j := 65) rfl) (q135.e (j := 67) rfl) (eqA _ _ _)) fun _ q136 => ?_;clear q135
    refine q136.t (.bool true) (ex_move rfl (q136.e (j := 68) rfl)) fun _ q137 => ?_;clear q136
    refine vl (true && (true == true)) (.pointer (some ⟨y, 0, none⟩)) (want_g rfl rfl (q137.a 69 rfl)) (fun hc => ex_move rfl (q137.e (j := 6) rfl)) rfl q137.z (by decide) (q137.k fun _ q138 => ?_);clear q137
    refine vcallP (show Region.wanted _ _ = (true && (true == true)) from want_g rfl rfl (q138.a 69 rfl)) (ex_call rfl (by simp only [List.map_toArray, List.map_cons, List.map_nil, (q138.e (j := 70) rfl), evc] <;> rfl) rfl) (hsum19 y D1 s2 (J.later f2) (by omega)) rfl q138.z (by decide) ?_
    rintro e s3 ⟨rfl, e3b⟩
    refine ⟨_, rfl, q138.k fun _ q139 => ?_⟩;clear q138
    have f3 : Below r8.heap.size r8 s3 := f2.trans (e3b.mono f2.size)
    refine vl (true && (true == true)) (.slice a1 D1.length c1) (want_g rfl rfl (q139.a 69 rfl)) (fun hc => ex_move rfl (q139.e (j := 1) rfl)) rfl q139.z (by decide) (q139.k fun _ q140 => ?_);clear q139
    refine vcallP (show Region.wanted _ _ = (true && (true == true)) from want_g rfl rfl (q140.a 69 rfl)) (ex_call rfl (by simp only [List.map_toArray, List.map_cons, List.map_nil, (q140.e (j := 72) rfl), evc] <;> rfl) rfl) (sum19 D1 a1 c1 s3 (h1.on (d.trans (f3.mono d.size)) (Nat.le_refl _)) (by omega)) rfl q140.z (by decide) ?_
    rintro e s4 ⟨rfl, e4b⟩
    refine ⟨_, rfl, q140.k fun _ q141 => ?_⟩;clear q140
    have f4 : Below r8.heap.size r8 s4 := f3.trans (e4b.mono f3.size)
    refine vl (true && (true == true)) (.bool true) (want_g rfl rfl (q141.a 69 rfl)) (fun hc => ex_bin rfl (q141.e (j := 71) rfl) (q141.e (j := 73) rfl) (eqB _ _ _)) rfl q141.z (by decide) (q141.k fun _ q142 => ?_);clear q141
    refine q142.t (.bool true) (ex_and (z := true) rfl (q142.a 69 rfl) (q142.a 74 rfl) rfl) fun _ q143 => ?_;clear q142
    refine q143.t (.bool true) (ex_move rfl (q143.e (j := 75) rfl)) fun _ q144 => ?_;clear q143
    refine vl (true && (true == true)) (.pointer (some ⟨q, 0, none⟩)) (want_g rfl rfl (q144.a 76 rfl)) (fun hc => ex_move rfl (q144.e (j := 5) rfl)) rfl q144.z (by decide) (q144.k fun _ q145 => ?_);clear q144
    refine vcallP (show Region.wanted _ _ = (true && (true == true)) from want_g rfl rfl (q145.a 76 rfl)) (ex_call rfl (by simp only [List.map_toArray, List.map_cons, List.map_nil, (q145.e (j := 77) rfl), evc] <;> rfl) rfl) (len19 q (D0 ++ D1) s4 (I.later f4)) rfl q145.z (by decide) ?_
    rintro e s5 ⟨rfl, rfl⟩
    refine ⟨_, rfl, q145.k fun _ q146 => ?_⟩;clear q145
    refine vl (true && (true == true)) (.slice a9 (D0 ++ D1).length c9) (want_g rfl rfl (q146.a 76 rfl)) (fun hc => ex_move rfl (q146.e (j := 10) rfl)) rfl q146.z (by decide) (q146.k fun _ q147 => ?_);clear q146
    refine vl (true && (true == true)) (.int .i64 (((D0 ++ D1).length : Nat) : Int)) (want_g rfl rfl (q147.a 76 rfl)) (fun hc => ex_lenG rfl rfl Try.underlying22 (q147.e (j := 79) rfl)) rfl q147.z (by decide) (q147.k fun _ q148 => ?_);clear q147
    refine vl (true && (true == true)) (.bool true) (want_g rfl rfl (q148.a 76 rfl)) (fun hc => ex_bin rfl (q148.e (j := 78) rfl) (q148.e (j := 80) rfl) (by rw [eqlC, decide_eq_true rfl])) rfl q148.z (by decide) (q148.k fun _ q149 => ?_);clear q148
    refine q149.t (.bool true) (ex_and (z := true) rfl (q149.a 76 rfl) (q149.a 81 rfl) rfl) fun _ q150 => ?_;clear q149
    refine q150.t (.bool true) (ex_move rfl (q150.e (j := 82) rfl)) fun _ q151 => ?_;clear q150
    refine vl (true && (true == true)) (.pointer (some ⟨y, 0, none⟩)) (want_g rfl rfl (q151.a 83 rfl)) (fun hc => ex_move rfl (q151.e (j := 6) rfl)) rfl q151.z (by decide) (q151.k fun _ q152 => ?_);clear q151
    refine vcallP (show Region.wanted _ _ = (true && (true == true)) from want_g rfl rfl (q152.a 83 rfl)) (ex_call rfl (by simp only [List.map_toArray, List.map_cons, List.map_nil, (q152.e (j := 84) rfl), evc] <;> rfl) rfl) (len19 y D1 s5 (J.later f4)) rfl q152.z (by decide) ?_
    rintro e s6 ⟨rfl, rfl⟩
    refine ⟨_, rfl, q152.k fun _ q153 => ?_⟩;clear q152
    refine vl (true && (true == true)) (.slice a1 D1.length c1) (want_g rfl rfl (q153.a 83 rfl)) (fun hc => ex_move rfl (q153.e (j := 1) rfl)) rfl q153.z (by decide) (q153.k fun _ q154 => ?_);clear q153
    refine vl (true && (true == true)) (.int .i64 ((D1.length : Nat) : Int)) (want_g rfl rfl (q154.a 83 rfl)) (fun hc => ex_lenG rfl rfl Try.underlying22 (q154.e (j := 86) rfl)) rfl q154.z (by decide) (q154.k fun _ q155 => ?_);clear q154
    refine vl (true && (true == true)) (.bool true) (want_g rfl rfl (q155.a 83 rfl)) (fun hc => ex_bin rfl (q155.e (j := 85) rfl) (q155.e (j := 87) rfl) (by rw [eqlC, decide_eq_true rfl])) rfl q155.z (by decide) (q155.k fun _ q156 => ?_);clear q155
    refine q156.t (.bool true) (ex_and (z := true) rfl (q156.a 83 rfl) (q156.a 88 rfl) rfl) fun _ q157 => ?_;clear q156
    refine q157.t (.bool true) (ex_move rfl (q157.e (j := 89) rfl)) fun _ q158 => ?_;clear q157
    rw [← hl] at sP
    refine vl (true && (true == true)) (.slice ap X.length cp) (want_g rfl rfl (q158.a 90 rfl)) (fun hc => ex_move rfl ((q158.e (j := 7) rfl).trans (by rw [hl]))) rfl q158.z (by decide) (q158.k fun _ q159 => ?_);clear q158
    refine vcallP (show Region.wanted _ _ = (true && (true == true)) from want_g rfl rfl (q159.a 90 rfl)) (ex_call rfl (by simp only [List.map_toArray, List.map_cons, List.map_nil, (q159.e (j := 91) rfl), evc] <;> rfl) rfl) (sum19 X ap cp s6 (SlY.later (Y := yB9) sP f4) (by omega)) rfl q159.z (by decide) ?_
    rintro e s7 ⟨rfl, e7b⟩
    refine ⟨_, rfl, q159.k fun _ q160 => ?_⟩;clear q159
    have f7 : Below r8.heap.size r8 s7 := f4.trans (e7b.mono f4.size)
    refine vl (true && (true == true)) (.slice ap X.length cp) (want_g rfl rfl (q160.a 90 rfl)) (fun hc => ex_move rfl ((q160.e (j := 7) rfl).trans (by rw [hl]))) rfl q160.z (by decide) (q160.k fun _ q161 => ?_);clear q160
    refine vcallP (show Region.wanted _ _ = (true && (true == true)) from want_g rfl rfl (q161.a 90 rfl)) (ex_call rfl (by simp only [List.map_toArray, List.map_cons, List.map_nil, (q161.e (j := 93) rfl), evc] <;> rfl) rfl) (rsum19 X ap cp s7 (SlY.later (Y := yB9) sP f7) (by omega) hXb) rfl q161.z (by decide) ?_
    rintro e s8 ⟨rfl, e8b⟩
    refine ⟨_, rfl, q161.k fun _ q162 => ?_⟩;clear q161
    have f8 : Below r8.heap.size r8 s8 := f7.trans (e8b.mono f7.size)
    refine vl (true && (true == true)) (.bool true) (want_g rfl rfl (q162.a 90 rfl)) (fun hc => ex_bin rfl (q162.e (j := 92) rfl) (q162.e (j := 94) rfl) (eqC _ _ _)) rfl q162.z (by decide) (q162.k fun _ q163 => ?_);clear q162
    refine q163.t (.bool true) (ex_and (z := true) rfl (q163.a 90 rfl) (q163.a 95 rfl) rfl) fun _ q164 => ?_;clear q163
    refine q164.t (.bool true) (ex_move rfl (q164.e (j := 96) rfl)) fun _ q165 => ?_;clear q164
    refine vl (true && (true == true)) (.pointer none) (want_g rfl rfl (q165.a 97 rfl)) (fun hc => ex_move rfl (q165.e (j := 11) rfl)) rfl q165.z (by decide) (q165.k fun _ q166 => ?_);clear q165
    refine vcallP (show Region.wanted _ _ = (true && (true == true)) from want_g rfl rfl (q166.a 97 rfl)) (ex_call rfl (by simp only [List.map_toArray, List.map_cons, List.map_nil, (q166.e (j := 98) rfl), evc] <;> rfl) rfl) (sumN19 _ s8 (NM.nil _)) rfl q166.z (by decide) ?_
    rintro e s9 ⟨rfl, e9b⟩
    refine ⟨_, rfl, q166.k fun _ q167 => ?_⟩;clear q166
    have f9 : Below r8.heap.size r8 s9 := f8.trans (e9b.mono f8.size)
    refine vl (true && (true == true)) (.agg (z32.map bV).toArray) (want_g rfl rfl (q167.a 97 rfl)) (fun hc => ex_build rfl (zrH _)) rfl q167.z (by decide) (q167.k fun _ q168 => ?_);clear q167
    refine vl (true && (true == true)) (.bool true) (want_g rfl rfl (q168.a 97 rfl)) (fun hc => ex_bin rfl (q168.e (j := 99) rfl) (q168.e (j := 100) rfl) (eqZ _ _ _)) rfl q168.z (by decide) (q168.k fun _ q169 => ?_);clear q168
    refine q169.t (.bool true) (ex_and (z := true) rfl (q169.a 97 rfl) (q169.a 101 rfl) rfl) fun _ q170 => ?_;clear q169
    refine q170.t (.bool true) (ex_move rfl (q170.e (j := 102) rfl)) fun _ q171 => ?_;clear q170
    refine vcallP (show Region.wanted _ _ = (true && (true == true)) from want_g rfl rfl (q171.a 103 rfl)) (ex_call rfl (by simp only [List.map_toArray, List.map_cons, List.map_nil, (q171.e (j := 12) rfl), evc] <;> rfl) rfl) (sumN19 _ s9 ((NM.zero Br4).later f9)) rfl q171.z (by decide) ?_
    rintro e s10 ⟨rfl, e10b⟩
    refine ⟨_, rfl, q171.k fun _ q172 => ?_⟩;clear q171
    have f10 : Below r8.heap.size r8 s10 := f9.trans (e10b.mono f9.size)
    refine vl (true && (true == true)) (.agg (z32.map bV).toArray) (want_g rfl rfl (q172.a 103 rfl)) (fun hc => ex_build rfl (zrH _)) rfl q172.z (by decide) (q172.k fun _ q173 => ?_);clear q172
    refine vl (true && (true == true)) (.bool true) (want_g rfl rfl (q173.a 103 rfl)) (fun hc => ex_bin rfl (q173.e (j := 104) rfl) (q173.e (j := 105) rfl) (eqZ _ _ _)) rfl q173.z (by decide) (q173.k fun _ q174 => ?_);clear q173
    refine q174.t (.bool true) (ex_and (z := true) rfl (q174.a 103 rfl) (q174.a 106 rfl) rfl) fun _ q175 => ?_;clear q174
    refine q175.t (.bool true) (ex_move rfl (q175.e (j := 107) rfl)) fun _ q176 => ?_;clear q175
    refine vl (true && (true == true)) (.pointer none) (want_g rfl rfl (q176.a 108 rfl)) (fun hc => ex_move rfl (q176.e (j := 11) rfl)) rfl q176.z (by decide) (q176.k fun _ q177 => ?_);clear q176
    refine vcallP (show Region.wanted _ _ = (true && (true == true)) from want_g rfl rfl (q177.a 108 rfl)) (ex_call rfl (by simp only [List.map_toArray, List.map_cons, List.map_nil, (q177.e (j := 109) rfl), evc] <;> rfl) rfl) (lenN19 _ s10 (NM.nil _)) rfl q177.z (by decide) ?_
    rintro e s11 ⟨rfl, rfl⟩
    refine ⟨_, rfl, q177.k fun _ q178 => ?_⟩;clear q177
    refine vl (true && (true == true)) (.bool true) (want_g rfl rfl (q178.a 108 rfl)) (fun hc => ex_bin (Y := .int .i64 0) rfl (q178.e (j := 110) rfl) rfl (by rw [eqlC, decide_eq_true rfl])) rfl q178.z (by decide) (q178.k fun _ q179 => ?_);clear q178
    refine q179.t (.bool true) (ex_and (z := true) rfl (q179.a 108 rfl) (q179.a 111 rfl) rfl) fun _ q180 => ?_;clear q179
    refine q180.t (.bool true) (ex_move rfl (q180.e (j := 112) rfl)) fun _ q181 => ?_;clear q180
    refine vcallP (show Region.wanted _ _ = (true && (true == true)) from want_g rfl rfl (q181.a 113 rfl)) (ex_call rfl (by simp only [List.map_toArray, List.map_cons, List.map_nil, (q181.e (j := 12) rfl), evc] <;> rfl) rfl) (lenN19 _ s11 ((NM.zero Br4).later f10)) rfl q181.z (by decide) ?_
    rintro e s12 ⟨rfl, rfl⟩
    refine ⟨_, rfl, q181.k fun _ q182 => ?_⟩;clear q181
    refine vl (true && (true == true)) (.bool true) (want_g rfl rfl (q182.a 113 rfl)) (fun hc => ex_bin (Y := .int .i64 0) rfl (q182.e (j := 114) rfl) rfl (by rw [eqlC, decide_eq_true rfl])) rfl q182.z (by decide) (q182.k fun _ q183 => ?_);clear q182
    refine q183.t (.bool true) (ex_and (z := true) rfl (q183.a 113 rfl) (q183.a 115 rfl) rfl) fun _ q184 => ?_;clear q183
    refine q184.t (.bool true) (ex_assign rfl (q184.e (j := 116) rfl)) fun _ q185 => ?_;clear q184
    refine wpList_nil ?_
    go_wp2
    refine bodyPost_ret (results_tmp rfl _ _ _) rfl ⟨?_, d.trans (f10.mono d.size)⟩
    rw [getD_of (q185.a 4 rfl)]
    rfl

end Go.Proofs.Ytjodieiaccfkiaa
