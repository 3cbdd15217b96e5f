import Derived.Test.YtfafhlahbhopaaaH7
set_option maxRecDepth 100000
set_option linter.unusedVariables false
set_option linter.unusedSimpArgs false
namespace Go.Proofs.Ytfafhlahbhopaaa
open Go.RowKit Go.Maps
open Classical
def scs (z : Int) (x : En) (v : Value) (z2 : Int) : List Value := .int .i64 z :: (x.cs ++ [v, .int .i64 z2])
def sval (z : Int) (x : En) (v : Value) (z2 : Int) : Value := .agg (scs z x v z2).toArray
theorem bxS20 (z : Int) (x : En) (v : Value) (z2 : Int) (w : World) : (Instr.box 58 (sval z x v z2)).run Try.prog w = .ok (.pointer (some ⟨w.heap.size, 0, none⟩)) (w.alloc (.cells (scs z x v z2).toArray 58)) := rfl
theorem faS20 (q j o : Nat) (h : (j = 0 ∧ o = 0) ∨ (j = 1 ∧ o = 1) ∨ (j = 2 ∧ o = 6) ∨ (j = 3 ∧ o = 7)) (w : World) : (Instr.fieldAt 58 (.pointer (some ⟨q, 0, none⟩)) j).run Try.prog w = .ok (.pointer (some ⟨q, o, none⟩)) w := by
  rcases h with ⟨rfl, rfl⟩ | ⟨rfl, rfl⟩ | ⟨rfl, rfl⟩ | ⟨rfl, rfl⟩ <;> go_simp
theorem BB.ldS0 {w : World} {q : Nat} {T : TypeId} {z : Int} {x : En} {v : Value} {z2 : Int} (h : BB w q T (scs z x v z2)) : (Instr.loadAt 3 (.pointer (some ⟨q, 0, none⟩))).run Try.prog w = .ok (.int .i64 z) w := by
  have hc : w.cell? ⟨q, 0, none⟩ = some (.int .i64 z) := by rw [h.cell]; rfl
  go_simp
theorem BB.ldS3 {w : World} {q : Nat} {T : TypeId} {z : Int} {x : En} {v : Value} {z2 : Int} (h : BB w q T (scs z x v z2)) : (Instr.loadAt 3 (.pointer (some ⟨q, 7, none⟩))).run Try.prog w = .ok (.int .i64 z2) w := by
  have hc : w.cell? ⟨q, 7, none⟩ = some (.int .i64 z2) := by rw [h.cell]; rfl
  go_simp
theorem BB.ldS2 {w : World} {q : Nat} {T : TypeId} {z : Int} {x : En} {a : Option Addr} {n c : Nat} {z2 : Int} (h : BB w q T (scs z x (.slice a n c) z2)) : (Instr.loadAt 42 (.pointer (some ⟨q, 6, none⟩))).run Try.prog w = .ok (.slice a n c) w := by
  have hc : w.cell? ⟨q, 6, none⟩ = some (.slice a n c) := by rw [h.cell]; rfl
  go_simp
theorem BB.ldS1 {w : World} {q : Nat} {T : TypeId} {z : Int} {x : En} {v : Value} {z2 : Int} (h : BB w q T (scs z x v z2)) : (Instr.loadAt 28 (.pointer (some ⟨q, 1, none⟩))).run Try.prog w = .ok x.val20 w :=
  run_loadAt_mid (P := Try.prog) w q 1 28 x.cs _ (fun k u hu => by
    rw [h.cell, scs, show 1 + k = k + 1 by omega, List.getElem?_cons_succ, List.getElem?_append_left (List.getElem?_eq_some_iff.1 hu).1]; exact hu) Try.underlying28 rfl i5e20
theorem ic_zero20 {g : Hs} {n p : Nat} {x : En} {P : List Hs} (h : icR g (n : Int) (p : Int) x P = 0) (h1 : 1 ≤ p) (h2 : p ≤ n) : P.length = su p n ∧ cl (lf x) p n P = g := by
  unfold icR at h
  rw [if_neg (by omega), if_neg (by omega), Int.toNat_natCast, Int.toNat_natCast] at h
  by_cases hl : P.length ≠ su p n
  · rw [if_pos hl] at h; cases h
  · rw [if_neg hl] at h
    by_cases hc : (cl (lf x) p n P).v = g.v
    · exact ⟨Decidable.not_not.1 hl, Hs.ext20 hc⟩
    · rw [if_neg hc] at h; cases h
theorem eqEn20 (a b : Operand) (x y : En) (w : World) : (do eqGuard .eql 28 a b x.val20 y.val20; binOp .eql 28 x.val20 y.val20 : Sem Value).run Try.prog w = .ok (.bool (decide (x = y))) w := by
  have e : (eqGuard .eql 28 a b x.val20 y.val20).run Try.prog w = .ok () w := by unfold En.val20; go_simp
  rw [Sem.run_bind, e, Result.andThen_ok]
  exact eqlE _ _ _ _ _ _ _ _ _ _ w
set_option maxHeartbeats 2000000 in
theorem binds20 (L0 : List En) (a : Option Addr) (n0 c : Nat) (z1 : Int) (x : En) (Q : List Hs) (a3 : Option Addr) (k c3 : Nat) (z2 : Int) (y9 : Hs) (w : World) (h0 : SlY yE w a n0 c L0) (hP : SlY yH w a3 k c3 Q) (hk : k ≤ 4398046510976) (hv0 : ∀ x ∈ L0, x.o.v.size ≤ 140737488352232) (hx : x.o.v.size ≤ 140737488352232) :
    Calls Try.prog 7 #[.slice a n0 c, sval z1 x (.slice a3 k c3) z2, y9.val] w fun e w' => e = .returned (.bool true) ∧ Below w.heap.size w w' := by
  obtain ⟨n, hn⟩ : ∃ n, n = min n0 200 := ⟨_, rfl⟩
  have h := h0.take n (by omega)
  have hv : ∀ x ∈ L0.take n, x.o.v.size ≤ 140737488352232 := fun x hx => hv0 x (List.mem_of_mem_take hx)
  obtain ⟨L, hLd⟩ : ∃ L, L = L0.take n := ⟨_, rfl⟩
  rw [← hLd] at h hv
  clear hLd
  have hn2 : n ≤ 200 := by omega
  go_enter Try.func7, Try.ntmps7
  go_upto_region 0 with fail
  refine wp_region_lit ?_
  refine vl_gen (fun T => Rp T 131 [(2, gw true (y9.val)), (1, gw true (sval z1 x (.slice a3 k c3) z2)), (0, gw true (.slice a n0 c))]) ((((Rp.nil rfl).cons rfl).cons rfl).cons rfl) (fun Z0 q0 => ?_)
  obtain ⟨w1, hw1⟩ : ∃ y, y = w.alloc (.cells (scs z1 x (.slice a3 k c3) z2).toArray 58) := ⟨_, rfl⟩
  refine vw (.pointer (some ⟨w.heap.size, 0, none⟩)) w1 (want_none rfl) (ex_box18 rfl (q0.e (j := 1) rfl) (by rw [hw1]; exact bxS20 _ _ _ _ _)) rfl q0.z (by decide) (q0.k fun _ q1 => ?_);clear q0
  have Bw1 : BB w1 w.heap.size 58 (scs z1 x (.slice a3 k c3) z2) := by rw [hw1]; exact BB.new _ _ _
  have bw1 : Below w.heap.size w w1 := by rw [hw1]; exact (Below.refl _ _).alloc (Nat.le_refl _) _
  have zw1 : w1.heap.size = w.heap.size + 1 := by rw [hw1]; exact World.size_alloc _ _
  clear hw1
  have d2 : Below w.heap.size w w1 := bw1
  obtain ⟨w3, hw3⟩ : ∃ y, y = w1.alloc (.cells (y9.cs).toArray 24) := ⟨_, rfl⟩
  refine vw (.pointer (some ⟨w1.heap.size, 0, none⟩)) w3 (want_none rfl) (ex_box18 rfl (q1.e (j := 2) rfl) (by rw [hw3]; exact bxH20 _ _)) rfl q1.z (by decide) (q1.k fun _ q2 => ?_);clear q1
  have Bw3 : BB w3 w1.heap.size 24 (y9.cs) := by rw [hw3]; exact BB.new _ _ _
  have bw3 : Below w1.heap.size w1 w3 := by rw [hw3]; exact (Below.refl _ _).alloc (Nat.le_refl _) _
  have zw3 : w3.heap.size = w1.heap.size + 1 := by rw [hw3]; exact World.size_alloc _ _
  clear hw3
  have d4 : Below w.heap.size w w3 := d2.trans (bw3.mono d2.size)
  refine q2.t (.bool false) (ex_assign rfl rfl) fun _ q3 => ?_;clear q2
  refine wpList_nil ?_
  go_upto_region 1 with fail
  refine wp_region_lit ?_
  refine q3.t (.slice a n0 c) (ex_move rfl (q3.e (j := 0) rfl)) fun _ q4 => ?_;clear q3
  refine vcallP (want_none rfl) (ex_call rfl (by simp only [List.map_toArray, List.map_cons, List.map_nil, (q4.e (j := 18) rfl), evc] <;> rfl) rfl) (fewN20 L0 a n0 n c w3 (h0.later d4) hn) rfl q4.z (by decide) ?_
  rintro e w5 ⟨rfl, hw5⟩
  refine ⟨_, rfl, q4.k fun _ q5 => ?_⟩;clear q4
  have hw5 := hw5.symm
  subst hw5
  refine q5.t (.slice a n c) (ex_assign rfl (q5.e (j := 19) rfl)) fun _ q6 => ?_;clear q5
  refine wpList_nil ?_
  go_upto_region 2 with fail
  refine wp_region_lit ?_
  refine q6.t (.pointer (some ⟨w.heap.size, 1, none⟩)) (ex_fa rfl (q6.e (j := 4) rfl) (faS20 _ _ _ (.inr (.inl ⟨rfl, rfl⟩)) _)) fun _ q7 => ?_;clear q6
  have B6 : BB w3 w.heap.size 58 (scs z1 x (.slice a3 k c3) z2) := (Bw1.later bw3)
  refine q7.t (x.val20) (ex_ld rfl (q7.e (j := 20) rfl) B6.ldS1) fun _ q8 => ?_;clear q7
  obtain ⟨w7, hw7⟩ : ∃ y, y = w3.alloc (.cells (yE.z.cs).toArray 28) := ⟨_, rfl⟩
  refine vw (.pointer (some ⟨w3.heap.size, 0, none⟩)) w7 (want_none rfl) (ex_al rfl (by rw [hw7]; exact alE20 _)) rfl q8.z (by decide) (q8.k fun _ q9 => ?_);clear q8
  have Bw7 : BB w7 w3.heap.size 28 (yE.z.cs) := by rw [hw7]; exact BB.new _ _ _
  have bw7 : Below w3.heap.size w3 w7 := by rw [hw7]; exact (Below.refl _ _).alloc (Nat.le_refl _) _
  have zw7 : w7.heap.size = w3.heap.size + 1 := by rw [hw7]; exact World.size_alloc _ _
  clear hw7
  have d8 : Below w.heap.size w w7 := d4.trans (bw7.mono d4.size)
  obtain ⟨w9, hw9⟩ : ∃ y, y = w7.setCells w3.heap.size 0 (x.cs) := ⟨_, rfl⟩
  refine vs w9 (want_none rfl) (ex_st rfl (q9.e (j := 7) rfl) (q9.e (j := 21) rfl) (by rw [hw9]; exact Bw7.stE20 _)) rfl ?_
  have Bw9 : BB w9 w3.heap.size 28 (x.cs) := by rw [hw9]; exact Bw7.whole _ rfl
  have uw9 : Upd (fun k => k = w3.heap.size) w7 w9 := by rw [hw9]; exact upd18 _ _ _ _
  clear hw9
  have zw9 := uw9.size
  have d10 : Below w.heap.size w w9 := d8.trans (bel_ge uw9 d8.size (by omega))
  refine wpList_nil ?_
  go_upto_region 3 with fail
  refine wp_region_lit ?_
  refine q9.t (.pointer (some ⟨w.heap.size, 6, none⟩)) (ex_fa rfl (q9.e (j := 4) rfl) (faS20 _ _ _ (.inr (.inr (.inl ⟨rfl, rfl⟩))) _)) fun _ q10 => ?_;clear q9
  have B11 : BB w9 w.heap.size 58 (scs z1 x (.slice a3 k c3) z2) := ((B6.later bw7).upd uw9 (show ¬ w.heap.size = w3.heap.size by omega))
  refine q10.t (.slice a3 k c3) (ex_ld rfl (q10.e (j := 22) rfl) B11.ldS2) fun _ q11 => ?_;clear q10
  refine q11.t (.slice a3 k c3) (ex_assign rfl (q11.e (j := 23) rfl)) fun _ q12 => ?_;clear q11
  refine wpList_nil ?_
  go_upto_region 4 with fail
  refine wp_region_lit ?_
  refine q12.t (.slice a n c) (ex_move rfl (q12.e (j := 0) rfl)) fun _ q13 => ?_;clear q12
  refine q13.t (.int .i64 ((n : Nat) : Int)) (ex_lenG rfl rfl Try.underlying22 (q13.e (j := 24) rfl)) fun _ q14 => ?_;clear q13
  by_cases h0 : n = 0
  · refine q14.t (.bool true) (ex_bin (Y := .int .i64 ((0 : Nat) : Int)) rfl (q14.e (j := 25) rfl) rfl (eqT20 _ _ (by omega) _)) fun _ q15 => ?_;clear q14
    refine q15.t (.bool true) (ex_move rfl (q15.e (j := 26) rfl)) fun _ q16 => ?_;clear q15
    refine vl ((true && (true == false))) (.bool false) (want_g rfl rfl (q16.a 27 rfl)) (fun hc => absurd hc (by decide)) rfl q16.z (by decide) (q16.k fun _ q17 => ?_);clear q16
    refine vl ((true && (true == false))) (.bool false) (want_g rfl rfl (q17.a 27 rfl)) (fun hc => absurd hc (by decide)) rfl q17.z (by decide) (q17.k fun _ q18 => ?_);clear q17
    refine q18.t (.bool true) (ex_or (c := true) (b := true) (z := false) rfl (q18.a 27 rfl) (q18.a 29 rfl) rfl) fun _ q19 => ?_;clear q18
    refine wpList_nil ?_
    go_upto_region 5 with fail
    refine wp_cond_true (q19.e (j := 30) rfl) ?_
    go_upto_region 5 with fail
    refine wp_region_lit ?_
    refine vcallP (want_none rfl) (ex_call (args := #[]) rfl (by simp) rfl) (works20 w9) rfl q19.z (by decide) ?_
    rintro e w12 ⟨rfl, bw12⟩
    refine ⟨_, rfl, q19.k fun _ q20 => ?_⟩;clear q19
    have zw12 := bw12.size
    have d13 : Below w.heap.size w w12 := d10.trans (bw12.mono d10.size)
    refine q20.t (.bool true) (ex_assign rfl (q20.e (j := 31) rfl)) fun _ q21 => ?_;clear q20
    refine wpList_nil ?_
    go_wp2
    refine bodyPost_ret (results_tmp rfl _ _ _) rfl ?_
    rw [getD_of (q21.a 6 rfl)]
    exact ⟨rfl, d13⟩
  · refine q14.t (.bool false) (ex_bin (Y := .int .i64 ((0 : Nat) : Int)) rfl (q14.e (j := 25) rfl) rfl (eqF20 _ _ (by omega) _)) fun _ q15 => ?_;clear q14
    refine q15.t (.bool false) (ex_move rfl (q15.e (j := 26) rfl)) fun _ q16 => ?_;clear q15
    refine vcallP (show Region.wanted _ _ = (true && (false == false)) from want_g rfl rfl (q16.a 27 rfl)) (ex_call (args := #[]) rfl (by simp) rfl) (works20 w9) rfl q16.z (by decide) ?_
    rintro e w12 ⟨rfl, bw12⟩
    refine ⟨_, rfl, q16.k fun _ q17 => ?_⟩;clear q16
    have zw12 := bw12.size
    have d13 : Below w.heap.size w w12 := d10.trans (bw12.mono d10.size)
    refine vl ((true && (false == false))) (.bool false) (want_g rfl rfl (q17.a 27 rfl)) (fun hc => ex_not rfl (q17.e (j := 28) rfl)) rfl q17.z (by decide) (q17.k fun _ q18 => ?_);clear q17
    refine q18.t (.bool false) (ex_or (c := true) (b := false) (z := false) rfl (q18.a 27 rfl) (q18.a 29 rfl) rfl) fun _ q19 => ?_;clear q18
    refine wpList_nil ?_
    go_upto_region 6 with fail
    refine wp_cond_false (q19.e (j := 30) rfl) ?_
    have lL := h.len
    obtain ⟨kq14, ko15, rfl, hkq14, lkq14⟩ := h.place (by rintro rfl; exact h0 (lL.symm.trans rfl))
    have ckq14 := h.cap
    go_upto_region 6 with fail
    refine wp_region_lit ?_
    refine q19.t (.pointer (some ⟨w.heap.size, 0, none⟩)) (ex_fa rfl (q19.e (j := 4) rfl) (faS20 _ _ _ (.inl ⟨rfl, rfl⟩) _)) fun _ q20 => ?_;clear q19
    have B16 : BB w12 w.heap.size 58 (scs z1 x (.slice a3 k c3) z2) := (B11.later bw12)
    refine q20.t (.int .i64 (z1 : Int)) (ex_ld rfl (q20.e (j := 32) rfl) B16.ldS0) fun _ q21 => ?_;clear q20
    refine q21.t (.slice (some ⟨kq14, ko15, none⟩) n c) (ex_move rfl (q21.e (j := 0) rfl)) fun _ q22 => ?_;clear q21
    refine q22.t (.int .i64 ((n : Nat) : Int)) (ex_lenG rfl rfl Try.underlying22 (q22.e (j := 34) rfl)) fun _ q23 => ?_;clear q22
    refine q23.t (.int .i64 ((n - 1 : Nat) : Int)) (ex_bin (Y := .int .i64 ((1 : Nat) : Int)) rfl (q23.e (j := 35) rfl) rfl (subP _ _ n 1 (by omega) (by omega) _)) fun _ q24 => ?_;clear q23
    obtain ⟨j, hj, cj⟩ := within_ex z1 (n - 1) (by omega)
    refine vcallP (want_none rfl) (ex_call rfl (by simp only [List.map_toArray, List.map_cons, List.map_nil, (q24.e (j := 33) rfl), (q24.e (j := 36) rfl), evc] <;> rfl) rfl) (cj w12) rfl q24.z (by decide) ?_
    rintro e w17 ⟨rfl, hw17⟩
    refine ⟨_, rfl, q24.k fun _ q25 => ?_⟩;clear q24
    have hw17 := hw17.symm
    subst hw17
    refine q25.t (.int .i64 ((1 + j : Nat) : Int)) (ex_bin (X := .int .i64 ((1 : Nat) : Int)) rfl rfl (q25.e (j := 37) rfl) (addP _ _ 1 j (by omega) _)) fun _ q26 => ?_;clear q25
    refine q26.t (.int .i64 ((1 + j : Nat) : Int)) (ex_assign rfl (q26.e (j := 38) rfl)) fun _ q27 => ?_;clear q26
    refine wpList_nil ?_
    go_upto_region 7 with fail
    refine wp_region_lit ?_
    refine q27.t (.slice (some ⟨kq14, ko15, none⟩) n c) (ex_move rfl (q27.e (j := 0) rfl)) fun _ q28 => ?_;clear q27
    refine vcallP (want_none rfl) (ex_call rfl (by simp only [List.map_toArray, List.map_cons, List.map_nil, (q28.e (j := 39) rfl), evc] <;> rfl) rfl) (head20 L _ _ _ w12 (h.later d13) (by omega) hv) rfl q28.z (by decide) ?_
    rintro e w18 ⟨rfl, bw18⟩
    refine ⟨_, rfl, q28.k fun _ q29 => ?_⟩;clear q28
    have zw18 := bw18.size
    have d19 : Below w.heap.size w w18 := d13.trans (bw18.mono d13.size)
    obtain ⟨w20, hw20⟩ : ∃ y, y = w18.alloc (.cells (zH.cs).toArray 24) := ⟨_, rfl⟩
    refine vw (.pointer (some ⟨w18.heap.size, 0, none⟩)) w20 (want_none rfl) (ex_al rfl (by rw [hw20]; exact alH _)) rfl q29.z (by decide) (q29.k fun _ q30 => ?_);clear q29
    have Bw20 : BB w20 w18.heap.size 24 (zH.cs) := by rw [hw20]; exact BB.new _ _ _
    have bw20 : Below w18.heap.size w18 w20 := by rw [hw20]; exact (Below.refl _ _).alloc (Nat.le_refl _) _
    have zw20 : w20.heap.size = w18.heap.size + 1 := by rw [hw20]; exact World.size_alloc _ _
    clear hw20
    have d21 : Below w.heap.size w w20 := d19.trans (bw20.mono d19.size)
    obtain ⟨w22, hw22⟩ : ∃ y, y = w20.setCells w18.heap.size 0 ((hd (L.map lf)).cs) := ⟨_, rfl⟩
    refine vs w22 (want_none rfl) (ex_st rfl (q30.e (j := 10) rfl) (q30.e (j := 40) rfl) (by rw [hw22]; exact Bw20.stH rfl _)) rfl ?_
    have Bw22 : BB w22 w18.heap.size 24 ((hd (L.map lf)).cs) := by rw [hw22]; exact Bw20.putH rfl _
    have uw22 : Upd (fun k => k = w18.heap.size) w20 w22 := by rw [hw22]; exact upd18 _ _ _ _
    clear hw22
    have zw22 := uw22.size
    have d23 : Below w.heap.size w w22 := d21.trans (bel_ge uw22 d21.size (by omega))
    refine wpList_nil ?_
    go_upto_region 8 with fail
    refine wp_region_lit ?_
    refine q30.t (.slice (some ⟨kq14, ko15, none⟩) n c) (ex_move rfl (q30.e (j := 0) rfl)) fun _ q31 => ?_;clear q30
    refine q31.t (.int .i64 ((1 + j : Nat) : Int)) (ex_move rfl (q31.e (j := 9) rfl)) fun _ q32 => ?_;clear q31
    have hcs : inR (L.map lf) ((1 + j : Nat) : Int) = (pu (L.map lf) (1 + j), 0) := in_ok (by omega) (by rw [List.length_map, lL]; omega)
    refine vcallP (want_none rfl) (ex_call rfl (by simp only [List.map_toArray, List.map_cons, List.map_nil, (q32.e (j := 42) rfl), (q32.e (j := 43) rfl), evc] <;> rfl) rfl) (incllude20 L _ _ _ ((1 + j : Nat) : Int) w22 (h.later d23) (by omega) hv) rfl q32.z (by decide) ?_
    rintro e w24 ⟨v3, rfl, o3, bw24⟩
    refine ⟨_, rfl, q32.k fun _ q33 => ?_⟩;clear q32
    have zw24 := bw24.size
    have d25 : Below w.heap.size w w24 := d23.trans (bw24.mono d23.size)
    rw [hcs] at o3 q33
    obtain ⟨a4, c4, hv4, s4, _⟩ := o3.sl kH
    subst hv4
    obtain ⟨P, hPd⟩ : ∃ P, P = pu (L.map lf) (1 + j) := ⟨_, rfl⟩
    have s4 : SlY yH _ a4 (pu (L.map lf) (1 + j)).length c4 (pu (L.map lf) (1 + j)) := s4
    rw [← hPd] at s4
    have eT : (.tuple #[.slice a4 ((pu (L.map lf) (1 + j), (0 : Int)).1).length c4, .int .i64 ((pu (L.map lf) (1 + j), (0 : Int)).2)] : Value) = .tuple #[.slice a4 P.length c4, .int .i64 0] := by rw [hPd]
    rw [eT] at q33
    have hPl : P.length ≤ 1000 := by rw [hPd, pu_len n _ _ (by rw [List.length_map]; exact lL) (by omega)]; have := su_le n (1 + j) (by omega); omega
    have HPd := hide hPd
    clear hPd
    refine q33.t (.tuple #[.slice a4 P.length c4, .int .i64 (0 : Int)]) (ex_move rfl (q33.e (j := 44) rfl)) fun _ q34 => ?_;clear q33
    refine q34.t (.slice a4 P.length c4) (ex_ext18 rfl (q34.e (j := 41) rfl) rfl) fun _ q35 => ?_;clear q34
    refine q35.t (.int .i64 (0 : Int)) (ex_ext18 rfl (q35.e (j := 41) rfl) rfl) fun _ q36 => ?_;clear q35
    refine q36.t (.slice a4 P.length c4) (ex_assign rfl (q36.e (j := 45) rfl)) fun _ q37 => ?_;clear q36
    refine q37.t (.int .i64 (0 : Int)) (ex_assign rfl (q37.e (j := 46) rfl)) fun _ q38 => ?_;clear q37
    refine wpList_nil ?_
    go_upto_region 9 with fail
    refine wp_region_lit ?_
    refine q38.t (.int .i64 (0 : Int)) (ex_move rfl (q38.e (j := 12) rfl)) fun _ q39 => ?_;clear q38
    refine q39.t (.bool false) (ex_bin (Y := .int .i64 ((0 : Nat) : Int)) rfl (q39.e (j := 47) rfl) rfl (neEF _ _ _ _)) fun _ q40 => ?_;clear q39
    refine wpList_nil ?_
    go_upto_region 11 with fail
    refine wp_cond_false (q40.e (j := 48) rfl) ?_
    go_upto_region 11 with fail
    refine wp_region_lit ?_
    refine q40.t (.slice a3 k c3) (ex_move rfl (q40.e (j := 8) rfl)) fun _ q41 => ?_;clear q40
    refine q41.t (.int .i64 ((k : Nat) : Int)) (ex_lenG rfl rfl Try.underlying42 (q41.e (j := 49) rfl)) fun _ q42 => ?_;clear q41
    refine q42.t (.bool (decide (((k : Nat) : Int) = ((0 : Nat) : Int)))) (ex_bin (Y := .int .i64 ((0 : Nat) : Int)) rfl (q42.e (j := 50) rfl) rfl (eqZ20 _ _ _ _ _)) fun _ q43 => ?_;clear q42
    refine q43.t (.bool (decide (((k : Nat) : Int) = ((0 : Nat) : Int)))) (ex_move rfl (q43.e (j := 51) rfl)) fun _ q44 => ?_;clear q43
    refine vl ((true && ((decide (((k : Nat) : Int) = ((0 : Nat) : Int))) == true))) (.slice a4 P.length c4) (want_g rfl rfl (q44.a 52 rfl)) (fun hc => ex_move rfl (q44.e (j := 11) rfl)) rfl q44.z (by decide) (q44.k fun _ q45 => ?_);clear q44
    refine vl ((true && ((decide (((k : Nat) : Int) = ((0 : Nat) : Int))) == true))) (.int .i64 ((P.length : Nat) : Int)) (want_g rfl rfl (q45.a 52 rfl)) (fun hc => ex_lenG rfl rfl Try.underlying42 (ev (q45.a 53 rfl) hc)) rfl q45.z (by decide) (q45.k fun _ q46 => ?_);clear q45
    refine vl ((true && ((decide (((k : Nat) : Int) = ((0 : Nat) : Int))) == true))) (.bool (decide (((0 : Nat) : Int) < ((P.length : Nat) : Int)))) (want_g rfl rfl (q46.a 52 rfl)) (fun hc => ex_bin (Y := .int .i64 ((0 : Nat) : Int)) rfl (ev (q46.a 54 rfl) hc) rfl (gtZ20 _ _ _ _ _)) rfl q46.z (by decide) (q46.k fun _ q47 => ?_);clear q46
    refine q47.t (.bool ((decide (((k : Nat) : Int) = ((0 : Nat) : Int))) && (decide (((0 : Nat) : Int) < ((P.length : Nat) : Int))))) (ex_and (c := true) (b := (decide (((k : Nat) : Int) = ((0 : Nat) : Int)))) (z := (decide (((0 : Nat) : Int) < ((P.length : Nat) : Int)))) rfl (q47.a 52 rfl) (q47.a 55 rfl) rfl) fun _ q48 => ?_;clear q47
    refine wpList_nil ?_
    go_upto_if 56 with fail
    refine v_cut18 (fun T wA => ∃ (P2 : List Hs) (a6 : Option Addr) (k6 c6 : Nat), Rp T 131 [(0, gw true (.slice (some ⟨kq14, ko15, none⟩) n c)), (4, gw true (.pointer (some ⟨w.heap.size, 0, none⟩))), (5, gw true (.pointer (some ⟨w1.heap.size, 0, none⟩))), (7, gw true (.pointer (some ⟨w3.heap.size, 0, none⟩))), (8, gw true (.slice a6 k6 c6)), (9, gw true (.int .i64 ((1 + j : Nat) : Int))), (10, gw true (.pointer (some ⟨w18.heap.size, 0, none⟩))), (11, gw true (.slice a4 P.length c4))] ∧ SlY yH w24 a6 k6 c6 P2 ∧ k6 ≤ 4398046510976 ∧ w24 = wA) ?_ ?_
    · by_cases hc56 : ((k : Nat) : Int) = ((0 : Nat) : Int)
      · rw [decide_eq_true hc56] at q48
        have hc56h := hide hc56
        clear hc56
        by_cases hc56b : ((0 : Nat) : Int) < ((P.length : Nat) : Int)
        · rw [decide_eq_true hc56b] at q48
          have hc56bh := hide hc56b
          clear hc56b
          refine wp_cond_true (q48.e (j := 56) rfl) ?_
          go_upto_region 12 with fail
          refine wp_region_lit ?_
          refine q48.t (.slice a4 P.length c4) (ex_move rfl (q48.e (j := 11) rfl)) fun _ q49 => ?_;clear q48
          refine q49.t (.slice a4 P.length c4) (ex_assign rfl (q49.e (j := 57) rfl)) fun _ q50 => ?_;clear q49
          refine wpList_nil ?_
          have q51 := (((((((((Rp.nil q50.z).cons (q50.a 11 rfl)).cons (q50.a 10 rfl)).cons (q50.a 9 rfl)).cons (q50.a 8 rfl)).cons (q50.a 7 rfl)).cons (q50.a 5 rfl)).cons (q50.a 4 rfl)).cons (q50.a 0 rfl))
          clear q50
          exact ⟨_, rfl, P, a4, P.length, c4, q51, s4, by omega, rfl⟩
        · rw [decide_eq_false hc56b] at q48
          have hc56bh := hide hc56b
          clear hc56b
          refine wp_cond_false (q48.e (j := 56) rfl) ?_
          apply wp_skip
          have q49 := (((((((((Rp.nil q48.z).cons (q48.a 11 rfl)).cons (q48.a 10 rfl)).cons (q48.a 9 rfl)).cons (q48.a 8 rfl)).cons (q48.a 7 rfl)).cons (q48.a 5 rfl)).cons (q48.a 4 rfl)).cons (q48.a 0 rfl))
          clear q48
          exact ⟨_, rfl, Q, a3, k, c3, q49, (hP.later d25), by omega, rfl⟩
      · rw [decide_eq_false hc56] at q48
        have hc56h := hide hc56
        clear hc56
        refine wp_cond_false (q48.e (j := 56) rfl) ?_
        apply wp_skip
        have q49 := (((((((((Rp.nil q48.z).cons (q48.a 11 rfl)).cons (q48.a 10 rfl)).cons (q48.a 9 rfl)).cons (q48.a 8 rfl)).cons (q48.a 7 rfl)).cons (q48.a 5 rfl)).cons (q48.a 4 rfl)).cons (q48.a 0 rfl))
        clear q48
        exact ⟨_, rfl, Q, a3, k, c3, q49, (hP.later d25), by omega, rfl⟩
    · rintro T wA ⟨P2, a6, k6, c6, q49, s6, hk6, rfl⟩
      go_upto_region 13 with fail
      refine wp_region_lit ?_
      refine q49.t (.slice none 0 0) (ex_assign rfl rfl) fun _ q50 => ?_;clear q49
      refine wpList_nil ?_
      go_upto_region 14 with fail
      refine wp_region_lit ?_
      refine q50.t (.slice none 0 0) (ex_move rfl (q50.e (j := 13) rfl)) fun _ q51 => ?_;clear q50
      refine q51.t (.slice a4 P.length c4) (ex_move rfl (q51.e (j := 11) rfl)) fun _ q52 => ?_;clear q51
      obtain ⟨v5, w26, ha5, o5, gr5, _⟩ := run_appY kH w24 42 w24.heap.size [] (.slice none 0 0) a4 P.length c4 P s4 (OwnY.nil _ _ _) (Nat.le_refl _) (by unfold maxLen; simp; omega) (by show (([] : List Hs).length + P.length) * 32 ≤ _; simp; omega)
      rw [List.nil_append] at o5
      have b5 : Below w24.heap.size w24 w26 := (OwnY.nil yH w24.heap.size w24).grown (Below.refl _ _) gr5 (Nat.le_refl _)
      have z5 := b5.size
      obtain ⟨a5, c5, hv5, s5, f5⟩ := o5.sl kH
      subst hv5
      clear gr5
      refine vw (.slice a5 P.length c5) w26 (want_none rfl) (ex_app18 rfl (q52.e (j := 58) rfl) (q52.e (j := 59) rfl) ha5) rfl q52.z (by decide) (q52.k fun _ q53 => ?_);clear q52
      have d27 : Below w.heap.size w w26 := d25.trans (b5.mono d25.size)
      refine q53.t (.slice a5 P.length c5) (ex_assign rfl (q53.e (j := 60) rfl)) fun _ q54 => ?_;clear q53
      refine wpList_nil ?_
      go_upto_region 15 with fail
      refine wp_region_lit ?_
      refine q54.t (.slice a5 P.length c5) (ex_move rfl (q54.e (j := 13) rfl)) fun _ q55 => ?_;clear q54
      refine q55.t (.int .i64 ((P.length : Nat) : Int)) (ex_lenG rfl rfl Try.underlying42 (q55.e (j := 61) rfl)) fun _ q56 => ?_;clear q55
      refine q56.t (.bool (decide (((0 : Nat) : Int) < ((P.length : Nat) : Int)))) (ex_bin (Y := .int .i64 ((0 : Nat) : Int)) rfl (q56.e (j := 62) rfl) rfl (gtZ20 _ _ _ _ _)) fun _ q57 => ?_;clear q56
      refine wpList_nil ?_
      go_upto_if 63 with fail
      refine v_cut18 (fun T wB => ∃ (P6 : List Hs) (a7 : Option Addr), Rp T 131 [(0, gw true (.slice (some ⟨kq14, ko15, none⟩) n c)), (7, gw true (.pointer (some ⟨w3.heap.size, 0, none⟩))), (8, gw true (.slice a6 k6 c6)), (9, gw true (.int .i64 ((1 + j : Nat) : Int))), (10, gw true (.pointer (some ⟨w18.heap.size, 0, none⟩))), (11, gw true (.slice a4 P.length c4)), (13, gw true (.slice a7 P.length c5))] ∧ SlY yH wB a7 P.length c5 P6 ∧ SlY yH wB a4 P.length c4 P ∧ SlY yH wB a6 k6 c6 P2 ∧ BB wB w18.heap.size 24 (hd (L.map lf)).cs ∧ BB wB w3.heap.size 28 x.cs ∧ Below w.heap.size w wB ∧ w26.heap.size ≤ wB.heap.size) ?_ ?_
      · by_cases hc63 : ((0 : Nat) : Int) < ((P.length : Nat) : Int)
        · rw [decide_eq_true hc63] at q57
          have hc63h := hide hc63
          clear hc63
          refine wp_cond_true (q57.e (j := 63) rfl) ?_
          have hP1 : 0 < P.length := by have := hc63h.out; omega
          have hPe : P ≠ [] := by intro e; rw [e] at hP1; exact absurd hP1 (by decide)
          obtain ⟨q5, k5, e5, hq5, hl5⟩ := s5.place hPe
          obtain ⟨g5, hz5, lo5, hi5⟩ := f5 _ e5
          rw [hz5] at e5
          subst e5
          clear hq5 hl5 hz5 s5 f5
          have B28 : BB w26 w.heap.size 58 (scs z1 x (.slice a3 k c3) z2) := (((((B16.later bw18).later bw20).upd uw22 (show ¬ w.heap.size = w18.heap.size by omega)).later bw24).later b5)
          have B29 : BB w26 w1.heap.size 24 (y9.cs) := ((((((((Bw3.later bw7).upd uw9 (show ¬ w1.heap.size = w3.heap.size by omega)).later bw12).later bw18).later bw20).upd uw22 (show ¬ w1.heap.size = w18.heap.size by omega)).later bw24).later b5)
          go_upto_region 16 with fail
          refine vg_start (fun k => k == 9) (fun v => v = w26.drew) (by kernel_rfl) ?_
          have hdO : Below w26.heap.size w26 w26.drew := (Below.refl _ _).drew
          have hzdO : w26.drew.heap.size = w26.heap.size := rfl
          generalize w26.drew = dO at *
          have o6 := o5.grow hdO
          have S6 := B28.later hdO
          have H6 := B29.later hdO
          obtain ⟨j2, hj2, cj2⟩ := within_ex z2 (P.length - 1) (by omega)
          refine vg_takeW 0 true (.slice (some ⟨g5, 0, none⟩) P.length c5) rfl (by kernel_rfl) (by kernel_rfl) (by kernel_rfl) (by kernel_rfl) (want_none rfl) (fun hc v => ex_move rfl (q57.e (j := 13) rfl)) rfl q57.z (by decide) (fun _ => rfl) (q57.k fun _ q58 => ?_);clear q57
          refine vg_takeW 1 true (.pointer (some ⟨w.heap.size, 7, none⟩)) rfl (by kernel_rfl) (by kernel_rfl) (by kernel_rfl) (by kernel_rfl) (want_none rfl) (fun hc v => ex_fa rfl (q58.e (j := 4) rfl) (faS20 _ _ _ (.inr (.inr (.inr ⟨rfl, rfl⟩))) _)) rfl q58.z (by decide) (fun _ => rfl) (q58.k fun _ q59 => ?_);clear q58
          refine vg_take 2 true (.int .i64 (z2 : Int)) rfl (by kernel_rfl) (by kernel_rfl) (by kernel_rfl) (by kernel_rfl) (by kernel_rfl) (by kernel_rfl) (want_none rfl) (fun hc v hv => by subst hv; exact ex_ld rfl (q59.e (j := 65) rfl) S6.ldS3) rfl q59.z (by decide) rfl (q59.k fun _ q60 => ?_);clear q59
          refine vg_takeW 3 true (.slice (some ⟨g5, 0, none⟩) P.length c5) rfl (by kernel_rfl) (by kernel_rfl) (by kernel_rfl) (by kernel_rfl) (want_none rfl) (fun hc v => ex_move rfl (q60.e (j := 13) rfl)) rfl q60.z (by decide) (fun _ => rfl) (q60.k fun _ q61 => ?_);clear q60
          refine vg_takeW 4 true (.int .i64 ((P.length : Nat) : Int)) rfl (by kernel_rfl) (by kernel_rfl) (by kernel_rfl) (by kernel_rfl) (want_none rfl) (fun hc v => ex_lenG rfl rfl Try.underlying42 (q61.e (j := 67) rfl)) rfl q61.z (by decide) (fun _ => rfl) (q61.k fun _ q62 => ?_);clear q61
          refine vg_takeW 5 true (.int .i64 ((P.length - 1 : Nat) : Int)) rfl (by kernel_rfl) (by kernel_rfl) (by kernel_rfl) (by kernel_rfl) (want_none rfl) (fun hc v => ex_bin (Y := .int .i64 ((1 : Nat) : Int)) rfl (q62.e (j := 68) rfl) rfl (subP _ _ P.length 1 (by omega) (by omega) _)) rfl q62.z (by decide) (fun _ => rfl) (q62.k fun _ q63 => ?_);clear q62
          refine vg_take 7 true (y9.val) rfl (by kernel_rfl) (by kernel_rfl) (by kernel_rfl) (by kernel_rfl) (by kernel_rfl) (by kernel_rfl) (want_none rfl) (fun hc v hv => by subst hv; exact ex_ld rfl (q63.e (j := 5) rfl) H6.ldH) rfl q63.z (by decide) rfl (q63.k fun _ q64 => ?_);clear q63
          refine vg_call 6 rfl (by kernel_rfl) (want_none rfl) (ex_call rfl (by simp only [List.map_toArray, List.map_cons, List.map_nil, (q64.e (j := 66) rfl), (q64.e (j := 69) rfl), evc] <;> rfl) rfl) (cj2 dO) rfl q64.z (by decide) ?_
          rintro e wO ⟨rfl, hwO⟩
          have hwO := hwO.symm
          subst hwO
          refine ⟨_, rfl, rfl, q64.k fun _ q65 => ?_⟩;clear q64
          refine vg_takeW 8 true (.pointer (some ⟨g5, j2 * 32, none⟩)) rfl (by kernel_rfl) (by kernel_rfl) (by kernel_rfl) (by kernel_rfl) (want_none rfl) (fun hc v => ex_ix rfl (q65.e (j := 64) rfl) (q65.e (j := 70) rfl) (ixH0 g5 P.length c5 j2 (by omega) _)) rfl q65.z (by decide) (fun _ => rfl) (q65.k fun _ q66 => ?_);clear q65
          obtain ⟨wS, hst, o9, u9, hz9⟩ := run_stH dO _ g5 P.length c5 P j2 y9 (by omega) o6
          refine vg_store 9 wS rfl (by kernel_rfl) (by kernel_rfl) (want_none rfl) (ex_st rfl (q66.e (j := 72) rfl) (q66.e (j := 71) rfl) hst) rfl ?_
          have s9 := o9.sl' kH
          obtain ⟨P9, hP9⟩ : ∃ y, y = P.set j2 y9 := ⟨_, rfl⟩
          rw [← hP9] at s9
          clear hP9 hst o9 o6 S6 H6
          refine vg_done (by kernel_rfl) ?_
          have d30 : Below w.heap.size w dO := d27.trans (hdO.mono d27.size)
          have d31 : Below w.heap.size w wS := d30.trans (bel_ge u9 d30.size (by omega))
          have q67 := ((((((((Rp.nil q66.z).cons (q66.a 13 rfl)).cons (q66.a 11 rfl)).cons (q66.a 10 rfl)).cons (q66.a 9 rfl)).cons (q66.a 8 rfl)).cons (q66.a 7 rfl)).cons (q66.a 0 rfl))
          clear q66
          have B32 : BB wS w3.heap.size 28 (x.cs) := ((((((((Bw9.later bw12).later bw18).later bw20).upd uw22 (show ¬ w3.heap.size = w18.heap.size by omega)).later bw24).later b5).later hdO).upd u9 (show ¬ w3.heap.size = g5 by omega))
          have B33 : BB wS w18.heap.size 24 ((hd (L.map lf)).cs) := ((((Bw22.later bw24).later b5).later hdO).upd u9 (show ¬ w18.heap.size = g5 by omega))
          exact ⟨_, rfl, P9, some ⟨g5, 0, none⟩, q67, s9, (((s4.later b5).later hdO).upd u9 (fun z9 hx hne hk => by first | exact hk | (rcases s4.at_ z9 hx with e | ⟨q9, o9, rfl, hq9, _⟩; exact hne e; have e9 : q9 = _ := hk; omega))), (((s6.later b5).later hdO).upd u9 (fun z9 hx hne hk => by first | exact hk | (rcases s6.at_ z9 hx with e | ⟨q9, o9, rfl, hq9, _⟩; exact hne e; have e9 : q9 = _ := hk; omega))), B33, B32, d31, by omega⟩
        · rw [decide_eq_false hc63] at q57
          have hc63h := hide hc63
          clear hc63
          refine wp_cond_false (q57.e (j := 63) rfl) ?_
          apply wp_skip
          have q58 := ((((((((Rp.nil q57.z).cons (q57.a 13 rfl)).cons (q57.a 11 rfl)).cons (q57.a 10 rfl)).cons (q57.a 9 rfl)).cons (q57.a 8 rfl)).cons (q57.a 7 rfl)).cons (q57.a 0 rfl))
          clear q57
          have B28 : BB w26 w3.heap.size 28 (x.cs) := ((((((Bw9.later bw12).later bw18).later bw20).upd uw22 (show ¬ w3.heap.size = w18.heap.size by omega)).later bw24).later b5)
          have B29 : BB w26 w18.heap.size 24 ((hd (L.map lf)).cs) := ((Bw22.later bw24).later b5)
          exact ⟨_, rfl, P, a5, q58, s5, (s4.later b5), (s6.later b5), B29, B28, d27, by omega⟩
      · rintro T wB ⟨P6, a7, q58, s7, s4b, s6b, B10b, B7b, DwB, zwB⟩
        obtain ⟨y0, hy0⟩ : ∃ x, L[1 + j - 1]? = some x := ⟨_, List.getElem?_eq_getElem (by omega)⟩
        go_upto_region 17 with fail
        refine vp_start 131 (fun T v => Rp T 131 [(0, gw true (.slice (some ⟨kq14, ko15, none⟩) n c)), (7, gw true (.pointer (some ⟨w3.heap.size, 0, none⟩))), (8, gw true (.slice a6 k6 c6)), (9, gw true (.int .i64 ((1 + j : Nat) : Int))), (10, gw true (.pointer (some ⟨w18.heap.size, 0, none⟩))), (11, gw true (.slice a4 P.length c4)), (13, gw true (.slice a7 P.length c5))] ∧ Upd (fun k => False) wB v) (fun (i : Nat) (T : Array Value) (v : World) => match i with | 0 => T[73]? = some (gw true ((hd (L.map lf)).val)) | 1 => T[74]? = some (gw true (.slice (some ⟨kq14, ko15, none⟩) n c)) | 2 => T[75]? = some (gw true (.int .i64 ((n : Nat) : Int))) | 3 => T[76]? = some (gw true (.int .i64 ((1 + j : Nat) : Int))) | 4 => T[77]? = some (gw true (.slice (some ⟨kq14, ko15, none⟩) n c)) | 5 => T[78]? = some (gw true (.int .i64 ((1 + j : Nat) : Int))) | 6 => T[79]? = some (gw true (.int .i64 ((1 + j - 1 : Nat) : Int))) | 7 => T[80]? = some (gw true (.pointer (some ⟨kq14, ko15 + (1 + j - 1) * 5, none⟩))) | 8 => T[81]? = some (gw true (y0.val20)) | 9 => T[82]? = some (gw true (.slice a7 P.length c5)) | 10 => T[83]? = some (gw true (.int .i64 (icR (hd (L.map lf)) ((n : Nat) : Int) ((1 + j : Nat) : Int) y0 P6 : Int))) | 11 => T[84]? = some (gw true (.bool (decide ((icR (hd (L.map lf)) ((n : Nat) : Int) ((1 + j : Nat) : Int) y0 P6 : Int) = 0)))) | 12 => T[85]? = some (gw true (.bool (decide ((icR (hd (L.map lf)) ((n : Nat) : Int) ((1 + j : Nat) : Int) y0 P6 : Int) = 0)))) | 13 => T[86]? = some (gw (true && ((decide ((icR (hd (L.map lf)) ((n : Nat) : Int) ((1 + j : Nat) : Int) y0 P6 : Int) = 0)) == true)) (.slice a7 P.length c5)) | 14 => T[87]? = some (gw (true && ((decide ((icR (hd (L.map lf)) ((n : Nat) : Int) ((1 + j : Nat) : Int) y0 P6 : Int) = 0)) == true)) (.slice a4 P.length c4)) | 15 => T[88]? = some (gw (true && ((decide ((icR (hd (L.map lf)) ((n : Nat) : Int) ((1 + j : Nat) : Int) y0 P6 : Int) = 0)) == true)) (.bool (decide (hvs P6 = hvs P)))) | 16 => T[89]? = some (gw (true && ((decide ((icR (hd (L.map lf)) ((n : Nat) : Int) ((1 + j : Nat) : Int) y0 P6 : Int) = 0)) == true)) (.bool (!(decide (hvs P6 = hvs P))))) | 17 => T[90]? = some (gw true (.bool ((decide ((icR (hd (L.map lf)) ((n : Nat) : Int) ((1 + j : Nat) : Int) y0 P6 : Int) = 0)) && (!(decide (hvs P6 = hvs P)))))) | _ => True) (fun (i : Nat) (T : Array Value) (v : World) => match i with | _ => True) (fun j T k => False) (fun i => match i with | 0 => [73] | 1 => [74] | 2 => [75] | 3 => [76] | 4 => [77] | 5 => [78] | 6 => [79] | 7 => [80] | 8 => [81] | 9 => [82] | 10 => [83] | 11 => [84] | 12 => [85] | 13 => [86] | 14 => [87] | 15 => [88] | 16 => [89] | 17 => [90] | _ => []) (fun _ => []) [0, 7, 8, 9, 10, 11, 13] (fun i j => false) (fun i => false) (by kernel_rfl) (by kernel_rfl) q58.z ⟨((((((((Rp.nil q58.z).cons (q58.a 13 rfl)).cons (q58.a 11 rfl)).cons (q58.a 10 rfl)).cons (q58.a 9 rfl)).cons (q58.a 8 rfl)).cons (q58.a 7 rfl)).cons (q58.a 0 rfl)), (Upd.refl _ _).drew20⟩ ?_ ?_ ?_ ?_ ?_ ?_
        · exact ⟨trivial, trivial, trivial, trivial, trivial, trivial, trivial, trivial, trivial, trivial, trivial, trivial, trivial, trivial, trivial, trivial, trivial, trivial, trivial⟩
        · intro j T T2 v v2 h _ hz hk hu
          exact ⟨h.1.ch hz hk, h.2.tr20 hu (fun k hk he => he.elim)⟩
        · refine ⟨?_, ?_, ?_, ?_, ?_, ?_, ?_, ?_, ?_, ?_, ?_, ?_, ?_, ?_, ?_, ?_, ?_, ?_, trivial⟩
          · exact fun j hj hu T T2 v v2 h hD hz hk zU => (hk 73 (List.mem_singleton.2 rfl)).trans h
          · exact fun j hj hu T T2 v v2 h hD hz hk zU => (hk 74 (List.mem_singleton.2 rfl)).trans h
          · exact fun j hj hu T T2 v v2 h hD hz hk zU => (hk 75 (List.mem_singleton.2 rfl)).trans h
          · exact fun j hj hu T T2 v v2 h hD hz hk zU => (hk 76 (List.mem_singleton.2 rfl)).trans h
          · exact fun j hj hu T T2 v v2 h hD hz hk zU => (hk 77 (List.mem_singleton.2 rfl)).trans h
          · exact fun j hj hu T T2 v v2 h hD hz hk zU => (hk 78 (List.mem_singleton.2 rfl)).trans h
          · exact fun j hj hu T T2 v v2 h hD hz hk zU => (hk 79 (List.mem_singleton.2 rfl)).trans h
          · exact fun j hj hu T T2 v v2 h hD hz hk zU => (hk 80 (List.mem_singleton.2 rfl)).trans h
          · exact fun j hj hu T T2 v v2 h hD hz hk zU => (hk 81 (List.mem_singleton.2 rfl)).trans h
          · exact fun j hj hu T T2 v v2 h hD hz hk zU => (hk 82 (List.mem_singleton.2 rfl)).trans h
          · exact fun j hj hu T T2 v v2 h hD hz hk zU => (hk 83 (List.mem_singleton.2 rfl)).trans h
          · exact fun j hj hu T T2 v v2 h hD hz hk zU => (hk 84 (List.mem_singleton.2 rfl)).trans h
          · exact fun j hj hu T T2 v v2 h hD hz hk zU => (hk 85 (List.mem_singleton.2 rfl)).trans h
          · exact fun j hj hu T T2 v v2 h hD hz hk zU => (hk 86 (List.mem_singleton.2 rfl)).trans h
          · exact fun j hj hu T T2 v v2 h hD hz hk zU => (hk 87 (List.mem_singleton.2 rfl)).trans h
          · exact fun j hj hu T T2 v v2 h hD hz hk zU => (hk 88 (List.mem_singleton.2 rfl)).trans h
          · exact fun j hj hu T T2 v v2 h hD hz hk zU => (hk 89 (List.mem_singleton.2 rfl)).trans h
          · exact fun j hj hu T T2 v v2 h hD hz hk zU => (hk 90 (List.mem_singleton.2 rfl)).trans h
        · refine ⟨fun _ _ _ _ _ _ _ _ _ _ _ => trivial, fun _ _ _ _ _ _ _ _ _ _ _ => trivial, fun _ _ _ _ _ _ _ _ _ _ _ => trivial, fun _ _ _ _ _ _ _ _ _ _ _ => trivial, fun _ _ _ _ _ _ _ _ _ _ _ => trivial, fun _ _ _ _ _ _ _ _ _ _ _ => trivial, fun _ _ _ _ _ _ _ _ _ _ _ => trivial, fun _ _ _ _ _ _ _ _ _ _ _ => trivial, fun _ _ _ _ _ _ _ _ _ _ _ => trivial, fun _ _ _ _ _ _ _ _ _ _ _ => trivial, fun _ _ _ _ _ _ _ _ _ _ _ => trivial, fun _ _ _ _ _ _ _ _ _ _ _ => trivial, fun _ _ _ _ _ _ _ _ _ _ _ => trivial, fun _ _ _ _ _ _ _ _ _ _ _ => trivial, fun _ _ _ _ _ _ _ _ _ _ _ => trivial, fun _ _ _ _ _ _ _ _ _ _ _ => trivial, fun _ _ _ _ _ _ _ _ _ _ _ => trivial, fun _ _ _ _ _ _ _ _ _ _ _ => trivial, trivial⟩
        · refine ⟨?_, ?_, ?_, ?_, ?_, ?_, ?_, ?_, ?_, ?_, ?_, ?_, ?_, ?_, ?_, ?_, ?_, ?_, trivial⟩
          · intro T df v zz zB zp zC
            have qb := zB.1
            have zU := zB.2
            exact ⟨true, want_none rfl, fun _ => .inl ⟨_, _, ex_ld rfl (qb.e (j := 10) rfl) (B10b.upd zU (show ¬ False from id)).ldH, Upd.refl _ _, fun h => absurd h (by decide), fun T2 N => N.s 73 rfl⟩, fun h => absurd h (by decide), fun h => absurd h (by decide)⟩
          · intro T df v zz zB zp zC
            have qb := zB.1
            have zU := zB.2
            exact ⟨true, want_none rfl, fun _ => .inl ⟨_, _, ex_move rfl (qb.e (j := 0) rfl), Upd.refl _ _, fun h => absurd h (by decide), fun T2 N => N.s 74 rfl⟩, fun h => absurd h (by decide), fun h => absurd h (by decide)⟩
          · intro T df v zz zB zp zC
            have qb := zB.1
            have zU := zB.2
            have p1 : T[74]? = some (gw true (.slice (some ⟨kq14, ko15, none⟩) n c)) := zp 1 (by kernel_rfl) (by kernel_rfl)
            exact ⟨true, want_none rfl, fun _ => .inl ⟨_, _, ex_lenG rfl rfl Try.underlying22 (ev p1 rfl), Upd.refl _ _, fun h => absurd h (by decide), fun T2 N => N.s 75 rfl⟩, fun h => absurd h (by decide), fun h => absurd h (by decide)⟩
          · intro T df v zz zB zp zC
            have qb := zB.1
            have zU := zB.2
            exact ⟨true, want_none rfl, fun _ => .inl ⟨_, _, ex_move rfl (qb.e (j := 9) rfl), Upd.refl _ _, fun h => absurd h (by decide), fun T2 N => N.s 76 rfl⟩, fun h => absurd h (by decide), fun h => absurd h (by decide)⟩
          · intro T df v zz zB zp zC
            have qb := zB.1
            have zU := zB.2
            exact ⟨true, want_none rfl, fun _ => .inl ⟨_, _, ex_move rfl (qb.e (j := 0) rfl), Upd.refl _ _, fun h => absurd h (by decide), fun T2 N => N.s 77 rfl⟩, fun h => absurd h (by decide), fun h => absurd h (by decide)⟩
          · intro T df v zz zB zp zC
            have qb := zB.1
            have zU := zB.2
            exact ⟨true, want_none rfl, fun _ => .inl ⟨_, _, ex_move rfl (qb.e (j := 9) rfl), Upd.refl _ _, fun h => absurd h (by decide), fun T2 N => N.s 78 rfl⟩, fun h => absurd h (by decide), fun h => absurd h (by decide)⟩
          · intro T df v zz zB zp zC
            have qb := zB.1
            have zU := zB.2
            have p5 : T[78]? = some (gw true (.int .i64 ((1 + j : Nat) : Int))) := zp 5 (by kernel_rfl) (by kernel_rfl)
            exact ⟨true, want_none rfl, fun _ => .inl ⟨_, _, ex_bin (Y := .int .i64 ((1 : Nat) : Int)) rfl (ev p5 rfl) rfl (subP _ _ (1 + j) 1 (by omega) (by omega) _), Upd.refl _ _, fun h => absurd h (by decide), fun T2 N => N.s 79 rfl⟩, fun h => absurd h (by decide), fun h => absurd h (by decide)⟩
          · intro T df v zz zB zp zC
            have qb := zB.1
            have zU := zB.2
            have p4 : T[77]? = some (gw true (.slice (some ⟨kq14, ko15, none⟩) n c)) := zp 4 (by kernel_rfl) (by kernel_rfl)
            have p6 : T[79]? = some (gw true (.int .i64 ((1 + j - 1 : Nat) : Int))) := zp 6 (by kernel_rfl) (by kernel_rfl)
            exact ⟨true, want_none rfl, fun _ => .inl ⟨_, _, ex_ix rfl (ev p4 rfl) (ev p6 rfl) (ixE20 kq14 ko15 n c (1 + j - 1) (by omega) _), Upd.refl _ _, fun h => absurd h (by decide), fun T2 N => N.s 80 rfl⟩, fun h => absurd h (by decide), fun h => absurd h (by decide)⟩
          · intro T df v zz zB zp zC
            have qb := zB.1
            have zU := zB.2
            have zDw : Below w.heap.size w v := DwB.trans (zU.below DwB.size (fun k hk => hk.elim))
            have p7 : T[80]? = some (gw true (.pointer (some ⟨kq14, ko15 + (1 + j - 1) * 5, none⟩))) := zp 7 (by kernel_rfl) (by kernel_rfl)
            exact ⟨true, want_none rfl, fun _ => .inl ⟨_, _, ex_ld rfl (ev p7 rfl) (ldEl20 (lkq14.upd (S := fun _ => False) (Upd.of_below zDw) hkq14 id) hy0), Upd.refl _ _, fun h => absurd h (by decide), fun T2 N => N.s 81 rfl⟩, fun h => absurd h (by decide), fun h => absurd h (by decide)⟩
          · intro T df v zz zB zp zC
            have qb := zB.1
            have zU := zB.2
            exact ⟨true, want_none rfl, fun _ => .inl ⟨_, _, ex_move rfl (qb.e (j := 13) rfl), Upd.refl _ _, fun h => absurd h (by decide), fun T2 N => N.s 82 rfl⟩, fun h => absurd h (by decide), fun h => absurd h (by decide)⟩
          · intro T df v zz zB zp zC
            have qb := zB.1
            have zU := zB.2
            have HB : Below wB.heap.size wB v := zU.below (Nat.le_refl _) (fun k hk => hk.elim)
            have p0 : T[73]? = some (gw true ((hd (L.map lf)).val)) := zp 0 (by kernel_rfl) (by kernel_rfl)
            have p2 : T[75]? = some (gw true (.int .i64 ((n : Nat) : Int))) := zp 2 (by kernel_rfl) (by kernel_rfl)
            have p3 : T[76]? = some (gw true (.int .i64 ((1 + j : Nat) : Int))) := zp 3 (by kernel_rfl) (by kernel_rfl)
            have p8 : T[81]? = some (gw true (y0.val20)) := zp 8 (by kernel_rfl) (by kernel_rfl)
            have p9 : T[82]? = some (gw true (.slice a7 P.length c5)) := zp 9 (by kernel_rfl) (by kernel_rfl)
            refine ⟨true, want_none rfl, fun hc => .inr (.inr ⟨_, _, _, ex_call rfl (by simp only [List.map_toArray, List.map_cons, List.map_nil, (ev p0 rfl), (ev p2 rfl), (ev p3 rfl), (ev p8 rfl), (ev p9 rfl), evc] <;> rfl) rfl, included20 (hd (L.map lf)) ((n : Nat) : Int) ((1 + j : Nat) : Int) y0 P6 _ _ _ v (s7.later HB) (by omega) (hv _ (List.mem_of_getElem? hy0)), ?_⟩), fun _ => rfl, fun h => absurd h (by decide)⟩
            rintro e w9 ⟨rfl, b9⟩
            exact ⟨_, rfl, Upd.of_below b9, fun h => absurd h (by decide), fun T2 N => N.s 83 rfl⟩
          · intro T df v zz zB zp zC
            have qb := zB.1
            have zU := zB.2
            have p10 : T[83]? = some (gw true (.int .i64 (icR (hd (L.map lf)) ((n : Nat) : Int) ((1 + j : Nat) : Int) y0 P6 : Int))) := zp 10 (by kernel_rfl) (by kernel_rfl)
            exact ⟨true, want_none rfl, fun _ => .inl ⟨_, _, ex_bin (Y := .int .i64 ((0 : Nat) : Int)) rfl (ev p10 rfl) rfl (eqEZ20 _ _ _ _ _), Upd.refl _ _, fun h => absurd h (by decide), fun T2 N => N.s 84 rfl⟩, fun h => absurd h (by decide), fun h => absurd h (by decide)⟩
          · intro T df v zz zB zp zC
            have qb := zB.1
            have zU := zB.2
            have p11 : T[84]? = some (gw true (.bool (decide ((icR (hd (L.map lf)) ((n : Nat) : Int) ((1 + j : Nat) : Int) y0 P6 : Int) = 0)))) := zp 11 (by kernel_rfl) (by kernel_rfl)
            exact ⟨true, want_none rfl, fun _ => .inl ⟨_, _, ex_move rfl (ev p11 rfl), Upd.refl _ _, fun h => absurd h (by decide), fun T2 N => N.s 85 rfl⟩, fun h => absurd h (by decide), fun h => absurd h (by decide)⟩
          · intro T df v zz zB zp zC
            have qb := zB.1
            have zU := zB.2
            have p12 : T[85]? = some (gw true (.bool (decide ((icR (hd (L.map lf)) ((n : Nat) : Int) ((1 + j : Nat) : Int) y0 P6 : Int) = 0)))) := zp 12 (by kernel_rfl) (by kernel_rfl)
            exact ⟨(true && ((decide ((icR (hd (L.map lf)) ((n : Nat) : Int) ((1 + j : Nat) : Int) y0 P6 : Int) = 0)) == true)), want_g rfl rfl p12, fun hc => .inl ⟨_, _, ex_move rfl (qb.e (j := 13) rfl), Upd.refl _ _, fun h => absurd h (by decide), fun T2 N => by rw [hc]; exact N.s 86 rfl⟩, fun _ => rfl, fun hc T2 N => by rw [hc]; exact N.s 86 rfl⟩
          · intro T df v zz zB zp zC
            have qb := zB.1
            have zU := zB.2
            have p12 : T[85]? = some (gw true (.bool (decide ((icR (hd (L.map lf)) ((n : Nat) : Int) ((1 + j : Nat) : Int) y0 P6 : Int) = 0)))) := zp 12 (by kernel_rfl) (by kernel_rfl)
            exact ⟨(true && ((decide ((icR (hd (L.map lf)) ((n : Nat) : Int) ((1 + j : Nat) : Int) y0 P6 : Int) = 0)) == true)), want_g rfl rfl p12, fun hc => .inl ⟨_, _, ex_move rfl (qb.e (j := 11) rfl), Upd.refl _ _, fun h => absurd h (by decide), fun T2 N => by rw [hc]; exact N.s 87 rfl⟩, fun _ => rfl, fun hc T2 N => by rw [hc]; exact N.s 87 rfl⟩
          · intro T df v zz zB zp zC
            have qb := zB.1
            have zU := zB.2
            have HB : Below wB.heap.size wB v := zU.below (Nat.le_refl _) (fun k hk => hk.elim)
            have p12 : T[85]? = some (gw true (.bool (decide ((icR (hd (L.map lf)) ((n : Nat) : Int) ((1 + j : Nat) : Int) y0 P6 : Int) = 0)))) := zp 12 (by kernel_rfl) (by kernel_rfl)
            have p13 : T[86]? = some (gw (true && ((decide ((icR (hd (L.map lf)) ((n : Nat) : Int) ((1 + j : Nat) : Int) y0 P6 : Int) = 0)) == true)) (.slice a7 P.length c5)) := zp 13 (by kernel_rfl) (by kernel_rfl)
            have p14 : T[87]? = some (gw (true && ((decide ((icR (hd (L.map lf)) ((n : Nat) : Int) ((1 + j : Nat) : Int) y0 P6 : Int) = 0)) == true)) (.slice a4 P.length c4)) := zp 14 (by kernel_rfl) (by kernel_rfl)
            refine ⟨(true && ((decide ((icR (hd (L.map lf)) ((n : Nat) : Int) ((1 + j : Nat) : Int) y0 P6 : Int) = 0)) == true)), want_g rfl rfl p12, fun hc => .inr (.inr ⟨_, _, _, ex_call rfl (by simp only [List.map_toArray, List.map_cons, List.map_nil, (ev p13 hc), (ev p14 hc), evc] <;> rfl) rfl, sameH20 P6 P _ _ _ _ _ _ v (s7.later HB) (s4b.later HB) (by omega), ?_⟩), fun _ => rfl, fun hc T2 N => by rw [hc]; exact N.s 88 rfl⟩
            rintro e w9 ⟨rfl, b9⟩
            exact ⟨_, rfl, Upd.of_below b9, fun h => absurd h (by decide), fun T2 N => by rw [hc]; exact N.s 88 rfl⟩
          · intro T df v zz zB zp zC
            have qb := zB.1
            have zU := zB.2
            have p12 : T[85]? = some (gw true (.bool (decide ((icR (hd (L.map lf)) ((n : Nat) : Int) ((1 + j : Nat) : Int) y0 P6 : Int) = 0)))) := zp 12 (by kernel_rfl) (by kernel_rfl)
            have p15 : T[88]? = some (gw (true && ((decide ((icR (hd (L.map lf)) ((n : Nat) : Int) ((1 + j : Nat) : Int) y0 P6 : Int) = 0)) == true)) (.bool (decide (hvs P6 = hvs P)))) := zp 15 (by kernel_rfl) (by kernel_rfl)
            exact ⟨(true && ((decide ((icR (hd (L.map lf)) ((n : Nat) : Int) ((1 + j : Nat) : Int) y0 P6 : Int) = 0)) == true)), want_g rfl rfl p12, fun hc => .inl ⟨_, _, ex_not rfl (ev p15 hc), Upd.refl _ _, fun h => absurd h (by decide), fun T2 N => by rw [hc]; exact N.s 89 rfl⟩, fun _ => rfl, fun hc T2 N => by rw [hc]; exact N.s 89 rfl⟩
          · intro T df v zz zB zp zC
            have qb := zB.1
            have zU := zB.2
            have p12 : T[85]? = some (gw true (.bool (decide ((icR (hd (L.map lf)) ((n : Nat) : Int) ((1 + j : Nat) : Int) y0 P6 : Int) = 0)))) := zp 12 (by kernel_rfl) (by kernel_rfl)
            have p16 : T[89]? = some (gw (true && ((decide ((icR (hd (L.map lf)) ((n : Nat) : Int) ((1 + j : Nat) : Int) y0 P6 : Int) = 0)) == true)) (.bool (!(decide (hvs P6 = hvs P))))) := zp 16 (by kernel_rfl) (by kernel_rfl)
            exact ⟨true, want_none rfl, fun _ => .inl ⟨_, _, ex_and (c := true) (b := (decide ((icR (hd (L.map lf)) ((n : Nat) : Int) ((1 + j : Nat) : Int) y0 P6 : Int) = 0))) (z := (!(decide (hvs P6 = hvs P)))) rfl p12 p16 rfl, Upd.refl _ _, fun h => absurd h (by decide), fun T2 N => N.s 90 rfl⟩, fun h => absurd h (by decide), fun h => absurd h (by decide)⟩
        intro T v28 zz zB zq za
        have qb := zB.1
        have U29 := zB.2
        clear zB zz
        clear q58
        have d30 : Below w.heap.size w v28 := DwB.trans (U29.below (Nat.le_trans DwB.size (Nat.le_refl _)) (fun k hk => hk.elim))
        have zv28 := U29.size
        have p17 : T[90]? = some (gw true (.bool ((decide ((icR (hd (L.map lf)) ((n : Nat) : Int) ((1 + j : Nat) : Int) y0 P6 : Int) = 0)) && (!(decide (hvs P6 = hvs P)))))) := zq 17 _ rfl (fun k => rfl)
        have q59 := (qb.cons p17)
        clear zq za qb p17
        go_upto_if 90 with fail
        refine v_cut18 (fun T wC => Rp T 131 [(0, gw true (.slice (some ⟨kq14, ko15, none⟩) n c)), (7, gw true (.pointer (some ⟨w3.heap.size, 0, none⟩))), (8, gw true (.slice a6 k6 c6)), (9, gw true (.int .i64 ((1 + j : Nat) : Int))), (10, gw true (.pointer (some ⟨w18.heap.size, 0, none⟩)))] ∧ SlY yH wC a6 k6 c6 P2 ∧ BB wC w18.heap.size 24 (hd (L.map lf)).cs ∧ BB wC w3.heap.size 28 x.cs ∧ Below w.heap.size w wC ∧ v28.heap.size ≤ wC.heap.size) ?_ ?_
        · by_cases hc90 : (icR (hd (L.map lf)) ((n : Nat) : Int) ((1 + j : Nat) : Int) y0 P6 : Int) = 0
          · rw [decide_eq_true hc90] at q59
            have hc90h := hide hc90
            clear hc90
            by_cases hc90b : hvs P6 = hvs P
            · rw [decide_eq_true hc90b] at q59
              have hc90bh := hide hc90b
              clear hc90b
              refine wp_cond_false (q59.e (j := 90) rfl) ?_
              apply wp_skip
              have q60 := ((((((Rp.nil q59.z).cons (q59.a 10 rfl)).cons (q59.a 9 rfl)).cons (q59.a 8 rfl)).cons (q59.a 7 rfl)).cons (q59.a 0 rfl))
              clear q59
              have B31 : BB v28 w3.heap.size 28 (x.cs) := (B7b.upd U29 (show ¬ False from id))
              have B32 : BB v28 w18.heap.size 24 ((hd (L.map lf)).cs) := (B10b.upd U29 (show ¬ False from id))
              exact ⟨_, rfl, q60, (s6b.upd U29 (fun z9 hx hne hk => by first | exact hk | (rcases s6b.at_ z9 hx with e | ⟨q9, o9, rfl, hq9, _⟩; exact hne e; have e9 : q9 = _ := hk; omega))), B32, B31, d30, by omega⟩
            · rw [decide_eq_false hc90b] at q59
              have hc90bh := hide hc90b
              clear hc90b
              refine wp_cond_true (q59.e (j := 90) rfl) ?_
              go_upto_region 18 with fail
              refine wp_region_lit ?_
              refine q59.t (.slice (some ⟨kq14, ko15, none⟩) n c) (ex_move rfl (q59.e (j := 0) rfl)) fun _ q60 => ?_;clear q59
              refine q60.t (.int .i64 ((1 + j : Nat) : Int)) (ex_move rfl (q60.e (j := 9) rfl)) fun _ q61 => ?_;clear q60
              refine q61.t (.slice (some ⟨kq14, ko15, none⟩) n c) (ex_move rfl (q61.e (j := 0) rfl)) fun _ q62 => ?_;clear q61
              refine q62.t (.int .i64 ((1 + j : Nat) : Int)) (ex_move rfl (q62.e (j := 9) rfl)) fun _ q63 => ?_;clear q62
              refine q63.t (.int .i64 ((1 + j - 1 : Nat) : Int)) (ex_bin (Y := .int .i64 ((1 : Nat) : Int)) rfl (q63.e (j := 95) rfl) rfl (subP _ _ (1 + j) 1 (by omega) (by omega) _)) fun _ q64 => ?_;clear q63
              refine q64.t (.pointer (some ⟨kq14, ko15 + (1 + j - 1) * 5, none⟩)) (ex_ix rfl (q64.e (j := 94) rfl) (q64.e (j := 96) rfl) (ixE20 kq14 ko15 n c (1 + j - 1) (by omega) _)) fun _ q65 => ?_;clear q64
              refine q65.t (y0.val20) (ex_ld rfl (q65.e (j := 97) rfl) (ldEl20 (lkq14.upd (S := fun _ => False) (Upd.of_below d30) hkq14 id) hy0)) fun _ q66 => ?_;clear q65
              refine q66.t (.slice a7 P.length c5) (ex_move rfl (q66.e (j := 13) rfl)) fun _ q67 => ?_;clear q66
              have hz := ic_zero20 hc90h.out (by omega) (by omega)
              obtain ⟨F, hF, cF⟩ := climbs_ex n L (1 + j) y0 P6 n P.length lL s7.len (Nat.le_refl _) (by omega) (by omega) (by omega) (s7.len.symm.trans hz.1) hv (hv _ (List.mem_of_getElem? hy0))
              have hFt : F = true := hF hz.2 (.inr (fun e => hc90bh.out (by rw [e, ← HPd.out])))
              subst hFt
              clear hz hF
              refine vcallP (want_none rfl) (ex_call rfl (by simp only [List.map_toArray, List.map_cons, List.map_nil, (q67.e (j := 92) rfl), (q67.e (j := 93) rfl), (q67.e (j := 98) rfl), (q67.e (j := 99) rfl), evc] <;> rfl) rfl) (cF _ _ _ _ v28 (h.later d30) (s7.upd U29 (fun z9 hx hne hk => by first | exact hk | (rcases s7.at_ z9 hx with e | ⟨q9, o9, rfl, hq9, _⟩; exact hne e; have e9 : q9 = _ := hk; omega)))) rfl q67.z (by decide) ?_
              rintro e w31 ⟨rfl, bw31⟩
              refine ⟨_, rfl, q67.k fun _ q68 => ?_⟩;clear q67
              have zw31 := bw31.size
              have d32 : Below w.heap.size w w31 := d30.trans (bw31.mono d30.size)
              refine q68.t (.tuple #[(cl (lf y0) (1 + j) n P6).val, .bool true]) (ex_move rfl (q68.e (j := 100) rfl)) fun _ q69 => ?_;clear q68
              refine q69.t ((cl (lf y0) (1 + j) n P6).val) (ex_ext18 rfl (q69.e (j := 91) rfl) rfl) fun _ q70 => ?_;clear q69
              refine q70.t (.bool true) (ex_ext18 rfl (q70.e (j := 91) rfl) rfl) fun _ q71 => ?_;clear q70
              obtain ⟨w33, hw33⟩ : ∃ y, y = w31.alloc (.cells (zH.cs).toArray 24) := ⟨_, rfl⟩
              refine vw (.pointer (some ⟨w31.heap.size, 0, none⟩)) w33 (want_none rfl) (ex_al rfl (by rw [hw33]; exact alH _)) rfl q71.z (by decide) (q71.k fun _ q72 => ?_);clear q71
              have Bw33 : BB w33 w31.heap.size 24 (zH.cs) := by rw [hw33]; exact BB.new _ _ _
              have bw33 : Below w31.heap.size w31 w33 := by rw [hw33]; exact (Below.refl _ _).alloc (Nat.le_refl _) _
              have zw33 : w33.heap.size = w31.heap.size + 1 := by rw [hw33]; exact World.size_alloc _ _
              clear hw33
              have d34 : Below w.heap.size w w33 := d32.trans (bw33.mono d32.size)
              obtain ⟨w35, hw35⟩ : ∃ y, y = w33.setCells w31.heap.size 0 ((cl (lf y0) (1 + j) n P6).cs) := ⟨_, rfl⟩
              refine vs w35 (want_none rfl) (ex_st rfl (q72.e (j := 14) rfl) (q72.e (j := 101) rfl) (by rw [hw35]; exact Bw33.stH rfl _)) rfl ?_
              have Bw35 : BB w35 w31.heap.size 24 ((cl (lf y0) (1 + j) n P6).cs) := by rw [hw35]; exact Bw33.putH rfl _
              have uw35 : Upd (fun k => k = w31.heap.size) w33 w35 := by rw [hw35]; exact upd18 _ _ _ _
              clear hw35
              have zw35 := uw35.size
              have d36 : Below w.heap.size w w35 := d34.trans (bel_ge uw35 d34.size (by omega))
              refine q72.t (.bool true) (ex_assign rfl (q72.e (j := 102) rfl)) fun _ q73 => ?_;clear q72
              refine wpList_nil ?_
              go_upto_region 19 with fail
              refine wp_region_lit ?_
              refine q73.t (.bool true) (ex_move rfl (q73.e (j := 15) rfl)) fun _ q74 => ?_;clear q73
              refine q74.t (.bool false) (ex_not rfl (q74.e (j := 103) rfl)) fun _ q75 => ?_;clear q74
              refine wpList_nil ?_
              go_upto_if 104 with fail
              refine wp_cond_false (q75.e (j := 104) rfl) ?_
              apply wp_skip
              have q76 := ((((((Rp.nil q75.z).cons (q75.a 10 rfl)).cons (q75.a 9 rfl)).cons (q75.a 8 rfl)).cons (q75.a 7 rfl)).cons (q75.a 0 rfl))
              clear q75
              have B37 : BB w35 w3.heap.size 28 (x.cs) := ((((B7b.upd U29 (show ¬ False from id)).later bw31).later bw33).upd uw35 (show ¬ w3.heap.size = w31.heap.size by omega))
              have B38 : BB w35 w18.heap.size 24 ((hd (L.map lf)).cs) := ((((B10b.upd U29 (show ¬ False from id)).later bw31).later bw33).upd uw35 (show ¬ w18.heap.size = w31.heap.size by omega))
              exact ⟨_, rfl, q76, ((((s6b.upd U29 (fun z9 hx hne hk => by first | exact hk | (rcases s6b.at_ z9 hx with e | ⟨q9, o9, rfl, hq9, _⟩; exact hne e; have e9 : q9 = _ := hk; omega))).later bw31).later bw33).upd uw35 (fun z9 hx hne hk => by first | exact hk | (rcases s6b.at_ z9 hx with e | ⟨q9, o9, rfl, hq9, _⟩; exact hne e; have e9 : q9 = _ := hk; omega))), B38, B37, d36, by omega⟩
          · rw [decide_eq_false hc90] at q59
            have hc90h := hide hc90
            clear hc90
            refine wp_cond_false (q59.e (j := 90) rfl) ?_
            apply wp_skip
            have q60 := ((((((Rp.nil q59.z).cons (q59.a 10 rfl)).cons (q59.a 9 rfl)).cons (q59.a 8 rfl)).cons (q59.a 7 rfl)).cons (q59.a 0 rfl))
            clear q59
            have B31 : BB v28 w3.heap.size 28 (x.cs) := (B7b.upd U29 (show ¬ False from id))
            have B32 : BB v28 w18.heap.size 24 ((hd (L.map lf)).cs) := (B10b.upd U29 (show ¬ False from id))
            exact ⟨_, rfl, q60, (s6b.upd U29 (fun z9 hx hne hk => by first | exact hk | (rcases s6b.at_ z9 hx with e | ⟨q9, o9, rfl, hq9, _⟩; exact hne e; have e9 : q9 = _ := hk; omega))), B32, B31, d30, by omega⟩
        · rintro T wC ⟨q60, s6c, B10c, B7c, DwC, zwC⟩
          go_upto_region 21 with fail
          refine vp_start 131 (fun T v => Rp T 131 [(0, gw true (.slice (some ⟨kq14, ko15, none⟩) n c)), (7, gw true (.pointer (some ⟨w3.heap.size, 0, none⟩))), (8, gw true (.slice a6 k6 c6)), (9, gw true (.int .i64 ((1 + j : Nat) : Int))), (10, gw true (.pointer (some ⟨w18.heap.size, 0, none⟩)))] ∧ Upd (fun k => False) wC v) (fun (i : Nat) (T : Array Value) (v : World) => match i with | 0 => T[105]? = some (gw true ((hd (L.map lf)).val)) | 1 => T[106]? = some (gw true (.slice (some ⟨kq14, ko15, none⟩) n c)) | 2 => T[107]? = some (gw true (.int .i64 ((n : Nat) : Int))) | 3 => T[108]? = some (gw true (.int .i64 ((1 + j : Nat) : Int))) | 4 => T[109]? = some (gw true (x.val20)) | 5 => T[110]? = some (gw true (.slice a6 k6 c6)) | 6 => T[111]? = some (gw true (.int .i64 (icR (hd (L.map lf)) ((n : Nat) : Int) ((1 + j : Nat) : Int) x P2 : Int))) | 7 => T[112]? = some (gw true (.bool (!decide ((icR (hd (L.map lf)) ((n : Nat) : Int) ((1 + j : Nat) : Int) x P2 : Int) = 0)))) | 8 => T[113]? = some (gw true (.bool (!decide ((icR (hd (L.map lf)) ((n : Nat) : Int) ((1 + j : Nat) : Int) x P2 : Int) = 0)))) | 9 => T[114]? = some (gw (true && ((!decide ((icR (hd (L.map lf)) ((n : Nat) : Int) ((1 + j : Nat) : Int) x P2 : Int) = 0)) == false)) (x.val20)) | 10 => T[115]? = some (gw (true && ((!decide ((icR (hd (L.map lf)) ((n : Nat) : Int) ((1 + j : Nat) : Int) x P2 : Int) = 0)) == false)) (.slice (some ⟨kq14, ko15, none⟩) n c)) | 11 => T[116]? = some (gw (true && ((!decide ((icR (hd (L.map lf)) ((n : Nat) : Int) ((1 + j : Nat) : Int) x P2 : Int) = 0)) == false)) (.int .i64 ((1 + j : Nat) : Int))) | 12 => T[117]? = some (gw (true && ((!decide ((icR (hd (L.map lf)) ((n : Nat) : Int) ((1 + j : Nat) : Int) x P2 : Int) = 0)) == false)) (.int .i64 ((1 + j - 1 : Nat) : Int))) | 13 => T[118]? = some (gw (true && ((!decide ((icR (hd (L.map lf)) ((n : Nat) : Int) ((1 + j : Nat) : Int) x P2 : Int) = 0)) == false)) (.pointer (some ⟨kq14, ko15 + (1 + j - 1) * 5, none⟩))) | 14 => T[119]? = some (gw (true && ((!decide ((icR (hd (L.map lf)) ((n : Nat) : Int) ((1 + j : Nat) : Int) x P2 : Int) = 0)) == false)) (y0.val20)) | 15 => T[120]? = some (gw (true && ((!decide ((icR (hd (L.map lf)) ((n : Nat) : Int) ((1 + j : Nat) : Int) x P2 : Int) = 0)) == false)) (.bool (decide (x = y0)))) | 16 => T[121]? = some (gw true (.bool ((!decide ((icR (hd (L.map lf)) ((n : Nat) : Int) ((1 + j : Nat) : Int) x P2 : Int) = 0)) || (decide (x = y0))))) | _ => True) (fun (i : Nat) (T : Array Value) (v : World) => match i with | _ => True) (fun j T k => False) (fun i => match i with | 0 => [105] | 1 => [106] | 2 => [107] | 3 => [108] | 4 => [109] | 5 => [110] | 6 => [111] | 7 => [112] | 8 => [113] | 9 => [114] | 10 => [115] | 11 => [116] | 12 => [117] | 13 => [118] | 14 => [119] | 15 => [120] | 16 => [121] | _ => []) (fun _ => []) [0, 7, 8, 9, 10] (fun i j => false) (fun i => false) (by kernel_rfl) (by kernel_rfl) q60.z ⟨((((((Rp.nil q60.z).cons (q60.a 10 rfl)).cons (q60.a 9 rfl)).cons (q60.a 8 rfl)).cons (q60.a 7 rfl)).cons (q60.a 0 rfl)), (Upd.refl _ _).drew20⟩ ?_ ?_ ?_ ?_ ?_ ?_
          · exact ⟨trivial, trivial, trivial, trivial, trivial, trivial, trivial, trivial, trivial, trivial, trivial, trivial, trivial, trivial, trivial, trivial, trivial, trivial⟩
          · intro j T T2 v v2 h _ hz hk hu
            exact ⟨h.1.ch hz hk, h.2.tr20 hu (fun k hk he => he.elim)⟩
          · refine ⟨?_, ?_, ?_, ?_, ?_, ?_, ?_, ?_, ?_, ?_, ?_, ?_, ?_, ?_, ?_, ?_, ?_, trivial⟩
            · exact fun j hj hu T T2 v v2 h hD hz hk zU => (hk 105 (List.mem_singleton.2 rfl)).trans h
            · exact fun j hj hu T T2 v v2 h hD hz hk zU => (hk 106 (List.mem_singleton.2 rfl)).trans h
            · exact fun j hj hu T T2 v v2 h hD hz hk zU => (hk 107 (List.mem_singleton.2 rfl)).trans h
            · exact fun j hj hu T T2 v v2 h hD hz hk zU => (hk 108 (List.mem_singleton.2 rfl)).trans h
            · exact fun j hj hu T T2 v v2 h hD hz hk zU => (hk 109 (List.mem_singleton.2 rfl)).trans h
            · exact fun j hj hu T T2 v v2 h hD hz hk zU => (hk 110 (List.mem_singleton.2 rfl)).trans h
            · exact fun j hj hu T T2 v v2 h hD hz hk zU => (hk 111 (List.mem_singleton.2 rfl)).trans h
            · exact fun j hj hu T T2 v v2 h hD hz hk zU => (hk 112 (List.mem_singleton.2 rfl)).trans h
            · exact fun j hj hu T T2 v v2 h hD hz hk zU => (hk 113 (List.mem_singleton.2 rfl)).trans h
            · exact fun j hj hu T T2 v v2 h hD hz hk zU => (hk 114 (List.mem_singleton.2 rfl)).trans h
            · exact fun j hj hu T T2 v v2 h hD hz hk zU => (hk 115 (List.mem_singleton.2 rfl)).trans h
            · exact fun j hj hu T T2 v v2 h hD hz hk zU => (hk 116 (List.mem_singleton.2 rfl)).trans h
            · exact fun j hj hu T T2 v v2 h hD hz hk zU => (hk 117 (List.mem_singleton.2 rfl)).trans h
            · exact fun j hj hu T T2 v v2 h hD hz hk zU => (hk 118 (List.mem_singleton.2 rfl)).trans h
            · exact fun j hj hu T T2 v v2 h hD hz hk zU => (hk 119 (List.mem_singleton.2 rfl)).trans h
            · exact fun j hj hu T T2 v v2 h hD hz hk zU => (hk 120 (List.mem_singleton.2 rfl)).trans h
            · exact fun j hj hu T T2 v v2 h hD hz hk zU => (hk 121 (List.mem_singleton.2 rfl)).trans h
          · refine ⟨fun _ _ _ _ _ _ _ _ _ _ _ => trivial, fun _ _ _ _ _ _ _ _ _ _ _ => trivial, fun _ _ _ _ _ _ _ _ _ _ _ => trivial, fun _ _ _ _ _ _ _ _ _ _ _ => trivial, fun _ _ _ _ _ _ _ _ _ _ _ => trivial, fun _ _ _ _ _ _ _ _ _ _ _ => trivial, fun _ _ _ _ _ _ _ _ _ _ _ => trivial, fun _ _ _ _ _ _ _ _ _ _ _ => trivial, fun _ _ _ _ _ _ _ _ _ _ _ => trivial, fun _ _ _ _ _ _ _ _ _ _ _ => trivial, fun _ _ _ _ _ _ _ _ _ _ _ => trivial, fun _ _ _ _ _ _ _ _ _ _ _ => trivial, fun _ _ _ _ _ _ _ _ _ _ _ => trivial, fun _ _ _ _ _ _ _ _ _ _ _ => trivial, fun _ _ _ _ _ _ _ _ _ _ _ => trivial, fun _ _ _ _ _ _ _ _ _ _ _ => trivial, fun _ _ _ _ _ _ _ _ _ _ _ => trivial, trivial⟩
          · refine ⟨?_, ?_, ?_, ?_, ?_, ?_, ?_, ?_, ?_, ?_, ?_, ?_, ?_, ?_, ?_, ?_, ?_, trivial⟩
            · intro T df v zz zB zp zC
              have qb := zB.1
              have zU := zB.2
              exact ⟨true, want_none rfl, fun _ => .inl ⟨_, _, ex_ld rfl (qb.e (j := 10) rfl) (B10c.upd zU (show ¬ False from id)).ldH, Upd.refl _ _, fun h => absurd h (by decide), fun T2 N => N.s 105 rfl⟩, fun h => absurd h (by decide), fun h => absurd h (by decide)⟩
            · intro T df v zz zB zp zC
              have qb := zB.1
              have zU := zB.2
              exact ⟨true, want_none rfl, fun _ => .inl ⟨_, _, ex_move rfl (qb.e (j := 0) rfl), Upd.refl _ _, fun h => absurd h (by decide), fun T2 N => N.s 106 rfl⟩, fun h => absurd h (by decide), fun h => absurd h (by decide)⟩
            · intro T df v zz zB zp zC
              have qb := zB.1
              have zU := zB.2
              have p1 : T[106]? = some (gw true (.slice (some ⟨kq14, ko15, none⟩) n c)) := zp 1 (by kernel_rfl) (by kernel_rfl)
              exact ⟨true, want_none rfl, fun _ => .inl ⟨_, _, ex_lenG rfl rfl Try.underlying22 (ev p1 rfl), Upd.refl _ _, fun h => absurd h (by decide), fun T2 N => N.s 107 rfl⟩, fun h => absurd h (by decide), fun h => absurd h (by decide)⟩
            · intro T df v zz zB zp zC
              have qb := zB.1
              have zU := zB.2
              exact ⟨true, want_none rfl, fun _ => .inl ⟨_, _, ex_move rfl (qb.e (j := 9) rfl), Upd.refl _ _, fun h => absurd h (by decide), fun T2 N => N.s 108 rfl⟩, fun h => absurd h (by decide), fun h => absurd h (by decide)⟩
            · intro T df v zz zB zp zC
              have qb := zB.1
              have zU := zB.2
              exact ⟨true, want_none rfl, fun _ => .inl ⟨_, _, ex_ld rfl (qb.e (j := 7) rfl) (B7c.upd zU (show ¬ False from id)).ldE20, Upd.refl _ _, fun h => absurd h (by decide), fun T2 N => N.s 109 rfl⟩, fun h => absurd h (by decide), fun h => absurd h (by decide)⟩
            · intro T df v zz zB zp zC
              have qb := zB.1
              have zU := zB.2
              exact ⟨true, want_none rfl, fun _ => .inl ⟨_, _, ex_move rfl (qb.e (j := 8) rfl), Upd.refl _ _, fun h => absurd h (by decide), fun T2 N => N.s 110 rfl⟩, fun h => absurd h (by decide), fun h => absurd h (by decide)⟩
            · intro T df v zz zB zp zC
              have qb := zB.1
              have zU := zB.2
              have HB : Below wC.heap.size wC v := zU.below (Nat.le_refl _) (fun k hk => hk.elim)
              have p0 : T[105]? = some (gw true ((hd (L.map lf)).val)) := zp 0 (by kernel_rfl) (by kernel_rfl)
              have p2 : T[107]? = some (gw true (.int .i64 ((n : Nat) : Int))) := zp 2 (by kernel_rfl) (by kernel_rfl)
              have p3 : T[108]? = some (gw true (.int .i64 ((1 + j : Nat) : Int))) := zp 3 (by kernel_rfl) (by kernel_rfl)
              have p4 : T[109]? = some (gw true (x.val20)) := zp 4 (by kernel_rfl) (by kernel_rfl)
              have p5 : T[110]? = some (gw true (.slice a6 k6 c6)) := zp 5 (by kernel_rfl) (by kernel_rfl)
              refine ⟨true, want_none rfl, fun hc => .inr (.inr ⟨_, _, _, ex_call rfl (by simp only [List.map_toArray, List.map_cons, List.map_nil, (ev p0 rfl), (ev p2 rfl), (ev p3 rfl), (ev p4 rfl), (ev p5 rfl), evc] <;> rfl) rfl, included20 (hd (L.map lf)) ((n : Nat) : Int) ((1 + j : Nat) : Int) x P2 _ _ _ v (s6c.later HB) (by omega) hx, ?_⟩), fun _ => rfl, fun h => absurd h (by decide)⟩
              rintro e w9 ⟨rfl, b9⟩
              exact ⟨_, rfl, Upd.of_below b9, fun h => absurd h (by decide), fun T2 N => N.s 111 rfl⟩
            · intro T df v zz zB zp zC
              have qb := zB.1
              have zU := zB.2
              have p6 : T[111]? = some (gw true (.int .i64 (icR (hd (L.map lf)) ((n : Nat) : Int) ((1 + j : Nat) : Int) x P2 : Int))) := zp 6 (by kernel_rfl) (by kernel_rfl)
              exact ⟨true, want_none rfl, fun _ => .inl ⟨_, _, ex_bin (Y := .int .i64 ((0 : Nat) : Int)) rfl (ev p6 rfl) rfl (neEZ20 _ _ _ _ _), Upd.refl _ _, fun h => absurd h (by decide), fun T2 N => N.s 112 rfl⟩, fun h => absurd h (by decide), fun h => absurd h (by decide)⟩
            · intro T df v zz zB zp zC
              have qb := zB.1
              have zU := zB.2
              have p7 : T[112]? = some (gw true (.bool (!decide ((icR (hd (L.map lf)) ((n : Nat) : Int) ((1 + j : Nat) : Int) x P2 : Int) = 0)))) := zp 7 (by kernel_rfl) (by kernel_rfl)
              exact ⟨true, want_none rfl, fun _ => .inl ⟨_, _, ex_move rfl (ev p7 rfl), Upd.refl _ _, fun h => absurd h (by decide), fun T2 N => N.s 113 rfl⟩, fun h => absurd h (by decide), fun h => absurd h (by decide)⟩
            · intro T df v zz zB zp zC
              have qb := zB.1
              have zU := zB.2
              have p8 : T[113]? = some (gw true (.bool (!decide ((icR (hd (L.map lf)) ((n : Nat) : Int) ((1 + j : Nat) : Int) x P2 : Int) = 0)))) := zp 8 (by kernel_rfl) (by kernel_rfl)
              exact ⟨(true && ((!decide ((icR (hd (L.map lf)) ((n : Nat) : Int) ((1 + j : Nat) : Int) x P2 : Int) = 0)) == false)), want_g rfl rfl p8, fun hc => .inl ⟨_, _, ex_ld rfl (qb.e (j := 7) rfl) (B7c.upd zU (show ¬ False from id)).ldE20, Upd.refl _ _, fun h => absurd h (by decide), fun T2 N => by rw [hc]; exact N.s 114 rfl⟩, fun _ => rfl, fun hc T2 N => by rw [hc]; exact N.s 114 rfl⟩
            · intro T df v zz zB zp zC
              have qb := zB.1
              have zU := zB.2
              have p8 : T[113]? = some (gw true (.bool (!decide ((icR (hd (L.map lf)) ((n : Nat) : Int) ((1 + j : Nat) : Int) x P2 : Int) = 0)))) := zp 8 (by kernel_rfl) (by kernel_rfl)
              exact ⟨(true && ((!decide ((icR (hd (L.map lf)) ((n : Nat) : Int) ((1 + j : Nat) : Int) x P2 : Int) = 0)) == false)), want_g rfl rfl p8, fun hc => .inl ⟨_, _, ex_move rfl (qb.e (j := 0) rfl), Upd.refl _ _, fun h => absurd h (by decide), fun T2 N => by rw [hc]; exact N.s 115 rfl⟩, fun _ => rfl, fun hc T2 N => by rw [hc]; exact N.s 115 rfl⟩
            · intro T df v zz zB zp zC
              have qb := zB.1
              have zU := zB.2
              have p8 : T[113]? = some (gw true (.bool (!decide ((icR (hd (L.map lf)) ((n : Nat) : Int) ((1 + j : Nat) : Int) x P2 : Int) = 0)))) := zp 8 (by kernel_rfl) (by kernel_rfl)
              exact ⟨(true && ((!decide ((icR (hd (L.map lf)) ((n : Nat) : Int) ((1 + j : Nat) : Int) x P2 : Int) = 0)) == false)), want_g rfl rfl p8, fun hc => .inl ⟨_, _, ex_move rfl (qb.e (j := 9) rfl), Upd.refl _ _, fun h => absurd h (by decide), fun T2 N => by rw [hc]; exact N.s 116 rfl⟩, fun _ => rfl, fun hc T2 N => by rw [hc]; exact N.s 116 rfl⟩
            · intro T df v zz zB zp zC
              have qb := zB.1
              have zU := zB.2
              have p8 : T[113]? = some (gw true (.bool (!decide ((icR (hd (L.map lf)) ((n : Nat) : Int) ((1 + j : Nat) : Int) x P2 : Int) = 0)))) := zp 8 (by kernel_rfl) (by kernel_rfl)
              have p11 : T[116]? = some (gw (true && ((!decide ((icR (hd (L.map lf)) ((n : Nat) : Int) ((1 + j : Nat) : Int) x P2 : Int) = 0)) == false)) (.int .i64 ((1 + j : Nat) : Int))) := zp 11 (by kernel_rfl) (by kernel_rfl)
              exact ⟨(true && ((!decide ((icR (hd (L.map lf)) ((n : Nat) : Int) ((1 + j : Nat) : Int) x P2 : Int) = 0)) == false)), want_g rfl rfl p8, fun hc => .inl ⟨_, _, ex_bin (Y := .int .i64 ((1 : Nat) : Int)) rfl (ev p11 hc) rfl (subP _ _ (1 + j) 1 (by omega) (by omega) _), Upd.refl _ _, fun h => absurd h (by decide), fun T2 N => by rw [hc]; exact N.s 117 rfl⟩, fun _ => rfl, fun hc T2 N => by rw [hc]; exact N.s 117 rfl⟩
            · intro T df v zz zB zp zC
              have qb := zB.1
              have zU := zB.2
              have p8 : T[113]? = some (gw true (.bool (!decide ((icR (hd (L.map lf)) ((n : Nat) : Int) ((1 + j : Nat) : Int) x P2 : Int) = 0)))) := zp 8 (by kernel_rfl) (by kernel_rfl)
              have p10 : T[115]? = some (gw (true && ((!decide ((icR (hd (L.map lf)) ((n : Nat) : Int) ((1 + j : Nat) : Int) x P2 : Int) = 0)) == false)) (.slice (some ⟨kq14, ko15, none⟩) n c)) := zp 10 (by kernel_rfl) (by kernel_rfl)
              have p12 : T[117]? = some (gw (true && ((!decide ((icR (hd (L.map lf)) ((n : Nat) : Int) ((1 + j : Nat) : Int) x P2 : Int) = 0)) == false)) (.int .i64 ((1 + j - 1 : Nat) : Int))) := zp 12 (by kernel_rfl) (by kernel_rfl)
              exact ⟨(true && ((!decide ((icR (hd (L.map lf)) ((n : Nat) : Int) ((1 + j : Nat) : Int) x P2 : Int) = 0)) == false)), want_g rfl rfl p8, fun hc => .inl ⟨_, _, ex_ix rfl (ev p10 hc) (ev p12 hc) (ixE20 kq14 ko15 n c (1 + j - 1) (by omega) _), Upd.refl _ _, fun h => absurd h (by decide), fun T2 N => by rw [hc]; exact N.s 118 rfl⟩, fun _ => rfl, fun hc T2 N => by rw [hc]; exact N.s 118 rfl⟩
            · intro T df v zz zB zp zC
              have qb := zB.1
              have zU := zB.2
              have zDw : Below w.heap.size w v := DwC.trans (zU.below DwC.size (fun k hk => hk.elim))
              have p8 : T[113]? = some (gw true (.bool (!decide ((icR (hd (L.map lf)) ((n : Nat) : Int) ((1 + j : Nat) : Int) x P2 : Int) = 0)))) := zp 8 (by kernel_rfl) (by kernel_rfl)
              have p13 : T[118]? = some (gw (true && ((!decide ((icR (hd (L.map lf)) ((n : Nat) : Int) ((1 + j : Nat) : Int) x P2 : Int) = 0)) == false)) (.pointer (some ⟨kq14, ko15 + (1 + j - 1) * 5, none⟩))) := zp 13 (by kernel_rfl) (by kernel_rfl)
              exact ⟨(true && ((!decide ((icR (hd (L.map lf)) ((n : Nat) : Int) ((1 + j : Nat) : Int) x P2 : Int) = 0)) == false)), want_g rfl rfl p8, fun hc => .inl ⟨_, _, ex_ld rfl (ev p13 hc) (ldEl20 (lkq14.upd (S := fun _ => False) (Upd.of_below zDw) hkq14 id) hy0), Upd.refl _ _, fun h => absurd h (by decide), fun T2 N => by rw [hc]; exact N.s 119 rfl⟩, fun _ => rfl, fun hc T2 N => by rw [hc]; exact N.s 119 rfl⟩
            · intro T df v zz zB zp zC
              have qb := zB.1
              have zU := zB.2
              have p8 : T[113]? = some (gw true (.bool (!decide ((icR (hd (L.map lf)) ((n : Nat) : Int) ((1 + j : Nat) : Int) x P2 : Int) = 0)))) := zp 8 (by kernel_rfl) (by kernel_rfl)
              have p9 : T[114]? = some (gw (true && ((!decide ((icR (hd (L.map lf)) ((n : Nat) : Int) ((1 + j : Nat) : Int) x P2 : Int) = 0)) == false)) (x.val20)) := zp 9 (by kernel_rfl) (by kernel_rfl)
              have p14 : T[119]? = some (gw (true && ((!decide ((icR (hd (L.map lf)) ((n : Nat) : Int) ((1 + j : Nat) : Int) x P2 : Int) = 0)) == false)) (y0.val20)) := zp 14 (by kernel_rfl) (by kernel_rfl)
              exact ⟨(true && ((!decide ((icR (hd (L.map lf)) ((n : Nat) : Int) ((1 + j : Nat) : Int) x P2 : Int) = 0)) == false)), want_g rfl rfl p8, fun hc => .inl ⟨_, _, ex_bin rfl (ev p9 hc) (ev p14 hc) (eqEn20 _ _ _ _ _), Upd.refl _ _, fun h => absurd h (by decide), fun T2 N => by rw [hc]; exact N.s 120 rfl⟩, fun _ => rfl, fun hc T2 N => by rw [hc]; exact N.s 120 rfl⟩
            · intro T df v zz zB zp zC
              have qb := zB.1
              have zU := zB.2
              have p8 : T[113]? = some (gw true (.bool (!decide ((icR (hd (L.map lf)) ((n : Nat) : Int) ((1 + j : Nat) : Int) x P2 : Int) = 0)))) := zp 8 (by kernel_rfl) (by kernel_rfl)
              have p15 : T[120]? = some (gw (true && ((!decide ((icR (hd (L.map lf)) ((n : Nat) : Int) ((1 + j : Nat) : Int) x P2 : Int) = 0)) == false)) (.bool (decide (x = y0)))) := zp 15 (by kernel_rfl) (by kernel_rfl)
              exact ⟨true, want_none rfl, fun _ => .inl ⟨_, _, ex_or (c := true) (b := (!decide ((icR (hd (L.map lf)) ((n : Nat) : Int) ((1 + j : Nat) : Int) x P2 : Int) = 0))) (z := (decide (x = y0))) rfl p8 p15 rfl, Upd.refl _ _, fun h => absurd h (by decide), fun T2 N => N.s 121 rfl⟩, fun h => absurd h (by decide), fun h => absurd h (by decide)⟩
          intro T v31 zz zB zq za
          have qb := zB.1
          have U32 := zB.2
          clear zB zz
          clear q60
          have d33 : Below w.heap.size w v31 := DwC.trans (U32.below (Nat.le_trans DwC.size (Nat.le_refl _)) (fun k hk => hk.elim))
          have zv31 := U32.size
          have p16 : T[121]? = some (gw true (.bool ((!decide ((icR (hd (L.map lf)) ((n : Nat) : Int) ((1 + j : Nat) : Int) x P2 : Int) = 0)) || (decide (x = y0))))) := zq 16 _ rfl (fun k => rfl)
          have q61 := (qb.cons p16)
          clear zq za qb p16
          by_cases hc121 : (icR (hd (L.map lf)) ((n : Nat) : Int) ((1 + j : Nat) : Int) x P2 : Int) = 0
          · rw [decide_eq_true hc121] at q61
            have hc121h := hide hc121
            clear hc121
            by_cases hc121b : x = y0
            · rw [decide_eq_true hc121b] at q61
              have hc121bh := hide hc121b
              clear hc121b
              go_upto_region 22 with fail
              refine wp_cond_true (q61.e (j := 121) rfl) ?_
              go_upto_region 22 with fail
              refine wp_region_lit ?_
              refine q61.t (.bool true) (ex_assign rfl rfl) fun _ q62 => ?_;clear q61
              refine wpList_nil ?_
              go_wp2
              refine bodyPost_ret (results_tmp rfl _ _ _) rfl ?_
              rw [getD_of (q62.a 6 rfl)]
              exact ⟨rfl, d33⟩
            · rw [decide_eq_false hc121b] at q61
              have hc121bh := hide hc121b
              clear hc121b
              go_upto_region 23 with fail
              refine wp_cond_false (q61.e (j := 121) rfl) ?_
              go_upto_region 23 with fail
              refine wp_region_lit ?_
              refine q61.t (.slice (some ⟨kq14, ko15, none⟩) n c) (ex_move rfl (q61.e (j := 0) rfl)) fun _ q62 => ?_;clear q61
              refine q62.t (.int .i64 ((1 + j : Nat) : Int)) (ex_move rfl (q62.e (j := 9) rfl)) fun _ q63 => ?_;clear q62
              have B34 : BB v31 w3.heap.size 28 (x.cs) := (B7c.upd U32 (show ¬ False from id))
              refine q63.t (x.val20) (ex_ld rfl (q63.e (j := 7) rfl) B34.ldE20) fun _ q64 => ?_;clear q63
              refine q64.t (.slice a6 k6 c6) (ex_move rfl (q64.e (j := 8) rfl)) fun _ q65 => ?_;clear q64
              have hz := ic_zero20 hc121h.out (by omega) (by omega)
              obtain ⟨F, hF, cF⟩ := climbs_ex n L (1 + j) x P2 n k6 lL s6c.len (Nat.le_refl _) (by omega) (by omega) (by omega) (s6c.len.symm.trans hz.1) hv hx
              have hFt : F = true := hF hz.2 (.inl (fun e => hc121bh.out (Option.some.inj (e.symm.trans hy0))))
              subst hFt
              clear hz hF
              refine vcallP (want_none rfl) (ex_call rfl (by simp only [List.map_toArray, List.map_cons, List.map_nil, (q65.e (j := 123) rfl), (q65.e (j := 124) rfl), (q65.e (j := 125) rfl), (q65.e (j := 126) rfl), evc] <;> rfl) rfl) (cF _ _ _ _ v31 (h.later d33) (s6c.upd U32 (fun z9 hx hne hk => by first | exact hk | (rcases s6c.at_ z9 hx with e | ⟨q9, o9, rfl, hq9, _⟩; exact hne e; have e9 : q9 = _ := hk; omega)))) rfl q65.z (by decide) ?_
              rintro e w35 ⟨rfl, bw35⟩
              refine ⟨_, rfl, q65.k fun _ q66 => ?_⟩;clear q65
              have zw35 := bw35.size
              have d36 : Below w.heap.size w w35 := d33.trans (bw35.mono d33.size)
              refine q66.t (.tuple #[(cl (lf x) (1 + j) n P2).val, .bool true]) (ex_move rfl (q66.e (j := 127) rfl)) fun _ q67 => ?_;clear q66
              refine q67.t ((cl (lf x) (1 + j) n P2).val) (ex_ext18 rfl (q67.e (j := 122) rfl) rfl) fun _ q68 => ?_;clear q67
              refine q68.t (.bool true) (ex_ext18 rfl (q68.e (j := 122) rfl) rfl) fun _ q69 => ?_;clear q68
              obtain ⟨w37, hw37⟩ : ∃ y, y = w35.alloc (.cells (zH.cs).toArray 24) := ⟨_, rfl⟩
              refine vw (.pointer (some ⟨w35.heap.size, 0, none⟩)) w37 (want_none rfl) (ex_al rfl (by rw [hw37]; exact alH _)) rfl q69.z (by decide) (q69.k fun _ q70 => ?_);clear q69
              have Bw37 : BB w37 w35.heap.size 24 (zH.cs) := by rw [hw37]; exact BB.new _ _ _
              have bw37 : Below w35.heap.size w35 w37 := by rw [hw37]; exact (Below.refl _ _).alloc (Nat.le_refl _) _
              have zw37 : w37.heap.size = w35.heap.size + 1 := by rw [hw37]; exact World.size_alloc _ _
              clear hw37
              have d38 : Below w.heap.size w w37 := d36.trans (bw37.mono d36.size)
              obtain ⟨w39, hw39⟩ : ∃ y, y = w37.setCells w35.heap.size 0 ((cl (lf x) (1 + j) n P2).cs) := ⟨_, rfl⟩
              refine vs w39 (want_none rfl) (ex_st rfl (q70.e (j := 16) rfl) (q70.e (j := 128) rfl) (by rw [hw39]; exact Bw37.stH rfl _)) rfl ?_
              have Bw39 : BB w39 w35.heap.size 24 ((cl (lf x) (1 + j) n P2).cs) := by rw [hw39]; exact Bw37.putH rfl _
              have uw39 : Upd (fun k => k = w35.heap.size) w37 w39 := by rw [hw39]; exact upd18 _ _ _ _
              clear hw39
              have zw39 := uw39.size
              have d40 : Below w.heap.size w w39 := d38.trans (bel_ge uw39 d38.size (by omega))
              refine q70.t (.bool true) (ex_assign rfl (q70.e (j := 129) rfl)) fun _ q71 => ?_;clear q70
              refine wpList_nil ?_
              go_upto_region 24 with fail
              refine wp_region_lit ?_
              refine q71.t (.bool true) (ex_move rfl (q71.e (j := 17) rfl)) fun _ q72 => ?_;clear q71
              refine q72.t (.bool true) (ex_assign rfl (q72.e (j := 130) rfl)) fun _ q73 => ?_;clear q72
              refine wpList_nil ?_
              go_wp2
              refine bodyPost_ret (results_tmp rfl _ _ _) rfl ?_
              rw [getD_of (q73.a 6 rfl)]
              exact ⟨rfl, d40⟩
          · rw [decide_eq_false hc121] at q61
            have hc121h := hide hc121
            clear hc121
            go_upto_region 22 with fail
            refine wp_cond_true (q61.e (j := 121) rfl) ?_
            go_upto_region 22 with fail
            refine wp_region_lit ?_
            refine q61.t (.bool true) (ex_assign rfl rfl) fun _ q62 => ?_;clear q61
            refine wpList_nil ?_
            go_wp2
            refine bodyPost_ret (results_tmp rfl _ _ _) rfl ?_
            rw [getD_of (q62.a 6 rfl)]
            exact ⟨rfl, d33⟩
end Go.Proofs.Ytfafhlahbhopaaa
namespace Go.Proofs.Ytfafhlahbhopaaa
open Go.ChangeShapes Go.WideShapes Go.RowKit
open Classical
theorem cellsSd20 : Try.prog.cellsOf 58 = 8 := by kernel_rfl
theorem cellsSH20 : Try.prog.cellsOf 42 = 1 := by kernel_rfl
end Go.Proofs.Ytfafhlahbhopaaa
