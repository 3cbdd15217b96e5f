import Derived.Test.YtaagmdkhjmonnaaR6
namespace Go.Proofs.Ytaagmdkhjmonnaa
open Go.RowKit Go.Maps
open Classical
set_option linter.unusedVariables false
set_option linter.unusedSimpArgs false

set_option maxRecDepth 100000 in
set_option maxHeartbeats 2000000 in
theorem climb_step (m : Nat) (ih : ∀ (x : Hs) (p n : Nat) (P : List Hs) (a : Option Addr) (k c : Nat) (w : World), SlY yH w a k c P → k = su p n → n < m → n ≤ 9223372036854775807 → 1 ≤ p → p ≤ n → Calls Try.prog 57 #[x.val, .int .i64 (p : Int), .int .i64 (n : Int), .slice a k c] w fun e w' => e = .returned (cl x p n P).val ∧ Below w.heap.size w w') (x : Hs) (p n : Nat) (P : List Hs) (a : Option Addr) (k c : Nat) (w : World) (h : SlY yH w a k c P) (hk : k = su p n) (hm : n ≤ m) (hn : n ≤ 9223372036854775807) (hp1 : 1 ≤ p) (hp2 : p ≤ n) :
    Calls Try.prog 57 #[x.val, .int .i64 (p : Int), .int .i64 (n : Int), .slice a k c] w fun e w' => e = .returned (cl x p n P).val ∧ Below w.heap.size w w' := by
  go_enter Try.func57, Try.ntmps57
  go_upto_region 0 with fail
  refine wp_region_lit ?_
  refine vl_gen (fun T => Rp T 43 [(3, gw true (.slice a k c)), (2, gw true (.int .i64 ((n : Nat) : Int))), (1, gw true (.int .i64 ((p : Nat) : Int))), (0, gw true (x.val))]) (((((Rp.nil rfl).cons rfl).cons rfl).cons rfl).cons rfl) (fun Z0 q0 => ?_)
  have hln := h.len
  obtain ⟨w1, hw1⟩ : ∃ y, y = w.alloc (.cells (x.cs).toArray 24) := ⟨_, rfl⟩
  refine vw (.pointer (some ⟨w.heap.size, 0, none⟩)) w1 (want_none rfl) (ex_box18 rfl (q0.e (j := 0) rfl) (by rw [hw1]; exact bxH20 _ _)) rfl q0.z (by decide) (q0.k fun _ q1 => ?_);clear q0
  have Bw1 : BB w1 w.heap.size 24 (x.cs) := by rw [hw1]; exact BB.new _ _ _
  have bw1 : Below w.heap.size w w1 := by rw [hw1]; exact (Below.refl _ _).alloc (Nat.le_refl _) _
  have zw1 : w1.heap.size = w.heap.size + 1 := by rw [hw1]; exact World.size_alloc _ _
  clear hw1
  obtain ⟨w2, hw2⟩ : ∃ y, y = w1.alloc (.cells (zH.cs).toArray 24) := ⟨_, rfl⟩
  refine vw (.pointer (some ⟨w1.heap.size, 0, none⟩)) w2 (want_none rfl) (ex_al rfl (by rw [hw2]; exact alH _)) rfl q1.z (by decide) (q1.k fun _ q2 => ?_);clear q1
  have Bw2 : BB w2 w1.heap.size 24 (zH.cs) := by rw [hw2]; exact BB.new _ _ _
  have bw2 : Below w1.heap.size w1 w2 := by rw [hw2]; exact (Below.refl _ _).alloc (Nat.le_refl _) _
  have zw2 : w2.heap.size = w1.heap.size + 1 := by rw [hw2]; exact World.size_alloc _ _
  clear hw2
  refine wpList_nil ?_
  go_upto_region 1 with fail
  refine wp_region_lit ?_
  refine q2.t (.int .i64 ((n : Nat) : Int)) (ex_move rfl (q2.e (j := 2) rfl)) fun _ q3 => ?_;clear q2
  by_cases h1 : n = 1
  · refine q3.t (.bool true) (ex_bin (Y := .int .i64 (1 : Int)) rfl (q3.e (j := 12) rfl) rfl (eqT20 _ _ (by omega) _)) fun _ q4 => ?_;clear q3
    refine wpList_nil ?_
    go_upto_region 2 with fail
    refine wp_cond_true (q4.e (j := 13) rfl) ?_
    go_upto_region 2 with fail
    refine wp_region_lit ?_
    refine q4.t (x.val) (ex_ld rfl (q4.e (j := 4) rfl) (Bw1.later bw2).ldH) fun _ q5 => ?_;clear q4
    obtain ⟨w3, hw3⟩ : ∃ y, y = w2.setCells w1.heap.size 0 (x).cs := ⟨_, rfl⟩
    refine vs w3 (want_none rfl) (ex_st rfl (q5.e (j := 8) rfl) (q5.e (j := 14) rfl) (by rw [hw3]; exact Bw2.stH rfl _)) rfl ?_
    have Bw3 : BB w3 w1.heap.size 24 (x).cs := by rw [hw3]; exact Bw2.putH rfl _
    have uw3 : Upd (fun k => k = w1.heap.size) w2 w3 := by rw [hw3]; exact upd18 _ _ _ _
    clear hw3
    refine wpList_nil ?_
    go_wp2
    exact Bw3.res rfl (q5.a 8 rfl) Try.underlying24 rfl (by rw [Hs.len]; exact i32h) ⟨by rw [h1, cl_1]; rfl, (bw1.trans (bw2.mono (by omega))).trans (bel_ge uw3 (by omega) (by omega))⟩
  · refine q3.t (.bool false) (ex_bin (Y := .int .i64 (1 : Int)) rfl (q3.e (j := 12) rfl) rfl (eqF20 _ _ (by omega) _)) fun _ q4 => ?_;clear q3
    refine wpList_nil ?_
    go_upto_region 3 with fail
    refine wp_cond_false (q4.e (j := 13) rfl) ?_
    go_upto_region 3 with fail
    refine wp_region_lit ?_
    refine q4.t (.int .i64 ((n : Nat) : Int)) (ex_move rfl (q4.e (j := 2) rfl)) fun _ q5 => ?_;clear q4
    refine vcallP (want_none rfl) (ex_call rfl (by simp only [List.map_toArray, List.map_cons, List.map_nil, (q5.e (j := 15) rfl), evc] <;> rfl) rfl) (left20 n w2 (by omega) hn) rfl q5.z (by decide) ?_
    rintro e w9 ⟨rfl, hw9⟩
    refine ⟨_, rfl, q5.k fun _ q6 => ?_⟩;clear q5
    have hw9 := hw9.symm
    subst hw9
    refine q6.t (.int .i64 ((lft n : Nat) : Int)) (ex_assign rfl (q6.e (j := 16) rfl)) fun _ q7 => ?_;clear q6
    refine wpList_nil ?_
    go_upto_region 4 with fail
    refine wp_region_lit ?_
    have hb := lft_b (n := n) (by omega)
    have hsu := su_le n p (by omega)
    have hs2 := (h.later bw1).later bw2
    have hk1 : 1 ≤ k := by
      by_cases hp : p ≤ lft n
      · have := su_l p n (by omega) hp; omega
      · have := su_r p n (by omega) hp; omega
    refine q7.t (.slice a k c) (ex_move rfl (q7.e (j := 3) rfl)) fun _ q8 => ?_;clear q7
    refine vcallP (want_none rfl) (ex_call rfl (by simp only [List.map_toArray, List.map_cons, List.map_nil, (q8.e (j := 18) rfl), evc] <;> rfl) rfl) (parted20 P a k c w2 hs2 hk1 (by omega)) rfl q8.z (by decide) ?_
    rintro e w3 ⟨tp, rfl, hy, s3, b3⟩
    refine ⟨_, rfl, q8.k fun _ q9 => ?_⟩;clear q8
    have z3 := b3.size
    refine q9.t (.tuple #[.slice a (k - 1) c, tp.val]) (ex_move rfl (q9.e (j := 19) rfl)) fun _ q10 => ?_;clear q9
    refine q10.t (.slice a (k - 1) c) (ex_ext18 rfl (q10.e (j := 17) rfl) (xt0 _ _ _)) fun _ q11 => ?_;clear q10
    refine q11.t (tp.val) (ex_ext18 rfl (q11.e (j := 17) rfl) (xt1 _ _ _)) fun _ q12 => ?_;clear q11
    obtain ⟨w4, hw4⟩ : ∃ y, y = w3.alloc (.cells (zH.cs).toArray 24) := ⟨_, rfl⟩
    refine vw (.pointer (some ⟨w3.heap.size, 0, none⟩)) w4 (want_none rfl) (ex_al rfl (by rw [hw4]; exact alH _)) rfl q12.z (by decide) (q12.k fun _ q13 => ?_);clear q12
    have Bw4 : BB w4 w3.heap.size 24 (zH.cs) := by rw [hw4]; exact BB.new _ _ _
    have bw4 : Below w3.heap.size w3 w4 := by rw [hw4]; exact (Below.refl _ _).alloc (Nat.le_refl _) _
    have zw4 : w4.heap.size = w3.heap.size + 1 := by rw [hw4]; exact World.size_alloc _ _
    clear hw4
    refine q13.t (.slice a (k - 1) c) (ex_assign rfl (q13.e (j := 20) rfl)) fun _ q14 => ?_;clear q13
    obtain ⟨w5, hw5⟩ : ∃ y, y = w4.setCells w3.heap.size 0 (tp).cs := ⟨_, rfl⟩
    refine vs w5 (want_none rfl) (ex_st rfl (q14.e (j := 11) rfl) (q14.e (j := 21) rfl) (by rw [hw5]; exact Bw4.stH rfl _)) rfl ?_
    have Bw5 : BB w5 w3.heap.size 24 (tp).cs := by rw [hw5]; exact Bw4.putH rfl _
    have uw5 : Upd (fun k => k = w3.heap.size) w4 w5 := by rw [hw5]; exact upd18 _ _ _ _
    clear hw5
    have z5 := uw5.size
    have b5 : Below w3.heap.size w3 w5 := bw4.trans (bel_ge uw5 (by omega) (Nat.le_refl _))
    have s5 := (s3.later b5).take (k - 1) (by omega)
    have d5 : Below w.heap.size w w5 := ((bw1.trans (bw2.mono (by omega))).trans (b3.mono (by omega))).trans (b5.mono (by omega))
    have A5 : BB w5 w.heap.size 24 x.cs := ((Bw1.later bw2).later b3).later b5
    have C5 : BB w5 w1.heap.size 24 zH.cs := (Bw2.later b3).later b5
    clear Bw1 Bw2 Bw4
    have HE : Hid (tp = P.getD (P.length - 1) zH) := hide hy
    clear hy
    have e1 : P.take (k - 1) = P.take (P.length - 1) := by rw [hln]
    have HT := hide e1
    clear e1
    refine wpList_nil ?_
    go_upto_region 5 with fail
    refine wp_region_lit ?_
    refine q14.t (.int .i64 ((p : Nat) : Int)) (ex_move rfl (q14.e (j := 1) rfl)) fun _ q15 => ?_;clear q14
    refine q15.t (.int .i64 ((lft n : Nat) : Int)) (ex_move rfl (q15.e (j := 9) rfl)) fun _ q16 => ?_;clear q15
    by_cases hp : p ≤ lft n
    · refine q16.t (.bool true) (ex_bin rfl (q16.e (j := 22) rfl) (q16.e (j := 23) rfl) (leT20 _ _ (by omega) _)) fun _ q17 => ?_;clear q16
      refine wpList_nil ?_
      go_upto_region 6 with fail
      refine wp_cond_true (q17.e (j := 24) rfl) ?_
      go_upto_region 6 with fail
      refine vg_start (fun k => k == 7) (fun v => BB v w.heap.size 24 x.cs ∧ BB v w3.heap.size 24 tp.cs) (by kernel_rfl) ?_
      have hy0 : Below w5.heap.size w5 w5.drew := (Below.refl _ _).drew
      have hzy0 : w5.drew.heap.size = w5.heap.size := rfl
      generalize w5.drew = y0 at *
      have A6 := A5.later hy0
      have Y6 := Bw5.later hy0
      have C6 := C5.later hy0
      have s6 := s5.later hy0
      refine vg_take 0 true (x.val) rfl (by kernel_rfl) (by kernel_rfl) (by kernel_rfl) (by kernel_rfl) (by kernel_rfl) (by kernel_rfl) (want_none rfl) (fun hc v hv => ex_ld rfl (q17.e (j := 4) rfl) hv.1.ldH) rfl q17.z (by decide) ⟨A6, Y6⟩ (q17.k fun _ q18 => ?_);clear q17
      refine vg_takeW 1 true (.int .i64 ((p : Nat) : Int)) rfl (by kernel_rfl) (by kernel_rfl) (by kernel_rfl) (by kernel_rfl) (want_none rfl) (fun hc v => ex_move rfl (q18.e (j := 1) rfl)) rfl q18.z (by decide) (fun _ => ⟨A6, Y6⟩) (q18.k fun _ q19 => ?_);clear q18
      refine vg_takeW 2 true (.int .i64 ((lft n : Nat) : Int)) rfl (by kernel_rfl) (by kernel_rfl) (by kernel_rfl) (by kernel_rfl) (want_none rfl) (fun hc v => ex_move rfl (q19.e (j := 9) rfl)) rfl q19.z (by decide) (fun _ => ⟨A6, Y6⟩) (q19.k fun _ q20 => ?_);clear q19
      refine vg_takeW 3 true (.slice a (k - 1) c) rfl (by kernel_rfl) (by kernel_rfl) (by kernel_rfl) (by kernel_rfl) (want_none rfl) (fun hc v => ex_move rfl (q20.e (j := 10) rfl)) rfl q20.z (by decide) (fun _ => ⟨A6, Y6⟩) (q20.k fun _ q21 => ?_);clear q20
      refine vg_take 5 true (tp.val) rfl (by kernel_rfl) (by kernel_rfl) (by kernel_rfl) (by kernel_rfl) (by kernel_rfl) (by kernel_rfl) (want_none rfl) (fun hc v hv => ex_ld rfl (q21.e (j := 11) rfl) hv.2.ldH) rfl q21.z (by decide) ⟨A6, Y6⟩ (q21.k fun _ q22 => ?_);clear q21
      refine vg_call 4 rfl (by kernel_rfl) (want_none rfl) (ex_call rfl (by simp only [List.map_toArray, List.map_cons, List.map_nil, (q22.e (j := 25) rfl), (q22.e (j := 26) rfl), (q22.e (j := 27) rfl), (q22.e (j := 28) rfl), evc] <;> rfl) rfl) (ih x p (lft n) (P.take (k - 1)) _ _ _ y0 s6 (by have := su_l p n (by omega) hp; omega) (by omega) (by omega) hp1 hp) rfl q22.z (by decide) ?_
      rintro e d1 ⟨rfl, b1⟩
      have z1 := b1.size
      have C7 := C6.later b1
      refine ⟨_, rfl, ⟨A6.later b1, Y6.later b1⟩, q22.k fun _ q23 => ?_⟩;clear q22
      refine vg_call 6 rfl (by kernel_rfl) (want_none rfl) (ex_call rfl (by simp only [List.map_toArray, List.map_cons, List.map_nil, (q23.e (j := 29) rfl), (q23.e (j := 30) rfl), evc] <;> rfl) rfl) (node20 _ _ d1) rfl q23.z (by decide) ?_
      rintro e d2 ⟨rfl, b2⟩
      have z2 := b2.size
      have C8 := C7.later b2
      have d6 : Below w.heap.size w d2 := ((d5.trans (hy0.mono d5.size)).trans (b1.mono (by omega))).trans (b2.mono (by omega))
      refine ⟨_, rfl, ⟨(A6.later b1).later b2, (Y6.later b1).later b2⟩, q23.k fun _ q24 => ?_⟩;clear q23
      obtain ⟨d7, hd7⟩ : ∃ y, y = d2.setCells w1.heap.size 0 (nd (cl x p (lft n) (P.take (k - 1))) tp).cs := ⟨_, rfl⟩
      refine vg_store 7 d7 rfl (by kernel_rfl) (by kernel_rfl) (want_none rfl) (ex_st rfl (q24.e (j := 8) rfl) (q24.e (j := 31) rfl) (by rw [hd7]; exact C8.stH rfl _)) rfl ?_
      have Bd7 : BB d7 w1.heap.size 24 (nd (cl x p (lft n) (P.take (k - 1))) tp).cs := by rw [hd7]; exact C8.putH rfl _
      have ud7 : Upd (fun k => k = w1.heap.size) d2 d7 := by rw [hd7]; exact upd18 _ _ _ _
      clear hd7
      refine vg_done (by kernel_rfl) ?_
      go_wp2
      exact Bd7.res rfl (q24.a 8 rfl) Try.underlying24 rfl (by rw [Hs.len]; exact i32h) ⟨by rw [cl_l x p n P (by omega) hp, ← HE.out, ← HT.out]; rfl, d6.trans (bel_ge ud7 d6.size (by omega))⟩
    · refine q16.t (.bool false) (ex_bin rfl (q16.e (j := 22) rfl) (q16.e (j := 23) rfl) (leF20 _ _ (by omega) _)) fun _ q17 => ?_;clear q16
      refine wpList_nil ?_
      go_upto_region 7 with fail
      refine wp_cond_false (q17.e (j := 24) rfl) ?_
      go_upto_region 7 with fail
      refine vg_start (fun k => k == 11) (fun v => BB v w.heap.size 24 x.cs ∧ BB v w3.heap.size 24 tp.cs) (by kernel_rfl) ?_
      have hy0 : Below w5.heap.size w5 w5.drew := (Below.refl _ _).drew
      have hzy0 : w5.drew.heap.size = w5.heap.size := rfl
      generalize w5.drew = y0 at *
      have A6 := A5.later hy0
      have Y6 := Bw5.later hy0
      have C6 := C5.later hy0
      have s6 := s5.later hy0
      refine vg_take 0 true (tp.val) rfl (by kernel_rfl) (by kernel_rfl) (by kernel_rfl) (by kernel_rfl) (by kernel_rfl) (by kernel_rfl) (want_none rfl) (fun hc v hv => ex_ld rfl (q17.e (j := 11) rfl) hv.2.ldH) rfl q17.z (by decide) ⟨A6, Y6⟩ (q17.k fun _ q18 => ?_);clear q17
      refine vg_take 1 true (x.val) rfl (by kernel_rfl) (by kernel_rfl) (by kernel_rfl) (by kernel_rfl) (by kernel_rfl) (by kernel_rfl) (want_none rfl) (fun hc v hv => ex_ld rfl (q18.e (j := 4) rfl) hv.1.ldH) rfl q18.z (by decide) ⟨A6, Y6⟩ (q18.k fun _ q19 => ?_);clear q18
      refine vg_takeW 2 true (.int .i64 ((p : Nat) : Int)) rfl (by kernel_rfl) (by kernel_rfl) (by kernel_rfl) (by kernel_rfl) (want_none rfl) (fun hc v => ex_move rfl (q19.e (j := 1) rfl)) rfl q19.z (by decide) (fun _ => ⟨A6, Y6⟩) (q19.k fun _ q20 => ?_);clear q19
      refine vg_takeW 3 true (.int .i64 ((lft n : Nat) : Int)) rfl (by kernel_rfl) (by kernel_rfl) (by kernel_rfl) (by kernel_rfl) (want_none rfl) (fun hc v => ex_move rfl (q20.e (j := 9) rfl)) rfl q20.z (by decide) (fun _ => ⟨A6, Y6⟩) (q20.k fun _ q21 => ?_);clear q20
      refine vg_takeW 4 true (.int .i64 ((p - lft n : Nat) : Int)) rfl (by kernel_rfl) (by kernel_rfl) (by kernel_rfl) (by kernel_rfl) (want_none rfl) (fun hc v => ex_bin rfl (q21.e (j := 34) rfl) (q21.e (j := 35) rfl) (subP _ _ p (lft n) (by omega) (by omega) _)) rfl q21.z (by decide) (fun _ => ⟨A6, Y6⟩) (q21.k fun _ q22 => ?_);clear q21
      refine vg_takeW 5 true (.int .i64 ((n : Nat) : Int)) rfl (by kernel_rfl) (by kernel_rfl) (by kernel_rfl) (by kernel_rfl) (want_none rfl) (fun hc v => ex_move rfl (q22.e (j := 2) rfl)) rfl q22.z (by decide) (fun _ => ⟨A6, Y6⟩) (q22.k fun _ q23 => ?_);clear q22
      refine vg_takeW 6 true (.int .i64 ((lft n : Nat) : Int)) rfl (by kernel_rfl) (by kernel_rfl) (by kernel_rfl) (by kernel_rfl) (want_none rfl) (fun hc v => ex_move rfl (q23.e (j := 9) rfl)) rfl q23.z (by decide) (fun _ => ⟨A6, Y6⟩) (q23.k fun _ q24 => ?_);clear q23
      refine vg_takeW 7 true (.int .i64 ((n - lft n : Nat) : Int)) rfl (by kernel_rfl) (by kernel_rfl) (by kernel_rfl) (by kernel_rfl) (want_none rfl) (fun hc v => ex_bin rfl (q24.e (j := 37) rfl) (q24.e (j := 38) rfl) (subP _ _ n (lft n) (by omega) (by omega) _)) rfl q24.z (by decide) (fun _ => ⟨A6, Y6⟩) (q24.k fun _ q25 => ?_);clear q24
      refine vg_takeW 8 true (.slice a (k - 1) c) rfl (by kernel_rfl) (by kernel_rfl) (by kernel_rfl) (by kernel_rfl) (want_none rfl) (fun hc v => ex_move rfl (q25.e (j := 10) rfl)) rfl q25.z (by decide) (fun _ => ⟨A6, Y6⟩) (q25.k fun _ q26 => ?_);clear q25
      refine vg_call 9 rfl (by kernel_rfl) (want_none rfl) (ex_call rfl (by simp only [List.map_toArray, List.map_cons, List.map_nil, (q26.e (j := 33) rfl), (q26.e (j := 36) rfl), (q26.e (j := 39) rfl), (q26.e (j := 40) rfl), evc] <;> rfl) rfl) (ih x (p - lft n) (n - lft n) (P.take (k - 1)) _ _ _ y0 s6 (by have := su_r p n (by omega) hp; omega) (by omega) (by omega) (by omega) (by omega)) rfl q26.z (by decide) ?_
      rintro e d1 ⟨rfl, b1⟩
      have z1 := b1.size
      have C7 := C6.later b1
      refine ⟨_, rfl, ⟨A6.later b1, Y6.later b1⟩, q26.k fun _ q27 => ?_⟩;clear q26
      refine vg_call 10 rfl (by kernel_rfl) (want_none rfl) (ex_call rfl (by simp only [List.map_toArray, List.map_cons, List.map_nil, (q27.e (j := 32) rfl), (q27.e (j := 41) rfl), evc] <;> rfl) rfl) (node20 _ _ d1) rfl q27.z (by decide) ?_
      rintro e d2 ⟨rfl, b2⟩
      have z2 := b2.size
      have C8 := C7.later b2
      have d6 : Below w.heap.size w d2 := ((d5.trans (hy0.mono d5.size)).trans (b1.mono (by omega))).trans (b2.mono (by omega))
      refine ⟨_, rfl, ⟨(A6.later b1).later b2, (Y6.later b1).later b2⟩, q27.k fun _ q28 => ?_⟩;clear q27
      obtain ⟨d7, hd7⟩ : ∃ y, y = d2.setCells w1.heap.size 0 (nd tp (cl x (p - lft n) (n - lft n) (P.take (k - 1)))).cs := ⟨_, rfl⟩
      refine vg_store 11 d7 rfl (by kernel_rfl) (by kernel_rfl) (want_none rfl) (ex_st rfl (q28.e (j := 8) rfl) (q28.e (j := 42) rfl) (by rw [hd7]; exact C8.stH rfl _)) rfl ?_
      have Bd7 : BB d7 w1.heap.size 24 (nd tp (cl x (p - lft n) (n - lft n) (P.take (k - 1)))).cs := by rw [hd7]; exact C8.putH rfl _
      have ud7 : Upd (fun k => k = w1.heap.size) d2 d7 := by rw [hd7]; exact upd18 _ _ _ _
      clear hd7
      refine vg_done (by kernel_rfl) ?_
      go_wp2
      exact Bd7.res rfl (q28.a 8 rfl) Try.underlying24 rfl (by rw [Hs.len]; exact i32h) ⟨by rw [cl_r x p n P (by omega) hp, ← HE.out, ← HT.out]; rfl, d6.trans (bel_ge ud7 d6.size (by omega))⟩
theorem climb20 (x : Hs) (p n : Nat) (P : List Hs) (a : Option Addr) (k c : Nat) (w : World) (h : SlY yH w a k c P) (hk : k = su p n) (hn : n ≤ 9223372036854775807) (hp1 : 1 ≤ p) (hp2 : p ≤ n) :
    Calls Try.prog 57 #[x.val, .int .i64 (p : Int), .int .i64 (n : Int), .slice a k c] w fun e w' => e = .returned (cl x p n P).val ∧ Below w.heap.size w w' := by
  have H : ∀ m, ∀ (x : Hs) (p n : Nat) (P : List Hs) (a : Option Addr) (k c : Nat) (w : World), SlY yH w a k c P → k = su p n → n < m → n ≤ 9223372036854775807 → 1 ≤ p → p ≤ n → Calls Try.prog 57 #[x.val, .int .i64 (p : Int), .int .i64 (n : Int), .slice a k c] w fun e w' => e = .returned (cl x p n P).val ∧ Below w.heap.size w w' := by
    intro m
    induction m with
    | zero => intro x p n P a k c w _ _ h; omega
    | succ m ih => exact fun x p n P a k c w h hk hm hn h1 h2 => climb_step m ih x p n P a k c w h hk (by omega) hn h1 h2
  exact H (n + 1) x p n P a k c w h hk (by omega) hn hp1 hp2
/-- What Included says. -/
def icR (g : Hs) (s p : Int) (x : En) (P : List Hs) : Int := if s < 1 then 200 else if p < 1 ∨ s < p then 61 else if P.length ≠ su p.toNat s.toNat then 201 else if (cl (lf x) p.toNat s.toNat P).v = g.v then 0 else 202
set_option maxRecDepth 100000 in
set_option maxHeartbeats 2000000 in
theorem included20 (g : Hs) (s p : Int) (x : En) (P : List Hs) (a : Option Addr) (k c : Nat) (w : World) (h : SlY yH w a k c P) (hs : s ≤ 9223372036854775807) (hv : x.o.v.size ≤ 140737488350000) :
    Calls Try.prog 26 #[g.val, .int .i64 s, .int .i64 p, x.val20, .slice a k c] w fun e w' => e = .returned (.int .i64 (icR g s p x P)) ∧ Below w.heap.size w w' := by
  go_enter Try.func26, Try.ntmps26
  go_upto_region 0 with fail
  refine wp_region_lit ?_
  refine vl_gen (fun T => Rp T 38 [(4, gw true (.slice a k c)), (3, gw true (x.val20)), (2, gw true (.int .i64 (p : Int))), (1, gw true (.int .i64 (s : Int))), (0, gw true (g.val))]) ((((((Rp.nil rfl).cons rfl).cons rfl).cons rfl).cons rfl).cons rfl) (fun Z0 q0 => ?_)
  have hln := h.len
  obtain ⟨w1, hw1⟩ : ∃ y, y = w.alloc (.cells (g.cs).toArray 24) := ⟨_, rfl⟩
  refine vw (.pointer (some ⟨w.heap.size, 0, none⟩)) w1 (want_none rfl) (ex_box18 rfl (q0.e (j := 0) rfl) (by rw [hw1]; exact bxH20 _ _)) rfl q0.z (by decide) (q0.k fun _ q1 => ?_);clear q0
  have Bw1 : BB w1 w.heap.size 24 (g.cs) := by rw [hw1]; exact BB.new _ _ _
  have bw1 : Below w.heap.size w w1 := by rw [hw1]; exact (Below.refl _ _).alloc (Nat.le_refl _) _
  have zw1 : w1.heap.size = w.heap.size + 1 := by rw [hw1]; exact World.size_alloc _ _
  clear hw1
  obtain ⟨w2, hw2⟩ : ∃ y, y = w1.alloc (.cells (x.cs).toArray 28) := ⟨_, rfl⟩
  refine vw (.pointer (some ⟨w1.heap.size, 0, none⟩)) w2 (want_none rfl) (ex_box18 rfl (q1.e (j := 3) rfl) (by rw [hw2]; exact bxE20 _ _)) rfl q1.z (by decide) (q1.k fun _ q2 => ?_);clear q1
  have Bw2 : BB w2 w1.heap.size 28 (x.cs) := by rw [hw2]; exact BB.new _ _ _
  have bw2 : Below w1.heap.size w1 w2 := by rw [hw2]; exact (Below.refl _ _).alloc (Nat.le_refl _) _
  have zw2 : w2.heap.size = w1.heap.size + 1 := by rw [hw2]; exact World.size_alloc _ _
  clear hw2
  refine q2.t (.int .i64 (0 : Int)) (ex_assign rfl rfl) fun _ q3 => ?_;clear q2
  refine wpList_nil ?_
  go_upto_region 1 with fail
  refine wp_region_lit ?_
  have d2 : Below w.heap.size w w2 := bw1.trans (bw2.mono (by omega))
  refine q3.t (.int .i64 (s : Int)) (ex_move rfl (q3.e (j := 1) rfl)) fun _ q4 => ?_;clear q3
  by_cases hs1 : s < 1
  · refine q4.t (.bool true) (ex_bin (Y := .int .i64 (1 : Int)) rfl (q4.e (j := 12) rfl) rfl (ltT20 _ _ hs1 _)) fun _ q5 => ?_;clear q4
    refine q5.t (.bool true) (ex_assign rfl (q5.e (j := 13) rfl)) fun _ q6 => ?_;clear q5
    refine wpList_nil ?_
    go_upto_region 2 with fail
    refine wp_cond_true (q6.e (j := 11) rfl) ?_
    go_upto_region 2 with fail
    refine wp_region_lit ?_
    refine q6.t (.int .i64 (200 : Int)) (ex_assign rfl rfl) fun _ q7 => ?_;clear q6
    refine wpList_nil ?_
    go_wp2
    refine bodyPost_ret (results_tmp rfl _ _ _) rfl ?_
    rw [getD_of (q7.a 10 rfl)]
    exact ⟨by unfold icR; rw [if_pos (by omega)]; rfl, d2⟩
  · refine q4.t (.bool false) (ex_bin (Y := .int .i64 (1 : Int)) rfl (q4.e (j := 12) rfl) rfl (ltF20 _ _ hs1 _)) fun _ q5 => ?_;clear q4
    refine q5.t (.bool false) (ex_assign rfl (q5.e (j := 13) rfl)) fun _ q6 => ?_;clear q5
    refine wpList_nil ?_
    go_upto_region 3 with fail
    refine wp_cond_false (q6.e (j := 11) rfl) ?_
    go_upto_region 3 with fail
    refine wp_region_lit ?_
    refine q6.t (.int .i64 (p : Int)) (ex_move rfl (q6.e (j := 2) rfl)) fun _ q7 => ?_;clear q6
    refine q7.t (.bool (decide (p < 1))) (ex_bin (Y := .int .i64 (1 : Int)) rfl (q7.e (j := 15) rfl) rfl (ltZ20 _ _ _ _ _)) fun _ q8 => ?_;clear q7
    refine q8.t (.bool (decide (p < 1))) (ex_move rfl (q8.e (j := 16) rfl)) fun _ q9 => ?_;clear q8
    refine vl ((true && (decide (p < 1) == false))) (.int .i64 (p : Int)) (want_g rfl rfl (q9.a 17 rfl)) (fun hc => ex_move rfl (q9.e (j := 2) rfl)) rfl q9.z (by decide) (q9.k fun _ q10 => ?_);clear q9
    refine vl ((true && (decide (p < 1) == false))) (.int .i64 (s : Int)) (want_g rfl rfl (q10.a 17 rfl)) (fun hc => ex_move rfl (q10.e (j := 1) rfl)) rfl q10.z (by decide) (q10.k fun _ q11 => ?_);clear q10
    refine vl ((true && (decide (p < 1) == false))) (.bool (decide (s < p))) (want_g rfl rfl (q11.a 17 rfl)) (fun hc => ex_bin rfl (ev (q11.a 18 rfl) hc) (ev (q11.a 19 rfl) hc) (gtZ20 _ _ _ _ _)) rfl q11.z (by decide) (q11.k fun _ q12 => ?_);clear q11
    refine q12.t (.bool (decide (p < 1) || decide (s < p))) (ex_or rfl (q12.a 17 rfl) (q12.a 20 rfl) rfl) fun _ q13 => ?_;clear q12
    refine q13.t (.bool (decide (p < 1) || decide (s < p))) (ex_assign rfl (q13.e (j := 21) rfl)) fun _ q14 => ?_;clear q13
    rw [dec_or20] at q14
    refine wpList_nil ?_
    by_cases hb : p < 1 ∨ s < p
    · rw [decide_eq_true hb] at q14
      go_upto_region 4 with fail
      refine wp_cond_true (q14.e (j := 14) rfl) ?_
      go_upto_region 4 with fail
      refine wp_region_lit ?_
      refine q14.t (.int .i64 (61 : Int)) (ex_assign rfl rfl) fun _ q15 => ?_;clear q14
      refine wpList_nil ?_
      go_wp2
      refine bodyPost_ret (results_tmp rfl _ _ _) rfl ?_
      rw [getD_of (q15.a 10 rfl)]
      exact ⟨by unfold icR; rw [if_neg (by omega), if_pos (by omega)]; rfl, d2⟩
    · rw [decide_eq_false hb] at q14
      obtain ⟨j, rfl⟩ : ∃ j : Nat, p = (j : Int) := ⟨p.toNat, by omega⟩
      obtain ⟨n, rfl⟩ : ∃ n : Nat, s = (n : Int) := ⟨s.toNat, by omega⟩
      go_upto_region 5 with fail
      refine wp_cond_false (q14.e (j := 14) rfl) ?_
      go_upto_region 5 with fail
      refine wp_region_lit ?_
      refine q14.t (.slice a k c) (ex_move rfl (q14.e (j := 4) rfl)) fun _ q15 => ?_;clear q14
      refine q15.t (.int .i64 ((k : Nat) : Int)) (ex_lenG rfl rfl Try.underlying42 (q15.e (j := 23) rfl)) fun _ q16 => ?_;clear q15
      refine q16.t (.int .i64 ((j : Nat) : Int)) (ex_move rfl (q16.e (j := 2) rfl)) fun _ q17 => ?_;clear q16
      refine q17.t (.int .i64 ((n : Nat) : Int)) (ex_move rfl (q17.e (j := 1) rfl)) fun _ q18 => ?_;clear q17
      refine vcallP (want_none rfl) (ex_call rfl (by simp only [List.map_toArray, List.map_cons, List.map_nil, (q18.e (j := 25) rfl), (q18.e (j := 26) rfl), evc] <;> rfl) rfl) (stepsUp20 j n w2 (by omega) (by omega) (by omega)) rfl q18.z (by decide) ?_
      rintro e w9 ⟨rfl, hw9⟩
      refine ⟨_, rfl, q18.k fun _ q19 => ?_⟩;clear q18
      have hw9 := hw9.symm
      subst hw9
      by_cases hk : k = su j n
      · refine q19.t (.bool false) (ex_bin rfl (q19.e (j := 24) rfl) (q19.e (j := 27) rfl) (neF20 _ _ (by omega) _)) fun _ q20 => ?_;clear q19
        refine q20.t (.bool false) (ex_assign rfl (q20.e (j := 28) rfl)) fun _ q21 => ?_;clear q20
        refine wpList_nil ?_
        go_upto_region 7 with fail
        refine wp_cond_false (q21.e (j := 22) rfl) ?_
        go_upto_region 7 with fail
        refine vg_start (fun k => false) (fun v => BB v w.heap.size 24 g.cs ∧ BB v w1.heap.size 28 x.cs) (by kernel_rfl) ?_
        have hy0 : Below w2.heap.size w2 w2.drew := (Below.refl _ _).drew
        have hzy0 : w2.drew.heap.size = w2.heap.size := rfl
        generalize w2.drew = y0 at *
        have A6 := (Bw1.later bw2).later hy0
        have Y6 := Bw2.later hy0
        have s6 := ((h.later bw1).later bw2).later hy0
        refine vg_take 0 true (x.val20) rfl (by kernel_rfl) (by kernel_rfl) (by kernel_rfl) (by kernel_rfl) (by kernel_rfl) (by kernel_rfl) (want_none rfl) (fun hc v hv => ex_ld rfl (q21.e (j := 8) rfl) hv.2.ldE20) rfl q21.z (by decide) ⟨A6, Y6⟩ (q21.k fun _ q22 => ?_);clear q21
        refine vg_takeW 2 true (.int .i64 ((j : Nat) : Int)) rfl (by kernel_rfl) (by kernel_rfl) (by kernel_rfl) (by kernel_rfl) (want_none rfl) (fun hc v => ex_move rfl (q22.e (j := 2) rfl)) rfl q22.z (by decide) (fun _ => ⟨A6, Y6⟩) (q22.k fun _ q23 => ?_);clear q22
        refine vg_takeW 3 true (.int .i64 ((n : Nat) : Int)) rfl (by kernel_rfl) (by kernel_rfl) (by kernel_rfl) (by kernel_rfl) (want_none rfl) (fun hc v => ex_move rfl (q23.e (j := 1) rfl)) rfl q23.z (by decide) (fun _ => ⟨A6, Y6⟩) (q23.k fun _ q24 => ?_);clear q23
        refine vg_takeW 4 true (.slice a k c) rfl (by kernel_rfl) (by kernel_rfl) (by kernel_rfl) (by kernel_rfl) (want_none rfl) (fun hc v => ex_move rfl (q24.e (j := 4) rfl)) rfl q24.z (by decide) (fun _ => ⟨A6, Y6⟩) (q24.k fun _ q25 => ?_);clear q24
        refine vg_take 6 true (g.val) rfl (by kernel_rfl) (by kernel_rfl) (by kernel_rfl) (by kernel_rfl) (by kernel_rfl) (by kernel_rfl) (want_none rfl) (fun hc v hv => ex_ld rfl (q25.e (j := 5) rfl) hv.1.ldH) rfl q25.z (by decide) ⟨A6, Y6⟩ (q25.k fun _ q26 => ?_);clear q25
        refine vg_call 1 rfl (by kernel_rfl) (want_none rfl) (ex_call rfl (by simp only [List.map_toArray, List.map_cons, List.map_nil, (q26.e (j := 30) rfl), evc] <;> rfl) rfl) (leaf20 x y0 hv) rfl q26.z (by decide) ?_
        rintro e d1 ⟨rfl, b1⟩
        have z1 := b1.size
        have s7 := s6.later b1
        refine ⟨_, rfl, ⟨A6.later b1, Y6.later b1⟩, q26.k fun _ q27 => ?_⟩;clear q26
        refine vg_call 5 rfl (by kernel_rfl) (want_none rfl) (ex_call rfl (by simp only [List.map_toArray, List.map_cons, List.map_nil, (q27.e (j := 31) rfl), (q27.e (j := 32) rfl), (q27.e (j := 33) rfl), (q27.e (j := 34) rfl), evc] <;> rfl) rfl) (climb20 (lf x) j n P a k c d1 s7 hk (by omega) (by omega) (by omega)) rfl q27.z (by decide) ?_
        rintro e d3 ⟨rfl, b3⟩
        have z3 := b3.size
        have d6 : Below w.heap.size w d3 := ((d2.trans (hy0.mono d2.size)).trans (b1.mono (by omega))).trans (b3.mono (by omega))
        refine ⟨_, rfl, ⟨(A6.later b1).later b3, (Y6.later b1).later b3⟩, q27.k fun _ q28 => ?_⟩;clear q27
        refine vg_takeW 7 true (.bool (!decide ((cl (lf x) j n P).v = g.v))) rfl (by kernel_rfl) (by kernel_rfl) (by kernel_rfl) (by kernel_rfl) (want_none rfl) (fun hc v => ex_bin rfl (q28.e (j := 35) rfl) (q28.e (j := 36) rfl) (neHZ _ _ _ _ _)) rfl q28.z (by decide) (fun _ => ⟨(A6.later b1).later b3, (Y6.later b1).later b3⟩) (q28.k fun _ q29 => ?_);clear q28
        refine vg_takeW 8 true (.bool (!decide ((cl (lf x) j n P).v = g.v))) rfl (by kernel_rfl) (by kernel_rfl) (by kernel_rfl) (by kernel_rfl) (want_none rfl) (fun hc v => ex_assign rfl (q29.e (j := 37) rfl)) rfl q29.z (by decide) (fun _ => ⟨(A6.later b1).later b3, (Y6.later b1).later b3⟩) (q29.k fun _ q30 => ?_);clear q29
        refine vg_done (by kernel_rfl) ?_
        have hko : ¬ P.length ≠ su (j : Int).toNat (n : Int).toNat := by rw [Int.toNat_natCast, Int.toNat_natCast, hln]; exact fun e => e hk
        have HK := hide hko
        clear hko
        by_cases hc : (cl (lf x) j n P).v = g.v
        · rw [decide_eq_true hc] at q30
          have HC := hide hc
          clear hc
          go_upto_region 9 with fail
          refine wp_cond_false (q30.e (j := 29) rfl) ?_
          go_upto_region 9 with fail
          refine wp_region_lit ?_
          refine q30.t (.int .i64 (0 : Int)) (ex_assign rfl rfl) fun _ q31 => ?_;clear q30
          refine wpList_nil ?_
          go_wp2
          refine bodyPost_ret (results_tmp rfl _ _ _) rfl ?_
          rw [getD_of (q31.a 10 rfl)]
          exact ⟨by unfold icR; rw [if_neg (by omega), if_neg (by omega), if_neg HK.out, if_pos (by rw [Int.toNat_natCast, Int.toNat_natCast]; exact HC.out)]; rfl, d6⟩
        · rw [decide_eq_false hc] at q30
          have HC := hide hc
          clear hc
          go_upto_region 8 with fail
          refine wp_cond_true (q30.e (j := 29) rfl) ?_
          go_upto_region 8 with fail
          refine wp_region_lit ?_
          refine q30.t (.int .i64 (202 : Int)) (ex_assign rfl rfl) fun _ q31 => ?_;clear q30
          refine wpList_nil ?_
          go_wp2
          refine bodyPost_ret (results_tmp rfl _ _ _) rfl ?_
          rw [getD_of (q31.a 10 rfl)]
          exact ⟨by unfold icR; rw [if_neg (by omega), if_neg (by omega), if_neg HK.out, if_neg (by rw [Int.toNat_natCast, Int.toNat_natCast]; exact HC.out)]; rfl, d6⟩
      · refine q19.t (.bool true) (ex_bin rfl (q19.e (j := 24) rfl) (q19.e (j := 27) rfl) (neT20 _ _ (by omega) _)) fun _ q20 => ?_;clear q19
        refine q20.t (.bool true) (ex_assign rfl (q20.e (j := 28) rfl)) fun _ q21 => ?_;clear q20
        refine wpList_nil ?_
        go_upto_region 6 with fail
        refine wp_cond_true (q21.e (j := 22) rfl) ?_
        go_upto_region 6 with fail
        refine wp_region_lit ?_
        refine q21.t (.int .i64 (201 : Int)) (ex_assign rfl rfl) fun _ q22 => ?_;clear q21
        refine wpList_nil ?_
        go_wp2
        refine bodyPost_ret (results_tmp rfl _ _ _) rfl ?_
        rw [getD_of (q22.a 10 rfl)]
        exact ⟨by unfold icR; rw [if_neg (by omega), if_neg (by omega), if_pos (by rw [Int.toNat_natCast, Int.toNat_natCast, hln]; exact hk)]; rfl, d2⟩

end Go.Proofs.Ytaagmdkhjmonnaa
