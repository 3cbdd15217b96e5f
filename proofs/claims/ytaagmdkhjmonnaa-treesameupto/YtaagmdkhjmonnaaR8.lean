import Derived.Test.YtaagmdkhjmonnaaR7
namespace Go.Proofs.Ytaagmdkhjmonnaa
open Go.RowKit Go.Maps
open Classical
set_option linter.unusedVariables false
set_option linter.unusedSimpArgs false

/-- A store that is not the last one: what is read beside it stays. -/
theorem vg_storeS {ops : Array Oper} {late : Nat → Bool} {o : Oper} {T : Array Value} {df : List Deferred} {w : World} {Q : Exit → Act → World → Prop} {S : World → Prop} {fuel : Nat} {listed : Array Bool} (i : Nat) (w' : World) (hi : ops[i]? = some o) (hr : Region.ready .any ops listed = [i])
    (hw : Region.wanted o (yielded ops T) = true) (he : (execOp (⟨T, df⟩ : Act).eval o).run Try.prog w = .ok .skip w') (hd : o.dst = none) (hS : S w')
    (hk : VG ops late Q S fuel (listed.setIfInBounds i true) ⟨T, df⟩ w') : VG ops late Q S (fuel + 1) listed ⟨T, df⟩ w := by
  refine ⟨wpAnyG_all hr (by simp) (fun j hj => ?_)⟩
  obtain rfl : j = i := by simpa using hj
  unfold wpOp
  rw [hi]
  simp only [hw, if_true]
  refine .inl ?_
  unfold Oper.wp
  rw [he, Oper.upon_skip]
  refine ⟨fun _ => hS, ?_⟩
  rw [hd]
  exact hk.out
/-- A call and a store, in whatever order. -/
theorem vg_cs {ops : Array Oper} {late : Nat → Bool} {o o2 : Oper} {T : Array Value} {df : List Deferred} {w : World} {Q : Exit → Act → World → Prop} {S : World → Prop} {fuel d n : Nat} {listed : Array Bool} (i j : Nat) {fid : FuncId} {args : Array Value} {R : Ending → World → Prop} (w2 : World) (hi : ops[i]? = some o) (hj : ops[j]? = some o2) (hr : Region.ready .any ops listed = [i, j])
    (hw : Region.wanted o (yielded ops T) = true) (he : (execOp (⟨T, df⟩ : Act).eval o).run Try.prog w = .ok (.enter fid args) w) (hc : Calls Try.prog fid args w R) (hd : o.dst = some d) (hz : T.size = n) (hn : d < n)
    (hw2 : Region.wanted o2 (yielded ops T) = true) (he2 : (execOp (⟨T, df⟩ : Act).eval o2).run Try.prog w = .ok .skip w2) (hd2 : o2.dst = none) (hS2 : S w2)
    (hk : ∀ (e : Ending) (w' : World), R e w' → ∃ V, e = .returned V ∧ S w' ∧ ∀ T' : Array Value, T'.size = n → (∀ j, j ≠ d → T'[j]? = T[j]?) → T'[d]? = some (gw true V) → VG ops late Q S fuel (listed.setIfInBounds i true) ⟨T', df⟩ w')
    (hk2 : VG ops late Q S fuel (listed.setIfInBounds j true) ⟨T, df⟩ w2) : VG ops late Q S (fuel + 1) listed ⟨T, df⟩ w := by
  refine ⟨wpAnyG_all hr (by simp) (fun m hm => ?_)⟩
  have hm2 : m = i ∨ m = j := by simpa using hm
  unfold wpOp
  rcases hm2 with rfl | rfl
  · rw [hi]
    simp only [hw, if_true]
    refine .inl ?_
    unfold Oper.wp
    rw [he, Oper.upon_enter]
    refine hc.mono ?_
    intro e w' hR
    obtain ⟨V, rfl, hS, hk'⟩ := hk e w' hR
    refine ⟨fun _ => hS, ?_⟩
    rw [hd]
    exact (hk' (T.setIfInBounds d V) (by simp [hz]) (fun i hi => at_set_ne _ hi) (at_set _ (by omega))).out
  · rw [hj]
    simp only [hw2, if_true]
    refine .inl ?_
    unfold Oper.wp
    rw [he2, Oper.upon_skip]
    refine ⟨fun _ => hS2, ?_⟩
    rw [hd2]
    exact hk2.out
set_option maxRecDepth 100000 in
set_option maxHeartbeats 2000000 in
theorem climbBoth_step (m : Nat) (ih : ∀ (x : Hs) (p n : Nat) (wh : Bool) (P : List Hs) (a : Option Addr) (k c : Nat) (w : World), SlY yH w a k c P → k = sa p n wh → n < m → n ≤ 9223372036854775807 → 1 ≤ p → p ≤ n → Calls Try.prog 88 #[x.val, .int .i64 (p : Int), .int .i64 (n : Int), .bool wh, .slice a k c] w fun e w' => e = .returned (.tuple #[(cb x p n wh P).1.val, (cb x p n wh P).2.val]) ∧ Below w.heap.size w w') (x : Hs) (p n : Nat) (wh : Bool) (P : List Hs) (a : Option Addr) (k c : Nat) (w : World) (h : SlY yH w a k c P) (hk : k = sa p n wh) (hm : n ≤ m) (hn : n ≤ 9223372036854775807) (hp1 : 1 ≤ p) (hp2 : p ≤ n) :
    Calls Try.prog 88 #[x.val, .int .i64 (p : Int), .int .i64 (n : Int), .bool wh, .slice a k c] w fun e w' => e = .returned (.tuple #[(cb x p n wh P).1.val, (cb x p n wh P).2.val]) ∧ Below w.heap.size w w' := by
  go_enter Try.func88, Try.ntmps88
  go_upto_region 0 with fail
  refine wp_region_lit ?_
  refine vl_gen (fun T => Rp T 72 [(4, gw true (.slice a k c)), (3, gw true (.bool wh)), (2, gw true (.int .i64 ((n : Nat) : Int))), (1, gw true (.int .i64 ((p : Nat) : Int))), (0, gw true (x.val))]) ((((((Rp.nil rfl).cons rfl).cons rfl).cons rfl).cons rfl).cons rfl) (fun Z0 q0 => ?_)
  have hln := h.len
  obtain ⟨w1, hw1⟩ : ∃ y, y = w.alloc (.cells (x.cs).toArray 24) := ⟨_, rfl⟩
  refine vw (.pointer (some ⟨w.heap.size, 0, none⟩)) w1 (want_none rfl) (ex_box18 rfl (q0.e (j := 0) rfl) (by rw [hw1]; exact bxH20 _ _)) rfl q0.z (by decide) (q0.k fun _ q1 => ?_);clear q0
  have Bw1 : BB w1 w.heap.size 24 (x.cs) := by rw [hw1]; exact BB.new _ _ _
  have bw1 : Below w.heap.size w w1 := by rw [hw1]; exact (Below.refl _ _).alloc (Nat.le_refl _) _
  have zw1 : w1.heap.size = w.heap.size + 1 := by rw [hw1]; exact World.size_alloc _ _
  clear hw1
  obtain ⟨w2, hw2⟩ : ∃ y, y = w1.alloc (.cells (zH.cs).toArray 24) := ⟨_, rfl⟩
  refine vw (.pointer (some ⟨w1.heap.size, 0, none⟩)) w2 (want_none rfl) (ex_al rfl (by rw [hw2]; exact alH _)) rfl q1.z (by decide) (q1.k fun _ q2 => ?_);clear q1
  have Bw2 : BB w2 w1.heap.size 24 (zH.cs) := by rw [hw2]; exact BB.new _ _ _
  have bw2 : Below w1.heap.size w1 w2 := by rw [hw2]; exact (Below.refl _ _).alloc (Nat.le_refl _) _
  have zw2 : w2.heap.size = w1.heap.size + 1 := by rw [hw2]; exact World.size_alloc _ _
  clear hw2
  obtain ⟨w3, hw3⟩ : ∃ y, y = w2.alloc (.cells (zH.cs).toArray 24) := ⟨_, rfl⟩
  refine vw (.pointer (some ⟨w2.heap.size, 0, none⟩)) w3 (want_none rfl) (ex_al rfl (by rw [hw3]; exact alH _)) rfl q2.z (by decide) (q2.k fun _ q3 => ?_);clear q2
  have Bw3 : BB w3 w2.heap.size 24 (zH.cs) := by rw [hw3]; exact BB.new _ _ _
  have bw3 : Below w2.heap.size w2 w3 := by rw [hw3]; exact (Below.refl _ _).alloc (Nat.le_refl _) _
  have zw3 : w3.heap.size = w2.heap.size + 1 := by rw [hw3]; exact World.size_alloc _ _
  clear hw3
  refine wpList_nil ?_
  go_upto_region 1 with fail
  refine wp_region_lit ?_
  have A3 := (Bw1.later bw2).later bw3
  have O3 := Bw2.later bw3
  have d3 : Below w.heap.size w w3 := (bw1.trans (bw2.mono (by omega))).trans (bw3.mono (by omega))
  have s3 := ((h.later bw1).later bw2).later bw3
  clear Bw1 Bw2
  refine q3.t (.int .i64 ((p : Nat) : Int)) (ex_move rfl (q3.e (j := 1) rfl)) fun _ q4 => ?_;clear q3
  refine q4.t (.int .i64 ((n : Nat) : Int)) (ex_move rfl (q4.e (j := 2) rfl)) fun _ q5 => ?_;clear q4
  by_cases h1 : p = n
  · refine q5.t (.bool true) (ex_bin rfl (q5.e (j := 19) rfl) (q5.e (j := 20) rfl) (eqT20 _ _ (by omega) _)) fun _ q6 => ?_;clear q5
    refine wpList_nil ?_
    go_upto_region 2 with fail
    refine wp_cond_true (q6.e (j := 21) rfl) ?_
    go_upto_region 2 with fail
    refine wp_region_lit ?_
    refine q6.t (.bool wh) (ex_move rfl (q6.e (j := 3) rfl)) fun _ q7 => ?_;clear q6
    refine wpList_nil ?_
    have hcb : cb x p n wh P = bif wh then (x, x) else (P.getD 0 zH, P.getD 0 zH) := by rw [h1]; exact cb_e x n wh P
    have HE := hide hcb
    have hsa : sa p n wh = bif wh then 0 else 1 := by rw [h1]; exact sa_e n wh
    have HA := hide hsa
    clear hcb hsa h1
    cases wh
    · have hk0 : k = 1 := hk.trans HA.out
      have HK := hide hk0
      clear hk0
      obtain ⟨q, o, rfl, hq, hl⟩ := h.place (by rintro rfl; have := HK.out; simp at hln; omega)
      obtain ⟨y0, hy0⟩ : ∃ y, P[0]? = some y := ⟨_, List.getElem?_eq_getElem (by have := HK.out; omega)⟩
      have hg0 : P.getD 0 zH = y0 := by rw [List.getD_eq_getElem?_getD, hy0]; rfl
      have HG := hide hg0
      clear hg0
      go_upto_region 4 with fail
      refine wp_cond_false (q7.e (j := 22) rfl) ?_
      go_upto_region 4 with fail
      refine vg_start (fun k => k == 7) (fun v => LieY yH v q o P) (by kernel_rfl) ?_
      have hg0 : Below w3.heap.size w3 w3.drew := (Below.refl _ _).drew
      have hzg0 : w3.drew.heap.size = w3.heap.size := rfl
      generalize w3.drew = g0 at *
      have hq3 : q < w3.heap.size := Nat.lt_of_lt_of_le hq d3.size
      have hl3 : LieY yH g0 q o P := (hl.upd (S := fun _ => False) (Upd.of_below d3) hq id).upd (S := fun _ => False) (Upd.of_below hg0) hq3 id
      refine vg_takeW 0 true (.slice (some ⟨q, o, none⟩) k c) rfl (by kernel_rfl) (by kernel_rfl) (by kernel_rfl) (by kernel_rfl) (want_none rfl) (fun hc v => ex_move rfl (q7.e (j := 4) rfl)) rfl q7.z (by decide) (fun _ => hl3) (q7.k fun _ q8 => ?_);clear q7
      refine vg_takeW 1 true (.pointer (some ⟨q, o + 0 * 32, none⟩)) rfl (by kernel_rfl) (by kernel_rfl) (by kernel_rfl) (by kernel_rfl) (want_none rfl) (fun hc v => ex_ix (Y := .int .i64 ((0 : Nat) : Int)) rfl (q8.e (j := 25) rfl) rfl (ixH q o k c 0 (by have := HK.out; omega) _)) rfl q8.z (by decide) (fun _ => hl3) (q8.k fun _ q9 => ?_);clear q8
      refine vg_take 2 true (y0.val) rfl (by kernel_rfl) (by kernel_rfl) (by kernel_rfl) (by kernel_rfl) (by kernel_rfl) (by kernel_rfl) (want_none rfl) (fun hc v hv => ex_ld rfl (q9.e (j := 26) rfl) (ldH20 hv hy0)) rfl q9.z (by decide) hl3 (q9.k fun _ q10 => ?_);clear q9
      refine vg_takeW 3 true (.slice (some ⟨q, o, none⟩) k c) rfl (by kernel_rfl) (by kernel_rfl) (by kernel_rfl) (by kernel_rfl) (want_none rfl) (fun hc v => ex_move rfl (q10.e (j := 4) rfl)) rfl q10.z (by decide) (fun _ => hl3) (q10.k fun _ q11 => ?_);clear q10
      refine vg_takeW 4 true (.pointer (some ⟨q, o + 0 * 32, none⟩)) rfl (by kernel_rfl) (by kernel_rfl) (by kernel_rfl) (by kernel_rfl) (want_none rfl) (fun hc v => ex_ix (Y := .int .i64 ((0 : Nat) : Int)) rfl (q11.e (j := 28) rfl) rfl (ixH q o k c 0 (by have := HK.out; omega) _)) rfl q11.z (by decide) (fun _ => hl3) (q11.k fun _ q12 => ?_);clear q11
      refine vg_take 5 true (y0.val) rfl (by kernel_rfl) (by kernel_rfl) (by kernel_rfl) (by kernel_rfl) (by kernel_rfl) (by kernel_rfl) (want_none rfl) (fun hc v hv => ex_ld rfl (q12.e (j := 29) rfl) (ldH20 hv hy0)) rfl q12.z (by decide) hl3 (q12.k fun _ q13 => ?_);clear q12
      have O4 := O3.later hg0
      have P4 := Bw3.later hg0
      have d4 : Below w.heap.size w g0 := d3.trans (hg0.mono d3.size)
      obtain ⟨z2, hz2⟩ : ∃ y, y = g0.setCells w1.heap.size 0 (y0).cs := ⟨_, rfl⟩
      have Bz2 : BB z2 w1.heap.size 24 (y0).cs := by rw [hz2]; exact O4.putH rfl _
      have uz2 : Upd (fun k => k = w1.heap.size) g0 z2 := by rw [hz2]; exact upd18 _ _ _ _
      have Pz2 := P4.upd uz2 (show ¬ w2.heap.size = w1.heap.size by omega)
      have dz2 : Below w.heap.size w z2 := d4.trans (bel_ge uz2 d4.size (by omega))
      refine vg_storeS 6 z2 rfl (by kernel_rfl) (want_none rfl) (ex_st rfl (q13.e (j := 10) rfl) (q13.e (j := 27) rfl) (by rw [hz2]; exact O4.stH rfl _)) rfl (hl3.upd uz2 (Nat.lt_of_lt_of_le hq3 hg0.size) (show ¬ q = w1.heap.size by omega)) ?_
      clear hz2
      obtain ⟨xa, hxa⟩ : ∃ y, y = z2.setCells w2.heap.size 0 (y0).cs := ⟨_, rfl⟩
      refine vg_store 7 xa rfl (by kernel_rfl) (by kernel_rfl) (want_none rfl) (ex_st rfl (q13.e (j := 11) rfl) (q13.e (j := 30) rfl) (by rw [hxa]; exact Pz2.stH rfl _)) rfl ?_
      have Bxa : BB xa w2.heap.size 24 (y0).cs := by rw [hxa]; exact Pz2.putH rfl _
      have uxa : Upd (fun k => k = w2.heap.size) z2 xa := by rw [hxa]; exact upd18 _ _ _ _
      clear hxa
      refine vg_done (by kernel_rfl) ?_
      have Z1 := Bz2.upd uxa (show ¬ w1.heap.size = w2.heap.size by omega)
      go_wp2
      refine bodyPost_ret (resHH rfl (q13.a 10 rfl) (q13.a 11 rfl) Z1 Bxa) rfl ?_
      exact ⟨by rw [HE.out, HG.out]; rfl, dz2.trans (bel_ge uxa dz2.size (by omega))⟩
    · go_upto_region 3 with fail
      refine wp_cond_true (q7.e (j := 22) rfl) ?_
      go_upto_region 3 with fail
      refine vg_start (fun k => k == 3) (fun v => BB v w.heap.size 24 x.cs) (by kernel_rfl) ?_
      have hg0 : Below w3.heap.size w3 w3.drew := (Below.refl _ _).drew
      have hzg0 : w3.drew.heap.size = w3.heap.size := rfl
      generalize w3.drew = g0 at *
      have A4 := A3.later hg0
      refine vg_take 0 true (x.val) rfl (by kernel_rfl) (by kernel_rfl) (by kernel_rfl) (by kernel_rfl) (by kernel_rfl) (by kernel_rfl) (want_none rfl) (fun hc v hv => ex_ld rfl (q7.e (j := 5) rfl) hv.ldH) rfl q7.z (by decide) A4 (q7.k fun _ q8 => ?_);clear q7
      refine vg_take 1 true (x.val) rfl (by kernel_rfl) (by kernel_rfl) (by kernel_rfl) (by kernel_rfl) (by kernel_rfl) (by kernel_rfl) (want_none rfl) (fun hc v hv => ex_ld rfl (q8.e (j := 5) rfl) hv.ldH) rfl q8.z (by decide) A4 (q8.k fun _ q9 => ?_);clear q8
      have O4 := O3.later hg0
      have P4 := Bw3.later hg0
      have d4 : Below w.heap.size w g0 := d3.trans (hg0.mono d3.size)
      obtain ⟨z2, hz2⟩ : ∃ y, y = g0.setCells w1.heap.size 0 (x).cs := ⟨_, rfl⟩
      have Bz2 : BB z2 w1.heap.size 24 (x).cs := by rw [hz2]; exact O4.putH rfl _
      have uz2 : Upd (fun k => k = w1.heap.size) g0 z2 := by rw [hz2]; exact upd18 _ _ _ _
      have Pz2 := P4.upd uz2 (show ¬ w2.heap.size = w1.heap.size by omega)
      have dz2 : Below w.heap.size w z2 := d4.trans (bel_ge uz2 d4.size (by omega))
      refine vg_storeS 2 z2 rfl (by kernel_rfl) (want_none rfl) (ex_st rfl (q9.e (j := 10) rfl) (q9.e (j := 23) rfl) (by rw [hz2]; exact O4.stH rfl _)) rfl (A4.upd uz2 (show ¬ w.heap.size = w1.heap.size by omega)) ?_
      clear hz2
      obtain ⟨xa, hxa⟩ : ∃ y, y = z2.setCells w2.heap.size 0 (x).cs := ⟨_, rfl⟩
      refine vg_store 3 xa rfl (by kernel_rfl) (by kernel_rfl) (want_none rfl) (ex_st rfl (q9.e (j := 11) rfl) (q9.e (j := 24) rfl) (by rw [hxa]; exact Pz2.stH rfl _)) rfl ?_
      have Bxa : BB xa w2.heap.size 24 (x).cs := by rw [hxa]; exact Pz2.putH rfl _
      have uxa : Upd (fun k => k = w2.heap.size) z2 xa := by rw [hxa]; exact upd18 _ _ _ _
      clear hxa
      refine vg_done (by kernel_rfl) ?_
      have Z1 := Bz2.upd uxa (show ¬ w1.heap.size = w2.heap.size by omega)
      go_wp2
      refine bodyPost_ret (resHH rfl (q9.a 10 rfl) (q9.a 11 rfl) Z1 Bxa) rfl ?_
      exact ⟨by rw [HE.out]; rfl, dz2.trans (bel_ge uxa dz2.size (by omega))⟩
  · refine q5.t (.bool false) (ex_bin rfl (q5.e (j := 19) rfl) (q5.e (j := 20) rfl) (eqF20 _ _ (by omega) _)) fun _ q6 => ?_;clear q5
    refine wpList_nil ?_
    go_upto_region 5 with fail
    refine wp_cond_false (q6.e (j := 21) rfl) ?_
    go_upto_region 5 with fail
    refine wp_region_lit ?_
    refine q6.t (.int .i64 ((n : Nat) : Int)) (ex_move rfl (q6.e (j := 2) rfl)) fun _ q7 => ?_;clear q6
    refine vcallP (want_none rfl) (ex_call rfl (by simp only [List.map_toArray, List.map_cons, List.map_nil, (q7.e (j := 31) rfl), evc] <;> rfl) rfl) (left20 n w3 (by omega) hn) rfl q7.z (by decide) ?_
    rintro e w9 ⟨rfl, hw9⟩
    refine ⟨_, rfl, q7.k fun _ q8 => ?_⟩;clear q7
    have hw9 := hw9.symm
    subst hw9
    refine q8.t (.int .i64 ((lft n : Nat) : Int)) (ex_assign rfl (q8.e (j := 32) rfl)) fun _ q9 => ?_;clear q8
    refine wpList_nil ?_
    go_upto_region 6 with fail
    refine wp_region_lit ?_
    have hb := lft_b (n := n) (by omega)
    have hsa := sa_le n p wh hp1 hp2
    have hk1 : 1 ≤ k := by
      by_cases hp : p ≤ lft n
      · have := sa_l p n wh (by omega) hp; omega
      · have := sa_r p n wh (by omega) h1 hp; omega
    refine q9.t (.slice a k c) (ex_move rfl (q9.e (j := 4) rfl)) fun _ q10 => ?_;clear q9
    refine vcallP (want_none rfl) (ex_call rfl (by simp only [List.map_toArray, List.map_cons, List.map_nil, (q10.e (j := 34) rfl), evc] <;> rfl) rfl) (parted20 P a k c w3 s3 hk1 (by omega)) rfl q10.z (by decide) ?_
    rintro e w4 ⟨tp, rfl, hy, s4, b4⟩
    refine ⟨_, rfl, q10.k fun _ q11 => ?_⟩;clear q10
    have z4 := b4.size
    refine q11.t (.tuple #[.slice a (k - 1) c, tp.val]) (ex_move rfl (q11.e (j := 35) rfl)) fun _ q12 => ?_;clear q11
    refine q12.t (.slice a (k - 1) c) (ex_ext18 rfl (q12.e (j := 33) rfl) (xt0 _ _ _)) fun _ q13 => ?_;clear q12
    refine q13.t (tp.val) (ex_ext18 rfl (q13.e (j := 33) rfl) (xt1 _ _ _)) fun _ q14 => ?_;clear q13
    obtain ⟨w5, hw5⟩ : ∃ y, y = w4.alloc (.cells (zH.cs).toArray 24) := ⟨_, rfl⟩
    refine vw (.pointer (some ⟨w4.heap.size, 0, none⟩)) w5 (want_none rfl) (ex_al rfl (by rw [hw5]; exact alH _)) rfl q14.z (by decide) (q14.k fun _ q15 => ?_);clear q14
    have Bw5 : BB w5 w4.heap.size 24 (zH.cs) := by rw [hw5]; exact BB.new _ _ _
    have bw5 : Below w4.heap.size w4 w5 := by rw [hw5]; exact (Below.refl _ _).alloc (Nat.le_refl _) _
    have zw5 : w5.heap.size = w4.heap.size + 1 := by rw [hw5]; exact World.size_alloc _ _
    clear hw5
    refine q15.t (.slice a (k - 1) c) (ex_assign rfl (q15.e (j := 36) rfl)) fun _ q16 => ?_;clear q15
    obtain ⟨w6, hw6⟩ : ∃ y, y = w5.setCells w4.heap.size 0 (tp).cs := ⟨_, rfl⟩
    refine vs w6 (want_none rfl) (ex_st rfl (q16.e (j := 14) rfl) (q16.e (j := 37) rfl) (by rw [hw6]; exact Bw5.stH rfl _)) rfl ?_
    have Bw6 : BB w6 w4.heap.size 24 (tp).cs := by rw [hw6]; exact Bw5.putH rfl _
    have uw6 : Upd (fun k => k = w4.heap.size) w5 w6 := by rw [hw6]; exact upd18 _ _ _ _
    clear hw6
    have z6 := uw6.size
    have b6 : Below w4.heap.size w4 w6 := bw5.trans (bel_ge uw6 (by omega) (Nat.le_refl _))
    have s6 := (s4.later b6).take (k - 1) (by omega)
    have d6 : Below w.heap.size w w6 := (d3.trans (b4.mono (by omega))).trans (b6.mono (by omega))
    have A6 := (A3.later b4).later b6
    have O6 := (O3.later b4).later b6
    have P6 := (Bw3.later b4).later b6
    clear Bw3 O3 A3
    have HE : Hid (tp = P.getD (P.length - 1) zH) := hide hy
    clear hy
    have e1 : P.take (k - 1) = P.take (P.length - 1) := by rw [hln]
    have HT := hide e1
    clear e1
    refine wpList_nil ?_
    go_upto_region 7 with fail
    refine wp_region_lit ?_
    refine q16.t (.int .i64 ((p : Nat) : Int)) (ex_move rfl (q16.e (j := 1) rfl)) fun _ q17 => ?_;clear q16
    refine q17.t (.int .i64 ((lft n : Nat) : Int)) (ex_move rfl (q17.e (j := 12) rfl)) fun _ q18 => ?_;clear q17
    by_cases hp : p ≤ lft n
    · refine q18.t (.bool true) (ex_bin rfl (q18.e (j := 38) rfl) (q18.e (j := 39) rfl) (leT20 _ _ (by omega) _)) fun _ q19 => ?_;clear q18
      refine wpList_nil ?_
      go_upto_region 8 with fail
      refine wp_cond_true (q19.e (j := 40) rfl) ?_
      go_upto_region 8 with fail
      refine wp_region_lit ?_
      refine q19.t (x.val) (ex_ld rfl (q19.e (j := 5) rfl) A6.ldH) fun _ q20 => ?_;clear q19
      refine q20.t (.int .i64 ((p : Nat) : Int)) (ex_move rfl (q20.e (j := 1) rfl)) fun _ q21 => ?_;clear q20
      refine q21.t (.int .i64 ((lft n : Nat) : Int)) (ex_move rfl (q21.e (j := 12) rfl)) fun _ q22 => ?_;clear q21
      refine q22.t (.bool wh) (ex_move rfl (q22.e (j := 3) rfl)) fun _ q23 => ?_;clear q22
      refine q23.t (.slice a (k - 1) c) (ex_move rfl (q23.e (j := 13) rfl)) fun _ q24 => ?_;clear q23
      refine vcallP (want_none rfl) (ex_call rfl (by simp only [List.map_toArray, List.map_cons, List.map_nil, (q24.e (j := 42) rfl), (q24.e (j := 43) rfl), (q24.e (j := 44) rfl), (q24.e (j := 45) rfl), (q24.e (j := 46) rfl), evc] <;> rfl) rfl) (ih x p (lft n) wh (P.take (k - 1)) _ _ _ w6 s6 (by have := sa_l p n wh (by omega) hp; omega) (by omega) (by omega) hp1 hp) rfl q24.z (by decide) ?_
      rintro e w7 ⟨rfl, b7⟩
      refine ⟨_, rfl, q24.k fun _ q25 => ?_⟩;clear q24
      have z7 := b7.size
      refine q25.t (.tuple #[(cb x p (lft n) wh (P.take (k - 1))).1.val, (cb x p (lft n) wh (P.take (k - 1))).2.val]) (ex_move rfl (q25.e (j := 47) rfl)) fun _ q26 => ?_;clear q25
      refine q26.t ((cb x p (lft n) wh (P.take (k - 1))).1.val) (ex_ext18 rfl (q26.e (j := 41) rfl) (xt0 _ _ _)) fun _ q27 => ?_;clear q26
      refine q27.t ((cb x p (lft n) wh (P.take (k - 1))).2.val) (ex_ext18 rfl (q27.e (j := 41) rfl) (xt1 _ _ _)) fun _ q28 => ?_;clear q27
      obtain ⟨w8, hw8⟩ : ∃ y, y = w7.alloc (.cells (zH.cs).toArray 24) := ⟨_, rfl⟩
      refine vw (.pointer (some ⟨w7.heap.size, 0, none⟩)) w8 (want_none rfl) (ex_al rfl (by rw [hw8]; exact alH _)) rfl q28.z (by decide) (q28.k fun _ q29 => ?_);clear q28
      have Bw8 : BB w8 w7.heap.size 24 (zH.cs) := by rw [hw8]; exact BB.new _ _ _
      have bw8 : Below w7.heap.size w7 w8 := by rw [hw8]; exact (Below.refl _ _).alloc (Nat.le_refl _) _
      have zw8 : w8.heap.size = w7.heap.size + 1 := by rw [hw8]; exact World.size_alloc _ _
      clear hw8
      obtain ⟨w9, hw9⟩ : ∃ y, y = w8.alloc (.cells (zH.cs).toArray 24) := ⟨_, rfl⟩
      refine vw (.pointer (some ⟨w8.heap.size, 0, none⟩)) w9 (want_none rfl) (ex_al rfl (by rw [hw9]; exact alH _)) rfl q29.z (by decide) (q29.k fun _ q30 => ?_);clear q29
      have Bw9 : BB w9 w8.heap.size 24 (zH.cs) := by rw [hw9]; exact BB.new _ _ _
      have bw9 : Below w8.heap.size w8 w9 := by rw [hw9]; exact (Below.refl _ _).alloc (Nat.le_refl _) _
      have zw9 : w9.heap.size = w8.heap.size + 1 := by rw [hw9]; exact World.size_alloc _ _
      clear hw9
      have F8 := Bw8.later bw9
      obtain ⟨wa, hwa⟩ : ∃ y, y = w9.setCells w7.heap.size 0 ((cb x p (lft n) wh (P.take (k - 1))).1).cs := ⟨_, rfl⟩
      refine vs wa (want_none rfl) (ex_st rfl (q30.e (j := 15) rfl) (q30.e (j := 48) rfl) (by rw [hwa]; exact F8.stH rfl _)) rfl ?_
      have Bwa : BB wa w7.heap.size 24 ((cb x p (lft n) wh (P.take (k - 1))).1).cs := by rw [hwa]; exact F8.putH rfl _
      have uwa : Upd (fun k => k = w7.heap.size) w9 wa := by rw [hwa]; exact upd18 _ _ _ _
      clear hwa
      have G9 := Bw9.upd uwa (show ¬ w8.heap.size = w7.heap.size by omega)
      obtain ⟨wb, hwb⟩ : ∃ y, y = wa.setCells w8.heap.size 0 ((cb x p (lft n) wh (P.take (k - 1))).2).cs := ⟨_, rfl⟩
      refine vs wb (want_none rfl) (ex_st rfl (q30.e (j := 16) rfl) (q30.e (j := 49) rfl) (by rw [hwb]; exact G9.stH rfl _)) rfl ?_
      have Bwb : BB wb w8.heap.size 24 ((cb x p (lft n) wh (P.take (k - 1))).2).cs := by rw [hwb]; exact G9.putH rfl _
      have uwb : Upd (fun k => k = w8.heap.size) wa wb := by rw [hwb]; exact upd18 _ _ _ _
      clear hwb
      have za := uwa.size
      have zb := uwb.size
      have Fb := Bwa.upd uwb (show ¬ w7.heap.size = w8.heap.size by omega)
      have bb : Below w7.heap.size w7 wb := ((bw8.trans (bw9.mono (by omega))).trans (bel_ge uwa (by omega) (Nat.le_refl _))).trans (bel_ge uwb (by omega) (by omega))
      have Tb := (Bw6.later b7).later bb
      have Ob := (O6.later b7).later bb
      have Pb := (P6.later b7).later bb
      have db : Below w.heap.size w wb := (d6.trans (b7.mono (by omega))).trans (bb.mono (by omega))
      refine wpList_nil ?_
      go_upto_region 9 with fail
      refine vg_start (fun k => k == 5) (fun v => BB v w7.heap.size 24 (cb x p (lft n) wh (P.take (k - 1))).1.cs ∧ BB v w8.heap.size 24 (cb x p (lft n) wh (P.take (k - 1))).2.cs ∧ BB v w4.heap.size 24 tp.cs) (by kernel_rfl) ?_
      have hg0 : Below wb.heap.size wb wb.drew := (Below.refl _ _).drew
      have hzg0 : wb.drew.heap.size = wb.heap.size := rfl
      generalize wb.drew = g0 at *
      have F0 := Fb.later hg0
      have G0 := Bwb.later hg0
      have T0 := Tb.later hg0
      have d0 : Below w.heap.size w g0 := db.trans (hg0.mono db.size)
      have O0 := Ob.later hg0
      have P0 := Pb.later hg0
      refine vg_take 0 true ((cb x p (lft n) wh (P.take (k - 1))).1.val) rfl (by kernel_rfl) (by kernel_rfl) (by kernel_rfl) (by kernel_rfl) (by kernel_rfl) (by kernel_rfl) (want_none rfl) (fun hc v hv => ex_ld rfl (q30.e (j := 15) rfl) hv.1.ldH) rfl q30.z (by decide) ⟨F0, G0, T0⟩ (q30.k fun _ q31 => ?_);clear q30
      refine vg_take 1 true ((cb x p (lft n) wh (P.take (k - 1))).2.val) rfl (by kernel_rfl) (by kernel_rfl) (by kernel_rfl) (by kernel_rfl) (by kernel_rfl) (by kernel_rfl) (want_none rfl) (fun hc v hv => ex_ld rfl (q31.e (j := 16) rfl) hv.2.1.ldH) rfl q31.z (by decide) ⟨F0, G0, T0⟩ (q31.k fun _ q32 => ?_);clear q31
      refine vg_take 2 true (tp.val) rfl (by kernel_rfl) (by kernel_rfl) (by kernel_rfl) (by kernel_rfl) (by kernel_rfl) (by kernel_rfl) (want_none rfl) (fun hc v hv => ex_ld rfl (q32.e (j := 14) rfl) hv.2.2.ldH) rfl q32.z (by decide) ⟨F0, G0, T0⟩ (q32.k fun _ q33 => ?_);clear q32
      refine vg_call 3 rfl (by kernel_rfl) (want_none rfl) (ex_call rfl (by simp only [List.map_toArray, List.map_cons, List.map_nil, (q33.e (j := 51) rfl), (q33.e (j := 52) rfl), evc] <;> rfl) rfl) (node20 _ _ g0) rfl q33.z (by decide) ?_
      rintro e g1 ⟨rfl, c1⟩
      have d1 : Below w.heap.size w g1 := d0.trans (c1.mono d0.size)
      have O1 := O0.later c1
      have P1 := P0.later c1
      have F1 := F0.later c1
      have G1 := G0.later c1
      have T1 := T0.later c1
      refine ⟨_, rfl, ⟨F0.later c1, G0.later c1, T0.later c1⟩, q33.k fun _ q34 => ?_⟩;clear q33
      obtain ⟨z2, hz2⟩ : ∃ y, y = g1.setCells w1.heap.size 0 ((cb x p (lft n) wh (P.take (k - 1))).1).cs := ⟨_, rfl⟩
      have Bz2 : BB z2 w1.heap.size 24 ((cb x p (lft n) wh (P.take (k - 1))).1).cs := by rw [hz2]; exact O1.putH rfl _
      have uz2 : Upd (fun k => k = w1.heap.size) g1 z2 := by rw [hz2]; exact upd18 _ _ _ _
      have Pz2 := P1.upd uz2 (show ¬ w2.heap.size = w1.heap.size by omega)
      have dz2 : Below w.heap.size w z2 := d1.trans (bel_ge uz2 d1.size (by omega))
      refine vg_storeS 4 z2 rfl (by kernel_rfl) (want_none rfl) (ex_st rfl (q34.e (j := 10) rfl) (q34.e (j := 50) rfl) (by rw [hz2]; exact O1.stH rfl _)) rfl (⟨F1.upd uz2 (show ¬ w7.heap.size = w1.heap.size by omega), G1.upd uz2 (show ¬ w8.heap.size = w1.heap.size by omega), T1.upd uz2 (show ¬ w4.heap.size = w1.heap.size by omega)⟩) ?_
      clear hz2
      obtain ⟨xa, hxa⟩ : ∃ y, y = z2.setCells w2.heap.size 0 (nd (cb x p (lft n) wh (P.take (k - 1))).2 tp).cs := ⟨_, rfl⟩
      refine vg_store 5 xa rfl (by kernel_rfl) (by kernel_rfl) (want_none rfl) (ex_st rfl (q34.e (j := 11) rfl) (q34.e (j := 53) rfl) (by rw [hxa]; exact Pz2.stH rfl _)) rfl ?_
      have Bxa : BB xa w2.heap.size 24 (nd (cb x p (lft n) wh (P.take (k - 1))).2 tp).cs := by rw [hxa]; exact Pz2.putH rfl _
      have uxa : Upd (fun k => k = w2.heap.size) z2 xa := by rw [hxa]; exact upd18 _ _ _ _
      clear hxa
      refine vg_done (by kernel_rfl) ?_
      have Z1 := Bz2.upd uxa (show ¬ w1.heap.size = w2.heap.size by omega)
      go_wp2
      refine bodyPost_ret (resHH rfl (q34.a 10 rfl) (q34.a 11 rfl) Z1 Bxa) rfl ?_
      exact ⟨by rw [cb_l x p n wh P (by omega) hp, ← HE.out, ← HT.out], dz2.trans (bel_ge uxa dz2.size (by omega))⟩
    · refine q18.t (.bool false) (ex_bin rfl (q18.e (j := 38) rfl) (q18.e (j := 39) rfl) (leF20 _ _ (by omega) _)) fun _ q19 => ?_;clear q18
      refine wpList_nil ?_
      go_upto_region 10 with fail
      refine wp_cond_false (q19.e (j := 40) rfl) ?_
      go_upto_region 10 with fail
      refine wp_region_lit ?_
      refine q19.t (x.val) (ex_ld rfl (q19.e (j := 5) rfl) A6.ldH) fun _ q20 => ?_;clear q19
      refine q20.t (.int .i64 ((p : Nat) : Int)) (ex_move rfl (q20.e (j := 1) rfl)) fun _ q21 => ?_;clear q20
      refine q21.t (.int .i64 ((lft n : Nat) : Int)) (ex_move rfl (q21.e (j := 12) rfl)) fun _ q22 => ?_;clear q21
      refine q22.t (.int .i64 ((p - lft n : Nat) : Int)) (ex_bin rfl (q22.e (j := 56) rfl) (q22.e (j := 57) rfl) (subP _ _ p (lft n) (by omega) (by omega) _)) fun _ q23 => ?_;clear q22
      refine q23.t (.int .i64 ((n : Nat) : Int)) (ex_move rfl (q23.e (j := 2) rfl)) fun _ q24 => ?_;clear q23
      refine q24.t (.int .i64 ((lft n : Nat) : Int)) (ex_move rfl (q24.e (j := 12) rfl)) fun _ q25 => ?_;clear q24
      refine q25.t (.int .i64 ((n - lft n : Nat) : Int)) (ex_bin rfl (q25.e (j := 59) rfl) (q25.e (j := 60) rfl) (subP _ _ n (lft n) (by omega) (by omega) _)) fun _ q26 => ?_;clear q25
      refine q26.t (.slice a (k - 1) c) (ex_move rfl (q26.e (j := 13) rfl)) fun _ q27 => ?_;clear q26
      refine vcallP (want_none rfl) (ex_call rfl (by simp only [List.map_toArray, List.map_cons, List.map_nil, (q27.e (j := 55) rfl), (q27.e (j := 58) rfl), (q27.e (j := 61) rfl), (q27.e (j := 62) rfl), evc] <;> rfl) rfl) (ih x (p - lft n) (n - lft n) false (P.take (k - 1)) _ _ _ w6 s6 (by have := sa_r p n wh (by omega) h1 hp; omega) (by omega) (by omega) (by omega) (by omega)) rfl q27.z (by decide) ?_
      rintro e w7 ⟨rfl, b7⟩
      refine ⟨_, rfl, q27.k fun _ q28 => ?_⟩;clear q27
      have z7 := b7.size
      refine q28.t (.tuple #[(cb x (p - lft n) (n - lft n) false (P.take (k - 1))).1.val, (cb x (p - lft n) (n - lft n) false (P.take (k - 1))).2.val]) (ex_move rfl (q28.e (j := 63) rfl)) fun _ q29 => ?_;clear q28
      refine q29.t ((cb x (p - lft n) (n - lft n) false (P.take (k - 1))).1.val) (ex_ext18 rfl (q29.e (j := 54) rfl) (xt0 _ _ _)) fun _ q30 => ?_;clear q29
      refine q30.t ((cb x (p - lft n) (n - lft n) false (P.take (k - 1))).2.val) (ex_ext18 rfl (q30.e (j := 54) rfl) (xt1 _ _ _)) fun _ q31 => ?_;clear q30
      obtain ⟨w8, hw8⟩ : ∃ y, y = w7.alloc (.cells (zH.cs).toArray 24) := ⟨_, rfl⟩
      refine vw (.pointer (some ⟨w7.heap.size, 0, none⟩)) w8 (want_none rfl) (ex_al rfl (by rw [hw8]; exact alH _)) rfl q31.z (by decide) (q31.k fun _ q32 => ?_);clear q31
      have Bw8 : BB w8 w7.heap.size 24 (zH.cs) := by rw [hw8]; exact BB.new _ _ _
      have bw8 : Below w7.heap.size w7 w8 := by rw [hw8]; exact (Below.refl _ _).alloc (Nat.le_refl _) _
      have zw8 : w8.heap.size = w7.heap.size + 1 := by rw [hw8]; exact World.size_alloc _ _
      clear hw8
      obtain ⟨w9, hw9⟩ : ∃ y, y = w8.alloc (.cells (zH.cs).toArray 24) := ⟨_, rfl⟩
      refine vw (.pointer (some ⟨w8.heap.size, 0, none⟩)) w9 (want_none rfl) (ex_al rfl (by rw [hw9]; exact alH _)) rfl q32.z (by decide) (q32.k fun _ q33 => ?_);clear q32
      have Bw9 : BB w9 w8.heap.size 24 (zH.cs) := by rw [hw9]; exact BB.new _ _ _
      have bw9 : Below w8.heap.size w8 w9 := by rw [hw9]; exact (Below.refl _ _).alloc (Nat.le_refl _) _
      have zw9 : w9.heap.size = w8.heap.size + 1 := by rw [hw9]; exact World.size_alloc _ _
      clear hw9
      have F8 := Bw8.later bw9
      obtain ⟨wa, hwa⟩ : ∃ y, y = w9.setCells w7.heap.size 0 ((cb x (p - lft n) (n - lft n) false (P.take (k - 1))).1).cs := ⟨_, rfl⟩
      refine vs wa (want_none rfl) (ex_st rfl (q33.e (j := 17) rfl) (q33.e (j := 64) rfl) (by rw [hwa]; exact F8.stH rfl _)) rfl ?_
      have Bwa : BB wa w7.heap.size 24 ((cb x (p - lft n) (n - lft n) false (P.take (k - 1))).1).cs := by rw [hwa]; exact F8.putH rfl _
      have uwa : Upd (fun k => k = w7.heap.size) w9 wa := by rw [hwa]; exact upd18 _ _ _ _
      clear hwa
      have G9 := Bw9.upd uwa (show ¬ w8.heap.size = w7.heap.size by omega)
      obtain ⟨wb, hwb⟩ : ∃ y, y = wa.setCells w8.heap.size 0 ((cb x (p - lft n) (n - lft n) false (P.take (k - 1))).2).cs := ⟨_, rfl⟩
      refine vs wb (want_none rfl) (ex_st rfl (q33.e (j := 18) rfl) (q33.e (j := 65) rfl) (by rw [hwb]; exact G9.stH rfl _)) rfl ?_
      have Bwb : BB wb w8.heap.size 24 ((cb x (p - lft n) (n - lft n) false (P.take (k - 1))).2).cs := by rw [hwb]; exact G9.putH rfl _
      have uwb : Upd (fun k => k = w8.heap.size) wa wb := by rw [hwb]; exact upd18 _ _ _ _
      clear hwb
      have za := uwa.size
      have zb := uwb.size
      have Fb := Bwa.upd uwb (show ¬ w7.heap.size = w8.heap.size by omega)
      have bb : Below w7.heap.size w7 wb := ((bw8.trans (bw9.mono (by omega))).trans (bel_ge uwa (by omega) (Nat.le_refl _))).trans (bel_ge uwb (by omega) (by omega))
      have Tb := (Bw6.later b7).later bb
      have Ob := (O6.later b7).later bb
      have Pb := (P6.later b7).later bb
      have db : Below w.heap.size w wb := (d6.trans (b7.mono (by omega))).trans (bb.mono (by omega))
      refine wpList_nil ?_
      go_upto_region 11 with fail
      refine vg_start (fun k => k == 7) (fun v => BB v w7.heap.size 24 (cb x (p - lft n) (n - lft n) false (P.take (k - 1))).1.cs ∧ BB v w8.heap.size 24 (cb x (p - lft n) (n - lft n) false (P.take (k - 1))).2.cs ∧ BB v w4.heap.size 24 tp.cs) (by kernel_rfl) ?_
      have hg0 : Below wb.heap.size wb wb.drew := (Below.refl _ _).drew
      have hzg0 : wb.drew.heap.size = wb.heap.size := rfl
      generalize wb.drew = g0 at *
      have F0 := Fb.later hg0
      have G0 := Bwb.later hg0
      have T0 := Tb.later hg0
      have d0 : Below w.heap.size w g0 := db.trans (hg0.mono db.size)
      have O0 := Ob.later hg0
      have P0 := Pb.later hg0
      refine vg_take 0 true (tp.val) rfl (by kernel_rfl) (by kernel_rfl) (by kernel_rfl) (by kernel_rfl) (by kernel_rfl) (by kernel_rfl) (want_none rfl) (fun hc v hv => ex_ld rfl (q33.e (j := 14) rfl) hv.2.2.ldH) rfl q33.z (by decide) ⟨F0, G0, T0⟩ (q33.k fun _ q34 => ?_);clear q33
      refine vg_take 1 true ((cb x (p - lft n) (n - lft n) false (P.take (k - 1))).1.val) rfl (by kernel_rfl) (by kernel_rfl) (by kernel_rfl) (by kernel_rfl) (by kernel_rfl) (by kernel_rfl) (want_none rfl) (fun hc v hv => ex_ld rfl (q34.e (j := 17) rfl) hv.1.ldH) rfl q34.z (by decide) ⟨F0, G0, T0⟩ (q34.k fun _ q35 => ?_);clear q34
      refine vg_take 3 true (tp.val) rfl (by kernel_rfl) (by kernel_rfl) (by kernel_rfl) (by kernel_rfl) (by kernel_rfl) (by kernel_rfl) (want_none rfl) (fun hc v hv => ex_ld rfl (q35.e (j := 14) rfl) hv.2.2.ldH) rfl q35.z (by decide) ⟨F0, G0, T0⟩ (q35.k fun _ q36 => ?_);clear q35
      refine vg_take 4 true ((cb x (p - lft n) (n - lft n) false (P.take (k - 1))).2.val) rfl (by kernel_rfl) (by kernel_rfl) (by kernel_rfl) (by kernel_rfl) (by kernel_rfl) (by kernel_rfl) (want_none rfl) (fun hc v hv => ex_ld rfl (q36.e (j := 18) rfl) hv.2.1.ldH) rfl q36.z (by decide) ⟨F0, G0, T0⟩ (q36.k fun _ q37 => ?_);clear q36
      refine vg_call 2 rfl (by kernel_rfl) (want_none rfl) (ex_call rfl (by simp only [List.map_toArray, List.map_cons, List.map_nil, (q37.e (j := 66) rfl), (q37.e (j := 67) rfl), evc] <;> rfl) rfl) (node20 _ _ g0) rfl q37.z (by decide) ?_
      rintro e g1 ⟨rfl, c1⟩
      have d1 : Below w.heap.size w g1 := d0.trans (c1.mono d0.size)
      have O1 := O0.later c1
      have P1 := P0.later c1
      have F1 := F0.later c1
      have G1 := G0.later c1
      have T1 := T0.later c1
      refine ⟨_, rfl, ⟨F0.later c1, G0.later c1, T0.later c1⟩, q37.k fun _ q38 => ?_⟩;clear q37
      refine vg_call 5 rfl (by kernel_rfl) (want_none rfl) (ex_call rfl (by simp only [List.map_toArray, List.map_cons, List.map_nil, (q38.e (j := 69) rfl), (q38.e (j := 70) rfl), evc] <;> rfl) rfl) (node20 _ _ g1) rfl q38.z (by decide) ?_
      rintro e g2 ⟨rfl, c2⟩
      have d2 : Below w.heap.size w g2 := d1.trans (c2.mono d1.size)
      have O2 := O1.later c2
      have P2 := P1.later c2
      have F2 := F1.later c2
      have G2 := G1.later c2
      have T2 := T1.later c2
      refine ⟨_, rfl, ⟨F1.later c2, G1.later c2, T1.later c2⟩, q38.k fun _ q39 => ?_⟩;clear q38
      obtain ⟨z2, hz2⟩ : ∃ y, y = g2.setCells w1.heap.size 0 (nd tp (cb x (p - lft n) (n - lft n) false (P.take (k - 1))).1).cs := ⟨_, rfl⟩
      have Bz2 : BB z2 w1.heap.size 24 (nd tp (cb x (p - lft n) (n - lft n) false (P.take (k - 1))).1).cs := by rw [hz2]; exact O2.putH rfl _
      have uz2 : Upd (fun k => k = w1.heap.size) g2 z2 := by rw [hz2]; exact upd18 _ _ _ _
      have Pz2 := P2.upd uz2 (show ¬ w2.heap.size = w1.heap.size by omega)
      have dz2 : Below w.heap.size w z2 := d2.trans (bel_ge uz2 d2.size (by omega))
      refine vg_storeS 6 z2 rfl (by kernel_rfl) (want_none rfl) (ex_st rfl (q39.e (j := 10) rfl) (q39.e (j := 68) rfl) (by rw [hz2]; exact O2.stH rfl _)) rfl (⟨F2.upd uz2 (show ¬ w7.heap.size = w1.heap.size by omega), G2.upd uz2 (show ¬ w8.heap.size = w1.heap.size by omega), T2.upd uz2 (show ¬ w4.heap.size = w1.heap.size by omega)⟩) ?_
      clear hz2
      obtain ⟨xa, hxa⟩ : ∃ y, y = z2.setCells w2.heap.size 0 (nd tp (cb x (p - lft n) (n - lft n) false (P.take (k - 1))).2).cs := ⟨_, rfl⟩
      refine vg_store 7 xa rfl (by kernel_rfl) (by kernel_rfl) (want_none rfl) (ex_st rfl (q39.e (j := 11) rfl) (q39.e (j := 71) rfl) (by rw [hxa]; exact Pz2.stH rfl _)) rfl ?_
      have Bxa : BB xa w2.heap.size 24 (nd tp (cb x (p - lft n) (n - lft n) false (P.take (k - 1))).2).cs := by rw [hxa]; exact Pz2.putH rfl _
      have uxa : Upd (fun k => k = w2.heap.size) z2 xa := by rw [hxa]; exact upd18 _ _ _ _
      clear hxa
      refine vg_done (by kernel_rfl) ?_
      have Z1 := Bz2.upd uxa (show ¬ w1.heap.size = w2.heap.size by omega)
      go_wp2
      refine bodyPost_ret (resHH rfl (q39.a 10 rfl) (q39.a 11 rfl) Z1 Bxa) rfl ?_
      exact ⟨by rw [cb_r x p n wh P (by omega) h1 hp, ← HE.out, ← HT.out], dz2.trans (bel_ge uxa dz2.size (by omega))⟩
theorem climbBoth20 (x : Hs) (p n : Nat) (wh : Bool) (P : List Hs) (a : Option Addr) (k c : Nat) (w : World) (h : SlY yH w a k c P) (hk : k = sa p n wh) (hn : n ≤ 9223372036854775807) (hp1 : 1 ≤ p) (hp2 : p ≤ n) :
    Calls Try.prog 88 #[x.val, .int .i64 (p : Int), .int .i64 (n : Int), .bool wh, .slice a k c] w fun e w' => e = .returned (.tuple #[(cb x p n wh P).1.val, (cb x p n wh P).2.val]) ∧ Below w.heap.size w w' := by
  have H : ∀ m, ∀ (x : Hs) (p n : Nat) (wh : Bool) (P : List Hs) (a : Option Addr) (k c : Nat) (w : World), SlY yH w a k c P → k = sa p n wh → n < m → n ≤ 9223372036854775807 → 1 ≤ p → p ≤ n → Calls Try.prog 88 #[x.val, .int .i64 (p : Int), .int .i64 (n : Int), .bool wh, .slice a k c] w fun e w' => e = .returned (.tuple #[(cb x p n wh P).1.val, (cb x p n wh P).2.val]) ∧ Below w.heap.size w w' := by
    intro m
    induction m with
    | zero => intro x p n wh P a k c w _ _ h; omega
    | succ m ih => exact fun x p n wh P a k c w h hk hm hn h1 h2 => climbBoth_step m ih x p n wh P a k c w h hk (by omega) hn h1 h2
  exact H (n + 1) x p n wh P a k c w h hk (by omega) hn hp1 hp2

end Go.Proofs.Ytaagmdkhjmonnaa
