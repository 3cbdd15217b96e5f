import Derived.Test.YtfafhlahbhopaaaH6
set_option maxRecDepth 100000
set_option linter.unusedVariables false
set_option linter.unusedSimpArgs false
namespace Go.Proofs.Ytfafhlahbhopaaa
open Go.RowKit Go.Maps
open Classical
theorem snoc20 {P : List Hs} {k : Nat} {tp : Hs} (hl : P.length = k) (hk : 1 ≤ k) (h : P[k - 1]? = some tp) : P = P.take (k - 1) ++ [tp] := by
  obtain ⟨h1, h2⟩ := List.getElem?_eq_some_iff.1 h
  have := List.take_succ_eq_append_getElem h1
  rw [h2, show k - 1 + 1 = k by omega, List.take_of_length_le (by omega)] at this
  exact this
set_option maxHeartbeats 1000000 in
theorem climbs_ex : ∀ (N : Nat) (L : List En) (p : Nat) (x : En) (P : List Hs) (n k : Nat), L.length = n → P.length = k → n ≤ N → 1 ≤ p → p ≤ n → n ≤ 1000000 → k = su p n → (∀ x ∈ L, x.o.v.size ≤ 140737488352232) → x.o.v.size ≤ 140737488352232 →
    ∃ F : Bool, (cl (lf x) p n P = hd (L.map lf) → (¬ L[p - 1]? = some x ∨ ¬ P = pu (L.map lf) p) → F = true) ∧ ∀ (a : Option Addr) (c : Nat) (a3 : Option Addr) (c3 : Nat) (w : World), SlY yE w a n c L → SlY yH w a3 k c3 P → Calls Try.prog 32 #[.slice a n c, .int .i64 ((p : Nat) : Int), x.val20, .slice a3 k c3] w fun e w' => e = .returned (.tuple #[(cl (lf x) p n P).val, .bool F]) ∧ Below w.heap.size w w'
  | 0, _, _, _, _, _, _, _, _, h, _, _, _, _, _, _ => by omega
  | N + 1, L, p, x, P, n, k, lL, lP, hN, h1, hpn, hn2, hk, hv, hx => by
    by_cases e : n = 1
    · subst e
      obtain rfl : p = 1 := by omega
      obtain ⟨y0, rfl⟩ := List.length_eq_one_iff.1 lL
      rw [cl_1]
      refine ⟨(!decide (x = y0)) && (decide ((lf x).v = (lf y0).v)), fun e1 hne => ?_, fun a c a3 c3 w hL hP => climbs_1 [y0] 1 1 x y0 P k rfl rfl a c a3 c3 w hL hP hv hx⟩
      have e2 : lf x = lf y0 := e1
      rcases hne with hne | hne
      · have : ¬ x = y0 := fun e => hne (by rw [e]; rfl)
        rw [decide_eq_false this, decide_eq_true (by rw [e2])]
        rfl
      · exfalso
        apply hne
        rw [pu_1 _ _ (by simp)]
        exact List.eq_nil_of_length_eq_zero (by rw [lP, hk, su_1])
    · have hb := lft_b (n := n) (by omega)
      have hsl := su_le n p (by omega)
      have e2 := hd_2 (L.map lf) (by rw [List.length_map]; omega)
      rw [List.length_map, lL] at e2
      by_cases hp : p ≤ lft n
      · have hka := su_l p n (by omega) hp
        have hk1 : 1 ≤ k := by omega
        have hcl := cl_l (lf x) p n P (by omega) hp
        have htp := getD_last20 lP hk1
        rw [lP] at hcl htp
        generalize P.getD (k - 1) zH = tp at hcl htp
        have hPs := snoc20 lP hk1 htp
        have hpu := pu_l (L.map lf) p (by rw [List.length_map]; omega) (by rw [List.length_map, lL]; exact hp)
        rw [List.length_map, lL] at hpu
        obtain ⟨F1, m1, c1⟩ := climbs_ex N (L.take (lft n)) p x (P.take (k - 1)) (lft n) (k - 1) (by rw [List.length_take]; omega) (by rw [List.length_take]; omega) (by omega) h1 hp (by omega) (by omega) (fun y hy => hv y (List.mem_of_mem_take hy)) hx
        rw [hcl]
        refine ⟨_, fun e1 hne => ?_, fun a c a3 c3 w hL hP => climbs_l L n p x tp P k htp hk1 (by omega) F1 c1 a c a3 c3 w hL hP (by omega) hn2 hp hpn hv hx⟩
        rw [e2] at e1
        rcases one_or e1 with ⟨q1, q2⟩ | q
        · rw [m1 (by rw [q1, List.map_take]) ?_]
          · rfl
          · rcases hne with hne | hne
            · refine .inl (fun h => hne ?_)
              rwa [List.getElem?_take, if_pos (by omega)] at h
            · refine .inr (fun h => hne ?_)
              rw [hPs, hpu, q2, h, List.map_take]
        · rw [q, Bool.or_true]
      · have hka := su_r p n (by omega) hp
        have hk1 : 1 ≤ k := by omega
        have hcl := cl_r (lf x) p n P (by omega) hp
        have htp := getD_last20 lP hk1
        rw [lP] at hcl htp
        generalize P.getD (k - 1) zH = tp at hcl htp
        have hPs := snoc20 lP hk1 htp
        have hpu := pu_r (L.map lf) p (by rw [List.length_map]; omega) (by rw [List.length_map, lL]; exact hp)
        rw [List.length_map, lL] at hpu
        obtain ⟨F1, m1, c1⟩ := climbs_ex N (L.drop (lft n)) (p - lft n) x (P.take (k - 1)) (n - lft n) (k - 1) (by rw [List.length_drop]; omega) (by rw [List.length_take]; omega) (by omega) (by omega) (by omega) (by omega) (by omega) (fun y hy => hv y (List.mem_of_mem_drop hy)) hx
        rw [hcl]
        refine ⟨_, fun e1 hne => ?_, fun a c a3 c3 w hL hP => climbs_r L n p x tp P k htp hk1 (by omega) F1 c1 a c a3 c3 w hL hP (by omega) hn2 (by omega) hpn hv hx⟩
        rw [e2] at e1
        rcases one_or e1 with ⟨q1, q2⟩ | q
        · rw [m1 (by rw [q2, List.map_drop]) ?_]
          · rfl
          · rcases hne with hne | hne
            · refine .inl (fun h => hne ?_)
              rwa [List.getElem?_drop, show lft n + (p - lft n - 1) = p - 1 by omega] at h
            · refine .inr (fun h => hne ?_)
              rw [hPs, hpu, q1, h, List.map_drop]
        · rw [q, Bool.or_true]
set_option maxHeartbeats 2000000 in
theorem within_z (k r v : Int) (m : Nat) (hm : m ≤ 1000) (hr : k.tmod ((m + 1 : Nat) : Int) = r) (hv : v = if r < 0 then r + m + 1 else r) (w : World) :
    Calls Try.prog 29 #[.int .i64 k, .int .i64 (m : Int)] w fun e w' => e = .returned (.int .i64 v) ∧ w' = w := by
  go_enter Try.func29, Try.ntmps29
  go_upto_region 0 with fail
  refine wp_region_lit ?_
  refine vl_gen (fun T => Rp T 16 [(1, gw true (.int .i64 ((m : Nat) : Int))), (0, gw true (.int .i64 (k : Int)))]) (((Rp.nil rfl).cons rfl).cons rfl) (fun Z0 q0 => ?_)
  refine q0.t (.int .i64 (0 : Int)) (ex_assign rfl rfl) fun _ q1 => ?_;clear q0
  refine wpList_nil ?_
  go_upto_region 1 with fail
  refine wp_region_lit ?_
  refine q1.t (.int .i64 (k : Int)) (ex_move rfl (q1.e (j := 0) rfl)) fun _ q2 => ?_;clear q1
  refine q2.t (.int .i64 ((m : Nat) : Int)) (ex_move rfl (q2.e (j := 1) rfl)) fun _ q3 => ?_;clear q2
  refine q3.t (.int .i64 ((m + 1 : Nat) : Int)) (ex_bin rfl (q3.e (j := 6) rfl) rfl (add1C _ _ m (by omega) _)) fun _ q4 => ?_;clear q3
  have hr1 := Int.tmod_lt_of_pos k (b := ((m + 1 : Nat) : Int)) (by omega)
  have hr2 := Int.lt_tmod_of_pos k (b := ((m + 1 : Nat) : Int)) (by omega)
  refine q4.t (.int .i64 (k.tmod ((m + 1 : Nat) : Int) : Int)) (ex_bin rfl (q4.e (j := 5) rfl) (q4.e (j := 7) rfl) (remZ20 _ _ k _ (by omega) (by omega) _)) fun _ q5 => ?_;clear q4
  rw [hr] at q5 hr1 hr2
  refine q5.t (.int .i64 (r : Int)) (ex_assign rfl (q5.e (j := 8) rfl)) fun _ q6 => ?_;clear q5
  refine wpList_nil ?_
  go_upto_region 2 with fail
  refine wp_region_lit ?_
  refine q6.t (.int .i64 (r : Int)) (ex_move rfl (q6.e (j := 0) rfl)) fun _ q7 => ?_;clear q6
  by_cases h1 : r < 0
  · refine q7.t (.bool true) (ex_bin (Y := .int .i64 (0 : Int)) rfl (q7.e (j := 9) rfl) rfl (ltT20 _ _ h1 _)) fun _ q8 => ?_;clear q7
    refine wpList_nil ?_
    go_upto_region 3 with fail
    refine wp_cond_true (q8.e (j := 10) rfl) ?_
    go_upto_region 3 with fail
    refine wp_region_lit ?_
    refine q8.t (.int .i64 (r : Int)) (ex_move rfl (q8.e (j := 0) rfl)) fun _ q9 => ?_;clear q8
    refine q9.t (.int .i64 ((m : Nat) : Int)) (ex_move rfl (q9.e (j := 1) rfl)) fun _ q10 => ?_;clear q9
    refine q10.t (.int .i64 (r + (m : Int) : Int)) (ex_bin rfl (q10.e (j := 11) rfl) (q10.e (j := 12) rfl) (addZ20 _ _ _ _ (by omega) _)) fun _ q11 => ?_;clear q10
    refine q11.t (.int .i64 (r + (m : Int) + 1 : Int)) (ex_bin (Y := .int .i64 (1 : Int)) rfl (q11.e (j := 13) rfl) rfl (addZ20 _ _ _ _ (by omega) _)) fun _ q12 => ?_;clear q11
    refine q12.t (.int .i64 (r + (m : Int) + 1 : Int)) (ex_assign rfl (q12.e (j := 14) rfl)) fun _ q13 => ?_;clear q12
    refine wpList_nil ?_
    go_upto_region 4 with fail
    refine wp_region_lit ?_
    refine q13.t (.int .i64 (r + (m : Int) + 1 : Int)) (ex_move rfl (q13.e (j := 0) rfl)) fun _ q14 => ?_;clear q13
    refine q14.t (.int .i64 (r + (m : Int) + 1 : Int)) (ex_assign rfl (q14.e (j := 15) rfl)) fun _ q15 => ?_;clear q14
    refine wpList_nil ?_
    go_wp2
    refine bodyPost_ret (results_tmp rfl _ _ _) rfl ?_
    rw [getD_of (q15.a 4 rfl)]
    rw [hv, if_pos h1]; exact ⟨rfl, rfl⟩
  · refine q7.t (.bool false) (ex_bin (Y := .int .i64 (0 : Int)) rfl (q7.e (j := 9) rfl) rfl (ltF20 _ _ h1 _)) fun _ q8 => ?_;clear q7
    refine wpList_nil ?_
    go_upto_region 4 with fail
    refine wp_cond_false (q8.e (j := 10) rfl) ?_
    go_upto_region 4 with fail
    refine wp_region_lit ?_
    refine q8.t (.int .i64 (r : Int)) (ex_move rfl (q8.e (j := 0) rfl)) fun _ q9 => ?_;clear q8
    refine q9.t (.int .i64 (r : Int)) (ex_assign rfl (q9.e (j := 15) rfl)) fun _ q10 => ?_;clear q9
    refine wpList_nil ?_
    go_wp2
    refine bodyPost_ret (results_tmp rfl _ _ _) rfl ?_
    rw [getD_of (q10.a 4 rfl)]
    rw [hv, if_neg (by omega)]; exact ⟨rfl, rfl⟩
theorem within_ex (k : Int) (m : Nat) (hm : m ≤ 1000) : ∃ j : Nat, j ≤ m ∧ ∀ w : World, Calls Try.prog 29 #[.int .i64 k, .int .i64 (m : Int)] w fun e w' => e = .returned (.int .i64 (j : Int)) ∧ w' = w := by
  have hr1 := Int.tmod_lt_of_pos k (b := ((m + 1 : Nat) : Int)) (by omega)
  have hr2 := Int.lt_tmod_of_pos k (b := ((m + 1 : Nat) : Int)) (by omega)
  obtain ⟨r, hr⟩ : ∃ r, k.tmod ((m + 1 : Nat) : Int) = r := ⟨_, rfl⟩
  rw [hr] at hr1 hr2
  by_cases h1 : r < 0
  · refine ⟨(r + m + 1).toNat, by omega, fun w => ?_⟩
    exact within_z k r _ m hm hr (by rw [Int.toNat_of_nonneg (by omega), if_pos h1]) w
  · refine ⟨r.toNat, by omega, fun w => ?_⟩
    exact within_z k r _ m hm hr (by rw [Int.toNat_of_nonneg (by omega), if_neg h1]) w
theorem eqEZ20 (x y : Operand) (a b : Int) (w : World) : (do eqGuard .eql 43 x y (.int .i64 a) (.int .i64 b); binOp .eql 43 (.int .i64 a) (.int .i64 b) : Sem Value).run Try.prog w = .ok (.bool (decide (a = b))) w := by
  by_cases h : a = b
  · subst h; rw [decide_eq_true rfl]; exact eqEt x y a w
  · rw [decide_eq_false h]; go_simp
end Go.Proofs.Ytfafhlahbhopaaa
