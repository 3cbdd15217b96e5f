import Derived.Deep.RegionLaw
import Derived.Deep.SlicePairs
import Derived.Test.YtomiifnhcojilaaRows
import Derived.Lib.ConvBytes
import Derived.Test.YtomiifnhcojilaaI4
set_option maxRecDepth 100000
set_option linter.unusedVariables false
set_option linter.unusedSimpArgs false
namespace Go.Proofs.Ytomiifnhcojilaa
open Go.RowKit Go.Maps
open Classical
theorem own1B20 (w : World) (x : Int) : OwnY yB9 w.heap.size (w.alloc (.cells (([x] : List Int).map bV).toArray 5)) (.slice (some ⟨w.heap.size, 0, none⟩) 1 1) [x] :=
  World.ownsRow_lit w _ 1 (Nat.le_refl _) (by unfold maxLen; decide) rfl
set_option maxHeartbeats 2000000 in
theorem rnodeText20 (a b : Hs) (w : World) :
    Calls Try.prog 44 #[a.val, b.val] w fun e w' => ∃ v, e = .returned v ∧ OwnY yB9 w.heap.size w' v ([1] ++ a.v ++ b.v) ∧ Below w.heap.size w w' := by
  go_enter Try.func44, Try.ntmps44
  go_upto_region 0 with fail
  refine wp_region_lit ?_
  refine vl_gen (fun T => Rp T 13 [(1, gw true (b.val)), (0, gw true (a.val))]) (((Rp.nil rfl).cons rfl).cons rfl) (fun Z0 q0 => ?_)
  obtain ⟨w1, hw1⟩ : ∃ y, y = w.alloc (.cells (a.cs).toArray 24) := ⟨_, rfl⟩
  refine vw (.pointer (some ⟨w.heap.size, 0, none⟩)) w1 (want_none rfl) (ex_box18 rfl (q0.e (j := 0) rfl) (by rw [hw1]; exact bxH20 _ _)) rfl q0.z (by decide) (q0.k fun _ q1 => ?_);clear q0
  have Bw1 : BB w1 w.heap.size 24 (a.cs) := by rw [hw1]; exact BB.new _ _ _
  have bw1 : Below w.heap.size w w1 := by rw [hw1]; exact (Below.refl _ _).alloc (Nat.le_refl _) _
  have zw1 : w1.heap.size = w.heap.size + 1 := by rw [hw1]; exact World.size_alloc _ _
  clear hw1
  obtain ⟨w2, hw2⟩ : ∃ y, y = w1.alloc (.cells (b.cs).toArray 24) := ⟨_, rfl⟩
  refine vw (.pointer (some ⟨w1.heap.size, 0, none⟩)) w2 (want_none rfl) (ex_box18 rfl (q1.e (j := 1) rfl) (by rw [hw2]; exact bxH20 _ _)) rfl q1.z (by decide) (q1.k fun _ q2 => ?_);clear q1
  have Bw2 : BB w2 w1.heap.size 24 (b.cs) := by rw [hw2]; exact BB.new _ _ _
  have bw2 : Below w1.heap.size w1 w2 := by rw [hw2]; exact (Below.refl _ _).alloc (Nat.le_refl _) _
  have zw2 : w2.heap.size = w1.heap.size + 1 := by rw [hw2]; exact World.size_alloc _ _
  clear hw2
  refine q2.t (.slice none 0 0) (ex_assign rfl rfl) fun _ q3 => ?_;clear q2
  refine wpList_nil ?_
  go_upto_region 1 with fail
  refine wp_region_lit ?_
  obtain ⟨w3, hw3⟩ : ∃ y, y = w2.alloc (.cells (([1] : List Int).map bV).toArray 5) := ⟨_, rfl⟩
  refine vw (.slice (some ⟨w2.heap.size, 0, none⟩) 1 1) w3 (want_none rfl) (ex_bs18 rfl rfl (by rw [hw3]; exact bs1B 1 _)) rfl q3.z (by decide) (q3.k fun _ q4 => ?_);clear q3
  have o3b : OwnY yB9 w2.heap.size w3 (.slice (some ⟨w2.heap.size, 0, none⟩) 1 1) [1] := by rw [hw3]; exact own1B20 w2 1
  have b3 : Below w2.heap.size w2 w3 := by rw [hw3]; exact (Below.refl _ _).alloc (Nat.le_refl _) _
  have z3 := b3.size
  clear hw3
  have d3 : Below w.heap.size w w3 := (bw1.trans (bw2.mono (by omega))).trans (b3.mono (by omega))
  have A3 := (Bw1.later bw2).later b3
  have B3 := Bw2.later b3
  have lw3 : w.heap.size + 2 ≤ w3.heap.size := by omega
  refine q4.t (.slice (some ⟨w2.heap.size, 0, none⟩) 1 1) (ex_assign rfl (q4.e (j := 6) rfl)) fun _ q5 => ?_;clear q4
  refine wpList_nil ?_
  go_upto_region 2 with fail
  refine wp_region_lit ?_
  refine q5.t (.slice (some ⟨w2.heap.size, 0, none⟩) 1 1) (ex_move rfl (q5.e (j := 5) rfl)) fun _ q6 => ?_;clear q5
  refine q6.t (.slice (some ⟨w.heap.size, 0, none⟩) a.v.length a.v.length) (ex_sl18 rfl (q6.e (j := 2) rfl) (by rw [a.p]; exact slH20 _ _)) fun _ q7 => ?_;clear q6
  have sa3 := A3.sl0 (L := a.v) (by rw [a.p]; unfold maxLen; decide)
  obtain ⟨v4, w4, ha4, o4, g4, _⟩ := run_appY kB9 w3 73 (w2.heap.size) [1] (.slice (some ⟨w2.heap.size, 0, none⟩) 1 1) _ _ _ a.v sa3 o3b (by omega) (by rw [a.p]; unfold maxLen; decide) (by show (([1] : List Int).length + a.v.length) * 1 ≤ _; rw [a.p]; decide)
  have d4 : Below w2.heap.size w2 w4 := o3b.grown b3 g4 (by omega)
  have z4 := d4.size
  refine vw (v4) w4 (want_none rfl) (ex_app18 rfl (q7.e (j := 7) rfl) (q7.e (j := 8) rfl) ha4) rfl q7.z (by decide) (q7.k fun _ q8 => ?_);clear q7
  refine q8.t (v4) (ex_assign rfl (q8.e (j := 9) rfl)) fun _ q9 => ?_;clear q8
  refine wpList_nil ?_
  go_upto_region 3 with fail
  refine wp_region_lit ?_
  refine q9.t (v4) (ex_move rfl (q9.e (j := 5) rfl)) fun _ q10 => ?_;clear q9
  refine q10.t (.slice (some ⟨w1.heap.size, 0, none⟩) b.v.length b.v.length) (ex_sl18 rfl (q10.e (j := 3) rfl) (by rw [b.p]; exact slH20 _ _)) fun _ q11 => ?_;clear q10
  have sb4 := (Bw2.later d4).sl0 (L := b.v) (by rw [b.p]; unfold maxLen; decide)
  obtain ⟨v5, w5, ha5, o5, g5, _⟩ := run_appY kB9 w4 73 (w2.heap.size) ([1] ++ a.v) v4 _ _ _ b.v sb4 o4 (by omega) (by rw [List.length_append, a.p, b.p]; unfold maxLen; decide) (by show (([1] ++ a.v : List Int).length + b.v.length) * 1 ≤ _; rw [List.length_append, a.p, b.p]; decide)
  have d5 : Below w2.heap.size w2 w5 := o4.grown d4 g5 (by omega)
  refine vw (v5) w5 (want_none rfl) (ex_app18 rfl (q11.e (j := 10) rfl) (q11.e (j := 11) rfl) ha5) rfl q11.z (by decide) (q11.k fun _ q12 => ?_);clear q11
  refine q12.t (v5) (ex_assign rfl (q12.e (j := 12) rfl)) fun _ q13 => ?_;clear q12
  refine wpList_nil ?_
  go_wp2
  refine bodyPost_ret (results_tmp rfl _ _ _) rfl ?_
  rw [getD_of (q13.a 4 rfl)]
  exact ⟨_, rfl, o5.low (by omega), (bw1.trans (bw2.mono (by omega))).trans (d5.mono (by omega))⟩
theorem nd_by20 (a b : Hs) : ∀ x ∈ [1] ++ a.v ++ b.v, (0 : Int) ≤ x ∧ x < 256 := fun x hx => by
  rw [List.mem_append, List.mem_append] at hx
  rcases hx with (hx | hx) | hx
  · rw [List.mem_singleton.1 hx]; decide
  · exact a.r x hx
  · exact b.r x hx
set_option maxHeartbeats 2000000 in
theorem rnode20 (a b : Hs) (w : World) :
    Calls Try.prog 15 #[a.val, b.val] w fun e w' => e = .returned (nd a b).val ∧ Below w.heap.size w w' := by
  go_enter Try.func15, Try.ntmps15
  go_upto_region 0 with fail
  refine wp_region_lit ?_
  refine vl_gen (fun T => Rp T 9 [(1, gw true (b.val)), (0, gw true (a.val))]) (((Rp.nil rfl).cons rfl).cons rfl) (fun Z0 q0 => ?_)
  obtain ⟨w1, hw1⟩ : ∃ y, y = w.alloc (.cells (a.cs).toArray 24) := ⟨_, rfl⟩
  refine vw (.pointer (some ⟨w.heap.size, 0, none⟩)) w1 (want_none rfl) (ex_box18 rfl (q0.e (j := 0) rfl) (by rw [hw1]; exact bxH20 _ _)) rfl q0.z (by decide) (q0.k fun _ q1 => ?_);clear q0
  have Bw1 : BB w1 w.heap.size 24 (a.cs) := by rw [hw1]; exact BB.new _ _ _
  have bw1 : Below w.heap.size w w1 := by rw [hw1]; exact (Below.refl _ _).alloc (Nat.le_refl _) _
  have zw1 : w1.heap.size = w.heap.size + 1 := by rw [hw1]; exact World.size_alloc _ _
  clear hw1
  obtain ⟨w2, hw2⟩ : ∃ y, y = w1.alloc (.cells (b.cs).toArray 24) := ⟨_, rfl⟩
  refine vw (.pointer (some ⟨w1.heap.size, 0, none⟩)) w2 (want_none rfl) (ex_box18 rfl (q1.e (j := 1) rfl) (by rw [hw2]; exact bxH20 _ _)) rfl q1.z (by decide) (q1.k fun _ q2 => ?_);clear q1
  have Bw2 : BB w2 w1.heap.size 24 (b.cs) := by rw [hw2]; exact BB.new _ _ _
  have bw2 : Below w1.heap.size w1 w2 := by rw [hw2]; exact (Below.refl _ _).alloc (Nat.le_refl _) _
  have zw2 : w2.heap.size = w1.heap.size + 1 := by rw [hw2]; exact World.size_alloc _ _
  clear hw2
  obtain ⟨w3, hw3⟩ : ∃ y, y = w2.alloc (.cells (zH.cs).toArray 24) := ⟨_, rfl⟩
  refine vw (.pointer (some ⟨w2.heap.size, 0, none⟩)) w3 (want_none rfl) (ex_al rfl (by rw [hw3]; exact alH _)) rfl q2.z (by decide) (q2.k fun _ q3 => ?_);clear q2
  have Bw3 : BB w3 w2.heap.size 24 (zH.cs) := by rw [hw3]; exact BB.new _ _ _
  have bw3 : Below w2.heap.size w2 w3 := by rw [hw3]; exact (Below.refl _ _).alloc (Nat.le_refl _) _
  have zw3 : w3.heap.size = w2.heap.size + 1 := by rw [hw3]; exact World.size_alloc _ _
  clear hw3
  refine wpList_nil ?_
  go_upto_region 1 with fail
  refine wp_region_lit ?_
  refine q3.t (a.val) (ex_ld rfl (q3.e (j := 2) rfl) ((Bw1.later bw2).later bw3).ldH) fun _ q4 => ?_;clear q3
  refine q4.t (b.val) (ex_ld rfl (q4.e (j := 3) rfl) (Bw2.later bw3).ldH) fun _ q5 => ?_;clear q4
  refine vcallP (want_none rfl) (ex_call rfl (by simp only [List.map_toArray, List.map_cons, List.map_nil, (q5.e (j := 5) rfl), (q5.e (j := 6) rfl), evc] <;> rfl) rfl) (rnodeText20 a b w3) rfl q5.z (by decide) ?_
  rintro e w4 ⟨v4, rfl, o4, b4⟩
  refine ⟨_, rfl, q5.k fun _ q6 => ?_⟩;clear q5
  have z4 := b4.size
  obtain ⟨a4, c4, hv4, s4, _⟩ := o4.sl kB9
  subst hv4
  refine vcallP (want_none rfl) (ex_call rfl (by simp only [List.map_toArray, List.map_cons, List.map_nil, (q6.e (j := 7) rfl), evc] <;> rfl) rfl) (rsum19 _ _ _ w4 s4 (by rw [List.length_append, List.length_append, a.p, b.p]; decide) (nd_by20 a b)) rfl q6.z (by decide) ?_
  rintro e w5 ⟨rfl, b5⟩
  refine ⟨_, rfl, q6.k fun _ q7 => ?_⟩;clear q6
  have z5 := b5.size
  have Bh5 := (Bw3.later b4).later b5
  have e9 : Value.agg ((sumF ([1] ++ a.v ++ b.v)).map bV).toArray = (nd a b).val := rfl
  rw [e9] at q7
  obtain ⟨w6, hw6⟩ : ∃ y, y = w5.setCells w2.heap.size 0 (nd a b).cs := ⟨_, rfl⟩
  refine vs w6 (want_none rfl) (ex_st rfl (q7.e (j := 4) rfl) (q7.e (j := 8) rfl) (by rw [hw6]; exact Bh5.stH rfl _)) rfl ?_
  have Bw6 : BB w6 w2.heap.size 24 (nd a b).cs := by rw [hw6]; exact Bh5.putH rfl _
  have uw6 : Upd (fun k => k = w2.heap.size) w5 w6 := by rw [hw6]; exact upd18 _ _ _ _
  clear hw6
  refine wpList_nil ?_
  go_wp2
  exact Bw6.res rfl (q7.a 4 rfl) Try.underlying24 rfl (by rw [Hs.len]; exact i32h) ⟨rfl, ((((bw1.trans (bw2.mono (by omega))).trans (bw3.mono (by omega))).trans (b4.mono (by omega))).trans (b5.mono (by omega))).trans (bel_ge uw6 (by omega) (by omega))⟩
end Go.Proofs.Ytomiifnhcojilaa
namespace Go.Proofs.Ytomiifnhcojilaa
open Go.RowKit Go.Maps
open Classical
set_option maxHeartbeats 2000000 in
theorem both_step (m : Nat) (ih : ∀ (x : Hs) (p n : Nat) (wh : Bool) (P : List Hs) (a : Option Addr) (k c : Nat) (w : World), SlY yH w a k c P → k = sa p n wh → n < m → n ≤ 9223372036854775807 → 1 ≤ p → p ≤ n → Calls Try.prog 63 #[.int .i64 (p : Int), .int .i64 (n : Int), .bool wh, x.val, .slice a k c] w fun e w' => e = .returned (.tuple #[(cb x p n wh P).1.val, (cb x p n wh P).2.val]) ∧ Below w.heap.size w w') (x : Hs) (p n : Nat) (wh : Bool) (P : List Hs) (a : Option Addr) (k c : Nat) (w : World) (h : SlY yH w a k c P) (hk : k = sa p n wh) (hm : n ≤ m) (hn : n ≤ 9223372036854775807) (hp1 : 1 ≤ p) (hp2 : p ≤ n) :
    Calls Try.prog 63 #[.int .i64 (p : Int), .int .i64 (n : Int), .bool wh, x.val, .slice a k c] w fun e w' => e = .returned (.tuple #[(cb x p n wh P).1.val, (cb x p n wh P).2.val]) ∧ Below w.heap.size w w' := by
  have hln := h.len
  go_enter Try.func63, Try.ntmps63
  go_upto_region 0 with fail
  refine wp_region_lit ?_
  refine vl_gen (fun T => Rp T 82 [(4, gw true (.slice a k c)), (3, gw true (x.val)), (2, gw true (.bool (wh))), (1, gw true (.int .i64 ((n : Nat) : Int))), (0, gw true (.int .i64 ((p : Nat) : Int)))]) ((((((Rp.nil rfl).cons rfl).cons rfl).cons rfl).cons rfl).cons rfl) (fun Z0 q0 => ?_)
  obtain ⟨w1, hw1⟩ : ∃ y, y = w.alloc (.cells (x.cs).toArray 24) := ⟨_, rfl⟩
  refine vw (.pointer (some ⟨w.heap.size, 0, none⟩)) w1 (want_none rfl) (ex_box18 rfl (q0.e (j := 3) rfl) (by rw [hw1]; exact bxH20 _ _)) rfl q0.z (by decide) (q0.k fun _ q1 => ?_);clear q0
  have Bw1 : BB w1 w.heap.size 24 (x.cs) := by rw [hw1]; exact BB.new _ _ _
  have bw1 : Below w.heap.size w w1 := by rw [hw1]; exact (Below.refl _ _).alloc (Nat.le_refl _) _
  have zw1 : w1.heap.size = w.heap.size + 1 := by rw [hw1]; exact World.size_alloc _ _
  clear hw1
  have d2 : Below w.heap.size w w1 := bw1
  obtain ⟨w3, hw3⟩ : ∃ y, y = w1.alloc (.cells (zH.cs).toArray 24) := ⟨_, rfl⟩
  refine vw (.pointer (some ⟨w1.heap.size, 0, none⟩)) w3 (want_none rfl) (ex_al rfl (by rw [hw3]; exact alH _)) rfl q1.z (by decide) (q1.k fun _ q2 => ?_);clear q1
  have Bw3 : BB w3 w1.heap.size 24 (zH.cs) := by rw [hw3]; exact BB.new _ _ _
  have bw3 : Below w1.heap.size w1 w3 := by rw [hw3]; exact (Below.refl _ _).alloc (Nat.le_refl _) _
  have zw3 : w3.heap.size = w1.heap.size + 1 := by rw [hw3]; exact World.size_alloc _ _
  clear hw3
  have d4 : Below w.heap.size w w3 := d2.trans (bw3.mono d2.size)
  obtain ⟨w5, hw5⟩ : ∃ y, y = w3.alloc (.cells (zH.cs).toArray 24) := ⟨_, rfl⟩
  refine vw (.pointer (some ⟨w3.heap.size, 0, none⟩)) w5 (want_none rfl) (ex_al rfl (by rw [hw5]; exact alH _)) rfl q2.z (by decide) (q2.k fun _ q3 => ?_);clear q2
  have Bw5 : BB w5 w3.heap.size 24 (zH.cs) := by rw [hw5]; exact BB.new _ _ _
  have bw5 : Below w3.heap.size w3 w5 := by rw [hw5]; exact (Below.refl _ _).alloc (Nat.le_refl _) _
  have zw5 : w5.heap.size = w3.heap.size + 1 := by rw [hw5]; exact World.size_alloc _ _
  clear hw5
  have d6 : Below w.heap.size w w5 := d4.trans (bw5.mono d4.size)
  refine wpList_nil ?_
  go_upto_region 1 with fail
  refine wp_region_lit ?_
  refine q3.t (.int .i64 ((p : Nat) : Int)) (ex_move rfl (q3.e (j := 0) rfl)) fun _ q4 => ?_;clear q3
  refine q4.t (.int .i64 ((n : Nat) : Int)) (ex_move rfl (q4.e (j := 1) rfl)) fun _ q5 => ?_;clear q4
  by_cases h1 : p = n
  · have hcb : cb x p n wh P = bif wh then (x, x) else (P.getD 0 zH, P.getD 0 zH) := by rw [h1]; exact cb_e x n wh P
    have HE0 := hide hcb
    have hsa : sa p n wh = bif wh then 0 else 1 := by rw [h1]; exact sa_e n wh
    have HA := hide hsa
    clear hcb hsa
    refine q5.t (.bool true) (ex_bin rfl (q5.e (j := 18) rfl) (q5.e (j := 19) rfl) (eqT20 _ _ (by omega) _)) fun _ q6 => ?_;clear q5
    refine wpList_nil ?_
    go_upto_region 2 with fail
    refine wp_cond_true (q6.e (j := 20) rfl) ?_
    go_upto_region 2 with fail
    refine wp_region_lit ?_
    refine q6.t (.bool (wh)) (ex_move rfl (q6.e (j := 2) rfl)) fun _ q7 => ?_;clear q6
    refine wpList_nil ?_
    cases hwh : wh
    · rw [hwh] at q7
      have hwhh := hide hwh
      clear hwh
      go_upto_region 4 with fail
      refine wp_cond_false (q7.e (j := 21) rfl) ?_
      have HK : k = 1 := by rw [hk, HA.out, hwhh.out]; rfl
      obtain ⟨kq7, ko8, rfl, hkq7, lkq7⟩ := h.place (by rintro rfl; simp at hln; omega)
      have ckq7 := h.cap
      obtain ⟨y0, hy0⟩ : ∃ x, P[0]? = some x := ⟨_, List.getElem?_eq_getElem (by omega)⟩
      have hg0 : P.getD 0 zH = y0 := by rw [List.getD_eq_getElem?_getD, hy0]; rfl
      have HG := hide hg0
      clear hg0
      go_upto_region 4 with fail
      have B9 : BB w5 w1.heap.size 24 (zH.cs) := (Bw3.later bw5)
      refine vp_start 82 (fun T v => Rp T 82 [(0, gw true (.int .i64 ((p : Nat) : Int))), (1, gw true (.int .i64 ((n : Nat) : Int))), (2, gw true (.bool false)), (4, gw true (.slice (some ⟨kq7, ko8, none⟩) k c)), (8, gw true (.pointer (some ⟨w.heap.size, 0, none⟩))), (10, gw true (.pointer (some ⟨w1.heap.size, 0, none⟩))), (11, gw true (.pointer (some ⟨w3.heap.size, 0, none⟩))), (20, gw true (.bool true)), (21, gw true (.bool false))] ∧ Upd (fun k => k = w1.heap.size ∨ k = w3.heap.size) w5 v) (fun (i : Nat) (T : Array Value) (v : World) => match i with | 0 => T[24]? = some (gw true (.slice (some ⟨kq7, ko8, none⟩) k c)) | 1 => T[25]? = some (gw true (.pointer (some ⟨kq7, ko8 + 0 * 32, none⟩))) | 2 => T[26]? = some (gw true (y0.val)) | 3 => T[27]? = some (gw true (.slice (some ⟨kq7, ko8, none⟩) k c)) | 4 => T[28]? = some (gw true (.pointer (some ⟨kq7, ko8 + 0 * 32, none⟩))) | 5 => T[29]? = some (gw true (y0.val)) | 6 => BB v w1.heap.size 24 (y0.cs) | 7 => BB v w3.heap.size 24 (y0.cs) | _ => True) (fun (i : Nat) (T : Array Value) (v : World) => match i with | 6 => BB v w1.heap.size 24 (zH.cs) | 7 => BB v w3.heap.size 24 (zH.cs) | _ => True) (fun j T k => (j = 6 ∧ k = w1.heap.size) ∨ (j = 7 ∧ k = w3.heap.size)) (fun i => match i with | 0 => [24] | 1 => [25] | 2 => [26] | 3 => [27] | 4 => [28] | 5 => [29] | 6 => [] | 7 => [] | _ => []) (fun _ => []) [0, 1, 2, 4, 8, 10, 11, 20, 21] (fun i j => false) (fun i => false) (by kernel_rfl) (by kernel_rfl) q7.z ⟨((((((((((Rp.nil q7.z).cons (q7.a 21 rfl)).cons (q7.a 20 rfl)).cons (q7.a 11 rfl)).cons (q7.a 10 rfl)).cons (q7.a 8 rfl)).cons (q7.a 4 rfl)).cons (q7.a 2 rfl)).cons (q7.a 1 rfl)).cons (q7.a 0 rfl)), (Upd.refl _ _).drew20⟩ ?_ ?_ ?_ ?_ ?_ ?_
      · exact ⟨trivial, trivial, trivial, trivial, trivial, trivial, B9.later (Below.refl _ _).drew, Bw5.later (Below.refl _ _).drew, trivial⟩
      · intro j T T2 v v2 h _ hz hk hu
        exact ⟨h.1.ch hz hk, h.2.tr20 hu (fun k hk he => by have he2 : (j = 6 ∧ k = w1.heap.size) ∨ (j = 7 ∧ k = w3.heap.size) := he; show k = w1.heap.size ∨ k = w3.heap.size; omega)⟩
      · refine ⟨?_, ?_, ?_, ?_, ?_, ?_, ?_, ?_, trivial⟩
        · exact fun j hj hu T T2 v v2 h hD hz hk hU => (hk 24 (List.mem_singleton.2 rfl)).trans h
        · exact fun j hj hu T T2 v v2 h hD hz hk hU => (hk 25 (List.mem_singleton.2 rfl)).trans h
        · exact fun j hj hu T T2 v v2 h hD hz hk hU => (hk 26 (List.mem_singleton.2 rfl)).trans h
        · exact fun j hj hu T T2 v v2 h hD hz hk hU => (hk 27 (List.mem_singleton.2 rfl)).trans h
        · exact fun j hj hu T T2 v v2 h hD hz hk hU => (hk 28 (List.mem_singleton.2 rfl)).trans h
        · exact fun j hj hu T T2 v v2 h hD hz hk hU => (hk 29 (List.mem_singleton.2 rfl)).trans h
        · intro j hj hu T T2 v v2 h hD hz hk hU
          exact BB.upd h hU (fun he => by have he2 : (j = 6 ∧ w1.heap.size = w1.heap.size) ∨ (j = 7 ∧ w1.heap.size = w3.heap.size) := he; omega)
        · intro j hj hu T T2 v v2 h hD hz hk hU
          exact BB.upd h hU (fun he => by have he2 : (j = 6 ∧ w3.heap.size = w1.heap.size) ∨ (j = 7 ∧ w3.heap.size = w3.heap.size) := he; omega)
      · refine ⟨fun _ _ _ _ _ _ _ _ _ _ _ => trivial, fun _ _ _ _ _ _ _ _ _ _ _ => trivial, fun _ _ _ _ _ _ _ _ _ _ _ => trivial, fun _ _ _ _ _ _ _ _ _ _ _ => trivial, fun _ _ _ _ _ _ _ _ _ _ _ => trivial, fun _ _ _ _ _ _ _ _ _ _ _ => trivial, ?_, ?_, trivial⟩
        · exact fun j hj T T2 v v2 h _ hz hk hU => BB.upd h hU (fun he => by have he2 : (j = 6 ∧ w1.heap.size = w1.heap.size) ∨ (j = 7 ∧ w1.heap.size = w3.heap.size) := he; omega)
        · exact fun j hj T T2 v v2 h _ hz hk hU => BB.upd h hU (fun he => by have he2 : (j = 6 ∧ w3.heap.size = w1.heap.size) ∨ (j = 7 ∧ w3.heap.size = w3.heap.size) := he; omega)
      · refine ⟨?_, ?_, ?_, ?_, ?_, ?_, ?_, ?_, trivial⟩
        · intro T df v hz hB hd hC
          have qb := hB.1
          have hU := hB.2
          exact ⟨true, want_none rfl, fun _ => .inl ⟨_, _, ex_move rfl (qb.e (j := 4) rfl), Upd.refl _ _, fun h => absurd h (by decide), fun T2 N => N.s 24 rfl⟩, fun h => absurd h (by decide), fun h => absurd h (by decide)⟩
        · intro T df v hz hB hd hC
          have qb := hB.1
          have hU := hB.2
          have p0 : T[24]? = some (gw true (.slice (some ⟨kq7, ko8, none⟩) k c)) := hd 0 (by kernel_rfl) (by kernel_rfl)
          exact ⟨true, want_none rfl, fun _ => .inl ⟨_, _, ex_ix (Y := .int .i64 ((0 : Nat) : Int)) rfl (ev p0 rfl) rfl (ixH kq7 ko8 k c 0 (by omega) _), Upd.refl _ _, fun h => absurd h (by decide), fun T2 N => N.s 25 rfl⟩, fun h => absurd h (by decide), fun h => absurd h (by decide)⟩
        · intro T df v hz hB hd hC
          have qb := hB.1
          have hU := hB.2
          have D : Below w.heap.size w v := d6.trans (hU.below d6.size (fun k hk => by have hk2 : k = w1.heap.size ∨ k = w3.heap.size := hk; omega))
          have p1 : T[25]? = some (gw true (.pointer (some ⟨kq7, ko8 + 0 * 32, none⟩))) := hd 1 (by kernel_rfl) (by kernel_rfl)
          exact ⟨true, want_none rfl, fun _ => .inl ⟨_, _, ex_ld rfl (ev p1 rfl) (ldH20 (lkq7.upd (S := fun _ => False) (Upd.of_below D) hkq7 id) hy0), Upd.refl _ _, fun h => absurd h (by decide), fun T2 N => N.s 26 rfl⟩, fun h => absurd h (by decide), fun h => absurd h (by decide)⟩
        · intro T df v hz hB hd hC
          have qb := hB.1
          have hU := hB.2
          exact ⟨true, want_none rfl, fun _ => .inl ⟨_, _, ex_move rfl (qb.e (j := 4) rfl), Upd.refl _ _, fun h => absurd h (by decide), fun T2 N => N.s 27 rfl⟩, fun h => absurd h (by decide), fun h => absurd h (by decide)⟩
        · intro T df v hz hB hd hC
          have qb := hB.1
          have hU := hB.2
          have p3 : T[27]? = some (gw true (.slice (some ⟨kq7, ko8, none⟩) k c)) := hd 3 (by kernel_rfl) (by kernel_rfl)
          exact ⟨true, want_none rfl, fun _ => .inl ⟨_, _, ex_ix (Y := .int .i64 ((0 : Nat) : Int)) rfl (ev p3 rfl) rfl (ixH kq7 ko8 k c 0 (by omega) _), Upd.refl _ _, fun h => absurd h (by decide), fun T2 N => N.s 28 rfl⟩, fun h => absurd h (by decide), fun h => absurd h (by decide)⟩
        · intro T df v hz hB hd hC
          have qb := hB.1
          have hU := hB.2
          have D : Below w.heap.size w v := d6.trans (hU.below d6.size (fun k hk => by have hk2 : k = w1.heap.size ∨ k = w3.heap.size := hk; omega))
          have p4 : T[28]? = some (gw true (.pointer (some ⟨kq7, ko8 + 0 * 32, none⟩))) := hd 4 (by kernel_rfl) (by kernel_rfl)
          exact ⟨true, want_none rfl, fun _ => .inl ⟨_, _, ex_ld rfl (ev p4 rfl) (ldH20 (lkq7.upd (S := fun _ => False) (Upd.of_below D) hkq7 id) hy0), Upd.refl _ _, fun h => absurd h (by decide), fun T2 N => N.s 29 rfl⟩, fun h => absurd h (by decide), fun h => absurd h (by decide)⟩
        · intro T df v hz hB hd hC
          have qb := hB.1
          have hU := hB.2
          have p2 : T[26]? = some (gw true (y0.val)) := hd 2 (by kernel_rfl) (by kernel_rfl)
          have hq : BB v w1.heap.size 24 (zH.cs) := hC 6 _ rfl (.inl rfl)
          exact ⟨_, want_none rfl, fun _ => .inr (.inl ⟨_, ex_st rfl (qb.e (j := 10) rfl) (ev p2 rfl) (hq.stH rfl _), (upd18 _ _ _ _).sub20 (fun k hk => by have hk2 : k = w1.heap.size := hk; show (6 = 6 ∧ k = w1.heap.size) ∨ (6 = 7 ∧ k = w3.heap.size); omega), fun h => absurd h (by decide), fun T2 N => hq.putH rfl _⟩), fun h => absurd h (by decide), fun h => absurd h (by decide)⟩
        · intro T df v hz hB hd hC
          have qb := hB.1
          have hU := hB.2
          have p5 : T[29]? = some (gw true (y0.val)) := hd 5 (by kernel_rfl) (by kernel_rfl)
          have hq : BB v w3.heap.size 24 (zH.cs) := hC 7 _ rfl (.inl rfl)
          exact ⟨_, want_none rfl, fun _ => .inr (.inl ⟨_, ex_st rfl (qb.e (j := 11) rfl) (ev p5 rfl) (hq.stH rfl _), (upd18 _ _ _ _).sub20 (fun k hk => by have hk2 : k = w3.heap.size := hk; show (7 = 6 ∧ k = w1.heap.size) ∨ (7 = 7 ∧ k = w3.heap.size); omega), fun h => absurd h (by decide), fun T2 N => hq.putH rfl _⟩), fun h => absurd h (by decide), fun h => absurd h (by decide)⟩
      intro T v10 hz hB hp ha
      have qb := hB.1
      have U11 := hB.2
      clear hB hz
      clear q7
      have d12 : Below w.heap.size w v10 := d6.trans (U11.below (Nat.le_trans d6.size (Nat.le_refl _)) (fun k hk => by have hk2 : k = w1.heap.size ∨ k = w3.heap.size := hk; omega))
      have zv10 := U11.size
      have B13 : BB v10 w1.heap.size 24 (y0.cs) := hp 6 _ rfl (fun k => rfl)
      have B14 : BB v10 w3.heap.size 24 (y0.cs) := hp 7 _ rfl (fun k => rfl)
      have q8 := qb
      clear hp ha qb
      go_wp2
      refine bodyPost_ret (resHH rfl (q8.a 10 rfl) (q8.a 11 rfl) B13 B14) rfl ?_
      exact ⟨by rw [HE0.out, hwhh.out, HG.out]; rfl, d12⟩
    · rw [hwh] at q7
      have hwhh := hide hwh
      clear hwh
      go_upto_region 3 with fail
      refine wp_cond_true (q7.e (j := 21) rfl) ?_
      go_upto_region 3 with fail
      have B7 : BB w5 w.heap.size 24 (x.cs) := ((Bw1.later bw3).later bw5)
      have B8 : BB w5 w1.heap.size 24 (zH.cs) := (Bw3.later bw5)
      refine vp_start 82 (fun T v => Rp T 82 [(0, gw true (.int .i64 ((p : Nat) : Int))), (1, gw true (.int .i64 ((n : Nat) : Int))), (2, gw true (.bool true)), (4, gw true (.slice a k c)), (8, gw true (.pointer (some ⟨w.heap.size, 0, none⟩))), (10, gw true (.pointer (some ⟨w1.heap.size, 0, none⟩))), (11, gw true (.pointer (some ⟨w3.heap.size, 0, none⟩))), (20, gw true (.bool true)), (21, gw true (.bool true))] ∧ Upd (fun k => k = w1.heap.size ∨ k = w3.heap.size) w5 v) (fun (i : Nat) (T : Array Value) (v : World) => match i with | 0 => T[22]? = some (gw true (x.val)) | 1 => T[23]? = some (gw true (x.val)) | 2 => BB v w1.heap.size 24 (x.cs) | 3 => BB v w3.heap.size 24 (x.cs) | _ => True) (fun (i : Nat) (T : Array Value) (v : World) => match i with | 2 => BB v w1.heap.size 24 (zH.cs) | 3 => BB v w3.heap.size 24 (zH.cs) | _ => True) (fun j T k => (j = 2 ∧ k = w1.heap.size) ∨ (j = 3 ∧ k = w3.heap.size)) (fun i => match i with | 0 => [22] | 1 => [23] | 2 => [] | 3 => [] | _ => []) (fun _ => []) [0, 1, 2, 4, 8, 10, 11, 20, 21] (fun i j => false) (fun i => false) (by kernel_rfl) (by kernel_rfl) q7.z ⟨((((((((((Rp.nil q7.z).cons (q7.a 21 rfl)).cons (q7.a 20 rfl)).cons (q7.a 11 rfl)).cons (q7.a 10 rfl)).cons (q7.a 8 rfl)).cons (q7.a 4 rfl)).cons (q7.a 2 rfl)).cons (q7.a 1 rfl)).cons (q7.a 0 rfl)), (Upd.refl _ _).drew20⟩ ?_ ?_ ?_ ?_ ?_ ?_
      · exact ⟨trivial, trivial, B8.later (Below.refl _ _).drew, Bw5.later (Below.refl _ _).drew, trivial⟩
      · intro j T T2 v v2 h _ hz hk hu
        exact ⟨h.1.ch hz hk, h.2.tr20 hu (fun k hk he => by have he2 : (j = 2 ∧ k = w1.heap.size) ∨ (j = 3 ∧ k = w3.heap.size) := he; show k = w1.heap.size ∨ k = w3.heap.size; omega)⟩
      · refine ⟨?_, ?_, ?_, ?_, trivial⟩
        · exact fun j hj hu T T2 v v2 h hD hz hk hU => (hk 22 (List.mem_singleton.2 rfl)).trans h
        · exact fun j hj hu T T2 v v2 h hD hz hk hU => (hk 23 (List.mem_singleton.2 rfl)).trans h
        · intro j hj hu T T2 v v2 h hD hz hk hU
          exact BB.upd h hU (fun he => by have he2 : (j = 2 ∧ w1.heap.size = w1.heap.size) ∨ (j = 3 ∧ w1.heap.size = w3.heap.size) := he; omega)
        · intro j hj hu T T2 v v2 h hD hz hk hU
          exact BB.upd h hU (fun he => by have he2 : (j = 2 ∧ w3.heap.size = w1.heap.size) ∨ (j = 3 ∧ w3.heap.size = w3.heap.size) := he; omega)
      · refine ⟨fun _ _ _ _ _ _ _ _ _ _ _ => trivial, fun _ _ _ _ _ _ _ _ _ _ _ => trivial, ?_, ?_, trivial⟩
        · exact fun j hj T T2 v v2 h _ hz hk hU => BB.upd h hU (fun he => by have he2 : (j = 2 ∧ w1.heap.size = w1.heap.size) ∨ (j = 3 ∧ w1.heap.size = w3.heap.size) := he; omega)
        · exact fun j hj T T2 v v2 h _ hz hk hU => BB.upd h hU (fun he => by have he2 : (j = 2 ∧ w3.heap.size = w1.heap.size) ∨ (j = 3 ∧ w3.heap.size = w3.heap.size) := he; omega)
      · refine ⟨?_, ?_, ?_, ?_, trivial⟩
        · intro T df v hz hB hd hC
          have qb := hB.1
          have hU := hB.2
          exact ⟨true, want_none rfl, fun _ => .inl ⟨_, _, ex_ld rfl (qb.e (j := 8) rfl) (B7.upd hU (show ¬ (w.heap.size = w1.heap.size ∨ w.heap.size = w3.heap.size) by omega)).ldH, Upd.refl _ _, fun h => absurd h (by decide), fun T2 N => N.s 22 rfl⟩, fun h => absurd h (by decide), fun h => absurd h (by decide)⟩
        · intro T df v hz hB hd hC
          have qb := hB.1
          have hU := hB.2
          exact ⟨true, want_none rfl, fun _ => .inl ⟨_, _, ex_ld rfl (qb.e (j := 8) rfl) (B7.upd hU (show ¬ (w.heap.size = w1.heap.size ∨ w.heap.size = w3.heap.size) by omega)).ldH, Upd.refl _ _, fun h => absurd h (by decide), fun T2 N => N.s 23 rfl⟩, fun h => absurd h (by decide), fun h => absurd h (by decide)⟩
        · intro T df v hz hB hd hC
          have qb := hB.1
          have hU := hB.2
          have p0 : T[22]? = some (gw true (x.val)) := hd 0 (by kernel_rfl) (by kernel_rfl)
          have hq : BB v w1.heap.size 24 (zH.cs) := hC 2 _ rfl (.inl rfl)
          exact ⟨_, want_none rfl, fun _ => .inr (.inl ⟨_, ex_st rfl (qb.e (j := 10) rfl) (ev p0 rfl) (hq.stH rfl _), (upd18 _ _ _ _).sub20 (fun k hk => by have hk2 : k = w1.heap.size := hk; show (2 = 2 ∧ k = w1.heap.size) ∨ (2 = 3 ∧ k = w3.heap.size); omega), fun h => absurd h (by decide), fun T2 N => hq.putH rfl _⟩), fun h => absurd h (by decide), fun h => absurd h (by decide)⟩
        · intro T df v hz hB hd hC
          have qb := hB.1
          have hU := hB.2
          have p1 : T[23]? = some (gw true (x.val)) := hd 1 (by kernel_rfl) (by kernel_rfl)
          have hq : BB v w3.heap.size 24 (zH.cs) := hC 3 _ rfl (.inl rfl)
          exact ⟨_, want_none rfl, fun _ => .inr (.inl ⟨_, ex_st rfl (qb.e (j := 11) rfl) (ev p1 rfl) (hq.stH rfl _), (upd18 _ _ _ _).sub20 (fun k hk => by have hk2 : k = w3.heap.size := hk; show (3 = 2 ∧ k = w1.heap.size) ∨ (3 = 3 ∧ k = w3.heap.size); omega), fun h => absurd h (by decide), fun T2 N => hq.putH rfl _⟩), fun h => absurd h (by decide), fun h => absurd h (by decide)⟩
      intro T v9 hz hB hp ha
      have qb := hB.1
      have U10 := hB.2
      clear hB hz
      clear q7
      have d11 : Below w.heap.size w v9 := d6.trans (U10.below (Nat.le_trans d6.size (Nat.le_refl _)) (fun k hk => by have hk2 : k = w1.heap.size ∨ k = w3.heap.size := hk; omega))
      have zv9 := U10.size
      have B12 : BB v9 w1.heap.size 24 (x.cs) := hp 2 _ rfl (fun k => rfl)
      have B13 : BB v9 w3.heap.size 24 (x.cs) := hp 3 _ rfl (fun k => rfl)
      have q8 := qb
      clear hp ha qb
      go_wp2
      refine bodyPost_ret (resHH rfl (q8.a 10 rfl) (q8.a 11 rfl) B12 B13) rfl ?_
      exact ⟨by rw [HE0.out, hwhh.out]; rfl, d11⟩
  · refine q5.t (.bool false) (ex_bin rfl (q5.e (j := 18) rfl) (q5.e (j := 19) rfl) (eqF20 _ _ (by omega) _)) fun _ q6 => ?_;clear q5
    refine wpList_nil ?_
    go_upto_region 5 with fail
    refine wp_cond_false (q6.e (j := 20) rfl) ?_
    go_upto_region 5 with fail
    refine wp_region_lit ?_
    refine q6.t (.int .i64 ((n : Nat) : Int)) (ex_move rfl (q6.e (j := 1) rfl)) fun _ q7 => ?_;clear q6
    refine vcallP (want_none rfl) (ex_call rfl (by simp only [List.map_toArray, List.map_cons, List.map_nil, (q7.e (j := 30) rfl), evc] <;> rfl) rfl) (rsplit20 n (by omega) (by omega) w5) rfl q7.z (by decide) ?_
    rintro e w7 ⟨rfl, hw7⟩
    refine ⟨_, rfl, q7.k fun _ q8 => ?_⟩;clear q7
    have hw7 := hw7.symm
    subst hw7
    refine q8.t (.int .i64 ((lft n : Nat) : Int)) (ex_assign rfl (q8.e (j := 31) rfl)) fun _ q9 => ?_;clear q8
    refine wpList_nil ?_
    have hb := lft_b (n := n) (by omega)
    have hsa := sa_le n p wh hp1 hp2
    have hk1 : 1 ≤ k := by
      by_cases hp : p ≤ lft n
      · have := sa_l p n wh (by omega) hp; omega
      · have := sa_r p n wh (by omega) h1 hp; omega
    obtain ⟨kq8, ko9, rfl, hkq8, lkq8⟩ := h.place (by rintro rfl; simp at hln; omega)
    have ckq8 := h.cap
    obtain ⟨tp, htp⟩ : ∃ x, P[k - 1]? = some x := ⟨_, List.getElem?_eq_getElem (by omega)⟩
    have hy : P.getD (P.length - 1) zH = tp := by rw [List.getD_eq_getElem?_getD, hln, htp]; rfl
    have HE := hide hy
    clear hy
    have e1 : P.take (k - 1) = P.take (P.length - 1) := by rw [hln]
    have HT := hide e1
    clear e1
    go_upto_region 6 with fail
    refine wp_region_lit ?_
    refine q9.t (.slice (some ⟨kq8, ko9, none⟩) k c) (ex_move rfl (q9.e (j := 4) rfl)) fun _ q10 => ?_;clear q9
    refine q10.t (.int .i64 ((k : Nat) : Int)) (ex_lenG rfl rfl Try.underlying42 (q10.e (j := 32) rfl)) fun _ q11 => ?_;clear q10
    refine q11.t (.int .i64 ((k - 1 : Nat) : Int)) (ex_bin (Y := .int .i64 ((1 : Nat) : Int)) rfl (q11.e (j := 33) rfl) rfl (subP _ _ k 1 (by omega) (by omega) _)) fun _ q12 => ?_;clear q11
    refine q12.t (.int .i64 ((k - 1 : Nat) : Int)) (ex_assign rfl (q12.e (j := 34) rfl)) fun _ q13 => ?_;clear q12
    refine wpList_nil ?_
    go_upto_region 7 with fail
    refine wp_region_lit ?_
    refine q13.t (.int .i64 ((p : Nat) : Int)) (ex_move rfl (q13.e (j := 0) rfl)) fun _ q14 => ?_;clear q13
    refine q14.t (.int .i64 ((lft n : Nat) : Int)) (ex_move rfl (q14.e (j := 12) rfl)) fun _ q15 => ?_;clear q14
    by_cases hp : p ≤ lft n
    · refine q15.t (.bool true) (ex_bin rfl (q15.e (j := 35) rfl) (q15.e (j := 36) rfl) (leT20 _ _ (by omega) _)) fun _ q16 => ?_;clear q15
      refine wpList_nil ?_
      go_upto_region 8 with fail
      refine wp_cond_true (q16.e (j := 37) rfl) ?_
      go_upto_region 8 with fail
      have B10 : BB w5 w.heap.size 24 (x.cs) := ((Bw1.later bw3).later bw5)
      refine vp_start 82 (fun T v => Rp T 82 [(0, gw true (.int .i64 ((p : Nat) : Int))), (1, gw true (.int .i64 ((n : Nat) : Int))), (2, gw true (.bool (wh))), (4, gw true (.slice (some ⟨kq8, ko9, none⟩) k c)), (8, gw true (.pointer (some ⟨w.heap.size, 0, none⟩))), (10, gw true (.pointer (some ⟨w1.heap.size, 0, none⟩))), (11, gw true (.pointer (some ⟨w3.heap.size, 0, none⟩))), (12, gw true (.int .i64 ((lft n : Nat) : Int))), (13, gw true (.int .i64 ((k - 1 : Nat) : Int))), (20, gw true (.bool false)), (37, gw true (.bool true))] ∧ Upd (fun k => False) w5 v) (fun (i : Nat) (T : Array Value) (v : World) => match i with | 0 => T[39]? = some (gw true (.int .i64 ((p : Nat) : Int))) | 1 => T[40]? = some (gw true (.int .i64 ((lft n : Nat) : Int))) | 2 => T[41]? = some (gw true (.bool (wh))) | 3 => T[42]? = some (gw true (x.val)) | 4 => T[43]? = some (gw true (.slice (some ⟨kq8, ko9, none⟩) k c)) | 5 => T[44]? = some (gw true (.int .i64 ((k - 1 : Nat) : Int))) | 6 => T[45]? = some (gw true (.slice (some ⟨kq8, ko9, none⟩) (k - 1) c)) | 7 => T[46]? = some (gw true (.tuple #[((cb x p (lft n) wh (P.take (k - 1))).1).val, ((cb x p (lft n) wh (P.take (k - 1))).2).val])) | 8 => T[38]? = some (gw true (.tuple #[((cb x p (lft n) wh (P.take (k - 1))).1).val, ((cb x p (lft n) wh (P.take (k - 1))).2).val])) | 9 => T[47]? = some (gw true (((cb x p (lft n) wh (P.take (k - 1))).1).val)) | 10 => T[48]? = some (gw true (((cb x p (lft n) wh (P.take (k - 1))).2).val)) | 11 => ∃ b : Nat, T[14]? = some (gw true (.pointer (some ⟨b, 0, none⟩))) ∧ BB v b 24 (zH.cs) ∧ w5.heap.size ≤ b | 12 => ∃ b : Nat, T[15]? = some (gw true (.pointer (some ⟨b, 0, none⟩))) ∧ BB v b 24 (zH.cs) ∧ w5.heap.size ≤ b | 13 => ∃ b : Nat, T[14]? = some (gw true (.pointer (some ⟨b, 0, none⟩))) ∧ BB v b 24 (((cb x p (lft n) wh (P.take (k - 1))).1).cs) ∧ w5.heap.size ≤ b | 14 => ∃ b : Nat, T[15]? = some (gw true (.pointer (some ⟨b, 0, none⟩))) ∧ BB v b 24 (((cb x p (lft n) wh (P.take (k - 1))).2).cs) ∧ w5.heap.size ≤ b | _ => True) (fun (i : Nat) (T : Array Value) (v : World) => match i with | _ => True) (fun j T k => (j = 13 ∧ k = ptr T 14 ∧ w5.heap.size ≤ k) ∨ (j = 14 ∧ k = ptr T 15 ∧ w5.heap.size ≤ k)) (fun i => match i with | 0 => [39] | 1 => [40] | 2 => [41] | 3 => [42] | 4 => [43] | 5 => [44] | 6 => [45] | 7 => [46] | 8 => [38] | 9 => [47] | 10 => [48] | 11 => [14] | 12 => [15] | 13 => [14] | 14 => [15] | _ => []) (fun _ => []) [0, 1, 2, 4, 8, 10, 11, 12, 13, 20, 37] (fun i j => (Nat.beq i 11 && Nat.beq j 13) || (Nat.beq i 12 && Nat.beq j 14)) (fun i => Nat.beq i 11 || Nat.beq i 12) (by kernel_rfl) (by kernel_rfl) q16.z ⟨((((((((((((Rp.nil q16.z).cons (q16.a 37 rfl)).cons (q16.a 20 rfl)).cons (q16.a 13 rfl)).cons (q16.a 12 rfl)).cons (q16.a 11 rfl)).cons (q16.a 10 rfl)).cons (q16.a 8 rfl)).cons (q16.a 4 rfl)).cons (q16.a 2 rfl)).cons (q16.a 1 rfl)).cons (q16.a 0 rfl)), (Upd.refl _ _).drew20⟩ ?_ ?_ ?_ ?_ ?_ ?_
      · exact ⟨trivial, trivial, trivial, trivial, trivial, trivial, trivial, trivial, trivial, trivial, trivial, trivial, trivial, trivial, trivial, trivial⟩
      · intro j T T2 v v2 h _ hz hk hu
        exact ⟨h.1.ch hz hk, h.2.tr20 hu (fun k hk he => by have he2 : (j = 13 ∧ k = ptr T 14 ∧ w5.heap.size ≤ k) ∨ (j = 14 ∧ k = ptr T 15 ∧ w5.heap.size ≤ k) := he; show False; omega)⟩
      · refine ⟨?_, ?_, ?_, ?_, ?_, ?_, ?_, ?_, ?_, ?_, ?_, ?_, ?_, ?_, ?_, trivial⟩
        · exact fun j hj hu T T2 v v2 h hD hz hk hU => (hk 39 (List.mem_singleton.2 rfl)).trans h
        · exact fun j hj hu T T2 v v2 h hD hz hk hU => (hk 40 (List.mem_singleton.2 rfl)).trans h
        · exact fun j hj hu T T2 v v2 h hD hz hk hU => (hk 41 (List.mem_singleton.2 rfl)).trans h
        · exact fun j hj hu T T2 v v2 h hD hz hk hU => (hk 42 (List.mem_singleton.2 rfl)).trans h
        · exact fun j hj hu T T2 v v2 h hD hz hk hU => (hk 43 (List.mem_singleton.2 rfl)).trans h
        · exact fun j hj hu T T2 v v2 h hD hz hk hU => (hk 44 (List.mem_singleton.2 rfl)).trans h
        · exact fun j hj hu T T2 v v2 h hD hz hk hU => (hk 45 (List.mem_singleton.2 rfl)).trans h
        · exact fun j hj hu T T2 v v2 h hD hz hk hU => (hk 46 (List.mem_singleton.2 rfl)).trans h
        · exact fun j hj hu T T2 v v2 h hD hz hk hU => (hk 38 (List.mem_singleton.2 rfl)).trans h
        · exact fun j hj hu T T2 v v2 h hD hz hk hU => (hk 47 (List.mem_singleton.2 rfl)).trans h
        · exact fun j hj hu T T2 v v2 h hD hz hk hU => (hk 48 (List.mem_singleton.2 rfl)).trans h
        · intro j hj hu T T2 v v2 h hD hz hk hU
          obtain ⟨b, pb, Bb, lb⟩ := h
          have e1 : ptr T 14 = b := by unfold ptr; rw [pb]; rfl
          have n14 : j = 14 → b ≠ ptr T 15 := fun e => by subst e; rw [← e1]; exact hD _ _ 11 12 14 15 rfl rfl rfl rfl (by decide) (.inl rfl) (by kernel_rfl) rfl rfl
          have n13 : j ≠ 13 := fun e => by subst e; exact absurd hu (by decide)
          exact ⟨b, (hk 14 (List.mem_singleton.2 rfl)).trans pb, Bb.upd hU (fun he => by have he2 : (j = 13 ∧ b = ptr T 14 ∧ w5.heap.size ≤ b) ∨ (j = 14 ∧ b = ptr T 15 ∧ w5.heap.size ≤ b) := he; omega), lb⟩
        · intro j hj hu T T2 v v2 h hD hz hk hU
          obtain ⟨b, pb, Bb, lb⟩ := h
          have e1 : ptr T 15 = b := by unfold ptr; rw [pb]; rfl
          have n13 : j = 13 → b ≠ ptr T 14 := fun e => by subst e; rw [← e1]; exact hD _ _ 12 11 15 14 rfl rfl rfl rfl (by decide) (.inl rfl) (by kernel_rfl) rfl rfl
          have n14 : j ≠ 14 := fun e => by subst e; exact absurd hu (by decide)
          exact ⟨b, (hk 15 (List.mem_singleton.2 rfl)).trans pb, Bb.upd hU (fun he => by have he2 : (j = 13 ∧ b = ptr T 14 ∧ w5.heap.size ≤ b) ∨ (j = 14 ∧ b = ptr T 15 ∧ w5.heap.size ≤ b) := he; omega), lb⟩
        · intro j hj hu T T2 v v2 h hD hz hk hU
          obtain ⟨b, pb, Bb, lb⟩ := h
          have e1 : ptr T 14 = b := by unfold ptr; rw [pb]; rfl
          have n14 : j = 14 → b ≠ ptr T 15 := fun e => by subst e; rw [← e1]; exact hD _ _ 11 12 14 15 rfl rfl rfl rfl (by decide) (.inr (by kernel_rfl)) (by kernel_rfl) rfl rfl
          exact ⟨b, (hk 14 (List.mem_singleton.2 rfl)).trans pb, Bb.upd hU (fun he => by have he2 : (j = 13 ∧ b = ptr T 14 ∧ w5.heap.size ≤ b) ∨ (j = 14 ∧ b = ptr T 15 ∧ w5.heap.size ≤ b) := he; omega), lb⟩
        · intro j hj hu T T2 v v2 h hD hz hk hU
          obtain ⟨b, pb, Bb, lb⟩ := h
          have e1 : ptr T 15 = b := by unfold ptr; rw [pb]; rfl
          have n13 : j = 13 → b ≠ ptr T 14 := fun e => by subst e; rw [← e1]; exact hD _ _ 12 11 15 14 rfl rfl rfl rfl (by decide) (.inr (by kernel_rfl)) (by kernel_rfl) rfl rfl
          exact ⟨b, (hk 15 (List.mem_singleton.2 rfl)).trans pb, Bb.upd hU (fun he => by have he2 : (j = 13 ∧ b = ptr T 14 ∧ w5.heap.size ≤ b) ∨ (j = 14 ∧ b = ptr T 15 ∧ w5.heap.size ≤ b) := he; omega), lb⟩
      · refine ⟨fun _ _ _ _ _ _ _ _ _ _ _ => trivial, fun _ _ _ _ _ _ _ _ _ _ _ => trivial, fun _ _ _ _ _ _ _ _ _ _ _ => trivial, fun _ _ _ _ _ _ _ _ _ _ _ => trivial, fun _ _ _ _ _ _ _ _ _ _ _ => trivial, fun _ _ _ _ _ _ _ _ _ _ _ => trivial, fun _ _ _ _ _ _ _ _ _ _ _ => trivial, fun _ _ _ _ _ _ _ _ _ _ _ => trivial, fun _ _ _ _ _ _ _ _ _ _ _ => trivial, fun _ _ _ _ _ _ _ _ _ _ _ => trivial, fun _ _ _ _ _ _ _ _ _ _ _ => trivial, fun _ _ _ _ _ _ _ _ _ _ _ => trivial, fun _ _ _ _ _ _ _ _ _ _ _ => trivial, fun _ _ _ _ _ _ _ _ _ _ _ => trivial, fun _ _ _ _ _ _ _ _ _ _ _ => trivial, trivial⟩
      · refine ⟨?_, ?_, ?_, ?_, ?_, ?_, ?_, ?_, ?_, ?_, ?_, ?_, ?_, ?_, ?_, trivial⟩
        · intro T df v hz hB hd hC
          have qb := hB.1
          have hU := hB.2
          exact ⟨true, want_none rfl, fun _ => .inl ⟨_, _, ex_move rfl (qb.e (j := 0) rfl), Upd.refl _ _, fun h => absurd h (by decide), fun T2 N => N.s 39 rfl⟩, fun h => absurd h (by decide), fun h => absurd h (by decide)⟩
        · intro T df v hz hB hd hC
          have qb := hB.1
          have hU := hB.2
          exact ⟨true, want_none rfl, fun _ => .inl ⟨_, _, ex_move rfl (qb.e (j := 12) rfl), Upd.refl _ _, fun h => absurd h (by decide), fun T2 N => N.s 40 rfl⟩, fun h => absurd h (by decide), fun h => absurd h (by decide)⟩
        · intro T df v hz hB hd hC
          have qb := hB.1
          have hU := hB.2
          exact ⟨true, want_none rfl, fun _ => .inl ⟨_, _, ex_move rfl (qb.e (j := 2) rfl), Upd.refl _ _, fun h => absurd h (by decide), fun T2 N => N.s 41 rfl⟩, fun h => absurd h (by decide), fun h => absurd h (by decide)⟩
        · intro T df v hz hB hd hC
          have qb := hB.1
          have hU := hB.2
          exact ⟨true, want_none rfl, fun _ => .inl ⟨_, _, ex_ld rfl (qb.e (j := 8) rfl) (B10.upd hU (show ¬ False from id)).ldH, Upd.refl _ _, fun h => absurd h (by decide), fun T2 N => N.s 42 rfl⟩, fun h => absurd h (by decide), fun h => absurd h (by decide)⟩
        · intro T df v hz hB hd hC
          have qb := hB.1
          have hU := hB.2
          exact ⟨true, want_none rfl, fun _ => .inl ⟨_, _, ex_move rfl (qb.e (j := 4) rfl), Upd.refl _ _, fun h => absurd h (by decide), fun T2 N => N.s 43 rfl⟩, fun h => absurd h (by decide), fun h => absurd h (by decide)⟩
        · intro T df v hz hB hd hC
          have qb := hB.1
          have hU := hB.2
          exact ⟨true, want_none rfl, fun _ => .inl ⟨_, _, ex_move rfl (qb.e (j := 13) rfl), Upd.refl _ _, fun h => absurd h (by decide), fun T2 N => N.s 44 rfl⟩, fun h => absurd h (by decide), fun h => absurd h (by decide)⟩
        · intro T df v hz hB hd hC
          have qb := hB.1
          have hU := hB.2
          have p4 : T[43]? = some (gw true (.slice (some ⟨kq8, ko9, none⟩) k c)) := hd 4 (by kernel_rfl) (by kernel_rfl)
          have p5 : T[44]? = some (gw true (.int .i64 ((k - 1 : Nat) : Int))) := hd 5 (by kernel_rfl) (by kernel_rfl)
          exact ⟨true, want_none rfl, fun _ => .inl ⟨_, _, ex_sl19 rfl (ev p4 rfl) rfl (congrArg some (ev p5 rfl)) rfl (slToH kq8 ko9 k c (k - 1) (by omega) (ckq8) _), Upd.refl _ _, fun h => absurd h (by decide), fun T2 N => N.s 45 rfl⟩, fun h => absurd h (by decide), fun h => absurd h (by decide)⟩
        · intro T df v hz hB hd hC
          have qb := hB.1
          have hU := hB.2
          have D : Below w.heap.size w v := d6.trans (hU.below d6.size (fun k hk => hk.elim))
          have p0 : T[39]? = some (gw true (.int .i64 ((p : Nat) : Int))) := hd 0 (by kernel_rfl) (by kernel_rfl)
          have p1 : T[40]? = some (gw true (.int .i64 ((lft n : Nat) : Int))) := hd 1 (by kernel_rfl) (by kernel_rfl)
          have p2 : T[41]? = some (gw true (.bool (wh))) := hd 2 (by kernel_rfl) (by kernel_rfl)
          have p3 : T[42]? = some (gw true (x.val)) := hd 3 (by kernel_rfl) (by kernel_rfl)
          have p6 : T[45]? = some (gw true (.slice (some ⟨kq8, ko9, none⟩) (k - 1) c)) := hd 6 (by kernel_rfl) (by kernel_rfl)
          refine ⟨true, want_none rfl, fun hc => .inr (.inr ⟨_, _, _, ex_call rfl (by simp only [List.map_toArray, List.map_cons, List.map_nil, (ev p0 rfl), (ev p1 rfl), (ev p2 rfl), (ev p3 rfl), (ev p6 rfl), evc] <;> rfl) rfl, ih x p (lft n) wh (P.take (k - 1)) _ _ _ v ((h.later D).take (k - 1) (by omega)) (by have := sa_l p n wh (by omega) hp; omega) (by omega) (by omega) (by omega) (by omega), ?_⟩), fun _ => rfl, fun h => absurd h (by decide)⟩
          rintro e w9 ⟨rfl, b9⟩
          exact ⟨_, rfl, Upd.of_below b9, fun h => absurd h (by decide), fun T2 N => N.s 46 rfl⟩
        · intro T df v hz hB hd hC
          have qb := hB.1
          have hU := hB.2
          have p7 : T[46]? = some (gw true (.tuple #[((cb x p (lft n) wh (P.take (k - 1))).1).val, ((cb x p (lft n) wh (P.take (k - 1))).2).val])) := hd 7 (by kernel_rfl) (by kernel_rfl)
          exact ⟨true, want_none rfl, fun _ => .inl ⟨_, _, ex_move rfl (ev p7 rfl), Upd.refl _ _, fun h => absurd h (by decide), fun T2 N => N.s 38 rfl⟩, fun h => absurd h (by decide), fun h => absurd h (by decide)⟩
        · intro T df v hz hB hd hC
          have qb := hB.1
          have hU := hB.2
          have p8 : T[38]? = some (gw true (.tuple #[((cb x p (lft n) wh (P.take (k - 1))).1).val, ((cb x p (lft n) wh (P.take (k - 1))).2).val])) := hd 8 (by kernel_rfl) (by kernel_rfl)
          exact ⟨true, want_none rfl, fun _ => .inl ⟨_, _, ex_ext18 rfl (ev p8 rfl) rfl, Upd.refl _ _, fun h => absurd h (by decide), fun T2 N => N.s 47 rfl⟩, fun h => absurd h (by decide), fun h => absurd h (by decide)⟩
        · intro T df v hz hB hd hC
          have qb := hB.1
          have hU := hB.2
          have p8 : T[38]? = some (gw true (.tuple #[((cb x p (lft n) wh (P.take (k - 1))).1).val, ((cb x p (lft n) wh (P.take (k - 1))).2).val])) := hd 8 (by kernel_rfl) (by kernel_rfl)
          exact ⟨true, want_none rfl, fun _ => .inl ⟨_, _, ex_ext18 rfl (ev p8 rfl) rfl, Upd.refl _ _, fun h => absurd h (by decide), fun T2 N => N.s 48 rfl⟩, fun h => absurd h (by decide), fun h => absurd h (by decide)⟩
        · intro T df v hz hB hd hC
          have qb := hB.1
          have hU := hB.2
          exact ⟨_, want_none rfl, fun _ => .inl ⟨_, _, ex_al rfl (alH _), Upd.of_below ((Below.refl _ _).alloc (Nat.le_refl _) _), fun _ => ⟨_, rfl, Nat.le_refl _, by rw [World.size_alloc]; exact Nat.lt_succ_self _⟩, fun T2 N => ⟨_, N.s 14 rfl, BB.new _ _ _, hU.size⟩⟩, fun h => absurd h (by decide), fun h => absurd h (by decide)⟩
        · intro T df v hz hB hd hC
          have qb := hB.1
          have hU := hB.2
          exact ⟨_, want_none rfl, fun _ => .inl ⟨_, _, ex_al rfl (alH _), Upd.of_below ((Below.refl _ _).alloc (Nat.le_refl _) _), fun _ => ⟨_, rfl, Nat.le_refl _, by rw [World.size_alloc]; exact Nat.lt_succ_self _⟩, fun T2 N => ⟨_, N.s 15 rfl, BB.new _ _ _, hU.size⟩⟩, fun h => absurd h (by decide), fun h => absurd h (by decide)⟩
        · intro T df v hz hB hd hC
          have qb := hB.1
          have hU := hB.2
          have p9 : T[47]? = some (gw true (((cb x p (lft n) wh (P.take (k - 1))).1).val)) := hd 9 (by kernel_rfl) (by kernel_rfl)
          have p11 : ∃ b : Nat, T[14]? = some (gw true (.pointer (some ⟨b, 0, none⟩))) ∧ BB v b 24 (zH.cs) ∧ w5.heap.size ≤ b := hd 11 (by kernel_rfl) (by kernel_rfl)
          obtain ⟨b, pb, Bb, lb⟩ := p11
          have e1 : ptr T 14 = b := by unfold ptr; rw [pb]; rfl
          exact ⟨_, want_none rfl, fun _ => .inr (.inl ⟨_, ex_st rfl (ev pb rfl) (ev p9 rfl) (Bb.stH rfl _), (upd18 _ _ _ _).sub20 (fun k hk => by have hk2 : k = b := hk; show (13 = 13 ∧ k = ptr T 14 ∧ w5.heap.size ≤ k) ∨ (13 = 14 ∧ k = ptr T 15 ∧ w5.heap.size ≤ k); omega), fun h => absurd h (by decide), fun T2 N => ⟨b, (N.k 14 rfl).trans pb, Bb.putH rfl _, lb⟩⟩), fun h => absurd h (by decide), fun h => absurd h (by decide)⟩
        · intro T df v hz hB hd hC
          have qb := hB.1
          have hU := hB.2
          have p10 : T[48]? = some (gw true (((cb x p (lft n) wh (P.take (k - 1))).2).val)) := hd 10 (by kernel_rfl) (by kernel_rfl)
          have p12 : ∃ b : Nat, T[15]? = some (gw true (.pointer (some ⟨b, 0, none⟩))) ∧ BB v b 24 (zH.cs) ∧ w5.heap.size ≤ b := hd 12 (by kernel_rfl) (by kernel_rfl)
          obtain ⟨b, pb, Bb, lb⟩ := p12
          have e1 : ptr T 15 = b := by unfold ptr; rw [pb]; rfl
          exact ⟨_, want_none rfl, fun _ => .inr (.inl ⟨_, ex_st rfl (ev pb rfl) (ev p10 rfl) (Bb.stH rfl _), (upd18 _ _ _ _).sub20 (fun k hk => by have hk2 : k = b := hk; show (14 = 13 ∧ k = ptr T 14 ∧ w5.heap.size ≤ k) ∨ (14 = 14 ∧ k = ptr T 15 ∧ w5.heap.size ≤ k); omega), fun h => absurd h (by decide), fun T2 N => ⟨b, (N.k 15 rfl).trans pb, Bb.putH rfl _, lb⟩⟩), fun h => absurd h (by decide), fun h => absurd h (by decide)⟩
      intro T v11 hz hB hp ha
      have qb := hB.1
      have U12 := hB.2
      clear hB hz
      clear q16
      have d13 : Below w.heap.size w v11 := d6.trans (U12.below (Nat.le_trans d6.size (Nat.le_refl _)) (fun k hk => hk.elim))
      have zv11 := U12.size
      obtain ⟨b14, p13, Bb14, lb14⟩ : ∃ b : Nat, T[14]? = some (gw true (.pointer (some ⟨b, 0, none⟩))) ∧ BB v11 b 24 (((cb x p (lft n) wh (P.take (k - 1))).1).cs) ∧ w5.heap.size ≤ b := hp 13 _ rfl (fun k => rfl)
      have ltb14 := Bb14.lt
      obtain ⟨b15, p14, Bb15, lb15⟩ : ∃ b : Nat, T[15]? = some (gw true (.pointer (some ⟨b, 0, none⟩))) ∧ BB v11 b 24 (((cb x p (lft n) wh (P.take (k - 1))).2).cs) ∧ w5.heap.size ≤ b := hp 14 _ rfl (fun k => rfl)
      have ltb15 := Bb15.lt
      have nb14b15 : b14 ≠ b15 := by
        have := ha 11 12 _ _ 14 15 rfl rfl rfl rfl (by decide) rfl rfl
        unfold ptr at this
        rw [p13, p14] at this
        exact this
      have q17 := ((qb.cons p13).cons p14)
      clear hp ha qb p13 p14
      go_upto_region 9 with fail
      have B16 : BB v11 w1.heap.size 24 (zH.cs) := ((Bw3.later bw5).upd U12 (show ¬ False from id))
      have B17 : BB v11 w3.heap.size 24 (zH.cs) := (Bw5.upd U12 (show ¬ False from id))
      refine vp_start 82 (fun T v => Rp T 82 [(0, gw true (.int .i64 ((p : Nat) : Int))), (1, gw true (.int .i64 ((n : Nat) : Int))), (4, gw true (.slice (some ⟨kq8, ko9, none⟩) k c)), (8, gw true (.pointer (some ⟨w.heap.size, 0, none⟩))), (10, gw true (.pointer (some ⟨w1.heap.size, 0, none⟩))), (11, gw true (.pointer (some ⟨w3.heap.size, 0, none⟩))), (12, gw true (.int .i64 ((lft n : Nat) : Int))), (13, gw true (.int .i64 ((k - 1 : Nat) : Int))), (14, gw true (.pointer (some ⟨b14, 0, none⟩))), (15, gw true (.pointer (some ⟨b15, 0, none⟩))), (20, gw true (.bool false)), (37, gw true (.bool true))] ∧ Upd (fun k => k = w1.heap.size ∨ k = w3.heap.size) v11 v) (fun (i : Nat) (T : Array Value) (v : World) => match i with | 0 => T[49]? = some (gw true (((cb x p (lft n) wh (P.take (k - 1))).1).val)) | 1 => T[50]? = some (gw true (((cb x p (lft n) wh (P.take (k - 1))).2).val)) | 2 => T[51]? = some (gw true (.slice (some ⟨kq8, ko9, none⟩) k c)) | 3 => T[52]? = some (gw true (.int .i64 ((k - 1 : Nat) : Int))) | 4 => T[53]? = some (gw true (.pointer (some ⟨kq8, ko9 + (k - 1) * 32, none⟩))) | 5 => T[54]? = some (gw true (tp.val)) | 6 => T[55]? = some (gw true ((nd ((cb x p (lft n) wh (P.take (k - 1))).2) tp).val)) | 7 => BB v w1.heap.size 24 (((cb x p (lft n) wh (P.take (k - 1))).1).cs) | 8 => BB v w3.heap.size 24 ((nd ((cb x p (lft n) wh (P.take (k - 1))).2) tp).cs) | _ => True) (fun (i : Nat) (T : Array Value) (v : World) => match i with | 7 => BB v w1.heap.size 24 (zH.cs) | 8 => BB v w3.heap.size 24 (zH.cs) | _ => True) (fun j T k => (j = 7 ∧ k = w1.heap.size) ∨ (j = 8 ∧ k = w3.heap.size)) (fun i => match i with | 0 => [49] | 1 => [50] | 2 => [51] | 3 => [52] | 4 => [53] | 5 => [54] | 6 => [55] | 7 => [] | 8 => [] | _ => []) (fun _ => []) [0, 1, 4, 8, 10, 11, 12, 13, 14, 15, 20, 37] (fun i j => false) (fun i => false) (by kernel_rfl) (by kernel_rfl) q17.z ⟨(((((((((((((Rp.nil q17.z).cons (q17.a 37 rfl)).cons (q17.a 20 rfl)).cons (q17.a 15 rfl)).cons (q17.a 14 rfl)).cons (q17.a 13 rfl)).cons (q17.a 12 rfl)).cons (q17.a 11 rfl)).cons (q17.a 10 rfl)).cons (q17.a 8 rfl)).cons (q17.a 4 rfl)).cons (q17.a 1 rfl)).cons (q17.a 0 rfl)), (Upd.refl _ _).drew20⟩ ?_ ?_ ?_ ?_ ?_ ?_
      · exact ⟨trivial, trivial, trivial, trivial, trivial, trivial, trivial, B16.later (Below.refl _ _).drew, B17.later (Below.refl _ _).drew, trivial⟩
      · intro j T T2 v v2 h _ hz hk hu
        exact ⟨h.1.ch hz hk, h.2.tr20 hu (fun k hk he => by have he2 : (j = 7 ∧ k = w1.heap.size) ∨ (j = 8 ∧ k = w3.heap.size) := he; show k = w1.heap.size ∨ k = w3.heap.size; omega)⟩
      · refine ⟨?_, ?_, ?_, ?_, ?_, ?_, ?_, ?_, ?_, trivial⟩
        · exact fun j hj hu T T2 v v2 h hD hz hk hU => (hk 49 (List.mem_singleton.2 rfl)).trans h
        · exact fun j hj hu T T2 v v2 h hD hz hk hU => (hk 50 (List.mem_singleton.2 rfl)).trans h
        · exact fun j hj hu T T2 v v2 h hD hz hk hU => (hk 51 (List.mem_singleton.2 rfl)).trans h
        · exact fun j hj hu T T2 v v2 h hD hz hk hU => (hk 52 (List.mem_singleton.2 rfl)).trans h
        · exact fun j hj hu T T2 v v2 h hD hz hk hU => (hk 53 (List.mem_singleton.2 rfl)).trans h
        · exact fun j hj hu T T2 v v2 h hD hz hk hU => (hk 54 (List.mem_singleton.2 rfl)).trans h
        · exact fun j hj hu T T2 v v2 h hD hz hk hU => (hk 55 (List.mem_singleton.2 rfl)).trans h
        · intro j hj hu T T2 v v2 h hD hz hk hU
          exact BB.upd h hU (fun he => by have he2 : (j = 7 ∧ w1.heap.size = w1.heap.size) ∨ (j = 8 ∧ w1.heap.size = w3.heap.size) := he; omega)
        · intro j hj hu T T2 v v2 h hD hz hk hU
          exact BB.upd h hU (fun he => by have he2 : (j = 7 ∧ w3.heap.size = w1.heap.size) ∨ (j = 8 ∧ w3.heap.size = w3.heap.size) := he; omega)
      · refine ⟨fun _ _ _ _ _ _ _ _ _ _ _ => trivial, fun _ _ _ _ _ _ _ _ _ _ _ => trivial, fun _ _ _ _ _ _ _ _ _ _ _ => trivial, fun _ _ _ _ _ _ _ _ _ _ _ => trivial, fun _ _ _ _ _ _ _ _ _ _ _ => trivial, fun _ _ _ _ _ _ _ _ _ _ _ => trivial, fun _ _ _ _ _ _ _ _ _ _ _ => trivial, ?_, ?_, trivial⟩
        · exact fun j hj T T2 v v2 h _ hz hk hU => BB.upd h hU (fun he => by have he2 : (j = 7 ∧ w1.heap.size = w1.heap.size) ∨ (j = 8 ∧ w1.heap.size = w3.heap.size) := he; omega)
        · exact fun j hj T T2 v v2 h _ hz hk hU => BB.upd h hU (fun he => by have he2 : (j = 7 ∧ w3.heap.size = w1.heap.size) ∨ (j = 8 ∧ w3.heap.size = w3.heap.size) := he; omega)
      · refine ⟨?_, ?_, ?_, ?_, ?_, ?_, ?_, ?_, ?_, trivial⟩
        · intro T df v hz hB hd hC
          have qb := hB.1
          have hU := hB.2
          exact ⟨true, want_none rfl, fun _ => .inl ⟨_, _, ex_ld rfl (qb.e (j := 14) rfl) (Bb14.upd hU (show ¬ (b14 = w1.heap.size ∨ b14 = w3.heap.size) by omega)).ldH, Upd.refl _ _, fun h => absurd h (by decide), fun T2 N => N.s 49 rfl⟩, fun h => absurd h (by decide), fun h => absurd h (by decide)⟩
        · intro T df v hz hB hd hC
          have qb := hB.1
          have hU := hB.2
          exact ⟨true, want_none rfl, fun _ => .inl ⟨_, _, ex_ld rfl (qb.e (j := 15) rfl) (Bb15.upd hU (show ¬ (b15 = w1.heap.size ∨ b15 = w3.heap.size) by omega)).ldH, Upd.refl _ _, fun h => absurd h (by decide), fun T2 N => N.s 50 rfl⟩, fun h => absurd h (by decide), fun h => absurd h (by decide)⟩
        · intro T df v hz hB hd hC
          have qb := hB.1
          have hU := hB.2
          exact ⟨true, want_none rfl, fun _ => .inl ⟨_, _, ex_move rfl (qb.e (j := 4) rfl), Upd.refl _ _, fun h => absurd h (by decide), fun T2 N => N.s 51 rfl⟩, fun h => absurd h (by decide), fun h => absurd h (by decide)⟩
        · intro T df v hz hB hd hC
          have qb := hB.1
          have hU := hB.2
          exact ⟨true, want_none rfl, fun _ => .inl ⟨_, _, ex_move rfl (qb.e (j := 13) rfl), Upd.refl _ _, fun h => absurd h (by decide), fun T2 N => N.s 52 rfl⟩, fun h => absurd h (by decide), fun h => absurd h (by decide)⟩
        · intro T df v hz hB hd hC
          have qb := hB.1
          have hU := hB.2
          have p2 : T[51]? = some (gw true (.slice (some ⟨kq8, ko9, none⟩) k c)) := hd 2 (by kernel_rfl) (by kernel_rfl)
          have p3 : T[52]? = some (gw true (.int .i64 ((k - 1 : Nat) : Int))) := hd 3 (by kernel_rfl) (by kernel_rfl)
          exact ⟨true, want_none rfl, fun _ => .inl ⟨_, _, ex_ix rfl (ev p2 rfl) (ev p3 rfl) (ixH kq8 ko9 k c (k - 1) (by omega) _), Upd.refl _ _, fun h => absurd h (by decide), fun T2 N => N.s 53 rfl⟩, fun h => absurd h (by decide), fun h => absurd h (by decide)⟩
        · intro T df v hz hB hd hC
          have qb := hB.1
          have hU := hB.2
          have D : Below w.heap.size w v := d13.trans (hU.below d13.size (fun k hk => by have hk2 : k = w1.heap.size ∨ k = w3.heap.size := hk; omega))
          have p4 : T[53]? = some (gw true (.pointer (some ⟨kq8, ko9 + (k - 1) * 32, none⟩))) := hd 4 (by kernel_rfl) (by kernel_rfl)
          exact ⟨true, want_none rfl, fun _ => .inl ⟨_, _, ex_ld rfl (ev p4 rfl) (ldH20 (lkq8.upd (S := fun _ => False) (Upd.of_below D) hkq8 id) htp), Upd.refl _ _, fun h => absurd h (by decide), fun T2 N => N.s 54 rfl⟩, fun h => absurd h (by decide), fun h => absurd h (by decide)⟩
        · intro T df v hz hB hd hC
          have qb := hB.1
          have hU := hB.2
          have p1 : T[50]? = some (gw true (((cb x p (lft n) wh (P.take (k - 1))).2).val)) := hd 1 (by kernel_rfl) (by kernel_rfl)
          have p5 : T[54]? = some (gw true (tp.val)) := hd 5 (by kernel_rfl) (by kernel_rfl)
          refine ⟨true, want_none rfl, fun hc => .inr (.inr ⟨_, _, _, ex_call rfl (by simp only [List.map_toArray, List.map_cons, List.map_nil, (ev p1 rfl), (ev p5 rfl), evc] <;> rfl) rfl, rnode20 ((cb x p (lft n) wh (P.take (k - 1))).2) tp v, ?_⟩), fun _ => rfl, fun h => absurd h (by decide)⟩
          rintro e w9 ⟨rfl, b9⟩
          exact ⟨_, rfl, Upd.of_below b9, fun h => absurd h (by decide), fun T2 N => N.s 55 rfl⟩
        · intro T df v hz hB hd hC
          have qb := hB.1
          have hU := hB.2
          have p0 : T[49]? = some (gw true (((cb x p (lft n) wh (P.take (k - 1))).1).val)) := hd 0 (by kernel_rfl) (by kernel_rfl)
          have hq : BB v w1.heap.size 24 (zH.cs) := hC 7 _ rfl (.inl rfl)
          exact ⟨_, want_none rfl, fun _ => .inr (.inl ⟨_, ex_st rfl (qb.e (j := 10) rfl) (ev p0 rfl) (hq.stH rfl _), (upd18 _ _ _ _).sub20 (fun k hk => by have hk2 : k = w1.heap.size := hk; show (7 = 7 ∧ k = w1.heap.size) ∨ (7 = 8 ∧ k = w3.heap.size); omega), fun h => absurd h (by decide), fun T2 N => hq.putH rfl _⟩), fun h => absurd h (by decide), fun h => absurd h (by decide)⟩
        · intro T df v hz hB hd hC
          have qb := hB.1
          have hU := hB.2
          have p6 : T[55]? = some (gw true ((nd ((cb x p (lft n) wh (P.take (k - 1))).2) tp).val)) := hd 6 (by kernel_rfl) (by kernel_rfl)
          have hq : BB v w3.heap.size 24 (zH.cs) := hC 8 _ rfl (.inl rfl)
          exact ⟨_, want_none rfl, fun _ => .inr (.inl ⟨_, ex_st rfl (qb.e (j := 11) rfl) (ev p6 rfl) (hq.stH rfl _), (upd18 _ _ _ _).sub20 (fun k hk => by have hk2 : k = w3.heap.size := hk; show (8 = 7 ∧ k = w1.heap.size) ∨ (8 = 8 ∧ k = w3.heap.size); omega), fun h => absurd h (by decide), fun T2 N => hq.putH rfl _⟩), fun h => absurd h (by decide), fun h => absurd h (by decide)⟩
      intro T v18 hz hB hp ha
      have qb := hB.1
      have U19 := hB.2
      clear hB hz
      clear q17
      have d20 : Below w.heap.size w v18 := d13.trans (U19.below (Nat.le_trans d13.size (Nat.le_refl _)) (fun k hk => by have hk2 : k = w1.heap.size ∨ k = w3.heap.size := hk; omega))
      have zv18 := U19.size
      have B21 : BB v18 w1.heap.size 24 (((cb x p (lft n) wh (P.take (k - 1))).1).cs) := hp 7 _ rfl (fun k => rfl)
      have B22 : BB v18 w3.heap.size 24 ((nd ((cb x p (lft n) wh (P.take (k - 1))).2) tp).cs) := hp 8 _ rfl (fun k => rfl)
      have q18 := qb
      clear hp ha qb
      go_wp2
      refine bodyPost_ret (resHH rfl (q18.a 10 rfl) (q18.a 11 rfl) B21 B22) rfl ?_
      exact ⟨by rw [cb_l x p n wh P (by omega) hp, HE.out, ← HT.out], d20⟩
    · refine q15.t (.bool false) (ex_bin rfl (q15.e (j := 35) rfl) (q15.e (j := 36) rfl) (leF20 _ _ (by omega) _)) fun _ q16 => ?_;clear q15
      refine wpList_nil ?_
      go_upto_region 10 with fail
      refine wp_cond_false (q16.e (j := 37) rfl) ?_
      go_upto_region 10 with fail
      have B10 : BB w5 w.heap.size 24 (x.cs) := ((Bw1.later bw3).later bw5)
      refine vp_start 82 (fun T v => Rp T 82 [(0, gw true (.int .i64 ((p : Nat) : Int))), (1, gw true (.int .i64 ((n : Nat) : Int))), (4, gw true (.slice (some ⟨kq8, ko9, none⟩) k c)), (8, gw true (.pointer (some ⟨w.heap.size, 0, none⟩))), (10, gw true (.pointer (some ⟨w1.heap.size, 0, none⟩))), (11, gw true (.pointer (some ⟨w3.heap.size, 0, none⟩))), (12, gw true (.int .i64 ((lft n : Nat) : Int))), (13, gw true (.int .i64 ((k - 1 : Nat) : Int))), (20, gw true (.bool false)), (37, gw true (.bool false))] ∧ Upd (fun k => False) w5 v) (fun (i : Nat) (T : Array Value) (v : World) => match i with | 0 => T[57]? = some (gw true (.int .i64 ((p : Nat) : Int))) | 1 => T[58]? = some (gw true (.int .i64 ((lft n : Nat) : Int))) | 2 => T[59]? = some (gw true (.int .i64 ((p - (lft n) : Nat) : Int))) | 3 => T[60]? = some (gw true (.int .i64 ((n : Nat) : Int))) | 4 => T[61]? = some (gw true (.int .i64 ((lft n : Nat) : Int))) | 5 => T[62]? = some (gw true (.int .i64 ((n - (lft n) : Nat) : Int))) | 6 => T[63]? = some (gw true (x.val)) | 7 => T[64]? = some (gw true (.slice (some ⟨kq8, ko9, none⟩) k c)) | 8 => T[65]? = some (gw true (.int .i64 ((k - 1 : Nat) : Int))) | 9 => T[66]? = some (gw true (.slice (some ⟨kq8, ko9, none⟩) (k - 1) c)) | 10 => T[67]? = some (gw true (.tuple #[((cb x (p - (lft n)) (n - (lft n)) false (P.take (k - 1))).1).val, ((cb x (p - (lft n)) (n - (lft n)) false (P.take (k - 1))).2).val])) | 11 => T[56]? = some (gw true (.tuple #[((cb x (p - (lft n)) (n - (lft n)) false (P.take (k - 1))).1).val, ((cb x (p - (lft n)) (n - (lft n)) false (P.take (k - 1))).2).val])) | 12 => T[68]? = some (gw true (((cb x (p - (lft n)) (n - (lft n)) false (P.take (k - 1))).1).val)) | 13 => T[69]? = some (gw true (((cb x (p - (lft n)) (n - (lft n)) false (P.take (k - 1))).2).val)) | 14 => ∃ b : Nat, T[16]? = some (gw true (.pointer (some ⟨b, 0, none⟩))) ∧ BB v b 24 (zH.cs) ∧ w5.heap.size ≤ b | 15 => ∃ b : Nat, T[17]? = some (gw true (.pointer (some ⟨b, 0, none⟩))) ∧ BB v b 24 (zH.cs) ∧ w5.heap.size ≤ b | 16 => ∃ b : Nat, T[16]? = some (gw true (.pointer (some ⟨b, 0, none⟩))) ∧ BB v b 24 (((cb x (p - (lft n)) (n - (lft n)) false (P.take (k - 1))).1).cs) ∧ w5.heap.size ≤ b | 17 => ∃ b : Nat, T[17]? = some (gw true (.pointer (some ⟨b, 0, none⟩))) ∧ BB v b 24 (((cb x (p - (lft n)) (n - (lft n)) false (P.take (k - 1))).2).cs) ∧ w5.heap.size ≤ b | _ => True) (fun (i : Nat) (T : Array Value) (v : World) => match i with | _ => True) (fun j T k => (j = 16 ∧ k = ptr T 16 ∧ w5.heap.size ≤ k) ∨ (j = 17 ∧ k = ptr T 17 ∧ w5.heap.size ≤ k)) (fun i => match i with | 0 => [57] | 1 => [58] | 2 => [59] | 3 => [60] | 4 => [61] | 5 => [62] | 6 => [63] | 7 => [64] | 8 => [65] | 9 => [66] | 10 => [67] | 11 => [56] | 12 => [68] | 13 => [69] | 14 => [16] | 15 => [17] | 16 => [16] | 17 => [17] | _ => []) (fun _ => []) [0, 1, 4, 8, 10, 11, 12, 13, 20, 37] (fun i j => (Nat.beq i 14 && Nat.beq j 16) || (Nat.beq i 15 && Nat.beq j 17)) (fun i => Nat.beq i 14 || Nat.beq i 15) (by kernel_rfl) (by kernel_rfl) q16.z ⟨(((((((((((Rp.nil q16.z).cons (q16.a 37 rfl)).cons (q16.a 20 rfl)).cons (q16.a 13 rfl)).cons (q16.a 12 rfl)).cons (q16.a 11 rfl)).cons (q16.a 10 rfl)).cons (q16.a 8 rfl)).cons (q16.a 4 rfl)).cons (q16.a 1 rfl)).cons (q16.a 0 rfl)), (Upd.refl _ _).drew20⟩ ?_ ?_ ?_ ?_ ?_ ?_
      · exact ⟨trivial, trivial, trivial, trivial, trivial, trivial, trivial, trivial, trivial, trivial, trivial, trivial, trivial, trivial, trivial, trivial, trivial, trivial, trivial⟩
      · intro j T T2 v v2 h _ hz hk hu
        exact ⟨h.1.ch hz hk, h.2.tr20 hu (fun k hk he => by have he2 : (j = 16 ∧ k = ptr T 16 ∧ w5.heap.size ≤ k) ∨ (j = 17 ∧ k = ptr T 17 ∧ w5.heap.size ≤ k) := he; show False; omega)⟩
      · refine ⟨?_, ?_, ?_, ?_, ?_, ?_, ?_, ?_, ?_, ?_, ?_, ?_, ?_, ?_, ?_, ?_, ?_, ?_, trivial⟩
        · exact fun j hj hu T T2 v v2 h hD hz hk hU => (hk 57 (List.mem_singleton.2 rfl)).trans h
        · exact fun j hj hu T T2 v v2 h hD hz hk hU => (hk 58 (List.mem_singleton.2 rfl)).trans h
        · exact fun j hj hu T T2 v v2 h hD hz hk hU => (hk 59 (List.mem_singleton.2 rfl)).trans h
        · exact fun j hj hu T T2 v v2 h hD hz hk hU => (hk 60 (List.mem_singleton.2 rfl)).trans h
        · exact fun j hj hu T T2 v v2 h hD hz hk hU => (hk 61 (List.mem_singleton.2 rfl)).trans h
        · exact fun j hj hu T T2 v v2 h hD hz hk hU => (hk 62 (List.mem_singleton.2 rfl)).trans h
        · exact fun j hj hu T T2 v v2 h hD hz hk hU => (hk 63 (List.mem_singleton.2 rfl)).trans h
        · exact fun j hj hu T T2 v v2 h hD hz hk hU => (hk 64 (List.mem_singleton.2 rfl)).trans h
        · exact fun j hj hu T T2 v v2 h hD hz hk hU => (hk 65 (List.mem_singleton.2 rfl)).trans h
        · exact fun j hj hu T T2 v v2 h hD hz hk hU => (hk 66 (List.mem_singleton.2 rfl)).trans h
        · exact fun j hj hu T T2 v v2 h hD hz hk hU => (hk 67 (List.mem_singleton.2 rfl)).trans h
        · exact fun j hj hu T T2 v v2 h hD hz hk hU => (hk 56 (List.mem_singleton.2 rfl)).trans h
        · exact fun j hj hu T T2 v v2 h hD hz hk hU => (hk 68 (List.mem_singleton.2 rfl)).trans h
        · exact fun j hj hu T T2 v v2 h hD hz hk hU => (hk 69 (List.mem_singleton.2 rfl)).trans h
        · intro j hj hu T T2 v v2 h hD hz hk hU
          obtain ⟨b, pb, Bb, lb⟩ := h
          have e1 : ptr T 16 = b := by unfold ptr; rw [pb]; rfl
          have n17 : j = 17 → b ≠ ptr T 17 := fun e => by subst e; rw [← e1]; exact hD _ _ 14 15 16 17 rfl rfl rfl rfl (by decide) (.inl rfl) (by kernel_rfl) rfl rfl
          have n16 : j ≠ 16 := fun e => by subst e; exact absurd hu (by decide)
          exact ⟨b, (hk 16 (List.mem_singleton.2 rfl)).trans pb, Bb.upd hU (fun he => by have he2 : (j = 16 ∧ b = ptr T 16 ∧ w5.heap.size ≤ b) ∨ (j = 17 ∧ b = ptr T 17 ∧ w5.heap.size ≤ b) := he; omega), lb⟩
        · intro j hj hu T T2 v v2 h hD hz hk hU
          obtain ⟨b, pb, Bb, lb⟩ := h
          have e1 : ptr T 17 = b := by unfold ptr; rw [pb]; rfl
          have n16 : j = 16 → b ≠ ptr T 16 := fun e => by subst e; rw [← e1]; exact hD _ _ 15 14 17 16 rfl rfl rfl rfl (by decide) (.inl rfl) (by kernel_rfl) rfl rfl
          have n17 : j ≠ 17 := fun e => by subst e; exact absurd hu (by decide)
          exact ⟨b, (hk 17 (List.mem_singleton.2 rfl)).trans pb, Bb.upd hU (fun he => by have he2 : (j = 16 ∧ b = ptr T 16 ∧ w5.heap.size ≤ b) ∨ (j = 17 ∧ b = ptr T 17 ∧ w5.heap.size ≤ b) := he; omega), lb⟩
        · intro j hj hu T T2 v v2 h hD hz hk hU
          obtain ⟨b, pb, Bb, lb⟩ := h
          have e1 : ptr T 16 = b := by unfold ptr; rw [pb]; rfl
          have n17 : j = 17 → b ≠ ptr T 17 := fun e => by subst e; rw [← e1]; exact hD _ _ 14 15 16 17 rfl rfl rfl rfl (by decide) (.inr (by kernel_rfl)) (by kernel_rfl) rfl rfl
          exact ⟨b, (hk 16 (List.mem_singleton.2 rfl)).trans pb, Bb.upd hU (fun he => by have he2 : (j = 16 ∧ b = ptr T 16 ∧ w5.heap.size ≤ b) ∨ (j = 17 ∧ b = ptr T 17 ∧ w5.heap.size ≤ b) := he; omega), lb⟩
        · intro j hj hu T T2 v v2 h hD hz hk hU
          obtain ⟨b, pb, Bb, lb⟩ := h
          have e1 : ptr T 17 = b := by unfold ptr; rw [pb]; rfl
          have n16 : j = 16 → b ≠ ptr T 16 := fun e => by subst e; rw [← e1]; exact hD _ _ 15 14 17 16 rfl rfl rfl rfl (by decide) (.inr (by kernel_rfl)) (by kernel_rfl) rfl rfl
          exact ⟨b, (hk 17 (List.mem_singleton.2 rfl)).trans pb, Bb.upd hU (fun he => by have he2 : (j = 16 ∧ b = ptr T 16 ∧ w5.heap.size ≤ b) ∨ (j = 17 ∧ b = ptr T 17 ∧ w5.heap.size ≤ b) := he; omega), lb⟩
      · refine ⟨fun _ _ _ _ _ _ _ _ _ _ _ => trivial, fun _ _ _ _ _ _ _ _ _ _ _ => trivial, fun _ _ _ _ _ _ _ _ _ _ _ => trivial, fun _ _ _ _ _ _ _ _ _ _ _ => trivial, fun _ _ _ _ _ _ _ _ _ _ _ => trivial, fun _ _ _ _ _ _ _ _ _ _ _ => trivial, fun _ _ _ _ _ _ _ _ _ _ _ => trivial, fun _ _ _ _ _ _ _ _ _ _ _ => trivial, fun _ _ _ _ _ _ _ _ _ _ _ => trivial, fun _ _ _ _ _ _ _ _ _ _ _ => trivial, fun _ _ _ _ _ _ _ _ _ _ _ => trivial, fun _ _ _ _ _ _ _ _ _ _ _ => trivial, fun _ _ _ _ _ _ _ _ _ _ _ => trivial, fun _ _ _ _ _ _ _ _ _ _ _ => trivial, fun _ _ _ _ _ _ _ _ _ _ _ => trivial, fun _ _ _ _ _ _ _ _ _ _ _ => trivial, fun _ _ _ _ _ _ _ _ _ _ _ => trivial, fun _ _ _ _ _ _ _ _ _ _ _ => trivial, trivial⟩
      · refine ⟨?_, ?_, ?_, ?_, ?_, ?_, ?_, ?_, ?_, ?_, ?_, ?_, ?_, ?_, ?_, ?_, ?_, ?_, trivial⟩
        · intro T df v hz hB hd hC
          have qb := hB.1
          have hU := hB.2
          exact ⟨true, want_none rfl, fun _ => .inl ⟨_, _, ex_move rfl (qb.e (j := 0) rfl), Upd.refl _ _, fun h => absurd h (by decide), fun T2 N => N.s 57 rfl⟩, fun h => absurd h (by decide), fun h => absurd h (by decide)⟩
        · intro T df v hz hB hd hC
          have qb := hB.1
          have hU := hB.2
          exact ⟨true, want_none rfl, fun _ => .inl ⟨_, _, ex_move rfl (qb.e (j := 12) rfl), Upd.refl _ _, fun h => absurd h (by decide), fun T2 N => N.s 58 rfl⟩, fun h => absurd h (by decide), fun h => absurd h (by decide)⟩
        · intro T df v hz hB hd hC
          have qb := hB.1
          have hU := hB.2
          have p0 : T[57]? = some (gw true (.int .i64 ((p : Nat) : Int))) := hd 0 (by kernel_rfl) (by kernel_rfl)
          have p1 : T[58]? = some (gw true (.int .i64 ((lft n : Nat) : Int))) := hd 1 (by kernel_rfl) (by kernel_rfl)
          exact ⟨true, want_none rfl, fun _ => .inl ⟨_, _, ex_bin rfl (ev p0 rfl) (ev p1 rfl) (subP _ _ p (lft n) (by omega) (by omega) _), Upd.refl _ _, fun h => absurd h (by decide), fun T2 N => N.s 59 rfl⟩, fun h => absurd h (by decide), fun h => absurd h (by decide)⟩
        · intro T df v hz hB hd hC
          have qb := hB.1
          have hU := hB.2
          exact ⟨true, want_none rfl, fun _ => .inl ⟨_, _, ex_move rfl (qb.e (j := 1) rfl), Upd.refl _ _, fun h => absurd h (by decide), fun T2 N => N.s 60 rfl⟩, fun h => absurd h (by decide), fun h => absurd h (by decide)⟩
        · intro T df v hz hB hd hC
          have qb := hB.1
          have hU := hB.2
          exact ⟨true, want_none rfl, fun _ => .inl ⟨_, _, ex_move rfl (qb.e (j := 12) rfl), Upd.refl _ _, fun h => absurd h (by decide), fun T2 N => N.s 61 rfl⟩, fun h => absurd h (by decide), fun h => absurd h (by decide)⟩
        · intro T df v hz hB hd hC
          have qb := hB.1
          have hU := hB.2
          have p3 : T[60]? = some (gw true (.int .i64 ((n : Nat) : Int))) := hd 3 (by kernel_rfl) (by kernel_rfl)
          have p4 : T[61]? = some (gw true (.int .i64 ((lft n : Nat) : Int))) := hd 4 (by kernel_rfl) (by kernel_rfl)
          exact ⟨true, want_none rfl, fun _ => .inl ⟨_, _, ex_bin rfl (ev p3 rfl) (ev p4 rfl) (subP _ _ n (lft n) (by omega) (by omega) _), Upd.refl _ _, fun h => absurd h (by decide), fun T2 N => N.s 62 rfl⟩, fun h => absurd h (by decide), fun h => absurd h (by decide)⟩
        · intro T df v hz hB hd hC
          have qb := hB.1
          have hU := hB.2
          exact ⟨true, want_none rfl, fun _ => .inl ⟨_, _, ex_ld rfl (qb.e (j := 8) rfl) (B10.upd hU (show ¬ False from id)).ldH, Upd.refl _ _, fun h => absurd h (by decide), fun T2 N => N.s 63 rfl⟩, fun h => absurd h (by decide), fun h => absurd h (by decide)⟩
        · intro T df v hz hB hd hC
          have qb := hB.1
          have hU := hB.2
          exact ⟨true, want_none rfl, fun _ => .inl ⟨_, _, ex_move rfl (qb.e (j := 4) rfl), Upd.refl _ _, fun h => absurd h (by decide), fun T2 N => N.s 64 rfl⟩, fun h => absurd h (by decide), fun h => absurd h (by decide)⟩
        · intro T df v hz hB hd hC
          have qb := hB.1
          have hU := hB.2
          exact ⟨true, want_none rfl, fun _ => .inl ⟨_, _, ex_move rfl (qb.e (j := 13) rfl), Upd.refl _ _, fun h => absurd h (by decide), fun T2 N => N.s 65 rfl⟩, fun h => absurd h (by decide), fun h => absurd h (by decide)⟩
        · intro T df v hz hB hd hC
          have qb := hB.1
          have hU := hB.2
          have p7 : T[64]? = some (gw true (.slice (some ⟨kq8, ko9, none⟩) k c)) := hd 7 (by kernel_rfl) (by kernel_rfl)
          have p8 : T[65]? = some (gw true (.int .i64 ((k - 1 : Nat) : Int))) := hd 8 (by kernel_rfl) (by kernel_rfl)
          exact ⟨true, want_none rfl, fun _ => .inl ⟨_, _, ex_sl19 rfl (ev p7 rfl) rfl (congrArg some (ev p8 rfl)) rfl (slToH kq8 ko9 k c (k - 1) (by omega) (ckq8) _), Upd.refl _ _, fun h => absurd h (by decide), fun T2 N => N.s 66 rfl⟩, fun h => absurd h (by decide), fun h => absurd h (by decide)⟩
        · intro T df v hz hB hd hC
          have qb := hB.1
          have hU := hB.2
          have D : Below w.heap.size w v := d6.trans (hU.below d6.size (fun k hk => hk.elim))
          have p2 : T[59]? = some (gw true (.int .i64 ((p - (lft n) : Nat) : Int))) := hd 2 (by kernel_rfl) (by kernel_rfl)
          have p5 : T[62]? = some (gw true (.int .i64 ((n - (lft n) : Nat) : Int))) := hd 5 (by kernel_rfl) (by kernel_rfl)
          have p6 : T[63]? = some (gw true (x.val)) := hd 6 (by kernel_rfl) (by kernel_rfl)
          have p9 : T[66]? = some (gw true (.slice (some ⟨kq8, ko9, none⟩) (k - 1) c)) := hd 9 (by kernel_rfl) (by kernel_rfl)
          refine ⟨true, want_none rfl, fun hc => .inr (.inr ⟨_, _, _, ex_call rfl (by simp only [List.map_toArray, List.map_cons, List.map_nil, (ev p2 rfl), (ev p5 rfl), (ev p6 rfl), (ev p9 rfl), evc] <;> rfl) rfl, ih x (p - (lft n)) (n - (lft n)) false (P.take (k - 1)) _ _ _ v ((h.later D).take (k - 1) (by omega)) (by have := sa_r p n wh (by omega) h1 hp; omega) (by omega) (by omega) (by omega) (by omega), ?_⟩), fun _ => rfl, fun h => absurd h (by decide)⟩
          rintro e w9 ⟨rfl, b9⟩
          exact ⟨_, rfl, Upd.of_below b9, fun h => absurd h (by decide), fun T2 N => N.s 67 rfl⟩
        · intro T df v hz hB hd hC
          have qb := hB.1
          have hU := hB.2
          have p10 : T[67]? = some (gw true (.tuple #[((cb x (p - (lft n)) (n - (lft n)) false (P.take (k - 1))).1).val, ((cb x (p - (lft n)) (n - (lft n)) false (P.take (k - 1))).2).val])) := hd 10 (by kernel_rfl) (by kernel_rfl)
          exact ⟨true, want_none rfl, fun _ => .inl ⟨_, _, ex_move rfl (ev p10 rfl), Upd.refl _ _, fun h => absurd h (by decide), fun T2 N => N.s 56 rfl⟩, fun h => absurd h (by decide), fun h => absurd h (by decide)⟩
        · intro T df v hz hB hd hC
          have qb := hB.1
          have hU := hB.2
          have p11 : T[56]? = some (gw true (.tuple #[((cb x (p - (lft n)) (n - (lft n)) false (P.take (k - 1))).1).val, ((cb x (p - (lft n)) (n - (lft n)) false (P.take (k - 1))).2).val])) := hd 11 (by kernel_rfl) (by kernel_rfl)
          exact ⟨true, want_none rfl, fun _ => .inl ⟨_, _, ex_ext18 rfl (ev p11 rfl) rfl, Upd.refl _ _, fun h => absurd h (by decide), fun T2 N => N.s 68 rfl⟩, fun h => absurd h (by decide), fun h => absurd h (by decide)⟩
        · intro T df v hz hB hd hC
          have qb := hB.1
          have hU := hB.2
          have p11 : T[56]? = some (gw true (.tuple #[((cb x (p - (lft n)) (n - (lft n)) false (P.take (k - 1))).1).val, ((cb x (p - (lft n)) (n - (lft n)) false (P.take (k - 1))).2).val])) := hd 11 (by kernel_rfl) (by kernel_rfl)
          exact ⟨true, want_none rfl, fun _ => .inl ⟨_, _, ex_ext18 rfl (ev p11 rfl) rfl, Upd.refl _ _, fun h => absurd h (by decide), fun T2 N => N.s 69 rfl⟩, fun h => absurd h (by decide), fun h => absurd h (by decide)⟩
        · intro T df v hz hB hd hC
          have qb := hB.1
          have hU := hB.2
          exact ⟨_, want_none rfl, fun _ => .inl ⟨_, _, ex_al rfl (alH _), Upd.of_below ((Below.refl _ _).alloc (Nat.le_refl _) _), fun _ => ⟨_, rfl, Nat.le_refl _, by rw [World.size_alloc]; exact Nat.lt_succ_self _⟩, fun T2 N => ⟨_, N.s 16 rfl, BB.new _ _ _, hU.size⟩⟩, fun h => absurd h (by decide), fun h => absurd h (by decide)⟩
        · intro T df v hz hB hd hC
          have qb := hB.1
          have hU := hB.2
          exact ⟨_, want_none rfl, fun _ => .inl ⟨_, _, ex_al rfl (alH _), Upd.of_below ((Below.refl _ _).alloc (Nat.le_refl _) _), fun _ => ⟨_, rfl, Nat.le_refl _, by rw [World.size_alloc]; exact Nat.lt_succ_self _⟩, fun T2 N => ⟨_, N.s 17 rfl, BB.new _ _ _, hU.size⟩⟩, fun h => absurd h (by decide), fun h => absurd h (by decide)⟩
        · intro T df v hz hB hd hC
          have qb := hB.1
          have hU := hB.2
          have p12 : T[68]? = some (gw true (((cb x (p - (lft n)) (n - (lft n)) false (P.take (k - 1))).1).val)) := hd 12 (by kernel_rfl) (by kernel_rfl)
          have p14 : ∃ b : Nat, T[16]? = some (gw true (.pointer (some ⟨b, 0, none⟩))) ∧ BB v b 24 (zH.cs) ∧ w5.heap.size ≤ b := hd 14 (by kernel_rfl) (by kernel_rfl)
          obtain ⟨b, pb, Bb, lb⟩ := p14
          have e1 : ptr T 16 = b := by unfold ptr; rw [pb]; rfl
          exact ⟨_, want_none rfl, fun _ => .inr (.inl ⟨_, ex_st rfl (ev pb rfl) (ev p12 rfl) (Bb.stH rfl _), (upd18 _ _ _ _).sub20 (fun k hk => by have hk2 : k = b := hk; show (16 = 16 ∧ k = ptr T 16 ∧ w5.heap.size ≤ k) ∨ (16 = 17 ∧ k = ptr T 17 ∧ w5.heap.size ≤ k); omega), fun h => absurd h (by decide), fun T2 N => ⟨b, (N.k 16 rfl).trans pb, Bb.putH rfl _, lb⟩⟩), fun h => absurd h (by decide), fun h => absurd h (by decide)⟩
        · intro T df v hz hB hd hC
          have qb := hB.1
          have hU := hB.2
          have p13 : T[69]? = some (gw true (((cb x (p - (lft n)) (n - (lft n)) false (P.take (k - 1))).2).val)) := hd 13 (by kernel_rfl) (by kernel_rfl)
          have p15 : ∃ b : Nat, T[17]? = some (gw true (.pointer (some ⟨b, 0, none⟩))) ∧ BB v b 24 (zH.cs) ∧ w5.heap.size ≤ b := hd 15 (by kernel_rfl) (by kernel_rfl)
          obtain ⟨b, pb, Bb, lb⟩ := p15
          have e1 : ptr T 17 = b := by unfold ptr; rw [pb]; rfl
          exact ⟨_, want_none rfl, fun _ => .inr (.inl ⟨_, ex_st rfl (ev pb rfl) (ev p13 rfl) (Bb.stH rfl _), (upd18 _ _ _ _).sub20 (fun k hk => by have hk2 : k = b := hk; show (17 = 16 ∧ k = ptr T 16 ∧ w5.heap.size ≤ k) ∨ (17 = 17 ∧ k = ptr T 17 ∧ w5.heap.size ≤ k); omega), fun h => absurd h (by decide), fun T2 N => ⟨b, (N.k 17 rfl).trans pb, Bb.putH rfl _, lb⟩⟩), fun h => absurd h (by decide), fun h => absurd h (by decide)⟩
      intro T v11 hz hB hp ha
      have qb := hB.1
      have U12 := hB.2
      clear hB hz
      clear q16
      have d13 : Below w.heap.size w v11 := d6.trans (U12.below (Nat.le_trans d6.size (Nat.le_refl _)) (fun k hk => hk.elim))
      have zv11 := U12.size
      obtain ⟨b14, p16, Bb14, lb14⟩ : ∃ b : Nat, T[16]? = some (gw true (.pointer (some ⟨b, 0, none⟩))) ∧ BB v11 b 24 (((cb x (p - (lft n)) (n - (lft n)) false (P.take (k - 1))).1).cs) ∧ w5.heap.size ≤ b := hp 16 _ rfl (fun k => rfl)
      have ltb14 := Bb14.lt
      obtain ⟨b15, p17, Bb15, lb15⟩ : ∃ b : Nat, T[17]? = some (gw true (.pointer (some ⟨b, 0, none⟩))) ∧ BB v11 b 24 (((cb x (p - (lft n)) (n - (lft n)) false (P.take (k - 1))).2).cs) ∧ w5.heap.size ≤ b := hp 17 _ rfl (fun k => rfl)
      have ltb15 := Bb15.lt
      have nb14b15 : b14 ≠ b15 := by
        have := ha 14 15 _ _ 16 17 rfl rfl rfl rfl (by decide) rfl rfl
        unfold ptr at this
        rw [p16, p17] at this
        exact this
      have q17 := ((qb.cons p16).cons p17)
      clear hp ha qb p16 p17
      go_upto_region 11 with fail
      have B16 : BB v11 w1.heap.size 24 (zH.cs) := ((Bw3.later bw5).upd U12 (show ¬ False from id))
      have B17 : BB v11 w3.heap.size 24 (zH.cs) := (Bw5.upd U12 (show ¬ False from id))
      refine vp_start 82 (fun T v => Rp T 82 [(4, gw true (.slice (some ⟨kq8, ko9, none⟩) k c)), (10, gw true (.pointer (some ⟨w1.heap.size, 0, none⟩))), (11, gw true (.pointer (some ⟨w3.heap.size, 0, none⟩))), (13, gw true (.int .i64 ((k - 1 : Nat) : Int))), (16, gw true (.pointer (some ⟨b14, 0, none⟩))), (17, gw true (.pointer (some ⟨b15, 0, none⟩))), (20, gw true (.bool false)), (37, gw true (.bool false))] ∧ Upd (fun k => k = w1.heap.size ∨ k = w3.heap.size) v11 v) (fun (i : Nat) (T : Array Value) (v : World) => match i with | 0 => T[70]? = some (gw true (.slice (some ⟨kq8, ko9, none⟩) k c)) | 1 => T[71]? = some (gw true (.int .i64 ((k - 1 : Nat) : Int))) | 2 => T[72]? = some (gw true (.pointer (some ⟨kq8, ko9 + (k - 1) * 32, none⟩))) | 3 => T[73]? = some (gw true (tp.val)) | 4 => T[74]? = some (gw true (((cb x (p - (lft n)) (n - (lft n)) false (P.take (k - 1))).1).val)) | 5 => T[75]? = some (gw true ((nd tp ((cb x (p - (lft n)) (n - (lft n)) false (P.take (k - 1))).1)).val)) | 6 => T[76]? = some (gw true (.slice (some ⟨kq8, ko9, none⟩) k c)) | 7 => T[77]? = some (gw true (.int .i64 ((k - 1 : Nat) : Int))) | 8 => T[78]? = some (gw true (.pointer (some ⟨kq8, ko9 + (k - 1) * 32, none⟩))) | 9 => T[79]? = some (gw true (tp.val)) | 10 => T[80]? = some (gw true (((cb x (p - (lft n)) (n - (lft n)) false (P.take (k - 1))).2).val)) | 11 => T[81]? = some (gw true ((nd tp ((cb x (p - (lft n)) (n - (lft n)) false (P.take (k - 1))).2)).val)) | 12 => BB v w1.heap.size 24 ((nd tp ((cb x (p - (lft n)) (n - (lft n)) false (P.take (k - 1))).1)).cs) | 13 => BB v w3.heap.size 24 ((nd tp ((cb x (p - (lft n)) (n - (lft n)) false (P.take (k - 1))).2)).cs) | _ => True) (fun (i : Nat) (T : Array Value) (v : World) => match i with | 12 => BB v w1.heap.size 24 (zH.cs) | 13 => BB v w3.heap.size 24 (zH.cs) | _ => True) (fun j T k => (j = 12 ∧ k = w1.heap.size) ∨ (j = 13 ∧ k = w3.heap.size)) (fun i => match i with | 0 => [70] | 1 => [71] | 2 => [72] | 3 => [73] | 4 => [74] | 5 => [75] | 6 => [76] | 7 => [77] | 8 => [78] | 9 => [79] | 10 => [80] | 11 => [81] | 12 => [] | 13 => [] | _ => []) (fun _ => []) [4, 10, 11, 13, 16, 17, 20, 37] (fun i j => false) (fun i => false) (by kernel_rfl) (by kernel_rfl) q17.z ⟨(((((((((Rp.nil q17.z).cons (q17.a 37 rfl)).cons (q17.a 20 rfl)).cons (q17.a 17 rfl)).cons (q17.a 16 rfl)).cons (q17.a 13 rfl)).cons (q17.a 11 rfl)).cons (q17.a 10 rfl)).cons (q17.a 4 rfl)), (Upd.refl _ _).drew20⟩ ?_ ?_ ?_ ?_ ?_ ?_
      · exact ⟨trivial, trivial, trivial, trivial, trivial, trivial, trivial, trivial, trivial, trivial, trivial, trivial, B16.later (Below.refl _ _).drew, B17.later (Below.refl _ _).drew, trivial⟩
      · intro j T T2 v v2 h _ hz hk hu
        exact ⟨h.1.ch hz hk, h.2.tr20 hu (fun k hk he => by have he2 : (j = 12 ∧ k = w1.heap.size) ∨ (j = 13 ∧ k = w3.heap.size) := he; show k = w1.heap.size ∨ k = w3.heap.size; omega)⟩
      · refine ⟨?_, ?_, ?_, ?_, ?_, ?_, ?_, ?_, ?_, ?_, ?_, ?_, ?_, ?_, trivial⟩
        · exact fun j hj hu T T2 v v2 h hD hz hk hU => (hk 70 (List.mem_singleton.2 rfl)).trans h
        · exact fun j hj hu T T2 v v2 h hD hz hk hU => (hk 71 (List.mem_singleton.2 rfl)).trans h
        · exact fun j hj hu T T2 v v2 h hD hz hk hU => (hk 72 (List.mem_singleton.2 rfl)).trans h
        · exact fun j hj hu T T2 v v2 h hD hz hk hU => (hk 73 (List.mem_singleton.2 rfl)).trans h
        · exact fun j hj hu T T2 v v2 h hD hz hk hU => (hk 74 (List.mem_singleton.2 rfl)).trans h
        · exact fun j hj hu T T2 v v2 h hD hz hk hU => (hk 75 (List.mem_singleton.2 rfl)).trans h
        · exact fun j hj hu T T2 v v2 h hD hz hk hU => (hk 76 (List.mem_singleton.2 rfl)).trans h
        · exact fun j hj hu T T2 v v2 h hD hz hk hU => (hk 77 (List.mem_singleton.2 rfl)).trans h
        · exact fun j hj hu T T2 v v2 h hD hz hk hU => (hk 78 (List.mem_singleton.2 rfl)).trans h
        · exact fun j hj hu T T2 v v2 h hD hz hk hU => (hk 79 (List.mem_singleton.2 rfl)).trans h
        · exact fun j hj hu T T2 v v2 h hD hz hk hU => (hk 80 (List.mem_singleton.2 rfl)).trans h
        · exact fun j hj hu T T2 v v2 h hD hz hk hU => (hk 81 (List.mem_singleton.2 rfl)).trans h
        · intro j hj hu T T2 v v2 h hD hz hk hU
          exact BB.upd h hU (fun he => by have he2 : (j = 12 ∧ w1.heap.size = w1.heap.size) ∨ (j = 13 ∧ w1.heap.size = w3.heap.size) := he; omega)
        · intro j hj hu T T2 v v2 h hD hz hk hU
          exact BB.upd h hU (fun he => by have he2 : (j = 12 ∧ w3.heap.size = w1.heap.size) ∨ (j = 13 ∧ w3.heap.size = w3.heap.size) := he; omega)
      · refine ⟨fun _ _ _ _ _ _ _ _ _ _ _ => trivial, fun _ _ _ _ _ _ _ _ _ _ _ => trivial, fun _ _ _ _ _ _ _ _ _ _ _ => trivial, fun _ _ _ _ _ _ _ _ _ _ _ => trivial, fun _ _ _ _ _ _ _ _ _ _ _ => trivial, fun _ _ _ _ _ _ _ _ _ _ _ => trivial, fun _ _ _ _ _ _ _ _ _ _ _ => trivial, fun _ _ _ _ _ _ _ _ _ _ _ => trivial, fun _ _ _ _ _ _ _ _ _ _ _ => trivial, fun _ _ _ _ _ _ _ _ _ _ _ => trivial, fun _ _ _ _ _ _ _ _ _ _ _ => trivial, fun _ _ _ _ _ _ _ _ _ _ _ => trivial, ?_, ?_, trivial⟩
        · exact fun j hj T T2 v v2 h _ hz hk hU => BB.upd h hU (fun he => by have he2 : (j = 12 ∧ w1.heap.size = w1.heap.size) ∨ (j = 13 ∧ w1.heap.size = w3.heap.size) := he; omega)
        · exact fun j hj T T2 v v2 h _ hz hk hU => BB.upd h hU (fun he => by have he2 : (j = 12 ∧ w3.heap.size = w1.heap.size) ∨ (j = 13 ∧ w3.heap.size = w3.heap.size) := he; omega)
      · refine ⟨?_, ?_, ?_, ?_, ?_, ?_, ?_, ?_, ?_, ?_, ?_, ?_, ?_, ?_, trivial⟩
        · intro T df v hz hB hd hC
          have qb := hB.1
          have hU := hB.2
          exact ⟨true, want_none rfl, fun _ => .inl ⟨_, _, ex_move rfl (qb.e (j := 4) rfl), Upd.refl _ _, fun h => absurd h (by decide), fun T2 N => N.s 70 rfl⟩, fun h => absurd h (by decide), fun h => absurd h (by decide)⟩
        · intro T df v hz hB hd hC
          have qb := hB.1
          have hU := hB.2
          exact ⟨true, want_none rfl, fun _ => .inl ⟨_, _, ex_move rfl (qb.e (j := 13) rfl), Upd.refl _ _, fun h => absurd h (by decide), fun T2 N => N.s 71 rfl⟩, fun h => absurd h (by decide), fun h => absurd h (by decide)⟩
        · intro T df v hz hB hd hC
          have qb := hB.1
          have hU := hB.2
          have p0 : T[70]? = some (gw true (.slice (some ⟨kq8, ko9, none⟩) k c)) := hd 0 (by kernel_rfl) (by kernel_rfl)
          have p1 : T[71]? = some (gw true (.int .i64 ((k - 1 : Nat) : Int))) := hd 1 (by kernel_rfl) (by kernel_rfl)
          exact ⟨true, want_none rfl, fun _ => .inl ⟨_, _, ex_ix rfl (ev p0 rfl) (ev p1 rfl) (ixH kq8 ko9 k c (k - 1) (by omega) _), Upd.refl _ _, fun h => absurd h (by decide), fun T2 N => N.s 72 rfl⟩, fun h => absurd h (by decide), fun h => absurd h (by decide)⟩
        · intro T df v hz hB hd hC
          have qb := hB.1
          have hU := hB.2
          have D : Below w.heap.size w v := d13.trans (hU.below d13.size (fun k hk => by have hk2 : k = w1.heap.size ∨ k = w3.heap.size := hk; omega))
          have p2 : T[72]? = some (gw true (.pointer (some ⟨kq8, ko9 + (k - 1) * 32, none⟩))) := hd 2 (by kernel_rfl) (by kernel_rfl)
          exact ⟨true, want_none rfl, fun _ => .inl ⟨_, _, ex_ld rfl (ev p2 rfl) (ldH20 (lkq8.upd (S := fun _ => False) (Upd.of_below D) hkq8 id) htp), Upd.refl _ _, fun h => absurd h (by decide), fun T2 N => N.s 73 rfl⟩, fun h => absurd h (by decide), fun h => absurd h (by decide)⟩
        · intro T df v hz hB hd hC
          have qb := hB.1
          have hU := hB.2
          exact ⟨true, want_none rfl, fun _ => .inl ⟨_, _, ex_ld rfl (qb.e (j := 16) rfl) (Bb14.upd hU (show ¬ (b14 = w1.heap.size ∨ b14 = w3.heap.size) by omega)).ldH, Upd.refl _ _, fun h => absurd h (by decide), fun T2 N => N.s 74 rfl⟩, fun h => absurd h (by decide), fun h => absurd h (by decide)⟩
        · intro T df v hz hB hd hC
          have qb := hB.1
          have hU := hB.2
          have p3 : T[73]? = some (gw true (tp.val)) := hd 3 (by kernel_rfl) (by kernel_rfl)
          have p4 : T[74]? = some (gw true (((cb x (p - (lft n)) (n - (lft n)) false (P.take (k - 1))).1).val)) := hd 4 (by kernel_rfl) (by kernel_rfl)
          refine ⟨true, want_none rfl, fun hc => .inr (.inr ⟨_, _, _, ex_call rfl (by simp only [List.map_toArray, List.map_cons, List.map_nil, (ev p3 rfl), (ev p4 rfl), evc] <;> rfl) rfl, rnode20 tp ((cb x (p - (lft n)) (n - (lft n)) false (P.take (k - 1))).1) v, ?_⟩), fun _ => rfl, fun h => absurd h (by decide)⟩
          rintro e w9 ⟨rfl, b9⟩
          exact ⟨_, rfl, Upd.of_below b9, fun h => absurd h (by decide), fun T2 N => N.s 75 rfl⟩
        · intro T df v hz hB hd hC
          have qb := hB.1
          have hU := hB.2
          exact ⟨true, want_none rfl, fun _ => .inl ⟨_, _, ex_move rfl (qb.e (j := 4) rfl), Upd.refl _ _, fun h => absurd h (by decide), fun T2 N => N.s 76 rfl⟩, fun h => absurd h (by decide), fun h => absurd h (by decide)⟩
        · intro T df v hz hB hd hC
          have qb := hB.1
          have hU := hB.2
          exact ⟨true, want_none rfl, fun _ => .inl ⟨_, _, ex_move rfl (qb.e (j := 13) rfl), Upd.refl _ _, fun h => absurd h (by decide), fun T2 N => N.s 77 rfl⟩, fun h => absurd h (by decide), fun h => absurd h (by decide)⟩
        · intro T df v hz hB hd hC
          have qb := hB.1
          have hU := hB.2
          have p6 : T[76]? = some (gw true (.slice (some ⟨kq8, ko9, none⟩) k c)) := hd 6 (by kernel_rfl) (by kernel_rfl)
          have p7 : T[77]? = some (gw true (.int .i64 ((k - 1 : Nat) : Int))) := hd 7 (by kernel_rfl) (by kernel_rfl)
          exact ⟨true, want_none rfl, fun _ => .inl ⟨_, _, ex_ix rfl (ev p6 rfl) (ev p7 rfl) (ixH kq8 ko9 k c (k - 1) (by omega) _), Upd.refl _ _, fun h => absurd h (by decide), fun T2 N => N.s 78 rfl⟩, fun h => absurd h (by decide), fun h => absurd h (by decide)⟩
        · intro T df v hz hB hd hC
          have qb := hB.1
          have hU := hB.2
          have D : Below w.heap.size w v := d13.trans (hU.below d13.size (fun k hk => by have hk2 : k = w1.heap.size ∨ k = w3.heap.size := hk; omega))
          have p8 : T[78]? = some (gw true (.pointer (some ⟨kq8, ko9 + (k - 1) * 32, none⟩))) := hd 8 (by kernel_rfl) (by kernel_rfl)
          exact ⟨true, want_none rfl, fun _ => .inl ⟨_, _, ex_ld rfl (ev p8 rfl) (ldH20 (lkq8.upd (S := fun _ => False) (Upd.of_below D) hkq8 id) htp), Upd.refl _ _, fun h => absurd h (by decide), fun T2 N => N.s 79 rfl⟩, fun h => absurd h (by decide), fun h => absurd h (by decide)⟩
        · intro T df v hz hB hd hC
          have qb := hB.1
          have hU := hB.2
          exact ⟨true, want_none rfl, fun _ => .inl ⟨_, _, ex_ld rfl (qb.e (j := 17) rfl) (Bb15.upd hU (show ¬ (b15 = w1.heap.size ∨ b15 = w3.heap.size) by omega)).ldH, Upd.refl _ _, fun h => absurd h (by decide), fun T2 N => N.s 80 rfl⟩, fun h => absurd h (by decide), fun h => absurd h (by decide)⟩
        · intro T df v hz hB hd hC
          have qb := hB.1
          have hU := hB.2
          have p9 : T[79]? = some (gw true (tp.val)) := hd 9 (by kernel_rfl) (by kernel_rfl)
          have p10 : T[80]? = some (gw true (((cb x (p - (lft n)) (n - (lft n)) false (P.take (k - 1))).2).val)) := hd 10 (by kernel_rfl) (by kernel_rfl)
          refine ⟨true, want_none rfl, fun hc => .inr (.inr ⟨_, _, _, ex_call rfl (by simp only [List.map_toArray, List.map_cons, List.map_nil, (ev p9 rfl), (ev p10 rfl), evc] <;> rfl) rfl, rnode20 tp ((cb x (p - (lft n)) (n - (lft n)) false (P.take (k - 1))).2) v, ?_⟩), fun _ => rfl, fun h => absurd h (by decide)⟩
          rintro e w9 ⟨rfl, b9⟩
          exact ⟨_, rfl, Upd.of_below b9, fun h => absurd h (by decide), fun T2 N => N.s 81 rfl⟩
        · intro T df v hz hB hd hC
          have qb := hB.1
          have hU := hB.2
          have p5 : T[75]? = some (gw true ((nd tp ((cb x (p - (lft n)) (n - (lft n)) false (P.take (k - 1))).1)).val)) := hd 5 (by kernel_rfl) (by kernel_rfl)
          have hq : BB v w1.heap.size 24 (zH.cs) := hC 12 _ rfl (.inl rfl)
          exact ⟨_, want_none rfl, fun _ => .inr (.inl ⟨_, ex_st rfl (qb.e (j := 10) rfl) (ev p5 rfl) (hq.stH rfl _), (upd18 _ _ _ _).sub20 (fun k hk => by have hk2 : k = w1.heap.size := hk; show (12 = 12 ∧ k = w1.heap.size) ∨ (12 = 13 ∧ k = w3.heap.size); omega), fun h => absurd h (by decide), fun T2 N => hq.putH rfl _⟩), fun h => absurd h (by decide), fun h => absurd h (by decide)⟩
        · intro T df v hz hB hd hC
          have qb := hB.1
          have hU := hB.2
          have p11 : T[81]? = some (gw true ((nd tp ((cb x (p - (lft n)) (n - (lft n)) false (P.take (k - 1))).2)).val)) := hd 11 (by kernel_rfl) (by kernel_rfl)
          have hq : BB v w3.heap.size 24 (zH.cs) := hC 13 _ rfl (.inl rfl)
          exact ⟨_, want_none rfl, fun _ => .inr (.inl ⟨_, ex_st rfl (qb.e (j := 11) rfl) (ev p11 rfl) (hq.stH rfl _), (upd18 _ _ _ _).sub20 (fun k hk => by have hk2 : k = w3.heap.size := hk; show (13 = 12 ∧ k = w1.heap.size) ∨ (13 = 13 ∧ k = w3.heap.size); omega), fun h => absurd h (by decide), fun T2 N => hq.putH rfl _⟩), fun h => absurd h (by decide), fun h => absurd h (by decide)⟩
      intro T v18 hz hB hp ha
      have qb := hB.1
      have U19 := hB.2
      clear hB hz
      clear q17
      have d20 : Below w.heap.size w v18 := d13.trans (U19.below (Nat.le_trans d13.size (Nat.le_refl _)) (fun k hk => by have hk2 : k = w1.heap.size ∨ k = w3.heap.size := hk; omega))
      have zv18 := U19.size
      have B21 : BB v18 w1.heap.size 24 ((nd tp ((cb x (p - (lft n)) (n - (lft n)) false (P.take (k - 1))).1)).cs) := hp 12 _ rfl (fun k => rfl)
      have B22 : BB v18 w3.heap.size 24 ((nd tp ((cb x (p - (lft n)) (n - (lft n)) false (P.take (k - 1))).2)).cs) := hp 13 _ rfl (fun k => rfl)
      have q18 := qb
      clear hp ha qb
      go_wp2
      refine bodyPost_ret (resHH rfl (q18.a 10 rfl) (q18.a 11 rfl) B21 B22) rfl ?_
      exact ⟨by rw [cb_r x p n wh P (by omega) h1 hp, HE.out, ← HT.out], d20⟩
theorem both20 (x : Hs) (p n : Nat) (wh : Bool) (P : List Hs) (a : Option Addr) (k c : Nat) (w : World) (h : SlY yH w a k c P) (hk : k = sa p n wh) (hn : n ≤ 9223372036854775807) (hp1 : 1 ≤ p) (hp2 : p ≤ n) :
    Calls Try.prog 63 #[.int .i64 (p : Int), .int .i64 (n : Int), .bool wh, x.val, .slice a k c] w fun e w' => e = .returned (.tuple #[(cb x p n wh P).1.val, (cb x p n wh P).2.val]) ∧ Below w.heap.size w w' := by
  have H : ∀ m, ∀ (x : Hs) (p n : Nat) (wh : Bool) (P : List Hs) (a : Option Addr) (k c : Nat) (w : World), SlY yH w a k c P → k = sa p n wh → n < m → n ≤ 9223372036854775807 → 1 ≤ p → p ≤ n → Calls Try.prog 63 #[.int .i64 (p : Int), .int .i64 (n : Int), .bool wh, x.val, .slice a k c] w fun e w' => e = .returned (.tuple #[(cb x p n wh P).1.val, (cb x p n wh P).2.val]) ∧ Below w.heap.size w w' := by
    intro m
    induction m with
    | zero => intro x p n wh P a k c w _ _ h; omega
    | succ m ih => exact fun x p n wh P a k c w h hk hm hn h1 h2 => both_step m ih x p n wh P a k c w h hk (by omega) hn h1 h2
  exact H (n + 1) x p n wh P a k c w h hk (by omega) hn hp1 hp2
end Go.Proofs.Ytomiifnhcojilaa
namespace Go.Proofs.Ytomiifnhcojilaa
open Go.RowKit Go.Maps
open Classical
theorem rsum020 (w : World) : Calls Try.prog 41 #[.slice none 0 0] w fun e w' => e = .returned (sH []).val ∧ Below w.heap.size w w' := rsum19 [] none 0 w (nil_sl20 yB9 w) (by decide) (fun x hx => by cases hx)
theorem exR_n (old g : Hs) (m n : Nat) (P : List Hs) (h : m ≤ n) : exR old m g n P = if P.length ≠ sbN m n then 201 else if jnR old m n g P = true then 0 else 202 := by
  unfold exR
  rw [if_neg (by omega), Int.toNat_natCast, Int.toNat_natCast]
set_option maxHeartbeats 2000000 in
theorem rextN20 (old g : Hs) (m n : Nat) (P : List Hs) (a : Option Addr) (k c : Nat) (w : World) (h : SlY yH w a k c P) (hn : n ≤ 9223372036854775807) (hm : m ≤ n) :
    Calls Try.prog 30 #[old.val, .int .i64 (m : Int), g.val, .int .i64 (n : Int), .slice a k c] w fun e w' => e = .returned (.int .i64 (exR old m g n P)) ∧ Below w.heap.size w w' := by
  have hln := h.len
  go_enter Try.func30, Try.ntmps30
  go_upto_region 0 with fail
  refine wp_region_lit ?_
  refine vl_gen (fun T => Rp T 75 [(4, gw true (.slice a k c)), (3, gw true (.int .i64 ((n : Nat) : Int))), (2, gw true (g.val)), (1, gw true (.int .i64 ((m : Nat) : Int))), (0, gw true (old.val))]) ((((((Rp.nil rfl).cons rfl).cons rfl).cons rfl).cons rfl).cons rfl) (fun Z0 q0 => ?_)
  obtain ⟨w1, hw1⟩ : ∃ y, y = w.alloc (.cells (old.cs).toArray 24) := ⟨_, rfl⟩
  refine vw (.pointer (some ⟨w.heap.size, 0, none⟩)) w1 (want_none rfl) (ex_box18 rfl (q0.e (j := 0) rfl) (by rw [hw1]; exact bxH20 _ _)) rfl q0.z (by decide) (q0.k fun _ q1 => ?_);clear q0
  have Bw1 : BB w1 w.heap.size 24 (old.cs) := by rw [hw1]; exact BB.new _ _ _
  have bw1 : Below w.heap.size w w1 := by rw [hw1]; exact (Below.refl _ _).alloc (Nat.le_refl _) _
  have zw1 : w1.heap.size = w.heap.size + 1 := by rw [hw1]; exact World.size_alloc _ _
  clear hw1
  have d2 : Below w.heap.size w w1 := bw1
  obtain ⟨w3, hw3⟩ : ∃ y, y = w1.alloc (.cells (g.cs).toArray 24) := ⟨_, rfl⟩
  refine vw (.pointer (some ⟨w1.heap.size, 0, none⟩)) w3 (want_none rfl) (ex_box18 rfl (q1.e (j := 2) rfl) (by rw [hw3]; exact bxH20 _ _)) rfl q1.z (by decide) (q1.k fun _ q2 => ?_);clear q1
  have Bw3 : BB w3 w1.heap.size 24 (g.cs) := by rw [hw3]; exact BB.new _ _ _
  have bw3 : Below w1.heap.size w1 w3 := by rw [hw3]; exact (Below.refl _ _).alloc (Nat.le_refl _) _
  have zw3 : w3.heap.size = w1.heap.size + 1 := by rw [hw3]; exact World.size_alloc _ _
  clear hw3
  have d4 : Below w.heap.size w w3 := d2.trans (bw3.mono d2.size)
  refine q2.t (.int .i64 ((0 : Nat) : Int)) (ex_assign rfl rfl) fun _ q3 => ?_;clear q2
  refine wpList_nil ?_
  go_upto_region 1 with fail
  refine wp_region_lit ?_
  refine q3.t (.int .i64 ((m : Nat) : Int)) (ex_move rfl (q3.e (j := 1) rfl)) fun _ q4 => ?_;clear q3
  refine q4.t (.bool false) (ex_bin (Y := .int .i64 ((0 : Nat) : Int)) rfl (q4.e (j := 15) rfl) rfl (ltF20 _ _ (by omega) _)) fun _ q5 => ?_;clear q4
  refine q5.t (.bool false) (ex_move rfl (q5.e (j := 16) rfl)) fun _ q6 => ?_;clear q5
  refine vl ((true && (false == false))) (.int .i64 ((n : Nat) : Int)) (want_g rfl rfl (q6.a 17 rfl)) (fun hc => ex_move rfl (q6.e (j := 3) rfl)) rfl q6.z (by decide) (q6.k fun _ q7 => ?_);clear q6
  refine vl ((true && (false == false))) (.int .i64 ((m : Nat) : Int)) (want_g rfl rfl (q7.a 17 rfl)) (fun hc => ex_move rfl (q7.e (j := 1) rfl)) rfl q7.z (by decide) (q7.k fun _ q8 => ?_);clear q7
  refine vl ((true && (false == false))) (.bool false) (want_g rfl rfl (q8.a 17 rfl)) (fun hc => ex_bin rfl (ev (q8.a 18 rfl) hc) (ev (q8.a 19 rfl) hc) (ltF20 _ _ (by omega) _)) rfl q8.z (by decide) (q8.k fun _ q9 => ?_);clear q8
  refine q9.t (.bool false) (ex_or (c := true) (b := false) (z := false) rfl (q9.a 17 rfl) (q9.a 20 rfl) rfl) fun _ q10 => ?_;clear q9
  refine wpList_nil ?_
  go_upto_region 3 with fail
  refine wp_cond_false (q10.e (j := 21) rfl) ?_
  go_upto_region 3 with fail
  refine wp_region_lit ?_
  refine q10.t (.int .i64 ((0 : Nat) : Int)) (ex_assign rfl rfl) fun _ q11 => ?_;clear q10
  refine wpList_nil ?_
  go_upto_region 4 with fail
  refine wp_region_lit ?_
  refine q11.t (.int .i64 ((m : Nat) : Int)) (ex_move rfl (q11.e (j := 1) rfl)) fun _ q12 => ?_;clear q11
  by_cases h0 : 0 < m
  · refine q12.t (.bool true) (ex_bin (Y := .int .i64 ((0 : Nat) : Int)) rfl (q12.e (j := 22) rfl) rfl (gtT20 _ _ (by omega) _)) fun _ q13 => ?_;clear q12
    refine q13.t (.bool true) (ex_move rfl (q13.e (j := 23) rfl)) fun _ q14 => ?_;clear q13
    refine vl ((true && (true == true))) (.int .i64 ((m : Nat) : Int)) (want_g rfl rfl (q14.a 24 rfl)) (fun hc => ex_move rfl (q14.e (j := 1) rfl)) rfl q14.z (by decide) (q14.k fun _ q15 => ?_);clear q14
    refine vl ((true && (true == true))) (.int .i64 ((n : Nat) : Int)) (want_g rfl rfl (q15.a 24 rfl)) (fun hc => ex_move rfl (q15.e (j := 3) rfl)) rfl q15.z (by decide) (q15.k fun _ q16 => ?_);clear q15
    by_cases h1 : m < n
    · refine vl ((true && (true == true))) (.bool true) (want_g rfl rfl (q16.a 24 rfl)) (fun hc => ex_bin rfl (ev (q16.a 25 rfl) hc) (ev (q16.a 26 rfl) hc) (ltT20 _ _ (by omega) _)) rfl q16.z (by decide) (q16.k fun _ q17 => ?_);clear q16
      refine q17.t (.bool true) (ex_and (c := true) (b := true) (z := true) rfl (q17.a 24 rfl) (q17.a 27 rfl) rfl) fun _ q18 => ?_;clear q17
      refine wpList_nil ?_
      go_upto_region 5 with fail
      refine wp_cond_true (q18.e (j := 28) rfl) ?_
      go_upto_region 5 with fail
      refine wp_region_lit ?_
      refine q18.t (.int .i64 ((m : Nat) : Int)) (ex_move rfl (q18.e (j := 1) rfl)) fun _ q19 => ?_;clear q18
      refine q19.t (.int .i64 ((n : Nat) : Int)) (ex_move rfl (q19.e (j := 3) rfl)) fun _ q20 => ?_;clear q19
      refine vcallP (want_none rfl) (ex_call rfl (by simp only [List.map_toArray, List.map_cons, List.map_nil, (q20.e (j := 29) rfl), (q20.e (j := 30) rfl), evc] <;> rfl) rfl) (far20 m n true w3 (by omega) (by omega) (by omega)) rfl q20.z (by decide) ?_
      rintro e w5 ⟨rfl, hw5⟩
      refine ⟨_, rfl, q20.k fun _ q21 => ?_⟩;clear q20
      have hw5 := hw5.symm
      subst hw5
      refine q21.t (.int .i64 ((sa m n true : Nat) : Int)) (ex_assign rfl (q21.e (j := 31) rfl)) fun _ q22 => ?_;clear q21
      refine wpList_nil ?_
      go_upto_region 6 with fail
      refine wp_region_lit ?_
      refine q22.t (.slice a k c) (ex_move rfl (q22.e (j := 4) rfl)) fun _ q23 => ?_;clear q22
      refine q23.t (.int .i64 ((k : Nat) : Int)) (ex_lenG rfl rfl Try.underlying42 (q23.e (j := 32) rfl)) fun _ q24 => ?_;clear q23
      refine q24.t (.int .i64 ((sa m n true : Nat) : Int)) (ex_move rfl (q24.e (j := 11) rfl)) fun _ q25 => ?_;clear q24
      by_cases hkk : ¬ k = sa m n true
      · refine q25.t (.bool true) (ex_bin rfl (q25.e (j := 33) rfl) (q25.e (j := 34) rfl) (neT20 _ _ (by omega) _)) fun _ q26 => ?_;clear q25
        refine wpList_nil ?_
        go_upto_region 7 with fail
        refine wp_cond_true (q26.e (j := 35) rfl) ?_
        go_upto_region 7 with fail
        refine wp_region_lit ?_
        refine q26.t (.int .i64 ((201 : Nat) : Int)) (ex_assign rfl rfl) fun _ q27 => ?_;clear q26
        refine wpList_nil ?_
        go_wp2
        have hsb : sbN m n = sa m n true := by unfold sbN; rw [if_neg (by omega)]
        refine bodyPost_ret (results_tmp rfl _ _ _) rfl ?_
        rw [getD_of (q27.a 10 rfl)]
        exact ⟨by rw [exR_n old g m n P hm, hln, hsb, if_pos hkk]; rfl, d4⟩
      · refine q25.t (.bool false) (ex_bin rfl (q25.e (j := 33) rfl) (q25.e (j := 34) rfl) (neF20 _ _ (by omega) _)) fun _ q26 => ?_;clear q25
        refine wpList_nil ?_
        go_upto_region 8 with fail
        refine wp_cond_false (q26.e (j := 35) rfl) ?_
        go_upto_region 8 with fail
        refine wp_region_lit ?_
        refine vcallP (want_none rfl) (ex_call rfl (by simp only [List.map_toArray, List.map_cons, List.map_nil, evc] <;> rfl) rfl) (rsum020 w3) rfl q26.z (by decide) ?_
        rintro e w6 ⟨rfl, bw6⟩
        refine ⟨_, rfl, q26.k fun _ q27 => ?_⟩;clear q26
        have zw6 := bw6.size
        have d7 : Below w.heap.size w w6 := d4.trans (bw6.mono d4.size)
        obtain ⟨w8, hw8⟩ : ∃ y, y = w6.alloc (.cells (zH.cs).toArray 24) := ⟨_, rfl⟩
        refine vw (.pointer (some ⟨w6.heap.size, 0, none⟩)) w8 (want_none rfl) (ex_al rfl (by rw [hw8]; exact alH _)) rfl q27.z (by decide) (q27.k fun _ q28 => ?_);clear q27
        have Bw8 : BB w8 w6.heap.size 24 (zH.cs) := by rw [hw8]; exact BB.new _ _ _
        have bw8 : Below w6.heap.size w6 w8 := by rw [hw8]; exact (Below.refl _ _).alloc (Nat.le_refl _) _
        have zw8 : w8.heap.size = w6.heap.size + 1 := by rw [hw8]; exact World.size_alloc _ _
        clear hw8
        have d9 : Below w.heap.size w w8 := d7.trans (bw8.mono d7.size)
        obtain ⟨w10, hw10⟩ : ∃ y, y = w8.setCells w6.heap.size 0 ((sH []).cs) := ⟨_, rfl⟩
        refine vs w10 (want_none rfl) (ex_st rfl (q28.e (j := 12) rfl) (q28.e (j := 36) rfl) (by rw [hw10]; exact Bw8.stH rfl _)) rfl ?_
        have Bw10 : BB w10 w6.heap.size 24 ((sH []).cs) := by rw [hw10]; exact Bw8.putH rfl _
        have uw10 : Upd (fun k => k = w6.heap.size) w8 w10 := by rw [hw10]; exact upd18 _ _ _ _
        clear hw10
        have zw10 := uw10.size
        have d11 : Below w.heap.size w w10 := d9.trans (bel_ge uw10 d9.size (by omega))
        refine wpList_nil ?_
        go_upto_region 9 with fail
        refine wp_region_lit ?_
        refine q28.t (.int .i64 ((m : Nat) : Int)) (ex_move rfl (q28.e (j := 1) rfl)) fun _ q29 => ?_;clear q28
        refine q29.t (.bool false) (ex_bin (Y := .int .i64 ((0 : Nat) : Int)) rfl (q29.e (j := 38) rfl) rfl (eqF20 _ _ (by omega) _)) fun _ q30 => ?_;clear q29
        refine q30.t (.bool false) (ex_assign rfl (q30.e (j := 39) rfl)) fun _ q31 => ?_;clear q30
        refine wpList_nil ?_
        go_upto_region 13 with fail
        refine wp_cond_false (q31.e (j := 37) rfl) ?_
        go_upto_region 13 with fail
        refine wp_region_lit ?_
        refine q31.t (.int .i64 ((m : Nat) : Int)) (ex_move rfl (q31.e (j := 1) rfl)) fun _ q32 => ?_;clear q31
        refine q32.t (.int .i64 ((n : Nat) : Int)) (ex_move rfl (q32.e (j := 3) rfl)) fun _ q33 => ?_;clear q32
        refine q33.t (.bool false) (ex_bin rfl (q33.e (j := 53) rfl) (q33.e (j := 54) rfl) (eqF20 _ _ (by omega) _)) fun _ q34 => ?_;clear q33
        refine q34.t (.bool false) (ex_assign rfl (q34.e (j := 55) rfl)) fun _ q35 => ?_;clear q34
        refine wpList_nil ?_
        go_upto_region 17 with fail
        refine wp_cond_false (q35.e (j := 52) rfl) ?_
        go_upto_region 17 with fail
        refine wp_region_lit ?_
        refine q35.t (.int .i64 ((m : Nat) : Int)) (ex_move rfl (q35.e (j := 1) rfl)) fun _ q36 => ?_;clear q35
        refine q36.t (.int .i64 ((n : Nat) : Int)) (ex_move rfl (q36.e (j := 3) rfl)) fun _ q37 => ?_;clear q36
        have B12 : BB w10 w.heap.size 24 (old.cs) := ((((Bw1.later bw3).later bw6).later bw8).upd uw10 (show ¬ w.heap.size = w6.heap.size by omega))
        refine q37.t (old.val) (ex_ld rfl (q37.e (j := 5) rfl) B12.ldH) fun _ q38 => ?_;clear q37
        refine q38.t (.slice a k c) (ex_move rfl (q38.e (j := 4) rfl)) fun _ q39 => ?_;clear q38
        refine vcallP (want_none rfl) (ex_call rfl (by simp only [List.map_toArray, List.map_cons, List.map_nil, (q39.e (j := 60) rfl), (q39.e (j := 61) rfl), (q39.e (j := 62) rfl), (q39.e (j := 63) rfl), evc] <;> rfl) rfl) (both20 old m n true P a k c w10 (h.later d11) (by have := Decidable.not_not.1 hkk; rw [this]) (by omega) (by omega) (by omega)) rfl q39.z (by decide) ?_
        rintro e w13 ⟨rfl, bw13⟩
        refine ⟨_, rfl, q39.k fun _ q40 => ?_⟩;clear q39
        have zw13 := bw13.size
        have d14 : Below w.heap.size w w13 := d11.trans (bw13.mono d11.size)
        refine q40.t (.tuple #[((cb old m n true P).1).val, ((cb old m n true P).2).val]) (ex_move rfl (q40.e (j := 64) rfl)) fun _ q41 => ?_;clear q40
        refine q41.t (((cb old m n true P).1).val) (ex_ext18 rfl (q41.e (j := 59) rfl) rfl) fun _ q42 => ?_;clear q41
        refine q42.t (((cb old m n true P).2).val) (ex_ext18 rfl (q42.e (j := 59) rfl) rfl) fun _ q43 => ?_;clear q42
        obtain ⟨w15, hw15⟩ : ∃ y, y = w13.alloc (.cells (zH.cs).toArray 24) := ⟨_, rfl⟩
        refine vw (.pointer (some ⟨w13.heap.size, 0, none⟩)) w15 (want_none rfl) (ex_al rfl (by rw [hw15]; exact alH _)) rfl q43.z (by decide) (q43.k fun _ q44 => ?_);clear q43
        have Bw15 : BB w15 w13.heap.size 24 (zH.cs) := by rw [hw15]; exact BB.new _ _ _
        have bw15 : Below w13.heap.size w13 w15 := by rw [hw15]; exact (Below.refl _ _).alloc (Nat.le_refl _) _
        have zw15 : w15.heap.size = w13.heap.size + 1 := by rw [hw15]; exact World.size_alloc _ _
        clear hw15
        have d16 : Below w.heap.size w w15 := d14.trans (bw15.mono d14.size)
        obtain ⟨w17, hw17⟩ : ∃ y, y = w15.alloc (.cells (zH.cs).toArray 24) := ⟨_, rfl⟩
        refine vw (.pointer (some ⟨w15.heap.size, 0, none⟩)) w17 (want_none rfl) (ex_al rfl (by rw [hw17]; exact alH _)) rfl q44.z (by decide) (q44.k fun _ q45 => ?_);clear q44
        have Bw17 : BB w17 w15.heap.size 24 (zH.cs) := by rw [hw17]; exact BB.new _ _ _
        have bw17 : Below w15.heap.size w15 w17 := by rw [hw17]; exact (Below.refl _ _).alloc (Nat.le_refl _) _
        have zw17 : w17.heap.size = w15.heap.size + 1 := by rw [hw17]; exact World.size_alloc _ _
        clear hw17
        have d18 : Below w.heap.size w w17 := d16.trans (bw17.mono d16.size)
        have B19 : BB w17 w13.heap.size 24 (zH.cs) := (Bw15.later bw17)
        obtain ⟨w20, hw20⟩ : ∃ y, y = w17.setCells w13.heap.size 0 (((cb old m n true P).1).cs) := ⟨_, rfl⟩
        refine vs w20 (want_none rfl) (ex_st rfl (q45.e (j := 13) rfl) (q45.e (j := 65) rfl) (by rw [hw20]; exact B19.stH rfl _)) rfl ?_
        have Bw20 : BB w20 w13.heap.size 24 (((cb old m n true P).1).cs) := by rw [hw20]; exact B19.putH rfl _
        have uw20 : Upd (fun k => k = w13.heap.size) w17 w20 := by rw [hw20]; exact upd18 _ _ _ _
        clear hw20
        have zw20 := uw20.size
        have d21 : Below w.heap.size w w20 := d18.trans (bel_ge uw20 d18.size (by omega))
        have B22 : BB w20 w15.heap.size 24 (zH.cs) := (Bw17.upd uw20 (show ¬ w15.heap.size = w13.heap.size by omega))
        obtain ⟨w23, hw23⟩ : ∃ y, y = w20.setCells w15.heap.size 0 (((cb old m n true P).2).cs) := ⟨_, rfl⟩
        refine vs w23 (want_none rfl) (ex_st rfl (q45.e (j := 14) rfl) (q45.e (j := 66) rfl) (by rw [hw23]; exact B22.stH rfl _)) rfl ?_
        have Bw23 : BB w23 w15.heap.size 24 (((cb old m n true P).2).cs) := by rw [hw23]; exact B22.putH rfl _
        have uw23 : Upd (fun k => k = w15.heap.size) w20 w23 := by rw [hw23]; exact upd18 _ _ _ _
        clear hw23
        have zw23 := uw23.size
        have d24 : Below w.heap.size w w23 := d21.trans (bel_ge uw23 d21.size (by omega))
        refine wpList_nil ?_
        go_upto_region 18 with fail
        refine wp_region_lit ?_
        have B25 : BB w23 w13.heap.size 24 (((cb old m n true P).1).cs) := (Bw20.upd uw23 (show ¬ w13.heap.size = w15.heap.size by omega))
        refine q45.t (((cb old m n true P).1).val) (ex_ld rfl (q45.e (j := 13) rfl) B25.ldH) fun _ q46 => ?_;clear q45
        have B26 : BB w23 w.heap.size 24 (old.cs) := (((((B12.later bw13).later bw15).later bw17).upd uw20 (show ¬ w.heap.size = w13.heap.size by omega)).upd uw23 (show ¬ w.heap.size = w15.heap.size by omega))
        refine q46.t (old.val) (ex_ld rfl (q46.e (j := 5) rfl) B26.ldH) fun _ q47 => ?_;clear q46
        refine q47.t (.bool (!decide (((cb old m n true P).1).v = old.v))) (ex_bin rfl (q47.e (j := 67) rfl) (q47.e (j := 68) rfl) (neHZ _ _ _ _ _)) fun _ q48 => ?_;clear q47
        refine q48.t (.bool (!decide (((cb old m n true P).1).v = old.v))) (ex_move rfl (q48.e (j := 69) rfl)) fun _ q49 => ?_;clear q48
        refine vl ((true && ((!decide (((cb old m n true P).1).v = old.v)) == false))) (((cb old m n true P).2).val) (want_g rfl rfl (q49.a 70 rfl)) (fun hc => ex_ld rfl (q49.e (j := 14) rfl) Bw23.ldH) rfl q49.z (by decide) (q49.k fun _ q50 => ?_);clear q49
        have B27 : BB w23 w1.heap.size 24 (g.cs) := ((((((((Bw3.later bw6).later bw8).upd uw10 (show ¬ w1.heap.size = w6.heap.size by omega)).later bw13).later bw15).later bw17).upd uw20 (show ¬ w1.heap.size = w13.heap.size by omega)).upd uw23 (show ¬ w1.heap.size = w15.heap.size by omega))
        refine vl ((true && ((!decide (((cb old m n true P).1).v = old.v)) == false))) (g.val) (want_g rfl rfl (q50.a 70 rfl)) (fun hc => ex_ld rfl (q50.e (j := 7) rfl) B27.ldH) rfl q50.z (by decide) (q50.k fun _ q51 => ?_);clear q50
        refine vl ((true && ((!decide (((cb old m n true P).1).v = old.v)) == false))) (.bool (!decide (((cb old m n true P).2).v = g.v))) (want_g rfl rfl (q51.a 70 rfl)) (fun hc => ex_bin rfl (ev (q51.a 71 rfl) hc) (ev (q51.a 72 rfl) hc) (neHZ _ _ _ _ _)) rfl q51.z (by decide) (q51.k fun _ q52 => ?_);clear q51
        refine q52.t (.bool ((!decide (((cb old m n true P).1).v = old.v)) || (!decide (((cb old m n true P).2).v = g.v)))) (ex_or (c := true) (b := (!decide (((cb old m n true P).1).v = old.v))) (z := (!decide (((cb old m n true P).2).v = g.v))) rfl (q52.a 70 rfl) (q52.a 73 rfl) rfl) fun _ q53 => ?_;clear q52
        refine wpList_nil ?_
        cases hc74 : (!decide (((cb old m n true P).1).v = old.v)) || (!decide (((cb old m n true P).2).v = g.v))
        · rw [hc74] at q53
          have hc74h := hide hc74
          clear hc74
          go_upto_region 20 with fail
          refine wp_cond_false (q53.e (j := 74) rfl) ?_
          go_upto_region 20 with fail
          refine wp_region_lit ?_
          refine q53.t (.int .i64 ((0 : Nat) : Int)) (ex_assign rfl rfl) fun _ q54 => ?_;clear q53
          refine wpList_nil ?_
          go_wp2
          have hsb : sbN m n = sa m n true := by unfold sbN; rw [if_neg (by omega)]
          have hj : jnR old m n g P = true := by unfold jnR; rw [if_neg (by omega), if_neg (by omega)]; have h5 := hc74h.out; revert h5; by_cases e1 : (cb old m n true P).1.v = old.v <;> by_cases e2 : (cb old m n true P).2.v = g.v <;> simp [e1, e2]
          refine bodyPost_ret (results_tmp rfl _ _ _) rfl ?_
          rw [getD_of (q54.a 10 rfl)]
          exact ⟨by rw [exR_n old g m n P hm, hln, hsb, if_neg hkk, hj, if_pos rfl]; rfl, d24⟩
        · rw [hc74] at q53
          have hc74h := hide hc74
          clear hc74
          go_upto_region 19 with fail
          refine wp_cond_true (q53.e (j := 74) rfl) ?_
          go_upto_region 19 with fail
          refine wp_region_lit ?_
          refine q53.t (.int .i64 ((202 : Nat) : Int)) (ex_assign rfl rfl) fun _ q54 => ?_;clear q53
          refine wpList_nil ?_
          go_wp2
          have hsb : sbN m n = sa m n true := by unfold sbN; rw [if_neg (by omega)]
          have hj : jnR old m n g P = false := by unfold jnR; rw [if_neg (by omega), if_neg (by omega)]; have h5 := hc74h.out; revert h5; by_cases e1 : (cb old m n true P).1.v = old.v <;> by_cases e2 : (cb old m n true P).2.v = g.v <;> simp [e1, e2]
          refine bodyPost_ret (results_tmp rfl _ _ _) rfl ?_
          rw [getD_of (q54.a 10 rfl)]
          exact ⟨by rw [exR_n old g m n P hm, hln, hsb, if_neg hkk, hj, if_neg (by decide)]; rfl, d24⟩
    · refine vl ((true && (true == true))) (.bool false) (want_g rfl rfl (q16.a 24 rfl)) (fun hc => ex_bin rfl (ev (q16.a 25 rfl) hc) (ev (q16.a 26 rfl) hc) (ltF20 _ _ (by omega) _)) rfl q16.z (by decide) (q16.k fun _ q17 => ?_);clear q16
      refine q17.t (.bool false) (ex_and (c := true) (b := true) (z := false) rfl (q17.a 24 rfl) (q17.a 27 rfl) rfl) fun _ q18 => ?_;clear q17
      refine wpList_nil ?_
      go_upto_region 6 with fail
      refine wp_cond_false (q18.e (j := 28) rfl) ?_
      go_upto_region 6 with fail
      refine wp_region_lit ?_
      refine q18.t (.slice a k c) (ex_move rfl (q18.e (j := 4) rfl)) fun _ q19 => ?_;clear q18
      refine q19.t (.int .i64 ((k : Nat) : Int)) (ex_lenG rfl rfl Try.underlying42 (q19.e (j := 32) rfl)) fun _ q20 => ?_;clear q19
      refine q20.t (.int .i64 ((0 : Nat) : Int)) (ex_move rfl (q20.e (j := 11) rfl)) fun _ q21 => ?_;clear q20
      by_cases hkk : ¬ k = 0
      · refine q21.t (.bool true) (ex_bin rfl (q21.e (j := 33) rfl) (q21.e (j := 34) rfl) (neT20 _ _ (by omega) _)) fun _ q22 => ?_;clear q21
        refine wpList_nil ?_
        go_upto_region 7 with fail
        refine wp_cond_true (q22.e (j := 35) rfl) ?_
        go_upto_region 7 with fail
        refine wp_region_lit ?_
        refine q22.t (.int .i64 ((201 : Nat) : Int)) (ex_assign rfl rfl) fun _ q23 => ?_;clear q22
        refine wpList_nil ?_
        go_wp2
        have hsb : sbN m n = 0 := by unfold sbN; rw [if_neg (by omega), show m = n by omega, sa_e]; rfl
        refine bodyPost_ret (results_tmp rfl _ _ _) rfl ?_
        rw [getD_of (q23.a 10 rfl)]
        exact ⟨by rw [exR_n old g m n P hm, hln, hsb, if_pos hkk]; rfl, d4⟩
      · refine q21.t (.bool false) (ex_bin rfl (q21.e (j := 33) rfl) (q21.e (j := 34) rfl) (neF20 _ _ (by omega) _)) fun _ q22 => ?_;clear q21
        refine wpList_nil ?_
        go_upto_region 8 with fail
        refine wp_cond_false (q22.e (j := 35) rfl) ?_
        go_upto_region 8 with fail
        refine wp_region_lit ?_
        refine vcallP (want_none rfl) (ex_call rfl (by simp only [List.map_toArray, List.map_cons, List.map_nil, evc] <;> rfl) rfl) (rsum020 w3) rfl q22.z (by decide) ?_
        rintro e w5 ⟨rfl, bw5⟩
        refine ⟨_, rfl, q22.k fun _ q23 => ?_⟩;clear q22
        have zw5 := bw5.size
        have d6 : Below w.heap.size w w5 := d4.trans (bw5.mono d4.size)
        obtain ⟨w7, hw7⟩ : ∃ y, y = w5.alloc (.cells (zH.cs).toArray 24) := ⟨_, rfl⟩
        refine vw (.pointer (some ⟨w5.heap.size, 0, none⟩)) w7 (want_none rfl) (ex_al rfl (by rw [hw7]; exact alH _)) rfl q23.z (by decide) (q23.k fun _ q24 => ?_);clear q23
        have Bw7 : BB w7 w5.heap.size 24 (zH.cs) := by rw [hw7]; exact BB.new _ _ _
        have bw7 : Below w5.heap.size w5 w7 := by rw [hw7]; exact (Below.refl _ _).alloc (Nat.le_refl _) _
        have zw7 : w7.heap.size = w5.heap.size + 1 := by rw [hw7]; exact World.size_alloc _ _
        clear hw7
        have d8 : Below w.heap.size w w7 := d6.trans (bw7.mono d6.size)
        obtain ⟨w9, hw9⟩ : ∃ y, y = w7.setCells w5.heap.size 0 ((sH []).cs) := ⟨_, rfl⟩
        refine vs w9 (want_none rfl) (ex_st rfl (q24.e (j := 12) rfl) (q24.e (j := 36) rfl) (by rw [hw9]; exact Bw7.stH rfl _)) rfl ?_
        have Bw9 : BB w9 w5.heap.size 24 ((sH []).cs) := by rw [hw9]; exact Bw7.putH rfl _
        have uw9 : Upd (fun k => k = w5.heap.size) w7 w9 := by rw [hw9]; exact upd18 _ _ _ _
        clear hw9
        have zw9 := uw9.size
        have d10 : Below w.heap.size w w9 := d8.trans (bel_ge uw9 d8.size (by omega))
        refine wpList_nil ?_
        go_upto_region 9 with fail
        refine wp_region_lit ?_
        refine q24.t (.int .i64 ((m : Nat) : Int)) (ex_move rfl (q24.e (j := 1) rfl)) fun _ q25 => ?_;clear q24
        refine q25.t (.bool false) (ex_bin (Y := .int .i64 ((0 : Nat) : Int)) rfl (q25.e (j := 38) rfl) rfl (eqF20 _ _ (by omega) _)) fun _ q26 => ?_;clear q25
        refine q26.t (.bool false) (ex_assign rfl (q26.e (j := 39) rfl)) fun _ q27 => ?_;clear q26
        refine wpList_nil ?_
        go_upto_region 13 with fail
        refine wp_cond_false (q27.e (j := 37) rfl) ?_
        go_upto_region 13 with fail
        refine wp_region_lit ?_
        refine q27.t (.int .i64 ((m : Nat) : Int)) (ex_move rfl (q27.e (j := 1) rfl)) fun _ q28 => ?_;clear q27
        refine q28.t (.int .i64 ((n : Nat) : Int)) (ex_move rfl (q28.e (j := 3) rfl)) fun _ q29 => ?_;clear q28
        refine q29.t (.bool true) (ex_bin rfl (q29.e (j := 53) rfl) (q29.e (j := 54) rfl) (eqT20 _ _ (by omega) _)) fun _ q30 => ?_;clear q29
        refine q30.t (.bool true) (ex_assign rfl (q30.e (j := 55) rfl)) fun _ q31 => ?_;clear q30
        refine wpList_nil ?_
        go_upto_region 14 with fail
        refine wp_cond_true (q31.e (j := 52) rfl) ?_
        go_upto_region 14 with fail
        refine wp_region_lit ?_
        have B11 : BB w9 w.heap.size 24 (old.cs) := ((((Bw1.later bw3).later bw5).later bw7).upd uw9 (show ¬ w.heap.size = w5.heap.size by omega))
        refine q31.t (old.val) (ex_ld rfl (q31.e (j := 5) rfl) B11.ldH) fun _ q32 => ?_;clear q31
        have B12 : BB w9 w1.heap.size 24 (g.cs) := (((Bw3.later bw5).later bw7).upd uw9 (show ¬ w1.heap.size = w5.heap.size by omega))
        refine q32.t (g.val) (ex_ld rfl (q32.e (j := 7) rfl) B12.ldH) fun _ q33 => ?_;clear q32
        refine q33.t (.bool (!decide (old.v = g.v))) (ex_bin rfl (q33.e (j := 56) rfl) (q33.e (j := 57) rfl) (neHZ _ _ _ _ _)) fun _ q34 => ?_;clear q33
        refine wpList_nil ?_
        by_cases hc58 : old.v = g.v
        · rw [decide_eq_true hc58] at q34
          have hc58h := hide hc58
          clear hc58
          go_upto_region 16 with fail
          refine wp_cond_false (q34.e (j := 58) rfl) ?_
          go_upto_region 16 with fail
          refine wp_region_lit ?_
          refine q34.t (.int .i64 ((0 : Nat) : Int)) (ex_assign rfl rfl) fun _ q35 => ?_;clear q34
          refine wpList_nil ?_
          go_wp2
          have hsb : sbN m n = 0 := by unfold sbN; rw [if_neg (by omega), show m = n by omega, sa_e]; rfl
          have hj : jnR old m n g P = true := by unfold jnR; rw [if_neg (by omega), if_pos (by omega)]; have h5 := hc58h.out; exact decide_eq_true h5
          refine bodyPost_ret (results_tmp rfl _ _ _) rfl ?_
          rw [getD_of (q35.a 10 rfl)]
          exact ⟨by rw [exR_n old g m n P hm, hln, hsb, if_neg hkk, hj, if_pos rfl]; rfl, d10⟩
        · rw [decide_eq_false hc58] at q34
          have hc58h := hide hc58
          clear hc58
          go_upto_region 15 with fail
          refine wp_cond_true (q34.e (j := 58) rfl) ?_
          go_upto_region 15 with fail
          refine wp_region_lit ?_
          refine q34.t (.int .i64 ((202 : Nat) : Int)) (ex_assign rfl rfl) fun _ q35 => ?_;clear q34
          refine wpList_nil ?_
          go_wp2
          have hsb : sbN m n = 0 := by unfold sbN; rw [if_neg (by omega), show m = n by omega, sa_e]; rfl
          have hj : jnR old m n g P = false := by unfold jnR; rw [if_neg (by omega), if_pos (by omega)]; have h5 := hc58h.out; exact decide_eq_false h5
          refine bodyPost_ret (results_tmp rfl _ _ _) rfl ?_
          rw [getD_of (q35.a 10 rfl)]
          exact ⟨by rw [exR_n old g m n P hm, hln, hsb, if_neg hkk, hj, if_neg (by decide)]; rfl, d10⟩
  · refine q12.t (.bool false) (ex_bin (Y := .int .i64 ((0 : Nat) : Int)) rfl (q12.e (j := 22) rfl) rfl (gtF20 _ _ (by omega) _)) fun _ q13 => ?_;clear q12
    refine q13.t (.bool false) (ex_move rfl (q13.e (j := 23) rfl)) fun _ q14 => ?_;clear q13
    refine vl ((true && (false == true))) (undef) (want_g rfl rfl (q14.a 24 rfl)) (fun hc => absurd hc (by decide)) rfl q14.z (by decide) (q14.k fun _ q15 => ?_);clear q14
    refine vl ((true && (false == true))) (undef) (want_g rfl rfl (q15.a 24 rfl)) (fun hc => absurd hc (by decide)) rfl q15.z (by decide) (q15.k fun _ q16 => ?_);clear q15
    refine vl ((true && (false == true))) (.bool false) (want_g rfl rfl (q16.a 24 rfl)) (fun hc => absurd hc (by decide)) rfl q16.z (by decide) (q16.k fun _ q17 => ?_);clear q16
    refine q17.t (.bool false) (ex_and (c := true) (b := false) (z := false) rfl (q17.a 24 rfl) (q17.a 27 rfl) rfl) fun _ q18 => ?_;clear q17
    refine wpList_nil ?_
    go_upto_region 6 with fail
    refine wp_cond_false (q18.e (j := 28) rfl) ?_
    go_upto_region 6 with fail
    refine wp_region_lit ?_
    refine q18.t (.slice a k c) (ex_move rfl (q18.e (j := 4) rfl)) fun _ q19 => ?_;clear q18
    refine q19.t (.int .i64 ((k : Nat) : Int)) (ex_lenG rfl rfl Try.underlying42 (q19.e (j := 32) rfl)) fun _ q20 => ?_;clear q19
    refine q20.t (.int .i64 ((0 : Nat) : Int)) (ex_move rfl (q20.e (j := 11) rfl)) fun _ q21 => ?_;clear q20
    by_cases hkk : ¬ k = 0
    · refine q21.t (.bool true) (ex_bin rfl (q21.e (j := 33) rfl) (q21.e (j := 34) rfl) (neT20 _ _ (by omega) _)) fun _ q22 => ?_;clear q21
      refine wpList_nil ?_
      go_upto_region 7 with fail
      refine wp_cond_true (q22.e (j := 35) rfl) ?_
      go_upto_region 7 with fail
      refine wp_region_lit ?_
      refine q22.t (.int .i64 ((201 : Nat) : Int)) (ex_assign rfl rfl) fun _ q23 => ?_;clear q22
      refine wpList_nil ?_
      go_wp2
      have hsb : sbN m n = 0 := by unfold sbN; rw [if_pos (by omega)]
      refine bodyPost_ret (results_tmp rfl _ _ _) rfl ?_
      rw [getD_of (q23.a 10 rfl)]
      exact ⟨by rw [exR_n old g m n P hm, hln, hsb, if_pos hkk]; rfl, d4⟩
    · refine q21.t (.bool false) (ex_bin rfl (q21.e (j := 33) rfl) (q21.e (j := 34) rfl) (neF20 _ _ (by omega) _)) fun _ q22 => ?_;clear q21
      refine wpList_nil ?_
      go_upto_region 8 with fail
      refine wp_cond_false (q22.e (j := 35) rfl) ?_
      go_upto_region 8 with fail
      refine wp_region_lit ?_
      refine vcallP (want_none rfl) (ex_call rfl (by simp only [List.map_toArray, List.map_cons, List.map_nil, evc] <;> rfl) rfl) (rsum020 w3) rfl q22.z (by decide) ?_
      rintro e w5 ⟨rfl, bw5⟩
      refine ⟨_, rfl, q22.k fun _ q23 => ?_⟩;clear q22
      have zw5 := bw5.size
      have d6 : Below w.heap.size w w5 := d4.trans (bw5.mono d4.size)
      obtain ⟨w7, hw7⟩ : ∃ y, y = w5.alloc (.cells (zH.cs).toArray 24) := ⟨_, rfl⟩
      refine vw (.pointer (some ⟨w5.heap.size, 0, none⟩)) w7 (want_none rfl) (ex_al rfl (by rw [hw7]; exact alH _)) rfl q23.z (by decide) (q23.k fun _ q24 => ?_);clear q23
      have Bw7 : BB w7 w5.heap.size 24 (zH.cs) := by rw [hw7]; exact BB.new _ _ _
      have bw7 : Below w5.heap.size w5 w7 := by rw [hw7]; exact (Below.refl _ _).alloc (Nat.le_refl _) _
      have zw7 : w7.heap.size = w5.heap.size + 1 := by rw [hw7]; exact World.size_alloc _ _
      clear hw7
      have d8 : Below w.heap.size w w7 := d6.trans (bw7.mono d6.size)
      obtain ⟨w9, hw9⟩ : ∃ y, y = w7.setCells w5.heap.size 0 ((sH []).cs) := ⟨_, rfl⟩
      refine vs w9 (want_none rfl) (ex_st rfl (q24.e (j := 12) rfl) (q24.e (j := 36) rfl) (by rw [hw9]; exact Bw7.stH rfl _)) rfl ?_
      have Bw9 : BB w9 w5.heap.size 24 ((sH []).cs) := by rw [hw9]; exact Bw7.putH rfl _
      have uw9 : Upd (fun k => k = w5.heap.size) w7 w9 := by rw [hw9]; exact upd18 _ _ _ _
      clear hw9
      have zw9 := uw9.size
      have d10 : Below w.heap.size w w9 := d8.trans (bel_ge uw9 d8.size (by omega))
      refine wpList_nil ?_
      go_upto_region 9 with fail
      refine wp_region_lit ?_
      refine q24.t (.int .i64 ((m : Nat) : Int)) (ex_move rfl (q24.e (j := 1) rfl)) fun _ q25 => ?_;clear q24
      refine q25.t (.bool true) (ex_bin (Y := .int .i64 ((0 : Nat) : Int)) rfl (q25.e (j := 38) rfl) rfl (eqT20 _ _ (by omega) _)) fun _ q26 => ?_;clear q25
      refine q26.t (.bool true) (ex_assign rfl (q26.e (j := 39) rfl)) fun _ q27 => ?_;clear q26
      refine wpList_nil ?_
      go_upto_region 10 with fail
      refine wp_cond_true (q27.e (j := 37) rfl) ?_
      go_upto_region 10 with fail
      refine wp_region_lit ?_
      have B11 : BB w9 w.heap.size 24 (old.cs) := ((((Bw1.later bw3).later bw5).later bw7).upd uw9 (show ¬ w.heap.size = w5.heap.size by omega))
      refine q27.t (old.val) (ex_ld rfl (q27.e (j := 5) rfl) B11.ldH) fun _ q28 => ?_;clear q27
      refine q28.t ((sH []).val) (ex_ld rfl (q28.e (j := 12) rfl) Bw9.ldH) fun _ q29 => ?_;clear q28
      refine q29.t (.bool (!decide (old.v = (sH []).v))) (ex_bin rfl (q29.e (j := 40) rfl) (q29.e (j := 41) rfl) (neHZ _ _ _ _ _)) fun _ q30 => ?_;clear q29
      refine q30.t (.bool (!decide (old.v = (sH []).v))) (ex_move rfl (q30.e (j := 42) rfl)) fun _ q31 => ?_;clear q30
      refine vl ((true && ((!decide (old.v = (sH []).v)) == false))) (.int .i64 ((n : Nat) : Int)) (want_g rfl rfl (q31.a 43 rfl)) (fun hc => ex_move rfl (q31.e (j := 3) rfl)) rfl q31.z (by decide) (q31.k fun _ q32 => ?_);clear q31
      refine vl ((true && ((!decide (old.v = (sH []).v)) == false))) (.bool (decide (((n : Nat) : Int) = ((0 : Nat) : Int)))) (want_g rfl rfl (q32.a 43 rfl)) (fun hc => ex_bin (Y := .int .i64 ((0 : Nat) : Int)) rfl (ev (q32.a 44 rfl) hc) rfl (eqZ20 _ _ _ _ _)) rfl q32.z (by decide) (q32.k fun _ q33 => ?_);clear q32
      refine vl ((true && ((!decide (old.v = (sH []).v)) == false))) (.bool (decide (((n : Nat) : Int) = ((0 : Nat) : Int)))) (want_g rfl rfl (q33.a 43 rfl)) (fun hc => ex_move rfl (ev (q33.a 45 rfl) hc)) rfl q33.z (by decide) (q33.k fun _ q34 => ?_);clear q33
      have B12 : BB w9 w1.heap.size 24 (g.cs) := (((Bw3.later bw5).later bw7).upd uw9 (show ¬ w1.heap.size = w5.heap.size by omega))
      refine vl (((true && ((!decide (old.v = (sH []).v)) == false)) && ((decide (((n : Nat) : Int) = ((0 : Nat) : Int))) == true))) (g.val) (want_g rfl rfl (q34.a 46 rfl)) (fun hc => ex_ld rfl (q34.e (j := 7) rfl) B12.ldH) rfl q34.z (by decide) (q34.k fun _ q35 => ?_);clear q34
      refine vl (((true && ((!decide (old.v = (sH []).v)) == false)) && ((decide (((n : Nat) : Int) = ((0 : Nat) : Int))) == true))) ((sH []).val) (want_g rfl rfl (q35.a 46 rfl)) (fun hc => ex_ld rfl (q35.e (j := 12) rfl) Bw9.ldH) rfl q35.z (by decide) (q35.k fun _ q36 => ?_);clear q35
      refine vl (((true && ((!decide (old.v = (sH []).v)) == false)) && ((decide (((n : Nat) : Int) = ((0 : Nat) : Int))) == true))) (.bool (!decide (g.v = (sH []).v))) (want_g rfl rfl (q36.a 46 rfl)) (fun hc => ex_bin rfl (ev (q36.a 47 rfl) hc) (ev (q36.a 48 rfl) hc) (neHZ _ _ _ _ _)) rfl q36.z (by decide) (q36.k fun _ q37 => ?_);clear q36
      refine vl ((true && ((!decide (old.v = (sH []).v)) == false))) (.bool ((decide (((n : Nat) : Int) = ((0 : Nat) : Int))) && (!decide (g.v = (sH []).v)))) (want_g rfl rfl (q37.a 43 rfl)) (fun hc => ex_and (c := (true && ((!decide (old.v = (sH []).v)) == false))) (b := (decide (((n : Nat) : Int) = ((0 : Nat) : Int)))) (z := (!decide (g.v = (sH []).v))) rfl (q37.a 46 rfl) (q37.a 49 rfl) hc) rfl q37.z (by decide) (q37.k fun _ q38 => ?_);clear q37
      refine q38.t (.bool ((!decide (old.v = (sH []).v)) || ((decide (((n : Nat) : Int) = ((0 : Nat) : Int))) && (!decide (g.v = (sH []).v))))) (ex_or (c := true) (b := (!decide (old.v = (sH []).v))) (z := ((decide (((n : Nat) : Int) = ((0 : Nat) : Int))) && (!decide (g.v = (sH []).v)))) rfl (q38.a 43 rfl) (q38.a 50 rfl) rfl) fun _ q39 => ?_;clear q38
      refine wpList_nil ?_
      cases hc51 : (!decide (old.v = (sH []).v)) || ((decide (((n : Nat) : Int) = ((0 : Nat) : Int))) && (!decide (g.v = (sH []).v)))
      · rw [hc51] at q39
        have hc51h := hide hc51
        clear hc51
        go_upto_region 12 with fail
        refine wp_cond_false (q39.e (j := 51) rfl) ?_
        go_upto_region 12 with fail
        refine wp_region_lit ?_
        refine q39.t (.int .i64 ((0 : Nat) : Int)) (ex_assign rfl rfl) fun _ q40 => ?_;clear q39
        refine wpList_nil ?_
        go_wp2
        have hsb : sbN m n = 0 := by unfold sbN; rw [if_pos (by omega)]
        have hj : jnR old m n g P = true := by unfold jnR; rw [if_pos (by omega)]; have h5 := hc51h.out; revert h5; by_cases e1 : old.v = (sH []).v <;> by_cases e2 : g.v = (sH []).v <;> by_cases e3 : n = 0 <;> simp [e1, e2, e3] <;> omega
        refine bodyPost_ret (results_tmp rfl _ _ _) rfl ?_
        rw [getD_of (q40.a 10 rfl)]
        exact ⟨by rw [exR_n old g m n P hm, hln, hsb, if_neg hkk, hj, if_pos rfl]; rfl, d10⟩
      · rw [hc51] at q39
        have hc51h := hide hc51
        clear hc51
        go_upto_region 11 with fail
        refine wp_cond_true (q39.e (j := 51) rfl) ?_
        go_upto_region 11 with fail
        refine wp_region_lit ?_
        refine q39.t (.int .i64 ((202 : Nat) : Int)) (ex_assign rfl rfl) fun _ q40 => ?_;clear q39
        refine wpList_nil ?_
        go_wp2
        have hsb : sbN m n = 0 := by unfold sbN; rw [if_pos (by omega)]
        have hj : jnR old m n g P = false := by unfold jnR; rw [if_pos (by omega)]; have h5 := hc51h.out; revert h5; by_cases e1 : old.v = (sH []).v <;> by_cases e2 : g.v = (sH []).v <;> by_cases e3 : n = 0 <;> simp [e1, e2, e3] <;> omega
        refine bodyPost_ret (results_tmp rfl _ _ _) rfl ?_
        rw [getD_of (q40.a 10 rfl)]
        exact ⟨by rw [exR_n old g m n P hm, hln, hsb, if_neg hkk, hj, if_neg (by decide)]; rfl, d10⟩
set_option maxHeartbeats 2000000 in
theorem rextZ20 (old g : Hs) (m n : Int) (P : List Hs) (a : Option Addr) (k c : Nat) (w : World) (h : SlY yH w a k c P) (hb : m < 0 ∨ n < m) :
    Calls Try.prog 30 #[old.val, .int .i64 m, g.val, .int .i64 n, .slice a k c] w fun e w' => e = .returned (.int .i64 (exR old m g n P)) ∧ Below w.heap.size w w' := by
  have hln := h.len
  go_enter Try.func30, Try.ntmps30
  go_upto_region 0 with fail
  refine wp_region_lit ?_
  refine vl_gen (fun T => Rp T 75 [(4, gw true (.slice a k c)), (3, gw true (.int .i64 (n : Int))), (2, gw true (g.val)), (1, gw true (.int .i64 (m : Int))), (0, gw true (old.val))]) ((((((Rp.nil rfl).cons rfl).cons rfl).cons rfl).cons rfl).cons rfl) (fun Z0 q0 => ?_)
  obtain ⟨w1, hw1⟩ : ∃ y, y = w.alloc (.cells (old.cs).toArray 24) := ⟨_, rfl⟩
  refine vw (.pointer (some ⟨w.heap.size, 0, none⟩)) w1 (want_none rfl) (ex_box18 rfl (q0.e (j := 0) rfl) (by rw [hw1]; exact bxH20 _ _)) rfl q0.z (by decide) (q0.k fun _ q1 => ?_);clear q0
  have Bw1 : BB w1 w.heap.size 24 (old.cs) := by rw [hw1]; exact BB.new _ _ _
  have bw1 : Below w.heap.size w w1 := by rw [hw1]; exact (Below.refl _ _).alloc (Nat.le_refl _) _
  have zw1 : w1.heap.size = w.heap.size + 1 := by rw [hw1]; exact World.size_alloc _ _
  clear hw1
  have d2 : Below w.heap.size w w1 := bw1
  obtain ⟨w3, hw3⟩ : ∃ y, y = w1.alloc (.cells (g.cs).toArray 24) := ⟨_, rfl⟩
  refine vw (.pointer (some ⟨w1.heap.size, 0, none⟩)) w3 (want_none rfl) (ex_box18 rfl (q1.e (j := 2) rfl) (by rw [hw3]; exact bxH20 _ _)) rfl q1.z (by decide) (q1.k fun _ q2 => ?_);clear q1
  have Bw3 : BB w3 w1.heap.size 24 (g.cs) := by rw [hw3]; exact BB.new _ _ _
  have bw3 : Below w1.heap.size w1 w3 := by rw [hw3]; exact (Below.refl _ _).alloc (Nat.le_refl _) _
  have zw3 : w3.heap.size = w1.heap.size + 1 := by rw [hw3]; exact World.size_alloc _ _
  clear hw3
  have d4 : Below w.heap.size w w3 := d2.trans (bw3.mono d2.size)
  refine q2.t (.int .i64 ((0 : Nat) : Int)) (ex_assign rfl rfl) fun _ q3 => ?_;clear q2
  refine wpList_nil ?_
  go_upto_region 1 with fail
  refine wp_region_lit ?_
  refine q3.t (.int .i64 (m : Int)) (ex_move rfl (q3.e (j := 1) rfl)) fun _ q4 => ?_;clear q3
  refine q4.t (.bool (decide ((m : Int) < ((0 : Nat) : Int)))) (ex_bin (Y := .int .i64 ((0 : Nat) : Int)) rfl (q4.e (j := 15) rfl) rfl (ltZ20 _ _ _ _ _)) fun _ q5 => ?_;clear q4
  refine q5.t (.bool (decide ((m : Int) < ((0 : Nat) : Int)))) (ex_move rfl (q5.e (j := 16) rfl)) fun _ q6 => ?_;clear q5
  refine vl ((true && ((decide ((m : Int) < ((0 : Nat) : Int))) == false))) (.int .i64 (n : Int)) (want_g rfl rfl (q6.a 17 rfl)) (fun hc => ex_move rfl (q6.e (j := 3) rfl)) rfl q6.z (by decide) (q6.k fun _ q7 => ?_);clear q6
  refine vl ((true && ((decide ((m : Int) < ((0 : Nat) : Int))) == false))) (.int .i64 (m : Int)) (want_g rfl rfl (q7.a 17 rfl)) (fun hc => ex_move rfl (q7.e (j := 1) rfl)) rfl q7.z (by decide) (q7.k fun _ q8 => ?_);clear q7
  refine vl ((true && ((decide ((m : Int) < ((0 : Nat) : Int))) == false))) (.bool (decide ((n : Int) < (m : Int)))) (want_g rfl rfl (q8.a 17 rfl)) (fun hc => ex_bin rfl (ev (q8.a 18 rfl) hc) (ev (q8.a 19 rfl) hc) (ltZ20 _ _ _ _ _)) rfl q8.z (by decide) (q8.k fun _ q9 => ?_);clear q8
  refine q9.t (.bool ((decide ((m : Int) < ((0 : Nat) : Int))) || (decide ((n : Int) < (m : Int))))) (ex_or (c := true) (b := (decide ((m : Int) < ((0 : Nat) : Int)))) (z := (decide ((n : Int) < (m : Int)))) rfl (q9.a 17 rfl) (q9.a 20 rfl) rfl) fun _ q10 => ?_;clear q9
  refine wpList_nil ?_
  cases hc21 : (decide ((m : Int) < ((0 : Nat) : Int))) || (decide ((n : Int) < (m : Int)))
  · rw [hc21] at q10
    exact absurd hc21 (by rcases hb with hb | hb <;> simp [hb])
  · rw [hc21] at q10
    have hc21h := hide hc21
    clear hc21
    go_upto_region 2 with fail
    refine wp_cond_true (q10.e (j := 21) rfl) ?_
    go_upto_region 2 with fail
    refine wp_region_lit ?_
    refine q10.t (.int .i64 ((200 : Nat) : Int)) (ex_assign rfl rfl) fun _ q11 => ?_;clear q10
    refine wpList_nil ?_
    go_wp2
    refine bodyPost_ret (results_tmp rfl _ _ _) rfl ?_
    rw [getD_of (q11.a 10 rfl)]
    exact ⟨by unfold exR; rw [if_pos hb]; rfl, d4⟩
theorem rextends20 (old : Hs) (m : Int) (g : Hs) (n : Int) (P : List Hs) (a : Option Addr) (k c : Nat) (w : World) (h : SlY yH w a k c P) (hn : n ≤ 9223372036854775807) :
    Calls Try.prog 30 #[old.val, .int .i64 m, g.val, .int .i64 n, .slice a k c] w fun e w' => e = .returned (.int .i64 (exR old m g n P)) ∧ Below w.heap.size w w' := by
  by_cases hb : m < 0 ∨ n < m
  · exact rextZ20 old g m n P a k c w h hb
  · obtain ⟨j, rfl⟩ : ∃ j : Nat, m = (j : Int) := ⟨m.toNat, by omega⟩
    obtain ⟨i, rfl⟩ : ∃ i : Nat, n = (i : Int) := ⟨n.toNat, by omega⟩
    exact rextN20 old g j i P a k c w h (by omega) (by omega)
end Go.Proofs.Ytomiifnhcojilaa
namespace Go.Proofs.Ytomiifnhcojilaa.M
def rb (l : List Int) : Nat := l.foldl (fun v z => v * 256 + z.toNat) 0
theorem rb_snoc (l : List Int) (z : Int) : rb (l ++ [z]) = rb l * 256 + z.toNat := by simp [rb]
theorem rb_lt (l : List Int) (h : ∀ z ∈ l, 0 ≤ z ∧ z < 256) : rb l < 256 ^ l.length := by
  have key : ∀ (r : List Int) (v n : Nat), (∀ z ∈ r, 0 ≤ z ∧ z < 256) → v < 256 ^ n → r.foldl (fun v z => v * 256 + z.toNat) v < 256 ^ (n + r.length) := by
    intro r
    induction r with
    | nil => intro v n _ hv; simpa using hv
    | cons z r ih =>
      intro v n hr hv
      have hz := hr z (by simp)
      have := ih (v * 256 + z.toNat) (n + 1) (fun y hy => hr y (by simp [hy])) (by rw [Nat.pow_succ]; omega)
      simpa [Nat.add_assoc, Nat.add_comm 1] using this
  simpa [rb] using key l 0 0 h (by simp)
end Go.Proofs.Ytomiifnhcojilaa.M
namespace Go.Proofs.Ytomiifnhcojilaa.Wi
open Go.RowKit
end Go.Proofs.Ytomiifnhcojilaa.Wi
namespace Go.Proofs.Ytomiifnhcojilaa.Wi
open Go.RowKit
end Go.Proofs.Ytomiifnhcojilaa.Wi
namespace Go.Proofs.Ytomiifnhcojilaa.Wi
open Go.RowKit
end Go.Proofs.Ytomiifnhcojilaa.Wi
namespace Go.Proofs.Ytomiifnhcojilaa.Wi
open Go.RowKit
theorem own_built (w : World) (C : Array Value) (n : Nat) (l : List Int) (hn : l.length = n) (hC : C.toList = bs l) (hm : n ≤ maxLen) : Own w.heap.size (w.alloc (.cells C 5)) (.slice (some ⟨w.heap.size, 0, none⟩) n n) l := by
  subst hn
  have hsz : C.size = l.length := by rw [← Array.length_toList, hC]; simp [bs]
  refine ⟨by simp [bs], .inr ⟨w.heap.size, l.length, C, rfl, Nat.le_refl _, heap_alloc_new w _, Nat.le_refl _, hm, by rw [hsz, Nat.mul_one], ?_⟩⟩
  rw [hC]
  exact List.take_of_length_le (by simp [bs])
end Go.Proofs.Ytomiifnhcojilaa.Wi
namespace Go.Proofs.Ytomiifnhcojilaa.Wi
open Go.RowKit
end Go.Proofs.Ytomiifnhcojilaa.Wi
namespace Go.Proofs.Ytomiifnhcojilaa.Wi
open Go.RowKit
end Go.Proofs.Ytomiifnhcojilaa.Wi
namespace Go.Proofs.Ytomiifnhcojilaa.Wi
open Go.RowKit
end Go.Proofs.Ytomiifnhcojilaa.Wi
namespace Go.Proofs.Ytomiifnhcojilaa.Wi
/-! A number's one form: what is read without an error is the number's form. -/
theorem dig_snoc (v K i : Nat) (z : Int) (h0 : 0 ≤ z) (h1 : z < 256) (hi : i < K) : M.dig (v * 256 + z.toNat) (K + 1) i = M.dig v K i := by
  unfold M.dig
  have e : 8 * (K + 1 - 1 - i) = 8 + 8 * (K - 1 - i) := by omega
  rw [e, Nat.shiftRight_eq_div_pow, Nat.shiftRight_eq_div_pow, Nat.pow_add, ← Nat.div_div_eq_div_mul, show (v * 256 + z.toNat) / 2 ^ 8 = v from by omega]
theorem digs_rb (ds : List Int) (h : ∀ z ∈ ds, 0 ≤ z ∧ z < 256) : M.digs (M.rb ds) ds.length ds.length = ds := by
  induction hn : ds.length generalizing ds with
  | zero =>
    have : ds = [] := List.eq_nil_of_length_eq_zero hn
    subst this
    rfl
  | succ K ih =>
    obtain ⟨e, z, rfl⟩ : ∃ e z, ds = e ++ [z] := by
      refine ⟨ds.dropLast, ds.getLast (by intro h; rw [h] at hn; simp at hn), ?_⟩
      exact (List.dropLast_concat_getLast _).symm
    have hz := h z (by simp)
    have he : e.length = K := by simpa using hn
    rw [M.rb_snoc, M.digs_succ]
    have h1 : M.digs (M.rb e * 256 + z.toNat) (K + 1) K = M.digs (M.rb e) K K := by
      unfold M.digs
      apply List.map_congr_left
      intro i hi
      exact dig_snoc _ _ _ _ hz.1 hz.2 (by simpa using hi)
    rw [h1, ih e (fun y hy => h y (by simp [hy])) he]
    congr 1
    unfold M.dig
    rw [show 8 * (K + 1 - 1 - K) = 0 from by omega, Nat.shiftRight_zero, show (M.rb e * 256 + z.toNat) % 256 = z.toNat from by omega]
    rw [Int.toNat_of_nonneg hz.1]
theorem rb_ge (z : Int) (r : List Int) (hz : 1 ≤ z) : 256 ^ r.length ≤ M.rb (z :: r) := by
  have key : ∀ (r : List Int) (v : Nat), v * 256 ^ r.length ≤ r.foldl (fun v z => v * 256 + z.toNat) v := by
    intro r
    induction r with
    | nil => intro v; simp
    | cons y r ih =>
      intro v
      refine Nat.le_trans ?_ (ih (v * 256 + y.toNat))
      simp only [List.length_cons, Nat.pow_succ]
      rw [Nat.mul_comm (256 ^ r.length) 256, ← Nat.mul_assoc]
      exact Nat.mul_le_mul_right _ (by omega)
  have := key r z.toNat
  have h2 : 1 * 256 ^ r.length ≤ z.toNat * 256 ^ r.length := Nat.mul_le_mul_right _ (by omega)
  have h3 : M.rb (z :: r) = r.foldl (fun v z => v * 256 + z.toNat) z.toNat := by simp [M.rb]
  rw [h3]
  omega
theorem pow256 (k : Nat) : (256 : Nat) ^ k = 2 ^ (8 * k) := by rw [show (256 : Nat) = 2 ^ 8 from rfl, ← Nat.pow_mul]
theorem nb_rb (ds : List Int) (h : ∀ z ∈ ds, 0 ≤ z ∧ z < 256) (hf : 0 < ds.length → ds.getD 0 0 ≠ 0) : M.nb (M.rb ds) = ds.length := by
  have h1 : M.bl (M.rb ds) ≤ 8 * ds.length := by rw [M.bl_le, ← pow256]; exact M.rb_lt ds h
  cases ds with
  | nil => rfl
  | cons z r =>
    have hz := h z (by simp)
    have hz1 : z ≠ 0 := hf (by simp)
    have h2 := rb_ge z r (by omega)
    have h3 : ¬ M.bl (M.rb (z :: r)) ≤ 8 * r.length := by rw [M.bl_le, ← pow256]; omega
    simp only [List.length_cons] at h1 ⊢
    unfold M.nb
    omega
theorem form_rb (ds : List Int) (h : ∀ z ∈ ds, 0 ≤ z ∧ z < 256) (hf : 0 < ds.length → ds.getD 0 0 ≠ 0) : M.form (M.rb ds) = (ds.length : Int) :: ds := by
  unfold M.form
  rw [nb_rb ds h hf, digs_rb ds h]
end Go.Proofs.Ytomiifnhcojilaa.Wi
namespace Go.Proofs.Ytomiifnhcojilaa.Wi
open Go.RowKit
end Go.Proofs.Ytomiifnhcojilaa.Wi
namespace Go.Proofs.Ytomiifnhcojilaa.Wi
open Go.RowKit
theorem Own.low {B B' : Nat} {w : World} {v : Value} {l : List Int} (h : Own B w v l) (hb : B' ≤ B) : Own B' w v l := by
  obtain ⟨h1, h2⟩ := h
  refine ⟨h1, ?_⟩
  rcases h2 with h2 | ⟨g, cap, cur, e1, e2, r⟩
  · exact .inl h2
  · exact .inr ⟨g, cap, cur, e1, Nat.le_trans hb e2, r⟩
theorem rb_from (r : List Int) : ∀ v : Nat, r.foldl (fun v z => v * 256 + z.toNat) v = v * 256 ^ r.length + M.rb r := by
  induction r with
  | nil => intro v; simp [M.rb]
  | cons z r ih =>
    intro v
    have h1 := ih (v * 256 + z.toNat)
    have h2 := ih (0 * 256 + z.toNat)
    simp only [List.foldl_cons, List.length_cons, M.rb] at h1 h2 ⊢
    rw [h1, h2, Nat.pow_succ, Nat.add_mul, Nat.zero_mul, Nat.zero_add, Nat.mul_assoc, Nat.mul_comm 256]
    omega
theorem rb_cons (z : Int) (r : List Int) : M.rb (z :: r) = z.toNat * 256 ^ r.length + M.rb r := by
  have := rb_from r (0 * 256 + z.toNat)
  rw [Nat.zero_mul, Nat.zero_add] at this
  show (z :: r).foldl _ 0 = _
  rw [List.foldl_cons, Nat.zero_mul, Nat.zero_add]
  exact this
theorem form_round {v u : Nat} {ds : List Int} (h : v = u * 256 ^ ds.length + M.rb ds) : v = u / 256 * 256 ^ (((u % 256 : Nat) : Int) :: ds).length + M.rb (((u % 256 : Nat) : Int) :: ds) := by
  rw [rb_cons, List.length_cons, Nat.pow_succ, Int.toNat_natCast]
  have := Nat.div_add_mod u 256
  rw [h]
  conv => lhs; rw [← this]
  rw [Nat.add_mul, Nat.mul_comm 256 (u / 256), Nat.mul_assoc, Nat.mul_comm (256 ^ ds.length) 256, Nat.add_assoc]
theorem form_len {v u : Nat} {ds : List Int} (hv : v < 2 ^ 64) (h : v = u * 256 ^ ds.length + M.rb ds) (hu : 0 < u) : ds.length < 8 := by
  refine Nat.lt_of_not_le fun h8 => ?_
  have h1 : 256 ^ 8 ≤ 256 ^ ds.length := Nat.pow_le_pow_right (by decide) h8
  have h2 : 256 ^ ds.length ≤ u * 256 ^ ds.length := Nat.le_mul_of_pos_left _ hu
  have h3 : (256 : Nat) ^ 8 = 2 ^ 64 := by decide
  omega
set_option maxHeartbeats 1000000 in
theorem refform_any (v : Nat) (hv : v < 2 ^ 64) (w : World) :
    Calls Try.prog 100 #[.int .u64 v] w fun e w' => ∃ v', e = .returned v' ∧ Own w.heap.size w' v' (M.form v) ∧ v' ≠ .slice none 0 0 ∧ Below w.heap.size w w' := by
  go_enter Try.func100, Try.ntmps100
  go_wp2_with fail
  go_loopw [0, 3] (fun x b wr => ∃ (u : Nat) (ds : List Int), x = .int .u64 (u : Int) ∧ Own w.heap.size wr b ds ∧ (∀ z ∈ ds, 0 ≤ z ∧ z < 256) ∧ v = u * 256 ^ ds.length + M.rb ds ∧ (u = 0 → 0 < ds.length → ds.getD 0 0 ≠ 0) ∧ ds.length ≤ 8 ∧ Below w.heap.size w wr) (fun x _ _ => (intOf x).toNat)
  case atStart => exact ⟨v, [], rfl, Own.nil _ _, by simp, by simp [M.rb], by simp, by simp, Below.refl _ _⟩
  case round =>
    obtain ⟨u, ds, rfl, hO, hd, hvv, hf, hl8, hB⟩ := hrel
    obtain ⟨g, n, c, hb, hs, _⟩ := hO.hs hd
    subst hb
    have hn := hs.len
    have HS := hide hs
    have HO := hide hO
    have HD := hide hd
    have HV := hide hvv
    have HF := hide hf
    have HB := hide hB
    have hz := hB.size
    clear hO hd hvv hf hB hs
    by_cases hu : 0 < u
    · have hlen := form_len hv HV.out hu
      have hu' : (0 : Int) < (u : Int) := by omega
      have O1 : Own w.heap.size (wr.alloc (.cells #[.int .u8 ((u : Int) % 256)] 5)) (.slice (some ⟨wr.heap.size, 0, none⟩) 1 1) [((u % 256 : Nat) : Int)] := (own_built wr #[.int .u8 ((u : Int) % 256)] 1 [((u % 256 : Nat) : Int)] rfl (by simp [bs]) (by unfold maxLen; omega)).low hz
      have HO1 := hide O1
      have HS1 := hide (HS.out.later ((Below.refl wr.heap.size wr).alloc (Nat.le_refl _) (.cells #[.int .u8 ((u : Int) % 256)] 5)))
      have HB1 := hide (HB.out.alloc hz (.cells #[.int .u8 ((u : Int) % 256)] 5))
      clear O1
      go_wp2_with (at_builtin; go_must (refine app_hs _ rfl (.tmp 9) (.tmp 10) rfl w.heap.size [((u % 256 : Nat) : Int)] _ rfl g n c rfl ds HS1.out HO1.out (by simp; omega) (by simp; omega) ?_))
      intro v2 w2 o2 k2 g2
      have b2 : Below w.heap.size w w2 := HO1.out.grown HB1.out g2 (by simp; omega)
      have hdv : (u : Int).tdiv 256 = (u : Int) / 256 := Int.tdiv_eq_ediv_of_nonneg (by omega)
      have huv : u ≤ v := by
        have h1 := HV.out
        have h2 : u ≤ u * 256 ^ ds.length := Nat.le_mul_of_pos_right _ (Nat.pow_pos (by decide))
        omega
      have hwr : IntKind.wrap .u64 ((u : Int) / 256) = (u : Int) / 256 := by
        unfold IntKind.wrap
        simp [IntKind.bits, IntKind.signed]
        omega
      have O2 := hide o2
      have B2 := hide b2
      clear o2 b2 k2 g2 HO1 HS1 HB1 HS HO HB
      go_wp2
      go_round
      case rel =>
        refine ⟨u / 256, ((u % 256 : Nat) : Int) :: ds, by go_num, O2.out, ?_, form_round HV.out, ?_, by simp; omega, B2.out⟩
        · intro z hz
          rcases List.mem_cons.1 hz with rfl | hz
          · omega
          · exact HD.out z hz
        · intro h0 _
          simp
          omega
      case measure => simp [intOf]; omega
    · obtain rfl : u = 0 := by omega
      have hds : v = M.rb ds := by have := HV.out; rw [Nat.zero_mul, Nat.zero_add] at this; exact this
      have HFm : Hid (M.form v = (ds.length : Int) :: ds) := by
        show _ = _
        rw [hds]
        exact form_rb ds HD.out (fun h => HF.out rfl h)
      have hn8 : n ≤ 8 := by omega
      have O1 : Own w.heap.size (wr.alloc (.cells #[.int .u8 (n : Int)] 5)) (.slice (some ⟨wr.heap.size, 0, none⟩) 1 1) [(n : Int)] := (own_built wr #[.int .u8 (n : Int)] 1 [(n : Int)] rfl (by simp [bs]) (by unfold maxLen; omega)).low hz
      have HO1 := hide O1
      have HS1 := hide (HS.out.later ((Below.refl wr.heap.size wr).alloc (Nat.le_refl _) (.cells #[.int .u8 (n : Int)] 5)))
      have HB1 := hide (HB.out.alloc hz (.cells #[.int .u8 (n : Int)] 5))
      have hwn : IntKind.wrap .u8 (n : Int) = (n : Int) := by
        unfold IntKind.wrap
        simp [IntKind.bits, IntKind.signed]
        omega
      clear O1
      go_wp2_with (at_builtin; go_must (refine app_hs _ rfl (.tmp 17) (.tmp 18) rfl w.heap.size [(n : Int)] _ rfl g n c rfl ds HS1.out HO1.out (by simp; omega) (by simp; omega) ?_))
      intro v2 w2 o2 k2 g2
      have b2 : Below w.heap.size w w2 := HO1.out.grown HB1.out g2 (by simp; omega)
      have hk := k2 (.inl (by intro h; cases h))
      have O2 := hide o2
      have B2 := hide b2
      clear o2 b2 k2 g2 HO1 HS1 HB1 HS HO HB
      go_wp2
      go_ret
      refine ⟨_, rfl, ?_, hk, B2.out⟩
      rw [HFm.out, hn]
      exact O2.out
end Go.Proofs.Ytomiifnhcojilaa.Wi
namespace Go.Proofs.Ytomiifnhcojilaa.Wi
open Go.RowKit
end Go.Proofs.Ytomiifnhcojilaa.Wi
namespace Go.Proofs.Ytomiifnhcojilaa.Wi
open Go.RowKit
end Go.Proofs.Ytomiifnhcojilaa.Wi
