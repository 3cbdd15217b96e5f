import Derived.Test.YtjodieiaccfkiaaS8
namespace Go.Proofs.Ytjodieiaccfkiaa
open Go.RowKit Go.Maps
open Classical
set_option linter.unusedVariables false
set_option linter.unusedSimpArgs false

theorem neqP (x y : Operand) (q : Nat) (w : World) : (do eqGuard .neq 47 x y (.pointer (some ⟨q, 0, none⟩)) (.pointer none); binOp .neq 47 (.pointer (some ⟨q, 0, none⟩)) (.pointer none) : Sem Value).run Try.prog w = .ok (.bool true) w := by go_simp
theorem eqlP (x y : Operand) (q : Nat) (w : World) : (do eqGuard .eql 47 x y (.pointer (some ⟨q, 0, none⟩)) (.pointer none); binOp .eql 47 (.pointer (some ⟨q, 0, none⟩)) (.pointer none) : Sem Value).run Try.prog w = .ok (.bool false) w := by go_simp
theorem ldBo {w : World} {q o : Nat} {x : Bool} (h : w.cell? ⟨q, o, none⟩ = some (.bool x)) : (Instr.loadAt 4 (.pointer (some ⟨q, o, none⟩))).run Try.prog w = .ok (.bool x) w := by go_simp
theorem hC_all (m : Bool) (W R : List Int) (n : Int) : (hC m W R n).toArray.all (·.oneCell') = true := by
  rw [Array.all_eq_true_iff_forall_mem]
  intro u hu
  simp only [hC, List.mem_toArray, List.mem_cons, List.mem_append, List.mem_map, List.not_mem_nil, or_false] at hu
  rcases hu with rfl | ⟨x, _, rfl⟩ | ⟨x, _, rfl⟩ | rfl <;> rfl
set_option maxRecDepth 100000 in
set_option maxHeartbeats 2000000 in
theorem made19 (q : Nat) (m : Bool) (W R : List Int) (n : Int) (w : World) (hB : BB w q 59 (hC m W R n)) :
    Calls Try.prog 39 #[.pointer (some ⟨q, 0, none⟩)] w fun e w' => e = .returned (.bool m) ∧ w' = w := by
  go_enter Try.func39, Try.ntmps39
  go_upto_region 0 with fail
  refine wp_region_lit ?_
  refine vl_gen (fun T => Rp T 11 [(0, gw true (.pointer (some ⟨q, 0, none⟩)))]) ((Rp.nil rfl).cons rfl) (fun Z0 q0 => ?_)
  refine q0.t (.bool false) (ex_assign rfl rfl) fun _ q1 => ?_;clear q0
  refine wpList_nil ?_
  go_upto_region 1 with fail
  refine wp_region_lit ?_
  refine q1.t (.pointer (some ⟨q, 0, none⟩)) (ex_move rfl (q1.e (j := 0) rfl)) fun _ q2 => ?_;clear q1
  refine q2.t (.bool true) (ex_bin (Y := .pointer none) rfl (q2.e (j := 3) rfl) rfl (neqP _ _ q _)) fun _ q3 => ?_;clear q2
  refine q3.t (.bool true) (ex_move rfl (q3.e (j := 4) rfl)) fun _ q4 => ?_;clear q3
  refine vl (true && (true == true)) (.pointer (some ⟨q, 0, none⟩)) (want_g rfl rfl (q4.a 5 rfl)) (fun hc => ex_move rfl (q4.e (j := 0) rfl)) rfl q4.z (by decide) (q4.k fun _ q5 => ?_);clear q4
  refine vl (true && (true == true)) (.pointer (some ⟨q, 0, none⟩)) (want_g rfl rfl (q5.a 5 rfl)) (fun hc => ex_nil rfl (q5.e (j := 6) rfl)) rfl q5.z (by decide) (q5.k fun _ q6 => ?_);clear q5
  refine vl (true && (true == true)) (.pointer (some ⟨q, 0, none⟩)) (want_g rfl rfl (q6.a 5 rfl)) (fun hc => ex_fa rfl (q6.e (j := 7) rfl) (faH q 0 0 (by decide) _)) rfl q6.z (by decide) (q6.k fun _ q7 => ?_);clear q6
  refine vl (true && (true == true)) (.bool m) (want_g rfl rfl (q7.a 5 rfl)) (fun hc => ex_ld rfl (q7.e (j := 8) rfl) (ldBo ((hB.cell 0).trans rfl))) rfl q7.z (by decide) (q7.k fun _ q8 => ?_);clear q7
  refine q8.t (.bool m) (ex_and (z := m) rfl (q8.a 5 rfl) (q8.a 9 rfl) rfl) fun _ q9 => ?_;clear q8
  refine q9.t (.bool m) (ex_assign rfl (q9.e (j := 10) rfl)) fun _ q10 => ?_;clear q9
  refine wpList_nil ?_
  go_wp2
  refine bodyPost_ret (results_tmp rfl _ _ _) rfl ⟨?_, rfl⟩
  rw [getD_of (q10.a 2 rfl)]
  rfl
theorem HI.made {w : World} {q : Nat} {B : List Int} (h : HI w q B) : Calls Try.prog 39 #[.pointer (some ⟨q, 0, none⟩)] w fun e w' => e = .returned (.bool true) ∧ w' = w := by
  obtain ⟨R, hB, _, _⟩ := h
  exact made19 q true _ R _ w hB
set_option maxRecDepth 100000 in
set_option maxHeartbeats 2000000 in
theorem new19 (w : World) :
    Calls Try.prog 20 #[] w fun e w' => ∃ q, e = .returned (.pointer (some ⟨q, 0, none⟩)) ∧ w.heap.size ≤ q ∧ HI w' q [] ∧ Below w.heap.size w w' := by
  go_enter Try.func20, Try.ntmps20
  go_upto_region 0 with fail
  refine wp_region_lit ?_
  refine vl_gen (fun T => Rp T 3 []) (Rp.nil rfl) (fun Z0 q0 => ?_)
  refine q0.t (.pointer none) (ex_assign rfl rfl) fun _ q1 => ?_;clear q0
  refine wpList_nil ?_
  go_upto_region 1 with fail
  refine wp_region_lit ?_
  refine vcallP (want_none rfl) (ex_call (args := #[]) rfl (by simp) rfl) (fresh_any w) rfl q1.z (by decide) ?_
  rintro e w1 ⟨rfl, b1⟩
  refine ⟨_, rfl, q1.k fun _ q2 => ?_⟩;clear q1
  have z1 := b1.size
  obtain ⟨w2, hw2⟩ : ∃ y, y = w1.alloc (.cells (hC false (List.replicate 8 0) (List.replicate 64 0) 0).toArray 59) := ⟨_, rfl⟩
  refine vw (.pointer (some ⟨w1.heap.size, 0, none⟩)) w2 (want_none rfl) (ex_al rfl (by rw [hw2]; exact alHs _)) rfl q2.z (by decide) (q2.k fun _ q3 => ?_);clear q2
  have Bw2 : BB w2 w1.heap.size 59 (hC false (List.replicate 8 0) (List.replicate 64 0) 0) := by rw [hw2]; exact BB.new _ _ _
  have bw2 : Below w1.heap.size w1 w2 := by rw [hw2]; exact (Below.refl _ _).alloc (Nat.le_refl _) _
  have zw2 : w2.heap.size = w1.heap.size + 1 := by rw [hw2]; exact World.size_alloc _ _
  clear hw2
  obtain ⟨w3, hw3⟩ : ∃ y, y = w2.setCells w1.heap.size 0 (hC true iv.l (List.replicate 64 0) 0) := ⟨_, rfl⟩
  refine vs w3 (want_none rfl) (ex_st rfl (q3.e (j := 1) rfl) (q3.e (j := 2) rfl) (by rw [hw3]; exact Bw2.st 59 _ rfl i74 (by kernel_rfl))) rfl ?_
  have B3 : BB w3 w1.heap.size 59 (hC true iv.l (List.replicate 64 0) 0) := by rw [hw3]; exact Bw2.whole _ rfl
  have u3 : Upd (fun k => k = w1.heap.size) w2 w3 := by rw [hw3]; exact upd18 _ _ _ _
  clear hw3
  have b3 : Below w.heap.size w w3 := (b1.trans (bw2.mono z1)).trans (bel_ge u3 (by omega) z1)
  refine wpList_nil ?_
  go_upto_region 2 with fail
  refine wp_region_lit ?_
  refine q3.t (.pointer (some ⟨w1.heap.size, 0, none⟩)) (ex_assign rfl (q3.e (j := 1) rfl)) fun _ q4 => ?_;clear q3
  refine wpList_nil ?_
  go_wp2
  refine bodyPost_ret (results_tmp rfl _ _ _) rfl ⟨w1.heap.size, ?_, z1, ⟨List.replicate 64 0, B3, by simp, rfl⟩, b3⟩
  rw [getD_of (q4.a 0 rfl)]
  rfl
set_option maxRecDepth 100000 in
set_option maxHeartbeats 2000000 in
theorem write19 (q : Nat) (B b : List Int) (a : Option Addr) (c : Nat) (w : World) (hI : HI w q B) (h : SlY yB9 w a b.length c b) (hnq : ∀ z, a = some z → b ≠ [] → z.block ≠ q) (hl : B.length + b.length < 4611686018427387904) :
    Calls Try.prog 23 #[.pointer (some ⟨q, 0, none⟩), .slice a b.length c] w fun e w' => e = .returned (.tuple #[]) ∧ HI w' q (B ++ b) ∧ Upd (fun k => k = q) w w' := by
  go_enter Try.func23, Try.ntmps23
  go_upto_region 0 with fail
  refine wp_region_lit ?_
  refine vl_gen (fun T => Rp T 9 [(1, gw true (.slice a b.length c)), (0, gw true (.pointer (some ⟨q, 0, none⟩)))]) (((Rp.nil rfl).cons rfl).cons rfl) (fun Z0 q0 => ?_)
  refine q0.t (.pointer (some ⟨q, 0, none⟩)) (ex_move rfl (q0.e (j := 0) rfl)) fun _ q1 => ?_;clear q0
  refine vcallP (want_none rfl) (ex_call rfl (by simp only [List.map_toArray, List.map_cons, List.map_nil, (q1.e (j := 4) rfl), evc] <;> rfl) rfl) (hI.made) rfl q1.z (by decide) ?_
  rintro e w1 ⟨rfl, rfl⟩
  refine ⟨_, rfl, q1.k fun _ q2 => ?_⟩;clear q1
  refine wpList_nil ?_
  go_upto_region 1 with fail
  refine wp_cond_true (q2.e (j := 5) rfl) ?_
  go_upto_region 1 with fail
  refine wp_region_lit ?_
  refine q2.t (.pointer (some ⟨q, 0, none⟩)) (ex_move rfl (q2.e (j := 0) rfl)) fun _ q3 => ?_;clear q2
  refine q3.t (.slice a b.length c) (ex_move rfl (q3.e (j := 1) rfl)) fun _ q4 => ?_;clear q3
  refine vcallP (want_none rfl) (ex_call rfl (by simp only [List.map_toArray, List.map_cons, List.map_nil, (q4.e (j := 6) rfl), (q4.e (j := 7) rfl), evc] <;> rfl) rfl) (take19 q B b a c w1 hI h hnq hl) rfl q4.z (by decide) ?_
  rintro e w2 ⟨rfl, h2, u2⟩
  refine ⟨_, rfl, q4.k fun _ q5 => ?_⟩;clear q4
  refine wpList_nil ?_
  go_wp2
  go_end0
  exact ⟨rfl, h2, u2⟩
set_option maxRecDepth 100000 in
set_option maxHeartbeats 2000000 in
theorem reset19 (q : Nat) (B : List Int) (w : World) (hI : HI w q B) :
    Calls Try.prog 24 #[.pointer (some ⟨q, 0, none⟩)] w fun e w' => e = .returned (.tuple #[]) ∧ HI w' q [] ∧ Upd (fun k => k = q) w w' := by
  go_enter Try.func24, Try.ntmps24
  go_upto_region 0 with fail
  refine wp_region_lit ?_
  refine vl_gen (fun T => Rp T 7 [(0, gw true (.pointer (some ⟨q, 0, none⟩)))]) ((Rp.nil rfl).cons rfl) (fun Z0 q0 => ?_)
  refine q0.t (.pointer (some ⟨q, 0, none⟩)) (ex_move rfl (q0.e (j := 0) rfl)) fun _ q1 => ?_;clear q0
  refine vcallP (want_none rfl) (ex_call rfl (by simp only [List.map_toArray, List.map_cons, List.map_nil, (q1.e (j := 2) rfl), evc] <;> rfl) rfl) (hI.made) rfl q1.z (by decide) ?_
  rintro e w1 ⟨rfl, rfl⟩
  refine ⟨_, rfl, q1.k fun _ q2 => ?_⟩;clear q1
  refine wpList_nil ?_
  go_upto_region 1 with fail
  refine wp_cond_true (q2.e (j := 3) rfl) ?_
  go_upto_region 1 with fail
  refine wp_region_lit ?_
  refine q2.t (.pointer (some ⟨q, 0, none⟩)) (ex_move rfl (q2.e (j := 0) rfl)) fun _ q3 => ?_;clear q2
  refine vcallP (want_none rfl) (ex_call (args := #[]) rfl (by simp) rfl) (fresh_any w1) rfl q3.z (by decide) ?_
  rintro e w2 ⟨rfl, b2⟩
  refine ⟨_, rfl, q3.k fun _ q4 => ?_⟩;clear q3
  have h2 := hI.later b2
  obtain ⟨R, hB, hR, _⟩ := h2
  refine q4.t (.pointer (some ⟨q, 0, none⟩)) (ex_nil rfl (q4.e (j := 4) rfl)) fun _ q5 => ?_;clear q4
  obtain ⟨w3, hw3⟩ : ∃ y, y = w2.setCells q 0 (hC true iv.l (List.replicate 64 0) 0) := ⟨_, rfl⟩
  refine vs w3 (want_none rfl) (ex_st rfl (q5.e (j := 6) rfl) (q5.e (j := 5) rfl) (by rw [hw3]; exact hB.st 59 _ (by rw [hC_len (St.len _) hR]; rfl) i74 (by kernel_rfl))) rfl ?_
  have B3 : BB w3 q 59 (hC true iv.l (List.replicate 64 0) 0) := by rw [hw3]; exact hB.whole _ (by rw [hC_len (St.len _) hR]; rfl)
  have u3 : Upd (fun k => k = q) w2 w3 := by rw [hw3]; exact upd18 _ _ _ _
  clear hw3
  refine wpList_nil ?_
  go_wp2
  go_end0
  exact ⟨rfl, ⟨List.replicate 64 0, B3, by simp, rfl⟩, (Upd.of_below b2).trans18 u3 (fun _ _ h => h)⟩
set_option maxRecDepth 100000 in
set_option maxHeartbeats 2000000 in
theorem len19 (q : Nat) (B : List Int) (w : World) (hI : HI w q B) :
    Calls Try.prog 21 #[.pointer (some ⟨q, 0, none⟩)] w fun e w' => e = .returned (.int .i64 ((B.length : Nat) : Int)) ∧ w' = w := by
  go_enter Try.func21, Try.ntmps21
  go_upto_region 0 with fail
  refine wp_region_lit ?_
  refine vl_gen (fun T => Rp T 10 [(0, gw true (.pointer (some ⟨q, 0, none⟩)))]) ((Rp.nil rfl).cons rfl) (fun Z0 q0 => ?_)
  refine q0.t (.int .i64 0) (ex_assign rfl rfl) fun _ q1 => ?_;clear q0
  refine wpList_nil ?_
  go_upto_region 1 with fail
  refine wp_region_lit ?_
  refine q1.t (.pointer (some ⟨q, 0, none⟩)) (ex_move rfl (q1.e (j := 0) rfl)) fun _ q2 => ?_;clear q1
  refine vcallP (want_none rfl) (ex_call rfl (by simp only [List.map_toArray, List.map_cons, List.map_nil, (q2.e (j := 3) rfl), evc] <;> rfl) rfl) (hI.made) rfl q2.z (by decide) ?_
  rintro e w1 ⟨rfl, rfl⟩
  refine ⟨_, rfl, q2.k fun _ q3 => ?_⟩;clear q2
  refine q3.t (.bool false) (ex_not rfl (q3.e (j := 4) rfl)) fun _ q4 => ?_;clear q3
  refine wpList_nil ?_
  go_upto_region 3 with fail
  refine wp_cond_false (q4.e (j := 5) rfl) ?_
  go_upto_region 3 with fail
  refine wp_region_lit ?_
  obtain ⟨R, hB, hR, _⟩ := hI
  refine q4.t (.pointer (some ⟨q, 0, none⟩)) (ex_move rfl (q4.e (j := 0) rfl)) fun _ q5 => ?_;clear q4
  refine q5.t (.pointer (some ⟨q, 0, none⟩)) (ex_nil rfl (q5.e (j := 6) rfl)) fun _ q6 => ?_;clear q5
  refine q6.t (.pointer (some ⟨q, 73, none⟩)) (ex_fa rfl (q6.e (j := 7) rfl) (faH q 3 73 (by decide) _)) fun _ q7 => ?_;clear q6
  refine q7.t (.int .i64 ((B.length : Nat) : Int)) (ex_ld rfl (q7.e (j := 8) rfl) (ldI18 ((hB.cell 73).trans (hC_n (St.len _) hR)))) fun _ q8 => ?_;clear q7
  refine q8.t (.int .i64 ((B.length : Nat) : Int)) (ex_assign rfl (q8.e (j := 9) rfl)) fun _ q9 => ?_;clear q8
  refine wpList_nil ?_
  go_wp2
  refine bodyPost_ret (results_tmp rfl _ _ _) rfl ⟨?_, rfl⟩
  rw [getD_of (q9.a 2 rfl)]
  rfl
set_option maxRecDepth 100000 in
set_option maxHeartbeats 2000000 in
theorem hsum19 (q : Nat) (B : List Int) (w : World) (hI : HI w q B) (hl : B.length < 4611686018427387000) :
    Calls Try.prog 22 #[.pointer (some ⟨q, 0, none⟩)] w fun e w' => e = .returned (.agg ((sumF B).map bV).toArray) ∧ Below w.heap.size w w' := by
  go_enter Try.func22, Try.ntmps22
  go_upto_region 0 with fail
  refine wp_region_lit ?_
  refine vl_gen (fun T => Rp T 12 [(0, gw true (.pointer (some ⟨q, 0, none⟩)))]) ((Rp.nil rfl).cons rfl) (fun Z0 q0 => ?_)
  have hql := hI.lt
  obtain ⟨w1, hw1⟩ : ∃ y, y = w.alloc (.cells ((List.replicate 32 (0 : Int)).map bV).toArray 32) := ⟨_, rfl⟩
  refine vw (.pointer (some ⟨w.heap.size, 0, none⟩)) w1 (want_none rfl) (ex_al rfl (by rw [hw1]; exact alH _)) rfl q0.z (by decide) (q0.k fun _ q1 => ?_);clear q0
  have Bw1 : BB w1 w.heap.size 32 ((List.replicate 32 (0 : Int)).map bV) := by rw [hw1]; exact BB.new _ _ _
  have bw1 : Below w.heap.size w w1 := by rw [hw1]; exact (Below.refl _ _).alloc (Nat.le_refl _) _
  have zw1 : w1.heap.size = w.heap.size + 1 := by rw [hw1]; exact World.size_alloc _ _
  clear hw1
  refine wpList_nil ?_
  have hI1 := hI.later bw1
  go_upto_region 1 with fail
  refine wp_region_lit ?_
  refine q1.t (.pointer (some ⟨q, 0, none⟩)) (ex_move rfl (q1.e (j := 0) rfl)) fun _ q2 => ?_;clear q1
  refine vcallP (want_none rfl) (ex_call rfl (by simp only [List.map_toArray, List.map_cons, List.map_nil, (q2.e (j := 4) rfl), evc] <;> rfl) rfl) (hI1.made) rfl q2.z (by decide) ?_
  rintro e w2 ⟨rfl, rfl⟩
  refine ⟨_, rfl, q2.k fun _ q3 => ?_⟩;clear q2
  refine q3.t (.bool false) (ex_not rfl (q3.e (j := 5) rfl)) fun _ q4 => ?_;clear q3
  have q5 := ((((Rp.nil q4.z).cons (q4.a 0 rfl)).cons (q4.a 2 rfl)).cons (q4.a 6 rfl))
  clear q4
  refine wpList_nil ?_
  go_upto_region 3 with fail
  refine wp_cond_false (q5.e (j := 6) rfl) ?_
  go_upto_region 3 with fail
  refine wp_region_lit ?_
  obtain ⟨R, hB, hR, hRt⟩ := hI1
  have h74 := hC_len (m := true) (n := (B.length : Int)) (St.len (stF B)) hR
  refine q5.t (.pointer (some ⟨q, 0, none⟩)) (ex_move rfl (q5.e (j := 0) rfl)) fun _ q6 => ?_;clear q5
  refine q6.t (.pointer (some ⟨q, 0, none⟩)) (ex_nil rfl (q6.e (j := 8) rfl)) fun _ q7 => ?_;clear q6
  refine q7.t (.agg (hC true (stF B).l R (B.length : Int)).toArray) (ex_ld rfl (q7.e (j := 9) rfl) (hB.ld 59 Try.underlying59 rfl (by rw [h74]; exact i74))) fun _ q8 => ?_;clear q7
  obtain ⟨w3, hw3⟩ : ∃ y, y = w2.alloc (.cells (hC false (List.replicate 8 0) (List.replicate 64 0) 0).toArray 59) := ⟨_, rfl⟩
  refine vw (.pointer (some ⟨w2.heap.size, 0, none⟩)) w3 (want_none rfl) (ex_al rfl (by rw [hw3]; exact alHs _)) rfl q8.z (by decide) (q8.k fun _ q9 => ?_);clear q8
  have Bw3 : BB w3 w2.heap.size 59 (hC false (List.replicate 8 0) (List.replicate 64 0) 0) := by rw [hw3]; exact BB.new _ _ _
  have bw3 : Below w2.heap.size w2 w3 := by rw [hw3]; exact (Below.refl _ _).alloc (Nat.le_refl _) _
  have zw3 : w3.heap.size = w2.heap.size + 1 := by rw [hw3]; exact World.size_alloc _ _
  clear hw3
  have zw3b : w.heap.size ≤ w2.heap.size := by omega
  obtain ⟨w4, hw4⟩ : ∃ y, y = w3.setCells w2.heap.size 0 (hC true (stF B).l R (B.length : Int)) := ⟨_, rfl⟩
  refine vs w4 (want_none rfl) (ex_st rfl (q9.e (j := 3) rfl) (q9.e (j := 10) rfl) (by rw [hw4]; exact Bw3.st 59 _ (by rw [h74]; rfl) (by rw [List.size_toArray, h74]; exact i74) (hC_all _ _ _ _))) rfl ?_
  have B4 : BB w4 w2.heap.size 59 (hC true (stF B).l R (B.length : Int)) := by rw [hw4]; exact Bw3.whole _ (by rw [h74]; rfl)
  have u4 : Upd (fun k => k = w2.heap.size) w3 w4 := by rw [hw4]; exact upd18 _ _ _ _
  clear hw4
  have Bh4 : BB w4 w.heap.size 32 ((List.replicate 32 (0 : Int)).map bV) := (Bw1.later bw3).upd u4 (by omega)
  have b4 : Below w.heap.size w w4 := (bw1.trans (bw3.mono (by omega))).trans (bel_ge u4 (by omega) (by omega))
  have I4 : HI w4 w2.heap.size B := ⟨R, B4, hR, hRt⟩
  have q10 := (((Rp.nil q9.z).cons (q9.a 2 rfl)).cons (q9.a 3 rfl))
  clear q9
  refine wpList_nil ?_
  go_upto_region 4 with fail
  refine wp_region_lit ?_
  refine vcallP (want_none rfl) (ex_call rfl (by simp only [List.map_toArray, List.map_cons, List.map_nil, (q10.e (j := 3) rfl), evc] <;> rfl) rfl) (end19 w2.heap.size B w4 I4 hl) rfl q10.z (by decide) ?_
  rintro e v1 ⟨rfl, uv⟩
  refine ⟨_, rfl, q10.k fun _ q11 => ?_⟩;clear q10
  have Bh5 := Bh4.upd uv (by omega)
  have bv : Below w.heap.size w v1 := b4.trans (bel_ge uv (by have := b4.size; omega) (by omega))
  obtain ⟨v3, hv3⟩ : ∃ y, y = v1.setCells w.heap.size 0 ((sumF B).map bV) := ⟨_, rfl⟩
  refine vs v3 (want_none rfl) (ex_st rfl (q11.e (j := 2) rfl) (q11.e (j := 11) rfl) (by rw [hv3]; exact Bh5.st 32 _ (by rw [sum_m]; rfl) (by rw [List.size_toArray, sum_m]; exact i32h) (one_b _))) rfl ?_
  have Bv3 : BB v3 w.heap.size 32 ((sumF B).map bV) := by rw [hv3]; exact Bh5.whole _ (by rw [sum_m]; rfl)
  have uv3 : Upd (fun k => k = w.heap.size) v1 v3 := by rw [hv3]; exact upd18 _ _ _ _
  clear hv3
  have b3 : Below w.heap.size w v3 := bv.trans (bel_ge uv3 bv.size (Nat.le_refl _))
  refine wpList_nil ?_
  go_wp2
  exact Bv3.res rfl (q11.a 2 rfl) Try.underlying32 rfl (by rw [sum_m]; exact i32h) ⟨rfl, b3⟩

end Go.Proofs.Ytjodieiaccfkiaa
