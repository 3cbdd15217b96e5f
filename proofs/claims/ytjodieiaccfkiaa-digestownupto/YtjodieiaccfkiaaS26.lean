import Derived.Test.YtjodieiaccfkiaaS25
namespace Go.Proofs.Ytjodieiaccfkiaa
open Go.RowKit Go.Maps
open Classical
set_option linter.unusedVariables false
set_option linter.unusedSimpArgs false

theorem neqPn (x y : Operand) (w : World) : (do eqGuard .neq 47 x y (.pointer none) (.pointer none); binOp .neq 47 (.pointer none) (.pointer none) : Sem Value).run Try.prog w = .ok (.bool false) w := by go_simp
theorem xor8 (x y : Operand) (a b : Int) (w : World) : (do eqGuard .xor 5 x y (.int .u8 a) (.int .u8 b); binOp .xor 5 (.int .u8 a) (.int .u8 b) : Sem Value).run Try.prog w = .ok (.int .u8 (bits .xor .u8 a b)) w := by go_simp
theorem bits8 (a b : Int) : 0 ≤ bits .xor .u8 a b ∧ bits .xor .u8 a b < 256 := by
  unfold bits
  rw [IntKind.wrap_u8]
  omega
/-- A Hasher that no call made. -/
def NM (w : World) (Z : Value) : Prop := ∀ W, Below w.heap.size w W → Calls Try.prog 39 #[Z] W fun e w' => e = .returned (.bool false) ∧ w' = W
theorem NM.later {w w' : World} {Z : Value} (h : NM w Z) (hb : Below w.heap.size w w') : NM w' Z := fun W hW => h W (hb.trans (hW.mono hb.size))
set_option maxRecDepth 100000 in
set_option maxHeartbeats 2000000 in
theorem madeN19 (w : World) :
    Calls Try.prog 39 #[.pointer none] w fun e w' => e = .returned (.bool false) ∧ w' = w := by
  go_enter Try.func39, Try.ntmps39
  go_upto_region 0 with fail
  refine wp_region_lit ?_
  refine vl_gen (fun T => Rp T 11 [(0, gw true (.pointer none))]) ((Rp.nil rfl).cons rfl) (fun Z0 q0 => ?_)
  refine q0.t (.bool false) (ex_assign rfl rfl) fun _ q1 => ?_;clear q0
  refine wpList_nil ?_
  go_upto_region 1 with fail
  refine wp_region_lit ?_
  refine q1.t (.pointer none) (ex_move rfl (q1.e (j := 0) rfl)) fun _ q2 => ?_;clear q1
  refine q2.t (.bool false) (ex_bin (Y := .pointer none) rfl (q2.e (j := 3) rfl) rfl (neqPn _ _ _)) fun _ q3 => ?_;clear q2
  refine q3.t (.bool false) (ex_move rfl (q3.e (j := 4) rfl)) fun _ q4 => ?_;clear q3
  refine vl (true && (false == true)) (.bool false) (want_g rfl rfl (q4.a 5 rfl)) (fun hc => absurd hc (by decide)) rfl q4.z (by decide) (q4.k fun _ q5 => ?_);clear q4
  refine vl (true && (false == true)) (.bool false) (want_g rfl rfl (q5.a 5 rfl)) (fun hc => absurd hc (by decide)) rfl q5.z (by decide) (q5.k fun _ q6 => ?_);clear q5
  refine vl (true && (false == true)) (.bool false) (want_g rfl rfl (q6.a 5 rfl)) (fun hc => absurd hc (by decide)) rfl q6.z (by decide) (q6.k fun _ q7 => ?_);clear q6
  refine vl (true && (false == true)) (.bool false) (want_g rfl rfl (q7.a 5 rfl)) (fun hc => absurd hc (by decide)) rfl q7.z (by decide) (q7.k fun _ q8 => ?_);clear q7
  refine q8.t (.bool false) (ex_and (z := false) rfl (q8.a 5 rfl) (q8.a 9 rfl) rfl) fun _ q9 => ?_;clear q8
  refine q9.t (.bool false) (ex_assign rfl (q9.e (j := 10) rfl)) fun _ q10 => ?_;clear q9
  refine wpList_nil ?_
  go_wp2
  refine bodyPost_ret (results_tmp rfl _ _ _) rfl ⟨?_, rfl⟩
  rw [getD_of (q10.a 2 rfl)]
  rfl
theorem NM.nil (w : World) : NM w (.pointer none) := fun W _ => madeN19 W
theorem NM.zero {w : World} {q : Nat} {W R : List Int} {n : Int} (hB : BB w q 59 (hC false W R n)) : NM w (.pointer (some ⟨q, 0, none⟩)) := fun w1 h1 => made19 q false W R n w1 (hB.later h1)
set_option maxRecDepth 100000 in
set_option maxHeartbeats 2000000 in
theorem writeN19 (Z V : Value) (w : World) (hm : NM w Z) :
    Calls Try.prog 23 #[Z, V] w fun e w' => e = .returned (.tuple #[]) ∧ w' = w := by
  go_enter Try.func23, Try.ntmps23
  go_upto_region 0 with fail
  refine wp_region_lit ?_
  refine vl_gen (fun T => Rp T 9 [(1, gw true (V)), (0, gw true (Z))]) (((Rp.nil rfl).cons rfl).cons rfl) (fun Z0 q0 => ?_)
  refine q0.t (Z) (ex_move rfl (q0.e (j := 0) rfl)) fun _ q1 => ?_;clear q0
  refine vcallP (want_none rfl) (ex_call rfl (by simp only [List.map_toArray, List.map_cons, List.map_nil, (q1.e (j := 4) rfl), evc] <;> rfl) rfl) (hm w (Below.refl _ _)) rfl q1.z (by decide) ?_
  rintro e w1 ⟨rfl, rfl⟩
  refine ⟨_, rfl, q1.k fun _ q2 => ?_⟩;clear q1
  refine wpList_nil ?_
  go_upto_region 1 with fail
  refine wp_cond_false (q2.e (j := 5) rfl) ?_
  go_wp2
  go_end0
  exact ⟨rfl, rfl⟩
set_option maxRecDepth 100000 in
set_option maxHeartbeats 2000000 in
theorem resetN19 (Z : Value) (w : World) (hm : NM w Z) :
    Calls Try.prog 24 #[Z] w fun e w' => e = .returned (.tuple #[]) ∧ w' = w := by
  go_enter Try.func24, Try.ntmps24
  go_upto_region 0 with fail
  refine wp_region_lit ?_
  refine vl_gen (fun T => Rp T 7 [(0, gw true (Z))]) ((Rp.nil rfl).cons rfl) (fun Z0 q0 => ?_)
  refine q0.t (Z) (ex_move rfl (q0.e (j := 0) rfl)) fun _ q1 => ?_;clear q0
  refine vcallP (want_none rfl) (ex_call rfl (by simp only [List.map_toArray, List.map_cons, List.map_nil, (q1.e (j := 2) rfl), evc] <;> rfl) rfl) (hm w (Below.refl _ _)) rfl q1.z (by decide) ?_
  rintro e w1 ⟨rfl, rfl⟩
  refine ⟨_, rfl, q1.k fun _ q2 => ?_⟩;clear q1
  refine wpList_nil ?_
  go_upto_region 1 with fail
  refine wp_cond_false (q2.e (j := 3) rfl) ?_
  go_wp2
  go_end0
  exact ⟨rfl, rfl⟩
set_option maxRecDepth 100000 in
set_option maxHeartbeats 2000000 in
theorem lenN19 (Z : Value) (w : World) (hm : NM w Z) :
    Calls Try.prog 21 #[Z] w fun e w' => e = .returned (.int .i64 0) ∧ w' = w := by
  go_enter Try.func21, Try.ntmps21
  go_upto_region 0 with fail
  refine wp_region_lit ?_
  refine vl_gen (fun T => Rp T 10 [(0, gw true (Z))]) ((Rp.nil rfl).cons rfl) (fun Z0 q0 => ?_)
  refine q0.t (.int .i64 0) (ex_assign rfl rfl) fun _ q1 => ?_;clear q0
  refine wpList_nil ?_
  go_upto_region 1 with fail
  refine wp_region_lit ?_
  refine q1.t (Z) (ex_move rfl (q1.e (j := 0) rfl)) fun _ q2 => ?_;clear q1
  refine vcallP (want_none rfl) (ex_call rfl (by simp only [List.map_toArray, List.map_cons, List.map_nil, (q2.e (j := 3) rfl), evc] <;> rfl) rfl) (hm w (Below.refl _ _)) rfl q2.z (by decide) ?_
  rintro e w1 ⟨rfl, rfl⟩
  refine ⟨_, rfl, q2.k fun _ q3 => ?_⟩;clear q2
  refine q3.t (.bool true) (ex_not rfl (q3.e (j := 4) rfl)) fun _ q4 => ?_;clear q3
  refine wpList_nil ?_
  go_upto_region 2 with fail
  refine wp_cond_true (q4.e (j := 5) rfl) ?_
  go_upto_region 2 with fail
  refine wp_region_lit ?_
  refine q4.t (.int .i64 0) (ex_assign rfl rfl) fun _ q5 => ?_;clear q4
  refine wpList_nil ?_
  go_wp2
  refine bodyPost_ret (results_tmp rfl _ _ _) rfl ⟨?_, rfl⟩
  rw [getD_of (q5.a 2 rfl)]
  rfl
set_option maxRecDepth 100000 in
set_option maxHeartbeats 2000000 in
theorem sumN19 (Z : Value) (w : World) (hm : NM w Z) :
    Calls Try.prog 22 #[Z] w fun e w' => e = .returned (.agg (z32.map bV).toArray) ∧ Below w.heap.size w w' := by
  go_enter Try.func22, Try.ntmps22
  go_upto_region 0 with fail
  refine wp_region_lit ?_
  refine vl_gen (fun T => Rp T 12 [(0, gw true (Z))]) ((Rp.nil rfl).cons rfl) (fun Z0 q0 => ?_)
  obtain ⟨w1, hw1⟩ : ∃ y, y = w.alloc (.cells ((List.replicate 32 (0 : Int)).map bV).toArray 32) := ⟨_, rfl⟩
  refine vw (.pointer (some ⟨w.heap.size, 0, none⟩)) w1 (want_none rfl) (ex_al rfl (by rw [hw1]; exact alH _)) rfl q0.z (by decide) (q0.k fun _ q1 => ?_);clear q0
  have Bw1 : BB w1 w.heap.size 32 ((List.replicate 32 (0 : Int)).map bV) := by rw [hw1]; exact BB.new _ _ _
  have bw1 : Below w.heap.size w w1 := by rw [hw1]; exact (Below.refl _ _).alloc (Nat.le_refl _) _
  have zw1 : w1.heap.size = w.heap.size + 1 := by rw [hw1]; exact World.size_alloc _ _
  clear hw1
  refine wpList_nil ?_
  go_upto_region 1 with fail
  refine wp_region_lit ?_
  refine q1.t (Z) (ex_move rfl (q1.e (j := 0) rfl)) fun _ q2 => ?_;clear q1
  refine vcallP (want_none rfl) (ex_call rfl (by simp only [List.map_toArray, List.map_cons, List.map_nil, (q2.e (j := 4) rfl), evc] <;> rfl) rfl) (hm w1 bw1) rfl q2.z (by decide) ?_
  rintro e w2 ⟨rfl, rfl⟩
  refine ⟨_, rfl, q2.k fun _ q3 => ?_⟩;clear q2
  refine q3.t (.bool true) (ex_not rfl (q3.e (j := 5) rfl)) fun _ q4 => ?_;clear q3
  refine wpList_nil ?_
  go_upto_region 2 with fail
  refine wp_cond_true (q4.e (j := 6) rfl) ?_
  go_upto_region 2 with fail
  refine wp_region_lit ?_
  refine q4.t (.agg (z32.map bV).toArray) (ex_build rfl (zrH _)) fun _ q5 => ?_;clear q4
  have hm9 : (z32.map bV).length = 32 := by rw [len_bV]; rfl
  obtain ⟨w9, hw9⟩ : ∃ y, y = w2.setCells w.heap.size 0 (z32.map bV) := ⟨_, rfl⟩
  refine vs w9 (want_none rfl) (ex_st rfl (q5.e (j := 2) rfl) (q5.e (j := 7) rfl) (by rw [hw9]; exact Bw1.st 32 _ (by rw [hm9]; rfl) (by rw [List.size_toArray, hm9]; exact i32h) (one_b _))) rfl ?_
  have B9 : BB w9 w.heap.size 32 (z32.map bV) := by rw [hw9]; exact Bw1.whole _ (by rw [hm9]; rfl)
  have b9 : Below w.heap.size w w9 := by rw [hw9]; exact bw1.trans (bel_ge (upd18 _ _ _ _) bw1.size (Nat.le_refl _))
  clear hw9
  refine wpList_nil ?_
  go_wp2
  exact B9.res rfl (q5.a 2 rfl) Try.underlying32 rfl (by rw [hm9]; exact i32h) ⟨rfl, b9⟩

end Go.Proofs.Ytjodieiaccfkiaa
