import Derived.Test.YteeofcoehffegaaDoorM9
set_option maxRecDepth 100000
set_option linter.unusedVariables false
set_option linter.unusedSimpArgs false
namespace Go.Proofs.YteeofcoehffegaaDoor
open Go.RowKit Go.Maps
open Classical
def ocs (k : Int) (x : En) (A B : Int) : List Value := .int .i64 k :: (x.cs ++ [.int .i64 A, .int .i64 B])
def oval (k : Int) (x : En) (A B : Int) : Value := .agg (ocs k x A B).toArray
theorem bxO20 (k : Int) (x : En) (A B : Int) (w : World) : (Instr.box 31 (oval k x A B)).run Tryd.prog w = .ok (.pointer (some ⟨w.heap.size, 0, none⟩)) (w.alloc (.cells (ocs k x A B).toArray 31)) := rfl
theorem slToE20A (a : Option Addr) (n c k : Nat) (h1 : k ≤ n) (h2 : n ≤ c) (h3 : a = none → c = 0) (w : World) : (Instr.sliceAt 25 (.slice a n c) none (some (.int .i64 (k : Int))) none).run Tryd.prog w = .ok (.slice a k c) w := by
  have e1 : (0 : Int) ≤ (k : Int) := by omega
  have e2 : (k : Int) ≤ (c : Int) := by omega
  cases a with
  | none =>
    have hc := h3 rfl
    subst hc
    obtain rfl : k = 0 := by omega
    go_simp
  | some x => go_simp
theorem geT20 (x y : Operand) {a b : Int} (h : b ≤ a) (w : World) : (do eqGuard .geq 3 x y (.int .i64 a) (.int .i64 b); binOp .geq 3 (.int .i64 a) (.int .i64 b) : Sem Value).run Tryd.prog w = .ok (.bool true) w := by
  have := geD20 x y a b w
  rw [decide_eq_true h] at this
  exact this
theorem geF20 (x y : Operand) {a b : Int} (h : ¬ b ≤ a) (w : World) : (do eqGuard .geq 3 x y (.int .i64 a) (.int .i64 b); binOp .geq 3 (.int .i64 a) (.int .i64 b) : Sem Value).run Tryd.prog w = .ok (.bool false) w := by
  have := geD20 x y a b w
  rw [decide_eq_false h] at this
  exact this
theorem faOp20 (q j o : Nat) (h : (j = 0 ∧ o = 0) ∨ (j = 1 ∧ o = 1) ∨ (j = 2 ∧ o = 6) ∨ (j = 3 ∧ o = 7)) (w : World) : (Instr.fieldAt 31 (.pointer (some ⟨q, 0, none⟩)) j).run Tryd.prog w = .ok (.pointer (some ⟨q, o, none⟩)) w := by
  rcases h with ⟨rfl, rfl⟩ | ⟨rfl, rfl⟩ | ⟨rfl, rfl⟩ | ⟨rfl, rfl⟩ <;> go_simp
theorem BB.ldO0 {w : World} {q : Nat} {T : TypeId} {k : Int} {x : En} {A B : Int} (h : BB w q T (ocs k x A B)) : (Instr.loadAt 3 (.pointer (some ⟨q, 0, none⟩))).run Tryd.prog w = .ok (.int .i64 k) w := by
  have hc : w.cell? ⟨q, 0, none⟩ = some (.int .i64 k) := by rw [h.cell]; rfl
  go_simp
theorem BB.ldO2 {w : World} {q : Nat} {T : TypeId} {k : Int} {x : En} {A B : Int} (h : BB w q T (ocs k x A B)) : (Instr.loadAt 3 (.pointer (some ⟨q, 6, none⟩))).run Tryd.prog w = .ok (.int .i64 A) w := by
  have hc : w.cell? ⟨q, 6, none⟩ = some (.int .i64 A) := by rw [h.cell]; rfl
  go_simp
theorem BB.ldO3 {w : World} {q : Nat} {T : TypeId} {k : Int} {x : En} {A B : Int} (h : BB w q T (ocs k x A B)) : (Instr.loadAt 3 (.pointer (some ⟨q, 7, none⟩))).run Tryd.prog w = .ok (.int .i64 B) w := by
  have hc : w.cell? ⟨q, 7, none⟩ = some (.int .i64 B) := by rw [h.cell]; rfl
  go_simp
set_option maxHeartbeats 2000000 in
theorem does1_20 (l : List En) (a : Option Addr) (n c : Nat) (B9 q : Nat) (v : Value) (E : List Hs) (x : En) (A B : Int) (w : World) (h : SlY yE w a n c l) (ht : TV w B9 q v (l.map lf) E) (he : EdgeOf (l.map lf) E) (hT : Tb w) (hn : n ≤ 2932031007317) (hv : ∀ x ∈ l, x.o.v.size ≤ 140737488351232) :
    Calls Tryd.prog 8 #[.pointer (some ⟨q, 0, none⟩), .slice a n c, oval 1 x A B] w fun e w' => e = .returned (.bool true) ∧ Below w.heap.size w w' := by
  have hln := h.len
  go_enter Tryd.func8, Tryd.ntmps8
  go_upto_region 0 with fail
  refine wp_region_lit ?_
  refine vl_gen (fun T => Rp T 156 [(2, gw true (oval 1 x A B)), (1, gw true (.slice a n c)), (0, gw true (.pointer (some ⟨q, 0, none⟩)))]) ((((Rp.nil rfl).cons rfl).cons rfl).cons rfl) (fun Z0 q0 => ?_)
  obtain ⟨w1, hw1⟩ : ∃ y, y = w.alloc (.cells (ocs 1 x A B).toArray 31) := ⟨_, rfl⟩
  refine vw (.pointer (some ⟨w.heap.size, 0, none⟩)) w1 (want_none rfl) (ex_box18 rfl (q0.e (j := 2) rfl) (by rw [hw1]; exact bxO20 _ _ _ _ _)) rfl q0.z (by decide) (q0.k fun _ q1 => ?_);clear q0
  have Bw1 : BB w1 w.heap.size 31 (ocs 1 x A B) := by rw [hw1]; exact BB.new _ _ _
  have bw1 : Below w.heap.size w w1 := by rw [hw1]; exact (Below.refl _ _).alloc (Nat.le_refl _) _
  have zw1 : w1.heap.size = w.heap.size + 1 := by rw [hw1]; exact World.size_alloc _ _
  clear hw1
  have d2 : Below w.heap.size w w1 := bw1
  refine q1.t (.bool false) (ex_assign rfl rfl) fun _ q2 => ?_;clear q1
  refine wpList_nil ?_
  go_upto_region 1 with fail
  refine wp_region_lit ?_
  refine q2.t (.pointer (some ⟨w.heap.size, 0, none⟩)) (ex_fa rfl (q2.e (j := 5) rfl) (faOp20 _ _ _ (.inl ⟨rfl, rfl⟩) _)) fun _ q3 => ?_;clear q2
  refine q3.t (.int .i64 (1 : Int)) (ex_ld rfl (q3.e (j := 15) rfl) Bw1.ldO0) fun _ q4 => ?_;clear q3
  refine wpList_nil ?_
  go_upto_region 2 with fail
  refine wp_region_lit ?_
  refine q4.t (.bool true) (ex_bin (Y := .int .i64 ((1 : Nat) : Int)) rfl (q4.e (j := 16) rfl) rfl (eqT20 _ _ (by omega) _)) fun _ q5 => ?_;clear q4
  refine q5.t (.bool true) (ex_assign rfl (q5.e (j := 18) rfl)) fun _ q6 => ?_;clear q5
  refine wpList_nil ?_
  go_upto_region 3 with fail
  refine wp_cond_true (q6.e (j := 17) rfl) ?_
  go_upto_region 3 with fail
  refine wp_region_lit ?_
  refine q6.t (.pointer (some ⟨q, 0, none⟩)) (ex_move rfl (q6.e (j := 0) rfl)) fun _ q7 => ?_;clear q6
  have hS9 : Calls Tryd.prog 12 #[.pointer (some ⟨q, 0, none⟩)] w1 (fun e w9 => e = .returned (.int .i64 ((n : Nat) : Int)) ∧ w9 = w1) := by
    have := rcS20 (ht.later (d2)).rc
    rw [List.length_map, hln] at this
    exact this
  refine vcallP (want_none rfl) (ex_call rfl (by simp only [List.map_toArray, List.map_cons, List.map_nil, (q7.e (j := 19) rfl), evc] <;> rfl) rfl) (hS9) rfl q7.z (by decide) ?_
  rintro e w3 ⟨rfl, hw3⟩
  refine ⟨_, rfl, q7.k fun _ q8 => ?_⟩;clear q7
  have hw3 := hw3.symm
  subst hw3
  refine q8.t (.slice a n c) (ex_move rfl (q8.e (j := 1) rfl)) fun _ q9 => ?_;clear q8
  refine q9.t (.int .i64 ((n : Nat) : Int)) (ex_lenG rfl rfl Tryd.underlying25 (q9.e (j := 21) rfl)) fun _ q10 => ?_;clear q9
  refine q10.t (.bool true) (ex_bin rfl (q10.e (j := 20) rfl) (q10.e (j := 22) rfl) (eqT20 _ _ (by omega) _)) fun _ q11 => ?_;clear q10
  refine q11.t (.bool true) (ex_assign rfl (q11.e (j := 23) rfl)) fun _ q12 => ?_;clear q11
  refine wpList_nil ?_
  go_wp2
  refine bodyPost_ret (results_tmp rfl _ _ _) rfl ?_
  rw [getD_of (q12.a 6 rfl)]
  exact ⟨by simp [gw], d2⟩
set_option maxHeartbeats 2000000 in
theorem does2_20 (l : List En) (a : Option Addr) (n c : Nat) (B9 q : Nat) (v : Value) (E : List Hs) (x : En) (A B : Int) (w : World) (h : SlY yE w a n c l) (ht : TV w B9 q v (l.map lf) E) (he : EdgeOf (l.map lf) E) (hT : Tb w) (hn : n ≤ 2932031007317) (hv : ∀ x ∈ l, x.o.v.size ≤ 140737488351232) :
    Calls Tryd.prog 8 #[.pointer (some ⟨q, 0, none⟩), .slice a n c, oval 2 x A B] w fun e w' => e = .returned (.bool true) ∧ Below w.heap.size w w' := by
  have hln := h.len
  go_enter Tryd.func8, Tryd.ntmps8
  go_upto_region 0 with fail
  refine wp_region_lit ?_
  refine vl_gen (fun T => Rp T 156 [(2, gw true (oval 2 x A B)), (1, gw true (.slice a n c)), (0, gw true (.pointer (some ⟨q, 0, none⟩)))]) ((((Rp.nil rfl).cons rfl).cons rfl).cons rfl) (fun Z0 q0 => ?_)
  obtain ⟨w1, hw1⟩ : ∃ y, y = w.alloc (.cells (ocs 2 x A B).toArray 31) := ⟨_, rfl⟩
  refine vw (.pointer (some ⟨w.heap.size, 0, none⟩)) w1 (want_none rfl) (ex_box18 rfl (q0.e (j := 2) rfl) (by rw [hw1]; exact bxO20 _ _ _ _ _)) rfl q0.z (by decide) (q0.k fun _ q1 => ?_);clear q0
  have Bw1 : BB w1 w.heap.size 31 (ocs 2 x A B) := by rw [hw1]; exact BB.new _ _ _
  have bw1 : Below w.heap.size w w1 := by rw [hw1]; exact (Below.refl _ _).alloc (Nat.le_refl _) _
  have zw1 : w1.heap.size = w.heap.size + 1 := by rw [hw1]; exact World.size_alloc _ _
  clear hw1
  have d2 : Below w.heap.size w w1 := bw1
  refine q1.t (.bool false) (ex_assign rfl rfl) fun _ q2 => ?_;clear q1
  refine wpList_nil ?_
  go_upto_region 1 with fail
  refine wp_region_lit ?_
  refine q2.t (.pointer (some ⟨w.heap.size, 0, none⟩)) (ex_fa rfl (q2.e (j := 5) rfl) (faOp20 _ _ _ (.inl ⟨rfl, rfl⟩) _)) fun _ q3 => ?_;clear q2
  refine q3.t (.int .i64 (2 : Int)) (ex_ld rfl (q3.e (j := 15) rfl) Bw1.ldO0) fun _ q4 => ?_;clear q3
  refine wpList_nil ?_
  go_upto_region 2 with fail
  refine wp_region_lit ?_
  refine q4.t (.bool false) (ex_bin (Y := .int .i64 ((1 : Nat) : Int)) rfl (q4.e (j := 16) rfl) rfl (eqF20 _ _ (by omega) _)) fun _ q5 => ?_;clear q4
  refine q5.t (.bool false) (ex_assign rfl (q5.e (j := 18) rfl)) fun _ q6 => ?_;clear q5
  refine wpList_nil ?_
  go_upto_region 4 with fail
  refine wp_cond_false (q6.e (j := 17) rfl) ?_
  go_upto_region 4 with fail
  refine wp_region_lit ?_
  refine q6.t (.bool true) (ex_bin (Y := .int .i64 ((2 : Nat) : Int)) rfl (q6.e (j := 16) rfl) rfl (eqT20 _ _ (by omega) _)) fun _ q7 => ?_;clear q6
  refine q7.t (.bool true) (ex_assign rfl (q7.e (j := 25) rfl)) fun _ q8 => ?_;clear q7
  refine wpList_nil ?_
  go_upto_region 5 with fail
  refine wp_cond_true (q8.e (j := 24) rfl) ?_
  go_upto_region 5 with fail
  refine wp_region_lit ?_
  refine q8.t (.pointer (some ⟨q, 0, none⟩)) (ex_move rfl (q8.e (j := 0) rfl)) fun _ q9 => ?_;clear q8
  have hH9 : Calls Tryd.prog 11 #[.pointer (some ⟨q, 0, none⟩)] w1 (fun e w9 => e = .returned (hd (l.map lf)).val ∧ Below w1.heap.size w1 w9) := by
    rcases Nat.eq_zero_or_pos n with e0 | e0
    · have el : l = [] := List.eq_nil_of_length_eq_zero (hln.trans e0)
      have hr := (ht.later (d2)).rc
      rw [el] at hr ⊢
      exact head020 _ _ hr
    · have := thead20 _ _ _ _ _ w1 (ht.later (d2)) (hT.of_below (d2) hT.lt) (by rw [List.length_map]; omega) (by rw [List.length_map]; omega)
      rw [thd_hd he (by rw [List.length_map]; omega) (by rw [List.length_map]; omega)] at this
      exact this
  refine vcallP (want_none rfl) (ex_call rfl (by simp only [List.map_toArray, List.map_cons, List.map_nil, (q9.e (j := 26) rfl), evc] <;> rfl) rfl) (hH9) rfl q9.z (by decide) ?_
  rintro e w3 ⟨rfl, bw3⟩
  refine ⟨_, rfl, q9.k fun _ q10 => ?_⟩;clear q9
  have zw3 := bw3.size
  have d4 : Below w.heap.size w w3 := d2.trans (bw3.mono d2.size)
  refine q10.t (.slice a n c) (ex_move rfl (q10.e (j := 1) rfl)) fun _ q11 => ?_;clear q10
  refine vcallP (want_none rfl) (ex_call rfl (by simp only [List.map_toArray, List.map_cons, List.map_nil, (q11.e (j := 28) rfl), evc] <;> rfl) rfl) (rhead20 (l) _ _ _ w3 (h.later d4) (by omega) hv) rfl q11.z (by decide) ?_
  rintro e w5 ⟨rfl, bw5⟩
  refine ⟨_, rfl, q11.k fun _ q12 => ?_⟩;clear q11
  have zw5 := bw5.size
  have d6 : Below w.heap.size w w5 := d4.trans (bw5.mono d4.size)
  refine q12.t (.bool (decide ((hd (l.map lf)).v = (hd ((l).map lf)).v))) (ex_bin rfl (q12.e (j := 27) rfl) (q12.e (j := 29) rfl) (eqHZ _ _ _ _ _)) fun _ q13 => ?_;clear q12
  refine q13.t (.bool (decide ((hd (l.map lf)).v = (hd ((l).map lf)).v))) (ex_assign rfl (q13.e (j := 30) rfl)) fun _ q14 => ?_;clear q13
  refine wpList_nil ?_
  go_wp2
  refine bodyPost_ret (results_tmp rfl _ _ _) rfl ?_
  rw [getD_of (q14.a 6 rfl)]
  exact ⟨by simp [gw], d6⟩
set_option maxHeartbeats 2000000 in
theorem does3_20 (l : List En) (a : Option Addr) (n c : Nat) (B9 q : Nat) (v : Value) (E : List Hs) (x : En) (A : Nat) (B : Int) (hA : A ≤ n) (w : World) (h : SlY yE w a n c l) (ht : TV w B9 q v (l.map lf) E) (he : EdgeOf (l.map lf) E) (hT : Tb w) (hn : n ≤ 2932031007317) (hv : ∀ x ∈ l, x.o.v.size ≤ 140737488351232) :
    Calls Tryd.prog 8 #[.pointer (some ⟨q, 0, none⟩), .slice a n c, oval 3 x (A : Int) B] w fun e w' => e = .returned (.bool true) ∧ Below w.heap.size w w' := by
  have hln := h.len
  go_enter Tryd.func8, Tryd.ntmps8
  go_upto_region 0 with fail
  refine wp_region_lit ?_
  refine vl_gen (fun T => Rp T 156 [(2, gw true (oval 3 x (A : Int) B)), (1, gw true (.slice a n c)), (0, gw true (.pointer (some ⟨q, 0, none⟩)))]) ((((Rp.nil rfl).cons rfl).cons rfl).cons rfl) (fun Z0 q0 => ?_)
  obtain ⟨w1, hw1⟩ : ∃ y, y = w.alloc (.cells (ocs 3 x (A : Int) B).toArray 31) := ⟨_, rfl⟩
  refine vw (.pointer (some ⟨w.heap.size, 0, none⟩)) w1 (want_none rfl) (ex_box18 rfl (q0.e (j := 2) rfl) (by rw [hw1]; exact bxO20 _ _ _ _ _)) rfl q0.z (by decide) (q0.k fun _ q1 => ?_);clear q0
  have Bw1 : BB w1 w.heap.size 31 (ocs 3 x (A : Int) B) := by rw [hw1]; exact BB.new _ _ _
  have bw1 : Below w.heap.size w w1 := by rw [hw1]; exact (Below.refl _ _).alloc (Nat.le_refl _) _
  have zw1 : w1.heap.size = w.heap.size + 1 := by rw [hw1]; exact World.size_alloc _ _
  clear hw1
  have d2 : Below w.heap.size w w1 := bw1
  refine q1.t (.bool false) (ex_assign rfl rfl) fun _ q2 => ?_;clear q1
  refine wpList_nil ?_
  go_upto_region 1 with fail
  refine wp_region_lit ?_
  refine q2.t (.pointer (some ⟨w.heap.size, 0, none⟩)) (ex_fa rfl (q2.e (j := 5) rfl) (faOp20 _ _ _ (.inl ⟨rfl, rfl⟩) _)) fun _ q3 => ?_;clear q2
  refine q3.t (.int .i64 (3 : Int)) (ex_ld rfl (q3.e (j := 15) rfl) Bw1.ldO0) fun _ q4 => ?_;clear q3
  refine wpList_nil ?_
  go_upto_region 2 with fail
  refine wp_region_lit ?_
  refine q4.t (.bool false) (ex_bin (Y := .int .i64 ((1 : Nat) : Int)) rfl (q4.e (j := 16) rfl) rfl (eqF20 _ _ (by omega) _)) fun _ q5 => ?_;clear q4
  refine q5.t (.bool false) (ex_assign rfl (q5.e (j := 18) rfl)) fun _ q6 => ?_;clear q5
  refine wpList_nil ?_
  go_upto_region 4 with fail
  refine wp_cond_false (q6.e (j := 17) rfl) ?_
  go_upto_region 4 with fail
  refine wp_region_lit ?_
  refine q6.t (.bool false) (ex_bin (Y := .int .i64 ((2 : Nat) : Int)) rfl (q6.e (j := 16) rfl) rfl (eqF20 _ _ (by omega) _)) fun _ q7 => ?_;clear q6
  refine q7.t (.bool false) (ex_assign rfl (q7.e (j := 25) rfl)) fun _ q8 => ?_;clear q7
  refine wpList_nil ?_
  go_upto_region 6 with fail
  refine wp_cond_false (q8.e (j := 24) rfl) ?_
  go_upto_region 6 with fail
  refine wp_region_lit ?_
  refine q8.t (.bool true) (ex_bin (Y := .int .i64 ((3 : Nat) : Int)) rfl (q8.e (j := 16) rfl) rfl (eqT20 _ _ (by omega) _)) fun _ q9 => ?_;clear q8
  refine q9.t (.bool true) (ex_assign rfl (q9.e (j := 32) rfl)) fun _ q10 => ?_;clear q9
  refine wpList_nil ?_
  go_upto_region 7 with fail
  refine wp_cond_true (q10.e (j := 31) rfl) ?_
  go_upto_region 7 with fail
  refine wp_region_lit ?_
  refine q10.t (.pointer (some ⟨q, 0, none⟩)) (ex_move rfl (q10.e (j := 0) rfl)) fun _ q11 => ?_;clear q10
  refine q11.t (.pointer (some ⟨w.heap.size, 6, none⟩)) (ex_fa rfl (q11.e (j := 5) rfl) (faOp20 _ _ _ (.inr (.inr (.inl ⟨rfl, rfl⟩))) _)) fun _ q12 => ?_;clear q11
  refine q12.t (.int .i64 ((A : Nat) : Int)) (ex_ld rfl (q12.e (j := 35) rfl) Bw1.ldO2) fun _ q13 => ?_;clear q12
  refine vcallP (want_none rfl) (ex_call rfl (by simp only [List.map_toArray, List.map_cons, List.map_nil, (q13.e (j := 34) rfl), (q13.e (j := 36) rfl), evc] <;> rfl) rfl) (headAt20 (.pointer (some ⟨q, 0, none⟩)) (l.map lf) A (by simp; omega) (by rw [List.length_map]; omega) w1 (ht.later (d2)).rc (by rw [List.length_map]; omega)) rfl q13.z (by decide) ?_
  rintro e w3 ⟨rfl, bw3⟩
  refine ⟨_, rfl, q13.k fun _ q14 => ?_⟩;clear q13
  have zw3 := bw3.size
  have d4 : Below w.heap.size w w3 := d2.trans (bw3.mono d2.size)
  refine q14.t (.tuple #[(hd ((l.map lf).take A)).val, .int .i64 (0 : Int)]) (ex_move rfl (q14.e (j := 37) rfl)) fun _ q15 => ?_;clear q14
  refine q15.t ((hd ((l.map lf).take A)).val) (ex_ext18 rfl (q15.e (j := 33) rfl) rfl) fun _ q16 => ?_;clear q15
  refine q16.t (.int .i64 (0 : Int)) (ex_ext18 rfl (q16.e (j := 33) rfl) rfl) fun _ q17 => ?_;clear q16
  obtain ⟨w5, hw5⟩ : ∃ y, y = w3.alloc (.cells (zH.cs).toArray 38) := ⟨_, rfl⟩
  refine vw (.pointer (some ⟨w3.heap.size, 0, none⟩)) w5 (want_none rfl) (ex_al rfl (by rw [hw5]; exact alH _)) rfl q17.z (by decide) (q17.k fun _ q18 => ?_);clear q17
  have Bw5 : BB w5 w3.heap.size 38 (zH.cs) := by rw [hw5]; exact BB.new _ _ _
  have bw5 : Below w3.heap.size w3 w5 := by rw [hw5]; exact (Below.refl _ _).alloc (Nat.le_refl _) _
  have zw5 : w5.heap.size = w3.heap.size + 1 := by rw [hw5]; exact World.size_alloc _ _
  clear hw5
  have d6 : Below w.heap.size w w5 := d4.trans (bw5.mono d4.size)
  obtain ⟨w7, hw7⟩ : ∃ y, y = w5.setCells w3.heap.size 0 ((hd ((l.map lf).take A)).cs) := ⟨_, rfl⟩
  refine vs w7 (want_none rfl) (ex_st rfl (q18.e (j := 7) rfl) (q18.e (j := 38) rfl) (by rw [hw7]; exact Bw5.stH rfl _)) rfl ?_
  have Bw7 : BB w7 w3.heap.size 38 ((hd ((l.map lf).take A)).cs) := by rw [hw7]; exact Bw5.putH rfl _
  have uw7 : Upd (fun k => k = w3.heap.size) w5 w7 := by rw [hw7]; exact upd18 _ _ _ _
  clear hw7
  have zw7 := uw7.size
  have d8 : Below w.heap.size w w7 := d6.trans (bel_ge uw7 d6.size (by omega))
  refine q18.t (.int .i64 (0 : Int)) (ex_assign rfl (q18.e (j := 39) rfl)) fun _ q19 => ?_;clear q18
  refine wpList_nil ?_
  go_upto_region 8 with fail
  refine wp_region_lit ?_
  refine q19.t (.pointer (some ⟨w.heap.size, 6, none⟩)) (ex_fa rfl (q19.e (j := 5) rfl) (faOp20 _ _ _ (.inr (.inr (.inl ⟨rfl, rfl⟩))) _)) fun _ q20 => ?_;clear q19
  have B9 : BB w7 w.heap.size 31 (ocs 3 x (A : Int) B) := (((Bw1.later bw3).later bw5).upd uw7 (show ¬ w.heap.size = w3.heap.size by omega))
  refine q20.t (.int .i64 ((A : Nat) : Int)) (ex_ld rfl (q20.e (j := 40) rfl) B9.ldO2) fun _ q21 => ?_;clear q20
  refine q21.t (.bool false) (ex_bin (Y := .int .i64 ((0 : Nat) : Int)) rfl (q21.e (j := 41) rfl) rfl (ltF20 _ _ (by omega) _)) fun _ q22 => ?_;clear q21
  refine q22.t (.bool false) (ex_move rfl (q22.e (j := 42) rfl)) fun _ q23 => ?_;clear q22
  refine vl ((true && (false == false))) (.pointer (some ⟨w.heap.size, 6, none⟩)) (want_g rfl rfl (q23.a 43 rfl)) (fun hc => ex_fa rfl (q23.e (j := 5) rfl) (faOp20 _ _ _ (.inr (.inr (.inl ⟨rfl, rfl⟩))) _)) rfl q23.z (by decide) (q23.k fun _ q24 => ?_);clear q23
  refine vl ((true && (false == false))) (.int .i64 ((A : Nat) : Int)) (want_g rfl rfl (q24.a 43 rfl)) (fun hc => ex_ld rfl (ev (q24.a 44 rfl) hc) B9.ldO2) rfl q24.z (by decide) (q24.k fun _ q25 => ?_);clear q24
  refine vl ((true && (false == false))) (.slice a n c) (want_g rfl rfl (q25.a 43 rfl)) (fun hc => ex_move rfl (q25.e (j := 1) rfl)) rfl q25.z (by decide) (q25.k fun _ q26 => ?_);clear q25
  refine vl ((true && (false == false))) (.int .i64 ((n : Nat) : Int)) (want_g rfl rfl (q26.a 43 rfl)) (fun hc => ex_lenG rfl rfl Tryd.underlying25 (ev (q26.a 46 rfl) hc)) rfl q26.z (by decide) (q26.k fun _ q27 => ?_);clear q26
  refine vl ((true && (false == false))) (.bool false) (want_g rfl rfl (q27.a 43 rfl)) (fun hc => ex_bin rfl (ev (q27.a 45 rfl) hc) (ev (q27.a 47 rfl) hc) (gtF20 _ _ (by omega) _)) rfl q27.z (by decide) (q27.k fun _ q28 => ?_);clear q27
  refine q28.t (.bool false) (ex_or (c := true) (b := false) (z := false) rfl (q28.a 43 rfl) (q28.a 48 rfl) rfl) fun _ q29 => ?_;clear q28
  refine wpList_nil ?_
  go_upto_region 10 with fail
  refine wp_cond_false (q29.e (j := 49) rfl) ?_
  go_upto_region 10 with fail
  refine vp_start 156 (fun T v => Rp T 156 [(0, gw true (.pointer (some ⟨q, 0, none⟩))), (1, gw true (.slice a n c)), (5, gw true (.pointer (some ⟨w.heap.size, 0, none⟩))), (7, gw true (.pointer (some ⟨w3.heap.size, 0, none⟩))), (8, gw true (.int .i64 (0 : Int))), (16, gw true (.int .i64 (3 : Int))), (17, gw true (.bool false)), (24, gw true (.bool false)), (31, gw true (.bool true)), (49, gw true (.bool false))] ∧ Upd (fun k => False) w7 v) (fun (i : Nat) (T : Array Value) (v : World) => match i with | 0 => T[57]? = some (gw true (.int .i64 (0 : Int))) | 1 => T[58]? = some (gw true (.bool true)) | 2 => T[59]? = some (gw true (.bool true)) | 3 => T[60]? = some (gw (true && (true == true)) ((hd ((l.map lf).take A)).val)) | 4 => T[61]? = some (gw (true && (true == true)) (.slice a n c)) | 5 => T[62]? = some (gw (true && (true == true)) (.pointer (some ⟨w.heap.size, 6, none⟩))) | 6 => T[63]? = some (gw (true && (true == true)) (.int .i64 ((A : Nat) : Int))) | 7 => T[64]? = some (gw (true && (true == true)) (.slice a A c)) | 8 => T[65]? = some (gw (true && (true == true)) ((hd ((l.take A).map lf)).val)) | 9 => T[66]? = some (gw (true && (true == true)) (.bool (decide ((hd ((l.map lf).take A)).v = (hd ((l.take A).map lf)).v)))) | 10 => T[67]? = some (gw true (.bool (decide ((hd ((l.map lf).take A)).v = (hd ((l.take A).map lf)).v)))) | 11 => T[6]? = some (gw true (.bool (decide ((hd ((l.map lf).take A)).v = (hd ((l.take A).map lf)).v)))) | _ => True) (fun (i : Nat) (T : Array Value) (v : World) => match i with | _ => True) (fun j T k => False) (fun i => match i with | 0 => [57] | 1 => [58] | 2 => [59] | 3 => [60] | 4 => [61] | 5 => [62] | 6 => [63] | 7 => [64] | 8 => [65] | 9 => [66] | 10 => [67] | 11 => [6] | _ => []) (fun _ => []) [0, 1, 5, 7, 8, 16, 17, 24, 31, 49] (fun i j => false) (fun i => false) (by kernel_rfl) (by kernel_rfl) q29.z ⟨(((((((((((Rp.nil q29.z).cons (q29.a 49 rfl)).cons (q29.a 31 rfl)).cons (q29.a 24 rfl)).cons (q29.a 17 rfl)).cons (q29.a 16 rfl)).cons (q29.a 8 rfl)).cons (q29.a 7 rfl)).cons (q29.a 5 rfl)).cons (q29.a 1 rfl)).cons (q29.a 0 rfl)), (Upd.refl _ _).drew20⟩ ?_ ?_ ?_ ?_ ?_ ?_
  · exact ⟨trivial, trivial, trivial, trivial, trivial, trivial, trivial, trivial, trivial, trivial, trivial, trivial, trivial⟩
  · intro j T T2 v v2 h _ hz hk hu
    exact ⟨h.1.ch hz hk, h.2.tr20 hu (fun k hk he => he.elim)⟩
  · refine ⟨?_, ?_, ?_, ?_, ?_, ?_, ?_, ?_, ?_, ?_, ?_, ?_, trivial⟩
    · exact fun j hj hu T T2 v v2 h hD hz hk zU => (hk 57 (List.mem_singleton.2 rfl)).trans h
    · exact fun j hj hu T T2 v v2 h hD hz hk zU => (hk 58 (List.mem_singleton.2 rfl)).trans h
    · exact fun j hj hu T T2 v v2 h hD hz hk zU => (hk 59 (List.mem_singleton.2 rfl)).trans h
    · exact fun j hj hu T T2 v v2 h hD hz hk zU => (hk 60 (List.mem_singleton.2 rfl)).trans h
    · exact fun j hj hu T T2 v v2 h hD hz hk zU => (hk 61 (List.mem_singleton.2 rfl)).trans h
    · exact fun j hj hu T T2 v v2 h hD hz hk zU => (hk 62 (List.mem_singleton.2 rfl)).trans h
    · exact fun j hj hu T T2 v v2 h hD hz hk zU => (hk 63 (List.mem_singleton.2 rfl)).trans h
    · exact fun j hj hu T T2 v v2 h hD hz hk zU => (hk 64 (List.mem_singleton.2 rfl)).trans h
    · exact fun j hj hu T T2 v v2 h hD hz hk zU => (hk 65 (List.mem_singleton.2 rfl)).trans h
    · exact fun j hj hu T T2 v v2 h hD hz hk zU => (hk 66 (List.mem_singleton.2 rfl)).trans h
    · exact fun j hj hu T T2 v v2 h hD hz hk zU => (hk 67 (List.mem_singleton.2 rfl)).trans h
    · exact fun j hj hu T T2 v v2 h hD hz hk zU => (hk 6 (List.mem_singleton.2 rfl)).trans h
  · refine ⟨fun _ _ _ _ _ _ _ _ _ _ _ => trivial, fun _ _ _ _ _ _ _ _ _ _ _ => trivial, fun _ _ _ _ _ _ _ _ _ _ _ => trivial, fun _ _ _ _ _ _ _ _ _ _ _ => trivial, fun _ _ _ _ _ _ _ _ _ _ _ => trivial, fun _ _ _ _ _ _ _ _ _ _ _ => trivial, fun _ _ _ _ _ _ _ _ _ _ _ => trivial, fun _ _ _ _ _ _ _ _ _ _ _ => trivial, fun _ _ _ _ _ _ _ _ _ _ _ => trivial, fun _ _ _ _ _ _ _ _ _ _ _ => trivial, fun _ _ _ _ _ _ _ _ _ _ _ => trivial, fun _ _ _ _ _ _ _ _ _ _ _ => trivial, trivial⟩
  · refine ⟨?_, ?_, ?_, ?_, ?_, ?_, ?_, ?_, ?_, ?_, ?_, ?_, trivial⟩
    · intro T df v zz zB zp zC
      have qb := zB.1
      have zU := zB.2
      exact ⟨true, want_none rfl, fun _ => .inl ⟨_, _, ex_move rfl (qb.e (j := 8) rfl), Upd.refl _ _, fun h => absurd h (by decide), fun T2 N => N.s 57 rfl⟩, fun h => absurd h (by decide), fun h => absurd h (by decide)⟩
    · intro T df v zz zB zp zC
      have qb := zB.1
      have zU := zB.2
      have p0 : T[57]? = some (gw true (.int .i64 (0 : Int))) := zp 0 (by kernel_rfl) (by kernel_rfl)
      exact ⟨true, want_none rfl, fun _ => .inl ⟨_, _, ex_bin (Y := .int .i64 ((0 : Nat) : Int)) rfl (ev p0 rfl) rfl (eqEt _ _ _ _), Upd.refl _ _, fun h => absurd h (by decide), fun T2 N => N.s 58 rfl⟩, fun h => absurd h (by decide), fun h => absurd h (by decide)⟩
    · intro T df v zz zB zp zC
      have qb := zB.1
      have zU := zB.2
      have p1 : T[58]? = some (gw true (.bool true)) := zp 1 (by kernel_rfl) (by kernel_rfl)
      exact ⟨true, want_none rfl, fun _ => .inl ⟨_, _, ex_move rfl (ev p1 rfl), Upd.refl _ _, fun h => absurd h (by decide), fun T2 N => N.s 59 rfl⟩, fun h => absurd h (by decide), fun h => absurd h (by decide)⟩
    · intro T df v zz zB zp zC
      have qb := zB.1
      have zU := zB.2
      have p2 : T[59]? = some (gw true (.bool true)) := zp 2 (by kernel_rfl) (by kernel_rfl)
      exact ⟨(true && (true == true)), want_g rfl rfl p2, fun hc => .inl ⟨_, _, ex_ld rfl (qb.e (j := 7) rfl) (Bw7.upd zU (show ¬ False from id)).ldH, Upd.refl _ _, fun h => absurd h (by decide), fun T2 N => by rw [hc]; exact N.s 60 rfl⟩, fun _ => rfl, fun hc T2 N => by rw [hc]; exact N.s 60 rfl⟩
    · intro T df v zz zB zp zC
      have qb := zB.1
      have zU := zB.2
      have p2 : T[59]? = some (gw true (.bool true)) := zp 2 (by kernel_rfl) (by kernel_rfl)
      exact ⟨(true && (true == true)), want_g rfl rfl p2, fun hc => .inl ⟨_, _, ex_move rfl (qb.e (j := 1) rfl), Upd.refl _ _, fun h => absurd h (by decide), fun T2 N => by rw [hc]; exact N.s 61 rfl⟩, fun _ => rfl, fun hc T2 N => by rw [hc]; exact N.s 61 rfl⟩
    · intro T df v zz zB zp zC
      have qb := zB.1
      have zU := zB.2
      have p2 : T[59]? = some (gw true (.bool true)) := zp 2 (by kernel_rfl) (by kernel_rfl)
      exact ⟨(true && (true == true)), want_g rfl rfl p2, fun hc => .inl ⟨_, _, ex_fa rfl (qb.e (j := 5) rfl) (faOp20 _ _ _ (.inr (.inr (.inl ⟨rfl, rfl⟩))) _), Upd.refl _ _, fun h => absurd h (by decide), fun T2 N => by rw [hc]; exact N.s 62 rfl⟩, fun _ => rfl, fun hc T2 N => by rw [hc]; exact N.s 62 rfl⟩
    · intro T df v zz zB zp zC
      have qb := zB.1
      have zU := zB.2
      have p2 : T[59]? = some (gw true (.bool true)) := zp 2 (by kernel_rfl) (by kernel_rfl)
      have p5 : T[62]? = some (gw (true && (true == true)) (.pointer (some ⟨w.heap.size, 6, none⟩))) := zp 5 (by kernel_rfl) (by kernel_rfl)
      exact ⟨(true && (true == true)), want_g rfl rfl p2, fun hc => .inl ⟨_, _, ex_ld rfl (ev p5 hc) (B9.upd zU (show ¬ False from id)).ldO2, Upd.refl _ _, fun h => absurd h (by decide), fun T2 N => by rw [hc]; exact N.s 63 rfl⟩, fun _ => rfl, fun hc T2 N => by rw [hc]; exact N.s 63 rfl⟩
    · intro T df v zz zB zp zC
      have qb := zB.1
      have zU := zB.2
      have p2 : T[59]? = some (gw true (.bool true)) := zp 2 (by kernel_rfl) (by kernel_rfl)
      have p4 : T[61]? = some (gw (true && (true == true)) (.slice a n c)) := zp 4 (by kernel_rfl) (by kernel_rfl)
      have p6 : T[63]? = some (gw (true && (true == true)) (.int .i64 ((A : Nat) : Int))) := zp 6 (by kernel_rfl) (by kernel_rfl)
      exact ⟨(true && (true == true)), want_g rfl rfl p2, fun hc => .inl ⟨_, _, ex_sl19 rfl (ev p4 hc) rfl (congrArg some (ev p6 hc)) rfl (slToE20A a n c A (by omega) h.cap (fun e => (h.nil e).2) _), Upd.refl _ _, fun h => absurd h (by decide), fun T2 N => by rw [hc]; exact N.s 64 rfl⟩, fun _ => rfl, fun hc T2 N => by rw [hc]; exact N.s 64 rfl⟩
    · intro T df v zz zB zp zC
      have qb := zB.1
      have zU := zB.2
      have zDw : Below w.heap.size w v := d8.trans (zU.below d8.size (fun k hk => hk.elim))
      have p2 : T[59]? = some (gw true (.bool true)) := zp 2 (by kernel_rfl) (by kernel_rfl)
      have p7 : T[64]? = some (gw (true && (true == true)) (.slice a A c)) := zp 7 (by kernel_rfl) (by kernel_rfl)
      refine ⟨(true && (true == true)), want_g rfl rfl p2, fun hc => .inr (.inr ⟨_, _, _, ex_call rfl (by simp only [List.map_toArray, List.map_cons, List.map_nil, (ev p7 hc), evc] <;> rfl) rfl, rhead20 (l.take A) _ _ _ v ((h.later zDw).take A (by omega)) (by omega) (fun x hx => hv x (List.mem_of_mem_take hx)), ?_⟩), fun _ => rfl, fun hc T2 N => by rw [hc]; exact N.s 65 rfl⟩
      rintro e w9 ⟨rfl, b9⟩
      exact ⟨_, rfl, Upd.of_below b9, fun h => absurd h (by decide), fun T2 N => by rw [hc]; exact N.s 65 rfl⟩
    · intro T df v zz zB zp zC
      have qb := zB.1
      have zU := zB.2
      have p2 : T[59]? = some (gw true (.bool true)) := zp 2 (by kernel_rfl) (by kernel_rfl)
      have p3 : T[60]? = some (gw (true && (true == true)) ((hd ((l.map lf).take A)).val)) := zp 3 (by kernel_rfl) (by kernel_rfl)
      have p8 : T[65]? = some (gw (true && (true == true)) ((hd ((l.take A).map lf)).val)) := zp 8 (by kernel_rfl) (by kernel_rfl)
      exact ⟨(true && (true == true)), want_g rfl rfl p2, fun hc => .inl ⟨_, _, ex_bin rfl (ev p3 hc) (ev p8 hc) (eqHZ _ _ _ _ _), Upd.refl _ _, fun h => absurd h (by decide), fun T2 N => by rw [hc]; exact N.s 66 rfl⟩, fun _ => rfl, fun hc T2 N => by rw [hc]; exact N.s 66 rfl⟩
    · intro T df v zz zB zp zC
      have qb := zB.1
      have zU := zB.2
      have p2 : T[59]? = some (gw true (.bool true)) := zp 2 (by kernel_rfl) (by kernel_rfl)
      have p9 : T[66]? = some (gw (true && (true == true)) (.bool (decide ((hd ((l.map lf).take A)).v = (hd ((l.take A).map lf)).v)))) := zp 9 (by kernel_rfl) (by kernel_rfl)
      exact ⟨true, want_none rfl, fun _ => .inl ⟨_, _, ex_and (c := true) (b := true) (z := (decide ((hd ((l.map lf).take A)).v = (hd ((l.take A).map lf)).v))) rfl p2 p9 rfl, Upd.refl _ _, fun h => absurd h (by decide), fun T2 N => N.s 67 rfl⟩, fun h => absurd h (by decide), fun h => absurd h (by decide)⟩
    · intro T df v zz zB zp zC
      have qb := zB.1
      have zU := zB.2
      have p10 : T[67]? = some (gw true (.bool (decide ((hd ((l.map lf).take A)).v = (hd ((l.take A).map lf)).v)))) := zp 10 (by kernel_rfl) (by kernel_rfl)
      exact ⟨true, want_none rfl, fun _ => .inl ⟨_, _, ex_assign rfl (ev p10 rfl), Upd.refl _ _, fun h => absurd h (by decide), fun T2 N => N.s 6 rfl⟩, fun h => absurd h (by decide), fun h => absurd h (by decide)⟩
  intro T v10 zz zB zq za
  have qb := zB.1
  have U11 := zB.2
  clear zB zz
  clear q29
  have d12 : Below w.heap.size w v10 := d8.trans (U11.below (Nat.le_trans d8.size (Nat.le_refl _)) (fun k hk => hk.elim))
  have zv10 := U11.size
  have p11 : T[6]? = some (gw true (.bool (decide ((hd ((l.map lf).take A)).v = (hd ((l.take A).map lf)).v)))) := zq 11 _ rfl (fun k => rfl)
  have q30 := (qb.cons p11)
  clear zq za qb p11
  go_wp2
  refine bodyPost_ret (results_tmp rfl _ _ _) rfl ?_
  rw [getD_of (q30.a 6 rfl)]
  exact ⟨by simp [gw], d12⟩
set_option maxHeartbeats 2000000 in
theorem does3B_20 (l : List En) (a : Option Addr) (n c : Nat) (B9 q : Nat) (v : Value) (E : List Hs) (x : En) (A B : Int) (hA : A < 0 ∨ (n : Int) < A) (w : World) (h : SlY yE w a n c l) (ht : TV w B9 q v (l.map lf) E) (he : EdgeOf (l.map lf) E) (hT : Tb w) (hn : n ≤ 2932031007317) (hv : ∀ x ∈ l, x.o.v.size ≤ 140737488351232) :
    Calls Tryd.prog 8 #[.pointer (some ⟨q, 0, none⟩), .slice a n c, oval 3 x A B] w fun e w' => e = .returned (.bool true) ∧ Below w.heap.size w w' := by
  have hln := h.len
  go_enter Tryd.func8, Tryd.ntmps8
  go_upto_region 0 with fail
  refine wp_region_lit ?_
  refine vl_gen (fun T => Rp T 156 [(2, gw true (oval 3 x A B)), (1, gw true (.slice a n c)), (0, gw true (.pointer (some ⟨q, 0, none⟩)))]) ((((Rp.nil rfl).cons rfl).cons rfl).cons rfl) (fun Z0 q0 => ?_)
  obtain ⟨w1, hw1⟩ : ∃ y, y = w.alloc (.cells (ocs 3 x A B).toArray 31) := ⟨_, rfl⟩
  refine vw (.pointer (some ⟨w.heap.size, 0, none⟩)) w1 (want_none rfl) (ex_box18 rfl (q0.e (j := 2) rfl) (by rw [hw1]; exact bxO20 _ _ _ _ _)) rfl q0.z (by decide) (q0.k fun _ q1 => ?_);clear q0
  have Bw1 : BB w1 w.heap.size 31 (ocs 3 x A B) := by rw [hw1]; exact BB.new _ _ _
  have bw1 : Below w.heap.size w w1 := by rw [hw1]; exact (Below.refl _ _).alloc (Nat.le_refl _) _
  have zw1 : w1.heap.size = w.heap.size + 1 := by rw [hw1]; exact World.size_alloc _ _
  clear hw1
  have d2 : Below w.heap.size w w1 := bw1
  refine q1.t (.bool false) (ex_assign rfl rfl) fun _ q2 => ?_;clear q1
  refine wpList_nil ?_
  go_upto_region 1 with fail
  refine wp_region_lit ?_
  refine q2.t (.pointer (some ⟨w.heap.size, 0, none⟩)) (ex_fa rfl (q2.e (j := 5) rfl) (faOp20 _ _ _ (.inl ⟨rfl, rfl⟩) _)) fun _ q3 => ?_;clear q2
  refine q3.t (.int .i64 (3 : Int)) (ex_ld rfl (q3.e (j := 15) rfl) Bw1.ldO0) fun _ q4 => ?_;clear q3
  refine wpList_nil ?_
  go_upto_region 2 with fail
  refine wp_region_lit ?_
  refine q4.t (.bool false) (ex_bin (Y := .int .i64 ((1 : Nat) : Int)) rfl (q4.e (j := 16) rfl) rfl (eqF20 _ _ (by omega) _)) fun _ q5 => ?_;clear q4
  refine q5.t (.bool false) (ex_assign rfl (q5.e (j := 18) rfl)) fun _ q6 => ?_;clear q5
  refine wpList_nil ?_
  go_upto_region 4 with fail
  refine wp_cond_false (q6.e (j := 17) rfl) ?_
  go_upto_region 4 with fail
  refine wp_region_lit ?_
  refine q6.t (.bool false) (ex_bin (Y := .int .i64 ((2 : Nat) : Int)) rfl (q6.e (j := 16) rfl) rfl (eqF20 _ _ (by omega) _)) fun _ q7 => ?_;clear q6
  refine q7.t (.bool false) (ex_assign rfl (q7.e (j := 25) rfl)) fun _ q8 => ?_;clear q7
  refine wpList_nil ?_
  go_upto_region 6 with fail
  refine wp_cond_false (q8.e (j := 24) rfl) ?_
  go_upto_region 6 with fail
  refine wp_region_lit ?_
  refine q8.t (.bool true) (ex_bin (Y := .int .i64 ((3 : Nat) : Int)) rfl (q8.e (j := 16) rfl) rfl (eqT20 _ _ (by omega) _)) fun _ q9 => ?_;clear q8
  refine q9.t (.bool true) (ex_assign rfl (q9.e (j := 32) rfl)) fun _ q10 => ?_;clear q9
  refine wpList_nil ?_
  go_upto_region 7 with fail
  refine wp_cond_true (q10.e (j := 31) rfl) ?_
  go_upto_region 7 with fail
  refine wp_region_lit ?_
  refine q10.t (.pointer (some ⟨q, 0, none⟩)) (ex_move rfl (q10.e (j := 0) rfl)) fun _ q11 => ?_;clear q10
  refine q11.t (.pointer (some ⟨w.heap.size, 6, none⟩)) (ex_fa rfl (q11.e (j := 5) rfl) (faOp20 _ _ _ (.inr (.inr (.inl ⟨rfl, rfl⟩))) _)) fun _ q12 => ?_;clear q11
  refine q12.t (.int .i64 (A : Int)) (ex_ld rfl (q12.e (j := 35) rfl) Bw1.ldO2) fun _ q13 => ?_;clear q12
  refine vcallP (want_none rfl) (ex_call rfl (by simp only [List.map_toArray, List.map_cons, List.map_nil, (q13.e (j := 34) rfl), (q13.e (j := 36) rfl), evc] <;> rfl) rfl) (headAtB20 (.pointer (some ⟨q, 0, none⟩)) (l.map lf) A (by simp; omega) w1 (ht.later (d2)).rc (by rw [List.length_map]; omega)) rfl q13.z (by decide) ?_
  rintro e w3 ⟨rfl, bw3⟩
  refine ⟨_, rfl, q13.k fun _ q14 => ?_⟩;clear q13
  have zw3 := bw3.size
  have d4 : Below w.heap.size w w3 := d2.trans (bw3.mono d2.size)
  refine q14.t (.tuple #[zH.val, .int .i64 (200 : Int)]) (ex_move rfl (q14.e (j := 37) rfl)) fun _ q15 => ?_;clear q14
  refine q15.t (zH.val) (ex_ext18 rfl (q15.e (j := 33) rfl) rfl) fun _ q16 => ?_;clear q15
  refine q16.t (.int .i64 (200 : Int)) (ex_ext18 rfl (q16.e (j := 33) rfl) rfl) fun _ q17 => ?_;clear q16
  obtain ⟨w5, hw5⟩ : ∃ y, y = w3.alloc (.cells (zH.cs).toArray 38) := ⟨_, rfl⟩
  refine vw (.pointer (some ⟨w3.heap.size, 0, none⟩)) w5 (want_none rfl) (ex_al rfl (by rw [hw5]; exact alH _)) rfl q17.z (by decide) (q17.k fun _ q18 => ?_);clear q17
  have Bw5 : BB w5 w3.heap.size 38 (zH.cs) := by rw [hw5]; exact BB.new _ _ _
  have bw5 : Below w3.heap.size w3 w5 := by rw [hw5]; exact (Below.refl _ _).alloc (Nat.le_refl _) _
  have zw5 : w5.heap.size = w3.heap.size + 1 := by rw [hw5]; exact World.size_alloc _ _
  clear hw5
  have d6 : Below w.heap.size w w5 := d4.trans (bw5.mono d4.size)
  obtain ⟨w7, hw7⟩ : ∃ y, y = w5.setCells w3.heap.size 0 (zH.cs) := ⟨_, rfl⟩
  refine vs w7 (want_none rfl) (ex_st rfl (q18.e (j := 7) rfl) (q18.e (j := 38) rfl) (by rw [hw7]; exact Bw5.stH rfl _)) rfl ?_
  have Bw7 : BB w7 w3.heap.size 38 (zH.cs) := by rw [hw7]; exact Bw5.putH rfl _
  have uw7 : Upd (fun k => k = w3.heap.size) w5 w7 := by rw [hw7]; exact upd18 _ _ _ _
  clear hw7
  have zw7 := uw7.size
  have d8 : Below w.heap.size w w7 := d6.trans (bel_ge uw7 d6.size (by omega))
  refine q18.t (.int .i64 (200 : Int)) (ex_assign rfl (q18.e (j := 39) rfl)) fun _ q19 => ?_;clear q18
  refine wpList_nil ?_
  go_upto_region 8 with fail
  refine wp_region_lit ?_
  refine q19.t (.pointer (some ⟨w.heap.size, 6, none⟩)) (ex_fa rfl (q19.e (j := 5) rfl) (faOp20 _ _ _ (.inr (.inr (.inl ⟨rfl, rfl⟩))) _)) fun _ q20 => ?_;clear q19
  have B9 : BB w7 w.heap.size 31 (ocs 3 x A B) := (((Bw1.later bw3).later bw5).upd uw7 (show ¬ w.heap.size = w3.heap.size by omega))
  refine q20.t (.int .i64 (A : Int)) (ex_ld rfl (q20.e (j := 40) rfl) B9.ldO2) fun _ q21 => ?_;clear q20
  by_cases hA0 : A < 0
  · refine q21.t (.bool true) (ex_bin (Y := .int .i64 ((0 : Nat) : Int)) rfl (q21.e (j := 41) rfl) rfl (ltT20 _ _ (by omega) _)) fun _ q22 => ?_;clear q21
    refine q22.t (.bool true) (ex_move rfl (q22.e (j := 42) rfl)) fun _ q23 => ?_;clear q22
    refine vl ((true && (true == false))) (undef) (want_g rfl rfl (q23.a 43 rfl)) (fun hc => absurd hc (by decide)) rfl q23.z (by decide) (q23.k fun _ q24 => ?_);clear q23
    refine vl ((true && (true == false))) (undef) (want_g rfl rfl (q24.a 43 rfl)) (fun hc => absurd hc (by decide)) rfl q24.z (by decide) (q24.k fun _ q25 => ?_);clear q24
    refine vl ((true && (true == false))) (undef) (want_g rfl rfl (q25.a 43 rfl)) (fun hc => absurd hc (by decide)) rfl q25.z (by decide) (q25.k fun _ q26 => ?_);clear q25
    refine vl ((true && (true == false))) (undef) (want_g rfl rfl (q26.a 43 rfl)) (fun hc => absurd hc (by decide)) rfl q26.z (by decide) (q26.k fun _ q27 => ?_);clear q26
    refine vl ((true && (true == false))) (.bool false) (want_g rfl rfl (q27.a 43 rfl)) (fun hc => absurd hc (by decide)) rfl q27.z (by decide) (q27.k fun _ q28 => ?_);clear q27
    refine q28.t (.bool true) (ex_or (c := true) (b := true) (z := false) rfl (q28.a 43 rfl) (q28.a 48 rfl) rfl) fun _ q29 => ?_;clear q28
    refine wpList_nil ?_
    go_upto_region 9 with fail
    refine wp_cond_true (q29.e (j := 49) rfl) ?_
    go_upto_region 9 with fail
    refine wp_region_lit ?_
    refine q29.t (zH.val) (ex_ld rfl (q29.e (j := 7) rfl) Bw7.ldH) fun _ q30 => ?_;clear q29
    refine q30.t (zH.val) (ex_build rfl (bdz20 _)) fun _ q31 => ?_;clear q30
    refine q31.t (.bool (decide (zH.v = zH.v))) (ex_bin rfl (q31.e (j := 50) rfl) (q31.e (j := 51) rfl) (eqHZ _ _ _ _ _)) fun _ q32 => ?_;clear q31
    refine q32.t (.bool (decide (zH.v = zH.v))) (ex_move rfl (q32.e (j := 52) rfl)) fun _ q33 => ?_;clear q32
    refine vl ((true && ((decide (zH.v = zH.v)) == true))) (.int .i64 (200 : Int)) (want_g rfl rfl (q33.a 53 rfl)) (fun hc => ex_move rfl (q33.e (j := 8) rfl)) rfl q33.z (by decide) (q33.k fun _ q34 => ?_);clear q33
    refine vl ((true && ((decide (zH.v = zH.v)) == true))) (.bool true) (want_g rfl rfl (q34.a 53 rfl)) (fun hc => ex_bin (Y := .int .i64 ((200 : Nat) : Int)) rfl (ev (q34.a 54 rfl) hc) rfl (eqEt _ _ _ _)) rfl q34.z (by decide) (q34.k fun _ q35 => ?_);clear q34
    refine q35.t (.bool ((decide (zH.v = zH.v)) && true)) (ex_and (c := true) (b := (decide (zH.v = zH.v))) (z := true) rfl (q35.a 53 rfl) (q35.a 55 rfl) rfl) fun _ q36 => ?_;clear q35
    refine q36.t (.bool ((decide (zH.v = zH.v)) && true)) (ex_assign rfl (q36.e (j := 56) rfl)) fun _ q37 => ?_;clear q36
    refine wpList_nil ?_
    go_wp2
    refine bodyPost_ret (results_tmp rfl _ _ _) rfl ?_
    rw [getD_of (q37.a 6 rfl)]
    exact ⟨by simp [gw], d8⟩
  · refine q21.t (.bool false) (ex_bin (Y := .int .i64 ((0 : Nat) : Int)) rfl (q21.e (j := 41) rfl) rfl (ltF20 _ _ (by omega) _)) fun _ q22 => ?_;clear q21
    refine q22.t (.bool false) (ex_move rfl (q22.e (j := 42) rfl)) fun _ q23 => ?_;clear q22
    refine vl ((true && (false == false))) (.pointer (some ⟨w.heap.size, 6, none⟩)) (want_g rfl rfl (q23.a 43 rfl)) (fun hc => ex_fa rfl (q23.e (j := 5) rfl) (faOp20 _ _ _ (.inr (.inr (.inl ⟨rfl, rfl⟩))) _)) rfl q23.z (by decide) (q23.k fun _ q24 => ?_);clear q23
    refine vl ((true && (false == false))) (.int .i64 (A : Int)) (want_g rfl rfl (q24.a 43 rfl)) (fun hc => ex_ld rfl (ev (q24.a 44 rfl) hc) B9.ldO2) rfl q24.z (by decide) (q24.k fun _ q25 => ?_);clear q24
    refine vl ((true && (false == false))) (.slice a n c) (want_g rfl rfl (q25.a 43 rfl)) (fun hc => ex_move rfl (q25.e (j := 1) rfl)) rfl q25.z (by decide) (q25.k fun _ q26 => ?_);clear q25
    refine vl ((true && (false == false))) (.int .i64 ((n : Nat) : Int)) (want_g rfl rfl (q26.a 43 rfl)) (fun hc => ex_lenG rfl rfl Tryd.underlying25 (ev (q26.a 46 rfl) hc)) rfl q26.z (by decide) (q26.k fun _ q27 => ?_);clear q26
    refine vl ((true && (false == false))) (.bool true) (want_g rfl rfl (q27.a 43 rfl)) (fun hc => ex_bin rfl (ev (q27.a 45 rfl) hc) (ev (q27.a 47 rfl) hc) (gtT20 _ _ (by omega) _)) rfl q27.z (by decide) (q27.k fun _ q28 => ?_);clear q27
    refine q28.t (.bool true) (ex_or (c := true) (b := false) (z := true) rfl (q28.a 43 rfl) (q28.a 48 rfl) rfl) fun _ q29 => ?_;clear q28
    refine wpList_nil ?_
    go_upto_region 9 with fail
    refine wp_cond_true (q29.e (j := 49) rfl) ?_
    go_upto_region 9 with fail
    refine wp_region_lit ?_
    refine q29.t (zH.val) (ex_ld rfl (q29.e (j := 7) rfl) Bw7.ldH) fun _ q30 => ?_;clear q29
    refine q30.t (zH.val) (ex_build rfl (bdz20 _)) fun _ q31 => ?_;clear q30
    refine q31.t (.bool (decide (zH.v = zH.v))) (ex_bin rfl (q31.e (j := 50) rfl) (q31.e (j := 51) rfl) (eqHZ _ _ _ _ _)) fun _ q32 => ?_;clear q31
    refine q32.t (.bool (decide (zH.v = zH.v))) (ex_move rfl (q32.e (j := 52) rfl)) fun _ q33 => ?_;clear q32
    refine vl ((true && ((decide (zH.v = zH.v)) == true))) (.int .i64 (200 : Int)) (want_g rfl rfl (q33.a 53 rfl)) (fun hc => ex_move rfl (q33.e (j := 8) rfl)) rfl q33.z (by decide) (q33.k fun _ q34 => ?_);clear q33
    refine vl ((true && ((decide (zH.v = zH.v)) == true))) (.bool true) (want_g rfl rfl (q34.a 53 rfl)) (fun hc => ex_bin (Y := .int .i64 ((200 : Nat) : Int)) rfl (ev (q34.a 54 rfl) hc) rfl (eqEt _ _ _ _)) rfl q34.z (by decide) (q34.k fun _ q35 => ?_);clear q34
    refine q35.t (.bool ((decide (zH.v = zH.v)) && true)) (ex_and (c := true) (b := (decide (zH.v = zH.v))) (z := true) rfl (q35.a 53 rfl) (q35.a 55 rfl) rfl) fun _ q36 => ?_;clear q35
    refine q36.t (.bool ((decide (zH.v = zH.v)) && true)) (ex_assign rfl (q36.e (j := 56) rfl)) fun _ q37 => ?_;clear q36
    refine wpList_nil ?_
    go_wp2
    refine bodyPost_ret (results_tmp rfl _ _ _) rfl ?_
    rw [getD_of (q37.a 6 rfl)]
    exact ⟨by simp [gw], d8⟩
set_option maxHeartbeats 2000000 in
theorem does0_20 (l : List En) (a : Option Addr) (n c : Nat) (B9 q : Nat) (v : Value) (E : List Hs) (x : En) (k A B : Int) (hk : ¬ k = 1 ∧ ¬ k = 2 ∧ ¬ k = 3 ∧ ¬ k = 4 ∧ ¬ k = 5) (w : World) (h : SlY yE w a n c l) (ht : TV w B9 q v (l.map lf) E) (he : EdgeOf (l.map lf) E) (hT : Tb w) (hn : n ≤ 2932031007317) (hv : ∀ x ∈ l, x.o.v.size ≤ 140737488351232) :
    Calls Tryd.prog 8 #[.pointer (some ⟨q, 0, none⟩), .slice a n c, oval k x A B] w fun e w' => e = .returned (.bool true) ∧ Below w.heap.size w w' := by
  have hln := h.len
  go_enter Tryd.func8, Tryd.ntmps8
  go_upto_region 0 with fail
  refine wp_region_lit ?_
  refine vl_gen (fun T => Rp T 156 [(2, gw true (oval k x A B)), (1, gw true (.slice a n c)), (0, gw true (.pointer (some ⟨q, 0, none⟩)))]) ((((Rp.nil rfl).cons rfl).cons rfl).cons rfl) (fun Z0 q0 => ?_)
  obtain ⟨w1, hw1⟩ : ∃ y, y = w.alloc (.cells (ocs k x A B).toArray 31) := ⟨_, rfl⟩
  refine vw (.pointer (some ⟨w.heap.size, 0, none⟩)) w1 (want_none rfl) (ex_box18 rfl (q0.e (j := 2) rfl) (by rw [hw1]; exact bxO20 _ _ _ _ _)) rfl q0.z (by decide) (q0.k fun _ q1 => ?_);clear q0
  have Bw1 : BB w1 w.heap.size 31 (ocs k x A B) := by rw [hw1]; exact BB.new _ _ _
  have bw1 : Below w.heap.size w w1 := by rw [hw1]; exact (Below.refl _ _).alloc (Nat.le_refl _) _
  have zw1 : w1.heap.size = w.heap.size + 1 := by rw [hw1]; exact World.size_alloc _ _
  clear hw1
  have d2 : Below w.heap.size w w1 := bw1
  refine q1.t (.bool false) (ex_assign rfl rfl) fun _ q2 => ?_;clear q1
  refine wpList_nil ?_
  go_upto_region 1 with fail
  refine wp_region_lit ?_
  refine q2.t (.pointer (some ⟨w.heap.size, 0, none⟩)) (ex_fa rfl (q2.e (j := 5) rfl) (faOp20 _ _ _ (.inl ⟨rfl, rfl⟩) _)) fun _ q3 => ?_;clear q2
  refine q3.t (.int .i64 (k : Int)) (ex_ld rfl (q3.e (j := 15) rfl) Bw1.ldO0) fun _ q4 => ?_;clear q3
  refine wpList_nil ?_
  go_upto_region 2 with fail
  refine wp_region_lit ?_
  refine q4.t (.bool false) (ex_bin (Y := .int .i64 ((1 : Nat) : Int)) rfl (q4.e (j := 16) rfl) rfl (eqF20 _ _ (by omega) _)) fun _ q5 => ?_;clear q4
  refine q5.t (.bool false) (ex_assign rfl (q5.e (j := 18) rfl)) fun _ q6 => ?_;clear q5
  refine wpList_nil ?_
  go_upto_region 4 with fail
  refine wp_cond_false (q6.e (j := 17) rfl) ?_
  go_upto_region 4 with fail
  refine wp_region_lit ?_
  refine q6.t (.bool false) (ex_bin (Y := .int .i64 ((2 : Nat) : Int)) rfl (q6.e (j := 16) rfl) rfl (eqF20 _ _ (by omega) _)) fun _ q7 => ?_;clear q6
  refine q7.t (.bool false) (ex_assign rfl (q7.e (j := 25) rfl)) fun _ q8 => ?_;clear q7
  refine wpList_nil ?_
  go_upto_region 6 with fail
  refine wp_cond_false (q8.e (j := 24) rfl) ?_
  go_upto_region 6 with fail
  refine wp_region_lit ?_
  refine q8.t (.bool false) (ex_bin (Y := .int .i64 ((3 : Nat) : Int)) rfl (q8.e (j := 16) rfl) rfl (eqF20 _ _ (by omega) _)) fun _ q9 => ?_;clear q8
  refine q9.t (.bool false) (ex_assign rfl (q9.e (j := 32) rfl)) fun _ q10 => ?_;clear q9
  refine wpList_nil ?_
  go_upto_region 11 with fail
  refine wp_cond_false (q10.e (j := 31) rfl) ?_
  go_upto_region 11 with fail
  refine wp_region_lit ?_
  refine q10.t (.bool false) (ex_bin (Y := .int .i64 ((4 : Nat) : Int)) rfl (q10.e (j := 16) rfl) rfl (eqF20 _ _ (by omega) _)) fun _ q11 => ?_;clear q10
  refine q11.t (.bool false) (ex_assign rfl (q11.e (j := 69) rfl)) fun _ q12 => ?_;clear q11
  refine wpList_nil ?_
  go_upto_region 12 with fail
  refine wp_cond_false (q12.e (j := 68) rfl) ?_
  go_upto_region 12 with fail
  refine wp_region_lit ?_
  refine q12.t (.bool false) (ex_bin (Y := .int .i64 ((5 : Nat) : Int)) rfl (q12.e (j := 16) rfl) rfl (eqF20 _ _ (by omega) _)) fun _ q13 => ?_;clear q12
  refine q13.t (.bool false) (ex_assign rfl (q13.e (j := 70) rfl)) fun _ q14 => ?_;clear q13
  refine wpList_nil ?_
  go_upto_region 29 with fail
  refine wp_cond_false (q14.e (j := 68) rfl) ?_
  go_upto_region 29 with fail
  refine wp_region_lit ?_
  refine q14.t (.bool true) (ex_assign rfl rfl) fun _ q15 => ?_;clear q14
  refine wpList_nil ?_
  go_wp2
  refine bodyPost_ret (results_tmp rfl _ _ _) rfl ?_
  rw [getD_of (q15.a 6 rfl)]
  exact ⟨by simp [gw], d2⟩
end Go.Proofs.YteeofcoehffegaaDoor
