import Derived.Test.YtomiifnhcojilaaR1
import Derived.Test.YtomiifnhcojilaaAl
namespace Go.Proofs.Ytomiifnhcojilaa
open Go.RowKit Go.Maps
open Classical
set_option linter.unusedVariables false
set_option linter.unusedSimpArgs false

theorem Hs.len (x : Hs) : x.cs.length = 32 := by unfold Hs.cs; rw [List.length_map, x.p]
theorem BB.stH {w : World} {q : Nat} {T : TypeId} {cs : List Value} (h : BB w q T cs) (hl : cs.length = 32) (x : Hs) : (Instr.storeAt 24 (.pointer (some ⟨q, 0, none⟩)) x.val).run Try.prog w = .ok () (w.setCells q 0 x.cs) := h.st 24 x.cs (by rw [x.len, hl]) (by rw [List.size_toArray, x.len]; exact i32h) (one_b _)
theorem BB.putH {w : World} {q : Nat} {T : TypeId} {cs : List Value} (h : BB w q T cs) (hl : cs.length = 32) (x : Hs) : BB (w.setCells q 0 x.cs) q T x.cs := h.whole _ (by rw [x.len, hl])
theorem BB.ldH {w : World} {q : Nat} {T : TypeId} {x : Hs} (h : BB w q T x.cs) : (Instr.loadAt 24 (.pointer (some ⟨q, 0, none⟩))).run Try.prog w = .ok x.val w := h.ld 24 Try.underlying24 rfl (by rw [x.len]; exact i32h)
theorem BB.bel {w w' : World} {q B : Nat} {T : TypeId} {cs : List Value} (h : BB w q T cs) (hb : Below B w w') (hq : q < B) : BB w' q T cs := (hb.block q hq).trans h
theorem bxH20 (x : Hs) (w : World) : (Instr.box 24 x.val).run Try.prog w = .ok (.pointer (some ⟨w.heap.size, 0, none⟩)) (w.alloc (.cells x.cs.toArray 24)) := rfl
def En.val20 (x : En) : Value := .agg #[.int .i64 x.c, .int .i64 x.n, .int .i64 x.o.k, .int .i64 x.o.s, .string x.o.v]
theorem bxE20 (x : En) (w : World) : (Instr.box 28 x.val20).run Try.prog w = .ok (.pointer (some ⟨w.heap.size, 0, none⟩)) (w.alloc (.cells x.cs.toArray 28)) := rfl
theorem i5e20 : (Try.prog.info? 28).map (·.size) = some 5 := by kernel_rfl
theorem BB.ldE20 {w : World} {q : Nat} {T : TypeId} {x : En} (h : BB w q T x.cs) : (Instr.loadAt 28 (.pointer (some ⟨q, 0, none⟩))).run Try.prog w = .ok x.val20 w := h.ld 28 Try.underlying28 rfl i5e20
theorem subP (x y : Operand) (j k : Nat) (hk : k ≤ j) (hj : j ≤ 9223372036854775807) (w : World) : (do eqGuard .sub 3 x y (.int .i64 (j : Int)) (.int .i64 (k : Int)); binOp .sub 3 (.int .i64 (j : Int)) (.int .i64 (k : Int)) : Sem Value).run Try.prog w = .ok (.int .i64 ((j - k : Nat) : Int)) w := by
  have hwr : IntKind.i64.wrap ((j : Int) - (k : Int)) = ((j - k : Nat) : Int) := by rw [IntKind.wrap_i64]; omega
  go_simp
theorem addP (x y : Operand) (j k : Nat) (hj : j + k ≤ 9223372036854775807) (w : World) : (do eqGuard .add 3 x y (.int .i64 (j : Int)) (.int .i64 (k : Int)); binOp .add 3 (.int .i64 (j : Int)) (.int .i64 (k : Int)) : Sem Value).run Try.prog w = .ok (.int .i64 ((j + k : Nat) : Int)) w := by
  have hwr : IntKind.i64.wrap ((j : Int) + (k : Int)) = ((j + k : Nat) : Int) := by rw [IntKind.wrap_i64]; omega
  go_simp
theorem shl20 (x y : Operand) (k : Nat) (hk : k ≤ 62) (w : World) : (do eqGuard .shl 3 x y (.int .i64 ((1 : Nat) : Int)) (.int .i64 (k : Int)); binOp .shl 3 (.int .i64 ((1 : Nat) : Int)) (.int .i64 (k : Int)) : Sem Value).run Try.prog w = .ok (.int .i64 ((2 ^ k : Nat) : Int)) w := by
  have h2 := shift_shl .i64 .i64 1 (k : Int) (by omega) (by show (k : Int) ≤ ((_ : Nat) : Int); simp [IntKind.bits]; omega)
  have h3 : (2 : Nat) ^ k ≤ 2 ^ 62 := Nat.pow_le_pow_right (by decide) hk
  rw [Sem.run_bind]
  have e : (eqGuard .shl 3 x y (.int .i64 ((1 : Nat) : Int)) (.int .i64 (k : Int))).run Try.prog w = .ok () w := by go_simp
  rw [e, Result.andThen_ok]
  show (Op.shift .shl .i64 1 .i64 (k : Int)).run Try.prog w = _
  rw [h2]
  have h4 : IntKind.i64.wrap (1 * 2 ^ (k : Int).toNat) = ((2 ^ k : Nat) : Int) := by
    rw [Int.toNat_natCast, Int.one_mul]
    have h5 : ((2 : Int) ^ k) = ((2 ^ k : Nat) : Int) := by rw [Int.natCast_pow]; rfl
    rw [h5, IntKind.wrap_i64]
    have h6 : (2 : Nat) ^ 62 = 4611686018427387904 := by decide
    clear h5 h2
    generalize (2 : Nat) ^ k = z at *
    omega
  rw [h4]
  rfl
theorem cvIu20 (k : Nat) (hk : k < 18446744073709551616) (w : World) : (Go.convert 3 108 (.int .i64 (k : Int))).run Try.prog w = .ok (.int .u64 (k : Int)) w := by
  have hwr : IntKind.u64.wrap (k : Int) = (k : Int) := by rw [IntKind.wrap_u64]; omega
  go_simp
theorem cvIq20 (x : Int) (w : World) : (Go.convert 3 122 (.int .i64 x)).run Try.prog w = .ok (.int .u64 ((u6 x : Nat) : Int)) w := by
  have e : ((u6 x : Nat) : Int) = IntKind.u64.wrap x := by unfold u6; rw [IntKind.wrap_u64]; omega
  rw [e]
  go_simp
theorem faE20 (q j k : Nat) (h : (j = 0 ∧ k = 0) ∨ (j = 1 ∧ k = 1) ∨ (j = 2 ∧ k = 2)) (w : World) : (Instr.fieldAt 28 (.pointer (some ⟨q, 0, none⟩)) j).run Try.prog w = .ok (.pointer (some ⟨q, k, none⟩)) w := by
  rcases h with ⟨rfl, rfl⟩ | ⟨rfl, rfl⟩ | ⟨rfl, rfl⟩ <;> go_simp
theorem faO20 (q j k : Nat) (h : (j = 0 ∧ k = 2) ∨ (j = 1 ∧ k = 3) ∨ (j = 2 ∧ k = 4)) (w : World) : (Instr.fieldAt 26 (.pointer (some ⟨q, 2, none⟩)) j).run Try.prog w = .ok (.pointer (some ⟨q, k, none⟩)) w := by
  rcases h with ⟨rfl, rfl⟩ | ⟨rfl, rfl⟩ | ⟨rfl, rfl⟩ <;> go_simp
theorem alW20 (w : World) : (Instr.alloc 119 true (.tuple #[])).run Try.prog w = .ok (.pointer (some ⟨w.heap.size, 0, none⟩)) (w.alloc (.cells [Value.pointer none, .int .i64 0, .int .i64 0].toArray 119)) := by kernel_rfl
theorem BB.w20 {w : World} {b : Nat} {T : TypeId} (h : BB w b T [Value.pointer none, .int .i64 0, .int .i64 0]) : Wi.WOk w b [] := .inl ⟨rfl, ⟨h.lt, h.cell 0, h.cell 1, h.cell 2, h.free 0, h.free 1, h.free 2⟩⟩
def e4 (x : En) : Value := .agg #[.int .i64 x.c, .int .i64 x.n, .int .i64 x.o.k, .int .i64 x.o.s]
theorem bd4 (x : En) (w : World) : (Instr.build 120 #[(0, .int .i64 x.c), (1, .int .i64 x.n), (2, .int .i64 x.o.k), (3, .int .i64 x.o.s)]).run Try.prog w = .ok (e4 x) w := by kernel_rfl
theorem ix4_0 (x : En) (w : World) : (Instr.index 120 (e4 x) (.int .i64 ((0 : Nat) : Int))).run Try.prog w = .ok (.int .i64 (eN x 0)) w := by kernel_rfl
theorem ix4_1 (x : En) (w : World) : (Instr.index 120 (e4 x) (.int .i64 ((1 : Nat) : Int))).run Try.prog w = .ok (.int .i64 (eN x 1)) w := by kernel_rfl
theorem ix4_2 (x : En) (w : World) : (Instr.index 120 (e4 x) (.int .i64 ((2 : Nat) : Int))).run Try.prog w = .ok (.int .i64 (eN x 2)) w := by kernel_rfl
theorem ix4_3 (x : En) (w : World) : (Instr.index 120 (e4 x) (.int .i64 ((3 : Nat) : Int))).run Try.prog w = .ok (.int .i64 (eN x 3)) w := by kernel_rfl
theorem ix4 (x : En) (j : Nat) (h : j < 4) (w : World) : (Instr.index 120 (e4 x) (.int .i64 (j : Int))).run Try.prog w = .ok (.int .i64 (eN x j)) w := by
  match j, h with
  | 0, _ => exact ix4_0 x w
  | 1, _ => exact ix4_1 x w
  | 2, _ => exact ix4_2 x w
  | 3, _ => exact ix4_3 x w
theorem ex_bd4 {o : Oper} {ρ : Operand → Value} {s : TypeId} {a b c d : Operand} {A B C D V : Value} {w : World} (ho : o.op = .build s #[(0, a), (1, b), (2, c), (3, d)]) (ha : ρ a = A) (hb : ρ b = B) (hc : ρ c = C) (hd : ρ d = D) (hr : (Instr.build s #[(0, A), (1, B), (2, C), (3, D)]).run Try.prog w = .ok V w) : (execOp ρ o).run Try.prog w = .ok (.value V) w := ex_buildP18 ho (by simp only [List.map_toArray, List.map_cons, List.map_nil, ha, hb, hc, hd]) hr
theorem ex_lenS20 {o : Oper} {ρ : Operand → Value} {i : Nat} {s : ByteArray} {w : World} (ho : o.op = .call { callee := .builtin .len, args := #[.tmp i], argTypes := #[9] }) (ht : o.type = 3) (hx : ρ (.tmp i) = .string s) : (execOp ρ o).run Try.prog w = .ok (.value (.int .i64 (s.size : Int))) w := by
  unfold execOp
  simp only [ho]
  rw [Sem.run_bind]
  simp only [resolve, List.map_toArray, List.map_cons, List.map_nil, hx, ht]
  go_simp
theorem ldS20 {w : World} {q o : Nat} {s : ByteArray} (h : w.cell? ⟨q, o, none⟩ = some (.string s)) : (Instr.loadAt 9 (.pointer (some ⟨q, o, none⟩))).run Try.prog w = .ok (.string s) w := by go_simp
theorem xt0 (a b : Value) (w : World) : (Instr.extract (.tuple #[a, b]) 0).run Try.prog w = .ok a w := rfl
theorem xt1 (a b : Value) (w : World) : (Instr.extract (.tuple #[a, b]) 1).run Try.prog w = .ok b w := rfl
theorem own_y20 {B : Nat} {w : World} {v : Value} {l : List Int} (h : Wi.Own B w v l) : OwnY yB9 B w v l := by
  have e : ∀ l : List Int, fl yB9 l = Wi.bs l := fun l => by
    induction l with
    | nil => rfl
    | cons x r ih => rw [fl, ih]; rfl
  unfold OwnY
  rw [e]
  exact h
theorem slH20 (q : Nat) (w : World) : (Instr.sliceAt 24 (.pointer (some ⟨q, 0, none⟩)) none none none).run Try.prog w = .ok (.slice (some ⟨q, 0, none⟩) 32 32) w := by go_simp
theorem bs1B (x : Int) (w : World) : (Instr.buildSlice 73 1 #[(0, .int .u8 x)]).run Try.prog w = .ok (.slice (some ⟨w.heap.size, 0, none⟩) 1 1) (w.alloc (.cells (([x] : List Int).map bV).toArray 5)) := by
  go_simp
  first | done | rfl
theorem bsBB2 (x y : SV Int) (w : World) : (Instr.buildSlice 29 2 #[(0, .slice x.a x.D.length x.c), (1, .slice y.a y.D.length y.c)]).run Try.prog w = .ok (.slice (some ⟨w.heap.size, 0, none⟩) 2 2) (w.alloc (.cells (fl zB9 [x, y]).toArray 73)) := by
  have e : (fl zB9 [x, y]).toArray = #[.slice x.a x.D.length x.c, .slice y.a y.D.length y.c] := rfl
  rw [e]
  go_simp
theorem bsBB3 (x y z : SV Int) (w : World) : (Instr.buildSlice 29 3 #[(0, .slice x.a x.D.length x.c), (1, .slice y.a y.D.length y.c), (2, .slice z.a z.D.length z.c)]).run Try.prog w = .ok (.slice (some ⟨w.heap.size, 0, none⟩) 3 3) (w.alloc (.cells (fl zB9 [x, y, z]).toArray 73)) := by
  have e : (fl zB9 [x, y, z]).toArray = #[.slice x.a x.D.length x.c, .slice y.a y.D.length y.c, .slice z.a z.D.length z.c] := rfl
  rw [e]
  go_simp
theorem blen20 (x : Nat) (w : World) (h : x < 2 ^ 64) : Calls Try.prog 89 #[.int .u64 x] w fun e w' => e = .returned (.int .i64 (M.bl x)) ∧ w' = w := by
  have HX := hide h
  clear h
  go_enter Try.func89, Try.ntmps89
  go_wp2_with fail
  refine (Wi.len64_any x w HX.out).mono ?_
  rintro e w1 ⟨rfl, rfl⟩
  go_wp2
  go_ret
  first | done | exact ⟨rfl, rfl⟩
set_option maxRecDepth 100000 in
set_option maxHeartbeats 2000000 in
theorem left20 (n : Nat) (w : World) (h2 : 2 ≤ n) (hn : n ≤ 9223372036854775807) :
    Calls Try.prog 69 #[.int .i64 (n : Int)] w fun e w' => e = .returned (.int .i64 ((lft n : Nat) : Int)) ∧ w' = w := by
  go_enter Try.func69, Try.ntmps69
  go_upto_region 0 with fail
  refine wp_region_lit ?_
  refine vl_gen (fun T => Rp T 9 [(0, gw true (.int .i64 ((n : Nat) : Int)))]) ((Rp.nil rfl).cons rfl) (fun Z0 q0 => ?_)
  refine q0.t (.int .i64 ((0 : Nat) : Int)) (ex_assign rfl rfl) fun _ q1 => ?_;clear q0
  refine wpList_nil ?_
  go_upto_region 1 with fail
  refine wp_region_lit ?_
  refine q1.t (.int .i64 ((n : Nat) : Int)) (ex_move rfl (q1.e (j := 0) rfl)) fun _ q2 => ?_;clear q1
  refine q2.t (.int .i64 ((n - 1 : Nat) : Int)) (ex_bin (Y := .int .i64 ((1 : Nat) : Int)) rfl (q2.e (j := 3) rfl) rfl (subP _ _ n 1 (by omega) hn _)) fun _ q3 => ?_;clear q2
  refine q3.t (.int .u64 ((n - 1 : Nat) : Int)) (ex_cv19 rfl (q3.e (j := 4) rfl) (cvIu20 _ (by omega) _)) fun _ q4 => ?_;clear q3
  refine vcallP (want_none rfl) (ex_call rfl (by simp only [List.map_toArray, List.map_cons, List.map_nil, (q4.e (j := 5) rfl), evc] <;> rfl) rfl) (blen20 (n - 1) w (by omega)) rfl q4.z (by decide) ?_
  rintro e w1 ⟨rfl, hw1⟩
  refine ⟨_, rfl, q4.k fun _ q5 => ?_⟩;clear q4
  subst hw1
  have hbl : M.bl (n - 1) = Nat.log2 (n - 1) + 1 := by unfold M.bl; rw [if_neg (by omega)]
  have hlg : Nat.log2 (n - 1) < 63 := (Nat.log2_lt (by omega)).2 (by omega)
  rw [hbl] at q5
  refine q5.t (.int .i64 ((Nat.log2 (n - 1) : Nat) : Int)) (ex_bin (Y := .int .i64 ((1 : Nat) : Int)) rfl (q5.e (j := 6) rfl) rfl (subP _ _ (Nat.log2 (n - 1) + 1) 1 (by omega) (by omega) _)) fun _ q6 => ?_;clear q5
  refine q6.t (.int .i64 ((2 ^ Nat.log2 (n - 1) : Nat) : Int)) (ex_bin (X := .int .i64 ((1 : Nat) : Int)) rfl rfl (q6.e (j := 7) rfl) (shl20 _ _ _ (by omega) _)) fun _ q7 => ?_;clear q6
  refine q7.t (.int .i64 ((2 ^ Nat.log2 (n - 1) : Nat) : Int)) (ex_assign rfl (q7.e (j := 8) rfl)) fun _ q8 => ?_;clear q7
  refine wpList_nil ?_
  go_wp2
  refine bodyPost_ret (results_tmp rfl _ _ _) rfl ?_
  rw [getD_of (q8.a 2 rfl)]
  exact ⟨rfl, rfl⟩
set_option maxRecDepth 100000 in
set_option maxHeartbeats 2000000 in
theorem entry20 (x : En) (w : World) (hv : x.o.v.size ≤ 140737488350000) :
    Calls Try.prog 45 #[x.val20] w fun e w' => ∃ v, e = .returned v ∧ OwnY yB9 w.heap.size w' v (eB x) ∧ Below w.heap.size w w' := by
  go_enter Try.func45, Try.ntmps45
  go_upto_region 0 with fail
  refine wp_region_lit ?_
  refine vl_gen (fun T => Rp T 39 [(0, gw true (x.val20))]) ((Rp.nil rfl).cons rfl) (fun Z0 q0 => ?_)
  obtain ⟨w1, hw1⟩ : ∃ y, y = w.alloc (.cells (x.cs).toArray 28) := ⟨_, rfl⟩
  refine vw (.pointer (some ⟨w.heap.size, 0, none⟩)) w1 (want_none rfl) (ex_box18 rfl (q0.e (j := 0) rfl) (by rw [hw1]; exact bxE20 _ _)) rfl q0.z (by decide) (q0.k fun _ q1 => ?_);clear q0
  have Bw1 : BB w1 w.heap.size 28 (x.cs) := by rw [hw1]; exact BB.new _ _ _
  have bw1 : Below w.heap.size w w1 := by rw [hw1]; exact (Below.refl _ _).alloc (Nat.le_refl _) _
  have zw1 : w1.heap.size = w.heap.size + 1 := by rw [hw1]; exact World.size_alloc _ _
  clear hw1
  refine q1.t (.slice none 0 0) (ex_assign rfl rfl) fun _ q2 => ?_;clear q1
  refine wpList_nil ?_
  go_upto_region 1 with fail
  refine wp_region_lit ?_
  obtain ⟨w2, hw2⟩ : ∃ y, y = w1.alloc (.cells ([Value.pointer none, .int .i64 0, .int .i64 0]).toArray 119) := ⟨_, rfl⟩
  refine vw (.pointer (some ⟨w1.heap.size, 0, none⟩)) w2 (want_none rfl) (ex_al rfl (by rw [hw2]; exact alW20 _)) rfl q2.z (by decide) (q2.k fun _ q3 => ?_);clear q2
  have Bw2 : BB w2 w1.heap.size 119 ([Value.pointer none, .int .i64 0, .int .i64 0]) := by rw [hw2]; exact BB.new _ _ _
  have bw2 : Below w1.heap.size w1 w2 := by rw [hw2]; exact (Below.refl _ _).alloc (Nat.le_refl _) _
  have zw2 : w2.heap.size = w1.heap.size + 1 := by rw [hw2]; exact World.size_alloc _ _
  clear hw2
  have hW2 := Bw2.w20
  have Be2 := Bw1.later bw2
  have d2 : Below w.heap.size w w2 := bw1.trans (bw2.mono (by omega))
  clear Bw2 Bw1
  refine wpList_nil ?_
  go_upto_region 2 with fail
  refine wp_region_lit ?_
  refine q3.t (.pointer (some ⟨w.heap.size, 0, none⟩)) (ex_fa rfl (q3.e (j := 1) rfl) (faE20 _ _ _ (by simp) _)) fun _ q4 => ?_;clear q3
  refine q4.t (.int .i64 x.c) (ex_ld rfl (q4.e (j := 8) rfl) (ldI18 (Be2.cell 0))) fun _ q5 => ?_;clear q4
  refine q5.t (.pointer (some ⟨w.heap.size, 1, none⟩)) (ex_fa rfl (q5.e (j := 1) rfl) (faE20 _ _ _ (by simp) _)) fun _ q6 => ?_;clear q5
  refine q6.t (.int .i64 x.n) (ex_ld rfl (q6.e (j := 10) rfl) (ldI18 (Be2.cell 1))) fun _ q7 => ?_;clear q6
  refine q7.t (.pointer (some ⟨w.heap.size, 2, none⟩)) (ex_fa rfl (q7.e (j := 1) rfl) (faE20 _ _ _ (by simp) _)) fun _ q8 => ?_;clear q7
  refine q8.t (.pointer (some ⟨w.heap.size, 2, none⟩)) (ex_fa rfl (q8.e (j := 12) rfl) (faO20 _ _ _ (by simp) _)) fun _ q9 => ?_;clear q8
  refine q9.t (.int .i64 x.o.k) (ex_ld rfl (q9.e (j := 13) rfl) (ldI18 (Be2.cell 2))) fun _ q10 => ?_;clear q9
  refine q10.t (.pointer (some ⟨w.heap.size, 2, none⟩)) (ex_fa rfl (q10.e (j := 1) rfl) (faE20 _ _ _ (by simp) _)) fun _ q11 => ?_;clear q10
  refine q11.t (.pointer (some ⟨w.heap.size, 3, none⟩)) (ex_fa rfl (q11.e (j := 15) rfl) (faO20 _ _ _ (by simp) _)) fun _ q12 => ?_;clear q11
  refine q12.t (.int .i64 x.o.s) (ex_ld rfl (q12.e (j := 16) rfl) (ldI18 (Be2.cell 3))) fun _ q13 => ?_;clear q12
  refine q13.t (e4 x) (ex_bd4 rfl (q13.e (j := 9) rfl) (q13.e (j := 11) rfl) (q13.e (j := 14) rfl) (q13.e (j := 17) rfl) (bd4 _ _)) fun _ q14 => ?_;clear q13
  refine q14.t (.int .i64 ((0 : Nat) : Int)) (ex_move rfl rfl) fun _ q15 => ?_;clear q14
  have q16 := (((((Rp.nil q15.z).cons (q15.a 1 rfl)).cons (q15.a 3 rfl)).cons (q15.a 18 rfl)).cons (q15.a 19 rfl))
  clear q15
  refine wpList_nil ?_
  go_upto_region 3 with fail
  refine v_loop 19 4 (fun j T wr => Rp T 39 [(19, gw true (.int .i64 ((j : Nat) : Int))), (18, gw true (e4 x)), (3, gw true (.pointer (some ⟨w1.heap.size, 0, none⟩))), (1, gw true (.pointer (some ⟨w.heap.size, 0, none⟩)))] ∧ Hid (Wi.WOk wr w1.heap.size (fN x j) ∧ BB wr w.heap.size 28 x.cs ∧ Below w.heap.size w wr)) (fun j T w h => h.1.a 19 rfl) ⟨q16, hW2, Be2, d2⟩ ?_
  clear q16 hW2 Be2 d2
  intro j T wr hj hh
  obtain ⟨q100, HJ⟩ := hh
  obtain ⟨hW2, Be2, br⟩ := HJ.out
  clear HJ
  have hfl := fN_le x j
  by_cases hit : j < 4
  · go_upto_region 3 with fail
    refine wp_region_lit ?_
    refine q100.t (.bool true) (ex_bin rfl (q100.e (j := 19) rfl) rfl (ltT _ _ hit _)) fun _ q101 => ?_;clear q100
    refine wpList_nil ?_
    go_upto_region 4 with fail
    refine wp_cond_true (q101.e (j := 20) rfl) ?_
    go_upto_region 4 with fail
    refine wp_region_lit ?_
    refine q101.t (.int .i64 (eN x j)) (ex_index9 rfl (q101.e (j := 18) rfl) (q101.e (j := 19) rfl) (ix4 x j hit _)) fun _ q102 => ?_;clear q101
    refine q102.t (.int .i64 (eN x j)) (ex_assign rfl (q102.e (j := 21) rfl)) fun _ q103 => ?_;clear q102
    refine wpList_nil ?_
    go_upto_region 5 with fail
    refine wp_region_lit ?_
    refine q103.t (.int .i64 (eN x j)) (ex_move rfl (q103.e (j := 5) rfl)) fun _ q104 => ?_;clear q103
    refine q104.t (.int .u64 ((u6 (eN x j) : Nat) : Int)) (ex_cv19 rfl (q104.e (j := 22) rfl) (cvIq20 _ _)) fun _ q105 => ?_;clear q104
    refine vcallP (want_none rfl) (ex_call rfl (by simp only [List.map_toArray, List.map_cons, List.map_nil, (q105.e (j := 3) rfl), (q105.e (j := 23) rfl), evc] <;> rfl) rfl) (Wi.number_ok w1.heap.size w1.heap.size (fN x j) (u6 (eN x j)) wr (Nat.le_refl _) hW2 (u6_lt _) (by omega)) rfl q105.z (by decide) ?_
    rintro e w5 ⟨rfl, h5, b5⟩
    refine ⟨_, rfl, q105.k fun _ q106 => ?_⟩;clear q105
    have B5 := Be2.bel b5 (by omega)
    have d5 : Below w.heap.size w w5 := br.trans (b5.mono (by omega))
    refine wpList_nil ?_
    go_upto_region 6 with fail
    refine wp_region_lit ?_
    refine q106.t (.int .i64 ((j + 1 : Nat) : Int)) (ex_bin rfl (q106.e (j := 19) rfl) rfl (add1C _ _ j (by omega) _)) fun _ q107 => ?_;clear q106
    refine q107.t (.int .i64 ((j + 1 : Nat) : Int)) (ex_move rfl (q107.e (j := 25) rfl)) fun _ q108 => ?_;clear q107
    have q109 := (((((Rp.nil q108.z).cons (q108.a 1 rfl)).cons (q108.a 3 rfl)).cons (q108.a 18 rfl)).cons (q108.a 19 rfl))
    clear q108
    refine wpList_nil ?_
    exact ⟨_, rfl, hit, q109, h5, B5, d5⟩
  · obtain rfl : j = 4 := by omega
    have hv2 := hv
    go_upto_region 3 with fail
    refine wp_region_lit ?_
    refine q100.t (.bool false) (ex_bin rfl (q100.e (j := 19) rfl) rfl (ltF _ _ hit _)) fun _ q101 => ?_;clear q100
    refine wpList_nil ?_
    go_upto_region 7 with fail
    refine wp_cond_false (q101.e (j := 20) rfl) ?_
    go_upto_region 7 with fail
    refine wp_region_lit ?_
    refine q101.t (.pointer (some ⟨w.heap.size, 2, none⟩)) (ex_fa rfl (q101.e (j := 1) rfl) (faE20 _ _ _ (by simp) _)) fun _ q102 => ?_;clear q101
    refine q102.t (.pointer (some ⟨w.heap.size, 4, none⟩)) (ex_fa rfl (q102.e (j := 26) rfl) (faO20 _ _ _ (by simp) _)) fun _ q103 => ?_;clear q102
    refine q103.t (.string x.o.v) (ex_ld rfl (q103.e (j := 27) rfl) (ldS20 (Be2.cell 4))) fun _ q104 => ?_;clear q103
    refine q104.t (.pointer (some ⟨w.heap.size, 2, none⟩)) (ex_fa rfl (q104.e (j := 1) rfl) (faE20 _ _ _ (by simp) _)) fun _ q105 => ?_;clear q104
    refine q105.t (.pointer (some ⟨w.heap.size, 4, none⟩)) (ex_fa rfl (q105.e (j := 29) rfl) (faO20 _ _ _ (by simp) _)) fun _ q106 => ?_;clear q105
    refine q106.t (.string x.o.v) (ex_ld rfl (q106.e (j := 30) rfl) (ldS20 (Be2.cell 4))) fun _ q107 => ?_;clear q106
    refine q107.t (.int .i64 (x.o.v.size : Int)) (ex_lenS20 rfl rfl (q107.e (j := 31) rfl)) fun _ q108 => ?_;clear q107
    refine vcallP (want_none rfl) (ex_call rfl (by simp only [List.map_toArray, List.map_cons, List.map_nil, (q108.e (j := 3) rfl), (q108.e (j := 28) rfl), (q108.e (j := 32) rfl), evc] <;> rfl) rfl) (Wi.text_ok w1.heap.size w1.heap.size (fN x 4) x.o.v x.o.v.size wr (Nat.le_refl _) hW2 (Nat.le_refl _) (by omega)) rfl q108.z (by decide) ?_
    rintro e w5 ⟨rfl, h5, b5⟩
    refine ⟨_, rfl, q108.k fun _ q109 => ?_⟩;clear q108
    have d5 : Below w.heap.size w w5 := br.trans (b5.mono (by omega))
    refine wpList_nil ?_
    go_upto_region 8 with fail
    refine wp_region_lit ?_
    refine vcallP (want_none rfl) (ex_call rfl (by simp only [List.map_toArray, List.map_cons, List.map_nil, (q109.e (j := 3) rfl), evc] <;> rfl) rfl) (Wi.bytes_any w1.heap.size (eB x) w5 h5 (by have := eB_le x (by omega); omega)) rfl q109.z (by decide) ?_
    rintro e w6 ⟨v6, rfl, o6, b6⟩
    refine ⟨_, rfl, q109.k fun _ q110 => ?_⟩;clear q109
    have O6 := own_y20 o6
    have d6 : Below w.heap.size w w6 := d5.trans (b6.mono d5.size)
    refine q110.t (.tuple #[v6, .int .i64 0]) (ex_move rfl (q110.e (j := 35) rfl)) fun _ q111 => ?_;clear q110
    refine q111.t (v6) (ex_ext18 rfl (q111.e (j := 34) rfl) (xt0 _ _ _)) fun _ q112 => ?_;clear q111
    refine q112.t (.int .i64 0) (ex_ext18 rfl (q112.e (j := 34) rfl) (xt1 _ _ _)) fun _ q113 => ?_;clear q112
    refine q113.t (v6) (ex_assign rfl (q113.e (j := 36) rfl)) fun _ q114 => ?_;clear q113
    refine q114.t (.int .i64 0) (ex_assign rfl (q114.e (j := 37) rfl)) fun _ q115 => ?_;clear q114
    refine wpList_nil ?_
    go_upto_region 9 with fail
    refine wp_region_lit ?_
    refine q115.t (v6) (ex_move rfl (q115.e (j := 6) rfl)) fun _ q116 => ?_;clear q115
    refine q116.t (v6) (ex_assign rfl (q116.e (j := 38) rfl)) fun _ q117 => ?_;clear q116
    refine wpList_nil ?_
    go_wp2
    refine bodyPost_ret (results_tmp rfl _ _ _) rfl ?_
    rw [getD_of (q117.a 2 rfl)]
    exact ⟨v6, rfl, O6.low d5.size, d6⟩
set_option maxRecDepth 100000 in
set_option maxHeartbeats 2000000 in
theorem leaf20 (x : En) (w : World) (hv : x.o.v.size ≤ 140737488350000) :
    Calls Try.prog 16 #[x.val20] w fun e w' => e = .returned (lf x).val ∧ Below w.heap.size w w' := by
  go_enter Try.func16, Try.ntmps16
  go_upto_region 0 with fail
  refine wp_region_lit ?_
  refine vl_gen (fun T => Rp T 8 [(0, gw true (x.val20))]) ((Rp.nil rfl).cons rfl) (fun Z0 q0 => ?_)
  obtain ⟨w1, hw1⟩ : ∃ y, y = w.alloc (.cells (x.cs).toArray 28) := ⟨_, rfl⟩
  refine vw (.pointer (some ⟨w.heap.size, 0, none⟩)) w1 (want_none rfl) (ex_box18 rfl (q0.e (j := 0) rfl) (by rw [hw1]; exact bxE20 _ _)) rfl q0.z (by decide) (q0.k fun _ q1 => ?_);clear q0
  have Bw1 : BB w1 w.heap.size 28 (x.cs) := by rw [hw1]; exact BB.new _ _ _
  have bw1 : Below w.heap.size w w1 := by rw [hw1]; exact (Below.refl _ _).alloc (Nat.le_refl _) _
  have zw1 : w1.heap.size = w.heap.size + 1 := by rw [hw1]; exact World.size_alloc _ _
  clear hw1
  obtain ⟨w2, hw2⟩ : ∃ y, y = w1.alloc (.cells (zH.cs).toArray 24) := ⟨_, rfl⟩
  refine vw (.pointer (some ⟨w1.heap.size, 0, none⟩)) w2 (want_none rfl) (ex_al rfl (by rw [hw2]; exact alH _)) rfl q1.z (by decide) (q1.k fun _ q2 => ?_);clear q1
  have Bw2 : BB w2 w1.heap.size 24 (zH.cs) := by rw [hw2]; exact BB.new _ _ _
  have bw2 : Below w1.heap.size w1 w2 := by rw [hw2]; exact (Below.refl _ _).alloc (Nat.le_refl _) _
  have zw2 : w2.heap.size = w1.heap.size + 1 := by rw [hw2]; exact World.size_alloc _ _
  clear hw2
  refine wpList_nil ?_
  go_upto_region 1 with fail
  refine wp_region_lit ?_
  obtain ⟨w3, hw3⟩ : ∃ y, y = w2.alloc (.cells (([0] : List Int).map bV).toArray 5) := ⟨_, rfl⟩
  refine vw (.slice (some ⟨w2.heap.size, 0, none⟩) 1 1) w3 (want_none rfl) (ex_bs18 rfl rfl (by rw [hw3]; exact bs1B 0 _)) rfl q2.z (by decide) (q2.k fun _ q3 => ?_);clear q2
  have s3 : SlY yB9 w3 (some ⟨w2.heap.size, 0, none⟩) 1 1 [0] := by rw [hw3]; exact slM w2 [0] _ _ (by unfold maxLen; decide)
  have b3 : Below w2.heap.size w2 w3 := by rw [hw3]; exact (Below.refl _ _).alloc (Nat.le_refl _) _
  have z3 : w3.heap.size = w2.heap.size + 1 := by rw [hw3]; exact World.size_alloc _ _
  clear hw3
  have Be3 := (Bw1.later bw2).later b3
  have Bh3 := Bw2.later b3
  refine q3.t (x.val20) (ex_ld rfl (q3.e (j := 1) rfl) Be3.ldE20) fun _ q4 => ?_;clear q3
  refine vcallP (want_none rfl) (ex_call rfl (by simp only [List.map_toArray, List.map_cons, List.map_nil, (q4.e (j := 4) rfl), evc] <;> rfl) rfl) (entry20 x w3 hv) rfl q4.z (by decide) ?_
  rintro e w4 ⟨v4, rfl, o4, b4⟩
  refine ⟨_, rfl, q4.k fun _ q5 => ?_⟩;clear q4
  have z4 := b4.size
  have s4 := s3.later b4
  have Bh4 := Bh3.later b4
  obtain ⟨a4, c4, hv4, sl4, _⟩ := o4.sl kB9
  subst hv4
  obtain ⟨w5, hw5⟩ : ∃ y, y = w4.alloc (.cells (fl zB9 [(⟨some ⟨w2.heap.size, 0, none⟩, 1, [0]⟩ : SV Int), (⟨a4, c4, eB x⟩ : SV Int)]).toArray 73) := ⟨_, rfl⟩
  refine vw (.slice (some ⟨w4.heap.size, 0, none⟩) 2 2) w5 (want_none rfl) (ex_bs2 rfl (q5.e (j := 3) rfl) (q5.e (j := 5) rfl) (by rw [hw5]; exact bsBB2 (⟨some ⟨w2.heap.size, 0, none⟩, 1, [0]⟩ : SV Int) (⟨a4, c4, eB x⟩ : SV Int) _)) rfl q5.z (by decide) (q5.k fun _ q6 => ?_);clear q5
  have s5 : SlY zB9 w5 (some ⟨w4.heap.size, 0, none⟩) 2 2 [(⟨some ⟨w2.heap.size, 0, none⟩, 1, [0]⟩ : SV Int), (⟨a4, c4, eB x⟩ : SV Int)] := by rw [hw5]; exact sl_lit kzB9 w4 [(⟨some ⟨w2.heap.size, 0, none⟩, 1, [0]⟩ : SV Int), (⟨a4, c4, eB x⟩ : SV Int)] _ (by show 2 ≤ maxLen; unfold maxLen; decide)
  have b5 : Below w4.heap.size w4 w5 := by rw [hw5]; exact (Below.refl _ _).alloc (Nat.le_refl _) _
  have z5 := b5.size
  clear hw5
  have Bh5 := Bh4.later b5
  have hf : flB [(⟨some ⟨w2.heap.size, 0, none⟩, 1, [0]⟩ : SV Int), (⟨a4, c4, eB x⟩ : SV Int)] = [0] ++ eB x := by simp [flB]
  have hel := eB_le x (by omega)
  refine vcallP (want_none rfl) (ex_call rfl (by simp only [List.map_toArray, List.map_cons, List.map_nil, (q6.e (j := 6) rfl), evc] <;> rfl) rfl) (join19 [(⟨some ⟨w2.heap.size, 0, none⟩, 1, [0]⟩ : SV Int), (⟨a4, c4, eB x⟩ : SV Int)] _ 2 w5 s5 (by intro y hy; rcases List.mem_cons.1 hy with rfl | hy; exact s4.later b5; rcases List.mem_singleton.1 hy with rfl; exact sl4.later b5) (by rw [hf, List.length_append]; show 1 + _ < _; omega) (by show 2 < _; decide)) rfl q6.z (by decide) ?_
  rintro e w6 ⟨rfl, b6⟩
  refine ⟨_, rfl, q6.k fun _ q7 => ?_⟩;clear q6
  have Bh6 := Bh5.later b6
  have d6 : Below w.heap.size w w6 := ((((bw1.trans (bw2.mono (by omega))).trans (b3.mono (by omega))).trans (b4.mono (by omega))).trans (b5.mono (by omega))).trans (b6.mono (by omega))
  rw [hf] at q7
  have e9 : Value.agg ((sumF ([0] ++ eB x)).map bV).toArray = (lf x).val := rfl
  rw [e9] at q7
  obtain ⟨w7, hw7⟩ : ∃ y, y = w6.setCells w1.heap.size 0 (lf x).cs := ⟨_, rfl⟩
  refine vs w7 (want_none rfl) (ex_st rfl (q7.e (j := 2) rfl) (q7.e (j := 7) rfl) (by rw [hw7]; exact Bh6.stH rfl _)) rfl ?_
  have Bw7 : BB w7 w1.heap.size 24 (lf x).cs := by rw [hw7]; exact Bh6.putH rfl _
  have uw7 : Upd (fun k => k = w1.heap.size) w6 w7 := by rw [hw7]; exact upd18 _ _ _ _
  clear hw7
  refine wpList_nil ?_
  go_wp2
  exact Bw7.res rfl (q7.a 2 rfl) Try.underlying24 rfl (by rw [Hs.len]; exact i32h) ⟨rfl, d6.trans (bel_ge uw7 d6.size (by omega))⟩
set_option maxRecDepth 100000 in
set_option maxHeartbeats 2000000 in
theorem node20 (a b : Hs) (w : World) :
    Calls Try.prog 14 #[a.val, b.val] w fun e w' => e = .returned (nd a b).val ∧ Below w.heap.size w w' := by
  go_enter Try.func14, Try.ntmps14
  go_upto_region 0 with fail
  refine wp_region_lit ?_
  refine vl_gen (fun T => Rp T 10 [(1, gw true (b.val)), (0, gw true (a.val))]) (((Rp.nil rfl).cons rfl).cons rfl) (fun Z0 q0 => ?_)
  obtain ⟨w1, hw1⟩ : ∃ y, y = w.alloc (.cells (a.cs).toArray 24) := ⟨_, rfl⟩
  refine vw (.pointer (some ⟨w.heap.size, 0, none⟩)) w1 (want_none rfl) (ex_box18 rfl (q0.e (j := 0) rfl) (by rw [hw1]; exact bxH20 _ _)) rfl q0.z (by decide) (q0.k fun _ q1 => ?_);clear q0
  have Bw1 : BB w1 w.heap.size 24 (a.cs) := by rw [hw1]; exact BB.new _ _ _
  have bw1 : Below w.heap.size w w1 := by rw [hw1]; exact (Below.refl _ _).alloc (Nat.le_refl _) _
  have zw1 : w1.heap.size = w.heap.size + 1 := by rw [hw1]; exact World.size_alloc _ _
  clear hw1
  obtain ⟨w2, hw2⟩ : ∃ y, y = w1.alloc (.cells (b.cs).toArray 24) := ⟨_, rfl⟩
  refine vw (.pointer (some ⟨w1.heap.size, 0, none⟩)) w2 (want_none rfl) (ex_box18 rfl (q1.e (j := 1) rfl) (by rw [hw2]; exact bxH20 _ _)) rfl q1.z (by decide) (q1.k fun _ q2 => ?_);clear q1
  have Bw2 : BB w2 w1.heap.size 24 (b.cs) := by rw [hw2]; exact BB.new _ _ _
  have bw2 : Below w1.heap.size w1 w2 := by rw [hw2]; exact (Below.refl _ _).alloc (Nat.le_refl _) _
  have zw2 : w2.heap.size = w1.heap.size + 1 := by rw [hw2]; exact World.size_alloc _ _
  clear hw2
  obtain ⟨w3, hw3⟩ : ∃ y, y = w2.alloc (.cells (zH.cs).toArray 24) := ⟨_, rfl⟩
  refine vw (.pointer (some ⟨w2.heap.size, 0, none⟩)) w3 (want_none rfl) (ex_al rfl (by rw [hw3]; exact alH _)) rfl q2.z (by decide) (q2.k fun _ q3 => ?_);clear q2
  have Bw3 : BB w3 w2.heap.size 24 (zH.cs) := by rw [hw3]; exact BB.new _ _ _
  have bw3 : Below w2.heap.size w2 w3 := by rw [hw3]; exact (Below.refl _ _).alloc (Nat.le_refl _) _
  have zw3 : w3.heap.size = w2.heap.size + 1 := by rw [hw3]; exact World.size_alloc _ _
  clear hw3
  refine wpList_nil ?_
  go_upto_region 1 with fail
  refine vg_start (fun k => k == 5) (fun _ => True) (by kernel_rfl) ?_
  have hd : Below w3.heap.size w3 w3.drew := (Below.refl _ _).drew
  have hzd : w3.drew.heap.size = w3.heap.size := rfl
  generalize w3.drew = d at *
  have Ba := ((Bw1.later bw2).later bw3).later hd
  have Bb := (Bw2.later bw3).later hd
  have Bh := Bw3.later hd
  refine vg_takeW 1 true (.slice (some ⟨w.heap.size, 0, none⟩) a.v.length a.v.length) rfl (by kernel_rfl) (by kernel_rfl) (by kernel_rfl) (by kernel_rfl) (want_none rfl) (fun hc v => ex_sl18 rfl (q3.e (j := 2) rfl) (by rw [a.p]; exact slH20 _ _)) rfl q3.z (by decide) (fun _ => trivial) (q3.k fun _ q4 => ?_);clear q3
  refine vg_takeW 2 true (.slice (some ⟨w1.heap.size, 0, none⟩) b.v.length b.v.length) rfl (by kernel_rfl) (by kernel_rfl) (by kernel_rfl) (by kernel_rfl) (want_none rfl) (fun hc v => ex_sl18 rfl (q4.e (j := 3) rfl) (by rw [b.p]; exact slH20 _ _)) rfl q4.z (by decide) (fun _ => trivial) (q4.k fun _ q5 => ?_);clear q4
  obtain ⟨d1, hd1⟩ : ∃ y, y = d.alloc (.cells (([1] : List Int).map bV).toArray 5) := ⟨_, rfl⟩
  refine vg_val 0 (.slice (some ⟨d.heap.size, 0, none⟩) 1 1) d1 rfl (by kernel_rfl) (want_none rfl) (ex_bs18 rfl rfl (by rw [hd1]; exact bs1B 1 _)) rfl q5.z (by decide) (fun _ => trivial) (q5.k fun _ q6 => ?_);clear q5
  have s3 : SlY yB9 d1 (some ⟨d.heap.size, 0, none⟩) 1 1 [1] := by rw [hd1]; exact slM d [1] _ _ (by unfold maxLen; decide)
  have b1 : Below d.heap.size d d1 := by rw [hd1]; exact (Below.refl _ _).alloc (Nat.le_refl _) _
  have z1 := b1.size
  clear hd1
  obtain ⟨d2, hd2⟩ : ∃ y, y = d1.alloc (.cells (fl zB9 [(⟨some ⟨d.heap.size, 0, none⟩, 1, [1]⟩ : SV Int), (⟨some ⟨w.heap.size, 0, none⟩, a.v.length, a.v⟩ : SV Int), (⟨some ⟨w1.heap.size, 0, none⟩, b.v.length, b.v⟩ : SV Int)]).toArray 73) := ⟨_, rfl⟩
  refine vg_val 3 (.slice (some ⟨d1.heap.size, 0, none⟩) 3 3) d2 rfl (by kernel_rfl) (want_none rfl) (ex_bs3 rfl (q6.e (j := 5) rfl) (q6.e (j := 6) rfl) (q6.e (j := 7) rfl) (by rw [hd2]; exact bsBB3 (⟨some ⟨d.heap.size, 0, none⟩, 1, [1]⟩ : SV Int) (⟨some ⟨w.heap.size, 0, none⟩, a.v.length, a.v⟩ : SV Int) (⟨some ⟨w1.heap.size, 0, none⟩, b.v.length, b.v⟩ : SV Int) _)) rfl q6.z (by decide) (fun _ => trivial) (q6.k fun _ q7 => ?_);clear q6
  have s5 : SlY zB9 d2 (some ⟨d1.heap.size, 0, none⟩) 3 3 [(⟨some ⟨d.heap.size, 0, none⟩, 1, [1]⟩ : SV Int), (⟨some ⟨w.heap.size, 0, none⟩, a.v.length, a.v⟩ : SV Int), (⟨some ⟨w1.heap.size, 0, none⟩, b.v.length, b.v⟩ : SV Int)] := by rw [hd2]; exact sl_lit kzB9 d1 [(⟨some ⟨d.heap.size, 0, none⟩, 1, [1]⟩ : SV Int), (⟨some ⟨w.heap.size, 0, none⟩, a.v.length, a.v⟩ : SV Int), (⟨some ⟨w1.heap.size, 0, none⟩, b.v.length, b.v⟩ : SV Int)] _ (by show 3 ≤ maxLen; unfold maxLen; decide)
  have b2 : Below d1.heap.size d1 d2 := by rw [hd2]; exact (Below.refl _ _).alloc (Nat.le_refl _) _
  have z2 := b2.size
  clear hd2
  have hf : flB [(⟨some ⟨d.heap.size, 0, none⟩, 1, [1]⟩ : SV Int), (⟨some ⟨w.heap.size, 0, none⟩, a.v.length, a.v⟩ : SV Int), (⟨some ⟨w1.heap.size, 0, none⟩, b.v.length, b.v⟩ : SV Int)] = [1] ++ a.v ++ b.v := by simp [flB]
  have sa2 := ((Ba.later b1).later b2).sl0 (L := a.v) (by rw [a.p]; unfold maxLen; decide)
  have sb2 := ((Bb.later b1).later b2).sl0 (L := b.v) (by rw [b.p]; unfold maxLen; decide)
  have Bh2 := (Bh.later b1).later b2
  refine vg_call 4 rfl (by kernel_rfl) (want_none rfl) (ex_call rfl (by simp only [List.map_toArray, List.map_cons, List.map_nil, (q7.e (j := 8) rfl), evc] <;> rfl) rfl) (join19 [(⟨some ⟨d.heap.size, 0, none⟩, 1, [1]⟩ : SV Int), (⟨some ⟨w.heap.size, 0, none⟩, a.v.length, a.v⟩ : SV Int), (⟨some ⟨w1.heap.size, 0, none⟩, b.v.length, b.v⟩ : SV Int)] _ 3 d2 s5 (by intro y hy; rcases List.mem_cons.1 hy with rfl | hy; exact s3.later b2; rcases List.mem_cons.1 hy with rfl | hy; exact sa2; rcases List.mem_singleton.1 hy with rfl; exact sb2) (by rw [hf, List.length_append, List.length_append, a.p, b.p]; decide) (by show 3 < _; decide)) rfl q7.z (by decide) ?_
  rintro e d3 ⟨rfl, b3⟩
  have Bh3 := Bh2.later b3
  have d6 : Below w.heap.size w d3 := (((((bw1.trans (bw2.mono (by omega))).trans (bw3.mono (by omega))).trans (hd.mono (by omega))).trans (b1.mono (by omega))).trans (b2.mono (by omega))).trans (b3.mono (by omega))
  refine ⟨_, rfl, trivial, q7.k fun _ q8 => ?_⟩;clear q7
  rw [hf] at q8
  have e9 : Value.agg ((sumF ([1] ++ a.v ++ b.v)).map bV).toArray = (nd a b).val := rfl
  rw [e9] at q8
  obtain ⟨d7, hd7⟩ : ∃ y, y = d3.setCells w2.heap.size 0 (nd a b).cs := ⟨_, rfl⟩
  refine vg_store 5 d7 rfl (by kernel_rfl) (by kernel_rfl) (want_none rfl) (ex_st rfl (q8.e (j := 4) rfl) (q8.e (j := 9) rfl) (by rw [hd7]; exact Bh3.stH rfl _)) rfl ?_
  have Bd7 : BB d7 w2.heap.size 24 (nd a b).cs := by rw [hd7]; exact Bh3.putH rfl _
  have ud7 : Upd (fun k => k = w2.heap.size) d3 d7 := by rw [hd7]; exact upd18 _ _ _ _
  clear hd7
  refine vg_done (by kernel_rfl) ?_
  go_wp2
  exact Bd7.res rfl (q8.a 4 rfl) Try.underlying24 rfl (by rw [Hs.len]; exact i32h) ⟨rfl, d6.trans (bel_ge ud7 d6.size (by omega))⟩

end Go.Proofs.Ytomiifnhcojilaa
