import Derived.Test.YtomiifnhcojilaaS1
namespace Go.Proofs.Ytomiifnhcojilaa
open Go.RowKit Go.Maps
open Classical
set_option linter.unusedVariables false
set_option linter.unusedSimpArgs false

theorem xorU (x y : Operand) (a b : Int)  (w : World) : (do eqGuard .xor 103 x y (.int .u32 a) (.int .u32 b); binOp .xor 103 (.int .u32 a) (.int .u32 b) : Sem Value).run Try.prog w = .ok (.int .u32 (xo a b)) w := by
  unfold xo
  go_simp
theorem andU (x y : Operand) (a b : Int)  (w : World) : (do eqGuard .and 103 x y (.int .u32 a) (.int .u32 b); binOp .and 103 (.int .u32 a) (.int .u32 b) : Sem Value).run Try.prog w = .ok (.int .u32 (an a b)) w := by
  unfold an
  go_simp
theorem orU (x y : Operand) (a b : Int)  (w : World) : (do eqGuard .or 103 x y (.int .u32 a) (.int .u32 b); binOp .or 103 (.int .u32 a) (.int .u32 b) : Sem Value).run Try.prog w = .ok (.int .u32 (bits .or .u32 a b)) w := by
  go_simp
theorem addU (x y : Operand) (a b : Int)  (w : World) : (do eqGuard .add 103 x y (.int .u32 a) (.int .u32 b); binOp .add 103 (.int .u32 a) (.int .u32 b) : Sem Value).run Try.prog w = .ok (.int .u32 (ad a b)) w := by
  unfold ad
  go_simp
theorem shrUu64 (x y : Operand) (a : Int) (n : Nat) (h : n ≤ 32) (w : World) : (do eqGuard .shr 103 x y (.int .u32 a) (.int .u64 (n : Int)); binOp .shr 103 (.int .u32 a) (.int .u64 (n : Int)) : Sem Value).run Try.prog w = .ok (.int .u32 (a / 2 ^ n)) w := by
  have h2 := shift_shr .u32 .u64 a (n : Int) (by omega) (by show (n : Int) ≤ ((_ : Nat) : Int); simp [IntKind.bits]; omega)
  rw [Int.toNat_natCast] at h2
  rw [Sem.run_bind]
  have e : (eqGuard .shr 103 x y (.int .u32 a) (.int .u64 (n : Int))).run Try.prog w = .ok () w := by go_simp
  rw [e, Result.andThen_ok]
  show (Op.shift .shr .u32 a .u64 (n : Int)).run Try.prog w = _
  rw [h2]
  rfl
theorem shrUi64 (x y : Operand) (a : Int) (n : Nat) (h : n ≤ 32) (w : World) : (do eqGuard .shr 103 x y (.int .u32 a) (.int .i64 (n : Int)); binOp .shr 103 (.int .u32 a) (.int .i64 (n : Int)) : Sem Value).run Try.prog w = .ok (.int .u32 (a / 2 ^ n)) w := by
  have h2 := shift_shr .u32 .i64 a (n : Int) (by omega) (by show (n : Int) ≤ ((_ : Nat) : Int); simp [IntKind.bits]; omega)
  rw [Int.toNat_natCast] at h2
  rw [Sem.run_bind]
  have e : (eqGuard .shr 103 x y (.int .u32 a) (.int .i64 (n : Int))).run Try.prog w = .ok () w := by go_simp
  rw [e, Result.andThen_ok]
  show (Op.shift .shr .u32 a .i64 (n : Int)).run Try.prog w = _
  rw [h2]
  rfl
theorem shrQu64 (x y : Operand) (a : Int) (n : Nat) (h : n ≤ 64) (w : World) : (do eqGuard .shr 122 x y (.int .u64 a) (.int .u64 (n : Int)); binOp .shr 122 (.int .u64 a) (.int .u64 (n : Int)) : Sem Value).run Try.prog w = .ok (.int .u64 (a / 2 ^ n)) w := by
  have h2 := shift_shr .u64 .u64 a (n : Int) (by omega) (by show (n : Int) ≤ ((_ : Nat) : Int); simp [IntKind.bits]; omega)
  rw [Int.toNat_natCast] at h2
  rw [Sem.run_bind]
  have e : (eqGuard .shr 122 x y (.int .u64 a) (.int .u64 (n : Int))).run Try.prog w = .ok () w := by go_simp
  rw [e, Result.andThen_ok]
  show (Op.shift .shr .u64 a .u64 (n : Int)).run Try.prog w = _
  rw [h2]
  rfl
theorem shrQi64 (x y : Operand) (a : Int) (n : Nat) (h : n ≤ 64) (w : World) : (do eqGuard .shr 122 x y (.int .u64 a) (.int .i64 (n : Int)); binOp .shr 122 (.int .u64 a) (.int .i64 (n : Int)) : Sem Value).run Try.prog w = .ok (.int .u64 (a / 2 ^ n)) w := by
  have h2 := shift_shr .u64 .i64 a (n : Int) (by omega) (by show (n : Int) ≤ ((_ : Nat) : Int); simp [IntKind.bits]; omega)
  rw [Int.toNat_natCast] at h2
  rw [Sem.run_bind]
  have e : (eqGuard .shr 122 x y (.int .u64 a) (.int .i64 (n : Int))).run Try.prog w = .ok () w := by go_simp
  rw [e, Result.andThen_ok]
  show (Op.shift .shr .u64 a .i64 (n : Int)).run Try.prog w = _
  rw [h2]
  rfl
theorem shlU (x y : Operand) (a : Int) (n : Nat) (h : n ≤ 32) (w : World) : (do eqGuard .shl 103 x y (.int .u32 a) (.int .u64 (n : Int)); binOp .shl 103 (.int .u32 a) (.int .u64 (n : Int)) : Sem Value).run Try.prog w = .ok (.int .u32 (IntKind.u32.wrap (a * 2 ^ n))) w := by
  have h2 := shift_shl .u32 .u64 a (n : Int) (by omega) (by show (n : Int) ≤ ((_ : Nat) : Int); simp [IntKind.bits]; omega)
  rw [Int.toNat_natCast] at h2
  rw [Sem.run_bind]
  have e : (eqGuard .shl 103 x y (.int .u32 a) (.int .u64 (n : Int))).run Try.prog w = .ok () w := by go_simp
  rw [e, Result.andThen_ok]
  show (Op.shift .shl .u32 a .u64 (n : Int)).run Try.prog w = _
  rw [h2]
  rfl
theorem sub32 (x y : Operand) (n : Nat) (h : n ≤ 32) (w : World) : (do eqGuard .sub 108 x y (.int .u64 32) (.int .u64 (n : Int)); binOp .sub 108 (.int .u64 32) (.int .u64 (n : Int)) : Sem Value).run Try.prog w = .ok (.int .u64 ((32 - n : Nat) : Int)) w := by
  have hw : IntKind.u64.wrap (32 - (n : Int)) = ((32 - n : Nat) : Int) := by rw [IntKind.wrap_u64]; omega
  go_simp
theorem quoC (x y : Operand) (j k : Nat) (hk : 0 < k) (hj : j < 9000000000000000000) (w : World) : (do eqGuard .quo 3 x y (.int .i64 (j : Int)) (.int .i64 (k : Int)); binOp .quo 3 (.int .i64 (j : Int)) (.int .i64 (k : Int)) : Sem Value).run Try.prog w = .ok (.int .i64 ((j / k : Nat) : Int)) w := by
  have h0 : ¬ k = 0 := by omega
  have h1 : (j : Int).tdiv (k : Int) = ((j / k : Nat) : Int) := by rw [Int.tdiv_eq_ediv_of_nonneg (by omega)]; rfl
  have h2 : IntKind.i64.wrap ((j : Int) / (k : Int)) = (j : Int) / (k : Int) := by
    have h3 : (j : Int) / (k : Int) = ((j / k : Nat) : Int) := rfl
    have := Nat.div_le_self j k
    rw [h3]
    generalize j / k = d at *
    rw [IntKind.wrap_i64]
    omega
  go_simp
theorem remC (x y : Operand) (j k : Nat) (hk : 0 < k) (hj : j < 9000000000000000000) (w : World) : (do eqGuard .rem 3 x y (.int .i64 (j : Int)) (.int .i64 (k : Int)); binOp .rem 3 (.int .i64 (j : Int)) (.int .i64 (k : Int)) : Sem Value).run Try.prog w = .ok (.int .i64 ((j % k : Nat) : Int)) w := by
  have h0 : ¬ k = 0 := by omega
  have h1 : (j : Int).tmod (k : Int) = ((j % k : Nat) : Int) := by rw [Int.tmod_eq_emod_of_nonneg (by omega)]; rfl
  go_simp
theorem subC9 (x y : Operand) (j k : Nat) (hk : k ≤ j) (hj : j < 9000000000000000000) (w : World) : (do eqGuard .sub 3 x y (.int .i64 (j : Int)) (.int .i64 (k : Int)); binOp .sub 3 (.int .i64 (j : Int)) (.int .i64 (k : Int)) : Sem Value).run Try.prog w = .ok (.int .i64 ((j - k : Nat) : Int)) w := by
  have hw : IntKind.i64.wrap ((j : Int) - (k : Int)) = ((j - k : Nat) : Int) := by rw [IntKind.wrap_i64]; omega
  go_simp
theorem addC9 (x y : Operand) (j k : Nat) (hj : j + k < 9000000000000000000) (w : World) : (do eqGuard .add 3 x y (.int .i64 (j : Int)) (.int .i64 (k : Int)); binOp .add 3 (.int .i64 (j : Int)) (.int .i64 (k : Int)) : Sem Value).run Try.prog w = .ok (.int .i64 ((j + k : Nat) : Int)) w := by
  have hw : IntKind.i64.wrap ((j : Int) + (k : Int)) = ((j + k : Nat) : Int) := by rw [IntKind.wrap_i64]; omega
  go_simp
theorem mulC9 (x y : Operand) (j k : Nat) (hj : j * k < 9000000000000000000) (w : World) : (do eqGuard .mul 3 x y (.int .i64 (j : Int)) (.int .i64 (k : Int)); binOp .mul 3 (.int .i64 (j : Int)) (.int .i64 (k : Int)) : Sem Value).run Try.prog w = .ok (.int .i64 ((j * k : Nat) : Int)) w := by
  have hw : IntKind.i64.wrap ((j : Int) * (k : Int)) = ((j * k : Nat) : Int) := by rw [IntKind.wrap_i64, ← Int.natCast_mul]; omega
  go_simp
theorem ex_un19 {o : Oper} {ρ : Operand → Value} {x : Operand} {a : Int} {w : World} (ho : o.op = .unOp .xor 103 x) (hx : ρ x = .int .u32 a) : (execOp ρ o).run Try.prog w = .ok (.value (.int .u32 (nt a))) w := by
  unfold execOp
  simp only [ho, hx]
  unfold nt
  rfl
theorem ex_cv19 {o : Oper} {ρ : Operand → Value} {s t : TypeId} {x : Operand} {X V : Value} {w w' : World} (ho : o.op = .convert s t x) (hx : ρ x = X) (hr : (Go.convert s t X).run Try.prog w = .ok V w') : (execOp ρ o).run Try.prog w = .ok (.value V) w' := by
  unfold execOp
  simp only [ho, hx, Sem.run_bind, hr, Result.andThen_ok]
  rfl
theorem cv8_32 (a : Int) (w : World) : (Go.convert 5 103 (.int .u8 a)).run Try.prog w = .ok (.int .u32 (IntKind.u32.wrap a)) w := by go_simp
theorem cv32_8 (a : Int) (w : World) : (Go.convert 103 5 (.int .u32 a)).run Try.prog w = .ok (.int .u8 (IntKind.u8.wrap a)) w := by go_simp
theorem cvI_64 (a : Int) (w : World) : (Go.convert 3 122 (.int .i64 a)).run Try.prog w = .ok (.int .u64 (IntKind.u64.wrap a)) w := by go_simp
theorem cv64_8 (a : Int) (w : World) : (Go.convert 122 5 (.int .u64 a)).run Try.prog w = .ok (.int .u8 (IntKind.u8.wrap a)) w := by go_simp
theorem ldU {w : World} {q o : Nat} {x : Int} (h : w.cell? ⟨q, o, none⟩ = some (.int .u32 x)) : (Instr.loadAt 103 (.pointer (some ⟨q, o, none⟩))).run Try.prog w = .ok (.int .u32 x) w := by go_simp
theorem ld8 {w : World} {q o : Nat} {x : Int} (h : w.cell? ⟨q, o, none⟩ = some (.int .u8 x)) : (Instr.loadAt 5 (.pointer (some ⟨q, o, none⟩))).run Try.prog w = .ok (.int .u8 x) w := by go_simp
theorem stU {w : World} {q j : Nat} {u : Value} {b : Int} (h : w.cell? ⟨q, j, none⟩ = some u) (hf : w.frozen? ⟨q, j, none⟩ = false) : (Instr.storeAt 103 (.pointer (some ⟨q, j, none⟩)) (.int .u32 b)).run Try.prog w = .ok () (w.setCell ⟨q, j, none⟩ (.int .u32 b)) := by go_simp
theorem st8 {w : World} {q j : Nat} {u : Value} {b : Int} (h : w.cell? ⟨q, j, none⟩ = some u) (hf : w.frozen? ⟨q, j, none⟩ = false) : (Instr.storeAt 5 (.pointer (some ⟨q, j, none⟩)) (.int .u8 b)).run Try.prog w = .ok () (w.setCell ⟨q, j, none⟩ (.int .u8 b)) := by go_simp
/-- A place in an array. -/
theorem ixA (q o j n : Nat) (t e : TypeId) (hu : Try.prog.underlying t = some (.array n e)) (hs : (Try.prog.info? e).map (·.size) = some 1) (hj : j < n) (w : World) : (Instr.indexAt t (.pointer (some ⟨q, o, none⟩)) (.int .i64 (j : Int))).run Try.prog w = .ok (.pointer (some ⟨q, o + j, none⟩)) w := by
  have h1 : (j : Int) < (n : Int) := by omega
  have h0 : 0 ≤ (j : Int) := by omega
  cases hq : Try.prog.info? e with
  | none => simp [hq] at hs
  | some i =>
    have hi : i.size = 1 := by simpa [hq] using hs
    go_simp
    simp [sizeOf, typeInfo, hq, hi]
def uV (x : Int) : Value := .int .u32 x
def bV (x : Int) : Value := .int .u8 x
theorem one_u (l : List Int) : (l.map uV).toArray.all (·.oneCell') = true := by
  rw [Array.all_eq_true_iff_forall_mem]
  intro u hu
  simp only [List.mem_toArray, List.mem_map] at hu
  obtain ⟨x, _, rfl⟩ := hu
  rfl
theorem one_b (l : List Int) : (l.map bV).toArray.all (·.oneCell') = true := by
  rw [Array.all_eq_true_iff_forall_mem]
  intro u hu
  simp only [List.mem_toArray, List.mem_map] at hu
  obtain ⟨x, _, rfl⟩ := hu
  rfl
theorem al64 (w : World) : (Instr.alloc 165 true (.tuple #[])).run Try.prog w = .ok (.pointer (some ⟨w.heap.size, 0, none⟩)) (w.alloc (.cells ((List.replicate 64 (0 : Int)).map uV).toArray 165)) := by kernel_rfl
theorem alS8 (w : World) : (Instr.alloc 110 true (.tuple #[])).run Try.prog w = .ok (.pointer (some ⟨w.heap.size, 0, none⟩)) (w.alloc (.cells ((List.replicate 8 (0 : Int)).map uV).toArray 110)) := by kernel_rfl
theorem alH (w : World) : (Instr.alloc 24 true (.tuple #[])).run Try.prog w = .ok (.pointer (some ⟨w.heap.size, 0, none⟩)) (w.alloc (.cells ((List.replicate 32 (0 : Int)).map bV).toArray 24)) := by kernel_rfl
/-- A Hasher's cells. -/
def hC (m : Bool) (W R : List Int) (n : Int) : List Value := .bool m :: (W.map uV ++ (R.map bV ++ [.int .i64 n]))
theorem alHs (w : World) : (Instr.alloc 113 true (.tuple #[])).run Try.prog w = .ok (.pointer (some ⟨w.heap.size, 0, none⟩)) (w.alloc (.cells (hC false (List.replicate 8 0) (List.replicate 64 0) 0).toArray 113)) := by kernel_rfl
theorem i64u : (Try.prog.info? 165).map (·.size) = some 64 := by kernel_rfl
theorem i8s : (Try.prog.info? 110).map (·.size) = some 8 := by kernel_rfl
theorem i32h : (Try.prog.info? 24).map (·.size) = some 32 := by kernel_rfl
theorem i74 : (Try.prog.info? 113).map (·.size) = some 74 := by kernel_rfl
theorem i64b : (Try.prog.info? 111).map (·.size) = some 64 := by kernel_rfl
theorem i1u : (Try.prog.info? 103).map (·.size) = some 1 := by kernel_rfl
theorem i1b : (Try.prog.info? 5).map (·.size) = some 1 := by kernel_rfl
theorem bdK (w : World) : (Instr.build 165 (((List.range 64).zip (kT9.map uV)).toArray)).run Try.prog w = .ok (.agg (kT9.map uV).toArray) w := by kernel_rfl
theorem bdI (w : World) : (Instr.build 110 (((List.range 8).zip (iv.l.map uV)).toArray)).run Try.prog w = .ok (.agg (iv.l.map uV).toArray) w := by kernel_rfl
theorem bdH (w : World) : (Instr.build 113 #[(0, .bool true), (1, .agg (iv.l.map uV).toArray)]).run Try.prog w = .ok (.agg (hC true iv.l (List.replicate 64 0) 0).toArray) w := by kernel_rfl
set_option maxRecDepth 100000 in
set_option maxHeartbeats 2000000 in
theorem ror_any (a : Int) (n : Nat) (hn : n ≤ 32) (w : World) :
    Calls Try.prog 108 #[.int .u32 a, .int .u64 (n : Int)] w fun e w' => e = .returned (.int .u32 (ror9 a n)) ∧ w' = w := by
  go_enter Try.func108, Try.ntmps108
  go_upto_region 0 with fail
  refine wp_region_lit ?_
  refine vl_gen (fun T => Rp T 13 [(1, gw true (.int .u64 (n : Int))), (0, gw true (.int .u32 a))]) (((Rp.nil rfl).cons rfl).cons rfl) (fun Z0 q0 => ?_)
  refine q0.t (.int .u32 0) (ex_assign rfl rfl) fun _ q1 => ?_;clear q0
  refine wpList_nil ?_
  go_upto_region 1 with fail
  refine wp_region_lit ?_
  refine q1.t (.int .u32 a) (ex_move rfl (q1.e (j := 0) rfl)) fun _ q2 => ?_;clear q1
  refine q2.t (.int .u64 (n : Int)) (ex_move rfl (q2.e (j := 1) rfl)) fun _ q3 => ?_;clear q2
  refine q3.t (.int .u32 (a / 2 ^ n)) (ex_bin rfl (q3.e (j := 5) rfl) (q3.e (j := 6) rfl) (shrUu64 _ _ a n hn _)) fun _ q4 => ?_;clear q3
  refine q4.t (.int .u32 a) (ex_move rfl (q4.e (j := 0) rfl)) fun _ q5 => ?_;clear q4
  refine q5.t (.int .u64 (n : Int)) (ex_move rfl (q5.e (j := 1) rfl)) fun _ q6 => ?_;clear q5
  refine q6.t (.int .u64 ((32 - n : Nat) : Int)) (ex_bin rfl rfl (q6.e (j := 9) rfl) (sub32 _ _ n hn _)) fun _ q7 => ?_;clear q6
  refine q7.t (.int .u32 (IntKind.u32.wrap (a * 2 ^ (32 - n)))) (ex_bin rfl (q7.e (j := 8) rfl) (q7.e (j := 10) rfl) (shlU _ _ a (32 - n) (by omega) _)) fun _ q8 => ?_;clear q7
  refine q8.t (.int .u32 (ror9 a n)) (ex_bin rfl (q8.e (j := 7) rfl) (q8.e (j := 11) rfl) (orU _ _ _ _ _)) fun _ q9 => ?_;clear q8
  refine q9.t (.int .u32 (ror9 a n)) (ex_assign rfl (q9.e (j := 12) rfl)) fun _ q10 => ?_;clear q9
  refine wpList_nil ?_
  go_wp2
  refine bodyPost_ret (results_tmp rfl _ _ _) rfl ⟨?_, rfl⟩
  rw [getD_of (q10.a 4 rfl)]
  rfl
set_option maxRecDepth 100000 in
set_option maxHeartbeats 2000000 in
theorem rror_any (a : Int) (n : Nat) (hn : n ≤ 32) (w : World) :
    Calls Try.prog 92 #[.int .u32 a, .int .u64 (n : Int)] w fun e w' => e = .returned (.int .u32 (ror9 a n)) ∧ w' = w := by
  go_enter Try.func92, Try.ntmps92
  go_upto_region 0 with fail
  refine wp_region_lit ?_
  refine vl_gen (fun T => Rp T 13 [(1, gw true (.int .u64 (n : Int))), (0, gw true (.int .u32 a))]) (((Rp.nil rfl).cons rfl).cons rfl) (fun Z0 q0 => ?_)
  refine q0.t (.int .u32 0) (ex_assign rfl rfl) fun _ q1 => ?_;clear q0
  refine wpList_nil ?_
  go_upto_region 1 with fail
  refine wp_region_lit ?_
  refine q1.t (.int .u32 a) (ex_move rfl (q1.e (j := 0) rfl)) fun _ q2 => ?_;clear q1
  refine q2.t (.int .u64 (n : Int)) (ex_move rfl (q2.e (j := 1) rfl)) fun _ q3 => ?_;clear q2
  refine q3.t (.int .u32 (a / 2 ^ n)) (ex_bin rfl (q3.e (j := 5) rfl) (q3.e (j := 6) rfl) (shrUu64 _ _ a n hn _)) fun _ q4 => ?_;clear q3
  refine q4.t (.int .u32 a) (ex_move rfl (q4.e (j := 0) rfl)) fun _ q5 => ?_;clear q4
  refine q5.t (.int .u64 (n : Int)) (ex_move rfl (q5.e (j := 1) rfl)) fun _ q6 => ?_;clear q5
  refine q6.t (.int .u64 ((32 - n : Nat) : Int)) (ex_bin rfl rfl (q6.e (j := 9) rfl) (sub32 _ _ n hn _)) fun _ q7 => ?_;clear q6
  refine q7.t (.int .u32 (IntKind.u32.wrap (a * 2 ^ (32 - n)))) (ex_bin rfl (q7.e (j := 8) rfl) (q7.e (j := 10) rfl) (shlU _ _ a (32 - n) (by omega) _)) fun _ q8 => ?_;clear q7
  refine q8.t (.int .u32 (ror9 a n)) (ex_bin rfl (q8.e (j := 7) rfl) (q8.e (j := 11) rfl) (orU _ _ _ _ _)) fun _ q9 => ?_;clear q8
  refine q9.t (.int .u32 (ror9 a n)) (ex_assign rfl (q9.e (j := 12) rfl)) fun _ q10 => ?_;clear q9
  refine wpList_nil ?_
  go_wp2
  refine bodyPost_ret (results_tmp rfl _ _ _) rfl ⟨?_, rfl⟩
  rw [getD_of (q10.a 4 rfl)]
  rfl

end Go.Proofs.Ytomiifnhcojilaa
