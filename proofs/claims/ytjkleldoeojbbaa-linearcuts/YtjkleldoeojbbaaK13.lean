import Derived.Test.YtjkleldoeojbbaaK12
namespace Go.Proofs.Ytjkleldoeojbbaa
open Go.RowKit Go.Maps
open Classical
set_option linter.unusedVariables false
set_option linter.unusedSimpArgs false

theorem ldSlK {w : World} {q : Nat} {a : Option Addr} {n c : Nat} (h : w.cell? ⟨q, 0, none⟩ = some (.slice a n c)) : (Instr.loadAt 24 (.pointer (some ⟨q, 0, none⟩))).run Try.prog w = .ok (.slice a n c) w := by go_simp
theorem ldSlN {w : World} {q : Nat} {a : Option Addr} {n c : Nat} (h : w.cell? ⟨q, 0, none⟩ = some (.slice a n c)) : (Instr.loadAt 50 (.pointer (some ⟨q, 0, none⟩))).run Try.prog w = .ok (.slice a n c) w := by go_simp
theorem ldMpK {w : World} {q : Nat} {m : Option Nat} (h : w.cell? ⟨q, 0, none⟩ = some (.map m)) : (Instr.loadAt 162 (.pointer (some ⟨q, 0, none⟩))).run Try.prog w = .ok (.map m) w := by go_simp
theorem ldFnK {w : World} {q : Nat} {f : Fn} {x y : Array Value} (h : w.cell? ⟨q, 0, none⟩ = some (.func f x y)) : (Instr.loadAt 163 (.pointer (some ⟨q, 0, none⟩))).run Try.prog w = .ok (.func f x y) w := by go_simp
theorem stSlN {w : World} {q : Nat} {u : Value} {a : Option Addr} {n c : Nat} (h : w.cell? ⟨q, 0, none⟩ = some u) (hf : w.frozen? ⟨q, 0, none⟩ = false) : (Instr.storeAt 50 (.pointer (some ⟨q, 0, none⟩)) (.slice a n c)).run Try.prog w = .ok () (w.setCell ⟨q, 0, none⟩ (.slice a n c)) := by go_simp
theorem stBo {w : World} {q j : Nat} {u : Value} {b : Bool} (h : w.cell? ⟨q, j, none⟩ = some u) (hf : w.frozen? ⟨q, j, none⟩ = false) : (Instr.storeAt 4 (.pointer (some ⟨q, j, none⟩)) (.bool b)).run Try.prog w = .ok () (w.setCell ⟨q, j, none⟩ (.bool b)) := by go_simp
theorem slToN (q o n c k : Nat) (h1 : k ≤ n) (h2 : k ≤ c) (w : World) : (Instr.sliceAt 50 (.slice (some ⟨q, o, none⟩) n c) none (some (.int .i64 (k : Int))) none).run Try.prog w = .ok (.slice (some ⟨q, o, none⟩) k c) w := by
  have h3 : (k : Int) ≤ (c : Int) := by omega
  go_simp
theorem ex_slT18 {o : Oper} {ρ : Operand → Value} {s : TypeId} {x y : Operand} {X Y V : Value} {w : World} (ho : o.op = .slice s x none (some y) none) (hx : ρ x = X) (hy : ρ y = Y) (hr : (Instr.sliceAt s X none (some Y) none).run Try.prog w = .ok V w) : (execOp ρ o).run Try.prog w = .ok (.value V) w := by
  unfold execOp
  simp only [ho, hx, hy, Sem.run_bind, Option.map_none, Option.map_some, hr, Result.andThen_ok]
  rfl
theorem ex_bs18 {o : Oper} {ρ : Operand → Value} {s : TypeId} {x : Operand} {X V : Value} {w w' : World} (ho : o.op = .buildSlice s 1 #[(0, x)]) (hx : ρ x = X) (hr : (Instr.buildSlice s 1 #[(0, X)]).run Try.prog w = .ok V w') : (execOp ρ o).run Try.prog w = .ok (.value V) w' := by
  unfold execOp
  simp only [ho, List.map_toArray, List.map_cons, List.map_nil, hx, Sem.run_bind, hr, Result.andThen_ok]
  rfl
theorem bsN (x : Int) (w : World) : (Instr.buildSlice 50 1 #[(0, .int .i64 x)]).run Try.prog w = .ok (.slice (some ⟨w.heap.size, 0, none⟩) 1 1) (w.alloc (.cells #[.int .i64 x] 3)) := by go_simp
theorem ex_app18 {o : Oper} {ρ : Operand → Value} {x y : Operand} {X Y V : Value} {s t : TypeId} {w w' : World} (ho : o.op = .call { callee := .builtin .append, args := #[x, y], argTypes := #[s, t] }) (hx : ρ x = X) (hy : ρ y = Y) (hr : (Builtin.append_ #[s, t] o.type #[X, Y]).run Try.prog w = .ok V w') : (execOp ρ o).run Try.prog w = .ok (.value V) w' := by
  unfold execOp
  simp only [ho, resolve, invoke, builtin, Sem.run_bind, Sem.run_pure, Result.andThen_ok, List.map_toArray, List.map_cons, List.map_nil, hx, hy, hr]
theorem neqR18 (x y : Operand) (r r' : Rs) (w : World) : (do eqGuard .neq 64 x y (.agg #[.int .i64 r.1, .int .i64 r.2.1, .string r.2.2]) (.agg #[.int .i64 r'.1, .int .i64 r'.2.1, .string r'.2.2]); binOp .neq 64 (.agg #[.int .i64 r.1, .int .i64 r.2.1, .string r.2.2]) (.agg #[.int .i64 r'.1, .int .i64 r'.2.1, .string r'.2.2]) : Sem Value).run Try.prog w = .ok (.bool (!decide (r = r'))) w := by
  have h := neq_res r r' w
  rw [Sem.run_bind]
  have e : (eqGuard .neq 64 x y (.agg #[.int .i64 r.1, .int .i64 r.2.1, .string r.2.2]) (.agg #[.int .i64 r'.1, .int .i64 r'.2.1, .string r'.2.2])).run Try.prog w = .ok () w := by go_simp
  rw [e, Result.andThen_ok]
  exact h
theorem add1C (x y : Operand) (j : Nat) (h : j < 9000000000000000000) (w : World) : (do eqGuard .add 3 x y (.int .i64 (j : Int)) (.int .i64 1); binOp .add 3 (.int .i64 (j : Int)) (.int .i64 1) : Sem Value).run Try.prog w = .ok (.int .i64 ((j + 1 : Nat) : Int)) w := by
  have hwr : IntKind.i64.wrap ((j : Int) + 1) = ((j + 1 : Nat) : Int) := by rw [IntKind.wrap_i64]; omega
  go_simp
theorem sub1C (x y : Operand) (j : Nat) (h : j < 9000000000000000000) (w : World) : (do eqGuard .sub 3 x y (.int .i64 ((j + 1 : Nat) : Int)) (.int .i64 1); binOp .sub 3 (.int .i64 ((j + 1 : Nat) : Int)) (.int .i64 1) : Sem Value).run Try.prog w = .ok (.int .i64 (j : Int)) w := by
  have hwr : IntKind.i64.wrap ((j + 1 : Nat) - 1 : Int) = (j : Int) := by rw [IntKind.wrap_i64]; omega
  have hwr2 : IntKind.i64.wrap (j : Int) = (j : Int) := by rw [IntKind.wrap_i64]; omega
  go_simp
theorem ex_mu18 {o : Oper} {T : Array Value} {df : List Deferred} {t : TypeId} {m x v : Operand} {M X Y : Value} {w w' : World} (ho : o.op = Op.mapUpdate t m x v) (hm : (⟨T, df⟩ : Act).eval m = M) (hx : (⟨T, df⟩ : Act).eval x = X) (hv : (⟨T, df⟩ : Act).eval v = Y) (hr : (Instr.mapUpdate t M X Y).run Try.prog w = .ok () w') : (execOp (⟨T, df⟩ : Act).eval o).run Try.prog w = .ok .skip w' := by
  unfold execOp
  simp only [ho, hm, hx, hv, Sem.run_bind, hr, Result.andThen_ok]
  rfl

end Go.Proofs.Ytjkleldoeojbbaa
