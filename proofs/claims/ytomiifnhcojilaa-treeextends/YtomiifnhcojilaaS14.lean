import Derived.Test.YtomiifnhcojilaaS8
namespace Go.Proofs.Ytomiifnhcojilaa
open Go.RowKit Go.Maps
open Classical
set_option linter.unusedVariables false
set_option linter.unusedSimpArgs false

theorem neqP (x y : Operand) (q : Nat) (w : World) : (do eqGuard .neq 143 x y (.pointer (some ⟨q, 0, none⟩)) (.pointer none); binOp .neq 143 (.pointer (some ⟨q, 0, none⟩)) (.pointer none) : Sem Value).run Try.prog w = .ok (.bool true) w := by go_simp
theorem eqlP (x y : Operand) (q : Nat) (w : World) : (do eqGuard .eql 143 x y (.pointer (some ⟨q, 0, none⟩)) (.pointer none); binOp .eql 143 (.pointer (some ⟨q, 0, none⟩)) (.pointer none) : Sem Value).run Try.prog w = .ok (.bool false) w := by go_simp
theorem ldBo {w : World} {q o : Nat} {x : Bool} (h : w.cell? ⟨q, o, none⟩ = some (.bool x)) : (Instr.loadAt 4 (.pointer (some ⟨q, o, none⟩))).run Try.prog w = .ok (.bool x) w := by go_simp
theorem hC_all (m : Bool) (W R : List Int) (n : Int) : (hC m W R n).toArray.all (·.oneCell') = true := by
  rw [Array.all_eq_true_iff_forall_mem]
  intro u hu
  simp only [hC, List.mem_toArray, List.mem_cons, List.mem_append, List.mem_map, List.not_mem_nil, or_false] at hu
  rcases hu with rfl | ⟨x, _, rfl⟩ | ⟨x, _, rfl⟩ | rfl <;> rfl
end Go.Proofs.Ytomiifnhcojilaa
