import Derived.Test.YtjkleldoeojbbaaK24
import Derived.Test.YtjkleldoeojbbaaK26
namespace Go.Proofs.Ytjkleldoeojbbaa
open Go.RowKit Go.Maps
open Classical
set_option linter.unusedVariables false
set_option linter.unusedSimpArgs false

theorem bxK18 (x : Kl) (w : World) : (Instr.box 66 x.val).run Try.prog w = .ok (.pointer (some ⟨w.heap.size, 0, none⟩)) (w.alloc (.cells x.cs.toArray 66)) := rfl
theorem eqlSe (x y : Operand) (a : Int) (w : World) : (do eqGuard .eql 3 x y (.int .i64 a) (.int .i64 a); binOp .eql 3 (.int .i64 a) (.int .i64 a) : Sem Value).run Try.prog w = .ok (.bool true) w := by
  rw [eqlC]
  simp
theorem eqlBs (x y : Operand) (a : Bool) (w : World) : (do eqGuard .eql 4 x y (.bool a) (.bool a); binOp .eql 4 (.bool a) (.bool a) : Sem Value).run Try.prog w = .ok (.bool true) w := by
  cases a <;> go_simp
end Go.Proofs.Ytjkleldoeojbbaa
