import Derived.Test.YtnhonkgondljjaaTb
namespace Go.Proofs.Ytnhonkgondljjaa
open Go.RowKit Go.Maps
open Classical
set_option linter.unusedVariables false
set_option linter.unusedSimpArgs false

theorem wqe {ops : Array Oper} {rest : List Oper} {o : Oper} {a : Act} {C : World → Prop} {Q : Act → Prop} (hw : Region.wanted o (yielded ops a.tmps) = true) {T ty : TypeId} {x y : Operand} (ho : o.op = .binOp .eql T x y ty) (X Y u : Value) (hx : a.eval x = X) (hy : a.eval y = Y) (hq : ∀ v, (do eqGuard .eql T x y X Y; binOp .eql T X Y : Sem Value).run Try.prog v = .ok u v) (hk : WQ Try.prog ops C Q rest (a.put o.dst u)) : WQ Try.prog ops C Q (o :: rest) a :=
  wqv hw (fun v _ => by
    unfold execOp
    simp only [ho, hx, hy]
    rw [Sem.run_bind, hq v]
    rfl) hk
theorem eqlAk (x y : Ak) (A B : Nat) (w : World) : (do eqGuard .eql 55 (.tmp A) (.tmp B) x.val y.val; binOp .eql 55 x.val y.val : Sem Value).run Try.prog w = .ok (.bool (decide (x = y))) w := by
  obtain ⟨a, b, c, d⟩ := x
  obtain ⟨a', b', c', d'⟩ := y
  unfold Ak.val
  go_simp
  by_cases e1 : a = a' <;> by_cases e2 : b = b' <;> by_cases e3 : c = c' <;> by_cases e4 : d = d' <;> simp [e1, e2, e3, e4]
theorem eqlDr (h l h' l' : Int) (A B : Nat) (w : World) : (do eqGuard .eql 27 (.tmp A) (.tmp B) (.agg #[.int .u64 h, .int .u64 l]) (.agg #[.int .u64 h', .int .u64 l']); binOp .eql 27 (.agg #[.int .u64 h, .int .u64 l]) (.agg #[.int .u64 h', .int .u64 l']) : Sem Value).run Try.prog w = .ok (.bool (decide (h = h' ∧ l = l'))) w := by
  go_simp
  by_cases e1 : h = h' <;> by_cases e2 : l = l' <;> simp [e1, e2]

end Go.Proofs.Ytnhonkgondljjaa
