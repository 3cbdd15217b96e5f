import Derived.Test.YtdgelllmngdpkaaMx
namespace Go.Proofs.Ytdgelllmngdpkaa
open Go.RowKit
set_option linter.unusedVariables false

theorem eql_draw (h l h' l' : Int) (w : World) : (binOp .eql 44 (.agg #[.int .u64 h, .int .u64 l]) (.agg #[.int .u64 h', .int .u64 l'])).run Try.prog w = .ok (.bool (h == h' && l == l')) w := by
  go_simp
  by_cases e1 : h = h' <;> by_cases e2 : l = l' <;> simp [e1, e2]
theorem neq_draw (h l h' l' : Int) (w : World) : (binOp .neq 44 (.agg #[.int .u64 h, .int .u64 l]) (.agg #[.int .u64 h', .int .u64 l'])).run Try.prog w = .ok (.bool (!(h == h' && l == l'))) w := by
  go_simp
  by_cases e1 : h = h' <;> by_cases e2 : l = l' <;> simp [e1, e2]
theorem neq_same (h l : Int) (w : World) : (binOp .neq 44 (.agg #[.int .u64 h, .int .u64 l]) (.agg #[.int .u64 h, .int .u64 l])).run Try.prog w = .ok (.bool false) w := by
  rw [neq_draw]; simp

theorem guard_draw : Try.prog.eqGuardType Try.prog.depth 44 = false := by kernel_rfl
/-- '!=' of two draws. -/
theorem oper_neq {o : Oper} {a : Act} {w : World} {K : Act → World → Prop} {Q : Exit → Act → World → Prop} (x y : Operand) (ho : o.op = .binOp .neq 44 x y 44) (h l h' l' : Int) (ex : a.eval x = .agg #[.int .u64 h, .int .u64 l]) (ey : a.eval y = .agg #[.int .u64 h', .int .u64 l'])
    (b : Bool) (hb : (!(h == h' && l == l')) = b) (k : K (a.put o.dst (.bool b)) w) : Oper.wp Try.prog o a w K Q := by
  unfold Oper.wp execOp
  simp only [ho]
  simp only [Sem.run_bind, ex, ey, run_eqGuard_agg (hm := guard_draw), neq_draw, Result.andThen_ok, Sem.run_pure, hb]
  exact k
theorem oper_eql {o : Oper} {a : Act} {w : World} {K : Act → World → Prop} {Q : Exit → Act → World → Prop} (x y : Operand) (ho : o.op = .binOp .eql 44 x y 44) (h l h' l' : Int) (ex : a.eval x = .agg #[.int .u64 h, .int .u64 l]) (ey : a.eval y = .agg #[.int .u64 h', .int .u64 l'])
    (b : Bool) (hb : (h == h' && l == l') = b) (k : K (a.put o.dst (.bool b)) w) : Oper.wp Try.prog o a w K Q := by
  unfold Oper.wp execOp
  simp only [ho]
  simp only [Sem.run_bind, ex, ey, run_eqGuard_agg (hm := guard_draw), eql_draw, Result.andThen_ok, Sem.run_pure, hb]
  exact k

end Go.Proofs.Ytdgelllmngdpkaa
