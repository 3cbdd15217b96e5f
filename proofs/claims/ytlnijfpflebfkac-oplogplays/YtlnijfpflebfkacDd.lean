import Derived.Test.YtlnijfpflebfkacGCi
import Derived.Test.YtlnijfpflebfkacYd
namespace Go.Proofs.Ytlnijfpflebfkac
open Go.RowKit Go.Maps
set_option linter.unusedVariables false
set_option linter.unusedSimpArgs false

def zE : Lay (SV En) := yS En 23 46
theorem kzE : zE.Ok := kS Try.underlying46 (by kernel_rfl)
/-- The mark behind. -/
def mkE : En := ⟨-77, -88, ⟨0, 0, ByteArray.empty⟩⟩
set_option maxRecDepth 100000 in
theorem copyent_any (a : Option Addr) (n c : Nat) (D : List En) (w : World) (h : SlY yE w a n c D) (hb : n * 48 ≤ 140737488355328) :
    Calls Try.prog 10 #[.slice a n c] w fun e w' => ∃ v', e = .returned v' ∧ OwnY yE w.heap.size w' v' D ∧ Below w.heap.size w w' := by
  have H := hide h
  clear h
  go_enter Try.func10, Try.ntmps10
  go_wp2_with (at_builtin; go_must (refine appY kE _ rfl (.const (.slice none 0 0)) (.tmp 3) rfl w.heap.size [] _ rfl a n c rfl D H.out (OwnY.nil _ _ _) (Nat.le_refl _) (by unfold maxLen; simp; omega) (by show (0 + n) * 48 ≤ _; omega) ?_))
  intro v' w' h1 h3 _
  have hb : Below w.heap.size w w' := (Below.refl _ _).grown h3 (Nat.le_refl _) (fun k hk => by cases hk)
  go_wp2
  go_ret
  exact ⟨v', rfl, h1, hb⟩
set_option maxRecDepth 100000 in
/-- A call of CopyEntries, in a region that draws its order. -/
theorem step_copyent {ops : Array Oper} {o : Oper} {a : Act} {w : World} {K : Act → World → Prop} {Q : Exit → Act → World → Prop} {E : Prop} (hg : o.guard = none) (x : Operand)
    (ho : o.op = .call { callee := .value (.func 10), args := #[x], argTypes := #[23] }) (ad : Option Addr) (n c : Nat) (hx : a.eval x = .slice ad n c) (D : List En) (h : SlY yE w ad n c D) (hm : n * 48 ≤ 140737488355328)
    (hK : ∀ v' w', OwnY yE w.heap.size w' v' D → Below w.heap.size w w' → K (a.put o.dst v') w') :
    if Region.wanted o (yielded ops a.tmps) = true then Oper.wp Try.prog o a w K Q else E := by
  have hw : Region.wanted o (yielded ops a.tmps) = true := by simp [Region.wanted, hg]
  rw [if_pos hw]
  have hr : (execOp a.eval o).run Try.prog w = .ok (.enter 10 #[.slice ad n c]) w := by
    unfold execOp
    simp only [ho, resolve, invoke, Sem.run_bind, List.map_toArray, List.map_cons, List.map_nil, hx]
    rfl
  unfold Oper.wp
  rw [hr, Oper.upon_enter]
  refine (copyent_any ad n c D w h hm).mono ?_
  rintro e w' ⟨v', rfl, h1, h2⟩
  exact hK v' w' h1 h2
theorem hTE : yE.T ≠ zE.T := by decide
end Go.Proofs.Ytlnijfpflebfkac
