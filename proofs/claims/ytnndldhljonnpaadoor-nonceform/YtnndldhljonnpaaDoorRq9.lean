import Derived.Test.YtnndldhljonnpaaDoorNb
namespace Go.Proofs.YtnndldhljonnpaaDoor
open Go.RowKit
set_option linter.unusedVariables false

/-- The quiet walk, closed: no elaborator lays it open. -/
structure WQ (P : Program) (ops : Array Oper) (C : World → Prop) (Q : Act → Prop) (l : List Oper) (a : Act) : Prop where
  out : wpQuiet P ops C Q l a
theorem region_q9 {P : Program} {C : World → Prop} {id : Nat} {Q : Exit → Act → World → Prop} {a : Act} {w : World} {l : List Oper} (hm : P.follows .mixedOrders = true) (hB : Region.lexB .any l.toArray = true) (hC : C w.drew)
    (h : WQ P l.toArray C (fun a' => ∀ w', C w' → Q .normal a' w') l a) : (Code.region id l.toArray true).wp P Q a w :=
  wp_region_quiet (C := C) hm hB hC (by simpa using h.out)
/-- Steps of a region that draws its order and only reads, under C. -/
theorem wqv {ops : Array Oper} {rest : List Oper} {o : Oper} {a : Act} {C : World → Prop} {Q : Act → Prop} {u : Value} (hw : Region.wanted o (yielded ops a.tmps) = true) (h : ∀ v, C v → (execOp a.eval o).run Tryd.prog v = .ok (.value u) v) (hk : WQ Tryd.prog ops C Q rest (a.put o.dst u)) : WQ Tryd.prog ops C Q (o :: rest) a :=
  ⟨BigFrame.wpQuiet_want hw (fun K hK => ⟨u, fun v hv => by unfold Oper.quietAt; rw [h v hv]; exact ⟨rfl, rfl⟩, hK _ hk.out⟩)⟩
theorem wqskip {ops : Array Oper} {rest : List Oper} {o : Oper} {a : Act} {C : World → Prop} {Q : Act → Prop} (hw : Region.wanted o (yielded ops a.tmps) = false) (hk : WQ Tryd.prog ops C Q rest (a.put o.dst undef)) : WQ Tryd.prog ops C Q (o :: rest) a := ⟨BigFrame.wpQuiet_skip hw hk.out⟩
theorem wqnil {ops : Array Oper} {a : Act} {C : World → Prop} {Q : Act → Prop} (h : Q a) : WQ Tryd.prog ops C Q [] a := ⟨wpQuiet_nil h⟩
theorem wqc {ops : Array Oper} {rest : List Oper} {o : Oper} {a : Act} {C : World → Prop} {Q : Act → Prop} {fid : FuncId} {args : Array Value} {u : Value} (hw : Region.wanted o (yielded ops a.tmps) = true) (hr : ∀ v, (execOp a.eval o).run Tryd.prog v = .ok (.enter fid args) v) (hc : ∀ v, C v → Calls Tryd.prog fid args v (fun e w' => e = .returned u ∧ C w')) (hk : WQ Tryd.prog ops C Q rest (a.put o.dst u)) : WQ Tryd.prog ops C Q (o :: rest) a :=
  ⟨BigFrame.wpQuiet_want hw (fun K hK => ⟨u, fun v hv => by unfold Oper.quietAt; rw [hr v]; exact ⟨rfl, hc v hv⟩, hK _ hk.out⟩)⟩
theorem wqn {ops : Array Oper} {rest : List Oper} {o : Oper} {a : Act} {C : World → Prop} {Q : Act → Prop} (hw : Region.wanted o (yielded ops a.tmps) = true) {T ty : TypeId} {x y : Operand} (ho : o.op = .binOp .neq T x y ty) (X Y u : Value) (hx : a.eval x = X) (hy : a.eval y = Y) (hq : ∀ v, (do eqGuard .neq T x y X Y; binOp .neq T X Y : Sem Value).run Tryd.prog v = .ok u v) (hk : WQ Tryd.prog ops C Q rest (a.put o.dst u)) : WQ Tryd.prog ops C Q (o :: rest) a :=
  wqv hw (fun v _ => by
    unfold execOp
    simp only [ho, hx, hy]
    rw [Sem.run_bind, hq v]
    rfl) hk
theorem wqe {ops : Array Oper} {rest : List Oper} {o : Oper} {a : Act} {C : World → Prop} {Q : Act → Prop} (hw : Region.wanted o (yielded ops a.tmps) = true) {T ty : TypeId} {x y : Operand} (ho : o.op = .binOp .eql T x y ty) (X Y u : Value) (hx : a.eval x = X) (hy : a.eval y = Y) (hq : ∀ v, (do eqGuard .eql T x y X Y; binOp .eql T X Y : Sem Value).run Tryd.prog v = .ok u v) (hk : WQ Tryd.prog ops C Q rest (a.put o.dst u)) : WQ Tryd.prog ops C Q (o :: rest) a :=
  wqv hw (fun v _ => by
    unfold execOp
    simp only [ho, hx, hy]
    rw [Sem.run_bind, hq v]
    rfl) hk

end Go.Proofs.YtnndldhljonnpaaDoor
