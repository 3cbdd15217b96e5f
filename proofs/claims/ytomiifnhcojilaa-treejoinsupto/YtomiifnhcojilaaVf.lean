import Derived.Test.YtomiifnhcojilaaHf
namespace Go.Proofs.Ytomiifnhcojilaa
open Go.RowKit Go.Maps
open Classical
set_option linter.unusedVariables false
set_option linter.unusedSimpArgs false

/-- Regions over frames that are variables: a slot holds a value if its guard says so. -/
def gw (c : Bool) (V : Value) : Value := cond c V undef
/-- The quiet walk, closed. -/
structure VJ (ops : Array Oper) (C : World → Prop) (Q : Act → Prop) (l : List Oper) (a : Act) : Prop where
  out : wpQuiet Try.prog ops C Q l a
theorem vq_start {C : World → Prop} {id : Nat} {Q : Exit → Act → World → Prop} {a : Act} {w : World} {l : List Oper} (hm : Try.prog.follows .mixedOrders = true) (hB : Region.lexB .any l.toArray = true) (hC : C w.drew)
    (h : VJ l.toArray C (fun a' => ∀ w', C w' → Q .normal a' w') l a) : (Code.region id l.toArray true).wp Try.prog Q a w :=
  wp_region_quiet (C := C) hm hB hC (by simpa using h.out)
theorem vq_gen {ops : Array Oper} {C : World → Prop} {Q : Act → Prop} {l : List Oper} {T0 : Array Value} {df : List Deferred} (P : Array Value → Prop) (h0 : P T0) (hk : ∀ T, P T → VJ ops C Q l ⟨T, df⟩) : VJ ops C Q l ⟨T0, df⟩ := hk T0 h0
theorem vl_gen {ops : Array Oper} {Q : Exit → Act → World → Prop} {l : List Oper} {T0 : Array Value} {df : List Deferred} {w : World} (P : Array Value → Prop) (h0 : P T0) (hk : ∀ T, P T → wpList Try.prog ops Q l ⟨T, df⟩ w) : wpList Try.prog ops Q l ⟨T0, df⟩ w := hk T0 h0
theorem vq_nil {ops : Array Oper} {C : World → Prop} {Q : Act → Prop} {a : Act} (h : Q a) : VJ ops C Q [] a := ⟨wpQuiet_nil h⟩
theorem want_g {ops : Array Oper} {o : Oper} {T : Array Value} {g j : Nat} {pol b c : Bool} (h : o.guard = some (g, pol)) (hg : (ops[g]?).bind (·.dst) = some j) (hj : T[j]? = some (gw c (.bool b))) : Region.wanted o (yielded ops T) = (c && (b == pol)) := by
  cases c <;> simp [Region.wanted, h, yielded, hg, hj, gw, undef]
/-- One step of a region that draws its order and only reads. -/
theorem vq {ops : Array Oper} {rest : List Oper} {o : Oper} {T : Array Value} {df : List Deferred} {C : World → Prop} {Q : Act → Prop} {d n : Nat} (c : Bool) (V : Value) (hw : Region.wanted o (yielded ops T) = c) (he : c = true → ∀ v, C v → (execOp (⟨T, df⟩ : Act).eval o).run Try.prog v = .ok (.value V) v) (hd : o.dst = some d) (hz : T.size = n) (hn : d < n)
    (hk : ∀ T' : Array Value, T'.size = n → (∀ i, i ≠ d → T'[i]? = T[i]?) → T'[d]? = some (gw c V) → VJ ops C Q rest ⟨T', df⟩) : VJ ops C Q (o :: rest) ⟨T, df⟩ := by
  cases c with
  | false =>
    refine ⟨BigFrame.wpQuiet_skip hw ?_⟩
    rw [hd]
    exact (hk (T.setIfInBounds d undef) (by simp [hz]) (fun i hi => at_set_ne _ hi) (at_set _ (by omega))).out
  | true =>
    refine ⟨BigFrame.wpQuiet_want hw (fun K hK => ⟨V, fun v hv => by unfold Oper.quietAt; rw [he rfl v hv]; exact ⟨rfl, rfl⟩, hK _ ?_⟩)⟩
    rw [hd]
    exact (hk (T.setIfInBounds d V) (by simp [hz]) (fun i hi => at_set_ne _ hi) (at_set _ (by omega))).out
/-- One step of a region that keeps its order. -/
theorem vl {ops : Array Oper} {rest : List Oper} {o : Oper} {T : Array Value} {df : List Deferred} {w : World} {Q : Exit → Act → World → Prop} {d n : Nat} (c : Bool) (V : Value) (hw : Region.wanted o (yielded ops T) = c) (he : c = true → (execOp (⟨T, df⟩ : Act).eval o).run Try.prog w = .ok (.value V) w) (hd : o.dst = some d) (hz : T.size = n) (hn : d < n)
    (hk : ∀ T' : Array Value, T'.size = n → (∀ i, i ≠ d → T'[i]? = T[i]?) → T'[d]? = some (gw c V) → wpList Try.prog ops Q rest ⟨T', df⟩ w) : wpList Try.prog ops Q (o :: rest) ⟨T, df⟩ w := by
  cases c with
  | false =>
    refine wpList_skip hw ?_
    rw [hd]
    exact hk (T.setIfInBounds d undef) (by simp [hz]) (fun i hi => at_set_ne _ hi) (at_set _ (by omega))
  | true =>
    refine wl_val (v := V) hw (he rfl) ?_
    rw [hd]
    exact hk (T.setIfInBounds d V) (by simp [hz]) (fun i hi => at_set_ne _ hi) (at_set _ (by omega))
/-- One step of a region that keeps its order: a call that makes memory alone. -/
theorem vcall {ops : Array Oper} {rest : List Oper} {o : Oper} {T : Array Value} {df : List Deferred} {w : World} {Q : Exit → Act → World → Prop} {d n : Nat} (c : Bool) (V : Value) {fid : FuncId} {args : Array Value} (hw : Region.wanted o (yielded ops T) = c) (he : c = true → (execOp (⟨T, df⟩ : Act).eval o).run Try.prog w = .ok (.enter fid args) w)
    (hc : c = true → Calls Try.prog fid args w fun e w' => e = .returned V ∧ Below w.heap.size w w') (hd : o.dst = some d) (hz : T.size = n) (hn : d < n)
    (hk : ∀ (T' : Array Value) (w' : World), Below w.heap.size w w' → T'.size = n → (∀ i, i ≠ d → T'[i]? = T[i]?) → T'[d]? = some (gw c V) → wpList Try.prog ops Q rest ⟨T', df⟩ w') : wpList Try.prog ops Q (o :: rest) ⟨T, df⟩ w := by
  cases c with
  | false =>
    refine wpList_skip hw ?_
    rw [hd]
    exact hk (T.setIfInBounds d undef) w (Below.refl _ _) (by simp [hz]) (fun i hi => at_set_ne _ hi) (at_set _ (by omega))
  | true =>
    refine BigFrame.wpList_want hw (fun K hK => ?_)
    unfold Oper.wp
    rw [he rfl, Oper.upon_enter]
    refine (hc rfl).mono ?_
    rintro e w' ⟨rfl, hb⟩
    refine hK _ _ ?_
    rw [hd]
    exact hk (T.setIfInBounds d V) w' hb (by simp [hz]) (fun i hi => at_set_ne _ hi) (at_set _ (by omega))
/-- A call in a region that keeps its order, whatever it does to the world. -/
theorem vcallP {ops : Array Oper} {rest : List Oper} {o : Oper} {T : Array Value} {df : List Deferred} {w : World} {Q : Exit → Act → World → Prop} {d n : Nat} {fid : FuncId} {args : Array Value} {R : Ending → World → Prop} (hw : Region.wanted o (yielded ops T) = true) (he : (execOp (⟨T, df⟩ : Act).eval o).run Try.prog w = .ok (.enter fid args) w)
    (hc : Calls Try.prog fid args w R) (hd : o.dst = some d) (hz : T.size = n) (hn : d < n)
    (hk : ∀ (e : Ending) (w' : World), R e w' → ∃ V, e = .returned V ∧ ∀ T' : Array Value, T'.size = n → (∀ i, i ≠ d → T'[i]? = T[i]?) → T'[d]? = some (gw true V) → wpList Try.prog ops Q rest ⟨T', df⟩ w') : wpList Try.prog ops Q (o :: rest) ⟨T, df⟩ w := by
  refine BigFrame.wpList_want hw (fun K hK => ?_)
  unfold Oper.wp
  rw [he, Oper.upon_enter]
  refine hc.mono ?_
  intro e w' hR
  obtain ⟨V, rfl, hk'⟩ := hk e w' hR
  refine hK _ _ ?_
  rw [hd]
  exact hk' (T.setIfInBounds d V) (by simp [hz]) (fun i hi => at_set_ne _ hi) (at_set _ (by omega))
theorem ev {T : Array Value} {df : List Deferred} {i : Nat} {c : Bool} {X : Value} (h : T[i]? = some (gw c X)) (hc : c = true) : (⟨T, df⟩ : Act).eval (.tmp i) = X := by
  subst hc
  exact getD_of h
theorem evc {T : Array Value} {df : List Deferred} {x : Value} : (⟨T, df⟩ : Act).eval (.const x) = x := rfl
theorem and_l {a b : Bool} (h : (a && b) = true) : a = true := by cases a <;> simp_all
theorem and_r {a b p : Bool} (h : (a && (b == p)) = true) : b = p := by cases a <;> cases b <;> cases p <;> simp_all
theorem ex_move {o : Oper} {ρ : Operand → Value} {x : Operand} {X : Value} {w : World} (ho : o.op = .move x) (hx : ρ x = X) : (execOp ρ o).run Try.prog w = .ok (.value X) w := by
  unfold execOp
  simp only [ho, hx]
  rfl
theorem ex_assign {o : Oper} {ρ : Operand → Value} {x : Operand} {X : Value} {w : World} (ho : o.op = .assign x) (hx : ρ x = X) : (execOp ρ o).run Try.prog w = .ok (.value X) w := by
  unfold execOp
  simp only [ho, hx]
  rfl
theorem ex_fa {o : Oper} {ρ : Operand → Value} {s : TypeId} {f : Nat} {x : Operand} {X V : Value} {w : World} (ho : o.op = .fieldAddr s x f) (hx : ρ x = X) (hr : (Instr.fieldAt s X f).run Try.prog w = .ok V w) : (execOp ρ o).run Try.prog w = .ok (.value V) w := by
  unfold execOp
  simp only [ho, hx, Sem.run_bind, hr, Result.andThen_ok]
  rfl
theorem ex_ld {o : Oper} {ρ : Operand → Value} {s : TypeId} {x : Operand} {X V : Value} {w : World} (ho : o.op = .load s x) (hx : ρ x = X) (hr : (Instr.loadAt s X).run Try.prog w = .ok V w) : (execOp ρ o).run Try.prog w = .ok (.value V) w := by
  unfold execOp
  simp only [ho, hx, Sem.run_bind, hr, Result.andThen_ok]
  rfl
theorem ex_ix {o : Oper} {ρ : Operand → Value} {s : TypeId} {x y : Operand} {X Y V : Value} {w : World} (ho : o.op = .indexAddr s x y) (hx : ρ x = X) (hy : ρ y = Y) (hr : (Instr.indexAt s X Y).run Try.prog w = .ok V w) : (execOp ρ o).run Try.prog w = .ok (.value V) w := by
  unfold execOp
  simp only [ho, hx, hy, Sem.run_bind, hr, Result.andThen_ok]
  rfl
theorem ex_bin {o : Oper} {ρ : Operand → Value} {b : BinOp} {s t : TypeId} {x y : Operand} {X Y V : Value} {w : World} (ho : o.op = .binOp b s x y t) (hx : ρ x = X) (hy : ρ y = Y) (hr : (do eqGuard b s x y X Y; binOp b s X Y : Sem Value).run Try.prog w = .ok V w) : (execOp ρ o).run Try.prog w = .ok (.value V) w := by
  unfold execOp
  simp only [ho, hx, hy]
  rw [Sem.run_bind, hr]
  rfl
theorem ex_build {o : Oper} {ρ : Operand → Value} {s : TypeId} {V : Value} {w : World} (ho : o.op = .build s #[]) (hr : (Instr.build s #[]).run Try.prog w = .ok V w) : (execOp ρ o).run Try.prog w = .ok (.value V) w := by
  unfold execOp
  simp only [ho]
  rw [Sem.run_bind]
  simp only [List.map_toArray, List.map_nil, hr]
  rfl
theorem ex_not {o : Oper} {ρ : Operand → Value} {s : TypeId} {x : Operand} {b : Bool} {w : World} (ho : o.op = .unOp .not s x) (hx : ρ x = .bool b) : (execOp ρ o).run Try.prog w = .ok (.value (.bool (!b))) w := by
  unfold execOp
  simp only [ho, hx]
  rfl
theorem ex_nil {o : Oper} {ρ : Operand → Value} {x : Operand} {p : Addr} {w : World} (ho : o.op = .nilCheck x) (hx : ρ x = .pointer (some p)) : (execOp ρ o).run Try.prog w = .ok (.value (.pointer (some p))) w := by
  unfold execOp
  simp only [ho, hx]
  rfl
set_option maxRecDepth 100000 in
theorem ex_call {o : Oper} {T : Array Value} {df : List Deferred} {fid : FuncId} {xs : Array Operand} {ts : Array TypeId} {args : Array Value} {w : World} (ho : o.op = .call { callee := .value (.func fid), args := xs, argTypes := ts }) (ha : xs.map (⟨T, df⟩ : Act).eval = args) (hr : (do let d ← Deferred.ofValue ((⟨T, df⟩ : Act).eval (.func fid)) args; invoke d.target d.args : Sem Next).run Try.prog w = .ok (.enter fid args) w) : (execOp (⟨T, df⟩ : Act).eval o).run Try.prog w = .ok (.enter fid args) w := by
  unfold execOp
  simp only [ho, resolve, ha]
  exact hr
/-- The picks behind '||' and '&&'. -/
theorem ex_or {o : Oper} {T : Array Value} {df : List Deferred} {j y : Nat} {c b z : Bool} {w : World} (ho : o.op = .pick (.tmp j) (.const (.bool true)) (.tmp y)) (hj : T[j]? = some (gw c (.bool b))) (hy : T[y]? = some (gw (c && (b == false)) (.bool z))) (hc : c = true) : (execOp (⟨T, df⟩ : Act).eval o).run Try.prog w = .ok (.value (.bool (b || z))) w := by
  subst hc
  unfold execOp
  simp only [ho, Act.eval, getD_of hj, getD_of hy]
  cases b <;> rfl
theorem ex_and {o : Oper} {T : Array Value} {df : List Deferred} {j x : Nat} {c b z : Bool} {w : World} (ho : o.op = .pick (.tmp j) (.tmp x) (.const (.bool false))) (hj : T[j]? = some (gw c (.bool b))) (hy : T[x]? = some (gw (c && (b == true)) (.bool z))) (hc : c = true) : (execOp (⟨T, df⟩ : Act).eval o).run Try.prog w = .ok (.value (.bool (b && z))) w := by
  subst hc
  unfold execOp
  simp only [ho, Act.eval, getD_of hj, getD_of hy]
  cases b <;> rfl
theorem ex_lenE {o : Oper} {ρ : Operand → Value} {i : Nat} {a : Option Addr} {n k : Nat} {w : World} (ho : o.op = .call { callee := .builtin .len, args := #[.tmp i], argTypes := #[22] }) (ht : o.type = 3) (hx : ρ (.tmp i) = .slice a n k) : (execOp ρ o).run Try.prog w = .ok (.value (.int .i64 (n : Int))) w := by
  unfold execOp
  simp only [ho]
  rw [Sem.run_bind]
  simp only [resolve, List.map_toArray, List.map_cons, List.map_nil, hx, ht]
  go_simp
theorem ex_lenV {o : Oper} {ρ : Operand → Value} {i : Nat} {a : Option Addr} {n k : Nat} {w : World} (ho : o.op = .call { callee := .builtin .len, args := #[.tmp i], argTypes := #[80] }) (ht : o.type = 3) (hx : ρ (.tmp i) = .slice a n k) : (execOp ρ o).run Try.prog w = .ok (.value (.int .i64 (n : Int))) w := by
  unfold execOp
  simp only [ho]
  rw [Sem.run_bind]
  simp only [resolve, List.map_toArray, List.map_cons, List.map_nil, hx, ht]
  go_simp
theorem eqlC (x y : Operand) (a b : Int) (w : World) : (do eqGuard .eql 3 x y (.int .i64 a) (.int .i64 b); binOp .eql 3 (.int .i64 a) (.int .i64 b) : Sem Value).run Try.prog w = .ok (.bool (decide (a = b))) w := by
  go_simp
  by_cases h : a = b <;> simp [h]
theorem neqC (x y : Operand) (a b : Int) (w : World) : (do eqGuard .neq 3 x y (.int .i64 a) (.int .i64 b); binOp .neq 3 (.int .i64 a) (.int .i64 b) : Sem Value).run Try.prog w = .ok (.bool (!decide (a = b))) w := by
  go_simp
  by_cases h : a = b <;> simp [h]
theorem lssC (x y : Operand) (a b : Int) (w : World) : (do eqGuard .lss 3 x y (.int .i64 a) (.int .i64 b); binOp .lss 3 (.int .i64 a) (.int .i64 b) : Sem Value).run Try.prog w = .ok (.bool (decide (a < b))) w := by
  go_simp
theorem geqC (x y : Operand) (a b : Int) (w : World) : (do eqGuard .geq 3 x y (.int .i64 a) (.int .i64 b); binOp .geq 3 (.int .i64 a) (.int .i64 b) : Sem Value).run Try.prog w = .ok (.bool (decide (b ≤ a))) w := by
  go_simp
theorem gtrC (x y : Operand) (a b : Int) (w : World) : (do eqGuard .gtr 3 x y (.int .i64 a) (.int .i64 b); binOp .gtr 3 (.int .i64 a) (.int .i64 b) : Sem Value).run Try.prog w = .ok (.bool (decide (b < a))) w := by
  go_simp
theorem neqB (x y : Operand) (a b : Bool) (w : World) : (do eqGuard .neq 4 x y (.bool a) (.bool b); binOp .neq 4 (.bool a) (.bool b) : Sem Value).run Try.prog w = .ok (.bool (a != b)) w := by
  cases a <;> cases b <;> go_simp
theorem buildDr (w : World) : (Instr.build 131 #[]).run Try.prog w = .ok (.agg #[.int .u64 0, .int .u64 0]) w := by
  go_simp
theorem buildEn (w : World) : (Instr.build 28 #[]).run Try.prog w = .ok (.agg #[.int .i64 0, .int .i64 0, .int .i64 0, .int .i64 0, .string ⟨#[]⟩]) w := by
  go_simp
theorem ldBool {w : World} {g j : Nat} {b : Bool} (h : w.cell? ⟨g, j, none⟩ = some (.bool b)) : (Instr.loadAt 4 (.pointer (some ⟨g, j, none⟩))).run Try.prog w = .ok (.bool b) w := by
  go_simp

/-- What a slot held ahead of a step, it holds behind it (claim.py writes rows with it: shorter). -/
theorem kt {T T' : Array Value} {d i : Nat} {v : Option Value} (kk : ∀ i, i ≠ d → T'[i]? = T[i]?) (h : T[i]? = v) (hi : i ≠ d := by decide) : T'[i]? = v := (kk i hi).trans h

theorem vt {ops : Array Oper} {rest : List Oper} {o : Oper} {T : Array Value} {df : List Deferred} {w : World} {Q : Exit → Act → World → Prop} {d n : Nat} (V : Value) (he : (execOp (⟨T, df⟩ : Act).eval o).run Try.prog w = .ok (.value V) w) (hz : T.size = n)
    (hk : ∀ T' : Array Value, T'.size = n → (∀ i, i ≠ d → T'[i]? = T[i]?) → T'[d]? = some (gw true V) → wpList Try.prog ops Q rest ⟨T', df⟩ w) (hg : o.guard = none := by rfl) (hd : o.dst = some d := by rfl) (hn : d < n := by decide) : wpList Try.prog ops Q (o :: rest) ⟨T, df⟩ w := vl true V (want_none hg) (fun _ => he) hd hz hn hk

end Go.Proofs.Ytomiifnhcojilaa
