import Derived.Test.YtomiifnhcojilaaHe
namespace Go.Proofs.Ytomiifnhcojilaa
open Go.RowKit Go.Maps
open Classical
set_option linter.unusedVariables false
set_option linter.unusedSimpArgs false

/-- An operation that yields a value and leaves the world as it was. -/
theorem wl_val {ops : Array Oper} {rest : List Oper} {o : Oper} {a : Act} {w : World} {Q : Exit → Act → World → Prop} {v : Value} (hw : Region.wanted o (yielded ops a.tmps) = true) (h : (execOp a.eval o).run Try.prog w = .ok (.value v) w)
    (hk : wpList Try.prog ops Q rest (a.put o.dst v) w) : wpList Try.prog ops Q (o :: rest) a w :=
  BigFrame.wpList_want hw (fun K hK => by unfold Oper.wp; rw [h, Oper.upon_value]; exact hK _ _ hk)
theorem want_none {ops : Array Oper} {o : Oper} {T : Array Value} (h : o.guard = none) : Region.wanted o (yielded ops T) = true := by simp [Region.wanted, h]
theorem want_at {ops : Array Oper} {o : Oper} {T : Array Value} {g j : Nat} {b : Bool} (h : o.guard = some (g, true)) (hg : (ops[g]?).bind (·.dst) = some j) (hj : T[j]? = some (.bool b)) : Region.wanted o (yielded ops T) = b := by
  simp [Region.wanted, h, yielded, hg, hj]
theorem getD_of {T : Array Value} {i : Nat} {v : Value} (h : T[i]? = some v) : T.getD i undef = v := by rw [Array.getD_eq_getD_getElem?, h]; rfl
theorem at_set {T : Array Value} {i : Nat} (v : Value) (h : i < T.size) : (T.setIfInBounds i v)[i]? = some v := by simp [h]
theorem at_set_ne {T : Array Value} {i j : Nat} (v : Value) (h : j ≠ i) : (T.setIfInBounds i v)[j]? = T[j]? := by rw [Array.getElem?_setIfInBounds_ne (fun e => h e.symm)]
/-- Five operations under a guard that says no. -/
theorem skip5 {ops : Array Oper} {rest : List Oper} {o1 o2 o3 o4 o5 : Oper} {T : Array Value} {df : List Deferred} {w : World} {Q : Exit → Act → World → Prop} {g j d : Nat} (hg : (ops[g]?).bind (·.dst) = some j) (hj : T[j]? = some (.bool false)) (hjd : j < d)
    (g1 : o1.guard = some (g, true)) (g2 : o2.guard = some (g, true)) (g3 : o3.guard = some (g, true)) (g4 : o4.guard = some (g, true)) (g5 : o5.guard = some (g, true))
    (d1 : o1.dst = some d) (d2 : o2.dst = some (d + 1)) (d3 : o3.dst = some (d + 2)) (d4 : o4.dst = some (d + 3)) (d5 : o5.dst = some (d + 4))
    (hk : ∀ T' : Array Value, T'.size = T.size → (∀ i, i < d → T'[i]? = T[i]?) → wpList Try.prog ops Q rest ⟨T', df⟩ w) : wpList Try.prog ops Q (o1 :: o2 :: o3 :: o4 :: o5 :: rest) ⟨T, df⟩ w := by
  have e1 : (T.setIfInBounds d undef)[j]? = some (.bool false) := (at_set_ne _ (by omega)).trans hj
  have e2 : ((T.setIfInBounds d undef).setIfInBounds (d + 1) undef)[j]? = some (.bool false) := (at_set_ne _ (by omega)).trans e1
  have e3 : (((T.setIfInBounds d undef).setIfInBounds (d + 1) undef).setIfInBounds (d + 2) undef)[j]? = some (.bool false) := (at_set_ne _ (by omega)).trans e2
  have e4 : ((((T.setIfInBounds d undef).setIfInBounds (d + 1) undef).setIfInBounds (d + 2) undef).setIfInBounds (d + 3) undef)[j]? = some (.bool false) := (at_set_ne _ (by omega)).trans e3
  refine wpList_skip (want_at g1 hg hj) ?_
  rw [d1]
  refine wpList_skip (want_at g2 hg e1) ?_
  rw [d2]
  refine wpList_skip (want_at g3 hg e2) ?_
  rw [d3]
  refine wpList_skip (want_at g4 hg e3) ?_
  rw [d4]
  refine wpList_skip (want_at g5 hg e4) ?_
  rw [d5]
  simp only [Act.put]
  refine hk _ (by simp) (fun i hi => ?_)
  rw [at_set_ne _ (by omega), at_set_ne _ (by omega), at_set_ne _ (by omega), at_set_ne _ (by omega), at_set_ne _ (by omega)]
/-- The pick behind an '&&', and its move. -/
theorem pick2 {ops : Array Oper} {rest : List Oper} {o6 o7 : Oper} {T : Array Value} {df : List Deferred} {w : World} {Q : Exit → Act → World → Prop} {j d : Nat} {b c : Bool} {v : Value} (hjd : j < d) (hsz : d + 2 < T.size) (hj : T[j]? = some (.bool b)) (hv : T[d]? = some v) (hc : b = true → v = .bool c)
    (g6 : o6.guard = none) (g7 : o7.guard = none) (e6 : o6.op = .pick (.tmp j) (.tmp d) (.const (.bool false))) (e7 : o7.op = .move (.tmp (d + 1))) (d6 : o6.dst = some (d + 1)) (d7 : o7.dst = some (d + 2))
    (hk : ∀ T' : Array Value, T'.size = T.size → (∀ i, i < d → T'[i]? = T[i]?) → T'[d + 2]? = some (.bool (b && c)) → wpList Try.prog ops Q rest ⟨T', df⟩ w) : wpList Try.prog ops Q (o6 :: o7 :: rest) ⟨T, df⟩ w := by
  refine wl_val (v := .bool (b && c)) (want_none g6) ?_ ?_
  · unfold execOp
    simp only [e6, Act.eval, getD_of hj, getD_of hv]
    cases b
    · rfl
    · rw [hc rfl]; cases c <;> rfl
  rw [d6]
  have s1 : (T.setIfInBounds (d + 1) (.bool (b && c)))[d + 1]? = some (.bool (b && c)) := at_set _ (by omega)
  refine wl_val (v := .bool (b && c)) (want_none g7) ?_ ?_
  · unfold execOp
    simp only [e7, Act.eval, Act.put, getD_of s1]
    rfl
  rw [d7]
  simp only [Act.put]
  refine hk _ (by simp) (fun i hi => ?_) ?_
  · rw [at_set_ne _ (by omega), at_set_ne _ (by omega)]
  · exact at_set _ (by simp; omega)
/-- The pick behind the last '&&', and the result. -/
theorem pick4 {ops : Array Oper} {o6 o7 : Oper} {T : Array Value} {df : List Deferred} {w : World} {Q : Exit → Act → World → Prop} {j d : Nat} {b c : Bool} {v : Value} (hjd : j < d) (h4 : 4 < d) (hsz : d + 1 < T.size) (hj : T[j]? = some (.bool b)) (hv : T[d]? = some v) (hc : b = true → v = .bool c)
    (g6 : o6.guard = none) (g7 : o7.guard = none) (e6 : o6.op = .pick (.tmp j) (.tmp d) (.const (.bool false))) (e7 : o7.op = .assign (.tmp (d + 1))) (d6 : o6.dst = some (d + 1)) (d7 : o7.dst = some 4)
    (hk : ∀ T' : Array Value, T'[4]? = some (.bool (b && c)) → Q .normal ⟨T', df⟩ w) : wpList Try.prog ops Q [o6, o7] ⟨T, df⟩ w := by
  refine wl_val (v := .bool (b && c)) (want_none g6) ?_ ?_
  · unfold execOp
    simp only [e6, Act.eval, getD_of hj, getD_of hv]
    cases b
    · rfl
    · rw [hc rfl]; cases c <;> rfl
  rw [d6]
  have s1 : (T.setIfInBounds (d + 1) (.bool (b && c)))[d + 1]? = some (.bool (b && c)) := at_set _ (by omega)
  refine wl_val (v := .bool (b && c)) (want_none g7) ?_ ?_
  · unfold execOp
    simp only [e7, Act.eval, Act.put, getD_of s1]
    rfl
  rw [d7]
  simp only [Act.put]
  exact wpList_nil (hk _ (at_set _ (by simp; omega)))
end Go.Proofs.Ytomiifnhcojilaa
