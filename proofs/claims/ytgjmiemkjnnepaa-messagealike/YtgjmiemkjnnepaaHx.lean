import Derived.Test.YtgjmiemkjnnepaaHe
namespace Go.Proofs.Ytgjmiemkjnnepaa
open Go.RowKit Go.Maps
open Classical
set_option linter.unusedVariables false
set_option linter.unusedSimpArgs false

/-- An operation that yields a value and leaves the world as it was. -/
theorem wl_val {ops : Array Oper} {rest : List Oper} {o : Oper} {a : Act} {w : World} {Q : Exit → Act → World → Prop} {v : Value} (hw : Region.wanted o (yielded ops a.tmps) = true) (h : (execOp a.eval o).run Try.prog w = .ok (.value v) w)
    (hk : wpList Try.prog ops Q rest (a.put o.dst v) w) : wpList Try.prog ops Q (o :: rest) a w :=
  BigFrame.wpList_want hw (fun K hK => by unfold Oper.wp; rw [h, Oper.upon_value]; exact hK _ _ hk)
theorem want_none {ops : Array Oper} {o : Oper} {T : Array Value} (h : o.guard = none) : Region.wanted o (yielded ops T) = true := by simp [Region.wanted, h]
theorem want_at {ops : Array Oper} {o : Oper} {T : Array Value} {g j : Nat} {b : Bool} (h : o.guard = some (g, true)) (hg : (ops[g]?).bind (·.dst) = some j) (hj : T[j]? = some (.bool b)) : Region.wanted o (yielded ops T) = b := by
  simp [Region.wanted, h, yielded, hg, hj]
theorem getD_of {T : Array Value} {i : Nat} {v : Value} (h : T[i]? = some v) : T.getD i undef = v := by rw [Array.getD_eq_getD_getElem?, h]; rfl
theorem at_set {T : Array Value} {i : Nat} (v : Value) (h : i < T.size) : (T.setIfInBounds i v)[i]? = some v := by simp [h]
theorem at_set_ne {T : Array Value} {i j : Nat} (v : Value) (h : j ≠ i) : (T.setIfInBounds i v)[j]? = T[j]? := by rw [Array.getElem?_setIfInBounds_ne (fun e => h e.symm)]
/-- Five operations under a guard that says no. -/
theorem skip5 {ops : Array Oper} {rest : List Oper} {o1 o2 o3 o4 o5 : Oper} {T : Array Value} {df : List Deferred} {w : World} {Q : Exit → Act → World → Prop} {g j d : Nat} (hg : (ops[g]?).bind (·.dst) = some j) (hj : T[j]? = some (.bool false)) (hjd : j < d)
    (g1 : o1.guard = some (g, true)) (g2 : o2.guard = some (g, true)) (g3 : o3.guard = some (g, true)) (g4 : o4.guard = some (g, true)) (g5 : o5.guard = some (g, true))
    (d1 : o1.dst = some d) (d2 : o2.dst = some (d + 1)) (d3 : o3.dst = some (d + 2)) (d4 : o4.dst = some (d + 3)) (d5 : o5.dst = some (d + 4))
    (hk : ∀ T' : Array Value, T'.size = T.size → (∀ i, i < d → T'[i]? = T[i]?) → wpList Try.prog ops Q rest ⟨T', df⟩ w) : wpList Try.prog ops Q (o1 :: o2 :: o3 :: o4 :: o5 :: rest) ⟨T, df⟩ w := by
  have e1 : (T.setIfInBounds d undef)[j]? = some (.bool false) := (at_set_ne _ (by omega)).trans hj
  have e2 : ((T.setIfInBounds d undef).setIfInBounds (d + 1) undef)[j]? = some (.bool false) := (at_set_ne _ (by omega)).trans e1
  have e3 : (((T.setIfInBounds d undef).setIfInBounds (d + 1) undef).setIfInBounds (d + 2) undef)[j]? = some (.bool false) := (at_set_ne _ (by omega)).trans e2
  have e4 : ((((T.setIfInBounds d undef).setIfInBounds (d + 1) undef).setIfInBounds (d + 2) undef).setIfInBounds (d + 3) undef)[j]? = some (.bool false) := (at_set_ne _ (by omega)).trans e3
  refine wpList_skip (want_at g1 hg hj) ?_
  rw [d1]
  refine wpList_skip (want_at g2 hg e1) ?_
  rw [d2]
  refine wpList_skip (want_at g3 hg e2) ?_
  rw [d3]
  refine wpList_skip (want_at g4 hg e3) ?_
  rw [d4]
  refine wpList_skip (want_at g5 hg e4) ?_
  rw [d5]
  simp only [Act.put]
  refine hk _ (by simp) (fun i hi => ?_)
  rw [at_set_ne _ (by omega), at_set_ne _ (by omega), at_set_ne _ (by omega), at_set_ne _ (by omega), at_set_ne _ (by omega)]
/-- The pick behind an '&&', and its move. -/
theorem pick2 {ops : Array Oper} {rest : List Oper} {o6 o7 : Oper} {T : Array Value} {df : List Deferred} {w : World} {Q : Exit → Act → World → Prop} {j d : Nat} {b c : Bool} {v : Value} (hjd : j < d) (hsz : d + 2 < T.size) (hj : T[j]? = some (.bool b)) (hv : T[d]? = some v) (hc : b = true → v = .bool c)
    (g6 : o6.guard = none) (g7 : o7.guard = none) (e6 : o6.op = .pick (.tmp j) (.tmp d) (.const (.bool false))) (e7 : o7.op = .move (.tmp (d + 1))) (d6 : o6.dst = some (d + 1)) (d7 : o7.dst = some (d + 2))
    (hk : ∀ T' : Array Value, T'.size = T.size → (∀ i, i < d → T'[i]? = T[i]?) → T'[d + 2]? = some (.bool (b && c)) → wpList Try.prog ops Q rest ⟨T', df⟩ w) : wpList Try.prog ops Q (o6 :: o7 :: rest) ⟨T, df⟩ w := by
  refine wl_val (v := .bool (b && c)) (want_none g6) ?_ ?_
  · unfold execOp
    simp only [e6, Act.eval, getD_of hj, getD_of hv]
    cases b
    · rfl
    · rw [hc rfl]; cases c <;> rfl
  rw [d6]
  have s1 : (T.setIfInBounds (d + 1) (.bool (b && c)))[d + 1]? = some (.bool (b && c)) := at_set _ (by omega)
  refine wl_val (v := .bool (b && c)) (want_none g7) ?_ ?_
  · unfold execOp
    simp only [e7, Act.eval, Act.put, getD_of s1]
    rfl
  rw [d7]
  simp only [Act.put]
  refine hk _ (by simp) (fun i hi => ?_) ?_
  · rw [at_set_ne _ (by omega), at_set_ne _ (by omega)]
  · exact at_set _ (by simp; omega)
/-- What is read of two boxes and compared. -/
theorem eq5 {ops : Array Oper} {rest : List Oper} {o1 o2 o3 o4 o5 : Oper} {T : Array Value} {df : List Deferred} {w : World} {Q : Exit → Act → World → Prop} {d f : Nat} {ty ty' : TypeId} {p1 p2 u1 u2 x y : Value} {c : Bool} (hd : 3 < d) (hsz : d + 4 < T.size) (h2 : T[2]? = some p1) (h3 : T[3]? = some p2)
    (w1 : ∀ T' : Array Value, (∀ i, i < d → T'[i]? = T[i]?) → Region.wanted o1 (yielded ops T') = true ∧ Region.wanted o2 (yielded ops T') = true ∧ Region.wanted o3 (yielded ops T') = true ∧ Region.wanted o4 (yielded ops T') = true ∧ Region.wanted o5 (yielded ops T') = true)
    (e1 : o1.op = .fieldAddr 36 (.tmp 2) f) (e2 : o2.op = .load ty (.tmp d)) (e3 : o3.op = .fieldAddr 36 (.tmp 3) f) (e4 : o4.op = .load ty (.tmp (d + 2))) (e5 : o5.op = .binOp .eql ty (.tmp (d + 1)) (.tmp (d + 3)) ty')
    (d1 : o1.dst = some d) (d2 : o2.dst = some (d + 1)) (d3 : o3.dst = some (d + 2)) (d4 : o4.dst = some (d + 3)) (d5 : o5.dst = some (d + 4))
    (r1 : (Instr.fieldAt 36 p1 f).run Try.prog w = .ok u1 w) (r2 : (Instr.loadAt ty u1).run Try.prog w = .ok x w) (r3 : (Instr.fieldAt 36 p2 f).run Try.prog w = .ok u2 w) (r4 : (Instr.loadAt ty u2).run Try.prog w = .ok y w)
    (r5 : (do eqGuard .eql ty (.tmp (d + 1)) (.tmp (d + 3)) x y; binOp .eql ty x y : Sem Value).run Try.prog w = .ok (.bool c) w)
    (hk : ∀ T' : Array Value, T'.size = T.size → (∀ i, i < d → T'[i]? = T[i]?) → T'[d + 4]? = some (.bool c) → wpList Try.prog ops Q rest ⟨T', df⟩ w) : wpList Try.prog ops Q (o1 :: o2 :: o3 :: o4 :: o5 :: rest) ⟨T, df⟩ w := by
  refine wl_val (v := u1) (w1 T (fun _ _ => rfl)).1 ?_ ?_
  · unfold execOp
    simp only [e1, Act.eval, getD_of h2, Sem.run_bind, r1, Result.andThen_ok]
    rfl
  rw [d1]
  have k1 : ∀ i, i < d → (T.setIfInBounds d u1)[i]? = T[i]? := fun i hi => at_set_ne _ (by omega)
  have s1 : (T.setIfInBounds d u1)[d]? = some u1 := at_set _ (by omega)
  refine wl_val (v := x) (w1 _ k1).2.1 ?_ ?_
  · unfold execOp
    simp only [e2, Act.eval, Act.put, getD_of s1, Sem.run_bind, r2, Result.andThen_ok]
    rfl
  rw [d2]
  show wpList _ _ _ _ ⟨(T.setIfInBounds d u1).setIfInBounds (d + 1) x, df⟩ w
  generalize hT2 : (T.setIfInBounds d u1).setIfInBounds (d + 1) x = T2
  have k2 : ∀ i, i < d → T2[i]? = T[i]? := fun i hi => by rw [← hT2, at_set_ne _ (by omega)]; exact k1 i hi
  have s2 : T2[d + 1]? = some x := by rw [← hT2]; exact at_set _ (by simp; omega)
  have z2 : T2.size = T.size := by rw [← hT2]; simp
  clear hT2 s1 k1
  refine wl_val (v := u2) (w1 _ k2).2.2.1 ?_ ?_
  · unfold execOp
    simp only [e3, Act.eval, getD_of ((k2 3 hd).trans h3), Sem.run_bind, r3, Result.andThen_ok]
    rfl
  rw [d3]
  show wpList _ _ _ _ ⟨T2.setIfInBounds (d + 2) u2, df⟩ w
  have k3 : ∀ i, i < d → (T2.setIfInBounds (d + 2) u2)[i]? = T[i]? := fun i hi => by rw [at_set_ne _ (by omega)]; exact k2 i hi
  have s3 : (T2.setIfInBounds (d + 2) u2)[d + 2]? = some u2 := at_set _ (by omega)
  refine wl_val (v := y) (w1 _ k3).2.2.2.1 ?_ ?_
  · unfold execOp
    simp only [e4, Act.eval, getD_of s3, Sem.run_bind, r4, Result.andThen_ok]
    rfl
  rw [d4]
  show wpList _ _ _ _ ⟨(T2.setIfInBounds (d + 2) u2).setIfInBounds (d + 3) y, df⟩ w
  generalize hT4 : (T2.setIfInBounds (d + 2) u2).setIfInBounds (d + 3) y = T4
  have k4 : ∀ i, i < d → T4[i]? = T[i]? := fun i hi => by rw [← hT4, at_set_ne _ (by omega)]; exact k3 i hi
  have s4 : T4[d + 3]? = some y := by rw [← hT4]; exact at_set _ (by simp; omega)
  have s4' : T4[d + 1]? = some x := by rw [← hT4, at_set_ne _ (by omega), at_set_ne _ (by omega)]; exact s2
  have z4 : T4.size = T.size := by rw [← hT4]; simp [z2]
  clear hT4 s3 k3 s2 z2 k2
  refine wl_val (v := .bool c) (w1 _ k4).2.2.2.2 ?_ ?_
  · unfold execOp
    simp only [e5, Act.eval, getD_of s4, getD_of s4']
    rw [Sem.run_bind, r5]
    rfl
  rw [d5]
  simp only [Act.put]
  exact hk _ (by simp [z4]) (fun i hi => by rw [at_set_ne _ (by omega)]; exact k4 i hi) (at_set _ (by omega))
/-- One more part of an '&&' over two boxes. -/
theorem conj7 {ops : Array Oper} {rest : List Oper} {o1 o2 o3 o4 o5 o6 o7 : Oper} {T : Array Value} {df : List Deferred} {w : World} {Q : Exit → Act → World → Prop} {g j d f : Nat} {ty ty' : TypeId} {p1 p2 u1 u2 x y : Value} {b c : Bool} (hd : 3 < d) (hjd : j < d) (hsz : d + 6 < T.size) (h2 : T[2]? = some p1) (h3 : T[3]? = some p2) (hj : T[j]? = some (.bool b)) (hg : (ops[g]?).bind (·.dst) = some j)
    (g1 : o1.guard = some (g, true)) (g2 : o2.guard = some (g, true)) (g3 : o3.guard = some (g, true)) (g4 : o4.guard = some (g, true)) (g5 : o5.guard = some (g, true)) (g6 : o6.guard = none) (g7 : o7.guard = none)
    (e1 : o1.op = .fieldAddr 36 (.tmp 2) f) (e2 : o2.op = .load ty (.tmp d)) (e3 : o3.op = .fieldAddr 36 (.tmp 3) f) (e4 : o4.op = .load ty (.tmp (d + 2))) (e5 : o5.op = .binOp .eql ty (.tmp (d + 1)) (.tmp (d + 3)) ty')
    (e6 : o6.op = .pick (.tmp j) (.tmp (d + 4)) (.const (.bool false))) (e7 : o7.op = .move (.tmp (d + 5)))
    (d1 : o1.dst = some d) (d2 : o2.dst = some (d + 1)) (d3 : o3.dst = some (d + 2)) (d4 : o4.dst = some (d + 3)) (d5 : o5.dst = some (d + 4)) (d6 : o6.dst = some (d + 5)) (d7 : o7.dst = some (d + 6))
    (r1 : (Instr.fieldAt 36 p1 f).run Try.prog w = .ok u1 w) (r2 : (Instr.loadAt ty u1).run Try.prog w = .ok x w) (r3 : (Instr.fieldAt 36 p2 f).run Try.prog w = .ok u2 w) (r4 : (Instr.loadAt ty u2).run Try.prog w = .ok y w)
    (r5 : (do eqGuard .eql ty (.tmp (d + 1)) (.tmp (d + 3)) x y; binOp .eql ty x y : Sem Value).run Try.prog w = .ok (.bool c) w)
    (hk : ∀ T' : Array Value, T'.size = T.size → (∀ i, i < d → T'[i]? = T[i]?) → T'[d + 6]? = some (.bool (b && c)) → wpList Try.prog ops Q rest ⟨T', df⟩ w) : wpList Try.prog ops Q (o1 :: o2 :: o3 :: o4 :: o5 :: o6 :: o7 :: rest) ⟨T, df⟩ w := by
  cases b with
  | false =>
    refine skip5 hg hj hjd g1 g2 g3 g4 g5 d1 d2 d3 d4 d5 (fun T1 z1 k1 => ?_)
    obtain ⟨v, hv⟩ : ∃ v, T1[d + 4]? = some v := ⟨_, Array.getElem?_eq_getElem (by omega)⟩
    exact pick2 (c := c) (by omega) (by omega) ((k1 j hjd).trans hj) hv (fun e => by cases e) g6 g7 e6 e7 d6 d7 (fun T2 z2 k2 s2 => hk T2 (z2.trans z1) (fun i hi => (k2 i (by omega)).trans (k1 i hi)) s2)
  | true =>
    refine eq5 hd (by omega) h2 h3 (fun T' k' => ?_) e1 e2 e3 e4 e5 d1 d2 d3 d4 d5 r1 r2 r3 r4 r5 (fun T1 z1 k1 s1 => ?_)
    · have hj' := (k' j hjd).trans hj
      exact ⟨want_at g1 hg hj', want_at g2 hg hj', want_at g3 hg hj', want_at g4 hg hj', want_at g5 hg hj'⟩
    · exact pick2 (c := c) (by omega) (by omega) ((k1 j hjd).trans hj) s1 (fun _ => rfl) g6 g7 e6 e7 d6 d7 (fun T2 z2 k2 s2 => hk T2 (z2.trans z1) (fun i hi => (k2 i (by omega)).trans (k1 i hi)) s2)
/-- What is read of two boxes and handed to a call. -/
theorem call5 {ops : Array Oper} {rest : List Oper} {o1 o2 o3 o4 o5 : Oper} {T : Array Value} {df : List Deferred} {w : World} {Q : Exit → Act → World → Prop} {d f : Nat} {ty : TypeId} {fid : FuncId} {p1 p2 u1 u2 x y : Value} {c : Bool} (hd : 3 < d) (hsz : d + 4 < T.size) (h2 : T[2]? = some p1) (h3 : T[3]? = some p2)
    (w1 : ∀ T' : Array Value, (∀ i, i < d → T'[i]? = T[i]?) → Region.wanted o1 (yielded ops T') = true ∧ Region.wanted o2 (yielded ops T') = true ∧ Region.wanted o3 (yielded ops T') = true ∧ Region.wanted o4 (yielded ops T') = true ∧ Region.wanted o5 (yielded ops T') = true)
    (e1 : o1.op = .fieldAddr 36 (.tmp 2) f) (e2 : o2.op = .load ty (.tmp d)) (e3 : o3.op = .fieldAddr 36 (.tmp 3) f) (e4 : o4.op = .load ty (.tmp (d + 2))) (e5 : ∀ a : Act, a.eval (.tmp (d + 1)) = x → a.eval (.tmp (d + 3)) = y → (execOp a.eval o5).run Try.prog w = .ok (.enter fid #[x, y]) w)
    (d1 : o1.dst = some d) (d2 : o2.dst = some (d + 1)) (d3 : o3.dst = some (d + 2)) (d4 : o4.dst = some (d + 3)) (d5 : o5.dst = some (d + 4))
    (r1 : (Instr.fieldAt 36 p1 f).run Try.prog w = .ok u1 w) (r2 : (Instr.loadAt ty u1).run Try.prog w = .ok x w) (r3 : (Instr.fieldAt 36 p2 f).run Try.prog w = .ok u2 w) (r4 : (Instr.loadAt ty u2).run Try.prog w = .ok y w)
    (r5 : Calls Try.prog fid #[x, y] w fun e w' => e = .returned (.bool c) ∧ ∃ k, w' = w.drewN k)
    (hk : ∀ (T' : Array Value) (k : Nat), T'.size = T.size → (∀ i, i < d → T'[i]? = T[i]?) → T'[d + 4]? = some (.bool c) → wpList Try.prog ops Q rest ⟨T', df⟩ (w.drewN k)) : wpList Try.prog ops Q (o1 :: o2 :: o3 :: o4 :: o5 :: rest) ⟨T, df⟩ w := by
  refine wl_val (v := u1) (w1 T (fun _ _ => rfl)).1 ?_ ?_
  · unfold execOp
    simp only [e1, Act.eval, getD_of h2, Sem.run_bind, r1, Result.andThen_ok]
    rfl
  rw [d1]
  have k1 : ∀ i, i < d → (T.setIfInBounds d u1)[i]? = T[i]? := fun i hi => at_set_ne _ (by omega)
  have s1 : (T.setIfInBounds d u1)[d]? = some u1 := at_set _ (by omega)
  refine wl_val (v := x) (w1 _ k1).2.1 ?_ ?_
  · unfold execOp
    simp only [e2, Act.eval, Act.put, getD_of s1, Sem.run_bind, r2, Result.andThen_ok]
    rfl
  rw [d2]
  show wpList _ _ _ _ ⟨(T.setIfInBounds d u1).setIfInBounds (d + 1) x, df⟩ w
  generalize hT2 : (T.setIfInBounds d u1).setIfInBounds (d + 1) x = T2
  have k2 : ∀ i, i < d → T2[i]? = T[i]? := fun i hi => by rw [← hT2, at_set_ne _ (by omega)]; exact k1 i hi
  have s2 : T2[d + 1]? = some x := by rw [← hT2]; exact at_set _ (by simp; omega)
  have z2 : T2.size = T.size := by rw [← hT2]; simp
  clear hT2 s1 k1
  refine wl_val (v := u2) (w1 _ k2).2.2.1 ?_ ?_
  · unfold execOp
    simp only [e3, Act.eval, getD_of ((k2 3 hd).trans h3), Sem.run_bind, r3, Result.andThen_ok]
    rfl
  rw [d3]
  show wpList _ _ _ _ ⟨T2.setIfInBounds (d + 2) u2, df⟩ w
  have k3 : ∀ i, i < d → (T2.setIfInBounds (d + 2) u2)[i]? = T[i]? := fun i hi => by rw [at_set_ne _ (by omega)]; exact k2 i hi
  have s3 : (T2.setIfInBounds (d + 2) u2)[d + 2]? = some u2 := at_set _ (by omega)
  refine wl_val (v := y) (w1 _ k3).2.2.2.1 ?_ ?_
  · unfold execOp
    simp only [e4, Act.eval, getD_of s3, Sem.run_bind, r4, Result.andThen_ok]
    rfl
  rw [d4]
  show wpList _ _ _ _ ⟨(T2.setIfInBounds (d + 2) u2).setIfInBounds (d + 3) y, df⟩ w
  generalize hT4 : (T2.setIfInBounds (d + 2) u2).setIfInBounds (d + 3) y = T4
  have k4 : ∀ i, i < d → T4[i]? = T[i]? := fun i hi => by rw [← hT4, at_set_ne _ (by omega)]; exact k3 i hi
  have s4 : T4[d + 3]? = some y := by rw [← hT4]; exact at_set _ (by simp; omega)
  have s4' : T4[d + 1]? = some x := by rw [← hT4, at_set_ne _ (by omega), at_set_ne _ (by omega)]; exact s2
  have z4 : T4.size = T.size := by rw [← hT4]; simp [z2]
  clear hT4 s3 k3 s2 z2 k2
  refine BigFrame.wpList_want (w1 _ k4).2.2.2.2 (fun K hK => ?_)
  have hr : (execOp (⟨T4, df⟩ : Act).eval o5).run Try.prog w = .ok (.enter fid #[x, y]) w := e5 _ (getD_of s4') (getD_of s4)
  unfold Oper.wp
  rw [hr, Oper.upon_enter]
  refine r5.mono ?_
  rintro e w' ⟨rfl, n, rfl⟩
  refine hK _ _ ?_
  rw [d5]
  simp only [Act.put]
  exact hk _ n (by simp [z4]) (fun i hi => by rw [at_set_ne _ (by omega)]; exact k4 i hi) (at_set _ (by omega))
/-- One more part of an '&&' over two boxes, a call. -/
theorem conjC7 {ops : Array Oper} {rest : List Oper} {o1 o2 o3 o4 o5 o6 o7 : Oper} {T : Array Value} {df : List Deferred} {w : World} {Q : Exit → Act → World → Prop} {g j d f : Nat} {ty : TypeId} {fid : FuncId} {p1 p2 u1 u2 x y : Value} {b c : Bool} (hd : 3 < d) (hjd : j < d) (hsz : d + 6 < T.size) (h2 : T[2]? = some p1) (h3 : T[3]? = some p2) (hj : T[j]? = some (.bool b)) (hg : (ops[g]?).bind (·.dst) = some j)
    (g1 : o1.guard = some (g, true)) (g2 : o2.guard = some (g, true)) (g3 : o3.guard = some (g, true)) (g4 : o4.guard = some (g, true)) (g5 : o5.guard = some (g, true)) (g6 : o6.guard = none) (g7 : o7.guard = none)
    (e1 : o1.op = .fieldAddr 36 (.tmp 2) f) (e2 : o2.op = .load ty (.tmp d)) (e3 : o3.op = .fieldAddr 36 (.tmp 3) f) (e4 : o4.op = .load ty (.tmp (d + 2))) (e5 : ∀ a : Act, a.eval (.tmp (d + 1)) = x → a.eval (.tmp (d + 3)) = y → (execOp a.eval o5).run Try.prog w = .ok (.enter fid #[x, y]) w)
    (e6 : o6.op = .pick (.tmp j) (.tmp (d + 4)) (.const (.bool false))) (e7 : o7.op = .move (.tmp (d + 5)))
    (d1 : o1.dst = some d) (d2 : o2.dst = some (d + 1)) (d3 : o3.dst = some (d + 2)) (d4 : o4.dst = some (d + 3)) (d5 : o5.dst = some (d + 4)) (d6 : o6.dst = some (d + 5)) (d7 : o7.dst = some (d + 6))
    (r1 : (Instr.fieldAt 36 p1 f).run Try.prog w = .ok u1 w) (r2 : (Instr.loadAt ty u1).run Try.prog w = .ok x w) (r3 : (Instr.fieldAt 36 p2 f).run Try.prog w = .ok u2 w) (r4 : (Instr.loadAt ty u2).run Try.prog w = .ok y w)
    (r5 : Calls Try.prog fid #[x, y] w fun e w' => e = .returned (.bool c) ∧ ∃ k, w' = w.drewN k)
    (hk : ∀ (T' : Array Value) (k : Nat), T'.size = T.size → (∀ i, i < d → T'[i]? = T[i]?) → T'[d + 6]? = some (.bool (b && c)) → wpList Try.prog ops Q rest ⟨T', df⟩ (w.drewN k)) : wpList Try.prog ops Q (o1 :: o2 :: o3 :: o4 :: o5 :: o6 :: o7 :: rest) ⟨T, df⟩ w := by
  cases b with
  | false =>
    refine skip5 hg hj hjd g1 g2 g3 g4 g5 d1 d2 d3 d4 d5 (fun T1 z1 k1 => ?_)
    obtain ⟨v, hv⟩ : ∃ v, T1[d + 4]? = some v := ⟨_, Array.getElem?_eq_getElem (by omega)⟩
    exact pick2 (c := c) (by omega) (by omega) ((k1 j hjd).trans hj) hv (fun e => by cases e) g6 g7 e6 e7 d6 d7 (fun T2 z2 k2 s2 => hk T2 0 (z2.trans z1) (fun i hi => (k2 i (by omega)).trans (k1 i hi)) s2)
  | true =>
    refine call5 hd (by omega) h2 h3 (fun T' k' => ?_) e1 e2 e3 e4 e5 d1 d2 d3 d4 d5 r1 r2 r3 r4 r5 (fun T1 n z1 k1 s1 => ?_)
    · have hj' := (k' j hjd).trans hj
      exact ⟨want_at g1 hg hj', want_at g2 hg hj', want_at g3 hg hj', want_at g4 hg hj', want_at g5 hg hj'⟩
    · exact pick2 (c := c) (by omega) (by omega) ((k1 j hjd).trans hj) s1 (fun _ => rfl) g6 g7 e6 e7 d6 d7 (fun T2 z2 k2 s2 => hk T2 n (z2.trans z1) (fun i hi => (k2 i (by omega)).trans (k1 i hi)) s2)
/-- The pick behind the last '&&', and the result. -/
theorem pick4 {ops : Array Oper} {o6 o7 : Oper} {T : Array Value} {df : List Deferred} {w : World} {Q : Exit → Act → World → Prop} {j d : Nat} {b c : Bool} {v : Value} (hjd : j < d) (h4 : 4 < d) (hsz : d + 1 < T.size) (hj : T[j]? = some (.bool b)) (hv : T[d]? = some v) (hc : b = true → v = .bool c)
    (g6 : o6.guard = none) (g7 : o7.guard = none) (e6 : o6.op = .pick (.tmp j) (.tmp d) (.const (.bool false))) (e7 : o7.op = .assign (.tmp (d + 1))) (d6 : o6.dst = some (d + 1)) (d7 : o7.dst = some 4)
    (hk : ∀ T' : Array Value, T'[4]? = some (.bool (b && c)) → Q .normal ⟨T', df⟩ w) : wpList Try.prog ops Q [o6, o7] ⟨T, df⟩ w := by
  refine wl_val (v := .bool (b && c)) (want_none g6) ?_ ?_
  · unfold execOp
    simp only [e6, Act.eval, getD_of hj, getD_of hv]
    cases b
    · rfl
    · rw [hc rfl]; cases c <;> rfl
  rw [d6]
  have s1 : (T.setIfInBounds (d + 1) (.bool (b && c)))[d + 1]? = some (.bool (b && c)) := at_set _ (by omega)
  refine wl_val (v := .bool (b && c)) (want_none g7) ?_ ?_
  · unfold execOp
    simp only [e7, Act.eval, Act.put, getD_of s1]
    rfl
  rw [d7]
  simp only [Act.put]
  exact wpList_nil (hk _ (at_set _ (by simp; omega)))
/-- The last part of an '&&' over two boxes, a call. -/
theorem conjC4 {ops : Array Oper} {o1 o2 o3 o4 o5 o6 o7 : Oper} {T : Array Value} {df : List Deferred} {w : World} {Q : Exit → Act → World → Prop} {g j d f : Nat} {ty : TypeId} {fid : FuncId} {p1 p2 u1 u2 x y : Value} {b c : Bool} (hd : 4 < d) (hjd : j < d) (hsz : d + 5 < T.size) (h2 : T[2]? = some p1) (h3 : T[3]? = some p2) (hj : T[j]? = some (.bool b)) (hg : (ops[g]?).bind (·.dst) = some j)
    (g1 : o1.guard = some (g, true)) (g2 : o2.guard = some (g, true)) (g3 : o3.guard = some (g, true)) (g4 : o4.guard = some (g, true)) (g5 : o5.guard = some (g, true)) (g6 : o6.guard = none) (g7 : o7.guard = none)
    (e1 : o1.op = .fieldAddr 36 (.tmp 2) f) (e2 : o2.op = .load ty (.tmp d)) (e3 : o3.op = .fieldAddr 36 (.tmp 3) f) (e4 : o4.op = .load ty (.tmp (d + 2))) (e5 : ∀ a : Act, a.eval (.tmp (d + 1)) = x → a.eval (.tmp (d + 3)) = y → (execOp a.eval o5).run Try.prog w = .ok (.enter fid #[x, y]) w)
    (e6 : o6.op = .pick (.tmp j) (.tmp (d + 4)) (.const (.bool false))) (e7 : o7.op = .assign (.tmp (d + 5)))
    (d1 : o1.dst = some d) (d2 : o2.dst = some (d + 1)) (d3 : o3.dst = some (d + 2)) (d4 : o4.dst = some (d + 3)) (d5 : o5.dst = some (d + 4)) (d6 : o6.dst = some (d + 5)) (d7 : o7.dst = some 4)
    (r1 : (Instr.fieldAt 36 p1 f).run Try.prog w = .ok u1 w) (r2 : (Instr.loadAt ty u1).run Try.prog w = .ok x w) (r3 : (Instr.fieldAt 36 p2 f).run Try.prog w = .ok u2 w) (r4 : (Instr.loadAt ty u2).run Try.prog w = .ok y w)
    (r5 : Calls Try.prog fid #[x, y] w fun e w' => e = .returned (.bool c) ∧ ∃ k, w' = w.drewN k)
    (hk : ∀ (T' : Array Value) (k : Nat), T'[4]? = some (.bool (b && c)) → Q .normal ⟨T', df⟩ (w.drewN k)) : wpList Try.prog ops Q (o1 :: o2 :: o3 :: o4 :: o5 :: [o6, o7]) ⟨T, df⟩ w := by
  cases b with
  | false =>
    refine skip5 hg hj hjd g1 g2 g3 g4 g5 d1 d2 d3 d4 d5 (fun T1 z1 k1 => ?_)
    obtain ⟨v, hv⟩ : ∃ v, T1[d + 4]? = some v := ⟨_, Array.getElem?_eq_getElem (by omega)⟩
    exact pick4 (c := c) (by omega) (by omega) (by omega) ((k1 j hjd).trans hj) hv (fun e => by cases e) g6 g7 e6 e7 d6 d7 (fun T2 s2 => hk T2 0 s2)
  | true =>
    refine call5 (by omega) (by omega) h2 h3 (fun T' k' => ?_) e1 e2 e3 e4 e5 d1 d2 d3 d4 d5 r1 r2 r3 r4 r5 (fun T1 n z1 k1 s1 => ?_)
    · have hj' := (k' j hjd).trans hj
      exact ⟨want_at g1 hg hj', want_at g2 hg hj', want_at g3 hg hj', want_at g4 hg hj', want_at g5 hg hj'⟩
    · exact pick4 (c := c) (by omega) (by omega) (by omega) ((k1 j hjd).trans hj) s1 (fun _ => rfl) g6 g7 e6 e7 d6 d7 (fun T2 s2 => hk T2 n s2)

end Go.Proofs.Ytgjmiemkjnnepaa
