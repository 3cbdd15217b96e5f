import Derived.Test.YtjkleldoeojbbaaK11
namespace Go.Proofs.Ytjkleldoeojbbaa
open Go.RowKit Go.Maps
open Classical
set_option linter.unusedVariables false
set_option linter.unusedSimpArgs false

theorem vq_call18 {ops : Array Oper} {rest : List Oper} {o : Oper} {T : Array Value} {df : List Deferred} {C : World → Prop} {Q : Act → Prop} {d n : Nat} (c : Bool) (V : Value) {fid : FuncId} {args : Array Value} (hw : Region.wanted o (yielded ops T) = c) (he : c = true → ∀ v, C v → (execOp (⟨T, df⟩ : Act).eval o).run Try.prog v = .ok (.enter fid args) v)
    (hc : c = true → ∀ v, C v → Calls Try.prog fid args v fun e w' => e = .returned V ∧ C w') (hd : o.dst = some d) (hz : T.size = n) (hn : d < n)
    (hk : ∀ T' : Array Value, T'.size = n → (∀ i, i ≠ d → T'[i]? = T[i]?) → T'[d]? = some (gw c V) → VJ ops C Q rest ⟨T', df⟩) : VJ ops C Q (o :: rest) ⟨T, df⟩ := by
  cases c with
  | false =>
    refine ⟨BigFrame.wpQuiet_skip hw ?_⟩
    rw [hd]
    exact (hk (T.setIfInBounds d undef) (by simp [hz]) (fun i hi => at_set_ne _ hi) (at_set _ (by omega))).out
  | true =>
    refine ⟨BigFrame.wpQuiet_want hw (fun K hK => ⟨V, fun v hv => by unfold Oper.quietAt; rw [he rfl v hv]; exact ⟨rfl, hc rfl v hv⟩, hK _ ?_⟩)⟩
    rw [hd]
    exact (hk (T.setIfInBounds d V) (by simp [hz]) (fun i hi => at_set_ne _ hi) (at_set _ (by omega))).out
theorem bel18 {w v : World} {B : Nat} {f : FuncId} {args : Array Value} {V : Value} (hv : Below B w v) (h : Calls Try.prog f args v fun e w' => e = .returned V ∧ Below v.heap.size v w') (hB : B ≤ v.heap.size) : Calls Try.prog f args v fun e w' => e = .returned V ∧ Below B w w' :=
  h.mono fun e w' ⟨h1, h2⟩ => ⟨h1, hv.trans (h2.mono hB)⟩
theorem ex_ext18 {o : Oper} {ρ : Operand → Value} {x : Operand} {i : Nat} {X V : Value} {w : World} (ho : o.op = .extract x i) (hx : ρ x = X) (hr : (Instr.extract X i).run Try.prog w = .ok V w) : (execOp ρ o).run Try.prog w = .ok (.value V) w := by
  unfold execOp
  simp only [ho, hx]
  simp [hr]
theorem ex_look18 {o : Oper} {ρ : Operand → Value} {s : TypeId} {x y : Operand} {b : Bool} {X Y V : Value} {w : World} (ho : o.op = .lookup s x y b) (hx : ρ x = X) (hy : ρ y = Y) (hr : (Instr.lookup s X Y b).run Try.prog w = .ok V w) : (execOp ρ o).run Try.prog w = .ok (.value V) w := by
  unfold execOp
  simp only [ho, hx, hy, Sem.run_bind, hr, Result.andThen_ok]
  rfl
theorem ex_len18 {o : Oper} {ρ : Operand → Value} {i : Nat} {a : Option Addr} {n k : Nat} {w : World} (ho : o.op = .call { callee := .builtin .len, args := #[.tmp i], argTypes := #[24] }) (ht : o.type = 3) (hx : ρ (.tmp i) = .slice a n k) : (execOp ρ o).run Try.prog w = .ok (.value (.int .i64 (n : Int))) w := by
  unfold execOp
  simp only [ho]
  rw [Sem.run_bind]
  simp only [resolve, List.map_toArray, List.map_cons, List.map_nil, hx, ht]
  go_simp
theorem ex_lenN18 {o : Oper} {ρ : Operand → Value} {i : Nat} {a : Option Addr} {n k : Nat} {w : World} (ho : o.op = .call { callee := .builtin .len, args := #[.tmp i], argTypes := #[50] }) (ht : o.type = 3) (hx : ρ (.tmp i) = .slice a n k) : (execOp ρ o).run Try.prog w = .ok (.value (.int .i64 (n : Int))) w := by
  unfold execOp
  simp only [ho]
  rw [Sem.run_bind]
  simp only [resolve, List.map_toArray, List.map_cons, List.map_nil, hx, ht]
  go_simp
set_option maxRecDepth 100000 in
/-- A call that is made through a function's value. -/
theorem ex_callV18 {o : Oper} {T : Array Value} {df : List Deferred} {fid : FuncId} {x : Operand} {xs : Array Operand} {ts : Array TypeId} {cap args : Array Value} {w : World} (ho : o.op = .call { callee := .value x, args := xs, argTypes := ts }) (hx : (⟨T, df⟩ : Act).eval x = .func (.func fid) #[] cap) (ha : xs.map (⟨T, df⟩ : Act).eval ++ cap = args) (hr : (callFunc fid args).run Try.prog w = .ok (.enter fid args) w) : (execOp (⟨T, df⟩ : Act).eval o).run Try.prog w = .ok (.enter fid args) w := by
  unfold execOp
  simp only [ho, resolve, hx]
  subst ha
  simp only [Deferred.ofValue, Array.empty_append, Sem.run_bind, Sem.run_pure, Result.andThen_ok, invoke]
  exact hr
/-! A call in a box, and in a list. -/
theorem info10 : (Try.prog.info? 66).map (·.size) = some 10 := by kernel_rfl
theorem info3o : (Try.prog.info? 62).map (·.size) = some 3 := by kernel_rfl
theorem info3r : (Try.prog.info? 64).map (·.size) = some 3 := by kernel_rfl
theorem alK (w : World) : (Instr.alloc 66 true (.tuple #[])).run Try.prog w = .ok (.pointer (some ⟨w.heap.size, 0, none⟩)) (w.alloc (.cells zK.cs.toArray 66)) := by kernel_rfl
theorem al0 (w : World) : (Instr.alloc 142 true (.tuple #[])).run Try.prog w = .ok (.pointer (some ⟨w.heap.size, 0, none⟩)) (w.alloc (.cells #[] 142)) := by kernel_rfl
theorem st0 (q : Nat) (w : World) : (Instr.storeAt 142 (.pointer (some ⟨q, 0, none⟩)) (.agg #[])).run Try.prog w = .ok () w := by go_simp
theorem oneK (x : Kl) : x.cs.toArray.all (·.oneCell') = true := by
  rw [Array.all_eq_true_iff_forall_mem]
  intro u hu
  simp only [Kl.cs, List.mem_toArray, List.mem_cons, List.not_mem_nil, or_false] at hu
  rcases hu with rfl | rfl | rfl | rfl | rfl | rfl | rfl | rfl | rfl | rfl <;> rfl
theorem BB.ldK {w : World} {q : Nat} {T : TypeId} {x : Kl} (h : BB w q T x.cs) : (Instr.loadAt 66 (.pointer (some ⟨q, 0, none⟩))).run Try.prog w = .ok x.val w := h.ld 66 Try.underlying66 rfl info10
theorem BB.stK {w : World} {q : Nat} {T : TypeId} {x y : Kl} (h : BB w q T y.cs) : (Instr.storeAt 66 (.pointer (some ⟨q, 0, none⟩)) x.val).run Try.prog w = .ok () (w.setCells q 0 x.cs) := h.st 66 x.cs rfl info10 (oneK x)
theorem faK2 (q : Nat) (w : World) : (Instr.fieldAt 66 (.pointer (some ⟨q, 0, none⟩)) 2).run Try.prog w = .ok (.pointer (some ⟨q, 2, none⟩)) w := by go_simp
theorem faK5 (q : Nat) (w : World) : (Instr.fieldAt 66 (.pointer (some ⟨q, 0, none⟩)) 5).run Try.prog w = .ok (.pointer (some ⟨q, 7, none⟩)) w := by go_simp
theorem BB.ldO {w : World} {q : Nat} {T : TypeId} {x : Kl} (h : BB w q T x.cs) : (Instr.loadAt 62 (.pointer (some ⟨q, 2, none⟩))).run Try.prog w = .ok (.agg #[.int .i64 x.o.k, .int .i64 x.o.s, .string x.o.v]) w :=
  run_loadAt_mid (P := Try.prog) w q 2 62 [.int .i64 x.o.k, .int .i64 x.o.s, .string x.o.v] _ (fun j v hv => by
    rw [h.cell]
    match j, hv with
    | 0, hv => exact hv
    | 1, hv => exact hv
    | 2, hv => exact hv
    | j + 3, hv => simp at hv) Try.underlying62 rfl info3o
theorem BB.ldR {w : World} {q : Nat} {T : TypeId} {x : Kl} (h : BB w q T x.cs) : (Instr.loadAt 64 (.pointer (some ⟨q, 7, none⟩))).run Try.prog w = .ok (.agg #[.int .i64 x.r.1, .int .i64 x.r.2.1, .string x.r.2.2]) w :=
  run_loadAt_mid (P := Try.prog) w q 7 64 [.int .i64 x.r.1, .int .i64 x.r.2.1, .string x.r.2.2] _ (fun j v hv => by
    rw [h.cell]
    match j, hv with
    | 0, hv => exact hv
    | 1, hv => exact hv
    | 2, hv => exact hv
    | j + 3, hv => simp at hv) Try.underlying64 rfl info3r
theorem ldEl {w : World} {q o : Nat} {l : List Kl} (h : LieY yK w q o l) {j : Nat} {x : Kl} (hx : l[j]? = some x) : (Instr.loadAt 66 (.pointer (some ⟨q, o + j * 10, none⟩))).run Try.prog w = .ok x.val w :=
  run_loadAt_mid (P := Try.prog) w q (o + j * 10) 66 x.cs _ (fun k v hv => h j x hx k v hv) Try.underlying66 rfl info10
theorem ixK (q o n c j : Nat) (hj : j < n) (w : World) : (Instr.indexAt 24 (.slice (some ⟨q, o, none⟩) n c) (.int .i64 (j : Int))).run Try.prog w = .ok (.pointer (some ⟨q, o + j * 10, none⟩)) w := by
  have h1 : (j : Int) < (n : Int) := by omega
  go_simp
theorem ixB8 (q j : Nat) (hj : j < 8) (w : World) : (Instr.indexAt 164 (.pointer (some ⟨q, 0, none⟩)) (.int .i64 (j : Int))).run Try.prog w = .ok (.pointer (some ⟨q, j, none⟩)) w := by
  have h1 : (j : Int) < 8 := by omega
  go_simp
theorem slB8 (q : Nat) (w : World) : (Instr.sliceAt 164 (.pointer (some ⟨q, 0, none⟩)) none none none).run Try.prog w = .ok (.slice (some ⟨q, 0, none⟩) 8 8) w := by go_simp
theorem alB8 (w : World) : (Instr.alloc 164 true (.tuple #[])).run Try.prog w = .ok (.pointer (some ⟨w.heap.size, 0, none⟩)) (w.alloc (.cells (D0.map Value.bool).toArray 164)) := by kernel_rfl
theorem BB.ldB {w : World} {q : Nat} {T : TypeId} {D : List Bool} (h : BB w q T (D.map Value.bool)) {j : Nat} (hj : j < D.length) : (Instr.loadAt 4 (.pointer (some ⟨q, j, none⟩))).run Try.prog w = .ok (.bool (at9 D j)) w :=
  ldBool (by rw [h.cell, List.getElem?_map, List.getElem?_eq_getElem hj]; simp [at9, List.getElem?_eq_getElem hj])
theorem BB.sl8 {w : World} {q : Nat} {T : TypeId} {D : List Bool} (h : BB w q T (D.map Value.bool)) (hD : D.length = 8) : SlY yT w (some ⟨q, 0, none⟩) D.length 8 D :=
  ⟨rfl, by omega, by unfold maxLen; omega, (fun e => by cases e), fun x hx => .inr ⟨q, 0, by cases hx; rfl, h.lt, fun i y hy j u hu => by
    have hj : j < 1 := (List.getElem?_eq_some_iff.1 hu).1
    obtain rfl : j = 0 := by omega
    rw [h.cell, List.getElem?_map]
    have : 0 + i * yT.k + 0 = i := by simp [yT]
    rw [this, hy]
    exact hu⟩⟩
theorem oneB (D : List Bool) : (D.map Value.bool).toArray.all (·.oneCell') = true := by
  rw [Array.all_eq_true_iff_forall_mem]
  intro u hu
  simp only [List.mem_toArray, List.mem_map] at hu
  obtain ⟨b, _, rfl⟩ := hu
  rfl
/-- A shorter row of one's own. -/
theorem OwnY.cut18 {B g n c : Nat} {w : World} {O : List Int} {x : Int} (h : OwnY yN B w (.slice (some ⟨g, 0, none⟩) n c) (O ++ [x])) : OwnY yN B w (.slice (some ⟨g, 0, none⟩) O.length c) O := by
  obtain ⟨h1, h2⟩ := h
  have hfl := fl_length kN O
  refine ⟨hfl, .inr ?_⟩
  rcases h2 with ⟨e, _⟩ | ⟨g', cap, cur, e1, e2, e3, e4, e5, e6, e7⟩
  · cases e
  · injection e1 with e1 e8 e9
    injection e1 with e1
    injection e1 with e1
    subst e1
    subst e9
    rw [List.length_append] at e4 e7
    refine ⟨g, c, cur, rfl, e2, e3, by simp at e4; omega, e5, e6, ?_⟩
    have h9 := congrArg (List.take (O.length * yN.k)) e7
    rw [List.take_take, Nat.min_eq_left (Nat.mul_le_mul_right _ (by simp)), fl_append, List.take_append_of_le_length (Nat.le_of_eq hfl.symm), List.take_of_length_le (Nat.le_of_eq hfl)] at h9
    exact h9

end Go.Proofs.Ytjkleldoeojbbaa
