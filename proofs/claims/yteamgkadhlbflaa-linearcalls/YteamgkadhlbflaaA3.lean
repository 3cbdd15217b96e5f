import Derived.Test.YteamgkadhlbflaaA2
set_option maxRecDepth 100000
set_option linter.unusedVariables false
set_option linter.unusedSimpArgs false
namespace Go.Proofs.Yteamgkadhlbflaa
open Go.RowKit Go.Maps
open Classical
theorem vq_call18 {ops : Array Oper} {rest : List Oper} {o : Oper} {T : Array Value} {df : List Deferred} {C : World → Prop} {Q : Act → Prop} {d n : Nat} (c : Bool) (V : Value) {fid : FuncId} {args : Array Value} (hw : Region.wanted o (yielded ops T) = c) (he : c = true → ∀ v, C v → (execOp (⟨T, df⟩ : Act).eval o).run Try.prog v = .ok (.enter fid args) v)
    (hc : c = true → ∀ v, C v → Calls Try.prog fid args v fun e w' => e = .returned V ∧ C w') (hd : o.dst = some d) (hz : T.size = n) (hn : d < n)
    (hk : ∀ T' : Array Value, T'.size = n → (∀ i, i ≠ d → T'[i]? = T[i]?) → T'[d]? = some (gw c V) → VJ ops C Q rest ⟨T', df⟩) : VJ ops C Q (o :: rest) ⟨T, df⟩ := by
  cases c with
  | false =>
    refine ⟨BigFrame.wpQuiet_skip hw ?_⟩
    rw [hd]
    exact (hk (T.setIfInBounds d undef) (by simp [hz]) (fun i hi => at_set_ne _ hi) (at_set _ (by omega))).out
  | true =>
    refine ⟨BigFrame.wpQuiet_want hw (fun K hK => ⟨V, fun v hv => by unfold Oper.quietAt; rw [he rfl v hv]; exact ⟨rfl, hc rfl v hv⟩, hK _ ?_⟩)⟩
    rw [hd]
    exact (hk (T.setIfInBounds d V) (by simp [hz]) (fun i hi => at_set_ne _ hi) (at_set _ (by omega))).out
theorem bel18 {w v : World} {B : Nat} {f : FuncId} {args : Array Value} {V : Value} (hv : Below B w v) (h : Calls Try.prog f args v fun e w' => e = .returned V ∧ Below v.heap.size v w') (hB : B ≤ v.heap.size) : Calls Try.prog f args v fun e w' => e = .returned V ∧ Below B w w' :=
  h.mono fun e w' ⟨h1, h2⟩ => ⟨h1, hv.trans (h2.mono hB)⟩
theorem ex_ext18 {o : Oper} {ρ : Operand → Value} {x : Operand} {i : Nat} {X V : Value} {w : World} (ho : o.op = .extract x i) (hx : ρ x = X) (hr : (Instr.extract X i).run Try.prog w = .ok V w) : (execOp ρ o).run Try.prog w = .ok (.value V) w := by
  unfold execOp
  simp only [ho, hx]
  simp [hr]
theorem ex_look18 {o : Oper} {ρ : Operand → Value} {s : TypeId} {x y : Operand} {b : Bool} {X Y V : Value} {w : World} (ho : o.op = .lookup s x y b) (hx : ρ x = X) (hy : ρ y = Y) (hr : (Instr.lookup s X Y b).run Try.prog w = .ok V w) : (execOp ρ o).run Try.prog w = .ok (.value V) w := by
  unfold execOp
  simp only [ho, hx, hy, Sem.run_bind, hr, Result.andThen_ok]
  rfl
theorem ex_len18 {o : Oper} {ρ : Operand → Value} {i : Nat} {a : Option Addr} {n k : Nat} {w : World} (ho : o.op = .call { callee := .builtin .len, args := #[.tmp i], argTypes := #[24] }) (ht : o.type = 3) (hx : ρ (.tmp i) = .slice a n k) : (execOp ρ o).run Try.prog w = .ok (.value (.int .i64 (n : Int))) w := by
  unfold execOp
  simp only [ho]
  rw [Sem.run_bind]
  simp only [resolve, List.map_toArray, List.map_cons, List.map_nil, hx, ht]
  go_simp
theorem ex_lenN18 {o : Oper} {ρ : Operand → Value} {i : Nat} {a : Option Addr} {n k : Nat} {w : World} (ho : o.op = .call { callee := .builtin .len, args := #[.tmp i], argTypes := #[35] }) (ht : o.type = 3) (hx : ρ (.tmp i) = .slice a n k) : (execOp ρ o).run Try.prog w = .ok (.value (.int .i64 (n : Int))) w := by
  unfold execOp
  simp only [ho]
  rw [Sem.run_bind]
  simp only [resolve, List.map_toArray, List.map_cons, List.map_nil, hx, ht]
  go_simp
theorem ex_callV18 {o : Oper} {T : Array Value} {df : List Deferred} {fid : FuncId} {x : Operand} {xs : Array Operand} {ts : Array TypeId} {cap args : Array Value} {w : World} (ho : o.op = .call { callee := .value x, args := xs, argTypes := ts }) (hx : (⟨T, df⟩ : Act).eval x = .func (.func fid) #[] cap) (ha : xs.map (⟨T, df⟩ : Act).eval ++ cap = args) (hr : (callFunc fid args).run Try.prog w = .ok (.enter fid args) w) : (execOp (⟨T, df⟩ : Act).eval o).run Try.prog w = .ok (.enter fid args) w := by
  unfold execOp
  simp only [ho, resolve, hx]
  subst ha
  simp only [Deferred.ofValue, Array.empty_append, Sem.run_bind, Sem.run_pure, Result.andThen_ok, invoke]
  exact hr
/-! A call in a box, and in a list. -/
theorem info10 : (Try.prog.info? 45).map (·.size) = some 10 := by kernel_rfl
theorem info3o : (Try.prog.info? 41).map (·.size) = some 3 := by kernel_rfl
theorem info3r : (Try.prog.info? 43).map (·.size) = some 3 := by kernel_rfl
theorem alK (w : World) : (Instr.alloc 45 true (.tuple #[])).run Try.prog w = .ok (.pointer (some ⟨w.heap.size, 0, none⟩)) (w.alloc (.cells zK.cs.toArray 45)) := by kernel_rfl
theorem al0 (w : World) : (Instr.alloc 103 true (.tuple #[])).run Try.prog w = .ok (.pointer (some ⟨w.heap.size, 0, none⟩)) (w.alloc (.cells #[] 103)) := by kernel_rfl
theorem st0 (q : Nat) (w : World) : (Instr.storeAt 103 (.pointer (some ⟨q, 0, none⟩)) (.agg #[])).run Try.prog w = .ok () w := by go_simp
theorem oneK (x : Kl) : x.cs.toArray.all (·.oneCell') = true := by
  rw [Array.all_eq_true_iff_forall_mem]
  intro u hu
  simp only [Kl.cs, List.mem_toArray, List.mem_cons, List.not_mem_nil, or_false] at hu
  rcases hu with rfl | rfl | rfl | rfl | rfl | rfl | rfl | rfl | rfl | rfl <;> rfl
theorem BB.ldK {w : World} {q : Nat} {T : TypeId} {x : Kl} (h : BB w q T x.cs) : (Instr.loadAt 45 (.pointer (some ⟨q, 0, none⟩))).run Try.prog w = .ok x.val w := h.ld 45 Try.underlying45 rfl info10
theorem BB.stK {w : World} {q : Nat} {T : TypeId} {x y : Kl} (h : BB w q T y.cs) : (Instr.storeAt 45 (.pointer (some ⟨q, 0, none⟩)) x.val).run Try.prog w = .ok () (w.setCells q 0 x.cs) := h.st 45 x.cs rfl info10 (oneK x)
theorem faK2 (q : Nat) (w : World) : (Instr.fieldAt 45 (.pointer (some ⟨q, 0, none⟩)) 2).run Try.prog w = .ok (.pointer (some ⟨q, 2, none⟩)) w := by go_simp
theorem faK5 (q : Nat) (w : World) : (Instr.fieldAt 45 (.pointer (some ⟨q, 0, none⟩)) 5).run Try.prog w = .ok (.pointer (some ⟨q, 7, none⟩)) w := by go_simp
theorem BB.ldO {w : World} {q : Nat} {T : TypeId} {x : Kl} (h : BB w q T x.cs) : (Instr.loadAt 41 (.pointer (some ⟨q, 2, none⟩))).run Try.prog w = .ok (.agg #[.int .i64 x.o.k, .int .i64 x.o.s, .string x.o.v]) w :=
  run_loadAt_mid (P := Try.prog) w q 2 41 [.int .i64 x.o.k, .int .i64 x.o.s, .string x.o.v] _ (fun j v hv => by
    rw [h.cell]
    match j, hv with
    | 0, hv => exact hv
    | 1, hv => exact hv
    | 2, hv => exact hv
    | j + 3, hv => simp at hv) Try.underlying41 rfl info3o
theorem BB.ldR {w : World} {q : Nat} {T : TypeId} {x : Kl} (h : BB w q T x.cs) : (Instr.loadAt 43 (.pointer (some ⟨q, 7, none⟩))).run Try.prog w = .ok (.agg #[.int .i64 x.r.1, .int .i64 x.r.2.1, .string x.r.2.2]) w :=
  run_loadAt_mid (P := Try.prog) w q 7 43 [.int .i64 x.r.1, .int .i64 x.r.2.1, .string x.r.2.2] _ (fun j v hv => by
    rw [h.cell]
    match j, hv with
    | 0, hv => exact hv
    | 1, hv => exact hv
    | 2, hv => exact hv
    | j + 3, hv => simp at hv) Try.underlying43 rfl info3r
theorem ldEl {w : World} {q o : Nat} {l : List Kl} (h : LieY yK w q o l) {j : Nat} {x : Kl} (hx : l[j]? = some x) : (Instr.loadAt 45 (.pointer (some ⟨q, o + j * 10, none⟩))).run Try.prog w = .ok x.val w :=
  run_loadAt_mid (P := Try.prog) w q (o + j * 10) 45 x.cs _ (fun k v hv => h j x hx k v hv) Try.underlying45 rfl info10
theorem ixK (q o n c j : Nat) (hj : j < n) (w : World) : (Instr.indexAt 24 (.slice (some ⟨q, o, none⟩) n c) (.int .i64 (j : Int))).run Try.prog w = .ok (.pointer (some ⟨q, o + j * 10, none⟩)) w := by
  have h1 : (j : Int) < (n : Int) := by omega
  go_simp
theorem ixB8 (q j : Nat) (hj : j < 8) (w : World) : (Instr.indexAt 128 (.pointer (some ⟨q, 0, none⟩)) (.int .i64 (j : Int))).run Try.prog w = .ok (.pointer (some ⟨q, j, none⟩)) w := by
  have h1 : (j : Int) < 8 := by omega
  go_simp
theorem slB8 (q : Nat) (w : World) : (Instr.sliceAt 128 (.pointer (some ⟨q, 0, none⟩)) none none none).run Try.prog w = .ok (.slice (some ⟨q, 0, none⟩) 8 8) w := by go_simp
theorem alB8 (w : World) : (Instr.alloc 128 true (.tuple #[])).run Try.prog w = .ok (.pointer (some ⟨w.heap.size, 0, none⟩)) (w.alloc (.cells (D0.map Value.bool).toArray 128)) := by kernel_rfl
theorem BB.ldB {w : World} {q : Nat} {T : TypeId} {D : List Bool} (h : BB w q T (D.map Value.bool)) {j : Nat} (hj : j < D.length) : (Instr.loadAt 4 (.pointer (some ⟨q, j, none⟩))).run Try.prog w = .ok (.bool (at9 D j)) w :=
  ldBool (by rw [h.cell, List.getElem?_map, List.getElem?_eq_getElem hj]; simp [at9, List.getElem?_eq_getElem hj])
theorem BB.sl8 {w : World} {q : Nat} {T : TypeId} {D : List Bool} (h : BB w q T (D.map Value.bool)) (hD : D.length = 8) : SlY yT w (some ⟨q, 0, none⟩) D.length 8 D :=
  ⟨rfl, by omega, by unfold maxLen; omega, (fun e => by cases e), fun x hx => .inr ⟨q, 0, by cases hx; rfl, h.lt, fun i y hy j u hu => by
    have hj : j < 1 := (List.getElem?_eq_some_iff.1 hu).1
    obtain rfl : j = 0 := by omega
    rw [h.cell, List.getElem?_map]
    have : 0 + i * yT.k + 0 = i := by simp [yT]
    rw [this, hy]
    exact hu⟩⟩
theorem oneB (D : List Bool) : (D.map Value.bool).toArray.all (·.oneCell') = true := by
  rw [Array.all_eq_true_iff_forall_mem]
  intro u hu
  simp only [List.mem_toArray, List.mem_map] at hu
  obtain ⟨b, _, rfl⟩ := hu
  rfl
theorem OwnY.cut18 {B g n c : Nat} {w : World} {O : List Int} {x : Int} (h : OwnY yN B w (.slice (some ⟨g, 0, none⟩) n c) (O ++ [x])) : OwnY yN B w (.slice (some ⟨g, 0, none⟩) O.length c) O := by
  obtain ⟨h1, h2⟩ := h
  have hfl := fl_length kN O
  refine ⟨hfl, .inr ?_⟩
  rcases h2 with ⟨e, _⟩ | ⟨g', cap, cur, e1, e2, e3, e4, e5, e6, e7⟩
  · cases e
  · injection e1 with e1 e8 e9
    injection e1 with e1
    injection e1 with e1
    subst e1
    subst e9
    rw [List.length_append] at e4 e7
    refine ⟨g, c, cur, rfl, e2, e3, by simp at e4; omega, e5, e6, ?_⟩
    have h9 := congrArg (List.take (O.length * yN.k)) e7
    rw [List.take_take, Nat.min_eq_left (Nat.mul_le_mul_right _ (by simp)), fl_append, List.take_append_of_le_length (Nat.le_of_eq hfl.symm), List.take_of_length_le (Nat.le_of_eq hfl)] at h9
    exact h9
theorem ldSlK {w : World} {q : Nat} {a : Option Addr} {n c : Nat} (h : w.cell? ⟨q, 0, none⟩ = some (.slice a n c)) : (Instr.loadAt 24 (.pointer (some ⟨q, 0, none⟩))).run Try.prog w = .ok (.slice a n c) w := by go_simp
theorem ldSlN {w : World} {q : Nat} {a : Option Addr} {n c : Nat} (h : w.cell? ⟨q, 0, none⟩ = some (.slice a n c)) : (Instr.loadAt 35 (.pointer (some ⟨q, 0, none⟩))).run Try.prog w = .ok (.slice a n c) w := by go_simp
theorem ldMpK {w : World} {q : Nat} {m : Option Nat} (h : w.cell? ⟨q, 0, none⟩ = some (.map m)) : (Instr.loadAt 126 (.pointer (some ⟨q, 0, none⟩))).run Try.prog w = .ok (.map m) w := by go_simp
theorem ldFnK {w : World} {q : Nat} {f : Fn} {x y : Array Value} (h : w.cell? ⟨q, 0, none⟩ = some (.func f x y)) : (Instr.loadAt 127 (.pointer (some ⟨q, 0, none⟩))).run Try.prog w = .ok (.func f x y) w := by go_simp
theorem stSlN {w : World} {q : Nat} {u : Value} {a : Option Addr} {n c : Nat} (h : w.cell? ⟨q, 0, none⟩ = some u) (hf : w.frozen? ⟨q, 0, none⟩ = false) : (Instr.storeAt 35 (.pointer (some ⟨q, 0, none⟩)) (.slice a n c)).run Try.prog w = .ok () (w.setCell ⟨q, 0, none⟩ (.slice a n c)) := by go_simp
theorem stBo {w : World} {q j : Nat} {u : Value} {b : Bool} (h : w.cell? ⟨q, j, none⟩ = some u) (hf : w.frozen? ⟨q, j, none⟩ = false) : (Instr.storeAt 4 (.pointer (some ⟨q, j, none⟩)) (.bool b)).run Try.prog w = .ok () (w.setCell ⟨q, j, none⟩ (.bool b)) := by go_simp
theorem slToN (q o n c k : Nat) (h1 : k ≤ n) (h2 : k ≤ c) (w : World) : (Instr.sliceAt 35 (.slice (some ⟨q, o, none⟩) n c) none (some (.int .i64 (k : Int))) none).run Try.prog w = .ok (.slice (some ⟨q, o, none⟩) k c) w := by
  have h3 : (k : Int) ≤ (c : Int) := by omega
  go_simp
theorem ex_slT18 {o : Oper} {ρ : Operand → Value} {s : TypeId} {x y : Operand} {X Y V : Value} {w : World} (ho : o.op = .slice s x none (some y) none) (hx : ρ x = X) (hy : ρ y = Y) (hr : (Instr.sliceAt s X none (some Y) none).run Try.prog w = .ok V w) : (execOp ρ o).run Try.prog w = .ok (.value V) w := by
  unfold execOp
  simp only [ho, hx, hy, Sem.run_bind, Option.map_none, Option.map_some, hr, Result.andThen_ok]
  rfl
theorem ex_bs18 {o : Oper} {ρ : Operand → Value} {s : TypeId} {x : Operand} {X V : Value} {w w' : World} (ho : o.op = .buildSlice s 1 #[(0, x)]) (hx : ρ x = X) (hr : (Instr.buildSlice s 1 #[(0, X)]).run Try.prog w = .ok V w') : (execOp ρ o).run Try.prog w = .ok (.value V) w' := by
  unfold execOp
  simp only [ho, List.map_toArray, List.map_cons, List.map_nil, hx, Sem.run_bind, hr, Result.andThen_ok]
  rfl
theorem bsN (x : Int) (w : World) : (Instr.buildSlice 35 1 #[(0, .int .i64 x)]).run Try.prog w = .ok (.slice (some ⟨w.heap.size, 0, none⟩) 1 1) (w.alloc (.cells #[.int .i64 x] 3)) := by go_simp
theorem ex_app18 {o : Oper} {ρ : Operand → Value} {x y : Operand} {X Y V : Value} {s t : TypeId} {w w' : World} (ho : o.op = .call { callee := .builtin .append, args := #[x, y], argTypes := #[s, t] }) (hx : ρ x = X) (hy : ρ y = Y) (hr : (Builtin.append_ #[s, t] o.type #[X, Y]).run Try.prog w = .ok V w') : (execOp ρ o).run Try.prog w = .ok (.value V) w' := by
  unfold execOp
  simp only [ho, resolve, invoke, builtin, Sem.run_bind, Sem.run_pure, Result.andThen_ok, List.map_toArray, List.map_cons, List.map_nil, hx, hy, hr]
theorem neqR18 (x y : Operand) (r r' : Rs) (w : World) : (do eqGuard .neq 43 x y (.agg #[.int .i64 r.1, .int .i64 r.2.1, .string r.2.2]) (.agg #[.int .i64 r'.1, .int .i64 r'.2.1, .string r'.2.2]); binOp .neq 43 (.agg #[.int .i64 r.1, .int .i64 r.2.1, .string r.2.2]) (.agg #[.int .i64 r'.1, .int .i64 r'.2.1, .string r'.2.2]) : Sem Value).run Try.prog w = .ok (.bool (!decide (r = r'))) w := by
  have h := neq_res r r' w
  rw [Sem.run_bind]
  have e : (eqGuard .neq 43 x y (.agg #[.int .i64 r.1, .int .i64 r.2.1, .string r.2.2]) (.agg #[.int .i64 r'.1, .int .i64 r'.2.1, .string r'.2.2])).run Try.prog w = .ok () w := by go_simp
  rw [e, Result.andThen_ok]
  exact h
theorem add1C (x y : Operand) (j : Nat) (h : j < 9000000000000000000) (w : World) : (do eqGuard .add 3 x y (.int .i64 (j : Int)) (.int .i64 1); binOp .add 3 (.int .i64 (j : Int)) (.int .i64 1) : Sem Value).run Try.prog w = .ok (.int .i64 ((j + 1 : Nat) : Int)) w := by
  have hwr : IntKind.i64.wrap ((j : Int) + 1) = ((j + 1 : Nat) : Int) := by rw [IntKind.wrap_i64]; omega
  go_simp
theorem sub1C (x y : Operand) (j : Nat) (h : j < 9000000000000000000) (w : World) : (do eqGuard .sub 3 x y (.int .i64 ((j + 1 : Nat) : Int)) (.int .i64 1); binOp .sub 3 (.int .i64 ((j + 1 : Nat) : Int)) (.int .i64 1) : Sem Value).run Try.prog w = .ok (.int .i64 (j : Int)) w := by
  have hwr : IntKind.i64.wrap ((j + 1 : Nat) - 1 : Int) = (j : Int) := by rw [IntKind.wrap_i64]; omega
  have hwr2 : IntKind.i64.wrap (j : Int) = (j : Int) := by rw [IntKind.wrap_i64]; omega
  go_simp
theorem ex_mu18 {o : Oper} {T : Array Value} {df : List Deferred} {t : TypeId} {m x v : Operand} {M X Y : Value} {w w' : World} (ho : o.op = Op.mapUpdate t m x v) (hm : (⟨T, df⟩ : Act).eval m = M) (hx : (⟨T, df⟩ : Act).eval x = X) (hv : (⟨T, df⟩ : Act).eval v = Y) (hr : (Instr.mapUpdate t M X Y).run Try.prog w = .ok () w') : (execOp (⟨T, df⟩ : Act).eval o).run Try.prog w = .ok .skip w' := by
  unfold execOp
  simp only [ho, hm, hx, hv, Sem.run_bind, hr, Result.andThen_ok]
  rfl
end Go.Proofs.Yteamgkadhlbflaa
namespace Go.Proofs.Yteamgkadhlbflaa
open Go.RowKit Go.Maps
open Classical
/-! ### What the search keeps -/
def FV (lb vb ob sb : Nat) : Value := .func (.func 60) #[] #[.pointer (some ⟨lb, 0, none⟩), .pointer (some ⟨vb, 0, none⟩), .pointer (some ⟨ob, 0, none⟩), .pointer (some ⟨sb, 0, none⟩)]
def SS (ob mb : Nat) (v : Value) (k : Nat) : Prop := k = ob ∨ k = mb ∨ v.ownBlock = some k
structure ST (l : List Kl) (a : Option Addr) (c : Nat) (w0 : World) (lb vb ob sb mb : Nat) (w : World) (O : List Int) (v : Value) (n : Nat) (V : List Bool × List Cl → Option Value) : Prop where
  hl : SlY yK w0 a l.length c l
  bel : Below w0.heap.size w0 w
  c0 : w.cell? ⟨lb, 0, none⟩ = some (.slice a l.length c)
  c1 : w.cell? ⟨vb, 0, none⟩ = some (.map (some mb))
  c2 : w.cell? ⟨ob, 0, none⟩ = some v
  f2 : w.frozen? ⟨ob, 0, none⟩ = false
  c3 : w.cell? ⟨sb, 0, none⟩ = some (FV lb vb ob sb)
  mp : MapG zPt w mb n V
  vv : ∀ k u, V k = some u → u = .agg #[]
  own : OwnY yN w0.heap.size w v O
  dd : ∀ k, zPt.ok k → (V k).isSome = true → dead l k.1 k.2
  le : w0.heap.size ≤ ob ∧ w0.heap.size ≤ mb
  ne : lb ≠ ob ∧ vb ≠ ob ∧ sb ≠ ob
  ol : v.ownBlock ≠ some lb ∧ v.ownBlock ≠ some vb ∧ v.ownBlock ≠ some sb ∧ v.ownBlock ≠ some ob
section
variable {l : List Kl} {a : Option Addr} {c : Nat} {w0 : World} {lb vb ob sb mb : Nat} {w w' : World} {O : List Int} {v : Value} {n : Nat} {V : List Bool × List Cl → Option Value}
theorem ST.mne (h : ST l a c w0 lb vb ob sb mb w O v n V) {q j : Nat} {u : Value} (hq : w.cell? ⟨q, j, none⟩ = some u) : q ≠ mb := by
  rintro rfl
  obtain ⟨es, x, e⟩ := h.mp.isMap
  simp [World.cell?, e] at hq
theorem ST.upd {S : Nat → Prop} (h : ST l a c w0 lb vb ob sb mb w O v n V) (u : Upd S w w') (hS : ∀ k, S k → w0.heap.size ≤ k) (h1 : ¬ S lb) (h2 : ¬ S vb) (h3 : ¬ S ob) (h4 : ¬ S sb) (h5 : ¬ S mb) (h6 : ∀ k, v.ownBlock = some k → ¬ S k) : ST l a c w0 lb vb ob sb mb w' O v n V :=
  ⟨h.hl, h.bel.trans (u.below h.bel.size hS), (u.cell (p := ⟨lb, 0, none⟩) (World.block_lt_of_cell? _ _ h.c0) h1).trans h.c0, (u.cell (p := ⟨vb, 0, none⟩) (World.block_lt_of_cell? _ _ h.c1) h2).trans h.c1, (u.cell (p := ⟨ob, 0, none⟩) (World.block_lt_of_cell? _ _ h.c2) h3).trans h.c2, (u.frozen (p := ⟨ob, 0, none⟩) (World.block_lt_of_cell? _ _ h.c2) h3).trans h.f2, (u.cell (p := ⟨sb, 0, none⟩) (World.block_lt_of_cell? _ _ h.c3) h4).trans h.c3, h.mp.upd u h5, h.vv, h.own.upd1 u h6, h.dd, h.le, h.ne, h.ol⟩
theorem ST.later (h : ST l a c w0 lb vb ob sb mb w O v n V) (hb : Below w.heap.size w w') : ST l a c w0 lb vb ob sb mb w' O v n V := h.upd (S := fun _ => False) (Upd.of_below hb) (fun _ h => h.elim) id id id id id (fun _ _ => id)
theorem ST.sl (h : ST l a c w0 lb vb ob sb mb w O v n V) : SlY yK w a l.length c l := h.hl.on h.bel (Nat.le_refl _)
theorem ST.lts (h : ST l a c w0 lb vb ob sb mb w O v n V) : lb < w.heap.size ∧ vb < w.heap.size ∧ ob < w.heap.size ∧ sb < w.heap.size ∧ mb < w.heap.size ∧ ∀ k, v.ownBlock = some k → k < w.heap.size :=
  ⟨World.block_lt_of_cell? _ _ h.c0, World.block_lt_of_cell? _ _ h.c1, World.block_lt_of_cell? _ _ h.c2, World.block_lt_of_cell? _ _ h.c3, h.mp.lt, fun k hk => (h.own.blk k hk).2⟩
theorem ST.ss_lt (h : ST l a c w0 lb vb ob sb mb w O v n V) {k : Nat} (hk : SS ob mb v k) : k < w.heap.size := by
  obtain ⟨_, _, h3, _, h5, h6⟩ := h.lts
  rcases hk with rfl | rfl | hk
  · exact h3
  · exact h5
  · exact h6 k hk
end
theorem Upd.trans18 {S T : Nat → Prop} {w w1 w2 : World} (h : Upd S w w1) (k : Upd T w1 w2) (hs : ∀ i, i < w.heap.size → T i → S i) : Upd S w w2 :=
  ⟨k.os.trans h.os, k.tape.trans h.tape, k.output.trans h.output, Nat.le_trans h.size k.size, fun i hi hn => (k.block i (Nat.lt_of_lt_of_le hi h.size) (fun ht => hn (hs i hi ht))).trans (h.block i hi hn)⟩
def SP (l : List Kl) (a : Option Addr) (c : Nat) (w0 : World) (lb vb ob sb mb : Nat) (s : Option (List Nat)) (k : Nat) (O : List Int) (v : Value) (n : Nat) (w w' : World) : Prop :=
  ∃ v' n' V', ST l a c w0 lb vb ob sb mb w' (O ++ (s.getD []).map (fun (i : Nat) => (i : Int))) v' n' V' ∧ n' ≤ n + 9 ^ k ∧ Upd (SS ob mb v) w w' ∧ (v'.ownBlock = v.ownBlock ∨ ∃ g, v'.ownBlock = some g ∧ w.heap.size ≤ g)
def SC (l : List Kl) (a : Option Addr) (c : Nat) (w0 : World) (lb vb ob sb mb k : Nat) : Prop :=
  ∀ (D : List Bool) (L : List Cl) (b : Nat) (m : Option Nat) (O : List Int) (v : Value) (n : Nat) (V : List Bool × List Cl → Option Value) (w : World), D.length = 8 → cU D l.length ≤ k → L.length + k ≤ 8 → O.length + k ≤ 8 → n + 9 ^ k ≤ 9 ^ 9 → Led w b m L → ST l a c w0 lb vb ob sb mb w O v n V → b ≠ ob → v.ownBlock ≠ some b → m ≠ some mb →
    Calls Try.prog 60 #[.agg (D.map Value.bool).toArray, .pointer (some ⟨b, 0, none⟩), .pointer (some ⟨lb, 0, none⟩), .pointer (some ⟨vb, 0, none⟩), .pointer (some ⟨ob, 0, none⟩), .pointer (some ⟨sb, 0, none⟩)] w fun e w' => e = .returned (.bool (srK l k D L).isSome) ∧ SP l a c w0 lb vb ob sb mb (srK l k D L) k O v n w w'
theorem pow9 (k : Nat) : 1 ≤ 9 ^ k := Nat.one_le_pow _ _ (by omega)
theorem SP.none_ {l : List Kl} {a : Option Addr} {c : Nat} {w0 : World} {lb vb ob sb mb k : Nat} {O : List Int} {v : Value} {n : Nat} {V : List Bool × List Cl → Option Value} {w w' : World} {s : Option (List Nat)} (h : ST l a c w0 lb vb ob sb mb w O v n V) (hb : Below w.heap.size w w') (hs : s.getD [] = []) : SP l a c w0 lb vb ob sb mb s k O v n w w' :=
  ⟨v, n, V, by rw [hs]; simpa using h.later hb, Nat.le_add_right _ _, Upd.of_below hb, .inl rfl⟩
end Go.Proofs.Yteamgkadhlbflaa
namespace Go.Proofs.Yteamgkadhlbflaa
open Go.RowKit Go.Maps
open Classical
open Classical in
theorem MapG.store {κ : Type} {Z : KeyT κ} (K : Z.Ok) {w : World} {b n : Nat} {f : κ → Option Value} (h : MapG Z w b n f) (hn : n < maxLen) {t e : TypeId} (ht : Try.prog.underlying t = some (.map Z.T e)) (k : κ) (hk : Z.ok k) (val : Value) :
    ∃ w' g, (Instr.mapUpdate t (.map (some b)) (Z.enc k) val).run Try.prog w = .ok () w' ∧ g k = some val ∧ (∀ k', k' ≠ k → g k' = f k') ∧ MapG Z w' b (n + 1) g ∧ w.grownBy w' (some b) := by
  obtain ⟨D, h1, h2⟩ := h
  obtain ⟨y, hy, hyk⟩ := K.has k hk
  obtain ⟨w', hr, h3, h4⟩ := h1.store K.keyed ht hn hy (show RV val = some (.held val, []) from rfl)
  refine ⟨w', fun k' => if k' = k then some val else f k', hr, if_pos rfl, fun k' h => if_neg h, ⟨_, h3, fun k' z x' hk' hx' => ?_⟩, World.mapTurned.grown h4⟩
  by_cases e : k' = k
  · subst e
    rw [hy] at hx'
    cases hx'
    rw [Maps.atKey_put_same h1.isMap hyk]
    simp
  · have hne : x' ≠ y := fun h => e (K.inj k' k y hk' hk (h ▸ hx') hy)
    rw [Maps.atKey_put_other hne, h2 k' z x' hk' hx']
    simp [e]
theorem ltT (x y : Operand) {i n : Nat} (h : i < n) (w : World) : (do eqGuard .lss 3 x y (.int .i64 (i : Int)) (.int .i64 (n : Int)); binOp .lss 3 (.int .i64 (i : Int)) (.int .i64 (n : Int)) : Sem Value).run Try.prog w = .ok (.bool true) w := by
  have h1 : decide ((i : Int) < (n : Int)) = true := decide_eq_true (by omega)
  rw [lssC, h1]
theorem ltF (x y : Operand) {i n : Nat} (h : ¬ i < n) (w : World) : (do eqGuard .lss 3 x y (.int .i64 (i : Int)) (.int .i64 (n : Int)); binOp .lss 3 (.int .i64 (i : Int)) (.int .i64 (n : Int)) : Sem Value).run Try.prog w = .ok (.bool false) w := by
  have h1 : decide ((i : Int) < (n : Int)) = false := decide_eq_false (by omega)
  rw [lssC, h1]
theorem late_of {l : List Kl} {D : List Bool} {x : Kl} {j : Nat} (hj : j ≤ l.length) (h : laI l D x j = true) : lateK l D x = true := by
  unfold laI at h
  unfold lateK laI
  rw [List.any_eq_true] at h ⊢
  obtain ⟨i, hi, h⟩ := h
  exact ⟨i, List.mem_range.2 (by have := List.mem_range.1 hi; omega), h⟩
section
variable {l : List Kl} {a : Option Addr} {c : Nat} {w0 : World} {lb vb ob sb mb : Nat} {w w' : World} {O : List Int} {v : Value} {n : Nat} {V : List Bool × List Cl → Option Value}
theorem ST.push (h : ST l a c w0 lb vb ob sb mb w O v n V) {v' : Value} {O' : List Int} (hg : w.grownBy w' v.ownBlock) (ho : OwnY yN w0.heap.size w' v' O') (hv : v'.ownBlock = v.ownBlock ∨ ∃ g, v'.ownBlock = some g ∧ w.heap.size ≤ g) :
    ST l a c w0 lb vb ob sb mb (w'.setCell ⟨ob, 0, none⟩ v') O' v' n V ∧ Upd (fun k => k = ob ∨ v.ownBlock = some k) w (w'.setCell ⟨ob, 0, none⟩ v') := by
  obtain ⟨l1, l2, l3, l4, l5, l6⟩ := h.lts
  obtain ⟨o1, o2, o3, o4⟩ := h.ol
  obtain ⟨n1, n2, n3⟩ := h.ne
  have u1 : Upd (fun k => k = ob ∨ v.ownBlock = some k) w w' := (Upd.refl _ w).grownBy hg (fun k e _ => .inr e)
  have u : Upd (fun k => k = ob ∨ v.ownBlock = some k) w (w'.setCell ⟨ob, 0, none⟩ v') := u1.setCell (p := ⟨ob, 0, none⟩) (.inl (.inl rfl)) _
  have hmo : mb ≠ ob := fun e => h.mne h.c2 e.symm
  have hmv : v.ownBlock ≠ some mb := fun e => by
    obtain ⟨es, x, e2⟩ := h.mp.isMap
    exact h.own.not_map e es x e2
  have nv : ∀ q, q < w.heap.size → v.ownBlock ≠ some q → v'.ownBlock ≠ some q := fun q hq hn e => by
    rcases hv with hv | ⟨g, hv, hg2⟩
    · exact hn (hv ▸ e)
    · rw [hv] at e; cases e; omega
  have hb : Below w0.heap.size w (w'.setCell ⟨ob, 0, none⟩ v') := u.below h.bel.size (fun k hk => by
    rcases hk with rfl | hk
    · exact h.le.1
    · exact (h.own.blk k hk).1)
  have c2' : w'.cell? ⟨ob, 0, none⟩ = some v := (World.cell?_of_block (a := ⟨ob, 0, none⟩) (hg.block ob l3 (fun e => o4 e.symm))).trans h.c2
  refine ⟨⟨h.hl, h.bel.trans hb, (u.cell (p := ⟨lb, 0, none⟩) l1 (by rintro (e | e); exact n1 e; exact o1 e)).trans h.c0, (u.cell (p := ⟨vb, 0, none⟩) l2 (by rintro (e | e); exact n2 e; exact o2 e)).trans h.c1, ?_, ?_, (u.cell (p := ⟨sb, 0, none⟩) l4 (by rintro (e | e); exact n3 e; exact o3 e)).trans h.c3, h.mp.upd u (by rintro (e | e); exact hmo e; exact hmv e), h.vv, ?_, h.dd, h.le, h.ne, nv lb l1 o1, nv vb l2 o2, nv sb l4 o3, nv ob l3 o4⟩, u⟩
  · simp [World.cell?_setCell_same, c2']
  · have : w'.frozen? ⟨ob, 0, none⟩ = false := (World.frozen?_of_block (a := ⟨ob, 0, none⟩) (hg.block ob l3 (fun e => o4 e.symm))).trans h.f2
    simpa using this
  · exact ho.upd1 (S := fun k => k = ob) ((Upd.refl (fun k => k = ob) w').setCell (p := ⟨ob, 0, none⟩) (.inl rfl) _) (fun g hg2 e => nv ob l3 o4 (e ▸ hg2))
theorem ST.put (h : ST l a c w0 lb vb ob sb mb w O v n V) {V' : List Bool × List Cl → Option Value} {D : List Bool} {L : List Cl} (hd : dead l D L) (h0 : V' (D, L) = some (.agg #[])) (h1 : ∀ k, k ≠ (D, L) → V' k = V k) (hm : MapG zPt w' mb (n + 1) V') (hg : w.grownBy w' (some mb)) :
    ST l a c w0 lb vb ob sb mb w' O v (n + 1) V' ∧ Upd (fun k => k = mb) w w' := by
  obtain ⟨l1, l2, l3, l4, l5, l6⟩ := h.lts
  have u : Upd (fun k => k = mb) w w' := (Upd.refl _ w).grownBy hg (fun k e _ => (Option.some.inj e).symm)
  have hmv : v.ownBlock ≠ some mb := fun e => by
    obtain ⟨es, x, e2⟩ := h.mp.isMap
    exact h.own.not_map e es x e2
  refine ⟨⟨h.hl, h.bel.trans (u.below h.bel.size (fun k hk => hk ▸ h.le.2)), (u.cell (p := ⟨lb, 0, none⟩) l1 (h.mne h.c0)).trans h.c0, (u.cell (p := ⟨vb, 0, none⟩) l2 (h.mne h.c1)).trans h.c1, (u.cell (p := ⟨ob, 0, none⟩) l3 (h.mne h.c2)).trans h.c2, (u.frozen (p := ⟨ob, 0, none⟩) l3 (h.mne h.c2)).trans h.f2, (u.cell (p := ⟨sb, 0, none⟩) l4 (h.mne h.c3)).trans h.c3, hm, fun k x hx => ?_, h.own.upd1 u (fun g hg2 e => hmv (e ▸ hg2)), fun k hk hx => ?_, h.le, h.ne, h.ol⟩, u⟩
  · by_cases e : k = (D, L)
    · rw [e, h0] at hx; cases hx; rfl
    · rw [h1 k e] at hx; exact h.vv k x hx
  · by_cases e : k = (D, L)
    · rw [e]; exact hd
    · rw [h1 k e] at hx; exact h.dd k hk hx
end
end Go.Proofs.Yteamgkadhlbflaa
