import Derived.Test.YtomiifnhcojilaaVg
import Derived.Test.YtomiifnhcojilaaVr
import Derived.Deep.MidRow
import Derived.RangeFuncRecord
import Derived.Laws.IdiomCopy
namespace Go.Proofs.Ytomiifnhcojilaa
open Go.RowKit Go.Maps
open Classical
set_option linter.unusedVariables false
set_option linter.unusedSimpArgs false

theorem SlY.on {α : Type} {Y : Lay α} {w w' : World} {a : Option Addr} {n c B : Nat} {l : List α} (h : SlY Y w a n c l) (hb : Below B w w') (hB : w.heap.size ≤ B) : SlY Y w' a n c l := h.bel hb hB
theorem retB18 {a b : Bool} (h : a = b) : Ending.returned (.bool a) = .returned (.bool b) := by rw [h]
theorem v_cut18 {c : Code} {Q : Exit → Act → World → Prop} {T : Array Value} {w : World} (J : Array Value → World → Prop) (h : c.wp Try.prog (Exit.then (fun a w' => ∃ T', a = ⟨T', []⟩ ∧ J T' w') Q) ⟨T, []⟩ w) (hk : ∀ T' w', J T' w' → Q .normal ⟨T', []⟩ w') : c.wp Try.prog Q ⟨T, []⟩ w := by
  refine Code.wp_mono (fun e a' w' h => ?_) h
  cases e with
  | normal =>
    obtain ⟨T', rfl, hJ⟩ := h
    exact hk T' w' hJ
  | _ => exact h
theorem vh_val18 {ops : Array Oper} {o : Oper} {T : Array Value} {df : List Deferred} {w : World} {Q : Exit → Act → World → Prop} {S : World → Prop} {fuel d n : Nat} {listed : Array Bool} (i : Nat) (V : Value) (w' : World) (hi : ops[i]? = some o) (hr : Region.ready .any ops listed = [i])
    (hw : Region.wanted o (yielded ops T) = true) (he : (execOp (⟨T, df⟩ : Act).eval o).run Try.prog w = .ok (.value V) w') (hd : o.dst = some d) (hz : T.size = n) (hn : d < n) (hS : S w')
    (hk : ∀ T' : Array Value, T'.size = n → (∀ j, j ≠ d → T'[j]? = T[j]?) → T'[d]? = some (gw true V) → VH ops Q S fuel (listed.setIfInBounds i true) ⟨T', df⟩ w') : VH ops Q S (fuel + 1) listed ⟨T, df⟩ w := by
  refine ⟨wpAnyH_all hr (by simp) (fun j hj => ?_)⟩
  obtain rfl : j = i := by simpa using hj
  unfold wpOp
  rw [hi]
  simp only [hw, if_true]
  refine .inl ?_
  unfold Oper.wp
  rw [he, Oper.upon_value]
  refine ⟨hS, ?_⟩
  rw [hd]
  exact (hk (T.setIfInBounds d V) (by simp [hz]) (fun i hi => at_set_ne _ hi) (at_set _ (by omega))).out
theorem vh_store18 {ops : Array Oper} {o : Oper} {T : Array Value} {df : List Deferred} {w : World} {Q : Exit → Act → World → Prop} {S : World → Prop} {fuel : Nat} {listed : Array Bool} (i : Nat) (w' : World) (hi : ops[i]? = some o) (hr : Region.ready .any ops listed = [i])
    (hw : Region.wanted o (yielded ops T) = true) (he : (execOp (⟨T, df⟩ : Act).eval o).run Try.prog w = .ok .skip w') (hd : o.dst = none) (hS : S w')
    (hk : VH ops Q S fuel (listed.setIfInBounds i true) ⟨T, df⟩ w') : VH ops Q S (fuel + 1) listed ⟨T, df⟩ w := by
  refine ⟨wpAnyH_all hr (by simp) (fun j hj => ?_)⟩
  obtain rfl : j = i := by simpa using hj
  unfold wpOp
  rw [hi]
  simp only [hw, if_true]
  refine .inl ?_
  unfold Oper.wp
  rw [he, Oper.upon_skip]
  refine ⟨hS, ?_⟩
  rw [hd]
  exact hk.out
/-- A call and what makes memory, in either order. -/
theorem vh_two18 {ops : Array Oper} {o o2 : Oper} {T : Array Value} {df : List Deferred} {w : World} {Q : Exit → Act → World → Prop} {S : World → Prop} {fuel d d2 n : Nat} {listed : Array Bool} (i j : Nat) {fid : FuncId} {args : Array Value} {R : Ending → World → Prop} (hr : Region.ready .any ops listed = [i, j]) (hi : ops[i]? = some o) (hj : ops[j]? = some o2)
    (hw : Region.wanted o (yielded ops T) = true) (he : (execOp (⟨T, df⟩ : Act).eval o).run Try.prog w = .ok (.enter fid args) w) (hc : Calls Try.prog fid args w R) (hd : o.dst = some d) (hz : T.size = n) (hn : d < n)
    (hk : ∀ (e : Ending) (w' : World), R e w' → ∃ V, e = .returned V ∧ S w' ∧ ∀ T' : Array Value, T'.size = n → (∀ j, j ≠ d → T'[j]? = T[j]?) → T'[d]? = some (gw true V) → VH ops Q S fuel (listed.setIfInBounds i true) ⟨T', df⟩ w')
    (V : Value) (w2 : World) (hw2 : Region.wanted o2 (yielded ops T) = true) (he2 : (execOp (⟨T, df⟩ : Act).eval o2).run Try.prog w = .ok (.value V) w2) (hd2 : o2.dst = some d2) (hn2 : d2 < n) (hS2 : S w2)
    (hk2 : ∀ T' : Array Value, T'.size = n → (∀ j, j ≠ d2 → T'[j]? = T[j]?) → T'[d2]? = some (gw true V) → VH ops Q S fuel (listed.setIfInBounds j true) ⟨T', df⟩ w2) : VH ops Q S (fuel + 1) listed ⟨T, df⟩ w := by
  refine ⟨wpAnyH_all hr (by simp) (fun k hkm => ?_)⟩
  have hkm : k = i ∨ k = j := by simpa using hkm
  rcases hkm with rfl | rfl
  · unfold wpOp
    rw [hi]
    simp only [hw, if_true]
    refine .inl ?_
    unfold Oper.wp
    rw [he, Oper.upon_enter]
    refine hc.mono ?_
    intro e w' hR
    obtain ⟨V, rfl, hS, hk'⟩ := hk e w' hR
    refine ⟨hS, ?_⟩
    rw [hd]
    exact (hk' (T.setIfInBounds d V) (by simp [hz]) (fun i hi => at_set_ne _ hi) (at_set _ (by omega))).out
  · unfold wpOp
    rw [hj]
    simp only [hw2, if_true]
    refine .inl ?_
    unfold Oper.wp
    rw [he2, Oper.upon_value]
    refine ⟨hS2, ?_⟩
    rw [hd2]
    exact (hk2 (T.setIfInBounds d2 V) (by simp [hz]) (fun i hi => at_set_ne _ hi) (at_set _ (by omega))).out
theorem ex_box18 {o : Oper} {ρ : Operand → Value} {s : TypeId} {x : Operand} {X V : Value} {w w' : World} (ho : o.op = .box s x) (hx : ρ x = X) (hr : (Instr.box s X).run Try.prog w = .ok V w') : (execOp ρ o).run Try.prog w = .ok (.value V) w' := by
  unfold execOp
  simp only [ho, hx, Sem.run_bind, hr, Result.andThen_ok]
  rfl
theorem ex_buildP18 {o : Oper} {ρ : Operand → Value} {s : TypeId} {ps : Array (Nat × Operand)} {P : Array (Nat × Value)} {V : Value} {w : World} (ho : o.op = .build s ps) (hp : ps.map (fun (i, x) => (i, ρ x)) = P) (hr : (Instr.build s P).run Try.prog w = .ok V w) : (execOp ρ o).run Try.prog w = .ok (.value V) w := by
  unfold execOp
  simp only [ho, hp, Sem.run_bind, hr, Result.andThen_ok]
  rfl
theorem ex_sl18 {o : Oper} {ρ : Operand → Value} {s : TypeId} {x : Operand} {X V : Value} {w : World} (ho : o.op = .slice s x none none none) (hx : ρ x = X) (hr : (Instr.sliceAt s X none none none).run Try.prog w = .ok V w) : (execOp ρ o).run Try.prog w = .ok (.value V) w := by
  unfold execOp
  simp only [ho, hx, Sem.run_bind, Option.map_none, hr, Result.andThen_ok]
  rfl
theorem ex_copy18 {o : Oper} {ρ : Operand → Value} {x y : Operand} {X Y V : Value} {s t : TypeId} {w w' : World} (ho : o.op = .call { callee := .builtin .copy, args := #[x, y], argTypes := #[s, t] }) (hx : ρ x = X) (hy : ρ y = Y) (hr : (Builtin.copy_ #[s, t] o.type #[X, Y]).run Try.prog w = .ok V w') : (execOp ρ o).run Try.prog w = .ok (.value V) w' := by
  unfold execOp
  simp only [ho, resolve, invoke, builtin, Sem.run_bind, Sem.run_pure, Result.andThen_ok, List.map_toArray, List.map_cons, List.map_nil, hx, hy, hr]
/-- A block with just these cells. -/
def BB (w : World) (q : Nat) (T : TypeId) (cs : List Value) : Prop := w.heap[q]? = some (.cells cs.toArray T (0, 0))
theorem BB.lt {w : World} {q : Nat} {T : TypeId} {cs : List Value} (h : BB w q T cs) : q < w.heap.size := (Array.getElem?_eq_some_iff.1 h).1
theorem BB.new (w : World) (T : TypeId) (cs : List Value) : BB (w.alloc (.cells cs.toArray T)) w.heap.size T cs := World.alloc_heap_new _ _
theorem BB.upd {S : Nat → Prop} {w w' : World} {q : Nat} {T : TypeId} {cs : List Value} (h : BB w q T cs) (u : Upd S w w') (hs : ¬ S q) : BB w' q T cs := (u.block q h.lt hs).trans h
theorem BB.later {w w' : World} {q : Nat} {T : TypeId} {cs : List Value} (h : BB w q T cs) (hb : Below w.heap.size w w') : BB w' q T cs := (hb.block q h.lt).trans h
theorem BB.cell {w : World} {q : Nat} {T : TypeId} {cs : List Value} (h : BB w q T cs) (i : Nat) : w.cell? ⟨q, i, none⟩ = cs[i]? := by
  unfold BB at h
  unfold World.cell?
  simp [h]
theorem BB.free {w : World} {q : Nat} {T : TypeId} {cs : List Value} (h : BB w q T cs) (i : Nat) : w.frozen? ⟨q, i, none⟩ = false := by
  unfold BB at h
  unfold World.frozen?
  simp [h]
theorem BB.ld {w : World} {q : Nat} {T : TypeId} {cs : List Value} (h : BB w q T cs) (ty : TypeId) {d : TypeDesc} (hu : Try.prog.underlying ty = some d) (hd : d.isRow = true) (hi : (Try.prog.info? ty).map (·.size) = some cs.length) : (Instr.loadAt ty (.pointer (some ⟨q, 0, none⟩))).run Try.prog w = .ok (.agg cs.toArray) w :=
  run_loadAt_mid (P := Try.prog) w q 0 ty cs d (fun j v hv => by rw [Nat.zero_add, h.cell]; exact hv) hu hd hi
theorem BB.set1 {w : World} {q : Nat} {T : TypeId} {cs : List Value} (h : BB w q T cs) (j : Nat) (u : Value) : BB (w.setCell ⟨q, j, none⟩ u) q T (cs.set j u) := by
  have hlt := h.lt
  unfold BB at *
  unfold World.setCell
  have e : w.heap[q] = .cells cs.toArray T (0, 0) := (Array.getElem?_eq_some_iff.1 h).2
  rw [Array.getElem?_eq_getElem (by simpa using hlt), Array.getElem_modify_self, e]
  simp
theorem BB.sets {q : Nat} {T : TypeId} : ∀ (vs : List Value) (o : Nat) (w : World) (cs : List Value), BB w q T cs → ∃ cs', BB (w.setCells q o vs) q T cs' ∧ cs'.length = cs.length
  | [], o, w, cs, h => ⟨cs, h, rfl⟩
  | v :: r, o, w, cs, h => by
    obtain ⟨cs', h1, h2⟩ := BB.sets r (o + 1) _ _ (h.set1 o v)
    exact ⟨cs', h1, by rw [h2, List.length_set]⟩
theorem BB.whole {w : World} {q : Nat} {T : TypeId} {cs : List Value} (h : BB w q T cs) (vs : List Value) (hl : vs.length = cs.length) : BB (w.setCells q 0 vs) q T vs := by
  obtain ⟨cs', h1, h2⟩ := BB.sets vs 0 w cs h
  have : cs' = vs := by
    apply List.ext_getElem (by omega)
    intro i hi hi2
    have h3 := World.cell?_setCells_in q vs 0 w (fun j hj => by rw [Nat.zero_add, h.cell, List.getElem?_eq_getElem (by omega)]; rfl) i hi2
    rw [Nat.zero_add, h1.cell, List.getElem?_eq_getElem hi] at h3
    exact Option.some.inj h3
  rw [← this]
  exact this ▸ h1
theorem upd18 (q : Nat) : ∀ (vs : List Value) (o : Nat) (w : World), Upd (fun k => k = q) w (w.setCells q o vs)
  | [], o, w => Upd.refl _ _
  | v :: r, o, w => ((Upd.refl (fun k => k = q) w).setCell (p := ⟨q, o, none⟩) (.inl rfl) v).trans (upd18 q r (o + 1) _)
theorem BB.st {w : World} {q : Nat} {T : TypeId} {cs : List Value} (h : BB w q T cs) (ty : TypeId) (vs : List Value) (hl : vs.length = cs.length) (hi : (Try.prog.info? ty).map (·.size) = some vs.toArray.size) (h1 : vs.toArray.all (·.oneCell') = true) : (Instr.storeAt ty (.pointer (some ⟨q, 0, none⟩)) (.agg vs.toArray)).run Try.prog w = .ok () (w.setCells q 0 vs) := by
  have := run_storeAt_mid (P := Try.prog) w q 0 ty vs.toArray (fun j hj => ⟨by rw [Nat.zero_add, h.cell, List.getElem?_eq_getElem (show j < cs.length by simpa [hl] using hj)]; rfl, by rw [Nat.zero_add]; exact h.free j⟩) hi h1
  exact this
theorem BB.res {w : World} {q : Nat} {Ty : TypeId} {cs : List Value} (h : BB w q Ty cs) {fn : Func} {i : Tmp} {ty : TypeId} {T : Array Value} {R : Ending → World → Prop} (hf : fn.results = #[.cell i ty]) (hq : T[i]? = some (gw true (.pointer (some ⟨q, 0, none⟩)))) {d : TypeDesc} (hu : Try.prog.underlying ty = some d) (hd : d.isRow = true) (hi : (Try.prog.info? ty).map (·.size) = some cs.length) (hR : R (.returned (.agg cs.toArray)) w) : bodyPost Try.prog fn R .ret ⟨T, []⟩ w := by
  refine bodyPost_ret (v := .agg cs.toArray) ?_ rfl hR
  have := run_loadVar_mid (P := Try.prog) w q 0 ty cs _ (fun j v hv => by rw [Nat.zero_add, h.cell]; exact hv) hu hd hi
  have hq' : T.getD i undef = .pointer (some ⟨q, 0, none⟩) := getD_of hq
  simp only [results, hf]
  simp only [Array.getD_eq_getD_getElem?] at hq'
  simp [Sem.run_bind, Result.andThen, hq', asAddr, this]

theorem vq_call18 {ops : Array Oper} {rest : List Oper} {o : Oper} {T : Array Value} {df : List Deferred} {C : World → Prop} {Q : Act → Prop} {d n : Nat} (c : Bool) (V : Value) {fid : FuncId} {args : Array Value} (hw : Region.wanted o (yielded ops T) = c) (he : c = true → ∀ v, C v → (execOp (⟨T, df⟩ : Act).eval o).run Try.prog v = .ok (.enter fid args) v)
    (hc : c = true → ∀ v, C v → Calls Try.prog fid args v fun e w' => e = .returned V ∧ C w') (hd : o.dst = some d) (hz : T.size = n) (hn : d < n)
    (hk : ∀ T' : Array Value, T'.size = n → (∀ i, i ≠ d → T'[i]? = T[i]?) → T'[d]? = some (gw c V) → VJ ops C Q rest ⟨T', df⟩) : VJ ops C Q (o :: rest) ⟨T, df⟩ := by
  cases c with
  | false =>
    refine ⟨BigFrame.wpQuiet_skip hw ?_⟩
    rw [hd]
    exact (hk (T.setIfInBounds d undef) (by simp [hz]) (fun i hi => at_set_ne _ hi) (at_set _ (by omega))).out
  | true =>
    refine ⟨BigFrame.wpQuiet_want hw (fun K hK => ⟨V, fun v hv => by unfold Oper.quietAt; rw [he rfl v hv]; exact ⟨rfl, hc rfl v hv⟩, hK _ ?_⟩)⟩
    rw [hd]
    exact (hk (T.setIfInBounds d V) (by simp [hz]) (fun i hi => at_set_ne _ hi) (at_set _ (by omega))).out
theorem bel18 {w v : World} {B : Nat} {f : FuncId} {args : Array Value} {V : Value} (hv : Below B w v) (h : Calls Try.prog f args v fun e w' => e = .returned V ∧ Below v.heap.size v w') (hB : B ≤ v.heap.size) : Calls Try.prog f args v fun e w' => e = .returned V ∧ Below B w w' :=
  h.mono fun e w' ⟨h1, h2⟩ => ⟨h1, hv.trans (h2.mono hB)⟩
theorem ex_ext18 {o : Oper} {ρ : Operand → Value} {x : Operand} {i : Nat} {X V : Value} {w : World} (ho : o.op = .extract x i) (hx : ρ x = X) (hr : (Instr.extract X i).run Try.prog w = .ok V w) : (execOp ρ o).run Try.prog w = .ok (.value V) w := by
  unfold execOp
  simp only [ho, hx]
  simp [hr]
set_option maxRecDepth 100000 in
/-- A call that is made through a function's value. -/
theorem ex_callV18 {o : Oper} {T : Array Value} {df : List Deferred} {fid : FuncId} {x : Operand} {xs : Array Operand} {ts : Array TypeId} {cap args : Array Value} {w : World} (ho : o.op = .call { callee := .value x, args := xs, argTypes := ts }) (hx : (⟨T, df⟩ : Act).eval x = .func (.func fid) #[] cap) (ha : xs.map (⟨T, df⟩ : Act).eval ++ cap = args) (hr : (callFunc fid args).run Try.prog w = .ok (.enter fid args) w) : (execOp (⟨T, df⟩ : Act).eval o).run Try.prog w = .ok (.enter fid args) w := by
  unfold execOp
  simp only [ho, resolve, hx]
  subst ha
  simp only [Deferred.ofValue, Array.empty_append, Sem.run_bind, Sem.run_pure, Result.andThen_ok, invoke]
  exact hr
theorem bel_ge {B N : Nat} {w w' : World} (u : Upd (fun k => k = N) w w') (hB : B ≤ w.heap.size) (hN : B ≤ N) : Below B w w' := u.below hB (fun k hk => by omega)
theorem ex_slT18 {o : Oper} {ρ : Operand → Value} {s : TypeId} {x y : Operand} {X Y V : Value} {w : World} (ho : o.op = .slice s x none (some y) none) (hx : ρ x = X) (hy : ρ y = Y) (hr : (Instr.sliceAt s X none (some Y) none).run Try.prog w = .ok V w) : (execOp ρ o).run Try.prog w = .ok (.value V) w := by
  unfold execOp
  simp only [ho, hx, hy, Sem.run_bind, Option.map_none, Option.map_some, hr, Result.andThen_ok]
  rfl
theorem ex_bs18 {o : Oper} {ρ : Operand → Value} {s : TypeId} {x : Operand} {X V : Value} {w w' : World} (ho : o.op = .buildSlice s 1 #[(0, x)]) (hx : ρ x = X) (hr : (Instr.buildSlice s 1 #[(0, X)]).run Try.prog w = .ok V w') : (execOp ρ o).run Try.prog w = .ok (.value V) w' := by
  unfold execOp
  simp only [ho, List.map_toArray, List.map_cons, List.map_nil, hx, Sem.run_bind, hr, Result.andThen_ok]
  rfl
theorem ex_app18 {o : Oper} {ρ : Operand → Value} {x y : Operand} {X Y V : Value} {s t : TypeId} {w w' : World} (ho : o.op = .call { callee := .builtin .append, args := #[x, y], argTypes := #[s, t] }) (hx : ρ x = X) (hy : ρ y = Y) (hr : (Builtin.append_ #[s, t] o.type #[X, Y]).run Try.prog w = .ok V w') : (execOp ρ o).run Try.prog w = .ok (.value V) w' := by
  unfold execOp
  simp only [ho, resolve, invoke, builtin, Sem.run_bind, Sem.run_pure, Result.andThen_ok, List.map_toArray, List.map_cons, List.map_nil, hx, hy, hr]
theorem add1C (x y : Operand) (j : Nat) (h : j < 9000000000000000000) (w : World) : (do eqGuard .add 3 x y (.int .i64 (j : Int)) (.int .i64 1); binOp .add 3 (.int .i64 (j : Int)) (.int .i64 1) : Sem Value).run Try.prog w = .ok (.int .i64 ((j + 1 : Nat) : Int)) w := by
  have hwr : IntKind.i64.wrap ((j : Int) + 1) = ((j + 1 : Nat) : Int) := by rw [IntKind.wrap_i64]; omega
  go_simp
theorem sub1C (x y : Operand) (j : Nat) (h : j < 9000000000000000000) (w : World) : (do eqGuard .sub 3 x y (.int .i64 ((j + 1 : Nat) : Int)) (.int .i64 1); binOp .sub 3 (.int .i64 ((j + 1 : Nat) : Int)) (.int .i64 1) : Sem Value).run Try.prog w = .ok (.int .i64 (j : Int)) w := by
  have hwr : IntKind.i64.wrap ((j + 1 : Nat) - 1 : Int) = (j : Int) := by rw [IntKind.wrap_i64]; omega
  have hwr2 : IntKind.i64.wrap (j : Int) = (j : Int) := by rw [IntKind.wrap_i64]; omega
  go_simp
theorem slToN (q o n c k : Nat) (h1 : k ≤ n) (h2 : k ≤ c) (w : World) : (Instr.sliceAt 88 (.slice (some ⟨q, o, none⟩) n c) none (some (.int .i64 (k : Int))) none).run Try.prog w = .ok (.slice (some ⟨q, o, none⟩) k c) w := by
  have h3 : (k : Int) ≤ (c : Int) := by omega
  go_simp
theorem Upd.trans18 {S T : Nat → Prop} {w w1 w2 : World} (h : Upd S w w1) (k : Upd T w1 w2) (hs : ∀ i, i < w.heap.size → T i → S i) : Upd S w w2 :=
  ⟨k.os.trans h.os, k.tape.trans h.tape, k.output.trans h.output, Nat.le_trans h.size k.size, fun i hi hn => (k.block i (Nat.lt_of_lt_of_le hi h.size) (fun ht => hn (hs i hi ht))).trans (h.block i hi hn)⟩
theorem ltT (x y : Operand) {i n : Nat} (h : i < n) (w : World) : (do eqGuard .lss 3 x y (.int .i64 (i : Int)) (.int .i64 (n : Int)); binOp .lss 3 (.int .i64 (i : Int)) (.int .i64 (n : Int)) : Sem Value).run Try.prog w = .ok (.bool true) w := by
  have h1 : decide ((i : Int) < (n : Int)) = true := decide_eq_true (by omega)
  rw [lssC, h1]
theorem ltF (x y : Operand) {i n : Nat} (h : ¬ i < n) (w : World) : (do eqGuard .lss 3 x y (.int .i64 (i : Int)) (.int .i64 (n : Int)); binOp .lss 3 (.int .i64 (i : Int)) (.int .i64 (n : Int)) : Sem Value).run Try.prog w = .ok (.bool false) w := by
  have h1 : decide ((i : Int) < (n : Int)) = false := decide_eq_false (by omega)
  rw [lssC, h1]
theorem results2_18 {fn : Func} {j k : Tmp} {x y : Value} {tmps : Array Value} {w : World} (h : fn.results = #[.tmp j, .tmp k]) (hj : tmps[j]? = some (gw true x)) (hk : tmps[k]? = some (gw true y)) : (results fn tmps).run Try.prog w = .ok (.tuple #[x, y]) w := by
  simp only [results, h]
  have hj' : tmps.getD j undef = x := getD_of hj
  have hk' : tmps.getD k undef = y := getD_of hk
  simp only [Array.getD_eq_getD_getElem?] at hj' hk'
  simp [Sem.run_bind, Result.andThen, hj', hk']
theorem ldI18 {w : World} {q o : Nat} {x : Int} (h : w.cell? ⟨q, o, none⟩ = some (.int .i64 x)) : (Instr.loadAt 3 (.pointer (some ⟨q, o, none⟩))).run Try.prog w = .ok (.int .i64 x) w := by go_simp
theorem ixN18 (q o n c j : Nat) (hj : j < n) (w : World) : (Instr.indexAt 88 (.slice (some ⟨q, o, none⟩) n c) (.int .i64 (j : Int))).run Try.prog w = .ok (.pointer (some ⟨q, o + j, none⟩)) w := by
  have h1 : (j : Int) < (n : Int) := by omega
  go_simp
theorem ex_bs2 {o : Oper} {ρ : Operand → Value} {s : TypeId} {x y : Operand} {X Y V : Value} {w w' : World} (ho : o.op = .buildSlice s 2 #[(0, x), (1, y)]) (hx : ρ x = X) (hy : ρ y = Y) (hr : (Instr.buildSlice s 2 #[(0, X), (1, Y)]).run Try.prog w = .ok V w') : (execOp ρ o).run Try.prog w = .ok (.value V) w' := by
  unfold execOp
  simp only [ho, List.map_toArray, List.map_cons, List.map_nil, hx, hy, Sem.run_bind, hr, Result.andThen_ok]
  rfl
theorem stI18 {w : World} {q j : Nat} {u : Value} {b : Int} (h : w.cell? ⟨q, j, none⟩ = some u) (hf : w.frozen? ⟨q, j, none⟩ = false) : (Instr.storeAt 3 (.pointer (some ⟨q, j, none⟩)) (.int .i64 b)).run Try.prog w = .ok () (w.setCell ⟨q, j, none⟩ (.int .i64 b)) := by go_simp
theorem eqlE18 (x y : Operand) (a b : Int) (w : World) : (do eqGuard .eql 43 x y (.int .i64 a) (.int .i64 b); binOp .eql 43 (.int .i64 a) (.int .i64 b) : Sem Value).run Try.prog w = .ok (.bool (decide (a = b))) w := by
  go_simp
  by_cases h : a = b <;> simp [h]
theorem ex_lenG {o : Oper} {ρ : Operand → Value} {i : Nat} {a : Option Addr} {n k : Nat} {w : World} {t e : TypeId} (ho : o.op = .call { callee := .builtin .len, args := #[.tmp i], argTypes := #[t] }) (ht : o.type = 3) (hu : Try.prog.underlying t = some (.slice e)) (hx : ρ (.tmp i) = .slice a n k) : (execOp ρ o).run Try.prog w = .ok (.value (.int .i64 (n : Int))) w := by
  unfold execOp
  simp only [ho]
  rw [Sem.run_bind]
  simp only [resolve, List.map_toArray, List.map_cons, List.map_nil, hx, ht]
  go_simp

end Go.Proofs.Ytomiifnhcojilaa
