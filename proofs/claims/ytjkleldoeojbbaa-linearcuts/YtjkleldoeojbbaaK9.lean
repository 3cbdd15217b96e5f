import Derived.Test.YtjkleldoeojbbaaK8
import Derived.Deep.MidRow
import Derived.Laws.IdiomCopy
namespace Go.Proofs.Ytjkleldoeojbbaa
open Go.RowKit Go.Maps
open Classical
set_option linter.unusedVariables false
set_option linter.unusedSimpArgs false

/-! Rules for regions that draw (beside Vh), for boxes as whole blocks. -/
theorem v_cut18 {c : Code} {Q : Exit → Act → World → Prop} {T : Array Value} {w : World} (J : Array Value → World → Prop) (h : c.wp Try.prog (Exit.then (fun a w' => ∃ T', a = ⟨T', []⟩ ∧ J T' w') Q) ⟨T, []⟩ w) (hk : ∀ T' w', J T' w' → Q .normal ⟨T', []⟩ w') : c.wp Try.prog Q ⟨T, []⟩ w := by
  refine Code.wp_mono (fun e a' w' h => ?_) h
  cases e with
  | normal =>
    obtain ⟨T', rfl, hJ⟩ := h
    exact hk T' w' hJ
  | _ => exact h
theorem vh_val18 {ops : Array Oper} {o : Oper} {T : Array Value} {df : List Deferred} {w : World} {Q : Exit → Act → World → Prop} {S : World → Prop} {fuel d n : Nat} {listed : Array Bool} (i : Nat) (V : Value) (w' : World) (hi : ops[i]? = some o) (hr : Region.ready .any ops listed = [i])
    (hw : Region.wanted o (yielded ops T) = true) (he : (execOp (⟨T, df⟩ : Act).eval o).run Try.prog w = .ok (.value V) w') (hd : o.dst = some d) (hz : T.size = n) (hn : d < n) (hS : S w')
    (hk : ∀ T' : Array Value, T'.size = n → (∀ j, j ≠ d → T'[j]? = T[j]?) → T'[d]? = some (gw true V) → VH ops Q S fuel (listed.setIfInBounds i true) ⟨T', df⟩ w') : VH ops Q S (fuel + 1) listed ⟨T, df⟩ w := by
  refine ⟨wpAnyH_all hr (by simp) (fun j hj => ?_)⟩
  obtain rfl : j = i := by simpa using hj
  unfold wpOp
  rw [hi]
  simp only [hw, if_true]
  refine .inl ?_
  unfold Oper.wp
  rw [he, Oper.upon_value]
  refine ⟨hS, ?_⟩
  rw [hd]
  exact (hk (T.setIfInBounds d V) (by simp [hz]) (fun i hi => at_set_ne _ hi) (at_set _ (by omega))).out
theorem vh_store18 {ops : Array Oper} {o : Oper} {T : Array Value} {df : List Deferred} {w : World} {Q : Exit → Act → World → Prop} {S : World → Prop} {fuel : Nat} {listed : Array Bool} (i : Nat) (w' : World) (hi : ops[i]? = some o) (hr : Region.ready .any ops listed = [i])
    (hw : Region.wanted o (yielded ops T) = true) (he : (execOp (⟨T, df⟩ : Act).eval o).run Try.prog w = .ok .skip w') (hd : o.dst = none) (hS : S w')
    (hk : VH ops Q S fuel (listed.setIfInBounds i true) ⟨T, df⟩ w') : VH ops Q S (fuel + 1) listed ⟨T, df⟩ w := by
  refine ⟨wpAnyH_all hr (by simp) (fun j hj => ?_)⟩
  obtain rfl : j = i := by simpa using hj
  unfold wpOp
  rw [hi]
  simp only [hw, if_true]
  refine .inl ?_
  unfold Oper.wp
  rw [he, Oper.upon_skip]
  refine ⟨hS, ?_⟩
  rw [hd]
  exact hk.out
/-- A call and what makes memory, in either order. -/
theorem vh_two18 {ops : Array Oper} {o o2 : Oper} {T : Array Value} {df : List Deferred} {w : World} {Q : Exit → Act → World → Prop} {S : World → Prop} {fuel d d2 n : Nat} {listed : Array Bool} (i j : Nat) {fid : FuncId} {args : Array Value} {R : Ending → World → Prop} (hr : Region.ready .any ops listed = [i, j]) (hi : ops[i]? = some o) (hj : ops[j]? = some o2)
    (hw : Region.wanted o (yielded ops T) = true) (he : (execOp (⟨T, df⟩ : Act).eval o).run Try.prog w = .ok (.enter fid args) w) (hc : Calls Try.prog fid args w R) (hd : o.dst = some d) (hz : T.size = n) (hn : d < n)
    (hk : ∀ (e : Ending) (w' : World), R e w' → ∃ V, e = .returned V ∧ S w' ∧ ∀ T' : Array Value, T'.size = n → (∀ j, j ≠ d → T'[j]? = T[j]?) → T'[d]? = some (gw true V) → VH ops Q S fuel (listed.setIfInBounds i true) ⟨T', df⟩ w')
    (V : Value) (w2 : World) (hw2 : Region.wanted o2 (yielded ops T) = true) (he2 : (execOp (⟨T, df⟩ : Act).eval o2).run Try.prog w = .ok (.value V) w2) (hd2 : o2.dst = some d2) (hn2 : d2 < n) (hS2 : S w2)
    (hk2 : ∀ T' : Array Value, T'.size = n → (∀ j, j ≠ d2 → T'[j]? = T[j]?) → T'[d2]? = some (gw true V) → VH ops Q S fuel (listed.setIfInBounds j true) ⟨T', df⟩ w2) : VH ops Q S (fuel + 1) listed ⟨T, df⟩ w := by
  refine ⟨wpAnyH_all hr (by simp) (fun k hkm => ?_)⟩
  have hkm : k = i ∨ k = j := by simpa using hkm
  rcases hkm with rfl | rfl
  · unfold wpOp
    rw [hi]
    simp only [hw, if_true]
    refine .inl ?_
    unfold Oper.wp
    rw [he, Oper.upon_enter]
    refine hc.mono ?_
    intro e w' hR
    obtain ⟨V, rfl, hS, hk'⟩ := hk e w' hR
    refine ⟨hS, ?_⟩
    rw [hd]
    exact (hk' (T.setIfInBounds d V) (by simp [hz]) (fun i hi => at_set_ne _ hi) (at_set _ (by omega))).out
  · unfold wpOp
    rw [hj]
    simp only [hw2, if_true]
    refine .inl ?_
    unfold Oper.wp
    rw [he2, Oper.upon_value]
    refine ⟨hS2, ?_⟩
    rw [hd2]
    exact (hk2 (T.setIfInBounds d2 V) (by simp [hz]) (fun i hi => at_set_ne _ hi) (at_set _ (by omega))).out
theorem ex_box18 {o : Oper} {ρ : Operand → Value} {s : TypeId} {x : Operand} {X V : Value} {w w' : World} (ho : o.op = .box s x) (hx : ρ x = X) (hr : (Instr.box s X).run Try.prog w = .ok V w') : (execOp ρ o).run Try.prog w = .ok (.value V) w' := by
  unfold execOp
  simp only [ho, hx, Sem.run_bind, hr, Result.andThen_ok]
  rfl
theorem ex_buildP18 {o : Oper} {ρ : Operand → Value} {s : TypeId} {ps : Array (Nat × Operand)} {P : Array (Nat × Value)} {V : Value} {w : World} (ho : o.op = .build s ps) (hp : ps.map (fun (i, x) => (i, ρ x)) = P) (hr : (Instr.build s P).run Try.prog w = .ok V w) : (execOp ρ o).run Try.prog w = .ok (.value V) w := by
  unfold execOp
  simp only [ho, hp, Sem.run_bind, hr, Result.andThen_ok]
  rfl
theorem ex_sl18 {o : Oper} {ρ : Operand → Value} {s : TypeId} {x : Operand} {X V : Value} {w : World} (ho : o.op = .slice s x none none none) (hx : ρ x = X) (hr : (Instr.sliceAt s X none none none).run Try.prog w = .ok V w) : (execOp ρ o).run Try.prog w = .ok (.value V) w := by
  unfold execOp
  simp only [ho, hx, Sem.run_bind, Option.map_none, hr, Result.andThen_ok]
  rfl
theorem ex_copy18 {o : Oper} {ρ : Operand → Value} {x y : Operand} {X Y V : Value} {s t : TypeId} {w w' : World} (ho : o.op = .call { callee := .builtin .copy, args := #[x, y], argTypes := #[s, t] }) (hx : ρ x = X) (hy : ρ y = Y) (hr : (Builtin.copy_ #[s, t] o.type #[X, Y]).run Try.prog w = .ok V w') : (execOp ρ o).run Try.prog w = .ok (.value V) w' := by
  unfold execOp
  simp only [ho, resolve, invoke, builtin, Sem.run_bind, Sem.run_pure, Result.andThen_ok, List.map_toArray, List.map_cons, List.map_nil, hx, hy, hr]
/-- A block with just these cells. -/
def BB (w : World) (q : Nat) (T : TypeId) (cs : List Value) : Prop := w.heap[q]? = some (.cells cs.toArray T (0, 0))
theorem BB.lt {w : World} {q : Nat} {T : TypeId} {cs : List Value} (h : BB w q T cs) : q < w.heap.size := (Array.getElem?_eq_some_iff.1 h).1
theorem BB.new (w : World) (T : TypeId) (cs : List Value) : BB (w.alloc (.cells cs.toArray T)) w.heap.size T cs := World.alloc_heap_new _ _
theorem BB.upd {S : Nat → Prop} {w w' : World} {q : Nat} {T : TypeId} {cs : List Value} (h : BB w q T cs) (u : Upd S w w') (hs : ¬ S q) : BB w' q T cs := (u.block q h.lt hs).trans h
theorem BB.later {w w' : World} {q : Nat} {T : TypeId} {cs : List Value} (h : BB w q T cs) (hb : Below w.heap.size w w') : BB w' q T cs := (hb.block q h.lt).trans h
theorem BB.cell {w : World} {q : Nat} {T : TypeId} {cs : List Value} (h : BB w q T cs) (i : Nat) : w.cell? ⟨q, i, none⟩ = cs[i]? := by
  unfold BB at h
  unfold World.cell?
  simp [h]
theorem BB.free {w : World} {q : Nat} {T : TypeId} {cs : List Value} (h : BB w q T cs) (i : Nat) : w.frozen? ⟨q, i, none⟩ = false := by
  unfold BB at h
  unfold World.frozen?
  simp [h]
theorem BB.ld {w : World} {q : Nat} {T : TypeId} {cs : List Value} (h : BB w q T cs) (ty : TypeId) {d : TypeDesc} (hu : Try.prog.underlying ty = some d) (hd : d.isRow = true) (hi : (Try.prog.info? ty).map (·.size) = some cs.length) : (Instr.loadAt ty (.pointer (some ⟨q, 0, none⟩))).run Try.prog w = .ok (.agg cs.toArray) w :=
  run_loadAt_mid (P := Try.prog) w q 0 ty cs d (fun j v hv => by rw [Nat.zero_add, h.cell]; exact hv) hu hd hi
theorem BB.set1 {w : World} {q : Nat} {T : TypeId} {cs : List Value} (h : BB w q T cs) (j : Nat) (u : Value) : BB (w.setCell ⟨q, j, none⟩ u) q T (cs.set j u) := by
  have hlt := h.lt
  unfold BB at *
  unfold World.setCell
  have e : w.heap[q] = .cells cs.toArray T (0, 0) := (Array.getElem?_eq_some_iff.1 h).2
  rw [Array.getElem?_eq_getElem (by simpa using hlt), Array.getElem_modify_self, e]
  simp
theorem BB.sets {q : Nat} {T : TypeId} : ∀ (vs : List Value) (o : Nat) (w : World) (cs : List Value), BB w q T cs → ∃ cs', BB (w.setCells q o vs) q T cs' ∧ cs'.length = cs.length
  | [], o, w, cs, h => ⟨cs, h, rfl⟩
  | v :: r, o, w, cs, h => by
    obtain ⟨cs', h1, h2⟩ := BB.sets r (o + 1) _ _ (h.set1 o v)
    exact ⟨cs', h1, by rw [h2, List.length_set]⟩
theorem BB.whole {w : World} {q : Nat} {T : TypeId} {cs : List Value} (h : BB w q T cs) (vs : List Value) (hl : vs.length = cs.length) : BB (w.setCells q 0 vs) q T vs := by
  obtain ⟨cs', h1, h2⟩ := BB.sets vs 0 w cs h
  have : cs' = vs := by
    apply List.ext_getElem (by omega)
    intro i hi hi2
    have h3 := World.cell?_setCells_in q vs 0 w (fun j hj => by rw [Nat.zero_add, h.cell, List.getElem?_eq_getElem (by omega)]; rfl) i hi2
    rw [Nat.zero_add, h1.cell, List.getElem?_eq_getElem hi] at h3
    exact Option.some.inj h3
  rw [← this]
  exact this ▸ h1
theorem upd18 (q : Nat) : ∀ (vs : List Value) (o : Nat) (w : World), Upd (fun k => k = q) w (w.setCells q o vs)
  | [], o, w => Upd.refl _ _
  | v :: r, o, w => ((Upd.refl (fun k => k = q) w).setCell (p := ⟨q, o, none⟩) (.inl rfl) v).trans (upd18 q r (o + 1) _)
theorem BB.st {w : World} {q : Nat} {T : TypeId} {cs : List Value} (h : BB w q T cs) (ty : TypeId) (vs : List Value) (hl : vs.length = cs.length) (hi : (Try.prog.info? ty).map (·.size) = some vs.toArray.size) (h1 : vs.toArray.all (·.oneCell') = true) : (Instr.storeAt ty (.pointer (some ⟨q, 0, none⟩)) (.agg vs.toArray)).run Try.prog w = .ok () (w.setCells q 0 vs) := by
  have := run_storeAt_mid (P := Try.prog) w q 0 ty vs.toArray (fun j hj => ⟨by rw [Nat.zero_add, h.cell, List.getElem?_eq_getElem (show j < cs.length by simpa [hl] using hj)]; rfl, by rw [Nat.zero_add]; exact h.free j⟩) hi h1
  exact this
theorem BB.res {w : World} {q : Nat} {Ty : TypeId} {cs : List Value} (h : BB w q Ty cs) {fn : Func} {i : Tmp} {ty : TypeId} {T : Array Value} {R : Ending → World → Prop} (hf : fn.results = #[.cell i ty]) (hq : T[i]? = some (gw true (.pointer (some ⟨q, 0, none⟩)))) {d : TypeDesc} (hu : Try.prog.underlying ty = some d) (hd : d.isRow = true) (hi : (Try.prog.info? ty).map (·.size) = some cs.length) (hR : R (.returned (.agg cs.toArray)) w) : bodyPost Try.prog fn R .ret ⟨T, []⟩ w := by
  refine bodyPost_ret (v := .agg cs.toArray) ?_ rfl hR
  have := run_loadVar_mid (P := Try.prog) w q 0 ty cs _ (fun j v hv => by rw [Nat.zero_add, h.cell]; exact hv) hu hd hi
  have hq' : T.getD i undef = .pointer (some ⟨q, 0, none⟩) := getD_of hq
  simp only [results, hf]
  simp only [Array.getD_eq_getD_getElem?] at hq'
  simp [Sem.run_bind, Result.andThen, hq', asAddr, this]

end Go.Proofs.Ytjkleldoeojbbaa
