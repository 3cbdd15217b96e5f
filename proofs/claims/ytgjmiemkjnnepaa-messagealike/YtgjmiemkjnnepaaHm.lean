import Derived.Test.YtgjmiemkjnnepaaHk
namespace Go.Proofs.Ytgjmiemkjnnepaa
open Go.RowKit Go.Maps
open Classical
set_option linter.unusedVariables false
set_option linter.unusedSimpArgs false

theorem frame7 {T0 T : Array Value} {x6 x7 : Value} (hsz : T.size = T0.size) (h51 : 51 = T0.size) (hfr : ∀ i, i < 6 ∨ i = 8 ∨ 12 < i → T[i]? = T0[i]?) (h6 : T[6]? = some x6) (h7 : T[7]? = some x7) : ∃ u9 u10 u11 u12, T = (((((T0.setIfInBounds 6 x6).setIfInBounds 7 x7).setIfInBounds 9 u9).setIfInBounds 10 u10).setIfInBounds 11 u11).setIfInBounds 12 u12 := by
  obtain ⟨u9, h9⟩ : ∃ u, T[9]? = some u := ⟨_, Array.getElem?_eq_getElem (by omega)⟩
  obtain ⟨u10, h10⟩ : ∃ u, T[10]? = some u := ⟨_, Array.getElem?_eq_getElem (by omega)⟩
  obtain ⟨u11, h11⟩ : ∃ u, T[11]? = some u := ⟨_, Array.getElem?_eq_getElem (by omega)⟩
  obtain ⟨u12, h12⟩ : ∃ u, T[12]? = some u := ⟨_, Array.getElem?_eq_getElem (by omega)⟩
  refine ⟨u9, u10, u11, u12, Array.ext_getElem? (fun i => ?_)⟩
  by_cases e12 : i = 12
  · subst e12; rw [h12, at_set _ (by simp; omega)]
  by_cases e11 : i = 11
  · subst e11; rw [h11, at_set_ne _ (by omega), at_set _ (by simp; omega)]
  by_cases e10 : i = 10
  · subst e10; rw [h10, at_set_ne _ (by omega), at_set_ne _ (by omega), at_set _ (by simp; omega)]
  by_cases e9 : i = 9
  · subst e9; rw [h9, at_set_ne _ (by omega), at_set_ne _ (by omega), at_set_ne _ (by omega), at_set _ (by simp; omega)]
  by_cases e7 : i = 7
  · subst e7; rw [h7, at_set_ne _ (by omega), at_set_ne _ (by omega), at_set_ne _ (by omega), at_set_ne _ (by omega), at_set _ (by simp; omega)]
  by_cases e6 : i = 6
  · subst e6; rw [h6, at_set_ne _ (by omega), at_set_ne _ (by omega), at_set_ne _ (by omega), at_set_ne _ (by omega), at_set_ne _ (by omega), at_set _ (by omega)]
  rw [at_set_ne _ e12, at_set_ne _ e11, at_set_ne _ e10, at_set_ne _ e9, at_set_ne _ e7, at_set_ne _ e6]
  exact hfr i (by omega)
theorem all_of {ops : Array Oper} {l : Array Bool} {i : Nat} {p : Nat → Bool} (hi : i ∈ Region.ready .any ops l) (h : (Region.ready .any ops l).all p = true) : p i = true := List.all_eq_true.1 h i hi
set_option maxRecDepth 100000 in
theorem wp_givenM {o : Oper} {a : Act} {w : World} {K : Act → World → Prop} {Q : Exit → Act → World → Prop} {x y : Operand} {X Y : Value} {ats : Array TypeId} {R : Ending → World → Prop} (ho : o.op = .call { callee := .value (.func 4), args := #[x, y], argTypes := ats }) (hx : a.eval x = X) (hy : a.eval y = Y) (hc : Calls Try.prog 4 #[X, Y] w R) (hk : ∀ e w', R e w' → ∃ v, e = .returned v ∧ K (a.put o.dst v) w') : o.wp Try.prog a w K Q := by
  have hr : (execOp a.eval o).run Try.prog w = .ok (.enter 4 #[X, Y]) w := by
    unfold execOp
    simp only [ho, resolve, invoke, Sem.run_bind, List.map_toArray, List.map_cons, List.map_nil, hx, hy]
    rfl
  unfold Oper.wp
  rw [hr, Oper.upon_enter]
  refine hc.mono ?_
  intro e w' h
  obtain ⟨v, rfl, hv⟩ := hk e w' h
  exact hv
theorem allocMk {ops : Array Oper} {rest : List Oper} {o : Oper} {a : Act} {w : World} {Q : Exit → Act → World → Prop} (hgd : o.guard = none) (ho : o.op = .alloc 36)
    (hk : ∀ p w', p = w.heap.size → MBox w' p zM nS nS → Below w.heap.size w w' → w'.heap.size = p + 1 → wpList Try.prog ops Q rest (a.put o.dst (.pointer (some ⟨p, 0, none⟩))) w') : wpList Try.prog ops Q (o :: rest) a w :=
  wpList_plain hgd fun K hK => wp_allocM ho (fun w' h1 h2 h3 => hK _ _ (hk _ w' rfl h1 h2 h3))
theorem sameM_comm (m m' : Mg) (L L' : List En) (D D' : List (Int × Int)) : sameM m' m L' L D' D = sameM m m' L L' D D' := by
  rw [Bool.eq_iff_iff, sameM_iff, sameM_iff]
  constructor
  · rintro ⟨rfl, rfl, rfl⟩
    exact ⟨rfl, rfl, rfl⟩
  · rintro ⟨rfl, rfl, rfl⟩
    exact ⟨rfl, rfl, rfl⟩
theorem sameM_self (m : Mg) (L : List En) (D : List (Int × Int)) : sameM m m L L D D = true := (sameM_iff _ _ _ _ _ _).2 ⟨rfl, rfl, rfl⟩
theorem eqlBB (x y : Operand) (b : Bool) (w : World) : (do eqGuard .eql 4 x y (.bool b) (.bool b); binOp .eql 4 (.bool b) (.bool b) : Sem Value).run Try.prog w = .ok (.bool true) w := by
  go_simp
theorem region_qC8 {P : Program} {C : World → Prop} {id : Nat} {Q : Exit → Act → World → Prop} {a : Act} {w : World} {l : List Oper} (hm : P.follows .mixedOrders = true) (hB : Region.lexB .any l.toArray = true) (hC : C w.drew)
    (h : wpQuiet P l.toArray C (fun a' => ∀ w', C w' → Q .normal a' w') l a) : (Code.region id l.toArray true).wp P Q a w :=
  wp_region_quiet (C := C) hm hB hC (by simpa using h)
theorem wq_val {ops : Array Oper} {rest : List Oper} {o : Oper} {a : Act} {C : World → Prop} {Q : Act → Prop} {u : Value} (hw : Region.wanted o (yielded ops a.tmps) = true) (h : ∀ v, (execOp a.eval o).run Try.prog v = .ok (.value u) v) (hk : wpQuiet Try.prog ops C Q rest (a.put o.dst u)) : wpQuiet Try.prog ops C Q (o :: rest) a :=
  BigFrame.wpQuiet_want hw (fun K hK => ⟨u, fun v _ => by unfold Oper.quietAt; rw [h v]; exact ⟨rfl, rfl⟩, hK _ hk⟩)
theorem wq_eqlB {ops : Array Oper} {rest : List Oper} {o : Oper} {a : Act} {C : World → Prop} {Q : Act → Prop} (hw : Region.wanted o (yielded ops a.tmps) = true) (x y : Operand) (ty : TypeId) (ho : o.op = .binOp .eql 4 x y ty) (b : Bool) (hx : a.eval x = .bool b) (hy : a.eval y = .bool b) (hk : wpQuiet Try.prog ops C Q rest (a.put o.dst (.bool true))) : wpQuiet Try.prog ops C Q (o :: rest) a :=
  wq_val hw (fun v => by
    unfold execOp
    simp only [ho, hx, hy]
    rw [Sem.run_bind, eqlBB x y b v]
    rfl) hk
theorem wq_load {ops : Array Oper} {rest : List Oper} {o : Oper} {a : Act} {C : World → Prop} {Q : Act → Prop} (hw : Region.wanted o (yielded ops a.tmps) = true) (x : Operand) (ho : o.op = .load 36 x) (q : Nat) (m : Mg) (s t : Value) (hx : a.eval x = .pointer (some ⟨q, 0, none⟩)) (h : ∀ v, C v → MBox v q m s t) (hk : wpQuiet Try.prog ops C Q rest (a.put o.dst (m.val s t))) : wpQuiet Try.prog ops C Q (o :: rest) a :=
  BigFrame.wpQuiet_want hw (fun K hK => ⟨m.val s t, fun v hv => by
    have hr := run_loadAt_mid (P := Try.prog) v q 0 36 (m.cs s t) _ (fun j u hu => by rw [Nat.zero_add]; exact (h v hv).cell j u hu) Try.underlying36 rfl (by kernel_rfl)
    unfold Oper.quietAt execOp
    simp only [ho, hx, Sem.run_bind, hr, Result.andThen_ok]
    exact ⟨rfl, rfl⟩, hK _ hk⟩)
theorem wq_call {ops : Array Oper} {rest : List Oper} {o : Oper} {a : Act} {C : World → Prop} {Q : Act → Prop} {fid : FuncId} {args : Array Value} {u : Value} (hw : Region.wanted o (yielded ops a.tmps) = true) (hr : ∀ v, (execOp a.eval o).run Try.prog v = .ok (.enter fid args) v) (hc : ∀ v, C v → Calls Try.prog fid args v (fun e w' => e = .returned u ∧ C w')) (hk : wpQuiet Try.prog ops C Q rest (a.put o.dst u)) : wpQuiet Try.prog ops C Q (o :: rest) a :=
  BigFrame.wpQuiet_want hw (fun K hK => ⟨u, fun v hv => by unfold Oper.quietAt; rw [hr v]; exact ⟨rfl, hc v hv⟩, hK _ hk⟩)
theorem SlY.apart0 {α : Type} {Y : Lay α} {w : World} {a : Option Addr} {n c : Nat} {l : List α} (h : SlY Y w a n c l) : ∀ z, a = some z → l ≠ [] → z.block < w.heap.size := fun z hz hne => by
  rcases h.at_ z hz with e | ⟨q, o, rfl, hq, _⟩
  · exact absurd e hne
  · exact hq

end Go.Proofs.Ytgjmiemkjnnepaa
