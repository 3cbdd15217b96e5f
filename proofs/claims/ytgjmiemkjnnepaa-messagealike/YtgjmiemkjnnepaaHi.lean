import Derived.Test.YtgjmiemkjnnepaaHg
import Derived.Orders
namespace Go.Proofs.Ytgjmiemkjnnepaa
open Go.RowKit Go.Maps
open Classical
set_option linter.unusedVariables false
set_option linter.unusedSimpArgs false

/-- How many operations are left. -/
def cfl (l : Array Bool) : Nat := (l.toList.filter (fun b => !b)).length
theorem cfl_set_list : ∀ (l : List Bool) (i : Nat), l[i]? = some false → ((l.set i true).filter (fun b => !b)).length + 1 = (l.filter (fun b => !b)).length
  | [], i, h => by simp at h
  | b :: r, 0, h => by
    simp at h
    subst h
    simp
  | b :: r, i + 1, h => by
    have := cfl_set_list r i (by simpa using h)
    cases b <;> simp_all
theorem cfl_set {l : Array Bool} {i : Nat} (h : l[i]? = some false) : cfl (l.setIfInBounds i true) + 1 = cfl l := by
  unfold cfl
  rw [Array.toList_setIfInBounds]
  exact cfl_set_list _ _ (by simpa using h)
theorem ready_false {md : Region.Mode} {ops : Array Oper} {l : Array Bool} {i : Nat} (h : i ∈ Region.ready md ops l) : l[i]? = some false := by
  unfold Region.ready at h
  rw [List.mem_filter] at h
  have h1 : l.getD i true = false := by
    have := h.2
    simp only [Bool.and_eq_true, Bool.not_eq_true'] at this
    exact this.1
  rw [Array.getD_eq_getD_getElem?] at h1
  cases hq : l[i]? with
  | none => rw [hq] at h1; cases h1
  | some b => rw [hq] at h1; simp at h1; rw [h1]
theorem ready_none {md : Region.Mode} {ops : Array Oper} {l : Array Bool} (h : cfl l = 0) : Region.ready md ops l = [] := by
  cases hr : Region.ready md ops l with
  | nil => rfl
  | cons i r =>
    have := cfl_set (ready_false (md := md) (ops := ops) (l := l) (i := i) (by rw [hr]; simp))
    omega
/-- A region in whatever order, by what holds between its operations. -/
theorem wpAny_inv {P : Program} {md : Region.Mode} {ops : Array Oper} {Q : Exit → Act → World → Prop} (Inv : Array Bool → Act → World → Prop)
    (hend : ∀ l a w, Inv l a w → Region.ready md ops l = [] → Q .normal a w)
    (hstep : ∀ l a w i, Inv l a w → i ∈ Region.ready md ops l → wpOp P ops Q i (Inv (l.setIfInBounds i true)) a w) :
    ∀ (fuel : Nat) (l : Array Bool) (a : Act) (w : World), cfl l ≤ fuel → Inv l a w → wpAny P md ops Q fuel l a w
  | 0, l, a, w, hc, h => by
    have hr : Region.ready md ops l = [] := ready_none (by omega)
    exact ⟨hr, hend l a w h hr⟩
  | fuel + 1, l, a, w, hc, h => by
    refine ⟨fun hr => hend l a w h hr, fun i hi => wpOp_mono (fun a' w' h' => ?_) (hstep l a w i h hi)⟩
    refine wpAny_inv Inv hend hstep fuel _ a' w' ?_ h'
    have := cfl_set (ready_false hi)
    omega
/-- An operation with no guard. -/
theorem wpOp_of {ops : Array Oper} {Q : Exit → Act → World → Prop} {i : Nat} {o : Oper} {K : Act → World → Prop} {a : Act} {w : World} (ho : ops[i]? = some o) (hg : o.guard = none) (h : o.wp Try.prog a w K Q) : wpOp Try.prog ops Q i K a w := by
  unfold wpOp
  rw [ho]
  simp only [want_none hg, if_true]
  exact .inl h
theorem wp_val {o : Oper} {a : Act} {w : World} {K : Act → World → Prop} {Q : Exit → Act → World → Prop} {v : Value} (h : (execOp a.eval o).run Try.prog w = .ok (.value v) w) (hk : K (a.put o.dst v) w) : o.wp Try.prog a w K Q := by
  unfold Oper.wp; rw [h, Oper.upon_value]; exact hk
theorem wp_loadM {o : Oper} {a : Act} {w : World} {K : Act → World → Prop} {Q : Exit → Act → World → Prop} (x : Operand) (ho : o.op = .load 36 x) (q : Nat) (m : Mg) (s t : Value) (hx : a.eval x = .pointer (some ⟨q, 0, none⟩)) (h : MBox w q m s t) (hk : K (a.put o.dst (m.val s t)) w) : o.wp Try.prog a w K Q :=
  wp_load_mid 36 x ho q 0 hx (m.cs s t) _ (fun j v hv => by rw [Nat.zero_add]; exact h.cell j v hv) Try.underlying36 rfl (by kernel_rfl) hk
theorem wp_storeM {o : Oper} {a : Act} {w : World} {K : Act → World → Prop} {Q : Exit → Act → World → Prop} (x y : Operand) (ho : o.op = .store 36 x y) (q : Nat) (m m' : Mg) (s t s' t' : Value) (hx : a.eval x = .pointer (some ⟨q, 0, none⟩)) (hy : a.eval y = m'.val s' t') (h : MBox w q m s t) (h1 : s'.oneCell' = true) (h2 : t'.oneCell' = true)
    (hk : ∀ w', MBox w' q m' s' t' → Upd (fun b => b = q) w w' → w'.heap.size = w.heap.size → K (a.put o.dst undef) w') : o.wp Try.prog a w K Q := by
  unfold Oper.wp execOp
  simp only [ho, hx, hy, Sem.run_bind, Sem.run_pure, Result.andThen_ok, run_storeM h m' s' t' h1 h2]
  exact hk _ (h.put m' s' t') (upd_sets (S := fun b => b = q) (b := q) rfl _ _ _ (Upd.refl _ _)) (size_sets _ _ _ _)
theorem wp_allocM {o : Oper} {a : Act} {w : World} {K : Act → World → Prop} {Q : Exit → Act → World → Prop} (ho : o.op = .alloc 36)
    (hk : ∀ w', MBox w' w.heap.size zM (.slice none 0 0) (.slice none 0 0) → Below w.heap.size w w' → w'.heap.size = w.heap.size + 1 → K (a.put o.dst (.pointer (some ⟨w.heap.size, 0, none⟩))) w') : o.wp Try.prog a w K Q := by
  have hr : (execOp a.eval o).run Try.prog w = .ok (.value (.pointer (some ⟨w.heap.size, 0, none⟩))) (w.alloc (.cells (zM.cs (.slice none 0 0) (.slice none 0 0)).toArray 36)) := by
    unfold execOp
    simp only [ho]
    go_simp
    rfl
  unfold Oper.wp
  rw [hr, Oper.upon_value]
  exact hk _ (MBox.new w zM _ _) ((Below.refl _ _).alloc (Nat.le_refl _) _) (by simp)

end Go.Proofs.Ytgjmiemkjnnepaa
