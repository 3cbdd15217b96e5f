import Derived.Test.YtilngncjbikkgaaNx
import Derived.Test.YtilngncjbikkgaaDr
namespace Go.Proofs.Ytilngncjbikkgaa
open Go.RowKit
set_option linter.unusedVariables false

/-- Draws as cells. -/
def dcs : List (Int × Int) → List Value
  | [] => []
  | d :: r => .int .u64 d.1 :: .int .u64 d.2 :: dcs r
theorem dcs_length : ∀ l : List (Int × Int), (dcs l).length = l.length * 2
  | [] => rfl
  | d :: r => by simp only [dcs, List.length_cons, dcs_length r]; omega
theorem dcs_append : ∀ l m : List (Int × Int), dcs (l ++ m) = dcs l ++ dcs m
  | [], m => rfl
  | d :: r, m => by simp only [dcs, List.cons_append, dcs_append r m]
theorem dcs_get0 : ∀ (l : List (Int × Int)) (i : Nat) (d : Int × Int), l[i]? = some d → (dcs l)[i * 2]? = some (.int .u64 d.1)
  | [], i, d, h => by simp at h
  | x :: r, 0, d, h => by simp at h; subst h; simp [dcs]
  | x :: r, i + 1, d, h => by
    have e : (i + 1) * 2 = i * 2 + 1 + 1 := by omega
    rw [e]
    simp only [dcs, List.getElem?_cons_succ] at h ⊢
    exact dcs_get0 r i d h
theorem dcs_get1 : ∀ (l : List (Int × Int)) (i : Nat) (d : Int × Int), l[i]? = some d → (dcs l)[i * 2 + 1]? = some (.int .u64 d.2)
  | [], i, d, h => by simp at h
  | x :: r, 0, d, h => by simp at h; subst h; simp [dcs]
  | x :: r, i + 1, d, h => by
    have e : (i + 1) * 2 + 1 = i * 2 + 1 + 1 + 1 := by omega
    rw [e]
    simp only [dcs, List.getElem?_cons_succ] at h ⊢
    exact dcs_get1 r i d h
/-- A slice of draws of the call's own. -/
def OwnD (B : Nat) (w : World) (v : Value) (l : List (Int × Int)) : Prop := w.ownsRow B 58 2 v l.length (dcs l)
theorem OwnD.nil (B : Nat) (w : World) : OwnD B w (.slice none 0 0) [] := World.ownsRow_nil w B 58 2
theorem OwnD.alloc {B : Nat} {w : World} {v : Value} {l : List (Int × Int)} (h : OwnD B w v l) (o : Obj) : OwnD B (w.alloc o) v l := World.ownsRow.alloc h o
theorem OwnD.upd {B : Nat} {S : Nat → Prop} {w w' : World} {v : Value} {l : List (Int × Int)} (h : OwnD B w v l) (u : Upd S w w') (hs : ∀ k, B ≤ k → ¬ S k) : OwnD B w' v l := by
  obtain ⟨h1, h2⟩ := h
  refine ⟨h1, ?_⟩
  rcases h2 with h2 | ⟨g, cap, cur, e1, e2, e3, r⟩
  · exact .inl h2
  · refine .inr ⟨g, cap, cur, e1, e2, ?_, r⟩
    have hlt : g < w.heap.size := by
      rcases Nat.lt_or_ge g w.heap.size with h' | h'
      · exact h'
      · rw [Array.getElem?_eq_none h'] at e3; cases e3
    rw [u.block g hlt (hs g e2)]
    exact e3
theorem OwnD.form {B : Nat} {w : World} {v : Value} {l : List (Int × Int)} (h : OwnD B w v l) : ∃ a c, v = .slice a l.length c ∧ l.length ≤ c ∧ c ≤ maxLen ∧ (a = none → l = [] ∧ c = 0) ∧ ∀ x, a = some x → ∃ g, x = ⟨g, 0, none⟩ ∧ B ≤ g ∧ g < w.heap.size := by
  rcases h.2 with ⟨e1, e2⟩ | ⟨g, cap, cur, e1, e2, e3, e4, e5, _⟩
  · exact ⟨none, 0, by rw [e1, e2], by omega, by unfold maxLen; omega, fun _ => ⟨List.eq_nil_of_length_eq_zero e2, rfl⟩, fun x hx => by cases hx⟩
  · refine ⟨some ⟨g, 0, none⟩, cap, e1, e4, e5, (fun hx => by cases hx), fun x hx => ?_⟩
    cases hx
    refine ⟨g, rfl, e2, ?_⟩
    rcases Nat.lt_or_ge g w.heap.size with h' | h'
    · exact h'
    · rw [Array.getElem?_eq_none h'] at e3; cases e3
theorem OwnD.cell {B : Nat} {w : World} {g n c : Nat} {l : List (Int × Int)} (h : OwnD B w (.slice (some ⟨g, 0, none⟩) n c) l) (i : Nat) (d : Int × Int) (hd : l[i]? = some d) : w.cell? ⟨g, i * 2, none⟩ = some (.int .u64 d.1) ∧ w.cell? ⟨g, i * 2 + 1, none⟩ = some (.int .u64 d.2) := by
  have h0 := World.ownsRow.cells h (g := g) rfl _ _ (dcs_get0 l i d hd)
  have h1 := World.ownsRow.cells h (g := g) rfl _ _ (dcs_get1 l i d hd)
  rw [Addr.add_lit, Nat.zero_add] at h0 h1
  exact ⟨h0, h1⟩
theorem OwnD.grown {B : Nat} {w0 w w' : World} {v : Value} {l : List (Int × Int)} (ho : OwnD B w v l) (h0 : Below B w0 w) (hg : w.grownBy w' v.ownBlock) (hB : B ≤ w.heap.size) : Below B w0 w' :=
  h0.grown hg hB (fun k hk => (World.ownsRow.lt ho k hk).1)

theorem info_draw : (Try.prog.info? 58).map (fun i => (i.zero, i.size, i.bytes)) = some (some (.agg #[.int .u64 0, .int .u64 0]), 2, 16) := by kernel_rfl
theorem info_parts {P : Program} {t : TypeId} {z : Option Value} {s b : Nat} (h : (P.info? t).map (fun i => (i.zero, i.size, i.bytes)) = some (z, s, b)) : ∃ i, P.info? t = some i ∧ i.zero = z ∧ i.size = s ∧ i.bytes = b := by
  cases h2 : P.info? t with
  | none => rw [h2] at h; cases h
  | some i =>
    rw [h2] at h
    simp at h
    exact ⟨i, rfl, h.1, h.2.1, h.2.2⟩

/-- 'append' of one draw to draws of the call's own. -/
theorem app_draw (w : World) {ops : Array Oper} {rest : List Oper} {o : Oper} {a : Act} {Q : Exit → Act → World → Prop} (hgd : o.guard = none) (s x : Operand)
    (ho : o.op = .call { callee := .builtin .append, args := #[s, x], argTypes := #[45, 45] }) (B : Nat) (l : List (Int × Int)) (v : Value) (hs : a.eval s = v)
    (ad : Addr) (hx : a.eval x = .slice (some ad) 1 1) (h l' : Int) (hc : w.cell? ad = some (.int .u64 h)) (hc1 : w.cell? (ad.add 1) = some (.int .u64 l')) (hown : OwnD B w v l) (hB : B ≤ w.heap.size) (hb : (l.length + 1) * 16 ≤ 140737488355328)
    (hk : ∀ v' w', OwnD B w' v' (l ++ [(h, l')]) → v' ≠ .slice none 0 0 → w.grownBy w' v.ownBlock → wpList Try.prog ops Q rest (a.put o.dst v') w') : wpList Try.prog ops Q (o :: rest) a w := by
  obtain ⟨i0, hi, hz0, hz1, hz2⟩ := info_parts info_draw
  refine wpList_plain hgd fun K hK => ?_
  obtain ⟨v', w', hr, h2, h3, h4⟩ := run_append_own (P := Try.prog) w B 45 o.type 58 i0 (.agg #[.int .u64 0, .int .u64 0]) 2 16 Try.underlying45 hi hz0 hz1 hz2 rfl (by decide) v l.length (dcs l) hown ad 1 1 [.int .u64 h, .int .u64 l'] rfl (by
    intro j y hy
    match j, hy with
    | 0, hy => simp at hy; subst hy; obtain ⟨b, o, s⟩ := ad; exact hc
    | 1, hy => simp at hy; subst hy; exact hc1
    | j + 2, hy => simp at hy) (by intro y hy; simp at hy; rcases hy with rfl | rfl <;> rfl) (by unfold maxLen; omega) hb hB
  unfold Oper.wp execOp
  simp only [ho, resolve, invoke, builtin, Sem.run_bind, Sem.run_pure, Result.andThen_ok, List.map_toArray, List.map_cons, List.map_nil, hs, hx, hr]
  refine hK _ _ (hk v' w' ?_ (fun e => by have := (h4.1 e).2; omega) h3)
  have : dcs (l ++ [(h, l')]) = dcs l ++ [.int .u64 h, .int .u64 l'] := by rw [dcs_append]; rfl
  unfold OwnD
  rw [this, List.length_append]
  exact h2

end Go.Proofs.Ytilngncjbikkgaa
