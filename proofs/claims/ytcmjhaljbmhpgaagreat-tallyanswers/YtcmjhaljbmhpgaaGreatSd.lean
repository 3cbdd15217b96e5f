import Derived.Test.YtcmjhaljbmhpgaaGreatSa
import Derived.Test.YtcmjhaljbmhpgaaGreatHa
namespace Go.Proofs.YtcmjhaljbmhpgaaGreat
open Go.RowKit Go.Maps
open Classical
set_option linter.unusedVariables false
set_option linter.unusedSimpArgs false
variable {α : Type} {Y : Lay α}

set_option maxRecDepth 100000 in
/-- 'clear' of a row's rest. -/
theorem run_clearY (K : Y.Ok) (w : World) (ty : TypeId) (B g i m n cp c : Nat) (M : List α) (hM : OwnY Y B w (.slice (some ⟨g, 0, none⟩) n cp) M) (hi : i + m = n) (hm0 : 0 < m) :
    ∃ w', (Builtin.clear_ #[Y.ST] ty #[.slice (some ⟨g, i * Y.k, none⟩) m c]).run Tryz.prog w = .ok (.tuple #[]) w' ∧ OwnY Y B w' (.slice (some ⟨g, 0, none⟩) n cp) (put M i (List.replicate m Y.z)) ∧ Upd (· = g) w w' ∧ w'.heap.size = w.heap.size := by
  obtain ⟨zv, hinfo, hzc⟩ := K.info
  obtain ⟨i0, hi0, hz0, hz1, hz2⟩ := info_parts hinfo
  have hMn : M.length = n := (hM.sl' K).len
  have hzs : zv.cells.size = Y.k := by rw [hzc, List.size_toArray, K.len]
  have hml : (Builtin.zeroCells zv.cells m).toList = fl Y (List.replicate m Y.z) := by rw [zeroCells_made, hzs]; exact madeY K hzc m
  rcases hM with ⟨h0, h1 | ⟨g1, cap, cur, e1, e2, e3, e4, e5, e6, e7⟩⟩
  · have := h1.1; cases this
  · injection e1 with q1 q2 q3
    injection q1 with q1
    cases q1
    subst q3
    have hcs : (fl Y (List.replicate m Y.z)).length = m * Y.k := by rw [fl_length K, List.length_replicate]
    have hfit : i * Y.k + (fl Y (List.replicate m Y.z)).length ≤ cur.size := by rw [hcs, e6, ← Nat.add_mul]; exact Nat.mul_le_mul_right _ (by omega)
    have hst := run_storeCells_at (P := Tryz.prog) g (i * Y.k) Y.T (fl Y (List.replicate m Y.z)) 0 cur w e3 (by omega) (fl_one K _)
    rw [Nat.add_zero] at hst
    have hr : (Builtin.clear_ #[Y.ST] ty #[.slice (some ⟨g, i * Y.k, none⟩) m c]).run Tryz.prog w = .ok (.tuple #[]) (w.setRow g (cur.toList.take (i * Y.k) ++ fl Y (List.replicate m Y.z) ++ cur.toList.drop (i * Y.k + (fl Y (List.replicate m Y.z)).length)).toArray) := by
      cases m with
      | zero => omega
      | succ m => simp [Builtin.clear_, run_underlying K.und, zeroValue, typeInfo, hi0, hz0, hml, hst]
    refine ⟨_, hr, ?_, ⟨rfl, rfl, rfl, by simp, fun b hb hs => setRow_other w g b _ hs⟩, by simp⟩
    have hpl : (put M i (List.replicate m Y.z)).length = M.length := put_length (by rw [List.length_replicate]; omega)
    refine ⟨by rw [fl_length K], .inr ⟨g, cp, _, ?_, e2, setRow_heap w g cur _ Y.T (0, 0) e3, ?_, e5, ?_, ?_⟩⟩
    · rw [hpl, ← q2]
    · rw [hpl]; exact e4
    · rw [List.size_toArray, ← e6]
      simp only [List.length_append, List.length_take, List.length_drop, Array.length_toList]
      omega
    · rw [hpl, fl_put K (by rw [List.length_replicate]; omega), ← e7]
      have hfit2 : i * Y.k + (fl Y (List.replicate m Y.z)).length ≤ M.length * Y.k := by rw [hcs, ← Nat.add_mul]; exact Nat.mul_le_mul_right _ (by omega)
      exact splice_take hfit2
theorem clearY (K : Y.Ok) (w : World) {ops : Array Oper} {rest : List Oper} {o : Oper} {a : Act} {Q : Exit → Act → World → Prop} (hgd : o.guard = none) (d : Operand)
    (ho : o.op = .call { callee := .builtin .clear, args := #[d], argTypes := #[Y.ST] }) (B g i m n cp c : Nat) (M : List α)
    (hd : a.eval d = .slice (some ⟨g, i * Y.k, none⟩) m c) (hM : OwnY Y B w (.slice (some ⟨g, 0, none⟩) n cp) M) (hi : i + m = n) (hm0 : 0 < m)
    (h : ∀ w', OwnY Y B w' (.slice (some ⟨g, 0, none⟩) n cp) (put M i (List.replicate m Y.z)) → Upd (· = g) w w' → w'.heap.size = w.heap.size → wpList Tryz.prog ops Q rest (a.put o.dst (.tuple #[])) w') : wpList Tryz.prog ops Q (o :: rest) a w := by
  refine wpList_plain hgd fun K' hK' => ?_
  obtain ⟨w', hr, h1, h2, h3⟩ := run_clearY K w o.type B g i m n cp c M hM hi hm0
  unfold Oper.wp execOp
  simp only [ho, resolve, invoke, builtin, Sem.run_bind, Sem.run_pure, Result.andThen_ok, List.map_toArray, List.map_cons, List.map_nil, hd, hr]
  exact hK' _ _ (h w' h1 h2 h3)
/-- A row's beginning. -/
theorem OwnY.pre (K : Y.Ok) {B g n c : Nat} {w : World} {l : List α} (h : OwnY Y B w (.slice (some ⟨g, 0, none⟩) n c) l) (m : Nat) (hm : m ≤ n) : OwnY Y B w (.slice (some ⟨g, 0, none⟩) m c) (l.take m) := by
  have hln : l.length = n := (h.sl' K).len
  rcases h with ⟨h0, h1 | ⟨g1, cap, cur, e1, e2, e3, e4, e5, e6, e7⟩⟩
  · have := h1.1; cases this
  · injection e1 with q1 q2 q3
    injection q1 with q1
    cases q1
    subst q3
    have hl2 : (l.take m).length = m := by rw [List.length_take]; omega
    refine ⟨by rw [fl_length K], .inr ⟨g, c, cur, by rw [hl2], e2, e3, by omega, e5, e6, ?_⟩⟩
    rw [hl2]
    have hA : fl Y l = fl Y (l.take m) ++ fl Y (l.drop m) := by rw [← fl_append, List.take_append_drop]
    have hL : (fl Y (l.take m)).length = m * Y.k := by rw [fl_length K, hl2]
    have : (cur.toList.take (l.length * Y.k)).take (m * Y.k) = cur.toList.take (m * Y.k) := by
      rw [List.take_take, Nat.min_eq_left (Nat.mul_le_mul_right _ (by omega))]
    rw [← this, e7, hA, ← hL]
    exact List.take_left
/-- Is a vote's life known to be over? -/
def ovr (D : List (Int × Int)) (n h l : Int) : Bool := decide (0 ≤ n ∧ n < (D.length : Int)) && decide (cmpD h l (D.getD n.toNat (0, 0)).1 (D.getD n.toNat (0, 0)).2 < 0)

end Go.Proofs.YtcmjhaljbmhpgaaGreat
