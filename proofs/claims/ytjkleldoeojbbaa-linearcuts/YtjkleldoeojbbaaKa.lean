import Derived.Test.YtjkleldoeojbbaaGYa
import Derived.RangeFuncOwn
import Derived.RangeFuncCalls
import Derived.RangeFuncLeaves
import Derived.Shelf.Abstract
import Derived.OwnWalkIn
import Derived.TacticsInMore
import Derived.LoopNIn
import Derived.LoopIn
namespace Go.Proofs.Ytjkleldoeojbbaa
open Go.RowKit Go.Maps
set_option linter.unusedVariables false
set_option linter.unusedSimpArgs false
variable {α : Type} {Y : Lay α}

/-- A row in which a piece is put in another's place. -/
def put (M : List α) (i : Nat) (D : List α) : List α := M.take i ++ D ++ M.drop (i + D.length)
theorem put_length {M D : List α} {i : Nat} (h : i + D.length ≤ M.length) : (put M i D).length = M.length := by
  simp only [put, List.length_append, List.length_take, List.length_drop]; omega
theorem fl_put (K : Y.Ok) {M D : List α} {i : Nat} (h : i + D.length ≤ M.length) : fl Y (put M i D) = (fl Y M).take (i * Y.k) ++ fl Y D ++ (fl Y M).drop (i * Y.k + (fl Y D).length) := by
  have hM : M = M.take i ++ M.drop i := (List.take_append_drop i M).symm
  have hA : (fl Y (M.take i)).length = i * Y.k := by rw [fl_length K, List.length_take, Nat.min_eq_left (by omega)]
  have e1 : (fl Y M).take (i * Y.k) = fl Y (M.take i) := by
    conv => lhs; rw [hM, fl_append]
    rw [List.take_append_of_le_length (by omega), List.take_of_length_le (by omega)]
  have hM2 : M = M.take (i + D.length) ++ M.drop (i + D.length) := (List.take_append_drop _ M).symm
  have hB : (fl Y (M.take (i + D.length))).length = (i + D.length) * Y.k := by rw [fl_length K, List.length_take, Nat.min_eq_left (by omega)]
  have e2 : (fl Y M).drop (i * Y.k + (fl Y D).length) = fl Y (M.drop (i + D.length)) := by
    conv => lhs; rw [hM2, fl_append]
    rw [fl_length K, ← Nat.add_mul, List.drop_append_of_le_length (by omega), List.drop_of_length_le (by omega), List.nil_append]
  rw [e1, e2, put, fl_append, fl_append]
theorem run_copy_nil {P : Program} (w : World) (dT sT ty elem : TypeId) (k : Nat) (d a : Option Addr) (dn dc c : Nat)
    (hu : P.underlying dT = some (.slice elem)) (hs : (P.info? elem).map (·.size) = some k) :
    (Builtin.copy_ #[dT, sT] ty #[.slice d dn dc, .slice a 0 c]).run P w = .ok (goInt 0) w := by
  cases hq : P.info? elem with
  | none => simp [hq] at hs
  | some i =>
    have hi : i.size = k := by simpa [hq] using hs
    cases a <;> cases d <;> simp [Builtin.copy_, run_underlying hu, Builtin.lenOf, Builtin.firstCells, sizeOf, typeInfo, hq, hi, loadCells, loadCellsFrom, storeCells]
theorem run_copy_at {P : Program} (w : World) (dT sT ty elem : TypeId) (k g off dLen dCap : Nat) (a : Addr) (sLen sCap : Nat) (cur : Array Value) (t : TypeId) (cs : List Value)
    (hu : P.underlying dT = some (.slice elem)) (hs : (P.info? elem).map (·.size) = some k)
    (hg : w.heap[g]? = some (.cells cur t (0, 0))) (hn : cs.length = sLen * k) (hle : sLen ≤ dLen)
    (hsrc : ∀ j v, cs[j]? = some v → w.cell? (a.add j) = some v) (hfit : off + cs.length ≤ cur.size) (h1 : ∀ v ∈ cs, v.oneCell' = true) :
    (Builtin.copy_ #[dT, sT] ty #[.slice (some ⟨g, off, none⟩) dLen dCap, .slice (some a) sLen sCap]).run P w =
      .ok (goInt sLen) (w.setRow g (cur.toList.take off ++ cs ++ cur.toList.drop (off + cs.length)).toArray) := by
  have hl := run_loadCells_list (P := P) w a cs hsrc
  have hst := run_storeCells_at (P := P) g off t cs 0 cur w hg (by omega) h1
  rw [Nat.add_zero] at hst
  have hmin : Nat.min sLen dLen = sLen := Nat.min_eq_left hle
  cases hq : P.info? elem with
  | none => simp [hq] at hs
  | some i =>
    have hi : i.size = k := by simpa [hq] using hs
    rw [hn] at hl
    simp [Builtin.copy_, run_underlying hu, Builtin.lenOf, Builtin.firstCells, sizeOf, typeInfo, hq, hi, hl, hst, hmin, Nat.min_eq_left hle]
/-- 'copy' of what a slice holds into a row of the call's own, from a place on. -/
theorem copyY (K : Y.Ok) (w : World) {ops : Array Oper} {rest : List Oper} {o : Oper} {a : Act} {Q : Exit → Act → World → Prop} (hgd : o.guard = none) (d s : Operand)
    (ho : o.op = .call { callee := .builtin .copy, args := #[d, s], argTypes := #[Y.ST, Y.ST] }) (B g dn dc i n c m : Nat) (ad : Option Addr) (M D : List α)
    (hd : a.eval d = .slice (some ⟨g, i * Y.k, none⟩) dn dc) (hs : a.eval s = .slice ad m c) (hM : OwnY Y B w (.slice (some ⟨g, 0, none⟩) n n) M) (hD : SlY Y w ad m c D) (hi : i + m ≤ n) (hdn : m ≤ dn)
    (h : ∀ w', OwnY Y B w' (.slice (some ⟨g, 0, none⟩) n n) (put M i D) → Upd (· = g) w w' → w'.heap.size = w.heap.size → wpList Try.prog ops Q rest (a.put o.dst (goInt m)) w') : wpList Try.prog ops Q (o :: rest) a w := by
  obtain ⟨zv, hinfo, hzc⟩ := K.info
  obtain ⟨i0, hi0, hz0, hz1, hz2⟩ := info_parts hinfo
  have hsz : (Try.prog.info? Y.T).map (·.size) = some Y.k := by rw [hi0]; simp [hz1]
  have hMn : M.length = n := (hM.sl' K).len
  have hDm := hD.len
  by_cases hD0 : D = []
  · subst hD0
    have hm0 : m = 0 := hDm.symm
    subst hm0
    have hr := run_copy_nil (P := Try.prog) w Y.ST Y.ST o.type Y.T Y.k (some ⟨g, i * Y.k, none⟩) ad dn dc c K.und hsz
    refine wpList_plain hgd fun K' hK' => ?_
    unfold Oper.wp execOp
    simp only [ho, resolve, invoke, builtin, Sem.run_bind, Sem.run_pure, Result.andThen_ok, List.map_toArray, List.map_cons, List.map_nil, hd, hs, hr]
    refine hK' _ _ (h _ ?_ (Upd.refl _ _) rfl)
    have : put M i ([] : List α) = M := by simp [put]
    rw [this]
    exact hM
  · obtain ⟨q, p, rfl, hq, hl⟩ := hD.place hD0
    rcases hM with ⟨h0, h1 | ⟨g1, cap, cur, e1, e2, e3, e4, e5, e6, e7⟩⟩
    · have := h1.1; cases this
    · injection e1 with q1 q2 q3
      injection q1 with q1
      cases q1
      subst q3
      have hcs : (fl Y D).length = m * Y.k := by rw [fl_length K, hDm]
      have hfit : i * Y.k + (fl Y D).length ≤ cur.size := by rw [hcs, e6, ← Nat.add_mul]; exact Nat.mul_le_mul_right _ hi
      have hr := run_copy_at (P := Try.prog) w Y.ST Y.ST o.type Y.T Y.k g (i * Y.k) dn dc ⟨q, p, none⟩ m c cur Y.T (fl Y D) K.und hsz e3 hcs hdn (fun j u hu => by rw [Addr.add_lit]; exact hl.flat K j u hu) hfit (fl_one K D)
      refine wpList_plain hgd fun K' hK' => ?_
      unfold Oper.wp execOp
      simp only [ho, resolve, invoke, builtin, Sem.run_bind, Sem.run_pure, Result.andThen_ok, List.map_toArray, List.map_cons, List.map_nil, hd, hs, hr]
      refine hK' _ _ (h _ ?_ ⟨rfl, rfl, rfl, by simp, fun b hb hs => setRow_other w g b _ hs⟩ (by simp))
      have hpl : (put M i D).length = M.length := put_length (by omega)
      refine ⟨by rw [fl_length K], .inr ⟨g, n, _, ?_, e2, setRow_heap w g cur _ Y.T (0, 0) e3, ?_, e5, ?_, ?_⟩⟩
      · rw [hpl, ← q2]
      · rw [hpl]; exact e4
      · rw [List.size_toArray, ← e6]
        simp only [List.length_append, List.length_take, List.length_drop, Array.length_toList]
        omega
      · rw [hpl, fl_put K (by omega), ← e7]
        have hfit2 : i * Y.k + (fl Y D).length ≤ M.length * Y.k := by rw [hcs, ← Nat.add_mul]; exact Nat.mul_le_mul_right _ (by omega)
        exact splice_take hfit2

end Go.Proofs.Ytjkleldoeojbbaa
