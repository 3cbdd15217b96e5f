import Derived.OrdersHeld
import Derived.Deep.RegionHeld3
import Derived.Lib.Strings
import Derived.RangeFuncOwn
import Derived.RangeFuncCalls
import Derived.RangeFuncLeaves
import Derived.Shelf.Abstract
import Derived.OwnWalkIn
import Derived.TacticsInMore
import Derived.LoopNIn
import Derived.LoopIn
import Derived.ChangeOld
import Derived.ProofKit
import Derived.OpenShut
import Derived.Deep.SlicePairs
import Derived.SizedLaws
import Derived.Shelf.SlSortCmp.WholeK
import Derived.Shelf.SlicesG.Cmp
import Derived.Shelf.SlGeneric
import Derived.Shelf.Lay
import Derived.Ground.SlsfProg
import Derived.Ground.SlgcProg
import Derived.Laws.IdiomRangeMap
import Derived.Laws.AppendOwnNone
import Derived.BigQuiet
import Derived.Test.YtjfbkeommlopmaaGreatDoorE0
namespace Go.Proofs.YtjfbkeommlopmaaGreatDoor
open Go.RowKit Go.Maps
open Classical
set_option linter.unusedVariables false
set_option linter.unusedSimpArgs false
theorem wl_val {ops : Array Oper} {rest : List Oper} {o : Oper} {a : Act} {w : World} {Q : Exit → Act → World → Prop} {v : Value} (hw : Region.wanted o (yielded ops a.tmps) = true) (h : (execOp a.eval o).run Tryz.prog w = .ok (.value v) w)
    (hk : wpList Tryz.prog ops Q rest (a.put o.dst v) w) : wpList Tryz.prog ops Q (o :: rest) a w :=
  BigFrame.wpList_want hw (fun K hK => by unfold Oper.wp; rw [h, Oper.upon_value]; exact hK _ _ hk)
theorem want_none {ops : Array Oper} {o : Oper} {T : Array Value} (h : o.guard = none) : Region.wanted o (yielded ops T) = true := by simp [Region.wanted, h]
theorem want_at {ops : Array Oper} {o : Oper} {T : Array Value} {g j : Nat} {b : Bool} (h : o.guard = some (g, true)) (hg : (ops[g]?).bind (·.dst) = some j) (hj : T[j]? = some (.bool b)) : Region.wanted o (yielded ops T) = b := by
  simp [Region.wanted, h, yielded, hg, hj]
theorem getD_of {T : Array Value} {i : Nat} {v : Value} (h : T[i]? = some v) : T.getD i undef = v := by rw [Array.getD_eq_getD_getElem?, h]; rfl
theorem at_set {T : Array Value} {i : Nat} (v : Value) (h : i < T.size) : (T.setIfInBounds i v)[i]? = some v := by simp [h]
theorem at_set_ne {T : Array Value} {i j : Nat} (v : Value) (h : j ≠ i) : (T.setIfInBounds i v)[j]? = T[j]? := by rw [Array.getElem?_setIfInBounds_ne (fun e => h e.symm)]
theorem skip5 {ops : Array Oper} {rest : List Oper} {o1 o2 o3 o4 o5 : Oper} {T : Array Value} {df : List Deferred} {w : World} {Q : Exit → Act → World → Prop} {g j d : Nat} (hg : (ops[g]?).bind (·.dst) = some j) (hj : T[j]? = some (.bool false)) (hjd : j < d)
    (g1 : o1.guard = some (g, true)) (g2 : o2.guard = some (g, true)) (g3 : o3.guard = some (g, true)) (g4 : o4.guard = some (g, true)) (g5 : o5.guard = some (g, true))
    (d1 : o1.dst = some d) (d2 : o2.dst = some (d + 1)) (d3 : o3.dst = some (d + 2)) (d4 : o4.dst = some (d + 3)) (d5 : o5.dst = some (d + 4))
    (hk : ∀ T' : Array Value, T'.size = T.size → (∀ i, i < d → T'[i]? = T[i]?) → wpList Tryz.prog ops Q rest ⟨T', df⟩ w) : wpList Tryz.prog ops Q (o1 :: o2 :: o3 :: o4 :: o5 :: rest) ⟨T, df⟩ w := by
  have e1 : (T.setIfInBounds d undef)[j]? = some (.bool false) := (at_set_ne _ (by omega)).trans hj
  have e2 : ((T.setIfInBounds d undef).setIfInBounds (d + 1) undef)[j]? = some (.bool false) := (at_set_ne _ (by omega)).trans e1
  have e3 : (((T.setIfInBounds d undef).setIfInBounds (d + 1) undef).setIfInBounds (d + 2) undef)[j]? = some (.bool false) := (at_set_ne _ (by omega)).trans e2
  have e4 : ((((T.setIfInBounds d undef).setIfInBounds (d + 1) undef).setIfInBounds (d + 2) undef).setIfInBounds (d + 3) undef)[j]? = some (.bool false) := (at_set_ne _ (by omega)).trans e3
  refine wpList_skip (want_at g1 hg hj) ?_
  rw [d1]
  refine wpList_skip (want_at g2 hg e1) ?_
  rw [d2]
  refine wpList_skip (want_at g3 hg e2) ?_
  rw [d3]
  refine wpList_skip (want_at g4 hg e3) ?_
  rw [d4]
  refine wpList_skip (want_at g5 hg e4) ?_
  rw [d5]
  simp only [Act.put]
  refine hk _ (by simp) (fun i hi => ?_)
  rw [at_set_ne _ (by omega), at_set_ne _ (by omega), at_set_ne _ (by omega), at_set_ne _ (by omega), at_set_ne _ (by omega)]
theorem pick2 {ops : Array Oper} {rest : List Oper} {o6 o7 : Oper} {T : Array Value} {df : List Deferred} {w : World} {Q : Exit → Act → World → Prop} {j d : Nat} {b c : Bool} {v : Value} (hjd : j < d) (hsz : d + 2 < T.size) (hj : T[j]? = some (.bool b)) (hv : T[d]? = some v) (hc : b = true → v = .bool c)
    (g6 : o6.guard = none) (g7 : o7.guard = none) (e6 : o6.op = .pick (.tmp j) (.tmp d) (.const (.bool false))) (e7 : o7.op = .move (.tmp (d + 1))) (d6 : o6.dst = some (d + 1)) (d7 : o7.dst = some (d + 2))
    (hk : ∀ T' : Array Value, T'.size = T.size → (∀ i, i < d → T'[i]? = T[i]?) → T'[d + 2]? = some (.bool (b && c)) → wpList Tryz.prog ops Q rest ⟨T', df⟩ w) : wpList Tryz.prog ops Q (o6 :: o7 :: rest) ⟨T, df⟩ w := by
  refine wl_val (v := .bool (b && c)) (want_none g6) ?_ ?_
  · unfold execOp
    simp only [e6, Act.eval, getD_of hj, getD_of hv]
    cases b
    · rfl
    · rw [hc rfl]; cases c <;> rfl
  rw [d6]
  have s1 : (T.setIfInBounds (d + 1) (.bool (b && c)))[d + 1]? = some (.bool (b && c)) := at_set _ (by omega)
  refine wl_val (v := .bool (b && c)) (want_none g7) ?_ ?_
  · unfold execOp
    simp only [e7, Act.eval, Act.put, getD_of s1]
    rfl
  rw [d7]
  simp only [Act.put]
  refine hk _ (by simp) (fun i hi => ?_) ?_
  · rw [at_set_ne _ (by omega), at_set_ne _ (by omega)]
  · exact at_set _ (by simp; omega)
theorem eq5 {ops : Array Oper} {rest : List Oper} {o1 o2 o3 o4 o5 : Oper} {T : Array Value} {df : List Deferred} {w : World} {Q : Exit → Act → World → Prop} {d f : Nat} {ty ty' : TypeId} {p1 p2 u1 u2 x y : Value} {c : Bool} (hd : 3 < d) (hsz : d + 4 < T.size) (h2 : T[2]? = some p1) (h3 : T[3]? = some p2)
    (w1 : ∀ T' : Array Value, (∀ i, i < d → T'[i]? = T[i]?) → Region.wanted o1 (yielded ops T') = true ∧ Region.wanted o2 (yielded ops T') = true ∧ Region.wanted o3 (yielded ops T') = true ∧ Region.wanted o4 (yielded ops T') = true ∧ Region.wanted o5 (yielded ops T') = true)
    (e1 : o1.op = .fieldAddr 38 (.tmp 2) f) (e2 : o2.op = .load ty (.tmp d)) (e3 : o3.op = .fieldAddr 38 (.tmp 3) f) (e4 : o4.op = .load ty (.tmp (d + 2))) (e5 : o5.op = .binOp .eql ty (.tmp (d + 1)) (.tmp (d + 3)) ty')
    (d1 : o1.dst = some d) (d2 : o2.dst = some (d + 1)) (d3 : o3.dst = some (d + 2)) (d4 : o4.dst = some (d + 3)) (d5 : o5.dst = some (d + 4))
    (r1 : (Instr.fieldAt 38 p1 f).run Tryz.prog w = .ok u1 w) (r2 : (Instr.loadAt ty u1).run Tryz.prog w = .ok x w) (r3 : (Instr.fieldAt 38 p2 f).run Tryz.prog w = .ok u2 w) (r4 : (Instr.loadAt ty u2).run Tryz.prog w = .ok y w)
    (r5 : (do eqGuard .eql ty (.tmp (d + 1)) (.tmp (d + 3)) x y; binOp .eql ty x y : Sem Value).run Tryz.prog w = .ok (.bool c) w)
    (hk : ∀ T' : Array Value, T'.size = T.size → (∀ i, i < d → T'[i]? = T[i]?) → T'[d + 4]? = some (.bool c) → wpList Tryz.prog ops Q rest ⟨T', df⟩ w) : wpList Tryz.prog ops Q (o1 :: o2 :: o3 :: o4 :: o5 :: rest) ⟨T, df⟩ w := by
  refine wl_val (v := u1) (w1 T (fun _ _ => rfl)).1 ?_ ?_
  · unfold execOp
    simp only [e1, Act.eval, getD_of h2, Sem.run_bind, r1, Result.andThen_ok]
    rfl
  rw [d1]
  have k1 : ∀ i, i < d → (T.setIfInBounds d u1)[i]? = T[i]? := fun i hi => at_set_ne _ (by omega)
  have s1 : (T.setIfInBounds d u1)[d]? = some u1 := at_set _ (by omega)
  refine wl_val (v := x) (w1 _ k1).2.1 ?_ ?_
  · unfold execOp
    simp only [e2, Act.eval, Act.put, getD_of s1, Sem.run_bind, r2, Result.andThen_ok]
    rfl
  rw [d2]
  show wpList _ _ _ _ ⟨(T.setIfInBounds d u1).setIfInBounds (d + 1) x, df⟩ w
  generalize hT2 : (T.setIfInBounds d u1).setIfInBounds (d + 1) x = T2
  have k2 : ∀ i, i < d → T2[i]? = T[i]? := fun i hi => by rw [← hT2, at_set_ne _ (by omega)]; exact k1 i hi
  have s2 : T2[d + 1]? = some x := by rw [← hT2]; exact at_set _ (by simp; omega)
  have z2 : T2.size = T.size := by rw [← hT2]; simp
  clear hT2 s1 k1
  refine wl_val (v := u2) (w1 _ k2).2.2.1 ?_ ?_
  · unfold execOp
    simp only [e3, Act.eval, getD_of ((k2 3 hd).trans h3), Sem.run_bind, r3, Result.andThen_ok]
    rfl
  rw [d3]
  show wpList _ _ _ _ ⟨T2.setIfInBounds (d + 2) u2, df⟩ w
  have k3 : ∀ i, i < d → (T2.setIfInBounds (d + 2) u2)[i]? = T[i]? := fun i hi => by rw [at_set_ne _ (by omega)]; exact k2 i hi
  have s3 : (T2.setIfInBounds (d + 2) u2)[d + 2]? = some u2 := at_set _ (by omega)
  refine wl_val (v := y) (w1 _ k3).2.2.2.1 ?_ ?_
  · unfold execOp
    simp only [e4, Act.eval, getD_of s3, Sem.run_bind, r4, Result.andThen_ok]
    rfl
  rw [d4]
  show wpList _ _ _ _ ⟨(T2.setIfInBounds (d + 2) u2).setIfInBounds (d + 3) y, df⟩ w
  generalize hT4 : (T2.setIfInBounds (d + 2) u2).setIfInBounds (d + 3) y = T4
  have k4 : ∀ i, i < d → T4[i]? = T[i]? := fun i hi => by rw [← hT4, at_set_ne _ (by omega)]; exact k3 i hi
  have s4 : T4[d + 3]? = some y := by rw [← hT4]; exact at_set _ (by simp; omega)
  have s4' : T4[d + 1]? = some x := by rw [← hT4, at_set_ne _ (by omega), at_set_ne _ (by omega)]; exact s2
  have z4 : T4.size = T.size := by rw [← hT4]; simp [z2]
  clear hT4 s3 k3 s2 z2 k2
  refine wl_val (v := .bool c) (w1 _ k4).2.2.2.2 ?_ ?_
  · unfold execOp
    simp only [e5, Act.eval, getD_of s4, getD_of s4']
    rw [Sem.run_bind, r5]
    rfl
  rw [d5]
  simp only [Act.put]
  exact hk _ (by simp [z4]) (fun i hi => by rw [at_set_ne _ (by omega)]; exact k4 i hi) (at_set _ (by omega))
theorem conj7 {ops : Array Oper} {rest : List Oper} {o1 o2 o3 o4 o5 o6 o7 : Oper} {T : Array Value} {df : List Deferred} {w : World} {Q : Exit → Act → World → Prop} {g j d f : Nat} {ty ty' : TypeId} {p1 p2 u1 u2 x y : Value} {b c : Bool} (hd : 3 < d) (hjd : j < d) (hsz : d + 6 < T.size) (h2 : T[2]? = some p1) (h3 : T[3]? = some p2) (hj : T[j]? = some (.bool b)) (hg : (ops[g]?).bind (·.dst) = some j)
    (g1 : o1.guard = some (g, true)) (g2 : o2.guard = some (g, true)) (g3 : o3.guard = some (g, true)) (g4 : o4.guard = some (g, true)) (g5 : o5.guard = some (g, true)) (g6 : o6.guard = none) (g7 : o7.guard = none)
    (e1 : o1.op = .fieldAddr 38 (.tmp 2) f) (e2 : o2.op = .load ty (.tmp d)) (e3 : o3.op = .fieldAddr 38 (.tmp 3) f) (e4 : o4.op = .load ty (.tmp (d + 2))) (e5 : o5.op = .binOp .eql ty (.tmp (d + 1)) (.tmp (d + 3)) ty')
    (e6 : o6.op = .pick (.tmp j) (.tmp (d + 4)) (.const (.bool false))) (e7 : o7.op = .move (.tmp (d + 5)))
    (d1 : o1.dst = some d) (d2 : o2.dst = some (d + 1)) (d3 : o3.dst = some (d + 2)) (d4 : o4.dst = some (d + 3)) (d5 : o5.dst = some (d + 4)) (d6 : o6.dst = some (d + 5)) (d7 : o7.dst = some (d + 6))
    (r1 : (Instr.fieldAt 38 p1 f).run Tryz.prog w = .ok u1 w) (r2 : (Instr.loadAt ty u1).run Tryz.prog w = .ok x w) (r3 : (Instr.fieldAt 38 p2 f).run Tryz.prog w = .ok u2 w) (r4 : (Instr.loadAt ty u2).run Tryz.prog w = .ok y w)
    (r5 : (do eqGuard .eql ty (.tmp (d + 1)) (.tmp (d + 3)) x y; binOp .eql ty x y : Sem Value).run Tryz.prog w = .ok (.bool c) w)
    (hk : ∀ T' : Array Value, T'.size = T.size → (∀ i, i < d → T'[i]? = T[i]?) → T'[d + 6]? = some (.bool (b && c)) → wpList Tryz.prog ops Q rest ⟨T', df⟩ w) : wpList Tryz.prog ops Q (o1 :: o2 :: o3 :: o4 :: o5 :: o6 :: o7 :: rest) ⟨T, df⟩ w := by
  cases b with
  | false =>
    refine skip5 hg hj hjd g1 g2 g3 g4 g5 d1 d2 d3 d4 d5 (fun T1 z1 k1 => ?_)
    obtain ⟨v, hv⟩ : ∃ v, T1[d + 4]? = some v := ⟨_, Array.getElem?_eq_getElem (by omega)⟩
    exact pick2 (c := c) (by omega) (by omega) ((k1 j hjd).trans hj) hv (fun e => by cases e) g6 g7 e6 e7 d6 d7 (fun T2 z2 k2 s2 => hk T2 (z2.trans z1) (fun i hi => (k2 i (by omega)).trans (k1 i hi)) s2)
  | true =>
    refine eq5 hd (by omega) h2 h3 (fun T' k' => ?_) e1 e2 e3 e4 e5 d1 d2 d3 d4 d5 r1 r2 r3 r4 r5 (fun T1 z1 k1 s1 => ?_)
    · have hj' := (k' j hjd).trans hj
      exact ⟨want_at g1 hg hj', want_at g2 hg hj', want_at g3 hg hj', want_at g4 hg hj', want_at g5 hg hj'⟩
    · exact pick2 (c := c) (by omega) (by omega) ((k1 j hjd).trans hj) s1 (fun _ => rfl) g6 g7 e6 e7 d6 d7 (fun T2 z2 k2 s2 => hk T2 (z2.trans z1) (fun i hi => (k2 i (by omega)).trans (k1 i hi)) s2)
theorem call5 {ops : Array Oper} {rest : List Oper} {o1 o2 o3 o4 o5 : Oper} {T : Array Value} {df : List Deferred} {w : World} {Q : Exit → Act → World → Prop} {d f : Nat} {ty : TypeId} {fid : FuncId} {p1 p2 u1 u2 x y : Value} {c : Bool} (hd : 3 < d) (hsz : d + 4 < T.size) (h2 : T[2]? = some p1) (h3 : T[3]? = some p2)
    (w1 : ∀ T' : Array Value, (∀ i, i < d → T'[i]? = T[i]?) → Region.wanted o1 (yielded ops T') = true ∧ Region.wanted o2 (yielded ops T') = true ∧ Region.wanted o3 (yielded ops T') = true ∧ Region.wanted o4 (yielded ops T') = true ∧ Region.wanted o5 (yielded ops T') = true)
    (e1 : o1.op = .fieldAddr 38 (.tmp 2) f) (e2 : o2.op = .load ty (.tmp d)) (e3 : o3.op = .fieldAddr 38 (.tmp 3) f) (e4 : o4.op = .load ty (.tmp (d + 2))) (e5 : ∀ a : Act, a.eval (.tmp (d + 1)) = x → a.eval (.tmp (d + 3)) = y → (execOp a.eval o5).run Tryz.prog w = .ok (.enter fid #[x, y]) w)
    (d1 : o1.dst = some d) (d2 : o2.dst = some (d + 1)) (d3 : o3.dst = some (d + 2)) (d4 : o4.dst = some (d + 3)) (d5 : o5.dst = some (d + 4))
    (r1 : (Instr.fieldAt 38 p1 f).run Tryz.prog w = .ok u1 w) (r2 : (Instr.loadAt ty u1).run Tryz.prog w = .ok x w) (r3 : (Instr.fieldAt 38 p2 f).run Tryz.prog w = .ok u2 w) (r4 : (Instr.loadAt ty u2).run Tryz.prog w = .ok y w)
    (r5 : Calls Tryz.prog fid #[x, y] w fun e w' => e = .returned (.bool c) ∧ ∃ k, w' = w.drewN k)
    (hk : ∀ (T' : Array Value) (k : Nat), T'.size = T.size → (∀ i, i < d → T'[i]? = T[i]?) → T'[d + 4]? = some (.bool c) → wpList Tryz.prog ops Q rest ⟨T', df⟩ (w.drewN k)) : wpList Tryz.prog ops Q (o1 :: o2 :: o3 :: o4 :: o5 :: rest) ⟨T, df⟩ w := by
  refine wl_val (v := u1) (w1 T (fun _ _ => rfl)).1 ?_ ?_
  · unfold execOp
    simp only [e1, Act.eval, getD_of h2, Sem.run_bind, r1, Result.andThen_ok]
    rfl
  rw [d1]
  have k1 : ∀ i, i < d → (T.setIfInBounds d u1)[i]? = T[i]? := fun i hi => at_set_ne _ (by omega)
  have s1 : (T.setIfInBounds d u1)[d]? = some u1 := at_set _ (by omega)
  refine wl_val (v := x) (w1 _ k1).2.1 ?_ ?_
  · unfold execOp
    simp only [e2, Act.eval, Act.put, getD_of s1, Sem.run_bind, r2, Result.andThen_ok]
    rfl
  rw [d2]
  show wpList _ _ _ _ ⟨(T.setIfInBounds d u1).setIfInBounds (d + 1) x, df⟩ w
  generalize hT2 : (T.setIfInBounds d u1).setIfInBounds (d + 1) x = T2
  have k2 : ∀ i, i < d → T2[i]? = T[i]? := fun i hi => by rw [← hT2, at_set_ne _ (by omega)]; exact k1 i hi
  have s2 : T2[d + 1]? = some x := by rw [← hT2]; exact at_set _ (by simp; omega)
  have z2 : T2.size = T.size := by rw [← hT2]; simp
  clear hT2 s1 k1
  refine wl_val (v := u2) (w1 _ k2).2.2.1 ?_ ?_
  · unfold execOp
    simp only [e3, Act.eval, getD_of ((k2 3 hd).trans h3), Sem.run_bind, r3, Result.andThen_ok]
    rfl
  rw [d3]
  show wpList _ _ _ _ ⟨T2.setIfInBounds (d + 2) u2, df⟩ w
  have k3 : ∀ i, i < d → (T2.setIfInBounds (d + 2) u2)[i]? = T[i]? := fun i hi => by rw [at_set_ne _ (by omega)]; exact k2 i hi
  have s3 : (T2.setIfInBounds (d + 2) u2)[d + 2]? = some u2 := at_set _ (by omega)
  refine wl_val (v := y) (w1 _ k3).2.2.2.1 ?_ ?_
  · unfold execOp
    simp only [e4, Act.eval, getD_of s3, Sem.run_bind, r4, Result.andThen_ok]
    rfl
  rw [d4]
  show wpList _ _ _ _ ⟨(T2.setIfInBounds (d + 2) u2).setIfInBounds (d + 3) y, df⟩ w
  generalize hT4 : (T2.setIfInBounds (d + 2) u2).setIfInBounds (d + 3) y = T4
  have k4 : ∀ i, i < d → T4[i]? = T[i]? := fun i hi => by rw [← hT4, at_set_ne _ (by omega)]; exact k3 i hi
  have s4 : T4[d + 3]? = some y := by rw [← hT4]; exact at_set _ (by simp; omega)
  have s4' : T4[d + 1]? = some x := by rw [← hT4, at_set_ne _ (by omega), at_set_ne _ (by omega)]; exact s2
  have z4 : T4.size = T.size := by rw [← hT4]; simp [z2]
  clear hT4 s3 k3 s2 z2 k2
  refine BigFrame.wpList_want (w1 _ k4).2.2.2.2 (fun K hK => ?_)
  have hr : (execOp (⟨T4, df⟩ : Act).eval o5).run Tryz.prog w = .ok (.enter fid #[x, y]) w := e5 _ (getD_of s4') (getD_of s4)
  unfold Oper.wp
  rw [hr, Oper.upon_enter]
  refine r5.mono ?_
  rintro e w' ⟨rfl, n, rfl⟩
  refine hK _ _ ?_
  rw [d5]
  simp only [Act.put]
  exact hk _ n (by simp [z4]) (fun i hi => by rw [at_set_ne _ (by omega)]; exact k4 i hi) (at_set _ (by omega))
theorem conjC7 {ops : Array Oper} {rest : List Oper} {o1 o2 o3 o4 o5 o6 o7 : Oper} {T : Array Value} {df : List Deferred} {w : World} {Q : Exit → Act → World → Prop} {g j d f : Nat} {ty : TypeId} {fid : FuncId} {p1 p2 u1 u2 x y : Value} {b c : Bool} (hd : 3 < d) (hjd : j < d) (hsz : d + 6 < T.size) (h2 : T[2]? = some p1) (h3 : T[3]? = some p2) (hj : T[j]? = some (.bool b)) (hg : (ops[g]?).bind (·.dst) = some j)
    (g1 : o1.guard = some (g, true)) (g2 : o2.guard = some (g, true)) (g3 : o3.guard = some (g, true)) (g4 : o4.guard = some (g, true)) (g5 : o5.guard = some (g, true)) (g6 : o6.guard = none) (g7 : o7.guard = none)
    (e1 : o1.op = .fieldAddr 38 (.tmp 2) f) (e2 : o2.op = .load ty (.tmp d)) (e3 : o3.op = .fieldAddr 38 (.tmp 3) f) (e4 : o4.op = .load ty (.tmp (d + 2))) (e5 : ∀ a : Act, a.eval (.tmp (d + 1)) = x → a.eval (.tmp (d + 3)) = y → (execOp a.eval o5).run Tryz.prog w = .ok (.enter fid #[x, y]) w)
    (e6 : o6.op = .pick (.tmp j) (.tmp (d + 4)) (.const (.bool false))) (e7 : o7.op = .move (.tmp (d + 5)))
    (d1 : o1.dst = some d) (d2 : o2.dst = some (d + 1)) (d3 : o3.dst = some (d + 2)) (d4 : o4.dst = some (d + 3)) (d5 : o5.dst = some (d + 4)) (d6 : o6.dst = some (d + 5)) (d7 : o7.dst = some (d + 6))
    (r1 : (Instr.fieldAt 38 p1 f).run Tryz.prog w = .ok u1 w) (r2 : (Instr.loadAt ty u1).run Tryz.prog w = .ok x w) (r3 : (Instr.fieldAt 38 p2 f).run Tryz.prog w = .ok u2 w) (r4 : (Instr.loadAt ty u2).run Tryz.prog w = .ok y w)
    (r5 : Calls Tryz.prog fid #[x, y] w fun e w' => e = .returned (.bool c) ∧ ∃ k, w' = w.drewN k)
    (hk : ∀ (T' : Array Value) (k : Nat), T'.size = T.size → (∀ i, i < d → T'[i]? = T[i]?) → T'[d + 6]? = some (.bool (b && c)) → wpList Tryz.prog ops Q rest ⟨T', df⟩ (w.drewN k)) : wpList Tryz.prog ops Q (o1 :: o2 :: o3 :: o4 :: o5 :: o6 :: o7 :: rest) ⟨T, df⟩ w := by
  cases b with
  | false =>
    refine skip5 hg hj hjd g1 g2 g3 g4 g5 d1 d2 d3 d4 d5 (fun T1 z1 k1 => ?_)
    obtain ⟨v, hv⟩ : ∃ v, T1[d + 4]? = some v := ⟨_, Array.getElem?_eq_getElem (by omega)⟩
    exact pick2 (c := c) (by omega) (by omega) ((k1 j hjd).trans hj) hv (fun e => by cases e) g6 g7 e6 e7 d6 d7 (fun T2 z2 k2 s2 => hk T2 0 (z2.trans z1) (fun i hi => (k2 i (by omega)).trans (k1 i hi)) s2)
  | true =>
    refine call5 hd (by omega) h2 h3 (fun T' k' => ?_) e1 e2 e3 e4 e5 d1 d2 d3 d4 d5 r1 r2 r3 r4 r5 (fun T1 n z1 k1 s1 => ?_)
    · have hj' := (k' j hjd).trans hj
      exact ⟨want_at g1 hg hj', want_at g2 hg hj', want_at g3 hg hj', want_at g4 hg hj', want_at g5 hg hj'⟩
    · exact pick2 (c := c) (by omega) (by omega) ((k1 j hjd).trans hj) s1 (fun _ => rfl) g6 g7 e6 e7 d6 d7 (fun T2 z2 k2 s2 => hk T2 n (z2.trans z1) (fun i hi => (k2 i (by omega)).trans (k1 i hi)) s2)
theorem pick4 {ops : Array Oper} {o6 o7 : Oper} {T : Array Value} {df : List Deferred} {w : World} {Q : Exit → Act → World → Prop} {j d : Nat} {b c : Bool} {v : Value} (hjd : j < d) (h4 : 4 < d) (hsz : d + 1 < T.size) (hj : T[j]? = some (.bool b)) (hv : T[d]? = some v) (hc : b = true → v = .bool c)
    (g6 : o6.guard = none) (g7 : o7.guard = none) (e6 : o6.op = .pick (.tmp j) (.tmp d) (.const (.bool false))) (e7 : o7.op = .assign (.tmp (d + 1))) (d6 : o6.dst = some (d + 1)) (d7 : o7.dst = some 4)
    (hk : ∀ T' : Array Value, T'[4]? = some (.bool (b && c)) → Q .normal ⟨T', df⟩ w) : wpList Tryz.prog ops Q [o6, o7] ⟨T, df⟩ w := by
  refine wl_val (v := .bool (b && c)) (want_none g6) ?_ ?_
  · unfold execOp
    simp only [e6, Act.eval, getD_of hj, getD_of hv]
    cases b
    · rfl
    · rw [hc rfl]; cases c <;> rfl
  rw [d6]
  have s1 : (T.setIfInBounds (d + 1) (.bool (b && c)))[d + 1]? = some (.bool (b && c)) := at_set _ (by omega)
  refine wl_val (v := .bool (b && c)) (want_none g7) ?_ ?_
  · unfold execOp
    simp only [e7, Act.eval, Act.put, getD_of s1]
    rfl
  rw [d7]
  simp only [Act.put]
  exact wpList_nil (hk _ (at_set _ (by simp; omega)))
theorem conjC4 {ops : Array Oper} {o1 o2 o3 o4 o5 o6 o7 : Oper} {T : Array Value} {df : List Deferred} {w : World} {Q : Exit → Act → World → Prop} {g j d f : Nat} {ty : TypeId} {fid : FuncId} {p1 p2 u1 u2 x y : Value} {b c : Bool} (hd : 4 < d) (hjd : j < d) (hsz : d + 5 < T.size) (h2 : T[2]? = some p1) (h3 : T[3]? = some p2) (hj : T[j]? = some (.bool b)) (hg : (ops[g]?).bind (·.dst) = some j)
    (g1 : o1.guard = some (g, true)) (g2 : o2.guard = some (g, true)) (g3 : o3.guard = some (g, true)) (g4 : o4.guard = some (g, true)) (g5 : o5.guard = some (g, true)) (g6 : o6.guard = none) (g7 : o7.guard = none)
    (e1 : o1.op = .fieldAddr 38 (.tmp 2) f) (e2 : o2.op = .load ty (.tmp d)) (e3 : o3.op = .fieldAddr 38 (.tmp 3) f) (e4 : o4.op = .load ty (.tmp (d + 2))) (e5 : ∀ a : Act, a.eval (.tmp (d + 1)) = x → a.eval (.tmp (d + 3)) = y → (execOp a.eval o5).run Tryz.prog w = .ok (.enter fid #[x, y]) w)
    (e6 : o6.op = .pick (.tmp j) (.tmp (d + 4)) (.const (.bool false))) (e7 : o7.op = .assign (.tmp (d + 5)))
    (d1 : o1.dst = some d) (d2 : o2.dst = some (d + 1)) (d3 : o3.dst = some (d + 2)) (d4 : o4.dst = some (d + 3)) (d5 : o5.dst = some (d + 4)) (d6 : o6.dst = some (d + 5)) (d7 : o7.dst = some 4)
    (r1 : (Instr.fieldAt 38 p1 f).run Tryz.prog w = .ok u1 w) (r2 : (Instr.loadAt ty u1).run Tryz.prog w = .ok x w) (r3 : (Instr.fieldAt 38 p2 f).run Tryz.prog w = .ok u2 w) (r4 : (Instr.loadAt ty u2).run Tryz.prog w = .ok y w)
    (r5 : Calls Tryz.prog fid #[x, y] w fun e w' => e = .returned (.bool c) ∧ ∃ k, w' = w.drewN k)
    (hk : ∀ (T' : Array Value) (k : Nat), T'[4]? = some (.bool (b && c)) → Q .normal ⟨T', df⟩ (w.drewN k)) : wpList Tryz.prog ops Q (o1 :: o2 :: o3 :: o4 :: o5 :: [o6, o7]) ⟨T, df⟩ w := by
  cases b with
  | false =>
    refine skip5 hg hj hjd g1 g2 g3 g4 g5 d1 d2 d3 d4 d5 (fun T1 z1 k1 => ?_)
    obtain ⟨v, hv⟩ : ∃ v, T1[d + 4]? = some v := ⟨_, Array.getElem?_eq_getElem (by omega)⟩
    exact pick4 (c := c) (by omega) (by omega) (by omega) ((k1 j hjd).trans hj) hv (fun e => by cases e) g6 g7 e6 e7 d6 d7 (fun T2 s2 => hk T2 0 s2)
  | true =>
    refine call5 (by omega) (by omega) h2 h3 (fun T' k' => ?_) e1 e2 e3 e4 e5 d1 d2 d3 d4 d5 r1 r2 r3 r4 r5 (fun T1 n z1 k1 s1 => ?_)
    · have hj' := (k' j hjd).trans hj
      exact ⟨want_at g1 hg hj', want_at g2 hg hj', want_at g3 hg hj', want_at g4 hg hj', want_at g5 hg hj'⟩
    · exact pick4 (c := c) (by omega) (by omega) (by omega) ((k1 j hjd).trans hj) s1 (fun _ => rfl) g6 g7 e6 e7 d6 d7 (fun T2 s2 => hk T2 n s2)
theorem boxMk {ops : Array Oper} {rest : List Oper} {o : Oper} {a : Act} {w : World} {Q : Exit → Act → World → Prop} (hgd : o.guard = none) (x : Operand) (ho : o.op = .box 38 x) (m : Mg) (s t : Value) (hx : a.eval x = m.val s t)
    (hk : ∀ p w', p = w.heap.size → MBox w' p m s t → Below w.heap.size w w' → w'.heap.size = p + 1 → wpList Tryz.prog ops Q rest (a.put o.dst (.pointer (some ⟨p, 0, none⟩))) w') : wpList Tryz.prog ops Q (o :: rest) a w :=
  boxM hgd x ho m s t hx (hk _ _ rfl (MBox.new w m s t) ((Below.refl _ _).alloc (Nat.le_refl _) _) (by simp))
def enM (a b : En) : Bool := decide (a.c = b.c) && (decide (a.n = b.n) && (decide (a.o.k = b.o.k) && (decide (a.o.s = b.o.s) && decide (a.o.v.data = b.o.v.data))))
theorem enM_iff (a b : En) : enM a b = true ↔ a = b := by
  obtain ⟨c, n, ⟨k, s, ⟨v⟩⟩⟩ := a
  obtain ⟨c', n', ⟨k', s', ⟨v'⟩⟩⟩ := b
  simp only [enM, Bool.and_eq_true, decide_eq_true_eq, En.mk.injEq, Opn.mk.injEq, ByteArray.mk.injEq]
def leM : List En → List En → Bool
  | [], [] => true
  | a :: r, b :: s => enM a b && leM r s
  | _, _ => false
theorem leM_iff : ∀ A B : List En, leM A B = true ↔ A = B
  | [], [] => by simp [leM]
  | a :: r, b :: s => by simp [leM, enM_iff, leM_iff r s]
  | [], b :: s => by simp [leM]
  | a :: r, [] => by simp [leM]
def sameM (m m' : Mg) (L L' : List En) (D D' : List (Int × Int)) : Bool := decide (m.k = m'.k) && (decide (m.nd = m'.nd) && (decide (m.vw = m'.vw) && (enM m.e m'.e && (decide (m.r.1 = m'.r.1) && (decide (m.r.2.1 = m'.r.2.1) && (decide (m.r.2.2.data = m'.r.2.2.data) && (decide (m.p = m'.p) && (decide (m.cm = m'.cm) && (decide (m.ls = m'.ls) && (decide (m.d = m'.d) && (leM L L' && decide (D = D'))))))))))))
theorem sameM_iff (m m' : Mg) (L L' : List En) (D D' : List (Int × Int)) : sameM m m' L L' D D' = true ↔ (m = m' ∧ L = L' ∧ D = D') := by
  obtain ⟨k, nd, vw, e, ⟨r1, r2, ⟨r3⟩⟩, p, cm, ls, d⟩ := m
  obtain ⟨k', nd', vw', e', ⟨r1', r2', ⟨r3'⟩⟩, p', cm', ls', d'⟩ := m'
  simp only [sameM, Bool.and_eq_true, decide_eq_true_eq, enM_iff, leM_iff, Mg.mk.injEq, Prod.mk.injEq, ByteArray.mk.injEq]
  constructor
  · rintro ⟨h1, h2, h3, h4, h5, h6, h7, h8, h9, h10, h11, h12, h13⟩
    exact ⟨⟨h1, h2, h3, h4, ⟨h5, h6, h7⟩, h8, h9, h10, h11⟩, h12, h13⟩
  · rintro ⟨⟨h1, h2, h3, h4, ⟨h5, h6, h7⟩, h8, h9, h10, h11⟩, h12, h13⟩
    exact ⟨h1, h2, h3, h4, h5, h6, h7, h8, h9, h10, h11, h12, h13⟩
theorem eqlI (ty : TypeId) (x y : Operand) (hu : Tryz.prog.underlying ty = some (.int .i64)) (a b : Int) (w : World) : (do eqGuard .eql ty x y (.int .i64 a) (.int .i64 b); binOp .eql ty (.int .i64 a) (.int .i64 b) : Sem Value).run Tryz.prog w = .ok (.bool (decide (a = b))) w := by
  go_simp
  by_cases h : a = b <;> simp [h]
theorem eqlEn (x y : Operand) (e e' : En) (w : World) : (do eqGuard .eql 28 x y (.agg #[.int .i64 e.c, .int .i64 e.n, .int .i64 e.o.k, .int .i64 e.o.s, .string e.o.v]) (.agg #[.int .i64 e'.c, .int .i64 e'.n, .int .i64 e'.o.k, .int .i64 e'.o.s, .string e'.o.v]); binOp .eql 28 (.agg #[.int .i64 e.c, .int .i64 e.n, .int .i64 e.o.k, .int .i64 e.o.s, .string e.o.v]) (.agg #[.int .i64 e'.c, .int .i64 e'.n, .int .i64 e'.o.k, .int .i64 e'.o.s, .string e'.o.v]) : Sem Value).run Tryz.prog w = .ok (.bool (decide (e = e'))) w := by
  obtain ⟨a, b, ⟨c, d, v⟩⟩ := e
  obtain ⟨a', b', ⟨c', d', v'⟩⟩ := e'
  go_simp
  by_cases e1 : a = a' <;> by_cases e2 : b = b' <;> by_cases e3 : c = c' <;> by_cases e4 : d = d' <;> by_cases e5 : v = v' <;> simp [e1, e2, e3, e4, e5, bytes_inj]
theorem eqlRs (x y : Operand) (r r' : Int × Int × ByteArray) (w : World) : (do eqGuard .eql 30 x y (.agg #[.int .i64 r.1, .int .i64 r.2.1, .string r.2.2]) (.agg #[.int .i64 r'.1, .int .i64 r'.2.1, .string r'.2.2]); binOp .eql 30 (.agg #[.int .i64 r.1, .int .i64 r.2.1, .string r.2.2]) (.agg #[.int .i64 r'.1, .int .i64 r'.2.1, .string r'.2.2]) : Sem Value).run Tryz.prog w = .ok (.bool (decide (r = r'))) w := by
  obtain ⟨a, b, v⟩ := r
  obtain ⟨a', b', v'⟩ := r'
  go_simp
  by_cases e1 : a = a' <;> by_cases e2 : b = b' <;> by_cases e5 : v = v' <;> simp [e1, e2, e5, bytes_inj]
theorem eqlDr (x y : Operand) (r r' : Int × Int) (w : World) : (do eqGuard .eql 33 x y (.agg #[.int .u64 r.1, .int .u64 r.2]) (.agg #[.int .u64 r'.1, .int .u64 r'.2]); binOp .eql 33 (.agg #[.int .u64 r.1, .int .u64 r.2]) (.agg #[.int .u64 r'.1, .int .u64 r'.2]) : Sem Value).run Tryz.prog w = .ok (.bool (decide (r = r'))) w := by
  obtain ⟨a, b⟩ := r
  obtain ⟨a', b'⟩ := r'
  go_simp
  by_cases e1 : a = a' <;> by_cases e2 : b = b' <;> simp [e1, e2]
theorem MBox.faKind (q : Nat) (w : World) : (Instr.fieldAt 38 (.pointer (some ⟨q, 0, none⟩)) 0).run Tryz.prog w = .ok (.pointer (some ⟨q, 0, none⟩)) w := by
  go_simp
theorem MBox.ldKind {w : World} {q : Nat} {m : Mg} {s t : Value} (h : MBox w q m s t) : (Instr.loadAt 24 (.pointer (some ⟨q, 0, none⟩))).run Tryz.prog w = .ok (.int .i64 m.k) w := by
  obtain ⟨x0, x1, x2, x3, x4, x5, x6, x7, x8, x9, x10, x11, x12, x13, x14, x15, x16, x17⟩ := h.all
  go_simp
theorem MBox.faNode (q : Nat) (w : World) : (Instr.fieldAt 38 (.pointer (some ⟨q, 0, none⟩)) 1).run Tryz.prog w = .ok (.pointer (some ⟨q, 1, none⟩)) w := by
  go_simp
theorem MBox.ldNode {w : World} {q : Nat} {m : Mg} {s t : Value} (h : MBox w q m s t) : (Instr.loadAt 3 (.pointer (some ⟨q, 1, none⟩))).run Tryz.prog w = .ok (.int .i64 m.nd) w := by
  obtain ⟨x0, x1, x2, x3, x4, x5, x6, x7, x8, x9, x10, x11, x12, x13, x14, x15, x16, x17⟩ := h.all
  go_simp
theorem MBox.faView (q : Nat) (w : World) : (Instr.fieldAt 38 (.pointer (some ⟨q, 0, none⟩)) 2).run Tryz.prog w = .ok (.pointer (some ⟨q, 2, none⟩)) w := by
  go_simp
theorem MBox.ldView {w : World} {q : Nat} {m : Mg} {s t : Value} (h : MBox w q m s t) : (Instr.loadAt 3 (.pointer (some ⟨q, 2, none⟩))).run Tryz.prog w = .ok (.int .i64 m.vw) w := by
  obtain ⟨x0, x1, x2, x3, x4, x5, x6, x7, x8, x9, x10, x11, x12, x13, x14, x15, x16, x17⟩ := h.all
  go_simp
theorem MBox.faEntry (q : Nat) (w : World) : (Instr.fieldAt 38 (.pointer (some ⟨q, 0, none⟩)) 3).run Tryz.prog w = .ok (.pointer (some ⟨q, 3, none⟩)) w := by
  go_simp
theorem MBox.ldEntry {w : World} {q : Nat} {m : Mg} {s t : Value} (h : MBox w q m s t) : (Instr.loadAt 28 (.pointer (some ⟨q, 3, none⟩))).run Tryz.prog w = .ok (.agg #[.int .i64 m.e.c, .int .i64 m.e.n, .int .i64 m.e.o.k, .int .i64 m.e.o.s, .string m.e.o.v]) w := by
  obtain ⟨x0, x1, x2, x3, x4, x5, x6, x7, x8, x9, x10, x11, x12, x13, x14, x15, x16, x17⟩ := h.all
  go_simp
theorem MBox.faResult (q : Nat) (w : World) : (Instr.fieldAt 38 (.pointer (some ⟨q, 0, none⟩)) 4).run Tryz.prog w = .ok (.pointer (some ⟨q, 8, none⟩)) w := by
  go_simp
theorem MBox.ldResult {w : World} {q : Nat} {m : Mg} {s t : Value} (h : MBox w q m s t) : (Instr.loadAt 30 (.pointer (some ⟨q, 8, none⟩))).run Tryz.prog w = .ok (.agg #[.int .i64 m.r.1, .int .i64 m.r.2.1, .string m.r.2.2]) w := by
  obtain ⟨x0, x1, x2, x3, x4, x5, x6, x7, x8, x9, x10, x11, x12, x13, x14, x15, x16, x17⟩ := h.all
  go_simp
theorem MBox.faPlace (q : Nat) (w : World) : (Instr.fieldAt 38 (.pointer (some ⟨q, 0, none⟩)) 5).run Tryz.prog w = .ok (.pointer (some ⟨q, 11, none⟩)) w := by
  go_simp
theorem MBox.ldPlace {w : World} {q : Nat} {m : Mg} {s t : Value} (h : MBox w q m s t) : (Instr.loadAt 3 (.pointer (some ⟨q, 11, none⟩))).run Tryz.prog w = .ok (.int .i64 m.p) w := by
  obtain ⟨x0, x1, x2, x3, x4, x5, x6, x7, x8, x9, x10, x11, x12, x13, x14, x15, x16, x17⟩ := h.all
  go_simp
theorem MBox.faCommit (q : Nat) (w : World) : (Instr.fieldAt 38 (.pointer (some ⟨q, 0, none⟩)) 6).run Tryz.prog w = .ok (.pointer (some ⟨q, 12, none⟩)) w := by
  go_simp
theorem MBox.ldCommit {w : World} {q : Nat} {m : Mg} {s t : Value} (h : MBox w q m s t) : (Instr.loadAt 3 (.pointer (some ⟨q, 12, none⟩))).run Tryz.prog w = .ok (.int .i64 m.cm) w := by
  obtain ⟨x0, x1, x2, x3, x4, x5, x6, x7, x8, x9, x10, x11, x12, x13, x14, x15, x16, x17⟩ := h.all
  go_simp
theorem MBox.faLast (q : Nat) (w : World) : (Instr.fieldAt 38 (.pointer (some ⟨q, 0, none⟩)) 7).run Tryz.prog w = .ok (.pointer (some ⟨q, 13, none⟩)) w := by
  go_simp
theorem MBox.ldLast {w : World} {q : Nat} {m : Mg} {s t : Value} (h : MBox w q m s t) : (Instr.loadAt 3 (.pointer (some ⟨q, 13, none⟩))).run Tryz.prog w = .ok (.int .i64 m.ls) w := by
  obtain ⟨x0, x1, x2, x3, x4, x5, x6, x7, x8, x9, x10, x11, x12, x13, x14, x15, x16, x17⟩ := h.all
  go_simp
theorem MBox.faDraw (q : Nat) (w : World) : (Instr.fieldAt 38 (.pointer (some ⟨q, 0, none⟩)) 8).run Tryz.prog w = .ok (.pointer (some ⟨q, 14, none⟩)) w := by
  go_simp
theorem MBox.ldDraw {w : World} {q : Nat} {m : Mg} {s t : Value} (h : MBox w q m s t) : (Instr.loadAt 33 (.pointer (some ⟨q, 14, none⟩))).run Tryz.prog w = .ok (.agg #[.int .u64 m.d.1, .int .u64 m.d.2]) w := by
  obtain ⟨x0, x1, x2, x3, x4, x5, x6, x7, x8, x9, x10, x11, x12, x13, x14, x15, x16, x17⟩ := h.all
  go_simp
theorem MBox.faLog (q : Nat) (w : World) : (Instr.fieldAt 38 (.pointer (some ⟨q, 0, none⟩)) 9).run Tryz.prog w = .ok (.pointer (some ⟨q, 16, none⟩)) w := by
  go_simp
theorem MBox.ldLog {w : World} {q : Nat} {m : Mg} {s t : Value} (h : MBox w q m s t) : (Instr.loadAt 34 (.pointer (some ⟨q, 16, none⟩))).run Tryz.prog w = .ok (s) w := by
  obtain ⟨x0, x1, x2, x3, x4, x5, x6, x7, x8, x9, x10, x11, x12, x13, x14, x15, x16, x17⟩ := h.all
  go_simp
theorem MBox.faVector (q : Nat) (w : World) : (Instr.fieldAt 38 (.pointer (some ⟨q, 0, none⟩)) 10).run Tryz.prog w = .ok (.pointer (some ⟨q, 17, none⟩)) w := by
  go_simp
theorem MBox.ldVector {w : World} {q : Nat} {m : Mg} {s t : Value} (h : MBox w q m s t) : (Instr.loadAt 36 (.pointer (some ⟨q, 17, none⟩))).run Tryz.prog w = .ok (t) w := by
  obtain ⟨x0, x1, x2, x3, x4, x5, x6, x7, x8, x9, x10, x11, x12, x13, x14, x15, x16, x17⟩ := h.all
  go_simp
theorem samemsg_bool (m m' : Mg) (L L' : List En) (D D' : List (Int × Int)) : (decide (m.k = m'.k) && decide (m.nd = m'.nd) && decide (m.vw = m'.vw) && decide (m.e = m'.e) && decide (m.r = m'.r) && decide (m.p = m'.p) && decide (m.cm = m'.cm) && decide (m.ls = m'.ls) && decide (m.d = m'.d) && decide (L = L') && decide (D = D')) = sameM m m' L L' D D' := by
  obtain ⟨k, nd, vw, e, r, p, cm, ls, d⟩ := m
  obtain ⟨k', nd', vw', e', r', p', cm', ls', d'⟩ := m'
  rw [Bool.eq_iff_iff, sameM_iff]
  simp only [Bool.and_eq_true, decide_eq_true_eq, Mg.mk.injEq]
  constructor
  · rintro ⟨⟨⟨⟨⟨⟨⟨⟨⟨⟨hk, hnd⟩, hvw⟩, he⟩, hr⟩, hp⟩, hcm⟩, hls⟩, hd⟩, hL⟩, hD⟩
    exact ⟨⟨hk, hnd, hvw, he, hr, hp, hcm, hls, hd⟩, hL, hD⟩
  · rintro ⟨⟨hk, hnd, hvw, he, hr, hp, hcm, hls, hd⟩, hL, hD⟩
    exact ⟨⟨⟨⟨⟨⟨⟨⟨⟨⟨hk, hnd⟩, hvw⟩, he⟩, hr⟩, hp⟩, hcm⟩, hls⟩, hd⟩, hL⟩, hD⟩
set_option maxRecDepth 100000 in
set_option maxHeartbeats 8000000 in
theorem samemsg_any (m m' : Mg) (a1 a2 b1 b2 : Option Addr) (n1 n2 m1 m2 c1 c2 e1 e2 : Nat) (L L' : List En) (D D' : List (Int × Int)) (w : World) (h1 : SlY yE w a1 n1 c1 L) (h2 : SlY yD w a2 n2 c2 D) (h3 : SlY yE w b1 m1 e1 L') (h4 : SlY yD w b2 m2 e2 D') :
    Calls Tryz.prog 22 #[m.val (.slice a1 n1 c1) (.slice a2 n2 c2), m'.val (.slice b1 m1 e1) (.slice b2 m2 e2)] w fun e w' => e = .returned (.bool (sameM m m' L L' D D')) ∧ Below w.heap.size w w' := by
  have HE := hide (fun (W : World) (hb : Below w.heap.size w W) => sameentsB L L' a1 b1 n1 m1 c1 e1 W (h1.later hb) (h3.later hb))
  have HD := hide (fun (W : World) (hb : Below w.heap.size w W) => samevecB D D' a2 b2 n2 m2 c2 e2 W (h2.later hb) (h4.later hb))
  clear h1 h2 h3 h4
  go_enter Tryz.func22, Tryz.ntmps22
  go_upto_region 1 with (first
    | (refine boxMk rfl (.tmp 0) rfl m _ _ rfl ?_; intro q1 w1 hq1 M1 b1' z1; subst hq1)
    | (refine boxMk rfl (.tmp 1) rfl m' _ _ rfl ?_; intro q2 w2 hq2 M2 b2' z2))
  have b2h : Below w1.heap.size w1 w2 := by first | exact b2' | (rw [z1]; exact b2')
  have hq3 : q2 = w.heap.size + 1 := by first | exact hq2 | exact hq2.trans z1
  subst hq3
  have HB := hide (b1'.trans (b2h.mono b1'.size))
  have A := hide (M1.bel b2h)
  have B := hide M2
  clear M1 M2 b1' b2' b2h z1 z2 hq2
  refine wp_region_lit ?_
  refine eq5 (d := 5) (f := 0) (p1 := .pointer (some ⟨w.heap.size, 0, none⟩)) (p2 := .pointer (some ⟨w.heap.size + 1, 0, none⟩)) (by decide) (Nat.lt_of_lt_of_eq (by decide : 9 < 80) rfl) rfl rfl (fun _ _ => ⟨rfl, rfl, rfl, rfl, rfl⟩) rfl rfl rfl rfl rfl rfl rfl rfl rfl rfl (MBox.faKind _ _) A.out.ldKind (MBox.faKind _ _) B.out.ldKind (eqlI _ _ _ Tryz.underlying24 _ _ _) (fun T1 z1 k1 s1 => ?_)
  have t2 : T1[2]? = some (.pointer (some ⟨w.heap.size, 0, none⟩)) := (k1 2 (by decide)).trans rfl
  have t3 : T1[3]? = some (.pointer (some ⟨w.heap.size + 1, 0, none⟩)) := (k1 3 (by decide)).trans rfl
  have hz : T1.size = 80 := z1.trans rfl
  clear k1 z1
  refine wl_val (v := .bool (decide (m.k = m'.k))) (want_none rfl) (by unfold execOp; simp only [Act.eval, getD_of s1]; rfl) ?_
  have s2 : (T1.setIfInBounds 10 (.bool (decide (m.k = m'.k))))[10]? = some (.bool (decide (m.k = m'.k))) := at_set _ (by omega)
  have q2 : (T1.setIfInBounds 10 (.bool (decide (m.k = m'.k))))[2]? = some (.pointer (some ⟨w.heap.size, 0, none⟩)) := (at_set_ne _ (by decide)).trans t2
  have q3 : (T1.setIfInBounds 10 (.bool (decide (m.k = m'.k))))[3]? = some (.pointer (some ⟨w.heap.size + 1, 0, none⟩)) := (at_set_ne _ (by decide)).trans t3
  have hz2 : (T1.setIfInBounds 10 (.bool (decide (m.k = m'.k)))).size = 80 := by simp [hz]
  show wpList _ _ _ _ ⟨T1.setIfInBounds 10 (.bool (decide (m.k = m'.k))), []⟩ _
  generalize T1.setIfInBounds 10 (.bool (decide (m.k = m'.k))) = S0 at s2 q2 q3 hz2 ⊢
  clear t2 t3 hz s1 T1
  refine conj7 (g := 5) (j := 10) (d := 11) (f := 1) (by decide) (by decide) (by omega) q2 q3 s2 rfl rfl rfl rfl rfl rfl rfl rfl rfl rfl rfl rfl rfl rfl rfl rfl rfl rfl rfl rfl rfl rfl (MBox.faNode _ _) A.out.ldNode (MBox.faNode _ _) B.out.ldNode (eqlI _ _ _ Tryz.underlying3 _ _ _) (fun S1 zz1 kk1 ss1 => ?_)
  have ta1 := (kk1 2 (by decide)).trans q2
  have tb1 := (kk1 3 (by decide)).trans q3
  have th1 := zz1.trans hz2
  clear zz1 kk1 q2 q3 s2 hz2 S0
  refine conj7 (g := 12) (j := 17) (d := 18) (f := 2) (by decide) (by decide) (by omega) ta1 tb1 ss1 rfl rfl rfl rfl rfl rfl rfl rfl rfl rfl rfl rfl rfl rfl rfl rfl rfl rfl rfl rfl rfl rfl (MBox.faView _ _) A.out.ldView (MBox.faView _ _) B.out.ldView (eqlI _ _ _ Tryz.underlying3 _ _ _) (fun S2 zz2 kk2 ss2 => ?_)
  have ta2 := (kk2 2 (by decide)).trans ta1
  have tb2 := (kk2 3 (by decide)).trans tb1
  have th2 := zz2.trans th1
  clear zz2 kk2 ta1 tb1 ss1 th1 S1
  refine conj7 (g := 19) (j := 24) (d := 25) (f := 3) (by decide) (by decide) (by omega) ta2 tb2 ss2 rfl rfl rfl rfl rfl rfl rfl rfl rfl rfl rfl rfl rfl rfl rfl rfl rfl rfl rfl rfl rfl rfl (MBox.faEntry _ _) A.out.ldEntry (MBox.faEntry _ _) B.out.ldEntry (eqlEn _ _ _ _ _) (fun S3 zz3 kk3 ss3 => ?_)
  have ta3 := (kk3 2 (by decide)).trans ta2
  have tb3 := (kk3 3 (by decide)).trans tb2
  have th3 := zz3.trans th2
  clear zz3 kk3 ta2 tb2 ss2 th2 S2
  refine conj7 (g := 26) (j := 31) (d := 32) (f := 4) (by decide) (by decide) (by omega) ta3 tb3 ss3 rfl rfl rfl rfl rfl rfl rfl rfl rfl rfl rfl rfl rfl rfl rfl rfl rfl rfl rfl rfl rfl rfl (MBox.faResult _ _) A.out.ldResult (MBox.faResult _ _) B.out.ldResult (eqlRs _ _ _ _ _) (fun S4 zz4 kk4 ss4 => ?_)
  have ta4 := (kk4 2 (by decide)).trans ta3
  have tb4 := (kk4 3 (by decide)).trans tb3
  have th4 := zz4.trans th3
  clear zz4 kk4 ta3 tb3 ss3 th3 S3
  refine conj7 (g := 33) (j := 38) (d := 39) (f := 5) (by decide) (by decide) (by omega) ta4 tb4 ss4 rfl rfl rfl rfl rfl rfl rfl rfl rfl rfl rfl rfl rfl rfl rfl rfl rfl rfl rfl rfl rfl rfl (MBox.faPlace _ _) A.out.ldPlace (MBox.faPlace _ _) B.out.ldPlace (eqlI _ _ _ Tryz.underlying3 _ _ _) (fun S5 zz5 kk5 ss5 => ?_)
  have ta5 := (kk5 2 (by decide)).trans ta4
  have tb5 := (kk5 3 (by decide)).trans tb4
  have th5 := zz5.trans th4
  clear zz5 kk5 ta4 tb4 ss4 th4 S4
  refine conj7 (g := 40) (j := 45) (d := 46) (f := 6) (by decide) (by decide) (by omega) ta5 tb5 ss5 rfl rfl rfl rfl rfl rfl rfl rfl rfl rfl rfl rfl rfl rfl rfl rfl rfl rfl rfl rfl rfl rfl (MBox.faCommit _ _) A.out.ldCommit (MBox.faCommit _ _) B.out.ldCommit (eqlI _ _ _ Tryz.underlying3 _ _ _) (fun S6 zz6 kk6 ss6 => ?_)
  have ta6 := (kk6 2 (by decide)).trans ta5
  have tb6 := (kk6 3 (by decide)).trans tb5
  have th6 := zz6.trans th5
  clear zz6 kk6 ta5 tb5 ss5 th5 S5
  refine conj7 (g := 47) (j := 52) (d := 53) (f := 7) (by decide) (by decide) (by omega) ta6 tb6 ss6 rfl rfl rfl rfl rfl rfl rfl rfl rfl rfl rfl rfl rfl rfl rfl rfl rfl rfl rfl rfl rfl rfl (MBox.faLast _ _) A.out.ldLast (MBox.faLast _ _) B.out.ldLast (eqlI _ _ _ Tryz.underlying3 _ _ _) (fun S7 zz7 kk7 ss7 => ?_)
  have ta7 := (kk7 2 (by decide)).trans ta6
  have tb7 := (kk7 3 (by decide)).trans tb6
  have th7 := zz7.trans th6
  clear zz7 kk7 ta6 tb6 ss6 th6 S6
  refine conj7 (g := 54) (j := 59) (d := 60) (f := 8) (by decide) (by decide) (by omega) ta7 tb7 ss7 rfl rfl rfl rfl rfl rfl rfl rfl rfl rfl rfl rfl rfl rfl rfl rfl rfl rfl rfl rfl rfl rfl (MBox.faDraw _ _) A.out.ldDraw (MBox.faDraw _ _) B.out.ldDraw (eqlDr _ _ _ _ _) (fun S8 zz8 kk8 ss8 => ?_)
  have ta8 := (kk8 2 (by decide)).trans ta7
  have tb8 := (kk8 3 (by decide)).trans tb7
  have th8 := zz8.trans th7
  clear zz8 kk8 ta7 tb7 ss7 th7 S7
  refine conjC7 (g := 61) (j := 66) (d := 67) (f := 9) (fid := 41) (by decide) (by decide) (by omega) ta8 tb8 ss8 rfl rfl rfl rfl rfl rfl rfl rfl rfl rfl rfl rfl (fun a h1 h2 => by unfold execOp; simp only [resolve, invoke, Sem.run_bind, List.map_toArray, List.map_cons, List.map_nil, h1, h2]; rfl) rfl rfl rfl rfl rfl rfl rfl rfl rfl (MBox.faLog _ _) A.out.ldLog (MBox.faLog _ _) B.out.ldLog (HE.out _ HB.out) (fun SL nl zl kl sl => ?_)
  have la := (kl 2 (by decide)).trans ta8
  have lb := (kl 3 (by decide)).trans tb8
  have lh := zl.trans th8
  have HB2 := hide (belN HB.out nl)
  have A2 := hide (A.out.bel (belN (Below.refl _ _) nl))
  have B2 := hide (B.out.bel (belN (Below.refl _ _) nl))
  clear zl kl ta8 tb8 ss8 th8 S8 A B HB HE
  refine conjC4 (g := 68) (j := 73) (d := 74) (f := 10) (fid := 40) (by decide) (by decide) (by omega) la lb sl rfl rfl rfl rfl rfl rfl rfl rfl rfl rfl rfl rfl (fun a h1 h2 => by unfold execOp; simp only [resolve, invoke, Sem.run_bind, List.map_toArray, List.map_cons, List.map_nil, h1, h2]; rfl) rfl rfl rfl rfl rfl rfl rfl rfl rfl (MBox.faVector _ _) A2.out.ldVector (MBox.faVector _ _) B2.out.ldVector (HD.out _ HB2.out) (fun SF nf sf => ?_)
  rw [samemsg_bool] at sf
  have HB3 := hide (belN HB2.out nf)
  clear la lb sl lh A2 B2 HB2 HD SL
  generalize (w2.drewN nl).drewN nf = W at *
  go_wp2
  refine bodyPost_ret (results_tmp rfl _ _ _) rfl ⟨?_, HB3.out⟩
  show Ending.returned (SF.getD 4 undef) = _
  rw [getD_of sf]
def gw (c : Bool) (V : Value) : Value := cond c V undef
structure VJ (ops : Array Oper) (C : World → Prop) (Q : Act → Prop) (l : List Oper) (a : Act) : Prop where
  out : wpQuiet Tryz.prog ops C Q l a
theorem vq_start {C : World → Prop} {id : Nat} {Q : Exit → Act → World → Prop} {a : Act} {w : World} {l : List Oper} (hm : Tryz.prog.follows .mixedOrders = true) (hB : Region.lexB .any l.toArray = true) (hC : C w.drew)
    (h : VJ l.toArray C (fun a' => ∀ w', C w' → Q .normal a' w') l a) : (Code.region id l.toArray true).wp Tryz.prog Q a w :=
  wp_region_quiet (C := C) hm hB hC (by simpa using h.out)
theorem vq_gen {ops : Array Oper} {C : World → Prop} {Q : Act → Prop} {l : List Oper} {T0 : Array Value} {df : List Deferred} (P : Array Value → Prop) (h0 : P T0) (hk : ∀ T, P T → VJ ops C Q l ⟨T, df⟩) : VJ ops C Q l ⟨T0, df⟩ := hk T0 h0
theorem vl_gen {ops : Array Oper} {Q : Exit → Act → World → Prop} {l : List Oper} {T0 : Array Value} {df : List Deferred} {w : World} (P : Array Value → Prop) (h0 : P T0) (hk : ∀ T, P T → wpList Tryz.prog ops Q l ⟨T, df⟩ w) : wpList Tryz.prog ops Q l ⟨T0, df⟩ w := hk T0 h0
theorem vq_nil {ops : Array Oper} {C : World → Prop} {Q : Act → Prop} {a : Act} (h : Q a) : VJ ops C Q [] a := ⟨wpQuiet_nil h⟩
theorem want_g {ops : Array Oper} {o : Oper} {T : Array Value} {g j : Nat} {pol b c : Bool} (h : o.guard = some (g, pol)) (hg : (ops[g]?).bind (·.dst) = some j) (hj : T[j]? = some (gw c (.bool b))) : Region.wanted o (yielded ops T) = (c && (b == pol)) := by
  cases c <;> simp [Region.wanted, h, yielded, hg, hj, gw, undef]
theorem vq {ops : Array Oper} {rest : List Oper} {o : Oper} {T : Array Value} {df : List Deferred} {C : World → Prop} {Q : Act → Prop} {d n : Nat} (c : Bool) (V : Value) (hw : Region.wanted o (yielded ops T) = c) (he : c = true → ∀ v, C v → (execOp (⟨T, df⟩ : Act).eval o).run Tryz.prog v = .ok (.value V) v) (hd : o.dst = some d) (hz : T.size = n) (hn : d < n)
    (hk : ∀ T' : Array Value, T'.size = n → (∀ i, i ≠ d → T'[i]? = T[i]?) → T'[d]? = some (gw c V) → VJ ops C Q rest ⟨T', df⟩) : VJ ops C Q (o :: rest) ⟨T, df⟩ := by
  cases c with
  | false =>
    refine ⟨BigFrame.wpQuiet_skip hw ?_⟩
    rw [hd]
    exact (hk (T.setIfInBounds d undef) (by simp [hz]) (fun i hi => at_set_ne _ hi) (at_set _ (by omega))).out
  | true =>
    refine ⟨BigFrame.wpQuiet_want hw (fun K hK => ⟨V, fun v hv => by unfold Oper.quietAt; rw [he rfl v hv]; exact ⟨rfl, rfl⟩, hK _ ?_⟩)⟩
    rw [hd]
    exact (hk (T.setIfInBounds d V) (by simp [hz]) (fun i hi => at_set_ne _ hi) (at_set _ (by omega))).out
theorem vl {ops : Array Oper} {rest : List Oper} {o : Oper} {T : Array Value} {df : List Deferred} {w : World} {Q : Exit → Act → World → Prop} {d n : Nat} (c : Bool) (V : Value) (hw : Region.wanted o (yielded ops T) = c) (he : c = true → (execOp (⟨T, df⟩ : Act).eval o).run Tryz.prog w = .ok (.value V) w) (hd : o.dst = some d) (hz : T.size = n) (hn : d < n)
    (hk : ∀ T' : Array Value, T'.size = n → (∀ i, i ≠ d → T'[i]? = T[i]?) → T'[d]? = some (gw c V) → wpList Tryz.prog ops Q rest ⟨T', df⟩ w) : wpList Tryz.prog ops Q (o :: rest) ⟨T, df⟩ w := by
  cases c with
  | false =>
    refine wpList_skip hw ?_
    rw [hd]
    exact hk (T.setIfInBounds d undef) (by simp [hz]) (fun i hi => at_set_ne _ hi) (at_set _ (by omega))
  | true =>
    refine wl_val (v := V) hw (he rfl) ?_
    rw [hd]
    exact hk (T.setIfInBounds d V) (by simp [hz]) (fun i hi => at_set_ne _ hi) (at_set _ (by omega))
theorem vcall {ops : Array Oper} {rest : List Oper} {o : Oper} {T : Array Value} {df : List Deferred} {w : World} {Q : Exit → Act → World → Prop} {d n : Nat} (c : Bool) (V : Value) {fid : FuncId} {args : Array Value} (hw : Region.wanted o (yielded ops T) = c) (he : c = true → (execOp (⟨T, df⟩ : Act).eval o).run Tryz.prog w = .ok (.enter fid args) w)
    (hc : c = true → Calls Tryz.prog fid args w fun e w' => e = .returned V ∧ Below w.heap.size w w') (hd : o.dst = some d) (hz : T.size = n) (hn : d < n)
    (hk : ∀ (T' : Array Value) (w' : World), Below w.heap.size w w' → T'.size = n → (∀ i, i ≠ d → T'[i]? = T[i]?) → T'[d]? = some (gw c V) → wpList Tryz.prog ops Q rest ⟨T', df⟩ w') : wpList Tryz.prog ops Q (o :: rest) ⟨T, df⟩ w := by
  cases c with
  | false =>
    refine wpList_skip hw ?_
    rw [hd]
    exact hk (T.setIfInBounds d undef) w (Below.refl _ _) (by simp [hz]) (fun i hi => at_set_ne _ hi) (at_set _ (by omega))
  | true =>
    refine BigFrame.wpList_want hw (fun K hK => ?_)
    unfold Oper.wp
    rw [he rfl, Oper.upon_enter]
    refine (hc rfl).mono ?_
    rintro e w' ⟨rfl, hb⟩
    refine hK _ _ ?_
    rw [hd]
    exact hk (T.setIfInBounds d V) w' hb (by simp [hz]) (fun i hi => at_set_ne _ hi) (at_set _ (by omega))
theorem vcallP {ops : Array Oper} {rest : List Oper} {o : Oper} {T : Array Value} {df : List Deferred} {w : World} {Q : Exit → Act → World → Prop} {d n : Nat} {fid : FuncId} {args : Array Value} {R : Ending → World → Prop} (hw : Region.wanted o (yielded ops T) = true) (he : (execOp (⟨T, df⟩ : Act).eval o).run Tryz.prog w = .ok (.enter fid args) w)
    (hc : Calls Tryz.prog fid args w R) (hd : o.dst = some d) (hz : T.size = n) (hn : d < n)
    (hk : ∀ (e : Ending) (w' : World), R e w' → ∃ V, e = .returned V ∧ ∀ T' : Array Value, T'.size = n → (∀ i, i ≠ d → T'[i]? = T[i]?) → T'[d]? = some (gw true V) → wpList Tryz.prog ops Q rest ⟨T', df⟩ w') : wpList Tryz.prog ops Q (o :: rest) ⟨T, df⟩ w := by
  refine BigFrame.wpList_want hw (fun K hK => ?_)
  unfold Oper.wp
  rw [he, Oper.upon_enter]
  refine hc.mono ?_
  intro e w' hR
  obtain ⟨V, rfl, hk'⟩ := hk e w' hR
  refine hK _ _ ?_
  rw [hd]
  exact hk' (T.setIfInBounds d V) (by simp [hz]) (fun i hi => at_set_ne _ hi) (at_set _ (by omega))
theorem ev {T : Array Value} {df : List Deferred} {i : Nat} {c : Bool} {X : Value} (h : T[i]? = some (gw c X)) (hc : c = true) : (⟨T, df⟩ : Act).eval (.tmp i) = X := by
  subst hc
  exact getD_of h
theorem evc {T : Array Value} {df : List Deferred} {x : Value} : (⟨T, df⟩ : Act).eval (.const x) = x := rfl
theorem and_r {a b p : Bool} (h : (a && (b == p)) = true) : b = p := by cases a <;> cases b <;> cases p <;> simp_all
theorem ex_move {o : Oper} {ρ : Operand → Value} {x : Operand} {X : Value} {w : World} (ho : o.op = .move x) (hx : ρ x = X) : (execOp ρ o).run Tryz.prog w = .ok (.value X) w := by
  unfold execOp
  simp only [ho, hx]
  rfl
theorem ex_assign {o : Oper} {ρ : Operand → Value} {x : Operand} {X : Value} {w : World} (ho : o.op = .assign x) (hx : ρ x = X) : (execOp ρ o).run Tryz.prog w = .ok (.value X) w := by
  unfold execOp
  simp only [ho, hx]
  rfl
theorem ex_fa {o : Oper} {ρ : Operand → Value} {s : TypeId} {f : Nat} {x : Operand} {X V : Value} {w : World} (ho : o.op = .fieldAddr s x f) (hx : ρ x = X) (hr : (Instr.fieldAt s X f).run Tryz.prog w = .ok V w) : (execOp ρ o).run Tryz.prog w = .ok (.value V) w := by
  unfold execOp
  simp only [ho, hx, Sem.run_bind, hr, Result.andThen_ok]
  rfl
theorem ex_ld {o : Oper} {ρ : Operand → Value} {s : TypeId} {x : Operand} {X V : Value} {w : World} (ho : o.op = .load s x) (hx : ρ x = X) (hr : (Instr.loadAt s X).run Tryz.prog w = .ok V w) : (execOp ρ o).run Tryz.prog w = .ok (.value V) w := by
  unfold execOp
  simp only [ho, hx, Sem.run_bind, hr, Result.andThen_ok]
  rfl
theorem ex_ix {o : Oper} {ρ : Operand → Value} {s : TypeId} {x y : Operand} {X Y V : Value} {w : World} (ho : o.op = .indexAddr s x y) (hx : ρ x = X) (hy : ρ y = Y) (hr : (Instr.indexAt s X Y).run Tryz.prog w = .ok V w) : (execOp ρ o).run Tryz.prog w = .ok (.value V) w := by
  unfold execOp
  simp only [ho, hx, hy, Sem.run_bind, hr, Result.andThen_ok]
  rfl
theorem ex_bin {o : Oper} {ρ : Operand → Value} {b : BinOp} {s t : TypeId} {x y : Operand} {X Y V : Value} {w : World} (ho : o.op = .binOp b s x y t) (hx : ρ x = X) (hy : ρ y = Y) (hr : (do eqGuard b s x y X Y; binOp b s X Y : Sem Value).run Tryz.prog w = .ok V w) : (execOp ρ o).run Tryz.prog w = .ok (.value V) w := by
  unfold execOp
  simp only [ho, hx, hy]
  rw [Sem.run_bind, hr]
  rfl
theorem ex_build {o : Oper} {ρ : Operand → Value} {s : TypeId} {V : Value} {w : World} (ho : o.op = .build s #[]) (hr : (Instr.build s #[]).run Tryz.prog w = .ok V w) : (execOp ρ o).run Tryz.prog w = .ok (.value V) w := by
  unfold execOp
  simp only [ho]
  rw [Sem.run_bind]
  simp only [List.map_toArray, List.map_nil, hr]
  rfl
theorem ex_not {o : Oper} {ρ : Operand → Value} {s : TypeId} {x : Operand} {b : Bool} {w : World} (ho : o.op = .unOp .not s x) (hx : ρ x = .bool b) : (execOp ρ o).run Tryz.prog w = .ok (.value (.bool (!b))) w := by
  unfold execOp
  simp only [ho, hx]
  rfl
theorem ex_nil {o : Oper} {ρ : Operand → Value} {x : Operand} {p : Addr} {w : World} (ho : o.op = .nilCheck x) (hx : ρ x = .pointer (some p)) : (execOp ρ o).run Tryz.prog w = .ok (.value (.pointer (some p))) w := by
  unfold execOp
  simp only [ho, hx]
  rfl
set_option maxRecDepth 100000 in
theorem ex_call {o : Oper} {T : Array Value} {df : List Deferred} {fid : FuncId} {xs : Array Operand} {ts : Array TypeId} {args : Array Value} {w : World} (ho : o.op = .call { callee := .value (.func fid), args := xs, argTypes := ts }) (ha : xs.map (⟨T, df⟩ : Act).eval = args) (hr : (do let d ← Deferred.ofValue ((⟨T, df⟩ : Act).eval (.func fid)) args; invoke d.target d.args : Sem Next).run Tryz.prog w = .ok (.enter fid args) w) : (execOp (⟨T, df⟩ : Act).eval o).run Tryz.prog w = .ok (.enter fid args) w := by
  unfold execOp
  simp only [ho, resolve, ha]
  exact hr
theorem ex_or {o : Oper} {T : Array Value} {df : List Deferred} {j y : Nat} {c b z : Bool} {w : World} (ho : o.op = .pick (.tmp j) (.const (.bool true)) (.tmp y)) (hj : T[j]? = some (gw c (.bool b))) (hy : T[y]? = some (gw (c && (b == false)) (.bool z))) (hc : c = true) : (execOp (⟨T, df⟩ : Act).eval o).run Tryz.prog w = .ok (.value (.bool (b || z))) w := by
  subst hc
  unfold execOp
  simp only [ho, Act.eval, getD_of hj, getD_of hy]
  cases b <;> rfl
theorem ex_and {o : Oper} {T : Array Value} {df : List Deferred} {j x : Nat} {c b z : Bool} {w : World} (ho : o.op = .pick (.tmp j) (.tmp x) (.const (.bool false))) (hj : T[j]? = some (gw c (.bool b))) (hy : T[x]? = some (gw (c && (b == true)) (.bool z))) (hc : c = true) : (execOp (⟨T, df⟩ : Act).eval o).run Tryz.prog w = .ok (.value (.bool (b && z))) w := by
  subst hc
  unfold execOp
  simp only [ho, Act.eval, getD_of hj, getD_of hy]
  cases b <;> rfl
theorem ex_lenE {o : Oper} {ρ : Operand → Value} {i : Nat} {a : Option Addr} {n k : Nat} {w : World} (ho : o.op = .call { callee := .builtin .len, args := #[.tmp i], argTypes := #[34] }) (ht : o.type = 3) (hx : ρ (.tmp i) = .slice a n k) : (execOp ρ o).run Tryz.prog w = .ok (.value (.int .i64 (n : Int))) w := by
  unfold execOp
  simp only [ho]
  rw [Sem.run_bind]
  simp only [resolve, List.map_toArray, List.map_cons, List.map_nil, hx, ht]
  go_simp
theorem ex_lenV {o : Oper} {ρ : Operand → Value} {i : Nat} {a : Option Addr} {n k : Nat} {w : World} (ho : o.op = .call { callee := .builtin .len, args := #[.tmp i], argTypes := #[36] }) (ht : o.type = 3) (hx : ρ (.tmp i) = .slice a n k) : (execOp ρ o).run Tryz.prog w = .ok (.value (.int .i64 (n : Int))) w := by
  unfold execOp
  simp only [ho]
  rw [Sem.run_bind]
  simp only [resolve, List.map_toArray, List.map_cons, List.map_nil, hx, ht]
  go_simp
theorem ex_lenB {o : Oper} {ρ : Operand → Value} {i : Nat} {a : Option Addr} {n k : Nat} {w : World} (ho : o.op = .call { callee := .builtin .len, args := #[.tmp i], argTypes := #[90] }) (ht : o.type = 3) (hx : ρ (.tmp i) = .slice a n k) : (execOp ρ o).run Tryz.prog w = .ok (.value (.int .i64 (n : Int))) w := by
  unfold execOp
  simp only [ho]
  rw [Sem.run_bind]
  simp only [resolve, List.map_toArray, List.map_cons, List.map_nil, hx, ht]
  go_simp
theorem eqlC (x y : Operand) (a b : Int) (w : World) : (do eqGuard .eql 3 x y (.int .i64 a) (.int .i64 b); binOp .eql 3 (.int .i64 a) (.int .i64 b) : Sem Value).run Tryz.prog w = .ok (.bool (decide (a = b))) w := by
  go_simp
  by_cases h : a = b <;> simp [h]
theorem neqC (x y : Operand) (a b : Int) (w : World) : (do eqGuard .neq 3 x y (.int .i64 a) (.int .i64 b); binOp .neq 3 (.int .i64 a) (.int .i64 b) : Sem Value).run Tryz.prog w = .ok (.bool (!decide (a = b))) w := by
  go_simp
  by_cases h : a = b <;> simp [h]
theorem lssC (x y : Operand) (a b : Int) (w : World) : (do eqGuard .lss 3 x y (.int .i64 a) (.int .i64 b); binOp .lss 3 (.int .i64 a) (.int .i64 b) : Sem Value).run Tryz.prog w = .ok (.bool (decide (a < b))) w := by
  go_simp
theorem geqC (x y : Operand) (a b : Int) (w : World) : (do eqGuard .geq 3 x y (.int .i64 a) (.int .i64 b); binOp .geq 3 (.int .i64 a) (.int .i64 b) : Sem Value).run Tryz.prog w = .ok (.bool (decide (b ≤ a))) w := by
  go_simp
theorem gtrC (x y : Operand) (a b : Int) (w : World) : (do eqGuard .gtr 3 x y (.int .i64 a) (.int .i64 b); binOp .gtr 3 (.int .i64 a) (.int .i64 b) : Sem Value).run Tryz.prog w = .ok (.bool (decide (b < a))) w := by
  go_simp
theorem neqB (x y : Operand) (a b : Bool) (w : World) : (do eqGuard .neq 4 x y (.bool a) (.bool b); binOp .neq 4 (.bool a) (.bool b) : Sem Value).run Tryz.prog w = .ok (.bool (a != b)) w := by
  cases a <;> cases b <;> go_simp
theorem buildDr (w : World) : (Instr.build 33 #[]).run Tryz.prog w = .ok (.agg #[.int .u64 0, .int .u64 0]) w := by
  go_simp
theorem buildEn (w : World) : (Instr.build 28 #[]).run Tryz.prog w = .ok (.agg #[.int .i64 0, .int .i64 0, .int .i64 0, .int .i64 0, .string ⟨#[]⟩]) w := by
  go_simp
theorem buildRs (w : World) : (Instr.build 30 #[]).run Tryz.prog w = .ok (.agg #[.int .i64 0, .int .i64 0, .string ⟨#[]⟩]) w := by
  go_simp
theorem ixBool (g j n cu : Nat) (hj : j < n) (w : World) : (Instr.indexAt 90 (.slice (some ⟨g, 0, none⟩) n cu) (.int .i64 (j : Int))).run Tryz.prog w = .ok (.pointer (some ⟨g, j, none⟩)) w := by
  have h1 : (j : Int) < (n : Int) := by omega
  go_simp
theorem ldBool {w : World} {g j : Nat} {b : Bool} (h : w.cell? ⟨g, j, none⟩ = some (.bool b)) : (Instr.loadAt 4 (.pointer (some ⟨g, j, none⟩))).run Tryz.prog w = .ok (.bool b) w := by
  go_simp
theorem kt {T T' : Array Value} {d i : Nat} {v : Option Value} (kk : ∀ i, i ≠ d → T'[i]? = T[i]?) (h : T[i]? = v) (hi : i ≠ d := by decide) : T'[i]? = v := (kk i hi).trans h
theorem vt {ops : Array Oper} {rest : List Oper} {o : Oper} {T : Array Value} {df : List Deferred} {w : World} {Q : Exit → Act → World → Prop} {d n : Nat} (V : Value) (he : (execOp (⟨T, df⟩ : Act).eval o).run Tryz.prog w = .ok (.value V) w) (hz : T.size = n)
    (hk : ∀ T' : Array Value, T'.size = n → (∀ i, i ≠ d → T'[i]? = T[i]?) → T'[d]? = some (gw true V) → wpList Tryz.prog ops Q rest ⟨T', df⟩ w) (hg : o.guard = none := by rfl) (hd : o.dst = some d := by rfl) (hn : d < n := by decide) : wpList Tryz.prog ops Q (o :: rest) ⟨T, df⟩ w := vl true V (want_none hg) (fun _ => he) hd hz hn hk
structure VH (ops : Array Oper) (Q : Exit → Act → World → Prop) (S : World → Prop) (fuel : Nat) (listed : Array Bool) (a : Act) (w : World) : Prop where
  out : wpAnyH Tryz.prog .any ops (NoPanic Q) S fuel listed a w
theorem vh_start {id : Nat} {Q : Exit → Act → World → Prop} {a : Act} {w : World} {l : List Oper} (S : World → Prop) (hm : Tryz.prog.follows .mixedOrders = true) (h : VH l.toArray Q S l.length (Array.replicate l.length false) a w.drew) : (Code.region id l.toArray true).wp Tryz.prog Q a w :=
  wp_region_noPanic (wp_region_held (S := S) hm (by simpa using h.out))
theorem vh_gen {ops : Array Oper} {Q : Exit → Act → World → Prop} {S : World → Prop} {fuel : Nat} {listed : Array Bool} {T0 : Array Value} {df : List Deferred} {w : World} (P : Array Value → Prop) (h0 : P T0) (hk : ∀ T, P T → VH ops Q S fuel listed ⟨T, df⟩ w) : VH ops Q S fuel listed ⟨T0, df⟩ w := hk T0 h0
theorem vh_done {ops : Array Oper} {Q : Exit → Act → World → Prop} {S : World → Prop} {fuel : Nat} {listed : Array Bool} {a : Act} {w : World} (hr : Region.ready .any ops listed = []) (h : Q .normal a w) : VH ops Q S fuel listed a w := ⟨wpAnyH_done hr (NoPanic.normal h) _⟩
theorem vh_take {ops : Array Oper} {o : Oper} {T : Array Value} {df : List Deferred} {w : World} {Q : Exit → Act → World → Prop} {S : World → Prop} {fuel d n : Nat} {listed : Array Bool} (i : Nat) (c : Bool) (V : Value) (hi : ops[i]? = some o) (hs : Region.noSelect ops = true) (hf : Region.free .any ops listed i = true) (hr : (Region.ready .any ops listed).contains i = true)
    (hw : Region.wanted o (yielded ops T) = c) (he : c = true → ∀ v, S v → (execOp (⟨T, df⟩ : Act).eval o).run Tryz.prog v = .ok (.value V) v) (hd : o.dst = some d) (hz : T.size = n) (hn : d < n) (hS : S w)
    (hk : ∀ T' : Array Value, T'.size = n → (∀ j, j ≠ d → T'[j]? = T[j]?) → T'[d]? = some (gw c V) → VH ops Q S fuel (listed.setIfInBounds i true) ⟨T', df⟩ w) : VH ops Q S (fuel + 1) listed ⟨T, df⟩ w := by
  cases c with
  | false =>
    refine ⟨wpAnyH_take (v := undef) hi hs hf hr (fun _ _ _ h => h) (.inr ⟨hw, rfl⟩) hS ?_⟩
    rw [hd]
    exact (hk (T.setIfInBounds d undef) (by simp [hz]) (fun i hi => at_set_ne _ hi) (at_set _ (by omega))).out
  | true =>
    refine ⟨wpAnyH_take (v := V) hi hs hf hr (fun _ _ _ h => h) (.inl ⟨hw, he rfl⟩) hS ?_⟩
    rw [hd]
    exact (hk (T.setIfInBounds d V) (by simp [hz]) (fun i hi => at_set_ne _ hi) (at_set _ (by omega))).out
theorem vh_call {ops : Array Oper} {o : Oper} {T : Array Value} {df : List Deferred} {w : World} {Q : Exit → Act → World → Prop} {S : World → Prop} {fuel d n : Nat} {listed : Array Bool} (i : Nat) {fid : FuncId} {args : Array Value} {R : Ending → World → Prop} (hi : ops[i]? = some o) (hr : Region.ready .any ops listed = [i])
    (hw : Region.wanted o (yielded ops T) = true) (he : (execOp (⟨T, df⟩ : Act).eval o).run Tryz.prog w = .ok (.enter fid args) w) (hc : Calls Tryz.prog fid args w R) (hd : o.dst = some d) (hz : T.size = n) (hn : d < n)
    (hk : ∀ (e : Ending) (w' : World), R e w' → ∃ V, e = .returned V ∧ S w' ∧ ∀ T' : Array Value, T'.size = n → (∀ j, j ≠ d → T'[j]? = T[j]?) → T'[d]? = some (gw true V) → VH ops Q S fuel (listed.setIfInBounds i true) ⟨T', df⟩ w') : VH ops Q S (fuel + 1) listed ⟨T, df⟩ w := by
  refine ⟨wpAnyH_all hr (by simp) (fun j hj => ?_)⟩
  obtain rfl : j = i := by simpa using hj
  unfold wpOp
  rw [hi]
  simp only [hw, if_true]
  refine .inl ?_
  unfold Oper.wp
  rw [he, Oper.upon_enter]
  refine hc.mono ?_
  intro e w' hR
  obtain ⟨V, rfl, hS, hk'⟩ := hk e w' hR
  refine ⟨hS, ?_⟩
  rw [hd]
  exact (hk' (T.setIfInBounds d V) (by simp [hz]) (fun i hi => at_set_ne _ hi) (at_set _ (by omega))).out
theorem Wi.WOkT.later {w w' : World} {b : Nat} {l : List Int} (h : Wi.WOkT w b l) (hb : Below w.heap.size w w') : Wi.WOkT w' b l := by
  have hk := Wi.WOk.later h.ok hb
  rcases h with ⟨e, h, kb⟩ | ⟨q, g, n, c, h, kb, kq⟩
  · rcases hk with ⟨_, h2⟩ | ⟨q, g, n, c, h2⟩
    · exact .inl ⟨e, h2, Wi.wtyp_below kb hb h.lt⟩
    · have e1 := h2.c0
      rw [hb.cell (p := ⟨b, 0, none⟩) h.lt, h.c0] at e1
      cases e1
  · have hq : q < w.heap.size := h.ltq
    have hbq : b < w.heap.size := Nat.lt_trans h.lt hq
    rcases hk with ⟨_, h2⟩ | ⟨q', g', n', c', h2⟩
    · have e1 := h2.c0
      rw [hb.cell (p := ⟨b, 0, none⟩) hbq, h.c0] at e1
      cases e1
    · have e1 := h2.c0
      rw [hb.cell (p := ⟨b, 0, none⟩) hbq, h.c0] at e1
      cases e1
      exact .inr ⟨q, g', n', c', h2, Wi.wtyp_below kb hb hbq, Wi.wtyp_below kq hb hq⟩
theorem Wi.WOkT.drew {w : World} {b : Nat} {l : List Int} (h : Wi.WOkT w b l) : Wi.WOkT w.drew b l := h.later (Below.refl _ _).drew
theorem Wi.WOkT.lt {w : World} {b : Nat} {l : List Int} (h : Wi.WOkT w b l) : b < w.heap.size := by
  rcases h with ⟨e, h, kb⟩ | ⟨q, g, n, c, h, kb, kq⟩
  · exact h.lt
  · exact Nat.lt_trans h.lt h.ltq
theorem Wi.not_wtyp_box (w : World) (c : Array Value) (t : TypeId) (ht : ¬ (t = 5 ∨ t = 151 ∨ t = 112)) : ¬ Wi.wtyp (w.alloc (.cells c t)) w.heap.size := by
  rintro ⟨c', f, t', e, h⟩
  have : (w.alloc (.cells c t)).heap[w.heap.size]? = some (.cells c t) := by show (w.heap.push _)[w.heap.size]? = _; simp
  rw [this] at e
  cases e
  exact ht h
theorem cell_box (w : World) (c : Array Value) (t : TypeId) (i : Nat) (x : Value) (h : c[i]? = some x) : (w.alloc (.cells c t)).cell? ⟨w.heap.size, i, none⟩ = some x := by
  simp [h]
theorem ldInt {w : World} {q o : Nat} {x : Int} (h : w.cell? ⟨q, o, none⟩ = some (.int .i64 x)) : (Instr.loadAt 3 (.pointer (some ⟨q, o, none⟩))).run Tryz.prog w = .ok (.int .i64 x) w := by
  go_simp
theorem ldU64 {w : World} {q o : Nat} {x : Int} (h : w.cell? ⟨q, o, none⟩ = some (.int .u64 x)) : (Instr.loadAt 31 (.pointer (some ⟨q, o, none⟩))).run Tryz.prog w = .ok (.int .u64 x) w := by
  go_simp
theorem ldStr {w : World} {q o : Nat} {x : ByteArray} (h : w.cell? ⟨q, o, none⟩ = some (.string x)) : (Instr.loadAt 9 (.pointer (some ⟨q, o, none⟩))).run Tryz.prog w = .ok (.string x) w := by
  go_simp
theorem form_le {x : Nat} (h : x < 2 ^ 64) : (M.form x).length ≤ 9 := by
  rw [M.form_length]
  have := M.nb_le x h
  omega
def drBy (x y : Nat) : List Int := M.form x ++ M.form y
def nmBy (c n : Nat) : List Int := M.form c ++ M.form n
def opBy (k s : Nat) (v : ByteArray) : List Int := M.form k ++ (M.form s ++ (M.form v.size ++ Wi.sb v))
set_option maxRecDepth 100000 in
set_option maxHeartbeats 4000000 in
theorem wdraw_tk (B b : Nat) (l : List Int) (x y : Nat) (w : World) (hB : B ≤ b) (h : Wi.WOkT w b l) (hx : x < 2 ^ 64) (hy : y < 2 ^ 64) (hl : l.length + 18 ≤ 140737488355328) :
    Calls Tryz.prog 120 #[.pointer (some ⟨b, 0, none⟩), .agg #[.int .u64 (x : Int), .int .u64 (y : Int)]] w fun e w' => e = .returned (.tuple #[]) ∧ Wi.WOkT w' b (l ++ drBy x y) ∧ Below B w w' ∧ Wi.TKp w w' := by
  have hlt := h.lt
  go_enter Tryz.func120, Tryz.ntmps120
  go_upto_region 1 with fail
  obtain ⟨w1, hw1⟩ : ∃ w1, w1 = w.alloc (.cells #[.int .u64 (x : Int), .int .u64 (y : Int)] 33) := ⟨_, rfl⟩
  rw [← hw1]
  have hs1 : w1.heap.size = w.heap.size + 1 := by rw [hw1]; simp
  have hBw : Below w.heap.size w w1 := by rw [hw1]; exact (Below.refl _ _).alloc (Nat.le_refl _) _
  have HQ : Hid (∀ vv, Wi.TKp w1 vv → ∀ (ii : Nat) (uu : Value), ([.int .u64 (x : Int), .int .u64 (y : Int)] : List Value)[ii]? = some uu → vv.cell? ⟨w.heap.size, ii, none⟩ = some uu) := fun vv hv ii uu hx => by
    rw [hv.cell (p := ⟨w.heap.size, ii, none⟩) (by rw [hs1]; exact Nat.lt_succ_self _) (by rw [hw1]; exact Wi.not_wtyp_box _ _ _ (by decide))]
    rw [hw1]
    exact cell_box _ _ _ _ _ (by simpa using hx)
  have W1 : Hid (w1 = w1) := rfl
  obtain ⟨W1, hW1⟩ : ∃ W1, W1 = w1 := ⟨_, rfl⟩
  have hO1 : Wi.WOkT W1 b l := by rw [hW1]; exact h.later hBw
  have hT1 : Wi.TKp w1 W1 := by rw [hW1]; exact Wi.TKp.refl _
  have hB1 : Below B w W1 := by rw [hW1]; exact hBw.mono (by omega)
  have hTw : Wi.TKp w w1 := Wi.TKp.of_below hBw
  rw [← hW1]
  have f1 := form_le hx
  clear hW1 hw1 hs1 hBw h
  refine vh_start (fun v => Wi.TKp w1 v) (by kernel_rfl) ?_
  have hS : Wi.TKp w1 W1.drew := hT1.drewN 1
  have hP1 : Wi.WOkT W1.drew b (l) := hO1.drew
  refine vh_gen (fun T => T.size = 16 ∧ T[0]? = some (gw true (.pointer (some ⟨b, 0, none⟩))) ∧ T[3]? = some (gw true (.pointer (some ⟨w.heap.size, 0, none⟩)))) ⟨rfl, rfl, rfl⟩ (fun T0 ⟨hz, s0, s3⟩ => ?_)
  refine vh_take 0 true (.pointer (some ⟨b, 0, none⟩)) rfl (by kernel_rfl) (by kernel_rfl) (by kernel_rfl) (want_none rfl) (fun hc v hv => ex_move rfl (ev s0 rfl)) rfl hz (by decide) hS (fun A1_1 zz kk s4x => ?_)
  replace s0 := kt kk s0
  replace s3 := kt kk s3
  clear kk hz
  have hz := zz
  have s4 := s4x
  clear zz s4x
  refine vh_take 1 true (.pointer (some ⟨b, 0, none⟩)) rfl (by kernel_rfl) (by kernel_rfl) (by kernel_rfl) (want_none rfl) (fun hc v hv => ex_nil rfl (ev s4 rfl)) rfl hz (by decide) hS (fun A1_2 zz kk s5x => ?_)
  replace s0 := kt kk s0
  replace s3 := kt kk s3
  clear kk hz s4
  have hz := zz
  have s5 := s5x
  clear zz s5x A1_1
  refine vh_take 2 true (.pointer (some ⟨b, 0, none⟩)) rfl (by kernel_rfl) (by kernel_rfl) (by kernel_rfl) (want_none rfl) (fun hc v hv => ex_fa rfl (ev s5 rfl) (by go_simp)) rfl hz (by decide) hS (fun A1_3 zz kk s6x => ?_)
  replace s0 := kt kk s0
  replace s3 := kt kk s3
  clear kk hz s5
  have hz := zz
  have s6 := s6x
  clear zz s6x A1_2
  refine vh_take 3 true (.pointer (some ⟨w.heap.size, 0, none⟩)) rfl (by kernel_rfl) (by kernel_rfl) (by kernel_rfl) (want_none rfl) (fun hc v hv => ex_fa rfl (ev s3 rfl) (by go_simp)) rfl hz (by decide) hS (fun A1_4 zz kk s7x => ?_)
  replace s0 := kt kk s0
  replace s3 := kt kk s3
  replace s6 := kt kk s6
  clear kk hz
  have hz := zz
  have s7 := s7x
  clear zz s7x A1_3
  refine vh_take 4 true (.int .u64 (x : Int)) rfl (by kernel_rfl) (by kernel_rfl) (by kernel_rfl) (want_none rfl) (fun hc v hv => ex_ld rfl (ev s7 rfl) (ldU64 (HQ.out v hv 0 _ rfl))) rfl hz (by decide) hS (fun A1_5 zz kk s8x => ?_)
  replace s0 := kt kk s0
  replace s3 := kt kk s3
  replace s6 := kt kk s6
  clear kk hz s7
  have hz := zz
  have s8 := s8x
  clear zz s8x A1_4
  refine vh_call 5 rfl (by kernel_rfl) (want_none rfl) (ex_call rfl (by simp only [List.map_toArray, List.map_cons, List.map_nil, (ev s6 rfl), (ev s8 rfl), evc] <;> rfl) rfl) (Wi.number_tk B b (l) x W1.drew hB hP1 hx (by first | omega | (simp only [List.length_append]; omega))) rfl hz (by decide) ?_
  rintro e W2 ⟨rfl, hO2, hb, ht⟩
  refine ⟨_, rfl, (hS.trans ht), fun A1_6 zz kk s9x => ?_⟩
  have hB2 := hB1.trans ((Below.refl _ _).drew.trans hb)
  have hT2 := hT1.trans (((Wi.TKp.refl _).drewN 1).trans ht)
  clear hb ht hS
  replace s0 := kt kk s0
  replace s3 := kt kk s3
  clear kk hz s6 s8
  have hz := zz
  have s9 := s9x
  clear zz s9x A1_5
  refine vh_done (by kernel_rfl) ?_
  go_upto_region 2 with fail
  refine vh_start (fun v => Wi.TKp w1 v) (by kernel_rfl) ?_
  have hS : Wi.TKp w1 W2.drew := hT2.drewN 1
  have hP2 : Wi.WOkT W2.drew b (l ++ M.form x) := hO2.drew
  refine vh_take 0 true (.pointer (some ⟨b, 0, none⟩)) rfl (by kernel_rfl) (by kernel_rfl) (by kernel_rfl) (want_none rfl) (fun hc v hv => ex_move rfl (ev s0 rfl)) rfl hz (by decide) hS (fun A2_1 zz kk s10x => ?_)
  replace s0 := kt kk s0
  replace s3 := kt kk s3
  clear kk hz s9
  have hz := zz
  have s10 := s10x
  clear zz s10x
  refine vh_take 1 true (.pointer (some ⟨b, 0, none⟩)) rfl (by kernel_rfl) (by kernel_rfl) (by kernel_rfl) (want_none rfl) (fun hc v hv => ex_nil rfl (ev s10 rfl)) rfl hz (by decide) hS (fun A2_2 zz kk s11x => ?_)
  replace s0 := kt kk s0
  replace s3 := kt kk s3
  clear kk hz s10
  have hz := zz
  have s11 := s11x
  clear zz s11x A2_1
  refine vh_take 2 true (.pointer (some ⟨b, 0, none⟩)) rfl (by kernel_rfl) (by kernel_rfl) (by kernel_rfl) (want_none rfl) (fun hc v hv => ex_fa rfl (ev s11 rfl) (by go_simp)) rfl hz (by decide) hS (fun A2_3 zz kk s12x => ?_)
  replace s0 := kt kk s0
  replace s3 := kt kk s3
  clear kk hz s11
  have hz := zz
  have s12 := s12x
  clear zz s12x A2_2
  refine vh_take 3 true (.pointer (some ⟨w.heap.size, 1, none⟩)) rfl (by kernel_rfl) (by kernel_rfl) (by kernel_rfl) (want_none rfl) (fun hc v hv => ex_fa rfl (ev s3 rfl) (by go_simp)) rfl hz (by decide) hS (fun A2_4 zz kk s13x => ?_)
  replace s0 := kt kk s0
  replace s3 := kt kk s3
  replace s12 := kt kk s12
  clear kk hz
  have hz := zz
  have s13 := s13x
  clear zz s13x A2_3
  refine vh_take 4 true (.int .u64 (y : Int)) rfl (by kernel_rfl) (by kernel_rfl) (by kernel_rfl) (want_none rfl) (fun hc v hv => ex_ld rfl (ev s13 rfl) (ldU64 (HQ.out v hv 1 _ rfl))) rfl hz (by decide) hS (fun A2_5 zz kk s14x => ?_)
  replace s0 := kt kk s0
  replace s3 := kt kk s3
  replace s12 := kt kk s12
  clear kk hz s13
  have hz := zz
  have s14 := s14x
  clear zz s14x A2_4
  refine vh_call 5 rfl (by kernel_rfl) (want_none rfl) (ex_call rfl (by simp only [List.map_toArray, List.map_cons, List.map_nil, (ev s12 rfl), (ev s14 rfl), evc] <;> rfl) rfl) (Wi.number_tk B b (l ++ M.form x) y W2.drew hB hP2 hy (by first | omega | (simp only [List.length_append]; omega))) rfl hz (by decide) ?_
  rintro e W3 ⟨rfl, hO3, hb, ht⟩
  refine ⟨_, rfl, (hS.trans ht), fun A2_6 zz kk s15x => ?_⟩
  have hB3 := hB2.trans ((Below.refl _ _).drew.trans hb)
  have hT3 := hT2.trans (((Wi.TKp.refl _).drewN 1).trans ht)
  clear hb ht hS
  replace s0 := kt kk s0
  replace s3 := kt kk s3
  clear kk hz s12 s14
  have hz := zz
  have s15 := s15x
  clear zz s15x A2_5
  refine vh_done (by kernel_rfl) ?_
  go_wp2
  go_end0
  exact ⟨rfl, by simpa only [drBy, nmBy, List.append_assoc] using hO3, hB3, hTw.trans hT3⟩
set_option maxRecDepth 100000 in
set_option maxHeartbeats 4000000 in
theorem wname_tk (B b : Nat) (l : List Int) (c n : Nat) (k s : Int) (v : ByteArray) (w : World) (hB : B ≤ b) (h : Wi.WOkT w b l) (hc1 : c ≤ 9223372036854775807) (hn1 : n ≤ 9223372036854775807) (hl : l.length + 18 ≤ 140737488355328) :
    Calls Tryz.prog 121 #[.pointer (some ⟨b, 0, none⟩), .agg #[.int .i64 (c : Int), .int .i64 (n : Int), .int .i64 k, .int .i64 s, .string v]] w fun e w' => e = .returned (.tuple #[]) ∧ Wi.WOkT w' b (l ++ nmBy c n) ∧ Below B w w' ∧ Wi.TKp w w' := by
  have hlt := h.lt
  go_enter Tryz.func121, Tryz.ntmps121
  go_upto_region 1 with fail
  obtain ⟨w1, hw1⟩ : ∃ w1, w1 = w.alloc (.cells #[.int .i64 (c : Int), .int .i64 (n : Int), .int .i64 k, .int .i64 s, .string v] 28) := ⟨_, rfl⟩
  rw [← hw1]
  have hs1 : w1.heap.size = w.heap.size + 1 := by rw [hw1]; simp
  have hBw : Below w.heap.size w w1 := by rw [hw1]; exact (Below.refl _ _).alloc (Nat.le_refl _) _
  have HQ : Hid (∀ vv, Wi.TKp w1 vv → ∀ (ii : Nat) (uu : Value), ([.int .i64 (c : Int), .int .i64 (n : Int), .int .i64 k, .int .i64 s, .string v] : List Value)[ii]? = some uu → vv.cell? ⟨w.heap.size, ii, none⟩ = some uu) := fun vv hv ii uu hx => by
    rw [hv.cell (p := ⟨w.heap.size, ii, none⟩) (by rw [hs1]; exact Nat.lt_succ_self _) (by rw [hw1]; exact Wi.not_wtyp_box _ _ _ (by decide))]
    rw [hw1]
    exact cell_box _ _ _ _ _ (by simpa using hx)
  have W1 : Hid (w1 = w1) := rfl
  obtain ⟨W1, hW1⟩ : ∃ W1, W1 = w1 := ⟨_, rfl⟩
  have hO1 : Wi.WOkT W1 b l := by rw [hW1]; exact h.later hBw
  have hT1 : Wi.TKp w1 W1 := by rw [hW1]; exact Wi.TKp.refl _
  have hB1 : Below B w W1 := by rw [hW1]; exact hBw.mono (by omega)
  have hTw : Wi.TKp w w1 := Wi.TKp.of_below hBw
  rw [← hW1]
  have f1 := form_le (show c < 2 ^ 64 by omega)
  clear hW1 hw1 hs1 hBw h
  refine vh_start (fun v => Wi.TKp w1 v) (by kernel_rfl) ?_
  have hS : Wi.TKp w1 W1.drew := hT1.drewN 1
  have hP1 : Wi.WOkT W1.drew b (l) := hO1.drew
  refine vh_gen (fun T => T.size = 16 ∧ T[0]? = some (gw true (.pointer (some ⟨b, 0, none⟩))) ∧ T[3]? = some (gw true (.pointer (some ⟨w.heap.size, 0, none⟩)))) ⟨rfl, rfl, rfl⟩ (fun T0 ⟨hz, s0, s3⟩ => ?_)
  refine vh_take 0 true (.pointer (some ⟨b, 0, none⟩)) rfl (by kernel_rfl) (by kernel_rfl) (by kernel_rfl) (want_none rfl) (fun hc v hv => ex_move rfl (ev s0 rfl)) rfl hz (by decide) hS (fun A1_1 zz kk s4x => ?_)
  replace s0 := kt kk s0
  replace s3 := kt kk s3
  clear kk hz
  have hz := zz
  have s4 := s4x
  clear zz s4x
  refine vh_take 1 true (.pointer (some ⟨b, 0, none⟩)) rfl (by kernel_rfl) (by kernel_rfl) (by kernel_rfl) (want_none rfl) (fun hc v hv => ex_nil rfl (ev s4 rfl)) rfl hz (by decide) hS (fun A1_2 zz kk s5x => ?_)
  replace s0 := kt kk s0
  replace s3 := kt kk s3
  clear kk hz s4
  have hz := zz
  have s5 := s5x
  clear zz s5x A1_1
  refine vh_take 2 true (.pointer (some ⟨b, 0, none⟩)) rfl (by kernel_rfl) (by kernel_rfl) (by kernel_rfl) (want_none rfl) (fun hc v hv => ex_fa rfl (ev s5 rfl) (by go_simp)) rfl hz (by decide) hS (fun A1_3 zz kk s6x => ?_)
  replace s0 := kt kk s0
  replace s3 := kt kk s3
  clear kk hz s5
  have hz := zz
  have s6 := s6x
  clear zz s6x A1_2
  refine vh_take 3 true (.pointer (some ⟨w.heap.size, 0, none⟩)) rfl (by kernel_rfl) (by kernel_rfl) (by kernel_rfl) (want_none rfl) (fun hc v hv => ex_fa rfl (ev s3 rfl) (by go_simp)) rfl hz (by decide) hS (fun A1_4 zz kk s7x => ?_)
  replace s0 := kt kk s0
  replace s3 := kt kk s3
  replace s6 := kt kk s6
  clear kk hz
  have hz := zz
  have s7 := s7x
  clear zz s7x A1_3
  refine vh_take 4 true (.int .i64 (c : Int)) rfl (by kernel_rfl) (by kernel_rfl) (by kernel_rfl) (want_none rfl) (fun hc v hv => ex_ld rfl (ev s7 rfl) (ldInt (HQ.out v hv 0 _ rfl))) rfl hz (by decide) hS (fun A1_5 zz kk s8x => ?_)
  replace s0 := kt kk s0
  replace s3 := kt kk s3
  replace s6 := kt kk s6
  clear kk hz s7
  have hz := zz
  have s8 := s8x
  clear zz s8x A1_4
  refine vh_call 5 rfl (by kernel_rfl) (want_none rfl) (ex_call rfl (by simp only [List.map_toArray, List.map_cons, List.map_nil, (ev s6 rfl), (ev s8 rfl), evc] <;> rfl) rfl) (Wi.int_tk B b (l) c W1.drew hB hP1 hc1 (by first | omega | (simp only [List.length_append]; omega))) rfl hz (by decide) ?_
  rintro e W2 ⟨rfl, hO2, hb, ht⟩
  refine ⟨_, rfl, (hS.trans ht), fun A1_6 zz kk s9x => ?_⟩
  have hB2 := hB1.trans ((Below.refl _ _).drew.trans hb)
  have hT2 := hT1.trans (((Wi.TKp.refl _).drewN 1).trans ht)
  clear hb ht hS
  replace s0 := kt kk s0
  replace s3 := kt kk s3
  clear kk hz s6 s8
  have hz := zz
  have s9 := s9x
  clear zz s9x A1_5
  refine vh_done (by kernel_rfl) ?_
  go_upto_region 2 with fail
  refine vh_start (fun v => Wi.TKp w1 v) (by kernel_rfl) ?_
  have hS : Wi.TKp w1 W2.drew := hT2.drewN 1
  have hP2 : Wi.WOkT W2.drew b (l ++ M.form c) := hO2.drew
  refine vh_take 0 true (.pointer (some ⟨b, 0, none⟩)) rfl (by kernel_rfl) (by kernel_rfl) (by kernel_rfl) (want_none rfl) (fun hc v hv => ex_move rfl (ev s0 rfl)) rfl hz (by decide) hS (fun A2_1 zz kk s10x => ?_)
  replace s0 := kt kk s0
  replace s3 := kt kk s3
  clear kk hz s9
  have hz := zz
  have s10 := s10x
  clear zz s10x
  refine vh_take 1 true (.pointer (some ⟨b, 0, none⟩)) rfl (by kernel_rfl) (by kernel_rfl) (by kernel_rfl) (want_none rfl) (fun hc v hv => ex_nil rfl (ev s10 rfl)) rfl hz (by decide) hS (fun A2_2 zz kk s11x => ?_)
  replace s0 := kt kk s0
  replace s3 := kt kk s3
  clear kk hz s10
  have hz := zz
  have s11 := s11x
  clear zz s11x A2_1
  refine vh_take 2 true (.pointer (some ⟨b, 0, none⟩)) rfl (by kernel_rfl) (by kernel_rfl) (by kernel_rfl) (want_none rfl) (fun hc v hv => ex_fa rfl (ev s11 rfl) (by go_simp)) rfl hz (by decide) hS (fun A2_3 zz kk s12x => ?_)
  replace s0 := kt kk s0
  replace s3 := kt kk s3
  clear kk hz s11
  have hz := zz
  have s12 := s12x
  clear zz s12x A2_2
  refine vh_take 3 true (.pointer (some ⟨w.heap.size, 1, none⟩)) rfl (by kernel_rfl) (by kernel_rfl) (by kernel_rfl) (want_none rfl) (fun hc v hv => ex_fa rfl (ev s3 rfl) (by go_simp)) rfl hz (by decide) hS (fun A2_4 zz kk s13x => ?_)
  replace s0 := kt kk s0
  replace s3 := kt kk s3
  replace s12 := kt kk s12
  clear kk hz
  have hz := zz
  have s13 := s13x
  clear zz s13x A2_3
  refine vh_take 4 true (.int .i64 (n : Int)) rfl (by kernel_rfl) (by kernel_rfl) (by kernel_rfl) (want_none rfl) (fun hc v hv => ex_ld rfl (ev s13 rfl) (ldInt (HQ.out v hv 1 _ rfl))) rfl hz (by decide) hS (fun A2_5 zz kk s14x => ?_)
  replace s0 := kt kk s0
  replace s3 := kt kk s3
  replace s12 := kt kk s12
  clear kk hz s13
  have hz := zz
  have s14 := s14x
  clear zz s14x A2_4
  refine vh_call 5 rfl (by kernel_rfl) (want_none rfl) (ex_call rfl (by simp only [List.map_toArray, List.map_cons, List.map_nil, (ev s12 rfl), (ev s14 rfl), evc] <;> rfl) rfl) (Wi.int_tk B b (l ++ M.form c) n W2.drew hB hP2 hn1 (by first | omega | (simp only [List.length_append]; omega))) rfl hz (by decide) ?_
  rintro e W3 ⟨rfl, hO3, hb, ht⟩
  refine ⟨_, rfl, (hS.trans ht), fun A2_6 zz kk s15x => ?_⟩
  have hB3 := hB2.trans ((Below.refl _ _).drew.trans hb)
  have hT3 := hT2.trans (((Wi.TKp.refl _).drewN 1).trans ht)
  clear hb ht hS
  replace s0 := kt kk s0
  replace s3 := kt kk s3
  clear kk hz s12 s14
  have hz := zz
  have s15 := s15x
  clear zz s15x A2_5
  refine vh_done (by kernel_rfl) ?_
  go_wp2
  go_end0
  exact ⟨rfl, by simpa only [drBy, nmBy, List.append_assoc] using hO3, hB3, hTw.trans hT3⟩
set_option maxRecDepth 100000 in
set_option maxHeartbeats 4000000 in
theorem wop_tk (B b : Nat) (l : List Int) (k s : Nat) (v : ByteArray) (w : World) (hB : B ≤ b) (h : Wi.WOkT w b l) (hk1 : k ≤ 9223372036854775807) (hs2 : s ≤ 9223372036854775807) (hv1 : v.size ≤ 64) (hl : l.length + 91 ≤ 140737488355328) :
    Calls Tryz.prog 122 #[.pointer (some ⟨b, 0, none⟩), .agg #[.int .i64 (k : Int), .int .i64 (s : Int), .string v]] w fun e w' => e = .returned (.tuple #[]) ∧ Wi.WOkT w' b (l ++ opBy k s v) ∧ Below B w w' ∧ Wi.TKp w w' := by
  have hlt := h.lt
  go_enter Tryz.func122, Tryz.ntmps122
  go_upto_region 1 with fail
  obtain ⟨w1, hw1⟩ : ∃ w1, w1 = w.alloc (.cells #[.int .i64 (k : Int), .int .i64 (s : Int), .string v] 26) := ⟨_, rfl⟩
  rw [← hw1]
  have hs1 : w1.heap.size = w.heap.size + 1 := by rw [hw1]; simp
  have hBw : Below w.heap.size w w1 := by rw [hw1]; exact (Below.refl _ _).alloc (Nat.le_refl _) _
  have HQ : Hid (∀ vv, Wi.TKp w1 vv → ∀ (ii : Nat) (uu : Value), ([.int .i64 (k : Int), .int .i64 (s : Int), .string v] : List Value)[ii]? = some uu → vv.cell? ⟨w.heap.size, ii, none⟩ = some uu) := fun vv hv ii uu hx => by
    rw [hv.cell (p := ⟨w.heap.size, ii, none⟩) (by rw [hs1]; exact Nat.lt_succ_self _) (by rw [hw1]; exact Wi.not_wtyp_box _ _ _ (by decide))]
    rw [hw1]
    exact cell_box _ _ _ _ _ (by simpa using hx)
  have W1 : Hid (w1 = w1) := rfl
  obtain ⟨W1, hW1⟩ : ∃ W1, W1 = w1 := ⟨_, rfl⟩
  have hO1 : Wi.WOkT W1 b l := by rw [hW1]; exact h.later hBw
  have hT1 : Wi.TKp w1 W1 := by rw [hW1]; exact Wi.TKp.refl _
  have hB1 : Below B w W1 := by rw [hW1]; exact hBw.mono (by omega)
  have hTw : Wi.TKp w w1 := Wi.TKp.of_below hBw
  rw [← hW1]
  have f1 := form_le (show k < 2 ^ 64 by omega)
  have f2 := form_le (show s < 2 ^ 64 by omega)
  clear hW1 hw1 hs1 hBw h
  refine vh_start (fun v => Wi.TKp w1 v) (by kernel_rfl) ?_
  have hS : Wi.TKp w1 W1.drew := hT1.drewN 1
  have hP1 : Wi.WOkT W1.drew b (l) := hO1.drew
  refine vh_gen (fun T => T.size = 22 ∧ T[0]? = some (gw true (.pointer (some ⟨b, 0, none⟩))) ∧ T[3]? = some (gw true (.pointer (some ⟨w.heap.size, 0, none⟩)))) ⟨rfl, rfl, rfl⟩ (fun T0 ⟨hz, s0, s3⟩ => ?_)
  refine vh_take 0 true (.pointer (some ⟨b, 0, none⟩)) rfl (by kernel_rfl) (by kernel_rfl) (by kernel_rfl) (want_none rfl) (fun hc v hv => ex_move rfl (ev s0 rfl)) rfl hz (by decide) hS (fun A1_1 zz kk s4x => ?_)
  replace s0 := kt kk s0
  replace s3 := kt kk s3
  clear kk hz
  have hz := zz
  have s4 := s4x
  clear zz s4x
  refine vh_take 1 true (.pointer (some ⟨b, 0, none⟩)) rfl (by kernel_rfl) (by kernel_rfl) (by kernel_rfl) (want_none rfl) (fun hc v hv => ex_nil rfl (ev s4 rfl)) rfl hz (by decide) hS (fun A1_2 zz kk s5x => ?_)
  replace s0 := kt kk s0
  replace s3 := kt kk s3
  clear kk hz s4
  have hz := zz
  have s5 := s5x
  clear zz s5x A1_1
  refine vh_take 2 true (.pointer (some ⟨b, 0, none⟩)) rfl (by kernel_rfl) (by kernel_rfl) (by kernel_rfl) (want_none rfl) (fun hc v hv => ex_fa rfl (ev s5 rfl) (by go_simp)) rfl hz (by decide) hS (fun A1_3 zz kk s6x => ?_)
  replace s0 := kt kk s0
  replace s3 := kt kk s3
  clear kk hz s5
  have hz := zz
  have s6 := s6x
  clear zz s6x A1_2
  refine vh_take 3 true (.pointer (some ⟨w.heap.size, 0, none⟩)) rfl (by kernel_rfl) (by kernel_rfl) (by kernel_rfl) (want_none rfl) (fun hc v hv => ex_fa rfl (ev s3 rfl) (by go_simp)) rfl hz (by decide) hS (fun A1_4 zz kk s7x => ?_)
  replace s0 := kt kk s0
  replace s3 := kt kk s3
  replace s6 := kt kk s6
  clear kk hz
  have hz := zz
  have s7 := s7x
  clear zz s7x A1_3
  refine vh_take 4 true (.int .i64 (k : Int)) rfl (by kernel_rfl) (by kernel_rfl) (by kernel_rfl) (want_none rfl) (fun hc v hv => ex_ld rfl (ev s7 rfl) (ldInt (HQ.out v hv 0 _ rfl))) rfl hz (by decide) hS (fun A1_5 zz kk s8x => ?_)
  replace s0 := kt kk s0
  replace s3 := kt kk s3
  replace s6 := kt kk s6
  clear kk hz s7
  have hz := zz
  have s8 := s8x
  clear zz s8x A1_4
  refine vh_call 5 rfl (by kernel_rfl) (want_none rfl) (ex_call rfl (by simp only [List.map_toArray, List.map_cons, List.map_nil, (ev s6 rfl), (ev s8 rfl), evc] <;> rfl) rfl) (Wi.int_tk B b (l) k W1.drew hB hP1 hk1 (by first | omega | (simp only [List.length_append]; omega))) rfl hz (by decide) ?_
  rintro e W2 ⟨rfl, hO2, hb, ht⟩
  refine ⟨_, rfl, (hS.trans ht), fun A1_6 zz kk s9x => ?_⟩
  have hB2 := hB1.trans ((Below.refl _ _).drew.trans hb)
  have hT2 := hT1.trans (((Wi.TKp.refl _).drewN 1).trans ht)
  clear hb ht hS
  replace s0 := kt kk s0
  replace s3 := kt kk s3
  clear kk hz s6 s8
  have hz := zz
  have s9 := s9x
  clear zz s9x A1_5
  refine vh_done (by kernel_rfl) ?_
  go_upto_region 2 with fail
  refine vh_start (fun v => Wi.TKp w1 v) (by kernel_rfl) ?_
  have hS : Wi.TKp w1 W2.drew := hT2.drewN 1
  have hP2 : Wi.WOkT W2.drew b (l ++ M.form k) := hO2.drew
  refine vh_take 0 true (.pointer (some ⟨b, 0, none⟩)) rfl (by kernel_rfl) (by kernel_rfl) (by kernel_rfl) (want_none rfl) (fun hc v hv => ex_move rfl (ev s0 rfl)) rfl hz (by decide) hS (fun A2_1 zz kk s10x => ?_)
  replace s0 := kt kk s0
  replace s3 := kt kk s3
  clear kk hz s9
  have hz := zz
  have s10 := s10x
  clear zz s10x
  refine vh_take 1 true (.pointer (some ⟨b, 0, none⟩)) rfl (by kernel_rfl) (by kernel_rfl) (by kernel_rfl) (want_none rfl) (fun hc v hv => ex_nil rfl (ev s10 rfl)) rfl hz (by decide) hS (fun A2_2 zz kk s11x => ?_)
  replace s0 := kt kk s0
  replace s3 := kt kk s3
  clear kk hz s10
  have hz := zz
  have s11 := s11x
  clear zz s11x A2_1
  refine vh_take 2 true (.pointer (some ⟨b, 0, none⟩)) rfl (by kernel_rfl) (by kernel_rfl) (by kernel_rfl) (want_none rfl) (fun hc v hv => ex_fa rfl (ev s11 rfl) (by go_simp)) rfl hz (by decide) hS (fun A2_3 zz kk s12x => ?_)
  replace s0 := kt kk s0
  replace s3 := kt kk s3
  clear kk hz s11
  have hz := zz
  have s12 := s12x
  clear zz s12x A2_2
  refine vh_take 3 true (.pointer (some ⟨w.heap.size, 1, none⟩)) rfl (by kernel_rfl) (by kernel_rfl) (by kernel_rfl) (want_none rfl) (fun hc v hv => ex_fa rfl (ev s3 rfl) (by go_simp)) rfl hz (by decide) hS (fun A2_4 zz kk s13x => ?_)
  replace s0 := kt kk s0
  replace s3 := kt kk s3
  replace s12 := kt kk s12
  clear kk hz
  have hz := zz
  have s13 := s13x
  clear zz s13x A2_3
  refine vh_take 4 true (.int .i64 (s : Int)) rfl (by kernel_rfl) (by kernel_rfl) (by kernel_rfl) (want_none rfl) (fun hc v hv => ex_ld rfl (ev s13 rfl) (ldInt (HQ.out v hv 1 _ rfl))) rfl hz (by decide) hS (fun A2_5 zz kk s14x => ?_)
  replace s0 := kt kk s0
  replace s3 := kt kk s3
  replace s12 := kt kk s12
  clear kk hz s13
  have hz := zz
  have s14 := s14x
  clear zz s14x A2_4
  refine vh_call 5 rfl (by kernel_rfl) (want_none rfl) (ex_call rfl (by simp only [List.map_toArray, List.map_cons, List.map_nil, (ev s12 rfl), (ev s14 rfl), evc] <;> rfl) rfl) (Wi.int_tk B b (l ++ M.form k) s W2.drew hB hP2 hs2 (by first | omega | (simp only [List.length_append]; omega))) rfl hz (by decide) ?_
  rintro e W3 ⟨rfl, hO3, hb, ht⟩
  refine ⟨_, rfl, (hS.trans ht), fun A2_6 zz kk s15x => ?_⟩
  have hB3 := hB2.trans ((Below.refl _ _).drew.trans hb)
  have hT3 := hT2.trans (((Wi.TKp.refl _).drewN 1).trans ht)
  clear hb ht hS
  replace s0 := kt kk s0
  replace s3 := kt kk s3
  clear kk hz s12 s14
  have hz := zz
  have s15 := s15x
  clear zz s15x A2_5
  refine vh_done (by kernel_rfl) ?_
  go_upto_region 3 with fail
  refine vh_start (fun v => Wi.TKp w1 v) (by kernel_rfl) ?_
  have hS : Wi.TKp w1 W3.drew := hT3.drewN 1
  have hP3 : Wi.WOkT W3.drew b (l ++ M.form k ++ M.form s) := hO3.drew
  refine vh_take 0 true (.pointer (some ⟨b, 0, none⟩)) rfl (by kernel_rfl) (by kernel_rfl) (by kernel_rfl) (want_none rfl) (fun hc v hv => ex_move rfl (ev s0 rfl)) rfl hz (by decide) hS (fun A3_1 zz kk s16x => ?_)
  replace s0 := kt kk s0
  replace s3 := kt kk s3
  clear kk hz s15
  have hz := zz
  have s16 := s16x
  clear zz s16x
  refine vh_take 1 true (.pointer (some ⟨b, 0, none⟩)) rfl (by kernel_rfl) (by kernel_rfl) (by kernel_rfl) (want_none rfl) (fun hc v hv => ex_nil rfl (ev s16 rfl)) rfl hz (by decide) hS (fun A3_2 zz kk s17x => ?_)
  replace s0 := kt kk s0
  replace s3 := kt kk s3
  clear kk hz s16
  have hz := zz
  have s17 := s17x
  clear zz s17x A3_1
  refine vh_take 2 true (.pointer (some ⟨b, 0, none⟩)) rfl (by kernel_rfl) (by kernel_rfl) (by kernel_rfl) (want_none rfl) (fun hc v hv => ex_fa rfl (ev s17 rfl) (by go_simp)) rfl hz (by decide) hS (fun A3_3 zz kk s18x => ?_)
  replace s0 := kt kk s0
  replace s3 := kt kk s3
  clear kk hz s17
  have hz := zz
  have s18 := s18x
  clear zz s18x A3_2
  refine vh_take 3 true (.pointer (some ⟨w.heap.size, 2, none⟩)) rfl (by kernel_rfl) (by kernel_rfl) (by kernel_rfl) (want_none rfl) (fun hc v hv => ex_fa rfl (ev s3 rfl) (by go_simp)) rfl hz (by decide) hS (fun A3_4 zz kk s19x => ?_)
  replace s0 := kt kk s0
  replace s3 := kt kk s3
  replace s18 := kt kk s18
  clear kk hz
  have hz := zz
  have s19 := s19x
  clear zz s19x A3_3
  refine vh_take 4 true (.string v) rfl (by kernel_rfl) (by kernel_rfl) (by kernel_rfl) (want_none rfl) (fun hc v hv => ex_ld rfl (ev s19 rfl) (ldStr (HQ.out v hv 2 _ rfl))) rfl hz (by decide) hS (fun A3_5 zz kk s20x => ?_)
  replace s0 := kt kk s0
  replace s3 := kt kk s3
  replace s18 := kt kk s18
  clear kk hz s19
  have hz := zz
  have s20 := s20x
  clear zz s20x A3_4
  refine vh_call 5 rfl (by kernel_rfl) (want_none rfl) (ex_call rfl (by simp only [List.map_toArray, List.map_cons, List.map_nil, (ev s18 rfl), (ev s20 rfl), evc] <;> rfl) rfl) (Wi.text_tk B b (l ++ M.form k ++ M.form s) v 64 W3.drew hB hP3 hv1 (by first | omega | (simp only [List.length_append]; omega))) rfl hz (by decide) ?_
  rintro e W4 ⟨rfl, hO4, hb, ht⟩
  refine ⟨_, rfl, (hS.trans ht), fun A3_6 zz kk s21x => ?_⟩
  have hB4 := hB3.trans ((Below.refl _ _).drew.trans hb)
  have hT4 := hT3.trans (((Wi.TKp.refl _).drewN 1).trans ht)
  clear hb ht hS
  replace s0 := kt kk s0
  replace s3 := kt kk s3
  clear kk hz s18 s20
  have hz := zz
  have s21 := s21x
  clear zz s21x A3_5
  refine vh_done (by kernel_rfl) ?_
  go_wp2
  go_end0
  exact ⟨rfl, by simpa only [opBy, List.append_assoc] using hO4, hB4, hTw.trans hT4⟩
set_option maxRecDepth 100000 in
set_option maxHeartbeats 4000000 in
theorem wresult_tk (B b : Nat) (l : List Int) (k s : Nat) (v : ByteArray) (w : World) (hB : B ≤ b) (h : Wi.WOkT w b l) (hk1 : k ≤ 9223372036854775807) (hs2 : s ≤ 9223372036854775807) (hv1 : v.size ≤ 64) (hl : l.length + 91 ≤ 140737488355328) :
    Calls Tryz.prog 123 #[.pointer (some ⟨b, 0, none⟩), .agg #[.int .i64 (k : Int), .int .i64 (s : Int), .string v]] w fun e w' => e = .returned (.tuple #[]) ∧ Wi.WOkT w' b (l ++ opBy k s v) ∧ Below B w w' ∧ Wi.TKp w w' := by
  have hlt := h.lt
  go_enter Tryz.func123, Tryz.ntmps123
  go_upto_region 1 with fail
  obtain ⟨w1, hw1⟩ : ∃ w1, w1 = w.alloc (.cells #[.int .i64 (k : Int), .int .i64 (s : Int), .string v] 30) := ⟨_, rfl⟩
  rw [← hw1]
  have hs1 : w1.heap.size = w.heap.size + 1 := by rw [hw1]; simp
  have hBw : Below w.heap.size w w1 := by rw [hw1]; exact (Below.refl _ _).alloc (Nat.le_refl _) _
  have HQ : Hid (∀ vv, Wi.TKp w1 vv → ∀ (ii : Nat) (uu : Value), ([.int .i64 (k : Int), .int .i64 (s : Int), .string v] : List Value)[ii]? = some uu → vv.cell? ⟨w.heap.size, ii, none⟩ = some uu) := fun vv hv ii uu hx => by
    rw [hv.cell (p := ⟨w.heap.size, ii, none⟩) (by rw [hs1]; exact Nat.lt_succ_self _) (by rw [hw1]; exact Wi.not_wtyp_box _ _ _ (by decide))]
    rw [hw1]
    exact cell_box _ _ _ _ _ (by simpa using hx)
  have W1 : Hid (w1 = w1) := rfl
  obtain ⟨W1, hW1⟩ : ∃ W1, W1 = w1 := ⟨_, rfl⟩
  have hO1 : Wi.WOkT W1 b l := by rw [hW1]; exact h.later hBw
  have hT1 : Wi.TKp w1 W1 := by rw [hW1]; exact Wi.TKp.refl _
  have hB1 : Below B w W1 := by rw [hW1]; exact hBw.mono (by omega)
  have hTw : Wi.TKp w w1 := Wi.TKp.of_below hBw
  rw [← hW1]
  have f1 := form_le (show k < 2 ^ 64 by omega)
  have f2 := form_le (show s < 2 ^ 64 by omega)
  clear hW1 hw1 hs1 hBw h
  refine vh_start (fun v => Wi.TKp w1 v) (by kernel_rfl) ?_
  have hS : Wi.TKp w1 W1.drew := hT1.drewN 1
  have hP1 : Wi.WOkT W1.drew b (l) := hO1.drew
  refine vh_gen (fun T => T.size = 22 ∧ T[0]? = some (gw true (.pointer (some ⟨b, 0, none⟩))) ∧ T[3]? = some (gw true (.pointer (some ⟨w.heap.size, 0, none⟩)))) ⟨rfl, rfl, rfl⟩ (fun T0 ⟨hz, s0, s3⟩ => ?_)
  refine vh_take 0 true (.pointer (some ⟨b, 0, none⟩)) rfl (by kernel_rfl) (by kernel_rfl) (by kernel_rfl) (want_none rfl) (fun hc v hv => ex_move rfl (ev s0 rfl)) rfl hz (by decide) hS (fun A1_1 zz kk s4x => ?_)
  replace s0 := kt kk s0
  replace s3 := kt kk s3
  clear kk hz
  have hz := zz
  have s4 := s4x
  clear zz s4x
  refine vh_take 1 true (.pointer (some ⟨b, 0, none⟩)) rfl (by kernel_rfl) (by kernel_rfl) (by kernel_rfl) (want_none rfl) (fun hc v hv => ex_nil rfl (ev s4 rfl)) rfl hz (by decide) hS (fun A1_2 zz kk s5x => ?_)
  replace s0 := kt kk s0
  replace s3 := kt kk s3
  clear kk hz s4
  have hz := zz
  have s5 := s5x
  clear zz s5x A1_1
  refine vh_take 2 true (.pointer (some ⟨b, 0, none⟩)) rfl (by kernel_rfl) (by kernel_rfl) (by kernel_rfl) (want_none rfl) (fun hc v hv => ex_fa rfl (ev s5 rfl) (by go_simp)) rfl hz (by decide) hS (fun A1_3 zz kk s6x => ?_)
  replace s0 := kt kk s0
  replace s3 := kt kk s3
  clear kk hz s5
  have hz := zz
  have s6 := s6x
  clear zz s6x A1_2
  refine vh_take 3 true (.pointer (some ⟨w.heap.size, 0, none⟩)) rfl (by kernel_rfl) (by kernel_rfl) (by kernel_rfl) (want_none rfl) (fun hc v hv => ex_fa rfl (ev s3 rfl) (by go_simp)) rfl hz (by decide) hS (fun A1_4 zz kk s7x => ?_)
  replace s0 := kt kk s0
  replace s3 := kt kk s3
  replace s6 := kt kk s6
  clear kk hz
  have hz := zz
  have s7 := s7x
  clear zz s7x A1_3
  refine vh_take 4 true (.int .i64 (k : Int)) rfl (by kernel_rfl) (by kernel_rfl) (by kernel_rfl) (want_none rfl) (fun hc v hv => ex_ld rfl (ev s7 rfl) (ldInt (HQ.out v hv 0 _ rfl))) rfl hz (by decide) hS (fun A1_5 zz kk s8x => ?_)
  replace s0 := kt kk s0
  replace s3 := kt kk s3
  replace s6 := kt kk s6
  clear kk hz s7
  have hz := zz
  have s8 := s8x
  clear zz s8x A1_4
  refine vh_call 5 rfl (by kernel_rfl) (want_none rfl) (ex_call rfl (by simp only [List.map_toArray, List.map_cons, List.map_nil, (ev s6 rfl), (ev s8 rfl), evc] <;> rfl) rfl) (Wi.int_tk B b (l) k W1.drew hB hP1 hk1 (by first | omega | (simp only [List.length_append]; omega))) rfl hz (by decide) ?_
  rintro e W2 ⟨rfl, hO2, hb, ht⟩
  refine ⟨_, rfl, (hS.trans ht), fun A1_6 zz kk s9x => ?_⟩
  have hB2 := hB1.trans ((Below.refl _ _).drew.trans hb)
  have hT2 := hT1.trans (((Wi.TKp.refl _).drewN 1).trans ht)
  clear hb ht hS
  replace s0 := kt kk s0
  replace s3 := kt kk s3
  clear kk hz s6 s8
  have hz := zz
  have s9 := s9x
  clear zz s9x A1_5
  refine vh_done (by kernel_rfl) ?_
  go_upto_region 2 with fail
  refine vh_start (fun v => Wi.TKp w1 v) (by kernel_rfl) ?_
  have hS : Wi.TKp w1 W2.drew := hT2.drewN 1
  have hP2 : Wi.WOkT W2.drew b (l ++ M.form k) := hO2.drew
  refine vh_take 0 true (.pointer (some ⟨b, 0, none⟩)) rfl (by kernel_rfl) (by kernel_rfl) (by kernel_rfl) (want_none rfl) (fun hc v hv => ex_move rfl (ev s0 rfl)) rfl hz (by decide) hS (fun A2_1 zz kk s10x => ?_)
  replace s0 := kt kk s0
  replace s3 := kt kk s3
  clear kk hz s9
  have hz := zz
  have s10 := s10x
  clear zz s10x
  refine vh_take 1 true (.pointer (some ⟨b, 0, none⟩)) rfl (by kernel_rfl) (by kernel_rfl) (by kernel_rfl) (want_none rfl) (fun hc v hv => ex_nil rfl (ev s10 rfl)) rfl hz (by decide) hS (fun A2_2 zz kk s11x => ?_)
  replace s0 := kt kk s0
  replace s3 := kt kk s3
  clear kk hz s10
  have hz := zz
  have s11 := s11x
  clear zz s11x A2_1
  refine vh_take 2 true (.pointer (some ⟨b, 0, none⟩)) rfl (by kernel_rfl) (by kernel_rfl) (by kernel_rfl) (want_none rfl) (fun hc v hv => ex_fa rfl (ev s11 rfl) (by go_simp)) rfl hz (by decide) hS (fun A2_3 zz kk s12x => ?_)
  replace s0 := kt kk s0
  replace s3 := kt kk s3
  clear kk hz s11
  have hz := zz
  have s12 := s12x
  clear zz s12x A2_2
  refine vh_take 3 true (.pointer (some ⟨w.heap.size, 1, none⟩)) rfl (by kernel_rfl) (by kernel_rfl) (by kernel_rfl) (want_none rfl) (fun hc v hv => ex_fa rfl (ev s3 rfl) (by go_simp)) rfl hz (by decide) hS (fun A2_4 zz kk s13x => ?_)
  replace s0 := kt kk s0
  replace s3 := kt kk s3
  replace s12 := kt kk s12
  clear kk hz
  have hz := zz
  have s13 := s13x
  clear zz s13x A2_3
  refine vh_take 4 true (.int .i64 (s : Int)) rfl (by kernel_rfl) (by kernel_rfl) (by kernel_rfl) (want_none rfl) (fun hc v hv => ex_ld rfl (ev s13 rfl) (ldInt (HQ.out v hv 1 _ rfl))) rfl hz (by decide) hS (fun A2_5 zz kk s14x => ?_)
  replace s0 := kt kk s0
  replace s3 := kt kk s3
  replace s12 := kt kk s12
  clear kk hz s13
  have hz := zz
  have s14 := s14x
  clear zz s14x A2_4
  refine vh_call 5 rfl (by kernel_rfl) (want_none rfl) (ex_call rfl (by simp only [List.map_toArray, List.map_cons, List.map_nil, (ev s12 rfl), (ev s14 rfl), evc] <;> rfl) rfl) (Wi.int_tk B b (l ++ M.form k) s W2.drew hB hP2 hs2 (by first | omega | (simp only [List.length_append]; omega))) rfl hz (by decide) ?_
  rintro e W3 ⟨rfl, hO3, hb, ht⟩
  refine ⟨_, rfl, (hS.trans ht), fun A2_6 zz kk s15x => ?_⟩
  have hB3 := hB2.trans ((Below.refl _ _).drew.trans hb)
  have hT3 := hT2.trans (((Wi.TKp.refl _).drewN 1).trans ht)
  clear hb ht hS
  replace s0 := kt kk s0
  replace s3 := kt kk s3
  clear kk hz s12 s14
  have hz := zz
  have s15 := s15x
  clear zz s15x A2_5
  refine vh_done (by kernel_rfl) ?_
  go_upto_region 3 with fail
  refine vh_start (fun v => Wi.TKp w1 v) (by kernel_rfl) ?_
  have hS : Wi.TKp w1 W3.drew := hT3.drewN 1
  have hP3 : Wi.WOkT W3.drew b (l ++ M.form k ++ M.form s) := hO3.drew
  refine vh_take 0 true (.pointer (some ⟨b, 0, none⟩)) rfl (by kernel_rfl) (by kernel_rfl) (by kernel_rfl) (want_none rfl) (fun hc v hv => ex_move rfl (ev s0 rfl)) rfl hz (by decide) hS (fun A3_1 zz kk s16x => ?_)
  replace s0 := kt kk s0
  replace s3 := kt kk s3
  clear kk hz s15
  have hz := zz
  have s16 := s16x
  clear zz s16x
  refine vh_take 1 true (.pointer (some ⟨b, 0, none⟩)) rfl (by kernel_rfl) (by kernel_rfl) (by kernel_rfl) (want_none rfl) (fun hc v hv => ex_nil rfl (ev s16 rfl)) rfl hz (by decide) hS (fun A3_2 zz kk s17x => ?_)
  replace s0 := kt kk s0
  replace s3 := kt kk s3
  clear kk hz s16
  have hz := zz
  have s17 := s17x
  clear zz s17x A3_1
  refine vh_take 2 true (.pointer (some ⟨b, 0, none⟩)) rfl (by kernel_rfl) (by kernel_rfl) (by kernel_rfl) (want_none rfl) (fun hc v hv => ex_fa rfl (ev s17 rfl) (by go_simp)) rfl hz (by decide) hS (fun A3_3 zz kk s18x => ?_)
  replace s0 := kt kk s0
  replace s3 := kt kk s3
  clear kk hz s17
  have hz := zz
  have s18 := s18x
  clear zz s18x A3_2
  refine vh_take 3 true (.pointer (some ⟨w.heap.size, 2, none⟩)) rfl (by kernel_rfl) (by kernel_rfl) (by kernel_rfl) (want_none rfl) (fun hc v hv => ex_fa rfl (ev s3 rfl) (by go_simp)) rfl hz (by decide) hS (fun A3_4 zz kk s19x => ?_)
  replace s0 := kt kk s0
  replace s3 := kt kk s3
  replace s18 := kt kk s18
  clear kk hz
  have hz := zz
  have s19 := s19x
  clear zz s19x A3_3
  refine vh_take 4 true (.string v) rfl (by kernel_rfl) (by kernel_rfl) (by kernel_rfl) (want_none rfl) (fun hc v hv => ex_ld rfl (ev s19 rfl) (ldStr (HQ.out v hv 2 _ rfl))) rfl hz (by decide) hS (fun A3_5 zz kk s20x => ?_)
  replace s0 := kt kk s0
  replace s3 := kt kk s3
  replace s18 := kt kk s18
  clear kk hz s19
  have hz := zz
  have s20 := s20x
  clear zz s20x A3_4
  refine vh_call 5 rfl (by kernel_rfl) (want_none rfl) (ex_call rfl (by simp only [List.map_toArray, List.map_cons, List.map_nil, (ev s18 rfl), (ev s20 rfl), evc] <;> rfl) rfl) (Wi.text_tk B b (l ++ M.form k ++ M.form s) v 64 W3.drew hB hP3 hv1 (by first | omega | (simp only [List.length_append]; omega))) rfl hz (by decide) ?_
  rintro e W4 ⟨rfl, hO4, hb, ht⟩
  refine ⟨_, rfl, (hS.trans ht), fun A3_6 zz kk s21x => ?_⟩
  have hB4 := hB3.trans ((Below.refl _ _).drew.trans hb)
  have hT4 := hT3.trans (((Wi.TKp.refl _).drewN 1).trans ht)
  clear hb ht hS
  replace s0 := kt kk s0
  replace s3 := kt kk s3
  clear kk hz s18 s20
  have hz := zz
  have s21 := s21x
  clear zz s21x A3_5
  refine vh_done (by kernel_rfl) ?_
  go_wp2
  go_end0
  exact ⟨rfl, by simpa only [opBy, List.append_assoc] using hO4, hB4, hTw.trans hT4⟩
theorem v_loop {c : Code} {Q : Exit → Act → World → Prop} {T0 : Array Value} {w0 : World} (x N : Nat) (I : Nat → Array Value → World → Prop) (hx : ∀ j T w, I j T w → T[x]? = some (gw true (.int .i64 (j : Int)))) (h0 : I 0 T0 w0)
    (round : ∀ j T w, j ≤ N → I j T w → c.wp Tryz.prog (Exit.then (fun a' w' => ∃ T', a' = ⟨T', []⟩ ∧ j + 1 ≤ N ∧ I (j + 1) T' w') Q) ⟨T, []⟩ w) : (Code.loop c).wp Tryz.prog Q ⟨T0, []⟩ w0 := by
  have sl : ∀ {j : Nat} {T : Array Value} {w : World}, I j T w → (intOf (T.getD x undef)).toNat = j := fun h => by
    rw [getD_of (hx _ _ _ h)]
    show (intOf (.int .i64 _)).toNat = _
    simp [intOf]
  refine wp_loop (fun a w => ∃ j T, a = ⟨T, []⟩ ∧ j ≤ N ∧ I j T w) (fun a w => N - (intOf (a.tmps.getD x undef)).toNat) ⟨0, T0, rfl, Nat.zero_le _, h0⟩ ?_
  rintro a w ⟨j, T, rfl, hj, hI⟩
  refine Code.wp_mono (fun e a' w' h => ?_) (round j T w hj hI)
  cases e with
  | normal =>
    obtain ⟨T', rfl, hj', hI'⟩ := h
    refine ⟨⟨j + 1, T', rfl, hj', hI'⟩, ?_⟩
    show N - (intOf (T'.getD x undef)).toNat < N - (intOf (T.getD x undef)).toNat
    rw [sl hI', sl hI]
    omega
  | _ => exact h
theorem vw {ops : Array Oper} {rest : List Oper} {o : Oper} {T : Array Value} {df : List Deferred} {w : World} {Q : Exit → Act → World → Prop} {d n : Nat} (V : Value) (w' : World) (hw : Region.wanted o (yielded ops T) = true) (he : (execOp (⟨T, df⟩ : Act).eval o).run Tryz.prog w = .ok (.value V) w') (hd : o.dst = some d) (hz : T.size = n) (hn : d < n)
    (hk : ∀ T' : Array Value, T'.size = n → (∀ i, i ≠ d → T'[i]? = T[i]?) → T'[d]? = some (gw true V) → wpList Tryz.prog ops Q rest ⟨T', df⟩ w') : wpList Tryz.prog ops Q (o :: rest) ⟨T, df⟩ w := by
  refine BigFrame.wpList_want hw (fun K hK => ?_)
  unfold Oper.wp
  rw [he, Oper.upon_value]
  refine hK _ _ ?_
  rw [hd]
  exact hk (T.setIfInBounds d V) (by simp [hz]) (fun i hi => at_set_ne _ hi) (at_set _ (by omega))
theorem vs {ops : Array Oper} {rest : List Oper} {o : Oper} {T : Array Value} {df : List Deferred} {w : World} {Q : Exit → Act → World → Prop} (w' : World) (hw : Region.wanted o (yielded ops T) = true) (he : (execOp (⟨T, df⟩ : Act).eval o).run Tryz.prog w = .ok .skip w') (hd : o.dst = none)
    (hk : wpList Tryz.prog ops Q rest ⟨T, df⟩ w') : wpList Tryz.prog ops Q (o :: rest) ⟨T, df⟩ w := by
  refine BigFrame.wpList_want hw (fun K hK => ?_)
  unfold Oper.wp
  rw [he, Oper.upon_skip]
  refine hK _ _ ?_
  rw [hd]
  exact hk
theorem ex_st {o : Oper} {ρ : Operand → Value} {s : TypeId} {x y : Operand} {X Y : Value} {w w' : World} (ho : o.op = .store s x y) (hx : ρ x = X) (hy : ρ y = Y) (hr : (Instr.storeAt s X Y).run Tryz.prog w = .ok () w') : (execOp ρ o).run Tryz.prog w = .ok .skip w' := by
  unfold execOp
  simp only [ho, hx, hy, Sem.run_bind, hr, Result.andThen_ok]
  rfl
theorem ex_al {o : Oper} {ρ : Operand → Value} {s : TypeId} {V : Value} {w w' : World} (ho : o.op = .alloc s) (hr : (Instr.alloc s true (.tuple #[])).run Tryz.prog w = .ok V w') : (execOp ρ o).run Tryz.prog w = .ok (.value V) w' := by
  unfold execOp
  simp only [ho, Sem.run_bind, hr, Result.andThen_ok]
  rfl
end Go.Proofs.YtjfbkeommlopmaaGreatDoor
namespace Go.Proofs.YtjfbkeommlopmaaGreatDoor
open Go.RowKit
open Classical
set_option linter.unusedVariables false
set_option linter.unusedSimpArgs false
def yB : Lay Bool := ⟨4, 90, 1, 1, fun x => [.bool x], false⟩
theorem kB : yB.Ok := ⟨by decide, fun x => rfl, fun x u h => by
    simp [yB] at h
    subst h; rfl, Tryz.underlying90, ⟨.bool false, by kernel_rfl, rfl⟩⟩
def btsU (s : ByteArray) : List Nat := s.data.toList.map UInt8.toNat
theorem btsU_len (s : ByteArray) : (btsU s).length = s.size := by unfold btsU; rw [List.length_map, Array.length_toList]; rfl
theorem idxU {s : ByteArray} {j c : Nat} (h : (btsU s)[j]? = some c) (w : World) : (Instr.index 9 (.string s) (.int .i64 (j : Int))).run Tryz.prog w = .ok (.int .u8 (c : Int)) w := by
  have hj : j < s.size := by rw [← btsU_len]; exact (List.getElem?_eq_some_iff.1 h).1
  rw [run_index_string w 9 s .i64 (j : Int) Tryz.underlying9, dif_pos ⟨by omega, by omega⟩]
  have e : ((s[((j : Int)).toNat]'(by omega)).toNat : Int) = (c : Int) := by
    have h2 : (btsU s)[j]? = some (s[j]'hj).toNat := by
      unfold btsU
      rw [List.getElem?_map, List.getElem?_eq_getElem (by simpa using hj)]
      rfl
    rw [h] at h2
    injection h2 with h2
    simp only [Int.toNat_natCast]
    omega
  rw [e]
def usT (l : List Nat) : List Bool := l.map fun c => !(c == 46)
theorem usT_next {l : List Nat} {i c : Nat} (h : l[i]? = some c) : usT (l.take i) ++ [!(c == 46)] = usT (l.take (i + 1)) := by
  unfold usT
  rw [List.take_add_one, h]; simp
set_option maxRecDepth 100000 in
set_option maxHeartbeats 1000000 in
theorem uses_1 (w : World) :
    Calls Tryz.prog 35 #[.int .i64 1] w fun e w' => ∃ v', e = .returned v' ∧ OwnY yB w.heap.size w' v' (usT [46, 46, 46, 46, 46, 46, 101, 46, 46, 46]) ∧ Below w.heap.size w w' := by
  have IX : Hid (∀ (j c : Nat), ([46, 46, 46, 46, 46, 46, 101, 46, 46, 46] : List Nat)[j]? = some c → ∀ W, (Instr.index 9 (.string ⟨#[46, 46, 46, 46, 46, 46, 101, 46, 46, 46]⟩) (.int .i64 (j : Int))).run Tryz.prog W = .ok (.int .u8 (c : Int)) W) := fun j c h W => idxU (s := ⟨#[46, 46, 46, 46, 46, 46, 101, 46, 46, 46]⟩) h W
  go_enter Tryz.func35, Tryz.ntmps35
  go_wp2
  go_loopw [4, 5] (fun vl vi wr => ∃ i : Nat, vi = .int .i64 (i : Int) ∧ i ≤ 10 ∧ Hid (OwnY yB w.heap.size wr vl (usT (([46, 46, 46, 46, 46, 46, 101, 46, 46, 46] : List Nat).take i)) ∧ Below w.heap.size w wr)) (fun _ vi _ => 10 - (intOf vi).toNat)
  case atStart => exact ⟨0, rfl, Nat.zero_le _, OwnY.nil _ _ _, Below.refl _ _⟩
  case round =>
    obtain ⟨i, rfl, hi, H⟩ := hrel
    by_cases hlt : i < 10
    · obtain ⟨c, hc⟩ : ∃ c, ([46, 46, 46, 46, 46, 46, 101, 46, 46, 46] : List Nat)[i]? = some c := ⟨_, List.getElem?_eq_getElem hlt⟩
      have ix := fun W => IX.out i c hc W
      have E := hide (usT_next hc)
      have hL : Hid ((usT (([46, 46, 46, 46, 46, 46, 101, 46, 46, 46] : List Nat).take i)).length = i) := by show _ = _; simp [usT]; omega
      clear hc
      have z1 := H.out.2.size
      have SB := hide (sl_box (Y := yB) wr (!(c == 46)) 4)
      have eB : ((c : Int) != 46) = !(c == 46) := by
        by_cases h : c = 46
        · subst h; rfl
        · rw [bne, beq_eq_false_iff_ne.2 h, beq_eq_false_iff_ne.2 (by omega)]
      go_wp2_with (at_builtin; go_must (refine appY kB _ rfl (.tmp 39) (.tmp 44) rfl w.heap.size _ _ rfl (some ⟨wr.heap.size, 0, none⟩) 1 1 rfl [!(c == 46)] SB.out (H.out.1.alloc _) (by simp; omega) (by rw [hL.out]; unfold maxLen; omega) (by show (_ + 1) * 1 ≤ _; rw [hL.out]; omega) ?_))
      intro v5 w2 o2 g2 _
      have b2 := hide ((H.out.1.alloc _).grown (H.out.2.alloc z1 _) g2 (by simp; omega))
      have O2 := hide o2
      clear o2 g2 SB H
      go_wp2
      go_roundw
      case rel => exact ⟨i + 1, by go_num, by omega, by rw [← E.out]; exact O2.out, b2.out⟩
      case measure => simp [intOf]; omega
    · obtain rfl : i = 10 := by omega
      go_wp2
      go_ret
      exact ⟨_, rfl, H.out.1, H.out.2⟩
set_option maxRecDepth 100000 in
set_option maxHeartbeats 1000000 in
theorem uses_2 (w : World) :
    Calls Tryz.prog 35 #[.int .i64 2] w fun e w' => ∃ v', e = .returned v' ∧ OwnY yB w.heap.size w' v' (usT [110, 118, 46, 112, 46, 46, 101, 114, 46, 46]) ∧ Below w.heap.size w w' := by
  have IX : Hid (∀ (j c : Nat), ([110, 118, 46, 112, 46, 46, 101, 114, 46, 46] : List Nat)[j]? = some c → ∀ W, (Instr.index 9 (.string ⟨#[110, 118, 46, 112, 46, 46, 101, 114, 46, 46]⟩) (.int .i64 (j : Int))).run Tryz.prog W = .ok (.int .u8 (c : Int)) W) := fun j c h W => idxU (s := ⟨#[110, 118, 46, 112, 46, 46, 101, 114, 46, 46]⟩) h W
  go_enter Tryz.func35, Tryz.ntmps35
  go_wp2
  go_loopw [4, 5] (fun vl vi wr => ∃ i : Nat, vi = .int .i64 (i : Int) ∧ i ≤ 10 ∧ Hid (OwnY yB w.heap.size wr vl (usT (([110, 118, 46, 112, 46, 46, 101, 114, 46, 46] : List Nat).take i)) ∧ Below w.heap.size w wr)) (fun _ vi _ => 10 - (intOf vi).toNat)
  case atStart => exact ⟨0, rfl, Nat.zero_le _, OwnY.nil _ _ _, Below.refl _ _⟩
  case round =>
    obtain ⟨i, rfl, hi, H⟩ := hrel
    by_cases hlt : i < 10
    · obtain ⟨c, hc⟩ : ∃ c, ([110, 118, 46, 112, 46, 46, 101, 114, 46, 46] : List Nat)[i]? = some c := ⟨_, List.getElem?_eq_getElem hlt⟩
      have ix := fun W => IX.out i c hc W
      have E := hide (usT_next hc)
      have hL : Hid ((usT (([110, 118, 46, 112, 46, 46, 101, 114, 46, 46] : List Nat).take i)).length = i) := by show _ = _; simp [usT]; omega
      clear hc
      have z1 := H.out.2.size
      have SB := hide (sl_box (Y := yB) wr (!(c == 46)) 4)
      have eB : ((c : Int) != 46) = !(c == 46) := by
        by_cases h : c = 46
        · subst h; rfl
        · rw [bne, beq_eq_false_iff_ne.2 h, beq_eq_false_iff_ne.2 (by omega)]
      go_wp2_with (at_builtin; go_must (refine appY kB _ rfl (.tmp 39) (.tmp 44) rfl w.heap.size _ _ rfl (some ⟨wr.heap.size, 0, none⟩) 1 1 rfl [!(c == 46)] SB.out (H.out.1.alloc _) (by simp; omega) (by rw [hL.out]; unfold maxLen; omega) (by show (_ + 1) * 1 ≤ _; rw [hL.out]; omega) ?_))
      intro v5 w2 o2 g2 _
      have b2 := hide ((H.out.1.alloc _).grown (H.out.2.alloc z1 _) g2 (by simp; omega))
      have O2 := hide o2
      clear o2 g2 SB H
      go_wp2
      go_roundw
      case rel => exact ⟨i + 1, by go_num, by omega, by rw [← E.out]; exact O2.out, b2.out⟩
      case measure => simp [intOf]; omega
    · obtain rfl : i = 10 := by omega
      go_wp2
      go_ret
      exact ⟨_, rfl, H.out.1, H.out.2⟩
set_option maxRecDepth 100000 in
set_option maxHeartbeats 1000000 in
theorem uses_3 (w : World) :
    Calls Tryz.prog 35 #[.int .i64 3] w fun e w' => ∃ v', e = .returned v' ∧ OwnY yB w.heap.size w' v' (usT [110, 118, 46, 112, 99, 46, 101, 46, 46, 120]) ∧ Below w.heap.size w w' := by
  have IX : Hid (∀ (j c : Nat), ([110, 118, 46, 112, 99, 46, 101, 46, 46, 120] : List Nat)[j]? = some c → ∀ W, (Instr.index 9 (.string ⟨#[110, 118, 46, 112, 99, 46, 101, 46, 46, 120]⟩) (.int .i64 (j : Int))).run Tryz.prog W = .ok (.int .u8 (c : Int)) W) := fun j c h W => idxU (s := ⟨#[110, 118, 46, 112, 99, 46, 101, 46, 46, 120]⟩) h W
  go_enter Tryz.func35, Tryz.ntmps35
  go_wp2
  go_loopw [4, 5] (fun vl vi wr => ∃ i : Nat, vi = .int .i64 (i : Int) ∧ i ≤ 10 ∧ Hid (OwnY yB w.heap.size wr vl (usT (([110, 118, 46, 112, 99, 46, 101, 46, 46, 120] : List Nat).take i)) ∧ Below w.heap.size w wr)) (fun _ vi _ => 10 - (intOf vi).toNat)
  case atStart => exact ⟨0, rfl, Nat.zero_le _, OwnY.nil _ _ _, Below.refl _ _⟩
  case round =>
    obtain ⟨i, rfl, hi, H⟩ := hrel
    by_cases hlt : i < 10
    · obtain ⟨c, hc⟩ : ∃ c, ([110, 118, 46, 112, 99, 46, 101, 46, 46, 120] : List Nat)[i]? = some c := ⟨_, List.getElem?_eq_getElem hlt⟩
      have ix := fun W => IX.out i c hc W
      have E := hide (usT_next hc)
      have hL : Hid ((usT (([110, 118, 46, 112, 99, 46, 101, 46, 46, 120] : List Nat).take i)).length = i) := by show _ = _; simp [usT]; omega
      clear hc
      have z1 := H.out.2.size
      have SB := hide (sl_box (Y := yB) wr (!(c == 46)) 4)
      have eB : ((c : Int) != 46) = !(c == 46) := by
        by_cases h : c = 46
        · subst h; rfl
        · rw [bne, beq_eq_false_iff_ne.2 h, beq_eq_false_iff_ne.2 (by omega)]
      go_wp2_with (at_builtin; go_must (refine appY kB _ rfl (.tmp 39) (.tmp 44) rfl w.heap.size _ _ rfl (some ⟨wr.heap.size, 0, none⟩) 1 1 rfl [!(c == 46)] SB.out (H.out.1.alloc _) (by simp; omega) (by rw [hL.out]; unfold maxLen; omega) (by show (_ + 1) * 1 ≤ _; rw [hL.out]; omega) ?_))
      intro v5 w2 o2 g2 _
      have b2 := hide ((H.out.1.alloc _).grown (H.out.2.alloc z1 _) g2 (by simp; omega))
      have O2 := hide o2
      clear o2 g2 SB H
      go_wp2
      go_roundw
      case rel => exact ⟨i + 1, by go_num, by omega, by rw [← E.out]; exact O2.out, b2.out⟩
      case measure => simp [intOf]; omega
    · obtain rfl : i = 10 := by omega
      go_wp2
      go_ret
      exact ⟨_, rfl, H.out.1, H.out.2⟩
set_option maxRecDepth 100000 in
set_option maxHeartbeats 1000000 in
theorem uses_4 (w : World) :
    Calls Tryz.prog 35 #[.int .i64 4] w fun e w' => ∃ v', e = .returned v' ∧ OwnY yB w.heap.size w' v' (usT [110, 118, 46, 112, 46, 46, 46, 46, 46, 120]) ∧ Below w.heap.size w w' := by
  have IX : Hid (∀ (j c : Nat), ([110, 118, 46, 112, 46, 46, 46, 46, 46, 120] : List Nat)[j]? = some c → ∀ W, (Instr.index 9 (.string ⟨#[110, 118, 46, 112, 46, 46, 46, 46, 46, 120]⟩) (.int .i64 (j : Int))).run Tryz.prog W = .ok (.int .u8 (c : Int)) W) := fun j c h W => idxU (s := ⟨#[110, 118, 46, 112, 46, 46, 46, 46, 46, 120]⟩) h W
  go_enter Tryz.func35, Tryz.ntmps35
  go_wp2
  go_loopw [4, 5] (fun vl vi wr => ∃ i : Nat, vi = .int .i64 (i : Int) ∧ i ≤ 10 ∧ Hid (OwnY yB w.heap.size wr vl (usT (([110, 118, 46, 112, 46, 46, 46, 46, 46, 120] : List Nat).take i)) ∧ Below w.heap.size w wr)) (fun _ vi _ => 10 - (intOf vi).toNat)
  case atStart => exact ⟨0, rfl, Nat.zero_le _, OwnY.nil _ _ _, Below.refl _ _⟩
  case round =>
    obtain ⟨i, rfl, hi, H⟩ := hrel
    by_cases hlt : i < 10
    · obtain ⟨c, hc⟩ : ∃ c, ([110, 118, 46, 112, 46, 46, 46, 46, 46, 120] : List Nat)[i]? = some c := ⟨_, List.getElem?_eq_getElem hlt⟩
      have ix := fun W => IX.out i c hc W
      have E := hide (usT_next hc)
      have hL : Hid ((usT (([110, 118, 46, 112, 46, 46, 46, 46, 46, 120] : List Nat).take i)).length = i) := by show _ = _; simp [usT]; omega
      clear hc
      have z1 := H.out.2.size
      have SB := hide (sl_box (Y := yB) wr (!(c == 46)) 4)
      have eB : ((c : Int) != 46) = !(c == 46) := by
        by_cases h : c = 46
        · subst h; rfl
        · rw [bne, beq_eq_false_iff_ne.2 h, beq_eq_false_iff_ne.2 (by omega)]
      go_wp2_with (at_builtin; go_must (refine appY kB _ rfl (.tmp 39) (.tmp 44) rfl w.heap.size _ _ rfl (some ⟨wr.heap.size, 0, none⟩) 1 1 rfl [!(c == 46)] SB.out (H.out.1.alloc _) (by simp; omega) (by rw [hL.out]; unfold maxLen; omega) (by show (_ + 1) * 1 ≤ _; rw [hL.out]; omega) ?_))
      intro v5 w2 o2 g2 _
      have b2 := hide ((H.out.1.alloc _).grown (H.out.2.alloc z1 _) g2 (by simp; omega))
      have O2 := hide o2
      clear o2 g2 SB H
      go_wp2
      go_roundw
      case rel => exact ⟨i + 1, by go_num, by omega, by rw [← E.out]; exact O2.out, b2.out⟩
      case measure => simp [intOf]; omega
    · obtain rfl : i = 10 := by omega
      go_wp2
      go_ret
      exact ⟨_, rfl, H.out.1, H.out.2⟩
set_option maxRecDepth 100000 in
set_option maxHeartbeats 1000000 in
theorem uses_5 (w : World) :
    Calls Tryz.prog 35 #[.int .i64 5] w fun e w' => ∃ v', e = .returned v' ∧ OwnY yB w.heap.size w' v' (usT [110, 118, 46, 46, 99, 46, 46, 46, 46, 120]) ∧ Below w.heap.size w w' := by
  have IX : Hid (∀ (j c : Nat), ([110, 118, 46, 46, 99, 46, 46, 46, 46, 120] : List Nat)[j]? = some c → ∀ W, (Instr.index 9 (.string ⟨#[110, 118, 46, 46, 99, 46, 46, 46, 46, 120]⟩) (.int .i64 (j : Int))).run Tryz.prog W = .ok (.int .u8 (c : Int)) W) := fun j c h W => idxU (s := ⟨#[110, 118, 46, 46, 99, 46, 46, 46, 46, 120]⟩) h W
  go_enter Tryz.func35, Tryz.ntmps35
  go_wp2
  go_loopw [4, 5] (fun vl vi wr => ∃ i : Nat, vi = .int .i64 (i : Int) ∧ i ≤ 10 ∧ Hid (OwnY yB w.heap.size wr vl (usT (([110, 118, 46, 46, 99, 46, 46, 46, 46, 120] : List Nat).take i)) ∧ Below w.heap.size w wr)) (fun _ vi _ => 10 - (intOf vi).toNat)
  case atStart => exact ⟨0, rfl, Nat.zero_le _, OwnY.nil _ _ _, Below.refl _ _⟩
  case round =>
    obtain ⟨i, rfl, hi, H⟩ := hrel
    by_cases hlt : i < 10
    · obtain ⟨c, hc⟩ : ∃ c, ([110, 118, 46, 46, 99, 46, 46, 46, 46, 120] : List Nat)[i]? = some c := ⟨_, List.getElem?_eq_getElem hlt⟩
      have ix := fun W => IX.out i c hc W
      have E := hide (usT_next hc)
      have hL : Hid ((usT (([110, 118, 46, 46, 99, 46, 46, 46, 46, 120] : List Nat).take i)).length = i) := by show _ = _; simp [usT]; omega
      clear hc
      have z1 := H.out.2.size
      have SB := hide (sl_box (Y := yB) wr (!(c == 46)) 4)
      have eB : ((c : Int) != 46) = !(c == 46) := by
        by_cases h : c = 46
        · subst h; rfl
        · rw [bne, beq_eq_false_iff_ne.2 h, beq_eq_false_iff_ne.2 (by omega)]
      go_wp2_with (at_builtin; go_must (refine appY kB _ rfl (.tmp 39) (.tmp 44) rfl w.heap.size _ _ rfl (some ⟨wr.heap.size, 0, none⟩) 1 1 rfl [!(c == 46)] SB.out (H.out.1.alloc _) (by simp; omega) (by rw [hL.out]; unfold maxLen; omega) (by show (_ + 1) * 1 ≤ _; rw [hL.out]; omega) ?_))
      intro v5 w2 o2 g2 _
      have b2 := hide ((H.out.1.alloc _).grown (H.out.2.alloc z1 _) g2 (by simp; omega))
      have O2 := hide o2
      clear o2 g2 SB H
      go_wp2
      go_roundw
      case rel => exact ⟨i + 1, by go_num, by omega, by rw [← E.out]; exact O2.out, b2.out⟩
      case measure => simp [intOf]; omega
    · obtain rfl : i = 10 := by omega
      go_wp2
      go_ret
      exact ⟨_, rfl, H.out.1, H.out.2⟩
set_option maxRecDepth 100000 in
set_option maxHeartbeats 1000000 in
theorem uses_6 (w : World) :
    Calls Tryz.prog 35 #[.int .i64 6] w fun e w' => ∃ v', e = .returned v' ∧ OwnY yB w.heap.size w' v' (usT [110, 118, 46, 46, 46, 46, 46, 46, 46, 120]) ∧ Below w.heap.size w w' := by
  have IX : Hid (∀ (j c : Nat), ([110, 118, 46, 46, 46, 46, 46, 46, 46, 120] : List Nat)[j]? = some c → ∀ W, (Instr.index 9 (.string ⟨#[110, 118, 46, 46, 46, 46, 46, 46, 46, 120]⟩) (.int .i64 (j : Int))).run Tryz.prog W = .ok (.int .u8 (c : Int)) W) := fun j c h W => idxU (s := ⟨#[110, 118, 46, 46, 46, 46, 46, 46, 46, 120]⟩) h W
  go_enter Tryz.func35, Tryz.ntmps35
  go_wp2
  go_loopw [4, 5] (fun vl vi wr => ∃ i : Nat, vi = .int .i64 (i : Int) ∧ i ≤ 10 ∧ Hid (OwnY yB w.heap.size wr vl (usT (([110, 118, 46, 46, 46, 46, 46, 46, 46, 120] : List Nat).take i)) ∧ Below w.heap.size w wr)) (fun _ vi _ => 10 - (intOf vi).toNat)
  case atStart => exact ⟨0, rfl, Nat.zero_le _, OwnY.nil _ _ _, Below.refl _ _⟩
  case round =>
    obtain ⟨i, rfl, hi, H⟩ := hrel
    by_cases hlt : i < 10
    · obtain ⟨c, hc⟩ : ∃ c, ([110, 118, 46, 46, 46, 46, 46, 46, 46, 120] : List Nat)[i]? = some c := ⟨_, List.getElem?_eq_getElem hlt⟩
      have ix := fun W => IX.out i c hc W
      have E := hide (usT_next hc)
      have hL : Hid ((usT (([110, 118, 46, 46, 46, 46, 46, 46, 46, 120] : List Nat).take i)).length = i) := by show _ = _; simp [usT]; omega
      clear hc
      have z1 := H.out.2.size
      have SB := hide (sl_box (Y := yB) wr (!(c == 46)) 4)
      have eB : ((c : Int) != 46) = !(c == 46) := by
        by_cases h : c = 46
        · subst h; rfl
        · rw [bne, beq_eq_false_iff_ne.2 h, beq_eq_false_iff_ne.2 (by omega)]
      go_wp2_with (at_builtin; go_must (refine appY kB _ rfl (.tmp 39) (.tmp 44) rfl w.heap.size _ _ rfl (some ⟨wr.heap.size, 0, none⟩) 1 1 rfl [!(c == 46)] SB.out (H.out.1.alloc _) (by simp; omega) (by rw [hL.out]; unfold maxLen; omega) (by show (_ + 1) * 1 ≤ _; rw [hL.out]; omega) ?_))
      intro v5 w2 o2 g2 _
      have b2 := hide ((H.out.1.alloc _).grown (H.out.2.alloc z1 _) g2 (by simp; omega))
      have O2 := hide o2
      clear o2 g2 SB H
      go_wp2
      go_roundw
      case rel => exact ⟨i + 1, by go_num, by omega, by rw [← E.out]; exact O2.out, b2.out⟩
      case measure => simp [intOf]; omega
    · obtain rfl : i = 10 := by omega
      go_wp2
      go_ret
      exact ⟨_, rfl, H.out.1, H.out.2⟩
set_option maxRecDepth 100000 in
set_option maxHeartbeats 1000000 in
theorem uses_7 (w : World) :
    Calls Tryz.prog 35 #[.int .i64 7] w fun e w' => ∃ v', e = .returned v' ∧ OwnY yB w.heap.size w' v' (usT [110, 118, 108, 46, 99, 46, 46, 46, 103, 120]) ∧ Below w.heap.size w w' := by
  have IX : Hid (∀ (j c : Nat), ([110, 118, 108, 46, 99, 46, 46, 46, 103, 120] : List Nat)[j]? = some c → ∀ W, (Instr.index 9 (.string ⟨#[110, 118, 108, 46, 99, 46, 46, 46, 103, 120]⟩) (.int .i64 (j : Int))).run Tryz.prog W = .ok (.int .u8 (c : Int)) W) := fun j c h W => idxU (s := ⟨#[110, 118, 108, 46, 99, 46, 46, 46, 103, 120]⟩) h W
  go_enter Tryz.func35, Tryz.ntmps35
  go_wp2
  go_loopw [4, 5] (fun vl vi wr => ∃ i : Nat, vi = .int .i64 (i : Int) ∧ i ≤ 10 ∧ Hid (OwnY yB w.heap.size wr vl (usT (([110, 118, 108, 46, 99, 46, 46, 46, 103, 120] : List Nat).take i)) ∧ Below w.heap.size w wr)) (fun _ vi _ => 10 - (intOf vi).toNat)
  case atStart => exact ⟨0, rfl, Nat.zero_le _, OwnY.nil _ _ _, Below.refl _ _⟩
  case round =>
    obtain ⟨i, rfl, hi, H⟩ := hrel
    by_cases hlt : i < 10
    · obtain ⟨c, hc⟩ : ∃ c, ([110, 118, 108, 46, 99, 46, 46, 46, 103, 120] : List Nat)[i]? = some c := ⟨_, List.getElem?_eq_getElem hlt⟩
      have ix := fun W => IX.out i c hc W
      have E := hide (usT_next hc)
      have hL : Hid ((usT (([110, 118, 108, 46, 99, 46, 46, 46, 103, 120] : List Nat).take i)).length = i) := by show _ = _; simp [usT]; omega
      clear hc
      have z1 := H.out.2.size
      have SB := hide (sl_box (Y := yB) wr (!(c == 46)) 4)
      have eB : ((c : Int) != 46) = !(c == 46) := by
        by_cases h : c = 46
        · subst h; rfl
        · rw [bne, beq_eq_false_iff_ne.2 h, beq_eq_false_iff_ne.2 (by omega)]
      go_wp2_with (at_builtin; go_must (refine appY kB _ rfl (.tmp 39) (.tmp 44) rfl w.heap.size _ _ rfl (some ⟨wr.heap.size, 0, none⟩) 1 1 rfl [!(c == 46)] SB.out (H.out.1.alloc _) (by simp; omega) (by rw [hL.out]; unfold maxLen; omega) (by show (_ + 1) * 1 ≤ _; rw [hL.out]; omega) ?_))
      intro v5 w2 o2 g2 _
      have b2 := hide ((H.out.1.alloc _).grown (H.out.2.alloc z1 _) g2 (by simp; omega))
      have O2 := hide o2
      clear o2 g2 SB H
      go_wp2
      go_roundw
      case rel => exact ⟨i + 1, by go_num, by omega, by rw [← E.out]; exact O2.out, b2.out⟩
      case measure => simp [intOf]; omega
    · obtain rfl : i = 10 := by omega
      go_wp2
      go_ret
      exact ⟨_, rfl, H.out.1, H.out.2⟩
set_option maxRecDepth 100000 in
set_option maxHeartbeats 1000000 in
theorem uses_8 (w : World) :
    Calls Tryz.prog 35 #[.int .i64 8] w fun e w' => ∃ v', e = .returned v' ∧ OwnY yB w.heap.size w' v' (usT [110, 118, 46, 46, 99, 46, 46, 46, 103, 120]) ∧ Below w.heap.size w w' := by
  have IX : Hid (∀ (j c : Nat), ([110, 118, 46, 46, 99, 46, 46, 46, 103, 120] : List Nat)[j]? = some c → ∀ W, (Instr.index 9 (.string ⟨#[110, 118, 46, 46, 99, 46, 46, 46, 103, 120]⟩) (.int .i64 (j : Int))).run Tryz.prog W = .ok (.int .u8 (c : Int)) W) := fun j c h W => idxU (s := ⟨#[110, 118, 46, 46, 99, 46, 46, 46, 103, 120]⟩) h W
  go_enter Tryz.func35, Tryz.ntmps35
  go_wp2
  go_loopw [4, 5] (fun vl vi wr => ∃ i : Nat, vi = .int .i64 (i : Int) ∧ i ≤ 10 ∧ Hid (OwnY yB w.heap.size wr vl (usT (([110, 118, 46, 46, 99, 46, 46, 46, 103, 120] : List Nat).take i)) ∧ Below w.heap.size w wr)) (fun _ vi _ => 10 - (intOf vi).toNat)
  case atStart => exact ⟨0, rfl, Nat.zero_le _, OwnY.nil _ _ _, Below.refl _ _⟩
  case round =>
    obtain ⟨i, rfl, hi, H⟩ := hrel
    by_cases hlt : i < 10
    · obtain ⟨c, hc⟩ : ∃ c, ([110, 118, 46, 46, 99, 46, 46, 46, 103, 120] : List Nat)[i]? = some c := ⟨_, List.getElem?_eq_getElem hlt⟩
      have ix := fun W => IX.out i c hc W
      have E := hide (usT_next hc)
      have hL : Hid ((usT (([110, 118, 46, 46, 99, 46, 46, 46, 103, 120] : List Nat).take i)).length = i) := by show _ = _; simp [usT]; omega
      clear hc
      have z1 := H.out.2.size
      have SB := hide (sl_box (Y := yB) wr (!(c == 46)) 4)
      have eB : ((c : Int) != 46) = !(c == 46) := by
        by_cases h : c = 46
        · subst h; rfl
        · rw [bne, beq_eq_false_iff_ne.2 h, beq_eq_false_iff_ne.2 (by omega)]
      go_wp2_with (at_builtin; go_must (refine appY kB _ rfl (.tmp 39) (.tmp 44) rfl w.heap.size _ _ rfl (some ⟨wr.heap.size, 0, none⟩) 1 1 rfl [!(c == 46)] SB.out (H.out.1.alloc _) (by simp; omega) (by rw [hL.out]; unfold maxLen; omega) (by show (_ + 1) * 1 ≤ _; rw [hL.out]; omega) ?_))
      intro v5 w2 o2 g2 _
      have b2 := hide ((H.out.1.alloc _).grown (H.out.2.alloc z1 _) g2 (by simp; omega))
      have O2 := hide o2
      clear o2 g2 SB H
      go_wp2
      go_roundw
      case rel => exact ⟨i + 1, by go_num, by omega, by rw [← E.out]; exact O2.out, b2.out⟩
      case measure => simp [intOf]; omega
    · obtain rfl : i = 10 := by omega
      go_wp2
      go_ret
      exact ⟨_, rfl, H.out.1, H.out.2⟩
set_option maxRecDepth 100000 in
set_option maxHeartbeats 1000000 in
theorem uses_9 (w : World) :
    Calls Tryz.prog 35 #[.int .i64 9] w fun e w' => ∃ v', e = .returned v' ∧ OwnY yB w.heap.size w' v' (usT [110, 46, 46, 46, 46, 100, 46, 46, 46, 120]) ∧ Below w.heap.size w w' := by
  have IX : Hid (∀ (j c : Nat), ([110, 46, 46, 46, 46, 100, 46, 46, 46, 120] : List Nat)[j]? = some c → ∀ W, (Instr.index 9 (.string ⟨#[110, 46, 46, 46, 46, 100, 46, 46, 46, 120]⟩) (.int .i64 (j : Int))).run Tryz.prog W = .ok (.int .u8 (c : Int)) W) := fun j c h W => idxU (s := ⟨#[110, 46, 46, 46, 46, 100, 46, 46, 46, 120]⟩) h W
  go_enter Tryz.func35, Tryz.ntmps35
  go_wp2
  go_loopw [4, 5] (fun vl vi wr => ∃ i : Nat, vi = .int .i64 (i : Int) ∧ i ≤ 10 ∧ Hid (OwnY yB w.heap.size wr vl (usT (([110, 46, 46, 46, 46, 100, 46, 46, 46, 120] : List Nat).take i)) ∧ Below w.heap.size w wr)) (fun _ vi _ => 10 - (intOf vi).toNat)
  case atStart => exact ⟨0, rfl, Nat.zero_le _, OwnY.nil _ _ _, Below.refl _ _⟩
  case round =>
    obtain ⟨i, rfl, hi, H⟩ := hrel
    by_cases hlt : i < 10
    · obtain ⟨c, hc⟩ : ∃ c, ([110, 46, 46, 46, 46, 100, 46, 46, 46, 120] : List Nat)[i]? = some c := ⟨_, List.getElem?_eq_getElem hlt⟩
      have ix := fun W => IX.out i c hc W
      have E := hide (usT_next hc)
      have hL : Hid ((usT (([110, 46, 46, 46, 46, 100, 46, 46, 46, 120] : List Nat).take i)).length = i) := by show _ = _; simp [usT]; omega
      clear hc
      have z1 := H.out.2.size
      have SB := hide (sl_box (Y := yB) wr (!(c == 46)) 4)
      have eB : ((c : Int) != 46) = !(c == 46) := by
        by_cases h : c = 46
        · subst h; rfl
        · rw [bne, beq_eq_false_iff_ne.2 h, beq_eq_false_iff_ne.2 (by omega)]
      go_wp2_with (at_builtin; go_must (refine appY kB _ rfl (.tmp 39) (.tmp 44) rfl w.heap.size _ _ rfl (some ⟨wr.heap.size, 0, none⟩) 1 1 rfl [!(c == 46)] SB.out (H.out.1.alloc _) (by simp; omega) (by rw [hL.out]; unfold maxLen; omega) (by show (_ + 1) * 1 ≤ _; rw [hL.out]; omega) ?_))
      intro v5 w2 o2 g2 _
      have b2 := hide ((H.out.1.alloc _).grown (H.out.2.alloc z1 _) g2 (by simp; omega))
      have O2 := hide o2
      clear o2 g2 SB H
      go_wp2
      go_roundw
      case rel => exact ⟨i + 1, by go_num, by omega, by rw [← E.out]; exact O2.out, b2.out⟩
      case measure => simp [intOf]; omega
    · obtain rfl : i = 10 := by omega
      go_wp2
      go_ret
      exact ⟨_, rfl, H.out.1, H.out.2⟩
set_option maxRecDepth 100000 in
set_option maxHeartbeats 1000000 in
theorem uses_10 (w : World) :
    Calls Tryz.prog 35 #[.int .i64 10] w fun e w' => ∃ v', e = .returned v' ∧ OwnY yB w.heap.size w' v' (usT [110, 118, 46, 46, 99, 100, 46, 46, 103, 120]) ∧ Below w.heap.size w w' := by
  have IX : Hid (∀ (j c : Nat), ([110, 118, 46, 46, 99, 100, 46, 46, 103, 120] : List Nat)[j]? = some c → ∀ W, (Instr.index 9 (.string ⟨#[110, 118, 46, 46, 99, 100, 46, 46, 103, 120]⟩) (.int .i64 (j : Int))).run Tryz.prog W = .ok (.int .u8 (c : Int)) W) := fun j c h W => idxU (s := ⟨#[110, 118, 46, 46, 99, 100, 46, 46, 103, 120]⟩) h W
  go_enter Tryz.func35, Tryz.ntmps35
  go_wp2
  go_loopw [4, 5] (fun vl vi wr => ∃ i : Nat, vi = .int .i64 (i : Int) ∧ i ≤ 10 ∧ Hid (OwnY yB w.heap.size wr vl (usT (([110, 118, 46, 46, 99, 100, 46, 46, 103, 120] : List Nat).take i)) ∧ Below w.heap.size w wr)) (fun _ vi _ => 10 - (intOf vi).toNat)
  case atStart => exact ⟨0, rfl, Nat.zero_le _, OwnY.nil _ _ _, Below.refl _ _⟩
  case round =>
    obtain ⟨i, rfl, hi, H⟩ := hrel
    by_cases hlt : i < 10
    · obtain ⟨c, hc⟩ : ∃ c, ([110, 118, 46, 46, 99, 100, 46, 46, 103, 120] : List Nat)[i]? = some c := ⟨_, List.getElem?_eq_getElem hlt⟩
      have ix := fun W => IX.out i c hc W
      have E := hide (usT_next hc)
      have hL : Hid ((usT (([110, 118, 46, 46, 99, 100, 46, 46, 103, 120] : List Nat).take i)).length = i) := by show _ = _; simp [usT]; omega
      clear hc
      have z1 := H.out.2.size
      have SB := hide (sl_box (Y := yB) wr (!(c == 46)) 4)
      have eB : ((c : Int) != 46) = !(c == 46) := by
        by_cases h : c = 46
        · subst h; rfl
        · rw [bne, beq_eq_false_iff_ne.2 h, beq_eq_false_iff_ne.2 (by omega)]
      go_wp2_with (at_builtin; go_must (refine appY kB _ rfl (.tmp 39) (.tmp 44) rfl w.heap.size _ _ rfl (some ⟨wr.heap.size, 0, none⟩) 1 1 rfl [!(c == 46)] SB.out (H.out.1.alloc _) (by simp; omega) (by rw [hL.out]; unfold maxLen; omega) (by show (_ + 1) * 1 ≤ _; rw [hL.out]; omega) ?_))
      intro v5 w2 o2 g2 _
      have b2 := hide ((H.out.1.alloc _).grown (H.out.2.alloc z1 _) g2 (by simp; omega))
      have O2 := hide o2
      clear o2 g2 SB H
      go_wp2
      go_roundw
      case rel => exact ⟨i + 1, by go_num, by omega, by rw [← E.out]; exact O2.out, b2.out⟩
      case measure => simp [intOf]; omega
    · obtain rfl : i = 10 := by omega
      go_wp2
      go_ret
      exact ⟨_, rfl, H.out.1, H.out.2⟩
set_option maxRecDepth 100000 in
set_option maxHeartbeats 1000000 in
theorem uses_11 (w : World) :
    Calls Tryz.prog 35 #[.int .i64 11] w fun e w' => ∃ v', e = .returned v' ∧ OwnY yB w.heap.size w' v' (usT [110, 118, 46, 46, 46, 46, 46, 46, 46, 120]) ∧ Below w.heap.size w w' := by
  have IX : Hid (∀ (j c : Nat), ([110, 118, 46, 46, 46, 46, 46, 46, 46, 120] : List Nat)[j]? = some c → ∀ W, (Instr.index 9 (.string ⟨#[110, 118, 46, 46, 46, 46, 46, 46, 46, 120]⟩) (.int .i64 (j : Int))).run Tryz.prog W = .ok (.int .u8 (c : Int)) W) := fun j c h W => idxU (s := ⟨#[110, 118, 46, 46, 46, 46, 46, 46, 46, 120]⟩) h W
  go_enter Tryz.func35, Tryz.ntmps35
  go_wp2
  go_loopw [4, 5] (fun vl vi wr => ∃ i : Nat, vi = .int .i64 (i : Int) ∧ i ≤ 10 ∧ Hid (OwnY yB w.heap.size wr vl (usT (([110, 118, 46, 46, 46, 46, 46, 46, 46, 120] : List Nat).take i)) ∧ Below w.heap.size w wr)) (fun _ vi _ => 10 - (intOf vi).toNat)
  case atStart => exact ⟨0, rfl, Nat.zero_le _, OwnY.nil _ _ _, Below.refl _ _⟩
  case round =>
    obtain ⟨i, rfl, hi, H⟩ := hrel
    by_cases hlt : i < 10
    · obtain ⟨c, hc⟩ : ∃ c, ([110, 118, 46, 46, 46, 46, 46, 46, 46, 120] : List Nat)[i]? = some c := ⟨_, List.getElem?_eq_getElem hlt⟩
      have ix := fun W => IX.out i c hc W
      have E := hide (usT_next hc)
      have hL : Hid ((usT (([110, 118, 46, 46, 46, 46, 46, 46, 46, 120] : List Nat).take i)).length = i) := by show _ = _; simp [usT]; omega
      clear hc
      have z1 := H.out.2.size
      have SB := hide (sl_box (Y := yB) wr (!(c == 46)) 4)
      have eB : ((c : Int) != 46) = !(c == 46) := by
        by_cases h : c = 46
        · subst h; rfl
        · rw [bne, beq_eq_false_iff_ne.2 h, beq_eq_false_iff_ne.2 (by omega)]
      go_wp2_with (at_builtin; go_must (refine appY kB _ rfl (.tmp 39) (.tmp 44) rfl w.heap.size _ _ rfl (some ⟨wr.heap.size, 0, none⟩) 1 1 rfl [!(c == 46)] SB.out (H.out.1.alloc _) (by simp; omega) (by rw [hL.out]; unfold maxLen; omega) (by show (_ + 1) * 1 ≤ _; rw [hL.out]; omega) ?_))
      intro v5 w2 o2 g2 _
      have b2 := hide ((H.out.1.alloc _).grown (H.out.2.alloc z1 _) g2 (by simp; omega))
      have O2 := hide o2
      clear o2 g2 SB H
      go_wp2
      go_roundw
      case rel => exact ⟨i + 1, by go_num, by omega, by rw [← E.out]; exact O2.out, b2.out⟩
      case measure => simp [intOf]; omega
    · obtain rfl : i = 10 := by omega
      go_wp2
      go_ret
      exact ⟨_, rfl, H.out.1, H.out.2⟩
set_option maxRecDepth 100000 in
set_option maxHeartbeats 1000000 in
theorem uses_12 (w : World) :
    Calls Tryz.prog 35 #[.int .i64 12] w fun e w' => ∃ v', e = .returned v' ∧ OwnY yB w.heap.size w' v' (usT [110, 118, 46, 46, 99, 46, 46, 46, 103, 120]) ∧ Below w.heap.size w w' := by
  have IX : Hid (∀ (j c : Nat), ([110, 118, 46, 46, 99, 46, 46, 46, 103, 120] : List Nat)[j]? = some c → ∀ W, (Instr.index 9 (.string ⟨#[110, 118, 46, 46, 99, 46, 46, 46, 103, 120]⟩) (.int .i64 (j : Int))).run Tryz.prog W = .ok (.int .u8 (c : Int)) W) := fun j c h W => idxU (s := ⟨#[110, 118, 46, 46, 99, 46, 46, 46, 103, 120]⟩) h W
  go_enter Tryz.func35, Tryz.ntmps35
  go_wp2
  go_loopw [4, 5] (fun vl vi wr => ∃ i : Nat, vi = .int .i64 (i : Int) ∧ i ≤ 10 ∧ Hid (OwnY yB w.heap.size wr vl (usT (([110, 118, 46, 46, 99, 46, 46, 46, 103, 120] : List Nat).take i)) ∧ Below w.heap.size w wr)) (fun _ vi _ => 10 - (intOf vi).toNat)
  case atStart => exact ⟨0, rfl, Nat.zero_le _, OwnY.nil _ _ _, Below.refl _ _⟩
  case round =>
    obtain ⟨i, rfl, hi, H⟩ := hrel
    by_cases hlt : i < 10
    · obtain ⟨c, hc⟩ : ∃ c, ([110, 118, 46, 46, 99, 46, 46, 46, 103, 120] : List Nat)[i]? = some c := ⟨_, List.getElem?_eq_getElem hlt⟩
      have ix := fun W => IX.out i c hc W
      have E := hide (usT_next hc)
      have hL : Hid ((usT (([110, 118, 46, 46, 99, 46, 46, 46, 103, 120] : List Nat).take i)).length = i) := by show _ = _; simp [usT]; omega
      clear hc
      have z1 := H.out.2.size
      have SB := hide (sl_box (Y := yB) wr (!(c == 46)) 4)
      have eB : ((c : Int) != 46) = !(c == 46) := by
        by_cases h : c = 46
        · subst h; rfl
        · rw [bne, beq_eq_false_iff_ne.2 h, beq_eq_false_iff_ne.2 (by omega)]
      go_wp2_with (at_builtin; go_must (refine appY kB _ rfl (.tmp 39) (.tmp 44) rfl w.heap.size _ _ rfl (some ⟨wr.heap.size, 0, none⟩) 1 1 rfl [!(c == 46)] SB.out (H.out.1.alloc _) (by simp; omega) (by rw [hL.out]; unfold maxLen; omega) (by show (_ + 1) * 1 ≤ _; rw [hL.out]; omega) ?_))
      intro v5 w2 o2 g2 _
      have b2 := hide ((H.out.1.alloc _).grown (H.out.2.alloc z1 _) g2 (by simp; omega))
      have O2 := hide o2
      clear o2 g2 SB H
      go_wp2
      go_roundw
      case rel => exact ⟨i + 1, by go_num, by omega, by rw [← E.out]; exact O2.out, b2.out⟩
      case measure => simp [intOf]; omega
    · obtain rfl : i = 10 := by omega
      go_wp2
      go_ret
      exact ⟨_, rfl, H.out.1, H.out.2⟩
set_option maxRecDepth 100000 in
set_option maxHeartbeats 1000000 in
theorem uses_13 (w : World) :
    Calls Tryz.prog 35 #[.int .i64 13] w fun e w' => ∃ v', e = .returned v' ∧ OwnY yB w.heap.size w' v' (usT [46, 46, 46, 112, 46, 46, 101, 46, 46, 46]) ∧ Below w.heap.size w w' := by
  have IX : Hid (∀ (j c : Nat), ([46, 46, 46, 112, 46, 46, 101, 46, 46, 46] : List Nat)[j]? = some c → ∀ W, (Instr.index 9 (.string ⟨#[46, 46, 46, 112, 46, 46, 101, 46, 46, 46]⟩) (.int .i64 (j : Int))).run Tryz.prog W = .ok (.int .u8 (c : Int)) W) := fun j c h W => idxU (s := ⟨#[46, 46, 46, 112, 46, 46, 101, 46, 46, 46]⟩) h W
  go_enter Tryz.func35, Tryz.ntmps35
  go_wp2
  go_loopw [4, 5] (fun vl vi wr => ∃ i : Nat, vi = .int .i64 (i : Int) ∧ i ≤ 10 ∧ Hid (OwnY yB w.heap.size wr vl (usT (([46, 46, 46, 112, 46, 46, 101, 46, 46, 46] : List Nat).take i)) ∧ Below w.heap.size w wr)) (fun _ vi _ => 10 - (intOf vi).toNat)
  case atStart => exact ⟨0, rfl, Nat.zero_le _, OwnY.nil _ _ _, Below.refl _ _⟩
  case round =>
    obtain ⟨i, rfl, hi, H⟩ := hrel
    by_cases hlt : i < 10
    · obtain ⟨c, hc⟩ : ∃ c, ([46, 46, 46, 112, 46, 46, 101, 46, 46, 46] : List Nat)[i]? = some c := ⟨_, List.getElem?_eq_getElem hlt⟩
      have ix := fun W => IX.out i c hc W
      have E := hide (usT_next hc)
      have hL : Hid ((usT (([46, 46, 46, 112, 46, 46, 101, 46, 46, 46] : List Nat).take i)).length = i) := by show _ = _; simp [usT]; omega
      clear hc
      have z1 := H.out.2.size
      have SB := hide (sl_box (Y := yB) wr (!(c == 46)) 4)
      have eB : ((c : Int) != 46) = !(c == 46) := by
        by_cases h : c = 46
        · subst h; rfl
        · rw [bne, beq_eq_false_iff_ne.2 h, beq_eq_false_iff_ne.2 (by omega)]
      go_wp2_with (at_builtin; go_must (refine appY kB _ rfl (.tmp 39) (.tmp 44) rfl w.heap.size _ _ rfl (some ⟨wr.heap.size, 0, none⟩) 1 1 rfl [!(c == 46)] SB.out (H.out.1.alloc _) (by simp; omega) (by rw [hL.out]; unfold maxLen; omega) (by show (_ + 1) * 1 ≤ _; rw [hL.out]; omega) ?_))
      intro v5 w2 o2 g2 _
      have b2 := hide ((H.out.1.alloc _).grown (H.out.2.alloc z1 _) g2 (by simp; omega))
      have O2 := hide o2
      clear o2 g2 SB H
      go_wp2
      go_roundw
      case rel => exact ⟨i + 1, by go_num, by omega, by rw [← E.out]; exact O2.out, b2.out⟩
      case measure => simp [intOf]; omega
    · obtain rfl : i = 10 := by omega
      go_wp2
      go_ret
      exact ⟨_, rfl, H.out.1, H.out.2⟩
set_option maxRecDepth 100000 in
set_option maxHeartbeats 1000000 in
theorem uses_14 (w : World) :
    Calls Tryz.prog 35 #[.int .i64 14] w fun e w' => ∃ v', e = .returned v' ∧ OwnY yB w.heap.size w' v' (usT [110, 118, 46, 46, 99, 46, 101, 114, 46, 46]) ∧ Below w.heap.size w w' := by
  have IX : Hid (∀ (j c : Nat), ([110, 118, 46, 46, 99, 46, 101, 114, 46, 46] : List Nat)[j]? = some c → ∀ W, (Instr.index 9 (.string ⟨#[110, 118, 46, 46, 99, 46, 101, 114, 46, 46]⟩) (.int .i64 (j : Int))).run Tryz.prog W = .ok (.int .u8 (c : Int)) W) := fun j c h W => idxU (s := ⟨#[110, 118, 46, 46, 99, 46, 101, 114, 46, 46]⟩) h W
  go_enter Tryz.func35, Tryz.ntmps35
  go_wp2
  go_loopw [4, 5] (fun vl vi wr => ∃ i : Nat, vi = .int .i64 (i : Int) ∧ i ≤ 10 ∧ Hid (OwnY yB w.heap.size wr vl (usT (([110, 118, 46, 46, 99, 46, 101, 114, 46, 46] : List Nat).take i)) ∧ Below w.heap.size w wr)) (fun _ vi _ => 10 - (intOf vi).toNat)
  case atStart => exact ⟨0, rfl, Nat.zero_le _, OwnY.nil _ _ _, Below.refl _ _⟩
  case round =>
    obtain ⟨i, rfl, hi, H⟩ := hrel
    by_cases hlt : i < 10
    · obtain ⟨c, hc⟩ : ∃ c, ([110, 118, 46, 46, 99, 46, 101, 114, 46, 46] : List Nat)[i]? = some c := ⟨_, List.getElem?_eq_getElem hlt⟩
      have ix := fun W => IX.out i c hc W
      have E := hide (usT_next hc)
      have hL : Hid ((usT (([110, 118, 46, 46, 99, 46, 101, 114, 46, 46] : List Nat).take i)).length = i) := by show _ = _; simp [usT]; omega
      clear hc
      have z1 := H.out.2.size
      have SB := hide (sl_box (Y := yB) wr (!(c == 46)) 4)
      have eB : ((c : Int) != 46) = !(c == 46) := by
        by_cases h : c = 46
        · subst h; rfl
        · rw [bne, beq_eq_false_iff_ne.2 h, beq_eq_false_iff_ne.2 (by omega)]
      go_wp2_with (at_builtin; go_must (refine appY kB _ rfl (.tmp 39) (.tmp 44) rfl w.heap.size _ _ rfl (some ⟨wr.heap.size, 0, none⟩) 1 1 rfl [!(c == 46)] SB.out (H.out.1.alloc _) (by simp; omega) (by rw [hL.out]; unfold maxLen; omega) (by show (_ + 1) * 1 ≤ _; rw [hL.out]; omega) ?_))
      intro v5 w2 o2 g2 _
      have b2 := hide ((H.out.1.alloc _).grown (H.out.2.alloc z1 _) g2 (by simp; omega))
      have O2 := hide o2
      clear o2 g2 SB H
      go_wp2
      go_roundw
      case rel => exact ⟨i + 1, by go_num, by omega, by rw [← E.out]; exact O2.out, b2.out⟩
      case measure => simp [intOf]; omega
    · obtain rfl : i = 10 := by omega
      go_wp2
      go_ret
      exact ⟨_, rfl, H.out.1, H.out.2⟩
def usN (k : Int) : List Nat :=
  if k = 1 then [46, 46, 46, 46, 46, 46, 101, 46, 46, 46] else
  if k = 2 then [110, 118, 46, 112, 46, 46, 101, 114, 46, 46] else
  if k = 3 then [110, 118, 46, 112, 99, 46, 101, 46, 46, 120] else
  if k = 4 then [110, 118, 46, 112, 46, 46, 46, 46, 46, 120] else
  if k = 5 then [110, 118, 46, 46, 99, 46, 46, 46, 46, 120] else
  if k = 6 then [110, 118, 46, 46, 46, 46, 46, 46, 46, 120] else
  if k = 7 then [110, 118, 108, 46, 99, 46, 46, 46, 103, 120] else
  if k = 8 then [110, 118, 46, 46, 99, 46, 46, 46, 103, 120] else
  if k = 9 then [110, 46, 46, 46, 46, 100, 46, 46, 46, 120] else
  if k = 10 then [110, 118, 46, 46, 99, 100, 46, 46, 103, 120] else
  if k = 11 then [110, 118, 46, 46, 46, 46, 46, 46, 46, 120] else
  if k = 12 then [110, 118, 46, 46, 99, 46, 46, 46, 103, 120] else
  if k = 13 then [46, 46, 46, 112, 46, 46, 101, 46, 46, 46] else
  if k = 14 then [110, 118, 46, 46, 99, 46, 101, 114, 46, 46] else
  []
def usL (k : Int) : List Bool := usT (usN k)
set_option maxRecDepth 100000 in
set_option maxHeartbeats 1000000 in
theorem uses_none (k : Int) (hk : k < 1 ∨ 14 < k) (w : World) :
    Calls Tryz.prog 35 #[.int .i64 k] w fun e w' => e = .returned (.slice none 0 0) ∧ w' = w := by
  have e1 : (k == 1) = false := by simp; omega
  have e2 : (k == 2) = false := by simp; omega
  have e3 : (k == 3) = false := by simp; omega
  have e4 : (k == 4) = false := by simp; omega
  have e5 : (k == 5) = false := by simp; omega
  have e6 : (k == 6) = false := by simp; omega
  have e7 : (k == 7) = false := by simp; omega
  have e8 : (k == 8) = false := by simp; omega
  have e9 : (k == 9) = false := by simp; omega
  have e10 : (k == 10) = false := by simp; omega
  have e11 : (k == 11) = false := by simp; omega
  have e12 : (k == 12) = false := by simp; omega
  have e13 : (k == 13) = false := by simp; omega
  have e14 : (k == 14) = false := by simp; omega
  clear hk
  go_enter Tryz.func35, Tryz.ntmps35
  go_wp2
  go_loopw [4, 5] (fun vl vi wr => vl = .slice none 0 0 ∧ vi = .int .i64 0 ∧ wr = w) (fun _ _ _ => 0)
  case atStart => exact ⟨rfl, rfl, rfl⟩
  case round =>
    obtain ⟨rfl, rfl, rfl⟩ := hrel
    go_wp2
    go_ret
    exact ⟨rfl, rfl⟩
theorem uses_all (k : Int) (w : World) :
    Calls Tryz.prog 35 #[.int .i64 k] w fun e w' => ∃ v', e = .returned v' ∧ OwnY yB w.heap.size w' v' (usL k) ∧ Below w.heap.size w w' := by
  by_cases h1 : k = 1
  · subst h1; exact uses_1 w
  by_cases h2 : k = 2
  · subst h2; exact uses_2 w
  by_cases h3 : k = 3
  · subst h3; exact uses_3 w
  by_cases h4 : k = 4
  · subst h4; exact uses_4 w
  by_cases h5 : k = 5
  · subst h5; exact uses_5 w
  by_cases h6 : k = 6
  · subst h6; exact uses_6 w
  by_cases h7 : k = 7
  · subst h7; exact uses_7 w
  by_cases h8 : k = 8
  · subst h8; exact uses_8 w
  by_cases h9 : k = 9
  · subst h9; exact uses_9 w
  by_cases h10 : k = 10
  · subst h10; exact uses_10 w
  by_cases h11 : k = 11
  · subst h11; exact uses_11 w
  by_cases h12 : k = 12
  · subst h12; exact uses_12 w
  by_cases h13 : k = 13
  · subst h13; exact uses_13 w
  by_cases h14 : k = 14
  · subst h14; exact uses_14 w
  have hk : k < 1 ∨ 14 < k := by omega
  refine (uses_none k hk w).mono ?_
  rintro e w' ⟨rfl, rfl⟩
  refine ⟨_, rfl, ?_, Below.refl _ _⟩
  have e : usL k = [] := by
    unfold usL usN
    rw [if_neg h1, if_neg h2, if_neg h3, if_neg h4, if_neg h5, if_neg h6, if_neg h7, if_neg h8, if_neg h9, if_neg h10, if_neg h11, if_neg h12, if_neg h13, if_neg h14]
    rfl
  rw [e]
  exact OwnY.nil _ _ _
end Go.Proofs.YtjfbkeommlopmaaGreatDoor
namespace Go.Proofs.YtjfbkeommlopmaaGreatDoor
open Go.RowKit Go.Maps
set_option linter.unusedVariables false
set_option linter.unusedSimpArgs false
variable {α : Type} {Y : Lay α}
def put (M : List α) (i : Nat) (D : List α) : List α := M.take i ++ D ++ M.drop (i + D.length)
theorem put_length {M D : List α} {i : Nat} (h : i + D.length ≤ M.length) : (put M i D).length = M.length := by
  simp only [put, List.length_append, List.length_take, List.length_drop]; omega
theorem fl_put (K : Y.Ok) {M D : List α} {i : Nat} (h : i + D.length ≤ M.length) : fl Y (put M i D) = (fl Y M).take (i * Y.k) ++ fl Y D ++ (fl Y M).drop (i * Y.k + (fl Y D).length) := by
  have hM : M = M.take i ++ M.drop i := (List.take_append_drop i M).symm
  have hA : (fl Y (M.take i)).length = i * Y.k := by rw [fl_length K, List.length_take, Nat.min_eq_left (by omega)]
  have e1 : (fl Y M).take (i * Y.k) = fl Y (M.take i) := by
    conv => lhs; rw [hM, fl_append]
    rw [List.take_append_of_le_length (by omega), List.take_of_length_le (by omega)]
  have hM2 : M = M.take (i + D.length) ++ M.drop (i + D.length) := (List.take_append_drop _ M).symm
  have hB : (fl Y (M.take (i + D.length))).length = (i + D.length) * Y.k := by rw [fl_length K, List.length_take, Nat.min_eq_left (by omega)]
  have e2 : (fl Y M).drop (i * Y.k + (fl Y D).length) = fl Y (M.drop (i + D.length)) := by
    conv => lhs; rw [hM2, fl_append]
    rw [fl_length K, ← Nat.add_mul, List.drop_append_of_le_length (by omega), List.drop_of_length_le (by omega), List.nil_append]
  rw [e1, e2, put, fl_append, fl_append]
theorem run_copy_nil {P : Program} (w : World) (dT sT ty elem : TypeId) (k : Nat) (d a : Option Addr) (dn dc c : Nat)
    (hu : P.underlying dT = some (.slice elem)) (hs : (P.info? elem).map (·.size) = some k) :
    (Builtin.copy_ #[dT, sT] ty #[.slice d dn dc, .slice a 0 c]).run P w = .ok (goInt 0) w := by
  cases hq : P.info? elem with
  | none => simp [hq] at hs
  | some i =>
    have hi : i.size = k := by simpa [hq] using hs
    cases a <;> cases d <;> simp [Builtin.copy_, run_underlying hu, Builtin.lenOf, Builtin.firstCells, sizeOf, typeInfo, hq, hi, loadCells, loadCellsFrom, storeCells]
theorem run_copy_at {P : Program} (w : World) (dT sT ty elem : TypeId) (k g off dLen dCap : Nat) (a : Addr) (sLen sCap : Nat) (cur : Array Value) (t : TypeId) (cs : List Value)
    (hu : P.underlying dT = some (.slice elem)) (hs : (P.info? elem).map (·.size) = some k)
    (hg : w.heap[g]? = some (.cells cur t (0, 0))) (hn : cs.length = sLen * k) (hle : sLen ≤ dLen)
    (hsrc : ∀ j v, cs[j]? = some v → w.cell? (a.add j) = some v) (hfit : off + cs.length ≤ cur.size) (h1 : ∀ v ∈ cs, v.oneCell' = true) :
    (Builtin.copy_ #[dT, sT] ty #[.slice (some ⟨g, off, none⟩) dLen dCap, .slice (some a) sLen sCap]).run P w =
      .ok (goInt sLen) (w.setRow g (cur.toList.take off ++ cs ++ cur.toList.drop (off + cs.length)).toArray) := by
  have hl := run_loadCells_list (P := P) w a cs hsrc
  have hst := run_storeCells_at (P := P) g off t cs 0 cur w hg (by omega) h1
  rw [Nat.add_zero] at hst
  have hmin : Nat.min sLen dLen = sLen := Nat.min_eq_left hle
  cases hq : P.info? elem with
  | none => simp [hq] at hs
  | some i =>
    have hi : i.size = k := by simpa [hq] using hs
    rw [hn] at hl
    simp [Builtin.copy_, run_underlying hu, Builtin.lenOf, Builtin.firstCells, sizeOf, typeInfo, hq, hi, hl, hst, hmin, Nat.min_eq_left hle]
theorem copyY (K : Y.Ok) (w : World) {ops : Array Oper} {rest : List Oper} {o : Oper} {a : Act} {Q : Exit → Act → World → Prop} (hgd : o.guard = none) (d s : Operand)
    (ho : o.op = .call { callee := .builtin .copy, args := #[d, s], argTypes := #[Y.ST, Y.ST] }) (B g dn dc i n c m : Nat) (ad : Option Addr) (M D : List α)
    (hd : a.eval d = .slice (some ⟨g, i * Y.k, none⟩) dn dc) (hs : a.eval s = .slice ad m c) (hM : OwnY Y B w (.slice (some ⟨g, 0, none⟩) n n) M) (hD : SlY Y w ad m c D) (hi : i + m ≤ n) (hdn : m ≤ dn)
    (h : ∀ w', OwnY Y B w' (.slice (some ⟨g, 0, none⟩) n n) (put M i D) → Upd (· = g) w w' → w'.heap.size = w.heap.size → wpList Tryz.prog ops Q rest (a.put o.dst (goInt m)) w') : wpList Tryz.prog ops Q (o :: rest) a w := by
  obtain ⟨zv, hinfo, hzc⟩ := K.info
  obtain ⟨i0, hi0, hz0, hz1, hz2⟩ := info_parts hinfo
  have hsz : (Tryz.prog.info? Y.T).map (·.size) = some Y.k := by rw [hi0]; simp [hz1]
  have hMn : M.length = n := (hM.sl' K).len
  have hDm := hD.len
  by_cases hD0 : D = []
  · subst hD0
    have hm0 : m = 0 := hDm.symm
    subst hm0
    have hr := run_copy_nil (P := Tryz.prog) w Y.ST Y.ST o.type Y.T Y.k (some ⟨g, i * Y.k, none⟩) ad dn dc c K.und hsz
    refine wpList_plain hgd fun K' hK' => ?_
    unfold Oper.wp execOp
    simp only [ho, resolve, invoke, builtin, Sem.run_bind, Sem.run_pure, Result.andThen_ok, List.map_toArray, List.map_cons, List.map_nil, hd, hs, hr]
    refine hK' _ _ (h _ ?_ (Upd.refl _ _) rfl)
    have : put M i ([] : List α) = M := by simp [put]
    rw [this]
    exact hM
  · obtain ⟨q, p, rfl, hq, hl⟩ := hD.place hD0
    rcases hM with ⟨h0, h1 | ⟨g1, cap, cur, e1, e2, e3, e4, e5, e6, e7⟩⟩
    · have := h1.1; cases this
    · injection e1 with q1 q2 q3
      injection q1 with q1
      cases q1
      subst q3
      have hcs : (fl Y D).length = m * Y.k := by rw [fl_length K, hDm]
      have hfit : i * Y.k + (fl Y D).length ≤ cur.size := by rw [hcs, e6, ← Nat.add_mul]; exact Nat.mul_le_mul_right _ hi
      have hr := run_copy_at (P := Tryz.prog) w Y.ST Y.ST o.type Y.T Y.k g (i * Y.k) dn dc ⟨q, p, none⟩ m c cur Y.T (fl Y D) K.und hsz e3 hcs hdn (fun j u hu => by rw [Addr.add_lit]; exact hl.flat K j u hu) hfit (fl_one K D)
      refine wpList_plain hgd fun K' hK' => ?_
      unfold Oper.wp execOp
      simp only [ho, resolve, invoke, builtin, Sem.run_bind, Sem.run_pure, Result.andThen_ok, List.map_toArray, List.map_cons, List.map_nil, hd, hs, hr]
      refine hK' _ _ (h _ ?_ ⟨rfl, rfl, rfl, by simp, fun b hb hs => setRow_other w g b _ hs⟩ (by simp))
      have hpl : (put M i D).length = M.length := put_length (by omega)
      refine ⟨by rw [fl_length K], .inr ⟨g, n, _, ?_, e2, setRow_heap w g cur _ Y.T (0, 0) e3, ?_, e5, ?_, ?_⟩⟩
      · rw [hpl, ← q2]
      · rw [hpl]; exact e4
      · rw [List.size_toArray, ← e6]
        simp only [List.length_append, List.length_take, List.length_drop, Array.length_toList]
        omega
      · rw [hpl, fl_put K (by omega), ← e7]
        have hfit2 : i * Y.k + (fl Y D).length ≤ M.length * Y.k := by rw [hcs, ← Nat.add_mul]; exact Nat.mul_le_mul_right _ (by omega)
        exact splice_take hfit2
end Go.Proofs.YtjfbkeommlopmaaGreatDoor
namespace Go.Proofs.YtjfbkeommlopmaaGreatDoor
open Go.ChangeShapes Go.WideShapes Go.ChangeAt Go.RowKit
open Classical
set_option linter.unusedVariables false
theorem opCells : Tryz.prog.cellsOf 26 = 3 := by kernel_rfl
theorem intCells : Tryz.prog.cellsOf 3 = 1 := by kernel_rfl
theorem strCells : Tryz.prog.cellsOf 9 = 1 := by kernel_rfl
set_option maxRecDepth 100000 in
theorem open_opc {H : Type} {enc : TypeId × Value → H} {W : World} {base : Nat} {sp : Nat → Bool} {held : Bool} {n : Nat} {cs : List Value} {x : DataW H × List MemPlace} (h : DataW.trod enc Tryz.prog W base sp held n 26 cs = some x) :
    ∃ p : Opn, p.fits ∧ cs = [.int .i64 p.k, .int .i64 p.s, .string p.v] := by
  obtain ⟨xs, k, hk, hxy, hlen, hxl, hf⟩ := DataW.trod_struct Tryz.underlying26 h
  rw [opCells] at hlen
  have hxl : xs.length = 3 := hxl
  match xs, hxl, cs, hlen with
  | [y0, y1, y2], _, [v0, v1, v2], _ =>
    have g0 := hf 0 _ rfl
    have g1 := hf 1 _ rfl
    have g2 := hf 2 _ rfl
    simp [intCells, strCells] at g0 g1 g2
    obtain ⟨K, hK, hx0, hw0⟩ := DataW.trod_int Tryz.underlying3 g0
    obtain ⟨N, hN, hx2, hw2⟩ := DataW.trod_int Tryz.underlying3 g1
    obtain ⟨t, hS, hx4, hw4⟩ := DataW.trod_string Tryz.underlying9 g2
    refine ⟨⟨K, N, t⟩, ⟨hw0, hw2, hw4⟩, ?_⟩
    rw [(List.cons_eq_cons.1 hK).1, (List.cons_eq_cons.1 hN).1, (List.cons_eq_cons.1 hS).1]
theorem enCells : Tryz.prog.cellsOf 28 = 5 := by kernel_rfl
theorem enBytes : Tryz.prog.bytesOf 28 = 48 := by kernel_rfl
set_option maxRecDepth 100000 in
theorem open_enc {H : Type} {enc : TypeId × Value → H} {W : World} {base : Nat} {sp : Nat → Bool} {held : Bool} {n : Nat} {cs : List Value} {x : DataW H × List MemPlace} (h : DataW.trod enc Tryz.prog W base sp held n 28 cs = some x) :
    ∃ p : En, p.fits ∧ cs = p.cs := by
  obtain ⟨xs, k, hk, hxy, hlen, hxl, hf⟩ := DataW.trod_struct Tryz.underlying28 h
  rw [enCells] at hlen
  have hxl : xs.length = 3 := hxl
  match xs, hxl, cs, hlen with
  | [y0, y1, y2], _, [v0, v1, v2, v3, v4], _ =>
    have g0 := hf 0 _ rfl
    have g1 := hf 1 _ rfl
    have g2 := hf 2 _ rfl
    simp [intCells, opCells] at g0 g1 g2
    obtain ⟨K, hK, hx0, hw0⟩ := DataW.trod_int Tryz.underlying3 g0
    obtain ⟨N, hN, hx2, hw2⟩ := DataW.trod_int Tryz.underlying3 g1
    obtain ⟨o, ho, e⟩ := open_opc g2
    refine ⟨⟨K, N, o⟩, ⟨hw0, hw2, ho⟩, ?_⟩
    have e0 := (List.cons_eq_cons.1 hK).1
    have e1 := (List.cons_eq_cons.1 hN).1
    simp at e
    obtain ⟨e2, e3, e4⟩ := e
    subst e0 e1 e2 e3 e4
    rfl
end Go.Proofs.YtjfbkeommlopmaaGreatDoor
namespace Go.Proofs
end Go.Proofs
namespace Go.Proofs.YtjfbkeommlopmaaGreatDoor
open Go.Shelf Go.RowKit Go.Lib Go.Sort
set_option linter.unusedVariables false
def cf (x y : Cl) : Int := Lib.compareInt x.1 y.1
end Go.Proofs.YtjfbkeommlopmaaGreatDoor
namespace Go.Proofs.YtjfbkeommlopmaaGreatDoor
open Go.Shelf Go.RowKit Go.Lib Go.Sort
set_option linter.unusedVariables false
end Go.Proofs.YtjfbkeommlopmaaGreatDoor
namespace Go.Proofs.YtjfbkeommlopmaaGreatDoor
open Go.Shelf Go.RowKit Go.Lib Go.Sort
set_option linter.unusedVariables false
end Go.Proofs.YtjfbkeommlopmaaGreatDoor
namespace Go.Proofs.YtjfbkeommlopmaaGreatDoor
open Go.RowKit
set_option linter.unusedVariables false
theorem SlC.place {w : World} {v : Value} {D : List Cl} {a : Option Addr} {c : Nat} (h : SlC w v D a c) (hD : D ≠ []) : ∃ q o, a = some ⟨q, o, none⟩ ∧ q < w.heap.size ∧ LieC w q o D := by
  cases a with
  | none => exact absurd (h.nil rfl).1 hD
  | some x =>
    rcases h.at_ x rfl with ⟨e, _⟩ | ⟨q, o, rfl, hq, hl⟩
    · exact absurd e hD
    · exact ⟨q, o, rfl, hq, hl⟩
end Go.Proofs.YtjfbkeommlopmaaGreatDoor
namespace Go.Proofs.YtjfbkeommlopmaaGreatDoor
open Go.RowKit
set_option linter.unusedVariables false
theorem Ok.take {L : List Cl} (h : Ok L) (k : Nat) : Ok (L.take k) :=
  ⟨h.up.sublist (List.take_sublist _ _), fun p hp => h.may p (List.mem_of_mem_take hp)⟩
theorem SlC.later {w w' : World} {v : Value} {D : List Cl} {a : Option Addr} {c : Nat} (h : SlC w v D a c) (hb : Below w.heap.size w w') : SlC w' v D a c :=
  h.upd (S := fun _ => False) (Upd.of_below hb) (fun _ _ _ => id)
end Go.Proofs.YtjfbkeommlopmaaGreatDoor
namespace Go.Proofs.YtjfbkeommlopmaaGreatDoor
open Go.RowKit Go.Maps
set_option linter.unusedVariables false
def pl (L : List Cl) (P : List Opn) : List Cl := P.foldl (fun L o => dn L o.k o.s o.v) L
theorem Ok.pl {L : List Cl} (h : Ok L) : ∀ P : List Opn, Ok (pl L P) := by
  intro P
  induction P generalizing L with
  | nil => exact h
  | cons o r ih => exact ih (h.dn o.k o.s o.v)
def gs (L : List Cl) : Nat → Int
  | 0 => -1
  | k + 1 => if (gv L k).isSome then (k : Int) else gs L k
theorem Ops.later {W W' : World} {a : Option Addr} {P : List Opn} (h : Ops W a P) (b : Below W.heap.size W W') : Ops W' a P := fun i hi => by
  obtain ⟨q, o, e, c0, c1, c2⟩ := h i hi
  have hl := World.block_lt_of_cell? _ _ c0
  exact ⟨q, o, e, (b.cell (p := ⟨q, o + i * 3, none⟩) hl).trans c0, (b.cell (p := ⟨q, o + i * 3 + 1, none⟩) hl).trans c1, (b.cell (p := ⟨q, o + i * 3 + 2, none⟩) hl).trans c2⟩
end Go.Proofs.YtjfbkeommlopmaaGreatDoor
namespace Go.Proofs.YtjfbkeommlopmaaGreatDoor
open Go.RowKit
set_option linter.unusedVariables false
end Go.Proofs.YtjfbkeommlopmaaGreatDoor
namespace Go.Proofs.YtjfbkeommlopmaaGreatDoor
open Go.RowKit
set_option linter.unusedVariables false
def Two (B : Nat) (w0 w : World) (b1 : Nat) (L1 : List Cl) (b2 : Nat) (L2 : List Cl) : Prop :=
  ∃ m1 m2, Led w b1 m1 L1 ∧ Led w b2 m2 L2 ∧ B ≤ b1 ∧ B ≤ b2 ∧ (∀ j, m1 = some j → B ≤ j) ∧ (∀ j, m2 = some j → B ≤ j) ∧ b1 ≠ b2 ∧ (∀ j, m1 = some j → m2 ≠ some j) ∧ Below B w0 w
theorem Two.fst {B b1 b2 : Nat} {w0 w : World} {L1 L2 : List Cl} (h : Two B w0 w b1 L1 b2 L2) : LedB B w0 w b1 L1 := by
  obtain ⟨m1, m2, l1, l2, h1, h2, h3, h4, h5, h6, h7⟩ := h
  exact ⟨m1, l1, h1, h3, h7⟩
theorem Two.bel {B b1 b2 : Nat} {w0 w : World} {L1 L2 : List Cl} (h : Two B w0 w b1 L1 b2 L2) : Below B w0 w := h.fst.bel
theorem Two.new {B b1 : Nat} {w0 w w' : World} {L1 : List Cl} {b2 : Nat} {m2 : Option Nat} {L2 : List Cl} (h : LedB B w0 w b1 L1) (l2 : Led w' b2 m2 L2) (hb : Below w.heap.size w w') (h2 : w.heap.size ≤ b2) (h3 : ∀ j, m2 = some j → w.heap.size ≤ j) : Two B w0 w' b1 L1 b2 L2 := by
  obtain ⟨m1, l1, k1, k2, k3⟩ := h
  have hlt := l1.lt
  refine ⟨m1, m2, l1.upd (S := fun _ => False) (Upd.of_below hb) id (fun _ _ => id), l2, k1, by omega, k2, fun j e => by have := h3 j e; omega, by omega, fun j e e' => ?_, k3.trans (hb.mono (by omega))⟩
  have := h3 j e'
  have := l1.mlt e
  omega
end Go.Proofs.YtjfbkeommlopmaaGreatDoor
namespace Go.Proofs.YtjfbkeommlopmaaGreatDoor
open Go.RowKit Go.Maps
set_option linter.unusedVariables false
theorem size_zero {a : ByteArray} (h : a.size = 0) : a = ByteArray.empty := by
  obtain ⟨⟨x⟩⟩ := a
  cases x with
  | nil => rfl
  | cons y r => simp [ByteArray.size] at h
set_option maxRecDepth 100000 in
set_option maxHeartbeats 1000000 in
theorem refcheck (k s : Int) (v : ByteArray) (hf : (⟨k, s, v⟩ : Opn).fits) (w : World) : Calls Tryz.prog 137 #[.agg #[.int .i64 k, .int .i64 s, .string v]] w fun e w' => e = .returned (.int .i64 (ck k s v)) ∧ Below w.heap.size w w' := by
  have hv := hf.vl
  dsimp only at hv
  have hsz : (v.size : Int) ≤ 9223372036854775807 := by unfold maxLen at hv; omega
  clear hf hv
  by_cases k1 : k = 1
  · subst k1
    by_cases hs : s < 0 ∨ 1024 ≤ s
    · have e1 : ck 1 s v = 41 := by simp [ck, hs]
      rw [e1]
      clear e1
      go_enter Tryz.func137, Tryz.ntmps137
      go_wp2
      all_goals
        go_ret
        exact ⟨by first | rfl | (exfalso; omega) | (exfalso; simp_all), (Below.refl _ w).alloc (Nat.le_refl _) _⟩
    · have e1 : ck 1 s v = if 64 < v.size then 42 else 0 := by simp [ck, hs]
      rw [e1]
      clear e1
      by_cases hv : 64 < v.size
      · rw [if_pos hv]
        have hv' : ((64 : Int) < v.size) := by omega
        go_enter Tryz.func137, Tryz.ntmps137
        go_wp2
        all_goals
          go_ret
          exact ⟨by first | rfl | (exfalso; omega) | (exfalso; simp_all), (Below.refl _ w).alloc (Nat.le_refl _) _⟩
      · rw [if_neg hv]
        have hv' : ¬ ((64 : Int) < v.size) := by omega
        go_enter Tryz.func137, Tryz.ntmps137
        go_wp2
        all_goals
          go_ret
          exact ⟨by first | rfl | (exfalso; omega) | (exfalso; simp_all), (Below.refl _ w).alloc (Nat.le_refl _) _⟩
  by_cases k2 : k = 2
  · subst k2
    by_cases hs : s ≠ 0
    · have e1 : ck 2 s v = 41 := by simp [ck, hs]
      rw [e1]
      clear e1
      have hb : (s != 0) = true := by simp [hs]
      go_enter Tryz.func137, Tryz.ntmps137
      go_wp2
      all_goals
        go_ret
        exact ⟨by first | rfl | (exfalso; omega) | (exfalso; simp_all), (Below.refl _ w).alloc (Nat.le_refl _) _⟩
    · have e1 : ck 2 s v = if 64 < v.size then 42 else 0 := by simp [ck, hs]
      rw [e1]
      clear e1
      have hs : s = 0 := by omega
      subst hs
      by_cases hv : 64 < v.size
      · rw [if_pos hv]
        have hv' : ((64 : Int) < v.size) := by omega
        go_enter Tryz.func137, Tryz.ntmps137
        go_wp2
        all_goals
          go_ret
          exact ⟨by first | rfl | (exfalso; omega) | (exfalso; simp_all), (Below.refl _ w).alloc (Nat.le_refl _) _⟩
      · rw [if_neg hv]
        have hv' : ¬ ((64 : Int) < v.size) := by omega
        go_enter Tryz.func137, Tryz.ntmps137
        go_wp2
        all_goals
          go_ret
          exact ⟨by first | rfl | (exfalso; omega) | (exfalso; simp_all), (Below.refl _ w).alloc (Nat.le_refl _) _⟩
  by_cases k3 : k = 3
  · subst k3
    by_cases hs : s < 0 ∨ 1024 ≤ s
    · have e1 : ck 3 s v = 41 := by simp [ck, hs]
      rw [e1]
      clear e1
      go_enter Tryz.func137, Tryz.ntmps137
      go_wp2
      all_goals
        go_ret
        exact ⟨by first | rfl | (exfalso; omega) | (exfalso; simp_all), (Below.refl _ w).alloc (Nat.le_refl _) _⟩
    · have e1 : ck 3 s v = if 0 < v.size then 42 else 0 := by simp [ck, hs]
      rw [e1]
      clear e1
      by_cases hv : 0 < v.size
      · rw [if_pos hv]
        have hv' : ¬ (v.toList = []) := fun e => by
          rw [ByteArray.toList_eq] at e
          have : v.size = 0 := by simp [ByteArray.size, ← Array.length_toList, e]
          omega
        go_enter Tryz.func137, Tryz.ntmps137
        go_wp2
        all_goals
          go_ret
          exact ⟨by first | rfl | (exfalso; omega) | (exfalso; simp_all), (Below.refl _ w).alloc (Nat.le_refl _) _⟩
      · rw [if_neg hv]
        have hv' : v = ByteArray.empty := size_zero (by omega)
        subst hv'
        go_enter Tryz.func137, Tryz.ntmps137
        go_wp2
        all_goals
          go_ret
          exact ⟨by first | rfl | (exfalso; omega) | (exfalso; simp_all), (Below.refl _ w).alloc (Nat.le_refl _) _⟩
  by_cases k4 : k = 4
  · subst k4
    by_cases hs : s ≠ 0
    · have e1 : ck 4 s v = 41 := by simp [ck, hs]
      rw [e1]
      clear e1
      have hb : (s != 0) = true := by simp [hs]
      go_enter Tryz.func137, Tryz.ntmps137
      go_wp2
      all_goals
        go_ret
        exact ⟨by first | rfl | (exfalso; omega) | (exfalso; simp_all), (Below.refl _ w).alloc (Nat.le_refl _) _⟩
    · have e1 : ck 4 s v = if 0 < v.size then 42 else 0 := by simp [ck, hs]
      rw [e1]
      clear e1
      have hs : s = 0 := by omega
      subst hs
      by_cases hv : 0 < v.size
      · rw [if_pos hv]
        have hv' : ¬ (v.toList = []) := fun e => by
          rw [ByteArray.toList_eq] at e
          have : v.size = 0 := by simp [ByteArray.size, ← Array.length_toList, e]
          omega
        go_enter Tryz.func137, Tryz.ntmps137
        go_wp2
        all_goals
          go_ret
          exact ⟨by first | rfl | (exfalso; omega) | (exfalso; simp_all), (Below.refl _ w).alloc (Nat.le_refl _) _⟩
      · rw [if_neg hv]
        have hv' : v = ByteArray.empty := size_zero (by omega)
        subst hv'
        go_enter Tryz.func137, Tryz.ntmps137
        go_wp2
        all_goals
          go_ret
          exact ⟨by first | rfl | (exfalso; omega) | (exfalso; simp_all), (Below.refl _ w).alloc (Nat.le_refl _) _⟩
  have e1 : ck k s v = 40 := by simp [ck, k1, k2, k3, k4]
  rw [e1]
  have b1 : (k == 1) = false := by simp [k1]
  have b2 : (k == 2) = false := by simp [k2]
  have b3 : (k == 3) = false := by simp [k3]
  have b4 : (k == 4) = false := by simp [k4]
  go_enter Tryz.func137, Tryz.ntmps137
  go_wp2
  all_goals
    go_ret
    exact ⟨rfl, (Below.refl _ w).alloc (Nat.le_refl _) _⟩
end Go.Proofs.YtjfbkeommlopmaaGreatDoor
namespace Go.Proofs.YtjfbkeommlopmaaGreatDoor
open Go.RowKit
set_option linter.unusedVariables false
theorem OwnC.grow {B : Nat} {w w' : World} {v : Value} {l : List Cl} (h : OwnC B w v l) (hb : Below w.heap.size w w') : OwnC B w' v l :=
  h.bel hb (Nat.le_refl _)
def At2 (w : World) (g : Nat) (c : Cl) : Prop := w.cell? ⟨g, 0, none⟩ = some (.int .i64 c.1) ∧ w.cell? ⟨g, 1, none⟩ = some (.string c.2)
theorem At2.new (w : World) (c : Cl) (T : TypeId) : At2 (w.alloc (.cells #[.int .i64 c.1, .string c.2] T)) w.heap.size c := by
  refine ⟨?_, ?_⟩
  all_goals go_simp
end Go.Proofs.YtjfbkeommlopmaaGreatDoor
namespace Go.Proofs.YtjfbkeommlopmaaGreatDoor
open Go.RowKit
set_option linter.unusedVariables false
end Go.Proofs.YtjfbkeommlopmaaGreatDoor
namespace Go.Proofs.YtjfbkeommlopmaaGreatDoor
open Go.RowKit
set_option linter.unusedVariables false
end Go.Proofs.YtjfbkeommlopmaaGreatDoor
namespace Go.Proofs.YtjfbkeommlopmaaGreatDoor
open Go.RowKit
set_option linter.unusedVariables false
theorem Took.refl {w : World} {b : Nat} {m : Option Nat} {L : List Cl} (l : Led w b m L) : Took w b m L w := ⟨m, l, .inl rfl, Upd.refl _ _⟩
theorem Took.trans {w w' w'' : World} {b : Nat} {m m' : Option Nat} {L L' : List Cl} (hm : m' = m ∨ ∃ j, m' = some j ∧ w.heap.size ≤ j) (hu : Upd (LS b m) w w') (t : Took w' b m' L' w'') : Took w b m L' w'' := by
  obtain ⟨m2, l2, hm2, hu2⟩ := t
  refine ⟨m2, l2, ?_, ⟨hu2.os.trans hu.os, hu2.tape.trans hu.tape, hu2.output.trans hu.output, Nat.le_trans hu.size hu2.size, fun k hk hs => ?_⟩⟩
  · rcases hm2 with e | ⟨j, e, hj⟩
    · rw [e]; exact hm
    · exact .inr ⟨j, e, Nat.le_trans hu.size hj⟩
  · refine (hu2.block k (Nat.lt_of_lt_of_le hk hu.size) ?_).trans (hu.block k hk hs)
    rintro (e | e)
    · exact hs (.inl e)
    · rcases hm with h | ⟨j, h, hj⟩
      · exact hs (.inr (h ▸ e))
      · rw [h] at e; cases e; omega
theorem SlC.kept {w w' : World} {b : Nat} {v : Value} {D : List Cl} {a : Option Addr} {c : Nat} (h : SlC w v D a c) (K : ∀ g i u, g ≠ b → w.cell? ⟨g, i, none⟩ = some u → w'.cell? ⟨g, i, none⟩ = some u) (hs : w.heap.size ≤ w'.heap.size) (hn : ∀ x, a = some x → D ≠ [] → x.block ≠ b) : SlC w' v D a c :=
  ⟨h.form, h.cap, h.max, h.nil, fun x hx => by
    rcases h.at_ x hx with h1 | ⟨q, o, rfl, hq, hl⟩
    · exact .inl h1
    · refine .inr ⟨q, o, rfl, Nat.lt_of_lt_of_le hq hs, ?_⟩
      by_cases hD : D = []
      · subst hD
        intro i d hd
        cases hd
      · intro i d hd
        have hb := hn _ hx hD
        exact ⟨K _ _ _ hb (hl i d hd).1, K _ _ _ hb (hl i d hd).2⟩⟩
end Go.Proofs.YtjfbkeommlopmaaGreatDoor
namespace Go.Proofs.YtjfbkeommlopmaaGreatDoor
open Go.ChangeShapes Go.WideShapes Go.ChangeAt Go.RowKit
open Classical
set_option linter.unusedVariables false
end Go.Proofs.YtjfbkeommlopmaaGreatDoor
namespace Go.Proofs.YtjfbkeommlopmaaGreatDoor
open Go.RowKit
set_option linter.unusedVariables false
def At3 (w : World) (g : Nat) (a b : Int) (c : ByteArray) : Prop := w.cell? ⟨g, 0, none⟩ = some (.int .i64 a) ∧ w.cell? ⟨g, 1, none⟩ = some (.int .i64 b) ∧ w.cell? ⟨g, 2, none⟩ = some (.string c)
theorem At3.new (w : World) (a b : Int) (c : ByteArray) (T : TypeId) : At3 (w.alloc (.cells #[.int .i64 a, .int .i64 b, .string c] T)) w.heap.size a b c := by
  refine ⟨?_, ?_, ?_⟩
  all_goals go_simp
end Go.Proofs.YtjfbkeommlopmaaGreatDoor
namespace Go.Proofs.YtjfbkeommlopmaaGreatDoor
open Go.RowKit
set_option linter.unusedVariables false
set_option linter.unusedSimpArgs false
def rcs : List Rs → List Value
  | [] => []
  | d :: r => .int .i64 d.1 :: .int .i64 d.2.1 :: .string d.2.2 :: rcs r
theorem rcs_get : ∀ (l : List Rs) (i : Nat) (d : Rs), l[i]? = some d → (rcs l)[i * 3]? = some (.int .i64 d.1) ∧ (rcs l)[i * 3 + 1]? = some (.int .i64 d.2.1) ∧ (rcs l)[i * 3 + 2]? = some (.string d.2.2)
  | [], i, d, h => by simp at h
  | x :: r, 0, d, h => by simp at h; subst h; simp [rcs]
  | x :: r, i + 1, d, h => by
    have e : (i + 1) * 3 = i * 3 + 1 + 1 + 1 := by omega
    have h' : r[i]? = some d := by simpa using h
    obtain ⟨h0, h1, h2⟩ := rcs_get r i d h'
    rw [e, show i * 3 + 1 + 1 + 1 + 1 = (i * 3 + 1) + 1 + 1 + 1 by omega, show i * 3 + 1 + 1 + 1 + 2 = (i * 3 + 2) + 1 + 1 + 1 by omega]
    simp only [rcs, List.getElem?_cons_succ]
    exact ⟨h0, h1, h2⟩
theorem rcs_set : ∀ (l : List Rs) (k : Nat) (x : Rs), rcs (l.set k x) = (((rcs l).set (k * 3) (.int .i64 x.1)).set (k * 3 + 1) (.int .i64 x.2.1)).set (k * 3 + 2) (.string x.2.2)
  | [], k, x => by simp [rcs]
  | d :: r, 0, x => by simp [rcs]
  | d :: r, k + 1, x => by
    have e : (k + 1) * 3 = k * 3 + 1 + 1 + 1 := by omega
    rw [e, show k * 3 + 1 + 1 + 1 + 1 = (k * 3 + 1) + 1 + 1 + 1 by omega, show k * 3 + 1 + 1 + 1 + 2 = (k * 3 + 2) + 1 + 1 + 1 by omega]
    simp only [List.set_cons_succ, rcs, rcs_set r k x]
def Own3 (T : TypeId) (B : Nat) (w : World) (v : Value) (l : List Rs) : Prop := w.ownsRow B T 3 v l.length (rcs l)
variable {T ST : TypeId}
theorem Own3.nil (T : TypeId) (B : Nat) (w : World) : Own3 T B w (.slice none 0 0) [] := World.ownsRow_nil w B T 3
theorem Own3.alloc {B : Nat} {w : World} {v : Value} {l : List Rs} (h : Own3 T B w v l) (o : Obj) : Own3 T B (w.alloc o) v l := World.ownsRow.alloc h o
theorem Own3.form {B : Nat} {w : World} {v : Value} {l : List Rs} (h : Own3 T B w v l) : ∃ a c, v = .slice a l.length c ∧ l.length ≤ c ∧ c ≤ maxLen ∧ (a = none → l = [] ∧ c = 0) ∧ ∀ x, a = some x → ∃ g, x = ⟨g, 0, none⟩ ∧ B ≤ g ∧ g < w.heap.size := by
  rcases h.2 with ⟨e1, e2⟩ | ⟨g, cap, cur, e1, e2, e3, e4, e5, _⟩
  · exact ⟨none, 0, by rw [e1, e2], by omega, by unfold maxLen; omega, fun _ => ⟨List.eq_nil_of_length_eq_zero e2, rfl⟩, fun x hx => by cases hx⟩
  · refine ⟨some ⟨g, 0, none⟩, cap, e1, e4, e5, (fun hx => by cases hx), fun x hx => ?_⟩
    cases hx
    exact ⟨g, rfl, e2, (Array.getElem?_eq_some_iff.1 e3).1⟩
theorem Own3.cell {B : Nat} {w : World} {g n c : Nat} {l : List Rs} (h : Own3 T B w (.slice (some ⟨g, 0, none⟩) n c) l) (i : Nat) (d : Rs) (hd : l[i]? = some d) : w.cell? ⟨g, i * 3, none⟩ = some (.int .i64 d.1) ∧ w.cell? ⟨g, i * 3 + 1, none⟩ = some (.int .i64 d.2.1) ∧ w.cell? ⟨g, i * 3 + 2, none⟩ = some (.string d.2.2) := by
  obtain ⟨g0, g1, g2⟩ := rcs_get l i d hd
  have h0 := World.ownsRow.cells h (g := g) rfl _ _ g0
  have h1 := World.ownsRow.cells h (g := g) rfl _ _ g1
  have h2 := World.ownsRow.cells h (g := g) rfl _ _ g2
  rw [Addr.add_lit, Nat.zero_add] at h0 h1 h2
  exact ⟨h0, h1, h2⟩
theorem Own3.upd1 {S : Nat → Prop} {B : Nat} {w w' : World} {v : Value} {l : List Rs} (h : Own3 T B w v l) (u : Upd S w w') (hs : ∀ g, v.ownBlock = some g → ¬ S g) : Own3 T B w' v l := by
  obtain ⟨h1, h2⟩ := h
  refine ⟨h1, ?_⟩
  rcases h2 with h2 | ⟨g, cap, cur, e1, e2, e3, r⟩
  · exact .inl h2
  · refine .inr ⟨g, cap, cur, e1, e2, ?_, r⟩
    rw [u.block g (Array.getElem?_eq_some_iff.1 e3).1 (hs g (by rw [e1]; rfl))]
    exact e3
theorem Own3.grow {B : Nat} {w w' : World} {v : Value} {l : List Rs} (h : Own3 T B w v l) (hb : Below w.heap.size w w') : Own3 T B w' v l := h.upd1 (S := fun _ => False) (Upd.of_below hb) (fun _ _ => id)
theorem Own3.low {B B' : Nat} {w : World} {v : Value} {l : List Rs} (h : Own3 T B w v l) (hb : B' ≤ B) : Own3 T B' w v l := by
  obtain ⟨h1, h2⟩ := h
  refine ⟨h1, ?_⟩
  rcases h2 with h2 | ⟨g, cap, cur, e1, e2, r⟩
  · exact .inl h2
  · exact .inr ⟨g, cap, cur, e1, Nat.le_trans hb e2, r⟩
theorem Own3.set {B : Nat} {w : World} {g n c : Nat} {l : List Rs} (h : Own3 T B w (.slice (some ⟨g, 0, none⟩) n c) l) (k : Nat) (x : Rs) :
    Own3 T B (((w.setCell ⟨g, k * 3, none⟩ (.int .i64 x.1)).setCell ⟨g, k * 3 + 1, none⟩ (.int .i64 x.2.1)).setCell ⟨g, k * 3 + 2, none⟩ (.string x.2.2)) (.slice (some ⟨g, 0, none⟩) n c) (l.set k x) := by
  obtain ⟨a, c', e, _⟩ := h.form
  injection e with e1 e2 e3
  unfold Own3 at *
  rw [← e2] at h
  rw [rcs_set, List.length_set, ← e2]
  exact (((World.ownsRow.stored h (k * 3) _).1.stored (k * 3 + 1) _).1.stored (k * 3 + 2) _).1
theorem Own3.free {B : Nat} {w : World} {g n c : Nat} {l : List Rs} (h : Own3 T B w (.slice (some ⟨g, 0, none⟩) n c) l) (j : Nat) : w.frozen? ⟨g, j, none⟩ = false := by
  obtain ⟨a, c', e, _⟩ := h.form
  injection e with e1 e2 e3
  unfold Own3 at h
  rw [← e2] at h
  exact World.ownsRow.frozenAt h j
end Go.Proofs.YtjfbkeommlopmaaGreatDoor
namespace Go.Proofs.YtjfbkeommlopmaaGreatDoor
open Go.RowKit
set_option linter.unusedVariables false
def rl (L : List Cl) : List Opn → List Rs
  | [] => []
  | o :: r => wd L o.k o.s o.v :: rl (dn L o.k o.s o.v) r
theorem rl_snoc (L : List Cl) (P : List Opn) (o : Opn) : rl L (P ++ [o]) = rl L P ++ [wd (pl L P) o.k o.s o.v] := by
  induction P generalizing L with
  | nil => rfl
  | cons p r ih => simp only [List.cons_append, rl, ih]; rfl
theorem rl_take (L : List Cl) {P : List Opn} {i : Nat} {o : Opn} (h : P[i]? = some o) : rl L (P.take (i + 1)) = rl L (P.take i) ++ [wd (pl L (P.take i)) o.k o.s o.v] := by
  rw [List.take_add_one, h]
  exact rl_snoc _ _ _
end Go.Proofs.YtjfbkeommlopmaaGreatDoor
namespace Go.Proofs.YtjfbkeommlopmaaGreatDoor
open Go.RowKit
set_option linter.unusedVariables false
end Go.Proofs.YtjfbkeommlopmaaGreatDoor
namespace Go.Proofs.YtjfbkeommlopmaaGreatDoor
open Go.RowKit
open Classical
set_option linter.unusedVariables false
structure Rw where
  c : Int
  n : Int
  p : Int
  d : Bool
  r : Rs
def Rw.cs (x : Rw) : List Value := [.int .i64 x.c, .int .i64 x.n, .int .i64 x.p, .bool x.d, .int .i64 x.r.1, .int .i64 x.r.2.1, .string x.r.2.2]
def Rw.val (x : Rw) : Value := .agg #[.int .i64 x.c, .int .i64 x.n, .int .i64 x.p, .bool x.d, .int .i64 x.r.1, .int .i64 x.r.2.1, .string x.r.2.2]
def zR : Rs := (0, 0, ByteArray.empty)
def yR : Lay Rw := ⟨175, 173, 7, 64, Rw.cs, ⟨0, 0, 0, false, zR⟩⟩
theorem kR : yR.Ok := ⟨by decide, fun x => rfl, fun x u h => by
    simp [yR, Rw.cs] at h
    rcases h with rfl | rfl | rfl | rfl | rfl | rfl | rfl <;> rfl, Tryz.underlying173, ⟨.agg #[.int .i64 0, .int .i64 0, .int .i64 0, .bool false, .int .i64 0, .int .i64 0, .string ByteArray.empty], by kernel_rfl, rfl⟩⟩
def ckE (e : En) : Int := if e.c < 0 ∨ 16 ≤ e.c then 62 else if e.n < 1 then 63 else ck e.o.k e.o.s e.o.v
def gm : List En → Int → Int
  | [], _ => 0
  | e :: r, c => if e.c = c then max e.n (gm r c) else gm r c
theorem gm_snoc : ∀ (L : List En) (e : En) (c : Int), gm (L ++ [e]) c = if e.c = c then max (gm L c) e.n else gm L c
  | [], e, c => by simp [gm]; split <;> omega
  | y :: r, e, c => by
    have ih := gm_snoc r e c
    simp only [List.cons_append, gm, ih]
    split <;> split <;> omega
def tw (L : List En) (e : En) : Bool := L.any (fun p => decide (p.c = e.c) && decide (e.n ≤ p.n))
theorem gm_cons (y : En) (r : List En) (c : Int) : gm (y :: r) c = if y.c = c then max y.n (gm r c) else gm r c := rfl
theorem tw_iff (e : En) (h : 1 ≤ e.n) : ∀ L : List En, tw L e = decide (e.n ≤ gm L e.c)
  | [] => by
    have : ¬ e.n ≤ 0 := by omega
    simp [tw, gm, this]
  | y :: r => by
    have ih := tw_iff e h r
    unfold tw at ih ⊢
    rw [List.any_cons, ih, gm_cons]
    by_cases h1 : y.c = e.c
    · rw [if_pos h1]
      have hm : e.n ≤ max y.n (gm r e.c) ↔ e.n ≤ y.n ∨ e.n ≤ gm r e.c := by omega
      simp only [h1, decide_true, Bool.true_and]
      rw [Bool.eq_iff_iff]
      simp [hm]
    · rw [if_neg h1]
      simp [h1]
theorem tw_snoc (L : List En) (p e : En) : tw (L ++ [p]) e = (tw L e || (decide (p.c = e.c) && decide (e.n ≤ p.n))) := by simp [tw]
def er (past : List En) (e : En) : Int := if ckE e ≠ 0 then ckE e else if tw past e then 64 else 0
def lgA : List En → List En → Int
  | _, [] => 0
  | past, e :: r => if er past e ≠ 0 then er past e else lgA (past ++ [e]) r
def lg (L : List En) (room : Int) : Int := if room < L.length then 60 else lgA [] L
theorem lgA_at {L : List En} {j : Nat} {e : En} (h : L[j]? = some e) : lgA (L.take j) (L.drop j) = if er (L.take j) e ≠ 0 then er (L.take j) e else lgA (L.take (j + 1)) (L.drop (j + 1)) := by
  have hj := (List.getElem?_eq_some_iff.1 h).1
  have he := (List.getElem?_eq_some_iff.1 h).2
  rw [List.drop_eq_getElem_cons hj, he, lgA, List.take_add_one, h]
  rfl
theorem lgA_end (L : List En) : lgA (L.take L.length) (L.drop L.length) = 0 := by simp [lgA]
theorem lgA_zero : ∀ (n : Nat) (L : List En) (j : Nat), L.length - j = n → lgA (L.take j) (L.drop j) = 0 → ∀ (i : Nat) (e : En), j ≤ i → L[i]? = some e → er (L.take i) e = 0 := by
  intro n
  induction n with
  | zero => intro L j hn h i e hi he; have := (List.getElem?_eq_some_iff.1 he).1; omega
  | succ n ih =>
    intro L j hn h i e hi he
    have hj : j < L.length := by omega
    have hg : L[j]? = some L[j] := List.getElem?_eq_getElem hj
    rw [lgA_at hg] at h
    by_cases hz : er (L.take j) L[j] = 0
    · simp [hz] at h
      by_cases hij : i = j
      · subst hij
        rw [hg] at he
        cases he
        exact hz
      · exact ih L (j + 1) (by omega) h i e (by omega) he
    · simp [hz] at h
theorem ckE_zero {e : En} (h : ckE e = 0) : 0 ≤ e.c ∧ e.c < 16 ∧ 1 ≤ e.n ∧ ck e.o.k e.o.s e.o.v = 0 := by
  unfold ckE at h
  by_cases h1 : e.c < 0 ∨ 16 ≤ e.c
  · simp [h1] at h
  · by_cases h2 : e.n < 1
    · simp [h1, h2] at h
    · simp [h1, h2] at h
      exact ⟨by omega, by omega, by omega, h⟩
def rsL (L : List En) : List Rs := rl [] (L.map En.o)
def rwA (R : List Rs) (k i : Nat) (e : En) : Rw := ⟨e.c, e.n, (i : Int) + 1, decide (i < k), if i < k then R.getD i zR else zR⟩
def rws (L : List En) (k : Nat) : List Rw := L.mapIdx (rwA (rsL L) k)
def lo (l : List Rw) (s : Int) : Option Rw := l.foldl (fun a r => if r.c = s then some r else a) none
def tb (L : List En) (k m : Nat) : List Rw := (List.range m).filterMap (fun (c : Nat) => lo (rws L k) (c : Int))
end Go.Proofs.YtjfbkeommlopmaaGreatDoor
namespace Go.Proofs.YtjfbkeommlopmaaGreatDoor
open Go.RowKit Go.Maps
open Classical
set_option linter.unusedVariables false
set_option linter.unusedSimpArgs false
theorem ret_int {k : IntKind} {a b : Int} (h : a = b) : Ending.returned (.int k a) = .returned (.int k b) := by rw [h]
end Go.Proofs.YtjfbkeommlopmaaGreatDoor
namespace Go.Proofs.YtjfbkeommlopmaaGreatDoor
open Go.RowKit Go.Maps
set_option linter.unusedVariables false
set_option linter.unusedSimpArgs false
def y3 (T ST : TypeId) : Lay Rs := ⟨T, ST, 3, 32, fun r => [.int .i64 r.1, .int .i64 r.2.1, .string r.2.2], zR⟩
end Go.Proofs.YtjfbkeommlopmaaGreatDoor
namespace Go.Proofs.YtjfbkeommlopmaaGreatDoor
open Go.RowKit Go.Maps
set_option linter.unusedVariables false
set_option linter.unusedSimpArgs false
theorem OwnY.rw {B : Nat} {w : World} {g n c : Nat} {l : List Rw} (h : OwnY yR B w (.slice (some ⟨g, 0, none⟩) n c) l) {i : Nat} {x : Rw} (hx : l[i]? = some x) : w.cell? ⟨g, i * 7, none⟩ = some (.int .i64 x.c) ∧ w.cell? ⟨g, i * 7 + 1, none⟩ = some (.int .i64 x.n) ∧ w.cell? ⟨g, i * 7 + 2, none⟩ = some (.int .i64 x.p) ∧ w.cell? ⟨g, i * 7 + 3, none⟩ = some (.bool x.d) ∧ w.cell? ⟨g, i * 7 + 4, none⟩ = some (.int .i64 x.r.1) ∧ w.cell? ⟨g, i * 7 + 5, none⟩ = some (.int .i64 x.r.2.1) ∧ w.cell? ⟨g, i * 7 + 6, none⟩ = some (.string x.r.2.2) :=
  ⟨h.cell kR i x hx 0 _ rfl, h.cell kR i x hx 1 _ rfl, h.cell kR i x hx 2 _ rfl, h.cell kR i x hx 3 _ rfl, h.cell kR i x hx 4 _ rfl, h.cell kR i x hx 5 _ rfl, h.cell kR i x hx 6 _ rfl⟩
end Go.Proofs.YtjfbkeommlopmaaGreatDoor
namespace Go.Proofs.YtjfbkeommlopmaaGreatDoor
open Go.RowKit Go.Maps
open Classical
set_option linter.unusedVariables false
set_option linter.unusedSimpArgs false
end Go.Proofs.YtjfbkeommlopmaaGreatDoor
namespace Go.Proofs.YtjfbkeommlopmaaGreatDoor
open Go.RowKit Go.Maps
set_option linter.unusedVariables false
set_option linter.unusedSimpArgs false
end Go.Proofs.YtjfbkeommlopmaaGreatDoor
namespace Go.Proofs.YtjfbkeommlopmaaGreatDoor
open Go.RowKit Go.Maps
set_option linter.unusedVariables false
set_option linter.unusedSimpArgs false
end Go.Proofs.YtjfbkeommlopmaaGreatDoor
namespace Go.Proofs.YtjfbkeommlopmaaGreatDoor
open Go.RowKit Go.Maps
set_option linter.unusedVariables false
set_option linter.unusedSimpArgs false
theorem LieY.drop {α : Type} {Y : Lay α} {w : World} {q o : Nat} {l : List α} (h : LieY Y w q o l) (f : Nat) : LieY Y w q (o + f * Y.k) (l.drop f) := fun i x hx j u hu => by
  rw [List.getElem?_drop] at hx
  have := h _ _ hx j u hu
  rw [Nat.add_mul] at this
  rw [Nat.add_assoc o, ]
  exact this
end Go.Proofs.YtjfbkeommlopmaaGreatDoor
namespace Go.Proofs.YtjfbkeommlopmaaGreatDoor
open Go.RowKit Go.Maps
open Classical
set_option linter.unusedVariables false
set_option linter.unusedSimpArgs false
set_option maxRecDepth 100000 in
theorem refentry_any (C N k s : Int) (v : ByteArray) (hf : (⟨k, s, v⟩ : Opn).fits) (w : World) :
    Calls Tryz.prog 116 #[.agg #[.int .i64 C, .int .i64 N, .int .i64 k, .int .i64 s, .string v]] w fun e w' => e = .returned (.int .i64 (ckE ⟨C, N, ⟨k, s, v⟩⟩)) ∧ Below w.heap.size w w' := by
  have cc := fun W => refcheck k s v hf W
  have bA := (Below.refl w.heap.size w).alloc (Nat.le_refl _) (.cells #[.int .i64 C, .int .i64 N, .int .i64 k, .int .i64 s, .string v] 28)
  by_cases h1 : C < 0
  · have hE : Hid (ckE ⟨C, N, ⟨k, s, v⟩⟩ = 62) := by show _ = _; simp [ckE, h1]
    have d1 : decide (C < 0) = true := by simpa using h1
    go_enter Tryz.func116, Tryz.ntmps116
    go_wp2
    go_ret
    exact ⟨ret_int hE.out.symm, bA⟩
  · by_cases h2 : 16 ≤ C
    · have hE : Hid (ckE ⟨C, N, ⟨k, s, v⟩⟩ = 62) := by show _ = _; simp [ckE, h2]
      go_enter Tryz.func116, Tryz.ntmps116
      go_wp2
      go_ret
      exact ⟨ret_int hE.out.symm, bA⟩
    · by_cases h3 : N < 1
      · have hE : Hid (ckE ⟨C, N, ⟨k, s, v⟩⟩ = 63) := by show _ = _; simp [ckE, h1, h2, h3]
        go_enter Tryz.func116, Tryz.ntmps116
        go_wp2
        go_ret
        exact ⟨ret_int hE.out.symm, bA⟩
      · have hE : Hid (ckE ⟨C, N, ⟨k, s, v⟩⟩ = ck k s v) := by show _ = _; simp [ckE, h1, h2, h3]
        generalize ck k s v = x at *
        go_enter Tryz.func116, Tryz.ntmps116
        go_wp2_with (go_at_call 137; refine (cc _).mono ?_; rintro e w2 ⟨rfl, b2⟩)
        go_ret
        exact ⟨ret_int hE.out.symm, bA.trans (b2.mono (by simp))⟩
theorem tw_take_step {L : List En} {e p : En} {j : Nat} (h : L[j]? = some p) : tw (L.take (j + 1)) e = (tw (L.take j) e || (decide (p.c = e.c) && decide (e.n ≤ p.n))) := by
  rw [List.take_add_one, h]
  exact tw_snoc _ _ _
theorem tw_mono {L : List En} {e : En} {j i : Nat} (hji : j ≤ i) (h : tw (L.take j) e = true) : tw (L.take i) e = true := by
  unfold tw at h ⊢
  rw [List.any_eq_true] at h ⊢
  obtain ⟨x, hx, h2⟩ := h
  exact ⟨x, (List.take_subset_take_left L hji) hx, h2⟩
set_option maxRecDepth 100000 in
set_option maxHeartbeats 1000000 in
theorem reflog_any (L : List En) (a : Option Addr) (c : Nat) (room : Int) (w : World) (h : SlY yE w a L.length c L) (hf : ∀ e ∈ L, e.fits) :
    Calls Tryz.prog 83 #[.slice a L.length c, .int .i64 room] w fun e w' => e = .returned (.int .i64 (lg L room)) ∧ Below w.heap.size w w' := by
  have hmx := h.max
  have hcp := h.cap
  unfold maxLen at hmx
  have H := hide h
  have HF := hide hf
  clear h hf
  by_cases hl : room < (L.length : Int)
  · have hE : Hid (lg L room = 60) := by show _ = _; simp [lg, hl]
    go_enter Tryz.func83, Tryz.ntmps83
    go_wp2
    go_ret
    exact ⟨ret_int hE.out.symm, Below.refl _ _⟩
  · have HL : Hid (lg L room = lgA (L.take 0) (L.drop 0)) := by show _ = _; simp [lg, hl]
    go_enter Tryz.func83, Tryz.ntmps83
    go_wp2
    go_loopw [5] (fun i wr => ∃ j : Nat, i = .int .i64 (j : Int) ∧ j ≤ L.length ∧ Hid (lg L room = lgA (L.take j) (L.drop j)) ∧ Below w.heap.size w wr) (fun i _ => L.length - (intOf i).toNat)
    case atStart => exact ⟨0, rfl, Nat.zero_le _, HL, Below.refl _ _⟩
    case round =>
      obtain ⟨j, rfl, hj, hL, hb⟩ := hrel
      by_cases hlt : j < L.length
      · have hg : L[j]? = some L[j] := List.getElem?_eq_getElem hlt
        have hat := lgA_at hg
        have hfj := (HF.out L[j] (List.getElem_mem hlt)).ow
        obtain ⟨q, o, ea, hq, c0, c1, c2, c3, c4⟩ := (H.out.later hb).en hg
        have HE := hide (fun W (hb : Below w.heap.size w W) => (H.out.later hb).en hg)
        generalize hee : L[j] = e at *
        subst ea
        have ce := fun W => refentry_any e.c e.n e.o.k e.o.s e.o.v hfj W
        have hA := hide hat
        clear hat
        have hsz := hb.size
        have her : er (L.take j) e = if ckE e ≠ 0 then ckE e else if tw (L.take j) e then 64 else 0 := rfl
        have hER := hide her
        clear her
        have hx0 : ckE ⟨e.c, e.n, ⟨e.o.k, e.o.s, e.o.v⟩⟩ = ckE e := rfl
        rw [hx0] at ce
        generalize ckE e = x at *
        by_cases hx : x = 0
        · subst hx
          go_wp2_with (go_at_call 116; refine (ce _).mono ?_; rintro r w1 ⟨rfl, b1⟩)
          have hb1 := hb.trans (b1.mono hsz)
          clear c0 c1 c2 c3 c4
          go_loopw [7] (fun i wr => ∃ m : Nat, i = .int .i64 (m : Int) ∧ m ≤ j ∧ Hid (tw (L.take m) e = false) ∧ Below w.heap.size w wr) (fun i _ => j - (intOf i).toNat)
          case atStart => exact ⟨0, rfl, Nat.zero_le _, by show tw _ _ = _; simp [tw], hb1⟩
          case round =>
            obtain ⟨m, rfl, hm, htw, hbm⟩ := hrel
            by_cases hlm : m < j
            · have hgm : L[m]? = some L[m] := List.getElem?_eq_getElem (by omega)
              have hst := tw_take_step (e := e) hgm
              obtain ⟨q2, o2, ea2, hq2, d0, d1, d2, d3, d4⟩ := HE.out wr hbm
              cases ea2
              obtain ⟨q3, o3, ea3, hq3, f0, f1, f2, f3, f4⟩ := (H.out.later hbm).en hgm
              cases ea3
              generalize hpp : L[m] = p at *
              rw [htw.out] at hst
              have hST := hide hst
              clear hst hpp hgm hg hee
              obtain ⟨Ce, Ne, oe⟩ := e
              obtain ⟨Cp, Np, op⟩ := p
              dsimp only at *
              by_cases hc : Cp = Ce
              · subst hc
                by_cases hn : Ne ≤ Np
                · have hE : Hid (lg L room = 64) := by
                    show _ = _
                    have ht := tw_mono (L := L) (show m + 1 ≤ j by omega) (hST.out.trans (by simp [hn]))
                    rw [hL.out, hA.out, hER.out, ht]
                    simp
                  go_wp2
                  go_quiet (fail)
                  go_wp2
                  go_ret
                  exact ⟨ret_int hE.out.symm, belN hbm nq⟩
                · have hT : Hid (tw (L.take (m + 1)) ⟨Cp, Ne, oe⟩ = false) := by show _ = _; rw [hST.out]; simp [hn]
                  have hn' : decide (Ne ≤ Np) = false := by simpa using hn
                  go_wp2
                  go_quiet (fail)
                  go_wp2
                  go_round
                  case rel => exact ⟨m + 1, by go_num, by omega, hT, belN hbm nq⟩
                  case measure => simp [intOf]; omega
              · have hT : Hid (tw (L.take (m + 1)) ⟨Ce, Ne, oe⟩ = false) := by show _ = _; rw [hST.out]; simp [hc]
                have hd : decide (Cp = Ce) = false := by simpa using hc
                have hd2 : (Cp == Ce) = false := by simpa using hc
                go_wp2
                go_quiet (fail)
                go_wp2
                go_round
                case rel => exact ⟨m + 1, by go_num, by omega, hT, belN hbm nq⟩
                case measure => simp [intOf]; omega
            · obtain rfl : m = j := by omega
              have hE : Hid (lg L room = lgA (L.take (m + 1)) (L.drop (m + 1))) := by
                show _ = _
                rw [hL.out, hA.out, hER.out, htw.out]
                simp
              go_wp2
              go_round
              case rel => exact ⟨m + 1, by go_num, by omega, hE, hbm⟩
              case measure => simp [intOf]; omega
        · have hE : Hid (lg L room = x) := by show _ = _; rw [hL.out, hA.out, hER.out]; simp [hx]
          go_wp2_with (go_at_call 116; refine (ce _).mono ?_; rintro r w1 ⟨rfl, b1⟩)
          go_ret
          exact ⟨ret_int hE.out.symm, hb.trans (b1.mono hsz)⟩
      · obtain rfl : j = L.length := by omega
        have hE := hL.out
        rw [lgA_end] at hE
        have hEh := hide hE
        clear hE
        go_wp2
        go_ret
        exact ⟨ret_int hEh.out.symm, hb⟩
end Go.Proofs.YtjfbkeommlopmaaGreatDoor
namespace Go.Proofs.YtjfbkeommlopmaaGreatDoor
open Go.RowKit Go.Maps
set_option linter.unusedVariables false
set_option linter.unusedSimpArgs false
end Go.Proofs.YtjfbkeommlopmaaGreatDoor
namespace Go.Proofs.YtjfbkeommlopmaaGreatDoor
open Go.RowKit Go.Maps
set_option linter.unusedVariables false
set_option linter.unusedSimpArgs false
end Go.Proofs.YtjfbkeommlopmaaGreatDoor
namespace Go.Proofs.YtjfbkeommlopmaaGreatDoor
open Go.RowKit Go.Maps
set_option linter.unusedVariables false
set_option linter.unusedSimpArgs false
end Go.Proofs.YtjfbkeommlopmaaGreatDoor
namespace Go.Proofs.YtjfbkeommlopmaaGreatDoor
open Go.RowKit Go.Maps
set_option linter.unusedVariables false
set_option linter.unusedSimpArgs false
end Go.Proofs.YtjfbkeommlopmaaGreatDoor
namespace Go.Proofs.YtjfbkeommlopmaaGreatDoor
open Go.RowKit Go.Maps
set_option linter.unusedVariables false
set_option linter.unusedSimpArgs false
end Go.Proofs.YtjfbkeommlopmaaGreatDoor
namespace Go.Proofs.YtjfbkeommlopmaaGreatDoor
open Go.RowKit Go.Shelf
open Classical
set_option linter.unusedVariables false
attribute [local go_sem] Oper.semAt_some
def En.val (x : En) : Value := .agg #[.int .i64 x.c, .int .i64 x.n, .int .i64 x.o.k, .int .i64 x.o.s, .string x.o.v]
theorem yieldE_nil (l : Nat) (w : World) : (binOp .eql 141 (.func (.yield l) #[] #[]) .nilFunc).run Tryz.prog w = .ok (.bool false) w := by kernel_rfl
theorem LieY.at5 {w : World} {g : Nat} {D : List En} (h : LieY yE w g 0 D) {i : Nat} {x : En} (hx : D[i]? = some x) : w.cell? ⟨g, i * 5, none⟩ = some (.int .i64 x.c) ∧ w.cell? ⟨g, i * 5 + 1, none⟩ = some (.int .i64 x.n) ∧ w.cell? ⟨g, i * 5 + 2, none⟩ = some (.int .i64 x.o.k) ∧ w.cell? ⟨g, i * 5 + 3, none⟩ = some (.int .i64 x.o.s) ∧ w.cell? ⟨g, i * 5 + 4, none⟩ = some (.string x.o.v) := by
  have h0 := h i x hx 0 _ rfl
  have h1 := h i x hx 1 _ rfl
  have h2 := h i x hx 2 _ rfl
  have h3 := h i x hx 3 _ rfl
  have h4 := h i x hx 4 _ rfl
  simp only [Nat.zero_add] at h0 h1 h2 h3 h4
  exact ⟨h0, h1, h2, h3, h4⟩
set_option maxRecDepth 100000 in
set_option maxHeartbeats 1000000 in
theorem eachO1_in (n : Nat) (hn : 1 ≤ n) (l k f g : Nat) (first : Int) (D : List En) (J Jx : Nat → World → Prop) (h1 : 1 ≤ first) (h2 : first + D.length < 9223372036854775807)
    (hY : ∀ i x W, D[i]? = some x → J i W → YieldAt Fence.wide (n - 1) Tryz.prog l #[.int .i64 (first + (i : Int)), x.val] W fun e W' => (e = .returned (.bool true) ∧ J (i + 1) W') ∨ (e = .returned (.bool false) ∧ Jx i W'))
    (hJa : ∀ i W o, J i W → J i (W.alloc o))
    (hJk : ∀ i W, J i W → LieY yE W g 0 D ∧ W.cell? ⟨f, 0, none⟩ = some (.int .i64 first) ∧ f < W.heap.size) (W : World) (hk : W.cell? ⟨k, 0, none⟩ = some (.slice (some ⟨g, 0, none⟩) D.length D.length)) (hD : D.length * 48 ≤ 140737488355328) (h0 : J 0 W) :
    CallsIn Fence.wide n Tryz.prog 147 #[.func (.yield l) #[] #[], .pointer (some ⟨k, 0, none⟩), .pointer (some ⟨f, 0, none⟩)] W fun e W' => (∃ v, e = .returned v) ∧ (J D.length W' ∨ ∃ i, i < D.length ∧ Jx i W') := by
  have hYh := hide hY
  have hJh := hide hJk
  clear hY hJk
  refine callsIn_of_wp Tryz.func147 rfl trivial ?_ rfl
  simp only [Tryz.ntmps147, List.size_toArray, List.length_cons, List.length_nil, Nat.reduceAdd, Nat.reduceSub, Array.replicate_succ, Array.replicate_zero, List.push_toArray, List.append_toArray, List.nil_append, List.cons_append]
  have q := yieldE_nil l
  gi_wp2
  gi_loopw [10] (fun i wr => ∃ k : Nat, i = .int .i64 (k : Int) ∧ k ≤ D.length ∧ J k wr) (fun i _ => D.length - (intOf i).toNat)
  case atStart => exact ⟨0, rfl, Nat.zero_le _, h0⟩
  case round =>
    obtain ⟨i, rfl, hi, hJ⟩ := hrel
    by_cases hlt : i < D.length
    · have hd := List.getElem?_eq_getElem hlt
      obtain ⟨hl, hf, hfl⟩ := hJh.out _ _ hJ
      obtain ⟨e0, e1, e2, e3, e4⟩ := hl.at5 hd
      have hq : W.heap.size = W.heap.size := rfl
      have hfa : ∀ o, (wr.alloc o).cell? ⟨f, 0, none⟩ = some (.int .i64 first) := fun o => (World.cell?_alloc_past _ _ _ hfl).trans hf
      generalize D[i] = x at *
      obtain ⟨fn, tmps, assign, body, hy, hR⟩ := hYh.out i x (wr.alloc (Obj.cells #[.int .i64 x.c, .int .i64 x.n, .int .i64 x.o.k, .int .i64 x.o.s, .string x.o.v] 28)) hd (hJa _ _ _ hJ)
      clear hd hq hl
      unfold En.val at hy
      gi_wp2
      refine hR.mono ?_
      rintro e W3 (⟨rfl, hJ3⟩ | ⟨rfl, hJ3⟩)
      · gi_wp2
        go_roundw
        case rel => exact ⟨i + 1, by simp, by omega, hJ3⟩
        case measure => simp [intOf]; omega
      · gi_wp2
        refine bodyPost_ret (results_none rfl _ _ _) rfl ?_
        exact ⟨⟨_, rfl⟩, .inr ⟨i, hlt, hJ3⟩⟩
    · have he : i = D.length := by omega
      subst he
      gi_wp2
      go_end0
      exact ⟨⟨_, rfl⟩, .inl hJ⟩
def eachPost (I : Nat → World → Prop) (Ix : Code → Nat → World → Prop) (z i : Nat) (W : World) : Exit → Act → World → Prop
  | .normal, _, W' => (W'.heap[z]? = W.heap[z]? ∧ W'.heap[z + 1]? = W.heap[z + 1]?) ∧ I (i + 1) W'
  | .ret, _, W' => (W'.heap[z]? = W.heap[z]? ∧ W'.heap[z + 1]? = W.heap[z + 1]?) ∧ Ix .ret i W'
  | .exit id, _, W' => (W'.heap[z]? = W.heap[z]? ∧ W'.heap[z + 1]? = W.heap[z + 1]?) ∧ Ix (.exit id) i W'
  | .goto t, _, W' => (W'.heap[z]? = W.heap[z]? ∧ W'.heap[z + 1]? = W.heap[z + 1]?) ∧ Ix (.goto t) i W'
  | .panic _, _, _ => False
  | .outgrown, _, _ => False
def recO (fn : FuncId) (tmps : Array Value) (ps : Array Tmp) (assign body : Code) (z : Nat) (st : LoopState) (pe : Option Code) : Loop := { state := st, pending := pe, fn, tmps, params := ps, assign, body, defers := z }
theorem over_each {n : Nat} {gg : Operand} {ps : Array Tmp} {assign body : Code} {Q : Exit → Act → World → Prop} {a : Act} {w : World} (hn : 2 ≤ n) (D : List En) (first : Int) (k f g : Nat)
    (hg : a.eval gg = .func (.func 147) #[] #[.pointer (some ⟨k, 0, none⟩), .pointer (some ⟨f, 0, none⟩)]) (hps : ps.size = 2)
    (h1 : 1 ≤ first) (h2 : first + D.length < 9223372036854775807) (hD : D.length * 48 ≤ 140737488355328)
    (hkl : k < w.heap.size) (hfl : f < w.heap.size) (hgl : g < w.heap.size)
    (hk : w.cell? ⟨k, 0, none⟩ = some (.slice (some ⟨g, 0, none⟩) D.length D.length)) (hf : w.cell? ⟨f, 0, none⟩ = some (.int .i64 first)) (hl : LieY yE w g 0 D)
    (I : Nat → World → Prop) (Ix : Code → Nat → World → Prop)
    (hI : ∀ i W W' row, I i W → W.grownBy W' row → (∀ r, row = some r → r = w.heap.size + 1) → I i W')
    (hIx : ∀ c i W W', Ix c i W → W.grownBy W' (some (w.heap.size + 1)) → Ix c i W')
    (hIk : ∀ i W, I i W → w.heap.size ≤ W.heap.size ∧ ∀ j, j = g ∨ j = k ∨ j = f → W.heap[j]? = w.heap[j]?)
    (h0 : I 0 w)
    (hround : ∀ i x W, D[i]? = some x → I i W → w.heap.size + 1 < W.heap.size →
      assign.wpIn (Fence.wide.inRound (w.heap.size + 1)) (n - 1 - 1) Tryz.prog (Exit.then (fun a₁ W₁ => (I i W₁ ∧ W₁.heap[w.heap.size]? = W.heap[w.heap.size]? ∧ W₁.heap[w.heap.size + 1]? = W.heap[w.heap.size + 1]?) ∧ ∀ W₂, I i W₂ → W₁.grownBy W₂ (some (w.heap.size + 1)) → body.wpIn (Fence.wide.inRound (w.heap.size + 1)) (n - 1 - 1) Tryz.prog (eachPost I Ix w.heap.size i W₂) a₁ W₂) (fun _ _ _ => False))
        { tmps := (ps.zip #[.int .i64 (first + (i : Int)), x.val]).foldl (fun t (p, v) => t.setIfInBounds p v) a.tmps, defers := [] } W)
    (hdone : ∀ W, I D.length W → W.heap[w.heap.size]? = some (.deferred (some [])) → Q .normal { a with defers := [{ target := .collected w.heap.size, args := #[] }] ++ a.defers } W)
    (hstop : ∀ c i W, i < D.length → Ix c i W → W.heap[w.heap.size]? = some (.deferred (some [])) → c.wpIn Fence.wide n Tryz.prog Q { a with defers := [{ target := .collected w.heap.size, args := #[] }] ++ a.defers } W) :
    (Code.rangeFunc gg ps assign body).wpIn Fence.wide n Tryz.prog Q a w := by
  refine wpIn_rangeFunc fun fn hfn => ?_
  obtain ⟨rec, hrec⟩ : ∃ rec, rec = recO fn a.tmps ps assign body w.heap.size := ⟨_, rfl⟩
  obtain ⟨W1, hW1⟩ : ∃ W1, W1 = (w.alloc (.deferred (some []))).alloc (.loop (rec .ready none)) := ⟨_, rfl⟩
  have he : (Instr.enterLoop fn a.tmps ps assign body none).run Tryz.prog w = .ok (w.heap.size + 1, [{ target := .collected w.heap.size, args := #[] }]) W1 := by
    rw [hW1, hrec]
    exact run_enterLoop_outer fn a.tmps ps assign body
  have hL1 : W1.heap[w.heap.size + 1]? = some (.loop (rec .ready none)) := by
    rw [hW1]; have := World.alloc_heap_new (w.alloc (.deferred (some []))) (.loop (rec .ready none)); rwa [World.size_alloc] at this
  have hK1 : W1.heap[w.heap.size]? = some (.deferred (some [])) := by
    rw [hW1]; exact (Below.heap_alloc _ _ _ (by simp)).trans (World.alloc_heap_new w _)
  have hI1 : I 0 W1 := by
    rw [hW1]
    exact hI _ _ _ none (hI _ _ _ none h0 (World.grownBy_alloc w _ none) (fun r e => by cases e)) (World.grownBy_alloc _ _ none) (fun r e => by cases e)
  have hkc : W1.cell? ⟨k, 0, none⟩ = some (.slice (some ⟨g, 0, none⟩) D.length D.length) := by
    rw [← hk]
    exact World.cell?_of_block (a := ⟨k, 0, none⟩) ((hIk 0 W1 hI1).2 k (.inr (.inl rfl)))
  have hres : (resolve a.eval (rangeCall gg (w.heap.size + 1)) 0).run Tryz.prog W1 = .ok { target := .fn (.func 147) #[.pointer (some ⟨k, 0, none⟩), .pointer (some ⟨f, 0, none⟩)], args := #[.func (.yield (w.heap.size + 1)) #[] #[]] } W1 := by
    simp only [resolve, hg]
    simp [go_sem]
  have eg : ∀ args w, (callFunc 147 args).run Tryz.prog w = .ok (.enter 147 args) w := enters_of Tryz.func147 (by kernel_rfl) rfl
  have hinv : (invoke (.fn (.func 147) #[.pointer (some ⟨k, 0, none⟩), .pointer (some ⟨f, 0, none⟩)]) #[.func (.yield (w.heap.size + 1)) #[] #[]]).run Tryz.prog W1 = .ok (.enter 147 #[.func (.yield (w.heap.size + 1)) #[] #[], .pointer (some ⟨k, 0, none⟩), .pointer (some ⟨f, 0, none⟩)]) W1 := by
    simp [invoke, go_sem, eg]
  refine ⟨w.heap.size + 1, [{ target := .collected w.heap.size, args := #[] }], W1, _, W1, 147, _, W1, he, hres, ?_, hinv, ?_, ?_⟩
  · intro f' _; trivial
  · intro _; omega
  refine (eachO1_in (n - 1) (by omega) (w.heap.size + 1) k f g first D
    (fun i W => I i W ∧ W.heap[w.heap.size + 1]? = some (.loop (rec .ready none)) ∧ W.heap[w.heap.size]? = some (.deferred (some [])))
    (fun i W => ∃ c, Ix c i W ∧ W.heap[w.heap.size + 1]? = some (.loop (rec .done (some c))) ∧ W.heap[w.heap.size]? = some (.deferred (some []))) h1 h2 ?_ ?_ ?_ W1 hkc hD ⟨hI1, hL1, hK1⟩).mono ?_
  · rintro i x W hx ⟨hi, hl, hk⟩
    have hlt : w.heap.size + 1 < W.heap.size := (Array.getElem?_eq_some_iff.1 hl).1
    have hy := run_yield (P := Tryz.prog) (args := #[.int .i64 (first + (i : Int)), x.val]) hl (by rw [hrec]; exact hps.symm)
    rw [hrec] at hy
    refine ⟨fn, _, assign, body, hy, roundIn_of_wpIn trivial (wpIn_mono (hround i x W hx hi hlt) fun e a1 w1 hq => ?_)⟩
    clear hy
    cases e with
    | normal =>
      obtain ⟨⟨hi1, hz0, hz1⟩, hb⟩ := hq
      have hl1 := hz1.trans hl
      have hk1 := hz0.trans hk
      have hlt1 : w.heap.size + 1 < w1.heap.size := (Array.getElem?_eq_some_iff.1 hl1).1
      refine ⟨_, run_beginRound hl1 (by rw [hrec]; rfl), ?_⟩
      have hg2 := grownBy_putObj' w1 (w.heap.size + 1) (.loop { rec .ready none with state := .busy })
      have hl2 : (w1.putObj (w.heap.size + 1) (.loop { rec .ready none with state := .busy })).heap[w.heap.size + 1]? = some (.loop { rec .ready none with state := .busy }) := World.putObj_heap_same hlt1
      have hk2 : (w1.putObj (w.heap.size + 1) (.loop { rec .ready none with state := .busy })).heap[w.heap.size]? = some (.deferred (some [])) := (World.putObj_heap_other (by omega)).trans hk1
      refine wpIn_mono (hb _ (hI _ _ _ _ hi1 hg2 (fun r e => by cases e; rfl)) hg2) fun e2 a3 W3 hp => ?_
      have fin : ∀ (jump : Option Code), (W3.heap[w.heap.size]? = (w1.putObj (w.heap.size + 1) (.loop { rec .ready none with state := .busy })).heap[w.heap.size]? ∧ W3.heap[w.heap.size + 1]? = (w1.putObj (w.heap.size + 1) (.loop { rec .ready none with state := .busy })).heap[w.heap.size + 1]?) →
          (Instr.endRound (w.heap.size + 1) jump).run Tryz.prog W3 = .ok (.bool jump.isNone) (W3.putObj (w.heap.size + 1) (.loop (rec (if jump.isNone then .ready else .done) jump))) ∧
          (W3.putObj (w.heap.size + 1) (.loop (rec (if jump.isNone then .ready else .done) jump))).heap[w.heap.size + 1]? = some (.loop (rec (if jump.isNone then .ready else .done) jump)) ∧
          (W3.putObj (w.heap.size + 1) (.loop (rec (if jump.isNone then .ready else .done) jump))).heap[w.heap.size]? = some (.deferred (some [])) := fun jump hkk => by
        have hl3 := hkk.2.trans hl2
        have := run_endRound (P := Tryz.prog) jump hl3
        rw [hrec] at this ⊢
        exact ⟨this, World.putObj_heap_same (Array.getElem?_eq_some_iff.1 hl3).1, (World.putObj_heap_other (by omega)).trans (hkk.1.trans hk2)⟩
      cases e2 with
      | normal =>
        obtain ⟨hkk, hi3⟩ := hp
        obtain ⟨hr, hl4, hk4⟩ := fin none hkk
        exact ⟨_, _, hr, .inl ⟨rfl, hI _ _ _ _ hi3 (grownBy_putObj' W3 _ _) (fun r e => by cases e; rfl), hl4, hk4⟩⟩
      | ret =>
        obtain ⟨hkk, hi3⟩ := hp
        obtain ⟨hr, hl4, hk4⟩ := fin (some .ret) hkk
        exact ⟨_, _, hr, .inr ⟨rfl, _, hIx _ _ _ _ hi3 (grownBy_putObj' W3 _ _), hl4, hk4⟩⟩
      | exit id =>
        obtain ⟨hkk, hi3⟩ := hp
        obtain ⟨hr, hl4, hk4⟩ := fin (some (.exit id)) hkk
        exact ⟨_, _, hr, .inr ⟨rfl, _, hIx _ _ _ _ hi3 (grownBy_putObj' W3 _ _), hl4, hk4⟩⟩
      | goto t =>
        obtain ⟨hkk, hi3⟩ := hp
        obtain ⟨hr, hl4, hk4⟩ := fin (some (.goto t)) hkk
        exact ⟨_, _, hr, .inr ⟨rfl, _, hIx _ _ _ _ hi3 (grownBy_putObj' W3 _ _), hl4, hk4⟩⟩
      | panic ch => exact hp.elim
      | outgrown => exact hp.elim
    | ret => exact hq.elim
    | exit id => exact hq.elim
    | goto t => exact hq.elim
    | panic ch => exact hq.elim
    | outgrown => exact hq.elim
  · rintro i W o ⟨hi, hl, hk⟩
    have hg2 := World.grownBy_alloc W o none
    exact ⟨hI _ _ _ none hi hg2 (fun r e => by cases e), (hg2.block _ (Array.getElem?_eq_some_iff.1 hl).1 nofun).trans hl, (hg2.block _ (Array.getElem?_eq_some_iff.1 hk).1 nofun).trans hk⟩
  · rintro i W ⟨hi, _, _⟩
    obtain ⟨hsz, hbl⟩ := hIk i W hi
    refine ⟨fun j x hx p u hu => ?_, ?_, by omega⟩
    · rw [← hl j x hx p u hu]
      exact World.cell?_of_block (a := ⟨g, _, none⟩) (hbl g (.inl rfl))
    · rw [← hf]
      exact World.cell?_of_block (a := ⟨f, 0, none⟩) (hbl f (.inr (.inr rfl)))
  · rintro e W2 ⟨⟨v, rfl⟩, (⟨hi, hl, hk⟩ | ⟨i, hlt, c, hi, hl, hk⟩)⟩
    · refine ⟨none, _, by have := run_endLoop (P := Tryz.prog) hl (by rw [hrec]; simp [recO]); rw [hrec] at this; exact this, ?_⟩
      exact hdone _ (hI _ _ _ _ hi (grownBy_putObj' W2 _ _) (fun r e => by cases e; rfl)) ((World.putObj_heap_other (by omega)).trans hk)
    · refine ⟨some c, _, by have := run_endLoop (P := Tryz.prog) hl (by rw [hrec]; simp [recO]); rw [hrec] at this; exact this, ?_⟩
      exact hstop c i _ hlt (hIx _ _ _ _ hi (grownBy_putObj' W2 _ _)) ((World.putObj_heap_other (by omega)).trans hk)
end Go.Proofs.YtjfbkeommlopmaaGreatDoor
namespace Go.Proofs.YtjfbkeommlopmaaGreatDoor
open Go.RowKit Go.Maps
open Classical
set_option linter.unusedVariables false
set_option linter.unusedSimpArgs false
theorem makeYw {α : Type} {Y : Lay α} (K : Y.Ok) (w : World) {ops : Array Oper} {rest : List Oper} {o : Oper} {a : Act} {Q : Exit → Act → World → Prop} (hgd : o.guard = none) (x : Operand)
    (ho : o.op = .makeSlice Y.ST x x) (n : Nat) (hx : a.eval x = .int .i64 (n : Int)) (hm : n ≤ maxLen) (hb : n * Y.by_ ≤ 281474976710656)
    (h : ∀ w', OwnY Y w.heap.size w' (.slice (some ⟨w.heap.size, 0, none⟩) n n) (List.replicate n Y.z) → Below w.heap.size w w' → wpList Tryz.prog ops Q rest (a.put o.dst (.slice (some ⟨w.heap.size, 0, none⟩) n n)) w') : wpList Tryz.prog ops Q (o :: rest) a w := by
  obtain ⟨zv, hinfo, hzc⟩ := K.info
  obtain ⟨i0, hi, hz0, hz1, hz2⟩ := info_parts hinfo
  unfold maxLen at hm
  have hsz : (i0.bytes : Int) * (n : Int) ≤ 281474976710656 := by
    have h : ((n * Y.by_ : Nat) : Int) ≤ 281474976710656 := by omega
    rw [Int.natCast_mul, Int.mul_comm] at h
    rw [hz2]
    omega
  have hr := run_make (P := Tryz.prog) w Y.ST Y.T i0 zv K.und hi hz0 .i64 .i64 n n (by omega) (Int.le_refl _) hsz (by omega)
  rw [Int.toNat_natCast, hz1] at hr
  refine wpList_plain hgd fun K' hK' => ?_
  unfold Oper.wp execOp
  simp only [ho, hx, Sem.run_bind, Sem.run_pure, hr, Result.andThen_ok]
  refine hK' _ _ (h _ ?_ ((Below.refl _ _).alloc (Nat.le_refl _) _))
  unfold OwnY
  rw [List.length_replicate, ← madeY K hzc]
  exact World.ownsRow_lit w _ n (Nat.le_refl _) (by unfold maxLen; omega) (size_madeCells _ _)
def tot (L : List (SV En)) : Nat := (L.map (fun x => x.D.length)).sum
def flat (L : List (SV En)) : List En := L.flatMap SV.D
theorem flat_length : ∀ L : List (SV En), (flat L).length = tot L
  | [] => rfl
  | x :: r => by simp only [flat, tot, List.flatMap_cons, List.length_append, List.map_cons, List.sum_cons]; have := flat_length r; unfold flat tot at this; rw [this]
theorem tot_step {L : List (SV En)} {j : Nat} {x : SV En} (h : L[j]? = some x) : tot (L.take (j + 1)) = tot (L.take j) + x.D.length := by
  rw [List.take_add_one, h]; simp [tot]
theorem flat_step {L : List (SV En)} {j : Nat} {x : SV En} (h : L[j]? = some x) : flat (L.take (j + 1)) = flat (L.take j) ++ x.D := by
  rw [List.take_add_one, h]; simp [flat]
theorem tot_le (L : List (SV En)) (j : Nat) : tot (L.take j) ≤ tot L := by
  have : tot L = tot (L.take j) + tot (L.drop j) := by
    conv => lhs; rw [← List.take_append_drop j L]
    simp only [tot, List.map_append, List.sum_append]
  omega
theorem put_next {α : Type} (P D : List α) (z : α) (r : Nat) : put (P ++ List.replicate r z) P.length D = (P ++ D) ++ List.replicate (r - D.length) z := by
  unfold put
  rw [List.take_append_of_le_length (Nat.le_refl _), List.take_length, List.drop_append, List.drop_of_length_le (by omega), Nat.add_sub_cancel_left, List.drop_replicate, List.nil_append]
theorem SlY.sl1 {w : World} {a : Option Addr} {n c : Nat} {L : List (SV En)} (h : SlY zE w a n c L) {j : Nat} {x : SV En} (hx : L[j]? = some x) : ∃ q o, a = some ⟨q, o, none⟩ ∧ q < w.heap.size ∧ w.cell? ⟨q, o + j, none⟩ = some (.slice x.a x.D.length x.c) := by
  obtain ⟨q, o, ea, hq, hl⟩ := h.place (by rintro rfl; simp at hx)
  have := hl j x hx 0 _ rfl
  have e : o + j * zE.k + 0 = o + j := by show o + j * 1 + 0 = o + j; omega
  rw [e] at this
  exact ⟨q, o, ea, hq, this⟩
set_option maxRecDepth 100000 in
set_option maxHeartbeats 1000000 in
theorem lay_any (L : List (SV En)) (a : Option Addr) (n c : Nat) (w : World) (h : SlY zE w a n c L) (hx : ∀ x ∈ L, SlY yE w x.a x.D.length x.c x.D) (ht : tot L * 48 ≤ 281474976710656) :
    Calls Tryz.prog 146 #[.slice a n c] w fun e w' => e = .returned (.slice (some ⟨w.heap.size, 0, none⟩) (tot L) (tot L)) ∧ OwnY yE w.heap.size w' (.slice (some ⟨w.heap.size, 0, none⟩) (tot L) (tot L)) (flat L) ∧ Below w.heap.size w w' := by
  have hmx := h.max
  have hcp := h.cap
  have hln := h.len
  unfold maxLen at hmx
  have H := hide h
  have HX := hide hx
  have HN := hide hln
  clear h hx hln
  obtain ⟨T, hT⟩ : ∃ T, T = tot L := ⟨_, rfl⟩
  have HT := hide hT
  rw [← hT] at ht ⊢
  clear hT
  go_enter Tryz.func146, Tryz.ntmps146
  go_wp2
  go_loopw [12, 3] (fun i s wr => ∃ j A : Nat, i = .int .i64 (j : Int) ∧ j ≤ n ∧ s = .int .i64 (A : Int) ∧ Hid (A = tot (L.take j)) ∧ wr = w) (fun i _ _ => n - (intOf i).toNat)
  case atStart => exact ⟨0, 0, rfl, Nat.zero_le _, rfl, by show 0 = tot (L.take 0); simp [tot], rfl⟩
  case round =>
    obtain ⟨j, A, rfl, hj, rfl, hA, e1⟩ := hrel
    have e1 := e1.symm
    subst e1
    by_cases hlt : j < n
    · have hjl : j < L.length := by rw [HN.out]; exact hlt
      have hd : L[j]? = some L[j] := List.getElem?_eq_getElem hjl
      obtain ⟨q, o, rfl, hq, hc⟩ := H.out.sl1 hd
      have hst := tot_step hd
      have hle := tot_le L (j + 1)
      rw [hst, ← hA.out, ← HT.out] at hle
      have hb : A + L[j].D.length ≤ 5864062014806 := by omega
      have HS : Hid (A + L[j].D.length = tot (L.take (j + 1))) := by show _ = _; rw [hst, ← hA.out]
      clear hst hle hA hd
      generalize L[j] = x at *
      obtain ⟨xa, xc, xD⟩ := x
      dsimp only at hc hb HS
      generalize xD.length = m at *
      go_wp2
      go_round
      case rel => exact ⟨j + 1, A + m, by go_num, by omega, by go_num, HS, trivial⟩
      case measure => simp [intOf]; omega
    · obtain rfl : j = n := by omega
      have hA2 : A = T := by rw [hA.out, HT.out, List.take_of_length_le (by rw [HN.out]; exact Nat.le_refl _)]
      subst hA2
      clear hA
      go_wp2_with (at_make; go_must (refine makeYw kE _ rfl (.tmp 21) rfl A rfl (by unfold maxLen; omega) ht ?zk))
      intro w1 o1 b1
      have HO : Hid (OwnY yE w.heap.size w1 (.slice (some ⟨w.heap.size, 0, none⟩) A A) (flat (L.take 0) ++ List.replicate (A - 0) yE.z)) := by
        show OwnY _ _ _ _ _
        simpa [flat] using o1
      clear o1
      have HK : Hid (tot L = A) := HT.out.symm
      clear HT
      go_wp2
      go_loopw [25, 7] (fun i s ws => ∃ j2 B : Nat, i = .int .i64 (j2 : Int) ∧ j2 ≤ j ∧ s = .int .i64 (B : Int) ∧ Hid (B = tot (L.take j2)) ∧ Hid (OwnY yE w.heap.size ws (.slice (some ⟨w.heap.size, 0, none⟩) A A) (flat (L.take j2) ++ List.replicate (A - B) yE.z)) ∧ Below w.heap.size w ws) (fun i _ _ => j - (intOf i).toNat)
      case atStart => exact ⟨0, 0, rfl, Nat.zero_le _, rfl, by show 0 = tot (L.take 0); simp [tot], HO, b1⟩
      case round =>
        obtain ⟨j2, B, rfl, hj2, rfl, hB, hO, hb⟩ := hrel
        have hsz := hb.size
        by_cases hlt2 : j2 < j
        · have hjl : j2 < L.length := by rw [HN.out]; exact hlt2
          have hd : L[j2]? = some L[j2] := List.getElem?_eq_getElem hjl
          obtain ⟨q, o, rfl, hq, hc⟩ := (H.out.later hb).sl1 hd
          have hxs := (HX.out _ (List.getElem_mem hjl)).later hb
          have hst := tot_step hd
          have hfs := flat_step hd
          have hle := tot_le L (j2 + 1)
          rw [hst, ← hB.out, HK.out] at hle
          have HS : Hid (B + L[j2].D.length = tot (L.take (j2 + 1))) := by show _ = _; rw [hst, ← hB.out]
          have HP : Hid (put (flat (L.take j2) ++ List.replicate (A - B) yE.z) B L[j2].D = flat (L.take (j2 + 1)) ++ List.replicate (A - (B + L[j2].D.length)) yE.z) := by
            show _ = _
            have hl2 : (flat (L.take j2)).length = B := by rw [flat_length, hB.out]
            have := put_next (flat (L.take j2)) L[j2].D yE.z (A - B)
            rw [hl2] at this
            rw [this, hfs, Nat.sub_sub]
          clear hst hB hd hfs
          generalize L[j2] = x at *
          obtain ⟨xa, xc, xD⟩ := x
          dsimp only at hc hle HS HP hxs
          generalize hm : xD.length = m at *
          have HM := hide hm
          have HXS := hide hxs
          clear hm hxs
          have hbb : (B : Int) + (m : Int) ≤ 5864062014806 := by omega
          by_cases hBA : B = A
          · obtain rfl : m = 0 := by omega
            obtain rfl : xD = [] := List.eq_nil_of_length_eq_zero HM.out
            subst hBA
            have HP2 : Hid (put (flat (L.take j2) ++ List.replicate (B - B) yE.z) 0 [] = flat (L.take (j2 + 1)) ++ List.replicate (B - (B + 0)) yE.z) := by
              show _ = _
              rw [← HP.out]
              simp [put]
            go_wp2_with (refine copyY kE _ rfl (.tmp 32) (.tmp 33) rfl w.heap.size w.heap.size 0 0 0 B xc 0 xa _ [] rfl rfl hO.out HXS.out (by omega) (by omega) ?zc)
            intro w2 o2 u2 s2
            have o2 : OwnY yE w.heap.size w2 (Value.slice (some ⟨w.heap.size, 0, none⟩) B B) (flat (L.take (j2 + 1)) ++ List.replicate (B - (B + 0)) yE.z) := by
              rw [← HP2.out]
              simpa using o2
            have b2 : Below w.heap.size w w2 := hb.trans (u2.below hsz (fun k e => by omega))
            go_wp2
            go_round
            case rel => exact ⟨j2 + 1, B + 0, by go_num, by omega, by go_num, HS, hide o2, b2⟩
            case measure => simp [intOf]; omega
          · have hlt3 : B < A := by omega
            go_wp2_with (refine copyY kE _ rfl (.tmp 32) (.tmp 33) rfl w.heap.size w.heap.size (A - B) (A - B) B A xc m xa _ xD rfl rfl hO.out HXS.out (by omega) (by omega) ?zd)
            intro w2 o2 u2 s2
            rw [HP.out] at o2
            have b2 : Below w.heap.size w w2 := hb.trans (u2.below hsz (fun k e => by omega))
            go_wp2
            go_round
            case rel => exact ⟨j2 + 1, B + m, by go_num, by omega, by go_num, HS, hide o2, b2⟩
            case measure => simp [intOf]; omega
        · obtain rfl : j2 = j := by omega
          have hA2 : B = A := by rw [hB.out, ← HK.out, List.take_of_length_le (by rw [HN.out]; exact Nat.le_refl _)]
          subst hA2
          have hO2 := hO.out
          rw [Nat.sub_self, List.replicate_zero, List.append_nil, List.take_of_length_le (by rw [HN.out]; exact Nat.le_refl _)] at hO2
          have hO3 := hide hO2
          clear hO2 hO hB
          go_wp2
          go_ret
          exact ⟨rfl, hO3.out, hb⟩
theorem SlY.empty {α : Type} (Y : Lay α) (w : World) (a : Option Addr) : SlY Y w a 0 0 [] := ⟨rfl, Nat.le_refl _, by unfold maxLen; omega, fun _ => ⟨rfl, rfl⟩, fun x _ => .inl rfl⟩
theorem SlY.cut {α : Type} {Y : Lay α} {w : World} {q o n c : Nat} {l : List α} (hq : q < w.heap.size) (hl : LieY Y w q o l) (hn : l.length = n) (s m p : Nat) (hs : s < m) (hm : m ≤ n) (hp : m - s ≤ p) (hp2 : p ≤ maxLen) : SlY Y w (some ⟨q, o + s * Y.k, none⟩) (m - s) p ((l.take m).drop s) :=
  ⟨by rw [List.length_drop, List.length_take]; omega, hp, hp2, (fun e => by cases e), fun x hx => by
    cases hx
    refine .inr ⟨q, _, rfl, hq, fun i y hy j u hu => ?_⟩
    rw [List.getElem?_drop, List.getElem?_take] at hy
    split at hy
    · have := hl _ _ hy j u hu
      rw [show o + s * Y.k + i * Y.k + j = o + (s + i) * Y.k + j by rw [Nat.add_mul]; omega]
      exact this
    · cases hy⟩
set_option maxRecDepth 100000 in
set_option maxHeartbeats 1000000 in
theorem lay_one (D : List En) (a : Option Addr) (n c : Nat) (w : World) (h : SlY yE w a n c D) (hb : n * 48 ≤ 140737488355328) (T : TypeId) :
    Calls Tryz.prog 146 #[.slice (some ⟨w.heap.size, 0, none⟩) 1 1] (w.alloc (.cells #[.slice a n c] T)) fun e w' => e = .returned (.slice (some ⟨w.heap.size + 1, 0, none⟩) n n) ∧ OwnY yE (w.heap.size + 1) w' (.slice (some ⟨w.heap.size + 1, 0, none⟩) n n) D ∧ Below (w.heap.size + 1) (w.alloc (.cells #[.slice a n c] T)) w' := by
  have hln := h.len
  have hx : tot [(⟨a, c, D⟩ : SV En)] = n := by simp [tot, hln]
  have hy : flat [(⟨a, c, D⟩ : SV En)] = D := by simp [flat]
  have := lay_any [⟨a, c, D⟩] (some ⟨w.heap.size, 0, none⟩) 1 1 (w.alloc (.cells #[.slice a n c] T)) (by
    have := sl_box (Y := zE) w ⟨a, c, D⟩ T
    simp only [zE, yS, hln] at this
    exact this) (fun x hx => by
      simp at hx
      subst hx
      dsimp only
      rw [hln]
      exact h.later ((Below.refl _ _).alloc (Nat.le_refl _) _)) (by rw [hx]; omega)
  rw [hx, hy, World.size_alloc] at this
  exact this
structure Ea (w : World) (s n : Nat) (D : List En) (g k f : Nat) (w' : World) : Prop where
  gb : w.heap.size ≤ g ∧ w.heap.size ≤ k ∧ w.heap.size ≤ f
  lt : g < w'.heap.size ∧ k < w'.heap.size ∧ f < w'.heap.size
  kc : w'.cell? ⟨k, 0, none⟩ = some (.slice (some ⟨g, 0, none⟩) (n - s) (n - s))
  fc : w'.cell? ⟨f, 0, none⟩ = some (.int .i64 ((s : Int) + 1))
  row : OwnY yE w.heap.size w' (.slice (some ⟨g, 0, none⟩) (n - s) (n - s)) (D.drop s)
  bel : Below w.heap.size w w'
set_option maxRecDepth 100000 in
set_option maxHeartbeats 1000000 in
theorem eachO_any (D : List En) (a : Option Addr) (n c : Nat) (fr : Int) (s : Nat) (hs : s ≤ n) (hmm : min (max fr 1) ((n : Int) + 1) = (s : Int) + 1) (w : World) (h : SlY yE w a n c D) (hb : n * 48 ≤ 140737488355328) :
    Calls Tryz.prog 135 #[.slice a n c, .int .i64 fr] w fun e w' => ∃ g k f, e = .returned (.func (.func 147) #[] #[.pointer (some ⟨k, 0, none⟩), .pointer (some ⟨f, 0, none⟩)]) ∧ Ea w s n D g k f w' := by
  have hmx := h.max
  have hcp := h.cap
  have hln := h.len
  unfold maxLen at hmx
  obtain ⟨WF, hWF⟩ : ∃ WF, w.alloc (Obj.cells #[Value.int IntKind.i64 ((s : Int) + 1)] 3) = WF := ⟨_, rfl⟩
  have zF : WF.heap.size = w.heap.size + 1 := by rw [← hWF]; simp
  have bF : Below w.heap.size w WF := by rw [← hWF]; exact (Below.refl _ _).alloc (Nat.le_refl _) _
  have cF : WF.cell? ⟨w.heap.size, 0, none⟩ = some (.int .i64 ((s : Int) + 1)) := by rw [← hWF]; exact World.cell?_alloc_at _ _ _ _ rfl
  have HF := hide hWF
  have fin : ∀ (w2 : World), OwnY yE (WF.heap.size + 1) w2 (.slice (some ⟨WF.heap.size + 1, 0, none⟩) (n - s) (n - s)) (D.drop s) → Below WF.heap.size WF w2 → WF.heap.size + 1 < w2.heap.size → Ea w s n D (WF.heap.size + 1) w2.heap.size w.heap.size (w2.alloc (Obj.cells #[.slice (some ⟨WF.heap.size + 1, 0, none⟩) (n - s) (n - s)] 34)) := fun w2 o2 b2 z2 => by
    refine ⟨by omega, by simp; omega, World.cell?_alloc_at _ _ _ _ rfl, ?_, (o2.low (by omega)).alloc _, ?_⟩
    · rw [World.cell?_alloc_past _ _ _ (by show w.heap.size < w2.heap.size; omega)]
      exact (b2.cell (p := ⟨w.heap.size, 0, none⟩) (by show w.heap.size < _; omega)).trans cF
    · exact (bF.trans (b2.mono (by omega))).alloc (by omega) _
  have HI := hide fin
  have HZ := hide zF
  clear hWF fin zF
  by_cases hn : s = n
  · subst hn
    have hd : D.drop s = [] := List.drop_of_length_le (by omega)
    have HE : Hid (∀ x, SlY yE WF x 0 0 []) := fun x => SlY.empty yE WF x
    have H0 : Hid (s - s = 0) := Nat.sub_self s
    have HJ : Hid (∀ (w2 : World), OwnY yE (WF.heap.size + 1) w2 (.slice (some ⟨WF.heap.size + 1, 0, none⟩) 0 0) [] → Below WF.heap.size WF w2 → WF.heap.size + 1 < w2.heap.size → Ea w s s D (WF.heap.size + 1) w2.heap.size w.heap.size (w2.alloc (Obj.cells #[.slice (some ⟨WF.heap.size + 1, 0, none⟩) 0 0] 34))) := by
      have := HI.out
      rw [hd, H0.out] at this
      exact this
    clear hd HI
    have CC := hide (fun (x : Option Addr) (T : TypeId) => lay_one [] x 0 0 WF (HE.out x) (by omega) T)
    cases a with
    | none =>
      obtain ⟨rfl, rfl⟩ := h.nil rfl
      clear h hln
      have hm0 : min (max fr 1) 1 = 1 := by omega
      have HF1 : Hid (w.alloc (Obj.cells #[Value.int IntKind.i64 1] 3) = WF) := HF.out
      clear hmm HF
      go_enter Tryz.func135, Tryz.ntmps135
      go_wp2_with fail
      rw [HF1.out, ← HZ.out]
      refine (CC.out none _).mono ?_
      rintro e w2 ⟨rfl, o2, b2⟩
      have z2 := (o2.blk _ rfl).2
      have b3 : Below WF.heap.size WF w2 := ((Below.refl _ _).alloc (Nat.le_refl _) _).trans (b2.mono (Nat.le_succ _))
      clear CC HF1 HZ
      go_wp2
      go_ret
      exact ⟨_, _, _, rfl, HJ.out w2 o2 b3 z2⟩
    | some x =>
      clear h hln
      go_enter Tryz.func135, Tryz.ntmps135
      go_wp2_with fail
      rw [HF.out, ← HZ.out]
      refine (CC.out (some x) _).mono ?_
      rintro e w2 ⟨rfl, o2, b2⟩
      have z2 := (o2.blk _ rfl).2
      have b3 : Below WF.heap.size WF w2 := ((Below.refl _ _).alloc (Nat.le_refl _) _).trans (b2.mono (Nat.le_succ _))
      clear CC HF HZ
      go_wp2
      go_ret
      exact ⟨_, _, _, rfl, HJ.out w2 o2 b3 z2⟩
  · obtain ⟨q, o, rfl, hq, hl⟩ := h.place (by rintro rfl; simp at hln; omega)
    have h1 : s < n := by omega
    have hS : SlY yE w (some ⟨q, o + s * 5, none⟩) (n - s) (n - s) (D.drop s) := by
      have := SlY.cut (c := c) hq hl hln s n (n - s) h1 (Nat.le_refl _) (Nat.le_refl _) (by unfold maxLen; omega)
      rw [List.take_of_length_le (by omega)] at this
      exact this
    have CC := hide (lay_one (D.drop s) (some ⟨q, o + s * 5, none⟩) (n - s) (n - s) WF (hS.later bF) (by omega) 34)
    clear h hS hl hln
    go_enter Tryz.func135, Tryz.ntmps135
    go_wp2_with fail
    rw [HF.out, ← HZ.out]
    refine CC.out.mono ?_
    rintro e w2 ⟨rfl, o2, b2⟩
    have z2 := (o2.blk _ rfl).2
    have b3 : Below WF.heap.size WF w2 := ((Below.refl _ _).alloc (Nat.le_refl _) _).trans (b2.mono (Nat.le_succ _))
    clear CC HF HZ
    go_wp2
    go_ret
    exact ⟨_, _, _, rfl, HI.out w2 o2 b3 z2⟩
theorem eachO_one (D : List En) (a : Option Addr) (n c : Nat) (w : World) (h : SlY yE w a n c D) (hb : n * 48 ≤ 140737488355328) :
    Calls Tryz.prog 135 #[.slice a n c, .int .i64 1] w fun e w' => ∃ g k f, e = .returned (.func (.func 147) #[] #[.pointer (some ⟨k, 0, none⟩), .pointer (some ⟨f, 0, none⟩)]) ∧ Ea w 0 n D g k f w' :=
  eachO_any D a n c 1 0 (Nat.zero_le _) (by show min (max 1 1) _ = (0 : Int) + 1; omega) w h hb
end Go.Proofs.YtjfbkeommlopmaaGreatDoor
namespace Go.Proofs.YtjfbkeommlopmaaGreatDoor
open Go.RowKit Go.Shelf
open Classical
set_option linter.unusedVariables false
set_option linter.unusedSimpArgs false
attribute [local go_sem] Oper.semAt_some
theorem up_row {S : Nat → Prop} {w W W' : World} {row : Option Nat} (h : Upd S w W) (hg : W.grownBy W' row) (hr : ∀ r, row = some r → r = w.heap.size + 1) : Upd S w W' := h.grownBy hg (fun k e hk => by have := hr k e; omega)
end Go.Proofs.YtjfbkeommlopmaaGreatDoor
namespace Go.Proofs.YtjfbkeommlopmaaGreatDoor
open Go.RowKit Go.Shelf
open Classical
set_option linter.unusedVariables false
variable {P : Program} {ops : Array Oper} {md : Region.Mode} {C : World → Prop}
def noDefer (o : Oper) : Bool := match o.op with | .defer _ => false | _ => true
theorem noDefer_ne {o : Oper} (h : noDefer o = true) (c : Call) : o.op ≠ .defer c := fun e => by simp [noDefer, e] at h
theorem opIn_of_quiet {l n : Nat} {o : Oper} {a : Act} {K : Act → Prop} {K' : Act → World → Prop} {Q' : Exit → Act → World → Prop} {w : World} (hnd : noDefer o = true) (hw : C w) (h : ∀ a w', C w' → K a → K' a w')
    (hh : o.quiet P a C K) : o.wpIn (Fence.wide.inRound l) n P a w K' Q' := by
  obtain ⟨v, h1, h2⟩ := hh
  have h3 := h1 w hw
  unfold Oper.quietAt at h3
  unfold Oper.wpIn
  refine ⟨fun _ _ => trivial, ?_⟩
  rw [Fence.inRound_round, Oper.semAt_some _ _ _ (noDefer_ne hnd)]
  generalize (execOp a.eval o).run P w = r at *
  cases r with
  | ok x w' =>
    cases x <;> simp only [Oper.quietUpon] at h3 <;> simp only [Oper.uponIn]
    case value u =>
      obtain ⟨e1, e2⟩ := h3
      rw [e1, e2]
      exact h _ _ hw h2
    case skip =>
      obtain ⟨e1, e2⟩ := h3
      rw [e1, ← e2]
      exact h _ _ hw h2
    case enter f args =>
      obtain ⟨e1, hc⟩ := h3
      rw [e1]
      refine ⟨fun h => (by cases h), CallsIn.inRound l (callsIn_wide.2 (hc.mono fun e w'' hq => ?_))⟩
      obtain ⟨he, hw''⟩ := hq
      subst he
      exact h _ _ hw'' h2
  | halt x w' => simp only [Oper.quietUpon] at h3
theorem wpOpIn_of_qOpR {l n i : Nat} {a : Act} {K : Act → Prop} {K' : Act → World → Prop} {Q' : Exit → Act → World → Prop} {w : World} (hnd : ∀ (i : Nat) (o : Oper), ops[i]? = some o → noDefer o = true) (hC : C w) (h : ∀ a w', C w' → K a → K' a w')
    (hh : qOp P ops C i K a) : wpOpIn (Fence.wide.inRound l) n P ops Q' i K' a w := by
  unfold qOp at hh
  unfold wpOpIn
  split
  · rename_i ho; simp only [ho] at hh; exact h _ _ hC hh
  · rename_i o ho
    simp only [ho] at hh
    split
    · rename_i hw; simp only [hw, if_true] at hh; exact opIn_of_quiet (hnd _ _ ho) hC h hh
    · rename_i hw; simp only [hw] at hh; exact ⟨fun _ _ => trivial, h _ _ hC hh⟩
theorem wpAnyIn_of_quietR {l n : Nat} {Q : Act → Prop} {Q' : Exit → Act → World → Prop} (hnd : ∀ (i : Nat) (o : Oper), ops[i]? = some o → noDefer o = true) (hQ : ∀ a w, C w → Q a → Q' .normal a w) : ∀ (fuel : Nat) (listed : Array Bool) (a : Act) (w : World), C w →
    wpAnyQ P md ops C Q fuel listed a → wpAnyIn (Fence.wide.inRound l) n P md ops Q' fuel listed a w
  | 0, _, _, _, hw, h => ⟨h.1, hQ _ _ hw h.2⟩
  | fuel + 1, _, _, _, hw, h => ⟨fun h0 => hQ _ _ hw (h.1 h0), fun i hi => wpOpIn_of_qOpR hnd hw (fun a' w' hw' => wpAnyIn_of_quietR hnd hQ fuel _ a' w' hw') (h.2 i hi)⟩
theorem region_round {l n id : Nat} {Q : Exit → Act → World → Prop} {a : Act} {w : World} {os : List Oper} (hm : P.follows .mixedOrders = true) (hB : Region.lexB .any os.toArray = true) (hnd : os.all noDefer = true)
    (h : wpQuiet P os.toArray (fun w' => ∃ n, w' = w.drewN n) (fun a' => ∀ w', (∃ n, w' = w.drewN n) → Q .normal a' w') os a) : (Code.region id os.toArray true).wpIn (Fence.wide.inRound l) n P Q a w := by
  simp only [Region.lexB, Bool.and_eq_true] at hB
  refine wpIn_region_any hm (wpAnyIn_of_quietR (C := fun w' => ∃ n, w' = w.drewN n) (Q := fun a' => ∀ w', (∃ n, w' = w.drewN n) → Q .normal a' w') ?_ (fun _ w' hw' h => h w' hw') _ _ _ _ ⟨1, rfl⟩ ?_)
  · intro i o ho
    rw [List.getElem?_toArray] at ho
    exact List.all_eq_true.1 hnd o (List.mem_of_getElem? ho)
  · have := wpAnyQ_lex (C := fun w' => ∃ n, w' = w.drewN n) (md := .any) hB.1 os.toArray.toList 0 (Array.replicate os.toArray.size false) a (by simp) (by simpa using hB.2) (by simpa using h)
    simpa using this
end Go.Proofs.YtjfbkeommlopmaaGreatDoor
namespace Go.Proofs.YtjfbkeommlopmaaGreatDoor
open Go.RowKit Go.Shelf
open Classical
set_option linter.unusedVariables false
set_option linter.unusedSimpArgs false
attribute [local go_sem] Oper.semAt_some
def enb (a b : En) : Bool := decide (a.c = b.c) && (decide (a.n = b.n) && (decide (a.o.k = b.o.k) && (decide (a.o.s = b.o.s) && decide (a.o.v.data = b.o.v.data))))
theorem enb_iff (a b : En) : enb a b = true ↔ a = b := by
  rcases a with ⟨c, n, ⟨k, s, ⟨v⟩⟩⟩
  rcases b with ⟨c', n', ⟨k', s', ⟨v'⟩⟩⟩
  simp only [enb, Bool.and_eq_true, decide_eq_true_eq, En.mk.injEq, Opn.mk.injEq, ByteArray.mk.injEq]
end Go.Proofs.YtjfbkeommlopmaaGreatDoor
namespace Go.Proofs.YtjfbkeommlopmaaGreatDoor
open Go.RowKit
open Classical
set_option linter.unusedVariables false
def Arr (w : World) (g : Nat) (t : TypeId) (xs : List Value) : Prop := w.ownsRow 0 t 1 (.slice (some ⟨g, 0, none⟩) xs.length xs.length) xs.length xs
theorem Arr.new (w : World) (t : TypeId) (n : Nat) (z : Value) (hn : n ≤ 1024) : Arr (w.alloc (.cells (Array.replicate n z) t)) w.heap.size t (List.replicate n z) :=
  ⟨by simp, .inr ⟨w.heap.size, n, Array.replicate n z, by simp, Nat.zero_le _, (MapKept.heap_alloc w _).1, by simp, by unfold maxLen; omega, by simp, by simp⟩⟩
theorem Arr.cell {w : World} {g : Nat} {t : TypeId} {xs : List Value} (h : Arr w g t xs) {i : Nat} {u : Value} (hi : xs[i]? = some u) : w.cell? ⟨g, i, none⟩ = some u := by
  have := World.ownsRow.cells h (g := g) rfl i u hi
  rw [Addr.add_lit, Nat.zero_add] at this
  exact this
theorem Arr.free {w : World} {g : Nat} {t : TypeId} {xs : List Value} (h : Arr w g t xs) (i : Nat) : w.frozen? ⟨g, i, none⟩ = false := World.ownsRow.frozenAt h i
theorem Arr.set {w : World} {g : Nat} {t : TypeId} {xs : List Value} (h : Arr w g t xs) (i : Nat) (u : Value) : Arr (w.setCell ⟨g, i, none⟩ u) g t (xs.set i u) := by
  unfold Arr at *
  rw [List.length_set]
  exact (World.ownsRow.stored h i u).1
theorem Arr.upd {S : Nat → Prop} {w w' : World} {g : Nat} {t : TypeId} {xs : List Value} (h : Arr w g t xs) (u : Upd S w w') (hs : ¬ S g) : Arr w' g t xs := by
  obtain ⟨h1, h2⟩ := h
  refine ⟨h1, ?_⟩
  rcases h2 with ⟨e, _⟩ | ⟨g', cap, cur, e1, e2, e3, r⟩
  · cases e
  · have e0 := e1
    injection e1 with e1
    injection e1 with e1
    injection e1 with e1
    subst e1
    refine .inr ⟨g, cap, cur, e0, e2, ?_, r⟩
    rw [u.block g (Array.getElem?_eq_some_iff.1 e3).1 hs]
    exact e3
theorem Arr.lt {w : World} {g : Nat} {t : TypeId} {xs : List Value} (h : Arr w g t xs) : g < w.heap.size := by
  rcases h.2 with ⟨e, _⟩ | ⟨g', cap, cur, e1, e2, e3, r⟩
  · cases e
  · injection e1 with e1
    injection e1 with e1
    injection e1 with e1
    subst e1
    exact (Array.getElem?_eq_some_iff.1 e3).1
end Go.Proofs.YtjfbkeommlopmaaGreatDoor
namespace Go.Proofs.YtjfbkeommlopmaaGreatDoor
open Go.RowKit Go.Maps
open Classical
set_option linter.unusedVariables false
set_option linter.unusedSimpArgs false
theorem SlY.rw {w : World} {a : Option Addr} {n c : Nat} {L : List Rw} (h : SlY yR w a n c L) {j : Nat} {x : Rw} (hx : L[j]? = some x) : ∃ q o, a = some ⟨q, o, none⟩ ∧ q < w.heap.size ∧ w.cell? ⟨q, o + j * 7, none⟩ = some (.int .i64 x.c) ∧ w.cell? ⟨q, o + j * 7 + 1, none⟩ = some (.int .i64 x.n) ∧ w.cell? ⟨q, o + j * 7 + 2, none⟩ = some (.int .i64 x.p) ∧ w.cell? ⟨q, o + j * 7 + 3, none⟩ = some (.bool x.d) ∧ w.cell? ⟨q, o + j * 7 + 4, none⟩ = some (.int .i64 x.r.1) ∧ w.cell? ⟨q, o + j * 7 + 5, none⟩ = some (.int .i64 x.r.2.1) ∧ w.cell? ⟨q, o + j * 7 + 6, none⟩ = some (.string x.r.2.2) := by
  obtain ⟨q, o, ea, hq, hl⟩ := h.place (by rintro rfl; simp at hx)
  exact ⟨q, o, ea, hq, hl j x hx 0 _ rfl, hl j x hx 1 _ rfl, hl j x hx 2 _ rfl, hl j x hx 3 _ rfl, hl j x hx 4 _ rfl, hl j x hx 5 _ rfl, hl j x hx 6 _ rfl⟩
theorem Arr.kind {w : World} {g : Nat} {t : TypeId} {xs : List Value} (h : Arr w g t xs) : ∀ es c, w.heap[g]? ≠ some (.map es c) := fun es c e' => by
  rcases h.2 with ⟨e, _⟩ | ⟨g', cap, cur, e1, e2, e3, r⟩
  · cases e
  · injection e1 with e1
    injection e1 with e1
    injection e1 with e1
    subst e1
    rw [e'] at e3
    cases e3
theorem Arr.drew {w : World} {g : Nat} {t : TypeId} {xs : List Value} (h : Arr w g t xs) : Arr w.drew g t xs := World.ownsRow.drew h
theorem Arr.later {w w' : World} {g : Nat} {t : TypeId} {xs : List Value} (h : Arr w g t xs) (hb : Below w.heap.size w w') : Arr w' g t xs := h.upd (S := fun _ => False) (Upd.of_below hb) id
end Go.Proofs.YtjfbkeommlopmaaGreatDoor
