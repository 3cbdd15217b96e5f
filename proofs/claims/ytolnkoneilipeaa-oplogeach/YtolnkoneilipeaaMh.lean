import Derived.Test.YtolnkoneilipeaaGMa
import Derived.Test.YtolnkoneilipeaaGLo
namespace Go.Proofs.Ytolnkoneilipeaa
open Go.RowKit
open Classical
set_option linter.unusedVariables false

theorem run_alloc_info {t : TypeId} {cs : Array Value} {n : Nat} (h : (Try.prog.info? t).map (fun i => (i.zero, i.size)) = some (some (.agg cs), n)) (w : World) : (Instr.alloc t true (.tuple #[])).run Try.prog w = .ok (.pointer (some ⟨w.heap.size, 0, none⟩)) (w.alloc (.cells cs t)) := by
  cases hi : Try.prog.info? t with
  | none => rw [hi] at h; cases h
  | some i =>
    rw [hi] at h
    simp at h
    simp [Instr.alloc, zeroValue, typeInfo, hi, h.1, Value.cells, go_sem]
/-- An array in a block of its own. -/
def Arr (w : World) (g : Nat) (t : TypeId) (xs : List Value) : Prop := w.ownsRow 0 t 1 (.slice (some ⟨g, 0, none⟩) xs.length xs.length) xs.length xs
theorem Arr.new (w : World) (t : TypeId) (n : Nat) (z : Value) (hn : n ≤ 1024) : Arr (w.alloc (.cells (Array.replicate n z) t)) w.heap.size t (List.replicate n z) :=
  ⟨by simp, .inr ⟨w.heap.size, n, Array.replicate n z, by simp, Nat.zero_le _, (MapKept.heap_alloc w _).1, by simp, by unfold maxLen; omega, by simp, by simp⟩⟩
theorem Arr.cell {w : World} {g : Nat} {t : TypeId} {xs : List Value} (h : Arr w g t xs) {i : Nat} {u : Value} (hi : xs[i]? = some u) : w.cell? ⟨g, i, none⟩ = some u := by
  have := World.ownsRow.cells h (g := g) rfl i u hi
  rw [Addr.add_lit, Nat.zero_add] at this
  exact this
theorem Arr.free {w : World} {g : Nat} {t : TypeId} {xs : List Value} (h : Arr w g t xs) (i : Nat) : w.frozen? ⟨g, i, none⟩ = false := World.ownsRow.frozenAt h i
theorem Arr.set {w : World} {g : Nat} {t : TypeId} {xs : List Value} (h : Arr w g t xs) (i : Nat) (u : Value) : Arr (w.setCell ⟨g, i, none⟩ u) g t (xs.set i u) := by
  unfold Arr at *
  rw [List.length_set]
  exact (World.ownsRow.stored h i u).1
theorem Arr.upd {S : Nat → Prop} {w w' : World} {g : Nat} {t : TypeId} {xs : List Value} (h : Arr w g t xs) (u : Upd S w w') (hs : ¬ S g) : Arr w' g t xs := by
  obtain ⟨h1, h2⟩ := h
  refine ⟨h1, ?_⟩
  rcases h2 with ⟨e, _⟩ | ⟨g', cap, cur, e1, e2, e3, r⟩
  · cases e
  · have e0 := e1
    injection e1 with e1
    injection e1 with e1
    injection e1 with e1
    subst e1
    refine .inr ⟨g, cap, cur, e0, e2, ?_, r⟩
    rw [u.block g (Array.getElem?_eq_some_iff.1 e3).1 hs]
    exact e3
theorem Arr.lt {w : World} {g : Nat} {t : TypeId} {xs : List Value} (h : Arr w g t xs) : g < w.heap.size := by
  rcases h.2 with ⟨e, _⟩ | ⟨g', cap, cur, e1, e2, e3, r⟩
  · cases e
  · injection e1 with e1
    injection e1 with e1
    injection e1 with e1
    subst e1
    exact (Array.getElem?_eq_some_iff.1 e3).1
/-- Which slots are taken, and by what. -/
def tkL (L : List Cl) : List Value := (List.range 1024).map fun (i : Nat) => .bool (gv L (i : Int)).isSome
def vlL (L : List Cl) : List Value := (List.range 1024).map fun (i : Nat) => .string ((gv L (i : Int)).getD ByteArray.empty)
theorem rep_eq (z : Value) (f : Nat → Value) (hf : ∀ i, f i = z) : ∀ n : Nat, (List.range n).map f = List.replicate n z := by
  intro n
  apply List.ext_getElem?
  intro i
  by_cases h : i < n
  · rw [List.getElem?_map, List.getElem?_range h, List.getElem?_replicate_of_lt h]
    exact congrArg some (hf i)
  · rw [List.getElem?_eq_none (by simp; omega), List.getElem?_eq_none (by simp; omega)]
theorem tk_nil : tkL [] = List.replicate 1024 (.bool false) := by
  unfold tkL
  generalize 1024 = N
  exact rep_eq (.bool false) (fun (i : Nat) => .bool (gv [] (i : Int)).isSome) (fun _ => rfl) N
theorem vl_nil : vlL [] = List.replicate 1024 (.string ByteArray.empty) := by
  unfold vlL
  generalize 1024 = N
  exact rep_eq (.string ByteArray.empty) (fun (i : Nat) => .string ((gv [] (i : Int)).getD ByteArray.empty)) (fun _ => rfl) N
theorem tk_get (L : List Cl) {s : Nat} (h : s < 1024) : (tkL L)[s]? = some (.bool (gv L (s : Int)).isSome) := by simp [tkL, h]
theorem vl_get (L : List Cl) {s : Nat} (h : s < 1024) : (vlL L)[s]? = some (.string ((gv L (s : Int)).getD ByteArray.empty)) := by simp [vlL, h]
theorem tk_ins {L : List Cl} {s : Nat} {v : ByteArray} (hn : gv L (s : Int) = none) : (tkL L).set s (.bool true) = tkL (ins ((s : Int), v) L) := by
  apply List.ext_getElem?
  intro i
  by_cases h : i < 1024
  · rw [tk_get _ h, gv_ins (p := ((s : Int), v)) hn, List.getElem?_set]
    by_cases hs : s = i
    · subst hs
      simp [tkL, h]
    · have : ¬ ((s : Int) = (i : Int)) := by omega
      simp [hs, this, tkL, h]
  · rw [List.getElem?_eq_none (by simp [tkL]; omega), List.getElem?_eq_none (by simp [tkL]; omega)]
theorem vl_ins {L : List Cl} {s : Nat} {v : ByteArray} (hn : gv L (s : Int) = none) : (vlL L).set s (.string v) = vlL (ins ((s : Int), v) L) := by
  apply List.ext_getElem?
  intro i
  by_cases h : i < 1024
  · rw [vl_get _ h, gv_ins (p := ((s : Int), v)) hn, List.getElem?_set]
    by_cases hs : s = i
    · subst hs
      simp [vlL, h]
    · have : ¬ ((s : Int) = (i : Int)) := by omega
      simp [hs, this, vlL, h]
  · rw [List.getElem?_eq_none (by simp [vlL]; omega), List.getElem?_eq_none (by simp [vlL]; omega)]
theorem alloc_law {t : TypeId} {n : Nat} {z : Value} (hn : n ≤ 1024) (hi : (Try.prog.info? t).map (fun i => (i.zero, i.size)) = some (some (.agg (Array.replicate n z)), n)) (xs : List Value) (hxs : xs = List.replicate n z) (w : World) {ops : Array Oper} {rest : List Oper} {o : Oper} {a : Act} {Q : Exit → Act → World → Prop} (hgd : o.guard = none) (ho : o.op = .alloc t)
    (h : ∀ w', Arr w' w.heap.size t xs → Below w.heap.size w w' → w'.heap.size = w.heap.size + 1 → wpList Try.prog ops Q rest (a.put o.dst (.pointer (some ⟨w.heap.size, 0, none⟩))) w') : wpList Try.prog ops Q (o :: rest) a w := by
  refine wpList_plain hgd fun K hK => ?_
  unfold Oper.wp execOp
  simp only [ho, Sem.run_bind, run_alloc_info hi, Sem.run_pure, Result.andThen_ok]
  exact hK _ _ (h _ (by rw [hxs]; exact Arr.new w t n z hn) ((Below.refl _ w).alloc (Nat.le_refl _) _) (by simp))
end Go.Proofs.Ytolnkoneilipeaa
