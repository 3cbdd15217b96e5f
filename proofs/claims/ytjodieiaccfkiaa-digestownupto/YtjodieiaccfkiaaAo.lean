import Derived.Test.YtjodieiaccfkiaaCz
import Derived.Test.YtjodieiaccfkiaaGAe
namespace Go.Proofs.Ytjodieiaccfkiaa
open Go.RowKit Go.Maps
open Classical
set_option linter.unusedVariables false
set_option linter.unusedSimpArgs false

theorem OwnY.set0 {α : Type} {Y : Lay α} {B : Nat} {w : World} {v : Value} {l : List α} (h : OwnY Y B w v l) {i : Nat} {x : α} (hx : l[i]? = some x) : OwnY Y B w v (l.set i x) := by
  have e : l.set i x = l := by
    apply List.ext_getElem?
    intro j
    by_cases hj : i = j
    · subst hj
      rw [List.getElem?_set_self (List.getElem?_eq_some_iff.1 hx).1, hx]
    · rw [List.getElem?_set_ne hj]
  rw [e]; exact h
theorem OwnY.set2 {α : Type} {Y : Lay α} (K : Y.Ok) {B : Nat} {w : World} {g n c : Nat} {l : List α} {i : Nat} {x : α} (h : OwnY Y B w (.slice (some ⟨g, 0, none⟩) n c) (l.set i x)) (hi : i < l.length) (x' : α) (j : Nat) (u : Value) (hj : j < Y.k) (hc : Y.cs x' = (Y.cs x).set j u) :
    OwnY Y B (w.setCell ⟨g, i * Y.k + j, none⟩ u) (.slice (some ⟨g, 0, none⟩) n c) (l.set i x') := by
  have := h.set1 K (i := i) (x := x) (by simp [hi]) x' j u hj hc
  rw [List.set_set] at this
  exact this
theorem OwnY.lenN {α : Type} {Y : Lay α} {B : Nat} {w : World} {g n c : Nat} {l : List α} (h : OwnY Y B w (.slice (some ⟨g, 0, none⟩) n c) l) : l.length = n ∧ B ≤ g ∧ g < w.heap.size := by
  obtain ⟨a, c', e, _, _, _, h4⟩ := h.form
  injection e with e1 e2 _
  obtain ⟨g', e3, h5, h6⟩ := h4 _ e1.symm
  cases e3
  exact ⟨e2.symm, h5, h6⟩
/-- Bytes as rows. -/
def yBy : Lay Int := ⟨5, 22, 1, 1, fun x => [.int .u8 x], 0⟩
theorem kBy : yBy.Ok := ⟨by decide, fun x => rfl, fun x u h => by
    simp [yBy] at h
    rw [h]; rfl, Try.underlying22, ⟨.int .u8 0, by kernel_rfl, rfl⟩⟩
def byV (x : Int) : Value := .int .u8 x

end Go.Proofs.Ytjodieiaccfkiaa
