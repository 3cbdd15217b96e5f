import Derived.Test.YtjnnglapefhegaaGreatSw7
import Derived.Test.YtjnnglapefhegaaGreatSc
import Derived.Deep.RegionHeld3
namespace Go.Proofs.YtjnnglapefhegaaGreat
open Go.RowKit Go.Maps
set_option linter.unusedVariables false
set_option linter.unusedSimpArgs false

/-- The vote with its log in another block. -/
def An.re (x : An) (g : Nat) : An := { x with s := ⟨some ⟨g, 0, none⟩, x.s.D.length, x.s.D⟩ }
/-- The vote's log lies in memory. -/
def An.In (w : World) (x : An) : Prop := SlY yE w x.s.a x.s.D.length x.s.c x.s.D ∧ x.s.D.length * 48 ≤ 281474976710656
theorem An.In.later {w w' : World} {x : An} (h : x.In w) (hb : Below w.heap.size w w') : x.In w' := ⟨h.1.later hb, h.2⟩
theorem An.In.bel {w w' : World} {x : An} {B : Nat} (h : x.In w) (hb : Below B w w') (hB : w.heap.size ≤ B) : x.In w' := ⟨h.1.bel hb hB, h.2⟩
/-- y is x, with a log of its own. -/
def An.Told (B : Nat) (w : World) (x y : An) : Prop := x.s.D.length * 48 ≤ 281474976710656 ∧ ∃ g, y = x.re g ∧ OwnY yE B w (.slice (some ⟨g, 0, none⟩) x.s.D.length x.s.D.length) x.s.D
theorem An.Told.bel {B : Nat} {w w' : World} {x y : An} (h : An.Told B w x y) (hb : Below w.heap.size w w') : An.Told B w' x y := by
  obtain ⟨h0, g, e, o⟩ := h
  exact ⟨h0, g, e, o.grow hb⟩
theorem An.Told.low {B B' : Nat} {w : World} {x y : An} (h : An.Told B w x y) (hb : B' ≤ B) : An.Told B' w x y := by
  obtain ⟨h0, g, e, o⟩ := h
  exact ⟨h0, g, e, o.low hb⟩
theorem An.Told.In {B : Nat} {w : World} {x y : An} (h : An.Told B w x y) : y.In w := by
  obtain ⟨h0, g, rfl, o⟩ := h
  exact ⟨o.sl' kE, h0⟩
theorem An.Told.D {B : Nat} {w : World} {x y : An} (h : An.Told B w x y) : y.s.D = x.s.D ∧ y.n = x.n ∧ y.h = x.h ∧ y.l = x.l ∧ y.v = x.v ∧ y.c = x.c := by
  obtain ⟨h0, g, rfl, o⟩ := h
  exact ⟨rfl, rfl, rfl, rfl, rfl, rfl⟩
/-- The same of lists. -/
def An.Tolds (B : Nat) (w : World) (L R : List An) : Prop := R.length = L.length ∧ ∀ (i : Nat) (x y : An), L[i]? = some x → R[i]? = some y → An.Told B w x y
theorem An.Tolds.bel {B : Nat} {w w' : World} {L R : List An} (h : An.Tolds B w L R) (hb : Below w.heap.size w w') : An.Tolds B w' L R := ⟨h.1, fun i x y hx hy => (h.2 i x y hx hy).bel hb⟩
theorem An.Tolds.low {B B' : Nat} {w : World} {L R : List An} (h : An.Tolds B w L R) (hb : B' ≤ B) : An.Tolds B' w L R := ⟨h.1, fun i x y hx hy => (h.2 i x y hx hy).low hb⟩
theorem hTEAn : yE.T ≠ yAnA.T := by decide
/-- One more is told: its log in a block of its own, the row's block changed. -/
theorem An.Tolds.snoc {B g : Nat} {w w2 w3 : World} {L R : List An} {j : Nat} {x : An} {q : Nat} (h : An.Tolds B w (L.take j) R) (hj : L[j]? = some x) (hB : B ≤ q) (hb : Below w.heap.size w w2) (hd : x.s.D.length * 48 ≤ 281474976710656) (ho : OwnY yE q w2 (.slice (some ⟨q, 0, none⟩) x.s.D.length x.s.D.length) x.s.D) (u : Upd (· = g) w2 w3) (hr : ∃ cs f, w2.heap[g]? = some (.cells cs yAnA.T f)) : An.Tolds B w3 (L.take (j + 1)) (R ++ [x.re q]) := by
  have hjl := (List.getElem?_eq_some_iff.1 hj).1
  have keep : ∀ {B' g' n c : Nat} {l : List En}, OwnY yE B' w2 (.slice (some ⟨g', 0, none⟩) n c) l → OwnY yE B' w3 (.slice (some ⟨g', 0, none⟩) n c) l := fun {B' g' n c l} ho' => ho'.upd1 u (fun k e hk => by
    subst hk
    obtain ⟨c1, f1, e1⟩ := ho'.kind e
    obtain ⟨c2, f2, e2⟩ := hr
    rw [e1] at e2
    injection e2 with e2
    injection e2 with _ e3
    exact hTEAn e3)
  have ht : (L.take j).length = j := by rw [List.length_take]; omega
  refine ⟨by rw [List.length_append, h.1, ht, List.length_take, List.length_singleton]; omega, fun i y z hy hz => ?_⟩
  rw [List.take_add_one, hj] at hy
  by_cases hi : i < j
  · rw [List.getElem?_append_left (by omega)] at hy
    rw [List.getElem?_append_left (by rw [h.1]; omega)] at hz
    obtain ⟨h0, g', e, o⟩ := h.2 i y z hy hz
    exact ⟨h0, g', e, keep (o.grow hb)⟩
  · rw [List.getElem?_append_right (by omega)] at hy
    rw [List.getElem?_append_right (by rw [h.1]; omega)] at hz
    rw [ht] at hy
    rw [h.1, ht] at hz
    have hi0 : i - j = 0 := by
      have := (List.getElem?_eq_some_iff.1 hz).1
      simp at this
      omega
    rw [hi0] at hy hz
    simp at hy hz
    subst hy hz
    exact ⟨hd, q, rfl, (keep ho).low hB⟩
end Go.Proofs.YtjnnglapefhegaaGreat
