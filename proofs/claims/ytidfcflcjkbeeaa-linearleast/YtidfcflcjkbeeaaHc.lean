import Derived.Test.YtidfcflcjkbeeaaHb
namespace Go.Proofs.Ytidfcflcjkbeeaa
open Go.RowKit Go.Maps
open Classical
set_option linter.unusedVariables false
set_option linter.unusedSimpArgs false

theorem OwnY.row {α : Type} {T ST : TypeId} (hz : (yS α T ST).Ok) {B : Nat} {w : World} {a : Option Addr} {n c : Nat} {L : List (SV α)} (h : OwnY (yS α T ST) B w (.slice a n c) L) {j : Nat} {x : SV α} (hx : L[j]? = some x) : ∃ g, a = some ⟨g, 0, none⟩ ∧ w.cell? ⟨g, j, none⟩ = some (.slice x.a x.D.length x.c) := by
  obtain ⟨a', c', e, _, _, hn, hs⟩ := h.form
  injection e with e1 e2 e3
  subst e1
  cases a with
  | none => have := (hn rfl).1; rw [this] at hx; simp at hx
  | some z =>
    obtain ⟨g, rfl, _, _⟩ := hs z rfl
    refine ⟨g, rfl, ?_⟩
    have := h.cell hz j x hx 0 _ rfl
    simpa [yS] using this
theorem map_at {α : Type} {La Lb : List (SV α)} (h : La.map (·.D) = Lb.map (·.D)) {j : Nat} {x y : SV α} (hx : La[j]? = some x) (hy : Lb[j]? = some y) : x.D = y.D := by
  have h1 := congrArg (fun l => l[j]?) h
  simp only [List.getElem?_map, hx, hy, Option.map_some] at h1
  exact Option.some.inj h1
theorem len_map {α : Type} {La Lb : List (SV α)} (h : La.map (·.D) = Lb.map (·.D)) : Lb.length = La.length := by
  have := congrArg List.length h
  simpa using this.symm
end Go.Proofs.Ytidfcflcjkbeeaa
