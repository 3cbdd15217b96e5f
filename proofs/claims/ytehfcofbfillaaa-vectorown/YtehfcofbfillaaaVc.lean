import Derived.Test.YtehfcofbfillaaaVb
namespace Go.Proofs.Ytehfcofbfillaaa
open Go.RowKit
set_option linter.unusedVariables false

theorem Lie.later {w w' : World} {q o : Nat} {D : List (Int × Int)} (h : Lie w q o D) (hq : q < w.heap.size) {B : Nat} (hb : Below B w w') (hB : q < B) : Lie w' q o D := fun i d hd =>
  ⟨(hb.cell (p := ⟨q, o + i * 2, none⟩) hB).trans (h i d hd).1, (hb.cell (p := ⟨q, o + i * 2 + 1, none⟩) hB).trans (h i d hd).2⟩
theorem Sl.place {w : World} {v : Value} {D : List (Int × Int)} {a : Option Addr} {c : Nat} (h : Sl w v D a c) (hD : D ≠ []) : ∃ q o, a = some ⟨q, o, none⟩ ∧ q < w.heap.size ∧ Lie w q o D := by
  cases a with
  | none => exact absurd (h.nil rfl).1 hD
  | some x =>
    rcases h.at_ x rfl with ⟨e, _⟩ | ⟨q, o, rfl, hq, hl⟩
    · exact absurd e hD
    · exact ⟨q, o, rfl, hq, hl⟩

end Go.Proofs.Ytehfcofbfillaaa
