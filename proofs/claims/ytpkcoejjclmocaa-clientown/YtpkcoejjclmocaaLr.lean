import Derived.Test.YtpkcoejjclmocaaLq
namespace Go.Proofs.Ytpkcoejjclmocaa
open Go.RowKit
set_option linter.unusedVariables false

def atC (A : List Cl) (k : Nat) : Cl := A.getD k (0, ByteArray.empty)
theorem some_atC {A : List Cl} {k : Nat} (h : k < A.length) : A[k]? = some (atC A k) := by
  simp [atC, h]
theorem ext_atC {A B : List Cl} (hl : A.length = B.length) (h : ∀ i, i < A.length → atC A i = atC B i) : A = B := by
  apply List.ext_getElem hl
  intro i h1 h2
  have := h i h1
  simpa [atC, h1, h2] using this
theorem SlC.place {w : World} {v : Value} {D : List Cl} {a : Option Addr} {c : Nat} (h : SlC w v D a c) (hD : D ≠ []) : ∃ q o, a = some ⟨q, o, none⟩ ∧ q < w.heap.size ∧ LieC w q o D := by
  cases a with
  | none => exact absurd (h.nil rfl).1 hD
  | some x =>
    rcases h.at_ x rfl with ⟨e, _⟩ | ⟨q, o, rfl, hq, hl⟩
    · exact absurd e hD
    · exact ⟨q, o, rfl, hq, hl⟩

theorem not_same {A B : List Cl} {k : Nat} (h : atC A k ≠ atC B k) : A ≠ B := fun e => h (by rw [e])
end Go.Proofs.Ytpkcoejjclmocaa
