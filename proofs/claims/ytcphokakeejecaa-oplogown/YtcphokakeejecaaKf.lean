import Derived.Test.YtcphokakeejecaaKq
namespace Go.Proofs.Ytcphokakeejecaa
open Go.RowKit Go.Shelf
set_option linter.unusedVariables false
set_option linter.unusedSimpArgs false
attribute [local go_sem] Oper.semAt_some

/-- The length of the longest beginning that two logs share. -/
def cmn : List En → List En → Nat
  | a :: r, b :: s => if a = b then 1 + cmn r s else 0
  | _, _ => 0
theorem cmn_nil (A : List En) : cmn A [] = 0 := by cases A <;> rfl
theorem cmn_at {A B : List En} {j : Nat} {x y : En} (hx : A[j]? = some x) (hy : B[j]? = some y) : cmn (A.drop j) (B.drop j) = if x = y then 1 + cmn (A.drop (j + 1)) (B.drop (j + 1)) else 0 := by
  have hj := (List.getElem?_eq_some_iff.1 hx).1
  have he := (List.getElem?_eq_some_iff.1 hx).2
  have hj' := (List.getElem?_eq_some_iff.1 hy).1
  have he' := (List.getElem?_eq_some_iff.1 hy).2
  rw [List.drop_eq_getElem_cons hj, he, List.drop_eq_getElem_cons hj', he', cmn]
theorem cmn_end {A B : List En} {m : Nat} (h : A.length ≤ m ∨ B.length ≤ m) : cmn (A.drop m) (B.drop m) = 0 := by
  rcases h with h | h
  · rw [List.drop_of_length_le h]; rfl
  · rw [List.drop_of_length_le h, cmn_nil]
theorem SlY.recap {α : Type} {Y : Lay α} {w : World} {a : Option Addr} {n c : Nat} {l : List α} (h : SlY Y w a n c l) : SlY Y w a n n l :=
  ⟨h.len, Nat.le_refl _, Nat.le_trans h.cap h.max, fun e => ⟨(h.nil e).1, (h.nil e).1⟩, h.at_⟩
end Go.Proofs.Ytcphokakeejecaa
