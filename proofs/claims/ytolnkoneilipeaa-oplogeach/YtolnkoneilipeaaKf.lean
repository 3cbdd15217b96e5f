import Derived.Test.YtolnkoneilipeaaKq
namespace Go.Proofs.Ytolnkoneilipeaa
open Go.RowKit Go.Shelf
open Classical
set_option linter.unusedVariables false
set_option linter.unusedSimpArgs false
attribute [local go_sem] Oper.semAt_some

/-- Two entries are the same. -/
def enb (a b : En) : Bool := decide (a.c = b.c) && (decide (a.n = b.n) && (decide (a.o.k = b.o.k) && (decide (a.o.s = b.o.s) && decide (a.o.v.data = b.o.v.data))))
theorem enb_iff (a b : En) : enb a b = true ↔ a = b := by
  rcases a with ⟨c, n, ⟨k, s, ⟨v⟩⟩⟩
  rcases b with ⟨c', n', ⟨k', s', ⟨v'⟩⟩⟩
  simp only [enb, Bool.and_eq_true, decide_eq_true_eq, En.mk.injEq, Opn.mk.injEq, ByteArray.mk.injEq]
/-- The length of the longest beginning that two logs share. -/
def cmn : List En → List En → Nat
  | a :: r, b :: s => if enb a b = true then 1 + cmn r s else 0
  | _, _ => 0
theorem cmn_cons (a b : En) (r s : List En) : cmn (a :: r) (b :: s) = if a = b then 1 + cmn r s else 0 := by
  rw [cmn]
  by_cases h : a = b
  · rw [if_pos ((enb_iff a b).2 h), if_pos h]
  · rw [if_neg (fun e => h ((enb_iff a b).1 e)), if_neg h]
theorem cmn_nil (A : List En) : cmn A [] = 0 := by cases A <;> rfl
theorem cmn_at {A B : List En} {j : Nat} {x y : En} (hx : A[j]? = some x) (hy : B[j]? = some y) : cmn (A.drop j) (B.drop j) = if x = y then 1 + cmn (A.drop (j + 1)) (B.drop (j + 1)) else 0 := by
  have hj := (List.getElem?_eq_some_iff.1 hx).1
  have he := (List.getElem?_eq_some_iff.1 hx).2
  have hj' := (List.getElem?_eq_some_iff.1 hy).1
  have he' := (List.getElem?_eq_some_iff.1 hy).2
  rw [List.drop_eq_getElem_cons hj, he, List.drop_eq_getElem_cons hj', he', cmn_cons]
theorem cmn_end {A B : List En} {m : Nat} (h : A.length ≤ m ∨ B.length ≤ m) : cmn (A.drop m) (B.drop m) = 0 := by
  rcases h with h | h
  · rw [List.drop_of_length_le h]; rfl
  · rw [List.drop_of_length_le h, cmn_nil]
theorem SlY.recap {α : Type} {Y : Lay α} {w : World} {a : Option Addr} {n c : Nat} {l : List α} (h : SlY Y w a n c l) : SlY Y w a n n l :=
  ⟨h.len, Nat.le_refl _, Nat.le_trans h.cap h.max, fun e => ⟨(h.nil e).1, (h.nil e).1⟩, h.at_⟩
end Go.Proofs.Ytolnkoneilipeaa
