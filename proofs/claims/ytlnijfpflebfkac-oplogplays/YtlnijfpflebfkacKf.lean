import Derived.Test.YtlnijfpflebfkacKq
namespace Go.Proofs.Ytlnijfpflebfkac
open Go.RowKit Go.Shelf
set_option linter.unusedVariables false
set_option linter.unusedSimpArgs false
attribute [local go_sem] Oper.semAt_some

deriving instance DecidableEq for Opn
deriving instance DecidableEq for En
theorem eqlE (a b c d : Int) (v : ByteArray) (a' b' c' d' : Int) (v' : ByteArray) (w : World) : (binOp .eql 42 (.agg #[.int .i64 a, .int .i64 b, .int .i64 c, .int .i64 d, .string v]) (.agg #[.int .i64 a', .int .i64 b', .int .i64 c', .int .i64 d', .string v'])).run Try.prog w = .ok (.bool (decide ((⟨a, b, ⟨c, d, v⟩⟩ : En) = ⟨a', b', ⟨c', d', v'⟩⟩))) w := by
  go_simp
  by_cases e1 : a = a' <;> by_cases e2 : b = b' <;> by_cases e3 : c = c' <;> by_cases e4 : d = d' <;> by_cases e5 : v = v' <;> simp [e1, e2, e3, e4, e5, bytes_inj]
theorem neqE (a b c d : Int) (v : ByteArray) (a' b' c' d' : Int) (v' : ByteArray) (w : World) : (binOp .neq 42 (.agg #[.int .i64 a, .int .i64 b, .int .i64 c, .int .i64 d, .string v]) (.agg #[.int .i64 a', .int .i64 b', .int .i64 c', .int .i64 d', .string v'])).run Try.prog w = .ok (.bool (!decide ((⟨a, b, ⟨c, d, v⟩⟩ : En) = ⟨a', b', ⟨c', d', v'⟩⟩))) w := by
  go_simp
  by_cases e1 : a = a' <;> by_cases e2 : b = b' <;> by_cases e3 : c = c' <;> by_cases e4 : d = d' <;> by_cases e5 : v = v' <;> simp [e1, e2, e3, e4, e5, bytes_inj]
/-- The length of the longest beginning that two logs share. -/
def cmn : List En → List En → Nat
  | a :: r, b :: s => if a = b then 1 + cmn r s else 0
  | _, _ => 0
theorem cmn_nil (A : List En) : cmn A [] = 0 := by cases A <;> rfl
theorem cmn_at {A B : List En} {j : Nat} {x y : En} (hx : A[j]? = some x) (hy : B[j]? = some y) : cmn (A.drop j) (B.drop j) = if x = y then 1 + cmn (A.drop (j + 1)) (B.drop (j + 1)) else 0 := by
  have hj := (List.getElem?_eq_some_iff.1 hx).1
  have he := (List.getElem?_eq_some_iff.1 hx).2
  have hj' := (List.getElem?_eq_some_iff.1 hy).1
  have he' := (List.getElem?_eq_some_iff.1 hy).2
  rw [List.drop_eq_getElem_cons hj, he, List.drop_eq_getElem_cons hj', he', cmn]
theorem cmn_end {A B : List En} {m : Nat} (h : A.length ≤ m ∨ B.length ≤ m) : cmn (A.drop m) (B.drop m) = 0 := by
  rcases h with h | h
  · rw [List.drop_of_length_le h]; rfl
  · rw [List.drop_of_length_le h, cmn_nil]
theorem SlY.recap {α : Type} {Y : Lay α} {w : World} {a : Option Addr} {n c : Nat} {l : List α} (h : SlY Y w a n c l) : SlY Y w a n n l :=
  ⟨h.len, Nat.le_refl _, Nat.le_trans h.cap h.max, fun e => ⟨(h.nil e).1, (h.nil e).1⟩, h.at_⟩
end Go.Proofs.Ytlnijfpflebfkac
