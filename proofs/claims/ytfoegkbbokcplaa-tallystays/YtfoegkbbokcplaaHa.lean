import Derived.Test.YtfoegkbbokcplaaCz
namespace Go.Proofs.Ytfoegkbbokcplaa
open Go.RowKit Go.Maps
set_option linter.unusedVariables false
set_option linter.unusedSimpArgs false

/-- Draws. -/
def yD : Lay (Int × Int) := ⟨27, 32, 2, 16, fun d => [.int .u64 d.1, .int .u64 d.2], (0, 0)⟩
theorem kD : yD.Ok := ⟨by decide, fun x => rfl, fun x u h => by
    simp [yD] at h
    rcases h with rfl | rfl <;> rfl, Try.underlying32, ⟨.agg #[.int .u64 0, .int .u64 0], by kernel_rfl, rfl⟩⟩
def mkD : Int × Int := (77, 88)
theorem hDE : yD.T ≠ zE.T := by decide
theorem SlY.dw {w : World} {a : Option Addr} {n c : Nat} {L : List (Int × Int)} (h : SlY yD w a n c L) {j : Nat} {e : Int × Int} (he : L[j]? = some e) : ∃ q o, a = some ⟨q, o, none⟩ ∧ q < w.heap.size ∧ w.cell? ⟨q, o + j * 2, none⟩ = some (.int .u64 e.1) ∧ w.cell? ⟨q, o + j * 2 + 1, none⟩ = some (.int .u64 e.2) := by
  obtain ⟨q, o, ea, hq, hl⟩ := h.place (by rintro rfl; simp at he)
  exact ⟨q, o, ea, hq, hl j e he 0 _ rfl, hl j e he 1 _ rfl⟩
theorem take_snoc {α : Type} {l : List α} {k : Nat} {x : α} (h : l[k]? = some x) : l.take (k + 1) = l.take k ++ [x] := by
  rw [List.take_add_one, h]; rfl
theorem ne_of_at {α : Type} {A B : List α} {k : Nat} {x y : α} (h1 : A[k]? = some x) (h2 : B[k]? = some y) (h : x ≠ y) : A ≠ B := by
  rintro rfl
  rw [h1] at h2
  exact h (Option.some.inj h2)
theorem take_all {α : Type} {A B : List α} {k : Nat} (h1 : A.length = k) (h2 : B.length = k) (h : A.take k = B.take k) : A = B := by
  rw [List.take_of_length_le (by omega), List.take_of_length_le (by omega)] at h
  exact h
theorem take_step {α : Type} {A B : List α} {k : Nat} {x : α} (h1 : A[k]? = some x) (h2 : B[k]? = some x) (h : A.take k = B.take k) : A.take (k + 1) = B.take (k + 1) := by
  rw [take_snoc h1, take_snoc h2, h]
end Go.Proofs.Ytfoegkbbokcplaa
