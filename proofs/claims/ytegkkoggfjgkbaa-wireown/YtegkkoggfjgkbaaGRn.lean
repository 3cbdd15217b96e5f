import Derived.Test.YtegkkoggfjgkbaaTt
import Derived.Test.YtegkkoggfjgkbaaOy
namespace Go.Proofs.Ytegkkoggfjgkbaa.Wi
open Go.RowKit
set_option linter.unusedVariables false

/-- What the reference's reading of a number comes to: q is what stands from the place p on. -/
def RnPost (p : Nat) (q : List Int) (w : World) (e : Ending) (w' : World) : Prop := e = .returned (.tuple #[.int .u64 (tnVal q), .int .i64 ((p + tnSize q : Nat) : Int), .int .i64 (tnErr q)]) ∧ ∃ k, w' = w.drewN k
theorem RnPost.mk_bad {p : Nat} {q : List Int} {w : World} {E : Int} (k : Nat) (h : tnErr q = E) (hE : E ≠ 0) : RnPost p q w (.returned (.tuple #[.int .u64 0, .int .i64 p, .int .i64 E])) (w.drewN k) := by
  obtain ⟨h1, h2⟩ := tn_bad (l := q) (by rw [h]; exact hE)
  exact ⟨ret3 (by rw [h1]; rfl) (by rw [h2]; rfl) h.symm, k, rfl⟩
theorem RnPost.mk_ok {p : Nat} {k : Int} {d : List Int} {w : World} (j : Nat) (h : tnErr (k :: d) = 0) {v s : Int} (hv : v = (M.rb (d.take k.toNat) : Nat)) (hs : s = ((p + (1 + k.toNat) : Nat) : Int)) : RnPost p (k :: d) w (.returned (.tuple #[.int .u64 v, .int .i64 s, .int .i64 0])) (w.drewN j) := by
  refine ⟨ret3 ?_ ?_ h.symm, j, rfl⟩
  · unfold tnVal; rw [if_pos h, hv]; rfl
  · unfold tnSize; rw [if_pos h, hs]; rfl

end Go.Proofs.Ytegkkoggfjgkbaa.Wi

namespace Go.Proofs.Ytegkkoggfjgkbaa.Wi
open Go.RowKit
set_option linter.unusedVariables false

/-- The reference's reader at the head of block b: its bytes, how far, its error. -/
structure QSt (w : World) (b : Nat) (a : Option Addr) (n c p : Nat) (err : Int) : Prop where
  lt : b < w.heap.size
  c0 : w.cell? ⟨b, 0, none⟩ = some (.slice a n c)
  c1 : w.cell? ⟨b, 1, none⟩ = some (.int .i64 p)
  c2 : w.cell? ⟨b, 2, none⟩ = some (.int .i64 err)
  f1 : w.frozen? ⟨b, 1, none⟩ = false
  f2 : w.frozen? ⟨b, 2, none⟩ = false
  le : p ≤ n
theorem QSt.later {w w' : World} {b : Nat} {a : Option Addr} {n c p : Nat} {E : Int} (h : QSt w b a n c p E) (hb : Below w.heap.size w w') : QSt w' b a n c p E :=
  ⟨Nat.lt_of_lt_of_le h.lt hb.size, cell_later hb h.c0, cell_later hb h.c1, cell_later hb h.c2, (hb.frozen (p := ⟨b, 1, none⟩) h.lt).trans h.f1, (hb.frozen (p := ⟨b, 2, none⟩) h.lt).trans h.f2, h.le⟩

theorem QSt.stepped {w : World} {b : Nat} {a : Option Addr} {n c p : Nat} {E : Int} (h : QSt w b a n c p E) (p' : Nat) (e' : Int) (k : Nat) (hp : p' ≤ n) : QSt (((w.drewN k).setCell ⟨b, 2, none⟩ (.int .i64 e')).setCell ⟨b, 1, none⟩ (.int .i64 (p' : Int))) b a n c p' e' := by
  obtain ⟨hlt, c0, c1, c2, f1, f2, hle⟩ := h
  refine ⟨?_, ?_, ?_, ?_, ?_, ?_, hp⟩
  all_goals go_simp
theorem QSt.failed {w : World} {b : Nat} {a : Option Addr} {n c p : Nat} {E : Int} (h : QSt w b a n c p E) (e' : Int) (k : Nat) : QSt ((w.drewN k).setCell ⟨b, 2, none⟩ (.int .i64 e')) b a n c p e' := by
  obtain ⟨hlt, c0, c1, c2, f1, f2, hle⟩ := h
  refine ⟨?_, ?_, ?_, ?_, ?_, ?_, hle⟩
  all_goals go_simp
end Go.Proofs.Ytegkkoggfjgkbaa.Wi

namespace Go.Proofs.Ytegkkoggfjgkbaa.Wi
open Go.RowKit
set_option linter.unusedVariables false

theorem ok_len {m : Int} {q : List Int} (hE : tcErr m q = 0) : 0 < q.length := by
  refine List.length_pos_iff.2 ?_
  rintro rfl
  unfold tcErr at hE
  split at hE
  · cases hE
  · simp [tnErr] at hE
theorem ret_str {x y : ByteArray} (h : x = y) : Ending.returned (.string x) = .returned (.string y) := by rw [h]
theorem QSt.moved {w : World} {b : Nat} {a : Option Addr} {n c p : Nat} {E : Int} (h : QSt w b a n c p E) (p' : Nat) (k : Nat) (hp : p' ≤ n) : QSt ((w.drewN k).setCell ⟨b, 1, none⟩ (.int .i64 (p' : Int))) b a n c p' E := by
  obtain ⟨hlt, c0, c1, c2, f1, f2, hle⟩ := h
  refine ⟨?_, ?_, ?_, ?_, ?_, ?_, hp⟩
  all_goals go_simp

end Go.Proofs.Ytegkkoggfjgkbaa.Wi
