import Derived.Test.YtedjiehohnhopaaSa
namespace Go.Proofs.Ytedjiehohnhopaa
open Go.RowKit Go.Maps
set_option linter.unusedVariables false
set_option linter.unusedSimpArgs false

/-- A vote: ack. -/
structure Ak where
  n : Int
  h : Int
  l : Int
  p : Int
deriving instance DecidableEq for Ak

def Ak.cs (x : Ak) : List Value := [.int .i64 x.n, .int .u64 x.h, .int .u64 x.l, .int .i64 x.p]
def Ak.val (x : Ak) : Value := .agg #[.int .i64 x.n, .int .u64 x.h, .int .u64 x.l, .int .i64 x.p]
def yAkA : Lay Ak := ⟨99, 50, 4, 32, Ak.cs, ⟨0, 0, 0, 0⟩⟩
theorem kAkA : yAkA.Ok := ⟨by decide, fun x => rfl, fun x u h => by
    simp [yAkA, Ak.cs] at h
    rcases h with rfl | rfl | rfl | rfl <;> rfl, Try.underlying50, ⟨.agg #[.int .i64 (⟨0, 0, 0, 0⟩ : Ak).n, .int .u64 (⟨0, 0, 0, 0⟩ : Ak).h, .int .u64 (⟨0, 0, 0, 0⟩ : Ak).l, .int .i64 (⟨0, 0, 0, 0⟩ : Ak).p], by kernel_rfl, rfl⟩⟩
theorem SlY.AkA {w : World} {a : Option Addr} {n c : Nat} {L : List Ak} (h : SlY yAkA w a n c L) {j : Nat} {x : Ak} (hx : L[j]? = some x) : ∃ q o, a = some ⟨q, o, none⟩ ∧ q < w.heap.size ∧ w.cell? ⟨q, o + j * 4, none⟩ = some (.int .i64 x.n) ∧ w.cell? ⟨q, o + j * 4 + 1, none⟩ = some (.int .u64 x.h) ∧ w.cell? ⟨q, o + j * 4 + 2, none⟩ = some (.int .u64 x.l) ∧ w.cell? ⟨q, o + j * 4 + 3, none⟩ = some (.int .i64 x.p) := by
  obtain ⟨q, o, ea, hq, hl⟩ := h.place (by rintro rfl; simp at hx)
  exact ⟨q, o, ea, hq, hl j x hx 0 _ rfl, hl j x hx 1 _ rfl, hl j x hx 2 _ rfl, hl j x hx 3 _ rfl⟩
end Go.Proofs.Ytedjiehohnhopaa
