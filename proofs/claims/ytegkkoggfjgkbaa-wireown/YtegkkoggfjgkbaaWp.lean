import Derived.Test.YtegkkoggfjgkbaaWl
import Derived.Test.YtegkkoggfjgkbaaRf
namespace Go.Proofs.Ytegkkoggfjgkbaa.Wi
open Go.RowKit
set_option linter.unusedVariables false

/-- What laying a thing down comes to: its error, its bytes. -/
def ptErr (K N m : Int) (s : ByteArray) : Int := if K = 0 then 0 else if K = 1 then (if N < 0 then 3 else 0) else if K = 2 then (if N < 0 ∨ m < 0 then 3 else if m < N then 11 else 0) else if m < 0 then 3 else if m < (s.size : Int) then 11 else 0
def ptBytes (K V N : Int) (s : ByteArray) : List Int := if K = 0 then M.form V.toNat else if K = 1 ∨ K = 2 then M.form N.toNat else M.form s.size ++ sb s
/-- A Writer in either state. -/
def WSt (w : World) (b : Nat) (l : List Int) (E : Int) : Prop := (E = 0 ∧ WOk w b l) ∨ (E ≠ 0 ∧ WBad w b E)
def putV (K V N m : Int) (s : ByteArray) : Value := .agg #[.int .i64 K, .int .u64 V, .int .i64 N, .int .i64 m, .string s]
theorem WBad.later {w w' : World} {b : Nat} {E : Int} (h : WBad w b E) (hb : Below w.heap.size w w') : WBad w' b E :=
  ⟨Nat.lt_of_lt_of_le h.lt hb.size, h.ne, cell_later hb h.c0, cell_later hb h.c1, cell_later hb h.c2, (hb.frozen (p := ⟨b, 0, none⟩) h.lt).trans h.f0, (hb.frozen (p := ⟨b, 1, none⟩) h.lt).trans h.f1, (hb.frozen (p := ⟨b, 2, none⟩) h.lt).trans h.f2⟩
theorem WOk.later {w w' : World} {b : Nat} {l : List Int} (h : WOk w b l) (hb : Below w.heap.size w w') : WOk w' b l := by
  rcases h with ⟨e, h⟩ | ⟨q, g, n, c, h⟩
  · exact .inl ⟨e, Nat.lt_of_lt_of_le h.lt hb.size, cell_later hb h.c0, cell_later hb h.c1, cell_later hb h.c2, (hb.frozen (p := ⟨b, 0, none⟩) h.lt).trans h.f0, (hb.frozen (p := ⟨b, 1, none⟩) h.lt).trans h.f1, (hb.frozen (p := ⟨b, 2, none⟩) h.lt).trans h.f2⟩
  · have lt : b < w.heap.size := Nat.lt_trans h.lt h.ltq
    exact .inr ⟨q, g, n, c, h.lt, Nat.lt_of_lt_of_le h.ltq hb.size, h.len, cell_later hb h.c0, cell_later hb h.c1, cell_later hb h.c2, (hb.frozen (p := ⟨b, 0, none⟩) lt).trans h.f0, (hb.frozen (p := ⟨b, 1, none⟩) lt).trans h.f1, (hb.frozen (p := ⟨b, 2, none⟩) lt).trans h.f2, cell_later hb h.cq, (hb.frozen (p := ⟨q, 0, none⟩) h.ltq).trans h.fq, h.own.kept hb⟩

end Go.Proofs.Ytegkkoggfjgkbaa.Wi
