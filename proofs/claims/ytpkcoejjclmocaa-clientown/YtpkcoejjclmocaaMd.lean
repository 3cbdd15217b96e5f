import Derived.Test.YtpkcoejjclmocaaMc
import Derived.Test.YtpkcoejjclmocaaLo
namespace Go.Proofs.Ytpkcoejjclmocaa
open Go.RowKit
set_option linter.unusedVariables false

/-- Three cells at a block. -/
def At3 (w : World) (g : Nat) (a b : Int) (c : ByteArray) : Prop := w.cell? ⟨g, 0, none⟩ = some (.int .i64 a) ∧ w.cell? ⟨g, 1, none⟩ = some (.int .i64 b) ∧ w.cell? ⟨g, 2, none⟩ = some (.string c)
theorem At3.new (w : World) (a b : Int) (c : ByteArray) (T : TypeId) : At3 (w.alloc (.cells #[.int .i64 a, .int .i64 b, .string c] T)) w.heap.size a b c := by
  refine ⟨?_, ?_, ?_⟩
  all_goals go_simp
theorem At3.on {w w' : World} {g : Nat} {a b : Int} {c : ByteArray} (h : At3 w g a b c) {B : Nat} (hb : Below B w w') (hg : g < B) : At3 w' g a b c :=
  ⟨(hb.cell (p := ⟨g, 0, none⟩) hg).trans h.1, (hb.cell (p := ⟨g, 1, none⟩) hg).trans h.2.1, (hb.cell (p := ⟨g, 2, none⟩) hg).trans h.2.2⟩
end Go.Proofs.Ytpkcoejjclmocaa
