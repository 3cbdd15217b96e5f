import Derived.Test.YtegkkoggfjgkbaaRd
namespace Go.Proofs.Ytegkkoggfjgkbaa.Wi
open Go.RowKit
set_option linter.unusedVariables false

/-- Nothing but block b has changed. -/
structure Only (b : Nat) (w w' : World) : Prop where
  bel : Below b w w'
  same : w'.heap.size = w.heap.size
  block : ∀ k, k ≠ b → w'.heap[k]? = w.heap[k]?
theorem Only.refl (b : Nat) (w : World) : Only b w w := ⟨Below.refl _ _, rfl, fun _ _ => rfl⟩
theorem Only.setCell {b : Nat} {w0 w : World} (h : Only b w0 w) (j : Nat) (u : Value) : Only b w0 (w.setCell ⟨b, j, none⟩ u) :=
  ⟨h.bel.setCell (Nat.le_refl _) u, by simp [World.setCell, h.same], fun k hk => (Below.heap_setCell w ⟨b, j, none⟩ u k hk).trans (h.block k hk)⟩
theorem Only.drewN {b : Nat} {w0 w : World} (h : Only b w0 w) (k : Nat) : Only b w0 (w.drewN k) := ⟨below_drewN h.bel k, h.same, h.block⟩
theorem Only.below {b B : Nat} {w w' : World} (h : Only b w w') (hB : B ≤ b) : Below B w w' := h.bel.mono hB
theorem Only.cell {b : Nat} {w w' : World} (h : Only b w w') {p : Addr} (hp : p.block ≠ b) : w'.cell? p = w.cell? p := World.cell?_of_block (h.block _ hp)
theorem Only.frozen {b : Nat} {w w' : World} (h : Only b w w') {p : Addr} (hp : p.block ≠ b) : w'.frozen? p = w.frozen? p := World.frozen?_of_block (h.block _ hp)

end Go.Proofs.Ytegkkoggfjgkbaa.Wi
