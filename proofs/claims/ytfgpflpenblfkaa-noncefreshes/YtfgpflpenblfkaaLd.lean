import Derived.Test.YtfgpflpenblfkaaLc
namespace Go.Proofs.Ytfgpflpenblfkaa
open Go.RowKit Go.Maps
set_option linter.unusedVariables false

theorem grown_frozen {w w' : World} {row : Option Nat} (hg : w.grownBy w' row) {a : Addr} (hl : a.block < w.heap.size) (hne : some a.block ≠ row) : w'.frozen? a = w.frozen? a :=
  World.frozen?_of_block (w := w) (hg.block a.block hl hne)
/-- The ledger at b has these cells now; of what was there its blocks alone have changed. -/
def Took (w : World) (b : Nat) (m : Option Nat) (L : List Cl) (w' : World) : Prop :=
  ∃ m', Led w' b m' L ∧ (m' = m ∨ ∃ j, m' = some j ∧ w.heap.size ≤ j) ∧ Upd (LS b m) w w'
theorem took_of {w w1 : World} {b j : Nat} {m : Option Nat} {L : List Cl} {p : Cl} {x : Int} (ok : Ok (ins p L)) (hn : gv L p.1 = none) (hjb : j ≠ b) (lt : b < w1.heap.size) (hown1 : w1.ownsMap Try.prog 3 cR j (L.length + 1) ((mD L).put (.int .i64 p.1) (cD p)))
    (hu : Upd (LS b m) w w1) (c0 : w1.cell? ⟨b, 0, none⟩ = some (.map (some j))) (c1 : w1.cell? ⟨b, 1, none⟩ = some (.int .i64 (bh L))) (f0 : w1.frozen? ⟨b, 0, none⟩ = false) (f1 : w1.frozen? ⟨b, 1, none⟩ = false)
    (hx : x = max (bh L) (p.1 + 1)) (hm : m = some j ∨ w.heap.size ≤ j) : Took w b m (ins p L) (w1.setCell ⟨b, 1, none⟩ (.int .i64 x)) := by
  rw [mD_put hn] at hown1
  refine ⟨some j, ⟨ok, by simpa using lt, ?_, ?_, ?_, ?_, (fun e => by cases e), fun i e => ?_⟩, ?_, hu.setCell (.inl (.inl rfl)) _⟩
  · go_simp
  · rw [bh_ins, ← hx]
    exact World.cell?_setCell_same' _ _ _ (by rw [c1]; rfl)
  · rw [World.frozen?_setCell]; exact f0
  · rw [World.frozen?_setCell]; exact f1
  · cases e
    rw [len_ins]
    exact ⟨hjb, hown1.setCell (a := ⟨b, 1, none⟩) hjb _⟩
  · rcases hm with h | h
    · exact .inl h.symm
    · exact .inr ⟨j, rfl, h⟩
end Go.Proofs.Ytfgpflpenblfkaa
