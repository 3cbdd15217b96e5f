import Derived.Test.YtfgpflpenblfkaaLf
import Derived.Laws.StructEq
namespace Go.Proofs.Ytfgpflpenblfkaa
open Go.RowKit Go.Maps
set_option linter.unusedVariables false

theorem bytes_inj (a b : ByteArray) : a.toList = b.toList ↔ a = b := by
  rw [ByteArray.toList_eq, ByteArray.toList_eq]
  obtain ⟨⟨x⟩⟩ := a
  obtain ⟨⟨y⟩⟩ := b
  simp
/-- A ledger whose memory all lies from B on; below B nothing has changed since w0. -/
def LedB (B : Nat) (w0 w : World) (b : Nat) (L : List Cl) : Prop := ∃ m, Led w b m L ∧ B ≤ b ∧ (∀ j, m = some j → B ≤ j) ∧ Below B w0 w
theorem LedB.ok {B b : Nat} {w0 w : World} {L : List Cl} (h : LedB B w0 w b L) : Ok L := by obtain ⟨m, h, _⟩ := h; exact h.ok
theorem LedB.bel {B b : Nat} {w0 w : World} {L : List Cl} (h : LedB B w0 w b L) : Below B w0 w := by obtain ⟨m, _, _, _, h⟩ := h; exact h
theorem LedB.lt {B b : Nat} {w0 w : World} {L : List Cl} (h : LedB B w0 w b L) : B ≤ b ∧ b < w.heap.size := by obtain ⟨m, h, hb, _⟩ := h; exact ⟨hb, h.lt⟩
theorem LedB.on {B b : Nat} {w0 w w' : World} {L : List Cl} (h : LedB B w0 w b L) (hb : Below w.heap.size w w') : LedB B w0 w' b L := by
  obtain ⟨m, h1, h2, h3, h4⟩ := h
  exact ⟨m, h1.upd (S := fun _ => False) (Upd.of_below hb) id (fun _ _ => id), h2, h3, h4.trans (hb.mono (by have := h1.lt; omega))⟩
/-- Other blocks from B on may change. -/
theorem LedB.upd {S : Nat → Prop} {B b : Nat} {w0 w w' : World} {L : List Cl} (h : LedB B w0 w b L) (u : Upd S w w') (hS : ∀ k, S k → B ≤ k) (hn : ¬ S b) (hm : ∀ k, S k → ∀ es c, w.heap[k]? ≠ some (.map es c)) : LedB B w0 w' b L := by
  obtain ⟨m, h1, h2, h3, h4⟩ := h
  refine ⟨m, h1.upd u hn (fun j e hs => ?_), h2, h3, h4.trans (u.below (by have := h1.lt; omega) hS)⟩
  obtain ⟨es, c, hb, _⟩ := (h1.sm j e).2
  exact hm j hs es c hb
theorem LedB.took {B b : Nat} {w0 w w' : World} {m : Option Nat} {L' : List Cl} (t : Took w b m L' w') (hb : B ≤ b) (hs : B ≤ w.heap.size) (hm : ∀ j, m = some j → B ≤ j) (h0 : Below B w0 w) : LedB B w0 w' b L' := by
  obtain ⟨m', hl, hmm, hu⟩ := t
  refine ⟨m', hl, hb, fun j e => ?_, h0.trans (hu.below hs (fun k hk => ?_))⟩
  · rcases hmm with h | ⟨i, h, hi⟩
    · exact hm j (h ▸ e)
    · rw [h] at e; cases e; omega
  · rcases hk with rfl | hk
    · exact hb
    · exact hm k hk
end Go.Proofs.Ytfgpflpenblfkaa
