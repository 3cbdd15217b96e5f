import Derived.Test.YtcmjhaljbmhpgaaGreatSa
namespace Go.Proofs.YtcmjhaljbmhpgaaGreat
open Go.RowKit Go.Maps
open Classical
set_option linter.unusedVariables false
set_option linter.unusedSimpArgs false

set_option maxHeartbeats 1000000 in
/-- A log's copy. -/
theorem copied_any (D : List En) (a : Option Addr) (n c : Nat) (w : World) (h : SlY yE w a n c D) (hb : n * 48 ≤ 281474976710656) :
    Calls Tryz.prog 111 #[.slice a n c] w fun e w' => e = .returned (.slice (some ⟨w.heap.size, 0, none⟩) n n) ∧ OwnY yE w.heap.size w' (.slice (some ⟨w.heap.size, 0, none⟩) n n) D ∧ Below w.heap.size w w' := by
  have hmx := h.max
  have hcp := h.cap
  have hln := h.len
  unfold maxLen at hmx
  have H := hide h
  have HN := hide hln
  clear h hln
  go_enter Tryz.func111, Tryz.ntmps111
  go_wp2_with (at_make; go_must (refine makeYs kE _ rfl (.tmp 5) rfl n rfl (by unfold maxLen; omega) hb ?zk))
  intro w1 o1 b1
  have O1 := hide o1
  have B1 := hide b1
  have H1 := hide (H.out.later b1)
  have z1 := b1.size
  clear o1 b1
  go_wp2_with (refine copyYc kE _ rfl (.tmp 7) (.tmp 8) 51 rfl w.heap.size w.heap.size n n 0 n n c n a _ D (by rfl) rfl O1.out H1.out (by omega) (Nat.le_refl _) ?zm)
  intro w2 o2 u2 z2
  have hp : put (List.replicate n yE.z) 0 D = D := by
    unfold put
    rw [List.take_zero, List.nil_append, List.drop_of_length_le (by rw [List.length_replicate, HN.out]; omega), List.append_nil]
  rw [hp] at o2
  have O2 := hide o2
  have B2 := hide (B1.out.trans (u2.below z1 (fun k e => by subst e; exact Nat.le_refl _)))
  clear o2 u2 hp
  go_wp2
  go_ret
  exact ⟨rfl, O2.out, B2.out⟩
theorem OwnY.setc {α : Type} {Y : Lay α} {B g n c : Nat} {w : World} {l : List α} (h : OwnY Y B w (.slice (some ⟨g, 0, none⟩) n c) l) {p : Addr} (u : Value) (hp : p.block ≠ g) : OwnY Y B (w.setCell p u) (.slice (some ⟨g, 0, none⟩) n c) l :=
  h.upd1 (S := fun b => b = p.block) (Upd.setCell (S := fun b => b = p.block) (Upd.refl _ w) (p := p) (.inl rfl) u) (fun g' e => by cases e; exact fun e => hp e.symm)

end Go.Proofs.YtcmjhaljbmhpgaaGreat
