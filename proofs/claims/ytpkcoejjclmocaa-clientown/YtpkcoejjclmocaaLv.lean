import Derived.Test.YtpkcoejjclmocaaLt
namespace Go.Proofs.Ytpkcoejjclmocaa
open Go.RowKit
set_option linter.unusedVariables false

theorem map_ne_cells {w : World} {j b : Nat} {n : Nat} {L : List Cl} {u : Value} {i : Nat} (h : Own w j n L) (hc : w.cell? ⟨b, i, none⟩ = some u) : j ≠ b := by
  obtain ⟨es, c, hb, _⟩ := h
  rintro rfl
  simp [World.cell?, hb] at hc
/-- Two ledgers side by side, their memory from B on. -/
def Two (B : Nat) (w0 w : World) (b1 : Nat) (L1 : List Cl) (b2 : Nat) (L2 : List Cl) : Prop :=
  ∃ m1 m2, Led w b1 m1 L1 ∧ Led w b2 m2 L2 ∧ B ≤ b1 ∧ B ≤ b2 ∧ (∀ j, m1 = some j → B ≤ j) ∧ (∀ j, m2 = some j → B ≤ j) ∧ b1 ≠ b2 ∧ (∀ j, m1 = some j → m2 ≠ some j) ∧ Below B w0 w
theorem Two.swap {B b1 b2 : Nat} {w0 w : World} {L1 L2 : List Cl} (h : Two B w0 w b1 L1 b2 L2) : Two B w0 w b2 L2 b1 L1 := by
  obtain ⟨m1, m2, l1, l2, h1, h2, h3, h4, h5, h6, h7⟩ := h
  exact ⟨m2, m1, l2, l1, h2, h1, h4, h3, h5.symm, fun j e e' => h6 j e' e, h7⟩
theorem Two.fst {B b1 b2 : Nat} {w0 w : World} {L1 L2 : List Cl} (h : Two B w0 w b1 L1 b2 L2) : LedB B w0 w b1 L1 := by
  obtain ⟨m1, m2, l1, l2, h1, h2, h3, h4, h5, h6, h7⟩ := h
  exact ⟨m1, l1, h1, h3, h7⟩
theorem Two.snd {B b1 b2 : Nat} {w0 w : World} {L1 L2 : List Cl} (h : Two B w0 w b1 L1 b2 L2) : LedB B w0 w b2 L2 := h.swap.fst
theorem Two.bel {B b1 b2 : Nat} {w0 w : World} {L1 L2 : List Cl} (h : Two B w0 w b1 L1 b2 L2) : Below B w0 w := h.fst.bel
theorem Two.on {B b1 b2 : Nat} {w0 w w' : World} {L1 L2 : List Cl} (h : Two B w0 w b1 L1 b2 L2) (hb : Below w.heap.size w w') : Two B w0 w' b1 L1 b2 L2 := by
  obtain ⟨m1, m2, l1, l2, h1, h2, h3, h4, h5, h6, h7⟩ := h
  exact ⟨m1, m2, l1.upd (S := fun _ => False) (Upd.of_below hb) id (fun _ _ => id), l2.upd (S := fun _ => False) (Upd.of_below hb) id (fun _ _ => id), h1, h2, h3, h4, h5, h6, h7.trans (hb.mono (by have := l1.lt; omega))⟩
/-- A new ledger beside one. -/
theorem Two.new {B b1 : Nat} {w0 w w' : World} {L1 : List Cl} {b2 : Nat} {m2 : Option Nat} {L2 : List Cl} (h : LedB B w0 w b1 L1) (l2 : Led w' b2 m2 L2) (hb : Below w.heap.size w w') (h2 : w.heap.size ≤ b2) (h3 : ∀ j, m2 = some j → w.heap.size ≤ j) : Two B w0 w' b1 L1 b2 L2 := by
  obtain ⟨m1, l1, k1, k2, k3⟩ := h
  have hlt := l1.lt
  refine ⟨m1, m2, l1.upd (S := fun _ => False) (Upd.of_below hb) id (fun _ _ => id), l2, k1, by omega, k2, fun j e => by have := h3 j e; omega, by omega, fun j e e' => ?_, k3.trans (hb.mono (by omega))⟩
  have := h3 j e'
  have := l1.mlt e
  omega
/-- What Do of the first does to both; S: blocks that stay as they are. -/
theorem Two.took {B b1 b2 : Nat} {w0 w w' : World} {m1 m2 : Option Nat} {L1 L1' L2 : List Cl} (t : Took w b1 m1 L1' w') (l1 : Led w b1 m1 L1) (l2 : Led w b2 m2 L2) (h1 : B ≤ b1) (h2 : B ≤ b2) (h3 : ∀ j, m1 = some j → B ≤ j) (h4 : ∀ j, m2 = some j → B ≤ j) (h5 : b1 ≠ b2) (h6 : ∀ j, m1 = some j → m2 ≠ some j) (h7 : Below B w0 w) : Two B w0 w' b1 L1' b2 L2 := by
  obtain ⟨m1', hl, hmm, hu⟩ := t
  have hl2 : Led w' b2 m2 L2 := l2.upd hu (by
    rintro (e | e)
    · exact h5 e.symm
    · exact map_ne_cells (l1.sm _ e).2 l2.c0 rfl) (fun j e => by
    rintro (e' | e')
    · exact map_ne_cells (l2.sm j e).2 l1.c0 e'
    · exact h6 j e' e)
  refine ⟨m1', m2, hl, hl2, h1, h2, fun j e => ?_, h4, h5, fun j e e' => ?_, h7.trans (hu.below (by have := l1.lt; omega) (fun k hk => ?_))⟩
  · rcases hmm with h | ⟨i, h, hi⟩
    · exact h3 j (h ▸ e)
    · rw [h] at e; cases e; have := l1.lt; omega
  · rcases hmm with h | ⟨i, h, hi⟩
    · exact h6 j (h ▸ e) e'
    · rw [h] at e; cases e; have := l2.mlt e'; omega
  · rcases hk with rfl | hk
    · exact h1
    · exact h3 k hk
/-- Do of the first; a row of cells that is none of the ledger's own stays. -/
theorem do_2 (B : Nat) (w0 : World) (b1 b2 : Nat) (L1 L2 : List Cl) (k s : Int) (v : ByteArray) (hf : (⟨k, s, v⟩ : Opn).fits) (w : World) (h : Two B w0 w b1 L1 b2 L2) : Calls Try.prog 22 #[.pointer (some ⟨b1, 0, none⟩), .agg #[.int .i64 k, .int .i64 s, .string v]] w fun e w' => e = .returned (.agg #[.int .i64 (wd L1 k s v).1, .int .i64 (wd L1 k s v).2.1, .string (wd L1 k s v).2.2]) ∧ Two B w0 w' b1 (dn L1 k s v) b2 L2 ∧ (∀ g i u, g ≠ b1 → w.cell? ⟨g, i, none⟩ = some u → w'.cell? ⟨g, i, none⟩ = some u) ∧ w.heap.size ≤ w'.heap.size := by
  obtain ⟨m1, m2, l1, l2, h1, h2, h3, h4, h5, h6, h7⟩ := h
  refine (do3 b1 m1 L1 k s v hf w l1).mono fun e w' ⟨he, t⟩ => ⟨he, Two.took t l1 l2 h1 h2 h3 h4 h5 h6 h7, fun g i u hg hc => ?_, t.upd.size⟩
  refine (t.upd.cell (p := ⟨g, i, none⟩) (World.block_lt_of_cell? _ _ hc) ?_).trans hc
  rintro (e | e)
  · exact hg e
  · exact map_ne_cells (l1.sm _ e).2 hc rfl
/-- An operation that changes nothing. -/
def qt (k s : Int) (v : ByteArray) : Bool := decide (k = 3 ∨ k = 4 ∨ ck k s v ≠ 0)
theorem dn_quiet {k s : Int} {v : ByteArray} (h : qt k s v = true) (L : List Cl) : dn L k s v = L := by
  have h : k = 3 ∨ k = 4 ∨ ck k s v ≠ 0 := by simpa [qt] using h
  have : (wd L k s v).1 ≠ 1 := by
    unfold wd
    by_cases hc : ck k s v = 0
    · rcases h with rfl | rfl | h
      · simp [hc]; cases gv L s <;> simp
      · simp [hc]
      · exact absurd hc h
    · simp [hc]
  simp [dn, this]
/-- The mathematics of P4.10. -/
theorem gv_dn {L : List Cl} (h : Ok L) (k s : Int) (v : ByteArray) (t : Int) (ht : (wd L k s v).1 = 1 → (wd L k s v).2.1 ≠ t) : gv (dn L k s v) t = gv L t := by
  unfold dn
  split
  · rename_i e
    obtain ⟨_, _, _, _, h5⟩ := wd_written h e
    rw [gv_ins h5, if_neg (ht e)]
  · rfl
theorem wd_slot {L : List Cl} {k s : Int} {v : ByteArray} (hk : k = 1 ∨ k = 3) (h : (wd L k s v).1 = 1) : (wd L k s v).2.1 = s := by
  unfold wd at h ⊢
  by_cases hc : ck k s v = 0
  · rcases hk with rfl | rfl
    · simp only [hc] at h ⊢
      cases hg : gv L s <;> simp [hg] at h ⊢
    · simp only [hc] at h ⊢
      cases hg : gv L s <;> simp [hg] at h ⊢
  · simp [hc] at h
theorem wd_other {L L' : List Cl} {k s : Int} {v : ByteArray} (hk : k = 1 ∨ k = 3) (h : gv L' s = gv L s) : wd L' k s v = wd L k s v := by
  unfold wd
  rw [h]
  rcases hk with rfl | rfl <;> simp
theorem apart_math {L : List Cl} (h : Ok L) {k s : Int} {v : ByteArray} {k' s' : Int} {v' : ByteArray} (hk : k = 1 ∨ k = 3) (hk' : k' = 1 ∨ k' = 3) (hs : s ≠ s') :
    wd (dn L k s v) k' s' v' = wd L k' s' v' ∧ wd (dn L k' s' v') k s v = wd L k s v ∧ dn (dn L k s v) k' s' v' = dn (dn L k' s' v') k s v := by
  have e1 : wd (dn L k s v) k' s' v' = wd L k' s' v' := wd_other hk' (gv_dn h k s v s' (fun e => by rw [wd_slot hk e]; exact hs))
  have e2 : wd (dn L k' s' v') k s v = wd L k s v := wd_other hk (gv_dn h k' s' v' s (fun e => by rw [wd_slot hk' e]; exact hs.symm))
  refine ⟨e1, e2, ?_⟩
  refine up_ext ((h.dn k s v).dn k' s' v').up ((h.dn k' s' v').dn k s v).up (fun p => ?_)
  have u1 : dn (dn L k s v) k' s' v' = if (wd L k' s' v').1 = 1 then ins (wd L k' s' v').2 (dn L k s v) else dn L k s v := by
    rw [← e1]; rfl
  have u2 : dn (dn L k' s' v') k s v = if (wd L k s v).1 = 1 then ins (wd L k s v).2 (dn L k' s' v') else dn L k' s' v' := by
    rw [← e2]; rfl
  rw [u1, u2]
  unfold dn
  by_cases c1 : (wd L k s v).1 = 1 <;> by_cases c2 : (wd L k' s' v').1 = 1 <;> simp [c1, c2, mem_ins]
  constructor
  · rintro (h | h | h) <;> simp [h]
  · rintro (h | h | h) <;> simp [h]

end Go.Proofs.Ytpkcoejjclmocaa
