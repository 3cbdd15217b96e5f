import Derived.Test.YtpkcoejjclmocaaLr
namespace Go.Proofs.Ytpkcoejjclmocaa
open Go.RowKit
set_option linter.unusedVariables false

theorem belN {B : Nat} {w w' : World} (h : Below B w w') (n : Nat) : Below B w (w'.drewN n) := ⟨h.os, h.tape, h.output, h.size, h.block⟩
theorem ins_last {c : Cl} : ∀ {L : List Cl}, (∀ p ∈ L, p.1 < c.1) → ins c L = L ++ [c]
  | [], _ => rfl
  | y :: r, h => by
    have h1 := h y (by simp)
    have h2 : ¬ c.1 < y.1 := by omega
    simp only [ins, h2, if_false, List.cons_append]
    rw [ins_last (fun p hp => h p (by simp [hp]))]
theorem bh_le_iff {L : List Cl} {s : Int} (hs : 0 ≤ s) : bh L ≤ s ↔ ∀ p ∈ L, p.1 < s := by
  induction L with
  | nil => simp [bh, hs]
  | cons y r ih =>
    have : bh (y :: r) ≤ s ↔ y.1 + 1 ≤ s ∧ bh r ≤ s := by simp only [bh]; omega
    rw [this, ih]
    simp
    omega
/-- What From asks of a cell behind these. -/
def fitC (L : List Cl) (c : Cl) : Prop := (0 ≤ c.1 ∧ c.1 < 1024) ∧ c.2.size ≤ 64 ∧ bh L ≤ c.1
theorem ok_snoc {L : List Cl} (h : Ok L) (c : Cl) : Ok (L ++ [c]) ↔ fitC L c := by
  constructor
  · intro ⟨hu, hm⟩
    have := hm c (by simp)
    refine ⟨⟨this.1, this.2.1⟩, this.2.2, (bh_le_iff this.1).2 (fun p hp => ?_)⟩
    exact (List.pairwise_append.1 hu).2.2 p hp c (by simp)
  · intro ⟨h1, h2, h3⟩
    refine ⟨List.pairwise_append.2 ⟨h.up, by simp, fun p hp q hq => ?_⟩, fun p hp => ?_⟩
    · simp at hq
      subst hq
      exact (bh_le_iff h1.1).1 h3 p hp
    · rcases List.mem_append.1 hp with hp | hp
      · exact h.may p hp
      · simp at hp
        subst hp
        exact ⟨h1.1, h1.2, h2⟩
theorem Ok.take {L : List Cl} (h : Ok L) (k : Nat) : Ok (L.take k) :=
  ⟨h.up.sublist (List.take_sublist _ _), fun p hp => h.may p (List.mem_of_mem_take hp)⟩
theorem SlC.later {w w' : World} {v : Value} {D : List Cl} {a : Option Addr} {c : Nat} (h : SlC w v D a c) (hb : Below w.heap.size w w') : SlC w' v D a c :=
  h.upd (S := fun _ => False) (Upd.of_below hb) (fun _ _ _ => id)
end Go.Proofs.Ytpkcoejjclmocaa
