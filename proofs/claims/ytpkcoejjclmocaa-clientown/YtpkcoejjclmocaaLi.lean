import Derived.Test.YtpkcoejjclmocaaLg
namespace Go.Proofs.Ytpkcoejjclmocaa
open Go.RowKit Go.Maps
set_option linter.unusedVariables false

/-- The cells behind operations. -/
def pl (L : List Cl) (P : List Opn) : List Cl := P.foldl (fun L o => dn L o.k o.s o.v) L
theorem pl_snoc (L : List Cl) (P : List Opn) (o : Opn) : pl L (P ++ [o]) = dn (pl L P) o.k o.s o.v := by simp [pl]
theorem pl_take (L : List Cl) {P : List Opn} {i : Nat} {o : Opn} (h : P[i]? = some o) : pl L (P.take (i + 1)) = dn (pl L (P.take i)) o.k o.s o.v := by
  rw [List.take_add_one, h]
  exact pl_snoc _ _ _
theorem Ok.pl {L : List Cl} (h : Ok L) : ∀ P : List Opn, Ok (pl L P) := by
  intro P
  induction P generalizing L with
  | nil => exact h
  | cons o r ih => exact ih (h.dn o.k o.s o.v)
theorem bh_mem {L : List Cl} (h : ∀ p ∈ L, 0 ≤ p.1) (hn : L ≠ []) : ∃ p ∈ L, p.1 + 1 = bh L := by
  induction L with
  | nil => exact absurd rfl hn
  | cons y r ih =>
    by_cases hr : r = []
    · subst hr
      have := h y (by simp)
      exact ⟨y, by simp, by simp [bh]; omega⟩
    · obtain ⟨p, hp, e⟩ := ih (fun q hq => h q (by simp [hq])) hr
      by_cases hc : y.1 + 1 ≤ bh r
      · exact ⟨p, by simp [hp], by simp [bh]; omega⟩
      · exact ⟨y, by simp, by simp [bh]; omega⟩
/-- The greatest slot below k that is taken. -/
def gs (L : List Cl) : Nat → Int
  | 0 => -1
  | k + 1 => if (gv L k).isSome then (k : Int) else gs L k
theorem gs_props (L : List Cl) : ∀ k : Nat, -1 ≤ gs L k ∧ gs L k < k ∧ (∀ s : Int, gs L k < s → s < k → gv L s = none) ∧ (0 ≤ gs L k → (gv L (gs L k)).isSome)
  | 0 => ⟨by simp [gs], by simp [gs], fun s h1 h2 => by simp [gs] at h1; omega, fun h => by simp [gs] at h⟩
  | k + 1 => by
    obtain ⟨h0, h1, h2, h3⟩ := gs_props L k
    unfold gs
    split
    · rename_i h
      exact ⟨by omega, by omega, fun s a b => by omega, fun _ => h⟩
    · rename_i h
      refine ⟨h0, by omega, fun s a b => ?_, h3⟩
      by_cases e : s = k
      · subst e
        simpa using h
      · exact h2 s a (by omega)
theorem gs_all {L : List Cl} (h : Ok L) : gs L 1024 = bh L - 1 := by
  obtain ⟨h0, h1, h2, h3⟩ := gs_props L 1024
  generalize gs L 1024 = g at *
  by_cases hn : L = []
  · subst hn
    have : ¬ 0 ≤ g := fun e => by have := h3 e; simp [gv] at this
    simp [bh]
    omega
  · obtain ⟨p, hp, e⟩ := bh_mem (fun p hp => (h.may p hp).1) hn
    have hg := gv_of_mem h.up hp
    have hm := h.may p hp
    by_cases c1 : g < p.1
    · have := h2 p.1 c1 (by omega)
      rw [this] at hg
      cases hg
    · by_cases c2 : 0 ≤ g
      · have h4 := h3 c2
        obtain ⟨v, hv⟩ := Option.isSome_iff_exists.1 h4
        have := bh_gt (gv_mem hv)
        dsimp only at this
        omega
      · omega
theorem Ops.later {W W' : World} {a : Option Addr} {P : List Opn} (h : Ops W a P) (b : Below W.heap.size W W') : Ops W' a P := fun i hi => by
  obtain ⟨q, o, e, c0, c1, c2⟩ := h i hi
  have hl := World.block_lt_of_cell? _ _ c0
  exact ⟨q, o, e, (b.cell (p := ⟨q, o + i * 3, none⟩) hl).trans c0, (b.cell (p := ⟨q, o + i * 3 + 1, none⟩) hl).trans c1, (b.cell (p := ⟨q, o + i * 3 + 2, none⟩) hl).trans c2⟩
theorem eql_same (r : Rs) (w : World) : (binOp .eql 43 (.agg #[.int .i64 r.1, .int .i64 r.2.1, .string r.2.2]) (.agg #[.int .i64 r.1, .int .i64 r.2.1, .string r.2.2])).run Try.prog w = .ok (.bool true) w := by rw [eql_res]; simp

end Go.Proofs.Ytpkcoejjclmocaa
