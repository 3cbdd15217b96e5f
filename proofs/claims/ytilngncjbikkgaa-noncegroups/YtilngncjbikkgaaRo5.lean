import Derived.Test.YtilngncjbikkgaaRo4
namespace Go.Proofs.Ytilngncjbikkgaa
open Go.RowKit
set_option linter.unusedVariables false

/-- A Draw of the document's Pairs, whatever its list: as the program's Pairs answers, of the reading and of how many it has made. -/
theorem qdraw_any (B p po c co : Nat) (K : Nat → Prop) (f : Nat → Value) (R rd : Int) (N : Nat) (v : Value) (w : World) (h : QPrs B w p po c co K f rd N v) (hc : QClk w c co R) (hB : B ≤ w.heap.size) :
    Calls Try.prog 32 #[.pointer (some ⟨p, po, none⟩)] w fun e w' => e = .returned (.tuple #[.agg #[.int .u64 (dH R rd N), .int .u64 (dL R rd N)], .int .i64 (dE R rd N)]) ∧ ∃ v', QPrs B w' p po c co K f (dR R rd N) (dM R rd N).toNat v' ∧ (v'.ownBlock = v.ownBlock ∨ ∃ k, v'.ownBlock = some k ∧ w.heap.size ≤ k) ∧ Upd (fun k => k = p ∨ v.ownBlock = some k) w w' := by
  by_cases hz : N = 0 ∨ rd ≠ R
  · have hm : made R rd (N : Int) = 0 := by
      unfold made
      split
      · rename_i e
        rcases hz with hz | hz
        · rw [hz]; rfl
        · exact absurd e hz
      · rfl
    have hk : ¬ (0 : Int) = 65535 := by omega
    unfold dH dL dE dR dM
    rw [hm, if_neg hk, if_neg hk, if_neg hk, if_neg hk, if_neg hk]
    refine (qdraw_zero B p po c co K f R rd N v w h hc hz hB).mono ?_
    rintro e w' ⟨rfl, v', P', hv, u⟩
    exact ⟨rfl, v', P', .inr hv, u.mono (fun _ _ e => .inl e)⟩
  · have hN : N ≠ 0 := fun e => hz (.inl e)
    have hr : rd = R := by
      rcases Classical.em (rd = R) with e | e
      · exact e
      · exact absurd (.inr e) hz
    have hm : made R rd (N : Int) = N := by unfold made; rw [if_pos hr]
    unfold dH dL dE dR dM
    by_cases hf : N = 65535
    · have hk : (N : Int) = 65535 := by omega
      rw [hm, if_pos hk, if_pos hk, if_pos hk, if_pos hk, if_pos hk]
      refine (qdraw_end B p po c co K f R rd N v w h hc hr hf).mono ?_
      rintro e w' ⟨rfl, b⟩
      refine ⟨rfl, v, ?_, .inl rfl, Upd.of_below b⟩
      have := h.upd (S := fun _ => False) (Upd.of_below b) id (fun _ _ => id)
      rwa [show ((N : Int)).toNat = N from by omega]
    · have hk : ¬ (N : Int) = 65535 := by omega
      rw [hm, if_neg hk, if_neg hk, if_neg hk, if_neg hk, if_neg hk]
      refine (qdraw_more B p po c co K f R rd N v w h hc hr (by have := h.m1; omega) (by omega) hB).mono ?_
      rintro e w' ⟨rfl, v', P', hv, u⟩
      refine ⟨rfl, v', ?_, hv, u⟩
      rwa [show ((N : Int) + 1).toNat = N + 1 from by omega]

end Go.Proofs.Ytilngncjbikkgaa
