import Derived.Test.YtifhdelkmhlcoabAm
import Derived.Test.YtifhdelkmhlcoabNc
namespace Go.Proofs.Ytifhdelkmhlcoab
open Go.RowKit
set_option linter.unusedVariables false

/-- What holds of the draws made so far, the reading and the memory. -/
def RInv (L : List (Int × Int)) (R rd md lst : Int) (wp : Bool) : Prop :=
  md ≤ L.length ∧ ((L = [] ∧ rd = 0 ∧ md = 0) ∨ ∃ lo, L.getLast? = some (lst, lo) ∧ lst ≤ R ∧ 1 ≤ lo ∧ (lst, 1) ∈ L ∧ (wp = true → rd = 0 ∧ md = 0) ∧ (wp = false → rd = lst ∧ md = lo))
theorem RInv.start (R : Int) : RInv [] R 0 0 0 false := ⟨by simp, .inl ⟨rfl, rfl, rfl⟩⟩
theorem RInv.pass {L : List (Int × Int)} {R rd md lst : Int} {wp : Bool} (h : RInv L R rd md lst wp) {R' : Int} (hR : R ≤ R') : RInv L R' rd md lst wp := by
  obtain ⟨h1, h2⟩ := h
  refine ⟨h1, ?_⟩
  rcases h2 with h2 | ⟨lo, e1, e2, e3, e4, e5, e6⟩
  · exact .inl h2
  · exact .inr ⟨lo, e1, by omega, e3, e4, e5, e6⟩
theorem RInv.wipe {L : List (Int × Int)} {R rd md lst : Int} {wp : Bool} (h : RInv L R rd md lst wp) : RInv L R 0 0 lst true := by
  obtain ⟨h1, h2⟩ := h
  refine ⟨by omega, ?_⟩
  rcases h2 with h2 | ⟨lo, e1, e2, e3, e4, e5, e6⟩
  · exact .inl ⟨h2.1, rfl, rfl⟩
  · exact .inr ⟨lo, e1, e2, e3, e4, fun _ => ⟨rfl, rfl⟩, fun h => by cases h⟩
theorem RInv.full {L : List (Int × Int)} {R rd md lst : Int} {wp : Bool} (h : RInv L R rd md lst wp) (hk : made R rd md = 65535) : (65535 : Int) ≤ L.length ∧ wp = false ∧ lst = R := by
  obtain ⟨h1, h2⟩ := h
  unfold made at hk
  split at hk
  · rename_i hr
    refine ⟨by omega, ?_⟩
    rcases h2 with ⟨_, _, h2⟩ | ⟨lo, e1, e2, e3, e4, e5, e6⟩
    · omega
    · cases wp with
      | true => have := (e5 rfl).2; omega
      | false => have := e6 rfl; exact ⟨rfl, by omega⟩
  · omega
theorem RInv.draw {L : List (Int × Int)} {R rd md lst : Int} {wp : Bool} (h : RInv L R rd md lst wp) (h0 : 0 ≤ md) : RInv (L ++ [(R, made R rd md + 1)]) R R (made R rd md + 1) R false := by
  obtain ⟨h1, h2⟩ := h
  have hm : made R rd md ≤ L.length ∧ 0 ≤ made R rd md := by unfold made; split <;> omega
  refine ⟨by simp; omega, .inr ⟨made R rd md + 1, by simp, by omega, by omega, ?_, (fun h => by cases h), fun _ => ⟨rfl, rfl⟩⟩⟩
  by_cases hk : made R rd md = 0
  · rw [hk]; simp
  · have hr : rd = R ∧ md ≠ 0 := by
      unfold made at hk
      split at hk
      · rename_i hr; exact ⟨hr, hk⟩
      · omega
    rcases h2 with ⟨_, _, h2⟩ | ⟨lo, e1, e2, e3, e4, e5, e6⟩
    · omega
    · cases wp with
      | true => have := (e5 rfl).2; omega
      | false =>
        have := e6 rfl
        obtain rfl : lst = R := by omega
        exact List.mem_append_left _ e4
theorem RInv.again {L : List (Int × Int)} {R rd md : Int} (h : RInv L R rd md R true) (hl : L ≠ []) : made R rd md = 0 ∧ (R, 1) ∈ L := by
  obtain ⟨h1, h2⟩ := h
  rcases h2 with ⟨h2, _⟩ | ⟨lo, e1, e2, e3, e4, e5, e6⟩
  · exact absurd h2 hl
  · have := e5 rfl
    refine ⟨?_, e4⟩
    unfold made
    split <;> omega
theorem RInv.above {L : List (Int × Int)} {R rd md lst : Int} {wp : Bool} (h : RInv L R rd md lst wp) (h0 : 0 ≤ md) (hl : L ≠ []) (hn : ¬ (wp = true ∧ R = lst)) : ∃ x y, L[L.length - 1]? = some (x, y) ∧ cmpD x y R (made R rd md + 1) = -1 := by
  obtain ⟨h1, h2⟩ := h
  rcases h2 with ⟨h2, _⟩ | ⟨lo, e1, e2, e3, e4, e5, e6⟩
  · exact absurd h2 hl
  · refine ⟨lst, lo, by rw [← List.getLast?_eq_getElem?]; exact e1, ?_⟩
    by_cases hr : lst = R
    · subst hr
      cases wp with
      | true => exact absurd ⟨rfl, rfl⟩ hn
      | false =>
        obtain ⟨rfl, rfl⟩ := e6 rfl
        unfold cmpD cmpI
        rw [if_pos rfl, if_pos (by simp [made]; omega)]
    · unfold cmpD cmpI
      rw [if_neg hr, if_pos (by omega)]
theorem pR_le (R n : Int) (h : 0 ≤ n) : R ≤ pR R n := by unfold pR; split <;> omega

end Go.Proofs.Ytifhdelkmhlcoab
