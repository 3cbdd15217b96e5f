import Derived.Test.YtcmjhaljbmhpgaaGreatGSb
namespace Go.Proofs.YtcmjhaljbmhpgaaGreat
open Go.RowKit Go.Maps
open Classical
set_option linter.unusedVariables false
set_option linter.unusedSimpArgs false

/-- The list behind j turns of the document's insertion. -/
def insKb (L : List Bl) (x : Bl) (b : Bool) (j : Nat) : List Bl := if b = true then L.take (Bl.at_ L x) ++ x :: (L.take j).drop (Bl.at_ L x) else L.take j
/-- What the document knows behind j turns. -/
def InsLb (L : List Bl) (x : Bl) (b : Bool) (j : Nat) : Prop := if b = true then Bl.at_ L x < j else ∀ (i : Nat) (y : Bl), i < j → L[i]? = some y → ¬ x.n < y.n
theorem at_firstKb {L : List Bl} {x y : Bl} {j : Nat} (h : InsLb L x false j) (hy : L[j]? = some y) (hx : x.n < y.n) : Bl.at_ L x = j := by
  have h : ∀ (i : Nat) (y : Bl), i < j → L[i]? = some y → ¬ x.n < y.n := h
  unfold Bl.at_
  obtain ⟨hj, e⟩ := List.getElem?_eq_some_iff.1 hy
  have : L.findIdx? (fun y => decide (x.n < y.n)) = some j := by
    rw [List.findIdx?_eq_some_iff_getElem]
    refine ⟨hj, by rw [e]; simpa using hx, fun i hi => ?_⟩
    have := h i _ hi (List.getElem?_eq_getElem (by omega))
    simpa using this
  rw [this]
  rfl
theorem at_noneKb {L : List Bl} {x : Bl} (h : InsLb L x false L.length) : Bl.at_ L x = L.length := by
  have h : ∀ (i : Nat) (y : Bl), i < L.length → L[i]? = some y → ¬ x.n < y.n := h
  unfold Bl.at_
  have : L.findIdx? (fun y => decide (x.n < y.n)) = none := by
    rw [List.findIdx?_eq_none_iff]
    intro y hy
    obtain ⟨i, hi, rfl⟩ := List.mem_iff_getElem.1 hy
    have := h i _ hi (List.getElem?_eq_getElem hi)
    simpa using this
  rw [this]
  rfl
theorem insK_endb {L : List Bl} {x : Bl} : insKb L x true L.length = Bl.ins L x := by
  unfold insKb Bl.ins
  rw [if_pos rfl, List.take_length]
theorem insK_noneb {L : List Bl} {x : Bl} (h : InsLb L x false L.length) : insKb L x false L.length ++ [x] = Bl.ins L x := by
  unfold insKb Bl.ins
  rw [if_neg (by simp), at_noneKb h, List.take_length, List.drop_length]
theorem insK_sameb {L : List Bl} {x y : Bl} {j : Nat} (hy : L[j]? = some y) : insKb L x false j ++ [y] = insKb L x false (j + 1) := by
  unfold insKb
  rw [if_neg (by simp), if_neg (by simp), List.take_add_one, hy]
  rfl
theorem insK_onb {L : List Bl} {x y : Bl} {j : Nat} (h : InsLb L x true j) (hy : L[j]? = some y) : insKb L x true j ++ [y] = insKb L x true (j + 1) := by
  have h : Bl.at_ L x < j := h
  obtain ⟨hj, _⟩ := List.getElem?_eq_some_iff.1 hy
  unfold insKb
  rw [if_pos rfl, if_pos rfl, List.take_add_one, hy, Option.toList_some, List.drop_append_of_le_length (by rw [List.length_take]; omega)]
  simp
theorem insK_turnb {L : List Bl} {x y : Bl} {j : Nat} (h : InsLb L x false j) (hy : L[j]? = some y) (hx : x.n < y.n) : insKb L x false j ++ [x] ++ [y] = insKb L x true (j + 1) := by
  have e := at_firstKb h hy hx
  obtain ⟨hj, _⟩ := List.getElem?_eq_some_iff.1 hy
  unfold insKb
  rw [if_neg (by simp), if_pos rfl, e, List.take_add_one, hy, Option.toList_some, List.drop_left' (by rw [List.length_take]; omega)]
  simp
theorem InsL_sameb {L : List Bl} {x y : Bl} {j : Nat} (h : InsLb L x false j) (hy : L[j]? = some y) (hx : ¬ x.n < y.n) : InsLb L x false (j + 1) := by
  have h : ∀ (i : Nat) (y : Bl), i < j → L[i]? = some y → ¬ x.n < y.n := h
  show ∀ (i : Nat) (y : Bl), i < j + 1 → L[i]? = some y → ¬ x.n < y.n
  intro i z hi hz
  by_cases e : i = j
  · subst e
    rw [hy] at hz
    cases hz
    exact hx
  · exact h i z (by omega) hz
theorem InsL_onb {L : List Bl} {x : Bl} {j : Nat} (h : InsLb L x true j) : InsLb L x true (j + 1) := by
  have h : Bl.at_ L x < j := h
  show Bl.at_ L x < j + 1
  omega
theorem InsL_turnb {L : List Bl} {x y : Bl} {j : Nat} (h : InsLb L x false j) (hy : L[j]? = some y) (hx : x.n < y.n) : InsLb L x true (j + 1) := by
  show Bl.at_ L x < j + 1
  rw [at_firstKb h hy hx]
  omega
theorem insK_lenb (L : List Bl) (x : Bl) (b : Bool) (j : Nat) (n : Nat) (hn : L.length = n) (hj : j ≤ n) (h : InsLb L x b j) : (insKb L x b j).length ≤ j + 1 := by
  unfold insKb
  cases b with
  | true =>
    have h : Bl.at_ L x < j := h
    rw [if_pos rfl]
    simp
    omega
  | false =>
    rw [if_neg (by simp)]
    simp
    omega
/-- What stands in the list by a put, where the voter is found at j. -/
theorem put_foundKb {L : List Bl} {x y : Bl} {j : Nat} (h : ∀ (i : Nat) (z : Bl), i < j → L[i]? = some z → z.n ≠ x.n) (hy : L[j]? = some y) (hx : y.n = x.n) : Bl.put L x = if Bl.rep x y = true then L.set j x else L := by
  unfold Bl.put
  obtain ⟨hj, e⟩ := List.getElem?_eq_some_iff.1 hy
  have : L.findIdx? (fun y => decide (y.n = x.n)) = some j := by
    rw [List.findIdx?_eq_some_iff_getElem]
    refine ⟨hj, by rw [e]; simpa using hx, fun i hi => ?_⟩
    have := h i _ hi (List.getElem?_eq_getElem (by omega))
    simpa using this
  rw [this]
  dsimp only
  rw [List.getD_eq_getElem?_getD, hy, Option.getD_some]
theorem put_newKb {L : List Bl} {x : Bl} (h : ∀ (i : Nat) (z : Bl), i < L.length → L[i]? = some z → z.n ≠ x.n) : Bl.put L x = Bl.ins L x := by
  unfold Bl.put
  have : L.findIdx? (fun y => decide (y.n = x.n)) = none := by
    rw [List.findIdx?_eq_none_iff]
    intro y hy
    obtain ⟨i, hi, rfl⟩ := List.mem_iff_getElem.1 hy
    have := h i _ hi (List.getElem?_eq_getElem hi)
    simpa using this
  rw [this]

end Go.Proofs.YtcmjhaljbmhpgaaGreat
