import Derived.Test.YtcmjhaljbmhpgaaGreatSw9
namespace Go.Proofs.YtcmjhaljbmhpgaaGreat
open Go.RowKit Go.Maps
open Classical
set_option linter.unusedVariables false
set_option linter.unusedSimpArgs false

/-- The list behind j turns of the document's insertion. -/
def insKw (L : List An) (x : An) (b : Bool) (j : Nat) : List An := if b = true then L.take (An.at_ L x) ++ x :: (L.take j).drop (An.at_ L x) else L.take j
/-- What the document knows behind j turns. -/
def InsLw (L : List An) (x : An) (b : Bool) (j : Nat) : Prop := if b = true then An.at_ L x < j else ∀ (i : Nat) (y : An), i < j → L[i]? = some y → ¬ x.n < y.n
theorem at_firstKw {L : List An} {x y : An} {j : Nat} (h : InsLw L x false j) (hy : L[j]? = some y) (hx : x.n < y.n) : An.at_ L x = j := by
  have h : ∀ (i : Nat) (y : An), i < j → L[i]? = some y → ¬ x.n < y.n := h
  unfold An.at_
  obtain ⟨hj, e⟩ := List.getElem?_eq_some_iff.1 hy
  have : L.findIdx? (fun y => decide (x.n < y.n)) = some j := by
    rw [List.findIdx?_eq_some_iff_getElem]
    refine ⟨hj, by rw [e]; simpa using hx, fun i hi => ?_⟩
    have := h i _ hi (List.getElem?_eq_getElem (by omega))
    simpa using this
  rw [this]
  rfl
theorem at_noneKw {L : List An} {x : An} (h : InsLw L x false L.length) : An.at_ L x = L.length := by
  have h : ∀ (i : Nat) (y : An), i < L.length → L[i]? = some y → ¬ x.n < y.n := h
  unfold An.at_
  have : L.findIdx? (fun y => decide (x.n < y.n)) = none := by
    rw [List.findIdx?_eq_none_iff]
    intro y hy
    obtain ⟨i, hi, rfl⟩ := List.mem_iff_getElem.1 hy
    have := h i _ hi (List.getElem?_eq_getElem hi)
    simpa using this
  rw [this]
  rfl
theorem insK_endw {L : List An} {x : An} : insKw L x true L.length = An.ins L x := by
  unfold insKw An.ins
  rw [if_pos rfl, List.take_length]
theorem insK_nonew {L : List An} {x : An} (h : InsLw L x false L.length) : insKw L x false L.length ++ [x] = An.ins L x := by
  unfold insKw An.ins
  rw [if_neg (by simp), at_noneKw h, List.take_length, List.drop_length]
theorem insK_samew {L : List An} {x y : An} {j : Nat} (hy : L[j]? = some y) : insKw L x false j ++ [y] = insKw L x false (j + 1) := by
  unfold insKw
  rw [if_neg (by simp), if_neg (by simp), List.take_add_one, hy]
  rfl
theorem insK_onw {L : List An} {x y : An} {j : Nat} (h : InsLw L x true j) (hy : L[j]? = some y) : insKw L x true j ++ [y] = insKw L x true (j + 1) := by
  have h : An.at_ L x < j := h
  obtain ⟨hj, _⟩ := List.getElem?_eq_some_iff.1 hy
  unfold insKw
  rw [if_pos rfl, if_pos rfl, List.take_add_one, hy, Option.toList_some, List.drop_append_of_le_length (by rw [List.length_take]; omega)]
  simp
theorem insK_turnw {L : List An} {x y : An} {j : Nat} (h : InsLw L x false j) (hy : L[j]? = some y) (hx : x.n < y.n) : insKw L x false j ++ [x] ++ [y] = insKw L x true (j + 1) := by
  have e := at_firstKw h hy hx
  obtain ⟨hj, _⟩ := List.getElem?_eq_some_iff.1 hy
  unfold insKw
  rw [if_neg (by simp), if_pos rfl, e, List.take_add_one, hy, Option.toList_some, List.drop_left' (by rw [List.length_take]; omega)]
  simp
theorem InsL_samew {L : List An} {x y : An} {j : Nat} (h : InsLw L x false j) (hy : L[j]? = some y) (hx : ¬ x.n < y.n) : InsLw L x false (j + 1) := by
  have h : ∀ (i : Nat) (y : An), i < j → L[i]? = some y → ¬ x.n < y.n := h
  show ∀ (i : Nat) (y : An), i < j + 1 → L[i]? = some y → ¬ x.n < y.n
  intro i z hi hz
  by_cases e : i = j
  · subst e
    rw [hy] at hz
    cases hz
    exact hx
  · exact h i z (by omega) hz
theorem InsL_onw {L : List An} {x : An} {j : Nat} (h : InsLw L x true j) : InsLw L x true (j + 1) := by
  have h : An.at_ L x < j := h
  show An.at_ L x < j + 1
  omega
theorem InsL_turnw {L : List An} {x y : An} {j : Nat} (h : InsLw L x false j) (hy : L[j]? = some y) (hx : x.n < y.n) : InsLw L x true (j + 1) := by
  show An.at_ L x < j + 1
  rw [at_firstKw h hy hx]
  omega
theorem insK_lenw (L : List An) (x : An) (b : Bool) (j : Nat) (n : Nat) (hn : L.length = n) (hj : j ≤ n) (h : InsLw L x b j) : (insKw L x b j).length ≤ j + 1 := by
  unfold insKw
  cases b with
  | true =>
    have h : An.at_ L x < j := h
    rw [if_pos rfl]
    simp
    omega
  | false =>
    rw [if_neg (by simp)]
    simp
    omega
/-- What stands in the list by a put, where the voter is found at j. -/
theorem put_foundKw {L : List An} {x y : An} {j : Nat} (h : ∀ (i : Nat) (z : An), i < j → L[i]? = some z → z.n ≠ x.n) (hy : L[j]? = some y) (hx : y.n = x.n) : An.put L x = if An.rep x y = true then L.set j x else L := by
  unfold An.put
  obtain ⟨hj, e⟩ := List.getElem?_eq_some_iff.1 hy
  have : L.findIdx? (fun y => decide (y.n = x.n)) = some j := by
    rw [List.findIdx?_eq_some_iff_getElem]
    refine ⟨hj, by rw [e]; simpa using hx, fun i hi => ?_⟩
    have := h i _ hi (List.getElem?_eq_getElem (by omega))
    simpa using this
  rw [this]
  dsimp only
  rw [List.getD_eq_getElem?_getD, hy, Option.getD_some]
theorem put_newKw {L : List An} {x : An} (h : ∀ (i : Nat) (z : An), i < L.length → L[i]? = some z → z.n ≠ x.n) : An.put L x = An.ins L x := by
  unfold An.put
  have : L.findIdx? (fun y => decide (y.n = x.n)) = none := by
    rw [List.findIdx?_eq_none_iff]
    intro y hy
    obtain ⟨i, hi, rfl⟩ := List.mem_iff_getElem.1 hy
    have := h i _ hi (List.getElem?_eq_getElem hi)
    simpa using this
  rw [this]

end Go.Proofs.YtcmjhaljbmhpgaaGreat
