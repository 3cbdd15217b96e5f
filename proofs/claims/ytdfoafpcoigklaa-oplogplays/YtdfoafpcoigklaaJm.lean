import Derived.Test.YtdfoafpcoigklaaKz
namespace Go.Proofs.Ytdfoafpcoigklaa
open Go.RowKit Go.Maps
open Classical
set_option linter.unusedVariables false
set_option linter.unusedSimpArgs false

theorem ins_sub (p : Cl) : ∀ L : List Cl, L.Sublist (ins p L)
  | [] => List.nil_sublist _
  | y :: r => by
    unfold ins
    split
    · exact List.sublist_cons_self _ _
    · exact (ins_sub p r).cons_cons y
theorem ins_len (p : Cl) : ∀ L : List Cl, (ins p L).length = L.length + 1
  | [] => rfl
  | y :: r => by
    unfold ins
    split
    · simp
    · simp [ins_len p r]
theorem dn_sub (L : List Cl) (k s : Int) (v : ByteArray) : L.Sublist (dn L k s v) := by
  unfold dn
  split
  · exact ins_sub _ _
  · exact List.Sublist.refl _
theorem pl_sub : ∀ (P : List Opn) (L : List Cl), L.Sublist (pl L P)
  | [], L => List.Sublist.refl _
  | o :: r, L => (dn_sub L o.k o.s o.v).trans (pl_sub r _)
theorem pl_append (L : List Cl) (P Q : List Opn) : pl L (P ++ Q) = pl (pl L P) Q := by simp [pl, List.foldl_append]
theorem pl_take_sub (P : List Opn) {n m : Nat} (h : n ≤ m) : (pl [] (P.take n)).Sublist (pl [] (P.take m)) := by
  have e : P.take m = P.take n ++ (P.take m).drop n := by
    conv => lhs; rw [← List.take_append_drop n (P.take m)]
    rw [List.take_take, Nat.min_eq_left h]
  rw [e, pl_append]
  exact pl_sub _ _
/-- How many have written. -/
def wc1 (D : List Rs) : Nat := (D.filter (fun r => decide (r.1 = 1))).length
theorem wc1_take {D : List Rs} {j : Nat} {r : Rs} (h : D[j]? = some r) : wc1 (D.take (j + 1)) = wc1 (D.take j) + if r.1 = 1 then 1 else 0 := by
  rw [List.take_add_one, h]
  simp only [wc1, Option.toList_some, List.filter_append, List.length_append]
  by_cases h1 : r.1 = 1 <;> simp [h1]
theorem wc1_pl : ∀ (P : List Opn) (L : List Cl), (pl L P).length = L.length + wc1 (rl L P)
  | [], L => by simp [pl, rl, wc1]
  | o :: r, L => by
    have ih := wc1_pl r (dn L o.k o.s o.v)
    show (pl (dn L o.k o.s o.v) r).length = _
    rw [ih, rl]
    unfold dn
    by_cases h1 : (wd L o.k o.s o.v).1 = 1
    · rw [if_pos h1, ins_len]
      simp only [wc1, List.filter_cons, h1, decide_true, if_true, List.length_cons]
      omega
    · rw [if_neg h1]
      simp [wc1, List.filter_cons, h1]
/-- One step of the greedy match. -/
theorem sub_step {A C : List Cl} {k i : Nat} {x : Cl} (hC : C.Pairwise (fun p q => p.1 < q.1)) (hx : C[i]? = some x) (h : (A.drop k).Sublist (C.drop i)) :
    (∀ y, A[k]? = some y → y.1 = x.1 → y = x ∧ (A.drop (k + 1)).Sublist (C.drop (i + 1))) ∧ ((∀ y, A[k]? = some y → y.1 ≠ x.1) → (A.drop k).Sublist (C.drop (i + 1))) := by
  have hi := (List.getElem?_eq_some_iff.1 hx).1
  have he := (List.getElem?_eq_some_iff.1 hx).2
  rw [List.drop_eq_getElem_cons hi, he] at h
  have hlt : ∀ y ∈ C.drop (i + 1), x.1 < y.1 := by
    have hp : (C.drop i).Pairwise (fun p q => p.1 < q.1) := hC.sublist (List.drop_sublist _ _)
    rw [List.drop_eq_getElem_cons hi, he] at hp
    exact (List.pairwise_cons.1 hp).1
  refine ⟨fun y hy hs => ?_, fun hn => ?_⟩
  · have hk := (List.getElem?_eq_some_iff.1 hy).1
    have hky := (List.getElem?_eq_some_iff.1 hy).2
    rw [List.drop_eq_getElem_cons hk, hky] at h
    cases h with
    | cons _ h' =>
      have := hlt y (h'.subset (by simp))
      omega
    | cons_cons _ h' => exact ⟨rfl, h'⟩
  · by_cases hk : k < A.length
    · rw [List.drop_eq_getElem_cons hk] at h ⊢
      cases h with
      | cons _ h' => exact h'
      | cons_cons _ h' => exact absurd rfl (hn _ (List.getElem?_eq_getElem hk))
    · rw [List.drop_of_length_le (by omega)]
      exact List.nil_sublist _

end Go.Proofs.Ytdfoafpcoigklaa
