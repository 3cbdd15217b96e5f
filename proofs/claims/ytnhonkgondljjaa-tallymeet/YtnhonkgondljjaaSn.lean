import Derived.Test.YtnhonkgondljjaaSq
import Derived.Test.YtnhonkgondljjaaSw9
namespace Go.Proofs.Ytnhonkgondljjaa
open Go.RowKit Go.Maps
open Classical
set_option linter.unusedVariables false
set_option linter.unusedSimpArgs false

/-- A list of nodes with one put in. -/
def insN (l : List Int) (v : Int) : List Int := match l.findIdx? (fun y => decide (y = v)) with
  | some _ => l
  | none => l.take ((l.findIdx? (fun y => decide (v < y))).getD l.length) ++ v :: l.drop ((l.findIdx? (fun y => decide (v < y))).getD l.length)
theorem findIdx_map {α : Type} (f : α → Int) (p : Int → Bool) (L : List α) : (L.map f).findIdx? p = L.findIdx? (fun x => p (f x)) := by
  induction L with
  | nil => rfl
  | cons x r ih => simp only [List.map_cons, List.findIdx?_cons, ih]
theorem Mk.put_n (L : List Mk) (x : Mk) : (Mk.put L x).map (·.n) = insN (L.map (·.n)) x.n := by
  unfold Mk.put insN Mk.ins Mk.at_
  simp only [findIdx_map, List.length_map]
  cases h : L.findIdx? (fun y => decide (y.n = x.n)) with
  | none => simp only [List.map_append, List.map_take, List.map_cons, List.map_drop]
  | some i =>
    have h1 := List.findIdx?_eq_some_iff_getElem.1 h
    obtain ⟨hi, hx, _⟩ := h1
    have hx : L[i].n = x.n := of_decide_eq_true hx
    dsimp only
    split
    · apply List.ext_getElem?
      intro j
      rw [List.getElem?_map, List.getElem?_map, List.getElem?_set]
      by_cases e : i = j
      · subst e
        simp [hi, hx]
      · rw [if_neg e]
    · rfl
theorem An.put_n (L : List An) (x : An) : (An.put L x).map (·.n) = insN (L.map (·.n)) x.n := by
  unfold An.put insN An.ins An.at_
  simp only [findIdx_map, List.length_map]
  cases h : L.findIdx? (fun y => decide (y.n = x.n)) with
  | none => simp only [List.map_append, List.map_take, List.map_cons, List.map_drop]
  | some i =>
    have h1 := List.findIdx?_eq_some_iff_getElem.1 h
    obtain ⟨hi, hx, _⟩ := h1
    have hx : L[i].n = x.n := of_decide_eq_true hx
    dsimp only
    split
    · apply List.ext_getElem?
      intro j
      rw [List.getElem?_map, List.getElem?_map, List.getElem?_set]
      by_cases e : i = j
      · subst e
        simp [hi, hx]
      · rw [if_neg e]
    · rfl
theorem mem_insN {l : List Int} {v y : Int} : y ∈ insN l v ↔ y ∈ l ∨ y = v := by
  unfold insN
  cases h : l.findIdx? (fun y => decide (y = v)) with
  | some i =>
    obtain ⟨hi, hx, _⟩ := List.findIdx?_eq_some_iff_getElem.1 h
    have hx : l[i] = v := of_decide_eq_true hx
    refine ⟨fun h => .inl h, fun h => h.elim id (fun e => ?_)⟩
    rw [e, ← hx]
    exact List.getElem_mem hi
  | none =>
    dsimp only
    generalize (l.findIdx? (fun y => decide (v < y))).getD l.length = k
    rw [List.mem_append, List.mem_cons]
    constructor
    · rintro (h | h | h)
      · exact .inl (List.mem_of_mem_take h)
      · exact .inr h
      · exact .inl (List.mem_of_mem_drop h)
    · rintro (h | h)
      · rw [← List.take_append_drop k l, List.mem_append] at h
        exact h.elim .inl (fun h => .inr (.inr h))
      · exact .inr (.inl h)
theorem insN_sorted {l : List Int} {v : Int} (hs : l.Pairwise (· < ·)) : (insN l v).Pairwise (· < ·) := by
  unfold insN
  cases h : l.findIdx? (fun y => decide (y = v)) with
  | some i => exact hs
  | none =>
    have hne : ∀ y ∈ l, y ≠ v := fun y hy e => by
      have := (List.findIdx?_eq_none_iff.1 h) y hy
      simp [e] at this
    dsimp only
    cases h2 : l.findIdx? (fun y => decide (v < y)) with
    | none =>
      have hlt : ∀ y ∈ l, y < v := fun y hy => by
        have := (List.findIdx?_eq_none_iff.1 h2) y hy
        have := hne y hy
        simp at *
        omega
      simp only [Option.getD_none, List.take_length, List.drop_length]
      rw [List.pairwise_append]
      exact ⟨hs, by simp, fun a ha b hb => by simp at hb; subst hb; exact hlt a ha⟩
    | some i =>
      obtain ⟨hi, hx, hn⟩ := List.findIdx?_eq_some_iff_getElem.1 h2
      have hx : v < l[i] := of_decide_eq_true hx
      simp only [Option.getD_some]
      have hsplit := hs
      rw [← List.take_append_drop i l, List.pairwise_append] at hsplit
      obtain ⟨h1, h3, h4⟩ := hsplit
      rw [List.pairwise_append, List.pairwise_cons]
      have hge : ∀ y ∈ l.drop i, v < y := fun y hy => by
        rw [List.drop_eq_getElem_cons hi, List.pairwise_cons] at h3
        rw [List.drop_eq_getElem_cons hi] at hy
        rcases List.mem_cons.1 hy with e | hy
        · rw [e]; exact hx
        · have := h3.1 y hy
          omega
      have hle : ∀ y ∈ l.take i, y < v := fun y hy => by
        obtain ⟨j, hj, rfl⟩ := List.mem_iff_getElem.1 hy
        rw [List.length_take] at hj
        have := hn j (by omega)
        rw [List.getElem_take]
        have h5 := hne l[j] (List.getElem_mem _)
        simp at this
        omega
      exact ⟨h1, ⟨hge, h3⟩, fun a ha b hb => by
        rcases List.mem_cons.1 hb with e | hb
        · rw [e]; exact hle a ha
        · exact h4 a ha b hb⟩
theorem nodup_of_sorted {l : List Int} (h : l.Pairwise (· < ·)) : l.Nodup := h.imp (fun h e => by omega)
/-- Of N whole numbers there are N at most. -/
theorem pig : ∀ (N : Nat) (l : List Int), l.Nodup → (∀ x ∈ l, 0 ≤ x ∧ x < (N : Int)) → l.length ≤ N
  | 0, l, _, h => by
    cases l with
    | nil => exact Nat.le_refl _
    | cons x r => have := h x (List.mem_cons_self ..); omega
  | N + 1, l, hd, h => by
    by_cases hm : (N : Int) ∈ l
    · have := pig N (l.erase (N : Int)) (hd.erase _) (fun x hx => by
        have h1 := (hd.mem_erase_iff).1 hx
        have h2 := h x h1.2
        have := h1.1
        omega)
      rw [List.length_erase_of_mem hm] at this
      omega
    · have := pig N l hd (fun x hx => by
        have h2 := h x hx
        have : x ≠ (N : Int) := fun e => hm (e ▸ hx)
        omega)
      omega
/-- Nodes that rise, each 0 to 2F. -/
def Good (N : Nat) (l : List Int) : Prop := l.Pairwise (· < ·) ∧ ∀ x ∈ l, 0 ≤ x ∧ x < (N : Int)
theorem Good.len {N : Nat} {l : List Int} (h : Good N l) : l.length ≤ N := pig N l (nodup_of_sorted h.1) h.2
theorem Good.ins {N : Nat} {l : List Int} {v : Int} (h : Good N l) (h0 : 0 ≤ v) (h1 : v < (N : Int)) : Good N (insN l v) := ⟨insN_sorted h.1, fun x hx => by
  rcases mem_insN.1 hx with hx | rfl
  · exact h.2 x hx
  · exact ⟨h0, h1⟩⟩
/-- Two majorities meet. -/
theorem meet {F : Nat} {s : Int} {l m : List Int} (hl : Good (2 * F + 1) l) (hm : Good (2 * F + 1) m) (hs0 : 0 ≤ s) (hs1 : s < ((2 * F + 1 : Nat) : Int)) (hms : s ∉ m) (h1 : F < l.length) (h2 : F ≤ m.length) (hns : s ∉ l) (hd : ∀ x ∈ l, x ∉ m) : False := by
  have : (s :: (l ++ m)).length ≤ 2 * F + 1 := pig _ _ (by
    rw [List.nodup_cons, List.nodup_append]
    exact ⟨by simp [hns, hms], nodup_of_sorted hl.1, nodup_of_sorted hm.1, fun a ha b hb e => hd a ha (e ▸ hb)⟩) (fun x hx => by
    rcases List.mem_cons.1 hx with rfl | hx
    · exact ⟨hs0, hs1⟩
    · rcases List.mem_append.1 hx with hx | hx
      · exact hl.2 x hx
      · exact hm.2 x hx)
  simp at this
  omega
theorem mxA_ge (m : Int) : ∀ L : List An, m ≤ mxA m L
  | [] => Int.le_refl _
  | x :: r => by
    rw [mxA]
    refine Int.le_trans ?_ (mxA_ge _ r)
    split <;> omega
theorem mxA_mem (m : Int) : ∀ L : List An, mxA m L = m ∨ ∃ x ∈ L, x.v = mxA m L
  | [] => .inl rfl
  | x :: r => by
    rw [mxA]
    rcases mxA_mem (if m < x.v then x.v else m) r with h | ⟨y, hy, e⟩
    · rw [h]
      split
      · exact .inr ⟨x, List.mem_cons_self .., rfl⟩
      · exact .inl rfl
    · exact .inr ⟨y, List.mem_cons_of_mem _ hy, e⟩
theorem mxv_mem {L : List An} (h : L ≠ []) : ∃ x ∈ L, x.v = mxv L := by
  cases L with
  | nil => exact absurd rfl h
  | cons x r =>
    rcases mxA_mem x.v (x :: r) with e | e
    · exact ⟨x, List.mem_cons_self .., e.symm⟩
    · exact e
/-- Of answers whose view is their node, one settles just if there are enough. -/
theorem stl_meet {F : Nat} {L : List An} (hF1 : 1 ≤ F) (hF3 : F ≤ 3) (hv : ∀ x ∈ L, x.v = x.n) (hn : ∀ x ∈ L, 0 ≤ x.n ∧ x.n < ((2 * F + 1 : Nat) : Int)) : (stl (F : Int) L).isSome = decide (F < L.length) := by
  unfold stl
  by_cases h : F < L.length
  · rw [if_neg (by omega)]
    have hne : L ≠ [] := fun e => by rw [e] at h; simp at h
    obtain ⟨x, hx, e⟩ := mxv_mem hne
    have h1 := hn x hx
    have h2 := hv x hx
    have e2 : mxv L % (2 * (F : Int) + 1) = x.n := by
      rw [← e, h2]
      exact Int.emod_eq_of_lt h1.1 (by omega)
    rw [decide_eq_true h, List.find?_isSome]
    exact ⟨x, hx, by simp [e, e2]⟩
  · rw [if_pos (by omega), decide_eq_false h]
    rfl

end Go.Proofs.Ytnhonkgondljjaa
