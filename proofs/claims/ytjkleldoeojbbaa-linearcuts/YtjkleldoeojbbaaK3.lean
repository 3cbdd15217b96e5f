import Derived.Test.YtjkleldoeojbbaaK1
namespace Go.Proofs.Ytjkleldoeojbbaa
set_option linter.unusedVariables false
set_option linter.unusedSimpArgs false

/-! ### How long a search goes on -/
theorem at9_set (D : List Bool) (p i : Nat) (hp : p < D.length) : at9 (D.set p true) i = (decide (i = p) || at9 D i) := by
  unfold at9
  simp only [List.getD_eq_getElem?_getD, List.getElem?_set]
  by_cases h : p = i
  · subst h
    simp [hp]
  · have : ¬ i = p := fun e => h e.symm
    simp [h, this]
/-- How many of the first n are not done. -/
def cU (D : List Bool) : Nat → Nat
  | 0 => 0
  | n + 1 => cU D n + (if at9 D n then 0 else 1)
theorem cU_set (D : List Bool) (p : Nat) (hp : p < D.length) (hn : at9 D p = false) : ∀ n, cU (D.set p true) n + (if p < n then 1 else 0) = cU D n
  | 0 => by simp [cU]
  | n + 1 => by
    have ih := cU_set D p hp hn n
    simp only [cU, at9_set D p n hp]
    by_cases h : n = p
    · subst h
      simp [hn] at ih ⊢
      omega
    · by_cases h1 : p < n
      · have h2 : p < n + 1 := by omega
        simp [h, h1, h2] at ih ⊢
        omega
      · have h2 : ¬ p < n + 1 := by omega
        simp [h, h1, h2] at ih ⊢
        omega
theorem cU_zero (D : List Bool) : ∀ n, cU D n = 0 → ∀ i, i < n → at9 D i = true
  | 0, _, i, hi => by omega
  | n + 1, h, i, hi => by
    simp only [cU] at h
    by_cases e : i = n
    · subst e
      cases hx : at9 D i with
      | true => rfl
      | false => simp [hx] at h
    · exact cU_zero D n (by omega) i (by omega)
theorem cU_le (D : List Bool) : ∀ n, cU D n ≤ n
  | 0 => Nat.le_refl _
  | n + 1 => by
    have := cU_le D n
    simp only [cU]
    split <;> omega
theorem lck_none {l : List Kl} {D : List Bool} (h : cU D l.length = 0) : lckK l D = false := by
  unfold lckK lcI
  rw [List.any_eq_false]
  intro j hj
  have hj := List.mem_range.1 hj
  rw [List.getElem?_eq_getElem hj]
  simp [cU_zero D _ h j hj]
theorem findSome_congr {α β : Type} {f g : α → Option β} : ∀ {l : List α}, (∀ x ∈ l, f x = g x) → l.findSome? f = l.findSome? g
  | [], _ => rfl
  | x :: r, h => by
    simp only [List.findSome?_cons]
    rw [h x (by simp), findSome_congr (fun y hy => h y (by simp [hy]))]
theorem nxt_at {l : List Kl} {D : List Bool} {L : List Cl} {p : Nat} {x : Kl} (h : nxtK l D L p x = true) : at9 D p = false ∧ offK L x = false ∧ lateK l D x = false := by
  unfold nxtK at h
  simp at h
  exact ⟨h.1.1, h.1.2, h.2⟩
theorem srK_fuel (l : List Kl) : ∀ (k : Nat) (D : List Bool) (L : List Cl), l.length ≤ D.length → cU D l.length ≤ k → srK l (k + 1) D L = srK l k D L
  | 0, D, L, hD, hk => by
    have := lck_none (l := l) (D := D) (by omega)
    simp [srK, this]
  | k + 1, D, L, hD, hk => by
    rw [srK, srK]
    split
    · refine findSome_congr (fun p hp => ?_)
      have hp := List.mem_range.1 hp
      rw [List.getElem?_eq_getElem hp, Option.bind_some, Option.bind_some]
      split
      · rename_i hn
        have hs := cU_set D p (by omega) (nxt_at hn).1 l.length
        rw [if_pos hp] at hs
        rw [srK_fuel l k (D.set p true) _ (by simpa using hD) (by omega)]
      · rfl
    · rfl
theorem srK_any (l : List Kl) (D : List Bool) (L : List Cl) (hD : l.length ≤ D.length) : ∀ k, srK l (cU D l.length + k) D L = srK l (cU D l.length) D L
  | 0 => rfl
  | k + 1 => (srK_fuel l (cU D l.length + k) D L hD (by omega)).trans (srK_any l D L hD k)
theorem srK_eq (l : List Kl) (D : List Bool) (L : List Cl) (hD : l.length ≤ D.length) {k k' : Nat} (h : cU D l.length ≤ k) (h' : cU D l.length ≤ k') : srK l k D L = srK l k' D L := by
  have h1 := srK_any l D L hD (k - cU D l.length)
  have h2 := srK_any l D L hD (k' - cU D l.length)
  rw [show cU D l.length + (k - cU D l.length) = k by omega] at h1
  rw [show cU D l.length + (k' - cU D l.length) = k' by omega] at h2
  exact h1.trans h2.symm
/-- A point from which there is no way on. -/
def dead (l : List Kl) (D : List Bool) (L : List Cl) : Prop := ∀ k, cU D l.length ≤ k → srK l k D L = none
theorem dead_of {l : List Kl} {D : List Bool} {L : List Cl} (hD : l.length ≤ D.length) {k : Nat} (h : cU D l.length ≤ k) (e : srK l k D L = none) : dead l D L := fun k' h' => (srK_eq l D L hD h' h).trans e
/-- The places from i on. -/
def srF (l : List Kl) (k : Nat) (D : List Bool) (L : List Cl) (i : Nat) : Option (List Nat) := ((List.range l.length).drop i).findSome? (fun p => (l[p]?).bind fun x => if nxtK l D L p x then (srK l k (D.set p true) (dnK L x)).map (p :: ·) else none)
theorem srF_zero (l : List Kl) (k : Nat) (D : List Bool) (L : List Cl) (h : lckK l D = true) : srK l (k + 1) D L = srF l k D L 0 := by
  simp [srK, h, srF]
theorem srF_end (l : List Kl) (k : Nat) (D : List Bool) (L : List Cl) : srF l k D L l.length = none := by
  simp [srF, List.drop_of_length_le]
theorem srF_at (l : List Kl) (k : Nat) (D : List Bool) (L : List Cl) {i : Nat} {x : Kl} (h : l[i]? = some x) : srF l k D L i = if nxtK l D L i x then (match srK l k (D.set i true) (dnK L x) with | some s => some (i :: s) | none => srF l k D L (i + 1)) else srF l k D L (i + 1) := by
  have hi := (List.getElem?_eq_some_iff.1 h).1
  have e : (List.range l.length).drop i = i :: (List.range l.length).drop (i + 1) := by
    rw [List.drop_eq_getElem_cons (by simpa using hi)]
    simp
  unfold srF
  rw [e, List.findSome?_cons, h, Option.bind_some]
  by_cases hn : nxtK l D L i x = true
  · rw [if_pos hn, if_pos hn]
    cases srK l k (D.set i true) (dnK L x) <;> rfl
  · rw [if_neg hn, if_neg hn]

end Go.Proofs.Ytjkleldoeojbbaa
