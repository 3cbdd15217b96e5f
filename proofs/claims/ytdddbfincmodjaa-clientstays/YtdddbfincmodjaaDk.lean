import Derived.Test.YtdddbfincmodjaaDi
namespace Go.Proofs.Ytdddbfincmodjaa
open Go.RowKit Go.Maps
open Classical
set_option linter.unusedVariables false
set_option linter.unusedSimpArgs false

theorem lgA_ok : ∀ (n : Nat) (L : List En) (j : Nat), L.length - j = n → (∀ (i : Nat) (e : En), j ≤ i → L[i]? = some e → er (L.take i) e = 0) → lgA (L.take j) (L.drop j) = 0 := by
  intro n
  induction n with
  | zero =>
    intro L j hn h
    rw [List.drop_of_length_le (by omega)]
    rfl
  | succ n ih =>
    intro L j hn h
    have hj : j < L.length := by omega
    have hg : L[j]? = some L[j] := List.getElem?_eq_getElem hj
    rw [lgA_at hg, h j _ (Nat.le_refl _) hg]
    simp only [ne_eq, not_true, if_false]
    exact ih L (j + 1) (by omega) (fun i e hi he => h i e (by omega) he)
theorem lg_ok {L : List En} (h : okL L) (hl : L.length ≤ 256) : lg L 256 = 0 := by
  unfold lg
  rw [if_neg (by omega)]
  have := lgA_ok L.length L 0 rfl (fun i e _ he => h i e he)
  simpa using this
theorem okL_take {L : List En} (h : okL L) (k : Nat) : okL (L.take k) := fun j e he => by
  rw [List.getElem?_take] at he
  split at he
  · rename_i hj
    rw [List.take_take, Nat.min_eq_left (by omega)]
    exact h j e he
  · cases he
theorem lpJ_take (L : List En) (s : Int) (k : Nat) : ∀ j, j ≤ k → lpJ (L.take k) s j = lpJ L s j
  | 0, _ => rfl
  | j + 1, h => by
    have ih := lpJ_take L s k j (by omega)
    simp only [lpJ, List.getElem?_take, ih]
    rw [if_pos (by omega)]
theorem lpJ_mono (L : List En) (s : Int) : ∀ (j k : Nat), j ≤ k → lpJ L s j ≤ lpJ L s k := by
  intro j k h
  induction k with
  | zero => have : j = 0 := by omega
            subst this
            exact Nat.le_refl _
  | succ k ih =>
    by_cases hjk : j = k + 1
    · subst hjk; exact Nat.le_refl _
    · have h1 := ih (by omega)
      have h2 : lpJ L s k ≤ lpJ L s (k + 1) := by
        have h3 := lpJ_le L s k
        simp only [lpJ]
        split
        · split <;> omega
        · exact Nat.le_refl _
      omega
theorem lpJ_here {L : List En} {i : Nat} {x : En} (h : L[i]? = some x) : lpJ L x.c (i + 1) = i + 1 := by rw [lpJ_succ _ h, if_pos rfl]
theorem lpJ_client {L : List En} {s : Int} {i : Nat} {e : En} : ∀ {j : Nat}, lpJ L s j = i + 1 → L[i]? = some e → e.c = s
  | 0, h, _ => by simp [lpJ] at h
  | j + 1, h, he => by
    unfold lpJ at h
    split at h
    · rename_i p hp
      split at h
      · rename_i hc
        have : j = i := by omega
        subst this
        rw [hp] at he
        cases he
        exact hc
      · exact lpJ_client h he
    · exact lpJ_client h he
/-- Is there a later entry of the client? -/
def lt2 (L : List En) (i k : Nat) (s : Int) : Bool := decide (lpJ L s k ≠ i + 1)
theorem lt2_start {L : List En} {i : Nat} {x : En} (h : L[i]? = some x) : lt2 L i (i + 1) x.c = false := by simp [lt2, lpJ_here h]
theorem lt2_step {L : List En} {i k : Nat} {s : Int} {p : En} (hp : L[k]? = some p) (hik : i < k) : lt2 L i (k + 1) s = (lt2 L i k s || decide (p.c = s)) := by
  unfold lt2
  rw [lpJ_succ _ hp]
  by_cases hc : p.c = s
  · have : ¬ k + 1 = i + 1 := by omega
    simp [hc, this]
    omega
  · simp [hc]
theorem ak_ok {L : List En} {k : Int} (hg : lg L 256 = 0) (h0 : 0 ≤ k) (hk : k ≤ L.length) {s n : Int} (hs : 0 ≤ s ∧ s < 16) (hn : 1 ≤ n) : akE L k s n = 0 := by
  have hc : ckB L 0 k = 0 := by
    unfold ckB
    rw [hg]
    simp only [ne_eq, not_true, if_false]
    rw [if_neg (by omega)]
  unfold akE
  rw [hc]
  simp only [ne_eq, not_true, if_false]
  unfold ckR
  rw [if_neg (by omega), if_neg (by omega)]
theorem ak_at {L : List En} {k : Nat} (hg : lg L 256 = 0) (hk : k ≤ L.length) {s n : Int} (hs : 0 ≤ s ∧ s < 16) (hn : 1 ≤ n) {i : Nat} {x : En} (hx : L[i]? = some x) (hlp : lp L s = i + 1) :
    akV L (k : Int) s n = if x.n < n then (1, zR) else if n < x.n then (4, zR) else if i < k then (3, (rsL L).getD i zR) else (2, zR) := by
  unfold akV
  rw [ak_ok hg (by omega) (by omega) hs hn]
  simp only [ne_eq, not_true, if_false, Int.toNat_natCast]
  obtain ⟨e, he, hlo⟩ := lo_place (n := k) hlp
  rw [hx] at he
  cases he
  rw [hlo]
  unfold vd rwA
  by_cases z1 : x.n < n
  · simp [z1]
  · by_cases z2 : n < x.n
    · simp [z1, z2]
    · by_cases z3 : i < k <;> simp [z1, z2, z3]
theorem ak_bad (L : List En) (k : Int) : akE L k 0 1 = 0 ∨ akE L k 0 1 = 50 ∨ (lg L 256 ≠ 0 ∧ akE L k 0 1 ≠ 0 ∧ akE L k 0 1 ≠ 50) := by
  have h1 : ckR 0 1 = 0 := by decide
  unfold akE
  rw [h1]
  by_cases hc : ckB L 0 k = 0
  · left; simp [hc]
  · simp only [ne_eq, hc, not_false_iff, if_true]
    unfold ckB
    by_cases hg : lg L 256 = 0
    · right; left
      simp only [hg, ne_eq, not_true, if_false]
      unfold ckB at hc
      simp only [hg, ne_eq, not_true, if_false] at hc
      split
      · rfl
      · rename_i h; rw [if_neg h] at hc; exact absurd rfl hc
    · simp only [hg, ne_eq, not_false_iff, if_true]
      by_cases h50 : lg L 256 = 50
      · exact .inr (.inl h50)
      · exact .inr (.inr ⟨trivial, trivial, h50⟩)

end Go.Proofs.Ytdddbfincmodjaa
