import Derived.Test.YtcchnaldanibgaaRows
namespace Go.Proofs.Ytcchnaldanibgaa
set_option linter.unusedVariables false

/-- The order of numbers; of draws. -/
def cmpI (a b : Int) : Int := if a < b then -1 else if b < a then 1 else 0
def cmpD (h l h' l' : Int) : Int := if h = h' then cmpI l l' else cmpI h h'
def cm (x y : Int × Int) : Int := cmpD x.1 x.2 y.1 y.2
theorem cm_lt (x y : Int × Int) : cm x y < 0 ↔ x.1 < y.1 ∨ (x.1 = y.1 ∧ x.2 < y.2) := by
  unfold cm cmpD cmpI
  split <;> split <;> (try split) <;> omega
theorem cm_gt (x y : Int × Int) : 0 < cm x y ↔ y.1 < x.1 ∨ (x.1 = y.1 ∧ y.2 < x.2) := by
  unfold cm cmpD cmpI
  split <;> split <;> (try split) <;> omega
theorem cm_eq (x y : Int × Int) : cm x y = 0 ↔ x = y := by
  obtain ⟨a, b⟩ := x
  obtain ⟨c, d⟩ := y
  have h1 := cm_lt (a, b) (c, d)
  have h2 := cm_gt (a, b) (c, d)
  simp only [Prod.mk.injEq] at *
  omega
theorem cm_self (x : Int × Int) : cm x x = 0 := (cm_eq x x).2 rfl
theorem cm_swap (x y : Int × Int) : cm x y < 0 ↔ 0 < cm y x := by
  rw [cm_lt, cm_gt]; omega
def at2 (A : List (Int × Int)) (k : Nat) : Int × Int := A.getD k (0, 0)
theorem at2_some {A : List (Int × Int)} {k : Nat} {d : Int × Int} (h : A[k]? = some d) : at2 A k = d := by
  unfold at2; rw [List.getD_eq_getElem?_getD, h]; rfl
theorem some_at2 {A : List (Int × Int)} {k : Nat} (h : k < A.length) : A[k]? = some (at2 A k) := by
  unfold at2; rw [List.getD_eq_getElem?_getD, List.getElem?_eq_getElem h]; rfl
theorem ext_at2 {A B : List (Int × Int)} (hl : A.length = B.length) (h : ∀ k, k < A.length → at2 A k = at2 B k) : A = B := by
  apply List.ext_getElem?
  intro k
  by_cases hk : k < A.length
  · rw [some_at2 hk, some_at2 (by omega), h k hk]
  · rw [List.getElem?_eq_none (by omega), List.getElem?_eq_none (by omega)]
def bel (A B : List (Int × Int)) : Nat → Bool
  | 0 => false
  | i + 1 => bel A B i || decide (cm (at2 A i) (at2 B i) < 0)
def abv (A B : List (Int × Int)) : Nat → Bool
  | 0 => false
  | i + 1 => abv A B i || decide (0 < cm (at2 A i) (at2 B i))
theorem bel_iff (A B : List (Int × Int)) : ∀ n, bel A B n = true ↔ ∃ k, k < n ∧ cm (at2 A k) (at2 B k) < 0
  | 0 => by simp [bel]
  | n + 1 => by
    simp only [bel, Bool.or_eq_true, decide_eq_true_eq, bel_iff A B n]
    constructor
    · rintro (⟨k, h1, h2⟩ | h)
      · exact ⟨k, by omega, h2⟩
      · exact ⟨n, by omega, h⟩
    · rintro ⟨k, h1, h2⟩
      by_cases h : k < n
      · exact .inl ⟨k, h, h2⟩
      · obtain rfl : k = n := by omega
        exact .inr h2
theorem abv_eq (A B : List (Int × Int)) : ∀ n, abv A B n = bel B A n
  | 0 => rfl
  | n + 1 => by simp only [abv, bel, abv_eq A B n, cm_swap]
/-- The relation's number. -/
def relOf (b a : Bool) : Int := if b = true ∧ a = true then 4 else if b = true then 2 else if a = true then 3 else 1
def rel (A B : List (Int × Int)) : Int := if A.length = B.length then relOf (bel A B A.length) (abv A B A.length) else 0
/-- Is no entry above? -/
def lowr (A B : List (Int × Int)) : Prop := ∀ k, k < A.length → ¬ cm (at2 B k) (at2 A k) < 0
theorem bel_false (A B : List (Int × Int)) : bel B A A.length = false ↔ lowr A B := by
  have := bel_iff B A A.length
  constructor
  · intro h k hk hc
    rw [h] at this
    exact absurd (this.2 ⟨k, hk, hc⟩) (by simp)
  · intro h
    cases hb : bel B A A.length with
    | false => rfl
    | true =>
      obtain ⟨k, h1, h2⟩ := this.1 hb
      exact absurd h2 (h k h1)
theorem lowr_both {A B : List (Int × Int)} (hl : A.length = B.length) (h1 : lowr A B) (h2 : lowr B A) : A = B := by
  refine ext_at2 hl fun k hk => ?_
  have a := h1 k hk
  have b := h2 k (by omega)
  rw [← cm_eq]
  have := cm_swap (at2 A k) (at2 B k)
  have := cm_swap (at2 B k) (at2 A k)
  omega
theorem lowr_refl (A : List (Int × Int)) : lowr A A := fun k _ h => by
  rw [cm_self] at h; omega
theorem lowr_trans {A B C : List (Int × Int)} (hl : A.length = B.length) (h1 : lowr A B) (h2 : lowr B C) : lowr A C := fun k hk h => by
  have a := h1 k hk
  have b := h2 k (by omega)
  rw [cm_lt] at a b h
  omega
/-- What a relation's number tells. -/
theorem rel_cases (A B : List (Int × Int)) :
    (A.length ≠ B.length ∧ rel A B = 0) ∨ (A.length = B.length ∧ A = B ∧ rel A B = 1) ∨ (A.length = B.length ∧ lowr A B ∧ ¬ lowr B A ∧ rel A B = 2) ∨ (A.length = B.length ∧ ¬ lowr A B ∧ lowr B A ∧ rel A B = 3) ∨ (A.length = B.length ∧ ¬ lowr A B ∧ ¬ lowr B A ∧ rel A B = 4) := by
  by_cases hl : A.length = B.length
  · have h1 := bel_false A B
    have h2 := bel_false B A
    rw [← hl] at h2
    right
    unfold rel relOf
    rw [if_pos hl, abv_eq]
    cases hb : bel A B A.length <;> cases ha : bel B A A.length
    · rw [ha] at h1
      rw [hb] at h2
      exact .inl ⟨hl, lowr_both hl (h1.1 rfl) (h2.1 rfl), by simp⟩
    · rw [ha] at h1
      rw [hb] at h2
      exact .inr (.inr (.inl ⟨hl, fun h => by simpa using h1.2 h, h2.1 rfl, by simp⟩))
    · rw [ha] at h1
      rw [hb] at h2
      exact .inr (.inl ⟨hl, h1.1 rfl, fun h => by simpa using h2.2 h, by simp⟩)
    · rw [ha] at h1
      rw [hb] at h2
      exact .inr (.inr (.inr ⟨hl, fun h => by simpa using h1.2 h, fun h => by simpa using h2.2 h, by simp⟩))
  · left
    exact ⟨hl, by unfold rel; rw [if_neg hl]⟩
/-- The greater of two. -/
def mx (m d : Int × Int) : Int × Int := if 0 < cm d m then d else m
def rai (M V : List (Int × Int)) : Nat → List (Int × Int)
  | 0 => M
  | i + 1 => if 0 < cm (at2 V i) (at2 (rai M V i) i) then (rai M V i).set i (at2 V i) else rai M V i
theorem rai_length (M V : List (Int × Int)) : ∀ i, (rai M V i).length = M.length
  | 0 => rfl
  | i + 1 => by
    unfold rai
    split
    · rw [List.length_set, rai_length M V i]
    · exact rai_length M V i
theorem at2_set (A : List (Int × Int)) (i k : Nat) (d : Int × Int) (hi : i < A.length) : at2 (A.set i d) k = if i = k then d else at2 A k := by
  unfold at2
  rw [List.getD_eq_getElem?_getD, List.getD_eq_getElem?_getD, List.getElem?_set]
  by_cases h : i = k
  · subst h; simp [hi]
  · simp [h]
theorem rai_at (M V : List (Int × Int)) : ∀ (i k : Nat), i ≤ M.length → k < M.length → at2 (rai M V i) k = if k < i then mx (at2 M k) (at2 V k) else at2 M k
  | 0, k, hi, hk => by simp [rai]
  | i + 1, k, hi, hk => by
    have ih := rai_at M V i k (by omega) hk
    have ihi := rai_at M V i i (by omega) (by omega)
    rw [if_neg (by omega)] at ihi
    unfold rai
    rw [ihi]
    by_cases hc : 0 < cm (at2 V i) (at2 M i)
    · rw [if_pos hc, at2_set _ _ _ _ (by rw [rai_length]; omega)]
      by_cases h : i = k
      · subst h
        rw [if_pos rfl, if_pos (by omega)]
        unfold mx
        rw [if_pos hc]
      · rw [if_neg h, ih]
        by_cases h2 : k < i
        · rw [if_pos h2, if_pos (by omega)]
        · rw [if_neg h2, if_neg (by omega)]
    · rw [if_neg hc, ih]
      by_cases h2 : k < i
      · rw [if_pos h2, if_pos (by omega)]
      · by_cases h : k = i
        · subst h
          rw [if_neg h2, if_pos (by omega)]
          unfold mx
          rw [if_neg hc]
        · rw [if_neg h2, if_neg (by omega)]
/-- Two merged. -/
def jn (M V : List (Int × Int)) : List (Int × Int) := rai M V M.length
theorem jn_length (M V : List (Int × Int)) : (jn M V).length = M.length := rai_length M V _
theorem jn_at (M V : List (Int × Int)) (k : Nat) (h : k < M.length) : at2 (jn M V) k = mx (at2 M k) (at2 V k) := by
  unfold jn
  rw [rai_at M V _ k (Nat.le_refl _) h, if_pos h]
/-- Several merged into one. -/
def mer : List (Int × Int) → List (List (Int × Int)) → List (Int × Int)
  | M, [] => M
  | M, V :: L => mer (jn M V) L
theorem mer_length : ∀ (L : List (List (Int × Int))) (M : List (Int × Int)), (mer M L).length = M.length
  | [], M => rfl
  | V :: L, M => by rw [mer, mer_length L, jn_length]
def col (k : Nat) : Int × Int → List (List (Int × Int)) → Int × Int
  | m, [] => m
  | m, V :: L => col k (mx m (at2 V k)) L
theorem mer_at (k : Nat) : ∀ (L : List (List (Int × Int))) (M : List (Int × Int)), k < M.length → at2 (mer M L) k = col k (at2 M k) L
  | [], M, h => rfl
  | V :: L, M, h => by rw [mer, col, mer_at k L (jn M V) (by rw [jn_length]; exact h), jn_at M V k h]
theorem mx_comm (a b : Int × Int) : mx a b = mx b a := by
  unfold mx
  have h := cm_swap a b
  have h' := cm_swap b a
  by_cases h1 : 0 < cm b a
  · rw [if_pos h1, if_neg (by omega)]
  · by_cases h2 : 0 < cm a b
    · rw [if_neg h1, if_pos h2]
    · rw [if_neg h1, if_neg h2]
      rw [← cm_eq]
      omega
theorem mx_assoc (a b c : Int × Int) : mx (mx a b) c = mx a (mx b c) := by
  obtain ⟨a1, a2⟩ := a
  obtain ⟨b1, b2⟩ := b
  obtain ⟨c1, c2⟩ := c
  have h1 := cm_gt (b1, b2) (a1, a2)
  have h2 := cm_gt (c1, c2) (b1, b2)
  have h3 := cm_gt (c1, c2) (a1, a2)
  simp only at h1 h2 h3
  unfold mx
  by_cases x : 0 < cm (b1, b2) (a1, a2) <;> by_cases y : 0 < cm (c1, c2) (b1, b2) <;> by_cases z : 0 < cm (c1, c2) (a1, a2) <;> simp only [x, y, z, if_true, if_false] <;> first | rfl | omega
theorem mx_self (a : Int × Int) : mx a a = a := by
  unfold mx; split <;> rfl
theorem mx_le (a b : Int × Int) : ¬ cm (mx a b) a < 0 := by
  unfold mx
  split
  · rename_i h; omega
  · rw [cm_self]; omega
theorem mx_le' (a b : Int × Int) : ¬ cm (mx a b) b < 0 := by rw [mx_comm]; exact mx_le b a
theorem mx_least (a b c : Int × Int) : (¬ cm c a < 0 ∧ ¬ cm c b < 0) ↔ ¬ cm c (mx a b) < 0 := by
  have h := cm_lt (mx a b) c
  unfold mx at *
  have h1 := cm_gt b a
  have h2 := cm_lt c a
  have h3 := cm_lt c b
  split
  · rename_i hc
    simp only [hc, if_true] at h
    omega
  · rename_i hc
    simp only [hc, if_false] at h
    omega

end Go.Proofs.Ytcchnaldanibgaa
