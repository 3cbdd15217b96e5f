import Derived.Test.YtnodhappbknclabMat2
namespace Go.Proofs.Ytnodhappbknclab.M

/-! The sum's algebra: a step is linear and one to one. -/
set_option linter.unusedVariables false
theorem shr_one (x : Nat) : x >>> 1 = x / 2 := by rw [Nat.shiftRight_eq_div_pow]
theorem shl_one (j : Nat) : 1 <<< j = 2 ^ j := by rw [Nat.shiftLeft_eq, Nat.one_mul]
theorem and_one_xor (x y : Nat) : (x ^^^ y) &&& 1 = (x &&& 1) ^^^ (y &&& 1) := Nat.and_xor_distrib_right
theorem mul_bit (p a b : Nat) (ha : a ≤ 1) (hb : b ≤ 1) : p * (a ^^^ b) = (p * a) ^^^ (p * b) := by
  match a, b, ha, hb with
  | 0, 0, _, _ => simp
  | 0, 1, _, _ => simp
  | 1, 0, _, _ => simp
  | 1, 1, _, _ => simp
theorem xor4 (a b c d : Nat) : (a ^^^ b) ^^^ (c ^^^ d) = (a ^^^ c) ^^^ (b ^^^ d) := by
  rw [Nat.xor_assoc, Nat.xor_assoc, ← Nat.xor_assoc b c d, Nat.xor_comm b c, Nat.xor_assoc c b d]
theorem st_xor (x y : Nat) : st (x ^^^ y) = st x ^^^ st y := by
  unfold st
  rw [Nat.shiftRight_xor_distrib, and_one_xor, mul_bit _ _ _ (one_le x) (one_le y), xor4]
theorem st_zero : st 0 = 0 := by decide
theorem stN_xor (k x y : Nat) : stN k (x ^^^ y) = stN k x ^^^ stN k y := by
  induction k with
  | zero => rfl
  | succ k ih => simp only [stN, ih, st_xor]
theorem stN_zero (k : Nat) : stN k 0 = 0 := by
  induction k with
  | zero => rfl
  | succ k ih => simp only [stN, ih, st_zero]
theorem stN_add (j k x : Nat) : stN (j + k) x = stN j (stN k x) := by
  induction j with
  | zero => simp [stN]
  | succ j ih => rw [Nat.succ_add]; simp only [stN, ih]
theorem st_shl (y k : Nat) : st (y <<< (k + 1)) = y <<< k := by
  unfold st
  have h1 : y <<< (k + 1) >>> 1 = y <<< k := by
    rw [Nat.shiftLeft_succ, shr_one]
    omega
  have h2 : y <<< (k + 1) &&& 1 = 0 := by
    rw [Nat.shiftLeft_succ, Nat.and_one_is_mod]
    omega
  rw [h1, h2]
  simp
theorem stN_shl (k y : Nat) : stN k (y <<< k) = y := by
  have key : ∀ j i, stN j (y <<< (j + i)) = y <<< i := by
    intro j
    induction j with
    | zero => intro i; simp [stN]
    | succ j ih =>
      intro i
      simp only [stN]
      rw [show j + 1 + i = j + (i + 1) from by omega, ih (i + 1), st_shl]
  simpa using key k 0
theorem xor_zero_eq {a b : Nat} (h : a ^^^ b = 0) : a = b := by
  have h2 := congrArg (fun t => t ^^^ b) h
  simp only [Nat.xor_assoc, Nat.xor_self, Nat.xor_zero, Nat.zero_xor] at h2
  exact h2
theorem st_ne (s : Nat) (h : s < 4294967296) (hn : s ≠ 0) : st s ≠ 0 := by
  unfold st
  intro h0
  rw [shr_one, Nat.and_one_is_mod] at h0
  have h1 : s / 2 = 3988292384 * (s % 2) := xor_zero_eq h0
  omega
theorem stN_ne (k s : Nat) (h : s < 4294967296) (hn : s ≠ 0) : stN k s ≠ 0 := by
  induction k with
  | zero => exact hn
  | succ k ih => exact st_ne _ (stN_lt k s h) ih
theorem add_xor (z r : Nat) (h : z < 256) : z + 256 * r = z ^^^ (r <<< 8) := by
  have h1 := or_low r z 8 (by omega)
  have h2 : r <<< 8 ^^^ z = r <<< 8 + z := by
    rw [Nat.shiftLeft_eq]
    apply Nat.eq_of_testBit_eq
    intro i
    rw [← h1, Nat.testBit_xor, Nat.testBit_or]
    by_cases hi : i < 8
    · rw [Nat.mul_comm, Nat.testBit_two_pow_mul]
      simp [show ¬ 8 ≤ i from by omega]
    · have : z.testBit i = false := Nat.testBit_lt_two_pow (Nat.lt_of_lt_of_le h (show 2 ^ 8 ≤ 2 ^ i from Nat.pow_le_pow_right (by omega) (by omega)))
      rw [this]
      simp
  rw [Nat.xor_comm, h2, Nat.shiftLeft_eq]
  omega
theorem rl_cons (z : Int) (r : List Int) (h : z < 256) : rl (z :: r) = z.toNat ^^^ (rl r <<< 8) := by
  rw [rl, add_xor _ _ (by omega)]
theorem stN_8 (x y : Nat) : stN 8 (x ^^^ (y <<< 8)) = stN 8 x ^^^ y := by rw [stN_xor, stN_shl]
/-- The register behind bytes: as many steps of one number. -/
theorem fold_eq (l : List Int) (s : Nat) (h : ∀ z ∈ l, 0 ≤ z ∧ z < 256) : fold s l = stN (8 * l.length) (s ^^^ rl l) := by
  induction l generalizing s with
  | nil => simp [fold, rl, stN]
  | cons z r ih =>
    have hz := h z (by simp)
    have e : fold s (z :: r) = fold (upd s z) r := rfl
    rw [e, ih (upd s z) (fun y hy => h y (by simp [hy])), rl_cons z r hz.2]
    unfold upd
    rw [← stN_8, ← stN_add, Nat.xor_assoc, List.length_cons, Nat.mul_add]
theorem fold_append (s : Nat) (a b : List Int) : fold s (a ++ b) = fold (fold s a) b := by simp [fold, List.foldl_append]
/-- Whatever ends with its own sum leaves one and the same register. -/
theorem residue (a t : List Int) (ha : ∀ z ∈ a, 0 ≤ z ∧ z < 256) (ht : ∀ z ∈ t, 0 ≤ z ∧ z < 256) (h4 : t.length = 4) (h : sum a = rl t) : fold 4294967295 (a ++ t) = stN 32 4294967295 := by
  rw [fold_append, fold_eq t _ ht, h4, ← h]
  unfold sum
  rw [Nat.xor_comm 4294967295 (fold 4294967295 a), ← Nat.xor_assoc, Nat.xor_self, Nat.zero_xor]
/-- P1.3: bits changed within 32 of one another are told. -/
theorem burst (f g : List Int) (hf : ∀ z ∈ f, 0 ≤ z ∧ z < 256) (hg : ∀ z ∈ g, 0 ≤ z ∧ z < 256) (hl : g.length = f.length) (h4 : 4 ≤ f.length)
    (sf : sum (f.take (f.length - 4)) = rl (f.drop (f.length - 4))) (sg : sum (g.take (g.length - 4)) = rl (g.drop (g.length - 4)))
    (m i : Nat) (hm : m < 4294967296) (hi : i < 8 * f.length) (hx : rl g = rl f ^^^ (m <<< i)) : m = 0 := by
  have r1 := residue _ _ (fun z hz => hf z (List.mem_of_mem_take hz)) (fun z hz => hf z (List.mem_of_mem_drop hz)) (by simp; omega) sf
  have r2 := residue _ _ (fun z hz => hg z (List.mem_of_mem_take hz)) (fun z hz => hg z (List.mem_of_mem_drop hz)) (by simp; omega) sg
  rw [List.take_append_drop] at r1 r2
  rw [fold_eq f _ hf] at r1
  rw [fold_eq g _ hg, hx, hl, ← r1, ← Nat.xor_assoc, stN_xor] at r2
  generalize stN (8 * f.length) (4294967295 ^^^ rl f) = A at r2
  have r3 : stN (8 * f.length) (m <<< i) = 0 := by
    have := congrArg (fun t => A ^^^ t) r2
    simp only [← Nat.xor_assoc, Nat.xor_self, Nat.zero_xor] at this
    exact this
  rw [show 8 * f.length = (8 * f.length - i) + i from by omega, stN_add, stN_shl] at r3
  by_cases h0 : m = 0
  · exact h0
  · exact absurd r3 (stN_ne _ _ hm h0)
/-- One bit turned. -/
theorem rl_set (l : List Int) (k j : Nat) (hk : k < l.length) (hj : j < 8) (h : ∀ z ∈ l, 0 ≤ z ∧ z < 256) : rl (l.set k (((l.getD k 0).toNat ^^^ 2 ^ j : Nat) : Int)) = rl l ^^^ (1 <<< (8 * k + j)) := by
  induction l generalizing k with
  | nil => simp at hk
  | cons z r ih =>
    have hz := h z (by simp)
    cases k with
    | zero =>
      have hb : z.toNat ^^^ 2 ^ j < 256 := Nat.xor_lt_two_pow (n := 8) (by omega) (Nat.pow_lt_pow_right (by omega) hj)
      simp only [List.set_cons_zero, List.getD_cons_zero]
      rw [rl_cons _ _ (by omega), rl_cons z r hz.2, Int.toNat_natCast, Nat.mul_zero, Nat.zero_add, shl_one, Nat.xor_assoc, Nat.xor_comm (2 ^ j), ← Nat.xor_assoc]
    | succ k =>
      simp only [List.set_cons_succ, List.getD_cons_succ]
      rw [rl_cons _ _ hz.2, rl_cons z r hz.2, ih k (by simpa using hk) (fun y hy => h y (by simp [hy])), Nat.shiftLeft_xor_distrib, ← Nat.shiftLeft_add, Nat.xor_assoc]
      congr 3
      omega
theorem set_byte (l : List Int) (k j : Nat) (hj : j < 8) (h : ∀ z ∈ l, 0 ≤ z ∧ z < 256) : ∀ z ∈ l.set k (((l.getD k 0).toNat ^^^ 2 ^ j : Nat) : Int), 0 ≤ z ∧ z < 256 := by
  intro z hz
  rcases List.mem_or_eq_of_mem_set hz with hz | rfl
  · exact h z hz
  · have hb : (l.getD k 0).toNat < 256 := by
      by_cases hk : k < l.length
      · have := h (l.getD k 0) (by simp [List.getD, hk])
        omega
      · simp [List.getD, List.getElem?_eq_none (Nat.le_of_not_lt hk)]
    have hb : (l.getD k 0).toNat ^^^ 2 ^ j < 256 := Nat.xor_lt_two_pow (n := 8) (by omega) (Nat.pow_lt_pow_right (by omega) hj)
    omega
/-- The mask's first bits, one more. -/
theorem mask_succ (m k : Nat) : m % 2 ^ (k + 1) = m % 2 ^ k ^^^ ((m / 2 ^ k % 2) <<< k) := by
  apply Nat.eq_of_testBit_eq
  intro i
  rw [Nat.testBit_mod_two_pow, Nat.testBit_xor, Nat.testBit_mod_two_pow, Nat.testBit_shiftLeft]
  rcases Nat.lt_trichotomy i k with h | h | h
  · simp [h, show i < k + 1 from by omega, show ¬ k ≤ i from by omega]
  · subst h
    simp [Nat.testBit_eq_decide_div_mod_eq]
  · have h1 : (m / 2 ^ k % 2).testBit (i - k) = false := Nat.testBit_lt_two_pow (Nat.lt_of_lt_of_le (Nat.mod_lt _ (by omega)) (show 2 ^ 1 ≤ 2 ^ (i - k) from Nat.pow_le_pow_right (by omega) (by omega)))
    simp [h1, show ¬ i < k from by omega, show ¬ i < k + 1 from by omega]

end Go.Proofs.Ytnodhappbknclab.M
