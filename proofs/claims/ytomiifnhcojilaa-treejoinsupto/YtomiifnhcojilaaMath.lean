
/- The plain mathematics of wire: the sum (a CRC, bit by bit) over natural numbers below 2^32. -/
namespace Go.Proofs.Ytomiifnhcojilaa.M

def st (s : Nat) : Nat := (s >>> 1) ^^^ (3988292384 * (s &&& 1))
def stN : Nat → Nat → Nat
  | 0, s => s
  | k + 1, s => st (stN k s)
def upd (s : Nat) (z : Int) : Nat := stN 8 (s ^^^ z.toNat)
def fold (s : Nat) (l : List Int) : Nat := l.foldl upd s
def sum (l : List Int) : Nat := 4294967295 ^^^ fold 4294967295 l

theorem one_le (s : Nat) : s &&& 1 ≤ 1 := Nat.and_le_right
theorem mul_lt (s : Nat) : 3988292384 * (s &&& 1) < 4294967296 := by have := one_le s; omega
theorem st_lt (s : Nat) (h : s < 4294967296) : st s < 4294967296 := by
  unfold st
  have h1 : s >>> 1 < 2 ^ 32 := by rw [Nat.shiftRight_eq_div_pow]; omega
  have h2 : 3988292384 * (s &&& 1) < 2 ^ 32 := by have := mul_lt s; omega
  have := Nat.xor_lt_two_pow h1 h2
  omega
theorem stN_lt (k s : Nat) (h : s < 4294967296) : stN k s < 4294967296 := by
  induction k with
  | zero => exact h
  | succ k ih => exact st_lt _ ih
theorem xor_lt {a b : Nat} (ha : a < 4294967296) (hb : b < 4294967296) : a ^^^ b < 4294967296 := by
  have h1 : a < 2 ^ 32 := by omega
  have h2 : b < 2 ^ 32 := by omega
  have := Nat.xor_lt_two_pow h1 h2
  omega
theorem upd_lt (s : Nat) (z : Int) (h : s < 4294967296) (h2 : z < 256) : upd s z < 4294967296 :=
  stN_lt _ _ (xor_lt h (by omega))
theorem fold_lt (l : List Int) (s : Nat) (h : s < 4294967296) (h2 : ∀ z ∈ l, z < 256) : fold s l < 4294967296 := by
  induction l generalizing s with
  | nil => exact h
  | cons z l ih =>
    exact ih (upd s z) (upd_lt s z h (h2 z (by simp))) (fun y hy => h2 y (by simp [hy]))
theorem fold_snoc (s : Nat) (l : List Int) (z : Int) : fold s (l ++ [z]) = upd (fold s l) z := by simp [fold]
theorem fold_take (s : Nat) (l : List Int) (k : Nat) (h : k < l.length) : fold s (l.take (k + 1)) = upd (fold s (l.take k)) (l.getD k 0) := by
  rw [List.take_succ_eq_append_getElem h, fold_snoc]
  simp [List.getD, h]
theorem sum_lt (l : List Int) (h2 : ∀ z ∈ l, z < 256) : sum l < 4294967296 := xor_lt (by omega) (fold_lt l _ (by omega) h2)

/-- How many bits a number has. -/
def bl (v : Nat) : Nat := if v = 0 then 0 else Nat.log2 v + 1
theorem bl_le (v j : Nat) : bl v ≤ j ↔ v < 2 ^ j := by
  unfold bl
  by_cases h : v = 0
  · subst h; simp [Nat.pow_pos]
  · rw [if_neg h]
    have := Nat.log2_lt (k := j) h
    omega
theorem bl_shift (v j : Nat) (h : 2 ^ j ≤ v) : bl v = bl (v / 2 ^ j) + j := by
  apply Nat.le_antisymm
  · rw [bl_le, Nat.pow_add]
    have h2 : v / 2 ^ j < 2 ^ bl (v / 2 ^ j) := (bl_le _ _).1 (Nat.le_refl _)
    exact (Nat.div_lt_iff_lt_mul (Nat.pow_pos (by omega))).1 h2
  · have h1 : j < bl v := by
      apply Nat.lt_of_not_le
      intro hle
      have := (bl_le v j).1 hle
      omega
    have h3 : v < 2 ^ bl v := (bl_le _ _).1 (Nat.le_refl _)
    have h4 : bl (v / 2 ^ j) ≤ bl v - j := by
      rw [bl_le, Nat.div_lt_iff_lt_mul (Nat.pow_pos (by omega)), ← Nat.pow_add]
      rwa [Nat.sub_add_cancel (by omega)]
    omega

theorem bl_half (v : Nat) (h : v ≠ 0) : bl v = 1 + bl (v / 2) := by
  by_cases h1 : v = 1
  · subst h1; decide
  · have := bl_shift v 1 (by omega)
    rw [Nat.pow_one] at this
    omega
/-- How many bytes a number has, and its digits to the base 256, the highest first. -/
def nb (v : Nat) : Nat := (bl v + 7) / 8
def dig (v k i : Nat) : Int := ((v >>> (8 * (k - 1 - i)) % 256 : Nat) : Int)
def digs (v k j : Nat) : List Int := (List.range j).map (dig v k)
def form (v : Nat) : List Int := (nb v : Int) :: digs v (nb v) (nb v)
theorem digs_succ (v k j : Nat) : digs v k (j + 1) = digs v k j ++ [dig v k j] := by simp [digs, List.range_succ]
theorem digs_length (v k j : Nat) : (digs v k j).length = j := by simp [digs]
theorem nb_le (v : Nat) (h : v < 2 ^ 64) : nb v ≤ 8 := by have := (bl_le v 64).2 h; unfold nb; omega
theorem form_length (v : Nat) : (form v).length = nb v + 1 := by simp [form, digs_length]
theorem dig_byte (v k i : Nat) : 0 ≤ dig v k i ∧ dig v k i < 256 := by unfold dig; omega
theorem form_byte (v : Nat) (h : v < 2 ^ 64) : ∀ z ∈ form v, 0 ≤ z ∧ z < 256 := by
  intro z hz
  have := nb_le v h
  simp only [form, List.mem_cons, digs, List.mem_map] at hz
  rcases hz with rfl | ⟨i, _, rfl⟩
  · omega
  · exact dig_byte _ _ _

/-- The number's form as far as its first j digits. -/
def pre (v j : Nat) : List Int := (nb v : Int) :: digs v (nb v) j
theorem pre_zero (v : Nat) : pre v 0 = [(nb v : Int)] := rfl
theorem pre_succ (v j : Nat) : pre v (j + 1) = pre v j ++ [dig v (nb v) j] := by simp [pre, digs_succ]
theorem pre_all (v : Nat) : pre v (nb v) = form v := rfl
theorem pre_length (v j : Nat) : (pre v j).length = j + 1 := by simp [pre, digs_length]

/-- Four bytes, the highest first, and four bytes, the lowest first, as far as the first j. -/
def beAt (n i : Nat) : Int := ((n >>> (24 - 8 * i) % 256 : Nat) : Int)
def be (n j : Nat) : List Int := (List.range j).map (beAt n)
def leAt (n i : Nat) : Int := ((n >>> (8 * i) % 256 : Nat) : Int)
def le (n j : Nat) : List Int := (List.range j).map (leAt n)
theorem be_succ (n j : Nat) : be n (j + 1) = be n j ++ [beAt n j] := by simp [be, List.range_succ]
theorem le_succ (n j : Nat) : le n (j + 1) = le n j ++ [leAt n j] := by simp [le, List.range_succ]
theorem be_length (n j : Nat) : (be n j).length = j := by simp [be]
theorem le_length (n j : Nat) : (le n j).length = j := by simp [le]
theorem be_byte (n j : Nat) : ∀ z ∈ be n j, 0 ≤ z ∧ z < 256 := by
  intro z hz
  simp only [be, List.mem_map] at hz
  obtain ⟨i, _, rfl⟩ := hz
  unfold beAt
  omega
theorem le_byte (n j : Nat) : ∀ z ∈ le n j, 0 ≤ z ∧ z < 256 := by
  intro z hz
  simp only [le, List.mem_map] at hz
  obtain ⟨i, _, rfl⟩ := hz
  unfold leAt
  omega
def magic : List Int := [97, 109, 110, 49]
/-- A frame without its sum, and whole. -/
def bare (l : List Int) : List Int := magic ++ be l.length 4 ++ l
def frame (l : List Int) : List Int := bare l ++ le (sum (bare l)) 4
theorem bare_length (l : List Int) : (bare l).length = l.length + 8 := by simp [bare, magic, be_length]; omega
theorem frame_length (l : List Int) : (frame l).length = l.length + 12 := by simp [frame, bare_length, le_length]
theorem bare_byte (l : List Int) (h : ∀ z ∈ l, 0 ≤ z ∧ z < 256) : ∀ z ∈ bare l, 0 ≤ z ∧ z < 256 := by
  intro z hz
  simp only [bare, List.mem_append] at hz
  rcases hz with (hz | hz) | hz
  · simp only [magic, List.mem_cons, List.not_mem_nil, or_false] at hz
    omega
  · exact be_byte _ _ z hz
  · exact h z hz
theorem frame_byte (l : List Int) (h : ∀ z ∈ l, 0 ≤ z ∧ z < 256) : ∀ z ∈ frame l, 0 ≤ z ∧ z < 256 := by
  intro z hz
  simp only [frame, List.mem_append] at hz
  rcases hz with hz | hz
  · exact bare_byte l h z hz
  · exact le_byte _ _ z hz

end Go.Proofs.Ytomiifnhcojilaa.M
