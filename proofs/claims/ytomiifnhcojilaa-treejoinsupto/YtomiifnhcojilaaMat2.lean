import Derived.Test.YtomiifnhcojilaaMath
namespace Go.Proofs.Ytomiifnhcojilaa.M

/-- The number in bytes, the highest first; and in bytes, the lowest first. -/
def rb (l : List Int) : Nat := l.foldl (fun v z => v * 256 + z.toNat) 0
def rl : List Int → Nat
  | [] => 0
  | z :: r => z.toNat + 256 * rl r
theorem rb_snoc (l : List Int) (z : Int) : rb (l ++ [z]) = rb l * 256 + z.toNat := by simp [rb]
theorem rb_take (l : List Int) (k : Nat) (h : k < l.length) : rb (l.take (k + 1)) = rb (l.take k) * 256 + (l.getD k 0).toNat := by
  rw [List.take_succ_eq_append_getElem h, rb_snoc]
  simp [List.getD, h]
theorem rl_snoc (l : List Int) (z : Int) : rl (l ++ [z]) = rl l + 256 ^ l.length * z.toNat := by
  induction l with
  | nil => simp [rl]
  | cons y r ih =>
    simp only [List.cons_append, rl, ih, List.length_cons, Nat.pow_succ, Nat.mul_add]
    have : 256 * (256 ^ r.length * z.toNat) = 256 ^ r.length * 256 * z.toNat := by rw [Nat.mul_comm (256 ^ r.length) 256, Nat.mul_assoc]
    omega
theorem rl_take (l : List Int) (k : Nat) (h : k < l.length) : rl (l.take (k + 1)) = rl (l.take k) + 256 ^ k * (l.getD k 0).toNat := by
  rw [List.take_succ_eq_append_getElem h, rl_snoc]
  simp [List.getD, h, Nat.min_eq_left (Nat.le_of_lt h)]
theorem rb_lt (l : List Int) (h : ∀ z ∈ l, 0 ≤ z ∧ z < 256) : rb l < 256 ^ l.length := by
  have key : ∀ (r : List Int) (v n : Nat), (∀ z ∈ r, 0 ≤ z ∧ z < 256) → v < 256 ^ n → r.foldl (fun v z => v * 256 + z.toNat) v < 256 ^ (n + r.length) := by
    intro r
    induction r with
    | nil => intro v n _ hv; simpa using hv
    | cons z r ih =>
      intro v n hr hv
      have hz := hr z (by simp)
      have := ih (v * 256 + z.toNat) (n + 1) (fun y hy => hr y (by simp [hy])) (by rw [Nat.pow_succ]; omega)
      simpa [Nat.add_assoc, Nat.add_comm 1] using this
  simpa [rb] using key l 0 0 h (by simp)
theorem rl_lt (l : List Int) (h : ∀ z ∈ l, 0 ≤ z ∧ z < 256) : rl l < 256 ^ l.length := by
  induction l with
  | nil => simp [rl]
  | cons z r ih =>
    have hz := h z (by simp)
    have := ih (fun y hy => h y (by simp [hy]))
    simp only [rl, List.length_cons, Nat.pow_succ]
    omega
theorem or_low (v z : Nat) (k : Nat) (h : z < 2 ^ k) : (v * 2 ^ k) ||| z = v * 2 ^ k + z := by
  rw [← Nat.shiftLeft_eq, Nat.shiftLeft_add_eq_or_of_lt h]

end Go.Proofs.Ytomiifnhcojilaa.M
