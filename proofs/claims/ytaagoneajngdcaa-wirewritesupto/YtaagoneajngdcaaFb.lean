import Derived.Test.YtaagoneajngdcaaFm
namespace Go.Proofs.Ytaagoneajngdcaa
open Go.RowKit
set_option linter.unusedVariables false

theorem rb_digs (v k : Nat) (hv : v < 256 ^ k) : ∀ j, j ≤ k → M.rb (M.digs v k j) = v / 256 ^ (k - j)
  | 0, _ => by
    rw [Nat.sub_zero, Nat.div_eq_of_lt hv]
    rfl
  | j + 1, h => by
    have ih := rb_digs v k hv j (by omega)
    rw [M.digs_succ, M.rb_snoc, ih]
    have e1 : k - j = (k - (j + 1)) + 1 := by omega
    have e2 : (M.dig v k j).toNat = v / 256 ^ (k - (j + 1)) % 256 := by
      unfold M.dig
      rw [Int.toNat_natCast, Nat.shiftRight_eq_div_pow, show k - 1 - j = k - (j + 1) from by omega, pow256]
    rw [e2, e1, Nat.pow_succ, ← Nat.div_div_eq_div_mul]
    omega
theorem nb_pow (v : Nat) : v < 256 ^ M.nb v := by
  rw [pow256]
  have := (M.bl_le v (8 * M.nb v)).1 (by unfold M.nb; omega)
  exact this
theorem nb_pos (v : Nat) (h : 0 < M.nb v) : 256 ^ (M.nb v - 1) ≤ v := by
  rw [pow256]
  refine Nat.not_lt.1 fun h2 => ?_
  have := (M.bl_le v (8 * (M.nb v - 1))).2 h2
  unfold M.nb at h this
  omega
theorem dig_first (v : Nat) (h : 0 < M.nb v) : M.dig v (M.nb v) 0 ≠ 0 := by
  have h1 := nb_pow v
  have h2 := nb_pos v h
  unfold M.dig
  rw [Nat.shiftRight_eq_div_pow, Nat.sub_zero, ← pow256]
  have h3 : 1 ≤ v / 256 ^ (M.nb v - 1) := (Nat.one_le_div_iff (Nat.pow_pos (by omega))).2 h2
  have h4 : v / 256 ^ (M.nb v - 1) < 256 := by
    rw [Nat.div_lt_iff_lt_mul (Nat.pow_pos (by omega)), Nat.mul_comm, ← Nat.pow_succ, Nat.succ_eq_add_one, Nat.sub_add_cancel h]
    exact h1
  omega
/-- What reading a number's form comes to. -/
theorem tn_read (x : Nat) (hx : x < 2 ^ 64) (rest : List Int) : tnErr (M.form x ++ rest) = 0 ∧ tnVal (M.form x ++ rest) = x ∧ tnSize (M.form x ++ rest) = (M.form x).length := by
  have hn := M.nb_le x hx
  have hl := M.digs_length x (M.nb x) (M.nb x)
  have e : M.form x ++ rest = (M.nb x : Int) :: (M.digs x (M.nb x) (M.nb x) ++ rest) := rfl
  have he : tnErr (M.form x ++ rest) = 0 := by
    rw [e]
    refine tnErr_ok (by omega) (by rw [List.length_append, hl]; omega) ?_
    rintro ⟨h1, h2⟩
    have h3 : 0 < M.nb x := by omega
    refine dig_first x h3 ?_
    rw [List.getD_eq_getElem?_getD, List.getElem?_append_left (by rw [hl]; exact h3)] at h2
    simpa [M.digs, h3] using h2
  refine ⟨he, ?_, ?_⟩
  · unfold tnVal
    rw [if_pos he, e]
    have h3 : ((M.digs x (M.nb x) (M.nb x) ++ rest).take (M.nb x)) = M.digs x (M.nb x) (M.nb x) := by
      rw [List.take_append_of_le_length (by rw [hl]; exact Nat.le_refl _), List.take_of_length_le (by rw [hl]; exact Nat.le_refl _)]
    show M.rb ((M.digs x (M.nb x) (M.nb x) ++ rest).take (M.nb x : Int).toNat) = x
    rw [Int.toNat_natCast, h3, rb_digs x (M.nb x) (nb_pow x) _ (Nat.le_refl _), Nat.sub_self, Nat.pow_zero, Nat.div_one]
  · unfold tnSize
    rw [if_pos he, e, M.form_length]
    show 1 + (M.nb x : Int).toNat = _
    rw [Int.toNat_natCast]; omega
#print axioms tn_read

end Go.Proofs.Ytaagoneajngdcaa
