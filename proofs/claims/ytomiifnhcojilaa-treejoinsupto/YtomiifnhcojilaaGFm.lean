import Derived.Test.YtomiifnhcojilaaGWs
namespace Go.Proofs.Ytomiifnhcojilaa.Wi
set_option linter.unusedVariables false

/-! A number's one form: what is read without an error is the number's form. -/
theorem dig_snoc (v K i : Nat) (z : Int) (h0 : 0 ≤ z) (h1 : z < 256) (hi : i < K) : M.dig (v * 256 + z.toNat) (K + 1) i = M.dig v K i := by
  unfold M.dig
  have e : 8 * (K + 1 - 1 - i) = 8 + 8 * (K - 1 - i) := by omega
  rw [e, Nat.shiftRight_eq_div_pow, Nat.shiftRight_eq_div_pow, Nat.pow_add, ← Nat.div_div_eq_div_mul, show (v * 256 + z.toNat) / 2 ^ 8 = v from by omega]
theorem digs_rb (ds : List Int) (h : ∀ z ∈ ds, 0 ≤ z ∧ z < 256) : M.digs (M.rb ds) ds.length ds.length = ds := by
  induction hn : ds.length generalizing ds with
  | zero =>
    have : ds = [] := List.eq_nil_of_length_eq_zero hn
    subst this
    rfl
  | succ K ih =>
    obtain ⟨e, z, rfl⟩ : ∃ e z, ds = e ++ [z] := by
      refine ⟨ds.dropLast, ds.getLast (by intro h; rw [h] at hn; simp at hn), ?_⟩
      exact (List.dropLast_concat_getLast _).symm
    have hz := h z (by simp)
    have he : e.length = K := by simpa using hn
    rw [M.rb_snoc, M.digs_succ]
    have h1 : M.digs (M.rb e * 256 + z.toNat) (K + 1) K = M.digs (M.rb e) K K := by
      unfold M.digs
      apply List.map_congr_left
      intro i hi
      exact dig_snoc _ _ _ _ hz.1 hz.2 (by simpa using hi)
    rw [h1, ih e (fun y hy => h y (by simp [hy])) he]
    congr 1
    unfold M.dig
    rw [show 8 * (K + 1 - 1 - K) = 0 from by omega, Nat.shiftRight_zero, show (M.rb e * 256 + z.toNat) % 256 = z.toNat from by omega]
    rw [Int.toNat_of_nonneg hz.1]
theorem rb_ge (z : Int) (r : List Int) (hz : 1 ≤ z) : 256 ^ r.length ≤ M.rb (z :: r) := by
  have key : ∀ (r : List Int) (v : Nat), v * 256 ^ r.length ≤ r.foldl (fun v z => v * 256 + z.toNat) v := by
    intro r
    induction r with
    | nil => intro v; simp
    | cons y r ih =>
      intro v
      refine Nat.le_trans ?_ (ih (v * 256 + y.toNat))
      simp only [List.length_cons, Nat.pow_succ]
      rw [Nat.mul_comm (256 ^ r.length) 256, ← Nat.mul_assoc]
      exact Nat.mul_le_mul_right _ (by omega)
  have := key r z.toNat
  have h2 : 1 * 256 ^ r.length ≤ z.toNat * 256 ^ r.length := Nat.mul_le_mul_right _ (by omega)
  have h3 : M.rb (z :: r) = r.foldl (fun v z => v * 256 + z.toNat) z.toNat := by simp [M.rb]
  rw [h3]
  omega
theorem pow256 (k : Nat) : (256 : Nat) ^ k = 2 ^ (8 * k) := by rw [show (256 : Nat) = 2 ^ 8 from rfl, ← Nat.pow_mul]
theorem nb_rb (ds : List Int) (h : ∀ z ∈ ds, 0 ≤ z ∧ z < 256) (hf : 0 < ds.length → ds.getD 0 0 ≠ 0) : M.nb (M.rb ds) = ds.length := by
  have h1 : M.bl (M.rb ds) ≤ 8 * ds.length := by rw [M.bl_le, ← pow256]; exact M.rb_lt ds h
  cases ds with
  | nil => rfl
  | cons z r =>
    have hz := h z (by simp)
    have hz1 : z ≠ 0 := hf (by simp)
    have h2 := rb_ge z r (by omega)
    have h3 : ¬ M.bl (M.rb (z :: r)) ≤ 8 * r.length := by rw [M.bl_le, ← pow256]; omega
    simp only [List.length_cons] at h1 ⊢
    unfold M.nb
    omega
theorem form_rb (ds : List Int) (h : ∀ z ∈ ds, 0 ≤ z ∧ z < 256) (hf : 0 < ds.length → ds.getD 0 0 ≠ 0) : M.form (M.rb ds) = (ds.length : Int) :: ds := by
  unfold M.form
  rw [nb_rb ds h hf, digs_rb ds h]
theorem tn_form (l : List Int) (h : ∀ z ∈ l, 0 ≤ z ∧ z < 256) (he : tnErr l = 0) : M.form (tnVal l) = l.take (tnSize l) ∧ 1 ≤ tnSize l ∧ tnVal l < 2 ^ 64 ∧ ∀ k, k < tnSize l → tnErr (l.take k) = 10 := by
  cases l with
  | nil => simp [tnErr] at he
  | cons k d =>
    have hk := h k (by simp)
    obtain ⟨K, rfl⟩ := Int.eq_ofNat_of_zero_le hk.1
    have hv : tnVal ((K : Int) :: d) = M.rb (d.take K) := by unfold tnVal; rw [if_pos he]; simp
    have hs : tnSize ((K : Int) :: d) = 1 + K := by unfold tnSize; rw [if_pos he]; simp
    simp only [tnErr] at he
    split at he
    · cases he
    · split at he
      · cases he
      · split at he
        · cases he
        · rename_i q1 q2 q3
          have hlen : (d.take K).length = K := by simp; omega
          have hby : ∀ z ∈ d.take K, 0 ≤ z ∧ z < 256 := fun z hz => h z (by simp [List.mem_of_mem_take hz])
          have hf : 0 < (d.take K).length → (d.take K).getD 0 0 ≠ 0 := by
            intro hp h0
            rw [hlen] at hp
            apply q3
            refine ⟨by omega, ?_⟩
            rw [List.getD_eq_getElem?_getD, List.getElem?_take_of_lt hp, ← List.getD_eq_getElem?_getD] at h0
            exact h0
          refine ⟨?_, by omega, ?_, ?_⟩
          · rw [hv, hs, form_rb _ hby hf, hlen, Nat.add_comm, List.take_succ_cons]
          · rw [hv]
            have h1 := M.rb_lt _ hby
            rw [hlen] at h1
            exact Nat.lt_of_lt_of_le h1 (by rw [pow256]; exact Nat.pow_le_pow_right (by omega) (by omega))
          · intro j hj
            rw [hs] at hj
            cases j with
            | zero => rfl
            | succ j =>
              rw [List.take_succ_cons]
              exact tnErr_short q1 (by rw [List.length_take]; omega)
theorem tnErr_two (l : List Int) (h : tnErr l ≠ 0) : tnErr l = 10 ∨ tnErr l = 12 := by
  cases l with
  | nil => exact Or.inl rfl
  | cons k d =>
    simp only [tnErr] at h ⊢
    split
    · exact Or.inr rfl
    · split
      · exact Or.inl rfl
      · split
        · exact Or.inr rfl
        · rename_i q1 q2 q3
          rw [if_neg q1, if_neg q2, if_neg q3] at h
          exact absurd rfl h

end Go.Proofs.Ytomiifnhcojilaa.Wi

namespace Go.Proofs.Ytomiifnhcojilaa.Wi
open Go.RowKit
set_option linter.unusedVariables false

theorem rb_digs (v k : Nat) (hv : v < 256 ^ k) : ∀ j, j ≤ k → M.rb (M.digs v k j) = v / 256 ^ (k - j)
  | 0, _ => by
    rw [Nat.sub_zero, Nat.div_eq_of_lt hv]
    rfl
  | j + 1, h => by
    have ih := rb_digs v k hv j (by omega)
    rw [M.digs_succ, M.rb_snoc, ih]
    have e1 : k - j = (k - (j + 1)) + 1 := by omega
    have e2 : (M.dig v k j).toNat = v / 256 ^ (k - (j + 1)) % 256 := by
      unfold M.dig
      rw [Int.toNat_natCast, Nat.shiftRight_eq_div_pow, show k - 1 - j = k - (j + 1) from by omega, pow256]
    rw [e2, e1, Nat.pow_succ, ← Nat.div_div_eq_div_mul]
    omega
theorem nb_pow (v : Nat) : v < 256 ^ M.nb v := by
  rw [pow256]
  have := (M.bl_le v (8 * M.nb v)).1 (by unfold M.nb; omega)
  exact this
theorem nb_pos (v : Nat) (h : 0 < M.nb v) : 256 ^ (M.nb v - 1) ≤ v := by
  rw [pow256]
  refine Nat.not_lt.1 fun h2 => ?_
  have := (M.bl_le v (8 * (M.nb v - 1))).2 h2
  unfold M.nb at h this
  omega
theorem dig_first (v : Nat) (h : 0 < M.nb v) : M.dig v (M.nb v) 0 ≠ 0 := by
  have h1 := nb_pow v
  have h2 := nb_pos v h
  unfold M.dig
  rw [Nat.shiftRight_eq_div_pow, Nat.sub_zero, ← pow256]
  have h3 : 1 ≤ v / 256 ^ (M.nb v - 1) := (Nat.one_le_div_iff (Nat.pow_pos (by omega))).2 h2
  have h4 : v / 256 ^ (M.nb v - 1) < 256 := by
    rw [Nat.div_lt_iff_lt_mul (Nat.pow_pos (by omega)), Nat.mul_comm, ← Nat.pow_succ, Nat.succ_eq_add_one, Nat.sub_add_cancel h]
    exact h1
  omega
/-- What reading a number's form comes to. -/
theorem tn_read (x : Nat) (hx : x < 2 ^ 64) (rest : List Int) : tnErr (M.form x ++ rest) = 0 ∧ tnVal (M.form x ++ rest) = x ∧ tnSize (M.form x ++ rest) = (M.form x).length := by
  have hn := M.nb_le x hx
  have hl := M.digs_length x (M.nb x) (M.nb x)
  have e : M.form x ++ rest = (M.nb x : Int) :: (M.digs x (M.nb x) (M.nb x) ++ rest) := rfl
  have he : tnErr (M.form x ++ rest) = 0 := by
    rw [e]
    refine tnErr_ok (by omega) (by rw [List.length_append, hl]; omega) ?_
    rintro ⟨h1, h2⟩
    have h3 : 0 < M.nb x := by omega
    refine dig_first x h3 ?_
    rw [List.getD_eq_getElem?_getD, List.getElem?_append_left (by rw [hl]; exact h3)] at h2
    simpa [M.digs, h3] using h2
  refine ⟨he, ?_, ?_⟩
  · unfold tnVal
    rw [if_pos he, e]
    have h3 : ((M.digs x (M.nb x) (M.nb x) ++ rest).take (M.nb x)) = M.digs x (M.nb x) (M.nb x) := by
      rw [List.take_append_of_le_length (by rw [hl]; exact Nat.le_refl _), List.take_of_length_le (by rw [hl]; exact Nat.le_refl _)]
    show M.rb ((M.digs x (M.nb x) (M.nb x) ++ rest).take (M.nb x : Int).toNat) = x
    rw [Int.toNat_natCast, h3, rb_digs x (M.nb x) (nb_pow x) _ (Nat.le_refl _), Nat.sub_self, Nat.pow_zero, Nat.div_one]
  · unfold tnSize
    rw [if_pos he, e, M.form_length]
    show 1 + (M.nb x : Int).toNat = _
    rw [Int.toNat_natCast]; omega
#print axioms tn_read

end Go.Proofs.Ytomiifnhcojilaa.Wi
