import Derived.Test.YtaagmdkhjmonnaaRa2
namespace Go.Proofs.Ytaagmdkhjmonnaa
open Go.RowKit Go.Maps
open Classical
set_option linter.unusedVariables false
set_option linter.unusedSimpArgs false

/-! What is proved is taken. -/
theorem snoc_take (A : List Hs) (b : Hs) : (A ++ [b]).take ((A ++ [b]).length - 1) = A := by
  rw [List.length_append, List.length_singleton, Nat.add_sub_cancel, List.take_left']
  rfl
theorem snoc_last (A : List Hs) (b : Hs) : (A ++ [b]).getD ((A ++ [b]).length - 1) zH = b := by
  rw [List.length_append, List.length_singleton, Nat.add_sub_cancel, List.getD_eq_getElem?_getD, List.getElem?_append_right (Nat.le_refl _), Nat.sub_self]
  rfl
theorem cl_pu : ∀ (n : Nat) (L : List Hs) (p : Nat) (x : Hs), L.length = n → 1 ≤ p → p ≤ n → L[p - 1]? = some x → cl x p n (pu L p) = hd L := by
  intro n
  induction n using Nat.strongRecOn with
  | _ n ih =>
    intro L p x hL h1 h2 hx
    by_cases h3 : n = 1
    · subst h3
      obtain ⟨y, rfl⟩ := List.length_eq_one_iff.1 hL
      obtain rfl : p = 1 := by omega
      rw [cl_1, hd_1]
      exact (Option.some.inj hx).symm
    · have b := lft_b (n := n) (by omega)
      have e2 := hd_2 L (by omega)
      rw [hL] at e2
      by_cases hp : p ≤ lft n
      · have e1 := pu_l L p (by omega) (by rw [hL]; exact hp)
        rw [hL] at e1
        rw [e1, cl_l x p n _ (by omega) hp, snoc_take, snoc_last, e2, ih (lft n) (by omega) (L.take (lft n)) p x (by rw [List.length_take]; omega) h1 hp (by rw [List.getElem?_take, if_pos (by omega)]; exact hx)]
      · have e1 := pu_r L p (by omega) (by rw [hL]; exact hp)
        rw [hL] at e1
        rw [e1, cl_r x p n _ (by omega) hp, snoc_take, snoc_last, e2, ih (n - lft n) (by omega) (L.drop (lft n)) (p - lft n) x (by rw [List.length_drop]; omega) (by omega) (by omega) (by rw [List.getElem?_drop, show lft n + (p - lft n - 1) = p - 1 by omega]; exact hx)]
theorem lft_same {m n : Nat} (h2 : 2 ≤ n) (h : lft n < m) (hm : m ≤ n) : lft m = lft n := by
  have b := lft_b h2
  have e : Nat.log2 (m - 1) = Nat.log2 (n - 1) := by
    refine (Nat.log2_eq_iff (by omega)).2 ⟨?_, ?_⟩
    · have : 2 ^ Nat.log2 (n - 1) = lft n := rfl
      omega
    · have := Nat.lt_log2_self (n := n - 1)
      omega
  unfold lft
  rw [e]
theorem cb_pa : ∀ (n : Nat) (L : List Hs) (m : Nat) (wh : Bool) (old : Hs), L.length = n → 1 ≤ m → m ≤ n → (wh = true → old = hd (L.take m)) → cb old m n wh (pa L m wh) = (hd (L.take m), hd L) := by
  intro n
  induction n using Nat.strongRecOn with
  | _ n ih =>
    intro L m wh old hL h1 h2 ho
    by_cases h3 : m = n
    · subst h3
      have e0 : L.take m = L := List.take_of_length_le (by omega)
      have e1 := pa_e L wh
      rw [hL] at e1
      rw [cb_e, e1]
      cases wh with
      | false => rw [e0]; rfl
      | true => have := ho rfl; rw [e0] at this; rw [this, e0]; rfl
    · have b := lft_b (n := n) (by omega)
      have e2 := hd_2 L (by omega)
      rw [hL] at e2
      by_cases hp : m ≤ lft n
      · have e1 := pa_l L m wh (by omega) (by rw [hL]; exact hp)
        rw [hL] at e1
        have et : (L.take (lft n)).take m = L.take m := by rw [List.take_take, Nat.min_eq_left hp]
        have e3 := ih (lft n) (by omega) (L.take (lft n)) m wh old (by rw [List.length_take]; omega) h1 hp (by rw [et]; exact ho)
        rw [e1, cb_l old m n wh _ (by omega) hp, snoc_take, snoc_last, e3, et, ← e2]
      · have e1 := pa_r L m wh (by omega) (by omega) (by rw [hL]; exact hp)
        rw [hL] at e1
        have e3 := ih (n - lft n) (by omega) (L.drop (lft n)) (m - lft n) false old (by rw [List.length_drop]; omega) (by omega) (by omega) (fun h => by cases h)
        have e4 := hd_2 (L.take m) (by rw [List.length_take]; omega)
        have e5 : (L.take m).length = m := by rw [List.length_take]; omega
        rw [e5, lft_same (by omega) (by omega) h2, List.take_take, Nat.min_eq_left (by omega), List.drop_take] at e4
        rw [e1, cb_r old m n wh _ (by omega) h3 hp, snoc_take, snoc_last, e3, ← e2, ← e4]
theorem lft_le {n b : Nat} (h2 : 2 ≤ n) (h : n ≤ 2 ^ (b + 1)) : lft n ≤ 2 ^ b := by
  have hb := lft_b h2
  unfold lft at *
  have : Nat.log2 (n - 1) < b + 1 := (Nat.pow_lt_pow_iff_right (a := 2) (by decide)).1 (by omega)
  exact Nat.pow_le_pow_right (by decide) (by omega)
theorem su_bits : ∀ (b n p : Nat), 1 ≤ n → n ≤ 2 ^ b → su p n ≤ b
  | 0, n, p, h1, h => by
    obtain rfl : n = 1 := by simp at h; omega
    rw [su_1]; omega
  | b + 1, n, p, h1, h => by
    by_cases h3 : n = 1
    · subst h3; rw [su_1]; omega
    · have hb := lft_b (n := n) (by omega)
      have hl := lft_le (by omega) h
      by_cases hp : p ≤ lft n
      · rw [su_l p n (by omega) hp]
        have := su_bits b (lft n) p (by omega) hl
        omega
      · rw [su_r p n (by omega) hp]
        have := su_bits b (n - lft n) (p - lft n) (by omega) (by omega)
        omega
theorem sa_bits : ∀ (b n m : Nat) (wh : Bool), 1 ≤ m → m ≤ n → n ≤ 2 ^ b → sa m n wh ≤ b + 1
  | 0, n, m, wh, h1, h2, h => by
    obtain rfl : n = 1 := by simp at h; omega
    obtain rfl : m = 1 := by omega
    rw [sa_e]; cases wh <;> simp
  | b + 1, n, m, wh, h1, h2, h => by
    by_cases h3 : m = n
    · subst h3; rw [sa_e]; cases wh <;> simp
    · have hb := lft_b (n := n) (by omega)
      have hl := lft_le (by omega) h
      by_cases hp : m ≤ lft n
      · rw [sa_l m n wh (by omega) hp]
        have := sa_bits b (lft n) m wh h1 hp hl
        omega
      · rw [sa_r m n wh (by omega) h3 hp]
        have := sa_bits b (n - lft n) (m - lft n) false (by omega) (by omega) (by omega)
        omega
theorem lt_bl20 (n : Nat) : n < 2 ^ M.bl n := by
  unfold M.bl
  by_cases h : n = 0
  · rw [if_pos h, h]; decide
  · rw [if_neg h]
    exact Nat.lt_log2_self
/-- The path of a size. -/
def csP (L : List Hs) (m : Nat) : List Hs := if m = 0 then [] else pa L m true
theorem csR_ok {L : List Hs} {m : Nat} (h : m ≤ L.length) : csR L (m : Int) = (csP L m, 0) := by
  unfold csR csP
  rw [if_neg (by omega)]
  by_cases h0 : m = 0
  · rw [if_pos (by omega), if_pos h0]
  · rw [if_neg (by omega), if_neg h0, Int.toNat_natCast]
theorem csP_len {L : List Hs} {m : Nat} (h : m ≤ L.length) : (csP L m).length = sbN m L.length := by
  unfold csP sbN
  by_cases h0 : m = 0
  · rw [if_pos h0, if_pos h0]; rfl
  · rw [if_neg h0, if_neg h0, pa_len L.length L m true rfl (by omega) h]
theorem csP_bits {L : List Hs} {m : Nat} (h : m ≤ L.length) : (csP L m).length ≤ M.bl L.length + 1 := by
  rw [csP_len h]
  unfold sbN
  by_cases h0 : m = 0
  · rw [if_pos h0]; omega
  · rw [if_neg h0]
    have := lt_bl20 L.length
    exact sa_bits _ _ _ _ (by omega) h (by omega)
theorem ex_ok {L : List Hs} {m : Nat} (h : m ≤ L.length) : exR (hd (L.take m)) (m : Int) (hd L) (L.length : Int) (csP L m) = 0 := by
  unfold exR
  rw [if_neg (by omega), Int.toNat_natCast, Int.toNat_natCast, if_neg (fun e => e (csP_len h)), if_pos ?_]
  unfold jnR csP
  by_cases h0 : m = 0
  · subst h0
    rw [if_pos rfl, List.take_zero, hd_0]
    by_cases h1 : L.length = 0
    · rw [List.eq_nil_of_length_eq_zero h1, hd_0]; simp
    · have : (0 : Int) < (L.length : Int) := by omega
      rw [decide_eq_true rfl, decide_eq_true this]
      rfl
  · rw [if_neg h0, if_neg h0]
    by_cases h1 : m = L.length
    · rw [if_pos h1, h1, List.take_length]; simp
    · rw [if_neg h1, cb_pa L.length L m true _ rfl (by omega) h (fun _ => rfl)]; simp
theorem in_ok {L : List Hs} {p : Nat} (h1 : 1 ≤ p) (h2 : p ≤ L.length) : inR L (p : Int) = (pu L p, 0) := by
  unfold inR
  rw [if_neg (by omega), Int.toNat_natCast]
theorem pu_bits {L : List Hs} {p : Nat} (h1 : 1 ≤ p) (h2 : p ≤ L.length) : (pu L p).length ≤ M.bl L.length := by
  rw [pu_len L.length L p rfl (by omega)]
  have := lt_bl20 L.length
  exact su_bits _ _ _ (by omega) (by omega)
theorem ic_ok {l : List En} {p : Nat} {x : En} (h1 : 1 ≤ p) (h2 : p ≤ l.length) (hx : l[p - 1]? = some x) : icR (hd (l.map lf)) (l.length : Int) (p : Int) x (pu (l.map lf) p) = 0 := by
  unfold icR
  rw [if_neg (by omega), if_neg (by omega), Int.toNat_natCast, Int.toNat_natCast, if_neg (fun e => e (pu_len l.length (l.map lf) p (List.length_map _) (by omega))), if_pos ?_]
  rw [cl_pu l.length (l.map lf) p (lf x) (List.length_map _) h1 h2 (by rw [List.getElem?_map, hx]; rfl)]

end Go.Proofs.Ytaagmdkhjmonnaa
