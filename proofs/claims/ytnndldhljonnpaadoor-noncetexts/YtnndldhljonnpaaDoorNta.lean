import Derived.Lib.ItoaNum
import Derived.WalkKit
namespace Go.Proofs.YtnndldhljonnpaaDoor
set_option linter.unusedVariables false
set_option linter.unusedSimpArgs false

/-- The longest number at the head, v being read before it (f: nothing was): its value, how many bytes it has. -/
def rd (v : Nat) (f : Bool) : List Nat → Nat × Nat
  | [] => (v, 0)
  | c :: r => if c < 48 ∨ 57 < c ∨ (f = false ∧ v = 0) ∨ (18446744073709551615 - (c - 48)) / 10 < v then (v, 0) else ((rd (v * 10 + (c - 48)) false r).1, (rd (v * 10 + (c - 48)) false r).2 + 1)
def rn (l : List Nat) : Nat × Nat := rd 0 true l
abbrev rdStop (v : Nat) (f : Bool) (c : Nat) : Prop := c < 48 ∨ 57 < c ∨ (f = false ∧ v = 0) ∨ (18446744073709551615 - (c - 48)) / 10 < v
theorem rd_nil (v : Nat) (f : Bool) : rd v f [] = (v, 0) := rfl
theorem rd_stop {v : Nat} {f : Bool} {c : Nat} {r : List Nat} (h : rdStop v f c) : rd v f (c :: r) = (v, 0) := by
  rw [rd]; exact if_pos h
theorem rd_go {v : Nat} {f : Bool} {c : Nat} {r : List Nat} (h : ¬ rdStop v f c) : rd v f (c :: r) = ((rd (v * 10 + (c - 48)) false r).1, (rd (v * 10 + (c - 48)) false r).2 + 1) := by
  rw [rd]; exact if_neg h
theorem rd_le : ∀ (l : List Nat) (v : Nat) (f : Bool), (rd v f l).2 ≤ l.length
  | [], v, f => by simp [rd_nil]
  | c :: r, v, f => by
    by_cases h : rdStop v f c
    · rw [rd_stop h]; simp
    · rw [rd_go h]; have := rd_le r (v * 10 + (c - 48)) false; simp; omega
theorem rd_top : ∀ (l : List Nat) (v : Nat) (f : Bool), v ≤ 18446744073709551615 → (rd v f l).1 ≤ 18446744073709551615
  | [], v, f, h => by simpa [rd_nil] using h
  | c :: r, v, f, hv => by
    by_cases h : rdStop v f c
    · rw [rd_stop h]; exact hv
    · rw [rd_go h]
      refine rd_top r _ _ ?_
      unfold rdStop at h
      omega
theorem rd_take : ∀ (l : List Nat) (v : Nat) (f : Bool) (m : Nat), (rd v f (l.take m)).2 = min m (rd v f l).2
  | [], v, f, m => by simp [rd_nil]
  | c :: r, v, f, 0 => by simp [rd_nil]
  | c :: r, v, f, m + 1 => by
    rw [List.take_succ_cons]
    by_cases h : rdStop v f c
    · rw [rd_stop h, rd_stop h]; simp
    · rw [rd_go h, rd_go h]
      have := rd_take r (v * 10 + (c - 48)) false m
      simp only [this]
      omega
theorem rd_digit : ∀ (l : List Nat) (v : Nat) (f : Bool) (j : Nat), j < (rd v f l).2 → ∃ c, l[j]? = some c ∧ 48 ≤ c ∧ c ≤ 57
  | [], v, f, j, h => by simp [rd_nil] at h
  | c :: r, v, f, j, h => by
    by_cases hs : rdStop v f c
    · rw [rd_stop hs] at h; simp at h
    · rw [rd_go hs] at h
      cases j with
      | zero => exact ⟨c, rfl, by unfold rdStop at hs; omega, by unfold rdStop at hs; omega⟩
      | succ j => obtain ⟨d, h1, h2⟩ := rd_digit r _ _ j (by simpa using h); exact ⟨d, by simpa using h1, h2⟩
theorem rd_dot : ∀ (l r : List Nat) (v : Nat) (f : Bool), rd v f (l ++ 46 :: r) = rd v f l
  | [], r, v, f => by rw [List.nil_append, rd_stop (by unfold rdStop; omega), rd_nil]
  | c :: l, r, v, f => by
    rw [List.cons_append]
    by_cases h : rdStop v f c
    · rw [rd_stop h, rd_stop h]
    · rw [rd_go h, rd_go h, rd_dot l r]
theorem rd_snoc : ∀ (l : List Nat) (c v : Nat) (f : Bool), (rd v f l).2 = l.length → rd v f (l ++ [c]) = if rdStop (rd v f l).1 (f && l.isEmpty) c then ((rd v f l).1, l.length) else ((rd v f l).1 * 10 + (c - 48), l.length + 1)
  | [], c, v, f, h => by
    rw [List.nil_append, rd_nil]
    simp only [List.isEmpty_nil, Bool.and_true, List.length_nil]
    by_cases hs : rdStop v f c
    · rw [rd_stop hs, if_pos hs]
    · rw [rd_go hs, if_neg hs, rd_nil]
  | d :: l, c, v, f, h => by
    by_cases hs : rdStop v f d
    · rw [rd_stop hs] at h; simp at h
    · rw [rd_go hs] at h ⊢
      have h2 : (rd (v * 10 + (d - 48)) false l).2 = l.length := by simpa using h
      rw [List.cons_append, rd_go hs, rd_snoc l c _ false h2]
      simp only [Bool.false_and, List.isEmpty_cons, Bool.and_false, List.length_cons]
      split <;> simp
/-- Is it a number, whole? -/
def nm (l : List Nat) : Bool := decide (l ≠ [] ∧ (rn l).2 = l.length)
theorem nm_take (l : List Nat) (m : Nat) (h : m ≤ l.length) : nm (l.take m) = decide (0 < m ∧ m ≤ (rn l).2) := by
  unfold nm
  have e : (rn (l.take m)).2 = min m (rn l).2 := rd_take l 0 true m
  rw [e, List.length_take]
  have : l.take m = [] ↔ m = 0 := by
    rw [List.take_eq_nil_iff]
    constructor
    · rintro (h1 | h1)
      · exact h1
      · subst h1; simpa using h
    · exact .inl
  simp only [ne_eq, this]
  congr 1
  apply propext
  constructor <;> intro hh <;> omega
/-- The first point's place. -/
def pt (l : List Nat) : Nat := l.findIdx (· == 46)
theorem pt_le (l : List Nat) : pt l ≤ l.length := List.findIdx_le_length
theorem pt_at {l : List Nat} (h : pt l < l.length) : l[pt l]? = some 46 := by
  have := List.findIdx_getElem (p := (· == 46)) (xs := l) (w := h)
  have e : (l[pt l]'h == 46) = true := this
  rw [List.getElem?_eq_getElem h, beq_iff_eq.1 e]
theorem pt_not {l : List Nat} {j : Nat} (h : j < pt l) : l[j]? ≠ some 46 := by
  have hj : j < l.length := Nat.lt_of_lt_of_le h (pt_le l)
  have := List.not_of_lt_findIdx (p := (· == 46)) (xs := l) (i := j) h
  rw [List.getElem?_eq_getElem hj]
  intro e
  simp at e this
  exact this e
theorem pt_of {l : List Nat} {j : Nat} (h : l[j]? = some 46) (hn : ∀ i, i < j → l[i]? ≠ some 46) : pt l = j := by
  have hj : j < l.length := (List.getElem?_eq_some_iff.1 h).1
  rcases Nat.lt_trichotomy (pt l) j with h1 | h1 | h1
  · exact absurd (pt_at (by omega)) (hn _ h1)
  · exact h1
  · exact absurd h (pt_not h1)
theorem rn_pt (l : List Nat) : (rn l).2 ≤ pt l := by
  rcases Nat.lt_or_ge (pt l) (rn l).2 with h | h
  · obtain ⟨c, h1, h2, h3⟩ := rd_digit l 0 true _ h
    have hl := rd_le l 0 true
    have : pt l < l.length := Nat.lt_of_lt_of_le h hl
    rw [pt_at this] at h1
    injection h1 with h1
    omega
  · exact h
theorem pt_take (l : List Nat) (m : Nat) (hm : m ≤ l.length) : pt (l.take m) = min m (pt l) := by
  rcases Nat.lt_or_ge (pt l) m with h | h
  · rw [Nat.min_eq_right (by omega)]
    refine pt_of ?_ fun i hi => ?_
    · rw [List.getElem?_take_of_lt h]; exact pt_at (by omega)
    · rw [List.getElem?_take_of_lt (by omega)]; exact pt_not hi
  · rw [Nat.min_eq_left h]
    have hl : (l.take m).length = m := by rw [List.length_take]; omega
    rcases Nat.lt_or_ge (pt (l.take m)) m with h2 | h2
    · have := pt_at (l := l.take m) (by omega)
      rw [List.getElem?_take_of_lt h2] at this
      exact absurd this (pt_not (by omega))
    · have := pt_le (l.take m)
      omega
/-- What Parse answers: is it a draw's text; its halves; the fault's place. -/
def psOK (l : List Nat) : Bool := decide ((rn l).2 ≠ 0 ∧ l[(rn l).2]? = some 46 ∧ (rn (l.drop ((rn l).2 + 1))).2 ≠ 0 ∧ (rn l).2 + 1 + (rn (l.drop ((rn l).2 + 1))).2 = l.length)
def psH (l : List Nat) : Nat := (rn l).1
def psL (l : List Nat) : Nat := (rn (l.drop ((rn l).2 + 1))).1
def place (l : List Nat) : Nat := if (rn l).2 ≠ 0 ∧ l[(rn l).2]? = some 46 then (rn l).2 + 1 + (rn (l.drop ((rn l).2 + 1))).2 else (rn l).2
theorem place_le (l : List Nat) : place l ≤ l.length := by
  unfold place
  have h1 := rd_le l 0 true
  have h2 := rd_le (l.drop ((rn l).2 + 1)) 0 true
  rw [List.length_drop] at h2
  split
  · rename_i h
    have := (List.getElem?_eq_some_iff.1 h.2).1
    unfold rn at *
    omega
  · exact h1
/-- .. as the document has it. -/
theorem psOK_ref (l : List Nat) : psOK l = (decide (pt l < l.length) && (nm (l.take (pt l)) && nm (l.drop (pt l + 1)))) := by
  have hp := rn_pt l
  have hl := pt_le l
  rw [nm_take l _ hl]
  unfold nm psOK
  rw [Bool.eq_iff_iff]
  simp only [decide_eq_true_eq, Bool.and_eq_true, ne_eq]
  constructor
  · rintro ⟨h1, h2, h3, h4⟩
    have e : pt l = (rn l).2 := pt_of h2 (fun i hi => by
      obtain ⟨c, e, h5, h6⟩ := rd_digit l 0 true i hi
      rw [e]; intro e; injection e with e; omega)
    have hlt := (List.getElem?_eq_some_iff.1 h2).1
    rw [e]
    refine ⟨hlt, ⟨by omega, Nat.le_refl _⟩, fun e0 => ?_, by rw [List.length_drop]; omega⟩
    have := congrArg List.length e0
    rw [List.length_drop] at this
    simp at this
    omega
  · rintro ⟨h1, ⟨h2, h3⟩, h4, h5⟩
    have e : pt l = (rn l).2 := by omega
    rw [e] at h1 h2 h4 h5
    have h6 := pt_at (l := l) (by rw [e]; exact h1)
    rw [e] at h6
    rw [List.length_drop] at h5
    refine ⟨by omega, h6, ?_, by omega⟩
    intro h7
    apply h4
    apply List.eq_nil_of_length_eq_zero
    rw [List.length_drop]
    omega
theorem ps_pt {l : List Nat} (h : psOK l = true) : pt l = (rn l).2 := by
  unfold psOK at h
  simp only [decide_eq_true_eq] at h
  exact pt_of h.2.1 (fun i hi => by
    obtain ⟨c, e, h5, h6⟩ := rd_digit l 0 true i hi
    rw [e]; intro e; injection e with e; omega)
/-- Is it a beginning of some draw's text? -/
def bg (l : List Nat) : Bool := if pt l = l.length then (decide (l = []) || nm l) else (nm (l.take (pt l)) && (decide (pt l + 1 = l.length) || nm (l.drop (pt l + 1))))
theorem bg_take (l : List Nat) (n : Nat) (h : n < l.length) : bg (l.take (n + 1)) = decide (n < place l) := by
  have hp := rn_pt l
  have hl := pt_le l
  have hlen : (l.take (n + 1)).length = n + 1 := by rw [List.length_take]; omega
  unfold bg
  rw [pt_take l _ (by omega), hlen]
  rcases Nat.lt_or_ge n (pt l) with h1 | h1
  · rw [Nat.min_eq_left (by omega), if_pos rfl, nm_take l _ (by omega)]
    have : l.take (n + 1) ≠ [] := fun e => by rw [e] at hlen; simp at hlen
    simp only [this, decide_false, Bool.false_or]
    congr 1
    apply propext
    unfold place
    split
    · rename_i h2
      have e : pt l = (rn l).2 := pt_of h2.2 (fun i hi => by
        obtain ⟨c, e, h5, h6⟩ := rd_digit l 0 true i hi
        rw [e]; intro e; injection e with e; omega)
      constructor <;> intro _ <;> omega
    · constructor <;> intro _ <;> omega
  · rw [Nat.min_eq_right (by omega), if_neg (by omega)]
    rw [List.take_take, Nat.min_eq_left (by omega), nm_take l _ hl]
    have hat := pt_at (l := l) (by omega)
    by_cases e : pt l = (rn l).2 ∧ (rn l).2 ≠ 0
    · obtain ⟨e, e0⟩ := e
      have hpl : place l = (rn l).2 + 1 + (rn (l.drop ((rn l).2 + 1))).2 := by
        unfold place
        rw [if_pos ⟨e0, by rw [← e]; exact hat⟩]
      rw [e, hpl]
      have hd : (l.take (n + 1)).drop ((rn l).2 + 1) = (l.drop ((rn l).2 + 1)).take (n - (rn l).2) := by
        rw [List.drop_take]
        congr 1
        omega
      rw [hd, nm_take _ _ (by rw [List.length_drop]; omega)]
      rw [Bool.eq_iff_iff]
      simp only [decide_eq_true_eq, Bool.and_eq_true, Bool.or_eq_true]
      constructor <;> intro _ <;> omega
    · have hpl : place l = (rn l).2 := by
        unfold place
        rw [if_neg]
        rintro ⟨h2, h3⟩
        exact e ⟨pt_of h3 (fun i hi => by
          obtain ⟨c, e, h5, h6⟩ := rd_digit l 0 true i hi
          rw [e]; intro e; injection e with e; omega), h2⟩
      rw [hpl]
      rw [Bool.eq_iff_iff]
      simp only [decide_eq_true_eq, Bool.and_eq_true]
      constructor
      · rintro ⟨h2, _⟩; omega
      · intro h2; omega
/-- The digits of a number. -/
def dn (n : Nat) : List Nat := (Lib.decDigits n).map UInt8.toNat
theorem dn_small {n : Nat} (h : n < 10) : dn n = [48 + n] := by
  unfold dn
  rw [Lib.decDigits, dif_pos h]
  simp [UInt8.toNat_ofNat]
  omega
theorem dn_big {n : Nat} (h : ¬ n < 10) : dn n = dn (n / 10) ++ [48 + n % 10] := by
  unfold dn
  rw [Lib.decDigits, dif_neg h, List.map_append]
  simp [UInt8.toNat_ofNat]
  omega
theorem rn_dn : ∀ (k n : Nat), n ≤ k → n ≤ 18446744073709551615 → rn (dn n) = (n, (dn n).length)
  | 0, n, h, _ => by
    obtain rfl : n = 0 := by omega
    rw [dn_small (by omega)]
    decide
  | k + 1, n, h, ht => by
    by_cases h10 : n < 10
    · rw [dn_small h10]
      unfold rn
      rw [rd_go (by unfold rdStop; simp; omega), rd_nil]
      simp
    · have ih := rn_dn k (n / 10) (by omega) (by omega)
      rw [dn_big h10]
      unfold rn at ih ⊢
      rw [rd_snoc _ _ _ _ (by rw [ih]), ih, if_neg]
      · simp; omega
      · unfold rdStop
        simp only [Bool.and_eq_false_imp, not_or]
        refine ⟨by omega, by omega, ?_, by omega⟩
        rintro ⟨_, h3⟩
        omega
theorem dn_rn : ∀ (k : Nat) (l : List Nat), l.length ≤ k → l ≠ [] → (rn l).2 = l.length → dn (rn l).1 = l
  | 0, l, h, hn, _ => absurd (List.eq_nil_of_length_eq_zero (by omega)) hn
  | k + 1, l, h, hn, hr => by
    obtain ⟨m, c, rfl⟩ : ∃ m c, l = m ++ [c] := ⟨l.dropLast, l.getLast hn, (List.dropLast_concat_getLast hn).symm⟩
    have hm : (rn m).2 = m.length := by
      have := rd_take (m ++ [c]) 0 true m.length
      rw [List.take_left] at this
      unfold rn at hr ⊢
      rw [this, hr]
      simp
    unfold rn at hr hm ⊢
    rw [rd_snoc _ _ _ _ hm] at hr ⊢
    by_cases hs : rdStop (rd 0 true m).1 (true && m.isEmpty) c
    · rw [if_pos hs] at hr; simp at hr
    · rw [if_neg hs] at hr ⊢
      have hc : 48 ≤ c ∧ c ≤ 57 := by unfold rdStop at hs; omega
      by_cases hm0 : m = []
      · subst hm0
        show dn (0 * 10 + (c - 48)) = _
        rw [dn_small (by omega)]
        simp
        omega
      · have ih := dn_rn k m (by simp at h; omega) hm0 hm
        have hu : (rd 0 true m).1 ≠ 0 := by
          intro e
          apply hs
          unfold rdStop
          refine .inr (.inr (.inl ⟨?_, e⟩))
          cases m with
          | nil => exact absurd rfl hm0
          | cons _ _ => rfl
        show dn ((rd 0 true m).1 * 10 + (c - 48)) = _
        rw [dn_big (by omega)]
        have e1 : ((rd 0 true m).1 * 10 + (c - 48)) / 10 = (rd 0 true m).1 := by omega
        have e2 : 48 + ((rd 0 true m).1 * 10 + (c - 48)) % 10 = c := by omega
        rw [e1, e2]
        unfold rn at ih
        rw [ih]
/-- A draw's text. -/
def pr (h l : Nat) : List Nat := dn h ++ 46 :: dn l
theorem dn_ne (n : Nat) : dn n ≠ [] := by
  by_cases h : n < 10
  · rw [dn_small h]; simp
  · rw [dn_big h]; simp
theorem ps_of {a b : List Nat} (ha : nm a = true) : (rn (a ++ 46 :: b)) = rn a ∧ psOK (a ++ 46 :: b) = nm b ∧ psH (a ++ 46 :: b) = (rn a).1 ∧ psL (a ++ 46 :: b) = (rn b).1 := by
  unfold nm at ha
  simp only [decide_eq_true_eq] at ha
  have e : rn (a ++ 46 :: b) = rn a := rd_dot a b 0 true
  have e2 : (rn (a ++ 46 :: b)).2 = a.length := by rw [e]; exact ha.2
  have ed : (a ++ 46 :: b).drop (a.length + 1) = b := by
    rw [show a.length + 1 = a.length + 1 from rfl, ← List.drop_drop, List.drop_left]; rfl
  have hp : a.length ≠ 0 := fun h => ha.1 (List.eq_nil_of_length_eq_zero h)
  refine ⟨e, ?_, by unfold psH; rw [e], by unfold psL; rw [e2, ed]⟩
  unfold psOK nm
  rw [e2, ed, List.length_append, List.length_cons, List.getElem?_append_right (Nat.le_refl _), Nat.sub_self]
  rw [Bool.eq_iff_iff]
  simp only [decide_eq_true_eq, List.getElem?_cons_zero, ne_eq]
  constructor
  · rintro ⟨_, _, h3, h4⟩
    refine ⟨fun h => ?_, by omega⟩
    subst h
    simp at h4
    omega
  · rintro ⟨h1, h2⟩
    refine ⟨hp, trivial, fun h => ?_, by omega⟩
    exact h1 (List.eq_nil_of_length_eq_zero (by omega))
theorem nm_dn (n : Nat) (h : n ≤ 18446744073709551615) : nm (dn n) = true := by
  unfold nm
  simp only [decide_eq_true_eq]
  exact ⟨dn_ne n, by rw [rn_dn n n (Nat.le_refl _) h]⟩
theorem ps_pr (h l : Nat) (hh : h ≤ 18446744073709551615) (hl : l ≤ 18446744073709551615) : psOK (pr h l) = true ∧ psH (pr h l) = h ∧ psL (pr h l) = l := by
  obtain ⟨_, h2, h3, h4⟩ := ps_of (b := dn l) (nm_dn h hh)
  unfold pr
  rw [h2, h3, h4, nm_dn l hl, rn_dn h h (Nat.le_refl _) hh, rn_dn l l (Nat.le_refl _) hl]
  exact ⟨rfl, rfl, rfl⟩
theorem pr_ps {l : List Nat} (h : psOK l = true) : pr (psH l) (psL l) = l := by
  have hp := ps_pt h
  unfold psOK at h
  simp only [decide_eq_true_eq] at h
  obtain ⟨h1, h2, h3, h4⟩ := h
  have hlt := (List.getElem?_eq_some_iff.1 h2).1
  have split_ : l = l.take (rn l).2 ++ 46 :: l.drop ((rn l).2 + 1) := by
    conv => lhs; rw [← List.take_append_drop (rn l).2 l]
    congr 1
    rw [List.drop_eq_getElem_cons hlt]
    congr 1
    rw [List.getElem?_eq_getElem hlt] at h2
    injection h2
  have t1 : (rn (l.take (rn l).2)).2 = (rn l).2 := by
    have := rd_take l 0 true (rn l).2
    unfold rn at this ⊢
    rw [this]
    omega
  have tl : (l.take (rn l).2).length = (rn l).2 := by rw [List.length_take]; omega
  have tv : (rn (l.take (rn l).2)).1 = (rn l).1 := by
    have : rn l = rn (l.take (rn l).2) := by
      conv => lhs; rw [split_]
      exact rd_dot _ _ 0 true
    rw [← this]
  have e1 := dn_rn _ (l.take (rn l).2) (Nat.le_refl _) (fun e => by rw [e, List.length_nil] at tl; exact h1 tl.symm) (by rw [t1, tl])
  rw [tv] at e1
  have dl : (l.drop ((rn l).2 + 1)).length = (rn (l.drop ((rn l).2 + 1))).2 := by rw [List.length_drop]; omega
  have e2 := dn_rn _ (l.drop ((rn l).2 + 1)) (Nat.le_refl _) (fun e => h3 (by rw [e]; rfl)) dl.symm
  unfold pr psH psL
  rw [e1, e2]
  exact split_.symm
/-- What stands ahead of the fault's place can be made a draw's text. -/
theorem ends_ok (l : List Nat) : psOK (l.take (place l) ++ []) = true ∨ psOK (l.take (place l) ++ [48]) = true ∨ psOK (l.take (place l) ++ [46, 48]) = true ∨ psOK (l.take (place l) ++ [48, 46, 48]) = true := by
  have hl := rd_le l 0 true
  have t0 : nm (l.take (rn l).2) = decide (0 < (rn l).2 ∧ (rn l).2 ≤ (rn l).2) := nm_take l _ hl
  by_cases h0 : (rn l).2 = 0
  · right; right; right
    have : place l = 0 := by unfold place; rw [if_neg (by simp [h0]), h0]
    rw [this, List.take_zero]
    decide
  · have t1 : nm (l.take (rn l).2) = true := by rw [t0]; simp; omega
    by_cases hd : l[(rn l).2]? = some 46
    · have hlt := (List.getElem?_eq_some_iff.1 hd).1
      have hpl : place l = (rn l).2 + 1 + (rn (l.drop ((rn l).2 + 1))).2 := by unfold place; rw [if_pos ⟨h0, hd⟩]
      have e1 : l.take (place l) = l.take (rn l).2 ++ 46 :: (l.drop ((rn l).2 + 1)).take (rn (l.drop ((rn l).2 + 1))).2 := by
        rw [hpl, Nat.add_assoc, List.take_add]
        congr 1
        rw [List.drop_eq_getElem_cons hlt, Nat.add_comm, List.take_succ_cons]
        congr 1
        rw [List.getElem?_eq_getElem hlt] at hd
        injection hd
      by_cases he : (rn (l.drop ((rn l).2 + 1))).2 = 0
      · right; left
        rw [e1, he, List.take_zero, List.append_assoc, List.cons_append, List.nil_append, (ps_of t1).2.1]
        decide
      · left
        rw [e1, List.append_nil, (ps_of t1).2.1, nm_take (l.drop ((rn l).2 + 1)) (rn (l.drop ((rn l).2 + 1))).2 (rd_le _ 0 true)]
        simp
        omega
    · right; right; left
      have hpl : place l = (rn l).2 := by unfold place; rw [if_neg (fun h => hd h.2)]
      rw [hpl, (ps_of t1).2.1]
      decide

end Go.Proofs.YtnndldhljonnpaaDoor
