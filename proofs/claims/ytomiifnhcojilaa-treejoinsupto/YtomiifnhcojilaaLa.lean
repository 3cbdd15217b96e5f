import Derived.Test.YtomiifnhcojilaaRows
import Derived.Maps.OwnSet
namespace Go.Proofs.Ytomiifnhcojilaa
set_option linter.unusedVariables false

/-- A cell: its slot and its value. -/
abbrev Cl := Int × ByteArray
/-- What stands in a slot. -/
def gv (L : List Cl) (s : Int) : Option ByteArray := (L.find? (fun p => p.1 == s)).map (·.2)
/-- The slot behind the greatest. -/
def bh : List Cl → Int
  | [] => 0
  | p :: r => max (p.1 + 1) (bh r)
def ins (p : Cl) : List Cl → List Cl
  | [] => [p]
  | y :: r => if p.1 < y.1 then p :: y :: r else y :: ins p r
/-- Cells that may be. -/
structure Ok (L : List Cl) : Prop where
  up : L.Pairwise (fun p q => p.1 < q.1)
  may : ∀ p ∈ L, 0 ≤ p.1 ∧ p.1 < 1024 ∧ p.2.size ≤ 64

theorem Ok.nil : Ok [] := ⟨List.Pairwise.nil, by simp⟩
theorem mem_ins (p q : Cl) : ∀ L : List Cl, q ∈ ins p L ↔ q = p ∨ q ∈ L
  | [] => by simp [ins]
  | y :: r => by
    unfold ins
    split
    · simp
    · simp [mem_ins p q r]
      constructor
      · rintro (h | h | h) <;> simp [h]
      · rintro (h | h | h) <;> simp [h]
theorem len_ins (p : Cl) : ∀ L : List Cl, (ins p L).length = L.length + 1
  | [] => rfl
  | y :: r => by
    unfold ins
    split
    · rfl
    · simp [len_ins p r]
theorem gv_none {L : List Cl} {s : Int} : gv L s = none ↔ ∀ p ∈ L, p.1 ≠ s := by
  simp [gv, List.find?_eq_none]
theorem gv_mem {L : List Cl} {s : Int} {v : ByteArray} (h : gv L s = some v) : (s, v) ∈ L := by
  unfold gv at h
  cases hf : L.find? (fun p => p.1 == s) with
  | none => simp [hf] at h
  | some p =>
    simp [hf] at h
    have h1 := List.mem_of_find?_eq_some hf
    have h2 := List.find?_some hf
    simp at h2
    rw [← h, ← h2]
    exact h1
theorem gv_of_mem {L : List Cl} (h : L.Pairwise (fun p q => p.1 < q.1)) {p : Cl} (hp : p ∈ L) : gv L p.1 = some p.2 := by
  induction L with
  | nil => simp at hp
  | cons y r ih =>
    obtain ⟨h1, h2⟩ := List.pairwise_cons.1 h
    rcases List.mem_cons.1 hp with rfl | hp'
    · simp [gv]
    · have hne : y.1 ≠ p.1 := by have := h1 p hp'; omega
      have := ih h2 hp'
      simp [gv, hne] at this ⊢
      exact this
theorem ins_up {p : Cl} : ∀ {L : List Cl}, L.Pairwise (fun p q => p.1 < q.1) → (∀ q ∈ L, q.1 ≠ p.1) → (ins p L).Pairwise (fun p q => p.1 < q.1)
  | [], _, _ => by simp [ins]
  | y :: r, h, hn => by
    obtain ⟨h1, h2⟩ := List.pairwise_cons.1 h
    unfold ins
    split
    · rename_i hlt
      refine List.pairwise_cons.2 ⟨fun q hq => ?_, h⟩
      rcases List.mem_cons.1 hq with rfl | hq'
      · exact hlt
      · have := h1 q hq'; omega
    · rename_i hlt
      refine List.pairwise_cons.2 ⟨fun q hq => ?_, ins_up h2 (fun q hq => hn q (by simp [hq]))⟩
      rcases (mem_ins p q r).1 hq with rfl | hq'
      · have := hn y (by simp); omega
      · exact h1 q hq'
theorem Ok.ins {L : List Cl} (h : Ok L) {p : Cl} (hp : 0 ≤ p.1 ∧ p.1 < 1024 ∧ p.2.size ≤ 64) (hn : gv L p.1 = none) : Ok (ins p L) :=
  ⟨ins_up h.up (gv_none.1 hn), fun q hq => by
    rcases (mem_ins p q L).1 hq with rfl | hq'
    · exact hp
    · exact h.may q hq'⟩
theorem gv_ins {p : Cl} {s : Int} : ∀ {L : List Cl}, gv L p.1 = none → gv (ins p L) s = if p.1 = s then some p.2 else gv L s
  | [], _ => by by_cases h : p.1 = s <;> simp [Go.Proofs.Ytomiifnhcojilaa.ins, gv, h]
  | y :: r, hn => by
    have hy : y.1 ≠ p.1 := gv_none.1 hn y (by simp)
    have hr : gv r p.1 = none := gv_none.2 (fun q hq => gv_none.1 hn q (by simp [hq]))
    have ih := gv_ins (s := s) hr
    unfold Go.Proofs.Ytomiifnhcojilaa.ins
    split
    · by_cases h : p.1 = s <;> simp [gv, h]
    · by_cases h1 : y.1 = s
      · have h2 : p.1 ≠ s := fun e => hy (by rw [h1, e])
        simp [gv, h1, h2]
      · have e1 : gv (y :: Go.Proofs.Ytomiifnhcojilaa.ins p r) s = gv (Go.Proofs.Ytomiifnhcojilaa.ins p r) s := by simp [gv, h1]
        have e2 : gv (y :: r) s = gv r s := by simp [gv, h1]
        rw [e1, e2]
        exact ih
theorem bh_ins (p : Cl) : ∀ L : List Cl, bh (ins p L) = max (bh L) (p.1 + 1)
  | [] => by simp [ins, bh] <;> omega
  | y :: r => by
    unfold ins
    split
    · simp [bh]; omega
    · simp only [bh, bh_ins p r]; omega
theorem bh_nonneg : ∀ L : List Cl, 0 ≤ bh L
  | [] => by simp [bh]
  | y :: r => by have := bh_nonneg r; simp [bh]; omega
theorem bh_gt {L : List Cl} {p : Cl} (h : p ∈ L) : p.1 < bh L := by
  induction L with
  | nil => simp at h
  | cons y r ih =>
    rcases List.mem_cons.1 h with rfl | h'
    · simp [bh]; omega
    · have := ih h'; simp [bh]; omega
theorem bh_le {L : List Cl} (h : ∀ p ∈ L, p.1 < 1024) : bh L ≤ 1024 := by
  induction L with
  | nil => simp [bh]
  | cons y r ih =>
    have h1 := h y (by simp)
    have h2 := ih (fun p hp => h p (by simp [hp]))
    simp [bh]; omega
theorem gv_bh (L : List Cl) : gv L (bh L) = none := gv_none.2 (fun p hp => by have := bh_gt hp; omega)
theorem Ok.bh_le {L : List Cl} (h : Ok L) : bh L ≤ 1024 := Go.Proofs.Ytomiifnhcojilaa.bh_le (fun p hp => (h.may p hp).2.1)
theorem len_le_aux : ∀ (L : List Cl) (a : Int), L.Pairwise (fun p q => p.1 < q.1) → (∀ p ∈ L, a ≤ p.1 ∧ p.1 < 1024) → a ≤ 1024 → (L.length : Int) ≤ 1024 - a
  | [], a, _, _, ha => by simp; omega
  | y :: r, a, h, hm, ha => by
    obtain ⟨h1, h2⟩ := List.pairwise_cons.1 h
    have hy := hm y (by simp)
    have := len_le_aux r (y.1 + 1) h2 (fun p hp => by have h3 := h1 p hp; have h4 := hm p (by simp [hp]); omega) (by omega)
    simp
    omega
theorem Ok.len_le {L : List Cl} (h : Ok L) : L.length ≤ 1024 := by
  have := len_le_aux L 0 h.up (fun p hp => ⟨(h.may p hp).1, (h.may p hp).2.1⟩) (by omega)
  omega

/-- How a cell reads within the map. -/
def cR (v : Value) : Option (DataW Unit × List MemPlace) :=
  match v with
  | .agg a => match a.toList with
    | [.int .i64 s, .string x] => some (.agg [.lit (.int .i64 s), .lit (.string x.data.toList)], [])
    | _ => none
  | _ => none
def cD (p : Cl) : DataW Unit := .agg [.lit (.int .i64 p.1), .lit (.string p.2.data.toList)]
def cV (p : Cl) : Value := .agg #[.int .i64 p.1, .string p.2]
theorem cR_mk (p : Cl) : cR (cV p) = some (cD p, []) := rfl
theorem cR_inv {v : Value} {z : DataW Unit × List MemPlace} (h : cR v = some z) : ∃ p : Cl, v = cV p ∧ z = (cD p, []) := by
  unfold cR at h
  split at h
  · rename_i a
    split at h
    · rename_i s x e
      refine ⟨(s, x), ?_, by cases h; rfl⟩
      have : a = #[.int .i64 s, .string x] := by rw [← Array.toList_inj]; exact e
      rw [this]; rfl
    · cases h
  · cases h
theorem cD_inj {p q : Cl} (h : cD p = cD q) : p = q := by
  obtain ⟨a, ⟨⟨x⟩⟩⟩ := p
  obtain ⟨b, ⟨⟨y⟩⟩⟩ := q
  simp [cD] at h
  obtain ⟨rfl, rfl⟩ := h
  rfl
/-- The cells as a map reads. -/
def mD (L : List Cl) : DataW Unit := .map (L.map fun p => (.int .i64 p.1, cD p))
theorem mD_has (L : List Cl) (s : Int) : Maps.has (mD L) (.int .i64 s) = (gv L s).isSome := by
  induction L with
  | nil => rfl
  | cons y r ih =>
    simp only [mD, Maps.has, gv] at ih ⊢
    by_cases h : y.1 = s
    · simp [Lit.sameKey, h]
    · simp [Lit.sameKey, h] at ih ⊢
      exact ih
theorem mD_at (L : List Cl) (s : Int) (z : DataW Unit) : (mD L).atKey (.int .i64 s) z = match gv L s with | some v => cD (s, v) | none => z := by
  induction L with
  | nil => rfl
  | cons y r ih =>
    simp only [mD, DataW.atKey, gv] at ih ⊢
    by_cases h : y.1 = s
    · subst h
      simp [Lit.sameKey]
    · simp [Lit.sameKey, h] at ih ⊢
      exact ih
theorem mD_size (L : List Cl) : Maps.size (mD L) = L.length := by simp [mD, Maps.size]
theorem insert_mD (p : Cl) : ∀ L : List Cl, DataW.insert (.int .i64 p.1, cD p) (L.map fun p => (Lit.int .i64 p.1, cD p)) = (ins p L).map fun p => (Lit.int .i64 p.1, cD p)
  | [] => rfl
  | y :: r => by
    unfold ins
    simp only [List.map_cons, DataW.insert, Lit.before, decide_eq_true_eq]
    split
    · simp
    · simp [insert_mD p r]
theorem mD_put {L : List Cl} {p : Cl} (h : gv L p.1 = none) : (mD L).put (.int .i64 p.1) (cD p) = mD (ins p L) := by
  have e : (L.map fun p => (Lit.int .i64 p.1, cD p)).filter (fun q => !q.1.sameKey (.int .i64 p.1)) = L.map fun p => (Lit.int .i64 p.1, cD p) := by
    rw [List.filter_eq_self]
    intro q hq
    obtain ⟨c, hc, rfl⟩ := List.mem_map.1 hq
    have := gv_none.1 h c hc
    simp [Lit.sameKey, this]
  simp only [mD, DataW.put, e, insert_mD]

/-- Which error an operation has. -/
def ck (k s : Int) (v : ByteArray) : Int :=
  if k = 1 ∨ k = 3 then
    if s < 0 ∨ 1024 ≤ s then 41 else if (if k = 1 then 64 else 0) < v.size then 42 else 0
  else if k = 2 ∨ k = 4 then
    if s ≠ 0 then 41 else if (if k = 2 then 64 else 0) < v.size then 42 else 0
  else 40
/-- What an operation is answered. -/
def wd (L : List Cl) (k s : Int) (v : ByteArray) : Int × Int × ByteArray :=
  if ck k s v ≠ 0 then (0, 0, ByteArray.empty)
  else if k = 1 then match gv L s with
    | some x => (2, s, x)
    | none => (1, s, v)
  else if k = 2 then (if bh L < 1024 then (1, bh L, v) else (3, 0, ByteArray.empty))
  else if k = 3 then match gv L s with
    | some x => (4, s, x)
    | none => (5, s, ByteArray.empty)
  else (6, L.length, ByteArray.empty)
/-- The cells behind it. -/
def dn (L : List Cl) (k s : Int) (v : ByteArray) : List Cl := if (wd L k s v).1 = 1 then ins (wd L k s v).2 L else L
theorem wd_written {L : List Cl} (h : Ok L) {k s : Int} {v : ByteArray} (e : (wd L k s v).1 = 1) : 0 ≤ (wd L k s v).2.1 ∧ (wd L k s v).2.1 < 1024 ∧ (wd L k s v).2.2 = v ∧ v.size ≤ 64 ∧ gv L (wd L k s v).2.1 = none := by
  unfold wd at e ⊢
  by_cases hc : ck k s v = 0
  · simp only [hc, ne_eq, not_true, if_false] at e ⊢
    unfold ck at hc
    by_cases h1 : k = 1
    · subst h1
      simp at hc e ⊢
      by_cases h2 : s < 0 ∨ 1024 ≤ s
      · simp [h2] at hc
      · simp [h2] at hc
        cases hg : gv L s with
        | some x => simp [hg] at e
        | none => simp [hg]; omega
    · by_cases h2 : k = 2
      · subst h2
        simp at hc e ⊢
        by_cases h3 : bh L < 1024
        · simp [h3, gv_bh]
          have := bh_nonneg L
          by_cases h4 : s = 0
          · simp [h4] at hc; omega
          · simp [h4] at hc
        · simp [h3] at e
      · by_cases h3 : k = 3
        · subst h3
          simp at e
          cases hg : gv L s <;> simp [hg] at e
        · simp [h1, h2, h3] at e
  · simp [hc] at e
theorem Ok.dn {L : List Cl} (h : Ok L) (k s : Int) (v : ByteArray) : Ok (dn L k s v) := by
  unfold Go.Proofs.Ytomiifnhcojilaa.dn
  split
  · rename_i e
    obtain ⟨h1, h2, h3, h4, h5⟩ := wd_written h e
    exact h.ins ⟨h1, h2, by rw [h3]; exact h4⟩ h5
  · exact h

end Go.Proofs.Ytomiifnhcojilaa
