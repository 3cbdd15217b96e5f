import Derived.Test.YtnhonkgondljjaaSbc
import Derived.Test.YtnhonkgondljjaaSbq
import Derived.Test.YtnhonkgondljjaaGSb
namespace Go.Proofs.Ytnhonkgondljjaa
open Go.RowKit Go.Maps
open Classical
set_option linter.unusedVariables false
set_option linter.unusedSimpArgs false

/-- A vote that may stand. -/
def Bl.gd (c : Cg) (self : Int) (x : Bl) : Prop := x.n < 2 * c.F + 1 ∧ x.n ≠ self ∧ Bl.mb x (2 * c.F + 1) c.R = true
theorem Bl.ckl_iff (c : Cg) (self : Int) : ∀ (L : List Bl) (l : Int), Bl.ckl c self l L = true ↔ (∀ y ∈ L, l ≤ y.n ∧ Bl.gd c self y) ∧ L.Pairwise (fun a b => a.n < b.n)
  | [], l => by simp [Bl.ckl]
  | x :: r, l => by
    have ih := Bl.ckl_iff c self r (x.n + 1)
    rw [Bl.ckl]
    by_cases h : x.n < l ∨ 2 * c.F + 1 ≤ x.n ∨ x.n = self ∨ Bl.mb x (2 * c.F + 1) c.R = false
    · rw [if_pos h]
      constructor
      · intro h'; cases h'
      · rintro ⟨h1, _⟩
        obtain ⟨g0, g1, g2, g3⟩ := h1 x (by simp)
        rcases h with h | h | h | h
        · omega
        · omega
        · exact absurd h g2
        · rw [g3] at h; cases h
    · rw [if_neg h, ih]
      have k1 : ¬ x.n < l := fun q => h (.inl q)
      have k2 : ¬ 2 * c.F + 1 ≤ x.n := fun q => h (.inr (.inl q))
      have k3 : ¬ x.n = self := fun q => h (.inr (.inr (.inl q)))
      have k4 : Bl.mb x (2 * c.F + 1) c.R = true := by
        cases q : Bl.mb x (2 * c.F + 1) c.R with
        | true => rfl
        | false => exact absurd (.inr (.inr (.inr q))) h
      constructor
      · rintro ⟨h1, h2⟩
        refine ⟨fun y hy => ?_, List.pairwise_cons.2 ⟨fun y hy => by have := (h1 y hy).1; omega, h2⟩⟩
        rcases List.mem_cons.1 hy with rfl | hy
        · exact ⟨by omega, by omega, k3, k4⟩
        · exact ⟨by have := (h1 y hy).1; omega, (h1 y hy).2⟩
      · rintro ⟨h1, h2⟩
        rw [List.pairwise_cons] at h2
        exact ⟨fun y hy => ⟨by have := h2.1 y hy; omega, (h1 y (List.mem_cons_of_mem _ hy)).2⟩, h2.2⟩
theorem pair_set {α : Type} (f : α → Int) (x : α) : ∀ (L : List α) (i : Nat), L.Pairwise (fun a b => f a < f b) → (∀ (y : α), L[i]? = some y → f y = f x) → (L.set i x).Pairwise (fun a b => f a < f b)
  | [], i, h, _ => by simp
  | y :: r, 0, h, he => by
    have e : f y = f x := he y rfl
    rw [List.set_cons_zero]
    rw [List.pairwise_cons] at h ⊢
    exact ⟨fun z hz => by have := h.1 z hz; omega, h.2⟩
  | y :: r, i + 1, h, he => by
    rw [List.set_cons_succ]
    rw [List.pairwise_cons] at h ⊢
    refine ⟨fun z hz => ?_, pair_set f x r i h.2 (fun z hz => he z (by simpa using hz))⟩
    rcases List.mem_or_eq_of_mem_set hz with hz | rfl
    · exact h.1 z hz
    · by_cases hi : i < r.length
      · have := he r[i] (by simp [hi])
        have h2 := h.1 r[i] (List.getElem_mem hi)
        omega
      · rw [List.set_eq_of_length_le (by omega)] at hz
        exact h.1 _ hz
theorem Bl.pair_ins (L : List Bl) (x : Bl) (h : L.Pairwise (fun a b => a.n < b.n)) (hn : ∀ y ∈ L, y.n ≠ x.n) : (Bl.ins L x).Pairwise (fun a b => a.n < b.n) := by
  unfold Bl.ins Bl.at_
  cases hf : L.findIdx? (fun y => decide (x.n < y.n)) with
  | none =>
    rw [List.findIdx?_eq_none_iff] at hf
    simp only [Option.getD_none, List.take_length, List.drop_length]
    rw [List.pairwise_append]
    refine ⟨h, by simp, fun a ha b hb => ?_⟩
    simp at hb
    subst hb
    have h1 := hf a ha
    simp at h1
    have h2 := hn a ha
    omega
  | some i =>
    obtain ⟨hi, h1, h2⟩ := List.findIdx?_eq_some_iff_getElem.1 hf
    simp only [Option.getD_some]
    have hp := h
    rw [← List.take_append_drop i L, List.pairwise_append] at hp
    rw [List.pairwise_append]
    simp at h1
    have hd : ∀ b ∈ L.drop i, x.n < b.n := by
      intro b hb
      rw [List.drop_eq_getElem_cons hi] at hb
      rcases List.mem_cons.1 hb with rfl | hb
      · exact h1
      · have h3 := hp.2.1
        rw [List.drop_eq_getElem_cons hi, List.pairwise_cons] at h3
        have := h3.1 b hb
        omega
    refine ⟨hp.1, List.pairwise_cons.2 ⟨hd, hp.2.1⟩, fun a ha b hb => ?_⟩
    rcases List.mem_cons.1 hb with rfl | hb
    · obtain ⟨j, hj, rfl⟩ := List.mem_iff_getElem.1 ha
      rw [List.length_take] at hj
      have h3 := h2 j (by omega)
      simp at h3
      have h4 := hn _ (List.mem_of_mem_take ha)
      rw [List.getElem_take] at h4 ⊢
      omega
    · exact hp.2.2 a ha b hb
theorem Bl.ckl_put (c : Cg) (self : Int) (L : List Bl) (x : Bl) (h : Bl.ckl c self 0 L = true) (hx : Bl.ckl c self 0 [x] = true) : Bl.ckl c self 0 (Bl.put L x) = true := by
  rw [Bl.ckl_iff] at h hx ⊢
  obtain ⟨h1, h2⟩ := h
  have hx1 := hx.1 x (by simp)
  refine ⟨fun y hy => ?_, ?_⟩
  · rcases Bl.mem_put L x y hy with hy | rfl
    · exact h1 y hy
    · exact hx1
  · unfold Bl.put
    cases hf : L.findIdx? (fun y => decide (y.n = x.n)) with
    | none =>
      rw [List.findIdx?_eq_none_iff] at hf
      exact Bl.pair_ins L x h2 (fun y hy => by have := hf y hy; simpa using this)
    | some i =>
      obtain ⟨hi, e1, _⟩ := List.findIdx?_eq_some_iff_getElem.1 hf
      simp at e1
      dsimp only
      split
      · exact pair_set Bl.n x L i h2 (fun y hy => by rw [List.getElem?_eq_getElem hi] at hy; cases hy; exact e1)
      · exact h2
theorem Bl.ckl_prn (c : Cg) (self : Int) (L : List Bl) (D : List (Int × Int)) (h : Bl.ckl c self 0 L = true) : Bl.ckl c self 0 (Bl.prn L D) = true := by
  rw [Bl.ckl_iff] at h ⊢
  exact ⟨fun y hy => h.1 y (List.mem_filter.1 hy).1, h.2.filter _⟩
/-- Lists of which each vote is like its fellow are checked alike. -/
theorem Bl.ckl_like (c : Cg) (self : Int) : ∀ (L R : List Bl) (l : Int), R.length = L.length → (∀ (i : Nat) (x y : Bl), L[i]? = some x → R[i]? = some y → y.s.D = x.s.D ∧ y.n = x.n ∧ y.v = x.v ∧ y.c = x.c) → Bl.ckl c self l R = Bl.ckl c self l L
  | [], [], l, _, _ => rfl
  | [], y :: s, l, h, _ => by simp at h
  | x :: r, [], l, h, _ => by simp at h
  | x :: r, y :: s, l, h, hk => by
    obtain ⟨e1, e2, e3, e4⟩ := hk 0 x y rfl rfl
    have ih := Bl.ckl_like c self r s (x.n + 1) (by simpa using h) (fun i a b ha hb => hk (i + 1) a b (by simpa using ha) (by simpa using hb))
    have em : Bl.mb y (2 * c.F + 1) c.R = Bl.mb x (2 * c.F + 1) c.R := by unfold Bl.mb; rw [e1, e3, e4]
    rw [Bl.ckl, Bl.ckl, e2, em, ih]
theorem Bl.ck_tolds {B : Nat} {w : World} (c : Cg) (self : Int) {L R : List Bl} (h : Bl.Tolds B w L R) : Bl.ck c self R = Bl.ck c self L := by
  unfold Bl.ck
  rw [Bl.ckl_like c self L R 0 h.1 (fun i x y hx hy => by
    have := (h.2 i x y hx hy).D
    exact ⟨this.1, this.2.1, this.2.2.2.2.1, this.2.2.2.2.2⟩)]
theorem Bl.ck_zero {c : Cg} {self : Int} {L : List Bl} (h : Bl.ck c self L = 0) : c.ok = true ∧ Bl.ckl c self 0 L = true := by
  unfold Bl.ck at h
  cases h1 : c.ok with
  | false => simp [h1] at h
  | true =>
    cases h2 : Bl.ckl c self 0 L with
    | false => simp [h1, h2] at h
    | true => exact ⟨rfl, rfl⟩
theorem Bl.ck_of {c : Cg} {self : Int} {L : List Bl} (h1 : c.ok = true) (h2 : Bl.ckl c self 0 L = true) : Bl.ck c self L = 0 := by simp [Bl.ck, h1, h2]

end Go.Proofs.Ytnhonkgondljjaa
