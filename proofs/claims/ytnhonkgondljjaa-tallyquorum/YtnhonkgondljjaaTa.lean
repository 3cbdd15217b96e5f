import Derived.Test.YtnhonkgondljjaaSk8
import Derived.Test.YtnhonkgondljjaaSn
namespace Go.Proofs.Ytnhonkgondljjaa
open Go.RowKit Go.Maps
open Classical
set_option linter.unusedVariables false
set_option linter.unusedSimpArgs false

theorem Ak.put_n (L : List Ak) (x : Ak) : (Ak.put L x).map (·.n) = insN (L.map (·.n)) x.n := by
  unfold Ak.put insN Ak.ins Ak.at_
  simp only [findIdx_map, List.length_map]
  cases h : L.findIdx? (fun y => decide (y.n = x.n)) with
  | none => simp only [List.map_append, List.map_take, List.map_cons, List.map_drop]
  | some i =>
    have h1 := List.findIdx?_eq_some_iff_getElem.1 h
    obtain ⟨hi, hx, _⟩ := h1
    have hx : L[i].n = x.n := of_decide_eq_true hx
    dsimp only
    split
    · apply List.ext_getElem?
      intro j
      rw [List.getElem?_map, List.getElem?_map, List.getElem?_set]
      by_cases e : i = j
      · subst e
        simp [hi, hx]
      · rw [if_neg e]
    · rfl
theorem Ak.mem_put (L : List Ak) (x y : Ak) (h : y ∈ Ak.put L x) : y ∈ L ∨ y = x := by
  unfold Ak.put at h
  split at h
  · unfold Ak.ins at h
    rcases List.mem_append.1 h with h | h
    · exact .inl (List.mem_of_mem_take h)
    · rcases List.mem_cons.1 h with h | h
      · exact .inr h
      · exact .inl (List.mem_of_mem_drop h)
  · split at h
    · exact List.mem_or_eq_of_mem_set h
    · exact .inl h
theorem cmpD_pos (h l h' l' : Int) : 0 < cmpD h l h' l' ↔ (h' < h ∨ (h' = h ∧ l' < l)) := by
  unfold cmpD cmpI
  split
  · subst_vars
    split
    · omega
    · split <;> omega
  · split
    · omega
    · split <;> omega
theorem cmpD_zero (h l h' l' : Int) : cmpD h l h' l' = 0 ↔ (h' = h ∧ l' = l) := by
  unfold cmpD cmpI
  split
  · subst_vars
    split
    · omega
    · split <;> omega
  · split
    · omega
    · split <;> omega
/-- x is greater than y: by its draw, then its place. -/
def Ak.up (x y : Ak) : Prop := y.h < x.h ∨ (y.h = x.h ∧ (y.l < x.l ∨ (y.l = x.l ∧ y.p < x.p)))
theorem Ak.rep_iff (x y : Ak) : Ak.rep x y = true ↔ Ak.up x y := by
  unfold Ak.rep Ak.gt Ak.up
  rw [Bool.or_eq_true, Bool.and_eq_true, decide_eq_true_iff, decide_eq_true_iff, decide_eq_true_iff, cmpD_pos, cmpD_zero]
  omega
theorem Ak.up_trans {x y z : Ak} (h1 : Ak.up x y) (h2 : Ak.up y z) : Ak.up x z := by unfold Ak.up at *; omega
theorem Ak.eq_of {x y : Ak} (h0 : x.n = y.n) (h1 : ¬ Ak.up x y) (h2 : ¬ Ak.up y x) : x = y := by
  unfold Ak.up at *
  cases x
  cases y
  simp at *
  omega
/-- The list that stands for votes of which P holds. -/
structure Ch (P : Ak → Prop) (l : List Ak) : Prop where
  srt : (l.map (·.n)).Pairwise (· < ·)
  top : ∀ x ∈ l, P x ∧ ∀ v, P v → v.n = x.n → ¬ Ak.up v x
  all : ∀ v, P v → ∃ x ∈ l, x.n = v.n
theorem Ch.inj {P : Ak → Prop} {l : List Ak} (h : Ch P l) {i j : Nat} {x y : Ak} (hx : l[i]? = some x) (hy : l[j]? = some y) (e : x.n = y.n) : i = j := by
  have hs := List.pairwise_iff_getElem.1 h.srt
  obtain ⟨hi, rfl⟩ := List.getElem?_eq_some_iff.1 hx
  obtain ⟨hj, rfl⟩ := List.getElem?_eq_some_iff.1 hy
  rcases Nat.lt_trichotomy i j with h | h | h
  · have := hs i j (by simpa using hi) (by simpa using hj) h
    simp at this
    omega
  · exact h
  · have := hs j i (by simpa using hj) (by simpa using hi) h
    simp at this
    omega
theorem Ch.nil : Ch (fun _ => False) [] := ⟨List.Pairwise.nil, fun x hx => (by cases hx), fun v h => h.elim⟩
theorem Ch.put {P : Ak → Prop} {l : List Ak} (h : Ch P l) (v : Ak) : Ch (fun x => P x ∨ x = v) (Ak.put l v) := by
  have hs : ((Ak.put l v).map (·.n)).Pairwise (· < ·) := by rw [Ak.put_n]; exact insN_sorted h.srt
  have hall : ∀ u, (P u ∨ u = v) → ∃ x ∈ Ak.put l v, x.n = u.n := fun u hu => by
    have : u.n ∈ (Ak.put l v).map (·.n) := by
      rw [Ak.put_n]
      refine mem_insN.2 ?_
      rcases hu with hu | rfl
      · obtain ⟨x, hx, e⟩ := h.all u hu
        exact .inl (List.mem_map.2 ⟨x, hx, e⟩)
      · exact .inr rfl
    obtain ⟨x, hx, e⟩ := List.mem_map.1 this
    exact ⟨x, hx, e⟩
  have hirr : ¬ Ak.up v v := by unfold Ak.up; omega
  refine ⟨hs, fun x hx => ?_, hall⟩
  cases hf : l.findIdx? (fun y => decide (y.n = v.n)) with
  | none =>
    have hno : ∀ y ∈ l, y.n ≠ v.n := fun y hy e => by
      have := (List.findIdx?_eq_none_iff.1 hf) y hy
      simp [e] at this
    rcases Ak.mem_put l v x hx with hx1 | rfl
    · refine ⟨.inl (h.top x hx1).1, fun u hu e => ?_⟩
      rcases hu with hu | rfl
      · exact (h.top x hx1).2 u hu e
      · exact absurd e.symm (hno x hx1)
    · refine ⟨.inr rfl, fun u hu e => ?_⟩
      rcases hu with hu | rfl
      · obtain ⟨y, hy, e2⟩ := h.all u hu
        exact absurd (e2.trans e) (hno y hy)
      · exact hirr
  | some i =>
    obtain ⟨hi, hx0, _⟩ := List.findIdx?_eq_some_iff_getElem.1 hf
    have hx0 : l[i].n = v.n := of_decide_eq_true hx0
    have hg : l[i]? = some l[i] := List.getElem?_eq_getElem hi
    rw [Ak.put_some hf _ hg] at hx
    have ht := h.top _ (List.getElem_mem hi)
    split at hx
    · rename_i hr
      have hr := (Ak.rep_iff _ _).1 hr
      obtain ⟨j, hj0, rfl⟩ := List.mem_iff_getElem.1 hx
      have hj : j < l.length := by simpa using hj0
      rw [List.getElem_set]
      by_cases e : i = j
      · subst e
        rw [if_pos rfl]
        refine ⟨.inr rfl, fun u hu e => ?_⟩
        rcases hu with hu | rfl
        · exact fun hup => ht.2 u hu (e.trans hx0.symm) (Ak.up_trans hup hr)
        · exact hirr
      · rw [if_neg e]
        refine ⟨.inl (h.top _ (List.getElem_mem hj)).1, fun u hu e2 => ?_⟩
        rcases hu with hu | rfl
        · exact (h.top _ (List.getElem_mem hj)).2 u hu e2
        · exact absurd (h.inj hg (List.getElem?_eq_getElem hj) (hx0.trans e2)) e
    · rename_i hr
      refine ⟨.inl (h.top x hx).1, fun u hu e => ?_⟩
      rcases hu with hu | rfl
      · exact (h.top x hx).2 u hu e
      · obtain ⟨j, hj, rfl⟩ := List.mem_iff_getElem.1 hx
        have e2 := h.inj hg (List.getElem?_eq_getElem hj) (hx0.trans e)
        subst e2
        exact fun hup => hr ((Ak.rep_iff _ _).2 hup)
theorem sorted_eq8 : ∀ (l m : List Ak), (l.map (·.n)).Pairwise (· < ·) → (m.map (·.n)).Pairwise (· < ·) → (∀ x, x ∈ l ↔ x ∈ m) → l = m
  | [], [], _, _, _ => rfl
  | [], y :: m, _, _, h => absurd ((h y).2 (List.mem_cons_self ..)) (by simp)
  | x :: l, [], _, _, h => absurd ((h x).1 (List.mem_cons_self ..)) (by simp)
  | x :: l, y :: m, hl, hm, h => by
    rw [List.map_cons, List.pairwise_cons] at hl hm
    have gt1 : ∀ z ∈ l, x.n < z.n := fun z hz => hl.1 _ (List.mem_map_of_mem hz)
    have gt2 : ∀ z ∈ m, y.n < z.n := fun z hz => hm.1 _ (List.mem_map_of_mem hz)
    have exy : x = y := by
      rcases List.mem_cons.1 ((h x).1 (List.mem_cons_self ..)) with e | hx
      · exact e
      · rcases List.mem_cons.1 ((h y).2 (List.mem_cons_self ..)) with e | hy
        · exact e.symm
        · have := gt1 y hy
          have := gt2 x hx
          omega
    subst exy
    rw [sorted_eq8 l m hl.2 hm.2 (fun z => by
      constructor
      · intro hz
        rcases List.mem_cons.1 ((h z).1 (List.mem_cons_of_mem _ hz)) with e | h2
        · have := gt1 z hz
          rw [e] at this
          omega
        · exact h2
      · intro hz
        rcases List.mem_cons.1 ((h z).2 (List.mem_cons_of_mem _ hz)) with e | h2
        · have := gt2 z hz
          rw [e] at this
          omega
        · exact h2)]
theorem Ch.uniq {P Q : Ak → Prop} {l m : List Ak} (h : Ch P l) (h2 : Ch Q m) (hPQ : ∀ x, P x ↔ Q x) : l = m := by
  have one : ∀ {P Q : Ak → Prop} {l m : List Ak}, Ch P l → Ch Q m → (∀ x, P x ↔ Q x) → ∀ x, x ∈ l → x ∈ m := fun {P Q l m} h h2 hPQ x hx => by
    have tx := h.top x hx
    obtain ⟨y, hy, e⟩ := h2.all x ((hPQ x).1 tx.1)
    have ty := h2.top y hy
    have : x = y := Ak.eq_of e.symm (ty.2 x ((hPQ x).1 tx.1) e.symm) (tx.2 y ((hPQ y).2 ty.1) e)
    rw [this]
    exact hy
  exact sorted_eq8 l m h.srt h2.srt (fun x => ⟨one h h2 hPQ x, one h2 h (fun x => (hPQ x).symm) x⟩)
/-- Votes put one behind the other. -/
def Ak.puts (l : List Ak) : List Ak → List Ak
  | [] => l
  | v :: r => Ak.puts (Ak.put l v) r
theorem Ak.puts_snoc (l vs : List Ak) (v : Ak) : Ak.puts l (vs ++ [v]) = Ak.put (Ak.puts l vs) v := by
  induction vs generalizing l with
  | nil => rfl
  | cons x r ih => exact ih (Ak.put l x)
theorem Ch.puts {P : Ak → Prop} {l : List Ak} (h : Ch P l) (vs : List Ak) : Ch (fun x => P x ∨ x ∈ vs) (Ak.puts l vs) := by
  induction vs generalizing P l with
  | nil =>
    have : (fun x => P x ∨ x ∈ ([] : List Ak)) = P := by funext x; simp
    rw [this]
    exact h
  | cons v r ih =>
    have := ih (h.put v)
    have e : (fun x => (P x ∨ x = v) ∨ x ∈ r) = (fun x => P x ∨ x ∈ v :: r) := by funext x; simp [or_assoc]
    rw [e] at this
    exact this
theorem Ch.all_of (vs : List Ak) : Ch (fun x => x ∈ vs) (Ak.puts [] vs) := by
  have := Ch.nil.puts vs
  have e : (fun x => False ∨ x ∈ vs) = (fun x => x ∈ vs) := by funext x; simp
  rw [e] at this
  exact this

end Go.Proofs.Ytnhonkgondljjaa
