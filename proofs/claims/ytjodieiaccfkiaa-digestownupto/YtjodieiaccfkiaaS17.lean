import Derived.Test.YtjodieiaccfkiaaS16
import Derived.Test.YtjodieiaccfkiaaRows
import Derived.Deep.SlicePairs
import Derived.ChangeOld
import Derived.OpenShut
namespace Go.Proofs.Ytjodieiaccfkiaa
open Go.ChangeShapes Go.WideShapes Go.RowKit
open Classical
set_option linter.unusedVariables false

theorem bulk_app {H : Type} (l r : List (DataW H)) : Rows.uptoBulkAll (l ++ r) = Rows.uptoBulkAll l + Rows.uptoBulkAll r := by
  induction l with
  | nil => simp [Rows.uptoBulkAll]
  | cons x l ih => simp only [List.cons_append, Rows.uptoBulkAll, ih]; omega
theorem bulk_range {H : Type} (D : Nat → DataW H) (f : Nat → Nat) : ∀ n, (∀ i, i < n → f i ≤ Rows.uptoBulk (D i)) → ((List.range n).map f).sum ≤ Rows.uptoBulkAll ((List.range n).map D)
  | 0, _ => by simp [Rows.uptoBulkAll]
  | n + 1, h => by
    have h1 := bulk_range D f n (fun i hi => h i (by omega))
    have h2 := h n (by omega)
    rw [List.range_succ, List.map_append, List.map_append, bulk_app, List.sum_append]
    simp only [List.map_cons, List.map_nil, List.sum_cons, List.sum_nil, Rows.uptoBulkAll]
    omega
theorem bulk_bound {H : Type} {ds : List (DataW H)} (h : Rows.uptoSmall H ds = true) : Rows.uptoBulkAll ds ≤ 1048576 := by
  unfold Rows.uptoSmall at h
  exact of_decide_eq_true h
set_option maxRecDepth 100000 in
/-- A slice that came in, and what it weighs. -/
theorem open_up {α : Type} {Y : Lay α} (K : Y.Ok) [Inhabited α] (fits : α → Prop) (wt : α → Nat) {H : Type} {enc : TypeId × Value → H} {W : World} (hT : Try.prog.cellsOf Y.T = Y.k)
    (el : ∀ {n : Nat} {cs : List Value} {x : DataW H × List MemPlace}, DataW.trod enc Try.prog W 0 (fun _ => true) true n Y.T cs = some x → ∃ q : α, fits q ∧ cs = Y.cs q ∧ wt q ≤ Rows.uptoBulk x.1)
    {fuel : Nat} {cs : List Value} {x : DataW H × List MemPlace} (h : DataW.trod enc Try.prog W 0 (fun _ => true) true fuel Y.ST cs = some x) :
    ∃ (a : Option Addr) (n c : Nat) (P : List α), cs = [.slice a n c] ∧ SlY Y W a n c P ∧ (∀ q ∈ P, fits q) ∧ (P.map wt).sum + 1 ≤ Rows.uptoBulk x.1 := by
  rcases Go.Deep.open_slice K.und h with ⟨hcs, hx⟩ | ⟨y, n, c, m, k, D, Pl, hcs, hb, hl, hm, hmm, hx, hall⟩
  · refine ⟨none, 0, 0, [], hcs, ⟨rfl, Nat.le_refl _, by unfold maxLen; omega, fun _ => ⟨rfl, rfl⟩, fun x hx => .inl rfl⟩, by simp, ?_⟩
    rw [hx]
    simp [Rows.uptoBulk]
  · have hlm : n ≤ m := by rw [hmm]; split <;> omega
    have each : ∀ i, i < n → ∃ q : α, fits q ∧ (∀ j, j < Y.k → W.cell? ((y.add (i * Y.k)).add j) = (Y.cs q)[j]?) ∧ wt q ≤ Rows.uptoBulk (D i) := by
      intro i hi
      obtain ⟨cs', h1, h2⟩ := hall i (by omega)
      rw [hT] at h1
      obtain ⟨q, hf, rfl, hw⟩ := el h2
      obtain ⟨_, _, hcell⟩ := World.cells?_some h1
      exact ⟨q, hf, hcell, hw⟩
    obtain ⟨q, hq⟩ := Go.Deep.choose_lt each
    refine ⟨some y, n, c, (List.range n).map q, hcs, ⟨by simp, hl, hm, (fun e => by cases e), fun x hx => ?_⟩, ?_, ?_⟩
    · cases hx
      by_cases hn0 : n = 0
      · subst hn0
        exact .inl rfl
      · obtain ⟨b, o, s⟩ := y
        have z0 := (hq 0 (by omega)).2.1 0 K.kp
        have z1 := z0.trans (List.getElem?_eq_getElem (by rw [K.len]; exact K.kp))
        have hs := World.cell?_spot z1
        obtain rfl : s = none := by
          rw [Nat.zero_mul] at hs
          simpa [Addr.add] using hs
        refine .inr ⟨b, o, rfl, ?_, fun i x hx j u hu => ?_⟩
        · rw [Addr.add_lit, Addr.add_lit] at z1
          exact World.block_lt_of_cell? _ _ z1
        · have hi : i < n := by
            have := (List.getElem?_eq_some_iff.1 hx).1
            simpa using this
          have e : q i = x := by
            simp [hi] at hx
            exact hx
          subst e
          have hj : j < Y.k := by have := (List.getElem?_eq_some_iff.1 hu).1; rwa [K.len] at this
          have := (hq i hi).2.1 j hj
          rw [Addr.add_lit, Addr.add_lit] at this
          exact this.trans hu
    · intro z hz
      obtain ⟨i, hi, rfl⟩ := List.mem_map.1 hz
      exact (hq i (List.mem_range.1 hi)).1
    · rw [hx, List.map_map]
      have := bulk_range D (fun i => wt (q i)) n (fun i hi => (hq i hi).2.2)
      simp only [Rows.uptoBulk]
      have e : (List.range n).map (wt ∘ q) = (List.range n).map (fun i => wt (q i)) := rfl
      rw [e]
      omega
theorem sum_one {α : Type} (P : List α) : (P.map (fun _ => 1)).sum = P.length := by
  induction P with
  | nil => rfl
  | cons x r ih => simp [ih]; omega
set_option maxRecDepth 100000 in
theorem up_bytes {H : Type} {enc : TypeId × Value → H} {W : World} {fuel : Nat} {cs : List Value} {x : DataW H × List MemPlace} (h : DataW.trod enc Try.prog W 0 (fun _ => true) true fuel 22 cs = some x) :
    ∃ (a : Option Addr) (n c : Nat) (P : List Int), cs = [.slice a n c] ∧ SlY yB9 W a n c P ∧ P.length + 1 ≤ Rows.uptoBulk x.1 := by
  obtain ⟨a, n, c, P, h1, h2, _, h4⟩ := open_up kB9 (fun _ => True) (fun _ => 1) (by kernel_rfl) (fun {n cs x} h => by
    obtain ⟨K, hK, hx, _⟩ := DataW.trod_int Try.underlying5 h
    exact ⟨K, trivial, hK, by rw [hx]; simp [Rows.uptoBulk]⟩) h
  rw [sum_one] at h4
  exact ⟨a, n, c, P, h1, h2, h4⟩
set_option maxRecDepth 100000 in
theorem up_bools {H : Type} {enc : TypeId × Value → H} {W : World} {fuel : Nat} {cs : List Value} {x : DataW H × List MemPlace} (h : DataW.trod enc Try.prog W 0 (fun _ => true) true fuel 46 cs = some x) :
    ∃ (a : Option Addr) (n c : Nat) (P : List Bool), cs = [.slice a n c] ∧ SlY yT9 W a n c P := by
  obtain ⟨a, n, c, P, h1, h2, _, h4⟩ := open_up kT9b (fun _ => True) (fun _ => 0) (by kernel_rfl) (fun {n cs x} h => by
    obtain ⟨K, hK, hx⟩ := DataW.trod_bool Try.underlying4 h
    exact ⟨K, trivial, hK, Nat.zero_le _⟩) h
  exact ⟨a, n, c, P, h1, h2⟩
set_option maxRecDepth 100000 in
theorem up_parts {H : Type} {enc : TypeId × Value → H} {W : World} {fuel : Nat} {cs : List Value} {x : DataW H × List MemPlace} (h : DataW.trod enc Try.prog W 0 (fun _ => true) true fuel 23 cs = some x) :
    ∃ (a : Option Addr) (n c : Nat) (P : List (SV Int)), cs = [.slice a n c] ∧ SlY zB9 W a n c P ∧ (∀ q ∈ P, SlY yB9 W q.a q.D.length q.c q.D) ∧ (P.map (fun q => q.D.length + 1)).sum + 1 ≤ Rows.uptoBulk x.1 := by
  haveI : Inhabited (SV Int) := ⟨⟨none, 0, []⟩⟩
  exact open_up kzB9 (fun q => SlY yB9 W q.a q.D.length q.c q.D) (fun q => q.D.length + 1) (by kernel_rfl) (fun {n cs x} h => by
    obtain ⟨a, n, c, P, h1, h2, h3⟩ := up_bytes h
    have hl := h2.len
    subst hl
    exact ⟨⟨a, c, P⟩, h2, h1, h3⟩) h
theorem flB_sum (l : List (SV Int)) : (flB l).length + l.length = (l.map (fun q => q.D.length + 1)).sum := by
  induction l with
  | nil => rfl
  | cons x r ih =>
    rw [List.map_cons, List.sum_cons, ← ih, flB, List.flatMap_cons, List.length_append, List.length_cons]
    show _ + (flB r).length + _ = _
    omega

end Go.Proofs.Ytjodieiaccfkiaa
