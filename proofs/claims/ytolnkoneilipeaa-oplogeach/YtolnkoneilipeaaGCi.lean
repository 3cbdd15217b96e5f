import Derived.Test.YtolnkoneilipeaaGCe
namespace Go.Proofs.Ytolnkoneilipeaa
open Go.RowKit Go.Maps
open Classical
set_option linter.unusedVariables false
set_option linter.unusedSimpArgs false

theorem tw_take_step {L : List En} {e p : En} {j : Nat} (h : L[j]? = some p) : tw (L.take (j + 1)) e = (tw (L.take j) e || (decide (p.c = e.c) && decide (e.n ≤ p.n))) := by
  rw [List.take_add_one, h]
  exact tw_snoc _ _ _
theorem tw_mono {L : List En} {e : En} {j i : Nat} (hji : j ≤ i) (h : tw (L.take j) e = true) : tw (L.take i) e = true := by
  unfold tw at h ⊢
  rw [List.any_eq_true] at h ⊢
  obtain ⟨x, hx, h2⟩ := h
  exact ⟨x, (List.take_subset_take_left L hji) hx, h2⟩
end Go.Proofs.Ytolnkoneilipeaa

namespace Go.Proofs.Ytolnkoneilipeaa
open Go.RowKit Go.Maps
set_option linter.unusedVariables false
set_option linter.unusedSimpArgs false

theorem ops_own' {T : TypeId} {B : Nat} {w : World} {v : Value} {P : List Opn} (h : Own3 T B w v (P.map oT)) : ∃ a c, v = .slice a P.length c ∧ Ops w a P := by
  obtain ⟨a, c, rfl, _, _, h3, h4⟩ := h.form
  rw [List.length_map] at *
  refine ⟨a, c, rfl, ?_⟩
  cases a with
  | none =>
    have := (h3 rfl).1
    have hP : P = [] := by simpa using this
    subst hP
    intro i hi
    simp at hi
  | some x =>
    obtain ⟨g, rfl, _, _⟩ := h4 x rfl
    exact ops_own h
end Go.Proofs.Ytolnkoneilipeaa

namespace Go.Proofs.Ytolnkoneilipeaa
open Go.RowKit Go.Maps
set_option linter.unusedVariables false
set_option linter.unusedSimpArgs false

/-- The row of a place, as the document tells it. -/
def rowD (R : List Rs) (i : Nat) (d : Bool) (e : En) : Rw := ⟨e.c, e.n, (i : Int) + 1, d, if d then R.getD i zR else zR⟩
theorem rowD_eq (R : List Rs) (k i : Nat) (e : En) : rowD R i (decide (i < k)) e = rwA R k i e := by
  unfold rowD rwA
  by_cases h : i < k <;> simp [h]
end Go.Proofs.Ytolnkoneilipeaa

namespace Go.Proofs.Ytolnkoneilipeaa
open Go.RowKit Go.Maps
set_option linter.unusedVariables false
set_option linter.unusedSimpArgs false

theorem lo_place {L : List En} {n : Nat} {s : Int} {i : Nat} (h : lp L s = i + 1) : ∃ e, L[i]? = some e ∧ lo (rws L n) s = some (rwA (rsL L) n i e) := by
  have hle := lpJ_le L s L.length
  have hi : i < L.length := by unfold lp at h; omega
  refine ⟨_, List.getElem?_eq_getElem hi, ?_⟩
  rw [lo_all, h]
  simp only [Nat.add_eq_zero_iff, Nat.one_ne_zero, and_false, if_false, Nat.add_sub_cancel]
  exact rws_get n (List.getElem?_eq_getElem hi)
theorem lo_noplace {L : List En} {n : Nat} {s : Int} (h : lp L s = 0) : lo (rws L n) s = none := by rw [lo_all, h]; rfl
theorem rowD_val (R : List Rs) (i : Nat) (d : Bool) (e : En) : (rowD R i d e).val = .agg #[.int .i64 e.c, .int .i64 e.n, .int .i64 ((i : Int) + 1), .bool d, .int .i64 (if d then R.getD i zR else zR).1, .int .i64 (if d then R.getD i zR else zR).2.1, .string (if d then R.getD i zR else zR).2.2] := rfl
end Go.Proofs.Ytolnkoneilipeaa

namespace Go.Proofs.Ytolnkoneilipeaa
open Go.RowKit Go.Maps
set_option linter.unusedVariables false
set_option linter.unusedSimpArgs false

end Go.Proofs.Ytolnkoneilipeaa

namespace Go.Proofs.Ytolnkoneilipeaa
open Go.RowKit Go.Maps
set_option linter.unusedVariables false
set_option linter.unusedSimpArgs false

theorem rws_step {L : List En} {n m i : Nat} {e : En} (hm : m ≤ i) (hin : i < n) (he : L[i]? = some e) : ((rws L n).take (i + 1)).drop m = ((rws L n).take i).drop m ++ [⟨e.c, e.n, (i : Int) + 1, true, (rsL L).getD i zR⟩] := by
  have hi := (List.getElem?_eq_some_iff.1 he).1
  rw [List.take_add_one, rws_get n he, List.drop_append_of_le_length (by rw [List.length_take, rws_length]; omega)]
  simp [rwA, hin]
end Go.Proofs.Ytolnkoneilipeaa
