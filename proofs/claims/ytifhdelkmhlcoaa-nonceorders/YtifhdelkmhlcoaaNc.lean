import Derived.Test.YtifhdelkmhlcoaaNw
namespace Go.Proofs.Ytifhdelkmhlcoaa
open Go.RowKit
set_option linter.unusedVariables false

/-- The order of numbers; of draws. -/
def cmpI (a b : Int) : Int := if a < b then -1 else if b < a then 1 else 0
def cmpD (h l h' l' : Int) : Int := if h = h' then cmpI l l' else cmpI h h'
/-- The least draw above one. -/
def nxH (h l : Int) : Int := if l < 18446744073709551615 then h else if h < 18446744073709551615 then h + 1 else 0
def nxL (h l : Int) : Int := if l < 18446744073709551615 then l + 1 else 0
def nxE (h l : Int) : Int := if l < 18446744073709551615 then 0 else if h < 18446744073709551615 then 0 else 20

set_option maxHeartbeats 400000 in
theorem compare_any (h l h' l' : Int) (w : World) :
    Calls Try.prog 11 #[.agg #[.int .u64 h, .int .u64 l], .agg #[.int .u64 h', .int .u64 l']] w fun e w' => e = .returned (.int .i64 (cmpD h l h' l')) ∧ Below w.heap.size w w' := by
  by_cases e1 : h = h'
  · subst e1
    rcases Int.lt_trichotomy l l' with c | c | c
    · have hc : cmpD h l h l' = -1 := by unfold cmpD cmpI; rw [if_pos rfl, if_pos c]
      rw [hc]; clear hc
      have f1 : (l == l') = false := by simp; omega
      have f2 : ¬ l = l' := by omega
      have f3 : ¬ l' < l := by omega
      go_enter Try.func11, Try.ntmps11
      go_wp2
      go_ret
      exact ⟨rfl, ((Below.refl _ _).alloc (Nat.le_refl _) _).alloc (by simp) _⟩
    · subst c
      have hc : cmpD h l h l = 0 := by unfold cmpD cmpI; rw [if_pos rfl, if_neg (by omega), if_neg (by omega)]
      rw [hc]; clear hc
      go_enter Try.func11, Try.ntmps11
      go_wp2
      go_ret
      exact ⟨rfl, ((Below.refl _ _).alloc (Nat.le_refl _) _).alloc (by simp) _⟩
    · have hc : cmpD h l h l' = 1 := by unfold cmpD cmpI; rw [if_pos rfl, if_neg (by omega), if_pos c]
      rw [hc]; clear hc
      have f1 : (l == l') = false := by simp; omega
      have f2 : ¬ l = l' := by omega
      have f3 : ¬ l < l' := by omega
      go_enter Try.func11, Try.ntmps11
      go_wp2
      go_ret
      exact ⟨rfl, ((Below.refl _ _).alloc (Nat.le_refl _) _).alloc (by simp) _⟩
  · have f0 : (h == h') = false := by simp [e1]
    rcases (by omega : h < h' ∨ h' < h) with c | c
    · have hc : cmpD h l h' l' = -1 := by unfold cmpD cmpI; rw [if_neg e1, if_pos c]
      rw [hc]; clear hc
      have f3 : ¬ h' < h := by omega
      go_enter Try.func11, Try.ntmps11
      go_wp2
      go_ret
      exact ⟨rfl, ((Below.refl _ _).alloc (Nat.le_refl _) _).alloc (by simp) _⟩
    · have hc : cmpD h l h' l' = 1 := by unfold cmpD cmpI; rw [if_neg e1, if_neg (by omega), if_pos c]
      rw [hc]; clear hc
      have f3 : ¬ h < h' := by omega
      go_enter Try.func11, Try.ntmps11
      go_wp2
      go_ret
      exact ⟨rfl, ((Below.refl _ _).alloc (Nat.le_refl _) _).alloc (by simp) _⟩

set_option maxHeartbeats 400000 in
theorem next_any (h l : Int) (w : World) (h0 : 0 ≤ h) (h1 : h ≤ 18446744073709551615) (l0 : 0 ≤ l) (l1 : l ≤ 18446744073709551615) :
    Calls Try.prog 8 #[.agg #[.int .u64 h, .int .u64 l]] w fun e w' => e = .returned (.tuple #[.agg #[.int .u64 (nxH h l), .int .u64 (nxL h l)], .int .i64 (nxE h l)]) ∧ Below w.heap.size w w' := by
  by_cases c1 : l < 18446744073709551615
  · have e1 : nxH h l = h := by unfold nxH; rw [if_pos c1]
    have e2 : nxL h l = l + 1 := by unfold nxL; rw [if_pos c1]
    have e3 : nxE h l = 0 := by unfold nxE; rw [if_pos c1]
    rw [e1, e2, e3]; clear e1 e2 e3
    have f1 : (l == 18446744073709551615) = false := by simp; omega
    have f2 : ¬ l = 18446744073709551615 := by omega
    have f3 : (l + 1) % 18446744073709551616 = l + 1 := by omega
    go_enter Try.func8, Try.ntmps8
    go_wp2
    try (go_quiet (fail); go_wp2)
    refine bodyPost_ret (v := .tuple #[.agg #[.int .u64 h, .int .u64 (l + 1)], .int .i64 0]) (by simp [results, Try.results8, go_sem]) rfl ⟨rfl, ?_⟩
    exact ((Below.refl _ _).alloc (Nat.le_refl _) _).alloc (by simp) _
  · obtain rfl : l = 18446744073709551615 := by omega
    by_cases c2 : h < 18446744073709551615
    · have e1 : nxH h 18446744073709551615 = h + 1 := by unfold nxH; rw [if_neg c1, if_pos c2]
      have e2 : nxL h 18446744073709551615 = 0 := by unfold nxL; rw [if_neg c1]
      have e3 : nxE h 18446744073709551615 = 0 := by unfold nxE; rw [if_neg c1, if_pos c2]
      rw [e1, e2, e3]; clear e1 e2 e3
      have f1 : (h == 18446744073709551615) = false := by simp; omega
      have f2 : ¬ h = 18446744073709551615 := by omega
      have f3 : (h + 1) % 18446744073709551616 = h + 1 := by omega
      go_enter Try.func8, Try.ntmps8
      go_wp2
      try (go_quiet (fail); go_wp2)
      refine bodyPost_ret (v := .tuple #[.agg #[.int .u64 (h + 1), .int .u64 0], .int .i64 0]) (by simp [results, Try.results8, go_sem]) rfl ⟨rfl, ?_⟩
      exact ((Below.refl _ _).alloc (Nat.le_refl _) _).alloc (by simp) _
    · obtain rfl : h = 18446744073709551615 := by omega
      have e1 : nxH 18446744073709551615 18446744073709551615 = 0 := by decide
      have e2 : nxL 18446744073709551615 18446744073709551615 = 0 := by decide
      have e3 : nxE 18446744073709551615 18446744073709551615 = 20 := by decide
      rw [e1, e2, e3]; clear e1 e2 e3
      go_enter Try.func8, Try.ntmps8
      go_wp2
      try (go_quiet (fail); go_wp2)
      refine bodyPost_ret (v := .tuple #[.agg #[.int .u64 0, .int .u64 0], .int .i64 20]) (by simp [results, Try.results8, go_sem]) rfl ⟨rfl, ?_⟩
      exact ((Below.refl _ _).alloc (Nat.le_refl _) _).alloc (by simp) _

end Go.Proofs.Ytifhdelkmhlcoaa
