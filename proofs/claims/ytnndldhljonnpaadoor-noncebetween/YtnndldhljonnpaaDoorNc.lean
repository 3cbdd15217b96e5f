import Derived.Test.YtnndldhljonnpaaDoorNw
namespace Go.Proofs.YtnndldhljonnpaaDoor
open Go.RowKit
set_option linter.unusedVariables false

/-- The order of numbers; of draws. -/
def cmpI (a b : Int) : Int := if a < b then -1 else if b < a then 1 else 0
def cmpD (h l h' l' : Int) : Int := if h = h' then cmpI l l' else cmpI h h'
set_option maxHeartbeats 400000 in
theorem compare_any (h l h' l' : Int) (w : World) :
    Calls Tryd.prog 10 #[.agg #[.int .u64 h, .int .u64 l], .agg #[.int .u64 h', .int .u64 l']] w fun e w' => e = .returned (.int .i64 (cmpD h l h' l')) ∧ Below w.heap.size w w' := by
  by_cases e1 : h = h'
  · subst e1
    rcases Int.lt_trichotomy l l' with c | c | c
    · have hc : cmpD h l h l' = -1 := by unfold cmpD cmpI; rw [if_pos rfl, if_pos c]
      rw [hc]; clear hc
      have f1 : (l == l') = false := by simp; omega
      have f2 : ¬ l = l' := by omega
      have f3 : ¬ l' < l := by omega
      go_enter Tryd.func10, Tryd.ntmps10
      go_wp2
      go_ret
      exact ⟨rfl, ((Below.refl _ _).alloc (Nat.le_refl _) _).alloc (by simp) _⟩
    · subst c
      have hc : cmpD h l h l = 0 := by unfold cmpD cmpI; rw [if_pos rfl, if_neg (by omega), if_neg (by omega)]
      rw [hc]; clear hc
      go_enter Tryd.func10, Tryd.ntmps10
      go_wp2
      go_ret
      exact ⟨rfl, ((Below.refl _ _).alloc (Nat.le_refl _) _).alloc (by simp) _⟩
    · have hc : cmpD h l h l' = 1 := by unfold cmpD cmpI; rw [if_pos rfl, if_neg (by omega), if_pos c]
      rw [hc]; clear hc
      have f1 : (l == l') = false := by simp; omega
      have f2 : ¬ l = l' := by omega
      have f3 : ¬ l < l' := by omega
      go_enter Tryd.func10, Tryd.ntmps10
      go_wp2
      go_ret
      exact ⟨rfl, ((Below.refl _ _).alloc (Nat.le_refl _) _).alloc (by simp) _⟩
  · have f0 : (h == h') = false := by simp [e1]
    rcases (by omega : h < h' ∨ h' < h) with c | c
    · have hc : cmpD h l h' l' = -1 := by unfold cmpD cmpI; rw [if_neg e1, if_pos c]
      rw [hc]; clear hc
      have f3 : ¬ h' < h := by omega
      go_enter Tryd.func10, Tryd.ntmps10
      go_wp2
      go_ret
      exact ⟨rfl, ((Below.refl _ _).alloc (Nat.le_refl _) _).alloc (by simp) _⟩
    · have hc : cmpD h l h' l' = 1 := by unfold cmpD cmpI; rw [if_neg e1, if_neg (by omega), if_pos c]
      rw [hc]; clear hc
      have f3 : ¬ h < h' := by omega
      go_enter Tryd.func10, Tryd.ntmps10
      go_wp2
      go_ret
      exact ⟨rfl, ((Below.refl _ _).alloc (Nat.le_refl _) _).alloc (by simp) _⟩

end Go.Proofs.YtnndldhljonnpaaDoor
