import Derived.Test.YtcmjhaljbmhpgaaGreatFy
namespace Go.Proofs.YtcmjhaljbmhpgaaGreat
open Go.RowKit Go.Maps
set_option linter.unusedVariables false
set_option linter.unusedSimpArgs false

set_option maxHeartbeats 400000 in
theorem compare_any (h l h' l' : Int) (w : World) :
    Calls Tryz.prog 123 #[.agg #[.int .u64 h, .int .u64 l], .agg #[.int .u64 h', .int .u64 l']] w fun e w' => e = .returned (.int .i64 (cmpD h l h' l')) ∧ Below w.heap.size w w' := by
  by_cases e1 : h = h'
  · subst e1
    rcases Int.lt_trichotomy l l' with c | c | c
    · have hc : cmpD h l h l' = -1 := by unfold cmpD cmpI; rw [if_pos rfl, if_pos c]
      rw [hc]; clear hc
      have f1 : (l == l') = false := by simp; omega
      have f2 : ¬ l = l' := by omega
      have f3 : ¬ l' < l := by omega
      go_enter Tryz.func123, Tryz.ntmps123
      go_wp2
      go_ret
      exact ⟨rfl, ((Below.refl _ _).alloc (Nat.le_refl _) _).alloc (by simp) _⟩
    · subst c
      have hc : cmpD h l h l = 0 := by unfold cmpD cmpI; rw [if_pos rfl, if_neg (by omega), if_neg (by omega)]
      rw [hc]; clear hc
      go_enter Tryz.func123, Tryz.ntmps123
      go_wp2
      go_ret
      exact ⟨rfl, ((Below.refl _ _).alloc (Nat.le_refl _) _).alloc (by simp) _⟩
    · have hc : cmpD h l h l' = 1 := by unfold cmpD cmpI; rw [if_pos rfl, if_neg (by omega), if_pos c]
      rw [hc]; clear hc
      have f1 : (l == l') = false := by simp; omega
      have f2 : ¬ l = l' := by omega
      have f3 : ¬ l < l' := by omega
      go_enter Tryz.func123, Tryz.ntmps123
      go_wp2
      go_ret
      exact ⟨rfl, ((Below.refl _ _).alloc (Nat.le_refl _) _).alloc (by simp) _⟩
  · have f0 : (h == h') = false := by simp [e1]
    rcases (by omega : h < h' ∨ h' < h) with c | c
    · have hc : cmpD h l h' l' = -1 := by unfold cmpD cmpI; rw [if_neg e1, if_pos c]
      rw [hc]; clear hc
      have f3 : ¬ h' < h := by omega
      go_enter Tryz.func123, Tryz.ntmps123
      go_wp2
      go_ret
      exact ⟨rfl, ((Below.refl _ _).alloc (Nat.le_refl _) _).alloc (by simp) _⟩
    · have hc : cmpD h l h' l' = 1 := by unfold cmpD cmpI; rw [if_neg e1, if_neg (by omega), if_pos c]
      rw [hc]; clear hc
      have f3 : ¬ h < h' := by omega
      go_enter Tryz.func123, Tryz.ntmps123
      go_wp2
      go_ret
      exact ⟨rfl, ((Below.refl _ _).alloc (Nat.le_refl _) _).alloc (by simp) _⟩

set_option maxHeartbeats 400000 in
theorem refcompare_any (h l h' l' : Int) (w : World) :
    Calls Tryz.prog 94 #[.agg #[.int .u64 h, .int .u64 l], .agg #[.int .u64 h', .int .u64 l']] w fun e w' => e = .returned (.int .i64 (cmpD h l h' l')) ∧ Below w.heap.size w w' := by
  by_cases e1 : h = h'
  · subst e1
    rcases Int.lt_trichotomy l l' with c | c | c
    · have hc : cmpD h l h l' = -1 := by unfold cmpD cmpI; rw [if_pos rfl, if_pos c]
      rw [hc]; clear hc
      have f1 : (l == l') = false := by simp; omega
      have f2 : ¬ l = l' := by omega
      have f3 : ¬ l' < l := by omega
      go_enter Tryz.func94, Tryz.ntmps94
      go_wp2
      go_ret
      exact ⟨rfl, ((Below.refl _ _).alloc (Nat.le_refl _) _).alloc (by simp) _⟩
    · subst c
      have hc : cmpD h l h l = 0 := by unfold cmpD cmpI; rw [if_pos rfl, if_neg (by omega), if_neg (by omega)]
      rw [hc]; clear hc
      go_enter Tryz.func94, Tryz.ntmps94
      go_wp2
      go_ret
      exact ⟨rfl, ((Below.refl _ _).alloc (Nat.le_refl _) _).alloc (by simp) _⟩
    · have hc : cmpD h l h l' = 1 := by unfold cmpD cmpI; rw [if_pos rfl, if_neg (by omega), if_pos c]
      rw [hc]; clear hc
      have f1 : (l == l') = false := by simp; omega
      have f2 : ¬ l = l' := by omega
      have f3 : ¬ l < l' := by omega
      go_enter Tryz.func94, Tryz.ntmps94
      go_wp2
      go_ret
      exact ⟨rfl, ((Below.refl _ _).alloc (Nat.le_refl _) _).alloc (by simp) _⟩
  · have f0 : (h == h') = false := by simp [e1]
    rcases (by omega : h < h' ∨ h' < h) with c | c
    · have hc : cmpD h l h' l' = -1 := by unfold cmpD cmpI; rw [if_neg e1, if_pos c]
      rw [hc]; clear hc
      have f3 : ¬ h' < h := by omega
      go_enter Tryz.func94, Tryz.ntmps94
      go_wp2
      go_ret
      exact ⟨rfl, ((Below.refl _ _).alloc (Nat.le_refl _) _).alloc (by simp) _⟩
    · have hc : cmpD h l h' l' = 1 := by unfold cmpD cmpI; rw [if_neg e1, if_neg (by omega), if_pos c]
      rw [hc]; clear hc
      have f3 : ¬ h < h' := by omega
      go_enter Tryz.func94, Tryz.ntmps94
      go_wp2
      go_ret
      exact ⟨rfl, ((Below.refl _ _).alloc (Nat.le_refl _) _).alloc (by simp) _⟩

theorem belNN {B : Nat} {w w' : World} (h : Below B w w') (n : Nat) : Below B w (w'.drewN n) := ⟨h.os, h.tape, h.output, h.size, h.block⟩
theorem box3n {w w1 : World} {x0 x1 x2 : Value} {T : TypeId} {B : Nat} (hb : Below B (w.alloc (.cells #[x0, x1, x2] T)) w1) (hB : w.heap.size < B) : w1.cell? ⟨w.heap.size, 0, none⟩ = some x0 ∧ w1.cell? ⟨w.heap.size, 1, none⟩ = some x1 ∧ w1.cell? ⟨w.heap.size, 2, none⟩ = some x2 :=
  ⟨(hb.cell (p := ⟨w.heap.size, 0, none⟩) hB).trans (by simp), (hb.cell (p := ⟨w.heap.size, 1, none⟩) hB).trans (by simp), (hb.cell (p := ⟨w.heap.size, 2, none⟩) hB).trans (by simp)⟩
theorem zdraw (W : World) : (zeroValue 27).run Tryz.prog W = .ok (.agg #[.int .u64 0, .int .u64 0]) W := by kernel_rfl
end Go.Proofs.YtcmjhaljbmhpgaaGreat
