import Derived.Test.YtpkcoejjclmocaaLg
namespace Go.Proofs.Ytpkcoejjclmocaa
open Go.RowKit Go.Maps
set_option linter.unusedVariables false

theorem size_zero {a : ByteArray} (h : a.size = 0) : a = ByteArray.empty := by
  obtain ⟨⟨x⟩⟩ := a
  cases x with
  | nil => rfl
  | cons y r => simp [ByteArray.size] at h
set_option maxRecDepth 100000 in
set_option maxHeartbeats 1000000 in
theorem refcheck (k s : Int) (v : ByteArray) (hf : (⟨k, s, v⟩ : Opn).fits) (w : World) : Calls Try.prog 61 #[.agg #[.int .i64 k, .int .i64 s, .string v]] w fun e w' => e = .returned (.int .i64 (ck k s v)) ∧ Below w.heap.size w w' := by
  have hv := hf.vl
  dsimp only at hv
  have hsz : (v.size : Int) ≤ 9223372036854775807 := by unfold maxLen at hv; omega
  clear hf hv
  by_cases k1 : k = 1
  · subst k1
    by_cases hs : s < 0 ∨ 1024 ≤ s
    · have e1 : ck 1 s v = 41 := by simp [ck, hs]
      rw [e1]
      clear e1
      go_enter Try.func61, Try.ntmps61
      go_wp2
      all_goals
        go_ret
        exact ⟨by first | rfl | (exfalso; omega) | (exfalso; simp_all), (Below.refl _ w).alloc (Nat.le_refl _) _⟩
    · have e1 : ck 1 s v = if 64 < v.size then 42 else 0 := by simp [ck, hs]
      rw [e1]
      clear e1
      by_cases hv : 64 < v.size
      · rw [if_pos hv]
        have hv' : ((64 : Int) < v.size) := by omega
        go_enter Try.func61, Try.ntmps61
        go_wp2
        all_goals
          go_ret
          exact ⟨by first | rfl | (exfalso; omega) | (exfalso; simp_all), (Below.refl _ w).alloc (Nat.le_refl _) _⟩
      · rw [if_neg hv]
        have hv' : ¬ ((64 : Int) < v.size) := by omega
        go_enter Try.func61, Try.ntmps61
        go_wp2
        all_goals
          go_ret
          exact ⟨by first | rfl | (exfalso; omega) | (exfalso; simp_all), (Below.refl _ w).alloc (Nat.le_refl _) _⟩
  by_cases k2 : k = 2
  · subst k2
    by_cases hs : s ≠ 0
    · have e1 : ck 2 s v = 41 := by simp [ck, hs]
      rw [e1]
      clear e1
      have hb : (s != 0) = true := by simp [hs]
      go_enter Try.func61, Try.ntmps61
      go_wp2
      all_goals
        go_ret
        exact ⟨by first | rfl | (exfalso; omega) | (exfalso; simp_all), (Below.refl _ w).alloc (Nat.le_refl _) _⟩
    · have e1 : ck 2 s v = if 64 < v.size then 42 else 0 := by simp [ck, hs]
      rw [e1]
      clear e1
      have hs : s = 0 := by omega
      subst hs
      by_cases hv : 64 < v.size
      · rw [if_pos hv]
        have hv' : ((64 : Int) < v.size) := by omega
        go_enter Try.func61, Try.ntmps61
        go_wp2
        all_goals
          go_ret
          exact ⟨by first | rfl | (exfalso; omega) | (exfalso; simp_all), (Below.refl _ w).alloc (Nat.le_refl _) _⟩
      · rw [if_neg hv]
        have hv' : ¬ ((64 : Int) < v.size) := by omega
        go_enter Try.func61, Try.ntmps61
        go_wp2
        all_goals
          go_ret
          exact ⟨by first | rfl | (exfalso; omega) | (exfalso; simp_all), (Below.refl _ w).alloc (Nat.le_refl _) _⟩
  by_cases k3 : k = 3
  · subst k3
    by_cases hs : s < 0 ∨ 1024 ≤ s
    · have e1 : ck 3 s v = 41 := by simp [ck, hs]
      rw [e1]
      clear e1
      go_enter Try.func61, Try.ntmps61
      go_wp2
      all_goals
        go_ret
        exact ⟨by first | rfl | (exfalso; omega) | (exfalso; simp_all), (Below.refl _ w).alloc (Nat.le_refl _) _⟩
    · have e1 : ck 3 s v = if 0 < v.size then 42 else 0 := by simp [ck, hs]
      rw [e1]
      clear e1
      by_cases hv : 0 < v.size
      · rw [if_pos hv]
        have hv' : ¬ (v.toList = []) := fun e => by
          rw [ByteArray.toList_eq] at e
          have : v.size = 0 := by simp [ByteArray.size, ← Array.length_toList, e]
          omega
        go_enter Try.func61, Try.ntmps61
        go_wp2
        all_goals
          go_ret
          exact ⟨by first | rfl | (exfalso; omega) | (exfalso; simp_all), (Below.refl _ w).alloc (Nat.le_refl _) _⟩
      · rw [if_neg hv]
        have hv' : v = ByteArray.empty := size_zero (by omega)
        subst hv'
        go_enter Try.func61, Try.ntmps61
        go_wp2
        all_goals
          go_ret
          exact ⟨by first | rfl | (exfalso; omega) | (exfalso; simp_all), (Below.refl _ w).alloc (Nat.le_refl _) _⟩
  by_cases k4 : k = 4
  · subst k4
    by_cases hs : s ≠ 0
    · have e1 : ck 4 s v = 41 := by simp [ck, hs]
      rw [e1]
      clear e1
      have hb : (s != 0) = true := by simp [hs]
      go_enter Try.func61, Try.ntmps61
      go_wp2
      all_goals
        go_ret
        exact ⟨by first | rfl | (exfalso; omega) | (exfalso; simp_all), (Below.refl _ w).alloc (Nat.le_refl _) _⟩
    · have e1 : ck 4 s v = if 0 < v.size then 42 else 0 := by simp [ck, hs]
      rw [e1]
      clear e1
      have hs : s = 0 := by omega
      subst hs
      by_cases hv : 0 < v.size
      · rw [if_pos hv]
        have hv' : ¬ (v.toList = []) := fun e => by
          rw [ByteArray.toList_eq] at e
          have : v.size = 0 := by simp [ByteArray.size, ← Array.length_toList, e]
          omega
        go_enter Try.func61, Try.ntmps61
        go_wp2
        all_goals
          go_ret
          exact ⟨by first | rfl | (exfalso; omega) | (exfalso; simp_all), (Below.refl _ w).alloc (Nat.le_refl _) _⟩
      · rw [if_neg hv]
        have hv' : v = ByteArray.empty := size_zero (by omega)
        subst hv'
        go_enter Try.func61, Try.ntmps61
        go_wp2
        all_goals
          go_ret
          exact ⟨by first | rfl | (exfalso; omega) | (exfalso; simp_all), (Below.refl _ w).alloc (Nat.le_refl _) _⟩
  have e1 : ck k s v = 40 := by simp [ck, k1, k2, k3, k4]
  rw [e1]
  have b1 : (k == 1) = false := by simp [k1]
  have b2 : (k == 2) = false := by simp [k2]
  have b3 : (k == 3) = false := by simp [k3]
  have b4 : (k == 4) = false := by simp [k4]
  go_enter Try.func61, Try.ntmps61
  go_wp2
  all_goals
    go_ret
    exact ⟨rfl, (Below.refl _ w).alloc (Nat.le_refl _) _⟩

end Go.Proofs.Ytpkcoejjclmocaa
