import Derived.Test.YtjedpnhdpnknoaaLg
namespace Go.Proofs.Ytjedpnhdpnknoaa
open Go.RowKit Go.Maps
set_option linter.unusedVariables false

theorem size_zero {a : ByteArray} (h : a.size = 0) : a = ByteArray.empty := by
  obtain ⟨⟨x⟩⟩ := a
  cases x with
  | nil => rfl
  | cons y r => simp [ByteArray.size] at h
set_option maxRecDepth 100000 in
set_option maxHeartbeats 1000000 in
theorem refcheck (k s : Int) (v : ByteArray) (hf : (⟨k, s, v⟩ : Opn).fits) (w : World) : Calls Try.prog 10 #[.agg #[.int .i64 k, .int .i64 s, .string v]] w fun e w' => e = .returned (.int .i64 (ck k s v)) ∧ Below w.heap.size w w' := by
  have hv := hf.vl
  dsimp only at hv
  have hsz : (v.size : Int) ≤ 9223372036854775807 := by unfold maxLen at hv; omega
  clear hf hv
  by_cases k1 : k = 1
  · subst k1
    by_cases hs : s < 0 ∨ 1024 ≤ s
    · have e1 : ck 1 s v = 41 := by simp [ck, hs]
      rw [e1]
      clear e1
      go_enter Try.func10, Try.ntmps10
      go_wp2
      all_goals
        go_ret
        exact ⟨by first | rfl | (exfalso; omega) | (exfalso; simp_all), (Below.refl _ w).alloc (Nat.le_refl _) _⟩
    · have e1 : ck 1 s v = if 64 < v.size then 42 else 0 := by simp [ck, hs]
      rw [e1]
      clear e1
      by_cases hv : 64 < v.size
      · rw [if_pos hv]
        have hv' : ((64 : Int) < v.size) := by omega
        go_enter Try.func10, Try.ntmps10
        go_wp2
        all_goals
          go_ret
          exact ⟨by first | rfl | (exfalso; omega) | (exfalso; simp_all), (Below.refl _ w).alloc (Nat.le_refl _) _⟩
      · rw [if_neg hv]
        have hv' : ¬ ((64 : Int) < v.size) := by omega
        go_enter Try.func10, Try.ntmps10
        go_wp2
        all_goals
          go_ret
          exact ⟨by first | rfl | (exfalso; omega) | (exfalso; simp_all), (Below.refl _ w).alloc (Nat.le_refl _) _⟩
  by_cases k2 : k = 2
  · subst k2
    by_cases hs : s ≠ 0
    · have e1 : ck 2 s v = 41 := by simp [ck, hs]
      rw [e1]
      clear e1
      have hb : (s != 0) = true := by simp [hs]
      go_enter Try.func10, Try.ntmps10
      go_wp2
      all_goals
        go_ret
        exact ⟨by first | rfl | (exfalso; omega) | (exfalso; simp_all), (Below.refl _ w).alloc (Nat.le_refl _) _⟩
    · have e1 : ck 2 s v = if 64 < v.size then 42 else 0 := by simp [ck, hs]
      rw [e1]
      clear e1
      have hs : s = 0 := by omega
      subst hs
      by_cases hv : 64 < v.size
      · rw [if_pos hv]
        have hv' : ((64 : Int) < v.size) := by omega
        go_enter Try.func10, Try.ntmps10
        go_wp2
        all_goals
          go_ret
          exact ⟨by first | rfl | (exfalso; omega) | (exfalso; simp_all), (Below.refl _ w).alloc (Nat.le_refl _) _⟩
      · rw [if_neg hv]
        have hv' : ¬ ((64 : Int) < v.size) := by omega
        go_enter Try.func10, Try.ntmps10
        go_wp2
        all_goals
          go_ret
          exact ⟨by first | rfl | (exfalso; omega) | (exfalso; simp_all), (Below.refl _ w).alloc (Nat.le_refl _) _⟩
  by_cases k3 : k = 3
  · subst k3
    by_cases hs : s < 0 ∨ 1024 ≤ s
    · have e1 : ck 3 s v = 41 := by simp [ck, hs]
      rw [e1]
      clear e1
      go_enter Try.func10, Try.ntmps10
      go_wp2
      all_goals
        go_ret
        exact ⟨by first | rfl | (exfalso; omega) | (exfalso; simp_all), (Below.refl _ w).alloc (Nat.le_refl _) _⟩
    · have e1 : ck 3 s v = if 0 < v.size then 42 else 0 := by simp [ck, hs]
      rw [e1]
      clear e1
      by_cases hv : 0 < v.size
      · rw [if_pos hv]
        have hv' : ¬ (v.toList = []) := fun e => by
          rw [ByteArray.toList_eq] at e
          have : v.size = 0 := by simp [ByteArray.size, ← Array.length_toList, e]
          omega
        go_enter Try.func10, Try.ntmps10
        go_wp2
        all_goals
          go_ret
          exact ⟨by first | rfl | (exfalso; omega) | (exfalso; simp_all), (Below.refl _ w).alloc (Nat.le_refl _) _⟩
      · rw [if_neg hv]
        have hv' : v = ByteArray.empty := size_zero (by omega)
        subst hv'
        go_enter Try.func10, Try.ntmps10
        go_wp2
        all_goals
          go_ret
          exact ⟨by first | rfl | (exfalso; omega) | (exfalso; simp_all), (Below.refl _ w).alloc (Nat.le_refl _) _⟩
  by_cases k4 : k = 4
  · subst k4
    by_cases hs : s ≠ 0
    · have e1 : ck 4 s v = 41 := by simp [ck, hs]
      rw [e1]
      clear e1
      have hb : (s != 0) = true := by simp [hs]
      go_enter Try.func10, Try.ntmps10
      go_wp2
      all_goals
        go_ret
        exact ⟨by first | rfl | (exfalso; omega) | (exfalso; simp_all), (Below.refl _ w).alloc (Nat.le_refl _) _⟩
    · have e1 : ck 4 s v = if 0 < v.size then 42 else 0 := by simp [ck, hs]
      rw [e1]
      clear e1
      have hs : s = 0 := by omega
      subst hs
      by_cases hv : 0 < v.size
      · rw [if_pos hv]
        have hv' : ¬ (v.toList = []) := fun e => by
          rw [ByteArray.toList_eq] at e
          have : v.size = 0 := by simp [ByteArray.size, ← Array.length_toList, e]
          omega
        go_enter Try.func10, Try.ntmps10
        go_wp2
        all_goals
          go_ret
          exact ⟨by first | rfl | (exfalso; omega) | (exfalso; simp_all), (Below.refl _ w).alloc (Nat.le_refl _) _⟩
      · rw [if_neg hv]
        have hv' : v = ByteArray.empty := size_zero (by omega)
        subst hv'
        go_enter Try.func10, Try.ntmps10
        go_wp2
        all_goals
          go_ret
          exact ⟨by first | rfl | (exfalso; omega) | (exfalso; simp_all), (Below.refl _ w).alloc (Nat.le_refl _) _⟩
  have e1 : ck k s v = 40 := by simp [ck, k1, k2, k3, k4]
  rw [e1]
  have b1 : (k == 1) = false := by simp [k1]
  have b2 : (k == 2) = false := by simp [k2]
  have b3 : (k == 3) = false := by simp [k3]
  have b4 : (k == 4) = false := by simp [k4]
  go_enter Try.func10, Try.ntmps10
  go_wp2
  all_goals
    go_ret
    exact ⟨rfl, (Below.refl _ w).alloc (Nat.le_refl _) _⟩

set_option maxRecDepth 100000 in
set_option maxHeartbeats 1000000 in
theorem checks_walk (o : Opn) (w : World) (ho : o.fits) : Calls Try.prog 3 #[o.val] w fun e w' => e = .returned (.bool true) ∧ Below w.heap.size w w' := by
  obtain ⟨k, s, v⟩ := o
  dsimp only [Opn.val]
  have KS : ∀ v', Below (w.heap.size + 1) (w.alloc (.cells #[.int .i64 k, .int .i64 s, .string v] 23)) v' → (Below (w.heap.size + 1) (w.alloc (.cells #[.int .i64 k, .int .i64 s, .string v] 23)) v' ∧ v'.cell? ⟨w.heap.size, 0, none⟩ = some (.int .i64 k) ∧ v'.cell? ⟨w.heap.size, 1, none⟩ = some (.int .i64 s) ∧ v'.cell? ⟨w.heap.size, 2, none⟩ = some (.string v)) := fun v' b => by
    refine ⟨b, (b.cell (p := ⟨w.heap.size, 0, none⟩) (Nat.lt_succ_self _)).trans ?_, (b.cell (p := ⟨w.heap.size, 1, none⟩) (Nat.lt_succ_self _)).trans ?_, (b.cell (p := ⟨w.heap.size, 2, none⟩) (Nat.lt_succ_self _)).trans ?_⟩
    all_goals go_simp
  have KH := hide KS
  clear KS
  generalize hck : ck k s v = c
  have c1 := fun W => check3 k s v ho W
  have c2 := fun W => refcheck k s v ho W
  rw [hck] at c1 c2
  clear hck
  go_enter Try.func3, Try.ntmps3
  go_wp2_with fail
  go_region_held3 (fun v' => Below (w.heap.size + 1) (w.alloc (.cells #[.int .i64 k, .int .i64 s, .string v] 23)) v' ∧ v'.cell? ⟨w.heap.size, 0, none⟩ = some (.int .i64 k) ∧ v'.cell? ⟨w.heap.size, 1, none⟩ = some (.int .i64 s) ∧ v'.cell? ⟨w.heap.size, 2, none⟩ = some (.string v))
    (first | exact KH.out _ (Below.refl _ _).drew | exact KH.out _ (by assumption))
    (first
      | (go_at_call 9; refine (c1 _).mono ?_; rintro e v' ⟨rfl, bv⟩; have bb := Below.trans (B := w.heap.size + 1) (a := w.alloc (.cells #[.int .i64 k, .int .i64 s, .string v] 23)) (by first | assumption | exact (Below.refl _ _).drew) (bv.mono (by first | (simp; done) | (have := Below.size (by assumption : Below (w.heap.size + 1) (w.alloc (.cells #[.int .i64 k, .int .i64 s, .string v] 23)) _); simpa using this))))
      | (go_at_call 10; refine (c2 _).mono ?_; rintro e v' ⟨rfl, bv⟩; have bb := Below.trans (B := w.heap.size + 1) (a := w.alloc (.cells #[.int .i64 k, .int .i64 s, .string v] 23)) (by first | assumption | exact (Below.refl _ _).drew) (bv.mono (by first | (simp; done) | (have := Below.size (by assumption : Below (w.heap.size + 1) (w.alloc (.cells #[.int .i64 k, .int .i64 s, .string v] 23)) _); simpa using this))))
      | (go_at_call 11; refine (works_any _).mono ?_; rintro e v' ⟨rfl, bv⟩; have bb := Below.trans (B := w.heap.size + 1) (a := w.alloc (.cells #[.int .i64 k, .int .i64 s, .string v] 23)) (by first | assumption | exact (Below.refl _ _).drew) (bv.mono (by first | (simp; done) | (have := Below.size (by assumption : Below (w.heap.size + 1) (w.alloc (.cells #[.int .i64 k, .int .i64 s, .string v] 23)) _); simpa using this)))))
  go_wp2
  go_ret
  exact ⟨rfl, ((Below.refl w.heap.size w).alloc (Nat.le_refl _) _).trans (Below.mono (by assumption) (Nat.le_succ _))⟩

end Go.Proofs.Ytjedpnhdpnknoaa
