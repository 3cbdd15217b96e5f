import Derived.Test.YtpkcoejjclmocaaLb
namespace Go.Proofs.Ytpkcoejjclmocaa
open Go.RowKit Go.Maps
set_option linter.unusedVariables false

theorem new_any (w : World) : Calls Try.prog 21 #[] w fun e w' => e = .returned (.pointer (some ⟨w.heap.size, 0, none⟩)) ∧ Led w' w.heap.size none [] ∧ Upd (fun _ => False) w w' ∧ w'.heap.size = w.heap.size + 1 := by
  go_enter Try.func21, Try.ntmps21
  go_wp2
  go_ret
  refine ⟨rfl, ⟨Ok.nil, by simp, ?_, ?_, ?_, ?_, fun _ => rfl, fun j e => by cases e⟩, (Upd.refl _ w).alloc _, by simp⟩
  all_goals go_simp
  all_goals rfl
theorem isslot_any (s : Int) (w : World) : Calls Try.prog 63 #[.int .i64 s] w fun e w' => e = .returned (.bool (decide (0 ≤ s ∧ s < 1024))) ∧ w' = w := by
  by_cases h1 : 0 ≤ s
  · by_cases h2 : s < 1024
    · go_enter Try.func63, Try.ntmps63
      go_wp2
      go_ret
      exact ⟨by simp [h1, h2], rfl⟩
    · go_enter Try.func63, Try.ntmps63
      go_wp2
      go_ret
      exact ⟨by simp [h2], rfl⟩
  · go_enter Try.func63, Try.ntmps63
    go_wp2
    go_ret
    exact ⟨by simp; omega, rfl⟩
theorem rest_any (k s : Int) (v : ByteArray) (n : Int) (w : World) (hv : v.size ≤ maxLen) : Calls Try.prog 76 #[.agg #[.int .i64 k, .int .i64 s, .string v], .int .i64 n] w fun e w' => e = .returned (.int .i64 (if s ≠ 0 then 41 else if n < v.size then 42 else 0)) ∧ Below w.heap.size w w' := by
  by_cases h1 : s = 0
  · subst h1
    by_cases h2 : n < v.size
    · go_enter Try.func76, Try.ntmps76
      go_wp2
      go_ret
      exact ⟨by simp, (Below.refl _ w).alloc (Nat.le_refl _) _⟩
    · go_enter Try.func76, Try.ntmps76
      go_wp2
      go_ret
      exact ⟨by simp, (Below.refl _ w).alloc (Nat.le_refl _) _⟩
  · go_enter Try.func76, Try.ntmps76
    go_wp2
    go_ret
    exact ⟨by simp, (Below.refl _ w).alloc (Nat.le_refl _) _⟩

set_option maxHeartbeats 1000000 in
theorem check_any (o : Opn) (ho : o.fits) (w : World) : Calls Try.prog 62 #[o.val] w fun e w' => e = .returned (.int .i64 (ck o.k o.s o.v)) ∧ Below w.heap.size w w' := by
  obtain ⟨k, s, v⟩ := o
  obtain ⟨hk, hs, hv⟩ := ho
  dsimp only at hk hs hv
  dsimp only [Opn.val]
  have c1 := fun W => isslot_any s W
  have c2 := fun k s n W => rest_any k s v n W hv
  by_cases k1 : k = 1
  · subst k1
    by_cases h1 : 0 ≤ s ∧ s < 1024
    · have e1 : ck 1 s v = if (0 : Int) ≠ 0 then 41 else if (64 : Int) < v.size then 42 else 0 := by
        unfold ck
        have : ¬ (s < 0 ∨ 1024 ≤ s) := by omega
        simp [this] <;> omega
      have c2 := c2 1 0 64
      rw [← e1] at c2
      clear e1
      generalize ck 1 s v = r at c2 ⊢
      have c1 : ∀ W, Calls Try.prog 63 #[.int .i64 s] W fun e w' => e = .returned (.bool true) ∧ w' = W := fun W => by simpa [h1] using c1 W
      go_enter Try.func62, Try.ntmps62
      go_wp2_with (first | (go_at_call 63; refine (c1 _).mono ?_; rintro e w' ⟨rfl, rfl⟩) | (go_at_call 76; refine (c2 _).mono ?_; rintro e w' ⟨rfl, hb⟩))
      go_ret
      exact ⟨rfl, ((Below.refl w.heap.size w).alloc (Nat.le_refl _) _).trans (hb.mono (by simp))⟩
    · have e1 : ck 1 s v = 41 := by
        unfold ck
        have : s < 0 ∨ 1024 ≤ s := by omega
        simp [this]
      rw [e1]
      clear e1 c2
      have c1 : ∀ W, Calls Try.prog 63 #[.int .i64 s] W fun e w' => e = .returned (.bool false) ∧ w' = W := fun W => by simpa [h1] using c1 W
      go_enter Try.func62, Try.ntmps62
      go_wp2_with (go_at_call 63; refine (c1 _).mono ?_; rintro e w' ⟨rfl, rfl⟩)
      go_ret
      exact ⟨rfl, (Below.refl w.heap.size w).alloc (Nat.le_refl _) _⟩
  by_cases k2 : k = 2
  · subst k2
    have e1 : ck 2 s v = if s ≠ 0 then 41 else if (64 : Int) < v.size then 42 else 0 := by
      unfold ck
      by_cases h : s = 0 <;> simp [h] <;> omega
    have c2 := c2 2 s 64
    rw [← e1] at c2
    clear e1
    generalize ck 2 s v = r at c2 ⊢
    clear c1
    go_enter Try.func62, Try.ntmps62
    go_wp2_with (go_at_call 76; refine (c2 _).mono ?_; rintro e w' ⟨rfl, hb⟩)
    go_ret
    exact ⟨rfl, ((Below.refl w.heap.size w).alloc (Nat.le_refl _) _).trans (hb.mono (by simp))⟩
  by_cases k3 : k = 3
  · subst k3
    by_cases h1 : 0 ≤ s ∧ s < 1024
    · have e1 : ck 3 s v = if (0 : Int) ≠ 0 then 41 else if (0 : Int) < v.size then 42 else 0 := by
        unfold ck
        have : ¬ (s < 0 ∨ 1024 ≤ s) := by omega
        simp [this]
      have c2 := c2 3 0 0
      rw [← e1] at c2
      clear e1
      generalize ck 3 s v = r at c2 ⊢
      have c1 : ∀ W, Calls Try.prog 63 #[.int .i64 s] W fun e w' => e = .returned (.bool true) ∧ w' = W := fun W => by simpa [h1] using c1 W
      go_enter Try.func62, Try.ntmps62
      go_wp2_with (first | (go_at_call 63; refine (c1 _).mono ?_; rintro e w' ⟨rfl, rfl⟩) | (go_at_call 76; refine (c2 _).mono ?_; rintro e w' ⟨rfl, hb⟩))
      go_ret
      exact ⟨rfl, ((Below.refl w.heap.size w).alloc (Nat.le_refl _) _).trans (hb.mono (by simp))⟩
    · have e1 : ck 3 s v = 41 := by
        unfold ck
        have : s < 0 ∨ 1024 ≤ s := by omega
        simp [this]
      rw [e1]
      clear e1 c2
      have c1 : ∀ W, Calls Try.prog 63 #[.int .i64 s] W fun e w' => e = .returned (.bool false) ∧ w' = W := fun W => by simpa [h1] using c1 W
      go_enter Try.func62, Try.ntmps62
      go_wp2_with (go_at_call 63; refine (c1 _).mono ?_; rintro e w' ⟨rfl, rfl⟩)
      go_ret
      exact ⟨rfl, (Below.refl w.heap.size w).alloc (Nat.le_refl _) _⟩
  by_cases k4 : k = 4
  · subst k4
    have e1 : ck 4 s v = if s ≠ 0 then 41 else if (0 : Int) < v.size then 42 else 0 := by
      unfold ck
      by_cases h : s = 0 <;> simp [h]
    have c2 := c2 4 s 0
    rw [← e1] at c2
    clear e1
    generalize ck 4 s v = r at c2 ⊢
    clear c1
    go_enter Try.func62, Try.ntmps62
    go_wp2_with (go_at_call 76; refine (c2 _).mono ?_; rintro e w' ⟨rfl, hb⟩)
    go_ret
    exact ⟨rfl, ((Below.refl w.heap.size w).alloc (Nat.le_refl _) _).trans (hb.mono (by simp))⟩
  have e1 : ck k s v = 40 := by simp [ck, k1, k2, k3, k4]
  rw [e1]
  clear e1 c1 c2
  have b1 : (k == 1) = false := by simp [k1]
  have b2 : (k == 2) = false := by simp [k2]
  have b3 : (k == 3) = false := by simp [k3]
  have b4 : (k == 4) = false := by simp [k4]
  go_enter Try.func62, Try.ntmps62
  go_wp2
  go_ret
  exact ⟨rfl, (Below.refl w.heap.size w).alloc (Nat.le_refl _) _⟩

end Go.Proofs.Ytpkcoejjclmocaa
