import Derived.Test.YtnndldhljonnpaaDoorNte
namespace Go.Proofs.YtnndldhljonnpaaDoor
open Go.RowKit
set_option linter.unusedVariables false
set_option linter.unusedSimpArgs false

set_option maxRecDepth 100000 in
set_option maxHeartbeats 1000000 in
/-- The document's begins. -/
theorem begins_any (s : ByteArray) (w : World) (hs : s.size ≤ 4611686018427387904) :
    Calls Tryd.prog 17 #[.string s] w fun e w' => e = .returned (.bool (bg (bts s))) ∧ w' = w := by
  have HL := hide (bts_len s)
  obtain ⟨k, hk⟩ : ∃ k, pt (bts s) = k := ⟨_, rfl⟩
  have hkl : k ≤ s.size := by rw [← hk, ← HL.out]; exact pt_le _
  have R0 : Hid (∀ W, Calls Tryd.prog 15 #[.string s] W fun e w' => e = .returned (.int .i64 (k : Int)) ∧ w' = W) := fun W => by rw [← hk]; exact point_any s W hs
  have sz1 : (s.extract 0 k).size ≤ 4611686018427387904 := by rw [ByteArray.size_extract]; omega
  have sz2 : (s.extract (k + 1) s.size).size ≤ 4611686018427387904 := by rw [ByteArray.size_extract]; omega
  have R1 : Hid (∀ W, Calls Tryd.prog 16 #[.string (s.extract 0 k)] W fun e w' => e = .returned (.tuple #[.int .u64 (nv ((bts s).take k)), .bool (nm ((bts s).take k))]) ∧ w' = W) := fun W => by
    have := number_any (s.extract 0 k) W sz1
    rw [bts_take] at this
    exact this
  have R2 : Hid (∀ W, Calls Tryd.prog 16 #[.string (s.extract (k + 1) s.size)] W fun e w' => e = .returned (.tuple #[.int .u64 (nv ((bts s).drop (k + 1))), .bool (nm ((bts s).drop (k + 1)))]) ∧ w' = W) := fun W => by
    have := number_any (s.extract (k + 1) s.size) W sz2
    rw [bts_drop] at this
    exact this
  have HK := hide hk
  clear hk sz1 sz2
  have e1 : IntKind.i64.wrap ((k : Int) + 1) = (k : Int) + 1 := by rw [IntKind.wrap_i64]; omega
  by_cases kl : k = s.size
  · have tk : (bts s).take k = bts s := by rw [List.take_of_length_le (by rw [HL.out]; omega)]
    rw [tk] at R1
    have V : Hid (bg (bts s) = (decide (bts s = []) || nm (bts s))) := by unfold Hid bg; rw [HK.out, HL.out, if_pos kl]
    generalize nm (bts s) = b at *
    generalize nv (bts s) = v at *
    have kl' : ((k : Int) == (s.size : Int)) = true := by simp; omega
    by_cases s0 : bts s = []
    · have E : Hid (bg (bts s) = true) := by unfold Hid; rw [V.out, decide_eq_true s0]; rfl
      obtain rfl : s = ⟨#[]⟩ := by
        obtain ⟨d⟩ := s
        have h := HL.out
        rw [s0] at h
        have : d = #[] := Array.eq_empty_of_size_eq_zero h.symm
        rw [this]
      have k0 : k = 0 := kl
      subst k0
      rw [E.out]
      clear V tk E s0 kl kl'
      go_enter Tryd.func17, Tryd.ntmps17
      go_wp2_with fail
      refine (R0.out _).mono ?_
      rintro e w1 ⟨rfl, e9⟩
      subst e9
      dsimp only
      go_wp2_with fail
      refine (R1.out _).mono ?_
      rintro e w1 ⟨rfl, e9⟩
      subst e9
      dsimp only
      go_wp2
      go_ret
      exact ⟨rfl, rfl⟩
    · have E : Hid (bg (bts s) = b) := by unfold Hid; rw [V.out, decide_eq_false s0]; rfl
      rw [E.out]
      have hne : (s.toList == ([] : List UInt8)) = false := by
        have := bts_eq s ⟨#[]⟩
        rw [show bts ⟨#[]⟩ = [] from rfl, decide_eq_false s0, ByteArray.toList_eq ⟨#[]⟩] at this
        exact this
      have hne2 : s.toList.isEmpty = false := by
        cases h : s.toList with
        | nil => rw [h] at hne; cases hne
        | cons _ _ => rfl
      have KL := hide kl
      clear V tk E kl s0
      go_enter Tryd.func17, Tryd.ntmps17
      go_wp2_with fail
      refine (R0.out _).mono ?_
      rintro e w1 ⟨rfl, e9⟩
      subst e9
      dsimp only
      go_wp2_with fail
      refine (R1.out _).mono ?_
      rintro e w1 ⟨rfl, e9⟩
      subst e9
      dsimp only
      go_wp2
      go_ret
      exact ⟨rfl, rfl⟩
  · have kl' : ((k : Int) == (s.size : Int)) = false := by simp; omega
    have hk2 : k + 1 ≤ s.size := by omega
    have V : Hid (bg (bts s) = (nm ((bts s).take k) && (decide (k + 1 = s.size) || nm ((bts s).drop (k + 1))))) := by unfold Hid bg; rw [HK.out, HL.out, if_neg kl]
    generalize nm ((bts s).take k) = a at *
    generalize nv ((bts s).take k) = va at *
    generalize nm ((bts s).drop (k + 1)) = b at *
    generalize nv ((bts s).drop (k + 1)) = vb at *
    have e2 : ((k : Int) + 1 == (s.size : Int)) = decide (k + 1 = s.size) := by
      rw [Bool.eq_iff_iff]
      simp
      omega
    rw [V.out]
    clear V
    generalize decide (k + 1 = s.size) = c at *
    go_enter Tryd.func17, Tryd.ntmps17
    go_wp2_with fail
    refine (R0.out _).mono ?_
    rintro e w1 ⟨rfl, e9⟩
    subst e9
    dsimp only
    go_wp2_with fail
    refine (R1.out _).mono ?_
    rintro e w1 ⟨rfl, e9⟩
    subst e9
    dsimp only
    go_wp2_with fail
    refine (R2.out _).mono ?_
    rintro e w1 ⟨rfl, e9⟩
    subst e9
    dsimp only
    cases a <;> cases c
    all_goals
      go_wp2
      go_ret
      exact ⟨rfl, rfl⟩

end Go.Proofs.YtnndldhljonnpaaDoor
