import Derived.Test.YthhghenaflnlfaaPb
namespace Go.Proofs.Ythhghenaflnlfaa
open Go.RowKit
set_option linter.unusedVariables false

theorem errs_snoc (P : List Pt) (k : Nat) (hk : k < P.length) (T : ∀ j (h : j < P.length), j < k → P[j].err = 0) (h0 : P[k].err = 0) : ∀ j (h : j < P.length), j < k + 1 → P[j].err = 0 := by
  intro j h hj
  by_cases hjk : j < k
  · exact T j h hjk
  · obtain rfl : j = k := by omega
    exact h0

set_option maxRecDepth 100000 in
set_option maxHeartbeats 4000000 in
theorem refused_any (a0 : Option Addr) (len0 cap0 : Nat) (P : List Pt) (w : World) (hP : Puts w a0 P) (hlen : P.length = len0) (hcap : len0 ≤ cap0) (hmx : len0 ≤ 9223372036854775807) (hE : firstErr P ≠ 0) :
    Calls Try.prog 11 #[.slice a0 len0 cap0] w fun e w' => e = .returned (.bool true) ∧ Below w.heap.size w w' := by
  have HLN := hide hlen
  clear hlen
  go_enter Try.func11, Try.ntmps11
  go_wp2_with fail
  go_loopw [3] (fun i wr => ∃ k : Nat, i = .int .i64 k ∧ k ≤ len0 ∧ (∀ j (h : j < P.length), j < k → P[j].err = 0) ∧ Below w.heap.size w wr) (fun i _ => len0 - (intOf i).toNat)
  case atStart => exact ⟨0, rfl, Nat.zero_le _, fun j _ h => by omega, Below.refl _ _⟩
  case round =>
    obtain ⟨k, rfl, hk, T, B⟩ := hrel
    by_cases hlt : k < len0
    · have hkP : k < P.length := by rw [HLN.out]; exact hlt
      obtain ⟨hf, gb, go, ha, e0, e1, e2, e3, e4⟩ := hP k hkP
      subst ha
      have e0 := cell_later B e0
      have e1 := cell_later B e1
      have e2 := cell_later B e2
      have e3 := cell_later B e3
      have e4 := cell_later B e4
      have HN := hide (errs_snoc P k hkP T)
      have HX := hide (show P[k].err = ptErr P[k].K P[k].N P[k].m P[k].s from rfl)
      obtain ⟨hf1, hf2, hf3, hf4, hf5, hf6⟩ := hf
      generalize P[k].K = K at *
      generalize P[k].V = V at *
      generalize P[k].N = N at *
      generalize P[k].m = m at *
      generalize P[k].s = s at *
      clear T hP hE
      by_cases hK0 : K = 0
      · subst hK0
        have HE : Hid (ptErr 0 N m s = 0) := by unfold ptErr; rw [if_pos rfl]; rfl
        go_wp2
        exact ⟨⟨k + 1, by go_num, by omega, HN.out (HX.out.trans HE.out), B.alloc B.size _⟩, by simp [intOf]; omega⟩
      · have n0 : (K == 0) = false := by simp [hK0]
        by_cases hK1 : K = 1
        · subst hK1
          by_cases hn : N < 0
          · skip
            go_wp2
            go_ret
            exact ⟨rfl, B.alloc B.size _⟩
          · skip
            have HE : Hid (ptErr 1 N m s = 0) := by unfold ptErr; rw [if_neg (by decide), if_pos rfl, if_neg hn]; rfl
            go_wp2
            exact ⟨⟨k + 1, by go_num, by omega, HN.out (HX.out.trans HE.out), B.alloc B.size _⟩, by simp [intOf]; omega⟩
        · have n1 : (K == 1) = false := by simp [hK1]
          by_cases hK2 : K = 2
          · subst hK2
            by_cases hn : N < 0
            · skip
              go_wp2
              go_ret
              exact ⟨rfl, B.alloc B.size _⟩
            · by_cases hmn : m < N
              · skip
                go_wp2
                go_ret
                exact ⟨rfl, B.alloc B.size _⟩
              · skip
                have HE : Hid (ptErr 2 N m s = 0) := by unfold ptErr; rw [if_neg (by decide), if_neg (by decide), if_pos rfl, if_neg (by omega), if_neg hmn]; rfl
                go_wp2
                exact ⟨⟨k + 1, by go_num, by omega, HN.out (HX.out.trans HE.out), B.alloc B.size _⟩, by simp [intOf]; omega⟩
          · have n2 : (K == 2) = false := by simp [hK2]
            have n0' : (K != 0) = true := by simp [hK0]
            have n1' : (K != 1) = true := by simp [hK1]
            have n2' : (K != 2) = true := by simp [hK2]
            by_cases hmn : m < (s.size : Int)
            · clear hK0 hK1 hK2
              go_wp2
              go_ret
              exact ⟨rfl, B.alloc B.size _⟩
            · skip
              have HE : Hid (ptErr K N m s = 0) := by unfold ptErr; rw [if_neg hK0, if_neg hK1, if_neg hK2, if_neg (by omega), if_neg hmn]; rfl
              go_wp2
              exact ⟨⟨k + 1, by go_num, by omega, HN.out (HX.out.trans HE.out), B.alloc B.size _⟩, by simp [intOf]; omega⟩
    · exfalso
      obtain rfl : k = len0 := by omega
      refine hE ((firstErr_zero P).2 fun p hp => ?_)
      obtain ⟨j, hj, rfl⟩ := List.getElem_of_mem hp
      exact T j hj (by rw [← HLN.out]; exact hj)
end Go.Proofs.Ythhghenaflnlfaa
