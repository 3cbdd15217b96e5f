import Derived.Test.YtnodhappbknclaaIt
import Derived.Test.YtnodhappbknclaaRo
import Derived.Test.YtnodhappbknclaaSm
namespace Go.Proofs.Ytnodhappbknclaa
open Go.RowKit
set_option linter.unusedVariables false

theorem refsum_none (c : Nat) (w : World) :
    Calls Try.prog 15 #[.slice none 0 c] w fun e w' => e = .returned (.int .u32 (M.sum [])) ∧ w' = w := by
  go_enter Try.func15, Try.ntmps15
  go_wp2
  go_loop [3, 4, 5, 6] (fun t i _ _ => i = .int .i64 0 ∧ t = .int .u32 4294967295) (fun _ i _ _ => 0)
  case atStart => exact ⟨rfl, rfl⟩
  case round =>
    obtain ⟨rfl, rfl⟩ := hrel
    go_wp2
    go_ret
    exact ⟨ret_int (by decide), rfl⟩
theorem refsum_hs (a : Option Addr) (n c : Nat) (l : List Int) (w : World) (h : Hs w a n c l) (hm : n ≤ maxLen) :
    Calls Try.prog 15 #[.slice a n c] w fun e w' => e = .returned (.int .u32 (M.sum l)) ∧ w' = w := by
  cases a with
  | none =>
    obtain ⟨rfl, _⟩ := h.nil rfl
    obtain rfl : n = 0 := h.len.symm
    exact refsum_none c w
  | some x => exact refsum_any x n c l w h.len hm (h.row x rfl) h.byte

def seErr (n : Nat) : Int := if n ≤ 32756 then 0 else 11
def seBody (l : List Int) (n : Nat) : List Int := if n ≤ 32756 then M.frame l else []
theorem seBody_byte (l : List Int) (n : Nat) (h : ∀ z ∈ l, 0 ≤ z ∧ z < 256) : ∀ z ∈ seBody l n, 0 ≤ z ∧ z < 256 := by
  unfold seBody
  split
  · exact M.frame_byte l h
  · intro z hz; cases hz
theorem seal_any (a : Option Addr) (n c : Nat) (l : List Int) (w : World) (hh : Hs w a n c l) :
    Calls Try.prog 10 #[.slice a n c] w fun e w' => ∃ v', e = .returned (.tuple #[v', .int .i64 (seErr n)]) ∧ Own w.heap.size w' v' (seBody l n) ∧ Below w.heap.size w w' := by
  unfold seErr seBody
  by_cases h : n ≤ 32756
  · rw [if_pos h, if_pos h]
    refine (seal_ok a n c l w hh h).mono ?_
    rintro e w' ⟨v', rfl, h1, h2, h3⟩
    exact ⟨v', rfl, h1, h3⟩
  · rw [if_neg h, if_neg h]
    refine (seal_long a n c w (by omega)).mono ?_
    rintro e w' ⟨rfl, rfl⟩
    exact ⟨_, rfl, Own.nil _ _, Below.refl _ _⟩
theorem refseal_any (a : Option Addr) (n c : Nat) (l : List Int) (w : World) (hh : Hs w a n c l) :
    Calls Try.prog 11 #[.slice a n c] w fun e w' => ∃ v', e = .returned (.tuple #[v', .int .i64 (seErr n)]) ∧ Own w.heap.size w' v' (seBody l n) ∧ Below w.heap.size w w' := by
  unfold seErr seBody
  by_cases h : n ≤ 32756
  · rw [if_pos h, if_pos h]
    refine (refseal_ok a n c l w hh h).mono ?_
    rintro e w' ⟨v', rfl, h1, h2, h3⟩
    exact ⟨v', rfl, h1, h3⟩
  · rw [if_neg h, if_neg h]
    refine (refseal_long a n c w (by omega)).mono ?_
    rintro e w' ⟨rfl, rfl⟩
    exact ⟨_, rfl, Own.nil _ _, Below.refl _ _⟩

set_option maxRecDepth 100000 in
set_option maxHeartbeats 1000000 in
theorem frames_walk (a0 : Option Addr) (len0 cap0 : Nat) (z0 : List Int) (w : World) (w0 : CameS w a0 len0 cap0 z0) :
    Calls Try.prog 3 #[.slice a0 len0 cap0] w fun e w' => e = .returned (.bool true) ∧ Below w.heap.size w w' := by
  obtain ⟨h0, m0, m1⟩ := Hs.ofS w0
  clear w0
  generalize z0.take len0 = l at *
  have kb := h0.byte
  go_enter Try.func3, Try.ntmps3
  go_wp2_with fail
  refine (given_new w.heap.size a0 len0 cap0 l _ (by simp) (by simp) (by simp) (by simp) (by simp) (by simp) (by simp) (by simp) (by simp) (h0.later ((Below.refl _ _).alloc (Nat.le_refl _) _)) m0).mono ?_
  rintro e w1 ⟨a1, c1, rfl, hx, hcm, hg, b1⟩
  have bw1 : Below w.heap.size w w1 := ((Below.refl _ _).alloc (Nat.le_refl _) _).trans b1
  clear b1
  go_wp2_with fail
  refine (seal_any a1 len0 c1 l w1 hx).mono ?_
  rintro e w2 ⟨v2, rfl, o2, b2⟩
  have bw2 := bw1.trans (b2.mono bw1.size)
  have hx := hx.later b2
  have hg := hg.later b2
  obtain ⟨g2, k2, c2, hv2, s2, _⟩ := o2.hs (seBody_byte l len0 kb)
  subst hv2
  clear o2 b2 bw1
  go_wp2_with fail
  refine (refseal_any a0 len0 cap0 l w2 (h0.later bw2)).mono ?_
  rintro e w3 ⟨v3, rfl, o3, b3⟩
  have bw3 := bw2.trans (b3.mono bw2.size)
  have hx := hx.later b3
  have hg := hg.later b3
  have s2 := s2.later b3
  obtain ⟨g3, k3, c3, hv3, s3, _⟩ := o3.hs (seBody_byte l len0 kb)
  subst hv3
  clear o3 b3 bw2
  generalize seBody l len0 = F at *
  generalize seErr len0 = D at *
  go_wp2_with fail
  refine (open_any a1 len0 c1 l w3 hx).mono ?_
  rintro e w4 ⟨v4, rfl, o4, b4⟩
  have bw4 := bw3.trans (b4.mono bw3.size)
  have hx := hx.later b4
  have hg := hg.later b4
  have s2 := s2.later b4
  have s3 := s3.later b4
  obtain ⟨g4, k4, c4, hv4, s4, _⟩ := o4.hs (opBody_byte _ kb)
  subst hv4
  clear o4 b4 bw3
  go_wp2_with fail
  refine (ro_any a0 len0 cap0 l w4 (h0.later bw4)).mono ?_
  rintro e w5 ⟨v5, rfl, o5, b5⟩
  have bw5 := bw4.trans (b5.mono bw4.size)
  have hx := hx.later b5
  have hg := hg.later b5
  have s2 := s2.later b5
  have s3 := s3.later b5
  have s4 := s4.later b5
  have h5 := h0.later bw5
  obtain ⟨g5, k5, c5, hv5, s5, _⟩ := o5.hs (opBody_byte _ kb)
  subst hv5
  clear o5 b5 bw4
  generalize opErr l = E at *
  generalize opBody l = Bd at *
  go_wp2_with fail
  refine (sum_hs a1 len0 c1 l w5 hx (by unfold maxLen; omega)).mono ?_
  rintro e w6 ⟨rfl, hw6⟩
  rw [hw6]
  clear hw6
  go_wp2_with fail
  refine (refsum_hs a0 len0 cap0 l w5 h5 (by unfold maxLen; omega)).mono ?_
  rintro e w6 ⟨rfl, hw6⟩
  rw [hw6]
  clear hw6 h5 hx h0
  generalize M.sum l = S at *
  go_wp2_with (go_at_call 16; go_in)
  refine (same_any g2 g3 k2 c2 k3 c3 F F w5 s2 s3).mono ?_
  rintro e w6 ⟨rfl, hw6⟩
  rw [hw6, decide_eq_true (rfl : F = F)]
  clear hw6 s2 s3
  go_wp2_with (go_at_call 16; go_in)
  refine (same_any g4 g5 k4 c4 k5 c5 Bd Bd w5 s4 s5).mono ?_
  rintro e w6 ⟨rfl, hw6⟩
  rw [hw6, decide_eq_true (rfl : Bd = Bd)]
  clear hw6 s4 s5
  go_wp2_with fail
  refine (intact_one w.heap.size _ w5 hg).mono ?_
  rintro e w6 ⟨rfl, b6⟩
  go_wp2
  go_ret
  exact ⟨rfl, bw5.trans (b6.mono bw5.size)⟩
#print axioms frames_walk

end Go.Proofs.Ytnodhappbknclaa
