import Derived.Test.YtegkkoggfjgkbaaCo
namespace Go.Proofs.Ytegkkoggfjgkbaa.Wi
open Go.RowKit
set_option linter.unusedVariables false

/-- What is wrong of a frame but for its sum. -/
def outErr (f : List Int) : Int := if 32768 < f.length then 11 else if f.length < 12 then 10 else if f.take 4 = M.magic then coErr f.length (told f) else 13
theorem outErr_range {f : List Int} (h : outErr f = 0) : 12 ≤ f.length ∧ f.length ≤ 32768 ∧ f.take 4 = M.magic ∧ f.length = told f + 12 := by
  unfold outErr at h
  split at h
  · cases h
  · split at h
    · cases h
    · split at h
      · unfold coErr at h
        split at h
        · cases h
        · split at h
          · cases h
          · rename_i h1 h2 h3 h4 h5
            exact ⟨by omega, by omega, h3, by omega⟩
      · cases h

theorem co_any (a : Option Addr) (n c : Nat) (f : List Int) (w : World) (hh : Hs w a n c f) :
    Calls Try.prog 28 #[.slice a n c] w fun e w' => e = .returned (.int .i64 (outErr f)) ∧ w' = w := by
  unfold outErr
  rw [hh.len]
  by_cases h1 : 32768 < n
  · rw [if_pos h1]; exact co_long a n c w h1
  · rw [if_neg h1]
    by_cases h2 : n < 12
    · rw [if_pos h2]; exact co_short a n c w h2
    · rw [if_neg h2]
      cases a with
      | none =>
        have := (hh.nil rfl).1
        have h3 := hh.len
        rw [this] at h3
        simp at h3
        omega
      | some x =>
        obtain ⟨b, o, rfl⟩ := hh.flat (by omega)
        by_cases h3 : f.take 4 = M.magic
        · rw [if_pos h3]; exact co_rest b o n c f w hh (by omega) (by omega) h3
        · rw [if_neg h3]; exact co_magic b o n c f w hh (by omega) (by omega) h3

/-- What is wrong of a frame, and its body. -/
def opErr (f : List Int) : Int := if outErr f = 0 then if M.sum (f.take (f.length - 4)) = M.rl (f.drop (f.length - 4)) then 0 else 14 else outErr f
def opBody (f : List Int) : List Int := if opErr f = 0 then (f.drop 8).take (f.length - 12) else []
theorem opErr_out {f : List Int} (h : outErr f ≠ 0) : opErr f = outErr f := by unfold opErr; rw [if_neg h]
theorem opErr_sum {f : List Int} (h : outErr f = 0) (h2 : M.sum (f.take (f.length - 4)) ≠ M.rl (f.drop (f.length - 4))) : opErr f = 14 := by unfold opErr; rw [if_pos h, if_neg h2]
theorem opErr_ok {f : List Int} (h : outErr f = 0) (h2 : M.sum (f.take (f.length - 4)) = M.rl (f.drop (f.length - 4))) : opErr f = 0 := by unfold opErr; rw [if_pos h, if_pos h2]
theorem opBody_bad {f : List Int} (h : opErr f ≠ 0) : opBody f = [] := by unfold opBody; rw [if_neg h]
theorem opBody_ok {f : List Int} (h : opErr f = 0) : opBody f = (f.drop 8).take (f.length - 12) := by unfold opBody; rw [if_pos h]

theorem ret_tup {k : IntKind} {v : Value} {a b : Int} (h : a = b) : Ending.returned (.tuple #[v, .int k a]) = .returned (.tuple #[v, .int k b]) := by rw [h]

set_option maxHeartbeats 400000 in
theorem open_out (a : Option Addr) (n c : Nat) (f : List Int) (w : World) (hh : Hs w a n c f) (h : outErr f ≠ 0) :
    Calls Try.prog 9 #[.slice a n c] w fun e w' => ∃ v', e = .returned (.tuple #[v', .int .i64 (opErr f)]) ∧ Own w.heap.size w' v' (opBody f) ∧ Below w.heap.size w w' := by
  have h2 : (outErr f != 0) = true := by simp [h]
  have he := opErr_out h
  rw [he, opBody_bad (by rw [he]; exact h)]
  clear he
  have HC := hide (co_any a n c f w hh)
  clear hh h
  generalize outErr f = E at *
  go_enter Try.func9, Try.ntmps9
  go_wp2_with fail
  refine HC.out.mono ?_
  rintro e w' ⟨rfl, rfl⟩
  go_wp2
  go_ret2
  exact ⟨_, rfl, Own.nil _ _, Below.refl _ _⟩

set_option maxRecDepth 100000 in
set_option maxHeartbeats 400000 in
theorem open_in (b o n c : Nat) (f : List Int) (w : World) (hh : Hs w (some ⟨b, o, none⟩) n c f) (h : outErr f = 0) :
    Calls Try.prog 9 #[.slice (some ⟨b, o, none⟩) n c] w fun e w' => ∃ v', e = .returned (.tuple #[v', .int .i64 (opErr f)]) ∧ Own w.heap.size w' v' (opBody f) ∧ Below w.heap.size w w' := by
  have hlen := hh.len
  have hcap := hh.cap
  have hr := hh.row _ rfl
  obtain ⟨r1, r2, _, _⟩ := outErr_range h
  rw [hlen] at r1 r2
  have HC := hide (co_any _ n c f w hh)
  rw [h] at HC
  have H1 := fun k => hide (sum_any ⟨b, o, none⟩ (n - 4) c f (w.drewN k) (by omega) (by unfold maxLen; omega) hr hh.byte)
  have H2 : ∀ k, Hid (Calls Try.prog 29 #[.slice (some ⟨b, o + (n - 4), none⟩) (n - (n - 4)) (c - (n - 4))] (w.drewN k) fun e w' => e = .returned (.int .u32 (M.rl (f.drop (n - 4)))) ∧ w' = w.drewN k) := by
    intro k
    have := toldSum_any ⟨b, o + (n - 4), none⟩ (c - (n - 4)) (f.drop (n - 4)) (w.drewN k) (by simp; omega) (hr.drop (n - 4)) (fun z hz => hh.byte z (List.mem_of_mem_drop hz))
    have e4 : n - (n - 4) = 4 := by omega
    generalize n - (n - 4) = m at e4
    subst e4
    exact this
  go_enter Try.func9, Try.ntmps9
  go_wp2_with fail
  refine HC.out.mono ?_
  rintro e w' ⟨rfl, rfl⟩
  go_wp2_with fail
  go_quiet ((first | (go_at_call 18; exact Calls.quiet_of_same (H1 _).out) | (go_at_call 29; exact Calls.quiet_of_same (H2 _).out)))
  by_cases hs : M.sum (f.take (n - 4)) = M.rl (f.drop (n - 4))
  · have HE := hide (opErr_ok h (by rw [hlen]; exact hs))
    have HB := hide (opBody_ok HE.out)
    have ht : ((M.sum (f.take (n - 4)) : Int) != (M.rl (f.drop (n - 4)) : Int)) = false := by rw [hs]; simp
    have HCl := hide (clone_any ⟨b, o + 8, none⟩ (n - 4 - 8) (c - 8) (f.drop 8) (w'.drewN nq) (by simp; omega) (by omega) (hr.drop 8))
    rw [hlen] at HB
    clear hs H1 H2 HC hh hr h hlen
    generalize M.sum (f.take (n - 4)) = A at *
    generalize M.rl (f.drop (n - 4)) = D at *
    go_wp2_with fail
    refine HCl.out.mono ?_
    rintro e w2 ⟨v, rfl, k1, k2, k3⟩
    go_wp2
    go_ret2
    refine ⟨v, ret_tup HE.out.symm, ?_, (below_drewN (Below.refl _ _) nq).trans k3⟩
    rw [HB.out]
    exact k1
  · have HE := hide (opErr_sum h (by rw [hlen]; exact hs))
    have HB := hide (opBody_bad (f := f) (by rw [HE.out]; decide))
    have ht : ((M.sum (f.take (n - 4)) : Int) != (M.rl (f.drop (n - 4)) : Int)) = true := by
      rw [bne_iff_ne]
      omega
    clear hs H1 H2 HC hh hr h hlen
    generalize M.sum (f.take (n - 4)) = A at *
    generalize M.rl (f.drop (n - 4)) = D at *
    go_wp2
    go_ret2
    refine ⟨_, ret_tup HE.out.symm, ?_, below_drewN (Below.refl _ _) nq⟩
    rw [HB.out]
    exact Own.nil _ _

theorem open_any (a : Option Addr) (n c : Nat) (f : List Int) (w : World) (hh : Hs w a n c f) :
    Calls Try.prog 9 #[.slice a n c] w fun e w' => ∃ v', e = .returned (.tuple #[v', .int .i64 (opErr f)]) ∧ Own w.heap.size w' v' (opBody f) ∧ Below w.heap.size w w' := by
  by_cases h : outErr f = 0
  · obtain ⟨r1, _, _, _⟩ := outErr_range h
    cases a with
    | none => rw [(hh.nil rfl).1] at r1; simp at r1
    | some x =>
      obtain ⟨b, o, rfl⟩ := hh.flat (by rw [← hh.len]; omega)
      exact open_in b o n c f w hh h
  · exact open_out a n c f w hh h
#print axioms open_any

end Go.Proofs.Ytegkkoggfjgkbaa.Wi
