import Derived.Test.YthhghenaflnlfaaCo
namespace Go.Proofs.Ythhghenaflnlfaa
open Go.RowKit
set_option linter.unusedVariables false

/-- What is wrong of a frame but for its sum. -/
def outErr (f : List Int) : Int := if 32768 < f.length then 11 else if f.length < 12 then 10 else if f.take 4 = M.magic then coErr f.length (told f) else 13
theorem outErr_range {f : List Int} (h : outErr f = 0) : 12 ≤ f.length ∧ f.length ≤ 32768 ∧ f.take 4 = M.magic ∧ f.length = told f + 12 := by
  unfold outErr at h
  split at h
  · cases h
  · split at h
    · cases h
    · split at h
      · unfold coErr at h
        split at h
        · cases h
        · split at h
          · cases h
          · rename_i h1 h2 h3 h4 h5
            exact ⟨by omega, by omega, h3, by omega⟩
      · cases h

/-- What is wrong of a frame, and its body. -/
def opErr (f : List Int) : Int := if outErr f = 0 then if M.sum (f.take (f.length - 4)) = M.rl (f.drop (f.length - 4)) then 0 else 14 else outErr f
def opBody (f : List Int) : List Int := if opErr f = 0 then (f.drop 8).take (f.length - 12) else []
theorem opErr_out {f : List Int} (h : outErr f ≠ 0) : opErr f = outErr f := by unfold opErr; rw [if_neg h]
theorem opErr_sum {f : List Int} (h : outErr f = 0) (h2 : M.sum (f.take (f.length - 4)) ≠ M.rl (f.drop (f.length - 4))) : opErr f = 14 := by unfold opErr; rw [if_pos h, if_neg h2]
theorem opErr_ok {f : List Int} (h : outErr f = 0) (h2 : M.sum (f.take (f.length - 4)) = M.rl (f.drop (f.length - 4))) : opErr f = 0 := by unfold opErr; rw [if_pos h, if_pos h2]
theorem opBody_bad {f : List Int} (h : opErr f ≠ 0) : opBody f = [] := by unfold opBody; rw [if_neg h]
theorem opBody_ok {f : List Int} (h : opErr f = 0) : opBody f = (f.drop 8).take (f.length - 12) := by unfold opBody; rw [if_pos h]

theorem ret_tup {k : IntKind} {v : Value} {a b : Int} (h : a = b) : Ending.returned (.tuple #[v, .int k a]) = .returned (.tuple #[v, .int k b]) := by rw [h]

end Go.Proofs.Ythhghenaflnlfaa
