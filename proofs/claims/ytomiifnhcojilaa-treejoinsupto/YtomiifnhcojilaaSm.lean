import Derived.Test.YtomiifnhcojilaaCo
namespace Go.Proofs.Ytomiifnhcojilaa.Wi
open Go.RowKit
set_option linter.unusedVariables false

theorem conv_hs (w : World) (a : Option Addr) (n c : Nat) (l : List Int) (h : Hs w a n c l) :
    (convert 73 9 (.slice a n c)).run Try.prog w = .ok (.string (strOfNums l)) w := by
  cases a with
  | none =>
    rw [run_convert_bytes_nil w 73 5 Try.underlying73 Try.underlying5 n c 9 Try.underlying9, (h.nil rfl).1]
    rfl
  | some x =>
    by_cases hn : 0 < n
    · obtain ⟨b, o, rfl⟩ := h.flat hn
      exact conv_row w b o n c l h.len (h.row _ rfl)
    · obtain rfl : n = 0 := by omega
      obtain rfl : l = [] := List.eq_nil_of_length_eq_zero h.len
      rw [run_convert_bytes_string w 73 9 5 _ 0 c Try.underlying73 Try.underlying5 Try.underlying9, run_bytesToString w x 0 c [] (run_loadCells_list (P := Try.prog) w x [] (fun j v hj => by simp at hj))]
      rfl
theorem nums_eq (l m : List Int) (hl : ∀ z ∈ l, 0 ≤ z ∧ z < 256) (hm : ∀ z ∈ m, 0 ≤ z ∧ z < 256) : ((strOfNums l).toList == (strOfNums m).toList) = decide (l = m) := by
  by_cases h : l = m
  · subst h; simp
  · rw [decide_eq_false h, beq_eq_false_iff_ne]
    intro he
    apply h
    rw [ByteArray.toList_eq, ByteArray.toList_eq] at he
    have h2 : sb (strOfNums l) = sb (strOfNums m) := by unfold sb; rw [he]
    rwa [sb_nums l hl, sb_nums m hm] at h2

set_option maxHeartbeats 400000 in
theorem same_any (a a' : Option Addr) (n c n' c' : Nat) (l m : List Int) (w : World) (h : Hs w a n c l) (h' : Hs w a' n' c' m) :
    Calls Try.prog 47 #[.slice a n c, .slice a' n' c'] w fun e w' => e = .returned (.bool (decide (l = m))) ∧ w' = w := by
  have k1 := conv_hs w a n c l h
  have k2 := conv_hs w a' n' c' m h'
  have H := hide (nums_eq l m h.byte h'.byte)
  clear h h'
  go_enter Try.func47, Try.ntmps47
  go_wp2
  go_ret
  refine ⟨?_, rfl⟩
  rw [← H.out]
  rfl
#print axioms same_any

end Go.Proofs.Ytomiifnhcojilaa.Wi
