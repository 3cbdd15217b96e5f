import Derived.Test.YthggipeclcbfeaaGt
namespace Go.Proofs.Ythggipeclcbfeaa
open Go.RowKit
set_option linter.unusedVariables false
set_option linter.unusedSimpArgs false

theorem within_any (k : Int) (m : Nat) (w : World) (hm : m ≤ 6) :
    Calls Try.prog 9 #[.int .i64 k, .int .i64 (m : Int)] w fun e w' => ∃ r : Nat, e = .returned (.int .i64 (r : Int)) ∧ r ≤ m ∧ w = w' := by
  have hn : 0 < (m : Int) + 1 := by omega
  have h1 := Int.lt_tmod_of_pos k hn
  have h2 := Int.tmod_lt_of_pos k hn
  have hz : ¬ (m : Int) + 1 = 0 := by omega
  have hw0 : IntKind.i64.wrap ((m : Int) + 1) = (m : Int) + 1 := by rw [IntKind.wrap_i64]; omega
  have hw1 : IntKind.i64.wrap (Int.tmod k ((m : Int) + 1)) = Int.tmod k ((m : Int) + 1) := by rw [IntKind.wrap_i64]; omega
  have hw2 : IntKind.i64.wrap (Int.tmod k ((m : Int) + 1) + m) = Int.tmod k ((m : Int) + 1) + m := by rw [IntKind.wrap_i64]; omega
  have hw3 : IntKind.i64.wrap (Int.tmod k ((m : Int) + 1) + m + 1) = Int.tmod k ((m : Int) + 1) + m + 1 := by rw [IntKind.wrap_i64]; omega
  generalize hx : Int.tmod k ((m : Int) + 1) = x at *
  by_cases hs : x < 0
  · obtain ⟨r, hr⟩ : ∃ r : Nat, x + m + 1 = (r : Int) := ⟨(x + m + 1).toNat, by omega⟩
    go_enter Try.func9, Try.ntmps9
    go_wp2
    go_ret
    exact ⟨r, by rw [← hr]; rfl, by omega, rfl⟩
  · obtain ⟨r, hr⟩ : ∃ r : Nat, x = (r : Int) := ⟨x.toNat, by omega⟩
    go_enter Try.func9, Try.ntmps9
    go_wp2
    go_ret
    exact ⟨r, by rw [← hr]; rfl, by omega, rfl⟩

end Go.Proofs.Ythggipeclcbfeaa
