import Derived.Test.YtolnkoneilipeaaDd
namespace Go.Proofs.Ytolnkoneilipeaa
open Go.RowKit Go.Maps
open Classical
set_option linter.unusedVariables false
set_option linter.unusedSimpArgs false

set_option maxRecDepth 100000 in
set_option maxHeartbeats 1000000 in
theorem sameents_any (D : List En) (a1 a2 : Option Addr) (c1 c2 : Nat) (w : World) (h1 : SlY yE w a1 D.length c1 D) (h2 : SlY yE w a2 D.length c2 D) :
    Calls Try.prog 10 #[.slice a1 D.length c1, .slice a2 D.length c2] w fun e w' => e = .returned (.bool true) ∧ ∃ n, w' = w.drewN n := by
  have m1 := h1.max
  have m2 := h2.max
  have p1 := h1.cap
  have p2 := h2.cap
  unfold maxLen at m1 m2
  have H1 := hide h1
  have H2 := hide h2
  clear h1 h2
  go_enter Try.func10, Try.ntmps10
  go_wp2
  go_loopw [5] (fun i wr => ∃ k n : Nat, i = .int .i64 (k : Int) ∧ k ≤ D.length ∧ wr = w.drewN n) (fun i _ => D.length - (intOf i).toNat)
  case atStart => exact ⟨0, 0, rfl, Nat.zero_le _, rfl⟩
  case round =>
    obtain ⟨k, n, rfl, hk, rfl⟩ := hrel
    by_cases hlt : k < D.length
    · have hd : D[k]? = some D[k] := List.getElem?_eq_getElem hlt
      obtain ⟨q1, o1, rfl, _, e0, e1, e2, e3, e4⟩ := H1.out.en hd
      obtain ⟨q2, o2, rfl, _, f0, f1, f2, f3, f4⟩ := H2.out.en hd
      generalize D[k] = d at *
      obtain ⟨C, N, ⟨ok, os, ov⟩⟩ := d
      dsimp only at e0 e1 e2 e3 e4 f0 f1 f2 f3 f4
      clear hd
      go_wp2
      go_quiet (fail)
      go_wp2
      go_round
      case rel => exact ⟨k + 1, n + nq, by go_num, by omega, by simp⟩
      case measure => simp [intOf]; omega
    · obtain rfl : k = D.length := by omega
      go_wp2
      go_ret
      exact ⟨rfl, n, rfl⟩
end Go.Proofs.Ytolnkoneilipeaa
