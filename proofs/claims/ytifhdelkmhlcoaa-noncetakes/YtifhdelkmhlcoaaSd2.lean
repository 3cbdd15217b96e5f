import Derived.Test.YtifhdelkmhlcoaaNs
namespace Go.Proofs.Ytifhdelkmhlcoaa
open Go.RowKit
set_option linter.unusedVariables false

set_option maxRecDepth 100000 in
set_option maxHeartbeats 400000 in
theorem same_draws (D : List (Int × Int)) (a1 a2 : Option Addr) (c1 c2 : Nat) (w : World) (h1 : Sl w (.slice a1 D.length c1) D a1 c1) (h2 : Sl w (.slice a2 D.length c2) D a2 c2) :
    Calls Try.prog 24 #[.slice a1 D.length c1, .slice a2 D.length c2] w fun e w' => e = .returned (.bool true) ∧ ∃ k, w' = w.drewN k := by
  have m1 := h1.max
  have k1 := h1.cap
  have k2 := h2.cap
  unfold maxLen at m1
  by_cases hD : D = []
  · subst hD
    clear h1 h2
    go_enter Try.func24, Try.ntmps24
    go_wp2
    go_loopw [5] (fun i wr => i = .int .i64 0 ∧ wr = w) (fun _ _ => 0)
    case atStart => exact ⟨rfl, rfl⟩
    case round =>
      obtain ⟨rfl, rfl⟩ := hrel
      go_wp2
      go_ret
      exact ⟨rfl, 0, rfl⟩
  · obtain ⟨q1, o1, rfl, l1⟩ : ∃ q o, a1 = some ⟨q, o, none⟩ ∧ Lie w q o D := by
      cases a1 with
      | none => exact absurd (h1.nil rfl).1 hD
      | some x =>
        rcases h1.at_ x rfl with ⟨e, _⟩ | ⟨q, o, rfl, _, hl⟩
        · exact absurd e hD
        · exact ⟨q, o, rfl, hl⟩
    obtain ⟨q2, o2, rfl, l2⟩ : ∃ q o, a2 = some ⟨q, o, none⟩ ∧ Lie w q o D := by
      cases a2 with
      | none => exact absurd (h2.nil rfl).1 hD
      | some x =>
        rcases h2.at_ x rfl with ⟨e, _⟩ | ⟨q, o, rfl, _, hl⟩
        · exact absurd e hD
        · exact ⟨q, o, rfl, hl⟩
    have L1 := hide l1
    have L2 := hide l2
    clear h1 h2 l1 l2
    generalize hn : D.length = n at *
    have HN := hide hn
    clear hn
    go_enter Try.func24, Try.ntmps24
    go_wp2
    go_loopw [5] (fun i wr => ∃ (k j : Nat), i = .int .i64 (k : Int) ∧ k ≤ n ∧ wr = w.drewN j) (fun i _ => n - (intOf i).toNat)
    case atStart => exact ⟨0, 0, rfl, Nat.zero_le _, rfl⟩
    case round =>
      obtain ⟨k, j, rfl, hk, rfl⟩ := hrel
      by_cases hlt : k < n
      · obtain ⟨x, y, hd⟩ : ∃ x y, D[k]? = some (x, y) := ⟨_, _, List.getElem?_eq_getElem (by have := HN.out; omega)⟩
        obtain ⟨e0, e1⟩ := L1.out k (x, y) hd
        obtain ⟨e2, e3⟩ := L2.out k (x, y) hd
        simp only at e0 e1 e2 e3
        clear L1 L2 hd
        go_wp2
        go_quiet (fail)
        go_wp2
        go_round
        case rel => exact ⟨k + 1, _, by go_num, by omega, rfl⟩
        case measure => simp [intOf]; omega
      · obtain rfl : k = n := by omega
        go_wp2
        go_ret
        exact ⟨rfl, _, rfl⟩

end Go.Proofs.Ytifhdelkmhlcoaa
