import Derived.Test.YtegkkoggfjgkbaaGv
namespace Go.Proofs.Ytegkkoggfjgkbaa.Wi
open Go.RowKit
set_option linter.unusedVariables false

set_option maxRecDepth 100000 in
set_option maxHeartbeats 1000000 in
theorem intact_one (b : Nat) (l : List Int) (w : World) (h : GOne w b l) :
    Calls Try.prog 13 #[.pointer (some ⟨b, 0, none⟩)] w fun e w' => e = .returned (.bool true) ∧ Below w.heap.size w w' := by
  obtain ⟨lt, ⟨r, c, a, n, k, e1, e2, e3, e4⟩, ⟨r', c', a', n', k', f1, f2, f3, f4⟩, hd0, he0, hi0, hs0⟩ := h
  go_enter Try.func13, Try.ntmps13
  go_wp2_with fail
  go_loopw [3] (fun i wr => ∃ j : Nat, i = .int .i64 j ∧ j ≤ 1 ∧ Below w.heap.size w wr) (fun i _ => 1 - (intOf i).toNat)
  case atStart => exact ⟨0, rfl, Nat.zero_le _, Below.refl _ _⟩
  case round =>
    obtain ⟨j, rfl, hj, hb⟩ := hrel
    have e1 := cell_later hb e1
    have e3 := cell_later hb e3
    have f1 := cell_later hb f1
    have f3 := cell_later hb f3
    have hd := cell_later hb hd0
    have he := cell_later hb he0
    have hi := cell_later hb hi0
    have hs := cell_later hb hs0
    have e4 := e4.later hb
    have f4 := f4.later hb
    rcases (by omega : j = 0 ∨ j = 1) with rfl | rfl
    · have HH := fun j => hide (same_any a a' n k n' k' l l (wr.drewN j) (e4.later (below_drewN (Below.refl _ _) j)) (f4.later (below_drewN (Below.refl _ _) j)))
      rw [decide_eq_true (rfl : l = l)] at HH
      clear e4 f4
      go_wp2_with fail
      go_quiet ((go_at_call 15; exact Calls.quiet_of_same (HH _).out))
      go_wp2_with fail
      exact ⟨⟨1, rfl, Nat.le_refl _, below_drewN hb nq⟩, by simp [intOf]⟩
    · clear e3 f1 f3 e4 f4
      go_wp2_with fail
      go_loopw [4] (fun i wr => i = .int .i64 0 ∧ Below w.heap.size w wr) (fun i _ => 0)
      case atStart => exact ⟨rfl, hb⟩
      case round =>
        obtain ⟨rfl, hb⟩ := hrel
        have hd := cell_later hb hd0
        have he := cell_later hb he0
        have hi := cell_later hb hi0
        have hs := cell_later hb hs0
        go_wp2_with fail
        go_loopw [5] (fun i wr => i = .int .i64 0 ∧ Below w.heap.size w wr) (fun i _ => 0)
        case atStart => exact ⟨rfl, hb⟩
        case round =>
          obtain ⟨rfl, hb⟩ := hrel
          have hd := cell_later hb hd0
          have he := cell_later hb he0
          have hi := cell_later hb hi0
          have hs := cell_later hb hs0
          go_wp2_with fail
          go_loopw [6] (fun i wr => i = .int .i64 0 ∧ Below w.heap.size w wr) (fun i _ => 0)
          case atStart => exact ⟨rfl, hb⟩
          case round =>
            obtain ⟨rfl, hb⟩ := hrel
            have hd := cell_later hb hd0
            have he := cell_later hb he0
            have hi := cell_later hb hi0
            have hs := cell_later hb hs0
            go_wp2_with fail
            go_loopw [7] (fun i wr => i = .int .i64 0 ∧ Below w.heap.size w wr) (fun i _ => 0)
            case atStart => exact ⟨rfl, hb⟩
            case round =>
              obtain ⟨rfl, hb⟩ := hrel
              have hd := cell_later hb hd0
              have he := cell_later hb he0
              have hi := cell_later hb hi0
              have hs := cell_later hb hs0
              go_wp2_with fail
              go_ret
              exact ⟨rfl, hb⟩
#print axioms intact_one

end Go.Proofs.Ytegkkoggfjgkbaa.Wi
