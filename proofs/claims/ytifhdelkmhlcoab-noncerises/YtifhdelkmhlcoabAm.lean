import Derived.Test.YtifhdelkmhlcoabOd
import Derived.Test.YtifhdelkmhlcoabMx
namespace Go.Proofs.Ytifhdelkmhlcoab
open Go.RowKit
set_option linter.unusedVariables false

set_option maxRecDepth 100000 in
set_option maxHeartbeats 400000 in
theorem among_in (B : Nat) (v : Value) (l : List (Int × Int)) (h lo : Int) (w : World) (ho : OwnD B w v l) (hm : (h, lo) ∈ l) :
    Calls Try.prog 17 #[v, .agg #[.int .u64 h, .int .u64 lo]] w fun e w' => e = .returned (.bool true) ∧ Below w.heap.size w w' := by
  obtain ⟨a, c, rfl, hc, hc2, hn, hx⟩ := ho.form
  unfold maxLen at hc2
  cases a with
  | none => rw [(hn rfl).1] at hm; cases hm
  | some x =>
    obtain ⟨g, rfl, hg, hg2⟩ := hx x rfl
    have HC := hide (fun i d hd => ho.cell i d hd)
    clear hn hx ho
    go_enter Try.func17, Try.ntmps17
    go_wp2
    go_loopw [5] (fun i wr => ∃ k : Nat, i = .int .i64 k ∧ k ≤ l.length ∧ (h, lo) ∉ l.take k ∧ Below w.heap.size w wr ∧ Dr wr w.heap.size h lo) (fun i _ => l.length - (intOf i).toNat)
    case atStart => exact ⟨0, rfl, Nat.zero_le _, by simp, (Below.refl _ _).alloc (Nat.le_refl _) _, Dr.new w h lo _⟩
    case round =>
      obtain ⟨k, rfl, hk, hnot, bl, D⟩ := hrel
      by_cases hlt : k < l.length
      · obtain ⟨x, y, hd⟩ : ∃ x y, l[k]? = some (x, y) := ⟨_, _, List.getElem?_eq_getElem hlt⟩
        obtain ⟨e0, e1⟩ := HC.out k (x, y) hd
        have e0 := cell_later bl e0
        have e1 := cell_later bl e1
        obtain ⟨_, d0, d1⟩ := D
        have htk : l.take (k + 1) = l.take k ++ [(x, y)] := by rw [List.take_add_one, hd]; rfl
        have HTK := hide htk
        clear htk HC
        simp only at e0 e1
        by_cases f1 : x = h
        · subst f1
          by_cases f2 : y = lo
          · subst f2
            go_wp2
            go_quiet (fail)
            go_wp2
            go_ret
            exact ⟨rfl, below_drewN bl nq⟩
          · go_wp2
            go_quiet (fail)
            go_wp2
            go_round
            case rel => exact ⟨k + 1, by go_num, by omega, by rw [HTK.out]; simp [hnot, Ne.symm f2], below_drewN bl nq, ⟨by have := bl.size; simp; omega, d0, d1⟩⟩
            case measure => simp [intOf]; omega
        · go_wp2
          go_quiet (fail)
          go_wp2
          go_round
          case rel => exact ⟨k + 1, by go_num, by omega, by rw [HTK.out]; simp [hnot, Ne.symm f1], below_drewN bl nq, ⟨by have := bl.size; simp; omega, d0, d1⟩⟩
          case measure => simp [intOf]; omega
      · rw [List.take_of_length_le (by omega)] at hnot
        exact absurd hm hnot

end Go.Proofs.Ytifhdelkmhlcoab
