import Derived.Test.YtacalgpdhgpmbaaMs
namespace Go.Proofs.Ytacalgpdhgpmbaa
open Go.RowKit
set_option linter.unusedVariables false

set_option maxRecDepth 100000 in
set_option maxHeartbeats 1000000 in
theorem nil_walk (w : World) : Calls Try.prog 13 #[] w fun e w' => e = .returned (.bool true) ∧ Below w.heap.size w w' := by
  have q1 : ∀ W, (binOp .eql 53 (.agg #[.int .i64 0, .int .i64 0, .string ⟨#[]⟩]) (.agg #[.int .i64 0, .int .i64 0, .string ⟨#[]⟩])).run Try.prog W = .ok (.bool true) W := fun W => by simpa using eql_res (0, 0, ⟨#[]⟩) (0, 0, ⟨#[]⟩) W
  go_enter Try.func13, Try.ntmps13
  go_wp2_with fail
  refine (get_nil 0 w).mono ?_
  rintro e w1 ⟨rfl, rfl⟩
  go_wp2_with fail
  refine (zeroes_any _).mono ?_
  rintro e w2 ⟨rfl, b2⟩
  have hA : ∀ v, Below (w1.heap.size + 1) (w1.alloc (Obj.cells #[.int .i64 4, .int .i64 0, .string ⟨#[]⟩] 23)) v → Below w1.heap.size w1 v ∧ v.cell? ⟨w1.heap.size, 0, none⟩ = some (.int .i64 4) ∧ v.cell? ⟨w1.heap.size, 1, none⟩ = some (.int .i64 0) ∧ v.cell? ⟨w1.heap.size, 2, none⟩ = some (.string ⟨#[]⟩) := fun v b =>
    ⟨((Below.refl _ w1).alloc (Nat.le_refl _) _).trans (b.mono (by omega)), (b.cell (p := ⟨w1.heap.size, 0, none⟩) (by dsimp only; omega)).trans (by go_simp), (b.cell (p := ⟨w1.heap.size, 1, none⟩) (by dsimp only; omega)).trans (by go_simp), (b.cell (p := ⟨w1.heap.size, 2, none⟩) (by dsimp only; omega)).trans (by go_simp)⟩
  rw [World.size_alloc] at b2
  have hAh := hide hA
  clear hA
  have hz : w1.heap.size + 1 ≤ (w1.alloc (Obj.cells #[.int .i64 4, .int .i64 0, .string ⟨#[]⟩] 23)).heap.size := by simp
  generalize w1.alloc _ = w0 at *
  go_wp2_with fail
  refine (works_any _).mono ?_
  rintro e w3 ⟨rfl, b3⟩
  have B3 := b2.trans (b3.mono (Nat.le_trans hz b2.size))
  clear b2 b3
  obtain ⟨_, c0, c1, c2⟩ := hAh.out w3 B3
  go_wp2_with fail
  refine (do_nil 4 0 _ w3).mono ?_
  rintro e w4 ⟨rfl, b4⟩
  have B4 := B3.trans (b4.mono (Nat.le_trans hz B3.size))
  clear B3 b4 c0 c1 c2
  obtain ⟨_, c0, c1, c2⟩ := hAh.out w4 B4
  go_wp2_with fail
  refine (would_nil 4 0 _ w4).mono ?_
  rintro e w5 ⟨rfl, b5⟩
  have B5 := B4.trans (b5.mono (Nat.le_trans hz B4.size))
  clear B4 b5 c0 c1 c2
  obtain ⟨B, _⟩ := hAh.out w5 B5
  go_wp2_with (first
    | (go_at_call 30; refine (len_nil _).mono ?_; rintro e v ⟨rfl, rfl⟩)
    | (go_at_call 31; refine (cells_nil _).mono ?_; rintro e v ⟨rfl, rfl⟩)
    | (go_at_call 20; refine (clone_nil _).mono ?_; rintro e v ⟨rfl, rfl⟩))
  go_ret
  exact ⟨rfl, B⟩

end Go.Proofs.Ytacalgpdhgpmbaa
