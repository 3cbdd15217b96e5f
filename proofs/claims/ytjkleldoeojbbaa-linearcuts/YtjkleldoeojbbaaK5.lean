import Derived.Test.YtjkleldoeojbbaaK4
import Derived.Test.YtjkleldoeojbbaaK3
namespace Go.Proofs.Ytjkleldoeojbbaa
open Go.RowKit Go.Maps
set_option linter.unusedVariables false
set_option linter.unusedSimpArgs false

theorem eqlRz (r : Rs) (w : World) : (binOp .eql 64 (.agg #[.int .i64 r.1, .int .i64 r.2.1, .string r.2.2]) (.agg #[.int .i64 0, .int .i64 0, .string ⟨#[]⟩])).run Try.prog w = .ok (.bool (decide (r = (0, 0, ByteArray.empty)))) w := eql_res r (0, 0, ⟨#[]⟩) w
set_option maxRecDepth 100000 in
set_option maxHeartbeats 1000000 in
theorem mayBe_any (x : Kl) (hf : x.fits) (w : World) : Calls Try.prog 62 #[x.val] w fun e w' => e = .returned (.bool (mayK x)) ∧ Below w.heap.size w w' := by
  have ce := fun W => entryOf_any x W
  have cm := fun W => mayBeAsked_any x.c x.n x.o.k x.o.s x.o.v hf.ow W
  have bA := (Below.refl w.heap.size w).alloc (Nat.le_refl _) (.cells x.cs.toArray 66)
  have HX := hide (KB.new w x 66)
  have hq := fun W => eqlRz x.r W
  unfold mayK
  unfold Kl.val at *
  unfold Kl.cs at bA
  have eo : (⟨x.o.k, x.o.s, x.o.v⟩ : Opn) = x.o := rfl
  rw [eo] at cm
  obtain ⟨c, n, ⟨k, s, v⟩, b, e, r1, r2, r3⟩ := x
  dsimp only at *
  generalize askB c n ⟨k, s, v⟩ = ab at *
  generalize decide ((r1, r2, r3) = ((0, 0, ByteArray.empty) : Rs)) = rz at *
  by_cases h1 : e = -1
  · subst h1
    cases ab <;> cases h2 : decide (0 ≤ b) <;> cases rz <;> (
    go_enter Try.func62, Try.ntmps62
    go_wp2_with (first
      | (go_at_call 55; refine (ce _).mono ?_; rintro e w1 ⟨rfl, b1⟩)
      | (go_at_call 76; refine (cm _).mono ?_; rintro e w2 ⟨rfl, b2⟩; have k5 := ((HX.out.later b1).later b2).c5; have k6 := ((HX.out.later b1).later b2).c6; dsimp only at k5 k6))
    go_ret
    exact ⟨rfl, bA.trans ((b1.trans (b2.mono b1.size)).mono (by simp))⟩)
  · have h1' : decide (e = -1) = false := decide_eq_false h1
    rw [h1']
    cases ab <;> cases h2 : decide (0 ≤ b) <;> (
    go_enter Try.func62, Try.ntmps62
    go_wp2_with (first
      | (go_at_call 55; refine (ce _).mono ?_; rintro e w1 ⟨rfl, b1⟩)
      | (go_at_call 76; refine (cm _).mono ?_; rintro e w2 ⟨rfl, b2⟩; have k5 := ((HX.out.later b1).later b2).c5; have k6 := ((HX.out.later b1).later b2).c6; dsimp only at k5 k6))
    go_ret
    exact ⟨rfl, bA.trans ((b1.trans (b2.mono b1.size)).mono (by simp))⟩)

end Go.Proofs.Ytjkleldoeojbbaa
