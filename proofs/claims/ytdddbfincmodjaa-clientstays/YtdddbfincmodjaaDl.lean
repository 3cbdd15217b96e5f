import Derived.Test.YtdddbfincmodjaaDk
namespace Go.Proofs.Ytdddbfincmodjaa
open Go.RowKit Go.Maps
open Classical
set_option linter.unusedVariables false
set_option linter.unusedSimpArgs false

set_option maxRecDepth 100000 in
set_option maxHeartbeats 4000000 in
theorem stays_bad (L : List En) (a : Option Addr) (c : Nat) (cm lt ct : Int) (w : World) (h : SlY yE w a L.length c L) (hf : ∀ e ∈ L, e.fits)
    (hbad : ¬ (lg L 256 = 0 ∧ 0 ≤ ct ∧ ct ≤ L.length ∧ 0 ≤ cm ∧ cm ≤ ct ∧ cm ≤ lt ∧ lt ≤ L.length)) :
    Calls Try.prog 7 #[.slice a L.length c, .int .i64 cm, .int .i64 lt, .int .i64 ct] w fun e w' => e = .returned (.bool true) ∧ Below w.heap.size w w' := by
  have hmx := h.max
  have hcp := h.cap
  unfold maxLen at hmx
  have CA := hide (fun W hW => ask_any L a c cm 0 1 W hW hf)
  have CL := hide (fun W hW => reflog_any L a c 256 W hW hf)
  have hy := ak_bad L cm
  have H := hide h
  clear h hf
  generalize akE L cm 0 1 = y at *
  generalize akV L cm 0 1 = V at *
  obtain ⟨vv, r0, r1, r2⟩ := V
  dsimp only [rV] at CA
  generalize lg L 256 = x at *
  generalize hll : (L.length : Int) = n at *
  have HLL := hide hll
  clear hll
  have hb7 : x ≠ 0 ∨ (x = 0 ∧ ct < 0) ∨ (x = 0 ∧ 0 ≤ ct ∧ n < ct) ∨ (x = 0 ∧ 0 ≤ ct ∧ ct ≤ n ∧ cm < 0) ∨ (x = 0 ∧ 0 ≤ ct ∧ ct ≤ n ∧ 0 ≤ cm ∧ ct < cm) ∨ (x = 0 ∧ 0 ≤ ct ∧ ct ≤ n ∧ 0 ≤ cm ∧ cm ≤ ct ∧ lt < cm) ∨ (x = 0 ∧ 0 ≤ ct ∧ ct ≤ n ∧ 0 ≤ cm ∧ cm ≤ ct ∧ cm ≤ lt ∧ n < lt) := by omega
  clear hbad
  rw [← HLL.out] at hb7
  clear HLL
  rcases hb7 with hx | ⟨hx, g1⟩ | ⟨hx, g1, g2⟩ | ⟨hx, g1, g2, g3⟩ | ⟨hx, g1, g2, g3, g4⟩ | ⟨hx, g1, g2, g3, g4, g5⟩ | ⟨hx, g1, g2, g3, g4, g5, g6⟩
  · have dx : (x != 0) = true := by simpa using hx
    rcases hy with hy | hy | hy
    · subst hy
      go_enter Try.func7, Try.ntmps7
      go_wp2_with fail
      refine (alive_any w).mono ?_
      rintro e w1 ⟨rfl, b1⟩
      have z1 := b1.size
      have cl := CL.out w1 (H.out.later b1)
      go_wp2_with fail
      refine cl.mono ?_
      rintro e w2 ⟨rfl, b2⟩
      have z2 := b2.size
      have bb2 := b1.trans (b2.mono z1)
      have ca := CA.out w2 (H.out.later bb2)
      clear cl b1 b2
      go_wp2_with fail
      refine ca.mono ?_
      rintro e w3 ⟨rfl, b3⟩
      have z3 := b3.size
      have bb3 := (bb2.trans (b3.mono (by omega))).alloc (by omega) (.cells #[.int .i64 r0, .int .i64 r1, .string r2] 43)
      have cl2 := CL.out _ (H.out.later bb3)
      clear ca b3 bb2
      go_wp2_with (first
        | (go_at_call 12; refine (num_any _ _).mono ?_; rintro e w4 ⟨rfl, hw4⟩; have hw4 := hw4.symm; subst hw4))
      go_ret
      exact ⟨rfl, bb3⟩
    · subst hy
      go_enter Try.func7, Try.ntmps7
      go_wp2_with fail
      refine (alive_any w).mono ?_
      rintro e w1 ⟨rfl, b1⟩
      have z1 := b1.size
      have cl := CL.out w1 (H.out.later b1)
      go_wp2_with fail
      refine cl.mono ?_
      rintro e w2 ⟨rfl, b2⟩
      have z2 := b2.size
      have bb2 := b1.trans (b2.mono z1)
      have ca := CA.out w2 (H.out.later bb2)
      clear cl b1 b2
      go_wp2_with fail
      refine ca.mono ?_
      rintro e w3 ⟨rfl, b3⟩
      have z3 := b3.size
      have bb3 := (bb2.trans (b3.mono (by omega))).alloc (by omega) (.cells #[.int .i64 r0, .int .i64 r1, .string r2] 43)
      have cl2 := CL.out _ (H.out.later bb3)
      clear ca b3 bb2
      go_wp2_with (first
        | (go_at_call 12; refine (num_any _ _).mono ?_; rintro e w4 ⟨rfl, hw4⟩; have hw4 := hw4.symm; subst hw4))
      go_ret
      exact ⟨rfl, bb3⟩
    · obtain ⟨_, hy1, hy2⟩ := hy
      have e1 : (y == 0) = false := by simpa using hy1
      have e2 : (y == 50) = false := by simpa using hy2
      go_enter Try.func7, Try.ntmps7
      go_wp2_with fail
      refine (alive_any w).mono ?_
      rintro e w1 ⟨rfl, b1⟩
      have z1 := b1.size
      have cl := CL.out w1 (H.out.later b1)
      go_wp2_with fail
      refine cl.mono ?_
      rintro e w2 ⟨rfl, b2⟩
      have z2 := b2.size
      have bb2 := b1.trans (b2.mono z1)
      have ca := CA.out w2 (H.out.later bb2)
      clear cl b1 b2
      go_wp2_with fail
      refine ca.mono ?_
      rintro e w3 ⟨rfl, b3⟩
      have z3 := b3.size
      have bb3 := (bb2.trans (b3.mono (by omega))).alloc (by omega) (.cells #[.int .i64 r0, .int .i64 r1, .string r2] 43)
      have cl2 := CL.out _ (H.out.later bb3)
      clear ca b3 bb2
      go_wp2_with (first
        | (go_at_call 12; refine (num_any _ _).mono ?_; rintro e w4 ⟨rfl, hw4⟩; have hw4 := hw4.symm; subst hw4)
        | (go_at_call 20; refine cl2.mono ?_; rintro e w5 ⟨rfl, b5⟩))
      go_ret
      exact ⟨rfl, bb3.trans (b5.mono (by simp; omega))⟩
  · have d1 : decide (ct < 0) = true := by simpa using g1
    subst hx
    rcases hy with hy | hy | hy
    · subst hy
      go_enter Try.func7, Try.ntmps7
      go_wp2_with fail
      refine (alive_any w).mono ?_
      rintro e w1 ⟨rfl, b1⟩
      have z1 := b1.size
      have cl := CL.out w1 (H.out.later b1)
      go_wp2_with fail
      refine cl.mono ?_
      rintro e w2 ⟨rfl, b2⟩
      have z2 := b2.size
      have bb2 := b1.trans (b2.mono z1)
      have ca := CA.out w2 (H.out.later bb2)
      clear cl b1 b2
      go_wp2_with fail
      refine ca.mono ?_
      rintro e w3 ⟨rfl, b3⟩
      have z3 := b3.size
      have bb3 := (bb2.trans (b3.mono (by omega))).alloc (by omega) (.cells #[.int .i64 r0, .int .i64 r1, .string r2] 43)
      have cl2 := CL.out _ (H.out.later bb3)
      clear ca b3 bb2
      go_wp2_with (first
        | (go_at_call 12; refine (num_any _ _).mono ?_; rintro e w4 ⟨rfl, hw4⟩; have hw4 := hw4.symm; subst hw4))
      go_ret
      exact ⟨rfl, bb3⟩
    · subst hy
      go_enter Try.func7, Try.ntmps7
      go_wp2_with fail
      refine (alive_any w).mono ?_
      rintro e w1 ⟨rfl, b1⟩
      have z1 := b1.size
      have cl := CL.out w1 (H.out.later b1)
      go_wp2_with fail
      refine cl.mono ?_
      rintro e w2 ⟨rfl, b2⟩
      have z2 := b2.size
      have bb2 := b1.trans (b2.mono z1)
      have ca := CA.out w2 (H.out.later bb2)
      clear cl b1 b2
      go_wp2_with fail
      refine ca.mono ?_
      rintro e w3 ⟨rfl, b3⟩
      have z3 := b3.size
      have bb3 := (bb2.trans (b3.mono (by omega))).alloc (by omega) (.cells #[.int .i64 r0, .int .i64 r1, .string r2] 43)
      have cl2 := CL.out _ (H.out.later bb3)
      clear ca b3 bb2
      go_wp2_with (first
        | (go_at_call 12; refine (num_any _ _).mono ?_; rintro e w4 ⟨rfl, hw4⟩; have hw4 := hw4.symm; subst hw4))
      go_ret
      exact ⟨rfl, bb3⟩
    · exact absurd rfl hy.1
  · have d2 : decide ((L.length : Int) < ct) = true := by simpa using g2
    subst hx
    rcases hy with hy | hy | hy
    · subst hy
      go_enter Try.func7, Try.ntmps7
      go_wp2_with fail
      refine (alive_any w).mono ?_
      rintro e w1 ⟨rfl, b1⟩
      have z1 := b1.size
      have cl := CL.out w1 (H.out.later b1)
      go_wp2_with fail
      refine cl.mono ?_
      rintro e w2 ⟨rfl, b2⟩
      have z2 := b2.size
      have bb2 := b1.trans (b2.mono z1)
      have ca := CA.out w2 (H.out.later bb2)
      clear cl b1 b2
      go_wp2_with fail
      refine ca.mono ?_
      rintro e w3 ⟨rfl, b3⟩
      have z3 := b3.size
      have bb3 := (bb2.trans (b3.mono (by omega))).alloc (by omega) (.cells #[.int .i64 r0, .int .i64 r1, .string r2] 43)
      have cl2 := CL.out _ (H.out.later bb3)
      clear ca b3 bb2
      go_wp2_with (first
        | (go_at_call 12; refine (num_any _ _).mono ?_; rintro e w4 ⟨rfl, hw4⟩; have hw4 := hw4.symm; subst hw4))
      go_ret
      exact ⟨rfl, bb3⟩
    · subst hy
      go_enter Try.func7, Try.ntmps7
      go_wp2_with fail
      refine (alive_any w).mono ?_
      rintro e w1 ⟨rfl, b1⟩
      have z1 := b1.size
      have cl := CL.out w1 (H.out.later b1)
      go_wp2_with fail
      refine cl.mono ?_
      rintro e w2 ⟨rfl, b2⟩
      have z2 := b2.size
      have bb2 := b1.trans (b2.mono z1)
      have ca := CA.out w2 (H.out.later bb2)
      clear cl b1 b2
      go_wp2_with fail
      refine ca.mono ?_
      rintro e w3 ⟨rfl, b3⟩
      have z3 := b3.size
      have bb3 := (bb2.trans (b3.mono (by omega))).alloc (by omega) (.cells #[.int .i64 r0, .int .i64 r1, .string r2] 43)
      have cl2 := CL.out _ (H.out.later bb3)
      clear ca b3 bb2
      go_wp2_with (first
        | (go_at_call 12; refine (num_any _ _).mono ?_; rintro e w4 ⟨rfl, hw4⟩; have hw4 := hw4.symm; subst hw4))
      go_ret
      exact ⟨rfl, bb3⟩
    · exact absurd rfl hy.1
  · have d3 : decide (cm < 0) = true := by simpa using g3
    subst hx
    rcases hy with hy | hy | hy
    · subst hy
      go_enter Try.func7, Try.ntmps7
      go_wp2_with fail
      refine (alive_any w).mono ?_
      rintro e w1 ⟨rfl, b1⟩
      have z1 := b1.size
      have cl := CL.out w1 (H.out.later b1)
      go_wp2_with fail
      refine cl.mono ?_
      rintro e w2 ⟨rfl, b2⟩
      have z2 := b2.size
      have bb2 := b1.trans (b2.mono z1)
      have ca := CA.out w2 (H.out.later bb2)
      clear cl b1 b2
      go_wp2_with fail
      refine ca.mono ?_
      rintro e w3 ⟨rfl, b3⟩
      have z3 := b3.size
      have bb3 := (bb2.trans (b3.mono (by omega))).alloc (by omega) (.cells #[.int .i64 r0, .int .i64 r1, .string r2] 43)
      have cl2 := CL.out _ (H.out.later bb3)
      clear ca b3 bb2
      go_wp2_with (first
        | (go_at_call 12; refine (num_any _ _).mono ?_; rintro e w4 ⟨rfl, hw4⟩; have hw4 := hw4.symm; subst hw4))
      go_ret
      exact ⟨rfl, bb3⟩
    · subst hy
      go_enter Try.func7, Try.ntmps7
      go_wp2_with fail
      refine (alive_any w).mono ?_
      rintro e w1 ⟨rfl, b1⟩
      have z1 := b1.size
      have cl := CL.out w1 (H.out.later b1)
      go_wp2_with fail
      refine cl.mono ?_
      rintro e w2 ⟨rfl, b2⟩
      have z2 := b2.size
      have bb2 := b1.trans (b2.mono z1)
      have ca := CA.out w2 (H.out.later bb2)
      clear cl b1 b2
      go_wp2_with fail
      refine ca.mono ?_
      rintro e w3 ⟨rfl, b3⟩
      have z3 := b3.size
      have bb3 := (bb2.trans (b3.mono (by omega))).alloc (by omega) (.cells #[.int .i64 r0, .int .i64 r1, .string r2] 43)
      have cl2 := CL.out _ (H.out.later bb3)
      clear ca b3 bb2
      go_wp2_with (first
        | (go_at_call 12; refine (num_any _ _).mono ?_; rintro e w4 ⟨rfl, hw4⟩; have hw4 := hw4.symm; subst hw4))
      go_ret
      exact ⟨rfl, bb3⟩
    · exact absurd rfl hy.1
  · have d4 : decide (ct < cm) = true := by simpa using g4
    subst hx
    rcases hy with hy | hy | hy
    · subst hy
      go_enter Try.func7, Try.ntmps7
      go_wp2_with fail
      refine (alive_any w).mono ?_
      rintro e w1 ⟨rfl, b1⟩
      have z1 := b1.size
      have cl := CL.out w1 (H.out.later b1)
      go_wp2_with fail
      refine cl.mono ?_
      rintro e w2 ⟨rfl, b2⟩
      have z2 := b2.size
      have bb2 := b1.trans (b2.mono z1)
      have ca := CA.out w2 (H.out.later bb2)
      clear cl b1 b2
      go_wp2_with fail
      refine ca.mono ?_
      rintro e w3 ⟨rfl, b3⟩
      have z3 := b3.size
      have bb3 := (bb2.trans (b3.mono (by omega))).alloc (by omega) (.cells #[.int .i64 r0, .int .i64 r1, .string r2] 43)
      have cl2 := CL.out _ (H.out.later bb3)
      clear ca b3 bb2
      go_wp2_with (first
        | (go_at_call 12; refine (num_any _ _).mono ?_; rintro e w4 ⟨rfl, hw4⟩; have hw4 := hw4.symm; subst hw4))
      go_ret
      exact ⟨rfl, bb3⟩
    · subst hy
      go_enter Try.func7, Try.ntmps7
      go_wp2_with fail
      refine (alive_any w).mono ?_
      rintro e w1 ⟨rfl, b1⟩
      have z1 := b1.size
      have cl := CL.out w1 (H.out.later b1)
      go_wp2_with fail
      refine cl.mono ?_
      rintro e w2 ⟨rfl, b2⟩
      have z2 := b2.size
      have bb2 := b1.trans (b2.mono z1)
      have ca := CA.out w2 (H.out.later bb2)
      clear cl b1 b2
      go_wp2_with fail
      refine ca.mono ?_
      rintro e w3 ⟨rfl, b3⟩
      have z3 := b3.size
      have bb3 := (bb2.trans (b3.mono (by omega))).alloc (by omega) (.cells #[.int .i64 r0, .int .i64 r1, .string r2] 43)
      have cl2 := CL.out _ (H.out.later bb3)
      clear ca b3 bb2
      go_wp2_with (first
        | (go_at_call 12; refine (num_any _ _).mono ?_; rintro e w4 ⟨rfl, hw4⟩; have hw4 := hw4.symm; subst hw4))
      go_ret
      exact ⟨rfl, bb3⟩
    · exact absurd rfl hy.1
  · have d5 : decide (lt < cm) = true := by simpa using g5
    subst hx
    rcases hy with hy | hy | hy
    · subst hy
      go_enter Try.func7, Try.ntmps7
      go_wp2_with fail
      refine (alive_any w).mono ?_
      rintro e w1 ⟨rfl, b1⟩
      have z1 := b1.size
      have cl := CL.out w1 (H.out.later b1)
      go_wp2_with fail
      refine cl.mono ?_
      rintro e w2 ⟨rfl, b2⟩
      have z2 := b2.size
      have bb2 := b1.trans (b2.mono z1)
      have ca := CA.out w2 (H.out.later bb2)
      clear cl b1 b2
      go_wp2_with fail
      refine ca.mono ?_
      rintro e w3 ⟨rfl, b3⟩
      have z3 := b3.size
      have bb3 := (bb2.trans (b3.mono (by omega))).alloc (by omega) (.cells #[.int .i64 r0, .int .i64 r1, .string r2] 43)
      have cl2 := CL.out _ (H.out.later bb3)
      clear ca b3 bb2
      go_wp2_with (first
        | (go_at_call 12; refine (num_any _ _).mono ?_; rintro e w4 ⟨rfl, hw4⟩; have hw4 := hw4.symm; subst hw4))
      go_ret
      exact ⟨rfl, bb3⟩
    · subst hy
      go_enter Try.func7, Try.ntmps7
      go_wp2_with fail
      refine (alive_any w).mono ?_
      rintro e w1 ⟨rfl, b1⟩
      have z1 := b1.size
      have cl := CL.out w1 (H.out.later b1)
      go_wp2_with fail
      refine cl.mono ?_
      rintro e w2 ⟨rfl, b2⟩
      have z2 := b2.size
      have bb2 := b1.trans (b2.mono z1)
      have ca := CA.out w2 (H.out.later bb2)
      clear cl b1 b2
      go_wp2_with fail
      refine ca.mono ?_
      rintro e w3 ⟨rfl, b3⟩
      have z3 := b3.size
      have bb3 := (bb2.trans (b3.mono (by omega))).alloc (by omega) (.cells #[.int .i64 r0, .int .i64 r1, .string r2] 43)
      have cl2 := CL.out _ (H.out.later bb3)
      clear ca b3 bb2
      go_wp2_with (first
        | (go_at_call 12; refine (num_any _ _).mono ?_; rintro e w4 ⟨rfl, hw4⟩; have hw4 := hw4.symm; subst hw4))
      go_ret
      exact ⟨rfl, bb3⟩
    · exact absurd rfl hy.1
  · have d6 : decide ((L.length : Int) < lt) = true := by simpa using g6
    subst hx
    rcases hy with hy | hy | hy
    · subst hy
      go_enter Try.func7, Try.ntmps7
      go_wp2_with fail
      refine (alive_any w).mono ?_
      rintro e w1 ⟨rfl, b1⟩
      have z1 := b1.size
      have cl := CL.out w1 (H.out.later b1)
      go_wp2_with fail
      refine cl.mono ?_
      rintro e w2 ⟨rfl, b2⟩
      have z2 := b2.size
      have bb2 := b1.trans (b2.mono z1)
      have ca := CA.out w2 (H.out.later bb2)
      clear cl b1 b2
      go_wp2_with fail
      refine ca.mono ?_
      rintro e w3 ⟨rfl, b3⟩
      have z3 := b3.size
      have bb3 := (bb2.trans (b3.mono (by omega))).alloc (by omega) (.cells #[.int .i64 r0, .int .i64 r1, .string r2] 43)
      have cl2 := CL.out _ (H.out.later bb3)
      clear ca b3 bb2
      go_wp2_with (first
        | (go_at_call 12; refine (num_any _ _).mono ?_; rintro e w4 ⟨rfl, hw4⟩; have hw4 := hw4.symm; subst hw4))
      go_ret
      exact ⟨rfl, bb3⟩
    · subst hy
      go_enter Try.func7, Try.ntmps7
      go_wp2_with fail
      refine (alive_any w).mono ?_
      rintro e w1 ⟨rfl, b1⟩
      have z1 := b1.size
      have cl := CL.out w1 (H.out.later b1)
      go_wp2_with fail
      refine cl.mono ?_
      rintro e w2 ⟨rfl, b2⟩
      have z2 := b2.size
      have bb2 := b1.trans (b2.mono z1)
      have ca := CA.out w2 (H.out.later bb2)
      clear cl b1 b2
      go_wp2_with fail
      refine ca.mono ?_
      rintro e w3 ⟨rfl, b3⟩
      have z3 := b3.size
      have bb3 := (bb2.trans (b3.mono (by omega))).alloc (by omega) (.cells #[.int .i64 r0, .int .i64 r1, .string r2] 43)
      have cl2 := CL.out _ (H.out.later bb3)
      clear ca b3 bb2
      go_wp2_with (first
        | (go_at_call 12; refine (num_any _ _).mono ?_; rintro e w4 ⟨rfl, hw4⟩; have hw4 := hw4.symm; subst hw4))
      go_ret
      exact ⟨rfl, bb3⟩
    · exact absurd rfl hy.1

end Go.Proofs.Ytdddbfincmodjaa
