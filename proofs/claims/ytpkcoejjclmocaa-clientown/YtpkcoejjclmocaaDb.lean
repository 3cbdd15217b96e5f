import Derived.Test.YtpkcoejjclmocaaDa
namespace Go.Proofs.Ytpkcoejjclmocaa
open Go.RowKit Go.Maps
set_option linter.unusedVariables false
set_option linter.unusedSimpArgs false

set_option maxRecDepth 100000 in
set_option maxHeartbeats 4000000 in
theorem refask_any (L : List En) (a : Option Addr) (c : Nat) (k C N : Int) (w : World) (h : SlY yE w a L.length c L) (hf : ∀ e ∈ L, e.fits) :
    Calls Try.prog 17 #[.slice a L.length c, .int .i64 k, .int .i64 C, .int .i64 N] w fun e w' => e = .returned (.tuple #[.int .i64 (akV L k C N).1, rV (akV L k C N).2, .int .i64 (akE L k C N)]) ∧ Below w.heap.size w w' := by
  have bB := (Below.refl w.heap.size w).alloc (Nat.le_refl _) (.cells #[.int .i64 0, .int .i64 0, .string ByteArray.empty] 43)
  have ck := within_any L a c k _ (h.later bB) hf
  have hmx := h.max
  have hcp := h.cap
  unfold maxLen at hmx
  have H := hide (h.later bB)
  have HF := hide hf
  clear h hf
  by_cases hx : ckB L 0 k = 0
  · obtain ⟨h1, _, h3, h4⟩ := ckB_zero hx
    have hl : L.length ≤ 256 := by have := (lg_zero h1).1; omega
    rw [hx] at ck
    by_cases g1 : C < 0
    · have hE : Hid (akE L k C N = 62) := by show _ = _; simp [akE, hx, ckR, g1]
      have hVV : Hid (akV L k C N = (0, zR)) := by show _ = _; unfold akV; rw [hE.out]; simp
      have d1 : decide (C < 0) = true := by simpa using g1
      clear hx h1 h3 h4
      go_enter Try.func17, Try.ntmps17
      go_wp2_with (go_at_call 29; refine ck.mono ?_; rintro e w1 ⟨rfl, b1⟩; have hz := b1.size; obtain ⟨⟨q0, q1, q2⟩, p0, p1, p2⟩ := box3 b1 (by simp); have bb1 : Below w.heap.size w w1 := bB.trans (b1.mono (by simp)))
      refine bodyPost_ret (v := .tuple #[.int .i64 0, rV zR, .int .i64 62]) (by simp [results, Try.results17, go_sem, rV, zR, *] <;> rfl) rfl ⟨by rw [hVV.out, hE.out], ?_⟩
      exact ((bb1.setCell (p := ⟨w.heap.size, 0, none⟩) (Nat.le_refl _) _).setCell (p := ⟨w.heap.size, 1, none⟩) (Nat.le_refl _) _).setCell (p := ⟨w.heap.size, 2, none⟩) (Nat.le_refl _) _
    · by_cases g2 : 16 ≤ C
      · have hE : Hid (akE L k C N = 62) := by show _ = _; simp [akE, hx, ckR, g2]
        have hVV : Hid (akV L k C N = (0, zR)) := by show _ = _; unfold akV; rw [hE.out]; simp
        clear hx h1 h3 h4
        go_enter Try.func17, Try.ntmps17
        go_wp2_with (go_at_call 29; refine ck.mono ?_; rintro e w1 ⟨rfl, b1⟩; have hz := b1.size; obtain ⟨⟨q0, q1, q2⟩, p0, p1, p2⟩ := box3 b1 (by simp); have bb1 : Below w.heap.size w w1 := bB.trans (b1.mono (by simp)))
        refine bodyPost_ret (v := .tuple #[.int .i64 0, rV zR, .int .i64 62]) (by simp [results, Try.results17, go_sem, rV, zR, *] <;> rfl) rfl ⟨by rw [hVV.out, hE.out], ?_⟩
        exact ((bb1.setCell (p := ⟨w.heap.size, 0, none⟩) (Nat.le_refl _) _).setCell (p := ⟨w.heap.size, 1, none⟩) (Nat.le_refl _) _).setCell (p := ⟨w.heap.size, 2, none⟩) (Nat.le_refl _) _
      · by_cases g3 : N < 1
        · have hE : Hid (akE L k C N = 63) := by show _ = _; simp [akE, hx, ckR, g1, g2, g3]
          have hVV : Hid (akV L k C N = (0, zR)) := by show _ = _; unfold akV; rw [hE.out]; simp
          clear hx h1 h3 h4
          go_enter Try.func17, Try.ntmps17
          go_wp2_with (go_at_call 29; refine ck.mono ?_; rintro e w1 ⟨rfl, b1⟩; have hz := b1.size; obtain ⟨⟨q0, q1, q2⟩, p0, p1, p2⟩ := box3 b1 (by simp); have bb1 : Below w.heap.size w w1 := bB.trans (b1.mono (by simp)))
          refine bodyPost_ret (v := .tuple #[.int .i64 0, rV zR, .int .i64 63]) (by simp [results, Try.results17, go_sem, rV, zR, *] <;> rfl) rfl ⟨by rw [hVV.out, hE.out], ?_⟩
          exact ((bb1.setCell (p := ⟨w.heap.size, 0, none⟩) (Nat.le_refl _) _).setCell (p := ⟨w.heap.size, 1, none⟩) (Nat.le_refl _) _).setCell (p := ⟨w.heap.size, 2, none⟩) (Nat.le_refl _) _
        · have hE : Hid (akE L k C N = 0) := by show _ = _; simp [akE, hx, ckR, g1, g2, g3]
          have hV : Hid (akV L k C N = vd (lo (rws L k.toNat) C) N) := by show _ = _; unfold akV; rw [hE.out]; simp
          obtain ⟨n, rfl⟩ : ∃ n : Nat, k = (n : Int) := ⟨k.toNat, by omega⟩
          rw [Int.toNat_natCast] at hV
          have hn : n ≤ L.length := by omega
          clear hx h1 h3 h4
          cases hlp : lp L C with
          | zero =>
            have hVV : Hid (akV L (n : Int) C N = (1, zR)) := by show _ = _; rw [hV.out, lo_noplace hlp]; rfl
            clear hV
            go_enter Try.func17, Try.ntmps17
            go_wp2_with (first
              | (go_at_call 29; refine ck.mono ?_; rintro e w1 ⟨rfl, b1⟩; have hz := b1.size; obtain ⟨⟨q0, q1, q2⟩, p0, p1, p2⟩ := box3 b1 (by simp); have bb1 : Below w.heap.size w w1 := bB.trans (b1.mono (by simp)); have cl := fun hs => reflast_any L a c C w1 hs)
              | (go_at_call 30; rw [hlp] at cl; refine (cl (H.out.later b1)).mono ?_; rintro e w5 ⟨rfl, hw5⟩; subst hw5))
            refine bodyPost_ret (v := .tuple #[.int .i64 1, rV zR, .int .i64 0]) (by simp [results, Try.results17, go_sem, rV, zR, *] <;> rfl) rfl ⟨by rw [hVV.out, hE.out], ?_⟩
            exact ((bb1.setCell (p := ⟨w.heap.size, 0, none⟩) (Nat.le_refl _) _).setCell (p := ⟨w.heap.size, 1, none⟩) (Nat.le_refl _) _).setCell (p := ⟨w.heap.size, 2, none⟩) (Nat.le_refl _) _
          | succ i =>
            obtain ⟨e, he, hlo⟩ := lo_place (n := n) hlp
            have hi := (List.getElem?_eq_some_iff.1 he).1
            have hi0 : (0 : Int) ≤ (i : Int) := by omega
            have hi1 : (i : Int) < (L.length : Int) := by omega
            have hi2 : (i : Int) ≤ (L.length : Int) := by omega
            have hw2 : IntKind.i64.wrap (i : Int) = (i : Int) := by rw [IntKind.wrap_i64]; omega
            have hw3 : (i : Int) + 1 - 1 = (i : Int) := by omega
            have hne0 : ((i : Int) + 1 == 0) = false := by simp; omega
            have hne1 : ¬ (i : Int) + 1 = 0 := by omega
            have hcast : ((i + 1 : Nat) : Int) = (i : Int) + 1 := by omega
            rw [hlo] at hV
            have hV2 : Hid (akV L (n : Int) C N = if e.n < N then (1, zR) else if N < e.n then (4, zR) else if i < n then (3, (rsL L).getD i zR) else (2, zR)) := by
              show _ = _
              rw [hV.out]
              unfold vd rwA
              by_cases z1 : e.n < N
              · simp [z1]
              · by_cases z2 : N < e.n
                · simp [z1, z2]
                · by_cases z3 : i < n <;> simp [z1, z2, z3]
            have HE := hide he
            clear hV hlo
            by_cases hn1 : e.n < N
            · have hVV : Hid (akV L (n : Int) C N = (1, zR)) := by show _ = _; rw [hV2.out]; simp [hn1]
              clear hV2
              go_enter Try.func17, Try.ntmps17
              go_wp2_with (first
                | (go_at_call 29; refine ck.mono ?_; rintro e w1 ⟨rfl, b1⟩; have hz := b1.size; obtain ⟨⟨q0, q1, q2⟩, p0, p1, p2⟩ := box3 b1 (by simp); have bb1 : Below w.heap.size w w1 := bB.trans (b1.mono (by simp)); have cl := fun hs => reflast_any L a c C w1 hs)
                | (go_at_call 30; rw [hlp] at cl; refine (cl (H.out.later b1)).mono ?_; rintro e w5 ⟨rfl, hw5⟩; subst hw5; rw [hcast]; obtain ⟨q, o, ea, hq, c0, c1, c2, c3, c4⟩ := (H.out.later b1).en HE.out; cases ea))
              refine bodyPost_ret (v := .tuple #[.int .i64 1, rV zR, .int .i64 0]) (by simp [results, Try.results17, go_sem, rV, zR, *] <;> rfl) rfl ⟨by rw [hVV.out, hE.out], ?_⟩
              exact ((bb1.setCell (p := ⟨w.heap.size, 0, none⟩) (Nat.le_refl _) _).setCell (p := ⟨w.heap.size, 1, none⟩) (Nat.le_refl _) _).setCell (p := ⟨w.heap.size, 2, none⟩) (Nat.le_refl _) _
            · by_cases hn2 : N < e.n
              · have hVV : Hid (akV L (n : Int) C N = (4, zR)) := by show _ = _; rw [hV2.out]; simp [hn1, hn2]
                clear hV2
                go_enter Try.func17, Try.ntmps17
                go_wp2_with (first
                  | (go_at_call 29; refine ck.mono ?_; rintro e w1 ⟨rfl, b1⟩; have hz := b1.size; obtain ⟨⟨q0, q1, q2⟩, p0, p1, p2⟩ := box3 b1 (by simp); have bb1 : Below w.heap.size w w1 := bB.trans (b1.mono (by simp)); have cl := fun hs => reflast_any L a c C w1 hs)
                  | (go_at_call 30; rw [hlp] at cl; refine (cl (H.out.later b1)).mono ?_; rintro e w5 ⟨rfl, hw5⟩; subst hw5; rw [hcast]; obtain ⟨q, o, ea, hq, c0, c1, c2, c3, c4⟩ := (H.out.later b1).en HE.out; cases ea))
                refine bodyPost_ret (v := .tuple #[.int .i64 4, rV zR, .int .i64 0]) (by simp [results, Try.results17, go_sem, rV, zR, *] <;> rfl) rfl ⟨by rw [hVV.out, hE.out], ?_⟩
                exact ((bb1.setCell (p := ⟨w.heap.size, 0, none⟩) (Nat.le_refl _) _).setCell (p := ⟨w.heap.size, 1, none⟩) (Nat.le_refl _) _).setCell (p := ⟨w.heap.size, 2, none⟩) (Nat.le_refl _) _
              · by_cases hin : i < n
                · have hVV : Hid (akV L (n : Int) C N = (3, (rsL L).getD i zR)) := by show _ = _; rw [hV2.out]; simp [hn1, hn2, hin]
                  clear hV2
                  obtain ⟨C1, N1, P1, d1, s0, s1, s2, hrv, hgd⟩ : ∃ C1 N1 P1 d1 s0 s1 s2, rowD (rsL L) i true e = ⟨C1, N1, P1, d1, s0, s1, s2⟩ ∧ (rsL L).getD i zR = (s0, s1, s2) := ⟨_, _, _, _, _, _, _, rfl, rfl⟩
                  rw [hgd] at hVV
                  clear hgd
                  go_enter Try.func17, Try.ntmps17
                  have hin2 : (i : Int) + 1 ≤ (n : Int) := by omega
                  go_wp2_with (first
                    | (go_at_call 29; refine ck.mono ?_; rintro r w1 ⟨rfl, b1⟩; have hz := b1.size; have cl := fun hs => reflast_any L a c C w1 hs)
                    | (go_at_call 30; rw [hlp] at cl; refine (cl (H.out.later b1)).mono ?_; rintro r w5 ⟨rfl, hw5⟩; subst hw5; rw [hcast]; have cr := refrow_any L a c i true e w5 (H.out.later b1) HF.out hl HE.out; obtain ⟨q, o, ea, hq, c0, c1, c2, c3, c4⟩ := (H.out.later b1).en HE.out; cases ea)
                    | (go_at_call 31; rw [hrv] at cr; dsimp only [Rw.val] at cr; refine cr.mono ?_; rintro r w2 ⟨rfl, b2⟩; have b3 := b1.trans (b2.mono hz); obtain ⟨⟨q0, q1, q2⟩, p0, p1, p2⟩ := box3 b3 (by simp); have bb1 : Below w.heap.size w w2 := bB.trans (b3.mono (by simp)); have hz2 := b3.size; simp only [World.size_alloc] at hz2; have hzz : w.heap.size < w2.heap.size := (by omega); have A := (fun ob => (Below.refl w2.heap.size w2).alloc (Nat.le_refl _) ob); have q0 := (fun ob => ((A ob).cell (p := ⟨w.heap.size, 0, none⟩) hzz).trans q0); have q1 := (fun ob => ((A ob).cell (p := ⟨w.heap.size, 1, none⟩) hzz).trans q1); have q2 := (fun ob => ((A ob).cell (p := ⟨w.heap.size, 2, none⟩) hzz).trans q2); have p0 := (fun ob => ((A ob).frozen (p := ⟨w.heap.size, 0, none⟩) hzz).trans p0); have p1 := (fun ob => ((A ob).frozen (p := ⟨w.heap.size, 1, none⟩) hzz).trans p1); have p2 := (fun ob => ((A ob).frozen (p := ⟨w.heap.size, 2, none⟩) hzz).trans p2); clear b2 b3 b1 hz A cr cl))
                  have k4 : (w2.alloc (.cells #[.int .i64 C1, .int .i64 N1, .int .i64 P1, .bool d1, .int .i64 s0, .int .i64 s1, .string s2] 57)).cell? ⟨w2.heap.size, 4, none⟩ = some (.int .i64 s0) := by simp
                  have k5 : (w2.alloc (.cells #[.int .i64 C1, .int .i64 N1, .int .i64 P1, .bool d1, .int .i64 s0, .int .i64 s1, .string s2] 57)).cell? ⟨w2.heap.size, 5, none⟩ = some (.int .i64 s1) := by simp
                  have k6 : (w2.alloc (.cells #[.int .i64 C1, .int .i64 N1, .int .i64 P1, .bool d1, .int .i64 s0, .int .i64 s1, .string s2] 57)).cell? ⟨w2.heap.size, 6, none⟩ = some (.string s2) := by simp
                  have bbW : Below w.heap.size w (w2.alloc (.cells #[.int .i64 C1, .int .i64 N1, .int .i64 P1, .bool d1, .int .i64 s0, .int .i64 s1, .string s2] 57)) := bb1.alloc (by omega) _
                  have q0 := q0 (.cells #[.int .i64 C1, .int .i64 N1, .int .i64 P1, .bool d1, .int .i64 s0, .int .i64 s1, .string s2] 57)
                  have q1 := q1 (.cells #[.int .i64 C1, .int .i64 N1, .int .i64 P1, .bool d1, .int .i64 s0, .int .i64 s1, .string s2] 57)
                  have q2 := q2 (.cells #[.int .i64 C1, .int .i64 N1, .int .i64 P1, .bool d1, .int .i64 s0, .int .i64 s1, .string s2] 57)
                  have p0 := p0 (.cells #[.int .i64 C1, .int .i64 N1, .int .i64 P1, .bool d1, .int .i64 s0, .int .i64 s1, .string s2] 57)
                  have p1 := p1 (.cells #[.int .i64 C1, .int .i64 N1, .int .i64 P1, .bool d1, .int .i64 s0, .int .i64 s1, .string s2] 57)
                  have p2 := p2 (.cells #[.int .i64 C1, .int .i64 N1, .int .i64 P1, .bool d1, .int .i64 s0, .int .i64 s1, .string s2] 57)
                  have hne : w.heap.size ≠ w2.heap.size := by omega
                  have hne2 : w2.heap.size ≠ w.heap.size := by omega
                  clear c0 c1 c2 c3 c4
                  generalize (w2.alloc (.cells #[.int .i64 C1, .int .i64 N1, .int .i64 P1, .bool d1, .int .i64 s0, .int .i64 s1, .string s2] 57)) = W at *
                  generalize w2.heap.size = g7 at *
                  go_region_held3 (fun v' => v'.cell? ⟨g7, 4, none⟩ = some (.int .i64 s0) ∧ v'.cell? ⟨g7, 5, none⟩ = some (.int .i64 s1) ∧ v'.cell? ⟨g7, 6, none⟩ = some (.string s2)) (first | go_keep | (exact ⟨by go_simp, by go_simp, by go_simp⟩) | go_simp) (fail)
                  go_wp2
                  refine bodyPost_ret (v := .tuple #[.int .i64 3, rV (s0, s1, s2), .int .i64 0]) (by simp [results, Try.results17, go_sem, rV, zR, *] <;> rfl) rfl ⟨by rw [hVV.out, hE.out], ?_⟩
                  exact (((bbW.drew).setCell (p := ⟨w.heap.size, 0, none⟩) (Nat.le_refl _) _).setCell (p := ⟨w.heap.size, 1, none⟩) (Nat.le_refl _) _).setCell (p := ⟨w.heap.size, 2, none⟩) (Nat.le_refl _) _
                · have hVV : Hid (akV L (n : Int) C N = (2, zR)) := by show _ = _; rw [hV2.out]; simp [hn1, hn2, hin]
                  have hin2 : ¬ (i : Int) + 1 ≤ (n : Int) := by omega
                  clear hV2
                  go_enter Try.func17, Try.ntmps17
                  go_wp2_with (first
                    | (go_at_call 29; refine ck.mono ?_; rintro e w1 ⟨rfl, b1⟩; have hz := b1.size; obtain ⟨⟨q0, q1, q2⟩, p0, p1, p2⟩ := box3 b1 (by simp); have bb1 : Below w.heap.size w w1 := bB.trans (b1.mono (by simp)); have cl := fun hs => reflast_any L a c C w1 hs)
                    | (go_at_call 30; rw [hlp] at cl; refine (cl (H.out.later b1)).mono ?_; rintro e w5 ⟨rfl, hw5⟩; subst hw5; rw [hcast]; obtain ⟨q, o, ea, hq, c0, c1, c2, c3, c4⟩ := (H.out.later b1).en HE.out; cases ea))
                  refine bodyPost_ret (v := .tuple #[.int .i64 2, rV zR, .int .i64 0]) (by simp [results, Try.results17, go_sem, rV, zR, *] <;> rfl) rfl ⟨by rw [hVV.out, hE.out], ?_⟩
                  exact ((bb1.setCell (p := ⟨w.heap.size, 0, none⟩) (Nat.le_refl _) _).setCell (p := ⟨w.heap.size, 1, none⟩) (Nat.le_refl _) _).setCell (p := ⟨w.heap.size, 2, none⟩) (Nat.le_refl _) _
  · have hE : Hid (akE L k C N = ckB L 0 k) := by show _ = _; simp [akE, hx]
    have hVV : Hid (akV L k C N = (0, zR)) := by show _ = _; unfold akV; rw [hE.out]; simp [hx]
    generalize ckB L 0 k = x at *
    go_enter Try.func17, Try.ntmps17
    go_wp2_with (go_at_call 29; refine ck.mono ?_; rintro e w1 ⟨rfl, b1⟩; have hz := b1.size; obtain ⟨⟨q0, q1, q2⟩, p0, p1, p2⟩ := box3 b1 (by simp); have bb1 : Below w.heap.size w w1 := bB.trans (b1.mono (by simp)))
    refine bodyPost_ret (v := .tuple #[.int .i64 0, rV zR, .int .i64 x]) (by simp [results, Try.results17, go_sem, rV, zR, *] <;> rfl) rfl ⟨by rw [hVV.out, hE.out], ?_⟩
    exact ((bb1.setCell (p := ⟨w.heap.size, 0, none⟩) (Nat.le_refl _) _).setCell (p := ⟨w.heap.size, 1, none⟩) (Nat.le_refl _) _).setCell (p := ⟨w.heap.size, 2, none⟩) (Nat.le_refl _) _

end Go.Proofs.Ytpkcoejjclmocaa
