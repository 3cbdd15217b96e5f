import Derived.Test.YtifhdelkmhlcoaaGc
namespace Go.Proofs.Ytifhdelkmhlcoaa
open Go.RowKit
set_option linter.unusedVariables false

theorem u8_wf {a : Int} (h : (Lit.int .u8 a).wf = true) : 0 ≤ a ∧ a ≤ 255 := by
  simp [Lit.wf, IntKind.min, IntKind.max, IntKind.bits, IntKind.signed] at h
  omega
/-- k draws of a Pairs at one reading. -/
def PC (w0 w : World) (p c : Nat) (R : Int) (k : Nat) : Prop := ∃ rd md, Prs w p c rd md ∧ Clk w c R ∧ made R rd md = k ∧ Below w0.heap.size w0 w
theorem PC.up {w0 w w' : World} {p c : Nat} {R : Int} {k : Nat} (h : PC w0 w p c R k) (b : Below w.heap.size w w') : PC w0 w' p c R k := by
  obtain ⟨rd, md, P, C, hm, hb⟩ := h
  have u : Upd (fun _ => False) w w' := Upd.of_below b
  exact ⟨rd, md, P.upd u id, C.upd u id, hm, hb.trans (b.mono hb.size)⟩
theorem PC.next {w0 w : World} {p c : Nat} {R : Int} {k : Nat} (h : PC w0 w p c R k) (hk : k < 65535) (h1 : w0.heap.size ≤ p) :
    Calls Try.prog 20 #[.pointer (some ⟨p, 0, none⟩)] w fun e w' => e = .returned (.tuple #[.agg #[.int .u64 R, .int .u64 ((k + 1 : Nat) : Int)], .int .i64 0]) ∧ PC w0 w' p c R (k + 1) := by
  obtain ⟨rd, md, P, C, hm, hb⟩ := h
  have H := draw_ok p c R rd md w P C (by omega)
  rw [hm] at H
  refine H.mono ?_
  rintro e w' ⟨rfl, P', u'⟩
  refine ⟨by simp, R, (k : Int) + 1, P', C.upd u' P.ne, by unfold made; rw [if_pos rfl]; omega, hb.trans (u'.below hb.size (by rintro q rfl; exact h1))⟩
theorem PC.over {w0 w : World} {p c : Nat} {R : Int} (h : PC w0 w p c R 65535) :
    Calls Try.prog 20 #[.pointer (some ⟨p, 0, none⟩)] w fun e w' => e = .returned (.tuple #[.agg #[.int .u64 0, .int .u64 0], .int .i64 20]) ∧ PC w0 w' p c R 65535 := by
  have h' := h
  obtain ⟨rd, md, P, C, hm, hb⟩ := h
  refine (draw_end p c R rd md w P C (by rw [hm]; rfl)).mono ?_
  rintro e w' ⟨rfl, b⟩
  exact ⟨rfl, h'.up b⟩

set_option maxRecDepth 100000 in
set_option maxHeartbeats 800000 in
theorem counts_walk (R x : Int) (w : World) (h0 : 0 ≤ R) (h1 : R ≤ 18446744073709551615) (x0 : 0 ≤ x) (x1 : x ≤ 255) :
    Calls Try.prog 5 #[.int .u64 R, .int .u8 x] w fun e w' => e = .returned (.bool true) ∧ Below w.heap.size w w' := by
  go_enter Try.func5, Try.ntmps5
  go_wp2_with fail
  refine (newclock_any _ _).mono ?_
  rintro e w1 ⟨rfl, e1⟩
  have c1 : Clk w1 w.heap.size R := e1 ▸ Clk.new R w h0 h1
  have b1 : Below w.heap.size w w1 := e1 ▸ (Below.refl _ _).alloc (Nat.le_refl _) _
  clear e1
  go_wp2_with fail
  refine (newpairs_any _ _).mono ?_
  rintro e w2 ⟨rfl, e2⟩
  have I0 : PC w w2 w1.heap.size w.heap.size R 0 := e2 ▸ ⟨0, 0, Prs.new _ _ c1.lt, c1.upd (S := fun _ => False) ((Upd.refl _ _).alloc _) id, by unfold made; split <;> rfl, b1.alloc b1.size _⟩
  have hp := b1.size
  clear e2 c1 b1
  generalize w1.heap.size = p at *
  go_wp2
  go_loopw [8] (fun i wr => ∃ k : Nat, k ≤ 65535 ∧ i = .int .i64 ((k + 1 : Nat) : Int) ∧ PC w wr p w.heap.size R k) (fun i _ => 65536 - (intOf i).toNat)
  case atStart => exact ⟨0, by omega, rfl, I0⟩
  case round =>
    obtain ⟨k, hk, rfl, I⟩ := hrel
    clear I0
    by_cases hlt : k < 65535
    · have H := I.next hlt hp
      have hd0 : ((k + 1 : Nat) : Int) ≤ 65535 := by omega
      have HK := hide hk
      have HLT := hide hlt
      clear hk hlt I
      generalize hn : k + 1 = n at *
      have HN := hide hn
      clear hn
      have hd : decide ((n : Int) ≤ 65535) = true := decide_eq_true hd0
      have hn0 : (0 : Int) ≤ (n : Int) := by omega
      go_wp2_with fail
      refine H.mono ?_
      rintro e w2 ⟨rfl, I2⟩
      have I3 := I2.up ((Below.refl _ _).alloc (Nat.le_refl _) (.cells #[.int .u64 R, .int .u64 (n : Int)] 24))
      clear H I2
      go_wp2
      go_round
      case rel => exact ⟨n, by omega, by go_num, I3⟩
      case measure => simp [intOf]; omega
    · have hk2 : k = 65535 := by omega
      have J : Hid (PC w wr p w.heap.size R 65535) := hk2 ▸ I
      have hd : decide (((k + 1 : Nat) : Int) ≤ 65535) = false := decide_eq_false (by omega)
      clear hlt hk hk2 I
      generalize k + 1 = n at *
      go_wp2
      go_loopw [11] (fun i wr => ∃ j : Nat, j ≤ 4 ∧ i = .int .i64 (j : Int) ∧ PC w wr p w.heap.size R 65535) (fun i _ => 4 - (intOf i).toNat)
      case atStart => exact ⟨0, by omega, rfl, J.out⟩
      case round =>
        obtain ⟨j, hj, rfl, I⟩ := hrel
        clear J
        by_cases hlt : (j : Int) ≤ x % 4
        · have H := I.over
          clear I
          go_wp2_with fail
          refine H.mono ?_
          rintro e w3 ⟨rfl, I3⟩
          have I4 := I3.up ((Below.refl _ _).alloc (Nat.le_refl _) (.cells #[.int .u64 0, .int .u64 0] 24))
          clear H I3
          have hj3 : j < 4 := by omega
          go_wp2
          go_round
          case rel => exact ⟨j + 1, by omega, by go_num, I4⟩
          case measure => simp [intOf]; omega
        · go_wp2_with fail
          refine (groupcounts_any R _ h0 h1).mono ?_
          rintro e w3 ⟨rfl, b3⟩
          obtain ⟨rd, md, P, C, hm, hb⟩ := I.up b3
          clear I b3
          have hrd : rd = R := by
            unfold made at hm
            split at hm
            · assumption
            · omega
          by_cases hR : R = 18446744073709551615
          · have hbR : (R == 18446744073709551615) = true := by simp [hR]
            go_wp2_with fail
            refine (pass_end _ R 1 _ C (by omega)).mono ?_
            rintro e w4 ⟨rfl, hw4⟩
            have hw4 := hw4.symm
            subst hw4
            go_wp2_with fail
            refine (draw_end p _ R rd md _ P C (by rw [hm]; rfl)).mono ?_
            rintro e w5 ⟨rfl, b5⟩
            have bw := hb.trans (b5.mono hb.size)
            clear P C hm
            go_wp2
            go_ret
            exact ⟨rfl, bw.alloc bw.size _⟩
          · have hbR : (R == 18446744073709551615) = false := by simp [hR]
            have hR1 : R + 1 ≤ 18446744073709551615 := by omega
            have hmod : (R + 1) % 18446744073709551616 = R + 1 := by omega
            go_wp2_with fail
            refine (pass_ok _ R 1 _ C (by omega) hR1).mono ?_
            rintro e w4 ⟨rfl, C4, u4⟩
            have P4 := P.upd u4 P.ne.symm
            have hz : made (R + 1) rd md = 0 := by unfold made; rw [if_neg (by omega)]
            have H := draw_ok p _ (R + 1) rd md _ P4 C4 (by omega)
            rw [hz, Int.zero_add] at H
            have b4 := hb.trans (u4.below hb.size (by rintro q rfl; exact Nat.le_refl _))
            clear P C hm P4 C4 u4
            go_wp2_with fail
            refine H.mono ?_
            rintro e w5 ⟨rfl, P5, u5⟩
            have bw := b4.trans (u5.below b4.size (by rintro q rfl; exact hp))
            clear H P5 u5
            go_wp2
            go_ret
            exact ⟨rfl, bw.alloc bw.size _⟩

end Go.Proofs.Ytifhdelkmhlcoaa
