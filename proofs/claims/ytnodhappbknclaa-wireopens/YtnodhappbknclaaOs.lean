import Derived.Test.YtnodhappbknclaaRo
import Derived.Test.YtnodhappbknclaaSm
import Derived.Test.YtnodhappbknclaaAl
namespace Go.Proofs.Ytnodhappbknclaa
open Go.RowKit
set_option linter.unusedVariables false

/-- The frame in the law's loop: bytes of some kind. -/
structure Some1 (w0 w : World) (g n c : Nat) (G : List Int) : Prop where
  own : Own w0.heap.size w (.slice (some ⟨g, 0, none⟩) n c) G
  bel : Below w0.heap.size w0 w
  len : G.length = n
  byte : ∀ z ∈ G, 0 ≤ z ∧ z < 256
theorem Some1.hs {w0 w : World} {g n c : Nat} {G : List Int} (h : Some1 w0 w g n c G) : Hs w (some ⟨g, 0, none⟩) n c G :=
  ⟨h.len, h.own.cap, fun x hx => by (cases hx; exact h.own.row), fun hx => by (cases hx), h.byte⟩

set_option maxRecDepth 100000 in
set_option maxHeartbeats 4000000 in
theorem opens_walk (a0 : Option Addr) (len0 cap0 : Nat) (z0 : List Int) (a1 : Int) (a2 : Option Addr) (len2 cap2 : Nat) (z2 : List Int) (a3 : Int) (w : World) (w0 : Came w a0 len0 cap0 z0) (w1 : (Lit.int .i64 a1).wf = true) (w2 : Came w a2 len2 cap2 z2) (w3 : (Lit.int .i64 a3).wf = true) :
    Calls Try.prog 4 #[.slice a0 len0 cap0, .int .i64 a1, .slice a2 len2 cap2, .int .i64 a3] w fun e w' => e = .returned (.bool true) ∧ Below w.heap.size w w' := by
  obtain ⟨h0, m0⟩ := Hs.of w0
  obtain ⟨h2, m2⟩ := Hs.of w2
  clear w0 w2
  generalize z0.take len0 = l at *
  generalize z2.take len2 = pc at *
  unfold maxLen at m0 m2
  obtain ⟨q1, q2⟩ := i64_wf w1
  obtain ⟨q3, q4⟩ := i64_wf w3
  clear w1 w3
  by_cases hlen : len0 ≤ 32756
  · have kb := h0.byte
    go_enter Try.func4, Try.ntmps4
    go_wp2_with fail
    refine (refseal_ok a0 len0 cap0 l w h0 hlen).mono ?_
    rintro e wb ⟨v, rfl, ov, nv, bb⟩
    obtain ⟨g, c, hv, hg1, hg2⟩ := ov.shape nv
    have hfl := M.frame_length l
    rw [h0.len] at hfl
    have hfl2 : (M.frame l).length ≤ 32768 := by omega
    generalize hn : (M.frame l).length = n at *
    subst hv
    have T0 : Some1 w wb g n c (M.frame l) := ⟨ov, bb, hn, M.frame_byte l kb⟩
    clear ov nv bb hg2 hfl hn
    go_wp2_with fail
    go_loopw [13] (fun i wr => ∃ (k : Nat) (G : List Int), i = .int .i64 k ∧ k ≤ len2 ∧ k ≤ n ∧ Some1 w wr g n c G) (fun i _ => len2 - (intOf i).toNat)
    case atStart => exact ⟨0, _, rfl, Nat.zero_le _, Nat.zero_le _, T0⟩
    case round =>
      obtain ⟨k, G, rfl, hk2, hkn, T⟩ := hrel
      clear T0
      by_cases hgo : k < len2 ∧ 0 ≤ a1 ∧ a1 < (n : Int) - (k : Int)
      · obtain ⟨r1, r2, r3⟩ := hgo
        obtain ⟨p, rfl⟩ := Int.eq_ofNat_of_zero_le r2
        cases a2 with
        | none => have := h2.len; rw [(h2.nil rfl).1] at this; simp at this; omega
        | some x2 =>
          obtain ⟨b2, o2, rfl⟩ := h2.flat (by omega)
          have hcell := (h2.later T.bel).row _ rfl k (by rw [h2.len]; exact r1)
          rw [Addr.add_lit] at hcell
          have hold := T.own.row (p + k) (by rw [T.len]; omega)
          rw [Addr.add_lit, Nat.zero_add] at hold
          have hsoft := T.own.soft (p + k)
          have hz : 0 ≤ pc.getD k 0 ∧ pc.getD k 0 < 256 := h2.byte _ (by simp [List.getD, show k < pc.length by rw [h2.len]; exact r1])
          have T2 : Some1 w (wr.setCell ⟨g, p + k, none⟩ (.int .u8 (pc.getD k 0))) g n c (G.set (p + k) (pc.getD k 0)) := by
            refine ⟨T.own.stored _ _, T.bel.setCell hg1 _, by rw [List.length_set]; exact T.len, fun z hz2 => ?_⟩
            rcases List.mem_or_eq_of_mem_set hz2 with h | h
            · exact T.byte z h
            · rw [h]; exact hz
          have hlt2 : (p : Int) + (k : Int) < (n : Int) := by omega
          clear T hz
          go_wp2
          exact ⟨⟨k + 1, _, by go_num, by omega, by omega, T2⟩, by simp [intOf]; omega⟩
      · have hex : len2 ≤ k ∨ (k < len2 ∧ a1 < 0) ∨ (k < len2 ∧ 0 ≤ a1 ∧ (n : Int) - (k : Int) ≤ a1) := by omega
        have hh := T.hs
        have hby := T.byte
        have tb := T.bel
        have hcp := hh.cap
        clear hgo T h2
        by_cases hL : 0 ≤ a3 ∧ a3 < (n : Int)
        · obtain ⟨s1, s2⟩ := hL
          obtain ⟨q, rfl⟩ := Int.eq_ofNat_of_zero_le s1
          have hcut := hh.cut q (by omega)
          have hcb := hcut.byte
          have hqc : q ≤ c := by omega
          rcases hex with hex | ⟨hex, hex2⟩ | ⟨hex, hex2, hex3⟩
          all_goals
            go_wp2_with fail
            refine (open_any (some ⟨g, 0, none⟩) q c (G.take q) wr hcut).mono ?_
            rintro e wc ⟨v1, rfl, o1, b1⟩
            have bwc : Below w.heap.size w wc := tb.trans (b1.mono tb.size)
            obtain ⟨g1, n1, c1, hv1, hs1, _⟩ := o1.hs (opBody_byte _ hcb)
            subst hv1
            go_wp2_with fail
            refine (ro_any (some ⟨g, 0, none⟩) q c (G.take q) wc (Hs.later hcut b1)).mono ?_
            rintro e wd ⟨v2, rfl, o2, b2⟩
            have bwd : Below w.heap.size w wd := bwc.trans (b2.mono bwc.size)
            obtain ⟨g2, n2, c2, hv2, hs2, _⟩ := o2.hs (opBody_byte _ hcb)
            subst hv2
            have hs1' := hs1.later b2
            clear o1 o2 b1 b2 hs1 bwc
            generalize opErr (G.take q) = E at *
            generalize opBody (G.take q) = Bd at *
            go_wp2_with (go_at_call 16; go_in)
            refine (same_any g1 g2 n1 c1 n2 c2 Bd Bd wd hs1' hs2).mono ?_
            rintro e we ⟨rfl, hx⟩
            rw [hx, decide_eq_true (rfl : Bd = Bd)]
            clear hx hs1' hs2
            go_wp2_with fail
            refine (alive_any _).mono ?_
            rintro e wf ⟨rfl, bf⟩
            go_wp2
            go_ret
            exact ⟨rfl, bwd.trans (bf.mono bwd.size)⟩
        · have hL2 : a3 < 0 ∨ (0 ≤ a3 ∧ (n : Int) ≤ a3) := by omega
          clear hL
          rcases hL2 with hL | ⟨hL, hL3⟩
          all_goals rcases hex with hex | ⟨hex, hex2⟩ | ⟨hex, hex2, hex3⟩
          all_goals
            go_wp2_with fail
            refine (open_any (some ⟨g, 0, none⟩) n c G wr hh).mono ?_
            rintro e wc ⟨v1, rfl, o1, b1⟩
            have bwc : Below w.heap.size w wc := tb.trans (b1.mono tb.size)
            obtain ⟨g1, n1, c1, hv1, hs1, _⟩ := o1.hs (opBody_byte _ hby)
            subst hv1
            go_wp2_with fail
            refine (ro_any (some ⟨g, 0, none⟩) n c G wc (Hs.later hh b1)).mono ?_
            rintro e wd ⟨v2, rfl, o2, b2⟩
            have bwd : Below w.heap.size w wd := bwc.trans (b2.mono bwc.size)
            obtain ⟨g2, n2, c2, hv2, hs2, _⟩ := o2.hs (opBody_byte _ hby)
            subst hv2
            have hs1' := hs1.later b2
            clear o1 o2 b1 b2 hs1 bwc
            generalize opErr G = E at *
            generalize opBody G = Bd at *
            go_wp2_with (go_at_call 16; go_in)
            refine (same_any g1 g2 n1 c1 n2 c2 Bd Bd wd hs1' hs2).mono ?_
            rintro e we ⟨rfl, hx⟩
            rw [hx, decide_eq_true (rfl : Bd = Bd)]
            clear hx hs1' hs2
            go_wp2_with fail
            refine (alive_any _).mono ?_
            rintro e wf ⟨rfl, bf⟩
            go_wp2
            go_ret
            exact ⟨rfl, bwd.trans (bf.mono bwd.size)⟩
  · go_enter Try.func4, Try.ntmps4
    go_wp2_with fail
    refine (refseal_long a0 len0 cap0 w (by omega)).mono ?_
    rintro e wb ⟨rfl, hx⟩
    rw [hx]
    clear hx
    go_wp2_with fail
    refine (seal_long a0 len0 cap0 w (by omega)).mono ?_
    rintro e wc ⟨rfl, hx⟩
    rw [hx]
    clear hx
    go_wp2_with (go_at_call 16; go_in)
    go_ret
    exact ⟨rfl, Below.refl _ _⟩
#print axioms opens_walk

end Go.Proofs.Ytnodhappbknclaa
