import Derived.Test.YtnodhappbknclabFr
import Derived.Test.YtnodhappbknclabSe
import Derived.Test.YtnodhappbknclabSm
import Derived.Test.YtnodhappbknclabAl
namespace Go.Proofs.Ytnodhappbknclab
open Go.RowKit
set_option linter.unusedVariables false

/-- What a proof's frame tells of a slice of bytes that came in. -/
def Came (w : World) (a : Option Addr) (len cap : Nat) (zs : List Int) : Prop :=
  (a = none ∧ len = 0 ∧ cap = 0 ∧ zs = []) ∨ ∃ x, a = some x ∧ len ≤ cap ∧ cap ≤ maxLen ∧ zs.length = cap ∧ (∀ i, i < zs.length → w.cell? (x.add i) = some (.int .u8 (zs.getD i 0))) ∧ ∀ n ∈ zs, (Lit.int .u8 n).wf = true

set_option maxHeartbeats 1000000 in
theorem sealed_walk (a0 : Option Addr) (len0 cap0 : Nat) (z0 : List Int) (a1 : Option Addr) (len1 cap1 : Nat) (z1 : List Int) (w : World) (w0 : Came w a0 len0 cap0 z0) (w1 : Came w a1 len1 cap1 z1) :
    Calls Try.prog 3 #[.slice a0 len0 cap0, .slice a1 len1 cap1] w fun e w' => e = .returned (.bool true) ∧ Below w.heap.size w w' := by
  obtain ⟨h0, m0⟩ := Hs.of w0
  obtain ⟨h1, m1⟩ := Hs.of w1
  clear w0 w1
  generalize z0.take len0 = l at *
  generalize z1.take len1 = f at *
  unfold maxLen at m0 m1
  by_cases hlen : len0 ≤ 32756
  · have hd : decide ((len0 : Int) ≤ 32756) = true := by simp; omega
    go_enter Try.func3, Try.ntmps3
    go_wp2_with fail
    refine (alive_any _).mono ?_
    rintro e wa ⟨rfl, ba⟩
    go_wp2_with fail
    refine (seal_ok a0 len0 cap0 l wa (h0.later ba) hlen).mono ?_
    rintro e wb ⟨v, rfl, ov, nv, bb⟩
    have bwb : Below w.heap.size w wb := ba.trans (bb.mono ba.size)
    have kb := h0.byte
    obtain ⟨g, n, c, hv, hg, hg2⟩ := ov.hs (M.frame_byte l kb)
    subst hv
    have hgn := hg.len
    rw [M.frame_length, h0.len] at hgn
    have HG := hide hgn
    clear hgn ov nv hg2 bb ba
    go_wp2_with (go_at_call 10; go_in)
    refine (open_any g n c _ wb hg).mono ?_
    rintro e wc ⟨v2, rfl, ov2, bc⟩
    rw [frame_err l (by have := h0.len; omega) kb]
    rw [frame_body l (by have := h0.len; omega) kb] at ov2
    obtain ⟨g2, n2, c2, hv2, hg2, hg3⟩ := ov2.hs kb
    subst hv2
    have bwc : Below w.heap.size w wc := bwb.trans (bc.mono bwb.size)
    clear ov2 hg3 bc
    have HN : ((n : Int) != (len0 : Int) + 12) = false := by have := HG.out; simp; omega
    go_wp2_with (go_at_call 10; go_in)
    refine (same_any g2 a0 n2 c2 len0 cap0 l l wc hg2 (h0.later bwc)).mono ?_
    rintro e wx ⟨rfl, hx⟩
    rw [hx]
    clear hx
    rw [decide_eq_true (rfl : l = l)]
    clear hg hg2
    go_wp2_with (go_at_call 10; go_in)
    refine (open_any a1 len1 cap1 f wc (h1.later bwc)).mono ?_
    rintro e wd ⟨v3, rfl, ov3, bd⟩
    have bwd : Below w.heap.size w wd := bwc.trans (bd.mono bwc.size)
    obtain ⟨g3, n3, c3, hv3, hg3, _⟩ := ov3.hs (opBody_byte f h1.byte)
    subst hv3
    clear ov3 bd
    by_cases he : opErr f = 0
    · obtain ⟨fr, fl⟩ := open_frame f h1.byte he
      rw [he]
      have hl3 : n3 ≤ 32756 := by have := hg3.len; omega
      clear he
      have FR := hide fr
      clear fr
      go_wp2_with (go_at_call 10; go_in)
      refine (seal_ok g3 n3 c3 (opBody f) wd hg3 hl3).mono ?_
      rintro e we ⟨v4, rfl, ov4, nv4, bb4⟩
      rw [FR.out] at ov4
      have bwe : Below w.heap.size w we := bwd.trans (bb4.mono bwd.size)
      obtain ⟨g4, n4, c4, hv4, hg4, _⟩ := ov4.hs h1.byte
      subst hv4
      clear ov4 nv4 bb4
      go_wp2_with (go_at_call 10; go_in)
      refine (same_any g4 a1 n4 c4 len1 cap1 f f we hg4 (h1.later bwe)).mono ?_
      rintro e wf ⟨rfl, rfl⟩
      rw [decide_eq_true (rfl : f = f)]
      go_wp2
      go_ret
      exact ⟨rfl, bwe⟩
    · have hl3 : n3 = 0 := by have := hg3.len; rw [opBody_bad he] at this; exact this.symm
      subst hl3
      have hne : (opErr f != 0) = true := by simp [he]
      clear he hg3
      generalize opErr f = E at *
      go_wp2_with (go_at_call 10; go_in)
      go_ret
      exact ⟨rfl, bwd⟩
  · have hd : decide ((len0 : Int) ≤ 32756) = false := by simp; omega
    go_enter Try.func3, Try.ntmps3
    go_wp2_with fail
    refine (alive_any _).mono ?_
    rintro e wc ⟨rfl, bwc⟩
    go_wp2_with fail
    refine (seal_long a0 len0 cap0 wc (by omega)).mono ?_
    rintro e wb ⟨rfl, hx⟩
    cases hx
    go_wp2_with (go_at_call 10; go_in)
    refine (open_any a1 len1 cap1 f wc (h1.later bwc)).mono ?_
    rintro e wd ⟨v3, rfl, ov3, bd⟩
    have bwd : Below w.heap.size w wd := bwc.trans (bd.mono bwc.size)
    obtain ⟨g3, n3, c3, hv3, hg3, _⟩ := ov3.hs (opBody_byte f h1.byte)
    subst hv3
    clear ov3 bd
    by_cases he : opErr f = 0
    · obtain ⟨fr, fl⟩ := open_frame f h1.byte he
      rw [he]
      have hl3 : n3 ≤ 32756 := by have := hg3.len; omega
      clear he
      have FR := hide fr
      clear fr
      go_wp2_with (go_at_call 10; go_in)
      refine (seal_ok g3 n3 c3 (opBody f) wd hg3 hl3).mono ?_
      rintro e we ⟨v4, rfl, ov4, nv4, bb4⟩
      rw [FR.out] at ov4
      have bwe : Below w.heap.size w we := bwd.trans (bb4.mono bwd.size)
      obtain ⟨g4, n4, c4, hv4, hg4, _⟩ := ov4.hs h1.byte
      subst hv4
      clear ov4 nv4 bb4
      go_wp2_with (go_at_call 10; go_in)
      refine (same_any g4 a1 n4 c4 len1 cap1 f f we hg4 (h1.later bwe)).mono ?_
      rintro e wf ⟨rfl, rfl⟩
      rw [decide_eq_true (rfl : f = f)]
      go_wp2
      go_ret
      exact ⟨rfl, bwe⟩
    · have hl3 : n3 = 0 := by have := hg3.len; rw [opBody_bad he] at this; exact this.symm
      subst hl3
      have hne : (opErr f != 0) = true := by simp [he]
      clear he hg3
      generalize opErr f = E at *
      go_wp2_with (go_at_call 10; go_in)
      go_ret
      exact ⟨rfl, bwd⟩
#print axioms sealed_walk

end Go.Proofs.Ytnodhappbknclab
