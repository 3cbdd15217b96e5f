import Derived.Test.YtnodhappbknclaaRd
import Derived.Test.YtnodhappbknclaaFm
import Derived.Test.YtnodhappbknclaaSm
import Derived.Test.YtnodhappbknclaaAl
import Derived.Test.YtnodhappbknclaaCm
namespace Go.Proofs.Ytnodhappbknclaa
open Go.RowKit
set_option linter.unusedVariables false

theorem RSt.drawn {w : World} {b : Nat} {a : Option Addr} {n c : Nat} {l : List Int} {p : Nat} {e : Int} (h : RSt w b a n c l p e) (k : Nat) : RSt (w.drewN k) b a n c l p e :=
  ⟨h.lt, h.c0, h.c1, h.c2, h.c3, h.f2, h.f3, h.hs.later (below_drewN (Below.refl _ _) k), h.cmax, h.ne, h.le⟩

set_option maxRecDepth 100000 in
set_option maxHeartbeats 1000000 in
theorem one_walk (a0 : Option Addr) (len0 cap0 : Nat) (z0 : List Int) (w : World) (w0 : CameS w a0 len0 cap0 z0) :
    Calls Try.prog 8 #[.slice a0 len0 cap0] w fun e w' => e = .returned (.bool true) ∧ Below w.heap.size w w' := by
  obtain ⟨h0, m0, m1⟩ := Hs.ofS w0
  clear w0
  generalize z0.take len0 = l at *
  have kb := h0.byte
  have hcap := h0.cap
  have hln := hide h0.len
  by_cases he : tnErr l = 0
  · obtain ⟨f1, f2, f3, f4⟩ := tn_form l kb he
    have hsz := tnSize_le l kb
    rw [hln.out] at hsz
    have hEL : ∀ n p, Hid (endErr n p 10 = 10) := fun n p => by unfold endErr; rw [if_neg (by decide)]; rfl
    cases a0 with
    | none => rw [(h0.nil rfl).1] at f2; simp [tnSize, tnErr] at f2
    | some x0 =>
    have F1 := hide f1
    have F4 := hide f4
    have HE := hide he
    clear f1 f4 he
    go_enter Try.func8, Try.ntmps8
    go_wp2_with fail
    refine (alive_any _).mono ?_
    rintro e wa ⟨rfl, ba⟩
    go_wp2_with fail
    refine (newreader_any (some x0) len0 cap0 l wa (h0.later ba) (by omega)).mono ?_
    rintro e wb ⟨r, a1, c1, rfl, hR, hr, bb⟩
    have bwb : Below w.heap.size w wb := ba.trans (bb.mono ba.size)
    have hrw : w.heap.size ≤ r := Nat.le_trans ba.size hr
    clear bb ba
    go_wp2_with fail
    refine (rd_number w.heap.size r a1 len0 c1 l 0 wb hR hrw).mono ?_
    rintro e wc ⟨rfl, hR2, bc⟩
    rw [List.drop_zero] at hR2 ⊢
    have bwc := bwb.trans bc
    rw [HE.out, Nat.zero_add] at hR2
    have HRf := hide f3
    clear hR bc bwb f3
    go_wp2_with fail
    refine (rd_at r a1 len0 c1 l (tnSize l) 0 wc hR2).mono ?_
    rintro e wd ⟨rfl, hx⟩
    rw [hx]
    clear hx hR2 HE
    generalize tnVal l = V at *
    generalize tnSize l = S at *
    obtain ⟨s1, s2⟩ := hsz
    have b1 : ((S : Int) == 0) = false := by rw [beq_eq_false_iff_ne]; omega
    have b2 : decide (len0 < S) = false := by simp; omega
    have b3 : decide ((S : Int) < 0) = false := by simp
    have b4 : decide ((9 : Int) < (S : Int)) = false := by simp; omega
    go_wp2_with fail
    refine (number_ok wc.heap.size wc.heap.size [] V _ (Nat.le_refl _) (Or.inl ⟨rfl, ⟨by simp, by simp, by simp, by simp, by simp, by simp, by simp⟩⟩) HRf.out (by simp)).mono ?_
    rintro e we ⟨rfl, hW, be⟩
    have bwe : Below w.heap.size w we := (bwc.alloc bwc.size _).trans (be.mono bwc.size)
    rw [List.nil_append, F1.out] at hW
    clear be HRf F1
    go_wp2_with fail
    refine (bytes_any _ _ _ hW (by simp; omega)).mono ?_
    rintro e wf ⟨v, rfl, ov, bf⟩
    have bwf : Below w.heap.size w wf := bwe.trans (bf.mono bwe.size)
    obtain ⟨g3, n3, c3, hv3, hg3, _⟩ := ov.hs (fun z hz => kb z (List.mem_of_mem_take hz))
    subst hv3
    clear ov bf hW bwe
    have hS1 : S ≤ cap0 := by omega
    go_wp2_with (go_at_call 16; go_in)
    refine (same_any g3 (some x0) n3 c3 S cap0 _ _ wf hg3 ((h0.later bwf).cut S s1)).mono ?_
    rintro e wg ⟨rfl, hx⟩
    rw [hx, decide_eq_true (rfl : l.take S = l.take S)]
    clear hx hg3
    go_wp2_with fail
    go_loopw [9, 10] (fun k _ wr => ∃ j : Nat, j ≤ S ∧ k = .int .i64 j ∧ Below w.heap.size w wr) (fun k _ _ => S - (intOf k).toNat)
    case atStart => exact ⟨0, Nat.zero_le _, rfl, bwf⟩
    case round =>
      obtain ⟨j, hj, rfl, br⟩ := hrel
      by_cases hlt : j < S
      · have hjc : j ≤ cap0 := by omega
        go_wp2_with fail
        refine (newreader_any (some x0) j cap0 (l.take j) wr ((h0.later br).cut j (by omega)) (by omega)).mono ?_
        rintro e wi ⟨q, a2, c2, rfl, hQ, hq, bi⟩
        have bwi : Below w.heap.size w wi := br.trans (bi.mono br.size)
        have hqw : w.heap.size ≤ q := Nat.le_trans br.size hq
        clear bi
        go_wp2_with fail
        refine (rd_number w.heap.size q a2 j c2 (l.take j) 0 wi hQ hqw).mono ?_
        rintro e wj ⟨rfl, hQ2, bj⟩
        rw [List.drop_zero] at hQ2 ⊢
        have e10 := F4.out j hlt
        rw [(tn_bad (by rw [e10]; decide)).1]
        rw [e10] at hQ2
        have bwj := bwi.trans bj
        clear hQ bj e10
        go_wp2_with fail
        refine (rd_end q a2 j c2 (l.take j) _ 10 wj hQ2).mono ?_
        rintro e wk ⟨rfl, kk, rfl⟩
        rw [(hEL _ _).out]
        have bwk := below_drewN bwj kk
        clear hQ2 bwj bwi
        go_wp2_with (go_at_call 16; go_in)
        go_roundw
        case rel => exact ⟨j + 1, by omega, by go_num, bwk⟩
        case measure => simp [intOf]; omega
      · obtain rfl : j = S := by omega
        go_wp2
        go_ret
        exact ⟨rfl, br⟩
  · obtain ⟨v0, s0⟩ := tn_bad he
    have hEE := tnErr_two l he
    go_enter Try.func8, Try.ntmps8
    go_wp2_with fail
    refine (alive_any _).mono ?_
    rintro e wa ⟨rfl, ba⟩
    go_wp2_with fail
    refine (newreader_any a0 len0 cap0 l wa (h0.later ba) (by omega)).mono ?_
    rintro e wb ⟨r, a1, c1, rfl, hR, hr, bb⟩
    have bwb : Below w.heap.size w wb := ba.trans (bb.mono ba.size)
    have hrw : w.heap.size ≤ r := Nat.le_trans ba.size hr
    clear bb ba
    go_wp2_with fail
    refine (rd_number w.heap.size r a1 len0 c1 l 0 wb hR hrw).mono ?_
    rintro e wc ⟨rfl, hR2, bc⟩
    rw [List.drop_zero] at hR2 ⊢
    have bwc := bwb.trans bc
    rw [s0, Nat.add_zero] at hR2
    rw [v0]
    clear hR bc bwb v0 s0
    go_wp2_with fail
    refine (rd_at r a1 len0 c1 l 0 _ wc hR2).mono ?_
    rintro e wd ⟨rfl, hx⟩
    rw [hx]
    clear hx
    have hEnd : endErr len0 0 (tnErr l) = tnErr l := by unfold endErr; rw [if_neg he]
    have HEnd := hide (rd_end r a1 len0 c1 l 0 _ wc hR2)
    have HEnd2 := fun k => hide (rd_end r a1 len0 c1 l 0 _ (wc.drewN k) (hR2.drawn k))
    rw [hEnd] at HEnd
    simp only [hEnd] at HEnd2
    clear hR2 hEnd he
    rcases hEE with hE | hE
    · rw [hE] at HEnd
      go_wp2_with fail
      refine HEnd.out.mono ?_
      rintro e we ⟨rfl, k, rfl⟩
      have bwe := below_drewN bwc k
      go_wp2_with (go_at_call 16; go_in)
      go_ret
      exact ⟨rfl, bwe⟩
    · rw [hE] at HEnd
      simp only [hE] at HEnd2
      go_wp2_with fail
      refine HEnd.out.mono ?_
      rintro e we ⟨rfl, k, rfl⟩
      go_wp2_with (go_at_call 16; go_in)
      refine (HEnd2 _).out.mono ?_
      rintro e wf ⟨rfl, k2, rfl⟩
      go_wp2_with (go_at_call 16; go_in)
      go_ret
      exact ⟨rfl, below_drewN bwc _⟩
#print axioms one_walk

end Go.Proofs.Ytnodhappbknclaa
