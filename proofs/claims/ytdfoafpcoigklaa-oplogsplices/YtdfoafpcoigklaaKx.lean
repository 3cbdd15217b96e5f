import Derived.Test.YtdfoafpcoigklaaKr
import Derived.Test.YtdfoafpcoigklaaKv
namespace Go.Proofs.Ytdfoafpcoigklaa
open Go.RowKit Go.Maps
open Classical
set_option linter.unusedVariables false
set_option linter.unusedSimpArgs false

set_option maxRecDepth 100000 in
set_option maxHeartbeats 1000000 in
theorem refsplice6_any (L T : List En) (a b : Option Addr) (n c nb cb : Nat) (room at_ : Int) (hat : (Lit.int .i64 at_).wf = true) (w : World) (h : SlY yE w a n c L) (ht : SlY yE w b nb cb T) (hf : ∀ e ∈ L, e.fits) (hft : ∀ e ∈ T, e.fits) (hb : nb * 48 ≤ 140737488355328) :
    Calls Try.prog 29 #[.slice a n c, .int .i64 room, .int .i64 at_, .slice b nb cb] w fun e w' => ∃ v, e = .returned (.tuple #[v, .int .i64 (spE L room at_ T)]) ∧ OwnY yE w.heap.size w' v (spL L room at_ T) ∧ Below w.heap.size w w' := by
  have hln := h.len
  have hcp := h.cap
  have hmx := h.max
  unfold maxLen at hmx
  have hab := (i64_wf hat).2
  have C1 := hide (refchk6_any L a n c room w h hf)
  have hz := chk_zero (L := L) (room := room)
  have HS := hide h
  have HT := hide ht
  clear h ht hat
  by_cases hx : (chk L room).1 = 0
  · obtain ⟨z1, z2, z3, z4⟩ := hz hx
    rw [hln] at z1 z4
    rw [hx] at C1
    generalize (chk L room).2 = X2 at C1
    by_cases h1 : at_ < 1
    · have e1 : Hid (spE L room at_ T = 61) := by show _ = _; simp [spE, hx, h1]
      have e2 : Hid (spL L room at_ T = []) := by show _ = _; simp [spL, e1.out]
      rw [e1.out, e2.out]
      have d1 : decide (at_ < 1) = true := by simpa using h1
      clear e1 e2 hab
      go_enter Try.func29, Try.ntmps29
      go_wp2_with (go_at_call 18; refine C1.out.mono ?_; rintro e w1 ⟨rfl, b1⟩)
      go_ret2
      exact ⟨_, rfl, OwnY.nil _ _ _, b1⟩
    · by_cases h2 : (n : Int) + 1 < at_
      · have e1 : Hid (spE L room at_ T = 61) := by show _ = _; simp [spE, hx, hln, h2]
        have e2 : Hid (spL L room at_ T = []) := by show _ = _; simp [spL, e1.out]
        rw [e1.out, e2.out]
        clear e1 e2
        go_enter Try.func29, Try.ntmps29
        go_wp2_with (go_at_call 18; refine C1.out.mono ?_; rintro e w1 ⟨rfl, b1⟩)
        go_ret2
        exact ⟨_, rfl, OwnY.nil _ _ _, b1⟩
      · obtain ⟨m, rfl⟩ : ∃ m : Nat, at_ = (m : Int) + 1 := ⟨(at_ - 1).toNat, by omega⟩
        have hm : m ≤ n := by omega
        clear hab
        obtain ⟨Z, hZ⟩ : ∃ Z, Z = L.take m ++ T := ⟨_, rfl⟩
        have hm1 : ((m : Int) + 1 - 1).toNat = m := by omega
        have e1 : Hid (spE L room ((m : Int) + 1) T = (chk Z room).1) := by
          show _ = _
          have : ¬ ((m : Int) + 1 < 1 ∨ (L.length : Int) + 1 < (m : Int) + 1) := by omega
          rw [spE, if_neg (by simp [hx]), if_neg this, hm1, hZ]
        have e2 : Hid (spL L room ((m : Int) + 1) T = if (chk Z room).1 = 0 then Z else []) := by
          show _ = _
          rw [spL, e1.out, hm1, hZ]
        rw [e1.out, e2.out]
        have HTK := hide (HS.out.take m hm)
        have hnil := HS.out.nil
        have HC2 : Hid (∀ (w2 : World) (ad : Option Addr) (p q : Nat), SlY yE w2 ad p q Z → Calls Try.prog 18 #[.slice ad p q, .int .i64 room] w2 fun e w' => e = .returned (.tuple #[.int .i64 (chk Z room).1, .int .i64 (chk Z room).2]) ∧ Below w2.heap.size w2 w') := fun w2 ad p q hs => refchk6_any Z _ p q room w2 hs (by
          intro e he
          rw [hZ, List.mem_append] at he
          rcases he with he | he
          · exact hf e (List.mem_of_mem_take he)
          · exact hft e he)
        have HLY : Hid (∀ (w2 : World), Below w.heap.size w w2 → Calls Try.prog 59 #[.slice a m c, .slice b nb cb] w2 fun e w' => ∃ v', e = .returned v' ∧ OwnY yE w2.heap.size w' v' Z ∧ Below w2.heap.size w2 w') := fun w2 hw2 => by
          rw [hZ]
          exact refjoin6_any _ _ _ _ _ _ _ _ w2 (HTK.out.later hw2) (HT.out.later hw2) (by omega) hb
        clear e1 e2 hf hft hm1 hz hx hZ HTK HS HT hln
        generalize chk Z room = Y at *
        obtain ⟨y, y2⟩ := Y
        dsimp only at *
        rcases a with _ | x
        · obtain ⟨rfl, rfl⟩ := hnil rfl
          obtain rfl : m = 0 := by omega
          clear hnil
          go_enter Try.func29, Try.ntmps29
          go_wp2_with fail
          refine C1.out.mono ?_
          rintro e w1 ⟨rfl, b1⟩
          go_wp2_with fail
          refine (HLY.out w1 b1).mono ?_
          rintro e w2 ⟨v2, rfl, o2, b2⟩
          have O2 := hide o2
          obtain ⟨a2, c2, hv2, _⟩ := o2.form
          generalize Z.length = zl at hv2
          subst hv2
          clear o2
          go_wp2_with fail
          refine (HC2.out w2 _ _ _ (O2.out.sl' kE)).mono ?_
          rintro e w3 ⟨rfl, b3⟩
          have z1 := b1.size
          have b4 : Below w.heap.size w w3 := (b1.trans (b2.mono z1)).trans (b3.mono (by have := b2.size; omega))
          have HO := hide ((O2.out.grow b3).low z1)
          clear O2 b2 HLY HC2 C1 b1 b3
          by_cases hy : y = 0
          · subst hy
            go_wp2
            go_ret2
            exact ⟨_, rfl, by simpa using HO.out, b4⟩
          · go_wp2
            go_ret2
            exact ⟨_, rfl, by first | exact OwnY.nil _ _ _ | (rw [if_neg hy]; exact OwnY.nil _ _ _), b4⟩
        · clear hnil
          go_enter Try.func29, Try.ntmps29
          go_wp2_with fail
          refine C1.out.mono ?_
          rintro e w1 ⟨rfl, b1⟩
          go_wp2_with fail
          refine (HLY.out w1 b1).mono ?_
          rintro e w2 ⟨v2, rfl, o2, b2⟩
          have O2 := hide o2
          obtain ⟨a2, c2, hv2, _⟩ := o2.form
          generalize Z.length = zl at hv2
          subst hv2
          clear o2
          go_wp2_with fail
          refine (HC2.out w2 _ _ _ (O2.out.sl' kE)).mono ?_
          rintro e w3 ⟨rfl, b3⟩
          have z1 := b1.size
          have b4 : Below w.heap.size w w3 := (b1.trans (b2.mono z1)).trans (b3.mono (by have := b2.size; omega))
          have HO := hide ((O2.out.grow b3).low z1)
          clear O2 b2 HLY HC2 C1 b1 b3
          by_cases hy : y = 0
          · subst hy
            go_wp2
            go_ret2
            exact ⟨_, rfl, by simpa using HO.out, b4⟩
          · go_wp2
            go_ret2
            exact ⟨_, rfl, by first | exact OwnY.nil _ _ _ | (rw [if_neg hy]; exact OwnY.nil _ _ _), b4⟩
  · have e1 : Hid (spE L room at_ T = (chk L room).1) := by show _ = _; simp [spE, hx]
    have e2 : Hid (spL L room at_ T = []) := by show _ = _; simp [spL, e1.out, hx]
    rw [e1.out, e2.out]
    clear e1 e2 hz hab
    generalize chk L room = Y at *
    obtain ⟨y, y2⟩ := Y
    dsimp only at *
    go_enter Try.func29, Try.ntmps29
    go_wp2_with (go_at_call 18; refine C1.out.mono ?_; rintro e w1 ⟨rfl, b1⟩)
    go_ret2
    exact ⟨_, rfl, OwnY.nil _ _ _, b1⟩
set_option maxRecDepth 100000 in
set_option maxHeartbeats 2000000 in
theorem splices6_walk (A B : List En) (a b : Option Addr) (ca cb : Nat) (room k : Int) (hk : (Lit.int .i64 k).wf = true) (w : World) (h : SlY yE w a A.length ca A) (hm : A.length * 48 ≤ 140737488351232) (hf : ∀ e ∈ A, e.fits) (h2 : SlY yE w b B.length cb B) (hm2 : B.length * 48 ≤ 140737488351232) (hf2 : ∀ e ∈ B, e.fits) :
    Calls Try.prog 6 #[.slice a A.length ca, .int .i64 room, .int .i64 k, .slice b B.length cb] w fun e w' => e = .returned (.bool true) ∧ Below w.heap.size w w' := by
  have HA := hide h
  have HB := hide h2
  have cg := hide (given6 A a ca w h hm)
  have HM2 : Hid (B.length * 48 ≤ 140737488355328) := by show _ ≤ _; omega
  have HM3 := hide hm2
  have HK := hide hk
  have HF := hide hf
  have HF2 := hide hf2
  clear h h2 hm hm2 hk hf hf2
  go_enter Try.func6, Try.ntmps6
  go_wp2_with fail
  refine cg.out.mono ?_
  rintro e w1 ⟨g, c1, va, vb, g5, k5, rfl, s1, G1, b1⟩
  have z1 := b1.size
  have G1h := hide G1
  clear cg G1 s1
  go_wp2_with fail
  refine (given_ent _ w.heap.size (w.heap.size + 1) va vb _ _ b B.length cb B w1 G1h.out (HB.out.later b1) HM3.out (by simp) rfl).mono ?_
  rintro e w2 ⟨h2, c2, va2, vb2, g6, k6, rfl, s2, hg2, G2, U2, _, _⟩
  have b2 : Below w.heap.size w w2 := b1.trans (U2.below (by omega) (fun k hk => by
    rcases hk with rfl | hk | hk
    · exact Nat.le_refl _
    · have := (G1h.out.oa.blk k hk).1; omega
    · have := (G1h.out.ob.blk k hk).1; omega))
  have S2 := hide s2
  have S1b := hide (show SlY yE w2 (some ⟨g, 0, none⟩) A.length c1 A from (G2.da ⟨some ⟨g, 0, none⟩, c1, A ++ [mkE]⟩ (by simp)).front kE rfl)
  have G2h := hide G2
  clear G2 s2 G1h U2 b1 hg2
  have z2 := b2.size
  go_wp2_with fail
  refine (spliceO_any A B (some ⟨g, 0, none⟩) (some ⟨h2, 0, none⟩) A.length c1 B.length c2 room k w2 S1b.out S2.out HF.out HF2.out HM2.out).mono ?_
  rintro e w3 ⟨v3, rfl, o3, b3⟩
  have O3 := hide o3
  obtain ⟨a3, c3, hv3, _⟩ := o3.form
  generalize (spL A room k B).length = m3 at hv3
  subst hv3
  have B3 := hide (b2.trans (b3.mono z2))
  clear o3 S1b S2
  go_wp2_with fail
  refine (refsplice6_any A B a b A.length ca B.length cb room k HK.out w3 (HA.out.later B3.out) (HB.out.later B3.out) HF.out HF2.out HM2.out).mono ?_
  rintro e w4 ⟨v4, rfl, o4, b4⟩
  have O4 := hide o4
  obtain ⟨a4, c4, hv4, _⟩ := o4.form
  generalize (spL A room k B).length = m4 at hv4
  subst hv4
  have G4 := hide ((G2h.out.bel b3).bel b4)
  have Q3 := hide ((O3.out.grow b4).sl' kE)
  have Q4 := hide (O4.out.sl' kE)
  obtain rfl : m3 = (spL A room k B).length := Q3.out.len.symm
  obtain rfl : m4 = (spL A room k B).length := Q4.out.len.symm
  have HBB := hide (B3.out.trans (b4.mono B3.out.size))
  have c1h := hide (sameents_any (spL A room k B) a3 a4 c3 c4 w4 Q3.out Q4.out)
  have ci := fun n => hide (intactE_any w.heap.size (w.heap.size + 1) va2 vb2 _ _ (w4.drewN n) (G4.out.bel (belN (Below.refl _ _) n)) rfl)
  have cw := hide (fun W => works6_any W)
  clear O3 O4 o4 b2 b3 b4 B3 G2h G4 Q3 Q4 HA HB HK HF HF2 HM2 HM3
  generalize (spL A room k B).length = m2 at *
  generalize spE A room k B = x1 at *
  go_wp2_with fail
  refine c1h.out.mono ?_
  rintro e w6 ⟨rfl, n6, rfl⟩
  go_wp2_with (first
    | (go_at_call 19; refine (ci n6).out.mono ?_; rintro e w8 ⟨rfl, n8, rfl⟩)
    | (go_at_call 20; refine (cw.out _).mono ?_; rintro e w9 ⟨rfl, b9⟩))
  go_ret
  exact ⟨rfl, (belN HBB.out (n6 + n8)).trans (b9.mono (by have := HBB.out.size; show w.heap.size ≤ w4.heap.size; omega))⟩
theorem splices6_came (a : Option Addr) (len cap : Nat) (room k : Int) (b : Option Addr) (len1 cap1 : Nat) (W : World) (h : CameE W a len cap) (hk : (Lit.int .i64 k).wf = true) (h1 : CameE W b len1 cap1) :
    Calls Try.prog 6 #[.slice a len cap, .int .i64 room, .int .i64 k, .slice b len1 cap1] W fun e w' => e = .returned (.bool true) ∧ Below W.heap.size W w' := by
  obtain ⟨P, hs, hf, hm⟩ := h
  obtain ⟨P1, hs1, hf1, hm1⟩ := h1
  obtain rfl := hs.len
  obtain rfl := hs1.len
  exact splices6_walk P P1 a b cap cap1 room k hk W hs hm hf hs1 hm1 hf1

end Go.Proofs.Ytdfoafpcoigklaa
