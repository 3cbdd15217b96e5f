import Derived.Test.YtegfbebhgihcaaaNv0
namespace Go.Proofs.Ytegfbebhgihcaaa
open Go.RowKit Go.Maps
open Classical
set_option linter.unusedVariables false
set_option linter.unusedSimpArgs false

theorem List.set_getElem?_self9 {l : List UInt8} {i : Nat} {x : UInt8} (h : l[i]? = some x) : l.set i x = l := by
  apply List.ext_getElem?
  intro j
  by_cases e : i = j
  · subst e
    rw [List.getElem?_set_self (List.getElem?_eq_some_iff.1 h).1, h]
  · rw [List.getElem?_set_ne e]
theorem hs_start {w w2 w3 : World} {b rl : Nat} {v : Value} {K : List Ap} {W : List Pk} (h : NetB w.heap.size w2 b 3 2 W rl) (hb : Below w.heap.size w w2) (O : Outs w2.heap.size w3 v K W) (b3 : Below w2.heap.size w2 w3) : Hs (fun _ => False) w w2.heap.size w3.heap.size b v K W w3 W := by
  obtain ⟨pv, rv, mb, n, R, M, h1, h2, h3, h4, h5, h6⟩ := h.ex
  exact ⟨⟨pv, rv, mb, n, R, M, h1.later b3, h2, h1.lt, fun g hg => ⟨h4 g hg, .inl (h1.plt g hg)⟩, fun j hj => hj.elim⟩, ⟨O.lf, fun k hk => (O.own.blk k hk).2, fun x hx k hk => ((O.out x hx).own.blk k hk).2⟩, hb.trans (b3.mono hb.size), Nat.le_refl _, b3.size⟩
set_option maxRecDepth 100000 in
set_option maxHeartbeats 4000000 in
theorem heap14 (L : List Ap) (a : Option Addr) (c : Nat) (i0 k0 at0 : Int) (m : UInt8) (w : World) (h : SlY yA w a L.length c L) (hin : ∀ x ∈ L, x.In w ∧ x.s.length ≤ 140737488351232) (hl : L.length * 40 ≤ 140737488351232) (hi0 : (Lit.int .i64 i0).wf = true) (hk0 : (Lit.int .i64 k0).wf = true) (ha0 : (Lit.int .i64 at0).wf = true) :
    Calls Try.prog 5 #[.slice a L.length c, .int .i64 i0, .int .i64 k0, .int .i64 at0, .int .u8 (m.toNat : Int)] w fun e w' => e = .returned (.bool true) ∧ Below w.heap.size w w' := by
  have HF := hide (filled_any L a c w h hin hl)
  clear h hin
  go_enter Try.func5, Try.ntmps5
  go_wp2_with fail
  refine HF.out.mono ?_
  rintro e w1 ⟨b, rfl, N1, b1⟩
  have HL1 : Hid (Calls Try.prog 34 #[.pointer (some ⟨b, 0, none⟩)] w1 fun e w' => e = .returned (.int .i64 (L.length : Int)) ∧ w' = w1) := by
    have := len14_b N1
    rw [List.length_map] at this
    exact this
  have HN1 := hide N1
  have HB1 := hide b1
  clear N1 b1 HF
  go_wp2_with fail
  refine HL1.out.mono ?_
  rintro e w_ ⟨rfl, hy_⟩
  rw [hy_]; clear hy_ w_ HL1
  go_wp2_with fail
  refine (works14 w1).mono ?_
  rintro e w2 ⟨rfl, b2⟩
  have HN2 := hide (HN1.out.later b2)
  have HB2 := hide (HB1.out.trans (b2.mono HB1.out.size))
  clear b2 HN1 HB1
  by_cases hL0 : L = []
  · subst hL0
    obtain ⟨pv, rv, mb, n, R, M, h1, _⟩ := HN2.out.ex
    have HC := hide (copy_bad 0 h1 (.inr (by simp)))
    have HD := hide (drop_bad 0 h1 (.inr (by simp)))
    have HS := hide (swap_bad 0 0 h1 (.inl (.inr (by simp))))
    have HT := hide (turn_bad 0 0 1 h1 (.inr (by simp)))
    clear h1 HN2
    go_wp2_with fail
    refine HC.out.mono ?_
    rintro e w_ ⟨rfl, hy_⟩
    rw [hy_]; clear hy_ w_
    go_wp2_with fail
    refine HD.out.mono ?_
    rintro e w_ ⟨rfl, hy_⟩
    rw [hy_]; clear hy_ w_
    go_wp2_with fail
    refine HS.out.mono ?_
    rintro e w_ ⟨rfl, hy_⟩
    rw [hy_]; clear hy_ w_
    go_wp2_with fail
    refine HT.out.mono ?_
    rintro e w_ ⟨rfl, hy_⟩
    rw [hy_]; clear hy_ w_
    go_wp2
    go_ret
    exact ⟨rfl, HB2.out⟩
  have hLp : 0 < L.length := List.length_pos_iff.2 hL0
  have d0 : ¬ (L.length : Int) = 0 := by omega
  have d0' : ¬ L.length = 0 := by omega
  have hwk : IntKind.i64.wrap ((L.length : Int) - 1) = (L.length : Int) - 1 := by rw [IntKind.wrap_i64]; omega
  have hwk1 : IntKind.i64.wrap ((L.length : Int) + 1) = (L.length : Int) + 1 := by rw [IntKind.wrap_i64]; omega
  have HI := hide (within_any i0 ((L.length : Int) - 1) w2 (by omega) (by omega) hi0)
  have HK := hide (within_any k0 ((L.length : Int) - 1) w2 (by omega) (by omega) hk0)
  have HP := hide (pool_any b (L.map fitP) L.length w.heap.size w2 HN2.out (by rw [List.length_map]; omega))
  clear hi0 hk0
  go_wp2_with fail
  refine HI.out.mono ?_
  rintro e w_ ⟨i, rfl, hi, hy_⟩
  rw [hy_]; clear hy_ w_ HI
  go_wp2_with fail
  refine HK.out.mono ?_
  rintro e w_ ⟨k, rfl, hk, hy_⟩
  rw [hy_]; clear hy_ w_ HK
  have hi1 : i < L.length := by omega
  have hk1 : k < L.length := by omega
  clear hi hk
  go_wp2_with fail
  refine HP.out.mono ?_
  rintro e w3 ⟨v, K, rfl, O3, b3⟩
  have H3 := hs_start HN2.out HB2.out O3 b3
  obtain ⟨W, hW⟩ : ∃ W, W = L.map fitP := ⟨_, rfl⟩
  rw [← hW] at H3
  have HWL : Hid (W.length = L.length) := by show _ = _; rw [hW, List.length_map]
  have HKL : Hid (K.length = L.length) := H3.l.l.len.trans HWL.out
  obtain ⟨va, vc, hv, _⟩ := O3.own.form
  rw [HKL.out] at hv
  subst hv
  generalize w2.heap.size = Bp at H3
  generalize w3.heap.size = Tp at H3
  have HH3 := hide H3
  obtain ⟨u, hu⟩ : ∃ u, K[i]? = some u := ⟨_, List.getElem?_eq_getElem (by rw [HKL.out]; exact hi1)⟩
  obtain ⟨t, ht⟩ : ∃ t, K[k]? = some t := ⟨_, List.getElem?_eq_getElem (by rw [HKL.out]; exact hk1)⟩
  have HXW : Hid (W[i]? = some u.pk) := by show _ = _; rw [← HH3.out.l.l.pk, List.getElem?_map, hu]; rfl
  have HYW : Hid (W[k]? = some t.pk) := by show _ = _; rw [← HH3.out.l.l.pk, List.getElem?_map, ht]; rfl
  have HU := hide hu
  have HUS : Hid (u.s.length ≤ 32768) := by
    obtain ⟨pv, rv, mb, n, R, M, k1, _⟩ := HH3.out.n.ex
    exact k1.sp u.pk (List.mem_of_getElem? HXW.out)
  have HSL : Hid (∀ z ∈ K, z.s.length ≤ 140737488351232) := fun z hz => by
    obtain ⟨pv, rv, mb, n, R, M, k1, _⟩ := HH3.out.n.ex
    have h2 : z.s.length ≤ 32768 := k1.sp z.pk (by rw [← HH3.out.l.l.pk]; exact List.mem_map_of_mem hz)
    omega
  have HTt := hide ht
  obtain ⟨qw, ow, hqa, _, _⟩ := (OwnY.sl' kA HH3.out.l.l.own).place (by rintro rfl; simp at hu)
  subst hqa
  clear O3 b3 HP HN2 HB2 H3 hW hu ht hL0
  have HS1 := hide (hs_swap HH3.out i k u.pk t.pk HXW.out HYW.out (by rw [HWL.out]; omega))
  go_wp2_with fail
  refine HS1.out.mono ?_
  rintro e w4 ⟨rfl, h4, _⟩
  have HS2 := hide (hs_swap h4 k i u.pk t.pk (swap2 HXW.out HYW.out).1 (swap2 HXW.out HYW.out).2.1 (by simp only [List.length_set]; rw [HWL.out]; omega))
  clear h4 HS1 HH3
  go_wp2_with fail
  refine HS2.out.mono ?_
  rintro e w5 ⟨rfl, h5, _⟩
  rw [(swap2 HXW.out HYW.out).2.2] at h5
  have HH5 := hide h5
  have HP5 := hide (hs_pool h5 (by rw [HWL.out]; omega))
  clear h5 HS2
  go_wp2_with fail
  refine HP5.out.mono ?_
  rintro e w6 ⟨pa, pc, K6, rfl, s6, i6, p6, h6, _⟩
  rw [HWL.out] at s6
  have HL6 := HWL.out
  rw [HL6]
  have HSm := hide (hs_same h6 rfl HKL.out s6 i6 p6 (by omega))
  clear HL6 s6 i6 p6 h6 HP5 HH5
  go_wp2_with fail
  refine HSm.out.mono ?_
  rintro e w7 ⟨rfl, h7⟩
  have HH7 := hide h7
  clear h7 HSm
  have HC := hide (hs_copy HH7.out i u.pk HXW.out (by rw [HWL.out]; omega))
  go_wp2_with fail
  refine HC.out.mono ?_
  rintro e w8 ⟨rfl, h8⟩
  have hlast : (W ++ [u.pk])[W.length]? = some u.pk := by simp
  rw [HWL.out] at hlast
  have HA := hide (hs_at h8 L.length u.pk hlast)
  clear h8 HC HH7 hlast
  go_wp2_with fail
  refine HA.out.mono ?_
  rintro e w9 ⟨z, rfl, hz, oz, h9, _⟩
  have HZ := hide hz
  have B10 := (Below.refl _ w9).alloc (Nat.le_refl _) (.cells #[.int .i64 z.f, .int .i64 z.t, .slice z.a z.s.length z.c] 46)
  have G10 : Hid (Hs (fun j => j = w9.heap.size) w Bp Tp b (.slice (some ⟨qw, ow, none⟩) L.length vc) K W (w9.alloc (.cells #[.int .i64 z.f, .int .i64 z.t, .slice z.a z.s.length z.c] 46)) (W ++ [u.pk]) ∧ B3 (w9.alloc (.cells #[.int .i64 z.f, .int .i64 z.t, .slice z.a z.s.length z.c] 46)) w9.heap.size (.int .i64 z.f) (.int .i64 z.t) (.slice z.a z.s.length z.c) ∧ z.In (w9.alloc (.cells #[.int .i64 z.f, .int .i64 z.t, .slice z.a z.s.length z.c] 46))) := ⟨h9.stepA B10 (fun j hj => .inr (by subst hj; simp)), B3.new _ _ _ _ _, SlY.later oz.sl B10⟩
  have hTq : Tp ≤ w9.heap.size := h9.tp
  clear HA hz oz h9 B10
  unfold Ap.val
  go_wp2_with fail
  generalize w9.alloc (.cells #[.int .i64 z.f, .int .i64 z.t, .slice z.a z.s.length z.c] 46) = w10 at *
  generalize w9.heap.size = q at *
  have ii : (i : Int) < (L.length : Int) := by omega
  have KF : Hid (∀ v', Below w10.heap.size w10.drew v' → v'.cell? ⟨q, 0, none⟩ = some (.int .i64 z.f) ∧ v'.cell? ⟨q, 1, none⟩ = some (.int .i64 z.t) ∧ v'.cell? ⟨q, 2, none⟩ = some (.slice z.a z.s.length z.c) ∧ v'.cell? ⟨qw, ow + i * 3, none⟩ = some (.int .i64 u.f) ∧ v'.cell? ⟨qw, ow + i * 3 + 1, none⟩ = some (.int .i64 u.t) ∧ v'.cell? ⟨qw, ow + i * 3 + 2, none⟩ = some (.slice u.a u.s.length u.c)) := fun v' hv' => by
    have hb' := (Below.refl w10.heap.size w10).drew.trans hv'
    have h3 := G10.out.2.1.bel hb'
    have hc := (G10.out.1.step hb').cells HU.out
    exact ⟨h3.c0, h3.c1, h3.c2, hc.1, hc.2.1, hc.2.2.1⟩
  have s0 := KF.out w10.drew (Below.refl _ _)
  have HLn : Hid (Calls Try.prog 34 #[.pointer (some ⟨b, 0, none⟩)] w10.drew fun e w' => e = .returned (.int .i64 ((L.length : Int) + 1)) ∧ w' = w10.drew) := by
    have := hs_len (G10.out.1.step (Below.refl _ _).drew)
    rw [List.length_append, HWL.out] at this
    exact this
  have HSm := hide (same14_eq z u w10.drew (SlY.later G10.out.2.2 (Below.refl _ _).drew) ((G10.out.1.step (Below.refl _ _).drew).cells HU.out).2.2.2 HZ.out)
  unfold Ap.val at HSm
  go_region_held3 (fun v' => v'.cell? ⟨q, 0, none⟩ = some (.int .i64 z.f) ∧ v'.cell? ⟨q, 1, none⟩ = some (.int .i64 z.t) ∧ v'.cell? ⟨q, 2, none⟩ = some (.slice z.a z.s.length z.c) ∧ v'.cell? ⟨qw, ow + i * 3, none⟩ = some (.int .i64 u.f) ∧ v'.cell? ⟨qw, ow + i * 3 + 1, none⟩ = some (.int .i64 u.t) ∧ v'.cell? ⟨qw, ow + i * 3 + 2, none⟩ = some (.slice u.a u.s.length u.c)) (first | with_reducible assumption | go_keep)
    (first | (go_at_call 34; refine HLn.out.mono ?_; rintro e w_ ⟨rfl, hy_⟩; rw [hy_]; clear hy_ w_) | (go_at_call 20; refine HSm.out.mono ?_; rintro e w11 ⟨rfl, b11⟩; have s1 := KF.out w11 b11))
  have b11' := (Below.refl w10.heap.size w10).drew.trans b11
  have G11 : Hid (Hs (fun j => j = q) w Bp Tp b (.slice (some ⟨qw, ow, none⟩) L.length vc) K W w11 (W ++ [u.pk]) ∧ B3 w11 q (.int .i64 z.f) (.int .i64 z.t) (.slice z.a z.s.length z.c)) := ⟨G10.out.1.step b11', G10.out.2.1.bel b11'⟩
  clear b11 b11' s0 KF HLn HSm G10 HZ
  obtain ⟨_, _, r2⟩ := s1.2.2.2
  clear s1
  go_upto_region 17 with fail
  refine wp_region_lit ?_
  refine vl_gen (fun T => T.size = 283 ∧ T[0]? = some (gw true (.slice a L.length c)) ∧ T[1]? = some (gw true (.int .i64 (i : Int))) ∧ T[2]? = some (gw true (.int .i64 (k : Int))) ∧ T[3]? = some (gw true (.int .i64 at0)) ∧ T[4]? = some (gw true (.int .u8 (m.toNat : Int))) ∧ T[11]? = some (gw true (.pointer (some ⟨b, 0, none⟩))) ∧ T[12]? = some (gw true (.slice (some ⟨qw, ow, none⟩) L.length vc)) ∧ T[15]? = some (gw true (.pointer (some ⟨q, 0, none⟩)))) ⟨rfl, rfl, rfl, rfl, rfl, rfl, rfl, rfl, rfl⟩ (fun Z0 ⟨hz, s0, s1, s2, s3, s4, s11, s12, s15⟩ => ?_)
  have HS := G11.out.1
  have BQ := G11.out.2
  clear G11
  have hWL := HWL.out
  have hKL := HKL.out
  have hUS := HUS.out
  have hqb := HS.ne (q := q) rfl
  refine vl true (.slice (some ⟨qw, ow, none⟩) L.length vc) (want_none rfl) (fun hc => ex_move rfl (ev s12 rfl)) rfl hz (by decide) (fun A17_1 zz kk s126x => ?_)
  replace s0 := (kk 0 (by decide)).trans s0
  replace s1 := (kk 1 (by decide)).trans s1
  replace s2 := (kk 2 (by decide)).trans s2
  replace s3 := (kk 3 (by decide)).trans s3
  replace s4 := (kk 4 (by decide)).trans s4
  replace s11 := (kk 11 (by decide)).trans s11
  replace s12 := (kk 12 (by decide)).trans s12
  replace s15 := (kk 15 (by decide)).trans s15
  clear kk hz
  have hz := zz
  have s126 := s126x
  clear zz s126x
  refine vl true (.int .i64 (i : Int)) (want_none rfl) (fun hc => ex_move rfl (ev s1 rfl)) rfl hz (by decide) (fun A17_2 zz kk s127x => ?_)
  replace s0 := (kk 0 (by decide)).trans s0
  replace s1 := (kk 1 (by decide)).trans s1
  replace s2 := (kk 2 (by decide)).trans s2
  replace s3 := (kk 3 (by decide)).trans s3
  replace s4 := (kk 4 (by decide)).trans s4
  replace s11 := (kk 11 (by decide)).trans s11
  replace s12 := (kk 12 (by decide)).trans s12
  replace s15 := (kk 15 (by decide)).trans s15
  replace s126 := (kk 126 (by decide)).trans s126
  clear kk hz
  have hz := zz
  have s127 := s127x
  clear zz s127x A17_1
  refine vl true (.pointer (some ⟨qw, ow + i * 3, none⟩)) (want_none rfl) (fun hc => ex_ix rfl (ev s126 rfl) (ev s127 rfl) (ixP qw ow L.length vc i hi1 _)) rfl hz (by decide) (fun A17_3 zz kk s128x => ?_)
  replace s0 := (kk 0 (by decide)).trans s0
  replace s1 := (kk 1 (by decide)).trans s1
  replace s2 := (kk 2 (by decide)).trans s2
  replace s3 := (kk 3 (by decide)).trans s3
  replace s4 := (kk 4 (by decide)).trans s4
  replace s11 := (kk 11 (by decide)).trans s11
  replace s12 := (kk 12 (by decide)).trans s12
  replace s15 := (kk 15 (by decide)).trans s15
  clear kk hz s126 s127
  have hz := zz
  have s128 := s128x
  clear zz s128x A17_2
  refine vl true (.pointer (some ⟨qw, ow + i * 3 + 2, none⟩)) (want_none rfl) (fun hc => ex_fa rfl (ev s128 rfl) (faB _ _ _)) rfl hz (by decide) (fun A17_4 zz kk s129x => ?_)
  replace s0 := (kk 0 (by decide)).trans s0
  replace s1 := (kk 1 (by decide)).trans s1
  replace s2 := (kk 2 (by decide)).trans s2
  replace s3 := (kk 3 (by decide)).trans s3
  replace s4 := (kk 4 (by decide)).trans s4
  replace s11 := (kk 11 (by decide)).trans s11
  replace s12 := (kk 12 (by decide)).trans s12
  replace s15 := (kk 15 (by decide)).trans s15
  clear kk hz s128
  have hz := zz
  have s129 := s129x
  clear zz s129x A17_3
  refine vl true (.slice u.a u.s.length u.c) (want_none rfl) (fun hc => ex_ld rfl (ev s129 rfl) ((HS.c3 HU.out).ldB)) rfl hz (by decide) (fun A17_5 zz kk s130x => ?_)
  replace s0 := (kk 0 (by decide)).trans s0
  replace s1 := (kk 1 (by decide)).trans s1
  replace s2 := (kk 2 (by decide)).trans s2
  replace s3 := (kk 3 (by decide)).trans s3
  replace s4 := (kk 4 (by decide)).trans s4
  replace s11 := (kk 11 (by decide)).trans s11
  replace s12 := (kk 12 (by decide)).trans s12
  replace s15 := (kk 15 (by decide)).trans s15
  clear kk hz s129
  have hz := zz
  have s130 := s130x
  clear zz s130x A17_4
  refine vl true (.int .i64 (u.s.length : Int)) (want_none rfl) (fun hc => ex_lenU rfl rfl (ev s130 rfl)) rfl hz (by decide) (fun A17_6 zz kk s131x => ?_)
  replace s0 := (kk 0 (by decide)).trans s0
  replace s1 := (kk 1 (by decide)).trans s1
  replace s2 := (kk 2 (by decide)).trans s2
  replace s3 := (kk 3 (by decide)).trans s3
  replace s4 := (kk 4 (by decide)).trans s4
  replace s11 := (kk 11 (by decide)).trans s11
  replace s12 := (kk 12 (by decide)).trans s12
  replace s15 := (kk 15 (by decide)).trans s15
  clear kk hz s130
  have hz := zz
  have s131 := s131x
  clear zz s131x A17_5
  refine vl true (.bool (decide ((0 : Int) < (u.s.length : Int)))) (want_none rfl) (fun hc => ex_bin rfl (ev s131 rfl) rfl (gtrC _ _ _ _ _)) rfl hz (by decide) (fun A17_7 zz kk s132x => ?_)
  replace s0 := (kk 0 (by decide)).trans s0
  replace s1 := (kk 1 (by decide)).trans s1
  replace s2 := (kk 2 (by decide)).trans s2
  replace s3 := (kk 3 (by decide)).trans s3
  replace s4 := (kk 4 (by decide)).trans s4
  replace s11 := (kk 11 (by decide)).trans s11
  replace s12 := (kk 12 (by decide)).trans s12
  replace s15 := (kk 15 (by decide)).trans s15
  clear kk hz s131
  have hz := zz
  have s132 := s132x
  clear zz s132x A17_6
  refine wpList_nil ?_
  go_upto_region 18 with fail
  refine v_cond9 (fun T w9 => T.size = 283 ∧ T[0]? = some (gw true (.slice a L.length c)) ∧ T[2]? = some (gw true (.int .i64 (k : Int))) ∧ T[11]? = some (gw true (.pointer (some ⟨b, 0, none⟩))) ∧ T[12]? = some (gw true (.slice (some ⟨qw, ow, none⟩) L.length vc)) ∧ Hid (Hs (fun _ => False) w Bp Tp b (.slice (some ⟨qw, ow, none⟩) L.length vc) K W w9 (W ++ [u.pk]))) s132 (fun hu => ?_) (fun hu => ⟨hz, s0, s2, s11, s12, HS.less (fun j hj => hj.elim)⟩) ?_
  · clear s132
    have hs0 : 0 < u.s.length := by have := of_decide_eq_true hu; omega
    clear hu
    go_upto_region 18 with fail
    refine wp_region_lit ?_
    refine vl true (.int .i64 at0) (want_none rfl) (fun hc => ex_move rfl (ev s3 rfl)) rfl hz (by decide) (fun A18_1 zz kk s133x => ?_)
    replace s0 := (kk 0 (by decide)).trans s0
    replace s1 := (kk 1 (by decide)).trans s1
    replace s2 := (kk 2 (by decide)).trans s2
    replace s3 := (kk 3 (by decide)).trans s3
    replace s4 := (kk 4 (by decide)).trans s4
    replace s11 := (kk 11 (by decide)).trans s11
    replace s12 := (kk 12 (by decide)).trans s12
    replace s15 := (kk 15 (by decide)).trans s15
    clear kk hz
    have hz := zz
    have s133 := s133x
    clear zz s133x
    refine vl true (.slice (some ⟨qw, ow, none⟩) L.length vc) (want_none rfl) (fun hc => ex_move rfl (ev s12 rfl)) rfl hz (by decide) (fun A18_2 zz kk s134x => ?_)
    replace s0 := (kk 0 (by decide)).trans s0
    replace s1 := (kk 1 (by decide)).trans s1
    replace s2 := (kk 2 (by decide)).trans s2
    replace s3 := (kk 3 (by decide)).trans s3
    replace s4 := (kk 4 (by decide)).trans s4
    replace s11 := (kk 11 (by decide)).trans s11
    replace s12 := (kk 12 (by decide)).trans s12
    replace s15 := (kk 15 (by decide)).trans s15
    replace s133 := (kk 133 (by decide)).trans s133
    clear kk hz
    have hz := zz
    have s134 := s134x
    clear zz s134x A18_1
    refine vl true (.int .i64 (i : Int)) (want_none rfl) (fun hc => ex_move rfl (ev s1 rfl)) rfl hz (by decide) (fun A18_3 zz kk s135x => ?_)
    replace s0 := (kk 0 (by decide)).trans s0
    replace s1 := (kk 1 (by decide)).trans s1
    replace s2 := (kk 2 (by decide)).trans s2
    replace s3 := (kk 3 (by decide)).trans s3
    replace s4 := (kk 4 (by decide)).trans s4
    replace s11 := (kk 11 (by decide)).trans s11
    replace s12 := (kk 12 (by decide)).trans s12
    replace s15 := (kk 15 (by decide)).trans s15
    replace s133 := (kk 133 (by decide)).trans s133
    replace s134 := (kk 134 (by decide)).trans s134
    clear kk hz
    have hz := zz
    have s135 := s135x
    clear zz s135x A18_2
    refine vl true (.pointer (some ⟨qw, ow + i * 3, none⟩)) (want_none rfl) (fun hc => ex_ix rfl (ev s134 rfl) (ev s135 rfl) (ixP qw ow L.length vc i hi1 _)) rfl hz (by decide) (fun A18_4 zz kk s136x => ?_)
    replace s0 := (kk 0 (by decide)).trans s0
    replace s1 := (kk 1 (by decide)).trans s1
    replace s2 := (kk 2 (by decide)).trans s2
    replace s3 := (kk 3 (by decide)).trans s3
    replace s4 := (kk 4 (by decide)).trans s4
    replace s11 := (kk 11 (by decide)).trans s11
    replace s12 := (kk 12 (by decide)).trans s12
    replace s15 := (kk 15 (by decide)).trans s15
    replace s133 := (kk 133 (by decide)).trans s133
    clear kk hz s134 s135
    have hz := zz
    have s136 := s136x
    clear zz s136x A18_3
    refine vl true (.pointer (some ⟨qw, ow + i * 3 + 2, none⟩)) (want_none rfl) (fun hc => ex_fa rfl (ev s136 rfl) (faB _ _ _)) rfl hz (by decide) (fun A18_5 zz kk s137x => ?_)
    replace s0 := (kk 0 (by decide)).trans s0
    replace s1 := (kk 1 (by decide)).trans s1
    replace s2 := (kk 2 (by decide)).trans s2
    replace s3 := (kk 3 (by decide)).trans s3
    replace s4 := (kk 4 (by decide)).trans s4
    replace s11 := (kk 11 (by decide)).trans s11
    replace s12 := (kk 12 (by decide)).trans s12
    replace s15 := (kk 15 (by decide)).trans s15
    replace s133 := (kk 133 (by decide)).trans s133
    clear kk hz s136
    have hz := zz
    have s137 := s137x
    clear zz s137x A18_4
    refine vl true (.slice u.a u.s.length u.c) (want_none rfl) (fun hc => ex_ld rfl (ev s137 rfl) ((HS.c3 HU.out).ldB)) rfl hz (by decide) (fun A18_6 zz kk s138x => ?_)
    replace s0 := (kk 0 (by decide)).trans s0
    replace s1 := (kk 1 (by decide)).trans s1
    replace s2 := (kk 2 (by decide)).trans s2
    replace s3 := (kk 3 (by decide)).trans s3
    replace s4 := (kk 4 (by decide)).trans s4
    replace s11 := (kk 11 (by decide)).trans s11
    replace s12 := (kk 12 (by decide)).trans s12
    replace s15 := (kk 15 (by decide)).trans s15
    replace s133 := (kk 133 (by decide)).trans s133
    clear kk hz s137
    have hz := zz
    have s138 := s138x
    clear zz s138x A18_5
    refine vl true (.int .i64 (u.s.length : Int)) (want_none rfl) (fun hc => ex_lenU rfl rfl (ev s138 rfl)) rfl hz (by decide) (fun A18_7 zz kk s139x => ?_)
    replace s0 := (kk 0 (by decide)).trans s0
    replace s1 := (kk 1 (by decide)).trans s1
    replace s2 := (kk 2 (by decide)).trans s2
    replace s3 := (kk 3 (by decide)).trans s3
    replace s4 := (kk 4 (by decide)).trans s4
    replace s11 := (kk 11 (by decide)).trans s11
    replace s12 := (kk 12 (by decide)).trans s12
    replace s15 := (kk 15 (by decide)).trans s15
    replace s133 := (kk 133 (by decide)).trans s133
    clear kk hz s138
    have hz := zz
    have s139 := s139x
    clear zz s139x A18_6
    refine vl true (.int .i64 ((u.s.length : Int) - 1)) (want_none rfl) (fun hc => ex_bin rfl (ev s139 rfl) rfl (subI _ _ u.s.length (by omega) (by omega) _)) rfl hz (by decide) (fun A18_8 zz kk s140x => ?_)
    replace s0 := (kk 0 (by decide)).trans s0
    replace s1 := (kk 1 (by decide)).trans s1
    replace s2 := (kk 2 (by decide)).trans s2
    replace s3 := (kk 3 (by decide)).trans s3
    replace s4 := (kk 4 (by decide)).trans s4
    replace s11 := (kk 11 (by decide)).trans s11
    replace s12 := (kk 12 (by decide)).trans s12
    replace s15 := (kk 15 (by decide)).trans s15
    replace s133 := (kk 133 (by decide)).trans s133
    clear kk hz s139
    have hz := zz
    have s140 := s140x
    clear zz s140x A18_7
    refine vcallP (want_none rfl) (ex_call rfl (by simp only [List.map_toArray, List.map_cons, List.map_nil, (ev s133 rfl), (ev s140 rfl), evc] <;> rfl) rfl) (within_any at0 ((u.s.length : Int) - 1) w11 (by omega) (by omega) ha0) rfl hz (by decide) ?_
    rintro e w_ ⟨at_, rfl, hat, hy_⟩; rw [hy_]; clear hy_ w_
    refine ⟨_, rfl, fun A18_9 zz kk s141x => ?_⟩
    have hat1 : at_ < u.s.length := by omega
    clear hat
    replace s0 := (kk 0 (by decide)).trans s0
    replace s1 := (kk 1 (by decide)).trans s1
    replace s2 := (kk 2 (by decide)).trans s2
    replace s3 := (kk 3 (by decide)).trans s3
    replace s4 := (kk 4 (by decide)).trans s4
    replace s11 := (kk 11 (by decide)).trans s11
    replace s12 := (kk 12 (by decide)).trans s12
    replace s15 := (kk 15 (by decide)).trans s15
    clear kk hz s133 s140
    have hz := zz
    have s141 := s141x
    clear zz s141x A18_8
    refine vl true (.int .i64 (at_ : Int)) (want_none rfl) (fun hc => ex_assign rfl (ev s141 rfl)) rfl hz (by decide) (fun A18_10 zz kk s3x => ?_)
    replace s0 := (kk 0 (by decide)).trans s0
    replace s1 := (kk 1 (by decide)).trans s1
    replace s2 := (kk 2 (by decide)).trans s2
    replace s4 := (kk 4 (by decide)).trans s4
    replace s11 := (kk 11 (by decide)).trans s11
    replace s12 := (kk 12 (by decide)).trans s12
    replace s15 := (kk 15 (by decide)).trans s15
    clear kk hz s141 s3
    have hz := zz
    have s3 := s3x
    clear zz s3x A18_9
    refine wpList_nil ?_
    have hlast : (W ++ [u.pk])[L.length]? = some u.pk := by rw [← hWL]; simp
    have hset : (W ++ [u.pk]).set L.length (tnP u.pk at_ m) = W ++ [tnP u.pk at_ m] := by rw [← hWL]; exact set_last W u.pk (tnP u.pk at_ m)
    have hlast2 : (W ++ [tnP u.pk at_ m])[L.length]? = some (tnP u.pk at_ m) := by rw [← hWL]; simp
    have hsz32 : (L.length + 1) * 32 ≤ 168884986026393 := by omega
    have hl2 : ∀ x : Pk, (W ++ [x]).length * 32 ≤ 168884986026393 := fun x => by rw [List.length_append, hWL]; exact hsz32
    obtain ⟨u0, hu0⟩ : ∃ z, u.s[at_]? = some z := ⟨_, List.getElem?_eq_getElem hat1⟩
    go_upto_region 19 with fail
    refine wp_region_lit ?_
    refine vl true (.pointer (some ⟨b, 0, none⟩)) (want_none rfl) (fun hc => ex_move rfl (ev s11 rfl)) rfl hz (by decide) (fun A19_1 zz kk s142x => ?_)
    replace s0 := (kk 0 (by decide)).trans s0
    replace s1 := (kk 1 (by decide)).trans s1
    replace s2 := (kk 2 (by decide)).trans s2
    replace s3 := (kk 3 (by decide)).trans s3
    replace s4 := (kk 4 (by decide)).trans s4
    replace s11 := (kk 11 (by decide)).trans s11
    replace s12 := (kk 12 (by decide)).trans s12
    replace s15 := (kk 15 (by decide)).trans s15
    clear kk hz
    have hz := zz
    have s142 := s142x
    clear zz s142x
    refine vl true (.slice a L.length c) (want_none rfl) (fun hc => ex_move rfl (ev s0 rfl)) rfl hz (by decide) (fun A19_2 zz kk s143x => ?_)
    replace s0 := (kk 0 (by decide)).trans s0
    replace s1 := (kk 1 (by decide)).trans s1
    replace s2 := (kk 2 (by decide)).trans s2
    replace s3 := (kk 3 (by decide)).trans s3
    replace s4 := (kk 4 (by decide)).trans s4
    replace s11 := (kk 11 (by decide)).trans s11
    replace s12 := (kk 12 (by decide)).trans s12
    replace s15 := (kk 15 (by decide)).trans s15
    replace s142 := (kk 142 (by decide)).trans s142
    clear kk hz
    have hz := zz
    have s143 := s143x
    clear zz s143x A19_1
    refine vl true (.int .i64 (L.length : Int)) (want_none rfl) (fun hc => ex_lenP rfl rfl (ev s143 rfl)) rfl hz (by decide) (fun A19_3 zz kk s144x => ?_)
    replace s0 := (kk 0 (by decide)).trans s0
    replace s1 := (kk 1 (by decide)).trans s1
    replace s2 := (kk 2 (by decide)).trans s2
    replace s3 := (kk 3 (by decide)).trans s3
    replace s4 := (kk 4 (by decide)).trans s4
    replace s11 := (kk 11 (by decide)).trans s11
    replace s12 := (kk 12 (by decide)).trans s12
    replace s15 := (kk 15 (by decide)).trans s15
    replace s142 := (kk 142 (by decide)).trans s142
    clear kk hz s143
    have hz := zz
    have s144 := s144x
    clear zz s144x A19_2
    refine vl true (.int .i64 (at_ : Int)) (want_none rfl) (fun hc => ex_move rfl (ev s3 rfl)) rfl hz (by decide) (fun A19_4 zz kk s145x => ?_)
    replace s0 := (kk 0 (by decide)).trans s0
    replace s1 := (kk 1 (by decide)).trans s1
    replace s2 := (kk 2 (by decide)).trans s2
    replace s3 := (kk 3 (by decide)).trans s3
    replace s4 := (kk 4 (by decide)).trans s4
    replace s11 := (kk 11 (by decide)).trans s11
    replace s12 := (kk 12 (by decide)).trans s12
    replace s15 := (kk 15 (by decide)).trans s15
    replace s142 := (kk 142 (by decide)).trans s142
    replace s144 := (kk 144 (by decide)).trans s144
    clear kk hz
    have hz := zz
    have s145 := s145x
    clear zz s145x A19_3
    refine vl true (.int .u8 (m.toNat : Int)) (want_none rfl) (fun hc => ex_move rfl (ev s4 rfl)) rfl hz (by decide) (fun A19_5 zz kk s146x => ?_)
    replace s0 := (kk 0 (by decide)).trans s0
    replace s1 := (kk 1 (by decide)).trans s1
    replace s2 := (kk 2 (by decide)).trans s2
    replace s3 := (kk 3 (by decide)).trans s3
    replace s4 := (kk 4 (by decide)).trans s4
    replace s11 := (kk 11 (by decide)).trans s11
    replace s12 := (kk 12 (by decide)).trans s12
    replace s15 := (kk 15 (by decide)).trans s15
    replace s142 := (kk 142 (by decide)).trans s142
    replace s144 := (kk 144 (by decide)).trans s144
    replace s145 := (kk 145 (by decide)).trans s145
    clear kk hz
    have hz := zz
    have s146 := s146x
    clear zz s146x A19_4
    refine vcallP (want_none rfl) (ex_call rfl (by simp only [List.map_toArray, List.map_cons, List.map_nil, (ev s142 rfl), (ev s144 rfl), (ev s145 rfl), (ev s146 rfl), evc] <;> rfl) rfl) (hs_turn HS L.length at_ m u.pk hlast hat1 (hl2 _)) rfl hz (by decide) ?_
    rintro e w12 ⟨rfl, hS12, U12⟩
    refine ⟨_, rfl, fun A19_6 zz kk s147x => ?_⟩
    rw [hset] at hS12
    have BQ2 := BQ.upd U12 hqb
    clear HS BQ U12
    have HS := hS12
    have BQ := BQ2
    clear hS12 BQ2
    replace s0 := (kk 0 (by decide)).trans s0
    replace s1 := (kk 1 (by decide)).trans s1
    replace s2 := (kk 2 (by decide)).trans s2
    replace s3 := (kk 3 (by decide)).trans s3
    replace s4 := (kk 4 (by decide)).trans s4
    replace s11 := (kk 11 (by decide)).trans s11
    replace s12 := (kk 12 (by decide)).trans s12
    replace s15 := (kk 15 (by decide)).trans s15
    clear kk hz s142 s144 s145 s146
    have hz := zz
    have s147 := s147x
    clear zz s147x A19_5
    refine vl true (.int .i64 0) (want_none rfl) (fun hc => ex_assign rfl (ev s147 rfl)) rfl hz (by decide) (fun A19_7 zz kk s13x => ?_)
    replace s0 := (kk 0 (by decide)).trans s0
    replace s1 := (kk 1 (by decide)).trans s1
    replace s2 := (kk 2 (by decide)).trans s2
    replace s3 := (kk 3 (by decide)).trans s3
    replace s4 := (kk 4 (by decide)).trans s4
    replace s11 := (kk 11 (by decide)).trans s11
    replace s12 := (kk 12 (by decide)).trans s12
    replace s15 := (kk 15 (by decide)).trans s15
    clear kk hz s147
    have hz := zz
    have s13 := s13x
    clear zz s13x A19_6
    refine wpList_nil ?_
    go_upto_region 20 with fail
    refine wp_region_lit ?_
    refine vl true (.pointer (some ⟨b, 0, none⟩)) (want_none rfl) (fun hc => ex_move rfl (ev s11 rfl)) rfl hz (by decide) (fun A20_1 zz kk s149x => ?_)
    replace s0 := (kk 0 (by decide)).trans s0
    replace s1 := (kk 1 (by decide)).trans s1
    replace s2 := (kk 2 (by decide)).trans s2
    replace s3 := (kk 3 (by decide)).trans s3
    replace s4 := (kk 4 (by decide)).trans s4
    replace s11 := (kk 11 (by decide)).trans s11
    replace s12 := (kk 12 (by decide)).trans s12
    replace s13 := (kk 13 (by decide)).trans s13
    replace s15 := (kk 15 (by decide)).trans s15
    clear kk hz
    have hz := zz
    have s149 := s149x
    clear zz s149x
    refine vl true (.slice a L.length c) (want_none rfl) (fun hc => ex_move rfl (ev s0 rfl)) rfl hz (by decide) (fun A20_2 zz kk s150x => ?_)
    replace s0 := (kk 0 (by decide)).trans s0
    replace s1 := (kk 1 (by decide)).trans s1
    replace s2 := (kk 2 (by decide)).trans s2
    replace s3 := (kk 3 (by decide)).trans s3
    replace s4 := (kk 4 (by decide)).trans s4
    replace s11 := (kk 11 (by decide)).trans s11
    replace s12 := (kk 12 (by decide)).trans s12
    replace s13 := (kk 13 (by decide)).trans s13
    replace s15 := (kk 15 (by decide)).trans s15
    replace s149 := (kk 149 (by decide)).trans s149
    clear kk hz
    have hz := zz
    have s150 := s150x
    clear zz s150x A20_1
    refine vl true (.int .i64 (L.length : Int)) (want_none rfl) (fun hc => ex_lenP rfl rfl (ev s150 rfl)) rfl hz (by decide) (fun A20_3 zz kk s151x => ?_)
    replace s0 := (kk 0 (by decide)).trans s0
    replace s1 := (kk 1 (by decide)).trans s1
    replace s2 := (kk 2 (by decide)).trans s2
    replace s3 := (kk 3 (by decide)).trans s3
    replace s4 := (kk 4 (by decide)).trans s4
    replace s11 := (kk 11 (by decide)).trans s11
    replace s12 := (kk 12 (by decide)).trans s12
    replace s13 := (kk 13 (by decide)).trans s13
    replace s15 := (kk 15 (by decide)).trans s15
    replace s149 := (kk 149 (by decide)).trans s149
    clear kk hz s150
    have hz := zz
    have s151 := s151x
    clear zz s151x A20_2
    refine vcallP (want_none rfl) (ex_call rfl (by simp only [List.map_toArray, List.map_cons, List.map_nil, (ev s149 rfl), (ev s151 rfl), evc] <;> rfl) rfl) (hs_at HS L.length (tnP u.pk at_ m) hlast2) rfl hz (by decide) ?_
    rintro e w13 ⟨y, rfl, hyp, oy, _, hb13⟩
    refine ⟨_, rfl, fun A20_4 zz kk s152x => ?_⟩
    obtain ⟨g, hgy, hg2, hg3⟩ := oy.some_
    have hqg : ¬ q = g := by have := BQ.lt; omega
    have HS2 := HS.stepA (A' := fun j => j = q ∨ j = g) hb13 (fun j hj => by rcases hj with rfl | rfl; exact .inl rfl; exact .inr ⟨hg2, hg3⟩)
    have hTg : Tp ≤ g := Nat.le_trans HS.tp hg2
    have BQ2 := BQ.bel hb13
    have hgb := HS2.ne (q := g) (.inr rfl)
    clear HS BQ hb13
    have HS := HS2
    have BQ := BQ2
    clear HS2 BQ2
    replace s0 := (kk 0 (by decide)).trans s0
    replace s1 := (kk 1 (by decide)).trans s1
    replace s2 := (kk 2 (by decide)).trans s2
    replace s3 := (kk 3 (by decide)).trans s3
    replace s4 := (kk 4 (by decide)).trans s4
    replace s11 := (kk 11 (by decide)).trans s11
    replace s12 := (kk 12 (by decide)).trans s12
    replace s13 := (kk 13 (by decide)).trans s13
    replace s15 := (kk 15 (by decide)).trans s15
    clear kk hz s149 s151
    have hz := zz
    have s152 := s152x
    clear zz s152x A20_3
    refine vl true (.tuple #[y.val, .int .i64 0]) (want_none rfl) (fun hc => ex_move rfl (ev s152 rfl)) rfl hz (by decide) (fun A20_5 zz kk s148x => ?_)
    replace s0 := (kk 0 (by decide)).trans s0
    replace s1 := (kk 1 (by decide)).trans s1
    replace s2 := (kk 2 (by decide)).trans s2
    replace s3 := (kk 3 (by decide)).trans s3
    replace s4 := (kk 4 (by decide)).trans s4
    replace s11 := (kk 11 (by decide)).trans s11
    replace s12 := (kk 12 (by decide)).trans s12
    replace s13 := (kk 13 (by decide)).trans s13
    replace s15 := (kk 15 (by decide)).trans s15
    clear kk hz s152
    have hz := zz
    have s148 := s148x
    clear zz s148x A20_4
    refine vl true (y.val) (want_none rfl) (fun hc => ex_ext9 rfl (ev s148 rfl) rfl) rfl hz (by decide) (fun A20_6 zz kk s153x => ?_)
    replace s0 := (kk 0 (by decide)).trans s0
    replace s1 := (kk 1 (by decide)).trans s1
    replace s2 := (kk 2 (by decide)).trans s2
    replace s3 := (kk 3 (by decide)).trans s3
    replace s4 := (kk 4 (by decide)).trans s4
    replace s11 := (kk 11 (by decide)).trans s11
    replace s12 := (kk 12 (by decide)).trans s12
    replace s13 := (kk 13 (by decide)).trans s13
    replace s15 := (kk 15 (by decide)).trans s15
    replace s148 := (kk 148 (by decide)).trans s148
    clear kk hz
    have hz := zz
    have s153 := s153x
    clear zz s153x A20_5
    refine vl true (.int .i64 0) (want_none rfl) (fun hc => ex_ext9 rfl (ev s148 rfl) rfl) rfl hz (by decide) (fun A20_7 zz kk s154x => ?_)
    replace s0 := (kk 0 (by decide)).trans s0
    replace s1 := (kk 1 (by decide)).trans s1
    replace s2 := (kk 2 (by decide)).trans s2
    replace s3 := (kk 3 (by decide)).trans s3
    replace s4 := (kk 4 (by decide)).trans s4
    replace s11 := (kk 11 (by decide)).trans s11
    replace s12 := (kk 12 (by decide)).trans s12
    replace s13 := (kk 13 (by decide)).trans s13
    replace s15 := (kk 15 (by decide)).trans s15
    replace s153 := (kk 153 (by decide)).trans s153
    clear kk hz s148
    have hz := zz
    have s154 := s154x
    clear zz s154x A20_6
    refine vs (put3 w13 q y) (want_none rfl) (ex_st rfl (ev s15 rfl) (ev s153 rfl) (stP BQ y)) rfl ?_
    have SP := BQ.put3 y
    obtain ⟨w14, hw14⟩ : ∃ v, v = put3 w13 q y := ⟨_, rfl⟩
    rw [← hw14] at SP ⊢
    clear hw14
    have HS2 := HS.put SP.2 (.inl rfl) hTq
    have OY : OwnY yU w12.heap.size w14 (.slice y.a y.s.length y.c) y.s := OwnY.upd1 oy.own SP.2 (fun k hk e => by rw [hgy] at hk; cases hk; exact hqg e.symm)
    clear HS BQ oy hg2 hg3
    have HS := HS2
    have BQ := SP.1
    clear HS2 SP
    refine vl true (.int .i64 0) (want_none rfl) (fun hc => ex_assign rfl (ev s154 rfl)) rfl hz (by decide) (fun A20_8 zz kk s16x => ?_)
    replace s0 := (kk 0 (by decide)).trans s0
    replace s1 := (kk 1 (by decide)).trans s1
    replace s2 := (kk 2 (by decide)).trans s2
    replace s3 := (kk 3 (by decide)).trans s3
    replace s4 := (kk 4 (by decide)).trans s4
    replace s11 := (kk 11 (by decide)).trans s11
    replace s12 := (kk 12 (by decide)).trans s12
    replace s13 := (kk 13 (by decide)).trans s13
    replace s15 := (kk 15 (by decide)).trans s15
    clear kk hz s153 s154
    have hz := zz
    have s16 := s16x
    clear zz s16x A20_7
    refine wpList_nil ?_
    have hfirst : (W ++ [tnP u.pk at_ m])[i]? = some u.pk := by rw [List.getElem?_append_left (by omega)]; exact HXW.out
    go_upto_region 21 with fail
    refine wp_region_lit ?_
    refine vl true (.pointer (some ⟨b, 0, none⟩)) (want_none rfl) (fun hc => ex_move rfl (ev s11 rfl)) rfl hz (by decide) (fun A21_1 zz kk s156x => ?_)
    replace s0 := (kk 0 (by decide)).trans s0
    replace s1 := (kk 1 (by decide)).trans s1
    replace s2 := (kk 2 (by decide)).trans s2
    replace s3 := (kk 3 (by decide)).trans s3
    replace s4 := (kk 4 (by decide)).trans s4
    replace s11 := (kk 11 (by decide)).trans s11
    replace s12 := (kk 12 (by decide)).trans s12
    replace s13 := (kk 13 (by decide)).trans s13
    replace s15 := (kk 15 (by decide)).trans s15
    replace s16 := (kk 16 (by decide)).trans s16
    clear kk hz
    have hz := zz
    have s156 := s156x
    clear zz s156x
    refine vl true (.int .i64 (i : Int)) (want_none rfl) (fun hc => ex_move rfl (ev s1 rfl)) rfl hz (by decide) (fun A21_2 zz kk s157x => ?_)
    replace s0 := (kk 0 (by decide)).trans s0
    replace s1 := (kk 1 (by decide)).trans s1
    replace s2 := (kk 2 (by decide)).trans s2
    replace s3 := (kk 3 (by decide)).trans s3
    replace s4 := (kk 4 (by decide)).trans s4
    replace s11 := (kk 11 (by decide)).trans s11
    replace s12 := (kk 12 (by decide)).trans s12
    replace s13 := (kk 13 (by decide)).trans s13
    replace s15 := (kk 15 (by decide)).trans s15
    replace s16 := (kk 16 (by decide)).trans s16
    replace s156 := (kk 156 (by decide)).trans s156
    clear kk hz
    have hz := zz
    have s157 := s157x
    clear zz s157x A21_1
    refine vcallP (want_none rfl) (ex_call rfl (by simp only [List.map_toArray, List.map_cons, List.map_nil, (ev s156 rfl), (ev s157 rfl), evc] <;> rfl) rfl) (hs_at HS i u.pk hfirst) rfl hz (by decide) ?_
    rintro e w15 ⟨z1, rfl, hzp, oz, _, hb15⟩
    refine ⟨_, rfl, fun A21_3 zz kk s158x => ?_⟩
    obtain ⟨gz, hgz, _, _⟩ := oz.some_
    obtain ⟨qf, hqf⟩ : ∃ v, v = w15.heap.size := ⟨_, rfl⟩
    obtain ⟨w16, hw16⟩ : ∃ v, v = w15.alloc (.cells #[.int .i64 0, .int .i64 0, .slice none 0 0] 46) := ⟨_, rfl⟩
    have hbA : Below w15.heap.size w15 w16 := by rw [hw16]; exact (Below.refl _ _).alloc (Nat.le_refl _) _
    have BN : B3 w16 qf (.int .i64 0) (.int .i64 0) (.slice none 0 0) := by rw [hw16, hqf]; exact B3.new _ _ _ _ _
    replace s0 := (kk 0 (by decide)).trans s0
    replace s1 := (kk 1 (by decide)).trans s1
    replace s2 := (kk 2 (by decide)).trans s2
    replace s3 := (kk 3 (by decide)).trans s3
    replace s4 := (kk 4 (by decide)).trans s4
    replace s11 := (kk 11 (by decide)).trans s11
    replace s12 := (kk 12 (by decide)).trans s12
    replace s13 := (kk 13 (by decide)).trans s13
    replace s15 := (kk 15 (by decide)).trans s15
    replace s16 := (kk 16 (by decide)).trans s16
    clear kk hz s156 s157
    have hz := zz
    have s158 := s158x
    clear zz s158x A21_2
    refine vl true (.tuple #[z1.val, .int .i64 0]) (want_none rfl) (fun hc => ex_move rfl (ev s158 rfl)) rfl hz (by decide) (fun A21_4 zz kk s155x => ?_)
    replace s0 := (kk 0 (by decide)).trans s0
    replace s1 := (kk 1 (by decide)).trans s1
    replace s2 := (kk 2 (by decide)).trans s2
    replace s3 := (kk 3 (by decide)).trans s3
    replace s4 := (kk 4 (by decide)).trans s4
    replace s11 := (kk 11 (by decide)).trans s11
    replace s12 := (kk 12 (by decide)).trans s12
    replace s13 := (kk 13 (by decide)).trans s13
    replace s15 := (kk 15 (by decide)).trans s15
    replace s16 := (kk 16 (by decide)).trans s16
    clear kk hz s158
    have hz := zz
    have s155 := s155x
    clear zz s155x A21_3
    refine vl true (z1.val) (want_none rfl) (fun hc => ex_ext9 rfl (ev s155 rfl) rfl) rfl hz (by decide) (fun A21_5 zz kk s159x => ?_)
    replace s0 := (kk 0 (by decide)).trans s0
    replace s1 := (kk 1 (by decide)).trans s1
    replace s2 := (kk 2 (by decide)).trans s2
    replace s3 := (kk 3 (by decide)).trans s3
    replace s4 := (kk 4 (by decide)).trans s4
    replace s11 := (kk 11 (by decide)).trans s11
    replace s12 := (kk 12 (by decide)).trans s12
    replace s13 := (kk 13 (by decide)).trans s13
    replace s15 := (kk 15 (by decide)).trans s15
    replace s16 := (kk 16 (by decide)).trans s16
    replace s155 := (kk 155 (by decide)).trans s155
    clear kk hz
    have hz := zz
    have s159 := s159x
    clear zz s159x A21_4
    refine vl true (.int .i64 0) (want_none rfl) (fun hc => ex_ext9 rfl (ev s155 rfl) rfl) rfl hz (by decide) (fun A21_6 zz kk s160x => ?_)
    replace s0 := (kk 0 (by decide)).trans s0
    replace s1 := (kk 1 (by decide)).trans s1
    replace s2 := (kk 2 (by decide)).trans s2
    replace s3 := (kk 3 (by decide)).trans s3
    replace s4 := (kk 4 (by decide)).trans s4
    replace s11 := (kk 11 (by decide)).trans s11
    replace s12 := (kk 12 (by decide)).trans s12
    replace s13 := (kk 13 (by decide)).trans s13
    replace s15 := (kk 15 (by decide)).trans s15
    replace s16 := (kk 16 (by decide)).trans s16
    replace s159 := (kk 159 (by decide)).trans s159
    clear kk hz s155
    have hz := zz
    have s160 := s160x
    clear zz s160x A21_5
    refine vw (.pointer (some ⟨qf, 0, none⟩)) w16 (want_none rfl) (ex_al rfl (by rw [hw16, hqf]; exact alP _)) rfl hz (by decide) (fun A21_7 zz kk s17x => ?_)
    replace s0 := (kk 0 (by decide)).trans s0
    replace s1 := (kk 1 (by decide)).trans s1
    replace s2 := (kk 2 (by decide)).trans s2
    replace s3 := (kk 3 (by decide)).trans s3
    replace s4 := (kk 4 (by decide)).trans s4
    replace s11 := (kk 11 (by decide)).trans s11
    replace s12 := (kk 12 (by decide)).trans s12
    replace s13 := (kk 13 (by decide)).trans s13
    replace s15 := (kk 15 (by decide)).trans s15
    replace s16 := (kk 16 (by decide)).trans s16
    replace s159 := (kk 159 (by decide)).trans s159
    replace s160 := (kk 160 (by decide)).trans s160
    clear kk hz
    have hz := zz
    have s17 := s17x
    clear zz s17x A21_6
    refine vs (put3 w16 qf z1) (want_none rfl) (ex_st rfl (ev s17 rfl) (ev s159 rfl) (stP BN z1)) rfl ?_
    have SP := BN.put3 z1
    obtain ⟨w17, hw17⟩ : ∃ v, v = put3 w16 qf z1 := ⟨_, rfl⟩
    rw [← hw17] at SP ⊢
    clear hw17 hw16
    have hbT : Below w15.heap.size w15 w17 := hbA.trans (SP.2.below hbA.size (fun k hk => by omega))
    clear hbA BN
    have hbU := hb15.trans (hbT.mono hb15.size)
    have HS2 := HS.step hbU
    have BQ2 := BQ.bel hbU
    have OY2 := OwnY.grow OY hbU
    have OZ := OwnY.grow oz.own hbT
    have CF := SP.1.c3
    clear HS BQ OY oz hb15 hbT hbU SP
    have HS := HS2
    have BQ := BQ2
    have OY := OY2
    clear HS2 BQ2 OY2
    refine vl true (.int .i64 0) (want_none rfl) (fun hc => ex_assign rfl (ev s160 rfl)) rfl hz (by decide) (fun A21_8 zz kk s18x => ?_)
    replace s0 := (kk 0 (by decide)).trans s0
    replace s1 := (kk 1 (by decide)).trans s1
    replace s2 := (kk 2 (by decide)).trans s2
    replace s3 := (kk 3 (by decide)).trans s3
    replace s4 := (kk 4 (by decide)).trans s4
    replace s11 := (kk 11 (by decide)).trans s11
    replace s12 := (kk 12 (by decide)).trans s12
    replace s13 := (kk 13 (by decide)).trans s13
    replace s15 := (kk 15 (by decide)).trans s15
    replace s16 := (kk 16 (by decide)).trans s16
    replace s17 := (kk 17 (by decide)).trans s17
    clear kk hz s159 s160
    have hz := zz
    have s18 := s18x
    clear zz s18x A21_7
    refine wpList_nil ?_
    have hys : y.s = u.s.set at_ (u0 ^^^ m) ∧ y.t = u.t ∧ y.f = u.f := by
      unfold Ap.pk tnP at hyp
      injection hyp with h1 h2 h3
      dsimp only at h2
      rw [hu0] at h2
      exact ⟨h2, h1, h3⟩
    have hzs : z1.s = u.s := by
      unfold Ap.pk at hzp
      injection hzp with h1 h2 h3
    have hyl : y.s.length = u.s.length := by rw [hys.1, List.length_set]
    have hlenYZ : y.s.length = z1.s.length := by rw [hyl, hzs]
    have hatY : at_ < y.s.length := by rw [hyl]; exact hat1
    have hatZ : at_ < z1.s.length := by rw [hzs]; exact hat1
    have hcy0 : w17.cell? ⟨g, at_, none⟩ = some (.int .u8 ((u0 ^^^ m).toNat : Int)) := by
      have h := OY
      rw [hgy] at h
      have h2 := OwnY.cell kU h at_ (u0 ^^^ m) (by rw [hys.1, List.getElem?_set_self hat1]) 0 _ rfl
      rw [show at_ * yU.k + 0 = at_ by show at_ * 1 + 0 = at_; omega] at h2
      exact h2
    have hcz0 : w17.cell? ⟨gz, at_, none⟩ = some (.int .u8 (u0.toNat : Int)) := by
      have h := OZ
      rw [hgz] at h
      have h2 := OwnY.cell kU h at_ u0 (by rw [hzs]; exact hu0) 0 _ rfl
      rw [show at_ * yU.k + 0 = at_ by show at_ * 1 + 0 = at_; omega] at h2
      exact h2
    have hgl : g < w17.heap.size := World.block_lt_of_cell? _ _ hcy0
    have hgzl : gz < w17.heap.size := World.block_lt_of_cell? _ _ hcz0
    have hcy : ∀ v, Below w17.heap.size w17 v → v.cell? ⟨g, at_, none⟩ = some (.int .u8 ((u0 ^^^ m).toNat : Int)) := fun v hv => (hv.cell (p := ⟨g, at_, none⟩) hgl).trans hcy0
    have hcz : ∀ v, Below w17.heap.size w17 v → v.cell? ⟨gz, at_, none⟩ = some (.int .u8 (u0.toNat : Int)) := fun v hv => (hv.cell (p := ⟨gz, at_, none⟩) hgzl).trans hcz0
    have CQ := BQ.c3 (p := y)
    have hS : Below w17.heap.size w17 w17.drew := (Below.refl _ _).drew
    go_upto_region 22 with fail
    refine vh_start (fun v => Below w17.heap.size w17 v) (by kernel_rfl) ?_
    refine vh_take 0 true (.int .i64 0) rfl (by kernel_rfl) (by kernel_rfl) (by kernel_rfl) (want_none rfl) (fun hc v hv => ex_move rfl (ev s13 rfl)) rfl hz (by decide) hS (fun A22_1 zz kk s161x => ?_)
    replace s0 := (kk 0 (by decide)).trans s0
    replace s1 := (kk 1 (by decide)).trans s1
    replace s2 := (kk 2 (by decide)).trans s2
    replace s3 := (kk 3 (by decide)).trans s3
    replace s4 := (kk 4 (by decide)).trans s4
    replace s11 := (kk 11 (by decide)).trans s11
    replace s12 := (kk 12 (by decide)).trans s12
    replace s15 := (kk 15 (by decide)).trans s15
    replace s16 := (kk 16 (by decide)).trans s16
    replace s17 := (kk 17 (by decide)).trans s17
    replace s18 := (kk 18 (by decide)).trans s18
    clear kk hz s13
    have hz := zz
    have s161 := s161x
    clear zz s161x
    refine vh_take 1 true (.bool false) rfl (by kernel_rfl) (by kernel_rfl) (by kernel_rfl) (want_none rfl) (fun hc v hv => ex_bin rfl (ev s161 rfl) rfl (neqE9 _ _ _ _)) rfl hz (by decide) hS (fun A22_2 zz kk s162x => ?_)
    replace s0 := (kk 0 (by decide)).trans s0
    replace s1 := (kk 1 (by decide)).trans s1
    replace s2 := (kk 2 (by decide)).trans s2
    replace s3 := (kk 3 (by decide)).trans s3
    replace s4 := (kk 4 (by decide)).trans s4
    replace s11 := (kk 11 (by decide)).trans s11
    replace s12 := (kk 12 (by decide)).trans s12
    replace s15 := (kk 15 (by decide)).trans s15
    replace s16 := (kk 16 (by decide)).trans s16
    replace s17 := (kk 17 (by decide)).trans s17
    replace s18 := (kk 18 (by decide)).trans s18
    clear kk hz s161
    have hz := zz
    have s162 := s162x
    clear zz s162x A22_1
    refine vh_take 2 true (.bool false) rfl (by kernel_rfl) (by kernel_rfl) (by kernel_rfl) (want_none rfl) (fun hc v hv => ex_move rfl (ev s162 rfl)) rfl hz (by decide) hS (fun A22_3 zz kk s163x => ?_)
    replace s0 := (kk 0 (by decide)).trans s0
    replace s1 := (kk 1 (by decide)).trans s1
    replace s2 := (kk 2 (by decide)).trans s2
    replace s3 := (kk 3 (by decide)).trans s3
    replace s4 := (kk 4 (by decide)).trans s4
    replace s11 := (kk 11 (by decide)).trans s11
    replace s12 := (kk 12 (by decide)).trans s12
    replace s15 := (kk 15 (by decide)).trans s15
    replace s16 := (kk 16 (by decide)).trans s16
    replace s17 := (kk 17 (by decide)).trans s17
    replace s18 := (kk 18 (by decide)).trans s18
    clear kk hz s162
    have hz := zz
    have s163 := s163x
    clear zz s163x A22_2
    refine vh_take 3 true (.int .i64 0) rfl (by kernel_rfl) (by kernel_rfl) (by kernel_rfl) (want_k rfl rfl s163) (fun hc v hv => ex_move rfl (ev s16 rfl)) rfl hz (by decide) hS (fun A22_4 zz kk s164x => ?_)
    replace s0 := (kk 0 (by decide)).trans s0
    replace s1 := (kk 1 (by decide)).trans s1
    replace s2 := (kk 2 (by decide)).trans s2
    replace s3 := (kk 3 (by decide)).trans s3
    replace s4 := (kk 4 (by decide)).trans s4
    replace s11 := (kk 11 (by decide)).trans s11
    replace s12 := (kk 12 (by decide)).trans s12
    replace s15 := (kk 15 (by decide)).trans s15
    replace s17 := (kk 17 (by decide)).trans s17
    replace s18 := (kk 18 (by decide)).trans s18
    replace s163 := (kk 163 (by decide)).trans s163
    clear kk hz s16
    have hz := zz
    have s164 := s164x
    clear zz s164x A22_3
    refine vh_take 4 true (.bool false) rfl (by kernel_rfl) (by kernel_rfl) (by kernel_rfl) (want_k rfl rfl s163) (fun hc v hv => ex_bin rfl (ev s164 rfl) rfl (neqE9 _ _ _ _)) rfl hz (by decide) hS (fun A22_5 zz kk s165x => ?_)
    replace s0 := (kk 0 (by decide)).trans s0
    replace s1 := (kk 1 (by decide)).trans s1
    replace s2 := (kk 2 (by decide)).trans s2
    replace s3 := (kk 3 (by decide)).trans s3
    replace s4 := (kk 4 (by decide)).trans s4
    replace s11 := (kk 11 (by decide)).trans s11
    replace s12 := (kk 12 (by decide)).trans s12
    replace s15 := (kk 15 (by decide)).trans s15
    replace s17 := (kk 17 (by decide)).trans s17
    replace s18 := (kk 18 (by decide)).trans s18
    replace s163 := (kk 163 (by decide)).trans s163
    clear kk hz s164
    have hz := zz
    have s165 := s165x
    clear zz s165x A22_4
    refine vh_take 5 true (.bool false) rfl (by kernel_rfl) (by kernel_rfl) (by kernel_rfl) (want_none rfl) (fun hc v hv => ex_or rfl s163 s165 rfl) rfl hz (by decide) hS (fun A22_6 zz kk s166x => ?_)
    replace s0 := (kk 0 (by decide)).trans s0
    replace s1 := (kk 1 (by decide)).trans s1
    replace s2 := (kk 2 (by decide)).trans s2
    replace s3 := (kk 3 (by decide)).trans s3
    replace s4 := (kk 4 (by decide)).trans s4
    replace s11 := (kk 11 (by decide)).trans s11
    replace s12 := (kk 12 (by decide)).trans s12
    replace s15 := (kk 15 (by decide)).trans s15
    replace s17 := (kk 17 (by decide)).trans s17
    replace s18 := (kk 18 (by decide)).trans s18
    clear kk hz s163 s165
    have hz := zz
    have s166 := s166x
    clear zz s166x A22_5
    refine vh_take 6 true (.bool false) rfl (by kernel_rfl) (by kernel_rfl) (by kernel_rfl) (want_none rfl) (fun hc v hv => ex_move rfl (ev s166 rfl)) rfl hz (by decide) hS (fun A22_7 zz kk s167x => ?_)
    replace s0 := (kk 0 (by decide)).trans s0
    replace s1 := (kk 1 (by decide)).trans s1
    replace s2 := (kk 2 (by decide)).trans s2
    replace s3 := (kk 3 (by decide)).trans s3
    replace s4 := (kk 4 (by decide)).trans s4
    replace s11 := (kk 11 (by decide)).trans s11
    replace s12 := (kk 12 (by decide)).trans s12
    replace s15 := (kk 15 (by decide)).trans s15
    replace s17 := (kk 17 (by decide)).trans s17
    replace s18 := (kk 18 (by decide)).trans s18
    clear kk hz s166
    have hz := zz
    have s167 := s167x
    clear zz s167x A22_6
    refine vh_take 7 true (.int .i64 0) rfl (by kernel_rfl) (by kernel_rfl) (by kernel_rfl) (want_k rfl rfl s167) (fun hc v hv => ex_move rfl (ev s18 rfl)) rfl hz (by decide) hS (fun A22_8 zz kk s168x => ?_)
    replace s0 := (kk 0 (by decide)).trans s0
    replace s1 := (kk 1 (by decide)).trans s1
    replace s2 := (kk 2 (by decide)).trans s2
    replace s3 := (kk 3 (by decide)).trans s3
    replace s4 := (kk 4 (by decide)).trans s4
    replace s11 := (kk 11 (by decide)).trans s11
    replace s12 := (kk 12 (by decide)).trans s12
    replace s15 := (kk 15 (by decide)).trans s15
    replace s17 := (kk 17 (by decide)).trans s17
    replace s167 := (kk 167 (by decide)).trans s167
    clear kk hz s18
    have hz := zz
    have s168 := s168x
    clear zz s168x A22_7
    refine vh_take 8 true (.bool false) rfl (by kernel_rfl) (by kernel_rfl) (by kernel_rfl) (want_k rfl rfl s167) (fun hc v hv => ex_bin rfl (ev s168 rfl) rfl (neqE9 _ _ _ _)) rfl hz (by decide) hS (fun A22_9 zz kk s169x => ?_)
    replace s0 := (kk 0 (by decide)).trans s0
    replace s1 := (kk 1 (by decide)).trans s1
    replace s2 := (kk 2 (by decide)).trans s2
    replace s3 := (kk 3 (by decide)).trans s3
    replace s4 := (kk 4 (by decide)).trans s4
    replace s11 := (kk 11 (by decide)).trans s11
    replace s12 := (kk 12 (by decide)).trans s12
    replace s15 := (kk 15 (by decide)).trans s15
    replace s17 := (kk 17 (by decide)).trans s17
    replace s167 := (kk 167 (by decide)).trans s167
    clear kk hz s168
    have hz := zz
    have s169 := s169x
    clear zz s169x A22_8
    refine vh_take 9 true (.bool false) rfl (by kernel_rfl) (by kernel_rfl) (by kernel_rfl) (want_none rfl) (fun hc v hv => ex_or rfl s167 s169 rfl) rfl hz (by decide) hS (fun A22_10 zz kk s170x => ?_)
    replace s0 := (kk 0 (by decide)).trans s0
    replace s1 := (kk 1 (by decide)).trans s1
    replace s2 := (kk 2 (by decide)).trans s2
    replace s3 := (kk 3 (by decide)).trans s3
    replace s4 := (kk 4 (by decide)).trans s4
    replace s11 := (kk 11 (by decide)).trans s11
    replace s12 := (kk 12 (by decide)).trans s12
    replace s15 := (kk 15 (by decide)).trans s15
    replace s17 := (kk 17 (by decide)).trans s17
    clear kk hz s167 s169
    have hz := zz
    have s170 := s170x
    clear zz s170x A22_9
    refine vh_take 10 true (.bool false) rfl (by kernel_rfl) (by kernel_rfl) (by kernel_rfl) (want_none rfl) (fun hc v hv => ex_move rfl (ev s170 rfl)) rfl hz (by decide) hS (fun A22_11 zz kk s171x => ?_)
    replace s0 := (kk 0 (by decide)).trans s0
    replace s1 := (kk 1 (by decide)).trans s1
    replace s2 := (kk 2 (by decide)).trans s2
    replace s3 := (kk 3 (by decide)).trans s3
    replace s4 := (kk 4 (by decide)).trans s4
    replace s11 := (kk 11 (by decide)).trans s11
    replace s12 := (kk 12 (by decide)).trans s12
    replace s15 := (kk 15 (by decide)).trans s15
    replace s17 := (kk 17 (by decide)).trans s17
    clear kk hz s170
    have hz := zz
    have s171 := s171x
    clear zz s171x A22_10
    refine vh_take 11 true (z1.val) rfl (by kernel_rfl) (by kernel_rfl) (by kernel_rfl) (want_k rfl rfl s171) (fun hc v hv => ex_ld rfl (ev s17 rfl) ((CF.bel hv).ld)) rfl hz (by decide) hS (fun A22_12 zz kk s172x => ?_)
    replace s0 := (kk 0 (by decide)).trans s0
    replace s1 := (kk 1 (by decide)).trans s1
    replace s2 := (kk 2 (by decide)).trans s2
    replace s3 := (kk 3 (by decide)).trans s3
    replace s4 := (kk 4 (by decide)).trans s4
    replace s11 := (kk 11 (by decide)).trans s11
    replace s12 := (kk 12 (by decide)).trans s12
    replace s15 := (kk 15 (by decide)).trans s15
    replace s17 := (kk 17 (by decide)).trans s17
    replace s171 := (kk 171 (by decide)).trans s171
    clear kk hz
    have hz := zz
    have s172 := s172x
    clear zz s172x A22_11
    refine vh_take 12 true (.slice (some ⟨qw, ow, none⟩) L.length vc) rfl (by kernel_rfl) (by kernel_rfl) (by kernel_rfl) (want_k rfl rfl s171) (fun hc v hv => ex_move rfl (ev s12 rfl)) rfl hz (by decide) hS (fun A22_13 zz kk s173x => ?_)
    replace s0 := (kk 0 (by decide)).trans s0
    replace s1 := (kk 1 (by decide)).trans s1
    replace s2 := (kk 2 (by decide)).trans s2
    replace s3 := (kk 3 (by decide)).trans s3
    replace s4 := (kk 4 (by decide)).trans s4
    replace s11 := (kk 11 (by decide)).trans s11
    replace s12 := (kk 12 (by decide)).trans s12
    replace s15 := (kk 15 (by decide)).trans s15
    replace s17 := (kk 17 (by decide)).trans s17
    replace s171 := (kk 171 (by decide)).trans s171
    replace s172 := (kk 172 (by decide)).trans s172
    clear kk hz
    have hz := zz
    have s173 := s173x
    clear zz s173x A22_12
    refine vh_take 13 true (.int .i64 (i : Int)) rfl (by kernel_rfl) (by kernel_rfl) (by kernel_rfl) (want_k rfl rfl s171) (fun hc v hv => ex_move rfl (ev s1 rfl)) rfl hz (by decide) hS (fun A22_14 zz kk s174x => ?_)
    replace s0 := (kk 0 (by decide)).trans s0
    replace s1 := (kk 1 (by decide)).trans s1
    replace s2 := (kk 2 (by decide)).trans s2
    replace s3 := (kk 3 (by decide)).trans s3
    replace s4 := (kk 4 (by decide)).trans s4
    replace s11 := (kk 11 (by decide)).trans s11
    replace s12 := (kk 12 (by decide)).trans s12
    replace s15 := (kk 15 (by decide)).trans s15
    replace s17 := (kk 17 (by decide)).trans s17
    replace s171 := (kk 171 (by decide)).trans s171
    replace s172 := (kk 172 (by decide)).trans s172
    replace s173 := (kk 173 (by decide)).trans s173
    clear kk hz
    have hz := zz
    have s174 := s174x
    clear zz s174x A22_13
    refine vh_take 14 true (.pointer (some ⟨qw, ow + i * 3, none⟩)) rfl (by kernel_rfl) (by kernel_rfl) (by kernel_rfl) (want_k rfl rfl s171) (fun hc v hv => ex_ix rfl (ev s173 rfl) (ev s174 rfl) (ixP qw ow L.length vc i hi1 _)) rfl hz (by decide) hS (fun A22_15 zz kk s175x => ?_)
    replace s0 := (kk 0 (by decide)).trans s0
    replace s1 := (kk 1 (by decide)).trans s1
    replace s2 := (kk 2 (by decide)).trans s2
    replace s3 := (kk 3 (by decide)).trans s3
    replace s4 := (kk 4 (by decide)).trans s4
    replace s11 := (kk 11 (by decide)).trans s11
    replace s12 := (kk 12 (by decide)).trans s12
    replace s15 := (kk 15 (by decide)).trans s15
    replace s17 := (kk 17 (by decide)).trans s17
    replace s171 := (kk 171 (by decide)).trans s171
    replace s172 := (kk 172 (by decide)).trans s172
    clear kk hz s173 s174
    have hz := zz
    have s175 := s175x
    clear zz s175x A22_14
    refine vh_take 15 true (u.val) rfl (by kernel_rfl) (by kernel_rfl) (by kernel_rfl) (want_k rfl rfl s171) (fun hc v hv => ex_ld rfl (ev s175 rfl) (((HS.step hv).c3 HU.out).ld)) rfl hz (by decide) hS (fun A22_16 zz kk s176x => ?_)
    replace s0 := (kk 0 (by decide)).trans s0
    replace s1 := (kk 1 (by decide)).trans s1
    replace s2 := (kk 2 (by decide)).trans s2
    replace s3 := (kk 3 (by decide)).trans s3
    replace s4 := (kk 4 (by decide)).trans s4
    replace s11 := (kk 11 (by decide)).trans s11
    replace s12 := (kk 12 (by decide)).trans s12
    replace s15 := (kk 15 (by decide)).trans s15
    replace s17 := (kk 17 (by decide)).trans s17
    replace s171 := (kk 171 (by decide)).trans s171
    replace s172 := (kk 172 (by decide)).trans s172
    clear kk hz s175
    have hz := zz
    have s176 := s176x
    clear zz s176x A22_15
    refine vh_call 16 rfl (by kernel_rfl) (want_k rfl rfl s171) (ex_call rfl (by simp only [List.map_toArray, List.map_cons, List.map_nil, (ev s172 rfl), (ev s176 rfl), evc] <;> rfl) rfl) (same14_eq z1 u w17.drew (SlY.later (OwnY.sl' kU OZ) hS) ((HS.step hS).uin HU.out) hzp) rfl hz (by decide) ?_
    rintro e w18 ⟨rfl, hb18⟩; have hS := hS.trans (hb18.mono hS.size)
    refine ⟨_, rfl, hS, fun A22_17 zz kk s177x => ?_⟩
    clear hb18
    replace s0 := (kk 0 (by decide)).trans s0
    replace s1 := (kk 1 (by decide)).trans s1
    replace s2 := (kk 2 (by decide)).trans s2
    replace s3 := (kk 3 (by decide)).trans s3
    replace s4 := (kk 4 (by decide)).trans s4
    replace s11 := (kk 11 (by decide)).trans s11
    replace s12 := (kk 12 (by decide)).trans s12
    replace s15 := (kk 15 (by decide)).trans s15
    replace s17 := (kk 17 (by decide)).trans s17
    replace s171 := (kk 171 (by decide)).trans s171
    clear kk hz s172 s176
    have hz := zz
    have s177 := s177x
    clear zz s177x A22_16
    refine vh_take 17 true (.bool false) rfl (by kernel_rfl) (by kernel_rfl) (by kernel_rfl) (want_k rfl rfl s171) (fun hc v hv => ex_not rfl (ev s177 rfl)) rfl hz (by decide) hS (fun A22_18 zz kk s178x => ?_)
    replace s0 := (kk 0 (by decide)).trans s0
    replace s1 := (kk 1 (by decide)).trans s1
    replace s2 := (kk 2 (by decide)).trans s2
    replace s3 := (kk 3 (by decide)).trans s3
    replace s4 := (kk 4 (by decide)).trans s4
    replace s11 := (kk 11 (by decide)).trans s11
    replace s12 := (kk 12 (by decide)).trans s12
    replace s15 := (kk 15 (by decide)).trans s15
    replace s17 := (kk 17 (by decide)).trans s17
    replace s171 := (kk 171 (by decide)).trans s171
    clear kk hz s177
    have hz := zz
    have s178 := s178x
    clear zz s178x A22_17
    refine vh_take 18 true (.bool false) rfl (by kernel_rfl) (by kernel_rfl) (by kernel_rfl) (want_none rfl) (fun hc v hv => ex_or rfl s171 s178 rfl) rfl hz (by decide) hS (fun A22_19 zz kk s179x => ?_)
    replace s0 := (kk 0 (by decide)).trans s0
    replace s1 := (kk 1 (by decide)).trans s1
    replace s2 := (kk 2 (by decide)).trans s2
    replace s3 := (kk 3 (by decide)).trans s3
    replace s4 := (kk 4 (by decide)).trans s4
    replace s11 := (kk 11 (by decide)).trans s11
    replace s12 := (kk 12 (by decide)).trans s12
    replace s15 := (kk 15 (by decide)).trans s15
    replace s17 := (kk 17 (by decide)).trans s17
    clear kk hz s171 s178
    have hz := zz
    have s179 := s179x
    clear zz s179x A22_18
    refine vh_take 19 true (.bool false) rfl (by kernel_rfl) (by kernel_rfl) (by kernel_rfl) (want_none rfl) (fun hc v hv => ex_move rfl (ev s179 rfl)) rfl hz (by decide) hS (fun A22_20 zz kk s180x => ?_)
    replace s0 := (kk 0 (by decide)).trans s0
    replace s1 := (kk 1 (by decide)).trans s1
    replace s2 := (kk 2 (by decide)).trans s2
    replace s3 := (kk 3 (by decide)).trans s3
    replace s4 := (kk 4 (by decide)).trans s4
    replace s11 := (kk 11 (by decide)).trans s11
    replace s12 := (kk 12 (by decide)).trans s12
    replace s15 := (kk 15 (by decide)).trans s15
    replace s17 := (kk 17 (by decide)).trans s17
    clear kk hz s179
    have hz := zz
    have s180 := s180x
    clear zz s180x A22_19
    refine vh_take 20 true (.pointer (some ⟨q, 0 + 2, none⟩)) rfl (by kernel_rfl) (by kernel_rfl) (by kernel_rfl) (want_k rfl rfl s180) (fun hc v hv => ex_fa rfl (ev s15 rfl) (faB _ _ _)) rfl hz (by decide) hS (fun A22_21 zz kk s181x => ?_)
    replace s0 := (kk 0 (by decide)).trans s0
    replace s1 := (kk 1 (by decide)).trans s1
    replace s2 := (kk 2 (by decide)).trans s2
    replace s3 := (kk 3 (by decide)).trans s3
    replace s4 := (kk 4 (by decide)).trans s4
    replace s11 := (kk 11 (by decide)).trans s11
    replace s12 := (kk 12 (by decide)).trans s12
    replace s15 := (kk 15 (by decide)).trans s15
    replace s17 := (kk 17 (by decide)).trans s17
    replace s180 := (kk 180 (by decide)).trans s180
    clear kk hz
    have hz := zz
    have s181 := s181x
    clear zz s181x A22_20
    refine vh_take 21 true (.slice (some ⟨g, 0, none⟩) y.s.length y.c) rfl (by kernel_rfl) (by kernel_rfl) (by kernel_rfl) (want_k rfl rfl s180) (fun hc v hv => ex_ld rfl (ev s181 rfl) (by rw [← hgy]; exact (CQ.bel hv).ldB)) rfl hz (by decide) hS (fun A22_22 zz kk s182x => ?_)
    replace s0 := (kk 0 (by decide)).trans s0
    replace s1 := (kk 1 (by decide)).trans s1
    replace s2 := (kk 2 (by decide)).trans s2
    replace s3 := (kk 3 (by decide)).trans s3
    replace s4 := (kk 4 (by decide)).trans s4
    replace s11 := (kk 11 (by decide)).trans s11
    replace s12 := (kk 12 (by decide)).trans s12
    replace s15 := (kk 15 (by decide)).trans s15
    replace s17 := (kk 17 (by decide)).trans s17
    replace s180 := (kk 180 (by decide)).trans s180
    clear kk hz s181
    have hz := zz
    have s182 := s182x
    clear zz s182x A22_21
    refine vh_take 22 true (.int .i64 (y.s.length : Int)) rfl (by kernel_rfl) (by kernel_rfl) (by kernel_rfl) (want_k rfl rfl s180) (fun hc v hv => ex_lenU rfl rfl (ev s182 rfl)) rfl hz (by decide) hS (fun A22_23 zz kk s183x => ?_)
    replace s0 := (kk 0 (by decide)).trans s0
    replace s1 := (kk 1 (by decide)).trans s1
    replace s2 := (kk 2 (by decide)).trans s2
    replace s3 := (kk 3 (by decide)).trans s3
    replace s4 := (kk 4 (by decide)).trans s4
    replace s11 := (kk 11 (by decide)).trans s11
    replace s12 := (kk 12 (by decide)).trans s12
    replace s15 := (kk 15 (by decide)).trans s15
    replace s17 := (kk 17 (by decide)).trans s17
    replace s180 := (kk 180 (by decide)).trans s180
    clear kk hz s182
    have hz := zz
    have s183 := s183x
    clear zz s183x A22_22
    refine vh_take 23 true (.pointer (some ⟨qf, 0 + 2, none⟩)) rfl (by kernel_rfl) (by kernel_rfl) (by kernel_rfl) (want_k rfl rfl s180) (fun hc v hv => ex_fa rfl (ev s17 rfl) (faB _ _ _)) rfl hz (by decide) hS (fun A22_24 zz kk s184x => ?_)
    replace s0 := (kk 0 (by decide)).trans s0
    replace s1 := (kk 1 (by decide)).trans s1
    replace s2 := (kk 2 (by decide)).trans s2
    replace s3 := (kk 3 (by decide)).trans s3
    replace s4 := (kk 4 (by decide)).trans s4
    replace s11 := (kk 11 (by decide)).trans s11
    replace s12 := (kk 12 (by decide)).trans s12
    replace s15 := (kk 15 (by decide)).trans s15
    replace s17 := (kk 17 (by decide)).trans s17
    replace s180 := (kk 180 (by decide)).trans s180
    replace s183 := (kk 183 (by decide)).trans s183
    clear kk hz
    have hz := zz
    have s184 := s184x
    clear zz s184x A22_23
    refine vh_take 24 true (.slice (some ⟨gz, 0, none⟩) z1.s.length z1.c) rfl (by kernel_rfl) (by kernel_rfl) (by kernel_rfl) (want_k rfl rfl s180) (fun hc v hv => ex_ld rfl (ev s184 rfl) (by rw [← hgz]; exact (CF.bel hv).ldB)) rfl hz (by decide) hS (fun A22_25 zz kk s185x => ?_)
    replace s0 := (kk 0 (by decide)).trans s0
    replace s1 := (kk 1 (by decide)).trans s1
    replace s2 := (kk 2 (by decide)).trans s2
    replace s3 := (kk 3 (by decide)).trans s3
    replace s4 := (kk 4 (by decide)).trans s4
    replace s11 := (kk 11 (by decide)).trans s11
    replace s12 := (kk 12 (by decide)).trans s12
    replace s15 := (kk 15 (by decide)).trans s15
    replace s17 := (kk 17 (by decide)).trans s17
    replace s180 := (kk 180 (by decide)).trans s180
    replace s183 := (kk 183 (by decide)).trans s183
    clear kk hz s184
    have hz := zz
    have s185 := s185x
    clear zz s185x A22_24
    refine vh_take 25 true (.int .i64 (z1.s.length : Int)) rfl (by kernel_rfl) (by kernel_rfl) (by kernel_rfl) (want_k rfl rfl s180) (fun hc v hv => ex_lenU rfl rfl (ev s185 rfl)) rfl hz (by decide) hS (fun A22_26 zz kk s186x => ?_)
    replace s0 := (kk 0 (by decide)).trans s0
    replace s1 := (kk 1 (by decide)).trans s1
    replace s2 := (kk 2 (by decide)).trans s2
    replace s3 := (kk 3 (by decide)).trans s3
    replace s4 := (kk 4 (by decide)).trans s4
    replace s11 := (kk 11 (by decide)).trans s11
    replace s12 := (kk 12 (by decide)).trans s12
    replace s15 := (kk 15 (by decide)).trans s15
    replace s17 := (kk 17 (by decide)).trans s17
    replace s180 := (kk 180 (by decide)).trans s180
    replace s183 := (kk 183 (by decide)).trans s183
    clear kk hz s185
    have hz := zz
    have s186 := s186x
    clear zz s186x A22_25
    refine vh_take 26 true (.bool false) rfl (by kernel_rfl) (by kernel_rfl) (by kernel_rfl) (want_k rfl rfl s180) (fun hc v hv => ex_bin rfl (ev s183 rfl) (ev s186 rfl) (by rw [hlenYZ]; exact neqI _ _ _ _)) rfl hz (by decide) hS (fun A22_27 zz kk s187x => ?_)
    replace s0 := (kk 0 (by decide)).trans s0
    replace s1 := (kk 1 (by decide)).trans s1
    replace s2 := (kk 2 (by decide)).trans s2
    replace s3 := (kk 3 (by decide)).trans s3
    replace s4 := (kk 4 (by decide)).trans s4
    replace s11 := (kk 11 (by decide)).trans s11
    replace s12 := (kk 12 (by decide)).trans s12
    replace s15 := (kk 15 (by decide)).trans s15
    replace s17 := (kk 17 (by decide)).trans s17
    replace s180 := (kk 180 (by decide)).trans s180
    clear kk hz s183 s186
    have hz := zz
    have s187 := s187x
    clear zz s187x A22_26
    refine vh_take 27 true (.bool false) rfl (by kernel_rfl) (by kernel_rfl) (by kernel_rfl) (want_none rfl) (fun hc v hv => ex_or rfl s180 s187 rfl) rfl hz (by decide) hS (fun A22_28 zz kk s188x => ?_)
    replace s0 := (kk 0 (by decide)).trans s0
    replace s1 := (kk 1 (by decide)).trans s1
    replace s2 := (kk 2 (by decide)).trans s2
    replace s3 := (kk 3 (by decide)).trans s3
    replace s4 := (kk 4 (by decide)).trans s4
    replace s11 := (kk 11 (by decide)).trans s11
    replace s12 := (kk 12 (by decide)).trans s12
    replace s15 := (kk 15 (by decide)).trans s15
    replace s17 := (kk 17 (by decide)).trans s17
    clear kk hz s180 s187
    have hz := zz
    have s188 := s188x
    clear zz s188x A22_27
    refine vh_take 28 true (.bool false) rfl (by kernel_rfl) (by kernel_rfl) (by kernel_rfl) (want_none rfl) (fun hc v hv => ex_move rfl (ev s188 rfl)) rfl hz (by decide) hS (fun A22_29 zz kk s189x => ?_)
    replace s0 := (kk 0 (by decide)).trans s0
    replace s1 := (kk 1 (by decide)).trans s1
    replace s2 := (kk 2 (by decide)).trans s2
    replace s3 := (kk 3 (by decide)).trans s3
    replace s4 := (kk 4 (by decide)).trans s4
    replace s11 := (kk 11 (by decide)).trans s11
    replace s12 := (kk 12 (by decide)).trans s12
    replace s15 := (kk 15 (by decide)).trans s15
    replace s17 := (kk 17 (by decide)).trans s17
    clear kk hz s188
    have hz := zz
    have s189 := s189x
    clear zz s189x A22_28
    refine vh_take 29 true (.pointer (some ⟨q, 0 + 2, none⟩)) rfl (by kernel_rfl) (by kernel_rfl) (by kernel_rfl) (want_k rfl rfl s189) (fun hc v hv => ex_fa rfl (ev s15 rfl) (faB _ _ _)) rfl hz (by decide) hS (fun A22_30 zz kk s190x => ?_)
    replace s0 := (kk 0 (by decide)).trans s0
    replace s1 := (kk 1 (by decide)).trans s1
    replace s2 := (kk 2 (by decide)).trans s2
    replace s3 := (kk 3 (by decide)).trans s3
    replace s4 := (kk 4 (by decide)).trans s4
    replace s11 := (kk 11 (by decide)).trans s11
    replace s12 := (kk 12 (by decide)).trans s12
    replace s15 := (kk 15 (by decide)).trans s15
    replace s17 := (kk 17 (by decide)).trans s17
    replace s189 := (kk 189 (by decide)).trans s189
    clear kk hz
    have hz := zz
    have s190 := s190x
    clear zz s190x A22_29
    refine vh_take 30 true (.slice (some ⟨g, 0, none⟩) y.s.length y.c) rfl (by kernel_rfl) (by kernel_rfl) (by kernel_rfl) (want_k rfl rfl s189) (fun hc v hv => ex_ld rfl (ev s190 rfl) (by rw [← hgy]; exact (CQ.bel hv).ldB)) rfl hz (by decide) hS (fun A22_31 zz kk s191x => ?_)
    replace s0 := (kk 0 (by decide)).trans s0
    replace s1 := (kk 1 (by decide)).trans s1
    replace s2 := (kk 2 (by decide)).trans s2
    replace s3 := (kk 3 (by decide)).trans s3
    replace s4 := (kk 4 (by decide)).trans s4
    replace s11 := (kk 11 (by decide)).trans s11
    replace s12 := (kk 12 (by decide)).trans s12
    replace s15 := (kk 15 (by decide)).trans s15
    replace s17 := (kk 17 (by decide)).trans s17
    replace s189 := (kk 189 (by decide)).trans s189
    clear kk hz s190
    have hz := zz
    have s191 := s191x
    clear zz s191x A22_30
    refine vh_take 31 true (.int .i64 (at_ : Int)) rfl (by kernel_rfl) (by kernel_rfl) (by kernel_rfl) (want_k rfl rfl s189) (fun hc v hv => ex_move rfl (ev s3 rfl)) rfl hz (by decide) hS (fun A22_32 zz kk s192x => ?_)
    replace s0 := (kk 0 (by decide)).trans s0
    replace s1 := (kk 1 (by decide)).trans s1
    replace s2 := (kk 2 (by decide)).trans s2
    replace s3 := (kk 3 (by decide)).trans s3
    replace s4 := (kk 4 (by decide)).trans s4
    replace s11 := (kk 11 (by decide)).trans s11
    replace s12 := (kk 12 (by decide)).trans s12
    replace s15 := (kk 15 (by decide)).trans s15
    replace s17 := (kk 17 (by decide)).trans s17
    replace s189 := (kk 189 (by decide)).trans s189
    replace s191 := (kk 191 (by decide)).trans s191
    clear kk hz
    have hz := zz
    have s192 := s192x
    clear zz s192x A22_31
    refine vh_take 32 true (.pointer (some ⟨g, at_, none⟩)) rfl (by kernel_rfl) (by kernel_rfl) (by kernel_rfl) (want_k rfl rfl s189) (fun hc v hv => ex_ix rfl (ev s191 rfl) (ev s192 rfl) (ixU g y.s.length y.c at_ hatY _)) rfl hz (by decide) hS (fun A22_33 zz kk s193x => ?_)
    replace s0 := (kk 0 (by decide)).trans s0
    replace s1 := (kk 1 (by decide)).trans s1
    replace s2 := (kk 2 (by decide)).trans s2
    replace s3 := (kk 3 (by decide)).trans s3
    replace s4 := (kk 4 (by decide)).trans s4
    replace s11 := (kk 11 (by decide)).trans s11
    replace s12 := (kk 12 (by decide)).trans s12
    replace s15 := (kk 15 (by decide)).trans s15
    replace s17 := (kk 17 (by decide)).trans s17
    replace s189 := (kk 189 (by decide)).trans s189
    clear kk hz s191 s192
    have hz := zz
    have s193 := s193x
    clear zz s193x A22_32
    refine vh_take 33 true (.int .u8 ((u0 ^^^ m).toNat : Int)) rfl (by kernel_rfl) (by kernel_rfl) (by kernel_rfl) (want_k rfl rfl s189) (fun hc v hv => ex_ld rfl (ev s193 rfl) (ldU (hcy v hv))) rfl hz (by decide) hS (fun A22_34 zz kk s194x => ?_)
    replace s0 := (kk 0 (by decide)).trans s0
    replace s1 := (kk 1 (by decide)).trans s1
    replace s2 := (kk 2 (by decide)).trans s2
    replace s3 := (kk 3 (by decide)).trans s3
    replace s4 := (kk 4 (by decide)).trans s4
    replace s11 := (kk 11 (by decide)).trans s11
    replace s12 := (kk 12 (by decide)).trans s12
    replace s15 := (kk 15 (by decide)).trans s15
    replace s17 := (kk 17 (by decide)).trans s17
    replace s189 := (kk 189 (by decide)).trans s189
    clear kk hz s193
    have hz := zz
    have s194 := s194x
    clear zz s194x A22_33
    refine vh_take 34 true (.pointer (some ⟨qf, 0 + 2, none⟩)) rfl (by kernel_rfl) (by kernel_rfl) (by kernel_rfl) (want_k rfl rfl s189) (fun hc v hv => ex_fa rfl (ev s17 rfl) (faB _ _ _)) rfl hz (by decide) hS (fun A22_35 zz kk s195x => ?_)
    replace s0 := (kk 0 (by decide)).trans s0
    replace s1 := (kk 1 (by decide)).trans s1
    replace s2 := (kk 2 (by decide)).trans s2
    replace s3 := (kk 3 (by decide)).trans s3
    replace s4 := (kk 4 (by decide)).trans s4
    replace s11 := (kk 11 (by decide)).trans s11
    replace s12 := (kk 12 (by decide)).trans s12
    replace s15 := (kk 15 (by decide)).trans s15
    replace s189 := (kk 189 (by decide)).trans s189
    replace s194 := (kk 194 (by decide)).trans s194
    clear kk hz s17
    have hz := zz
    have s195 := s195x
    clear zz s195x A22_34
    refine vh_take 35 true (.slice (some ⟨gz, 0, none⟩) z1.s.length z1.c) rfl (by kernel_rfl) (by kernel_rfl) (by kernel_rfl) (want_k rfl rfl s189) (fun hc v hv => ex_ld rfl (ev s195 rfl) (by rw [← hgz]; exact (CF.bel hv).ldB)) rfl hz (by decide) hS (fun A22_36 zz kk s196x => ?_)
    replace s0 := (kk 0 (by decide)).trans s0
    replace s1 := (kk 1 (by decide)).trans s1
    replace s2 := (kk 2 (by decide)).trans s2
    replace s3 := (kk 3 (by decide)).trans s3
    replace s4 := (kk 4 (by decide)).trans s4
    replace s11 := (kk 11 (by decide)).trans s11
    replace s12 := (kk 12 (by decide)).trans s12
    replace s15 := (kk 15 (by decide)).trans s15
    replace s189 := (kk 189 (by decide)).trans s189
    replace s194 := (kk 194 (by decide)).trans s194
    clear kk hz s195
    have hz := zz
    have s196 := s196x
    clear zz s196x A22_35
    refine vh_take 36 true (.int .i64 (at_ : Int)) rfl (by kernel_rfl) (by kernel_rfl) (by kernel_rfl) (want_k rfl rfl s189) (fun hc v hv => ex_move rfl (ev s3 rfl)) rfl hz (by decide) hS (fun A22_37 zz kk s197x => ?_)
    replace s0 := (kk 0 (by decide)).trans s0
    replace s1 := (kk 1 (by decide)).trans s1
    replace s2 := (kk 2 (by decide)).trans s2
    replace s3 := (kk 3 (by decide)).trans s3
    replace s4 := (kk 4 (by decide)).trans s4
    replace s11 := (kk 11 (by decide)).trans s11
    replace s12 := (kk 12 (by decide)).trans s12
    replace s15 := (kk 15 (by decide)).trans s15
    replace s189 := (kk 189 (by decide)).trans s189
    replace s194 := (kk 194 (by decide)).trans s194
    replace s196 := (kk 196 (by decide)).trans s196
    clear kk hz
    have hz := zz
    have s197 := s197x
    clear zz s197x A22_36
    refine vh_take 37 true (.pointer (some ⟨gz, at_, none⟩)) rfl (by kernel_rfl) (by kernel_rfl) (by kernel_rfl) (want_k rfl rfl s189) (fun hc v hv => ex_ix rfl (ev s196 rfl) (ev s197 rfl) (ixU gz z1.s.length z1.c at_ hatZ _)) rfl hz (by decide) hS (fun A22_38 zz kk s198x => ?_)
    replace s0 := (kk 0 (by decide)).trans s0
    replace s1 := (kk 1 (by decide)).trans s1
    replace s2 := (kk 2 (by decide)).trans s2
    replace s3 := (kk 3 (by decide)).trans s3
    replace s4 := (kk 4 (by decide)).trans s4
    replace s11 := (kk 11 (by decide)).trans s11
    replace s12 := (kk 12 (by decide)).trans s12
    replace s15 := (kk 15 (by decide)).trans s15
    replace s189 := (kk 189 (by decide)).trans s189
    replace s194 := (kk 194 (by decide)).trans s194
    clear kk hz s196 s197
    have hz := zz
    have s198 := s198x
    clear zz s198x A22_37
    refine vh_take 38 true (.int .u8 (u0.toNat : Int)) rfl (by kernel_rfl) (by kernel_rfl) (by kernel_rfl) (want_k rfl rfl s189) (fun hc v hv => ex_ld rfl (ev s198 rfl) (ldU (hcz v hv))) rfl hz (by decide) hS (fun A22_39 zz kk s199x => ?_)
    replace s0 := (kk 0 (by decide)).trans s0
    replace s1 := (kk 1 (by decide)).trans s1
    replace s2 := (kk 2 (by decide)).trans s2
    replace s3 := (kk 3 (by decide)).trans s3
    replace s4 := (kk 4 (by decide)).trans s4
    replace s11 := (kk 11 (by decide)).trans s11
    replace s12 := (kk 12 (by decide)).trans s12
    replace s15 := (kk 15 (by decide)).trans s15
    replace s189 := (kk 189 (by decide)).trans s189
    replace s194 := (kk 194 (by decide)).trans s194
    clear kk hz s198
    have hz := zz
    have s199 := s199x
    clear zz s199x A22_38
    refine vh_take 39 true (.int .u8 (m.toNat : Int)) rfl (by kernel_rfl) (by kernel_rfl) (by kernel_rfl) (want_k rfl rfl s189) (fun hc v hv => ex_move rfl (ev s4 rfl)) rfl hz (by decide) hS (fun A22_40 zz kk s200x => ?_)
    replace s0 := (kk 0 (by decide)).trans s0
    replace s1 := (kk 1 (by decide)).trans s1
    replace s2 := (kk 2 (by decide)).trans s2
    replace s3 := (kk 3 (by decide)).trans s3
    replace s4 := (kk 4 (by decide)).trans s4
    replace s11 := (kk 11 (by decide)).trans s11
    replace s12 := (kk 12 (by decide)).trans s12
    replace s15 := (kk 15 (by decide)).trans s15
    replace s189 := (kk 189 (by decide)).trans s189
    replace s194 := (kk 194 (by decide)).trans s194
    replace s199 := (kk 199 (by decide)).trans s199
    clear kk hz
    have hz := zz
    have s200 := s200x
    clear zz s200x A22_39
    refine vh_take 40 true (.int .u8 ((u0 ^^^ m).toNat : Int)) rfl (by kernel_rfl) (by kernel_rfl) (by kernel_rfl) (want_k rfl rfl s189) (fun hc v hv => ex_bin rfl (ev s199 rfl) (ev s200 rfl) (xorU _ _ u0 m _)) rfl hz (by decide) hS (fun A22_41 zz kk s201x => ?_)
    replace s0 := (kk 0 (by decide)).trans s0
    replace s1 := (kk 1 (by decide)).trans s1
    replace s2 := (kk 2 (by decide)).trans s2
    replace s3 := (kk 3 (by decide)).trans s3
    replace s4 := (kk 4 (by decide)).trans s4
    replace s11 := (kk 11 (by decide)).trans s11
    replace s12 := (kk 12 (by decide)).trans s12
    replace s15 := (kk 15 (by decide)).trans s15
    replace s189 := (kk 189 (by decide)).trans s189
    replace s194 := (kk 194 (by decide)).trans s194
    clear kk hz s199 s200
    have hz := zz
    have s201 := s201x
    clear zz s201x A22_40
    refine vh_take 41 true (.bool false) rfl (by kernel_rfl) (by kernel_rfl) (by kernel_rfl) (want_k rfl rfl s189) (fun hc v hv => ex_bin rfl (ev s194 rfl) (ev s201 rfl) (neqU _ _ _ _)) rfl hz (by decide) hS (fun A22_42 zz kk s202x => ?_)
    replace s0 := (kk 0 (by decide)).trans s0
    replace s1 := (kk 1 (by decide)).trans s1
    replace s2 := (kk 2 (by decide)).trans s2
    replace s3 := (kk 3 (by decide)).trans s3
    replace s4 := (kk 4 (by decide)).trans s4
    replace s11 := (kk 11 (by decide)).trans s11
    replace s12 := (kk 12 (by decide)).trans s12
    replace s15 := (kk 15 (by decide)).trans s15
    replace s189 := (kk 189 (by decide)).trans s189
    clear kk hz s194 s201
    have hz := zz
    have s202 := s202x
    clear zz s202x A22_41
    refine vh_take 42 true (.bool false) rfl (by kernel_rfl) (by kernel_rfl) (by kernel_rfl) (want_none rfl) (fun hc v hv => ex_or rfl s189 s202 rfl) rfl hz (by decide) hS (fun A22_43 zz kk s203x => ?_)
    replace s0 := (kk 0 (by decide)).trans s0
    replace s1 := (kk 1 (by decide)).trans s1
    replace s2 := (kk 2 (by decide)).trans s2
    replace s3 := (kk 3 (by decide)).trans s3
    replace s4 := (kk 4 (by decide)).trans s4
    replace s11 := (kk 11 (by decide)).trans s11
    replace s12 := (kk 12 (by decide)).trans s12
    replace s15 := (kk 15 (by decide)).trans s15
    clear kk hz s189 s202
    have hz := zz
    have s203 := s203x
    clear zz s203x A22_42
    refine vh_done (by kernel_rfl) ?_
    go_upto_region 24 with fail
    refine wp_cond_false ((ev s203 rfl).trans rfl) ?_
    clear s203
    have HS2 := HS.step hS
    have BQ2 := BQ.bel hS
    have OY2 := OwnY.grow OY hS
    have hcy2 := hcy w18 hS
    clear HS BQ OY OZ CF CQ hcy hcz hcy0 hcz0 hgl hgzl hS hgz
    have HS := HS2
    have BQ := BQ2
    have OY := OY2
    clear HS2 BQ2 OY2
    have CQ := BQ.c3 (p := y)
    have hS : Upd (fun k => k = g) w18 w18.drew := Upd.of_below (Below.refl _ _).drew
    have OYd : OwnY yU w12.heap.size w18.drew (.slice (some ⟨g, 0, none⟩) y.s.length y.c) y.s := by rw [← hgy]; exact OwnY.grow OY (Below.refl _ _).drew
    have hcyd : w18.drew.cell? ⟨g, at_, none⟩ = some (.int .u8 ((u0 ^^^ m).toNat : Int)) := hcy2
    have hfrd := OwnY.free OYd at_
    go_upto_region 24 with fail
    refine vh_start (fun v => Upd (fun k => k = g) w18 v) (by kernel_rfl) ?_
    refine vh_take 0 true (.pointer (some ⟨q, 0 + 2, none⟩)) rfl (by kernel_rfl) (by kernel_rfl) (by kernel_rfl) (want_none rfl) (fun hc v hv => ex_fa rfl (ev s15 rfl) (faB _ _ _)) rfl hz (by decide) hS (fun A24_1 zz kk s204x => ?_)
    replace s0 := (kk 0 (by decide)).trans s0
    replace s1 := (kk 1 (by decide)).trans s1
    replace s2 := (kk 2 (by decide)).trans s2
    replace s3 := (kk 3 (by decide)).trans s3
    replace s4 := (kk 4 (by decide)).trans s4
    replace s11 := (kk 11 (by decide)).trans s11
    replace s12 := (kk 12 (by decide)).trans s12
    replace s15 := (kk 15 (by decide)).trans s15
    clear kk hz
    have hz := zz
    have s204 := s204x
    clear zz s204x
    refine vh_take 1 true (.slice (some ⟨g, 0, none⟩) y.s.length y.c) rfl (by kernel_rfl) (by kernel_rfl) (by kernel_rfl) (want_none rfl) (fun hc v hv => ex_ld rfl (ev s204 rfl) (by rw [← hgy]; exact (CQ.upd hv hqg).ldB)) rfl hz (by decide) hS (fun A24_2 zz kk s205x => ?_)
    replace s0 := (kk 0 (by decide)).trans s0
    replace s1 := (kk 1 (by decide)).trans s1
    replace s2 := (kk 2 (by decide)).trans s2
    replace s3 := (kk 3 (by decide)).trans s3
    replace s4 := (kk 4 (by decide)).trans s4
    replace s11 := (kk 11 (by decide)).trans s11
    replace s12 := (kk 12 (by decide)).trans s12
    replace s15 := (kk 15 (by decide)).trans s15
    clear kk hz s204
    have hz := zz
    have s205 := s205x
    clear zz s205x A24_1
    refine vh_take 2 true (.int .i64 (at_ : Int)) rfl (by kernel_rfl) (by kernel_rfl) (by kernel_rfl) (want_none rfl) (fun hc v hv => ex_move rfl (ev s3 rfl)) rfl hz (by decide) hS (fun A24_3 zz kk s206x => ?_)
    replace s0 := (kk 0 (by decide)).trans s0
    replace s1 := (kk 1 (by decide)).trans s1
    replace s2 := (kk 2 (by decide)).trans s2
    replace s3 := (kk 3 (by decide)).trans s3
    replace s4 := (kk 4 (by decide)).trans s4
    replace s11 := (kk 11 (by decide)).trans s11
    replace s12 := (kk 12 (by decide)).trans s12
    replace s15 := (kk 15 (by decide)).trans s15
    replace s205 := (kk 205 (by decide)).trans s205
    clear kk hz
    have hz := zz
    have s206 := s206x
    clear zz s206x A24_2
    refine vh_take 3 true (.pointer (some ⟨q, 0 + 2, none⟩)) rfl (by kernel_rfl) (by kernel_rfl) (by kernel_rfl) (want_none rfl) (fun hc v hv => ex_fa rfl (ev s15 rfl) (faB _ _ _)) rfl hz (by decide) hS (fun A24_4 zz kk s207x => ?_)
    replace s0 := (kk 0 (by decide)).trans s0
    replace s1 := (kk 1 (by decide)).trans s1
    replace s2 := (kk 2 (by decide)).trans s2
    replace s3 := (kk 3 (by decide)).trans s3
    replace s4 := (kk 4 (by decide)).trans s4
    replace s11 := (kk 11 (by decide)).trans s11
    replace s12 := (kk 12 (by decide)).trans s12
    replace s15 := (kk 15 (by decide)).trans s15
    replace s205 := (kk 205 (by decide)).trans s205
    replace s206 := (kk 206 (by decide)).trans s206
    clear kk hz
    have hz := zz
    have s207 := s207x
    clear zz s207x A24_3
    refine vh_take 4 true (.slice (some ⟨g, 0, none⟩) y.s.length y.c) rfl (by kernel_rfl) (by kernel_rfl) (by kernel_rfl) (want_none rfl) (fun hc v hv => ex_ld rfl (ev s207 rfl) (by rw [← hgy]; exact (CQ.upd hv hqg).ldB)) rfl hz (by decide) hS (fun A24_5 zz kk s208x => ?_)
    replace s0 := (kk 0 (by decide)).trans s0
    replace s1 := (kk 1 (by decide)).trans s1
    replace s2 := (kk 2 (by decide)).trans s2
    replace s3 := (kk 3 (by decide)).trans s3
    replace s4 := (kk 4 (by decide)).trans s4
    replace s11 := (kk 11 (by decide)).trans s11
    replace s12 := (kk 12 (by decide)).trans s12
    replace s15 := (kk 15 (by decide)).trans s15
    replace s205 := (kk 205 (by decide)).trans s205
    replace s206 := (kk 206 (by decide)).trans s206
    clear kk hz s207
    have hz := zz
    have s208 := s208x
    clear zz s208x A24_4
    refine vh_take 5 true (.int .i64 (at_ : Int)) rfl (by kernel_rfl) (by kernel_rfl) (by kernel_rfl) (want_none rfl) (fun hc v hv => ex_move rfl (ev s3 rfl)) rfl hz (by decide) hS (fun A24_6 zz kk s209x => ?_)
    replace s0 := (kk 0 (by decide)).trans s0
    replace s1 := (kk 1 (by decide)).trans s1
    replace s2 := (kk 2 (by decide)).trans s2
    replace s3 := (kk 3 (by decide)).trans s3
    replace s4 := (kk 4 (by decide)).trans s4
    replace s11 := (kk 11 (by decide)).trans s11
    replace s12 := (kk 12 (by decide)).trans s12
    replace s15 := (kk 15 (by decide)).trans s15
    replace s205 := (kk 205 (by decide)).trans s205
    replace s206 := (kk 206 (by decide)).trans s206
    replace s208 := (kk 208 (by decide)).trans s208
    clear kk hz
    have hz := zz
    have s209 := s209x
    clear zz s209x A24_5
    refine vh_take 6 true (.pointer (some ⟨g, at_, none⟩)) rfl (by kernel_rfl) (by kernel_rfl) (by kernel_rfl) (want_none rfl) (fun hc v hv => ex_ix rfl (ev s208 rfl) (ev s209 rfl) (ixU g y.s.length y.c at_ hatY _)) rfl hz (by decide) hS (fun A24_7 zz kk s210x => ?_)
    replace s0 := (kk 0 (by decide)).trans s0
    replace s1 := (kk 1 (by decide)).trans s1
    replace s2 := (kk 2 (by decide)).trans s2
    replace s3 := (kk 3 (by decide)).trans s3
    replace s4 := (kk 4 (by decide)).trans s4
    replace s11 := (kk 11 (by decide)).trans s11
    replace s12 := (kk 12 (by decide)).trans s12
    replace s15 := (kk 15 (by decide)).trans s15
    replace s205 := (kk 205 (by decide)).trans s205
    replace s206 := (kk 206 (by decide)).trans s206
    clear kk hz s208 s209
    have hz := zz
    have s210 := s210x
    clear zz s210x A24_6
    refine vh_take 8 true (.int .u8 (m.toNat : Int)) rfl (by kernel_rfl) (by kernel_rfl) (by kernel_rfl) (want_none rfl) (fun hc v hv => ex_move rfl (ev s4 rfl)) rfl hz (by decide) hS (fun A24_8 zz kk s212x => ?_)
    replace s0 := (kk 0 (by decide)).trans s0
    replace s1 := (kk 1 (by decide)).trans s1
    replace s2 := (kk 2 (by decide)).trans s2
    replace s3 := (kk 3 (by decide)).trans s3
    replace s4 := (kk 4 (by decide)).trans s4
    replace s11 := (kk 11 (by decide)).trans s11
    replace s12 := (kk 12 (by decide)).trans s12
    replace s15 := (kk 15 (by decide)).trans s15
    replace s205 := (kk 205 (by decide)).trans s205
    replace s206 := (kk 206 (by decide)).trans s206
    replace s210 := (kk 210 (by decide)).trans s210
    clear kk hz
    have hz := zz
    have s212 := s212x
    clear zz s212x A24_7
    refine vh_val9 7 (.int .u8 ((u0 ^^^ m).toNat : Int)) _ rfl (by kernel_rfl) (want_none rfl) (ex_ld rfl (ev s210 rfl) (ldU hcyd)) rfl hz (by decide) hS (fun A24_9 zz kk s211x => ?_)
    replace s0 := (kk 0 (by decide)).trans s0
    replace s1 := (kk 1 (by decide)).trans s1
    replace s2 := (kk 2 (by decide)).trans s2
    replace s3 := (kk 3 (by decide)).trans s3
    replace s4 := (kk 4 (by decide)).trans s4
    replace s11 := (kk 11 (by decide)).trans s11
    replace s12 := (kk 12 (by decide)).trans s12
    replace s15 := (kk 15 (by decide)).trans s15
    replace s205 := (kk 205 (by decide)).trans s205
    replace s206 := (kk 206 (by decide)).trans s206
    replace s212 := (kk 212 (by decide)).trans s212
    clear kk hz s210
    have hz := zz
    have s211 := s211x
    clear zz s211x A24_8
    refine vh_take 9 true (.int .u8 ((u0 ^^^ m ^^^ m).toNat : Int)) rfl (by kernel_rfl) (by kernel_rfl) (by kernel_rfl) (want_none rfl) (fun hc v hv => ex_bin rfl (ev s211 rfl) (ev s212 rfl) (xorU _ _ (u0 ^^^ m) m _)) rfl hz (by decide) hS (fun A24_10 zz kk s213x => ?_)
    replace s0 := (kk 0 (by decide)).trans s0
    replace s1 := (kk 1 (by decide)).trans s1
    replace s2 := (kk 2 (by decide)).trans s2
    replace s3 := (kk 3 (by decide)).trans s3
    replace s4 := (kk 4 (by decide)).trans s4
    replace s11 := (kk 11 (by decide)).trans s11
    replace s12 := (kk 12 (by decide)).trans s12
    replace s15 := (kk 15 (by decide)).trans s15
    replace s205 := (kk 205 (by decide)).trans s205
    replace s206 := (kk 206 (by decide)).trans s206
    clear kk hz s211 s212
    have hz := zz
    have s213 := s213x
    clear zz s213x A24_9
    refine vh_take 10 true (.pointer (some ⟨g, at_, none⟩)) rfl (by kernel_rfl) (by kernel_rfl) (by kernel_rfl) (want_none rfl) (fun hc v hv => ex_ix rfl (ev s205 rfl) (ev s206 rfl) (ixU g y.s.length y.c at_ hatY _)) rfl hz (by decide) hS (fun A24_11 zz kk s214x => ?_)
    replace s0 := (kk 0 (by decide)).trans s0
    replace s1 := (kk 1 (by decide)).trans s1
    replace s2 := (kk 2 (by decide)).trans s2
    replace s3 := (kk 3 (by decide)).trans s3
    replace s4 := (kk 4 (by decide)).trans s4
    replace s11 := (kk 11 (by decide)).trans s11
    replace s12 := (kk 12 (by decide)).trans s12
    replace s15 := (kk 15 (by decide)).trans s15
    replace s213 := (kk 213 (by decide)).trans s213
    clear kk hz s205 s206
    have hz := zz
    have s214 := s214x
    clear zz s214x A24_10
    refine vh_store9 11 (w18.drew.setCell ⟨g, at_, none⟩ (.int .u8 ((u0 ^^^ m ^^^ m).toNat : Int))) rfl (by kernel_rfl) (want_none rfl) (ex_st rfl (ev s214 rfl) (ev s213 rfl) (stU hcyd hfrd _)) rfl (hS.setCell (p := ⟨g, at_, none⟩) (.inl rfl) _) ?_
    have hU1 : Upd (fun k => k = g) w18 (w18.drew.setCell ⟨g, at_, none⟩ (.int .u8 ((u0 ^^^ m ^^^ m).toNat : Int))) := hS.setCell (p := ⟨g, at_, none⟩) (.inl rfl) _
    have OY2 := OwnY.set1 kU OYd (i := at_) (x := u0 ^^^ m) (by rw [hys.1, List.getElem?_set_self hat1]) (u0 ^^^ m ^^^ m) 0 (.int .u8 ((u0 ^^^ m ^^^ m).toNat : Int)) (by decide) rfl
    rw [show at_ * yU.k + 0 = at_ by show at_ * 1 + 0 = at_; omega] at OY2
    have hback : y.s.set at_ (u0 ^^^ m ^^^ m) = u.s := by rw [hys.1, List.set_set, UInt8.xor_assoc, UInt8.xor_self, UInt8.xor_zero]; exact List.set_getElem?_self9 hu0
    rw [hback] at OY2
    obtain ⟨w19, hw19⟩ : ∃ v, v = w18.drew.setCell ⟨g, at_, none⟩ (.int .u8 ((u0 ^^^ m ^^^ m).toNat : Int)) := ⟨_, rfl⟩
    rw [← hw19] at hU1 OY2 ⊢
    clear hw19 hcyd hfrd OYd hcy2 CQ OY hS
    have HS2 := HS.put hU1 (.inr rfl) hTg
    have BQ2 := BQ.upd hU1 hqg
    clear HS BQ hU1
    have HS := HS2
    clear HS2
    obtain ⟨y2, hy2⟩ : ∃ v : Ap, v = ⟨y.f, y.t, y.a, y.c, u.s⟩ := ⟨_, rfl⟩
    have BQ : B3 w19 q (.int .i64 y2.f) (.int .i64 y2.t) (.slice y2.a y2.s.length y2.c) := by rw [hy2]; dsimp only; rw [← hyl]; exact BQ2
    have hp2 : y2.pk = u.pk := by rw [hy2]; unfold Ap.pk; dsimp only; rw [hys.2.1, hys.2.2]
    have OY : OwnY yU w12.heap.size w19 (.slice y2.a y2.s.length y2.c) y2.s := by rw [hy2]; dsimp only; rw [hgy, ← hyl]; exact OY2
    have hgy2 : y2.a = some ⟨g, 0, none⟩ := by rw [hy2]; exact hgy
    clear hy2 BQ2 OY2 hback hys hyl hlenYZ hatY hatZ hzs
    refine vh_done (by kernel_rfl) ?_
    clear s213 s214
    have hat2 : at_ < (tnP u.pk at_ m).s.length := by show at_ < (u.s.set at_ _).length; rw [List.length_set]; exact hat1
    have hset2 : (W ++ [tnP u.pk at_ m]).set L.length (tnP (tnP u.pk at_ m) at_ m) = W ++ [u.pk] := by rw [tn2 u.pk at_ m hat1, ← hWL]; exact set_last W (tnP u.pk at_ m) u.pk
    go_upto_region 25 with fail
    refine wp_region_lit ?_
    refine vl true (.pointer (some ⟨b, 0, none⟩)) (want_none rfl) (fun hc => ex_move rfl (ev s11 rfl)) rfl hz (by decide) (fun A25_1 zz kk s215x => ?_)
    replace s0 := (kk 0 (by decide)).trans s0
    replace s1 := (kk 1 (by decide)).trans s1
    replace s2 := (kk 2 (by decide)).trans s2
    replace s3 := (kk 3 (by decide)).trans s3
    replace s4 := (kk 4 (by decide)).trans s4
    replace s11 := (kk 11 (by decide)).trans s11
    replace s12 := (kk 12 (by decide)).trans s12
    replace s15 := (kk 15 (by decide)).trans s15
    clear kk hz
    have hz := zz
    have s215 := s215x
    clear zz s215x
    refine vl true (.slice a L.length c) (want_none rfl) (fun hc => ex_move rfl (ev s0 rfl)) rfl hz (by decide) (fun A25_2 zz kk s216x => ?_)
    replace s0 := (kk 0 (by decide)).trans s0
    replace s1 := (kk 1 (by decide)).trans s1
    replace s2 := (kk 2 (by decide)).trans s2
    replace s3 := (kk 3 (by decide)).trans s3
    replace s4 := (kk 4 (by decide)).trans s4
    replace s11 := (kk 11 (by decide)).trans s11
    replace s12 := (kk 12 (by decide)).trans s12
    replace s15 := (kk 15 (by decide)).trans s15
    replace s215 := (kk 215 (by decide)).trans s215
    clear kk hz
    have hz := zz
    have s216 := s216x
    clear zz s216x A25_1
    refine vl true (.int .i64 (L.length : Int)) (want_none rfl) (fun hc => ex_lenP rfl rfl (ev s216 rfl)) rfl hz (by decide) (fun A25_3 zz kk s217x => ?_)
    replace s0 := (kk 0 (by decide)).trans s0
    replace s1 := (kk 1 (by decide)).trans s1
    replace s2 := (kk 2 (by decide)).trans s2
    replace s3 := (kk 3 (by decide)).trans s3
    replace s4 := (kk 4 (by decide)).trans s4
    replace s11 := (kk 11 (by decide)).trans s11
    replace s12 := (kk 12 (by decide)).trans s12
    replace s15 := (kk 15 (by decide)).trans s15
    replace s215 := (kk 215 (by decide)).trans s215
    clear kk hz s216
    have hz := zz
    have s217 := s217x
    clear zz s217x A25_2
    refine vl true (.int .i64 (at_ : Int)) (want_none rfl) (fun hc => ex_move rfl (ev s3 rfl)) rfl hz (by decide) (fun A25_4 zz kk s218x => ?_)
    replace s0 := (kk 0 (by decide)).trans s0
    replace s1 := (kk 1 (by decide)).trans s1
    replace s2 := (kk 2 (by decide)).trans s2
    replace s3 := (kk 3 (by decide)).trans s3
    replace s4 := (kk 4 (by decide)).trans s4
    replace s11 := (kk 11 (by decide)).trans s11
    replace s12 := (kk 12 (by decide)).trans s12
    replace s15 := (kk 15 (by decide)).trans s15
    replace s215 := (kk 215 (by decide)).trans s215
    replace s217 := (kk 217 (by decide)).trans s217
    clear kk hz
    have hz := zz
    have s218 := s218x
    clear zz s218x A25_3
    refine vl true (.int .u8 (m.toNat : Int)) (want_none rfl) (fun hc => ex_move rfl (ev s4 rfl)) rfl hz (by decide) (fun A25_5 zz kk s219x => ?_)
    replace s0 := (kk 0 (by decide)).trans s0
    replace s1 := (kk 1 (by decide)).trans s1
    replace s2 := (kk 2 (by decide)).trans s2
    replace s3 := (kk 3 (by decide)).trans s3
    replace s4 := (kk 4 (by decide)).trans s4
    replace s11 := (kk 11 (by decide)).trans s11
    replace s12 := (kk 12 (by decide)).trans s12
    replace s15 := (kk 15 (by decide)).trans s15
    replace s215 := (kk 215 (by decide)).trans s215
    replace s217 := (kk 217 (by decide)).trans s217
    replace s218 := (kk 218 (by decide)).trans s218
    clear kk hz
    have hz := zz
    have s219 := s219x
    clear zz s219x A25_4
    refine vcallP (want_none rfl) (ex_call rfl (by simp only [List.map_toArray, List.map_cons, List.map_nil, (ev s215 rfl), (ev s217 rfl), (ev s218 rfl), (ev s219 rfl), evc] <;> rfl) rfl) (hs_turn HS L.length at_ m (tnP u.pk at_ m) hlast2 hat2 (hl2 _)) rfl hz (by decide) ?_
    rintro e w20 ⟨rfl, hS20, U20⟩
    refine ⟨_, rfl, fun A25_6 zz kk s220x => ?_⟩
    rw [hset2] at hS20
    have BQ2 := BQ.upd U20 hqb
    have OY2 := OwnY.upd1 OY U20 (fun k hk e => by rw [hgy2] at hk; cases hk; exact hgb e)
    clear HS BQ OY U20
    have HS := hS20
    have BQ := BQ2
    have OY := OY2
    clear hS20 BQ2 OY2
    replace s0 := (kk 0 (by decide)).trans s0
    replace s1 := (kk 1 (by decide)).trans s1
    replace s2 := (kk 2 (by decide)).trans s2
    replace s3 := (kk 3 (by decide)).trans s3
    replace s4 := (kk 4 (by decide)).trans s4
    replace s11 := (kk 11 (by decide)).trans s11
    replace s12 := (kk 12 (by decide)).trans s12
    replace s15 := (kk 15 (by decide)).trans s15
    clear kk hz s215 s217 s218 s219
    have hz := zz
    have s220 := s220x
    clear zz s220x A25_5
    refine vl true (.int .i64 0) (want_none rfl) (fun hc => ex_assign rfl (ev s220 rfl)) rfl hz (by decide) (fun A25_7 zz kk s14x => ?_)
    replace s0 := (kk 0 (by decide)).trans s0
    replace s1 := (kk 1 (by decide)).trans s1
    replace s2 := (kk 2 (by decide)).trans s2
    replace s3 := (kk 3 (by decide)).trans s3
    replace s4 := (kk 4 (by decide)).trans s4
    replace s11 := (kk 11 (by decide)).trans s11
    replace s12 := (kk 12 (by decide)).trans s12
    replace s15 := (kk 15 (by decide)).trans s15
    clear kk hz s220
    have hz := zz
    have s14 := s14x
    clear zz s14x A25_6
    refine wpList_nil ?_
    go_upto_region 26 with fail
    refine wp_region_lit ?_
    refine vl true (.pointer (some ⟨b, 0, none⟩)) (want_none rfl) (fun hc => ex_move rfl (ev s11 rfl)) rfl hz (by decide) (fun A26_1 zz kk s222x => ?_)
    replace s0 := (kk 0 (by decide)).trans s0
    replace s2 := (kk 2 (by decide)).trans s2
    replace s11 := (kk 11 (by decide)).trans s11
    replace s12 := (kk 12 (by decide)).trans s12
    replace s14 := (kk 14 (by decide)).trans s14
    replace s15 := (kk 15 (by decide)).trans s15
    clear kk hz s1 s3 s4
    have hz := zz
    have s222 := s222x
    clear zz s222x
    refine vl true (.slice a L.length c) (want_none rfl) (fun hc => ex_move rfl (ev s0 rfl)) rfl hz (by decide) (fun A26_2 zz kk s223x => ?_)
    replace s0 := (kk 0 (by decide)).trans s0
    replace s2 := (kk 2 (by decide)).trans s2
    replace s11 := (kk 11 (by decide)).trans s11
    replace s12 := (kk 12 (by decide)).trans s12
    replace s14 := (kk 14 (by decide)).trans s14
    replace s15 := (kk 15 (by decide)).trans s15
    replace s222 := (kk 222 (by decide)).trans s222
    clear kk hz
    have hz := zz
    have s223 := s223x
    clear zz s223x A26_1
    refine vl true (.int .i64 (L.length : Int)) (want_none rfl) (fun hc => ex_lenP rfl rfl (ev s223 rfl)) rfl hz (by decide) (fun A26_3 zz kk s224x => ?_)
    replace s0 := (kk 0 (by decide)).trans s0
    replace s2 := (kk 2 (by decide)).trans s2
    replace s11 := (kk 11 (by decide)).trans s11
    replace s12 := (kk 12 (by decide)).trans s12
    replace s14 := (kk 14 (by decide)).trans s14
    replace s15 := (kk 15 (by decide)).trans s15
    replace s222 := (kk 222 (by decide)).trans s222
    clear kk hz s223
    have hz := zz
    have s224 := s224x
    clear zz s224x A26_2
    refine vcallP (want_none rfl) (ex_call rfl (by simp only [List.map_toArray, List.map_cons, List.map_nil, (ev s222 rfl), (ev s224 rfl), evc] <;> rfl) rfl) (hs_at HS L.length u.pk hlast) rfl hz (by decide) ?_
    rintro e w21 ⟨z2, rfl, hz2p, oz2, _, hb21⟩
    refine ⟨_, rfl, fun A26_4 zz kk s225x => ?_⟩
    obtain ⟨qb, hqb⟩ : ∃ v, v = w21.heap.size := ⟨_, rfl⟩
    obtain ⟨w22, hw22⟩ : ∃ v, v = w21.alloc (.cells #[.int .i64 0, .int .i64 0, .slice none 0 0] 46) := ⟨_, rfl⟩
    have hbA : Below w21.heap.size w21 w22 := by rw [hw22]; exact (Below.refl _ _).alloc (Nat.le_refl _) _
    have BN : B3 w22 qb (.int .i64 0) (.int .i64 0) (.slice none 0 0) := by rw [hw22, hqb]; exact B3.new _ _ _ _ _
    replace s0 := (kk 0 (by decide)).trans s0
    replace s2 := (kk 2 (by decide)).trans s2
    replace s11 := (kk 11 (by decide)).trans s11
    replace s12 := (kk 12 (by decide)).trans s12
    replace s14 := (kk 14 (by decide)).trans s14
    replace s15 := (kk 15 (by decide)).trans s15
    clear kk hz s222 s224
    have hz := zz
    have s225 := s225x
    clear zz s225x A26_3
    refine vl true (.tuple #[z2.val, .int .i64 0]) (want_none rfl) (fun hc => ex_move rfl (ev s225 rfl)) rfl hz (by decide) (fun A26_5 zz kk s221x => ?_)
    replace s0 := (kk 0 (by decide)).trans s0
    replace s2 := (kk 2 (by decide)).trans s2
    replace s11 := (kk 11 (by decide)).trans s11
    replace s12 := (kk 12 (by decide)).trans s12
    replace s14 := (kk 14 (by decide)).trans s14
    replace s15 := (kk 15 (by decide)).trans s15
    clear kk hz s225
    have hz := zz
    have s221 := s221x
    clear zz s221x A26_4
    refine vl true (z2.val) (want_none rfl) (fun hc => ex_ext9 rfl (ev s221 rfl) rfl) rfl hz (by decide) (fun A26_6 zz kk s226x => ?_)
    replace s0 := (kk 0 (by decide)).trans s0
    replace s2 := (kk 2 (by decide)).trans s2
    replace s11 := (kk 11 (by decide)).trans s11
    replace s12 := (kk 12 (by decide)).trans s12
    replace s14 := (kk 14 (by decide)).trans s14
    replace s15 := (kk 15 (by decide)).trans s15
    replace s221 := (kk 221 (by decide)).trans s221
    clear kk hz
    have hz := zz
    have s226 := s226x
    clear zz s226x A26_5
    refine vl true (.int .i64 0) (want_none rfl) (fun hc => ex_ext9 rfl (ev s221 rfl) rfl) rfl hz (by decide) (fun A26_7 zz kk s227x => ?_)
    replace s0 := (kk 0 (by decide)).trans s0
    replace s2 := (kk 2 (by decide)).trans s2
    replace s11 := (kk 11 (by decide)).trans s11
    replace s12 := (kk 12 (by decide)).trans s12
    replace s14 := (kk 14 (by decide)).trans s14
    replace s15 := (kk 15 (by decide)).trans s15
    replace s226 := (kk 226 (by decide)).trans s226
    clear kk hz s221
    have hz := zz
    have s227 := s227x
    clear zz s227x A26_6
    refine vw (.pointer (some ⟨qb, 0, none⟩)) w22 (want_none rfl) (ex_al rfl (by rw [hw22, hqb]; exact alP _)) rfl hz (by decide) (fun A26_8 zz kk s19x => ?_)
    replace s0 := (kk 0 (by decide)).trans s0
    replace s2 := (kk 2 (by decide)).trans s2
    replace s11 := (kk 11 (by decide)).trans s11
    replace s12 := (kk 12 (by decide)).trans s12
    replace s14 := (kk 14 (by decide)).trans s14
    replace s15 := (kk 15 (by decide)).trans s15
    replace s226 := (kk 226 (by decide)).trans s226
    replace s227 := (kk 227 (by decide)).trans s227
    clear kk hz
    have hz := zz
    have s19 := s19x
    clear zz s19x A26_7
    refine vs (put3 w22 qb z2) (want_none rfl) (ex_st rfl (ev s19 rfl) (ev s226 rfl) (stP BN z2)) rfl ?_
    have SP := BN.put3 z2
    obtain ⟨w23, hw23⟩ : ∃ v, v = put3 w22 qb z2 := ⟨_, rfl⟩
    rw [← hw23] at SP ⊢
    clear hw23 hw22
    have hbT : Below w21.heap.size w21 w23 := hbA.trans (SP.2.below hbA.size (fun k hk => by omega))
    clear hbA BN
    have hbU := hb21.trans (hbT.mono hb21.size)
    have HS2 := HS.step hbU
    have CQ := (BQ.bel hbU).c3
    have OY2 := OwnY.grow OY hbU
    have OZ := OwnY.grow oz2.own hbT
    have CB := SP.1.c3
    clear HS BQ OY oz2 hb21 hbT hbU SP
    have HS := HS2
    have OY := OY2
    clear HS2 OY2
    refine vl true (.int .i64 0) (want_none rfl) (fun hc => ex_assign rfl (ev s227 rfl)) rfl hz (by decide) (fun A26_9 zz kk s20x => ?_)
    replace s0 := (kk 0 (by decide)).trans s0
    replace s2 := (kk 2 (by decide)).trans s2
    replace s11 := (kk 11 (by decide)).trans s11
    replace s12 := (kk 12 (by decide)).trans s12
    replace s14 := (kk 14 (by decide)).trans s14
    replace s15 := (kk 15 (by decide)).trans s15
    replace s19 := (kk 19 (by decide)).trans s19
    clear kk hz s226 s227
    have hz := zz
    have s20 := s20x
    clear zz s20x A26_8
    refine wpList_nil ?_
    go_upto_region 27 with fail
    refine wp_region_lit ?_
    refine vl true (.int .i64 0) (want_none rfl) (fun hc => ex_move rfl (ev s14 rfl)) rfl hz (by decide) (fun A27_1 zz kk s228x => ?_)
    replace s0 := (kk 0 (by decide)).trans s0
    replace s2 := (kk 2 (by decide)).trans s2
    replace s11 := (kk 11 (by decide)).trans s11
    replace s12 := (kk 12 (by decide)).trans s12
    replace s15 := (kk 15 (by decide)).trans s15
    replace s19 := (kk 19 (by decide)).trans s19
    replace s20 := (kk 20 (by decide)).trans s20
    clear kk hz s14
    have hz := zz
    have s228 := s228x
    clear zz s228x
    refine vl true (.bool false) (want_none rfl) (fun hc => ex_bin rfl (ev s228 rfl) rfl (neqE9 _ _ _ _)) rfl hz (by decide) (fun A27_2 zz kk s229x => ?_)
    replace s0 := (kk 0 (by decide)).trans s0
    replace s2 := (kk 2 (by decide)).trans s2
    replace s11 := (kk 11 (by decide)).trans s11
    replace s12 := (kk 12 (by decide)).trans s12
    replace s15 := (kk 15 (by decide)).trans s15
    replace s19 := (kk 19 (by decide)).trans s19
    replace s20 := (kk 20 (by decide)).trans s20
    clear kk hz s228
    have hz := zz
    have s229 := s229x
    clear zz s229x A27_1
    refine vl true (.bool false) (want_none rfl) (fun hc => ex_move rfl (ev s229 rfl)) rfl hz (by decide) (fun A27_3 zz kk s230x => ?_)
    replace s0 := (kk 0 (by decide)).trans s0
    replace s2 := (kk 2 (by decide)).trans s2
    replace s11 := (kk 11 (by decide)).trans s11
    replace s12 := (kk 12 (by decide)).trans s12
    replace s15 := (kk 15 (by decide)).trans s15
    replace s19 := (kk 19 (by decide)).trans s19
    replace s20 := (kk 20 (by decide)).trans s20
    clear kk hz s229
    have hz := zz
    have s230 := s230x
    clear zz s230x A27_2
    refine vl true (.int .i64 0) (want_k rfl rfl s230) (fun hc => ex_move rfl (ev s20 rfl)) rfl hz (by decide) (fun A27_4 zz kk s231x => ?_)
    replace s0 := (kk 0 (by decide)).trans s0
    replace s2 := (kk 2 (by decide)).trans s2
    replace s11 := (kk 11 (by decide)).trans s11
    replace s12 := (kk 12 (by decide)).trans s12
    replace s15 := (kk 15 (by decide)).trans s15
    replace s19 := (kk 19 (by decide)).trans s19
    replace s230 := (kk 230 (by decide)).trans s230
    clear kk hz s20
    have hz := zz
    have s231 := s231x
    clear zz s231x A27_3
    refine vl true (.bool false) (want_k rfl rfl s230) (fun hc => ex_bin rfl (ev s231 rfl) rfl (neqE9 _ _ _ _)) rfl hz (by decide) (fun A27_5 zz kk s232x => ?_)
    replace s0 := (kk 0 (by decide)).trans s0
    replace s2 := (kk 2 (by decide)).trans s2
    replace s11 := (kk 11 (by decide)).trans s11
    replace s12 := (kk 12 (by decide)).trans s12
    replace s15 := (kk 15 (by decide)).trans s15
    replace s19 := (kk 19 (by decide)).trans s19
    replace s230 := (kk 230 (by decide)).trans s230
    clear kk hz s231
    have hz := zz
    have s232 := s232x
    clear zz s232x A27_4
    refine vl true (.bool false) (want_none rfl) (fun hc => ex_or rfl s230 s232 rfl) rfl hz (by decide) (fun A27_6 zz kk s233x => ?_)
    replace s0 := (kk 0 (by decide)).trans s0
    replace s2 := (kk 2 (by decide)).trans s2
    replace s11 := (kk 11 (by decide)).trans s11
    replace s12 := (kk 12 (by decide)).trans s12
    replace s15 := (kk 15 (by decide)).trans s15
    replace s19 := (kk 19 (by decide)).trans s19
    clear kk hz s230 s232
    have hz := zz
    have s233 := s233x
    clear zz s233x A27_5
    refine vl true (.bool false) (want_none rfl) (fun hc => ex_move rfl (ev s233 rfl)) rfl hz (by decide) (fun A27_7 zz kk s234x => ?_)
    replace s0 := (kk 0 (by decide)).trans s0
    replace s2 := (kk 2 (by decide)).trans s2
    replace s11 := (kk 11 (by decide)).trans s11
    replace s12 := (kk 12 (by decide)).trans s12
    replace s15 := (kk 15 (by decide)).trans s15
    replace s19 := (kk 19 (by decide)).trans s19
    clear kk hz s233
    have hz := zz
    have s234 := s234x
    clear zz s234x A27_6
    refine vl true (z2.val) (want_k rfl rfl s234) (fun hc => ex_ld rfl (ev s19 rfl) CB.ld) rfl hz (by decide) (fun A27_8 zz kk s235x => ?_)
    replace s0 := (kk 0 (by decide)).trans s0
    replace s2 := (kk 2 (by decide)).trans s2
    replace s11 := (kk 11 (by decide)).trans s11
    replace s12 := (kk 12 (by decide)).trans s12
    replace s15 := (kk 15 (by decide)).trans s15
    replace s234 := (kk 234 (by decide)).trans s234
    clear kk hz s19
    have hz := zz
    have s235 := s235x
    clear zz s235x A27_7
    refine vl true (y2.val) (want_k rfl rfl s234) (fun hc => ex_ld rfl (ev s15 rfl) CQ.ld) rfl hz (by decide) (fun A27_9 zz kk s236x => ?_)
    replace s0 := (kk 0 (by decide)).trans s0
    replace s2 := (kk 2 (by decide)).trans s2
    replace s11 := (kk 11 (by decide)).trans s11
    replace s12 := (kk 12 (by decide)).trans s12
    replace s234 := (kk 234 (by decide)).trans s234
    replace s235 := (kk 235 (by decide)).trans s235
    clear kk hz s15
    have hz := zz
    have s236 := s236x
    clear zz s236x A27_8
    refine vcallP (want_k rfl rfl s234) (ex_call rfl (by simp only [List.map_toArray, List.map_cons, List.map_nil, (ev s235 rfl), (ev s236 rfl), evc] <;> rfl) rfl) (same14_eq z2 y2 w23 (OwnY.sl' kU OZ) (OwnY.sl' kU OY) (hz2p.trans hp2.symm)) rfl hz (by decide) ?_
    rintro e w24 ⟨rfl, hb24⟩
    refine ⟨_, rfl, fun A27_10 zz kk s237x => ?_⟩
    have HS2 := HS.step hb24
    clear HS CB CQ OZ OY hb24
    have HS := HS2
    clear HS2
    replace s0 := (kk 0 (by decide)).trans s0
    replace s2 := (kk 2 (by decide)).trans s2
    replace s11 := (kk 11 (by decide)).trans s11
    replace s12 := (kk 12 (by decide)).trans s12
    replace s234 := (kk 234 (by decide)).trans s234
    clear kk hz s235 s236
    have hz := zz
    have s237 := s237x
    clear zz s237x A27_9
    refine vl true (.bool false) (want_k rfl rfl s234) (fun hc => ex_not rfl (ev s237 rfl)) rfl hz (by decide) (fun A27_11 zz kk s238x => ?_)
    replace s0 := (kk 0 (by decide)).trans s0
    replace s2 := (kk 2 (by decide)).trans s2
    replace s11 := (kk 11 (by decide)).trans s11
    replace s12 := (kk 12 (by decide)).trans s12
    replace s234 := (kk 234 (by decide)).trans s234
    clear kk hz s237
    have hz := zz
    have s238 := s238x
    clear zz s238x A27_10
    refine vl true (.bool false) (want_none rfl) (fun hc => ex_or rfl s234 s238 rfl) rfl hz (by decide) (fun A27_12 zz kk s239x => ?_)
    replace s0 := (kk 0 (by decide)).trans s0
    replace s2 := (kk 2 (by decide)).trans s2
    replace s11 := (kk 11 (by decide)).trans s11
    replace s12 := (kk 12 (by decide)).trans s12
    clear kk hz s234 s238
    have hz := zz
    have s239 := s239x
    clear zz s239x A27_11
    refine wpList_nil ?_
    go_upto_region 28 with fail
    refine wp_cond_false ((ev s239 rfl).trans rfl) ?_
    refine wp_skip ?_
    exact ⟨_, rfl, hz, s0, s2, s11, s12, HS.less (fun j hj => hj.elim)⟩
  · clear hz s0 s1 s2 s3 s4 s11 s12 s15 s132 HS BQ
    intro T9 w9 hJ
    obtain ⟨hz, s0, s2, s11, s12, HI⟩ := hJ
    have HS := HI.out
    clear HI
    have hdr : dr (W ++ [u.pk]) L.length = W := by rw [← hWL]; exact dr_last W u.pk
    go_upto_region 29 with fail
    refine wp_region_lit ?_
    refine vl true (.pointer (some ⟨b, 0, none⟩)) (want_none rfl) (fun hc => ex_move rfl (ev s11 rfl)) rfl hz (by decide) (fun A29_1 zz kk s240x => ?_)
    replace s0 := (kk 0 (by decide)).trans s0
    replace s2 := (kk 2 (by decide)).trans s2
    replace s11 := (kk 11 (by decide)).trans s11
    replace s12 := (kk 12 (by decide)).trans s12
    clear kk hz
    have hz := zz
    have s240 := s240x
    clear zz s240x
    refine vl true (.slice a L.length c) (want_none rfl) (fun hc => ex_move rfl (ev s0 rfl)) rfl hz (by decide) (fun A29_2 zz kk s241x => ?_)
    replace s2 := (kk 2 (by decide)).trans s2
    replace s11 := (kk 11 (by decide)).trans s11
    replace s12 := (kk 12 (by decide)).trans s12
    replace s240 := (kk 240 (by decide)).trans s240
    clear kk hz s0
    have hz := zz
    have s241 := s241x
    clear zz s241x A29_1
    refine vl true (.int .i64 (L.length : Int)) (want_none rfl) (fun hc => ex_lenP rfl rfl (ev s241 rfl)) rfl hz (by decide) (fun A29_3 zz kk s242x => ?_)
    replace s2 := (kk 2 (by decide)).trans s2
    replace s11 := (kk 11 (by decide)).trans s11
    replace s12 := (kk 12 (by decide)).trans s12
    replace s240 := (kk 240 (by decide)).trans s240
    clear kk hz s241
    have hz := zz
    have s242 := s242x
    clear zz s242x A29_2
    refine vcallP (want_none rfl) (ex_call rfl (by simp only [List.map_toArray, List.map_cons, List.map_nil, (ev s240 rfl), (ev s242 rfl), evc] <;> rfl) rfl) (hs_drop HS L.length (by rw [List.length_append, hWL]; exact Nat.lt_succ_self _) (by rw [List.length_append, hWL]; show (L.length + 1) * 32 ≤ _; omega)) rfl hz (by decide) ?_
    rintro e w30 ⟨rfl, hS30⟩
    refine ⟨_, rfl, fun A29_4 zz kk s243x => ?_⟩
    rw [hdr] at hS30
    clear HS
    have HS := hS30
    clear hS30
    replace s2 := (kk 2 (by decide)).trans s2
    replace s11 := (kk 11 (by decide)).trans s11
    replace s12 := (kk 12 (by decide)).trans s12
    clear kk hz s240 s242
    have hz := zz
    have s243 := s243x
    clear zz s243x A29_3
    refine vl true (.bool false) (want_none rfl) (fun hc => ex_bin rfl (ev s243 rfl) rfl (neqE9 _ _ _ _)) rfl hz (by decide) (fun A29_5 zz kk s244x => ?_)
    replace s2 := (kk 2 (by decide)).trans s2
    replace s11 := (kk 11 (by decide)).trans s11
    replace s12 := (kk 12 (by decide)).trans s12
    clear kk hz s243
    have hz := zz
    have s244 := s244x
    clear zz s244x A29_4
    refine vl true (.bool false) (want_none rfl) (fun hc => ex_move rfl (ev s244 rfl)) rfl hz (by decide) (fun A29_6 zz kk s245x => ?_)
    replace s2 := (kk 2 (by decide)).trans s2
    replace s11 := (kk 11 (by decide)).trans s11
    replace s12 := (kk 12 (by decide)).trans s12
    clear kk hz s244
    have hz := zz
    have s245 := s245x
    clear zz s245x A29_5
    refine vl true (.pointer (some ⟨b, 0, none⟩)) (want_k rfl rfl s245) (fun hc => ex_move rfl (ev s11 rfl)) rfl hz (by decide) (fun A29_7 zz kk s246x => ?_)
    replace s2 := (kk 2 (by decide)).trans s2
    replace s11 := (kk 11 (by decide)).trans s11
    replace s12 := (kk 12 (by decide)).trans s12
    replace s245 := (kk 245 (by decide)).trans s245
    clear kk hz
    have hz := zz
    have s246 := s246x
    clear zz s246x A29_6
    refine vcallP (want_k rfl rfl s245) (ex_call rfl (by simp only [List.map_toArray, List.map_cons, List.map_nil, (ev s246 rfl), evc] <;> rfl) rfl) (hs_pool HS (by rw [hWL]; omega)) rfl hz (by decide) ?_
    rintro e w31 ⟨pa, pc, Kp, rfl, sp, ip, pp, hS31, _⟩
    refine ⟨_, rfl, fun A29_8 zz kk s247x => ?_⟩
    rw [hWL] at sp s247x
    clear HS
    have HS := hS31
    clear hS31
    replace s2 := (kk 2 (by decide)).trans s2
    replace s11 := (kk 11 (by decide)).trans s11
    replace s12 := (kk 12 (by decide)).trans s12
    replace s245 := (kk 245 (by decide)).trans s245
    clear kk hz s246
    have hz := zz
    have s247 := s247x
    clear zz s247x A29_7
    refine vl true (.slice (some ⟨qw, ow, none⟩) L.length vc) (want_k rfl rfl s245) (fun hc => ex_move rfl (ev s12 rfl)) rfl hz (by decide) (fun A29_9 zz kk s248x => ?_)
    replace s2 := (kk 2 (by decide)).trans s2
    replace s11 := (kk 11 (by decide)).trans s11
    replace s12 := (kk 12 (by decide)).trans s12
    replace s245 := (kk 245 (by decide)).trans s245
    replace s247 := (kk 247 (by decide)).trans s247
    clear kk hz
    have hz := zz
    have s248 := s248x
    clear zz s248x A29_8
    refine vcallP (want_k rfl rfl s245) (ex_call rfl (by simp only [List.map_toArray, List.map_cons, List.map_nil, (ev s247 rfl), (ev s248 rfl), evc] <;> rfl) rfl) (hs_same HS rfl hKL sp ip pp (by omega)) rfl hz (by decide) ?_
    rintro e w32 ⟨rfl, hS32⟩
    refine ⟨_, rfl, fun A29_10 zz kk s249x => ?_⟩
    clear HS sp ip pp
    have HS := hS32
    clear hS32
    replace s2 := (kk 2 (by decide)).trans s2
    replace s11 := (kk 11 (by decide)).trans s11
    replace s12 := (kk 12 (by decide)).trans s12
    replace s245 := (kk 245 (by decide)).trans s245
    clear kk hz s247 s248
    have hz := zz
    have s249 := s249x
    clear zz s249x A29_9
    refine vl true (.bool false) (want_k rfl rfl s245) (fun hc => ex_not rfl (ev s249 rfl)) rfl hz (by decide) (fun A29_11 zz kk s250x => ?_)
    replace s2 := (kk 2 (by decide)).trans s2
    replace s11 := (kk 11 (by decide)).trans s11
    replace s12 := (kk 12 (by decide)).trans s12
    replace s245 := (kk 245 (by decide)).trans s245
    clear kk hz s249
    have hz := zz
    have s250 := s250x
    clear zz s250x A29_10
    refine vl true (.bool false) (want_none rfl) (fun hc => ex_or rfl s245 s250 rfl) rfl hz (by decide) (fun A29_12 zz kk s251x => ?_)
    replace s2 := (kk 2 (by decide)).trans s2
    replace s11 := (kk 11 (by decide)).trans s11
    replace s12 := (kk 12 (by decide)).trans s12
    clear kk hz s245 s250
    have hz := zz
    have s251 := s251x
    clear zz s251x A29_11
    refine wpList_nil ?_
    go_upto_region 31 with fail
    refine wp_cond_false ((ev s251 rfl).trans rfl) ?_
    clear s251
    go_upto_region 31 with fail
    refine wp_region_lit ?_
    refine vl true (.pointer (some ⟨b, 0, none⟩)) (want_none rfl) (fun hc => ex_move rfl (ev s11 rfl)) rfl hz (by decide) (fun A31_1 zz kk s253x => ?_)
    replace s2 := (kk 2 (by decide)).trans s2
    replace s11 := (kk 11 (by decide)).trans s11
    replace s12 := (kk 12 (by decide)).trans s12
    clear kk hz
    have hz := zz
    have s253 := s253x
    clear zz s253x
    refine vl true (.int .i64 (k : Int)) (want_none rfl) (fun hc => ex_move rfl (ev s2 rfl)) rfl hz (by decide) (fun A31_2 zz kk s254x => ?_)
    replace s2 := (kk 2 (by decide)).trans s2
    replace s11 := (kk 11 (by decide)).trans s11
    replace s12 := (kk 12 (by decide)).trans s12
    replace s253 := (kk 253 (by decide)).trans s253
    clear kk hz
    have hz := zz
    have s254 := s254x
    clear zz s254x A31_1
    refine vcallP (want_none rfl) (ex_call rfl (by simp only [List.map_toArray, List.map_cons, List.map_nil, (ev s253 rfl), (ev s254 rfl), evc] <;> rfl) rfl) (hs_take HS k t.pk HYW.out (by rw [hWL]; omega)) rfl hz (by decide) ?_
    rintro e w33 ⟨y3, rfl, hy3p, oy3, hS33⟩
    refine ⟨_, rfl, fun A31_3 zz kk s255x => ?_⟩
    clear HS
    have HS := hS33
    clear hS33
    obtain ⟨qt, hqt⟩ : ∃ v, v = w33.heap.size := ⟨_, rfl⟩
    obtain ⟨w34, hw34⟩ : ∃ v, v = w33.alloc (.cells #[.int .i64 0, .int .i64 0, .slice none 0 0] 46) := ⟨_, rfl⟩
    have hbA : Below w33.heap.size w33 w34 := by rw [hw34]; exact (Below.refl _ _).alloc (Nat.le_refl _) _
    have BN : B3 w34 qt (.int .i64 0) (.int .i64 0) (.slice none 0 0) := by rw [hw34, hqt]; exact B3.new _ _ _ _ _
    replace s2 := (kk 2 (by decide)).trans s2
    replace s11 := (kk 11 (by decide)).trans s11
    replace s12 := (kk 12 (by decide)).trans s12
    clear kk hz s253 s254
    have hz := zz
    have s255 := s255x
    clear zz s255x A31_2
    refine vl true (.tuple #[y3.val, .int .i64 0]) (want_none rfl) (fun hc => ex_move rfl (ev s255 rfl)) rfl hz (by decide) (fun A31_4 zz kk s252x => ?_)
    replace s2 := (kk 2 (by decide)).trans s2
    replace s11 := (kk 11 (by decide)).trans s11
    replace s12 := (kk 12 (by decide)).trans s12
    clear kk hz s255
    have hz := zz
    have s252 := s252x
    clear zz s252x A31_3
    refine vl true (y3.val) (want_none rfl) (fun hc => ex_ext9 rfl (ev s252 rfl) rfl) rfl hz (by decide) (fun A31_5 zz kk s256x => ?_)
    replace s2 := (kk 2 (by decide)).trans s2
    replace s11 := (kk 11 (by decide)).trans s11
    replace s12 := (kk 12 (by decide)).trans s12
    replace s252 := (kk 252 (by decide)).trans s252
    clear kk hz
    have hz := zz
    have s256 := s256x
    clear zz s256x A31_4
    refine vl true (.int .i64 0) (want_none rfl) (fun hc => ex_ext9 rfl (ev s252 rfl) rfl) rfl hz (by decide) (fun A31_6 zz kk s257x => ?_)
    replace s2 := (kk 2 (by decide)).trans s2
    replace s11 := (kk 11 (by decide)).trans s11
    replace s12 := (kk 12 (by decide)).trans s12
    replace s256 := (kk 256 (by decide)).trans s256
    clear kk hz s252
    have hz := zz
    have s257 := s257x
    clear zz s257x A31_5
    refine vw (.pointer (some ⟨qt, 0, none⟩)) w34 (want_none rfl) (ex_al rfl (by rw [hw34, hqt]; exact alP _)) rfl hz (by decide) (fun A31_7 zz kk s21x => ?_)
    replace s2 := (kk 2 (by decide)).trans s2
    replace s11 := (kk 11 (by decide)).trans s11
    replace s12 := (kk 12 (by decide)).trans s12
    replace s256 := (kk 256 (by decide)).trans s256
    replace s257 := (kk 257 (by decide)).trans s257
    clear kk hz
    have hz := zz
    have s21 := s21x
    clear zz s21x A31_6
    refine vs (put3 w34 qt y3) (want_none rfl) (ex_st rfl (ev s21 rfl) (ev s256 rfl) (stP BN y3)) rfl ?_
    have SP := BN.put3 y3
    obtain ⟨w35, hw35⟩ : ∃ v, v = put3 w34 qt y3 := ⟨_, rfl⟩
    rw [← hw35] at SP ⊢
    clear hw35 hw34
    have hbT : Below w33.heap.size w33 w35 := hbA.trans (SP.2.below hbA.size (fun k hk => by omega))
    clear hbA BN
    have HS2 := HS.step hbT
    have OT := OwnY.grow oy3.own hbT
    have CT := SP.1.c3
    clear HS oy3 hbT SP
    have HS := HS2
    clear HS2
    refine vl true (.int .i64 0) (want_none rfl) (fun hc => ex_assign rfl (ev s257 rfl)) rfl hz (by decide) (fun A31_8 zz kk s22x => ?_)
    replace s2 := (kk 2 (by decide)).trans s2
    replace s11 := (kk 11 (by decide)).trans s11
    replace s12 := (kk 12 (by decide)).trans s12
    replace s21 := (kk 21 (by decide)).trans s21
    clear kk hz s256 s257
    have hz := zz
    have s22 := s22x
    clear zz s22x A31_7
    refine wpList_nil ?_
    have hvc : L.length ≤ vc := (OwnY.sl' kA HS.l.l.own).cap
    have hS : Below w35.heap.size w35 w35.drew := (Below.refl _ _).drew
    have HTL : (K.take k).length = k := by rw [List.length_take, hKL]; omega
    have HG0 := HS.step hS
    have HCP : Calls Try.prog 39 #[.slice (some ⟨qw, ow, none⟩) k vc] w35.drew fun e w' => ∃ v' L', e = .returned v' ∧ Lf w35.drew.heap.size w' v' L' ((K.take k).map Ap.pk) ∧ Below w35.drew.heap.size w35.drew w' := by
      have := copypks_any (K.take k) (some ⟨qw, ow, none⟩) vc w35.drew (by rw [HTL]; exact (OwnY.sl' kA HG0.l.l.own).front9 (k := k) (Nat.le_of_lt hk1)) (fun z hz => ⟨(HG0.l.l.ow z (List.mem_of_mem_take hz)).sl, HSL.out z (List.mem_of_mem_take hz)⟩) (by rw [HTL]; omega)
      rw [HTL] at this
      exact this
    go_upto_region 32 with fail
    refine vh_start (fun v => Below w35.heap.size w35 v) (by kernel_rfl) ?_
    refine vh_take 0 true (.slice (some ⟨qw, ow, none⟩) L.length vc) rfl (by kernel_rfl) (by kernel_rfl) (by kernel_rfl) (want_none rfl) (fun hc v hv => ex_move rfl (ev s12 rfl)) rfl hz (by decide) hS (fun A32_1 zz kk s258x => ?_)
    replace s2 := (kk 2 (by decide)).trans s2
    replace s11 := (kk 11 (by decide)).trans s11
    replace s12 := (kk 12 (by decide)).trans s12
    replace s21 := (kk 21 (by decide)).trans s21
    replace s22 := (kk 22 (by decide)).trans s22
    clear kk hz
    have hz := zz
    have s258 := s258x
    clear zz s258x
    refine vh_take 1 true (.int .i64 (k : Int)) rfl (by kernel_rfl) (by kernel_rfl) (by kernel_rfl) (want_none rfl) (fun hc v hv => ex_move rfl (ev s2 rfl)) rfl hz (by decide) hS (fun A32_2 zz kk s259x => ?_)
    replace s2 := (kk 2 (by decide)).trans s2
    replace s11 := (kk 11 (by decide)).trans s11
    replace s12 := (kk 12 (by decide)).trans s12
    replace s21 := (kk 21 (by decide)).trans s21
    replace s22 := (kk 22 (by decide)).trans s22
    replace s258 := (kk 258 (by decide)).trans s258
    clear kk hz
    have hz := zz
    have s259 := s259x
    clear zz s259x A32_1
    refine vh_take 2 true (.slice (some ⟨qw, ow, none⟩) k vc) rfl (by kernel_rfl) (by kernel_rfl) (by kernel_rfl) (want_none rfl) (fun hc v hv => ex_slice9 rfl (ev s258 rfl) rfl (congrArg some (ev s259 rfl)) rfl (slTo qw ow L.length vc k (by omega) (by omega) _)) rfl hz (by decide) hS (fun A32_3 zz kk s260x => ?_)
    replace s2 := (kk 2 (by decide)).trans s2
    replace s11 := (kk 11 (by decide)).trans s11
    replace s12 := (kk 12 (by decide)).trans s12
    replace s21 := (kk 21 (by decide)).trans s21
    replace s22 := (kk 22 (by decide)).trans s22
    clear kk hz s258 s259
    have hz := zz
    have s260 := s260x
    clear zz s260x A32_2
    refine vh_take 4 true (.slice (some ⟨qw, ow, none⟩) L.length vc) rfl (by kernel_rfl) (by kernel_rfl) (by kernel_rfl) (want_none rfl) (fun hc v hv => ex_move rfl (ev s12 rfl)) rfl hz (by decide) hS (fun A32_4 zz kk s262x => ?_)
    replace s2 := (kk 2 (by decide)).trans s2
    replace s11 := (kk 11 (by decide)).trans s11
    replace s12 := (kk 12 (by decide)).trans s12
    replace s21 := (kk 21 (by decide)).trans s21
    replace s22 := (kk 22 (by decide)).trans s22
    replace s260 := (kk 260 (by decide)).trans s260
    clear kk hz
    have hz := zz
    have s262 := s262x
    clear zz s262x A32_3
    refine vh_take 5 true (.int .i64 (k : Int)) rfl (by kernel_rfl) (by kernel_rfl) (by kernel_rfl) (want_none rfl) (fun hc v hv => ex_move rfl (ev s2 rfl)) rfl hz (by decide) hS (fun A32_5 zz kk s263x => ?_)
    replace s2 := (kk 2 (by decide)).trans s2
    replace s11 := (kk 11 (by decide)).trans s11
    replace s12 := (kk 12 (by decide)).trans s12
    replace s21 := (kk 21 (by decide)).trans s21
    replace s22 := (kk 22 (by decide)).trans s22
    replace s260 := (kk 260 (by decide)).trans s260
    replace s262 := (kk 262 (by decide)).trans s262
    clear kk hz
    have hz := zz
    have s263 := s263x
    clear zz s263x A32_4
    refine vh_take 6 true (.int .i64 ((k + 1 : Nat) : Int)) rfl (by kernel_rfl) (by kernel_rfl) (by kernel_rfl) (want_none rfl) (fun hc v hv => ex_bin rfl (ev s263 rfl) rfl (addI _ _ k (by omega) _)) rfl hz (by decide) hS (fun A32_6 zz kk s264x => ?_)
    replace s2 := (kk 2 (by decide)).trans s2
    replace s11 := (kk 11 (by decide)).trans s11
    replace s12 := (kk 12 (by decide)).trans s12
    replace s21 := (kk 21 (by decide)).trans s21
    replace s22 := (kk 22 (by decide)).trans s22
    replace s260 := (kk 260 (by decide)).trans s260
    replace s262 := (kk 262 (by decide)).trans s262
    clear kk hz s263
    have hz := zz
    have s264 := s264x
    clear zz s264x A32_5
    refine vh_take 7 true (.slice (some (adK qw ow vc (k + 1))) (L.length - (k + 1)) (vc - (k + 1))) rfl (by kernel_rfl) (by kernel_rfl) (by kernel_rfl) (want_none rfl) (fun hc v hv => ex_slice9 rfl (ev s262 rfl) (congrArg some (ev s264 rfl)) rfl rfl (slFrom qw ow L.length vc (k + 1) (by omega) hvc _)) rfl hz (by decide) hS (fun A32_7 zz kk s265x => ?_)
    replace s2 := (kk 2 (by decide)).trans s2
    replace s11 := (kk 11 (by decide)).trans s11
    replace s12 := (kk 12 (by decide)).trans s12
    replace s21 := (kk 21 (by decide)).trans s21
    replace s22 := (kk 22 (by decide)).trans s22
    replace s260 := (kk 260 (by decide)).trans s260
    clear kk hz s262 s264
    have hz := zz
    have s265 := s265x
    clear zz s265x A32_6
    refine vh_call 3 rfl (by kernel_rfl) (want_none rfl) (ex_call rfl (by simp only [List.map_toArray, List.map_cons, List.map_nil, (ev s260 rfl), evc] <;> rfl) rfl) HCP rfl hz (by decide) ?_
    rintro e w36 ⟨v7, L7, rfl, F7, b7⟩; have hS7 := hS.trans (b7.mono (Nat.le_of_eq rfl)); have hSd := hS; clear hS; have hS := hS7
    refine ⟨_, rfl, hS, fun A32_8 zz kk s261x => ?_⟩
    replace s2 := (kk 2 (by decide)).trans s2
    replace s11 := (kk 11 (by decide)).trans s11
    replace s12 := (kk 12 (by decide)).trans s12
    replace s21 := (kk 21 (by decide)).trans s21
    replace s22 := (kk 22 (by decide)).trans s22
    replace s265 := (kk 265 (by decide)).trans s265
    clear kk hz s260
    have hz := zz
    have s261 := s261x
    clear zz s261x A32_7
    have hL7 : L7.length = k := by have := F7.len; rw [List.length_map] at this; exact this.trans HTL
    have hD0 : SlY yA w36 (some (adK qw ow vc (k + 1))) (L.length - (k + 1)) (vc - (k + 1)) (K.drop (k + 1)) := SlY.rest9 ((OwnY.sl' kA HS.l.l.own).later hS) (by omega) (some (adK qw ow vc (k + 1))) (fun e => by cases e) (fun x hx => by cases hx; unfold adK; by_cases e : vc = k + 1; exact .inl (by omega); exact .inr (if_neg e))
    obtain ⟨v8, w37, hr8, o8, g8, n8⟩ := run_appY kA w36 60 w35.drew.heap.size L7 v7 _ _ _ (K.drop (k + 1)) hD0 F7.own b7.size (by unfold maxLen; omega) (by rw [hL7]; show (k + (L.length - (k + 1))) * 40 ≤ _; omega)
    have b8 : Below w35.drew.heap.size w35.drew w37 := F7.own.grown b7 g8 b7.size
    have hS8 : Below w35.heap.size w35 w37 := hSd.trans (b8.mono (Nat.le_of_eq rfl))
    refine vh_val9 8 (v8) w37 rfl (by kernel_rfl) (want_none rfl) (ex_app9 rfl (ev s261 rfl) (ev s265 rfl) hr8) rfl hz (by decide) hS8 (fun A32_9 zz kk s266x => ?_)
    clear hr8 hS
    have hS := hS8
    replace s2 := (kk 2 (by decide)).trans s2
    replace s11 := (kk 11 (by decide)).trans s11
    replace s12 := (kk 12 (by decide)).trans s12
    replace s21 := (kk 21 (by decide)).trans s21
    replace s22 := (kk 22 (by decide)).trans s22
    clear kk hz s261 s265
    have hz := zz
    have s266 := s266x
    clear zz s266x A32_8
    refine vh_take 9 true (v8) rfl (by kernel_rfl) (by kernel_rfl) (by kernel_rfl) (want_none rfl) (fun hc v hv => ex_assign rfl (ev s266 rfl)) rfl hz (by decide) hS (fun A32_10 zz kk s23x => ?_)
    replace s2 := (kk 2 (by decide)).trans s2
    replace s11 := (kk 11 (by decide)).trans s11
    replace s12 := (kk 12 (by decide)).trans s12
    replace s21 := (kk 21 (by decide)).trans s21
    replace s22 := (kk 22 (by decide)).trans s22
    clear kk hz s266
    have hz := zz
    have s23 := s23x
    clear zz s23x A32_9
    refine vh_done (by kernel_rfl) ?_
    have hR8 : (L7 ++ K.drop (k + 1)).length = L.length - 1 := by rw [List.length_append, List.length_drop, hKL, hL7]; omega
    have hpk8 : (L7 ++ K.drop (k + 1)).map Ap.pk = dr W k := by
      rw [List.map_append, F7.pk, ← HG0.l.l.pk, ← map_dr]
      unfold dr
      rw [List.map_append]
    have hin8 : ∀ z ∈ L7 ++ K.drop (k + 1), z.In w37 := fun z hz => by
      rcases List.mem_append.1 hz with hz | hz
      · exact ((F7.ow z hz).grownA F7.own g8).sl
      · exact (((HG0.l.l.ow z (List.mem_of_mem_drop hz)).grow b7).grownA F7.own g8).sl
    have hS37 := OwnY.sl kA o8
    obtain ⟨va8, vc8, hv8, hsl8, _⟩ := hS37
    rw [hR8] at hv8 hsl8
    generalize L7 ++ K.drop (k + 1) = R8 at *
    rw [hv8] at s23
    have HS2 := HS.step hS8
    have CT2 := CT.bel hS8
    have OT2 := OwnY.grow OT hS8
    clear HS CT OT hS7 hSd HG0 HCP F7 b7 o8 g8 n8 b8 hD0 hL7 hS8 hS
    have HS := HS2
    have CT := CT2
    have OT := OT2
    clear HS2 CT2 OT2
    have hS : Below w37.heap.size w37 w37.drew := (Below.refl _ _).drew
    have hdl : (dr W k).length = L.length - 1 := by rw [dr_len (by rw [hWL]; exact hk1), hWL]
    go_upto_region 33 with fail
    refine vh_start (fun v => Below w37.heap.size w37 v) (by kernel_rfl) ?_
    refine vh_take 0 true (.int .i64 0) rfl (by kernel_rfl) (by kernel_rfl) (by kernel_rfl) (want_none rfl) (fun hc v hv => ex_move rfl (ev s22 rfl)) rfl hz (by decide) hS (fun A33_1 zz kk s267x => ?_)
    replace s2 := (kk 2 (by decide)).trans s2
    replace s11 := (kk 11 (by decide)).trans s11
    replace s12 := (kk 12 (by decide)).trans s12
    replace s21 := (kk 21 (by decide)).trans s21
    replace s23 := (kk 23 (by decide)).trans s23
    clear kk hz s22
    have hz := zz
    have s267 := s267x
    clear zz s267x
    refine vh_take 1 true (.bool true) rfl (by kernel_rfl) (by kernel_rfl) (by kernel_rfl) (want_none rfl) (fun hc v hv => ex_bin rfl (ev s267 rfl) rfl (eqlE9 _ _ _ _)) rfl hz (by decide) hS (fun A33_2 zz kk s268x => ?_)
    replace s2 := (kk 2 (by decide)).trans s2
    replace s11 := (kk 11 (by decide)).trans s11
    replace s12 := (kk 12 (by decide)).trans s12
    replace s21 := (kk 21 (by decide)).trans s21
    replace s23 := (kk 23 (by decide)).trans s23
    clear kk hz s267
    have hz := zz
    have s268 := s268x
    clear zz s268x A33_1
    refine vh_take 2 true (.bool true) rfl (by kernel_rfl) (by kernel_rfl) (by kernel_rfl) (want_none rfl) (fun hc v hv => ex_move rfl (ev s268 rfl)) rfl hz (by decide) hS (fun A33_3 zz kk s269x => ?_)
    replace s2 := (kk 2 (by decide)).trans s2
    replace s11 := (kk 11 (by decide)).trans s11
    replace s12 := (kk 12 (by decide)).trans s12
    replace s21 := (kk 21 (by decide)).trans s21
    replace s23 := (kk 23 (by decide)).trans s23
    clear kk hz s268
    have hz := zz
    have s269 := s269x
    clear zz s269x A33_2
    refine vh_take 3 true (y3.val) rfl (by kernel_rfl) (by kernel_rfl) (by kernel_rfl) (want_k rfl rfl s269) (fun hc v hv => ex_ld rfl (ev s21 rfl) ((CT.bel hv).ld)) rfl hz (by decide) hS (fun A33_4 zz kk s270x => ?_)
    replace s2 := (kk 2 (by decide)).trans s2
    replace s11 := (kk 11 (by decide)).trans s11
    replace s12 := (kk 12 (by decide)).trans s12
    replace s23 := (kk 23 (by decide)).trans s23
    replace s269 := (kk 269 (by decide)).trans s269
    clear kk hz s21
    have hz := zz
    have s270 := s270x
    clear zz s270x A33_3
    refine vh_take 4 true (.slice (some ⟨qw, ow, none⟩) L.length vc) rfl (by kernel_rfl) (by kernel_rfl) (by kernel_rfl) (want_k rfl rfl s269) (fun hc v hv => ex_move rfl (ev s12 rfl)) rfl hz (by decide) hS (fun A33_5 zz kk s271x => ?_)
    replace s2 := (kk 2 (by decide)).trans s2
    replace s11 := (kk 11 (by decide)).trans s11
    replace s23 := (kk 23 (by decide)).trans s23
    replace s269 := (kk 269 (by decide)).trans s269
    replace s270 := (kk 270 (by decide)).trans s270
    clear kk hz s12
    have hz := zz
    have s271 := s271x
    clear zz s271x A33_4
    refine vh_take 5 true (.int .i64 (k : Int)) rfl (by kernel_rfl) (by kernel_rfl) (by kernel_rfl) (want_k rfl rfl s269) (fun hc v hv => ex_move rfl (ev s2 rfl)) rfl hz (by decide) hS (fun A33_6 zz kk s272x => ?_)
    replace s11 := (kk 11 (by decide)).trans s11
    replace s23 := (kk 23 (by decide)).trans s23
    replace s269 := (kk 269 (by decide)).trans s269
    replace s270 := (kk 270 (by decide)).trans s270
    replace s271 := (kk 271 (by decide)).trans s271
    clear kk hz s2
    have hz := zz
    have s272 := s272x
    clear zz s272x A33_5
    refine vh_take 6 true (.pointer (some ⟨qw, ow + k * 3, none⟩)) rfl (by kernel_rfl) (by kernel_rfl) (by kernel_rfl) (want_k rfl rfl s269) (fun hc v hv => ex_ix rfl (ev s271 rfl) (ev s272 rfl) (ixP qw ow L.length vc k hk1 _)) rfl hz (by decide) hS (fun A33_7 zz kk s273x => ?_)
    replace s11 := (kk 11 (by decide)).trans s11
    replace s23 := (kk 23 (by decide)).trans s23
    replace s269 := (kk 269 (by decide)).trans s269
    replace s270 := (kk 270 (by decide)).trans s270
    clear kk hz s271 s272
    have hz := zz
    have s273 := s273x
    clear zz s273x A33_6
    refine vh_take 7 true (t.val) rfl (by kernel_rfl) (by kernel_rfl) (by kernel_rfl) (want_k rfl rfl s269) (fun hc v hv => ex_ld rfl (ev s273 rfl) (((HS.step hv).c3 HTt.out).ld)) rfl hz (by decide) hS (fun A33_8 zz kk s274x => ?_)
    replace s11 := (kk 11 (by decide)).trans s11
    replace s23 := (kk 23 (by decide)).trans s23
    replace s269 := (kk 269 (by decide)).trans s269
    replace s270 := (kk 270 (by decide)).trans s270
    clear kk hz s273
    have hz := zz
    have s274 := s274x
    clear zz s274x A33_7
    refine vh_call 8 rfl (by kernel_rfl) (want_k rfl rfl s269) (ex_call rfl (by simp only [List.map_toArray, List.map_cons, List.map_nil, (ev s270 rfl), (ev s274 rfl), evc] <;> rfl) rfl) (same14_eq y3 t w37.drew (SlY.later (OwnY.sl' kU OT) hS) ((HS.step hS).uin HTt.out) hy3p) rfl hz (by decide) ?_
    rintro e w38 ⟨rfl, hb38⟩; have hS := hS.trans (hb38.mono hS.size)
    refine ⟨_, rfl, hS, fun A33_9 zz kk s275x => ?_⟩
    clear hb38
    replace s11 := (kk 11 (by decide)).trans s11
    replace s23 := (kk 23 (by decide)).trans s23
    replace s269 := (kk 269 (by decide)).trans s269
    clear kk hz s270 s274
    have hz := zz
    have s275 := s275x
    clear zz s275x A33_8
    refine vh_take 9 true (.bool true) rfl (by kernel_rfl) (by kernel_rfl) (by kernel_rfl) (want_none rfl) (fun hc v hv => ex_and rfl s269 s275 rfl) rfl hz (by decide) hS (fun A33_10 zz kk s276x => ?_)
    replace s11 := (kk 11 (by decide)).trans s11
    replace s23 := (kk 23 (by decide)).trans s23
    clear kk hz s269 s275
    have hz := zz
    have s276 := s276x
    clear zz s276x A33_9
    refine vh_take 10 true (.bool true) rfl (by kernel_rfl) (by kernel_rfl) (by kernel_rfl) (want_none rfl) (fun hc v hv => ex_move rfl (ev s276 rfl)) rfl hz (by decide) hS (fun A33_11 zz kk s277x => ?_)
    replace s11 := (kk 11 (by decide)).trans s11
    replace s23 := (kk 23 (by decide)).trans s23
    clear kk hz s276
    have hz := zz
    have s277 := s277x
    clear zz s277x A33_10
    refine vh_take 11 true (.pointer (some ⟨b, 0, none⟩)) rfl (by kernel_rfl) (by kernel_rfl) (by kernel_rfl) (want_k rfl rfl s277) (fun hc v hv => ex_move rfl (ev s11 rfl)) rfl hz (by decide) hS (fun A33_12 zz kk s278x => ?_)
    replace s23 := (kk 23 (by decide)).trans s23
    replace s277 := (kk 277 (by decide)).trans s277
    clear kk hz s11
    have hz := zz
    have s278 := s278x
    clear zz s278x A33_11
    refine vh_take 13 true (.slice va8 (L.length - 1) vc8) rfl (by kernel_rfl) (by kernel_rfl) (by kernel_rfl) (want_k rfl rfl s277) (fun hc v hv => ex_move rfl (ev s23 rfl)) rfl hz (by decide) hS (fun A33_13 zz kk s280x => ?_)
    replace s277 := (kk 277 (by decide)).trans s277
    replace s278 := (kk 278 (by decide)).trans s278
    clear kk hz s23
    have hz := zz
    have s280 := s280x
    clear zz s280x A33_12
    refine vh_call 12 rfl (by kernel_rfl) (want_k rfl rfl s277) (ex_call rfl (by simp only [List.map_toArray, List.map_cons, List.map_nil, (ev s278 rfl), evc] <;> rfl) rfl) (hs_pool (HS.step hS) (by rw [hdl]; omega)) rfl hz (by decide) ?_
    rintro e w39 ⟨pa, pc, Kp, rfl, sp, ip, pp, _, hb39⟩; have hS := hS.trans (hb39.mono hS.size)
    refine ⟨_, rfl, hS, fun A33_14 zz kk s279x => ?_⟩
    rw [hdl] at sp s279x
    clear hb39
    have hlK : Kp.length = L.length - 1 := by have := congrArg List.length pp; rwa [List.length_map, hdl] at this
    have HSP : Calls Try.prog 38 #[.slice pa (L.length - 1) pc, .slice va8 (L.length - 1) vc8] w39 fun e w' => e = .returned (.bool true) ∧ Below w39.heap.size w39 w' := by
      have := samepks_any Kp R8 pa va8 pc vc8 w39 (by rw [hlK]; exact sp) (by rw [hlK]; exact hsl8.later hS) ip (fun x hx => SlY.later (hin8 x hx) hS) (pp.trans hpk8.symm) (by omega)
      rw [hlK] at this
      exact this
    replace s277 := (kk 277 (by decide)).trans s277
    replace s280 := (kk 280 (by decide)).trans s280
    clear kk hz s278
    have hz := zz
    have s279 := s279x
    clear zz s279x A33_13
    refine vh_call 14 rfl (by kernel_rfl) (want_k rfl rfl s277) (ex_call rfl (by simp only [List.map_toArray, List.map_cons, List.map_nil, (ev s279 rfl), (ev s280 rfl), evc] <;> rfl) rfl) HSP rfl hz (by decide) ?_
    rintro e w40 ⟨rfl, hb40⟩; have hS := hS.trans (hb40.mono hS.size)
    refine ⟨_, rfl, hS, fun A33_15 zz kk s281x => ?_⟩
    clear hb40
    replace s277 := (kk 277 (by decide)).trans s277
    clear kk hz s279 s280
    have hz := zz
    have s281 := s281x
    clear zz s281x A33_14
    refine vh_take 15 true (.bool true) rfl (by kernel_rfl) (by kernel_rfl) (by kernel_rfl) (want_none rfl) (fun hc v hv => ex_and rfl s277 s281 rfl) rfl hz (by decide) hS (fun A33_16 zz kk s282x => ?_)
    clear kk hz s277 s281
    have hz := zz
    have s282 := s282x
    clear zz s282x A33_15
    refine vh_take 16 true (.bool true) rfl (by kernel_rfl) (by kernel_rfl) (by kernel_rfl) (want_none rfl) (fun hc v hv => ex_assign rfl (ev s282 rfl)) rfl hz (by decide) hS (fun A33_17 zz kk s10x => ?_)
    clear kk hz s282
    have hz := zz
    have s10 := s10x
    clear zz s10x A33_16
    refine vh_done (by kernel_rfl) ?_
    have hB := (HS.step hS).bel
    go_wp2
    refine bodyPost_ret (results_tmp rfl _ _ _) rfl ⟨?_, hB⟩
    rw [getD_of s10]
    rfl

end Go.Proofs.Ytegfbebhgihcaaa
