import Derived.Test.YtjpkdnndhjnkpaaF6
set_option maxRecDepth 100000
set_option linter.unusedVariables false
set_option linter.unusedSimpArgs false
namespace Go.Proofs.Ytjpkdnndhjnkpaa
open Go.RowKit Go.Maps Go.Shelf
open Classical
attribute [local go_sem] Oper.semAt_some
set_option maxHeartbeats 1000000 in
theorem for14 (L : List Ap) (a : Option Addr) (c : Nat) (stop : Int) (w : World) (h : SlY yA w a L.length c L) (hin : ∀ x ∈ L, x.In w ∧ x.s.length ≤ 140737488351232) (hl : L.length * 40 ≤ 140737488351232) (hst : (Lit.int .i64 stop).wf = true) :
    Calls Try.prog 7 #[.slice a L.length c, .int .i64 stop] w fun e w' => e = .returned (.bool true) ∧ Below w.heap.size w w' := by
  have hcp := h.cap
  refine (callsIn_wide (n := 6)).1 ?_
  refine callsIn_of_wp_marks Try.func7 rfl trivial ?_ rfl
  simp only [Try.ntmps7, List.size_toArray, List.length_cons, List.length_nil, Nat.reduceAdd, Nat.reduceSub, Array.replicate_succ, Array.replicate_zero, List.push_toArray, List.append_toArray, List.nil_append, List.cons_append]
  obtain ⟨w1, hw1⟩ : ∃ w1, ((w.alloc (Obj.cells #[Value.int .i64 stop] 3)).alloc (Obj.cells #[Value.bool false] 4)) = w1 := ⟨_, rfl⟩
  have b1 : Below w.heap.size w w1 := by rw [← hw1]; exact ((Below.refl _ _).alloc (Nat.le_refl _) _).alloc (by simp) _
  have z1 := hide (show w1.heap.size = w.heap.size + 2 by rw [← hw1]; simp)
  have c3 : w1.cell? ⟨w.heap.size, 0, none⟩ = some (.int .i64 stop) := by subst hw1; go_simp
  have c4 : w1.cell? ⟨w.heap.size + 1, 0, none⟩ = some (.bool false) := by subst hw1; go_simp
  have f4 : w1.frozen? ⟨w.heap.size + 1, 0, none⟩ = false := by subst hw1; go_simp
  have HF := hide (filled_any L a c w1 (h.later b1) (fun x hx => ⟨SlY.later (hin x hx).1 b1, (hin x hx).2⟩) hl)
  clear h hin
  refine wpIn_wide.2 ?_
  go_wp2_with fail
  refine HF.out.mono ?_
  rintro e w2 ⟨b, rfl, N2, b2⟩
  have HN2 := hide N2
  have HBb : Hid (w1.heap.size ≤ b ∧ b < w2.heap.size) := by
    obtain ⟨_, _, _, _, _, _, h, hb, _⟩ := N2.ex
    exact ⟨hb, h.lt⟩
  have HB2 := hide b2
  have HB1 := hide b1
  clear N2 b2 b1 HF hw1
  go_wp2_with fail
  refine (works14 w2).mono ?_
  rintro e w3 ⟨rfl, b3⟩
  have HN3 := hide (HN2.out.later b3)
  have HB3 := hide b3
  clear b3 HN2
  go_wp2_with fail
  refine (pool_any b _ _ _ w3 HN3.out (by rw [List.length_map]; omega)).mono ?_
  rintro e w4 ⟨v, K, rfl, o4, b4⟩
  obtain ⟨wa, wc, hv, _⟩ := o4.own.form
  subst hv
  have hKl : K.length = L.length := by
    have := congrArg List.length o4.pk
    simpa using this
  generalize hP : L.map fitP = P at *
  have hPl : P.length = L.length := by rw [← hP]; simp
  have hPt : Hid (∀ p ∈ P, 0 ≤ p.t ∧ p.t < 10) := fun p hp => by
    rw [← hP] at hp
    obtain ⟨x, _, rfl⟩ := List.mem_map.1 hp
    have := ad5_adr x.t
    simp [adr] at this
    show 0 ≤ ad5 x.t ∧ ad5 x.t < 10
    omega
  have HO4 := hide o4
  have HB4 := hide b4
  have HKL := hide hKl
  have HPL := hide hPl
  rw [HKL.out]
  clear o4 b4 hKl hP hPl
  go_wp2_with (at_make; go_must (refine makeY kJ _ rfl (.tmp 29) rfl L.length rfl (by unfold maxLen; omega) (by show L.length * 8 ≤ _; omega) ?_))
  intro w6 o6 b6
  have b5 := (Below.refl _ w4).alloc (Nat.le_refl _) (.cells #[.slice wa L.length wc] 60)
  have z5 : (w4.alloc (.cells #[.slice wa L.length wc] 60)).heap.size = w4.heap.size + 1 := by simp
  have c65 : (w4.alloc (.cells #[.slice wa L.length wc] 60)).cell? ⟨w4.heap.size, 0, none⟩ = some (.slice wa L.length wc) := by go_simp
  generalize w4.alloc (.cells #[.slice wa L.length wc] 60) = w5 at *
  have hz1 := z1.out
  have hz2 := HB2.out.size
  have hz3 := HB3.out.size
  have hz4 := HB4.out.size
  have B25 : Below w2.heap.size w2 w5 := (HB3.out.trans (HB4.out.mono hz3)).trans (b5.mono (by omega))
  have B15 : Below w1.heap.size w1 w5 := HB2.out.trans (B25.mono hz2)
  have B16 : Below w1.heap.size w1 w6 := B15.trans (b6.mono (by omega))
  have HBW := hide (show Below w.heap.size w w6 from HB1.out.trans (B16.mono (by omega)))
  have hz6 : w4.heap.size + 1 < w6.heap.size := (o6.blk _ rfl).2
  have B36 : Below w3.heap.size w3 w6 := ((HB4.out).trans (b5.mono (by omega))).trans (b6.mono (by omega))
  have B46 : Below w4.heap.size w4 w6 := b5.trans (b6.mono (by omega))
  have HCS : Hid (CS (w.heap.size + 1) w4.heap.size (w4.heap.size + 1) b wa wc K P w6) := by
    refine ⟨(B16.cell (p := ⟨w.heap.size + 1, 0, none⟩) (by show w.heap.size + 1 < _; omega)).trans c4, (B16.frozen (p := ⟨w.heap.size + 1, 0, none⟩) (by show w.heap.size + 1 < _; omega)).trans f4, by omega, ?_, by omega, hz6, ?_, ?_, HO4.out.pk, ?_⟩
    · rw [HPL.out]
      exact (b6.cell (p := ⟨w4.heap.size, 0, none⟩) (by show w4.heap.size < _; omega)).trans c65
    · have := (HO4.out.own.sl' kA).later B46
      rw [HKL.out, ← HPL.out] at this
      exact this
    · intro x hx hne
      obtain ⟨q, o, e, hq, _⟩ := (HO4.out.own.sl' kA).place hne
      rw [hx] at e
      cases e
      show ¬ q = _
      omega
    · obtain ⟨pv, rv, mb, n, R, M, h1, _⟩ := HN3.out.ex
      have m1 := h1.lt
      have m2 := h1.mp.lt
      exact ⟨pv, rv, mb, n, R, M, h1.later B36, by omega, by omega, (fun e => by have := h1.plt _ e; omega), (fun e => by have := (h1.rc.blk _ e).2; omega)⟩
  have HC3 := hide ((B16.cell (p := ⟨w.heap.size, 0, none⟩) (by show w.heap.size < _; omega)).trans c3)
  have HWO : Hid (∀ x ∈ K, x.Out w3.heap.size w6) := fun x hx => (HO4.out.out x hx).upd8 (S := fun _ => False) (Upd.of_below B46) (fun _ _ _ => id)
  have HJ0 : Hid (CJ (w4.heap.size + 1) w6 L.length (cn P (-1) []) w6) := ⟨by rw [cn_start (fun p hp => (hPt.out p hp).1), HPL.out]; exact o6, Upd.refl _ _⟩
  have HW4 : Hid (∀ x ∈ K, x.Out w3.heap.size w4) := HO4.out.out
  have HBL : Hid (∀ x, wa = some x → K ≠ [] → w3.heap.size ≤ x.block) := fun x hx _ => by
    obtain ⟨va, vc, e, h1, h2, h3, h4⟩ := HO4.out.own.form
    injection e with e1 e2 e3
    subst e1
    obtain ⟨g, rfl, h5, h6⟩ := h4 x hx
    exact h5
  have HB46 := hide B46
  clear o6 b6 b5 c65 B25 B15 B16 B36 B46 HO4 HN3 c3 c4 f4
  go_upto_region 6 with fail
  refine wp_region_lit ?_
  refine vl_gen (fun T => T.size = 183 ∧ T[0]? = some (gw true (.slice a L.length c)) ∧ T[3]? = some (gw true (.pointer (some ⟨w.heap.size, 0, none⟩))) ∧ T[4]? = some (gw true (.pointer (some ⟨w.heap.size + 1, 0, none⟩))) ∧ T[5]? = some (gw true (.pointer (some ⟨b, 0, none⟩))) ∧ T[6]? = some (gw true (.pointer (some ⟨w4.heap.size, 0, none⟩))) ∧ T[7]? = some (gw true (.slice (some ⟨w4.heap.size + 1, 0, none⟩) L.length L.length))) ⟨rfl, rfl, rfl, rfl, rfl, rfl, rfl⟩ (fun Z0 ⟨hz, s0, s3, s4, s5, s6, s7⟩ => ?_)
  refine vt (.int IntKind.i64 (-1)) (ex_assign rfl rfl) hz (fun Ya zz kk s8 => ?_)
  replace s0 := ku s0
  replace s3 := ku s3
  replace s4 := ku s4
  replace s5 := ku s5
  replace s6 := ku s6
  replace s7 := ku s7
  replace hz := zz
  clear kk zz
  refine wpList_nil ?_
  have HJ9 := HJ0
  rw [show (-1 : Int) = ((0 : Nat) : Int) - 1 from rfl] at HJ9
  clear HJ0
  have HJ0 := HJ9
  clear HJ9
  have hs8 : _ = some (gw true (.int .i64 (((0 : Nat) : Int) - 1))) := s8
  go_upto_region 7 with fail
  refine v_loopZ 8 11 1 (fun j T wr => T.size = 183 ∧ T[0]? = some (gw true (.slice a L.length c)) ∧ T[3]? = some (gw true (.pointer (some ⟨w.heap.size, 0, none⟩))) ∧ T[4]? = some (gw true (.pointer (some ⟨w.heap.size + 1, 0, none⟩))) ∧ T[5]? = some (gw true (.pointer (some ⟨b, 0, none⟩))) ∧ T[6]? = some (gw true (.pointer (some ⟨w4.heap.size, 0, none⟩))) ∧ T[7]? = some (gw true (.slice (some ⟨w4.heap.size + 1, 0, none⟩) L.length L.length)) ∧ T[8]? = some (gw true (.int .i64 ((j : Int) - 1))) ∧ Hid (CJ (w4.heap.size + 1) w6 L.length (cn P ((j : Int) - 1) ([])) wr)) (fun j T w h => h.2.2.2.2.2.2.2.1) ⟨hz, s0, s3, s4, s5, s6, s7, hs8, HJ0⟩ ?_
  clear hz s0 s3 s4 s5 s6 s7 s8 hs8 HJ0
  intro j R0 wr hj hh
  obtain ⟨hz, s0, s3, s4, s5, s6, s7, s8, HJ⟩ := hh
  have HS := hide (HCS.out.upd HJ.out.upd)
  by_cases hjt : j < 11
  · have d1 : decide (((j : Int) - 1) < 10) = true := decide_eq_true (by omega)
    go_upto_region 7 with fail
    refine wp_region_lit ?_
    refine vt _ (ex_move rfl (ev s8 rfl)) hz (fun Yb zz kk s31 => ?_)
    replace s0 := ku s0
    replace s3 := ku s3
    replace s4 := ku s4
    replace s5 := ku s5
    replace s6 := ku s6
    replace s7 := ku s7
    replace s8 := ku s8
    replace hz := zz
    clear kk zz
    refine vt (.bool true) (ex_bin rfl (ev s31 rfl) rfl (lssD7 _ _ _ _ true d1 _)) hz (fun Yc zz kk s32 => ?_)
    replace s0 := ku s0
    replace s3 := ku s3
    replace s4 := ku s4
    replace s5 := ku s5
    replace s6 := ku s6
    replace s7 := ku s7
    replace s8 := ku s8
    replace hz := zz
    clear kk zz s31 Yb
    refine wpList_nil ?_
    go_upto_region 9 with fail
    refine wp_cond_true ((ev s32 rfl).trans rfl) ?_
    clear s32
    have HFA : Calls Try.prog 40 #[.pointer (some ⟨b, 0, none⟩), .int .i64 ((j : Int) - 1)] wr fun e w' => ∃ v, e = .returned v ∧ OwnY yJ wr.heap.size w' v (fo P ((j : Int) - 1) P.length) ∧ Below wr.heap.size wr w' := by
      obtain ⟨pv, rv, mb, n, R, M, h1, _⟩ := HS.out.net
      exact for_any _ h1 (wf_i64 (by omega)) (by rw [HPL.out]; omega)
    go_upto_region 9 with fail
    refine wp_region_lit ?_
    refine vt _ (ex_move rfl (ev s5 rfl)) hz (fun Yd zz kk s35 => ?_)
    replace s0 := ku s0
    replace s3 := ku s3
    replace s4 := ku s4
    replace s5 := ku s5
    replace s6 := ku s6
    replace s7 := ku s7
    replace s8 := ku s8
    replace hz := zz
    clear kk zz
    refine vt _ (ex_move rfl (ev s8 rfl)) hz (fun Ye zz kk s36 => ?_)
    replace s0 := ku s0
    replace s3 := ku s3
    replace s4 := ku s4
    replace s5 := ku s5
    replace s6 := ku s6
    replace s7 := ku s7
    replace s8 := ku s8
    replace s35 := ku s35
    replace hz := zz
    clear kk zz Yd
    refine vcallP (want_none rfl) (ex_call rfl (by simp only [List.map_toArray, List.map_cons, List.map_nil, (ev s35 rfl), (ev s36 rfl), evc] <;> rfl) rfl) HFA rfl hz (by decide) ?_
    rintro e w7 ⟨v9, rfl, o7, b7⟩; obtain ⟨va, vc, hv, _⟩ := o7.form; subst hv
    refine ⟨_, rfl, fun Yf zz kk s37 => ?_⟩
    have HF0 : Hid (CJ (w4.heap.size + 1) w6 L.length (cn P ((j : Int) - 1) ((fo P ((j : Int) - 1) P.length).take 0)) w7 ∧ OwnY yJ wr.heap.size w7 (.slice va (fo P ((j : Int) - 1) P.length).length vc) (fo P ((j : Int) - 1) P.length)) := by
      rw [List.take_zero]
      exact ⟨⟨HJ.out.own.grow b7, HJ.out.upd.trans (Upd.of_below b7)⟩, o7⟩
    have hgcr : w4.heap.size + 1 < wr.heap.size := HS.out.lc
    clear o7 b7 HJ HS HFA
    obtain ⟨F, hF⟩ : ∃ F, F = fo P ((j : Int) - 1) P.length := ⟨_, rfl⟩
    rw [← hF] at HF0 s37
    have HFF := hide hF.symm
    clear hF
    obtain ⟨zr, hzr⟩ : ∃ z, wr.heap.size = z := ⟨_, rfl⟩
    rw [hzr] at HF0 hgcr
    clear hzr
    replace s0 := ku s0
    replace s3 := ku s3
    replace s4 := ku s4
    replace s5 := ku s5
    replace s6 := ku s6
    replace s7 := ku s7
    replace s8 := ku s8
    replace hz := zz
    clear kk zz s35 s36 Ye
    refine vt _ (ex_assign rfl (ev s37 rfl)) hz (fun Yg zz kk s9 => ?_)
    replace s0 := ku s0
    replace s3 := ku s3
    replace s4 := ku s4
    replace s5 := ku s5
    replace s6 := ku s6
    replace s7 := ku s7
    replace s8 := ku s8
    replace hz := zz
    clear kk zz s37 Yf
    refine wpList_nil ?_
    go_upto_region 10 with fail
    refine wp_region_lit ?_
    refine vt (.int .i64 0) (ex_assign rfl rfl) hz (fun Yh zz kk s10 => ?_)
    replace s0 := ku s0
    replace s3 := ku s3
    replace s4 := ku s4
    replace s5 := ku s5
    replace s6 := ku s6
    replace s7 := ku s7
    replace s8 := ku s8
    replace s9 := ku s9
    replace hz := zz
    clear kk zz
    refine wpList_nil ?_
    have hs10 : _ = some (gw true (.int .i64 ((0 : Nat) : Int))) := s10
    go_upto_region 11 with fail
    refine v_loop 10 F.length (fun i T wr => T.size = 183 ∧ T[0]? = some (gw true (.slice a L.length c)) ∧ T[3]? = some (gw true (.pointer (some ⟨w.heap.size, 0, none⟩))) ∧ T[4]? = some (gw true (.pointer (some ⟨w.heap.size + 1, 0, none⟩))) ∧ T[5]? = some (gw true (.pointer (some ⟨b, 0, none⟩))) ∧ T[6]? = some (gw true (.pointer (some ⟨w4.heap.size, 0, none⟩))) ∧ T[7]? = some (gw true (.slice (some ⟨w4.heap.size + 1, 0, none⟩) L.length L.length)) ∧ T[8]? = some (gw true (.int .i64 ((j : Int) - 1))) ∧ T[9]? = some (gw true (.slice va F.length vc)) ∧ T[10]? = some (gw true (.int .i64 (i : Int))) ∧ Hid (CJ (w4.heap.size + 1) w6 L.length (cn P ((j : Int) - 1) (F.take i)) wr ∧ OwnY yJ zr wr (.slice va F.length vc) F)) (fun i T w h => h.2.2.2.2.2.2.2.2.2.1) ⟨hz, s0, s3, s4, s5, s6, s7, s8, s9, hs10, HF0⟩ ?_
    clear hz s0 s3 s4 s5 s6 s7 s8 s9 s10 hs10 HF0 d1
    intro i R1 wr hi hh
    obtain ⟨hz, s0, s3, s4, s5, s6, s7, s8, s9, s10, HI⟩ := hh
    by_cases hit : i < F.length
    · have d2 : decide ((i : Int) < (F.length : Int)) = true := decide_eq_true (by omega)
      go_upto_region 11 with fail
      refine wp_region_lit ?_
      refine vt _ (ex_move rfl (ev s10 rfl)) hz (fun Yi zz kk s38 => ?_)
      replace s0 := ku s0
      replace s3 := ku s3
      replace s4 := ku s4
      replace s5 := ku s5
      replace s6 := ku s6
      replace s7 := ku s7
      replace s8 := ku s8
      replace s9 := ku s9
      replace s10 := ku s10
      replace hz := zz
      clear kk zz
      refine vt _ (ex_move rfl (ev s9 rfl)) hz (fun Yj zz kk s39 => ?_)
      replace s0 := ku s0
      replace s3 := ku s3
      replace s4 := ku s4
      replace s5 := ku s5
      replace s6 := ku s6
      replace s7 := ku s7
      replace s8 := ku s8
      replace s9 := ku s9
      replace s10 := ku s10
      replace s38 := ku s38
      replace hz := zz
      clear kk zz Yi
      refine vt (.int .i64 (F.length : Int)) (ex_lenJ7 rfl rfl (ev s39 rfl)) hz (fun Yk zz kk s40 => ?_)
      replace s0 := ku s0
      replace s3 := ku s3
      replace s4 := ku s4
      replace s5 := ku s5
      replace s6 := ku s6
      replace s7 := ku s7
      replace s8 := ku s8
      replace s9 := ku s9
      replace s10 := ku s10
      replace s38 := ku s38
      replace hz := zz
      clear kk zz s39 Yj
      refine vt (.bool true) (ex_bin rfl (ev s38 rfl) (ev s40 rfl) (lssD7 _ _ _ _ true d2 _)) hz (fun Yl zz kk s41 => ?_)
      replace s0 := ku s0
      replace s3 := ku s3
      replace s4 := ku s4
      replace s5 := ku s5
      replace s6 := ku s6
      replace s7 := ku s7
      replace s8 := ku s8
      replace s9 := ku s9
      replace s10 := ku s10
      replace hz := zz
      clear kk zz s38 s40 Yk
      refine wpList_nil ?_
      go_upto_region 13 with fail
      refine wp_cond_true ((ev s41 rfl).trans rfl) ?_
      clear s41 d2
      obtain ⟨gf, rfl, hgf, hgf2, _, hvc, hvm⟩ := HI.out.2.jform (by intro e; rw [e] at hit; simp at hit)
      obtain ⟨y, hy⟩ : ∃ y, F[i]? = some y := ⟨_, List.getElem?_eq_getElem hit⟩
      obtain ⟨t, rfl, ht, p, hp, hpa⟩ := fo_get (P := P) (a := (j : Int) - 1) (j := P.length) (i := i) (x := y) (by rw [HFF.out]; exact hy)
      rw [HPL.out] at ht
      have lF := HI.out.2.jget hy
      have lC := HI.out.1.own.jget (cn_zero (P := P) (a := (j : Int) - 1) (i := i) (t := t) (by rw [HFF.out]; exact hy) |> (HFF.out ▸ ·))
      have fC := HI.out.1.own.free t
      have HS := hide (HCS.out.upd HI.out.1.upd)
      have c6 := HS.out.c6
      rw [HPL.out] at c6
      have hKt : ∃ x, K[t]? = some x ∧ x.t = (j : Int) - 1 := by
        have h1 : (K.map Ap.pk)[t]? = some p := by rw [HS.out.pk]; exact hp
        rw [List.getElem?_map] at h1
        obtain ⟨x, h2, h3⟩ := Option.map_eq_some_iff.1 h1
        exact ⟨x, h2, by rw [← hpa, ← h3]; rfl⟩
      obtain ⟨x, hx, hxt⟩ := hKt
      obtain ⟨qw, ow, rfl, hqw, hlw⟩ := HS.out.was.place (by intro e; rw [e] at hx; simp at hx)
      have lW : wr.cell? ⟨qw, ow + t * 3 + 1, none⟩ = some (.int .i64 ((j : Int) - 1)) := by rw [← hxt]; exact hlw _ _ hx 1 _ rfl
      have hwc := HS.out.was.cap
      rw [HPL.out] at hwc
      have d3 : decide ((t : Int) < 0) = false := decide_eq_false (by omega)
      have d4 : decide ((L.length : Int) ≤ (t : Int)) = false := decide_eq_false (by omega)
      have h0i : (true && (decide ((0 : Int) < (i : Int)) == true)) = true → 0 < i := fun h => by simpa using h
      have hsub : 0 < i → IntKind.i64.wrap ((i : Int) - 1) = ((i - 1 : Nat) : Int) := fun h => by rw [IntKind.wrap_i64]; unfold maxLen at hvm; omega
      obtain ⟨y, hyd⟩ : ∃ y, y = F.getD (i - 1) 0 := ⟨_, rfl⟩
      have hy2 : 0 < i → F[i - 1]? = some y := fun h => by
        have h3 : i - 1 < F.length := by omega
        rw [hyd]
        simp [List.getD, List.getElem?_eq_getElem h3]
      have lG : 0 < i → wr.cell? ⟨gf, i - 1, none⟩ = some (.int .i64 y) := fun h => HI.out.2.jget (hy2 h)
      have d6 : 0 < i → decide ((t : Int) ≤ y) = false := fun h => decide_eq_false (by
        have := fo_rise (P := P) (a := (j : Int) - 1) (j := P.length) (by rw [HFF.out]; exact hy2 h) (by rw [HFF.out]; exact hy) (by omega)
        omega)
      go_upto_region 13 with fail
      refine vq_start (C := fun v => Below wr.heap.size wr v) (by kernel_rfl) (by kernel_rfl) ((Below.refl _ _).drew) ?_
      refine vq true _ (want_none rfl) (fun hc v hv => ex_move rfl (ev s9 rfl)) rfl hz (by decide) (fun Ym zz kk s44 => ?_)
      replace s0 := ku s0
      replace s3 := ku s3
      replace s4 := ku s4
      replace s5 := ku s5
      replace s6 := ku s6
      replace s7 := ku s7
      replace s8 := ku s8
      replace s9 := ku s9
      replace s10 := ku s10
      replace hz := zz
      clear kk zz
      refine vq true _ (want_none rfl) (fun hc v hv => ex_move rfl (ev s10 rfl)) rfl hz (by decide) (fun Yn zz kk s45 => ?_)
      replace s0 := ku s0
      replace s3 := ku s3
      replace s4 := ku s4
      replace s5 := ku s5
      replace s6 := ku s6
      replace s7 := ku s7
      replace s8 := ku s8
      replace s9 := ku s9
      replace s10 := ku s10
      replace s44 := ku s44
      replace hz := zz
      clear kk zz Ym
      refine vq true (.pointer (some ⟨gf, i, none⟩)) (want_none rfl) (fun hc v hv => ex_ix rfl (ev s44 rfl) (ev s45 rfl) (ixJ7 gf F.length vc i hit _)) rfl hz (by decide) (fun Yo zz kk s46 => ?_)
      replace s0 := ku s0
      replace s3 := ku s3
      replace s4 := ku s4
      replace s5 := ku s5
      replace s6 := ku s6
      replace s7 := ku s7
      replace s8 := ku s8
      replace s9 := ku s9
      replace s10 := ku s10
      replace hz := zz
      clear kk zz s44 s45 Yn
      refine vq true (.int .i64 (t : Int)) (want_none rfl) (fun hc v hv => ex_ld rfl (ev s46 rfl) (ldI7 (cellB7 lF hv))) rfl hz (by decide) (fun Yp zz kk s47 => ?_)
      replace s0 := ku s0
      replace s3 := ku s3
      replace s4 := ku s4
      replace s5 := ku s5
      replace s6 := ku s6
      replace s7 := ku s7
      replace s8 := ku s8
      replace s9 := ku s9
      replace s10 := ku s10
      replace hz := zz
      clear kk zz s46 Yo
      refine vq true (.bool false) (want_none rfl) (fun hc v hv => ex_bin rfl (ev s47 rfl) rfl (lssD7 _ _ _ _ false d3 _)) rfl hz (by decide) (fun Yq zz kk s48 => ?_)
      replace s0 := ku s0
      replace s3 := ku s3
      replace s4 := ku s4
      replace s5 := ku s5
      replace s6 := ku s6
      replace s7 := ku s7
      replace s8 := ku s8
      replace s9 := ku s9
      replace s10 := ku s10
      replace hz := zz
      clear kk zz s47 Yp
      refine vq true _ (want_none rfl) (fun hc v hv => ex_move rfl (ev s48 rfl)) rfl hz (by decide) (fun Yr zz kk s49 => ?_)
      replace s0 := ku s0
      replace s3 := ku s3
      replace s4 := ku s4
      replace s5 := ku s5
      replace s6 := ku s6
      replace s7 := ku s7
      replace s8 := ku s8
      replace s9 := ku s9
      replace s10 := ku s10
      replace hz := zz
      clear kk zz s48 Yq
      refine vq true _ (want_k rfl rfl s49) (fun hc v hv => ex_move rfl (ev s9 rfl)) rfl hz (by decide) (fun Ys zz kk s50 => ?_)
      replace s0 := ku s0
      replace s3 := ku s3
      replace s4 := ku s4
      replace s5 := ku s5
      replace s6 := ku s6
      replace s7 := ku s7
      replace s8 := ku s8
      replace s9 := ku s9
      replace s10 := ku s10
      replace s49 := ku s49
      replace hz := zz
      clear kk zz Yr
      refine vq true _ (want_k rfl rfl s49) (fun hc v hv => ex_move rfl (ev s10 rfl)) rfl hz (by decide) (fun Yt zz kk s51 => ?_)
      replace s0 := ku s0
      replace s3 := ku s3
      replace s4 := ku s4
      replace s5 := ku s5
      replace s6 := ku s6
      replace s7 := ku s7
      replace s8 := ku s8
      replace s9 := ku s9
      replace s10 := ku s10
      replace s49 := ku s49
      replace s50 := ku s50
      replace hz := zz
      clear kk zz Ys
      refine vq true (.pointer (some ⟨gf, i, none⟩)) (want_k rfl rfl s49) (fun hc v hv => ex_ix rfl (ev s50 rfl) (ev s51 rfl) (ixJ7 gf F.length vc i hit _)) rfl hz (by decide) (fun Yu zz kk s52 => ?_)
      replace s0 := ku s0
      replace s3 := ku s3
      replace s4 := ku s4
      replace s5 := ku s5
      replace s6 := ku s6
      replace s7 := ku s7
      replace s8 := ku s8
      replace s9 := ku s9
      replace s10 := ku s10
      replace s49 := ku s49
      replace hz := zz
      clear kk zz s50 s51 Yt
      refine vq true (.int .i64 (t : Int)) (want_k rfl rfl s49) (fun hc v hv => ex_ld rfl (ev s52 rfl) (ldI7 (cellB7 lF hv))) rfl hz (by decide) (fun Yv zz kk s53 => ?_)
      replace s0 := ku s0
      replace s3 := ku s3
      replace s4 := ku s4
      replace s5 := ku s5
      replace s6 := ku s6
      replace s7 := ku s7
      replace s8 := ku s8
      replace s9 := ku s9
      replace s10 := ku s10
      replace s49 := ku s49
      replace hz := zz
      clear kk zz s52 Yu
      refine vq true _ (want_k rfl rfl s49) (fun hc v hv => ex_move rfl (ev s0 rfl)) rfl hz (by decide) (fun Yw zz kk s54 => ?_)
      replace s0 := ku s0
      replace s3 := ku s3
      replace s4 := ku s4
      replace s5 := ku s5
      replace s6 := ku s6
      replace s7 := ku s7
      replace s8 := ku s8
      replace s9 := ku s9
      replace s10 := ku s10
      replace s49 := ku s49
      replace s53 := ku s53
      replace hz := zz
      clear kk zz Yv
      refine vq true (.int .i64 (L.length : Int)) (want_k rfl rfl s49) (fun hc v hv => ex_lenP rfl rfl (ev s54 rfl)) rfl hz (by decide) (fun Yx zz kk s55 => ?_)
      replace s0 := ku s0
      replace s3 := ku s3
      replace s4 := ku s4
      replace s5 := ku s5
      replace s6 := ku s6
      replace s7 := ku s7
      replace s8 := ku s8
      replace s9 := ku s9
      replace s10 := ku s10
      replace s49 := ku s49
      replace s53 := ku s53
      replace hz := zz
      clear kk zz s54 Yw
      refine vq true (.bool false) (want_k rfl rfl s49) (fun hc v hv => ex_bin rfl (ev s53 rfl) (ev s55 rfl) (geqD7 _ _ _ _ false d4 _)) rfl hz (by decide) (fun Yy zz kk s56 => ?_)
      replace s0 := ku s0
      replace s3 := ku s3
      replace s4 := ku s4
      replace s5 := ku s5
      replace s6 := ku s6
      replace s7 := ku s7
      replace s8 := ku s8
      replace s9 := ku s9
      replace s10 := ku s10
      replace s49 := ku s49
      replace hz := zz
      clear kk zz s53 s55 Yx
      refine vq true (.bool false) (want_none rfl) (fun hc v hv => ex_or rfl s49 s56 rfl) rfl hz (by decide) (fun Yz zz kk s57 => ?_)
      replace s0 := ku s0
      replace s3 := ku s3
      replace s4 := ku s4
      replace s5 := ku s5
      replace s6 := ku s6
      replace s7 := ku s7
      replace s8 := ku s8
      replace s9 := ku s9
      replace s10 := ku s10
      replace hz := zz
      clear kk zz s49 s56 Yy
      refine vq true _ (want_none rfl) (fun hc v hv => ex_move rfl (ev s57 rfl)) rfl hz (by decide) (fun Y0 zz kk s58 => ?_)
      replace s0 := ku s0
      replace s3 := ku s3
      replace s4 := ku s4
      replace s5 := ku s5
      replace s6 := ku s6
      replace s7 := ku s7
      replace s8 := ku s8
      replace s9 := ku s9
      replace s10 := ku s10
      replace hz := zz
      clear kk zz s57 Yz
      refine vq true _ (want_k rfl rfl s58) (fun hc v hv => ex_move rfl (ev s10 rfl)) rfl hz (by decide) (fun Y1 zz kk s59 => ?_)
      replace s0 := ku s0
      replace s3 := ku s3
      replace s4 := ku s4
      replace s5 := ku s5
      replace s6 := ku s6
      replace s7 := ku s7
      replace s8 := ku s8
      replace s9 := ku s9
      replace s10 := ku s10
      replace s58 := ku s58
      replace hz := zz
      clear kk zz Y0
      refine vq true (.bool (decide ((0 : Int) < (i : Int)))) (want_k rfl rfl s58) (fun hc v hv => ex_bin rfl (ev s59 rfl) rfl (gtrC _ _ _ _ _)) rfl hz (by decide) (fun Y2 zz kk s60 => ?_)
      replace s0 := ku s0
      replace s3 := ku s3
      replace s4 := ku s4
      replace s5 := ku s5
      replace s6 := ku s6
      replace s7 := ku s7
      replace s8 := ku s8
      replace s9 := ku s9
      replace s10 := ku s10
      replace s58 := ku s58
      replace hz := zz
      clear kk zz s59 Y1
      refine vq true _ (want_k rfl rfl s58) (fun hc v hv => ex_move rfl (ev s60 rfl)) rfl hz (by decide) (fun Y3 zz kk s61 => ?_)
      replace s0 := ku s0
      replace s3 := ku s3
      replace s4 := ku s4
      replace s5 := ku s5
      replace s6 := ku s6
      replace s7 := ku s7
      replace s8 := ku s8
      replace s9 := ku s9
      replace s10 := ku s10
      replace s58 := ku s58
      replace hz := zz
      clear kk zz s60 Y2
      refine vq _ _ (want_g rfl rfl s61) (fun hc v hv => ex_move rfl (ev s9 rfl)) rfl hz (by decide) (fun Y4 zz kk s62 => ?_)
      replace s0 := ku s0
      replace s3 := ku s3
      replace s4 := ku s4
      replace s5 := ku s5
      replace s6 := ku s6
      replace s7 := ku s7
      replace s8 := ku s8
      replace s9 := ku s9
      replace s10 := ku s10
      replace s58 := ku s58
      replace s61 := ku s61
      replace hz := zz
      clear kk zz Y3
      refine vq _ _ (want_g rfl rfl s61) (fun hc v hv => ex_move rfl (ev s10 rfl)) rfl hz (by decide) (fun Y5 zz kk s63 => ?_)
      replace s0 := ku s0
      replace s3 := ku s3
      replace s4 := ku s4
      replace s5 := ku s5
      replace s6 := ku s6
      replace s7 := ku s7
      replace s8 := ku s8
      replace s9 := ku s9
      replace s10 := ku s10
      replace s58 := ku s58
      replace s61 := ku s61
      replace s62 := ku s62
      replace hz := zz
      clear kk zz Y4
      refine vq _ (.int .i64 ((i - 1 : Nat) : Int)) (want_g rfl rfl s61) (fun hc v hv => ex_bin rfl (ev s63 hc) rfl (subD7 _ _ _ _ (hsub (h0i hc)) _)) rfl hz (by decide) (fun Y6 zz kk s64 => ?_)
      replace s0 := ku s0
      replace s3 := ku s3
      replace s4 := ku s4
      replace s5 := ku s5
      replace s6 := ku s6
      replace s7 := ku s7
      replace s8 := ku s8
      replace s9 := ku s9
      replace s10 := ku s10
      replace s58 := ku s58
      replace s61 := ku s61
      replace s62 := ku s62
      replace hz := zz
      clear kk zz s63 Y5
      refine vq _ (.pointer (some ⟨gf, i - 1, none⟩)) (want_g rfl rfl s61) (fun hc v hv => ex_ix rfl (ev s62 hc) (ev s64 hc) (ixJ7 gf F.length vc (i - 1) (by omega) _)) rfl hz (by decide) (fun Y7 zz kk s65 => ?_)
      replace s0 := ku s0
      replace s3 := ku s3
      replace s4 := ku s4
      replace s5 := ku s5
      replace s6 := ku s6
      replace s7 := ku s7
      replace s8 := ku s8
      replace s9 := ku s9
      replace s10 := ku s10
      replace s58 := ku s58
      replace s61 := ku s61
      replace hz := zz
      clear kk zz s62 s64 Y6
      refine vq _ (.int .i64 y) (want_g rfl rfl s61) (fun hc v hv => ex_ld rfl (ev s65 hc) (ldI7 (cellB7 (lG (h0i hc)) hv))) rfl hz (by decide) (fun Y8 zz kk s66 => ?_)
      replace s0 := ku s0
      replace s3 := ku s3
      replace s4 := ku s4
      replace s5 := ku s5
      replace s6 := ku s6
      replace s7 := ku s7
      replace s8 := ku s8
      replace s9 := ku s9
      replace s10 := ku s10
      replace s58 := ku s58
      replace s61 := ku s61
      replace hz := zz
      clear kk zz s65 Y7
      refine vq _ _ (want_g rfl rfl s61) (fun hc v hv => ex_move rfl (ev s9 rfl)) rfl hz (by decide) (fun Y9 zz kk s67 => ?_)
      replace s0 := ku s0
      replace s3 := ku s3
      replace s4 := ku s4
      replace s5 := ku s5
      replace s6 := ku s6
      replace s7 := ku s7
      replace s8 := ku s8
      replace s9 := ku s9
      replace s10 := ku s10
      replace s58 := ku s58
      replace s61 := ku s61
      replace s66 := ku s66
      replace hz := zz
      clear kk zz Y8
      refine vq _ _ (want_g rfl rfl s61) (fun hc v hv => ex_move rfl (ev s10 rfl)) rfl hz (by decide) (fun Yba zz kk s68 => ?_)
      replace s0 := ku s0
      replace s3 := ku s3
      replace s4 := ku s4
      replace s5 := ku s5
      replace s6 := ku s6
      replace s7 := ku s7
      replace s8 := ku s8
      replace s9 := ku s9
      replace s10 := ku s10
      replace s58 := ku s58
      replace s61 := ku s61
      replace s66 := ku s66
      replace s67 := ku s67
      replace hz := zz
      clear kk zz Y9
      refine vq _ (.pointer (some ⟨gf, i, none⟩)) (want_g rfl rfl s61) (fun hc v hv => ex_ix rfl (ev s67 hc) (ev s68 hc) (ixJ7 gf F.length vc i hit _)) rfl hz (by decide) (fun Ybb zz kk s69 => ?_)
      replace s0 := ku s0
      replace s3 := ku s3
      replace s4 := ku s4
      replace s5 := ku s5
      replace s6 := ku s6
      replace s7 := ku s7
      replace s8 := ku s8
      replace s9 := ku s9
      replace s10 := ku s10
      replace s58 := ku s58
      replace s61 := ku s61
      replace s66 := ku s66
      replace hz := zz
      clear kk zz s67 s68 Yba
      refine vq _ (.int .i64 (t : Int)) (want_g rfl rfl s61) (fun hc v hv => ex_ld rfl (ev s69 hc) (ldI7 (cellB7 lF hv))) rfl hz (by decide) (fun Ybc zz kk s70 => ?_)
      replace s0 := ku s0
      replace s3 := ku s3
      replace s4 := ku s4
      replace s5 := ku s5
      replace s6 := ku s6
      replace s7 := ku s7
      replace s8 := ku s8
      replace s9 := ku s9
      replace s10 := ku s10
      replace s58 := ku s58
      replace s61 := ku s61
      replace s66 := ku s66
      replace hz := zz
      clear kk zz s69 Ybb
      refine vq _ (.bool false) (want_g rfl rfl s61) (fun hc v hv => ex_bin rfl (ev s66 hc) (ev s70 hc) (geqD7 _ _ _ _ false (d6 (h0i hc)) _)) rfl hz (by decide) (fun Ybd zz kk s71 => ?_)
      replace s0 := ku s0
      replace s3 := ku s3
      replace s4 := ku s4
      replace s5 := ku s5
      replace s6 := ku s6
      replace s7 := ku s7
      replace s8 := ku s8
      replace s9 := ku s9
      replace s10 := ku s10
      replace s58 := ku s58
      replace s61 := ku s61
      replace hz := zz
      clear kk zz s66 s70 Ybc
      refine vq true (.bool ((decide ((0 : Int) < (i : Int))) && false)) (want_k rfl rfl s58) (fun hc v hv => ex_and rfl s61 s71 rfl) rfl hz (by decide) (fun Ybe zz kk s72 => ?_)
      replace s0 := ku s0
      replace s3 := ku s3
      replace s4 := ku s4
      replace s5 := ku s5
      replace s6 := ku s6
      replace s7 := ku s7
      replace s8 := ku s8
      replace s9 := ku s9
      replace s10 := ku s10
      replace s58 := ku s58
      replace hz := zz
      clear kk zz s61 s71 Ybd
      refine vq true (.bool (false || ((decide ((0 : Int) < (i : Int))) && false))) (want_none rfl) (fun hc v hv => ex_or rfl s58 s72 rfl) rfl hz (by decide) (fun Ybf zz kk s73 => ?_)
      replace s0 := ku s0
      replace s3 := ku s3
      replace s4 := ku s4
      replace s5 := ku s5
      replace s6 := ku s6
      replace s7 := ku s7
      replace s8 := ku s8
      replace s9 := ku s9
      replace s10 := ku s10
      replace hz := zz
      clear kk zz s58 s72 Ybe
      refine vq true _ (want_none rfl) (fun hc v hv => ex_move rfl (ev s73 rfl)) rfl hz (by decide) (fun Ybg zz kk s74 => ?_)
      replace s0 := ku s0
      replace s3 := ku s3
      replace s4 := ku s4
      replace s5 := ku s5
      replace s6 := ku s6
      replace s7 := ku s7
      replace s8 := ku s8
      replace s9 := ku s9
      replace s10 := ku s10
      replace hz := zz
      clear kk zz s73 Ybf
      refine vq _ (.slice (some ⟨qw, ow, none⟩) L.length wc) (want_g rfl rfl s74) (fun hc v hv => ex_ld rfl (ev s6 rfl) (ldS7 (cellB7 c6 hv))) rfl hz (by decide) (fun Ybh zz kk s75 => ?_)
      replace s0 := ku s0
      replace s3 := ku s3
      replace s4 := ku s4
      replace s5 := ku s5
      replace s6 := ku s6
      replace s7 := ku s7
      replace s8 := ku s8
      replace s9 := ku s9
      replace s10 := ku s10
      replace s74 := ku s74
      replace hz := zz
      clear kk zz Ybg
      refine vq _ _ (want_g rfl rfl s74) (fun hc v hv => ex_move rfl (ev s9 rfl)) rfl hz (by decide) (fun Ybi zz kk s76 => ?_)
      replace s0 := ku s0
      replace s3 := ku s3
      replace s4 := ku s4
      replace s5 := ku s5
      replace s6 := ku s6
      replace s7 := ku s7
      replace s8 := ku s8
      replace s9 := ku s9
      replace s10 := ku s10
      replace s74 := ku s74
      replace s75 := ku s75
      replace hz := zz
      clear kk zz Ybh
      refine vq _ _ (want_g rfl rfl s74) (fun hc v hv => ex_move rfl (ev s10 rfl)) rfl hz (by decide) (fun Ybj zz kk s77 => ?_)
      replace s0 := ku s0
      replace s3 := ku s3
      replace s4 := ku s4
      replace s5 := ku s5
      replace s6 := ku s6
      replace s7 := ku s7
      replace s8 := ku s8
      replace s9 := ku s9
      replace s10 := ku s10
      replace s74 := ku s74
      replace s75 := ku s75
      replace s76 := ku s76
      replace hz := zz
      clear kk zz Ybi
      refine vq _ (.pointer (some ⟨gf, i, none⟩)) (want_g rfl rfl s74) (fun hc v hv => ex_ix rfl (ev s76 hc) (ev s77 hc) (ixJ7 gf F.length vc i hit _)) rfl hz (by decide) (fun Ybk zz kk s78 => ?_)
      replace s0 := ku s0
      replace s3 := ku s3
      replace s4 := ku s4
      replace s5 := ku s5
      replace s6 := ku s6
      replace s7 := ku s7
      replace s8 := ku s8
      replace s9 := ku s9
      replace s10 := ku s10
      replace s74 := ku s74
      replace s75 := ku s75
      replace hz := zz
      clear kk zz s76 s77 Ybj
      refine vq _ (.int .i64 (t : Int)) (want_g rfl rfl s74) (fun hc v hv => ex_ld rfl (ev s78 hc) (ldI7 (cellB7 lF hv))) rfl hz (by decide) (fun Ybl zz kk s79 => ?_)
      replace s0 := ku s0
      replace s3 := ku s3
      replace s4 := ku s4
      replace s5 := ku s5
      replace s6 := ku s6
      replace s7 := ku s7
      replace s8 := ku s8
      replace s9 := ku s9
      replace s10 := ku s10
      replace s74 := ku s74
      replace s75 := ku s75
      replace hz := zz
      clear kk zz s78 Ybk
      refine vq _ (.pointer (some ⟨qw, ow + t * 3, none⟩)) (want_g rfl rfl s74) (fun hc v hv => ex_ix rfl (ev s75 hc) (ev s79 hc) (ixP qw ow L.length wc t ht _)) rfl hz (by decide) (fun Ybm zz kk s80 => ?_)
      replace s0 := ku s0
      replace s3 := ku s3
      replace s4 := ku s4
      replace s5 := ku s5
      replace s6 := ku s6
      replace s7 := ku s7
      replace s8 := ku s8
      replace s9 := ku s9
      replace s10 := ku s10
      replace s74 := ku s74
      replace hz := zz
      clear kk zz s75 s79 Ybl
      refine vq _ (.pointer (some ⟨qw, ow + t * 3 + 1, none⟩)) (want_g rfl rfl s74) (fun hc v hv => ex_fa rfl (ev s80 hc) (faT7 _ _ _)) rfl hz (by decide) (fun Ybn zz kk s81 => ?_)
      replace s0 := ku s0
      replace s3 := ku s3
      replace s4 := ku s4
      replace s5 := ku s5
      replace s6 := ku s6
      replace s7 := ku s7
      replace s8 := ku s8
      replace s9 := ku s9
      replace s10 := ku s10
      replace s74 := ku s74
      replace hz := zz
      clear kk zz s80 Ybm
      refine vq _ (.int .i64 ((j : Int) - 1)) (want_g rfl rfl s74) (fun hc v hv => ex_ld rfl (ev s81 hc) (ldI7 (cellB7 lW hv))) rfl hz (by decide) (fun Ybo zz kk s82 => ?_)
      replace s0 := ku s0
      replace s3 := ku s3
      replace s4 := ku s4
      replace s5 := ku s5
      replace s6 := ku s6
      replace s7 := ku s7
      replace s8 := ku s8
      replace s9 := ku s9
      replace s10 := ku s10
      replace s74 := ku s74
      replace hz := zz
      clear kk zz s81 Ybn
      refine vq _ _ (want_g rfl rfl s74) (fun hc v hv => ex_move rfl (ev s8 rfl)) rfl hz (by decide) (fun Ybp zz kk s83 => ?_)
      replace s0 := ku s0
      replace s3 := ku s3
      replace s4 := ku s4
      replace s5 := ku s5
      replace s6 := ku s6
      replace s7 := ku s7
      replace s8 := ku s8
      replace s9 := ku s9
      replace s10 := ku s10
      replace s74 := ku s74
      replace s82 := ku s82
      replace hz := zz
      clear kk zz Ybo
      refine vq _ (.bool false) (want_g rfl rfl s74) (fun hc v hv => ex_bin rfl (ev s82 hc) (ev s83 hc) (neqI _ _ _ _)) rfl hz (by decide) (fun Ybq zz kk s84 => ?_)
      replace s0 := ku s0
      replace s3 := ku s3
      replace s4 := ku s4
      replace s5 := ku s5
      replace s6 := ku s6
      replace s7 := ku s7
      replace s8 := ku s8
      replace s9 := ku s9
      replace s10 := ku s10
      replace s74 := ku s74
      replace hz := zz
      clear kk zz s82 s83 Ybp
      refine vq true (.bool ((false || ((decide ((0 : Int) < (i : Int))) && false)) || false)) (want_none rfl) (fun hc v hv => ex_or rfl s74 s84 rfl) rfl hz (by decide) (fun Ybr zz kk s85 => ?_)
      replace s0 := ku s0
      replace s3 := ku s3
      replace s4 := ku s4
      replace s5 := ku s5
      replace s6 := ku s6
      replace s7 := ku s7
      replace s8 := ku s8
      replace s9 := ku s9
      replace s10 := ku s10
      replace hz := zz
      clear kk zz s74 s84 Ybq
      refine vq_nil (fun wq hq => ?_)
      have e85 : (.bool ((false || ((decide ((0 : Int) < (i : Int))) && false)) || false) : Value) = .bool false := by cases decide ((0 : Int) < (i : Int)) <;> rfl
      go_upto_region 15 with fail
      refine wp_cond_false ((ev s85 rfl).trans e85) ?_
      clear s85 e85 d3 d4 h0i hsub hyd hy2 lG d6
      have lF := cellB7 lF hq
      have lC := cellB7 lC hq
      have fC : wq.frozen? ⟨w4.heap.size + 1, t, none⟩ = false := (HI.out.1.own.grow hq).free t
      go_upto_region 15 with fail
      refine wp_region_lit ?_
      refine vt _ (ex_move rfl (ev s7 rfl)) hz (fun Ybs zz kk s86 => ?_)
      replace s0 := ku s0
      replace s3 := ku s3
      replace s4 := ku s4
      replace s5 := ku s5
      replace s6 := ku s6
      replace s7 := ku s7
      replace s8 := ku s8
      replace s9 := ku s9
      replace s10 := ku s10
      replace hz := zz
      clear kk zz
      refine vt _ (ex_move rfl (ev s9 rfl)) hz (fun Ybt zz kk s87 => ?_)
      replace s0 := ku s0
      replace s3 := ku s3
      replace s4 := ku s4
      replace s5 := ku s5
      replace s6 := ku s6
      replace s7 := ku s7
      replace s8 := ku s8
      replace s9 := ku s9
      replace s10 := ku s10
      replace s86 := ku s86
      replace hz := zz
      clear kk zz Ybs
      refine vt _ (ex_move rfl (ev s10 rfl)) hz (fun Ybu zz kk s88 => ?_)
      replace s0 := ku s0
      replace s3 := ku s3
      replace s4 := ku s4
      replace s5 := ku s5
      replace s6 := ku s6
      replace s7 := ku s7
      replace s8 := ku s8
      replace s9 := ku s9
      replace s10 := ku s10
      replace s86 := ku s86
      replace s87 := ku s87
      replace hz := zz
      clear kk zz Ybt
      refine vt (.pointer (some ⟨gf, i, none⟩)) (ex_ix rfl (ev s87 rfl) (ev s88 rfl) (ixJ7 gf F.length vc i hit _)) hz (fun Ybv zz kk s89 => ?_)
      replace s0 := ku s0
      replace s3 := ku s3
      replace s4 := ku s4
      replace s5 := ku s5
      replace s6 := ku s6
      replace s7 := ku s7
      replace s8 := ku s8
      replace s9 := ku s9
      replace s10 := ku s10
      replace s86 := ku s86
      replace hz := zz
      clear kk zz s87 s88 Ybu
      refine vt (.int .i64 (t : Int)) (ex_ld rfl (ev s89 rfl) (ldI7 lF)) hz (fun Ybw zz kk s90 => ?_)
      replace s0 := ku s0
      replace s3 := ku s3
      replace s4 := ku s4
      replace s5 := ku s5
      replace s6 := ku s6
      replace s7 := ku s7
      replace s8 := ku s8
      replace s9 := ku s9
      replace s10 := ku s10
      replace s86 := ku s86
      replace hz := zz
      clear kk zz s89 Ybv
      refine vt (.pointer (some ⟨w4.heap.size + 1, t, none⟩)) (ex_ix rfl (ev s86 rfl) (ev s90 rfl) (ixJ7 (w4.heap.size + 1) L.length L.length t ht _)) hz (fun Ybx zz kk s91 => ?_)
      replace s0 := ku s0
      replace s3 := ku s3
      replace s4 := ku s4
      replace s5 := ku s5
      replace s6 := ku s6
      replace s7 := ku s7
      replace s8 := ku s8
      replace s9 := ku s9
      replace s10 := ku s10
      replace s86 := ku s86
      replace s90 := ku s90
      replace hz := zz
      clear kk zz Ybw
      refine vt (.int .i64 0) (ex_ld rfl (ev s91 rfl) (ldI7 lC)) hz (fun Yby zz kk s92 => ?_)
      replace s0 := ku s0
      replace s3 := ku s3
      replace s4 := ku s4
      replace s5 := ku s5
      replace s6 := ku s6
      replace s7 := ku s7
      replace s8 := ku s8
      replace s9 := ku s9
      replace s10 := ku s10
      replace s86 := ku s86
      replace s90 := ku s90
      replace hz := zz
      clear kk zz s91 Ybx
      refine vt (.int .i64 1) (ex_bin rfl (ev s92 rfl) rfl (addD7 _ _ 0 1 (by decide) _)) hz (fun Ybz zz kk s93 => ?_)
      replace s0 := ku s0
      replace s3 := ku s3
      replace s4 := ku s4
      replace s5 := ku s5
      replace s6 := ku s6
      replace s7 := ku s7
      replace s8 := ku s8
      replace s9 := ku s9
      replace s10 := ku s10
      replace s86 := ku s86
      replace s90 := ku s90
      replace hz := zz
      clear kk zz s92 Yby
      refine vt (.pointer (some ⟨w4.heap.size + 1, t, none⟩)) (ex_ix rfl (ev s86 rfl) (ev s90 rfl) (ixJ7 (w4.heap.size + 1) L.length L.length t ht _)) hz (fun Yb0 zz kk s94 => ?_)
      replace s0 := ku s0
      replace s3 := ku s3
      replace s4 := ku s4
      replace s5 := ku s5
      replace s6 := ku s6
      replace s7 := ku s7
      replace s8 := ku s8
      replace s9 := ku s9
      replace s10 := ku s10
      replace s93 := ku s93
      replace hz := zz
      clear kk zz s86 s90 Ybz
      refine vs (wq.setCell ⟨w4.heap.size + 1, t, none⟩ (.int .i64 1)) (want_none rfl) (ex_st rfl (ev s94 rfl) (ev s93 rfl) (stI7 lC fC _)) rfl ?_
      have HI3 : Hid (CJ (w4.heap.size + 1) w6 L.length (cn P ((j : Int) - 1) (F.take (i + 1))) (wq.setCell ⟨w4.heap.size + 1, t, none⟩ (.int .i64 1)) ∧ OwnY yJ zr (wq.setCell ⟨w4.heap.size + 1, t, none⟩ (.int .i64 1)) (.slice (some ⟨gf, 0, none⟩) F.length vc) F) := by
        have h1 := (HI.out.1.own.grow hq).jset (j := t) (by rw [cn_len, HPL.out]; exact ht) 1
        have h2 := cn_set (P := P) (a := (j : Int) - 1) (i := i) (t := t) (by rw [HFF.out]; exact hy)
        rw [HFF.out] at h2
        rw [h2] at h1
        exact ⟨⟨h1, (HI.out.1.upd.trans (Upd.of_below hq)).setCell (p := ⟨w4.heap.size + 1, t, none⟩) (.inl rfl) _⟩, (HI.out.2.grow hq).upd1 ((Upd.refl (fun k => k = w4.heap.size + 1) _).setCell (p := ⟨w4.heap.size + 1, t, none⟩) (.inl rfl) _) (fun k hk e => by
          have h1 : gf = k := by cases hk; rfl
          have h2 : k = w4.heap.size + 1 := e
          omega)⟩
      obtain ⟨wn, hwn⟩ : ∃ v, v = (wq.setCell ⟨w4.heap.size + 1, t, none⟩ (.int .i64 1)) := ⟨_, rfl⟩
      rw [← hwn] at HI3 ⊢
      clear hwn HI lF lC fC hq
      clear s93 s94
      refine wpList_nil ?_
      go_upto_region 12 with fail
      refine wp_region_lit ?_
      refine vt _ (ex_move rfl (ev s10 rfl)) hz (fun Yb1 zz kk s42 => ?_)
      replace s0 := ku s0
      replace s3 := ku s3
      replace s4 := ku s4
      replace s5 := ku s5
      replace s6 := ku s6
      replace s7 := ku s7
      replace s8 := ku s8
      replace s9 := ku s9
      replace s10 := ku s10
      replace hz := zz
      clear kk zz
      refine vt (.int .i64 ((i + 1 : Nat) : Int)) (ex_bin rfl (ev s42 rfl) rfl (addD7 _ _ _ ((i + 1 : Nat) : Int) (by rw [IntKind.wrap_i64]; unfold maxLen at hvm; omega) _)) hz (fun Yb2 zz kk s43 => ?_)
      replace s0 := ku s0
      replace s3 := ku s3
      replace s4 := ku s4
      replace s5 := ku s5
      replace s6 := ku s6
      replace s7 := ku s7
      replace s8 := ku s8
      replace s9 := ku s9
      replace s10 := ku s10
      replace hz := zz
      clear kk zz s42 Yb1
      refine vt _ (ex_assign rfl (ev s43 rfl)) hz (fun Yb3 zz kk s10x => ?_)
      replace s0 := ku s0
      replace s3 := ku s3
      replace s4 := ku s4
      replace s5 := ku s5
      replace s6 := ku s6
      replace s7 := ku s7
      replace s8 := ku s8
      replace s9 := ku s9
      clear kk hz s43 s10
      have hz := zz
      have s10 := s10x
      clear zz s10x Yb2
      refine wpList_nil ?_
      exact ⟨_, rfl, by omega, hz, s0, s3, s4, s5, s6, s7, s8, s9, s10, HI3⟩
    · have d2 : decide ((i : Int) < (F.length : Int)) = false := decide_eq_false (by omega)
      go_upto_region 11 with fail
      refine wp_region_lit ?_
      refine vt _ (ex_move rfl (ev s10 rfl)) hz (fun Yb4 zz kk s38 => ?_)
      replace s0 := ku s0
      replace s3 := ku s3
      replace s4 := ku s4
      replace s5 := ku s5
      replace s6 := ku s6
      replace s7 := ku s7
      replace s8 := ku s8
      replace s9 := ku s9
      replace hz := zz
      clear kk zz s10
      refine vt _ (ex_move rfl (ev s9 rfl)) hz (fun Yb5 zz kk s39 => ?_)
      replace s0 := ku s0
      replace s3 := ku s3
      replace s4 := ku s4
      replace s5 := ku s5
      replace s6 := ku s6
      replace s7 := ku s7
      replace s8 := ku s8
      replace s38 := ku s38
      replace hz := zz
      clear kk zz s9 Yb4
      refine vt (.int .i64 (F.length : Int)) (ex_lenJ7 rfl rfl (ev s39 rfl)) hz (fun Yb6 zz kk s40 => ?_)
      replace s0 := ku s0
      replace s3 := ku s3
      replace s4 := ku s4
      replace s5 := ku s5
      replace s6 := ku s6
      replace s7 := ku s7
      replace s8 := ku s8
      replace s38 := ku s38
      replace hz := zz
      clear kk zz s39 Yb5
      refine vt (.bool false) (ex_bin rfl (ev s38 rfl) (ev s40 rfl) (lssD7 _ _ _ _ false d2 _)) hz (fun Yb7 zz kk s41 => ?_)
      replace s0 := ku s0
      replace s3 := ku s3
      replace s4 := ku s4
      replace s5 := ku s5
      replace s6 := ku s6
      replace s7 := ku s7
      replace s8 := ku s8
      replace hz := zz
      clear kk zz s38 s40 Yb6
      refine wpList_nil ?_
      have hi2 : i = F.length := by omega
      have HX : Hid (CJ (w4.heap.size + 1) w6 L.length (cn P (((j + 1 : Nat) : Int) - 1) ([])) wr) := by
        have h1 := HI.out.1
        have h2 := cn_next (P := P) (a := (j : Int) - 1)
        rw [HFF.out, ← hi2] at h2
        rw [h2] at h1
        rw [show ((j + 1 : Nat) : Int) - 1 = (j : Int) - 1 + 1 by omega]
        exact h1
      go_upto_region 8 with fail
      refine wp_cond_false ((ev s41 rfl).trans rfl) ?_
      clear s41 HI hi2 d2
      go_upto_region 8 with fail
      refine wp_region_lit ?_
      refine vt _ (ex_move rfl (ev s8 rfl)) hz (fun Yb8 zz kk s33 => ?_)
      replace s0 := ku s0
      replace s3 := ku s3
      replace s4 := ku s4
      replace s5 := ku s5
      replace s6 := ku s6
      replace s7 := ku s7
      replace s8 := ku s8
      replace hz := zz
      clear kk zz
      refine vt (.int .i64 (((j + 1 : Nat) : Int) - 1)) (ex_bin rfl (ev s33 rfl) rfl (addD7 _ _ _ (((j + 1 : Nat) : Int) - 1) (by rw [IntKind.wrap_i64]; omega) _)) hz (fun Yb9 zz kk s34 => ?_)
      replace s0 := ku s0
      replace s3 := ku s3
      replace s4 := ku s4
      replace s5 := ku s5
      replace s6 := ku s6
      replace s7 := ku s7
      replace s8 := ku s8
      replace hz := zz
      clear kk zz s33 Yb8
      refine vt _ (ex_assign rfl (ev s34 rfl)) hz (fun Yca zz kk s8x => ?_)
      replace s0 := ku s0
      replace s3 := ku s3
      replace s4 := ku s4
      replace s5 := ku s5
      replace s6 := ku s6
      replace s7 := ku s7
      clear kk hz s34 s8
      have hz := zz
      have s8 := s8x
      clear zz s8x Yb9
      refine wpList_nil ?_
      exact ⟨_, rfl, by omega, hz, s0, s3, s4, s5, s6, s7, s8, HX⟩
  · have d1 : decide (((j : Int) - 1) < 10) = false := decide_eq_false (by omega)
    obtain rfl : j = 11 := by omega
    go_upto_region 7 with fail
    refine wp_region_lit ?_
    refine vt _ (ex_move rfl (ev s8 rfl)) hz (fun Ycb zz kk s31 => ?_)
    replace s0 := ku s0
    replace s3 := ku s3
    replace s4 := ku s4
    replace s5 := ku s5
    replace s6 := ku s6
    replace s7 := ku s7
    replace hz := zz
    clear kk zz s8
    refine vt (.bool false) (ex_bin rfl (ev s31 rfl) rfl (lssD7 _ _ _ _ false d1 _)) hz (fun Ycc zz kk s32 => ?_)
    replace s0 := ku s0
    replace s3 := ku s3
    replace s4 := ku s4
    replace s5 := ku s5
    replace s6 := ku s6
    replace s7 := ku s7
    replace hz := zz
    clear kk zz s31 Ycb
    refine wpList_nil ?_
    go_upto_region 16 with fail
    refine wp_cond_false ((ev s32 rfl).trans rfl) ?_
    clear s32 d1
    go_upto_region 16 with fail
    refine wp_region_lit ?_
    refine vt (.int .i64 0) (ex_assign rfl rfl) hz (fun Ycd zz kk s11 => ?_)
    replace s0 := ku s0
    replace s3 := ku s3
    replace s4 := ku s4
    replace s5 := ku s5
    replace s6 := ku s6
    replace s7 := ku s7
    replace hz := zz
    clear kk zz
    refine wpList_nil ?_
    have HC1 : Hid (∀ i : Nat, i < L.length → wr.cell? ⟨w4.heap.size + 1, i, none⟩ = some (.int .i64 1)) := fun i hi => by
      have h1 := HJ.out.own
      rw [show (((11 : Nat) : Int) - 1) = 10 from rfl] at h1
      exact h1.jget (cn_end (fun p hp => (hPt.out p hp).2) (by rw [HPL.out]; exact hi))
    have hs11 : _ = some (gw true (.int .i64 ((0 : Nat) : Int))) := s11
    go_upto_region 17 with fail
    refine v_loop 11 L.length (fun i T v => T.size = 183 ∧ T[0]? = some (gw true (.slice a L.length c)) ∧ T[3]? = some (gw true (.pointer (some ⟨w.heap.size, 0, none⟩))) ∧ T[4]? = some (gw true (.pointer (some ⟨w.heap.size + 1, 0, none⟩))) ∧ T[5]? = some (gw true (.pointer (some ⟨b, 0, none⟩))) ∧ T[6]? = some (gw true (.pointer (some ⟨w4.heap.size, 0, none⟩))) ∧ T[7]? = some (gw true (.slice (some ⟨w4.heap.size + 1, 0, none⟩) L.length L.length)) ∧ T[11]? = some (gw true (.int .i64 (i : Int))) ∧ v = wr) (fun i T w h => h.2.2.2.2.2.2.2.1) ⟨hz, s0, s3, s4, s5, s6, s7, hs11, rfl⟩ ?_
    clear hz s0 s3 s4 s5 s6 s7 s11 hs11
    intro i R1 wv hi hh
    obtain ⟨hz, s0, s3, s4, s5, s6, s7, s11, hwv⟩ := hh
    rw [hwv]
    clear hwv wv
    by_cases hit : i < L.length
    · have d2 : decide ((i : Int) < (L.length : Int)) = true := decide_eq_true (by omega)
      go_upto_region 17 with fail
      refine wp_region_lit ?_
      refine vt _ (ex_move rfl (ev s11 rfl)) hz (fun Yce zz kk s95 => ?_)
      replace s0 := ku s0
      replace s3 := ku s3
      replace s4 := ku s4
      replace s5 := ku s5
      replace s6 := ku s6
      replace s7 := ku s7
      replace s11 := ku s11
      replace hz := zz
      clear kk zz
      refine vt _ (ex_move rfl (ev s7 rfl)) hz (fun Ycf zz kk s96 => ?_)
      replace s0 := ku s0
      replace s3 := ku s3
      replace s4 := ku s4
      replace s5 := ku s5
      replace s6 := ku s6
      replace s7 := ku s7
      replace s11 := ku s11
      replace s95 := ku s95
      replace hz := zz
      clear kk zz Yce
      refine vt (.int .i64 (L.length : Int)) (ex_lenJ7 rfl rfl (ev s96 rfl)) hz (fun Ycg zz kk s97 => ?_)
      replace s0 := ku s0
      replace s3 := ku s3
      replace s4 := ku s4
      replace s5 := ku s5
      replace s6 := ku s6
      replace s7 := ku s7
      replace s11 := ku s11
      replace s95 := ku s95
      replace hz := zz
      clear kk zz s96 Ycf
      refine vt (.bool true) (ex_bin rfl (ev s95 rfl) (ev s97 rfl) (lssD7 _ _ _ _ true d2 _)) hz (fun Ych zz kk s98 => ?_)
      replace s0 := ku s0
      replace s3 := ku s3
      replace s4 := ku s4
      replace s5 := ku s5
      replace s6 := ku s6
      replace s7 := ku s7
      replace s11 := ku s11
      replace hz := zz
      clear kk zz s95 s97 Ycg
      refine wpList_nil ?_
      go_upto_region 19 with fail
      refine wp_cond_true ((ev s98 rfl).trans rfl) ?_
      clear s98 d2
      have l1 := HC1.out i hit
      go_upto_region 19 with fail
      refine wp_region_lit ?_
      refine vt _ (ex_move rfl (ev s7 rfl)) hz (fun Yci zz kk s101 => ?_)
      replace s0 := ku s0
      replace s3 := ku s3
      replace s4 := ku s4
      replace s5 := ku s5
      replace s6 := ku s6
      replace s7 := ku s7
      replace s11 := ku s11
      replace hz := zz
      clear kk zz
      refine vt _ (ex_move rfl (ev s11 rfl)) hz (fun Ycj zz kk s102 => ?_)
      replace s0 := ku s0
      replace s3 := ku s3
      replace s4 := ku s4
      replace s5 := ku s5
      replace s6 := ku s6
      replace s7 := ku s7
      replace s11 := ku s11
      replace s101 := ku s101
      replace hz := zz
      clear kk zz Yci
      refine vt (.pointer (some ⟨w4.heap.size + 1, i, none⟩)) (ex_ix rfl (ev s101 rfl) (ev s102 rfl) (ixJ7 (w4.heap.size + 1) L.length L.length i hit _)) hz (fun Yck zz kk s103 => ?_)
      replace s0 := ku s0
      replace s3 := ku s3
      replace s4 := ku s4
      replace s5 := ku s5
      replace s6 := ku s6
      replace s7 := ku s7
      replace s11 := ku s11
      replace hz := zz
      clear kk zz s101 s102 Ycj
      refine vt (.int .i64 1) (ex_ld rfl (ev s103 rfl) (ldI7 l1)) hz (fun Ycl zz kk s104 => ?_)
      replace s0 := ku s0
      replace s3 := ku s3
      replace s4 := ku s4
      replace s5 := ku s5
      replace s6 := ku s6
      replace s7 := ku s7
      replace s11 := ku s11
      replace hz := zz
      clear kk zz s103 Yck
      refine vt (.bool false) (ex_bin rfl (ev s104 rfl) rfl (neqI _ _ _ _)) hz (fun Ycm zz kk s105 => ?_)
      replace s0 := ku s0
      replace s3 := ku s3
      replace s4 := ku s4
      replace s5 := ku s5
      replace s6 := ku s6
      replace s7 := ku s7
      replace s11 := ku s11
      replace hz := zz
      clear kk zz s104 Ycl
      refine wpList_nil ?_
      go_upto_region 18 with fail
      refine wp_cond_false ((ev s105 rfl).trans rfl) ?_
      clear s105 l1
      go_upto_region 18 with fail
      refine wp_region_lit ?_
      refine vt _ (ex_move rfl (ev s11 rfl)) hz (fun Ycn zz kk s99 => ?_)
      replace s0 := ku s0
      replace s3 := ku s3
      replace s4 := ku s4
      replace s5 := ku s5
      replace s6 := ku s6
      replace s7 := ku s7
      replace s11 := ku s11
      replace hz := zz
      clear kk zz
      refine vt (.int .i64 ((i + 1 : Nat) : Int)) (ex_bin rfl (ev s99 rfl) rfl (addD7 _ _ _ ((i + 1 : Nat) : Int) (by rw [IntKind.wrap_i64]; omega) _)) hz (fun Yco zz kk s100 => ?_)
      replace s0 := ku s0
      replace s3 := ku s3
      replace s4 := ku s4
      replace s5 := ku s5
      replace s6 := ku s6
      replace s7 := ku s7
      replace s11 := ku s11
      replace hz := zz
      clear kk zz s99 Ycn
      refine vt _ (ex_assign rfl (ev s100 rfl)) hz (fun Ycp zz kk s11x => ?_)
      replace s0 := ku s0
      replace s3 := ku s3
      replace s4 := ku s4
      replace s5 := ku s5
      replace s6 := ku s6
      replace s7 := ku s7
      clear kk hz s100 s11
      have hz := zz
      have s11 := s11x
      clear zz s11x Yco
      refine wpList_nil ?_
      exact ⟨_, rfl, by omega, hz, s0, s3, s4, s5, s6, s7, s11, rfl⟩
    · have d2 : decide ((i : Int) < (L.length : Int)) = false := decide_eq_false (by omega)
      go_upto_region 17 with fail
      refine wp_region_lit ?_
      refine vt _ (ex_move rfl (ev s11 rfl)) hz (fun Ycq zz kk s95 => ?_)
      replace s0 := ku s0
      replace s3 := ku s3
      replace s4 := ku s4
      replace s5 := ku s5
      replace s6 := ku s6
      replace s7 := ku s7
      replace hz := zz
      clear kk zz s11
      refine vt _ (ex_move rfl (ev s7 rfl)) hz (fun Ycr zz kk s96 => ?_)
      replace s0 := ku s0
      replace s3 := ku s3
      replace s4 := ku s4
      replace s5 := ku s5
      replace s6 := ku s6
      replace s95 := ku s95
      replace hz := zz
      clear kk zz s7 Ycq
      refine vt (.int .i64 (L.length : Int)) (ex_lenJ7 rfl rfl (ev s96 rfl)) hz (fun Ycs zz kk s97 => ?_)
      replace s0 := ku s0
      replace s3 := ku s3
      replace s4 := ku s4
      replace s5 := ku s5
      replace s6 := ku s6
      replace s95 := ku s95
      replace hz := zz
      clear kk zz s96 Ycr
      refine vt (.bool false) (ex_bin rfl (ev s95 rfl) (ev s97 rfl) (lssD7 _ _ _ _ false d2 _)) hz (fun Yct zz kk s98 => ?_)
      replace s0 := ku s0
      replace s3 := ku s3
      replace s4 := ku s4
      replace s5 := ku s5
      replace s6 := ku s6
      replace hz := zz
      clear kk zz s95 s97 Ycs
      refine wpList_nil ?_
      go_upto_region 21 with fail
      refine wp_cond_false ((ev s98 rfl).trans rfl) ?_
      clear s98 d2 HC1 hit hi
      obtain ⟨pv, rv, mb, nm, R, M, h1, _⟩ := HS.out.net
      go_upto_region 21 with fail
      refine wp_region_lit ?_
      refine vt _ (ex_move rfl (ev s5 rfl)) hz (fun Ycu zz kk s106 => ?_)
      replace s0 := ku s0
      replace s3 := ku s3
      replace s4 := ku s4
      replace s5 := ku s5
      replace s6 := ku s6
      replace hz := zz
      clear kk zz
      refine vcallP (want_none rfl) (ex_call rfl (by simp only [List.map_toArray, List.map_cons, List.map_nil, (ev s106 rfl), evc] <;> rfl) rfl) (each14_any h1) rfl hz (by decide) ?_
      rintro e w8 ⟨rfl, hk8, ck8, b8⟩
      refine ⟨_, rfl, fun Ycv zz kk s107 => ?_⟩
      have HI0 : Hid (NF w8 b L.length ∧ Upd (fun k => k = b) w8 w8) := ⟨⟨_, _, _, _, _, _, _, h1.later b8, by rw [HPL.out]; exact Nat.le_refl _⟩, Upd.refl _ _⟩
      replace s0 := ku s0
      replace s3 := ku s3
      replace s4 := ku s4
      replace s5 := ku s5
      replace s6 := ku s6
      replace hz := zz
      clear kk zz s106 Ycu
      refine vt _ (ex_assign rfl (ev s107 rfl)) hz (fun Ycw zz kk s12 => ?_)
      replace s0 := ku s0
      replace s3 := ku s3
      replace s4 := ku s4
      replace s5 := ku s5
      replace s6 := ku s6
      replace hz := zz
      clear kk zz s107 Ycv
      refine wpList_nil ?_
      go_upto_region 22 with fail
      refine wp_region_lit ?_
      refine vt _ (ex_move rfl (ev s12 rfl)) hz (fun Ycx zz kk s108 => ?_)
      replace s0 := ku s0
      replace s3 := ku s3
      replace s4 := ku s4
      replace s5 := ku s5
      replace s6 := ku s6
      replace s12 := ku s12
      replace hz := zz
      clear kk zz
      refine vt (.bool false) (ex_bin rfl (ev s108 rfl) rfl (nilF7 _ _ _ _)) hz (fun Ycy zz kk s109 => ?_)
      replace s0 := ku s0
      replace s3 := ku s3
      replace s4 := ku s4
      replace s5 := ku s5
      replace s6 := ku s6
      replace s12 := ku s12
      replace hz := zz
      clear kk zz s108 Ycx
      refine wpList_nil ?_
      go_upto_region 24 with fail
      refine wp_cond_false ((ev s109 rfl).trans rfl) ?_
      clear s109
      go_upto_region 24 with fail
      refine wp_region_lit ?_
      refine vt (.int .i64 0) (ex_assign rfl rfl) hz (fun Ycz zz kk s13 => ?_)
      replace s0 := ku s0
      replace s3 := ku s3
      replace s4 := ku s4
      replace s5 := ku s5
      replace s6 := ku s6
      replace s12 := ku s12
      replace hz := zz
      clear kk zz
      refine wpList_nil ?_
      have hs13 : _ = some (gw true (.int .i64 ((0 : Nat) : Int))) := s13
      go_upto_region 25 with fail
      refine v_loop 13 L.length (fun i T v => T.size = 183 ∧ T[0]? = some (gw true (.slice a L.length c)) ∧ T[3]? = some (gw true (.pointer (some ⟨w.heap.size, 0, none⟩))) ∧ T[4]? = some (gw true (.pointer (some ⟨w.heap.size + 1, 0, none⟩))) ∧ T[5]? = some (gw true (.pointer (some ⟨b, 0, none⟩))) ∧ T[6]? = some (gw true (.pointer (some ⟨w4.heap.size, 0, none⟩))) ∧ T[12]? = some (gw true (.func (.func 83) #[] #[.pointer (some ⟨wr.heap.size, 0, none⟩)])) ∧ T[13]? = some (gw true (.int .i64 (i : Int))) ∧ Hid (NF v b L.length ∧ Upd (fun k => k = b) w8 v)) (fun i T w h => h.2.2.2.2.2.2.2.1) ⟨hz, s0, s3, s4, s5, s6, s12, hs13, HI0⟩ ?_
      clear hz s0 s3 s4 s5 s6 s12 s13 hs13 HI0
      intro i R2 wv hi hh
      obtain ⟨hz, s0, s3, s4, s5, s6, s12, s13, HI⟩ := hh
      by_cases hit : i < L.length
      · have d2 : decide ((i : Int) < (L.length : Int)) = true := decide_eq_true (by omega)
        go_upto_region 25 with fail
        refine wp_region_lit ?_
        refine vt _ (ex_move rfl (ev s13 rfl)) hz (fun Yc0 zz kk s113 => ?_)
        replace s0 := ku s0
        replace s3 := ku s3
        replace s4 := ku s4
        replace s5 := ku s5
        replace s6 := ku s6
        replace s12 := ku s12
        replace s13 := ku s13
        replace hz := zz
        clear kk zz
        refine vt _ (ex_move rfl (ev s0 rfl)) hz (fun Yc1 zz kk s114 => ?_)
        replace s0 := ku s0
        replace s3 := ku s3
        replace s4 := ku s4
        replace s5 := ku s5
        replace s6 := ku s6
        replace s12 := ku s12
        replace s13 := ku s13
        replace s113 := ku s113
        replace hz := zz
        clear kk zz Yc0
        refine vt (.int .i64 (L.length : Int)) (ex_lenP rfl rfl (ev s114 rfl)) hz (fun Yc2 zz kk s115 => ?_)
        replace s0 := ku s0
        replace s3 := ku s3
        replace s4 := ku s4
        replace s5 := ku s5
        replace s6 := ku s6
        replace s12 := ku s12
        replace s13 := ku s13
        replace s113 := ku s113
        replace hz := zz
        clear kk zz s114 Yc1
        refine vt (.bool true) (ex_bin rfl (ev s113 rfl) (ev s115 rfl) (lssD7 _ _ _ _ true d2 _)) hz (fun Yc3 zz kk s116 => ?_)
        replace s0 := ku s0
        replace s3 := ku s3
        replace s4 := ku s4
        replace s5 := ku s5
        replace s6 := ku s6
        replace s12 := ku s12
        replace s13 := ku s13
        replace hz := zz
        clear kk zz s113 s115 Yc2
        refine wpList_nil ?_
        go_upto_region 27 with fail
        refine wp_cond_true ((ev s116 rfl).trans rfl) ?_
        clear s116 d2
        go_upto_region 27 with fail
        refine wp_region_lit ?_
        refine vt _ (ex_move rfl (ev s5 rfl)) hz (fun Yc4 zz kk s119 => ?_)
        replace s0 := ku s0
        replace s3 := ku s3
        replace s4 := ku s4
        replace s5 := ku s5
        replace s6 := ku s6
        replace s12 := ku s12
        replace s13 := ku s13
        replace hz := zz
        clear kk zz
        refine vt _ (ex_move rfl (ev s13 rfl)) hz (fun Yc5 zz kk s120 => ?_)
        replace s0 := ku s0
        replace s3 := ku s3
        replace s4 := ku s4
        replace s5 := ku s5
        replace s6 := ku s6
        replace s12 := ku s12
        replace s13 := ku s13
        replace s119 := ku s119
        replace hz := zz
        clear kk zz Yc4
        refine vcallP (want_none rfl) (ex_call rfl (by simp only [List.map_toArray, List.map_cons, List.map_nil, (ev s119 rfl), (ev s120 rfl), evc] <;> rfl) rfl) (nf_turn (i : Int) HI.out.1 (by omega)) rfl hz (by decide) ?_
        rintro e w9 ⟨⟨rr, rfl⟩, hN9, hU9⟩
        refine ⟨_, rfl, fun Yc6 zz kk s121 => ?_⟩
        have HI9 : Hid (NF w9 b L.length ∧ Upd (fun k => k = b) w8 w9) := ⟨hN9, HI.out.2.trans hU9⟩
        clear hN9 hU9 HI
        replace s0 := ku s0
        replace s3 := ku s3
        replace s4 := ku s4
        replace s5 := ku s5
        replace s6 := ku s6
        replace s12 := ku s12
        replace s13 := ku s13
        replace hz := zz
        clear kk zz s119 s120 Yc5
        clear s121
        refine wpList_nil ?_
        go_upto_region 26 with fail
        refine wp_region_lit ?_
        refine vt _ (ex_move rfl (ev s13 rfl)) hz (fun Yc7 zz kk s117 => ?_)
        replace s0 := ku s0
        replace s3 := ku s3
        replace s4 := ku s4
        replace s5 := ku s5
        replace s6 := ku s6
        replace s12 := ku s12
        replace s13 := ku s13
        replace hz := zz
        clear kk zz
        refine vt (.int .i64 ((i + 1 : Nat) : Int)) (ex_bin rfl (ev s117 rfl) rfl (addD7 _ _ _ ((i + 1 : Nat) : Int) (by rw [IntKind.wrap_i64]; omega) _)) hz (fun Yc8 zz kk s118 => ?_)
        replace s0 := ku s0
        replace s3 := ku s3
        replace s4 := ku s4
        replace s5 := ku s5
        replace s6 := ku s6
        replace s12 := ku s12
        replace s13 := ku s13
        replace hz := zz
        clear kk zz s117 Yc7
        refine vt _ (ex_assign rfl (ev s118 rfl)) hz (fun Yc9 zz kk s13x => ?_)
        replace s0 := ku s0
        replace s3 := ku s3
        replace s4 := ku s4
        replace s5 := ku s5
        replace s6 := ku s6
        replace s12 := ku s12
        clear kk hz s118 s13
        have hz := zz
        have s13 := s13x
        clear zz s13x Yc8
        refine wpList_nil ?_
        exact ⟨_, rfl, by omega, hz, s0, s3, s4, s5, s6, s12, s13, HI9⟩
      · have d2 : decide ((i : Int) < (L.length : Int)) = false := decide_eq_false (by omega)
        go_upto_region 25 with fail
        refine wp_region_lit ?_
        refine vt _ (ex_move rfl (ev s13 rfl)) hz (fun Yda zz kk s113 => ?_)
        replace s0 := ku s0
        replace s3 := ku s3
        replace s4 := ku s4
        replace s5 := ku s5
        replace s6 := ku s6
        replace s12 := ku s12
        replace hz := zz
        clear kk zz s13
        refine vt _ (ex_move rfl (ev s0 rfl)) hz (fun Ydb zz kk s114 => ?_)
        replace s0 := ku s0
        replace s3 := ku s3
        replace s4 := ku s4
        replace s5 := ku s5
        replace s6 := ku s6
        replace s12 := ku s12
        replace s113 := ku s113
        replace hz := zz
        clear kk zz Yda
        refine vt (.int .i64 (L.length : Int)) (ex_lenP rfl rfl (ev s114 rfl)) hz (fun Ydc zz kk s115 => ?_)
        replace s0 := ku s0
        replace s3 := ku s3
        replace s4 := ku s4
        replace s5 := ku s5
        replace s6 := ku s6
        replace s12 := ku s12
        replace s113 := ku s113
        replace hz := zz
        clear kk zz s114 Ydb
        refine vt (.bool false) (ex_bin rfl (ev s113 rfl) (ev s115 rfl) (lssD7 _ _ _ _ false d2 _)) hz (fun Ydd zz kk s116 => ?_)
        replace s0 := ku s0
        replace s3 := ku s3
        replace s4 := ku s4
        replace s5 := ku s5
        replace s6 := ku s6
        replace s12 := ku s12
        replace hz := zz
        clear kk zz s113 s115 Ydc
        refine wpList_nil ?_
        go_upto_region 28 with fail
        refine wp_cond_false ((ev s116 rfl).trans rfl) ?_
        clear s116 d2 hit hi
        go_upto_region 28 with fail
        refine wp_region_lit ?_
        refine vt _ (ex_move rfl (ev s5 rfl)) hz (fun Yde zz kk s122 => ?_)
        replace s0 := ku s0
        replace s3 := ku s3
        replace s4 := ku s4
        replace s5 := ku s5
        replace s6 := ku s6
        replace s12 := ku s12
        replace hz := zz
        clear kk zz
        refine vt _ (ex_move rfl (ev s0 rfl)) hz (fun Ydf zz kk s123 => ?_)
        replace s0 := ku s0
        replace s3 := ku s3
        replace s4 := ku s4
        replace s5 := ku s5
        replace s6 := ku s6
        replace s12 := ku s12
        replace s122 := ku s122
        replace hz := zz
        clear kk zz Yde
        refine vt (.int .i64 (L.length : Int)) (ex_lenP rfl rfl (ev s123 rfl)) hz (fun Ydg zz kk s124 => ?_)
        replace s0 := ku s0
        replace s3 := ku s3
        replace s4 := ku s4
        replace s5 := ku s5
        replace s6 := ku s6
        replace s12 := ku s12
        replace s122 := ku s122
        replace hz := zz
        clear kk zz s123 Ydf
        refine vt (.int .i64 ((L.length : Int) - 1)) (ex_bin rfl (ev s124 rfl) rfl (subD7 _ _ _ ((L.length : Int) - 1) (by rw [IntKind.wrap_i64]; omega) _)) hz (fun Ydh zz kk s125 => ?_)
        replace s0 := ku s0
        replace s3 := ku s3
        replace s4 := ku s4
        replace s5 := ku s5
        replace s6 := ku s6
        replace s12 := ku s12
        replace s122 := ku s122
        replace hz := zz
        clear kk zz s124 Ydg
        refine vcallP (want_none rfl) (ex_call rfl (by simp only [List.map_toArray, List.map_cons, List.map_nil, (ev s122 rfl), (ev s125 rfl), evc] <;> rfl) rfl) (nf_swap 0 ((L.length : Int) - 1) HI.out.1 (by omega)) rfl hz (by decide) ?_
        rintro e w10 ⟨⟨r1, rfl⟩, hN10, hU10⟩
        refine ⟨_, rfl, fun Ydi zz kk s126 => ?_⟩
        replace s0 := ku s0
        replace s3 := ku s3
        replace s4 := ku s4
        replace s5 := ku s5
        replace s6 := ku s6
        replace s12 := ku s12
        replace hz := zz
        clear kk zz s122 s125 Ydh
        clear s126
        refine wpList_nil ?_
        go_upto_region 29 with fail
        refine wp_region_lit ?_
        refine vt _ (ex_move rfl (ev s5 rfl)) hz (fun Ydj zz kk s127 => ?_)
        replace s0 := ku s0
        replace s3 := ku s3
        replace s4 := ku s4
        replace s5 := ku s5
        replace s6 := ku s6
        replace s12 := ku s12
        replace hz := zz
        clear kk zz
        refine vcallP (want_none rfl) (ex_call rfl (by simp only [List.map_toArray, List.map_cons, List.map_nil, (ev s127 rfl), evc] <;> rfl) rfl) (nf_take hN10 (by omega)) rfl hz (by decide) ?_
        rintro e w11 ⟨⟨v29, rfl⟩, hN11, hU11⟩
        refine ⟨_, rfl, fun Ydk zz kk s128 => ?_⟩
        replace s0 := ku s0
        replace s3 := ku s3
        replace s4 := ku s4
        replace s5 := ku s5
        replace s6 := ku s6
        replace s12 := ku s12
        replace hz := zz
        clear kk zz s127 Ydj
        clear s128
        refine wpList_nil ?_
        go_upto_region 30 with fail
        refine wp_region_lit ?_
        refine vt _ (ex_move rfl (ev s5 rfl)) hz (fun Ydl zz kk s129 => ?_)
        replace s0 := ku s0
        replace s3 := ku s3
        replace s4 := ku s4
        replace s5 := ku s5
        replace s6 := ku s6
        replace s12 := ku s12
        replace hz := zz
        clear kk zz
        refine vcallP (want_none rfl) (ex_call rfl (by simp only [List.map_toArray, List.map_cons, List.map_nil, (ev s129 rfl), evc] <;> rfl) rfl) (nf_clear hN11) rfl hz (by decide) ?_
        rintro e w12 ⟨rfl, hN12, hU12⟩
        refine ⟨_, rfl, fun Ydm zz kk s130 => ?_⟩
        replace s0 := ku s0
        replace s3 := ku s3
        replace s4 := ku s4
        replace s5 := ku s5
        replace s6 := ku s6
        replace s12 := ku s12
        replace hz := zz
        clear kk zz s129 Ydl
        clear s130
        refine wpList_nil ?_
        obtain ⟨pa, pc, hFZ⟩ := FZ7.make (w := w) (w4 := w4) (w6 := w6) (wr := wr) HC3.out (Nat.lt_succ_self _) HS.out HPL.out HJ.out.upd HBW.out (by omega) HB46.out (Nat.le_refl _) HW4.out HBL.out (by have := HBb.out; omega) (by have := HBb.out; omega) (by have := HBb.out; omega) (by omega) h1 b8 ck8 (((HI.out.2.trans hU10).trans hU11).trans hU12) hN12
        have HZ := hide hFZ
        have HSP := hide h1.sp
        have HPK := hide HS.out.pk
        clear hFZ HI hN10 hU10 hN11 hU11 hN12 hU12 h1 b8 ck8 hk8 HC3 HS HJ HBW HB46 HW4 HBL HCS
        obtain ⟨w13, hw13⟩ : ∃ v, v = w12.alloc (.cells #[.int .i64 0] 3) := ⟨_, rfl⟩
        have b13 : Below w12.heap.size w12 w13 := by rw [hw13]; exact (Below.refl _ _).alloc (Nat.le_refl _) _
        have c13 : w13.cell? ⟨w12.heap.size, 0, none⟩ = some (.int .i64 0) := by rw [hw13]; go_simp
        have f13 : w13.frozen? ⟨w12.heap.size, 0, none⟩ = false := by rw [hw13]; go_simp
        go_upto_region 31 with fail
        refine wp_region_lit ?_
        refine vw (.pointer (some ⟨w12.heap.size, 0, none⟩)) w13 (want_none rfl) (ex_al rfl (by rw [hw13]; exact alI7 _)) rfl hz (by decide) (fun Ydn zz kk s14 => ?_)
        replace s0 := ku s0
        replace s3 := ku s3
        replace s4 := ku s4
        replace s5 := ku s5
        replace s6 := ku s6
        replace s12 := ku s12
        replace hz := zz
        clear kk zz
        refine vs (w13.setCell ⟨w12.heap.size, 0, none⟩ (.int .i64 0)) (want_none rfl) (ex_st rfl (ev s14 rfl) rfl (stI7 c13 f13 _)) rfl ?_
        have HT0 : Hid (TI7 w12 0 w12.heap.size [] [] (w13.setCell ⟨w12.heap.size, 0, none⟩ (.int .i64 0))) := ⟨by omega, Nat.le_refl _, setc_eq c13, setf f13, b13.setCell (Nat.le_refl _) _, rfl, by simp⟩
        obtain ⟨w14, hw14⟩ : ∃ v, v = (w13.setCell ⟨w12.heap.size, 0, none⟩ (.int .i64 0)) := ⟨_, rfl⟩
        rw [← hw14] at HT0 ⊢
        clear hw14 hw13 c13 f13 b13
        refine wpList_nil ?_
        go_upto_region 32 with fail
        refine (wpIn_wide (n := 6)).1 ?_
        refine wpIn_loop_k7 (fun a' W => ∃ (t pt : Nat) (rs : List Nat) (ds : List Deferred) (T : Array Value), a' = ⟨T, ds⟩ ∧ T.size = 183 ∧ T[0]? = some (gw true (.slice a L.length c)) ∧ T[3]? = some (gw true (.pointer (some ⟨w.heap.size, 0, none⟩))) ∧ T[4]? = some (gw true (.pointer (some ⟨w.heap.size + 1, 0, none⟩))) ∧ T[5]? = some (gw true (.pointer (some ⟨b, 0, none⟩))) ∧ T[6]? = some (gw true (.pointer (some ⟨w4.heap.size, 0, none⟩))) ∧ T[12]? = some (gw true (.func (.func 83) #[] #[.pointer (some ⟨wr.heap.size, 0, none⟩)])) ∧ T[14]? = some (gw true (.pointer (some ⟨pt, 0, none⟩))) ∧ Hid (TI7 w12 t pt rs ds W)) tm7 ⟨0, _, _, _, _, rfl, hz, s0, s3, s4, s5, s6, s12, s14, HT0⟩ ?_
        clear hz s0 s3 s4 s5 s6 s12 s14 HT0
        rintro a0 W ⟨t, pt, rs, ds, T6, rfl, hz, s0, s3, s4, s5, s6, s12, s14, HTI⟩ KQ HK
        refine wpIn_wide.2 ?_
        have tc := HTI.out.cell
        have hpt := HTI.out.pl
        have hptl : pt < W.heap.size := World.block_lt_of_cell? _ _ tc
        have hz12 := HTI.out.bel.size
        have hm6 : tm7 ⟨T6, ds⟩ W = 2 - t := tm7_eq s14 tc
        have HK2 := HK.out
        rw [hm6] at HK2
        clear HK hm6
        have HK := hide HK2
        clear HK2
        by_cases ht : t < 2
        · have d2 : decide ((t : Int) < 2) = true := decide_eq_true (by omega)
          go_upto_region 32 with fail
          refine wp_region_lit ?_
          refine vt (.int .i64 (t : Int)) (ex_ld rfl (ev s14 rfl) (ldI7 tc)) hz (fun Ydo zz kk s131 => ?_)
          replace s0 := ku s0
          replace s3 := ku s3
          replace s4 := ku s4
          replace s5 := ku s5
          replace s6 := ku s6
          replace s12 := ku s12
          replace s14 := ku s14
          replace hz := zz
          clear kk zz
          refine vt (.bool true) (ex_bin rfl (ev s131 rfl) rfl (lssD7 _ _ _ _ true d2 _)) hz (fun Ydp zz kk s132 => ?_)
          replace s0 := ku s0
          replace s3 := ku s3
          replace s4 := ku s4
          replace s5 := ku s5
          replace s6 := ku s6
          replace s12 := ku s12
          replace s14 := ku s14
          replace hz := zz
          clear kk zz s131 Ydo
          refine wpList_nil ?_
          go_upto_region 34 with fail
          refine wp_cond_true ((ev s132 rfl).trans rfl) ?_
          clear s132 d2
          obtain ⟨wz, hwz⟩ : ∃ v, v = W.alloc (.cells #[.int .i64 0] 3) := ⟨_, rfl⟩
          have bz : Below W.heap.size W wz := by rw [hwz]; exact (Below.refl _ _).alloc (Nat.le_refl _) _
          have cz : wz.cell? ⟨W.heap.size, 0, none⟩ = some (.int .i64 0) := by rw [hwz]; go_simp
          have fz : wz.frozen? ⟨W.heap.size, 0, none⟩ = false := by rw [hwz]; go_simp
          have zz1 : wz.heap.size = W.heap.size + 1 := by rw [hwz]; simp
          go_upto_region 34 with fail
          refine wp_region_lit ?_
          refine vw (.pointer (some ⟨W.heap.size, 0, none⟩)) wz (want_none rfl) (ex_al rfl (by rw [hwz]; exact alI7 _)) rfl hz (by decide) (fun Ydq zz kk s15 => ?_)
          replace s0 := ku s0
          replace s3 := ku s3
          replace s4 := ku s4
          replace s5 := ku s5
          replace s6 := ku s6
          replace s12 := ku s12
          replace s14 := ku s14
          replace hz := zz
          clear kk zz
          refine vs (wz.setCell ⟨W.heap.size, 0, none⟩ (.int .i64 0)) (want_none rfl) (ex_st rfl (ev s15 rfl) rfl (stI7 cz fz _)) rfl ?_
          have eR0 : (wz.setCell ⟨W.heap.size, 0, none⟩ (.int .i64 0)).cell? ⟨W.heap.size, 0, none⟩ = some (.int .i64 ((0 : Nat) : Int)) := setc_eq cz
          have eR1 : (wz.setCell ⟨W.heap.size, 0, none⟩ (.int .i64 0)).frozen? ⟨W.heap.size, 0, none⟩ = false := setf fz
          have bR : Below W.heap.size W (wz.setCell ⟨W.heap.size, 0, none⟩ (.int .i64 0)) := bz.setCell (Nat.le_refl _) _
          have zR : (wz.setCell ⟨W.heap.size, 0, none⟩ (.int .i64 0)).heap.size = W.heap.size + 1 := by rw [World.size_setCell]; exact zz1
          obtain ⟨wR, hwR⟩ : ∃ v, v = (wz.setCell ⟨W.heap.size, 0, none⟩ (.int .i64 0)) := ⟨_, rfl⟩
          rw [← hwR] at eR0 eR1 bR zR ⊢
          clear hwR hwz bz cz fz zz1
          have eR : EI7 wR W.heap.size 0 wR := ⟨Upd.refl _ _, eR0, eR1⟩
          clear eR0 eR1
          have tR := cellB7 tc bR
          have tF := (bR.frozen (p := ⟨pt, 0, none⟩) hptl).trans HTI.out.fz
          have bW : Below w12.heap.size w12 wR := HTI.out.bel.trans (bR.mono hz12)
          have HZR := hide (HZ.out.on bW)
          have HTR := hide (And.intro tR tF)
          clear tR tF
          refine wpList_nil ?_
          go_upto_region 35 with fail
          refine wp_region_lit ?_
          refine vt _ (ex_move rfl (ev s12 rfl)) hz (fun Ydr zz kk s135 => ?_)
          replace s0 := ku s0
          replace s3 := ku s3
          replace s4 := ku s4
          replace s5 := ku s5
          replace s6 := ku s6
          replace s12 := ku s12
          replace s14 := ku s14
          replace s15 := ku s15
          replace hz := zz
          clear kk zz
          refine wpList_nil ?_
          go_upto_region 36 with fail
          refine (wpIn_wide (n := 6)).1 ?_
          refine over_itr (n := 6) (by omega) (each14_in 5 (by omega) wr.heap.size pa pc P HSP.out HZR.out.pool.max) (enters_of Try.func83 (by kernel_rfl) rfl) (ev s135 rfl) (fun i vs W0 W h => by obtain ⟨x, p, _, rfl, _, _, hb⟩ := h; exact ⟨rfl, hb⟩) (EI7 wR W.heap.size) (fun cd i V => cd = .exit 10 ∧ t = 0 ∧ EI7 wR W.heap.size (i + 1) V)
            (fun i V V' row h hg hr => h.row hg (fun r e => by have := hr r e; omega))
            (fun cd i V V' h hg => ⟨h.1, h.2.1, h.2.2.row hg (fun r e => by cases e; omega)⟩)
            (fun i V h => by
              have bV : Below W.heap.size W V := bR.trans (h.upd.below (by omega) (fun q e => by omega))
              have h2 := HZ.out.on (HTI.out.bel.trans (bV.mono hz12))
              exact ⟨h2.pool, h2.ck⟩)
            eR ?round ?done ?stop
          case round =>
            intro i vs W0 V hi ei0 ei hE hlw
            obtain ⟨x, p, hp, rfl, hx, hxo, hbE⟩ := hE
            refine gene7 (fold7 _ _ _ _ _) ?_
            refine gen7 (fun T => T.size = 183 ∧ T[0]? = some (gw true (.slice a L.length c)) ∧ T[3]? = some (gw true (.pointer (some ⟨w.heap.size, 0, none⟩))) ∧ T[4]? = some (gw true (.pointer (some ⟨w.heap.size + 1, 0, none⟩))) ∧ T[5]? = some (gw true (.pointer (some ⟨b, 0, none⟩))) ∧ T[6]? = some (gw true (.pointer (some ⟨w4.heap.size, 0, none⟩))) ∧ T[12]? = some (gw true (.func (.func 83) #[] #[.pointer (some ⟨wr.heap.size, 0, none⟩)])) ∧ T[14]? = some (gw true (.pointer (some ⟨pt, 0, none⟩))) ∧ T[15]? = some (gw true (.pointer (some ⟨W.heap.size, 0, none⟩))) ∧ T[136]? = some (gw true (.int .i64 (i : Int))) ∧ T[137]? = some (gw true (x.val))) ?_ ?_
            · obtain ⟨h3, h4, h5, h6⟩ := two7 (p := 136) (q := 137) (x := .int .i64 (i : Int)) (y := x.val) hz (by decide) (by decide) (by decide)
              exact ⟨h3, (h6 0 (by decide) (by decide)).trans s0, (h6 3 (by decide) (by decide)).trans s3, (h6 4 (by decide) (by decide)).trans s4, (h6 5 (by decide) (by decide)).trans s5, (h6 6 (by decide) (by decide)).trans s6, (h6 12 (by decide) (by decide)).trans s12, (h6 14 (by decide) (by decide)).trans s14, (h6 15 (by decide) (by decide)).trans s15, h4, h5⟩
            clear hz s0 s3 s4 s5 s6 s12 s14 s15 s135
            rintro T8 ⟨hz, s0, s3, s4, s5, s6, s12, s14, s15, s136, s137⟩
            gi_upto_region 36 with fail
            refine round_lit7 rfl (by rintro ⟨_, _, h⟩; exact h) ?_
            refine vt _ (ex_assign rfl (ev s136 rfl)) hz (fun Yds zz kk s16 => ?_)
            replace s0 := ku s0
            replace s3 := ku s3
            replace s4 := ku s4
            replace s5 := ku s5
            replace s6 := ku s6
            replace s12 := ku s12
            replace s14 := ku s14
            replace s15 := ku s15
            replace s137 := ku s137
            replace hz := zz
            clear kk zz s136
            refine wpList_nil ?_
            obtain ⟨Va, hVa⟩ : ∃ v, v = V.alloc (.cells #[.int .i64 0, .int .i64 0, .slice none 0 0] 46) := ⟨_, rfl⟩
            have hbA : Below V.heap.size V Va := by rw [hVa]; exact (Below.refl _ _).alloc (Nat.le_refl _) _
            have BN : B3 Va V.heap.size (.int .i64 0) (.int .i64 0) (.slice none 0 0) := by rw [hVa]; exact B3.new _ _ _ _ _
            gi_upto_region 37 with fail
            refine round_lit7 rfl (by rintro ⟨_, _, h⟩; exact h) ?_
            refine vw (.pointer (some ⟨V.heap.size, 0, none⟩)) Va (want_none rfl) (ex_al rfl (by rw [hVa]; exact alP _)) rfl hz (by decide) (fun Ydt zz kk s17 => ?_)
            replace s0 := ku s0
            replace s3 := ku s3
            replace s4 := ku s4
            replace s5 := ku s5
            replace s6 := ku s6
            replace s12 := ku s12
            replace s14 := ku s14
            replace s15 := ku s15
            replace s16 := ku s16
            replace s137 := ku s137
            replace hz := zz
            clear kk zz
            refine vs (put3 Va V.heap.size x) (want_none rfl) (ex_st rfl (ev s17 rfl) (ev s137 rfl) (stP BN x)) rfl ?_
            have SP := BN.put3 x
            obtain ⟨Vb, hVb⟩ : ∃ v, v = put3 Va V.heap.size x := ⟨_, rfl⟩
            rw [← hVb] at SP ⊢
            clear hVb hVa
            have hbT : Below V.heap.size V Vb := hbA.trans (SP.2.below hbA.size (fun k hk => by omega))
            have cx0 := SP.1.c3
            clear hbA BN SP
            clear s137
            refine wpList_nil ?_
            have hzE := hbE.size
            have hzT := hbT.size
            refine ⟨⟨ei.on hbT, fun k hk => hbT.block k (by omega)⟩, ?_⟩
            intro V2 ei2 hg2 hrr
            have u2 := upd_of_grown7 hg2
            have cx := cx0.upd u2 (by show ¬ V.heap.size = wR.heap.size + 1; omega)
            have xin := ((hxo.grow hbT).upd8 u2 (fun k hk hl => by omega)).sl
            have hz2 := u2.size
            clear hg2 hrr u2 cx0 hxo hbT hbE ei ei0
            have bV : Below W.heap.size W V2 := bR.trans (ei2.upd.below (by omega) (fun q e => by omega))
            have FZ2 := HZ.out.on (HTI.out.bel.trans (bV.mono hz12))
            have hiL : i < L.length := by rw [← HPL.out]; exact hi
            obtain ⟨qw, ow, u, rfl, hu, cu⟩ := was_at7 FZ2.was hiL
            have hpk : x.pk = u.pk := by
              have h2 : (K.map Ap.pk)[i]? = some u.pk := by rw [List.getElem?_map, hu]; rfl
              rw [HPK.out, hp] at h2
              rw [hx]
              exact Option.some.inj h2
            have uin := FZ2.ins u (List.mem_of_getElem? hu)
            have d5 : decide ((L.length : Int) ≤ (i : Int)) = false := decide_eq_false (by omega)
            have hS : Below V2.heap.size V2 V2.drew := (Below.refl _ _).drew
            gi_upto_region 38 with fail
            refine round_held7 (fun v => Below V2.heap.size V2 v) (by kernel_rfl) rfl (by rintro ⟨_, _, h⟩; exact h) ?_
            refine vh_take 0 true (.int .i64 (i : Int)) rfl (by kernel_rfl) (by kernel_rfl) (by kernel_rfl) (want_none rfl) (fun hc v hv => ex_ld rfl (ev s15 rfl) (ldI7 (cellB7 ei2.cell hv))) rfl hz (by decide) hS (fun Ydu zz kk s138 => ?_)
            replace s3 := ku s3
            replace s6 := ku s6
            replace s14 := ku s14
            replace s15 := ku s15
            replace s16 := ku s16
            replace s17 := ku s17
            replace hz := zz
            clear kk zz s0 s4 s5 s12
            refine vh_take 1 true (.slice (some ⟨qw, ow, none⟩) L.length wc) rfl (by kernel_rfl) (by kernel_rfl) (by kernel_rfl) (want_none rfl) (fun hc v hv => ex_ld rfl (ev s6 rfl) (ldS7 (cellB7 FZ2.c6 hv))) rfl hz (by decide) hS (fun Ydv zz kk s139 => ?_)
            replace s3 := ku s3
            replace s6 := ku s6
            replace s14 := ku s14
            replace s15 := ku s15
            replace s16 := ku s16
            replace s17 := ku s17
            replace s138 := ku s138
            replace hz := zz
            clear kk zz Ydu
            refine vh_take 2 true (.int .i64 (L.length : Int)) rfl (by kernel_rfl) (by kernel_rfl) (by kernel_rfl) (want_none rfl) (fun hc v hv => ex_lenP rfl rfl (ev s139 rfl)) rfl hz (by decide) hS (fun Ydw zz kk s140 => ?_)
            replace s3 := ku s3
            replace s6 := ku s6
            replace s14 := ku s14
            replace s15 := ku s15
            replace s16 := ku s16
            replace s17 := ku s17
            replace s138 := ku s138
            replace hz := zz
            clear kk zz s139 Ydv
            refine vh_take 3 true (.bool false) rfl (by kernel_rfl) (by kernel_rfl) (by kernel_rfl) (want_none rfl) (fun hc v hv => ex_bin rfl (ev s138 rfl) (ev s140 rfl) (geqD7 _ _ _ _ false d5 _)) rfl hz (by decide) hS (fun Ydx zz kk s141 => ?_)
            replace s3 := ku s3
            replace s6 := ku s6
            replace s14 := ku s14
            replace s15 := ku s15
            replace s16 := ku s16
            replace s17 := ku s17
            replace hz := zz
            clear kk zz s138 s140 Ydw
            refine vh_take 4 true (.bool false) rfl (by kernel_rfl) (by kernel_rfl) (by kernel_rfl) (want_none rfl) (fun hc v hv => ex_move rfl (ev s141 rfl)) rfl hz (by decide) hS (fun Ydy zz kk s142 => ?_)
            replace s3 := ku s3
            replace s6 := ku s6
            replace s14 := ku s14
            replace s15 := ku s15
            replace s16 := ku s16
            replace s17 := ku s17
            replace hz := zz
            clear kk zz s141 Ydx
            refine vh_take 5 true (.int .i64 (i : Int)) rfl (by kernel_rfl) (by kernel_rfl) (by kernel_rfl) (want_k rfl rfl s142) (fun hc v hv => ex_move rfl (ev s16 rfl)) rfl hz (by decide) hS (fun Ydz zz kk s143 => ?_)
            replace s3 := ku s3
            replace s6 := ku s6
            replace s14 := ku s14
            replace s15 := ku s15
            replace s17 := ku s17
            replace s142 := ku s142
            replace hz := zz
            clear kk zz s16 Ydy
            refine vh_take 6 true (.int .i64 (i : Int)) rfl (by kernel_rfl) (by kernel_rfl) (by kernel_rfl) (want_k rfl rfl s142) (fun hc v hv => ex_ld rfl (ev s15 rfl) (ldI7 (cellB7 ei2.cell hv))) rfl hz (by decide) hS (fun Yd0 zz kk s144 => ?_)
            replace s3 := ku s3
            replace s6 := ku s6
            replace s14 := ku s14
            replace s15 := ku s15
            replace s17 := ku s17
            replace s142 := ku s142
            replace s143 := ku s143
            replace hz := zz
            clear kk zz Ydz
            refine vh_take 7 true (.bool false) rfl (by kernel_rfl) (by kernel_rfl) (by kernel_rfl) (want_k rfl rfl s142) (fun hc v hv => ex_bin rfl (ev s143 rfl) (ev s144 rfl) (neqI _ _ _ _)) rfl hz (by decide) hS (fun Yd1 zz kk s145 => ?_)
            replace s3 := ku s3
            replace s6 := ku s6
            replace s14 := ku s14
            replace s15 := ku s15
            replace s17 := ku s17
            replace s142 := ku s142
            replace hz := zz
            clear kk zz s143 s144 Yd0
            refine vh_take 8 true (.bool false) rfl (by kernel_rfl) (by kernel_rfl) (by kernel_rfl) (want_none rfl) (fun hc v hv => ex_or rfl s142 s145 rfl) rfl hz (by decide) hS (fun Yd2 zz kk s146 => ?_)
            replace s3 := ku s3
            replace s6 := ku s6
            replace s14 := ku s14
            replace s15 := ku s15
            replace s17 := ku s17
            replace hz := zz
            clear kk zz s142 s145 Yd1
            refine vh_take 9 true (.bool false) rfl (by kernel_rfl) (by kernel_rfl) (by kernel_rfl) (want_none rfl) (fun hc v hv => ex_move rfl (ev s146 rfl)) rfl hz (by decide) hS (fun Yd3 zz kk s147 => ?_)
            replace s3 := ku s3
            replace s6 := ku s6
            replace s14 := ku s14
            replace s15 := ku s15
            replace s17 := ku s17
            replace hz := zz
            clear kk zz s146 Yd2
            refine vh_take 10 true (x.val) rfl (by kernel_rfl) (by kernel_rfl) (by kernel_rfl) (want_k rfl rfl s147) (fun hc v hv => ex_ld rfl (ev s17 rfl) ((cx.bel hv).ld)) rfl hz (by decide) hS (fun Yd4 zz kk s148 => ?_)
            replace s3 := ku s3
            replace s6 := ku s6
            replace s14 := ku s14
            replace s15 := ku s15
            replace s147 := ku s147
            replace hz := zz
            clear kk zz s17 Yd3
            refine vh_take 11 true (.slice (some ⟨qw, ow, none⟩) L.length wc) rfl (by kernel_rfl) (by kernel_rfl) (by kernel_rfl) (want_k rfl rfl s147) (fun hc v hv => ex_ld rfl (ev s6 rfl) (ldS7 (cellB7 FZ2.c6 hv))) rfl hz (by decide) hS (fun Yd5 zz kk s149 => ?_)
            replace s3 := ku s3
            replace s14 := ku s14
            replace s15 := ku s15
            replace s147 := ku s147
            replace s148 := ku s148
            replace hz := zz
            clear kk zz s6 Yd4
            refine vh_take 12 true (.int .i64 (i : Int)) rfl (by kernel_rfl) (by kernel_rfl) (by kernel_rfl) (want_k rfl rfl s147) (fun hc v hv => ex_ld rfl (ev s15 rfl) (ldI7 (cellB7 ei2.cell hv))) rfl hz (by decide) hS (fun Yd6 zz kk s150 => ?_)
            replace s3 := ku s3
            replace s14 := ku s14
            replace s15 := ku s15
            replace s147 := ku s147
            replace s148 := ku s148
            replace s149 := ku s149
            replace hz := zz
            clear kk zz Yd5
            refine vh_take 13 true (.pointer (some ⟨qw, ow + i * 3, none⟩)) rfl (by kernel_rfl) (by kernel_rfl) (by kernel_rfl) (want_k rfl rfl s147) (fun hc v hv => ex_ix rfl (ev s149 rfl) (ev s150 rfl) (ixP qw ow L.length wc i hiL _)) rfl hz (by decide) hS (fun Yd7 zz kk s151 => ?_)
            replace s3 := ku s3
            replace s14 := ku s14
            replace s15 := ku s15
            replace s147 := ku s147
            replace s148 := ku s148
            replace hz := zz
            clear kk zz s149 s150 Yd6
            refine vh_take 14 true (u.val) rfl (by kernel_rfl) (by kernel_rfl) (by kernel_rfl) (want_k rfl rfl s147) (fun hc v hv => ex_ld rfl (ev s151 rfl) ((cu.bel hv).ld)) rfl hz (by decide) hS (fun Yd8 zz kk s152 => ?_)
            replace s3 := ku s3
            replace s14 := ku s14
            replace s15 := ku s15
            replace s147 := ku s147
            replace s148 := ku s148
            replace hz := zz
            clear kk zz s151 Yd7
            refine vh_call 15 rfl (by kernel_rfl) (want_k rfl rfl s147) (ex_call rfl (by simp only [List.map_toArray, List.map_cons, List.map_nil, (ev s148 rfl), (ev s152 rfl), evc] <;> rfl) rfl) (same14_eq x u V2.drew (SlY.later xin hS) (SlY.later uin hS) hpk) rfl hz (by decide) ?_
            rintro e V3 ⟨rfl, hb3⟩; have hS := hS.trans (hb3.mono hS.size)
            refine ⟨_, rfl, hS, fun Yd9 zz kk s153 => ?_⟩
            clear hb3
            replace s3 := ku s3
            replace s14 := ku s14
            replace s15 := ku s15
            replace s147 := ku s147
            replace hz := zz
            clear kk zz s148 s152 Yd8
            refine vh_take 16 true (.bool false) rfl (by kernel_rfl) (by kernel_rfl) (by kernel_rfl) (want_k rfl rfl s147) (fun hc v hv => ex_not rfl (ev s153 rfl)) rfl hz (by decide) hS (fun Yea zz kk s154 => ?_)
            replace s3 := ku s3
            replace s14 := ku s14
            replace s15 := ku s15
            replace s147 := ku s147
            replace hz := zz
            clear kk zz s153 Yd9
            refine vh_take 17 true (.bool false) rfl (by kernel_rfl) (by kernel_rfl) (by kernel_rfl) (want_none rfl) (fun hc v hv => ex_or rfl s147 s154 rfl) rfl hz (by decide) hS (fun Yeb zz kk s155 => ?_)
            replace s3 := ku s3
            replace s14 := ku s14
            replace s15 := ku s15
            replace hz := zz
            clear kk zz s147 s154 Yea
            refine vh_done (by kernel_rfl) ?_
            gi_upto_region 40 with fail
            refine wpIn_cond_false ((ev s155 rfl).trans rfl) ?_
            clear s155 d5 uin xin hpk cu cx
            have ei3 := ei2.on hS
            gi_upto_region 40 with fail
            refine round_lit7 rfl (by rintro ⟨_, _, h⟩; exact h) ?_
            refine vt (.int .i64 (i : Int)) (ex_ld rfl (ev s15 rfl) (ldI7 ei3.cell)) hz (fun Yec zz kk s156 => ?_)
            replace s3 := ku s3
            replace s14 := ku s14
            replace s15 := ku s15
            replace hz := zz
            clear kk zz
            refine vt (.int .i64 ((i + 1 : Nat) : Int)) (ex_bin rfl (ev s156 rfl) rfl (addD7 _ _ _ ((i + 1 : Nat) : Int) (by rw [IntKind.wrap_i64]; omega) _)) hz (fun Yed zz kk s157 => ?_)
            replace s3 := ku s3
            replace s14 := ku s14
            replace s15 := ku s15
            replace hz := zz
            clear kk zz s156 Yec
            refine vs (V3.setCell ⟨W.heap.size, 0, none⟩ (.int .i64 ((i + 1 : Nat) : Int))) (want_none rfl) (ex_st rfl (ev s15 rfl) (ev s157 rfl) (stI7 ei3.cell ei3.fz _)) rfl ?_
            have ei4 := ei3.set (v := ((i + 1 : Nat) : Int)) rfl
            have keep : ∀ k, (k = wR.heap.size ∨ k = wR.heap.size + 1) → (V3.setCell ⟨W.heap.size, 0, none⟩ (.int .i64 ((i + 1 : Nat) : Int))).heap[k]? = V2.heap[k]? := fun k hk => (Below.heap_setCell _ _ _ _ (by show k ≠ W.heap.size; omega)).trans (hS.block k (by omega))
            obtain ⟨V4, hV4⟩ : ∃ v, v = (V3.setCell ⟨W.heap.size, 0, none⟩ (.int .i64 ((i + 1 : Nat) : Int))) := ⟨_, rfl⟩
            rw [← hV4] at ei4 keep ⊢
            clear hV4 ei3 ei2 hS FZ2
            clear s157
            refine wpList_nil ?_
            have bV4 : Below W.heap.size W V4 := bR.trans (ei4.upd.below (by omega) (fun q e => by omega))
            have FZ4 := HZ.out.on (HTI.out.bel.trans (bV4.mono hz12))
            have tc4 := cellB7 tc bV4
            gi_upto_region 41 with fail
            refine round_lit7 rfl (by rintro ⟨_, _, h⟩; exact h) ?_
            refine vt (.int .i64 (t : Int)) (ex_ld rfl (ev s14 rfl) (ldI7 tc4)) hz (fun Yee zz kk s158 => ?_)
            replace s3 := ku s3
            replace s15 := ku s15
            replace hz := zz
            clear kk zz s14
            refine vt (.bool (decide ((t : Int) = 0))) (ex_bin rfl (ev s158 rfl) rfl (eqlC _ _ _ _ _)) hz (fun Yef zz kk s159 => ?_)
            replace s3 := ku s3
            replace s15 := ku s15
            replace hz := zz
            clear kk zz s158 Yee
            refine vt _ (ex_move rfl (ev s159 rfl)) hz (fun Yeg zz kk s160 => ?_)
            replace s3 := ku s3
            replace s15 := ku s15
            replace hz := zz
            clear kk zz s159 Yef
            refine vl _ (.int .i64 ((i + 1 : Nat) : Int)) (want_g rfl rfl s160) (fun hc => ex_ld rfl (ev s15 rfl) (ldI7 ei4.cell)) rfl hz (by decide) (fun Yeh zz kk s161 => ?_)
            replace s3 := ku s3
            replace s160 := ku s160
            replace hz := zz
            clear kk zz s15 Yeg
            refine vl _ (.int .i64 stop) (want_g rfl rfl s160) (fun hc => ex_ld rfl (ev s3 rfl) (ldI7 FZ4.c3)) rfl hz (by decide) (fun Yei zz kk s162 => ?_)
            replace s160 := ku s160
            replace s161 := ku s161
            replace hz := zz
            clear kk zz s3 Yeh
            refine vl _ (.bool (decide (stop ≤ ((i + 1 : Nat) : Int)))) (want_g rfl rfl s160) (fun hc => ex_bin rfl (ev s161 hc) (ev s162 hc) (geqC _ _ _ _ _)) rfl hz (by decide) (fun Yej zz kk s163 => ?_)
            replace s160 := ku s160
            replace hz := zz
            clear kk zz s161 s162 Yei
            refine vt (.bool ((decide ((t : Int) = 0)) && (decide (stop ≤ ((i + 1 : Nat) : Int))))) (ex_and rfl s160 s163 rfl) hz (fun Yek zz kk s164 => ?_)
            replace hz := zz
            clear kk zz s160 s163 Yej
            refine wpList_nil ?_
            gi_upto_region 42 with fail
            cases e164 : ((decide ((t : Int) = 0)) && (decide (stop ≤ ((i + 1 : Nat) : Int))))
            · refine wpIn_cond_false ((ev s164 rfl).trans (congrArg Value.bool e164)) ?_
              refine wpIn_skip ?_
              exact ⟨keep, ei4⟩
            · refine wpIn_cond_true ((ev s164 rfl).trans (congrArg Value.bool e164)) ?_
              refine wpIn_exit ?_
              have ht0 : t = 0 := by
                have h9 := and_l e164
                have h8 : (t : Int) = 0 := of_decide_eq_true h9
                omega
              exact ⟨keep, rfl, ht0, ei4⟩
          case done =>
            intro V ei hK
            have bV : Below W.heap.size W V := bR.trans (ei.upd.below (by omega) (fun q e => by omega))
            have FV := HZ.out.on (HTI.out.bel.trans (bV.mono hz12))
            have tcV := cellB7 tc bV
            have hzV := ei.upd.size
            clear s135
            go_upto_region 42 with fail
            refine wp_region_lit ?_
            refine vt (.int .i64 (t : Int)) (ex_ld rfl (ev s14 rfl) (ldI7 tcV)) hz (fun Yel zz kk s165 => ?_)
            replace s0 := ku s0
            replace s3 := ku s3
            replace s4 := ku s4
            replace s5 := ku s5
            replace s6 := ku s6
            replace s12 := ku s12
            replace s14 := ku s14
            replace s15 := ku s15
            replace hz := zz
            clear kk zz
            refine vt (.bool (decide ((t : Int) = 1))) (ex_bin rfl (ev s165 rfl) rfl (eqlC _ _ _ _ _)) hz (fun Yem zz kk s166 => ?_)
            replace s0 := ku s0
            replace s3 := ku s3
            replace s4 := ku s4
            replace s5 := ku s5
            replace s6 := ku s6
            replace s12 := ku s12
            replace s14 := ku s14
            replace s15 := ku s15
            replace hz := zz
            clear kk zz s165 Yel
            refine vt _ (ex_move rfl (ev s166 rfl)) hz (fun Yen zz kk s167 => ?_)
            replace s0 := ku s0
            replace s3 := ku s3
            replace s4 := ku s4
            replace s5 := ku s5
            replace s6 := ku s6
            replace s12 := ku s12
            replace s14 := ku s14
            replace s15 := ku s15
            replace hz := zz
            clear kk zz s166 Yem
            refine vl _ (.int .i64 (P.length : Int)) (want_g rfl rfl s167) (fun hc => ex_ld rfl (ev s15 rfl) (ldI7 ei.cell)) rfl hz (by decide) (fun Yeo zz kk s168 => ?_)
            replace s0 := ku s0
            replace s3 := ku s3
            replace s4 := ku s4
            replace s5 := ku s5
            replace s6 := ku s6
            replace s12 := ku s12
            replace s14 := ku s14
            replace s167 := ku s167
            replace hz := zz
            clear kk zz s15 Yen
            refine vl _ (.slice wa L.length wc) (want_g rfl rfl s167) (fun hc => ex_ld rfl (ev s6 rfl) (ldS7 FV.c6)) rfl hz (by decide) (fun Yep zz kk s169 => ?_)
            replace s0 := ku s0
            replace s3 := ku s3
            replace s4 := ku s4
            replace s5 := ku s5
            replace s6 := ku s6
            replace s12 := ku s12
            replace s14 := ku s14
            replace s167 := ku s167
            replace s168 := ku s168
            replace hz := zz
            clear kk zz Yeo
            refine vl _ (.int .i64 (L.length : Int)) (want_g rfl rfl s167) (fun hc => ex_lenP rfl rfl (ev s169 hc)) rfl hz (by decide) (fun Yeq zz kk s170 => ?_)
            replace s0 := ku s0
            replace s3 := ku s3
            replace s4 := ku s4
            replace s5 := ku s5
            replace s6 := ku s6
            replace s12 := ku s12
            replace s14 := ku s14
            replace s167 := ku s167
            replace s168 := ku s168
            replace hz := zz
            clear kk zz s169 Yep
            refine vl _ (.bool false) (want_g rfl rfl s167) (fun hc => ex_bin rfl (ev s168 hc) (ev s170 hc) (neqD7 _ _ _ _ false (by rw [HPL.out]; simp) _)) rfl hz (by decide) (fun Yer zz kk s171 => ?_)
            replace s0 := ku s0
            replace s3 := ku s3
            replace s4 := ku s4
            replace s5 := ku s5
            replace s6 := ku s6
            replace s12 := ku s12
            replace s14 := ku s14
            replace s167 := ku s167
            replace hz := zz
            clear kk zz s168 s170 Yeq
            refine vt (.bool ((decide ((t : Int) = 1)) && false)) (ex_and rfl s167 s171 rfl) hz (fun Yes zz kk s172 => ?_)
            replace s0 := ku s0
            replace s3 := ku s3
            replace s4 := ku s4
            replace s5 := ku s5
            replace s6 := ku s6
            replace s12 := ku s12
            replace s14 := ku s14
            replace hz := zz
            clear kk zz s167 s171 Yer
            refine wpList_nil ?_
            have e172 : (.bool ((decide ((t : Int) = 1)) && false) : Value) = .bool false := by cases decide ((t : Int) = 1) <;> rfl
            go_upto_region 44 with fail
            refine wp_cond_false ((ev s172 rfl).trans e172) ?_
            clear s172 e172
            go_upto_region 44 with fail
            refine wp_region_lit ?_
            refine vt (.int .i64 (t : Int)) (ex_ld rfl (ev s14 rfl) (ldI7 tcV)) hz (fun Yet zz kk s173 => ?_)
            replace s0 := ku s0
            replace s3 := ku s3
            replace s4 := ku s4
            replace s5 := ku s5
            replace s6 := ku s6
            replace s12 := ku s12
            replace s14 := ku s14
            replace hz := zz
            clear kk zz
            refine wpList_nil ?_
            obtain ⟨Va, hVa⟩ : ∃ v, v = V.alloc (.cells #[.int .i64 0] 3) := ⟨_, rfl⟩
            have bA : Below V.heap.size V Va := by rw [hVa]; exact (Below.refl _ _).alloc (Nat.le_refl _) _
            have cA : Va.cell? ⟨V.heap.size, 0, none⟩ = some (.int .i64 0) := by rw [hVa]; go_simp
            have fA : Va.frozen? ⟨V.heap.size, 0, none⟩ = false := by rw [hVa]; go_simp
            go_upto_region 45 with fail
            refine wp_region_lit ?_
            refine vw (.pointer (some ⟨V.heap.size, 0, none⟩)) Va (want_none rfl) (ex_al rfl (by rw [hVa]; exact alI7 _)) rfl hz (by decide) (fun Yeu zz kk s14x => ?_)
            replace s0 := ku s0
            replace s3 := ku s3
            replace s4 := ku s4
            replace s5 := ku s5
            replace s6 := ku s6
            replace s12 := ku s12
            replace s173 := ku s173
            clear kk hz s14
            have hz := zz
            have s14 := s14x
            clear zz s14x
            refine vs (Va.setCell ⟨V.heap.size, 0, none⟩ (.int .i64 (t : Int))) (want_none rfl) (ex_st rfl (ev s14 rfl) (ev s173 rfl) (stI7 cA fA _)) rfl ?_
            have cB : (Va.setCell ⟨V.heap.size, 0, none⟩ (.int .i64 (t : Int))).cell? ⟨V.heap.size, 0, none⟩ = some (.int .i64 (t : Int)) := setc_eq cA
            have fB : (Va.setCell ⟨V.heap.size, 0, none⟩ (.int .i64 (t : Int))).frozen? ⟨V.heap.size, 0, none⟩ = false := setf fA
            have bB : Below V.heap.size V (Va.setCell ⟨V.heap.size, 0, none⟩ (.int .i64 (t : Int))) := bA.setCell (Nat.le_refl _) _
            obtain ⟨Vb, hVb⟩ : ∃ v, v = (Va.setCell ⟨V.heap.size, 0, none⟩ (.int .i64 (t : Int))) := ⟨_, rfl⟩
            rw [← hVb] at cB fB bB ⊢
            clear hVb hVa cA fA bA
            clear s173
            refine wpList_nil ?_
            go_upto_region 33 with fail
            refine wp_region_lit ?_
            refine vt (.int .i64 (t : Int)) (ex_ld rfl (ev s14 rfl) (ldI7 cB)) hz (fun Yev zz kk s133 => ?_)
            replace s0 := ku s0
            replace s3 := ku s3
            replace s4 := ku s4
            replace s5 := ku s5
            replace s6 := ku s6
            replace s12 := ku s12
            replace s14 := ku s14
            replace hz := zz
            clear kk zz
            refine vt (.int .i64 ((t + 1 : Nat) : Int)) (ex_bin rfl (ev s133 rfl) rfl (addD7 _ _ _ ((t + 1 : Nat) : Int) (by rw [IntKind.wrap_i64]; omega) _)) hz (fun Yew zz kk s134 => ?_)
            replace s0 := ku s0
            replace s3 := ku s3
            replace s4 := ku s4
            replace s5 := ku s5
            replace s6 := ku s6
            replace s12 := ku s12
            replace s14 := ku s14
            replace hz := zz
            clear kk zz s133 Yev
            refine vs (Vb.setCell ⟨V.heap.size, 0, none⟩ (.int .i64 ((t + 1 : Nat) : Int))) (want_none rfl) (ex_st rfl (ev s14 rfl) (ev s134 rfl) (stI7 cB fB _)) rfl ?_
            have cC : (Vb.setCell ⟨V.heap.size, 0, none⟩ (.int .i64 ((t + 1 : Nat) : Int))).cell? ⟨V.heap.size, 0, none⟩ = some (.int .i64 ((t + 1 : Nat) : Int)) := setc_eq cB
            have fC : (Vb.setCell ⟨V.heap.size, 0, none⟩ (.int .i64 ((t + 1 : Nat) : Int))).frozen? ⟨V.heap.size, 0, none⟩ = false := setf fB
            have bC : Below V.heap.size V (Vb.setCell ⟨V.heap.size, 0, none⟩ (.int .i64 ((t + 1 : Nat) : Int))) := bB.setCell (Nat.le_refl _) _
            obtain ⟨Vc, hVc⟩ : ∃ v, v = (Vb.setCell ⟨V.heap.size, 0, none⟩ (.int .i64 ((t + 1 : Nat) : Int))) := ⟨_, rfl⟩
            rw [← hVc] at cC fC bC ⊢
            clear hVc cB fB bB
            clear s134
            refine wpList_nil ?_
            refine HK.out _ _ ⟨t + 1, V.heap.size, wR.heap.size :: rs, _, _, rfl, hz, s0, s3, s4, s5, s6, s12, s14, ?_⟩ (by rw [tm7_eq s14 cC]; omega)
            have hin : ∀ r, r ∈ rs → r < W.heap.size := fun r hr => (Array.getElem?_eq_some_iff.1 (HTI.out.marks.at r hr)).1
            refine ⟨by omega, by omega, cC, fC, (HTI.out.bel.trans (bV.mono hz12)).trans (bC.mono (by omega)), ?_, ?_⟩
            · refine Marks.cons (HTI.out.marks.on (fun r hr e => ?_)) ?_ (fun h => by have := hin _ h; omega)
              · have hl := hin r hr
                exact (bC.block r (by omega)).trans ((bV.block r hl).trans e)
              · exact (bC.block _ (Array.getElem?_eq_some_iff.1 hK).1).trans hK
            · intro r hr
              rcases List.mem_cons.1 hr with rfl | hr
              · omega
              · exact HTI.out.low r hr
          case stop =>
            rintro cd i V hi ⟨rfl, ht0, ei⟩ hK
            have bV : Below W.heap.size W V := bR.trans (ei.upd.below (by omega) (fun q e => by omega))
            have FV := HZ.out.on (HTI.out.bel.trans (bV.mono hz12))
            have tcV := cellB7 tc bV
            have hzV := ei.upd.size
            refine wpIn_wide.2 ?_
            clear s135
            go_upto_region 42 with fail
            refine wp_region_lit ?_
            refine vt (.int .i64 (t : Int)) (ex_ld rfl (ev s14 rfl) (ldI7 tcV)) hz (fun Yex zz kk s165 => ?_)
            replace s0 := ku s0
            replace s3 := ku s3
            replace s4 := ku s4
            replace s5 := ku s5
            replace s6 := ku s6
            replace s12 := ku s12
            replace s14 := ku s14
            replace s15 := ku s15
            replace hz := zz
            clear kk zz
            refine vt (.bool (decide ((t : Int) = 1))) (ex_bin rfl (ev s165 rfl) rfl (eqlC _ _ _ _ _)) hz (fun Yey zz kk s166 => ?_)
            replace s0 := ku s0
            replace s3 := ku s3
            replace s4 := ku s4
            replace s5 := ku s5
            replace s6 := ku s6
            replace s12 := ku s12
            replace s14 := ku s14
            replace s15 := ku s15
            replace hz := zz
            clear kk zz s165 Yex
            refine vt _ (ex_move rfl (ev s166 rfl)) hz (fun Yez zz kk s167 => ?_)
            replace s0 := ku s0
            replace s3 := ku s3
            replace s4 := ku s4
            replace s5 := ku s5
            replace s6 := ku s6
            replace s12 := ku s12
            replace s14 := ku s14
            replace s15 := ku s15
            replace hz := zz
            clear kk zz s166 Yey
            refine vl _ (.int .i64 ((i + 1 : Nat) : Int)) (want_g rfl rfl s167) (fun hc => ex_ld rfl (ev s15 rfl) (ldI7 ei.cell)) rfl hz (by decide) (fun Ye0 zz kk s168 => ?_)
            replace s0 := ku s0
            replace s3 := ku s3
            replace s4 := ku s4
            replace s5 := ku s5
            replace s6 := ku s6
            replace s12 := ku s12
            replace s14 := ku s14
            replace s167 := ku s167
            replace hz := zz
            clear kk zz s15 Yez
            refine vl _ (.slice wa L.length wc) (want_g rfl rfl s167) (fun hc => ex_ld rfl (ev s6 rfl) (ldS7 FV.c6)) rfl hz (by decide) (fun Ye1 zz kk s169 => ?_)
            replace s0 := ku s0
            replace s3 := ku s3
            replace s4 := ku s4
            replace s5 := ku s5
            replace s6 := ku s6
            replace s12 := ku s12
            replace s14 := ku s14
            replace s167 := ku s167
            replace s168 := ku s168
            replace hz := zz
            clear kk zz Ye0
            refine vl _ (.int .i64 (L.length : Int)) (want_g rfl rfl s167) (fun hc => ex_lenP rfl rfl (ev s169 hc)) rfl hz (by decide) (fun Ye2 zz kk s170 => ?_)
            replace s0 := ku s0
            replace s3 := ku s3
            replace s4 := ku s4
            replace s5 := ku s5
            replace s6 := ku s6
            replace s12 := ku s12
            replace s14 := ku s14
            replace s167 := ku s167
            replace s168 := ku s168
            replace hz := zz
            clear kk zz s169 Ye1
            refine vl _ (.bool false) (want_g rfl rfl s167) (fun hc => ex_bin rfl (ev s168 hc) (ev s170 hc) (neqD7 _ _ _ _ false (by exfalso; have h9 : (t : Int) = 1 := (by simpa using hc); omega) _)) rfl hz (by decide) (fun Ye3 zz kk s171 => ?_)
            replace s0 := ku s0
            replace s3 := ku s3
            replace s4 := ku s4
            replace s5 := ku s5
            replace s6 := ku s6
            replace s12 := ku s12
            replace s14 := ku s14
            replace s167 := ku s167
            replace hz := zz
            clear kk zz s168 s170 Ye2
            refine vt (.bool ((decide ((t : Int) = 1)) && false)) (ex_and rfl s167 s171 rfl) hz (fun Ye4 zz kk s172 => ?_)
            replace s0 := ku s0
            replace s3 := ku s3
            replace s4 := ku s4
            replace s5 := ku s5
            replace s6 := ku s6
            replace s12 := ku s12
            replace s14 := ku s14
            replace hz := zz
            clear kk zz s167 s171 Ye3
            refine wpList_nil ?_
            have e172 : (.bool ((decide ((t : Int) = 1)) && false) : Value) = .bool false := by cases decide ((t : Int) = 1) <;> rfl
            go_upto_region 44 with fail
            refine wp_cond_false ((ev s172 rfl).trans e172) ?_
            clear s172 e172
            go_upto_region 44 with fail
            refine wp_region_lit ?_
            refine vt (.int .i64 (t : Int)) (ex_ld rfl (ev s14 rfl) (ldI7 tcV)) hz (fun Ye5 zz kk s173 => ?_)
            replace s0 := ku s0
            replace s3 := ku s3
            replace s4 := ku s4
            replace s5 := ku s5
            replace s6 := ku s6
            replace s12 := ku s12
            replace s14 := ku s14
            replace hz := zz
            clear kk zz
            refine wpList_nil ?_
            obtain ⟨Va, hVa⟩ : ∃ v, v = V.alloc (.cells #[.int .i64 0] 3) := ⟨_, rfl⟩
            have bA : Below V.heap.size V Va := by rw [hVa]; exact (Below.refl _ _).alloc (Nat.le_refl _) _
            have cA : Va.cell? ⟨V.heap.size, 0, none⟩ = some (.int .i64 0) := by rw [hVa]; go_simp
            have fA : Va.frozen? ⟨V.heap.size, 0, none⟩ = false := by rw [hVa]; go_simp
            go_upto_region 45 with fail
            refine wp_region_lit ?_
            refine vw (.pointer (some ⟨V.heap.size, 0, none⟩)) Va (want_none rfl) (ex_al rfl (by rw [hVa]; exact alI7 _)) rfl hz (by decide) (fun Ye6 zz kk s14x => ?_)
            replace s0 := ku s0
            replace s3 := ku s3
            replace s4 := ku s4
            replace s5 := ku s5
            replace s6 := ku s6
            replace s12 := ku s12
            replace s173 := ku s173
            clear kk hz s14
            have hz := zz
            have s14 := s14x
            clear zz s14x
            refine vs (Va.setCell ⟨V.heap.size, 0, none⟩ (.int .i64 (t : Int))) (want_none rfl) (ex_st rfl (ev s14 rfl) (ev s173 rfl) (stI7 cA fA _)) rfl ?_
            have cB : (Va.setCell ⟨V.heap.size, 0, none⟩ (.int .i64 (t : Int))).cell? ⟨V.heap.size, 0, none⟩ = some (.int .i64 (t : Int)) := setc_eq cA
            have fB : (Va.setCell ⟨V.heap.size, 0, none⟩ (.int .i64 (t : Int))).frozen? ⟨V.heap.size, 0, none⟩ = false := setf fA
            have bB : Below V.heap.size V (Va.setCell ⟨V.heap.size, 0, none⟩ (.int .i64 (t : Int))) := bA.setCell (Nat.le_refl _) _
            obtain ⟨Vb, hVb⟩ : ∃ v, v = (Va.setCell ⟨V.heap.size, 0, none⟩ (.int .i64 (t : Int))) := ⟨_, rfl⟩
            rw [← hVb] at cB fB bB ⊢
            clear hVb hVa cA fA bA
            clear s173
            refine wpList_nil ?_
            go_upto_region 33 with fail
            refine wp_region_lit ?_
            refine vt (.int .i64 (t : Int)) (ex_ld rfl (ev s14 rfl) (ldI7 cB)) hz (fun Ye7 zz kk s133 => ?_)
            replace s0 := ku s0
            replace s3 := ku s3
            replace s4 := ku s4
            replace s5 := ku s5
            replace s6 := ku s6
            replace s12 := ku s12
            replace s14 := ku s14
            replace hz := zz
            clear kk zz
            refine vt (.int .i64 ((t + 1 : Nat) : Int)) (ex_bin rfl (ev s133 rfl) rfl (addD7 _ _ _ ((t + 1 : Nat) : Int) (by rw [IntKind.wrap_i64]; omega) _)) hz (fun Ye8 zz kk s134 => ?_)
            replace s0 := ku s0
            replace s3 := ku s3
            replace s4 := ku s4
            replace s5 := ku s5
            replace s6 := ku s6
            replace s12 := ku s12
            replace s14 := ku s14
            replace hz := zz
            clear kk zz s133 Ye7
            refine vs (Vb.setCell ⟨V.heap.size, 0, none⟩ (.int .i64 ((t + 1 : Nat) : Int))) (want_none rfl) (ex_st rfl (ev s14 rfl) (ev s134 rfl) (stI7 cB fB _)) rfl ?_
            have cC : (Vb.setCell ⟨V.heap.size, 0, none⟩ (.int .i64 ((t + 1 : Nat) : Int))).cell? ⟨V.heap.size, 0, none⟩ = some (.int .i64 ((t + 1 : Nat) : Int)) := setc_eq cB
            have fC : (Vb.setCell ⟨V.heap.size, 0, none⟩ (.int .i64 ((t + 1 : Nat) : Int))).frozen? ⟨V.heap.size, 0, none⟩ = false := setf fB
            have bC : Below V.heap.size V (Vb.setCell ⟨V.heap.size, 0, none⟩ (.int .i64 ((t + 1 : Nat) : Int))) := bB.setCell (Nat.le_refl _) _
            obtain ⟨Vc, hVc⟩ : ∃ v, v = (Vb.setCell ⟨V.heap.size, 0, none⟩ (.int .i64 ((t + 1 : Nat) : Int))) := ⟨_, rfl⟩
            rw [← hVc] at cC fC bC ⊢
            clear hVc cB fB bB
            clear s134
            refine wpList_nil ?_
            refine HK.out _ _ ⟨t + 1, V.heap.size, wR.heap.size :: rs, _, _, rfl, hz, s0, s3, s4, s5, s6, s12, s14, ?_⟩ (by rw [tm7_eq s14 cC]; omega)
            have hin : ∀ r, r ∈ rs → r < W.heap.size := fun r hr => (Array.getElem?_eq_some_iff.1 (HTI.out.marks.at r hr)).1
            refine ⟨by omega, by omega, cC, fC, (HTI.out.bel.trans (bV.mono hz12)).trans (bC.mono (by omega)), ?_, ?_⟩
            · refine Marks.cons (HTI.out.marks.on (fun r hr e => ?_)) ?_ (fun h => by have := hin _ h; omega)
              · have hl := hin r hr
                exact (bC.block r (by omega)).trans ((bV.block r hl).trans e)
              · exact (bC.block _ (Array.getElem?_eq_some_iff.1 hK).1).trans hK
            · intro r hr
              rcases List.mem_cons.1 hr with rfl | hr
              · omega
              · exact HTI.out.low r hr
        · have d2 : decide ((t : Int) < 2) = false := decide_eq_false (by omega)
          go_upto_region 32 with fail
          refine wp_region_lit ?_
          refine vt (.int .i64 (t : Int)) (ex_ld rfl (ev s14 rfl) (ldI7 tc)) hz (fun Ye9 zz kk s131 => ?_)
          replace s4 := ku s4
          replace s5 := ku s5
          replace hz := zz
          clear kk zz s0 s3 s6 s12 s14
          refine vt (.bool false) (ex_bin rfl (ev s131 rfl) rfl (lssD7 _ _ _ _ false d2 _)) hz (fun Yfa zz kk s132 => ?_)
          replace s4 := ku s4
          replace s5 := ku s5
          replace hz := zz
          clear kk zz s131 Ye9
          refine wpList_nil ?_
          go_upto_region 46 with fail
          refine wp_cond_false ((ev s132 rfl).trans rfl) ?_
          clear s132 d2
          have FW := HZ.out.on HTI.out.bel
          obtain ⟨pv9, rv9, mb9, n9, P9, R9, M9, h9, hl9⟩ := FW.net
          have hP9 : P9.length = 0 := by omega
          go_upto_region 46 with fail
          refine wp_region_lit ?_
          refine vt _ (ex_move rfl (ev s5 rfl)) hz (fun Yfb zz kk s174 => ?_)
          replace s4 := ku s4
          replace s5 := ku s5
          replace hz := zz
          clear kk zz
          refine vcallP (want_none rfl) (ex_call rfl (by simp only [List.map_toArray, List.map_cons, List.map_nil, (ev s174 rfl), evc] <;> rfl) rfl) (len14_any h9) rfl hz (by decide) ?_
          rintro e w_ ⟨rfl, hw_⟩; rw [hw_]; clear hw_ w_
          refine ⟨_, rfl, fun Yfc zz kk s175 => ?_⟩
          replace s4 := ku s4
          replace s5 := ku s5
          replace hz := zz
          clear kk zz s174 Yfb
          refine vt (.bool true) (ex_bin rfl (ev s175 rfl) rfl (eqlD7 _ _ _ _ true (by rw [hP9]; rfl) _)) hz (fun Yfd zz kk s176 => ?_)
          replace s4 := ku s4
          replace s5 := ku s5
          replace hz := zz
          clear kk zz s175 Yfc
          refine vt _ (ex_move rfl (ev s176 rfl)) hz (fun Yfe zz kk s177 => ?_)
          replace s4 := ku s4
          replace s5 := ku s5
          replace hz := zz
          clear kk zz s176 Yfd
          refine vl true _ (want_k rfl rfl s177) (fun hc => ex_move rfl (ev s5 rfl)) rfl hz (by decide) (fun Yff zz kk s178 => ?_)
          replace s4 := ku s4
          replace s177 := ku s177
          replace hz := zz
          clear kk zz s5 Yfe
          refine vcallP (want_k rfl rfl s177) (ex_call rfl (by simp only [List.map_toArray, List.map_cons, List.map_nil, (ev s178 rfl), evc] <;> rfl) rfl) (for_any 0 h9 (wf_i64 (by omega)) (by rw [hP9]; omega)) rfl hz (by decide) ?_
          rintro e w15 ⟨v15, rfl, o15, b15⟩; rw [hP9] at o15; obtain ⟨va, vc, hv15, _⟩ := o15.form; subst hv15
          refine ⟨_, rfl, fun Yfg zz kk s179 => ?_⟩
          replace s179 : _ = some (gw true (.slice va 0 vc)) := s179
          have FX := FW.on b15
          replace s4 := ku s4
          replace s177 := ku s177
          replace hz := zz
          clear kk zz s178 Yff
          refine vl true (.int .i64 (0 : Int)) (want_k rfl rfl s177) (fun hc => ex_lenJ7 rfl rfl (ev s179 rfl)) rfl hz (by decide) (fun Yfh zz kk s180 => ?_)
          replace s4 := ku s4
          replace s177 := ku s177
          replace hz := zz
          clear kk zz s179 Yfg
          refine vl true (.bool true) (want_k rfl rfl s177) (fun hc => ex_bin rfl (ev s180 rfl) rfl (eqlD7 _ _ _ _ true (by decide) _)) rfl hz (by decide) (fun Yfi zz kk s181 => ?_)
          replace s4 := ku s4
          replace s177 := ku s177
          replace hz := zz
          clear kk zz s180 Yfh
          refine vt (.bool true) (ex_and rfl s177 s181 rfl) hz (fun Yfj zz kk s182 => ?_)
          replace s4 := ku s4
          replace hz := zz
          clear kk zz s177 s181 Yfi
          refine vs (w15.setCell ⟨w.heap.size + 1, 0, none⟩ (.bool true)) (want_none rfl) (ex_st rfl (ev s4 rfl) (ev s182 rfl) (stB7 FX.r4 FX.f4 _)) rfl ?_
          clear s182
          refine wpList_nil ?_
          go_wp2
          have hin : ∀ r, r ∈ rs → r < W.heap.size := fun r hr => (Array.getElem?_eq_some_iff.1 (HTI.out.marks.at r hr)).1
          have hq4 : w.heap.size + 1 < w12.heap.size := World.block_lt_of_cell? _ _ HZ.out.r4
          have hz15 := b15.size
          refine Marks.leave (rs := rs) (HTI.out.marks.on (fun r hr e => ?_)) (fun w' hu => ?_)
          · have hl := hin r hr
            have hw := HTI.out.low r hr
            rw [Below.heap_setCell _ _ _ _ (by show r ≠ w.heap.size + 1; omega), b15.block r hl]
            exact e
          · have hc5 : w'.cell? ⟨w.heap.size + 1, 0, none⟩ = some (.bool true) := (hu.cell (p := ⟨w.heap.size + 1, 0, none⟩) (by simp; omega) (fun h => by have := HTI.out.low _ h; dsimp only at this; omega)).trans (setc_eq FX.r4)
            refine ⟨.bool true, ?_, rfl, ?_⟩
            · simp [results, Try.f7, go_sem, hc5, s4, gw]
            · exact (FX.bel.setCell (by show w.heap.size ≤ w.heap.size + 1; omega) _).trans (hu.below (by simp; omega) (fun r hr => by have := HTI.out.low r hr; omega))
end Go.Proofs.Ytjpkdnndhjnkpaa
