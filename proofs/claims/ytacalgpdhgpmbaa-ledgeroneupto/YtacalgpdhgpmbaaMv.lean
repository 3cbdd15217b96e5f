import Derived.Test.YtacalgpdhgpmbaaMu
namespace Go.Proofs.Ytacalgpdhgpmbaa
open Go.RowKit
open Classical
set_option linter.unusedVariables false

theorem pl_app (L : List Cl) (P Q : List Opn) : pl L (P ++ Q) = pl (pl L P) Q := by
  induction P generalizing L with
  | nil => rfl
  | cons o r ih => exact ih _
theorem rl_app (L : List Cl) (P Q : List Opn) : rl L (P ++ Q) = rl L P ++ rl (pl L P) Q := by
  induction P generalizing L with
  | nil => rfl
  | cons o r ih =>
    have := ih (dn L o.k o.s o.v)
    simp only [List.cons_append, rl, this]
    rfl
theorem Row3.ops {w : World} {a : Option Addr} {P : List Opn} (h : Row3 w a (P.map Opn.t)) : Ops w a P := fun i hi => by
  obtain ⟨g, rfl, h0, h1, h2⟩ := h i (P[i].t) (by simp [hi])
  exact ⟨g, 0, rfl, by rw [Nat.zero_add]; exact h0, by rw [Nat.zero_add]; exact h1, by rw [Nat.zero_add]; exact h2⟩

theorem Row3.upd {S : Nat → Prop} {w w' : World} {a : Option Addr} {D : List Rs} (h : Row3 w a D) (u : Upd S w w') (hs : ∀ x, a = some x → D ≠ [] → ¬ S x.block) : Row3 w' a D := fun i d hd => by
  obtain ⟨g, rfl, c0, c1, c2⟩ := h i d hd
  have hl := World.block_lt_of_cell? _ _ c0
  have hn := hs _ rfl (by rintro rfl; simp at hd)
  exact ⟨g, rfl, (u.cell (p := ⟨g, i * 3, none⟩) hl hn).trans c0, (u.cell (p := ⟨g, i * 3 + 1, none⟩) hl hn).trans c1, (u.cell (p := ⟨g, i * 3 + 2, none⟩) hl hn).trans c2⟩
theorem Row3.later {w w' : World} {a : Option Addr} {D : List Rs} (h : Row3 w a D) (b : Below w.heap.size w w') : Row3 w' a D := h.upd (S := fun _ => False) (Upd.of_below b) (fun _ _ _ => id)
theorem Row3.kept {w w' : World} {b : Nat} {D : List Rs} {a : Option Addr} (h : Row3 w a D) (K : ∀ g i u, g ≠ b → w.cell? ⟨g, i, none⟩ = some u → w'.cell? ⟨g, i, none⟩ = some u) (hn : ∀ x, a = some x → x.block ≠ b) : Row3 w' a D := fun i d hd => by
  obtain ⟨g, rfl, c0, c1, c2⟩ := h i d hd
  have hg := hn _ rfl
  exact ⟨g, rfl, K _ _ _ hg c0, K _ _ _ hg c1, K _ _ _ hg c2⟩
theorem rl_get (L : List Cl) (P : List Opn) (j : Nat) (o : Opn) (h : P[j]? = some o) : (rl L P)[j]? = some (wd (pl L (P.take j)) o.k o.s o.v) := by
  induction P generalizing L j with
  | nil => simp at h
  | cons p r ih =>
    cases j with
    | zero => simp at h; subst h; rfl
    | succ j => simp at h; simpa [rl, pl] using ih (dn L p.k p.s p.v) j h
set_option maxRecDepth 100000 in
set_option maxHeartbeats 16000000 in
theorem one_walk (P0 : List Opn) (a0 : Option Addr) (cap0 : Nat) (P1 : List Opn) (a1 : Option Addr) (cap1 : Nat) (w : World)
    (h0 : Ops w a0 P0) (f0 : ∀ p ∈ P0, p.fits) (n0 : a0 = none → P0.length = 0 ∧ cap0 = 0) (h1 : Ops w a1 P1) (f1 : ∀ p ∈ P1, p.fits) (n1 : a1 = none → P1.length = 0 ∧ cap1 = 0) (hl : (P0.length + P1.length) * 32 ≤ 140737488351232) :
    Calls Try.prog 9 #[.slice a0 P0.length cap0, .slice a1 P1.length cap1] w fun e w' => e = .returned (.bool true) ∧ Below w.heap.size w w' := by
  have H0 := hide h0
  have H1 := hide h1
  have F0 := hide f0
  have F1 := hide f1
  have N0 := hide n0
  have N1 := hide n1
  have l0 : P0.length * 32 ≤ 140737488351232 := by omega
  have l1 : P1.length * 32 ≤ 140737488351232 := by omega
  have z0 : (P0.length : Int) ≤ 9223372036854775807 := by omega
  have z1 : (P1.length : Int) ≤ 9223372036854775807 := by omega
  clear h0 h1 f0 f1 n0 n1
  go_enter Try.func9, Try.ntmps9
  go_wp2_with (first | (go_at_call 17; refine (new_b w.heap.size w w (Below.refl _ _) (Nat.le_refl _)).mono ?_; rintro e w1 ⟨rfl, L1, s1⟩; clear s1) | (go_at_call 16; refine (works_any _).mono ?_; rintro e w2 ⟨rfl, b2⟩; replace L1 := L1.on b2))
  go_loopw [6] (fun i wr => ∃ j : Nat, i = .int .i64 (j : Int) ∧ j ≤ P0.length ∧ LedB w.heap.size w wr w.heap.size (pl [] (P0.take j))) (fun i _ => P0.length - (intOf i).toNat)
  case atStart => exact ⟨0, rfl, Nat.zero_le _, L1⟩
  case round =>
    obtain ⟨j, rfl, hj, l2⟩ := hrel
    clear L1 b2
    by_cases hlt : j < P0.length
    · have hg : P0[j]? = some P0[j] := List.getElem?_eq_getElem hlt
      have ht := pl_take [] hg
      have hfj := F0.out P0[j] (List.getElem_mem hlt)
      obtain ⟨q, o, ea, c0, c1, c2⟩ := H0.out.later l2.bel j hlt
      generalize P0[j] = p at *
      obtain ⟨k, s, v'⟩ := p
      subst ea
      dsimp only at c0 c1 c2 ht
      have hth := hide ht
      clear ht hg
      go_wp2_with fail
      refine (do_b _ _ _ _ k s v' hfj _ l2).mono ?_
      rintro e w3 ⟨rfl, l3⟩
      rw [← hth.out] at l3
      generalize wd _ k s v' = r at *
      obtain ⟨r0, r1, r2⟩ := r
      dsimp only
      go_wp2
      go_round
      case rel => exact ⟨j + 1, by go_num, by omega, l3⟩
      case measure => simp [intOf]; omega
    · obtain rfl : j = P0.length := by omega
      rw [List.take_length] at l2
      go_wp2_with fail
      refine (replay_any P0 a0 cap0 wr (H0.out.later l2.bel) F0.out l0).mono ?_
      rintro e w4 ⟨vc4, vr4, rfl, oc4, or4, b4⟩
      have L4 := l2.on b4
      clear l2 b4
      obtain ⟨ac, cc, sl4, hsl4⟩ := oc4.sl
      have hv4 := sl4.form
      subst hv4
      obtain ⟨ar, cr, hvr, hr1, hr2, _, hr4⟩ := or4.form
      subst hvr
      have R4 := or4.row
      rw [rl_length] at hr1 ⊢
      clear oc4 or4
      have hok := L4.ok
      have hRl : (rl [] P0).length = P0.length := rl_length _ _
      have hT := hide (rl_app [] P0 P1)
      have hW := hide (pl_app [] P0 P1)
      generalize pl [] P0 = C at *
      generalize rl [] P0 = R at *
      have HR := hide hRl
      clear hRl
      go_wp2_with fail
      refine (from_ok C ac cc hok w4 sl4).mono ?_
      rintro e w5 ⟨rfl, ⟨m5, K5, _, hm5, b5⟩⟩
      have T5 : Two w.heap.size w w5 w.heap.size C w4.heap.size C := Two.new L4 K5 b5 (Nat.le_refl _) hm5
      have sl5 := sl4.later b5
      have hsz4 := b5.size
      have R5 : Row3 w5 ar R := R4.later b5
      have hlt4 := K5.lt
      clear L4 K5 hm5 b5 sl4 R4
      go_wp2_with fail
      obtain ⟨m6, l6, _⟩ := T5.fst
      refine (clone_any _ m6 C w5 l6).mono ?_
      clear l6
      rintro e w6 ⟨rfl, ⟨m7, K6, _, hm7, b6⟩⟩
      have T6 : Tri w.heap.size w w6 w.heap.size C w4.heap.size C w5.heap.size C := Tri.new T5 K6 b6 (Nat.le_refl _) hm7
      have sl6 := sl5.later b6
      have R6 := R5.later b6
      clear T5 K6 hm7 b6 sl5 R5
      have hk2 : w.heap.size < w4.heap.size := by
        obtain ⟨_, _, _, _, _, _, ⟨p1, p2, p3⟩, _, ⟨q1, q2, q3⟩, _⟩ := T6
        omega
      generalize w4.heap.size = k2 at *
      generalize w5.heap.size = k3 at *
      go_wp2_with fail
      refine (cells_b _ _ _ C w6 T6.fst).mono ?_
      rintro e w7 ⟨vc7, rfl, oc7, b7⟩
      obtain ⟨a7, c7, sl7, _⟩ := oc7.sl
      have hv7 := sl7.form
      subst hv7
      have T7 := T6.on b7
      have sl7' := sl6.later b7
      have R7 := R6.later b7
      clear T6 sl6 R6 b7 oc7
      go_wp2_with fail
      refine (same_own C a7 ac c7 cc w7 sl7 sl7').mono ?_
      rintro e w8 ⟨rfl, b8⟩
      have T8 := T7.on b8
      have R8 := R7.later b8
      clear T7 sl7 sl7' R7 b8
      have TH := hide T8
      have RH := hide R8
      have B8 := T8.bel
      have hs8 := B8.size
      clear T8 R8
      go_wp2_with (at_builtin; go_must (refine app_ops _ rfl (.tmp 72) (.tmp 73) rfl w8.heap.size [] _ rfl a0 P0 cap0 rfl (H0.out.later B8) N0.out (Own3.nil _ _ _) (Nat.le_refl _) (by simp; omega) ?_))
      intro v9 w9 o9 hg9
      have b9 : Below w8.heap.size w8 w9 := (Below.refl _ w8).grown hg9 (Nat.le_refl _) (fun k hk => by cases hk)
      have hs9 := b9.size
      have hlm : (P0.map Opn.t).length = P0.length := by simp
      have o9h := hide o9
      clear hg9 o9
      go_wp2_with (at_builtin; go_must (refine app_ops _ rfl (.tmp 75) (.tmp 76) rfl w8.heap.size (P0.map Opn.t) v9 rfl a1 P1 cap1 rfl ((H1.out.later B8).later b9) N1.out o9h.out hs9 (by rw [hlm]; omega) ?_))
      intro v10 w10 o10 hg10
      have b10 : Below w8.heap.size w8 w10 := b9.grown hg10 hs9 (fun k hk => (World.ownsRow.lt o9h.out k hk).1)
      obtain ⟨PA, hPA⟩ : ∃ PA, PA = P0 ++ P1 := ⟨_, rfl⟩
      have e10 : P0.map Opn.t ++ P1.map Opn.t = PA.map Opn.t := by rw [hPA]; simp
      rw [e10] at o10
      obtain ⟨aa, ca, hva, hla, hma, _, _⟩ := o10.form
      subst hva
      have O10 := hide o10.row.ops
      have hl10 : (PA.map Opn.t).length = PA.length := by simp
      rw [hl10] at hla ⊢
      have T10 := TH.out.on b10
      have R10 := RH.out.later b10
      clear hg10 o10 o9h b9 hs9 hlm e10 TH RH hl10 b10
      have hPl : PA.length = P0.length + P1.length := by rw [hPA]; simp
      have F : ∀ p ∈ PA, p.fits := fun p hp => by
        rw [hPA] at hp
        rcases List.mem_append.1 hp with hp | hp
        · exact F0.out p hp
        · exact F1.out p hp
      have FH := hide F
      have hPh := hide hPl
      rw [← hPA] at hT hW
      have hPAh := hide hPA
      clear F hPl hPA
      go_wp2_with fail
      refine (replay_any PA aa ca w10 O10.out FH.out (by rw [hPh.out]; exact hl)).mono ?_
      rintro e w11 ⟨vw, vt, rfl, ow, ot, b11⟩
      have T11 := T10.on b11
      have R11 := R10.later b11
      rw [hT.out] at ot
      rw [hW.out] at ow
      obtain ⟨aw, cw, sw, hsw⟩ := ow.sl
      have hvw := sw.form
      subst hvw
      obtain ⟨at_, ct, hvt, ht1, ht2, htn, ht4⟩ := ot.form
      subst hvt
      have hlt : (R ++ rl C P1).length = PA.length := by rw [List.length_append, HR.out, rl_length, hPh.out]
      have Rt := hide ot.row
      rw [hlt] at ht1 ⊢
      have hs10 := T10.bel.size
      have hwz : ∀ x, aw = some x → w10.heap.size ≤ x.block := fun x hx => (hsw x hx).1
      have htz : ∀ x, at_ = some x → w10.heap.size ≤ x.block := fun x hx => by
        obtain ⟨g, rfl, hg, _⟩ := ht4 x hx
        exact hg
      have hbs : w.heap.size < w10.heap.size ∧ k2 < w10.heap.size ∧ k3 < w10.heap.size := by
        obtain ⟨_, _, m1, m2, m3, ⟨l1, l2, l3⟩, _⟩ := T10
        exact ⟨l1.lt, l2.lt, l3.lt⟩
      clear T10 R10 ow ot b11 hsw ht4
      unfold maxLen at ht2
      have hle : P0.length ≤ ct := Nat.le_trans (by rw [hPh.out]; exact Nat.le_add_right _ _) ht1
      have hlez : (P0.length : Int) ≤ (ct : Int) := Int.ofNat_le.2 hle
      have TH := hide T11
      have RH := hide R11
      have SH := hide sw
      have HWz := hide hwz
      have HTz := hide htz
      have ht1h := hide ht1
      have ht2h := hide ht2
      have hr1h := hide hr1
      have hr2h := hide hr2
      clear T11 R11 sw hwz htz ht1 htn hr1 hr2
      go_wp2_with fail
      have cs := sameres_lie R at_ ar ct cr (by rw [HR.out]; exact hle) (by unfold maxLen; exact ht2h.out) (by rw [HR.out]; exact hr1h.out) hr2h.out w11 Rt.out.pre RH.out
      rw [HR.out] at cs
      refine cs.mono ?_
      clear cs
      rintro e w12 ⟨rfl, b12⟩
      have T12 := hide (TH.out.on b12)
      have S12 := hide (SH.out.later b12)
      have R12 := hide (Rt.out.later b12)
      have hs12 := b12.size
      clear TH SH RH Rt b12
      go_wp2_with fail
      go_loopw [15] (fun i wr => ∃ j : Nat, i = .int .i64 (j : Int) ∧ j ≤ P1.length ∧ Tri w.heap.size w wr w.heap.size (pl C (P1.take j)) k2 (pl C (P1.take j)) k3 (pl C (P1.take j)) ∧ SlC wr (.slice aw (pl C P1).length cw) (pl C P1) aw cw ∧ Row3 wr at_ (R ++ rl C P1)) (fun i _ => P1.length - (intOf i).toNat)
      case atStart => exact ⟨0, rfl, Nat.zero_le _, T12.out, S12.out, R12.out⟩
      case round =>
        obtain ⟨j, rfl, hj, T, SW, RT⟩ := hrel
        clear T12 S12 R12
        by_cases hlt : j < P1.length
        · have hg : P1[j]? = some P1[j] := List.getElem?_eq_getElem hlt
          have ht := pl_take C hg
          have hfj := F1.out P1[j] (List.getElem_mem hlt)
          obtain ⟨q, o, ea, c0, c1, c2⟩ := H1.out.later T.bel j hlt
          have hqw : q < w.heap.size := by
            obtain ⟨q', o', e', d0, _⟩ := H1.out j hlt
            rw [e'] at ea
            cases ea
            exact World.block_lt_of_cell? _ _ d0
          have hrg := rl_get C P1 j _ hg
          have hix : (R ++ rl C P1)[P0.length + j]? = some (wd (pl C (P1.take j)) P1[j].k P1[j].s P1[j].v) := by
            rw [← HR.out, List.getElem?_append_right (Nat.le_add_right _ _), Nat.add_sub_cancel_left]; exact hrg
          obtain ⟨gt, hgt, _⟩ := RT (P0.length + j) _ hix
          have tc : ∀ W, Row3 W at_ (R ++ rl C P1) → W.cell? ⟨gt, (P0.length + j) * 3, none⟩ = some (.int .i64 (wd (pl C (P1.take j)) P1[j].k P1[j].s P1[j].v).1) ∧ W.cell? ⟨gt, (P0.length + j) * 3 + 1, none⟩ = some (.int .i64 (wd (pl C (P1.take j)) P1[j].k P1[j].s P1[j].v).2.1) ∧ W.cell? ⟨gt, (P0.length + j) * 3 + 2, none⟩ = some (.string (wd (pl C (P1.take j)) P1[j].k P1[j].s P1[j].v).2.2) := fun W h => by
            obtain ⟨g', e', x⟩ := h (P0.length + j) _ hix
            rw [hgt] at e'
            cases e'
            exact x
          clear hix
          have hgz := HTz.out _ hgt
          dsimp only at hgz
          generalize P1[j] = p at *
          obtain ⟨k, s, v'⟩ := p
          subst ea
          dsimp only at c0 c1 c2 ht tc
          have hth := hide ht
          have hgth := hide hgt
          generalize pl C (P1.take j) = L at *
          clear ht hg hrg hgt
          have RTh := hide RT
          have SWh := hide SW
          have HT := hide T
          have HQ := hide T.bel
          clear RT SW T
          have cd := do_tri w.heap.size w w.heap.size k2 k3 L L L k s v' hfj
          have cdm := do_tri w.heap.size w k2 k3 w.heap.size L L (dn L k s v') k s v' hfj
          have cdc := do_tri w.heap.size w k3 w.heap.size k2 L (dn L k s v') (dn L k s v') k s v' hfj
          have hn2 := fun W => neq_same (wd L k s v') W
          generalize wd L k s v' = r at *
          generalize dn L k s v' = L' at *
          obtain ⟨r0, r1, r2⟩ := r
          dsimp only at cd hn2 cdm cdc tc
          have tch := hide tc
          have cdmh := hide cdm
          have cdch := hide cdc
          clear tc cdm cdc
          go_wp2_with fail
          refine (cd wr HT.out).mono ?_
          rintro e w13 ⟨rfl, T13, K13, hs13⟩
          have S13 := SWh.out.kept (b := w.heap.size) K13 hs13 (fun x hx _ => by have := HWz.out x hx; omega)
          have R13 := RTh.out.kept (b := w.heap.size) K13 (fun x hx => by have := HTz.out x hx; omega)
          clear cd HT SWh RTh K13
          obtain ⟨w14, hw14⟩ : ∃ w14, w13.alloc (.cells #[.int .i64 r0, .int .i64 r1, .string r2] 53) = w14 := ⟨_, rfl⟩
          have z := At3.new w13 r0 r1 r2 53
          have b14 : Below w13.heap.size w13 w14 := by rw [← hw14]; exact (Below.refl _ w13).alloc (Nat.le_refl _) _
          have s14 : w14.heap.size = w13.heap.size + 1 := by rw [← hw14]; simp
          have T14 := hide (T13.on b14)
          have S14 := hide (S13.later b14)
          have R14 := hide (R13.later b14)
          have hg3 : w.heap.size < w13.heap.size ∧ k2 < w13.heap.size ∧ k3 < w13.heap.size := by
            obtain ⟨_, _, m1, m2, m3, ⟨l1, l2, l3⟩, _⟩ := T13
            exact ⟨l1.lt, l2.lt, l3.lt⟩
          rw [hw14] at z
          obtain ⟨e0, e1, e2⟩ := tch.out w14 R14.out
          obtain ⟨y0, y1, y2⟩ := z
          have bq := T14.out.bel
          have x0 := (bq.cell (p := ⟨q, o + j * 3, none⟩) hqw).trans ((HQ.out.cell (p := ⟨q, o + j * 3, none⟩) hqw).symm.trans c0)
          have x1 := (bq.cell (p := ⟨q, o + j * 3 + 1, none⟩) hqw).trans ((HQ.out.cell (p := ⟨q, o + j * 3 + 1, none⟩) hqw).symm.trans c1)
          have x2 := (bq.cell (p := ⟨q, o + j * 3 + 2, none⟩) hqw).trans ((HQ.out.cell (p := ⟨q, o + j * 3 + 2, none⟩) hqw).symm.trans c2)
          clear c0 c1 c2 T13 S13 R13 b14 bq
          have hk3 : w.heap.size ≤ k3 := by
            obtain ⟨_, _, m1, m2, m3, _, ⟨_, _, p3⟩, _⟩ := T14.out
            exact p3
          have hg14 : w13.heap.size < w14.heap.size := by omega
          have hq14 : q < w14.heap.size := by omega
          have ht14 : gt < w14.heap.size := World.block_lt_of_cell? _ _ e0
          have nq2 : q ≠ k2 := by omega
          have nq3 : q ≠ k3 := by omega
          have ng2 : w13.heap.size ≠ k2 := by omega
          have ng3 : w13.heap.size ≠ k3 := by omega
          have nt2 : gt ≠ k2 := by omega
          have nt3 : gt ≠ k3 := by omega
          go_wp2_with fail
          clear hw14 hg3 s14 hs13
          generalize w13.heap.size = g at *
          have hz0 : (0 : Int) ≤ (P0.length : Int) + (j : Int) := by omega
          have hzl : (P0.length : Int) + (j : Int) < (PA.length : Int) := by rw [hPh.out]; omega
          have hzn : P0.length + j < PA.length := by rw [hPh.out]; omega
          have htw : IntKind.i64.wrap ((P0.length : Int) + (j : Int)) = (P0.length : Int) + (j : Int) := by
            have hz : (P0.length : Int) + (j : Int) ≤ 9223372036854775807 := by omega
            clear hzl hzn
            simp [IntKind.wrap, IntKind.bits, IntKind.signed]
            omega
          have hto : ((P0.length : Int) + (j : Int)).toNat = P0.length + j := by omega
          clear hl l0 l1
          have hat := hgth.out
          clear hgth
          subst hat
          have KS : ∀ v, Below w14.heap.size w14 v → (v.cell? ⟨q, o + j * 3, none⟩ = some (.int .i64 k) ∧ v.cell? ⟨q, o + j * 3 + 1, none⟩ = some (.int .i64 s) ∧ v.cell? ⟨q, o + j * 3 + 2, none⟩ = some (.string v') ∧ v.cell? ⟨g, 0, none⟩ = some (.int .i64 r0) ∧ v.cell? ⟨g, 1, none⟩ = some (.int .i64 r1) ∧ v.cell? ⟨g, 2, none⟩ = some (.string r2) ∧ v.cell? ⟨gt, (P0.length + j) * 3, none⟩ = some (.int .i64 r0) ∧ v.cell? ⟨gt, (P0.length + j) * 3 + 1, none⟩ = some (.int .i64 r1) ∧ v.cell? ⟨gt, (P0.length + j) * 3 + 2, none⟩ = some (.string r2)) := fun v b =>
            ⟨(b.cell (p := ⟨q, o + j * 3, none⟩) hq14).trans x0, (b.cell (p := ⟨q, o + j * 3 + 1, none⟩) hq14).trans x1, (b.cell (p := ⟨q, o + j * 3 + 2, none⟩) hq14).trans x2, (b.cell (p := ⟨g, 0, none⟩) hg14).trans y0, (b.cell (p := ⟨g, 1, none⟩) hg14).trans y1, (b.cell (p := ⟨g, 2, none⟩) hg14).trans y2, (b.cell (p := ⟨gt, (P0.length + j) * 3, none⟩) ht14).trans e0, (b.cell (p := ⟨gt, (P0.length + j) * 3 + 1, none⟩) ht14).trans e1, (b.cell (p := ⟨gt, (P0.length + j) * 3 + 2, none⟩) ht14).trans e2⟩
          have KH := hide KS
          clear KS x0 x1 x2 y0 y1 y2 e0 e1 e2
          go_region_held3 (fun v => v.cell? ⟨q, o + j * 3, none⟩ = some (.int .i64 k) ∧ v.cell? ⟨q, o + j * 3 + 1, none⟩ = some (.int .i64 s) ∧ v.cell? ⟨q, o + j * 3 + 2, none⟩ = some (.string v') ∧ v.cell? ⟨g, 0, none⟩ = some (.int .i64 r0) ∧ v.cell? ⟨g, 1, none⟩ = some (.int .i64 r1) ∧ v.cell? ⟨g, 2, none⟩ = some (.string r2) ∧ v.cell? ⟨gt, (P0.length + j) * 3, none⟩ = some (.int .i64 r0) ∧ v.cell? ⟨gt, (P0.length + j) * 3 + 1, none⟩ = some (.int .i64 r1) ∧ v.cell? ⟨gt, (P0.length + j) * 3 + 2, none⟩ = some (.string r2))
            (first | exact KH.out _ (Below.refl _ _).drew | exact KH.out _ (by assumption) | assumption)
            (first
              | (go_at_call 28; refine (cdch.out _ T15.rot).mono ?_; rintro e v16 ⟨rfl, T16, K16, hs16⟩; have hk16 : v16.cell? ⟨q, o + j * 3, none⟩ = some (.int .i64 k) ∧ v16.cell? ⟨q, o + j * 3 + 1, none⟩ = some (.int .i64 s) ∧ v16.cell? ⟨q, o + j * 3 + 2, none⟩ = some (.string v') ∧ v16.cell? ⟨g, 0, none⟩ = some (.int .i64 r0) ∧ v16.cell? ⟨g, 1, none⟩ = some (.int .i64 r1) ∧ v16.cell? ⟨g, 2, none⟩ = some (.string r2) ∧ v16.cell? ⟨gt, (P0.length + j) * 3, none⟩ = some (.int .i64 r0) ∧ v16.cell? ⟨gt, (P0.length + j) * 3 + 1, none⟩ = some (.int .i64 r1) ∧ v16.cell? ⟨gt, (P0.length + j) * 3 + 2, none⟩ = some (.string r2) := (by obtain ⟨h0, h1, h2, h3, h4, h5, h6, h7, h8⟩ := hk15; exact ⟨K16 _ _ _ nq3 h0, K16 _ _ _ nq3 h1, K16 _ _ _ nq3 h2, K16 _ _ _ ng3 h3, K16 _ _ _ ng3 h4, K16 _ _ _ ng3 h5, K16 _ _ _ nt3 h6, K16 _ _ _ nt3 h7, K16 _ _ _ nt3 h8⟩))
              | (go_at_call 28; refine (cdmh.out _ (T14.out.rot.on (Below.refl _ _).drew)).mono ?_; rintro e v15 ⟨rfl, T15, K15, hs15⟩; have hk15 : v15.cell? ⟨q, o + j * 3, none⟩ = some (.int .i64 k) ∧ v15.cell? ⟨q, o + j * 3 + 1, none⟩ = some (.int .i64 s) ∧ v15.cell? ⟨q, o + j * 3 + 2, none⟩ = some (.string v') ∧ v15.cell? ⟨g, 0, none⟩ = some (.int .i64 r0) ∧ v15.cell? ⟨g, 1, none⟩ = some (.int .i64 r1) ∧ v15.cell? ⟨g, 2, none⟩ = some (.string r2) ∧ v15.cell? ⟨gt, (P0.length + j) * 3, none⟩ = some (.int .i64 r0) ∧ v15.cell? ⟨gt, (P0.length + j) * 3 + 1, none⟩ = some (.int .i64 r1) ∧ v15.cell? ⟨gt, (P0.length + j) * 3 + 2, none⟩ = some (.string r2) := (by obtain ⟨h0, h1, h2, h3, h4, h5, h6, h7, h8⟩ := KH.out _ (Below.refl _ w14).drew; exact ⟨K15 _ _ _ nq2 h0, K15 _ _ _ nq2 h1, K15 _ _ _ nq2 h2, K15 _ _ _ ng2 h3, K15 _ _ _ ng2 h4, K15 _ _ _ ng2 h5, K15 _ _ _ nt2 h6, K15 _ _ _ nt2 h7, K15 _ _ _ nt2 h8⟩)))
          clear hk15
          have hT16 := hide T16.rot
          have K2 := hide K15
          have K3 := hide K16
          clear T16 T15 K15 K16 hk16
          go_wp2_with fail
          have d14 : Below w14.heap.size w14 w14.drew := (Below.refl _ _).drew
          refine ⟨⟨j + 1, by simp, by omega, ?_, ?_, ?_⟩, by simp [intOf]; omega⟩
          · rw [hth.out]
            exact hT16.out
          · exact ((S14.out.later d14).kept (b := k2) K2.out hs15 (fun x hx _ => by have := HWz.out x hx; omega)).kept (b := k3) K3.out hs16 (fun x hx _ => by have := HWz.out x hx; omega)
          · exact ((R14.out.later d14).kept (b := k2) K2.out (fun x hx => by have := HTz.out x hx; omega)).kept (b := k3) K3.out (fun x hx => by have := HTz.out x hx; omega)
        · obtain rfl : j = P1.length := by omega
          rw [List.take_length] at T
          generalize pl C P1 = D at *
          have TH := hide T
          have SH := hide SW
          clear T SW RT
          go_wp2_with fail
          refine (cells_b _ _ _ D wr TH.out.fst).mono ?_
          rintro e y1 ⟨vy1, rfl, oy1, by1⟩
          obtain ⟨ay1, cy1, sy1, _⟩ := oy1.sl
          have hvy1 := sy1.form
          subst hvy1
          have TH1 := hide (TH.out.on by1)
          have SH1 := hide (SH.out.later by1)
          have sy1h := hide sy1
          clear TH SH by1 oy1 sy1
          go_wp2_with fail
          refine (same_own D ay1 aw cy1 cw y1 sy1h.out SH1.out).mono ?_
          rintro e y2 ⟨rfl, by2⟩
          have TH2 := hide (TH1.out.on by2)
          have SH2 := hide (SH1.out.later by2)
          clear TH1 SH1 by2 sy1h
          go_wp2_with fail
          refine (cells_b _ _ _ D y2 TH2.out.rot.fst).mono ?_
          rintro e y3 ⟨vy3, rfl, oy3, by3⟩
          obtain ⟨ay3, cy3, sy3, _⟩ := oy3.sl
          have hvy3 := sy3.form
          subst hvy3
          have TH3 := hide (TH2.out.on by3)
          have SH3 := hide (SH2.out.later by3)
          have sy3h := hide sy3
          clear TH2 SH2 by3 oy3 sy3
          go_wp2_with fail
          refine (same_own D ay3 aw cy3 cw y3 sy3h.out SH3.out).mono ?_
          rintro e y4 ⟨rfl, by4⟩
          have TH4 := hide (TH3.out.on by4)
          have SH4 := hide (SH3.out.later by4)
          clear TH3 SH3 by4 sy3h
          go_wp2_with fail
          refine (cells_b _ _ _ D y4 TH4.out.rot.rot.fst).mono ?_
          rintro e y5 ⟨vy5, rfl, oy5, by5⟩
          obtain ⟨ay5, cy5, sy5, _⟩ := oy5.sl
          have hvy5 := sy5.form
          subst hvy5
          have TH5 := hide (TH4.out.on by5)
          have SH5 := hide (SH4.out.later by5)
          have sy5h := hide sy5
          clear TH4 SH4 by5 oy5 sy5
          go_wp2_with fail
          refine (same_own D ay5 aw cy5 cw y5 sy5h.out SH5.out).mono ?_
          rintro e y6 ⟨rfl, by6⟩
          have TH6 := hide (TH5.out.on by6)
          clear TH5 SH5 by6 sy5h
          go_wp2
          go_ret
          exact ⟨rfl, TH6.out.bel⟩

end Go.Proofs.Ytacalgpdhgpmbaa
