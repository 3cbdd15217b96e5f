import Derived.Test.YtcchnaldanibgaaUc
namespace Go.Proofs.Ytcchnaldanibgaa
open Go.RowKit
set_option linter.unusedVariables false
set_option linter.unusedSimpArgs false

theorem SlW.ok {w : World} {a : Option Addr} {n c : Nat} {L : List Voi} (h : SlW w a n c L) {m : Voi} (hm : m ∈ L) : m.x.ok w := by
  obtain ⟨q, o, rfl, hq, hl⟩ := h.at_ (by rintro rfl; cases hm)
  obtain ⟨i, hi⟩ := List.getElem?_of_mem hm
  exact (hl i m hi).2.2
theorem lastOf_succ {A : List Nat} {k x : Nat} (h : A[k]? = some x) : lastOf A (k + 1) = x := by
  unfold lastOf
  rw [if_neg (by omega), Nat.add_sub_cancel, List.getD_eq_getElem?_getD, h]
  rfl

set_option maxRecDepth 100000 in
set_option maxHeartbeats 4000000 in
theorem together_walk (L : List Voi) (al : Option Addr) (n cl : Nat) (ap : Option Addr) (np cp : Nat) (f : Nat → Bool) (w : World) (h : SlW w al n cl L) (hp : SlB w ap np cp f) (hb : n * 32 ≤ 140737488351232) :
    Calls Try.prog 8 #[.slice al n cl, .slice ap np cp] w fun e w' => e = .returned (.bool true) ∧ Below w.heap.size w w' := by
  have HW := hide h
  have HP := hide hp
  have LN := hide h.len
  have k1 := h.cap
  have k2 := h.max
  unfold maxLen at k2
  clear h hp
  go_enter Try.func8, Try.ntmps8
  go_wp2_with fail
  refine (alive_true w).mono ?_
  rintro e w1 ⟨rfl, b1⟩
  go_wp2_with fail
  refine (consU L al n cl w1 (HW.out.bel b1) (by omega)).mono ?_
  rintro e w2 ⟨hcase, b2'⟩
  have b2 : Below w.heap.size w w2 := b1.trans (b2'.mono b1.size)
  clear b2' b1
  rcases hcase with ⟨hok, r, s, rfl, hr⟩ | ⟨hbad, rfl⟩
  · have OK := hide hok
    have HR := hide hr
    clear hok hr
    go_wp2_with fail
    refine (aliveU L al n cl w2 (HW.out.bel b2) (by omega)).mono ?_
    rintro e w3 ⟨⟨_, va, rfl, oi⟩ | ⟨hbad, _⟩, b3'⟩
    rotate_left
    · exact absurd OK.out hbad
    have b3 : Below w.heap.size w w3 := b2.trans (b3'.mono b2.size)
    obtain ⟨aa, ca, hva, ka1, ka2, hag⟩ := oi.form
    have FO := hide (first_outs HR.out)
    generalize hA : outs (pV L) n = A at *
    have HA := hide hA
    have HAG := hide hag
    generalize hna : A.length = na at *
    have HNA := hide hna
    subst hva
    unfold maxLen at ka2
    clear b3' b2 oi hag hA hna
    go_wp2_with fail
    refine (num_any _ _).mono ?_
    rintro e w4 ⟨rfl, e1⟩
    have e1 := e1.symm
    subst e1
    go_wp2_with fail
    refine (num_any _ _).mono ?_
    rintro e w4 ⟨rfl, e1⟩
    have e1 := e1.symm
    subst e1
    go_wp2_with fail
    refine (num_any _ _).mono ?_
    rintro e w4 ⟨rfl, e1⟩
    have e1 := e1.symm
    subst e1
    have PT := hide (part_any L al n cl ap np cp f w3 (HW.out.bel b3) (HP.out.bel b3) (by omega))
    have PF : Hid (∀ r1, isFirst (pV (partL L (fun i => decide (i < np) && f i) n)) (partL L (fun i => decide (i < np) && f i) n).length r1 → r = -1 → r1 = -1) := fun r1 h1 hr => by
      refine part_first OK.out LN.out (fun i hi _ => ?_) h1
      rcases HR.out with ⟨j, _, _, _, e⟩ | ⟨hall, _⟩
      · omega
      · exact hall i hi
    have PM := hide (partL_mem L (fun i => decide (i < np) && f i) n)
    have PL := hide (partL_le L (fun i => decide (i < np) && f i) n)
    generalize partL L (fun i => decide (i < np) && f i) n = P1 at *
    have hcase : ((r == -1) = true ∧ r = -1 ∧ ((na : Int) == (n : Int)) = true) ∨ ((r == -1) = false ∧ r ≠ -1 ∧ ((na : Int) == (n : Int)) = false) := by
      rcases FO.out with ⟨h1, h2⟩ | ⟨h1, h2⟩
      · exact .inl ⟨by simp [h1], h1, by simp; omega⟩
      · exact .inr ⟨by simp [h1], h1, by simp; omega⟩
    clear FO HR HP
    have PS : Hid (∀ m, m ∈ P1 → m ∈ L) := fun m hm => by
      obtain ⟨i, hi, _, rfl⟩ := PM.out m hm
      exact vAt_mem (by rw [LN.out]; exact hi)
    rcases hcase with ⟨f1, f2, f3⟩ | ⟨f1, f2, f3⟩
    all_goals
      have F2 := hide f2
      clear f2
      go_wp2_with fail
      refine PT.out.mono ?_
      rintro e w4 ⟨v56, rfl, ow, b4'⟩
      have b4 : Below w.heap.size w w4 := b3.trans (b4'.mono b3.size)
      obtain ⟨a5, c5, hv, sw⟩ := ow.slw (fun m hm => (HW.out.ok (PS.out m hm)).bel b4 (Nat.le_refl _))
      subst hv
      have C1 := hide (consU P1 a5 P1.length c5 w4 sw (by have := PL.out; omega))
      have OK1 : Hid (okAll P1) := okAll_part OK.out PS.out
      clear ow sw PT
      generalize hn1 : P1.length = n1 at *
      clear hn1
      go_wp2_with fail
      refine C1.out.mono ?_
      rintro e w5 ⟨⟨_, r1, s1, rfl, hr1⟩ | ⟨hbad, _⟩, b5'⟩
      rotate_left
      · exact absurd OK1.out hbad
      have b5 : Below w.heap.size w w5 := b4.trans (b5'.mono b4.size)
      have b35 : Below w3.heap.size w3 w5 := b4'.trans (b5'.mono b4'.size)
      try (have hz : r1 = -1 := PF.out r1 hr1 F2.out; subst hz)
      clear hr1 b5' b4' b4 C1 PF F2 PM PL PS OK1
      go_wp2_with fail
      refine (num_any _ _).mono ?_
      rintro e w6 ⟨rfl, e1⟩
      have e1 := e1.symm
      subst e1
      go_wp2_with (at_make; go_must (refine make_bools _ rfl (.tmp 73) rfl n rfl (by omega) ?_))
      intro w6 ob6 b6' sz6
      have b36 : Below w3.heap.size w3 w6 := b35.trans (b6'.mono b35.size)
      have b6 : Below w.heap.size w w6 := b5.trans (b6'.mono b5.size)
      have s35 := b35.size
      have s5 := b5.size
      rw [liveB_nil] at ob6
      have OB6 := hide ob6
      clear ob6 b35 b5
      go_wp2_with fail
      go_loopw [15, 14] (fun i l wr => ∃ (k : Nat), i = .int .i64 (k : Int) ∧ k ≤ na ∧ l = .int .i64 (lastOf A k) ∧ OwnB w5.heap.size wr (.slice (some ⟨w5.heap.size, 0, none⟩) n n) (liveB n (A.take k)) ∧ Upd (· = w5.heap.size) w6 wr) (fun i _ _ => na - (intOf i).toNat)
      case atStart => exact ⟨0, rfl, Nat.zero_le _, rfl, OB6.out, Upd.refl _ _⟩
      case round =>
        obtain ⟨k, rfl, hk, rfl, ob, uu⟩ := hrel
        by_cases hlt : k < na
        · obtain ⟨x, hx⟩ : ∃ x, A[k]? = some x := ⟨_, List.getElem?_eq_getElem (by rw [HNA.out]; exact hlt)⟩
          obtain ⟨ga, rfl, hg1, hg2, hga⟩ := HAG.out (by rintro rfl; simp at hx)
          have ex := (uu.cell (p := ⟨ga, k, none⟩) (by show ga < w6.heap.size; omega) (by show ¬ ga = w5.heap.size; omega)).trans ((b36.cell (p := ⟨ga, k, none⟩) hg2).trans (hga k x hx))
          have hxn : x < n := by
            have hm := List.mem_of_getElem? hx
            rw [← HA.out] at hm
            exact (outs_mem.1 hm).1
          have hlast : lastOf A k < (x : Int) := by
            have hx2 := hx
            rw [← HA.out] at hx2
            have := last_lt hx2
            rw [HA.out] at this
            exact this
          have LS := hide (lastOf_succ hx)
          have TK : Hid (A.take (k + 1) = A.take k ++ [x]) := by show _ = _; rw [List.take_add_one, hx]; rfl
          obtain ⟨bx, hbx⟩ : ∃ bx, (liveB n (A.take k))[x]? = some bx := ⟨_, List.getElem?_eq_getElem (by rw [liveB_len]; exact hxn)⟩
          have q0 := ob.cell x bx hbx
          have q1 := ob.free (liveB_len _ _) x
          have OB := hide (ob.set (liveB_len _ _) x true)
          rw [liveB_set n _ x hxn] at OB
          have hl1 : ¬ (x : Int) ≤ lastOf A k := by omega
          have hl2 : ¬ (n : Int) ≤ x := by omega
          clear hga hx hbx ob hlast
          generalize lastOf A k = lk at *
          go_wp2
          go_round
          case rel => exact ⟨k + 1, by go_num, by omega, by rw [LS.out], by rw [TK.out]; exact OB.out, uu.setCell (.inl rfl) _⟩
          case measure => simp [intOf]; omega
        · obtain rfl : k = na := by omega
          rw [List.take_of_length_le (by rw [HNA.out]; exact Nat.le_refl _), ← HA.out] at ob
          have bw : Below w.heap.size w wr := b6.trans (uu.below (B := w.heap.size) b6.size (fun k hk => by
            have hk : k = w5.heap.size := hk
            omega))
          have GF : Hid (SlB wr (some ⟨w5.heap.size, 0, none⟩) n n (fun i => !pV L i)) := ⟨Nat.le_refl _, by unfold maxLen; omega, fun hn => ⟨w5.heap.size, 0, rfl, by have := uu.size; omega, fun i hi => by rw [Nat.zero_add]; exact ob.cell i _ (liveB_at (pV L) n i hi)⟩⟩
          have PT := hide (part_any L al n cl _ n n (fun i => !pV L i) wr (HW.out.bel bw) GF.out (by omega))
          have PF : Hid (∀ r1, isFirst (pV (partL L (fun i => decide (i < n) && !pV L i) n)) (partL L (fun i => decide (i < n) && !pV L i) n).length r1 → r1 = -1) := fun r1 h1 => part_first OK.out LN.out (fun i hi hf => by simpa [hi] using hf) h1
          have PM := hide (partL_mem L (fun i => decide (i < n) && !pV L i) n)
          have PL := hide (partL_le L (fun i => decide (i < n) && !pV L i) n)
          generalize partL L (fun i => decide (i < n) && !pV L i) n = P2 at *
          have PS : Hid (∀ m, m ∈ P2 → m ∈ L) := fun m hm => by
            obtain ⟨i, hi, _, rfl⟩ := PM.out m hm
            exact vAt_mem (by rw [LN.out]; exact hi)
          clear ob uu b6 b36 b6' OB6 HAG HA HNA PM
          generalize lastOf A k = lk at *
          go_wp2_with fail
          refine PT.out.mono ?_
          rintro e w7 ⟨v7, rfl, ow, b7'⟩
          have b7 : Below w.heap.size w w7 := bw.trans (b7'.mono bw.size)
          have G7 := hide (GF.out.bel b7')
          obtain ⟨a7, c7, hv, sw⟩ := ow.slw (fun m hm => (HW.out.ok (PS.out m hm)).bel b7 (Nat.le_refl _))
          subst hv
          have C1 := hide (consU P2 a7 P2.length c7 w7 sw (by have := PL.out; omega))
          have OK1 : Hid (okAll P2) := okAll_part OK.out PS.out
          clear ow sw PT GF b7' bw
          generalize hn2 : P2.length = n2 at *
          clear hn2
          go_wp2_with fail
          refine C1.out.mono ?_
          rintro e w8 ⟨⟨_, r2, s2, rfl, hr2⟩ | ⟨hbad, _⟩, b8'⟩
          rotate_left
          · exact absurd OK1.out hbad
          have b8 : Below w.heap.size w w8 := b7.trans (b8'.mono b7.size)
          have G8 := hide (G7.out.bel b8')
          have hz := PF.out r2 hr2
          subst hz
          clear hr2 b8' b7 G7 C1 PF PS PL OK1
          go_wp2_with fail
          refine (num_any _ _).mono ?_
          rintro e w9 ⟨rfl, e1⟩
          have e1 := e1.symm
          subst e1
          by_cases hn0 : n = 0
          · have f9 : ((n : Int) == 0) = true := by simp [hn0]
            go_wp2
            go_ret
            exact ⟨rfl, b8⟩
          · have f9 : ((n : Int) == 0) = false := by simp [hn0]
            obtain ⟨q, o, rfl, hq, hlie⟩ := HW.out.at_ (by rintro rfl; have := LN.out; simp at this; omega)
            have HLI := hide (hlie.bel hq b8)
            have s8 := b8.size
            have hq8 : q < w8.heap.size := by omega
            have NB := hide hb
            clear hlie
            go_wp2_with fail
            go_loopw [17, 16] (fun i u ws => ∃ (k : Nat), i = .int .i64 (k : Int) ∧ k ≤ n ∧ OwnV w8.heap.size ws u ((L.take k).map (·.x)) ∧ Below w8.heap.size w8 ws) (fun i _ _ => n - (intOf i).toNat)
            case atStart => exact ⟨0, rfl, Nat.zero_le _, OwnV.nil _ _, Below.refl _ _⟩
            case round =>
              obtain ⟨k', rfl, hk', ho, hb2⟩ := hrel
              have hsz := hb2.size
              by_cases hlt2 : k' < n
              · have hy := vAt_get (L := L) (i := k') (by rw [LN.out]; exact hlt2)
                have p1 := (HLI.out k' _ hy).2.1
                have t1 := (hb2.cell (p := ⟨q, o + k' * 2 + 1, none⟩) hq8).trans p1
                have ST : Hid ((L.take (k' + 1)).map (·.x) = (L.take k').map (·.x) ++ [(vAt L k').x]) := by show _ = _; rw [List.take_add_one, hy]; simp
                have LZ : Hid (((L.take k').map (·.x)).length = k') := by show _ = _; rw [List.length_map, List.length_take, LN.out]; omega
                have OA := hide (ho.bel ((Below.refl _ _).alloc (Nat.le_refl _) (.cells #[.slice (vAt L k').x.a (vAt L k').x.D.length (vAt L k').x.c] 23)) (Nat.le_refl _))
                clear hy p1 ho
                generalize (L.take k').map (·.x) = LX at *
                generalize (vAt L k').x = y at *
                obtain ⟨ya, yc, yD⟩ := y
                simp only at t1 OA
                go_wp2_with (at_builtin; go_must (refine app_vec _ rfl (.tmp 127) (.tmp 133) rfl w8.heap.size LX _ rfl ⟨wr.heap.size, 0, none⟩ rfl ⟨ya, yc, yD⟩ (by simp) OA.out (by simp; omega) (by rw [LZ.out]; omega) ?_))
                intro v' w9 o9 g9
                have b9 : Below w8.heap.size w8 w9 := OA.out.grown (hb2.alloc hsz _) g9 (by simp; omega)
                have O9 := hide o9
                clear OA o9 g9
                go_wp2
                go_round
                case rel => exact ⟨k' + 1, by go_num, by omega, by rw [ST.out]; exact O9.out, b9⟩
                case measure => simp [intOf]; omega
              · obtain rfl : k' = n := by omega
                rw [List.take_of_length_le (by rw [LN.out]; exact Nat.le_refl _)] at ho
                have hLne : L ≠ [] := by
                  rintro rfl
                  have := LN.out
                  simp at this
                  omega
                obtain ⟨gv, cv, hv, hc', hm', hBg, hgs⟩ := ho.form (by simpa using hLne)
                rw [List.length_map, LN.out] at hv hc'
                subst hv
                obtain ⟨m0, T, hLT⟩ : ∃ m0 T, L = m0 :: T := by
                  cases hL : L with
                  | nil => exact absurd hL hLne
                  | cons a b => exact ⟨a, b, rfl⟩
                have LV : LieV wr gv 0 (m0.x :: T.map (·.x)) := fun i y hy => by
                  rw [Nat.zero_add]
                  have hy2 : (L.map (·.x))[i]? = some y := by rw [hLT]; exact hy
                  refine ⟨ho.cell i y hy2, ?_⟩
                  obtain ⟨m, hm, rfl⟩ := List.mem_map.1 (List.mem_of_getElem? hy2)
                  exact ((HW.out.ok hm).bel b8 (Nat.le_refl _)).bel hb2 (by omega)
                have hok0 := OK.out
                rw [hLT] at hok0
                have hTl : (T.map (·.x)).length + 1 = k' := by rw [List.length_map]; have := LN.out; rw [hLT] at this; simpa using this
                have R := merge_ok m0.x (T.map (·.x)) gv 0 cv wr LV hgs (by rw [hTl]; exact hc') hm' (hok0 m0 (by simp)).1.1 (fun y hy => by
                  obtain ⟨m, hm, rfl⟩ := List.mem_map.1 hy
                  exact (hok0 m (List.mem_cons_of_mem _ hm)).2)
                rw [hTl] at R
                have ML : mer m0.x.D ((T.map (·.x)).map (·.D)) = mergedV L := by rw [hLT, List.map_map]; rfl
                rw [ML] at R
                have NDL : Hid (∀ m, m ∈ L → mayv m.node m.x.D.length ∧ m.x.D.length = m0.x.D.length) := fun m hm => by
                  rw [hLT] at hm
                  exact hok0 m hm
                generalize m0.x.D.length = nd at *
                have RH := hide R
                clear R LV ho hok0 hTl ML hLT
                clear m0 T
                go_wp2_with fail
                refine RH.out.mono ?_
                rintro e w10 ⟨gm, rfl, om, b10'⟩
                have b10' : Below w8.heap.size w8 w10 := hb2.trans (b10'.mono hsz)
                have b10 : Below w.heap.size w w10 := b8.trans (b10'.mono s8)
                have SM := hide om.sln
                have GX10 := hide (G8.out.bel b10')
                have HL10 := hide (HLI.out.bel hq8 b10')
                have hq10 : q < w10.heap.size := by have := b10'.size; omega
                clear om RH b10' G8 HLI hb2 b8
                go_wp2_with fail
                refine (num_any _ _).mono ?_
                rintro e w11 ⟨rfl, e1⟩
                have e1 := e1.symm
                subst e1
                go_wp2_with fail
                go_loopw [20] (fun i ws => ∃ (j : Nat), i = .int .i64 (j : Int) ∧ j ≤ k' ∧ Below w10.heap.size w10 ws) (fun i _ => k' - (intOf i).toNat)
                case atStart => exact ⟨0, rfl, Nat.zero_le _, Below.refl _ _⟩
                case round =>
                  obtain ⟨j, rfl, hj, hbj⟩ := hrel
                  have hsj := hbj.size
                  by_cases hlt3 : j < k'
                  · have hy := vAt_get (L := L) (i := j) (by rw [LN.out]; exact hlt3)
                    obtain ⟨p0, p1, vy⟩ := HL10.out j _ hy
                    obtain ⟨hmay, hyl⟩ := NDL.out _ (List.mem_of_getElem? hy)
                    obtain ⟨qb, ob', eb, hqb, hcb⟩ := GX10.out.at_ (by omega)
                    cases eb
                    have pb := hcb j hlt3
                    rw [Nat.zero_add] at pb
                    have OVR : Hid (∀ v, Below w10.heap.size w10 v → Calls Try.prog 30 #[.slice (some ⟨gm, 0, none⟩) nd nd, .agg #[.int .i64 (vAt L j).node, .slice (vAt L j).x.a nd (vAt L j).x.c]] v fun e w' => e = .returned (.bool (pV L j)) ∧ Below v.heap.size v w') := fun v bv => by
                      have s1 := SM.out.bel bv
                      have h1 := over_any (mergedV L) (vAt L j).x.D (some ⟨gm, 0, none⟩) (vAt L j).x.a nd (vAt L j).x.c (vAt L j).node v s1.2 (vy.bel bv (Nat.le_refl _))
                      rw [decide_eq_true ⟨hmay, by rw [SM.out.1, hyl]⟩, Bool.true_and, SM.out.1, hyl] at h1
                      exact h1
                    rw [hyl] at p1
                    have KS : ∀ v, Below w10.heap.size w10 v → (Below w10.heap.size w10 v ∧ v.cell? ⟨q, o + j * 2, none⟩ = some (.int .i64 (vAt L j).node) ∧ v.cell? ⟨q, o + j * 2 + 1, none⟩ = some (.slice (vAt L j).x.a nd (vAt L j).x.c) ∧ v.cell? ⟨w5.heap.size, j, none⟩ = some (.bool (!pV L j))) := fun v b =>
                      ⟨b, (b.cell (p := ⟨q, o + j * 2, none⟩) hq10).trans p0, (b.cell (p := ⟨q, o + j * 2 + 1, none⟩) hq10).trans p1, (b.cell (p := ⟨w5.heap.size, j, none⟩) hqb).trans pb⟩
                    have KH := hide KS
                    clear KS hy p0 p1 vy hmay hyl hcb pb
                    generalize (vAt L j).node = yn at *
                    generalize (vAt L j).x.a = ya at *
                    generalize (vAt L j).x.c = yc at *
                    generalize pV L j = pj at *
                    go_wp2_with fail
                    go_region_held3 (fun v => Below w10.heap.size w10 v ∧ v.cell? ⟨q, o + j * 2, none⟩ = some (.int .i64 yn) ∧ v.cell? ⟨q, o + j * 2 + 1, none⟩ = some (.slice ya nd yc) ∧ v.cell? ⟨w5.heap.size, j, none⟩ = some (.bool (!pj)))
                      (first | exact KH.out _ hbj.drew | exact KH.out _ (by assumption))
                      (first
                        | (go_at_call 30; refine (OVR.out _ (by first | assumption | exact hbj.drew)).mono ?_; rintro e v ⟨rfl, bv⟩; have bb : Below w10.heap.size w10 v := Below.on (Nat.le_refl _) (by first | assumption | exact hbj.drew) bv; clear bv))
                    all_goals
                      cases pj
                      · go_wp2
                        go_round
                        case rel => exact ⟨j + 1, by go_num, by omega, by assumption⟩
                        case measure => simp [intOf]; omega
                      · go_wp2
                        go_round
                        case rel => exact ⟨j + 1, by go_num, by omega, by assumption⟩
                        case measure => simp [intOf]; omega
                  · obtain rfl : j = k' := by omega
                    go_wp2
                    go_ret
                    exact ⟨rfl, b10.trans (hbj.mono b10.size)⟩
  · have BAD := hide hbad
    clear hbad
    go_wp2_with fail
    refine (aliveU L al n cl w2 (HW.out.bel b2) (by omega)).mono ?_
    rintro e w3 ⟨⟨hok, _⟩ | ⟨_, rfl⟩, b3'⟩
    · exact absurd hok BAD.out
    have b3 : Below w.heap.size w w3 := b2.trans (b3'.mono b2.size)
    clear b3' b2
    iterate 3
      go_wp2_with fail
      refine (num_any _ _).mono ?_
      rintro e w4 ⟨rfl, e1⟩
      have e1 := e1.symm
      subst e1
    go_wp2
    go_ret
    exact ⟨rfl, b3⟩

end Go.Proofs.Ytcchnaldanibgaa
