import Derived.Test.YtcchnaldanibgaaXf
namespace Go.Proofs.Ytcchnaldanibgaa
open Go.RowKit
set_option linter.unusedVariables false
set_option linter.unusedSimpArgs false

set_option maxRecDepth 100000 in
set_option maxHeartbeats 2000000 in
theorem apartints_any (b q c n : Nat) (L : List Ent) (w : World) (hc : w.cell? ⟨b, 1, none⟩ = some (.slice (some ⟨q, 0, none⟩) n c)) (hn : L.length = n) (hn0 : n ≤ c) (hn1 : c ≤ maxLen) (h : LB w q L) (own : ∀ i e, L[i]? = some e → MkJ w e i 0) :
    Calls Try.prog 57 #[.pointer (some ⟨b, 0, none⟩)] w fun e w' => e = .returned (.bool true) ∧ Upd (bls L) w w' := by
  have LBH := hide h
  have HN := hide hn
  have hq := h.lt
  have hl := h.len
  unfold maxLen at hn1
  rw [hn] at hl
  clear h hn
  go_enter Try.func57, Try.ntmps57
  go_wp2
  go_loopw [4] (fun i wr => ∃ j : Nat, i = .int .i64 (j : Int) ∧ j ≤ n ∧ Upd (bls L) w wr ∧ ∀ t e, L[t]? = some e → MkJ wr e t (if t < j then e.n else 0)) (fun i _ => n - (intOf i).toNat)
  case atStart => exact ⟨0, rfl, Nat.zero_le _, Upd.refl _ _, fun t e ht => by rw [if_neg (by omega)]; exact own t e ht⟩
  case round =>
    obtain ⟨j, rfl, hj, hu, hm⟩ := hrel
    have HM := hide hm
    clear hm
    by_cases hlt : j < n
    · obtain ⟨y, hy⟩ : ∃ y, L[j]? = some y := ⟨_, List.getElem?_eq_getElem (by rw [HN.out]; exact hlt)⟩
      have r0 := (LBH.out.upd hu).row j y hy
      obtain ⟨_, y0, y1⟩ := LBH.out.out j y hy
      have HY := hide hy
      have cp := (HM.out j y hy).cap
      unfold maxLen at cp
      obtain ⟨cp1, cp2⟩ := cp
      have hqr : q < wr.heap.size := Nat.lt_of_lt_of_le hq hu.size
      clear hy
      go_wp2
      go_loopw [5] (fun i ws => ∃ k : Nat, i = .int .i64 (k : Int) ∧ k ≤ y.n ∧ Upd (bls L) w ws ∧ MkJ ws y j k ∧ ∀ t e, t ≠ j → L[t]? = some e → MkJ ws e t (if t < j then e.n else 0)) (fun i _ => y.n - (intOf i).toNat)
      case atStart => exact ⟨0, rfl, Nat.zero_le _, hu, (HM.out j y HY.out).zero j, fun t e _ ht => HM.out t e ht⟩
      case round =>
        obtain ⟨k, rfl, hk, hu2, hm2, hm3⟩ := hrel
        have r1 := (LBH.out.upd hu2).row j y HY.out
        by_cases hlt2 : k < y.n
        · have M3 := hide hm3
          have M2 := hide hm2
          have hyS : bls L y.g := ⟨y, List.mem_of_getElem? HY.out, rfl⟩
          have KS : Hid (∀ v, Below wr.heap.size wr v → (Upd (bls L) w v ∧ v.cell? ⟨q, j, none⟩ = some (.slice (some ⟨y.g, 0, none⟩) y.n y.c) ∧ v.cell? ⟨y.g, k, none⟩ = some (.int .i64 (cellOf v ⟨y.g, k, none⟩)) ∧ v.frozen? ⟨y.g, k, none⟩ = false)) := fun v bv => MkJ.held LBH.out HY.out (hu2.trans (Upd.of_below bv)) (M2.out.bel bv) hlt2
          have KS2 : Hid (∀ v, Below wr.heap.size wr v → _) := fun v bv => MkJ.held (k := k) LBH.out HY.out ((hu2.trans (Upd.of_below bv)).setCell (p := ⟨y.g, k, none⟩) (.inl hyS) (.int .i64 (mkJ j k))) ((M2.out.bel bv).set hlt2) hlt2
          have bd := (Below.refl wr.heap.size wr).drew
          clear hm2 hm3
          go_wp2_with fail
          go_region_held3 (fun v => Upd (bls L) w v ∧ v.cell? ⟨q, j, none⟩ = some (.slice (some ⟨y.g, 0, none⟩) y.n y.c) ∧ v.cell? ⟨y.g, k, none⟩ = some (.int .i64 (cellOf v ⟨y.g, k, none⟩)) ∧ v.frozen? ⟨y.g, k, none⟩ = false)
            (first | exact KS.out _ bd | exact KS.out _ (by assumption) | exact KS2.out _ (by assumption))
            (first
              | (go_at_call 75; refine (markint_any j k _ (by omega) (by omega)).mono ?_; rintro e v ⟨rfl, bv⟩; have bb : Below wr.heap.size wr v := Below.on (Nat.le_refl _) (by first | assumption | exact bd) bv; clear bv))
          have hu3 := (hu2.trans (Upd.of_below bb)).setCell (p := ⟨y.g, k, none⟩) (.inl hyS) (.int .i64 (mkJ j k))
          have hm3 := (M2.out.bel bb).set hlt2
          have hm4 : ∀ t e, t ≠ j → L[t]? = some e → MkJ (v.setCell ⟨y.g, k, none⟩ (.int .i64 (mkJ j k))) e t (if t < j then e.n else 0) := fun t e ht he => by
            have hne : e.g ≠ y.g := fun hh => ht (LBH.out.dif t j e y he HY.out hh)
            exact ((M3.out t e ht he).bel bb).other (p := ⟨y.g, k, none⟩) hne _
          clear KS KS2 M2 M3
          go_wp2
          go_round
          case rel => exact ⟨k + 1, by go_num, by omega, hu3, hm3, hm4⟩
          case measure => simp [intOf]; omega
        · obtain rfl : k = y.n := by omega
          have M3 := hide hm3
          have M2 := hide hm2
          clear hm2 hm3
          go_wp2
          go_round
          case rel =>
            refine ⟨j + 1, by go_num, by omega, hu2, fun t e ht => ?_⟩
            by_cases h1 : t = j
            · subst h1
              rw [if_pos (by omega)]
              have := HY.out
              rw [ht] at this
              cases this
              exact M2.out
            · have := M3.out t e h1 ht
              by_cases h2 : t < j
              · rw [if_pos h2] at this
                rw [if_pos (by omega)]
                exact this
              · rw [if_neg h2] at this
                rw [if_neg (by omega)]
                exact this
          case measure => simp [intOf]; omega
    · obtain rfl : j = n := by omega
      have M1 : Hid (∀ t e, L[t]? = some e → MkJ wr e t e.n) := fun t e ht => by
        have := HM.out t e ht
        have hlt3 := (List.getElem?_eq_some_iff.1 ht).1
        rw [HN.out] at hlt3
        rw [if_pos hlt3] at this
        exact this
      clear HM own hc
      obtain ⟨w2, hw2⟩ : ∃ w2, w2 = wr := ⟨_, rfl⟩
      subst hw2
      go_wp2
      go_loopw [7, 6] (fun i v ws => ∃ t : Nat, i = .int .i64 (t : Int) ∧ t ≤ j ∧ ∃ Gs, PGJ w L w2 t v Gs ws) (fun i _ _ => j - (intOf i).toNat)
      case atStart => exact ⟨0, rfl, Nat.zero_le _, [], rfl, OwnVJ.nil _ _, hu, Nat.le_refl _, (fun t x hx => by cases hx), fun t e ht => ⟨(M1.out t e ht).sh, fun _ => M1.out t e ht⟩⟩
      case round =>
        obtain ⟨t, rfl, ht, Gs, ph⟩ := hrel
        have PP := hide ph
        have hu1 := ph.upd
        clear ph
        by_cases hlt2 : t < j
        · obtain ⟨y, hy⟩ : ∃ y, L[t]? = some y := ⟨_, List.getElem?_eq_getElem (by rw [HN.out]; exact hlt2)⟩
          have r0 := (LBH.out.upd hu1).row t y hy
          obtain ⟨_, y0, y1⟩ := LBH.out.out t y hy
          have HY := hide hy
          have mk := (PP.out.mks t y hy).2 (Nat.le_refl _)
          have OW := hide mk.own
          have SH := hide mk.sh
          have cp := mk.cap
          unfold maxLen at cp
          obtain ⟨cp1, cp2⟩ := cp
          have hqr : q < wr.heap.size := Nat.lt_of_lt_of_le hq hu1.size
          obtain ⟨wi, hwi⟩ : ∃ wi, wi = wr := ⟨_, rfl⟩
          subst hwi
          clear hy mk
          go_wp2
          go_loopw [9, 8] (fun i v ws => ∃ m : Nat, i = .int .i64 (m : Int) ∧ m ≤ 70 ∧ PIJ wi y t m v ws) (fun i _ _ => 70 - (intOf i).toNat)
          case atStart => exact ⟨0, rfl, by omega, OW.out, ⟨y.g, rfl, .inl rfl⟩, Upd.refl _ _, SH.out⟩
          case round =>
            obtain ⟨m, rfl, hm, pi⟩ := hrel
            have PJ := hide pi
            obtain ⟨a8, c8, hv8, k8, k8', _⟩ := pi.own.form
            rw [mkLJ_length] at hv8 k8
            unfold maxLen at k8'
            subst hv8
            clear pi
            by_cases hlt3 : m < 70
            · have MD : Hid (Calls Try.prog 75 #[.int .i64 (t : Int), .int .i64 ((y.n : Int) + (m : Int))] wr fun e w' => e = .returned (.int .i64 (mkJ t (y.n + m))) ∧ Below wr.heap.size wr w') := by
                have := markint_any t (y.n + m) wr (by omega) (by omega)
                rw [Int.natCast_add] at this
                exact this
              go_wp2_with fail
              refine MD.out.mono ?_
              rintro e w3 ⟨rfl, b3⟩
              have b4 : Below wr.heap.size wr (w3.alloc (.cells #[.int .i64 (mkJ t (y.n + m))] 3)) := b3.alloc b3.size _
              have HO := hide (PJ.out.own.bel b4 (Nat.le_refl _))
              go_wp2_with (at_builtin; go_must (refine app_intN _ rfl _ _ rfl 0 (mkLJ t (y.n + m)) _ rfl ⟨w3.heap.size, 0, none⟩ rfl (mkJ t (y.n + m)) (by simp) HO.out (Nat.zero_le _) (by rw [mkLJ_length]; omega) (mkLJ_ne (by omega)) ?_))
              intro v' w4 o4 g4 at4
              have pj := PJ.out.step b4 o4 g4 (by simpa using at4)
              clear HO MD o4 g4 at4 PJ
              go_wp2
              go_round
              case rel => exact ⟨m + 1, by go_num, by omega, pj⟩
              case measure => simp [intOf]; omega
            · obtain rfl : m = 70 := by omega
              obtain ⟨g8, hg8, _⟩ := PJ.out.at_
              obtain ⟨x8, rfl⟩ : ∃ x8, a8 = some x8 := by
                match a8, hg8 with
                | some x8, _ => exact ⟨x8, rfl⟩
              obtain ⟨g9, hx8⟩ : ∃ g9, x8 = ⟨g9, 0, none⟩ := by
                obtain ⟨a', c', hf', _, _, _, hx⟩ := PJ.out.own.form
                injection hf' with f1 f2 f3
                obtain ⟨g2, hx2, _⟩ := hx x8 f1.symm
                exact ⟨g2, hx2⟩
              subst hx8
              have YL : ∀ (s : Nat) (e : Ent), L[s]? = some e → e.g < w2.heap.size := fun s e he => (M1.out s e he).lt
              have b5 : Below wr.heap.size wr (wr.alloc (.cells #[.slice (some ⟨g9, 0, none⟩) (y.n + 70) c8] 62)) := (Below.refl _ _).alloc (Nat.le_refl _) _
              have OV := hide ((PP.out.own.upd PJ.out.upd (fun k hk e => by have := YL t y HY.out; subst e; omega)).bel b5 (Nat.le_refl _))
              have hs7 := PP.out.size
              have hs8 := PJ.out.upd.size
              have GLn := hide PP.out.len
              clear hg8
              go_wp2_with (at_builtin; go_must (refine app_vecJ _ rfl _ _ rfl w2.heap.size Gs _ rfl ⟨wr.heap.size, 0, none⟩ rfl ⟨some ⟨g9, 0, none⟩, c8, mkLJ t (y.n + 70)⟩ (by rw [mkLJ_length]; simp) OV.out (by simp; omega) (by rw [GLn.out]; omega) ?_))
              intro v' w4 o4 g4
              have pg := PP.out.step PJ.out HY.out YL LBH.out.dif hu b5 o4 g4 OV.out
              clear OV o4 g4 PJ PP YL
              go_wp2
              go_round
              case rel => exact ⟨t + 1, by go_num, by omega, _, pg⟩
              case measure => simp [intOf]; omega
        · obtain rfl : t = j := by omega
          obtain ⟨a3, c3, hv3, m3, m3', p3⟩ := PP.out.own.form'
          rw [PP.out.len] at hv3 m3
          unfold maxLen at m3'
          subst hv3
          have P3 := hide p3
          clear p3
          obtain ⟨w5, hw5⟩ : ∃ w5, w5 = wr := ⟨_, rfl⟩
          subst hw5
          go_wp2
          go_loopw [10] (fun i ws => ∃ s : Nat, i = .int .i64 (s : Int) ∧ s ≤ t ∧ Below w5.heap.size w5 ws) (fun i _ => t - (intOf i).toNat)
          case atStart => exact ⟨0, rfl, Nat.zero_le _, Below.refl _ _⟩
          case round =>
            obtain ⟨s, rfl, hs, hb⟩ := hrel
            by_cases hlt3 : s < t
            · obtain ⟨x, hx⟩ : ∃ x, Gs[s]? = some x := ⟨_, List.getElem?_eq_getElem (by rw [PP.out.len]; exact hlt3)⟩
              obtain ⟨y, g', hy, hxD, hxa, _, hxo⟩ := PP.out.each s x hx
              obtain ⟨g3, rfl, _, hg3⟩ := P3.out (by rintro rfl; simp at hx)
              have r3 := PP.out.own.cell s x hx
              rw [hxD, mkLJ_length, hxa] at r3
              rw [hxD, mkLJ_length] at hxo
              have r1 := (LBH.out.upd hu1).row s y hy
              obtain ⟨_, y0, y1⟩ := LBH.out.out s y hy
              have hqr : q < w5.heap.size := Nat.lt_of_lt_of_le hq hu1.size
              have XO := hide hxo
              have SHY := hide (PP.out.mks s y hy).1
              have hgl := (hxo.blk g' rfl).2
              obtain ⟨_, cx, hfx, hc1, hc2, _⟩ := hxo.form
              rw [mkLJ_length] at hfx hc1
              injection hfx with f1 f2 f3
              subst f3
              clear f1 f2
              unfold maxLen at hc2
              have hgy := SHY.out.1
              generalize x.c = xc at *
              clear hx hxD hxa hxo
              have q3 := (hb.cell (p := ⟨g3, s, none⟩) hg3).trans r3
              go_wp2
              go_loopw [11] (fun i ws => ∃ k : Nat, i = .int .i64 (k : Int) ∧ k ≤ y.n + 70 ∧ Below w5.heap.size w5 ws) (fun i _ => y.n + 70 - (intOf i).toNat)
              case atStart => exact ⟨0, rfl, Nat.zero_le _, hb⟩
              case round =>
                obtain ⟨k, rfl, hk, hb2⟩ := hrel
                have q4 := (hb2.cell (p := ⟨g3, s, none⟩) hg3).trans r3
                by_cases hlt4 : k < y.n + 70
                · have MD : Hid (∀ v, Calls Try.prog 75 #[.int .i64 (s : Int), .int .i64 (k : Int)] v fun e w' => e = .returned (.int .i64 (mkJ s k)) ∧ Below v.heap.size v w') := fun v => markint_any s k v (by omega) (by omega)
                  have e0 := XO.out.cell k (mkJ s k) (mkLJ_at _ _ _ hlt4)
                  have bd := hb2.drew
                  by_cases hlt5 : k < y.n
                  · have e2 := SHY.out.2 k hlt5
                    generalize mkJ s k = h0 at *
                    have KS : Hid (∀ v, Below w5.heap.size w5 v → (Below w5.heap.size w5 v ∧ v.cell? ⟨g3, s, none⟩ = some (.slice (some ⟨g', 0, none⟩) (y.n + 70) xc) ∧ v.cell? ⟨g', k, none⟩ = some (.int .i64 h0) ∧ v.cell? ⟨q, s, none⟩ = some (.slice (some ⟨y.g, 0, none⟩) y.n y.c) ∧ v.cell? ⟨y.g, k, none⟩ = some (.int .i64 h0))) := fun v bv =>
                      ⟨bv, (bv.cell (p := ⟨g3, s, none⟩) hg3).trans r3, (bv.cell (p := ⟨g', k, none⟩) hgl).trans e0, (bv.cell (p := ⟨q, s, none⟩) hqr).trans r1, (bv.cell (p := ⟨y.g, k, none⟩) hgy).trans e2⟩
                    clear e0 e2 r1 r3 q3 PP P3 M1 LBH XO SHY HN
                    go_wp2_with fail
                    go_region_held3 (fun v => Below w5.heap.size w5 v ∧ v.cell? ⟨g3, s, none⟩ = some (.slice (some ⟨g', 0, none⟩) (y.n + 70) xc) ∧ v.cell? ⟨g', k, none⟩ = some (.int .i64 h0) ∧ v.cell? ⟨q, s, none⟩ = some (.slice (some ⟨y.g, 0, none⟩) y.n y.c) ∧ v.cell? ⟨y.g, k, none⟩ = some (.int .i64 h0))
                      (first | exact KS.out _ bd | exact KS.out _ (by assumption))
                      (first
                        | (go_at_call 75; refine (MD.out _).mono ?_; rintro e v ⟨rfl, bv⟩; have bb : Below w5.heap.size w5 v := Below.on (Nat.le_refl _) (by first | assumption | exact bd) bv; clear bv))
                    clear KS MD
                    go_wp2
                    go_round
                    case rel => exact ⟨k + 1, by go_num, by omega, bb⟩
                    case measure => simp [intOf]; omega
                  · have f5 : decide ((k : Int) < (y.n : Int)) = false := by simp; omega
                    generalize mkJ s k = h0 at *
                    have KS : Hid (∀ v, Below w5.heap.size w5 v → (Below w5.heap.size w5 v ∧ v.cell? ⟨g3, s, none⟩ = some (.slice (some ⟨g', 0, none⟩) (y.n + 70) xc) ∧ v.cell? ⟨g', k, none⟩ = some (.int .i64 h0) ∧ v.cell? ⟨q, s, none⟩ = some (.slice (some ⟨y.g, 0, none⟩) y.n y.c))) := fun v bv =>
                      ⟨bv, (bv.cell (p := ⟨g3, s, none⟩) hg3).trans r3, (bv.cell (p := ⟨g', k, none⟩) hgl).trans e0, (bv.cell (p := ⟨q, s, none⟩) hqr).trans r1⟩
                    clear e0 r1 r3 q3 PP P3 M1 LBH XO SHY HN
                    go_wp2_with fail
                    refine wp_region_quietC' (C := fun v => Below w5.heap.size w5 v ∧ v.cell? ⟨g3, s, none⟩ = some (.slice (some ⟨g', 0, none⟩) (y.n + 70) xc) ∧ v.cell? ⟨g', k, none⟩ = some (.int .i64 h0) ∧ v.cell? ⟨q, s, none⟩ = some (.slice (some ⟨y.g, 0, none⟩) y.n y.c)) (by kernel_rfl) (by kernel_rfl) (KS.out _ bd) ?_
                    refine BigFrame.wpQuiet_want (by rfl) (fun K hK => ⟨.slice (some ⟨g3, 0, none⟩) t c3, fun w' hw' => ?_, hK _ ?_⟩)
                    · go_simp
                    clear hK
                    simp only [Act.put, List.setIfInBounds_toArray, List.set_cons_zero, List.set_cons_succ]
                    refine BigFrame.wpQuiet_want (by rfl) (fun K hK => ⟨.int .i64 (s : Int), fun w' hw' => ?_, hK _ ?_⟩)
                    · go_simp
                    clear hK
                    simp only [Act.put, List.setIfInBounds_toArray, List.set_cons_zero, List.set_cons_succ]
                    refine BigFrame.wpQuiet_want (by rfl) (fun K hK => ⟨.pointer (some ⟨g3, s, none⟩), fun w' hw' => ?_, hK _ ?_⟩)
                    · go_simp
                    clear hK
                    simp only [Act.put, List.setIfInBounds_toArray, List.set_cons_zero, List.set_cons_succ]
                    refine BigFrame.wpQuiet_want (by rfl) (fun K hK => ⟨.slice (some ⟨g', 0, none⟩) (y.n + 70) xc, fun w' hw' => ?_, hK _ ?_⟩)
                    · (obtain ⟨_, e1, _⟩ := hw'; go_simp)
                    clear hK
                    simp only [Act.put, List.setIfInBounds_toArray, List.set_cons_zero, List.set_cons_succ]
                    refine BigFrame.wpQuiet_want (by rfl) (fun K hK => ⟨.int .i64 (k : Int), fun w' hw' => ?_, hK _ ?_⟩)
                    · go_simp
                    clear hK
                    simp only [Act.put, List.setIfInBounds_toArray, List.set_cons_zero, List.set_cons_succ]
                    refine BigFrame.wpQuiet_want (by rfl) (fun K hK => ⟨.pointer (some ⟨g', k, none⟩), fun w' hw' => ?_, hK _ ?_⟩)
                    · go_simp
                    clear hK
                    simp only [Act.put, List.setIfInBounds_toArray, List.set_cons_zero, List.set_cons_succ]
                    refine BigFrame.wpQuiet_want (by rfl) (fun K hK => ⟨.int .i64 h0, fun w' hw' => ?_, hK _ ?_⟩)
                    · (obtain ⟨_, _, e1, _⟩ := hw'; go_simp)
                    clear hK
                    simp only [Act.put, List.setIfInBounds_toArray, List.set_cons_zero, List.set_cons_succ]
                    refine BigFrame.wpQuiet_want (by rfl) (fun K hK => ⟨.int .i64 (s : Int), fun w' hw' => ?_, hK _ ?_⟩)
                    · go_simp
                    clear hK
                    simp only [Act.put, List.setIfInBounds_toArray, List.set_cons_zero, List.set_cons_succ]
                    refine BigFrame.wpQuiet_want (by rfl) (fun K hK => ⟨.int .i64 (k : Int), fun w' hw' => ?_, hK _ ?_⟩)
                    · go_simp
                    clear hK
                    simp only [Act.put, List.setIfInBounds_toArray, List.set_cons_zero, List.set_cons_succ]
                    refine BigFrame.wpQuiet_want (by rfl) (fun K hK => ⟨.int .i64 h0, fun w' hw' => ?_, hK _ ?_⟩)
                    · (go_simp; exact (MD.out w').mono (fun e w'' ⟨he, bv⟩ => ⟨he, KS.out w'' (Below.on (Nat.le_refl _) hw'.1 bv)⟩))
                    clear hK
                    simp only [Act.put, List.setIfInBounds_toArray, List.set_cons_zero, List.set_cons_succ]
                    refine BigFrame.wpQuiet_want (by rfl) (fun K hK => ⟨.bool false, fun w' hw' => ?_, hK _ ?_⟩)
                    · go_simp
                    clear hK
                    simp only [Act.put, List.setIfInBounds_toArray, List.set_cons_zero, List.set_cons_succ]
                    refine BigFrame.wpQuiet_want (by rfl) (fun K hK => ⟨.bool false, fun w' hw' => ?_, hK _ ?_⟩)
                    · go_simp
                    clear hK
                    simp only [Act.put, List.setIfInBounds_toArray, List.set_cons_zero, List.set_cons_succ]
                    refine BigFrame.wpQuiet_want (by rfl) (fun K hK => ⟨.int .i64 (k : Int), fun w' hw' => ?_, hK _ ?_⟩)
                    · go_simp
                    clear hK
                    simp only [Act.put, List.setIfInBounds_toArray, List.set_cons_zero, List.set_cons_succ]
                    refine BigFrame.wpQuiet_want (by rfl) (fun K hK => ⟨.slice (some ⟨q, 0, none⟩) t c, fun w' hw' => ?_, hK _ ?_⟩)
                    · go_simp
                    clear hK
                    simp only [Act.put, List.setIfInBounds_toArray, List.set_cons_zero, List.set_cons_succ]
                    refine BigFrame.wpQuiet_want (by rfl) (fun K hK => ⟨.int .i64 (s : Int), fun w' hw' => ?_, hK _ ?_⟩)
                    · go_simp
                    clear hK
                    simp only [Act.put, List.setIfInBounds_toArray, List.set_cons_zero, List.set_cons_succ]
                    refine BigFrame.wpQuiet_want (by rfl) (fun K hK => ⟨.pointer (some ⟨q, s, none⟩), fun w' hw' => ?_, hK _ ?_⟩)
                    · go_simp
                    clear hK
                    simp only [Act.put, List.setIfInBounds_toArray, List.set_cons_zero, List.set_cons_succ]
                    refine BigFrame.wpQuiet_want (by rfl) (fun K hK => ⟨.slice (some ⟨y.g, 0, none⟩) y.n y.c, fun w' hw' => ?_, hK _ ?_⟩)
                    · (obtain ⟨_, _, _, e1⟩ := hw'; go_simp)
                    clear hK
                    simp only [Act.put, List.setIfInBounds_toArray, List.set_cons_zero, List.set_cons_succ]
                    refine BigFrame.wpQuiet_want (by rfl) (fun K hK => ⟨.int .i64 (y.n : Int), fun w' hw' => ?_, hK _ ?_⟩)
                    · go_simp
                    clear hK
                    simp only [Act.put, List.setIfInBounds_toArray, List.set_cons_zero, List.set_cons_succ]
                    refine BigFrame.wpQuiet_want (by rfl) (fun K hK => ⟨.bool false, fun w' hw' => ?_, hK _ ?_⟩)
                    · go_simp
                    clear hK
                    simp only [Act.put, List.setIfInBounds_toArray, List.set_cons_zero, List.set_cons_succ]
                    refine BigFrame.wpQuiet_want (by rfl) (fun K hK => ⟨.bool false, fun w' hw' => ?_, hK _ ?_⟩)
                    · go_simp
                    clear hK
                    simp only [Act.put, List.setIfInBounds_toArray, List.set_cons_zero, List.set_cons_succ]
                    go_big_quiet_skip
                    go_big_quiet_skip
                    go_big_quiet_skip
                    go_big_quiet_skip
                    go_big_quiet_skip
                    go_big_quiet_skip
                    go_big_quiet_skip
                    go_big_quiet_skip
                    go_big_quiet_skip
                    go_big_quiet_skip
                    go_big_quiet_skip
                    refine BigFrame.wpQuiet_want (by rfl) (fun K hK => ⟨.bool false, fun w' hw' => ?_, hK _ ?_⟩)
                    · go_simp
                    clear hK
                    simp only [Act.put, List.setIfInBounds_toArray, List.set_cons_zero, List.set_cons_succ]
                    refine BigFrame.wpQuiet_want (by rfl) (fun K hK => ⟨.bool false, fun w' hw' => ?_, hK _ ?_⟩)
                    · go_simp
                    clear hK
                    simp only [Act.put, List.setIfInBounds_toArray, List.set_cons_zero, List.set_cons_succ]
                    refine wpQuiet_nil ?_
                    rintro v ⟨bb, _⟩
                    clear KS MD
                    go_wp2
                    go_round
                    case rel => exact ⟨k + 1, by go_num, by omega, bb⟩
                    case measure => simp [intOf]; omega
                · obtain rfl : k = y.n + 70 := by omega
                  clear PP P3 M1 LBH XO SHY HN
                  go_wp2
                  go_round
                  case rel => exact ⟨s + 1, by go_num, by omega, hb2⟩
                  case measure => simp [intOf]; omega
            · obtain rfl : s = t := by omega
              have hfin : Upd (bls L) w wr := hu1.trans (Upd.of_below hb)
              clear PP P3 M1 LBH HN
              go_wp2
              go_ret
              exact ⟨rfl, hfin⟩

end Go.Proofs.Ytcchnaldanibgaa
