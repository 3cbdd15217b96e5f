import Derived.Test.YtacalgpdhgpmbaaBm
import Derived.Test.YtacalgpdhgpmbaaGLi
namespace Go.Proofs.Ytacalgpdhgpmbaa
open Go.RowKit
open Classical
set_option linter.unusedVariables false
set_option linter.unusedSimpArgs false

set_option maxRecDepth 100000 in
set_option maxHeartbeats 8000000 in
theorem own4_walk (P Q : List Opn) (a q : Option Addr) (ca cq : Nat) (w : World) (hP : Ops w a P) (hfP : ∀ p ∈ P, p.fits) (hlP : P.length * 32 ≤ 140737488351232) (hn : a = none → P.length = 0 ∧ ca = 0) (hQ : Ops w q Q) (hfQ : ∀ p ∈ Q, p.fits) (hlQ : Q.length * 32 ≤ 140737488351232) :
    Calls Try.prog 12 #[.slice a P.length ca, .slice q Q.length cq] w fun e w' => e = .returned (.bool true) ∧ Below w.heap.size w w' := by
  have HP : Hid (∀ v, Below w.heap.size w v → Ops v a P) := fun v b => hP.later b
  have HQ : Hid (∀ v, Below w.heap.size w v → Ops v q Q) := fun v b => hQ.later b
  have HF := hide hfP
  have HG := hide hfQ
  clear hP hQ hfP hfQ
  go_enter Try.func12, Try.ntmps12
  go_wp2_with fail
  refine (new_b w.heap.size w w (Below.refl _ _) (Nat.le_refl _)).mono ?_
  rintro e w1 ⟨rfl, l1, s1⟩
  go_wp2_with fail
  refine (new_any w1).mono ?_
  rintro e w2 ⟨rfl, l2, u2, s2⟩
  have T2 : Two w.heap.size w w2 w.heap.size [] w1.heap.size [] := Two.new l1 l2 (u2.below (Nat.le_refl _) (fun _ h => h.elim)) (Nat.le_refl _) (fun j e => by cases e)
  rw [s1] at T2 ⊢
  clear l1 l2 u2 s1 s2
  go_wp2_with (go_at_call 16; refine (works_any _).mono ?_; rintro e w3 ⟨rfl, b3⟩; have T3 := T2.on b3)
  generalize hB : w.heap.size = B at *
  have HB := hide hB
  clear hB
  clear T2 b3
  go_loopw [7] (fun i wr => ∃ j : Nat, i = .int .i64 (j : Int) ∧ j ≤ P.length ∧ Two B w wr B (pl [] (P.take j)) (B + 1) []) (fun i _ => P.length - (intOf i).toNat)
  case atStart => exact ⟨0, rfl, Nat.zero_le _, T3⟩
  case round =>
    obtain ⟨j, rfl, hj, T⟩ := hrel
    by_cases hlt : j < P.length
    · have hg : P[j]? = some P[j] := List.getElem?_eq_getElem hlt
      have ht := pl_take [] hg
      have hfj := HF.out P[j] (List.getElem_mem hlt)
      obtain ⟨g, o, ea, c0, c1, c2⟩ := HP.out wr T.bel j hlt
      generalize P[j] = p at *
      obtain ⟨k, s, v⟩ := p
      subst ea
      dsimp only at c0 c1 c2 ht
      have hth := hide ht
      generalize pl [] (P.take j) = L at *
      clear ht hg
      have cd := hide (do_2 B w B (B + 1) L [] k s v hfj wr T)
      clear T
      go_wp2_with (go_at_call 28; refine cd.out.mono ?_; rintro e w5 ⟨rfl, T5, K5, s5⟩)
      rw [← hth.out] at T5
      clear cd K5
      go_wp2
      go_round
      case rel => exact ⟨j + 1, by go_num, by omega, T5⟩
      case measure => first | (simp [intOf]; done) | (simp [intOf]; omega)
    · obtain rfl : j = P.length := by omega
      rw [List.take_length] at T
      go_wp2_with fail
      go_loopw [8] (fun i wr => ∃ j : Nat, i = .int .i64 (j : Int) ∧ j ≤ Q.length ∧ Two B w wr B (pl [] P) (B + 1) (pl [] (Q.take j))) (fun i _ => Q.length - (intOf i).toNat)
      case atStart => exact ⟨0, rfl, Nat.zero_le _, T⟩
      case round =>
        obtain ⟨j, rfl, hj, T⟩ := hrel
        by_cases hlt : j < Q.length
        · have hg : Q[j]? = some Q[j] := List.getElem?_eq_getElem hlt
          have ht := pl_take [] hg
          have hfj := HG.out Q[j] (List.getElem_mem hlt)
          obtain ⟨g, o, ea, c0, c1, c2⟩ := HQ.out wr T.bel j hlt
          generalize Q[j] = p at *
          obtain ⟨k, s, v⟩ := p
          subst ea
          dsimp only at c0 c1 c2 ht
          have hth := hide ht
          generalize pl [] (Q.take j) = L at *
          clear ht hg
          have cd := hide (do_2 B w (B + 1) B L (pl [] P) k s v hfj wr T.swap)
          clear T
          go_wp2_with (go_at_call 28; refine cd.out.mono ?_; rintro e w5 ⟨rfl, T5, K5, s5⟩)
          rw [← hth.out] at T5
          clear cd K5
          go_wp2
          go_round
          case rel => exact ⟨j + 1, by go_num, by omega, T5.swap⟩
          case measure => first | (simp [intOf]; done) | (simp [intOf]; omega)
        · obtain rfl : j = Q.length := by omega
          rw [List.take_length] at T
          obtain ⟨w4, hw4⟩ : ∃ w4, w4 = wr := ⟨_, rfl⟩
          subst hw4
          obtain ⟨m1, m2, L1, L2, h1, h2, h3, h4, h5, h6, bel0⟩ := T
          have KL : Hid (∀ v, Below w4.heap.size w4 v → Led v B m1 (pl [] P) ∧ Led v (B + 1) m2 (pl [] Q)) := fun v b => ⟨L1.upd (S := fun _ => False) (Upd.of_below b) id (fun _ _ => id), L2.upd (S := fun _ => False) (Upd.of_below b) id (fun _ _ => id)⟩
          have hBw : B ≤ w4.heap.size := by have := L1.lt; omega
          have PQ : Hid (∀ v, Below w4.heap.size w4 v → Ops v a P ∧ Ops v q Q) := fun v b => ⟨HP.out v (bel0.trans (b.mono hBw)), HQ.out v (bel0.trans (b.mono hBw))⟩
          have hc1 := L1.ok.len_le
          have hc2 := L2.ok.len_le
          have BEL := hide bel0
          clear L1 L2 h1 h2 h3 h4 h5 h6 bel0
          have hbc : Hid (∀ i, i < 10 → (w4.alloc (.cells #[.slice none 0 0, .slice none 0 0, .slice none 0 0, .slice none 0 0, .slice none 0 0, .slice none 0 0, .slice none 0 0, .slice none 0 0, .slice none 0 0, .slice none 0 0] 74)).cell? ⟨w4.heap.size, i, none⟩ = some (.slice none 0 0)) := fun i hi => by
            rw [World.cell?_alloc_at _ _ _ _ rfl]
            rcases (by omega : i = 0 ∨ i = 1 ∨ i = 2 ∨ i = 3 ∨ i = 4 ∨ i = 5 ∨ i = 6 ∨ i = 7 ∨ i = 8 ∨ i = 9) with rfl | rfl | rfl | rfl | rfl | rfl | rfl | rfl | rfl | rfl <;> rfl
          have hbf : Hid (∀ i, (w4.alloc (.cells #[.slice none 0 0, .slice none 0 0, .slice none 0 0, .slice none 0 0, .slice none 0 0, .slice none 0 0, .slice none 0 0, .slice none 0 0, .slice none 0 0, .slice none 0 0] 74)).frozen? ⟨w4.heap.size, i, none⟩ = false) := fun i => by simp
          have B5 : Hid (Below w4.heap.size w4 (w4.alloc (.cells #[.slice none 0 0, .slice none 0 0, .slice none 0 0, .slice none 0 0, .slice none 0 0, .slice none 0 0, .slice none 0 0, .slice none 0 0, .slice none 0 0, .slice none 0 0] 74))) := (Below.refl _ _).alloc (Nat.le_refl _) _
          have z5 : (w4.alloc (.cells #[.slice none 0 0, .slice none 0 0, .slice none 0 0, .slice none 0 0, .slice none 0 0, .slice none 0 0, .slice none 0 0, .slice none 0 0, .slice none 0 0, .slice none 0 0] 74)).heap.size = w4.heap.size + 1 := by simp
          go_wp2_with (at_builtin; go_must (refine app_ops _ rfl (.tmp 61) (.tmp 62) rfl (w4.alloc (.cells #[.slice none 0 0, .slice none 0 0, .slice none 0 0, .slice none 0 0, .slice none 0 0, .slice none 0 0, .slice none 0 0, .slice none 0 0, .slice none 0 0, .slice none 0 0] 74)).heap.size [] _ rfl a P ca rfl (PQ.out _ B5.out).1 hn (Own3.nil _ _ _) (Nat.le_refl _) (by simp; omega) ?_))
          intro vo w6 o6 g6
          generalize (w4.alloc (.cells #[.slice none 0 0, .slice none 0 0, .slice none 0 0, .slice none 0 0, .slice none 0 0, .slice none 0 0, .slice none 0 0, .slice none 0 0, .slice none 0 0, .slice none 0 0] 74)) = wb at *
          have b6 : Below wb.heap.size wb w6 := (Below.refl _ _).grown g6 (Nat.le_refl _) (fun k hk => by cases hk)
          have D6 : Hid (Below wb.heap.size wb w6) := b6
          have z6 := b6.size
          have o6 : Own3 23 wb.heap.size w6 vo (P.map Opn.t) := by rw [z5]; exact o6
          have Oo := hide (own3_op o6)
          obtain ⟨ao, co, rfl, ho1, ho2, ho3, ho4⟩ := o6.form
          simp only [List.length_map] at ho1 ho3 ho4 ⊢ Oo
          have HO3 : Hid (∀ j : Nat, j < P.length → ∃ g, ao = some ⟨g, 0, none⟩) := fun j hj => by
            cases ao with
            | none => have := (ho3 rfl).1; simp at this; rw [this] at hj; simp at hj
            | some x => obtain ⟨g, rfl, _⟩ := ho4 x rfl; exact ⟨g, rfl⟩
          unfold maxLen at ho2
          clear o6 g6 b6 ho3 ho4
          have Pc := hide (Pn.nil yCl (fun g => g = w4.heap.size ∨ (Value.slice ao P.length co).ownBlock = some g) w4.heap.size w6)
          have Pr := hide (Pn.nil yRs (fun g => g = w4.heap.size ∨ (Value.slice ao P.length co).ownBlock = some g) w4.heap.size w6)
          have cc := hide (cells_any (B) m1 (pl [] P) w6 (KL.out w6 (B5.out.trans (D6.out.mono (by omega)))).1)
          try dsimp only
          go_wp2_with fail
          refine cc.out.mono ?_
          rintro e w7 ⟨v, rfl, o7, b7⟩
          obtain ⟨a7, c7, rfl, _⟩ := o7.form
          have Pc7 := hide (Pc.out.snoc b7 (by omega) o7.y (by omega) (fun g hg hN => by
              rcases hN with hN | hN
              · omega
              · have := (Oo.out.blk g hN).2; omega))
          have Pr7 := hide (Pr.out.bel b7)
          have Oo7 := hide (Oo.out.grow b7)
          have D7 : Hid (Below wb.heap.size wb w7) := D6.out.trans (b7.mono z6)
          have z7 : wb.heap.size ≤ w7.heap.size := D7.out.size
          clear cc o7 b7 Oo Pc Pr
          have Oo := Oo7
          clear Oo7
          have cc := hide (cells_any (B + 1) m2 (pl [] Q) w7 (KL.out w7 (B5.out.trans (D7.out.mono (by omega)))).2)
          try dsimp only
          go_wp2_with fail
          refine cc.out.mono ?_
          rintro e w8 ⟨v, rfl, o8, b8⟩
          obtain ⟨a8, c8, rfl, _⟩ := o8.form
          have Pc8 := hide (Pc7.out.snoc b8 (by omega) o8.y (by omega) (fun g hg hN => by
              rcases hN with hN | hN
              · omega
              · have := (Oo.out.blk g hN).2; omega))
          have Pr8 := hide (Pr7.out.bel b8)
          have Oo8 := hide (Oo.out.grow b8)
          have D8 : Hid (Below wb.heap.size wb w8) := D7.out.trans (b8.mono z7)
          have z8 : wb.heap.size ≤ w8.heap.size := D8.out.size
          clear cc o8 b8 Oo Pc7 Pr7
          have Oo := Oo8
          clear Oo8
          have cc := hide (cells_any (B) m1 (pl [] P) w8 (KL.out w8 (B5.out.trans (D8.out.mono (by omega)))).1)
          try dsimp only
          go_wp2_with fail
          refine cc.out.mono ?_
          rintro e w9 ⟨v, rfl, o9, b9⟩
          obtain ⟨a9, c9, rfl, _⟩ := o9.form
          have Pc9 := hide (Pc8.out.snoc b9 (by omega) o9.y (by omega) (fun g hg hN => by
              rcases hN with hN | hN
              · omega
              · have := (Oo.out.blk g hN).2; omega))
          have Pr9 := hide (Pr8.out.bel b9)
          have Oo9 := hide (Oo.out.grow b9)
          have D9 : Hid (Below wb.heap.size wb w9) := D8.out.trans (b9.mono z8)
          have z9 : wb.heap.size ≤ w9.heap.size := D9.out.size
          clear cc o9 b9 Oo Pc8 Pr8
          have Oo := Oo9
          clear Oo9
          have cc := hide (replay_any P ao co w9 (Row3.ops (Own3.row Oo.out.op3)) HF.out hlP)
          try dsimp only
          go_wp2_with fail
          refine cc.out.mono ?_
          rintro e w10 ⟨v, v', rfl, o10, r10, b10⟩
          obtain ⟨a10, c10, rfl, _⟩ := o10.form
          obtain ⟨e10, k10, rfl, _⟩ := r10.form
          have Pc10 := hide (Pc9.out.snoc b10 (by omega) o10.y (by omega) (fun g hg hN => by
              rcases hN with hN | hN
              · omega
              · have := (Oo.out.blk g hN).2; omega))
          have Pr10 := hide (Pr9.out.snoc b10 (by omega) (own3_y r10) (by rw [rl_len]; omega) (fun g hg hN => by
              rcases hN with hN | hN
              · omega
              · have := (Oo.out.blk g hN).2; omega))
          have Oo10 := hide (Oo.out.grow b10)
          have D10 : Hid (Below wb.heap.size wb w10) := D9.out.trans (b10.mono z9)
          have z10 : wb.heap.size ≤ w10.heap.size := D10.out.size
          clear cc o10 r10 b10 Oo Pc9 Pr9
          have Oo := Oo10
          clear Oo10
          have cc := hide (replay_any Q q cq w10 (PQ.out _ (B5.out.trans (D10.out.mono (by omega)))).2 HG.out hlQ)
          try dsimp only
          go_wp2_with fail
          refine cc.out.mono ?_
          rintro e w11 ⟨v, v', rfl, o11, r11, b11⟩
          obtain ⟨a11, c11, rfl, _⟩ := o11.form
          obtain ⟨e11, k11, rfl, _⟩ := r11.form
          have Pc11 := hide (Pc10.out.snoc b11 (by omega) o11.y (by omega) (fun g hg hN => by
              rcases hN with hN | hN
              · omega
              · have := (Oo.out.blk g hN).2; omega))
          have Pr11 := hide (Pr10.out.snoc b11 (by omega) (own3_y r11) (by rw [rl_len]; omega) (fun g hg hN => by
              rcases hN with hN | hN
              · omega
              · have := (Oo.out.blk g hN).2; omega))
          have Oo11 := hide (Oo.out.grow b11)
          have D11 : Hid (Below wb.heap.size wb w11) := D10.out.trans (b11.mono z10)
          have z11 : wb.heap.size ≤ w11.heap.size := D11.out.size
          clear cc o11 r11 b11 Oo Pc10 Pr10
          have Oo := Oo11
          clear Oo11
          have cc := hide (replay_any P ao co w11 (Row3.ops (Own3.row Oo.out.op3)) HF.out hlP)
          try dsimp only
          go_wp2_with fail
          refine cc.out.mono ?_
          rintro e w12 ⟨v, v', rfl, o12, r12, b12⟩
          obtain ⟨a12, c12, rfl, _⟩ := o12.form
          obtain ⟨e12, k12, rfl, _⟩ := r12.form
          have Pc12 := hide (Pc11.out.snoc b12 (by omega) o12.y (by omega) (fun g hg hN => by
              rcases hN with hN | hN
              · omega
              · have := (Oo.out.blk g hN).2; omega))
          have Pr12 := hide (Pr11.out.snoc b12 (by omega) (own3_y r12) (by rw [rl_len]; omega) (fun g hg hN => by
              rcases hN with hN | hN
              · omega
              · have := (Oo.out.blk g hN).2; omega))
          have Oo12 := hide (Oo.out.grow b12)
          have D12 : Hid (Below wb.heap.size wb w12) := D11.out.trans (b12.mono z11)
          have z12 : wb.heap.size ≤ w12.heap.size := D12.out.size
          clear cc o12 r12 b12 Oo Pc11 Pr11
          have Oo := Oo12
          clear Oo12
          have cc := hide (Pn.same (a := a7) (a' := a9) (c := c7) (c' := c9) (D := pl [] P) Pc12.out ((List.mem_append_left _ (List.mem_append_left _ (List.mem_append_left _ (List.mem_append_left _ (List.mem_append_left _ (List.mem_append_right _ (List.mem_singleton_self _)))))))) ((List.mem_append_left _ (List.mem_append_left _ (List.mem_append_left _ (List.mem_append_right _ (List.mem_singleton_self _)))))))
          try dsimp only
          go_wp2_with fail
          refine cc.out.mono ?_
          rintro e w13 ⟨rfl, b13⟩
          have Pc13 := hide (Pc12.out.bel b13)
          have Pr13 := hide (Pr12.out.bel b13)
          have Oo13 := hide (Oo.out.grow b13)
          have D13 : Hid (Below wb.heap.size wb w13) := D12.out.trans (b13.mono z12)
          have z13 : wb.heap.size ≤ w13.heap.size := D13.out.size
          clear cc b13 Oo Pc12 Pr12
          have Oo := Oo13
          clear Oo13
          have cc := hide (Pn.same (a := a7) (a' := a10) (c := c7) (c' := c10) (D := pl [] P) Pc13.out ((List.mem_append_left _ (List.mem_append_left _ (List.mem_append_left _ (List.mem_append_left _ (List.mem_append_left _ (List.mem_append_right _ (List.mem_singleton_self _)))))))) ((List.mem_append_left _ (List.mem_append_left _ (List.mem_append_right _ (List.mem_singleton_self _))))))
          try dsimp only
          go_wp2_with fail
          refine cc.out.mono ?_
          rintro e w14 ⟨rfl, b14⟩
          have Pc14 := hide (Pc13.out.bel b14)
          have Pr14 := hide (Pr13.out.bel b14)
          have Oo14 := hide (Oo.out.grow b14)
          have D14 : Hid (Below wb.heap.size wb w14) := D13.out.trans (b14.mono z13)
          have z14 : wb.heap.size ≤ w14.heap.size := D14.out.size
          clear cc b14 Oo Pc13 Pr13
          have Oo := Oo14
          clear Oo14
          have cc := hide (Pn.same (a := a10) (a' := a12) (c := c10) (c' := c12) (D := pl [] P) Pc14.out ((List.mem_append_left _ (List.mem_append_left _ (List.mem_append_right _ (List.mem_singleton_self _))))) ((List.mem_append_right _ (List.mem_singleton_self _))))
          try dsimp only
          go_wp2_with fail
          refine cc.out.mono ?_
          rintro e w15 ⟨rfl, b15⟩
          have Pc15 := hide (Pc14.out.bel b15)
          have Pr15 := hide (Pr14.out.bel b15)
          have Oo15 := hide (Oo.out.grow b15)
          have D15 : Hid (Below wb.heap.size wb w15) := D14.out.trans (b15.mono z14)
          have z15 : wb.heap.size ≤ w15.heap.size := D15.out.size
          clear cc b15 Oo Pc14 Pr14
          have Oo := Oo15
          clear Oo15
          have cc := hide (Pn.sameR (a := e10) (a' := e12) (c := k10) (c' := k12) (D := rl [] P) Pr15.out ((List.mem_append_left _ (List.mem_append_left _ (List.mem_append_right _ (List.mem_singleton_self _))))) ((List.mem_append_right _ (List.mem_singleton_self _))))
          try dsimp only
          go_wp2_with fail
          refine cc.out.mono ?_
          rintro e w16 ⟨rfl, b16⟩
          have Pc16 := hide (Pc15.out.bel b16)
          have Pr16 := hide (Pr15.out.bel b16)
          have Oo16 := hide (Oo.out.grow b16)
          have D16 : Hid (Below wb.heap.size wb w16) := D15.out.trans (b16.mono z15)
          have z16 : wb.heap.size ≤ w16.heap.size := D16.out.size
          clear cc b16 Oo Pc15 Pr15
          have Oo := Oo16
          clear Oo16
          have cc := hide (Pn.same (a := a8) (a' := a11) (c := c8) (c' := c11) (D := pl [] Q) Pc16.out ((List.mem_append_left _ (List.mem_append_left _ (List.mem_append_left _ (List.mem_append_left _ (List.mem_append_right _ (List.mem_singleton_self _))))))) ((List.mem_append_left _ (List.mem_append_right _ (List.mem_singleton_self _)))))
          try dsimp only
          go_wp2_with fail
          refine cc.out.mono ?_
          rintro e w17 ⟨rfl, b17⟩
          have Pc17 := hide (Pc16.out.bel b17)
          have Pr17 := hide (Pr16.out.bel b17)
          have Oo17 := hide (Oo.out.grow b17)
          have D17 : Hid (Below wb.heap.size wb w17) := D16.out.trans (b17.mono z16)
          have z17 : wb.heap.size ≤ w17.heap.size := D17.out.size
          clear cc b17 Oo Pc16 Pr16
          have Oo := Oo17
          clear Oo17
          try dsimp only
          go_wp2_with (at_builtin; go_must (refine app_slC _ rfl (.tmp 108) (.tmp 109) rfl w17.heap.size [] _ rfl a7 c7 (pl [] P) rfl (Pc17.out.slC ((List.mem_append_left _ (List.mem_append_left _ (List.mem_append_left _ (List.mem_append_left _ (List.mem_append_left _ (List.mem_append_right _ (List.mem_singleton_self _))))))))) (OwnC.nil _ _) (Nat.le_refl _) (by simp; omega) ?_))
          intro vw w18 o18 g18
          have b18 : Below w17.heap.size w17 w18 := (Below.refl _ _).grown g18 (Nat.le_refl _) (fun k hk => by cases hk)
          have o18 : OwnC w17.heap.size w18 vw (pl [] P) := o18
          obtain ⟨aw, cw, rfl, _⟩ := o18.form
          have Pc18 := hide ((Pc17.out.more (N' := (fun g => (g = w4.heap.size ∨ (Value.slice ao P.length co).ownBlock = some g) ∨ (Value.slice aw (pl [] P).length cw).ownBlock = some g)) (fun g h => h.elim .inl (fun e => .inr (o18.y.blk g e).1))).bel b18)
          have Pr18 := hide ((Pr17.out.more (N' := (fun g => (g = w4.heap.size ∨ (Value.slice ao P.length co).ownBlock = some g) ∨ (Value.slice aw (pl [] P).length cw).ownBlock = some g)) (fun g h => h.elim .inl (fun e => .inr (o18.y.blk g e).1))).bel b18)
          have Oo18 := hide (Oo.out.grow b18)
          have D18 : Hid (Below wb.heap.size wb w18) := D17.out.trans (b18.mono z17)
          have z18 : wb.heap.size ≤ w18.heap.size := D18.out.size
          have W18 := hide (o18.y.low (B' := w4.heap.size + 1) (by omega))
          clear o18 g18 b18 Oo Pc17 Pr17
          try dsimp only
          go_wp2_with fail
          go_loopw [22] (fun i wr => ∃ j : Nat, i = .int .i64 (j : Int) ∧ j ≤ P.length ∧ Hid (OwnY yOp wb.heap.size wr (.slice ao P.length co) (zl P j)) ∧ Hid (Upd (fun k => (Value.slice ao P.length co).ownBlock = some k) w18 wr)) (fun i _ => P.length - (intOf i).toNat)
          case atStart => exact ⟨0, rfl, Nat.zero_le _, by rw [zl_zero]; exact Oo18, Upd.refl _ _⟩
          case round =>
            obtain ⟨j, rfl, hj, Oj, Uj⟩ := hrel
            by_cases hlt : j < P.length
            · obtain ⟨g, rfl⟩ := HO3.out j hlt
              obtain ⟨e0, he0⟩ : ∃ e0, (zl P j)[j]? = some e0 := ⟨_, List.getElem?_eq_getElem (by rw [zl_length P hj]; exact hlt)⟩
              have HE := hide he0
              clear he0
              go_wp2_with (refine storeY kOp _ rfl 23 (.tmp 122) (.tmp 121) rfl wb.heap.size g P.length co (zl P j) j 0 e0 (zo j).t _ rfl rfl HE.out (by kernel_rfl) (by exact (by decide : 3 ≤ 3)) rfl Oj.out ?_; intro w20 o20 u20 z20; rw [zl_set P hlt] at o20)
              have Oj2 := hide o20
              have Uj2 : Hid (Upd (fun k => (Value.slice (some ⟨g, 0, none⟩) P.length co).ownBlock = some k) w18 w20) := Uj.out.trans (u20.mono (fun k _ hk => by rw [show k = g from hk]; rfl))
              clear o20 u20
              go_wp2
              go_round
              case rel => exact ⟨j + 1, by go_num, by omega, Oj2, Uj2⟩
              case measure => first | (simp [intOf]; done) | (simp [intOf]; omega)
            · obtain rfl : j = P.length := by omega
              have w19e : ∃ w19, w19 = wr := ⟨_, rfl⟩
              obtain ⟨w19, hw19⟩ := w19e
              rw [← hw19] at Oj Uj ⊢
              clear hw19
              have hU : ∀ k, (Value.slice ao P.length co).ownBlock = some k → wb.heap.size ≤ k := fun k hk => (Oo18.out.blk k hk).1
              have D19 : Hid (Below wb.heap.size wb w19) := D18.out.trans (Uj.out.below z18 hU)
              have z19 : wb.heap.size ≤ w19.heap.size := D19.out.size
              have Pc19 := hide (Pc18.out.upd Uj.out (fun x hx g hg hs => (Pc18.out.own x hx).2.2 g hg (.inl (.inr hs))))
              have Pr19 := hide (Pr18.out.upd Uj.out (fun x hx g hg hs => (Pr18.out.own x hx).2.2 g hg (.inl (.inr hs))))
              have W19 := hide (W18.out.upd1 Uj.out (fun g hg hs => W18.out.apart Oo18.out (by decide) g hg hs))
              have Oo : Hid (OwnY yOp wb.heap.size w19 (.slice ao P.length co) ((zw P.length).map Opn.t)) := by rw [← zl_end]; exact Oj
              clear Oj Uj Oo18 Pc18 Pr18 W18 hU
              have hl1 : Hid ((rl [] (zw P.length)).length = P.length) := by show _ = _; rw [rl_len, zw_length]
              have hl2 : Hid ((pl [] (zw P.length)).length = min P.length 1024) := (pl_zw P.length).1
              have cc : Hid (Calls Try.prog 25 #[.slice ao P.length co] w19 fun e w' => ∃ vc vr, e = .returned (.tuple #[vc, vr]) ∧ OwnC w19.heap.size w' vc (pl [] (zw P.length)) ∧ Own3 53 w19.heap.size w' vr (rl [] (zw P.length)) ∧ Below w19.heap.size w19 w') := by
                have := replay_any (zw P.length) ao co w19 (Row3.ops (Own3.row Oo.out.op3)) (zw_fits _) (by rw [zw_length]; exact hlP)
                rw [zw_length] at this
                exact this
              try dsimp only
              go_wp2_with fail
              refine cc.out.mono ?_
              rintro e w20 ⟨v, v', rfl, o20, r20, b20⟩
              obtain ⟨a20, c20, rfl, _⟩ := o20.form
              obtain ⟨e20, k20, rfl, _⟩ := r20.form
              have hN20 : ∀ g, w19.heap.size ≤ g → ¬ ((g = w4.heap.size ∨ (Value.slice ao P.length co).ownBlock = some g) ∨ (Value.slice aw (pl [] P).length cw).ownBlock = some g) := fun g hg hN => by
                rcases hN with (hN | hN) | hN
                · omega
                · have := (Oo.out.blk g hN).2; omega
                · have := (W19.out.blk g hN).2; omega
              have Pc20 := hide (Pc19.out.snoc b20 (by omega) o20.y (by rw [hl2.out]; omega) hN20)
              have Pr20 := hide (Pr19.out.snoc b20 (by omega) (own3_y r20) (by rw [hl1.out]; omega) hN20)
              have W20 := hide ((W19.out.grow b20).low (B' := w4.heap.size) (by omega))
              have hwb : (Value.slice aw (pl [] P).length cw).ownBlock ≠ some w4.heap.size := fun e => by have := (W19.out.blk _ e).1; omega
              have D20 : Hid (Below wb.heap.size wb w20) := D19.out.trans (b20.mono z19)
              have z20 : wb.heap.size ≤ w20.heap.size := D20.out.size
              clear cc o20 r20 b20 Pc19 Pr19 W19 Oo hN20
              have G20 : Hid (BB (fun g => (g = w4.heap.size ∨ (Value.slice ao P.length co).ownBlock = some g) ∨ (Value.slice aw (pl [] P).length cw).ownBlock = some g) w20 w4.heap.size w4.heap.size w20.heap.size (.slice none 0 0) (.slice none 0 0) [] [] [⟨a7, c7, pl [] P⟩, ⟨a8, c8, pl [] Q⟩, ⟨a9, c9, pl [] P⟩, ⟨a10, c10, pl [] P⟩, ⟨a11, c11, pl [] Q⟩, ⟨a12, c12, pl [] P⟩, ⟨a20, c20, pl [] (zw P.length)⟩] [⟨e10, k10, rl [] P⟩, ⟨e11, k11, rl [] Q⟩, ⟨e12, k12, rl [] P⟩, ⟨e20, k20, rl [] (zw P.length)⟩] (.slice aw (pl [] P).length cw) (pl [] P)) :=
                BB.of (.inl (.inl rfl)) (Nat.le_refl _) (by omega) (fun i hi => (D20.out.cell (p := ⟨w4.heap.size, i, none⟩) (by show w4.heap.size < _; omega)).trans (hbc.out i hi)) (fun i => (D20.out.frozen (p := ⟨w4.heap.size, i, none⟩) (by show w4.heap.size < _; omega)).trans (hbf.out i)) Pc20.out Pr20.out W20.out hwb
              have E20 : Hid (Below w4.heap.size w4 w20) := B5.out.trans (D20.out.mono (by omega))
              have y20 : w4.heap.size ≤ w20.heap.size := E20.out.size
              clear Pc20 Pr20 W20 hwb D20 hbc hbf z5 z6 z7 z8 z9 z10 z11 z12 z13 z14 z15 z16 z17 z18 z19 z20 D6 D7 D8 D9 D10 D11 D12 D13 D14 D15 D16 D17 D18 D19 B5 PQ HP HQ HF HG HO3
              rw [hl1.out, hl2.out]
              have hmin : Hid (min P.length 1024 ≤ P.length) := Nat.min_le_left _ _
              try dsimp only
              have cc := hide (BB.bookCl (x := ⟨a7, c7, pl [] P⟩) G20.out (by simp))
              dsimp only at cc
              try dsimp only
              go_wp2_with fail
              refine cc.out.mono ?_
              rintro e w21 ⟨rfl, v21, V21, g21, q21, u21⟩
              have G21 := hide g21
              have E21 : Hid (Below w4.heap.size w4 w21) := E20.out.trans (u21.below y20 (fun k hk => hk))
              have y21 : w4.heap.size ≤ w21.heap.size := E21.out.size
              have q21 : V21.length ≤ 1 := by simpa using q21
              clear cc g21 u21 G20
              try dsimp only
              have cc := hide (BB.bookCl (x := ⟨a8, c8, pl [] Q⟩) G21.out (by omega))
              dsimp only at cc
              try dsimp only
              go_wp2_with fail
              refine cc.out.mono ?_
              rintro e w22 ⟨rfl, v22, V22, g22, q22, u22⟩
              have G22 := hide g22
              have E22 : Hid (Below w4.heap.size w4 w22) := E21.out.trans (u22.below y21 (fun k hk => hk))
              have y22 : w4.heap.size ≤ w22.heap.size := E22.out.size
              have q22 : V22.length ≤ 2 := by omega
              clear cc g22 u22 G21
              try dsimp only
              have cc := hide (BB.bookCl (x := ⟨a9, c9, pl [] P⟩) G22.out (by omega))
              dsimp only at cc
              try dsimp only
              go_wp2_with fail
              refine cc.out.mono ?_
              rintro e w23 ⟨rfl, v23, V23, g23, q23, u23⟩
              have G23 := hide g23
              have E23 : Hid (Below w4.heap.size w4 w23) := E22.out.trans (u23.below y22 (fun k hk => hk))
              have y23 : w4.heap.size ≤ w23.heap.size := E23.out.size
              have q23 : V23.length ≤ 3 := by omega
              clear cc g23 u23 G22
              try dsimp only
              have cc := hide (BB.bookCl (x := ⟨a10, c10, pl [] P⟩) G23.out (by omega))
              dsimp only at cc
              try dsimp only
              go_wp2_with fail
              refine cc.out.mono ?_
              rintro e w24 ⟨rfl, v24, V24, g24, q24, u24⟩
              have G24 := hide g24
              have E24 : Hid (Below w4.heap.size w4 w24) := E23.out.trans (u24.below y23 (fun k hk => hk))
              have y24 : w4.heap.size ≤ w24.heap.size := E24.out.size
              have q24 : V24.length ≤ 4 := by omega
              clear cc g24 u24 G23
              try dsimp only
              have cc := hide (BB.bookCl (x := ⟨a11, c11, pl [] Q⟩) G24.out (by omega))
              dsimp only at cc
              try dsimp only
              go_wp2_with fail
              refine cc.out.mono ?_
              rintro e w25 ⟨rfl, v25, V25, g25, q25, u25⟩
              have G25 := hide g25
              have E25 : Hid (Below w4.heap.size w4 w25) := E24.out.trans (u25.below y24 (fun k hk => hk))
              have y25 : w4.heap.size ≤ w25.heap.size := E25.out.size
              have q25 : V25.length ≤ 5 := by omega
              clear cc g25 u25 G24
              try dsimp only
              have cc := hide (BB.bookCl (x := ⟨a12, c12, pl [] P⟩) G25.out (by omega))
              dsimp only at cc
              try dsimp only
              go_wp2_with fail
              refine cc.out.mono ?_
              rintro e w26 ⟨rfl, v26, V26, g26, q26, u26⟩
              have G26 := hide g26
              have E26 : Hid (Below w4.heap.size w4 w26) := E25.out.trans (u26.below y25 (fun k hk => hk))
              have y26 : w4.heap.size ≤ w26.heap.size := E26.out.size
              have q26 : V26.length ≤ 6 := by omega
              clear cc g26 u26 G25
              try dsimp only
              have cc := hide (BB.bookCl (x := ⟨a20, c20, pl [] (zw P.length)⟩) G26.out (by omega))
              dsimp only at cc
              rw [hl2.out] at cc
              go_wp2_with fail
              refine cc.out.mono ?_
              rintro e w27 ⟨rfl, v27, V27, g27, q27, u27⟩
              have G27 := hide g27
              have E27 : Hid (Below w4.heap.size w4 w27) := E26.out.trans (u27.below y26 (fun k hk => hk))
              have y27 : w4.heap.size ≤ w27.heap.size := E27.out.size
              have q27 : V27.length ≤ 7 := by omega
              clear cc g27 u27 G26
              try dsimp only
              have cc := hide (BB.bookRs (x := ⟨e10, k10, rl [] P⟩) G27.out (by simp))
              dsimp only at cc
              try dsimp only
              go_wp2_with fail
              refine cc.out.mono ?_
              rintro e w28 ⟨rfl, v28, V28, g28, q28, u28⟩
              have G28 := hide g28
              have E28 : Hid (Below w4.heap.size w4 w28) := E27.out.trans (u28.below y27 (fun k hk => hk))
              have y28 : w4.heap.size ≤ w28.heap.size := E28.out.size
              have q28 : V28.length ≤ 1 := by simpa using q28
              clear cc g28 u28 G27
              try dsimp only
              have cc := hide (BB.bookRs (x := ⟨e11, k11, rl [] Q⟩) G28.out (by omega))
              dsimp only at cc
              try dsimp only
              go_wp2_with fail
              refine cc.out.mono ?_
              rintro e w29 ⟨rfl, v29, V29, g29, q29, u29⟩
              have G29 := hide g29
              have E29 : Hid (Below w4.heap.size w4 w29) := E28.out.trans (u29.below y28 (fun k hk => hk))
              have y29 : w4.heap.size ≤ w29.heap.size := E29.out.size
              have q29 : V29.length ≤ 2 := by omega
              clear cc g29 u29 G28
              try dsimp only
              have cc := hide (BB.bookRs (x := ⟨e12, k12, rl [] P⟩) G29.out (by omega))
              dsimp only at cc
              try dsimp only
              go_wp2_with fail
              refine cc.out.mono ?_
              rintro e w30 ⟨rfl, v30, V30, g30, q30, u30⟩
              have G30 := hide g30
              have E30 : Hid (Below w4.heap.size w4 w30) := E29.out.trans (u30.below y29 (fun k hk => hk))
              have y30 : w4.heap.size ≤ w30.heap.size := E30.out.size
              have q30 : V30.length ≤ 3 := by omega
              clear cc g30 u30 G29
              try dsimp only
              have cc := hide (BB.bookRs (x := ⟨e20, k20, rl [] (zw P.length)⟩) G30.out (by omega))
              dsimp only at cc
              rw [hl1.out] at cc
              go_wp2_with fail
              refine cc.out.mono ?_
              rintro e w31 ⟨rfl, v31, V31, g31, q31, u31⟩
              have G31 := hide g31
              have E31 : Hid (Below w4.heap.size w4 w31) := E30.out.trans (u31.below y30 (fun k hk => hk))
              have y31 : w4.heap.size ≤ w31.heap.size := E31.out.size
              have q31 : V31.length ≤ 4 := by omega
              clear cc g31 u31 G30
              try dsimp only
              have cc := hide (BB.apart G31.out (fun g hg => .inr hg) (by omega) (by omega))
              go_wp2_with fail
              refine cc.out.mono ?_
              rintro e w32 ⟨rfl, u32, W32⟩
              have E32 : Hid (Below w4.heap.size w4 w32) := E31.out.trans (u32.below y31 (fun k hk => hk))
              have WH := hide W32
              clear cc u32 W32 G31
              have cc := hide (cells_any B m1 (pl [] P) w32 (KL.out w32 E32.out).1)
              try dsimp only
              go_wp2_with fail
              refine cc.out.mono ?_
              rintro e w33 ⟨v, rfl, o33, b33⟩
              obtain ⟨a33, c33, rfl, _⟩ := o33.form
              have cs := hide (same_own (pl [] P) a33 aw c33 cw w33 o33.slC (WH.out.grow b33).c.slC)
              have y32 : w4.heap.size ≤ w32.heap.size := E32.out.size
              have E33 : Hid (Below w4.heap.size w4 w33) := E32.out.trans (b33.mono y32)
              clear cc o33 b33 WH
              try dsimp only
              go_wp2_with fail
              refine cs.out.mono ?_
              rintro e w34 ⟨rfl, b34⟩
              have y33 : w4.heap.size ≤ w33.heap.size := E33.out.size
              have E34 := E33.out.trans (b34.mono y33)
              try dsimp only
              go_wp2
              go_ret
              exact ⟨rfl, by rw [HB.out]; exact BEL.out.trans (E34.mono hBw)⟩

end Go.Proofs.Ytacalgpdhgpmbaa
