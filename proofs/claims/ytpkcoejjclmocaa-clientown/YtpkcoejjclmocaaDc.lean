import Derived.Test.YtpkcoejjclmocaaDb
namespace Go.Proofs.Ytpkcoejjclmocaa
open Go.RowKit Go.Maps
set_option linter.unusedVariables false
set_option linter.unusedSimpArgs false

theorem rws_step {L : List En} {n m i : Nat} {e : En} (hm : m ≤ i) (hin : i < n) (he : L[i]? = some e) : ((rws L n).take (i + 1)).drop m = ((rws L n).take i).drop m ++ [⟨e.c, e.n, (i : Int) + 1, true, (rsL L).getD i zR⟩] := by
  have hi := (List.getElem?_eq_some_iff.1 he).1
  rw [List.take_add_one, rws_get n he, List.drop_append_of_le_length (by rw [List.length_take, rws_length]; omega)]
  simp [rwA, hin]
set_option maxRecDepth 100000 in
set_option maxHeartbeats 2000000 in
theorem refbetween_any (L : List En) (a : Option Addr) (c : Nat) (f t : Int) (w : World) (h : SlY yE w a L.length c L) (hf : ∀ e ∈ L, e.fits) :
    Calls Try.prog 19 #[.slice a L.length c, .int .i64 f, .int .i64 t] w fun e w' => ∃ v, e = .returned (.tuple #[v, .int .i64 (ckB L f t)]) ∧ OwnY yR w.heap.size w' v (btw L f t) ∧ Below w.heap.size w w' := by
  have cl := reflog_any L a c 256 w h hf
  have hmx := h.max
  have hcp := h.cap
  unfold maxLen at hmx
  have H := hide h
  have HF := hide hf
  clear h hf
  by_cases hx : lg L 256 = 0
  · by_cases hy : f < 0 ∨ (L.length : Int) < t ∨ t < f
    · have hE : Hid (ckB L f t = 50) := by show _ = _; simp [ckB, hx, hy]
      have hT : Hid (btw L f t = []) := by show _ = _; unfold btw; rw [hE.out]; simp
      rw [hx] at cl
      clear hx
      by_cases y1 : f < 0
      · have d1 : decide (f < 0) = true := by simpa using y1
        clear hy
        go_enter Try.func19, Try.ntmps19
        go_wp2_with (go_at_call 20; refine cl.mono ?_; rintro e w1 ⟨rfl, b1⟩)
        go_ret2
        exact ⟨_, by rw [hE.out]; rfl, by rw [hT.out]; exact OwnY.nil _ _ _, b1⟩
      · have d1 : decide (f < 0) = false := by simpa using y1
        by_cases y2 : (L.length : Int) < f
        · have d2 : decide ((L.length : Int) < f) = true := by simpa using y2
          clear hy
          go_enter Try.func19, Try.ntmps19
          go_wp2_with (go_at_call 20; refine cl.mono ?_; rintro e w1 ⟨rfl, b1⟩)
          go_ret2
          exact ⟨_, by rw [hE.out]; rfl, by rw [hT.out]; exact OwnY.nil _ _ _, b1⟩
        · have d2 : decide ((L.length : Int) < f) = false := by simpa using y2
          by_cases y3 : t < 0
          · have d3 : decide (t < 0) = true := by simpa using y3
            clear hy
            go_enter Try.func19, Try.ntmps19
            go_wp2_with (go_at_call 20; refine cl.mono ?_; rintro e w1 ⟨rfl, b1⟩)
            go_ret2
            exact ⟨_, by rw [hE.out]; rfl, by rw [hT.out]; exact OwnY.nil _ _ _, b1⟩
          · have d3 : decide (t < 0) = false := by simpa using y3
            by_cases y4 : (L.length : Int) < t
            · have d4 : decide ((L.length : Int) < t) = true := by simpa using y4
              clear hy
              go_enter Try.func19, Try.ntmps19
              go_wp2_with (go_at_call 20; refine cl.mono ?_; rintro e w1 ⟨rfl, b1⟩)
              go_ret2
              exact ⟨_, by rw [hE.out]; rfl, by rw [hT.out]; exact OwnY.nil _ _ _, b1⟩
            · have d4 : decide ((L.length : Int) < t) = false := by simpa using y4
              have y5 : t < f := by omega
              have d5 : decide (t < f) = true := by simpa using y5
              clear hy
              go_enter Try.func19, Try.ntmps19
              go_wp2_with (go_at_call 20; refine cl.mono ?_; rintro e w1 ⟨rfl, b1⟩)
              go_ret2
              exact ⟨_, by rw [hE.out]; rfl, by rw [hT.out]; exact OwnY.nil _ _ _, b1⟩
    · have hE : Hid (ckB L f t = 0) := by show _ = _; simp [ckB, hx, hy]
      have hT : Hid (btw L f t = ((rws L t.toNat).take t.toNat).drop f.toNat) := by show _ = _; unfold btw; rw [hE.out]; simp
      have hl : L.length ≤ 256 := by have := (lg_zero hx).1; omega
      rw [hx] at cl
      obtain ⟨n, rfl⟩ : ∃ n : Nat, t = (n : Int) := ⟨t.toNat, by omega⟩
      obtain ⟨m, rfl⟩ : ∃ m : Nat, f = (m : Int) := ⟨f.toNat, by omega⟩
      rw [Int.toNat_natCast, Int.toNat_natCast] at hT
      have hn : n ≤ L.length := by omega
      have hmn : m ≤ n := by omega
      have hn' : (n : Int) ≤ (L.length : Int) := by omega
      have hmn' : (m : Int) ≤ (n : Int) := by omega
      have hml' : (m : Int) ≤ (L.length : Int) := by omega
      clear hx hy
      go_enter Try.func19, Try.ntmps19
      go_wp2_with (first
        | (go_at_call 20; refine cl.mono ?_; rintro e w1 ⟨rfl, b1⟩; have cr := refresults_any L a c n w1 (H.out.later b1) HF.out hl hn; have hz1 := b1.size)
        | (go_at_call 40; refine cr.mono ?_; rintro e w2 ⟨vr, rfl, o2, b2⟩; have O2 := hide (o2.low hz1); have B2 := hide (b1.trans (b2.mono hz1)); clear o2 b2 b1 cr))
      obtain ⟨av, cv, rfl, hv1, hv2, hv3, hv4⟩ := O2.out.form
      have hlen : ((rsL L).take n).length = n := by rw [List.length_take, rsL_length]; omega
      have hav : Hid (m < n → ∃ b, av = some ⟨b, 0, none⟩) := fun hlt => by
        cases av with
        | none => have := (hv3 rfl).1; rw [this] at hlen; simp at hlen; omega
        | some z => obtain ⟨b, rfl, _⟩ := hv4 z rfl; exact ⟨b, rfl⟩
      have hRg : Hid (∀ j, j < n → ((rsL L).take n)[j]? = some ((rsL L).getD j zR)) := by
        intro j hj
        rw [List.getElem?_take, if_pos hj, List.getD_eq_getElem?_getD, List.getElem?_eq_getElem (by rw [rsL_length]; omega)]
        rfl
      rw [hlen] at hv1 O2 ⊢
      unfold maxLen at hv2
      have hst : Hid (((rws L n).take m).drop m = []) := by show _ = _; rw [List.drop_of_length_le (by rw [List.length_take]; omega)]
      have hrl := hide (rws_length L n)
      clear hv3 hv4 hlen
      go_loopw [11, 10] (fun p v wr => ∃ i : Nat, p = .int .i64 ((i : Int) + 1) ∧ m ≤ i ∧ i ≤ n ∧ OwnY yR w.heap.size wr v (((rws L n).take i).drop m) ∧ Own3 43 w.heap.size wr (.slice av n cv) ((rsL L).take n) ∧ Below w.heap.size w wr) (fun p _ _ => n + 1 - (intOf p).toNat)
      case atStart => exact ⟨m, rfl, Nat.le_refl _, hmn, by rw [hst.out]; exact OwnY.nil _ _ _, O2.out, B2.out⟩
      case round =>
        obtain ⟨i, rfl, hmi, hin, oT, oR, hb⟩ := hrel
        have hsz := hb.size
        by_cases hlt : i < n
        · have he : L[i]? = some L[i] := List.getElem?_eq_getElem (by omega)
          have hs := rws_step hmi hlt he
          have hsl : (((rws L n).take i).drop m).length ≤ 256 := by rw [List.length_drop, List.length_take, hrl.out]; omega
          have cr := refrow_any L a c i false L[i] wr (H.out.later hb) HF.out hl he
          obtain ⟨b, rfl⟩ := hav.out (by omega)
          obtain ⟨r0, r1, r2⟩ := oR.cell i _ (hRg.out i hlt)
          obtain ⟨_, _, ev, _, _, _, hv4⟩ := oR.form
          have hbl : b < wr.heap.size := by
            injection ev with ev
            obtain ⟨b', e1, _, h5⟩ := hv4 _ ev.symm
            cases e1
            exact h5
          clear hv4 ev
          rw [rowD_val] at cr
          simp only [Bool.false_eq_true, if_false, zR] at cr
          generalize L[i] = e at *
          generalize (rsL L).getD i zR = r at *
          obtain ⟨s0, s1, s2⟩ := r
          dsimp only at r0 r1 r2
          generalize ((rws L n).take i).drop m = X at *
          have TS := hide hs
          have OT := hide oT
          have OR := hide oR
          have hi0 : (0 : Int) ≤ (i : Int) := by omega
          have hi1 : (i : Int) < (n : Int) := by omega
          have hi2 : (i : Int) ≤ (n : Int) := by omega
          have hw2 : IntKind.i64.wrap (i : Int) = (i : Int) := by rw [IntKind.wrap_i64]; omega
          have hw3 : (i : Int) + 1 - 1 = (i : Int) := by omega
          have hwl : (i : Int) + 1 ≤ (n : Int) := by omega
          clear oT oR hs he
          go_wp2_with fail
          refine cr.mono ?_
          rintro r w3 ⟨rfl, b3⟩
          have hz3 := b3.size
          have OB := hide (own_box kR w.heap.size w3 ⟨e.c, e.n, (i : Int) + 1, false, zR⟩ (by omega))
          have RR : Hid (∀ W, Upd (fun x => x = w3.heap.size) (w3.alloc (.cells #[.int .i64 e.c, .int .i64 e.n, .int .i64 ((i : Int) + 1), .bool false, .int .i64 0, .int .i64 0, .string ByteArray.empty] 57)) W → W.cell? ⟨b, i * 3, none⟩ = some (.int .i64 s0) ∧ W.cell? ⟨b, i * 3 + 1, none⟩ = some (.int .i64 s1) ∧ W.cell? ⟨b, i * 3 + 2, none⟩ = some (.string s2)) := fun W u => by
            have bA := (b3.mono (Nat.le_refl _)).alloc hz3 (.cells #[.int .i64 e.c, .int .i64 e.n, .int .i64 ((i : Int) + 1), .bool false, .int .i64 0, .int .i64 0, .string ByteArray.empty] 57)
            have hne : ¬ b = w3.heap.size := by omega
            exact ⟨(u.cell (p := ⟨b, i * 3, none⟩) (by simp; omega) hne).trans ((bA.cell (p := ⟨b, i * 3, none⟩) hbl).trans r0), (u.cell (p := ⟨b, i * 3 + 1, none⟩) (by simp; omega) hne).trans ((bA.cell (p := ⟨b, i * 3 + 1, none⟩) hbl).trans r1), (u.cell (p := ⟨b, i * 3 + 2, none⟩) (by simp; omega) hne).trans ((bA.cell (p := ⟨b, i * 3 + 2, none⟩) hbl).trans r2)⟩
          have b4 := hide (b3.alloc hz3 (.cells #[.int .i64 e.c, .int .i64 e.n, .int .i64 ((i : Int) + 1), .bool false, .int .i64 0, .int .i64 0, .string ByteArray.empty] 57))
          have SB := fun (W : World) => hide (sl_box (Y := yR) W ⟨e.c, e.n, (i : Int) + 1, true, s0, s1, s2⟩ 57)
          clear r0 r1 r2 b3 cr
          go_wp2_with (first
            | (refine storeY kR _ rfl 4 (.tmp 54) (.const (.bool true)) rfl w.heap.size w3.heap.size 1 1 [⟨e.c, e.n, (i : Int) + 1, false, zR⟩] 0 3 _ ⟨e.c, e.n, (i : Int) + 1, true, zR⟩ _ rfl rfl rfl (by kernel_rfl) (by exact (by decide : 4 ≤ 7)) rfl OB.out ?_; intro w4 o4 u4 z4; obtain ⟨r0, r1, r2⟩ := RR.out w4 u4; have O4 := hide o4; clear o4)
            | (refine storeY kR _ rfl 43 (.tmp 60) (.tmp 59) rfl w.heap.size w3.heap.size 1 1 [⟨e.c, e.n, (i : Int) + 1, true, zR⟩] 0 4 _ ⟨e.c, e.n, (i : Int) + 1, true, (s0, s1, s2)⟩ _ rfl rfl rfl (by kernel_rfl) (by exact (by decide : 7 ≤ 7)) rfl O4.out ?_; intro w5 o5 u5 z5; obtain ⟨y0, y1, y2, y3, y4, y5, y6⟩ := OwnY.rw0 o5; dsimp only at y0 y1 y2 y3 y4 y5 y6; have U5 := hide (u4.trans u5); have z5' : w5.heap.size = w3.heap.size + 1 := (by rw [z5, z4]; simp); have Z5 := hide z5'; clear o5 z5 z4 z5' u4 u5)
            | (at_builtin; go_must (refine appY kR _ rfl (.tmp 61) (.tmp 63) rfl w.heap.size X _ rfl (some ⟨w5.heap.size, 0, none⟩) 1 1 rfl [⟨e.c, e.n, (i : Int) + 1, true, s0, s1, s2⟩] (SB w5).out (((OT.out.grow b4.out).upd1 U5.out (fun g hg => by have := (OT.out.blk g hg).2; show ¬ g = w3.heap.size; omega)).alloc _) (by have := Z5.out; simp; omega) (by unfold maxLen; omega) (by show (_ + 1) * 64 ≤ _; omega) ?yk))
            | go_in)
          case yk =>
            intro v6 w6 o6 g6 _
            have oA := ((OT.out.grow b4.out).upd1 U5.out (fun g hg => by have := (OT.out.blk g hg).2; show ¬ g = w3.heap.size; omega)).alloc (.cells #[.int .i64 e.c, .int .i64 e.n, .int .i64 ((i : Int) + 1), .bool true, .int .i64 s0, .int .i64 s1, .string s2] 57)
            have oC := ((OR.out.grow b4.out).upd1 U5.out (fun g hg => by cases hg; show ¬ b = w3.heap.size; omega)).alloc (.cells #[.int .i64 e.c, .int .i64 e.n, .int .i64 ((i : Int) + 1), .bool true, .int .i64 s0, .int .i64 s1, .string s2] 57)
            have bl : Below w.heap.size w w5 := hb.trans ((b4.out.mono hsz).trans (U5.out.below (by simp; omega) (fun k hk => by subst hk; omega)))
            have b6 := hide (oA.grown (bl.alloc (by have := Z5.out; omega) _) g6 (by have := Z5.out; simp; omega))
            have o7 : Hid (Own3 43 w.heap.size w6 (.slice (some ⟨b, 0, none⟩) n cv) ((rsL L).take n)) := World.ownsRow.kept oC g6 (.inr (fun hq => by
              obtain ⟨c1, f1, k1⟩ := oA.kind hq.symm
              rcases oC.2 with ⟨e1, _⟩ | ⟨g1, _, cur, e1, _, hb1, _⟩
              · cases e1
              · injection e1 with e1
                injection e1 with e1
                cases e1
                rw [hb1] at k1
                cases k1))
            have O6 := hide o6
            clear o6 g6 oA oC bl
            go_wp2
            go_round
            case rel => exact ⟨i + 1, by go_num, by omega, by omega, by rw [TS.out]; exact O6.out, o7.out, b6.out⟩
            case measure => simp [intOf]; omega
        · obtain rfl : i = n := by omega
          have OT := hide oT
          clear oT oR
          go_wp2
          go_ret2
          exact ⟨_, by rw [hE.out]; rfl, by rw [hT.out]; exact OT.out, hb⟩
  · have hE : Hid (ckB L f t = lg L 256) := by show _ = _; simp [ckB, hx]
    have hT : Hid (btw L f t = []) := by show _ = _; unfold btw; rw [hE.out]; simp [hx]
    generalize lg L 256 = x at *
    go_enter Try.func19, Try.ntmps19
    go_wp2_with (go_at_call 20; refine cl.mono ?_; rintro e w1 ⟨rfl, b1⟩)
    go_ret2
    exact ⟨_, by rw [hE.out]; rfl, by rw [hT.out]; exact OwnY.nil _ _ _, b1⟩

end Go.Proofs.Ytpkcoejjclmocaa
