import Derived.Test.YtcmjhaljbmhpgaaGreatSwv
import Derived.Test.YtcmjhaljbmhpgaaGreatSwt
namespace Go.Proofs.YtcmjhaljbmhpgaaGreat
open Go.RowKit Go.Maps
open Classical
set_option linter.unusedVariables false
set_option linter.unusedSimpArgs false

theorem An.mor_gt (x y : An) : mor x.v (x.s.D.length : Int) x.c y.v (y.s.D.length : Int) y.c = An.gt x y := by
  unfold mor An.gt
  simp only [orI, cmpI]
  by_cases h1 : x.v < y.v <;> by_cases h2 : y.v < x.v <;> by_cases h3 : x.s.D.length < y.s.D.length <;> by_cases h4 : y.s.D.length < x.s.D.length <;> by_cases h5 : x.c < y.c <;> by_cases h6 : y.c < x.c <;> simp [h1, h2, h3, h4, h5, h6] <;> omega
set_option maxRecDepth 100000 in
set_option maxHeartbeats 2000000 in
/-- The document's PutAnswer. -/
theorem refputanswer_any (L : List An) (x : An) (a : Option Addr) (n k : Nat) (w : World) (h : SlY yAnA w a n k L) (hlogs : ∀ y ∈ L, y.In w ∧ y.s.D.length * 48 ≤ 140737488351232) (hx : x.In w ∧ x.s.D.length * 48 ≤ 140737488351232) (hm : (n + 3) * 64 ≤ 140737488355328) :
    Calls Tryz.prog 37 #[.slice a n k, .agg #[.int .i64 x.n, .int .u64 x.h, .int .u64 x.l, .int .i64 x.v, .int .i64 x.c, .slice x.s.a x.s.D.length x.s.c]] w fun e w' => ∃ v R, e = .returned v ∧ OwnY yAnA w.heap.size w' v R ∧ An.Cop w.heap.size w' (An.put L x) R ∧ Below w.heap.size w w' := by
  have hmx := h.max
  have hcp := h.cap
  have hln := h.len
  unfold maxLen at hmx
  have H := hide h
  have HN := hide hln
  clear h hln
  have hb1 : ∀ i, i ≤ n → i + 2 + 1 ≤ maxLen := fun i hi => by unfold maxLen; omega
  have hb2 : ∀ i, i ≤ n → (i + 3) * 64 ≤ 140737488355328 := fun i hi => Nat.le_trans (Nat.mul_le_mul_right 64 (Nat.add_le_add_right hi 3)) hm
  have HM := hide hm
  have hm1 : n * 64 ≤ 140737488355328 := Nat.le_trans (Nat.mul_le_mul_right 64 (Nat.le_add_right n 3)) hm
  clear hm
  have HB1 := hide hb1
  have HB2 := hide hb2
  clear hb1 hb2
  have B0 : Hid (Below w.heap.size w (w.alloc (.cells #[.int .i64 x.n, .int .u64 x.h, .int .u64 x.l, .int .i64 x.v, .int .i64 x.c, .slice x.s.a x.s.D.length x.s.c] 69))) := (Below.refl _ w).alloc (Nat.le_refl _) _
  have hwz : Hid ((w.alloc (.cells #[.int .i64 x.n, .int .u64 x.h, .int .u64 x.l, .int .i64 x.v, .int .i64 x.c, .slice x.s.a x.s.D.length x.s.c] 69)).heap.size = w.heap.size + 1) := by show _ = _; simp
  have KX : Hid (∀ v, Below (w.heap.size + 1) (w.alloc (.cells #[.int .i64 x.n, .int .u64 x.h, .int .u64 x.l, .int .i64 x.v, .int .i64 x.c, .slice x.s.a x.s.D.length x.s.c] 69)) v → v.cell? ⟨w.heap.size, 0, none⟩ = some (.int .i64 x.n) ∧ v.cell? ⟨w.heap.size, 1, none⟩ = some (.int .u64 x.h) ∧ v.cell? ⟨w.heap.size, 2, none⟩ = some (.int .u64 x.l) ∧ v.cell? ⟨w.heap.size, 3, none⟩ = some (.int .i64 x.v) ∧ v.cell? ⟨w.heap.size, 4, none⟩ = some (.int .i64 x.c) ∧ v.cell? ⟨w.heap.size, 5, none⟩ = some (.slice x.s.a x.s.D.length x.s.c)) := fun v hv =>
    ⟨(hv.cell (p := ⟨w.heap.size, 0, none⟩) (by simp)).trans (by simp), (hv.cell (p := ⟨w.heap.size, 1, none⟩) (by simp)).trans (by simp), (hv.cell (p := ⟨w.heap.size, 2, none⟩) (by simp)).trans (by simp), (hv.cell (p := ⟨w.heap.size, 3, none⟩) (by simp)).trans (by simp), (hv.cell (p := ⟨w.heap.size, 4, none⟩) (by simp)).trans (by simp), (hv.cell (p := ⟨w.heap.size, 5, none⟩) (by simp)).trans (by simp)⟩
  obtain ⟨PL, HPL⟩ : ∃ PL, Hid (PL = An.put L x) := ⟨_, rfl⟩
  rw [← HPL.out]
  have HC : Hid (∀ (W : World) (v : Value), OwnY yAnA (w.heap.size + 1) W v PL → Below w.heap.size w W → Calls Tryz.prog 85 #[v] W fun e w' => ∃ v R, e = .returned v ∧ OwnY yAnA w.heap.size w' v R ∧ An.Cop w.heap.size w' PL R ∧ Below w.heap.size w w') := fun W v ho hb => by
    refine An.refcopy_own PL v w W ho hb (fun y hy => ?_) ?_
    · rw [HPL.out] at hy
      rcases An.mem_put L x y hy with hy | rfl
      · exact hlogs y hy
      · exact hx
    · rw [HPL.out]
      exact Nat.le_trans (Nat.mul_le_mul_right 64 (Nat.le_trans (An.put_len L x) (by rw [HN.out]; omega))) HM.out
  clear hlogs hx
  go_enter Tryz.func37, Tryz.ntmps37
  go_wp2
  generalize hw0 : w.alloc (.cells #[.int .i64 x.n, .int .u64 x.h, .int .u64 x.l, .int .i64 x.v, .int .i64 x.c, .slice x.s.a x.s.D.length x.s.c] 69) = w0 at *
  go_loopw [6, 5] (fun i v wr => ∃ (j d : Nat), i = .int .i64 (j : Int) ∧ j ≤ n ∧ v = .slice none 0 0 ∧ Hid (∀ (i : Nat) (z : An), i < j → L[i]? = some z → z.n ≠ x.n) ∧ wr = w0.drewN d) (fun i _ _ => n - (intOf i).toNat)
  case atStart => exact ⟨0, 0, rfl, Nat.zero_le _, rfl, fun i z h => absurd h (Nat.not_lt_zero _), rfl⟩
  case round =>
    obtain ⟨j, d, rfl, hj, rfl, hno, rfl⟩ := hrel
    by_cases hlt : j < n
    · have hjl : j < L.length := by rw [HN.out]; exact hlt
      have hg : L[j]? = some L[j] := List.getElem?_eq_getElem hjl
      have hnext : Hid (L[j].n ≠ x.n → ∀ (i : Nat) (z : An), i < j + 1 → L[i]? = some z → z.n ≠ x.n) := fun hne i z hi hz => by
        by_cases e : i = j
        · subst e
          rw [hg] at hz
          cases hz
          exact hne
        · exact hno.out i z (by omega) hz
      have hfound : Hid (L[j].n = x.n → PL = if An.rep x L[j] = true then L.set j x else L) := fun he => by rw [HPL.out]; exact put_foundKw hno.out hg he
      obtain ⟨q, o, ea, hq, _⟩ := (H.out.later (belNN B0.out d)).AnA hg
      have KY : Hid (∀ v, Below w.heap.size w v → v.cell? ⟨q, o + j * 6, none⟩ = some (.int .i64 L[j].n) ∧ v.cell? ⟨q, o + j * 6 + 1, none⟩ = some (.int .u64 L[j].h) ∧ v.cell? ⟨q, o + j * 6 + 2, none⟩ = some (.int .u64 L[j].l) ∧ v.cell? ⟨q, o + j * 6 + 3, none⟩ = some (.int .i64 L[j].v) ∧ v.cell? ⟨q, o + j * 6 + 4, none⟩ = some (.int .i64 L[j].c) ∧ v.cell? ⟨q, o + j * 6 + 5, none⟩ = some (.slice L[j].s.a L[j].s.D.length L[j].s.c)) := fun v hv => by
        obtain ⟨q', o', ea', _, y0, y1, y2, y3, y4, y5⟩ := (H.out.later hv).AnA hg
        rw [ea] at ea'
        cases ea'
        exact ⟨y0, y1, y2, y3, y4, y5⟩
      cases ea
      have hget : Hid (L[j]? = some L[j]) := hg
      clear hg hno
      generalize L[j] = y at *
      have s0 : (w0.drewN d).drew.cell? ⟨q, o + j * 6, none⟩ = some (.int .i64 y.n) ∧ (w0.drewN d).drew.cell? ⟨w.heap.size, 0, none⟩ = some (.int .i64 x.n) := ⟨(KY.out _ (belNN B0.out (d + 1))).1, (KX.out _ (belNN (Below.refl _ w0) (d + 1))).1⟩
      go_wp2_with fail
      go_region_held3 (fun v => v.cell? ⟨q, o + j * 6, none⟩ = some (.int .i64 y.n) ∧ v.cell? ⟨w.heap.size, 0, none⟩ = some (.int .i64 x.n)) (with_reducible assumption) (fail)
      by_cases he : y.n = x.n
      · have heb : (y.n == x.n) = true := by simp [he]
        have hF := hide (hfound.out he)
        clear he hfound hnext s0
        have X0 : Hid (Below (w.heap.size + 1) w0 (w0.drewN d).drew) := (belNN (Below.refl _ _) d).drew
        generalize (w0.drewN d).drew = wd at *
        have zd : w.heap.size + 1 ≤ wd.heap.size := by have := X0.out.size; rwa [hwz.out] at this
        have HLd := hide (H.out.later (B0.out.trans (X0.out.mono (by omega))))
        go_upto_region 6 with fail
        go_wp2_with (at_builtin; go_must (refine appY kAnA _ rfl (.tmp 23) (.tmp 24) rfl (w.heap.size + 1) [] _ rfl (some ⟨q, o, none⟩) n k rfl L HLd.out (OwnY.nil _ _ _) zd (by unfold maxLen; simp; omega) (by show (0 + n) * 64 ≤ 140737488355328; rw [Nat.zero_add]; exact hm1) ?_))
        intro v1 w1 o1 g1 e1
        have X1 := hide (OwnY.grown (OwnY.nil yAnA (w.heap.size + 1) _) X0.out g1 zd)
        have O1 : Hid (OwnY yAnA (w.heap.size + 1) w1 v1 L) := o1
        obtain ⟨a1, c1, rfl, s1, hb1⟩ := O1.out.sl kAnA
        have hL0 : L ≠ [] := by rintro rfl; simp at hjl
        obtain ⟨g, rfl⟩ : ∃ g, a1 = some ⟨g, 0, none⟩ := by
          cases a1 with
          | none => exact absurd (s1.nil rfl).1 (by simpa using hL0)
          | some z => obtain ⟨g, rfl, _⟩ := hb1 z rfl; exact ⟨g, rfl⟩
        have hgB : w.heap.size + 1 ≤ g := by obtain ⟨g', e, h1, _⟩ := hb1 _ rfl; cases e; exact h1
        have hc1 := s1.cap
        rw [HN.out] at hc1 O1 ⊢
        clear o1 g1 e1 s1 hb1 HLd
        have ct := hide (fun W => reftakes_any x.h x.l y.h y.l (mor x.v (x.s.D.length : Int) x.c y.v (y.s.D.length : Int) y.c) W)
        have cmr := hide (fun W => refmore_any x.v (x.s.D.length : Int) x.c y.v (y.s.D.length : Int) y.c W)
        have HR : Hid ((decide (0 < cmpD x.h x.l y.h y.l) || (decide (cmpD x.h x.l y.h y.l = 0) && mor x.v (x.s.D.length : Int) x.c y.v (y.s.D.length : Int) y.c)) = An.rep x y) := by show _ = _; rw [An.mor_gt]; rfl
        rw [HR.out] at ct
        generalize An.rep x y = T at *
        generalize mor x.v (x.s.D.length : Int) x.c y.v (y.s.D.length : Int) y.c = MR at *
        have K1 : Hid (∀ v, Below (w.heap.size + 1) w0 v → (v.cell? ⟨w.heap.size, 1, none⟩ = some (.int .u64 x.h) ∧ v.cell? ⟨w.heap.size, 2, none⟩ = some (.int .u64 x.l) ∧ v.cell? ⟨w.heap.size, 3, none⟩ = some (.int .i64 x.v) ∧ v.cell? ⟨w.heap.size, 4, none⟩ = some (.int .i64 x.c) ∧ v.cell? ⟨w.heap.size, 5, none⟩ = some (.slice x.s.a x.s.D.length x.s.c)) ∧ v.cell? ⟨q, o + j * 6 + 1, none⟩ = some (.int .u64 y.h) ∧ v.cell? ⟨q, o + j * 6 + 2, none⟩ = some (.int .u64 y.l) ∧ v.cell? ⟨q, o + j * 6 + 3, none⟩ = some (.int .i64 y.v) ∧ v.cell? ⟨q, o + j * 6 + 4, none⟩ = some (.int .i64 y.c) ∧ v.cell? ⟨q, o + j * 6 + 5, none⟩ = some (.slice y.s.a y.s.D.length y.s.c)) := fun v hv => ⟨(KX.out v hv).2, (KY.out v (B0.out.trans (hv.mono (by omega)))).2⟩
        have s1 := K1.out _ X1.out.drew
        try dsimp only
        go_wp2_with fail
        go_region_held3 (fun v => (v.cell? ⟨w.heap.size, 1, none⟩ = some (.int .u64 x.h) ∧ v.cell? ⟨w.heap.size, 2, none⟩ = some (.int .u64 x.l) ∧ v.cell? ⟨w.heap.size, 3, none⟩ = some (.int .i64 x.v) ∧ v.cell? ⟨w.heap.size, 4, none⟩ = some (.int .i64 x.c) ∧ v.cell? ⟨w.heap.size, 5, none⟩ = some (.slice x.s.a x.s.D.length x.s.c)) ∧ v.cell? ⟨q, o + j * 6 + 1, none⟩ = some (.int .u64 y.h) ∧ v.cell? ⟨q, o + j * 6 + 2, none⟩ = some (.int .u64 y.l) ∧ v.cell? ⟨q, o + j * 6 + 3, none⟩ = some (.int .i64 y.v) ∧ v.cell? ⟨q, o + j * 6 + 4, none⟩ = some (.int .i64 y.c) ∧ v.cell? ⟨q, o + j * 6 + 5, none⟩ = some (.slice y.s.a y.s.D.length y.s.c)) (with_reducible assumption) (first
          | (go_at_call 72; refine (cmr.out _).mono ?_; rintro e wm ⟨rfl, rfl⟩)
          | (go_at_call 53; refine (ct.out _).mono ?_; rintro e w2 ⟨rfl, b2⟩; have C2 := hide ((Below.refl w1.heap.size w1).drew.trans b2); have X2 := hide (X1.out.trans (C2.out.mono (by have := X1.out.size; rwa [hwz.out] at this))); have s2 := K1.out w2 X2.out; clear b2))
        have O2 := hide (O1.out.grow C2.out)
        obtain ⟨x0, x1, x2, x3, x4, x5⟩ := KX.out w2 X2.out
        clear s2
        cases T with
        | true =>
          have hP : Hid (PL = L.set j x) := by show _ = _; rw [hF.out, if_pos rfl]
          go_wp2_with (refine storeY kAnA _ rfl 69 (.tmp 61) (.tmp 60) rfl (w.heap.size + 1) g n c1 L j 0 y x _ rfl rfl hget.out (by kernel_rfl) (by exact (by decide : 6 ≤ 6)) rfl O2.out ?_)
          intro w3 o3 u3 z3
          have O3 : Hid (OwnY yAnA (w.heap.size + 1) w3 (.slice (some ⟨g, 0, none⟩) n c1) PL) := by show OwnY _ _ _ _ _; rw [hP.out]; exact o3
          have X3 := hide (X2.out.trans (u3.below (by have := X2.out.size; rwa [hwz.out] at this) (fun k e => by subst e; exact hgB)))
          clear o3 u3
          go_wp2_with fail
          refine (HC.out _ _ O3.out (B0.out.trans (X3.out.mono (by omega)))).mono ?_
          rintro e w99 ⟨v99, R99, rfl, P99⟩
          have Q99 := hide P99
          clear P99
          dsimp only
          go_wp2
          go_ret
          first | exact ⟨_, rfl, R99, Q99.out⟩ | exact ⟨_, _, rfl, Q99.out⟩
        | false =>
          have O3 : Hid (OwnY yAnA (w.heap.size + 1) w2 (.slice (some ⟨g, 0, none⟩) n c1) PL) := by show OwnY _ _ _ _ _; rw [hF.out, if_neg (by simp)]; exact O2.out
          go_wp2_with fail
          refine (HC.out _ _ O3.out (B0.out.trans (X2.out.mono (by omega)))).mono ?_
          rintro e w99 ⟨v99, R99, rfl, P99⟩
          have Q99 := hide P99
          clear P99
          dsimp only
          go_wp2
          go_ret
          first | exact ⟨_, rfl, R99, Q99.out⟩ | exact ⟨_, _, rfl, Q99.out⟩
      · have heb : (y.n == x.n) = false := by simp [he]
        have hN := hide (hnext.out he)
        clear hfound hnext
        go_wp2
        go_round
        case rel => exact ⟨j + 1, d + 1, by go_num, by omega, rfl, hN, rfl⟩
        case measure => first | (simp [intOf]; done) | (simp [intOf]; omega)
    · obtain rfl : j = n := by omega
      have hnew : Hid (PL = An.ins L x) := by show _ = _; rw [HPL.out]; exact put_newKw (by rw [HN.out]; exact hno.out)
      clear hno HPL
      go_wp2
      have X0 : Hid (Below (w.heap.size + 1) w0 (w0.drewN d)) := belNN (Below.refl _ _) d
      generalize w0.drewN d = wd at *
      go_loopw [8, 7, 5] (fun i s v wr => ∃ (i2 : Nat) (b : Bool) (v5 : Value), i = .int .i64 (i2 : Int) ∧ i2 ≤ j ∧ s = .bool b ∧ v = v5 ∧ Hid (InsLw L x b i2) ∧ Hid (OwnY yAnA (w.heap.size + 1) wr v5 (insKw L x b i2)) ∧ Hid (Below (w.heap.size + 1) w0 wr)) (fun i _ _ _ => j - (intOf i).toNat)
      case atStart => exact ⟨0, false, _, rfl, Nat.zero_le _, rfl, rfl, (show InsLw L x false 0 from fun i z h => absurd h (Nat.not_lt_zero _)), (show OwnY yAnA (w.heap.size + 1) wd (.slice none 0 0) (insKw L x false 0) from OwnY.nil _ _ _), X0⟩
      case round =>
        obtain ⟨i2, b, v5, rfl, hi2, rfl, hv5, hI, hO, hX⟩ := hrel
        have hv5 := hv5.symm
        subst hv5
        have hlen : Hid ((insKw L x b i2).length ≤ i2 + 1) := insK_lenw L x b i2 j HN.out hi2 hI.out
        have zr1 : w.heap.size + 1 ≤ wr.heap.size := by have := hX.out.size; rwa [hwz.out] at this
        have hbig1 := HB1.out i2 hi2
        have hbig2 := HB2.out i2 hi2
        by_cases hlt2 : i2 < j
        · have hjl : i2 < L.length := by rw [HN.out]; exact hlt2
          have hg : L[i2]? = some L[i2] := List.getElem?_eq_getElem hjl
          obtain ⟨q, o, ea, hq, _⟩ := (H.out.later (B0.out.trans (hX.out.mono (by omega)))).AnA hg
          have KY : Hid (∀ v, Below (w.heap.size + 1) w0 v → v.cell? ⟨q, o + i2 * 6, none⟩ = some (.int .i64 L[i2].n) ∧ v.cell? ⟨q, o + i2 * 6 + 1, none⟩ = some (.int .u64 L[i2].h) ∧ v.cell? ⟨q, o + i2 * 6 + 2, none⟩ = some (.int .u64 L[i2].l) ∧ v.cell? ⟨q, o + i2 * 6 + 3, none⟩ = some (.int .i64 L[i2].v) ∧ v.cell? ⟨q, o + i2 * 6 + 4, none⟩ = some (.int .i64 L[i2].c) ∧ v.cell? ⟨q, o + i2 * 6 + 5, none⟩ = some (.slice L[i2].s.a L[i2].s.D.length L[i2].s.c)) := fun v hv => by
            obtain ⟨q', o', ea', _, y0, y1, y2, y3, y4, y5⟩ := (H.out.later (B0.out.trans (hv.mono (by omega)))).AnA hg
            rw [ea] at ea'
            cases ea'
            exact ⟨y0, y1, y2, y3, y4, y5⟩
          cases ea
          have hget : Hid (L[i2]? = some L[i2]) := hg
          clear hg
          generalize L[i2] = y at *
          cases b with
          | true =>
            have I2 := hide (InsL_onw hI.out)
            have hstep := hide (insK_onw hI.out hget.out)
            generalize insKw L x true i2 = LJ at *
            go_wp2_with fail
            refine region_q9 (C := fun v => Below wr.heap.size wr v) (by kernel_rfl) (by kernel_rfl) (Below.refl _ _).drew ?_
            refine wqv (u := .bool true) (by kernel_rfl) (fun v hv => by kernel_rfl) ?_
            simp only [Act.put, List.setIfInBounds_toArray, List.set_cons_zero, List.set_cons_succ]
            refine wqv (u := .bool false) (by kernel_rfl) (fun v hv => by kernel_rfl) ?_
            simp only [Act.put, List.setIfInBounds_toArray, List.set_cons_zero, List.set_cons_succ]
            refine wqv (u := .bool false) (by kernel_rfl) (fun v hv => by kernel_rfl) ?_
            simp only [Act.put, List.setIfInBounds_toArray, List.set_cons_zero, List.set_cons_succ]
            refine wqskip (by kernel_rfl) ?_
            simp only [Act.put, List.setIfInBounds_toArray, List.set_cons_zero, List.set_cons_succ]
            refine wqskip (by kernel_rfl) ?_
            simp only [Act.put, List.setIfInBounds_toArray, List.set_cons_zero, List.set_cons_succ]
            refine wqskip (by kernel_rfl) ?_
            simp only [Act.put, List.setIfInBounds_toArray, List.set_cons_zero, List.set_cons_succ]
            refine wqskip (by kernel_rfl) ?_
            simp only [Act.put, List.setIfInBounds_toArray, List.set_cons_zero, List.set_cons_succ]
            refine wqskip (by kernel_rfl) ?_
            simp only [Act.put, List.setIfInBounds_toArray, List.set_cons_zero, List.set_cons_succ]
            refine wqskip (by kernel_rfl) ?_
            simp only [Act.put, List.setIfInBounds_toArray, List.set_cons_zero, List.set_cons_succ]
            refine wqskip (by kernel_rfl) ?_
            simp only [Act.put, List.setIfInBounds_toArray, List.set_cons_zero, List.set_cons_succ]
            refine wqskip (by kernel_rfl) ?_
            simp only [Act.put, List.setIfInBounds_toArray, List.set_cons_zero, List.set_cons_succ]
            refine wqv (u := .bool false) (by kernel_rfl) (fun v hv => by kernel_rfl) ?_
            simp only [Act.put, List.setIfInBounds_toArray, List.set_cons_zero, List.set_cons_succ]
            refine wqnil (fun v hv => ?_)
            have X2 := hide (hX.out.trans (hv.mono zr1))
            have O2 := hide (hO.out.grow hv)
            clear hv
            obtain ⟨y0, y1, y2, y3, y4, y5⟩ := KY.out v X2.out
            have SB : Hid (SlY yAnA (v.alloc (.cells #[.int .i64 y.n, .int .u64 y.h, .int .u64 y.l, .int .i64 y.v, .int .i64 y.c, .slice y.s.a y.s.D.length y.s.c] 69)) (some ⟨v.heap.size, 0, none⟩) 1 1 [y]) := sl_box (Y := yAnA) v y 69
            have DA := hide (X2.out.alloc (by have := X2.out.size; rwa [hwz.out] at this) (.cells #[.int .i64 y.n, .int .u64 y.h, .int .u64 y.l, .int .i64 y.v, .int .i64 y.c, .slice y.s.a y.s.D.length y.s.c] 69))
            have OA := hide (O2.out.alloc (.cells #[.int .i64 y.n, .int .u64 y.h, .int .u64 y.l, .int .i64 y.v, .int .i64 y.c, .slice y.s.a y.s.D.length y.s.c] 69))
            have za : w.heap.size + 1 ≤ (v.alloc (.cells #[.int .i64 y.n, .int .u64 y.h, .int .u64 y.l, .int .i64 y.v, .int .i64 y.c, .slice y.s.a y.s.D.length y.s.c] 69)).heap.size := by have := DA.out.size; rwa [hwz.out] at this
            have hlx : (LJ).length ≤ i2 + 2 := Nat.le_succ_of_le hlen.out
            have hma : Hid ((LJ).length + 1 ≤ maxLen) := Nat.le_trans (Nat.add_le_add_right hlx 1) hbig1
            have hmb : Hid (((LJ).length + 1) * yAnA.by_ ≤ 140737488355328) := by show ((LJ).length + 1) * 64 ≤ 140737488355328; exact Nat.le_trans (Nat.mul_le_mul_right 64 (Nat.add_le_add_right hlx 1)) hbig2
            clear hlx
            go_upto_region 17 with fail
            go_wp2_with (at_builtin; go_must (refine appY kAnA _ rfl (.tmp 86) (.tmp 91) rfl (w.heap.size + 1) (LJ) _ rfl (some ⟨v.heap.size, 0, none⟩) 1 1 rfl [y] SB.out OA.out za hma.out hmb.out ?_))
            intro v6 w6 oo gg ee
            have X6 := hide (OA.out.grown DA.out gg za)
            have O6 := hide oo
            clear oo gg ee SB DA OA za hma hmb
            try dsimp only
            rw [hstep.out] at O6
            go_wp2
            go_round
            case rel => exact ⟨i2 + 1, true, v6, by go_num, by omega, rfl, rfl, I2, O6, X6⟩
            case measure => first | (simp [intOf]; done) | (simp [intOf]; omega)
          | false =>
            have s0 : wr.drew.cell? ⟨q, o + i2 * 6, none⟩ = some (.int .i64 y.n) ∧ wr.drew.cell? ⟨w.heap.size, 0, none⟩ = some (.int .i64 x.n) := ⟨(KY.out _ hX.out.drew).1, (KX.out _ hX.out.drew).1⟩
            go_wp2_with fail
            go_region_held3 (fun v => v.cell? ⟨q, o + i2 * 6, none⟩ = some (.int .i64 y.n) ∧ v.cell? ⟨w.heap.size, 0, none⟩ = some (.int .i64 x.n)) (with_reducible assumption) (fail)
            have X2 := hide hX.out.drew
            have O2 := hide hO.out.drew
            clear s0
            generalize wr.drew = w2 at *
            obtain ⟨y0, y1, y2, y3, y4, y5⟩ := KY.out w2 X2.out
            obtain ⟨x0, x1, x2, x3, x4, x5⟩ := KX.out w2 X2.out
            by_cases hc : x.n < y.n
            · have I2 := hide (InsL_turnw hI.out hget.out hc)
              have hstep := hide (insK_turnw hI.out hget.out hc)
              generalize insKw L x false i2 = LJ at *
              have SB : Hid (SlY yAnA (w2.alloc (.cells #[.int .i64 x.n, .int .u64 x.h, .int .u64 x.l, .int .i64 x.v, .int .i64 x.c, .slice x.s.a x.s.D.length x.s.c] 69)) (some ⟨w2.heap.size, 0, none⟩) 1 1 [x]) := sl_box (Y := yAnA) w2 x 69
              have DA := hide (X2.out.alloc (by have := X2.out.size; rwa [hwz.out] at this) (.cells #[.int .i64 x.n, .int .u64 x.h, .int .u64 x.l, .int .i64 x.v, .int .i64 x.c, .slice x.s.a x.s.D.length x.s.c] 69))
              have OA := hide (O2.out.alloc (.cells #[.int .i64 x.n, .int .u64 x.h, .int .u64 x.l, .int .i64 x.v, .int .i64 x.c, .slice x.s.a x.s.D.length x.s.c] 69))
              have za : w.heap.size + 1 ≤ (w2.alloc (.cells #[.int .i64 x.n, .int .u64 x.h, .int .u64 x.l, .int .i64 x.v, .int .i64 x.c, .slice x.s.a x.s.D.length x.s.c] 69)).heap.size := by have := DA.out.size; rwa [hwz.out] at this
              have hlx : (LJ).length ≤ i2 + 2 := Nat.le_succ_of_le hlen.out
              have hma : Hid ((LJ).length + 1 ≤ maxLen) := Nat.le_trans (Nat.add_le_add_right hlx 1) hbig1
              have hmb : Hid (((LJ).length + 1) * yAnA.by_ ≤ 140737488355328) := by show ((LJ).length + 1) * 64 ≤ 140737488355328; exact Nat.le_trans (Nat.mul_le_mul_right 64 (Nat.add_le_add_right hlx 1)) hbig2
              clear hlx
              go_upto_region 15 with fail
              go_wp2_with (at_builtin; go_must (refine appY kAnA _ rfl (.tmp 82) (.tmp 84) rfl (w.heap.size + 1) (LJ) _ rfl (some ⟨w2.heap.size, 0, none⟩) 1 1 rfl [x] SB.out OA.out za hma.out hmb.out ?_))
              intro v6 w6 oo gg ee
              have X6 := hide (OA.out.grown DA.out gg za)
              have O6 := hide oo
              clear oo gg ee SB DA OA za hma hmb
              try dsimp only
              clear y0 y1 y2 y3 y4 y5 x0 x1 x2 x3 x4 x5
              obtain ⟨y0, y1, y2, y3, y4, y5⟩ := KY.out w6 X6.out
              have SB : Hid (SlY yAnA (w6.alloc (.cells #[.int .i64 y.n, .int .u64 y.h, .int .u64 y.l, .int .i64 y.v, .int .i64 y.c, .slice y.s.a y.s.D.length y.s.c] 69)) (some ⟨w6.heap.size, 0, none⟩) 1 1 [y]) := sl_box (Y := yAnA) w6 y 69
              have DA := hide (X6.out.alloc (by have := X6.out.size; rwa [hwz.out] at this) (.cells #[.int .i64 y.n, .int .u64 y.h, .int .u64 y.l, .int .i64 y.v, .int .i64 y.c, .slice y.s.a y.s.D.length y.s.c] 69))
              have OA := hide (O6.out.alloc (.cells #[.int .i64 y.n, .int .u64 y.h, .int .u64 y.l, .int .i64 y.v, .int .i64 y.c, .slice y.s.a y.s.D.length y.s.c] 69))
              have za : w.heap.size + 1 ≤ (w6.alloc (.cells #[.int .i64 y.n, .int .u64 y.h, .int .u64 y.l, .int .i64 y.v, .int .i64 y.c, .slice y.s.a y.s.D.length y.s.c] 69)).heap.size := by have := DA.out.size; rwa [hwz.out] at this
              have hlx : (LJ ++ [x]).length ≤ i2 + 2 := by rw [List.length_append]; exact Nat.add_le_add_right hlen.out 1
              have hma : Hid ((LJ ++ [x]).length + 1 ≤ maxLen) := Nat.le_trans (Nat.add_le_add_right hlx 1) hbig1
              have hmb : Hid (((LJ ++ [x]).length + 1) * yAnA.by_ ≤ 140737488355328) := by show ((LJ ++ [x]).length + 1) * 64 ≤ 140737488355328; exact Nat.le_trans (Nat.mul_le_mul_right 64 (Nat.add_le_add_right hlx 1)) hbig2
              clear hlx
              go_upto_region 17 with fail
              go_wp2_with (at_builtin; go_must (refine appY kAnA _ rfl (.tmp 86) (.tmp 91) rfl (w.heap.size + 1) (LJ ++ [x]) _ rfl (some ⟨w6.heap.size, 0, none⟩) 1 1 rfl [y] SB.out OA.out za hma.out hmb.out ?_))
              intro v7 w7 oo gg ee
              have X7 := hide (OA.out.grown DA.out gg za)
              have O7 := hide oo
              clear oo gg ee SB DA OA za hma hmb
              try dsimp only
              have O8 : Hid (OwnY yAnA (w.heap.size + 1) w7 v7 (insKw L x true (i2 + 1))) := by show OwnY _ _ _ _ _; rw [← hstep.out, List.append_assoc]; exact O7.out
              go_wp2
              go_round
              case rel => exact ⟨i2 + 1, true, v7, by go_num, by omega, rfl, rfl, I2, O8, X7⟩
              case measure => first | (simp [intOf]; done) | (simp [intOf]; omega)
            · have I2 := hide (InsL_samew hI.out hget.out hc)
              have hstep := hide (insK_samew (x := x) hget.out)
              generalize insKw L x false i2 = LJ at *
              have SB : Hid (SlY yAnA (w2.alloc (.cells #[.int .i64 y.n, .int .u64 y.h, .int .u64 y.l, .int .i64 y.v, .int .i64 y.c, .slice y.s.a y.s.D.length y.s.c] 69)) (some ⟨w2.heap.size, 0, none⟩) 1 1 [y]) := sl_box (Y := yAnA) w2 y 69
              have DA := hide (X2.out.alloc (by have := X2.out.size; rwa [hwz.out] at this) (.cells #[.int .i64 y.n, .int .u64 y.h, .int .u64 y.l, .int .i64 y.v, .int .i64 y.c, .slice y.s.a y.s.D.length y.s.c] 69))
              have OA := hide (O2.out.alloc (.cells #[.int .i64 y.n, .int .u64 y.h, .int .u64 y.l, .int .i64 y.v, .int .i64 y.c, .slice y.s.a y.s.D.length y.s.c] 69))
              have za : w.heap.size + 1 ≤ (w2.alloc (.cells #[.int .i64 y.n, .int .u64 y.h, .int .u64 y.l, .int .i64 y.v, .int .i64 y.c, .slice y.s.a y.s.D.length y.s.c] 69)).heap.size := by have := DA.out.size; rwa [hwz.out] at this
              have hlx : (LJ).length ≤ i2 + 2 := Nat.le_succ_of_le hlen.out
              have hma : Hid ((LJ).length + 1 ≤ maxLen) := Nat.le_trans (Nat.add_le_add_right hlx 1) hbig1
              have hmb : Hid (((LJ).length + 1) * yAnA.by_ ≤ 140737488355328) := by show ((LJ).length + 1) * 64 ≤ 140737488355328; exact Nat.le_trans (Nat.mul_le_mul_right 64 (Nat.add_le_add_right hlx 1)) hbig2
              clear hlx
              go_upto_region 17 with fail
              go_wp2_with (at_builtin; go_must (refine appY kAnA _ rfl (.tmp 86) (.tmp 91) rfl (w.heap.size + 1) (LJ) _ rfl (some ⟨w2.heap.size, 0, none⟩) 1 1 rfl [y] SB.out OA.out za hma.out hmb.out ?_))
              intro v6 w6 oo gg ee
              have X6 := hide (OA.out.grown DA.out gg za)
              have O6 := hide oo
              clear oo gg ee SB DA OA za hma hmb
              try dsimp only
              rw [hstep.out] at O6
              go_wp2
              go_round
              case rel => exact ⟨i2 + 1, false, v6, by go_num, by omega, rfl, rfl, I2, O6, X6⟩
              case measure => first | (simp [intOf]; done) | (simp [intOf]; omega)
        · obtain rfl : i2 = j := by omega
          cases b with
          | true =>
            have O9 : Hid (OwnY yAnA (w.heap.size + 1) wr v5 PL) := by show OwnY _ _ _ _ _; rw [hnew.out, ← insK_endw, HN.out]; exact hO.out
            go_wp2_with fail
            refine (HC.out _ _ O9.out (B0.out.trans (hX.out.mono (by omega)))).mono ?_
            rintro e w99 ⟨v99, R99, rfl, P99⟩
            have Q99 := hide P99
            clear P99
            dsimp only
            go_wp2
            go_ret
            first | exact ⟨_, rfl, R99, Q99.out⟩ | exact ⟨_, _, rfl, Q99.out⟩
          | false =>
            have hend : Hid (insKw L x false i2 ++ [x] = PL) := by show _ = _; rw [hnew.out, ← insK_nonew (by rw [HN.out]; exact hI.out), HN.out]
            generalize insKw L x false i2 = LJ at *
            obtain ⟨x0, x1, x2, x3, x4, x5⟩ := KX.out wr hX.out
            have SB : Hid (SlY yAnA (wr.alloc (.cells #[.int .i64 x.n, .int .u64 x.h, .int .u64 x.l, .int .i64 x.v, .int .i64 x.c, .slice x.s.a x.s.D.length x.s.c] 69)) (some ⟨wr.heap.size, 0, none⟩) 1 1 [x]) := sl_box (Y := yAnA) wr x 69
            have DA := hide (hX.out.alloc (by have := hX.out.size; rwa [hwz.out] at this) (.cells #[.int .i64 x.n, .int .u64 x.h, .int .u64 x.l, .int .i64 x.v, .int .i64 x.c, .slice x.s.a x.s.D.length x.s.c] 69))
            have OA := hide (hO.out.alloc (.cells #[.int .i64 x.n, .int .u64 x.h, .int .u64 x.l, .int .i64 x.v, .int .i64 x.c, .slice x.s.a x.s.D.length x.s.c] 69))
            have za : w.heap.size + 1 ≤ (wr.alloc (.cells #[.int .i64 x.n, .int .u64 x.h, .int .u64 x.l, .int .i64 x.v, .int .i64 x.c, .slice x.s.a x.s.D.length x.s.c] 69)).heap.size := by have := DA.out.size; rwa [hwz.out] at this
            have hlx : (LJ).length ≤ i2 + 2 := Nat.le_succ_of_le hlen.out
            have hma : Hid ((LJ).length + 1 ≤ maxLen) := Nat.le_trans (Nat.add_le_add_right hlx 1) hbig1
            have hmb : Hid (((LJ).length + 1) * yAnA.by_ ≤ 140737488355328) := by show ((LJ).length + 1) * 64 ≤ 140737488355328; exact Nat.le_trans (Nat.mul_le_mul_right 64 (Nat.add_le_add_right hlx 1)) hbig2
            clear hlx
            go_upto_region 19 with fail
            go_wp2_with (at_builtin; go_must (refine appY kAnA _ rfl (.tmp 95) (.tmp 97) rfl (w.heap.size + 1) (LJ) _ rfl (some ⟨wr.heap.size, 0, none⟩) 1 1 rfl [x] SB.out OA.out za hma.out hmb.out ?_))
            intro v6 w6 oo gg ee
            have X6 := hide (OA.out.grown DA.out gg za)
            have O6 := hide oo
            clear oo gg ee SB DA OA za hma hmb
            try dsimp only
            rw [hend.out] at O6
            go_wp2_with fail
            refine (HC.out _ _ O6.out (B0.out.trans (X6.out.mono (by omega)))).mono ?_
            rintro e w99 ⟨v99, R99, rfl, P99⟩
            have Q99 := hide P99
            clear P99
            dsimp only
            go_wp2
            go_ret
            first | exact ⟨_, rfl, R99, Q99.out⟩ | exact ⟨_, _, rfl, Q99.out⟩

end Go.Proofs.YtcmjhaljbmhpgaaGreat
