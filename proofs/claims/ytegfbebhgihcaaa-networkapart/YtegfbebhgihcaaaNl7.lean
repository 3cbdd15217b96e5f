import Derived.Test.YtegfbebhgihcaaaNl5
namespace Go.Proofs.Ytegfbebhgihcaaa
open Go.RowKit Go.Maps
set_option linter.unusedVariables false
set_option linter.unusedSimpArgs false

/-- The second net of NetworkApart, beside what the first one told (blocks from T0 to T1). -/
structure AI (B T0 T1 N : Nat) (w1 w : World) (b : Nat) (v : Value) (K : List Ap) (W : List Pk) (j : Nat) : Prop where
  net : ∃ P M, NG (fun k => T0 ≤ k ∧ k < T1) B w b P (N + j) M ∧ P.length ≤ N + j
  lb : Lb T0 T1 w v K W
  bel : Below B w1 w
  hB : B ≤ w.heap.size
variable {B T0 T1 N j : Nat} {w1 w w' : World} {b : Nat} {v : Value} {K : List Ap} {W : List Pk}
theorem AI.step (h : AI B T0 T1 N w1 w b v K W j) (hb : Below w.heap.size w w') : AI B T0 T1 N w1 w' b v K W j := by
  obtain ⟨P, M, n1, n2⟩ := h.net
  exact ⟨⟨P, M, n1.step hb, n2⟩, h.lb.upd (S := fun _ => False) (Upd.of_below hb) (fun _ _ _ => id), h.bel.trans (hb.mono h.hB), Nat.le_trans h.hB hb.size⟩
theorem AI.idle (h : AI B T0 T1 N w1 w b v K W j) : AI B T0 T1 N w1 w b v K W (j + 1) := by
  obtain ⟨P, M, n1, n2⟩ := h.net
  exact ⟨⟨P, M, n1.more (by omega), by omega⟩, h.lb, h.bel, h.hB⟩
theorem AI.turn (h : AI B T0 T1 N w1 w b v K W j) {P' : List Pk} {M} {rl : Nat} (n1 : NG (fun k => T0 ≤ k ∧ k < T1) B w' b P' rl M) (hr : rl ≤ N + j + 1) (u : UN (fun k => T0 ≤ k ∧ k < T1) B w w') (hl : P'.length ≤ N + j + 1) : AI B T0 T1 N w1 w' b v K W (j + 1) :=
  ⟨⟨P', M, n1.more hr, hl⟩, h.lb.upd u (fun k h1 h2 h3 => h3.2 ⟨h1, h2⟩), h.bel.trans (Upd.below u h.hB (fun k hk => hk.1)), Nat.le_trans h.hB (Upd.size u)⟩
theorem ai_take (k : Int) (h : AI B T0 T1 N w1 w b v K W j) (hj : (N + j + 1) * 32 ≤ 168884986026393) : Calls Try.prog 26 #[.pointer (some ⟨b, 0, none⟩), .int .i64 k] w fun e w' => ∃ (x : Ap) (r : Int), e = .returned (.tuple #[x.val, .int .i64 r]) ∧ AI B T0 T1 N w1 w' b v K W (j + 1) := by
  obtain ⟨P, M, n1, n2⟩ := h.net
  refine (ng_take k n1 h.hB (by omega)).mono ?_
  rintro e w' ⟨x, r, P', rfl, _, _, _, h1, h2, h3, _⟩
  exact ⟨x, r, rfl, h.turn h1 (by omega) h2 (by omega)⟩
theorem ai_drop (k : Int) (h : AI B T0 T1 N w1 w b v K W j) (hj : (N + j + 1) * 32 ≤ 168884986026393) : Calls Try.prog 29 #[.pointer (some ⟨b, 0, none⟩), .int .i64 k] w fun e w' => ∃ r, e = .returned (.int .i64 r) ∧ AI B T0 T1 N w1 w' b v K W (j + 1) := by
  obtain ⟨P, M, n1, n2⟩ := h.net
  refine (ng_drop k n1 h.hB (by omega)).mono ?_
  rintro e w' ⟨r, P', rfl, h1, h2, h3, _⟩
  exact ⟨r, rfl, h.turn h1 (by omega) h2 (by omega)⟩
theorem ai_swap (i k : Int) (h : AI B T0 T1 N w1 w b v K W j) (hj : (N + j + 1) * 32 ≤ 168884986026393) : Calls Try.prog 31 #[.pointer (some ⟨b, 0, none⟩), .int .i64 i, .int .i64 k] w fun e w' => ∃ r, e = .returned (.int .i64 r) ∧ AI B T0 T1 N w1 w' b v K W (j + 1) := by
  obtain ⟨P, M, n1, n2⟩ := h.net
  refine (ng_swap i k n1 h.hB (by omega)).mono ?_
  rintro e w' ⟨r, P', rfl, h1, h2, h3, _⟩
  exact ⟨r, rfl, h.turn h1 (by omega) h2 (by omega)⟩
theorem ai_turn (k at_ : Int) (m : UInt8) (h : AI B T0 T1 N w1 w b v K W j) (hj : (N + j + 1) * 32 ≤ 168884986026393) : Calls Try.prog 30 #[.pointer (some ⟨b, 0, none⟩), .int .i64 k, .int .i64 at_, .int .u8 (m.toNat : Int)] w fun e w' => ∃ r, e = .returned (.int .i64 r) ∧ AI B T0 T1 N w1 w' b v K W (j + 1) := by
  obtain ⟨P, M, n1, n2⟩ := h.net
  refine (ng_turn k at_ m n1 h.hB (by omega)).mono ?_
  rintro e w' ⟨r, P', rfl, h1, h2, h3, _⟩
  exact ⟨r, rfl, h.turn h1 (by omega) h2 (by omega)⟩
theorem ai_clear (h : AI B T0 T1 N w1 w b v K W j) : Calls Try.prog 32 #[.pointer (some ⟨b, 0, none⟩)] w fun e w' => e = .returned (.tuple #[]) ∧ AI B T0 T1 N w1 w' b v K W (j + 1) := by
  obtain ⟨P, M, n1, n2⟩ := h.net
  refine (ng_clear n1 h.hB).mono ?_
  rintro e w' ⟨rfl, h1, h2⟩
  exact ⟨rfl, h.turn h1 (by omega) h2 (Nat.zero_le _)⟩
theorem ai_send (y : Ap) (h : AI B T0 T1 N w1 w b v K W j) (hy : y.In w) (hs : y.s.length ≤ 32768) (hf : adr 3 2 y.f = true) (ht : adr 3 2 y.t = true) (hj : (N + j + 1) * 32 ≤ 168884986026393) : Calls Try.prog 25 #[.pointer (some ⟨b, 0, none⟩), y.val] w fun e w' => e = .returned (.int .i64 0) ∧ AI B T0 T1 N w1 w' b v K W (j + 1) := by
  obtain ⟨P, M, n1, n2⟩ := h.net
  refine (ng_send y n1 h.hB hy hs hf ht (Nat.le_trans (Nat.mul_le_mul_right 32 (Nat.add_le_add_right n2 1)) hj) hj).mono ?_
  rintro e w' ⟨rfl, ⟨M', h1, _⟩, h2⟩
  exact ⟨rfl, h.turn h1 (by omega) h2 (by rw [List.length_append]; show P.length + 1 ≤ _; omega)⟩
set_option maxRecDepth 100000 in
set_option maxHeartbeats 4000000 in
/-- NetworkApart. -/
theorem apart14 (L : List Ap) (a : Option Addr) (c : Nat) (Z : List Oq) (az : Option Addr) (cz : Nat) (w : World) (h : SlY yA w a L.length c L) (hin : ∀ x ∈ L, x.In w ∧ x.s.length ≤ 140737488351232) (hl : L.length * 40 ≤ 140737488351232) (hz : SlY yQ w az Z.length cz Z) (hzi : ∀ o ∈ Z, o.x.In w ∧ o.x.s.length ≤ 140737488351232) (hzl : Z.length * 80 ≤ 140737488351232) :
    Calls Try.prog 9 #[.slice a L.length c, .slice az Z.length cz] w fun e w' => e = .returned (.bool true) ∧ Below w.heap.size w w' := by
  have HF := hide (filled_any L a c w h hin hl)
  have HL := hide h
  have HIL := hide hin
  have HZ := hide hz
  have HZI := hide hzi
  clear h hin hz hzi
  go_enter Try.func9, Try.ntmps9
  go_wp2_with fail
  refine HF.out.mono ?_
  rintro e w1 ⟨bn, rfl, N1, b1⟩
  have HF2 := hide (filled_any L a c w1 (HL.out.later b1) (fun x hx => ⟨SlY.later (HIL.out x hx).1 b1, (HIL.out x hx).2⟩) hl)
  have HN1 := hide N1
  have HB1 := hide b1
  clear N1 b1 HF HL HIL
  go_wp2_with fail
  refine HF2.out.mono ?_
  rintro e w2 ⟨bm, rfl, N2, b2⟩
  have HN2 := hide N2
  have HB2 := hide b2
  clear N2 b2 HF2
  go_wp2_with fail
  refine (works14 w2).mono ?_
  rintro e w3 ⟨rfl, b3⟩
  have HN3 := hide (HN2.out.later b3)
  have HB3 := hide (HB2.out.trans (b3.mono HB2.out.size))
  clear b3 HN2 HB2
  obtain ⟨pv, rv, mb, n, R, M, k1, q1, _, _, _, _⟩ := HN1.out.ex
  have HK1 := hide k1
  have HNn : Hid (∀ v, Below w1.heap.size w1 v → NetB 0 v bn 3 2 (L.map fitP) R.length) := fun v hv => ⟨pv, rv, mb, n, R, M, HK1.out.later hv, Nat.zero_le _, Nat.zero_le _, fun _ _ => Nat.zero_le _, fun _ _ => Nat.zero_le _, Nat.le_refl _⟩
  clear k1 HN1 q1
  have HP := hide (pool_any bn (L.map fitP) R.length 0 w3 (HNn.out w3 HB3.out) (by rw [List.length_map]; omega))
  go_wp2_with fail
  refine HP.out.mono ?_
  rintro e w4 ⟨v, K, rfl, O4, b4⟩
  have I4 : Hid (AI w1.heap.size w3.heap.size w4.heap.size L.length w1 w4 bm v K (L.map fitP) 0) := by
    obtain ⟨pv', rv', mb', n', R', M', m1, m2, m3, m4, m5, m6⟩ := HN3.out.ex
    have g : NG (fun _ => False) w1.heap.size w3 bm (L.map fitP) L.length M' := ⟨pv', rv', mb', n', R', m1, m2, m3, m4, m5, m6, fun j hj => hj.elim⟩
    exact ⟨⟨_, _, g.later b4 (fun j hj => .inr hj), by rw [List.length_map]; omega⟩, ⟨O4.lf, fun k hk => (O4.own.blk k hk).2, fun x hx k hk => ((O4.out x hx).own.blk k hk).2⟩, HB3.out.trans (b4.mono HB3.out.size), Nat.le_trans HB3.out.size b4.size⟩
  have HST := hide (sent_any (HK1.out.later I4.out.bel))
  have hLK : K.length = L.length := by have := O4.lf.len; rw [List.length_map] at this; exact this
  obtain ⟨va, vc, hv, _⟩ := O4.own.form
  rw [hLK] at hv
  subst hv
  have HLK := hide hLK
  clear O4 b4 HP HN3 hLK
  go_wp2_with fail
  refine HST.out.mono ?_
  rintro e w_ ⟨rfl, hy_⟩
  rw [hy_]; clear hy_ w_ HST
  go_wp2_with fail
  generalize w3.heap.size = T0 at *
  have hT1 : ∃ T, T = w4.heap.size := ⟨_, rfl⟩
  obtain ⟨T1, hT⟩ := hT1
  rw [← hT] at I4
  clear hT
  go_loopw [9] (fun i wr => ∃ j : Nat, i = .int .i64 (j : Int) ∧ j ≤ Z.length ∧ Hid (AI w1.heap.size T0 T1 L.length w1 wr bm (.slice va L.length vc) K (L.map fitP) j)) (fun i _ => Z.length - (intOf i).toNat)
  case atStart => exact ⟨0, rfl, Nat.zero_le _, I4⟩
  case round =>
    obtain ⟨j, rfl, hj, HJ⟩ := hrel
    clear I4
    by_cases hlt : j < Z.length
    · have d1 : decide ((j : Int) < (Z.length : Int)) = true := decide_eq_true (by omega)
      have i1 : (j : Int) < (Z.length : Int) := by omega
      have hw1 : IntKind.i64.wrap ((j : Int) + 1) = ((j + 1 : Nat) : Int) := by rw [IntKind.wrap_i64]; omega
      have hg := List.getElem?_eq_getElem hlt
      generalize hoe : Z[j] = o at hg
      have HOM := hide (List.mem_of_getElem? hg)
      obtain ⟨p, off, ha, hp, hlie⟩ := HZ.out.place (by intro e; rw [e] at hlt; simp at hlt)
      subst ha
      have bb : Below w.heap.size w wr := HB1.out.trans (HJ.out.bel.mono HB1.out.size)
      have HI : Hid (∀ o ∈ Z, o.x.In w ∧ o.x.s.length ≤ 140737488351232) := HZI.out
      have l0 : wr.cell? ⟨p, off + j * 8, none⟩ = some (.int .i64 o.k) := (bb.cell (p := ⟨p, _, none⟩) hp).trans (hlie _ _ hg 0 _ rfl)
      have l1 : wr.cell? ⟨p, off + j * 8 + 1, none⟩ = some (.int .i64 o.i) := (bb.cell (p := ⟨p, _, none⟩) hp).trans (hlie _ _ hg 1 _ rfl)
      have l2 : wr.cell? ⟨p, off + j * 8 + 2, none⟩ = some (.int .i64 o.a) := (bb.cell (p := ⟨p, _, none⟩) hp).trans (hlie _ _ hg 2 _ rfl)
      have l3 : wr.cell? ⟨p, off + j * 8 + 3, none⟩ = some (.int .u8 (o.m.toNat : Int)) := (bb.cell (p := ⟨p, _, none⟩) hp).trans (hlie _ _ hg 3 _ rfl)
      have l4 : wr.cell? ⟨p, off + j * 8 + 4, none⟩ = some (.int .i64 o.x.f) := (bb.cell (p := ⟨p, _, none⟩) hp).trans (hlie _ _ hg 4 _ rfl)
      have l5 : wr.cell? ⟨p, off + j * 8 + 5, none⟩ = some (.int .i64 o.x.t) := (bb.cell (p := ⟨p, _, none⟩) hp).trans (hlie _ _ hg 5 _ rfl)
      have l6 : wr.cell? ⟨p, off + j * 8 + 6, none⟩ = some (.slice o.x.a o.x.s.length o.x.c) := (bb.cell (p := ⟨p, _, none⟩) hp).trans (hlie _ _ hg 6 _ rfl)
      have l7 : wr.cell? ⟨p, off + j * 8 + 7, none⟩ = some (.bool o.h) := (bb.cell (p := ⟨p, _, none⟩) hp).trans (hlie _ _ hg 7 _ rfl)
      have hBr : w.heap.size ≤ wr.heap.size := bb.size
      have HBA : ∀ (kd : Int) (w4 : World), w4 = wr.alloc (.cells #[.int .i64 kd, .int .i64 o.i, .int .i64 o.a, .int .u8 (o.m.toNat : Int), .int .i64 o.x.f, .int .i64 o.x.t, .slice o.x.a o.x.s.length o.x.c, .bool o.h] 48) → Hid (Below wr.heap.size wr w4) := fun kd w4 e => by rw [e]; exact (Below.refl _ wr).alloc (Nat.le_refl _) _
      have HB0' : ∀ (kd : Int) (w4 : World), w4 = wr.alloc (.cells #[.int .i64 kd, .int .i64 o.i, .int .i64 o.a, .int .u8 (o.m.toNat : Int), .int .i64 o.x.f, .int .i64 o.x.t, .slice o.x.a o.x.s.length o.x.c, .bool o.h] 48) → Below w.heap.size w w4 := fun kd w4 e => bb.trans ((HBA kd w4 e).out.mono hBr)
      obtain ⟨kd, hkd⟩ : ∃ y, y = o.k := ⟨_, rfl⟩
      rw [← hkd] at l0
      clear hkd bb hlie hoe hg hBr
      by_cases k0 : kd = 0
      · subst k0
        obtain ⟨w4, hw4⟩ : ∃ y, y = wr.alloc (.cells #[.int .i64 0, .int .i64 o.i, .int .i64 o.a, .int .u8 (o.m.toNat : Int), .int .i64 o.x.f, .int .i64 o.x.t, .slice o.x.a o.x.s.length o.x.c, .bool o.h] 48) := ⟨_, rfl⟩
        have HB0 := hide (HB0' 0 w4 hw4)
        have H4 := hide (HJ.out.step (HBA 0 w4 hw4).out)
        clear HB0' HBA HJ
        go_upto_region 11 with fail
        rw [← hw4]
        have e0 : w4.cell? ⟨wr.heap.size, 0, none⟩ = some (.int .i64 0) := by rw [hw4]; go_simp
        have e1 : w4.cell? ⟨wr.heap.size, 1, none⟩ = some (.int .i64 o.i) := by rw [hw4]; go_simp
        have e2 : w4.cell? ⟨wr.heap.size, 2, none⟩ = some (.int .i64 o.a) := by rw [hw4]; go_simp
        have e3 : w4.cell? ⟨wr.heap.size, 3, none⟩ = some (.int .u8 (o.m.toNat : Int)) := by rw [hw4]; go_simp
        have e4 : w4.cell? ⟨wr.heap.size, 4, none⟩ = some (.int .i64 o.x.f) := by rw [hw4]; go_simp
        have e5 : w4.cell? ⟨wr.heap.size, 5, none⟩ = some (.int .i64 o.x.t) := by rw [hw4]; go_simp
        have e6 : w4.cell? ⟨wr.heap.size, 6, none⟩ = some (.slice o.x.a o.x.s.length o.x.c) := by rw [hw4]; go_simp
        clear hw4 l0 l1 l2 l3 l4 l5 l6 l7
        generalize wr.heap.size = qo at *
        have HF := hide (fit_any o.x w4 (SlY.later (HI.out o HOM.out).1 HB0.out) (by have := (HI.out o HOM.out).2; omega))
        unfold Ap.val at HF
        go_wp2_with fail
        refine HF.out.mono ?_
        rintro e w5 ⟨y, rfl, hy, hyi, hb5⟩
        unfold Ap.pk at hy
        injection hy with y1 y2 y3
        have HS := hide (ai_send y (H4.out.step hb5) hyi (by rw [y2, List.length_take]; omega) (by rw [y3]; exact ad5_adr _) (by rw [y1]; exact ad5_adr _) (by omega))
        unfold Ap.val at HS
        clear y1 y2 y3 hyi hb5 HF H4
        go_wp2_with fail
        refine HS.out.mono ?_
        rintro e w6 ⟨rfl, G6⟩
        have H6 := hide G6
        clear G6 HS
        go_wp2
        exact ⟨⟨j + 1, by go_num, by omega, H6⟩, by simp [intOf]; omega⟩
      by_cases k1 : kd = 1
      · subst k1
        obtain ⟨w4, hw4⟩ : ∃ y, y = wr.alloc (.cells #[.int .i64 1, .int .i64 o.i, .int .i64 o.a, .int .u8 (o.m.toNat : Int), .int .i64 o.x.f, .int .i64 o.x.t, .slice o.x.a o.x.s.length o.x.c, .bool o.h] 48) := ⟨_, rfl⟩
        have HB0 := hide (HB0' 1 w4 hw4)
        have H4 := hide (HJ.out.step (HBA 1 w4 hw4).out)
        clear HB0' HBA HJ
        go_upto_region 11 with fail
        rw [← hw4]
        have e0 : w4.cell? ⟨wr.heap.size, 0, none⟩ = some (.int .i64 1) := by rw [hw4]; go_simp
        have e1 : w4.cell? ⟨wr.heap.size, 1, none⟩ = some (.int .i64 o.i) := by rw [hw4]; go_simp
        have e2 : w4.cell? ⟨wr.heap.size, 2, none⟩ = some (.int .i64 o.a) := by rw [hw4]; go_simp
        have e3 : w4.cell? ⟨wr.heap.size, 3, none⟩ = some (.int .u8 (o.m.toNat : Int)) := by rw [hw4]; go_simp
        have e4 : w4.cell? ⟨wr.heap.size, 4, none⟩ = some (.int .i64 o.x.f) := by rw [hw4]; go_simp
        have e5 : w4.cell? ⟨wr.heap.size, 5, none⟩ = some (.int .i64 o.x.t) := by rw [hw4]; go_simp
        have e6 : w4.cell? ⟨wr.heap.size, 6, none⟩ = some (.slice o.x.a o.x.s.length o.x.c) := by rw [hw4]; go_simp
        clear hw4 l0 l1 l2 l3 l4 l5 l6 l7
        generalize wr.heap.size = qo at *
        have HF := hide (fit_any o.x w4 (SlY.later (HI.out o HOM.out).1 HB0.out) (by have := (HI.out o HOM.out).2; omega))
        unfold Ap.val at HF
        go_wp2_with fail
        refine HF.out.mono ?_
        rintro e w5 ⟨y, rfl, hy, hyi, hb5⟩
        unfold Ap.pk at hy
        injection hy with y1 y2 y3
        have HS := hide (ai_send y (H4.out.step hb5) hyi (by rw [y2, List.length_take]; omega) (by rw [y3]; exact ad5_adr _) (by rw [y1]; exact ad5_adr _) (by omega))
        unfold Ap.val at HS
        clear y1 y2 y3 hyi hb5 HF H4
        go_wp2_with fail
        refine HS.out.mono ?_
        rintro e w6 ⟨rfl, G6⟩
        have H6 := hide G6
        clear G6 HS
        go_wp2
        exact ⟨⟨j + 1, by go_num, by omega, H6⟩, by simp [intOf]; omega⟩
      by_cases k3 : kd = 3
      · subst k3
        obtain ⟨w4, hw4⟩ : ∃ y, y = wr.alloc (.cells #[.int .i64 3, .int .i64 o.i, .int .i64 o.a, .int .u8 (o.m.toNat : Int), .int .i64 o.x.f, .int .i64 o.x.t, .slice o.x.a o.x.s.length o.x.c, .bool o.h] 48) := ⟨_, rfl⟩
        have HB0 := hide (HB0' 3 w4 hw4)
        have H4 := hide (HJ.out.step (HBA 3 w4 hw4).out)
        clear HB0' HBA HJ
        go_upto_region 11 with fail
        rw [← hw4]
        have e0 : w4.cell? ⟨wr.heap.size, 0, none⟩ = some (.int .i64 3) := by rw [hw4]; go_simp
        have e1 : w4.cell? ⟨wr.heap.size, 1, none⟩ = some (.int .i64 o.i) := by rw [hw4]; go_simp
        have e2 : w4.cell? ⟨wr.heap.size, 2, none⟩ = some (.int .i64 o.a) := by rw [hw4]; go_simp
        have e3 : w4.cell? ⟨wr.heap.size, 3, none⟩ = some (.int .u8 (o.m.toNat : Int)) := by rw [hw4]; go_simp
        have e4 : w4.cell? ⟨wr.heap.size, 4, none⟩ = some (.int .i64 o.x.f) := by rw [hw4]; go_simp
        have e5 : w4.cell? ⟨wr.heap.size, 5, none⟩ = some (.int .i64 o.x.t) := by rw [hw4]; go_simp
        have e6 : w4.cell? ⟨wr.heap.size, 6, none⟩ = some (.slice o.x.a o.x.s.length o.x.c) := by rw [hw4]; go_simp
        clear hw4 l0 l1 l2 l3 l4 l5 l6 l7
        generalize wr.heap.size = qo at *
        go_wp2_with fail
        refine (ai_take o.i H4.out (by omega)).mono ?_
        rintro e w5 ⟨x5, r5, rfl, G5⟩
        have H5 := hide G5
        clear G5 H4
        go_wp2
        exact ⟨⟨j + 1, by go_num, by omega, H5⟩, by simp [intOf]; omega⟩
      by_cases k5 : kd = 5
      · subst k5
        obtain ⟨w4, hw4⟩ : ∃ y, y = wr.alloc (.cells #[.int .i64 5, .int .i64 o.i, .int .i64 o.a, .int .u8 (o.m.toNat : Int), .int .i64 o.x.f, .int .i64 o.x.t, .slice o.x.a o.x.s.length o.x.c, .bool o.h] 48) := ⟨_, rfl⟩
        have HB0 := hide (HB0' 5 w4 hw4)
        have H4 := hide (HJ.out.step (HBA 5 w4 hw4).out)
        clear HB0' HBA HJ
        go_upto_region 11 with fail
        rw [← hw4]
        have e0 : w4.cell? ⟨wr.heap.size, 0, none⟩ = some (.int .i64 5) := by rw [hw4]; go_simp
        have e1 : w4.cell? ⟨wr.heap.size, 1, none⟩ = some (.int .i64 o.i) := by rw [hw4]; go_simp
        have e2 : w4.cell? ⟨wr.heap.size, 2, none⟩ = some (.int .i64 o.a) := by rw [hw4]; go_simp
        have e3 : w4.cell? ⟨wr.heap.size, 3, none⟩ = some (.int .u8 (o.m.toNat : Int)) := by rw [hw4]; go_simp
        have e4 : w4.cell? ⟨wr.heap.size, 4, none⟩ = some (.int .i64 o.x.f) := by rw [hw4]; go_simp
        have e5 : w4.cell? ⟨wr.heap.size, 5, none⟩ = some (.int .i64 o.x.t) := by rw [hw4]; go_simp
        have e6 : w4.cell? ⟨wr.heap.size, 6, none⟩ = some (.slice o.x.a o.x.s.length o.x.c) := by rw [hw4]; go_simp
        clear hw4 l0 l1 l2 l3 l4 l5 l6 l7
        generalize wr.heap.size = qo at *
        go_wp2_with fail
        refine (ai_drop o.i H4.out (by omega)).mono ?_
        rintro e w5 ⟨r5, rfl, G5⟩
        have H5 := hide G5
        clear G5 H4
        go_wp2
        exact ⟨⟨j + 1, by go_num, by omega, H5⟩, by simp [intOf]; omega⟩
      by_cases k6 : kd = 6
      · subst k6
        obtain ⟨w4, hw4⟩ : ∃ y, y = wr.alloc (.cells #[.int .i64 6, .int .i64 o.i, .int .i64 o.a, .int .u8 (o.m.toNat : Int), .int .i64 o.x.f, .int .i64 o.x.t, .slice o.x.a o.x.s.length o.x.c, .bool o.h] 48) := ⟨_, rfl⟩
        have HB0 := hide (HB0' 6 w4 hw4)
        have H4 := hide (HJ.out.step (HBA 6 w4 hw4).out)
        clear HB0' HBA HJ
        go_upto_region 11 with fail
        rw [← hw4]
        have e0 : w4.cell? ⟨wr.heap.size, 0, none⟩ = some (.int .i64 6) := by rw [hw4]; go_simp
        have e1 : w4.cell? ⟨wr.heap.size, 1, none⟩ = some (.int .i64 o.i) := by rw [hw4]; go_simp
        have e2 : w4.cell? ⟨wr.heap.size, 2, none⟩ = some (.int .i64 o.a) := by rw [hw4]; go_simp
        have e3 : w4.cell? ⟨wr.heap.size, 3, none⟩ = some (.int .u8 (o.m.toNat : Int)) := by rw [hw4]; go_simp
        have e4 : w4.cell? ⟨wr.heap.size, 4, none⟩ = some (.int .i64 o.x.f) := by rw [hw4]; go_simp
        have e5 : w4.cell? ⟨wr.heap.size, 5, none⟩ = some (.int .i64 o.x.t) := by rw [hw4]; go_simp
        have e6 : w4.cell? ⟨wr.heap.size, 6, none⟩ = some (.slice o.x.a o.x.s.length o.x.c) := by rw [hw4]; go_simp
        clear hw4 l0 l1 l2 l3 l4 l5 l6 l7
        generalize wr.heap.size = qo at *
        go_wp2_with fail
        refine (ai_turn o.i o.a o.m H4.out (by omega)).mono ?_
        rintro e w5 ⟨r5, rfl, G5⟩
        have H5 := hide G5
        clear G5 H4
        go_wp2
        exact ⟨⟨j + 1, by go_num, by omega, H5⟩, by simp [intOf]; omega⟩
      by_cases k7 : kd = 7
      · subst k7
        obtain ⟨w4, hw4⟩ : ∃ y, y = wr.alloc (.cells #[.int .i64 7, .int .i64 o.i, .int .i64 o.a, .int .u8 (o.m.toNat : Int), .int .i64 o.x.f, .int .i64 o.x.t, .slice o.x.a o.x.s.length o.x.c, .bool o.h] 48) := ⟨_, rfl⟩
        have HB0 := hide (HB0' 7 w4 hw4)
        have H4 := hide (HJ.out.step (HBA 7 w4 hw4).out)
        clear HB0' HBA HJ
        go_upto_region 11 with fail
        rw [← hw4]
        have e0 : w4.cell? ⟨wr.heap.size, 0, none⟩ = some (.int .i64 7) := by rw [hw4]; go_simp
        have e1 : w4.cell? ⟨wr.heap.size, 1, none⟩ = some (.int .i64 o.i) := by rw [hw4]; go_simp
        have e2 : w4.cell? ⟨wr.heap.size, 2, none⟩ = some (.int .i64 o.a) := by rw [hw4]; go_simp
        have e3 : w4.cell? ⟨wr.heap.size, 3, none⟩ = some (.int .u8 (o.m.toNat : Int)) := by rw [hw4]; go_simp
        have e4 : w4.cell? ⟨wr.heap.size, 4, none⟩ = some (.int .i64 o.x.f) := by rw [hw4]; go_simp
        have e5 : w4.cell? ⟨wr.heap.size, 5, none⟩ = some (.int .i64 o.x.t) := by rw [hw4]; go_simp
        have e6 : w4.cell? ⟨wr.heap.size, 6, none⟩ = some (.slice o.x.a o.x.s.length o.x.c) := by rw [hw4]; go_simp
        clear hw4 l0 l1 l2 l3 l4 l5 l6 l7
        generalize wr.heap.size = qo at *
        go_wp2_with fail
        refine (ai_swap o.i o.a H4.out (by omega)).mono ?_
        rintro e w5 ⟨r5, rfl, G5⟩
        have H5 := hide G5
        clear G5 H4
        go_wp2
        exact ⟨⟨j + 1, by go_num, by omega, H5⟩, by simp [intOf]; omega⟩
      by_cases k9 : kd = 9
      · subst k9
        obtain ⟨w4, hw4⟩ : ∃ y, y = wr.alloc (.cells #[.int .i64 9, .int .i64 o.i, .int .i64 o.a, .int .u8 (o.m.toNat : Int), .int .i64 o.x.f, .int .i64 o.x.t, .slice o.x.a o.x.s.length o.x.c, .bool o.h] 48) := ⟨_, rfl⟩
        have HB0 := hide (HB0' 9 w4 hw4)
        have H4 := hide (HJ.out.step (HBA 9 w4 hw4).out)
        clear HB0' HBA HJ
        go_upto_region 11 with fail
        rw [← hw4]
        have e0 : w4.cell? ⟨wr.heap.size, 0, none⟩ = some (.int .i64 9) := by rw [hw4]; go_simp
        have e1 : w4.cell? ⟨wr.heap.size, 1, none⟩ = some (.int .i64 o.i) := by rw [hw4]; go_simp
        have e2 : w4.cell? ⟨wr.heap.size, 2, none⟩ = some (.int .i64 o.a) := by rw [hw4]; go_simp
        have e3 : w4.cell? ⟨wr.heap.size, 3, none⟩ = some (.int .u8 (o.m.toNat : Int)) := by rw [hw4]; go_simp
        have e4 : w4.cell? ⟨wr.heap.size, 4, none⟩ = some (.int .i64 o.x.f) := by rw [hw4]; go_simp
        have e5 : w4.cell? ⟨wr.heap.size, 5, none⟩ = some (.int .i64 o.x.t) := by rw [hw4]; go_simp
        have e6 : w4.cell? ⟨wr.heap.size, 6, none⟩ = some (.slice o.x.a o.x.s.length o.x.c) := by rw [hw4]; go_simp
        clear hw4 l0 l1 l2 l3 l4 l5 l6 l7
        generalize wr.heap.size = qo at *
        go_wp2_with fail
        refine (ai_clear H4.out).mono ?_
        rintro e w5 ⟨rfl, G5⟩
        have H5 := hide G5
        clear G5 H4
        go_wp2
        exact ⟨⟨j + 1, by go_num, by omega, H5⟩, by simp [intOf]; omega⟩
      have x0 : (kd == 0) = false := by simp [k0]
      have x1 : (kd == 1) = false := by simp [k1]
      have x3 : (kd == 3) = false := by simp [k3]
      have x5 : (kd == 5) = false := by simp [k5]
      have x6 : (kd == 6) = false := by simp [k6]
      have x7 : (kd == 7) = false := by simp [k7]
      have x9 : (kd == 9) = false := by simp [k9]
      clear k0 k1 k3 k5 k6 k7 k9
      obtain ⟨w4, hw4⟩ : ∃ y, y = wr.alloc (.cells #[.int .i64 kd, .int .i64 o.i, .int .i64 o.a, .int .u8 (o.m.toNat : Int), .int .i64 o.x.f, .int .i64 o.x.t, .slice o.x.a o.x.s.length o.x.c, .bool o.h] 48) := ⟨_, rfl⟩
      have H4 := hide (HJ.out.step (HBA kd w4 hw4).out).idle
      clear HB0' HBA HJ
      go_upto_region 11 with fail
      rw [← hw4]
      have e0 : w4.cell? ⟨wr.heap.size, 0, none⟩ = some (.int .i64 kd) := by rw [hw4]; go_simp
      clear hw4 l0 l1 l2 l3 l4 l5 l6 l7
      generalize wr.heap.size = qo at *
      go_wp2
      exact ⟨⟨j + 1, by go_num, by omega, H4⟩, by simp [intOf]; omega⟩
    · have d1 : decide ((j : Int) < (Z.length : Int)) = false := decide_eq_false (by omega)
      have HP := hide (pool_any bn (L.map fitP) R.length 0 wr (HNn.out wr HJ.out.bel) (by rw [List.length_map]; omega))
      go_wp2_with fail
      refine HP.out.mono ?_
      rintro e w5 ⟨v5, K5, rfl, O5, b5⟩
      have h5l : K5.length = L.length := by have := O5.lf.len; rw [List.length_map] at this; exact this
      obtain ⟨va5, vc5, hv5, _⟩ := O5.own.form
      rw [h5l] at hv5
      subst hv5
      have H6 := hide (HJ.out.step b5)
      have HSm := hide (samepks_any K5 K va5 va vc5 vc w5 (by rw [h5l]; exact OwnY.sl' kA O5.own) (by rw [h5l, ← HLK.out]; have := OwnY.sl' kA H6.out.lb.l.own; rw [HLK.out]; exact this) (fun x hx => (O5.out x hx).sl) (fun x hx => (H6.out.lb.l.ow x hx).sl) (O5.pk.trans H6.out.lb.l.pk.symm) (by omega))
      rw [h5l] at HSm
      clear O5 b5 HP HJ h5l
      go_wp2_with fail
      refine HSm.out.mono ?_
      rintro e w6 ⟨rfl, b6⟩
      have H7 := hide (H6.out.step b6)
      have HS7 := hide (sent_any (HK1.out.later H7.out.bel))
      clear b6 HSm H6
      go_wp2_with fail
      refine HS7.out.mono ?_
      rintro e w_ ⟨rfl, hy_⟩
      rw [hy_]; clear hy_ w_ HS7
      have HFIN : Hid (Below w.heap.size w w6) := HB1.out.trans (H7.out.bel.mono HB1.out.size)
      go_wp2
      go_ret
      exact ⟨rfl, HFIN.out⟩
theorem apart_came (a : Option Addr) (n c : Nat) (az : Option Addr) (nz cz : Nat) (w : World) (h : CamePk w a n c) (hz : CameQ w az nz cz) :
    Calls Try.prog 9 #[.slice a n c, .slice az nz cz] w fun e w' => e = .returned (.bool true) ∧ Below w.heap.size w w' := by
  obtain ⟨L, h1, h2, h3⟩ := h
  obtain ⟨Z, z1, z2, z3⟩ := hz
  have e1 := h1.len
  have e2 := z1.len
  subst e1 e2
  exact apart14 L a c Z az cz w h1 h2 h3 z1 z2 z3

end Go.Proofs.Ytegfbebhgihcaaa
