import Derived.Test.YtegfbebhgihcaaaNl3
import Derived.Deep.DeepCutAuto
import Derived.Deep.CutBlock
namespace Go.Proofs.Ytegfbebhgihcaaa
open Go.RowKit Go.Maps
set_option linter.unusedVariables false
set_option linter.unusedSimpArgs false

theorem GI.idle0 {B j : Nat} {w0 w w' : World} {b : Nat} {sv : Value} {K : List Ap} {P : List Pk} (h : GI B w0 w b sv K P j) (hb : Below w.heap.size w w') (hB : B ≤ w.heap.size) : GI B w0 w' b sv K P j := h.step hb hB
set_option maxRecDepth 100000 in
set_option maxHeartbeats 4000000 in
/-- NetworkGenuine. -/
theorem genuine14 (L : List Oq) (a : Option Addr) (c : Nat) (x : Ap) (w : World) (h : SlY yQ w a L.length c L) (hin : ∀ o ∈ L, o.x.In w ∧ o.x.s.length ≤ 140737488351232) (hl : L.length * 80 ≤ 140737488351232) (hx : x.In w) (hxs : x.s.length ≤ 140737488351232) :
    Calls Try.prog 4 #[.slice a L.length c, x.val] w fun e w' => e = .returned (.bool true) ∧ Below w.heap.size w w' := by
  have HL := hide h
  have HI0 := hide hin
  have B1 := (Below.refl _ w).alloc (Nat.le_refl _) (.cells #[.int .i64 x.f, .int .i64 x.t, .slice x.a x.s.length x.c] 46)
  have HX1 := hide (B3.new w (.int .i64 x.f) (.int .i64 x.t) (.slice x.a x.s.length x.c) 46)
  have HXI := hide (SlY.later hx B1)
  have HB1 := hide B1
  have HI : Hid (∀ o ∈ L, o.x.In (w.alloc (.cells #[.int .i64 x.f, .int .i64 x.t, .slice x.a x.s.length x.c] 46)) ∧ o.x.s.length ≤ 140737488351232) := fun o ho => ⟨SlY.later (hin o ho).1 B1, (hin o ho).2⟩
  have HL1 := hide (h.later B1)
  have hq1 : w.heap.size < (w.alloc (.cells #[.int .i64 x.f, .int .i64 x.t, .slice x.a x.s.length x.c] 46)).heap.size := by simp
  clear h hin hx B1 HL HI0
  unfold Ap.val
  go_enter Try.func4, Try.ntmps4
  go_wp2_with fail
  generalize w.alloc (.cells #[.int .i64 x.f, .int .i64 x.t, .slice x.a x.s.length x.c] 46) = w1 at *
  generalize hq : w.heap.size = q at *
  refine (made_any w1).mono ?_
  rintro e w2 ⟨b, mb, rfl, h1, h2, h3, h4⟩
  have G2 := hide (gi_start h1 h2 h3 h4)
  have hz2 : w1.heap.size ≤ w2.heap.size := h4.size
  clear h1 h2 h3 h4
  go_wp2_with fail
  refine (works14 w2).mono ?_
  rintro e w3 ⟨rfl, b3⟩
  have G3 := hide (G2.out.step b3 hz2)
  clear b3 G2
  go_wp2_with fail
  go_loopw [6, 7] (fun v i wr => ∃ (j : Nat) (K : List Ap) (P : List Pk), i = .int .i64 (j : Int) ∧ j ≤ L.length ∧ Hid (GI w1.heap.size w1 wr b v K P j)) (fun _ i _ => L.length - (intOf i).toNat)
  case atStart => exact ⟨0, [], [], rfl, Nat.zero_le _, G3⟩
  case round =>
    obtain ⟨j, K, P, rfl, hj, HJ⟩ := hrel
    clear G3
    have hBr : w1.heap.size ≤ wr.heap.size := HJ.out.bel.size
    obtain ⟨va, vc, hv, _⟩ := HJ.out.st.own.form
    subst hv
    by_cases hlt : j < L.length
    · have d1 : decide ((j : Int) < (L.length : Int)) = true := decide_eq_true (by omega)
      have i1 : (j : Int) < (L.length : Int) := by omega
      have hw1 : IntKind.i64.wrap ((j : Int) + 1) = ((j + 1 : Nat) : Int) := by rw [IntKind.wrap_i64]; omega
      have hg := List.getElem?_eq_getElem hlt
      generalize hoe : L[j] = o at hg
      have HOM := hide (List.mem_of_getElem? hg)
      obtain ⟨p, off, ha, hp, hlie⟩ := HL1.out.place (by intro e; rw [e] at hlt; simp at hlt)
      subst ha
      have bb := HJ.out.bel
      have l0 : wr.cell? ⟨p, off + j * 8, none⟩ = some (.int .i64 o.k) := (bb.cell (p := ⟨p, _, none⟩) hp).trans (hlie _ _ hg 0 _ rfl)
      have l1 : wr.cell? ⟨p, off + j * 8 + 1, none⟩ = some (.int .i64 o.i) := (bb.cell (p := ⟨p, _, none⟩) hp).trans (hlie _ _ hg 1 _ rfl)
      have l2 : wr.cell? ⟨p, off + j * 8 + 2, none⟩ = some (.int .i64 o.a) := (bb.cell (p := ⟨p, _, none⟩) hp).trans (hlie _ _ hg 2 _ rfl)
      have l3 : wr.cell? ⟨p, off + j * 8 + 3, none⟩ = some (.int .u8 (o.m.toNat : Int)) := (bb.cell (p := ⟨p, _, none⟩) hp).trans (hlie _ _ hg 3 _ rfl)
      have l4 : wr.cell? ⟨p, off + j * 8 + 4, none⟩ = some (.int .i64 o.x.f) := (bb.cell (p := ⟨p, _, none⟩) hp).trans (hlie _ _ hg 4 _ rfl)
      have l5 : wr.cell? ⟨p, off + j * 8 + 5, none⟩ = some (.int .i64 o.x.t) := (bb.cell (p := ⟨p, _, none⟩) hp).trans (hlie _ _ hg 5 _ rfl)
      have l6 : wr.cell? ⟨p, off + j * 8 + 6, none⟩ = some (.slice o.x.a o.x.s.length o.x.c) := (bb.cell (p := ⟨p, _, none⟩) hp).trans (hlie _ _ hg 6 _ rfl)
      have l7 : wr.cell? ⟨p, off + j * 8 + 7, none⟩ = some (.bool o.h) := (bb.cell (p := ⟨p, _, none⟩) hp).trans (hlie _ _ hg 7 _ rfl)
      have HBA : ∀ (kd : Int) (w4 : World), w4 = wr.alloc (.cells #[.int .i64 kd, .int .i64 o.i, .int .i64 o.a, .int .u8 (o.m.toNat : Int), .int .i64 o.x.f, .int .i64 o.x.t, .slice o.x.a o.x.s.length o.x.c, .bool o.h] 48) → Hid (Below wr.heap.size wr w4) := fun kd w4 e => by rw [e]; exact (Below.refl _ wr).alloc (Nat.le_refl _) _
      have HB0' : ∀ (kd : Int) (w4 : World), w4 = wr.alloc (.cells #[.int .i64 kd, .int .i64 o.i, .int .i64 o.a, .int .u8 (o.m.toNat : Int), .int .i64 o.x.f, .int .i64 o.x.t, .slice o.x.a o.x.s.length o.x.c, .bool o.h] 48) → Below w1.heap.size w1 w4 := fun kd w4 e => bb.trans ((HBA kd w4 e).out.mono hBr)
      have HZ4 : ∀ (kd : Int) (w4 : World), w4 = wr.alloc (.cells #[.int .i64 kd, .int .i64 o.i, .int .i64 o.a, .int .u8 (o.m.toNat : Int), .int .i64 o.x.f, .int .i64 o.x.t, .slice o.x.a o.x.s.length o.x.c, .bool o.h] 48) → Hid (w1.heap.size ≤ w4.heap.size) := fun kd w4 e => Nat.le_trans hBr (HBA kd w4 e).out.size
      obtain ⟨kd, hkd⟩ : ∃ y, y = o.k := ⟨_, rfl⟩
      rw [← hkd] at l0
      clear hkd bb hlie hoe hg
      by_cases k0 : kd = 0
      · subst k0
        obtain ⟨w4, hw4⟩ : ∃ y, y = wr.alloc (.cells #[.int .i64 0, .int .i64 o.i, .int .i64 o.a, .int .u8 (o.m.toNat : Int), .int .i64 o.x.f, .int .i64 o.x.t, .slice o.x.a o.x.s.length o.x.c, .bool o.h] 48) := ⟨_, rfl⟩
        have HB0 := hide (HB0' 0 w4 hw4)
        have H4 := hide (HJ.out.step (HBA 0 w4 hw4).out hBr)
        have HB4 := hide (HZ4 0 w4 hw4).out
        clear HB0' HBA HZ4 HJ
        go_upto_region 9 with fail
        rw [← hw4]
        have e0 : w4.cell? ⟨wr.heap.size, 0, none⟩ = some (.int .i64 0) := by rw [hw4]; go_simp
        have e1 : w4.cell? ⟨wr.heap.size, 1, none⟩ = some (.int .i64 o.i) := by rw [hw4]; go_simp
        have e2 : w4.cell? ⟨wr.heap.size, 2, none⟩ = some (.int .i64 o.a) := by rw [hw4]; go_simp
        have e4 : w4.cell? ⟨wr.heap.size, 4, none⟩ = some (.int .i64 o.x.f) := by rw [hw4]; go_simp
        have e5 : w4.cell? ⟨wr.heap.size, 5, none⟩ = some (.int .i64 o.x.t) := by rw [hw4]; go_simp
        have e6 : w4.cell? ⟨wr.heap.size, 6, none⟩ = some (.slice o.x.a o.x.s.length o.x.c) := by rw [hw4]; go_simp
        clear hw4 l0 l1 l2 l3 l4 l5 l6 l7
        generalize wr.heap.size = qo at *
        have HF := hide (fit_own o.x w4 (SlY.later (HI.out o HOM.out).1 HB0.out) (by have := (HI.out o HOM.out).2; omega))
        unfold Ap.val at HF
        go_wp2_with fail
        refine HF.out.mono ?_
        rintro e w5 ⟨y, rfl, hy, hyi, hyb, hb5⟩
        have hyp := hy
        unfold Ap.pk at hy
        injection hy with y1 y2 y3
        have hz5 := hb5.size
        have B6 := (Below.refl _ w5).alloc (Nat.le_refl _) (.cells #[.int .i64 y.f, .int .i64 y.t, .slice y.a y.s.length y.c] 46)
        have b46 := hb5.trans (B6.mono hz5)
        have HS := hide (gi_send (fun k => k = w5.heap.size) (fun k hk => by subst hk; exact ⟨hz5, by simp⟩) y H4.out HB4.out b46 (SlY.later hyi B6) (by rw [y2, List.length_take]; omega) (by rw [y3]; exact ad5_adr _) (by rw [y1]; exact ad5_adr _) (fun z hz => ⟨(hyb z hz).1, by have := (hyb z hz).2; simp; omega⟩) (by omega))
        have HY6 := hide (B3.new w5 (.int .i64 y.f) (.int .i64 y.t) (.slice y.a y.s.length y.c) 46)
        have hz6 : w1.heap.size ≤ w5.heap.size := Nat.le_trans HB4.out hz5
        unfold Ap.val at HS
        clear hyp y1 y2 y3 hyi hyb hb5 B6 b46 HF H4 HB4 hz5
        go_wp2_with fail
        generalize w5.alloc (.cells #[.int .i64 y.f, .int .i64 y.t, .slice y.a y.s.length y.c] 46) = w6 at *
        generalize w5.heap.size = qy at *
        refine HS.out.mono ?_
        rintro e w7 ⟨rfl, G7, u7⟩
        have Y7 := HY6.out.upd u7 (fun hn => hn rfl)
        have k0 := Y7.c0
        have k1 := Y7.c1
        have k2 := Y7.c2
        have HG7 := hide G7
        have hz7 : w1.heap.size ≤ w7.heap.size := G7.bel.size
        have HO7 := hide G7.st.own
        have hkl : (K.length + 1) * 40 ≤ 140737488355328 := by have := G7.kl; omega
        clear G7 u7 Y7 HY6 HS
        go_wp2_with (at_builtin; go_must (refine appY kA _ rfl (.tmp 50) (.tmp 52) rfl w1.heap.size K (.slice va K.length vc) rfl (some ⟨w7.heap.size, 0, none⟩) 1 1 rfl [y] (one_ap w7 y) (HO7.out.alloc _) (by simp; omega) (by unfold maxLen; omega) hkl ?_))
        intro v8 w8 o8 g8 n8
        have HF8 := hide ((HG7.out.step ((Below.refl _ w7).alloc (Nat.le_refl _) (.cells #[.int .i64 y.f, .int .i64 y.t, .slice y.a y.s.length y.c] 46)) hz7).app (by simp; omega) o8 g8 (n8.imp id (fun ⟨k, e1, e2⟩ => ⟨k, e1, by simpa using e2⟩)))
        generalize P ++ [y.pk] = P9 at HF8
        generalize K ++ [y] = K9 at HF8
        clear o8 g8 n8 HG7 HO7 k0 k1 k2
        go_wp2
        exact ⟨⟨j + 1, K9, P9, by go_num, by omega, HF8⟩, by simp [intOf]; omega⟩
      by_cases k1 : kd = 1
      · subst k1
        obtain ⟨w4, hw4⟩ : ∃ y, y = wr.alloc (.cells #[.int .i64 1, .int .i64 o.i, .int .i64 o.a, .int .u8 (o.m.toNat : Int), .int .i64 o.x.f, .int .i64 o.x.t, .slice o.x.a o.x.s.length o.x.c, .bool o.h] 48) := ⟨_, rfl⟩
        have HB0 := hide (HB0' 1 w4 hw4)
        have H4 := hide (HJ.out.step (HBA 1 w4 hw4).out hBr)
        have HB4 := hide (HZ4 1 w4 hw4).out
        clear HB0' HBA HZ4 HJ
        go_upto_region 9 with fail
        rw [← hw4]
        have e0 : w4.cell? ⟨wr.heap.size, 0, none⟩ = some (.int .i64 1) := by rw [hw4]; go_simp
        have e1 : w4.cell? ⟨wr.heap.size, 1, none⟩ = some (.int .i64 o.i) := by rw [hw4]; go_simp
        have e2 : w4.cell? ⟨wr.heap.size, 2, none⟩ = some (.int .i64 o.a) := by rw [hw4]; go_simp
        have e4 : w4.cell? ⟨wr.heap.size, 4, none⟩ = some (.int .i64 o.x.f) := by rw [hw4]; go_simp
        have e5 : w4.cell? ⟨wr.heap.size, 5, none⟩ = some (.int .i64 o.x.t) := by rw [hw4]; go_simp
        have e6 : w4.cell? ⟨wr.heap.size, 6, none⟩ = some (.slice o.x.a o.x.s.length o.x.c) := by rw [hw4]; go_simp
        clear hw4 l0 l1 l2 l3 l4 l5 l6 l7
        generalize wr.heap.size = qo at *
        have HF := hide (fit_own o.x w4 (SlY.later (HI.out o HOM.out).1 HB0.out) (by have := (HI.out o HOM.out).2; omega))
        unfold Ap.val at HF
        go_wp2_with fail
        refine HF.out.mono ?_
        rintro e w5 ⟨y, rfl, hy, hyi, hyb, hb5⟩
        have hyp := hy
        unfold Ap.pk at hy
        injection hy with y1 y2 y3
        have hz5 := hb5.size
        have B6 := (Below.refl _ w5).alloc (Nat.le_refl _) (.cells #[.int .i64 y.f, .int .i64 y.t, .slice y.a y.s.length y.c] 46)
        have b46 := hb5.trans (B6.mono hz5)
        have HS := hide (gi_send (fun k => k = w5.heap.size) (fun k hk => by subst hk; exact ⟨hz5, by simp⟩) y H4.out HB4.out b46 (SlY.later hyi B6) (by rw [y2, List.length_take]; omega) (by rw [y3]; exact ad5_adr _) (by rw [y1]; exact ad5_adr _) (fun z hz => ⟨(hyb z hz).1, by have := (hyb z hz).2; simp; omega⟩) (by omega))
        have HY6 := hide (B3.new w5 (.int .i64 y.f) (.int .i64 y.t) (.slice y.a y.s.length y.c) 46)
        have hz6 : w1.heap.size ≤ w5.heap.size := Nat.le_trans HB4.out hz5
        unfold Ap.val at HS
        clear hyp y1 y2 y3 hyi hyb hb5 B6 b46 HF H4 HB4 hz5
        go_wp2_with fail
        generalize w5.alloc (.cells #[.int .i64 y.f, .int .i64 y.t, .slice y.a y.s.length y.c] 46) = w6 at *
        generalize w5.heap.size = qy at *
        refine HS.out.mono ?_
        rintro e w7 ⟨rfl, G7, u7⟩
        have Y7 := HY6.out.upd u7 (fun hn => hn rfl)
        have k0 := Y7.c0
        have k1 := Y7.c1
        have k2 := Y7.c2
        have HG7 := hide G7
        have hz7 : w1.heap.size ≤ w7.heap.size := G7.bel.size
        have HO7 := hide G7.st.own
        have hkl : (K.length + 1) * 40 ≤ 140737488355328 := by have := G7.kl; omega
        clear G7 u7 Y7 HY6 HS
        go_wp2_with (at_builtin; go_must (refine appY kA _ rfl (.tmp 50) (.tmp 52) rfl w1.heap.size K (.slice va K.length vc) rfl (some ⟨w7.heap.size, 0, none⟩) 1 1 rfl [y] (one_ap w7 y) (HO7.out.alloc _) (by simp; omega) (by unfold maxLen; omega) hkl ?_))
        intro v8 w8 o8 g8 n8
        have HF8 := hide ((HG7.out.step ((Below.refl _ w7).alloc (Nat.le_refl _) (.cells #[.int .i64 y.f, .int .i64 y.t, .slice y.a y.s.length y.c] 46)) hz7).app (by simp; omega) o8 g8 (n8.imp id (fun ⟨k, e1, e2⟩ => ⟨k, e1, by simpa using e2⟩)))
        generalize P ++ [y.pk] = P9 at HF8
        generalize K ++ [y] = K9 at HF8
        clear o8 g8 n8 HG7 HO7 k0 k1 k2
        go_wp2
        exact ⟨⟨j + 1, K9, P9, by go_num, by omega, HF8⟩, by simp [intOf]; omega⟩
      by_cases k3 : kd = 3
      · subst k3
        obtain ⟨w4, hw4⟩ : ∃ y, y = wr.alloc (.cells #[.int .i64 3, .int .i64 o.i, .int .i64 o.a, .int .u8 (o.m.toNat : Int), .int .i64 o.x.f, .int .i64 o.x.t, .slice o.x.a o.x.s.length o.x.c, .bool o.h] 48) := ⟨_, rfl⟩
        have HB0 := hide (HB0' 3 w4 hw4)
        have H4 := hide (HJ.out.step (HBA 3 w4 hw4).out hBr)
        have HB4 := hide (HZ4 3 w4 hw4).out
        clear HB0' HBA HZ4 HJ
        go_upto_region 9 with fail
        rw [← hw4]
        have e0 : w4.cell? ⟨wr.heap.size, 0, none⟩ = some (.int .i64 3) := by rw [hw4]; go_simp
        have e1 : w4.cell? ⟨wr.heap.size, 1, none⟩ = some (.int .i64 o.i) := by rw [hw4]; go_simp
        have e2 : w4.cell? ⟨wr.heap.size, 2, none⟩ = some (.int .i64 o.a) := by rw [hw4]; go_simp
        have e4 : w4.cell? ⟨wr.heap.size, 4, none⟩ = some (.int .i64 o.x.f) := by rw [hw4]; go_simp
        have e5 : w4.cell? ⟨wr.heap.size, 5, none⟩ = some (.int .i64 o.x.t) := by rw [hw4]; go_simp
        have e6 : w4.cell? ⟨wr.heap.size, 6, none⟩ = some (.slice o.x.a o.x.s.length o.x.c) := by rw [hw4]; go_simp
        clear hw4 l0 l1 l2 l3 l4 l5 l6 l7
        generalize wr.heap.size = qo at *
        go_wp2_with fail
        refine (gi_take o.i H4.out HB4.out (by omega)).mono ?_
        rintro e w5 ⟨y, r5, P9, rfl, hr, hyi, G5⟩
        have B6 := (Below.refl _ w5).alloc (Nat.le_refl _) (.cells #[.int .i64 y.f, .int .i64 y.t, .slice y.a y.s.length y.c] 46)
        have hz5 : w1.heap.size ≤ w5.heap.size := G5.bel.size
        have H6 := hide (G5.step B6 hz5)
        have hz6 : w1.heap.size ≤ (w5.alloc (.cells #[.int .i64 y.f, .int .i64 y.t, .slice y.a y.s.length y.c] 46)).heap.size := Nat.le_trans hz5 B6.size
        have HWa := hide (gi_was y H6.out rfl (SlY.later hyi B6))
        have HY6 := B3.new w5 (.int .i64 y.f) (.int .i64 y.t) (.slice y.a y.s.length y.c) 46
        have k0 := HY6.c0
        have k1 := HY6.c1
        have k2 := HY6.c2
        clear B6 G5 hyi HY6 H4 HB4 hz5
        unfold Ap.val at HWa ⊢
        by_cases r0 : r5 = 0
        · subst r0
          rw [hr rfl] at HWa
          clear hr
          go_wp2_with fail
          generalize w5.alloc (.cells #[.int .i64 y.f, .int .i64 y.t, .slice y.a y.s.length y.c] 46) = w6 at *
          refine HWa.out.mono ?_
          rintro e w7 ⟨rfl, b7⟩
          have H7 := hide (H6.out.idle0 b7 hz6)
          clear b7 HWa H6
          go_wp2
          exact ⟨⟨j + 1, K, P9, by go_num, by omega, H7⟩, by simp [intOf]; omega⟩
        · have dr0 : (r5 == 0) = false := by simp [r0]
          clear hr r0
          go_wp2
          exact ⟨⟨j + 1, K, P9, by go_num, by omega, H6⟩, by simp [intOf]; omega⟩
      by_cases k4 : kd = 4
      · subst k4
        obtain ⟨w4, hw4⟩ : ∃ y, y = wr.alloc (.cells #[.int .i64 4, .int .i64 o.i, .int .i64 o.a, .int .u8 (o.m.toNat : Int), .int .i64 o.x.f, .int .i64 o.x.t, .slice o.x.a o.x.s.length o.x.c, .bool o.h] 48) := ⟨_, rfl⟩
        have HB0 := hide (HB0' 4 w4 hw4)
        have H4 := hide (HJ.out.step (HBA 4 w4 hw4).out hBr)
        have HB4 := hide (HZ4 4 w4 hw4).out
        clear HB0' HBA HZ4 HJ
        go_upto_region 9 with fail
        rw [← hw4]
        have e0 : w4.cell? ⟨wr.heap.size, 0, none⟩ = some (.int .i64 4) := by rw [hw4]; go_simp
        have e1 : w4.cell? ⟨wr.heap.size, 1, none⟩ = some (.int .i64 o.i) := by rw [hw4]; go_simp
        have e2 : w4.cell? ⟨wr.heap.size, 2, none⟩ = some (.int .i64 o.a) := by rw [hw4]; go_simp
        have e4 : w4.cell? ⟨wr.heap.size, 4, none⟩ = some (.int .i64 o.x.f) := by rw [hw4]; go_simp
        have e5 : w4.cell? ⟨wr.heap.size, 5, none⟩ = some (.int .i64 o.x.t) := by rw [hw4]; go_simp
        have e6 : w4.cell? ⟨wr.heap.size, 6, none⟩ = some (.slice o.x.a o.x.s.length o.x.c) := by rw [hw4]; go_simp
        clear hw4 l0 l1 l2 l3 l4 l5 l6 l7
        generalize wr.heap.size = qo at *
        go_wp2_with fail
        refine (gi_copy o.i H4.out HB4.out (by omega)).mono ?_
        rintro e w5 ⟨r5, P9, rfl, G5⟩
        have H5 := hide G5
        clear G5 H4 HB4
        go_wp2
        exact ⟨⟨j + 1, K, P9, by go_num, by omega, H5⟩, by simp [intOf]; omega⟩
      by_cases k5 : kd = 5
      · subst k5
        obtain ⟨w4, hw4⟩ : ∃ y, y = wr.alloc (.cells #[.int .i64 5, .int .i64 o.i, .int .i64 o.a, .int .u8 (o.m.toNat : Int), .int .i64 o.x.f, .int .i64 o.x.t, .slice o.x.a o.x.s.length o.x.c, .bool o.h] 48) := ⟨_, rfl⟩
        have HB0 := hide (HB0' 5 w4 hw4)
        have H4 := hide (HJ.out.step (HBA 5 w4 hw4).out hBr)
        have HB4 := hide (HZ4 5 w4 hw4).out
        clear HB0' HBA HZ4 HJ
        go_upto_region 9 with fail
        rw [← hw4]
        have e0 : w4.cell? ⟨wr.heap.size, 0, none⟩ = some (.int .i64 5) := by rw [hw4]; go_simp
        have e1 : w4.cell? ⟨wr.heap.size, 1, none⟩ = some (.int .i64 o.i) := by rw [hw4]; go_simp
        have e2 : w4.cell? ⟨wr.heap.size, 2, none⟩ = some (.int .i64 o.a) := by rw [hw4]; go_simp
        have e4 : w4.cell? ⟨wr.heap.size, 4, none⟩ = some (.int .i64 o.x.f) := by rw [hw4]; go_simp
        have e5 : w4.cell? ⟨wr.heap.size, 5, none⟩ = some (.int .i64 o.x.t) := by rw [hw4]; go_simp
        have e6 : w4.cell? ⟨wr.heap.size, 6, none⟩ = some (.slice o.x.a o.x.s.length o.x.c) := by rw [hw4]; go_simp
        clear hw4 l0 l1 l2 l3 l4 l5 l6 l7
        generalize wr.heap.size = qo at *
        go_wp2_with fail
        refine (gi_drop o.i H4.out HB4.out (by omega)).mono ?_
        rintro e w5 ⟨r5, P9, rfl, G5⟩
        have H5 := hide G5
        clear G5 H4 HB4
        go_wp2
        exact ⟨⟨j + 1, K, P9, by go_num, by omega, H5⟩, by simp [intOf]; omega⟩
      by_cases k6 : kd = 6
      · subst k6
        obtain ⟨w4, hw4⟩ : ∃ y, y = wr.alloc (.cells #[.int .i64 6, .int .i64 o.i, .int .i64 o.a, .int .u8 (o.m.toNat : Int), .int .i64 o.x.f, .int .i64 o.x.t, .slice o.x.a o.x.s.length o.x.c, .bool o.h] 48) := ⟨_, rfl⟩
        have HB0 := hide (HB0' 6 w4 hw4)
        have H4 := hide (HJ.out.step (HBA 6 w4 hw4).out hBr)
        have HB4 := hide (HZ4 6 w4 hw4).out
        clear HB0' HBA HZ4 HJ
        go_upto_region 9 with fail
        rw [← hw4]
        have e0 : w4.cell? ⟨wr.heap.size, 0, none⟩ = some (.int .i64 6) := by rw [hw4]; go_simp
        have e1 : w4.cell? ⟨wr.heap.size, 1, none⟩ = some (.int .i64 o.i) := by rw [hw4]; go_simp
        have e2 : w4.cell? ⟨wr.heap.size, 2, none⟩ = some (.int .i64 o.a) := by rw [hw4]; go_simp
        have e4 : w4.cell? ⟨wr.heap.size, 4, none⟩ = some (.int .i64 o.x.f) := by rw [hw4]; go_simp
        have e5 : w4.cell? ⟨wr.heap.size, 5, none⟩ = some (.int .i64 o.x.t) := by rw [hw4]; go_simp
        have e6 : w4.cell? ⟨wr.heap.size, 6, none⟩ = some (.slice o.x.a o.x.s.length o.x.c) := by rw [hw4]; go_simp
        clear hw4 l0 l1 l2 l3 l4 l5 l6 l7
        generalize wr.heap.size = qo at *
        go_wp2_with fail
        refine (gi_turn o.i o.a H4.out HB4.out (by omega)).mono ?_
        rintro e w5 ⟨r5, P9, rfl, G5⟩
        have H5 := hide G5
        clear G5 H4 HB4
        go_wp2
        exact ⟨⟨j + 1, K, P9, by go_num, by omega, H5⟩, by simp [intOf]; omega⟩
      by_cases k7 : kd = 7
      · subst k7
        obtain ⟨w4, hw4⟩ : ∃ y, y = wr.alloc (.cells #[.int .i64 7, .int .i64 o.i, .int .i64 o.a, .int .u8 (o.m.toNat : Int), .int .i64 o.x.f, .int .i64 o.x.t, .slice o.x.a o.x.s.length o.x.c, .bool o.h] 48) := ⟨_, rfl⟩
        have HB0 := hide (HB0' 7 w4 hw4)
        have H4 := hide (HJ.out.step (HBA 7 w4 hw4).out hBr)
        have HB4 := hide (HZ4 7 w4 hw4).out
        clear HB0' HBA HZ4 HJ
        go_upto_region 9 with fail
        rw [← hw4]
        have e0 : w4.cell? ⟨wr.heap.size, 0, none⟩ = some (.int .i64 7) := by rw [hw4]; go_simp
        have e1 : w4.cell? ⟨wr.heap.size, 1, none⟩ = some (.int .i64 o.i) := by rw [hw4]; go_simp
        have e2 : w4.cell? ⟨wr.heap.size, 2, none⟩ = some (.int .i64 o.a) := by rw [hw4]; go_simp
        have e4 : w4.cell? ⟨wr.heap.size, 4, none⟩ = some (.int .i64 o.x.f) := by rw [hw4]; go_simp
        have e5 : w4.cell? ⟨wr.heap.size, 5, none⟩ = some (.int .i64 o.x.t) := by rw [hw4]; go_simp
        have e6 : w4.cell? ⟨wr.heap.size, 6, none⟩ = some (.slice o.x.a o.x.s.length o.x.c) := by rw [hw4]; go_simp
        clear hw4 l0 l1 l2 l3 l4 l5 l6 l7
        generalize wr.heap.size = qo at *
        go_wp2_with fail
        refine (gi_swap o.i o.a H4.out HB4.out (by omega)).mono ?_
        rintro e w5 ⟨r5, P9, rfl, G5⟩
        have H5 := hide G5
        clear G5 H4 HB4
        go_wp2
        exact ⟨⟨j + 1, K, P9, by go_num, by omega, H5⟩, by simp [intOf]; omega⟩
      by_cases k9 : kd = 9
      · subst k9
        obtain ⟨w4, hw4⟩ : ∃ y, y = wr.alloc (.cells #[.int .i64 9, .int .i64 o.i, .int .i64 o.a, .int .u8 (o.m.toNat : Int), .int .i64 o.x.f, .int .i64 o.x.t, .slice o.x.a o.x.s.length o.x.c, .bool o.h] 48) := ⟨_, rfl⟩
        have HB0 := hide (HB0' 9 w4 hw4)
        have H4 := hide (HJ.out.step (HBA 9 w4 hw4).out hBr)
        have HB4 := hide (HZ4 9 w4 hw4).out
        clear HB0' HBA HZ4 HJ
        go_upto_region 9 with fail
        rw [← hw4]
        have e0 : w4.cell? ⟨wr.heap.size, 0, none⟩ = some (.int .i64 9) := by rw [hw4]; go_simp
        have e1 : w4.cell? ⟨wr.heap.size, 1, none⟩ = some (.int .i64 o.i) := by rw [hw4]; go_simp
        have e2 : w4.cell? ⟨wr.heap.size, 2, none⟩ = some (.int .i64 o.a) := by rw [hw4]; go_simp
        have e4 : w4.cell? ⟨wr.heap.size, 4, none⟩ = some (.int .i64 o.x.f) := by rw [hw4]; go_simp
        have e5 : w4.cell? ⟨wr.heap.size, 5, none⟩ = some (.int .i64 o.x.t) := by rw [hw4]; go_simp
        have e6 : w4.cell? ⟨wr.heap.size, 6, none⟩ = some (.slice o.x.a o.x.s.length o.x.c) := by rw [hw4]; go_simp
        clear hw4 l0 l1 l2 l3 l4 l5 l6 l7
        generalize wr.heap.size = qo at *
        go_wp2_with fail
        refine (gi_clear H4.out HB4.out).mono ?_
        rintro e w5 ⟨P9, rfl, G5⟩
        have H5 := hide G5
        clear G5 H4 HB4
        go_wp2
        exact ⟨⟨j + 1, K, P9, by go_num, by omega, H5⟩, by simp [intOf]; omega⟩
      have x0 : (kd == 0) = false := by simp [k0]
      have x1 : (kd == 1) = false := by simp [k1]
      have x3 : (kd == 3) = false := by simp [k3]
      have x4 : (kd == 4) = false := by simp [k4]
      have x5 : (kd == 5) = false := by simp [k5]
      have x6 : (kd == 6) = false := by simp [k6]
      have x7 : (kd == 7) = false := by simp [k7]
      have x9 : (kd == 9) = false := by simp [k9]
      clear k0 k1 k3 k4 k5 k6 k7 k9
      obtain ⟨w4, hw4⟩ : ∃ y, y = wr.alloc (.cells #[.int .i64 kd, .int .i64 o.i, .int .i64 o.a, .int .u8 (o.m.toNat : Int), .int .i64 o.x.f, .int .i64 o.x.t, .slice o.x.a o.x.s.length o.x.c, .bool o.h] 48) := ⟨_, rfl⟩
      have H4 := hide (HJ.out.step (HBA kd w4 hw4).out hBr).idle
      clear HB0' HBA HZ4 HJ
      go_upto_region 9 with fail
      rw [← hw4]
      have e0 : w4.cell? ⟨wr.heap.size, 0, none⟩ = some (.int .i64 kd) := by rw [hw4]; go_simp
      clear hw4 l0 l1 l2 l3 l4 l5 l6 l7
      generalize wr.heap.size = qo at *
      go_wp2
      exact ⟨⟨j + 1, K, P, by go_num, by omega, H4⟩, by simp [intOf]; omega⟩
    · have d1 : decide ((j : Int) < (L.length : Int)) = false := decide_eq_false (by omega)
      have hpl : P.length ≤ j := HJ.out.pl
      have hkl : K.length ≤ j := HJ.out.kl
      clear HI HL1
      go_wp2_with fail
      refine (gi_pool HJ.out hBr (by omega)).mono ?_
      rintro e w4 ⟨la, lc, Lp, rfl, sp, ip, pp, G4, b4⟩
      have hz4 : w1.heap.size ≤ w4.heap.size := Nat.le_trans hBr b4.size
      have HLn := hide (gi_len G4)
      have HSP := hide sp
      have HIP := hide ip
      have HPP := hide pp
      have HG4 := hide G4
      clear HJ sp ip pp G4 b4
      go_wp2_with fail
      refine HLn.out.mono ?_
      rintro e w_ ⟨rfl, hy_⟩
      rw [hy_]; clear hy_ w_ HLn
      go_wp2_with fail
      clear hBr
      go_loopw [13] (fun i wr => ∃ t : Nat, i = .int .i64 (t : Int) ∧ t ≤ P.length ∧ Hid (Below w4.heap.size w4 wr)) (fun i _ => P.length - (intOf i).toNat)
      case atStart => exact ⟨0, rfl, Nat.zero_le _, Below.refl _ _⟩
      case round =>
        obtain ⟨t, rfl, ht, HT⟩ := hrel
        by_cases htl : t < P.length
        · have d2 : decide ((t : Int) < (P.length : Int)) = true := decide_eq_true (by omega)
          have i2 : (t : Int) < (P.length : Int) := by omega
          have hw2 : IntKind.i64.wrap ((t : Int) + 1) = ((t + 1 : Nat) : Int) := by rw [IntKind.wrap_i64]; omega
          have hLl : Lp.length = P.length := HSP.out.len
          have hgz := List.getElem?_eq_getElem (show t < Lp.length by rw [hLl]; exact htl)
          generalize Lp[t]'(by rw [hLl]; exact htl) = z at hgz
          have hzm := List.mem_of_getElem? hgz
          obtain ⟨p, off, hla, hp, hlie⟩ := HSP.out.place (by rintro rfl; simp at hgz)
          subst hla
          have bb := HT.out
          have l0 : wr.cell? ⟨p, off + t * 3, none⟩ = some (.int .i64 z.f) := (bb.cell (p := ⟨p, _, none⟩) hp).trans (hlie _ _ hgz 0 _ rfl)
          have l1 : wr.cell? ⟨p, off + t * 3 + 1, none⟩ = some (.int .i64 z.t) := (bb.cell (p := ⟨p, _, none⟩) hp).trans (hlie _ _ hgz 1 _ rfl)
          have l2 : wr.cell? ⟨p, off + t * 3 + 2, none⟩ = some (.slice z.a z.s.length z.c) := (bb.cell (p := ⟨p, _, none⟩) hp).trans (hlie _ _ hgz 2 _ rfl)
          have zin : z.In wr := SlY.later (HIP.out z hzm) bb
          have hpz : z.pk ∈ P := by rw [← HPP.out]; exact List.mem_map_of_mem hzm
          obtain ⟨y, hym, hyt, hys⟩ := HG4.out.sub _ hpz
          have hwB : wasB K z = true := (wasB_iff K z).2 ⟨y, hym, hyt, hys⟩
          have hza : adr 3 2 z.t = true := by have := HG4.out.tw y hym; rw [hyt] at this; exact this
          have Gr := HG4.out.step bb hz4
          have HW := hide (gi_was z Gr rfl zin)
          rw [hwB] at HW
          have HGn : Hid (∀ v, Below wr.heap.size wr v → Calls Try.prog 22 #[.pointer (some ⟨b, 0, none⟩), z.val] v fun e w' => e = .returned (.bool true) ∧ Below v.heap.size v w') := fun v hv => by
            have := gi_genuine z (Gr.step hv Gr.bel.size) (SlY.later zin hv) hza
            rw [hwB] at this
            exact this
          have HMv : Hid (∀ v, Below wr.heap.size wr v → v.cell? ⟨p, off + t * 3, none⟩ = some (.int .i64 z.f) ∧ v.cell? ⟨p, off + t * 3 + 1, none⟩ = some (.int .i64 z.t) ∧ v.cell? ⟨p, off + t * 3 + 2, none⟩ = some (.slice z.a z.s.length z.c)) := fun v hv => by
            have hp2 : p < wr.heap.size := Nat.lt_of_lt_of_le hp bb.size
            exact ⟨(hv.cell (p := ⟨p, _, none⟩) hp2).trans l0, (hv.cell (p := ⟨p, _, none⟩) hp2).trans l1, (hv.cell (p := ⟨p, _, none⟩) hp2).trans l2⟩
          unfold Ap.val at HW HGn
          have HLl := hide hLl
          clear hlie hgz hzm bb zin hpz hym hyt hys hwB hza Gr hLl
          go_wp2_with fail
          refine HW.out.mono ?_
          rintro e w5 ⟨rfl, b5⟩
          obtain ⟨m0, m1, m2⟩ := HMv.out w5 b5
          have HG5 := hide (HGn.out w5 b5)
          have HT5 := hide (HT.out.trans (b5.mono HT.out.size))
          clear b5 l0 l1 l2 HW HGn HMv HT
          go_wp2_with fail
          refine HG5.out.mono ?_
          rintro e w6 ⟨rfl, b6⟩
          have HT6 := hide (HT5.out.trans (b6.mono HT5.out.size))
          clear b6 HG5 HT5 m0 m1 m2
          go_wp2
          exact ⟨⟨t + 1, by go_num, by omega, HT6⟩, by simp [intOf]; omega⟩
        · have d2 : decide ((t : Int) < (P.length : Int)) = false := decide_eq_false (by omega)
          clear HSP HIP HPP
          go_wp2_with fail
          have hz5 : w1.heap.size ≤ wr.heap.size := Nat.le_trans hz4 HT.out.size
          have HG5 := hide (HG4.out.step HT.out hz4)
          clear HG4 HT hz4
          obtain ⟨w5, hw5⟩ : ∃ y, y = wr := ⟨_, rfl⟩
          rw [← hw5] at HG5 hz5 ⊢
          clear hw5
          go_loopw [14] (fun i wr => ∃ t : Nat, i = .int .i64 (t : Int) ∧ t ≤ K.length ∧ Hid (Below w5.heap.size w5 wr)) (fun i _ => K.length - (intOf i).toNat)
          case atStart => exact ⟨0, rfl, Nat.zero_le _, Below.refl _ _⟩
          case round =>
            obtain ⟨t3, rfl, ht3, HT⟩ := hrel
            by_cases htl : t3 < K.length
            · have d3 : decide ((t3 : Int) < (K.length : Int)) = true := decide_eq_true (by omega)
              have i3 : (t3 : Int) < (K.length : Int) := by omega
              have hw2 : IntKind.i64.wrap ((t3 : Int) + 1) = ((t3 + 1 : Nat) : Int) := by rw [IntKind.wrap_i64]; omega
              have hgz := List.getElem?_eq_getElem htl
              generalize K[t3] = z at hgz
              have hzm := List.mem_of_getElem? hgz
              obtain ⟨p, off, hla, hp, hlie⟩ := (OwnY.sl' kA HG5.out.st.own).place (by rintro rfl; simp at hgz)
              subst hla
              have bb := HT.out
              have l0 : wr.cell? ⟨p, off + t3 * 3, none⟩ = some (.int .i64 z.f) := (bb.cell (p := ⟨p, _, none⟩) hp).trans (hlie _ _ hgz 0 _ rfl)
              have l1 : wr.cell? ⟨p, off + t3 * 3 + 1, none⟩ = some (.int .i64 z.t) := (bb.cell (p := ⟨p, _, none⟩) hp).trans (hlie _ _ hgz 1 _ rfl)
              have l2 : wr.cell? ⟨p, off + t3 * 3 + 2, none⟩ = some (.slice z.a z.s.length z.c) := (bb.cell (p := ⟨p, _, none⟩) hp).trans (hlie _ _ hgz 2 _ rfl)
              have hwB : wasB K z = true := (wasB_iff K z).2 ⟨z, hzm, rfl, rfl⟩
              have HGn := hide (gi_genuine z (HG5.out.step bb hz5) (SlY.later (HG5.out.st.inn z hzm).1 bb) (HG5.out.tw z hzm))
              rw [hwB] at HGn
              unfold Ap.val at HGn
              clear hlie hgz hzm bb hwB
              go_wp2_with fail
              refine HGn.out.mono ?_
              rintro e w6 ⟨rfl, b6⟩
              have HT6 := hide (HT.out.trans (b6.mono HT.out.size))
              clear b6 HGn HT l0 l1 l2
              go_wp2
              exact ⟨⟨t3 + 1, by go_num, by omega, HT6⟩, by simp [intOf]; omega⟩
            · have d3 : decide ((t3 : Int) < (K.length : Int)) = false := decide_eq_false (by omega)
              have hz6 : w1.heap.size ≤ wr.heap.size := Nat.le_trans hz5 HT.out.size
              have HG6 := hide (HG5.out.step HT.out hz5)
              have bb := HG6.out.bel
              have X6 := HX1.out.bel bb
              have x0 := X6.c0
              have x1 := X6.c1
              have x2 := X6.c2
              have HF := hide (fit_own x wr (SlY.later HXI.out bb) (by omega))
              unfold Ap.val at HF
              clear HG5 HT X6 bb
              go_wp2_with fail
              refine HF.out.mono ?_
              rintro e w7 ⟨y, rfl, hy, hyi, hyb, hb7⟩
              have hyp := hy
              unfold Ap.pk at hy
              injection hy with y1 y2 y3
              have hz7 := hb7.size
              have B8 := (Below.refl _ w7).alloc (Nat.le_refl _) (.cells #[.int .i64 y.f, .int .i64 y.t, .slice y.a y.s.length y.c] 46)
              have HB8 := hide (hb7.trans (B8.mono hz7))
              have HY8 := hide (B3.new w7 (.int .i64 y.f) (.int .i64 y.t) (.slice y.a y.s.length y.c) 46)
              have HYI := hide (SlY.later hyi B8)
              have HYB : Hid (∀ z, y.a = some z → wr.heap.size ≤ z.block ∧ z.block < (w7.alloc (.cells #[.int .i64 y.f, .int .i64 y.t, .slice y.a y.s.length y.c] 46)).heap.size) := fun z hz => ⟨(hyb z hz).1, Nat.lt_of_lt_of_le (hyb z hz).2 B8.size⟩
              have hys : y.s.length ≤ 32768 := by rw [y2, List.length_take]; omega
              have hyt : adr 3 2 y.t = true := by rw [y1]; exact ad5_adr _
              have hq8 : w7.heap.size < (w7.alloc (.cells #[.int .i64 y.f, .int .i64 y.t, .slice y.a y.s.length y.c] 46)).heap.size := by simp
              clear hyp y1 y2 y3 hyi hyb hb7 B8 HF x0 x1 x2 HX1 HXI
              have HYS := hide hys
              have HYT := hide hyt
              clear hys hyt
              go_upto_region 44 with fail
              generalize w7.alloc (.cells #[.int .i64 y.f, .int .i64 y.t, .slice y.a y.s.length y.c] 46) = w8 at *
              generalize w7.heap.size = qy at *
              have hz8 : w1.heap.size ≤ w8.heap.size := Nat.le_trans hz6 HB8.out.size
              have j0 := HY8.out.c0
              have j1 := HY8.out.c1
              have j2 := HY8.out.c2
              have HWa := hide (gi_was y (HG6.out.step HB8.out hz6) rfl HYI.out)
              unfold Ap.val at HWa
              go_wp2_with fail
              refine HWa.out.mono ?_
              rintro e w9 ⟨rfl, b9⟩
              have HG9 := hide (HG6.out.step HB8.out hz6)
              have HL9 := hide (gi_len (HG9.out.step b9 hz8))
              have Y9 := HY8.out.bel b9
              have f0 := Y9.c0
              have f1 := Y9.c1
              have f2 := Y9.c2
              have HB9 := hide b9
              clear HWa j0 j1 j2 b9
              obtain ⟨r, hr⟩ : ∃ r, r = wasB K y := ⟨_, rfl⟩
              rw [← hr]
              have HR := hide hr
              clear hr
              go_wp2_with fail
              refine HL9.out.mono ?_
              rintro e w_ ⟨rfl, hy_⟩
              rw [hy_]; clear hy_ w_ HL9
              have HIn := hide (gi_inject (fun k => k = qy) (fun k hk => by subst hk; exact ⟨by have := hz7; omega, Nat.lt_of_lt_of_le hq8 HB9.out.size⟩) y HG6.out hz6 (HB8.out.trans (HB9.out.mono HB8.out.size)) (SlY.later HYI.out HB9.out) HYS.out HYT.out (fun z hz => ⟨(HYB.out z hz).1, Nat.lt_of_lt_of_le (HYB.out z hz).2 HB9.out.size⟩) (by omega))
              unfold Ap.val at HIn
              go_wp2_with fail
              refine HIn.out.mono ?_
              rintro e w10 ⟨rfl, E10, u10, yi10⟩
              have Y10 := Y9.upd u10 (fun hn => hn rfl)
              have HY10 := hide Y10
              have hz10 : w1.heap.size ≤ w10.heap.size := E10.bel.size
              have hlast : (P ++ [y.pk])[P.length]? = some y.pk := by simp
              have HAt := hide (ge_at P.length y.pk E10 hz10 hlast)
              have HYI10 := hide yi10
              clear HIn f0 f1 f2 Y9 Y10 u10 E10 yi10 hlast HG9 HG6 HB9 HB8 HY8 HYI HYB
              go_wp2_with fail
              refine HAt.out.mono ?_
              rintro e w11 ⟨z, rfl, hzp, zi, E11, b11⟩
              have B12 := (Below.refl _ w11).alloc (Nat.le_refl _) (.cells #[.int .i64 z.f, .int .i64 z.t, .slice z.a z.s.length z.c] 46)
              have hz11 : w1.heap.size ≤ w11.heap.size := E11.bel.size
              have E12 := hide (E11.step B12 hz11)
              have HZ12 := hide (B3.new w11 (.int .i64 z.f) (.int .i64 z.t) (.slice z.a z.s.length z.c) 46)
              have b1012 := b11.trans (B12.mono b11.size)
              have Y12 := HY10.out.bel b1012
              have HSm := hide (same14_eq y z (w11.alloc (.cells #[.int .i64 z.f, .int .i64 z.t, .slice z.a z.s.length z.c] 46)) (SlY.later HYI10.out b1012) (SlY.later zi B12) hzp.symm)
              have HYI12 := hide (SlY.later HYI10.out b1012)
              have hz12 : w1.heap.size ≤ (w11.alloc (.cells #[.int .i64 z.f, .int .i64 z.t, .slice z.a z.s.length z.c] 46)).heap.size := Nat.le_trans hz11 B12.size
              unfold Ap.val at HSm
              unfold Ap.val
              clear HAt hzp zi E11 b11 B12 b1012 HYI10 HY10
              go_upto_region 48 with fail
              generalize w11.alloc (.cells #[.int .i64 z.f, .int .i64 z.t, .slice z.a z.s.length z.c] 46) = w12 at *
              generalize w11.heap.size = qz at *
              have f0 := Y12.c0
              have f1 := Y12.c1
              have f2 := Y12.c2
              have g0 := HZ12.out.c0
              have g1 := HZ12.out.c1
              have g2 := HZ12.out.c2
              go_wp2_with fail
              refine HSm.out.mono ?_
              rintro e w13 ⟨rfl, b13⟩
              have E13 := hide (E12.out.step b13 hz12)
              have Y13 := Y12.bel b13
              have HGn := hide (ge_genuine y E13.out (SlY.later HYI12.out b13) HYT.out)
              have hz13 : w1.heap.size ≤ w13.heap.size := E13.out.bel.size
              rw [← HR.out] at HGn
              unfold Ap.val at HGn
              clear f0 f1 f2 g0 g1 g2 HSm b13 E12
              have f0 := Y13.c0
              have f1 := Y13.c1
              have f2 := Y13.c2
              go_wp2_with fail
              refine HGn.out.mono ?_
              rintro e w14 ⟨rfl, b14⟩
              have E14 := hide (E13.out.step b14 hz13)
              have HLn : Hid (Calls Try.prog 34 #[.pointer (some ⟨b, 0, none⟩)] w14 fun e w' => e = .returned (.int .i64 ((P.length : Int) + 1)) ∧ w' = w14) := by
                have := ge_len E14.out
                rw [List.length_append] at this
                exact this
              clear HGn f0 f1 f2 b14 E13
              have hwl : IntKind.i64.wrap ((P.length : Int) + 1) = (P.length : Int) + 1 := by rw [IntKind.wrap_i64]; omega
              have hrr : (r == r) = true := by simp
              go_wp2_with fail
              refine HLn.out.mono ?_
              rintro e w_ ⟨rfl, hy_⟩
              rw [hy_]; clear hy_ w_ HLn
              have HFIN : Hid (Below w.heap.size w w14) := by
                show Below _ _ _
                rw [hq]
                exact HB1.out.trans (E14.out.bel.mono (by have := HB1.out.size; omega))
              go_wp2
              go_ret
              exact ⟨rfl, HFIN.out⟩

end Go.Proofs.Ytegfbebhgihcaaa
