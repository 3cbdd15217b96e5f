import Derived.Test.YtcngfonnkaiplaaNkk
import Derived.Test.YtcngfonnkaiplaaNkl
namespace Go.Proofs.Ytcngfonnkaiplaa
open Go.RowKit Go.Maps
set_option linter.unusedVariables false
set_option linter.unusedSimpArgs false

/-- A net that no call made, within the law. -/
structure Zs (w v : World) (b : Nat) : Prop where
  bel : Below w.heap.size w v
  bx : B3 v (w.heap.size + 1) (.int .i64 0) (.int .i64 1) (.slice (some ⟨w.heap.size, 0, none⟩) 1 1)
  inn : (⟨0, 1, some ⟨w.heap.size, 0, none⟩, 1, [97]⟩ : Ap).In v
  z : Zn v b
  ge : w.heap.size + 2 ≤ b
theorem Zs.step {w v v' : World} {b : Nat} (h : Zs w v b) (hb : Below v.heap.size v v') : Zs w v' b := ⟨h.bel.trans (hb.mono h.bel.size), h.bx.bel hb, SlY.later h.inn hb, h.z.later hb, h.ge⟩
theorem Zs.clear {w v v' : World} {b : Nat} (h : Zs w v b) (u : Upd (fun k => k = b) v v') (hz : Zn v' b) : Zs w v' b :=
  ⟨h.bel.trans (u.below h.bel.size (fun k hk => by have := h.ge; omega)), h.bx.upd u (fun e => by have := h.ge; omega), SlY.upd h.inn u (fun z hz _ e => by cases hz; have e' : w.heap.size = b := e; have := h.ge; omega), hz, h.ge⟩

set_option maxRecDepth 100000 in
set_option maxHeartbeats 4000000 in
theorem nil14 (w : World) : Calls Try.prog 8 #[] w fun e w' => e = .returned (.bool true) ∧ Below w.heap.size w w' := by
  have hcv := conv_a w
  go_enter Try.func8, Try.ntmps8
  go_wp2_with fail
  have HB1 := (Below.refl _ w).alloc (Nat.le_refl _) (.cells #[.int .u8 97] 5 (1, 2))
  have HX1 : (⟨0, 1, some ⟨w.heap.size, 0, none⟩, 1, [97]⟩ : Ap).In (w.alloc (.cells #[.int .u8 97] 5 (1, 2))) := one_u w 5
  have HZ1 : (w.alloc (.cells #[.int .u8 97] 5 (1, 2))).heap.size = w.heap.size + 1 := by simp
  generalize w.alloc (.cells #[.int .u8 97] 5 (1, 2)) = w1 at *
  have b2 := (Below.refl _ w1).alloc (Nat.le_refl _) (.cells #[.int .i64 0, .int .i64 1, .slice (some ⟨w.heap.size, 0, none⟩) 1 1] 46)
  have HQ2 := B3.new w1 (.int .i64 0) (.int .i64 1) (.slice (some ⟨w.heap.size, 0, none⟩) 1 1) 46
  rw [HZ1] at HQ2
  have HZ2 : (w1.alloc (.cells #[.int .i64 0, .int .i64 1, .slice (some ⟨w.heap.size, 0, none⟩) 1 1] 46)).heap.size = w.heap.size + 2 := by simp [HZ1]
  generalize w1.alloc (.cells #[.int .i64 0, .int .i64 1, .slice (some ⟨w.heap.size, 0, none⟩) 1 1] 46) = w2 at *
  have F2 : Hid (Below w.heap.size w w2 ∧ B3 w2 (w.heap.size + 1) (.int .i64 0) (.int .i64 1) (.slice (some ⟨w.heap.size, 0, none⟩) 1 1) ∧ (⟨0, 1, some ⟨w.heap.size, 0, none⟩, 1, [97]⟩ : Ap).In w2) := ⟨HB1.trans (b2.mono (by omega)), HQ2, SlY.later HX1 b2⟩
  clear HB1 HX1 HZ1 HZ2 b2 HQ2 hcv w1
  refine (at_nil w2).mono ?_
  rintro e w3 ⟨rfl, b3⟩
  go_wp2_with fail
  have b3' := b3.trans (((Below.refl _ w3).alloc (Nat.le_refl _) (.cells #[.int .i64 0, .int .i64 0, .slice none 0 0] 46)).mono b3.size)
  have F3 : Hid (Below w.heap.size w (w3.alloc (.cells #[.int .i64 0, .int .i64 0, .slice none 0 0] 46)) ∧ B3 (w3.alloc (.cells #[.int .i64 0, .int .i64 0, .slice none 0 0] 46)) (w.heap.size + 1) (.int .i64 0) (.int .i64 1) (.slice (some ⟨w.heap.size, 0, none⟩) 1 1) ∧ (⟨0, 1, some ⟨w.heap.size, 0, none⟩, 1, [97]⟩ : Ap).In (w3.alloc (.cells #[.int .i64 0, .int .i64 0, .slice none 0 0] 46)) ∧ B3 (w3.alloc (.cells #[.int .i64 0, .int .i64 0, .slice none 0 0] 46)) w3.heap.size (.int .i64 0) (.int .i64 0) (.slice none 0 0)) := ⟨F2.out.1.trans (b3'.mono F2.out.1.size), F2.out.2.1.bel b3', SlY.later F2.out.2.2 b3', B3.new w3 _ _ _ _⟩
  clear b3 b3' F2
  generalize w3.alloc (.cells #[.int .i64 0, .int .i64 0, .slice none 0 0] 46) = w4 at *
  generalize w3.heap.size = qa at *
  refine (take_nil w4).mono ?_
  rintro e w5 ⟨rfl, b5⟩
  go_wp2_with fail
  have b5' := b5.trans (((Below.refl _ w5).alloc (Nat.le_refl _) (.cells #[.int .i64 0, .int .i64 0, .slice none 0 0] 46)).mono b5.size)
  have F5 : Hid (Below w.heap.size w (w5.alloc (.cells #[.int .i64 0, .int .i64 0, .slice none 0 0] 46)) ∧ B3 (w5.alloc (.cells #[.int .i64 0, .int .i64 0, .slice none 0 0] 46)) (w.heap.size + 1) (.int .i64 0) (.int .i64 1) (.slice (some ⟨w.heap.size, 0, none⟩) 1 1) ∧ (⟨0, 1, some ⟨w.heap.size, 0, none⟩, 1, [97]⟩ : Ap).In (w5.alloc (.cells #[.int .i64 0, .int .i64 0, .slice none 0 0] 46)) ∧ B3 (w5.alloc (.cells #[.int .i64 0, .int .i64 0, .slice none 0 0] 46)) qa (.int .i64 0) (.int .i64 0) (.slice none 0 0) ∧ B3 (w5.alloc (.cells #[.int .i64 0, .int .i64 0, .slice none 0 0] 46)) w5.heap.size (.int .i64 0) (.int .i64 0) (.slice none 0 0)) := ⟨F3.out.1.trans (b5'.mono F3.out.1.size), F3.out.2.1.bel b5', SlY.later F3.out.2.2.1 b5', F3.out.2.2.2.bel b5', B3.new w5 _ _ _ _⟩
  clear b5 b5' F3
  generalize w5.alloc (.cells #[.int .i64 0, .int .i64 0, .slice none 0 0] 46) = w6 at *
  generalize w5.heap.size = qb at *
  refine (record_nil w6).mono ?_
  rintro e w7 ⟨rfl, b7⟩
  go_wp2_with fail
  have b7' := b7.trans (((Below.refl _ w7).alloc (Nat.le_refl _) (.cells #[.int .i64 0, .int .i64 0, .slice none 0 0] 46)).mono b7.size)
  have F7 : Hid (Below w.heap.size w (w7.alloc (.cells #[.int .i64 0, .int .i64 0, .slice none 0 0] 46)) ∧ B3 (w7.alloc (.cells #[.int .i64 0, .int .i64 0, .slice none 0 0] 46)) (w.heap.size + 1) (.int .i64 0) (.int .i64 1) (.slice (some ⟨w.heap.size, 0, none⟩) 1 1) ∧ (⟨0, 1, some ⟨w.heap.size, 0, none⟩, 1, [97]⟩ : Ap).In (w7.alloc (.cells #[.int .i64 0, .int .i64 0, .slice none 0 0] 46)) ∧ B3 (w7.alloc (.cells #[.int .i64 0, .int .i64 0, .slice none 0 0] 46)) qa (.int .i64 0) (.int .i64 0) (.slice none 0 0) ∧ B3 (w7.alloc (.cells #[.int .i64 0, .int .i64 0, .slice none 0 0] 46)) qb (.int .i64 0) (.int .i64 0) (.slice none 0 0) ∧ B3 (w7.alloc (.cells #[.int .i64 0, .int .i64 0, .slice none 0 0] 46)) w7.heap.size (.int .i64 0) (.int .i64 0) (.slice none 0 0)) := ⟨F5.out.1.trans (b7'.mono F5.out.1.size), F5.out.2.1.bel b7', SlY.later F5.out.2.2.1 b7', F5.out.2.2.2.1.bel b7', F5.out.2.2.2.2.bel b7', B3.new w7 _ _ _ _⟩
  clear b7 b7' F5
  generalize w7.alloc (.cells #[.int .i64 0, .int .i64 0, .slice none 0 0] 46) = w8 at *
  generalize w7.heap.size = qc at *
  refine (clear_nil w8).mono ?_
  rintro e w8' ⟨rfl, hy_⟩
  rw [hy_]; clear hy_ w8'
  go_wp2_with fail
  refine (works14 w8).mono ?_
  rintro e w9 ⟨rfl, b9⟩
  have F9 : Hid (Below w.heap.size w w9 ∧ B3 w9 (w.heap.size + 1) (.int .i64 0) (.int .i64 1) (.slice (some ⟨w.heap.size, 0, none⟩) 1 1) ∧ (⟨0, 1, some ⟨w.heap.size, 0, none⟩, 1, [97]⟩ : Ap).In w9) := ⟨F7.out.1.trans (b9.mono F7.out.1.size), F7.out.2.1.bel b9, SlY.later F7.out.2.2.1 b9⟩
  have a2 := (F7.out.2.2.2.1.bel b9).c2
  have a3 := (F7.out.2.2.2.2.1.bel b9).c2
  have a4 := (F7.out.2.2.2.2.2.bel b9).c2
  have p0 := F9.out.2.1.c0
  have p1 := F9.out.2.1.c1
  have p2 := F9.out.2.1.c2
  clear b9 F7
  go_wp2_with fail
  refine (send_nil ⟨0, 1, some ⟨w.heap.size, 0, none⟩, 1, [97]⟩ w9).mono ?_
  rintro e w10 ⟨rfl, b10⟩
  have F10 : Hid (Below w.heap.size w w10 ∧ B3 w10 (w.heap.size + 1) (.int .i64 0) (.int .i64 1) (.slice (some ⟨w.heap.size, 0, none⟩) 1 1) ∧ (⟨0, 1, some ⟨w.heap.size, 0, none⟩, 1, [97]⟩ : Ap).In w10) := ⟨F9.out.1.trans (b10.mono F9.out.1.size), F9.out.2.1.bel b10, SlY.later F9.out.2.2 b10⟩
  clear p0 p1 p2 a2 a3 a4 F9 b10
  have p0 := F10.out.2.1.c0
  have p1 := F10.out.2.1.c1
  have p2 := F10.out.2.1.c2
  go_wp2_with fail
  refine (inject_nil ⟨0, 1, some ⟨w.heap.size, 0, none⟩, 1, [97]⟩ w10).mono ?_
  rintro e w11 ⟨rfl, b11⟩
  have F11 : Hid (Below w.heap.size w w11 ∧ B3 w11 (w.heap.size + 1) (.int .i64 0) (.int .i64 1) (.slice (some ⟨w.heap.size, 0, none⟩) 1 1) ∧ (⟨0, 1, some ⟨w.heap.size, 0, none⟩, 1, [97]⟩ : Ap).In w11) := ⟨F10.out.1.trans (b11.mono F10.out.1.size), F10.out.2.1.bel b11, SlY.later F10.out.2.2 b11⟩
  clear p0 p1 p2 F10 b11
  have p0 := F11.out.2.1.c0
  have p1 := F11.out.2.1.c1
  have p2 := F11.out.2.1.c2
  go_wp2_with (first
    | (go_at_call 28; refine (copy_nil _).mono ?_; rintro e w_ ⟨rfl, hy_⟩; rw [hy_]; clear hy_ w_)
    | (go_at_call 29; refine (drop_nil _).mono ?_; rintro e w_ ⟨rfl, hy_⟩; rw [hy_]; clear hy_ w_)
    | (go_at_call 30; refine (turn_nil _).mono ?_; rintro e w_ ⟨rfl, hy_⟩; rw [hy_]; clear hy_ w_)
    | (go_at_call 31; refine (swap_nil _).mono ?_; rintro e w_ ⟨rfl, hy_⟩; rw [hy_]; clear hy_ w_)
    | (go_at_call 34; refine (len14_nil _).mono ?_; rintro e w_ ⟨rfl, hy_⟩; rw [hy_]; clear hy_ w_)
    | (go_at_call 43; refine (sent_nil _).mono ?_; rintro e w_ ⟨rfl, hy_⟩; rw [hy_]; clear hy_ w_)
    | (go_at_call 40; refine (for_nil _ _).mono ?_; rintro e w_ ⟨rfl, hy_⟩; rw [hy_]; clear hy_ w_))
  refine (genuine_nil ⟨0, 1, some ⟨w.heap.size, 0, none⟩, 1, [97]⟩ w11).mono ?_
  rintro e w12 ⟨rfl, b12⟩
  have F12 : Hid (Below w.heap.size w w12 ∧ B3 w12 (w.heap.size + 1) (.int .i64 0) (.int .i64 1) (.slice (some ⟨w.heap.size, 0, none⟩) 1 1) ∧ (⟨0, 1, some ⟨w.heap.size, 0, none⟩, 1, [97]⟩ : Ap).In w12) := ⟨F11.out.1.trans (b12.mono F11.out.1.size), F11.out.2.1.bel b12, SlY.later F11.out.2.2 b12⟩
  clear p0 p1 p2 F11 b12
  go_wp2_with fail
  go_loopw [9] (fun i wr => ∃ j : Nat, i = .int .i64 (j : Int) ∧ j ≤ 2 ∧ Hid (Below w.heap.size w wr ∧ B3 wr (w.heap.size + 1) (.int .i64 0) (.int .i64 1) (.slice (some ⟨w.heap.size, 0, none⟩) 1 1) ∧ (⟨0, 1, some ⟨w.heap.size, 0, none⟩, 1, [97]⟩ : Ap).In wr)) (fun i _ => 2 - (intOf i).toNat)
  case atStart => exact ⟨0, rfl, by omega, F12⟩
  case round =>
    obtain ⟨j, rfl, hj, HJ⟩ := hrel
    clear F12
    have b0 := (Below.refl _ wr).alloc (Nat.le_refl _) (.cells #[.int .i64 0, .int .i64 0, .slice none 0 0, .slice none 0 0, .map none] 84)
    have Z0 : Zn (wr.alloc (.cells #[.int .i64 0, .int .i64 0, .slice none 0 0, .slice none 0 0, .map none] 84)) wr.heap.size := ⟨by simp, by simp, by simp, by simp, by simp, by simp, fun i => by simp⟩
    have G0 : Hid (Below w.heap.size w (wr.alloc (.cells #[.int .i64 0, .int .i64 0, .slice none 0 0, .slice none 0 0, .map none] 84)) ∧ B3 (wr.alloc (.cells #[.int .i64 0, .int .i64 0, .slice none 0 0, .slice none 0 0, .map none] 84)) (w.heap.size + 1) (.int .i64 0) (.int .i64 1) (.slice (some ⟨w.heap.size, 0, none⟩) 1 1) ∧ (⟨0, 1, some ⟨w.heap.size, 0, none⟩, 1, [97]⟩ : Ap).In (wr.alloc (.cells #[.int .i64 0, .int .i64 0, .slice none 0 0, .slice none 0 0, .map none] 84)) ∧ Zn (wr.alloc (.cells #[.int .i64 0, .int .i64 0, .slice none 0 0, .slice none 0 0, .map none] 84)) wr.heap.size) := ⟨HJ.out.1.trans (b0.mono HJ.out.1.size), HJ.out.2.1.bel b0, SlY.later HJ.out.2.2 b0, Z0⟩
    have hq0 := G0.out.2.1.c0
    have hq1 := G0.out.2.1.c1
    have hq2 := G0.out.2.1.c2
    have HZ0 : Hid (Zs w (wr.alloc (.cells #[.int .i64 0, .int .i64 0, .slice none 0 0, .slice none 0 0, .map none] 84)) wr.heap.size) := ⟨G0.out.1, G0.out.2.1, G0.out.2.2.1, G0.out.2.2.2, HJ.out.2.1.lt⟩
    clear b0 Z0
    by_cases h2 : j = 2
    · subst h2
      have HW := hide HJ.out.1
      clear G0 HJ hq0 hq1 hq2 HZ0
      go_wp2
      go_ret
      exact ⟨rfl, HW.out⟩
    · by_cases h0 : j = 0
      · subst h0
        clear HJ G0
        go_wp2_with fail
        refine (send_z ⟨0, 1, some ⟨w.heap.size, 0, none⟩, 1, [97]⟩ HZ0.out.z rfl).mono ?_
        rintro e v1 ⟨rfl, bb⟩
        have HZ1 := hide (HZ0.out.step bb)
        clear bb HZ0
        clear hq0 hq1 hq2
        go_wp2_with fail
        refine (len14_z HZ1.out.z).mono ?_
        rintro e w_ ⟨rfl, hy_⟩
        rw [hy_]; clear hy_ w_
        go_wp2_with fail
        refine (at_z HZ1.out.z).mono ?_
        rintro e v2 ⟨rfl, bb⟩
        have HZ2 := hide (HZ1.out.step bb)
        clear bb HZ1
        go_wp2_with fail
        refine (copy_z HZ2.out.z).mono ?_
        rintro e w_ ⟨rfl, hy_⟩
        rw [hy_]; clear hy_ w_
        go_wp2_with fail
        refine (turn_z HZ2.out.z).mono ?_
        rintro e w_ ⟨rfl, hy_⟩
        rw [hy_]; clear hy_ w_
        go_wp2_with fail
        refine (swap_z HZ2.out.z).mono ?_
        rintro e w_ ⟨rfl, hy_⟩
        rw [hy_]; clear hy_ w_
        go_wp2_with fail
        refine (for_z 1 HZ2.out.z).mono ?_
        rintro e w_ ⟨rfl, hy_⟩
        rw [hy_]; clear hy_ w_
        go_wp2_with fail
        refine (sent_z HZ2.out.z).mono ?_
        rintro e w_ ⟨rfl, hy_⟩
        rw [hy_]; clear hy_ w_
        go_wp2_with fail
        refine (record_z HZ2.out.z).mono ?_
        rintro e v3 ⟨rfl, bb⟩
        have HZ3 := hide (HZ2.out.step bb)
        clear bb HZ2
        have p0 := HZ3.out.bx.c0
        have p1 := HZ3.out.bx.c1
        have p2 := HZ3.out.bx.c2
        go_wp2_with fail
        refine (genuine_z ⟨0, 1, some ⟨w.heap.size, 0, none⟩, 1, [97]⟩ HZ3.out.z HZ3.out.inn rfl).mono ?_
        rintro e v4 ⟨rfl, bb⟩
        have HZ4 := hide (HZ3.out.step bb)
        clear bb HZ3
        clear p0 p1 p2
        go_wp2_with fail
        refine (take_z HZ4.out.z).mono ?_
        rintro e v5 ⟨rfl, bb⟩
        have HZ5 := hide (HZ4.out.step bb)
        clear bb HZ4
        go_wp2_with fail
        refine (drop_z HZ5.out.z).mono ?_
        rintro e w_ ⟨rfl, hy_⟩
        rw [hy_]; clear hy_ w_
        go_wp2_with fail
        refine (clear_z HZ5.out.z).mono ?_
        rintro e v6 ⟨rfl, zz, uu⟩
        have HZ6 := hide (HZ5.out.clear uu zz)
        clear zz uu HZ5
        go_wp2_with fail
        refine (each_z HZ6.out.z).mono ?_
        rintro e v7 ⟨⟨ve, rfl⟩, bb⟩
        have HZ7 := hide (HZ6.out.step bb)
        clear bb HZ6
        go_wp2
        exact ⟨⟨1, by go_num, by decide, HZ7.out.bel, HZ7.out.bx, HZ7.out.inn⟩, by simp [intOf]⟩
      · have h1 : j = 1 := by omega
        subst h1
        clear HJ G0
        go_wp2_with fail
        refine (inject_z ⟨0, 1, some ⟨w.heap.size, 0, none⟩, 1, [97]⟩ HZ0.out.z rfl).mono ?_
        rintro e v1 ⟨rfl, bb⟩
        have HZ1 := hide (HZ0.out.step bb)
        clear bb HZ0
        clear hq0 hq1 hq2
        go_wp2_with fail
        refine (len14_z HZ1.out.z).mono ?_
        rintro e w_ ⟨rfl, hy_⟩
        rw [hy_]; clear hy_ w_
        go_wp2_with fail
        refine (at_z HZ1.out.z).mono ?_
        rintro e v2 ⟨rfl, bb⟩
        have HZ2 := hide (HZ1.out.step bb)
        clear bb HZ1
        go_wp2_with fail
        refine (copy_z HZ2.out.z).mono ?_
        rintro e w_ ⟨rfl, hy_⟩
        rw [hy_]; clear hy_ w_
        go_wp2_with fail
        refine (turn_z HZ2.out.z).mono ?_
        rintro e w_ ⟨rfl, hy_⟩
        rw [hy_]; clear hy_ w_
        go_wp2_with fail
        refine (swap_z HZ2.out.z).mono ?_
        rintro e w_ ⟨rfl, hy_⟩
        rw [hy_]; clear hy_ w_
        go_wp2_with fail
        refine (for_z 1 HZ2.out.z).mono ?_
        rintro e w_ ⟨rfl, hy_⟩
        rw [hy_]; clear hy_ w_
        go_wp2_with fail
        refine (sent_z HZ2.out.z).mono ?_
        rintro e w_ ⟨rfl, hy_⟩
        rw [hy_]; clear hy_ w_
        go_wp2_with fail
        refine (record_z HZ2.out.z).mono ?_
        rintro e v3 ⟨rfl, bb⟩
        have HZ3 := hide (HZ2.out.step bb)
        clear bb HZ2
        have p0 := HZ3.out.bx.c0
        have p1 := HZ3.out.bx.c1
        have p2 := HZ3.out.bx.c2
        go_wp2_with fail
        refine (genuine_z ⟨0, 1, some ⟨w.heap.size, 0, none⟩, 1, [97]⟩ HZ3.out.z HZ3.out.inn rfl).mono ?_
        rintro e v4 ⟨rfl, bb⟩
        have HZ4 := hide (HZ3.out.step bb)
        clear bb HZ3
        clear p0 p1 p2
        go_wp2_with fail
        refine (take_z HZ4.out.z).mono ?_
        rintro e v5 ⟨rfl, bb⟩
        have HZ5 := hide (HZ4.out.step bb)
        clear bb HZ4
        go_wp2_with fail
        refine (drop_z HZ5.out.z).mono ?_
        rintro e w_ ⟨rfl, hy_⟩
        rw [hy_]; clear hy_ w_
        go_wp2_with fail
        refine (clear_z HZ5.out.z).mono ?_
        rintro e v6 ⟨rfl, zz, uu⟩
        have HZ6 := hide (HZ5.out.clear uu zz)
        clear zz uu HZ5
        go_wp2_with fail
        refine (each_z HZ6.out.z).mono ?_
        rintro e v7 ⟨⟨ve, rfl⟩, bb⟩
        have HZ7 := hide (HZ6.out.step bb)
        clear bb HZ6
        go_wp2
        exact ⟨⟨2, by go_num, by decide, HZ7.out.bel, HZ7.out.bx, HZ7.out.inn⟩, by simp [intOf]⟩

end Go.Proofs.Ytcngfonnkaiplaa
