import Derived.Test.YtegfbebhgihcaaaNkb
namespace Go.Proofs.Ytegfbebhgihcaaa
open Go.RowKit Go.Maps
set_option linter.unusedVariables false
set_option linter.unusedSimpArgs false

variable {w w' : World} {b mb n : Nat} {nn cc : Int} {pv rv : Value} {P R : List Pk} {M : Int → List UInt8 → Nat}
set_option maxRecDepth 100000 in
theorem drop_bad (k : Int) (h : Net w b nn cc pv rv mb n P R M) (hk : k < 0 ∨ (P.length : Int) ≤ k) : Calls Try.prog 29 #[.pointer (some ⟨b, 0, none⟩), .int .i64 k] w fun e w' => e = .returned (.int .i64 141) ∧ w' = w := by
  have c2 := h.c2
  obtain ⟨a, c, rfl, hsl⟩ := h.pl.sl
  have HW : ∀ v, Hid (Calls Try.prog 77 #[.int .i64 k, .int .i64 (P.length : Int)] v fun e w' => e = .returned (.bool false) ∧ w' = v) := fun v => by
    have := isWithin_any k (P.length : Int) v
    have e : (decide (0 ≤ k) && decide (k < (P.length : Int))) = false := by simp; omega
    rw [e] at this
    exact this
  clear h hsl hk
  go_enter Try.func29, Try.ntmps29
  go_wp2_with fail
  refine (HW _).out.mono ?_
  rintro e w1 ⟨rfl, rfl⟩
  go_wp2
  go_ret
  exact ⟨rfl, rfl⟩
theorem Ap.Out.upd8 {S : Nat → Prop} {B : Nat} {w w' : World} {x : Ap} (h : x.Out B w) (u : Upd S w w') (hs : ∀ k, B ≤ k → k < w.heap.size → ¬ S k) : x.Out B w' := by
  obtain ⟨g, hg, g1, g2⟩ := h.some_
  exact ⟨h.own.upd1 u (fun k hk => hs k (h.own.blk k hk).1 (h.own.blk k hk).2), g, hg, g1, Nat.lt_of_lt_of_le g2 u.size⟩
theorem Ap.Out.low8 {B B' : Nat} {w : World} {x : Ap} (h : x.Out B w) (hb : B' ≤ B) : x.Out B' w := by
  obtain ⟨g, hg, g1, g2⟩ := h.some_
  exact ⟨h.own.low hb, g, hg, Nat.le_trans hb g1, g2⟩
set_option maxRecDepth 100000 in
set_option maxHeartbeats 1000000 in
theorem take_ok (k : Nat) (p : Pk) (h : Net w b nn cc pv rv mb n P R M) (hk : P[k]? = some p) (hl : P.length * 32 ≤ 168884986026393) : Calls Try.prog 26 #[.pointer (some ⟨b, 0, none⟩), .int .i64 (k : Int)] w fun e w' => ∃ x : Ap, e = .returned (.tuple #[x.val, .int .i64 0]) ∧ x.pk = p ∧ x.Out w.heap.size w' ∧ ∃ pv', Net w' b nn cc pv' rv mb n (dr P k) R M ∧ Upd (fun k => k = b) w w' ∧ (pv'.ownBlock = pv.ownBlock ∨ ∃ k, pv'.ownBlock = some k ∧ w.heap.size ≤ k) := by
  have hkl : k < P.length := (List.getElem?_eq_some_iff.1 hk).1
  have HN := hide h
  have hlt := h.lt
  have HA : ∀ o, Hid (Calls Try.prog 18 #[.pointer (some ⟨b, 0, none⟩), .int .i64 (k : Int)] (w.alloc o) fun e w' => ∃ x : Ap, e = .returned (.tuple #[x.val, .int .i64 0]) ∧ x.pk = p ∧ x.Out (w.alloc o).heap.size w' ∧ Below (w.alloc o).heap.size (w.alloc o) w') := fun o => at_ok k p (HN.out.later ((Below.refl _ _).alloc (Nat.le_refl _) o)) hk
  have hmb := h.mp.lt
  have hpl := hide h.plt
  have hrl : Hid (∀ g, rv.ownBlock = some g → g < w.heap.size) := fun g hg => (h.rc.blk g hg).2
  clear h hk
  go_enter Try.func26, Try.ntmps26
  go_wp2_with fail
  refine (HA _).out.mono ?_
  rintro e w1 ⟨x, rfl, hx, ho, hb⟩
  have r0 : w1.cell? ⟨w.heap.size, 0, none⟩ = some (.int .i64 0) := (hb.cell (p := ⟨w.heap.size, 0, none⟩) (by simp)).trans (by go_simp)
  have r1 : w1.cell? ⟨w.heap.size, 1, none⟩ = some (.int .i64 0) := (hb.cell (p := ⟨w.heap.size, 1, none⟩) (by simp)).trans (by go_simp)
  have r2 : w1.cell? ⟨w.heap.size, 2, none⟩ = some (.slice none 0 0) := (hb.cell (p := ⟨w.heap.size, 2, none⟩) (by simp)).trans (by go_simp)
  have t0 : ∀ j, w1.frozen? ⟨w.heap.size, j, none⟩ = false := fun j => (hb.frozen (p := ⟨w.heap.size, j, none⟩) (by simp)).trans (by go_simp)
  have hzz : w.heap.size < w1.heap.size := by have := hb.size; simp at this; omega
  have HX := hide hx
  have HP := hide ho
  have HB := hide (((Below.refl w.heap.size w).alloc (Nat.le_refl _) (.cells #[.int .i64 0, .int .i64 0, .slice none 0 0] 46)).trans (hb.mono (by simp)))
  clear hx ho hb HA
  unfold Ap.val
  go_wp2_with fail
  have r0' : (w1.alloc (.cells #[.int .i64 x.f, .int .i64 x.t, .slice x.a x.s.length x.c] 46)).cell? ⟨w.heap.size, 0, none⟩ = some (.int .i64 0) := (World.cell?_alloc_past _ _ _ hzz).trans r0
  have r1' : (w1.alloc (.cells #[.int .i64 x.f, .int .i64 x.t, .slice x.a x.s.length x.c] 46)).cell? ⟨w.heap.size, 1, none⟩ = some (.int .i64 0) := (World.cell?_alloc_past _ _ _ hzz).trans r1
  have r2' : (w1.alloc (.cells #[.int .i64 x.f, .int .i64 x.t, .slice x.a x.s.length x.c] 46)).cell? ⟨w.heap.size, 2, none⟩ = some (.slice none 0 0) := (World.cell?_alloc_past _ _ _ hzz).trans r2
  have BB : Below w1.heap.size w1 (w1.alloc (.cells #[.int .i64 x.f, .int .i64 x.t, .slice x.a x.s.length x.c] 46)) := (Below.refl _ _).alloc (Nat.le_refl _) _
  have t0' : ∀ j, (w1.alloc (.cells #[.int .i64 x.f, .int .i64 x.t, .slice x.a x.s.length x.c] 46)).frozen? ⟨w.heap.size, j, none⟩ = false := fun j => (BB.frozen (p := ⟨w.heap.size, j, none⟩) hzz).trans (t0 j)
  have s0 : (w1.alloc (.cells #[.int .i64 x.f, .int .i64 x.t, .slice x.a x.s.length x.c] 46)).cell? ⟨w1.heap.size, 0, none⟩ = some (.int .i64 x.f) := by simp
  have s1 : (w1.alloc (.cells #[.int .i64 x.f, .int .i64 x.t, .slice x.a x.s.length x.c] 46)).cell? ⟨w1.heap.size, 1, none⟩ = some (.int .i64 x.t) := by simp
  have s2 : (w1.alloc (.cells #[.int .i64 x.f, .int .i64 x.t, .slice x.a x.s.length x.c] 46)).cell? ⟨w1.heap.size, 2, none⟩ = some (.slice x.a x.s.length x.c) := by simp
  have hs : w1.heap.size < (w1.alloc (.cells #[.int .i64 x.f, .int .i64 x.t, .slice x.a x.s.length x.c] 46)).heap.size := by simp
  have NB := hide (HN.out.later (HB.out.trans (BB.mono HB.out.size)))
  have WB := hide (HB.out.trans (BB.mono HB.out.size))
  have XB := hide (HP.out.upd8 (S := fun _ => False) (Upd.of_below BB) (fun _ _ _ => id))
  clear BB r0 r1 r2 t0 HB HP HN
  generalize w1.alloc (.cells #[.int .i64 x.f, .int .i64 x.t, .slice x.a x.s.length x.c] 46) = w2 at *
  have HD := hide (drop_ok k (NB.out.later (Below.refl _ _).drew) hkl hl)
  have nb : ¬ w.heap.size = b := by omega
  have nb2 : ¬ w1.heap.size = b := by omega
  have hq : w.heap.size < w2.heap.size := by omega
  go_region_with (refine HD.out.mono ?_; rintro e w3 ⟨rfl, pv', N3, U3, n3⟩; have a0 := (U3.cell (p := ⟨w.heap.size, 0, none⟩) hq nb).trans r0'; have a1 := (U3.cell (p := ⟨w.heap.size, 1, none⟩) hq nb).trans r1'; have a2 := (U3.cell (p := ⟨w.heap.size, 2, none⟩) hq nb).trans r2'; have a3 : ∀ j, w3.frozen? ⟨w.heap.size, j, none⟩ = false := fun j => (U3.frozen (p := ⟨w.heap.size, j, none⟩) hq nb).trans (t0' j); have b0 := (U3.cell (p := ⟨w1.heap.size, 0, none⟩) hs nb2).trans s0; have b1 := (U3.cell (p := ⟨w1.heap.size, 1, none⟩) hs nb2).trans s1; have b2 := (U3.cell (p := ⟨w1.heap.size, 2, none⟩) hs nb2).trans s2)
  all_goals
    have XC := hide ((XB.out.upd8 (S := fun _ => False) (Upd.of_below (Below.refl _ _).drew) (fun _ _ _ => id)).upd8 U3 (fun k h1 h2 e => by simp at h1; omega))
    have U4 := hide ((((Upd.of_below (S := fun k => k = b) WB.out).trans (Upd.of_below (Below.refl _ _).drew)).trans U3))
    have N4 := hide N3
    have n4 : Hid (pv'.ownBlock = pv.ownBlock ∨ ∃ k, pv'.ownBlock = some k ∧ w2.heap.size ≤ k) := n3
    clear N3 U3 n3 s0 s1 s2 r0' r1' r2' t0' HD NB WB XB
    go_wp2
    refine bodyPost_ret (v := .tuple #[.agg #[.int .i64 x.f, .int .i64 x.t, .slice x.a x.s.length x.c], .int .i64 0]) (by simp [results, Try.results26, go_sem, a0, a1, a2]) rfl ⟨x, rfl, HX.out, ?_, pv', ?_, ?_, ?_⟩
    · exact (XC.out.upd8 (set3 w3 w.heap.size _ _ _) (fun k h1 h2 e => by simp at h1; omega)).low8 (by simp)
    · refine N4.out.upd (set3 w3 w.heap.size _ _ _) (by omega) (by omega) (fun k hk e => ?_) (fun k hk e => ?_)
      · rcases n4.out with e1 | ⟨k1, e1, e2⟩
        · have := hpl.out k (e1 ▸ hk)
          omega
        · rw [e1] at hk
          cases hk
          omega
      · have := hrl.out k hk
        omega
    · exact ((U4.out.setCell (p := ⟨w.heap.size, 0, none⟩) (.inr (Nat.le_refl _)) _).setCell (p := ⟨w.heap.size, 1, none⟩) (.inr (Nat.le_refl _)) _).setCell (p := ⟨w.heap.size, 2, none⟩) (.inr (Nat.le_refl _)) _
    · exact n4.out.imp id (fun ⟨k, e1, e2⟩ => ⟨k, e1, by omega⟩)
set_option maxRecDepth 100000 in
theorem copy_ok (k : Nat) (p : Pk) (h : Net w b nn cc pv rv mb n P R M) (hk : P[k]? = some p) (hl : (P.length + 1) * 32 ≤ 168884986026393) : Calls Try.prog 28 #[.pointer (some ⟨b, 0, none⟩), .int .i64 (k : Int)] w fun e w' => e = .returned (.int .i64 0) ∧ ∃ pv', Net w' b nn cc pv' rv mb n (P ++ [p]) R M ∧ Upd (fun k => k = b ∨ pv.ownBlock = some k) w w' ∧ (pv'.ownBlock = pv.ownBlock ∨ ∃ k, pv'.ownBlock = some k ∧ w.heap.size ≤ k) := by
  have hkl : k < P.length := (List.getElem?_eq_some_iff.1 hk).1
  have c2 := h.c2
  have hs := h.sp p (List.mem_of_getElem? hk)
  have HL := hide (lay_any p h hs hl)
  obtain ⟨a, c, hpv, hsl⟩ := h.pl.sl
  subst hpv
  obtain ⟨q, o, ha, hq, hlie⟩ := hsl.place (by intro e; rw [e] at hk; simp at hk)
  subst ha
  have l0 : w.cell? ⟨q, o + k * 3, none⟩ = some (.int .i64 p.t) := hlie _ _ hk 0 _ rfl
  have l1 : w.cell? ⟨q, o + k * 3 + 1, none⟩ = some (.string (bst p.s)) := hlie _ _ hk 1 _ rfl
  have l2 : w.cell? ⟨q, o + k * 3 + 2, none⟩ = some (.int .i64 p.f) := hlie _ _ hk 2 _ rfl
  have HW : Hid (Calls Try.prog 77 #[.int .i64 (k : Int), .int .i64 (P.length : Int)] w fun e w' => e = .returned (.bool true) ∧ w' = w) := by
    have := isWithin_any (k : Int) (P.length : Int) w
    rw [decide_eq_true (show (0 : Int) ≤ k by omega), decide_eq_true (show (k : Int) < P.length by omega)] at this
    exact this
  have hcap := hsl.cap
  have i1 : (k : Int) < (P.length : Int) := by omega
  unfold Pk.val at HL
  clear h hsl hlie hk
  go_enter Try.func28, Try.ntmps28
  go_wp2_with fail
  refine HW.out.mono ?_
  rintro e w1 ⟨rfl, rfl⟩
  go_wp2_with fail
  refine HL.out.mono ?_
  rintro e w2 ⟨rfl, pv', N2, U2, n2⟩
  have H1 := hide N2
  have H2 := hide U2
  have H3 := hide n2
  clear N2 U2 n2 HL HW l0 l1 l2 c2
  go_wp2
  go_ret
  exact ⟨rfl, _, H1.out, H2.out, H3.out⟩

end Go.Proofs.Ytegfbebhgihcaaa
