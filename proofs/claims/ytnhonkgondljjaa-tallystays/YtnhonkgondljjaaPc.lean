import Derived.Test.YtnhonkgondljjaaPa
import Derived.Test.YtnhonkgondljjaaZu
namespace Go.Proofs.Ytnhonkgondljjaa
open Go.RowKit Go.Maps
open Classical
set_option linter.unusedVariables false
set_option linter.unusedSimpArgs false

set_option maxRecDepth 100000 in
set_option maxHeartbeats 4000000 in
theorem stays_walk (c : Cg) (self : Int) (L : List Bl) (a : Option Addr) (n k : Nat) (x : Bl) (D : List (Int × Int)) (av : Option Addr) (vn vc : Nat) (w : World) (h : SlY yBlA w a n k L) (hlogs : ∀ y ∈ L, y.In w ∧ ∀ e ∈ y.s.D, e.fits) (hx : x.In w ∧ ∀ e ∈ x.s.D, e.fits) (hD : SlY yD w av vn vc D) (hm : n * 64 ≤ 140737488351232) :
    Calls Try.prog 12 #[.agg #[.int .i64 c.F, .int .i64 c.R, .int .i64 c.P, .bool c.u], .int .i64 self, .slice a n k, .agg #[.int .i64 x.n, .int .u64 x.h, .int .u64 x.l, .int .i64 x.v, .int .i64 x.c, .slice x.s.a x.s.D.length x.s.c], .slice av vn vc] w fun e w' => e = .returned (.bool true) ∧ Below w.heap.size w w' := by
  have H := hide h
  have HD := hide hD
  have HL := hide hlogs
  have HX := hide hx
  have hmn := hide h.len
  clear h hD hlogs hx
  have B0 : Hid (Below w.heap.size w ((w.alloc (.cells #[.int .i64 c.F, .int .i64 c.R, .int .i64 c.P, .bool c.u] 23)).alloc (.cells #[.int .i64 x.n, .int .u64 x.h, .int .u64 x.l, .int .i64 x.v, .int .i64 x.c, .slice x.s.a x.s.D.length x.s.c] 63))) := ((Below.refl _ w).alloc (Nat.le_refl _) _).alloc (by simp) _
  have hwz : Hid (((w.alloc (.cells #[.int .i64 c.F, .int .i64 c.R, .int .i64 c.P, .bool c.u] 23)).alloc (.cells #[.int .i64 x.n, .int .u64 x.h, .int .u64 x.l, .int .i64 x.v, .int .i64 x.c, .slice x.s.a x.s.D.length x.s.c] 63)).heap.size = w.heap.size + 2) := by show _ = _; simp
  have KC : Hid (∀ v, Below (w.heap.size + 2) ((w.alloc (.cells #[.int .i64 c.F, .int .i64 c.R, .int .i64 c.P, .bool c.u] 23)).alloc (.cells #[.int .i64 x.n, .int .u64 x.h, .int .u64 x.l, .int .i64 x.v, .int .i64 x.c, .slice x.s.a x.s.D.length x.s.c] 63)) v → (v.cell? ⟨w.heap.size, 0, none⟩ = some (.int .i64 c.F) ∧ v.cell? ⟨w.heap.size, 1, none⟩ = some (.int .i64 c.R) ∧ v.cell? ⟨w.heap.size, 2, none⟩ = some (.int .i64 c.P) ∧ v.cell? ⟨w.heap.size, 3, none⟩ = some (.bool c.u)) ∧ (v.cell? ⟨w.heap.size + 1, 0, none⟩ = some (.int .i64 x.n) ∧ v.cell? ⟨w.heap.size + 1, 1, none⟩ = some (.int .u64 x.h) ∧ v.cell? ⟨w.heap.size + 1, 2, none⟩ = some (.int .u64 x.l) ∧ v.cell? ⟨w.heap.size + 1, 3, none⟩ = some (.int .i64 x.v) ∧ v.cell? ⟨w.heap.size + 1, 4, none⟩ = some (.int .i64 x.c) ∧ v.cell? ⟨w.heap.size + 1, 5, none⟩ = some (.slice x.s.a x.s.D.length x.s.c))) := fun v hv => ⟨⟨(hv.cell (p := ⟨w.heap.size, 0, none⟩) (by show w.heap.size < w.heap.size + 2; omega)).trans (by go_simp), (hv.cell (p := ⟨w.heap.size, 1, none⟩) (by show w.heap.size < w.heap.size + 2; omega)).trans (by go_simp), (hv.cell (p := ⟨w.heap.size, 2, none⟩) (by show w.heap.size < w.heap.size + 2; omega)).trans (by go_simp), (hv.cell (p := ⟨w.heap.size, 3, none⟩) (by show w.heap.size < w.heap.size + 2; omega)).trans (by go_simp)⟩, (hv.cell (p := ⟨w.heap.size + 1, 0, none⟩) (by show w.heap.size + 1 < w.heap.size + 2; omega)).trans (by go_simp), (hv.cell (p := ⟨w.heap.size + 1, 1, none⟩) (by show w.heap.size + 1 < w.heap.size + 2; omega)).trans (by go_simp), (hv.cell (p := ⟨w.heap.size + 1, 2, none⟩) (by show w.heap.size + 1 < w.heap.size + 2; omega)).trans (by go_simp), (hv.cell (p := ⟨w.heap.size + 1, 3, none⟩) (by show w.heap.size + 1 < w.heap.size + 2; omega)).trans (by go_simp), (hv.cell (p := ⟨w.heap.size + 1, 4, none⟩) (by show w.heap.size + 1 < w.heap.size + 2; omega)).trans (by go_simp), (hv.cell (p := ⟨w.heap.size + 1, 5, none⟩) (by show w.heap.size + 1 < w.heap.size + 2; omega)).trans (by go_simp)⟩
  have c1 := hide (fun W (hW : Below w.heap.size w W) => Bl.Check_any c self L a n k W (H.out.later hW) (by omega) (fun y hy => ⟨(HL.out y hy).1.later hW, (HL.out y hy).2⟩))
  have c2 := hide (fun W (hW : Below w.heap.size w W) => (Bl.Check_any c self [x] (some ⟨W.heap.size, 0, none⟩) 1 1 (W.alloc (.cells #[.int .i64 x.n, .int .u64 x.h, .int .u64 x.l, .int .i64 x.v, .int .i64 x.c, .slice x.s.a x.s.D.length x.s.c] 63)) (sl_lit kBlA W [x] 63 (by unfold maxLen; simp)) (by omega) (fun y hy => by
    obtain rfl : y = x := by simpa using hy
    exact ⟨HX.out.1.later (hW.alloc hW.size _), HX.out.2⟩)).mono (R' := fun e w' => e = .returned (.int .i64 (Bl.ck c self [x])) ∧ Below W.heap.size W w') (fun e w' h => ⟨h.1, ((Below.refl _ W).alloc (Nat.le_refl _) _).trans (h.2.mono (by simp))⟩))
  have M1 : Hid (Bl.ck c self L = 0 → Bl.ck c self [x] = 0 → Bl.ck c self (Bl.put L x) = 0 ∧ Bl.ck c self (Bl.prn L D) = 0) := fun h1 h2 => by
    obtain ⟨k1, k2⟩ := Bl.ck_zero h1
    obtain ⟨_, k3⟩ := Bl.ck_zero h2
    exact ⟨Bl.ck_of k1 (Bl.ckl_put c self L x k2 k3), Bl.ck_of k1 (Bl.ckl_prn c self L D k2)⟩
  unfold Cg.val at c1 c2
  have E1 := hide (fun h => M1.out h)
  generalize hw0 : ((w.alloc (.cells #[.int .i64 c.F, .int .i64 c.R, .int .i64 c.P, .bool c.u] 23)).alloc (.cells #[.int .i64 x.n, .int .u64 x.h, .int .u64 x.l, .int .i64 x.v, .int .i64 x.c, .slice x.s.a x.s.D.length x.s.c] 63)) = w0 at *
  have D0 : Hid (Below (w.heap.size + 2) w0 w0) := Below.refl _ _
  obtain ⟨CK, hCK⟩ : ∃ CK, Bl.ck c self L = CK := ⟨_, rfl⟩
  obtain ⟨CX, hCX⟩ : ∃ CX, Bl.ck c self [x] = CX := ⟨_, rfl⟩
  rw [hCK] at c1
  rw [hCX] at c2
  have HK := hide hCK
  have HKX := hide hCX
  clear hCK hCX M1 E1
  have M1 : Hid (CK = 0 → CX = 0 → Bl.ck c self (Bl.put L x) = 0 ∧ Bl.ck c self (Bl.prn L D) = 0) := fun h1 h2 => by
    obtain ⟨k1, k2⟩ := Bl.ck_zero (HK.out.trans h1)
    obtain ⟨_, k3⟩ := Bl.ck_zero (HKX.out.trans h2)
    exact ⟨Bl.ck_of k1 (Bl.ckl_put c self L x k2 k3), Bl.ck_of k1 (Bl.ckl_prn c self L D k2)⟩
  clear HK HKX
  obtain ⟨⟨k0, k1, k2, k3⟩, ⟨y0, y1, y2, y3, y4, y5⟩⟩ := KC.out w0 D0.out
  go_enter Try.func12, Try.ntmps12
  go_wp2_with fail
  try rw [hw0]
  clear hw0
  go_wp2_with fail
  refine (c1.out _ B0.out).mono ?_
  rintro e w1 ⟨rfl, b1⟩
  have D1 := hide (D0.out.trans (b1.mono (by rw [hwz.out]; exact Nat.le_refl _)))
  have F1 := hide (B0.out.trans (b1.mono B0.out.size))
  clear b1 k0 k1 k2 k3 y0 y1 y2 y3 y4 y5
  obtain ⟨⟨k0, k1, k2, k3⟩, ⟨y0, y1, y2, y3, y4, y5⟩⟩ := KC.out w1 D1.out
  dsimp only
  go_wp2_with fail
  refine (c2.out _ F1.out).mono ?_
  rintro e w2 ⟨rfl, b2⟩
  have D2 := hide (D1.out.trans (b2.mono (by have := D1.out.size; have h2 := hwz.out; omega)))
  have F2 := hide (F1.out.trans (b2.mono F1.out.size))
  clear b2 k0 k1 k2 k3 y0 y1 y2 y3 y4 y5
  dsimp only
  by_cases h1 : CK = 0
  · by_cases h2 : CX = 0
    · obtain ⟨m1, m2⟩ := M1.out h1 h2
      subst h1
      subst h2
      have HM1 := hide m1
      have HM2 := hide m2
      clear m1 m2 M1 c1 c2
      have p1 := hide (fun W (hW : Below w.heap.size w W) => Bl.Put_any L x a n k W (H.out.later hW) (fun y hy => (HL.out y hy).1.later hW) (HX.out.1.later hW) (by omega))
      unfold Bl.val at p1
      have p2 := hide (fun W (hW : Below w.heap.size w W) => Bl.Prune_any L D a av n k vn vc W (H.out.later hW) (HD.out.later hW) (fun y hy => (HL.out y hy).1.later hW) (by omega))
      have q1 : Hid (∀ (W : World) (B : Nat) (v : Value) (R : List Bl), OwnY yBlA B W v R → Bl.Tolds B W (Bl.put L x) R → Calls Try.prog 42 #[.agg #[.int .i64 c.F, .int .i64 c.R, .int .i64 c.P, .bool c.u], .int .i64 self, v] W fun e w' => e = .returned (.int .i64 0) ∧ Below W.heap.size W w') := fun W B v R ho ht => by
        obtain ⟨a', k', rfl, hs, _⟩ := ho.sl kBlA
        have hl : R.length ≤ n + 1 := by have := Bl.put_len L x; have h3 := hmn.out; rw [ht.1]; omega
        have := Bl.Check_any c self R a' R.length k' W hs (by omega) (fun y hy => by
          obtain ⟨i, hi, rfl⟩ := List.mem_iff_getElem.1 hy
          have hi2 : i < (Bl.put L x).length := by rw [← ht.1]; exact hi
          have tt := ht.2 i _ _ (List.getElem?_eq_getElem hi2) (List.getElem?_eq_getElem hi)
          refine ⟨tt.In, ?_⟩
          rw [tt.D.1]
          rcases Bl.mem_put L x _ (List.getElem_mem hi2) with hh | hh
          · exact (HL.out _ hh).2
          · rw [hh]; exact HX.out.2)
        rw [Bl.ck_tolds c self ht, HM1.out] at this
        exact this
      have q2 : Hid (∀ (W : World) (B : Nat) (v : Value) (R : List Bl), OwnY yBlA B W v R → Bl.Tolds B W (Bl.prn L D) R → Calls Try.prog 42 #[.agg #[.int .i64 c.F, .int .i64 c.R, .int .i64 c.P, .bool c.u], .int .i64 self, v] W fun e w' => e = .returned (.int .i64 0) ∧ Below W.heap.size W w') := fun W B v R ho ht => by
        obtain ⟨a', k', rfl, hs, _⟩ := ho.sl kBlA
        have hl : R.length ≤ n := by have := List.length_filter_le (fun x => !ovr D x.n x.h x.l) L; have h3 := hmn.out; rw [ht.1]; unfold Bl.prn; omega
        have := Bl.Check_any c self R a' R.length k' W hs (by omega) (fun y hy => by
          obtain ⟨i, hi, rfl⟩ := List.mem_iff_getElem.1 hy
          have hi2 : i < (Bl.prn L D).length := by rw [← ht.1]; exact hi
          have tt := ht.2 i _ _ (List.getElem?_eq_getElem hi2) (List.getElem?_eq_getElem hi)
          refine ⟨tt.In, ?_⟩
          rw [tt.D.1]
          exact (HL.out _ (List.mem_filter.1 (List.getElem_mem hi2)).1).2)
        rw [Bl.ck_tolds c self ht, HM2.out] at this
        exact this
      clear HM1 HM2
      generalize Bl.put L x = PL at *
      generalize Bl.prn L D = RL at *
      have t2 := KC.out w2.drew D2.out.drew
      have D3 := hide D2.out.drew
      have F3 := hide F2.out.drew
      go_wp2_with fail
      go_region_held3 (fun v => (v.cell? ⟨w.heap.size, 0, none⟩ = some (.int .i64 c.F) ∧ v.cell? ⟨w.heap.size, 1, none⟩ = some (.int .i64 c.R) ∧ v.cell? ⟨w.heap.size, 2, none⟩ = some (.int .i64 c.P) ∧ v.cell? ⟨w.heap.size, 3, none⟩ = some (.bool c.u)) ∧ (v.cell? ⟨w.heap.size + 1, 0, none⟩ = some (.int .i64 x.n) ∧ v.cell? ⟨w.heap.size + 1, 1, none⟩ = some (.int .u64 x.h) ∧ v.cell? ⟨w.heap.size + 1, 2, none⟩ = some (.int .u64 x.l) ∧ v.cell? ⟨w.heap.size + 1, 3, none⟩ = some (.int .i64 x.v) ∧ v.cell? ⟨w.heap.size + 1, 4, none⟩ = some (.int .i64 x.c) ∧ v.cell? ⟨w.heap.size + 1, 5, none⟩ = some (.slice x.s.a x.s.D.length x.s.c))) (with_reducible assumption) (first
        | (have := D7; go_at_call 26; refine (works8_any _).mono ?_; rintro e w8 ⟨rfl, b8⟩; have F8 := hide (F7.out.trans (b8.mono F7.out.size)); have D8 := hide (D7.out.trans (b8.mono (by have := D7.out.size; have h2 := hwz.out; omega))); have t8 := KC.out w8 D8.out; clear b8)
        | (have := D6; go_at_call 42; refine (q2.out _ _ _ _ O6 T6).mono ?_; rintro e w7 ⟨rfl, b7⟩; have F7 := hide (F6.out.trans (b7.mono F6.out.size)); have D7 := hide (D6.out.trans (b7.mono (by have := D6.out.size; have h2 := hwz.out; omega))); have t7 := KC.out w7 D7.out; clear b7 O6 T6)
        | (have := D5; go_at_call 43; refine (p2.out _ F5.out).mono ?_; rintro e w6 ⟨v6, R6, rfl, O6, T6, b6⟩; have F6 := hide (F5.out.trans (b6.mono F5.out.size)); have D6 := hide (D5.out.trans (b6.mono (by have := D5.out.size; have h2 := hwz.out; omega))); have t6 := KC.out w6 D6.out; clear b6)
        | (have := D4; go_at_call 42; refine (q1.out _ _ _ _ O4 T4).mono ?_; rintro e w5 ⟨rfl, b5⟩; have F5 := hide (F4.out.trans (b5.mono F4.out.size)); have D5 := hide (D4.out.trans (b5.mono (by have := D4.out.size; have h2 := hwz.out; omega))); have t5 := KC.out w5 D5.out; clear b5 O4 T4)
        | (go_at_call 34; refine (p1.out _ F3.out).mono ?_; rintro e w4 ⟨v4, R4, rfl, O4, T4, b4⟩; have F4 := hide (F3.out.trans (b4.mono F3.out.size)); have D4 := hide (D3.out.trans (b4.mono (by have := D3.out.size; have h2 := hwz.out; omega))); have t4 := KC.out w4 D4.out; clear b4))
      go_wp2
      go_ret
      exact ⟨rfl, F8.out⟩
    · have hb2 : (CX != 0) = true := by simp [h2]
      have hb3 : (CX == 0) = false := by simp [h2]
      subst h1
      go_wp2_with fail
      refine (works8_any _).mono ?_
      rintro e w3 ⟨rfl, b3⟩
      have F3 := hide (F2.out.trans (b3.mono F2.out.size))
      clear b3
      go_wp2
      go_ret
      exact ⟨rfl, F3.out⟩
  · have hb2 : (CK != 0) = true := by simp [h1]
    have hb3 : (CK == 0) = false := by simp [h1]
    go_wp2_with fail
    refine (works8_any _).mono ?_
    rintro e w3 ⟨rfl, b3⟩
    have F3 := hide (F2.out.trans (b3.mono F2.out.size))
    clear b3
    go_wp2
    go_ret
    exact ⟨rfl, F3.out⟩

end Go.Proofs.Ytnhonkgondljjaa
