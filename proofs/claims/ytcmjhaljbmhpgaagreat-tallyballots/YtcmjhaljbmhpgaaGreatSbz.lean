import Derived.Test.YtcmjhaljbmhpgaaGreatSbt
import Derived.Test.YtcmjhaljbmhpgaaGreatQc
namespace Go.Proofs.YtcmjhaljbmhpgaaGreat
open Go.RowKit Go.Maps
open Classical
set_option linter.unusedVariables false
set_option linter.unusedSimpArgs false

theorem cho_more {x y : Bl} (h : mor y.v (y.s.D.length : Int) (-1) x.v (x.s.D.length : Int) (-1) = true) : Bl.cho x y = true := by
  unfold mor at h
  unfold Bl.cho Bl.cb
  simp only [orI, cmpI]
  by_cases h1 : x.v < y.v <;> by_cases h2 : y.v < x.v <;> by_cases h3 : x.s.D.length < y.s.D.length <;> by_cases h4 : y.s.D.length < x.s.D.length <;> simp [h1, h2, h3, h4] at h ⊢ <;> omega
theorem cho_even {x y : Bl} (h1 : y.v = x.v) (h2 : y.s.D.length = x.s.D.length) : Bl.cho x y = decide (y.n < x.n) := by
  unfold Bl.cho Bl.cb
  simp only [orI, cmpI, h1, h2]
  by_cases h3 : x.n < y.n <;> by_cases h4 : y.n < x.n <;> simp [h3, h4] <;> omega
theorem cho_less {x y : Bl} (h : mor y.v (y.s.D.length : Int) (-1) x.v (x.s.D.length : Int) (-1) = false) (hn : ¬ (y.v = x.v ∧ y.s.D.length = x.s.D.length)) : Bl.cho x y = false := by
  unfold mor at h
  unfold Bl.cho Bl.cb
  simp only [orI, cmpI]
  by_cases h1 : x.v < y.v <;> by_cases h2 : y.v < x.v <;> by_cases h3 : x.s.D.length < y.s.D.length <;> by_cases h4 : y.s.D.length < x.s.D.length <;> simp [h1, h2, h3, h4] at h ⊢ <;> omega
/-- What the document's Choose answers. -/
def RChs (B : Nat) (o : Option Bl) (e : Ending) (w : World) : Prop := match o with
  | none => e = .returned (.tuple #[(⟨0, 0, 0, 0, 0, ⟨none, 0, []⟩⟩ : Bl).val, .int .i64 81])
  | some x => ∃ y : Bl, e = .returned (.tuple #[y.val, .int .i64 0]) ∧ Bl.Cp B w x y
set_option maxRecDepth 100000 in
set_option maxHeartbeats 4000000 in
theorem refchoose_any (f : Int) (x0 : Bl) (L : List Bl) (a : Option Addr) (n k : Nat) (w : World) (h : SlY yBlA w a n k L) (hlogs : ∀ x ∈ L, x.In w ∧ x.s.D.length * 48 ≤ 140737488351232) (h0 : x0.In w ∧ x0.s.D.length * 48 ≤ 140737488351232) :
    Calls Tryz.prog 30 #[.int .i64 f, .agg #[.int .i64 x0.n, .int .u64 x0.h, .int .u64 x0.l, .int .i64 x0.v, .int .i64 x0.c, .slice x0.s.a x0.s.D.length x0.s.c], .slice a n k] w fun e w' => RChs w.heap.size (if (n : Int) < f then none else some (chs x0 L)) e w' ∧ Below w.heap.size w w' := by
  have hmx := h.max
  have hcp := h.cap
  have hln := h.len
  unfold maxLen at hmx
  have H := hide h
  have HN := hide hln
  have HLL := hide hlogs
  have H0 := hide h0
  clear h hln hlogs h0
  have B0 : Hid (Below w.heap.size w ((w.alloc (.cells #[.int .i64 x0.n, .int .u64 x0.h, .int .u64 x0.l, .int .i64 x0.v, .int .i64 x0.c, .slice x0.s.a x0.s.D.length x0.s.c] 53)).alloc (.cells #[.int .i64 0, .int .u64 0, .int .u64 0, .int .i64 0, .int .i64 0, .slice none 0 0] 53))) := ((Below.refl _ w).alloc (Nat.le_refl _) _).alloc (by simp) _
  have hwz : Hid (((w.alloc (.cells #[.int .i64 x0.n, .int .u64 x0.h, .int .u64 x0.l, .int .i64 x0.v, .int .i64 x0.c, .slice x0.s.a x0.s.D.length x0.s.c] 53)).alloc (.cells #[.int .i64 0, .int .u64 0, .int .u64 0, .int .i64 0, .int .i64 0, .slice none 0 0] 53)).heap.size = w.heap.size + 1 + 1) := by show _ = _; simp
  have OB0 : Hid (OwnY yBlA (w.heap.size + 1) ((w.alloc (.cells #[.int .i64 x0.n, .int .u64 x0.h, .int .u64 x0.l, .int .i64 x0.v, .int .i64 x0.c, .slice x0.s.a x0.s.D.length x0.s.c] 53)).alloc (.cells #[.int .i64 0, .int .u64 0, .int .u64 0, .int .i64 0, .int .i64 0, .slice none 0 0] 53)) (.slice (some ⟨w.heap.size + 1, 0, none⟩) 1 1) [⟨0, 0, 0, 0, 0, ⟨none, 0, []⟩⟩]) := by
    have := own_box kBlA (w.heap.size + 1) (w.alloc (.cells #[.int .i64 x0.n, .int .u64 x0.h, .int .u64 x0.l, .int .i64 x0.v, .int .i64 x0.c, .slice x0.s.a x0.s.D.length x0.s.c] 53)) ⟨0, 0, 0, 0, 0, ⟨none, 0, []⟩⟩ (by simp)
    rw [World.size_alloc] at this
    exact this
  by_cases hnf : (n : Int) < f
  · rw [if_pos hnf]
    go_enter Tryz.func30, Tryz.ntmps30
    go_wp2_with (refine storeY kBlA _ rfl 53 (.tmp 6) (.tmp 15) rfl (w.heap.size + 1) (w.heap.size + 1) 1 1 [⟨0, 0, 0, 0, 0, ⟨none, 0, []⟩⟩] 0 0 ⟨0, 0, 0, 0, 0, ⟨none, 0, []⟩⟩ ⟨0, 0, 0, 0, 0, ⟨none, 0, []⟩⟩ _ rfl rfl rfl (by kernel_rfl) (by exact (by decide : 6 ≤ 6)) rfl OB0.out ?_)
    intro w8 o8 u8 z8
    have v0 := o8.cell kBlA 0 _ rfl 0 _ rfl
    have v1 := o8.cell kBlA 0 _ rfl 1 _ rfl
    have v2 := o8.cell kBlA 0 _ rfl 2 _ rfl
    have v3 := o8.cell kBlA 0 _ rfl 3 _ rfl
    have v4 := o8.cell kBlA 0 _ rfl 4 _ rfl
    have v5 := o8.cell kBlA 0 _ rfl 5 _ rfl
    simp only [Nat.zero_mul, Nat.zero_add] at v0 v1 v2 v3 v4 v5
    have U8 := hide u8
    clear o8 u8
    go_wp2
    refine bodyPost_ret (v := .tuple #[(⟨0, 0, 0, 0, 0, ⟨none, 0, []⟩⟩ : Bl).val, .int .i64 81]) (by simp [results, Tryz.results30, go_sem, v0, v1, v2, v3, v4, v5, Bl.val]) rfl ?_
    exact ⟨rfl, B0.out.trans (U8.out.below (by have := B0.out.size; omega) (fun k e => by subst e; omega))⟩
  · rw [if_neg hnf]
    have oz : OwnY yBlA (w.heap.size + 1 + 1) (((w.alloc (.cells #[.int .i64 x0.n, .int .u64 x0.h, .int .u64 x0.l, .int .i64 x0.v, .int .i64 x0.c, .slice x0.s.a x0.s.D.length x0.s.c] 53)).alloc (.cells #[.int .i64 0, .int .u64 0, .int .u64 0, .int .i64 0, .int .i64 0, .slice none 0 0] 53)).alloc (.cells #[.int .i64 0, .int .u64 0, .int .u64 0, .int .i64 0, .int .i64 0, .slice none 0 0] 53)) (.slice (some ⟨w.heap.size + 1 + 1, 0, none⟩) 1 1) [⟨0, 0, 0, 0, 0, ⟨none, 0, []⟩⟩] := by
      have := own_box kBlA (w.heap.size + 1 + 1) ((w.alloc (.cells #[.int .i64 x0.n, .int .u64 x0.h, .int .u64 x0.l, .int .i64 x0.v, .int .i64 x0.c, .slice x0.s.a x0.s.D.length x0.s.c] 53)).alloc (.cells #[.int .i64 0, .int .u64 0, .int .u64 0, .int .i64 0, .int .i64 0, .slice none 0 0] 53)) ⟨0, 0, 0, 0, 0, ⟨none, 0, []⟩⟩ (by rw [hwz.out]; exact Nat.le_refl _)
      rw [hwz.out] at this
      exact this
    have OZ := hide oz
    have BA : Hid (Below (w.heap.size + 1 + 1) ((w.alloc (.cells #[.int .i64 x0.n, .int .u64 x0.h, .int .u64 x0.l, .int .i64 x0.v, .int .i64 x0.c, .slice x0.s.a x0.s.D.length x0.s.c] 53)).alloc (.cells #[.int .i64 0, .int .u64 0, .int .u64 0, .int .i64 0, .int .i64 0, .slice none 0 0] 53)) (((w.alloc (.cells #[.int .i64 x0.n, .int .u64 x0.h, .int .u64 x0.l, .int .i64 x0.v, .int .i64 x0.c, .slice x0.s.a x0.s.D.length x0.s.c] 53)).alloc (.cells #[.int .i64 0, .int .u64 0, .int .u64 0, .int .i64 0, .int .i64 0, .slice none 0 0] 53)).alloc (.cells #[.int .i64 0, .int .u64 0, .int .u64 0, .int .i64 0, .int .i64 0, .slice none 0 0] 53))) := (Below.refl _ _).alloc (by rw [hwz.out]; exact Nat.le_refl _) _
    have KX : Hid (∀ v, Below (w.heap.size + 1 + 1) ((w.alloc (.cells #[.int .i64 x0.n, .int .u64 x0.h, .int .u64 x0.l, .int .i64 x0.v, .int .i64 x0.c, .slice x0.s.a x0.s.D.length x0.s.c] 53)).alloc (.cells #[.int .i64 0, .int .u64 0, .int .u64 0, .int .i64 0, .int .i64 0, .slice none 0 0] 53)) v → v.cell? ⟨w.heap.size, 4, none⟩ = some (.int .i64 x0.c)) := fun v hv => (hv.cell (p := ⟨w.heap.size, 4, none⟩) (by show w.heap.size < w.heap.size + 1 + 1; omega)).trans (by go_simp)
    clear oz
    go_enter Tryz.func30, Tryz.ntmps30
    go_wp2_with (refine storeY kBlA _ rfl 53 (.tmp 8) (.tmp 16) rfl (w.heap.size + 1 + 1) (w.heap.size + 1 + 1) 1 1 [⟨0, 0, 0, 0, 0, ⟨none, 0, []⟩⟩] 0 0 ⟨0, 0, 0, 0, 0, ⟨none, 0, []⟩⟩ x0 _ rfl rfl rfl (by kernel_rfl) (by exact (by decide : 6 ≤ 6)) rfl OZ.out ?_)
    intro w1 o1 u1 z1
    have OB1 := hide o1
    have D1 := hide (BA.out.trans (u1.below (by have := BA.out.size; rw [hwz.out] at this; exact this) (fun k e => by subst e; exact Nat.le_refl _)))
    clear o1 u1 z1 OZ BA
    generalize ((w.alloc (.cells #[.int .i64 x0.n, .int .u64 x0.h, .int .u64 x0.l, .int .i64 x0.v, .int .i64 x0.c, .slice x0.s.a x0.s.D.length x0.s.c] 53)).alloc (.cells #[.int .i64 0, .int .u64 0, .int .u64 0, .int .i64 0, .int .i64 0, .slice none 0 0] 53)) = w0 at *
    have k4 := KX.out w1 D1.out
    obtain ⟨BE, hBE0⟩ : ∃ BE, Hid (BE = bestB x0 L) := ⟨_, rfl⟩
    obtain ⟨CM, hCM0⟩ : ∃ CM, Hid (CM = comB x0.c L) := ⟨_, rfl⟩
    have HCH : Hid (chs x0 L = { BE with c := max 0 (min CM (BE.s.D.length : Int)) }) := by show _ = _; rw [hBE0.out, hCM0.out]; rfl
    go_wp2_with fail
    go_loopw [10, 9] (fun i c wr => ∃ (j : Nat) (m : Int) (X : Bl), i = .int .i64 (j : Int) ∧ j ≤ n ∧ c = .int .i64 m ∧ Hid (OwnY yBlA (w.heap.size + 1 + 1) wr (.slice (some ⟨w.heap.size + 1 + 1, 0, none⟩) 1 1) [X]) ∧ Hid (X = x0 ∨ X ∈ L) ∧ Hid (BE = bestB X (L.drop j)) ∧ Hid (CM = comB m (L.drop j)) ∧ Hid (Below (w.heap.size + 1 + 1) w0 wr)) (fun i _ _ => n - (intOf i).toNat)
    case atStart => exact ⟨0, _, _, rfl, Nat.zero_le _, rfl, OB1, .inl rfl, hBE0, hCM0, D1⟩
    case round =>
      obtain ⟨j, m, X, rfl, hj, rfl, hOB, hXL, hBE, hCM, hBL⟩ := hrel
      have zr : w.heap.size + 1 + 1 ≤ wr.heap.size := by have := hBL.out.size; rwa [hwz.out] at this
      by_cases hlt : j < n
      · have hjl : j < L.length := by rw [HN.out]; exact hlt
        have hg : L[j]? = some L[j] := List.getElem?_eq_getElem hjl
        obtain ⟨q, o, ea, hq, _⟩ := (H.out.later (B0.out.trans (hBL.out.mono (by omega)))).BlA hg
        have KY : Hid (∀ v, Below (w.heap.size + 1 + 1) w0 v → v.cell? ⟨q, o + j * 6, none⟩ = some (.int .i64 L[j].n) ∧ v.cell? ⟨q, o + j * 6 + 1, none⟩ = some (.int .u64 L[j].h) ∧ v.cell? ⟨q, o + j * 6 + 2, none⟩ = some (.int .u64 L[j].l) ∧ v.cell? ⟨q, o + j * 6 + 3, none⟩ = some (.int .i64 L[j].v) ∧ v.cell? ⟨q, o + j * 6 + 4, none⟩ = some (.int .i64 L[j].c) ∧ v.cell? ⟨q, o + j * 6 + 5, none⟩ = some (.slice L[j].s.a L[j].s.D.length L[j].s.c)) := fun v hv => by
          obtain ⟨q', o', ea', _, yy⟩ := (H.out.later (B0.out.trans (hv.mono (by omega)))).BlA hg
          rw [ea] at ea'
          cases ea'
          exact yy
        cases ea
        have HYL : Hid (L[j] ∈ L) := List.getElem_mem hjl
        have hBE1 : Hid (BE = bestB (if Bl.cho X L[j] = true then L[j] else X) (L.drop (j + 1))) := by show _ = _; rw [hBE.out, bestB_drop hjl]
        have hCM1 : Hid (CM = comB (if m < L[j].c then L[j].c else m) (L.drop (j + 1))) := by show _ = _; rw [hCM.out, comB_drop hjl]
        have KS : Hid (∀ v, Below wr.heap.size wr v → (v.cell? ⟨q, o + j * 6, none⟩ = some (.int .i64 L[j].n) ∧ v.cell? ⟨q, o + j * 6 + 1, none⟩ = some (.int .u64 L[j].h) ∧ v.cell? ⟨q, o + j * 6 + 2, none⟩ = some (.int .u64 L[j].l) ∧ v.cell? ⟨q, o + j * 6 + 3, none⟩ = some (.int .i64 L[j].v) ∧ v.cell? ⟨q, o + j * 6 + 4, none⟩ = some (.int .i64 L[j].c) ∧ v.cell? ⟨q, o + j * 6 + 5, none⟩ = some (.slice L[j].s.a L[j].s.D.length L[j].s.c)) ∧ v.cell? ⟨w.heap.size + 1 + 1, 0, none⟩ = some (.int .i64 X.n) ∧ v.cell? ⟨w.heap.size + 1 + 1, 1, none⟩ = some (.int .u64 X.h) ∧ v.cell? ⟨w.heap.size + 1 + 1, 2, none⟩ = some (.int .u64 X.l) ∧ v.cell? ⟨w.heap.size + 1 + 1, 3, none⟩ = some (.int .i64 X.v) ∧ v.cell? ⟨w.heap.size + 1 + 1, 4, none⟩ = some (.int .i64 X.c) ∧ v.cell? ⟨w.heap.size + 1 + 1, 5, none⟩ = some (.slice X.s.a X.s.D.length X.s.c)) := fun v hv => by
          have ob := hOB.out.grow hv
          have v0 := ob.cell kBlA 0 _ rfl 0 _ rfl
          have v1 := ob.cell kBlA 0 _ rfl 1 _ rfl
          have v2 := ob.cell kBlA 0 _ rfl 2 _ rfl
          have v3 := ob.cell kBlA 0 _ rfl 3 _ rfl
          have v4 := ob.cell kBlA 0 _ rfl 4 _ rfl
          have v5 := ob.cell kBlA 0 _ rfl 5 _ rfl
          simp only [Nat.zero_mul, Nat.zero_add] at v0 v1 v2 v3 v4 v5
          exact ⟨KY.out v (hBL.out.trans (hv.mono zr)), v0, v1, v2, v3, v4, v5⟩
        clear hg hBE hCM
        generalize L[j] = y at *
        have hy9 : (y.s.D.length : Int) ≤ 9223372036854775807 := by have h3 := (HLL.out y HYL.out).1.1; have := h3.cap; have h2 := h3.max; unfold maxLen at h2; omega
        have hx9 : (X.s.D.length : Int) ≤ 9223372036854775807 := by
          have h3 : SlY yE w X.s.a X.s.D.length X.s.c X.s.D := by
            rcases hXL.out with e | e
            · rw [e]; exact H0.out.1.1
            · exact (HLL.out X e).1.1
          have := h3.cap
          have h2 := h3.max
          unfold maxLen at h2
          omega
        obtain ⟨MR, hMR⟩ : ∃ MR, mor y.v (y.s.D.length : Int) (-1) X.v (X.s.D.length : Int) (-1) = MR := ⟨_, rfl⟩
        have cm := hide (fun W => refmore_any y.v (y.s.D.length : Int) (-1) X.v (X.s.D.length : Int) (-1) W)
        rw [hMR] at cm
        have HMR := hide hMR
        clear hMR
        cases MR with
        | true =>
          have hBE2 : Hid (BE = bestB y (L.drop (j + 1))) := by show _ = _; rw [hBE1.out, if_pos (cho_more HMR.out)]
          have hXL2 : Hid (y = x0 ∨ y ∈ L) := .inr HYL.out
          go_wp2_with fail
          refine region_q9 (C := fun v => Below wr.heap.size wr v) (by kernel_rfl) (by kernel_rfl) (Below.refl _ _).drew ?_
          refine wqv (u := .slice (some ⟨q, o, none⟩) n k) (by kernel_rfl) (fun v hv => by kernel_rfl) ?_
          simp only [Act.put, List.setIfInBounds_toArray, List.set_cons_zero, List.set_cons_succ]
          refine wqv (u := .int .i64 (j : Int)) (by kernel_rfl) (fun v hv => by kernel_rfl) ?_
          simp only [Act.put, List.setIfInBounds_toArray, List.set_cons_zero, List.set_cons_succ]
          refine wqv (u := .pointer (some ⟨q, o + j * 6, none⟩)) (by kernel_rfl) (fun v hv => by go_simp) ?_
          simp only [Act.put, List.setIfInBounds_toArray, List.set_cons_zero, List.set_cons_succ]
          refine wqv (u := .pointer (some ⟨q, o + j * 6 + 3, none⟩)) (by kernel_rfl) (fun v hv => by go_simp) ?_
          simp only [Act.put, List.setIfInBounds_toArray, List.set_cons_zero, List.set_cons_succ]
          refine wqv (u := .int .i64 y.v) (by kernel_rfl) (fun v hv => by obtain ⟨⟨y0, y1, y2, y3, y4, y5⟩, b0, b1, b2, b3, b4, b5⟩ := KS.out v hv; go_simp) ?_
          simp only [Act.put, List.setIfInBounds_toArray, List.set_cons_zero, List.set_cons_succ]
          refine wqv (u := .slice (some ⟨q, o, none⟩) n k) (by kernel_rfl) (fun v hv => by kernel_rfl) ?_
          simp only [Act.put, List.setIfInBounds_toArray, List.set_cons_zero, List.set_cons_succ]
          refine wqv (u := .int .i64 (j : Int)) (by kernel_rfl) (fun v hv => by kernel_rfl) ?_
          simp only [Act.put, List.setIfInBounds_toArray, List.set_cons_zero, List.set_cons_succ]
          refine wqv (u := .pointer (some ⟨q, o + j * 6, none⟩)) (by kernel_rfl) (fun v hv => by go_simp) ?_
          simp only [Act.put, List.setIfInBounds_toArray, List.set_cons_zero, List.set_cons_succ]
          refine wqv (u := .pointer (some ⟨q, o + j * 6 + 5, none⟩)) (by kernel_rfl) (fun v hv => by go_simp) ?_
          simp only [Act.put, List.setIfInBounds_toArray, List.set_cons_zero, List.set_cons_succ]
          refine wqv (u := .slice y.s.a y.s.D.length y.s.c) (by kernel_rfl) (fun v hv => by obtain ⟨⟨y0, y1, y2, y3, y4, y5⟩, b0, b1, b2, b3, b4, b5⟩ := KS.out v hv; go_simp) ?_
          simp only [Act.put, List.setIfInBounds_toArray, List.set_cons_zero, List.set_cons_succ]
          refine wqv (u := .int .i64 (y.s.D.length : Int)) (by kernel_rfl) (fun v hv => by go_simp) ?_
          simp only [Act.put, List.setIfInBounds_toArray, List.set_cons_zero, List.set_cons_succ]
          refine wqv (u := .pointer (some ⟨w.heap.size + 1 + 1, 3, none⟩)) (by kernel_rfl) (fun v hv => by go_simp) ?_
          simp only [Act.put, List.setIfInBounds_toArray, List.set_cons_zero, List.set_cons_succ]
          refine wqv (u := .int .i64 X.v) (by kernel_rfl) (fun v hv => by obtain ⟨⟨y0, y1, y2, y3, y4, y5⟩, b0, b1, b2, b3, b4, b5⟩ := KS.out v hv; go_simp) ?_
          simp only [Act.put, List.setIfInBounds_toArray, List.set_cons_zero, List.set_cons_succ]
          refine wqv (u := .pointer (some ⟨w.heap.size + 1 + 1, 5, none⟩)) (by kernel_rfl) (fun v hv => by go_simp) ?_
          simp only [Act.put, List.setIfInBounds_toArray, List.set_cons_zero, List.set_cons_succ]
          refine wqv (u := .slice X.s.a X.s.D.length X.s.c) (by kernel_rfl) (fun v hv => by obtain ⟨⟨y0, y1, y2, y3, y4, y5⟩, b0, b1, b2, b3, b4, b5⟩ := KS.out v hv; go_simp) ?_
          simp only [Act.put, List.setIfInBounds_toArray, List.set_cons_zero, List.set_cons_succ]
          refine wqv (u := .int .i64 (X.s.D.length : Int)) (by kernel_rfl) (fun v hv => by go_simp) ?_
          simp only [Act.put, List.setIfInBounds_toArray, List.set_cons_zero, List.set_cons_succ]
          refine wqc (fid := 72) (args := #[.int .i64 y.v, .int .i64 (y.s.D.length : Int), .int .i64 (-1), .int .i64 X.v, .int .i64 (X.s.D.length : Int), .int .i64 (-1)]) (u := .bool true) (by kernel_rfl) (fun v => by kernel_rfl) (fun v hv => (cm.out v).mono fun e w2 h => ⟨h.1, h.2 ▸ hv⟩) ?_
          simp only [Act.put, List.setIfInBounds_toArray, List.set_cons_zero, List.set_cons_succ]
          refine wqv (u := .bool true) (by kernel_rfl) (fun v hv => by kernel_rfl) ?_
          simp only [Act.put, List.setIfInBounds_toArray, List.set_cons_zero, List.set_cons_succ]
          refine wqskip (by kernel_rfl) ?_
          simp only [Act.put, List.setIfInBounds_toArray, List.set_cons_zero, List.set_cons_succ]
          refine wqskip (by kernel_rfl) ?_
          simp only [Act.put, List.setIfInBounds_toArray, List.set_cons_zero, List.set_cons_succ]
          refine wqskip (by kernel_rfl) ?_
          simp only [Act.put, List.setIfInBounds_toArray, List.set_cons_zero, List.set_cons_succ]
          refine wqskip (by kernel_rfl) ?_
          simp only [Act.put, List.setIfInBounds_toArray, List.set_cons_zero, List.set_cons_succ]
          refine wqskip (by kernel_rfl) ?_
          simp only [Act.put, List.setIfInBounds_toArray, List.set_cons_zero, List.set_cons_succ]
          refine wqskip (by kernel_rfl) ?_
          simp only [Act.put, List.setIfInBounds_toArray, List.set_cons_zero, List.set_cons_succ]
          refine wqskip (by kernel_rfl) ?_
          simp only [Act.put, List.setIfInBounds_toArray, List.set_cons_zero, List.set_cons_succ]
          refine wqskip (by kernel_rfl) ?_
          simp only [Act.put, List.setIfInBounds_toArray, List.set_cons_zero, List.set_cons_succ]
          refine wqskip (by kernel_rfl) ?_
          simp only [Act.put, List.setIfInBounds_toArray, List.set_cons_zero, List.set_cons_succ]
          refine wqskip (by kernel_rfl) ?_
          simp only [Act.put, List.setIfInBounds_toArray, List.set_cons_zero, List.set_cons_succ]
          refine wqskip (by kernel_rfl) ?_
          simp only [Act.put, List.setIfInBounds_toArray, List.set_cons_zero, List.set_cons_succ]
          refine wqskip (by kernel_rfl) ?_
          simp only [Act.put, List.setIfInBounds_toArray, List.set_cons_zero, List.set_cons_succ]
          refine wqskip (by kernel_rfl) ?_
          simp only [Act.put, List.setIfInBounds_toArray, List.set_cons_zero, List.set_cons_succ]
          refine wqskip (by kernel_rfl) ?_
          simp only [Act.put, List.setIfInBounds_toArray, List.set_cons_zero, List.set_cons_succ]
          refine wqskip (by kernel_rfl) ?_
          simp only [Act.put, List.setIfInBounds_toArray, List.set_cons_zero, List.set_cons_succ]
          refine wqskip (by kernel_rfl) ?_
          simp only [Act.put, List.setIfInBounds_toArray, List.set_cons_zero, List.set_cons_succ]
          refine wqskip (by kernel_rfl) ?_
          simp only [Act.put, List.setIfInBounds_toArray, List.set_cons_zero, List.set_cons_succ]
          refine wqskip (by kernel_rfl) ?_
          simp only [Act.put, List.setIfInBounds_toArray, List.set_cons_zero, List.set_cons_succ]
          refine wqskip (by kernel_rfl) ?_
          simp only [Act.put, List.setIfInBounds_toArray, List.set_cons_zero, List.set_cons_succ]
          refine wqskip (by kernel_rfl) ?_
          simp only [Act.put, List.setIfInBounds_toArray, List.set_cons_zero, List.set_cons_succ]
          refine wqskip (by kernel_rfl) ?_
          simp only [Act.put, List.setIfInBounds_toArray, List.set_cons_zero, List.set_cons_succ]
          refine wqskip (by kernel_rfl) ?_
          simp only [Act.put, List.setIfInBounds_toArray, List.set_cons_zero, List.set_cons_succ]
          refine wqskip (by kernel_rfl) ?_
          simp only [Act.put, List.setIfInBounds_toArray, List.set_cons_zero, List.set_cons_succ]
          refine wqskip (by kernel_rfl) ?_
          simp only [Act.put, List.setIfInBounds_toArray, List.set_cons_zero, List.set_cons_succ]
          refine wqskip (by kernel_rfl) ?_
          simp only [Act.put, List.setIfInBounds_toArray, List.set_cons_zero, List.set_cons_succ]
          refine wqskip (by kernel_rfl) ?_
          simp only [Act.put, List.setIfInBounds_toArray, List.set_cons_zero, List.set_cons_succ]
          refine wqskip (by kernel_rfl) ?_
          simp only [Act.put, List.setIfInBounds_toArray, List.set_cons_zero, List.set_cons_succ]
          refine wqskip (by kernel_rfl) ?_
          simp only [Act.put, List.setIfInBounds_toArray, List.set_cons_zero, List.set_cons_succ]
          refine wqskip (by kernel_rfl) ?_
          simp only [Act.put, List.setIfInBounds_toArray, List.set_cons_zero, List.set_cons_succ]
          refine wqskip (by kernel_rfl) ?_
          simp only [Act.put, List.setIfInBounds_toArray, List.set_cons_zero, List.set_cons_succ]
          refine wqv (u := .bool true) (by kernel_rfl) (fun v hv => by kernel_rfl) ?_
          simp only [Act.put, List.setIfInBounds_toArray, List.set_cons_zero, List.set_cons_succ]
          refine wqnil (fun w2 hv => ?_)
          obtain ⟨⟨y0, y1, y2, y3, y4, y5⟩, _⟩ := KS.out w2 hv
          have OB2 := hide (hOB.out.grow hv)
          have D2 := hide (hBL.out.trans (hv.mono zr))
          have s2 := hv.size
          clear hv
          go_wp2_with (refine storeY kBlA _ rfl 53 (.tmp 8) (.tmp 77) rfl (w.heap.size + 1 + 1) (w.heap.size + 1 + 1) 1 1 [X] 0 0 X y _ rfl rfl rfl (by kernel_rfl) (by exact (by decide : 6 ≤ 6)) rfl OB2.out ?_)
          intro w3 o3 u3 z3
          have OB3 := hide o3
          have D3 := hide (D2.out.trans (u3.below (by have := D2.out.size; omega) (fun k e => by subst e; exact Nat.le_refl _)))
          obtain ⟨_, _, _, _, t4, _⟩ := KY.out w3 D3.out
          clear o3 u3 z3 y0 y1 y2 y3 y4 y5
          by_cases hm : m < y.c
          · have hCM2 : Hid (CM = comB y.c (L.drop (j + 1))) := by show _ = _; rw [hCM1.out, if_pos hm]
            go_wp2
            go_round
            case rel => exact ⟨j + 1, y.c, y, by go_num, by omega, rfl, OB3, hXL2, hBE2, hCM2, D3⟩
            case measure => first | (simp [intOf]; done) | (simp [intOf]; omega)
          · have hCM2 : Hid (CM = comB m (L.drop (j + 1))) := by show _ = _; rw [hCM1.out, if_neg hm]
            go_wp2
            go_round
            case rel => exact ⟨j + 1, m, y, by go_num, by omega, rfl, OB3, hXL2, hBE2, hCM2, D3⟩
            case measure => first | (simp [intOf]; done) | (simp [intOf]; omega)
        | false =>
          by_cases he1 : y.v = X.v
          · have hb1 : (y.v == X.v) = true := by simp [he1]
            by_cases he2 : y.s.D.length = X.s.D.length
            · have hb2 : ((y.s.D.length : Int) == (X.s.D.length : Int)) = true := by simp [he2]
              have HCE := hide (cho_even he1 he2)
              clear he1 he2
              by_cases he3 : y.n < X.n
              · 
                have hBE2 : Hid (BE = bestB y (L.drop (j + 1))) := by show _ = _; rw [hBE1.out, if_pos (by rw [HCE.out]; exact decide_eq_true he3)]
                have hXL2 : Hid (y = x0 ∨ y ∈ L) := .inr HYL.out
                go_wp2_with fail
                refine region_q9 (C := fun v => Below wr.heap.size wr v) (by kernel_rfl) (by kernel_rfl) (Below.refl _ _).drew ?_
                refine wqv (u := .slice (some ⟨q, o, none⟩) n k) (by kernel_rfl) (fun v hv => by kernel_rfl) ?_
                simp only [Act.put, List.setIfInBounds_toArray, List.set_cons_zero, List.set_cons_succ]
                refine wqv (u := .int .i64 (j : Int)) (by kernel_rfl) (fun v hv => by kernel_rfl) ?_
                simp only [Act.put, List.setIfInBounds_toArray, List.set_cons_zero, List.set_cons_succ]
                refine wqv (u := .pointer (some ⟨q, o + j * 6, none⟩)) (by kernel_rfl) (fun v hv => by go_simp) ?_
                simp only [Act.put, List.setIfInBounds_toArray, List.set_cons_zero, List.set_cons_succ]
                refine wqv (u := .pointer (some ⟨q, o + j * 6 + 3, none⟩)) (by kernel_rfl) (fun v hv => by go_simp) ?_
                simp only [Act.put, List.setIfInBounds_toArray, List.set_cons_zero, List.set_cons_succ]
                refine wqv (u := .int .i64 y.v) (by kernel_rfl) (fun v hv => by obtain ⟨⟨y0, y1, y2, y3, y4, y5⟩, b0, b1, b2, b3, b4, b5⟩ := KS.out v hv; go_simp) ?_
                simp only [Act.put, List.setIfInBounds_toArray, List.set_cons_zero, List.set_cons_succ]
                refine wqv (u := .slice (some ⟨q, o, none⟩) n k) (by kernel_rfl) (fun v hv => by kernel_rfl) ?_
                simp only [Act.put, List.setIfInBounds_toArray, List.set_cons_zero, List.set_cons_succ]
                refine wqv (u := .int .i64 (j : Int)) (by kernel_rfl) (fun v hv => by kernel_rfl) ?_
                simp only [Act.put, List.setIfInBounds_toArray, List.set_cons_zero, List.set_cons_succ]
                refine wqv (u := .pointer (some ⟨q, o + j * 6, none⟩)) (by kernel_rfl) (fun v hv => by go_simp) ?_
                simp only [Act.put, List.setIfInBounds_toArray, List.set_cons_zero, List.set_cons_succ]
                refine wqv (u := .pointer (some ⟨q, o + j * 6 + 5, none⟩)) (by kernel_rfl) (fun v hv => by go_simp) ?_
                simp only [Act.put, List.setIfInBounds_toArray, List.set_cons_zero, List.set_cons_succ]
                refine wqv (u := .slice y.s.a y.s.D.length y.s.c) (by kernel_rfl) (fun v hv => by obtain ⟨⟨y0, y1, y2, y3, y4, y5⟩, b0, b1, b2, b3, b4, b5⟩ := KS.out v hv; go_simp) ?_
                simp only [Act.put, List.setIfInBounds_toArray, List.set_cons_zero, List.set_cons_succ]
                refine wqv (u := .int .i64 (y.s.D.length : Int)) (by kernel_rfl) (fun v hv => by go_simp) ?_
                simp only [Act.put, List.setIfInBounds_toArray, List.set_cons_zero, List.set_cons_succ]
                refine wqv (u := .pointer (some ⟨w.heap.size + 1 + 1, 3, none⟩)) (by kernel_rfl) (fun v hv => by go_simp) ?_
                simp only [Act.put, List.setIfInBounds_toArray, List.set_cons_zero, List.set_cons_succ]
                refine wqv (u := .int .i64 X.v) (by kernel_rfl) (fun v hv => by obtain ⟨⟨y0, y1, y2, y3, y4, y5⟩, b0, b1, b2, b3, b4, b5⟩ := KS.out v hv; go_simp) ?_
                simp only [Act.put, List.setIfInBounds_toArray, List.set_cons_zero, List.set_cons_succ]
                refine wqv (u := .pointer (some ⟨w.heap.size + 1 + 1, 5, none⟩)) (by kernel_rfl) (fun v hv => by go_simp) ?_
                simp only [Act.put, List.setIfInBounds_toArray, List.set_cons_zero, List.set_cons_succ]
                refine wqv (u := .slice X.s.a X.s.D.length X.s.c) (by kernel_rfl) (fun v hv => by obtain ⟨⟨y0, y1, y2, y3, y4, y5⟩, b0, b1, b2, b3, b4, b5⟩ := KS.out v hv; go_simp) ?_
                simp only [Act.put, List.setIfInBounds_toArray, List.set_cons_zero, List.set_cons_succ]
                refine wqv (u := .int .i64 (X.s.D.length : Int)) (by kernel_rfl) (fun v hv => by go_simp) ?_
                simp only [Act.put, List.setIfInBounds_toArray, List.set_cons_zero, List.set_cons_succ]
                refine wqc (fid := 72) (args := #[.int .i64 y.v, .int .i64 (y.s.D.length : Int), .int .i64 (-1), .int .i64 X.v, .int .i64 (X.s.D.length : Int), .int .i64 (-1)]) (u := .bool false) (by kernel_rfl) (fun v => by kernel_rfl) (fun v hv => (cm.out v).mono fun e w2 h => ⟨h.1, h.2 ▸ hv⟩) ?_
                simp only [Act.put, List.setIfInBounds_toArray, List.set_cons_zero, List.set_cons_succ]
                refine wqv (u := .bool false) (by kernel_rfl) (fun v hv => by kernel_rfl) ?_
                simp only [Act.put, List.setIfInBounds_toArray, List.set_cons_zero, List.set_cons_succ]
                refine wqv (u := .slice (some ⟨q, o, none⟩) n k) (by kernel_rfl) (fun v hv => by kernel_rfl) ?_
                simp only [Act.put, List.setIfInBounds_toArray, List.set_cons_zero, List.set_cons_succ]
                refine wqv (u := .int .i64 (j : Int)) (by kernel_rfl) (fun v hv => by kernel_rfl) ?_
                simp only [Act.put, List.setIfInBounds_toArray, List.set_cons_zero, List.set_cons_succ]
                refine wqv (u := .pointer (some ⟨q, o + j * 6, none⟩)) (by kernel_rfl) (fun v hv => by go_simp) ?_
                simp only [Act.put, List.setIfInBounds_toArray, List.set_cons_zero, List.set_cons_succ]
                refine wqv (u := .pointer (some ⟨q, o + j * 6 + 3, none⟩)) (by kernel_rfl) (fun v hv => by go_simp) ?_
                simp only [Act.put, List.setIfInBounds_toArray, List.set_cons_zero, List.set_cons_succ]
                refine wqv (u := .int .i64 y.v) (by kernel_rfl) (fun v hv => by obtain ⟨⟨y0, y1, y2, y3, y4, y5⟩, b0, b1, b2, b3, b4, b5⟩ := KS.out v hv; go_simp) ?_
                simp only [Act.put, List.setIfInBounds_toArray, List.set_cons_zero, List.set_cons_succ]
                refine wqv (u := .pointer (some ⟨w.heap.size + 1 + 1, 3, none⟩)) (by kernel_rfl) (fun v hv => by go_simp) ?_
                simp only [Act.put, List.setIfInBounds_toArray, List.set_cons_zero, List.set_cons_succ]
                refine wqv (u := .int .i64 X.v) (by kernel_rfl) (fun v hv => by obtain ⟨⟨y0, y1, y2, y3, y4, y5⟩, b0, b1, b2, b3, b4, b5⟩ := KS.out v hv; go_simp) ?_
                simp only [Act.put, List.setIfInBounds_toArray, List.set_cons_zero, List.set_cons_succ]
                refine wqv (u := .bool true) (by kernel_rfl) (fun v hv => by go_simp) ?_
                simp only [Act.put, List.setIfInBounds_toArray, List.set_cons_zero, List.set_cons_succ]
                refine wqv (u := .bool true) (by kernel_rfl) (fun v hv => by kernel_rfl) ?_
                simp only [Act.put, List.setIfInBounds_toArray, List.set_cons_zero, List.set_cons_succ]
                refine wqv (u := .slice (some ⟨q, o, none⟩) n k) (by kernel_rfl) (fun v hv => by kernel_rfl) ?_
                simp only [Act.put, List.setIfInBounds_toArray, List.set_cons_zero, List.set_cons_succ]
                refine wqv (u := .int .i64 (j : Int)) (by kernel_rfl) (fun v hv => by kernel_rfl) ?_
                simp only [Act.put, List.setIfInBounds_toArray, List.set_cons_zero, List.set_cons_succ]
                refine wqv (u := .pointer (some ⟨q, o + j * 6, none⟩)) (by kernel_rfl) (fun v hv => by go_simp) ?_
                simp only [Act.put, List.setIfInBounds_toArray, List.set_cons_zero, List.set_cons_succ]
                refine wqv (u := .pointer (some ⟨q, o + j * 6 + 5, none⟩)) (by kernel_rfl) (fun v hv => by go_simp) ?_
                simp only [Act.put, List.setIfInBounds_toArray, List.set_cons_zero, List.set_cons_succ]
                refine wqv (u := .slice y.s.a y.s.D.length y.s.c) (by kernel_rfl) (fun v hv => by obtain ⟨⟨y0, y1, y2, y3, y4, y5⟩, b0, b1, b2, b3, b4, b5⟩ := KS.out v hv; go_simp) ?_
                simp only [Act.put, List.setIfInBounds_toArray, List.set_cons_zero, List.set_cons_succ]
                refine wqv (u := .int .i64 (y.s.D.length : Int)) (by kernel_rfl) (fun v hv => by go_simp) ?_
                simp only [Act.put, List.setIfInBounds_toArray, List.set_cons_zero, List.set_cons_succ]
                refine wqv (u := .pointer (some ⟨w.heap.size + 1 + 1, 5, none⟩)) (by kernel_rfl) (fun v hv => by go_simp) ?_
                simp only [Act.put, List.setIfInBounds_toArray, List.set_cons_zero, List.set_cons_succ]
                refine wqv (u := .slice X.s.a X.s.D.length X.s.c) (by kernel_rfl) (fun v hv => by obtain ⟨⟨y0, y1, y2, y3, y4, y5⟩, b0, b1, b2, b3, b4, b5⟩ := KS.out v hv; go_simp) ?_
                simp only [Act.put, List.setIfInBounds_toArray, List.set_cons_zero, List.set_cons_succ]
                refine wqv (u := .int .i64 (X.s.D.length : Int)) (by kernel_rfl) (fun v hv => by go_simp) ?_
                simp only [Act.put, List.setIfInBounds_toArray, List.set_cons_zero, List.set_cons_succ]
                refine wqv (u := .bool true) (by kernel_rfl) (fun v hv => by go_simp) ?_
                simp only [Act.put, List.setIfInBounds_toArray, List.set_cons_zero, List.set_cons_succ]
                refine wqv (u := .bool true) (by kernel_rfl) (fun v hv => by kernel_rfl) ?_
                simp only [Act.put, List.setIfInBounds_toArray, List.set_cons_zero, List.set_cons_succ]
                refine wqv (u := .bool true) (by kernel_rfl) (fun v hv => by kernel_rfl) ?_
                simp only [Act.put, List.setIfInBounds_toArray, List.set_cons_zero, List.set_cons_succ]
                refine wqv (u := .slice (some ⟨q, o, none⟩) n k) (by kernel_rfl) (fun v hv => by kernel_rfl) ?_
                simp only [Act.put, List.setIfInBounds_toArray, List.set_cons_zero, List.set_cons_succ]
                refine wqv (u := .int .i64 (j : Int)) (by kernel_rfl) (fun v hv => by kernel_rfl) ?_
                simp only [Act.put, List.setIfInBounds_toArray, List.set_cons_zero, List.set_cons_succ]
                refine wqv (u := .pointer (some ⟨q, o + j * 6, none⟩)) (by kernel_rfl) (fun v hv => by go_simp) ?_
                simp only [Act.put, List.setIfInBounds_toArray, List.set_cons_zero, List.set_cons_succ]
                refine wqv (u := .pointer (some ⟨q, o + j * 6, none⟩)) (by kernel_rfl) (fun v hv => by go_simp) ?_
                simp only [Act.put, List.setIfInBounds_toArray, List.set_cons_zero, List.set_cons_succ]
                refine wqv (u := .int .i64 y.n) (by kernel_rfl) (fun v hv => by obtain ⟨⟨y0, y1, y2, y3, y4, y5⟩, b0, b1, b2, b3, b4, b5⟩ := KS.out v hv; go_simp) ?_
                simp only [Act.put, List.setIfInBounds_toArray, List.set_cons_zero, List.set_cons_succ]
                refine wqv (u := .pointer (some ⟨w.heap.size + 1 + 1, 0, none⟩)) (by kernel_rfl) (fun v hv => by go_simp) ?_
                simp only [Act.put, List.setIfInBounds_toArray, List.set_cons_zero, List.set_cons_succ]
                refine wqv (u := .int .i64 X.n) (by kernel_rfl) (fun v hv => by obtain ⟨⟨y0, y1, y2, y3, y4, y5⟩, b0, b1, b2, b3, b4, b5⟩ := KS.out v hv; go_simp) ?_
                simp only [Act.put, List.setIfInBounds_toArray, List.set_cons_zero, List.set_cons_succ]
                refine wqv (u := .bool true) (by kernel_rfl) (fun v hv => by go_simp) ?_
                simp only [Act.put, List.setIfInBounds_toArray, List.set_cons_zero, List.set_cons_succ]
                refine wqv (u := .bool true) (by kernel_rfl) (fun v hv => by kernel_rfl) ?_
                simp only [Act.put, List.setIfInBounds_toArray, List.set_cons_zero, List.set_cons_succ]
                refine wqv (u := .bool true) (by kernel_rfl) (fun v hv => by kernel_rfl) ?_
                simp only [Act.put, List.setIfInBounds_toArray, List.set_cons_zero, List.set_cons_succ]
                refine wqnil (fun w2 hv => ?_)
                obtain ⟨⟨y0, y1, y2, y3, y4, y5⟩, _⟩ := KS.out w2 hv
                have OB2 := hide (hOB.out.grow hv)
                have D2 := hide (hBL.out.trans (hv.mono zr))
                have s2 := hv.size
                clear hv
                go_wp2_with (refine storeY kBlA _ rfl 53 (.tmp 8) (.tmp 77) rfl (w.heap.size + 1 + 1) (w.heap.size + 1 + 1) 1 1 [X] 0 0 X y _ rfl rfl rfl (by kernel_rfl) (by exact (by decide : 6 ≤ 6)) rfl OB2.out ?_)
                intro w3 o3 u3 z3
                have OB3 := hide o3
                have D3 := hide (D2.out.trans (u3.below (by have := D2.out.size; omega) (fun k e => by subst e; exact Nat.le_refl _)))
                obtain ⟨_, _, _, _, t4, _⟩ := KY.out w3 D3.out
                clear o3 u3 z3 y0 y1 y2 y3 y4 y5
                by_cases hm : m < y.c
                · have hCM2 : Hid (CM = comB y.c (L.drop (j + 1))) := by show _ = _; rw [hCM1.out, if_pos hm]
                  go_wp2
                  go_round
                  case rel => exact ⟨j + 1, y.c, y, by go_num, by omega, rfl, OB3, hXL2, hBE2, hCM2, D3⟩
                  case measure => first | (simp [intOf]; done) | (simp [intOf]; omega)
                · have hCM2 : Hid (CM = comB m (L.drop (j + 1))) := by show _ = _; rw [hCM1.out, if_neg hm]
                  go_wp2
                  go_round
                  case rel => exact ⟨j + 1, m, y, by go_num, by omega, rfl, OB3, hXL2, hBE2, hCM2, D3⟩
                  case measure => first | (simp [intOf]; done) | (simp [intOf]; omega)
              · 
                have hBE2 : Hid (BE = bestB X (L.drop (j + 1))) := by show _ = _; rw [hBE1.out, if_neg (by rw [HCE.out, decide_eq_false he3]; decide)]
                have hXL2 : Hid (X = x0 ∨ X ∈ L) := hXL
                go_wp2_with fail
                refine region_q9 (C := fun v => Below wr.heap.size wr v) (by kernel_rfl) (by kernel_rfl) (Below.refl _ _).drew ?_
                refine wqv (u := .slice (some ⟨q, o, none⟩) n k) (by kernel_rfl) (fun v hv => by kernel_rfl) ?_
                simp only [Act.put, List.setIfInBounds_toArray, List.set_cons_zero, List.set_cons_succ]
                refine wqv (u := .int .i64 (j : Int)) (by kernel_rfl) (fun v hv => by kernel_rfl) ?_
                simp only [Act.put, List.setIfInBounds_toArray, List.set_cons_zero, List.set_cons_succ]
                refine wqv (u := .pointer (some ⟨q, o + j * 6, none⟩)) (by kernel_rfl) (fun v hv => by go_simp) ?_
                simp only [Act.put, List.setIfInBounds_toArray, List.set_cons_zero, List.set_cons_succ]
                refine wqv (u := .pointer (some ⟨q, o + j * 6 + 3, none⟩)) (by kernel_rfl) (fun v hv => by go_simp) ?_
                simp only [Act.put, List.setIfInBounds_toArray, List.set_cons_zero, List.set_cons_succ]
                refine wqv (u := .int .i64 y.v) (by kernel_rfl) (fun v hv => by obtain ⟨⟨y0, y1, y2, y3, y4, y5⟩, b0, b1, b2, b3, b4, b5⟩ := KS.out v hv; go_simp) ?_
                simp only [Act.put, List.setIfInBounds_toArray, List.set_cons_zero, List.set_cons_succ]
                refine wqv (u := .slice (some ⟨q, o, none⟩) n k) (by kernel_rfl) (fun v hv => by kernel_rfl) ?_
                simp only [Act.put, List.setIfInBounds_toArray, List.set_cons_zero, List.set_cons_succ]
                refine wqv (u := .int .i64 (j : Int)) (by kernel_rfl) (fun v hv => by kernel_rfl) ?_
                simp only [Act.put, List.setIfInBounds_toArray, List.set_cons_zero, List.set_cons_succ]
                refine wqv (u := .pointer (some ⟨q, o + j * 6, none⟩)) (by kernel_rfl) (fun v hv => by go_simp) ?_
                simp only [Act.put, List.setIfInBounds_toArray, List.set_cons_zero, List.set_cons_succ]
                refine wqv (u := .pointer (some ⟨q, o + j * 6 + 5, none⟩)) (by kernel_rfl) (fun v hv => by go_simp) ?_
                simp only [Act.put, List.setIfInBounds_toArray, List.set_cons_zero, List.set_cons_succ]
                refine wqv (u := .slice y.s.a y.s.D.length y.s.c) (by kernel_rfl) (fun v hv => by obtain ⟨⟨y0, y1, y2, y3, y4, y5⟩, b0, b1, b2, b3, b4, b5⟩ := KS.out v hv; go_simp) ?_
                simp only [Act.put, List.setIfInBounds_toArray, List.set_cons_zero, List.set_cons_succ]
                refine wqv (u := .int .i64 (y.s.D.length : Int)) (by kernel_rfl) (fun v hv => by go_simp) ?_
                simp only [Act.put, List.setIfInBounds_toArray, List.set_cons_zero, List.set_cons_succ]
                refine wqv (u := .pointer (some ⟨w.heap.size + 1 + 1, 3, none⟩)) (by kernel_rfl) (fun v hv => by go_simp) ?_
                simp only [Act.put, List.setIfInBounds_toArray, List.set_cons_zero, List.set_cons_succ]
                refine wqv (u := .int .i64 X.v) (by kernel_rfl) (fun v hv => by obtain ⟨⟨y0, y1, y2, y3, y4, y5⟩, b0, b1, b2, b3, b4, b5⟩ := KS.out v hv; go_simp) ?_
                simp only [Act.put, List.setIfInBounds_toArray, List.set_cons_zero, List.set_cons_succ]
                refine wqv (u := .pointer (some ⟨w.heap.size + 1 + 1, 5, none⟩)) (by kernel_rfl) (fun v hv => by go_simp) ?_
                simp only [Act.put, List.setIfInBounds_toArray, List.set_cons_zero, List.set_cons_succ]
                refine wqv (u := .slice X.s.a X.s.D.length X.s.c) (by kernel_rfl) (fun v hv => by obtain ⟨⟨y0, y1, y2, y3, y4, y5⟩, b0, b1, b2, b3, b4, b5⟩ := KS.out v hv; go_simp) ?_
                simp only [Act.put, List.setIfInBounds_toArray, List.set_cons_zero, List.set_cons_succ]
                refine wqv (u := .int .i64 (X.s.D.length : Int)) (by kernel_rfl) (fun v hv => by go_simp) ?_
                simp only [Act.put, List.setIfInBounds_toArray, List.set_cons_zero, List.set_cons_succ]
                refine wqc (fid := 72) (args := #[.int .i64 y.v, .int .i64 (y.s.D.length : Int), .int .i64 (-1), .int .i64 X.v, .int .i64 (X.s.D.length : Int), .int .i64 (-1)]) (u := .bool false) (by kernel_rfl) (fun v => by kernel_rfl) (fun v hv => (cm.out v).mono fun e w2 h => ⟨h.1, h.2 ▸ hv⟩) ?_
                simp only [Act.put, List.setIfInBounds_toArray, List.set_cons_zero, List.set_cons_succ]
                refine wqv (u := .bool false) (by kernel_rfl) (fun v hv => by kernel_rfl) ?_
                simp only [Act.put, List.setIfInBounds_toArray, List.set_cons_zero, List.set_cons_succ]
                refine wqv (u := .slice (some ⟨q, o, none⟩) n k) (by kernel_rfl) (fun v hv => by kernel_rfl) ?_
                simp only [Act.put, List.setIfInBounds_toArray, List.set_cons_zero, List.set_cons_succ]
                refine wqv (u := .int .i64 (j : Int)) (by kernel_rfl) (fun v hv => by kernel_rfl) ?_
                simp only [Act.put, List.setIfInBounds_toArray, List.set_cons_zero, List.set_cons_succ]
                refine wqv (u := .pointer (some ⟨q, o + j * 6, none⟩)) (by kernel_rfl) (fun v hv => by go_simp) ?_
                simp only [Act.put, List.setIfInBounds_toArray, List.set_cons_zero, List.set_cons_succ]
                refine wqv (u := .pointer (some ⟨q, o + j * 6 + 3, none⟩)) (by kernel_rfl) (fun v hv => by go_simp) ?_
                simp only [Act.put, List.setIfInBounds_toArray, List.set_cons_zero, List.set_cons_succ]
                refine wqv (u := .int .i64 y.v) (by kernel_rfl) (fun v hv => by obtain ⟨⟨y0, y1, y2, y3, y4, y5⟩, b0, b1, b2, b3, b4, b5⟩ := KS.out v hv; go_simp) ?_
                simp only [Act.put, List.setIfInBounds_toArray, List.set_cons_zero, List.set_cons_succ]
                refine wqv (u := .pointer (some ⟨w.heap.size + 1 + 1, 3, none⟩)) (by kernel_rfl) (fun v hv => by go_simp) ?_
                simp only [Act.put, List.setIfInBounds_toArray, List.set_cons_zero, List.set_cons_succ]
                refine wqv (u := .int .i64 X.v) (by kernel_rfl) (fun v hv => by obtain ⟨⟨y0, y1, y2, y3, y4, y5⟩, b0, b1, b2, b3, b4, b5⟩ := KS.out v hv; go_simp) ?_
                simp only [Act.put, List.setIfInBounds_toArray, List.set_cons_zero, List.set_cons_succ]
                refine wqv (u := .bool true) (by kernel_rfl) (fun v hv => by go_simp) ?_
                simp only [Act.put, List.setIfInBounds_toArray, List.set_cons_zero, List.set_cons_succ]
                refine wqv (u := .bool true) (by kernel_rfl) (fun v hv => by kernel_rfl) ?_
                simp only [Act.put, List.setIfInBounds_toArray, List.set_cons_zero, List.set_cons_succ]
                refine wqv (u := .slice (some ⟨q, o, none⟩) n k) (by kernel_rfl) (fun v hv => by kernel_rfl) ?_
                simp only [Act.put, List.setIfInBounds_toArray, List.set_cons_zero, List.set_cons_succ]
                refine wqv (u := .int .i64 (j : Int)) (by kernel_rfl) (fun v hv => by kernel_rfl) ?_
                simp only [Act.put, List.setIfInBounds_toArray, List.set_cons_zero, List.set_cons_succ]
                refine wqv (u := .pointer (some ⟨q, o + j * 6, none⟩)) (by kernel_rfl) (fun v hv => by go_simp) ?_
                simp only [Act.put, List.setIfInBounds_toArray, List.set_cons_zero, List.set_cons_succ]
                refine wqv (u := .pointer (some ⟨q, o + j * 6 + 5, none⟩)) (by kernel_rfl) (fun v hv => by go_simp) ?_
                simp only [Act.put, List.setIfInBounds_toArray, List.set_cons_zero, List.set_cons_succ]
                refine wqv (u := .slice y.s.a y.s.D.length y.s.c) (by kernel_rfl) (fun v hv => by obtain ⟨⟨y0, y1, y2, y3, y4, y5⟩, b0, b1, b2, b3, b4, b5⟩ := KS.out v hv; go_simp) ?_
                simp only [Act.put, List.setIfInBounds_toArray, List.set_cons_zero, List.set_cons_succ]
                refine wqv (u := .int .i64 (y.s.D.length : Int)) (by kernel_rfl) (fun v hv => by go_simp) ?_
                simp only [Act.put, List.setIfInBounds_toArray, List.set_cons_zero, List.set_cons_succ]
                refine wqv (u := .pointer (some ⟨w.heap.size + 1 + 1, 5, none⟩)) (by kernel_rfl) (fun v hv => by go_simp) ?_
                simp only [Act.put, List.setIfInBounds_toArray, List.set_cons_zero, List.set_cons_succ]
                refine wqv (u := .slice X.s.a X.s.D.length X.s.c) (by kernel_rfl) (fun v hv => by obtain ⟨⟨y0, y1, y2, y3, y4, y5⟩, b0, b1, b2, b3, b4, b5⟩ := KS.out v hv; go_simp) ?_
                simp only [Act.put, List.setIfInBounds_toArray, List.set_cons_zero, List.set_cons_succ]
                refine wqv (u := .int .i64 (X.s.D.length : Int)) (by kernel_rfl) (fun v hv => by go_simp) ?_
                simp only [Act.put, List.setIfInBounds_toArray, List.set_cons_zero, List.set_cons_succ]
                refine wqv (u := .bool true) (by kernel_rfl) (fun v hv => by go_simp) ?_
                simp only [Act.put, List.setIfInBounds_toArray, List.set_cons_zero, List.set_cons_succ]
                refine wqv (u := .bool true) (by kernel_rfl) (fun v hv => by kernel_rfl) ?_
                simp only [Act.put, List.setIfInBounds_toArray, List.set_cons_zero, List.set_cons_succ]
                refine wqv (u := .bool true) (by kernel_rfl) (fun v hv => by kernel_rfl) ?_
                simp only [Act.put, List.setIfInBounds_toArray, List.set_cons_zero, List.set_cons_succ]
                refine wqv (u := .slice (some ⟨q, o, none⟩) n k) (by kernel_rfl) (fun v hv => by kernel_rfl) ?_
                simp only [Act.put, List.setIfInBounds_toArray, List.set_cons_zero, List.set_cons_succ]
                refine wqv (u := .int .i64 (j : Int)) (by kernel_rfl) (fun v hv => by kernel_rfl) ?_
                simp only [Act.put, List.setIfInBounds_toArray, List.set_cons_zero, List.set_cons_succ]
                refine wqv (u := .pointer (some ⟨q, o + j * 6, none⟩)) (by kernel_rfl) (fun v hv => by go_simp) ?_
                simp only [Act.put, List.setIfInBounds_toArray, List.set_cons_zero, List.set_cons_succ]
                refine wqv (u := .pointer (some ⟨q, o + j * 6, none⟩)) (by kernel_rfl) (fun v hv => by go_simp) ?_
                simp only [Act.put, List.setIfInBounds_toArray, List.set_cons_zero, List.set_cons_succ]
                refine wqv (u := .int .i64 y.n) (by kernel_rfl) (fun v hv => by obtain ⟨⟨y0, y1, y2, y3, y4, y5⟩, b0, b1, b2, b3, b4, b5⟩ := KS.out v hv; go_simp) ?_
                simp only [Act.put, List.setIfInBounds_toArray, List.set_cons_zero, List.set_cons_succ]
                refine wqv (u := .pointer (some ⟨w.heap.size + 1 + 1, 0, none⟩)) (by kernel_rfl) (fun v hv => by go_simp) ?_
                simp only [Act.put, List.setIfInBounds_toArray, List.set_cons_zero, List.set_cons_succ]
                refine wqv (u := .int .i64 X.n) (by kernel_rfl) (fun v hv => by obtain ⟨⟨y0, y1, y2, y3, y4, y5⟩, b0, b1, b2, b3, b4, b5⟩ := KS.out v hv; go_simp) ?_
                simp only [Act.put, List.setIfInBounds_toArray, List.set_cons_zero, List.set_cons_succ]
                refine wqv (u := .bool false) (by kernel_rfl) (fun v hv => by go_simp) ?_
                simp only [Act.put, List.setIfInBounds_toArray, List.set_cons_zero, List.set_cons_succ]
                refine wqv (u := .bool false) (by kernel_rfl) (fun v hv => by kernel_rfl) ?_
                simp only [Act.put, List.setIfInBounds_toArray, List.set_cons_zero, List.set_cons_succ]
                refine wqv (u := .bool false) (by kernel_rfl) (fun v hv => by kernel_rfl) ?_
                simp only [Act.put, List.setIfInBounds_toArray, List.set_cons_zero, List.set_cons_succ]
                refine wqnil (fun w2 hv => ?_)
                obtain ⟨⟨y0, y1, y2, y3, y4, y5⟩, _⟩ := KS.out w2 hv
                have OB2 := hide (hOB.out.grow hv)
                have D2 := hide (hBL.out.trans (hv.mono zr))
                have s2 := hv.size
                clear hv
                by_cases hm : m < y.c
                · have hCM2 : Hid (CM = comB y.c (L.drop (j + 1))) := by show _ = _; rw [hCM1.out, if_pos hm]
                  go_wp2
                  go_round
                  case rel => exact ⟨j + 1, y.c, X, by go_num, by omega, rfl, OB2, hXL2, hBE2, hCM2, D2⟩
                  case measure => first | (simp [intOf]; done) | (simp [intOf]; omega)
                · have hCM2 : Hid (CM = comB m (L.drop (j + 1))) := by show _ = _; rw [hCM1.out, if_neg hm]
                  go_wp2
                  go_round
                  case rel => exact ⟨j + 1, m, X, by go_num, by omega, rfl, OB2, hXL2, hBE2, hCM2, D2⟩
                  case measure => first | (simp [intOf]; done) | (simp [intOf]; omega)
            · have hb2 : ((y.s.D.length : Int) == (X.s.D.length : Int)) = false := beq_eq_false_iff_ne.2 (by omega)
              have HCL := hide (cho_less HMR.out (fun h => he2 h.2))
              have HNE := hide he2
              clear he1 he2
              have hBE2 : Hid (BE = bestB X (L.drop (j + 1))) := by show _ = _; rw [hBE1.out, if_neg (by rw [HCL.out]; decide)]
              have hXL2 : Hid (X = x0 ∨ X ∈ L) := hXL
              go_wp2_with fail
              refine region_q9 (C := fun v => Below wr.heap.size wr v) (by kernel_rfl) (by kernel_rfl) (Below.refl _ _).drew ?_
              refine wqv (u := .slice (some ⟨q, o, none⟩) n k) (by kernel_rfl) (fun v hv => by kernel_rfl) ?_
              simp only [Act.put, List.setIfInBounds_toArray, List.set_cons_zero, List.set_cons_succ]
              refine wqv (u := .int .i64 (j : Int)) (by kernel_rfl) (fun v hv => by kernel_rfl) ?_
              simp only [Act.put, List.setIfInBounds_toArray, List.set_cons_zero, List.set_cons_succ]
              refine wqv (u := .pointer (some ⟨q, o + j * 6, none⟩)) (by kernel_rfl) (fun v hv => by go_simp) ?_
              simp only [Act.put, List.setIfInBounds_toArray, List.set_cons_zero, List.set_cons_succ]
              refine wqv (u := .pointer (some ⟨q, o + j * 6 + 3, none⟩)) (by kernel_rfl) (fun v hv => by go_simp) ?_
              simp only [Act.put, List.setIfInBounds_toArray, List.set_cons_zero, List.set_cons_succ]
              refine wqv (u := .int .i64 y.v) (by kernel_rfl) (fun v hv => by obtain ⟨⟨y0, y1, y2, y3, y4, y5⟩, b0, b1, b2, b3, b4, b5⟩ := KS.out v hv; go_simp) ?_
              simp only [Act.put, List.setIfInBounds_toArray, List.set_cons_zero, List.set_cons_succ]
              refine wqv (u := .slice (some ⟨q, o, none⟩) n k) (by kernel_rfl) (fun v hv => by kernel_rfl) ?_
              simp only [Act.put, List.setIfInBounds_toArray, List.set_cons_zero, List.set_cons_succ]
              refine wqv (u := .int .i64 (j : Int)) (by kernel_rfl) (fun v hv => by kernel_rfl) ?_
              simp only [Act.put, List.setIfInBounds_toArray, List.set_cons_zero, List.set_cons_succ]
              refine wqv (u := .pointer (some ⟨q, o + j * 6, none⟩)) (by kernel_rfl) (fun v hv => by go_simp) ?_
              simp only [Act.put, List.setIfInBounds_toArray, List.set_cons_zero, List.set_cons_succ]
              refine wqv (u := .pointer (some ⟨q, o + j * 6 + 5, none⟩)) (by kernel_rfl) (fun v hv => by go_simp) ?_
              simp only [Act.put, List.setIfInBounds_toArray, List.set_cons_zero, List.set_cons_succ]
              refine wqv (u := .slice y.s.a y.s.D.length y.s.c) (by kernel_rfl) (fun v hv => by obtain ⟨⟨y0, y1, y2, y3, y4, y5⟩, b0, b1, b2, b3, b4, b5⟩ := KS.out v hv; go_simp) ?_
              simp only [Act.put, List.setIfInBounds_toArray, List.set_cons_zero, List.set_cons_succ]
              refine wqv (u := .int .i64 (y.s.D.length : Int)) (by kernel_rfl) (fun v hv => by go_simp) ?_
              simp only [Act.put, List.setIfInBounds_toArray, List.set_cons_zero, List.set_cons_succ]
              refine wqv (u := .pointer (some ⟨w.heap.size + 1 + 1, 3, none⟩)) (by kernel_rfl) (fun v hv => by go_simp) ?_
              simp only [Act.put, List.setIfInBounds_toArray, List.set_cons_zero, List.set_cons_succ]
              refine wqv (u := .int .i64 X.v) (by kernel_rfl) (fun v hv => by obtain ⟨⟨y0, y1, y2, y3, y4, y5⟩, b0, b1, b2, b3, b4, b5⟩ := KS.out v hv; go_simp) ?_
              simp only [Act.put, List.setIfInBounds_toArray, List.set_cons_zero, List.set_cons_succ]
              refine wqv (u := .pointer (some ⟨w.heap.size + 1 + 1, 5, none⟩)) (by kernel_rfl) (fun v hv => by go_simp) ?_
              simp only [Act.put, List.setIfInBounds_toArray, List.set_cons_zero, List.set_cons_succ]
              refine wqv (u := .slice X.s.a X.s.D.length X.s.c) (by kernel_rfl) (fun v hv => by obtain ⟨⟨y0, y1, y2, y3, y4, y5⟩, b0, b1, b2, b3, b4, b5⟩ := KS.out v hv; go_simp) ?_
              simp only [Act.put, List.setIfInBounds_toArray, List.set_cons_zero, List.set_cons_succ]
              refine wqv (u := .int .i64 (X.s.D.length : Int)) (by kernel_rfl) (fun v hv => by go_simp) ?_
              simp only [Act.put, List.setIfInBounds_toArray, List.set_cons_zero, List.set_cons_succ]
              refine wqc (fid := 72) (args := #[.int .i64 y.v, .int .i64 (y.s.D.length : Int), .int .i64 (-1), .int .i64 X.v, .int .i64 (X.s.D.length : Int), .int .i64 (-1)]) (u := .bool false) (by kernel_rfl) (fun v => by kernel_rfl) (fun v hv => (cm.out v).mono fun e w2 h => ⟨h.1, h.2 ▸ hv⟩) ?_
              simp only [Act.put, List.setIfInBounds_toArray, List.set_cons_zero, List.set_cons_succ]
              refine wqv (u := .bool false) (by kernel_rfl) (fun v hv => by kernel_rfl) ?_
              simp only [Act.put, List.setIfInBounds_toArray, List.set_cons_zero, List.set_cons_succ]
              refine wqv (u := .slice (some ⟨q, o, none⟩) n k) (by kernel_rfl) (fun v hv => by kernel_rfl) ?_
              simp only [Act.put, List.setIfInBounds_toArray, List.set_cons_zero, List.set_cons_succ]
              refine wqv (u := .int .i64 (j : Int)) (by kernel_rfl) (fun v hv => by kernel_rfl) ?_
              simp only [Act.put, List.setIfInBounds_toArray, List.set_cons_zero, List.set_cons_succ]
              refine wqv (u := .pointer (some ⟨q, o + j * 6, none⟩)) (by kernel_rfl) (fun v hv => by go_simp) ?_
              simp only [Act.put, List.setIfInBounds_toArray, List.set_cons_zero, List.set_cons_succ]
              refine wqv (u := .pointer (some ⟨q, o + j * 6 + 3, none⟩)) (by kernel_rfl) (fun v hv => by go_simp) ?_
              simp only [Act.put, List.setIfInBounds_toArray, List.set_cons_zero, List.set_cons_succ]
              refine wqv (u := .int .i64 y.v) (by kernel_rfl) (fun v hv => by obtain ⟨⟨y0, y1, y2, y3, y4, y5⟩, b0, b1, b2, b3, b4, b5⟩ := KS.out v hv; go_simp) ?_
              simp only [Act.put, List.setIfInBounds_toArray, List.set_cons_zero, List.set_cons_succ]
              refine wqv (u := .pointer (some ⟨w.heap.size + 1 + 1, 3, none⟩)) (by kernel_rfl) (fun v hv => by go_simp) ?_
              simp only [Act.put, List.setIfInBounds_toArray, List.set_cons_zero, List.set_cons_succ]
              refine wqv (u := .int .i64 X.v) (by kernel_rfl) (fun v hv => by obtain ⟨⟨y0, y1, y2, y3, y4, y5⟩, b0, b1, b2, b3, b4, b5⟩ := KS.out v hv; go_simp) ?_
              simp only [Act.put, List.setIfInBounds_toArray, List.set_cons_zero, List.set_cons_succ]
              refine wqv (u := .bool true) (by kernel_rfl) (fun v hv => by go_simp) ?_
              simp only [Act.put, List.setIfInBounds_toArray, List.set_cons_zero, List.set_cons_succ]
              refine wqv (u := .bool true) (by kernel_rfl) (fun v hv => by kernel_rfl) ?_
              simp only [Act.put, List.setIfInBounds_toArray, List.set_cons_zero, List.set_cons_succ]
              refine wqv (u := .slice (some ⟨q, o, none⟩) n k) (by kernel_rfl) (fun v hv => by kernel_rfl) ?_
              simp only [Act.put, List.setIfInBounds_toArray, List.set_cons_zero, List.set_cons_succ]
              refine wqv (u := .int .i64 (j : Int)) (by kernel_rfl) (fun v hv => by kernel_rfl) ?_
              simp only [Act.put, List.setIfInBounds_toArray, List.set_cons_zero, List.set_cons_succ]
              refine wqv (u := .pointer (some ⟨q, o + j * 6, none⟩)) (by kernel_rfl) (fun v hv => by go_simp) ?_
              simp only [Act.put, List.setIfInBounds_toArray, List.set_cons_zero, List.set_cons_succ]
              refine wqv (u := .pointer (some ⟨q, o + j * 6 + 5, none⟩)) (by kernel_rfl) (fun v hv => by go_simp) ?_
              simp only [Act.put, List.setIfInBounds_toArray, List.set_cons_zero, List.set_cons_succ]
              refine wqv (u := .slice y.s.a y.s.D.length y.s.c) (by kernel_rfl) (fun v hv => by obtain ⟨⟨y0, y1, y2, y3, y4, y5⟩, b0, b1, b2, b3, b4, b5⟩ := KS.out v hv; go_simp) ?_
              simp only [Act.put, List.setIfInBounds_toArray, List.set_cons_zero, List.set_cons_succ]
              refine wqv (u := .int .i64 (y.s.D.length : Int)) (by kernel_rfl) (fun v hv => by go_simp) ?_
              simp only [Act.put, List.setIfInBounds_toArray, List.set_cons_zero, List.set_cons_succ]
              refine wqv (u := .pointer (some ⟨w.heap.size + 1 + 1, 5, none⟩)) (by kernel_rfl) (fun v hv => by go_simp) ?_
              simp only [Act.put, List.setIfInBounds_toArray, List.set_cons_zero, List.set_cons_succ]
              refine wqv (u := .slice X.s.a X.s.D.length X.s.c) (by kernel_rfl) (fun v hv => by obtain ⟨⟨y0, y1, y2, y3, y4, y5⟩, b0, b1, b2, b3, b4, b5⟩ := KS.out v hv; go_simp) ?_
              simp only [Act.put, List.setIfInBounds_toArray, List.set_cons_zero, List.set_cons_succ]
              refine wqv (u := .int .i64 (X.s.D.length : Int)) (by kernel_rfl) (fun v hv => by go_simp) ?_
              simp only [Act.put, List.setIfInBounds_toArray, List.set_cons_zero, List.set_cons_succ]
              refine wqv (u := .bool false) (by kernel_rfl) (fun v hv => by go_simp) ?_
              simp only [Act.put, List.setIfInBounds_toArray, List.set_cons_zero, List.set_cons_succ]
              refine wqv (u := .bool false) (by kernel_rfl) (fun v hv => by kernel_rfl) ?_
              simp only [Act.put, List.setIfInBounds_toArray, List.set_cons_zero, List.set_cons_succ]
              refine wqv (u := .bool false) (by kernel_rfl) (fun v hv => by kernel_rfl) ?_
              simp only [Act.put, List.setIfInBounds_toArray, List.set_cons_zero, List.set_cons_succ]
              refine wqskip (by kernel_rfl) ?_
              simp only [Act.put, List.setIfInBounds_toArray, List.set_cons_zero, List.set_cons_succ]
              refine wqskip (by kernel_rfl) ?_
              simp only [Act.put, List.setIfInBounds_toArray, List.set_cons_zero, List.set_cons_succ]
              refine wqskip (by kernel_rfl) ?_
              simp only [Act.put, List.setIfInBounds_toArray, List.set_cons_zero, List.set_cons_succ]
              refine wqskip (by kernel_rfl) ?_
              simp only [Act.put, List.setIfInBounds_toArray, List.set_cons_zero, List.set_cons_succ]
              refine wqskip (by kernel_rfl) ?_
              simp only [Act.put, List.setIfInBounds_toArray, List.set_cons_zero, List.set_cons_succ]
              refine wqskip (by kernel_rfl) ?_
              simp only [Act.put, List.setIfInBounds_toArray, List.set_cons_zero, List.set_cons_succ]
              refine wqskip (by kernel_rfl) ?_
              simp only [Act.put, List.setIfInBounds_toArray, List.set_cons_zero, List.set_cons_succ]
              refine wqskip (by kernel_rfl) ?_
              simp only [Act.put, List.setIfInBounds_toArray, List.set_cons_zero, List.set_cons_succ]
              refine wqv (u := .bool false) (by kernel_rfl) (fun v hv => by kernel_rfl) ?_
              simp only [Act.put, List.setIfInBounds_toArray, List.set_cons_zero, List.set_cons_succ]
              refine wqv (u := .bool false) (by kernel_rfl) (fun v hv => by kernel_rfl) ?_
              simp only [Act.put, List.setIfInBounds_toArray, List.set_cons_zero, List.set_cons_succ]
              refine wqnil (fun w2 hv => ?_)
              obtain ⟨⟨y0, y1, y2, y3, y4, y5⟩, _⟩ := KS.out w2 hv
              have OB2 := hide (hOB.out.grow hv)
              have D2 := hide (hBL.out.trans (hv.mono zr))
              have s2 := hv.size
              clear hv
              by_cases hm : m < y.c
              · have hCM2 : Hid (CM = comB y.c (L.drop (j + 1))) := by show _ = _; rw [hCM1.out, if_pos hm]
                go_wp2
                go_round
                case rel => exact ⟨j + 1, y.c, X, by go_num, by omega, rfl, OB2, hXL2, hBE2, hCM2, D2⟩
                case measure => first | (simp [intOf]; done) | (simp [intOf]; omega)
              · have hCM2 : Hid (CM = comB m (L.drop (j + 1))) := by show _ = _; rw [hCM1.out, if_neg hm]
                go_wp2
                go_round
                case rel => exact ⟨j + 1, m, X, by go_num, by omega, rfl, OB2, hXL2, hBE2, hCM2, D2⟩
                case measure => first | (simp [intOf]; done) | (simp [intOf]; omega)
          · have hb1 : (y.v == X.v) = false := by simp [he1]
            have HCL := hide (cho_less HMR.out (fun h => he1 h.1))
            have HNE := hide he1
            clear he1
            have hBE2 : Hid (BE = bestB X (L.drop (j + 1))) := by show _ = _; rw [hBE1.out, if_neg (by rw [HCL.out]; decide)]
            have hXL2 : Hid (X = x0 ∨ X ∈ L) := hXL
            go_wp2_with fail
            refine region_q9 (C := fun v => Below wr.heap.size wr v) (by kernel_rfl) (by kernel_rfl) (Below.refl _ _).drew ?_
            refine wqv (u := .slice (some ⟨q, o, none⟩) n k) (by kernel_rfl) (fun v hv => by kernel_rfl) ?_
            simp only [Act.put, List.setIfInBounds_toArray, List.set_cons_zero, List.set_cons_succ]
            refine wqv (u := .int .i64 (j : Int)) (by kernel_rfl) (fun v hv => by kernel_rfl) ?_
            simp only [Act.put, List.setIfInBounds_toArray, List.set_cons_zero, List.set_cons_succ]
            refine wqv (u := .pointer (some ⟨q, o + j * 6, none⟩)) (by kernel_rfl) (fun v hv => by go_simp) ?_
            simp only [Act.put, List.setIfInBounds_toArray, List.set_cons_zero, List.set_cons_succ]
            refine wqv (u := .pointer (some ⟨q, o + j * 6 + 3, none⟩)) (by kernel_rfl) (fun v hv => by go_simp) ?_
            simp only [Act.put, List.setIfInBounds_toArray, List.set_cons_zero, List.set_cons_succ]
            refine wqv (u := .int .i64 y.v) (by kernel_rfl) (fun v hv => by obtain ⟨⟨y0, y1, y2, y3, y4, y5⟩, b0, b1, b2, b3, b4, b5⟩ := KS.out v hv; go_simp) ?_
            simp only [Act.put, List.setIfInBounds_toArray, List.set_cons_zero, List.set_cons_succ]
            refine wqv (u := .slice (some ⟨q, o, none⟩) n k) (by kernel_rfl) (fun v hv => by kernel_rfl) ?_
            simp only [Act.put, List.setIfInBounds_toArray, List.set_cons_zero, List.set_cons_succ]
            refine wqv (u := .int .i64 (j : Int)) (by kernel_rfl) (fun v hv => by kernel_rfl) ?_
            simp only [Act.put, List.setIfInBounds_toArray, List.set_cons_zero, List.set_cons_succ]
            refine wqv (u := .pointer (some ⟨q, o + j * 6, none⟩)) (by kernel_rfl) (fun v hv => by go_simp) ?_
            simp only [Act.put, List.setIfInBounds_toArray, List.set_cons_zero, List.set_cons_succ]
            refine wqv (u := .pointer (some ⟨q, o + j * 6 + 5, none⟩)) (by kernel_rfl) (fun v hv => by go_simp) ?_
            simp only [Act.put, List.setIfInBounds_toArray, List.set_cons_zero, List.set_cons_succ]
            refine wqv (u := .slice y.s.a y.s.D.length y.s.c) (by kernel_rfl) (fun v hv => by obtain ⟨⟨y0, y1, y2, y3, y4, y5⟩, b0, b1, b2, b3, b4, b5⟩ := KS.out v hv; go_simp) ?_
            simp only [Act.put, List.setIfInBounds_toArray, List.set_cons_zero, List.set_cons_succ]
            refine wqv (u := .int .i64 (y.s.D.length : Int)) (by kernel_rfl) (fun v hv => by go_simp) ?_
            simp only [Act.put, List.setIfInBounds_toArray, List.set_cons_zero, List.set_cons_succ]
            refine wqv (u := .pointer (some ⟨w.heap.size + 1 + 1, 3, none⟩)) (by kernel_rfl) (fun v hv => by go_simp) ?_
            simp only [Act.put, List.setIfInBounds_toArray, List.set_cons_zero, List.set_cons_succ]
            refine wqv (u := .int .i64 X.v) (by kernel_rfl) (fun v hv => by obtain ⟨⟨y0, y1, y2, y3, y4, y5⟩, b0, b1, b2, b3, b4, b5⟩ := KS.out v hv; go_simp) ?_
            simp only [Act.put, List.setIfInBounds_toArray, List.set_cons_zero, List.set_cons_succ]
            refine wqv (u := .pointer (some ⟨w.heap.size + 1 + 1, 5, none⟩)) (by kernel_rfl) (fun v hv => by go_simp) ?_
            simp only [Act.put, List.setIfInBounds_toArray, List.set_cons_zero, List.set_cons_succ]
            refine wqv (u := .slice X.s.a X.s.D.length X.s.c) (by kernel_rfl) (fun v hv => by obtain ⟨⟨y0, y1, y2, y3, y4, y5⟩, b0, b1, b2, b3, b4, b5⟩ := KS.out v hv; go_simp) ?_
            simp only [Act.put, List.setIfInBounds_toArray, List.set_cons_zero, List.set_cons_succ]
            refine wqv (u := .int .i64 (X.s.D.length : Int)) (by kernel_rfl) (fun v hv => by go_simp) ?_
            simp only [Act.put, List.setIfInBounds_toArray, List.set_cons_zero, List.set_cons_succ]
            refine wqc (fid := 72) (args := #[.int .i64 y.v, .int .i64 (y.s.D.length : Int), .int .i64 (-1), .int .i64 X.v, .int .i64 (X.s.D.length : Int), .int .i64 (-1)]) (u := .bool false) (by kernel_rfl) (fun v => by kernel_rfl) (fun v hv => (cm.out v).mono fun e w2 h => ⟨h.1, h.2 ▸ hv⟩) ?_
            simp only [Act.put, List.setIfInBounds_toArray, List.set_cons_zero, List.set_cons_succ]
            refine wqv (u := .bool false) (by kernel_rfl) (fun v hv => by kernel_rfl) ?_
            simp only [Act.put, List.setIfInBounds_toArray, List.set_cons_zero, List.set_cons_succ]
            refine wqv (u := .slice (some ⟨q, o, none⟩) n k) (by kernel_rfl) (fun v hv => by kernel_rfl) ?_
            simp only [Act.put, List.setIfInBounds_toArray, List.set_cons_zero, List.set_cons_succ]
            refine wqv (u := .int .i64 (j : Int)) (by kernel_rfl) (fun v hv => by kernel_rfl) ?_
            simp only [Act.put, List.setIfInBounds_toArray, List.set_cons_zero, List.set_cons_succ]
            refine wqv (u := .pointer (some ⟨q, o + j * 6, none⟩)) (by kernel_rfl) (fun v hv => by go_simp) ?_
            simp only [Act.put, List.setIfInBounds_toArray, List.set_cons_zero, List.set_cons_succ]
            refine wqv (u := .pointer (some ⟨q, o + j * 6 + 3, none⟩)) (by kernel_rfl) (fun v hv => by go_simp) ?_
            simp only [Act.put, List.setIfInBounds_toArray, List.set_cons_zero, List.set_cons_succ]
            refine wqv (u := .int .i64 y.v) (by kernel_rfl) (fun v hv => by obtain ⟨⟨y0, y1, y2, y3, y4, y5⟩, b0, b1, b2, b3, b4, b5⟩ := KS.out v hv; go_simp) ?_
            simp only [Act.put, List.setIfInBounds_toArray, List.set_cons_zero, List.set_cons_succ]
            refine wqv (u := .pointer (some ⟨w.heap.size + 1 + 1, 3, none⟩)) (by kernel_rfl) (fun v hv => by go_simp) ?_
            simp only [Act.put, List.setIfInBounds_toArray, List.set_cons_zero, List.set_cons_succ]
            refine wqv (u := .int .i64 X.v) (by kernel_rfl) (fun v hv => by obtain ⟨⟨y0, y1, y2, y3, y4, y5⟩, b0, b1, b2, b3, b4, b5⟩ := KS.out v hv; go_simp) ?_
            simp only [Act.put, List.setIfInBounds_toArray, List.set_cons_zero, List.set_cons_succ]
            refine wqv (u := .bool false) (by kernel_rfl) (fun v hv => by go_simp) ?_
            simp only [Act.put, List.setIfInBounds_toArray, List.set_cons_zero, List.set_cons_succ]
            refine wqv (u := .bool false) (by kernel_rfl) (fun v hv => by kernel_rfl) ?_
            simp only [Act.put, List.setIfInBounds_toArray, List.set_cons_zero, List.set_cons_succ]
            refine wqskip (by kernel_rfl) ?_
            simp only [Act.put, List.setIfInBounds_toArray, List.set_cons_zero, List.set_cons_succ]
            refine wqskip (by kernel_rfl) ?_
            simp only [Act.put, List.setIfInBounds_toArray, List.set_cons_zero, List.set_cons_succ]
            refine wqskip (by kernel_rfl) ?_
            simp only [Act.put, List.setIfInBounds_toArray, List.set_cons_zero, List.set_cons_succ]
            refine wqskip (by kernel_rfl) ?_
            simp only [Act.put, List.setIfInBounds_toArray, List.set_cons_zero, List.set_cons_succ]
            refine wqskip (by kernel_rfl) ?_
            simp only [Act.put, List.setIfInBounds_toArray, List.set_cons_zero, List.set_cons_succ]
            refine wqskip (by kernel_rfl) ?_
            simp only [Act.put, List.setIfInBounds_toArray, List.set_cons_zero, List.set_cons_succ]
            refine wqskip (by kernel_rfl) ?_
            simp only [Act.put, List.setIfInBounds_toArray, List.set_cons_zero, List.set_cons_succ]
            refine wqskip (by kernel_rfl) ?_
            simp only [Act.put, List.setIfInBounds_toArray, List.set_cons_zero, List.set_cons_succ]
            refine wqskip (by kernel_rfl) ?_
            simp only [Act.put, List.setIfInBounds_toArray, List.set_cons_zero, List.set_cons_succ]
            refine wqskip (by kernel_rfl) ?_
            simp only [Act.put, List.setIfInBounds_toArray, List.set_cons_zero, List.set_cons_succ]
            refine wqv (u := .bool false) (by kernel_rfl) (fun v hv => by kernel_rfl) ?_
            simp only [Act.put, List.setIfInBounds_toArray, List.set_cons_zero, List.set_cons_succ]
            refine wqv (u := .bool false) (by kernel_rfl) (fun v hv => by kernel_rfl) ?_
            simp only [Act.put, List.setIfInBounds_toArray, List.set_cons_zero, List.set_cons_succ]
            refine wqskip (by kernel_rfl) ?_
            simp only [Act.put, List.setIfInBounds_toArray, List.set_cons_zero, List.set_cons_succ]
            refine wqskip (by kernel_rfl) ?_
            simp only [Act.put, List.setIfInBounds_toArray, List.set_cons_zero, List.set_cons_succ]
            refine wqskip (by kernel_rfl) ?_
            simp only [Act.put, List.setIfInBounds_toArray, List.set_cons_zero, List.set_cons_succ]
            refine wqskip (by kernel_rfl) ?_
            simp only [Act.put, List.setIfInBounds_toArray, List.set_cons_zero, List.set_cons_succ]
            refine wqskip (by kernel_rfl) ?_
            simp only [Act.put, List.setIfInBounds_toArray, List.set_cons_zero, List.set_cons_succ]
            refine wqskip (by kernel_rfl) ?_
            simp only [Act.put, List.setIfInBounds_toArray, List.set_cons_zero, List.set_cons_succ]
            refine wqskip (by kernel_rfl) ?_
            simp only [Act.put, List.setIfInBounds_toArray, List.set_cons_zero, List.set_cons_succ]
            refine wqskip (by kernel_rfl) ?_
            simp only [Act.put, List.setIfInBounds_toArray, List.set_cons_zero, List.set_cons_succ]
            refine wqv (u := .bool false) (by kernel_rfl) (fun v hv => by kernel_rfl) ?_
            simp only [Act.put, List.setIfInBounds_toArray, List.set_cons_zero, List.set_cons_succ]
            refine wqv (u := .bool false) (by kernel_rfl) (fun v hv => by kernel_rfl) ?_
            simp only [Act.put, List.setIfInBounds_toArray, List.set_cons_zero, List.set_cons_succ]
            refine wqnil (fun w2 hv => ?_)
            obtain ⟨⟨y0, y1, y2, y3, y4, y5⟩, _⟩ := KS.out w2 hv
            have OB2 := hide (hOB.out.grow hv)
            have D2 := hide (hBL.out.trans (hv.mono zr))
            have s2 := hv.size
            clear hv
            by_cases hm : m < y.c
            · have hCM2 : Hid (CM = comB y.c (L.drop (j + 1))) := by show _ = _; rw [hCM1.out, if_pos hm]
              go_wp2
              go_round
              case rel => exact ⟨j + 1, y.c, X, by go_num, by omega, rfl, OB2, hXL2, hBE2, hCM2, D2⟩
              case measure => first | (simp [intOf]; done) | (simp [intOf]; omega)
            · have hCM2 : Hid (CM = comB m (L.drop (j + 1))) := by show _ = _; rw [hCM1.out, if_neg hm]
              go_wp2
              go_round
              case rel => exact ⟨j + 1, m, X, by go_num, by omega, rfl, OB2, hXL2, hBE2, hCM2, D2⟩
              case measure => first | (simp [intOf]; done) | (simp [intOf]; omega)
      · obtain rfl : j = n := by omega
        have hBE1 : Hid (BE = X) := by show _ = _; rw [hBE.out, List.drop_of_length_le (by rw [HN.out]; exact Nat.le_refl _), bestB]
        have hCO1 : Hid (CM = m) := by show _ = _; rw [hCM.out, List.drop_of_length_le (by rw [HN.out]; exact Nat.le_refl _), comB]
        have HIN : Hid (X.In w ∧ X.s.D.length * 48 ≤ 140737488351232) := by
          show _ ∧ _
          rcases hXL.out with e | e
          · rw [e]; exact H0.out
          · exact HLL.out _ e
        have HCH2 : Hid (chs x0 L = { X with c := max 0 (min m (X.s.D.length : Int)) }) := by show _ = _; rw [HCH.out, hBE1.out, hCO1.out]
        clear hBE hCM HCH hBE1 hCO1 hBE0 hCM0 hXL
        have hx9 : (X.s.D.length : Int) ≤ 9223372036854775807 := by have h3 := HIN.out.1.1; have := h3.cap; have h2 := h3.max; unfold maxLen at h2; omega
        have b5 := hOB.out.cell kBlA 0 _ rfl 5 _ rfl
        simp only [Nat.zero_mul, Nat.zero_add] at b5
        by_cases hc1 : (X.s.D.length : Int) < m
        · have HCH3 : Hid (chs x0 L = { X with c := (X.s.D.length : Int) }) := by show _ = _; rw [HCH2.out, show max 0 (min m (X.s.D.length : Int)) = (X.s.D.length : Int) by omega]
          have hnn : ¬ ((X.s.D.length : Int) < 0) := by omega
          clear HCH2
          have OBR := hide (OB0.out.grow (show Below w0.heap.size w0 _ by rw [hwz.out]; exact hBL.out))
          go_wp2_with (refine storeY kBlA _ rfl 3 (.tmp 101) (.tmp 100) rfl (w.heap.size + 1 + 1) (w.heap.size + 1 + 1) 1 1 [X] 0 4 X { X with c := (X.s.D.length : Int) } _ rfl rfl rfl (by kernel_rfl) (by exact (by decide : 5 ≤ 6)) rfl hOB.out ?_)
          intro w3 o3 u3 z3
          have OB3 := hide o3
          have D3 := hide (hBL.out.trans (u3.below zr (fun k e => by subst e; exact Nat.le_refl _)))
          have OR3 := hide (OBR.out.upd1 u3 (fun g e hc => by cases e; have h1 : w.heap.size + 1 = w.heap.size + 1 + 1 := hc; omega))
          have Z3 : Hid (w.heap.size + 1 + 1 ≤ w3.heap.size) := by show _ ≤ _; rw [z3]; exact zr
          have Z3b : Hid (w.heap.size + 1 + 1 < w3.heap.size) := (o3.blk _ rfl).2
          clear o3 u3 z3 OBR hOB
          have t5 := OB3.out.cell kBlA 0 _ rfl 5 _ rfl
          simp only [Nat.zero_mul, Nat.zero_add] at t5
          have CC := hide (refcopy6_any X.s.D X.s.a X.s.D.length X.s.c w3 (HIN.out.1.later (B0.out.trans (D3.out.mono (by omega)))).1 (by have := HIN.out.2; omega))
          go_wp2_with fail
          refine CC.out.mono ?_
          rintro e w4 ⟨v4, rfl, o4, b4⟩
          obtain ⟨a4, c4, rfl, _, _⟩ := o4.sl kE
          have OE4 := hide o4
          have OB4 := hide (OB3.out.grow b4)
          have OR4 := hide (OR3.out.grow b4)
          have D4 := hide (D3.out.trans (b4.mono Z3.out))
          have Z4 : Hid (w.heap.size + 1 + 1 ≤ w4.heap.size) := Nat.le_trans Z3.out b4.size
          clear CC o4 b4 t5 OB3 OR3
          dsimp only
          go_wp2_with (refine storeY kBlA _ rfl 51 (.tmp 105) (.tmp 104) rfl (w.heap.size + 1 + 1) (w.heap.size + 1 + 1) 1 1 [{ X with c := (X.s.D.length : Int) }] 0 5 { X with c := (X.s.D.length : Int) } { X with c := (X.s.D.length : Int), s := ⟨a4, c4, X.s.D⟩ } _ rfl rfl rfl (by kernel_rfl) (by exact (by decide : 6 ≤ 6)) rfl OB4.out ?_)
          intro w5 o5 u5 z5
          have D5 := hide (D4.out.trans (u5.below Z4.out (fun k e => by subst e; exact Nat.le_refl _)))
          have OR5 := hide (OR4.out.upd1 u5 (fun g e hc => by cases e; have h1 : w.heap.size + 1 = w.heap.size + 1 + 1 := hc; omega))
          have OE5 := hide (OE4.out.upd1 u5 (fun g e hc => by have h1 := (OE4.out.blk g e).1; have h2 : g = w.heap.size + 1 + 1 := hc; have h3 := Z3b.out; omega))
          have v0 := o5.cell kBlA 0 _ rfl 0 _ rfl
          have v1 := o5.cell kBlA 0 _ rfl 1 _ rfl
          have v2 := o5.cell kBlA 0 _ rfl 2 _ rfl
          have v3 := o5.cell kBlA 0 _ rfl 3 _ rfl
          have v4 := o5.cell kBlA 0 _ rfl 4 _ rfl
          have v5 := o5.cell kBlA 0 _ rfl 5 _ rfl
          simp only [Nat.zero_mul, Nat.zero_add] at v0 v1 v2 v3 v4 v5
          have Z5 : Hid (w.heap.size + 1 + 1 ≤ w5.heap.size) := by show _ ≤ _; rw [z5]; exact Z4.out
          clear o5 u5 z5 OB4 OR4 OE4
          go_wp2_with (refine storeY kBlA _ rfl 53 (.tmp 6) (.tmp 106) rfl (w.heap.size + 1) (w.heap.size + 1) 1 1 [⟨0, 0, 0, 0, 0, ⟨none, 0, []⟩⟩] 0 0 ⟨0, 0, 0, 0, 0, ⟨none, 0, []⟩⟩ { X with c := (X.s.D.length : Int), s := ⟨a4, c4, X.s.D⟩ } _ rfl rfl rfl (by kernel_rfl) (by exact (by decide : 6 ≤ 6)) rfl OR5.out ?_)
          intro w8 o8 u8 z8
          clear v0 v1 v2 v3 v4 v5
          have v0 := o8.cell kBlA 0 _ rfl 0 _ rfl
          have v1 := o8.cell kBlA 0 _ rfl 1 _ rfl
          have v2 := o8.cell kBlA 0 _ rfl 2 _ rfl
          have v3 := o8.cell kBlA 0 _ rfl 3 _ rfl
          have v4 := o8.cell kBlA 0 _ rfl 4 _ rfl
          have v5 := o8.cell kBlA 0 _ rfl 5 _ rfl
          simp only [Nat.zero_mul, Nat.zero_add] at v0 v1 v2 v3 v4 v5
          have U8 := hide u8
          clear o8 u8
          go_wp2
          refine bodyPost_ret (v := .tuple #[({ X with c := (X.s.D.length : Int), s := ⟨a4, c4, X.s.D⟩ } : Bl).val, .int .i64 0]) (by simp [results, Tryz.results30, go_sem, v0, v1, v2, v3, v4, v5, Bl.val]) rfl ?_
          refine ⟨⟨_, rfl, ?_⟩, (B0.out.trans (D5.out.mono (by omega))).trans (U8.out.below (by have := Z5.out; omega) (fun k e => by subst e; omega))⟩
          rw [HCH3.out]
          refine ⟨⟨rfl, rfl, rfl, rfl, rfl, rfl⟩, ?_, by show X.s.D.length * 48 ≤ _; have := HIN.out.2; omega⟩
          exact (OE5.out.upd1 U8.out (fun g e hc => by have h1 := (OE5.out.blk g e).1; have h2 : g = w.heap.size + 1 := hc; have h3 := Z3.out; omega)).low (by have := Z3.out; omega)
        · by_cases hc2 : m < 0
          · have HCH3 : Hid (chs x0 L = { X with c := 0 }) := by show _ = _; rw [HCH2.out, show max 0 (min m (X.s.D.length : Int)) = 0 by omega]
            clear HCH2
            have OBR := hide (OB0.out.grow (show Below w0.heap.size w0 _ by rw [hwz.out]; exact hBL.out))
            go_wp2_with (refine storeY kBlA _ rfl 3 (.tmp 101) (.tmp 100) rfl (w.heap.size + 1 + 1) (w.heap.size + 1 + 1) 1 1 [X] 0 4 X { X with c := 0 } _ rfl rfl rfl (by kernel_rfl) (by exact (by decide : 5 ≤ 6)) rfl hOB.out ?_)
            intro w3 o3 u3 z3
            have OB3 := hide o3
            have D3 := hide (hBL.out.trans (u3.below zr (fun k e => by subst e; exact Nat.le_refl _)))
            have OR3 := hide (OBR.out.upd1 u3 (fun g e hc => by cases e; have h1 : w.heap.size + 1 = w.heap.size + 1 + 1 := hc; omega))
            have Z3 : Hid (w.heap.size + 1 + 1 ≤ w3.heap.size) := by show _ ≤ _; rw [z3]; exact zr
            have Z3b : Hid (w.heap.size + 1 + 1 < w3.heap.size) := (o3.blk _ rfl).2
            clear o3 u3 z3 OBR hOB
            have t5 := OB3.out.cell kBlA 0 _ rfl 5 _ rfl
            simp only [Nat.zero_mul, Nat.zero_add] at t5
            have CC := hide (refcopy6_any X.s.D X.s.a X.s.D.length X.s.c w3 (HIN.out.1.later (B0.out.trans (D3.out.mono (by omega)))).1 (by have := HIN.out.2; omega))
            go_wp2_with fail
            refine CC.out.mono ?_
            rintro e w4 ⟨v4, rfl, o4, b4⟩
            obtain ⟨a4, c4, rfl, _, _⟩ := o4.sl kE
            have OE4 := hide o4
            have OB4 := hide (OB3.out.grow b4)
            have OR4 := hide (OR3.out.grow b4)
            have D4 := hide (D3.out.trans (b4.mono Z3.out))
            have Z4 : Hid (w.heap.size + 1 + 1 ≤ w4.heap.size) := Nat.le_trans Z3.out b4.size
            clear CC o4 b4 t5 OB3 OR3
            dsimp only
            go_wp2_with (refine storeY kBlA _ rfl 51 (.tmp 105) (.tmp 104) rfl (w.heap.size + 1 + 1) (w.heap.size + 1 + 1) 1 1 [{ X with c := 0 }] 0 5 { X with c := 0 } { X with c := 0, s := ⟨a4, c4, X.s.D⟩ } _ rfl rfl rfl (by kernel_rfl) (by exact (by decide : 6 ≤ 6)) rfl OB4.out ?_)
            intro w5 o5 u5 z5
            have D5 := hide (D4.out.trans (u5.below Z4.out (fun k e => by subst e; exact Nat.le_refl _)))
            have OR5 := hide (OR4.out.upd1 u5 (fun g e hc => by cases e; have h1 : w.heap.size + 1 = w.heap.size + 1 + 1 := hc; omega))
            have OE5 := hide (OE4.out.upd1 u5 (fun g e hc => by have h1 := (OE4.out.blk g e).1; have h2 : g = w.heap.size + 1 + 1 := hc; have h3 := Z3b.out; omega))
            have v0 := o5.cell kBlA 0 _ rfl 0 _ rfl
            have v1 := o5.cell kBlA 0 _ rfl 1 _ rfl
            have v2 := o5.cell kBlA 0 _ rfl 2 _ rfl
            have v3 := o5.cell kBlA 0 _ rfl 3 _ rfl
            have v4 := o5.cell kBlA 0 _ rfl 4 _ rfl
            have v5 := o5.cell kBlA 0 _ rfl 5 _ rfl
            simp only [Nat.zero_mul, Nat.zero_add] at v0 v1 v2 v3 v4 v5
            have Z5 : Hid (w.heap.size + 1 + 1 ≤ w5.heap.size) := by show _ ≤ _; rw [z5]; exact Z4.out
            clear o5 u5 z5 OB4 OR4 OE4
            go_wp2_with (refine storeY kBlA _ rfl 53 (.tmp 6) (.tmp 106) rfl (w.heap.size + 1) (w.heap.size + 1) 1 1 [⟨0, 0, 0, 0, 0, ⟨none, 0, []⟩⟩] 0 0 ⟨0, 0, 0, 0, 0, ⟨none, 0, []⟩⟩ { X with c := 0, s := ⟨a4, c4, X.s.D⟩ } _ rfl rfl rfl (by kernel_rfl) (by exact (by decide : 6 ≤ 6)) rfl OR5.out ?_)
            intro w8 o8 u8 z8
            clear v0 v1 v2 v3 v4 v5
            have v0 := o8.cell kBlA 0 _ rfl 0 _ rfl
            have v1 := o8.cell kBlA 0 _ rfl 1 _ rfl
            have v2 := o8.cell kBlA 0 _ rfl 2 _ rfl
            have v3 := o8.cell kBlA 0 _ rfl 3 _ rfl
            have v4 := o8.cell kBlA 0 _ rfl 4 _ rfl
            have v5 := o8.cell kBlA 0 _ rfl 5 _ rfl
            simp only [Nat.zero_mul, Nat.zero_add] at v0 v1 v2 v3 v4 v5
            have U8 := hide u8
            clear o8 u8
            go_wp2
            refine bodyPost_ret (v := .tuple #[({ X with c := 0, s := ⟨a4, c4, X.s.D⟩ } : Bl).val, .int .i64 0]) (by simp [results, Tryz.results30, go_sem, v0, v1, v2, v3, v4, v5, Bl.val]) rfl ?_
            refine ⟨⟨_, rfl, ?_⟩, (B0.out.trans (D5.out.mono (by omega))).trans (U8.out.below (by have := Z5.out; omega) (fun k e => by subst e; omega))⟩
            rw [HCH3.out]
            refine ⟨⟨rfl, rfl, rfl, rfl, rfl, rfl⟩, ?_, by show X.s.D.length * 48 ≤ _; have := HIN.out.2; omega⟩
            exact (OE5.out.upd1 U8.out (fun g e hc => by have h1 := (OE5.out.blk g e).1; have h2 : g = w.heap.size + 1 := hc; have h3 := Z3.out; omega)).low (by have := Z3.out; omega)
          · have HCH3 : Hid (chs x0 L = { X with c := m }) := by show _ = _; rw [HCH2.out, show max 0 (min m (X.s.D.length : Int)) = m by omega]
            clear HCH2
            have OBR := hide (OB0.out.grow (show Below w0.heap.size w0 _ by rw [hwz.out]; exact hBL.out))
            go_wp2_with (refine storeY kBlA _ rfl 3 (.tmp 101) (.tmp 100) rfl (w.heap.size + 1 + 1) (w.heap.size + 1 + 1) 1 1 [X] 0 4 X { X with c := m } _ rfl rfl rfl (by kernel_rfl) (by exact (by decide : 5 ≤ 6)) rfl hOB.out ?_)
            intro w3 o3 u3 z3
            have OB3 := hide o3
            have D3 := hide (hBL.out.trans (u3.below zr (fun k e => by subst e; exact Nat.le_refl _)))
            have OR3 := hide (OBR.out.upd1 u3 (fun g e hc => by cases e; have h1 : w.heap.size + 1 = w.heap.size + 1 + 1 := hc; omega))
            have Z3 : Hid (w.heap.size + 1 + 1 ≤ w3.heap.size) := by show _ ≤ _; rw [z3]; exact zr
            have Z3b : Hid (w.heap.size + 1 + 1 < w3.heap.size) := (o3.blk _ rfl).2
            clear o3 u3 z3 OBR hOB
            have t5 := OB3.out.cell kBlA 0 _ rfl 5 _ rfl
            simp only [Nat.zero_mul, Nat.zero_add] at t5
            have CC := hide (refcopy6_any X.s.D X.s.a X.s.D.length X.s.c w3 (HIN.out.1.later (B0.out.trans (D3.out.mono (by omega)))).1 (by have := HIN.out.2; omega))
            go_wp2_with fail
            refine CC.out.mono ?_
            rintro e w4 ⟨v4, rfl, o4, b4⟩
            obtain ⟨a4, c4, rfl, _, _⟩ := o4.sl kE
            have OE4 := hide o4
            have OB4 := hide (OB3.out.grow b4)
            have OR4 := hide (OR3.out.grow b4)
            have D4 := hide (D3.out.trans (b4.mono Z3.out))
            have Z4 : Hid (w.heap.size + 1 + 1 ≤ w4.heap.size) := Nat.le_trans Z3.out b4.size
            clear CC o4 b4 t5 OB3 OR3
            dsimp only
            go_wp2_with (refine storeY kBlA _ rfl 51 (.tmp 105) (.tmp 104) rfl (w.heap.size + 1 + 1) (w.heap.size + 1 + 1) 1 1 [{ X with c := m }] 0 5 { X with c := m } { X with c := m, s := ⟨a4, c4, X.s.D⟩ } _ rfl rfl rfl (by kernel_rfl) (by exact (by decide : 6 ≤ 6)) rfl OB4.out ?_)
            intro w5 o5 u5 z5
            have D5 := hide (D4.out.trans (u5.below Z4.out (fun k e => by subst e; exact Nat.le_refl _)))
            have OR5 := hide (OR4.out.upd1 u5 (fun g e hc => by cases e; have h1 : w.heap.size + 1 = w.heap.size + 1 + 1 := hc; omega))
            have OE5 := hide (OE4.out.upd1 u5 (fun g e hc => by have h1 := (OE4.out.blk g e).1; have h2 : g = w.heap.size + 1 + 1 := hc; have h3 := Z3b.out; omega))
            have v0 := o5.cell kBlA 0 _ rfl 0 _ rfl
            have v1 := o5.cell kBlA 0 _ rfl 1 _ rfl
            have v2 := o5.cell kBlA 0 _ rfl 2 _ rfl
            have v3 := o5.cell kBlA 0 _ rfl 3 _ rfl
            have v4 := o5.cell kBlA 0 _ rfl 4 _ rfl
            have v5 := o5.cell kBlA 0 _ rfl 5 _ rfl
            simp only [Nat.zero_mul, Nat.zero_add] at v0 v1 v2 v3 v4 v5
            have Z5 : Hid (w.heap.size + 1 + 1 ≤ w5.heap.size) := by show _ ≤ _; rw [z5]; exact Z4.out
            clear o5 u5 z5 OB4 OR4 OE4
            go_wp2_with (refine storeY kBlA _ rfl 53 (.tmp 6) (.tmp 106) rfl (w.heap.size + 1) (w.heap.size + 1) 1 1 [⟨0, 0, 0, 0, 0, ⟨none, 0, []⟩⟩] 0 0 ⟨0, 0, 0, 0, 0, ⟨none, 0, []⟩⟩ { X with c := m, s := ⟨a4, c4, X.s.D⟩ } _ rfl rfl rfl (by kernel_rfl) (by exact (by decide : 6 ≤ 6)) rfl OR5.out ?_)
            intro w8 o8 u8 z8
            clear v0 v1 v2 v3 v4 v5
            have v0 := o8.cell kBlA 0 _ rfl 0 _ rfl
            have v1 := o8.cell kBlA 0 _ rfl 1 _ rfl
            have v2 := o8.cell kBlA 0 _ rfl 2 _ rfl
            have v3 := o8.cell kBlA 0 _ rfl 3 _ rfl
            have v4 := o8.cell kBlA 0 _ rfl 4 _ rfl
            have v5 := o8.cell kBlA 0 _ rfl 5 _ rfl
            simp only [Nat.zero_mul, Nat.zero_add] at v0 v1 v2 v3 v4 v5
            have U8 := hide u8
            clear o8 u8
            go_wp2
            refine bodyPost_ret (v := .tuple #[({ X with c := m, s := ⟨a4, c4, X.s.D⟩ } : Bl).val, .int .i64 0]) (by simp [results, Tryz.results30, go_sem, v0, v1, v2, v3, v4, v5, Bl.val]) rfl ?_
            refine ⟨⟨_, rfl, ?_⟩, (B0.out.trans (D5.out.mono (by omega))).trans (U8.out.below (by have := Z5.out; omega) (fun k e => by subst e; omega))⟩
            rw [HCH3.out]
            refine ⟨⟨rfl, rfl, rfl, rfl, rfl, rfl⟩, ?_, by show X.s.D.length * 48 ≤ _; have := HIN.out.2; omega⟩
            exact (OE5.out.upd1 U8.out (fun g e hc => by have h1 := (OE5.out.blk g e).1; have h2 : g = w.heap.size + 1 := hc; have h3 := Z3.out; omega)).low (by have := Z3.out; omega)

end Go.Proofs.YtcmjhaljbmhpgaaGreat
