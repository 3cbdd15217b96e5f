import Derived.Test.YtnhonkgondljjaaGSw
namespace Go.Proofs.Ytnhonkgondljjaa
open Go.RowKit Go.Maps
open Classical
set_option linter.unusedVariables false
set_option linter.unusedSimpArgs false

set_option maxRecDepth 100000 in
set_option maxHeartbeats 1000000 in
theorem An.toldz_any (x : An) (w : World) (h : x.In w) : Calls Try.prog 77 #[x.val] w fun e w' => e = .returned (x.re (w.heap.size + 2)).val ∧ OwnY yE (w.heap.size + 2) w' (.slice (some ⟨w.heap.size + 2, 0, none⟩) x.s.D.length x.s.D.length) x.s.D ∧ Below w.heap.size w w' := by
  obtain ⟨h, hd⟩ := h
  obtain ⟨xn, xh, xl, xv, xc, ⟨xa, xp, xD⟩⟩ := x
  dsimp only at h hd
  have wz := hide (show ((w.alloc (.cells #[.int .i64 xn, .int .u64 xh, .int .u64 xl, .int .i64 xv, .int .i64 xc, .slice xa xD.length xp] 129)).alloc (.cells #[.int .i64 0, .int .u64 0, .int .u64 0, .int .i64 0, .int .i64 0, .slice none 0 0] 68)).heap.size = w.heap.size + 2 by simp)
  have b1 : Below w.heap.size w ((w.alloc (.cells #[.int .i64 xn, .int .u64 xh, .int .u64 xl, .int .i64 xv, .int .i64 xc, .slice xa xD.length xp] 129)).alloc (.cells #[.int .i64 0, .int .u64 0, .int .u64 0, .int .i64 0, .int .i64 0, .slice none 0 0] 68)) := ((Below.refl _ w).alloc (Nat.le_refl _) _).alloc (by simp) _
  have cc := copied_any xD xa xD.length xp _ (h.later b1) hd
  rw [wz.out] at cc
  have CC := hide cc
  have B1 := hide b1
  clear cc b1 h
  show Calls Try.prog 77 #[.agg #[.int .i64 xn, .int .u64 xh, .int .u64 xl, .int .i64 xv, .int .i64 xc, .slice xa xD.length xp]] w fun e w' => e = .returned (.agg #[.int .i64 xn, .int .u64 xh, .int .u64 xl, .int .i64 xv, .int .i64 xc, .slice (some ⟨w.heap.size + 2, 0, none⟩) xD.length xD.length]) ∧ OwnY yE (w.heap.size + 2) w' (.slice (some ⟨w.heap.size + 2, 0, none⟩) xD.length xD.length) xD ∧ Below w.heap.size w w'
  go_enter Try.func77, Try.ntmps77
  go_wp2_with fail
  refine CC.out.mono ?_
  rintro e w1 ⟨rfl, o1, b1⟩
  have y0 : w1.cell? ⟨w.heap.size, 0, none⟩ = some (.int .i64 xn) := (b1.cell (p := ⟨w.heap.size, 0, none⟩) (by simp)).trans (by go_simp)
  have y1 : w1.cell? ⟨w.heap.size, 1, none⟩ = some (.int .u64 xh) := (b1.cell (p := ⟨w.heap.size, 1, none⟩) (by simp)).trans (by go_simp)
  have y2 : w1.cell? ⟨w.heap.size, 2, none⟩ = some (.int .u64 xl) := (b1.cell (p := ⟨w.heap.size, 2, none⟩) (by simp)).trans (by go_simp)
  have y3 : w1.cell? ⟨w.heap.size, 3, none⟩ = some (.int .i64 xv) := (b1.cell (p := ⟨w.heap.size, 3, none⟩) (by simp)).trans (by go_simp)
  have y4 : w1.cell? ⟨w.heap.size, 4, none⟩ = some (.int .i64 xc) := (b1.cell (p := ⟨w.heap.size, 4, none⟩) (by simp)).trans (by go_simp)
  have y5 : w1.cell? ⟨w.heap.size, 5, none⟩ = some (.slice xa xD.length xp) := (b1.cell (p := ⟨w.heap.size, 5, none⟩) (by simp)).trans (by go_simp)
  have y6 : w1.frozen? ⟨w.heap.size, 5, none⟩ = false := (b1.frozen (p := ⟨w.heap.size, 5, none⟩) (by simp)).trans (by go_simp)
  have oz : OwnY yAnA w.heap.size w1 (.slice (some ⟨w.heap.size + 1, 0, none⟩) 1 1) [⟨0, 0, 0, 0, 0, ⟨none, 0, []⟩⟩] := by
    have := (own_box kAnA w.heap.size (w.alloc (.cells #[.int .i64 xn, .int .u64 xh, .int .u64 xl, .int .i64 xv, .int .i64 xc, .slice xa xD.length xp] 129)) ⟨0, 0, 0, 0, 0, ⟨none, 0, []⟩⟩ (by simp)).upd1 (Upd.of_below (by rw [← wz.out] at b1; exact b1)) (fun _ _ => id)
    rw [World.size_alloc] at this
    exact this
  have z1 : w.heap.size + 2 ≤ w1.heap.size := by have := b1.size; rwa [wz.out] at this
  have O1 := hide o1
  have B2 := hide (B1.out.trans (b1.mono (by omega)))
  have OZ := hide oz
  clear o1 b1 oz CC B1 wz
  dsimp only
  have OZ2 := hide (OZ.out.setc (p := ⟨w.heap.size, 5, none⟩) (.slice (some ⟨w.heap.size + 2, 0, none⟩) xD.length xD.length) (by show w.heap.size ≠ w.heap.size + 1; omega))
  have U2 : Hid (Upd (fun b => b = w.heap.size) w1 (w1.setCell ⟨w.heap.size, 5, none⟩ (.slice (some ⟨w.heap.size + 2, 0, none⟩) xD.length xD.length))) := (Upd.refl (fun b => b = w.heap.size) w1).setCell (p := ⟨w.heap.size, 5, none⟩) (.inl rfl) _
  have zs2 : w.heap.size ≤ (w1.setCell ⟨w.heap.size, 5, none⟩ (.slice (some ⟨w.heap.size + 2, 0, none⟩) xD.length xD.length)).heap.size := by have := U2.out.size; omega
  go_wp2_with (refine storeY kAnA _ rfl 68 (.tmp 2) (.tmp 7) rfl w.heap.size (w.heap.size + 1) 1 1 [⟨0, 0, 0, 0, 0, ⟨none, 0, []⟩⟩] 0 0 ⟨0, 0, 0, 0, 0, ⟨none, 0, []⟩⟩ ⟨xn, xh, xl, xv, xc, ⟨some ⟨w.heap.size + 2, 0, none⟩, xD.length, xD⟩⟩ _ rfl rfl rfl (by kernel_rfl) (by exact (by decide : 6 ≤ 6)) rfl OZ2.out ?zl)
  intro w3 o3 u3 z3
  have OZ3 := hide o3
  have U3 := hide u3
  clear o3 u3
  go_wp2
  have v0 := OZ3.out.cell kAnA 0 _ rfl 0 _ rfl
  have v1 := OZ3.out.cell kAnA 0 _ rfl 1 _ rfl
  have v2 := OZ3.out.cell kAnA 0 _ rfl 2 _ rfl
  have v3 := OZ3.out.cell kAnA 0 _ rfl 3 _ rfl
  have v4 := OZ3.out.cell kAnA 0 _ rfl 4 _ rfl
  have v5 := OZ3.out.cell kAnA 0 _ rfl 5 _ rfl
  simp only [Nat.zero_mul, Nat.zero_add] at v0 v1 v2 v3 v4 v5
  refine bodyPost_ret (v := .agg #[.int .i64 xn, .int .u64 xh, .int .u64 xl, .int .i64 xv, .int .i64 xc, .slice (some ⟨w.heap.size + 2, 0, none⟩) xD.length xD.length]) (by simp [results, Try.results77, go_sem, v0, v1, v2, v3, v4, v5]) rfl ?_
  refine ⟨rfl, (O1.out.upd1 U2.out (fun g e => by cases e; show ¬ (w.heap.size + 2 = w.heap.size); omega)).upd1 U3.out (fun g e => by cases e; show ¬ (w.heap.size + 2 = w.heap.size + 1); omega), (B2.out.trans (U2.out.below (by omega) (fun k e => by subst e; exact Nat.le_refl _))).trans (U3.out.below (by omega) (fun k e => by subst e; omega))⟩

end Go.Proofs.Ytnhonkgondljjaa
