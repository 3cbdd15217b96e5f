import Derived.Test.YtfoegkbbokcplaaSb5
namespace Go.Proofs.Ytfoegkbbokcplaa
open Go.RowKit Go.Maps
set_option linter.unusedVariables false
set_option linter.unusedSimpArgs false

theorem Bl.ifdraw (x : Bl) (w : World) : (invoke (.fn (.method "amnesia/tally.draw") #[]) #[.iface 40 x.val]).run Try.prog w = .ok (.enter 69 #[x.val]) w := by kernel_rfl
set_option maxRecDepth 100000 in
set_option maxHeartbeats 1000000 in
theorem Bl.replaces_any (x y : Bl) (w : World) : Calls Try.prog 30 #[x.val, y.val] w fun e w' => e = .returned (.bool (Bl.rep x y)) ∧ Below w.heap.size w w' := by
  have hb0 : Below w.heap.size w ((w.alloc (.cells #[.int .i64 x.n, .int .u64 x.h, .int .u64 x.l, .int .i64 x.v, .int .i64 x.c, .slice x.s.a x.s.D.length x.s.c] 40)).alloc (.cells #[.int .i64 y.n, .int .u64 y.h, .int .u64 y.l, .int .i64 y.v, .int .i64 y.c, .slice y.s.a y.s.D.length y.s.c] 40)) := ((Below.refl _ w).alloc (Nat.le_refl _) _).alloc (by simp) _
  have KH : Hid (∀ v, Below (w.heap.size + 2) ((w.alloc (.cells #[.int .i64 x.n, .int .u64 x.h, .int .u64 x.l, .int .i64 x.v, .int .i64 x.c, .slice x.s.a x.s.D.length x.s.c] 40)).alloc (.cells #[.int .i64 y.n, .int .u64 y.h, .int .u64 y.l, .int .i64 y.v, .int .i64 y.c, .slice y.s.a y.s.D.length y.s.c] 40)) v → (v.cell? ⟨w.heap.size, 0, none⟩ = some (.int .i64 x.n) ∧ v.cell? ⟨w.heap.size, 1, none⟩ = some (.int .u64 x.h) ∧ v.cell? ⟨w.heap.size, 2, none⟩ = some (.int .u64 x.l) ∧ v.cell? ⟨w.heap.size, 3, none⟩ = some (.int .i64 x.v) ∧ v.cell? ⟨w.heap.size, 4, none⟩ = some (.int .i64 x.c) ∧ v.cell? ⟨w.heap.size, 5, none⟩ = some (.slice x.s.a x.s.D.length x.s.c)) ∧ (v.cell? ⟨w.heap.size + 1, 0, none⟩ = some (.int .i64 y.n) ∧ v.cell? ⟨w.heap.size + 1, 1, none⟩ = some (.int .u64 y.h) ∧ v.cell? ⟨w.heap.size + 1, 2, none⟩ = some (.int .u64 y.l) ∧ v.cell? ⟨w.heap.size + 1, 3, none⟩ = some (.int .i64 y.v) ∧ v.cell? ⟨w.heap.size + 1, 4, none⟩ = some (.int .i64 y.c) ∧ v.cell? ⟨w.heap.size + 1, 5, none⟩ = some (.slice y.s.a y.s.D.length y.s.c))) := fun v hv =>
    ⟨⟨(hv.cell (p := ⟨w.heap.size, 0, none⟩) (by simp)).trans (by simp), (hv.cell (p := ⟨w.heap.size, 1, none⟩) (by simp)).trans (by simp), (hv.cell (p := ⟨w.heap.size, 2, none⟩) (by simp)).trans (by simp), (hv.cell (p := ⟨w.heap.size, 3, none⟩) (by simp)).trans (by simp), (hv.cell (p := ⟨w.heap.size, 4, none⟩) (by simp)).trans (by simp), (hv.cell (p := ⟨w.heap.size, 5, none⟩) (by simp)).trans (by simp)⟩, ⟨(hv.cell (p := ⟨w.heap.size + 1, 0, none⟩) (by simp)).trans (by simp), (hv.cell (p := ⟨w.heap.size + 1, 1, none⟩) (by simp)).trans (by simp), (hv.cell (p := ⟨w.heap.size + 1, 2, none⟩) (by simp)).trans (by simp), (hv.cell (p := ⟨w.heap.size + 1, 3, none⟩) (by simp)).trans (by simp), (hv.cell (p := ⟨w.heap.size + 1, 4, none⟩) (by simp)).trans (by simp), (hv.cell (p := ⟨w.heap.size + 1, 5, none⟩) (by simp)).trans (by simp)⟩⟩
  have HB0 := hide hb0
  have cg := hide (fun W => Bl.greater_any x y W)
  have HR : Hid (Bl.rep x y = (decide (0 < cmpD x.h x.l y.h y.l) || (decide (cmpD x.h x.l y.h y.l = 0) && Bl.gt x y))) := rfl
  have cc := hide (fun W => compare_any x.h x.l y.h y.l W)
  clear hb0
  generalize Bl.rep x y = R at *
  generalize cmpD x.h x.l y.h y.l = c at *
  generalize Bl.gt x y = G at *
  unfold Bl.val at cg
  show Calls Try.prog 30 #[.agg #[.int .i64 x.n, .int .u64 x.h, .int .u64 x.l, .int .i64 x.v, .int .i64 x.c, .slice x.s.a x.s.D.length x.s.c], .agg #[.int .i64 y.n, .int .u64 y.h, .int .u64 y.l, .int .i64 y.v, .int .i64 y.c, .slice y.s.a y.s.D.length y.s.c]] w _
  go_enter Try.func30, Try.ntmps30
  go_wp2_with fail
  refine region_q9 (C := fun v => Below (w.heap.size + 2) ((w.alloc (.cells #[.int .i64 x.n, .int .u64 x.h, .int .u64 x.l, .int .i64 x.v, .int .i64 x.c, .slice x.s.a x.s.D.length x.s.c] 40)).alloc (.cells #[.int .i64 y.n, .int .u64 y.h, .int .u64 y.l, .int .i64 y.v, .int .i64 y.c, .slice y.s.a y.s.D.length y.s.c] 40)) v) (by kernel_rfl) (by kernel_rfl) (Below.refl _ _).drew ?_
  refine wqv (u := x.val) (by kernel_rfl) (fun v hv => by obtain ⟨⟨y0, y1, y2, y3, y4, y5⟩, _⟩ := KH.out v hv; go_simp; rfl) ?_
  simp only [Act.put, List.setIfInBounds_toArray, List.set_cons_zero, List.set_cons_succ]
  refine wqv (u := .iface 40 x.val) (by kernel_rfl) (fun v hv => by kernel_rfl) ?_
  simp only [Act.put, List.setIfInBounds_toArray, List.set_cons_zero, List.set_cons_succ]
  refine wqi (fid := 69) (args := #[x.val]) (AS := #[]) (V := .iface 40 x.val) (u := .agg #[.int .u64 x.h, .int .u64 x.l]) (by kernel_rfl) _ _ rfl (by kernel_rfl) (by kernel_rfl) (fun v => x.ifdraw v) (fun v hv => (x.draw_any v).mono fun e w' h => ⟨h.1, hv.trans (h.2.mono (by have := hv.size; rwa [World.size_alloc, World.size_alloc] at this))⟩) ?_
  simp only [Act.put, List.setIfInBounds_toArray, List.set_cons_zero, List.set_cons_succ]
  refine wqv (u := y.val) (by kernel_rfl) (fun v hv => by obtain ⟨_, ⟨y0, y1, y2, y3, y4, y5⟩⟩ := KH.out v hv; go_simp; rfl) ?_
  simp only [Act.put, List.setIfInBounds_toArray, List.set_cons_zero, List.set_cons_succ]
  refine wqv (u := .iface 40 y.val) (by kernel_rfl) (fun v hv => by kernel_rfl) ?_
  simp only [Act.put, List.setIfInBounds_toArray, List.set_cons_zero, List.set_cons_succ]
  refine wqi (fid := 69) (args := #[y.val]) (AS := #[]) (V := .iface 40 y.val) (u := .agg #[.int .u64 y.h, .int .u64 y.l]) (by kernel_rfl) _ _ rfl (by kernel_rfl) (by kernel_rfl) (fun v => y.ifdraw v) (fun v hv => (y.draw_any v).mono fun e w' h => ⟨h.1, hv.trans (h.2.mono (by have := hv.size; rwa [World.size_alloc, World.size_alloc] at this))⟩) ?_
  simp only [Act.put, List.setIfInBounds_toArray, List.set_cons_zero, List.set_cons_succ]
  refine wqc (fid := 41) (args := #[.agg #[.int .u64 x.h, .int .u64 x.l], .agg #[.int .u64 y.h, .int .u64 y.l]]) (u := .int .i64 c) (by kernel_rfl) (fun v => by kernel_rfl) (fun v hv => (cc.out v).mono fun e w' h => ⟨h.1, hv.trans (h.2.mono (by have := hv.size; rwa [World.size_alloc, World.size_alloc] at this))⟩) ?_
  simp only [Act.put, List.setIfInBounds_toArray, List.set_cons_zero, List.set_cons_succ]
  refine wqv (u := .int .i64 c) (by kernel_rfl) (fun v hv => by kernel_rfl) ?_
  simp only [Act.put, List.setIfInBounds_toArray, List.set_cons_zero, List.set_cons_succ]
  refine wpQuiet_nil (fun v hv => ?_)
  obtain ⟨⟨y0, y1, y2, y3, y4, y5⟩, ⟨z0, z1, z2, z3, z4, z5⟩⟩ := KH.out v hv
  have BV := hide (HB0.out.trans (hv.mono (by omega)))
  clear hv KH cc
  by_cases h1 : 0 < c
  · go_wp2
    go_ret
    exact ⟨by rw [HR.out]; simp [h1], BV.out⟩
  · by_cases h2 : c = 0
    · subst h2
      go_wp2_with fail
      refine (cg.out v).mono ?_
      rintro e w' ⟨rfl, b'⟩
      have B' := hide (BV.out.trans (b'.mono BV.out.size))
      clear b' y0 y1 y2 y3 y4 y5 z0 z1 z2 z3 z4 z5
      dsimp only
      cases G
      · go_wp2
        go_ret
        exact ⟨by rw [HR.out]; rfl, B'.out⟩
      · go_wp2
        go_ret
        exact ⟨by rw [HR.out]; rfl, B'.out⟩
    · have h3 : (c == 0) = false := by simp [h2]
      go_wp2
      go_ret
      exact ⟨by rw [HR.out]; simp [h1, h2], BV.out⟩

end Go.Proofs.Ytfoegkbbokcplaa
