import Derived.Test.YtipkflaamncmbaaGreatSk5
namespace Go.Proofs.YtipkflaamncmbaaGreat
open Go.RowKit Go.Maps
open Classical
set_option linter.unusedVariables false
set_option linter.unusedSimpArgs false

theorem Ak.ifdraw (x : Ak) (w : World) : (invoke (.fn (.method "amnesia/tally.draw") #[]) #[.iface 82 x.val]).run Tryz.prog w = .ok (.enter 186 #[x.val]) w := by kernel_rfl
set_option maxRecDepth 100000 in
set_option maxHeartbeats 1000000 in
theorem Ak.replaces_any (x y : Ak) (w : World) : Calls Tryz.prog 93 #[x.val, y.val] w fun e w' => e = .returned (.bool (Ak.rep x y)) ∧ Below w.heap.size w w' := by
  have hb0 : Below w.heap.size w ((w.alloc (.cells #[.int .i64 x.n, .int .u64 x.h, .int .u64 x.l, .int .i64 x.p] 82)).alloc (.cells #[.int .i64 y.n, .int .u64 y.h, .int .u64 y.l, .int .i64 y.p] 82)) := ((Below.refl _ w).alloc (Nat.le_refl _) _).alloc (by simp) _
  have KH : Hid (∀ v, Below (w.heap.size + 2) ((w.alloc (.cells #[.int .i64 x.n, .int .u64 x.h, .int .u64 x.l, .int .i64 x.p] 82)).alloc (.cells #[.int .i64 y.n, .int .u64 y.h, .int .u64 y.l, .int .i64 y.p] 82)) v → (v.cell? ⟨w.heap.size, 0, none⟩ = some (.int .i64 x.n) ∧ v.cell? ⟨w.heap.size, 1, none⟩ = some (.int .u64 x.h) ∧ v.cell? ⟨w.heap.size, 2, none⟩ = some (.int .u64 x.l) ∧ v.cell? ⟨w.heap.size, 3, none⟩ = some (.int .i64 x.p)) ∧ (v.cell? ⟨w.heap.size + 1, 0, none⟩ = some (.int .i64 y.n) ∧ v.cell? ⟨w.heap.size + 1, 1, none⟩ = some (.int .u64 y.h) ∧ v.cell? ⟨w.heap.size + 1, 2, none⟩ = some (.int .u64 y.l) ∧ v.cell? ⟨w.heap.size + 1, 3, none⟩ = some (.int .i64 y.p))) := fun v hv =>
    ⟨⟨(hv.cell (p := ⟨w.heap.size, 0, none⟩) (by simp)).trans (by simp), (hv.cell (p := ⟨w.heap.size, 1, none⟩) (by simp)).trans (by simp), (hv.cell (p := ⟨w.heap.size, 2, none⟩) (by simp)).trans (by simp), (hv.cell (p := ⟨w.heap.size, 3, none⟩) (by simp)).trans (by simp)⟩, ⟨(hv.cell (p := ⟨w.heap.size + 1, 0, none⟩) (by simp)).trans (by simp), (hv.cell (p := ⟨w.heap.size + 1, 1, none⟩) (by simp)).trans (by simp), (hv.cell (p := ⟨w.heap.size + 1, 2, none⟩) (by simp)).trans (by simp), (hv.cell (p := ⟨w.heap.size + 1, 3, none⟩) (by simp)).trans (by simp)⟩⟩
  have HB0 := hide hb0
  have cg := hide (fun W => Ak.greater_any x y W)
  have HR : Hid (Ak.rep x y = (decide (0 < cmpD x.h x.l y.h y.l) || (decide (cmpD x.h x.l y.h y.l = 0) && Ak.gt x y))) := rfl
  have cc := hide (fun W => compare_any x.h x.l y.h y.l W)
  clear hb0
  generalize Ak.rep x y = R at *
  generalize cmpD x.h x.l y.h y.l = c at *
  generalize Ak.gt x y = G at *
  unfold Ak.val at cg
  show Calls Tryz.prog 93 #[.agg #[.int .i64 x.n, .int .u64 x.h, .int .u64 x.l, .int .i64 x.p], .agg #[.int .i64 y.n, .int .u64 y.h, .int .u64 y.l, .int .i64 y.p]] w _
  go_enter Tryz.func93, Tryz.ntmps93
  go_wp2_with fail
  refine region_q9 (C := fun v => Below (w.heap.size + 2) ((w.alloc (.cells #[.int .i64 x.n, .int .u64 x.h, .int .u64 x.l, .int .i64 x.p] 82)).alloc (.cells #[.int .i64 y.n, .int .u64 y.h, .int .u64 y.l, .int .i64 y.p] 82)) v) (by kernel_rfl) (by kernel_rfl) (Below.refl _ _).drew ?_
  refine wqv (u := x.val) (by kernel_rfl) (fun v hv => by obtain ⟨⟨y0, y1, y2, y3⟩, _⟩ := KH.out v hv; go_simp; rfl) ?_
  simp only [Act.put, List.setIfInBounds_toArray, List.set_cons_zero, List.set_cons_succ]
  refine wqv (u := .iface 82 x.val) (by kernel_rfl) (fun v hv => by kernel_rfl) ?_
  simp only [Act.put, List.setIfInBounds_toArray, List.set_cons_zero, List.set_cons_succ]
  refine wqi (fid := 186) (args := #[x.val]) (AS := #[]) (V := .iface 82 x.val) (u := .agg #[.int .u64 x.h, .int .u64 x.l]) (by kernel_rfl) _ _ rfl (by kernel_rfl) (by kernel_rfl) (fun v => x.ifdraw v) (fun v hv => (x.draw_any v).mono fun e w' h => ⟨h.1, hv.trans (h.2.mono (by have := hv.size; rwa [World.size_alloc, World.size_alloc] at this))⟩) ?_
  simp only [Act.put, List.setIfInBounds_toArray, List.set_cons_zero, List.set_cons_succ]
  refine wqv (u := y.val) (by kernel_rfl) (fun v hv => by obtain ⟨_, ⟨y0, y1, y2, y3⟩⟩ := KH.out v hv; go_simp; rfl) ?_
  simp only [Act.put, List.setIfInBounds_toArray, List.set_cons_zero, List.set_cons_succ]
  refine wqv (u := .iface 82 y.val) (by kernel_rfl) (fun v hv => by kernel_rfl) ?_
  simp only [Act.put, List.setIfInBounds_toArray, List.set_cons_zero, List.set_cons_succ]
  refine wqi (fid := 186) (args := #[y.val]) (AS := #[]) (V := .iface 82 y.val) (u := .agg #[.int .u64 y.h, .int .u64 y.l]) (by kernel_rfl) _ _ rfl (by kernel_rfl) (by kernel_rfl) (fun v => y.ifdraw v) (fun v hv => (y.draw_any v).mono fun e w' h => ⟨h.1, hv.trans (h.2.mono (by have := hv.size; rwa [World.size_alloc, World.size_alloc] at this))⟩) ?_
  simp only [Act.put, List.setIfInBounds_toArray, List.set_cons_zero, List.set_cons_succ]
  refine wqc (fid := 123) (args := #[.agg #[.int .u64 x.h, .int .u64 x.l], .agg #[.int .u64 y.h, .int .u64 y.l]]) (u := .int .i64 c) (by kernel_rfl) (fun v => by kernel_rfl) (fun v hv => (cc.out v).mono fun e w' h => ⟨h.1, hv.trans (h.2.mono (by have := hv.size; rwa [World.size_alloc, World.size_alloc] at this))⟩) ?_
  simp only [Act.put, List.setIfInBounds_toArray, List.set_cons_zero, List.set_cons_succ]
  refine wqv (u := .int .i64 c) (by kernel_rfl) (fun v hv => by kernel_rfl) ?_
  simp only [Act.put, List.setIfInBounds_toArray, List.set_cons_zero, List.set_cons_succ]
  refine wqnil (fun v hv => ?_)
  obtain ⟨⟨y0, y1, y2, y3⟩, ⟨z0, z1, z2, z3⟩⟩ := KH.out v hv
  have BV := hide (HB0.out.trans (hv.mono (by omega)))
  clear hv KH cc
  by_cases h1 : 0 < c
  · go_wp2
    go_ret
    exact ⟨by rw [HR.out]; simp [h1], BV.out⟩
  · by_cases h2 : c = 0
    · subst h2
      go_wp2_with fail
      refine (cg.out v).mono ?_
      rintro e w' ⟨rfl, b'⟩
      have B' := hide (BV.out.trans (b'.mono BV.out.size))
      clear b' y0 y1 y2 y3 z0 z1 z2 z3
      dsimp only
      cases G
      · go_wp2
        go_ret
        exact ⟨by rw [HR.out]; rfl, B'.out⟩
      · go_wp2
        go_ret
        exact ⟨by rw [HR.out]; rfl, B'.out⟩
    · have h3 : (c == 0) = false := by simp [h2]
      go_wp2
      go_ret
      exact ⟨by rw [HR.out]; simp [h1, h2], BV.out⟩

end Go.Proofs.YtipkflaamncmbaaGreat
