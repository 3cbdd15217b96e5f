import Derived.Test.YtcmjhaljbmhpgaaGreatGSw
import Derived.Test.YtcmjhaljbmhpgaaGreatOe
import Derived.Test.YtcmjhaljbmhpgaaGreatSp
namespace Go.Proofs.YtcmjhaljbmhpgaaGreat
open Go.RowKit Go.Maps
open Classical
set_option linter.unusedVariables false
set_option linter.unusedSimpArgs false

def An.mb (x : An) (n r : Int) : Bool := (vmb x.v && lmb x.s.D x.c r) && (decide (x.s.D = []) || decide (x.n = x.v % n))
set_option maxRecDepth 100000 in
set_option maxHeartbeats 1000000 in
theorem An.may_any (x : An) (n r : Int) (w : World) (h : x.In w) (hf : ∀ e ∈ x.s.D, e.fits) (hn : 0 < n) (hn2 : n ≤ 9) : Calls Tryz.prog 206 #[x.val, .int .i64 n, .int .i64 r] w fun e w' => e = .returned (.bool (An.mb x n r)) ∧ Below w.heap.size w w' := by
  have bw : Hid (Below w.heap.size w (w.alloc (.cells #[.int .i64 x.n, .int .u64 x.h, .int .u64 x.l, .int .i64 x.v, .int .i64 x.c, .slice x.s.a x.s.D.length x.s.c] 132))) := (Below.refl _ w).alloc (Nat.le_refl _) _
  have KX : Hid (∀ v, Below (w.heap.size + 1) (w.alloc (.cells #[.int .i64 x.n, .int .u64 x.h, .int .u64 x.l, .int .i64 x.v, .int .i64 x.c, .slice x.s.a x.s.D.length x.s.c] 132)) v → v.cell? ⟨w.heap.size, 0, none⟩ = some (.int .i64 x.n) ∧ v.cell? ⟨w.heap.size, 3, none⟩ = some (.int .i64 x.v) ∧ v.cell? ⟨w.heap.size, 4, none⟩ = some (.int .i64 x.c) ∧ v.cell? ⟨w.heap.size, 5, none⟩ = some (.slice x.s.a x.s.D.length x.s.c)) := fun v hv =>
    ⟨(hv.cell (p := ⟨w.heap.size, 0, none⟩) (by simp)).trans (by simp), (hv.cell (p := ⟨w.heap.size, 3, none⟩) (by simp)).trans (by simp), (hv.cell (p := ⟨w.heap.size, 4, none⟩) (by simp)).trans (by simp), (hv.cell (p := ⟨w.heap.size, 5, none⟩) (by simp)).trans (by simp)⟩
  have KZ : Hid (∀ v, Below (w.heap.size + 1) (w.alloc (.cells #[.int .i64 x.n, .int .u64 x.h, .int .u64 x.l, .int .i64 x.v, .int .i64 x.c, .slice x.s.a x.s.D.length x.s.c] 132)) v → w.heap.size + 1 ≤ v.heap.size) := fun v hv => by have := hv.size; simpa using this
  have cv := hide (fun W => viewMayBe_any8 x.v W)
  have cl := hide (fun W (hW : Below w.heap.size w W) => logMayBe_any8 x.s.D x.s.a x.s.D.length x.s.c x.c r W (h.1.later hW) hf)
  have cp := hide (fun W => primary_any x.v n W hn hn2)
  have hmx : (x.s.D.length : Int) ≤ 9223372036854775807 := by have := h.1.cap; have h2 := h.1.max; unfold maxLen at h2; omega
  have hE : Hid (An.mb x n r = ((vmb x.v && lmb x.s.D x.c r) && (decide (x.s.D.length = 0) || decide (x.n = x.v % n)))) := by
    show _ = _
    unfold An.mb
    rw [show decide (x.s.D = []) = decide (x.s.D.length = 0) from decide_eq_decide.2 ⟨fun h => by rw [h]; rfl, List.eq_nil_of_length_eq_zero⟩]
  generalize An.mb x n r = Z at *
  generalize lmb x.s.D x.c r = Y at *
  generalize vmb x.v = X at *
  generalize x.v % n = P at *
  clear h hf
  show Calls Tryz.prog 206 #[.agg #[.int .i64 x.n, .int .u64 x.h, .int .u64 x.l, .int .i64 x.v, .int .i64 x.c, .slice x.s.a x.s.D.length x.s.c], .int .i64 n, .int .i64 r] w _
  generalize hw0 : w.alloc (.cells #[.int .i64 x.n, .int .u64 x.h, .int .u64 x.l, .int .i64 x.v, .int .i64 x.c, .slice x.s.a x.s.D.length x.s.c] 132) = w0 at *
  go_enter Tryz.func206, Tryz.ntmps206
  go_wp2_with fail
  try rw [hw0]
  clear hw0
  cases X with
  | false =>
    have hk : Hid (Z = false) := by show _ = _; rw [hE.out]; rfl
    go_wp2_with fail
    refine region_q9 (C := fun v => Below (w.heap.size + 1) w0 v) (by kernel_rfl) (by kernel_rfl) (Below.refl _ _).drew ?_
    refine wqv (u := .pointer (some ⟨w.heap.size, 3, none⟩)) (by kernel_rfl) (fun v hv => by go_simp) ?_
    simp only [Act.put, List.setIfInBounds_toArray, List.set_cons_zero, List.set_cons_succ]
    refine wqv (u := .int .i64 x.v) (by kernel_rfl) (fun v hv => by obtain ⟨y0, y3, y4, y5⟩ := KX.out v hv; go_simp) ?_
    simp only [Act.put, List.setIfInBounds_toArray, List.set_cons_zero, List.set_cons_succ]
    refine wqc (fid := 194) (args := #[.int .i64 x.v]) (u := .bool false) (by kernel_rfl) (fun v => by kernel_rfl) (fun v hv => (cv.out v).mono fun e w2 h => ⟨h.1, h.2 ▸ hv⟩) ?_
    simp only [Act.put, List.setIfInBounds_toArray, List.set_cons_zero, List.set_cons_succ]
    refine wqv (u := .bool false) (by kernel_rfl) (fun v hv => by kernel_rfl) ?_
    simp only [Act.put, List.setIfInBounds_toArray, List.set_cons_zero, List.set_cons_succ]
    refine wqskip (by kernel_rfl) ?_
    simp only [Act.put, List.setIfInBounds_toArray, List.set_cons_zero, List.set_cons_succ]
    refine wqskip (by kernel_rfl) ?_
    simp only [Act.put, List.setIfInBounds_toArray, List.set_cons_zero, List.set_cons_succ]
    refine wqskip (by kernel_rfl) ?_
    simp only [Act.put, List.setIfInBounds_toArray, List.set_cons_zero, List.set_cons_succ]
    refine wqskip (by kernel_rfl) ?_
    simp only [Act.put, List.setIfInBounds_toArray, List.set_cons_zero, List.set_cons_succ]
    refine wqskip (by kernel_rfl) ?_
    simp only [Act.put, List.setIfInBounds_toArray, List.set_cons_zero, List.set_cons_succ]
    refine wqskip (by kernel_rfl) ?_
    simp only [Act.put, List.setIfInBounds_toArray, List.set_cons_zero, List.set_cons_succ]
    refine wqv (u := .bool false) (by kernel_rfl) (fun v hv => by kernel_rfl) ?_
    simp only [Act.put, List.setIfInBounds_toArray, List.set_cons_zero, List.set_cons_succ]
    refine wqv (u := .bool false) (by kernel_rfl) (fun v hv => by kernel_rfl) ?_
    simp only [Act.put, List.setIfInBounds_toArray, List.set_cons_zero, List.set_cons_succ]
    refine wqskip (by kernel_rfl) ?_
    simp only [Act.put, List.setIfInBounds_toArray, List.set_cons_zero, List.set_cons_succ]
    refine wqskip (by kernel_rfl) ?_
    simp only [Act.put, List.setIfInBounds_toArray, List.set_cons_zero, List.set_cons_succ]
    refine wqskip (by kernel_rfl) ?_
    simp only [Act.put, List.setIfInBounds_toArray, List.set_cons_zero, List.set_cons_succ]
    refine wqskip (by kernel_rfl) ?_
    simp only [Act.put, List.setIfInBounds_toArray, List.set_cons_zero, List.set_cons_succ]
    refine wqskip (by kernel_rfl) ?_
    simp only [Act.put, List.setIfInBounds_toArray, List.set_cons_zero, List.set_cons_succ]
    refine wqskip (by kernel_rfl) ?_
    simp only [Act.put, List.setIfInBounds_toArray, List.set_cons_zero, List.set_cons_succ]
    refine wqskip (by kernel_rfl) ?_
    simp only [Act.put, List.setIfInBounds_toArray, List.set_cons_zero, List.set_cons_succ]
    refine wqskip (by kernel_rfl) ?_
    simp only [Act.put, List.setIfInBounds_toArray, List.set_cons_zero, List.set_cons_succ]
    refine wqskip (by kernel_rfl) ?_
    simp only [Act.put, List.setIfInBounds_toArray, List.set_cons_zero, List.set_cons_succ]
    refine wqskip (by kernel_rfl) ?_
    simp only [Act.put, List.setIfInBounds_toArray, List.set_cons_zero, List.set_cons_succ]
    refine wqskip (by kernel_rfl) ?_
    simp only [Act.put, List.setIfInBounds_toArray, List.set_cons_zero, List.set_cons_succ]
    refine wqskip (by kernel_rfl) ?_
    simp only [Act.put, List.setIfInBounds_toArray, List.set_cons_zero, List.set_cons_succ]
    refine wqskip (by kernel_rfl) ?_
    simp only [Act.put, List.setIfInBounds_toArray, List.set_cons_zero, List.set_cons_succ]
    refine wqv (u := .bool false) (by kernel_rfl) (fun v hv => by kernel_rfl) ?_
    simp only [Act.put, List.setIfInBounds_toArray, List.set_cons_zero, List.set_cons_succ]
    refine wqv (u := .bool false) (by kernel_rfl) (fun v hv => by kernel_rfl) ?_
    simp only [Act.put, List.setIfInBounds_toArray, List.set_cons_zero, List.set_cons_succ]
    refine wqnil (fun w2 hv => ?_)
    have B2 := hide (bw.out.trans (hv.mono (by omega)))
    clear hv
    go_wp2
    go_ret
    exact ⟨by rw [hk.out]; rfl, B2.out⟩
  | true =>
    cases Y with
    | false =>
      have hk : Hid (Z = false) := by show _ = _; rw [hE.out]; rfl
      go_wp2_with fail
      refine region_q9 (C := fun v => Below (w.heap.size + 1) w0 v) (by kernel_rfl) (by kernel_rfl) (Below.refl _ _).drew ?_
      refine wqv (u := .pointer (some ⟨w.heap.size, 3, none⟩)) (by kernel_rfl) (fun v hv => by go_simp) ?_
      simp only [Act.put, List.setIfInBounds_toArray, List.set_cons_zero, List.set_cons_succ]
      refine wqv (u := .int .i64 x.v) (by kernel_rfl) (fun v hv => by obtain ⟨y0, y3, y4, y5⟩ := KX.out v hv; go_simp) ?_
      simp only [Act.put, List.setIfInBounds_toArray, List.set_cons_zero, List.set_cons_succ]
      refine wqc (fid := 194) (args := #[.int .i64 x.v]) (u := .bool true) (by kernel_rfl) (fun v => by kernel_rfl) (fun v hv => (cv.out v).mono fun e w2 h => ⟨h.1, h.2 ▸ hv⟩) ?_
      simp only [Act.put, List.setIfInBounds_toArray, List.set_cons_zero, List.set_cons_succ]
      refine wqv (u := .bool true) (by kernel_rfl) (fun v hv => by kernel_rfl) ?_
      simp only [Act.put, List.setIfInBounds_toArray, List.set_cons_zero, List.set_cons_succ]
      refine wqv (u := .pointer (some ⟨w.heap.size, 5, none⟩)) (by kernel_rfl) (fun v hv => by go_simp) ?_
      simp only [Act.put, List.setIfInBounds_toArray, List.set_cons_zero, List.set_cons_succ]
      refine wqv (u := .slice x.s.a x.s.D.length x.s.c) (by kernel_rfl) (fun v hv => by obtain ⟨y0, y3, y4, y5⟩ := KX.out v hv; go_simp) ?_
      simp only [Act.put, List.setIfInBounds_toArray, List.set_cons_zero, List.set_cons_succ]
      refine wqv (u := .pointer (some ⟨w.heap.size, 4, none⟩)) (by kernel_rfl) (fun v hv => by go_simp) ?_
      simp only [Act.put, List.setIfInBounds_toArray, List.set_cons_zero, List.set_cons_succ]
      refine wqv (u := .int .i64 x.c) (by kernel_rfl) (fun v hv => by obtain ⟨y0, y3, y4, y5⟩ := KX.out v hv; go_simp) ?_
      simp only [Act.put, List.setIfInBounds_toArray, List.set_cons_zero, List.set_cons_succ]
      refine wqv (u := .int .i64 r) (by kernel_rfl) (fun v hv => by kernel_rfl) ?_
      simp only [Act.put, List.setIfInBounds_toArray, List.set_cons_zero, List.set_cons_succ]
      refine wqc (fid := 195) (args := #[.slice x.s.a x.s.D.length x.s.c, .int .i64 x.c, .int .i64 r]) (u := .bool false) (by kernel_rfl) (fun v => by kernel_rfl) (fun v hv => (cl.out v (bw.out.trans (hv.mono (by omega)))).mono fun e w2 h => ⟨h.1, hv.trans (h.2.mono (KZ.out v hv))⟩) ?_
      simp only [Act.put, List.setIfInBounds_toArray, List.set_cons_zero, List.set_cons_succ]
      refine wqv (u := .bool false) (by kernel_rfl) (fun v hv => by kernel_rfl) ?_
      simp only [Act.put, List.setIfInBounds_toArray, List.set_cons_zero, List.set_cons_succ]
      refine wqv (u := .bool false) (by kernel_rfl) (fun v hv => by kernel_rfl) ?_
      simp only [Act.put, List.setIfInBounds_toArray, List.set_cons_zero, List.set_cons_succ]
      refine wqskip (by kernel_rfl) ?_
      simp only [Act.put, List.setIfInBounds_toArray, List.set_cons_zero, List.set_cons_succ]
      refine wqskip (by kernel_rfl) ?_
      simp only [Act.put, List.setIfInBounds_toArray, List.set_cons_zero, List.set_cons_succ]
      refine wqskip (by kernel_rfl) ?_
      simp only [Act.put, List.setIfInBounds_toArray, List.set_cons_zero, List.set_cons_succ]
      refine wqskip (by kernel_rfl) ?_
      simp only [Act.put, List.setIfInBounds_toArray, List.set_cons_zero, List.set_cons_succ]
      refine wqskip (by kernel_rfl) ?_
      simp only [Act.put, List.setIfInBounds_toArray, List.set_cons_zero, List.set_cons_succ]
      refine wqskip (by kernel_rfl) ?_
      simp only [Act.put, List.setIfInBounds_toArray, List.set_cons_zero, List.set_cons_succ]
      refine wqskip (by kernel_rfl) ?_
      simp only [Act.put, List.setIfInBounds_toArray, List.set_cons_zero, List.set_cons_succ]
      refine wqskip (by kernel_rfl) ?_
      simp only [Act.put, List.setIfInBounds_toArray, List.set_cons_zero, List.set_cons_succ]
      refine wqskip (by kernel_rfl) ?_
      simp only [Act.put, List.setIfInBounds_toArray, List.set_cons_zero, List.set_cons_succ]
      refine wqskip (by kernel_rfl) ?_
      simp only [Act.put, List.setIfInBounds_toArray, List.set_cons_zero, List.set_cons_succ]
      refine wqskip (by kernel_rfl) ?_
      simp only [Act.put, List.setIfInBounds_toArray, List.set_cons_zero, List.set_cons_succ]
      refine wqskip (by kernel_rfl) ?_
      simp only [Act.put, List.setIfInBounds_toArray, List.set_cons_zero, List.set_cons_succ]
      refine wqskip (by kernel_rfl) ?_
      simp only [Act.put, List.setIfInBounds_toArray, List.set_cons_zero, List.set_cons_succ]
      refine wqv (u := .bool false) (by kernel_rfl) (fun v hv => by kernel_rfl) ?_
      simp only [Act.put, List.setIfInBounds_toArray, List.set_cons_zero, List.set_cons_succ]
      refine wqv (u := .bool false) (by kernel_rfl) (fun v hv => by kernel_rfl) ?_
      simp only [Act.put, List.setIfInBounds_toArray, List.set_cons_zero, List.set_cons_succ]
      refine wqnil (fun w2 hv => ?_)
      have B2 := hide (bw.out.trans (hv.mono (by omega)))
      clear hv
      go_wp2
      go_ret
      exact ⟨by rw [hk.out]; rfl, B2.out⟩
    | true =>
      by_cases h0 : x.s.D.length = 0
      · have hb0 : ((x.s.D.length : Int) == 0) = true := by simp [h0]
        have hk : Hid (Z = true) := by show _ = _; rw [hE.out, decide_eq_true h0]; rfl
        clear h0
        go_wp2_with fail
        refine region_q9 (C := fun v => Below (w.heap.size + 1) w0 v) (by kernel_rfl) (by kernel_rfl) (Below.refl _ _).drew ?_
        refine wqv (u := .pointer (some ⟨w.heap.size, 3, none⟩)) (by kernel_rfl) (fun v hv => by go_simp) ?_
        simp only [Act.put, List.setIfInBounds_toArray, List.set_cons_zero, List.set_cons_succ]
        refine wqv (u := .int .i64 x.v) (by kernel_rfl) (fun v hv => by obtain ⟨y0, y3, y4, y5⟩ := KX.out v hv; go_simp) ?_
        simp only [Act.put, List.setIfInBounds_toArray, List.set_cons_zero, List.set_cons_succ]
        refine wqc (fid := 194) (args := #[.int .i64 x.v]) (u := .bool true) (by kernel_rfl) (fun v => by kernel_rfl) (fun v hv => (cv.out v).mono fun e w2 h => ⟨h.1, h.2 ▸ hv⟩) ?_
        simp only [Act.put, List.setIfInBounds_toArray, List.set_cons_zero, List.set_cons_succ]
        refine wqv (u := .bool true) (by kernel_rfl) (fun v hv => by kernel_rfl) ?_
        simp only [Act.put, List.setIfInBounds_toArray, List.set_cons_zero, List.set_cons_succ]
        refine wqv (u := .pointer (some ⟨w.heap.size, 5, none⟩)) (by kernel_rfl) (fun v hv => by go_simp) ?_
        simp only [Act.put, List.setIfInBounds_toArray, List.set_cons_zero, List.set_cons_succ]
        refine wqv (u := .slice x.s.a x.s.D.length x.s.c) (by kernel_rfl) (fun v hv => by obtain ⟨y0, y3, y4, y5⟩ := KX.out v hv; go_simp) ?_
        simp only [Act.put, List.setIfInBounds_toArray, List.set_cons_zero, List.set_cons_succ]
        refine wqv (u := .pointer (some ⟨w.heap.size, 4, none⟩)) (by kernel_rfl) (fun v hv => by go_simp) ?_
        simp only [Act.put, List.setIfInBounds_toArray, List.set_cons_zero, List.set_cons_succ]
        refine wqv (u := .int .i64 x.c) (by kernel_rfl) (fun v hv => by obtain ⟨y0, y3, y4, y5⟩ := KX.out v hv; go_simp) ?_
        simp only [Act.put, List.setIfInBounds_toArray, List.set_cons_zero, List.set_cons_succ]
        refine wqv (u := .int .i64 r) (by kernel_rfl) (fun v hv => by kernel_rfl) ?_
        simp only [Act.put, List.setIfInBounds_toArray, List.set_cons_zero, List.set_cons_succ]
        refine wqc (fid := 195) (args := #[.slice x.s.a x.s.D.length x.s.c, .int .i64 x.c, .int .i64 r]) (u := .bool true) (by kernel_rfl) (fun v => by kernel_rfl) (fun v hv => (cl.out v (bw.out.trans (hv.mono (by omega)))).mono fun e w2 h => ⟨h.1, hv.trans (h.2.mono (KZ.out v hv))⟩) ?_
        simp only [Act.put, List.setIfInBounds_toArray, List.set_cons_zero, List.set_cons_succ]
        refine wqv (u := .bool true) (by kernel_rfl) (fun v hv => by kernel_rfl) ?_
        simp only [Act.put, List.setIfInBounds_toArray, List.set_cons_zero, List.set_cons_succ]
        refine wqv (u := .bool true) (by kernel_rfl) (fun v hv => by kernel_rfl) ?_
        simp only [Act.put, List.setIfInBounds_toArray, List.set_cons_zero, List.set_cons_succ]
        refine wqv (u := .pointer (some ⟨w.heap.size, 5, none⟩)) (by kernel_rfl) (fun v hv => by go_simp) ?_
        simp only [Act.put, List.setIfInBounds_toArray, List.set_cons_zero, List.set_cons_succ]
        refine wqv (u := .slice x.s.a x.s.D.length x.s.c) (by kernel_rfl) (fun v hv => by obtain ⟨y0, y3, y4, y5⟩ := KX.out v hv; go_simp) ?_
        simp only [Act.put, List.setIfInBounds_toArray, List.set_cons_zero, List.set_cons_succ]
        refine wqv (u := .int .i64 (x.s.D.length : Int)) (by kernel_rfl) (fun v hv => by go_simp) ?_
        simp only [Act.put, List.setIfInBounds_toArray, List.set_cons_zero, List.set_cons_succ]
        refine wqv (u := .bool true) (by kernel_rfl) (fun v hv => by go_simp) ?_
        simp only [Act.put, List.setIfInBounds_toArray, List.set_cons_zero, List.set_cons_succ]
        refine wqv (u := .bool true) (by kernel_rfl) (fun v hv => by kernel_rfl) ?_
        simp only [Act.put, List.setIfInBounds_toArray, List.set_cons_zero, List.set_cons_succ]
        refine wqskip (by kernel_rfl) ?_
        simp only [Act.put, List.setIfInBounds_toArray, List.set_cons_zero, List.set_cons_succ]
        refine wqskip (by kernel_rfl) ?_
        simp only [Act.put, List.setIfInBounds_toArray, List.set_cons_zero, List.set_cons_succ]
        refine wqskip (by kernel_rfl) ?_
        simp only [Act.put, List.setIfInBounds_toArray, List.set_cons_zero, List.set_cons_succ]
        refine wqskip (by kernel_rfl) ?_
        simp only [Act.put, List.setIfInBounds_toArray, List.set_cons_zero, List.set_cons_succ]
        refine wqskip (by kernel_rfl) ?_
        simp only [Act.put, List.setIfInBounds_toArray, List.set_cons_zero, List.set_cons_succ]
        refine wqskip (by kernel_rfl) ?_
        simp only [Act.put, List.setIfInBounds_toArray, List.set_cons_zero, List.set_cons_succ]
        refine wqskip (by kernel_rfl) ?_
        simp only [Act.put, List.setIfInBounds_toArray, List.set_cons_zero, List.set_cons_succ]
        refine wqv (u := .bool true) (by kernel_rfl) (fun v hv => by kernel_rfl) ?_
        simp only [Act.put, List.setIfInBounds_toArray, List.set_cons_zero, List.set_cons_succ]
        refine wqv (u := .bool true) (by kernel_rfl) (fun v hv => by kernel_rfl) ?_
        simp only [Act.put, List.setIfInBounds_toArray, List.set_cons_zero, List.set_cons_succ]
        refine wqv (u := .bool true) (by kernel_rfl) (fun v hv => by kernel_rfl) ?_
        simp only [Act.put, List.setIfInBounds_toArray, List.set_cons_zero, List.set_cons_succ]
        refine wqnil (fun w2 hv => ?_)
        have B2 := hide (bw.out.trans (hv.mono (by omega)))
        clear hv
        go_wp2
        go_ret
        exact ⟨by rw [hk.out]; rfl, B2.out⟩
      · have hb0 : ((x.s.D.length : Int) == 0) = false := beq_eq_false_iff_ne.2 (by omega)
        by_cases hp : x.n = P
        · have hbp : (x.n == P) = true := by simp [hp]
          have hk : Hid (Z = true) := by show _ = _; rw [hE.out, decide_eq_true hp]; simp
          clear hp
          go_wp2_with fail
          refine region_q9 (C := fun v => Below (w.heap.size + 1) w0 v) (by kernel_rfl) (by kernel_rfl) (Below.refl _ _).drew ?_
          refine wqv (u := .pointer (some ⟨w.heap.size, 3, none⟩)) (by kernel_rfl) (fun v hv => by go_simp) ?_
          simp only [Act.put, List.setIfInBounds_toArray, List.set_cons_zero, List.set_cons_succ]
          refine wqv (u := .int .i64 x.v) (by kernel_rfl) (fun v hv => by obtain ⟨y0, y3, y4, y5⟩ := KX.out v hv; go_simp) ?_
          simp only [Act.put, List.setIfInBounds_toArray, List.set_cons_zero, List.set_cons_succ]
          refine wqc (fid := 194) (args := #[.int .i64 x.v]) (u := .bool true) (by kernel_rfl) (fun v => by kernel_rfl) (fun v hv => (cv.out v).mono fun e w2 h => ⟨h.1, h.2 ▸ hv⟩) ?_
          simp only [Act.put, List.setIfInBounds_toArray, List.set_cons_zero, List.set_cons_succ]
          refine wqv (u := .bool true) (by kernel_rfl) (fun v hv => by kernel_rfl) ?_
          simp only [Act.put, List.setIfInBounds_toArray, List.set_cons_zero, List.set_cons_succ]
          refine wqv (u := .pointer (some ⟨w.heap.size, 5, none⟩)) (by kernel_rfl) (fun v hv => by go_simp) ?_
          simp only [Act.put, List.setIfInBounds_toArray, List.set_cons_zero, List.set_cons_succ]
          refine wqv (u := .slice x.s.a x.s.D.length x.s.c) (by kernel_rfl) (fun v hv => by obtain ⟨y0, y3, y4, y5⟩ := KX.out v hv; go_simp) ?_
          simp only [Act.put, List.setIfInBounds_toArray, List.set_cons_zero, List.set_cons_succ]
          refine wqv (u := .pointer (some ⟨w.heap.size, 4, none⟩)) (by kernel_rfl) (fun v hv => by go_simp) ?_
          simp only [Act.put, List.setIfInBounds_toArray, List.set_cons_zero, List.set_cons_succ]
          refine wqv (u := .int .i64 x.c) (by kernel_rfl) (fun v hv => by obtain ⟨y0, y3, y4, y5⟩ := KX.out v hv; go_simp) ?_
          simp only [Act.put, List.setIfInBounds_toArray, List.set_cons_zero, List.set_cons_succ]
          refine wqv (u := .int .i64 r) (by kernel_rfl) (fun v hv => by kernel_rfl) ?_
          simp only [Act.put, List.setIfInBounds_toArray, List.set_cons_zero, List.set_cons_succ]
          refine wqc (fid := 195) (args := #[.slice x.s.a x.s.D.length x.s.c, .int .i64 x.c, .int .i64 r]) (u := .bool true) (by kernel_rfl) (fun v => by kernel_rfl) (fun v hv => (cl.out v (bw.out.trans (hv.mono (by omega)))).mono fun e w2 h => ⟨h.1, hv.trans (h.2.mono (KZ.out v hv))⟩) ?_
          simp only [Act.put, List.setIfInBounds_toArray, List.set_cons_zero, List.set_cons_succ]
          refine wqv (u := .bool true) (by kernel_rfl) (fun v hv => by kernel_rfl) ?_
          simp only [Act.put, List.setIfInBounds_toArray, List.set_cons_zero, List.set_cons_succ]
          refine wqv (u := .bool true) (by kernel_rfl) (fun v hv => by kernel_rfl) ?_
          simp only [Act.put, List.setIfInBounds_toArray, List.set_cons_zero, List.set_cons_succ]
          refine wqv (u := .pointer (some ⟨w.heap.size, 5, none⟩)) (by kernel_rfl) (fun v hv => by go_simp) ?_
          simp only [Act.put, List.setIfInBounds_toArray, List.set_cons_zero, List.set_cons_succ]
          refine wqv (u := .slice x.s.a x.s.D.length x.s.c) (by kernel_rfl) (fun v hv => by obtain ⟨y0, y3, y4, y5⟩ := KX.out v hv; go_simp) ?_
          simp only [Act.put, List.setIfInBounds_toArray, List.set_cons_zero, List.set_cons_succ]
          refine wqv (u := .int .i64 (x.s.D.length : Int)) (by kernel_rfl) (fun v hv => by go_simp) ?_
          simp only [Act.put, List.setIfInBounds_toArray, List.set_cons_zero, List.set_cons_succ]
          refine wqv (u := .bool false) (by kernel_rfl) (fun v hv => by go_simp) ?_
          simp only [Act.put, List.setIfInBounds_toArray, List.set_cons_zero, List.set_cons_succ]
          refine wqv (u := .bool false) (by kernel_rfl) (fun v hv => by kernel_rfl) ?_
          simp only [Act.put, List.setIfInBounds_toArray, List.set_cons_zero, List.set_cons_succ]
          refine wqv (u := .pointer (some ⟨w.heap.size, 0, none⟩)) (by kernel_rfl) (fun v hv => by go_simp) ?_
          simp only [Act.put, List.setIfInBounds_toArray, List.set_cons_zero, List.set_cons_succ]
          refine wqv (u := .int .i64 x.n) (by kernel_rfl) (fun v hv => by obtain ⟨y0, y3, y4, y5⟩ := KX.out v hv; go_simp) ?_
          simp only [Act.put, List.setIfInBounds_toArray, List.set_cons_zero, List.set_cons_succ]
          refine wqv (u := .pointer (some ⟨w.heap.size, 3, none⟩)) (by kernel_rfl) (fun v hv => by go_simp) ?_
          simp only [Act.put, List.setIfInBounds_toArray, List.set_cons_zero, List.set_cons_succ]
          refine wqv (u := .int .i64 x.v) (by kernel_rfl) (fun v hv => by obtain ⟨y0, y3, y4, y5⟩ := KX.out v hv; go_simp) ?_
          simp only [Act.put, List.setIfInBounds_toArray, List.set_cons_zero, List.set_cons_succ]
          refine wqv (u := .int .i64 n) (by kernel_rfl) (fun v hv => by kernel_rfl) ?_
          simp only [Act.put, List.setIfInBounds_toArray, List.set_cons_zero, List.set_cons_succ]
          refine wqc (fid := 87) (args := #[.int .i64 x.v, .int .i64 n]) (u := .int .i64 P) (by kernel_rfl) (fun v => by kernel_rfl) (fun v hv => (cp.out v).mono fun e w2 h => ⟨h.1, h.2 ▸ hv⟩) ?_
          simp only [Act.put, List.setIfInBounds_toArray, List.set_cons_zero, List.set_cons_succ]
          refine wqv (u := .bool true) (by kernel_rfl) (fun v hv => by go_simp) ?_
          simp only [Act.put, List.setIfInBounds_toArray, List.set_cons_zero, List.set_cons_succ]
          refine wqv (u := .bool true) (by kernel_rfl) (fun v hv => by kernel_rfl) ?_
          simp only [Act.put, List.setIfInBounds_toArray, List.set_cons_zero, List.set_cons_succ]
          refine wqv (u := .bool true) (by kernel_rfl) (fun v hv => by kernel_rfl) ?_
          simp only [Act.put, List.setIfInBounds_toArray, List.set_cons_zero, List.set_cons_succ]
          refine wqv (u := .bool true) (by kernel_rfl) (fun v hv => by kernel_rfl) ?_
          simp only [Act.put, List.setIfInBounds_toArray, List.set_cons_zero, List.set_cons_succ]
          refine wqnil (fun w2 hv => ?_)
          have B2 := hide (bw.out.trans (hv.mono (by omega)))
          clear hv
          go_wp2
          go_ret
          exact ⟨by rw [hk.out]; rfl, B2.out⟩
        · have hbp : (x.n == P) = false := by simp [hp]
          have hk : Hid (Z = false) := by show _ = _; rw [hE.out, decide_eq_false hp, decide_eq_false h0]; rfl
          go_wp2_with fail
          refine region_q9 (C := fun v => Below (w.heap.size + 1) w0 v) (by kernel_rfl) (by kernel_rfl) (Below.refl _ _).drew ?_
          refine wqv (u := .pointer (some ⟨w.heap.size, 3, none⟩)) (by kernel_rfl) (fun v hv => by go_simp) ?_
          simp only [Act.put, List.setIfInBounds_toArray, List.set_cons_zero, List.set_cons_succ]
          refine wqv (u := .int .i64 x.v) (by kernel_rfl) (fun v hv => by obtain ⟨y0, y3, y4, y5⟩ := KX.out v hv; go_simp) ?_
          simp only [Act.put, List.setIfInBounds_toArray, List.set_cons_zero, List.set_cons_succ]
          refine wqc (fid := 194) (args := #[.int .i64 x.v]) (u := .bool true) (by kernel_rfl) (fun v => by kernel_rfl) (fun v hv => (cv.out v).mono fun e w2 h => ⟨h.1, h.2 ▸ hv⟩) ?_
          simp only [Act.put, List.setIfInBounds_toArray, List.set_cons_zero, List.set_cons_succ]
          refine wqv (u := .bool true) (by kernel_rfl) (fun v hv => by kernel_rfl) ?_
          simp only [Act.put, List.setIfInBounds_toArray, List.set_cons_zero, List.set_cons_succ]
          refine wqv (u := .pointer (some ⟨w.heap.size, 5, none⟩)) (by kernel_rfl) (fun v hv => by go_simp) ?_
          simp only [Act.put, List.setIfInBounds_toArray, List.set_cons_zero, List.set_cons_succ]
          refine wqv (u := .slice x.s.a x.s.D.length x.s.c) (by kernel_rfl) (fun v hv => by obtain ⟨y0, y3, y4, y5⟩ := KX.out v hv; go_simp) ?_
          simp only [Act.put, List.setIfInBounds_toArray, List.set_cons_zero, List.set_cons_succ]
          refine wqv (u := .pointer (some ⟨w.heap.size, 4, none⟩)) (by kernel_rfl) (fun v hv => by go_simp) ?_
          simp only [Act.put, List.setIfInBounds_toArray, List.set_cons_zero, List.set_cons_succ]
          refine wqv (u := .int .i64 x.c) (by kernel_rfl) (fun v hv => by obtain ⟨y0, y3, y4, y5⟩ := KX.out v hv; go_simp) ?_
          simp only [Act.put, List.setIfInBounds_toArray, List.set_cons_zero, List.set_cons_succ]
          refine wqv (u := .int .i64 r) (by kernel_rfl) (fun v hv => by kernel_rfl) ?_
          simp only [Act.put, List.setIfInBounds_toArray, List.set_cons_zero, List.set_cons_succ]
          refine wqc (fid := 195) (args := #[.slice x.s.a x.s.D.length x.s.c, .int .i64 x.c, .int .i64 r]) (u := .bool true) (by kernel_rfl) (fun v => by kernel_rfl) (fun v hv => (cl.out v (bw.out.trans (hv.mono (by omega)))).mono fun e w2 h => ⟨h.1, hv.trans (h.2.mono (KZ.out v hv))⟩) ?_
          simp only [Act.put, List.setIfInBounds_toArray, List.set_cons_zero, List.set_cons_succ]
          refine wqv (u := .bool true) (by kernel_rfl) (fun v hv => by kernel_rfl) ?_
          simp only [Act.put, List.setIfInBounds_toArray, List.set_cons_zero, List.set_cons_succ]
          refine wqv (u := .bool true) (by kernel_rfl) (fun v hv => by kernel_rfl) ?_
          simp only [Act.put, List.setIfInBounds_toArray, List.set_cons_zero, List.set_cons_succ]
          refine wqv (u := .pointer (some ⟨w.heap.size, 5, none⟩)) (by kernel_rfl) (fun v hv => by go_simp) ?_
          simp only [Act.put, List.setIfInBounds_toArray, List.set_cons_zero, List.set_cons_succ]
          refine wqv (u := .slice x.s.a x.s.D.length x.s.c) (by kernel_rfl) (fun v hv => by obtain ⟨y0, y3, y4, y5⟩ := KX.out v hv; go_simp) ?_
          simp only [Act.put, List.setIfInBounds_toArray, List.set_cons_zero, List.set_cons_succ]
          refine wqv (u := .int .i64 (x.s.D.length : Int)) (by kernel_rfl) (fun v hv => by go_simp) ?_
          simp only [Act.put, List.setIfInBounds_toArray, List.set_cons_zero, List.set_cons_succ]
          refine wqv (u := .bool false) (by kernel_rfl) (fun v hv => by go_simp) ?_
          simp only [Act.put, List.setIfInBounds_toArray, List.set_cons_zero, List.set_cons_succ]
          refine wqv (u := .bool false) (by kernel_rfl) (fun v hv => by kernel_rfl) ?_
          simp only [Act.put, List.setIfInBounds_toArray, List.set_cons_zero, List.set_cons_succ]
          refine wqv (u := .pointer (some ⟨w.heap.size, 0, none⟩)) (by kernel_rfl) (fun v hv => by go_simp) ?_
          simp only [Act.put, List.setIfInBounds_toArray, List.set_cons_zero, List.set_cons_succ]
          refine wqv (u := .int .i64 x.n) (by kernel_rfl) (fun v hv => by obtain ⟨y0, y3, y4, y5⟩ := KX.out v hv; go_simp) ?_
          simp only [Act.put, List.setIfInBounds_toArray, List.set_cons_zero, List.set_cons_succ]
          refine wqv (u := .pointer (some ⟨w.heap.size, 3, none⟩)) (by kernel_rfl) (fun v hv => by go_simp) ?_
          simp only [Act.put, List.setIfInBounds_toArray, List.set_cons_zero, List.set_cons_succ]
          refine wqv (u := .int .i64 x.v) (by kernel_rfl) (fun v hv => by obtain ⟨y0, y3, y4, y5⟩ := KX.out v hv; go_simp) ?_
          simp only [Act.put, List.setIfInBounds_toArray, List.set_cons_zero, List.set_cons_succ]
          refine wqv (u := .int .i64 n) (by kernel_rfl) (fun v hv => by kernel_rfl) ?_
          simp only [Act.put, List.setIfInBounds_toArray, List.set_cons_zero, List.set_cons_succ]
          refine wqc (fid := 87) (args := #[.int .i64 x.v, .int .i64 n]) (u := .int .i64 P) (by kernel_rfl) (fun v => by kernel_rfl) (fun v hv => (cp.out v).mono fun e w2 h => ⟨h.1, h.2 ▸ hv⟩) ?_
          simp only [Act.put, List.setIfInBounds_toArray, List.set_cons_zero, List.set_cons_succ]
          refine wqv (u := .bool false) (by kernel_rfl) (fun v hv => by go_simp) ?_
          simp only [Act.put, List.setIfInBounds_toArray, List.set_cons_zero, List.set_cons_succ]
          refine wqv (u := .bool false) (by kernel_rfl) (fun v hv => by kernel_rfl) ?_
          simp only [Act.put, List.setIfInBounds_toArray, List.set_cons_zero, List.set_cons_succ]
          refine wqv (u := .bool false) (by kernel_rfl) (fun v hv => by kernel_rfl) ?_
          simp only [Act.put, List.setIfInBounds_toArray, List.set_cons_zero, List.set_cons_succ]
          refine wqv (u := .bool false) (by kernel_rfl) (fun v hv => by kernel_rfl) ?_
          simp only [Act.put, List.setIfInBounds_toArray, List.set_cons_zero, List.set_cons_succ]
          refine wqnil (fun w2 hv => ?_)
          have B2 := hide (bw.out.trans (hv.mono (by omega)))
          clear hv
          go_wp2
          go_ret
          exact ⟨by rw [hk.out]; rfl, B2.out⟩

theorem An.ifmay (x : An) (n r : Int) (w : World) : (invoke (.fn (.method "amnesia/tally.mayBe") #[]) #[.iface 132 x.val, .int .i64 n, .int .i64 r]).run Tryz.prog w = .ok (.enter 206 #[x.val, .int .i64 n, .int .i64 r]) w := by kernel_rfl
/-- May these votes be, from this node on? -/
def An.ckl (c : Cg) (self : Int) : Int → List An → Bool
  | _, [] => true
  | least, x :: r => if x.n < least ∨ 2 * c.F + 1 ≤ x.n ∨ x.n = self ∨ An.mb x (2 * c.F + 1) c.R = false then false else An.ckl c self (x.n + 1) r
def An.ck (c : Cg) (self : Int) (L : List An) : Int := if c.ok = false then 1 else if An.ckl c self 0 L = true then 0 else 80
set_option maxRecDepth 100000 in
set_option maxHeartbeats 2000000 in
theorem An.check_any (c : Cg) (self : Int) (L : List An) (a : Option Addr) (n k : Nat) (w : World) (h : SlY yAnV w a n k L) (hlogs : ∀ x ∈ L, x.In w ∧ ∀ e ∈ x.s.D, e.fits) :
    Calls Tryz.prog 79 #[c.val, .int .i64 self, .slice a n k] w fun e w' => e = .returned (.int .i64 (An.ck c self L)) ∧ Below w.heap.size w w' := by
  have hmx := h.max
  have hcp := h.cap
  have hln := h.len
  unfold maxLen at hmx
  have H := hide h
  have HN := hide hln
  have HL := hide hlogs
  clear h hln hlogs
  have B0 : Hid (Below w.heap.size w (w.alloc (.cells #[.int .i64 c.F, .int .i64 c.R, .int .i64 c.P, .bool c.u] 23))) := (Below.refl _ w).alloc (Nat.le_refl _) _
  have cc := hide (fun W => configMayBe_any8 c W)
  unfold Cg.val at cc
  have HCK : Hid (An.ck c self L = if c.ok = false then 1 else if An.ckl c self 0 L = true then 0 else 80) := rfl
  generalize An.ck c self L = CK at *
  show Calls Tryz.prog 79 #[.agg #[.int .i64 c.F, .int .i64 c.R, .int .i64 c.P, .bool c.u], .int .i64 self, .slice a n k] w _
  go_enter Tryz.func79, Tryz.ntmps79
  go_wp2_with fail
  refine (cc.out _).mono ?_
  rintro e w1 ⟨rfl, b1⟩
  dsimp only
  have hz1 : w.heap.size + 1 ≤ w1.heap.size := by have := b1.size; simpa using this
  have D1 : Hid (Below (w.heap.size + 1) (w.alloc (.cells #[.int .i64 c.F, .int .i64 c.R, .int .i64 c.P, .bool c.u] 23)) w1) := by show Below _ _ _; simpa using b1
  clear b1 cc
  have KC : Hid (∀ v, Below (w.heap.size + 1) w1 v → v.cell? ⟨w.heap.size, 0, none⟩ = some (.int .i64 c.F) ∧ v.cell? ⟨w.heap.size, 1, none⟩ = some (.int .i64 c.R)) := fun v hv =>
    ⟨((D1.out.trans hv).cell (p := ⟨w.heap.size, 0, none⟩) (by simp)).trans (by simp), ((D1.out.trans hv).cell (p := ⟨w.heap.size, 1, none⟩) (by simp)).trans (by simp)⟩
  have E1 := hide (B0.out.trans (D1.out.mono (by omega)))
  by_cases hk : c.ok = true
  · have hF : 1 ≤ c.F ∧ c.F ≤ 3 ∧ 1 ≤ c.R ∧ c.R ≤ 256 := of_decide_eq_true hk
    obtain ⟨hF1, hF3, _, _⟩ := hF
    have HC2 : Hid (CK = if An.ckl c self 0 (L.drop 0) = true then 0 else 80) := by show _ = _; rw [HCK.out, hk, if_neg (by simp)]; rfl
    rw [hk]
    clear HCK hk
    have hw1 : IntKind.i64.wrap (2 * c.F) = 2 * c.F := by rw [IntKind.wrap_i64]; omega
    have hw2 : IntKind.i64.wrap (2 * c.F + 1) = 2 * c.F + 1 := by rw [IntKind.wrap_i64]; omega
    obtain ⟨k0, k1⟩ := KC.out w1 (Below.refl _ _)
    go_wp2
    go_loopw [20, 8] (fun i l wr => ∃ (j : Nat) (l' : Int), i = .int .i64 (j : Int) ∧ j ≤ n ∧ l = .int .i64 l' ∧ (0 ≤ l' ∧ l' ≤ 8) ∧ Hid (CK = if An.ckl c self l' (L.drop j) = true then 0 else 80) ∧ Hid (Below (w.heap.size + 1) w1 wr)) (fun i _ _ => n - (intOf i).toNat)
    case atStart => exact ⟨0, 0, rfl, Nat.zero_le _, rfl, ⟨Int.le_refl _, by omega⟩, HC2, Below.refl _ _⟩
    case round =>
      obtain ⟨j, l', rfl, hj, rfl, ⟨hl0, hl8⟩, hCK, hbl⟩ := hrel
      have zr : w.heap.size + 1 ≤ wr.heap.size := by have := hbl.out.size; omega
      by_cases hlt : j < n
      · have hjl : j < L.length := by rw [HN.out]; exact hlt
        have hg : L[j]? = some L[j] := List.getElem?_eq_getElem hjl
        obtain ⟨q, o, ea, hq, y0, y1, y2, y3, y4, y5⟩ := (H.out.later (E1.out.trans (hbl.out.mono (by omega)))).AnV hg
        cases ea
        have hCK1 : Hid (CK = if (if L[j].n < l' ∨ 2 * c.F + 1 ≤ L[j].n ∨ L[j].n = self ∨ An.mb L[j] (2 * c.F + 1) c.R = false then false else An.ckl c self (L[j].n + 1) (L.drop (j + 1))) = true then 0 else 80) := by
          show _ = _
          rw [hCK.out, List.drop_eq_getElem_cons hjl, An.ckl]
        have HX : Hid (L[j].In w ∧ ∀ e ∈ L[j].s.D, e.fits) := HL.out _ (List.getElem_mem hjl)
        clear hg hCK
        generalize L[j] = x at *
        have KX : Hid (∀ v, Below (wr.heap.size + 1) (wr.alloc (.cells #[.int .i64 x.n, .int .u64 x.h, .int .u64 x.l, .int .i64 x.v, .int .i64 x.c, .slice x.s.a x.s.D.length x.s.c] 132)) v → (v.cell? ⟨wr.heap.size, 0, none⟩ = some (.int .i64 x.n) ∧ v.cell? ⟨wr.heap.size, 1, none⟩ = some (.int .u64 x.h) ∧ v.cell? ⟨wr.heap.size, 2, none⟩ = some (.int .u64 x.l) ∧ v.cell? ⟨wr.heap.size, 3, none⟩ = some (.int .i64 x.v) ∧ v.cell? ⟨wr.heap.size, 4, none⟩ = some (.int .i64 x.c) ∧ v.cell? ⟨wr.heap.size, 5, none⟩ = some (.slice x.s.a x.s.D.length x.s.c)) ∧ (v.cell? ⟨w.heap.size, 0, none⟩ = some (.int .i64 c.F) ∧ v.cell? ⟨w.heap.size, 1, none⟩ = some (.int .i64 c.R))) := fun v hv =>
          ⟨⟨(hv.cell (p := ⟨wr.heap.size, 0, none⟩) (by simp)).trans (by simp), (hv.cell (p := ⟨wr.heap.size, 1, none⟩) (by simp)).trans (by simp), (hv.cell (p := ⟨wr.heap.size, 2, none⟩) (by simp)).trans (by simp), (hv.cell (p := ⟨wr.heap.size, 3, none⟩) (by simp)).trans (by simp), (hv.cell (p := ⟨wr.heap.size, 4, none⟩) (by simp)).trans (by simp), (hv.cell (p := ⟨wr.heap.size, 5, none⟩) (by simp)).trans (by simp)⟩, KC.out v ((hbl.out.alloc zr _).trans (hv.mono (by omega)))⟩
        have hza : Hid ((wr.alloc (.cells #[.int .i64 x.n, .int .u64 x.h, .int .u64 x.l, .int .i64 x.v, .int .i64 x.c, .slice x.s.a x.s.D.length x.s.c] 132)).heap.size = wr.heap.size + 1) := by show _ = _; simp
        have D0 : Hid (Below (wr.heap.size + 1) (wr.alloc (.cells #[.int .i64 x.n, .int .u64 x.h, .int .u64 x.l, .int .i64 x.v, .int .i64 x.c, .slice x.s.a x.s.D.length x.s.c] 132)) (wr.alloc (.cells #[.int .i64 x.n, .int .u64 x.h, .int .u64 x.l, .int .i64 x.v, .int .i64 x.c, .slice x.s.a x.s.D.length x.s.c] 132))) := Below.refl _ _
        have EB : Hid (Below (w.heap.size + 1) w1 (wr.alloc (.cells #[.int .i64 x.n, .int .u64 x.h, .int .u64 x.l, .int .i64 x.v, .int .i64 x.c, .slice x.s.a x.s.D.length x.s.c] 132))) := hbl.out.alloc zr _
        have EE := hide (E1.out.trans (EB.out.mono (by omega)))
        have cn := hide (fun W => x.node_any W)
        unfold An.val at cn
        have cm := hide (fun W (hW : Below w.heap.size w W) => x.may_any (2 * c.F + 1) c.R W (HX.out.1.later hW) HX.out.2 (by omega) (by omega))
        unfold An.val at cm
        obtain ⟨k0, k1⟩ := KC.out _ EB.out
        go_wp2_with fail
        refine (cn.out _).mono ?_
        rintro e w2 ⟨rfl, bb⟩
        have D2 := hide (D0.out.trans (bb.mono (by have := D0.out.size; have h2 := hza.out; omega)))
        clear bb y0 y1 y2 y3 y4 y5 k0 k1
        obtain ⟨⟨y0, y1, y2, y3, y4, y5⟩, ⟨k0, k1⟩⟩ := KX.out w2 D2.out
        dsimp only
        by_cases h1 : x.n < l'
        · have hCK2 : Hid (CK = 80) := by show _ = _; rw [hCK1.out, if_pos (c := x.n < l' ∨ 2 * c.F + 1 ≤ x.n ∨ x.n = self ∨ An.mb x (2 * c.F + 1) c.R = false) (.inl h1)]; rfl
          clear hCK1
          go_wp2
          go_ret
          exact ⟨by rw [hCK2.out]; rfl, EE.out.trans (D2.out.mono (by omega))⟩
        · go_wp2_with fail
          refine (cn.out _).mono ?_
          rintro e w3 ⟨rfl, bb⟩
          have D3 := hide (D2.out.trans (bb.mono (by have := D2.out.size; have h2 := hza.out; omega)))
          clear bb y0 y1 y2 y3 y4 y5 k0 k1
          obtain ⟨⟨y0, y1, y2, y3, y4, y5⟩, ⟨k0, k1⟩⟩ := KX.out w3 D3.out
          dsimp only
          by_cases h2 : 2 * c.F + 1 ≤ x.n
          · have hCK2 : Hid (CK = 80) := by show _ = _; rw [hCK1.out, if_pos (c := x.n < l' ∨ 2 * c.F + 1 ≤ x.n ∨ x.n = self ∨ An.mb x (2 * c.F + 1) c.R = false) (.inr (.inl h2))]; rfl
            clear hCK1
            go_wp2
            go_ret
            exact ⟨by rw [hCK2.out]; rfl, EE.out.trans (D3.out.mono (by omega))⟩
          · go_wp2_with fail
            refine (cn.out _).mono ?_
            rintro e w4 ⟨rfl, bb⟩
            have D4 := hide (D3.out.trans (bb.mono (by have := D3.out.size; have h2 := hza.out; omega)))
            clear bb y0 y1 y2 y3 y4 y5 k0 k1
            obtain ⟨⟨y0, y1, y2, y3, y4, y5⟩, ⟨k0, k1⟩⟩ := KX.out w4 D4.out
            dsimp only
            by_cases h3 : x.n = self
            · have h3b : (x.n == self) = true := by simp [h3]
              have H3 := hide h3
              clear h3
              have hCK2 : Hid (CK = 80) := by show _ = _; rw [hCK1.out, if_pos (c := x.n < l' ∨ 2 * c.F + 1 ≤ x.n ∨ x.n = self ∨ An.mb x (2 * c.F + 1) c.R = false) (.inr (.inr (.inl H3.out)))]; rfl
              clear hCK1
              go_wp2
              go_ret
              exact ⟨by rw [hCK2.out]; rfl, EE.out.trans (D4.out.mono (by omega))⟩
            · have h3b : (x.n == self) = false := by simp [h3]
              go_wp2_with fail
              refine (cm.out _ (EE.out.trans (D4.out.mono (by omega)))).mono ?_
              rintro e w5 ⟨rfl, bb⟩
              have D5 := hide (D4.out.trans (bb.mono (by have := D4.out.size; have h2 := hza.out; omega)))
              clear bb y0 y1 y2 y3 y4 y5 k0 k1
              obtain ⟨⟨y0, y1, y2, y3, y4, y5⟩, ⟨k0, k1⟩⟩ := KX.out w5 D5.out
              dsimp only
              cases hmb : An.mb x (2 * c.F + 1) c.R with
              | false =>
                have hCK2 : Hid (CK = 80) := by show _ = _; rw [hCK1.out, if_pos (c := x.n < l' ∨ 2 * c.F + 1 ≤ x.n ∨ x.n = self ∨ An.mb x (2 * c.F + 1) c.R = false) (.inr (.inr (.inr hmb)))]; rfl
                clear hCK1
                go_wp2
                go_ret
                exact ⟨by rw [hCK2.out]; rfl, EE.out.trans (D5.out.mono (by omega))⟩
              | true =>
                have hCK2 : Hid (CK = if An.ckl c self (x.n + 1) (L.drop (j + 1)) = true then 0 else 80) := by
                  show _ = _
                  have hno : ¬ (x.n < l' ∨ 2 * c.F + 1 ≤ x.n ∨ x.n = self ∨ An.mb x (2 * c.F + 1) c.R = false) := by
                    rintro (hc | hc | hc | hc)
                    · omega
                    · omega
                    · exact h3 hc
                    · rw [hmb] at hc; cases hc
                  rw [hCK1.out, if_neg hno]
                have hw3 : IntKind.i64.wrap (x.n + 1) = x.n + 1 := by rw [IntKind.wrap_i64]; omega
                clear hCK1 hmb
                go_wp2_with fail
                refine (cn.out _).mono ?_
                rintro e w6 ⟨rfl, bb⟩
                have D6 := hide (D5.out.trans (bb.mono (by have := D5.out.size; have h2 := hza.out; omega)))
                clear bb y0 y1 y2 y3 y4 y5 k0 k1
                obtain ⟨⟨y0, y1, y2, y3, y4, y5⟩, ⟨k0, k1⟩⟩ := KX.out w6 D6.out
                dsimp only
                go_wp2
                go_round
                case rel => exact ⟨j + 1, x.n + 1, by go_num, by omega, rfl, ⟨by omega, by omega⟩, hCK2, EB.out.trans (D6.out.mono (by omega))⟩
                case measure => first | (simp [intOf]; done) | (simp [intOf]; omega)
      · obtain rfl : j = n := by omega
        have hCK1 : Hid (CK = 0) := by show _ = _; rw [hCK.out, List.drop_of_length_le (by rw [HN.out]; exact Nat.le_refl _), An.ckl, if_pos rfl]
        clear hCK
        go_wp2
        go_ret
        exact ⟨by rw [hCK1.out]; rfl, E1.out.trans (hbl.out.mono (by omega))⟩
  · have hk2 : c.ok = false := by simpa using hk
    have hCK1 : Hid (CK = 1) := by show _ = _; rw [HCK.out, if_pos hk2]
    rw [hk2]
    clear HCK
    go_wp2
    go_ret
    exact ⟨by rw [hCK1.out]; rfl, E1.out⟩

set_option maxRecDepth 100000 in
set_option maxHeartbeats 1000000 in
theorem An.Check_any (c : Cg) (self : Int) (L : List An) (a : Option Addr) (n k : Nat) (w : World) (h : SlY yAnA w a n k L) (hb : n * 64 ≤ 281474976710656) (hlogs : ∀ x ∈ L, x.In w ∧ ∀ e ∈ x.s.D, e.fits) :
    Calls Tryz.prog 33 #[c.val, .int .i64 self, .slice a n k] w fun e w' => e = .returned (.int .i64 (An.ck c self L)) ∧ Below w.heap.size w w' := by
  have B0 : Hid (Below w.heap.size w (w.alloc (.cells #[.int .i64 c.F, .int .i64 c.R, .int .i64 c.P, .bool c.u] 23))) := (Below.refl _ w).alloc (Nat.le_refl _) _
  have hwz : Hid ((w.alloc (.cells #[.int .i64 c.F, .int .i64 c.R, .int .i64 c.P, .bool c.u] 23)).heap.size = w.heap.size + 1) := by show _ = _; simp
  have KC : Hid (∀ v, Below (w.heap.size + 1) (w.alloc (.cells #[.int .i64 c.F, .int .i64 c.R, .int .i64 c.P, .bool c.u] 23)) v → v.cell? ⟨w.heap.size, 0, none⟩ = some (.int .i64 c.F) ∧ v.cell? ⟨w.heap.size, 1, none⟩ = some (.int .i64 c.R) ∧ v.cell? ⟨w.heap.size, 2, none⟩ = some (.int .i64 c.P) ∧ v.cell? ⟨w.heap.size, 3, none⟩ = some (.bool c.u)) := fun v hv =>
    ⟨(hv.cell (p := ⟨w.heap.size, 0, none⟩) (by simp)).trans (by simp), (hv.cell (p := ⟨w.heap.size, 1, none⟩) (by simp)).trans (by simp), (hv.cell (p := ⟨w.heap.size, 2, none⟩) (by simp)).trans (by simp), (hv.cell (p := ⟨w.heap.size, 3, none⟩) (by simp)).trans (by simp)⟩
  have H := hide h
  clear h
  have ck := hide (fun W (hW : Below w.heap.size w W) a' n' k' (hs : SlY yAnV W a' n' k' L) => An.check_any c self L a' n' k' W hs (fun x hx => ⟨(hlogs x hx).1.later hW, (hlogs x hx).2⟩))
  clear hlogs
  unfold Cg.val at ck
  generalize An.ck c self L = CK at *
  show Calls Tryz.prog 33 #[.agg #[.int .i64 c.F, .int .i64 c.R, .int .i64 c.P, .bool c.u], .int .i64 self, .slice a n k] w _
  generalize hw0 : w.alloc (.cells #[.int .i64 c.F, .int .i64 c.R, .int .i64 c.P, .bool c.u] 23) = w0 at *
  have s0 := KC.out _ (Below.refl (w.heap.size + 1) w0).drew
  go_enter Tryz.func33, Tryz.ntmps33
  go_wp2_with fail
  try rw [hw0]
  clear hw0
  go_region_held3 (fun v => v.cell? ⟨w.heap.size, 0, none⟩ = some (.int .i64 c.F) ∧ v.cell? ⟨w.heap.size, 1, none⟩ = some (.int .i64 c.R) ∧ v.cell? ⟨w.heap.size, 2, none⟩ = some (.int .i64 c.P) ∧ v.cell? ⟨w.heap.size, 3, none⟩ = some (.bool c.u)) (with_reducible assumption) (first
    | (have := D2; go_at_call 79; refine (ck.out _ (B0.out.trans (D2.out.mono (by omega))) _ _ _ (o2.sl' kAnV)).mono ?_; rintro e w3 ⟨rfl, b3⟩; have D3 := hide (D2.out.trans (b3.mono (by have := D2.out.size; have h2 := hwz.out; omega))); have s3 := KC.out w3 D3.out; clear b3 o2)
    | (go_at_call 80; refine (An.hold_any L a n k _ (H.out.later B0.out.drew) hb).mono ?_; rintro e w2 ⟨rfl, o2, b2⟩; have D2 := hide ((Below.refl (w.heap.size + 1) w0).drew.trans (b2.mono (by show _ ≤ w0.heap.size; rw [hwz.out]; exact Nat.le_refl _))); have s2 := KC.out w2 D2.out; clear b2))
  go_wp2
  go_ret
  exact ⟨rfl, B0.out.trans (D3.out.mono (by omega))⟩

end Go.Proofs.YtcmjhaljbmhpgaaGreat
