import Derived.Test.YtcmjhaljbmhpgaaGreatGOc
import Derived.Test.YtcmjhaljbmhpgaaGreatOe
import Derived.Test.YtcmjhaljbmhpgaaGreatSf8
import Derived.Test.YtcmjhaljbmhpgaaGreatFz
import Derived.Test.YtcmjhaljbmhpgaaGreatSa
namespace Go.Proofs.YtcmjhaljbmhpgaaGreat
open Go.RowKit Go.Maps
open Classical
set_option linter.unusedVariables false
set_option linter.unusedSimpArgs false

set_option maxRecDepth 100000 in
/-- The document's config. -/
theorem refconfig_any (c : Cg) (w : World) : Calls Tryz.prog 47 #[.agg #[.int .i64 c.F, .int .i64 c.R, .int .i64 c.P, .bool c.u]] w fun e w' => e = .returned (.int .i64 (if c.ok = true then 0 else 1)) ∧ Below w.heap.size w w' := by
  have bw : Hid (Below w.heap.size w (w.alloc (.cells #[.int .i64 c.F, .int .i64 c.R, .int .i64 c.P, .bool c.u] 23))) := (Below.refl _ w).alloc (Nat.le_refl _) _
  have HK : Hid ((if c.ok = true then (0 : Int) else 1) = if 1 ≤ c.F ∧ c.F ≤ 3 ∧ 1 ≤ c.R ∧ c.R ≤ 256 then 0 else 1) := by
    show _ = _
    unfold Cg.ok
    simp only [decide_eq_true_eq]
  generalize (if c.ok = true then (0 : Int) else 1) = r at *
  by_cases h1 : c.F < 1
  · have hk : Hid (r = 1) := by show _ = _; rw [HK.out, if_neg (by omega)]
    go_enter Tryz.func47, Tryz.ntmps47
    go_wp2
    go_ret
    exact ⟨by rw [hk.out]; rfl, bw.out⟩
  by_cases h2 : 3 < c.F
  · have hk : Hid (r = 1) := by show _ = _; rw [HK.out, if_neg (by omega)]
    go_enter Tryz.func47, Tryz.ntmps47
    go_wp2
    go_ret
    exact ⟨by rw [hk.out]; rfl, bw.out⟩
  by_cases h3 : c.R < 1
  · have hk : Hid (r = 1) := by show _ = _; rw [HK.out, if_neg (by omega)]
    go_enter Tryz.func47, Tryz.ntmps47
    go_wp2
    go_ret
    exact ⟨by rw [hk.out]; rfl, bw.out⟩
  by_cases h4 : 256 < c.R
  · have hk : Hid (r = 1) := by show _ = _; rw [HK.out, if_neg (by omega)]
    go_enter Tryz.func47, Tryz.ntmps47
    go_wp2
    go_ret
    exact ⟨by rw [hk.out]; rfl, bw.out⟩
  have hk : Hid (r = 0) := by show _ = _; rw [HK.out, if_pos (by omega)]
  go_enter Tryz.func47, Tryz.ntmps47
  go_wp2
  go_ret
  exact ⟨by rw [hk.out]; rfl, bw.out⟩
/-- May a node stand behind the one ahead of it? -/
def vot (c : Cg) (self ahead node : Int) : Bool := decide (ahead < node ∧ 0 ≤ node ∧ node < 2 * c.F + 1 ∧ node ≠ self)
set_option maxRecDepth 100000 in
theorem refvoter_any (c : Cg) (self ahead node : Int) (w : World) (h1 : 1 ≤ c.F) (h3 : c.F ≤ 3) : Calls Tryz.prog 48 #[.agg #[.int .i64 c.F, .int .i64 c.R, .int .i64 c.P, .bool c.u], .int .i64 self, .int .i64 ahead, .int .i64 node] w fun e w' => e = .returned (.bool (vot c self ahead node)) ∧ Below w.heap.size w w' := by
  have bw : Hid (Below w.heap.size w (w.alloc (.cells #[.int .i64 c.F, .int .i64 c.R, .int .i64 c.P, .bool c.u] 23))) := (Below.refl _ w).alloc (Nat.le_refl _) _
  have hw1 : IntKind.i64.wrap (2 * c.F) = 2 * c.F := by rw [IntKind.wrap_i64]; omega
  have hw2 : IntKind.i64.wrap (2 * c.F + 1) = 2 * c.F + 1 := by rw [IntKind.wrap_i64]; omega
  have HK : Hid (vot c self ahead node = decide (ahead < node ∧ 0 ≤ node ∧ node < 2 * c.F + 1 ∧ node ≠ self)) := rfl
  generalize vot c self ahead node = V at *
  by_cases g1 : ahead < node
  · by_cases g2 : 0 ≤ node
    · by_cases g3 : node < 2 * c.F + 1
      · by_cases g4 : node = self
        · have hk : Hid (V = false) := by show _ = _; rw [HK.out]; exact decide_eq_false (fun h => h.2.2.2 g4)
          have g4b : (node != self) = false := by simp [g4]
          clear g4
          go_enter Tryz.func48, Tryz.ntmps48
          go_wp2
          go_ret
          exact ⟨by rw [hk.out]; rfl, bw.out⟩
        · have hk : Hid (V = true) := by show _ = _; rw [HK.out]; exact decide_eq_true ⟨g1, g2, g3, g4⟩
          have g4b : (node != self) = true := by simp [g4]
          go_enter Tryz.func48, Tryz.ntmps48
          go_wp2
          go_ret
          exact ⟨by rw [hk.out]; rfl, bw.out⟩
      · have hk : Hid (V = false) := by show _ = _; rw [HK.out]; exact decide_eq_false (fun h => g3 h.2.2.1)
        go_enter Tryz.func48, Tryz.ntmps48
        go_wp2
        go_ret
        exact ⟨by rw [hk.out]; rfl, bw.out⟩
    · have hk : Hid (V = false) := by show _ = _; rw [HK.out]; exact decide_eq_false (fun h => g2 h.2.1)
      go_enter Tryz.func48, Tryz.ntmps48
      go_wp2
      go_ret
      exact ⟨by rw [hk.out]; rfl, bw.out⟩
  · have hk : Hid (V = false) := by show _ = _; rw [HK.out]; exact decide_eq_false (fun h => g1 h.1)
    go_enter Tryz.func48, Tryz.ntmps48
    go_wp2
    go_ret
    exact ⟨by rw [hk.out]; rfl, bw.out⟩
set_option maxRecDepth 100000 in
set_option maxHeartbeats 1000000 in
theorem refover_any (D : List (Int × Int)) (a : Option Addr) (n c : Nat) (nd h l : Int) (w : World) (hD : SlY yD w a n c D) :
    Calls Tryz.prog 55 #[.slice a n c, .int .i64 nd, .agg #[.int .u64 h, .int .u64 l]] w fun e w' => e = .returned (.bool (ovr D nd h l)) ∧ Below w.heap.size w w' := by
  have hmx := hD.max
  have hcp := hD.cap
  have hln := hD.len
  unfold maxLen at hmx
  have HB : Hid (∀ v, Below (w.heap.size + 1) (w.alloc (.cells #[.int .u64 h, .int .u64 l] 27)) v → Below w.heap.size w v) := fun v hv => ((Below.refl _ w).alloc (Nat.le_refl _) _).trans (hv.mono (by omega))
  have HV : Hid (ovr D nd h l = (decide (0 ≤ nd ∧ nd < (n : Int)) && decide (cmpD h l (D.getD nd.toNat (0, 0)).1 (D.getD nd.toNat (0, 0)).2 < 0))) := by show _ = _; unfold ovr; rw [hln]
  generalize ovr D nd h l = V at *
  by_cases h0 : 0 ≤ nd
  · by_cases h1 : nd < (n : Int)
    · obtain ⟨j, rfl⟩ : ∃ j : Nat, nd = (j : Int) := ⟨nd.toNat, by omega⟩
      have hj : j < n := by omega
      have hg : D[j]? = some (D[j]'(by omega)) := List.getElem?_eq_getElem (by omega)
      obtain ⟨q, o, rfl, hq, hl⟩ := hD.place (by rintro rfl; simp at hg)
      have x0 := hl j _ hg 0 _ rfl
      have x1 := hl j _ hg 1 _ rfl
      have HV2 : Hid (V = decide (cmpD h l (D[j]'(by omega)).1 (D[j]'(by omega)).2 < 0)) := by
        show _ = _
        rw [HV.out, decide_eq_true (show (0 : Int) ≤ (j : Int) ∧ (j : Int) < (n : Int) from ⟨h0, h1⟩), Bool.true_and, Int.toNat_natCast, List.getD_eq_getElem?_getD, hg, Option.getD_some]
      clear HV hl hg
      generalize (D[j]'(by omega)) = x at *
      have CC := hide (fun W => refcompare_any h l x.1 x.2 W)
      generalize cmpD h l x.1 x.2 = r at *
      have KC : Hid (∀ v, Below (w.heap.size + 1) (w.alloc (.cells #[.int .u64 h, .int .u64 l] 27)) v → (v.cell? ⟨w.heap.size, 0, none⟩ = some (.int .u64 h) ∧ v.cell? ⟨w.heap.size, 1, none⟩ = some (.int .u64 l)) ∧ (v.cell? ⟨q, o + j * 2, none⟩ = some (.int .u64 x.1) ∧ v.cell? ⟨q, o + j * 2 + 1, none⟩ = some (.int .u64 x.2))) := fun v hv =>
        ⟨⟨(hv.cell (p := ⟨w.heap.size, 0, none⟩) (by simp)).trans (by simp), (hv.cell (p := ⟨w.heap.size, 1, none⟩) (by simp)).trans (by simp)⟩, ⟨((HB.out v hv).cell (p := ⟨q, _, none⟩) hq).trans x0, ((HB.out v hv).cell (p := ⟨q, _, none⟩) hq).trans x1⟩⟩
      have KZ : Hid (∀ v, Below (w.heap.size + 1) (w.alloc (.cells #[.int .u64 h, .int .u64 l] 27)) v → w.heap.size + 1 ≤ v.heap.size) := fun v hv => by have := hv.size; simpa using this
      clear x0 x1 hD
      go_enter Tryz.func55, Tryz.ntmps55
      go_wp2_with fail
      refine region_q9 (C := fun v => Below (w.heap.size + 1) (w.alloc (.cells #[.int .u64 h, .int .u64 l] 27)) v) (by kernel_rfl) (by kernel_rfl) (Below.refl _ _).drew ?_
      refine wqv (u := .int .i64 (j : Int)) (by kernel_rfl) (fun v hv => by kernel_rfl) ?_
      simp only [Act.put, List.setIfInBounds_toArray, List.set_cons_zero, List.set_cons_succ]
      refine wqv (u := .bool true) (by kernel_rfl) (fun v hv => by go_simp) ?_
      simp only [Act.put, List.setIfInBounds_toArray, List.set_cons_zero, List.set_cons_succ]
      refine wqv (u := .bool true) (by kernel_rfl) (fun v hv => by kernel_rfl) ?_
      simp only [Act.put, List.setIfInBounds_toArray, List.set_cons_zero, List.set_cons_succ]
      refine wqv (u := .int .i64 (j : Int)) (by kernel_rfl) (fun v hv => by kernel_rfl) ?_
      simp only [Act.put, List.setIfInBounds_toArray, List.set_cons_zero, List.set_cons_succ]
      refine wqv (u := .slice (some ⟨q, o, none⟩) n c) (by kernel_rfl) (fun v hv => by kernel_rfl) ?_
      simp only [Act.put, List.setIfInBounds_toArray, List.set_cons_zero, List.set_cons_succ]
      refine wqv (u := .int .i64 (n : Int)) (by kernel_rfl) (fun v hv => by go_simp) ?_
      simp only [Act.put, List.setIfInBounds_toArray, List.set_cons_zero, List.set_cons_succ]
      refine wqv (u := .bool true) (by kernel_rfl) (fun v hv => by go_simp) ?_
      simp only [Act.put, List.setIfInBounds_toArray, List.set_cons_zero, List.set_cons_succ]
      refine wqv (u := .bool true) (by kernel_rfl) (fun v hv => by kernel_rfl) ?_
      simp only [Act.put, List.setIfInBounds_toArray, List.set_cons_zero, List.set_cons_succ]
      refine wqv (u := .bool true) (by kernel_rfl) (fun v hv => by kernel_rfl) ?_
      simp only [Act.put, List.setIfInBounds_toArray, List.set_cons_zero, List.set_cons_succ]
      refine wqv (u := .agg #[.int .u64 h, .int .u64 l]) (by kernel_rfl) (fun v hv => by obtain ⟨⟨y0, y1⟩, _⟩ := KC.out v hv; go_simp) ?_
      simp only [Act.put, List.setIfInBounds_toArray, List.set_cons_zero, List.set_cons_succ]
      refine wqv (u := .slice (some ⟨q, o, none⟩) n c) (by kernel_rfl) (fun v hv => by kernel_rfl) ?_
      simp only [Act.put, List.setIfInBounds_toArray, List.set_cons_zero, List.set_cons_succ]
      refine wqv (u := .int .i64 (j : Int)) (by kernel_rfl) (fun v hv => by kernel_rfl) ?_
      simp only [Act.put, List.setIfInBounds_toArray, List.set_cons_zero, List.set_cons_succ]
      refine wqv (u := .pointer (some ⟨q, o + j * 2, none⟩)) (by kernel_rfl) (fun v hv => by go_simp) ?_
      simp only [Act.put, List.setIfInBounds_toArray, List.set_cons_zero, List.set_cons_succ]
      refine wqv (u := .agg #[.int .u64 x.1, .int .u64 x.2]) (by kernel_rfl) (fun v hv => by obtain ⟨_, ⟨y0, y1⟩⟩ := KC.out v hv; go_simp) ?_
      simp only [Act.put, List.setIfInBounds_toArray, List.set_cons_zero, List.set_cons_succ]
      refine wqc (fid := 94) (args := #[.agg #[.int .u64 h, .int .u64 l], .agg #[.int .u64 x.1, .int .u64 x.2]]) (u := .int .i64 r) (by kernel_rfl) (fun v => by kernel_rfl) (fun v hv => (CC.out v).mono fun e w' h => ⟨h.1, hv.trans (h.2.mono (KZ.out v hv))⟩) ?_
      simp only [Act.put, List.setIfInBounds_toArray, List.set_cons_zero, List.set_cons_succ]
      refine wqv (u := .bool (decide (r < 0))) (by kernel_rfl) (fun v hv => by go_simp) ?_
      simp only [Act.put, List.setIfInBounds_toArray, List.set_cons_zero, List.set_cons_succ]
      refine wqv (u := .bool (decide (r < 0))) (by kernel_rfl) (fun v hv => by kernel_rfl) ?_
      simp only [Act.put, List.setIfInBounds_toArray, List.set_cons_zero, List.set_cons_succ]
      refine wqv (u := .bool (decide (r < 0))) (by kernel_rfl) (fun v hv => by kernel_rfl) ?_
      simp only [Act.put, List.setIfInBounds_toArray, List.set_cons_zero, List.set_cons_succ]
      refine wqnil (fun v hv => ?_)
      have BV := hide (HB.out v hv)
      clear hv KC KZ CC HB
      go_wp2
      go_ret
      exact ⟨by rw [HV2.out]; rfl, BV.out⟩
    · have hV : V = false := by rw [HV.out, decide_eq_false (fun e => h1 e.2), Bool.false_and]
      subst hV
      clear HV hD
      go_enter Tryz.func55, Tryz.ntmps55
      go_wp2_with fail
      refine region_q9 (C := fun v => Below (w.heap.size + 1) (w.alloc (.cells #[.int .u64 h, .int .u64 l] 27)) v) (by kernel_rfl) (by kernel_rfl) (Below.refl _ _).drew ?_
      refine wqv (u := .int .i64 nd) (by kernel_rfl) (fun v hv => by kernel_rfl) ?_
      simp only [Act.put, List.setIfInBounds_toArray, List.set_cons_zero, List.set_cons_succ]
      refine wqv (u := .bool true) (by kernel_rfl) (fun v hv => by go_simp) ?_
      simp only [Act.put, List.setIfInBounds_toArray, List.set_cons_zero, List.set_cons_succ]
      refine wqv (u := .bool true) (by kernel_rfl) (fun v hv => by kernel_rfl) ?_
      simp only [Act.put, List.setIfInBounds_toArray, List.set_cons_zero, List.set_cons_succ]
      refine wqv (u := .int .i64 nd) (by kernel_rfl) (fun v hv => by kernel_rfl) ?_
      simp only [Act.put, List.setIfInBounds_toArray, List.set_cons_zero, List.set_cons_succ]
      refine wqv (u := .slice a n c) (by kernel_rfl) (fun v hv => by kernel_rfl) ?_
      simp only [Act.put, List.setIfInBounds_toArray, List.set_cons_zero, List.set_cons_succ]
      refine wqv (u := .int .i64 (n : Int)) (by kernel_rfl) (fun v hv => by go_simp) ?_
      simp only [Act.put, List.setIfInBounds_toArray, List.set_cons_zero, List.set_cons_succ]
      refine wqv (u := .bool false) (by kernel_rfl) (fun v hv => by go_simp) ?_
      simp only [Act.put, List.setIfInBounds_toArray, List.set_cons_zero, List.set_cons_succ]
      refine wqv (u := .bool false) (by kernel_rfl) (fun v hv => by kernel_rfl) ?_
      simp only [Act.put, List.setIfInBounds_toArray, List.set_cons_zero, List.set_cons_succ]
      refine wqv (u := .bool false) (by kernel_rfl) (fun v hv => by kernel_rfl) ?_
      simp only [Act.put, List.setIfInBounds_toArray, List.set_cons_zero, List.set_cons_succ]
      refine wqskip (by kernel_rfl) ?_
      simp only [Act.put, List.setIfInBounds_toArray, List.set_cons_zero, List.set_cons_succ]
      refine wqskip (by kernel_rfl) ?_
      simp only [Act.put, List.setIfInBounds_toArray, List.set_cons_zero, List.set_cons_succ]
      refine wqskip (by kernel_rfl) ?_
      simp only [Act.put, List.setIfInBounds_toArray, List.set_cons_zero, List.set_cons_succ]
      refine wqskip (by kernel_rfl) ?_
      simp only [Act.put, List.setIfInBounds_toArray, List.set_cons_zero, List.set_cons_succ]
      refine wqskip (by kernel_rfl) ?_
      simp only [Act.put, List.setIfInBounds_toArray, List.set_cons_zero, List.set_cons_succ]
      refine wqskip (by kernel_rfl) ?_
      simp only [Act.put, List.setIfInBounds_toArray, List.set_cons_zero, List.set_cons_succ]
      refine wqskip (by kernel_rfl) ?_
      simp only [Act.put, List.setIfInBounds_toArray, List.set_cons_zero, List.set_cons_succ]
      refine wqv (u := .bool false) (by kernel_rfl) (fun v hv => by kernel_rfl) ?_
      simp only [Act.put, List.setIfInBounds_toArray, List.set_cons_zero, List.set_cons_succ]
      refine wqv (u := .bool false) (by kernel_rfl) (fun v hv => by kernel_rfl) ?_
      simp only [Act.put, List.setIfInBounds_toArray, List.set_cons_zero, List.set_cons_succ]
      refine wqnil (fun v hv => ?_)
      have BV := hide (HB.out v hv)
      clear hv HB
      go_wp2
      go_ret
      exact ⟨rfl, BV.out⟩
  · have hV : V = false := by rw [HV.out, decide_eq_false (fun e => h0 e.1), Bool.false_and]
    subst hV
    clear HV hD
    go_enter Tryz.func55, Tryz.ntmps55
    go_wp2_with fail
    refine region_q9 (C := fun v => Below (w.heap.size + 1) (w.alloc (.cells #[.int .u64 h, .int .u64 l] 27)) v) (by kernel_rfl) (by kernel_rfl) (Below.refl _ _).drew ?_
    refine wqv (u := .int .i64 nd) (by kernel_rfl) (fun v hv => by kernel_rfl) ?_
    simp only [Act.put, List.setIfInBounds_toArray, List.set_cons_zero, List.set_cons_succ]
    refine wqv (u := .bool false) (by kernel_rfl) (fun v hv => by go_simp) ?_
    simp only [Act.put, List.setIfInBounds_toArray, List.set_cons_zero, List.set_cons_succ]
    refine wqv (u := .bool false) (by kernel_rfl) (fun v hv => by kernel_rfl) ?_
    simp only [Act.put, List.setIfInBounds_toArray, List.set_cons_zero, List.set_cons_succ]
    refine wqskip (by kernel_rfl) ?_
    simp only [Act.put, List.setIfInBounds_toArray, List.set_cons_zero, List.set_cons_succ]
    refine wqskip (by kernel_rfl) ?_
    simp only [Act.put, List.setIfInBounds_toArray, List.set_cons_zero, List.set_cons_succ]
    refine wqskip (by kernel_rfl) ?_
    simp only [Act.put, List.setIfInBounds_toArray, List.set_cons_zero, List.set_cons_succ]
    refine wqskip (by kernel_rfl) ?_
    simp only [Act.put, List.setIfInBounds_toArray, List.set_cons_zero, List.set_cons_succ]
    refine wqv (u := .bool false) (by kernel_rfl) (fun v hv => by kernel_rfl) ?_
    simp only [Act.put, List.setIfInBounds_toArray, List.set_cons_zero, List.set_cons_succ]
    refine wqv (u := .bool false) (by kernel_rfl) (fun v hv => by kernel_rfl) ?_
    simp only [Act.put, List.setIfInBounds_toArray, List.set_cons_zero, List.set_cons_succ]
    refine wqskip (by kernel_rfl) ?_
    simp only [Act.put, List.setIfInBounds_toArray, List.set_cons_zero, List.set_cons_succ]
    refine wqskip (by kernel_rfl) ?_
    simp only [Act.put, List.setIfInBounds_toArray, List.set_cons_zero, List.set_cons_succ]
    refine wqskip (by kernel_rfl) ?_
    simp only [Act.put, List.setIfInBounds_toArray, List.set_cons_zero, List.set_cons_succ]
    refine wqskip (by kernel_rfl) ?_
    simp only [Act.put, List.setIfInBounds_toArray, List.set_cons_zero, List.set_cons_succ]
    refine wqskip (by kernel_rfl) ?_
    simp only [Act.put, List.setIfInBounds_toArray, List.set_cons_zero, List.set_cons_succ]
    refine wqskip (by kernel_rfl) ?_
    simp only [Act.put, List.setIfInBounds_toArray, List.set_cons_zero, List.set_cons_succ]
    refine wqskip (by kernel_rfl) ?_
    simp only [Act.put, List.setIfInBounds_toArray, List.set_cons_zero, List.set_cons_succ]
    refine wqv (u := .bool false) (by kernel_rfl) (fun v hv => by kernel_rfl) ?_
    simp only [Act.put, List.setIfInBounds_toArray, List.set_cons_zero, List.set_cons_succ]
    refine wqv (u := .bool false) (by kernel_rfl) (fun v hv => by kernel_rfl) ?_
    simp only [Act.put, List.setIfInBounds_toArray, List.set_cons_zero, List.set_cons_succ]
    refine wqnil (fun v hv => ?_)
    have BV := hide (HB.out v hv)
    clear hv HB
    go_wp2
    go_ret
    exact ⟨rfl, BV.out⟩


set_option maxRecDepth 100000 in
set_option maxHeartbeats 400000 in
/-- The document's takes. -/
theorem reftakes_any (h l h' l' : Int) (g : Bool) (w : World) : Calls Tryz.prog 53 #[.agg #[.int .u64 h, .int .u64 l], .agg #[.int .u64 h', .int .u64 l'], .bool g] w fun e w' => e = .returned (.bool (decide (0 < cmpD h l h' l') || (decide (cmpD h l h' l' = 0) && g))) ∧ Below w.heap.size w w' := by
  have bw : Hid (Below w.heap.size w ((w.alloc (.cells #[.int .u64 h, .int .u64 l] 27)).alloc (.cells #[.int .u64 h', .int .u64 l'] 27))) := ((Below.refl _ w).alloc (Nat.le_refl _) _).alloc (by simp) _
  have cr := hide (fun W => refcompare_any h l h' l' W)
  generalize cmpD h l h' l' = r at *
  obtain ⟨T, HT⟩ : ∃ T, Hid (T = (decide (0 < r) || (decide (r = 0) && g))) := ⟨_, rfl⟩
  rw [← HT.out]
  go_enter Tryz.func53, Tryz.ntmps53
  go_wp2_with fail
  refine (cr.out _).mono ?_
  rintro e w2 ⟨rfl, b2⟩
  dsimp only
  have B2 := hide (bw.out.trans (b2.mono bw.out.size))
  clear b2 cr
  by_cases h1 : 0 < r
  · have hk : Hid (T = true) := by show _ = _; rw [HT.out]; simp [h1]
    go_wp2
    go_ret
    exact ⟨by rw [hk.out]; rfl, B2.out⟩
  · by_cases h2 : r = 0
    · have hk : Hid (T = g) := by show _ = _; rw [HT.out]; simp [h2]
      have h2b : (r == 0) = true := by simp [h2]
      clear h2
      go_wp2
      go_ret
      exact ⟨by rw [hk.out]; rfl, B2.out⟩
    · have hk : Hid (T = false) := by show _ = _; rw [HT.out]; simp [h1, h2]
      have h2b : (r == 0) = false := by simp [h2]
      go_wp2
      go_ret
      exact ⟨by rw [hk.out]; rfl, B2.out⟩
set_option maxRecDepth 100000 in
/-- The document's whole. -/
theorem refwhole_any (c : Cg) (v : Int) (L : List En) (a : Option Addr) (n k : Nat) (cm : Int) (w : World) (h : SlY yE w a n k L) (hf : ∀ e ∈ L, e.fits) :
    Calls Tryz.prog 68 #[.agg #[.int .i64 c.F, .int .i64 c.R, .int .i64 c.P, .bool c.u], .int .i64 v, .slice a n k, .int .i64 cm] w fun e w' => e = .returned (.bool (vmb v && lmb L cm c.R)) ∧ Below w.heap.size w w' := by
  have bw : Hid (Below w.heap.size w (w.alloc (.cells #[.int .i64 c.F, .int .i64 c.R, .int .i64 c.P, .bool c.u] 23))) := (Below.refl _ w).alloc (Nat.le_refl _) _
  have hln := h.len
  have hl : Hid ((L.length : Int) = (n : Int)) := by show _ = _; rw [hln]
  clear hln
  have cc := hide (fun W (hW : Below w.heap.size w W) => refchk6_any L a n k c.R W (h.later hW) hf)
  clear h hf
  have HV : Hid (vmb v = decide (0 ≤ v ∧ v ≤ 4294967296)) := rfl
  have HL : Hid (lmb L cm c.R = decide ((chk L c.R).1 = 0 ∧ 0 ≤ cm ∧ cm ≤ L.length)) := rfl
  generalize vmb v = V at *
  generalize lmb L cm c.R = M at *
  generalize chk L c.R = X at *
  obtain ⟨X1, X2⟩ := X
  go_enter Tryz.func68, Tryz.ntmps68
  go_wp2_with fail
  refine (cc.out _ bw.out).mono ?_
  rintro e w1 ⟨rfl, b1⟩
  have B1 := hide (bw.out.trans (b1.mono (by simp)))
  clear b1 cc
  dsimp only at HL ⊢
  by_cases h1 : 0 ≤ v
  · by_cases h2 : v ≤ 4294967296
    · have HV2 : Hid (V = true) := by show _ = _; rw [HV.out]; exact decide_eq_true ⟨h1, h2⟩
      clear HV
      by_cases h3 : X1 = 0
      · have h3b : (X1 == 0) = true := by simp [h3]
        by_cases h4 : 0 ≤ cm
        · by_cases h5 : cm ≤ (n : Int)
          · have hk : Hid ((V && M) = true) := by show _ = _; rw [HV2.out, HL.out, decide_eq_true ⟨h3, h4, by rw [hl.out]; exact h5⟩]; rfl
            have d5 : decide (cm ≤ (n : Int)) = true := decide_eq_true h5
            clear HL HV2 h3
            go_wp2
            go_ret
            exact ⟨by rw [hk.out]; first | rfl | (rw [d5]; rfl), B1.out⟩
          · have hk : Hid ((V && M) = false) := by show _ = _; rw [HV2.out, HL.out, decide_eq_false (fun h => h5 (by rw [← hl.out]; exact h.2.2))]; rfl
            have d5 : decide (cm ≤ (n : Int)) = false := decide_eq_false h5
            clear HL HV2 h3
            go_wp2
            go_ret
            exact ⟨by rw [hk.out]; first | rfl | (rw [d5]; rfl), B1.out⟩
        · have hk : Hid ((V && M) = false) := by show _ = _; rw [HV2.out, HL.out, decide_eq_false (fun h => h4 h.2.1)]; rfl
          clear HL HV2 h3
          go_wp2
          go_ret
          exact ⟨by rw [hk.out]; rfl, B1.out⟩
      · have h3b : (X1 == 0) = false := by simp [h3]
        have hk : Hid ((V && M) = false) := by show _ = _; rw [HV2.out, HL.out, decide_eq_false (fun h => h3 h.1)]; rfl
        clear HL HV2
        go_wp2
        go_ret
        exact ⟨by rw [hk.out]; rfl, B1.out⟩
    · have hk : Hid ((V && M) = false) := by show _ = _; rw [HV.out, decide_eq_false (fun h => h2 h.2)]; rfl
      clear HL HV
      go_wp2
      go_ret
      exact ⟨by rw [hk.out]; rfl, B1.out⟩
  · have hk : Hid ((V && M) = false) := by show _ = _; rw [HV.out, decide_eq_false (fun h => h1 h.1)]; rfl
    clear HL HV
    go_wp2
    go_ret
    exact ⟨by rw [hk.out]; rfl, B1.out⟩
/-- Is the first of two triples above the second? -/
def mor (a b c x y z : Int) : Bool := if a ≠ x then decide (x < a) else if b ≠ y then decide (y < b) else decide (z < c)
theorem refmore_any (a b c x y z : Int) (w : World) : Calls Tryz.prog 72 #[.int .i64 a, .int .i64 b, .int .i64 c, .int .i64 x, .int .i64 y, .int .i64 z] w fun e w' => e = .returned (.bool (mor a b c x y z)) ∧ w' = w := by
  have HM : Hid (mor a b c x y z = if a ≠ x then decide (x < a) else if b ≠ y then decide (y < b) else decide (z < c)) := rfl
  generalize mor a b c x y z = M at *
  by_cases h1 : a = x
  · have h1b : (a != x) = false := by simp [h1]
    by_cases h2 : b = y
    · have h2b : (b != y) = false := by simp [h2]
      have hk : Hid (M = decide (z < c)) := by show _ = _; rw [HM.out, if_neg (by simp [h1]), if_neg (by simp [h2])]
      clear HM h1 h2
      go_enter Tryz.func72, Tryz.ntmps72
      go_wp2
      go_ret
      exact ⟨by rw [hk.out]; rfl, rfl⟩
    · have h2b : (b != y) = true := by simp [h2]
      have hk : Hid (M = decide (y < b)) := by show _ = _; rw [HM.out, if_neg (by simp [h1]), if_pos h2]
      clear HM h1 h2
      go_enter Tryz.func72, Tryz.ntmps72
      go_wp2
      go_ret
      exact ⟨by rw [hk.out]; rfl, rfl⟩
  · have h1b : (a != x) = true := by simp [h1]
    have hk : Hid (M = decide (x < a)) := by show _ = _; rw [HM.out, if_pos h1]
    clear HM h1
    go_enter Tryz.func72, Tryz.ntmps72
    go_wp2
    go_ret
    exact ⟨by rw [hk.out]; rfl, rfl⟩

end Go.Proofs.YtcmjhaljbmhpgaaGreat
