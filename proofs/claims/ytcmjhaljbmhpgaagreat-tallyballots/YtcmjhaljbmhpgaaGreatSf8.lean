import Derived.Test.YtcmjhaljbmhpgaaGreatSd
namespace Go.Proofs.YtcmjhaljbmhpgaaGreat
open Go.RowKit Go.Maps
open Classical
set_option linter.unusedVariables false
set_option linter.unusedSimpArgs false

set_option maxRecDepth 100000 in
set_option maxHeartbeats 1000000 in
theorem isover_any (D : List (Int × Int)) (a : Option Addr) (n c : Nat) (nd h l : Int) (w : World) (hD : SlY yD w a n c D) :
    Calls Tryz.prog 97 #[.slice a n c, .int .i64 nd, .agg #[.int .u64 h, .int .u64 l]] w fun e w' => e = .returned (.bool (ovr D nd h l)) ∧ Below w.heap.size w w' := by
  have hmx := hD.max
  have hcp := hD.cap
  have hln := hD.len
  unfold maxLen at hmx
  have HB : Hid (∀ v, Below (w.heap.size + 1) (w.alloc (.cells #[.int .u64 h, .int .u64 l] 27)) v → Below w.heap.size w v) := fun v hv => ((Below.refl _ w).alloc (Nat.le_refl _) _).trans (hv.mono (by omega))
  have HV : Hid (ovr D nd h l = (decide (0 ≤ nd ∧ nd < (n : Int)) && decide (cmpD h l (D.getD nd.toNat (0, 0)).1 (D.getD nd.toNat (0, 0)).2 < 0))) := by show _ = _; unfold ovr; rw [hln]
  generalize ovr D nd h l = V at *
  by_cases h0 : 0 ≤ nd
  · by_cases h1 : nd < (n : Int)
    · obtain ⟨j, rfl⟩ : ∃ j : Nat, nd = (j : Int) := ⟨nd.toNat, by omega⟩
      have hj : j < n := by omega
      have hg : D[j]? = some (D[j]'(by omega)) := List.getElem?_eq_getElem (by omega)
      obtain ⟨q, o, rfl, hq, hl⟩ := hD.place (by rintro rfl; simp at hg)
      have x0 := hl j _ hg 0 _ rfl
      have x1 := hl j _ hg 1 _ rfl
      have HV2 : Hid (V = decide (cmpD h l (D[j]'(by omega)).1 (D[j]'(by omega)).2 < 0)) := by
        show _ = _
        rw [HV.out, decide_eq_true (show (0 : Int) ≤ (j : Int) ∧ (j : Int) < (n : Int) from ⟨h0, h1⟩), Bool.true_and, Int.toNat_natCast, List.getD_eq_getElem?_getD, hg, Option.getD_some]
      clear HV hl hg
      generalize (D[j]'(by omega)) = x at *
      have CC := hide (fun W => compare_any h l x.1 x.2 W)
      generalize cmpD h l x.1 x.2 = r at *
      have KC : Hid (∀ v, Below (w.heap.size + 1) (w.alloc (.cells #[.int .u64 h, .int .u64 l] 27)) v → (v.cell? ⟨w.heap.size, 0, none⟩ = some (.int .u64 h) ∧ v.cell? ⟨w.heap.size, 1, none⟩ = some (.int .u64 l)) ∧ (v.cell? ⟨q, o + j * 2, none⟩ = some (.int .u64 x.1) ∧ v.cell? ⟨q, o + j * 2 + 1, none⟩ = some (.int .u64 x.2))) := fun v hv =>
        ⟨⟨(hv.cell (p := ⟨w.heap.size, 0, none⟩) (by simp)).trans (by simp), (hv.cell (p := ⟨w.heap.size, 1, none⟩) (by simp)).trans (by simp)⟩, ⟨((HB.out v hv).cell (p := ⟨q, _, none⟩) hq).trans x0, ((HB.out v hv).cell (p := ⟨q, _, none⟩) hq).trans x1⟩⟩
      have KZ : Hid (∀ v, Below (w.heap.size + 1) (w.alloc (.cells #[.int .u64 h, .int .u64 l] 27)) v → w.heap.size + 1 ≤ v.heap.size) := fun v hv => by have := hv.size; simpa using this
      clear x0 x1 hD
      go_enter Tryz.func97, Tryz.ntmps97
      go_wp2_with fail
      refine region_q9 (C := fun v => Below (w.heap.size + 1) (w.alloc (.cells #[.int .u64 h, .int .u64 l] 27)) v) (by kernel_rfl) (by kernel_rfl) (Below.refl _ _).drew ?_
      refine wqv (u := .int .i64 (j : Int)) (by kernel_rfl) (fun v hv => by kernel_rfl) ?_
      simp only [Act.put, List.setIfInBounds_toArray, List.set_cons_zero, List.set_cons_succ]
      refine wqv (u := .bool true) (by kernel_rfl) (fun v hv => by go_simp) ?_
      simp only [Act.put, List.setIfInBounds_toArray, List.set_cons_zero, List.set_cons_succ]
      refine wqv (u := .bool true) (by kernel_rfl) (fun v hv => by kernel_rfl) ?_
      simp only [Act.put, List.setIfInBounds_toArray, List.set_cons_zero, List.set_cons_succ]
      refine wqv (u := .int .i64 (j : Int)) (by kernel_rfl) (fun v hv => by kernel_rfl) ?_
      simp only [Act.put, List.setIfInBounds_toArray, List.set_cons_zero, List.set_cons_succ]
      refine wqv (u := .slice (some ⟨q, o, none⟩) n c) (by kernel_rfl) (fun v hv => by kernel_rfl) ?_
      simp only [Act.put, List.setIfInBounds_toArray, List.set_cons_zero, List.set_cons_succ]
      refine wqv (u := .int .i64 (n : Int)) (by kernel_rfl) (fun v hv => by go_simp) ?_
      simp only [Act.put, List.setIfInBounds_toArray, List.set_cons_zero, List.set_cons_succ]
      refine wqv (u := .bool true) (by kernel_rfl) (fun v hv => by go_simp) ?_
      simp only [Act.put, List.setIfInBounds_toArray, List.set_cons_zero, List.set_cons_succ]
      refine wqv (u := .bool true) (by kernel_rfl) (fun v hv => by kernel_rfl) ?_
      simp only [Act.put, List.setIfInBounds_toArray, List.set_cons_zero, List.set_cons_succ]
      refine wqv (u := .bool true) (by kernel_rfl) (fun v hv => by kernel_rfl) ?_
      simp only [Act.put, List.setIfInBounds_toArray, List.set_cons_zero, List.set_cons_succ]
      refine wqv (u := .agg #[.int .u64 h, .int .u64 l]) (by kernel_rfl) (fun v hv => by obtain ⟨⟨y0, y1⟩, _⟩ := KC.out v hv; go_simp) ?_
      simp only [Act.put, List.setIfInBounds_toArray, List.set_cons_zero, List.set_cons_succ]
      refine wqv (u := .slice (some ⟨q, o, none⟩) n c) (by kernel_rfl) (fun v hv => by kernel_rfl) ?_
      simp only [Act.put, List.setIfInBounds_toArray, List.set_cons_zero, List.set_cons_succ]
      refine wqv (u := .int .i64 (j : Int)) (by kernel_rfl) (fun v hv => by kernel_rfl) ?_
      simp only [Act.put, List.setIfInBounds_toArray, List.set_cons_zero, List.set_cons_succ]
      refine wqv (u := .pointer (some ⟨q, o + j * 2, none⟩)) (by kernel_rfl) (fun v hv => by go_simp) ?_
      simp only [Act.put, List.setIfInBounds_toArray, List.set_cons_zero, List.set_cons_succ]
      refine wqv (u := .agg #[.int .u64 x.1, .int .u64 x.2]) (by kernel_rfl) (fun v hv => by obtain ⟨_, ⟨y0, y1⟩⟩ := KC.out v hv; go_simp) ?_
      simp only [Act.put, List.setIfInBounds_toArray, List.set_cons_zero, List.set_cons_succ]
      refine wqc (fid := 123) (args := #[.agg #[.int .u64 h, .int .u64 l], .agg #[.int .u64 x.1, .int .u64 x.2]]) (u := .int .i64 r) (by kernel_rfl) (fun v => by kernel_rfl) (fun v hv => (CC.out v).mono fun e w' h => ⟨h.1, hv.trans (h.2.mono (KZ.out v hv))⟩) ?_
      simp only [Act.put, List.setIfInBounds_toArray, List.set_cons_zero, List.set_cons_succ]
      refine wqv (u := .bool (decide (r < 0))) (by kernel_rfl) (fun v hv => by go_simp) ?_
      simp only [Act.put, List.setIfInBounds_toArray, List.set_cons_zero, List.set_cons_succ]
      refine wqv (u := .bool (decide (r < 0))) (by kernel_rfl) (fun v hv => by kernel_rfl) ?_
      simp only [Act.put, List.setIfInBounds_toArray, List.set_cons_zero, List.set_cons_succ]
      refine wqv (u := .bool (decide (r < 0))) (by kernel_rfl) (fun v hv => by kernel_rfl) ?_
      simp only [Act.put, List.setIfInBounds_toArray, List.set_cons_zero, List.set_cons_succ]
      refine wqnil (fun v hv => ?_)
      have BV := hide (HB.out v hv)
      clear hv KC KZ CC HB
      go_wp2
      go_ret
      exact ⟨by rw [HV2.out]; rfl, BV.out⟩
    · have hV : V = false := by rw [HV.out, decide_eq_false (fun e => h1 e.2), Bool.false_and]
      subst hV
      clear HV hD
      go_enter Tryz.func97, Tryz.ntmps97
      go_wp2_with fail
      refine region_q9 (C := fun v => Below (w.heap.size + 1) (w.alloc (.cells #[.int .u64 h, .int .u64 l] 27)) v) (by kernel_rfl) (by kernel_rfl) (Below.refl _ _).drew ?_
      refine wqv (u := .int .i64 nd) (by kernel_rfl) (fun v hv => by kernel_rfl) ?_
      simp only [Act.put, List.setIfInBounds_toArray, List.set_cons_zero, List.set_cons_succ]
      refine wqv (u := .bool true) (by kernel_rfl) (fun v hv => by go_simp) ?_
      simp only [Act.put, List.setIfInBounds_toArray, List.set_cons_zero, List.set_cons_succ]
      refine wqv (u := .bool true) (by kernel_rfl) (fun v hv => by kernel_rfl) ?_
      simp only [Act.put, List.setIfInBounds_toArray, List.set_cons_zero, List.set_cons_succ]
      refine wqv (u := .int .i64 nd) (by kernel_rfl) (fun v hv => by kernel_rfl) ?_
      simp only [Act.put, List.setIfInBounds_toArray, List.set_cons_zero, List.set_cons_succ]
      refine wqv (u := .slice a n c) (by kernel_rfl) (fun v hv => by kernel_rfl) ?_
      simp only [Act.put, List.setIfInBounds_toArray, List.set_cons_zero, List.set_cons_succ]
      refine wqv (u := .int .i64 (n : Int)) (by kernel_rfl) (fun v hv => by go_simp) ?_
      simp only [Act.put, List.setIfInBounds_toArray, List.set_cons_zero, List.set_cons_succ]
      refine wqv (u := .bool false) (by kernel_rfl) (fun v hv => by go_simp) ?_
      simp only [Act.put, List.setIfInBounds_toArray, List.set_cons_zero, List.set_cons_succ]
      refine wqv (u := .bool false) (by kernel_rfl) (fun v hv => by kernel_rfl) ?_
      simp only [Act.put, List.setIfInBounds_toArray, List.set_cons_zero, List.set_cons_succ]
      refine wqv (u := .bool false) (by kernel_rfl) (fun v hv => by kernel_rfl) ?_
      simp only [Act.put, List.setIfInBounds_toArray, List.set_cons_zero, List.set_cons_succ]
      refine wqskip (by kernel_rfl) ?_
      simp only [Act.put, List.setIfInBounds_toArray, List.set_cons_zero, List.set_cons_succ]
      refine wqskip (by kernel_rfl) ?_
      simp only [Act.put, List.setIfInBounds_toArray, List.set_cons_zero, List.set_cons_succ]
      refine wqskip (by kernel_rfl) ?_
      simp only [Act.put, List.setIfInBounds_toArray, List.set_cons_zero, List.set_cons_succ]
      refine wqskip (by kernel_rfl) ?_
      simp only [Act.put, List.setIfInBounds_toArray, List.set_cons_zero, List.set_cons_succ]
      refine wqskip (by kernel_rfl) ?_
      simp only [Act.put, List.setIfInBounds_toArray, List.set_cons_zero, List.set_cons_succ]
      refine wqskip (by kernel_rfl) ?_
      simp only [Act.put, List.setIfInBounds_toArray, List.set_cons_zero, List.set_cons_succ]
      refine wqskip (by kernel_rfl) ?_
      simp only [Act.put, List.setIfInBounds_toArray, List.set_cons_zero, List.set_cons_succ]
      refine wqv (u := .bool false) (by kernel_rfl) (fun v hv => by kernel_rfl) ?_
      simp only [Act.put, List.setIfInBounds_toArray, List.set_cons_zero, List.set_cons_succ]
      refine wqv (u := .bool false) (by kernel_rfl) (fun v hv => by kernel_rfl) ?_
      simp only [Act.put, List.setIfInBounds_toArray, List.set_cons_zero, List.set_cons_succ]
      refine wqnil (fun v hv => ?_)
      have BV := hide (HB.out v hv)
      clear hv HB
      go_wp2
      go_ret
      exact ⟨rfl, BV.out⟩
  · have hV : V = false := by rw [HV.out, decide_eq_false (fun e => h0 e.1), Bool.false_and]
    subst hV
    clear HV hD
    go_enter Tryz.func97, Tryz.ntmps97
    go_wp2_with fail
    refine region_q9 (C := fun v => Below (w.heap.size + 1) (w.alloc (.cells #[.int .u64 h, .int .u64 l] 27)) v) (by kernel_rfl) (by kernel_rfl) (Below.refl _ _).drew ?_
    refine wqv (u := .int .i64 nd) (by kernel_rfl) (fun v hv => by kernel_rfl) ?_
    simp only [Act.put, List.setIfInBounds_toArray, List.set_cons_zero, List.set_cons_succ]
    refine wqv (u := .bool false) (by kernel_rfl) (fun v hv => by go_simp) ?_
    simp only [Act.put, List.setIfInBounds_toArray, List.set_cons_zero, List.set_cons_succ]
    refine wqv (u := .bool false) (by kernel_rfl) (fun v hv => by kernel_rfl) ?_
    simp only [Act.put, List.setIfInBounds_toArray, List.set_cons_zero, List.set_cons_succ]
    refine wqskip (by kernel_rfl) ?_
    simp only [Act.put, List.setIfInBounds_toArray, List.set_cons_zero, List.set_cons_succ]
    refine wqskip (by kernel_rfl) ?_
    simp only [Act.put, List.setIfInBounds_toArray, List.set_cons_zero, List.set_cons_succ]
    refine wqskip (by kernel_rfl) ?_
    simp only [Act.put, List.setIfInBounds_toArray, List.set_cons_zero, List.set_cons_succ]
    refine wqskip (by kernel_rfl) ?_
    simp only [Act.put, List.setIfInBounds_toArray, List.set_cons_zero, List.set_cons_succ]
    refine wqv (u := .bool false) (by kernel_rfl) (fun v hv => by kernel_rfl) ?_
    simp only [Act.put, List.setIfInBounds_toArray, List.set_cons_zero, List.set_cons_succ]
    refine wqv (u := .bool false) (by kernel_rfl) (fun v hv => by kernel_rfl) ?_
    simp only [Act.put, List.setIfInBounds_toArray, List.set_cons_zero, List.set_cons_succ]
    refine wqskip (by kernel_rfl) ?_
    simp only [Act.put, List.setIfInBounds_toArray, List.set_cons_zero, List.set_cons_succ]
    refine wqskip (by kernel_rfl) ?_
    simp only [Act.put, List.setIfInBounds_toArray, List.set_cons_zero, List.set_cons_succ]
    refine wqskip (by kernel_rfl) ?_
    simp only [Act.put, List.setIfInBounds_toArray, List.set_cons_zero, List.set_cons_succ]
    refine wqskip (by kernel_rfl) ?_
    simp only [Act.put, List.setIfInBounds_toArray, List.set_cons_zero, List.set_cons_succ]
    refine wqskip (by kernel_rfl) ?_
    simp only [Act.put, List.setIfInBounds_toArray, List.set_cons_zero, List.set_cons_succ]
    refine wqskip (by kernel_rfl) ?_
    simp only [Act.put, List.setIfInBounds_toArray, List.set_cons_zero, List.set_cons_succ]
    refine wqskip (by kernel_rfl) ?_
    simp only [Act.put, List.setIfInBounds_toArray, List.set_cons_zero, List.set_cons_succ]
    refine wqv (u := .bool false) (by kernel_rfl) (fun v hv => by kernel_rfl) ?_
    simp only [Act.put, List.setIfInBounds_toArray, List.set_cons_zero, List.set_cons_succ]
    refine wqv (u := .bool false) (by kernel_rfl) (fun v hv => by kernel_rfl) ?_
    simp only [Act.put, List.setIfInBounds_toArray, List.set_cons_zero, List.set_cons_succ]
    refine wqnil (fun v hv => ?_)
    have BV := hide (HB.out v hv)
    clear hv HB
    go_wp2
    go_ret
    exact ⟨rfl, BV.out⟩

end Go.Proofs.YtcmjhaljbmhpgaaGreat
