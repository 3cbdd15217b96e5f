import Derived.Test.YtipkflaamncmbaaGreatSk6
namespace Go.Proofs.YtipkflaamncmbaaGreat
open Go.RowKit Go.Maps
open Classical
set_option linter.unusedVariables false
set_option linter.unusedSimpArgs false

theorem Ak.put_none {L : List Ak} {x : Ak} (h : L.findIdx? (fun y => decide (y.n = x.n)) = none) : Ak.put L x = Ak.ins L x := by unfold Ak.put; rw [h]
theorem Ak.put_some {L : List Ak} {x : Ak} {i : Nat} (h : L.findIdx? (fun y => decide (y.n = x.n)) = some i) (y : Ak) (hy : L[i]? = some y) : Ak.put L x = if Ak.rep x y = true then L.set i x else L := by
  unfold Ak.put
  rw [h]
  simp only [List.getD_eq_getElem?_getD, hy, Option.getD_some]
set_option maxRecDepth 100000 in
set_option maxHeartbeats 1000000 in
theorem Ak.put_any (L : List Ak) (x : Ak) (n g B : Nat) (w : World) (hn : L.length = n) (h : OwnY yAkV B w (.slice (some ⟨g, 0, none⟩) n n) L) (hB : B ≤ w.heap.size) (hm : (n + 1) * 32 ≤ 140737488355328) :
    Calls Tryz.prog 51 #[.slice (some ⟨g, 0, none⟩) n n, x.val] w fun e w' => ∃ v, e = .returned v ∧ OwnY yAkV B w' v (Ak.put L x) ∧ Below B w w' := by
  have hgb : B ≤ g ∧ g < w.heap.size := by
    obtain ⟨_, _, ee, _, _, _, h4⟩ := h.form
    injection ee with ee
    obtain ⟨g', e2, h6, h5⟩ := h4 _ ee.symm
    cases e2
    exact ⟨h6, h5⟩
  have O1 := hide (h.alloc (.cells #[.int .i64 x.n, .int .u64 x.h, .int .u64 x.l, .int .i64 x.p] 82))
  have b1 : Below w.heap.size w (w.alloc (.cells #[.int .i64 x.n, .int .u64 x.h, .int .u64 x.l, .int .i64 x.p] 82)) := (Below.refl _ w).alloc (Nat.le_refl _) _
  have CI := hide (Ak.index_any (fun y => decide (y.n = x.n)) 91 #[.pointer (some ⟨w.heap.size, 0, none⟩)] Ak.f22 L (some ⟨g, 0, none⟩) n n (w.alloc (.cells #[.int .i64 x.n, .int .u64 x.h, .int .u64 x.l, .int .i64 x.p] 82)) (O1.out.sl' kAkV)
    (fun W y hW => (Ak.isNode y x w.heap.size W (by have := hW.size; simp at this; omega) (x.box w W (by simpa using hW))).mono fun e w' hq => ⟨hq.1, hW.trans (hq.2.mono hW.size)⟩))
  have HB1 := hide b1
  have HN := hide hn
  clear h b1
  have hcl : n + 1 ≤ 140737488355328 := by omega
  have hgs : g ≠ w.heap.size := by omega
  show Calls Tryz.prog 51 #[.slice (some ⟨g, 0, none⟩) n n, .agg #[.int .i64 x.n, .int .u64 x.h, .int .u64 x.l, .int .i64 x.p]] w _
  cases hf : L.findIdx? (fun y => decide (y.n = x.n)) with
  | none =>
    have hix : ix (fun y => decide (y.n = x.n)) L = -1 := by unfold ix; rw [hf]
    rw [hix] at CI
    have HP := hide (Ak.put_none hf)
    clear hf hix
    go_enter Tryz.func51, Tryz.ntmps51
    go_wp2_with fail
    refine CI.out.mono ?_
    rintro e w1 ⟨rfl, b2⟩
    have b2 : Below (w.heap.size + 1) (w.alloc (.cells #[.int .i64 x.n, .int .u64 x.h, .int .u64 x.l, .int .i64 x.p] 82)) w1 := by simpa using b2
    obtain ⟨y0, y1, y2, y3⟩ := x.box w w1 b2
    have z2 : w.heap.size + 1 ≤ w1.heap.size := by have := b2.size; simpa using this
    have B2 := hide (HB1.out.trans (b2.mono (by omega)))
    have cl := hide (Ak.insert_any L x n g B w1 HN.out (O1.out.grow (by simpa using b2)) (by omega) hm)
    clear b2 CI hm
    dsimp only
    go_wp2_with fail
    refine cl.out.mono ?_
    rintro e w' ⟨v, rfl, o', b'⟩
    have O' := hide o'
    clear o'
    dsimp only
    go_wp2
    go_ret
    exact ⟨v, rfl, by rw [HP.out]; exact O'.out, (B2.out.mono hB).trans b'⟩
  | some i =>
    have hix : ix (fun y => decide (y.n = x.n)) L = (i : Int) := by unfold ix; rw [hf]
    have hil : i < L.length := (List.findIdx?_eq_some_iff_getElem.1 hf).1
    have hin : i < n := by omega
    have hg : L[i]? = some L[i] := List.getElem?_eq_getElem hil
    rw [hix] at CI
    have HP := hide (Ak.put_some hf _ hg)
    clear hf hix
    have KH : Hid (∀ v, Below (w.heap.size + 1) (w.alloc (.cells #[.int .i64 x.n, .int .u64 x.h, .int .u64 x.l, .int .i64 x.p] 82)) v → (v.cell? ⟨w.heap.size, 0, none⟩ = some (.int .i64 x.n) ∧ v.cell? ⟨w.heap.size, 1, none⟩ = some (.int .u64 x.h) ∧ v.cell? ⟨w.heap.size, 2, none⟩ = some (.int .u64 x.l) ∧ v.cell? ⟨w.heap.size, 3, none⟩ = some (.int .i64 x.p)) ∧ (v.cell? ⟨g, i * 4, none⟩ = some (.int .i64 L[i].n) ∧ v.cell? ⟨g, i * 4 + 1, none⟩ = some (.int .u64 L[i].h) ∧ v.cell? ⟨g, i * 4 + 2, none⟩ = some (.int .u64 L[i].l) ∧ v.cell? ⟨g, i * 4 + 3, none⟩ = some (.int .i64 L[i].p)) ∧ OwnY yAkV B v (.slice (some ⟨g, 0, none⟩) n n) L) := fun v hv => by
      have o2 := O1.out.grow (w' := v) (by simpa using hv)
      obtain ⟨q, o, ea, hq, z0, z1, z2, z3⟩ := (o2.sl' kAkV).AkV hg
      cases ea
      simp only [Nat.zero_add] at z0 z1 z2 z3
      exact ⟨x.box w v hv, ⟨z0, z1, z2, z3⟩, o2⟩
    have HG := hide hg
    clear hg hn
    have hneg : ¬ ((i : Int) < 0) := by omega
    generalize L[i] = y at *
    have cr := hide (fun W => Ak.replaces_any x y W)
    generalize Ak.rep x y = R at *
    go_enter Tryz.func51, Tryz.ntmps51
    go_wp2_with fail
    refine CI.out.mono ?_
    rintro e w1 ⟨rfl, b2⟩
    have b2 : Below (w.heap.size + 1) (w.alloc (.cells #[.int .i64 x.n, .int .u64 x.h, .int .u64 x.l, .int .i64 x.p] 82)) w1 := by simpa using b2
    clear CI O1
    dsimp only
    go_wp2_with fail
    refine region_q9 (C := fun v => Below (w.heap.size + 1) (w.alloc (.cells #[.int .i64 x.n, .int .u64 x.h, .int .u64 x.l, .int .i64 x.p] 82)) v) (by kernel_rfl) (by kernel_rfl) b2.drew ?_
    refine wqv (u := x.val) (by kernel_rfl) (fun v hv => by obtain ⟨⟨y0, y1, y2, y3⟩, _⟩ := KH.out v hv; go_simp; rfl) ?_
    simp only [Act.put, List.setIfInBounds_toArray, List.set_cons_zero, List.set_cons_succ]
    refine wqv (u := .slice (some ⟨g, 0, none⟩) n n) (by kernel_rfl) (fun v hv => by kernel_rfl) ?_
    simp only [Act.put, List.setIfInBounds_toArray, List.set_cons_zero, List.set_cons_succ]
    refine wqv (u := .int .i64 (i : Int)) (by kernel_rfl) (fun v hv => by kernel_rfl) ?_
    simp only [Act.put, List.setIfInBounds_toArray, List.set_cons_zero, List.set_cons_succ]
    refine wqv (u := .pointer (some ⟨g, i * 4, none⟩)) (by kernel_rfl) (fun v hv => by go_simp) ?_
    simp only [Act.put, List.setIfInBounds_toArray, List.set_cons_zero, List.set_cons_succ]
    refine wqv (u := y.val) (by kernel_rfl) (fun v hv => by obtain ⟨_, ⟨y0, y1, y2, y3⟩, _⟩ := KH.out v hv; go_simp; rfl) ?_
    simp only [Act.put, List.setIfInBounds_toArray, List.set_cons_zero, List.set_cons_succ]
    refine wqc (fid := 93) (args := #[x.val, y.val]) (u := .bool R) (by kernel_rfl) (fun v => by kernel_rfl) (fun v hv => (cr.out v).mono fun e w' h => ⟨h.1, hv.trans (h.2.mono (by have := hv.size; rwa [World.size_alloc] at this))⟩) ?_
    simp only [Act.put, List.setIfInBounds_toArray, List.set_cons_zero, List.set_cons_succ]
    refine wqv (u := .bool R) (by kernel_rfl) (fun v hv => by kernel_rfl) ?_
    simp only [Act.put, List.setIfInBounds_toArray, List.set_cons_zero, List.set_cons_succ]
    refine wqnil (fun v hv => ?_)
    obtain ⟨⟨y0, y1, y2, y3⟩, _, ov⟩ := KH.out v hv
    have OV := hide ov
    have zv : w.heap.size + 1 ≤ v.heap.size := by have := hv.size; simpa using this
    have BV := hide (HB1.out.trans (hv.mono (by omega)))
    clear ov hv KH cr
    cases R
    · go_wp2
      go_ret
      refine ⟨_, rfl, ?_, BV.out.mono hB⟩
      rw [HP.out]
      exact OV.out
    · go_wp2_with (first
        | (refine storeY kAkV _ rfl 82 (.tmp 25) (.tmp 24) rfl B g n n L i 0 y x _ rfl rfl HG.out (by kernel_rfl) (by exact (by decide : 4 ≤ 4)) rfl OV.out ?_; intro w3 o3 u3 z3; have O3 := hide o3; clear o3)
        | go_in)
      go_ret
      refine ⟨_, rfl, ?_, (BV.out.mono hB).trans (u3.below (by omega) (fun k e => by subst e; exact hgb.1))⟩
      rw [HP.out]
      exact O3.out

end Go.Proofs.YtipkflaamncmbaaGreat
