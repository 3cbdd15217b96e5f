import Derived.Test.YtnhonkgondljjaaSmq
import Derived.Test.YtnhonkgondljjaaFz
namespace Go.Proofs.Ytnhonkgondljjaa
open Go.RowKit Go.Maps
open Classical
set_option linter.unusedVariables false
set_option linter.unusedSimpArgs false

set_option maxRecDepth 100000 in
set_option maxHeartbeats 1000000 in
theorem refover_any (D : List (Int × Int)) (a : Option Addr) (n c : Nat) (nd h l : Int) (w : World) (hD : SlY yD w a n c D) :
    Calls Try.prog 56 #[.slice a n c, .int .i64 nd, .agg #[.int .u64 h, .int .u64 l]] w fun e w' => e = .returned (.bool (ovr D nd h l)) ∧ Below w.heap.size w w' := by
  have hmx := hD.max
  have hcp := hD.cap
  have hln := hD.len
  unfold maxLen at hmx
  have HB : Hid (∀ v, Below (w.heap.size + 1) (w.alloc (.cells #[.int .u64 h, .int .u64 l] 27)) v → Below w.heap.size w v) := fun v hv => ((Below.refl _ w).alloc (Nat.le_refl _) _).trans (hv.mono (by omega))
  have HV : Hid (ovr D nd h l = (decide (0 ≤ nd ∧ nd < (n : Int)) && decide (cmpD h l (D.getD nd.toNat (0, 0)).1 (D.getD nd.toNat (0, 0)).2 < 0))) := by show _ = _; unfold ovr; rw [hln]
  generalize ovr D nd h l = V at *
  by_cases h0 : 0 ≤ nd
  · by_cases h1 : nd < (n : Int)
    · obtain ⟨j, rfl⟩ : ∃ j : Nat, nd = (j : Int) := ⟨nd.toNat, by omega⟩
      have hj : j < n := by omega
      have hg : D[j]? = some (D[j]'(by omega)) := List.getElem?_eq_getElem (by omega)
      obtain ⟨q, o, rfl, hq, hl⟩ := hD.place (by rintro rfl; simp at hg)
      have x0 := hl j _ hg 0 _ rfl
      have x1 := hl j _ hg 1 _ rfl
      have HV2 : Hid (V = decide (cmpD h l (D[j]'(by omega)).1 (D[j]'(by omega)).2 < 0)) := by
        show _ = _
        rw [HV.out, decide_eq_true (show (0 : Int) ≤ (j : Int) ∧ (j : Int) < (n : Int) from ⟨h0, h1⟩), Bool.true_and, Int.toNat_natCast, List.getD_eq_getElem?_getD, hg, Option.getD_some]
      clear HV hl hg
      generalize (D[j]'(by omega)) = x at *
      have CC := hide (fun W => refcompare_any h l x.1 x.2 W)
      generalize cmpD h l x.1 x.2 = r at *
      have KC : Hid (∀ v, Below (w.heap.size + 1) (w.alloc (.cells #[.int .u64 h, .int .u64 l] 27)) v → (v.cell? ⟨w.heap.size, 0, none⟩ = some (.int .u64 h) ∧ v.cell? ⟨w.heap.size, 1, none⟩ = some (.int .u64 l)) ∧ (v.cell? ⟨q, o + j * 2, none⟩ = some (.int .u64 x.1) ∧ v.cell? ⟨q, o + j * 2 + 1, none⟩ = some (.int .u64 x.2))) := fun v hv =>
        ⟨⟨(hv.cell (p := ⟨w.heap.size, 0, none⟩) (by simp)).trans (by simp), (hv.cell (p := ⟨w.heap.size, 1, none⟩) (by simp)).trans (by simp)⟩, ⟨((HB.out v hv).cell (p := ⟨q, _, none⟩) hq).trans x0, ((HB.out v hv).cell (p := ⟨q, _, none⟩) hq).trans x1⟩⟩
      have KZ : Hid (∀ v, Below (w.heap.size + 1) (w.alloc (.cells #[.int .u64 h, .int .u64 l] 27)) v → w.heap.size + 1 ≤ v.heap.size) := fun v hv => by have := hv.size; simpa using this
      clear x0 x1 hD
      go_enter Try.func56, Try.ntmps56
      go_wp2_with fail
      refine region_q9 (C := fun v => Below (w.heap.size + 1) (w.alloc (.cells #[.int .u64 h, .int .u64 l] 27)) v) (by kernel_rfl) (by kernel_rfl) (Below.refl _ _).drew ?_
      refine wqv (u := .int .i64 (j : Int)) (by kernel_rfl) (fun v hv => by kernel_rfl) ?_
      simp only [Act.put, List.setIfInBounds_toArray, List.set_cons_zero, List.set_cons_succ]
      refine wqv (u := .bool true) (by kernel_rfl) (fun v hv => by go_simp) ?_
      simp only [Act.put, List.setIfInBounds_toArray, List.set_cons_zero, List.set_cons_succ]
      refine wqv (u := .bool true) (by kernel_rfl) (fun v hv => by kernel_rfl) ?_
      simp only [Act.put, List.setIfInBounds_toArray, List.set_cons_zero, List.set_cons_succ]
      refine wqv (u := .int .i64 (j : Int)) (by kernel_rfl) (fun v hv => by kernel_rfl) ?_
      simp only [Act.put, List.setIfInBounds_toArray, List.set_cons_zero, List.set_cons_succ]
      refine wqv (u := .slice (some ⟨q, o, none⟩) n c) (by kernel_rfl) (fun v hv => by kernel_rfl) ?_
      simp only [Act.put, List.setIfInBounds_toArray, List.set_cons_zero, List.set_cons_succ]
      refine wqv (u := .int .i64 (n : Int)) (by kernel_rfl) (fun v hv => by go_simp) ?_
      simp only [Act.put, List.setIfInBounds_toArray, List.set_cons_zero, List.set_cons_succ]
      refine wqv (u := .bool true) (by kernel_rfl) (fun v hv => by go_simp) ?_
      simp only [Act.put, List.setIfInBounds_toArray, List.set_cons_zero, List.set_cons_succ]
      refine wqv (u := .bool true) (by kernel_rfl) (fun v hv => by kernel_rfl) ?_
      simp only [Act.put, List.setIfInBounds_toArray, List.set_cons_zero, List.set_cons_succ]
      refine wqv (u := .bool true) (by kernel_rfl) (fun v hv => by kernel_rfl) ?_
      simp only [Act.put, List.setIfInBounds_toArray, List.set_cons_zero, List.set_cons_succ]
      refine wqv (u := .agg #[.int .u64 h, .int .u64 l]) (by kernel_rfl) (fun v hv => by obtain ⟨⟨y0, y1⟩, _⟩ := KC.out v hv; go_simp) ?_
      simp only [Act.put, List.setIfInBounds_toArray, List.set_cons_zero, List.set_cons_succ]
      refine wqv (u := .slice (some ⟨q, o, none⟩) n c) (by kernel_rfl) (fun v hv => by kernel_rfl) ?_
      simp only [Act.put, List.setIfInBounds_toArray, List.set_cons_zero, List.set_cons_succ]
      refine wqv (u := .int .i64 (j : Int)) (by kernel_rfl) (fun v hv => by kernel_rfl) ?_
      simp only [Act.put, List.setIfInBounds_toArray, List.set_cons_zero, List.set_cons_succ]
      refine wqv (u := .pointer (some ⟨q, o + j * 2, none⟩)) (by kernel_rfl) (fun v hv => by go_simp) ?_
      simp only [Act.put, List.setIfInBounds_toArray, List.set_cons_zero, List.set_cons_succ]
      refine wqv (u := .agg #[.int .u64 x.1, .int .u64 x.2]) (by kernel_rfl) (fun v hv => by obtain ⟨_, ⟨y0, y1⟩⟩ := KC.out v hv; go_simp) ?_
      simp only [Act.put, List.setIfInBounds_toArray, List.set_cons_zero, List.set_cons_succ]
      refine wqc (fid := 90) (args := #[.agg #[.int .u64 h, .int .u64 l], .agg #[.int .u64 x.1, .int .u64 x.2]]) (u := .int .i64 r) (by kernel_rfl) (fun v => by kernel_rfl) (fun v hv => (CC.out v).mono fun e w' h => ⟨h.1, hv.trans (h.2.mono (KZ.out v hv))⟩) ?_
      simp only [Act.put, List.setIfInBounds_toArray, List.set_cons_zero, List.set_cons_succ]
      refine wqv (u := .bool (decide (r < 0))) (by kernel_rfl) (fun v hv => by go_simp) ?_
      simp only [Act.put, List.setIfInBounds_toArray, List.set_cons_zero, List.set_cons_succ]
      refine wqv (u := .bool (decide (r < 0))) (by kernel_rfl) (fun v hv => by kernel_rfl) ?_
      simp only [Act.put, List.setIfInBounds_toArray, List.set_cons_zero, List.set_cons_succ]
      refine wqv (u := .bool (decide (r < 0))) (by kernel_rfl) (fun v hv => by kernel_rfl) ?_
      simp only [Act.put, List.setIfInBounds_toArray, List.set_cons_zero, List.set_cons_succ]
      refine wqnil (fun v hv => ?_)
      have BV := hide (HB.out v hv)
      clear hv KC KZ CC HB
      go_wp2
      go_ret
      exact ⟨by rw [HV2.out]; rfl, BV.out⟩
    · have hV : V = false := by rw [HV.out, decide_eq_false (fun e => h1 e.2), Bool.false_and]
      subst hV
      clear HV hD
      go_enter Try.func56, Try.ntmps56
      go_wp2_with fail
      refine region_q9 (C := fun v => Below (w.heap.size + 1) (w.alloc (.cells #[.int .u64 h, .int .u64 l] 27)) v) (by kernel_rfl) (by kernel_rfl) (Below.refl _ _).drew ?_
      refine wqv (u := .int .i64 nd) (by kernel_rfl) (fun v hv => by kernel_rfl) ?_
      simp only [Act.put, List.setIfInBounds_toArray, List.set_cons_zero, List.set_cons_succ]
      refine wqv (u := .bool true) (by kernel_rfl) (fun v hv => by go_simp) ?_
      simp only [Act.put, List.setIfInBounds_toArray, List.set_cons_zero, List.set_cons_succ]
      refine wqv (u := .bool true) (by kernel_rfl) (fun v hv => by kernel_rfl) ?_
      simp only [Act.put, List.setIfInBounds_toArray, List.set_cons_zero, List.set_cons_succ]
      refine wqv (u := .int .i64 nd) (by kernel_rfl) (fun v hv => by kernel_rfl) ?_
      simp only [Act.put, List.setIfInBounds_toArray, List.set_cons_zero, List.set_cons_succ]
      refine wqv (u := .slice a n c) (by kernel_rfl) (fun v hv => by kernel_rfl) ?_
      simp only [Act.put, List.setIfInBounds_toArray, List.set_cons_zero, List.set_cons_succ]
      refine wqv (u := .int .i64 (n : Int)) (by kernel_rfl) (fun v hv => by go_simp) ?_
      simp only [Act.put, List.setIfInBounds_toArray, List.set_cons_zero, List.set_cons_succ]
      refine wqv (u := .bool false) (by kernel_rfl) (fun v hv => by go_simp) ?_
      simp only [Act.put, List.setIfInBounds_toArray, List.set_cons_zero, List.set_cons_succ]
      refine wqv (u := .bool false) (by kernel_rfl) (fun v hv => by kernel_rfl) ?_
      simp only [Act.put, List.setIfInBounds_toArray, List.set_cons_zero, List.set_cons_succ]
      refine wqv (u := .bool false) (by kernel_rfl) (fun v hv => by kernel_rfl) ?_
      simp only [Act.put, List.setIfInBounds_toArray, List.set_cons_zero, List.set_cons_succ]
      refine wqskip (by kernel_rfl) ?_
      simp only [Act.put, List.setIfInBounds_toArray, List.set_cons_zero, List.set_cons_succ]
      refine wqskip (by kernel_rfl) ?_
      simp only [Act.put, List.setIfInBounds_toArray, List.set_cons_zero, List.set_cons_succ]
      refine wqskip (by kernel_rfl) ?_
      simp only [Act.put, List.setIfInBounds_toArray, List.set_cons_zero, List.set_cons_succ]
      refine wqskip (by kernel_rfl) ?_
      simp only [Act.put, List.setIfInBounds_toArray, List.set_cons_zero, List.set_cons_succ]
      refine wqskip (by kernel_rfl) ?_
      simp only [Act.put, List.setIfInBounds_toArray, List.set_cons_zero, List.set_cons_succ]
      refine wqskip (by kernel_rfl) ?_
      simp only [Act.put, List.setIfInBounds_toArray, List.set_cons_zero, List.set_cons_succ]
      refine wqskip (by kernel_rfl) ?_
      simp only [Act.put, List.setIfInBounds_toArray, List.set_cons_zero, List.set_cons_succ]
      refine wqv (u := .bool false) (by kernel_rfl) (fun v hv => by kernel_rfl) ?_
      simp only [Act.put, List.setIfInBounds_toArray, List.set_cons_zero, List.set_cons_succ]
      refine wqv (u := .bool false) (by kernel_rfl) (fun v hv => by kernel_rfl) ?_
      simp only [Act.put, List.setIfInBounds_toArray, List.set_cons_zero, List.set_cons_succ]
      refine wqnil (fun v hv => ?_)
      have BV := hide (HB.out v hv)
      clear hv HB
      go_wp2
      go_ret
      exact ⟨rfl, BV.out⟩
  · have hV : V = false := by rw [HV.out, decide_eq_false (fun e => h0 e.1), Bool.false_and]
    subst hV
    clear HV hD
    go_enter Try.func56, Try.ntmps56
    go_wp2_with fail
    refine region_q9 (C := fun v => Below (w.heap.size + 1) (w.alloc (.cells #[.int .u64 h, .int .u64 l] 27)) v) (by kernel_rfl) (by kernel_rfl) (Below.refl _ _).drew ?_
    refine wqv (u := .int .i64 nd) (by kernel_rfl) (fun v hv => by kernel_rfl) ?_
    simp only [Act.put, List.setIfInBounds_toArray, List.set_cons_zero, List.set_cons_succ]
    refine wqv (u := .bool false) (by kernel_rfl) (fun v hv => by go_simp) ?_
    simp only [Act.put, List.setIfInBounds_toArray, List.set_cons_zero, List.set_cons_succ]
    refine wqv (u := .bool false) (by kernel_rfl) (fun v hv => by kernel_rfl) ?_
    simp only [Act.put, List.setIfInBounds_toArray, List.set_cons_zero, List.set_cons_succ]
    refine wqskip (by kernel_rfl) ?_
    simp only [Act.put, List.setIfInBounds_toArray, List.set_cons_zero, List.set_cons_succ]
    refine wqskip (by kernel_rfl) ?_
    simp only [Act.put, List.setIfInBounds_toArray, List.set_cons_zero, List.set_cons_succ]
    refine wqskip (by kernel_rfl) ?_
    simp only [Act.put, List.setIfInBounds_toArray, List.set_cons_zero, List.set_cons_succ]
    refine wqskip (by kernel_rfl) ?_
    simp only [Act.put, List.setIfInBounds_toArray, List.set_cons_zero, List.set_cons_succ]
    refine wqv (u := .bool false) (by kernel_rfl) (fun v hv => by kernel_rfl) ?_
    simp only [Act.put, List.setIfInBounds_toArray, List.set_cons_zero, List.set_cons_succ]
    refine wqv (u := .bool false) (by kernel_rfl) (fun v hv => by kernel_rfl) ?_
    simp only [Act.put, List.setIfInBounds_toArray, List.set_cons_zero, List.set_cons_succ]
    refine wqskip (by kernel_rfl) ?_
    simp only [Act.put, List.setIfInBounds_toArray, List.set_cons_zero, List.set_cons_succ]
    refine wqskip (by kernel_rfl) ?_
    simp only [Act.put, List.setIfInBounds_toArray, List.set_cons_zero, List.set_cons_succ]
    refine wqskip (by kernel_rfl) ?_
    simp only [Act.put, List.setIfInBounds_toArray, List.set_cons_zero, List.set_cons_succ]
    refine wqskip (by kernel_rfl) ?_
    simp only [Act.put, List.setIfInBounds_toArray, List.set_cons_zero, List.set_cons_succ]
    refine wqskip (by kernel_rfl) ?_
    simp only [Act.put, List.setIfInBounds_toArray, List.set_cons_zero, List.set_cons_succ]
    refine wqskip (by kernel_rfl) ?_
    simp only [Act.put, List.setIfInBounds_toArray, List.set_cons_zero, List.set_cons_succ]
    refine wqskip (by kernel_rfl) ?_
    simp only [Act.put, List.setIfInBounds_toArray, List.set_cons_zero, List.set_cons_succ]
    refine wqv (u := .bool false) (by kernel_rfl) (fun v hv => by kernel_rfl) ?_
    simp only [Act.put, List.setIfInBounds_toArray, List.set_cons_zero, List.set_cons_succ]
    refine wqv (u := .bool false) (by kernel_rfl) (fun v hv => by kernel_rfl) ?_
    simp only [Act.put, List.setIfInBounds_toArray, List.set_cons_zero, List.set_cons_succ]
    refine wqnil (fun v hv => ?_)
    have BV := hide (HB.out v hv)
    clear hv HB
    go_wp2
    go_ret
    exact ⟨rfl, BV.out⟩


set_option maxRecDepth 100000 in
set_option maxHeartbeats 400000 in
/-- The document's takes. -/
theorem reftakes_any (h l h' l' : Int) (g : Bool) (w : World) : Calls Try.prog 54 #[.agg #[.int .u64 h, .int .u64 l], .agg #[.int .u64 h', .int .u64 l'], .bool g] w fun e w' => e = .returned (.bool (decide (0 < cmpD h l h' l') || (decide (cmpD h l h' l' = 0) && g))) ∧ Below w.heap.size w w' := by
  have bw : Hid (Below w.heap.size w ((w.alloc (.cells #[.int .u64 h, .int .u64 l] 27)).alloc (.cells #[.int .u64 h', .int .u64 l'] 27))) := ((Below.refl _ w).alloc (Nat.le_refl _) _).alloc (by simp) _
  have cr := hide (fun W => refcompare_any h l h' l' W)
  generalize cmpD h l h' l' = r at *
  obtain ⟨T, HT⟩ : ∃ T, Hid (T = (decide (0 < r) || (decide (r = 0) && g))) := ⟨_, rfl⟩
  rw [← HT.out]
  go_enter Try.func54, Try.ntmps54
  go_wp2_with fail
  refine (cr.out _).mono ?_
  rintro e w2 ⟨rfl, b2⟩
  dsimp only
  have B2 := hide (bw.out.trans (b2.mono bw.out.size))
  clear b2 cr
  by_cases h1 : 0 < r
  · have hk : Hid (T = true) := by show _ = _; rw [HT.out]; simp [h1]
    go_wp2
    go_ret
    exact ⟨by rw [hk.out]; rfl, B2.out⟩
  · by_cases h2 : r = 0
    · have hk : Hid (T = g) := by show _ = _; rw [HT.out]; simp [h2]
      have h2b : (r == 0) = true := by simp [h2]
      clear h2
      go_wp2
      go_ret
      exact ⟨by rw [hk.out]; rfl, B2.out⟩
    · have hk : Hid (T = false) := by show _ = _; rw [HT.out]; simp [h1, h2]
      have h2b : (r == 0) = false := by simp [h2]
      go_wp2
      go_ret
      exact ⟨by rw [hk.out]; rfl, B2.out⟩
set_option maxRecDepth 100000 in
set_option maxHeartbeats 1000000 in
/-- The document's PruneMarks. -/
theorem refprunemarks_any (L : List Mk) (D : List (Int × Int)) (a av : Option Addr) (n k vn vc : Nat) (w : World) (h : SlY yMkA w a n k L) (hD : SlY yD w av vn vc D) (hm : n * 24 ≤ 140737488355328) :
    Calls Try.prog 21 #[.slice a n k, .slice av vn vc] w fun e w' => ∃ v, e = .returned v ∧ OwnY yMkA w.heap.size w' v (Mk.prn L D) ∧ Below w.heap.size w w' := by
  have hmx := h.max
  have hcp := h.cap
  have hln := h.len
  unfold maxLen at hmx
  have H := hide h
  have HD := hide hD
  have HN := hide hln
  clear h hln hD
  have HP : Hid (∀ v w', OwnY yMkA w.heap.size w' v (Mk.prn (L.take n) D) → OwnY yMkA w.heap.size w' v (Mk.prn L D)) := fun v w' ho => by
    rwa [List.take_of_length_le (by rw [HN.out]; exact Nat.le_refl _)] at ho
  go_enter Try.func21, Try.ntmps21
  go_wp2
  go_loopw [6, 5] (fun i v wr => ∃ (j : Nat) (v5 : Value), i = .int .i64 (j : Int) ∧ j ≤ n ∧ v = v5 ∧ Hid (OwnY yMkA w.heap.size wr v5 (Mk.prn (L.take j) D)) ∧ Hid (Below w.heap.size w wr)) (fun i _ _ => n - (intOf i).toNat)
  case atStart => exact ⟨0, _, rfl, Nat.zero_le _, rfl, OwnY.nil _ _ _, Below.refl _ _⟩
  case round =>
    obtain ⟨j, v5, rfl, hj, hv5, hO, hbl⟩ := hrel
    have hv5 := hv5.symm
    subst hv5
    by_cases hlt : j < n
    · have hjl : j < L.length := by rw [HN.out]; exact hlt
      have hg : L[j]? = some L[j] := List.getElem?_eq_getElem hjl
      have hpl : Hid ((Mk.prn (L.take j) D).length ≤ j) := by
        show _ ≤ _
        unfold Mk.prn
        refine Nat.le_trans (List.length_filter_le _ _) ?_
        rw [List.length_take]
        omega
      have hst : Hid (Mk.prn (L.take (j + 1)) D = Mk.prn (L.take j) D ++ (if ovr D L[j].n L[j].h L[j].l = true then [] else [L[j]])) := by
        show _ = _
        unfold Mk.prn
        rw [List.take_add_one, hg, Option.toList_some, List.filter_append]
        congr 1
        cases hV : ovr D L[j].n L[j].h L[j].l <;> simp [hV]
      obtain ⟨q, o, ea, hq, _⟩ := (H.out.later hbl.out).MkA hg
      have KS : Hid (∀ v, Below w.heap.size w v → v.cell? ⟨q, o + j * 3, none⟩ = some (.int .i64 L[j].n) ∧ v.cell? ⟨q, o + j * 3 + 1, none⟩ = some (.int .u64 L[j].h) ∧ v.cell? ⟨q, o + j * 3 + 2, none⟩ = some (.int .u64 L[j].l)) := fun v hv => by
        obtain ⟨q', o', ea', _, y0, y1, y2⟩ := (H.out.later hv).MkA hg
        rw [ea] at ea'
        cases ea'
        exact ⟨y0, y1, y2⟩
      cases ea
      clear hg
      generalize L[j] = x at *
      have co := hide (fun W (hW : Below w.heap.size w W) => refover_any D av vn vc x.n x.h x.l W (HD.out.later hW))
      generalize ovr D x.n x.h x.l = V at *
      have zr := hbl.out.size
      have s0 := KS.out _ hbl.out.drew
      generalize Mk.prn (L.take j) D = PJ at *
      go_wp2_with fail
      go_region_held3 (fun v => v.cell? ⟨q, o + j * 3, none⟩ = some (.int .i64 x.n) ∧ v.cell? ⟨q, o + j * 3 + 1, none⟩ = some (.int .u64 x.h) ∧ v.cell? ⟨q, o + j * 3 + 2, none⟩ = some (.int .u64 x.l)) (with_reducible assumption) (first
        | (go_at_call 56; refine (co.out _ hbl.out.drew).mono ?_; rintro e w2 ⟨rfl, b2⟩; have C2 := hide ((Below.refl wr.heap.size wr).drew.trans b2); have D2 := hide (hbl.out.trans (C2.out.mono zr)); have s2 := KS.out w2 D2.out; clear b2))
      obtain ⟨t0, t1, t2⟩ := KS.out w2 D2.out
      have O2 := hide (hO.out.grow C2.out)
      clear hO co
      cases V with
      | true =>
        have hst2 : Hid (OwnY yMkA w.heap.size w2 v5 (Mk.prn (L.take (j + 1)) D)) := by show OwnY _ _ _ _ _; rw [hst.out, if_pos rfl, List.append_nil]; exact O2.out
        go_wp2
        go_round
        case rel => exact ⟨j + 1, v5, by go_num, by omega, rfl, hst2, D2⟩
        case measure => first | (simp [intOf]; done) | (simp [intOf]; omega)
      | false =>
        have SB : Hid (SlY yMkA (w2.alloc (.cells #[.int .i64 x.n, .int .u64 x.h, .int .u64 x.l] 29)) (some ⟨w2.heap.size, 0, none⟩) 1 1 [x]) := sl_box (Y := yMkA) w2 x 29
        have D3 := hide (D2.out.alloc D2.out.size (.cells #[.int .i64 x.n, .int .u64 x.h, .int .u64 x.l] 29))
        have O3 := hide (O2.out.alloc (.cells #[.int .i64 x.n, .int .u64 x.h, .int .u64 x.l] 29))
        have z3 : w.heap.size ≤ (w2.alloc (.cells #[.int .i64 x.n, .int .u64 x.h, .int .u64 x.l] 29)).heap.size := D3.out.size
        go_upto_region 6 with fail
        go_wp2_with (at_builtin; go_must (refine appY kMkA _ rfl (.tmp 26) (.tmp 31) rfl w.heap.size PJ _ rfl (some ⟨w2.heap.size, 0, none⟩) 1 1 rfl [x] SB.out O3.out z3 (by unfold maxLen; have := hpl.out; omega) (by show (_ + 1) * 24 ≤ _; have := hpl.out; omega) ?_))
        intro v' w4 o4 g4 e4
        have D4 := hide (O3.out.grown D3.out g4 z3)
        have O4 : Hid (OwnY yMkA w.heap.size w4 v' (Mk.prn (L.take (j + 1)) D)) := by show OwnY _ _ _ _ _; rw [hst.out, if_neg (by simp)]; exact o4
        clear o4 g4 e4
        go_wp2
        go_round
        case rel => exact ⟨j + 1, v', by go_num, by omega, rfl, O4, D4⟩
        case measure => first | (simp [intOf]; done) | (simp [intOf]; omega)
    · obtain rfl : j = n := by omega
      have O9 := hide (HP.out _ _ hO.out)
      clear hO HP
      go_wp2
      go_ret
      exact ⟨_, rfl, O9.out, hbl.out⟩

end Go.Proofs.Ytnhonkgondljjaa
