import Derived.Test.YtcmjhaljbmhpgaaGreatSwt
import Derived.Test.YtcmjhaljbmhpgaaGreatSp
namespace Go.Proofs.YtcmjhaljbmhpgaaGreat
open Go.RowKit Go.Maps
open Classical
set_option linter.unusedVariables false
set_option linter.unusedSimpArgs false

/-- The document's primary. -/
theorem refprimary_any (f v : Int) (w : World) (h1 : 1 ≤ f) (h3 : f ≤ 3) : Calls Tryz.prog 88 #[.int .i64 f, .int .i64 v] w fun e w' => e = .returned (.int .i64 (v % (2 * f + 1))) ∧ w' = w := by
  have hn : (0 : Int) < 2 * f + 1 := by omega
  have hw1 : IntKind.i64.wrap (2 * f) = 2 * f := by rw [IntKind.wrap_i64]; omega
  have hw2 : IntKind.i64.wrap (2 * f + 1) = 2 * f + 1 := by rw [IntKind.wrap_i64]; omega
  have hb : (2 * f + 1 == 0) = false := beq_eq_false_iff_ne.2 (by omega)
  have hb0 : ¬ (2 * f + 1 = 0) := by omega
  have g1 := Int.lt_tmod_of_pos v hn
  have g2 := Int.tmod_lt_of_pos v hn
  have hw3 : IntKind.i64.wrap (Int.tmod v (2 * f + 1)) = Int.tmod v (2 * f + 1) := by rw [IntKind.wrap_i64]; omega
  have hw4 : IntKind.i64.wrap (Int.tmod v (2 * f + 1) + (2 * f + 1)) = Int.tmod v (2 * f + 1) + (2 * f + 1) := by rw [IntKind.wrap_i64]; omega
  have e1 := Int.emod_nonneg v hb0
  have e2 := Int.emod_lt_of_pos v hn
  have HE : Hid (v % (2 * f + 1) = if Int.tmod v (2 * f + 1) < 0 then Int.tmod v (2 * f + 1) + (2 * f + 1) else Int.tmod v (2 * f + 1)) := by
    show _ = _
    have hd := Int.tmod_def v (2 * f + 1)
    have h5 : Int.tmod v (2 * f + 1) % (2 * f + 1) = v % (2 * f + 1) := by rw [hd, Int.sub_mul_emod_self_left]
    split
    · rename_i hneg
      rw [← h5, ← Int.add_emod_right, Int.emod_eq_of_lt (by omega) (by omega)]
    · rename_i hneg
      rw [← h5, Int.emod_eq_of_lt (by omega) (by omega)]
  generalize v % (2 * f + 1) = Z at *
  by_cases hneg : Int.tmod v (2 * f + 1) < 0
  · have hZ : Hid (Z = Int.tmod v (2 * f + 1) + (2 * f + 1)) := by show _ = _; rw [HE.out, if_pos hneg]
    clear HE e1 e2
    go_enter Tryz.func88, Tryz.ntmps88
    go_wp2
    go_ret
    exact ⟨by rw [hZ.out]; rfl, rfl⟩
  · have hZ : Hid (Z = Int.tmod v (2 * f + 1)) := by show _ = _; rw [HE.out, if_neg hneg]
    clear HE e1 e2
    go_enter Tryz.func88, Tryz.ntmps88
    go_wp2
    go_ret
    exact ⟨by rw [hZ.out]; rfl, rfl⟩
/-- What the document's Settle answers. -/
def RStl (B : Nat) (o : Option An) (e : Ending) (w : World) : Prop := match o with
  | none => e = .returned (.tuple #[(⟨0, 0, 0, 0, 0, ⟨none, 0, []⟩⟩ : An).val, .int .i64 81])
  | some x => ∃ y : An, e = .returned (.tuple #[y.val, .int .i64 0]) ∧ An.Cp B w x y
set_option maxRecDepth 100000 in
set_option maxHeartbeats 4000000 in
theorem refsettle_any (f : Int) (L : List An) (a : Option Addr) (n k : Nat) (w : World) (h : SlY yAnA w a n k L) (hlogs : ∀ x ∈ L, x.In w ∧ x.s.D.length * 48 ≤ 140737488351232) :
    Calls Tryz.prog 41 #[.int .i64 f, .slice a n k] w fun e w' => RStl w.heap.size (stl f L) e w' ∧ Below w.heap.size w w' := by
  have hmx := h.max
  have hcp := h.cap
  have hln := h.len
  unfold maxLen at hmx
  have H := hide h
  have HN := hide hln
  have HX := hide hlogs
  have HS : Hid (stl f L = if f < 1 ∨ 3 < f ∨ (n : Int) < f + 1 then none else L.find? (fun x => decide (x.v = mxv L) && decide (x.n = mxv L % (2 * f + 1)))) := by show _ = _; unfold stl; rw [hln]
  clear h hln hlogs
  generalize stl f L = S at *
  have B0 : Hid (Below w.heap.size w (w.alloc (.cells #[.int .i64 0, .int .u64 0, .int .u64 0, .int .i64 0, .int .i64 0, .slice none 0 0] 69))) := (Below.refl _ w).alloc (Nat.le_refl _) _
  have OB : Hid (OwnY yAnA w.heap.size (w.alloc (.cells #[.int .i64 0, .int .u64 0, .int .u64 0, .int .i64 0, .int .i64 0, .slice none 0 0] 69)) (.slice (some ⟨w.heap.size, 0, none⟩) 1 1) [⟨0, 0, 0, 0, 0, ⟨none, 0, []⟩⟩]) := own_box kAnA w.heap.size w _ (Nat.le_refl _)
  by_cases h1 : f < 1
  · have hS : S = none := by rw [HS.out, if_pos (.inl h1)]
    subst hS
    go_enter Tryz.func41, Tryz.ntmps41
    go_wp2_with (refine storeY kAnA _ rfl 69 (.tmp 4) (.tmp 23) rfl w.heap.size w.heap.size 1 1 [⟨0, 0, 0, 0, 0, ⟨none, 0, []⟩⟩] 0 0 ⟨0, 0, 0, 0, 0, ⟨none, 0, []⟩⟩ ⟨0, 0, 0, 0, 0, ⟨none, 0, []⟩⟩ _ rfl rfl rfl (by kernel_rfl) (by exact (by decide : 6 ≤ 6)) rfl OB.out ?_)
    intro w8 o8 u8 z8
    have v0 := o8.cell kAnA 0 _ rfl 0 _ rfl
    have v1 := o8.cell kAnA 0 _ rfl 1 _ rfl
    have v2 := o8.cell kAnA 0 _ rfl 2 _ rfl
    have v3 := o8.cell kAnA 0 _ rfl 3 _ rfl
    have v4 := o8.cell kAnA 0 _ rfl 4 _ rfl
    have v5 := o8.cell kAnA 0 _ rfl 5 _ rfl
    simp only [Nat.zero_mul, Nat.zero_add] at v0 v1 v2 v3 v4 v5
    have U8 := hide u8
    clear o8 u8
    go_wp2
    refine bodyPost_ret (v := .tuple #[(⟨0, 0, 0, 0, 0, ⟨none, 0, []⟩⟩ : An).val, .int .i64 81]) (by simp [results, Tryz.results41, go_sem, v0, v1, v2, v3, v4, v5, An.val]) rfl ?_
    exact ⟨rfl, B0.out.trans (U8.out.below (by simp) (fun k e => by subst e; exact Nat.le_refl _))⟩
  by_cases h2 : 3 < f
  · have hS : S = none := by rw [HS.out, if_pos (.inr (.inl h2))]
    subst hS
    go_enter Tryz.func41, Tryz.ntmps41
    go_wp2_with (refine storeY kAnA _ rfl 69 (.tmp 4) (.tmp 23) rfl w.heap.size w.heap.size 1 1 [⟨0, 0, 0, 0, 0, ⟨none, 0, []⟩⟩] 0 0 ⟨0, 0, 0, 0, 0, ⟨none, 0, []⟩⟩ ⟨0, 0, 0, 0, 0, ⟨none, 0, []⟩⟩ _ rfl rfl rfl (by kernel_rfl) (by exact (by decide : 6 ≤ 6)) rfl OB.out ?_)
    intro w8 o8 u8 z8
    have v0 := o8.cell kAnA 0 _ rfl 0 _ rfl
    have v1 := o8.cell kAnA 0 _ rfl 1 _ rfl
    have v2 := o8.cell kAnA 0 _ rfl 2 _ rfl
    have v3 := o8.cell kAnA 0 _ rfl 3 _ rfl
    have v4 := o8.cell kAnA 0 _ rfl 4 _ rfl
    have v5 := o8.cell kAnA 0 _ rfl 5 _ rfl
    simp only [Nat.zero_mul, Nat.zero_add] at v0 v1 v2 v3 v4 v5
    have U8 := hide u8
    clear o8 u8
    go_wp2
    refine bodyPost_ret (v := .tuple #[(⟨0, 0, 0, 0, 0, ⟨none, 0, []⟩⟩ : An).val, .int .i64 81]) (by simp [results, Tryz.results41, go_sem, v0, v1, v2, v3, v4, v5, An.val]) rfl ?_
    exact ⟨rfl, B0.out.trans (U8.out.below (by simp) (fun k e => by subst e; exact Nat.le_refl _))⟩
  have hw : IntKind.i64.wrap (f + 1) = f + 1 := by rw [IntKind.wrap_i64]; omega
  by_cases h3 : (n : Int) < f + 1
  · have hS : S = none := by rw [HS.out, if_pos (.inr (.inr h3))]
    subst hS
    go_enter Tryz.func41, Tryz.ntmps41
    go_wp2_with (refine storeY kAnA _ rfl 69 (.tmp 4) (.tmp 23) rfl w.heap.size w.heap.size 1 1 [⟨0, 0, 0, 0, 0, ⟨none, 0, []⟩⟩] 0 0 ⟨0, 0, 0, 0, 0, ⟨none, 0, []⟩⟩ ⟨0, 0, 0, 0, 0, ⟨none, 0, []⟩⟩ _ rfl rfl rfl (by kernel_rfl) (by exact (by decide : 6 ≤ 6)) rfl OB.out ?_)
    intro w8 o8 u8 z8
    have v0 := o8.cell kAnA 0 _ rfl 0 _ rfl
    have v1 := o8.cell kAnA 0 _ rfl 1 _ rfl
    have v2 := o8.cell kAnA 0 _ rfl 2 _ rfl
    have v3 := o8.cell kAnA 0 _ rfl 3 _ rfl
    have v4 := o8.cell kAnA 0 _ rfl 4 _ rfl
    have v5 := o8.cell kAnA 0 _ rfl 5 _ rfl
    simp only [Nat.zero_mul, Nat.zero_add] at v0 v1 v2 v3 v4 v5
    have U8 := hide u8
    clear o8 u8
    go_wp2
    refine bodyPost_ret (v := .tuple #[(⟨0, 0, 0, 0, 0, ⟨none, 0, []⟩⟩ : An).val, .int .i64 81]) (by simp [results, Tryz.results41, go_sem, v0, v1, v2, v3, v4, v5, An.val]) rfl ?_
    exact ⟨rfl, B0.out.trans (U8.out.below (by simp) (fun k e => by subst e; exact Nat.le_refl _))⟩
  have HS2 : Hid (S = L.find? (fun x => decide (x.v = mxv L) && decide (x.n = mxv L % (2 * f + 1)))) := by show _ = _; rw [HS.out, if_neg (by omega)]
  clear HS
  have hn0 : 0 < n := by omega
  have hl0 : 0 < L.length := by rw [HN.out]; exact hn0
  have hg0 : L[0]? = some L[0] := List.getElem?_eq_getElem hl0
  obtain ⟨q, o, rfl, hq, y0, y1, y2, y3, y4, y5⟩ := (H.out.later B0.out).AnA hg0
  have hM0 : Hid (mxv L = mxA L[0].v (L.drop 0)) := by
    show _ = _
    unfold mxv
    cases L with
    | nil => cases hl0
    | cons x r => rfl
  clear hg0 y0 y1 y2 y4 y5
  simp only [Nat.zero_mul, Nat.add_zero] at y3
  generalize L[0].v = v0 at *
  have hn0' : (0 : Int) < (n : Int) := by omega
  have hwz : Hid ((w.alloc (.cells #[.int .i64 0, .int .u64 0, .int .u64 0, .int .i64 0, .int .i64 0, .slice none 0 0] 69)).heap.size = w.heap.size + 1) := by show _ = _; simp
  generalize hw0 : (w.alloc (.cells #[.int .i64 0, .int .u64 0, .int .u64 0, .int .i64 0, .int .i64 0, .slice none 0 0] 69)) = w0 at *
  have KL : Hid (∀ (i : Nat) (x : An), L[i]? = some x → ∀ v, Below (w.heap.size + 1) w0 v → v.cell? ⟨q, o + i * 6, none⟩ = some (.int .i64 x.n) ∧ v.cell? ⟨q, o + i * 6 + 1, none⟩ = some (.int .u64 x.h) ∧ v.cell? ⟨q, o + i * 6 + 2, none⟩ = some (.int .u64 x.l) ∧ v.cell? ⟨q, o + i * 6 + 3, none⟩ = some (.int .i64 x.v) ∧ v.cell? ⟨q, o + i * 6 + 4, none⟩ = some (.int .i64 x.c) ∧ v.cell? ⟨q, o + i * 6 + 5, none⟩ = some (.slice x.s.a x.s.D.length x.s.c)) := fun i x hx v hv => by
    obtain ⟨q', o', e1, _, yy⟩ := (H.out.later (B0.out.trans (hv.mono (by omega)))).AnA hx
    cases e1
    exact yy
  go_enter Tryz.func41, Tryz.ntmps41
  go_wp2
  try rw [hw0]
  clear hw0
  go_loopw [7, 6] (fun i m wr => ∃ (j : Nat) (M : Int), i = .int .i64 (j : Int) ∧ j ≤ n ∧ m = .int .i64 M ∧ Hid (mxv L = mxA M (L.drop j)) ∧ wr = w0) (fun i _ _ => n - (intOf i).toNat)
  case atStart => exact ⟨0, v0, rfl, Nat.zero_le _, rfl, hM0, rfl⟩
  case round =>
    obtain ⟨j, M, rfl, hj, rfl, hM, hwr⟩ := hrel
    subst hwr
    by_cases hlt : j < n
    · have hjl : j < L.length := by rw [HN.out]; exact hlt
      obtain ⟨y0, y1, y2, y3', y4, y5⟩ := KL.out j _ (List.getElem?_eq_getElem hjl) _ (Below.refl _ _)
      have hM1 : Hid (mxv L = mxA (if M < L[j].v then L[j].v else M) (L.drop (j + 1))) := by show _ = _; rw [hM.out, mxA_drop hjl]
      clear hM y0 y1 y2 y4 y5
      generalize L[j].v = xv at *
      by_cases hc : M < xv
      · rw [if_pos hc] at hM1
        go_wp2
        go_round
        case rel => exact ⟨j + 1, xv, by go_num, by omega, rfl, hM1, by first | rfl | trivial⟩
        case measure => first | (simp [intOf]; done) | (simp [intOf]; omega)
      · rw [if_neg hc] at hM1
        go_wp2
        go_round
        case rel => exact ⟨j + 1, M, by go_num, by omega, rfl, hM1, by first | rfl | trivial⟩
        case measure => first | (simp [intOf]; done) | (simp [intOf]; omega)
    · obtain rfl : j = n := by omega
      have hM1 : Hid (mxv L = M) := by show _ = _; rw [hM.out, List.drop_of_length_le (by rw [HN.out]; exact Nat.le_refl _), mxA]
      clear hM hM0 y3 hq
      have HS3 : Hid (S = (L.drop 0).find? (fun x => decide (x.v = M) && decide (x.n = M % (2 * f + 1)))) := by show _ = _; rw [HS2.out, hM1.out]; rfl
      clear HS2 hM1
      obtain ⟨w0', hw0'⟩ : ∃ w0', w0' = wr := ⟨_, rfl⟩
      subst hw0'
      go_wp2
      go_loopw [8] (fun i wr => ∃ j2 : Nat, i = .int .i64 (j2 : Int) ∧ j2 ≤ j ∧ Hid (S = (L.drop j2).find? (fun x => decide (x.v = M) && decide (x.n = M % (2 * f + 1)))) ∧ Hid (Below (w.heap.size + 1) w0' wr)) (fun i _ => j - (intOf i).toNat)
      case atStart => exact ⟨0, rfl, Nat.zero_le _, HS3, Below.refl _ _⟩
      case round =>
        clear HS3
        obtain ⟨j2, rfl, hk, hS, hbl⟩ := hrel
        have hsz : w.heap.size + 1 ≤ wr.heap.size := by have := hbl.out.size; rwa [hwz.out] at this
        by_cases hlt : j2 < j
        · have hjl : j2 < L.length := by rw [HN.out]; exact hlt
          have hSk : Hid (S = if (decide (L[j2].v = M) && decide (L[j2].n = M % (2 * f + 1))) = true then some L[j2] else (L.drop (j2 + 1)).find? (fun x => decide (x.v = M) && decide (x.n = M % (2 * f + 1)))) := by
            show _ = _
            rw [hS.out, List.drop_eq_getElem_cons hjl, List.find?_cons]
            cases (decide (L[j2].v = M) && decide (L[j2].n = M % (2 * f + 1))) <;> rfl
          have KS : Hid (∀ v, Below wr.heap.size wr v → v.cell? ⟨q, o + j2 * 6, none⟩ = some (.int .i64 L[j2].n) ∧ v.cell? ⟨q, o + j2 * 6 + 1, none⟩ = some (.int .u64 L[j2].h) ∧ v.cell? ⟨q, o + j2 * 6 + 2, none⟩ = some (.int .u64 L[j2].l) ∧ v.cell? ⟨q, o + j2 * 6 + 3, none⟩ = some (.int .i64 L[j2].v) ∧ v.cell? ⟨q, o + j2 * 6 + 4, none⟩ = some (.int .i64 L[j2].c) ∧ v.cell? ⟨q, o + j2 * 6 + 5, none⟩ = some (.slice L[j2].s.a L[j2].s.D.length L[j2].s.c)) := fun v hv => KL.out j2 _ (List.getElem?_eq_getElem hjl) v (hbl.out.trans (hv.mono hsz))
          have HIN : Hid (L[j2].In w ∧ L[j2].s.D.length * 48 ≤ 140737488351232) := HX.out _ (List.getElem_mem hjl)
          clear hS
          generalize L[j2] = x at *
          have cp := hide (fun W => refprimary_any f M W (by omega) (by omega))
          generalize M % (2 * f + 1) = P at *
          by_cases hv1 : x.v = M
          · have hb1 : (x.v == M) = true := by simp [hv1]
            by_cases hp : x.n = P
            · have hbp : (x.n == P) = true := by simp [hp]
              have hSS : Hid (S = some x) := by show _ = _; rw [hSk.out, decide_eq_true hv1, decide_eq_true hp]; rfl
              clear hSk hv1 hp
              go_wp2_with fail
              refine region_q9 (C := fun v => Below wr.heap.size wr v) (by kernel_rfl) (by kernel_rfl) (Below.refl _ _).drew ?_
              refine wqv (u := .slice (some ⟨q, o, none⟩) j k) (by kernel_rfl) (fun v hv => by kernel_rfl) ?_
              simp only [Act.put, List.setIfInBounds_toArray, List.set_cons_zero, List.set_cons_succ]
              refine wqv (u := .int .i64 (j2 : Int)) (by kernel_rfl) (fun v hv => by kernel_rfl) ?_
              simp only [Act.put, List.setIfInBounds_toArray, List.set_cons_zero, List.set_cons_succ]
              refine wqv (u := .pointer (some ⟨q, o + j2 * 6, none⟩)) (by kernel_rfl) (fun v hv => by go_simp) ?_
              simp only [Act.put, List.setIfInBounds_toArray, List.set_cons_zero, List.set_cons_succ]
              refine wqv (u := .pointer (some ⟨q, o + j2 * 6 + 3, none⟩)) (by kernel_rfl) (fun v hv => by go_simp) ?_
              simp only [Act.put, List.setIfInBounds_toArray, List.set_cons_zero, List.set_cons_succ]
              refine wqv (u := .int .i64 x.v) (by kernel_rfl) (fun v hv => by obtain ⟨y0, y1, y2, y3, y4, y5⟩ := KS.out v hv; go_simp) ?_
              simp only [Act.put, List.setIfInBounds_toArray, List.set_cons_zero, List.set_cons_succ]
              refine wqv (u := .int .i64 M) (by kernel_rfl) (fun v hv => by kernel_rfl) ?_
              simp only [Act.put, List.setIfInBounds_toArray, List.set_cons_zero, List.set_cons_succ]
              refine wqv (u := .bool true) (by kernel_rfl) (fun v hv => by go_simp) ?_
              simp only [Act.put, List.setIfInBounds_toArray, List.set_cons_zero, List.set_cons_succ]
              refine wqv (u := .bool true) (by kernel_rfl) (fun v hv => by kernel_rfl) ?_
              simp only [Act.put, List.setIfInBounds_toArray, List.set_cons_zero, List.set_cons_succ]
              refine wqv (u := .slice (some ⟨q, o, none⟩) j k) (by kernel_rfl) (fun v hv => by kernel_rfl) ?_
              simp only [Act.put, List.setIfInBounds_toArray, List.set_cons_zero, List.set_cons_succ]
              refine wqv (u := .int .i64 (j2 : Int)) (by kernel_rfl) (fun v hv => by kernel_rfl) ?_
              simp only [Act.put, List.setIfInBounds_toArray, List.set_cons_zero, List.set_cons_succ]
              refine wqv (u := .pointer (some ⟨q, o + j2 * 6, none⟩)) (by kernel_rfl) (fun v hv => by go_simp) ?_
              simp only [Act.put, List.setIfInBounds_toArray, List.set_cons_zero, List.set_cons_succ]
              refine wqv (u := .pointer (some ⟨q, o + j2 * 6, none⟩)) (by kernel_rfl) (fun v hv => by go_simp) ?_
              simp only [Act.put, List.setIfInBounds_toArray, List.set_cons_zero, List.set_cons_succ]
              refine wqv (u := .int .i64 x.n) (by kernel_rfl) (fun v hv => by obtain ⟨y0, y1, y2, y3, y4, y5⟩ := KS.out v hv; go_simp) ?_
              simp only [Act.put, List.setIfInBounds_toArray, List.set_cons_zero, List.set_cons_succ]
              refine wqv (u := .int .i64 f) (by kernel_rfl) (fun v hv => by kernel_rfl) ?_
              simp only [Act.put, List.setIfInBounds_toArray, List.set_cons_zero, List.set_cons_succ]
              refine wqv (u := .int .i64 M) (by kernel_rfl) (fun v hv => by kernel_rfl) ?_
              simp only [Act.put, List.setIfInBounds_toArray, List.set_cons_zero, List.set_cons_succ]
              refine wqc (fid := 88) (args := #[.int .i64 f, .int .i64 M]) (u := .int .i64 P) (by kernel_rfl) (fun v => by kernel_rfl) (fun v hv => (cp.out v).mono fun e w2 h => ⟨h.1, h.2 ▸ hv⟩) ?_
              simp only [Act.put, List.setIfInBounds_toArray, List.set_cons_zero, List.set_cons_succ]
              refine wqv (u := .bool true) (by kernel_rfl) (fun v hv => by go_simp) ?_
              simp only [Act.put, List.setIfInBounds_toArray, List.set_cons_zero, List.set_cons_succ]
              refine wqv (u := .bool true) (by kernel_rfl) (fun v hv => by kernel_rfl) ?_
              simp only [Act.put, List.setIfInBounds_toArray, List.set_cons_zero, List.set_cons_succ]
              refine wqnil (fun w2 hv => ?_)
              obtain ⟨y0, y1, y2, y3, y4, y5⟩ := KS.out w2 hv
              have D2 := hide (hbl.out.trans (hv.mono hsz))
              have s2 := hv.size
              clear hv
              have OBR := hide (OB.out.grow (show Below w0'.heap.size w0' w2 by rw [hwz.out]; exact D2.out))
              have OZ := hide (own_box kAnA w2.heap.size w2 (⟨0, 0, 0, 0, 0, ⟨none, 0, []⟩⟩ : An) (Nat.le_refl _))
              have hza : Hid ((w2.alloc (.cells #[.int .i64 0, .int .u64 0, .int .u64 0, .int .i64 0, .int .i64 0, .slice none 0 0] 69)).heap.size = w2.heap.size + 1) := by show _ = _; simp
              have BA : Hid (Below w2.heap.size w2 (w2.alloc (.cells #[.int .i64 0, .int .u64 0, .int .u64 0, .int .i64 0, .int .i64 0, .slice none 0 0] 69))) := (Below.refl _ _).alloc (Nat.le_refl _) _
              have sz2 : w.heap.size + 1 ≤ w2.heap.size := Nat.le_trans hsz s2
              go_wp2_with (refine storeY kAnA _ rfl 69 (.tmp 9) (.tmp 73) rfl w2.heap.size w2.heap.size 1 1 [⟨0, 0, 0, 0, 0, ⟨none, 0, []⟩⟩] 0 0 ⟨0, 0, 0, 0, 0, ⟨none, 0, []⟩⟩ x _ rfl rfl rfl (by kernel_rfl) (by exact (by decide : 6 ≤ 6)) rfl OZ.out ?_)
              intro w3 o3 u3 z3
              have B3 := hide (BA.out.trans (u3.below (by rw [hza.out]; omega) (fun k e => by subst e; exact Nat.le_refl _)))
              have OB3 := hide o3
              have OR3 := hide (OBR.out.grow B3.out)
              have D3 := hide (D2.out.trans (B3.out.mono sz2))
              have Z3 : Hid (w2.heap.size < w3.heap.size) := (o3.blk _ rfl).2
              clear o3 u3 z3 OZ hza BA OBR y0 y1 y2 y3 y4 y5
              have t5 := OB3.out.cell kAnA 0 _ rfl 5 _ rfl
              simp only [Nat.zero_mul, Nat.zero_add] at t5
              have CC := hide (refcopy6_any x.s.D x.s.a x.s.D.length x.s.c w3 (HIN.out.1.later (B0.out.trans (D3.out.mono (by omega)))).1 (by have := HIN.out.2; omega))
              go_wp2_with fail
              refine CC.out.mono ?_
              rintro e w4 ⟨v4, rfl, o4, b4⟩
              obtain ⟨a4, c4, rfl, _, _⟩ := o4.sl kE
              have OE4 := hide o4
              have OB4 := hide (OB3.out.grow b4)
              have OR4 := hide (OR3.out.grow b4)
              have D4 := hide (D3.out.trans (b4.mono (by have := Z3.out; omega)))
              have Z4 : Hid (w3.heap.size ≤ w4.heap.size) := b4.size
              clear CC o4 b4 t5 OB3 OR3
              dsimp only
              go_wp2_with (refine storeY kAnA _ rfl 51 (.tmp 77) (.tmp 76) rfl w2.heap.size w2.heap.size 1 1 [x] 0 5 x { x with s := ⟨a4, c4, x.s.D⟩ } _ rfl rfl rfl (by kernel_rfl) (by exact (by decide : 6 ≤ 6)) rfl OB4.out ?_)
              intro w5 o5 u5 z5
              have D5 := hide (D4.out.trans (u5.below (by have := Z4.out; have := Z3.out; omega) (fun k e => by subst e; exact sz2)))
              have OR5 := hide (OR4.out.upd1 u5 (fun g e hc => by cases e; have h1 : w.heap.size = w2.heap.size := hc; omega))
              have OE5 := hide (OE4.out.upd1 u5 (fun g e hc => by have h1 := (OE4.out.blk g e).1; have h2 : g = w2.heap.size := hc; have h3 := Z3.out; omega))
              have v0 := o5.cell kAnA 0 _ rfl 0 _ rfl
              have v1 := o5.cell kAnA 0 _ rfl 1 _ rfl
              have v2 := o5.cell kAnA 0 _ rfl 2 _ rfl
              have v3 := o5.cell kAnA 0 _ rfl 3 _ rfl
              have v4 := o5.cell kAnA 0 _ rfl 4 _ rfl
              have v5 := o5.cell kAnA 0 _ rfl 5 _ rfl
              simp only [Nat.zero_mul, Nat.zero_add] at v0 v1 v2 v3 v4 v5
              have Z5 : Hid (w.heap.size + 1 ≤ w5.heap.size) := by show _ ≤ _; have := Z4.out; have := Z3.out; omega
              clear o5 u5 z5 OB4 OR4 OE4
              go_wp2_with (refine storeY kAnA _ rfl 69 (.tmp 4) (.tmp 78) rfl w.heap.size w.heap.size 1 1 [⟨0, 0, 0, 0, 0, ⟨none, 0, []⟩⟩] 0 0 ⟨0, 0, 0, 0, 0, ⟨none, 0, []⟩⟩ { x with s := ⟨a4, c4, x.s.D⟩ } _ rfl rfl rfl (by kernel_rfl) (by exact (by decide : 6 ≤ 6)) rfl OR5.out ?_)
              intro w8 o8 u8 z8
              clear v0 v1 v2 v3 v4 v5
              have v0 := o8.cell kAnA 0 _ rfl 0 _ rfl
              have v1 := o8.cell kAnA 0 _ rfl 1 _ rfl
              have v2 := o8.cell kAnA 0 _ rfl 2 _ rfl
              have v3 := o8.cell kAnA 0 _ rfl 3 _ rfl
              have v4 := o8.cell kAnA 0 _ rfl 4 _ rfl
              have v5 := o8.cell kAnA 0 _ rfl 5 _ rfl
              simp only [Nat.zero_mul, Nat.zero_add] at v0 v1 v2 v3 v4 v5
              have U8 := hide u8
              clear o8 u8
              go_wp2
              refine bodyPost_ret (v := .tuple #[({ x with s := ⟨a4, c4, x.s.D⟩ } : An).val, .int .i64 0]) (by simp [results, Tryz.results41, go_sem, v0, v1, v2, v3, v4, v5, An.val]) rfl ?_
              rw [hSS.out]
              refine ⟨⟨_, rfl, ?_⟩, (B0.out.trans (D5.out.mono (by omega))).trans (U8.out.below (by have := Z5.out; omega) (fun k e => by subst e; exact Nat.le_refl _))⟩
              refine ⟨⟨rfl, rfl, rfl, rfl, rfl, rfl⟩, ?_, by show x.s.D.length * 48 ≤ _; have := HIN.out.2; omega⟩
              exact (OE5.out.upd1 U8.out (fun g e hc => by have h1 := (OE5.out.blk g e).1; have h2 : g = w.heap.size := hc; have h3 := Z3.out; omega)).low (by have := Z3.out; omega)
            · have hbp : (x.n == P) = false := by simp [hp]
              have hS2 : Hid (S = (L.drop (j2 + 1)).find? (fun x => decide (x.v = M) && decide (x.n = P))) := by show _ = _; rw [hSk.out, decide_eq_true hv1, decide_eq_false hp]; rfl
              clear hSk hv1
              go_wp2_with fail
              refine region_q9 (C := fun v => Below wr.heap.size wr v) (by kernel_rfl) (by kernel_rfl) (Below.refl _ _).drew ?_
              refine wqv (u := .slice (some ⟨q, o, none⟩) j k) (by kernel_rfl) (fun v hv => by kernel_rfl) ?_
              simp only [Act.put, List.setIfInBounds_toArray, List.set_cons_zero, List.set_cons_succ]
              refine wqv (u := .int .i64 (j2 : Int)) (by kernel_rfl) (fun v hv => by kernel_rfl) ?_
              simp only [Act.put, List.setIfInBounds_toArray, List.set_cons_zero, List.set_cons_succ]
              refine wqv (u := .pointer (some ⟨q, o + j2 * 6, none⟩)) (by kernel_rfl) (fun v hv => by go_simp) ?_
              simp only [Act.put, List.setIfInBounds_toArray, List.set_cons_zero, List.set_cons_succ]
              refine wqv (u := .pointer (some ⟨q, o + j2 * 6 + 3, none⟩)) (by kernel_rfl) (fun v hv => by go_simp) ?_
              simp only [Act.put, List.setIfInBounds_toArray, List.set_cons_zero, List.set_cons_succ]
              refine wqv (u := .int .i64 x.v) (by kernel_rfl) (fun v hv => by obtain ⟨y0, y1, y2, y3, y4, y5⟩ := KS.out v hv; go_simp) ?_
              simp only [Act.put, List.setIfInBounds_toArray, List.set_cons_zero, List.set_cons_succ]
              refine wqv (u := .int .i64 M) (by kernel_rfl) (fun v hv => by kernel_rfl) ?_
              simp only [Act.put, List.setIfInBounds_toArray, List.set_cons_zero, List.set_cons_succ]
              refine wqv (u := .bool true) (by kernel_rfl) (fun v hv => by go_simp) ?_
              simp only [Act.put, List.setIfInBounds_toArray, List.set_cons_zero, List.set_cons_succ]
              refine wqv (u := .bool true) (by kernel_rfl) (fun v hv => by kernel_rfl) ?_
              simp only [Act.put, List.setIfInBounds_toArray, List.set_cons_zero, List.set_cons_succ]
              refine wqv (u := .slice (some ⟨q, o, none⟩) j k) (by kernel_rfl) (fun v hv => by kernel_rfl) ?_
              simp only [Act.put, List.setIfInBounds_toArray, List.set_cons_zero, List.set_cons_succ]
              refine wqv (u := .int .i64 (j2 : Int)) (by kernel_rfl) (fun v hv => by kernel_rfl) ?_
              simp only [Act.put, List.setIfInBounds_toArray, List.set_cons_zero, List.set_cons_succ]
              refine wqv (u := .pointer (some ⟨q, o + j2 * 6, none⟩)) (by kernel_rfl) (fun v hv => by go_simp) ?_
              simp only [Act.put, List.setIfInBounds_toArray, List.set_cons_zero, List.set_cons_succ]
              refine wqv (u := .pointer (some ⟨q, o + j2 * 6, none⟩)) (by kernel_rfl) (fun v hv => by go_simp) ?_
              simp only [Act.put, List.setIfInBounds_toArray, List.set_cons_zero, List.set_cons_succ]
              refine wqv (u := .int .i64 x.n) (by kernel_rfl) (fun v hv => by obtain ⟨y0, y1, y2, y3, y4, y5⟩ := KS.out v hv; go_simp) ?_
              simp only [Act.put, List.setIfInBounds_toArray, List.set_cons_zero, List.set_cons_succ]
              refine wqv (u := .int .i64 f) (by kernel_rfl) (fun v hv => by kernel_rfl) ?_
              simp only [Act.put, List.setIfInBounds_toArray, List.set_cons_zero, List.set_cons_succ]
              refine wqv (u := .int .i64 M) (by kernel_rfl) (fun v hv => by kernel_rfl) ?_
              simp only [Act.put, List.setIfInBounds_toArray, List.set_cons_zero, List.set_cons_succ]
              refine wqc (fid := 88) (args := #[.int .i64 f, .int .i64 M]) (u := .int .i64 P) (by kernel_rfl) (fun v => by kernel_rfl) (fun v hv => (cp.out v).mono fun e w2 h => ⟨h.1, h.2 ▸ hv⟩) ?_
              simp only [Act.put, List.setIfInBounds_toArray, List.set_cons_zero, List.set_cons_succ]
              refine wqv (u := .bool false) (by kernel_rfl) (fun v hv => by go_simp) ?_
              simp only [Act.put, List.setIfInBounds_toArray, List.set_cons_zero, List.set_cons_succ]
              refine wqv (u := .bool false) (by kernel_rfl) (fun v hv => by kernel_rfl) ?_
              simp only [Act.put, List.setIfInBounds_toArray, List.set_cons_zero, List.set_cons_succ]
              refine wqnil (fun w2 hv => ?_)
              obtain ⟨y0, y1, y2, y3, y4, y5⟩ := KS.out w2 hv
              have D2 := hide (hbl.out.trans (hv.mono hsz))
              have s2 := hv.size
              clear hv
              go_wp2
              go_round
              case rel => exact ⟨j2 + 1, by go_num, by omega, hS2, D2⟩
              case measure => first | (simp [intOf]; done) | (simp [intOf]; omega)
          · have hb1 : (x.v == M) = false := by simp [hv1]
            have hS2 : Hid (S = (L.drop (j2 + 1)).find? (fun x => decide (x.v = M) && decide (x.n = P))) := by show _ = _; rw [hSk.out, decide_eq_false hv1]; rfl
            clear hSk
            go_wp2_with fail
            refine region_q9 (C := fun v => Below wr.heap.size wr v) (by kernel_rfl) (by kernel_rfl) (Below.refl _ _).drew ?_
            refine wqv (u := .slice (some ⟨q, o, none⟩) j k) (by kernel_rfl) (fun v hv => by kernel_rfl) ?_
            simp only [Act.put, List.setIfInBounds_toArray, List.set_cons_zero, List.set_cons_succ]
            refine wqv (u := .int .i64 (j2 : Int)) (by kernel_rfl) (fun v hv => by kernel_rfl) ?_
            simp only [Act.put, List.setIfInBounds_toArray, List.set_cons_zero, List.set_cons_succ]
            refine wqv (u := .pointer (some ⟨q, o + j2 * 6, none⟩)) (by kernel_rfl) (fun v hv => by go_simp) ?_
            simp only [Act.put, List.setIfInBounds_toArray, List.set_cons_zero, List.set_cons_succ]
            refine wqv (u := .pointer (some ⟨q, o + j2 * 6 + 3, none⟩)) (by kernel_rfl) (fun v hv => by go_simp) ?_
            simp only [Act.put, List.setIfInBounds_toArray, List.set_cons_zero, List.set_cons_succ]
            refine wqv (u := .int .i64 x.v) (by kernel_rfl) (fun v hv => by obtain ⟨y0, y1, y2, y3, y4, y5⟩ := KS.out v hv; go_simp) ?_
            simp only [Act.put, List.setIfInBounds_toArray, List.set_cons_zero, List.set_cons_succ]
            refine wqv (u := .int .i64 M) (by kernel_rfl) (fun v hv => by kernel_rfl) ?_
            simp only [Act.put, List.setIfInBounds_toArray, List.set_cons_zero, List.set_cons_succ]
            refine wqv (u := .bool false) (by kernel_rfl) (fun v hv => by go_simp) ?_
            simp only [Act.put, List.setIfInBounds_toArray, List.set_cons_zero, List.set_cons_succ]
            refine wqv (u := .bool false) (by kernel_rfl) (fun v hv => by kernel_rfl) ?_
            simp only [Act.put, List.setIfInBounds_toArray, List.set_cons_zero, List.set_cons_succ]
            refine wqskip (by kernel_rfl) ?_
            simp only [Act.put, List.setIfInBounds_toArray, List.set_cons_zero, List.set_cons_succ]
            refine wqskip (by kernel_rfl) ?_
            simp only [Act.put, List.setIfInBounds_toArray, List.set_cons_zero, List.set_cons_succ]
            refine wqskip (by kernel_rfl) ?_
            simp only [Act.put, List.setIfInBounds_toArray, List.set_cons_zero, List.set_cons_succ]
            refine wqskip (by kernel_rfl) ?_
            simp only [Act.put, List.setIfInBounds_toArray, List.set_cons_zero, List.set_cons_succ]
            refine wqskip (by kernel_rfl) ?_
            simp only [Act.put, List.setIfInBounds_toArray, List.set_cons_zero, List.set_cons_succ]
            refine wqskip (by kernel_rfl) ?_
            simp only [Act.put, List.setIfInBounds_toArray, List.set_cons_zero, List.set_cons_succ]
            refine wqskip (by kernel_rfl) ?_
            simp only [Act.put, List.setIfInBounds_toArray, List.set_cons_zero, List.set_cons_succ]
            refine wqskip (by kernel_rfl) ?_
            simp only [Act.put, List.setIfInBounds_toArray, List.set_cons_zero, List.set_cons_succ]
            refine wqskip (by kernel_rfl) ?_
            simp only [Act.put, List.setIfInBounds_toArray, List.set_cons_zero, List.set_cons_succ]
            refine wqv (u := .bool false) (by kernel_rfl) (fun v hv => by kernel_rfl) ?_
            simp only [Act.put, List.setIfInBounds_toArray, List.set_cons_zero, List.set_cons_succ]
            refine wqnil (fun w2 hv => ?_)
            obtain ⟨y0, y1, y2, y3, y4, y5⟩ := KS.out w2 hv
            have D2 := hide (hbl.out.trans (hv.mono hsz))
            have s2 := hv.size
            clear hv
            go_wp2
            go_round
            case rel => exact ⟨j2 + 1, by go_num, by omega, hS2, D2⟩
            case measure => first | (simp [intOf]; done) | (simp [intOf]; omega)
        · obtain rfl : j2 = j := by omega
          have hSN : Hid (S = none) := by show _ = _; rw [hS.out, List.drop_of_length_le (by rw [HN.out]; exact Nat.le_refl _)]; rfl
          clear hS
          have OBN := hide (OB.out.grow (show Below w0'.heap.size w0' wr by rw [hwz.out]; exact hbl.out))
          go_wp2_with (refine storeY kAnA _ rfl 69 (.tmp 4) (.tmp 79) rfl w.heap.size w.heap.size 1 1 [⟨0, 0, 0, 0, 0, ⟨none, 0, []⟩⟩] 0 0 ⟨0, 0, 0, 0, 0, ⟨none, 0, []⟩⟩ ⟨0, 0, 0, 0, 0, ⟨none, 0, []⟩⟩ _ rfl rfl rfl (by kernel_rfl) (by exact (by decide : 6 ≤ 6)) rfl OBN.out ?_)
          intro w8 o8 u8 z8
          have v0 := o8.cell kAnA 0 _ rfl 0 _ rfl
          have v1 := o8.cell kAnA 0 _ rfl 1 _ rfl
          have v2 := o8.cell kAnA 0 _ rfl 2 _ rfl
          have v3 := o8.cell kAnA 0 _ rfl 3 _ rfl
          have v4 := o8.cell kAnA 0 _ rfl 4 _ rfl
          have v5 := o8.cell kAnA 0 _ rfl 5 _ rfl
          simp only [Nat.zero_mul, Nat.zero_add] at v0 v1 v2 v3 v4 v5
          have U8 := hide u8
          clear o8 u8
          go_wp2
          refine bodyPost_ret (v := .tuple #[(⟨0, 0, 0, 0, 0, ⟨none, 0, []⟩⟩ : An).val, .int .i64 81]) (by simp [results, Tryz.results41, go_sem, v0, v1, v2, v3, v4, v5, An.val]) rfl ?_
          rw [hSN.out]
          exact ⟨rfl, (B0.out.trans (hbl.out.mono (by omega))).trans (U8.out.below (by omega) (fun k e => by subst e; exact Nat.le_refl _))⟩

end Go.Proofs.YtcmjhaljbmhpgaaGreat
