import Derived.Test.YtcmjhaljbmhpgaaGreatGSw
namespace Go.Proofs.YtcmjhaljbmhpgaaGreat
open Go.RowKit Go.Maps
open Classical
set_option linter.unusedVariables false
set_option linter.unusedSimpArgs false

theorem prim_eq (v n : Int) (hn : 0 < n) : Int.tmod (Int.tmod v n + n) n = v % n := by
  have h1 := Int.lt_tmod_of_pos v hn
  rw [Int.tmod_eq_emod_of_nonneg (by omega), Int.add_emod_right, Int.tmod_def, Int.sub_mul_emod_self_left]
theorem primary_any (v n : Int) (w : World) (hn : 0 < n) (hn2 : n ≤ 9) : Calls Tryz.prog 87 #[.int .i64 v, .int .i64 n] w fun e w' => e = .returned (.int .i64 (v % n)) ∧ w' = w := by
  have h1 := Int.lt_tmod_of_pos v hn
  have h2 := Int.tmod_lt_of_pos v hn
  have h3 := prim_eq v n hn
  have h0 : n ≠ 0 := by omega
  have hb : (n == 0) = false := by simp [h0]
  have hw1 : IntKind.i64.wrap (Int.tmod v n) = Int.tmod v n := by rw [IntKind.wrap_i64]; omega
  have hw2 : IntKind.i64.wrap (Int.tmod v n + n) = Int.tmod v n + n := by rw [IntKind.wrap_i64]; omega
  have h5 := Int.emod_nonneg v h0
  have h6 := Int.emod_lt_of_pos v hn
  have hw3 : IntKind.i64.wrap (v % n) = v % n := by rw [IntKind.wrap_i64]; omega
  go_enter Tryz.func87, Tryz.ntmps87
  go_wp2
  go_ret
  exact ⟨rfl, rfl⟩
theorem marked_any (f : Int) (a : Option Addr) (n c : Nat) (w : World) : Calls Tryz.prog 63 #[.int .i64 f, .slice a n c] w fun e w' => e = .returned (.bool (decide (f ≤ (n : Int)))) ∧ w' = w := by
  go_enter Tryz.func63, Tryz.ntmps63
  go_wp2
  go_ret
  exact ⟨rfl, rfl⟩
/-- The greatest view. -/
def mxA (m : Int) : List An → Int
  | [] => m
  | x :: r => mxA (if m < x.v then x.v else m) r
def mxv (L : List An) : Int := mxA (L.headD ⟨0, 0, 0, 0, 0, ⟨none, 0, []⟩⟩).v L
/-- The answer that settles. -/
def stl (f : Int) (L : List An) : Option An := if f < 1 ∨ 3 < f ∨ (L.length : Int) < f + 1 then none else L.find? (fun x => decide (x.v = mxv L) && decide (x.n = mxv L % (2 * f + 1)))
theorem mxA_drop {m : Int} {L : List An} {j : Nat} (h : j < L.length) : mxA m (L.drop j) = mxA (if m < L[j].v then L[j].v else m) (L.drop (j + 1)) := by
  rw [List.drop_eq_getElem_cons h, mxA]
/-- What Settle answers. -/
def StlOut (B : Nat) (o : Option An) (e : Ending) (w : World) : Prop := match o with
  | none => e = .returned (.tuple #[(⟨0, 0, 0, 0, 0, ⟨none, 0, []⟩⟩ : An).val, .int .i64 81])
  | some x => ∃ y, e = .returned (.tuple #[y.val, .int .i64 0]) ∧ An.Told B w x y
set_option maxRecDepth 100000 in
set_option maxHeartbeats 1000000 in
theorem settle_any (f : Int) (L : List An) (a : Option Addr) (n c : Nat) (w : World) (h : SlY yAnA w a n c L) (hlogs : ∀ x ∈ L, x.In w) :
    Calls Tryz.prog 40 #[.int .i64 f, .slice a n c] w fun e w' => StlOut w.heap.size (stl f L) e w' ∧ Below w.heap.size w w' := by
  have hmx := h.max
  have hcp := h.cap
  have hln := h.len
  unfold maxLen at hmx
  have H := hide h
  have HN := hide hln
  have HX := hide hlogs
  have HS : Hid (stl f L = if f < 1 ∨ 3 < f ∨ (n : Int) < f + 1 then none else L.find? (fun x => decide (x.v = mxv L) && decide (x.n = mxv L % (2 * f + 1)))) := by show _ = _; unfold stl; rw [hln]
  clear h hln hlogs
  generalize stl f L = S at *
  have b0 : Below w.heap.size w (w.alloc (.cells #[.int .i64 0, .int .u64 0, .int .u64 0, .int .i64 0, .int .i64 0, .slice none 0 0] 69)) := (Below.refl _ w).alloc (Nat.le_refl _) _
  have B0 := hide b0
  clear b0
  by_cases h1 : f < 1
  · have hS : S = none := by rw [HS.out, if_pos (.inl h1)]
    subst hS
    go_enter Tryz.func40, Tryz.ntmps40
    go_wp2
    refine bodyPost_ret (v := .tuple #[(⟨0, 0, 0, 0, 0, ⟨none, 0, []⟩⟩ : An).val, .int .i64 81]) (by simp [results, Tryz.results40, go_sem, An.val]) rfl ?_
    exact ⟨rfl, by repeat (first | exact B0.out | refine Below.setCell ?_ (by simp) _)⟩
  by_cases h2 : 3 < f
  · have hS : S = none := by rw [HS.out, if_pos (.inr (.inl h2))]
    subst hS
    go_enter Tryz.func40, Tryz.ntmps40
    go_wp2
    refine bodyPost_ret (v := .tuple #[(⟨0, 0, 0, 0, 0, ⟨none, 0, []⟩⟩ : An).val, .int .i64 81]) (by simp [results, Tryz.results40, go_sem, An.val]) rfl ?_
    exact ⟨rfl, by repeat (first | exact B0.out | refine Below.setCell ?_ (by simp) _)⟩
  have hw : IntKind.i64.wrap (f + 1) = f + 1 := by rw [IntKind.wrap_i64]; omega
  by_cases h3 : (n : Int) < f + 1
  · have hS : S = none := by rw [HS.out, if_pos (.inr (.inr h3))]
    subst hS
    go_enter Tryz.func40, Tryz.ntmps40
    go_wp2
    refine bodyPost_ret (v := .tuple #[(⟨0, 0, 0, 0, 0, ⟨none, 0, []⟩⟩ : An).val, .int .i64 81]) (by simp [results, Tryz.results40, go_sem, An.val]) rfl ?_
    exact ⟨rfl, by repeat (first | exact B0.out | refine Below.setCell ?_ (by simp) _)⟩
  have HS2 : Hid (S = L.find? (fun x => decide (x.v = mxv L) && decide (x.n = mxv L % (2 * f + 1)))) := by show _ = _; rw [HS.out, if_neg (by omega)]
  clear HS
  have hn0 : 0 < n := by omega
  have hl0 : 0 < L.length := by rw [HN.out]; exact hn0
  have hg0 : L[0]? = some L[0] := List.getElem?_eq_getElem hl0
  obtain ⟨q, o, rfl, hq, y0, y1, y2, y3, y4, y5⟩ := (H.out.later B0.out).AnA hg0
  have hM0 : Hid (mxv L = mxA L[0].v (L.drop 0)) := by
    show _ = _
    unfold mxv
    cases L with
    | nil => cases hl0
    | cons x r => rfl
  clear hg0 y0 y1 y2 y4 y5
  simp only [Nat.zero_mul, Nat.add_zero] at y3
  generalize L[0].v = v0 at *
  have hn0' : (0 : Int) < (n : Int) := by omega
  have hwz : Hid ((w.alloc (.cells #[.int .i64 0, .int .u64 0, .int .u64 0, .int .i64 0, .int .i64 0, .slice none 0 0] 69)).heap.size = w.heap.size + 1) := by show _ = _; simp
  generalize hw0 : w.alloc (.cells #[.int .i64 0, .int .u64 0, .int .u64 0, .int .i64 0, .int .i64 0, .slice none 0 0] 69) = w0 at *
  have OB : Hid (OwnY yAnA w.heap.size w0 (.slice (some ⟨w.heap.size, 0, none⟩) 1 1) [⟨0, 0, 0, 0, 0, ⟨none, 0, []⟩⟩]) := by
    show OwnY _ _ _ _ _
    rw [← hw0]
    exact own_box kAnA w.heap.size w _ (Nat.le_refl _)
  have HW0 := hide hw0
  go_enter Tryz.func40, Tryz.ntmps40
  go_wp2
  go_loopw [31, 6] (fun i m wr => ∃ (j : Nat) (M : Int), i = .int .i64 (j : Int) ∧ j ≤ n ∧ m = .int .i64 M ∧ Hid (mxv L = mxA M (L.drop j)) ∧ Below (w.heap.size + 1) w0 wr) (fun i _ _ => n - (intOf i).toNat)
  case atStart => exact ⟨0, v0, rfl, Nat.zero_le _, rfl, hM0, Below.refl _ _⟩
  case round =>
    obtain ⟨j, M, rfl, hj, rfl, hM, hbl⟩ := hrel
    have hsz : w.heap.size + 1 ≤ wr.heap.size := by have := hbl.size; rwa [hwz.out] at this
    have bl0 := hide (B0.out.trans (hbl.mono (by omega)))
    by_cases hlt : j < n
    · have hjl : j < L.length := by rw [HN.out]; exact hlt
      have hg : L[j]? = some L[j] := List.getElem?_eq_getElem hjl
      obtain ⟨q', o', e1, hq', y0, y1, y2, y3, y4, y5⟩ := (H.out.later bl0.out).AnA hg
      cases e1
      have hM1 : Hid (mxv L = mxA (if M < L[j].v then L[j].v else M) (L.drop (j + 1))) := by show _ = _; rw [hM.out, mxA_drop hjl]
      clear hg hM
      generalize L[j] = x at *
      go_wp2
      go_round
      case rel => exact ⟨j + 1, if M < x.v then x.v else M, by go_num, by omega, rfl, hM1, by repeat (first | exact hbl | refine Below.alloc ?_ (by omega) _ | refine Below.setCell ?_ (by simp; omega) _)⟩
      case measure => simp [intOf]; omega
    · obtain rfl : j = n := by omega
      have hM1 : Hid (mxv L = M) := by show _ = _; rw [hM.out, List.drop_of_length_le (by rw [HN.out]; exact Nat.le_refl _), mxA]
      clear hM hM0
      have HS3 : Hid (S = (L.drop 0).find? (fun x => decide (x.v = M) && decide (x.n = M % (2 * f + 1)))) := by show _ = _; rw [HS2.out, hM1.out]; rfl
      clear HS2
      go_wp2
      go_loopw [42] (fun i wr => ∃ j2 : Nat, i = .int .i64 (j2 : Int) ∧ j2 ≤ j ∧ Hid (S = (L.drop j2).find? (fun x => decide (x.v = M) && decide (x.n = M % (2 * f + 1)))) ∧ Below (w.heap.size + 1) w0 wr) (fun i _ => j - (intOf i).toNat)
      case atStart => exact ⟨0, rfl, Nat.zero_le _, HS3, hbl⟩
      case round =>
        clear hbl bl0 hsz HS3 hM1 y3 hq
        obtain ⟨k, rfl, hk, hS, hbl⟩ := hrel
        have hsz : w.heap.size + 1 ≤ wr.heap.size := by have := hbl.size; rwa [hwz.out] at this
        have bl0 := hide (B0.out.trans (hbl.mono (by omega)))
        by_cases hlt : k < j
        · have hjl : k < L.length := by rw [HN.out]; exact hlt
          have hg : L[k]? = some L[k] := List.getElem?_eq_getElem hjl
          obtain ⟨q', o', e1, hq', y0, y1, y2, y3, y4, y5⟩ := (H.out.later bl0.out).AnA hg
          cases e1
          have hSk : Hid (S = if (decide (L[k].v = M) && decide (L[k].n = M % (2 * f + 1))) = true then some L[k] else (L.drop (k + 1)).find? (fun x => decide (x.v = M) && decide (x.n = M % (2 * f + 1)))) := by
            show _ = _
            rw [hS.out, List.drop_eq_getElem_cons hjl, List.find?_cons]
            cases (decide (L[k].v = M) && decide (L[k].n = M % (2 * f + 1))) <;> rfl
          have hin := (HX.out _ (List.getElem_mem hjl)).later bl0.out
          have HY : Hid (∀ W, Below (w.heap.size + 1) w0 W → L[k].In W) := fun W hW => (HX.out _ (List.getElem_mem hjl)).later (B0.out.trans (hW.mono (by omega)))
          clear hg hS
          generalize L[k] = x at *
          have KX : Hid (∀ v, Below (wr.heap.size + 1) (wr.alloc (.cells #[.int .i64 x.n, .int .u64 x.h, .int .u64 x.l, .int .i64 x.v, .int .i64 x.c, .slice x.s.a x.s.D.length x.s.c] 69)) v → (v.cell? ⟨wr.heap.size, 0, none⟩ = some (.int .i64 x.n) ∧ v.cell? ⟨wr.heap.size, 1, none⟩ = some (.int .u64 x.h) ∧ v.cell? ⟨wr.heap.size, 2, none⟩ = some (.int .u64 x.l) ∧ v.cell? ⟨wr.heap.size, 3, none⟩ = some (.int .i64 x.v) ∧ v.cell? ⟨wr.heap.size, 4, none⟩ = some (.int .i64 x.c) ∧ v.cell? ⟨wr.heap.size, 5, none⟩ = some (.slice x.s.a x.s.D.length x.s.c)) ∧ wr.heap.size + 1 ≤ v.heap.size) := fun v hv =>
            ⟨⟨(hv.cell (p := ⟨wr.heap.size, 0, none⟩) (by simp)).trans (by simp), (hv.cell (p := ⟨wr.heap.size, 1, none⟩) (by simp)).trans (by simp), (hv.cell (p := ⟨wr.heap.size, 2, none⟩) (by simp)).trans (by simp), (hv.cell (p := ⟨wr.heap.size, 3, none⟩) (by simp)).trans (by simp), (hv.cell (p := ⟨wr.heap.size, 4, none⟩) (by simp)).trans (by simp), (hv.cell (p := ⟨wr.heap.size, 5, none⟩) (by simp)).trans (by simp)⟩, by have := hv.size; simpa using this⟩
          have HIN := hide hin
          clear hin
          have hw2 : IntKind.i64.wrap (2 * f) = 2 * f := by rw [IntKind.wrap_i64]; omega
          have hw3 : IntKind.i64.wrap (2 * f + 1) = 2 * f + 1 := by rw [IntKind.wrap_i64]; omega
          have cp := hide (fun W => primary_any M (2 * f + 1) W (by omega) (by omega))
          go_wp2_with fail
          refine region_q9 (C := fun v => Below (wr.heap.size + 1) (wr.alloc (.cells #[.int .i64 x.n, .int .u64 x.h, .int .u64 x.l, .int .i64 x.v, .int .i64 x.c, .slice x.s.a x.s.D.length x.s.c] 69)) v) (by kernel_rfl) (by kernel_rfl) (Below.refl _ _).drew ?_
          generalize hP : M % (2 * f + 1) = P at *
          by_cases hv1 : x.v = M
          · have hb1 : (x.v == M) = true := by simp [hv1]
            refine wqv (u := .pointer (some ⟨wr.heap.size, 3, none⟩)) (by kernel_rfl) (fun v hv => by go_simp) ?_
            simp only [Act.put, List.setIfInBounds_toArray, List.set_cons_zero, List.set_cons_succ]
            refine wqv (u := .int .i64 x.v) (by kernel_rfl) (fun v hv => by obtain ⟨⟨y0, y1, y2, y3, y4, y5⟩, _⟩ := KX.out v hv; go_simp) ?_
            simp only [Act.put, List.setIfInBounds_toArray, List.set_cons_zero, List.set_cons_succ]
            refine wqv (u := .int .i64 M) (by kernel_rfl) (fun v hv => by kernel_rfl) ?_
            simp only [Act.put, List.setIfInBounds_toArray, List.set_cons_zero, List.set_cons_succ]
            refine wqv (u := .bool true) (by kernel_rfl) (fun v hv => by go_simp) ?_
            simp only [Act.put, List.setIfInBounds_toArray, List.set_cons_zero, List.set_cons_succ]
            refine wqv (u := .bool true) (by kernel_rfl) (fun v hv => by kernel_rfl) ?_
            simp only [Act.put, List.setIfInBounds_toArray, List.set_cons_zero, List.set_cons_succ]
            refine wqv (u := .pointer (some ⟨wr.heap.size, 0, none⟩)) (by kernel_rfl) (fun v hv => by go_simp) ?_
            simp only [Act.put, List.setIfInBounds_toArray, List.set_cons_zero, List.set_cons_succ]
            refine wqv (u := .int .i64 x.n) (by kernel_rfl) (fun v hv => by obtain ⟨⟨y0, y1, y2, y3, y4, y5⟩, _⟩ := KX.out v hv; go_simp) ?_
            simp only [Act.put, List.setIfInBounds_toArray, List.set_cons_zero, List.set_cons_succ]
            refine wqv (u := .int .i64 M) (by kernel_rfl) (fun v hv => by kernel_rfl) ?_
            simp only [Act.put, List.setIfInBounds_toArray, List.set_cons_zero, List.set_cons_succ]
            refine wqv (u := .int .i64 f) (by kernel_rfl) (fun v hv => by kernel_rfl) ?_
            simp only [Act.put, List.setIfInBounds_toArray, List.set_cons_zero, List.set_cons_succ]
            refine wqv (u := .int .i64 (2 * f)) (by kernel_rfl) (fun v hv => by go_simp) ?_
            simp only [Act.put, List.setIfInBounds_toArray, List.set_cons_zero, List.set_cons_succ]
            refine wqv (u := .int .i64 (2 * f + 1)) (by kernel_rfl) (fun v hv => by go_simp) ?_
            simp only [Act.put, List.setIfInBounds_toArray, List.set_cons_zero, List.set_cons_succ]
            refine wqc (fid := 87) (args := #[.int .i64 M, .int .i64 (2 * f + 1)]) (u := .int .i64 P) (by kernel_rfl) (fun v => by kernel_rfl) (fun v hv => (cp.out v).mono fun e w' h => ⟨h.1, h.2 ▸ hv⟩) ?_
            simp only [Act.put, List.setIfInBounds_toArray, List.set_cons_zero, List.set_cons_succ]
            refine wqv (u := .bool (decide (x.n = P))) (by kernel_rfl) (fun v hv => by go_simp; rfl) ?_
            simp only [Act.put, List.setIfInBounds_toArray, List.set_cons_zero, List.set_cons_succ]
            refine wqv (u := .bool (decide (x.n = P))) (by kernel_rfl) (fun v hv => by kernel_rfl) ?_
            simp only [Act.put, List.setIfInBounds_toArray, List.set_cons_zero, List.set_cons_succ]
            refine wqnil (fun v hv => ?_)
            obtain ⟨⟨y0, y1, y2, y3, y4, y5⟩, zv⟩ := KX.out v hv
            have bv := hide ((hbl.alloc hsz (.cells #[.int .i64 x.n, .int .u64 x.h, .int .u64 x.l, .int .i64 x.v, .int .i64 x.c, .slice x.s.a x.s.D.length x.s.c] 69)).trans (hv.mono (by omega)))
            clear hv KX cp
            by_cases hn1 : x.n = P
            · have hd1 : decide (x.n = P) = true := by simp [hn1]
              rw [hd1]
              have hSx : S = some x := by rw [hSk.out, if_pos (by simp [hv1, hn1])]
              subst hSx
              clear hSk hn1 hv1 hb1 hd1
              have ca := hide (x.as_any v)
              go_wp2_with fail
              refine ca.out.mono ?_
              rintro e w2 ⟨rfl, b2⟩
              have z2 := b2.size
              have B2 := hide (bv.out.trans (b2.mono (by omega)))
              have hin2 : x.In w2 := HY.out w2 B2.out
              have ct := hide (x.told_any w2 hin2)
              clear b2 ca y0 y1 y2 y3 y4 y5
              dsimp only
              go_wp2_with fail
              refine ct.out.mono ?_
              rintro e w3 ⟨rfl, o3, b3⟩
              have z3 := b3.size
              have B3 := hide (B2.out.trans (b3.mono (by omega)))
              have OB3 := hide (OB.out.grow (by have := B3.out; rw [hwz.out]; exact this))
              have OE := hide o3
              clear b3 o3 ct
              dsimp only
              go_wp2_with (refine storeY kAnA _ rfl 69 (.tmp 4) (.tmp 62) rfl w.heap.size w.heap.size 1 1 [⟨0, 0, 0, 0, 0, ⟨none, 0, []⟩⟩] 0 0 ⟨0, 0, 0, 0, 0, ⟨none, 0, []⟩⟩ (x.re (w2.heap.size + 2)) _ rfl rfl rfl (by kernel_rfl) (by exact (by decide : 6 ≤ 6)) rfl OB3.out ?zk)
              intro w4 o4 u4 z4
              have v0 := o4.cell kAnA 0 _ rfl 0 _ rfl
              have v1 := o4.cell kAnA 0 _ rfl 1 _ rfl
              have v2 := o4.cell kAnA 0 _ rfl 2 _ rfl
              have v3 := o4.cell kAnA 0 _ rfl 3 _ rfl
              have v4 := o4.cell kAnA 0 _ rfl 4 _ rfl
              have v5 := o4.cell kAnA 0 _ rfl 5 _ rfl
              simp only [Nat.zero_mul, Nat.zero_add] at v0 v1 v2 v3 v4 v5
              have U4 := hide u4
              clear o4 u4
              go_wp2
              refine bodyPost_ret (v := .tuple #[(x.re (w2.heap.size + 2)).val, .int .i64 0]) (by simp [results, Tryz.results40, go_sem, v0, v1, v2, v3, v4, v5, An.val]) rfl ?_
              refine ⟨⟨x.re (w2.heap.size + 2), rfl, HIN.out.2, w2.heap.size + 2, rfl, (OE.out.upd1 U4.out (fun g e => by cases e; show ¬ (w2.heap.size + 2 = w.heap.size); omega)).low (by omega)⟩, (B0.out.trans (B3.out.mono (by omega))).trans (U4.out.below (by omega) (fun k e => by subst e; exact Nat.le_refl _))⟩
            · have hd1 : decide (x.n = P) = false := by simp [hn1]
              rw [hd1]
              go_wp2
              go_round
              case rel => exact ⟨k + 1, by go_num, by omega, by show _ = _; rw [hSk.out, if_neg (by simp [hn1]), hP], bv.out⟩
              case measure => simp [intOf]; omega
          · have hb1 : (x.v == M) = false := by simp [hv1]
            refine wqv (u := .pointer (some ⟨wr.heap.size, 3, none⟩)) (by kernel_rfl) (fun v hv => by go_simp) ?_
            simp only [Act.put, List.setIfInBounds_toArray, List.set_cons_zero, List.set_cons_succ]
            refine wqv (u := .int .i64 x.v) (by kernel_rfl) (fun v hv => by obtain ⟨⟨y0, y1, y2, y3, y4, y5⟩, _⟩ := KX.out v hv; go_simp) ?_
            simp only [Act.put, List.setIfInBounds_toArray, List.set_cons_zero, List.set_cons_succ]
            refine wqv (u := .int .i64 M) (by kernel_rfl) (fun v hv => by kernel_rfl) ?_
            simp only [Act.put, List.setIfInBounds_toArray, List.set_cons_zero, List.set_cons_succ]
            refine wqv (u := .bool false) (by kernel_rfl) (fun v hv => by go_simp) ?_
            simp only [Act.put, List.setIfInBounds_toArray, List.set_cons_zero, List.set_cons_succ]
            refine wqv (u := .bool false) (by kernel_rfl) (fun v hv => by kernel_rfl) ?_
            simp only [Act.put, List.setIfInBounds_toArray, List.set_cons_zero, List.set_cons_succ]
            refine wqskip (by kernel_rfl) ?_
            simp only [Act.put, List.setIfInBounds_toArray, List.set_cons_zero, List.set_cons_succ]
            refine wqskip (by kernel_rfl) ?_
            simp only [Act.put, List.setIfInBounds_toArray, List.set_cons_zero, List.set_cons_succ]
            refine wqskip (by kernel_rfl) ?_
            simp only [Act.put, List.setIfInBounds_toArray, List.set_cons_zero, List.set_cons_succ]
            refine wqskip (by kernel_rfl) ?_
            simp only [Act.put, List.setIfInBounds_toArray, List.set_cons_zero, List.set_cons_succ]
            refine wqskip (by kernel_rfl) ?_
            simp only [Act.put, List.setIfInBounds_toArray, List.set_cons_zero, List.set_cons_succ]
            refine wqskip (by kernel_rfl) ?_
            simp only [Act.put, List.setIfInBounds_toArray, List.set_cons_zero, List.set_cons_succ]
            refine wqskip (by kernel_rfl) ?_
            simp only [Act.put, List.setIfInBounds_toArray, List.set_cons_zero, List.set_cons_succ]
            refine wqskip (by kernel_rfl) ?_
            simp only [Act.put, List.setIfInBounds_toArray, List.set_cons_zero, List.set_cons_succ]
            refine wqv (u := .bool false) (by kernel_rfl) (fun v hv => by kernel_rfl) ?_
            simp only [Act.put, List.setIfInBounds_toArray, List.set_cons_zero, List.set_cons_succ]
            refine wqnil (fun v hv => ?_)
            have HV := hide hv
            have zv := (KX.out v hv).2
            clear hv KX
            go_wp2
            go_round
            case rel => exact ⟨k + 1, by go_num, by omega, by show _ = _; rw [hSk.out, if_neg (by simp [hv1]), hP], (hbl.alloc hsz _).trans (HV.out.mono (by omega))⟩
            case measure => simp [intOf]; omega
        · obtain rfl : k = j := by omega
          have hSn : S = none := by rw [hS.out, List.drop_of_length_le (by rw [HN.out]; exact Nat.le_refl _)]; rfl
          subst hSn
          clear hS
          have OBr := hide (OB.out.grow (by rw [hwz.out]; exact hbl))
          go_wp2_with (refine storeY kAnA _ rfl 69 (.tmp 4) (.tmp 64) rfl w.heap.size w.heap.size 1 1 [⟨0, 0, 0, 0, 0, ⟨none, 0, []⟩⟩] 0 0 ⟨0, 0, 0, 0, 0, ⟨none, 0, []⟩⟩ ⟨0, 0, 0, 0, 0, ⟨none, 0, []⟩⟩ _ rfl rfl rfl (by kernel_rfl) (by exact (by decide : 6 ≤ 6)) rfl OBr.out ?zl)
          intro w4 o4 u4 z4
          have v0 := o4.cell kAnA 0 _ rfl 0 _ rfl
          have v1 := o4.cell kAnA 0 _ rfl 1 _ rfl
          have v2 := o4.cell kAnA 0 _ rfl 2 _ rfl
          have v3 := o4.cell kAnA 0 _ rfl 3 _ rfl
          have v4 := o4.cell kAnA 0 _ rfl 4 _ rfl
          have v5 := o4.cell kAnA 0 _ rfl 5 _ rfl
          simp only [Nat.zero_mul, Nat.zero_add] at v0 v1 v2 v3 v4 v5
          have U4 := hide u4
          clear o4 u4
          go_wp2
          refine bodyPost_ret (v := .tuple #[(⟨0, 0, 0, 0, 0, ⟨none, 0, []⟩⟩ : An).val, .int .i64 81]) (by simp [results, Tryz.results40, go_sem, v0, v1, v2, v3, v4, v5, An.val]) rfl ?_
          exact ⟨rfl, bl0.out.trans (U4.out.below (by omega) (fun k e => by subst e; exact Nat.le_refl _))⟩

end Go.Proofs.YtcmjhaljbmhpgaaGreat
