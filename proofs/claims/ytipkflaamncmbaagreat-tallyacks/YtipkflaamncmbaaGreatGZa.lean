import Derived.Test.YtipkflaamncmbaaGreatGSw
import Derived.Test.YtipkflaamncmbaaGreatGSm
namespace Go.Proofs.YtipkflaamncmbaaGreat
open Go.RowKit Go.Maps
open Classical
set_option linter.unusedVariables false
set_option linter.unusedSimpArgs false

set_option maxRecDepth 100000 in
set_option maxHeartbeats 1000000 in
theorem An.toldz_any (x : An) (w : World) (h : x.In w) : Calls Tryz.prog 84 #[x.val] w fun e w' => e = .returned (x.re (w.heap.size + 2)).val ∧ OwnY yE (w.heap.size + 2) w' (.slice (some ⟨w.heap.size + 2, 0, none⟩) x.s.D.length x.s.D.length) x.s.D ∧ Below w.heap.size w w' := by
  obtain ⟨h, hd⟩ := h
  obtain ⟨xn, xh, xl, xv, xc, ⟨xa, xp, xD⟩⟩ := x
  dsimp only at h hd
  have wz := hide (show ((w.alloc (.cells #[.int .i64 xn, .int .u64 xh, .int .u64 xl, .int .i64 xv, .int .i64 xc, .slice xa xD.length xp] 132)).alloc (.cells #[.int .i64 0, .int .u64 0, .int .u64 0, .int .i64 0, .int .i64 0, .slice none 0 0] 69)).heap.size = w.heap.size + 2 by simp)
  have b1 : Below w.heap.size w ((w.alloc (.cells #[.int .i64 xn, .int .u64 xh, .int .u64 xl, .int .i64 xv, .int .i64 xc, .slice xa xD.length xp] 132)).alloc (.cells #[.int .i64 0, .int .u64 0, .int .u64 0, .int .i64 0, .int .i64 0, .slice none 0 0] 69)) := ((Below.refl _ w).alloc (Nat.le_refl _) _).alloc (by simp) _
  have cc := copied_any xD xa xD.length xp _ (h.later b1) hd
  rw [wz.out] at cc
  have CC := hide cc
  have B1 := hide b1
  clear cc b1 h
  show Calls Tryz.prog 84 #[.agg #[.int .i64 xn, .int .u64 xh, .int .u64 xl, .int .i64 xv, .int .i64 xc, .slice xa xD.length xp]] w fun e w' => e = .returned (.agg #[.int .i64 xn, .int .u64 xh, .int .u64 xl, .int .i64 xv, .int .i64 xc, .slice (some ⟨w.heap.size + 2, 0, none⟩) xD.length xD.length]) ∧ OwnY yE (w.heap.size + 2) w' (.slice (some ⟨w.heap.size + 2, 0, none⟩) xD.length xD.length) xD ∧ Below w.heap.size w w'
  go_enter Tryz.func84, Tryz.ntmps84
  go_wp2_with fail
  refine CC.out.mono ?_
  rintro e w1 ⟨rfl, o1, b1⟩
  have y0 : w1.cell? ⟨w.heap.size, 0, none⟩ = some (.int .i64 xn) := (b1.cell (p := ⟨w.heap.size, 0, none⟩) (by simp)).trans (by go_simp)
  have y1 : w1.cell? ⟨w.heap.size, 1, none⟩ = some (.int .u64 xh) := (b1.cell (p := ⟨w.heap.size, 1, none⟩) (by simp)).trans (by go_simp)
  have y2 : w1.cell? ⟨w.heap.size, 2, none⟩ = some (.int .u64 xl) := (b1.cell (p := ⟨w.heap.size, 2, none⟩) (by simp)).trans (by go_simp)
  have y3 : w1.cell? ⟨w.heap.size, 3, none⟩ = some (.int .i64 xv) := (b1.cell (p := ⟨w.heap.size, 3, none⟩) (by simp)).trans (by go_simp)
  have y4 : w1.cell? ⟨w.heap.size, 4, none⟩ = some (.int .i64 xc) := (b1.cell (p := ⟨w.heap.size, 4, none⟩) (by simp)).trans (by go_simp)
  have y5 : w1.cell? ⟨w.heap.size, 5, none⟩ = some (.slice xa xD.length xp) := (b1.cell (p := ⟨w.heap.size, 5, none⟩) (by simp)).trans (by go_simp)
  have y6 : w1.frozen? ⟨w.heap.size, 5, none⟩ = false := (b1.frozen (p := ⟨w.heap.size, 5, none⟩) (by simp)).trans (by go_simp)
  have oz : OwnY yAnA w.heap.size w1 (.slice (some ⟨w.heap.size + 1, 0, none⟩) 1 1) [⟨0, 0, 0, 0, 0, ⟨none, 0, []⟩⟩] := by
    have := (own_box kAnA w.heap.size (w.alloc (.cells #[.int .i64 xn, .int .u64 xh, .int .u64 xl, .int .i64 xv, .int .i64 xc, .slice xa xD.length xp] 132)) ⟨0, 0, 0, 0, 0, ⟨none, 0, []⟩⟩ (by simp)).upd1 (Upd.of_below (by rw [← wz.out] at b1; exact b1)) (fun _ _ => id)
    rw [World.size_alloc] at this
    exact this
  have z1 : w.heap.size + 2 ≤ w1.heap.size := by have := b1.size; rwa [wz.out] at this
  have O1 := hide o1
  have B2 := hide (B1.out.trans (b1.mono (by omega)))
  have OZ := hide oz
  clear o1 b1 oz CC B1 wz
  dsimp only
  have OZ2 := hide (OZ.out.setc (p := ⟨w.heap.size, 5, none⟩) (.slice (some ⟨w.heap.size + 2, 0, none⟩) xD.length xD.length) (by show w.heap.size ≠ w.heap.size + 1; omega))
  have U2 : Hid (Upd (fun b => b = w.heap.size) w1 (w1.setCell ⟨w.heap.size, 5, none⟩ (.slice (some ⟨w.heap.size + 2, 0, none⟩) xD.length xD.length))) := (Upd.refl (fun b => b = w.heap.size) w1).setCell (p := ⟨w.heap.size, 5, none⟩) (.inl rfl) _
  have zs2 : w.heap.size ≤ (w1.setCell ⟨w.heap.size, 5, none⟩ (.slice (some ⟨w.heap.size + 2, 0, none⟩) xD.length xD.length)).heap.size := by have := U2.out.size; omega
  go_wp2_with (refine storeY kAnA _ rfl 69 (.tmp 2) (.tmp 7) rfl w.heap.size (w.heap.size + 1) 1 1 [⟨0, 0, 0, 0, 0, ⟨none, 0, []⟩⟩] 0 0 ⟨0, 0, 0, 0, 0, ⟨none, 0, []⟩⟩ ⟨xn, xh, xl, xv, xc, ⟨some ⟨w.heap.size + 2, 0, none⟩, xD.length, xD⟩⟩ _ rfl rfl rfl (by kernel_rfl) (by exact (by decide : 6 ≤ 6)) rfl OZ2.out ?zl)
  intro w3 o3 u3 z3
  have OZ3 := hide o3
  have U3 := hide u3
  clear o3 u3
  go_wp2
  have v0 := OZ3.out.cell kAnA 0 _ rfl 0 _ rfl
  have v1 := OZ3.out.cell kAnA 0 _ rfl 1 _ rfl
  have v2 := OZ3.out.cell kAnA 0 _ rfl 2 _ rfl
  have v3 := OZ3.out.cell kAnA 0 _ rfl 3 _ rfl
  have v4 := OZ3.out.cell kAnA 0 _ rfl 4 _ rfl
  have v5 := OZ3.out.cell kAnA 0 _ rfl 5 _ rfl
  simp only [Nat.zero_mul, Nat.zero_add] at v0 v1 v2 v3 v4 v5
  refine bodyPost_ret (v := .agg #[.int .i64 xn, .int .u64 xh, .int .u64 xl, .int .i64 xv, .int .i64 xc, .slice (some ⟨w.heap.size + 2, 0, none⟩) xD.length xD.length]) (by simp [results, Tryz.results84, go_sem, v0, v1, v2, v3, v4, v5]) rfl ?_
  refine ⟨rfl, (O1.out.upd1 U2.out (fun g e => by cases e; show ¬ (w.heap.size + 2 = w.heap.size); omega)).upd1 U3.out (fun g e => by cases e; show ¬ (w.heap.size + 2 = w.heap.size + 1); omega), (B2.out.trans (U2.out.below (by omega) (fun k e => by subst e; exact Nat.le_refl _))).trans (U3.out.below (by omega) (fun k e => by subst e; omega))⟩

end Go.Proofs.YtipkflaamncmbaaGreat

namespace Go.Proofs.YtipkflaamncmbaaGreat
open Go.RowKit Go.Maps
set_option linter.unusedVariables false
set_option linter.unusedSimpArgs false

theorem prim_eq (v n : Int) (hn : 0 < n) : Int.tmod (Int.tmod v n + n) n = v % n := by
  have h1 := Int.lt_tmod_of_pos v hn
  rw [Int.tmod_eq_emod_of_nonneg (by omega), Int.add_emod_right, Int.tmod_def, Int.sub_mul_emod_self_left]
theorem primary_any (v n : Int) (w : World) (hn : 0 < n) (hn2 : n ≤ 9) : Calls Tryz.prog 87 #[.int .i64 v, .int .i64 n] w fun e w' => e = .returned (.int .i64 (v % n)) ∧ w' = w := by
  have h1 := Int.lt_tmod_of_pos v hn
  have h2 := Int.tmod_lt_of_pos v hn
  have h3 := prim_eq v n hn
  have h0 : n ≠ 0 := by omega
  have hb : (n == 0) = false := by simp [h0]
  have hw1 : IntKind.i64.wrap (Int.tmod v n) = Int.tmod v n := by rw [IntKind.wrap_i64]; omega
  have hw2 : IntKind.i64.wrap (Int.tmod v n + n) = Int.tmod v n + n := by rw [IntKind.wrap_i64]; omega
  have h5 := Int.emod_nonneg v h0
  have h6 := Int.emod_lt_of_pos v hn
  have hw3 : IntKind.i64.wrap (v % n) = v % n := by rw [IntKind.wrap_i64]; omega
  go_enter Tryz.func87, Tryz.ntmps87
  go_wp2
  go_ret
  exact ⟨rfl, rfl⟩
theorem marked_any (f : Int) (a : Option Addr) (n c : Nat) (w : World) : Calls Tryz.prog 63 #[.int .i64 f, .slice a n c] w fun e w' => e = .returned (.bool (decide (f ≤ (n : Int)))) ∧ w' = w := by
  go_enter Tryz.func63, Tryz.ntmps63
  go_wp2
  go_ret
  exact ⟨rfl, rfl⟩
/-- The greatest view. -/
def mxA (m : Int) : List An → Int
  | [] => m
  | x :: r => mxA (if m < x.v then x.v else m) r
def mxv (L : List An) : Int := mxA (L.headD ⟨0, 0, 0, 0, 0, ⟨none, 0, []⟩⟩).v L
/-- The answer that settles. -/
def stl (f : Int) (L : List An) : Option An := if f < 1 ∨ 3 < f ∨ (L.length : Int) < f + 1 then none else L.find? (fun x => decide (x.v = mxv L) && decide (x.n = mxv L % (2 * f + 1)))
theorem mxA_drop {m : Int} {L : List An} {j : Nat} (h : j < L.length) : mxA m (L.drop j) = mxA (if m < L[j].v then L[j].v else m) (L.drop (j + 1)) := by
  rw [List.drop_eq_getElem_cons h, mxA]
/-- What Settle answers. -/
def StlOut (B : Nat) (o : Option An) (e : Ending) (w : World) : Prop := match o with
  | none => e = .returned (.tuple #[(⟨0, 0, 0, 0, 0, ⟨none, 0, []⟩⟩ : An).val, .int .i64 81])
  | some x => ∃ y, e = .returned (.tuple #[y.val, .int .i64 0]) ∧ An.Told B w x y
set_option maxRecDepth 100000 in
set_option maxHeartbeats 1000000 in
theorem settle_any (f : Int) (L : List An) (a : Option Addr) (n c : Nat) (w : World) (h : SlY yAnA w a n c L) (hlogs : ∀ x ∈ L, x.In w) :
    Calls Tryz.prog 40 #[.int .i64 f, .slice a n c] w fun e w' => StlOut w.heap.size (stl f L) e w' ∧ Below w.heap.size w w' := by
  have hmx := h.max
  have hcp := h.cap
  have hln := h.len
  unfold maxLen at hmx
  have H := hide h
  have HN := hide hln
  have HX := hide hlogs
  have HS : Hid (stl f L = if f < 1 ∨ 3 < f ∨ (n : Int) < f + 1 then none else L.find? (fun x => decide (x.v = mxv L) && decide (x.n = mxv L % (2 * f + 1)))) := by show _ = _; unfold stl; rw [hln]
  clear h hln hlogs
  generalize stl f L = S at *
  have b0 : Below w.heap.size w (w.alloc (.cells #[.int .i64 0, .int .u64 0, .int .u64 0, .int .i64 0, .int .i64 0, .slice none 0 0] 69)) := (Below.refl _ w).alloc (Nat.le_refl _) _
  have B0 := hide b0
  clear b0
  by_cases h1 : f < 1
  · have hS : S = none := by rw [HS.out, if_pos (.inl h1)]
    subst hS
    go_enter Tryz.func40, Tryz.ntmps40
    go_wp2
    refine bodyPost_ret (v := .tuple #[(⟨0, 0, 0, 0, 0, ⟨none, 0, []⟩⟩ : An).val, .int .i64 81]) (by simp [results, Tryz.results40, go_sem, An.val]) rfl ?_
    exact ⟨rfl, by repeat (first | exact B0.out | refine Below.setCell ?_ (by simp) _)⟩
  by_cases h2 : 3 < f
  · have hS : S = none := by rw [HS.out, if_pos (.inr (.inl h2))]
    subst hS
    go_enter Tryz.func40, Tryz.ntmps40
    go_wp2
    refine bodyPost_ret (v := .tuple #[(⟨0, 0, 0, 0, 0, ⟨none, 0, []⟩⟩ : An).val, .int .i64 81]) (by simp [results, Tryz.results40, go_sem, An.val]) rfl ?_
    exact ⟨rfl, by repeat (first | exact B0.out | refine Below.setCell ?_ (by simp) _)⟩
  have hw : IntKind.i64.wrap (f + 1) = f + 1 := by rw [IntKind.wrap_i64]; omega
  by_cases h3 : (n : Int) < f + 1
  · have hS : S = none := by rw [HS.out, if_pos (.inr (.inr h3))]
    subst hS
    go_enter Tryz.func40, Tryz.ntmps40
    go_wp2
    refine bodyPost_ret (v := .tuple #[(⟨0, 0, 0, 0, 0, ⟨none, 0, []⟩⟩ : An).val, .int .i64 81]) (by simp [results, Tryz.results40, go_sem, An.val]) rfl ?_
    exact ⟨rfl, by repeat (first | exact B0.out | refine Below.setCell ?_ (by simp) _)⟩
  have HS2 : Hid (S = L.find? (fun x => decide (x.v = mxv L) && decide (x.n = mxv L % (2 * f + 1)))) := by show _ = _; rw [HS.out, if_neg (by omega)]
  clear HS
  have hn0 : 0 < n := by omega
  have hl0 : 0 < L.length := by rw [HN.out]; exact hn0
  have hg0 : L[0]? = some L[0] := List.getElem?_eq_getElem hl0
  obtain ⟨q, o, rfl, hq, y0, y1, y2, y3, y4, y5⟩ := (H.out.later B0.out).AnA hg0
  have hM0 : Hid (mxv L = mxA L[0].v (L.drop 0)) := by
    show _ = _
    unfold mxv
    cases L with
    | nil => cases hl0
    | cons x r => rfl
  clear hg0 y0 y1 y2 y4 y5
  simp only [Nat.zero_mul, Nat.add_zero] at y3
  generalize L[0].v = v0 at *
  have hn0' : (0 : Int) < (n : Int) := by omega
  have hwz : Hid ((w.alloc (.cells #[.int .i64 0, .int .u64 0, .int .u64 0, .int .i64 0, .int .i64 0, .slice none 0 0] 69)).heap.size = w.heap.size + 1) := by show _ = _; simp
  generalize hw0 : w.alloc (.cells #[.int .i64 0, .int .u64 0, .int .u64 0, .int .i64 0, .int .i64 0, .slice none 0 0] 69) = w0 at *
  have OB : Hid (OwnY yAnA w.heap.size w0 (.slice (some ⟨w.heap.size, 0, none⟩) 1 1) [⟨0, 0, 0, 0, 0, ⟨none, 0, []⟩⟩]) := by
    show OwnY _ _ _ _ _
    rw [← hw0]
    exact own_box kAnA w.heap.size w _ (Nat.le_refl _)
  have HW0 := hide hw0
  go_enter Tryz.func40, Tryz.ntmps40
  go_wp2
  go_loopw [31, 6] (fun i m wr => ∃ (j : Nat) (M : Int), i = .int .i64 (j : Int) ∧ j ≤ n ∧ m = .int .i64 M ∧ Hid (mxv L = mxA M (L.drop j)) ∧ Below (w.heap.size + 1) w0 wr) (fun i _ _ => n - (intOf i).toNat)
  case atStart => exact ⟨0, v0, rfl, Nat.zero_le _, rfl, hM0, Below.refl _ _⟩
  case round =>
    obtain ⟨j, M, rfl, hj, rfl, hM, hbl⟩ := hrel
    have hsz : w.heap.size + 1 ≤ wr.heap.size := by have := hbl.size; rwa [hwz.out] at this
    have bl0 := hide (B0.out.trans (hbl.mono (by omega)))
    by_cases hlt : j < n
    · have hjl : j < L.length := by rw [HN.out]; exact hlt
      have hg : L[j]? = some L[j] := List.getElem?_eq_getElem hjl
      obtain ⟨q', o', e1, hq', y0, y1, y2, y3, y4, y5⟩ := (H.out.later bl0.out).AnA hg
      cases e1
      have hM1 : Hid (mxv L = mxA (if M < L[j].v then L[j].v else M) (L.drop (j + 1))) := by show _ = _; rw [hM.out, mxA_drop hjl]
      clear hg hM
      generalize L[j] = x at *
      go_wp2
      go_round
      case rel => exact ⟨j + 1, if M < x.v then x.v else M, by go_num, by omega, rfl, hM1, by repeat (first | exact hbl | refine Below.alloc ?_ (by omega) _ | refine Below.setCell ?_ (by simp; omega) _)⟩
      case measure => simp [intOf]; omega
    · obtain rfl : j = n := by omega
      have hM1 : Hid (mxv L = M) := by show _ = _; rw [hM.out, List.drop_of_length_le (by rw [HN.out]; exact Nat.le_refl _), mxA]
      clear hM hM0
      have HS3 : Hid (S = (L.drop 0).find? (fun x => decide (x.v = M) && decide (x.n = M % (2 * f + 1)))) := by show _ = _; rw [HS2.out, hM1.out]; rfl
      clear HS2
      go_wp2
      go_loopw [42] (fun i wr => ∃ j2 : Nat, i = .int .i64 (j2 : Int) ∧ j2 ≤ j ∧ Hid (S = (L.drop j2).find? (fun x => decide (x.v = M) && decide (x.n = M % (2 * f + 1)))) ∧ Below (w.heap.size + 1) w0 wr) (fun i _ => j - (intOf i).toNat)
      case atStart => exact ⟨0, rfl, Nat.zero_le _, HS3, hbl⟩
      case round =>
        clear hbl bl0 hsz HS3 hM1 y3 hq
        obtain ⟨k, rfl, hk, hS, hbl⟩ := hrel
        have hsz : w.heap.size + 1 ≤ wr.heap.size := by have := hbl.size; rwa [hwz.out] at this
        have bl0 := hide (B0.out.trans (hbl.mono (by omega)))
        by_cases hlt : k < j
        · have hjl : k < L.length := by rw [HN.out]; exact hlt
          have hg : L[k]? = some L[k] := List.getElem?_eq_getElem hjl
          obtain ⟨q', o', e1, hq', y0, y1, y2, y3, y4, y5⟩ := (H.out.later bl0.out).AnA hg
          cases e1
          have hSk : Hid (S = if (decide (L[k].v = M) && decide (L[k].n = M % (2 * f + 1))) = true then some L[k] else (L.drop (k + 1)).find? (fun x => decide (x.v = M) && decide (x.n = M % (2 * f + 1)))) := by
            show _ = _
            rw [hS.out, List.drop_eq_getElem_cons hjl, List.find?_cons]
            cases (decide (L[k].v = M) && decide (L[k].n = M % (2 * f + 1))) <;> rfl
          have hin := (HX.out _ (List.getElem_mem hjl)).later bl0.out
          have HY : Hid (∀ W, Below (w.heap.size + 1) w0 W → L[k].In W) := fun W hW => (HX.out _ (List.getElem_mem hjl)).later (B0.out.trans (hW.mono (by omega)))
          clear hg hS
          generalize L[k] = x at *
          have KX : Hid (∀ v, Below (wr.heap.size + 1) (wr.alloc (.cells #[.int .i64 x.n, .int .u64 x.h, .int .u64 x.l, .int .i64 x.v, .int .i64 x.c, .slice x.s.a x.s.D.length x.s.c] 69)) v → (v.cell? ⟨wr.heap.size, 0, none⟩ = some (.int .i64 x.n) ∧ v.cell? ⟨wr.heap.size, 1, none⟩ = some (.int .u64 x.h) ∧ v.cell? ⟨wr.heap.size, 2, none⟩ = some (.int .u64 x.l) ∧ v.cell? ⟨wr.heap.size, 3, none⟩ = some (.int .i64 x.v) ∧ v.cell? ⟨wr.heap.size, 4, none⟩ = some (.int .i64 x.c) ∧ v.cell? ⟨wr.heap.size, 5, none⟩ = some (.slice x.s.a x.s.D.length x.s.c)) ∧ wr.heap.size + 1 ≤ v.heap.size) := fun v hv =>
            ⟨⟨(hv.cell (p := ⟨wr.heap.size, 0, none⟩) (by simp)).trans (by simp), (hv.cell (p := ⟨wr.heap.size, 1, none⟩) (by simp)).trans (by simp), (hv.cell (p := ⟨wr.heap.size, 2, none⟩) (by simp)).trans (by simp), (hv.cell (p := ⟨wr.heap.size, 3, none⟩) (by simp)).trans (by simp), (hv.cell (p := ⟨wr.heap.size, 4, none⟩) (by simp)).trans (by simp), (hv.cell (p := ⟨wr.heap.size, 5, none⟩) (by simp)).trans (by simp)⟩, by have := hv.size; simpa using this⟩
          have HIN := hide hin
          clear hin
          have hw2 : IntKind.i64.wrap (2 * f) = 2 * f := by rw [IntKind.wrap_i64]; omega
          have hw3 : IntKind.i64.wrap (2 * f + 1) = 2 * f + 1 := by rw [IntKind.wrap_i64]; omega
          have cp := hide (fun W => primary_any M (2 * f + 1) W (by omega) (by omega))
          go_wp2_with fail
          refine region_q9 (C := fun v => Below (wr.heap.size + 1) (wr.alloc (.cells #[.int .i64 x.n, .int .u64 x.h, .int .u64 x.l, .int .i64 x.v, .int .i64 x.c, .slice x.s.a x.s.D.length x.s.c] 69)) v) (by kernel_rfl) (by kernel_rfl) (Below.refl _ _).drew ?_
          generalize hP : M % (2 * f + 1) = P at *
          by_cases hv1 : x.v = M
          · have hb1 : (x.v == M) = true := by simp [hv1]
            refine wqv (u := .pointer (some ⟨wr.heap.size, 3, none⟩)) (by kernel_rfl) (fun v hv => by go_simp) ?_
            simp only [Act.put, List.setIfInBounds_toArray, List.set_cons_zero, List.set_cons_succ]
            refine wqv (u := .int .i64 x.v) (by kernel_rfl) (fun v hv => by obtain ⟨⟨y0, y1, y2, y3, y4, y5⟩, _⟩ := KX.out v hv; go_simp) ?_
            simp only [Act.put, List.setIfInBounds_toArray, List.set_cons_zero, List.set_cons_succ]
            refine wqv (u := .int .i64 M) (by kernel_rfl) (fun v hv => by kernel_rfl) ?_
            simp only [Act.put, List.setIfInBounds_toArray, List.set_cons_zero, List.set_cons_succ]
            refine wqv (u := .bool true) (by kernel_rfl) (fun v hv => by go_simp) ?_
            simp only [Act.put, List.setIfInBounds_toArray, List.set_cons_zero, List.set_cons_succ]
            refine wqv (u := .bool true) (by kernel_rfl) (fun v hv => by kernel_rfl) ?_
            simp only [Act.put, List.setIfInBounds_toArray, List.set_cons_zero, List.set_cons_succ]
            refine wqv (u := .pointer (some ⟨wr.heap.size, 0, none⟩)) (by kernel_rfl) (fun v hv => by go_simp) ?_
            simp only [Act.put, List.setIfInBounds_toArray, List.set_cons_zero, List.set_cons_succ]
            refine wqv (u := .int .i64 x.n) (by kernel_rfl) (fun v hv => by obtain ⟨⟨y0, y1, y2, y3, y4, y5⟩, _⟩ := KX.out v hv; go_simp) ?_
            simp only [Act.put, List.setIfInBounds_toArray, List.set_cons_zero, List.set_cons_succ]
            refine wqv (u := .int .i64 M) (by kernel_rfl) (fun v hv => by kernel_rfl) ?_
            simp only [Act.put, List.setIfInBounds_toArray, List.set_cons_zero, List.set_cons_succ]
            refine wqv (u := .int .i64 f) (by kernel_rfl) (fun v hv => by kernel_rfl) ?_
            simp only [Act.put, List.setIfInBounds_toArray, List.set_cons_zero, List.set_cons_succ]
            refine wqv (u := .int .i64 (2 * f)) (by kernel_rfl) (fun v hv => by go_simp) ?_
            simp only [Act.put, List.setIfInBounds_toArray, List.set_cons_zero, List.set_cons_succ]
            refine wqv (u := .int .i64 (2 * f + 1)) (by kernel_rfl) (fun v hv => by go_simp) ?_
            simp only [Act.put, List.setIfInBounds_toArray, List.set_cons_zero, List.set_cons_succ]
            refine wqc (fid := 87) (args := #[.int .i64 M, .int .i64 (2 * f + 1)]) (u := .int .i64 P) (by kernel_rfl) (fun v => by kernel_rfl) (fun v hv => (cp.out v).mono fun e w' h => ⟨h.1, h.2 ▸ hv⟩) ?_
            simp only [Act.put, List.setIfInBounds_toArray, List.set_cons_zero, List.set_cons_succ]
            refine wqv (u := .bool (decide (x.n = P))) (by kernel_rfl) (fun v hv => by go_simp; rfl) ?_
            simp only [Act.put, List.setIfInBounds_toArray, List.set_cons_zero, List.set_cons_succ]
            refine wqv (u := .bool (decide (x.n = P))) (by kernel_rfl) (fun v hv => by kernel_rfl) ?_
            simp only [Act.put, List.setIfInBounds_toArray, List.set_cons_zero, List.set_cons_succ]
            refine wqnil (fun v hv => ?_)
            obtain ⟨⟨y0, y1, y2, y3, y4, y5⟩, zv⟩ := KX.out v hv
            have bv := hide ((hbl.alloc hsz (.cells #[.int .i64 x.n, .int .u64 x.h, .int .u64 x.l, .int .i64 x.v, .int .i64 x.c, .slice x.s.a x.s.D.length x.s.c] 69)).trans (hv.mono (by omega)))
            clear hv KX cp
            by_cases hn1 : x.n = P
            · have hd1 : decide (x.n = P) = true := by simp [hn1]
              rw [hd1]
              have hSx : S = some x := by rw [hSk.out, if_pos (by simp [hv1, hn1])]
              subst hSx
              clear hSk hn1 hv1 hb1 hd1
              have ca := hide (x.as_any v)
              go_wp2_with fail
              refine ca.out.mono ?_
              rintro e w2 ⟨rfl, b2⟩
              have z2 := b2.size
              have B2 := hide (bv.out.trans (b2.mono (by omega)))
              have hin2 : x.In w2 := HY.out w2 B2.out
              have ct := hide (x.toldz_any w2 hin2)
              clear b2 ca y0 y1 y2 y3 y4 y5
              dsimp only
              go_wp2_with fail
              refine ct.out.mono ?_
              rintro e w3 ⟨rfl, o3, b3⟩
              have z3 := b3.size
              have B3 := hide (B2.out.trans (b3.mono (by omega)))
              have OB3 := hide (OB.out.grow (by have := B3.out; rw [hwz.out]; exact this))
              have OE := hide o3
              clear b3 o3 ct
              dsimp only
              go_wp2_with (refine storeY kAnA _ rfl 69 (.tmp 4) (.tmp 62) rfl w.heap.size w.heap.size 1 1 [⟨0, 0, 0, 0, 0, ⟨none, 0, []⟩⟩] 0 0 ⟨0, 0, 0, 0, 0, ⟨none, 0, []⟩⟩ (x.re (w2.heap.size + 2)) _ rfl rfl rfl (by kernel_rfl) (by exact (by decide : 6 ≤ 6)) rfl OB3.out ?zk)
              intro w4 o4 u4 z4
              have v0 := o4.cell kAnA 0 _ rfl 0 _ rfl
              have v1 := o4.cell kAnA 0 _ rfl 1 _ rfl
              have v2 := o4.cell kAnA 0 _ rfl 2 _ rfl
              have v3 := o4.cell kAnA 0 _ rfl 3 _ rfl
              have v4 := o4.cell kAnA 0 _ rfl 4 _ rfl
              have v5 := o4.cell kAnA 0 _ rfl 5 _ rfl
              simp only [Nat.zero_mul, Nat.zero_add] at v0 v1 v2 v3 v4 v5
              have U4 := hide u4
              clear o4 u4
              go_wp2
              refine bodyPost_ret (v := .tuple #[(x.re (w2.heap.size + 2)).val, .int .i64 0]) (by simp [results, Tryz.results40, go_sem, v0, v1, v2, v3, v4, v5, An.val]) rfl ?_
              refine ⟨⟨x.re (w2.heap.size + 2), rfl, HIN.out.2, w2.heap.size + 2, rfl, (OE.out.upd1 U4.out (fun g e => by cases e; show ¬ (w2.heap.size + 2 = w.heap.size); omega)).low (by omega)⟩, (B0.out.trans (B3.out.mono (by omega))).trans (U4.out.below (by omega) (fun k e => by subst e; exact Nat.le_refl _))⟩
            · have hd1 : decide (x.n = P) = false := by simp [hn1]
              rw [hd1]
              go_wp2
              go_round
              case rel => exact ⟨k + 1, by go_num, by omega, by show _ = _; rw [hSk.out, if_neg (by simp [hn1]), hP], bv.out⟩
              case measure => simp [intOf]; omega
          · have hb1 : (x.v == M) = false := by simp [hv1]
            refine wqv (u := .pointer (some ⟨wr.heap.size, 3, none⟩)) (by kernel_rfl) (fun v hv => by go_simp) ?_
            simp only [Act.put, List.setIfInBounds_toArray, List.set_cons_zero, List.set_cons_succ]
            refine wqv (u := .int .i64 x.v) (by kernel_rfl) (fun v hv => by obtain ⟨⟨y0, y1, y2, y3, y4, y5⟩, _⟩ := KX.out v hv; go_simp) ?_
            simp only [Act.put, List.setIfInBounds_toArray, List.set_cons_zero, List.set_cons_succ]
            refine wqv (u := .int .i64 M) (by kernel_rfl) (fun v hv => by kernel_rfl) ?_
            simp only [Act.put, List.setIfInBounds_toArray, List.set_cons_zero, List.set_cons_succ]
            refine wqv (u := .bool false) (by kernel_rfl) (fun v hv => by go_simp) ?_
            simp only [Act.put, List.setIfInBounds_toArray, List.set_cons_zero, List.set_cons_succ]
            refine wqv (u := .bool false) (by kernel_rfl) (fun v hv => by kernel_rfl) ?_
            simp only [Act.put, List.setIfInBounds_toArray, List.set_cons_zero, List.set_cons_succ]
            refine wqskip (by kernel_rfl) ?_
            simp only [Act.put, List.setIfInBounds_toArray, List.set_cons_zero, List.set_cons_succ]
            refine wqskip (by kernel_rfl) ?_
            simp only [Act.put, List.setIfInBounds_toArray, List.set_cons_zero, List.set_cons_succ]
            refine wqskip (by kernel_rfl) ?_
            simp only [Act.put, List.setIfInBounds_toArray, List.set_cons_zero, List.set_cons_succ]
            refine wqskip (by kernel_rfl) ?_
            simp only [Act.put, List.setIfInBounds_toArray, List.set_cons_zero, List.set_cons_succ]
            refine wqskip (by kernel_rfl) ?_
            simp only [Act.put, List.setIfInBounds_toArray, List.set_cons_zero, List.set_cons_succ]
            refine wqskip (by kernel_rfl) ?_
            simp only [Act.put, List.setIfInBounds_toArray, List.set_cons_zero, List.set_cons_succ]
            refine wqskip (by kernel_rfl) ?_
            simp only [Act.put, List.setIfInBounds_toArray, List.set_cons_zero, List.set_cons_succ]
            refine wqskip (by kernel_rfl) ?_
            simp only [Act.put, List.setIfInBounds_toArray, List.set_cons_zero, List.set_cons_succ]
            refine wqv (u := .bool false) (by kernel_rfl) (fun v hv => by kernel_rfl) ?_
            simp only [Act.put, List.setIfInBounds_toArray, List.set_cons_zero, List.set_cons_succ]
            refine wqnil (fun v hv => ?_)
            have HV := hide hv
            have zv := (KX.out v hv).2
            clear hv KX
            go_wp2
            go_round
            case rel => exact ⟨k + 1, by go_num, by omega, by show _ = _; rw [hSk.out, if_neg (by simp [hv1]), hP], (hbl.alloc hsz _).trans (HV.out.mono (by omega))⟩
            case measure => simp [intOf]; omega
        · obtain rfl : k = j := by omega
          have hSn : S = none := by rw [hS.out, List.drop_of_length_le (by rw [HN.out]; exact Nat.le_refl _)]; rfl
          subst hSn
          clear hS
          have OBr := hide (OB.out.grow (by rw [hwz.out]; exact hbl))
          go_wp2_with (refine storeY kAnA _ rfl 69 (.tmp 4) (.tmp 64) rfl w.heap.size w.heap.size 1 1 [⟨0, 0, 0, 0, 0, ⟨none, 0, []⟩⟩] 0 0 ⟨0, 0, 0, 0, 0, ⟨none, 0, []⟩⟩ ⟨0, 0, 0, 0, 0, ⟨none, 0, []⟩⟩ _ rfl rfl rfl (by kernel_rfl) (by exact (by decide : 6 ≤ 6)) rfl OBr.out ?zl)
          intro w4 o4 u4 z4
          have v0 := o4.cell kAnA 0 _ rfl 0 _ rfl
          have v1 := o4.cell kAnA 0 _ rfl 1 _ rfl
          have v2 := o4.cell kAnA 0 _ rfl 2 _ rfl
          have v3 := o4.cell kAnA 0 _ rfl 3 _ rfl
          have v4 := o4.cell kAnA 0 _ rfl 4 _ rfl
          have v5 := o4.cell kAnA 0 _ rfl 5 _ rfl
          simp only [Nat.zero_mul, Nat.zero_add] at v0 v1 v2 v3 v4 v5
          have U4 := hide u4
          clear o4 u4
          go_wp2
          refine bodyPost_ret (v := .tuple #[(⟨0, 0, 0, 0, 0, ⟨none, 0, []⟩⟩ : An).val, .int .i64 81]) (by simp [results, Tryz.results40, go_sem, v0, v1, v2, v3, v4, v5, An.val]) rfl ?_
          exact ⟨rfl, bl0.out.trans (U4.out.below (by omega) (fun k e => by subst e; exact Nat.le_refl _))⟩

end Go.Proofs.YtipkflaamncmbaaGreat

namespace Go.Proofs.YtipkflaamncmbaaGreat
open Go.RowKit Go.Maps
set_option linter.unusedVariables false
set_option linter.unusedSimpArgs false

theorem SlY.none_ {α : Type} (Y : Lay α) (w : World) : SlY Y w none 0 0 [] := ⟨rfl, Nat.le_refl _, by unfold maxLen; omega, fun _ => ⟨rfl, rfl⟩, fun x e => by cases e⟩
theorem An.In_nil {x : An} (w : World) (h : x.s = ⟨none, 0, []⟩) : x.In w := by
  unfold An.In
  rw [h]
  exact ⟨SlY.none_ yE w, by decide⟩
theorem stl_a : stl 1 [⟨1, 0, 0, 0, 0, ⟨none, 0, []⟩⟩, ⟨2, 0, 0, 0, 0, ⟨none, 0, []⟩⟩] = none := by kernel_rfl
theorem stl_b : stl 1 [⟨1, 0, 0, 1, 1, ⟨none, 0, []⟩⟩, ⟨2, 0, 0, 0, 0, ⟨none, 0, []⟩⟩] = some ⟨1, 0, 0, 1, 1, ⟨none, 0, []⟩⟩ := by kernel_rfl
theorem put_a : Mk.put [] ⟨2, 0, 1⟩ = [⟨2, 0, 1⟩] := by kernel_rfl
theorem put_b : Mk.put [⟨2, 0, 1⟩] ⟨1, 0, 1⟩ = [⟨1, 0, 1⟩, ⟨2, 0, 1⟩] := by kernel_rfl
set_option maxRecDepth 100000 in
set_option maxHeartbeats 1000000 in
theorem works8_any (w : World) : Calls Tryz.prog 19 #[] w fun e w' => e = .returned (.bool true) ∧ Below w.heap.size w w' := by
  have B0 : Hid (Below w.heap.size w (w.alloc (.cells #[.int .u64 0, .int .u64 1] 27))) := (Below.refl _ w).alloc (Nat.le_refl _) _
  have KB : Hid (∀ v, Below (w.heap.size + 1) (w.alloc (.cells #[.int .u64 0, .int .u64 1] 27)) v → (v.cell? ⟨w.heap.size, 0, none⟩ = some (.int .u64 0) ∧ v.cell? ⟨w.heap.size, 1, none⟩ = some (.int .u64 1))) := fun v hv =>
    ⟨(hv.cell (p := ⟨w.heap.size, 0, none⟩) (by simp)).trans (by simp), (hv.cell (p := ⟨w.heap.size, 1, none⟩) (by simp)).trans (by simp)⟩
  have KZ : Hid (∀ v, Below (w.heap.size + 1) (w.alloc (.cells #[.int .u64 0, .int .u64 1] 27)) v → w.heap.size + 1 ≤ v.heap.size) := fun v hv => by have := hv.size; simpa using this
  have p1 := hide (fun W => (Mk.Put_any [] ⟨2, 0, 1⟩ none 0 0 W (SlY.none_ _ _) (by omega)).mono (R' := fun e w' => ∃ v, e = .returned v ∧ OwnY yMkA W.heap.size w' v [⟨2, 0, 1⟩] ∧ Below W.heap.size W w') (fun e w' h => by rw [put_a] at h; exact h))
  have p2 := hide (fun W a c (h : SlY yMkA W a 1 c [⟨2, 0, 1⟩]) => (Mk.Put_any [⟨2, 0, 1⟩] ⟨1, 0, 1⟩ a 1 c W h (by omega)).mono (R' := fun e w' => ∃ v, e = .returned v ∧ OwnY yMkA W.heap.size w' v [⟨1, 0, 1⟩, ⟨2, 0, 1⟩] ∧ Below W.heap.size W w') (fun e w' h => by rw [put_b] at h; exact h))
  unfold Mk.val at p1 p2
  dsimp only at p1 p2
  go_enter Tryz.func19, Tryz.ntmps19
  go_wp2_with fail
  have s0 := KB.out _ (Below.refl (w.heap.size + 1) (w.alloc (.cells #[.int .u64 0, .int .u64 1] 27))).drew
  have D0 := hide (Below.refl (w.heap.size + 1) (w.alloc (.cells #[.int .u64 0, .int .u64 1] 27))).drew
  go_region_held3 (fun v => v.cell? ⟨w.heap.size, 0, none⟩ = some (.int .u64 0) ∧ v.cell? ⟨w.heap.size, 1, none⟩ = some (.int .u64 1)) (with_reducible assumption) (first
    | (go_at_call 62; refine (p2.out w2 a2 c2 S2.out).mono ?_; rintro e w3 ⟨v3, rfl, o3, b3⟩; obtain ⟨a3, c3, rfl, s3, g3⟩ := o3.sl kMkA; have S3 := hide s3; have D3 := hide (D2.out.trans (b3.mono Z2)); have Z3 := KZ.out _ D3.out; have t3 := KB.out w3 D3.out; clear o3 b3 s3)
    | (go_at_call 62; refine (p1.out _).mono ?_; rintro e w2 ⟨v2, rfl, o2, b2⟩; obtain ⟨a2, c2, rfl, s2, _⟩ := o2.sl kMkA; have S2 := hide s2; have D2 := hide (D0.out.trans (b2.mono (by simp))); have Z2 := KZ.out _ D2.out; have t2 := KB.out w2 D2.out; clear o2 b2 s2))
  have x3 : SlY yMkA w3 a3 2 c3 [⟨1, 0, 1⟩, ⟨2, 0, 1⟩] := S3.out
  obtain ⟨q, o, rfl, hq, y0, _, _⟩ := x3.MkA (j := 0) rfl
  obtain ⟨q', o', e1, _, y3, _, _⟩ := x3.MkA (j := 1) rfl
  cases e1
  simp only [Nat.zero_mul, Nat.add_zero, Nat.one_mul] at y0 y3
  have hc3 := x3.cap
  have hm3 := x3.max
  unfold maxLen at hm3
  have m1 := hide (marked_any 2 (some ⟨q, o, none⟩) 2 c3 w3)
  have m2 := hide (marked_any 3 (some ⟨q, o, none⟩) 2 c3 w3)
  have CA : Hid (∀ W, Calls Tryz.prog 40 #[.int .i64 1, .slice (some ⟨W.heap.size, 0, none⟩) 2 2] (W.alloc (.cells #[.int .i64 1, .int .u64 0, .int .u64 0, .int .i64 0, .int .i64 0, .slice none 0 0, .int .i64 2, .int .u64 0, .int .u64 0, .int .i64 0, .int .i64 0, .slice none 0 0] 69)) fun e w' => e = .returned (.tuple #[.agg #[.int .i64 0, .int .u64 0, .int .u64 0, .int .i64 0, .int .i64 0, .slice none 0 0], .int .i64 81]) ∧ Below W.heap.size W w') := fun W => by
    have := settle_any 1 [(⟨1, 0, 0, 0, 0, ⟨none, 0, []⟩⟩ : An), ⟨2, 0, 0, 0, 0, ⟨none, 0, []⟩⟩] (some ⟨W.heap.size, 0, none⟩) 2 2 (W.alloc (.cells #[.int .i64 1, .int .u64 0, .int .u64 0, .int .i64 0, .int .i64 0, .slice none 0 0, .int .i64 2, .int .u64 0, .int .u64 0, .int .i64 0, .int .i64 0, .slice none 0 0] 69)) (sl_lit kAnA W [(⟨1, 0, 0, 0, 0, ⟨none, 0, []⟩⟩ : An), ⟨2, 0, 0, 0, 0, ⟨none, 0, []⟩⟩] 69 (by unfold maxLen; simp)) (fun x hx => An.In_nil _ (by simp at hx; rcases hx with rfl | rfl <;> rfl))
    rw [stl_a] at this
    exact this.mono fun e w' h => ⟨h.1, ((Below.refl _ W).alloc (Nat.le_refl _) _).trans (h.2.mono (by simp))⟩
  have CB : Hid (∀ W, Calls Tryz.prog 40 #[.int .i64 1, .slice (some ⟨W.heap.size, 0, none⟩) 2 2] (W.alloc (.cells #[.int .i64 1, .int .u64 0, .int .u64 0, .int .i64 1, .int .i64 1, .slice none 0 0, .int .i64 2, .int .u64 0, .int .u64 0, .int .i64 0, .int .i64 0, .slice none 0 0] 69)) fun e w' => ∃ g : Nat, e = .returned (.tuple #[.agg #[.int .i64 1, .int .u64 0, .int .u64 0, .int .i64 1, .int .i64 1, .slice (some ⟨g, 0, none⟩) 0 0], .int .i64 0]) ∧ Below W.heap.size W w') := fun W => by
    have := settle_any 1 [(⟨1, 0, 0, 1, 1, ⟨none, 0, []⟩⟩ : An), ⟨2, 0, 0, 0, 0, ⟨none, 0, []⟩⟩] (some ⟨W.heap.size, 0, none⟩) 2 2 (W.alloc (.cells #[.int .i64 1, .int .u64 0, .int .u64 0, .int .i64 1, .int .i64 1, .slice none 0 0, .int .i64 2, .int .u64 0, .int .u64 0, .int .i64 0, .int .i64 0, .slice none 0 0] 69)) (sl_lit kAnA W [(⟨1, 0, 0, 1, 1, ⟨none, 0, []⟩⟩ : An), ⟨2, 0, 0, 0, 0, ⟨none, 0, []⟩⟩] 69 (by unfold maxLen; simp)) (fun x hx => An.In_nil _ (by simp at hx; rcases hx with rfl | rfl <;> rfl))
    rw [stl_b] at this
    refine this.mono fun e w' h => ?_
    obtain ⟨⟨y, rfl, _, g, rfl, _⟩, hb⟩ := h
    exact ⟨g, rfl, ((Below.refl _ W).alloc (Nat.le_refl _) _).trans (hb.mono (by simp))⟩
  clear S3 x3 p1 p2 S2 D2 Z2 t2 s0 D0 t3
  have BW := hide (B0.out.trans (D3.out.mono (by omega)))
  clear D3 KB
  go_wp2_with fail
  refine m1.out.mono ?_
  rintro e w4 ⟨rfl, rfl⟩
  dsimp only
  go_wp2_with fail
  refine m2.out.mono ?_
  rintro e w4 ⟨rfl, rfl⟩
  dsimp only
  go_wp2_with fail
  refine (CA.out _).mono ?_
  rintro e w5 ⟨rfl, b5⟩
  have z5 := b5.size
  have B5 := hide (BW.out.trans (b5.mono (by omega)))
  clear b5
  dsimp only
  go_wp2_with fail
  have cb := CB.out (w5.alloc (.cells #[.int .i64 0, .int .u64 0, .int .u64 0, .int .i64 0, .int .i64 0, .slice none 0 0] 69))
  simp only [World.size_alloc] at cb
  refine cb.mono ?_
  rintro e w6 ⟨g, rfl, b6⟩
  have B6 := hide ((B5.out.alloc (by omega) (.cells #[.int .i64 0, .int .u64 0, .int .u64 0, .int .i64 0, .int .i64 0, .slice none 0 0] 69)).trans (b6.mono (by omega)))
  have z6 := b6.size
  simp only [World.size_alloc] at z6
  clear b6 cb CB CA m1 m2
  dsimp only
  go_wp2
  go_ret
  exact ⟨rfl, by repeat (first | exact B6.out | refine Below.alloc ?_ (by omega) _ | refine Below.setCell ?_ (by simp; omega) _)⟩

end Go.Proofs.YtipkflaamncmbaaGreat

