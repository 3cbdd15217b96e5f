import Derived.Shelf.Abstract
import Derived.Test.YtkfkkajeoocbbaaGreatDoorF5
set_option maxRecDepth 100000
set_option linter.unusedVariables false
set_option linter.unusedSimpArgs false
namespace Go.Proofs.YtkfkkajeoocbbaaGreatDoor
open Go.RowKit Go.Maps
open Classical
/-! Stamps lie as marks do. -/
def ySt : Lay Mk := ⟨217, 216, 3, 24, Mk.cs, ⟨0, 0, 0⟩⟩
theorem kSt : ySt.Ok := ⟨by decide, fun x => rfl, fun x u h => by
    simp [ySt, Mk.cs] at h
    rcases h with rfl | rfl | rfl <;> rfl, Tryz.underlying216, ⟨.agg #[.int .i64 (⟨0, 0, 0⟩ : Mk).n, .int .u64 (⟨0, 0, 0⟩ : Mk).h, .int .u64 (⟨0, 0, 0⟩ : Mk).l], by kernel_rfl, rfl⟩⟩
def Ak.sm (x : Ak) : Mk := ⟨x.n, x.h, x.l⟩
theorem Ak.stamp_any (x : Ak) (w : World) : Calls Tryz.prog 206 #[x.val] w fun e w' => e = .returned (.agg #[.int .i64 x.n, .int .u64 x.h, .int .u64 x.l]) ∧ Below w.heap.size w w' := by
  show Calls Tryz.prog 206 #[.agg #[.int .i64 x.n, .int .u64 x.h, .int .u64 x.l, .int .i64 x.p]] w _
  go_enter Tryz.func206, Tryz.ntmps206
  go_wp2
  refine bodyPost_ret (v := .agg #[.int .i64 x.n, .int .u64 x.h, .int .u64 x.l]) (by simp [results, Tryz.results206, go_sem]) rfl ?_
  exact ⟨rfl, by (repeat (first | exact Below.refl _ _ | assumption | refine Below.drew ?_ | refine Below.alloc ?_ (by first | (simp; done) | (simp; omega) | omega) _ | refine Below.setCell ?_ (by first | (simp; done) | (simp; omega) | omega) _))⟩
set_option maxHeartbeats 1000000 in
theorem Ak.stamps_any (L : List Ak) (a : Option Addr) (n c : Nat) (w : World) (h : SlY yAkA w a n c L) (hb : n * 24 ≤ 281474976710656) :
    Calls Tryz.prog 205 #[.slice a n c, .func (.func 206) #[] #[]] w fun e w' => e = .returned (.slice (some ⟨w.heap.size, 0, none⟩) n n) ∧ OwnY ySt w.heap.size w' (.slice (some ⟨w.heap.size, 0, none⟩) n n) (L.map Ak.sm) ∧ Below w.heap.size w w' := by
  have hmx := h.max
  have hcp := h.cap
  have hln := h.len
  unfold maxLen at hmx
  have H := hide h
  have HN := hide hln
  clear h hln
  go_enter Tryz.func205, Tryz.ntmps205
  go_wp2_with (at_make; go_must (refine makeYs kSt _ rfl (.tmp 9) rfl n rfl (by unfold maxLen; omega) hb ?zk))
  intro w1 o1 b1
  have HO : Hid (OwnY ySt w.heap.size w1 (.slice (some ⟨w.heap.size, 0, none⟩) n n) ((L.map Ak.sm).take 0 ++ List.replicate (n - 0) ySt.z)) := by
    show OwnY _ _ _ _ _
    simpa using o1
  clear o1
  go_wp2
  go_loopw [13] (fun i wr => ∃ j : Nat, i = .int .i64 (j : Int) ∧ j ≤ n ∧ Hid (OwnY ySt w.heap.size wr (.slice (some ⟨w.heap.size, 0, none⟩) n n) ((L.map Ak.sm).take j ++ List.replicate (n - j) ySt.z)) ∧ Below w.heap.size w wr) (fun i _ => n - (intOf i).toNat)
  case atStart => exact ⟨0, rfl, Nat.zero_le _, HO, b1⟩
  case round =>
    obtain ⟨j, rfl, hj, hO, hbl⟩ := hrel
    have hsz := hbl.size
    by_cases hlt : j < n
    · have hjl : j < L.length := by rw [HN.out]; exact hlt
      have hg0 : L[j]? = some L[j] := List.getElem?_eq_getElem hjl
      have hg : (L.map Ak.sm)[j]? = some (L[j]).sm := by rw [List.getElem?_map, hg0]; rfl
      obtain ⟨q, o, rfl, hq, y0, y1, y2, y3⟩ := (H.out.later hbl).AkA hg0
      have hlt0 : w.heap.size < wr.heap.size := by
        obtain ⟨_, _, ee, _, _, _, h4⟩ := hO.out.form
        injection ee with ee
        obtain ⟨g', e2, _, h5⟩ := h4 _ ee.symm
        cases e2
        exact h5
      have hset : Hid (((L.map Ak.sm).take j ++ List.replicate (n - j) ySt.z).set j (L[j]).sm = (L.map Ak.sm).take (j + 1) ++ List.replicate (n - (j + 1)) ySt.z) := by
        show _ = _
        have hl : ((L.map Ak.sm).take j).length = j := by rw [List.length_take, List.length_map]; omega
        rw [List.set_append_right _ _ (by omega), hl, Nat.sub_self, show n - j = (n - (j + 1)) + 1 by omega, List.replicate_succ, List.set_cons_zero, List.take_add_one, hg]
        simp only [Option.toList_some, List.append_assoc, List.cons_append, List.nil_append]
      have hget : Hid (((L.map Ak.sm).take j ++ List.replicate (n - j) ySt.z)[j]? = some ySt.z) := by
        show _ = _
        have hl : ((L.map Ak.sm).take j).length = j := by rw [List.length_take, List.length_map]; omega
        rw [List.getElem?_append_right (by omega), hl, Nat.sub_self, show n - j = (n - (j + 1)) + 1 by omega, List.replicate_succ]
        rfl
      clear hg hg0
      generalize L[j] = x at *
      generalize hX : (L.map Ak.sm).take j ++ List.replicate (n - j) ySt.z = XX at *
      clear hX
      have bA := hide (hbl.trans (((Below.refl _ wr).alloc (Nat.le_refl _) (.cells #[.int .i64 x.n, .int .u64 x.h, .int .u64 x.l, .int .i64 x.p] 110)).mono hsz))
      have OA := hide (hO.out.alloc (.cells #[.int .i64 x.n, .int .u64 x.h, .int .u64 x.l, .int .i64 x.p] 110))
      have ca := hide (x.stamp_any (wr.alloc (.cells #[.int .i64 x.n, .int .u64 x.h, .int .u64 x.l, .int .i64 x.p] 110)))
      clear hO
      go_wp2_with fail
      refine ca.out.mono ?_
      rintro e w2 ⟨rfl, b2⟩
      have O2 := hide (OA.out.grow b2)
      have z2 := b2.size
      rw [World.size_alloc] at z2
      dsimp only
      go_wp2_with (first
        | (refine storeY kSt _ rfl 217 (.tmp 23) (.tmp 22) rfl w.heap.size w.heap.size n n XX j 0 ySt.z x.sm _ rfl rfl hget.out (by kernel_rfl) (by exact (by decide : 3 ≤ 3)) rfl O2.out ?_; intro w3 o3 u3 z3; have O3 := hide o3; clear o3)
        | go_in)
      go_round
      case rel =>
        refine ⟨j + 1, by go_num, by omega, by show OwnY _ _ _ _ _; rw [← hset.out]; exact O3.out, bA.out.trans ((b2.mono (by simp; omega)).trans (u3.below (by omega) (fun k e => by subst e; exact Nat.le_refl _)))⟩
      case measure => simp [intOf]; omega
    · obtain rfl : j = n := by omega
      have O9 : Hid (OwnY ySt w.heap.size wr (.slice (some ⟨w.heap.size, 0, none⟩) j j) (L.map Ak.sm)) := by
        show OwnY _ _ _ _ _
        have := hO.out
        rw [Nat.sub_self, List.replicate_zero, List.append_nil, List.take_of_length_le (by rw [List.length_map, HN.out]; exact Nat.le_refl _)] at this
        exact this
      clear hO
      go_wp2
      go_ret
      exact ⟨rfl, O9.out, hbl⟩
def Mk.sm (x : Mk) : Mk := ⟨x.n, x.h, x.l⟩
theorem Mk.stamp_any (x : Mk) (w : World) : Calls Tryz.prog 208 #[x.val] w fun e w' => e = .returned (.agg #[.int .i64 x.n, .int .u64 x.h, .int .u64 x.l]) ∧ Below w.heap.size w w' := by
  show Calls Tryz.prog 208 #[.agg #[.int .i64 x.n, .int .u64 x.h, .int .u64 x.l]] w _
  go_enter Tryz.func208, Tryz.ntmps208
  go_wp2
  refine bodyPost_ret (v := .agg #[.int .i64 x.n, .int .u64 x.h, .int .u64 x.l]) (by simp [results, Tryz.results208, go_sem]) rfl ?_
  exact ⟨rfl, by (repeat (first | exact Below.refl _ _ | assumption | refine Below.drew ?_ | refine Below.alloc ?_ (by first | (simp; done) | (simp; omega) | omega) _ | refine Below.setCell ?_ (by first | (simp; done) | (simp; omega) | omega) _))⟩
set_option maxHeartbeats 1000000 in
theorem Mk.stamps_any (L : List Mk) (a : Option Addr) (n c : Nat) (w : World) (h : SlY yMkA w a n c L) (hb : n * 24 ≤ 281474976710656) :
    Calls Tryz.prog 207 #[.slice a n c, .func (.func 208) #[] #[]] w fun e w' => e = .returned (.slice (some ⟨w.heap.size, 0, none⟩) n n) ∧ OwnY ySt w.heap.size w' (.slice (some ⟨w.heap.size, 0, none⟩) n n) (L.map Mk.sm) ∧ Below w.heap.size w w' := by
  have hmx := h.max
  have hcp := h.cap
  have hln := h.len
  unfold maxLen at hmx
  have H := hide h
  have HN := hide hln
  clear h hln
  go_enter Tryz.func207, Tryz.ntmps207
  go_wp2_with (at_make; go_must (refine makeYs kSt _ rfl (.tmp 9) rfl n rfl (by unfold maxLen; omega) hb ?zk))
  intro w1 o1 b1
  have HO : Hid (OwnY ySt w.heap.size w1 (.slice (some ⟨w.heap.size, 0, none⟩) n n) ((L.map Mk.sm).take 0 ++ List.replicate (n - 0) ySt.z)) := by
    show OwnY _ _ _ _ _
    simpa using o1
  clear o1
  go_wp2
  go_loopw [13] (fun i wr => ∃ j : Nat, i = .int .i64 (j : Int) ∧ j ≤ n ∧ Hid (OwnY ySt w.heap.size wr (.slice (some ⟨w.heap.size, 0, none⟩) n n) ((L.map Mk.sm).take j ++ List.replicate (n - j) ySt.z)) ∧ Below w.heap.size w wr) (fun i _ => n - (intOf i).toNat)
  case atStart => exact ⟨0, rfl, Nat.zero_le _, HO, b1⟩
  case round =>
    obtain ⟨j, rfl, hj, hO, hbl⟩ := hrel
    have hsz := hbl.size
    by_cases hlt : j < n
    · have hjl : j < L.length := by rw [HN.out]; exact hlt
      have hg0 : L[j]? = some L[j] := List.getElem?_eq_getElem hjl
      have hg : (L.map Mk.sm)[j]? = some (L[j]).sm := by rw [List.getElem?_map, hg0]; rfl
      obtain ⟨q, o, rfl, hq, y0, y1, y2⟩ := (H.out.later hbl).MkA hg0
      have hlt0 : w.heap.size < wr.heap.size := by
        obtain ⟨_, _, ee, _, _, _, h4⟩ := hO.out.form
        injection ee with ee
        obtain ⟨g', e2, _, h5⟩ := h4 _ ee.symm
        cases e2
        exact h5
      have hset : Hid (((L.map Mk.sm).take j ++ List.replicate (n - j) ySt.z).set j (L[j]).sm = (L.map Mk.sm).take (j + 1) ++ List.replicate (n - (j + 1)) ySt.z) := by
        show _ = _
        have hl : ((L.map Mk.sm).take j).length = j := by rw [List.length_take, List.length_map]; omega
        rw [List.set_append_right _ _ (by omega), hl, Nat.sub_self, show n - j = (n - (j + 1)) + 1 by omega, List.replicate_succ, List.set_cons_zero, List.take_add_one, hg]
        simp only [Option.toList_some, List.append_assoc, List.cons_append, List.nil_append]
      have hget : Hid (((L.map Mk.sm).take j ++ List.replicate (n - j) ySt.z)[j]? = some ySt.z) := by
        show _ = _
        have hl : ((L.map Mk.sm).take j).length = j := by rw [List.length_take, List.length_map]; omega
        rw [List.getElem?_append_right (by omega), hl, Nat.sub_self, show n - j = (n - (j + 1)) + 1 by omega, List.replicate_succ]
        rfl
      clear hg hg0
      generalize L[j] = x at *
      generalize hX : (L.map Mk.sm).take j ++ List.replicate (n - j) ySt.z = XX at *
      clear hX
      have bA := hide (hbl.trans (((Below.refl _ wr).alloc (Nat.le_refl _) (.cells #[.int .i64 x.n, .int .u64 x.h, .int .u64 x.l] 112)).mono hsz))
      have OA := hide (hO.out.alloc (.cells #[.int .i64 x.n, .int .u64 x.h, .int .u64 x.l] 112))
      have ca := hide (x.stamp_any (wr.alloc (.cells #[.int .i64 x.n, .int .u64 x.h, .int .u64 x.l] 112)))
      clear hO
      go_wp2_with fail
      refine ca.out.mono ?_
      rintro e w2 ⟨rfl, b2⟩
      have O2 := hide (OA.out.grow b2)
      have z2 := b2.size
      rw [World.size_alloc] at z2
      dsimp only
      go_wp2_with (first
        | (refine storeY kSt _ rfl 217 (.tmp 23) (.tmp 22) rfl w.heap.size w.heap.size n n XX j 0 ySt.z x.sm _ rfl rfl hget.out (by kernel_rfl) (by exact (by decide : 3 ≤ 3)) rfl O2.out ?_; intro w3 o3 u3 z3; have O3 := hide o3; clear o3)
        | go_in)
      go_round
      case rel =>
        refine ⟨j + 1, by go_num, by omega, by show OwnY _ _ _ _ _; rw [← hset.out]; exact O3.out, bA.out.trans ((b2.mono (by simp; omega)).trans (u3.below (by omega) (fun k e => by subst e; exact Nat.le_refl _)))⟩
      case measure => simp [intOf]; omega
    · obtain rfl : j = n := by omega
      have O9 : Hid (OwnY ySt w.heap.size wr (.slice (some ⟨w.heap.size, 0, none⟩) j j) (L.map Mk.sm)) := by
        show OwnY _ _ _ _ _
        have := hO.out
        rw [Nat.sub_self, List.replicate_zero, List.append_nil, List.take_of_length_le (by rw [List.length_map, HN.out]; exact Nat.le_refl _)] at this
        exact this
      clear hO
      go_wp2
      go_ret
      exact ⟨rfl, O9.out, hbl⟩
def Bl.sm (x : Bl) : Mk := ⟨x.n, x.h, x.l⟩
theorem Bl.stamp_any (x : Bl) (w : World) : Calls Tryz.prog 210 #[x.val] w fun e w' => e = .returned (.agg #[.int .i64 x.n, .int .u64 x.h, .int .u64 x.l]) ∧ Below w.heap.size w w' := by
  show Calls Tryz.prog 210 #[.agg #[.int .i64 x.n, .int .u64 x.h, .int .u64 x.l, .int .i64 x.v, .int .i64 x.c, .slice x.s.a x.s.D.length x.s.c]] w _
  go_enter Tryz.func210, Tryz.ntmps210
  go_wp2
  refine bodyPost_ret (v := .agg #[.int .i64 x.n, .int .u64 x.h, .int .u64 x.l]) (by simp [results, Tryz.results210, go_sem]) rfl ?_
  exact ⟨rfl, by (repeat (first | exact Below.refl _ _ | assumption | refine Below.drew ?_ | refine Below.alloc ?_ (by first | (simp; done) | (simp; omega) | omega) _ | refine Below.setCell ?_ (by first | (simp; done) | (simp; omega) | omega) _))⟩
set_option maxHeartbeats 1000000 in
theorem Bl.stamps_any (L : List Bl) (a : Option Addr) (n c : Nat) (w : World) (h : SlY yBlA w a n c L) (hb : n * 24 ≤ 281474976710656) :
    Calls Tryz.prog 209 #[.slice a n c, .func (.func 210) #[] #[]] w fun e w' => e = .returned (.slice (some ⟨w.heap.size, 0, none⟩) n n) ∧ OwnY ySt w.heap.size w' (.slice (some ⟨w.heap.size, 0, none⟩) n n) (L.map Bl.sm) ∧ Below w.heap.size w w' := by
  have hmx := h.max
  have hcp := h.cap
  have hln := h.len
  unfold maxLen at hmx
  have H := hide h
  have HN := hide hln
  clear h hln
  go_enter Tryz.func209, Tryz.ntmps209
  go_wp2_with (at_make; go_must (refine makeYs kSt _ rfl (.tmp 9) rfl n rfl (by unfold maxLen; omega) hb ?zk))
  intro w1 o1 b1
  have HO : Hid (OwnY ySt w.heap.size w1 (.slice (some ⟨w.heap.size, 0, none⟩) n n) ((L.map Bl.sm).take 0 ++ List.replicate (n - 0) ySt.z)) := by
    show OwnY _ _ _ _ _
    simpa using o1
  clear o1
  go_wp2
  go_loopw [13] (fun i wr => ∃ j : Nat, i = .int .i64 (j : Int) ∧ j ≤ n ∧ Hid (OwnY ySt w.heap.size wr (.slice (some ⟨w.heap.size, 0, none⟩) n n) ((L.map Bl.sm).take j ++ List.replicate (n - j) ySt.z)) ∧ Below w.heap.size w wr) (fun i _ => n - (intOf i).toNat)
  case atStart => exact ⟨0, rfl, Nat.zero_le _, HO, b1⟩
  case round =>
    obtain ⟨j, rfl, hj, hO, hbl⟩ := hrel
    have hsz := hbl.size
    by_cases hlt : j < n
    · have hjl : j < L.length := by rw [HN.out]; exact hlt
      have hg0 : L[j]? = some L[j] := List.getElem?_eq_getElem hjl
      have hg : (L.map Bl.sm)[j]? = some (L[j]).sm := by rw [List.getElem?_map, hg0]; rfl
      obtain ⟨q, o, rfl, hq, y0, y1, y2, y3, y4, y5⟩ := (H.out.later hbl).BlA hg0
      have hlt0 : w.heap.size < wr.heap.size := by
        obtain ⟨_, _, ee, _, _, _, h4⟩ := hO.out.form
        injection ee with ee
        obtain ⟨g', e2, _, h5⟩ := h4 _ ee.symm
        cases e2
        exact h5
      have hset : Hid (((L.map Bl.sm).take j ++ List.replicate (n - j) ySt.z).set j (L[j]).sm = (L.map Bl.sm).take (j + 1) ++ List.replicate (n - (j + 1)) ySt.z) := by
        show _ = _
        have hl : ((L.map Bl.sm).take j).length = j := by rw [List.length_take, List.length_map]; omega
        rw [List.set_append_right _ _ (by omega), hl, Nat.sub_self, show n - j = (n - (j + 1)) + 1 by omega, List.replicate_succ, List.set_cons_zero, List.take_add_one, hg]
        simp only [Option.toList_some, List.append_assoc, List.cons_append, List.nil_append]
      have hget : Hid (((L.map Bl.sm).take j ++ List.replicate (n - j) ySt.z)[j]? = some ySt.z) := by
        show _ = _
        have hl : ((L.map Bl.sm).take j).length = j := by rw [List.length_take, List.length_map]; omega
        rw [List.getElem?_append_right (by omega), hl, Nat.sub_self, show n - j = (n - (j + 1)) + 1 by omega, List.replicate_succ]
        rfl
      clear hg hg0
      generalize L[j] = x at *
      generalize hX : (L.map Bl.sm).take j ++ List.replicate (n - j) ySt.z = XX at *
      clear hX
      have bA := hide (hbl.trans (((Below.refl _ wr).alloc (Nat.le_refl _) (.cells #[.int .i64 x.n, .int .u64 x.h, .int .u64 x.l, .int .i64 x.v, .int .i64 x.c, .slice x.s.a x.s.D.length x.s.c] 114)).mono hsz))
      have OA := hide (hO.out.alloc (.cells #[.int .i64 x.n, .int .u64 x.h, .int .u64 x.l, .int .i64 x.v, .int .i64 x.c, .slice x.s.a x.s.D.length x.s.c] 114))
      have ca := hide (x.stamp_any (wr.alloc (.cells #[.int .i64 x.n, .int .u64 x.h, .int .u64 x.l, .int .i64 x.v, .int .i64 x.c, .slice x.s.a x.s.D.length x.s.c] 114)))
      clear hO
      go_wp2_with fail
      refine ca.out.mono ?_
      rintro e w2 ⟨rfl, b2⟩
      have O2 := hide (OA.out.grow b2)
      have z2 := b2.size
      rw [World.size_alloc] at z2
      dsimp only
      go_wp2_with (first
        | (refine storeY kSt _ rfl 217 (.tmp 23) (.tmp 22) rfl w.heap.size w.heap.size n n XX j 0 ySt.z x.sm _ rfl rfl hget.out (by kernel_rfl) (by exact (by decide : 3 ≤ 3)) rfl O2.out ?_; intro w3 o3 u3 z3; have O3 := hide o3; clear o3)
        | go_in)
      go_round
      case rel =>
        refine ⟨j + 1, by go_num, by omega, by show OwnY _ _ _ _ _; rw [← hset.out]; exact O3.out, bA.out.trans ((b2.mono (by simp; omega)).trans (u3.below (by omega) (fun k e => by subst e; exact Nat.le_refl _)))⟩
      case measure => simp [intOf]; omega
    · obtain rfl : j = n := by omega
      have O9 : Hid (OwnY ySt w.heap.size wr (.slice (some ⟨w.heap.size, 0, none⟩) j j) (L.map Bl.sm)) := by
        show OwnY _ _ _ _ _
        have := hO.out
        rw [Nat.sub_self, List.replicate_zero, List.append_nil, List.take_of_length_le (by rw [List.length_map, HN.out]; exact Nat.le_refl _)] at this
        exact this
      clear hO
      go_wp2
      go_ret
      exact ⟨rfl, O9.out, hbl⟩
def An.sm (x : An) : Mk := ⟨x.n, x.h, x.l⟩
theorem An.stamp_any (x : An) (w : World) : Calls Tryz.prog 212 #[x.val] w fun e w' => e = .returned (.agg #[.int .i64 x.n, .int .u64 x.h, .int .u64 x.l]) ∧ Below w.heap.size w w' := by
  show Calls Tryz.prog 212 #[.agg #[.int .i64 x.n, .int .u64 x.h, .int .u64 x.l, .int .i64 x.v, .int .i64 x.c, .slice x.s.a x.s.D.length x.s.c]] w _
  go_enter Tryz.func212, Tryz.ntmps212
  go_wp2
  refine bodyPost_ret (v := .agg #[.int .i64 x.n, .int .u64 x.h, .int .u64 x.l]) (by simp [results, Tryz.results212, go_sem]) rfl ?_
  exact ⟨rfl, by (repeat (first | exact Below.refl _ _ | assumption | refine Below.drew ?_ | refine Below.alloc ?_ (by first | (simp; done) | (simp; omega) | omega) _ | refine Below.setCell ?_ (by first | (simp; done) | (simp; omega) | omega) _))⟩
set_option maxHeartbeats 1000000 in
theorem An.stamps_any (L : List An) (a : Option Addr) (n c : Nat) (w : World) (h : SlY yAnA w a n c L) (hb : n * 24 ≤ 281474976710656) :
    Calls Tryz.prog 211 #[.slice a n c, .func (.func 212) #[] #[]] w fun e w' => e = .returned (.slice (some ⟨w.heap.size, 0, none⟩) n n) ∧ OwnY ySt w.heap.size w' (.slice (some ⟨w.heap.size, 0, none⟩) n n) (L.map An.sm) ∧ Below w.heap.size w w' := by
  have hmx := h.max
  have hcp := h.cap
  have hln := h.len
  unfold maxLen at hmx
  have H := hide h
  have HN := hide hln
  clear h hln
  go_enter Tryz.func211, Tryz.ntmps211
  go_wp2_with (at_make; go_must (refine makeYs kSt _ rfl (.tmp 9) rfl n rfl (by unfold maxLen; omega) hb ?zk))
  intro w1 o1 b1
  have HO : Hid (OwnY ySt w.heap.size w1 (.slice (some ⟨w.heap.size, 0, none⟩) n n) ((L.map An.sm).take 0 ++ List.replicate (n - 0) ySt.z)) := by
    show OwnY _ _ _ _ _
    simpa using o1
  clear o1
  go_wp2
  go_loopw [13] (fun i wr => ∃ j : Nat, i = .int .i64 (j : Int) ∧ j ≤ n ∧ Hid (OwnY ySt w.heap.size wr (.slice (some ⟨w.heap.size, 0, none⟩) n n) ((L.map An.sm).take j ++ List.replicate (n - j) ySt.z)) ∧ Below w.heap.size w wr) (fun i _ => n - (intOf i).toNat)
  case atStart => exact ⟨0, rfl, Nat.zero_le _, HO, b1⟩
  case round =>
    obtain ⟨j, rfl, hj, hO, hbl⟩ := hrel
    have hsz := hbl.size
    by_cases hlt : j < n
    · have hjl : j < L.length := by rw [HN.out]; exact hlt
      have hg0 : L[j]? = some L[j] := List.getElem?_eq_getElem hjl
      have hg : (L.map An.sm)[j]? = some (L[j]).sm := by rw [List.getElem?_map, hg0]; rfl
      obtain ⟨q, o, rfl, hq, y0, y1, y2, y3, y4, y5⟩ := (H.out.later hbl).AnA hg0
      have hlt0 : w.heap.size < wr.heap.size := by
        obtain ⟨_, _, ee, _, _, _, h4⟩ := hO.out.form
        injection ee with ee
        obtain ⟨g', e2, _, h5⟩ := h4 _ ee.symm
        cases e2
        exact h5
      have hset : Hid (((L.map An.sm).take j ++ List.replicate (n - j) ySt.z).set j (L[j]).sm = (L.map An.sm).take (j + 1) ++ List.replicate (n - (j + 1)) ySt.z) := by
        show _ = _
        have hl : ((L.map An.sm).take j).length = j := by rw [List.length_take, List.length_map]; omega
        rw [List.set_append_right _ _ (by omega), hl, Nat.sub_self, show n - j = (n - (j + 1)) + 1 by omega, List.replicate_succ, List.set_cons_zero, List.take_add_one, hg]
        simp only [Option.toList_some, List.append_assoc, List.cons_append, List.nil_append]
      have hget : Hid (((L.map An.sm).take j ++ List.replicate (n - j) ySt.z)[j]? = some ySt.z) := by
        show _ = _
        have hl : ((L.map An.sm).take j).length = j := by rw [List.length_take, List.length_map]; omega
        rw [List.getElem?_append_right (by omega), hl, Nat.sub_self, show n - j = (n - (j + 1)) + 1 by omega, List.replicate_succ]
        rfl
      clear hg hg0
      generalize L[j] = x at *
      generalize hX : (L.map An.sm).take j ++ List.replicate (n - j) ySt.z = XX at *
      clear hX
      have bA := hide (hbl.trans (((Below.refl _ wr).alloc (Nat.le_refl _) (.cells #[.int .i64 x.n, .int .u64 x.h, .int .u64 x.l, .int .i64 x.v, .int .i64 x.c, .slice x.s.a x.s.D.length x.s.c] 116)).mono hsz))
      have OA := hide (hO.out.alloc (.cells #[.int .i64 x.n, .int .u64 x.h, .int .u64 x.l, .int .i64 x.v, .int .i64 x.c, .slice x.s.a x.s.D.length x.s.c] 116))
      have ca := hide (x.stamp_any (wr.alloc (.cells #[.int .i64 x.n, .int .u64 x.h, .int .u64 x.l, .int .i64 x.v, .int .i64 x.c, .slice x.s.a x.s.D.length x.s.c] 116)))
      clear hO
      go_wp2_with fail
      refine ca.out.mono ?_
      rintro e w2 ⟨rfl, b2⟩
      have O2 := hide (OA.out.grow b2)
      have z2 := b2.size
      rw [World.size_alloc] at z2
      dsimp only
      go_wp2_with (first
        | (refine storeY kSt _ rfl 217 (.tmp 23) (.tmp 22) rfl w.heap.size w.heap.size n n XX j 0 ySt.z x.sm _ rfl rfl hget.out (by kernel_rfl) (by exact (by decide : 3 ≤ 3)) rfl O2.out ?_; intro w3 o3 u3 z3; have O3 := hide o3; clear o3)
        | go_in)
      go_round
      case rel =>
        refine ⟨j + 1, by go_num, by omega, by show OwnY _ _ _ _ _; rw [← hset.out]; exact O3.out, bA.out.trans ((b2.mono (by simp; omega)).trans (u3.below (by omega) (fun k e => by subst e; exact Nat.le_refl _)))⟩
      case measure => simp [intOf]; omega
    · obtain rfl : j = n := by omega
      have O9 : Hid (OwnY ySt w.heap.size wr (.slice (some ⟨w.heap.size, 0, none⟩) j j) (L.map An.sm)) := by
        show OwnY _ _ _ _ _
        have := hO.out
        rw [Nat.sub_self, List.replicate_zero, List.append_nil, List.take_of_length_le (by rw [List.length_map, HN.out]; exact Nat.le_refl _)] at this
        exact this
      clear hO
      go_wp2
      go_ret
      exact ⟨rfl, O9.out, hbl⟩
set_option maxHeartbeats 1000000 in
theorem Ak.indexA_any (p : Ak → Bool) (g : Nat) (lb : Array Value) (eg : ∀ args w, (callFunc g args).run Tryz.prog w = .ok (.enter g args) w) (L : List Ak) (a : Option Addr) (n c : Nat) (w : World) (h : SlY yAkA w a n c L)
    (hp : ∀ (W : World) (x : Ak), Below w.heap.size w W → Calls Tryz.prog g (#[x.val] ++ lb) W fun e w' => e = .returned (.bool (p x)) ∧ Below w.heap.size w w') :
    Calls Tryz.prog 235 #[.slice a n c, .func (.func g) #[] lb] w fun e w' => e = .returned (.int .i64 (ix p L)) ∧ Below w.heap.size w w' := by
  have hmx := h.max
  have hcp := h.cap
  have hln := h.len
  unfold maxLen at hmx
  have H := hide h
  have HN := hide hln
  have HP := hide hp
  clear h hln hp
  go_enter Tryz.func235, Tryz.ntmps235
  go_wp2
  go_loopw [8] (fun i wr => ∃ j : Nat, i = .int .i64 (j : Int) ∧ j ≤ n ∧ Hid (∀ k (hk : k < L.length), k < j → p L[k] = false) ∧ Below w.heap.size w wr) (fun i _ => n - (intOf i).toNat)
  case atStart => exact ⟨0, rfl, Nat.zero_le _, fun k hk h => absurd h (Nat.not_lt_zero _), Below.refl _ _⟩
  case round =>
    obtain ⟨j, rfl, hj, hA, hbl⟩ := hrel
    have hsz := hbl.size
    by_cases hlt : j < n
    · have hjl : j < L.length := by rw [HN.out]; exact hlt
      have hg : L[j]? = some L[j] := List.getElem?_eq_getElem hjl
      obtain ⟨q, o, rfl, hq, y0, y1, y2, y3⟩ := (H.out.later hbl).AkA hg
      have hcall := HP.out wr L[j] hbl
      have hH : Hid (p L[j] = true → ix p L = (j : Int)) := fun hp => ix_hit hjl hp (fun k hk => hA.out k (by omega) hk)
      have hS : Hid (p L[j] = false → ∀ k (hk : k < L.length), k < j + 1 → p L[k] = false) := fun hp k hk hkj => by
        by_cases e : k = j
        · subst e; exact hp
        · exact hA.out k hk (by omega)
      clear hA hg
      generalize L[j] = x at *
      unfold Ak.val at hcall
      cases hq2 : p x with
      | true =>
        have hx := hide (hH.out hq2)
        rw [hq2] at hcall
        clear hH hS
        go_wp2_with (go_at_fn g; refine hcall.mono ?_; rintro e w' ⟨rfl, hb'⟩)
        go_ret
        exact ⟨by rw [hx.out]; rfl, hb'⟩
      | false =>
        have hx := hide (hS.out hq2)
        rw [hq2] at hcall
        clear hH hS
        go_wp2_with (go_at_fn g; refine hcall.mono ?_; rintro e w' ⟨rfl, hb'⟩)
        go_round
        case rel => exact ⟨j + 1, by go_num, by omega, hx, hb'⟩
        case measure => simp [intOf]; omega
    · obtain rfl : j = n := by omega
      have hx : Hid (ix p L = -1) := ix_miss (fun x hx => by
        obtain ⟨k, hk, rfl⟩ := List.mem_iff_getElem.1 hx
        exact hA.out k hk (by rw [← HN.out]; exact hk))
      clear hA
      go_wp2
      go_ret
      exact ⟨by rw [hx.out]; rfl, hbl⟩
theorem Ak.contains_any (p : Ak → Bool) (g : Nat) (lb : Array Value) (eg : ∀ args w, (callFunc g args).run Tryz.prog w = .ok (.enter g args) w) (L : List Ak) (a : Option Addr) (n c : Nat) (w : World) (h : SlY yAkA w a n c L)
    (hp : ∀ (W : World) (x : Ak), Below w.heap.size w W → Calls Tryz.prog g (#[x.val] ++ lb) W fun e w' => e = .returned (.bool (p x)) ∧ Below w.heap.size w w') :
    Calls Tryz.prog 214 #[.slice a n c, .func (.func g) #[] lb] w fun e w' => e = .returned (.bool (decide (0 ≤ ix p L))) ∧ Below w.heap.size w w' := by
  have H := hide (Ak.indexA_any p g lb eg L a n c w h hp)
  clear h hp
  go_enter Tryz.func214, Tryz.ntmps214
  go_wp2_with fail
  refine H.out.mono ?_
  rintro e w' ⟨rfl, hb⟩
  go_wp2
  go_ret
  exact ⟨rfl, hb⟩
set_option maxHeartbeats 1000000 in
theorem Bl.indexA_any (p : Bl → Bool) (g : Nat) (lb : Array Value) (eg : ∀ args w, (callFunc g args).run Tryz.prog w = .ok (.enter g args) w) (L : List Bl) (a : Option Addr) (n c : Nat) (w : World) (h : SlY yBlA w a n c L)
    (hp : ∀ (W : World) (x : Bl), Below w.heap.size w W → Calls Tryz.prog g (#[x.val] ++ lb) W fun e w' => e = .returned (.bool (p x)) ∧ Below w.heap.size w w') :
    Calls Tryz.prog 236 #[.slice a n c, .func (.func g) #[] lb] w fun e w' => e = .returned (.int .i64 (ix p L)) ∧ Below w.heap.size w w' := by
  have hmx := h.max
  have hcp := h.cap
  have hln := h.len
  unfold maxLen at hmx
  have H := hide h
  have HN := hide hln
  have HP := hide hp
  clear h hln hp
  go_enter Tryz.func236, Tryz.ntmps236
  go_wp2
  go_loopw [8] (fun i wr => ∃ j : Nat, i = .int .i64 (j : Int) ∧ j ≤ n ∧ Hid (∀ k (hk : k < L.length), k < j → p L[k] = false) ∧ Below w.heap.size w wr) (fun i _ => n - (intOf i).toNat)
  case atStart => exact ⟨0, rfl, Nat.zero_le _, fun k hk h => absurd h (Nat.not_lt_zero _), Below.refl _ _⟩
  case round =>
    obtain ⟨j, rfl, hj, hA, hbl⟩ := hrel
    have hsz := hbl.size
    by_cases hlt : j < n
    · have hjl : j < L.length := by rw [HN.out]; exact hlt
      have hg : L[j]? = some L[j] := List.getElem?_eq_getElem hjl
      obtain ⟨q, o, rfl, hq, y0, y1, y2, y3, y4, y5⟩ := (H.out.later hbl).BlA hg
      have hcall := HP.out wr L[j] hbl
      have hH : Hid (p L[j] = true → ix p L = (j : Int)) := fun hp => ix_hit hjl hp (fun k hk => hA.out k (by omega) hk)
      have hS : Hid (p L[j] = false → ∀ k (hk : k < L.length), k < j + 1 → p L[k] = false) := fun hp k hk hkj => by
        by_cases e : k = j
        · subst e; exact hp
        · exact hA.out k hk (by omega)
      clear hA hg
      generalize L[j] = x at *
      unfold Bl.val at hcall
      cases hq2 : p x with
      | true =>
        have hx := hide (hH.out hq2)
        rw [hq2] at hcall
        clear hH hS
        go_wp2_with (go_at_fn g; refine hcall.mono ?_; rintro e w' ⟨rfl, hb'⟩)
        go_ret
        exact ⟨by rw [hx.out]; rfl, hb'⟩
      | false =>
        have hx := hide (hS.out hq2)
        rw [hq2] at hcall
        clear hH hS
        go_wp2_with (go_at_fn g; refine hcall.mono ?_; rintro e w' ⟨rfl, hb'⟩)
        go_round
        case rel => exact ⟨j + 1, by go_num, by omega, hx, hb'⟩
        case measure => simp [intOf]; omega
    · obtain rfl : j = n := by omega
      have hx : Hid (ix p L = -1) := ix_miss (fun x hx => by
        obtain ⟨k, hk, rfl⟩ := List.mem_iff_getElem.1 hx
        exact hA.out k hk (by rw [← HN.out]; exact hk))
      clear hA
      go_wp2
      go_ret
      exact ⟨by rw [hx.out]; rfl, hbl⟩
theorem Bl.contains_any (p : Bl → Bool) (g : Nat) (lb : Array Value) (eg : ∀ args w, (callFunc g args).run Tryz.prog w = .ok (.enter g args) w) (L : List Bl) (a : Option Addr) (n c : Nat) (w : World) (h : SlY yBlA w a n c L)
    (hp : ∀ (W : World) (x : Bl), Below w.heap.size w W → Calls Tryz.prog g (#[x.val] ++ lb) W fun e w' => e = .returned (.bool (p x)) ∧ Below w.heap.size w w') :
    Calls Tryz.prog 216 #[.slice a n c, .func (.func g) #[] lb] w fun e w' => e = .returned (.bool (decide (0 ≤ ix p L))) ∧ Below w.heap.size w w' := by
  have H := hide (Bl.indexA_any p g lb eg L a n c w h hp)
  clear h hp
  go_enter Tryz.func216, Tryz.ntmps216
  go_wp2_with fail
  refine H.out.mono ?_
  rintro e w' ⟨rfl, hb⟩
  go_wp2
  go_ret
  exact ⟨rfl, hb⟩
end Go.Proofs.YtkfkkajeoocbbaaGreatDoor
namespace Go.Proofs.YtkfkkajeoocbbaaGreatDoor
open Go.RowKit Go.Maps Go.Shelf
open Classical
theorem ex_mkf8 {o : Oper} {ρ : Operand → Value} {fid : FuncId} {x : Operand} {X : Value} {w : World} (ho : o.op = .makeFunc (.func fid) #[] #[x]) (hx : ρ x = X) : (execOp ρ o).run Tryz.prog w = .ok (.value (.func (.func fid) #[] #[X])) w := by
  unfold execOp
  simp [ho, hx, go_sem]
def Sta.norB (s : Sta) (c : Cg) : Bool := bif (!decide (s.last = s.view) || decide (0 < (((s.M.length : Int) + (s.B.length : Int)) + (s.N.length : Int)))) then false else bif (!decide (s.self = c.pr s.view)) then decide ((s.A.length : Int) = 0) else decide (s.idle = 0) && (!decide (0 ≤ ix (fun a => !inB a.p 1 (s.L.length : Int)) s.A))
def Sta.chgB (s : Sta) (c : Cg) : Bool := bif (decide (s.last = s.view) || decide (0 < ((s.A.length : Int) + (s.N.length : Int)))) then false else bif (!decide (s.self = c.pr s.view)) then decide ((s.B.length : Int) = 0) else decide ((s.B.length : Int) < c.F) && (!decide (0 ≤ ix (fun b => decide (s.view ≤ b.v)) s.B))
def Sta.kpB (s : Sta) (c : Cg) : Bool := bif decide (s.st = 1) then s.norB c else bif decide (s.st = 2) then s.chgB c else bif decide (s.st = 3) then s.recB else false
theorem beyond8 (x : Ak) (s : Sta) (q : Nat) (w : World) (h : SB7 w q s) : Calls Tryz.prog 213 #[x.val, .pointer (some ⟨q, 0, none⟩)] w fun e w' => e = .returned (.bool (!inB x.p 1 (s.L.length : Int))) ∧ Below w.heap.size w w' := by
  have hq := h.lt
  have h2 : w.cell? ⟨q, 2, none⟩ = some (.int .i64 s.view) := h.cell 2 _ rfl
  have h4 : w.cell? ⟨q, 4, none⟩ = some (.slice s.la s.L.length s.lc) := h.cell 4 _ rfl
  have hqw : q ≠ w.heap.size := by omega
  have W8 := hide (fun W => within8 x.p 1 (s.L.length : Int) W)
  clear h
  show Calls Tryz.prog 213 #[.agg #[.int .i64 x.n, .int .u64 x.h, .int .u64 x.l, .int .i64 x.p], .pointer (some ⟨q, 0, none⟩)] w _
  go_enter Tryz.func213, Tryz.ntmps213
  go_wp2_with fail
  refine (W8.out _).mono ?_
  rintro e w2 ⟨rfl, b2⟩
  have b2 := b2
  have bb : Below w.heap.size w w2 := ((Below.refl _ w).alloc (Nat.le_refl _) _).trans (b2.mono (by simp))
  have HB := hide bb
  clear b2 bb
  go_wp2
  go_ret
  exact ⟨rfl, HB.out⟩
theorem late8 (x : Bl) (s : Sta) (q : Nat) (w : World) (h : SB7 w q s) : Calls Tryz.prog 215 #[x.val, .pointer (some ⟨q, 0, none⟩)] w fun e w' => e = .returned (.bool (decide (s.view ≤ x.v))) ∧ Below w.heap.size w w' := by
  have hq := h.lt
  have h2 : w.cell? ⟨q, 2, none⟩ = some (.int .i64 s.view) := h.cell 2 _ rfl
  have h4 : w.cell? ⟨q, 4, none⟩ = some (.slice s.la s.L.length s.lc) := h.cell 4 _ rfl
  have hqw : q ≠ w.heap.size := by omega
  have W8 := hide (fun W => within8 x.v 1 (s.L.length : Int) W)
  clear h
  show Calls Tryz.prog 215 #[.agg #[.int .i64 x.n, .int .u64 x.h, .int .u64 x.l, .int .i64 x.v, .int .i64 x.c, .slice x.s.a x.s.D.length x.s.c], .pointer (some ⟨q, 0, none⟩)] w _
  go_enter Tryz.func215, Tryz.ntmps215
  go_wp2
  go_ret
  exact ⟨rfl, (Below.refl _ w).alloc (Nat.le_refl _) _⟩
set_option maxHeartbeats 1000000 in
theorem normal8 (c : Cg) (s : Sta) (w : World) (hI : s.In w) (hF : s.Fit) : Calls Tryz.prog 170 #[c.val, s.val] w fun e w' => e = .returned (.bool (s.norB c)) ∧ Below w.heap.size w w' := by
  go_enter Tryz.func170, Tryz.ntmps170
  go_upto_region 0 with fail
  refine wp_region_lit ?_
  refine vl_gen (fun T => T.size = 44 ∧ T[0]? = some (gw true (c.val)) ∧ T[1]? = some (gw true (s.val))) ⟨rfl, rfl, rfl⟩ (fun Z0 ⟨hz, s0, s1⟩ => ?_)
  obtain ⟨w1, hw1⟩ : ∃ y, y = w.alloc (.cells c.cs.toArray 23) := ⟨_, rfl⟩
  have hb : Below w.heap.size w w1 := by rw [hw1]; exact (Below.refl _ _).alloc (Nat.le_refl _) _
  have hs1 : w1.heap.size = w.heap.size + 1 := by rw [hw1]; simp
  have HC : CB7 w1 (w.heap.size) c := by rw [hw1]; exact BX7.new _ _ _
  refine vw (.pointer (some ⟨w.heap.size, 0, none⟩)) w1 (want_none rfl) (ex_box8 rfl (ev s0 rfl) (by rw [hw1]; exact bxC7 _ _)) rfl hz (by decide) (fun Z1 zz kk s2x => ?_)
  replace s1 := ku s1
  clear kk hz s0 hw1
  have hz := zz
  have s2 := s2x
  clear zz s2x
  have hB := hb
  clear hb
  obtain ⟨w2, hw2⟩ : ∃ y, y = w1.alloc (.cells s.cs.toArray 36) := ⟨_, rfl⟩
  have hb : Below w1.heap.size w1 w2 := by rw [hw2]; exact (Below.refl _ _).alloc (Nat.le_refl _) _
  have hs2 : w2.heap.size = w.heap.size + 2 := by rw [hw2]; simp; omega
  have HS : SB7 w2 (w.heap.size + 1) s := by rw [hw2, ← hs1]; exact BX7.new _ _ _
  refine vw (.pointer (some ⟨w.heap.size + 1, 0, none⟩)) w2 (want_none rfl) (ex_box8 rfl (ev s1 rfl) (by rw [hw2, ← hs1]; exact bxS7 _ _)) rfl hz (by decide) (fun Z2 zz kk s3x => ?_)
  replace s2 := ku s2
  clear kk hz s1 hw2
  have hz := zz
  have s3 := s3x
  clear zz s3x
  have hB := hB.trans (hb.mono (by omega))
  have HC := HC.bel hb
  clear hb
  have hv0 : Below w2.heap.size w2 w2 := Below.refl _ _
  have HI := hI.later hB
  have f1 := hF.al
  have f2 := hF.ml
  have f3 := hF.bl
  have f4 := hF.nl
  refine vt (.bool false) (ex_assign rfl rfl) hz (fun Ya zz kk s4 => ?_)
  replace s2 := ku s2
  replace s3 := ku s3
  replace hz := zz
  clear kk zz
  clear s4
  refine wpList_nil ?_
  go_upto_region 1 with fail
  refine wp_region_lit ?_
  refine vt (.pointer (some ⟨w.heap.size + 1, 3, none⟩)) (ex_fa rfl (ev s3 rfl) (faS3 _ _)) hz (fun Yb zz kk s6 => ?_)
  replace s2 := ku s2
  replace s3 := ku s3
  replace hz := zz
  clear kk zz
  refine vt (.int .i64 s.last) (ex_ld rfl (ev s6 rfl) (ldI8 (cell8 (HS.cell 3 _ rfl) hv0))) hz (fun Yc zz kk s7 => ?_)
  replace s2 := ku s2
  replace s3 := ku s3
  replace hz := zz
  clear kk zz s6 Yb
  refine vt (.pointer (some ⟨w.heap.size + 1, 2, none⟩)) (ex_fa rfl (ev s3 rfl) (faS2 _ _)) hz (fun Yd zz kk s8 => ?_)
  replace s2 := ku s2
  replace s3 := ku s3
  replace s7 := ku s7
  replace hz := zz
  clear kk zz Yc
  refine vt (.int .i64 s.view) (ex_ld rfl (ev s8 rfl) (ldI8 (cell8 (HS.cell 2 _ rfl) hv0))) hz (fun Ye zz kk s9 => ?_)
  replace s2 := ku s2
  replace s3 := ku s3
  replace s7 := ku s7
  replace hz := zz
  clear kk zz s8 Yd
  refine vt (.bool (!decide (s.last = s.view))) (ex_bin rfl (ev s7 rfl) (ev s9 rfl) (neqC _ _ _ _ _)) hz (fun Yf zz kk s10 => ?_)
  replace s2 := ku s2
  replace s3 := ku s3
  replace hz := zz
  clear kk zz s7 s9 Ye
  refine vt _ (ex_move rfl (ev s10 rfl)) hz (fun Yg zz kk s11 => ?_)
  replace s2 := ku s2
  replace s3 := ku s3
  replace hz := zz
  clear kk zz s10 Yf
  refine vl _ (.pointer (some ⟨w.heap.size + 1, 9, none⟩)) (want_g rfl rfl s11) (fun hc => ex_fa rfl (ev s3 rfl) (faS9 _ _)) rfl hz (by decide) (fun Yh zz kk s12 => ?_)
  replace s2 := ku s2
  replace s3 := ku s3
  replace s11 := ku s11
  replace hz := zz
  clear kk zz Yg
  refine vl _ (.slice s.ma s.M.length s.mc) (want_g rfl rfl s11) (fun hc => ex_ld rfl (ev s12 hc) (ldM8 (cell8 (HS.cell 9 _ rfl) hv0))) rfl hz (by decide) (fun Yi zz kk s13 => ?_)
  replace s2 := ku s2
  replace s3 := ku s3
  replace s11 := ku s11
  replace hz := zz
  clear kk zz s12 Yh
  refine vl _ (.int .i64 (s.M.length : Int)) (want_g rfl rfl s11) (fun hc => ex_lenM8 rfl rfl (ev s13 hc)) rfl hz (by decide) (fun Yj zz kk s14 => ?_)
  replace s2 := ku s2
  replace s3 := ku s3
  replace s11 := ku s11
  replace hz := zz
  clear kk zz s13 Yi
  refine vl _ (.pointer (some ⟨w.heap.size + 1, 10, none⟩)) (want_g rfl rfl s11) (fun hc => ex_fa rfl (ev s3 rfl) (faS10 _ _)) rfl hz (by decide) (fun Yk zz kk s15 => ?_)
  replace s2 := ku s2
  replace s3 := ku s3
  replace s11 := ku s11
  replace s14 := ku s14
  replace hz := zz
  clear kk zz Yj
  refine vl _ (.slice s.ba s.B.length s.bc) (want_g rfl rfl s11) (fun hc => ex_ld rfl (ev s15 hc) (ldB8 (cell8 (HS.cell 10 _ rfl) hv0))) rfl hz (by decide) (fun Yl zz kk s16 => ?_)
  replace s2 := ku s2
  replace s3 := ku s3
  replace s11 := ku s11
  replace s14 := ku s14
  replace hz := zz
  clear kk zz s15 Yk
  refine vl _ (.int .i64 (s.B.length : Int)) (want_g rfl rfl s11) (fun hc => ex_lenB8 rfl rfl (ev s16 hc)) rfl hz (by decide) (fun Ym zz kk s17 => ?_)
  replace s2 := ku s2
  replace s3 := ku s3
  replace s11 := ku s11
  replace s14 := ku s14
  replace hz := zz
  clear kk zz s16 Yl
  refine vl _ (.int .i64 ((s.M.length : Int) + (s.B.length : Int))) (want_g rfl rfl s11) (fun hc => ex_bin rfl (ev s14 hc) (ev s17 hc) (addD8 _ _ (s.M.length : Int) (s.B.length : Int) ((s.M.length : Int) + (s.B.length : Int)) (by rw [IntKind.wrap_i64]; omega) _)) rfl hz (by decide) (fun Yn zz kk s18 => ?_)
  replace s2 := ku s2
  replace s3 := ku s3
  replace s11 := ku s11
  replace hz := zz
  clear kk zz s14 s17 Ym
  refine vl _ (.pointer (some ⟨w.heap.size + 1, 11, none⟩)) (want_g rfl rfl s11) (fun hc => ex_fa rfl (ev s3 rfl) (faS11 _ _)) rfl hz (by decide) (fun Yo zz kk s19 => ?_)
  replace s2 := ku s2
  replace s3 := ku s3
  replace s11 := ku s11
  replace s18 := ku s18
  replace hz := zz
  clear kk zz Yn
  refine vl _ (.slice s.na s.N.length s.nc) (want_g rfl rfl s11) (fun hc => ex_ld rfl (ev s19 hc) (ldN8 (cell8 (HS.cell 11 _ rfl) hv0))) rfl hz (by decide) (fun Yp zz kk s20 => ?_)
  replace s2 := ku s2
  replace s3 := ku s3
  replace s11 := ku s11
  replace s18 := ku s18
  replace hz := zz
  clear kk zz s19 Yo
  refine vl _ (.int .i64 (s.N.length : Int)) (want_g rfl rfl s11) (fun hc => ex_lenN8 rfl rfl (ev s20 hc)) rfl hz (by decide) (fun Yq zz kk s21 => ?_)
  replace s2 := ku s2
  replace s3 := ku s3
  replace s11 := ku s11
  replace s18 := ku s18
  replace hz := zz
  clear kk zz s20 Yp
  refine vl _ (.int .i64 (((s.M.length : Int) + (s.B.length : Int)) + (s.N.length : Int))) (want_g rfl rfl s11) (fun hc => ex_bin rfl (ev s18 hc) (ev s21 hc) (addD8 _ _ ((s.M.length : Int) + (s.B.length : Int)) (s.N.length : Int) (((s.M.length : Int) + (s.B.length : Int)) + (s.N.length : Int)) (by rw [IntKind.wrap_i64]; omega) _)) rfl hz (by decide) (fun Yr zz kk s22 => ?_)
  replace s2 := ku s2
  replace s3 := ku s3
  replace s11 := ku s11
  replace hz := zz
  clear kk zz s18 s21 Yq
  refine vl _ (.bool (decide (0 < (((s.M.length : Int) + (s.B.length : Int)) + (s.N.length : Int))))) (want_g rfl rfl s11) (fun hc => ex_bin rfl (ev s22 hc) rfl (gtrC _ _ _ _ _)) rfl hz (by decide) (fun Ys zz kk s23 => ?_)
  replace s2 := ku s2
  replace s3 := ku s3
  replace s11 := ku s11
  replace hz := zz
  clear kk zz s22 Yr
  refine vt (.bool ((!decide (s.last = s.view)) || (decide (0 < (((s.M.length : Int) + (s.B.length : Int)) + (s.N.length : Int)))))) (ex_or rfl s11 s23 rfl) hz (fun Yt zz kk s24 => ?_)
  replace s2 := ku s2
  replace s3 := ku s3
  replace hz := zz
  clear kk zz s11 s23 Ys
  refine wpList_nil ?_
  go_upto_region 2 with fail
  cases e1 : ((!decide (s.last = s.view)) || (decide (0 < (((s.M.length : Int) + (s.B.length : Int)) + (s.N.length : Int)))))
  rotate_left
  · refine wp_cond_true ((ev s24 rfl).trans (congrArg Value.bool e1)) ?_
    go_upto_region 2 with fail
    refine wp_region_lit ?_
    refine vt (.bool false) (ex_assign rfl rfl) hz (fun Yu zz kk s4 => ?_)
    replace hz := zz
    clear kk zz s2 s3 s24
    refine wpList_nil ?_
    go_wp2
    refine bodyPost_ret (results_tmp rfl _ _ _) rfl ⟨?_, hB.trans (hv0.mono (by omega))⟩
    rw [getD_of s4]
    rw [show s.norB c = false from by unfold Sta.norB; rw [e1]; rfl]
    rfl
  refine wp_cond_false ((ev s24 rfl).trans (congrArg Value.bool e1)) ?_
  clear s24
  go_upto_region 3 with fail
  refine wp_region_lit ?_
  refine vt (c.val) (ex_ld rfl (ev s2 rfl) (CB7.ld (HC.bel hv0))) hz (fun Yv zz kk s25 => ?_)
  replace s2 := ku s2
  replace s3 := ku s3
  replace hz := zz
  clear kk zz
  refine vt (s.val) (ex_ld rfl (ev s3 rfl) (SB7.ld (HS.bel hv0))) hz (fun Yw zz kk s26 => ?_)
  replace s2 := ku s2
  replace s3 := ku s3
  replace s25 := ku s25
  replace hz := zz
  clear kk zz Yv
  refine vcall true (.bool (decide (s.self = c.pr s.view))) (want_none rfl) (fun hc => ex_call rfl (by simp only [List.map_toArray, List.map_cons, List.map_nil, (ev s25 rfl), (ev s26 rfl), evc] <;> rfl) rfl) (fun hc => isprimary8 c s w2) rfl hz (by decide) (fun Yx x1 hb zz kk s27 => ?_)
  have hx1 := hv0.trans (hb.mono hv0.size)
  clear hb
  replace s2 := ku s2
  replace s3 := ku s3
  replace hz := zz
  clear kk zz s25 s26 Yw
  refine vt (.bool (!(decide (s.self = c.pr s.view)))) (ex_not rfl (ev s27 rfl)) hz (fun Yy zz kk s28 => ?_)
  replace s2 := ku s2
  replace s3 := ku s3
  replace hz := zz
  clear kk zz s27 Yx
  refine wpList_nil ?_
  go_upto_region 4 with fail
  cases e2 : (!(decide (s.self = c.pr s.view)))
  rotate_left
  · refine wp_cond_true ((ev s28 rfl).trans (congrArg Value.bool e2)) ?_
    go_upto_region 4 with fail
    refine wp_region_lit ?_
    refine vt (.pointer (some ⟨w.heap.size + 1, 8, none⟩)) (ex_fa rfl (ev s3 rfl) (faS8 _ _)) hz (fun Yz zz kk s29 => ?_)
    replace hz := zz
    clear kk zz s2 s3 s28
    refine vt (.slice s.ka s.A.length s.kc) (ex_ld rfl (ev s29 rfl) (ldK8 (cell8 (HS.cell 8 _ rfl) hx1))) hz (fun Y0 zz kk s30 => ?_)
    replace hz := zz
    clear kk zz s29 Yz
    refine vt (.int .i64 (s.A.length : Int)) (ex_lenK8 rfl rfl (ev s30 rfl)) hz (fun Y1 zz kk s31 => ?_)
    replace hz := zz
    clear kk zz s30 Y0
    refine vt (.bool (decide ((s.A.length : Int) = 0))) (ex_bin rfl (ev s31 rfl) rfl (eqlC _ _ _ _ _)) hz (fun Y2 zz kk s32 => ?_)
    replace hz := zz
    clear kk zz s31 Y1
    refine vt _ (ex_assign rfl (ev s32 rfl)) hz (fun Y3 zz kk s4 => ?_)
    replace hz := zz
    clear kk zz s32 Y2
    refine wpList_nil ?_
    go_wp2
    refine bodyPost_ret (results_tmp rfl _ _ _) rfl ⟨?_, hB.trans (hx1.mono (by omega))⟩
    rw [getD_of s4]
    rw [show s.norB c = decide ((s.A.length : Int) = 0) from by unfold Sta.norB; rw [e1, e2]; rfl]
    rfl
  refine wp_cond_false ((ev s28 rfl).trans (congrArg Value.bool e2)) ?_
  clear s28
  go_upto_region 5 with fail
  refine wp_region_lit ?_
  refine vt (.func (.func 213) #[] #[.pointer (some ⟨w.heap.size + 1, 0, none⟩)]) (ex_mkf8 rfl (ev s3 rfl)) hz (fun Y4 zz kk s33 => ?_)
  replace s2 := ku s2
  replace s3 := ku s3
  replace hz := zz
  clear kk zz
  refine vt _ (ex_assign rfl (ev s33 rfl)) hz (fun Y5 zz kk s5 => ?_)
  replace s2 := ku s2
  replace s3 := ku s3
  replace hz := zz
  clear kk zz s33 Y4
  refine wpList_nil ?_
  go_upto_region 6 with fail
  refine wp_region_lit ?_
  refine vt (.pointer (some ⟨w.heap.size + 1, 7, none⟩)) (ex_fa rfl (ev s3 rfl) (faS7 _ _)) hz (fun Y6 zz kk s34 => ?_)
  replace s3 := ku s3
  replace s5 := ku s5
  replace hz := zz
  clear kk zz s2
  refine vt (.int .i64 s.idle) (ex_ld rfl (ev s34 rfl) (ldI8 (cell8 (HS.cell 7 _ rfl) hx1))) hz (fun Y7 zz kk s35 => ?_)
  replace s3 := ku s3
  replace s5 := ku s5
  replace hz := zz
  clear kk zz s34 Y6
  refine vt (.bool (decide (s.idle = 0))) (ex_bin rfl (ev s35 rfl) rfl (eqlC _ _ _ _ _)) hz (fun Y8 zz kk s36 => ?_)
  replace s3 := ku s3
  replace s5 := ku s5
  replace hz := zz
  clear kk zz s35 Y7
  refine vt _ (ex_move rfl (ev s36 rfl)) hz (fun Y9 zz kk s37 => ?_)
  replace s3 := ku s3
  replace s5 := ku s5
  replace hz := zz
  clear kk zz s36 Y8
  refine vl _ (.pointer (some ⟨w.heap.size + 1, 8, none⟩)) (want_g rfl rfl s37) (fun hc => ex_fa rfl (ev s3 rfl) (faS8 _ _)) rfl hz (by decide) (fun Yba zz kk s38 => ?_)
  replace s5 := ku s5
  replace s37 := ku s37
  replace hz := zz
  clear kk zz s3 Y9
  refine vl _ (.slice s.ka s.A.length s.kc) (want_g rfl rfl s37) (fun hc => ex_ld rfl (ev s38 hc) (ldK8 (cell8 (HS.cell 8 _ rfl) hx1))) rfl hz (by decide) (fun Ybb zz kk s39 => ?_)
  replace s5 := ku s5
  replace s37 := ku s37
  replace hz := zz
  clear kk zz s38 Yba
  refine vl _ _ (want_g rfl rfl s37) (fun hc => ex_move rfl (ev s5 rfl)) rfl hz (by decide) (fun Ybc zz kk s40 => ?_)
  replace s37 := ku s37
  replace s39 := ku s39
  replace hz := zz
  clear kk zz s5 Ybb
  refine vcall (true && ((decide (s.idle = 0)) == true)) (.bool (decide (0 ≤ ix (fun a => !inB a.p 1 (s.L.length : Int)) s.A))) (want_g rfl rfl s37) (fun hc => ex_call rfl (by simp only [List.map_toArray, List.map_cons, List.map_nil, (ev s39 hc), (ev s40 hc), evc] <;> rfl) rfl) (fun hc => Ak.contains_any (fun a => !inB a.p 1 (s.L.length : Int)) 213 #[.pointer (some ⟨w.heap.size + 1, 0, none⟩)] (enters_of Tryz.func213 (by kernel_rfl) rfl) s.A s.ka _ s.kc x1 (HI.a.later hx1) (fun W x hW => bel8 hW (beyond8 x s (w.heap.size + 1) W ((HS.bel hx1).bel hW)) hW.size)) rfl hz (by decide) (fun Ybd x2 hb zz kk s41 => ?_)
  have hx2 := hx1.trans (hb.mono hx1.size)
  clear hb
  replace s37 := ku s37
  replace hz := zz
  clear kk zz s39 s40 Ybc
  refine vl _ (.bool (!(decide (0 ≤ ix (fun a => !inB a.p 1 (s.L.length : Int)) s.A)))) (want_g rfl rfl s37) (fun hc => ex_not rfl (ev s41 hc)) rfl hz (by decide) (fun Ybe zz kk s42 => ?_)
  replace s37 := ku s37
  replace hz := zz
  clear kk zz s41 Ybd
  refine vt (.bool ((decide (s.idle = 0)) && (!(decide (0 ≤ ix (fun a => !inB a.p 1 (s.L.length : Int)) s.A))))) (ex_and rfl s37 s42 rfl) hz (fun Ybf zz kk s43 => ?_)
  replace hz := zz
  clear kk zz s37 s42 Ybe
  refine vt _ (ex_assign rfl (ev s43 rfl)) hz (fun Ybg zz kk s4 => ?_)
  replace hz := zz
  clear kk zz s43 Ybf
  refine wpList_nil ?_
  go_wp2
  refine bodyPost_ret (results_tmp rfl _ _ _) rfl ⟨?_, hB.trans (hx2.mono (by omega))⟩
  rw [getD_of s4]
  unfold Sta.norB
  rw [e1, e2]
  rfl
set_option maxHeartbeats 1000000 in
theorem changing8 (c : Cg) (s : Sta) (w : World) (hI : s.In w) (hF : s.Fit) : Calls Tryz.prog 171 #[c.val, s.val] w fun e w' => e = .returned (.bool (s.chgB c)) ∧ Below w.heap.size w w' := by
  go_enter Tryz.func171, Tryz.ntmps171
  go_upto_region 0 with fail
  refine wp_region_lit ?_
  refine vl_gen (fun T => T.size = 43 ∧ T[0]? = some (gw true (c.val)) ∧ T[1]? = some (gw true (s.val))) ⟨rfl, rfl, rfl⟩ (fun Z0 ⟨hz, s0, s1⟩ => ?_)
  obtain ⟨w1, hw1⟩ : ∃ y, y = w.alloc (.cells c.cs.toArray 23) := ⟨_, rfl⟩
  have hb : Below w.heap.size w w1 := by rw [hw1]; exact (Below.refl _ _).alloc (Nat.le_refl _) _
  have hs1 : w1.heap.size = w.heap.size + 1 := by rw [hw1]; simp
  have HC : CB7 w1 (w.heap.size) c := by rw [hw1]; exact BX7.new _ _ _
  refine vw (.pointer (some ⟨w.heap.size, 0, none⟩)) w1 (want_none rfl) (ex_box8 rfl (ev s0 rfl) (by rw [hw1]; exact bxC7 _ _)) rfl hz (by decide) (fun Z1 zz kk s2x => ?_)
  replace s1 := ku s1
  clear kk hz s0 hw1
  have hz := zz
  have s2 := s2x
  clear zz s2x
  have hB := hb
  clear hb
  obtain ⟨w2, hw2⟩ : ∃ y, y = w1.alloc (.cells s.cs.toArray 36) := ⟨_, rfl⟩
  have hb : Below w1.heap.size w1 w2 := by rw [hw2]; exact (Below.refl _ _).alloc (Nat.le_refl _) _
  have hs2 : w2.heap.size = w.heap.size + 2 := by rw [hw2]; simp; omega
  have HS : SB7 w2 (w.heap.size + 1) s := by rw [hw2, ← hs1]; exact BX7.new _ _ _
  refine vw (.pointer (some ⟨w.heap.size + 1, 0, none⟩)) w2 (want_none rfl) (ex_box8 rfl (ev s1 rfl) (by rw [hw2, ← hs1]; exact bxS7 _ _)) rfl hz (by decide) (fun Z2 zz kk s3x => ?_)
  replace s2 := ku s2
  clear kk hz s1 hw2
  have hz := zz
  have s3 := s3x
  clear zz s3x
  have hB := hB.trans (hb.mono (by omega))
  have HC := HC.bel hb
  clear hb
  have hv0 : Below w2.heap.size w2 w2 := Below.refl _ _
  have HI := hI.later hB
  have f1 := hF.al
  have f2 := hF.ml
  have f3 := hF.bl
  have f4 := hF.nl
  refine vt (.bool false) (ex_assign rfl rfl) hz (fun Ya zz kk s4 => ?_)
  replace s2 := ku s2
  replace s3 := ku s3
  replace hz := zz
  clear kk zz
  clear s4
  refine wpList_nil ?_
  go_upto_region 1 with fail
  refine wp_region_lit ?_
  refine vt (.pointer (some ⟨w.heap.size + 1, 3, none⟩)) (ex_fa rfl (ev s3 rfl) (faS3 _ _)) hz (fun Yb zz kk s6 => ?_)
  replace s2 := ku s2
  replace s3 := ku s3
  replace hz := zz
  clear kk zz
  refine vt (.int .i64 s.last) (ex_ld rfl (ev s6 rfl) (ldI8 (cell8 (HS.cell 3 _ rfl) hv0))) hz (fun Yc zz kk s7 => ?_)
  replace s2 := ku s2
  replace s3 := ku s3
  replace hz := zz
  clear kk zz s6 Yb
  refine vt (.pointer (some ⟨w.heap.size + 1, 2, none⟩)) (ex_fa rfl (ev s3 rfl) (faS2 _ _)) hz (fun Yd zz kk s8 => ?_)
  replace s2 := ku s2
  replace s3 := ku s3
  replace s7 := ku s7
  replace hz := zz
  clear kk zz Yc
  refine vt (.int .i64 s.view) (ex_ld rfl (ev s8 rfl) (ldI8 (cell8 (HS.cell 2 _ rfl) hv0))) hz (fun Ye zz kk s9 => ?_)
  replace s2 := ku s2
  replace s3 := ku s3
  replace s7 := ku s7
  replace hz := zz
  clear kk zz s8 Yd
  refine vt (.bool (decide (s.last = s.view))) (ex_bin rfl (ev s7 rfl) (ev s9 rfl) (eqlC _ _ _ _ _)) hz (fun Yf zz kk s10 => ?_)
  replace s2 := ku s2
  replace s3 := ku s3
  replace hz := zz
  clear kk zz s7 s9 Ye
  refine vt _ (ex_move rfl (ev s10 rfl)) hz (fun Yg zz kk s11 => ?_)
  replace s2 := ku s2
  replace s3 := ku s3
  replace hz := zz
  clear kk zz s10 Yf
  refine vl _ (.pointer (some ⟨w.heap.size + 1, 8, none⟩)) (want_g rfl rfl s11) (fun hc => ex_fa rfl (ev s3 rfl) (faS8 _ _)) rfl hz (by decide) (fun Yh zz kk s12 => ?_)
  replace s2 := ku s2
  replace s3 := ku s3
  replace s11 := ku s11
  replace hz := zz
  clear kk zz Yg
  refine vl _ (.slice s.ka s.A.length s.kc) (want_g rfl rfl s11) (fun hc => ex_ld rfl (ev s12 hc) (ldK8 (cell8 (HS.cell 8 _ rfl) hv0))) rfl hz (by decide) (fun Yi zz kk s13 => ?_)
  replace s2 := ku s2
  replace s3 := ku s3
  replace s11 := ku s11
  replace hz := zz
  clear kk zz s12 Yh
  refine vl _ (.int .i64 (s.A.length : Int)) (want_g rfl rfl s11) (fun hc => ex_lenK8 rfl rfl (ev s13 hc)) rfl hz (by decide) (fun Yj zz kk s14 => ?_)
  replace s2 := ku s2
  replace s3 := ku s3
  replace s11 := ku s11
  replace hz := zz
  clear kk zz s13 Yi
  refine vl _ (.pointer (some ⟨w.heap.size + 1, 11, none⟩)) (want_g rfl rfl s11) (fun hc => ex_fa rfl (ev s3 rfl) (faS11 _ _)) rfl hz (by decide) (fun Yk zz kk s15 => ?_)
  replace s2 := ku s2
  replace s3 := ku s3
  replace s11 := ku s11
  replace s14 := ku s14
  replace hz := zz
  clear kk zz Yj
  refine vl _ (.slice s.na s.N.length s.nc) (want_g rfl rfl s11) (fun hc => ex_ld rfl (ev s15 hc) (ldN8 (cell8 (HS.cell 11 _ rfl) hv0))) rfl hz (by decide) (fun Yl zz kk s16 => ?_)
  replace s2 := ku s2
  replace s3 := ku s3
  replace s11 := ku s11
  replace s14 := ku s14
  replace hz := zz
  clear kk zz s15 Yk
  refine vl _ (.int .i64 (s.N.length : Int)) (want_g rfl rfl s11) (fun hc => ex_lenN8 rfl rfl (ev s16 hc)) rfl hz (by decide) (fun Ym zz kk s17 => ?_)
  replace s2 := ku s2
  replace s3 := ku s3
  replace s11 := ku s11
  replace s14 := ku s14
  replace hz := zz
  clear kk zz s16 Yl
  refine vl _ (.int .i64 ((s.A.length : Int) + (s.N.length : Int))) (want_g rfl rfl s11) (fun hc => ex_bin rfl (ev s14 hc) (ev s17 hc) (addD8 _ _ (s.A.length : Int) (s.N.length : Int) ((s.A.length : Int) + (s.N.length : Int)) (by rw [IntKind.wrap_i64]; omega) _)) rfl hz (by decide) (fun Yn zz kk s18 => ?_)
  replace s2 := ku s2
  replace s3 := ku s3
  replace s11 := ku s11
  replace hz := zz
  clear kk zz s14 s17 Ym
  refine vl _ (.bool (decide (0 < ((s.A.length : Int) + (s.N.length : Int))))) (want_g rfl rfl s11) (fun hc => ex_bin rfl (ev s18 hc) rfl (gtrC _ _ _ _ _)) rfl hz (by decide) (fun Yo zz kk s19 => ?_)
  replace s2 := ku s2
  replace s3 := ku s3
  replace s11 := ku s11
  replace hz := zz
  clear kk zz s18 Yn
  refine vt (.bool ((decide (s.last = s.view)) || (decide (0 < ((s.A.length : Int) + (s.N.length : Int)))))) (ex_or rfl s11 s19 rfl) hz (fun Yp zz kk s20 => ?_)
  replace s2 := ku s2
  replace s3 := ku s3
  replace hz := zz
  clear kk zz s11 s19 Yo
  refine wpList_nil ?_
  go_upto_region 2 with fail
  cases e1 : ((decide (s.last = s.view)) || (decide (0 < ((s.A.length : Int) + (s.N.length : Int)))))
  rotate_left
  · refine wp_cond_true ((ev s20 rfl).trans (congrArg Value.bool e1)) ?_
    go_upto_region 2 with fail
    refine wp_region_lit ?_
    refine vt (.bool false) (ex_assign rfl rfl) hz (fun Yq zz kk s4 => ?_)
    replace hz := zz
    clear kk zz s2 s3 s20
    refine wpList_nil ?_
    go_wp2
    refine bodyPost_ret (results_tmp rfl _ _ _) rfl ⟨?_, hB.trans (hv0.mono (by omega))⟩
    rw [getD_of s4]
    rw [show s.chgB c = false from by unfold Sta.chgB; rw [e1]; rfl]
    rfl
  refine wp_cond_false ((ev s20 rfl).trans (congrArg Value.bool e1)) ?_
  clear s20
  go_upto_region 3 with fail
  refine wp_region_lit ?_
  refine vt (c.val) (ex_ld rfl (ev s2 rfl) (CB7.ld (HC.bel hv0))) hz (fun Yr zz kk s21 => ?_)
  replace s2 := ku s2
  replace s3 := ku s3
  replace hz := zz
  clear kk zz
  refine vt (s.val) (ex_ld rfl (ev s3 rfl) (SB7.ld (HS.bel hv0))) hz (fun Ys zz kk s22 => ?_)
  replace s2 := ku s2
  replace s3 := ku s3
  replace s21 := ku s21
  replace hz := zz
  clear kk zz Yr
  refine vcall true (.bool (decide (s.self = c.pr s.view))) (want_none rfl) (fun hc => ex_call rfl (by simp only [List.map_toArray, List.map_cons, List.map_nil, (ev s21 rfl), (ev s22 rfl), evc] <;> rfl) rfl) (fun hc => isprimary8 c s w2) rfl hz (by decide) (fun Yt x1 hb zz kk s23 => ?_)
  have hx1 := hv0.trans (hb.mono hv0.size)
  clear hb
  replace s2 := ku s2
  replace s3 := ku s3
  replace hz := zz
  clear kk zz s21 s22 Ys
  refine vt (.bool (!(decide (s.self = c.pr s.view)))) (ex_not rfl (ev s23 rfl)) hz (fun Yu zz kk s24 => ?_)
  replace s2 := ku s2
  replace s3 := ku s3
  replace hz := zz
  clear kk zz s23 Yt
  refine wpList_nil ?_
  go_upto_region 4 with fail
  cases e2 : (!(decide (s.self = c.pr s.view)))
  rotate_left
  · refine wp_cond_true ((ev s24 rfl).trans (congrArg Value.bool e2)) ?_
    go_upto_region 4 with fail
    refine wp_region_lit ?_
    refine vt (.pointer (some ⟨w.heap.size + 1, 10, none⟩)) (ex_fa rfl (ev s3 rfl) (faS10 _ _)) hz (fun Yv zz kk s25 => ?_)
    replace hz := zz
    clear kk zz s2 s3 s24
    refine vt (.slice s.ba s.B.length s.bc) (ex_ld rfl (ev s25 rfl) (ldB8 (cell8 (HS.cell 10 _ rfl) hx1))) hz (fun Yw zz kk s26 => ?_)
    replace hz := zz
    clear kk zz s25 Yv
    refine vt (.int .i64 (s.B.length : Int)) (ex_lenB8 rfl rfl (ev s26 rfl)) hz (fun Yx zz kk s27 => ?_)
    replace hz := zz
    clear kk zz s26 Yw
    refine vt (.bool (decide ((s.B.length : Int) = 0))) (ex_bin rfl (ev s27 rfl) rfl (eqlC _ _ _ _ _)) hz (fun Yy zz kk s28 => ?_)
    replace hz := zz
    clear kk zz s27 Yx
    refine vt _ (ex_assign rfl (ev s28 rfl)) hz (fun Yz zz kk s4 => ?_)
    replace hz := zz
    clear kk zz s28 Yy
    refine wpList_nil ?_
    go_wp2
    refine bodyPost_ret (results_tmp rfl _ _ _) rfl ⟨?_, hB.trans (hx1.mono (by omega))⟩
    rw [getD_of s4]
    rw [show s.chgB c = decide ((s.B.length : Int) = 0) from by unfold Sta.chgB; rw [e1, e2]; rfl]
    rfl
  refine wp_cond_false ((ev s24 rfl).trans (congrArg Value.bool e2)) ?_
  clear s24
  go_upto_region 5 with fail
  refine wp_region_lit ?_
  refine vt (.func (.func 215) #[] #[.pointer (some ⟨w.heap.size + 1, 0, none⟩)]) (ex_mkf8 rfl (ev s3 rfl)) hz (fun Y0 zz kk s29 => ?_)
  replace s2 := ku s2
  replace s3 := ku s3
  replace hz := zz
  clear kk zz
  refine vt _ (ex_assign rfl (ev s29 rfl)) hz (fun Y1 zz kk s5 => ?_)
  replace s2 := ku s2
  replace s3 := ku s3
  replace hz := zz
  clear kk zz s29 Y0
  refine wpList_nil ?_
  go_upto_region 6 with fail
  refine wp_region_lit ?_
  refine vt (.pointer (some ⟨w.heap.size + 1, 10, none⟩)) (ex_fa rfl (ev s3 rfl) (faS10 _ _)) hz (fun Y2 zz kk s30 => ?_)
  replace s2 := ku s2
  replace s3 := ku s3
  replace s5 := ku s5
  replace hz := zz
  clear kk zz
  refine vt (.slice s.ba s.B.length s.bc) (ex_ld rfl (ev s30 rfl) (ldB8 (cell8 (HS.cell 10 _ rfl) hx1))) hz (fun Y3 zz kk s31 => ?_)
  replace s2 := ku s2
  replace s3 := ku s3
  replace s5 := ku s5
  replace hz := zz
  clear kk zz s30 Y2
  refine vt (.int .i64 (s.B.length : Int)) (ex_lenB8 rfl rfl (ev s31 rfl)) hz (fun Y4 zz kk s32 => ?_)
  replace s2 := ku s2
  replace s3 := ku s3
  replace s5 := ku s5
  replace hz := zz
  clear kk zz s31 Y3
  refine vt (.pointer (some ⟨w.heap.size, 0, none⟩)) (ex_fa rfl (ev s2 rfl) (faC0 _ _)) hz (fun Y5 zz kk s33 => ?_)
  replace s3 := ku s3
  replace s5 := ku s5
  replace s32 := ku s32
  replace hz := zz
  clear kk zz s2 Y4
  refine vt (.int .i64 c.F) (ex_ld rfl (ev s33 rfl) (ldI8 (cell8 (HC.cell 0 _ rfl) hx1))) hz (fun Y6 zz kk s34 => ?_)
  replace s3 := ku s3
  replace s5 := ku s5
  replace s32 := ku s32
  replace hz := zz
  clear kk zz s33 Y5
  refine vt (.bool (decide ((s.B.length : Int) < c.F))) (ex_bin rfl (ev s32 rfl) (ev s34 rfl) (lssC _ _ _ _ _)) hz (fun Y7 zz kk s35 => ?_)
  replace s3 := ku s3
  replace s5 := ku s5
  replace hz := zz
  clear kk zz s32 s34 Y6
  refine vt _ (ex_move rfl (ev s35 rfl)) hz (fun Y8 zz kk s36 => ?_)
  replace s3 := ku s3
  replace s5 := ku s5
  replace hz := zz
  clear kk zz s35 Y7
  refine vl _ (.pointer (some ⟨w.heap.size + 1, 10, none⟩)) (want_g rfl rfl s36) (fun hc => ex_fa rfl (ev s3 rfl) (faS10 _ _)) rfl hz (by decide) (fun Y9 zz kk s37 => ?_)
  replace s5 := ku s5
  replace s36 := ku s36
  replace hz := zz
  clear kk zz s3 Y8
  refine vl _ (.slice s.ba s.B.length s.bc) (want_g rfl rfl s36) (fun hc => ex_ld rfl (ev s37 hc) (ldB8 (cell8 (HS.cell 10 _ rfl) hx1))) rfl hz (by decide) (fun Yba zz kk s38 => ?_)
  replace s5 := ku s5
  replace s36 := ku s36
  replace hz := zz
  clear kk zz s37 Y9
  refine vl _ _ (want_g rfl rfl s36) (fun hc => ex_move rfl (ev s5 rfl)) rfl hz (by decide) (fun Ybb zz kk s39 => ?_)
  replace s36 := ku s36
  replace s38 := ku s38
  replace hz := zz
  clear kk zz s5 Yba
  refine vcall (true && ((decide ((s.B.length : Int) < c.F)) == true)) (.bool (decide (0 ≤ ix (fun b => decide (s.view ≤ b.v)) s.B))) (want_g rfl rfl s36) (fun hc => ex_call rfl (by simp only [List.map_toArray, List.map_cons, List.map_nil, (ev s38 hc), (ev s39 hc), evc] <;> rfl) rfl) (fun hc => Bl.contains_any (fun b => decide (s.view ≤ b.v)) 215 #[.pointer (some ⟨w.heap.size + 1, 0, none⟩)] (enters_of Tryz.func215 (by kernel_rfl) rfl) s.B s.ba _ s.bc x1 (HI.b.later hx1) (fun W x hW => bel8 hW (late8 x s (w.heap.size + 1) W ((HS.bel hx1).bel hW)) hW.size)) rfl hz (by decide) (fun Ybc x2 hb zz kk s40 => ?_)
  have hx2 := hx1.trans (hb.mono hx1.size)
  clear hb
  replace s36 := ku s36
  replace hz := zz
  clear kk zz s38 s39 Ybb
  refine vl _ (.bool (!(decide (0 ≤ ix (fun b => decide (s.view ≤ b.v)) s.B)))) (want_g rfl rfl s36) (fun hc => ex_not rfl (ev s40 hc)) rfl hz (by decide) (fun Ybd zz kk s41 => ?_)
  replace s36 := ku s36
  replace hz := zz
  clear kk zz s40 Ybc
  refine vt (.bool ((decide ((s.B.length : Int) < c.F)) && (!(decide (0 ≤ ix (fun b => decide (s.view ≤ b.v)) s.B))))) (ex_and rfl s36 s41 rfl) hz (fun Ybe zz kk s42 => ?_)
  replace hz := zz
  clear kk zz s36 s41 Ybd
  refine vt _ (ex_assign rfl (ev s42 rfl)) hz (fun Ybf zz kk s4 => ?_)
  replace hz := zz
  clear kk zz s42 Ybe
  refine wpList_nil ?_
  go_wp2
  refine bodyPost_ret (results_tmp rfl _ _ _) rfl ⟨?_, hB.trans (hx2.mono (by omega))⟩
  rw [getD_of s4]
  unfold Sta.chgB
  rw [e1, e2]
  rfl
set_option maxHeartbeats 1000000 in
theorem keeps8 (c : Cg) (s : Sta) (w : World) (hI : s.In w) (hF : s.Fit) (hs : 0 ≤ s.self ∧ s.self < (s.V.length : Int)) : Calls Tryz.prog 122 #[c.val, s.val] w fun e w' => e = .returned (.bool (s.kpB c)) ∧ Below w.heap.size w w' := by
  go_enter Tryz.func122, Tryz.ntmps122
  go_upto_region 0 with fail
  refine wp_region_lit ?_
  refine vl_gen (fun T => T.size = 21 ∧ T[0]? = some (gw true (c.val)) ∧ T[1]? = some (gw true (s.val))) ⟨rfl, rfl, rfl⟩ (fun Z0 ⟨hz, s0, s1⟩ => ?_)
  obtain ⟨w1, hw1⟩ : ∃ y, y = w.alloc (.cells c.cs.toArray 23) := ⟨_, rfl⟩
  have hb : Below w.heap.size w w1 := by rw [hw1]; exact (Below.refl _ _).alloc (Nat.le_refl _) _
  have hs1 : w1.heap.size = w.heap.size + 1 := by rw [hw1]; simp
  have HC : CB7 w1 (w.heap.size) c := by rw [hw1]; exact BX7.new _ _ _
  refine vw (.pointer (some ⟨w.heap.size, 0, none⟩)) w1 (want_none rfl) (ex_box8 rfl (ev s0 rfl) (by rw [hw1]; exact bxC7 _ _)) rfl hz (by decide) (fun Z1 zz kk s2x => ?_)
  replace s1 := ku s1
  clear kk hz s0 hw1
  have hz := zz
  have s2 := s2x
  clear zz s2x
  have hB := hb
  clear hb
  obtain ⟨w2, hw2⟩ : ∃ y, y = w1.alloc (.cells s.cs.toArray 36) := ⟨_, rfl⟩
  have hb : Below w1.heap.size w1 w2 := by rw [hw2]; exact (Below.refl _ _).alloc (Nat.le_refl _) _
  have hs2 : w2.heap.size = w.heap.size + 2 := by rw [hw2]; simp; omega
  have HS : SB7 w2 (w.heap.size + 1) s := by rw [hw2, ← hs1]; exact BX7.new _ _ _
  refine vw (.pointer (some ⟨w.heap.size + 1, 0, none⟩)) w2 (want_none rfl) (ex_box8 rfl (ev s1 rfl) (by rw [hw2, ← hs1]; exact bxS7 _ _)) rfl hz (by decide) (fun Z2 zz kk s3x => ?_)
  replace s2 := ku s2
  clear kk hz s1 hw2
  have hz := zz
  have s3 := s3x
  clear zz s3x
  have hB := hB.trans (hb.mono (by omega))
  have HC := HC.bel hb
  clear hb
  have hv0 : Below w2.heap.size w2 w2 := Below.refl _ _
  have HI := hI.later hB
  have f1 := hF.al
  have f2 := hF.ml
  have f3 := hF.bl
  have f4 := hF.nl
  refine vt (.bool false) (ex_assign rfl rfl) hz (fun Ya zz kk s4 => ?_)
  replace s2 := ku s2
  replace s3 := ku s3
  replace hz := zz
  clear kk zz
  clear s4
  refine wpList_nil ?_
  go_upto_region 1 with fail
  refine wp_region_lit ?_
  refine vt (.pointer (some ⟨w.heap.size + 1, 1, none⟩)) (ex_fa rfl (ev s3 rfl) (faS1 _ _)) hz (fun Yb zz kk s5 => ?_)
  replace s2 := ku s2
  replace s3 := ku s3
  replace hz := zz
  clear kk zz
  refine vt (.int .i64 s.st) (ex_ld rfl (ev s5 rfl) (ldT8 (cell8 (HS.cell 1 _ rfl) hv0))) hz (fun Yc zz kk s6 => ?_)
  replace s2 := ku s2
  replace s3 := ku s3
  replace hz := zz
  clear kk zz s5 Yb
  refine wpList_nil ?_
  go_upto_region 2 with fail
  refine wp_region_lit ?_
  refine vt (.bool (decide (s.st = 1))) (ex_bin rfl (ev s6 rfl) rfl (eqlT8 _ _ _ _ _)) hz (fun Yd zz kk s8 => ?_)
  replace s2 := ku s2
  replace s3 := ku s3
  replace s6 := ku s6
  replace hz := zz
  clear kk zz
  refine vt _ (ex_assign rfl (ev s8 rfl)) hz (fun Ye zz kk s7 => ?_)
  replace s2 := ku s2
  replace s3 := ku s3
  replace s6 := ku s6
  replace hz := zz
  clear kk zz s8 Yd
  refine wpList_nil ?_
  go_upto_region 3 with fail
  cases e1 : decide (s.st = 1)
  rotate_left
  · refine wp_cond_true ((ev s7 rfl).trans (congrArg Value.bool e1)) ?_
    go_upto_region 3 with fail
    refine wp_region_lit ?_
    refine vt (c.val) (ex_ld rfl (ev s2 rfl) (CB7.ld (HC.bel hv0))) hz (fun Yf zz kk s9 => ?_)
    replace s3 := ku s3
    replace hz := zz
    clear kk zz s2 s6 s7
    refine vt (s.val) (ex_ld rfl (ev s3 rfl) (SB7.ld (HS.bel hv0))) hz (fun Yg zz kk s10 => ?_)
    replace s9 := ku s9
    replace hz := zz
    clear kk zz s3 Yf
    refine vcall true (.bool (s.norB c)) (want_none rfl) (fun hc => ex_call rfl (by simp only [List.map_toArray, List.map_cons, List.map_nil, (ev s9 rfl), (ev s10 rfl), evc] <;> rfl) rfl) (fun hc => normal8 c s w2 (HI.later hv0) hF) rfl hz (by decide) (fun Yh x1 hb zz kk s11 => ?_)
    have hx1 := hv0.trans (hb.mono hv0.size)
    clear hb
    replace hz := zz
    clear kk zz s9 s10 Yg
    refine vt _ (ex_assign rfl (ev s11 rfl)) hz (fun Yi zz kk s4 => ?_)
    replace hz := zz
    clear kk zz s11 Yh
    refine wpList_nil ?_
    go_wp2
    refine bodyPost_ret (results_tmp rfl _ _ _) rfl ⟨?_, hB.trans (hx1.mono (by omega))⟩
    rw [getD_of s4]
    unfold Sta.kpB
    rw [e1]
    rfl
  refine wp_cond_false ((ev s7 rfl).trans (congrArg Value.bool e1)) ?_
  clear s7
  go_upto_region 4 with fail
  refine wp_region_lit ?_
  refine vt (.bool (decide (s.st = 2))) (ex_bin rfl (ev s6 rfl) rfl (eqlT8 _ _ _ _ _)) hz (fun Yj zz kk s13 => ?_)
  replace s2 := ku s2
  replace s3 := ku s3
  replace s6 := ku s6
  replace hz := zz
  clear kk zz
  refine vt _ (ex_assign rfl (ev s13 rfl)) hz (fun Yk zz kk s12 => ?_)
  replace s2 := ku s2
  replace s3 := ku s3
  replace s6 := ku s6
  replace hz := zz
  clear kk zz s13 Yj
  refine wpList_nil ?_
  go_upto_region 5 with fail
  cases e2 : decide (s.st = 2)
  rotate_left
  · refine wp_cond_true ((ev s12 rfl).trans (congrArg Value.bool e2)) ?_
    go_upto_region 5 with fail
    refine wp_region_lit ?_
    refine vt (c.val) (ex_ld rfl (ev s2 rfl) (CB7.ld (HC.bel hv0))) hz (fun Yl zz kk s14 => ?_)
    replace s3 := ku s3
    replace hz := zz
    clear kk zz s2 s6 s12
    refine vt (s.val) (ex_ld rfl (ev s3 rfl) (SB7.ld (HS.bel hv0))) hz (fun Ym zz kk s15 => ?_)
    replace s14 := ku s14
    replace hz := zz
    clear kk zz s3 Yl
    refine vcall true (.bool (s.chgB c)) (want_none rfl) (fun hc => ex_call rfl (by simp only [List.map_toArray, List.map_cons, List.map_nil, (ev s14 rfl), (ev s15 rfl), evc] <;> rfl) rfl) (fun hc => changing8 c s w2 (HI.later hv0) hF) rfl hz (by decide) (fun Yn x2 hb zz kk s16 => ?_)
    have hx2 := hv0.trans (hb.mono hv0.size)
    clear hb
    replace hz := zz
    clear kk zz s14 s15 Ym
    refine vt _ (ex_assign rfl (ev s16 rfl)) hz (fun Yo zz kk s4 => ?_)
    replace hz := zz
    clear kk zz s16 Yn
    refine wpList_nil ?_
    go_wp2
    refine bodyPost_ret (results_tmp rfl _ _ _) rfl ⟨?_, hB.trans (hx2.mono (by omega))⟩
    rw [getD_of s4]
    unfold Sta.kpB
    rw [e1, e2]
    rfl
  refine wp_cond_false ((ev s12 rfl).trans (congrArg Value.bool e2)) ?_
  clear s12
  go_upto_region 6 with fail
  refine wp_region_lit ?_
  refine vt (.bool (decide (s.st = 3))) (ex_bin rfl (ev s6 rfl) rfl (eqlT8 _ _ _ _ _)) hz (fun Yp zz kk s18 => ?_)
  replace s2 := ku s2
  replace s3 := ku s3
  replace s6 := ku s6
  replace hz := zz
  clear kk zz
  refine vt _ (ex_assign rfl (ev s18 rfl)) hz (fun Yq zz kk s17 => ?_)
  replace s2 := ku s2
  replace s3 := ku s3
  replace s6 := ku s6
  replace hz := zz
  clear kk zz s18 Yp
  refine wpList_nil ?_
  go_upto_region 7 with fail
  cases e3 : decide (s.st = 3)
  rotate_left
  · refine wp_cond_true ((ev s17 rfl).trans (congrArg Value.bool e3)) ?_
    go_upto_region 7 with fail
    refine wp_region_lit ?_
    refine vt (s.val) (ex_ld rfl (ev s3 rfl) (SB7.ld (HS.bel hv0))) hz (fun Yr zz kk s19 => ?_)
    replace hz := zz
    clear kk zz s2 s3 s6 s17
    refine vcall true (.bool s.recB) (want_none rfl) (fun hc => ex_call rfl (by simp only [List.map_toArray, List.map_cons, List.map_nil, (ev s19 rfl), evc] <;> rfl) rfl) (fun hc => recovering8 s w2 (HI.later hv0) hF hs) rfl hz (by decide) (fun Ys x3 hb zz kk s20 => ?_)
    have hx3 := hv0.trans (hb.mono hv0.size)
    clear hb
    replace hz := zz
    clear kk zz s19 Yr
    refine vt _ (ex_assign rfl (ev s20 rfl)) hz (fun Yt zz kk s4 => ?_)
    replace hz := zz
    clear kk zz s20 Ys
    refine wpList_nil ?_
    go_wp2
    refine bodyPost_ret (results_tmp rfl _ _ _) rfl ⟨?_, hB.trans (hx3.mono (by omega))⟩
    rw [getD_of s4]
    unfold Sta.kpB
    rw [e1, e2, e3]
    rfl
  refine wp_cond_false ((ev s17 rfl).trans (congrArg Value.bool e3)) ?_
  clear s17
  go_upto_region 8 with fail
  refine wp_region_lit ?_
  refine vt (.bool false) (ex_assign rfl rfl) hz (fun Yu zz kk s4 => ?_)
  replace hz := zz
  clear kk zz s2 s3 s6
  refine wpList_nil ?_
  go_wp2
  refine bodyPost_ret (results_tmp rfl _ _ _) rfl ⟨?_, hB.trans (hv0.mono (by omega))⟩
  rw [getD_of s4]
  unfold Sta.kpB
  rw [e1, e2, e3]
  rfl
theorem vh_store8 {ops : Array Oper} {o : Oper} {T : Array Value} {df : List Deferred} {w : World} {Q : Exit → Act → World → Prop} {S : World → Prop} {fuel : Nat} {listed : Array Bool} (i : Nat) (w' : World) (hi : ops[i]? = some o) (hr : Region.ready .any ops listed = [i])
    (hw : Region.wanted o (yielded ops T) = true) (he : (execOp (⟨T, df⟩ : Act).eval o).run Tryz.prog w = .ok .skip w') (hd : o.dst = none) (hS : S w')
    (hk : VH ops Q S fuel (listed.setIfInBounds i true) ⟨T, df⟩ w') : VH ops Q S (fuel + 1) listed ⟨T, df⟩ w := by
  refine ⟨wpAnyH_all hr (by simp) (fun j hj => ?_)⟩
  obtain rfl : j = i := by simpa using hj
  unfold wpOp
  rw [hi]
  simp only [hw, if_true]
  refine .inl ?_
  unfold Oper.wp
  rw [he, Oper.upon_skip]
  refine ⟨hS, ?_⟩
  rw [hd]
  exact hk.out
theorem vh_val8 {ops : Array Oper} {o : Oper} {T : Array Value} {df : List Deferred} {w : World} {Q : Exit → Act → World → Prop} {S : World → Prop} {fuel d n : Nat} {listed : Array Bool} (i : Nat) (V : Value) (w' : World) (hi : ops[i]? = some o) (hr : Region.ready .any ops listed = [i])
    (hw : Region.wanted o (yielded ops T) = true) (he : (execOp (⟨T, df⟩ : Act).eval o).run Tryz.prog w = .ok (.value V) w') (hd : o.dst = some d) (hz : T.size = n) (hn : d < n) (hS : S w')
    (hk : ∀ T' : Array Value, T'.size = n → (∀ j, j ≠ d → T'[j]? = T[j]?) → T'[d]? = some (gw true V) → VH ops Q S fuel (listed.setIfInBounds i true) ⟨T', df⟩ w') : VH ops Q S (fuel + 1) listed ⟨T, df⟩ w := by
  refine ⟨wpAnyH_all hr (by simp) (fun j hj => ?_)⟩
  obtain rfl : j = i := by simpa using hj
  unfold wpOp
  rw [hi]
  simp only [hw, if_true]
  unfold Oper.wp
  rw [he]
  simp only [Oper.upon]
  rw [hd]
  exact .inl ⟨hS, (hk (T.setIfInBounds d V) (by simp [hz]) (fun i hi => at_set_ne _ hi) (at_set _ (by omega))).out⟩
theorem ex_buildP {o : Oper} {ρ : Operand → Value} {s : TypeId} {ps : Array (Nat × Operand)} {P : Array (Nat × Value)} {V : Value} {w : World} (ho : o.op = .build s ps) (hp : ps.map (fun (i, x) => (i, ρ x)) = P) (hr : (Instr.build s P).run Tryz.prog w = .ok V w) : (execOp ρ o).run Tryz.prog w = .ok (.value V) w := by
  unfold execOp
  simp only [ho, hp, Sem.run_bind, hr, Result.andThen_ok]
  rfl
def UQ8 (q : Nat) (w v : World) : Prop := ∃ u, Below w.heap.size w u ∧ Upd (fun k => k = q) u v
def nil4 : List Value := [.slice none 0 0, .slice none 0 0, .slice none 0 0, .slice none 0 0]
theorem al4 (w : World) : (Instr.alloc 227 true (.tuple #[])).run Tryz.prog w = .ok (.pointer (some ⟨w.heap.size, 0, none⟩)) (w.alloc (.cells nil4.toArray 227)) := by
  go_simp
  first | done | rfl
theorem bd4 (a0 a1 a2 a3 : Option Addr) (n0 n1 n2 n3 c0 c1 c2 c3 : Nat) (w : World) : (Instr.build 227 #[(0, .slice a0 n0 c0), (1, .slice a1 n1 c1), (2, .slice a2 n2 c2), (3, .slice a3 n3 c3)]).run Tryz.prog w = .ok (.agg #[.slice a0 n0 c0, .slice a1 n1 c1, .slice a2 n2 c2, .slice a3 n3 c3]) w := by
  go_simp
def put4 (w : World) (q : Nat) (a b c d : Value) : World := (((w.setCell ⟨q, 0, none⟩ a).setCell ⟨q, 1, none⟩ b).setCell ⟨q, 2, none⟩ c).setCell ⟨q, 3, none⟩ d
theorem put4_upd (w : World) (q : Nat) (a b c d : Value) : Upd (fun k => k = q) w (put4 w q a b c d) :=
  ((((Upd.refl (fun k => k = q) w).setCell (p := ⟨q, 0, none⟩) (.inl rfl) _).setCell (p := ⟨q, 1, none⟩) (.inl rfl) _).setCell (p := ⟨q, 2, none⟩) (.inl rfl) _).setCell (p := ⟨q, 3, none⟩) (.inl rfl) _
theorem BX7.put4 {w : World} {q : Nat} (h : BX7 w q nil4) (a b c d : Value) : BX7 (put4 w q a b c d) q [a, b, c, d] :=
  (((h.set (j := 0) (by simp [nil4]) a).set (j := 1) (by simp [nil4]) b).set (j := 2) (by simp [nil4]) c).set (j := 3) (by simp [nil4]) d
theorem st4 {w : World} {q : Nat} (h : BX7 w q nil4) (a b c d : Value) (ha : ∃ x n k, a = .slice x n k) (hb : ∃ x n k, b = .slice x n k) (hc : ∃ x n k, c = .slice x n k) (hd : ∃ x n k, d = .slice x n k) : (Instr.storeAt 227 (.pointer (some ⟨q, 0, none⟩)) (.agg #[a, b, c, d])).run Tryz.prog w = .ok () (put4 w q a b c d) := by
  obtain ⟨a0, n0, k0, rfl⟩ := ha
  obtain ⟨a1, n1, k1, rfl⟩ := hb
  obtain ⟨a2, n2, k2, rfl⟩ := hc
  obtain ⟨a3, n3, k3, rfl⟩ := hd
  have c0 := h.cell 0 _ rfl
  have c1 := h.cell 1 _ rfl
  have c2 := h.cell 2 _ rfl
  have c3 := h.cell 3 _ rfl
  have f0 := h.free 0
  have f1 := h.free 1
  have f2 := h.free 2
  have f3 := h.free 3
  unfold put4
  go_simp
  first | done | rfl
set_option maxHeartbeats 1000000 in
theorem voters8 (s : Sta) (w : World) (hI : s.In w) (hF : s.Fit) : Calls Tryz.prog 169 #[s.val] w fun e w' => ∃ g0 g1 g2 g3, e = .returned (.agg #[.slice (some ⟨g0, 0, none⟩) s.A.length s.A.length, .slice (some ⟨g1, 0, none⟩) s.M.length s.M.length, .slice (some ⟨g2, 0, none⟩) s.B.length s.B.length, .slice (some ⟨g3, 0, none⟩) s.N.length s.N.length]) ∧ SlY ySt w' (some ⟨g0, 0, none⟩) s.A.length s.A.length (s.A.map Ak.sm) ∧ SlY ySt w' (some ⟨g1, 0, none⟩) s.M.length s.M.length (s.M.map Mk.sm) ∧ SlY ySt w' (some ⟨g2, 0, none⟩) s.B.length s.B.length (s.B.map Bl.sm) ∧ SlY ySt w' (some ⟨g3, 0, none⟩) s.N.length s.N.length (s.N.map An.sm) ∧ Below w.heap.size w w' := by
  go_enter Tryz.func169, Tryz.ntmps169
  go_upto_region 0 with fail
  refine wp_region_lit ?_
  refine vl_gen (fun T => T.size = 16 ∧ T[0]? = some (gw true (s.val))) ⟨rfl, rfl⟩ (fun Z0 ⟨hz, s0⟩ => ?_)
  obtain ⟨w1, hw1⟩ : ∃ y, y = w.alloc (.cells s.cs.toArray 36) := ⟨_, rfl⟩
  have hb : Below w.heap.size w w1 := by rw [hw1]; exact (Below.refl _ _).alloc (Nat.le_refl _) _
  have hs1 : w1.heap.size = w.heap.size + 1 := by rw [hw1]; simp
  have HS : SB7 w1 (w.heap.size) s := by rw [hw1]; exact BX7.new _ _ _
  refine vw (.pointer (some ⟨w.heap.size, 0, none⟩)) w1 (want_none rfl) (ex_box8 rfl (ev s0 rfl) (by rw [hw1]; exact bxS7 _ _)) rfl hz (by decide) (fun Z1 zz kk s1x => ?_)
  clear kk hz s0 hw1
  have hz := zz
  have s1 := s1x
  clear zz s1x
  have hB := hb
  clear hb
  have hv0 : Below w1.heap.size w1 w1 := Below.refl _ _
  obtain ⟨w2, hw2⟩ : ∃ y, y = w1.alloc (.cells nil4.toArray 227) := ⟨_, rfl⟩
  have hb : Below w1.heap.size w1 w2 := by rw [hw2]; exact (Below.refl _ _).alloc (Nat.le_refl _) _
  have HA : BX7 w2 (w.heap.size + 1) nil4 := by rw [hw2, ← hs1]; exact BX7.new _ _ _
  refine vw (.pointer (some ⟨w.heap.size + 1, 0, none⟩)) w2 (want_none rfl) (ex_al rfl (by rw [hw2, ← hs1]; exact al4 _)) rfl hz (by decide) (fun Ya zz kk s2 => ?_)
  replace s1 := ku s1
  replace hz := zz
  clear kk zz
  refine wpList_nil ?_
  have hB := hB.trans (hb.mono (by omega))
  have HS := HS.bel hb
  have HI := hI.later hB
  have hS : Below w2.heap.size w2 w2.drew := (Below.refl _ _).drew
  clear hv0 hb hw2
  have hz2 := hB.size
  go_upto_region 1 with fail
  refine vh_start (fun v => Below w2.heap.size w2 v ∨ UQ8 (w.heap.size + 1) w2 v) (by kernel_rfl) ?_
  have HH : ∀ v, (Below w2.heap.size w2 v ∨ UQ8 (w.heap.size + 1) w2 v) → Upd (fun k => k = w.heap.size + 1) w2 v := fun v h => h.elim (fun h => Upd.of_below h) (fun ⟨u, h1, h2⟩ => (Upd.of_below h1).trans h2)
  refine vh_take 0 true (.pointer (some ⟨w.heap.size, 8, none⟩)) rfl (by kernel_rfl) (by kernel_rfl) (by kernel_rfl) (want_none rfl) (fun hc v hv => ex_fa rfl (ev s1 rfl) (faS8 _ _)) rfl hz (by decide) (.inl hS) (fun Yb zz kk s3 => ?_)
  replace s1 := ku s1
  replace s2 := ku s2
  replace hz := zz
  clear kk zz
  refine vh_take 1 true (.slice s.ka s.A.length s.kc) rfl (by kernel_rfl) (by kernel_rfl) (by kernel_rfl) (want_none rfl) (fun hc v hv => ex_ld rfl (ev s3 rfl) (ldK8 ((HS.upd (HH v hv) (by show ¬ w.heap.size = w.heap.size + 1; omega)).cell 8 _ rfl))) rfl hz (by decide) (.inl hS) (fun Yc zz kk s4 => ?_)
  replace s1 := ku s1
  replace s2 := ku s2
  replace hz := zz
  clear kk zz s3 Yb
  refine vh_take 3 true (.pointer (some ⟨w.heap.size, 9, none⟩)) rfl (by kernel_rfl) (by kernel_rfl) (by kernel_rfl) (want_none rfl) (fun hc v hv => ex_fa rfl (ev s1 rfl) (faS9 _ _)) rfl hz (by decide) (.inl hS) (fun Yd zz kk s6 => ?_)
  replace s1 := ku s1
  replace s2 := ku s2
  replace s4 := ku s4
  replace hz := zz
  clear kk zz Yc
  refine vh_take 4 true (.slice s.ma s.M.length s.mc) rfl (by kernel_rfl) (by kernel_rfl) (by kernel_rfl) (want_none rfl) (fun hc v hv => ex_ld rfl (ev s6 rfl) (ldM8 ((HS.upd (HH v hv) (by show ¬ w.heap.size = w.heap.size + 1; omega)).cell 9 _ rfl))) rfl hz (by decide) (.inl hS) (fun Ye zz kk s7 => ?_)
  replace s1 := ku s1
  replace s2 := ku s2
  replace s4 := ku s4
  replace hz := zz
  clear kk zz s6 Yd
  refine vh_take 6 true (.pointer (some ⟨w.heap.size, 10, none⟩)) rfl (by kernel_rfl) (by kernel_rfl) (by kernel_rfl) (want_none rfl) (fun hc v hv => ex_fa rfl (ev s1 rfl) (faS10 _ _)) rfl hz (by decide) (.inl hS) (fun Yf zz kk s9 => ?_)
  replace s1 := ku s1
  replace s2 := ku s2
  replace s4 := ku s4
  replace s7 := ku s7
  replace hz := zz
  clear kk zz Ye
  refine vh_take 7 true (.slice s.ba s.B.length s.bc) rfl (by kernel_rfl) (by kernel_rfl) (by kernel_rfl) (want_none rfl) (fun hc v hv => ex_ld rfl (ev s9 rfl) (ldB8 ((HS.upd (HH v hv) (by show ¬ w.heap.size = w.heap.size + 1; omega)).cell 10 _ rfl))) rfl hz (by decide) (.inl hS) (fun Yg zz kk s10 => ?_)
  replace s1 := ku s1
  replace s2 := ku s2
  replace s4 := ku s4
  replace s7 := ku s7
  replace hz := zz
  clear kk zz s9 Yf
  refine vh_take 9 true (.pointer (some ⟨w.heap.size, 11, none⟩)) rfl (by kernel_rfl) (by kernel_rfl) (by kernel_rfl) (want_none rfl) (fun hc v hv => ex_fa rfl (ev s1 rfl) (faS11 _ _)) rfl hz (by decide) (.inl hS) (fun Yh zz kk s12 => ?_)
  replace s2 := ku s2
  replace s4 := ku s4
  replace s7 := ku s7
  replace s10 := ku s10
  replace hz := zz
  clear kk zz s1 Yg
  refine vh_take 10 true (.slice s.na s.N.length s.nc) rfl (by kernel_rfl) (by kernel_rfl) (by kernel_rfl) (want_none rfl) (fun hc v hv => ex_ld rfl (ev s12 rfl) (ldN8 ((HS.upd (HH v hv) (by show ¬ w.heap.size = w.heap.size + 1; omega)).cell 11 _ rfl))) rfl hz (by decide) (.inl hS) (fun Yi zz kk s13 => ?_)
  replace s2 := ku s2
  replace s4 := ku s4
  replace s7 := ku s7
  replace s10 := ku s10
  replace hz := zz
  clear kk zz s12 Yh
  refine vh_call 2 rfl (by kernel_rfl) (want_none rfl) (ex_call rfl (by simp only [List.map_toArray, List.map_cons, List.map_nil, (ev s4 rfl), evc] <;> rfl) rfl) (Ak.stamps_any s.A s.ka _ s.kc w2.drew (HI.a.later hS) (by have := hF.al; omega)) rfl hz (by decide) ?_
  rintro e x1 ⟨rfl, o0, b0⟩; have hS := hS.trans (b0.mono hS.size); have zq0 := hS.size
  refine ⟨_, rfl, (.inl hS), fun Yj zz kk s5 => ?_⟩
  clear b0
  replace s2 := ku s2
  replace s7 := ku s7
  replace s10 := ku s10
  replace s13 := ku s13
  replace hz := zz
  clear kk zz s4 Yi
  refine vh_call 5 rfl (by kernel_rfl) (want_none rfl) (ex_call rfl (by simp only [List.map_toArray, List.map_cons, List.map_nil, (ev s7 rfl), evc] <;> rfl) rfl) (Mk.stamps_any s.M s.ma _ s.mc x1 (HI.m.later hS) (by have := hF.ml; omega)) rfl hz (by decide) ?_
  rintro e x2 ⟨rfl, o1, b1⟩; have hS := hS.trans (b1.mono hS.size); have zq1 := hS.size; have o0 := o0.grow b1
  refine ⟨_, rfl, (.inl hS), fun Yk zz kk s8 => ?_⟩
  clear b1
  replace s2 := ku s2
  replace s5 := ku s5
  replace s10 := ku s10
  replace s13 := ku s13
  replace hz := zz
  clear kk zz s7 Yj
  refine vh_call 8 rfl (by kernel_rfl) (want_none rfl) (ex_call rfl (by simp only [List.map_toArray, List.map_cons, List.map_nil, (ev s10 rfl), evc] <;> rfl) rfl) (Bl.stamps_any s.B s.ba _ s.bc x2 (HI.b.later hS) (by have := hF.bl; omega)) rfl hz (by decide) ?_
  rintro e x3 ⟨rfl, o2, b2⟩; have hS := hS.trans (b2.mono hS.size); have zq2 := hS.size; have o0 := o0.grow b2; have o1 := o1.grow b2
  refine ⟨_, rfl, (.inl hS), fun Yl zz kk s11 => ?_⟩
  clear b2
  replace s2 := ku s2
  replace s5 := ku s5
  replace s8 := ku s8
  replace s13 := ku s13
  replace hz := zz
  clear kk zz s10 Yk
  refine vh_call 11 rfl (by kernel_rfl) (want_none rfl) (ex_call rfl (by simp only [List.map_toArray, List.map_cons, List.map_nil, (ev s13 rfl), evc] <;> rfl) rfl) (An.stamps_any s.N s.na _ s.nc x3 (HI.n.later hS) (by have := hF.nl; omega)) rfl hz (by decide) ?_
  rintro e x4 ⟨rfl, o3, b3⟩; have hS := hS.trans (b3.mono hS.size); have zq3 := hS.size; have o0 := o0.grow b3; have o1 := o1.grow b3; have o2 := o2.grow b3
  refine ⟨_, rfl, (.inl hS), fun Ym zz kk s14 => ?_⟩
  clear b3
  replace s2 := ku s2
  replace s5 := ku s5
  replace s8 := ku s8
  replace s11 := ku s11
  replace hz := zz
  clear kk zz s13 Yl
  refine vh_take 12 true (.agg #[.slice (some ⟨w2.drew.heap.size, 0, none⟩) s.A.length s.A.length, .slice (some ⟨x1.heap.size, 0, none⟩) s.M.length s.M.length, .slice (some ⟨x2.heap.size, 0, none⟩) s.B.length s.B.length, .slice (some ⟨x3.heap.size, 0, none⟩) s.N.length s.N.length]) rfl (by kernel_rfl) (by kernel_rfl) (by kernel_rfl) (want_none rfl) (fun hc v hv => ex_buildP rfl (by simp only [List.map_toArray, List.map_cons, List.map_nil, (ev s5 rfl), (ev s8 rfl), (ev s11 rfl), (ev s14 rfl)] <;> rfl) (bd4 _ _ _ _ _ _ _ _ _ _ _ _ _)) rfl hz (by decide) (.inl hS) (fun Yn zz kk s15 => ?_)
  replace s2 := ku s2
  replace hz := zz
  clear kk zz s5 s8 s11 s14 Ym
  refine vh_store8 13 (put4 x4 (w.heap.size + 1) (.slice (some ⟨w2.drew.heap.size, 0, none⟩) s.A.length s.A.length) (.slice (some ⟨x1.heap.size, 0, none⟩) s.M.length s.M.length) (.slice (some ⟨x2.heap.size, 0, none⟩) s.B.length s.B.length) (.slice (some ⟨x3.heap.size, 0, none⟩) s.N.length s.N.length)) rfl (by kernel_rfl) (want_none rfl) (ex_st rfl (ev s2 rfl) (ev s15 rfl) (st4 (HA.bel hS) _ _ _ _ ⟨_, _, _, rfl⟩ ⟨_, _, _, rfl⟩ ⟨_, _, _, rfl⟩ ⟨_, _, _, rfl⟩)) rfl (.inr ⟨_, hS, put4_upd _ _ _ _ _ _⟩) ?_
  refine vh_done (by kernel_rfl) ?_
  clear s15
  have HP := (HA.bel hS).put4 (.slice (some ⟨w2.drew.heap.size, 0, none⟩) s.A.length s.A.length) (.slice (some ⟨x1.heap.size, 0, none⟩) s.M.length s.M.length) (.slice (some ⟨x2.heap.size, 0, none⟩) s.B.length s.B.length) (.slice (some ⟨x3.heap.size, 0, none⟩) s.N.length s.N.length)
  have UP := put4_upd x4 (w.heap.size + 1) (.slice (some ⟨w2.drew.heap.size, 0, none⟩) s.A.length s.A.length) (.slice (some ⟨x1.heap.size, 0, none⟩) s.M.length s.M.length) (.slice (some ⟨x2.heap.size, 0, none⟩) s.B.length s.B.length) (.slice (some ⟨x3.heap.size, 0, none⟩) s.N.length s.N.length)
  obtain ⟨x5, hx5⟩ : ∃ v, v = (put4 x4 (w.heap.size + 1) (.slice (some ⟨w2.drew.heap.size, 0, none⟩) s.A.length s.A.length) (.slice (some ⟨x1.heap.size, 0, none⟩) s.M.length s.M.length) (.slice (some ⟨x2.heap.size, 0, none⟩) s.B.length s.B.length) (.slice (some ⟨x3.heap.size, 0, none⟩) s.N.length s.N.length)) := ⟨_, rfl⟩
  rw [← hx5] at HP UP ⊢
  clear hx5
  have c0 := HP.cell 0 _ rfl
  have c1 := HP.cell 1 _ rfl
  have c2 := HP.cell 2 _ rfl
  have c3 := HP.cell 3 _ rfl
  have hz3 := hS.size
  have hd : w2.drew.heap.size = w2.heap.size := rfl
  have hgt : w.heap.size + 1 < w2.heap.size := HA.lt
  have p0 := (o0.upd1 UP (fun k hk e => by have := (o0.blk k hk).1; have := hS.size; omega)).sl' kSt
  have p1 := (o1.upd1 UP (fun k hk e => by have := (o1.blk k hk).1; have := hS.size; omega)).sl' kSt
  have p2 := (o2.upd1 UP (fun k hk e => by have := (o2.blk k hk).1; have := hS.size; omega)).sl' kSt
  have p3 := (o3.upd1 UP (fun k hk e => by have := (o3.blk k hk).1; have := hS.size; omega)).sl' kSt
  have HB9 := hide ((hB.trans (hS.mono hz2)).trans (UP.below (by omega) (fun k hk => by omega)))
  go_wp2
  refine bodyPost_ret (v := .agg #[.slice (some ⟨w2.drew.heap.size, 0, none⟩) s.A.length s.A.length, .slice (some ⟨x1.heap.size, 0, none⟩) s.M.length s.M.length, .slice (some ⟨x2.heap.size, 0, none⟩) s.B.length s.B.length, .slice (some ⟨x3.heap.size, 0, none⟩) s.N.length s.N.length]) (by simp [results, Tryz.results169, go_sem, s2, gw, c0, c1, c2, c3]) rfl ?_
  exact ⟨_, _, _, _, rfl, p0, p1, p2, p3, HB9.out⟩
end Go.Proofs.YtkfkkajeoocbbaaGreatDoor
