import Derived.Shelf.Abstract
import Derived.Test.YtphdnmamopgelaaGreatW5
set_option maxRecDepth 100000
set_option linter.unusedVariables false
set_option linter.unusedSimpArgs false
namespace Go.Proofs.YtphdnmamopgelaaGreat
open Go.RowKit Go.Maps
open Classical
theorem Ak.told_any (x : Ak) (w : World) : Calls Tryz.prog 66 #[x.val] w fun e w' => e = .returned x.val ∧ Below w.heap.size w w' := by
  show Calls Tryz.prog 66 #[.agg #[.int .i64 x.n, .int .u64 x.h, .int .u64 x.l, .int .i64 x.p]] w _
  go_enter Tryz.func66, Tryz.ntmps66
  go_wp2
  refine bodyPost_ret (v := x.val) (by simp [results, Tryz.results66, go_sem, Ak.val]) rfl ?_
  exact ⟨rfl, by (repeat (first | exact Below.refl _ _ | assumption | refine Below.drew ?_ | refine Below.alloc ?_ (by first | (simp; done) | (simp; omega) | omega) _ | refine Below.setCell ?_ (by first | (simp; done) | (simp; omega) | omega) _))⟩
set_option maxHeartbeats 1000000 in
theorem Ak.tell_any (L : List Ak) (a : Option Addr) (n c : Nat) (w : World) (h : SlY yAkV w a n c L) (hb : n * 32 ≤ 281474976710656) :
    Calls Tryz.prog 62 #[.slice a n c, .func (.func 66) #[] #[]] w fun e w' => e = .returned (.slice (some ⟨w.heap.size, 0, none⟩) n n) ∧ OwnY yAkA w.heap.size w' (.slice (some ⟨w.heap.size, 0, none⟩) n n) L ∧ Below w.heap.size w w' := by
  have hmx := h.max
  have hcp := h.cap
  have hln := h.len
  unfold maxLen at hmx
  have H := hide h
  have HN := hide hln
  clear h hln
  go_enter Tryz.func62, Tryz.ntmps62
  go_wp2_with (at_make; go_must (refine makeYs kAkA _ rfl (.tmp 9) rfl n rfl (by unfold maxLen; omega) hb ?zk))
  intro w1 o1 b1
  have HO : Hid (OwnY yAkA w.heap.size w1 (.slice (some ⟨w.heap.size, 0, none⟩) n n) (L.take 0 ++ List.replicate (n - 0) yAkA.z)) := by
    show OwnY _ _ _ _ _
    simpa using o1
  clear o1
  go_wp2
  go_loopw [13] (fun i wr => ∃ j : Nat, i = .int .i64 (j : Int) ∧ j ≤ n ∧ Hid (OwnY yAkA w.heap.size wr (.slice (some ⟨w.heap.size, 0, none⟩) n n) (L.take j ++ List.replicate (n - j) yAkA.z)) ∧ Below w.heap.size w wr) (fun i _ => n - (intOf i).toNat)
  case atStart => exact ⟨0, rfl, Nat.zero_le _, HO, b1⟩
  case round =>
    obtain ⟨j, rfl, hj, hO, hbl⟩ := hrel
    have hsz := hbl.size
    by_cases hlt : j < n
    · have hjl : j < L.length := by rw [HN.out]; exact hlt
      have hg : L[j]? = some L[j] := List.getElem?_eq_getElem hjl
      obtain ⟨q, o, rfl, hq, y0, y1, y2, y3⟩ := (H.out.later hbl).AkV hg
      have hlt0 : w.heap.size < wr.heap.size := by
        obtain ⟨_, _, ee, _, _, _, h4⟩ := hO.out.form
        injection ee with ee
        obtain ⟨g', e2, _, h5⟩ := h4 _ ee.symm
        cases e2
        exact h5
      have hset : Hid ((L.take j ++ List.replicate (n - j) yAkA.z).set j L[j] = L.take (j + 1) ++ List.replicate (n - (j + 1)) yAkA.z) := by
        show _ = _
        have hl : (L.take j).length = j := by rw [List.length_take]; omega
        rw [List.set_append_right _ _ (by omega), hl, Nat.sub_self, show n - j = (n - (j + 1)) + 1 by omega, List.replicate_succ, List.set_cons_zero, List.take_add_one, hg]
        simp only [Option.toList_some, List.append_assoc, List.cons_append, List.nil_append]
      have hget : Hid ((L.take j ++ List.replicate (n - j) yAkA.z)[j]? = some yAkA.z) := by
        show _ = _
        have hl : (L.take j).length = j := by rw [List.length_take]; omega
        rw [List.getElem?_append_right (by omega), hl, Nat.sub_self, show n - j = (n - (j + 1)) + 1 by omega, List.replicate_succ]
        rfl
      clear hg
      generalize L[j] = x at *
      generalize hX : L.take j ++ List.replicate (n - j) yAkA.z = XX at *
      clear hX
      have bA := hide (hbl.trans (((Below.refl _ wr).alloc (Nat.le_refl _) (.cells #[.int .i64 x.n, .int .u64 x.h, .int .u64 x.l, .int .i64 x.p] 107)).mono hsz))
      have OA := hide (hO.out.alloc (.cells #[.int .i64 x.n, .int .u64 x.h, .int .u64 x.l, .int .i64 x.p] 107))
      have ca := hide (x.told_any (wr.alloc (.cells #[.int .i64 x.n, .int .u64 x.h, .int .u64 x.l, .int .i64 x.p] 107)))
      clear hO
      go_wp2_with fail
      refine ca.out.mono ?_
      rintro e w2 ⟨rfl, b2⟩
      have O2 := hide (OA.out.grow b2)
      have z2 := b2.size
      rw [World.size_alloc] at z2
      dsimp only
      go_wp2_with (first
        | (refine storeY kAkA _ rfl 82 (.tmp 23) (.tmp 22) rfl w.heap.size w.heap.size n n XX j 0 yAkA.z x _ rfl rfl hget.out (by kernel_rfl) (by exact (by decide : 4 ≤ 4)) rfl O2.out ?_; intro w3 o3 u3 z3; have O3 := hide o3; clear o3)
        | go_in)
      go_round
      case rel =>
        refine ⟨j + 1, by go_num, by omega, by show OwnY _ _ _ _ _; rw [← hset.out]; exact O3.out, bA.out.trans ((b2.mono (by simp; omega)).trans (u3.below (by omega) (fun k e => by subst e; exact Nat.le_refl _)))⟩
      case measure => simp [intOf]; omega
    · obtain rfl : j = n := by omega
      have O9 : Hid (OwnY yAkA w.heap.size wr (.slice (some ⟨w.heap.size, 0, none⟩) j j) L) := by
        show OwnY _ _ _ _ _
        have := hO.out
        rw [Nat.sub_self, List.replicate_zero, List.append_nil, List.take_of_length_le (by rw [HN.out]; exact Nat.le_refl _)] at this
        exact this
      clear hO
      go_wp2
      go_ret
      exact ⟨rfl, O9.out, hbl⟩
/-! Stamps lie as marks do. -/
def ySt : Lay Mk := ⟨105, 102, 3, 24, Mk.cs, ⟨0, 0, 0⟩⟩
theorem kSt : ySt.Ok := ⟨by decide, fun x => rfl, fun x u h => by
    simp [ySt, Mk.cs] at h
    rcases h with rfl | rfl | rfl <;> rfl, Tryz.underlying102, ⟨.agg #[.int .i64 (⟨0, 0, 0⟩ : Mk).n, .int .u64 (⟨0, 0, 0⟩ : Mk).h, .int .u64 (⟨0, 0, 0⟩ : Mk).l], by kernel_rfl, rfl⟩⟩
def Ak.sm (x : Ak) : Mk := ⟨x.n, x.h, x.l⟩
theorem Ak.stamp_any (x : Ak) (w : World) : Calls Tryz.prog 92 #[x.val] w fun e w' => e = .returned (.agg #[.int .i64 x.n, .int .u64 x.h, .int .u64 x.l]) ∧ Below w.heap.size w w' := by
  show Calls Tryz.prog 92 #[.agg #[.int .i64 x.n, .int .u64 x.h, .int .u64 x.l, .int .i64 x.p]] w _
  go_enter Tryz.func92, Tryz.ntmps92
  go_wp2
  refine bodyPost_ret (v := .agg #[.int .i64 x.n, .int .u64 x.h, .int .u64 x.l]) (by simp [results, Tryz.results92, go_sem]) rfl ?_
  exact ⟨rfl, by (repeat (first | exact Below.refl _ _ | assumption | refine Below.drew ?_ | refine Below.alloc ?_ (by first | (simp; done) | (simp; omega) | omega) _ | refine Below.setCell ?_ (by first | (simp; done) | (simp; omega) | omega) _))⟩
set_option maxHeartbeats 1000000 in
theorem Ak.stamps_any (L : List Ak) (a : Option Addr) (n c : Nat) (w : World) (h : SlY yAkA w a n c L) (hb : n * 24 ≤ 281474976710656) :
    Calls Tryz.prog 91 #[.slice a n c, .func (.func 92) #[] #[]] w fun e w' => e = .returned (.slice (some ⟨w.heap.size, 0, none⟩) n n) ∧ OwnY ySt w.heap.size w' (.slice (some ⟨w.heap.size, 0, none⟩) n n) (L.map Ak.sm) ∧ Below w.heap.size w w' := by
  have hmx := h.max
  have hcp := h.cap
  have hln := h.len
  unfold maxLen at hmx
  have H := hide h
  have HN := hide hln
  clear h hln
  go_enter Tryz.func91, Tryz.ntmps91
  go_wp2_with (at_make; go_must (refine makeYs kSt _ rfl (.tmp 9) rfl n rfl (by unfold maxLen; omega) hb ?zk))
  intro w1 o1 b1
  have HO : Hid (OwnY ySt w.heap.size w1 (.slice (some ⟨w.heap.size, 0, none⟩) n n) ((L.map Ak.sm).take 0 ++ List.replicate (n - 0) ySt.z)) := by
    show OwnY _ _ _ _ _
    simpa using o1
  clear o1
  go_wp2
  go_loopw [13] (fun i wr => ∃ j : Nat, i = .int .i64 (j : Int) ∧ j ≤ n ∧ Hid (OwnY ySt w.heap.size wr (.slice (some ⟨w.heap.size, 0, none⟩) n n) ((L.map Ak.sm).take j ++ List.replicate (n - j) ySt.z)) ∧ Below w.heap.size w wr) (fun i _ => n - (intOf i).toNat)
  case atStart => exact ⟨0, rfl, Nat.zero_le _, HO, b1⟩
  case round =>
    obtain ⟨j, rfl, hj, hO, hbl⟩ := hrel
    have hsz := hbl.size
    by_cases hlt : j < n
    · have hjl : j < L.length := by rw [HN.out]; exact hlt
      have hg0 : L[j]? = some L[j] := List.getElem?_eq_getElem hjl
      have hg : (L.map Ak.sm)[j]? = some (L[j]).sm := by rw [List.getElem?_map, hg0]; rfl
      obtain ⟨q, o, rfl, hq, y0, y1, y2, y3⟩ := (H.out.later hbl).AkA hg0
      have hlt0 : w.heap.size < wr.heap.size := by
        obtain ⟨_, _, ee, _, _, _, h4⟩ := hO.out.form
        injection ee with ee
        obtain ⟨g', e2, _, h5⟩ := h4 _ ee.symm
        cases e2
        exact h5
      have hset : Hid (((L.map Ak.sm).take j ++ List.replicate (n - j) ySt.z).set j (L[j]).sm = (L.map Ak.sm).take (j + 1) ++ List.replicate (n - (j + 1)) ySt.z) := by
        show _ = _
        have hl : ((L.map Ak.sm).take j).length = j := by rw [List.length_take, List.length_map]; omega
        rw [List.set_append_right _ _ (by omega), hl, Nat.sub_self, show n - j = (n - (j + 1)) + 1 by omega, List.replicate_succ, List.set_cons_zero, List.take_add_one, hg]
        simp only [Option.toList_some, List.append_assoc, List.cons_append, List.nil_append]
      have hget : Hid (((L.map Ak.sm).take j ++ List.replicate (n - j) ySt.z)[j]? = some ySt.z) := by
        show _ = _
        have hl : ((L.map Ak.sm).take j).length = j := by rw [List.length_take, List.length_map]; omega
        rw [List.getElem?_append_right (by omega), hl, Nat.sub_self, show n - j = (n - (j + 1)) + 1 by omega, List.replicate_succ]
        rfl
      clear hg hg0
      generalize L[j] = x at *
      generalize hX : (L.map Ak.sm).take j ++ List.replicate (n - j) ySt.z = XX at *
      clear hX
      have bA := hide (hbl.trans (((Below.refl _ wr).alloc (Nat.le_refl _) (.cells #[.int .i64 x.n, .int .u64 x.h, .int .u64 x.l, .int .i64 x.p] 82)).mono hsz))
      have OA := hide (hO.out.alloc (.cells #[.int .i64 x.n, .int .u64 x.h, .int .u64 x.l, .int .i64 x.p] 82))
      have ca := hide (x.stamp_any (wr.alloc (.cells #[.int .i64 x.n, .int .u64 x.h, .int .u64 x.l, .int .i64 x.p] 82)))
      clear hO
      go_wp2_with fail
      refine ca.out.mono ?_
      rintro e w2 ⟨rfl, b2⟩
      have O2 := hide (OA.out.grow b2)
      have z2 := b2.size
      rw [World.size_alloc] at z2
      dsimp only
      go_wp2_with (first
        | (refine storeY kSt _ rfl 105 (.tmp 23) (.tmp 22) rfl w.heap.size w.heap.size n n XX j 0 ySt.z x.sm _ rfl rfl hget.out (by kernel_rfl) (by exact (by decide : 3 ≤ 3)) rfl O2.out ?_; intro w3 o3 u3 z3; have O3 := hide o3; clear o3)
        | go_in)
      go_round
      case rel =>
        refine ⟨j + 1, by go_num, by omega, by show OwnY _ _ _ _ _; rw [← hset.out]; exact O3.out, bA.out.trans ((b2.mono (by simp; omega)).trans (u3.below (by omega) (fun k e => by subst e; exact Nat.le_refl _)))⟩
      case measure => simp [intOf]; omega
    · obtain rfl : j = n := by omega
      have O9 : Hid (OwnY ySt w.heap.size wr (.slice (some ⟨w.heap.size, 0, none⟩) j j) (L.map Ak.sm)) := by
        show OwnY _ _ _ _ _
        have := hO.out
        rw [Nat.sub_self, List.replicate_zero, List.append_nil, List.take_of_length_le (by rw [List.length_map, HN.out]; exact Nat.le_refl _)] at this
        exact this
      clear hO
      go_wp2
      go_ret
      exact ⟨rfl, O9.out, hbl⟩
def Mk.sm (x : Mk) : Mk := ⟨x.n, x.h, x.l⟩
theorem Mk.stamp_any (x : Mk) (w : World) : Calls Tryz.prog 94 #[x.val] w fun e w' => e = .returned (.agg #[.int .i64 x.n, .int .u64 x.h, .int .u64 x.l]) ∧ Below w.heap.size w w' := by
  show Calls Tryz.prog 94 #[.agg #[.int .i64 x.n, .int .u64 x.h, .int .u64 x.l]] w _
  go_enter Tryz.func94, Tryz.ntmps94
  go_wp2
  refine bodyPost_ret (v := .agg #[.int .i64 x.n, .int .u64 x.h, .int .u64 x.l]) (by simp [results, Tryz.results94, go_sem]) rfl ?_
  exact ⟨rfl, by (repeat (first | exact Below.refl _ _ | assumption | refine Below.drew ?_ | refine Below.alloc ?_ (by first | (simp; done) | (simp; omega) | omega) _ | refine Below.setCell ?_ (by first | (simp; done) | (simp; omega) | omega) _))⟩
set_option maxHeartbeats 1000000 in
theorem Mk.stamps_any (L : List Mk) (a : Option Addr) (n c : Nat) (w : World) (h : SlY yMkA w a n c L) (hb : n * 24 ≤ 281474976710656) :
    Calls Tryz.prog 93 #[.slice a n c, .func (.func 94) #[] #[]] w fun e w' => e = .returned (.slice (some ⟨w.heap.size, 0, none⟩) n n) ∧ OwnY ySt w.heap.size w' (.slice (some ⟨w.heap.size, 0, none⟩) n n) (L.map Mk.sm) ∧ Below w.heap.size w w' := by
  have hmx := h.max
  have hcp := h.cap
  have hln := h.len
  unfold maxLen at hmx
  have H := hide h
  have HN := hide hln
  clear h hln
  go_enter Tryz.func93, Tryz.ntmps93
  go_wp2_with (at_make; go_must (refine makeYs kSt _ rfl (.tmp 9) rfl n rfl (by unfold maxLen; omega) hb ?zk))
  intro w1 o1 b1
  have HO : Hid (OwnY ySt w.heap.size w1 (.slice (some ⟨w.heap.size, 0, none⟩) n n) ((L.map Mk.sm).take 0 ++ List.replicate (n - 0) ySt.z)) := by
    show OwnY _ _ _ _ _
    simpa using o1
  clear o1
  go_wp2
  go_loopw [13] (fun i wr => ∃ j : Nat, i = .int .i64 (j : Int) ∧ j ≤ n ∧ Hid (OwnY ySt w.heap.size wr (.slice (some ⟨w.heap.size, 0, none⟩) n n) ((L.map Mk.sm).take j ++ List.replicate (n - j) ySt.z)) ∧ Below w.heap.size w wr) (fun i _ => n - (intOf i).toNat)
  case atStart => exact ⟨0, rfl, Nat.zero_le _, HO, b1⟩
  case round =>
    obtain ⟨j, rfl, hj, hO, hbl⟩ := hrel
    have hsz := hbl.size
    by_cases hlt : j < n
    · have hjl : j < L.length := by rw [HN.out]; exact hlt
      have hg0 : L[j]? = some L[j] := List.getElem?_eq_getElem hjl
      have hg : (L.map Mk.sm)[j]? = some (L[j]).sm := by rw [List.getElem?_map, hg0]; rfl
      obtain ⟨q, o, rfl, hq, y0, y1, y2⟩ := (H.out.later hbl).MkA hg0
      have hlt0 : w.heap.size < wr.heap.size := by
        obtain ⟨_, _, ee, _, _, _, h4⟩ := hO.out.form
        injection ee with ee
        obtain ⟨g', e2, _, h5⟩ := h4 _ ee.symm
        cases e2
        exact h5
      have hset : Hid (((L.map Mk.sm).take j ++ List.replicate (n - j) ySt.z).set j (L[j]).sm = (L.map Mk.sm).take (j + 1) ++ List.replicate (n - (j + 1)) ySt.z) := by
        show _ = _
        have hl : ((L.map Mk.sm).take j).length = j := by rw [List.length_take, List.length_map]; omega
        rw [List.set_append_right _ _ (by omega), hl, Nat.sub_self, show n - j = (n - (j + 1)) + 1 by omega, List.replicate_succ, List.set_cons_zero, List.take_add_one, hg]
        simp only [Option.toList_some, List.append_assoc, List.cons_append, List.nil_append]
      have hget : Hid (((L.map Mk.sm).take j ++ List.replicate (n - j) ySt.z)[j]? = some ySt.z) := by
        show _ = _
        have hl : ((L.map Mk.sm).take j).length = j := by rw [List.length_take, List.length_map]; omega
        rw [List.getElem?_append_right (by omega), hl, Nat.sub_self, show n - j = (n - (j + 1)) + 1 by omega, List.replicate_succ]
        rfl
      clear hg hg0
      generalize L[j] = x at *
      generalize hX : (L.map Mk.sm).take j ++ List.replicate (n - j) ySt.z = XX at *
      clear hX
      have bA := hide (hbl.trans (((Below.refl _ wr).alloc (Nat.le_refl _) (.cells #[.int .i64 x.n, .int .u64 x.h, .int .u64 x.l] 84)).mono hsz))
      have OA := hide (hO.out.alloc (.cells #[.int .i64 x.n, .int .u64 x.h, .int .u64 x.l] 84))
      have ca := hide (x.stamp_any (wr.alloc (.cells #[.int .i64 x.n, .int .u64 x.h, .int .u64 x.l] 84)))
      clear hO
      go_wp2_with fail
      refine ca.out.mono ?_
      rintro e w2 ⟨rfl, b2⟩
      have O2 := hide (OA.out.grow b2)
      have z2 := b2.size
      rw [World.size_alloc] at z2
      dsimp only
      go_wp2_with (first
        | (refine storeY kSt _ rfl 105 (.tmp 23) (.tmp 22) rfl w.heap.size w.heap.size n n XX j 0 ySt.z x.sm _ rfl rfl hget.out (by kernel_rfl) (by exact (by decide : 3 ≤ 3)) rfl O2.out ?_; intro w3 o3 u3 z3; have O3 := hide o3; clear o3)
        | go_in)
      go_round
      case rel =>
        refine ⟨j + 1, by go_num, by omega, by show OwnY _ _ _ _ _; rw [← hset.out]; exact O3.out, bA.out.trans ((b2.mono (by simp; omega)).trans (u3.below (by omega) (fun k e => by subst e; exact Nat.le_refl _)))⟩
      case measure => simp [intOf]; omega
    · obtain rfl : j = n := by omega
      have O9 : Hid (OwnY ySt w.heap.size wr (.slice (some ⟨w.heap.size, 0, none⟩) j j) (L.map Mk.sm)) := by
        show OwnY _ _ _ _ _
        have := hO.out
        rw [Nat.sub_self, List.replicate_zero, List.append_nil, List.take_of_length_le (by rw [List.length_map, HN.out]; exact Nat.le_refl _)] at this
        exact this
      clear hO
      go_wp2
      go_ret
      exact ⟨rfl, O9.out, hbl⟩
def Bl.sm (x : Bl) : Mk := ⟨x.n, x.h, x.l⟩
theorem Bl.stamp_any (x : Bl) (w : World) : Calls Tryz.prog 96 #[x.val] w fun e w' => e = .returned (.agg #[.int .i64 x.n, .int .u64 x.h, .int .u64 x.l]) ∧ Below w.heap.size w w' := by
  show Calls Tryz.prog 96 #[.agg #[.int .i64 x.n, .int .u64 x.h, .int .u64 x.l, .int .i64 x.v, .int .i64 x.c, .slice x.s.a x.s.D.length x.s.c]] w _
  go_enter Tryz.func96, Tryz.ntmps96
  go_wp2
  refine bodyPost_ret (v := .agg #[.int .i64 x.n, .int .u64 x.h, .int .u64 x.l]) (by simp [results, Tryz.results96, go_sem]) rfl ?_
  exact ⟨rfl, by (repeat (first | exact Below.refl _ _ | assumption | refine Below.drew ?_ | refine Below.alloc ?_ (by first | (simp; done) | (simp; omega) | omega) _ | refine Below.setCell ?_ (by first | (simp; done) | (simp; omega) | omega) _))⟩
set_option maxHeartbeats 1000000 in
theorem Bl.stamps_any (L : List Bl) (a : Option Addr) (n c : Nat) (w : World) (h : SlY yBlA w a n c L) (hb : n * 24 ≤ 281474976710656) :
    Calls Tryz.prog 95 #[.slice a n c, .func (.func 96) #[] #[]] w fun e w' => e = .returned (.slice (some ⟨w.heap.size, 0, none⟩) n n) ∧ OwnY ySt w.heap.size w' (.slice (some ⟨w.heap.size, 0, none⟩) n n) (L.map Bl.sm) ∧ Below w.heap.size w w' := by
  have hmx := h.max
  have hcp := h.cap
  have hln := h.len
  unfold maxLen at hmx
  have H := hide h
  have HN := hide hln
  clear h hln
  go_enter Tryz.func95, Tryz.ntmps95
  go_wp2_with (at_make; go_must (refine makeYs kSt _ rfl (.tmp 9) rfl n rfl (by unfold maxLen; omega) hb ?zk))
  intro w1 o1 b1
  have HO : Hid (OwnY ySt w.heap.size w1 (.slice (some ⟨w.heap.size, 0, none⟩) n n) ((L.map Bl.sm).take 0 ++ List.replicate (n - 0) ySt.z)) := by
    show OwnY _ _ _ _ _
    simpa using o1
  clear o1
  go_wp2
  go_loopw [13] (fun i wr => ∃ j : Nat, i = .int .i64 (j : Int) ∧ j ≤ n ∧ Hid (OwnY ySt w.heap.size wr (.slice (some ⟨w.heap.size, 0, none⟩) n n) ((L.map Bl.sm).take j ++ List.replicate (n - j) ySt.z)) ∧ Below w.heap.size w wr) (fun i _ => n - (intOf i).toNat)
  case atStart => exact ⟨0, rfl, Nat.zero_le _, HO, b1⟩
  case round =>
    obtain ⟨j, rfl, hj, hO, hbl⟩ := hrel
    have hsz := hbl.size
    by_cases hlt : j < n
    · have hjl : j < L.length := by rw [HN.out]; exact hlt
      have hg0 : L[j]? = some L[j] := List.getElem?_eq_getElem hjl
      have hg : (L.map Bl.sm)[j]? = some (L[j]).sm := by rw [List.getElem?_map, hg0]; rfl
      obtain ⟨q, o, rfl, hq, y0, y1, y2, y3, y4, y5⟩ := (H.out.later hbl).BlA hg0
      have hlt0 : w.heap.size < wr.heap.size := by
        obtain ⟨_, _, ee, _, _, _, h4⟩ := hO.out.form
        injection ee with ee
        obtain ⟨g', e2, _, h5⟩ := h4 _ ee.symm
        cases e2
        exact h5
      have hset : Hid (((L.map Bl.sm).take j ++ List.replicate (n - j) ySt.z).set j (L[j]).sm = (L.map Bl.sm).take (j + 1) ++ List.replicate (n - (j + 1)) ySt.z) := by
        show _ = _
        have hl : ((L.map Bl.sm).take j).length = j := by rw [List.length_take, List.length_map]; omega
        rw [List.set_append_right _ _ (by omega), hl, Nat.sub_self, show n - j = (n - (j + 1)) + 1 by omega, List.replicate_succ, List.set_cons_zero, List.take_add_one, hg]
        simp only [Option.toList_some, List.append_assoc, List.cons_append, List.nil_append]
      have hget : Hid (((L.map Bl.sm).take j ++ List.replicate (n - j) ySt.z)[j]? = some ySt.z) := by
        show _ = _
        have hl : ((L.map Bl.sm).take j).length = j := by rw [List.length_take, List.length_map]; omega
        rw [List.getElem?_append_right (by omega), hl, Nat.sub_self, show n - j = (n - (j + 1)) + 1 by omega, List.replicate_succ]
        rfl
      clear hg hg0
      generalize L[j] = x at *
      generalize hX : (L.map Bl.sm).take j ++ List.replicate (n - j) ySt.z = XX at *
      clear hX
      have bA := hide (hbl.trans (((Below.refl _ wr).alloc (Nat.le_refl _) (.cells #[.int .i64 x.n, .int .u64 x.h, .int .u64 x.l, .int .i64 x.v, .int .i64 x.c, .slice x.s.a x.s.D.length x.s.c] 59)).mono hsz))
      have OA := hide (hO.out.alloc (.cells #[.int .i64 x.n, .int .u64 x.h, .int .u64 x.l, .int .i64 x.v, .int .i64 x.c, .slice x.s.a x.s.D.length x.s.c] 59))
      have ca := hide (x.stamp_any (wr.alloc (.cells #[.int .i64 x.n, .int .u64 x.h, .int .u64 x.l, .int .i64 x.v, .int .i64 x.c, .slice x.s.a x.s.D.length x.s.c] 59)))
      clear hO
      go_wp2_with fail
      refine ca.out.mono ?_
      rintro e w2 ⟨rfl, b2⟩
      have O2 := hide (OA.out.grow b2)
      have z2 := b2.size
      rw [World.size_alloc] at z2
      dsimp only
      go_wp2_with (first
        | (refine storeY kSt _ rfl 105 (.tmp 23) (.tmp 22) rfl w.heap.size w.heap.size n n XX j 0 ySt.z x.sm _ rfl rfl hget.out (by kernel_rfl) (by exact (by decide : 3 ≤ 3)) rfl O2.out ?_; intro w3 o3 u3 z3; have O3 := hide o3; clear o3)
        | go_in)
      go_round
      case rel =>
        refine ⟨j + 1, by go_num, by omega, by show OwnY _ _ _ _ _; rw [← hset.out]; exact O3.out, bA.out.trans ((b2.mono (by simp; omega)).trans (u3.below (by omega) (fun k e => by subst e; exact Nat.le_refl _)))⟩
      case measure => simp [intOf]; omega
    · obtain rfl : j = n := by omega
      have O9 : Hid (OwnY ySt w.heap.size wr (.slice (some ⟨w.heap.size, 0, none⟩) j j) (L.map Bl.sm)) := by
        show OwnY _ _ _ _ _
        have := hO.out
        rw [Nat.sub_self, List.replicate_zero, List.append_nil, List.take_of_length_le (by rw [List.length_map, HN.out]; exact Nat.le_refl _)] at this
        exact this
      clear hO
      go_wp2
      go_ret
      exact ⟨rfl, O9.out, hbl⟩
def An.sm (x : An) : Mk := ⟨x.n, x.h, x.l⟩
theorem An.stamp_any (x : An) (w : World) : Calls Tryz.prog 98 #[x.val] w fun e w' => e = .returned (.agg #[.int .i64 x.n, .int .u64 x.h, .int .u64 x.l]) ∧ Below w.heap.size w w' := by
  show Calls Tryz.prog 98 #[.agg #[.int .i64 x.n, .int .u64 x.h, .int .u64 x.l, .int .i64 x.v, .int .i64 x.c, .slice x.s.a x.s.D.length x.s.c]] w _
  go_enter Tryz.func98, Tryz.ntmps98
  go_wp2
  refine bodyPost_ret (v := .agg #[.int .i64 x.n, .int .u64 x.h, .int .u64 x.l]) (by simp [results, Tryz.results98, go_sem]) rfl ?_
  exact ⟨rfl, by (repeat (first | exact Below.refl _ _ | assumption | refine Below.drew ?_ | refine Below.alloc ?_ (by first | (simp; done) | (simp; omega) | omega) _ | refine Below.setCell ?_ (by first | (simp; done) | (simp; omega) | omega) _))⟩
set_option maxHeartbeats 1000000 in
theorem An.stamps_any (L : List An) (a : Option Addr) (n c : Nat) (w : World) (h : SlY yAnA w a n c L) (hb : n * 24 ≤ 281474976710656) :
    Calls Tryz.prog 97 #[.slice a n c, .func (.func 98) #[] #[]] w fun e w' => e = .returned (.slice (some ⟨w.heap.size, 0, none⟩) n n) ∧ OwnY ySt w.heap.size w' (.slice (some ⟨w.heap.size, 0, none⟩) n n) (L.map An.sm) ∧ Below w.heap.size w w' := by
  have hmx := h.max
  have hcp := h.cap
  have hln := h.len
  unfold maxLen at hmx
  have H := hide h
  have HN := hide hln
  clear h hln
  go_enter Tryz.func97, Tryz.ntmps97
  go_wp2_with (at_make; go_must (refine makeYs kSt _ rfl (.tmp 9) rfl n rfl (by unfold maxLen; omega) hb ?zk))
  intro w1 o1 b1
  have HO : Hid (OwnY ySt w.heap.size w1 (.slice (some ⟨w.heap.size, 0, none⟩) n n) ((L.map An.sm).take 0 ++ List.replicate (n - 0) ySt.z)) := by
    show OwnY _ _ _ _ _
    simpa using o1
  clear o1
  go_wp2
  go_loopw [13] (fun i wr => ∃ j : Nat, i = .int .i64 (j : Int) ∧ j ≤ n ∧ Hid (OwnY ySt w.heap.size wr (.slice (some ⟨w.heap.size, 0, none⟩) n n) ((L.map An.sm).take j ++ List.replicate (n - j) ySt.z)) ∧ Below w.heap.size w wr) (fun i _ => n - (intOf i).toNat)
  case atStart => exact ⟨0, rfl, Nat.zero_le _, HO, b1⟩
  case round =>
    obtain ⟨j, rfl, hj, hO, hbl⟩ := hrel
    have hsz := hbl.size
    by_cases hlt : j < n
    · have hjl : j < L.length := by rw [HN.out]; exact hlt
      have hg0 : L[j]? = some L[j] := List.getElem?_eq_getElem hjl
      have hg : (L.map An.sm)[j]? = some (L[j]).sm := by rw [List.getElem?_map, hg0]; rfl
      obtain ⟨q, o, rfl, hq, y0, y1, y2, y3, y4, y5⟩ := (H.out.later hbl).AnA hg0
      have hlt0 : w.heap.size < wr.heap.size := by
        obtain ⟨_, _, ee, _, _, _, h4⟩ := hO.out.form
        injection ee with ee
        obtain ⟨g', e2, _, h5⟩ := h4 _ ee.symm
        cases e2
        exact h5
      have hset : Hid (((L.map An.sm).take j ++ List.replicate (n - j) ySt.z).set j (L[j]).sm = (L.map An.sm).take (j + 1) ++ List.replicate (n - (j + 1)) ySt.z) := by
        show _ = _
        have hl : ((L.map An.sm).take j).length = j := by rw [List.length_take, List.length_map]; omega
        rw [List.set_append_right _ _ (by omega), hl, Nat.sub_self, show n - j = (n - (j + 1)) + 1 by omega, List.replicate_succ, List.set_cons_zero, List.take_add_one, hg]
        simp only [Option.toList_some, List.append_assoc, List.cons_append, List.nil_append]
      have hget : Hid (((L.map An.sm).take j ++ List.replicate (n - j) ySt.z)[j]? = some ySt.z) := by
        show _ = _
        have hl : ((L.map An.sm).take j).length = j := by rw [List.length_take, List.length_map]; omega
        rw [List.getElem?_append_right (by omega), hl, Nat.sub_self, show n - j = (n - (j + 1)) + 1 by omega, List.replicate_succ]
        rfl
      clear hg hg0
      generalize L[j] = x at *
      generalize hX : (L.map An.sm).take j ++ List.replicate (n - j) ySt.z = XX at *
      clear hX
      have bA := hide (hbl.trans (((Below.refl _ wr).alloc (Nat.le_refl _) (.cells #[.int .i64 x.n, .int .u64 x.h, .int .u64 x.l, .int .i64 x.v, .int .i64 x.c, .slice x.s.a x.s.D.length x.s.c] 61)).mono hsz))
      have OA := hide (hO.out.alloc (.cells #[.int .i64 x.n, .int .u64 x.h, .int .u64 x.l, .int .i64 x.v, .int .i64 x.c, .slice x.s.a x.s.D.length x.s.c] 61))
      have ca := hide (x.stamp_any (wr.alloc (.cells #[.int .i64 x.n, .int .u64 x.h, .int .u64 x.l, .int .i64 x.v, .int .i64 x.c, .slice x.s.a x.s.D.length x.s.c] 61)))
      clear hO
      go_wp2_with fail
      refine ca.out.mono ?_
      rintro e w2 ⟨rfl, b2⟩
      have O2 := hide (OA.out.grow b2)
      have z2 := b2.size
      rw [World.size_alloc] at z2
      dsimp only
      go_wp2_with (first
        | (refine storeY kSt _ rfl 105 (.tmp 23) (.tmp 22) rfl w.heap.size w.heap.size n n XX j 0 ySt.z x.sm _ rfl rfl hget.out (by kernel_rfl) (by exact (by decide : 3 ≤ 3)) rfl O2.out ?_; intro w3 o3 u3 z3; have O3 := hide o3; clear o3)
        | go_in)
      go_round
      case rel =>
        refine ⟨j + 1, by go_num, by omega, by show OwnY _ _ _ _ _; rw [← hset.out]; exact O3.out, bA.out.trans ((b2.mono (by simp; omega)).trans (u3.below (by omega) (fun k e => by subst e; exact Nat.le_refl _)))⟩
      case measure => simp [intOf]; omega
    · obtain rfl : j = n := by omega
      have O9 : Hid (OwnY ySt w.heap.size wr (.slice (some ⟨w.heap.size, 0, none⟩) j j) (L.map An.sm)) := by
        show OwnY _ _ _ _ _
        have := hO.out
        rw [Nat.sub_self, List.replicate_zero, List.append_nil, List.take_of_length_le (by rw [List.length_map, HN.out]; exact Nat.le_refl _)] at this
        exact this
      clear hO
      go_wp2
      go_ret
      exact ⟨rfl, O9.out, hbl⟩
set_option maxHeartbeats 1000000 in
theorem Ak.indexA_any (p : Ak → Bool) (g : Nat) (lb : Array Value) (eg : ∀ args w, (callFunc g args).run Tryz.prog w = .ok (.enter g args) w) (L : List Ak) (a : Option Addr) (n c : Nat) (w : World) (h : SlY yAkA w a n c L)
    (hp : ∀ (W : World) (x : Ak), Below w.heap.size w W → Calls Tryz.prog g (#[x.val] ++ lb) W fun e w' => e = .returned (.bool (p x)) ∧ Below w.heap.size w w') :
    Calls Tryz.prog 118 #[.slice a n c, .func (.func g) #[] lb] w fun e w' => e = .returned (.int .i64 (ix p L)) ∧ Below w.heap.size w w' := by
  have hmx := h.max
  have hcp := h.cap
  have hln := h.len
  unfold maxLen at hmx
  have H := hide h
  have HN := hide hln
  have HP := hide hp
  clear h hln hp
  go_enter Tryz.func118, Tryz.ntmps118
  go_wp2
  go_loopw [8] (fun i wr => ∃ j : Nat, i = .int .i64 (j : Int) ∧ j ≤ n ∧ Hid (∀ k (hk : k < L.length), k < j → p L[k] = false) ∧ Below w.heap.size w wr) (fun i _ => n - (intOf i).toNat)
  case atStart => exact ⟨0, rfl, Nat.zero_le _, fun k hk h => absurd h (Nat.not_lt_zero _), Below.refl _ _⟩
  case round =>
    obtain ⟨j, rfl, hj, hA, hbl⟩ := hrel
    have hsz := hbl.size
    by_cases hlt : j < n
    · have hjl : j < L.length := by rw [HN.out]; exact hlt
      have hg : L[j]? = some L[j] := List.getElem?_eq_getElem hjl
      obtain ⟨q, o, rfl, hq, y0, y1, y2, y3⟩ := (H.out.later hbl).AkA hg
      have hcall := HP.out wr L[j] hbl
      have hH : Hid (p L[j] = true → ix p L = (j : Int)) := fun hp => ix_hit hjl hp (fun k hk => hA.out k (by omega) hk)
      have hS : Hid (p L[j] = false → ∀ k (hk : k < L.length), k < j + 1 → p L[k] = false) := fun hp k hk hkj => by
        by_cases e : k = j
        · subst e; exact hp
        · exact hA.out k hk (by omega)
      clear hA hg
      generalize L[j] = x at *
      unfold Ak.val at hcall
      cases hq2 : p x with
      | true =>
        have hx := hide (hH.out hq2)
        rw [hq2] at hcall
        clear hH hS
        go_wp2_with (go_at_fn g; refine hcall.mono ?_; rintro e w' ⟨rfl, hb'⟩)
        go_ret
        exact ⟨by rw [hx.out]; rfl, hb'⟩
      | false =>
        have hx := hide (hS.out hq2)
        rw [hq2] at hcall
        clear hH hS
        go_wp2_with (go_at_fn g; refine hcall.mono ?_; rintro e w' ⟨rfl, hb'⟩)
        go_round
        case rel => exact ⟨j + 1, by go_num, by omega, hx, hb'⟩
        case measure => simp [intOf]; omega
    · obtain rfl : j = n := by omega
      have hx : Hid (ix p L = -1) := ix_miss (fun x hx => by
        obtain ⟨k, hk, rfl⟩ := List.mem_iff_getElem.1 hx
        exact hA.out k hk (by rw [← HN.out]; exact hk))
      clear hA
      go_wp2
      go_ret
      exact ⟨by rw [hx.out]; rfl, hbl⟩
theorem Ak.contains_any (p : Ak → Bool) (g : Nat) (lb : Array Value) (eg : ∀ args w, (callFunc g args).run Tryz.prog w = .ok (.enter g args) w) (L : List Ak) (a : Option Addr) (n c : Nat) (w : World) (h : SlY yAkA w a n c L)
    (hp : ∀ (W : World) (x : Ak), Below w.heap.size w W → Calls Tryz.prog g (#[x.val] ++ lb) W fun e w' => e = .returned (.bool (p x)) ∧ Below w.heap.size w w') :
    Calls Tryz.prog 100 #[.slice a n c, .func (.func g) #[] lb] w fun e w' => e = .returned (.bool (decide (0 ≤ ix p L))) ∧ Below w.heap.size w w' := by
  have H := hide (Ak.indexA_any p g lb eg L a n c w h hp)
  clear h hp
  go_enter Tryz.func100, Tryz.ntmps100
  go_wp2_with fail
  refine H.out.mono ?_
  rintro e w' ⟨rfl, hb⟩
  go_wp2
  go_ret
  exact ⟨rfl, hb⟩
set_option maxHeartbeats 1000000 in
theorem Bl.indexA_any (p : Bl → Bool) (g : Nat) (lb : Array Value) (eg : ∀ args w, (callFunc g args).run Tryz.prog w = .ok (.enter g args) w) (L : List Bl) (a : Option Addr) (n c : Nat) (w : World) (h : SlY yBlA w a n c L)
    (hp : ∀ (W : World) (x : Bl), Below w.heap.size w W → Calls Tryz.prog g (#[x.val] ++ lb) W fun e w' => e = .returned (.bool (p x)) ∧ Below w.heap.size w w') :
    Calls Tryz.prog 119 #[.slice a n c, .func (.func g) #[] lb] w fun e w' => e = .returned (.int .i64 (ix p L)) ∧ Below w.heap.size w w' := by
  have hmx := h.max
  have hcp := h.cap
  have hln := h.len
  unfold maxLen at hmx
  have H := hide h
  have HN := hide hln
  have HP := hide hp
  clear h hln hp
  go_enter Tryz.func119, Tryz.ntmps119
  go_wp2
  go_loopw [8] (fun i wr => ∃ j : Nat, i = .int .i64 (j : Int) ∧ j ≤ n ∧ Hid (∀ k (hk : k < L.length), k < j → p L[k] = false) ∧ Below w.heap.size w wr) (fun i _ => n - (intOf i).toNat)
  case atStart => exact ⟨0, rfl, Nat.zero_le _, fun k hk h => absurd h (Nat.not_lt_zero _), Below.refl _ _⟩
  case round =>
    obtain ⟨j, rfl, hj, hA, hbl⟩ := hrel
    have hsz := hbl.size
    by_cases hlt : j < n
    · have hjl : j < L.length := by rw [HN.out]; exact hlt
      have hg : L[j]? = some L[j] := List.getElem?_eq_getElem hjl
      obtain ⟨q, o, rfl, hq, y0, y1, y2, y3, y4, y5⟩ := (H.out.later hbl).BlA hg
      have hcall := HP.out wr L[j] hbl
      have hH : Hid (p L[j] = true → ix p L = (j : Int)) := fun hp => ix_hit hjl hp (fun k hk => hA.out k (by omega) hk)
      have hS : Hid (p L[j] = false → ∀ k (hk : k < L.length), k < j + 1 → p L[k] = false) := fun hp k hk hkj => by
        by_cases e : k = j
        · subst e; exact hp
        · exact hA.out k hk (by omega)
      clear hA hg
      generalize L[j] = x at *
      unfold Bl.val at hcall
      cases hq2 : p x with
      | true =>
        have hx := hide (hH.out hq2)
        rw [hq2] at hcall
        clear hH hS
        go_wp2_with (go_at_fn g; refine hcall.mono ?_; rintro e w' ⟨rfl, hb'⟩)
        go_ret
        exact ⟨by rw [hx.out]; rfl, hb'⟩
      | false =>
        have hx := hide (hS.out hq2)
        rw [hq2] at hcall
        clear hH hS
        go_wp2_with (go_at_fn g; refine hcall.mono ?_; rintro e w' ⟨rfl, hb'⟩)
        go_round
        case rel => exact ⟨j + 1, by go_num, by omega, hx, hb'⟩
        case measure => simp [intOf]; omega
    · obtain rfl : j = n := by omega
      have hx : Hid (ix p L = -1) := ix_miss (fun x hx => by
        obtain ⟨k, hk, rfl⟩ := List.mem_iff_getElem.1 hx
        exact hA.out k hk (by rw [← HN.out]; exact hk))
      clear hA
      go_wp2
      go_ret
      exact ⟨by rw [hx.out]; rfl, hbl⟩
theorem Bl.contains_any (p : Bl → Bool) (g : Nat) (lb : Array Value) (eg : ∀ args w, (callFunc g args).run Tryz.prog w = .ok (.enter g args) w) (L : List Bl) (a : Option Addr) (n c : Nat) (w : World) (h : SlY yBlA w a n c L)
    (hp : ∀ (W : World) (x : Bl), Below w.heap.size w W → Calls Tryz.prog g (#[x.val] ++ lb) W fun e w' => e = .returned (.bool (p x)) ∧ Below w.heap.size w w') :
    Calls Tryz.prog 102 #[.slice a n c, .func (.func g) #[] lb] w fun e w' => e = .returned (.bool (decide (0 ≤ ix p L))) ∧ Below w.heap.size w w' := by
  have H := hide (Bl.indexA_any p g lb eg L a n c w h hp)
  clear h hp
  go_enter Tryz.func102, Tryz.ntmps102
  go_wp2_with fail
  refine H.out.mono ?_
  rintro e w' ⟨rfl, hb⟩
  go_wp2
  go_ret
  exact ⟨rfl, hb⟩
end Go.Proofs.YtphdnmamopgelaaGreat
namespace Go.Proofs.YtphdnmamopgelaaGreat
open Go.RowKit Go.Maps Go.Shelf
open Classical
theorem ex_mkf8 {o : Oper} {ρ : Operand → Value} {fid : FuncId} {x : Operand} {X : Value} {w : World} (ho : o.op = .makeFunc (.func fid) #[] #[x]) (hx : ρ x = X) : (execOp ρ o).run Tryz.prog w = .ok (.value (.func (.func fid) #[] #[X])) w := by
  unfold execOp
  simp [ho, hx, go_sem]
def Sta.norB (s : Sta) (c : Cg) : Bool := bif (!decide (s.last = s.view) || decide (0 < (((s.M.length : Int) + (s.B.length : Int)) + (s.N.length : Int)))) then false else bif (!decide (s.self = c.pr s.view)) then decide ((s.A.length : Int) = 0) else decide (s.idle = 0) && (!decide (0 ≤ ix (fun a => !inB a.p 1 (s.L.length : Int)) s.A))
def Sta.chgB (s : Sta) (c : Cg) : Bool := bif (decide (s.last = s.view) || decide (0 < ((s.A.length : Int) + (s.N.length : Int)))) then false else bif (!decide (s.self = c.pr s.view)) then decide ((s.B.length : Int) = 0) else decide ((s.B.length : Int) < c.F) && (!decide (0 ≤ ix (fun b => decide (s.view ≤ b.v)) s.B))
def Sta.kpB (s : Sta) (c : Cg) : Bool := bif decide (s.st = 1) then s.norB c else bif decide (s.st = 2) then s.chgB c else bif decide (s.st = 3) then s.recB else false
theorem beyond8 (x : Ak) (s : Sta) (q : Nat) (w : World) (h : SB7 w q s) : Calls Tryz.prog 99 #[x.val, .pointer (some ⟨q, 0, none⟩)] w fun e w' => e = .returned (.bool (!inB x.p 1 (s.L.length : Int))) ∧ Below w.heap.size w w' := by
  have hq := h.lt
  have h2 : w.cell? ⟨q, 2, none⟩ = some (.int .i64 s.view) := h.cell 2 _ rfl
  have h4 : w.cell? ⟨q, 4, none⟩ = some (.slice s.la s.L.length s.lc) := h.cell 4 _ rfl
  have hqw : q ≠ w.heap.size := by omega
  have W8 := hide (fun W => within8 x.p 1 (s.L.length : Int) W)
  clear h
  show Calls Tryz.prog 99 #[.agg #[.int .i64 x.n, .int .u64 x.h, .int .u64 x.l, .int .i64 x.p], .pointer (some ⟨q, 0, none⟩)] w _
  go_enter Tryz.func99, Tryz.ntmps99
  go_wp2_with fail
  refine (W8.out _).mono ?_
  rintro e w2 ⟨rfl, b2⟩
  have b2 := b2
  have bb : Below w.heap.size w w2 := ((Below.refl _ w).alloc (Nat.le_refl _) _).trans (b2.mono (by simp))
  have HB := hide bb
  clear b2 bb
  go_wp2
  go_ret
  exact ⟨rfl, HB.out⟩
theorem late8 (x : Bl) (s : Sta) (q : Nat) (w : World) (h : SB7 w q s) : Calls Tryz.prog 101 #[x.val, .pointer (some ⟨q, 0, none⟩)] w fun e w' => e = .returned (.bool (decide (s.view ≤ x.v))) ∧ Below w.heap.size w w' := by
  have hq := h.lt
  have h2 : w.cell? ⟨q, 2, none⟩ = some (.int .i64 s.view) := h.cell 2 _ rfl
  have h4 : w.cell? ⟨q, 4, none⟩ = some (.slice s.la s.L.length s.lc) := h.cell 4 _ rfl
  have hqw : q ≠ w.heap.size := by omega
  have W8 := hide (fun W => within8 x.v 1 (s.L.length : Int) W)
  clear h
  show Calls Tryz.prog 101 #[.agg #[.int .i64 x.n, .int .u64 x.h, .int .u64 x.l, .int .i64 x.v, .int .i64 x.c, .slice x.s.a x.s.D.length x.s.c], .pointer (some ⟨q, 0, none⟩)] w _
  go_enter Tryz.func101, Tryz.ntmps101
  go_wp2
  go_ret
  exact ⟨rfl, (Below.refl _ w).alloc (Nat.le_refl _) _⟩
set_option maxHeartbeats 1000000 in
theorem normal8 (c : Cg) (s : Sta) (w : World) (hI : s.In w) (hF : s.Fit) : Calls Tryz.prog 59 #[c.val, s.val] w fun e w' => e = .returned (.bool (s.norB c)) ∧ Below w.heap.size w w' := by
  go_enter Tryz.func59, Tryz.ntmps59
  go_upto_region 0 with fail
  refine wp_region_lit ?_
  refine vl_gen (fun T => T.size = 44 ∧ T[0]? = some (gw true (c.val)) ∧ T[1]? = some (gw true (s.val))) ⟨rfl, rfl, rfl⟩ (fun Z0 ⟨hz, s0, s1⟩ => ?_)
  obtain ⟨w1, hw1⟩ : ∃ y, y = w.alloc (.cells c.cs.toArray 23) := ⟨_, rfl⟩
  have hb : Below w.heap.size w w1 := by rw [hw1]; exact (Below.refl _ _).alloc (Nat.le_refl _) _
  have hs1 : w1.heap.size = w.heap.size + 1 := by rw [hw1]; simp
  have HC : CB7 w1 (w.heap.size) c := by rw [hw1]; exact BX7.new _ _ _
  refine vw (.pointer (some ⟨w.heap.size, 0, none⟩)) w1 (want_none rfl) (ex_box8 rfl (ev s0 rfl) (by rw [hw1]; exact bxC7 _ _)) rfl hz (by decide) (fun Z1 zz kk s2x => ?_)
  replace s1 := ku s1
  clear kk hz s0 hw1
  have hz := zz
  have s2 := s2x
  clear zz s2x
  have hB := hb
  clear hb
  obtain ⟨w2, hw2⟩ : ∃ y, y = w1.alloc (.cells s.cs.toArray 33) := ⟨_, rfl⟩
  have hb : Below w1.heap.size w1 w2 := by rw [hw2]; exact (Below.refl _ _).alloc (Nat.le_refl _) _
  have hs2 : w2.heap.size = w.heap.size + 2 := by rw [hw2]; simp; omega
  have HS : SB7 w2 (w.heap.size + 1) s := by rw [hw2, ← hs1]; exact BX7.new _ _ _
  refine vw (.pointer (some ⟨w.heap.size + 1, 0, none⟩)) w2 (want_none rfl) (ex_box8 rfl (ev s1 rfl) (by rw [hw2, ← hs1]; exact bxS7 _ _)) rfl hz (by decide) (fun Z2 zz kk s3x => ?_)
  replace s2 := ku s2
  clear kk hz s1 hw2
  have hz := zz
  have s3 := s3x
  clear zz s3x
  have hB := hB.trans (hb.mono (by omega))
  have HC := HC.bel hb
  clear hb
  have hv0 : Below w2.heap.size w2 w2 := Below.refl _ _
  have HI := hI.later hB
  have f1 := hF.al
  have f2 := hF.ml
  have f3 := hF.bl
  have f4 := hF.nl
  refine vt (.bool false) (ex_assign rfl rfl) hz (fun Ya zz kk s4 => ?_)
  replace s2 := ku s2
  replace s3 := ku s3
  replace hz := zz
  clear kk zz
  clear s4
  refine wpList_nil ?_
  go_upto_region 1 with fail
  refine wp_region_lit ?_
  refine vt (.pointer (some ⟨w.heap.size + 1, 3, none⟩)) (ex_fa rfl (ev s3 rfl) (faS3 _ _)) hz (fun Yb zz kk s6 => ?_)
  replace s2 := ku s2
  replace s3 := ku s3
  replace hz := zz
  clear kk zz
  refine vt (.int .i64 s.last) (ex_ld rfl (ev s6 rfl) (ldI8 (cell8 (HS.cell 3 _ rfl) hv0))) hz (fun Yc zz kk s7 => ?_)
  replace s2 := ku s2
  replace s3 := ku s3
  replace hz := zz
  clear kk zz s6 Yb
  refine vt (.pointer (some ⟨w.heap.size + 1, 2, none⟩)) (ex_fa rfl (ev s3 rfl) (faS2 _ _)) hz (fun Yd zz kk s8 => ?_)
  replace s2 := ku s2
  replace s3 := ku s3
  replace s7 := ku s7
  replace hz := zz
  clear kk zz Yc
  refine vt (.int .i64 s.view) (ex_ld rfl (ev s8 rfl) (ldI8 (cell8 (HS.cell 2 _ rfl) hv0))) hz (fun Ye zz kk s9 => ?_)
  replace s2 := ku s2
  replace s3 := ku s3
  replace s7 := ku s7
  replace hz := zz
  clear kk zz s8 Yd
  refine vt (.bool (!decide (s.last = s.view))) (ex_bin rfl (ev s7 rfl) (ev s9 rfl) (neqC _ _ _ _ _)) hz (fun Yf zz kk s10 => ?_)
  replace s2 := ku s2
  replace s3 := ku s3
  replace hz := zz
  clear kk zz s7 s9 Ye
  refine vt _ (ex_move rfl (ev s10 rfl)) hz (fun Yg zz kk s11 => ?_)
  replace s2 := ku s2
  replace s3 := ku s3
  replace hz := zz
  clear kk zz s10 Yf
  refine vl _ (.pointer (some ⟨w.heap.size + 1, 9, none⟩)) (want_g rfl rfl s11) (fun hc => ex_fa rfl (ev s3 rfl) (faS9 _ _)) rfl hz (by decide) (fun Yh zz kk s12 => ?_)
  replace s2 := ku s2
  replace s3 := ku s3
  replace s11 := ku s11
  replace hz := zz
  clear kk zz Yg
  refine vl _ (.slice s.ma s.M.length s.mc) (want_g rfl rfl s11) (fun hc => ex_ld rfl (ev s12 hc) (ldM8 (cell8 (HS.cell 9 _ rfl) hv0))) rfl hz (by decide) (fun Yi zz kk s13 => ?_)
  replace s2 := ku s2
  replace s3 := ku s3
  replace s11 := ku s11
  replace hz := zz
  clear kk zz s12 Yh
  refine vl _ (.int .i64 (s.M.length : Int)) (want_g rfl rfl s11) (fun hc => ex_lenM8 rfl rfl (ev s13 hc)) rfl hz (by decide) (fun Yj zz kk s14 => ?_)
  replace s2 := ku s2
  replace s3 := ku s3
  replace s11 := ku s11
  replace hz := zz
  clear kk zz s13 Yi
  refine vl _ (.pointer (some ⟨w.heap.size + 1, 10, none⟩)) (want_g rfl rfl s11) (fun hc => ex_fa rfl (ev s3 rfl) (faS10 _ _)) rfl hz (by decide) (fun Yk zz kk s15 => ?_)
  replace s2 := ku s2
  replace s3 := ku s3
  replace s11 := ku s11
  replace s14 := ku s14
  replace hz := zz
  clear kk zz Yj
  refine vl _ (.slice s.ba s.B.length s.bc) (want_g rfl rfl s11) (fun hc => ex_ld rfl (ev s15 hc) (ldB8 (cell8 (HS.cell 10 _ rfl) hv0))) rfl hz (by decide) (fun Yl zz kk s16 => ?_)
  replace s2 := ku s2
  replace s3 := ku s3
  replace s11 := ku s11
  replace s14 := ku s14
  replace hz := zz
  clear kk zz s15 Yk
  refine vl _ (.int .i64 (s.B.length : Int)) (want_g rfl rfl s11) (fun hc => ex_lenB8 rfl rfl (ev s16 hc)) rfl hz (by decide) (fun Ym zz kk s17 => ?_)
  replace s2 := ku s2
  replace s3 := ku s3
  replace s11 := ku s11
  replace s14 := ku s14
  replace hz := zz
  clear kk zz s16 Yl
  refine vl _ (.int .i64 ((s.M.length : Int) + (s.B.length : Int))) (want_g rfl rfl s11) (fun hc => ex_bin rfl (ev s14 hc) (ev s17 hc) (addD8 _ _ (s.M.length : Int) (s.B.length : Int) ((s.M.length : Int) + (s.B.length : Int)) (by rw [IntKind.wrap_i64]; omega) _)) rfl hz (by decide) (fun Yn zz kk s18 => ?_)
  replace s2 := ku s2
  replace s3 := ku s3
  replace s11 := ku s11
  replace hz := zz
  clear kk zz s14 s17 Ym
  refine vl _ (.pointer (some ⟨w.heap.size + 1, 11, none⟩)) (want_g rfl rfl s11) (fun hc => ex_fa rfl (ev s3 rfl) (faS11 _ _)) rfl hz (by decide) (fun Yo zz kk s19 => ?_)
  replace s2 := ku s2
  replace s3 := ku s3
  replace s11 := ku s11
  replace s18 := ku s18
  replace hz := zz
  clear kk zz Yn
  refine vl _ (.slice s.na s.N.length s.nc) (want_g rfl rfl s11) (fun hc => ex_ld rfl (ev s19 hc) (ldN8 (cell8 (HS.cell 11 _ rfl) hv0))) rfl hz (by decide) (fun Yp zz kk s20 => ?_)
  replace s2 := ku s2
  replace s3 := ku s3
  replace s11 := ku s11
  replace s18 := ku s18
  replace hz := zz
  clear kk zz s19 Yo
  refine vl _ (.int .i64 (s.N.length : Int)) (want_g rfl rfl s11) (fun hc => ex_lenN8 rfl rfl (ev s20 hc)) rfl hz (by decide) (fun Yq zz kk s21 => ?_)
  replace s2 := ku s2
  replace s3 := ku s3
  replace s11 := ku s11
  replace s18 := ku s18
  replace hz := zz
  clear kk zz s20 Yp
  refine vl _ (.int .i64 (((s.M.length : Int) + (s.B.length : Int)) + (s.N.length : Int))) (want_g rfl rfl s11) (fun hc => ex_bin rfl (ev s18 hc) (ev s21 hc) (addD8 _ _ ((s.M.length : Int) + (s.B.length : Int)) (s.N.length : Int) (((s.M.length : Int) + (s.B.length : Int)) + (s.N.length : Int)) (by rw [IntKind.wrap_i64]; omega) _)) rfl hz (by decide) (fun Yr zz kk s22 => ?_)
  replace s2 := ku s2
  replace s3 := ku s3
  replace s11 := ku s11
  replace hz := zz
  clear kk zz s18 s21 Yq
  refine vl _ (.bool (decide (0 < (((s.M.length : Int) + (s.B.length : Int)) + (s.N.length : Int))))) (want_g rfl rfl s11) (fun hc => ex_bin rfl (ev s22 hc) rfl (gtrC _ _ _ _ _)) rfl hz (by decide) (fun Ys zz kk s23 => ?_)
  replace s2 := ku s2
  replace s3 := ku s3
  replace s11 := ku s11
  replace hz := zz
  clear kk zz s22 Yr
  refine vt (.bool ((!decide (s.last = s.view)) || (decide (0 < (((s.M.length : Int) + (s.B.length : Int)) + (s.N.length : Int)))))) (ex_or rfl s11 s23 rfl) hz (fun Yt zz kk s24 => ?_)
  replace s2 := ku s2
  replace s3 := ku s3
  replace hz := zz
  clear kk zz s11 s23 Ys
  refine wpList_nil ?_
  go_upto_region 2 with fail
  cases e1 : ((!decide (s.last = s.view)) || (decide (0 < (((s.M.length : Int) + (s.B.length : Int)) + (s.N.length : Int)))))
  rotate_left
  · refine wp_cond_true ((ev s24 rfl).trans (congrArg Value.bool e1)) ?_
    go_upto_region 2 with fail
    refine wp_region_lit ?_
    refine vt (.bool false) (ex_assign rfl rfl) hz (fun Yu zz kk s4 => ?_)
    replace hz := zz
    clear kk zz s2 s3 s24
    refine wpList_nil ?_
    go_wp2
    refine bodyPost_ret (results_tmp rfl _ _ _) rfl ⟨?_, hB.trans (hv0.mono (by omega))⟩
    rw [getD_of s4]
    rw [show s.norB c = false from by unfold Sta.norB; rw [e1]; rfl]
    rfl
  refine wp_cond_false ((ev s24 rfl).trans (congrArg Value.bool e1)) ?_
  clear s24
  go_upto_region 3 with fail
  refine wp_region_lit ?_
  refine vt (c.val) (ex_ld rfl (ev s2 rfl) (CB7.ld (HC.bel hv0))) hz (fun Yv zz kk s25 => ?_)
  replace s2 := ku s2
  replace s3 := ku s3
  replace hz := zz
  clear kk zz
  refine vt (s.val) (ex_ld rfl (ev s3 rfl) (SB7.ld (HS.bel hv0))) hz (fun Yw zz kk s26 => ?_)
  replace s2 := ku s2
  replace s3 := ku s3
  replace s25 := ku s25
  replace hz := zz
  clear kk zz Yv
  refine vcall true (.bool (decide (s.self = c.pr s.view))) (want_none rfl) (fun hc => ex_call rfl (by simp only [List.map_toArray, List.map_cons, List.map_nil, (ev s25 rfl), (ev s26 rfl), evc] <;> rfl) rfl) (fun hc => isprimary8 c s w2) rfl hz (by decide) (fun Yx x1 hb zz kk s27 => ?_)
  have hx1 := hv0.trans (hb.mono hv0.size)
  clear hb
  replace s2 := ku s2
  replace s3 := ku s3
  replace hz := zz
  clear kk zz s25 s26 Yw
  refine vt (.bool (!(decide (s.self = c.pr s.view)))) (ex_not rfl (ev s27 rfl)) hz (fun Yy zz kk s28 => ?_)
  replace s2 := ku s2
  replace s3 := ku s3
  replace hz := zz
  clear kk zz s27 Yx
  refine wpList_nil ?_
  go_upto_region 4 with fail
  cases e2 : (!(decide (s.self = c.pr s.view)))
  rotate_left
  · refine wp_cond_true ((ev s28 rfl).trans (congrArg Value.bool e2)) ?_
    go_upto_region 4 with fail
    refine wp_region_lit ?_
    refine vt (.pointer (some ⟨w.heap.size + 1, 8, none⟩)) (ex_fa rfl (ev s3 rfl) (faS8 _ _)) hz (fun Yz zz kk s29 => ?_)
    replace hz := zz
    clear kk zz s2 s3 s28
    refine vt (.slice s.ka s.A.length s.kc) (ex_ld rfl (ev s29 rfl) (ldK8 (cell8 (HS.cell 8 _ rfl) hx1))) hz (fun Y0 zz kk s30 => ?_)
    replace hz := zz
    clear kk zz s29 Yz
    refine vt (.int .i64 (s.A.length : Int)) (ex_lenK8 rfl rfl (ev s30 rfl)) hz (fun Y1 zz kk s31 => ?_)
    replace hz := zz
    clear kk zz s30 Y0
    refine vt (.bool (decide ((s.A.length : Int) = 0))) (ex_bin rfl (ev s31 rfl) rfl (eqlC _ _ _ _ _)) hz (fun Y2 zz kk s32 => ?_)
    replace hz := zz
    clear kk zz s31 Y1
    refine vt _ (ex_assign rfl (ev s32 rfl)) hz (fun Y3 zz kk s4 => ?_)
    replace hz := zz
    clear kk zz s32 Y2
    refine wpList_nil ?_
    go_wp2
    refine bodyPost_ret (results_tmp rfl _ _ _) rfl ⟨?_, hB.trans (hx1.mono (by omega))⟩
    rw [getD_of s4]
    rw [show s.norB c = decide ((s.A.length : Int) = 0) from by unfold Sta.norB; rw [e1, e2]; rfl]
    rfl
  refine wp_cond_false ((ev s28 rfl).trans (congrArg Value.bool e2)) ?_
  clear s28
  go_upto_region 5 with fail
  refine wp_region_lit ?_
  refine vt (.func (.func 99) #[] #[.pointer (some ⟨w.heap.size + 1, 0, none⟩)]) (ex_mkf8 rfl (ev s3 rfl)) hz (fun Y4 zz kk s33 => ?_)
  replace s2 := ku s2
  replace s3 := ku s3
  replace hz := zz
  clear kk zz
  refine vt _ (ex_assign rfl (ev s33 rfl)) hz (fun Y5 zz kk s5 => ?_)
  replace s2 := ku s2
  replace s3 := ku s3
  replace hz := zz
  clear kk zz s33 Y4
  refine wpList_nil ?_
  go_upto_region 6 with fail
  refine wp_region_lit ?_
  refine vt (.pointer (some ⟨w.heap.size + 1, 7, none⟩)) (ex_fa rfl (ev s3 rfl) (faS7 _ _)) hz (fun Y6 zz kk s34 => ?_)
  replace s3 := ku s3
  replace s5 := ku s5
  replace hz := zz
  clear kk zz s2
  refine vt (.int .i64 s.idle) (ex_ld rfl (ev s34 rfl) (ldI8 (cell8 (HS.cell 7 _ rfl) hx1))) hz (fun Y7 zz kk s35 => ?_)
  replace s3 := ku s3
  replace s5 := ku s5
  replace hz := zz
  clear kk zz s34 Y6
  refine vt (.bool (decide (s.idle = 0))) (ex_bin rfl (ev s35 rfl) rfl (eqlC _ _ _ _ _)) hz (fun Y8 zz kk s36 => ?_)
  replace s3 := ku s3
  replace s5 := ku s5
  replace hz := zz
  clear kk zz s35 Y7
  refine vt _ (ex_move rfl (ev s36 rfl)) hz (fun Y9 zz kk s37 => ?_)
  replace s3 := ku s3
  replace s5 := ku s5
  replace hz := zz
  clear kk zz s36 Y8
  refine vl _ (.pointer (some ⟨w.heap.size + 1, 8, none⟩)) (want_g rfl rfl s37) (fun hc => ex_fa rfl (ev s3 rfl) (faS8 _ _)) rfl hz (by decide) (fun Yba zz kk s38 => ?_)
  replace s5 := ku s5
  replace s37 := ku s37
  replace hz := zz
  clear kk zz s3 Y9
  refine vl _ (.slice s.ka s.A.length s.kc) (want_g rfl rfl s37) (fun hc => ex_ld rfl (ev s38 hc) (ldK8 (cell8 (HS.cell 8 _ rfl) hx1))) rfl hz (by decide) (fun Ybb zz kk s39 => ?_)
  replace s5 := ku s5
  replace s37 := ku s37
  replace hz := zz
  clear kk zz s38 Yba
  refine vl _ _ (want_g rfl rfl s37) (fun hc => ex_move rfl (ev s5 rfl)) rfl hz (by decide) (fun Ybc zz kk s40 => ?_)
  replace s37 := ku s37
  replace s39 := ku s39
  replace hz := zz
  clear kk zz s5 Ybb
  refine vcall (true && ((decide (s.idle = 0)) == true)) (.bool (decide (0 ≤ ix (fun a => !inB a.p 1 (s.L.length : Int)) s.A))) (want_g rfl rfl s37) (fun hc => ex_call rfl (by simp only [List.map_toArray, List.map_cons, List.map_nil, (ev s39 hc), (ev s40 hc), evc] <;> rfl) rfl) (fun hc => Ak.contains_any (fun a => !inB a.p 1 (s.L.length : Int)) 99 #[.pointer (some ⟨w.heap.size + 1, 0, none⟩)] (enters_of Tryz.func99 (by kernel_rfl) rfl) s.A s.ka _ s.kc x1 (HI.a.later hx1) (fun W x hW => bel8 hW (beyond8 x s (w.heap.size + 1) W ((HS.bel hx1).bel hW)) hW.size)) rfl hz (by decide) (fun Ybd x2 hb zz kk s41 => ?_)
  have hx2 := hx1.trans (hb.mono hx1.size)
  clear hb
  replace s37 := ku s37
  replace hz := zz
  clear kk zz s39 s40 Ybc
  refine vl _ (.bool (!(decide (0 ≤ ix (fun a => !inB a.p 1 (s.L.length : Int)) s.A)))) (want_g rfl rfl s37) (fun hc => ex_not rfl (ev s41 hc)) rfl hz (by decide) (fun Ybe zz kk s42 => ?_)
  replace s37 := ku s37
  replace hz := zz
  clear kk zz s41 Ybd
  refine vt (.bool ((decide (s.idle = 0)) && (!(decide (0 ≤ ix (fun a => !inB a.p 1 (s.L.length : Int)) s.A))))) (ex_and rfl s37 s42 rfl) hz (fun Ybf zz kk s43 => ?_)
  replace hz := zz
  clear kk zz s37 s42 Ybe
  refine vt _ (ex_assign rfl (ev s43 rfl)) hz (fun Ybg zz kk s4 => ?_)
  replace hz := zz
  clear kk zz s43 Ybf
  refine wpList_nil ?_
  go_wp2
  refine bodyPost_ret (results_tmp rfl _ _ _) rfl ⟨?_, hB.trans (hx2.mono (by omega))⟩
  rw [getD_of s4]
  unfold Sta.norB
  rw [e1, e2]
  rfl
set_option maxHeartbeats 1000000 in
theorem changing8 (c : Cg) (s : Sta) (w : World) (hI : s.In w) (hF : s.Fit) : Calls Tryz.prog 60 #[c.val, s.val] w fun e w' => e = .returned (.bool (s.chgB c)) ∧ Below w.heap.size w w' := by
  go_enter Tryz.func60, Tryz.ntmps60
  go_upto_region 0 with fail
  refine wp_region_lit ?_
  refine vl_gen (fun T => T.size = 43 ∧ T[0]? = some (gw true (c.val)) ∧ T[1]? = some (gw true (s.val))) ⟨rfl, rfl, rfl⟩ (fun Z0 ⟨hz, s0, s1⟩ => ?_)
  obtain ⟨w1, hw1⟩ : ∃ y, y = w.alloc (.cells c.cs.toArray 23) := ⟨_, rfl⟩
  have hb : Below w.heap.size w w1 := by rw [hw1]; exact (Below.refl _ _).alloc (Nat.le_refl _) _
  have hs1 : w1.heap.size = w.heap.size + 1 := by rw [hw1]; simp
  have HC : CB7 w1 (w.heap.size) c := by rw [hw1]; exact BX7.new _ _ _
  refine vw (.pointer (some ⟨w.heap.size, 0, none⟩)) w1 (want_none rfl) (ex_box8 rfl (ev s0 rfl) (by rw [hw1]; exact bxC7 _ _)) rfl hz (by decide) (fun Z1 zz kk s2x => ?_)
  replace s1 := ku s1
  clear kk hz s0 hw1
  have hz := zz
  have s2 := s2x
  clear zz s2x
  have hB := hb
  clear hb
  obtain ⟨w2, hw2⟩ : ∃ y, y = w1.alloc (.cells s.cs.toArray 33) := ⟨_, rfl⟩
  have hb : Below w1.heap.size w1 w2 := by rw [hw2]; exact (Below.refl _ _).alloc (Nat.le_refl _) _
  have hs2 : w2.heap.size = w.heap.size + 2 := by rw [hw2]; simp; omega
  have HS : SB7 w2 (w.heap.size + 1) s := by rw [hw2, ← hs1]; exact BX7.new _ _ _
  refine vw (.pointer (some ⟨w.heap.size + 1, 0, none⟩)) w2 (want_none rfl) (ex_box8 rfl (ev s1 rfl) (by rw [hw2, ← hs1]; exact bxS7 _ _)) rfl hz (by decide) (fun Z2 zz kk s3x => ?_)
  replace s2 := ku s2
  clear kk hz s1 hw2
  have hz := zz
  have s3 := s3x
  clear zz s3x
  have hB := hB.trans (hb.mono (by omega))
  have HC := HC.bel hb
  clear hb
  have hv0 : Below w2.heap.size w2 w2 := Below.refl _ _
  have HI := hI.later hB
  have f1 := hF.al
  have f2 := hF.ml
  have f3 := hF.bl
  have f4 := hF.nl
  refine vt (.bool false) (ex_assign rfl rfl) hz (fun Ya zz kk s4 => ?_)
  replace s2 := ku s2
  replace s3 := ku s3
  replace hz := zz
  clear kk zz
  clear s4
  refine wpList_nil ?_
  go_upto_region 1 with fail
  refine wp_region_lit ?_
  refine vt (.pointer (some ⟨w.heap.size + 1, 3, none⟩)) (ex_fa rfl (ev s3 rfl) (faS3 _ _)) hz (fun Yb zz kk s6 => ?_)
  replace s2 := ku s2
  replace s3 := ku s3
  replace hz := zz
  clear kk zz
  refine vt (.int .i64 s.last) (ex_ld rfl (ev s6 rfl) (ldI8 (cell8 (HS.cell 3 _ rfl) hv0))) hz (fun Yc zz kk s7 => ?_)
  replace s2 := ku s2
  replace s3 := ku s3
  replace hz := zz
  clear kk zz s6 Yb
  refine vt (.pointer (some ⟨w.heap.size + 1, 2, none⟩)) (ex_fa rfl (ev s3 rfl) (faS2 _ _)) hz (fun Yd zz kk s8 => ?_)
  replace s2 := ku s2
  replace s3 := ku s3
  replace s7 := ku s7
  replace hz := zz
  clear kk zz Yc
  refine vt (.int .i64 s.view) (ex_ld rfl (ev s8 rfl) (ldI8 (cell8 (HS.cell 2 _ rfl) hv0))) hz (fun Ye zz kk s9 => ?_)
  replace s2 := ku s2
  replace s3 := ku s3
  replace s7 := ku s7
  replace hz := zz
  clear kk zz s8 Yd
  refine vt (.bool (decide (s.last = s.view))) (ex_bin rfl (ev s7 rfl) (ev s9 rfl) (eqlC _ _ _ _ _)) hz (fun Yf zz kk s10 => ?_)
  replace s2 := ku s2
  replace s3 := ku s3
  replace hz := zz
  clear kk zz s7 s9 Ye
  refine vt _ (ex_move rfl (ev s10 rfl)) hz (fun Yg zz kk s11 => ?_)
  replace s2 := ku s2
  replace s3 := ku s3
  replace hz := zz
  clear kk zz s10 Yf
  refine vl _ (.pointer (some ⟨w.heap.size + 1, 8, none⟩)) (want_g rfl rfl s11) (fun hc => ex_fa rfl (ev s3 rfl) (faS8 _ _)) rfl hz (by decide) (fun Yh zz kk s12 => ?_)
  replace s2 := ku s2
  replace s3 := ku s3
  replace s11 := ku s11
  replace hz := zz
  clear kk zz Yg
  refine vl _ (.slice s.ka s.A.length s.kc) (want_g rfl rfl s11) (fun hc => ex_ld rfl (ev s12 hc) (ldK8 (cell8 (HS.cell 8 _ rfl) hv0))) rfl hz (by decide) (fun Yi zz kk s13 => ?_)
  replace s2 := ku s2
  replace s3 := ku s3
  replace s11 := ku s11
  replace hz := zz
  clear kk zz s12 Yh
  refine vl _ (.int .i64 (s.A.length : Int)) (want_g rfl rfl s11) (fun hc => ex_lenK8 rfl rfl (ev s13 hc)) rfl hz (by decide) (fun Yj zz kk s14 => ?_)
  replace s2 := ku s2
  replace s3 := ku s3
  replace s11 := ku s11
  replace hz := zz
  clear kk zz s13 Yi
  refine vl _ (.pointer (some ⟨w.heap.size + 1, 11, none⟩)) (want_g rfl rfl s11) (fun hc => ex_fa rfl (ev s3 rfl) (faS11 _ _)) rfl hz (by decide) (fun Yk zz kk s15 => ?_)
  replace s2 := ku s2
  replace s3 := ku s3
  replace s11 := ku s11
  replace s14 := ku s14
  replace hz := zz
  clear kk zz Yj
  refine vl _ (.slice s.na s.N.length s.nc) (want_g rfl rfl s11) (fun hc => ex_ld rfl (ev s15 hc) (ldN8 (cell8 (HS.cell 11 _ rfl) hv0))) rfl hz (by decide) (fun Yl zz kk s16 => ?_)
  replace s2 := ku s2
  replace s3 := ku s3
  replace s11 := ku s11
  replace s14 := ku s14
  replace hz := zz
  clear kk zz s15 Yk
  refine vl _ (.int .i64 (s.N.length : Int)) (want_g rfl rfl s11) (fun hc => ex_lenN8 rfl rfl (ev s16 hc)) rfl hz (by decide) (fun Ym zz kk s17 => ?_)
  replace s2 := ku s2
  replace s3 := ku s3
  replace s11 := ku s11
  replace s14 := ku s14
  replace hz := zz
  clear kk zz s16 Yl
  refine vl _ (.int .i64 ((s.A.length : Int) + (s.N.length : Int))) (want_g rfl rfl s11) (fun hc => ex_bin rfl (ev s14 hc) (ev s17 hc) (addD8 _ _ (s.A.length : Int) (s.N.length : Int) ((s.A.length : Int) + (s.N.length : Int)) (by rw [IntKind.wrap_i64]; omega) _)) rfl hz (by decide) (fun Yn zz kk s18 => ?_)
  replace s2 := ku s2
  replace s3 := ku s3
  replace s11 := ku s11
  replace hz := zz
  clear kk zz s14 s17 Ym
  refine vl _ (.bool (decide (0 < ((s.A.length : Int) + (s.N.length : Int))))) (want_g rfl rfl s11) (fun hc => ex_bin rfl (ev s18 hc) rfl (gtrC _ _ _ _ _)) rfl hz (by decide) (fun Yo zz kk s19 => ?_)
  replace s2 := ku s2
  replace s3 := ku s3
  replace s11 := ku s11
  replace hz := zz
  clear kk zz s18 Yn
  refine vt (.bool ((decide (s.last = s.view)) || (decide (0 < ((s.A.length : Int) + (s.N.length : Int)))))) (ex_or rfl s11 s19 rfl) hz (fun Yp zz kk s20 => ?_)
  replace s2 := ku s2
  replace s3 := ku s3
  replace hz := zz
  clear kk zz s11 s19 Yo
  refine wpList_nil ?_
  go_upto_region 2 with fail
  cases e1 : ((decide (s.last = s.view)) || (decide (0 < ((s.A.length : Int) + (s.N.length : Int)))))
  rotate_left
  · refine wp_cond_true ((ev s20 rfl).trans (congrArg Value.bool e1)) ?_
    go_upto_region 2 with fail
    refine wp_region_lit ?_
    refine vt (.bool false) (ex_assign rfl rfl) hz (fun Yq zz kk s4 => ?_)
    replace hz := zz
    clear kk zz s2 s3 s20
    refine wpList_nil ?_
    go_wp2
    refine bodyPost_ret (results_tmp rfl _ _ _) rfl ⟨?_, hB.trans (hv0.mono (by omega))⟩
    rw [getD_of s4]
    rw [show s.chgB c = false from by unfold Sta.chgB; rw [e1]; rfl]
    rfl
  refine wp_cond_false ((ev s20 rfl).trans (congrArg Value.bool e1)) ?_
  clear s20
  go_upto_region 3 with fail
  refine wp_region_lit ?_
  refine vt (c.val) (ex_ld rfl (ev s2 rfl) (CB7.ld (HC.bel hv0))) hz (fun Yr zz kk s21 => ?_)
  replace s2 := ku s2
  replace s3 := ku s3
  replace hz := zz
  clear kk zz
  refine vt (s.val) (ex_ld rfl (ev s3 rfl) (SB7.ld (HS.bel hv0))) hz (fun Ys zz kk s22 => ?_)
  replace s2 := ku s2
  replace s3 := ku s3
  replace s21 := ku s21
  replace hz := zz
  clear kk zz Yr
  refine vcall true (.bool (decide (s.self = c.pr s.view))) (want_none rfl) (fun hc => ex_call rfl (by simp only [List.map_toArray, List.map_cons, List.map_nil, (ev s21 rfl), (ev s22 rfl), evc] <;> rfl) rfl) (fun hc => isprimary8 c s w2) rfl hz (by decide) (fun Yt x1 hb zz kk s23 => ?_)
  have hx1 := hv0.trans (hb.mono hv0.size)
  clear hb
  replace s2 := ku s2
  replace s3 := ku s3
  replace hz := zz
  clear kk zz s21 s22 Ys
  refine vt (.bool (!(decide (s.self = c.pr s.view)))) (ex_not rfl (ev s23 rfl)) hz (fun Yu zz kk s24 => ?_)
  replace s2 := ku s2
  replace s3 := ku s3
  replace hz := zz
  clear kk zz s23 Yt
  refine wpList_nil ?_
  go_upto_region 4 with fail
  cases e2 : (!(decide (s.self = c.pr s.view)))
  rotate_left
  · refine wp_cond_true ((ev s24 rfl).trans (congrArg Value.bool e2)) ?_
    go_upto_region 4 with fail
    refine wp_region_lit ?_
    refine vt (.pointer (some ⟨w.heap.size + 1, 10, none⟩)) (ex_fa rfl (ev s3 rfl) (faS10 _ _)) hz (fun Yv zz kk s25 => ?_)
    replace hz := zz
    clear kk zz s2 s3 s24
    refine vt (.slice s.ba s.B.length s.bc) (ex_ld rfl (ev s25 rfl) (ldB8 (cell8 (HS.cell 10 _ rfl) hx1))) hz (fun Yw zz kk s26 => ?_)
    replace hz := zz
    clear kk zz s25 Yv
    refine vt (.int .i64 (s.B.length : Int)) (ex_lenB8 rfl rfl (ev s26 rfl)) hz (fun Yx zz kk s27 => ?_)
    replace hz := zz
    clear kk zz s26 Yw
    refine vt (.bool (decide ((s.B.length : Int) = 0))) (ex_bin rfl (ev s27 rfl) rfl (eqlC _ _ _ _ _)) hz (fun Yy zz kk s28 => ?_)
    replace hz := zz
    clear kk zz s27 Yx
    refine vt _ (ex_assign rfl (ev s28 rfl)) hz (fun Yz zz kk s4 => ?_)
    replace hz := zz
    clear kk zz s28 Yy
    refine wpList_nil ?_
    go_wp2
    refine bodyPost_ret (results_tmp rfl _ _ _) rfl ⟨?_, hB.trans (hx1.mono (by omega))⟩
    rw [getD_of s4]
    rw [show s.chgB c = decide ((s.B.length : Int) = 0) from by unfold Sta.chgB; rw [e1, e2]; rfl]
    rfl
  refine wp_cond_false ((ev s24 rfl).trans (congrArg Value.bool e2)) ?_
  clear s24
  go_upto_region 5 with fail
  refine wp_region_lit ?_
  refine vt (.func (.func 101) #[] #[.pointer (some ⟨w.heap.size + 1, 0, none⟩)]) (ex_mkf8 rfl (ev s3 rfl)) hz (fun Y0 zz kk s29 => ?_)
  replace s2 := ku s2
  replace s3 := ku s3
  replace hz := zz
  clear kk zz
  refine vt _ (ex_assign rfl (ev s29 rfl)) hz (fun Y1 zz kk s5 => ?_)
  replace s2 := ku s2
  replace s3 := ku s3
  replace hz := zz
  clear kk zz s29 Y0
  refine wpList_nil ?_
  go_upto_region 6 with fail
  refine wp_region_lit ?_
  refine vt (.pointer (some ⟨w.heap.size + 1, 10, none⟩)) (ex_fa rfl (ev s3 rfl) (faS10 _ _)) hz (fun Y2 zz kk s30 => ?_)
  replace s2 := ku s2
  replace s3 := ku s3
  replace s5 := ku s5
  replace hz := zz
  clear kk zz
  refine vt (.slice s.ba s.B.length s.bc) (ex_ld rfl (ev s30 rfl) (ldB8 (cell8 (HS.cell 10 _ rfl) hx1))) hz (fun Y3 zz kk s31 => ?_)
  replace s2 := ku s2
  replace s3 := ku s3
  replace s5 := ku s5
  replace hz := zz
  clear kk zz s30 Y2
  refine vt (.int .i64 (s.B.length : Int)) (ex_lenB8 rfl rfl (ev s31 rfl)) hz (fun Y4 zz kk s32 => ?_)
  replace s2 := ku s2
  replace s3 := ku s3
  replace s5 := ku s5
  replace hz := zz
  clear kk zz s31 Y3
  refine vt (.pointer (some ⟨w.heap.size, 0, none⟩)) (ex_fa rfl (ev s2 rfl) (faC0 _ _)) hz (fun Y5 zz kk s33 => ?_)
  replace s3 := ku s3
  replace s5 := ku s5
  replace s32 := ku s32
  replace hz := zz
  clear kk zz s2 Y4
  refine vt (.int .i64 c.F) (ex_ld rfl (ev s33 rfl) (ldI8 (cell8 (HC.cell 0 _ rfl) hx1))) hz (fun Y6 zz kk s34 => ?_)
  replace s3 := ku s3
  replace s5 := ku s5
  replace s32 := ku s32
  replace hz := zz
  clear kk zz s33 Y5
  refine vt (.bool (decide ((s.B.length : Int) < c.F))) (ex_bin rfl (ev s32 rfl) (ev s34 rfl) (lssC _ _ _ _ _)) hz (fun Y7 zz kk s35 => ?_)
  replace s3 := ku s3
  replace s5 := ku s5
  replace hz := zz
  clear kk zz s32 s34 Y6
  refine vt _ (ex_move rfl (ev s35 rfl)) hz (fun Y8 zz kk s36 => ?_)
  replace s3 := ku s3
  replace s5 := ku s5
  replace hz := zz
  clear kk zz s35 Y7
  refine vl _ (.pointer (some ⟨w.heap.size + 1, 10, none⟩)) (want_g rfl rfl s36) (fun hc => ex_fa rfl (ev s3 rfl) (faS10 _ _)) rfl hz (by decide) (fun Y9 zz kk s37 => ?_)
  replace s5 := ku s5
  replace s36 := ku s36
  replace hz := zz
  clear kk zz s3 Y8
  refine vl _ (.slice s.ba s.B.length s.bc) (want_g rfl rfl s36) (fun hc => ex_ld rfl (ev s37 hc) (ldB8 (cell8 (HS.cell 10 _ rfl) hx1))) rfl hz (by decide) (fun Yba zz kk s38 => ?_)
  replace s5 := ku s5
  replace s36 := ku s36
  replace hz := zz
  clear kk zz s37 Y9
  refine vl _ _ (want_g rfl rfl s36) (fun hc => ex_move rfl (ev s5 rfl)) rfl hz (by decide) (fun Ybb zz kk s39 => ?_)
  replace s36 := ku s36
  replace s38 := ku s38
  replace hz := zz
  clear kk zz s5 Yba
  refine vcall (true && ((decide ((s.B.length : Int) < c.F)) == true)) (.bool (decide (0 ≤ ix (fun b => decide (s.view ≤ b.v)) s.B))) (want_g rfl rfl s36) (fun hc => ex_call rfl (by simp only [List.map_toArray, List.map_cons, List.map_nil, (ev s38 hc), (ev s39 hc), evc] <;> rfl) rfl) (fun hc => Bl.contains_any (fun b => decide (s.view ≤ b.v)) 101 #[.pointer (some ⟨w.heap.size + 1, 0, none⟩)] (enters_of Tryz.func101 (by kernel_rfl) rfl) s.B s.ba _ s.bc x1 (HI.b.later hx1) (fun W x hW => bel8 hW (late8 x s (w.heap.size + 1) W ((HS.bel hx1).bel hW)) hW.size)) rfl hz (by decide) (fun Ybc x2 hb zz kk s40 => ?_)
  have hx2 := hx1.trans (hb.mono hx1.size)
  clear hb
  replace s36 := ku s36
  replace hz := zz
  clear kk zz s38 s39 Ybb
  refine vl _ (.bool (!(decide (0 ≤ ix (fun b => decide (s.view ≤ b.v)) s.B)))) (want_g rfl rfl s36) (fun hc => ex_not rfl (ev s40 hc)) rfl hz (by decide) (fun Ybd zz kk s41 => ?_)
  replace s36 := ku s36
  replace hz := zz
  clear kk zz s40 Ybc
  refine vt (.bool ((decide ((s.B.length : Int) < c.F)) && (!(decide (0 ≤ ix (fun b => decide (s.view ≤ b.v)) s.B))))) (ex_and rfl s36 s41 rfl) hz (fun Ybe zz kk s42 => ?_)
  replace hz := zz
  clear kk zz s36 s41 Ybd
  refine vt _ (ex_assign rfl (ev s42 rfl)) hz (fun Ybf zz kk s4 => ?_)
  replace hz := zz
  clear kk zz s42 Ybe
  refine wpList_nil ?_
  go_wp2
  refine bodyPost_ret (results_tmp rfl _ _ _) rfl ⟨?_, hB.trans (hx2.mono (by omega))⟩
  rw [getD_of s4]
  unfold Sta.chgB
  rw [e1, e2]
  rfl
set_option maxHeartbeats 1000000 in
theorem keeps8 (c : Cg) (s : Sta) (w : World) (hI : s.In w) (hF : s.Fit) (hs : 0 ≤ s.self ∧ s.self < (s.V.length : Int)) : Calls Tryz.prog 39 #[c.val, s.val] w fun e w' => e = .returned (.bool (s.kpB c)) ∧ Below w.heap.size w w' := by
  go_enter Tryz.func39, Tryz.ntmps39
  go_upto_region 0 with fail
  refine wp_region_lit ?_
  refine vl_gen (fun T => T.size = 21 ∧ T[0]? = some (gw true (c.val)) ∧ T[1]? = some (gw true (s.val))) ⟨rfl, rfl, rfl⟩ (fun Z0 ⟨hz, s0, s1⟩ => ?_)
  obtain ⟨w1, hw1⟩ : ∃ y, y = w.alloc (.cells c.cs.toArray 23) := ⟨_, rfl⟩
  have hb : Below w.heap.size w w1 := by rw [hw1]; exact (Below.refl _ _).alloc (Nat.le_refl _) _
  have hs1 : w1.heap.size = w.heap.size + 1 := by rw [hw1]; simp
  have HC : CB7 w1 (w.heap.size) c := by rw [hw1]; exact BX7.new _ _ _
  refine vw (.pointer (some ⟨w.heap.size, 0, none⟩)) w1 (want_none rfl) (ex_box8 rfl (ev s0 rfl) (by rw [hw1]; exact bxC7 _ _)) rfl hz (by decide) (fun Z1 zz kk s2x => ?_)
  replace s1 := ku s1
  clear kk hz s0 hw1
  have hz := zz
  have s2 := s2x
  clear zz s2x
  have hB := hb
  clear hb
  obtain ⟨w2, hw2⟩ : ∃ y, y = w1.alloc (.cells s.cs.toArray 33) := ⟨_, rfl⟩
  have hb : Below w1.heap.size w1 w2 := by rw [hw2]; exact (Below.refl _ _).alloc (Nat.le_refl _) _
  have hs2 : w2.heap.size = w.heap.size + 2 := by rw [hw2]; simp; omega
  have HS : SB7 w2 (w.heap.size + 1) s := by rw [hw2, ← hs1]; exact BX7.new _ _ _
  refine vw (.pointer (some ⟨w.heap.size + 1, 0, none⟩)) w2 (want_none rfl) (ex_box8 rfl (ev s1 rfl) (by rw [hw2, ← hs1]; exact bxS7 _ _)) rfl hz (by decide) (fun Z2 zz kk s3x => ?_)
  replace s2 := ku s2
  clear kk hz s1 hw2
  have hz := zz
  have s3 := s3x
  clear zz s3x
  have hB := hB.trans (hb.mono (by omega))
  have HC := HC.bel hb
  clear hb
  have hv0 : Below w2.heap.size w2 w2 := Below.refl _ _
  have HI := hI.later hB
  have f1 := hF.al
  have f2 := hF.ml
  have f3 := hF.bl
  have f4 := hF.nl
  refine vt (.bool false) (ex_assign rfl rfl) hz (fun Ya zz kk s4 => ?_)
  replace s2 := ku s2
  replace s3 := ku s3
  replace hz := zz
  clear kk zz
  clear s4
  refine wpList_nil ?_
  go_upto_region 1 with fail
  refine wp_region_lit ?_
  refine vt (.pointer (some ⟨w.heap.size + 1, 1, none⟩)) (ex_fa rfl (ev s3 rfl) (faS1 _ _)) hz (fun Yb zz kk s5 => ?_)
  replace s2 := ku s2
  replace s3 := ku s3
  replace hz := zz
  clear kk zz
  refine vt (.int .i64 s.st) (ex_ld rfl (ev s5 rfl) (ldT8 (cell8 (HS.cell 1 _ rfl) hv0))) hz (fun Yc zz kk s6 => ?_)
  replace s2 := ku s2
  replace s3 := ku s3
  replace hz := zz
  clear kk zz s5 Yb
  refine wpList_nil ?_
  go_upto_region 2 with fail
  refine wp_region_lit ?_
  refine vt (.bool (decide (s.st = 1))) (ex_bin rfl (ev s6 rfl) rfl (eqlT8 _ _ _ _ _)) hz (fun Yd zz kk s8 => ?_)
  replace s2 := ku s2
  replace s3 := ku s3
  replace s6 := ku s6
  replace hz := zz
  clear kk zz
  refine vt _ (ex_assign rfl (ev s8 rfl)) hz (fun Ye zz kk s7 => ?_)
  replace s2 := ku s2
  replace s3 := ku s3
  replace s6 := ku s6
  replace hz := zz
  clear kk zz s8 Yd
  refine wpList_nil ?_
  go_upto_region 3 with fail
  cases e1 : decide (s.st = 1)
  rotate_left
  · refine wp_cond_true ((ev s7 rfl).trans (congrArg Value.bool e1)) ?_
    go_upto_region 3 with fail
    refine wp_region_lit ?_
    refine vt (c.val) (ex_ld rfl (ev s2 rfl) (CB7.ld (HC.bel hv0))) hz (fun Yf zz kk s9 => ?_)
    replace s3 := ku s3
    replace hz := zz
    clear kk zz s2 s6 s7
    refine vt (s.val) (ex_ld rfl (ev s3 rfl) (SB7.ld (HS.bel hv0))) hz (fun Yg zz kk s10 => ?_)
    replace s9 := ku s9
    replace hz := zz
    clear kk zz s3 Yf
    refine vcall true (.bool (s.norB c)) (want_none rfl) (fun hc => ex_call rfl (by simp only [List.map_toArray, List.map_cons, List.map_nil, (ev s9 rfl), (ev s10 rfl), evc] <;> rfl) rfl) (fun hc => normal8 c s w2 (HI.later hv0) hF) rfl hz (by decide) (fun Yh x1 hb zz kk s11 => ?_)
    have hx1 := hv0.trans (hb.mono hv0.size)
    clear hb
    replace hz := zz
    clear kk zz s9 s10 Yg
    refine vt _ (ex_assign rfl (ev s11 rfl)) hz (fun Yi zz kk s4 => ?_)
    replace hz := zz
    clear kk zz s11 Yh
    refine wpList_nil ?_
    go_wp2
    refine bodyPost_ret (results_tmp rfl _ _ _) rfl ⟨?_, hB.trans (hx1.mono (by omega))⟩
    rw [getD_of s4]
    unfold Sta.kpB
    rw [e1]
    rfl
  refine wp_cond_false ((ev s7 rfl).trans (congrArg Value.bool e1)) ?_
  clear s7
  go_upto_region 4 with fail
  refine wp_region_lit ?_
  refine vt (.bool (decide (s.st = 2))) (ex_bin rfl (ev s6 rfl) rfl (eqlT8 _ _ _ _ _)) hz (fun Yj zz kk s13 => ?_)
  replace s2 := ku s2
  replace s3 := ku s3
  replace s6 := ku s6
  replace hz := zz
  clear kk zz
  refine vt _ (ex_assign rfl (ev s13 rfl)) hz (fun Yk zz kk s12 => ?_)
  replace s2 := ku s2
  replace s3 := ku s3
  replace s6 := ku s6
  replace hz := zz
  clear kk zz s13 Yj
  refine wpList_nil ?_
  go_upto_region 5 with fail
  cases e2 : decide (s.st = 2)
  rotate_left
  · refine wp_cond_true ((ev s12 rfl).trans (congrArg Value.bool e2)) ?_
    go_upto_region 5 with fail
    refine wp_region_lit ?_
    refine vt (c.val) (ex_ld rfl (ev s2 rfl) (CB7.ld (HC.bel hv0))) hz (fun Yl zz kk s14 => ?_)
    replace s3 := ku s3
    replace hz := zz
    clear kk zz s2 s6 s12
    refine vt (s.val) (ex_ld rfl (ev s3 rfl) (SB7.ld (HS.bel hv0))) hz (fun Ym zz kk s15 => ?_)
    replace s14 := ku s14
    replace hz := zz
    clear kk zz s3 Yl
    refine vcall true (.bool (s.chgB c)) (want_none rfl) (fun hc => ex_call rfl (by simp only [List.map_toArray, List.map_cons, List.map_nil, (ev s14 rfl), (ev s15 rfl), evc] <;> rfl) rfl) (fun hc => changing8 c s w2 (HI.later hv0) hF) rfl hz (by decide) (fun Yn x2 hb zz kk s16 => ?_)
    have hx2 := hv0.trans (hb.mono hv0.size)
    clear hb
    replace hz := zz
    clear kk zz s14 s15 Ym
    refine vt _ (ex_assign rfl (ev s16 rfl)) hz (fun Yo zz kk s4 => ?_)
    replace hz := zz
    clear kk zz s16 Yn
    refine wpList_nil ?_
    go_wp2
    refine bodyPost_ret (results_tmp rfl _ _ _) rfl ⟨?_, hB.trans (hx2.mono (by omega))⟩
    rw [getD_of s4]
    unfold Sta.kpB
    rw [e1, e2]
    rfl
  refine wp_cond_false ((ev s12 rfl).trans (congrArg Value.bool e2)) ?_
  clear s12
  go_upto_region 6 with fail
  refine wp_region_lit ?_
  refine vt (.bool (decide (s.st = 3))) (ex_bin rfl (ev s6 rfl) rfl (eqlT8 _ _ _ _ _)) hz (fun Yp zz kk s18 => ?_)
  replace s2 := ku s2
  replace s3 := ku s3
  replace s6 := ku s6
  replace hz := zz
  clear kk zz
  refine vt _ (ex_assign rfl (ev s18 rfl)) hz (fun Yq zz kk s17 => ?_)
  replace s2 := ku s2
  replace s3 := ku s3
  replace s6 := ku s6
  replace hz := zz
  clear kk zz s18 Yp
  refine wpList_nil ?_
  go_upto_region 7 with fail
  cases e3 : decide (s.st = 3)
  rotate_left
  · refine wp_cond_true ((ev s17 rfl).trans (congrArg Value.bool e3)) ?_
    go_upto_region 7 with fail
    refine wp_region_lit ?_
    refine vt (s.val) (ex_ld rfl (ev s3 rfl) (SB7.ld (HS.bel hv0))) hz (fun Yr zz kk s19 => ?_)
    replace hz := zz
    clear kk zz s2 s3 s6 s17
    refine vcall true (.bool s.recB) (want_none rfl) (fun hc => ex_call rfl (by simp only [List.map_toArray, List.map_cons, List.map_nil, (ev s19 rfl), evc] <;> rfl) rfl) (fun hc => recovering8 s w2 (HI.later hv0) hF hs) rfl hz (by decide) (fun Ys x3 hb zz kk s20 => ?_)
    have hx3 := hv0.trans (hb.mono hv0.size)
    clear hb
    replace hz := zz
    clear kk zz s19 Yr
    refine vt _ (ex_assign rfl (ev s20 rfl)) hz (fun Yt zz kk s4 => ?_)
    replace hz := zz
    clear kk zz s20 Ys
    refine wpList_nil ?_
    go_wp2
    refine bodyPost_ret (results_tmp rfl _ _ _) rfl ⟨?_, hB.trans (hx3.mono (by omega))⟩
    rw [getD_of s4]
    unfold Sta.kpB
    rw [e1, e2, e3]
    rfl
  refine wp_cond_false ((ev s17 rfl).trans (congrArg Value.bool e3)) ?_
  clear s17
  go_upto_region 8 with fail
  refine wp_region_lit ?_
  refine vt (.bool false) (ex_assign rfl rfl) hz (fun Yu zz kk s4 => ?_)
  replace hz := zz
  clear kk zz s2 s3 s6
  refine wpList_nil ?_
  go_wp2
  refine bodyPost_ret (results_tmp rfl _ _ _) rfl ⟨?_, hB.trans (hv0.mono (by omega))⟩
  rw [getD_of s4]
  unfold Sta.kpB
  rw [e1, e2, e3]
  rfl
end Go.Proofs.YtphdnmamopgelaaGreat
