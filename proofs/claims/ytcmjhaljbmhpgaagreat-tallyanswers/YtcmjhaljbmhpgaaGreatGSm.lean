import Derived.Test.YtcmjhaljbmhpgaaGreatSa
namespace Go.Proofs.YtcmjhaljbmhpgaaGreat
open Go.RowKit Go.Maps
open Classical
set_option linter.unusedVariables false
set_option linter.unusedSimpArgs false

/-- A vote: mark. -/
structure Mk where
  n : Int
  h : Int
  l : Int

def Mk.cs (x : Mk) : List Value := [.int .i64 x.n, .int .u64 x.h, .int .u64 x.l]
def Mk.val (x : Mk) : Value := .agg #[.int .i64 x.n, .int .u64 x.h, .int .u64 x.l]
def yMkA : Lay Mk := ⟨109, 101, 3, 24, Mk.cs, ⟨0, 0, 0⟩⟩
def yMkV : Lay Mk := ⟨156, 158, 3, 24, Mk.cs, ⟨0, 0, 0⟩⟩
theorem kMkA : yMkA.Ok := ⟨by decide, fun x => rfl, fun x u h => by
    simp [yMkA, Mk.cs] at h
    rcases h with rfl | rfl | rfl <;> rfl, Tryz.underlying101, ⟨.agg #[.int .i64 (⟨0, 0, 0⟩ : Mk).n, .int .u64 (⟨0, 0, 0⟩ : Mk).h, .int .u64 (⟨0, 0, 0⟩ : Mk).l], by kernel_rfl, rfl⟩⟩
theorem kMkV : yMkV.Ok := ⟨by decide, fun x => rfl, fun x u h => by
    simp [yMkV, Mk.cs] at h
    rcases h with rfl | rfl | rfl <;> rfl, Tryz.underlying158, ⟨.agg #[.int .i64 (⟨0, 0, 0⟩ : Mk).n, .int .u64 (⟨0, 0, 0⟩ : Mk).h, .int .u64 (⟨0, 0, 0⟩ : Mk).l], by kernel_rfl, rfl⟩⟩
theorem SlY.MkA {w : World} {a : Option Addr} {n c : Nat} {L : List Mk} (h : SlY yMkA w a n c L) {j : Nat} {x : Mk} (hx : L[j]? = some x) : ∃ q o, a = some ⟨q, o, none⟩ ∧ q < w.heap.size ∧ w.cell? ⟨q, o + j * 3, none⟩ = some (.int .i64 x.n) ∧ w.cell? ⟨q, o + j * 3 + 1, none⟩ = some (.int .u64 x.h) ∧ w.cell? ⟨q, o + j * 3 + 2, none⟩ = some (.int .u64 x.l) := by
  obtain ⟨q, o, ea, hq, hl⟩ := h.place (by rintro rfl; simp at hx)
  exact ⟨q, o, ea, hq, hl j x hx 0 _ rfl, hl j x hx 1 _ rfl, hl j x hx 2 _ rfl⟩
theorem SlY.MkV {w : World} {a : Option Addr} {n c : Nat} {L : List Mk} (h : SlY yMkV w a n c L) {j : Nat} {x : Mk} (hx : L[j]? = some x) : ∃ q o, a = some ⟨q, o, none⟩ ∧ q < w.heap.size ∧ w.cell? ⟨q, o + j * 3, none⟩ = some (.int .i64 x.n) ∧ w.cell? ⟨q, o + j * 3 + 1, none⟩ = some (.int .u64 x.h) ∧ w.cell? ⟨q, o + j * 3 + 2, none⟩ = some (.int .u64 x.l) := by
  obtain ⟨q, o, ea, hq, hl⟩ := h.place (by rintro rfl; simp at hx)
  exact ⟨q, o, ea, hq, hl j x hx 0 _ rfl, hl j x hx 1 _ rfl, hl j x hx 2 _ rfl⟩
theorem Mk.node_any (x : Mk) (w : World) : Calls Tryz.prog 211 #[x.val] w fun e w' => e = .returned (.int .i64 x.n) ∧ Below w.heap.size w w' := by
  show Calls Tryz.prog 211 #[.agg #[.int .i64 x.n, .int .u64 x.h, .int .u64 x.l]] w _
  go_enter Tryz.func211, Tryz.ntmps211
  go_wp2
  go_ret
  exact ⟨rfl, (Below.refl _ _).alloc (Nat.le_refl _) _⟩
theorem Mk.draw_any (x : Mk) (w : World) : Calls Tryz.prog 208 #[x.val] w fun e w' => e = .returned (.agg #[.int .u64 x.h, .int .u64 x.l]) ∧ Below w.heap.size w w' := by
  show Calls Tryz.prog 208 #[.agg #[.int .i64 x.n, .int .u64 x.h, .int .u64 x.l]] w _
  go_enter Tryz.func208, Tryz.ntmps208
  go_wp2
  refine bodyPost_ret (v := .agg #[.int .u64 x.h, .int .u64 x.l]) (by simp [results, Tryz.results208, go_sem]) rfl ?_
  exact ⟨rfl, by (repeat (first | exact Below.refl _ _ | assumption | refine Below.drew ?_ | refine Below.alloc ?_ (by first | (simp; done) | (simp; omega) | omega) _ | refine Below.setCell ?_ (by first | (simp; done) | (simp; omega) | omega) _))⟩
theorem Mk.as_any (x : Mk) (w : World) : Calls Tryz.prog 104 #[x.val] w fun e w' => e = .returned x.val ∧ Below w.heap.size w w' := by
  show Calls Tryz.prog 104 #[.agg #[.int .i64 x.n, .int .u64 x.h, .int .u64 x.l]] w _
  go_enter Tryz.func104, Tryz.ntmps104
  go_wp2
  refine bodyPost_ret (v := x.val) (by simp [results, Tryz.results104, go_sem, Mk.val]) rfl ?_
  exact ⟨rfl, by (repeat (first | exact Below.refl _ _ | assumption | refine Below.drew ?_ | refine Below.alloc ?_ (by first | (simp; done) | (simp; omega) | omega) _ | refine Below.setCell ?_ (by first | (simp; done) | (simp; omega) | omega) _))⟩
theorem Mk.ifnode (x : Mk) (w : World) : (invoke (.fn (.method "amnesia/tally.node") #[]) #[.iface 156 x.val]).run Tryz.prog w = .ok (.enter 211 #[x.val]) w := by kernel_rfl
set_option maxRecDepth 100000 in
set_option maxHeartbeats 400000 in
theorem Mk.isNode (x y : Mk) (b : Nat) (w : World) (hb : b < w.heap.size) (hc : w.cell? ⟨b, 0, none⟩ = some (.int .i64 y.n) ∧ w.cell? ⟨b, 1, none⟩ = some (.int .u64 y.h) ∧ w.cell? ⟨b, 2, none⟩ = some (.int .u64 y.l)) : Calls Tryz.prog 136 #[x.val, .pointer (some ⟨b, 0, none⟩)] w fun e w' => e = .returned (.bool (decide (x.n = y.n))) ∧ Below w.heap.size w w' := by
  obtain ⟨y0, y1, y2⟩ := hc
  show Calls Tryz.prog 136 #[.agg #[.int .i64 x.n, .int .u64 x.h, .int .u64 x.l], .pointer (some ⟨b, 0, none⟩)] w _
  go_enter Tryz.func136, Tryz.ntmps136
  go_wp2_with fail
  have hbW : b ≠ w.heap.size := by omega
  have KH : Hid (∀ v, Below (w.heap.size + 1) (w.alloc (.cells #[.int .i64 x.n, .int .u64 x.h, .int .u64 x.l] 156)) v → (v.cell? ⟨w.heap.size, 0, none⟩ = some (.int .i64 x.n) ∧ v.cell? ⟨w.heap.size, 1, none⟩ = some (.int .u64 x.h) ∧ v.cell? ⟨w.heap.size, 2, none⟩ = some (.int .u64 x.l)) ∧ (v.cell? ⟨b, 0, none⟩ = some (.int .i64 y.n) ∧ v.cell? ⟨b, 1, none⟩ = some (.int .u64 y.h) ∧ v.cell? ⟨b, 2, none⟩ = some (.int .u64 y.l))) := fun v hv =>
    ⟨⟨(hv.cell (p := ⟨w.heap.size, 0, none⟩) (by simp)).trans (by simp), (hv.cell (p := ⟨w.heap.size, 1, none⟩) (by simp)).trans (by simp), (hv.cell (p := ⟨w.heap.size, 2, none⟩) (by simp)).trans (by simp)⟩, ⟨(hv.cell (p := ⟨b, 0, none⟩) (by simp; omega)).trans ((World.cell?_alloc_old w _ ⟨b, 0, none⟩ hbW).trans y0), (hv.cell (p := ⟨b, 1, none⟩) (by simp; omega)).trans ((World.cell?_alloc_old w _ ⟨b, 1, none⟩ hbW).trans y1), (hv.cell (p := ⟨b, 2, none⟩) (by simp; omega)).trans ((World.cell?_alloc_old w _ ⟨b, 2, none⟩ hbW).trans y2)⟩⟩
  refine region_q9 (C := fun v => Below (w.heap.size + 1) (w.alloc (.cells #[.int .i64 x.n, .int .u64 x.h, .int .u64 x.l] 156)) v) (by kernel_rfl) (by kernel_rfl) (Below.refl _ _).drew ?_
  refine wqv (u := x.val) (by kernel_rfl) (fun v hv => by obtain ⟨⟨y0, y1, y2⟩, _⟩ := KH.out v hv; go_simp; rfl) ?_
  simp only [Act.put, List.setIfInBounds_toArray, List.set_cons_zero, List.set_cons_succ]
  refine wqv (u := .iface 156 x.val) (by kernel_rfl) (fun v hv => by kernel_rfl) ?_
  simp only [Act.put, List.setIfInBounds_toArray, List.set_cons_zero, List.set_cons_succ]
  refine wqi (fid := 211) (args := #[x.val]) (AS := #[]) (V := .iface 156 x.val) (u := .int .i64 x.n) (by kernel_rfl) _ _ rfl (by kernel_rfl) (by kernel_rfl) (fun v => x.ifnode v) (fun v hv => (x.node_any v).mono fun e w' h => ⟨h.1, hv.trans (h.2.mono (by have := hv.size; rwa [World.size_alloc] at this))⟩) ?_
  simp only [Act.put, List.setIfInBounds_toArray, List.set_cons_zero, List.set_cons_succ]
  refine wqv (u := y.val) (by kernel_rfl) (fun v hv => by obtain ⟨_, ⟨y0, y1, y2⟩⟩ := KH.out v hv; go_simp; rfl) ?_
  simp only [Act.put, List.setIfInBounds_toArray, List.set_cons_zero, List.set_cons_succ]
  refine wqv (u := .iface 156 y.val) (by kernel_rfl) (fun v hv => by kernel_rfl) ?_
  simp only [Act.put, List.setIfInBounds_toArray, List.set_cons_zero, List.set_cons_succ]
  refine wqi (fid := 211) (args := #[y.val]) (AS := #[]) (V := .iface 156 y.val) (u := .int .i64 y.n) (by kernel_rfl) _ _ rfl (by kernel_rfl) (by kernel_rfl) (fun v => y.ifnode v) (fun v hv => (y.node_any v).mono fun e w' h => ⟨h.1, hv.trans (h.2.mono (by have := hv.size; rwa [World.size_alloc] at this))⟩) ?_
  simp only [Act.put, List.setIfInBounds_toArray, List.set_cons_zero, List.set_cons_succ]
  refine wqv (u := .bool (decide (x.n = y.n))) (by kernel_rfl) (fun v hv => by go_simp; rfl) ?_
  simp only [Act.put, List.setIfInBounds_toArray, List.set_cons_zero, List.set_cons_succ]
  refine wqv (u := .bool (decide (x.n = y.n))) (by kernel_rfl) (fun v hv => by kernel_rfl) ?_
  simp only [Act.put, List.setIfInBounds_toArray, List.set_cons_zero, List.set_cons_succ]
  refine wqnil ?_
  intro w' hb'
  go_wp2
  go_ret
  exact ⟨rfl, ((Below.refl _ w).alloc (Nat.le_refl _) _).trans (hb'.mono (Nat.le_succ _))⟩
set_option maxRecDepth 100000 in
set_option maxHeartbeats 400000 in
theorem Mk.isAbove (x y : Mk) (b : Nat) (w : World) (hb : b < w.heap.size) (hc : w.cell? ⟨b, 0, none⟩ = some (.int .i64 y.n) ∧ w.cell? ⟨b, 1, none⟩ = some (.int .u64 y.h) ∧ w.cell? ⟨b, 2, none⟩ = some (.int .u64 y.l)) : Calls Tryz.prog 152 #[x.val, .pointer (some ⟨b, 0, none⟩)] w fun e w' => e = .returned (.bool (decide (y.n < x.n))) ∧ Below w.heap.size w w' := by
  obtain ⟨y0, y1, y2⟩ := hc
  show Calls Tryz.prog 152 #[.agg #[.int .i64 x.n, .int .u64 x.h, .int .u64 x.l], .pointer (some ⟨b, 0, none⟩)] w _
  go_enter Tryz.func152, Tryz.ntmps152
  go_wp2_with fail
  have hbW : b ≠ w.heap.size := by omega
  have KH : Hid (∀ v, Below (w.heap.size + 1) (w.alloc (.cells #[.int .i64 x.n, .int .u64 x.h, .int .u64 x.l] 156)) v → (v.cell? ⟨w.heap.size, 0, none⟩ = some (.int .i64 x.n) ∧ v.cell? ⟨w.heap.size, 1, none⟩ = some (.int .u64 x.h) ∧ v.cell? ⟨w.heap.size, 2, none⟩ = some (.int .u64 x.l)) ∧ (v.cell? ⟨b, 0, none⟩ = some (.int .i64 y.n) ∧ v.cell? ⟨b, 1, none⟩ = some (.int .u64 y.h) ∧ v.cell? ⟨b, 2, none⟩ = some (.int .u64 y.l))) := fun v hv =>
    ⟨⟨(hv.cell (p := ⟨w.heap.size, 0, none⟩) (by simp)).trans (by simp), (hv.cell (p := ⟨w.heap.size, 1, none⟩) (by simp)).trans (by simp), (hv.cell (p := ⟨w.heap.size, 2, none⟩) (by simp)).trans (by simp)⟩, ⟨(hv.cell (p := ⟨b, 0, none⟩) (by simp; omega)).trans ((World.cell?_alloc_old w _ ⟨b, 0, none⟩ hbW).trans y0), (hv.cell (p := ⟨b, 1, none⟩) (by simp; omega)).trans ((World.cell?_alloc_old w _ ⟨b, 1, none⟩ hbW).trans y1), (hv.cell (p := ⟨b, 2, none⟩) (by simp; omega)).trans ((World.cell?_alloc_old w _ ⟨b, 2, none⟩ hbW).trans y2)⟩⟩
  refine region_q9 (C := fun v => Below (w.heap.size + 1) (w.alloc (.cells #[.int .i64 x.n, .int .u64 x.h, .int .u64 x.l] 156)) v) (by kernel_rfl) (by kernel_rfl) (Below.refl _ _).drew ?_
  refine wqv (u := x.val) (by kernel_rfl) (fun v hv => by obtain ⟨⟨y0, y1, y2⟩, _⟩ := KH.out v hv; go_simp; rfl) ?_
  simp only [Act.put, List.setIfInBounds_toArray, List.set_cons_zero, List.set_cons_succ]
  refine wqv (u := .iface 156 x.val) (by kernel_rfl) (fun v hv => by kernel_rfl) ?_
  simp only [Act.put, List.setIfInBounds_toArray, List.set_cons_zero, List.set_cons_succ]
  refine wqi (fid := 211) (args := #[x.val]) (AS := #[]) (V := .iface 156 x.val) (u := .int .i64 x.n) (by kernel_rfl) _ _ rfl (by kernel_rfl) (by kernel_rfl) (fun v => x.ifnode v) (fun v hv => (x.node_any v).mono fun e w' h => ⟨h.1, hv.trans (h.2.mono (by have := hv.size; rwa [World.size_alloc] at this))⟩) ?_
  simp only [Act.put, List.setIfInBounds_toArray, List.set_cons_zero, List.set_cons_succ]
  refine wqv (u := y.val) (by kernel_rfl) (fun v hv => by obtain ⟨_, ⟨y0, y1, y2⟩⟩ := KH.out v hv; go_simp; rfl) ?_
  simp only [Act.put, List.setIfInBounds_toArray, List.set_cons_zero, List.set_cons_succ]
  refine wqv (u := .iface 156 y.val) (by kernel_rfl) (fun v hv => by kernel_rfl) ?_
  simp only [Act.put, List.setIfInBounds_toArray, List.set_cons_zero, List.set_cons_succ]
  refine wqi (fid := 211) (args := #[y.val]) (AS := #[]) (V := .iface 156 y.val) (u := .int .i64 y.n) (by kernel_rfl) _ _ rfl (by kernel_rfl) (by kernel_rfl) (fun v => y.ifnode v) (fun v hv => (y.node_any v).mono fun e w' h => ⟨h.1, hv.trans (h.2.mono (by have := hv.size; rwa [World.size_alloc] at this))⟩) ?_
  simp only [Act.put, List.setIfInBounds_toArray, List.set_cons_zero, List.set_cons_succ]
  refine wqv (u := .bool (decide (y.n < x.n))) (by kernel_rfl) (fun v hv => by go_simp) ?_
  simp only [Act.put, List.setIfInBounds_toArray, List.set_cons_zero, List.set_cons_succ]
  refine wqv (u := .bool (decide (y.n < x.n))) (by kernel_rfl) (fun v hv => by kernel_rfl) ?_
  simp only [Act.put, List.setIfInBounds_toArray, List.set_cons_zero, List.set_cons_succ]
  refine wqnil ?_
  intro w' hb'
  go_wp2
  go_ret
  exact ⟨rfl, ((Below.refl _ w).alloc (Nat.le_refl _) _).trans (hb'.mono (Nat.le_succ _))⟩

end Go.Proofs.YtcmjhaljbmhpgaaGreat

namespace Go.Proofs.YtcmjhaljbmhpgaaGreat
open Go.RowKit Go.Maps
open Classical
set_option linter.unusedVariables false
set_option linter.unusedSimpArgs false

set_option maxRecDepth 100000 in
set_option maxHeartbeats 1000000 in
/-- hold: votes as the layer has them. -/
theorem Mk.hold_any (L : List Mk) (a : Option Addr) (n c : Nat) (w : World) (h : SlY yMkA w a n c L) (hb : n * 24 ≤ 281474976710656) :
    Calls Tryz.prog 103 #[.slice a n c, .func (.func 104) #[] #[]] w fun e w' => e = .returned (.slice (some ⟨w.heap.size, 0, none⟩) n n) ∧ OwnY yMkV w.heap.size w' (.slice (some ⟨w.heap.size, 0, none⟩) n n) L ∧ Below w.heap.size w w' := by
  have hmx := h.max
  have hcp := h.cap
  have hln := h.len
  unfold maxLen at hmx
  have H := hide h
  have HN := hide hln
  clear h hln
  go_enter Tryz.func103, Tryz.ntmps103
  go_wp2_with (at_make; go_must (refine makeYs kMkV _ rfl (.tmp 9) rfl n rfl (by unfold maxLen; omega) hb ?zk))
  intro w1 o1 b1
  have HO : Hid (OwnY yMkV w.heap.size w1 (.slice (some ⟨w.heap.size, 0, none⟩) n n) (L.take 0 ++ List.replicate (n - 0) yMkV.z)) := by
    show OwnY _ _ _ _ _
    simpa using o1
  clear o1
  go_wp2
  go_loopw [13] (fun i wr => ∃ j : Nat, i = .int .i64 (j : Int) ∧ j ≤ n ∧ Hid (OwnY yMkV w.heap.size wr (.slice (some ⟨w.heap.size, 0, none⟩) n n) (L.take j ++ List.replicate (n - j) yMkV.z)) ∧ Below w.heap.size w wr) (fun i _ => n - (intOf i).toNat)
  case atStart => exact ⟨0, rfl, Nat.zero_le _, HO, b1⟩
  case round =>
    obtain ⟨j, rfl, hj, hO, hbl⟩ := hrel
    have hsz := hbl.size
    by_cases hlt : j < n
    · have hjl : j < L.length := by rw [HN.out]; exact hlt
      have hg : L[j]? = some L[j] := List.getElem?_eq_getElem hjl
      obtain ⟨q, o, rfl, hq, y0, y1, y2⟩ := (H.out.later hbl).MkA hg
      have hlt0 : w.heap.size < wr.heap.size := by
        obtain ⟨_, _, ee, _, _, _, h4⟩ := hO.out.form
        injection ee with ee
        obtain ⟨g', e2, _, h5⟩ := h4 _ ee.symm
        cases e2
        exact h5
      have hset : Hid ((L.take j ++ List.replicate (n - j) yMkV.z).set j L[j] = L.take (j + 1) ++ List.replicate (n - (j + 1)) yMkV.z) := by
        show _ = _
        have hl : (L.take j).length = j := by rw [List.length_take]; omega
        rw [List.set_append_right _ _ (by omega), hl, Nat.sub_self, show n - j = (n - (j + 1)) + 1 by omega, List.replicate_succ, List.set_cons_zero, List.take_add_one, hg]
        simp only [Option.toList_some, List.append_assoc, List.cons_append, List.nil_append]
      have hget : Hid ((L.take j ++ List.replicate (n - j) yMkV.z)[j]? = some yMkV.z) := by
        show _ = _
        have hl : (L.take j).length = j := by rw [List.length_take]; omega
        rw [List.getElem?_append_right (by omega), hl, Nat.sub_self, show n - j = (n - (j + 1)) + 1 by omega, List.replicate_succ]
        rfl
      clear hg
      generalize L[j] = x at *
      generalize hX : L.take j ++ List.replicate (n - j) yMkV.z = XX at *
      clear hX
      have bA := hide (hbl.trans (((Below.refl _ wr).alloc (Nat.le_refl _) (.cells #[.int .i64 x.n, .int .u64 x.h, .int .u64 x.l] 109)).mono hsz))
      have OA := hide (hO.out.alloc (.cells #[.int .i64 x.n, .int .u64 x.h, .int .u64 x.l] 109))
      have ca := hide (x.as_any (wr.alloc (.cells #[.int .i64 x.n, .int .u64 x.h, .int .u64 x.l] 109)))
      clear hO
      go_wp2_with fail
      refine ca.out.mono ?_
      rintro e w2 ⟨rfl, b2⟩
      have O2 := hide (OA.out.grow b2)
      have z2 := b2.size
      rw [World.size_alloc] at z2
      dsimp only
      go_wp2_with (first
        | (refine storeY kMkV _ rfl 156 (.tmp 23) (.tmp 22) rfl w.heap.size w.heap.size n n XX j 0 yMkV.z x _ rfl rfl hget.out (by kernel_rfl) (by exact (by decide : 3 ≤ 3)) rfl O2.out ?_; intro w3 o3 u3 z3; have O3 := hide o3; clear o3)
        | go_in)
      go_round
      case rel =>
        refine ⟨j + 1, by go_num, by omega, by show OwnY _ _ _ _ _; rw [← hset.out]; exact O3.out, bA.out.trans ((b2.mono (by simp; omega)).trans (u3.below (by omega) (fun k e => by subst e; exact Nat.le_refl _)))⟩
      case measure => simp [intOf]; omega
    · obtain rfl : j = n := by omega
      have O9 : Hid (OwnY yMkV w.heap.size wr (.slice (some ⟨w.heap.size, 0, none⟩) j j) L) := by
        show OwnY _ _ _ _ _
        have := hO.out
        rw [Nat.sub_self, List.replicate_zero, List.append_nil, List.take_of_length_le (by rw [HN.out]; exact Nat.le_refl _)] at this
        exact this
      clear hO
      go_wp2
      go_ret
      exact ⟨rfl, O9.out, hbl⟩

end Go.Proofs.YtcmjhaljbmhpgaaGreat

namespace Go.Proofs.YtcmjhaljbmhpgaaGreat
open Go.RowKit Go.Maps
open Classical
set_option linter.unusedVariables false
set_option linter.unusedSimpArgs false

set_option maxRecDepth 100000 in
set_option maxHeartbeats 1000000 in
/-- slices.IndexFunc. -/
theorem Mk.index_any (p : Mk → Bool) (g : Nat) (lb : Array Value) (eg : ∀ args w, (callFunc g args).run Tryz.prog w = .ok (.enter g args) w) (L : List Mk) (a : Option Addr) (n c : Nat) (w : World) (h : SlY yMkV w a n c L)
    (hp : ∀ (W : World) (x : Mk), Below w.heap.size w W → Calls Tryz.prog g (#[x.val] ++ lb) W fun e w' => e = .returned (.bool (p x)) ∧ Below w.heap.size w w') :
    Calls Tryz.prog 135 #[.slice a n c, .func (.func g) #[] lb] w fun e w' => e = .returned (.int .i64 (ix p L)) ∧ Below w.heap.size w w' := by
  have hmx := h.max
  have hcp := h.cap
  have hln := h.len
  unfold maxLen at hmx
  have H := hide h
  have HN := hide hln
  have HP := hide hp
  clear h hln hp
  go_enter Tryz.func135, Tryz.ntmps135
  go_wp2
  go_loopw [8] (fun i wr => ∃ j : Nat, i = .int .i64 (j : Int) ∧ j ≤ n ∧ Hid (∀ k (hk : k < L.length), k < j → p L[k] = false) ∧ Below w.heap.size w wr) (fun i _ => n - (intOf i).toNat)
  case atStart => exact ⟨0, rfl, Nat.zero_le _, fun k hk h => absurd h (Nat.not_lt_zero _), Below.refl _ _⟩
  case round =>
    obtain ⟨j, rfl, hj, hA, hbl⟩ := hrel
    have hsz := hbl.size
    by_cases hlt : j < n
    · have hjl : j < L.length := by rw [HN.out]; exact hlt
      have hg : L[j]? = some L[j] := List.getElem?_eq_getElem hjl
      obtain ⟨q, o, rfl, hq, y0, y1, y2⟩ := (H.out.later hbl).MkV hg
      have hcall := HP.out wr L[j] hbl
      have hH : Hid (p L[j] = true → ix p L = (j : Int)) := fun hp => ix_hit hjl hp (fun k hk => hA.out k (by omega) hk)
      have hS : Hid (p L[j] = false → ∀ k (hk : k < L.length), k < j + 1 → p L[k] = false) := fun hp k hk hkj => by
        by_cases e : k = j
        · subst e; exact hp
        · exact hA.out k hk (by omega)
      clear hA hg
      generalize L[j] = x at *
      unfold Mk.val at hcall
      cases hq2 : p x with
      | true =>
        have hx := hide (hH.out hq2)
        rw [hq2] at hcall
        clear hH hS
        go_wp2_with (go_at_fn g; refine hcall.mono ?_; rintro e w' ⟨rfl, hb'⟩)
        go_ret
        exact ⟨by rw [hx.out]; rfl, hb'⟩
      | false =>
        have hx := hide (hS.out hq2)
        rw [hq2] at hcall
        clear hH hS
        go_wp2_with (go_at_fn g; refine hcall.mono ?_; rintro e w' ⟨rfl, hb'⟩)
        go_round
        case rel => exact ⟨j + 1, by go_num, by omega, hx, hb'⟩
        case measure => simp [intOf]; omega
    · obtain rfl : j = n := by omega
      have hx : Hid (ix p L = -1) := ix_miss (fun x hx => by
        obtain ⟨k, hk, rfl⟩ := List.mem_iff_getElem.1 hx
        exact hA.out k hk (by rw [← HN.out]; exact hk))
      clear hA
      go_wp2
      go_ret
      exact ⟨by rw [hx.out]; rfl, hbl⟩

end Go.Proofs.YtcmjhaljbmhpgaaGreat

namespace Go.Proofs.YtcmjhaljbmhpgaaGreat
open Go.RowKit Go.Maps
open Classical
set_option linter.unusedVariables false
set_option linter.unusedSimpArgs false

set_option maxRecDepth 100000 in
set_option maxHeartbeats 1000000 in
/-- slices.Insert of one vote into a row without room. -/
theorem Mk.insert_lib (L : List Mk) (x : Mk) (i n g B q : Nat) (w : World) (hn : L.length = n) (hi : i ≤ n) (h : OwnY yMkV B w (.slice (some ⟨g, 0, none⟩) n n) L) (hx : SlY yMkV w (some ⟨q, 0, none⟩) 1 1 [x]) (hB : B ≤ w.heap.size) (hm : (n + 1) * 24 ≤ 140737488355328) :
    Calls Tryz.prog 153 #[.slice (some ⟨g, 0, none⟩) n n, .int .i64 (i : Int), .slice (some ⟨q, 0, none⟩) 1 1] w fun e w' => ∃ v, e = .returned v ∧ OwnY yMkV B w' v (L.take i ++ x :: L.drop i) ∧ Below B w w' := by
  have hcm : n + 1 ≤ 140737488355328 := by omega
  have O := hide h
  have X := hide hx
  have HN := hide hn
  have hgl : g < w.heap.size := by
    obtain ⟨_, _, ee, _, _, _, h4⟩ := h.form
    injection ee with ee
    obtain ⟨g', e2, _, h5⟩ := h4 _ ee.symm
    cases e2
    exact h5
  clear h hx hn
  have hw1 : IntKind.i64.wrap ((n : Int) + 1) = (n : Int) + 1 := by rw [IntKind.wrap_i64]; omega
  by_cases hin : i = n
  · subst hin
    go_enter Tryz.func153, Tryz.ntmps153
    go_wp2_with (first
      | (at_builtin; go_must (refine appYt kMkV _ rfl (.tmp 23) (.tmp 24) 157 156 Tryz.underlying157 rfl B L _ rfl (some ⟨q, 0, none⟩) 1 1 rfl [x] X.out O.out hB (by rw [HN.out]; unfold maxLen; omega) (by rw [HN.out]; exact hm) ?zk)))
    intro v' w' o' g' _
    have O2 := hide o'
    have B2 := hide (O.out.grown (Below.refl _ _) g' hB)
    clear o' g'
    go_wp2
    go_ret
    refine ⟨_, rfl, ?_, B2.out⟩
    rw [List.take_of_length_le (by rw [HN.out]; exact Nat.le_refl _), List.drop_of_length_le (by rw [HN.out]; exact Nat.le_refl _)]
    exact O2.out
  · have hlt : i < n := by omega
    obtain ⟨d, hd⟩ : ∃ d, d = n + 1 - i := ⟨_, rfl⟩
    have hw2 : IntKind.i64.wrap ((n : Int) + 1 - (i : Int)) = (d : Int) := by rw [IntKind.wrap_i64]; omega
    have HD : Hid (i + d = n + 1) := by show _ = _; omega
    clear hd
    have hne : ((i : Int) == (n : Int)) = false := by simp; omega
    have hw3 : IntKind.i64.wrap ((i : Int) + 1) = (i : Int) + 1 := by rw [IntKind.wrap_i64]; omega
    go_enter Tryz.func153, Tryz.ntmps153
    go_wp2_with (first
      | (at_builtin; go_must (refine zerosY kMkV _ rfl (.tmp 34) (.tmp 39) 3 .i64 Tryz.underlying3 rfl ⟨g, 0, none⟩ i n d (L.take i) rfl rfl ((O.out.sl' kMkV).take i hi) (by have := HD.out; omega) (by have := HD.out; omega) (by have := HD.out; unfold maxLen; omega) (by rw [HD.out]; exact hm) ?zl)))
    intro c1 w1 o1 b1
    have z1 := b1.size
    have hg1 : g ≠ w.heap.size := by omega
    have O1 : Hid (OwnY yMkV w.heap.size w1 (.slice (some ⟨w.heap.size, 0, none⟩) (n + 1) c1) (L.take i ++ List.replicate d yMkV.z)) := by show OwnY _ _ _ _ _; rw [← HD.out]; exact o1
    obtain ⟨hc1, hc2⟩ : n + 1 ≤ c1 ∧ c1 ≤ 9223372036854775807 := by
      have := (o1.sl' kMkV).cap
      have h2 := (o1.sl' kMkV).max
      unfold maxLen at h2
      have := HD.out
      omega
    have X1 := hide (X.out.later b1)
    have S1 := hide (((O.out.grow b1).sl' kMkV).rest i hlt)
    have B1 := hide b1
    clear o1 b1
    have hcd : (i : Int) ≤ (c1 : Int) := by omega
    have hcn : (n : Int) + 1 ≤ (c1 : Int) := by omega
    rw [HD.out]
    have e3 : ((n + 1 : Nat) : Int) = (n : Int) + 1 := by omega
    have e5 : (i : Int) ≤ (n : Int) + 1 := by omega
    have e6 : (i : Int) + 1 ≤ (n : Int) + 1 := by omega
    go_wp2_with (refine copyYc kMkV _ rfl (.tmp 43) (.tmp 44) 157 rfl w.heap.size w.heap.size (n + 1 - i) (c1 - i) i (n + 1) c1 1 1 (some ⟨q, 0, none⟩) _ [x] rfl rfl O1.out X1.out (by omega) (by omega) ?zm)
    intro w2 o2 u2 z2
    have O2 := hide o2
    have S2 := hide (S1.out.upd u2 (fun y hy _ => by cases hy; exact hg1))
    have B2 := hide (B1.out.trans (u2.below z1 (fun k e => by subst e; exact Nat.le_refl _)))
    clear o2 u2
    have hl3 : Hid (put (put (L.take i ++ List.replicate d yMkV.z) i [x]) (i + 1) (L.drop i) = L.take i ++ x :: L.drop i) := by
      show _ = _
      have h1 : (L.take i).length = i := by rw [List.length_take, HN.out]; omega
      have h2 : (L.drop i).length = n - i := by rw [List.length_drop, HN.out]
      have := HD.out
      exact put_two (L.take i) (List.replicate d yMkV.z) (L.drop i) x i h1 (by rw [List.length_replicate, h2]; omega)
    go_wp2_with fail
    obtain ⟨w3, hr, o3, u3, z3⟩ := run_copyYc kMkV w2.drew 158 3 w.heap.size w.heap.size (n - i) (c1 - (i + 1)) (i + 1) (n + 1) c1 (n - i) (n - i) _ _ (L.drop i) O2.out.drew (S2.out.later (Below.refl _ _).drew) (by omega) (Nat.le_refl _)
    rw [hl3.out] at o3
    have hr : (Builtin.copy_ #[158, 158] 3 #[.slice (some ⟨w.heap.size, (i + 1) * 3, none⟩) (n - i) (c1 - (i + 1)), .slice (some ⟨g, i * 3, none⟩) (n - i) (n - i)]).run Tryz.prog w2.drew = .ok (.int .i64 ((n - i : Nat) : Int)) w3 := by
      rw [Nat.zero_add] at hr
      exact hr
    have O3 := hide o3
    have B3 := hide (B2.out.trans ((Below.refl _ w2).drew.trans (u3.below (by show w.heap.size ≤ w2.heap.size; omega) (fun k e => by subst e; exact Nat.le_refl _))))
    clear o3 u3
    go_region
    go_wp2
    go_ret
    exact ⟨_, rfl, O3.out.low hB, B3.out.mono hB⟩

end Go.Proofs.YtcmjhaljbmhpgaaGreat

namespace Go.Proofs.YtcmjhaljbmhpgaaGreat
open Go.RowKit Go.Maps
open Classical
set_option linter.unusedVariables false
set_option linter.unusedSimpArgs false

/-- A mark is never greater than another. -/
def Mk.gt (x y : Mk) : Bool := false
theorem Mk.greater_any (x y : Mk) (w : World) : Calls Tryz.prog 209 #[x.val, y.val] w fun e w' => e = .returned (.bool (Mk.gt x y)) ∧ Below w.heap.size w w' := by
  show Calls Tryz.prog 209 #[.agg #[.int .i64 x.n, .int .u64 x.h, .int .u64 x.l], .agg #[.int .i64 y.n, .int .u64 y.h, .int .u64 y.l]] w _
  go_enter Tryz.func209, Tryz.ntmps209
  go_wp2
  go_ret
  exact ⟨rfl, by (repeat (first | exact Below.refl _ _ | assumption | refine Below.drew ?_ | refine Below.alloc ?_ (by first | (simp; done) | (simp; omega) | omega) _ | refine Below.setCell ?_ (by first | (simp; done) | (simp; omega) | omega) _))⟩

end Go.Proofs.YtcmjhaljbmhpgaaGreat

namespace Go.Proofs.YtcmjhaljbmhpgaaGreat
open Go.RowKit Go.Maps
open Classical
set_option linter.unusedVariables false
set_option linter.unusedSimpArgs false

/-- Where a vote comes to stand that has none of its node. -/
def Mk.at_ (L : List Mk) (x : Mk) : Nat := (L.findIdx? (fun y => decide (x.n < y.n))).getD L.length
def Mk.ins (L : List Mk) (x : Mk) : List Mk := L.take (Mk.at_ L x) ++ x :: L.drop (Mk.at_ L x)
theorem Mk.at_le (L : List Mk) (x : Mk) : Mk.at_ L x ≤ L.length := by
  unfold Mk.at_
  cases h : L.findIdx? (fun y => decide (x.n < y.n)) with
  | none => exact Nat.le_refl _
  | some i =>
    have := (List.findIdx?_eq_some_iff_getElem.1 h).1
    exact Nat.le_of_lt this
theorem Mk.at_ix (L : List Mk) (x : Mk) : (ix (fun y => decide (x.n < y.n)) L < 0 ∧ Mk.at_ L x = L.length) ∨ (0 ≤ ix (fun y => decide (x.n < y.n)) L ∧ ix (fun y => decide (x.n < y.n)) L = (Mk.at_ L x : Int)) := by
  unfold Mk.at_ ix
  cases h : L.findIdx? (fun y => decide (x.n < y.n)) with
  | none => exact .inl ⟨by decide, rfl⟩
  | some i => exact .inr ⟨by simp, rfl⟩
/-- Does a vote take an older one's place? -/
def Mk.rep (x y : Mk) : Bool := decide (0 < cmpD x.h x.l y.h y.l) || (decide (cmpD x.h x.l y.h y.l = 0) && Mk.gt x y)
/-- A list with a vote put in. -/
def Mk.put (L : List Mk) (x : Mk) : List Mk := match L.findIdx? (fun y => decide (y.n = x.n)) with
  | none => Mk.ins L x
  | some i => if Mk.rep x (L.getD i x) = true then L.set i x else L
theorem Mk.f30 (args : Array Value) (w : World) : (callFunc 152 args).run Tryz.prog w = .ok (.enter 152 args) w := enters_of Tryz.func152 (by kernel_rfl) rfl args w
theorem Mk.f22 (args : Array Value) (w : World) : (callFunc 136 args).run Tryz.prog w = .ok (.enter 136 args) w := enters_of Tryz.func136 (by kernel_rfl) rfl args w
theorem Mk.box (x : Mk) (w v : World) (hv : Below (w.heap.size + 1) (w.alloc (.cells #[.int .i64 x.n, .int .u64 x.h, .int .u64 x.l] 156)) v) : v.cell? ⟨w.heap.size, 0, none⟩ = some (.int .i64 x.n) ∧ v.cell? ⟨w.heap.size, 1, none⟩ = some (.int .u64 x.h) ∧ v.cell? ⟨w.heap.size, 2, none⟩ = some (.int .u64 x.l) :=
  ⟨(hv.cell (p := ⟨w.heap.size, 0, none⟩) (by simp)).trans (by simp), (hv.cell (p := ⟨w.heap.size, 1, none⟩) (by simp)).trans (by simp), (hv.cell (p := ⟨w.heap.size, 2, none⟩) (by simp)).trans (by simp)⟩
set_option maxRecDepth 100000 in
set_option maxHeartbeats 1000000 in
theorem Mk.insert_any (L : List Mk) (x : Mk) (n g B : Nat) (w : World) (hn : L.length = n) (h : OwnY yMkV B w (.slice (some ⟨g, 0, none⟩) n n) L) (hB : B ≤ w.heap.size) (hm : (n + 1) * 24 ≤ 140737488355328) :
    Calls Tryz.prog 137 #[.slice (some ⟨g, 0, none⟩) n n, x.val] w fun e w' => ∃ v, e = .returned v ∧ OwnY yMkV B w' v (Mk.ins L x) ∧ Below B w w' := by
  have O1 := hide (h.alloc (.cells #[.int .i64 x.n, .int .u64 x.h, .int .u64 x.l] 156))
  have b1 : Below w.heap.size w (w.alloc (.cells #[.int .i64 x.n, .int .u64 x.h, .int .u64 x.l] 156)) := (Below.refl _ w).alloc (Nat.le_refl _) _
  have CI := hide (Mk.index_any (fun y => decide (x.n < y.n)) 152 #[.pointer (some ⟨w.heap.size, 0, none⟩)] Mk.f30 L (some ⟨g, 0, none⟩) n n (w.alloc (.cells #[.int .i64 x.n, .int .u64 x.h, .int .u64 x.l] 156)) (O1.out.sl' kMkV)
    (fun W y hW => (Mk.isAbove y x w.heap.size W (by have := hW.size; simp at this; omega) (x.box w W (by simpa using hW))).mono fun e w' hq => ⟨hq.1, hW.trans (hq.2.mono hW.size)⟩))
  have HB1 := hide b1
  have HN := hide hn
  have hle := Mk.at_le L x
  have hix := Mk.at_ix L x
  rw [hn] at hle hix
  clear h hn b1
  obtain ⟨m, hm2⟩ : ∃ m, m = Mk.at_ L x := ⟨_, rfl⟩
  have HM := hide hm2
  rw [← hm2] at hle hix
  clear hm2
  have hcl : n + 1 ≤ 140737488355328 := by omega
  generalize ix (fun y => decide (x.n < y.n)) L = I at *
  have hlast : Hid (∀ W, Below (w.heap.size + 1) (w.alloc (.cells #[.int .i64 x.n, .int .u64 x.h, .int .u64 x.l] 156)) W → Calls Tryz.prog 153 #[.slice (some ⟨g, 0, none⟩) n n, .int .i64 (m : Int), .slice (some ⟨W.heap.size, 0, none⟩) 1 1] (W.alloc (.cells #[.int .i64 x.n, .int .u64 x.h, .int .u64 x.l] 156)) fun e w' => ∃ v, e = .returned v ∧ OwnY yMkV B w' v (Mk.ins L x) ∧ Below B w w') := fun W hW => by
    have hWs : w.heap.size + 1 ≤ W.heap.size := by have := hW.size; simpa using this
    have b2 : Below w.heap.size w (W.alloc (.cells #[.int .i64 x.n, .int .u64 x.h, .int .u64 x.l] 156)) := (HB1.out.trans (hW.mono (by omega))).alloc (by omega) _
    refine (Mk.insert_lib L x m n g B W.heap.size (W.alloc (.cells #[.int .i64 x.n, .int .u64 x.h, .int .u64 x.l] 156)) HN.out hle ((O1.out.grow (by simpa using hW)).alloc _) (sl_box (Y := yMkV) W x 156) (by simp; omega) hm).mono ?_
    rintro e w' ⟨v, rfl, o', b'⟩
    refine ⟨v, rfl, ?_, (b2.mono hB).trans b'⟩
    unfold Mk.ins
    rw [← HM.out]
    exact o'
  clear hm
  show Calls Tryz.prog 137 #[.slice (some ⟨g, 0, none⟩) n n, .agg #[.int .i64 x.n, .int .u64 x.h, .int .u64 x.l]] w _
  go_enter Tryz.func137, Tryz.ntmps137
  go_wp2_with fail
  refine CI.out.mono ?_
  rintro e w1 ⟨rfl, b2⟩
  have b2 : Below (w.heap.size + 1) (w.alloc (.cells #[.int .i64 x.n, .int .u64 x.h, .int .u64 x.l] 156)) w1 := by simpa using b2
  obtain ⟨y0, y1, y2⟩ := x.box w w1 b2
  have cl := hide (hlast.out w1 b2)
  clear hlast CI
  dsimp only
  rcases hix with ⟨hneg, hmn⟩ | ⟨hpos, hmI⟩
  · subst hmn
    go_wp2_with fail
    refine cl.out.mono ?_
    rintro e w' ⟨v, rfl, o', b'⟩
    have O' := hide o'
    clear o'
    dsimp only
    go_wp2
    go_ret
    exact ⟨v, rfl, O'.out, b'⟩
  · subst hmI
    have hneg : ¬ ((m : Int) < 0) := by omega
    go_wp2_with fail
    refine cl.out.mono ?_
    rintro e w' ⟨v, rfl, o', b'⟩
    have O' := hide o'
    clear o'
    dsimp only
    go_wp2
    go_ret
    exact ⟨v, rfl, O'.out, b'⟩

end Go.Proofs.YtcmjhaljbmhpgaaGreat

namespace Go.Proofs.YtcmjhaljbmhpgaaGreat
open Go.RowKit Go.Maps
open Classical
set_option linter.unusedVariables false
set_option linter.unusedSimpArgs false

theorem Mk.ifdraw (x : Mk) (w : World) : (invoke (.fn (.method "amnesia/tally.draw") #[]) #[.iface 156 x.val]).run Tryz.prog w = .ok (.enter 208 #[x.val]) w := by kernel_rfl
set_option maxRecDepth 100000 in
set_option maxHeartbeats 1000000 in
theorem Mk.replaces_any (x y : Mk) (w : World) : Calls Tryz.prog 138 #[x.val, y.val] w fun e w' => e = .returned (.bool (Mk.rep x y)) ∧ Below w.heap.size w w' := by
  have hb0 : Below w.heap.size w ((w.alloc (.cells #[.int .i64 x.n, .int .u64 x.h, .int .u64 x.l] 156)).alloc (.cells #[.int .i64 y.n, .int .u64 y.h, .int .u64 y.l] 156)) := ((Below.refl _ w).alloc (Nat.le_refl _) _).alloc (by simp) _
  have KH : Hid (∀ v, Below (w.heap.size + 2) ((w.alloc (.cells #[.int .i64 x.n, .int .u64 x.h, .int .u64 x.l] 156)).alloc (.cells #[.int .i64 y.n, .int .u64 y.h, .int .u64 y.l] 156)) v → (v.cell? ⟨w.heap.size, 0, none⟩ = some (.int .i64 x.n) ∧ v.cell? ⟨w.heap.size, 1, none⟩ = some (.int .u64 x.h) ∧ v.cell? ⟨w.heap.size, 2, none⟩ = some (.int .u64 x.l)) ∧ (v.cell? ⟨w.heap.size + 1, 0, none⟩ = some (.int .i64 y.n) ∧ v.cell? ⟨w.heap.size + 1, 1, none⟩ = some (.int .u64 y.h) ∧ v.cell? ⟨w.heap.size + 1, 2, none⟩ = some (.int .u64 y.l))) := fun v hv =>
    ⟨⟨(hv.cell (p := ⟨w.heap.size, 0, none⟩) (by simp)).trans (by simp), (hv.cell (p := ⟨w.heap.size, 1, none⟩) (by simp)).trans (by simp), (hv.cell (p := ⟨w.heap.size, 2, none⟩) (by simp)).trans (by simp)⟩, ⟨(hv.cell (p := ⟨w.heap.size + 1, 0, none⟩) (by simp)).trans (by simp), (hv.cell (p := ⟨w.heap.size + 1, 1, none⟩) (by simp)).trans (by simp), (hv.cell (p := ⟨w.heap.size + 1, 2, none⟩) (by simp)).trans (by simp)⟩⟩
  have HB0 := hide hb0
  have cg := hide (fun W => Mk.greater_any x y W)
  have HR : Hid (Mk.rep x y = (decide (0 < cmpD x.h x.l y.h y.l) || (decide (cmpD x.h x.l y.h y.l = 0) && Mk.gt x y))) := rfl
  have cc := hide (fun W => compare_any x.h x.l y.h y.l W)
  clear hb0
  generalize Mk.rep x y = R at *
  generalize cmpD x.h x.l y.h y.l = c at *
  generalize Mk.gt x y = G at *
  unfold Mk.val at cg
  show Calls Tryz.prog 138 #[.agg #[.int .i64 x.n, .int .u64 x.h, .int .u64 x.l], .agg #[.int .i64 y.n, .int .u64 y.h, .int .u64 y.l]] w _
  go_enter Tryz.func138, Tryz.ntmps138
  go_wp2_with fail
  refine region_q9 (C := fun v => Below (w.heap.size + 2) ((w.alloc (.cells #[.int .i64 x.n, .int .u64 x.h, .int .u64 x.l] 156)).alloc (.cells #[.int .i64 y.n, .int .u64 y.h, .int .u64 y.l] 156)) v) (by kernel_rfl) (by kernel_rfl) (Below.refl _ _).drew ?_
  refine wqv (u := x.val) (by kernel_rfl) (fun v hv => by obtain ⟨⟨y0, y1, y2⟩, _⟩ := KH.out v hv; go_simp; rfl) ?_
  simp only [Act.put, List.setIfInBounds_toArray, List.set_cons_zero, List.set_cons_succ]
  refine wqv (u := .iface 156 x.val) (by kernel_rfl) (fun v hv => by kernel_rfl) ?_
  simp only [Act.put, List.setIfInBounds_toArray, List.set_cons_zero, List.set_cons_succ]
  refine wqi (fid := 208) (args := #[x.val]) (AS := #[]) (V := .iface 156 x.val) (u := .agg #[.int .u64 x.h, .int .u64 x.l]) (by kernel_rfl) _ _ rfl (by kernel_rfl) (by kernel_rfl) (fun v => x.ifdraw v) (fun v hv => (x.draw_any v).mono fun e w' h => ⟨h.1, hv.trans (h.2.mono (by have := hv.size; rwa [World.size_alloc, World.size_alloc] at this))⟩) ?_
  simp only [Act.put, List.setIfInBounds_toArray, List.set_cons_zero, List.set_cons_succ]
  refine wqv (u := y.val) (by kernel_rfl) (fun v hv => by obtain ⟨_, ⟨y0, y1, y2⟩⟩ := KH.out v hv; go_simp; rfl) ?_
  simp only [Act.put, List.setIfInBounds_toArray, List.set_cons_zero, List.set_cons_succ]
  refine wqv (u := .iface 156 y.val) (by kernel_rfl) (fun v hv => by kernel_rfl) ?_
  simp only [Act.put, List.setIfInBounds_toArray, List.set_cons_zero, List.set_cons_succ]
  refine wqi (fid := 208) (args := #[y.val]) (AS := #[]) (V := .iface 156 y.val) (u := .agg #[.int .u64 y.h, .int .u64 y.l]) (by kernel_rfl) _ _ rfl (by kernel_rfl) (by kernel_rfl) (fun v => y.ifdraw v) (fun v hv => (y.draw_any v).mono fun e w' h => ⟨h.1, hv.trans (h.2.mono (by have := hv.size; rwa [World.size_alloc, World.size_alloc] at this))⟩) ?_
  simp only [Act.put, List.setIfInBounds_toArray, List.set_cons_zero, List.set_cons_succ]
  refine wqc (fid := 123) (args := #[.agg #[.int .u64 x.h, .int .u64 x.l], .agg #[.int .u64 y.h, .int .u64 y.l]]) (u := .int .i64 c) (by kernel_rfl) (fun v => by kernel_rfl) (fun v hv => (cc.out v).mono fun e w' h => ⟨h.1, hv.trans (h.2.mono (by have := hv.size; rwa [World.size_alloc, World.size_alloc] at this))⟩) ?_
  simp only [Act.put, List.setIfInBounds_toArray, List.set_cons_zero, List.set_cons_succ]
  refine wqv (u := .int .i64 c) (by kernel_rfl) (fun v hv => by kernel_rfl) ?_
  simp only [Act.put, List.setIfInBounds_toArray, List.set_cons_zero, List.set_cons_succ]
  refine wqnil (fun v hv => ?_)
  obtain ⟨⟨y0, y1, y2⟩, ⟨z0, z1, z2⟩⟩ := KH.out v hv
  have BV := hide (HB0.out.trans (hv.mono (by omega)))
  clear hv KH cc
  by_cases h1 : 0 < c
  · go_wp2
    go_ret
    exact ⟨by rw [HR.out]; simp [h1], BV.out⟩
  · by_cases h2 : c = 0
    · subst h2
      go_wp2_with fail
      refine (cg.out v).mono ?_
      rintro e w' ⟨rfl, b'⟩
      have B' := hide (BV.out.trans (b'.mono BV.out.size))
      clear b' y0 y1 y2 z0 z1 z2
      dsimp only
      cases G
      · go_wp2
        go_ret
        exact ⟨by rw [HR.out]; rfl, B'.out⟩
      · go_wp2
        go_ret
        exact ⟨by rw [HR.out]; rfl, B'.out⟩
    · have h3 : (c == 0) = false := by simp [h2]
      go_wp2
      go_ret
      exact ⟨by rw [HR.out]; simp [h1, h2], BV.out⟩

end Go.Proofs.YtcmjhaljbmhpgaaGreat

namespace Go.Proofs.YtcmjhaljbmhpgaaGreat
open Go.RowKit Go.Maps
open Classical
set_option linter.unusedVariables false
set_option linter.unusedSimpArgs false

theorem Mk.put_none {L : List Mk} {x : Mk} (h : L.findIdx? (fun y => decide (y.n = x.n)) = none) : Mk.put L x = Mk.ins L x := by unfold Mk.put; rw [h]
theorem Mk.put_some {L : List Mk} {x : Mk} {i : Nat} (h : L.findIdx? (fun y => decide (y.n = x.n)) = some i) (y : Mk) (hy : L[i]? = some y) : Mk.put L x = if Mk.rep x y = true then L.set i x else L := by
  unfold Mk.put
  rw [h]
  simp only [List.getD_eq_getElem?_getD, hy, Option.getD_some]
set_option maxRecDepth 100000 in
set_option maxHeartbeats 1000000 in
theorem Mk.put_any (L : List Mk) (x : Mk) (n g B : Nat) (w : World) (hn : L.length = n) (h : OwnY yMkV B w (.slice (some ⟨g, 0, none⟩) n n) L) (hB : B ≤ w.heap.size) (hm : (n + 1) * 24 ≤ 140737488355328) :
    Calls Tryz.prog 102 #[.slice (some ⟨g, 0, none⟩) n n, x.val] w fun e w' => ∃ v, e = .returned v ∧ OwnY yMkV B w' v (Mk.put L x) ∧ Below B w w' := by
  have hgb : B ≤ g ∧ g < w.heap.size := by
    obtain ⟨_, _, ee, _, _, _, h4⟩ := h.form
    injection ee with ee
    obtain ⟨g', e2, h6, h5⟩ := h4 _ ee.symm
    cases e2
    exact ⟨h6, h5⟩
  have O1 := hide (h.alloc (.cells #[.int .i64 x.n, .int .u64 x.h, .int .u64 x.l] 156))
  have b1 : Below w.heap.size w (w.alloc (.cells #[.int .i64 x.n, .int .u64 x.h, .int .u64 x.l] 156)) := (Below.refl _ w).alloc (Nat.le_refl _) _
  have CI := hide (Mk.index_any (fun y => decide (y.n = x.n)) 136 #[.pointer (some ⟨w.heap.size, 0, none⟩)] Mk.f22 L (some ⟨g, 0, none⟩) n n (w.alloc (.cells #[.int .i64 x.n, .int .u64 x.h, .int .u64 x.l] 156)) (O1.out.sl' kMkV)
    (fun W y hW => (Mk.isNode y x w.heap.size W (by have := hW.size; simp at this; omega) (x.box w W (by simpa using hW))).mono fun e w' hq => ⟨hq.1, hW.trans (hq.2.mono hW.size)⟩))
  have HB1 := hide b1
  have HN := hide hn
  clear h b1
  have hcl : n + 1 ≤ 140737488355328 := by omega
  have hgs : g ≠ w.heap.size := by omega
  show Calls Tryz.prog 102 #[.slice (some ⟨g, 0, none⟩) n n, .agg #[.int .i64 x.n, .int .u64 x.h, .int .u64 x.l]] w _
  cases hf : L.findIdx? (fun y => decide (y.n = x.n)) with
  | none =>
    have hix : ix (fun y => decide (y.n = x.n)) L = -1 := by unfold ix; rw [hf]
    rw [hix] at CI
    have HP := hide (Mk.put_none hf)
    clear hf hix
    go_enter Tryz.func102, Tryz.ntmps102
    go_wp2_with fail
    refine CI.out.mono ?_
    rintro e w1 ⟨rfl, b2⟩
    have b2 : Below (w.heap.size + 1) (w.alloc (.cells #[.int .i64 x.n, .int .u64 x.h, .int .u64 x.l] 156)) w1 := by simpa using b2
    obtain ⟨y0, y1, y2⟩ := x.box w w1 b2
    have z2 : w.heap.size + 1 ≤ w1.heap.size := by have := b2.size; simpa using this
    have B2 := hide (HB1.out.trans (b2.mono (by omega)))
    have cl := hide (Mk.insert_any L x n g B w1 HN.out (O1.out.grow (by simpa using b2)) (by omega) hm)
    clear b2 CI hm
    dsimp only
    go_wp2_with fail
    refine cl.out.mono ?_
    rintro e w' ⟨v, rfl, o', b'⟩
    have O' := hide o'
    clear o'
    dsimp only
    go_wp2
    go_ret
    exact ⟨v, rfl, by rw [HP.out]; exact O'.out, (B2.out.mono hB).trans b'⟩
  | some i =>
    have hix : ix (fun y => decide (y.n = x.n)) L = (i : Int) := by unfold ix; rw [hf]
    have hil : i < L.length := (List.findIdx?_eq_some_iff_getElem.1 hf).1
    have hin : i < n := by omega
    have hg : L[i]? = some L[i] := List.getElem?_eq_getElem hil
    rw [hix] at CI
    have HP := hide (Mk.put_some hf _ hg)
    clear hf hix
    have KH : Hid (∀ v, Below (w.heap.size + 1) (w.alloc (.cells #[.int .i64 x.n, .int .u64 x.h, .int .u64 x.l] 156)) v → (v.cell? ⟨w.heap.size, 0, none⟩ = some (.int .i64 x.n) ∧ v.cell? ⟨w.heap.size, 1, none⟩ = some (.int .u64 x.h) ∧ v.cell? ⟨w.heap.size, 2, none⟩ = some (.int .u64 x.l)) ∧ (v.cell? ⟨g, i * 3, none⟩ = some (.int .i64 L[i].n) ∧ v.cell? ⟨g, i * 3 + 1, none⟩ = some (.int .u64 L[i].h) ∧ v.cell? ⟨g, i * 3 + 2, none⟩ = some (.int .u64 L[i].l)) ∧ OwnY yMkV B v (.slice (some ⟨g, 0, none⟩) n n) L) := fun v hv => by
      have o2 := O1.out.grow (w' := v) (by simpa using hv)
      obtain ⟨q, o, ea, hq, z0, z1, z2⟩ := (o2.sl' kMkV).MkV hg
      cases ea
      simp only [Nat.zero_add] at z0 z1 z2
      exact ⟨x.box w v hv, ⟨z0, z1, z2⟩, o2⟩
    have HG := hide hg
    clear hg hn
    have hneg : ¬ ((i : Int) < 0) := by omega
    generalize L[i] = y at *
    have cr := hide (fun W => Mk.replaces_any x y W)
    generalize Mk.rep x y = R at *
    go_enter Tryz.func102, Tryz.ntmps102
    go_wp2_with fail
    refine CI.out.mono ?_
    rintro e w1 ⟨rfl, b2⟩
    have b2 : Below (w.heap.size + 1) (w.alloc (.cells #[.int .i64 x.n, .int .u64 x.h, .int .u64 x.l] 156)) w1 := by simpa using b2
    clear CI O1
    dsimp only
    go_wp2_with fail
    refine region_q9 (C := fun v => Below (w.heap.size + 1) (w.alloc (.cells #[.int .i64 x.n, .int .u64 x.h, .int .u64 x.l] 156)) v) (by kernel_rfl) (by kernel_rfl) b2.drew ?_
    refine wqv (u := x.val) (by kernel_rfl) (fun v hv => by obtain ⟨⟨y0, y1, y2⟩, _⟩ := KH.out v hv; go_simp; rfl) ?_
    simp only [Act.put, List.setIfInBounds_toArray, List.set_cons_zero, List.set_cons_succ]
    refine wqv (u := .slice (some ⟨g, 0, none⟩) n n) (by kernel_rfl) (fun v hv => by kernel_rfl) ?_
    simp only [Act.put, List.setIfInBounds_toArray, List.set_cons_zero, List.set_cons_succ]
    refine wqv (u := .int .i64 (i : Int)) (by kernel_rfl) (fun v hv => by kernel_rfl) ?_
    simp only [Act.put, List.setIfInBounds_toArray, List.set_cons_zero, List.set_cons_succ]
    refine wqv (u := .pointer (some ⟨g, i * 3, none⟩)) (by kernel_rfl) (fun v hv => by go_simp) ?_
    simp only [Act.put, List.setIfInBounds_toArray, List.set_cons_zero, List.set_cons_succ]
    refine wqv (u := y.val) (by kernel_rfl) (fun v hv => by obtain ⟨_, ⟨y0, y1, y2⟩, _⟩ := KH.out v hv; go_simp; rfl) ?_
    simp only [Act.put, List.setIfInBounds_toArray, List.set_cons_zero, List.set_cons_succ]
    refine wqc (fid := 138) (args := #[x.val, y.val]) (u := .bool R) (by kernel_rfl) (fun v => by kernel_rfl) (fun v hv => (cr.out v).mono fun e w' h => ⟨h.1, hv.trans (h.2.mono (by have := hv.size; rwa [World.size_alloc] at this))⟩) ?_
    simp only [Act.put, List.setIfInBounds_toArray, List.set_cons_zero, List.set_cons_succ]
    refine wqv (u := .bool R) (by kernel_rfl) (fun v hv => by kernel_rfl) ?_
    simp only [Act.put, List.setIfInBounds_toArray, List.set_cons_zero, List.set_cons_succ]
    refine wqnil (fun v hv => ?_)
    obtain ⟨⟨y0, y1, y2⟩, _, ov⟩ := KH.out v hv
    have OV := hide ov
    have zv : w.heap.size + 1 ≤ v.heap.size := by have := hv.size; simpa using this
    have BV := hide (HB1.out.trans (hv.mono (by omega)))
    clear ov hv KH cr
    cases R
    · go_wp2
      go_ret
      refine ⟨_, rfl, ?_, BV.out.mono hB⟩
      rw [HP.out]
      exact OV.out
    · go_wp2_with (first
        | (refine storeY kMkV _ rfl 156 (.tmp 25) (.tmp 24) rfl B g n n L i 0 y x _ rfl rfl HG.out (by kernel_rfl) (by exact (by decide : 3 ≤ 3)) rfl OV.out ?_; intro w3 o3 u3 z3; have O3 := hide o3; clear o3)
        | go_in)
      go_ret
      refine ⟨_, rfl, ?_, (BV.out.mono hB).trans (u3.below (by omega) (fun k e => by subst e; exact hgb.1))⟩
      rw [HP.out]
      exact O3.out

end Go.Proofs.YtcmjhaljbmhpgaaGreat

namespace Go.Proofs.YtcmjhaljbmhpgaaGreat
open Go.RowKit Go.Maps
open Classical
set_option linter.unusedVariables false
set_option linter.unusedSimpArgs false

theorem Mk.told_any (x : Mk) (w : World) : Calls Tryz.prog 105 #[x.val] w fun e w' => e = .returned x.val ∧ Below w.heap.size w w' := by
  show Calls Tryz.prog 105 #[.agg #[.int .i64 x.n, .int .u64 x.h, .int .u64 x.l]] w _
  go_enter Tryz.func105, Tryz.ntmps105
  go_wp2
  refine bodyPost_ret (v := x.val) (by simp [results, Tryz.results105, go_sem, Mk.val]) rfl ?_
  exact ⟨rfl, by (repeat (first | exact Below.refl _ _ | assumption | refine Below.drew ?_ | refine Below.alloc ?_ (by first | (simp; done) | (simp; omega) | omega) _ | refine Below.setCell ?_ (by first | (simp; done) | (simp; omega) | omega) _))⟩
set_option maxRecDepth 100000 in
set_option maxHeartbeats 1000000 in
/-- tell: votes as callers have them. -/
theorem Mk.tell_any (L : List Mk) (a : Option Addr) (n c : Nat) (w : World) (h : SlY yMkV w a n c L) (hb : n * 24 ≤ 281474976710656) :
    Calls Tryz.prog 101 #[.slice a n c, .func (.func 105) #[] #[]] w fun e w' => e = .returned (.slice (some ⟨w.heap.size, 0, none⟩) n n) ∧ OwnY yMkA w.heap.size w' (.slice (some ⟨w.heap.size, 0, none⟩) n n) L ∧ Below w.heap.size w w' := by
  have hmx := h.max
  have hcp := h.cap
  have hln := h.len
  unfold maxLen at hmx
  have H := hide h
  have HN := hide hln
  clear h hln
  go_enter Tryz.func101, Tryz.ntmps101
  go_wp2_with (at_make; go_must (refine makeYs kMkA _ rfl (.tmp 9) rfl n rfl (by unfold maxLen; omega) hb ?zk))
  intro w1 o1 b1
  have HO : Hid (OwnY yMkA w.heap.size w1 (.slice (some ⟨w.heap.size, 0, none⟩) n n) (L.take 0 ++ List.replicate (n - 0) yMkA.z)) := by
    show OwnY _ _ _ _ _
    simpa using o1
  clear o1
  go_wp2
  go_loopw [13] (fun i wr => ∃ j : Nat, i = .int .i64 (j : Int) ∧ j ≤ n ∧ Hid (OwnY yMkA w.heap.size wr (.slice (some ⟨w.heap.size, 0, none⟩) n n) (L.take j ++ List.replicate (n - j) yMkA.z)) ∧ Below w.heap.size w wr) (fun i _ => n - (intOf i).toNat)
  case atStart => exact ⟨0, rfl, Nat.zero_le _, HO, b1⟩
  case round =>
    obtain ⟨j, rfl, hj, hO, hbl⟩ := hrel
    have hsz := hbl.size
    by_cases hlt : j < n
    · have hjl : j < L.length := by rw [HN.out]; exact hlt
      have hg : L[j]? = some L[j] := List.getElem?_eq_getElem hjl
      obtain ⟨q, o, rfl, hq, y0, y1, y2⟩ := (H.out.later hbl).MkV hg
      have hlt0 : w.heap.size < wr.heap.size := by
        obtain ⟨_, _, ee, _, _, _, h4⟩ := hO.out.form
        injection ee with ee
        obtain ⟨g', e2, _, h5⟩ := h4 _ ee.symm
        cases e2
        exact h5
      have hset : Hid ((L.take j ++ List.replicate (n - j) yMkA.z).set j L[j] = L.take (j + 1) ++ List.replicate (n - (j + 1)) yMkA.z) := by
        show _ = _
        have hl : (L.take j).length = j := by rw [List.length_take]; omega
        rw [List.set_append_right _ _ (by omega), hl, Nat.sub_self, show n - j = (n - (j + 1)) + 1 by omega, List.replicate_succ, List.set_cons_zero, List.take_add_one, hg]
        simp only [Option.toList_some, List.append_assoc, List.cons_append, List.nil_append]
      have hget : Hid ((L.take j ++ List.replicate (n - j) yMkA.z)[j]? = some yMkA.z) := by
        show _ = _
        have hl : (L.take j).length = j := by rw [List.length_take]; omega
        rw [List.getElem?_append_right (by omega), hl, Nat.sub_self, show n - j = (n - (j + 1)) + 1 by omega, List.replicate_succ]
        rfl
      clear hg
      generalize L[j] = x at *
      generalize hX : L.take j ++ List.replicate (n - j) yMkA.z = XX at *
      clear hX
      have bA := hide (hbl.trans (((Below.refl _ wr).alloc (Nat.le_refl _) (.cells #[.int .i64 x.n, .int .u64 x.h, .int .u64 x.l] 156)).mono hsz))
      have OA := hide (hO.out.alloc (.cells #[.int .i64 x.n, .int .u64 x.h, .int .u64 x.l] 156))
      have ca := hide (x.told_any (wr.alloc (.cells #[.int .i64 x.n, .int .u64 x.h, .int .u64 x.l] 156)))
      clear hO
      go_wp2_with fail
      refine ca.out.mono ?_
      rintro e w2 ⟨rfl, b2⟩
      have O2 := hide (OA.out.grow b2)
      have z2 := b2.size
      rw [World.size_alloc] at z2
      dsimp only
      go_wp2_with (first
        | (refine storeY kMkA _ rfl 109 (.tmp 23) (.tmp 22) rfl w.heap.size w.heap.size n n XX j 0 yMkA.z x _ rfl rfl hget.out (by kernel_rfl) (by exact (by decide : 3 ≤ 3)) rfl O2.out ?_; intro w3 o3 u3 z3; have O3 := hide o3; clear o3)
        | go_in)
      go_round
      case rel =>
        refine ⟨j + 1, by go_num, by omega, by show OwnY _ _ _ _ _; rw [← hset.out]; exact O3.out, bA.out.trans ((b2.mono (by simp; omega)).trans (u3.below (by omega) (fun k e => by subst e; exact Nat.le_refl _)))⟩
      case measure => simp [intOf]; omega
    · obtain rfl : j = n := by omega
      have O9 : Hid (OwnY yMkA w.heap.size wr (.slice (some ⟨w.heap.size, 0, none⟩) j j) L) := by
        show OwnY _ _ _ _ _
        have := hO.out
        rw [Nat.sub_self, List.replicate_zero, List.append_nil, List.take_of_length_le (by rw [HN.out]; exact Nat.le_refl _)] at this
        exact this
      clear hO
      go_wp2
      go_ret
      exact ⟨rfl, O9.out, hbl⟩

theorem Mk.put_len (L : List Mk) (x : Mk) : (Mk.put L x).length ≤ L.length + 1 := by
  unfold Mk.put
  split
  · unfold Mk.ins
    have := Mk.at_le L x
    simp only [List.length_append, List.length_take, List.length_cons, List.length_drop]
    omega
  · split
    · rw [List.length_set]; omega
    · omega
set_option maxRecDepth 100000 in
set_option maxHeartbeats 1000000 in
theorem Mk.Put_any (L : List Mk) (x : Mk) (a : Option Addr) (n c : Nat) (w : World) (h : SlY yMkA w a n c L) (hm : (n + 1) * 24 ≤ 140737488355328) :
    Calls Tryz.prog 62 #[.slice a n c, x.val] w fun e w' => ∃ v, e = .returned v ∧ OwnY yMkA w.heap.size w' v (Mk.put L x) ∧ Below w.heap.size w w' := by
  have hln := h.len
  have b1 : Below w.heap.size w (w.alloc (.cells #[.int .i64 x.n, .int .u64 x.h, .int .u64 x.l] 109)) := (Below.refl _ w).alloc (Nat.le_refl _) _
  have ch : Hid (∀ W, Below w.heap.size w W → W.heap.size = w.heap.size + 1 → Calls Tryz.prog 103 #[.slice a n c, .func (.func 104) #[] #[]] W fun e w' => e = .returned (.slice (some ⟨w.heap.size + 1, 0, none⟩) n n) ∧ OwnY yMkV (w.heap.size + 1) w' (.slice (some ⟨w.heap.size + 1, 0, none⟩) n n) L ∧ Below (w.heap.size + 1) W w') := fun W hW hz => by
    have := Mk.hold_any L a n c W (h.later hW) (by omega)
    rw [hz] at this
    exact this
  have HB1 := hide b1
  have KB : Hid (∀ v, Below (w.heap.size + 1) (w.alloc (.cells #[.int .i64 x.n, .int .u64 x.h, .int .u64 x.l] 109)) v → (v.cell? ⟨w.heap.size, 0, none⟩ = some (.int .i64 x.n) ∧ v.cell? ⟨w.heap.size, 1, none⟩ = some (.int .u64 x.h) ∧ v.cell? ⟨w.heap.size, 2, none⟩ = some (.int .u64 x.l))) := fun v hv =>
    ⟨(hv.cell (p := ⟨w.heap.size, 0, none⟩) (by simp)).trans (by simp), (hv.cell (p := ⟨w.heap.size, 1, none⟩) (by simp)).trans (by simp), (hv.cell (p := ⟨w.heap.size, 2, none⟩) (by simp)).trans (by simp)⟩
  have KZ : Hid (∀ v, Below (w.heap.size + 1) (w.alloc (.cells #[.int .i64 x.n, .int .u64 x.h, .int .u64 x.l] 109)) v → w.heap.size + 1 ≤ v.heap.size) := fun v hv => by have := hv.size; simpa using this
  have HN := hide hln
  have HL : Hid ((Mk.put L x).length * 24 ≤ 281474976710656) := by
    show _ ≤ _
    have h1 := Mk.put_len L x
    rw [hln] at h1
    have h2 := Nat.mul_le_mul_right 24 h1
    omega
  clear h b1 hln
  show Calls Tryz.prog 62 #[.slice a n c, .agg #[.int .i64 x.n, .int .u64 x.h, .int .u64 x.l]] w _
  go_enter Tryz.func62, Tryz.ntmps62
  go_wp2_with fail
  have s0 := KB.out _ (Below.refl (w.heap.size + 1) (w.alloc (.cells #[.int .i64 x.n, .int .u64 x.h, .int .u64 x.l] 109))).drew
  go_region_held3 (fun v => v.cell? ⟨w.heap.size, 0, none⟩ = some (.int .i64 x.n) ∧ v.cell? ⟨w.heap.size, 1, none⟩ = some (.int .u64 x.h) ∧ v.cell? ⟨w.heap.size, 2, none⟩ = some (.int .u64 x.l)) (with_reducible assumption) (first
    | (go_at_call 103; refine (ch.out _ HB1.out.drew (by simp)).mono ?_; rintro e w2 ⟨rfl, o2, b2⟩; have O2 := hide o2; have D2 := hide ((Below.refl (w.heap.size + 1) (w.alloc (.cells #[.int .i64 x.n, .int .u64 x.h, .int .u64 x.l] 109))).drew.trans b2); have Z2 := KZ.out _ D2.out; have s2 := KB.out w2 D2.out; clear o2 b2)
    | (go_at_call 104; refine (x.as_any w2).mono ?_; rintro e w3 ⟨rfl, b3⟩; have O3 := hide (O2.out.grow b3); have D3 := hide (D2.out.trans (b3.mono Z2)); have Z3 := KZ.out _ D3.out; have s3 := KB.out w3 D3.out; clear b3)
    | (go_at_call 102; refine (Mk.put_any L x n (w.heap.size + 1) (w.heap.size + 1) w3 HN.out O3.out Z3 hm).mono ?_; rintro e w4 ⟨v4, rfl, o4, b4⟩; obtain ⟨a4, c4, rfl, s4, _⟩ := o4.sl kMkV; have S4 := hide s4; have D4 := hide (D3.out.trans b4); have Z4 := KZ.out _ D4.out; have s4 := KB.out w4 D4.out; clear o4 b4)
    | (go_at_call 101; refine (Mk.tell_any (Mk.put L x) a4 _ c4 w4 S4.out HL.out).mono ?_; rintro e w5 ⟨rfl, o5, b5⟩; have D5 := hide (D4.out.trans (b5.mono Z4)); have O5 := hide (o5.low (B' := w.heap.size) (by omega)); have s5 := KB.out w5 D5.out; clear o5 b5))
  go_wp2
  go_ret
  exact ⟨_, rfl, O5.out, HB1.out.trans (D5.out.mono (by omega))⟩

end Go.Proofs.YtcmjhaljbmhpgaaGreat
