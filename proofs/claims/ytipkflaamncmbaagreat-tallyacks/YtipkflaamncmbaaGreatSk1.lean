import Derived.Test.YtipkflaamncmbaaGreatSa
namespace Go.Proofs.YtipkflaamncmbaaGreat
open Go.RowKit Go.Maps
open Classical
set_option linter.unusedVariables false
set_option linter.unusedSimpArgs false

/-- A vote: ack. -/
structure Ak where
  n : Int
  h : Int
  l : Int
  p : Int

def Ak.cs (x : Ak) : List Value := [.int .i64 x.n, .int .u64 x.h, .int .u64 x.l, .int .i64 x.p]
def Ak.val (x : Ak) : Value := .agg #[.int .i64 x.n, .int .u64 x.h, .int .u64 x.l, .int .i64 x.p]
def yAkA : Lay Ak := ⟨29, 24, 4, 32, Ak.cs, ⟨0, 0, 0, 0⟩⟩
def yAkV : Lay Ak := ⟨82, 84, 4, 32, Ak.cs, ⟨0, 0, 0, 0⟩⟩
theorem kAkA : yAkA.Ok := ⟨by decide, fun x => rfl, fun x u h => by
    simp [yAkA, Ak.cs] at h
    rcases h with rfl | rfl | rfl | rfl <;> rfl, Tryz.underlying24, ⟨.agg #[.int .i64 (⟨0, 0, 0, 0⟩ : Ak).n, .int .u64 (⟨0, 0, 0, 0⟩ : Ak).h, .int .u64 (⟨0, 0, 0, 0⟩ : Ak).l, .int .i64 (⟨0, 0, 0, 0⟩ : Ak).p], by kernel_rfl, rfl⟩⟩
theorem kAkV : yAkV.Ok := ⟨by decide, fun x => rfl, fun x u h => by
    simp [yAkV, Ak.cs] at h
    rcases h with rfl | rfl | rfl | rfl <;> rfl, Tryz.underlying84, ⟨.agg #[.int .i64 (⟨0, 0, 0, 0⟩ : Ak).n, .int .u64 (⟨0, 0, 0, 0⟩ : Ak).h, .int .u64 (⟨0, 0, 0, 0⟩ : Ak).l, .int .i64 (⟨0, 0, 0, 0⟩ : Ak).p], by kernel_rfl, rfl⟩⟩
theorem SlY.AkA {w : World} {a : Option Addr} {n c : Nat} {L : List Ak} (h : SlY yAkA w a n c L) {j : Nat} {x : Ak} (hx : L[j]? = some x) : ∃ q o, a = some ⟨q, o, none⟩ ∧ q < w.heap.size ∧ w.cell? ⟨q, o + j * 4, none⟩ = some (.int .i64 x.n) ∧ w.cell? ⟨q, o + j * 4 + 1, none⟩ = some (.int .u64 x.h) ∧ w.cell? ⟨q, o + j * 4 + 2, none⟩ = some (.int .u64 x.l) ∧ w.cell? ⟨q, o + j * 4 + 3, none⟩ = some (.int .i64 x.p) := by
  obtain ⟨q, o, ea, hq, hl⟩ := h.place (by rintro rfl; simp at hx)
  exact ⟨q, o, ea, hq, hl j x hx 0 _ rfl, hl j x hx 1 _ rfl, hl j x hx 2 _ rfl, hl j x hx 3 _ rfl⟩
theorem SlY.AkV {w : World} {a : Option Addr} {n c : Nat} {L : List Ak} (h : SlY yAkV w a n c L) {j : Nat} {x : Ak} (hx : L[j]? = some x) : ∃ q o, a = some ⟨q, o, none⟩ ∧ q < w.heap.size ∧ w.cell? ⟨q, o + j * 4, none⟩ = some (.int .i64 x.n) ∧ w.cell? ⟨q, o + j * 4 + 1, none⟩ = some (.int .u64 x.h) ∧ w.cell? ⟨q, o + j * 4 + 2, none⟩ = some (.int .u64 x.l) ∧ w.cell? ⟨q, o + j * 4 + 3, none⟩ = some (.int .i64 x.p) := by
  obtain ⟨q, o, ea, hq, hl⟩ := h.place (by rintro rfl; simp at hx)
  exact ⟨q, o, ea, hq, hl j x hx 0 _ rfl, hl j x hx 1 _ rfl, hl j x hx 2 _ rfl, hl j x hx 3 _ rfl⟩
theorem Ak.node_any (x : Ak) (w : World) : Calls Tryz.prog 189 #[x.val] w fun e w' => e = .returned (.int .i64 x.n) ∧ Below w.heap.size w w' := by
  show Calls Tryz.prog 189 #[.agg #[.int .i64 x.n, .int .u64 x.h, .int .u64 x.l, .int .i64 x.p]] w _
  go_enter Tryz.func189, Tryz.ntmps189
  go_wp2
  go_ret
  exact ⟨rfl, (Below.refl _ _).alloc (Nat.le_refl _) _⟩
theorem Ak.draw_any (x : Ak) (w : World) : Calls Tryz.prog 186 #[x.val] w fun e w' => e = .returned (.agg #[.int .u64 x.h, .int .u64 x.l]) ∧ Below w.heap.size w w' := by
  show Calls Tryz.prog 186 #[.agg #[.int .i64 x.n, .int .u64 x.h, .int .u64 x.l, .int .i64 x.p]] w _
  go_enter Tryz.func186, Tryz.ntmps186
  go_wp2
  refine bodyPost_ret (v := .agg #[.int .u64 x.h, .int .u64 x.l]) (by simp [results, Tryz.results186, go_sem]) rfl ?_
  exact ⟨rfl, by (repeat (first | exact Below.refl _ _ | assumption | refine Below.drew ?_ | refine Below.alloc ?_ (by first | (simp; done) | (simp; omega) | omega) _ | refine Below.setCell ?_ (by first | (simp; done) | (simp; omega) | omega) _))⟩
theorem Ak.as_any (x : Ak) (w : World) : Calls Tryz.prog 46 #[x.val] w fun e w' => e = .returned x.val ∧ Below w.heap.size w w' := by
  show Calls Tryz.prog 46 #[.agg #[.int .i64 x.n, .int .u64 x.h, .int .u64 x.l, .int .i64 x.p]] w _
  go_enter Tryz.func46, Tryz.ntmps46
  go_wp2
  refine bodyPost_ret (v := x.val) (by simp [results, Tryz.results46, go_sem, Ak.val]) rfl ?_
  exact ⟨rfl, by (repeat (first | exact Below.refl _ _ | assumption | refine Below.drew ?_ | refine Below.alloc ?_ (by first | (simp; done) | (simp; omega) | omega) _ | refine Below.setCell ?_ (by first | (simp; done) | (simp; omega) | omega) _))⟩
theorem Ak.ifnode (x : Ak) (w : World) : (invoke (.fn (.method "amnesia/tally.node") #[]) #[.iface 82 x.val]).run Tryz.prog w = .ok (.enter 189 #[x.val]) w := by kernel_rfl
set_option maxRecDepth 100000 in
set_option maxHeartbeats 400000 in
theorem Ak.isNode (x y : Ak) (b : Nat) (w : World) (hb : b < w.heap.size) (hc : w.cell? ⟨b, 0, none⟩ = some (.int .i64 y.n) ∧ w.cell? ⟨b, 1, none⟩ = some (.int .u64 y.h) ∧ w.cell? ⟨b, 2, none⟩ = some (.int .u64 y.l) ∧ w.cell? ⟨b, 3, none⟩ = some (.int .i64 y.p)) : Calls Tryz.prog 91 #[x.val, .pointer (some ⟨b, 0, none⟩)] w fun e w' => e = .returned (.bool (decide (x.n = y.n))) ∧ Below w.heap.size w w' := by
  obtain ⟨y0, y1, y2, y3⟩ := hc
  show Calls Tryz.prog 91 #[.agg #[.int .i64 x.n, .int .u64 x.h, .int .u64 x.l, .int .i64 x.p], .pointer (some ⟨b, 0, none⟩)] w _
  go_enter Tryz.func91, Tryz.ntmps91
  go_wp2_with fail
  have hbW : b ≠ w.heap.size := by omega
  have KH : Hid (∀ v, Below (w.heap.size + 1) (w.alloc (.cells #[.int .i64 x.n, .int .u64 x.h, .int .u64 x.l, .int .i64 x.p] 82)) v → (v.cell? ⟨w.heap.size, 0, none⟩ = some (.int .i64 x.n) ∧ v.cell? ⟨w.heap.size, 1, none⟩ = some (.int .u64 x.h) ∧ v.cell? ⟨w.heap.size, 2, none⟩ = some (.int .u64 x.l) ∧ v.cell? ⟨w.heap.size, 3, none⟩ = some (.int .i64 x.p)) ∧ (v.cell? ⟨b, 0, none⟩ = some (.int .i64 y.n) ∧ v.cell? ⟨b, 1, none⟩ = some (.int .u64 y.h) ∧ v.cell? ⟨b, 2, none⟩ = some (.int .u64 y.l) ∧ v.cell? ⟨b, 3, none⟩ = some (.int .i64 y.p))) := fun v hv =>
    ⟨⟨(hv.cell (p := ⟨w.heap.size, 0, none⟩) (by simp)).trans (by simp), (hv.cell (p := ⟨w.heap.size, 1, none⟩) (by simp)).trans (by simp), (hv.cell (p := ⟨w.heap.size, 2, none⟩) (by simp)).trans (by simp), (hv.cell (p := ⟨w.heap.size, 3, none⟩) (by simp)).trans (by simp)⟩, ⟨(hv.cell (p := ⟨b, 0, none⟩) (by simp; omega)).trans ((World.cell?_alloc_old w _ ⟨b, 0, none⟩ hbW).trans y0), (hv.cell (p := ⟨b, 1, none⟩) (by simp; omega)).trans ((World.cell?_alloc_old w _ ⟨b, 1, none⟩ hbW).trans y1), (hv.cell (p := ⟨b, 2, none⟩) (by simp; omega)).trans ((World.cell?_alloc_old w _ ⟨b, 2, none⟩ hbW).trans y2), (hv.cell (p := ⟨b, 3, none⟩) (by simp; omega)).trans ((World.cell?_alloc_old w _ ⟨b, 3, none⟩ hbW).trans y3)⟩⟩
  refine region_q9 (C := fun v => Below (w.heap.size + 1) (w.alloc (.cells #[.int .i64 x.n, .int .u64 x.h, .int .u64 x.l, .int .i64 x.p] 82)) v) (by kernel_rfl) (by kernel_rfl) (Below.refl _ _).drew ?_
  refine wqv (u := x.val) (by kernel_rfl) (fun v hv => by obtain ⟨⟨y0, y1, y2, y3⟩, _⟩ := KH.out v hv; go_simp; rfl) ?_
  simp only [Act.put, List.setIfInBounds_toArray, List.set_cons_zero, List.set_cons_succ]
  refine wqv (u := .iface 82 x.val) (by kernel_rfl) (fun v hv => by kernel_rfl) ?_
  simp only [Act.put, List.setIfInBounds_toArray, List.set_cons_zero, List.set_cons_succ]
  refine wqi (fid := 189) (args := #[x.val]) (AS := #[]) (V := .iface 82 x.val) (u := .int .i64 x.n) (by kernel_rfl) _ _ rfl (by kernel_rfl) (by kernel_rfl) (fun v => x.ifnode v) (fun v hv => (x.node_any v).mono fun e w' h => ⟨h.1, hv.trans (h.2.mono (by have := hv.size; rwa [World.size_alloc] at this))⟩) ?_
  simp only [Act.put, List.setIfInBounds_toArray, List.set_cons_zero, List.set_cons_succ]
  refine wqv (u := y.val) (by kernel_rfl) (fun v hv => by obtain ⟨_, ⟨y0, y1, y2, y3⟩⟩ := KH.out v hv; go_simp; rfl) ?_
  simp only [Act.put, List.setIfInBounds_toArray, List.set_cons_zero, List.set_cons_succ]
  refine wqv (u := .iface 82 y.val) (by kernel_rfl) (fun v hv => by kernel_rfl) ?_
  simp only [Act.put, List.setIfInBounds_toArray, List.set_cons_zero, List.set_cons_succ]
  refine wqi (fid := 189) (args := #[y.val]) (AS := #[]) (V := .iface 82 y.val) (u := .int .i64 y.n) (by kernel_rfl) _ _ rfl (by kernel_rfl) (by kernel_rfl) (fun v => y.ifnode v) (fun v hv => (y.node_any v).mono fun e w' h => ⟨h.1, hv.trans (h.2.mono (by have := hv.size; rwa [World.size_alloc] at this))⟩) ?_
  simp only [Act.put, List.setIfInBounds_toArray, List.set_cons_zero, List.set_cons_succ]
  refine wqv (u := .bool (decide (x.n = y.n))) (by kernel_rfl) (fun v hv => by go_simp; rfl) ?_
  simp only [Act.put, List.setIfInBounds_toArray, List.set_cons_zero, List.set_cons_succ]
  refine wqv (u := .bool (decide (x.n = y.n))) (by kernel_rfl) (fun v hv => by kernel_rfl) ?_
  simp only [Act.put, List.setIfInBounds_toArray, List.set_cons_zero, List.set_cons_succ]
  refine wqnil ?_
  intro w' hb'
  go_wp2
  go_ret
  exact ⟨rfl, ((Below.refl _ w).alloc (Nat.le_refl _) _).trans (hb'.mono (Nat.le_succ _))⟩
set_option maxRecDepth 100000 in
set_option maxHeartbeats 400000 in
theorem Ak.isAbove (x y : Ak) (b : Nat) (w : World) (hb : b < w.heap.size) (hc : w.cell? ⟨b, 0, none⟩ = some (.int .i64 y.n) ∧ w.cell? ⟨b, 1, none⟩ = some (.int .u64 y.h) ∧ w.cell? ⟨b, 2, none⟩ = some (.int .u64 y.l) ∧ w.cell? ⟨b, 3, none⟩ = some (.int .i64 y.p)) : Calls Tryz.prog 121 #[x.val, .pointer (some ⟨b, 0, none⟩)] w fun e w' => e = .returned (.bool (decide (y.n < x.n))) ∧ Below w.heap.size w w' := by
  obtain ⟨y0, y1, y2, y3⟩ := hc
  show Calls Tryz.prog 121 #[.agg #[.int .i64 x.n, .int .u64 x.h, .int .u64 x.l, .int .i64 x.p], .pointer (some ⟨b, 0, none⟩)] w _
  go_enter Tryz.func121, Tryz.ntmps121
  go_wp2_with fail
  have hbW : b ≠ w.heap.size := by omega
  have KH : Hid (∀ v, Below (w.heap.size + 1) (w.alloc (.cells #[.int .i64 x.n, .int .u64 x.h, .int .u64 x.l, .int .i64 x.p] 82)) v → (v.cell? ⟨w.heap.size, 0, none⟩ = some (.int .i64 x.n) ∧ v.cell? ⟨w.heap.size, 1, none⟩ = some (.int .u64 x.h) ∧ v.cell? ⟨w.heap.size, 2, none⟩ = some (.int .u64 x.l) ∧ v.cell? ⟨w.heap.size, 3, none⟩ = some (.int .i64 x.p)) ∧ (v.cell? ⟨b, 0, none⟩ = some (.int .i64 y.n) ∧ v.cell? ⟨b, 1, none⟩ = some (.int .u64 y.h) ∧ v.cell? ⟨b, 2, none⟩ = some (.int .u64 y.l) ∧ v.cell? ⟨b, 3, none⟩ = some (.int .i64 y.p))) := fun v hv =>
    ⟨⟨(hv.cell (p := ⟨w.heap.size, 0, none⟩) (by simp)).trans (by simp), (hv.cell (p := ⟨w.heap.size, 1, none⟩) (by simp)).trans (by simp), (hv.cell (p := ⟨w.heap.size, 2, none⟩) (by simp)).trans (by simp), (hv.cell (p := ⟨w.heap.size, 3, none⟩) (by simp)).trans (by simp)⟩, ⟨(hv.cell (p := ⟨b, 0, none⟩) (by simp; omega)).trans ((World.cell?_alloc_old w _ ⟨b, 0, none⟩ hbW).trans y0), (hv.cell (p := ⟨b, 1, none⟩) (by simp; omega)).trans ((World.cell?_alloc_old w _ ⟨b, 1, none⟩ hbW).trans y1), (hv.cell (p := ⟨b, 2, none⟩) (by simp; omega)).trans ((World.cell?_alloc_old w _ ⟨b, 2, none⟩ hbW).trans y2), (hv.cell (p := ⟨b, 3, none⟩) (by simp; omega)).trans ((World.cell?_alloc_old w _ ⟨b, 3, none⟩ hbW).trans y3)⟩⟩
  refine region_q9 (C := fun v => Below (w.heap.size + 1) (w.alloc (.cells #[.int .i64 x.n, .int .u64 x.h, .int .u64 x.l, .int .i64 x.p] 82)) v) (by kernel_rfl) (by kernel_rfl) (Below.refl _ _).drew ?_
  refine wqv (u := x.val) (by kernel_rfl) (fun v hv => by obtain ⟨⟨y0, y1, y2, y3⟩, _⟩ := KH.out v hv; go_simp; rfl) ?_
  simp only [Act.put, List.setIfInBounds_toArray, List.set_cons_zero, List.set_cons_succ]
  refine wqv (u := .iface 82 x.val) (by kernel_rfl) (fun v hv => by kernel_rfl) ?_
  simp only [Act.put, List.setIfInBounds_toArray, List.set_cons_zero, List.set_cons_succ]
  refine wqi (fid := 189) (args := #[x.val]) (AS := #[]) (V := .iface 82 x.val) (u := .int .i64 x.n) (by kernel_rfl) _ _ rfl (by kernel_rfl) (by kernel_rfl) (fun v => x.ifnode v) (fun v hv => (x.node_any v).mono fun e w' h => ⟨h.1, hv.trans (h.2.mono (by have := hv.size; rwa [World.size_alloc] at this))⟩) ?_
  simp only [Act.put, List.setIfInBounds_toArray, List.set_cons_zero, List.set_cons_succ]
  refine wqv (u := y.val) (by kernel_rfl) (fun v hv => by obtain ⟨_, ⟨y0, y1, y2, y3⟩⟩ := KH.out v hv; go_simp; rfl) ?_
  simp only [Act.put, List.setIfInBounds_toArray, List.set_cons_zero, List.set_cons_succ]
  refine wqv (u := .iface 82 y.val) (by kernel_rfl) (fun v hv => by kernel_rfl) ?_
  simp only [Act.put, List.setIfInBounds_toArray, List.set_cons_zero, List.set_cons_succ]
  refine wqi (fid := 189) (args := #[y.val]) (AS := #[]) (V := .iface 82 y.val) (u := .int .i64 y.n) (by kernel_rfl) _ _ rfl (by kernel_rfl) (by kernel_rfl) (fun v => y.ifnode v) (fun v hv => (y.node_any v).mono fun e w' h => ⟨h.1, hv.trans (h.2.mono (by have := hv.size; rwa [World.size_alloc] at this))⟩) ?_
  simp only [Act.put, List.setIfInBounds_toArray, List.set_cons_zero, List.set_cons_succ]
  refine wqv (u := .bool (decide (y.n < x.n))) (by kernel_rfl) (fun v hv => by go_simp) ?_
  simp only [Act.put, List.setIfInBounds_toArray, List.set_cons_zero, List.set_cons_succ]
  refine wqv (u := .bool (decide (y.n < x.n))) (by kernel_rfl) (fun v hv => by kernel_rfl) ?_
  simp only [Act.put, List.setIfInBounds_toArray, List.set_cons_zero, List.set_cons_succ]
  refine wqnil ?_
  intro w' hb'
  go_wp2
  go_ret
  exact ⟨rfl, ((Below.refl _ w).alloc (Nat.le_refl _) _).trans (hb'.mono (Nat.le_succ _))⟩

end Go.Proofs.YtipkflaamncmbaaGreat
