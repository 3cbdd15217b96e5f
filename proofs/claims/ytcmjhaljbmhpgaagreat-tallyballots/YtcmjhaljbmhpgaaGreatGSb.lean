import Derived.Test.YtcmjhaljbmhpgaaGreatSa
import Derived.Test.YtcmjhaljbmhpgaaGreatSo
import Derived.Deep.RegionHeld3
import Derived.Test.YtcmjhaljbmhpgaaGreatSc
namespace Go.Proofs.YtcmjhaljbmhpgaaGreat
open Go.RowKit Go.Maps
open Classical
set_option linter.unusedVariables false
set_option linter.unusedSimpArgs false

/-- A vote: ballot. -/
structure Bl where
  n : Int
  h : Int
  l : Int
  v : Int
  c : Int
  s : SV En

def Bl.cs (x : Bl) : List Value := [.int .i64 x.n, .int .u64 x.h, .int .u64 x.l, .int .i64 x.v, .int .i64 x.c, .slice x.s.a x.s.D.length x.s.c]
def Bl.val (x : Bl) : Value := .agg #[.int .i64 x.n, .int .u64 x.h, .int .u64 x.l, .int .i64 x.v, .int .i64 x.c, .slice x.s.a x.s.D.length x.s.c]
def yBlA : Lay Bl := ⟨53, 50, 6, 64, Bl.cs, ⟨0, 0, 0, 0, 0, ⟨none, 0, []⟩⟩⟩
def yBlV : Lay Bl := ⟨116, 118, 6, 64, Bl.cs, ⟨0, 0, 0, 0, 0, ⟨none, 0, []⟩⟩⟩
theorem kBlA : yBlA.Ok := ⟨by decide, fun x => rfl, fun x u h => by
    simp [yBlA, Bl.cs] at h
    rcases h with rfl | rfl | rfl | rfl | rfl | rfl <;> rfl, Tryz.underlying50, ⟨.agg #[.int .i64 (⟨0, 0, 0, 0, 0, ⟨none, 0, []⟩⟩ : Bl).n, .int .u64 (⟨0, 0, 0, 0, 0, ⟨none, 0, []⟩⟩ : Bl).h, .int .u64 (⟨0, 0, 0, 0, 0, ⟨none, 0, []⟩⟩ : Bl).l, .int .i64 (⟨0, 0, 0, 0, 0, ⟨none, 0, []⟩⟩ : Bl).v, .int .i64 (⟨0, 0, 0, 0, 0, ⟨none, 0, []⟩⟩ : Bl).c, .slice (⟨0, 0, 0, 0, 0, ⟨none, 0, []⟩⟩ : Bl).s.a (⟨0, 0, 0, 0, 0, ⟨none, 0, []⟩⟩ : Bl).s.D.length (⟨0, 0, 0, 0, 0, ⟨none, 0, []⟩⟩ : Bl).s.c], by kernel_rfl, rfl⟩⟩
theorem kBlV : yBlV.Ok := ⟨by decide, fun x => rfl, fun x u h => by
    simp [yBlV, Bl.cs] at h
    rcases h with rfl | rfl | rfl | rfl | rfl | rfl <;> rfl, Tryz.underlying118, ⟨.agg #[.int .i64 (⟨0, 0, 0, 0, 0, ⟨none, 0, []⟩⟩ : Bl).n, .int .u64 (⟨0, 0, 0, 0, 0, ⟨none, 0, []⟩⟩ : Bl).h, .int .u64 (⟨0, 0, 0, 0, 0, ⟨none, 0, []⟩⟩ : Bl).l, .int .i64 (⟨0, 0, 0, 0, 0, ⟨none, 0, []⟩⟩ : Bl).v, .int .i64 (⟨0, 0, 0, 0, 0, ⟨none, 0, []⟩⟩ : Bl).c, .slice (⟨0, 0, 0, 0, 0, ⟨none, 0, []⟩⟩ : Bl).s.a (⟨0, 0, 0, 0, 0, ⟨none, 0, []⟩⟩ : Bl).s.D.length (⟨0, 0, 0, 0, 0, ⟨none, 0, []⟩⟩ : Bl).s.c], by kernel_rfl, rfl⟩⟩
theorem SlY.BlA {w : World} {a : Option Addr} {n c : Nat} {L : List Bl} (h : SlY yBlA w a n c L) {j : Nat} {x : Bl} (hx : L[j]? = some x) : ∃ q o, a = some ⟨q, o, none⟩ ∧ q < w.heap.size ∧ w.cell? ⟨q, o + j * 6, none⟩ = some (.int .i64 x.n) ∧ w.cell? ⟨q, o + j * 6 + 1, none⟩ = some (.int .u64 x.h) ∧ w.cell? ⟨q, o + j * 6 + 2, none⟩ = some (.int .u64 x.l) ∧ w.cell? ⟨q, o + j * 6 + 3, none⟩ = some (.int .i64 x.v) ∧ w.cell? ⟨q, o + j * 6 + 4, none⟩ = some (.int .i64 x.c) ∧ w.cell? ⟨q, o + j * 6 + 5, none⟩ = some (.slice x.s.a x.s.D.length x.s.c) := by
  obtain ⟨q, o, ea, hq, hl⟩ := h.place (by rintro rfl; simp at hx)
  exact ⟨q, o, ea, hq, hl j x hx 0 _ rfl, hl j x hx 1 _ rfl, hl j x hx 2 _ rfl, hl j x hx 3 _ rfl, hl j x hx 4 _ rfl, hl j x hx 5 _ rfl⟩
theorem SlY.BlV {w : World} {a : Option Addr} {n c : Nat} {L : List Bl} (h : SlY yBlV w a n c L) {j : Nat} {x : Bl} (hx : L[j]? = some x) : ∃ q o, a = some ⟨q, o, none⟩ ∧ q < w.heap.size ∧ w.cell? ⟨q, o + j * 6, none⟩ = some (.int .i64 x.n) ∧ w.cell? ⟨q, o + j * 6 + 1, none⟩ = some (.int .u64 x.h) ∧ w.cell? ⟨q, o + j * 6 + 2, none⟩ = some (.int .u64 x.l) ∧ w.cell? ⟨q, o + j * 6 + 3, none⟩ = some (.int .i64 x.v) ∧ w.cell? ⟨q, o + j * 6 + 4, none⟩ = some (.int .i64 x.c) ∧ w.cell? ⟨q, o + j * 6 + 5, none⟩ = some (.slice x.s.a x.s.D.length x.s.c) := by
  obtain ⟨q, o, ea, hq, hl⟩ := h.place (by rintro rfl; simp at hx)
  exact ⟨q, o, ea, hq, hl j x hx 0 _ rfl, hl j x hx 1 _ rfl, hl j x hx 2 _ rfl, hl j x hx 3 _ rfl, hl j x hx 4 _ rfl, hl j x hx 5 _ rfl⟩
theorem Bl.node_any (x : Bl) (w : World) : Calls Tryz.prog 193 #[x.val] w fun e w' => e = .returned (.int .i64 x.n) ∧ Below w.heap.size w w' := by
  show Calls Tryz.prog 193 #[.agg #[.int .i64 x.n, .int .u64 x.h, .int .u64 x.l, .int .i64 x.v, .int .i64 x.c, .slice x.s.a x.s.D.length x.s.c]] w _
  go_enter Tryz.func193, Tryz.ntmps193
  go_wp2
  go_ret
  exact ⟨rfl, (Below.refl _ _).alloc (Nat.le_refl _) _⟩
theorem Bl.draw_any (x : Bl) (w : World) : Calls Tryz.prog 190 #[x.val] w fun e w' => e = .returned (.agg #[.int .u64 x.h, .int .u64 x.l]) ∧ Below w.heap.size w w' := by
  show Calls Tryz.prog 190 #[.agg #[.int .i64 x.n, .int .u64 x.h, .int .u64 x.l, .int .i64 x.v, .int .i64 x.c, .slice x.s.a x.s.D.length x.s.c]] w _
  go_enter Tryz.func190, Tryz.ntmps190
  go_wp2
  refine bodyPost_ret (v := .agg #[.int .u64 x.h, .int .u64 x.l]) (by simp [results, Tryz.results190, go_sem]) rfl ?_
  exact ⟨rfl, by (repeat (first | exact Below.refl _ _ | assumption | refine Below.drew ?_ | refine Below.alloc ?_ (by first | (simp; done) | (simp; omega) | omega) _ | refine Below.setCell ?_ (by first | (simp; done) | (simp; omega) | omega) _))⟩
theorem Bl.as_any (x : Bl) (w : World) : Calls Tryz.prog 67 #[x.val] w fun e w' => e = .returned x.val ∧ Below w.heap.size w w' := by
  show Calls Tryz.prog 67 #[.agg #[.int .i64 x.n, .int .u64 x.h, .int .u64 x.l, .int .i64 x.v, .int .i64 x.c, .slice x.s.a x.s.D.length x.s.c]] w _
  go_enter Tryz.func67, Tryz.ntmps67
  go_wp2
  refine bodyPost_ret (v := x.val) (by simp [results, Tryz.results67, go_sem, Bl.val]) rfl ?_
  exact ⟨rfl, by (repeat (first | exact Below.refl _ _ | assumption | refine Below.drew ?_ | refine Below.alloc ?_ (by first | (simp; done) | (simp; omega) | omega) _ | refine Below.setCell ?_ (by first | (simp; done) | (simp; omega) | omega) _))⟩
theorem Bl.ifnode (x : Bl) (w : World) : (invoke (.fn (.method "amnesia/tally.node") #[]) #[.iface 116 x.val]).run Tryz.prog w = .ok (.enter 193 #[x.val]) w := by kernel_rfl
set_option maxRecDepth 100000 in
set_option maxHeartbeats 400000 in
theorem Bl.isNode (x y : Bl) (b : Nat) (w : World) (hb : b < w.heap.size) (hc : w.cell? ⟨b, 0, none⟩ = some (.int .i64 y.n) ∧ w.cell? ⟨b, 1, none⟩ = some (.int .u64 y.h) ∧ w.cell? ⟨b, 2, none⟩ = some (.int .u64 y.l) ∧ w.cell? ⟨b, 3, none⟩ = some (.int .i64 y.v) ∧ w.cell? ⟨b, 4, none⟩ = some (.int .i64 y.c) ∧ w.cell? ⟨b, 5, none⟩ = some (.slice y.s.a y.s.D.length y.s.c)) : Calls Tryz.prog 108 #[x.val, .pointer (some ⟨b, 0, none⟩)] w fun e w' => e = .returned (.bool (decide (x.n = y.n))) ∧ Below w.heap.size w w' := by
  obtain ⟨y0, y1, y2, y3, y4, y5⟩ := hc
  show Calls Tryz.prog 108 #[.agg #[.int .i64 x.n, .int .u64 x.h, .int .u64 x.l, .int .i64 x.v, .int .i64 x.c, .slice x.s.a x.s.D.length x.s.c], .pointer (some ⟨b, 0, none⟩)] w _
  go_enter Tryz.func108, Tryz.ntmps108
  go_wp2_with fail
  have hbW : b ≠ w.heap.size := by omega
  have KH : Hid (∀ v, Below (w.heap.size + 1) (w.alloc (.cells #[.int .i64 x.n, .int .u64 x.h, .int .u64 x.l, .int .i64 x.v, .int .i64 x.c, .slice x.s.a x.s.D.length x.s.c] 116)) v → (v.cell? ⟨w.heap.size, 0, none⟩ = some (.int .i64 x.n) ∧ v.cell? ⟨w.heap.size, 1, none⟩ = some (.int .u64 x.h) ∧ v.cell? ⟨w.heap.size, 2, none⟩ = some (.int .u64 x.l) ∧ v.cell? ⟨w.heap.size, 3, none⟩ = some (.int .i64 x.v) ∧ v.cell? ⟨w.heap.size, 4, none⟩ = some (.int .i64 x.c) ∧ v.cell? ⟨w.heap.size, 5, none⟩ = some (.slice x.s.a x.s.D.length x.s.c)) ∧ (v.cell? ⟨b, 0, none⟩ = some (.int .i64 y.n) ∧ v.cell? ⟨b, 1, none⟩ = some (.int .u64 y.h) ∧ v.cell? ⟨b, 2, none⟩ = some (.int .u64 y.l) ∧ v.cell? ⟨b, 3, none⟩ = some (.int .i64 y.v) ∧ v.cell? ⟨b, 4, none⟩ = some (.int .i64 y.c) ∧ v.cell? ⟨b, 5, none⟩ = some (.slice y.s.a y.s.D.length y.s.c))) := fun v hv =>
    ⟨⟨(hv.cell (p := ⟨w.heap.size, 0, none⟩) (by simp)).trans (by simp), (hv.cell (p := ⟨w.heap.size, 1, none⟩) (by simp)).trans (by simp), (hv.cell (p := ⟨w.heap.size, 2, none⟩) (by simp)).trans (by simp), (hv.cell (p := ⟨w.heap.size, 3, none⟩) (by simp)).trans (by simp), (hv.cell (p := ⟨w.heap.size, 4, none⟩) (by simp)).trans (by simp), (hv.cell (p := ⟨w.heap.size, 5, none⟩) (by simp)).trans (by simp)⟩, ⟨(hv.cell (p := ⟨b, 0, none⟩) (by simp; omega)).trans ((World.cell?_alloc_old w _ ⟨b, 0, none⟩ hbW).trans y0), (hv.cell (p := ⟨b, 1, none⟩) (by simp; omega)).trans ((World.cell?_alloc_old w _ ⟨b, 1, none⟩ hbW).trans y1), (hv.cell (p := ⟨b, 2, none⟩) (by simp; omega)).trans ((World.cell?_alloc_old w _ ⟨b, 2, none⟩ hbW).trans y2), (hv.cell (p := ⟨b, 3, none⟩) (by simp; omega)).trans ((World.cell?_alloc_old w _ ⟨b, 3, none⟩ hbW).trans y3), (hv.cell (p := ⟨b, 4, none⟩) (by simp; omega)).trans ((World.cell?_alloc_old w _ ⟨b, 4, none⟩ hbW).trans y4), (hv.cell (p := ⟨b, 5, none⟩) (by simp; omega)).trans ((World.cell?_alloc_old w _ ⟨b, 5, none⟩ hbW).trans y5)⟩⟩
  refine region_q9 (C := fun v => Below (w.heap.size + 1) (w.alloc (.cells #[.int .i64 x.n, .int .u64 x.h, .int .u64 x.l, .int .i64 x.v, .int .i64 x.c, .slice x.s.a x.s.D.length x.s.c] 116)) v) (by kernel_rfl) (by kernel_rfl) (Below.refl _ _).drew ?_
  refine wqv (u := x.val) (by kernel_rfl) (fun v hv => by obtain ⟨⟨y0, y1, y2, y3, y4, y5⟩, _⟩ := KH.out v hv; go_simp; rfl) ?_
  simp only [Act.put, List.setIfInBounds_toArray, List.set_cons_zero, List.set_cons_succ]
  refine wqv (u := .iface 116 x.val) (by kernel_rfl) (fun v hv => by kernel_rfl) ?_
  simp only [Act.put, List.setIfInBounds_toArray, List.set_cons_zero, List.set_cons_succ]
  refine wqi (fid := 193) (args := #[x.val]) (AS := #[]) (V := .iface 116 x.val) (u := .int .i64 x.n) (by kernel_rfl) _ _ rfl (by kernel_rfl) (by kernel_rfl) (fun v => x.ifnode v) (fun v hv => (x.node_any v).mono fun e w' h => ⟨h.1, hv.trans (h.2.mono (by have := hv.size; rwa [World.size_alloc] at this))⟩) ?_
  simp only [Act.put, List.setIfInBounds_toArray, List.set_cons_zero, List.set_cons_succ]
  refine wqv (u := y.val) (by kernel_rfl) (fun v hv => by obtain ⟨_, ⟨y0, y1, y2, y3, y4, y5⟩⟩ := KH.out v hv; go_simp; rfl) ?_
  simp only [Act.put, List.setIfInBounds_toArray, List.set_cons_zero, List.set_cons_succ]
  refine wqv (u := .iface 116 y.val) (by kernel_rfl) (fun v hv => by kernel_rfl) ?_
  simp only [Act.put, List.setIfInBounds_toArray, List.set_cons_zero, List.set_cons_succ]
  refine wqi (fid := 193) (args := #[y.val]) (AS := #[]) (V := .iface 116 y.val) (u := .int .i64 y.n) (by kernel_rfl) _ _ rfl (by kernel_rfl) (by kernel_rfl) (fun v => y.ifnode v) (fun v hv => (y.node_any v).mono fun e w' h => ⟨h.1, hv.trans (h.2.mono (by have := hv.size; rwa [World.size_alloc] at this))⟩) ?_
  simp only [Act.put, List.setIfInBounds_toArray, List.set_cons_zero, List.set_cons_succ]
  refine wqv (u := .bool (decide (x.n = y.n))) (by kernel_rfl) (fun v hv => by go_simp; rfl) ?_
  simp only [Act.put, List.setIfInBounds_toArray, List.set_cons_zero, List.set_cons_succ]
  refine wqv (u := .bool (decide (x.n = y.n))) (by kernel_rfl) (fun v hv => by kernel_rfl) ?_
  simp only [Act.put, List.setIfInBounds_toArray, List.set_cons_zero, List.set_cons_succ]
  refine wqnil ?_
  intro w' hb'
  go_wp2
  go_ret
  exact ⟨rfl, ((Below.refl _ w).alloc (Nat.le_refl _) _).trans (hb'.mono (Nat.le_succ _))⟩
set_option maxRecDepth 100000 in
set_option maxHeartbeats 400000 in
theorem Bl.isAbove (x y : Bl) (b : Nat) (w : World) (hb : b < w.heap.size) (hc : w.cell? ⟨b, 0, none⟩ = some (.int .i64 y.n) ∧ w.cell? ⟨b, 1, none⟩ = some (.int .u64 y.h) ∧ w.cell? ⟨b, 2, none⟩ = some (.int .u64 y.l) ∧ w.cell? ⟨b, 3, none⟩ = some (.int .i64 y.v) ∧ w.cell? ⟨b, 4, none⟩ = some (.int .i64 y.c) ∧ w.cell? ⟨b, 5, none⟩ = some (.slice y.s.a y.s.D.length y.s.c)) : Calls Tryz.prog 140 #[x.val, .pointer (some ⟨b, 0, none⟩)] w fun e w' => e = .returned (.bool (decide (y.n < x.n))) ∧ Below w.heap.size w w' := by
  obtain ⟨y0, y1, y2, y3, y4, y5⟩ := hc
  show Calls Tryz.prog 140 #[.agg #[.int .i64 x.n, .int .u64 x.h, .int .u64 x.l, .int .i64 x.v, .int .i64 x.c, .slice x.s.a x.s.D.length x.s.c], .pointer (some ⟨b, 0, none⟩)] w _
  go_enter Tryz.func140, Tryz.ntmps140
  go_wp2_with fail
  have hbW : b ≠ w.heap.size := by omega
  have KH : Hid (∀ v, Below (w.heap.size + 1) (w.alloc (.cells #[.int .i64 x.n, .int .u64 x.h, .int .u64 x.l, .int .i64 x.v, .int .i64 x.c, .slice x.s.a x.s.D.length x.s.c] 116)) v → (v.cell? ⟨w.heap.size, 0, none⟩ = some (.int .i64 x.n) ∧ v.cell? ⟨w.heap.size, 1, none⟩ = some (.int .u64 x.h) ∧ v.cell? ⟨w.heap.size, 2, none⟩ = some (.int .u64 x.l) ∧ v.cell? ⟨w.heap.size, 3, none⟩ = some (.int .i64 x.v) ∧ v.cell? ⟨w.heap.size, 4, none⟩ = some (.int .i64 x.c) ∧ v.cell? ⟨w.heap.size, 5, none⟩ = some (.slice x.s.a x.s.D.length x.s.c)) ∧ (v.cell? ⟨b, 0, none⟩ = some (.int .i64 y.n) ∧ v.cell? ⟨b, 1, none⟩ = some (.int .u64 y.h) ∧ v.cell? ⟨b, 2, none⟩ = some (.int .u64 y.l) ∧ v.cell? ⟨b, 3, none⟩ = some (.int .i64 y.v) ∧ v.cell? ⟨b, 4, none⟩ = some (.int .i64 y.c) ∧ v.cell? ⟨b, 5, none⟩ = some (.slice y.s.a y.s.D.length y.s.c))) := fun v hv =>
    ⟨⟨(hv.cell (p := ⟨w.heap.size, 0, none⟩) (by simp)).trans (by simp), (hv.cell (p := ⟨w.heap.size, 1, none⟩) (by simp)).trans (by simp), (hv.cell (p := ⟨w.heap.size, 2, none⟩) (by simp)).trans (by simp), (hv.cell (p := ⟨w.heap.size, 3, none⟩) (by simp)).trans (by simp), (hv.cell (p := ⟨w.heap.size, 4, none⟩) (by simp)).trans (by simp), (hv.cell (p := ⟨w.heap.size, 5, none⟩) (by simp)).trans (by simp)⟩, ⟨(hv.cell (p := ⟨b, 0, none⟩) (by simp; omega)).trans ((World.cell?_alloc_old w _ ⟨b, 0, none⟩ hbW).trans y0), (hv.cell (p := ⟨b, 1, none⟩) (by simp; omega)).trans ((World.cell?_alloc_old w _ ⟨b, 1, none⟩ hbW).trans y1), (hv.cell (p := ⟨b, 2, none⟩) (by simp; omega)).trans ((World.cell?_alloc_old w _ ⟨b, 2, none⟩ hbW).trans y2), (hv.cell (p := ⟨b, 3, none⟩) (by simp; omega)).trans ((World.cell?_alloc_old w _ ⟨b, 3, none⟩ hbW).trans y3), (hv.cell (p := ⟨b, 4, none⟩) (by simp; omega)).trans ((World.cell?_alloc_old w _ ⟨b, 4, none⟩ hbW).trans y4), (hv.cell (p := ⟨b, 5, none⟩) (by simp; omega)).trans ((World.cell?_alloc_old w _ ⟨b, 5, none⟩ hbW).trans y5)⟩⟩
  refine region_q9 (C := fun v => Below (w.heap.size + 1) (w.alloc (.cells #[.int .i64 x.n, .int .u64 x.h, .int .u64 x.l, .int .i64 x.v, .int .i64 x.c, .slice x.s.a x.s.D.length x.s.c] 116)) v) (by kernel_rfl) (by kernel_rfl) (Below.refl _ _).drew ?_
  refine wqv (u := x.val) (by kernel_rfl) (fun v hv => by obtain ⟨⟨y0, y1, y2, y3, y4, y5⟩, _⟩ := KH.out v hv; go_simp; rfl) ?_
  simp only [Act.put, List.setIfInBounds_toArray, List.set_cons_zero, List.set_cons_succ]
  refine wqv (u := .iface 116 x.val) (by kernel_rfl) (fun v hv => by kernel_rfl) ?_
  simp only [Act.put, List.setIfInBounds_toArray, List.set_cons_zero, List.set_cons_succ]
  refine wqi (fid := 193) (args := #[x.val]) (AS := #[]) (V := .iface 116 x.val) (u := .int .i64 x.n) (by kernel_rfl) _ _ rfl (by kernel_rfl) (by kernel_rfl) (fun v => x.ifnode v) (fun v hv => (x.node_any v).mono fun e w' h => ⟨h.1, hv.trans (h.2.mono (by have := hv.size; rwa [World.size_alloc] at this))⟩) ?_
  simp only [Act.put, List.setIfInBounds_toArray, List.set_cons_zero, List.set_cons_succ]
  refine wqv (u := y.val) (by kernel_rfl) (fun v hv => by obtain ⟨_, ⟨y0, y1, y2, y3, y4, y5⟩⟩ := KH.out v hv; go_simp; rfl) ?_
  simp only [Act.put, List.setIfInBounds_toArray, List.set_cons_zero, List.set_cons_succ]
  refine wqv (u := .iface 116 y.val) (by kernel_rfl) (fun v hv => by kernel_rfl) ?_
  simp only [Act.put, List.setIfInBounds_toArray, List.set_cons_zero, List.set_cons_succ]
  refine wqi (fid := 193) (args := #[y.val]) (AS := #[]) (V := .iface 116 y.val) (u := .int .i64 y.n) (by kernel_rfl) _ _ rfl (by kernel_rfl) (by kernel_rfl) (fun v => y.ifnode v) (fun v hv => (y.node_any v).mono fun e w' h => ⟨h.1, hv.trans (h.2.mono (by have := hv.size; rwa [World.size_alloc] at this))⟩) ?_
  simp only [Act.put, List.setIfInBounds_toArray, List.set_cons_zero, List.set_cons_succ]
  refine wqv (u := .bool (decide (y.n < x.n))) (by kernel_rfl) (fun v hv => by go_simp) ?_
  simp only [Act.put, List.setIfInBounds_toArray, List.set_cons_zero, List.set_cons_succ]
  refine wqv (u := .bool (decide (y.n < x.n))) (by kernel_rfl) (fun v hv => by kernel_rfl) ?_
  simp only [Act.put, List.setIfInBounds_toArray, List.set_cons_zero, List.set_cons_succ]
  refine wqnil ?_
  intro w' hb'
  go_wp2
  go_ret
  exact ⟨rfl, ((Below.refl _ w).alloc (Nat.le_refl _) _).trans (hb'.mono (Nat.le_succ _))⟩

end Go.Proofs.YtcmjhaljbmhpgaaGreat

namespace Go.Proofs.YtcmjhaljbmhpgaaGreat
open Go.RowKit Go.Maps
open Classical
set_option linter.unusedVariables false
set_option linter.unusedSimpArgs false

set_option maxRecDepth 100000 in
set_option maxHeartbeats 1000000 in
/-- hold: votes as the layer has them. -/
theorem Bl.hold_any (L : List Bl) (a : Option Addr) (n c : Nat) (w : World) (h : SlY yBlA w a n c L) (hb : n * 64 ≤ 281474976710656) :
    Calls Tryz.prog 66 #[.slice a n c, .func (.func 67) #[] #[]] w fun e w' => e = .returned (.slice (some ⟨w.heap.size, 0, none⟩) n n) ∧ OwnY yBlV w.heap.size w' (.slice (some ⟨w.heap.size, 0, none⟩) n n) L ∧ Below w.heap.size w w' := by
  have hmx := h.max
  have hcp := h.cap
  have hln := h.len
  unfold maxLen at hmx
  have H := hide h
  have HN := hide hln
  clear h hln
  go_enter Tryz.func66, Tryz.ntmps66
  go_wp2_with (at_make; go_must (refine makeYs kBlV _ rfl (.tmp 9) rfl n rfl (by unfold maxLen; omega) hb ?zk))
  intro w1 o1 b1
  have HO : Hid (OwnY yBlV w.heap.size w1 (.slice (some ⟨w.heap.size, 0, none⟩) n n) (L.take 0 ++ List.replicate (n - 0) yBlV.z)) := by
    show OwnY _ _ _ _ _
    simpa using o1
  clear o1
  go_wp2
  go_loopw [13] (fun i wr => ∃ j : Nat, i = .int .i64 (j : Int) ∧ j ≤ n ∧ Hid (OwnY yBlV w.heap.size wr (.slice (some ⟨w.heap.size, 0, none⟩) n n) (L.take j ++ List.replicate (n - j) yBlV.z)) ∧ Below w.heap.size w wr) (fun i _ => n - (intOf i).toNat)
  case atStart => exact ⟨0, rfl, Nat.zero_le _, HO, b1⟩
  case round =>
    obtain ⟨j, rfl, hj, hO, hbl⟩ := hrel
    have hsz := hbl.size
    by_cases hlt : j < n
    · have hjl : j < L.length := by rw [HN.out]; exact hlt
      have hg : L[j]? = some L[j] := List.getElem?_eq_getElem hjl
      obtain ⟨q, o, rfl, hq, y0, y1, y2, y3, y4, y5⟩ := (H.out.later hbl).BlA hg
      have hlt0 : w.heap.size < wr.heap.size := by
        obtain ⟨_, _, ee, _, _, _, h4⟩ := hO.out.form
        injection ee with ee
        obtain ⟨g', e2, _, h5⟩ := h4 _ ee.symm
        cases e2
        exact h5
      have hset : Hid ((L.take j ++ List.replicate (n - j) yBlV.z).set j L[j] = L.take (j + 1) ++ List.replicate (n - (j + 1)) yBlV.z) := by
        show _ = _
        have hl : (L.take j).length = j := by rw [List.length_take]; omega
        rw [List.set_append_right _ _ (by omega), hl, Nat.sub_self, show n - j = (n - (j + 1)) + 1 by omega, List.replicate_succ, List.set_cons_zero, List.take_add_one, hg]
        simp only [Option.toList_some, List.append_assoc, List.cons_append, List.nil_append]
      have hget : Hid ((L.take j ++ List.replicate (n - j) yBlV.z)[j]? = some yBlV.z) := by
        show _ = _
        have hl : (L.take j).length = j := by rw [List.length_take]; omega
        rw [List.getElem?_append_right (by omega), hl, Nat.sub_self, show n - j = (n - (j + 1)) + 1 by omega, List.replicate_succ]
        rfl
      clear hg
      generalize L[j] = x at *
      generalize hX : L.take j ++ List.replicate (n - j) yBlV.z = XX at *
      clear hX
      have bA := hide (hbl.trans (((Below.refl _ wr).alloc (Nat.le_refl _) (.cells #[.int .i64 x.n, .int .u64 x.h, .int .u64 x.l, .int .i64 x.v, .int .i64 x.c, .slice x.s.a x.s.D.length x.s.c] 53)).mono hsz))
      have OA := hide (hO.out.alloc (.cells #[.int .i64 x.n, .int .u64 x.h, .int .u64 x.l, .int .i64 x.v, .int .i64 x.c, .slice x.s.a x.s.D.length x.s.c] 53))
      have ca := hide (x.as_any (wr.alloc (.cells #[.int .i64 x.n, .int .u64 x.h, .int .u64 x.l, .int .i64 x.v, .int .i64 x.c, .slice x.s.a x.s.D.length x.s.c] 53)))
      clear hO
      go_wp2_with fail
      refine ca.out.mono ?_
      rintro e w2 ⟨rfl, b2⟩
      have O2 := hide (OA.out.grow b2)
      have z2 := b2.size
      rw [World.size_alloc] at z2
      dsimp only
      go_wp2_with (first
        | (refine storeY kBlV _ rfl 116 (.tmp 23) (.tmp 22) rfl w.heap.size w.heap.size n n XX j 0 yBlV.z x _ rfl rfl hget.out (by kernel_rfl) (by exact (by decide : 6 ≤ 6)) rfl O2.out ?_; intro w3 o3 u3 z3; have O3 := hide o3; clear o3)
        | go_in)
      go_round
      case rel =>
        refine ⟨j + 1, by go_num, by omega, by show OwnY _ _ _ _ _; rw [← hset.out]; exact O3.out, bA.out.trans ((b2.mono (by simp; omega)).trans (u3.below (by omega) (fun k e => by subst e; exact Nat.le_refl _)))⟩
      case measure => simp [intOf]; omega
    · obtain rfl : j = n := by omega
      have O9 : Hid (OwnY yBlV w.heap.size wr (.slice (some ⟨w.heap.size, 0, none⟩) j j) L) := by
        show OwnY _ _ _ _ _
        have := hO.out
        rw [Nat.sub_self, List.replicate_zero, List.append_nil, List.take_of_length_le (by rw [HN.out]; exact Nat.le_refl _)] at this
        exact this
      clear hO
      go_wp2
      go_ret
      exact ⟨rfl, O9.out, hbl⟩

end Go.Proofs.YtcmjhaljbmhpgaaGreat

namespace Go.Proofs.YtcmjhaljbmhpgaaGreat
open Go.RowKit Go.Maps
open Classical
set_option linter.unusedVariables false
set_option linter.unusedSimpArgs false

set_option maxRecDepth 100000 in
set_option maxHeartbeats 1000000 in
/-- slices.IndexFunc. -/
theorem Bl.index_any (p : Bl → Bool) (g : Nat) (lb : Array Value) (eg : ∀ args w, (callFunc g args).run Tryz.prog w = .ok (.enter g args) w) (L : List Bl) (a : Option Addr) (n c : Nat) (w : World) (h : SlY yBlV w a n c L)
    (hp : ∀ (W : World) (x : Bl), Below w.heap.size w W → Calls Tryz.prog g (#[x.val] ++ lb) W fun e w' => e = .returned (.bool (p x)) ∧ Below w.heap.size w w') :
    Calls Tryz.prog 107 #[.slice a n c, .func (.func g) #[] lb] w fun e w' => e = .returned (.int .i64 (ix p L)) ∧ Below w.heap.size w w' := by
  have hmx := h.max
  have hcp := h.cap
  have hln := h.len
  unfold maxLen at hmx
  have H := hide h
  have HN := hide hln
  have HP := hide hp
  clear h hln hp
  go_enter Tryz.func107, Tryz.ntmps107
  go_wp2
  go_loopw [8] (fun i wr => ∃ j : Nat, i = .int .i64 (j : Int) ∧ j ≤ n ∧ Hid (∀ k (hk : k < L.length), k < j → p L[k] = false) ∧ Below w.heap.size w wr) (fun i _ => n - (intOf i).toNat)
  case atStart => exact ⟨0, rfl, Nat.zero_le _, fun k hk h => absurd h (Nat.not_lt_zero _), Below.refl _ _⟩
  case round =>
    obtain ⟨j, rfl, hj, hA, hbl⟩ := hrel
    have hsz := hbl.size
    by_cases hlt : j < n
    · have hjl : j < L.length := by rw [HN.out]; exact hlt
      have hg : L[j]? = some L[j] := List.getElem?_eq_getElem hjl
      obtain ⟨q, o, rfl, hq, y0, y1, y2, y3, y4, y5⟩ := (H.out.later hbl).BlV hg
      have hcall := HP.out wr L[j] hbl
      have hH : Hid (p L[j] = true → ix p L = (j : Int)) := fun hp => ix_hit hjl hp (fun k hk => hA.out k (by omega) hk)
      have hS : Hid (p L[j] = false → ∀ k (hk : k < L.length), k < j + 1 → p L[k] = false) := fun hp k hk hkj => by
        by_cases e : k = j
        · subst e; exact hp
        · exact hA.out k hk (by omega)
      clear hA hg
      generalize L[j] = x at *
      unfold Bl.val at hcall
      cases hq2 : p x with
      | true =>
        have hx := hide (hH.out hq2)
        rw [hq2] at hcall
        clear hH hS
        go_wp2_with (go_at_fn g; refine hcall.mono ?_; rintro e w' ⟨rfl, hb'⟩)
        go_ret
        exact ⟨by rw [hx.out]; rfl, hb'⟩
      | false =>
        have hx := hide (hS.out hq2)
        rw [hq2] at hcall
        clear hH hS
        go_wp2_with (go_at_fn g; refine hcall.mono ?_; rintro e w' ⟨rfl, hb'⟩)
        go_round
        case rel => exact ⟨j + 1, by go_num, by omega, hx, hb'⟩
        case measure => simp [intOf]; omega
    · obtain rfl : j = n := by omega
      have hx : Hid (ix p L = -1) := ix_miss (fun x hx => by
        obtain ⟨k, hk, rfl⟩ := List.mem_iff_getElem.1 hx
        exact hA.out k hk (by rw [← HN.out]; exact hk))
      clear hA
      go_wp2
      go_ret
      exact ⟨by rw [hx.out]; rfl, hbl⟩

end Go.Proofs.YtcmjhaljbmhpgaaGreat

namespace Go.Proofs.YtcmjhaljbmhpgaaGreat
open Go.RowKit Go.Maps
open Classical
set_option linter.unusedVariables false
set_option linter.unusedSimpArgs false

set_option maxRecDepth 100000 in
set_option maxHeartbeats 1000000 in
/-- slices.Insert of one vote into a row without room. -/
theorem Bl.insert_lib (L : List Bl) (x : Bl) (i n g B q : Nat) (w : World) (hn : L.length = n) (hi : i ≤ n) (h : OwnY yBlV B w (.slice (some ⟨g, 0, none⟩) n n) L) (hx : SlY yBlV w (some ⟨q, 0, none⟩) 1 1 [x]) (hB : B ≤ w.heap.size) (hm : (n + 1) * 64 ≤ 140737488355328) :
    Calls Tryz.prog 141 #[.slice (some ⟨g, 0, none⟩) n n, .int .i64 (i : Int), .slice (some ⟨q, 0, none⟩) 1 1] w fun e w' => ∃ v, e = .returned v ∧ OwnY yBlV B w' v (L.take i ++ x :: L.drop i) ∧ Below B w w' := by
  have hcm : n + 1 ≤ 140737488355328 := by omega
  have O := hide h
  have X := hide hx
  have HN := hide hn
  have hgl : g < w.heap.size := by
    obtain ⟨_, _, ee, _, _, _, h4⟩ := h.form
    injection ee with ee
    obtain ⟨g', e2, _, h5⟩ := h4 _ ee.symm
    cases e2
    exact h5
  clear h hx hn
  have hw1 : IntKind.i64.wrap ((n : Int) + 1) = (n : Int) + 1 := by rw [IntKind.wrap_i64]; omega
  by_cases hin : i = n
  · subst hin
    go_enter Tryz.func141, Tryz.ntmps141
    go_wp2_with (first
      | (at_builtin; go_must (refine appYt kBlV _ rfl (.tmp 23) (.tmp 24) 117 116 Tryz.underlying117 rfl B L _ rfl (some ⟨q, 0, none⟩) 1 1 rfl [x] X.out O.out hB (by rw [HN.out]; unfold maxLen; omega) (by rw [HN.out]; exact hm) ?zk)))
    intro v' w' o' g' _
    have O2 := hide o'
    have B2 := hide (O.out.grown (Below.refl _ _) g' hB)
    clear o' g'
    go_wp2
    go_ret
    refine ⟨_, rfl, ?_, B2.out⟩
    rw [List.take_of_length_le (by rw [HN.out]; exact Nat.le_refl _), List.drop_of_length_le (by rw [HN.out]; exact Nat.le_refl _)]
    exact O2.out
  · have hlt : i < n := by omega
    obtain ⟨d, hd⟩ : ∃ d, d = n + 1 - i := ⟨_, rfl⟩
    have hw2 : IntKind.i64.wrap ((n : Int) + 1 - (i : Int)) = (d : Int) := by rw [IntKind.wrap_i64]; omega
    have HD : Hid (i + d = n + 1) := by show _ = _; omega
    clear hd
    have hne : ((i : Int) == (n : Int)) = false := by simp; omega
    have hw3 : IntKind.i64.wrap ((i : Int) + 1) = (i : Int) + 1 := by rw [IntKind.wrap_i64]; omega
    go_enter Tryz.func141, Tryz.ntmps141
    go_wp2_with (first
      | (at_builtin; go_must (refine zerosY kBlV _ rfl (.tmp 34) (.tmp 39) 3 .i64 Tryz.underlying3 rfl ⟨g, 0, none⟩ i n d (L.take i) rfl rfl ((O.out.sl' kBlV).take i hi) (by have := HD.out; omega) (by have := HD.out; omega) (by have := HD.out; unfold maxLen; omega) (by rw [HD.out]; exact hm) ?zl)))
    intro c1 w1 o1 b1
    have z1 := b1.size
    have hg1 : g ≠ w.heap.size := by omega
    have O1 : Hid (OwnY yBlV w.heap.size w1 (.slice (some ⟨w.heap.size, 0, none⟩) (n + 1) c1) (L.take i ++ List.replicate d yBlV.z)) := by show OwnY _ _ _ _ _; rw [← HD.out]; exact o1
    obtain ⟨hc1, hc2⟩ : n + 1 ≤ c1 ∧ c1 ≤ 9223372036854775807 := by
      have := (o1.sl' kBlV).cap
      have h2 := (o1.sl' kBlV).max
      unfold maxLen at h2
      have := HD.out
      omega
    have X1 := hide (X.out.later b1)
    have S1 := hide (((O.out.grow b1).sl' kBlV).rest i hlt)
    have B1 := hide b1
    clear o1 b1
    have hcd : (i : Int) ≤ (c1 : Int) := by omega
    have hcn : (n : Int) + 1 ≤ (c1 : Int) := by omega
    rw [HD.out]
    have e3 : ((n + 1 : Nat) : Int) = (n : Int) + 1 := by omega
    have e5 : (i : Int) ≤ (n : Int) + 1 := by omega
    have e6 : (i : Int) + 1 ≤ (n : Int) + 1 := by omega
    go_wp2_with (refine copyYc kBlV _ rfl (.tmp 43) (.tmp 44) 117 rfl w.heap.size w.heap.size (n + 1 - i) (c1 - i) i (n + 1) c1 1 1 (some ⟨q, 0, none⟩) _ [x] rfl rfl O1.out X1.out (by omega) (by omega) ?zm)
    intro w2 o2 u2 z2
    have O2 := hide o2
    have S2 := hide (S1.out.upd u2 (fun y hy _ => by cases hy; exact hg1))
    have B2 := hide (B1.out.trans (u2.below z1 (fun k e => by subst e; exact Nat.le_refl _)))
    clear o2 u2
    have hl3 : Hid (put (put (L.take i ++ List.replicate d yBlV.z) i [x]) (i + 1) (L.drop i) = L.take i ++ x :: L.drop i) := by
      show _ = _
      have h1 : (L.take i).length = i := by rw [List.length_take, HN.out]; omega
      have h2 : (L.drop i).length = n - i := by rw [List.length_drop, HN.out]
      have := HD.out
      exact put_two (L.take i) (List.replicate d yBlV.z) (L.drop i) x i h1 (by rw [List.length_replicate, h2]; omega)
    go_wp2_with fail
    obtain ⟨w3, hr, o3, u3, z3⟩ := run_copyYc kBlV w2.drew 118 3 w.heap.size w.heap.size (n - i) (c1 - (i + 1)) (i + 1) (n + 1) c1 (n - i) (n - i) _ _ (L.drop i) O2.out.drew (S2.out.later (Below.refl _ _).drew) (by omega) (Nat.le_refl _)
    rw [hl3.out] at o3
    have hr : (Builtin.copy_ #[118, 118] 3 #[.slice (some ⟨w.heap.size, (i + 1) * 6, none⟩) (n - i) (c1 - (i + 1)), .slice (some ⟨g, i * 6, none⟩) (n - i) (n - i)]).run Tryz.prog w2.drew = .ok (.int .i64 ((n - i : Nat) : Int)) w3 := by
      rw [Nat.zero_add] at hr
      exact hr
    have O3 := hide o3
    have B3 := hide (B2.out.trans ((Below.refl _ w2).drew.trans (u3.below (by show w.heap.size ≤ w2.heap.size; omega) (fun k e => by subst e; exact Nat.le_refl _))))
    clear o3 u3
    go_region
    go_wp2
    go_ret
    exact ⟨_, rfl, O3.out.low hB, B3.out.mono hB⟩

end Go.Proofs.YtcmjhaljbmhpgaaGreat

namespace Go.Proofs.YtcmjhaljbmhpgaaGreat
open Go.RowKit Go.Maps
open Classical
set_option linter.unusedVariables false
set_option linter.unusedSimpArgs false

/-- What comes first: the later view, then the longer log. -/
def Bl.cb (x y : Bl) : Int := orI [cmpI x.v y.v, cmpI (x.s.D.length : Int) (y.s.D.length : Int)]
set_option maxRecDepth 100000 in
set_option maxHeartbeats 1000000 in
theorem Bl.cball_any (x y : Bl) (w : World) : Calls Tryz.prog 76 #[x.val, y.val] w fun e w' => e = .returned (.int .i64 (Bl.cb x y)) ∧ Below w.heap.size w w' := by
  have HB0 : Hid (Below w.heap.size w ((w.alloc (.cells #[.int .i64 x.n, .int .u64 x.h, .int .u64 x.l, .int .i64 x.v, .int .i64 x.c, .slice x.s.a x.s.D.length x.s.c] 116)).alloc (.cells #[.int .i64 y.n, .int .u64 y.h, .int .u64 y.l, .int .i64 y.v, .int .i64 y.c, .slice y.s.a y.s.D.length y.s.c] 116))) := ((Below.refl _ w).alloc (Nat.le_refl _) _).alloc (by simp) _
  have KH : Hid (∀ v, Below (w.heap.size + 2) ((w.alloc (.cells #[.int .i64 x.n, .int .u64 x.h, .int .u64 x.l, .int .i64 x.v, .int .i64 x.c, .slice x.s.a x.s.D.length x.s.c] 116)).alloc (.cells #[.int .i64 y.n, .int .u64 y.h, .int .u64 y.l, .int .i64 y.v, .int .i64 y.c, .slice y.s.a y.s.D.length y.s.c] 116)) v → (v.cell? ⟨w.heap.size, 0, none⟩ = some (.int .i64 x.n) ∧ v.cell? ⟨w.heap.size, 1, none⟩ = some (.int .u64 x.h) ∧ v.cell? ⟨w.heap.size, 2, none⟩ = some (.int .u64 x.l) ∧ v.cell? ⟨w.heap.size, 3, none⟩ = some (.int .i64 x.v) ∧ v.cell? ⟨w.heap.size, 4, none⟩ = some (.int .i64 x.c) ∧ v.cell? ⟨w.heap.size, 5, none⟩ = some (.slice x.s.a x.s.D.length x.s.c)) ∧ (v.cell? ⟨w.heap.size + 1, 0, none⟩ = some (.int .i64 y.n) ∧ v.cell? ⟨w.heap.size + 1, 1, none⟩ = some (.int .u64 y.h) ∧ v.cell? ⟨w.heap.size + 1, 2, none⟩ = some (.int .u64 y.l) ∧ v.cell? ⟨w.heap.size + 1, 3, none⟩ = some (.int .i64 y.v) ∧ v.cell? ⟨w.heap.size + 1, 4, none⟩ = some (.int .i64 y.c) ∧ v.cell? ⟨w.heap.size + 1, 5, none⟩ = some (.slice y.s.a y.s.D.length y.s.c))) := fun v hv =>
    ⟨⟨(hv.cell (p := ⟨w.heap.size, 0, none⟩) (by simp)).trans (by simp), (hv.cell (p := ⟨w.heap.size, 1, none⟩) (by simp)).trans (by simp), (hv.cell (p := ⟨w.heap.size, 2, none⟩) (by simp)).trans (by simp), (hv.cell (p := ⟨w.heap.size, 3, none⟩) (by simp)).trans (by simp), (hv.cell (p := ⟨w.heap.size, 4, none⟩) (by simp)).trans (by simp), (hv.cell (p := ⟨w.heap.size, 5, none⟩) (by simp)).trans (by simp)⟩, ⟨(hv.cell (p := ⟨w.heap.size + 1, 0, none⟩) (by simp)).trans (by simp), (hv.cell (p := ⟨w.heap.size + 1, 1, none⟩) (by simp)).trans (by simp), (hv.cell (p := ⟨w.heap.size + 1, 2, none⟩) (by simp)).trans (by simp), (hv.cell (p := ⟨w.heap.size + 1, 3, none⟩) (by simp)).trans (by simp), (hv.cell (p := ⟨w.heap.size + 1, 4, none⟩) (by simp)).trans (by simp), (hv.cell (p := ⟨w.heap.size + 1, 5, none⟩) (by simp)).trans (by simp)⟩⟩
  have HG : Hid (Bl.cb x y = orI [cmpI x.v y.v, cmpI (x.s.D.length : Int) (y.s.D.length : Int)]) := rfl
  obtain ⟨xn, xh, xl, xv, xc, ⟨xa, xcp, xD⟩⟩ := x
  obtain ⟨yn, yh, yl, yv, yc, ⟨ya, ycp, yD⟩⟩ := y
  show Calls Tryz.prog 76 #[.agg #[.int .i64 xn, .int .u64 xh, .int .u64 xl, .int .i64 xv, .int .i64 xc, .slice xa xD.length xcp], .agg #[.int .i64 yn, .int .u64 yh, .int .u64 yl, .int .i64 yv, .int .i64 yc, .slice ya yD.length ycp]] w _
  dsimp only at *
  generalize Bl.cb _ _ = G at *
  generalize xD.length = xm at *
  generalize yD.length = ym at *
  have cc := hide (fun x y W => cmpint_any x y W)
  have SB := hide (fun W => sl_lit kI W [cmpI xv yv, cmpI (xm : Int) (ym : Int)] 3 (by unfold maxLen; simp))
  have co := hide (fun W => or_any [cmpI xv yv, cmpI (xm : Int) (ym : Int)] (some ⟨W.heap.size, 0, none⟩) 2 2 (W.alloc (.cells #[.int .i64 (cmpI xv yv), .int .i64 (cmpI (xm : Int) (ym : Int))] 3)).drew ((SB.out W).later (Below.refl _ _).drew))
  generalize orI [cmpI xv yv, cmpI (xm : Int) (ym : Int)] = O at *
  generalize hw : (w.alloc (.cells #[.int .i64 xn, .int .u64 xh, .int .u64 xl, .int .i64 xv, .int .i64 xc, .slice xa xm xcp] 116)).alloc (.cells #[.int .i64 yn, .int .u64 yh, .int .u64 yl, .int .i64 yv, .int .i64 yc, .slice ya ym ycp] 116) = wA at *
  have hwz : Hid (wA.heap.size = w.heap.size + 2) := by show _ = _; rw [← hw]; simp
  have KS : Hid (∀ v, Below (w.heap.size + 2) wA v → (v.cell? ⟨w.heap.size, 3, none⟩ = some (.int .i64 xv)) ∧ (v.cell? ⟨w.heap.size, 5, none⟩ = some (.slice xa xm xcp)) ∧ (v.cell? ⟨w.heap.size + 1, 3, none⟩ = some (.int .i64 yv)) ∧ (v.cell? ⟨w.heap.size + 1, 5, none⟩ = some (.slice ya ym ycp))) := fun v hv => by
    obtain ⟨⟨_, _, _, h3, h4, h5⟩, ⟨_, _, _, g3, g4, g5⟩⟩ := KH.out v hv
    exact ⟨h3, h5, g3, g5⟩
  clear KH
  have s0 := KS.out _ (Below.refl (w.heap.size + 2) wA).drew
  have s1 := KS.out _ ((Below.refl (w.heap.size + 2) wA).alloc (by rw [hwz.out]; exact Nat.le_refl _) (.cells #[.int .i64 (cmpI xv yv), .int .i64 (cmpI (xm : Int) (ym : Int))] 3)).drew
  have hwA : Hid (wA = _) := hw.symm
  go_enter Tryz.func76, Tryz.ntmps76
  go_wp2_with fail
  try rw [hw]
  clear hw
  go_region_held3 (fun v => (v.cell? ⟨w.heap.size, 3, none⟩ = some (.int .i64 xv)) ∧ (v.cell? ⟨w.heap.size, 5, none⟩ = some (.slice xa xm xcp)) ∧ (v.cell? ⟨w.heap.size + 1, 3, none⟩ = some (.int .i64 yv)) ∧ (v.cell? ⟨w.heap.size + 1, 5, none⟩ = some (.slice ya ym ycp))) (with_reducible assumption) (first
    | (go_at_call 77; refine (cc.out _ _ _).mono ?_; rintro e w2 ⟨rfl, rfl⟩)
    | (go_at_call 75; refine (co.out _).mono ?_; rintro e w2 ⟨rfl, rfl⟩))
  go_wp2
  go_ret
  exact ⟨by rw [HG.out]; rfl, HB0.out.trans ((((Below.refl (w.heap.size + 2) wA).alloc (by rw [hwz.out]; exact Nat.le_refl _) _).drew).mono (by omega))⟩
/-- Is a ballot greater: by these, then by its commit number? -/
def Bl.gt (x y : Bl) : Bool := decide (0 < orI [Bl.cb x y, cmpI x.c y.c])
set_option maxRecDepth 100000 in
set_option maxHeartbeats 1000000 in
theorem Bl.greater_any (x y : Bl) (w : World) : Calls Tryz.prog 191 #[x.val, y.val] w fun e w' => e = .returned (.bool (Bl.gt x y)) ∧ Below w.heap.size w w' := by
  have HB0 : Hid (Below w.heap.size w ((w.alloc (.cells #[.int .i64 x.n, .int .u64 x.h, .int .u64 x.l, .int .i64 x.v, .int .i64 x.c, .slice x.s.a x.s.D.length x.s.c] 116)).alloc (.cells #[.int .i64 y.n, .int .u64 y.h, .int .u64 y.l, .int .i64 y.v, .int .i64 y.c, .slice y.s.a y.s.D.length y.s.c] 116))) := ((Below.refl _ w).alloc (Nat.le_refl _) _).alloc (by simp) _
  have KH : Hid (∀ v, Below (w.heap.size + 2) ((w.alloc (.cells #[.int .i64 x.n, .int .u64 x.h, .int .u64 x.l, .int .i64 x.v, .int .i64 x.c, .slice x.s.a x.s.D.length x.s.c] 116)).alloc (.cells #[.int .i64 y.n, .int .u64 y.h, .int .u64 y.l, .int .i64 y.v, .int .i64 y.c, .slice y.s.a y.s.D.length y.s.c] 116)) v → (v.cell? ⟨w.heap.size, 0, none⟩ = some (.int .i64 x.n) ∧ v.cell? ⟨w.heap.size, 1, none⟩ = some (.int .u64 x.h) ∧ v.cell? ⟨w.heap.size, 2, none⟩ = some (.int .u64 x.l) ∧ v.cell? ⟨w.heap.size, 3, none⟩ = some (.int .i64 x.v) ∧ v.cell? ⟨w.heap.size, 4, none⟩ = some (.int .i64 x.c) ∧ v.cell? ⟨w.heap.size, 5, none⟩ = some (.slice x.s.a x.s.D.length x.s.c)) ∧ (v.cell? ⟨w.heap.size + 1, 0, none⟩ = some (.int .i64 y.n) ∧ v.cell? ⟨w.heap.size + 1, 1, none⟩ = some (.int .u64 y.h) ∧ v.cell? ⟨w.heap.size + 1, 2, none⟩ = some (.int .u64 y.l) ∧ v.cell? ⟨w.heap.size + 1, 3, none⟩ = some (.int .i64 y.v) ∧ v.cell? ⟨w.heap.size + 1, 4, none⟩ = some (.int .i64 y.c) ∧ v.cell? ⟨w.heap.size + 1, 5, none⟩ = some (.slice y.s.a y.s.D.length y.s.c))) := fun v hv =>
    ⟨⟨(hv.cell (p := ⟨w.heap.size, 0, none⟩) (by simp)).trans (by simp), (hv.cell (p := ⟨w.heap.size, 1, none⟩) (by simp)).trans (by simp), (hv.cell (p := ⟨w.heap.size, 2, none⟩) (by simp)).trans (by simp), (hv.cell (p := ⟨w.heap.size, 3, none⟩) (by simp)).trans (by simp), (hv.cell (p := ⟨w.heap.size, 4, none⟩) (by simp)).trans (by simp), (hv.cell (p := ⟨w.heap.size, 5, none⟩) (by simp)).trans (by simp)⟩, ⟨(hv.cell (p := ⟨w.heap.size + 1, 0, none⟩) (by simp)).trans (by simp), (hv.cell (p := ⟨w.heap.size + 1, 1, none⟩) (by simp)).trans (by simp), (hv.cell (p := ⟨w.heap.size + 1, 2, none⟩) (by simp)).trans (by simp), (hv.cell (p := ⟨w.heap.size + 1, 3, none⟩) (by simp)).trans (by simp), (hv.cell (p := ⟨w.heap.size + 1, 4, none⟩) (by simp)).trans (by simp), (hv.cell (p := ⟨w.heap.size + 1, 5, none⟩) (by simp)).trans (by simp)⟩⟩
  have HG : Hid (Bl.gt x y = decide (0 < orI [Bl.cb x y, cmpI x.c y.c])) := rfl
  have c0 := hide (fun W => Bl.cball_any x y W)
  unfold Bl.val at c0
  generalize Bl.gt x y = G at *
  generalize Bl.cb x y = CB at *
  have cc := hide (fun W => cmpint_any x.c y.c W)
  generalize cmpI x.c y.c = CC at *
  have co := hide (fun W => or_any [CB, CC] (some ⟨W.heap.size, 0, none⟩) 2 2 (W.alloc (.cells #[.int .i64 CB, .int .i64 CC] 3)) (sl_lit kI W [CB, CC] 3 (by unfold maxLen; simp)))
  generalize orI [CB, CC] = O at *
  generalize hw : (w.alloc (.cells #[.int .i64 x.n, .int .u64 x.h, .int .u64 x.l, .int .i64 x.v, .int .i64 x.c, .slice x.s.a x.s.D.length x.s.c] 116)).alloc (.cells #[.int .i64 y.n, .int .u64 y.h, .int .u64 y.l, .int .i64 y.v, .int .i64 y.c, .slice y.s.a y.s.D.length y.s.c] 116) = wA at *
  have hwz : Hid (wA.heap.size = w.heap.size + 2) := by show _ = _; rw [← hw]; simp
  have s0 := KH.out _ (Below.refl (w.heap.size + 2) wA).drew
  show Calls Tryz.prog 191 #[.agg #[.int .i64 x.n, .int .u64 x.h, .int .u64 x.l, .int .i64 x.v, .int .i64 x.c, .slice x.s.a x.s.D.length x.s.c], .agg #[.int .i64 y.n, .int .u64 y.h, .int .u64 y.l, .int .i64 y.v, .int .i64 y.c, .slice y.s.a y.s.D.length y.s.c]] w _
  go_enter Tryz.func191, Tryz.ntmps191
  go_wp2_with fail
  try rw [hw]
  clear hw
  go_region_held3 (fun v => (v.cell? ⟨w.heap.size, 0, none⟩ = some (.int .i64 x.n) ∧ v.cell? ⟨w.heap.size, 1, none⟩ = some (.int .u64 x.h) ∧ v.cell? ⟨w.heap.size, 2, none⟩ = some (.int .u64 x.l) ∧ v.cell? ⟨w.heap.size, 3, none⟩ = some (.int .i64 x.v) ∧ v.cell? ⟨w.heap.size, 4, none⟩ = some (.int .i64 x.c) ∧ v.cell? ⟨w.heap.size, 5, none⟩ = some (.slice x.s.a x.s.D.length x.s.c)) ∧ (v.cell? ⟨w.heap.size + 1, 0, none⟩ = some (.int .i64 y.n) ∧ v.cell? ⟨w.heap.size + 1, 1, none⟩ = some (.int .u64 y.h) ∧ v.cell? ⟨w.heap.size + 1, 2, none⟩ = some (.int .u64 y.l) ∧ v.cell? ⟨w.heap.size + 1, 3, none⟩ = some (.int .i64 y.v) ∧ v.cell? ⟨w.heap.size + 1, 4, none⟩ = some (.int .i64 y.c) ∧ v.cell? ⟨w.heap.size + 1, 5, none⟩ = some (.slice y.s.a y.s.D.length y.s.c))) (with_reducible assumption) (first
    | (go_at_call 76; refine (c0.out _).mono ?_; rintro e w2 ⟨rfl, b2⟩; have D2 := hide ((Below.refl (w.heap.size + 2) wA).drew.trans (b2.mono (by show _ ≤ wA.heap.size; rw [hwz.out]; exact Nat.le_refl _))); have z2 := b2.size; have s2 := KH.out w2 D2.out; have s3 := KH.out _ (D2.out.alloc (by have := D2.out.size; have h2 := hwz.out; omega) (.cells #[.int .i64 CB, .int .i64 CC] 3)); clear b2)
    | (go_at_call 77; refine (cc.out _).mono ?_; rintro e w3 ⟨rfl, rfl⟩)
    | (go_at_call 75; refine (co.out _).mono ?_; rintro e w3 ⟨rfl, rfl⟩))
  go_wp2
  go_ret
  exact ⟨by rw [HG.out]; rfl, HB0.out.trans ((D2.out.alloc (by have := D2.out.size; have h2 := hwz.out; omega) _).mono (by omega))⟩

end Go.Proofs.YtcmjhaljbmhpgaaGreat

namespace Go.Proofs.YtcmjhaljbmhpgaaGreat
open Go.RowKit Go.Maps
open Classical
set_option linter.unusedVariables false
set_option linter.unusedSimpArgs false

/-- Where a vote comes to stand that has none of its node. -/
def Bl.at_ (L : List Bl) (x : Bl) : Nat := (L.findIdx? (fun y => decide (x.n < y.n))).getD L.length
def Bl.ins (L : List Bl) (x : Bl) : List Bl := L.take (Bl.at_ L x) ++ x :: L.drop (Bl.at_ L x)
theorem Bl.at_le (L : List Bl) (x : Bl) : Bl.at_ L x ≤ L.length := by
  unfold Bl.at_
  cases h : L.findIdx? (fun y => decide (x.n < y.n)) with
  | none => exact Nat.le_refl _
  | some i =>
    have := (List.findIdx?_eq_some_iff_getElem.1 h).1
    exact Nat.le_of_lt this
theorem Bl.at_ix (L : List Bl) (x : Bl) : (ix (fun y => decide (x.n < y.n)) L < 0 ∧ Bl.at_ L x = L.length) ∨ (0 ≤ ix (fun y => decide (x.n < y.n)) L ∧ ix (fun y => decide (x.n < y.n)) L = (Bl.at_ L x : Int)) := by
  unfold Bl.at_ ix
  cases h : L.findIdx? (fun y => decide (x.n < y.n)) with
  | none => exact .inl ⟨by decide, rfl⟩
  | some i => exact .inr ⟨by simp, rfl⟩
/-- Does a vote take an older one's place? -/
def Bl.rep (x y : Bl) : Bool := decide (0 < cmpD x.h x.l y.h y.l) || (decide (cmpD x.h x.l y.h y.l = 0) && Bl.gt x y)
/-- A list with a vote put in. -/
def Bl.put (L : List Bl) (x : Bl) : List Bl := match L.findIdx? (fun y => decide (y.n = x.n)) with
  | none => Bl.ins L x
  | some i => if Bl.rep x (L.getD i x) = true then L.set i x else L
theorem Bl.f30 (args : Array Value) (w : World) : (callFunc 140 args).run Tryz.prog w = .ok (.enter 140 args) w := enters_of Tryz.func140 (by kernel_rfl) rfl args w
theorem Bl.f22 (args : Array Value) (w : World) : (callFunc 108 args).run Tryz.prog w = .ok (.enter 108 args) w := enters_of Tryz.func108 (by kernel_rfl) rfl args w
theorem Bl.box (x : Bl) (w v : World) (hv : Below (w.heap.size + 1) (w.alloc (.cells #[.int .i64 x.n, .int .u64 x.h, .int .u64 x.l, .int .i64 x.v, .int .i64 x.c, .slice x.s.a x.s.D.length x.s.c] 116)) v) : v.cell? ⟨w.heap.size, 0, none⟩ = some (.int .i64 x.n) ∧ v.cell? ⟨w.heap.size, 1, none⟩ = some (.int .u64 x.h) ∧ v.cell? ⟨w.heap.size, 2, none⟩ = some (.int .u64 x.l) ∧ v.cell? ⟨w.heap.size, 3, none⟩ = some (.int .i64 x.v) ∧ v.cell? ⟨w.heap.size, 4, none⟩ = some (.int .i64 x.c) ∧ v.cell? ⟨w.heap.size, 5, none⟩ = some (.slice x.s.a x.s.D.length x.s.c) :=
  ⟨(hv.cell (p := ⟨w.heap.size, 0, none⟩) (by simp)).trans (by simp), (hv.cell (p := ⟨w.heap.size, 1, none⟩) (by simp)).trans (by simp), (hv.cell (p := ⟨w.heap.size, 2, none⟩) (by simp)).trans (by simp), (hv.cell (p := ⟨w.heap.size, 3, none⟩) (by simp)).trans (by simp), (hv.cell (p := ⟨w.heap.size, 4, none⟩) (by simp)).trans (by simp), (hv.cell (p := ⟨w.heap.size, 5, none⟩) (by simp)).trans (by simp)⟩
set_option maxRecDepth 100000 in
set_option maxHeartbeats 1000000 in
theorem Bl.insert_any (L : List Bl) (x : Bl) (n g B : Nat) (w : World) (hn : L.length = n) (h : OwnY yBlV B w (.slice (some ⟨g, 0, none⟩) n n) L) (hB : B ≤ w.heap.size) (hm : (n + 1) * 64 ≤ 140737488355328) :
    Calls Tryz.prog 109 #[.slice (some ⟨g, 0, none⟩) n n, x.val] w fun e w' => ∃ v, e = .returned v ∧ OwnY yBlV B w' v (Bl.ins L x) ∧ Below B w w' := by
  have O1 := hide (h.alloc (.cells #[.int .i64 x.n, .int .u64 x.h, .int .u64 x.l, .int .i64 x.v, .int .i64 x.c, .slice x.s.a x.s.D.length x.s.c] 116))
  have b1 : Below w.heap.size w (w.alloc (.cells #[.int .i64 x.n, .int .u64 x.h, .int .u64 x.l, .int .i64 x.v, .int .i64 x.c, .slice x.s.a x.s.D.length x.s.c] 116)) := (Below.refl _ w).alloc (Nat.le_refl _) _
  have CI := hide (Bl.index_any (fun y => decide (x.n < y.n)) 140 #[.pointer (some ⟨w.heap.size, 0, none⟩)] Bl.f30 L (some ⟨g, 0, none⟩) n n (w.alloc (.cells #[.int .i64 x.n, .int .u64 x.h, .int .u64 x.l, .int .i64 x.v, .int .i64 x.c, .slice x.s.a x.s.D.length x.s.c] 116)) (O1.out.sl' kBlV)
    (fun W y hW => (Bl.isAbove y x w.heap.size W (by have := hW.size; simp at this; omega) (x.box w W (by simpa using hW))).mono fun e w' hq => ⟨hq.1, hW.trans (hq.2.mono hW.size)⟩))
  have HB1 := hide b1
  have HN := hide hn
  have hle := Bl.at_le L x
  have hix := Bl.at_ix L x
  rw [hn] at hle hix
  clear h hn b1
  obtain ⟨m, hm2⟩ : ∃ m, m = Bl.at_ L x := ⟨_, rfl⟩
  have HM := hide hm2
  rw [← hm2] at hle hix
  clear hm2
  have hcl : n + 1 ≤ 140737488355328 := by omega
  generalize ix (fun y => decide (x.n < y.n)) L = I at *
  have hlast : Hid (∀ W, Below (w.heap.size + 1) (w.alloc (.cells #[.int .i64 x.n, .int .u64 x.h, .int .u64 x.l, .int .i64 x.v, .int .i64 x.c, .slice x.s.a x.s.D.length x.s.c] 116)) W → Calls Tryz.prog 141 #[.slice (some ⟨g, 0, none⟩) n n, .int .i64 (m : Int), .slice (some ⟨W.heap.size, 0, none⟩) 1 1] (W.alloc (.cells #[.int .i64 x.n, .int .u64 x.h, .int .u64 x.l, .int .i64 x.v, .int .i64 x.c, .slice x.s.a x.s.D.length x.s.c] 116)) fun e w' => ∃ v, e = .returned v ∧ OwnY yBlV B w' v (Bl.ins L x) ∧ Below B w w') := fun W hW => by
    have hWs : w.heap.size + 1 ≤ W.heap.size := by have := hW.size; simpa using this
    have b2 : Below w.heap.size w (W.alloc (.cells #[.int .i64 x.n, .int .u64 x.h, .int .u64 x.l, .int .i64 x.v, .int .i64 x.c, .slice x.s.a x.s.D.length x.s.c] 116)) := (HB1.out.trans (hW.mono (by omega))).alloc (by omega) _
    refine (Bl.insert_lib L x m n g B W.heap.size (W.alloc (.cells #[.int .i64 x.n, .int .u64 x.h, .int .u64 x.l, .int .i64 x.v, .int .i64 x.c, .slice x.s.a x.s.D.length x.s.c] 116)) HN.out hle ((O1.out.grow (by simpa using hW)).alloc _) (sl_box (Y := yBlV) W x 116) (by simp; omega) hm).mono ?_
    rintro e w' ⟨v, rfl, o', b'⟩
    refine ⟨v, rfl, ?_, (b2.mono hB).trans b'⟩
    unfold Bl.ins
    rw [← HM.out]
    exact o'
  clear hm
  show Calls Tryz.prog 109 #[.slice (some ⟨g, 0, none⟩) n n, .agg #[.int .i64 x.n, .int .u64 x.h, .int .u64 x.l, .int .i64 x.v, .int .i64 x.c, .slice x.s.a x.s.D.length x.s.c]] w _
  go_enter Tryz.func109, Tryz.ntmps109
  go_wp2_with fail
  refine CI.out.mono ?_
  rintro e w1 ⟨rfl, b2⟩
  have b2 : Below (w.heap.size + 1) (w.alloc (.cells #[.int .i64 x.n, .int .u64 x.h, .int .u64 x.l, .int .i64 x.v, .int .i64 x.c, .slice x.s.a x.s.D.length x.s.c] 116)) w1 := by simpa using b2
  obtain ⟨y0, y1, y2, y3, y4, y5⟩ := x.box w w1 b2
  have cl := hide (hlast.out w1 b2)
  clear hlast CI
  dsimp only
  rcases hix with ⟨hneg, hmn⟩ | ⟨hpos, hmI⟩
  · subst hmn
    go_wp2_with fail
    refine cl.out.mono ?_
    rintro e w' ⟨v, rfl, o', b'⟩
    have O' := hide o'
    clear o'
    dsimp only
    go_wp2
    go_ret
    exact ⟨v, rfl, O'.out, b'⟩
  · subst hmI
    have hneg : ¬ ((m : Int) < 0) := by omega
    go_wp2_with fail
    refine cl.out.mono ?_
    rintro e w' ⟨v, rfl, o', b'⟩
    have O' := hide o'
    clear o'
    dsimp only
    go_wp2
    go_ret
    exact ⟨v, rfl, O'.out, b'⟩

end Go.Proofs.YtcmjhaljbmhpgaaGreat

namespace Go.Proofs.YtcmjhaljbmhpgaaGreat
open Go.RowKit Go.Maps
open Classical
set_option linter.unusedVariables false
set_option linter.unusedSimpArgs false

theorem Bl.ifdraw (x : Bl) (w : World) : (invoke (.fn (.method "amnesia/tally.draw") #[]) #[.iface 116 x.val]).run Tryz.prog w = .ok (.enter 190 #[x.val]) w := by kernel_rfl
set_option maxRecDepth 100000 in
set_option maxHeartbeats 1000000 in
theorem Bl.replaces_any (x y : Bl) (w : World) : Calls Tryz.prog 110 #[x.val, y.val] w fun e w' => e = .returned (.bool (Bl.rep x y)) ∧ Below w.heap.size w w' := by
  have hb0 : Below w.heap.size w ((w.alloc (.cells #[.int .i64 x.n, .int .u64 x.h, .int .u64 x.l, .int .i64 x.v, .int .i64 x.c, .slice x.s.a x.s.D.length x.s.c] 116)).alloc (.cells #[.int .i64 y.n, .int .u64 y.h, .int .u64 y.l, .int .i64 y.v, .int .i64 y.c, .slice y.s.a y.s.D.length y.s.c] 116)) := ((Below.refl _ w).alloc (Nat.le_refl _) _).alloc (by simp) _
  have KH : Hid (∀ v, Below (w.heap.size + 2) ((w.alloc (.cells #[.int .i64 x.n, .int .u64 x.h, .int .u64 x.l, .int .i64 x.v, .int .i64 x.c, .slice x.s.a x.s.D.length x.s.c] 116)).alloc (.cells #[.int .i64 y.n, .int .u64 y.h, .int .u64 y.l, .int .i64 y.v, .int .i64 y.c, .slice y.s.a y.s.D.length y.s.c] 116)) v → (v.cell? ⟨w.heap.size, 0, none⟩ = some (.int .i64 x.n) ∧ v.cell? ⟨w.heap.size, 1, none⟩ = some (.int .u64 x.h) ∧ v.cell? ⟨w.heap.size, 2, none⟩ = some (.int .u64 x.l) ∧ v.cell? ⟨w.heap.size, 3, none⟩ = some (.int .i64 x.v) ∧ v.cell? ⟨w.heap.size, 4, none⟩ = some (.int .i64 x.c) ∧ v.cell? ⟨w.heap.size, 5, none⟩ = some (.slice x.s.a x.s.D.length x.s.c)) ∧ (v.cell? ⟨w.heap.size + 1, 0, none⟩ = some (.int .i64 y.n) ∧ v.cell? ⟨w.heap.size + 1, 1, none⟩ = some (.int .u64 y.h) ∧ v.cell? ⟨w.heap.size + 1, 2, none⟩ = some (.int .u64 y.l) ∧ v.cell? ⟨w.heap.size + 1, 3, none⟩ = some (.int .i64 y.v) ∧ v.cell? ⟨w.heap.size + 1, 4, none⟩ = some (.int .i64 y.c) ∧ v.cell? ⟨w.heap.size + 1, 5, none⟩ = some (.slice y.s.a y.s.D.length y.s.c))) := fun v hv =>
    ⟨⟨(hv.cell (p := ⟨w.heap.size, 0, none⟩) (by simp)).trans (by simp), (hv.cell (p := ⟨w.heap.size, 1, none⟩) (by simp)).trans (by simp), (hv.cell (p := ⟨w.heap.size, 2, none⟩) (by simp)).trans (by simp), (hv.cell (p := ⟨w.heap.size, 3, none⟩) (by simp)).trans (by simp), (hv.cell (p := ⟨w.heap.size, 4, none⟩) (by simp)).trans (by simp), (hv.cell (p := ⟨w.heap.size, 5, none⟩) (by simp)).trans (by simp)⟩, ⟨(hv.cell (p := ⟨w.heap.size + 1, 0, none⟩) (by simp)).trans (by simp), (hv.cell (p := ⟨w.heap.size + 1, 1, none⟩) (by simp)).trans (by simp), (hv.cell (p := ⟨w.heap.size + 1, 2, none⟩) (by simp)).trans (by simp), (hv.cell (p := ⟨w.heap.size + 1, 3, none⟩) (by simp)).trans (by simp), (hv.cell (p := ⟨w.heap.size + 1, 4, none⟩) (by simp)).trans (by simp), (hv.cell (p := ⟨w.heap.size + 1, 5, none⟩) (by simp)).trans (by simp)⟩⟩
  have HB0 := hide hb0
  have cg := hide (fun W => Bl.greater_any x y W)
  have HR : Hid (Bl.rep x y = (decide (0 < cmpD x.h x.l y.h y.l) || (decide (cmpD x.h x.l y.h y.l = 0) && Bl.gt x y))) := rfl
  have cc := hide (fun W => compare_any x.h x.l y.h y.l W)
  clear hb0
  generalize Bl.rep x y = R at *
  generalize cmpD x.h x.l y.h y.l = c at *
  generalize Bl.gt x y = G at *
  unfold Bl.val at cg
  show Calls Tryz.prog 110 #[.agg #[.int .i64 x.n, .int .u64 x.h, .int .u64 x.l, .int .i64 x.v, .int .i64 x.c, .slice x.s.a x.s.D.length x.s.c], .agg #[.int .i64 y.n, .int .u64 y.h, .int .u64 y.l, .int .i64 y.v, .int .i64 y.c, .slice y.s.a y.s.D.length y.s.c]] w _
  go_enter Tryz.func110, Tryz.ntmps110
  go_wp2_with fail
  refine region_q9 (C := fun v => Below (w.heap.size + 2) ((w.alloc (.cells #[.int .i64 x.n, .int .u64 x.h, .int .u64 x.l, .int .i64 x.v, .int .i64 x.c, .slice x.s.a x.s.D.length x.s.c] 116)).alloc (.cells #[.int .i64 y.n, .int .u64 y.h, .int .u64 y.l, .int .i64 y.v, .int .i64 y.c, .slice y.s.a y.s.D.length y.s.c] 116)) v) (by kernel_rfl) (by kernel_rfl) (Below.refl _ _).drew ?_
  refine wqv (u := x.val) (by kernel_rfl) (fun v hv => by obtain ⟨⟨y0, y1, y2, y3, y4, y5⟩, _⟩ := KH.out v hv; go_simp; rfl) ?_
  simp only [Act.put, List.setIfInBounds_toArray, List.set_cons_zero, List.set_cons_succ]
  refine wqv (u := .iface 116 x.val) (by kernel_rfl) (fun v hv => by kernel_rfl) ?_
  simp only [Act.put, List.setIfInBounds_toArray, List.set_cons_zero, List.set_cons_succ]
  refine wqi (fid := 190) (args := #[x.val]) (AS := #[]) (V := .iface 116 x.val) (u := .agg #[.int .u64 x.h, .int .u64 x.l]) (by kernel_rfl) _ _ rfl (by kernel_rfl) (by kernel_rfl) (fun v => x.ifdraw v) (fun v hv => (x.draw_any v).mono fun e w' h => ⟨h.1, hv.trans (h.2.mono (by have := hv.size; rwa [World.size_alloc, World.size_alloc] at this))⟩) ?_
  simp only [Act.put, List.setIfInBounds_toArray, List.set_cons_zero, List.set_cons_succ]
  refine wqv (u := y.val) (by kernel_rfl) (fun v hv => by obtain ⟨_, ⟨y0, y1, y2, y3, y4, y5⟩⟩ := KH.out v hv; go_simp; rfl) ?_
  simp only [Act.put, List.setIfInBounds_toArray, List.set_cons_zero, List.set_cons_succ]
  refine wqv (u := .iface 116 y.val) (by kernel_rfl) (fun v hv => by kernel_rfl) ?_
  simp only [Act.put, List.setIfInBounds_toArray, List.set_cons_zero, List.set_cons_succ]
  refine wqi (fid := 190) (args := #[y.val]) (AS := #[]) (V := .iface 116 y.val) (u := .agg #[.int .u64 y.h, .int .u64 y.l]) (by kernel_rfl) _ _ rfl (by kernel_rfl) (by kernel_rfl) (fun v => y.ifdraw v) (fun v hv => (y.draw_any v).mono fun e w' h => ⟨h.1, hv.trans (h.2.mono (by have := hv.size; rwa [World.size_alloc, World.size_alloc] at this))⟩) ?_
  simp only [Act.put, List.setIfInBounds_toArray, List.set_cons_zero, List.set_cons_succ]
  refine wqc (fid := 123) (args := #[.agg #[.int .u64 x.h, .int .u64 x.l], .agg #[.int .u64 y.h, .int .u64 y.l]]) (u := .int .i64 c) (by kernel_rfl) (fun v => by kernel_rfl) (fun v hv => (cc.out v).mono fun e w' h => ⟨h.1, hv.trans (h.2.mono (by have := hv.size; rwa [World.size_alloc, World.size_alloc] at this))⟩) ?_
  simp only [Act.put, List.setIfInBounds_toArray, List.set_cons_zero, List.set_cons_succ]
  refine wqv (u := .int .i64 c) (by kernel_rfl) (fun v hv => by kernel_rfl) ?_
  simp only [Act.put, List.setIfInBounds_toArray, List.set_cons_zero, List.set_cons_succ]
  refine wqnil (fun v hv => ?_)
  obtain ⟨⟨y0, y1, y2, y3, y4, y5⟩, ⟨z0, z1, z2, z3, z4, z5⟩⟩ := KH.out v hv
  have BV := hide (HB0.out.trans (hv.mono (by omega)))
  clear hv KH cc
  by_cases h1 : 0 < c
  · go_wp2
    go_ret
    exact ⟨by rw [HR.out]; simp [h1], BV.out⟩
  · by_cases h2 : c = 0
    · subst h2
      go_wp2_with fail
      refine (cg.out v).mono ?_
      rintro e w' ⟨rfl, b'⟩
      have B' := hide (BV.out.trans (b'.mono BV.out.size))
      clear b' y0 y1 y2 y3 y4 y5 z0 z1 z2 z3 z4 z5
      dsimp only
      cases G
      · go_wp2
        go_ret
        exact ⟨by rw [HR.out]; rfl, B'.out⟩
      · go_wp2
        go_ret
        exact ⟨by rw [HR.out]; rfl, B'.out⟩
    · have h3 : (c == 0) = false := by simp [h2]
      go_wp2
      go_ret
      exact ⟨by rw [HR.out]; simp [h1, h2], BV.out⟩

end Go.Proofs.YtcmjhaljbmhpgaaGreat

namespace Go.Proofs.YtcmjhaljbmhpgaaGreat
open Go.RowKit Go.Maps
open Classical
set_option linter.unusedVariables false
set_option linter.unusedSimpArgs false

theorem Bl.put_none {L : List Bl} {x : Bl} (h : L.findIdx? (fun y => decide (y.n = x.n)) = none) : Bl.put L x = Bl.ins L x := by unfold Bl.put; rw [h]
theorem Bl.put_some {L : List Bl} {x : Bl} {i : Nat} (h : L.findIdx? (fun y => decide (y.n = x.n)) = some i) (y : Bl) (hy : L[i]? = some y) : Bl.put L x = if Bl.rep x y = true then L.set i x else L := by
  unfold Bl.put
  rw [h]
  simp only [List.getD_eq_getElem?_getD, hy, Option.getD_some]
set_option maxRecDepth 100000 in
set_option maxHeartbeats 1000000 in
theorem Bl.put_any (L : List Bl) (x : Bl) (n g B : Nat) (w : World) (hn : L.length = n) (h : OwnY yBlV B w (.slice (some ⟨g, 0, none⟩) n n) L) (hB : B ≤ w.heap.size) (hm : (n + 1) * 64 ≤ 140737488355328) :
    Calls Tryz.prog 70 #[.slice (some ⟨g, 0, none⟩) n n, x.val] w fun e w' => ∃ v, e = .returned v ∧ OwnY yBlV B w' v (Bl.put L x) ∧ Below B w w' := by
  have hgb : B ≤ g ∧ g < w.heap.size := by
    obtain ⟨_, _, ee, _, _, _, h4⟩ := h.form
    injection ee with ee
    obtain ⟨g', e2, h6, h5⟩ := h4 _ ee.symm
    cases e2
    exact ⟨h6, h5⟩
  have O1 := hide (h.alloc (.cells #[.int .i64 x.n, .int .u64 x.h, .int .u64 x.l, .int .i64 x.v, .int .i64 x.c, .slice x.s.a x.s.D.length x.s.c] 116))
  have b1 : Below w.heap.size w (w.alloc (.cells #[.int .i64 x.n, .int .u64 x.h, .int .u64 x.l, .int .i64 x.v, .int .i64 x.c, .slice x.s.a x.s.D.length x.s.c] 116)) := (Below.refl _ w).alloc (Nat.le_refl _) _
  have CI := hide (Bl.index_any (fun y => decide (y.n = x.n)) 108 #[.pointer (some ⟨w.heap.size, 0, none⟩)] Bl.f22 L (some ⟨g, 0, none⟩) n n (w.alloc (.cells #[.int .i64 x.n, .int .u64 x.h, .int .u64 x.l, .int .i64 x.v, .int .i64 x.c, .slice x.s.a x.s.D.length x.s.c] 116)) (O1.out.sl' kBlV)
    (fun W y hW => (Bl.isNode y x w.heap.size W (by have := hW.size; simp at this; omega) (x.box w W (by simpa using hW))).mono fun e w' hq => ⟨hq.1, hW.trans (hq.2.mono hW.size)⟩))
  have HB1 := hide b1
  have HN := hide hn
  clear h b1
  have hcl : n + 1 ≤ 140737488355328 := by omega
  have hgs : g ≠ w.heap.size := by omega
  show Calls Tryz.prog 70 #[.slice (some ⟨g, 0, none⟩) n n, .agg #[.int .i64 x.n, .int .u64 x.h, .int .u64 x.l, .int .i64 x.v, .int .i64 x.c, .slice x.s.a x.s.D.length x.s.c]] w _
  cases hf : L.findIdx? (fun y => decide (y.n = x.n)) with
  | none =>
    have hix : ix (fun y => decide (y.n = x.n)) L = -1 := by unfold ix; rw [hf]
    rw [hix] at CI
    have HP := hide (Bl.put_none hf)
    clear hf hix
    go_enter Tryz.func70, Tryz.ntmps70
    go_wp2_with fail
    refine CI.out.mono ?_
    rintro e w1 ⟨rfl, b2⟩
    have b2 : Below (w.heap.size + 1) (w.alloc (.cells #[.int .i64 x.n, .int .u64 x.h, .int .u64 x.l, .int .i64 x.v, .int .i64 x.c, .slice x.s.a x.s.D.length x.s.c] 116)) w1 := by simpa using b2
    obtain ⟨y0, y1, y2, y3, y4, y5⟩ := x.box w w1 b2
    have z2 : w.heap.size + 1 ≤ w1.heap.size := by have := b2.size; simpa using this
    have B2 := hide (HB1.out.trans (b2.mono (by omega)))
    have cl := hide (Bl.insert_any L x n g B w1 HN.out (O1.out.grow (by simpa using b2)) (by omega) hm)
    clear b2 CI hm
    dsimp only
    go_wp2_with fail
    refine cl.out.mono ?_
    rintro e w' ⟨v, rfl, o', b'⟩
    have O' := hide o'
    clear o'
    dsimp only
    go_wp2
    go_ret
    exact ⟨v, rfl, by rw [HP.out]; exact O'.out, (B2.out.mono hB).trans b'⟩
  | some i =>
    have hix : ix (fun y => decide (y.n = x.n)) L = (i : Int) := by unfold ix; rw [hf]
    have hil : i < L.length := (List.findIdx?_eq_some_iff_getElem.1 hf).1
    have hin : i < n := by omega
    have hg : L[i]? = some L[i] := List.getElem?_eq_getElem hil
    rw [hix] at CI
    have HP := hide (Bl.put_some hf _ hg)
    clear hf hix
    have KH : Hid (∀ v, Below (w.heap.size + 1) (w.alloc (.cells #[.int .i64 x.n, .int .u64 x.h, .int .u64 x.l, .int .i64 x.v, .int .i64 x.c, .slice x.s.a x.s.D.length x.s.c] 116)) v → (v.cell? ⟨w.heap.size, 0, none⟩ = some (.int .i64 x.n) ∧ v.cell? ⟨w.heap.size, 1, none⟩ = some (.int .u64 x.h) ∧ v.cell? ⟨w.heap.size, 2, none⟩ = some (.int .u64 x.l) ∧ v.cell? ⟨w.heap.size, 3, none⟩ = some (.int .i64 x.v) ∧ v.cell? ⟨w.heap.size, 4, none⟩ = some (.int .i64 x.c) ∧ v.cell? ⟨w.heap.size, 5, none⟩ = some (.slice x.s.a x.s.D.length x.s.c)) ∧ (v.cell? ⟨g, i * 6, none⟩ = some (.int .i64 L[i].n) ∧ v.cell? ⟨g, i * 6 + 1, none⟩ = some (.int .u64 L[i].h) ∧ v.cell? ⟨g, i * 6 + 2, none⟩ = some (.int .u64 L[i].l) ∧ v.cell? ⟨g, i * 6 + 3, none⟩ = some (.int .i64 L[i].v) ∧ v.cell? ⟨g, i * 6 + 4, none⟩ = some (.int .i64 L[i].c) ∧ v.cell? ⟨g, i * 6 + 5, none⟩ = some (.slice L[i].s.a L[i].s.D.length L[i].s.c)) ∧ OwnY yBlV B v (.slice (some ⟨g, 0, none⟩) n n) L) := fun v hv => by
      have o2 := O1.out.grow (w' := v) (by simpa using hv)
      obtain ⟨q, o, ea, hq, z0, z1, z2, z3, z4, z5⟩ := (o2.sl' kBlV).BlV hg
      cases ea
      simp only [Nat.zero_add] at z0 z1 z2 z3 z4 z5
      exact ⟨x.box w v hv, ⟨z0, z1, z2, z3, z4, z5⟩, o2⟩
    have HG := hide hg
    clear hg hn
    have hneg : ¬ ((i : Int) < 0) := by omega
    generalize L[i] = y at *
    have cr := hide (fun W => Bl.replaces_any x y W)
    generalize Bl.rep x y = R at *
    go_enter Tryz.func70, Tryz.ntmps70
    go_wp2_with fail
    refine CI.out.mono ?_
    rintro e w1 ⟨rfl, b2⟩
    have b2 : Below (w.heap.size + 1) (w.alloc (.cells #[.int .i64 x.n, .int .u64 x.h, .int .u64 x.l, .int .i64 x.v, .int .i64 x.c, .slice x.s.a x.s.D.length x.s.c] 116)) w1 := by simpa using b2
    clear CI O1
    dsimp only
    go_wp2_with fail
    refine region_q9 (C := fun v => Below (w.heap.size + 1) (w.alloc (.cells #[.int .i64 x.n, .int .u64 x.h, .int .u64 x.l, .int .i64 x.v, .int .i64 x.c, .slice x.s.a x.s.D.length x.s.c] 116)) v) (by kernel_rfl) (by kernel_rfl) b2.drew ?_
    refine wqv (u := x.val) (by kernel_rfl) (fun v hv => by obtain ⟨⟨y0, y1, y2, y3, y4, y5⟩, _⟩ := KH.out v hv; go_simp; rfl) ?_
    simp only [Act.put, List.setIfInBounds_toArray, List.set_cons_zero, List.set_cons_succ]
    refine wqv (u := .slice (some ⟨g, 0, none⟩) n n) (by kernel_rfl) (fun v hv => by kernel_rfl) ?_
    simp only [Act.put, List.setIfInBounds_toArray, List.set_cons_zero, List.set_cons_succ]
    refine wqv (u := .int .i64 (i : Int)) (by kernel_rfl) (fun v hv => by kernel_rfl) ?_
    simp only [Act.put, List.setIfInBounds_toArray, List.set_cons_zero, List.set_cons_succ]
    refine wqv (u := .pointer (some ⟨g, i * 6, none⟩)) (by kernel_rfl) (fun v hv => by go_simp) ?_
    simp only [Act.put, List.setIfInBounds_toArray, List.set_cons_zero, List.set_cons_succ]
    refine wqv (u := y.val) (by kernel_rfl) (fun v hv => by obtain ⟨_, ⟨y0, y1, y2, y3, y4, y5⟩, _⟩ := KH.out v hv; go_simp; rfl) ?_
    simp only [Act.put, List.setIfInBounds_toArray, List.set_cons_zero, List.set_cons_succ]
    refine wqc (fid := 110) (args := #[x.val, y.val]) (u := .bool R) (by kernel_rfl) (fun v => by kernel_rfl) (fun v hv => (cr.out v).mono fun e w' h => ⟨h.1, hv.trans (h.2.mono (by have := hv.size; rwa [World.size_alloc] at this))⟩) ?_
    simp only [Act.put, List.setIfInBounds_toArray, List.set_cons_zero, List.set_cons_succ]
    refine wqv (u := .bool R) (by kernel_rfl) (fun v hv => by kernel_rfl) ?_
    simp only [Act.put, List.setIfInBounds_toArray, List.set_cons_zero, List.set_cons_succ]
    refine wqnil (fun v hv => ?_)
    obtain ⟨⟨y0, y1, y2, y3, y4, y5⟩, _, ov⟩ := KH.out v hv
    have OV := hide ov
    have zv : w.heap.size + 1 ≤ v.heap.size := by have := hv.size; simpa using this
    have BV := hide (HB1.out.trans (hv.mono (by omega)))
    clear ov hv KH cr
    cases R
    · go_wp2
      go_ret
      refine ⟨_, rfl, ?_, BV.out.mono hB⟩
      rw [HP.out]
      exact OV.out
    · go_wp2_with (first
        | (refine storeY kBlV _ rfl 116 (.tmp 25) (.tmp 24) rfl B g n n L i 0 y x _ rfl rfl HG.out (by kernel_rfl) (by exact (by decide : 6 ≤ 6)) rfl OV.out ?_; intro w3 o3 u3 z3; have O3 := hide o3; clear o3)
        | go_in)
      go_ret
      refine ⟨_, rfl, ?_, (BV.out.mono hB).trans (u3.below (by omega) (fun k e => by subst e; exact hgb.1))⟩
      rw [HP.out]
      exact O3.out

end Go.Proofs.YtcmjhaljbmhpgaaGreat

namespace Go.Proofs.YtcmjhaljbmhpgaaGreat
open Go.RowKit Go.Maps
open Classical
set_option linter.unusedVariables false
set_option linter.unusedSimpArgs false

/-- The vote with its log in another block. -/
def Bl.re (x : Bl) (g : Nat) : Bl := { x with s := ⟨some ⟨g, 0, none⟩, x.s.D.length, x.s.D⟩ }
/-- The vote's log lies in memory. -/
def Bl.In (w : World) (x : Bl) : Prop := SlY yE w x.s.a x.s.D.length x.s.c x.s.D ∧ x.s.D.length * 48 ≤ 281474976710656
theorem Bl.In.later {w w' : World} {x : Bl} (h : x.In w) (hb : Below w.heap.size w w') : x.In w' := ⟨h.1.later hb, h.2⟩
theorem Bl.In.bel {w w' : World} {x : Bl} {B : Nat} (h : x.In w) (hb : Below B w w') (hB : w.heap.size ≤ B) : x.In w' := ⟨h.1.bel hb hB, h.2⟩
/-- y is x, with a log of its own. -/
def Bl.Told (B : Nat) (w : World) (x y : Bl) : Prop := x.s.D.length * 48 ≤ 281474976710656 ∧ ∃ g, y = x.re g ∧ OwnY yE B w (.slice (some ⟨g, 0, none⟩) x.s.D.length x.s.D.length) x.s.D
theorem Bl.Told.bel {B : Nat} {w w' : World} {x y : Bl} (h : Bl.Told B w x y) (hb : Below w.heap.size w w') : Bl.Told B w' x y := by
  obtain ⟨h0, g, e, o⟩ := h
  exact ⟨h0, g, e, o.grow hb⟩
theorem Bl.Told.low {B B' : Nat} {w : World} {x y : Bl} (h : Bl.Told B w x y) (hb : B' ≤ B) : Bl.Told B' w x y := by
  obtain ⟨h0, g, e, o⟩ := h
  exact ⟨h0, g, e, o.low hb⟩
theorem Bl.Told.In {B : Nat} {w : World} {x y : Bl} (h : Bl.Told B w x y) : y.In w := by
  obtain ⟨h0, g, rfl, o⟩ := h
  exact ⟨o.sl' kE, h0⟩
theorem Bl.Told.D {B : Nat} {w : World} {x y : Bl} (h : Bl.Told B w x y) : y.s.D = x.s.D ∧ y.n = x.n ∧ y.h = x.h ∧ y.l = x.l ∧ y.v = x.v ∧ y.c = x.c := by
  obtain ⟨h0, g, rfl, o⟩ := h
  exact ⟨rfl, rfl, rfl, rfl, rfl, rfl⟩
/-- The same of lists. -/
def Bl.Tolds (B : Nat) (w : World) (L R : List Bl) : Prop := R.length = L.length ∧ ∀ (i : Nat) (x y : Bl), L[i]? = some x → R[i]? = some y → Bl.Told B w x y
theorem Bl.Tolds.bel {B : Nat} {w w' : World} {L R : List Bl} (h : Bl.Tolds B w L R) (hb : Below w.heap.size w w') : Bl.Tolds B w' L R := ⟨h.1, fun i x y hx hy => (h.2 i x y hx hy).bel hb⟩
theorem Bl.Tolds.low {B B' : Nat} {w : World} {L R : List Bl} (h : Bl.Tolds B w L R) (hb : B' ≤ B) : Bl.Tolds B' w L R := ⟨h.1, fun i x y hx hy => (h.2 i x y hx hy).low hb⟩
theorem hTEBl : yE.T ≠ yBlA.T := by decide
set_option maxRecDepth 100000 in
set_option maxHeartbeats 1000000 in
theorem Bl.told_any (x : Bl) (w : World) (h : x.In w) : Calls Tryz.prog 71 #[x.val] w fun e w' => e = .returned (x.re (w.heap.size + 2)).val ∧ OwnY yE (w.heap.size + 2) w' (.slice (some ⟨w.heap.size + 2, 0, none⟩) x.s.D.length x.s.D.length) x.s.D ∧ Below w.heap.size w w' := by
  obtain ⟨h, hd⟩ := h
  obtain ⟨xn, xh, xl, xv, xc, ⟨xa, xp, xD⟩⟩ := x
  dsimp only at h hd
  have wz := hide (show ((w.alloc (.cells #[.int .i64 xn, .int .u64 xh, .int .u64 xl, .int .i64 xv, .int .i64 xc, .slice xa xD.length xp] 116)).alloc (.cells #[.int .i64 0, .int .u64 0, .int .u64 0, .int .i64 0, .int .i64 0, .slice none 0 0] 53)).heap.size = w.heap.size + 2 by simp)
  have b1 : Below w.heap.size w ((w.alloc (.cells #[.int .i64 xn, .int .u64 xh, .int .u64 xl, .int .i64 xv, .int .i64 xc, .slice xa xD.length xp] 116)).alloc (.cells #[.int .i64 0, .int .u64 0, .int .u64 0, .int .i64 0, .int .i64 0, .slice none 0 0] 53)) := ((Below.refl _ w).alloc (Nat.le_refl _) _).alloc (by simp) _
  have cc := copied_any xD xa xD.length xp _ (h.later b1) hd
  rw [wz.out] at cc
  have CC := hide cc
  have B1 := hide b1
  clear cc b1 h
  show Calls Tryz.prog 71 #[.agg #[.int .i64 xn, .int .u64 xh, .int .u64 xl, .int .i64 xv, .int .i64 xc, .slice xa xD.length xp]] w fun e w' => e = .returned (.agg #[.int .i64 xn, .int .u64 xh, .int .u64 xl, .int .i64 xv, .int .i64 xc, .slice (some ⟨w.heap.size + 2, 0, none⟩) xD.length xD.length]) ∧ OwnY yE (w.heap.size + 2) w' (.slice (some ⟨w.heap.size + 2, 0, none⟩) xD.length xD.length) xD ∧ Below w.heap.size w w'
  go_enter Tryz.func71, Tryz.ntmps71
  go_wp2_with fail
  refine CC.out.mono ?_
  rintro e w1 ⟨rfl, o1, b1⟩
  have ox : OwnY yBlV w.heap.size w1 (.slice (some ⟨w.heap.size, 0, none⟩) 1 1) [⟨xn, xh, xl, xv, xc, ⟨xa, xp, xD⟩⟩] :=
    (((own_box kBlV w.heap.size w ⟨xn, xh, xl, xv, xc, ⟨xa, xp, xD⟩⟩ (Nat.le_refl _)).alloc _).upd1 (Upd.of_below (by rw [← wz.out] at b1; exact b1)) (fun _ _ => id))
  have oz : OwnY yBlA w.heap.size w1 (.slice (some ⟨w.heap.size + 1, 0, none⟩) 1 1) [⟨0, 0, 0, 0, 0, ⟨none, 0, []⟩⟩] := by
    have := (own_box kBlA w.heap.size (w.alloc (.cells #[.int .i64 xn, .int .u64 xh, .int .u64 xl, .int .i64 xv, .int .i64 xc, .slice xa xD.length xp] 116)) ⟨0, 0, 0, 0, 0, ⟨none, 0, []⟩⟩ (by simp)).upd1 (Upd.of_below (by rw [← wz.out] at b1; exact b1)) (fun _ _ => id)
    rw [World.size_alloc] at this
    exact this
  have z1 : w.heap.size + 2 ≤ w1.heap.size := by have := b1.size; rwa [wz.out] at this
  have O1 := hide o1
  have B2 := hide (B1.out.trans (b1.mono (by omega)))
  have OX := hide ox
  have OZ := hide oz
  clear o1 b1 ox oz CC B1 wz
  dsimp only
  go_wp2_with (refine storeY kBlV _ rfl 51 (.tmp 6) (.tmp 5) rfl w.heap.size w.heap.size 1 1 [⟨xn, xh, xl, xv, xc, ⟨xa, xp, xD⟩⟩] 0 5 ⟨xn, xh, xl, xv, xc, ⟨xa, xp, xD⟩⟩ ⟨xn, xh, xl, xv, xc, ⟨some ⟨w.heap.size + 2, 0, none⟩, xD.length, xD⟩⟩ _ rfl rfl rfl (by kernel_rfl) (by exact (by decide : 6 ≤ 6)) rfl OX.out ?zk)
  intro w2 o2 u2 z2
  have y0 := o2.cell kBlV 0 _ rfl 0 _ rfl
  have y1 := o2.cell kBlV 0 _ rfl 1 _ rfl
  have y2 := o2.cell kBlV 0 _ rfl 2 _ rfl
  have y3 := o2.cell kBlV 0 _ rfl 3 _ rfl
  have y4 := o2.cell kBlV 0 _ rfl 4 _ rfl
  have y5 := o2.cell kBlV 0 _ rfl 5 _ rfl
  simp only [Nat.zero_mul, Nat.zero_add] at y0 y1 y2 y3 y4 y5
  have OZ2 := hide (OZ.out.upd1 u2 (fun g e => by cases e; show ¬ (w.heap.size + 1 = w.heap.size); omega))
  have U2 := hide u2
  clear o2 u2
  go_wp2_with (refine storeY kBlA _ rfl 53 (.tmp 2) (.tmp 7) rfl w.heap.size (w.heap.size + 1) 1 1 [⟨0, 0, 0, 0, 0, ⟨none, 0, []⟩⟩] 0 0 ⟨0, 0, 0, 0, 0, ⟨none, 0, []⟩⟩ ⟨xn, xh, xl, xv, xc, ⟨some ⟨w.heap.size + 2, 0, none⟩, xD.length, xD⟩⟩ _ rfl rfl rfl (by kernel_rfl) (by exact (by decide : 6 ≤ 6)) rfl OZ2.out ?zl)
  intro w3 o3 u3 z3
  have OZ3 := hide o3
  have U3 := hide u3
  clear o3 u3
  go_wp2
  have v0 := OZ3.out.cell kBlA 0 _ rfl 0 _ rfl
  have v1 := OZ3.out.cell kBlA 0 _ rfl 1 _ rfl
  have v2 := OZ3.out.cell kBlA 0 _ rfl 2 _ rfl
  have v3 := OZ3.out.cell kBlA 0 _ rfl 3 _ rfl
  have v4 := OZ3.out.cell kBlA 0 _ rfl 4 _ rfl
  have v5 := OZ3.out.cell kBlA 0 _ rfl 5 _ rfl
  simp only [Nat.zero_mul, Nat.zero_add] at v0 v1 v2 v3 v4 v5
  refine bodyPost_ret (v := .agg #[.int .i64 xn, .int .u64 xh, .int .u64 xl, .int .i64 xv, .int .i64 xc, .slice (some ⟨w.heap.size + 2, 0, none⟩) xD.length xD.length]) (by simp [results, Tryz.results71, go_sem, v0, v1, v2, v3, v4, v5]) rfl ?_
  refine ⟨rfl, (O1.out.upd1 U2.out (fun g e => by cases e; show ¬ (w.heap.size + 2 = w.heap.size); omega)).upd1 U3.out (fun g e => by cases e; show ¬ (w.heap.size + 2 = w.heap.size + 1); omega), (B2.out.trans (U2.out.below (by omega) (fun k e => by subst e; exact Nat.le_refl _))).trans (U3.out.below (by omega) (fun k e => by subst e; omega))⟩
/-- One more is told: its log in a block of its own, the row's block changed. -/
theorem Bl.Tolds.snoc {B g : Nat} {w w2 w3 : World} {L R : List Bl} {j : Nat} {x : Bl} {q : Nat} (h : Bl.Tolds B w (L.take j) R) (hj : L[j]? = some x) (hB : B ≤ q) (hb : Below w.heap.size w w2) (hd : x.s.D.length * 48 ≤ 281474976710656) (ho : OwnY yE q w2 (.slice (some ⟨q, 0, none⟩) x.s.D.length x.s.D.length) x.s.D) (u : Upd (· = g) w2 w3) (hr : ∃ cs f, w2.heap[g]? = some (.cells cs yBlA.T f)) : Bl.Tolds B w3 (L.take (j + 1)) (R ++ [x.re q]) := by
  have hjl := (List.getElem?_eq_some_iff.1 hj).1
  have keep : ∀ {B' g' n c : Nat} {l : List En}, OwnY yE B' w2 (.slice (some ⟨g', 0, none⟩) n c) l → OwnY yE B' w3 (.slice (some ⟨g', 0, none⟩) n c) l := fun {B' g' n c l} ho' => ho'.upd1 u (fun k e hk => by
    subst hk
    obtain ⟨c1, f1, e1⟩ := ho'.kind e
    obtain ⟨c2, f2, e2⟩ := hr
    rw [e1] at e2
    injection e2 with e2
    injection e2 with _ e3
    exact hTEBl e3)
  have ht : (L.take j).length = j := by rw [List.length_take]; omega
  refine ⟨by rw [List.length_append, h.1, ht, List.length_take, List.length_singleton]; omega, fun i y z hy hz => ?_⟩
  rw [List.take_add_one, hj] at hy
  by_cases hi : i < j
  · rw [List.getElem?_append_left (by omega)] at hy
    rw [List.getElem?_append_left (by rw [h.1]; omega)] at hz
    obtain ⟨h0, g', e, o⟩ := h.2 i y z hy hz
    exact ⟨h0, g', e, keep (o.grow hb)⟩
  · rw [List.getElem?_append_right (by omega)] at hy
    rw [List.getElem?_append_right (by rw [h.1]; omega)] at hz
    rw [ht] at hy
    rw [h.1, ht] at hz
    have hi0 : i - j = 0 := by
      have := (List.getElem?_eq_some_iff.1 hz).1
      simp at this
      omega
    rw [hi0] at hy hz
    simp at hy hz
    subst hy hz
    exact ⟨hd, q, rfl, (keep ho).low hB⟩
set_option maxRecDepth 100000 in
set_option maxHeartbeats 1000000 in
/-- tell: votes as callers have them, each with a log of its own. -/
theorem Bl.tell_any (L : List Bl) (a : Option Addr) (n c : Nat) (w : World) (h : SlY yBlV w a n c L) (hb : n * 64 ≤ 281474976710656) (hlogs : ∀ x ∈ L, x.In w) :
    Calls Tryz.prog 69 #[.slice a n c, .func (.func 71) #[] #[]] w fun e w' => e = .returned (.slice (some ⟨w.heap.size, 0, none⟩) n n) ∧ (∃ R, OwnY yBlA w.heap.size w' (.slice (some ⟨w.heap.size, 0, none⟩) n n) R ∧ Bl.Tolds w.heap.size w' L R) ∧ Below w.heap.size w w' := by
  have hmx := h.max
  have hcp := h.cap
  have hln := h.len
  unfold maxLen at hmx
  have H := hide h
  have HN := hide hln
  have HX := hide hlogs
  clear h hln hlogs
  go_enter Tryz.func69, Tryz.ntmps69
  go_wp2_with (at_make; go_must (refine makeYs kBlA _ rfl (.tmp 9) rfl n rfl (by unfold maxLen; omega) hb ?zk))
  intro w1 o1 b1
  have HO : Hid (∃ R, OwnY yBlA w.heap.size w1 (.slice (some ⟨w.heap.size, 0, none⟩) n n) (R ++ List.replicate (n - 0) yBlA.z) ∧ Bl.Tolds w.heap.size w1 (L.take 0) R) := ⟨[], by simpa using o1, rfl, fun i x y hx hy => by simp at hy⟩
  clear o1
  go_wp2
  go_loopw [13] (fun i wr => ∃ j : Nat, i = .int .i64 (j : Int) ∧ j ≤ n ∧ Hid (∃ R, OwnY yBlA w.heap.size wr (.slice (some ⟨w.heap.size, 0, none⟩) n n) (R ++ List.replicate (n - j) yBlA.z) ∧ Bl.Tolds w.heap.size wr (L.take j) R) ∧ Below w.heap.size w wr) (fun i _ => n - (intOf i).toNat)
  case atStart => exact ⟨0, rfl, Nat.zero_le _, HO, b1⟩
  case round =>
    obtain ⟨j, rfl, hj, hO, hbl⟩ := hrel
    have hsz := hbl.size
    obtain ⟨R, oR, tR⟩ := hO.out
    clear hO
    by_cases hlt : j < n
    · have hjl : j < L.length := by rw [HN.out]; exact hlt
      have hg : L[j]? = some L[j] := List.getElem?_eq_getElem hjl
      obtain ⟨q, o, rfl, hq, y0, y1, y2, y3, y4, y5⟩ := (H.out.later hbl).BlV hg
      have hlt0 : w.heap.size < wr.heap.size := by
        obtain ⟨_, _, ee, _, _, _, h4⟩ := oR.form
        injection ee with ee
        obtain ⟨g', e2, _, h5⟩ := h4 _ ee.symm
        cases e2
        exact h5
      have hRl : R.length = j := by rw [tR.1, List.length_take]; omega
      have hset : Hid (∀ y, (R ++ List.replicate (n - j) yBlA.z).set j y = (R ++ [y]) ++ List.replicate (n - (j + 1)) yBlA.z) := fun y => by
        rw [List.set_append_right _ _ (by omega), hRl, Nat.sub_self, show n - j = (n - (j + 1)) + 1 by omega, List.replicate_succ, List.set_cons_zero, List.append_assoc, List.singleton_append]
      have hget : Hid ((R ++ List.replicate (n - j) yBlA.z)[j]? = some yBlA.z) := by
        show _ = _
        rw [List.getElem?_append_right (by omega), hRl, Nat.sub_self, show n - j = (n - (j + 1)) + 1 by omega, List.replicate_succ]
        rfl
      have HIN := (HX.out _ (List.getElem_mem hjl)).later hbl
      have HG := hide hg
      clear hg hRl
      generalize L[j] = x at *
      generalize hX : R ++ List.replicate (n - j) yBlA.z = XX at *
      clear hX
      have wz : Hid ((wr.alloc (.cells #[.int .i64 x.n, .int .u64 x.h, .int .u64 x.l, .int .i64 x.v, .int .i64 x.c, .slice x.s.a x.s.D.length x.s.c] 116)).heap.size = wr.heap.size + 1) := by show _ = _; simp
      have bw : Below wr.heap.size wr (wr.alloc (.cells #[.int .i64 x.n, .int .u64 x.h, .int .u64 x.l, .int .i64 x.v, .int .i64 x.c, .slice x.s.a x.s.D.length x.s.c] 116)) := (Below.refl _ wr).alloc (Nat.le_refl _) _
      have bA := hide (hbl.trans (bw.mono hsz))
      have BW := hide bw
      have OA := hide (oR.alloc (.cells #[.int .i64 x.n, .int .u64 x.h, .int .u64 x.l, .int .i64 x.v, .int .i64 x.c, .slice x.s.a x.s.D.length x.s.c] 116))
      have ca := x.told_any _ (HIN.later bw)
      rw [wz.out] at ca
      have CA := hide ca
      have HD := hide HIN.2
      have TR := hide tR
      clear ca oR tR HIN bw
      go_wp2_with fail
      refine CA.out.mono ?_
      rintro e w2 ⟨rfl, o2, b2⟩
      have OE := hide o2
      have b2' := b2
      rw [← wz.out] at b2'
      have O2 := hide (OA.out.grow b2')
      have hk2 := hide (O2.out.kind (g := w.heap.size) rfl)
      have z2 := b2.size
      rw [wz.out] at z2
      have bw2 := hide (BW.out.trans (b2.mono (by omega)))
      clear o2 b2'
      dsimp only
      go_wp2_with (first
        | (refine storeY kBlA _ rfl 53 (.tmp 23) (.tmp 22) rfl w.heap.size w.heap.size n n XX j 0 yBlA.z (x.re (wr.heap.size + 1 + 2)) _ rfl rfl hget.out (by kernel_rfl) (by exact (by decide : 6 ≤ 6)) rfl O2.out ?_; intro w3 o3 u3 z3; have O3 := hide o3; have U3 := hide u3; clear o3 u3)
        | go_in)
      go_round
      case rel =>
        refine ⟨j + 1, by go_num, by omega, ⟨R ++ [x.re (wr.heap.size + 1 + 2)], by rw [← hset.out]; exact O3.out, TR.out.snoc HG.out (by omega) bw2.out HD.out OE.out U3.out hk2.out⟩, hbl.trans ((bw2.out.mono hsz).trans (U3.out.below (by omega) (fun k e => by subst e; exact Nat.le_refl _)))⟩
      case measure => simp [intOf]; omega
    · obtain rfl : j = n := by omega
      have O9 : Hid (∃ R, OwnY yBlA w.heap.size wr (.slice (some ⟨w.heap.size, 0, none⟩) j j) R ∧ Bl.Tolds w.heap.size wr L R) := by
        refine ⟨R, ?_, ?_⟩
        · rw [Nat.sub_self, List.replicate_zero, List.append_nil] at oR
          exact oR
        · rw [List.take_of_length_le (by rw [HN.out]; exact Nat.le_refl _)] at tR
          exact tR
      clear oR tR
      go_wp2
      go_ret
      exact ⟨rfl, O9.out, hbl⟩

end Go.Proofs.YtcmjhaljbmhpgaaGreat

namespace Go.Proofs.YtcmjhaljbmhpgaaGreat
open Go.RowKit Go.Maps
open Classical
set_option linter.unusedVariables false
set_option linter.unusedSimpArgs false

theorem Bl.put_len (L : List Bl) (x : Bl) : (Bl.put L x).length ≤ L.length + 1 := by
  unfold Bl.put
  split
  · unfold Bl.ins
    have := Bl.at_le L x
    simp only [List.length_append, List.length_take, List.length_cons, List.length_drop]
    omega
  · split
    · rw [List.length_set]; omega
    · omega
theorem Bl.mem_put (L : List Bl) (x y : Bl) (h : y ∈ Bl.put L x) : y ∈ L ∨ y = x := by
  unfold Bl.put at h
  split at h
  · unfold Bl.ins at h
    rcases List.mem_append.1 h with h | h
    · exact .inl (List.mem_of_mem_take h)
    · rcases List.mem_cons.1 h with h | h
      · exact .inr h
      · exact .inl (List.mem_of_mem_drop h)
  · split at h
    · exact List.mem_or_eq_of_mem_set h
    · exact .inl h
set_option maxRecDepth 100000 in
set_option maxHeartbeats 1000000 in
theorem Bl.Put_any (L : List Bl) (x : Bl) (a : Option Addr) (n c : Nat) (w : World) (h : SlY yBlA w a n c L) (hlogs : ∀ y ∈ L, y.In w) (hx : x.In w) (hm : (n + 1) * 64 ≤ 140737488355328) :
    Calls Tryz.prog 25 #[.slice a n c, x.val] w fun e w' => ∃ v R, e = .returned v ∧ OwnY yBlA w.heap.size w' v R ∧ Bl.Tolds w.heap.size w' (Bl.put L x) R ∧ Below w.heap.size w w' := by
  have hln := h.len
  have b1 : Below w.heap.size w (w.alloc (.cells #[.int .i64 x.n, .int .u64 x.h, .int .u64 x.l, .int .i64 x.v, .int .i64 x.c, .slice x.s.a x.s.D.length x.s.c] 53)) := (Below.refl _ w).alloc (Nat.le_refl _) _
  have ch : Hid (∀ W, Below w.heap.size w W → W.heap.size = w.heap.size + 1 → Calls Tryz.prog 66 #[.slice a n c, .func (.func 67) #[] #[]] W fun e w' => e = .returned (.slice (some ⟨w.heap.size + 1, 0, none⟩) n n) ∧ OwnY yBlV (w.heap.size + 1) w' (.slice (some ⟨w.heap.size + 1, 0, none⟩) n n) L ∧ Below (w.heap.size + 1) W w') := fun W hW hz => by
    have := Bl.hold_any L a n c W (h.later hW) (by omega)
    rw [hz] at this
    exact this
  have HB1 := hide b1
  have KB : Hid (∀ v, Below (w.heap.size + 1) (w.alloc (.cells #[.int .i64 x.n, .int .u64 x.h, .int .u64 x.l, .int .i64 x.v, .int .i64 x.c, .slice x.s.a x.s.D.length x.s.c] 53)) v → (v.cell? ⟨w.heap.size, 0, none⟩ = some (.int .i64 x.n) ∧ v.cell? ⟨w.heap.size, 1, none⟩ = some (.int .u64 x.h) ∧ v.cell? ⟨w.heap.size, 2, none⟩ = some (.int .u64 x.l) ∧ v.cell? ⟨w.heap.size, 3, none⟩ = some (.int .i64 x.v) ∧ v.cell? ⟨w.heap.size, 4, none⟩ = some (.int .i64 x.c) ∧ v.cell? ⟨w.heap.size, 5, none⟩ = some (.slice x.s.a x.s.D.length x.s.c))) := fun v hv =>
    ⟨(hv.cell (p := ⟨w.heap.size, 0, none⟩) (by simp)).trans (by simp), (hv.cell (p := ⟨w.heap.size, 1, none⟩) (by simp)).trans (by simp), (hv.cell (p := ⟨w.heap.size, 2, none⟩) (by simp)).trans (by simp), (hv.cell (p := ⟨w.heap.size, 3, none⟩) (by simp)).trans (by simp), (hv.cell (p := ⟨w.heap.size, 4, none⟩) (by simp)).trans (by simp), (hv.cell (p := ⟨w.heap.size, 5, none⟩) (by simp)).trans (by simp)⟩
  have KZ : Hid (∀ v, Below (w.heap.size + 1) (w.alloc (.cells #[.int .i64 x.n, .int .u64 x.h, .int .u64 x.l, .int .i64 x.v, .int .i64 x.c, .slice x.s.a x.s.D.length x.s.c] 53)) v → w.heap.size + 1 ≤ v.heap.size) := fun v hv => by have := hv.size; simpa using this
  have HN := hide hln
  have HI : Hid (∀ W, Below w.heap.size w W → ∀ y ∈ Bl.put L x, y.In W) := fun W hW y hy => by
    rcases Bl.mem_put L x y hy with h | rfl
    · exact (hlogs y h).later hW
    · exact hx.later hW
  clear hlogs hx
  have HL : Hid ((Bl.put L x).length * 64 ≤ 281474976710656) := by
    show _ ≤ _
    have h1 := Bl.put_len L x
    rw [hln] at h1
    have h2 := Nat.mul_le_mul_right 64 h1
    omega
  clear h b1 hln
  show Calls Tryz.prog 25 #[.slice a n c, .agg #[.int .i64 x.n, .int .u64 x.h, .int .u64 x.l, .int .i64 x.v, .int .i64 x.c, .slice x.s.a x.s.D.length x.s.c]] w _
  go_enter Tryz.func25, Tryz.ntmps25
  go_wp2_with fail
  have s0 := KB.out _ (Below.refl (w.heap.size + 1) (w.alloc (.cells #[.int .i64 x.n, .int .u64 x.h, .int .u64 x.l, .int .i64 x.v, .int .i64 x.c, .slice x.s.a x.s.D.length x.s.c] 53))).drew
  go_region_held3 (fun v => v.cell? ⟨w.heap.size, 0, none⟩ = some (.int .i64 x.n) ∧ v.cell? ⟨w.heap.size, 1, none⟩ = some (.int .u64 x.h) ∧ v.cell? ⟨w.heap.size, 2, none⟩ = some (.int .u64 x.l) ∧ v.cell? ⟨w.heap.size, 3, none⟩ = some (.int .i64 x.v) ∧ v.cell? ⟨w.heap.size, 4, none⟩ = some (.int .i64 x.c) ∧ v.cell? ⟨w.heap.size, 5, none⟩ = some (.slice x.s.a x.s.D.length x.s.c)) (with_reducible assumption) (first
    | (go_at_call 66; refine (ch.out _ HB1.out.drew (by simp)).mono ?_; rintro e w2 ⟨rfl, o2, b2⟩; have O2 := hide o2; have D2 := hide ((Below.refl (w.heap.size + 1) (w.alloc (.cells #[.int .i64 x.n, .int .u64 x.h, .int .u64 x.l, .int .i64 x.v, .int .i64 x.c, .slice x.s.a x.s.D.length x.s.c] 53))).drew.trans b2); have Z2 := KZ.out _ D2.out; have s2 := KB.out w2 D2.out; clear o2 b2)
    | (go_at_call 67; refine (x.as_any w2).mono ?_; rintro e w3 ⟨rfl, b3⟩; have O3 := hide (O2.out.grow b3); have D3 := hide (D2.out.trans (b3.mono Z2)); have Z3 := KZ.out _ D3.out; have s3 := KB.out w3 D3.out; clear b3)
    | (go_at_call 70; refine (Bl.put_any L x n (w.heap.size + 1) (w.heap.size + 1) w3 HN.out O3.out Z3 hm).mono ?_; rintro e w4 ⟨v4, rfl, o4, b4⟩; obtain ⟨a4, c4, rfl, s4, _⟩ := o4.sl kBlV; have S4 := hide s4; have D4 := hide (D3.out.trans b4); have Z4 := KZ.out _ D4.out; have s4 := KB.out w4 D4.out; clear o4 b4)
    | (go_at_call 69; refine (Bl.tell_any (Bl.put L x) a4 _ c4 w4 S4.out HL.out (HI.out w4 (HB1.out.trans (D4.out.mono (Nat.le_succ _))))).mono ?_; rintro e w5 ⟨rfl, ⟨R5, o5, t5⟩, b5⟩; have D5 := hide (D4.out.trans (b5.mono Z4)); have O5 := hide (o5.low (B' := w.heap.size) (by omega)); have T5 := hide (t5.low (B' := w.heap.size) (by omega)); clear t5; have s5 := KB.out w5 D5.out; clear o5 b5))
  go_wp2
  go_ret
  exact ⟨_, R5, rfl, O5.out, T5.out, HB1.out.trans (D5.out.mono (by omega))⟩

end Go.Proofs.YtcmjhaljbmhpgaaGreat
