import Derived.Test.YtfoegkbbokcplaaSa
namespace Go.Proofs.Ytfoegkbbokcplaa
open Go.RowKit Go.Maps
set_option linter.unusedVariables false
set_option linter.unusedSimpArgs false

/-- A vote: ballot. -/
structure Bl where
  n : Int
  h : Int
  l : Int
  v : Int
  c : Int
  s : SV En

def Bl.cs (x : Bl) : List Value := [.int .i64 x.n, .int .u64 x.h, .int .u64 x.l, .int .i64 x.v, .int .i64 x.c, .slice x.s.a x.s.D.length x.s.c]
def Bl.val (x : Bl) : Value := .agg #[.int .i64 x.n, .int .u64 x.h, .int .u64 x.l, .int .i64 x.v, .int .i64 x.c, .slice x.s.a x.s.D.length x.s.c]
def yBlA : Lay Bl := ⟨30, 24, 6, 64, Bl.cs, ⟨0, 0, 0, 0, 0, ⟨none, 0, []⟩⟩⟩
def yBlV : Lay Bl := ⟨40, 42, 6, 64, Bl.cs, ⟨0, 0, 0, 0, 0, ⟨none, 0, []⟩⟩⟩
theorem kBlA : yBlA.Ok := ⟨by decide, fun x => rfl, fun x u h => by
    simp [yBlA, Bl.cs] at h
    rcases h with rfl | rfl | rfl | rfl | rfl | rfl <;> rfl, Try.underlying24, ⟨.agg #[.int .i64 (⟨0, 0, 0, 0, 0, ⟨none, 0, []⟩⟩ : Bl).n, .int .u64 (⟨0, 0, 0, 0, 0, ⟨none, 0, []⟩⟩ : Bl).h, .int .u64 (⟨0, 0, 0, 0, 0, ⟨none, 0, []⟩⟩ : Bl).l, .int .i64 (⟨0, 0, 0, 0, 0, ⟨none, 0, []⟩⟩ : Bl).v, .int .i64 (⟨0, 0, 0, 0, 0, ⟨none, 0, []⟩⟩ : Bl).c, .slice (⟨0, 0, 0, 0, 0, ⟨none, 0, []⟩⟩ : Bl).s.a (⟨0, 0, 0, 0, 0, ⟨none, 0, []⟩⟩ : Bl).s.D.length (⟨0, 0, 0, 0, 0, ⟨none, 0, []⟩⟩ : Bl).s.c], by kernel_rfl, rfl⟩⟩
theorem kBlV : yBlV.Ok := ⟨by decide, fun x => rfl, fun x u h => by
    simp [yBlV, Bl.cs] at h
    rcases h with rfl | rfl | rfl | rfl | rfl | rfl <;> rfl, Try.underlying42, ⟨.agg #[.int .i64 (⟨0, 0, 0, 0, 0, ⟨none, 0, []⟩⟩ : Bl).n, .int .u64 (⟨0, 0, 0, 0, 0, ⟨none, 0, []⟩⟩ : Bl).h, .int .u64 (⟨0, 0, 0, 0, 0, ⟨none, 0, []⟩⟩ : Bl).l, .int .i64 (⟨0, 0, 0, 0, 0, ⟨none, 0, []⟩⟩ : Bl).v, .int .i64 (⟨0, 0, 0, 0, 0, ⟨none, 0, []⟩⟩ : Bl).c, .slice (⟨0, 0, 0, 0, 0, ⟨none, 0, []⟩⟩ : Bl).s.a (⟨0, 0, 0, 0, 0, ⟨none, 0, []⟩⟩ : Bl).s.D.length (⟨0, 0, 0, 0, 0, ⟨none, 0, []⟩⟩ : Bl).s.c], by kernel_rfl, rfl⟩⟩
theorem SlY.BlA {w : World} {a : Option Addr} {n c : Nat} {L : List Bl} (h : SlY yBlA w a n c L) {j : Nat} {x : Bl} (hx : L[j]? = some x) : ∃ q o, a = some ⟨q, o, none⟩ ∧ q < w.heap.size ∧ w.cell? ⟨q, o + j * 6, none⟩ = some (.int .i64 x.n) ∧ w.cell? ⟨q, o + j * 6 + 1, none⟩ = some (.int .u64 x.h) ∧ w.cell? ⟨q, o + j * 6 + 2, none⟩ = some (.int .u64 x.l) ∧ w.cell? ⟨q, o + j * 6 + 3, none⟩ = some (.int .i64 x.v) ∧ w.cell? ⟨q, o + j * 6 + 4, none⟩ = some (.int .i64 x.c) ∧ w.cell? ⟨q, o + j * 6 + 5, none⟩ = some (.slice x.s.a x.s.D.length x.s.c) := by
  obtain ⟨q, o, ea, hq, hl⟩ := h.place (by rintro rfl; simp at hx)
  exact ⟨q, o, ea, hq, hl j x hx 0 _ rfl, hl j x hx 1 _ rfl, hl j x hx 2 _ rfl, hl j x hx 3 _ rfl, hl j x hx 4 _ rfl, hl j x hx 5 _ rfl⟩
theorem SlY.BlV {w : World} {a : Option Addr} {n c : Nat} {L : List Bl} (h : SlY yBlV w a n c L) {j : Nat} {x : Bl} (hx : L[j]? = some x) : ∃ q o, a = some ⟨q, o, none⟩ ∧ q < w.heap.size ∧ w.cell? ⟨q, o + j * 6, none⟩ = some (.int .i64 x.n) ∧ w.cell? ⟨q, o + j * 6 + 1, none⟩ = some (.int .u64 x.h) ∧ w.cell? ⟨q, o + j * 6 + 2, none⟩ = some (.int .u64 x.l) ∧ w.cell? ⟨q, o + j * 6 + 3, none⟩ = some (.int .i64 x.v) ∧ w.cell? ⟨q, o + j * 6 + 4, none⟩ = some (.int .i64 x.c) ∧ w.cell? ⟨q, o + j * 6 + 5, none⟩ = some (.slice x.s.a x.s.D.length x.s.c) := by
  obtain ⟨q, o, ea, hq, hl⟩ := h.place (by rintro rfl; simp at hx)
  exact ⟨q, o, ea, hq, hl j x hx 0 _ rfl, hl j x hx 1 _ rfl, hl j x hx 2 _ rfl, hl j x hx 3 _ rfl, hl j x hx 4 _ rfl, hl j x hx 5 _ rfl⟩
theorem Bl.node_any (x : Bl) (w : World) : Calls Try.prog 72 #[x.val] w fun e w' => e = .returned (.int .i64 x.n) ∧ Below w.heap.size w w' := by
  show Calls Try.prog 72 #[.agg #[.int .i64 x.n, .int .u64 x.h, .int .u64 x.l, .int .i64 x.v, .int .i64 x.c, .slice x.s.a x.s.D.length x.s.c]] w _
  go_enter Try.func72, Try.ntmps72
  go_wp2
  go_ret
  exact ⟨rfl, (Below.refl _ _).alloc (Nat.le_refl _) _⟩
theorem Bl.draw_any (x : Bl) (w : World) : Calls Try.prog 69 #[x.val] w fun e w' => e = .returned (.agg #[.int .u64 x.h, .int .u64 x.l]) ∧ Below w.heap.size w w' := by
  show Calls Try.prog 69 #[.agg #[.int .i64 x.n, .int .u64 x.h, .int .u64 x.l, .int .i64 x.v, .int .i64 x.c, .slice x.s.a x.s.D.length x.s.c]] w _
  go_enter Try.func69, Try.ntmps69
  go_wp2
  refine bodyPost_ret (v := .agg #[.int .u64 x.h, .int .u64 x.l]) (by simp [results, Try.results69, go_sem]) rfl ?_
  exact ⟨rfl, by (repeat (first | exact Below.refl _ _ | assumption | refine Below.drew ?_ | refine Below.alloc ?_ (by first | (simp; done) | (simp; omega) | omega) _ | refine Below.setCell ?_ (by first | (simp; done) | (simp; omega) | omega) _))⟩
theorem Bl.as_any (x : Bl) (w : World) : Calls Try.prog 10 #[x.val] w fun e w' => e = .returned x.val ∧ Below w.heap.size w w' := by
  show Calls Try.prog 10 #[.agg #[.int .i64 x.n, .int .u64 x.h, .int .u64 x.l, .int .i64 x.v, .int .i64 x.c, .slice x.s.a x.s.D.length x.s.c]] w _
  go_enter Try.func10, Try.ntmps10
  go_wp2
  refine bodyPost_ret (v := x.val) (by simp [results, Try.results10, go_sem, Bl.val]) rfl ?_
  exact ⟨rfl, by (repeat (first | exact Below.refl _ _ | assumption | refine Below.drew ?_ | refine Below.alloc ?_ (by first | (simp; done) | (simp; omega) | omega) _ | refine Below.setCell ?_ (by first | (simp; done) | (simp; omega) | omega) _))⟩
theorem Bl.ifnode (x : Bl) (w : World) : (invoke (.fn (.method "amnesia/tally.node") #[]) #[.iface 40 x.val]).run Try.prog w = .ok (.enter 72 #[x.val]) w := by kernel_rfl
set_option maxRecDepth 100000 in
set_option maxHeartbeats 400000 in
theorem Bl.isNode (x y : Bl) (b : Nat) (w : World) (hb : b < w.heap.size) (hc : w.cell? ⟨b, 0, none⟩ = some (.int .i64 y.n) ∧ w.cell? ⟨b, 1, none⟩ = some (.int .u64 y.h) ∧ w.cell? ⟨b, 2, none⟩ = some (.int .u64 y.l) ∧ w.cell? ⟨b, 3, none⟩ = some (.int .i64 y.v) ∧ w.cell? ⟨b, 4, none⟩ = some (.int .i64 y.c) ∧ w.cell? ⟨b, 5, none⟩ = some (.slice y.s.a y.s.D.length y.s.c)) : Calls Try.prog 28 #[x.val, .pointer (some ⟨b, 0, none⟩)] w fun e w' => e = .returned (.bool (decide (x.n = y.n))) ∧ Below w.heap.size w w' := by
  obtain ⟨y0, y1, y2, y3, y4, y5⟩ := hc
  show Calls Try.prog 28 #[.agg #[.int .i64 x.n, .int .u64 x.h, .int .u64 x.l, .int .i64 x.v, .int .i64 x.c, .slice x.s.a x.s.D.length x.s.c], .pointer (some ⟨b, 0, none⟩)] w _
  go_enter Try.func28, Try.ntmps28
  go_wp2_with fail
  have hbW : b ≠ w.heap.size := by omega
  have KH : Hid (∀ v, Below (w.heap.size + 1) (w.alloc (.cells #[.int .i64 x.n, .int .u64 x.h, .int .u64 x.l, .int .i64 x.v, .int .i64 x.c, .slice x.s.a x.s.D.length x.s.c] 40)) v → (v.cell? ⟨w.heap.size, 0, none⟩ = some (.int .i64 x.n) ∧ v.cell? ⟨w.heap.size, 1, none⟩ = some (.int .u64 x.h) ∧ v.cell? ⟨w.heap.size, 2, none⟩ = some (.int .u64 x.l) ∧ v.cell? ⟨w.heap.size, 3, none⟩ = some (.int .i64 x.v) ∧ v.cell? ⟨w.heap.size, 4, none⟩ = some (.int .i64 x.c) ∧ v.cell? ⟨w.heap.size, 5, none⟩ = some (.slice x.s.a x.s.D.length x.s.c)) ∧ (v.cell? ⟨b, 0, none⟩ = some (.int .i64 y.n) ∧ v.cell? ⟨b, 1, none⟩ = some (.int .u64 y.h) ∧ v.cell? ⟨b, 2, none⟩ = some (.int .u64 y.l) ∧ v.cell? ⟨b, 3, none⟩ = some (.int .i64 y.v) ∧ v.cell? ⟨b, 4, none⟩ = some (.int .i64 y.c) ∧ v.cell? ⟨b, 5, none⟩ = some (.slice y.s.a y.s.D.length y.s.c))) := fun v hv =>
    ⟨⟨(hv.cell (p := ⟨w.heap.size, 0, none⟩) (by simp)).trans (by simp), (hv.cell (p := ⟨w.heap.size, 1, none⟩) (by simp)).trans (by simp), (hv.cell (p := ⟨w.heap.size, 2, none⟩) (by simp)).trans (by simp), (hv.cell (p := ⟨w.heap.size, 3, none⟩) (by simp)).trans (by simp), (hv.cell (p := ⟨w.heap.size, 4, none⟩) (by simp)).trans (by simp), (hv.cell (p := ⟨w.heap.size, 5, none⟩) (by simp)).trans (by simp)⟩, ⟨(hv.cell (p := ⟨b, 0, none⟩) (by simp; omega)).trans ((World.cell?_alloc_old w _ ⟨b, 0, none⟩ hbW).trans y0), (hv.cell (p := ⟨b, 1, none⟩) (by simp; omega)).trans ((World.cell?_alloc_old w _ ⟨b, 1, none⟩ hbW).trans y1), (hv.cell (p := ⟨b, 2, none⟩) (by simp; omega)).trans ((World.cell?_alloc_old w _ ⟨b, 2, none⟩ hbW).trans y2), (hv.cell (p := ⟨b, 3, none⟩) (by simp; omega)).trans ((World.cell?_alloc_old w _ ⟨b, 3, none⟩ hbW).trans y3), (hv.cell (p := ⟨b, 4, none⟩) (by simp; omega)).trans ((World.cell?_alloc_old w _ ⟨b, 4, none⟩ hbW).trans y4), (hv.cell (p := ⟨b, 5, none⟩) (by simp; omega)).trans ((World.cell?_alloc_old w _ ⟨b, 5, none⟩ hbW).trans y5)⟩⟩
  refine region_q9 (C := fun v => Below (w.heap.size + 1) (w.alloc (.cells #[.int .i64 x.n, .int .u64 x.h, .int .u64 x.l, .int .i64 x.v, .int .i64 x.c, .slice x.s.a x.s.D.length x.s.c] 40)) v) (by kernel_rfl) (by kernel_rfl) (Below.refl _ _).drew ?_
  refine wqv (u := x.val) (by kernel_rfl) (fun v hv => by obtain ⟨⟨y0, y1, y2, y3, y4, y5⟩, _⟩ := KH.out v hv; go_simp; rfl) ?_
  simp only [Act.put, List.setIfInBounds_toArray, List.set_cons_zero, List.set_cons_succ]
  refine wqv (u := .iface 40 x.val) (by kernel_rfl) (fun v hv => by kernel_rfl) ?_
  simp only [Act.put, List.setIfInBounds_toArray, List.set_cons_zero, List.set_cons_succ]
  refine wqi (fid := 72) (args := #[x.val]) (AS := #[]) (V := .iface 40 x.val) (u := .int .i64 x.n) (by kernel_rfl) _ _ rfl (by kernel_rfl) (by kernel_rfl) (fun v => x.ifnode v) (fun v hv => (x.node_any v).mono fun e w' h => ⟨h.1, hv.trans (h.2.mono (by have := hv.size; rwa [World.size_alloc] at this))⟩) ?_
  simp only [Act.put, List.setIfInBounds_toArray, List.set_cons_zero, List.set_cons_succ]
  refine wqv (u := y.val) (by kernel_rfl) (fun v hv => by obtain ⟨_, ⟨y0, y1, y2, y3, y4, y5⟩⟩ := KH.out v hv; go_simp; rfl) ?_
  simp only [Act.put, List.setIfInBounds_toArray, List.set_cons_zero, List.set_cons_succ]
  refine wqv (u := .iface 40 y.val) (by kernel_rfl) (fun v hv => by kernel_rfl) ?_
  simp only [Act.put, List.setIfInBounds_toArray, List.set_cons_zero, List.set_cons_succ]
  refine wqi (fid := 72) (args := #[y.val]) (AS := #[]) (V := .iface 40 y.val) (u := .int .i64 y.n) (by kernel_rfl) _ _ rfl (by kernel_rfl) (by kernel_rfl) (fun v => y.ifnode v) (fun v hv => (y.node_any v).mono fun e w' h => ⟨h.1, hv.trans (h.2.mono (by have := hv.size; rwa [World.size_alloc] at this))⟩) ?_
  simp only [Act.put, List.setIfInBounds_toArray, List.set_cons_zero, List.set_cons_succ]
  refine wqv (u := .bool (decide (x.n = y.n))) (by kernel_rfl) (fun v hv => by go_simp; rfl) ?_
  simp only [Act.put, List.setIfInBounds_toArray, List.set_cons_zero, List.set_cons_succ]
  refine wqv (u := .bool (decide (x.n = y.n))) (by kernel_rfl) (fun v hv => by kernel_rfl) ?_
  simp only [Act.put, List.setIfInBounds_toArray, List.set_cons_zero, List.set_cons_succ]
  refine wpQuiet_nil ?_
  intro w' hb'
  go_wp2
  go_ret
  exact ⟨rfl, ((Below.refl _ w).alloc (Nat.le_refl _) _).trans (hb'.mono (Nat.le_succ _))⟩
set_option maxRecDepth 100000 in
set_option maxHeartbeats 400000 in
theorem Bl.isAbove (x y : Bl) (b : Nat) (w : World) (hb : b < w.heap.size) (hc : w.cell? ⟨b, 0, none⟩ = some (.int .i64 y.n) ∧ w.cell? ⟨b, 1, none⟩ = some (.int .u64 y.h) ∧ w.cell? ⟨b, 2, none⟩ = some (.int .u64 y.l) ∧ w.cell? ⟨b, 3, none⟩ = some (.int .i64 y.v) ∧ w.cell? ⟨b, 4, none⟩ = some (.int .i64 y.c) ∧ w.cell? ⟨b, 5, none⟩ = some (.slice y.s.a y.s.D.length y.s.c)) : Calls Try.prog 39 #[x.val, .pointer (some ⟨b, 0, none⟩)] w fun e w' => e = .returned (.bool (decide (y.n < x.n))) ∧ Below w.heap.size w w' := by
  obtain ⟨y0, y1, y2, y3, y4, y5⟩ := hc
  show Calls Try.prog 39 #[.agg #[.int .i64 x.n, .int .u64 x.h, .int .u64 x.l, .int .i64 x.v, .int .i64 x.c, .slice x.s.a x.s.D.length x.s.c], .pointer (some ⟨b, 0, none⟩)] w _
  go_enter Try.func39, Try.ntmps39
  go_wp2_with fail
  have hbW : b ≠ w.heap.size := by omega
  have KH : Hid (∀ v, Below (w.heap.size + 1) (w.alloc (.cells #[.int .i64 x.n, .int .u64 x.h, .int .u64 x.l, .int .i64 x.v, .int .i64 x.c, .slice x.s.a x.s.D.length x.s.c] 40)) v → (v.cell? ⟨w.heap.size, 0, none⟩ = some (.int .i64 x.n) ∧ v.cell? ⟨w.heap.size, 1, none⟩ = some (.int .u64 x.h) ∧ v.cell? ⟨w.heap.size, 2, none⟩ = some (.int .u64 x.l) ∧ v.cell? ⟨w.heap.size, 3, none⟩ = some (.int .i64 x.v) ∧ v.cell? ⟨w.heap.size, 4, none⟩ = some (.int .i64 x.c) ∧ v.cell? ⟨w.heap.size, 5, none⟩ = some (.slice x.s.a x.s.D.length x.s.c)) ∧ (v.cell? ⟨b, 0, none⟩ = some (.int .i64 y.n) ∧ v.cell? ⟨b, 1, none⟩ = some (.int .u64 y.h) ∧ v.cell? ⟨b, 2, none⟩ = some (.int .u64 y.l) ∧ v.cell? ⟨b, 3, none⟩ = some (.int .i64 y.v) ∧ v.cell? ⟨b, 4, none⟩ = some (.int .i64 y.c) ∧ v.cell? ⟨b, 5, none⟩ = some (.slice y.s.a y.s.D.length y.s.c))) := fun v hv =>
    ⟨⟨(hv.cell (p := ⟨w.heap.size, 0, none⟩) (by simp)).trans (by simp), (hv.cell (p := ⟨w.heap.size, 1, none⟩) (by simp)).trans (by simp), (hv.cell (p := ⟨w.heap.size, 2, none⟩) (by simp)).trans (by simp), (hv.cell (p := ⟨w.heap.size, 3, none⟩) (by simp)).trans (by simp), (hv.cell (p := ⟨w.heap.size, 4, none⟩) (by simp)).trans (by simp), (hv.cell (p := ⟨w.heap.size, 5, none⟩) (by simp)).trans (by simp)⟩, ⟨(hv.cell (p := ⟨b, 0, none⟩) (by simp; omega)).trans ((World.cell?_alloc_old w _ ⟨b, 0, none⟩ hbW).trans y0), (hv.cell (p := ⟨b, 1, none⟩) (by simp; omega)).trans ((World.cell?_alloc_old w _ ⟨b, 1, none⟩ hbW).trans y1), (hv.cell (p := ⟨b, 2, none⟩) (by simp; omega)).trans ((World.cell?_alloc_old w _ ⟨b, 2, none⟩ hbW).trans y2), (hv.cell (p := ⟨b, 3, none⟩) (by simp; omega)).trans ((World.cell?_alloc_old w _ ⟨b, 3, none⟩ hbW).trans y3), (hv.cell (p := ⟨b, 4, none⟩) (by simp; omega)).trans ((World.cell?_alloc_old w _ ⟨b, 4, none⟩ hbW).trans y4), (hv.cell (p := ⟨b, 5, none⟩) (by simp; omega)).trans ((World.cell?_alloc_old w _ ⟨b, 5, none⟩ hbW).trans y5)⟩⟩
  refine region_q9 (C := fun v => Below (w.heap.size + 1) (w.alloc (.cells #[.int .i64 x.n, .int .u64 x.h, .int .u64 x.l, .int .i64 x.v, .int .i64 x.c, .slice x.s.a x.s.D.length x.s.c] 40)) v) (by kernel_rfl) (by kernel_rfl) (Below.refl _ _).drew ?_
  refine wqv (u := x.val) (by kernel_rfl) (fun v hv => by obtain ⟨⟨y0, y1, y2, y3, y4, y5⟩, _⟩ := KH.out v hv; go_simp; rfl) ?_
  simp only [Act.put, List.setIfInBounds_toArray, List.set_cons_zero, List.set_cons_succ]
  refine wqv (u := .iface 40 x.val) (by kernel_rfl) (fun v hv => by kernel_rfl) ?_
  simp only [Act.put, List.setIfInBounds_toArray, List.set_cons_zero, List.set_cons_succ]
  refine wqi (fid := 72) (args := #[x.val]) (AS := #[]) (V := .iface 40 x.val) (u := .int .i64 x.n) (by kernel_rfl) _ _ rfl (by kernel_rfl) (by kernel_rfl) (fun v => x.ifnode v) (fun v hv => (x.node_any v).mono fun e w' h => ⟨h.1, hv.trans (h.2.mono (by have := hv.size; rwa [World.size_alloc] at this))⟩) ?_
  simp only [Act.put, List.setIfInBounds_toArray, List.set_cons_zero, List.set_cons_succ]
  refine wqv (u := y.val) (by kernel_rfl) (fun v hv => by obtain ⟨_, ⟨y0, y1, y2, y3, y4, y5⟩⟩ := KH.out v hv; go_simp; rfl) ?_
  simp only [Act.put, List.setIfInBounds_toArray, List.set_cons_zero, List.set_cons_succ]
  refine wqv (u := .iface 40 y.val) (by kernel_rfl) (fun v hv => by kernel_rfl) ?_
  simp only [Act.put, List.setIfInBounds_toArray, List.set_cons_zero, List.set_cons_succ]
  refine wqi (fid := 72) (args := #[y.val]) (AS := #[]) (V := .iface 40 y.val) (u := .int .i64 y.n) (by kernel_rfl) _ _ rfl (by kernel_rfl) (by kernel_rfl) (fun v => y.ifnode v) (fun v hv => (y.node_any v).mono fun e w' h => ⟨h.1, hv.trans (h.2.mono (by have := hv.size; rwa [World.size_alloc] at this))⟩) ?_
  simp only [Act.put, List.setIfInBounds_toArray, List.set_cons_zero, List.set_cons_succ]
  refine wqv (u := .bool (decide (y.n < x.n))) (by kernel_rfl) (fun v hv => by go_simp) ?_
  simp only [Act.put, List.setIfInBounds_toArray, List.set_cons_zero, List.set_cons_succ]
  refine wqv (u := .bool (decide (y.n < x.n))) (by kernel_rfl) (fun v hv => by kernel_rfl) ?_
  simp only [Act.put, List.setIfInBounds_toArray, List.set_cons_zero, List.set_cons_succ]
  refine wpQuiet_nil ?_
  intro w' hb'
  go_wp2
  go_ret
  exact ⟨rfl, ((Below.refl _ w).alloc (Nat.le_refl _) _).trans (hb'.mono (Nat.le_succ _))⟩

end Go.Proofs.Ytfoegkbbokcplaa
