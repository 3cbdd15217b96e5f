import Derived.Test.YtjnnglapefhegaaGreatSa
namespace Go.Proofs.YtjnnglapefhegaaGreat
open Go.RowKit Go.Maps
set_option linter.unusedVariables false
set_option linter.unusedSimpArgs false

/-- A vote: mark. -/
structure Mk where
  n : Int
  h : Int
  l : Int
deriving instance DecidableEq for Mk

def Mk.cs (x : Mk) : List Value := [.int .i64 x.n, .int .u64 x.h, .int .u64 x.l]
def Mk.val (x : Mk) : Value := .agg #[.int .i64 x.n, .int .u64 x.h, .int .u64 x.l]
def yMkA : Lay Mk := ⟨82, 72, 3, 24, Mk.cs, ⟨0, 0, 0⟩⟩
def yMkV : Lay Mk := ⟨108, 110, 3, 24, Mk.cs, ⟨0, 0, 0⟩⟩
theorem kMkA : yMkA.Ok := ⟨by decide, fun x => rfl, fun x u h => by
    simp [yMkA, Mk.cs] at h
    rcases h with rfl | rfl | rfl <;> rfl, Tryz.underlying72, ⟨.agg #[.int .i64 (⟨0, 0, 0⟩ : Mk).n, .int .u64 (⟨0, 0, 0⟩ : Mk).h, .int .u64 (⟨0, 0, 0⟩ : Mk).l], by kernel_rfl, rfl⟩⟩
theorem kMkV : yMkV.Ok := ⟨by decide, fun x => rfl, fun x u h => by
    simp [yMkV, Mk.cs] at h
    rcases h with rfl | rfl | rfl <;> rfl, Tryz.underlying110, ⟨.agg #[.int .i64 (⟨0, 0, 0⟩ : Mk).n, .int .u64 (⟨0, 0, 0⟩ : Mk).h, .int .u64 (⟨0, 0, 0⟩ : Mk).l], by kernel_rfl, rfl⟩⟩
theorem SlY.MkA {w : World} {a : Option Addr} {n c : Nat} {L : List Mk} (h : SlY yMkA w a n c L) {j : Nat} {x : Mk} (hx : L[j]? = some x) : ∃ q o, a = some ⟨q, o, none⟩ ∧ q < w.heap.size ∧ w.cell? ⟨q, o + j * 3, none⟩ = some (.int .i64 x.n) ∧ w.cell? ⟨q, o + j * 3 + 1, none⟩ = some (.int .u64 x.h) ∧ w.cell? ⟨q, o + j * 3 + 2, none⟩ = some (.int .u64 x.l) := by
  obtain ⟨q, o, ea, hq, hl⟩ := h.place (by rintro rfl; simp at hx)
  exact ⟨q, o, ea, hq, hl j x hx 0 _ rfl, hl j x hx 1 _ rfl, hl j x hx 2 _ rfl⟩
theorem SlY.MkV {w : World} {a : Option Addr} {n c : Nat} {L : List Mk} (h : SlY yMkV w a n c L) {j : Nat} {x : Mk} (hx : L[j]? = some x) : ∃ q o, a = some ⟨q, o, none⟩ ∧ q < w.heap.size ∧ w.cell? ⟨q, o + j * 3, none⟩ = some (.int .i64 x.n) ∧ w.cell? ⟨q, o + j * 3 + 1, none⟩ = some (.int .u64 x.h) ∧ w.cell? ⟨q, o + j * 3 + 2, none⟩ = some (.int .u64 x.l) := by
  obtain ⟨q, o, ea, hq, hl⟩ := h.place (by rintro rfl; simp at hx)
  exact ⟨q, o, ea, hq, hl j x hx 0 _ rfl, hl j x hx 1 _ rfl, hl j x hx 2 _ rfl⟩
theorem Mk.node_any (x : Mk) (w : World) : Calls Tryz.prog 122 #[x.val] w fun e w' => e = .returned (.int .i64 x.n) ∧ Below w.heap.size w w' := by
  show Calls Tryz.prog 122 #[.agg #[.int .i64 x.n, .int .u64 x.h, .int .u64 x.l]] w _
  go_enter Tryz.func122, Tryz.ntmps122
  go_wp2
  go_ret
  exact ⟨rfl, (Below.refl _ _).alloc (Nat.le_refl _) _⟩
theorem Mk.draw_any (x : Mk) (w : World) : Calls Tryz.prog 119 #[x.val] w fun e w' => e = .returned (.agg #[.int .u64 x.h, .int .u64 x.l]) ∧ Below w.heap.size w w' := by
  show Calls Tryz.prog 119 #[.agg #[.int .i64 x.n, .int .u64 x.h, .int .u64 x.l]] w _
  go_enter Tryz.func119, Tryz.ntmps119
  go_wp2
  refine bodyPost_ret (v := .agg #[.int .u64 x.h, .int .u64 x.l]) (by simp [results, Tryz.results119, go_sem]) rfl ?_
  exact ⟨rfl, by (repeat (first | exact Below.refl _ _ | assumption | refine Below.drew ?_ | refine Below.alloc ?_ (by first | (simp; done) | (simp; omega) | omega) _ | refine Below.setCell ?_ (by first | (simp; done) | (simp; omega) | omega) _))⟩
theorem Mk.as_any (x : Mk) (w : World) : Calls Tryz.prog 57 #[x.val] w fun e w' => e = .returned x.val ∧ Below w.heap.size w w' := by
  show Calls Tryz.prog 57 #[.agg #[.int .i64 x.n, .int .u64 x.h, .int .u64 x.l]] w _
  go_enter Tryz.func57, Tryz.ntmps57
  go_wp2
  refine bodyPost_ret (v := x.val) (by simp [results, Tryz.results57, go_sem, Mk.val]) rfl ?_
  exact ⟨rfl, by (repeat (first | exact Below.refl _ _ | assumption | refine Below.drew ?_ | refine Below.alloc ?_ (by first | (simp; done) | (simp; omega) | omega) _ | refine Below.setCell ?_ (by first | (simp; done) | (simp; omega) | omega) _))⟩
theorem Mk.ifnode (x : Mk) (w : World) : (invoke (.fn (.method "amnesia/tally.node") #[]) #[.iface 108 x.val]).run Tryz.prog w = .ok (.enter 122 #[x.val]) w := by kernel_rfl
set_option maxRecDepth 100000 in
set_option maxHeartbeats 400000 in
theorem Mk.isNode (x y : Mk) (b : Nat) (w : World) (hb : b < w.heap.size) (hc : w.cell? ⟨b, 0, none⟩ = some (.int .i64 y.n) ∧ w.cell? ⟨b, 1, none⟩ = some (.int .u64 y.h) ∧ w.cell? ⟨b, 2, none⟩ = some (.int .u64 y.l)) : Calls Tryz.prog 77 #[x.val, .pointer (some ⟨b, 0, none⟩)] w fun e w' => e = .returned (.bool (decide (x.n = y.n))) ∧ Below w.heap.size w w' := by
  obtain ⟨y0, y1, y2⟩ := hc
  show Calls Tryz.prog 77 #[.agg #[.int .i64 x.n, .int .u64 x.h, .int .u64 x.l], .pointer (some ⟨b, 0, none⟩)] w _
  go_enter Tryz.func77, Tryz.ntmps77
  go_wp2_with fail
  have hbW : b ≠ w.heap.size := by omega
  have KH : Hid (∀ v, Below (w.heap.size + 1) (w.alloc (.cells #[.int .i64 x.n, .int .u64 x.h, .int .u64 x.l] 108)) v → (v.cell? ⟨w.heap.size, 0, none⟩ = some (.int .i64 x.n) ∧ v.cell? ⟨w.heap.size, 1, none⟩ = some (.int .u64 x.h) ∧ v.cell? ⟨w.heap.size, 2, none⟩ = some (.int .u64 x.l)) ∧ (v.cell? ⟨b, 0, none⟩ = some (.int .i64 y.n) ∧ v.cell? ⟨b, 1, none⟩ = some (.int .u64 y.h) ∧ v.cell? ⟨b, 2, none⟩ = some (.int .u64 y.l))) := fun v hv =>
    ⟨⟨(hv.cell (p := ⟨w.heap.size, 0, none⟩) (by simp)).trans (by simp), (hv.cell (p := ⟨w.heap.size, 1, none⟩) (by simp)).trans (by simp), (hv.cell (p := ⟨w.heap.size, 2, none⟩) (by simp)).trans (by simp)⟩, ⟨(hv.cell (p := ⟨b, 0, none⟩) (by simp; omega)).trans ((World.cell?_alloc_old w _ ⟨b, 0, none⟩ hbW).trans y0), (hv.cell (p := ⟨b, 1, none⟩) (by simp; omega)).trans ((World.cell?_alloc_old w _ ⟨b, 1, none⟩ hbW).trans y1), (hv.cell (p := ⟨b, 2, none⟩) (by simp; omega)).trans ((World.cell?_alloc_old w _ ⟨b, 2, none⟩ hbW).trans y2)⟩⟩
  refine region_q9 (C := fun v => Below (w.heap.size + 1) (w.alloc (.cells #[.int .i64 x.n, .int .u64 x.h, .int .u64 x.l] 108)) v) (by kernel_rfl) (by kernel_rfl) (Below.refl _ _).drew ?_
  refine wqv (u := x.val) (by kernel_rfl) (fun v hv => by obtain ⟨⟨y0, y1, y2⟩, _⟩ := KH.out v hv; go_simp; rfl) ?_
  simp only [Act.put, List.setIfInBounds_toArray, List.set_cons_zero, List.set_cons_succ]
  refine wqv (u := .iface 108 x.val) (by kernel_rfl) (fun v hv => by kernel_rfl) ?_
  simp only [Act.put, List.setIfInBounds_toArray, List.set_cons_zero, List.set_cons_succ]
  refine wqi (fid := 122) (args := #[x.val]) (AS := #[]) (V := .iface 108 x.val) (u := .int .i64 x.n) (by kernel_rfl) _ _ rfl (by kernel_rfl) (by kernel_rfl) (fun v => x.ifnode v) (fun v hv => (x.node_any v).mono fun e w' h => ⟨h.1, hv.trans (h.2.mono (by have := hv.size; rwa [World.size_alloc] at this))⟩) ?_
  simp only [Act.put, List.setIfInBounds_toArray, List.set_cons_zero, List.set_cons_succ]
  refine wqv (u := y.val) (by kernel_rfl) (fun v hv => by obtain ⟨_, ⟨y0, y1, y2⟩⟩ := KH.out v hv; go_simp; rfl) ?_
  simp only [Act.put, List.setIfInBounds_toArray, List.set_cons_zero, List.set_cons_succ]
  refine wqv (u := .iface 108 y.val) (by kernel_rfl) (fun v hv => by kernel_rfl) ?_
  simp only [Act.put, List.setIfInBounds_toArray, List.set_cons_zero, List.set_cons_succ]
  refine wqi (fid := 122) (args := #[y.val]) (AS := #[]) (V := .iface 108 y.val) (u := .int .i64 y.n) (by kernel_rfl) _ _ rfl (by kernel_rfl) (by kernel_rfl) (fun v => y.ifnode v) (fun v hv => (y.node_any v).mono fun e w' h => ⟨h.1, hv.trans (h.2.mono (by have := hv.size; rwa [World.size_alloc] at this))⟩) ?_
  simp only [Act.put, List.setIfInBounds_toArray, List.set_cons_zero, List.set_cons_succ]
  refine wqv (u := .bool (decide (x.n = y.n))) (by kernel_rfl) (fun v hv => by go_simp; rfl) ?_
  simp only [Act.put, List.setIfInBounds_toArray, List.set_cons_zero, List.set_cons_succ]
  refine wqv (u := .bool (decide (x.n = y.n))) (by kernel_rfl) (fun v hv => by kernel_rfl) ?_
  simp only [Act.put, List.setIfInBounds_toArray, List.set_cons_zero, List.set_cons_succ]
  refine wpQuiet_nil ?_
  intro w' hb'
  go_wp2
  go_ret
  exact ⟨rfl, ((Below.refl _ w).alloc (Nat.le_refl _) _).trans (hb'.mono (Nat.le_succ _))⟩
set_option maxRecDepth 100000 in
set_option maxHeartbeats 400000 in
theorem Mk.isAbove (x y : Mk) (b : Nat) (w : World) (hb : b < w.heap.size) (hc : w.cell? ⟨b, 0, none⟩ = some (.int .i64 y.n) ∧ w.cell? ⟨b, 1, none⟩ = some (.int .u64 y.h) ∧ w.cell? ⟨b, 2, none⟩ = some (.int .u64 y.l)) : Calls Tryz.prog 90 #[x.val, .pointer (some ⟨b, 0, none⟩)] w fun e w' => e = .returned (.bool (decide (y.n < x.n))) ∧ Below w.heap.size w w' := by
  obtain ⟨y0, y1, y2⟩ := hc
  show Calls Tryz.prog 90 #[.agg #[.int .i64 x.n, .int .u64 x.h, .int .u64 x.l], .pointer (some ⟨b, 0, none⟩)] w _
  go_enter Tryz.func90, Tryz.ntmps90
  go_wp2_with fail
  have hbW : b ≠ w.heap.size := by omega
  have KH : Hid (∀ v, Below (w.heap.size + 1) (w.alloc (.cells #[.int .i64 x.n, .int .u64 x.h, .int .u64 x.l] 108)) v → (v.cell? ⟨w.heap.size, 0, none⟩ = some (.int .i64 x.n) ∧ v.cell? ⟨w.heap.size, 1, none⟩ = some (.int .u64 x.h) ∧ v.cell? ⟨w.heap.size, 2, none⟩ = some (.int .u64 x.l)) ∧ (v.cell? ⟨b, 0, none⟩ = some (.int .i64 y.n) ∧ v.cell? ⟨b, 1, none⟩ = some (.int .u64 y.h) ∧ v.cell? ⟨b, 2, none⟩ = some (.int .u64 y.l))) := fun v hv =>
    ⟨⟨(hv.cell (p := ⟨w.heap.size, 0, none⟩) (by simp)).trans (by simp), (hv.cell (p := ⟨w.heap.size, 1, none⟩) (by simp)).trans (by simp), (hv.cell (p := ⟨w.heap.size, 2, none⟩) (by simp)).trans (by simp)⟩, ⟨(hv.cell (p := ⟨b, 0, none⟩) (by simp; omega)).trans ((World.cell?_alloc_old w _ ⟨b, 0, none⟩ hbW).trans y0), (hv.cell (p := ⟨b, 1, none⟩) (by simp; omega)).trans ((World.cell?_alloc_old w _ ⟨b, 1, none⟩ hbW).trans y1), (hv.cell (p := ⟨b, 2, none⟩) (by simp; omega)).trans ((World.cell?_alloc_old w _ ⟨b, 2, none⟩ hbW).trans y2)⟩⟩
  refine region_q9 (C := fun v => Below (w.heap.size + 1) (w.alloc (.cells #[.int .i64 x.n, .int .u64 x.h, .int .u64 x.l] 108)) v) (by kernel_rfl) (by kernel_rfl) (Below.refl _ _).drew ?_
  refine wqv (u := x.val) (by kernel_rfl) (fun v hv => by obtain ⟨⟨y0, y1, y2⟩, _⟩ := KH.out v hv; go_simp; rfl) ?_
  simp only [Act.put, List.setIfInBounds_toArray, List.set_cons_zero, List.set_cons_succ]
  refine wqv (u := .iface 108 x.val) (by kernel_rfl) (fun v hv => by kernel_rfl) ?_
  simp only [Act.put, List.setIfInBounds_toArray, List.set_cons_zero, List.set_cons_succ]
  refine wqi (fid := 122) (args := #[x.val]) (AS := #[]) (V := .iface 108 x.val) (u := .int .i64 x.n) (by kernel_rfl) _ _ rfl (by kernel_rfl) (by kernel_rfl) (fun v => x.ifnode v) (fun v hv => (x.node_any v).mono fun e w' h => ⟨h.1, hv.trans (h.2.mono (by have := hv.size; rwa [World.size_alloc] at this))⟩) ?_
  simp only [Act.put, List.setIfInBounds_toArray, List.set_cons_zero, List.set_cons_succ]
  refine wqv (u := y.val) (by kernel_rfl) (fun v hv => by obtain ⟨_, ⟨y0, y1, y2⟩⟩ := KH.out v hv; go_simp; rfl) ?_
  simp only [Act.put, List.setIfInBounds_toArray, List.set_cons_zero, List.set_cons_succ]
  refine wqv (u := .iface 108 y.val) (by kernel_rfl) (fun v hv => by kernel_rfl) ?_
  simp only [Act.put, List.setIfInBounds_toArray, List.set_cons_zero, List.set_cons_succ]
  refine wqi (fid := 122) (args := #[y.val]) (AS := #[]) (V := .iface 108 y.val) (u := .int .i64 y.n) (by kernel_rfl) _ _ rfl (by kernel_rfl) (by kernel_rfl) (fun v => y.ifnode v) (fun v hv => (y.node_any v).mono fun e w' h => ⟨h.1, hv.trans (h.2.mono (by have := hv.size; rwa [World.size_alloc] at this))⟩) ?_
  simp only [Act.put, List.setIfInBounds_toArray, List.set_cons_zero, List.set_cons_succ]
  refine wqv (u := .bool (decide (y.n < x.n))) (by kernel_rfl) (fun v hv => by go_simp) ?_
  simp only [Act.put, List.setIfInBounds_toArray, List.set_cons_zero, List.set_cons_succ]
  refine wqv (u := .bool (decide (y.n < x.n))) (by kernel_rfl) (fun v hv => by kernel_rfl) ?_
  simp only [Act.put, List.setIfInBounds_toArray, List.set_cons_zero, List.set_cons_succ]
  refine wpQuiet_nil ?_
  intro w' hb'
  go_wp2
  go_ret
  exact ⟨rfl, ((Below.refl _ w).alloc (Nat.le_refl _) _).trans (hb'.mono (Nat.le_succ _))⟩

end Go.Proofs.YtjnnglapefhegaaGreat
