import Derived.Test.YtfoegkbbokcplaaSa
import Derived.Test.YtfoegkbbokcplaaSo
import Derived.Deep.RegionHeld3
import Derived.Test.YtfoegkbbokcplaaSc
namespace Go.Proofs.Ytfoegkbbokcplaa
open Go.RowKit Go.Maps
set_option linter.unusedVariables false
set_option linter.unusedSimpArgs false

/-- A vote: answer. -/
structure An where
  n : Int
  h : Int
  l : Int
  v : Int
  c : Int
  s : SV En

def An.cs (x : An) : List Value := [.int .i64 x.n, .int .u64 x.h, .int .u64 x.l, .int .i64 x.v, .int .i64 x.c, .slice x.s.a x.s.D.length x.s.c]
def An.val (x : An) : Value := .agg #[.int .i64 x.n, .int .u64 x.h, .int .u64 x.l, .int .i64 x.v, .int .i64 x.c, .slice x.s.a x.s.D.length x.s.c]
def yAnA : Lay An := ⟨51, 54, 6, 64, An.cs, ⟨0, 0, 0, 0, 0, ⟨none, 0, []⟩⟩⟩
theorem kAnA : yAnA.Ok := ⟨by decide, fun x => rfl, fun x u h => by
    simp [yAnA, An.cs] at h
    rcases h with rfl | rfl | rfl | rfl | rfl | rfl <;> rfl, Try.underlying54, ⟨.agg #[.int .i64 (⟨0, 0, 0, 0, 0, ⟨none, 0, []⟩⟩ : An).n, .int .u64 (⟨0, 0, 0, 0, 0, ⟨none, 0, []⟩⟩ : An).h, .int .u64 (⟨0, 0, 0, 0, 0, ⟨none, 0, []⟩⟩ : An).l, .int .i64 (⟨0, 0, 0, 0, 0, ⟨none, 0, []⟩⟩ : An).v, .int .i64 (⟨0, 0, 0, 0, 0, ⟨none, 0, []⟩⟩ : An).c, .slice (⟨0, 0, 0, 0, 0, ⟨none, 0, []⟩⟩ : An).s.a (⟨0, 0, 0, 0, 0, ⟨none, 0, []⟩⟩ : An).s.D.length (⟨0, 0, 0, 0, 0, ⟨none, 0, []⟩⟩ : An).s.c], by kernel_rfl, rfl⟩⟩
theorem SlY.AnA {w : World} {a : Option Addr} {n c : Nat} {L : List An} (h : SlY yAnA w a n c L) {j : Nat} {x : An} (hx : L[j]? = some x) : ∃ q o, a = some ⟨q, o, none⟩ ∧ q < w.heap.size ∧ w.cell? ⟨q, o + j * 6, none⟩ = some (.int .i64 x.n) ∧ w.cell? ⟨q, o + j * 6 + 1, none⟩ = some (.int .u64 x.h) ∧ w.cell? ⟨q, o + j * 6 + 2, none⟩ = some (.int .u64 x.l) ∧ w.cell? ⟨q, o + j * 6 + 3, none⟩ = some (.int .i64 x.v) ∧ w.cell? ⟨q, o + j * 6 + 4, none⟩ = some (.int .i64 x.c) ∧ w.cell? ⟨q, o + j * 6 + 5, none⟩ = some (.slice x.s.a x.s.D.length x.s.c) := by
  obtain ⟨q, o, ea, hq, hl⟩ := h.place (by rintro rfl; simp at hx)
  exact ⟨q, o, ea, hq, hl j x hx 0 _ rfl, hl j x hx 1 _ rfl, hl j x hx 2 _ rfl, hl j x hx 3 _ rfl, hl j x hx 4 _ rfl, hl j x hx 5 _ rfl⟩
theorem An.node_any (x : An) (w : World) : Calls Try.prog 94 #[x.val] w fun e w' => e = .returned (.int .i64 x.n) ∧ Below w.heap.size w w' := by
  show Calls Try.prog 94 #[.agg #[.int .i64 x.n, .int .u64 x.h, .int .u64 x.l, .int .i64 x.v, .int .i64 x.c, .slice x.s.a x.s.D.length x.s.c]] w _
  go_enter Try.func94, Try.ntmps94
  go_wp2
  go_ret
  exact ⟨rfl, (Below.refl _ _).alloc (Nat.le_refl _) _⟩
theorem An.draw_any (x : An) (w : World) : Calls Try.prog 91 #[x.val] w fun e w' => e = .returned (.agg #[.int .u64 x.h, .int .u64 x.l]) ∧ Below w.heap.size w w' := by
  show Calls Try.prog 91 #[.agg #[.int .i64 x.n, .int .u64 x.h, .int .u64 x.l, .int .i64 x.v, .int .i64 x.c, .slice x.s.a x.s.D.length x.s.c]] w _
  go_enter Try.func91, Try.ntmps91
  go_wp2
  refine bodyPost_ret (v := .agg #[.int .u64 x.h, .int .u64 x.l]) (by simp [results, Try.results91, go_sem]) rfl ?_
  exact ⟨rfl, by (repeat (first | exact Below.refl _ _ | assumption | refine Below.drew ?_ | refine Below.alloc ?_ (by first | (simp; done) | (simp; omega) | omega) _ | refine Below.setCell ?_ (by first | (simp; done) | (simp; omega) | omega) _))⟩
theorem An.as_any (x : An) (w : World) : Calls Try.prog 26 #[x.val] w fun e w' => e = .returned x.val ∧ Below w.heap.size w w' := by
  show Calls Try.prog 26 #[.agg #[.int .i64 x.n, .int .u64 x.h, .int .u64 x.l, .int .i64 x.v, .int .i64 x.c, .slice x.s.a x.s.D.length x.s.c]] w _
  go_enter Try.func26, Try.ntmps26
  go_wp2
  refine bodyPost_ret (v := x.val) (by simp [results, Try.results26, go_sem, An.val]) rfl ?_
  exact ⟨rfl, by (repeat (first | exact Below.refl _ _ | assumption | refine Below.drew ?_ | refine Below.alloc ?_ (by first | (simp; done) | (simp; omega) | omega) _ | refine Below.setCell ?_ (by first | (simp; done) | (simp; omega) | omega) _))⟩
theorem An.ifnode (x : An) (w : World) : (invoke (.fn (.method "amnesia/tally.node") #[]) #[.iface 72 x.val]).run Try.prog w = .ok (.enter 94 #[x.val]) w := by kernel_rfl
end Go.Proofs.Ytfoegkbbokcplaa

namespace Go.Proofs.Ytfoegkbbokcplaa
open Go.RowKit Go.Maps
set_option linter.unusedVariables false
set_option linter.unusedSimpArgs false

end Go.Proofs.Ytfoegkbbokcplaa

namespace Go.Proofs.Ytfoegkbbokcplaa
open Go.RowKit Go.Maps
set_option linter.unusedVariables false
set_option linter.unusedSimpArgs false

end Go.Proofs.Ytfoegkbbokcplaa

namespace Go.Proofs.Ytfoegkbbokcplaa
open Go.RowKit Go.Maps
set_option linter.unusedVariables false
set_option linter.unusedSimpArgs false

end Go.Proofs.Ytfoegkbbokcplaa

namespace Go.Proofs.Ytfoegkbbokcplaa
open Go.RowKit Go.Maps
set_option linter.unusedVariables false
set_option linter.unusedSimpArgs false

/-- Is an answer greater: by its view, then its log's length, then its commit number? -/
def An.gt (x y : An) : Bool := decide (0 < orI [cmpI x.v y.v, cmpI (x.s.D.length : Int) (y.s.D.length : Int), cmpI x.c y.c])
set_option maxRecDepth 100000 in
set_option maxHeartbeats 1000000 in
theorem An.greater_any (x y : An) (w : World) : Calls Try.prog 92 #[x.val, y.val] w fun e w' => e = .returned (.bool (An.gt x y)) ∧ Below w.heap.size w w' := by
  have HB0 : Hid (Below w.heap.size w ((w.alloc (.cells #[.int .i64 x.n, .int .u64 x.h, .int .u64 x.l, .int .i64 x.v, .int .i64 x.c, .slice x.s.a x.s.D.length x.s.c] 72)).alloc (.cells #[.int .i64 y.n, .int .u64 y.h, .int .u64 y.l, .int .i64 y.v, .int .i64 y.c, .slice y.s.a y.s.D.length y.s.c] 72))) := ((Below.refl _ w).alloc (Nat.le_refl _) _).alloc (by simp) _
  have KH : Hid (∀ v, Below (w.heap.size + 2) ((w.alloc (.cells #[.int .i64 x.n, .int .u64 x.h, .int .u64 x.l, .int .i64 x.v, .int .i64 x.c, .slice x.s.a x.s.D.length x.s.c] 72)).alloc (.cells #[.int .i64 y.n, .int .u64 y.h, .int .u64 y.l, .int .i64 y.v, .int .i64 y.c, .slice y.s.a y.s.D.length y.s.c] 72)) v → (v.cell? ⟨w.heap.size, 0, none⟩ = some (.int .i64 x.n) ∧ v.cell? ⟨w.heap.size, 1, none⟩ = some (.int .u64 x.h) ∧ v.cell? ⟨w.heap.size, 2, none⟩ = some (.int .u64 x.l) ∧ v.cell? ⟨w.heap.size, 3, none⟩ = some (.int .i64 x.v) ∧ v.cell? ⟨w.heap.size, 4, none⟩ = some (.int .i64 x.c) ∧ v.cell? ⟨w.heap.size, 5, none⟩ = some (.slice x.s.a x.s.D.length x.s.c)) ∧ (v.cell? ⟨w.heap.size + 1, 0, none⟩ = some (.int .i64 y.n) ∧ v.cell? ⟨w.heap.size + 1, 1, none⟩ = some (.int .u64 y.h) ∧ v.cell? ⟨w.heap.size + 1, 2, none⟩ = some (.int .u64 y.l) ∧ v.cell? ⟨w.heap.size + 1, 3, none⟩ = some (.int .i64 y.v) ∧ v.cell? ⟨w.heap.size + 1, 4, none⟩ = some (.int .i64 y.c) ∧ v.cell? ⟨w.heap.size + 1, 5, none⟩ = some (.slice y.s.a y.s.D.length y.s.c))) := fun v hv =>
    ⟨⟨(hv.cell (p := ⟨w.heap.size, 0, none⟩) (by simp)).trans (by simp), (hv.cell (p := ⟨w.heap.size, 1, none⟩) (by simp)).trans (by simp), (hv.cell (p := ⟨w.heap.size, 2, none⟩) (by simp)).trans (by simp), (hv.cell (p := ⟨w.heap.size, 3, none⟩) (by simp)).trans (by simp), (hv.cell (p := ⟨w.heap.size, 4, none⟩) (by simp)).trans (by simp), (hv.cell (p := ⟨w.heap.size, 5, none⟩) (by simp)).trans (by simp)⟩, ⟨(hv.cell (p := ⟨w.heap.size + 1, 0, none⟩) (by simp)).trans (by simp), (hv.cell (p := ⟨w.heap.size + 1, 1, none⟩) (by simp)).trans (by simp), (hv.cell (p := ⟨w.heap.size + 1, 2, none⟩) (by simp)).trans (by simp), (hv.cell (p := ⟨w.heap.size + 1, 3, none⟩) (by simp)).trans (by simp), (hv.cell (p := ⟨w.heap.size + 1, 4, none⟩) (by simp)).trans (by simp), (hv.cell (p := ⟨w.heap.size + 1, 5, none⟩) (by simp)).trans (by simp)⟩⟩
  have HG : Hid (An.gt x y = decide (0 < orI [cmpI x.v y.v, cmpI (x.s.D.length : Int) (y.s.D.length : Int), cmpI x.c y.c])) := rfl
  obtain ⟨xn, xh, xl, xv, xc, ⟨xa, xcp, xD⟩⟩ := x
  obtain ⟨yn, yh, yl, yv, yc, ⟨ya, ycp, yD⟩⟩ := y
  show Calls Try.prog 92 #[.agg #[.int .i64 xn, .int .u64 xh, .int .u64 xl, .int .i64 xv, .int .i64 xc, .slice xa xD.length xcp], .agg #[.int .i64 yn, .int .u64 yh, .int .u64 yl, .int .i64 yv, .int .i64 yc, .slice ya yD.length ycp]] w _
  dsimp only at *
  generalize An.gt _ _ = G at *
  generalize xD.length = xm at *
  generalize yD.length = ym at *
  have cc := hide (fun x y W => cmpint_any x y W)
  have SB := hide (fun W => sl_lit kI W [cmpI xv yv, cmpI (xm : Int) (ym : Int), cmpI xc yc] 3 (by unfold maxLen; simp))
  have co := hide (fun W => or_any [cmpI xv yv, cmpI (xm : Int) (ym : Int), cmpI xc yc] (some ⟨W.heap.size, 0, none⟩) 3 3 (W.alloc (.cells #[.int .i64 (cmpI xv yv), .int .i64 (cmpI (xm : Int) (ym : Int)), .int .i64 (cmpI xc yc)] 3)).drew ((SB.out W).later (Below.refl _ _).drew))
  generalize orI [cmpI xv yv, cmpI (xm : Int) (ym : Int), cmpI xc yc] = O at *
  generalize hw : (w.alloc (.cells #[.int .i64 xn, .int .u64 xh, .int .u64 xl, .int .i64 xv, .int .i64 xc, .slice xa xm xcp] 72)).alloc (.cells #[.int .i64 yn, .int .u64 yh, .int .u64 yl, .int .i64 yv, .int .i64 yc, .slice ya ym ycp] 72) = wA at *
  have hwz : Hid (wA.heap.size = w.heap.size + 2) := by show _ = _; rw [← hw]; simp
  have KS : Hid (∀ v, Below (w.heap.size + 2) wA v → (v.cell? ⟨w.heap.size, 3, none⟩ = some (.int .i64 xv)) ∧ (v.cell? ⟨w.heap.size, 4, none⟩ = some (.int .i64 xc)) ∧ (v.cell? ⟨w.heap.size, 5, none⟩ = some (.slice xa xm xcp)) ∧ (v.cell? ⟨w.heap.size + 1, 3, none⟩ = some (.int .i64 yv)) ∧ (v.cell? ⟨w.heap.size + 1, 4, none⟩ = some (.int .i64 yc)) ∧ (v.cell? ⟨w.heap.size + 1, 5, none⟩ = some (.slice ya ym ycp))) := fun v hv => by
    obtain ⟨⟨_, _, _, h3, h4, h5⟩, ⟨_, _, _, g3, g4, g5⟩⟩ := KH.out v hv
    exact ⟨h3, h4, h5, g3, g4, g5⟩
  clear KH
  have s0 := KS.out _ (Below.refl (w.heap.size + 2) wA).drew
  have s1 := KS.out _ ((Below.refl (w.heap.size + 2) wA).alloc (by rw [hwz.out]; exact Nat.le_refl _) (.cells #[.int .i64 (cmpI xv yv), .int .i64 (cmpI (xm : Int) (ym : Int)), .int .i64 (cmpI xc yc)] 3)).drew
  have hwA : Hid (wA = _) := hw.symm
  go_enter Try.func92, Try.ntmps92
  go_wp2_with fail
  try rw [hw]
  clear hw
  go_region_held3 (fun v => (v.cell? ⟨w.heap.size, 3, none⟩ = some (.int .i64 xv)) ∧ (v.cell? ⟨w.heap.size, 4, none⟩ = some (.int .i64 xc)) ∧ (v.cell? ⟨w.heap.size, 5, none⟩ = some (.slice xa xm xcp)) ∧ (v.cell? ⟨w.heap.size + 1, 3, none⟩ = some (.int .i64 yv)) ∧ (v.cell? ⟨w.heap.size + 1, 4, none⟩ = some (.int .i64 yc)) ∧ (v.cell? ⟨w.heap.size + 1, 5, none⟩ = some (.slice ya ym ycp))) (with_reducible assumption) (first
    | (go_at_call 75; refine (cc.out _ _ _).mono ?_; rintro e w2 ⟨rfl, rfl⟩)
    | (go_at_call 73; refine (co.out _).mono ?_; rintro e w2 ⟨rfl, rfl⟩))
  go_wp2
  go_ret
  exact ⟨by rw [HG.out]; rfl, HB0.out.trans ((((Below.refl (w.heap.size + 2) wA).alloc (by rw [hwz.out]; exact Nat.le_refl _) _).drew).mono (by omega))⟩

end Go.Proofs.Ytfoegkbbokcplaa

namespace Go.Proofs.Ytfoegkbbokcplaa
open Go.RowKit Go.Maps
set_option linter.unusedVariables false
set_option linter.unusedSimpArgs false

/-- Where a vote comes to stand that has none of its node. -/
def An.at_ (L : List An) (x : An) : Nat := (L.findIdx? (fun y => decide (x.n < y.n))).getD L.length
def An.ins (L : List An) (x : An) : List An := L.take (An.at_ L x) ++ x :: L.drop (An.at_ L x)
theorem An.at_le (L : List An) (x : An) : An.at_ L x ≤ L.length := by
  unfold An.at_
  cases h : L.findIdx? (fun y => decide (x.n < y.n)) with
  | none => exact Nat.le_refl _
  | some i =>
    have := (List.findIdx?_eq_some_iff_getElem.1 h).1
    exact Nat.le_of_lt this
theorem An.at_ix (L : List An) (x : An) : (ix (fun y => decide (x.n < y.n)) L < 0 ∧ An.at_ L x = L.length) ∨ (0 ≤ ix (fun y => decide (x.n < y.n)) L ∧ ix (fun y => decide (x.n < y.n)) L = (An.at_ L x : Int)) := by
  unfold An.at_ ix
  cases h : L.findIdx? (fun y => decide (x.n < y.n)) with
  | none => exact .inl ⟨by decide, rfl⟩
  | some i => exact .inr ⟨by simp, rfl⟩
/-- Does a vote take an older one's place? -/
def An.rep (x y : An) : Bool := decide (0 < cmpD x.h x.l y.h y.l) || (decide (cmpD x.h x.l y.h y.l = 0) && An.gt x y)
/-- A list with a vote put in. -/
def An.put (L : List An) (x : An) : List An := match L.findIdx? (fun y => decide (y.n = x.n)) with
  | none => An.ins L x
  | some i => if An.rep x (L.getD i x) = true then L.set i x else L
theorem An.box (x : An) (w v : World) (hv : Below (w.heap.size + 1) (w.alloc (.cells #[.int .i64 x.n, .int .u64 x.h, .int .u64 x.l, .int .i64 x.v, .int .i64 x.c, .slice x.s.a x.s.D.length x.s.c] 72)) v) : v.cell? ⟨w.heap.size, 0, none⟩ = some (.int .i64 x.n) ∧ v.cell? ⟨w.heap.size, 1, none⟩ = some (.int .u64 x.h) ∧ v.cell? ⟨w.heap.size, 2, none⟩ = some (.int .u64 x.l) ∧ v.cell? ⟨w.heap.size, 3, none⟩ = some (.int .i64 x.v) ∧ v.cell? ⟨w.heap.size, 4, none⟩ = some (.int .i64 x.c) ∧ v.cell? ⟨w.heap.size, 5, none⟩ = some (.slice x.s.a x.s.D.length x.s.c) :=
  ⟨(hv.cell (p := ⟨w.heap.size, 0, none⟩) (by simp)).trans (by simp), (hv.cell (p := ⟨w.heap.size, 1, none⟩) (by simp)).trans (by simp), (hv.cell (p := ⟨w.heap.size, 2, none⟩) (by simp)).trans (by simp), (hv.cell (p := ⟨w.heap.size, 3, none⟩) (by simp)).trans (by simp), (hv.cell (p := ⟨w.heap.size, 4, none⟩) (by simp)).trans (by simp), (hv.cell (p := ⟨w.heap.size, 5, none⟩) (by simp)).trans (by simp)⟩
end Go.Proofs.Ytfoegkbbokcplaa

namespace Go.Proofs.Ytfoegkbbokcplaa
open Go.RowKit Go.Maps
set_option linter.unusedVariables false
set_option linter.unusedSimpArgs false

theorem An.ifdraw (x : An) (w : World) : (invoke (.fn (.method "amnesia/tally.draw") #[]) #[.iface 72 x.val]).run Try.prog w = .ok (.enter 91 #[x.val]) w := by kernel_rfl
end Go.Proofs.Ytfoegkbbokcplaa

namespace Go.Proofs.Ytfoegkbbokcplaa
open Go.RowKit Go.Maps
set_option linter.unusedVariables false
set_option linter.unusedSimpArgs false

theorem An.put_none {L : List An} {x : An} (h : L.findIdx? (fun y => decide (y.n = x.n)) = none) : An.put L x = An.ins L x := by unfold An.put; rw [h]
theorem An.put_some {L : List An} {x : An} {i : Nat} (h : L.findIdx? (fun y => decide (y.n = x.n)) = some i) (y : An) (hy : L[i]? = some y) : An.put L x = if An.rep x y = true then L.set i x else L := by
  unfold An.put
  rw [h]
  simp only [List.getD_eq_getElem?_getD, hy, Option.getD_some]
end Go.Proofs.Ytfoegkbbokcplaa

namespace Go.Proofs.Ytfoegkbbokcplaa
open Go.RowKit Go.Maps
set_option linter.unusedVariables false
set_option linter.unusedSimpArgs false

/-- The vote with its log in another block. -/
def An.re (x : An) (g : Nat) : An := { x with s := ⟨some ⟨g, 0, none⟩, x.s.D.length, x.s.D⟩ }
/-- The vote's log lies in memory. -/
def An.In (w : World) (x : An) : Prop := SlY yE w x.s.a x.s.D.length x.s.c x.s.D ∧ x.s.D.length * 48 ≤ 281474976710656
theorem An.In.later {w w' : World} {x : An} (h : x.In w) (hb : Below w.heap.size w w') : x.In w' := ⟨h.1.later hb, h.2⟩
theorem An.In.bel {w w' : World} {x : An} {B : Nat} (h : x.In w) (hb : Below B w w') (hB : w.heap.size ≤ B) : x.In w' := ⟨h.1.bel hb hB, h.2⟩
/-- y is x, with a log of its own. -/
def An.Told (B : Nat) (w : World) (x y : An) : Prop := x.s.D.length * 48 ≤ 281474976710656 ∧ ∃ g, y = x.re g ∧ OwnY yE B w (.slice (some ⟨g, 0, none⟩) x.s.D.length x.s.D.length) x.s.D
theorem An.Told.bel {B : Nat} {w w' : World} {x y : An} (h : An.Told B w x y) (hb : Below w.heap.size w w') : An.Told B w' x y := by
  obtain ⟨h0, g, e, o⟩ := h
  exact ⟨h0, g, e, o.grow hb⟩
theorem An.Told.low {B B' : Nat} {w : World} {x y : An} (h : An.Told B w x y) (hb : B' ≤ B) : An.Told B' w x y := by
  obtain ⟨h0, g, e, o⟩ := h
  exact ⟨h0, g, e, o.low hb⟩
theorem An.Told.In {B : Nat} {w : World} {x y : An} (h : An.Told B w x y) : y.In w := by
  obtain ⟨h0, g, rfl, o⟩ := h
  exact ⟨o.sl' kE, h0⟩
theorem An.Told.D {B : Nat} {w : World} {x y : An} (h : An.Told B w x y) : y.s.D = x.s.D ∧ y.n = x.n ∧ y.h = x.h ∧ y.l = x.l ∧ y.v = x.v ∧ y.c = x.c := by
  obtain ⟨h0, g, rfl, o⟩ := h
  exact ⟨rfl, rfl, rfl, rfl, rfl, rfl⟩
/-- The same of lists. -/
def An.Tolds (B : Nat) (w : World) (L R : List An) : Prop := R.length = L.length ∧ ∀ (i : Nat) (x y : An), L[i]? = some x → R[i]? = some y → An.Told B w x y
theorem An.Tolds.bel {B : Nat} {w w' : World} {L R : List An} (h : An.Tolds B w L R) (hb : Below w.heap.size w w') : An.Tolds B w' L R := ⟨h.1, fun i x y hx hy => (h.2 i x y hx hy).bel hb⟩
theorem An.Tolds.low {B B' : Nat} {w : World} {L R : List An} (h : An.Tolds B w L R) (hb : B' ≤ B) : An.Tolds B' w L R := ⟨h.1, fun i x y hx hy => (h.2 i x y hx hy).low hb⟩
theorem hTEAn : yE.T ≠ yAnA.T := by decide
/-- One more is told: its log in a block of its own, the row's block changed. -/
theorem An.Tolds.snoc {B g : Nat} {w w2 w3 : World} {L R : List An} {j : Nat} {x : An} {q : Nat} (h : An.Tolds B w (L.take j) R) (hj : L[j]? = some x) (hB : B ≤ q) (hb : Below w.heap.size w w2) (hd : x.s.D.length * 48 ≤ 281474976710656) (ho : OwnY yE q w2 (.slice (some ⟨q, 0, none⟩) x.s.D.length x.s.D.length) x.s.D) (u : Upd (· = g) w2 w3) (hr : ∃ cs f, w2.heap[g]? = some (.cells cs yAnA.T f)) : An.Tolds B w3 (L.take (j + 1)) (R ++ [x.re q]) := by
  have hjl := (List.getElem?_eq_some_iff.1 hj).1
  have keep : ∀ {B' g' n c : Nat} {l : List En}, OwnY yE B' w2 (.slice (some ⟨g', 0, none⟩) n c) l → OwnY yE B' w3 (.slice (some ⟨g', 0, none⟩) n c) l := fun {B' g' n c l} ho' => ho'.upd1 u (fun k e hk => by
    subst hk
    obtain ⟨c1, f1, e1⟩ := ho'.kind e
    obtain ⟨c2, f2, e2⟩ := hr
    rw [e1] at e2
    injection e2 with e2
    injection e2 with _ e3
    exact hTEAn e3)
  have ht : (L.take j).length = j := by rw [List.length_take]; omega
  refine ⟨by rw [List.length_append, h.1, ht, List.length_take, List.length_singleton]; omega, fun i y z hy hz => ?_⟩
  rw [List.take_add_one, hj] at hy
  by_cases hi : i < j
  · rw [List.getElem?_append_left (by omega)] at hy
    rw [List.getElem?_append_left (by rw [h.1]; omega)] at hz
    obtain ⟨h0, g', e, o⟩ := h.2 i y z hy hz
    exact ⟨h0, g', e, keep (o.grow hb)⟩
  · rw [List.getElem?_append_right (by omega)] at hy
    rw [List.getElem?_append_right (by rw [h.1]; omega)] at hz
    rw [ht] at hy
    rw [h.1, ht] at hz
    have hi0 : i - j = 0 := by
      have := (List.getElem?_eq_some_iff.1 hz).1
      simp at this
      omega
    rw [hi0] at hy hz
    simp at hy hz
    subst hy hz
    exact ⟨hd, q, rfl, (keep ho).low hB⟩
end Go.Proofs.Ytfoegkbbokcplaa
