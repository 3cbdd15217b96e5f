import Derived.Test.YtjnnglapefhegaaGreatSw4
import Derived.Test.YtjnnglapefhegaaGreatSwg
namespace Go.Proofs.YtjnnglapefhegaaGreat
open Go.RowKit Go.Maps
set_option linter.unusedVariables false
set_option linter.unusedSimpArgs false

/-- Where a vote comes to stand that has none of its node. -/
def An.at_ (L : List An) (x : An) : Nat := (L.findIdx? (fun y => decide (x.n < y.n))).getD L.length
def An.ins (L : List An) (x : An) : List An := L.take (An.at_ L x) ++ x :: L.drop (An.at_ L x)
theorem An.at_le (L : List An) (x : An) : An.at_ L x ≤ L.length := by
  unfold An.at_
  cases h : L.findIdx? (fun y => decide (x.n < y.n)) with
  | none => exact Nat.le_refl _
  | some i =>
    have := (List.findIdx?_eq_some_iff_getElem.1 h).1
    exact Nat.le_of_lt this
theorem An.at_ix (L : List An) (x : An) : (ix (fun y => decide (x.n < y.n)) L < 0 ∧ An.at_ L x = L.length) ∨ (0 ≤ ix (fun y => decide (x.n < y.n)) L ∧ ix (fun y => decide (x.n < y.n)) L = (An.at_ L x : Int)) := by
  unfold An.at_ ix
  cases h : L.findIdx? (fun y => decide (x.n < y.n)) with
  | none => exact .inl ⟨by decide, rfl⟩
  | some i => exact .inr ⟨by simp, rfl⟩
/-- Does a vote take an older one's place? -/
def An.rep (x y : An) : Bool := decide (0 < cmpD x.h x.l y.h y.l) || (decide (cmpD x.h x.l y.h y.l = 0) && An.gt x y)
/-- A list with a vote put in. -/
def An.put (L : List An) (x : An) : List An := match L.findIdx? (fun y => decide (y.n = x.n)) with
  | none => An.ins L x
  | some i => if An.rep x (L.getD i x) = true then L.set i x else L
theorem An.box (x : An) (w v : World) (hv : Below (w.heap.size + 1) (w.alloc (.cells #[.int .i64 x.n, .int .u64 x.h, .int .u64 x.l, .int .i64 x.v, .int .i64 x.c, .slice x.s.a x.s.D.length x.s.c] 117)) v) : v.cell? ⟨w.heap.size, 0, none⟩ = some (.int .i64 x.n) ∧ v.cell? ⟨w.heap.size, 1, none⟩ = some (.int .u64 x.h) ∧ v.cell? ⟨w.heap.size, 2, none⟩ = some (.int .u64 x.l) ∧ v.cell? ⟨w.heap.size, 3, none⟩ = some (.int .i64 x.v) ∧ v.cell? ⟨w.heap.size, 4, none⟩ = some (.int .i64 x.c) ∧ v.cell? ⟨w.heap.size, 5, none⟩ = some (.slice x.s.a x.s.D.length x.s.c) :=
  ⟨(hv.cell (p := ⟨w.heap.size, 0, none⟩) (by simp)).trans (by simp), (hv.cell (p := ⟨w.heap.size, 1, none⟩) (by simp)).trans (by simp), (hv.cell (p := ⟨w.heap.size, 2, none⟩) (by simp)).trans (by simp), (hv.cell (p := ⟨w.heap.size, 3, none⟩) (by simp)).trans (by simp), (hv.cell (p := ⟨w.heap.size, 4, none⟩) (by simp)).trans (by simp), (hv.cell (p := ⟨w.heap.size, 5, none⟩) (by simp)).trans (by simp)⟩
end Go.Proofs.YtjnnglapefhegaaGreat
