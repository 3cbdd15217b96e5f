import Derived.Test.YtjnnglapefhegaaGreatSa
namespace Go.Proofs.YtjnnglapefhegaaGreat
open Go.RowKit Go.Maps
set_option linter.unusedVariables false
set_option linter.unusedSimpArgs false

/-- A vote: answer. -/
structure An where
  n : Int
  h : Int
  l : Int
  v : Int
  c : Int
  s : SV En

def An.cs (x : An) : List Value := [.int .i64 x.n, .int .u64 x.h, .int .u64 x.l, .int .i64 x.v, .int .i64 x.c, .slice x.s.a x.s.D.length x.s.c]
def An.val (x : An) : Value := .agg #[.int .i64 x.n, .int .u64 x.h, .int .u64 x.l, .int .i64 x.v, .int .i64 x.c, .slice x.s.a x.s.D.length x.s.c]
def yAnA : Lay An := ⟨85, 74, 6, 64, An.cs, ⟨0, 0, 0, 0, 0, ⟨none, 0, []⟩⟩⟩
theorem kAnA : yAnA.Ok := ⟨by decide, fun x => rfl, fun x u h => by
    simp [yAnA, An.cs] at h
    rcases h with rfl | rfl | rfl | rfl | rfl | rfl <;> rfl, Tryz.underlying74, ⟨.agg #[.int .i64 (⟨0, 0, 0, 0, 0, ⟨none, 0, []⟩⟩ : An).n, .int .u64 (⟨0, 0, 0, 0, 0, ⟨none, 0, []⟩⟩ : An).h, .int .u64 (⟨0, 0, 0, 0, 0, ⟨none, 0, []⟩⟩ : An).l, .int .i64 (⟨0, 0, 0, 0, 0, ⟨none, 0, []⟩⟩ : An).v, .int .i64 (⟨0, 0, 0, 0, 0, ⟨none, 0, []⟩⟩ : An).c, .slice (⟨0, 0, 0, 0, 0, ⟨none, 0, []⟩⟩ : An).s.a (⟨0, 0, 0, 0, 0, ⟨none, 0, []⟩⟩ : An).s.D.length (⟨0, 0, 0, 0, 0, ⟨none, 0, []⟩⟩ : An).s.c], by kernel_rfl, rfl⟩⟩
theorem SlY.AnA {w : World} {a : Option Addr} {n c : Nat} {L : List An} (h : SlY yAnA w a n c L) {j : Nat} {x : An} (hx : L[j]? = some x) : ∃ q o, a = some ⟨q, o, none⟩ ∧ q < w.heap.size ∧ w.cell? ⟨q, o + j * 6, none⟩ = some (.int .i64 x.n) ∧ w.cell? ⟨q, o + j * 6 + 1, none⟩ = some (.int .u64 x.h) ∧ w.cell? ⟨q, o + j * 6 + 2, none⟩ = some (.int .u64 x.l) ∧ w.cell? ⟨q, o + j * 6 + 3, none⟩ = some (.int .i64 x.v) ∧ w.cell? ⟨q, o + j * 6 + 4, none⟩ = some (.int .i64 x.c) ∧ w.cell? ⟨q, o + j * 6 + 5, none⟩ = some (.slice x.s.a x.s.D.length x.s.c) := by
  obtain ⟨q, o, ea, hq, hl⟩ := h.place (by rintro rfl; simp at hx)
  exact ⟨q, o, ea, hq, hl j x hx 0 _ rfl, hl j x hx 1 _ rfl, hl j x hx 2 _ rfl, hl j x hx 3 _ rfl, hl j x hx 4 _ rfl, hl j x hx 5 _ rfl⟩
theorem An.node_any (x : An) (w : World) : Calls Tryz.prog 126 #[x.val] w fun e w' => e = .returned (.int .i64 x.n) ∧ Below w.heap.size w w' := by
  show Calls Tryz.prog 126 #[.agg #[.int .i64 x.n, .int .u64 x.h, .int .u64 x.l, .int .i64 x.v, .int .i64 x.c, .slice x.s.a x.s.D.length x.s.c]] w _
  go_enter Tryz.func126, Tryz.ntmps126
  go_wp2
  go_ret
  exact ⟨rfl, (Below.refl _ _).alloc (Nat.le_refl _) _⟩
theorem An.draw_any (x : An) (w : World) : Calls Tryz.prog 123 #[x.val] w fun e w' => e = .returned (.agg #[.int .u64 x.h, .int .u64 x.l]) ∧ Below w.heap.size w w' := by
  show Calls Tryz.prog 123 #[.agg #[.int .i64 x.n, .int .u64 x.h, .int .u64 x.l, .int .i64 x.v, .int .i64 x.c, .slice x.s.a x.s.D.length x.s.c]] w _
  go_enter Tryz.func123, Tryz.ntmps123
  go_wp2
  refine bodyPost_ret (v := .agg #[.int .u64 x.h, .int .u64 x.l]) (by simp [results, Tryz.results123, go_sem]) rfl ?_
  exact ⟨rfl, by (repeat (first | exact Below.refl _ _ | assumption | refine Below.drew ?_ | refine Below.alloc ?_ (by first | (simp; done) | (simp; omega) | omega) _ | refine Below.setCell ?_ (by first | (simp; done) | (simp; omega) | omega) _))⟩
theorem An.as_any (x : An) (w : World) : Calls Tryz.prog 61 #[x.val] w fun e w' => e = .returned x.val ∧ Below w.heap.size w w' := by
  show Calls Tryz.prog 61 #[.agg #[.int .i64 x.n, .int .u64 x.h, .int .u64 x.l, .int .i64 x.v, .int .i64 x.c, .slice x.s.a x.s.D.length x.s.c]] w _
  go_enter Tryz.func61, Tryz.ntmps61
  go_wp2
  refine bodyPost_ret (v := x.val) (by simp [results, Tryz.results61, go_sem, An.val]) rfl ?_
  exact ⟨rfl, by (repeat (first | exact Below.refl _ _ | assumption | refine Below.drew ?_ | refine Below.alloc ?_ (by first | (simp; done) | (simp; omega) | omega) _ | refine Below.setCell ?_ (by first | (simp; done) | (simp; omega) | omega) _))⟩
theorem An.ifnode (x : An) (w : World) : (invoke (.fn (.method "amnesia/tally.node") #[]) #[.iface 117 x.val]).run Tryz.prog w = .ok (.enter 126 #[x.val]) w := by kernel_rfl
end Go.Proofs.YtjnnglapefhegaaGreat
