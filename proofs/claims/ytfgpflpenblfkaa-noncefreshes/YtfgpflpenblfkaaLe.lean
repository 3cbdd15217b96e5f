import Derived.Test.YtfgpflpenblfkaaLd
namespace Go.Proofs.Ytfgpflpenblfkaa
open Go.RowKit Go.Maps
set_option linter.unusedVariables false

theorem look_vals (L : List Cl) (s : Int) : ∃ (t : Int) (x : ByteArray) (tk : Bool), gv L s = (if tk then some x else none) ∧ (match gv L s with | some x => cV (s, x) | none => cV (0, ByteArray.empty)) = .agg #[.int .i64 t, .string x] ∧ (gv L s).isSome = tk := by
  cases h : gv L s with
  | none => exact ⟨0, ByteArray.empty, false, rfl, rfl, rfl⟩
  | some x => exact ⟨s, x, true, rfl, rfl, rfl⟩
theorem box_facts {w w1 : World} {k s : Int} {v e : ByteArray} {T1 T2 : TypeId} (hb : Below ((w.alloc (.cells #[.int .i64 k, .int .i64 s, .string v] T1)).alloc (.cells #[.int .i64 0, .int .i64 0, .string e] T2)).heap.size ((w.alloc (.cells #[.int .i64 k, .int .i64 s, .string v] T1)).alloc (.cells #[.int .i64 0, .int .i64 0, .string e] T2)) w1) :
    w1.cell? ⟨w.heap.size, 0, none⟩ = some (.int .i64 k) ∧ w1.cell? ⟨w.heap.size, 1, none⟩ = some (.int .i64 s) ∧ w1.cell? ⟨w.heap.size, 2, none⟩ = some (.string v) ∧
    w1.cell? ⟨w.heap.size + 1, 0, none⟩ = some (.int .i64 0) ∧ w1.cell? ⟨w.heap.size + 1, 1, none⟩ = some (.int .i64 0) ∧ w1.cell? ⟨w.heap.size + 1, 2, none⟩ = some (.string e) ∧
    w1.frozen? ⟨w.heap.size + 1, 0, none⟩ = false ∧ w1.frozen? ⟨w.heap.size + 1, 1, none⟩ = false ∧ w1.frozen? ⟨w.heap.size + 1, 2, none⟩ = false := by
  refine ⟨(hb.cell (p := ⟨w.heap.size, 0, none⟩) ?_).trans ?_, (hb.cell (p := ⟨w.heap.size, 1, none⟩) ?_).trans ?_, (hb.cell (p := ⟨w.heap.size, 2, none⟩) ?_).trans ?_, (hb.cell (p := ⟨w.heap.size + 1, 0, none⟩) ?_).trans ?_, (hb.cell (p := ⟨w.heap.size + 1, 1, none⟩) ?_).trans ?_, (hb.cell (p := ⟨w.heap.size + 1, 2, none⟩) ?_).trans ?_, (hb.frozen (p := ⟨w.heap.size + 1, 0, none⟩) ?_).trans ?_, (hb.frozen (p := ⟨w.heap.size + 1, 1, none⟩) ?_).trans ?_, (hb.frozen (p := ⟨w.heap.size + 1, 2, none⟩) ?_).trans ?_⟩
  all_goals first | (simp; omega) | simp | go_simp
end Go.Proofs.Ytfgpflpenblfkaa
