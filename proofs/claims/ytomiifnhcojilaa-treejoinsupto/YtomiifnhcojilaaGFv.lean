import Derived.Test.YtomiifnhcojilaaPr
import Derived.Test.YtomiifnhcojilaaCm
import Derived.Deep.SlicePairs
import Derived.Test.YtomiifnhcojilaaRows
namespace Go.Proofs.Ytomiifnhcojilaa.Wi
open Go.RowKit Go.ChangeShapes Go.WideShapes
set_option linter.unusedVariables false

theorem intCells : Try.prog.cellsOf 3 = 1 := by kernel_rfl
theorem u64Cells : Try.prog.cellsOf 122 = 1 := by kernel_rfl
theorem strCells : Try.prog.cellsOf 9 = 1 := by kernel_rfl
theorem u64_wf {a : Int} (h : (Lit.int .u64 a).wf = true) : 0 ≤ a ∧ a < 18446744073709551616 := by
  simp [Lit.wf, IntKind.min, IntKind.max, IntKind.bits, IntKind.signed] at h
  omega
def Pt.datum {H : Type} (p : Pt) : DataW H := .agg [.lit (.int .i64 p.K), .lit (.int .u64 p.V), .lit (.int .i64 p.N), .lit (.int .i64 p.m), .lit (.string p.s.data.toList)]
end Go.Proofs.Ytomiifnhcojilaa.Wi

namespace Go.Proofs.Ytomiifnhcojilaa.Wi
open Go.RowKit
set_option linter.unusedVariables false

theorem bulk_append {H : Type} (l r : List (DataW H)) : Rows.uptoBulkAll (l ++ r) = Rows.uptoBulkAll l + Rows.uptoBulkAll r := by
  induction l with
  | nil => simp [Rows.uptoBulkAll]
  | cons x l ih => simp only [List.cons_append, Rows.uptoBulkAll, ih]; omega
theorem bulk_datum {H : Type} (p : Pt) : Rows.uptoBulk (p.datum : DataW H) = p.s.size + 6 := by
  simp only [Pt.datum, Rows.uptoBulk, Rows.uptoBulkAll, Array.length_toList]
  have : p.s.data.size = p.s.size := rfl
  omega
theorem pt_short (p : Pt) (hf : p.fits) (hs : p.s.size < 2 ^ 64) : p.bytes.length ≤ 9 + p.s.size := by
  obtain ⟨h1, h2, h3, h4, h5, h6⟩ := hf
  unfold Pt.bytes ptBytes
  split
  · rw [M.form_length]; have := M.nb_le p.V.toNat (by omega); omega
  · split
    · rw [M.form_length]; have := M.nb_le p.N.toNat (by omega); omega
    · rw [List.length_append, M.form_length, sb_length]; have := M.nb_le p.s.size hs; omega
theorem bulk_bytes {H : Type} (P : List Pt) (hf : ∀ p ∈ P, p.fits) (hb : Rows.uptoBulkAll (P.map fun p => (p.datum : DataW H)) ≤ 1048576) : (allBytes P).length ≤ 9 * Rows.uptoBulkAll (P.map fun p => (p.datum : DataW H)) := by
  induction P with
  | nil => simp [allBytes]
  | cons p r ih =>
    simp only [List.map_cons, Rows.uptoBulkAll, bulk_datum] at hb ⊢
    have h1 := ih (fun q hq => hf q (List.mem_cons_of_mem _ hq)) (by omega)
    have h2 := pt_short p (hf p (List.mem_cons_self ..)) (by omega)
    have e : allBytes (p :: r) = p.bytes ++ allBytes r := by simp [allBytes]
    rw [e, List.length_append]
    omega
theorem bulk_get {H : Type} (P : List Pt) (k : Nat) (h : k < P.length) : P[k].s.size + 6 + Rows.uptoBulkAll ((P.take k).map fun p => (p.datum : DataW H)) ≤ Rows.uptoBulkAll (P.map fun p => (p.datum : DataW H)) := by
  have h2 : P = P.take k ++ (P[k] :: P.drop (k + 1)) := by rw [← List.drop_eq_getElem_cons h, List.take_append_drop]
  have e : Rows.uptoBulkAll (P.map fun p => (p.datum : DataW H)) = Rows.uptoBulkAll ((P.take k ++ (P[k] :: P.drop (k + 1))).map fun p => (p.datum : DataW H)) := congrArg (fun l => Rows.uptoBulkAll (List.map (fun p : Pt => (p.datum : DataW H)) l)) h2
  rw [e, List.map_append, bulk_append, List.map_cons]
  simp only [Rows.uptoBulkAll, bulk_datum]
  omega
/-- What the bound gives. -/
theorem small_puts {H : Type} (P : List Pt) (hf : ∀ i (h : i < P.length), P[i].fits) (hb : Rows.uptoBulkAll (P.map fun p => (p.datum : DataW H)) ≤ 1048576) :
    (allBytes P).length ≤ 140737488355328 ∧ ∀ k (h : k < P.length), (allBytes (P.take k)).length + 9 + P[k].s.size ≤ 140737488355328 := by
  have hf2 : ∀ p ∈ P, p.fits := fun p hp => by
    obtain ⟨j, hj, rfl⟩ := List.getElem_of_mem hp
    exact hf j hj
  refine ⟨by have := bulk_bytes P hf2 hb; omega, fun k h => ?_⟩
  have h1 := bulk_get (H := H) P k h
  have h2 := bulk_bytes (H := H) (P.take k) (fun p hp => hf2 p (List.mem_of_mem_take hp)) (by omega)
  omega
#print axioms small_puts

end Go.Proofs.Ytomiifnhcojilaa.Wi
