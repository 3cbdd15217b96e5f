import Derived.Test.YtegkkoggfjgkbaaPr
import Derived.Test.YtegkkoggfjgkbaaCm
import Derived.Deep.SlicePairs
import Derived.Test.YtegkkoggfjgkbaaRows
namespace Go.Proofs.Ytegkkoggfjgkbaa.Wi
open Go.RowKit Go.ChangeShapes Go.WideShapes
set_option linter.unusedVariables false

theorem putCells : Try.prog.cellsOf 54 = 5 := by kernel_rfl
theorem intCells : Try.prog.cellsOf 3 = 1 := by kernel_rfl
theorem u64Cells : Try.prog.cellsOf 52 = 1 := by kernel_rfl
theorem strCells : Try.prog.cellsOf 9 = 1 := by kernel_rfl
theorem u64_wf {a : Int} (h : (Lit.int .u64 a).wf = true) : 0 ≤ a ∧ a < 18446744073709551616 := by
  simp [Lit.wf, IntKind.min, IntKind.max, IntKind.bits, IntKind.signed] at h
  omega
set_option maxRecDepth 100000 in
theorem open_put {H : Type} {enc : TypeId × Value → H} {W : World} {base : Nat} {sp : Nat → Bool} {held : Bool} {n : Nat} {cs : List Value} {x : DataW H × List MemPlace} (h : DataW.trod enc Try.prog W base sp held n 54 cs = some x) :
    ∃ p : Pt, p.fits ∧ cs = [.int .i64 p.K, .int .u64 p.V, .int .i64 p.N, .int .i64 p.m, .string p.s] ∧ x.1 = .agg [.lit (.int .i64 p.K), .lit (.int .u64 p.V), .lit (.int .i64 p.N), .lit (.int .i64 p.m), .lit (.string p.s.data.toList)] := by
  obtain ⟨xs, k, hk, hxy, hlen, hxl, hf⟩ := DataW.trod_struct Try.underlying54 h
  rw [putCells] at hlen
  have hxl : xs.length = 5 := hxl
  match xs, hxl, cs, hlen with
  | [y0, y1, y2, y3, y4], _, [v0, v1, v2, v3, v4], _ =>
    have g0 := hf 0 _ rfl
    have g1 := hf 1 _ rfl
    have g2 := hf 2 _ rfl
    have g3 := hf 3 _ rfl
    have g4 := hf 4 _ rfl
    simp [intCells, u64Cells, strCells] at g0 g1 g2 g3 g4
    obtain ⟨K, hK, hx0, hw0⟩ := DataW.trod_int Try.underlying3 g0
    obtain ⟨V, hV, hx1, hw1⟩ := DataW.trod_int Try.underlying52 g1
    obtain ⟨N, hN, hx2, hw2⟩ := DataW.trod_int Try.underlying3 g2
    obtain ⟨m, hM, hx3, hw3⟩ := DataW.trod_int Try.underlying3 g3
    obtain ⟨t, hS, hx4, _⟩ := DataW.trod_string Try.underlying9 g4
    obtain ⟨a1, a2⟩ := i64_wf hw2
    obtain ⟨b1, b2⟩ := i64_wf hw3
    obtain ⟨c1, c2⟩ := u64_wf hw1
    refine ⟨⟨K, V, N, m, t⟩, ⟨c1, c2, a1, a2, b1, b2⟩, ?_, ?_⟩
    · rw [(List.cons_eq_cons.1 hK).1, (List.cons_eq_cons.1 hV).1, (List.cons_eq_cons.1 hN).1, (List.cons_eq_cons.1 hM).1, (List.cons_eq_cons.1 hS).1]
    · rw [hxy]
      simp [hx0, hx1, hx2, hx3, hx4]
def Pt.datum {H : Type} (p : Pt) : DataW H := .agg [.lit (.int .i64 p.K), .lit (.int .u64 p.V), .lit (.int .i64 p.N), .lit (.int .i64 p.m), .lit (.string p.s.data.toList)]
theorem open_puts {H : Type} {enc : TypeId × Value → H} {W : World} {base : Nat} {sp : Nat → Bool} {held : Bool} {fuel : Nat} {a : Option Addr} {n c : Nat} {x : DataW H × List MemPlace} (h : DataW.trod enc Try.prog W base sp held fuel 55 [.slice a n c] = some x) :
    ∃ P : List Pt, P.length = n ∧ n ≤ c ∧ c ≤ maxLen ∧ Puts W a P ∧ ((x.1 = .nil ∧ P = []) ∨ ∃ spare, x.1 = .slice (P.map Pt.datum) spare) := by
  rcases Go.Deep.open_slice Try.underlying55 h with ⟨hcs, hx⟩ | ⟨y, ln, cp, m, k, D, Pl, hcs, hb, hl, hm, hmm, hx, hall⟩
  · have e := (List.cons_eq_cons.1 hcs).1
    cases e
    exact ⟨[], rfl, Nat.le_refl _, by unfold maxLen; omega, fun i hi => by (simp at hi), .inl ⟨by rw [hx], rfl⟩⟩
  · have e := (List.cons_eq_cons.1 hcs).1
    cases e
    have hlm : n ≤ m := by rw [hmm]; split <;> omega
    have each : ∀ i, i < n → ∃ p : Pt, p.fits ∧ (∀ j, j < 5 → W.cell? ((y.add (i * 5)).add j) = [Value.int .i64 p.K, .int .u64 p.V, .int .i64 p.N, .int .i64 p.m, .string p.s][j]?) ∧ D i = p.datum := by
      intro i hi
      obtain ⟨cs', h1, h2⟩ := hall i (by omega)
      rw [putCells] at h1
      obtain ⟨p, hf, rfl, hd⟩ := open_put h2
      obtain ⟨_, _, hcell⟩ := World.cells?_some h1
      exact ⟨p, hf, hcell, hd⟩
    haveI : Inhabited Pt := ⟨⟨0, 0, 0, 0, ⟨#[]⟩⟩⟩
    obtain ⟨p, hp⟩ := Go.Deep.choose_lt each
    refine ⟨(List.range n).map p, by simp, hl, hm, ?_, .inr ⟨(List.range (m - n)).map fun j => D (n + j), ?_⟩⟩
    · intro i hi
      have hi2 : i < n := by simpa using hi
      have e : ((List.range n).map p)[i] = p i := by simp
      rw [e]
      obtain ⟨hf, hcell, _⟩ := hp i hi2
      have z0 := (hp 0 (by omega)).2.1 0 (by omega)
      obtain ⟨b, o, s⟩ := y
      have hs := World.cell?_spot z0
      obtain rfl : s = none := by
        rw [Nat.zero_mul] at hs
        simpa [Addr.add] using hs
      have c0 := hcell 0 (by omega)
      have c1 := hcell 1 (by omega)
      have c2 := hcell 2 (by omega)
      have c3 := hcell 3 (by omega)
      have c4 := hcell 4 (by omega)
      rw [Addr.add_lit, Addr.add_lit] at c0 c1 c2 c3 c4
      exact ⟨hf, b, o, rfl, c0, c1, c2, c3, c4⟩
    · rw [hx]
      show DataW.slice ((List.range n).map D) _ = _
      rw [List.map_map, List.map_congr_left (fun i hi => (hp i (List.mem_range.1 hi)).2.2)]
      rfl

end Go.Proofs.Ytegkkoggfjgkbaa.Wi

namespace Go.Proofs.Ytegkkoggfjgkbaa.Wi
open Go.RowKit
set_option linter.unusedVariables false

theorem bulk_append {H : Type} (l r : List (DataW H)) : Rows.uptoBulkAll (l ++ r) = Rows.uptoBulkAll l + Rows.uptoBulkAll r := by
  induction l with
  | nil => simp [Rows.uptoBulkAll]
  | cons x l ih => simp only [List.cons_append, Rows.uptoBulkAll, ih]; omega
theorem bulk_datum {H : Type} (p : Pt) : Rows.uptoBulk (p.datum : DataW H) = p.s.size + 6 := by
  simp only [Pt.datum, Rows.uptoBulk, Rows.uptoBulkAll, Array.length_toList]
  have : p.s.data.size = p.s.size := rfl
  omega
theorem pt_short (p : Pt) (hf : p.fits) (hs : p.s.size < 2 ^ 64) : p.bytes.length ≤ 9 + p.s.size := by
  obtain ⟨h1, h2, h3, h4, h5, h6⟩ := hf
  unfold Pt.bytes ptBytes
  split
  · rw [M.form_length]; have := M.nb_le p.V.toNat (by omega); omega
  · split
    · rw [M.form_length]; have := M.nb_le p.N.toNat (by omega); omega
    · rw [List.length_append, M.form_length, sb_length]; have := M.nb_le p.s.size hs; omega
theorem bulk_bytes {H : Type} (P : List Pt) (hf : ∀ p ∈ P, p.fits) (hb : Rows.uptoBulkAll (P.map fun p => (p.datum : DataW H)) ≤ 1048576) : (allBytes P).length ≤ 9 * Rows.uptoBulkAll (P.map fun p => (p.datum : DataW H)) := by
  induction P with
  | nil => simp [allBytes]
  | cons p r ih =>
    simp only [List.map_cons, Rows.uptoBulkAll, bulk_datum] at hb ⊢
    have h1 := ih (fun q hq => hf q (List.mem_cons_of_mem _ hq)) (by omega)
    have h2 := pt_short p (hf p (List.mem_cons_self ..)) (by omega)
    have e : allBytes (p :: r) = p.bytes ++ allBytes r := by simp [allBytes]
    rw [e, List.length_append]
    omega
theorem bulk_get {H : Type} (P : List Pt) (k : Nat) (h : k < P.length) : P[k].s.size + 6 + Rows.uptoBulkAll ((P.take k).map fun p => (p.datum : DataW H)) ≤ Rows.uptoBulkAll (P.map fun p => (p.datum : DataW H)) := by
  have h2 : P = P.take k ++ (P[k] :: P.drop (k + 1)) := by rw [← List.drop_eq_getElem_cons h, List.take_append_drop]
  have e : Rows.uptoBulkAll (P.map fun p => (p.datum : DataW H)) = Rows.uptoBulkAll ((P.take k ++ (P[k] :: P.drop (k + 1))).map fun p => (p.datum : DataW H)) := congrArg (fun l => Rows.uptoBulkAll (List.map (fun p : Pt => (p.datum : DataW H)) l)) h2
  rw [e, List.map_append, bulk_append, List.map_cons]
  simp only [Rows.uptoBulkAll, bulk_datum]
  omega
/-- What the bound gives. -/
theorem small_puts {H : Type} (P : List Pt) (hf : ∀ i (h : i < P.length), P[i].fits) (hb : Rows.uptoBulkAll (P.map fun p => (p.datum : DataW H)) ≤ 1048576) :
    (allBytes P).length ≤ 140737488355328 ∧ ∀ k (h : k < P.length), (allBytes (P.take k)).length + 9 + P[k].s.size ≤ 140737488355328 := by
  have hf2 : ∀ p ∈ P, p.fits := fun p hp => by
    obtain ⟨j, hj, rfl⟩ := List.getElem_of_mem hp
    exact hf j hj
  refine ⟨by have := bulk_bytes P hf2 hb; omega, fun k h => ?_⟩
  have h1 := bulk_get (H := H) P k h
  have h2 := bulk_bytes (H := H) (P.take k) (fun p hp => hf2 p (List.mem_of_mem_take hp)) (by omega)
  omega
#print axioms small_puts

end Go.Proofs.Ytegkkoggfjgkbaa.Wi
