import Derived.Test.YtfafhlahbhopaaaRows
import Derived.Deep.SlicePairs
import Derived.ChangeOld
import Derived.OpenShut
import Derived.ProofKit
import Derived.SizedLaws
import Derived.Test.YtfafhlahbhopaaaG4
set_option maxRecDepth 100000
set_option linter.unusedVariables false
set_option linter.unusedSimpArgs false
namespace Go.Proofs.Ytfafhlahbhopaaa
open Go.ChangeShapes Go.WideShapes Go.RowKit
open Classical
theorem cellsI20 : Try.prog.cellsOf 3 = 1 := by kernel_rfl
theorem cellsS20 : Try.prog.cellsOf 9 = 1 := by kernel_rfl
theorem cellsO20 : Try.prog.cellsOf 26 = 3 := by kernel_rfl
theorem cellsE20 : Try.prog.cellsOf 28 = 5 := by kernel_rfl
end Go.Proofs.Ytfafhlahbhopaaa
namespace Go.Proofs.Ytfafhlahbhopaaa
open Go.ChangeShapes Go.WideShapes Go.ChangeAt Go.RowKit Go.Maps
open Classical
theorem op_w20 {H : Type} {enc : TypeId × Value → H} {W : World} {n : Nat} {cs : List Value} {x : DataW H × List MemPlace} (h : DataW.trod enc Try.prog W 0 (fun _ => true) true n 26 cs = some x) (hw : ∀ k, k ∈ x.1.weights Try.prog 26 → k ≤ reachBytes) :
    ∃ p : Opn, p.v.size ≤ 140737488351232 ∧ cs = [.int .i64 p.k, .int .i64 p.s, .string p.v] := by
  obtain ⟨xs, k, hk, hxy, hlen, hxl, hf⟩ := DataW.trod_struct Try.underlying26 h
  rw [cellsO20] at hlen
  have hxl : xs.length = 3 := hxl
  match xs, hxl, cs, hlen with
  | [y0, y1, y2], _, [v0, v1, v2], _ =>
    have hd : x.1 = .agg ([y0, y1, y2].map Prod.fst) := congrArg Prod.fst hxy
    have g0 := hf 0 _ rfl
    have g1 := hf 1 _ rfl
    have g2 := hf 2 _ rfl
    simp [cellsI20, cellsS20] at g0 g1 g2
    obtain ⟨K, hK, hx0, hw0⟩ := DataW.trod_int Try.underlying3 g0
    obtain ⟨N, hN, hx2, hw2⟩ := DataW.trod_int Try.underlying3 g1
    obtain ⟨t, hS, hx4, hw4⟩ := DataW.trod_string Try.underlying9 g2
    have hwt : t.data.toList.length ≤ reachBytes := hw _ (by
      rw [hd]
      simp only [DataW.weights, Try.underlying26]
      refine DataW.weights_mem_each (j := 2) (t := 9) (d := y2.1) rfl rfl _ ?_
      rw [hx4]
      simp [DataW.weights])
    refine ⟨⟨K, N, t⟩, ?_, ?_⟩
    · show t.data.size ≤ _
      rw [← Array.length_toList]
      exact hwt
    · rw [(List.cons_eq_cons.1 hK).1, (List.cons_eq_cons.1 hN).1, (List.cons_eq_cons.1 hS).1]
theorem enc_w20 {H : Type} {enc : TypeId × Value → H} {W : World} {n : Nat} {cs : List Value} {x : DataW H × List MemPlace} (h : DataW.trod enc Try.prog W 0 (fun _ => true) true n 28 cs = some x) (hw : ∀ k, k ∈ x.1.weights Try.prog 28 → k ≤ reachBytes) :
    ∃ p : En, p.o.v.size ≤ 140737488351232 ∧ cs = p.cs := by
  obtain ⟨xs, k, hk, hxy, hlen, hxl, hf⟩ := DataW.trod_struct Try.underlying28 h
  rw [cellsE20] at hlen
  have hxl : xs.length = 3 := hxl
  match xs, hxl, cs, hlen with
  | [y0, y1, y2], _, [v0, v1, v2, v3, v4], _ =>
    have hd : x.1 = .agg ([y0, y1, y2].map Prod.fst) := congrArg Prod.fst hxy
    have g0 := hf 0 _ rfl
    have g1 := hf 1 _ rfl
    have g2 := hf 2 _ rfl
    simp [cellsI20, cellsO20] at g0 g1 g2
    obtain ⟨K, hK, hx0, hw0⟩ := DataW.trod_int Try.underlying3 g0
    obtain ⟨N, hN, hx2, hw2⟩ := DataW.trod_int Try.underlying3 g1
    obtain ⟨o, ho, e⟩ := op_w20 g2 (fun k hk => hw k (by
      rw [hd]
      simp only [DataW.weights, Try.underlying28]
      exact DataW.weights_mem_each (j := 2) (t := 26) (d := y2.1) rfl rfl _ hk))
    refine ⟨⟨K, N, o⟩, ho, ?_⟩
    have e0 := (List.cons_eq_cons.1 hK).1
    have e1 := (List.cons_eq_cons.1 hN).1
    simp at e
    obtain ⟨e2, e3, e4⟩ := e
    subst e0 e1 e2 e3 e4
    rfl
theorem open_entW {H : Type} {enc : TypeId × Value → H} {W : World} {base : Nat} {v : Value} {d : DataW H} {p : List MemPlace} (hv : Value.okWide Try.prog W .any base 28 v) (h : DataW.Trod enc Try.prog W 0 (fun _ => true) true 28 v d p)
    (hw : ∀ m, m ∈ d.weights Try.prog 28 → m ≤ reachBytes) : ∃ x : En, v = x.val20 ∧ x.o.v.size ≤ 140737488351232 := by
  obtain ⟨cs, rfl, hsz⟩ := okWide_struct Try.underlying28 hv
  obtain ⟨fuel, hf⟩ := h
  obtain ⟨x, hx, e⟩ := enc_w20 hf hw
  refine ⟨x, ?_, hx⟩
  have e2 : cs.toList = x.cs := e
  have e3 : cs = x.cs.toArray := by rw [← e2]
  rw [e3]
  rfl
end Go.Proofs.Ytfafhlahbhopaaa
