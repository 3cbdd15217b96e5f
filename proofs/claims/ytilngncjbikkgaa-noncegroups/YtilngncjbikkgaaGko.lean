import Derived.Test.YtilngncjbikkgaaGkn
import Derived.Test.YtilngncjbikkgaaFo
import Derived.Deep.SlicePairs
import Derived.SizedLaws
namespace Go.Proofs.Ytilngncjbikkgaa
open Go.ChangeShapes Go.WideShapes Go.ChangeAt Go.RowKit
set_option linter.unusedVariables false

theorem groups_came (a0 a1 a2 : Int) (a3 : Option Addr) (len3 cap3 : Nat) (W : World) (w2 : (Lit.int .u64 a2).wf = true) (w3 : CameB W a3 len3 cap3) :
    Calls Try.prog 3 #[.int .i64 a0, .int .i64 a1, .int .u64 a2, .slice a3 len3 cap3] W fun e w' => e = .returned (.bool true) ∧ Below W.heap.size W w' :=
  groups_walk a0 a1 a2 a3 len3 cap3 W (u64_wf w2).1 (u64_wf w2).2 w3
theorem actCells2 : Try.prog.cellsOf 34 = 3 := by kernel_rfl
theorem actBytes2 : Try.prog.bytesOf 34 = 24 := by kernel_rfl
theorem intCellsA : Try.prog.cellsOf 3 = 1 := by kernel_rfl
theorem u64CellsA : Try.prog.cellsOf 22 = 1 := by kernel_rfl
set_option maxRecDepth 100000 in
theorem open_act3 {H : Type} {enc : TypeId × Value → H} {W : World} {base : Nat} {sp : Nat → Bool} {held : Bool} {n : Nat} {cs : List Value} {x : DataW H × List MemPlace} (h : DataW.trod enc Try.prog W base sp held n 34 cs = some x) :
    ∃ K nd N, cs = [.int .i64 K, .int .i64 nd, .int .u64 N] ∧ 0 ≤ N ∧ N ≤ 18446744073709551615 := by
  obtain ⟨xs, k, hk, hxy, hlen, hxl, hf⟩ := DataW.trod_struct Try.underlying34 h
  rw [actCells2] at hlen
  have hxl : xs.length = 3 := hxl
  match xs, hxl, cs, hlen with
  | [y0, y1, y2], _, [v0, v1, v2], _ =>
    have g0 := hf 0 _ rfl
    have g1 := hf 1 _ rfl
    have g2 := hf 2 _ rfl
    simp [intCellsA, u64CellsA] at g0 g1 g2
    obtain ⟨K, hK, hx0, hw0⟩ := DataW.trod_int Try.underlying3 g0
    obtain ⟨b, hN, hx2, hw2⟩ := DataW.trod_int Try.underlying3 g1
    obtain ⟨N, hS, hx4, hw4⟩ := DataW.trod_int Try.underlying22 g2
    refine ⟨K, b, N, ?_, u64_wf hw4⟩
    rw [(List.cons_eq_cons.1 hK).1, (List.cons_eq_cons.1 hN).1, (List.cons_eq_cons.1 hS).1]
set_option maxRecDepth 100000 in
theorem open_acts3 {H : Type} {enc : TypeId × Value → H} {W : World} {base : Nat} {v : Value} {d : DataW H} {p : List MemPlace} (hv : Value.okWide Try.prog W .any base 23 v) (h : DataW.Trod enc Try.prog W 0 (fun _ => true) true 23 v d p)
    (hs : ∀ el sp, d = .slice el sp → (el.length + sp.length) * Try.prog.bytesOf 34 ≤ reachBytes) :
    ∃ a len cap, v = .slice a len cap ∧ CameB W a len cap := by
  obtain ⟨a, n, c, rfl⟩ := okWide_slice Try.underlying23 hv
  refine ⟨a, n, c, rfl, ?_⟩
  obtain ⟨fuel, h⟩ := h
  simp only [Value.cells] at h
  rcases Go.Deep.open_slice Try.underlying23 h with ⟨hcs, hx⟩ | ⟨y, ln, cp, m, k, D, Pl, hcs, hb, hl, hm, hmm, hx, hall⟩
  · have e := (List.cons_eq_cons.1 hcs).1
    cases e
    exact ⟨Nat.le_refl _, by omega, fun i hi => by omega⟩
  · have e := (List.cons_eq_cons.1 hcs).1
    cases e
    have hd := hs _ _ (congrArg Prod.fst hx)
    rw [actBytes2] at hd
    simp only [List.length_map, List.length_range, reachBytes] at hd
    have hmc : m = c := by rw [hmm]; rfl
    subst hmc
    refine ⟨hl, by omega, fun i hi => ?_⟩
    obtain ⟨cs', h1, h2⟩ := hall i (by omega)
    rw [actCells2] at h1
    obtain ⟨K, nd, N, rfl, n0, n1⟩ := open_act3 h2
    obtain ⟨_, _, hcell⟩ := World.cells?_some h1
    have z0 := hcell 0 (by omega)
    have z1 := hcell 1 (by omega)
    have z2 := hcell 2 (by omega)
    obtain ⟨cs0, h10, _⟩ := hall 0 (by omega)
    rw [actCells2] at h10
    obtain ⟨hl0, _, hcell0⟩ := World.cells?_some h10
    have y0 := (hcell0 0 (by omega)).trans (List.getElem?_eq_getElem (by omega))
    obtain ⟨b, o, s⟩ := y
    have hsp := World.cell?_spot y0
    obtain rfl : s = none := by
      rw [Nat.zero_mul] at hsp
      simpa [Addr.add] using hsp
    rw [Addr.add_lit, Addr.add_lit] at z0 z1 z2
    exact ⟨b, o, K, nd, N, rfl, World.block_lt_of_cell? _ _ z0, z0, z1, z2, n0, n1⟩


end Go.Proofs.Ytilngncjbikkgaa
