import Derived.Test.YtolnkoneilipeaaMe
namespace Go.Proofs.Ytolnkoneilipeaa
open Go.ChangeShapes Go.WideShapes Go.ChangeAt Go.RowKit
open Classical
set_option linter.unusedVariables false

theorem cellCells : Try.prog.cellsOf 29 = 2 := by kernel_rfl
theorem cellBytes : Try.prog.bytesOf 29 = 24 := by kernel_rfl
/-- Cells that came in. -/
def CameC (W : World) (a : Option Addr) (len cap : Nat) : Prop := ∃ D : List Cl, D.length = len ∧ SlC W (.slice a len cap) D a cap ∧ (∀ p ∈ D, (Lit.int .i64 p.1).wf = true ∧ p.2.size ≤ maxLen) ∧ len * 24 ≤ 140737488351232
def bytesOf' (v : Value) : ByteArray := match v with | .string s => s | _ => ByteArray.empty
set_option maxRecDepth 100000 in
theorem open_cells {H : Type} {enc : TypeId × Value → H} {W : World} {base : Nat} {v : Value} {d : DataW H} {p : List MemPlace} (hv : Value.okWide Try.prog W .any base 22 v) (h : DataW.Trod enc Try.prog W 0 (fun _ => true) true 22 v d p)
    (hs : ∀ el sp, d = .slice el sp → (el.length + sp.length) * Try.prog.bytesOf 29 ≤ reachBytes) :
    ∃ a len cap, v = .slice a len cap ∧ CameC W a len cap := by
  obtain ⟨a, len, cap, rfl⟩ := okWide_slice Try.underlying22 hv
  refine ⟨a, len, cap, rfl, ?_⟩
  obtain ⟨fuel, hf⟩ := h
  rcases Go.Deep.open_slice_pairs Try.underlying22 Try.underlying29 cellCells rfl rfl intCells strCells hf with ⟨hcs, _⟩ | ⟨x, ln, cp, m, n, V0, V1, D0, D1, P0, P1, hcs, _, hl, hm, hmm, hx, hall⟩
  · simp [Value.cells] at hcs
    obtain ⟨rfl, rfl, rfl⟩ := hcs
    exact ⟨[], rfl, ⟨rfl, Nat.le_refl _, by unfold maxLen; omega, fun _ => ⟨rfl, rfl⟩, fun x hx => by cases hx⟩, by simp, by omega⟩
  · simp [Value.cells] at hcs
    obtain ⟨rfl, rfl, rfl⟩ := hcs
    have hd := hs _ _ (congrArg Prod.fst hx)
    rw [cellBytes] at hd
    simp only [List.length_map, List.length_range, reachBytes] at hd
    have hmc : m = cap := by rw [hmm]; rfl
    subst hmc
    have each : ∀ i, i < m → W.cell? (x.add (i * 2)) = some (.int .i64 (intOf (V0 i))) ∧ W.cell? (x.add (i * 2 + 1)) = some (.string (bytesOf' (V1 i))) ∧ (Lit.int .i64 (intOf (V0 i))).wf = true ∧ (bytesOf' (V1 i)).size ≤ maxLen := by
      intro i hi
      obtain ⟨c0, c1, t0, t1⟩ := hall i hi
      obtain ⟨K, hK, _, hKw⟩ := DataW.trod_int Try.underlying3 t0
      obtain ⟨N, hN, _, hNw⟩ := DataW.trod_string Try.underlying9 t1
      have e0 := List.cons_eq_cons.1 hK |>.1
      have e1 := List.cons_eq_cons.1 hN |>.1
      rw [c0, c1, e0, e1]
      exact ⟨rfl, rfl, hKw, hNw⟩
    refine ⟨(List.range len).map fun i => (intOf (V0 i), bytesOf' (V1 i)), by simp, ?_, ?_, by omega⟩
    · refine ⟨by simp, by simpa using hl, hm, (fun e => by cases e), fun y hy => ?_⟩
      cases hy
      by_cases hc0 : m = 0
      · left
        refine ⟨?_, hc0⟩
        have : len = 0 := by omega
        subst this
        rfl
      · right
        have z0 := (each 0 (by omega)).1
        have hb0 := World.block_lt_of_cell? _ _ z0
        obtain ⟨b, o, s⟩ := x
        have hsp := World.cell?_spot z0
        obtain rfl : s = none := by
          rw [Nat.zero_mul] at hsp
          simpa [Addr.add] using hsp
        refine ⟨b, o, rfl, by simpa [Addr.add_lit] using hb0, fun i d hd => ?_⟩
        have hi : i < len := by
          have := (List.getElem?_eq_some_iff.1 hd).1
          simpa using this
        simp [hi] at hd
        subst hd
        obtain ⟨c0, c1, _⟩ := each i (by omega)
        rw [Addr.add_lit] at c0 c1
        exact ⟨c0, by rw [Nat.add_assoc]; exact c1⟩
    · intro q hq
      obtain ⟨i, hi, rfl⟩ := List.mem_map.1 hq
      obtain ⟨_, _, h1, h2⟩ := each i (by have := List.mem_range.1 hi; omega)
      exact ⟨h1, h2⟩

end Go.Proofs.Ytolnkoneilipeaa
