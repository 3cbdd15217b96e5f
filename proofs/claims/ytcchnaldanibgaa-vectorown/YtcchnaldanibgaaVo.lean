import Derived.Test.YtcchnaldanibgaaVb
import Derived.ChangeOld
import Derived.ProofKit
import Derived.OpenShut
import Derived.Deep.SlicePairs
import Derived.SizedLaws
namespace Go.Proofs.Ytcchnaldanibgaa
open Go.ChangeShapes Go.WideShapes Go.ChangeAt Go.RowKit
set_option linter.unusedVariables false

theorem cells_draw : Try.prog.cellsOf 26 = 2 := by kernel_rfl
theorem cells_u64 : Try.prog.cellsOf 24 = 1 := by kernel_rfl
set_option maxRecDepth 100000 in
/-- A draw that came in by value. -/
theorem open_draw {H : Type} {enc : TypeId × Value → H} {W : World} {base : Nat} {v : Value} {d : DataW H} {p : List MemPlace} (hv : Value.okWide Try.prog W .any base 26 v) (h : DataW.Trod enc Try.prog W 0 (fun _ => true) true 26 v d p) :
    ∃ x y : Int, v = .agg #[.int .u64 x, .int .u64 y] ∧ (0 ≤ x ∧ x ≤ 18446744073709551615) ∧ (0 ≤ y ∧ y ≤ 18446744073709551615) := by
  obtain ⟨cs, rfl, hsz⟩ := okWide_struct Try.underlying26 hv
  have h1 := cells_u64
  rw [cells_draw] at hsz
  obtain ⟨c0, c1, rfl⟩ : ∃ c0 c1, cs = #[c0, c1] := by
    obtain ⟨l⟩ := cs
    match l, hsz with
    | [c0, c1], _ => exact ⟨c0, c1, rfl⟩
  obtain ⟨fuel, hf⟩ := h
  obtain ⟨y0, y1, n, _, _, g0, g1⟩ := trod_struct2 Try.underlying26 hf
  simp [Value.cells, h1] at g0 g1
  obtain ⟨A, hA, _, hAw⟩ := DataW.trod_int Try.underlying24 g0
  obtain ⟨B, hB, _, hBw⟩ := DataW.trod_int Try.underlying24 g1
  rw [List.cons_eq_cons.1 hA |>.1, List.cons_eq_cons.1 hB |>.1]
  exact ⟨A, B, rfl, u64_wf hAw, u64_wf hBw⟩

/-- Draws that came in. -/
def Came (W : World) (a : Option Addr) (len cap : Nat) : Prop := ∃ D : List (Int × Int), D.length = len ∧ Sl W (.slice a len cap) D a cap ∧ len * 16 ≤ 140737488351232 ∧ ∀ z, a = some z → D ≠ [] → z.block < W.heap.size
theorem bytes_draw : Try.prog.bytesOf 26 = 16 := by kernel_rfl
set_option maxRecDepth 100000 in
theorem open_vec {H : Type} {enc : TypeId × Value → H} {W : World} {base : Nat} {v : Value} {d : DataW H} {p : List MemPlace} (hv : Value.okWide Try.prog W .any base 23 v) (h : DataW.Trod enc Try.prog W 0 (fun _ => true) true 23 v d p)
    (hs : ∀ el sp, d = .slice el sp → (el.length + sp.length) * Try.prog.bytesOf 26 ≤ reachBytes) :
    ∃ a len cap, v = .slice a len cap ∧ Came W a len cap := by
  obtain ⟨a, len, cap, rfl⟩ := okWide_slice Try.underlying23 hv
  refine ⟨a, len, cap, rfl, ?_⟩
  obtain ⟨fuel, hf⟩ := h
  rcases Go.Deep.open_slice_pairs Try.underlying23 Try.underlying26 cells_draw rfl rfl cells_u64 cells_u64 hf with ⟨hcs, _⟩ | ⟨x, ln, cp, m, n, V0, V1, D0, D1, P0, P1, hcs, _, hl, hm, hmm, hx, hall⟩
  · simp [Value.cells] at hcs
    obtain ⟨rfl, rfl, rfl⟩ := hcs
    exact ⟨[], rfl, ⟨rfl, Nat.le_refl _, by unfold maxLen; omega, fun _ => ⟨rfl, rfl⟩, fun x hx => by cases hx⟩, by omega, fun z hz => by cases hz⟩
  · simp [Value.cells] at hcs
    obtain ⟨rfl, rfl, rfl⟩ := hcs
    have hd := hs _ _ (congrArg Prod.fst hx)
    rw [bytes_draw] at hd
    simp only [List.length_map, List.length_range, reachBytes] at hd
    have hmc : m = cap := by rw [hmm]; rfl
    subst hmc
    have each : ∀ i, i < m → W.cell? (x.add (i * 2)) = some (.int .u64 (intOf (V0 i))) ∧ W.cell? (x.add (i * 2 + 1)) = some (.int .u64 (intOf (V1 i))) := by
      intro i hi
      obtain ⟨c0, c1, t0, t1⟩ := hall i hi
      obtain ⟨K, hK, _, _⟩ := DataW.trod_int Try.underlying24 t0
      obtain ⟨N, hN, _, hNw⟩ := DataW.trod_int Try.underlying24 t1
      have e0 := List.cons_eq_cons.1 hK |>.1
      have e1 := List.cons_eq_cons.1 hN |>.1
      rw [c0, c1, e0, e1]
      exact ⟨rfl, rfl⟩
    refine ⟨(List.range len).map fun i => (intOf (V0 i), intOf (V1 i)), by simp, ?_, by omega, ?_⟩
    · refine ⟨by simp, by simpa using hl, hm, (fun e => by cases e), fun y hy => ?_⟩
      cases hy
      by_cases hc0 : m = 0
      · left
        refine ⟨?_, hc0⟩
        have : len = 0 := by omega
        subst this
        rfl
      · right
        have z0 := (each 0 (by omega)).1
        have hb0 := World.block_lt_of_cell? _ _ z0
        obtain ⟨b, o, s⟩ := x
        have hsp := World.cell?_spot z0
        obtain rfl : s = none := by
          rw [Nat.zero_mul] at hsp
          simpa [Addr.add] using hsp
        refine ⟨b, o, rfl, by simpa [Addr.add_lit] using hb0, fun i d hd => ?_⟩
        have hi : i < len := by
          have := (List.getElem?_eq_some_iff.1 hd).1
          simpa using this
        simp [hi] at hd
        subst hd
        obtain ⟨c0, c1⟩ := each i (by omega)
        rw [Addr.add_lit] at c0 c1
        exact ⟨c0, by rw [Nat.add_assoc]; exact c1⟩
    · intro z hz hne
      cases hz
      have hlen : 0 < len := by
        rcases Nat.eq_zero_or_pos len with h | h
        · subst h; exact absurd rfl hne
        · exact h
      have z0 := (each 0 (by omega)).1
      have hb0 := World.block_lt_of_cell? _ _ z0
      obtain ⟨b, o, s⟩ := x
      simpa [Addr.add] using hb0

end Go.Proofs.Ytcchnaldanibgaa
