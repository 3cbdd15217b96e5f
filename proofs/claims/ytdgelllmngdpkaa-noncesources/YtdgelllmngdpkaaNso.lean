import Derived.Test.YtdgelllmngdpkaaNsw
import Derived.Test.YtdgelllmngdpkaaFo
import Derived.Deep.SlicePairs
import Derived.SizedLaws
namespace Go.Proofs.Ytdgelllmngdpkaa
open Go.ChangeShapes Go.WideShapes Go.ChangeAt Go.RowKit
set_option linter.unusedVariables false

/-- Draws that came in. -/
def Came (W : World) (a : Option Addr) (len cap : Nat) : Prop := ∃ D : List (Int × Int), D.length = len ∧ Sl W (.slice a len cap) D a cap ∧ len * 16 ≤ 140737488351232 ∧ ∀ z, a = some z → D ≠ [] → z.block < W.heap.size
theorem sources_came (a0 a1 : Int) (a2 : Option Addr) (len2 cap2 : Nat) (a3 : Option Addr) (len3 cap3 : Nat) (W : World) (w0 : (Lit.int .u64 a0).wf = true) (w1 : (Lit.int .u64 a1).wf = true) (w2 : Came W a2 len2 cap2) (w3 : CameQ W a3 len3 cap3) :
    Calls Try.prog 3 #[.int .u64 a0, .int .u64 a1, .slice a2 len2 cap2, .slice a3 len3 cap3] W fun e w' => e = .returned (.bool true) ∧ Below W.heap.size W w' := by
  obtain ⟨D, rfl, hs, hb, hz⟩ := w2
  exact sources_walk a0 a1 D a2 a3 cap2 len3 cap3 W (u64_wf w0) (u64_wf w1) hs hb hz w3
theorem bytes_draw : Try.prog.bytesOf 44 = 16 := by kernel_rfl
set_option maxRecDepth 100000 in
theorem open_draws {H : Type} {enc : TypeId × Value → H} {W : World} {base : Nat} {v : Value} {d : DataW H} {p : List MemPlace} (hv : Value.okWide Try.prog W .any base 23 v) (h : DataW.Trod enc Try.prog W 0 (fun _ => true) true 23 v d p)
    (hs : ∀ el sp, d = .slice el sp → (el.length + sp.length) * Try.prog.bytesOf 44 ≤ reachBytes) :
    ∃ a len cap, v = .slice a len cap ∧ Came W a len cap := by
  obtain ⟨a, len, cap, rfl⟩ := okWide_slice Try.underlying23 hv
  refine ⟨a, len, cap, rfl, ?_⟩
  obtain ⟨fuel, hf⟩ := h
  rcases Go.Deep.open_slice_pairs Try.underlying23 Try.underlying44 cells_draw rfl rfl cells_u64 cells_u64 hf with ⟨hcs, _⟩ | ⟨x, ln, cp, m, n, V0, V1, D0, D1, P0, P1, hcs, _, hl, hm, hmm, hx, hall⟩
  · simp [Value.cells] at hcs
    obtain ⟨rfl, rfl, rfl⟩ := hcs
    exact ⟨[], rfl, ⟨rfl, Nat.le_refl _, by unfold maxLen; omega, fun _ => ⟨rfl, rfl⟩, fun x hx => by cases hx⟩, by omega, fun z hz => by cases hz⟩
  · simp [Value.cells] at hcs
    obtain ⟨rfl, rfl, rfl⟩ := hcs
    have hd := hs _ _ (congrArg Prod.fst hx)
    rw [bytes_draw] at hd
    simp only [List.length_map, List.length_range, reachBytes] at hd
    have hmc : m = cap := by rw [hmm]; rfl
    subst hmc
    have each : ∀ i, i < m → W.cell? (x.add (i * 2)) = some (.int .u64 (intOf (V0 i))) ∧ W.cell? (x.add (i * 2 + 1)) = some (.int .u64 (intOf (V1 i))) := by
      intro i hi
      obtain ⟨c0, c1, t0, t1⟩ := hall i hi
      obtain ⟨K, hK, _, _⟩ := DataW.trod_int Try.underlying22 t0
      obtain ⟨N, hN, _, hNw⟩ := DataW.trod_int Try.underlying22 t1
      have e0 := List.cons_eq_cons.1 hK |>.1
      have e1 := List.cons_eq_cons.1 hN |>.1
      rw [c0, c1, e0, e1]
      exact ⟨rfl, rfl⟩
    refine ⟨(List.range len).map fun i => (intOf (V0 i), intOf (V1 i)), by simp, ?_, by omega, ?_⟩
    · refine ⟨by simp, by simpa using hl, hm, (fun e => by cases e), fun y hy => ?_⟩
      cases hy
      by_cases hc0 : m = 0
      · left
        refine ⟨?_, hc0⟩
        have : len = 0 := by omega
        subst this
        rfl
      · right
        have z0 := (each 0 (by omega)).1
        have hb0 := World.block_lt_of_cell? _ _ z0
        obtain ⟨b, o, s⟩ := x
        have hsp := World.cell?_spot z0
        obtain rfl : s = none := by
          rw [Nat.zero_mul] at hsp
          simpa [Addr.add] using hsp
        refine ⟨b, o, rfl, by simpa [Addr.add_lit] using hb0, fun i d hd => ?_⟩
        have hi : i < len := by
          have := (List.getElem?_eq_some_iff.1 hd).1
          simpa using this
        simp [hi] at hd
        subst hd
        obtain ⟨c0, c1⟩ := each i (by omega)
        rw [Addr.add_lit] at c0 c1
        exact ⟨c0, by rw [Nat.add_assoc]; exact c1⟩
    · intro z hz hne
      cases hz
      have hlen : 0 < len := by
        rcases Nat.eq_zero_or_pos len with h | h
        · subst h; exact absurd rfl hne
        · exact h
      have z0 := (each 0 (by omega)).1
      have hb0 := World.block_lt_of_cell? _ _ z0
      obtain ⟨b, o, s⟩ := x
      simpa [Addr.add] using hb0
theorem opCells2 : Try.prog.cellsOf 53 = 3 := by kernel_rfl
theorem opBytes2 : Try.prog.bytesOf 53 = 24 := by kernel_rfl
theorem intCells2 : Try.prog.cellsOf 3 = 1 := by kernel_rfl
theorem boolCells2 : Try.prog.cellsOf 4 = 1 := by kernel_rfl
set_option maxRecDepth 100000 in
theorem open_op2 {H : Type} {enc : TypeId × Value → H} {W : World} {base : Nat} {sp : Nat → Bool} {held : Bool} {n : Nat} {cs : List Value} {x : DataW H × List MemPlace} (h : DataW.trod enc Try.prog W base sp held n 53 cs = some x) :
    ∃ K wh N, cs = [.int .i64 K, .bool wh, .int .u64 N] ∧ 0 ≤ N ∧ N ≤ 18446744073709551615 := by
  obtain ⟨xs, k, hk, hxy, hlen, hxl, hf⟩ := DataW.trod_struct Try.underlying53 h
  rw [opCells2] at hlen
  have hxl : xs.length = 3 := hxl
  match xs, hxl, cs, hlen with
  | [y0, y1, y2], _, [v0, v1, v2], _ =>
    have g0 := hf 0 _ rfl
    have g1 := hf 1 _ rfl
    have g2 := hf 2 _ rfl
    simp [intCells2, boolCells2, cells_u64] at g0 g1 g2
    obtain ⟨K, hK, hx0, hw0⟩ := DataW.trod_int Try.underlying3 g0
    obtain ⟨b, hN, hx2⟩ := DataW.trod_bool Try.underlying4 g1
    obtain ⟨N, hS, hx4, hw4⟩ := DataW.trod_int Try.underlying22 g2
    refine ⟨K, b, N, ?_, u64_wf hw4⟩
    rw [(List.cons_eq_cons.1 hK).1, (List.cons_eq_cons.1 hN).1, (List.cons_eq_cons.1 hS).1]
set_option maxRecDepth 100000 in
theorem open_script2 {H : Type} {enc : TypeId × Value → H} {W : World} {base : Nat} {v : Value} {d : DataW H} {p : List MemPlace} (hv : Value.okWide Try.prog W .any base 24 v) (h : DataW.Trod enc Try.prog W 0 (fun _ => true) true 24 v d p)
    (hs : ∀ el sp, d = .slice el sp → (el.length + sp.length) * Try.prog.bytesOf 53 ≤ reachBytes) :
    ∃ a len cap, v = .slice a len cap ∧ CameQ W a len cap := by
  obtain ⟨a, n, c, rfl⟩ := okWide_slice Try.underlying24 hv
  refine ⟨a, n, c, rfl, ?_⟩
  obtain ⟨fuel, h⟩ := h
  simp only [Value.cells] at h
  rcases Go.Deep.open_slice Try.underlying24 h with ⟨hcs, hx⟩ | ⟨y, ln, cp, m, k, D, Pl, hcs, hb, hl, hm, hmm, hx, hall⟩
  · have e := (List.cons_eq_cons.1 hcs).1
    cases e
    exact ⟨Nat.le_refl _, by omega, fun i hi => by omega⟩
  · have e := (List.cons_eq_cons.1 hcs).1
    cases e
    have hd := hs _ _ (congrArg Prod.fst hx)
    rw [opBytes2] at hd
    simp only [List.length_map, List.length_range, reachBytes] at hd
    have hmc : m = c := by rw [hmm]; rfl
    subst hmc
    refine ⟨hl, by omega, fun i hi => ?_⟩
    obtain ⟨cs', h1, h2⟩ := hall i (by omega)
    rw [opCells2] at h1
    obtain ⟨K, wh, N, rfl, n0, n1⟩ := open_op2 h2
    obtain ⟨_, _, hcell⟩ := World.cells?_some h1
    have z0 := hcell 0 (by omega)
    have z1 := hcell 1 (by omega)
    have z2 := hcell 2 (by omega)
    obtain ⟨cs0, h10, _⟩ := hall 0 (by omega)
    rw [opCells2] at h10
    obtain ⟨hl0, _, hcell0⟩ := World.cells?_some h10
    have y0 := (hcell0 0 (by omega)).trans (List.getElem?_eq_getElem (by omega))
    obtain ⟨b, o, s⟩ := y
    have hsp := World.cell?_spot y0
    obtain rfl : s = none := by
      rw [Nat.zero_mul] at hsp
      simpa [Addr.add] using hsp
    rw [Addr.add_lit, Addr.add_lit] at z0 z1 z2
    exact ⟨b, o, K, wh, N, rfl, World.block_lt_of_cell? _ _ z0, z0, z1, z2, n0, n1⟩

end Go.Proofs.Ytdgelllmngdpkaa
