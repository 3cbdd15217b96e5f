import Derived.Test.YtaagoneajngdcaaPr
import Derived.Test.YtaagoneajngdcaaCm
import Derived.Deep.SlicePairs
namespace Go.Proofs.Ytaagoneajngdcaa
open Go.RowKit Go.ChangeShapes Go.WideShapes
set_option linter.unusedVariables false

theorem putCells : Try.prog.cellsOf 35 = 5 := by kernel_rfl
theorem intCells : Try.prog.cellsOf 3 = 1 := by kernel_rfl
theorem u64Cells : Try.prog.cellsOf 33 = 1 := by kernel_rfl
theorem strCells : Try.prog.cellsOf 9 = 1 := by kernel_rfl
theorem u64_wf {a : Int} (h : (Lit.int .u64 a).wf = true) : 0 ≤ a ∧ a < 18446744073709551616 := by
  simp [Lit.wf, IntKind.min, IntKind.max, IntKind.bits, IntKind.signed] at h
  omega
set_option maxRecDepth 100000 in
theorem open_put {H : Type} {enc : TypeId × Value → H} {W : World} {base : Nat} {sp : Nat → Bool} {held : Bool} {n : Nat} {cs : List Value} {x : DataW H × List MemPlace} (h : DataW.trod enc Try.prog W base sp held n 35 cs = some x) :
    ∃ p : Pt, p.fits ∧ cs = [.int .i64 p.K, .int .u64 p.V, .int .i64 p.N, .int .i64 p.m, .string p.s] ∧ x.1 = .agg [.lit (.int .i64 p.K), .lit (.int .u64 p.V), .lit (.int .i64 p.N), .lit (.int .i64 p.m), .lit (.string p.s.data.toList)] := by
  obtain ⟨xs, k, hk, hxy, hlen, hxl, hf⟩ := DataW.trod_struct Try.underlying35 h
  rw [putCells] at hlen
  have hxl : xs.length = 5 := hxl
  match xs, hxl, cs, hlen with
  | [y0, y1, y2, y3, y4], _, [v0, v1, v2, v3, v4], _ =>
    have g0 := hf 0 _ rfl
    have g1 := hf 1 _ rfl
    have g2 := hf 2 _ rfl
    have g3 := hf 3 _ rfl
    have g4 := hf 4 _ rfl
    simp [intCells, u64Cells, strCells] at g0 g1 g2 g3 g4
    obtain ⟨K, hK, hx0, hw0⟩ := DataW.trod_int Try.underlying3 g0
    obtain ⟨V, hV, hx1, hw1⟩ := DataW.trod_int Try.underlying33 g1
    obtain ⟨N, hN, hx2, hw2⟩ := DataW.trod_int Try.underlying3 g2
    obtain ⟨m, hM, hx3, hw3⟩ := DataW.trod_int Try.underlying3 g3
    obtain ⟨t, hS, hx4, _⟩ := DataW.trod_string Try.underlying9 g4
    obtain ⟨a1, a2⟩ := i64_wf hw2
    obtain ⟨b1, b2⟩ := i64_wf hw3
    obtain ⟨c1, c2⟩ := u64_wf hw1
    refine ⟨⟨K, V, N, m, t⟩, ⟨c1, c2, a1, a2, b1, b2⟩, ?_, ?_⟩
    · rw [(List.cons_eq_cons.1 hK).1, (List.cons_eq_cons.1 hV).1, (List.cons_eq_cons.1 hN).1, (List.cons_eq_cons.1 hM).1, (List.cons_eq_cons.1 hS).1]
    · rw [hxy]
      simp [hx0, hx1, hx2, hx3, hx4]
def Pt.datum {H : Type} (p : Pt) : DataW H := .agg [.lit (.int .i64 p.K), .lit (.int .u64 p.V), .lit (.int .i64 p.N), .lit (.int .i64 p.m), .lit (.string p.s.data.toList)]
instance : Inhabited Pt := ⟨⟨0, 0, 0, 0, ⟨#[]⟩⟩⟩
theorem open_puts {H : Type} {enc : TypeId × Value → H} {W : World} {base : Nat} {sp : Nat → Bool} {held : Bool} {fuel : Nat} {a : Option Addr} {n c : Nat} {x : DataW H × List MemPlace} (h : DataW.trod enc Try.prog W base sp held fuel 22 [.slice a n c] = some x) :
    ∃ P : List Pt, P.length = n ∧ n ≤ c ∧ c ≤ maxLen ∧ Puts W a P ∧ ((x.1 = .nil ∧ P = []) ∨ ∃ spare, x.1 = .slice (P.map Pt.datum) spare) := by
  rcases Go.Deep.open_slice Try.underlying22 h with ⟨hcs, hx⟩ | ⟨y, ln, cp, m, k, D, Pl, hcs, hb, hl, hm, hmm, hx, hall⟩
  · have e := (List.cons_eq_cons.1 hcs).1
    cases e
    exact ⟨[], rfl, Nat.le_refl _, by unfold maxLen; omega, fun i hi => by (simp at hi), .inl ⟨by rw [hx], rfl⟩⟩
  · have e := (List.cons_eq_cons.1 hcs).1
    cases e
    have hlm : n ≤ m := by rw [hmm]; split <;> omega
    have each : ∀ i, i < n → ∃ p : Pt, p.fits ∧ (∀ j, j < 5 → W.cell? ((y.add (i * 5)).add j) = [Value.int .i64 p.K, .int .u64 p.V, .int .i64 p.N, .int .i64 p.m, .string p.s][j]?) ∧ D i = p.datum := by
      intro i hi
      obtain ⟨cs', h1, h2⟩ := hall i (by omega)
      rw [putCells] at h1
      obtain ⟨p, hf, rfl, hd⟩ := open_put h2
      obtain ⟨_, _, hcell⟩ := World.cells?_some h1
      exact ⟨p, hf, hcell, hd⟩
    obtain ⟨p, hp⟩ := Go.Deep.choose_lt each
    refine ⟨(List.range n).map p, by simp, hl, hm, ?_, .inr ⟨(List.range (m - n)).map fun j => D (n + j), ?_⟩⟩
    · intro i hi
      have hi2 : i < n := by simpa using hi
      have e : ((List.range n).map p)[i] = p i := by simp
      rw [e]
      obtain ⟨hf, hcell, _⟩ := hp i hi2
      have z0 := (hp 0 (by omega)).2.1 0 (by omega)
      obtain ⟨b, o, s⟩ := y
      have hs := World.cell?_spot z0
      obtain rfl : s = none := by
        rw [Nat.zero_mul] at hs
        simpa [Addr.add] using hs
      have c0 := hcell 0 (by omega)
      have c1 := hcell 1 (by omega)
      have c2 := hcell 2 (by omega)
      have c3 := hcell 3 (by omega)
      have c4 := hcell 4 (by omega)
      rw [Addr.add_lit, Addr.add_lit] at c0 c1 c2 c3 c4
      exact ⟨hf, b, o, rfl, c0, c1, c2, c3, c4⟩
    · rw [hx]
      show DataW.slice ((List.range n).map D) _ = _
      rw [List.map_map, List.map_congr_left (fun i hi => (hp i (List.mem_range.1 hi)).2.2)]
      rfl

end Go.Proofs.Ytaagoneajngdcaa
