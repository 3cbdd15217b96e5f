import Derived.Test.YtpkcoejjclmocaaLb
import Derived.ChangeOld
import Derived.ProofKit
import Derived.OpenShut
import Derived.Deep.SlicePairs
import Derived.SizedLaws
namespace Go.Proofs.Ytpkcoejjclmocaa
open Go.ChangeShapes Go.WideShapes Go.ChangeAt Go.RowKit
set_option linter.unusedVariables false

theorem opCells : Try.prog.cellsOf 59 = 3 := by kernel_rfl
theorem opBytes : Try.prog.bytesOf 59 = 32 := by kernel_rfl
theorem intCells : Try.prog.cellsOf 3 = 1 := by kernel_rfl
theorem strCells : Try.prog.cellsOf 9 = 1 := by kernel_rfl
set_option maxRecDepth 100000 in
theorem open_opc {H : Type} {enc : TypeId × Value → H} {W : World} {base : Nat} {sp : Nat → Bool} {held : Bool} {n : Nat} {cs : List Value} {x : DataW H × List MemPlace} (h : DataW.trod enc Try.prog W base sp held n 59 cs = some x) :
    ∃ p : Opn, p.fits ∧ cs = [.int .i64 p.k, .int .i64 p.s, .string p.v] := by
  obtain ⟨xs, k, hk, hxy, hlen, hxl, hf⟩ := DataW.trod_struct Try.underlying59 h
  rw [opCells] at hlen
  have hxl : xs.length = 3 := hxl
  match xs, hxl, cs, hlen with
  | [y0, y1, y2], _, [v0, v1, v2], _ =>
    have g0 := hf 0 _ rfl
    have g1 := hf 1 _ rfl
    have g2 := hf 2 _ rfl
    simp [intCells, strCells] at g0 g1 g2
    obtain ⟨K, hK, hx0, hw0⟩ := DataW.trod_int Try.underlying3 g0
    obtain ⟨N, hN, hx2, hw2⟩ := DataW.trod_int Try.underlying3 g1
    obtain ⟨t, hS, hx4, hw4⟩ := DataW.trod_string Try.underlying9 g2
    refine ⟨⟨K, N, t⟩, ⟨hw0, hw2, hw4⟩, ?_⟩
    rw [(List.cons_eq_cons.1 hK).1, (List.cons_eq_cons.1 hN).1, (List.cons_eq_cons.1 hS).1]
set_option maxRecDepth 100000 in
/-- An operation that came in by value. -/
theorem open_op {H : Type} {enc : TypeId × Value → H} {W : World} {base : Nat} {v : Value} {d : DataW H} {p : List MemPlace} (hv : Value.okWide Try.prog W .any base 59 v) (h : DataW.Trod enc Try.prog W 0 (fun _ => true) true 59 v d p) :
    ∃ o : Opn, v = o.val ∧ o.fits := by
  obtain ⟨cs, rfl, hsz⟩ := okWide_struct Try.underlying59 hv
  obtain ⟨fuel, hf⟩ := h
  obtain ⟨o, ho, e⟩ := open_opc hf
  refine ⟨o, ?_, ho⟩
  simp [Value.cells] at e
  have : cs = #[.int .i64 o.k, .int .i64 o.s, .string o.v] := by rw [← Array.toList_inj]; exact e
  rw [this]; rfl
instance : Inhabited Opn := ⟨⟨0, 0, ⟨#[]⟩⟩⟩
/-- Operations that came in. -/
def CameO (W : World) (a : Option Addr) (len cap : Nat) : Prop := ∃ P : List Opn, P.length = len ∧ Ops W a P ∧ (∀ p ∈ P, p.fits) ∧ len * 32 ≤ 140737488351232 ∧ len ≤ cap ∧ cap ≤ maxLen
set_option maxRecDepth 100000 in
theorem open_ops {H : Type} {enc : TypeId × Value → H} {W : World} {base : Nat} {v : Value} {d : DataW H} {p : List MemPlace} (hv : Value.okWide Try.prog W .any base 117 v) (h : DataW.Trod enc Try.prog W 0 (fun _ => true) true 117 v d p)
    (hs : ∀ el sp, d = .slice el sp → (el.length + sp.length) * Try.prog.bytesOf 59 ≤ reachBytes) :
    ∃ a len cap, v = .slice a len cap ∧ CameO W a len cap := by
  obtain ⟨a, n, c, rfl⟩ := okWide_slice Try.underlying117 hv
  refine ⟨a, n, c, rfl, ?_⟩
  obtain ⟨fuel, h⟩ := h
  simp only [Value.cells] at h
  rcases Go.Deep.open_slice Try.underlying117 h with ⟨hcs, hx⟩ | ⟨y, ln, cp, m, k, D, Pl, hcs, hb, hl, hm, hmm, hx, hall⟩
  · have e := (List.cons_eq_cons.1 hcs).1
    cases e
    exact ⟨[], rfl, fun i hi => by (simp at hi), by simp, by omega, Nat.le_refl _, by unfold maxLen; omega⟩
  · have e := (List.cons_eq_cons.1 hcs).1
    cases e
    have hlm : n ≤ m := by rw [hmm]; split <;> omega
    have each : ∀ i, i < n → ∃ p : Opn, p.fits ∧ (∀ j, j < 3 → W.cell? ((y.add (i * 3)).add j) = [Value.int .i64 p.k, .int .i64 p.s, .string p.v][j]?) := by
      intro i hi
      obtain ⟨cs', h1, h2⟩ := hall i (by omega)
      rw [opCells] at h1
      obtain ⟨p, hf, rfl⟩ := open_opc h2
      obtain ⟨_, _, hcell⟩ := World.cells?_some h1
      exact ⟨p, hf, hcell⟩
    obtain ⟨p, hp⟩ := Go.Deep.choose_lt each
    have hd := hs _ _ (congrArg Prod.fst hx)
    rw [opBytes] at hd
    simp only [List.length_map, List.length_range, reachBytes] at hd
    refine ⟨(List.range n).map p, by simp, ?_, ?_, by omega, hl, hm⟩
    · intro i hi
      have hi2 : i < n := by simpa using hi
      have e : ((List.range n).map p)[i] = p i := by simp
      rw [e]
      obtain ⟨hf, hcell⟩ := hp i hi2
      have z0 := (hp 0 (by omega)).2 0 (by omega)
      obtain ⟨b, o, s⟩ := y
      have hs := World.cell?_spot z0
      obtain rfl : s = none := by
        rw [Nat.zero_mul] at hs
        simpa [Addr.add] using hs
      have c0 := hcell 0 (by omega)
      have c1 := hcell 1 (by omega)
      have c2 := hcell 2 (by omega)
      rw [Addr.add_lit, Addr.add_lit] at c0 c1 c2
      exact ⟨b, o, rfl, c0, c1, c2⟩
    · intro q hq
      obtain ⟨i, hi, rfl⟩ := List.mem_map.1 hq
      exact (hp i (List.mem_range.1 hi)).1

end Go.Proofs.Ytpkcoejjclmocaa
