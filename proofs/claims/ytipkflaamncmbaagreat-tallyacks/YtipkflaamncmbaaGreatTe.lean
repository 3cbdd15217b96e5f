import Derived.Test.YtipkflaamncmbaaGreatSk1
import Derived.Test.YtipkflaamncmbaaGreatSz
namespace Go.Proofs.YtipkflaamncmbaaGreat
open Go.ChangeShapes Go.WideShapes Go.ChangeAt Go.RowKit
open Classical
set_option linter.unusedVariables false

theorem akCells : Tryz.prog.cellsOf 29 = 4 := by kernel_rfl
theorem akBytes : Tryz.prog.bytesOf 29 = 32 := by kernel_rfl
theorem u64Cells9 : Tryz.prog.cellsOf 25 = 1 := by kernel_rfl
theorem drCells9 : Tryz.prog.cellsOf 27 = 2 := by kernel_rfl
set_option maxRecDepth 100000 in
theorem open_drc9 {H : Type} {enc : TypeId × Value → H} {W : World} {base : Nat} {sp : Nat → Bool} {held : Bool} {n : Nat} {cs : List Value} {x : DataW H × List MemPlace} (h : DataW.trod enc Tryz.prog W base sp held n 27 cs = some x) :
    ∃ a b : Int, ((Lit.int .u64 a).wf = true ∧ (Lit.int .u64 b).wf = true) ∧ cs = [.int .u64 a, .int .u64 b] := by
  obtain ⟨xs, k, hk, hxy, hlen, hxl, hf⟩ := DataW.trod_struct Tryz.underlying27 h
  rw [drCells9] at hlen
  have hxl : xs.length = 2 := hxl
  match xs, hxl, cs, hlen with
  | [y0, y1], _, [v0, v1], _ =>
    have g0 := hf 0 _ rfl
    have g1 := hf 1 _ rfl
    simp [u64Cells9] at g0 g1
    obtain ⟨K, hK, hx0, hw0⟩ := DataW.trod_int Tryz.underlying25 g0
    obtain ⟨N, hN, hx2, hw2⟩ := DataW.trod_int Tryz.underlying25 g1
    refine ⟨K, N, ⟨hw0, hw2⟩, ?_⟩
    rw [(List.cons_eq_cons.1 hK).1, (List.cons_eq_cons.1 hN).1]
set_option maxRecDepth 100000 in
theorem open_akc {H : Type} {enc : TypeId × Value → H} {W : World} {base : Nat} {sp : Nat → Bool} {held : Bool} {n : Nat} {cs : List Value} {x : DataW H × List MemPlace} (h : DataW.trod enc Tryz.prog W base sp held n 29 cs = some x) : ∃ e : Ak, True ∧ cs = yAkA.cs e := by
  obtain ⟨xs, k, hk, hxy, hlen, hxl, hf⟩ := DataW.trod_struct Tryz.underlying29 h
  rw [akCells] at hlen
  have hxl : xs.length = 3 := hxl
  match xs, hxl, cs, hlen with
  | [y0, y1, y2], _, [v0, v1, v2, v3], _ =>
    have g0 := hf 0 _ rfl
    have g1 := hf 1 _ rfl
    have g2 := hf 2 _ rfl
    simp [intCells, drCells9] at g0 g1 g2
    obtain ⟨N, hN, _, wN⟩ := DataW.trod_int Tryz.underlying3 g0
    obtain ⟨a, b, _, hdr⟩ := open_drc9 g1
    obtain ⟨P, hP, _, wP⟩ := DataW.trod_int Tryz.underlying3 g2
    refine ⟨⟨N, a, b, P⟩, trivial, ?_⟩
    simp at hN hdr hP
    obtain ⟨h1, h2⟩ := hdr
    subst hN h1 h2 hP
    rfl
/-- Acknowledgements that came in. -/
def CameAk (W : World) (a : Option Addr) (len cap : Nat) : Prop := ∃ P : List Ak, SlY yAkA W a len cap P ∧ len * 32 ≤ 140737488351232
set_option maxRecDepth 100000 in
theorem open_acks {H : Type} {enc : TypeId × Value → H} {W : World} {base : Nat} {v : Value} {d : DataW H} {p : List MemPlace} (hv : Value.okWide Tryz.prog W .any base 24 v) (h : DataW.Trod enc Tryz.prog W 0 (fun _ => true) true 24 v d p)
    (hs : ∀ el sp, d = .slice el sp → (el.length + sp.length) * Tryz.prog.bytesOf 29 ≤ reachBytes) : ∃ a len cap, v = .slice a len cap ∧ CameAk W a len cap := by
  haveI : Inhabited Ak := ⟨⟨0, 0, 0, 0⟩⟩
  obtain ⟨a, n, c, rfl, P, h1, _, el, sp, e1, _, e3⟩ := open_rowsN kAkA (fun _ => True) akCells (fun h => open_akc h) hv h
  refine ⟨a, n, c, rfl, P, h1, ?_⟩
  rcases e3 with e3 | e3
  · omega
  · have := hs el sp e3
    rw [akBytes, e1, Nat.add_mul] at this
    simp only [reachBytes] at this
    omega

end Go.Proofs.YtipkflaamncmbaaGreat
