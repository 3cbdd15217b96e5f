import Derived.Test.YtnhonkgondljjaaTe
import Derived.Test.YtnhonkgondljjaaGSm
namespace Go.Proofs.Ytnhonkgondljjaa
open Go.ChangeShapes Go.WideShapes Go.ChangeAt Go.RowKit
open Classical
set_option linter.unusedVariables false

theorem mkCells : Try.prog.cellsOf 29 = 3 := by kernel_rfl
theorem mkBytes : Try.prog.bytesOf 29 = 24 := by kernel_rfl
set_option maxRecDepth 100000 in
theorem open_mkc {H : Type} {enc : TypeId × Value → H} {W : World} {base : Nat} {sp : Nat → Bool} {held : Bool} {n : Nat} {cs : List Value} {x : DataW H × List MemPlace} (h : DataW.trod enc Try.prog W base sp held n 29 cs = some x) : ∃ e : Mk, True ∧ cs = yMkA.cs e := by
  obtain ⟨xs, k, hk, hxy, hlen, hxl, hf⟩ := DataW.trod_struct Try.underlying29 h
  rw [mkCells] at hlen
  have hxl : xs.length = 2 := hxl
  match xs, hxl, cs, hlen with
  | [y0, y1], _, [v0, v1, v2], _ =>
    have g0 := hf 0 _ rfl
    have g1 := hf 1 _ rfl
    simp [intCells, drCells9] at g0 g1
    obtain ⟨N, hN, _, wN⟩ := DataW.trod_int Try.underlying3 g0
    obtain ⟨a, b, _, hdr⟩ := open_drc9 g1
    refine ⟨⟨N, a, b⟩, trivial, ?_⟩
    simp at hN hdr
    obtain ⟨h1, h2⟩ := hdr
    subst hN h1 h2
    rfl
/-- Marks that came in. -/
def CameMk (W : World) (a : Option Addr) (len cap : Nat) : Prop := ∃ P : List Mk, SlY yMkA W a len cap P ∧ len * 24 ≤ 140737488351232
set_option maxRecDepth 100000 in
theorem open_marks {H : Type} {enc : TypeId × Value → H} {W : World} {base : Nat} {v : Value} {d : DataW H} {p : List MemPlace} (hv : Value.okWide Try.prog W .any base 24 v) (h : DataW.Trod enc Try.prog W 0 (fun _ => true) true 24 v d p)
    (hs : ∀ el sp, d = .slice el sp → (el.length + sp.length) * Try.prog.bytesOf 29 ≤ reachBytes) : ∃ a len cap, v = .slice a len cap ∧ CameMk W a len cap := by
  haveI : Inhabited Mk := ⟨⟨0, 0, 0⟩⟩
  obtain ⟨a, n, c, rfl, P, h1, _, el, sp, e1, _, e3⟩ := open_rowsN kMkA (fun _ => True) mkCells (fun h => open_mkc h) hv h
  refine ⟨a, n, c, rfl, P, h1, ?_⟩
  rcases e3 with e3 | e3
  · omega
  · have := hs el sp e3
    rw [mkBytes, e1, Nat.add_mul] at this
    simp only [reachBytes] at this
    omega

end Go.Proofs.Ytnhonkgondljjaa
