import Derived.Test.YtcmjhaljbmhpgaaGreatSy
import Derived.Test.YtcmjhaljbmhpgaaGreatCg
import Derived.Test.YtcmjhaljbmhpgaaGreatHa
namespace Go.Proofs.YtcmjhaljbmhpgaaGreat
open Go.ChangeShapes Go.WideShapes Go.ChangeAt Go.RowKit Go.Maps
open Classical
set_option linter.unusedVariables false
set_option linter.unusedSimpArgs false

theorem cfCells : Tryz.prog.cellsOf 23 = 4 := by kernel_rfl
theorem boolCells9 : Tryz.prog.cellsOf 4 = 1 := by kernel_rfl
set_option maxRecDepth 100000 in
/-- A configuration by value that came in. -/
theorem open_cfg {H : Type} {enc : TypeId × Value → H} {W : World} {base : Nat} {v : Value} {d : DataW H} {p : List MemPlace} (hv : Value.okWide Tryz.prog W .any base 23 v) (h : DataW.Trod enc Tryz.prog W 0 (fun _ => true) true 23 v d p) :
    ∃ x : Cg, v = .agg #[.int .i64 x.F, .int .i64 x.R, .int .i64 x.P, .bool x.u] ∧ True := by
  obtain ⟨cs, rfl, hsz⟩ := okWide_struct Tryz.underlying23 hv
  obtain ⟨fuel, hf⟩ := h
  obtain ⟨xs, k, hk, hxy, hlen, hxl, hf⟩ := DataW.trod_struct Tryz.underlying23 hf
  rw [cfCells] at hlen
  have hxl : xs.length = 4 := hxl
  simp only [Value.cells] at hlen hf
  obtain ⟨l⟩ := cs
  match xs, hxl, l, hlen with
  | [y0, y1, y2, y3], _, [v0, v1, v2, v3], _ =>
    have g0 := hf 0 _ rfl
    have g1 := hf 1 _ rfl
    have g2 := hf 2 _ rfl
    have g3 := hf 3 _ rfl
    simp [intCells, boolCells9] at g0 g1 g2 g3
    obtain ⟨A, hA, _, _⟩ := DataW.trod_int Tryz.underlying3 g0
    obtain ⟨B, hB, _, _⟩ := DataW.trod_int Tryz.underlying3 g1
    obtain ⟨C, hC, _, _⟩ := DataW.trod_int Tryz.underlying3 g2
    obtain ⟨b, hb, _⟩ := DataW.trod_bool Tryz.underlying4 g3
    refine ⟨⟨A, B, C, b⟩, ?_, trivial⟩
    simp at hA hB hC hb
    subst hA hB hC hb
    rfl
theorem drBytes8 : Tryz.prog.bytesOf 27 = 16 := by kernel_rfl
def CameVD8 (W : World) (a : Option Addr) (len cap : Nat) : Prop := ∃ P : List (Int × Int), SlY yD W a len cap P ∧ len * 16 ≤ 140737488351232
set_option maxRecDepth 100000 in
theorem open_vecD8 {H : Type} {enc : TypeId × Value → H} {W : World} {base : Nat} {v : Value} {d : DataW H} {p : List MemPlace} (hv : Value.okWide Tryz.prog W .any base 31 v) (h : DataW.Trod enc Tryz.prog W 0 (fun _ => true) true 31 v d p)
    (hs : ∀ el sp, d = .slice el sp → (el.length + sp.length) * Tryz.prog.bytesOf 27 ≤ reachBytes) : ∃ a len cap, v = .slice a len cap ∧ CameVD8 W a len cap := by
  obtain ⟨a, n, c, rfl, P, h1, h2, el, sp, e1, _, e3⟩ := open_rowsN kD (fun _ => True) drCells8 (fun h => by
    obtain ⟨x, y, _, e⟩ := open_drc8 h
    exact ⟨(x, y), trivial, e⟩) hv h
  refine ⟨a, n, c, rfl, P, h1, ?_⟩
  rcases e3 with e3 | e3
  · omega
  · have := hs el sp e3
    rw [drBytes8, e1, Nat.add_mul] at this
    simp only [reachBytes] at this
    omega

end Go.Proofs.YtcmjhaljbmhpgaaGreat
