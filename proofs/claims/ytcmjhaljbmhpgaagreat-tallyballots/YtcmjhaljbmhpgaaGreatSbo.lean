import Derived.Test.YtcmjhaljbmhpgaaGreatGSb
import Derived.Test.YtcmjhaljbmhpgaaGreatSy
namespace Go.Proofs.YtcmjhaljbmhpgaaGreat
open Go.ChangeShapes Go.WideShapes Go.ChangeAt Go.RowKit
open Classical
set_option linter.unusedVariables false

theorem cellsBl : Tryz.prog.cellsOf 53 = 6 := by kernel_rfl
theorem bytesBl : Tryz.prog.bytesOf 53 = 64 := by kernel_rfl
set_option maxRecDepth 100000 in
structure Bl.fits (W : World) (x : Bl) : Prop where
  nw : (Lit.int .i64 x.n).wf = true
  hw : (Lit.int .u64 x.h).wf = true
  lw : (Lit.int .u64 x.l).wf = true
  vw : (Lit.int .i64 x.v).wf = true
  cw : (Lit.int .i64 x.c).wf = true
  sw : SlY yE W x.s.a x.s.D.length x.s.c x.s.D
  ew : ∀ e ∈ x.s.D, e.fits
  bw : x.s.D.length * 48 ≤ 140737488351232
theorem Bl.fits.In {W : World} {x : Bl} (h : x.fits W) : x.In W := ⟨h.sw, by have := h.bw; omega⟩
set_option maxRecDepth 100000 in
theorem open_elBl {H : Type} {enc : TypeId × Value → H} {W : World} {m : Nat} {cs : List Value} {D : DataW H} {q : List MemPlace} (h : DataW.trod enc Tryz.prog W 0 (fun _ => true) true m 53 cs = some (D, q)) (hw : ∀ k, k ∈ D.weights Tryz.prog 53 → k ≤ reachBytes) : ∃ e : Bl, e.fits W ∧ cs = e.cs := by
  obtain ⟨xs, k, hk, hxy, hlen, hxl, hf⟩ := DataW.trod_struct Tryz.underlying53 h
  rw [cellsBl] at hlen
  have hxl : xs.length = 5 := hxl
  match xs, hxl, cs, hlen with
  | [y0, y1, y2, y3, y4], _, [v0, v1, v2, v3, v4, v5], _ =>
    have g0 := hf 0 _ rfl
    have g1 := hf 1 _ rfl
    have g2 := hf 2 _ rfl
    have g3 := hf 3 _ rfl
    have g4 := hf 4 _ rfl
    simp [intCells, drCells8, slCells8] at g0 g1 g2 g3 g4
    obtain ⟨N, hN, _, wN⟩ := DataW.trod_int Tryz.underlying3 g0
    obtain ⟨a, b, ⟨wa, wb⟩, hdr⟩ := open_drc8 g1
    obtain ⟨V, hV, _, wV⟩ := DataW.trod_int Tryz.underlying3 g2
    obtain ⟨C, hC, _, wC⟩ := DataW.trod_int Tryz.underlying3 g3
    have hd : D = .agg ([y0, y1, y2, y3, y4].map Prod.fst) := congrArg Prod.fst hxy
    obtain ⟨s, es, hs, he, hb⟩ := log_of_trod g4 (fun k hk => hw k (by
      rw [hd]
      simp only [DataW.weights, Tryz.underlying53]
      exact DataW.weights_mem_each (j := 4) (t := 51) rfl rfl k hk))
    refine ⟨⟨N, a, b, V, C, s⟩, ⟨wN, wa, wb, wV, wC, hs, he, hb⟩, ?_⟩
    simp at hN hdr hV hC
    obtain ⟨h1, h2⟩ := hdr
    subst hN h1 h2 hV hC es
    rfl
/-- Votes that came in. -/
def CameBl (W : World) (a : Option Addr) (len cap : Nat) : Prop := ∃ P : List Bl, SlY yBlA W a len cap P ∧ (∀ e ∈ P, e.fits W) ∧ len * 64 ≤ 140737488351232
set_option maxRecDepth 100000 in
theorem open_Bls {H : Type} {enc : TypeId × Value → H} {W : World} {base : Nat} {v : Value} {d : DataW H} {p : List MemPlace} (hv : Value.okWide Tryz.prog W .any base 50 v) (h : DataW.Trod enc Tryz.prog W 0 (fun _ => true) true 50 v d p)
    (hw : ∀ m, m ∈ d.weights Tryz.prog 50 → m ≤ reachBytes) : ∃ a len cap, v = .slice a len cap ∧ CameBl W a len cap := by
  haveI : Inhabited Bl := ⟨⟨0, 0, 0, 0, 0, ⟨none, 0, []⟩⟩⟩
  obtain ⟨a, n, c, rfl, P, h1, h2, h3⟩ := open_wrows kBlA (fun e => e.fits W) cellsBl bytesBl (fun h hw => open_elBl h hw) hv h hw
  exact ⟨a, n, c, rfl, P, h1, h2, h3⟩

end Go.Proofs.YtcmjhaljbmhpgaaGreat
