import Derived.Test.YtcmjhaljbmhpgaaGreatSwf
import Derived.Test.YtcmjhaljbmhpgaaGreatSwo
import Derived.Test.YtcmjhaljbmhpgaaGreatPe
namespace Go.Proofs.YtcmjhaljbmhpgaaGreat
open Go.ChangeShapes Go.WideShapes Go.ChangeAt Go.RowKit Go.Maps
open Classical
set_option linter.unusedVariables false
set_option linter.unusedSimpArgs false

set_option maxRecDepth 100000 in
/-- A ballot by value that came in. -/
theorem open_answer9 {H : Type} {enc : TypeId × Value → H} {W : World} {base : Nat} {v : Value} {d : DataW H} {p : List MemPlace} (hv : Value.okWide Tryz.prog W .any base 69 v) (h : DataW.Trod enc Tryz.prog W 0 (fun _ => true) true 69 v d p)
    (hw : ∀ m, m ∈ d.weights Tryz.prog 69 → m ≤ reachBytes) :
    ∃ x : An, v = .agg #[.int .i64 x.n, .int .u64 x.h, .int .u64 x.l, .int .i64 x.v, .int .i64 x.c, .slice x.s.a x.s.D.length x.s.c] ∧ x.fits W := by
  obtain ⟨cs, rfl, hsz⟩ := okWide_struct Tryz.underlying69 hv
  obtain ⟨fuel, hf⟩ := h
  obtain ⟨o, ho, e⟩ := open_elAn hf hw
  refine ⟨o, ?_, ho⟩
  have e : cs.toList = o.cs := by simp only [Value.cells] at e; exact e
  have : cs = #[.int .i64 o.n, .int .u64 o.h, .int .u64 o.l, .int .i64 o.v, .int .i64 o.c, .slice o.s.a o.s.D.length o.s.c] := by rw [← Array.toList_inj]; exact e
  rw [this]
theorem answers8_came (c : Cg) (self : Int) (a : Option Addr) (len cap : Nat) (x : An) (av : Option Addr) (vn vc : Nat) (W : World) (h : CameAn W a len cap) (hx : x.fits W) (hv : CameVD8 W av vn vc) :
    Calls Tryz.prog 5 #[.agg #[.int .i64 c.F, .int .i64 c.R, .int .i64 c.P, .bool c.u], .int .i64 self, .slice a len cap, .agg #[.int .i64 x.n, .int .u64 x.h, .int .u64 x.l, .int .i64 x.v, .int .i64 x.c, .slice x.s.a x.s.D.length x.s.c], .slice av vn vc] W fun e w' => e = .returned (.bool true) ∧ Below W.heap.size W w' := by
  obtain ⟨P, hs, hf, hm⟩ := h
  obtain ⟨D, hD, hmv⟩ := hv
  exact answers8_walk c self P a len cap x D av vn vc W hs (fun y hy => ⟨⟨(hf y hy).In, (hf y hy).bw⟩, (hf y hy).ew⟩) ⟨⟨hx.In, hx.bw⟩, hx.ew⟩ hD hm hmv (by omega)

end Go.Proofs.YtcmjhaljbmhpgaaGreat
