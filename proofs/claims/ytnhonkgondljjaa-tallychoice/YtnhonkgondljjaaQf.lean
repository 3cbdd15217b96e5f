import Derived.Test.YtnhonkgondljjaaQe
import Derived.Test.YtnhonkgondljjaaSbo
namespace Go.Proofs.Ytnhonkgondljjaa
open Go.ChangeShapes Go.WideShapes Go.ChangeAt Go.RowKit Go.Maps
open Classical
set_option linter.unusedVariables false
set_option linter.unusedSimpArgs false

set_option maxRecDepth 100000 in
/-- A ballot by value that came in. -/
theorem open_ballot {H : Type} {enc : TypeId × Value → H} {W : World} {base : Nat} {v : Value} {d : DataW H} {p : List MemPlace} (hv : Value.okWide Try.prog W .any base 63 v) (h : DataW.Trod enc Try.prog W 0 (fun _ => true) true 63 v d p)
    (hw : ∀ m, m ∈ d.weights Try.prog 63 → m ≤ reachBytes) :
    ∃ x : Bl, v = .agg #[.int .i64 x.n, .int .u64 x.h, .int .u64 x.l, .int .i64 x.v, .int .i64 x.c, .slice x.s.a x.s.D.length x.s.c] ∧ x.fits W := by
  obtain ⟨cs, rfl, hsz⟩ := okWide_struct Try.underlying63 hv
  obtain ⟨fuel, hf⟩ := h
  obtain ⟨o, ho, e⟩ := open_elBl hf hw
  refine ⟨o, ?_, ho⟩
  have e : cs.toList = o.cs := by simp only [Value.cells] at e; exact e
  have : cs = #[.int .i64 o.n, .int .u64 o.h, .int .u64 o.l, .int .i64 o.v, .int .i64 o.c, .slice o.s.a o.s.D.length o.s.c] := by rw [← Array.toList_inj]; exact e
  rw [this]
theorem choice_came (f : Int) (x : Bl) (a : Option Addr) (len cap : Nat) (W : World) (hx : x.fits W) (h : CameBl W a len cap) :
    Calls Try.prog 9 #[.int .i64 f, .agg #[.int .i64 x.n, .int .u64 x.h, .int .u64 x.l, .int .i64 x.v, .int .i64 x.c, .slice x.s.a x.s.D.length x.s.c], .slice a len cap] W fun e w' => e = .returned (.bool true) ∧ Below W.heap.size W w' := by
  obtain ⟨P, hs, hf, hm⟩ := h
  exact choice_walk f x P a len cap W hs (fun e he => (hf e he).In) hx.In hm

end Go.Proofs.Ytnhonkgondljjaa
