import Derived.Test.YtcchnaldanibgaaUl
import Derived.Test.YtcchnaldanibgaaUe
namespace Go.Proofs.Ytcchnaldanibgaa
open Go.ChangeShapes Go.WideShapes Go.ChangeAt Go.RowKit
set_option linter.unusedVariables false

set_option maxRecDepth 100000 in
/-- A voice that came in by value. -/
theorem open_voice {H : Type} {enc : TypeId × Value → H} {W : World} {base : Nat} {v : Value} {d : DataW H} {p : List MemPlace} (hv : Value.okWide Try.prog W .any base 56 v) (h : DataW.Trod enc Try.prog W 0 (fun _ => true) true 56 v d p)
    (hw : ∀ m, m ∈ d.weights Try.prog 56 → m ≤ reachBytes) :
    ∃ (x : Int) (a : Option Addr) (len cap : Nat), v = .agg #[.int .i64 x, .slice a len cap] ∧ ∃ D, SlN W a len cap D ∧ len * 16 ≤ 140737488351232 := by
  obtain ⟨cs, rfl, hsz⟩ := okWide_struct Try.underlying56 hv
  have h1 := cells_int
  have h2 := cells_vec
  rw [cells_voice] at hsz
  obtain ⟨c0, c1, rfl⟩ : ∃ c0 c1, cs = #[c0, c1] := by
    obtain ⟨l⟩ := cs
    match l, hsz with
    | [c0, c1], _ => exact ⟨c0, c1, rfl⟩
  obtain ⟨fuel, hf⟩ := h
  obtain ⟨y0, y1, n, hd, _, g0, g1⟩ := trod_struct2 Try.underlying56 hf
  simp [Value.cells, h1, h2] at g0 g1
  obtain ⟨A, hA, _, hAw⟩ := DataW.trod_int Try.underlying3 g0
  obtain ⟨y, e1, e2, e3⟩ := vec_of_trod g1 (fun k hk => hw k (by
    rw [(Prod.mk.inj hd).1]
    simp only [DataW.weights, Try.underlying56]
    exact DataW.weights_mem_each (j := 1) (t := 23) rfl rfl k hk))
  rw [List.cons_eq_cons.1 hA |>.1, e1]
  exact ⟨A, y.a, y.D.length, y.c, rfl, y.D, ⟨rfl, e2⟩, e3⟩
theorem voices_came (al : Option Addr) (n cl : Nat) (av : Option Addr) (nv cv : Nat) (mn : Int) (ma : Option Addr) (ml mc : Nat) (w : World) (h : ∃ L, CameW w al n cl L) (hv : Came w av nv cv) (hm : ∃ D, SlN w ma ml mc D ∧ ml * 16 ≤ 140737488351232) :
    Calls Try.prog 5 #[.slice al n cl, .slice av nv cv, .agg #[.int .i64 mn, .slice ma ml mc]] w fun e w' => e = .returned (.bool true) ∧ Below w.heap.size w w' := by
  obtain ⟨L, h, hb, hsz⟩ := h
  obtain ⟨V, hV1, hV2, hV3, hV4⟩ := hv
  obtain ⟨D, hD, hDb⟩ := hm
  exact voices_walk L al n cl V av nv cv mn ma ml mc D w h ⟨hV1, by rw [hV1]; exact hV2⟩ hD hb hsz hV3 hDb

end Go.Proofs.Ytcchnaldanibgaa
