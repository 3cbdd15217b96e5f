import Derived.Test.YtfafhlahbhopaaaH8
set_option maxRecDepth 100000
set_option linter.unusedVariables false
set_option linter.unusedSimpArgs false
namespace Go.Proofs.Ytfafhlahbhopaaa
open Go.ChangeShapes Go.WideShapes Go.ChangeAt Go.RowKit Go.Maps
open Classical
theorem bytesH20 : Try.prog.bytesOf 24 = 32 := by kernel_rfl
def SaidW (W : World) (v : Value) : Prop := ∃ (z : Int) (x : En) (a : Option Addr) (n c : Nat) (P : List Hs) (z2 : Int), v = sval z x (.slice a n c) z2 ∧ SlY yH W a n c P ∧ n * 32 ≤ 140737488351232 ∧ x.o.v.size ≤ 140737488351232
theorem open_saidW {H : Type} {enc : TypeId × Value → H} {W : World} {base : Nat} {v : Value} {d : DataW H} {p : List MemPlace} (hv9 : Value.okWide Try.prog W .any base 58 v) (h : DataW.Trod enc Try.prog W 0 (fun _ => true) true 58 v d p)
    (hw : ∀ m, m ∈ d.weights Try.prog 58 → m ≤ reachBytes) : ∃ e : Value, v = e ∧ SaidW W e := by
  refine ⟨v, rfl, ?_⟩
  haveI : Inhabited Hs := ⟨zH⟩
  obtain ⟨fuel, hf⟩ := h
  obtain ⟨xs, k, hk, hxy, hlen, hxl, hf⟩ := DataW.trod_struct Try.underlying58 hf
  rw [cellsSd20] at hlen
  have hxl : xs.length = 4 := hxl
  have hv : ∀ cs : List Value, v.cells.toList = cs → cs.length = 8 → v = .agg cs.toArray := by
    intro cs hc hl
    cases v with
    | agg vs =>
      have : vs.toList = cs := hc
      rw [← this]
    | _ => rw [← hc] at hl; simp [Value.cells] at hl
  generalize hcs : v.cells.toList = cs at *
  match xs, hxl, cs, hlen with
  | [y0, y1, y2, y3], _, [v0, v1, v2, v3, v4, v5, v6, v7], _ =>
    have hd : d = .agg ([y0, y1, y2, y3].map Prod.fst) := (Prod.mk.inj hxy).1
    have wg : ∀ (j : Nat) (t : TypeId) (x : DataW H), [3, 28, 42, 3][j]? = some t → ([y0, y1, y2, y3].map Prod.fst)[j]? = some x → ∀ k, k ∈ x.weights Try.prog t → k ≤ reachBytes := fun j t x ht hx k hk => hw k (by
      rw [hd]
      simp only [DataW.weights, Try.underlying58]
      exact DataW.weights_mem_each (j := j) (t := t) ht hx k hk)
    have g0 := hf 0 _ rfl
    have g1 := hf 1 _ rfl
    have g2 := hf 2 _ rfl
    have g3 := hf 3 _ rfl
    simp [cellsI20, cellsE20, cellsSH20] at g0 g1 g2 g3
    obtain ⟨z, hz, hx0, hw0⟩ := DataW.trod_int Try.underlying3 g0
    obtain ⟨x, hx, hc⟩ := enc_w20 g1 (wg 1 _ _ rfl rfl)
    obtain ⟨a, n, c, e2, P, s2, _, hb⟩ := rows_w20 kH (fun _ => True) hCells20 bytesH20 (fun {m cs D q} h _ => open_hashc20 h) g2 (wg 2 _ _ rfl rfl)
    obtain ⟨z2, hz2, hx3, hw3⟩ := DataW.trod_int Try.underlying3 g3
    refine ⟨z, x, a, n, c, P, z2, ?_, s2, hb, hx⟩
    rw [hv _ rfl rfl]
    have e0 := (List.cons_eq_cons.1 hz).1
    have e3 := (List.cons_eq_cons.1 hz2).1
    simp [En.cs] at hc
    obtain ⟨c1, c2, c3, c4, c5⟩ := hc
    subst e0 e3 e2 c1 c2 c3 c4 c5
    rfl
theorem binds_cameW (a : Option Addr) (n0 c : Nat) (v : Value) (y : List Int) (hy : Hb y) (W : World) (h : CameW W a n0 c) (hs : SaidW W v) :
    Calls Try.prog 7 #[.slice a n0 c, v, .agg (y.map bV).toArray] W fun e w' => e = .returned (.bool true) ∧ Below W.heap.size W w' := by
  obtain ⟨l, s, f, _⟩ := h
  obtain ⟨z, x, a3, k, c3, Q, z2, rfl, hQ, hk, hx⟩ := hs
  exact binds20 l a n0 c z x Q a3 k c3 z2 hy.h20 W s hQ (by omega) (fun x hx => Nat.le_trans (f x hx) (by decide)) (Nat.le_trans hx (by decide))
end Go.Proofs.Ytfafhlahbhopaaa
