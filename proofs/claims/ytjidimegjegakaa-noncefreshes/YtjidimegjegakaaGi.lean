import Derived.Test.YtjidimegjegakaaGe
namespace Go.Proofs.Ytjidimegjegakaa
open Go.ChangeShapes Go.WideShapes Go.ChangeAt Go.RowKit
set_option linter.unusedVariables false

theorem dwCells : Try.prog.cellsOf 25 = 2 := by kernel_rfl
theorem stCells : Try.prog.cellsOf 27 = 3 := by kernel_rfl
theorem stBytes : Try.prog.bytesOf 27 = 24 := by kernel_rfl
theorem int1Cells : Try.prog.cellsOf 3 = 1 := by kernel_rfl
theorem u641Cells : Try.prog.cellsOf 23 = 1 := by kernel_rfl
theorem u64_b {a : Int} (h : (Lit.int .u64 a).wf = true) : 0 ≤ a ∧ a < 18446744073709551616 := by
  simp [Lit.wf, IntKind.min, IntKind.max, IntKind.bits, IntKind.signed] at h
  omega
set_option maxRecDepth 100000 in
theorem open_dwc {H : Type} {enc : TypeId × Value → H} {W : World} {base : Nat} {sp : Nat → Bool} {held : Bool} {n : Nat} {cs : List Value} {x : DataW H × List MemPlace} (h : DataW.trod enc Try.prog W base sp held n 25 cs = some x) :
    ∃ a b : Int, (0 ≤ a ∧ a < 18446744073709551616) ∧ (0 ≤ b ∧ b < 18446744073709551616) ∧ cs = [.int .u64 a, .int .u64 b] := by
  obtain ⟨xs, k, hk, hxy, hlen, hxl, hf⟩ := DataW.trod_struct Try.underlying25 h
  rw [dwCells] at hlen
  have hxl : xs.length = 2 := hxl
  match xs, hxl, cs, hlen with
  | [y0, y1], _, [v0, v1], _ =>
    have g0 := hf 0 _ rfl
    have g1 := hf 1 _ rfl
    simp [u641Cells] at g0 g1
    obtain ⟨K, hK, hx0, hw0⟩ := DataW.trod_int Try.underlying23 g0
    obtain ⟨N, hN, hx2, hw2⟩ := DataW.trod_int Try.underlying23 g1
    refine ⟨K, N, u64_b hw0, u64_b hw2, ?_⟩
    rw [(List.cons_eq_cons.1 hK).1, (List.cons_eq_cons.1 hN).1]
set_option maxRecDepth 100000 in
theorem open_stc {H : Type} {enc : TypeId × Value → H} {W : World} {base : Nat} {sp : Nat → Bool} {held : Bool} {n : Nat} {cs : List Value} {x : DataW H × List MemPlace} (h : DataW.trod enc Try.prog W base sp held n 27 cs = some x) :
    ∃ p : St, p.fits ∧ cs = p.cs := by
  obtain ⟨xs, k, hk, hxy, hlen, hxl, hf⟩ := DataW.trod_struct Try.underlying27 h
  rw [stCells] at hlen
  have hxl : xs.length = 2 := hxl
  match xs, hxl, cs, hlen with
  | [y0, y1], _, [v0, v1, v2], _ =>
    have g0 := hf 0 _ rfl
    have g1 := hf 1 _ rfl
    simp [int1Cells, dwCells] at g0 g1
    obtain ⟨K, hK, hx0, hw0⟩ := DataW.trod_int Try.underlying3 g0
    obtain ⟨a, b, ha, hb, e⟩ := open_dwc g1
    refine ⟨⟨K, a, b⟩, ⟨hw0, ha, hb⟩, ?_⟩
    have e0 := (List.cons_eq_cons.1 hK).1
    simp at e
    obtain ⟨e1, e2⟩ := e
    subst e0 e1 e2
    rfl
/-- Stamps that came in. -/
def CameT (W : World) (a : Option Addr) (len cap : Nat) : Prop := ∃ P : List St, SlY yT W a len cap P ∧ (∀ p ∈ P, p.fits) ∧ len * 24 ≤ 140737488351232
set_option maxRecDepth 100000 in
theorem open_stamps {H : Type} {enc : TypeId × Value → H} {W : World} {base : Nat} {v : Value} {d : DataW H} {p : List MemPlace} (hv : Value.okWide Try.prog W .any base 22 v) (h : DataW.Trod enc Try.prog W 0 (fun _ => true) true 22 v d p)
    (hs : ∀ el sp, d = .slice el sp → (el.length + sp.length) * Try.prog.bytesOf 27 ≤ reachBytes) :
    ∃ a len cap, v = .slice a len cap ∧ CameT W a len cap := by
  obtain ⟨a, n, c, rfl⟩ := okWide_slice Try.underlying22 hv
  refine ⟨a, n, c, rfl, ?_⟩
  obtain ⟨fuel, h⟩ := h
  simp only [Value.cells] at h
  rcases Go.Deep.open_slice Try.underlying22 h with ⟨hcs, hx⟩ | ⟨y, ln, cp, m, k, D, Pl, hcs, hb, hl, hm, hmm, hx, hall⟩
  · have e := (List.cons_eq_cons.1 hcs).1
    cases e
    exact ⟨[], ⟨rfl, Nat.le_refl _, by unfold maxLen; omega, fun _ => ⟨rfl, rfl⟩, fun x hx => .inl rfl⟩, by simp, by omega⟩
  · have e := (List.cons_eq_cons.1 hcs).1
    cases e
    have hlm : n ≤ m := by rw [hmm]; split <;> omega
    have each : ∀ i, i < n → ∃ p : St, p.fits ∧ (∀ j, j < 3 → W.cell? ((y.add (i * 3)).add j) = p.cs[j]?) := by
      intro i hi
      obtain ⟨cs', h1, h2⟩ := hall i (by omega)
      rw [stCells] at h1
      obtain ⟨p, hf, rfl⟩ := open_stc h2
      obtain ⟨_, _, hcell⟩ := World.cells?_some h1
      exact ⟨p, hf, hcell⟩
    haveI : Inhabited St := ⟨⟨0, 0, 0⟩⟩
    obtain ⟨p, hp⟩ := Go.Deep.choose_lt each
    have hd := hs _ _ (congrArg Prod.fst hx)
    rw [stBytes] at hd
    simp only [List.length_map, List.length_range, reachBytes] at hd
    refine ⟨(List.range n).map p, ⟨by simp, hl, hm, (fun e => by cases e), fun x hx => ?_⟩, ?_, by omega⟩
    · cases hx
      by_cases hn0 : n = 0
      · subst hn0
        exact .inl rfl
      · obtain ⟨b, o, s⟩ := y
        have z0 := (hp 0 (by omega)).2 0 (by omega)
        have hs := World.cell?_spot (z0.trans (List.getElem?_eq_getElem (by show 0 < 3; omega)))
        obtain rfl : s = none := by
          rw [Nat.zero_mul] at hs
          simpa [Addr.add] using hs
        refine .inr ⟨b, o, rfl, ?_, fun i x hx j u hu => ?_⟩
        · have c0 := z0.trans (List.getElem?_eq_getElem (by show 0 < 3; omega))
          rw [Addr.add_lit, Addr.add_lit] at c0
          exact World.block_lt_of_cell? _ _ c0
        · have hi : i < n := by
            have := (List.getElem?_eq_some_iff.1 hx).1
            simpa using this
          have e : p i = x := by
            simp [hi] at hx
            exact hx
          subst e
          have hj : j < 3 := (List.getElem?_eq_some_iff.1 hu).1
          have := (hp i hi).2 j hj
          rw [Addr.add_lit, Addr.add_lit] at this
          exact this.trans hu
    · intro q hq
      obtain ⟨i, hi, rfl⟩ := List.mem_map.1 hq
      exact (hp i (List.mem_range.1 hi)).1
theorem freshes_came (a : Option Addr) (len cap : Nat) (W : World) (h : CameT W a len cap) :
    Calls Try.prog 3 #[.slice a len cap] W fun e w' => e = .returned (.bool true) ∧ Below W.heap.size W w' := by
  obtain ⟨P, hs, hf, hm⟩ := h
  obtain rfl := hs.len
  exact freshes_walk P a cap W hs hf hm

end Go.Proofs.Ytjidimegjegakaa
