import Derived.Test.YtolnkoneilipeaaGLo
import Derived.Test.YtolnkoneilipeaaDf
namespace Go.Proofs.Ytolnkoneilipeaa
open Go.ChangeShapes Go.WideShapes Go.ChangeAt Go.RowKit
open Classical
set_option linter.unusedVariables false

/-- Entries that came in. -/
def CameE (W : World) (a : Option Addr) (len cap : Nat) : Prop := ∃ P : List En, SlY yE W a len cap P ∧ (∀ p ∈ P, p.fits) ∧ len * 48 ≤ 140737488351232
set_option maxRecDepth 100000 in
theorem open_ents {H : Type} {enc : TypeId × Value → H} {W : World} {base : Nat} {v : Value} {d : DataW H} {p : List MemPlace} (hv : Value.okWide Try.prog W .any base 31 v) (h : DataW.Trod enc Try.prog W 0 (fun _ => true) true 31 v d p)
    (hs : ∀ el sp, d = .slice el sp → (el.length + sp.length) * Try.prog.bytesOf 40 ≤ reachBytes) :
    ∃ a len cap, v = .slice a len cap ∧ CameE W a len cap := by
  obtain ⟨a, n, c, rfl⟩ := okWide_slice Try.underlying31 hv
  refine ⟨a, n, c, rfl, ?_⟩
  obtain ⟨fuel, h⟩ := h
  simp only [Value.cells] at h
  rcases Go.Deep.open_slice Try.underlying31 h with ⟨hcs, hx⟩ | ⟨y, ln, cp, m, k, D, Pl, hcs, hb, hl, hm, hmm, hx, hall⟩
  · have e := (List.cons_eq_cons.1 hcs).1
    cases e
    exact ⟨[], ⟨rfl, Nat.le_refl _, by unfold maxLen; omega, fun _ => ⟨rfl, rfl⟩, fun x hx => .inl rfl⟩, by simp, by omega⟩
  · have e := (List.cons_eq_cons.1 hcs).1
    cases e
    have hlm : n ≤ m := by rw [hmm]; split <;> omega
    have each : ∀ i, i < n → ∃ p : En, p.fits ∧ (∀ j, j < 5 → W.cell? ((y.add (i * 5)).add j) = p.cs[j]?) := by
      intro i hi
      obtain ⟨cs', h1, h2⟩ := hall i (by omega)
      rw [enCells] at h1
      obtain ⟨p, hf, rfl⟩ := open_enc h2
      obtain ⟨_, _, hcell⟩ := World.cells?_some h1
      exact ⟨p, hf, hcell⟩
    haveI : Inhabited En := ⟨⟨0, 0, ⟨0, 0, ⟨#[]⟩⟩⟩⟩
    obtain ⟨p, hp⟩ := Go.Deep.choose_lt each
    have hd := hs _ _ (congrArg Prod.fst hx)
    rw [enBytes] at hd
    simp only [List.length_map, List.length_range, reachBytes] at hd
    refine ⟨(List.range n).map p, ⟨by simp, hl, hm, (fun e => by cases e), fun x hx => ?_⟩, ?_, by omega⟩
    · cases hx
      by_cases hn0 : n = 0
      · subst hn0
        exact .inl rfl
      · obtain ⟨b, o, s⟩ := y
        have z0 := (hp 0 (by omega)).2 0 (by omega)
        have hs := World.cell?_spot (z0.trans (List.getElem?_eq_getElem (by show 0 < 5; omega)))
        obtain rfl : s = none := by
          rw [Nat.zero_mul] at hs
          simpa [Addr.add] using hs
        refine .inr ⟨b, o, rfl, ?_, fun i x hx j u hu => ?_⟩
        · have c0 := z0.trans (List.getElem?_eq_getElem (by show 0 < 5; omega))
          rw [Addr.add_lit, Addr.add_lit] at c0
          exact World.block_lt_of_cell? _ _ c0
        · have hi : i < n := by
            have := (List.getElem?_eq_some_iff.1 hx).1
            simpa using this
          have e : p i = x := by
            simp [hi] at hx
            exact hx
          subst e
          have hj : j < 5 := (List.getElem?_eq_some_iff.1 hu).1
          have := (hp i hi).2 j hj
          rw [Addr.add_lit, Addr.add_lit] at this
          exact this.trans hu
    · intro q hq
      obtain ⟨i, hi, rfl⟩ := List.mem_map.1 hq
      exact (hp i (List.mem_range.1 hi)).1

end Go.Proofs.Ytolnkoneilipeaa
