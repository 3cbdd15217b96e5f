import Derived.Test.YtomiifnhcojilaaGRa
import Derived.Test.YtomiifnhcojilaaRows
import Derived.Deep.SlicePairs
import Derived.ChangeOld
import Derived.ProofKit
import Derived.OpenShut
import Derived.SizedLaws
namespace Go.Proofs.Ytomiifnhcojilaa
open Go.ChangeShapes Go.WideShapes Go.ChangeAt Go.RowKit Go.Maps
open Classical
set_option linter.unusedVariables false

theorem u8_wf20 {n : Int} (h : (Lit.int .u8 n).wf = true) : 0 ≤ n ∧ n < 256 := by
  simp [Lit.wf, IntKind.min, IntKind.max, IntKind.signed, IntKind.bits] at h
  omega
set_option maxRecDepth 100000 in
/-- A slice that came in, of elements that are opened one by one. -/
theorem open_rowsH20 {α : Type} {Y : Lay α} (K : Y.Ok) [Inhabited α] (fits : α → Prop) {H : Type} {enc : TypeId × Value → H} {W : World} {base : Nat} {v : Value} {d : DataW H} {p : List MemPlace} (hT : Try.prog.cellsOf Y.T = Y.k)
    (el : ∀ {n : Nat} {cs : List Value} {x : DataW H × List MemPlace}, DataW.trod enc Try.prog W 0 (fun _ => true) true n Y.T cs = some x → ∃ q : α, fits q ∧ cs = Y.cs q)
    (hv : Value.okWide Try.prog W .any base Y.ST v) (h : DataW.Trod enc Try.prog W 0 (fun _ => true) true Y.ST v d p) :
    ∃ a len cap, v = .slice a len cap ∧ ∃ P : List α, SlY Y W a len cap P ∧ (∀ q ∈ P, fits q) ∧ (∃ el sp : List (DataW H), el.length = len ∧ el.length ≤ el.length + sp.length ∧ (len = 0 ∨ d = .slice el sp)) := by
  obtain ⟨a, n, c, rfl⟩ := okWide_slice K.und hv
  refine ⟨a, n, c, rfl, ?_⟩
  obtain ⟨fuel, h⟩ := h
  simp only [Value.cells] at h
  rcases Go.Deep.open_slice K.und h with ⟨hcs, hx⟩ | ⟨y, ln, cp, m, k, D, Pl, hcs, hb, hl, hm, hmm, hx, hall⟩
  · have e := (List.cons_eq_cons.1 hcs).1
    cases e
    exact ⟨[], ⟨rfl, Nat.le_refl _, by unfold maxLen; omega, fun _ => ⟨rfl, rfl⟩, fun x hx => .inl rfl⟩, by simp, [], [], rfl, Nat.le_refl _, .inl rfl⟩
  · have e := (List.cons_eq_cons.1 hcs).1
    cases e
    have hlm : n ≤ m := by rw [hmm]; split <;> omega
    have each : ∀ i, i < n → ∃ q : α, fits q ∧ (∀ j, j < Y.k → W.cell? ((y.add (i * Y.k)).add j) = (Y.cs q)[j]?) := by
      intro i hi
      obtain ⟨cs', h1, h2⟩ := hall i (by omega)
      rw [hT] at h1
      obtain ⟨q, hf, rfl⟩ := el h2
      obtain ⟨_, _, hcell⟩ := World.cells?_some h1
      exact ⟨q, hf, hcell⟩
    obtain ⟨q, hq⟩ := Go.Deep.choose_lt each
    have hd := congrArg Prod.fst hx
    refine ⟨(List.range n).map q, ⟨by simp, hl, hm, (fun e => by cases e), fun x hx => ?_⟩, ?_, ?_⟩
    · cases hx
      by_cases hn0 : n = 0
      · subst hn0
        exact .inl rfl
      · obtain ⟨b, o, s⟩ := y
        have z0 := (hq 0 (by omega)).2 0 K.kp
        have z1 := z0.trans (List.getElem?_eq_getElem (by rw [K.len]; exact K.kp))
        have hs := World.cell?_spot z1
        obtain rfl : s = none := by
          rw [Nat.zero_mul] at hs
          simpa [Addr.add] using hs
        refine .inr ⟨b, o, rfl, ?_, fun i x hx j u hu => ?_⟩
        · rw [Addr.add_lit, Addr.add_lit] at z1
          exact World.block_lt_of_cell? _ _ z1
        · have hi : i < n := by
            have := (List.getElem?_eq_some_iff.1 hx).1
            simpa using this
          have e : q i = x := by
            simp [hi] at hx
            exact hx
          subst e
          have hj : j < Y.k := by have := (List.getElem?_eq_some_iff.1 hu).1; rwa [K.len] at this
          have := (hq i hi).2 j hj
          rw [Addr.add_lit, Addr.add_lit] at this
          exact this.trans hu
    · intro z hz
      obtain ⟨i, hi, rfl⟩ := List.mem_map.1 hz
      exact (hq i (List.mem_range.1 hi)).1
    · dsimp only at hd
      exact ⟨_, _, by simp, Nat.le_add_right _ _, .inr hd⟩
set_option maxRecDepth 100000 in
/-- A hash among others. -/
theorem open_hashc20 {H : Type} {enc : TypeId × Value → H} {W : World} {base : Nat} {sp : Nat → Bool} {held : Bool} {n : Nat} {cl : List Value} {x : DataW H × List MemPlace} (hf : DataW.trod enc Try.prog W base sp held n 24 cl = some x) :
    ∃ o : Hs, True ∧ cl = o.cs := by
  obtain ⟨xs, m, _, _, hl, hx, he⟩ := DataW.trod_array Try.underlying24 hf
  have c32 : Try.prog.cellsOf 24 = 32 := by kernel_rfl
  have c1 : Try.prog.cellsOf 5 = 1 := by kernel_rfl
  rw [c32] at hl
  have hcl : cl.length = 32 := hl
  have key : ∀ i, (hi : i < 32) → ∃ n : Int, cl[i]? = some (.int .u8 n) ∧ 0 ≤ n ∧ n < 256 := fun i hi => by
    have h1 := he i hi
    rw [c1, Nat.mul_one] at h1
    obtain ⟨x, hxx⟩ : ∃ x, xs[i]? = some x := ⟨_, List.getElem?_eq_getElem (by omega)⟩
    rw [hxx] at h1
    obtain ⟨K, hK, _, hw⟩ := DataW.trod_int Try.underlying5 h1
    have hb := u8_wf20 hw
    refine ⟨K, ?_, hb.1, hb.2⟩
    have h2 : (cl.drop i).take 1 = [.int .u8 K] := hK
    have h3 : ((cl.drop i).take 1)[0]? = some (.int .u8 K) := by rw [h2]; rfl
    rw [List.getElem?_take, if_pos (by decide), List.getElem?_drop, Nat.add_zero] at h3
    exact h3
  refine ⟨⟨cl.map intOf, by rw [List.length_map, hcl], fun x hx => ?_⟩, trivial, ?_⟩
  rotate_left
  · have : (cl.map intOf).map bV = cl := by
      apply List.ext_getElem?
      intro i
      rw [List.getElem?_map, List.getElem?_map]
      by_cases hi : i < 32
      · obtain ⟨n, hn, _⟩ := key i hi
        rw [hn]
        rfl
      · rw [List.getElem?_eq_none (by omega)]
        rfl
    exact this.symm
  · obtain ⟨u, hu, rfl⟩ := List.mem_map.1 hx
    obtain ⟨i, hi, rfl⟩ := List.mem_iff_getElem.1 hu
    obtain ⟨n, hn, h0, h1⟩ := key i (by omega)
    rw [List.getElem?_eq_getElem hi] at hn
    rw [Option.some.inj hn]
    exact ⟨h0, h1⟩
theorem hBytes20 : Try.prog.bytesOf 24 = 32 := by kernel_rfl
theorem hCells20 : Try.prog.cellsOf 24 = 32 := by kernel_rfl

end Go.Proofs.Ytomiifnhcojilaa
