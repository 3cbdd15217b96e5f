import Derived.Test.YtfafhlahbhopaaaRows
import Derived.Deep.SlicePairs
import Derived.ChangeOld
import Derived.OpenShut
import Derived.ProofKit
import Derived.SizedLaws
import Derived.Test.YtfafhlahbhopaaaE5
set_option maxRecDepth 100000
set_option linter.unusedVariables false
set_option linter.unusedSimpArgs false
namespace Go.Proofs.Ytfafhlahbhopaaa
open Go.ChangeShapes Go.WideShapes Go.RowKit
open Classical
theorem cellsI20 : Try.prog.cellsOf 3 = 1 := by kernel_rfl
theorem cellsS20 : Try.prog.cellsOf 9 = 1 := by kernel_rfl
theorem cellsO20 : Try.prog.cellsOf 26 = 3 := by kernel_rfl
theorem cellsE20 : Try.prog.cellsOf 28 = 5 := by kernel_rfl
end Go.Proofs.Ytfafhlahbhopaaa
namespace Go.Proofs.Ytfafhlahbhopaaa
open Go.ChangeShapes Go.WideShapes Go.ChangeAt Go.RowKit Go.Maps
open Classical
theorem weights_in20 {H : Type} {P : Program} {e : TypeId} : ∀ {ds : List (DataW H)} {d : DataW H}, d ∈ ds → ∀ m, m ∈ d.weights P e → m ∈ DataW.weightsAll P e ds
  | x :: r, d, hd, m, hm => by
    simp only [DataW.weightsAll, List.mem_append]
    rcases List.mem_cons.1 hd with rfl | hd
    · exact .inl hm
    · exact .inr (weights_in20 hd m hm)
  | [], _, hd, _, _ => by cases hd
theorem rows_w20 {α : Type} [Inhabited α] {Y : Lay α} (K : Y.Ok) (F : α → Prop) (hT : Try.prog.cellsOf Y.T = Y.k) (hby : Try.prog.bytesOf Y.T = Y.by_) {H : Type} {enc : TypeId × Value → H} {W : World} {v : Value} {d : DataW H} {p : List MemPlace} {fuel : Nat}
    (hop : ∀ {m : Nat} {cs : List Value} {D : DataW H} {q : List MemPlace}, DataW.trod enc Try.prog W 0 (fun _ => true) true m Y.T cs = some (D, q) → (∀ k, k ∈ D.weights Try.prog Y.T → k ≤ reachBytes) → ∃ e : α, F e ∧ cs = Y.cs e)
    (h : DataW.trod enc Try.prog W 0 (fun _ => true) true fuel Y.ST [v] = some (d, p)) (hw : ∀ m, m ∈ d.weights Try.prog Y.ST → m ≤ reachBytes) :
    ∃ a len cap, v = .slice a len cap ∧ ∃ P : List α, SlY Y W a len cap P ∧ (∀ e ∈ P, F e) ∧ len * Y.by_ ≤ 140737488351232 := by
  rcases Go.Deep.open_slice K.und h with ⟨hcs, hx⟩ | ⟨y, n, c, m, k, D, Pl, hcs, hb, hl, hm, hmm, hx, hall⟩
  · have e := (List.cons_eq_cons.1 hcs).1
    exact ⟨none, 0, 0, e, [], ⟨rfl, Nat.le_refl _, by unfold maxLen; omega, fun _ => ⟨rfl, rfl⟩, fun x hx => .inl rfl⟩, by simp, by omega⟩
  · have e := (List.cons_eq_cons.1 hcs).1
    refine ⟨some y, n, c, e, ?_⟩
    have hlm : n ≤ m := by rw [hmm]; split <;> omega
    have hd := congrArg Prod.fst hx
    dsimp only at hd
    have hsz : n * Y.by_ ≤ 140737488351232 := by
      have := hw _ (by
        rw [hd]
        simp only [DataW.weights, K.und, hby]
        exact List.mem_cons_self)
      simp only [List.length_map, List.length_range, reachBytes] at this
      rw [Nat.add_mul] at this
      omega
    have each : ∀ i, i < n → ∃ q : α, F q ∧ (∀ j, j < Y.k → W.cell? ((y.add (i * Y.k)).add j) = (Y.cs q)[j]?) := by
      intro i hi
      obtain ⟨cs', h1, h2⟩ := hall i (by omega)
      rw [hT] at h1
      obtain ⟨q, hf, rfl⟩ := hop h2 (fun k hk => hw k (by
        rw [hd]
        simp only [DataW.weights, K.und]
        exact List.mem_cons_of_mem _ (List.mem_append_left _ (weights_in20 (List.mem_map_of_mem (List.mem_range.2 hi)) k hk))))
      obtain ⟨_, _, hcell⟩ := World.cells?_some h1
      exact ⟨q, hf, hcell⟩
    obtain ⟨q, hq⟩ := Go.Deep.choose_lt each
    refine ⟨(List.range n).map q, ⟨by simp, hl, hm, (fun e => by cases e), fun x hx => ?_⟩, ?_, hsz⟩
    · cases hx
      by_cases hn0 : n = 0
      · subst hn0
        exact .inl rfl
      · obtain ⟨b, o, s⟩ := y
        have z0 := (hq 0 (by omega)).2 0 K.kp
        have z1 := z0.trans (List.getElem?_eq_getElem (by rw [K.len]; exact K.kp))
        have hs := World.cell?_spot z1
        obtain rfl : s = none := by
          rw [Nat.zero_mul] at hs
          simpa [Addr.add] using hs
        refine .inr ⟨b, o, rfl, ?_, fun i x hx j u hu => ?_⟩
        · rw [Addr.add_lit, Addr.add_lit] at z1
          exact World.block_lt_of_cell? _ _ z1
        · have hi : i < n := by
            have := (List.getElem?_eq_some_iff.1 hx).1
            simpa using this
          have e : q i = x := by
            simp [hi] at hx
            exact hx
          subst e
          have hj : j < Y.k := by have := (List.getElem?_eq_some_iff.1 hu).1; rwa [K.len] at this
          have := (hq i hi).2 j hj
          rw [Addr.add_lit, Addr.add_lit] at this
          exact this.trans hu
    · intro z hz
      obtain ⟨i, hi, rfl⟩ := List.mem_map.1 hz
      exact (hq i (List.mem_range.1 hi)).1
theorem bytesE20 : Try.prog.bytesOf 28 = 48 := by kernel_rfl
theorem op_w20 {H : Type} {enc : TypeId × Value → H} {W : World} {n : Nat} {cs : List Value} {x : DataW H × List MemPlace} (h : DataW.trod enc Try.prog W 0 (fun _ => true) true n 26 cs = some x) (hw : ∀ k, k ∈ x.1.weights Try.prog 26 → k ≤ reachBytes) :
    ∃ p : Opn, p.v.size ≤ 140737488351232 ∧ cs = [.int .i64 p.k, .int .i64 p.s, .string p.v] := by
  obtain ⟨xs, k, hk, hxy, hlen, hxl, hf⟩ := DataW.trod_struct Try.underlying26 h
  rw [cellsO20] at hlen
  have hxl : xs.length = 3 := hxl
  match xs, hxl, cs, hlen with
  | [y0, y1, y2], _, [v0, v1, v2], _ =>
    have hd : x.1 = .agg ([y0, y1, y2].map Prod.fst) := congrArg Prod.fst hxy
    have g0 := hf 0 _ rfl
    have g1 := hf 1 _ rfl
    have g2 := hf 2 _ rfl
    simp [cellsI20, cellsS20] at g0 g1 g2
    obtain ⟨K, hK, hx0, hw0⟩ := DataW.trod_int Try.underlying3 g0
    obtain ⟨N, hN, hx2, hw2⟩ := DataW.trod_int Try.underlying3 g1
    obtain ⟨t, hS, hx4, hw4⟩ := DataW.trod_string Try.underlying9 g2
    have hwt : t.data.toList.length ≤ reachBytes := hw _ (by
      rw [hd]
      simp only [DataW.weights, Try.underlying26]
      refine DataW.weights_mem_each (j := 2) (t := 9) (d := y2.1) rfl rfl _ ?_
      rw [hx4]
      simp [DataW.weights])
    refine ⟨⟨K, N, t⟩, ?_, ?_⟩
    · show t.data.size ≤ _
      rw [← Array.length_toList]
      exact hwt
    · rw [(List.cons_eq_cons.1 hK).1, (List.cons_eq_cons.1 hN).1, (List.cons_eq_cons.1 hS).1]
theorem enc_w20 {H : Type} {enc : TypeId × Value → H} {W : World} {n : Nat} {cs : List Value} {x : DataW H × List MemPlace} (h : DataW.trod enc Try.prog W 0 (fun _ => true) true n 28 cs = some x) (hw : ∀ k, k ∈ x.1.weights Try.prog 28 → k ≤ reachBytes) :
    ∃ p : En, p.o.v.size ≤ 140737488351232 ∧ cs = p.cs := by
  obtain ⟨xs, k, hk, hxy, hlen, hxl, hf⟩ := DataW.trod_struct Try.underlying28 h
  rw [cellsE20] at hlen
  have hxl : xs.length = 3 := hxl
  match xs, hxl, cs, hlen with
  | [y0, y1, y2], _, [v0, v1, v2, v3, v4], _ =>
    have hd : x.1 = .agg ([y0, y1, y2].map Prod.fst) := congrArg Prod.fst hxy
    have g0 := hf 0 _ rfl
    have g1 := hf 1 _ rfl
    have g2 := hf 2 _ rfl
    simp [cellsI20, cellsO20] at g0 g1 g2
    obtain ⟨K, hK, hx0, hw0⟩ := DataW.trod_int Try.underlying3 g0
    obtain ⟨N, hN, hx2, hw2⟩ := DataW.trod_int Try.underlying3 g1
    obtain ⟨o, ho, e⟩ := op_w20 g2 (fun k hk => hw k (by
      rw [hd]
      simp only [DataW.weights, Try.underlying28]
      exact DataW.weights_mem_each (j := 2) (t := 26) (d := y2.1) rfl rfl _ hk))
    refine ⟨⟨K, N, o⟩, ho, ?_⟩
    have e0 := (List.cons_eq_cons.1 hK).1
    have e1 := (List.cons_eq_cons.1 hN).1
    simp at e
    obtain ⟨e2, e3, e4⟩ := e
    subst e0 e1 e2 e3 e4
    rfl
def CameW (W : World) (a : Option Addr) (n c : Nat) : Prop := ∃ P : List En, SlY yE W a n c P ∧ (∀ x ∈ P, x.o.v.size ≤ 140737488351232) ∧ n ≤ 2932031007317
theorem open_entsW {H : Type} {enc : TypeId × Value → H} {W : World} {base : Nat} {v : Value} {d : DataW H} {p : List MemPlace} (hv : Value.okWide Try.prog W .any base 22 v) (h : DataW.Trod enc Try.prog W 0 (fun _ => true) true 22 v d p)
    (hw : ∀ m, m ∈ d.weights Try.prog 22 → m ≤ reachBytes) : ∃ a n c, v = .slice a n c ∧ CameW W a n c := by
  haveI : Inhabited En := ⟨⟨0, 0, ⟨0, 0, ByteArray.empty⟩⟩⟩
  obtain ⟨a, n, c, rfl⟩ := okWide_slice Try.underlying22 hv
  obtain ⟨fuel, h⟩ := h
  simp only [Value.cells] at h
  obtain ⟨a2, n2, c2, e, P, s, f, hb⟩ := rows_w20 kE (fun q : En => q.o.v.size ≤ 140737488351232) cellsE20 bytesE20 (fun {m cs D q} h hw => enc_w20 h hw) h hw
  cases e
  have hb : n * 48 ≤ 140737488351232 := hb
  exact ⟨a, n, c, rfl, P, s, f, by omega⟩
theorem open_entW {H : Type} {enc : TypeId × Value → H} {W : World} {base : Nat} {v : Value} {d : DataW H} {p : List MemPlace} (hv : Value.okWide Try.prog W .any base 28 v) (h : DataW.Trod enc Try.prog W 0 (fun _ => true) true 28 v d p)
    (hw : ∀ m, m ∈ d.weights Try.prog 28 → m ≤ reachBytes) : ∃ x : En, v = x.val20 ∧ x.o.v.size ≤ 140737488351232 := by
  obtain ⟨cs, rfl, hsz⟩ := okWide_struct Try.underlying28 hv
  obtain ⟨fuel, hf⟩ := h
  obtain ⟨x, hx, e⟩ := enc_w20 hf hw
  refine ⟨x, ?_, hx⟩
  have e2 : cs.toList = x.cs := e
  have e3 : cs = x.cs.toArray := by rw [← e2]
  rw [e3]
  rfl
end Go.Proofs.Ytfafhlahbhopaaa
