import Derived.Test.YtgjmiemkjnnepaaCx
import Derived.Test.YtgjmiemkjnnepaaHl
namespace Go.Proofs.Ytgjmiemkjnnepaa
open Go.ChangeShapes Go.WideShapes Go.ChangeAt Go.RowKit
open Classical
set_option linter.unusedVariables false

theorem drCells : Try.prog.cellsOf 31 = 2 := by kernel_rfl
theorem drBytes : Try.prog.bytesOf 31 = 16 := by kernel_rfl
theorem rsCells : Try.prog.cellsOf 28 = 3 := by kernel_rfl
theorem kdCells : Try.prog.cellsOf 22 = 1 := by kernel_rfl
theorem u64Cells : Try.prog.cellsOf 29 = 1 := by kernel_rfl
theorem enCells' : Try.prog.cellsOf 26 = 5 := by kernel_rfl
theorem slCells : Try.prog.cellsOf 32 = 1 := by kernel_rfl
theorem vcCells : Try.prog.cellsOf 34 = 1 := by kernel_rfl
theorem msCells : Try.prog.cellsOf 36 = 18 := by kernel_rfl
def Mg.fits (m : Mg) : Prop := (Lit.int .i64 m.k).wf = true ∧ (Lit.int .i64 m.nd).wf = true ∧ (Lit.int .i64 m.vw).wf = true ∧ m.e.fits ∧ ((Lit.int .i64 m.r.1).wf = true ∧ (Lit.int .i64 m.r.2.1).wf = true ∧ m.r.2.2.size ≤ maxLen) ∧ (Lit.int .i64 m.p).wf = true ∧ (Lit.int .i64 m.cm).wf = true ∧ (Lit.int .i64 m.ls).wf = true ∧ (Lit.int .u64 m.d.1).wf = true ∧ (Lit.int .u64 m.d.2).wf = true
set_option maxRecDepth 100000 in
theorem open_drc {H : Type} {enc : TypeId × Value → H} {W : World} {base : Nat} {sp : Nat → Bool} {held : Bool} {n : Nat} {cs : List Value} {x : DataW H × List MemPlace} (h : DataW.trod enc Try.prog W base sp held n 31 cs = some x) :
    ∃ p : Int × Int, ((Lit.int .u64 p.1).wf = true ∧ (Lit.int .u64 p.2).wf = true) ∧ cs = [.int .u64 p.1, .int .u64 p.2] := by
  obtain ⟨xs, k, hk, hxy, hlen, hxl, hf⟩ := DataW.trod_struct Try.underlying31 h
  rw [drCells] at hlen
  have hxl : xs.length = 2 := hxl
  match xs, hxl, cs, hlen with
  | [y0, y1], _, [v0, v1], _ =>
    have g0 := hf 0 _ rfl
    have g1 := hf 1 _ rfl
    simp [u64Cells] at g0 g1
    obtain ⟨K, hK, hx0, hw0⟩ := DataW.trod_int Try.underlying29 g0
    obtain ⟨N, hN, hx2, hw2⟩ := DataW.trod_int Try.underlying29 g1
    refine ⟨(K, N), ⟨hw0, hw2⟩, ?_⟩
    rw [(List.cons_eq_cons.1 hK).1, (List.cons_eq_cons.1 hN).1]
set_option maxRecDepth 100000 in
theorem open_rsc {H : Type} {enc : TypeId × Value → H} {W : World} {base : Nat} {sp : Nat → Bool} {held : Bool} {n : Nat} {cs : List Value} {x : DataW H × List MemPlace} (h : DataW.trod enc Try.prog W base sp held n 28 cs = some x) :
    ∃ r : Int × Int × ByteArray, ((Lit.int .i64 r.1).wf = true ∧ (Lit.int .i64 r.2.1).wf = true ∧ r.2.2.size ≤ maxLen) ∧ cs = [.int .i64 r.1, .int .i64 r.2.1, .string r.2.2] := by
  obtain ⟨xs, k, hk, hxy, hlen, hxl, hf⟩ := DataW.trod_struct Try.underlying28 h
  rw [rsCells] at hlen
  have hxl : xs.length = 3 := hxl
  match xs, hxl, cs, hlen with
  | [y0, y1, y2], _, [v0, v1, v2], _ =>
    have g0 := hf 0 _ rfl
    have g1 := hf 1 _ rfl
    have g2 := hf 2 _ rfl
    simp [intCells, strCells] at g0 g1 g2
    obtain ⟨K, hK, hx0, hw0⟩ := DataW.trod_int Try.underlying3 g0
    obtain ⟨N, hN, hx2, hw2⟩ := DataW.trod_int Try.underlying3 g1
    obtain ⟨t, hS, hx4, hw4⟩ := DataW.trod_string Try.underlying9 g2
    refine ⟨(K, N, t), ⟨hw0, hw2, hw4⟩, ?_⟩
    rw [(List.cons_eq_cons.1 hK).1, (List.cons_eq_cons.1 hN).1, (List.cons_eq_cons.1 hS).1]
set_option maxRecDepth 100000 in
/-- Of elements that lie one behind the other: what a slice holds. -/
theorem slice_of_trod {α : Type} [Inhabited α] {Y : Lay α} (F : α → Prop) {T ST : TypeId} {k by_ : Nat} (hT : Y.T = T) (hk : Y.k = k) (kp : 0 < k) (klen : ∀ x, (Y.cs x).length = k) (hu : Try.prog.underlying ST = some (.slice T)) (hcl : Try.prog.cellsOf T = k) (hby : Try.prog.bytesOf T = by_) (hmul : ∀ n, n * by_ ≤ 140737488351232 → n * by_ ≤ 140737488351232)
    {H : Type} {enc : TypeId × Value → H} {W : World} {n : Nat} {v : Value} {d : DataW H} {p : List MemPlace}
    (hop : ∀ {m cs x}, DataW.trod enc Try.prog W 0 (fun _ => true) true m T cs = some x → ∃ e : α, F e ∧ cs = Y.cs e)
    (hf : DataW.trod enc Try.prog W 0 (fun _ => true) true n ST [v] = some (d, p))
    (hw : ∀ m, m ∈ d.weights Try.prog ST → m ≤ reachBytes) : ∃ a len cap, v = .slice a len cap ∧ ∃ P : List α, SlY Y W a len cap P ∧ (∀ e ∈ P, F e) ∧ len * by_ ≤ 140737488351232 := by
  rcases Go.Deep.open_slice hu hf with ⟨hcs, hx⟩ | ⟨y, ln, cp, m, k', D, Pl, hcs, hb, hl, hm, hmm, hx, hall⟩
  · have e := (List.cons_eq_cons.1 hcs).1
    cases e
    exact ⟨none, 0, 0, rfl, [], ⟨rfl, Nat.le_refl _, by unfold maxLen; omega, fun _ => ⟨rfl, rfl⟩, fun x hx => .inl rfl⟩, by simp, by omega⟩
  · have e := (List.cons_eq_cons.1 hcs).1
    subst e
    have hlm : ln ≤ m := by rw [hmm]; split <;> omega
    have each : ∀ i, i < ln → ∃ e : α, F e ∧ (∀ j, j < k → W.cell? ((y.add (i * k)).add j) = (Y.cs e)[j]?) := by
      intro i hi
      obtain ⟨cs', h1, h2⟩ := hall i (by omega)
      rw [hcl] at h1
      obtain ⟨e, hF, rfl⟩ := hop h2
      obtain ⟨_, _, hcell⟩ := World.cells?_some h1
      exact ⟨e, hF, hcell⟩
    obtain ⟨f, hp⟩ := Go.Deep.choose_lt each
    have hd := congrArg Prod.fst hx
    have hsz : ln * by_ ≤ 140737488351232 := by
      have hdd : d = _ := hd
      have := hw _ (by
        rw [hdd]
        simp only [DataW.weights, hu, hby]
        exact List.mem_cons_self)
      simp only [List.length_map, List.length_range, reachBytes] at this
      rw [Nat.add_mul] at this
      omega
    refine ⟨some y, ln, cp, rfl, (List.range ln).map f, ⟨by simp, hl, hm, (fun e => by cases e), fun x hx => ?_⟩, ?_, hsz⟩
    · cases hx
      by_cases hn0 : ln = 0
      · subst hn0
        exact .inl rfl
      · obtain ⟨b, o, s⟩ := y
        have z0 := (hp 0 (by omega)).2 0 kp
        have hs := World.cell?_spot (z0.trans (List.getElem?_eq_getElem (by rw [klen]; exact kp)))
        obtain rfl : s = none := by
          rw [Nat.zero_mul] at hs
          simpa [Addr.add] using hs
        refine .inr ⟨b, o, rfl, ?_, fun i x hx j u hu => ?_⟩
        · have c0 := z0.trans (List.getElem?_eq_getElem (by rw [klen]; exact kp))
          rw [Addr.add_lit, Addr.add_lit] at c0
          exact World.block_lt_of_cell? _ _ c0
        · have hi : i < ln := by
            have := (List.getElem?_eq_some_iff.1 hx).1
            simpa using this
          have e : f i = x := by
            simp [hi] at hx
            exact hx
          subst e
          have hj : j < k := by have := (List.getElem?_eq_some_iff.1 hu).1; rw [klen] at this; exact this
          have := (hp i hi).2 j hj
          rw [Addr.add_lit, Addr.add_lit] at this
          rw [hk]
          exact this.trans hu
    · intro q hq
      obtain ⟨i, hi, rfl⟩ := List.mem_map.1 hq
      exact (hp i (List.mem_range.1 hi)).1

end Go.Proofs.Ytgjmiemkjnnepaa
