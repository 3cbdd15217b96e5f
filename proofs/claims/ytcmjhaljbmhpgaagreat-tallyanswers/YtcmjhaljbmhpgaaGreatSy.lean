import Derived.Test.YtcmjhaljbmhpgaaGreatSz
import Derived.Test.YtcmjhaljbmhpgaaGreatCx
namespace Go.Proofs.YtcmjhaljbmhpgaaGreat
open Go.ChangeShapes Go.WideShapes Go.ChangeAt Go.RowKit
open Classical
set_option linter.unusedVariables false

theorem weights_in {H : Type} {t : TypeId} {ds : List (DataW H)} {d : DataW H} (hd : d ∈ ds) : ∀ m, m ∈ d.weights Tryz.prog t → m ∈ DataW.weightsAll Tryz.prog t ds := by
  induction ds with
  | nil => cases hd
  | cons x r ih =>
    intro m hm
    simp only [DataW.weightsAll]
    rcases List.mem_cons.1 hd with rfl | h
    · exact List.mem_append_left _ hm
    · exact List.mem_append_right _ (ih h m hm)
set_option maxRecDepth 100000 in
/-- A slice that came in, of elements that hold slices themselves. -/
theorem open_wrows {α : Type} [Inhabited α] {Y : Lay α} (K : Y.Ok) (F : α → Prop) (hT : Tryz.prog.cellsOf Y.T = Y.k) (hby : Tryz.prog.bytesOf Y.T = Y.by_) {H : Type} {enc : TypeId × Value → H} {W : World} {base : Nat} {v : Value} {d : DataW H} {p : List MemPlace}
    (hop : ∀ {m : Nat} {cs : List Value} {D : DataW H} {q : List MemPlace}, DataW.trod enc Tryz.prog W 0 (fun _ => true) true m Y.T cs = some (D, q) → (∀ k, k ∈ D.weights Tryz.prog Y.T → k ≤ reachBytes) → ∃ e : α, F e ∧ cs = Y.cs e)
    (hv : Value.okWide Tryz.prog W .any base Y.ST v) (h : DataW.Trod enc Tryz.prog W 0 (fun _ => true) true Y.ST v d p) (hw : ∀ m, m ∈ d.weights Tryz.prog Y.ST → m ≤ reachBytes) :
    ∃ a len cap, v = .slice a len cap ∧ ∃ P : List α, SlY Y W a len cap P ∧ (∀ e ∈ P, F e) ∧ len * Y.by_ ≤ 140737488351232 := by
  obtain ⟨a, n, c, rfl⟩ := okWide_slice K.und hv
  refine ⟨a, n, c, rfl, ?_⟩
  obtain ⟨fuel, h⟩ := h
  simp only [Value.cells] at h
  rcases Go.Deep.open_slice K.und h with ⟨hcs, hx⟩ | ⟨y, ln, cp, m, k, D, Pl, hcs, hb, hl, hm, hmm, hx, hall⟩
  · have e := (List.cons_eq_cons.1 hcs).1
    cases e
    exact ⟨[], ⟨rfl, Nat.le_refl _, by unfold maxLen; omega, fun _ => ⟨rfl, rfl⟩, fun x hx => .inl rfl⟩, by simp, by omega⟩
  · have e := (List.cons_eq_cons.1 hcs).1
    cases e
    have hlm : n ≤ m := by rw [hmm]; split <;> omega
    have hd := congrArg Prod.fst hx
    dsimp only at hd
    have hsz : n * Y.by_ ≤ 140737488351232 := by
      have := hw _ (by
        rw [hd]
        simp only [DataW.weights, K.und, hby]
        exact List.mem_cons_self)
      simp only [List.length_map, List.length_range, reachBytes] at this
      rw [Nat.add_mul] at this
      omega
    have each : ∀ i, i < n → ∃ q : α, F q ∧ (∀ j, j < Y.k → W.cell? ((y.add (i * Y.k)).add j) = (Y.cs q)[j]?) := by
      intro i hi
      obtain ⟨cs', h1, h2⟩ := hall i (by omega)
      rw [hT] at h1
      obtain ⟨q, hf, rfl⟩ := hop h2 (fun k hk => hw k (by
        rw [hd]
        simp only [DataW.weights, K.und]
        exact List.mem_cons_of_mem _ (List.mem_append_left _ (weights_in (List.mem_map_of_mem (List.mem_range.2 hi)) k hk))))
      obtain ⟨_, _, hcell⟩ := World.cells?_some h1
      exact ⟨q, hf, hcell⟩
    obtain ⟨q, hq⟩ := Go.Deep.choose_lt each
    refine ⟨(List.range n).map q, ⟨by simp, hl, hm, (fun e => by cases e), fun x hx => ?_⟩, ?_, hsz⟩
    · cases hx
      by_cases hn0 : n = 0
      · subst hn0
        exact .inl rfl
      · obtain ⟨b, o, s⟩ := y
        have z0 := (hq 0 (by omega)).2 0 K.kp
        have z1 := z0.trans (List.getElem?_eq_getElem (by rw [K.len]; exact K.kp))
        have hs := World.cell?_spot z1
        obtain rfl : s = none := by
          rw [Nat.zero_mul] at hs
          simpa [Addr.add] using hs
        refine .inr ⟨b, o, rfl, ?_, fun i x hx j u hu => ?_⟩
        · rw [Addr.add_lit, Addr.add_lit] at z1
          exact World.block_lt_of_cell? _ _ z1
        · have hi : i < n := by
            have := (List.getElem?_eq_some_iff.1 hx).1
            simpa using this
          have e : q i = x := by
            simp [hi] at hx
            exact hx
          subst e
          have hj : j < Y.k := by have := (List.getElem?_eq_some_iff.1 hu).1; rwa [K.len] at this
          have := (hq i hi).2 j hj
          rw [Addr.add_lit, Addr.add_lit] at this
          exact this.trans hu
    · intro z hz
      obtain ⟨i, hi, rfl⟩ := List.mem_map.1 hz
      exact (hq i (List.mem_range.1 hi)).1
theorem u64Cells8 : Tryz.prog.cellsOf 25 = 1 := by kernel_rfl
theorem drCells8 : Tryz.prog.cellsOf 27 = 2 := by kernel_rfl
theorem slCells8 : Tryz.prog.cellsOf 51 = 1 := by kernel_rfl
set_option maxRecDepth 100000 in
theorem open_drc8 {H : Type} {enc : TypeId × Value → H} {W : World} {base : Nat} {sp : Nat → Bool} {held : Bool} {n : Nat} {cs : List Value} {x : DataW H × List MemPlace} (h : DataW.trod enc Tryz.prog W base sp held n 27 cs = some x) :
    ∃ a b : Int, ((Lit.int .u64 a).wf = true ∧ (Lit.int .u64 b).wf = true) ∧ cs = [.int .u64 a, .int .u64 b] := by
  obtain ⟨xs, k, hk, hxy, hlen, hxl, hf⟩ := DataW.trod_struct Tryz.underlying27 h
  rw [drCells8] at hlen
  have hxl : xs.length = 2 := hxl
  match xs, hxl, cs, hlen with
  | [y0, y1], _, [v0, v1], _ =>
    have g0 := hf 0 _ rfl
    have g1 := hf 1 _ rfl
    simp [u64Cells8] at g0 g1
    obtain ⟨K, hK, hx0, hw0⟩ := DataW.trod_int Tryz.underlying25 g0
    obtain ⟨N, hN, hx2, hw2⟩ := DataW.trod_int Tryz.underlying25 g1
    refine ⟨K, N, ⟨hw0, hw2⟩, ?_⟩
    rw [(List.cons_eq_cons.1 hK).1, (List.cons_eq_cons.1 hN).1]
set_option maxRecDepth 100000 in
/-- A log that came in within a vote. -/
theorem log_of_trod {H : Type} {enc : TypeId × Value → H} {W : World} {n : Nat} {v : Value} {d : DataW H} {p : List MemPlace} (hf : DataW.trod enc Tryz.prog W 0 (fun _ => true) true n 51 [v] = some (d, p)) (hw : ∀ m, m ∈ d.weights Tryz.prog 51 → m ≤ reachBytes) :
    ∃ s : SV En, v = .slice s.a s.D.length s.c ∧ SlY yE W s.a s.D.length s.c s.D ∧ (∀ e ∈ s.D, e.fits) ∧ s.D.length * 48 ≤ 140737488351232 := by
  rcases Go.Deep.open_slice Tryz.underlying51 hf with ⟨hcs, hx⟩ | ⟨y, ln, cp, m, k, D, Pl, hcs, hb, hl, hm, hmm, hx, hall⟩
  · have e := (List.cons_eq_cons.1 hcs).1
    exact ⟨⟨none, 0, []⟩, e, ⟨rfl, Nat.le_refl _, Nat.zero_le _, fun _ => ⟨rfl, rfl⟩, fun x hx => .inl rfl⟩, by simp, by simp⟩
  · have e := (List.cons_eq_cons.1 hcs).1
    have hlm : ln ≤ m := by rw [hmm]; split <;> omega
    have hd := congrArg Prod.fst hx
    dsimp only at hd
    have hsz : ln * 48 ≤ 140737488351232 := by
      have := hw _ (by
        rw [hd]
        simp only [DataW.weights, Tryz.underlying51, enBytes]
        exact List.mem_cons_self)
      simp only [List.length_map, List.length_range, reachBytes] at this
      rw [Nat.add_mul] at this
      omega
    have each : ∀ i, i < ln → ∃ q : En, q.fits ∧ (∀ j, j < 5 → W.cell? ((y.add (i * 5)).add j) = q.cs[j]?) := by
      intro i hi
      obtain ⟨cs', h1, h2⟩ := hall i (by omega)
      rw [enCells] at h1
      obtain ⟨q, hf, rfl⟩ := open_enc h2
      obtain ⟨_, _, hcell⟩ := World.cells?_some h1
      exact ⟨q, hf, hcell⟩
    haveI : Inhabited En := ⟨⟨0, 0, ⟨0, 0, ⟨#[]⟩⟩⟩⟩
    obtain ⟨q, hq⟩ := Go.Deep.choose_lt each
    refine ⟨⟨some y, cp, (List.range ln).map q⟩, by rw [e]; simp, ⟨rfl, by simpa using hl, hm, (fun e => by cases e), fun x hx => ?_⟩, ?_, by simpa using hsz⟩
    · cases hx
      by_cases hn0 : ln = 0
      · subst hn0
        exact .inl rfl
      · obtain ⟨b, o, s⟩ := y
        have z0 := (hq 0 (by omega)).2 0 (by omega)
        have z1 := z0.trans (List.getElem?_eq_getElem (by show 0 < 5; omega))
        have hs := World.cell?_spot z1
        obtain rfl : s = none := by
          rw [Nat.zero_mul] at hs
          simpa [Addr.add] using hs
        refine .inr ⟨b, o, rfl, ?_, fun i x hx j u hu => ?_⟩
        · rw [Addr.add_lit, Addr.add_lit] at z1
          exact World.block_lt_of_cell? _ _ z1
        · have hi : i < ln := by
            have := (List.getElem?_eq_some_iff.1 hx).1
            simpa using this
          have e : q i = x := by
            simp [hi] at hx
            exact hx
          subst e
          have hj : j < 5 := (List.getElem?_eq_some_iff.1 hu).1
          have := (hq i hi).2 j hj
          rw [Addr.add_lit, Addr.add_lit] at this
          exact this.trans hu
    · intro z hz
      obtain ⟨i, hi, rfl⟩ := List.mem_map.1 hz
      exact (hq i (List.mem_range.1 hi)).1

end Go.Proofs.YtcmjhaljbmhpgaaGreat
