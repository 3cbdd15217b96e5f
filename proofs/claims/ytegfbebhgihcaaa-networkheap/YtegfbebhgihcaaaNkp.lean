import Derived.Test.YtegfbebhgihcaaaNko
import Derived.ChangeOld
import Derived.ProofKit
import Derived.OpenShut
import Derived.Deep.SlicePairs
import Derived.SizedLaws
namespace Go.Proofs.Ytegfbebhgihcaaa
open Go.ChangeShapes Go.WideShapes Go.ChangeAt Go.RowKit
set_option linter.unusedVariables false

theorem weights_inP {H : Type} {t : TypeId} {ds : List (DataW H)} {d : DataW H} (hd : d ∈ ds) : ∀ m, m ∈ d.weights Try.prog t → m ∈ DataW.weightsAll Try.prog t ds := by
  induction ds with
  | nil => cases hd
  | cons x r ih =>
    intro m hm
    simp only [DataW.weightsAll]
    rcases List.mem_cons.1 hd with rfl | h
    · exact List.mem_append_left _ hm
    · exact List.mem_append_right _ (ih h m hm)
set_option maxRecDepth 100000 in
/-- A slice that was read, of elements that may hold slices themselves. -/
theorem rows_of_trod {α : Type} [Inhabited α] {Y : Lay α} (K : Y.Ok) (F : α → Prop) (hT : Try.prog.cellsOf Y.T = Y.k) (hby : Try.prog.bytesOf Y.T = Y.by_) {H : Type} {enc : TypeId × Value → H} {W : World} {v : Value} {d : DataW H} {p : List MemPlace} {fuel : Nat}
    (hop : ∀ {m : Nat} {cs : List Value} {D : DataW H} {q : List MemPlace}, DataW.trod enc Try.prog W 0 (fun _ => true) true m Y.T cs = some (D, q) → (∀ k, k ∈ D.weights Try.prog Y.T → k ≤ reachBytes) → ∃ e : α, F e ∧ cs = Y.cs e)
    (h : DataW.trod enc Try.prog W 0 (fun _ => true) true fuel Y.ST [v] = some (d, p)) (hw : ∀ m, m ∈ d.weights Try.prog Y.ST → m ≤ reachBytes) :
    ∃ a len cap, v = .slice a len cap ∧ ∃ P : List α, SlY Y W a len cap P ∧ (∀ e ∈ P, F e) ∧ len * Y.by_ ≤ 140737488351232 := by
  rcases Go.Deep.open_slice K.und h with ⟨hcs, hx⟩ | ⟨y, n, c, m, k, D, Pl, hcs, hb, hl, hm, hmm, hx, hall⟩
  · have e := (List.cons_eq_cons.1 hcs).1
    exact ⟨none, 0, 0, e, [], ⟨rfl, Nat.le_refl _, by unfold maxLen; omega, fun _ => ⟨rfl, rfl⟩, fun x hx => .inl rfl⟩, by simp, by omega⟩
  · have e := (List.cons_eq_cons.1 hcs).1
    refine ⟨some y, n, c, e, ?_⟩
    have hlm : n ≤ m := by rw [hmm]; split <;> omega
    have hd := congrArg Prod.fst hx
    dsimp only at hd
    have hsz : n * Y.by_ ≤ 140737488351232 := by
      have := hw _ (by
        rw [hd]
        simp only [DataW.weights, K.und, hby]
        exact List.mem_cons_self)
      simp only [List.length_map, List.length_range, reachBytes] at this
      rw [Nat.add_mul] at this
      omega
    have each : ∀ i, i < n → ∃ q : α, F q ∧ (∀ j, j < Y.k → W.cell? ((y.add (i * Y.k)).add j) = (Y.cs q)[j]?) := by
      intro i hi
      obtain ⟨cs', h1, h2⟩ := hall i (by omega)
      rw [hT] at h1
      obtain ⟨q, hf, rfl⟩ := hop h2 (fun k hk => hw k (by
        rw [hd]
        simp only [DataW.weights, K.und]
        exact List.mem_cons_of_mem _ (List.mem_append_left _ (weights_inP (List.mem_map_of_mem (List.mem_range.2 hi)) k hk))))
      obtain ⟨_, _, hcell⟩ := World.cells?_some h1
      exact ⟨q, hf, hcell⟩
    obtain ⟨q, hq⟩ := Go.Deep.choose_lt each
    refine ⟨(List.range n).map q, ⟨by simp, hl, hm, (fun e => by cases e), fun x hx => ?_⟩, ?_, hsz⟩
    · cases hx
      by_cases hn0 : n = 0
      · subst hn0
        exact .inl rfl
      · obtain ⟨b, o, s⟩ := y
        have z0 := (hq 0 (by omega)).2 0 K.kp
        have z1 := z0.trans (List.getElem?_eq_getElem (by rw [K.len]; exact K.kp))
        have hs := World.cell?_spot z1
        obtain rfl : s = none := by
          rw [Nat.zero_mul] at hs
          simpa [Addr.add] using hs
        refine .inr ⟨b, o, rfl, ?_, fun i x hx j u hu => ?_⟩
        · rw [Addr.add_lit, Addr.add_lit] at z1
          exact World.block_lt_of_cell? _ _ z1
        · have hi : i < n := by
            have := (List.getElem?_eq_some_iff.1 hx).1
            simpa using this
          have e : q i = x := by
            simp [hi] at hx
            exact hx
          subst e
          have hj : j < Y.k := by have := (List.getElem?_eq_some_iff.1 hu).1; rwa [K.len] at this
          have := (hq i hi).2 j hj
          rw [Addr.add_lit, Addr.add_lit] at this
          exact this.trans hu
    · intro z hz
      obtain ⟨i, hi, rfl⟩ := List.mem_map.1 hz
      exact (hq i (List.mem_range.1 hi)).1
set_option maxRecDepth 100000 in
theorem open_wrowsP {α : Type} [Inhabited α] {Y : Lay α} (K : Y.Ok) (F : α → Prop) (hT : Try.prog.cellsOf Y.T = Y.k) (hby : Try.prog.bytesOf Y.T = Y.by_) {H : Type} {enc : TypeId × Value → H} {W : World} {base : Nat} {v : Value} {d : DataW H} {p : List MemPlace}
    (hop : ∀ {m : Nat} {cs : List Value} {D : DataW H} {q : List MemPlace}, DataW.trod enc Try.prog W 0 (fun _ => true) true m Y.T cs = some (D, q) → (∀ k, k ∈ D.weights Try.prog Y.T → k ≤ reachBytes) → ∃ e : α, F e ∧ cs = Y.cs e)
    (hv : Value.okWide Try.prog W .any base Y.ST v) (h : DataW.Trod enc Try.prog W 0 (fun _ => true) true Y.ST v d p) (hw : ∀ m, m ∈ d.weights Try.prog Y.ST → m ≤ reachBytes) :
    ∃ a len cap, v = .slice a len cap ∧ ∃ P : List α, SlY Y W a len cap P ∧ (∀ e ∈ P, F e) ∧ len * Y.by_ ≤ 140737488351232 := by
  obtain ⟨a, n, c, rfl⟩ := okWide_slice K.und hv
  obtain ⟨fuel, h⟩ := h
  simp only [Value.cells] at h
  exact rows_of_trod K F hT hby hop h hw
theorem u8CellsP : Try.prog.cellsOf 5 = 1 := by kernel_rfl
theorem u8BytesP : Try.prog.bytesOf 5 = 1 := by kernel_rfl
theorem intCellsP : Try.prog.cellsOf 3 = 1 := by kernel_rfl
theorem intBytesP : Try.prog.bytesOf 3 = 8 := by kernel_rfl
theorem pkCellsP : Try.prog.cellsOf 46 = 3 := by kernel_rfl
theorem pkBytesP : Try.prog.bytesOf 46 = 40 := by kernel_rfl
theorem bsCellsP : Try.prog.cellsOf 44 = 1 := by kernel_rfl
theorem u8_of {K : Int} (h : (Lit.int .u8 K).wf = true) : K = ((UInt8.ofNat K.toNat).toNat : Int) := by
  simp [Lit.wf, IntKind.min, IntKind.max, IntKind.bits, IntKind.signed] at h
  rw [UInt8.toNat_ofNat']
  omega
set_option maxRecDepth 100000 in
theorem bys_of_trod {H : Type} {enc : TypeId × Value → H} {W : World} {v : Value} {d : DataW H} {p : List MemPlace} {fuel : Nat} (h : DataW.trod enc Try.prog W 0 (fun _ => true) true fuel 44 [v] = some (d, p)) (hw : ∀ m, m ∈ d.weights Try.prog 44 → m ≤ reachBytes) :
    ∃ a c, ∃ s : List UInt8, v = .slice a s.length c ∧ SlY yU W a s.length c s ∧ s.length ≤ 140737488351232 := by
  obtain ⟨a, n, c, rfl, s, h1, _, h3⟩ := rows_of_trod kU (fun _ => True) u8CellsP u8BytesP (fun h _ => by
    obtain ⟨K, hK, _, hw⟩ := DataW.trod_int Try.underlying5 h
    exact ⟨UInt8.ofNat K.toNat, trivial, by rw [hK]; show [Value.int .u8 K] = [.int .u8 _]; rw [← u8_of hw]⟩) h hw
  have hn := h1.len
  subst hn
  exact ⟨a, c, s, rfl, h1, by rw [show s.length * yU.by_ = s.length from Nat.mul_one _] at h3; exact h3⟩
set_option maxRecDepth 100000 in
theorem open_elAp {H : Type} {enc : TypeId × Value → H} {W : World} {m : Nat} {cs : List Value} {D : DataW H} {q : List MemPlace} (h : DataW.trod enc Try.prog W 0 (fun _ => true) true m 46 cs = some (D, q)) (hw : ∀ k, k ∈ D.weights Try.prog 46 → k ≤ reachBytes) : ∃ e : Ap, (e.In W ∧ e.s.length ≤ 140737488351232) ∧ cs = yA.cs e := by
  obtain ⟨xs, k, hk, hxy, hlen, hxl, hf⟩ := DataW.trod_struct Try.underlying46 h
  rw [pkCellsP] at hlen
  have hxl : xs.length = 3 := hxl
  match xs, hxl, cs, hlen with
  | [y0, y1, y2], _, [v0, v1, v2], _ =>
    have g0 := hf 0 _ rfl
    have g1 := hf 1 _ rfl
    have g2 := hf 2 _ rfl
    simp [intCellsP, bsCellsP] at g0 g1 g2
    obtain ⟨N, hN, _, wN⟩ := DataW.trod_int Try.underlying3 g0
    obtain ⟨V, hV, _, wV⟩ := DataW.trod_int Try.underlying3 g1
    have hd : D = .agg ([y0, y1, y2].map Prod.fst) := congrArg Prod.fst hxy
    obtain ⟨a, c, s, hs, h1, h2⟩ := bys_of_trod g2 (fun k hk => hw k (by
      rw [hd]
      simp only [DataW.weights, Try.underlying46]
      exact DataW.weights_mem_each (j := 2) (t := 44) rfl rfl k hk))
    refine ⟨⟨N, V, a, c, s⟩, ⟨h1, h2⟩, ?_⟩
    simp at hN hV
    subst hN hV hs
    rfl
/-- Packets that came in. -/
def CamePk (W : World) (a : Option Addr) (len cap : Nat) : Prop := ∃ P : List Ap, SlY yA W a len cap P ∧ (∀ e ∈ P, e.In W ∧ e.s.length ≤ 140737488351232) ∧ len * 40 ≤ 140737488351232
set_option maxRecDepth 100000 in
theorem open_pks {H : Type} {enc : TypeId × Value → H} {W : World} {base : Nat} {v : Value} {d : DataW H} {p : List MemPlace} (hv : Value.okWide Try.prog W .any base 60 v) (h : DataW.Trod enc Try.prog W 0 (fun _ => true) true 60 v d p)
    (hw : ∀ m, m ∈ d.weights Try.prog 60 → m ≤ reachBytes) : ∃ a len cap, v = .slice a len cap ∧ CamePk W a len cap := by
  haveI : Inhabited Ap := ⟨⟨0, 0, none, 0, []⟩⟩
  obtain ⟨a, n, c, rfl, P, h1, h2, h3⟩ := open_wrowsP kA (fun e => e.In W ∧ e.s.length ≤ 140737488351232) pkCellsP pkBytesP (fun h hw => open_elAp h hw) hv h hw
  exact ⟨a, n, c, rfl, P, h1, h2, h3⟩
/-- Whole numbers that came in. -/
def CameJ (W : World) (a : Option Addr) (len cap : Nat) : Prop := ∃ P : List Int, SlY yJ W a len cap P ∧ ∀ e ∈ P, (Lit.int .i64 e).wf = true
set_option maxRecDepth 100000 in
theorem open_js {H : Type} {enc : TypeId × Value → H} {W : World} {base : Nat} {v : Value} {d : DataW H} {p : List MemPlace} (hv : Value.okWide Try.prog W .any base 74 v) (h : DataW.Trod enc Try.prog W 0 (fun _ => true) true 74 v d p)
    (hw : ∀ m, m ∈ d.weights Try.prog 74 → m ≤ reachBytes) : ∃ a len cap, v = .slice a len cap ∧ CameJ W a len cap := by
  obtain ⟨a, n, c, rfl, P, h1, h2, h3⟩ := open_wrowsP kJ (fun e => (Lit.int .i64 e).wf = true) intCellsP intBytesP (fun h _ => by
    obtain ⟨K, hK, _, hw⟩ := DataW.trod_int Try.underlying3 h
    exact ⟨K, hw, hK⟩) hv h hw
  exact ⟨a, n, c, rfl, P, h1, h2⟩
theorem orders_came (a : Option Addr) (n c : Nat) (ao : Option Addr) (no co : Nat) (w : World) (h : CamePk w a n c) (ho : CameJ w ao no co) :
    Calls Try.prog 6 #[.slice a n c, .slice ao no co] w fun e w' => e = .returned (.bool true) ∧ Below w.heap.size w w' := by
  obtain ⟨L, h1, h2, h3⟩ := h
  obtain ⟨O, o1, o2⟩ := ho
  have e1 := h1.len
  have e2 := o1.len
  subst e1 e2
  exact orders14 L a c O ao co w h1 h2 h3 o1 o2

end Go.Proofs.Ytegfbebhgihcaaa
