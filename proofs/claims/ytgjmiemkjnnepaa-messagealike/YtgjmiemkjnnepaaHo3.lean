import Derived.Test.YtgjmiemkjnnepaaHn
namespace Go.Proofs.Ytgjmiemkjnnepaa
open Go.ChangeShapes Go.WideShapes Go.ChangeAt Go.RowKit
open Classical
set_option linter.unusedVariables false

/-- A message that came in by value. -/
def CameM (W : World) (m : Mg) (a1 : Option Addr) (n1 c1 : Nat) (a2 : Option Addr) (n2 c2 : Nat) : Prop := m.fits ∧ (∃ L : List En, SlY yE W a1 n1 c1 L ∧ (∀ e ∈ L, e.fits) ∧ n1 * 48 ≤ 140737488351232) ∧ ∃ D : List (Int × Int), SlY yD W a2 n2 c2 D ∧ (∀ d ∈ D, (Lit.int .u64 d.1).wf = true ∧ (Lit.int .u64 d.2).wf = true) ∧ n2 * 16 ≤ 140737488351232
set_option maxRecDepth 100000 in
set_option maxHeartbeats 2000000 in
theorem open_msg {H : Type} {enc : TypeId × Value → H} {W : World} {base : Nat} {v : Value} {d : DataW H} {p : List MemPlace} (hv : Value.okWide Try.prog W .any base 36 v) (h : DataW.Trod enc Try.prog W 0 (fun _ => true) true 36 v d p)
    (hw : ∀ m, m ∈ d.weights Try.prog 36 → m ≤ reachBytes) :
    ∃ (m : Mg) (a1 : Option Addr) (n1 c1 : Nat) (a2 : Option Addr) (n2 c2 : Nat), v = m.val (.slice a1 n1 c1) (.slice a2 n2 c2) ∧ CameM W m a1 n1 c1 a2 n2 c2 := by
  obtain ⟨cs, rfl, hsz⟩ := okWide_struct Try.underlying36 hv
  rw [msCells] at hsz
  obtain ⟨l⟩ := cs
  obtain ⟨fuel, hf⟩ := h
  obtain ⟨xs, k, hk, hxy, hlen, hxl, hf⟩ := DataW.trod_struct Try.underlying36 hf
  have hxl : xs.length = 11 := hxl
  match xs, hxl, l, hsz with
  | [y0, y1, y2, y3, y4, y5, y6, y7, y8, y9, y10], _, [v0, v1, v2, v3, v4, v5, v6, v7, v8, v9, v10, v11, v12, v13, v14, v15, v16, v17], _ =>
    have g0 := hf 0 _ rfl
    have g1 := hf 1 _ rfl
    have g2 := hf 2 _ rfl
    have g3 := hf 3 _ rfl
    have g4 := hf 4 _ rfl
    have g5 := hf 5 _ rfl
    have g6 := hf 6 _ rfl
    have g7 := hf 7 _ rfl
    have g8 := hf 8 _ rfl
    have g9 := hf 9 _ rfl
    have g10 := hf 10 _ rfl
    simp [Value.cells, intCells, kdCells, enCells, rsCells, drCells, slCells, vcCells] at g0 g1 g2 g3 g4 g5 g6 g7 g8 g9 g10
    obtain ⟨K, hK, _, wK⟩ := DataW.trod_int Try.underlying22 g0
    obtain ⟨N, hN, _, wN⟩ := DataW.trod_int Try.underlying3 g1
    obtain ⟨V, hV, _, wV⟩ := DataW.trod_int Try.underlying3 g2
    obtain ⟨e, we, he⟩ := open_enc g3
    obtain ⟨r, wr, hr⟩ := open_rsc g4
    obtain ⟨P, hP, _, wP⟩ := DataW.trod_int Try.underlying3 g5
    obtain ⟨C, hC, _, wC⟩ := DataW.trod_int Try.underlying3 g6
    obtain ⟨Ls, hLs, _, wLs⟩ := DataW.trod_int Try.underlying3 g7
    obtain ⟨dr, wdr, hdr⟩ := open_drc g8
    have hd : d = .agg ([y0, y1, y2, y3, y4, y5, y6, y7, y8, y9, y10].map Prod.fst) := congrArg Prod.fst hxy
    haveI : Inhabited En := ⟨⟨0, 0, ⟨0, 0, ⟨#[]⟩⟩⟩⟩
    obtain ⟨a1, n1, c1, e16, hL⟩ := slice_of_trod (Y := yE) En.fits rfl rfl (by decide) (fun _ => rfl) Try.underlying32 enCells enBytes (fun _ h => h) (fun h => open_enc h) g9 (fun k hk => hw k (by
      rw [hd]
      simp only [DataW.weights, Try.underlying36]
      exact DataW.weights_mem_each (j := 9) (t := 32) rfl rfl k hk))
    obtain ⟨a2, n2, c2, e17, hD⟩ := slice_of_trod (Y := yD) (fun d => (Lit.int .u64 d.1).wf = true ∧ (Lit.int .u64 d.2).wf = true) rfl rfl (by decide) (fun _ => rfl) Try.underlying34 drCells drBytes (fun _ h => h) (fun h => open_drc h) g10 (fun k hk => hw k (by
      rw [hd]
      simp only [DataW.weights, Try.underlying36]
      exact DataW.weights_mem_each (j := 10) (t := 34) rfl rfl k hk))
    refine ⟨⟨K, N, V, e, r, P, C, Ls, dr⟩, a1, n1, c1, a2, n2, c2, ?_, ⟨wK, wN, wV, we, wr, wP, wC, wLs, wdr.1, wdr.2⟩, hL, hD⟩
    simp [En.cs] at hK hN hV he hr hP hC hLs hdr
    obtain ⟨q3, q4, q5, q6, q7⟩ := he
    obtain ⟨q8, q9, q10⟩ := hr
    obtain ⟨q14, q15⟩ := hdr
    subst hK hN hV q3 q4 q5 q6 q7 q8 q9 q10 hP hC hLs q14 q15 e16 e17
    rfl
theorem alike_came (m : Mg) (a1 : Option Addr) (n1 c1 : Nat) (a2 : Option Addr) (n2 c2 : Nat) (m' : Mg) (b1 : Option Addr) (m1 e1 : Nat) (b2 : Option Addr) (m2 e2 : Nat) (w : World) (h : CameM w m a1 n1 c1 a2 n2 c2) (h' : CameM w m' b1 m1 e1 b2 m2 e2) :
    Calls Try.prog 3 #[m.val (.slice a1 n1 c1) (.slice a2 n2 c2), m'.val (.slice b1 m1 e1) (.slice b2 m2 e2)] w fun e w' => e = .returned (.bool true) ∧ Below w.heap.size w w' := by
  obtain ⟨_, ⟨L, h1, _, k1⟩, D, h2, _, k2⟩ := h
  obtain ⟨_, ⟨L', h3, _, k3⟩, D', h4, _, k4⟩ := h'
  exact alike_walk m m' a1 a2 b1 b2 n1 n2 m1 m2 c1 c2 e1 e2 L L' D D' w h1 h2 h3 h4 k1 k2 k3 k4

end Go.Proofs.Ytgjmiemkjnnepaa
