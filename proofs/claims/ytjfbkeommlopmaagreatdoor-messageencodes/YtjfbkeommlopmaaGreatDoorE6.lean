import Derived.Test.YtjfbkeommlopmaaGreatDoorRows
import Derived.Lib.LaidTab
import Derived.MakeChecks
import Derived.Test.YtjfbkeommlopmaaGreatDoorE5
namespace Go.Proofs.YtjfbkeommlopmaaGreatDoor
open Go.ChangeShapes Go.WideShapes Go.ChangeAt Go.RowKit
open Classical
set_option linter.unusedVariables false
theorem drCells : Tryz.prog.cellsOf 33 = 2 := by kernel_rfl
theorem drBytes : Tryz.prog.bytesOf 33 = 16 := by kernel_rfl
theorem rsCells : Tryz.prog.cellsOf 30 = 3 := by kernel_rfl
theorem kdCells : Tryz.prog.cellsOf 24 = 1 := by kernel_rfl
theorem u64Cells : Tryz.prog.cellsOf 31 = 1 := by kernel_rfl
theorem slCells : Tryz.prog.cellsOf 34 = 1 := by kernel_rfl
theorem vcCells : Tryz.prog.cellsOf 36 = 1 := by kernel_rfl
theorem msCells : Tryz.prog.cellsOf 38 = 18 := by kernel_rfl
def Mg.fits (m : Mg) : Prop := (Lit.int .i64 m.k).wf = true ∧ (Lit.int .i64 m.nd).wf = true ∧ (Lit.int .i64 m.vw).wf = true ∧ m.e.fits ∧ ((Lit.int .i64 m.r.1).wf = true ∧ (Lit.int .i64 m.r.2.1).wf = true ∧ m.r.2.2.size ≤ maxLen) ∧ (Lit.int .i64 m.p).wf = true ∧ (Lit.int .i64 m.cm).wf = true ∧ (Lit.int .i64 m.ls).wf = true ∧ (Lit.int .u64 m.d.1).wf = true ∧ (Lit.int .u64 m.d.2).wf = true
set_option maxRecDepth 100000 in
theorem open_drc {H : Type} {enc : TypeId × Value → H} {W : World} {base : Nat} {sp : Nat → Bool} {held : Bool} {n : Nat} {cs : List Value} {x : DataW H × List MemPlace} (h : DataW.trod enc Tryz.prog W base sp held n 33 cs = some x) :
    ∃ p : Int × Int, ((Lit.int .u64 p.1).wf = true ∧ (Lit.int .u64 p.2).wf = true) ∧ cs = [.int .u64 p.1, .int .u64 p.2] := by
  obtain ⟨xs, k, hk, hxy, hlen, hxl, hf⟩ := DataW.trod_struct Tryz.underlying33 h
  rw [drCells] at hlen
  have hxl : xs.length = 2 := hxl
  match xs, hxl, cs, hlen with
  | [y0, y1], _, [v0, v1], _ =>
    have g0 := hf 0 _ rfl
    have g1 := hf 1 _ rfl
    simp [u64Cells] at g0 g1
    obtain ⟨K, hK, hx0, hw0⟩ := DataW.trod_int Tryz.underlying31 g0
    obtain ⟨N, hN, hx2, hw2⟩ := DataW.trod_int Tryz.underlying31 g1
    refine ⟨(K, N), ⟨hw0, hw2⟩, ?_⟩
    rw [(List.cons_eq_cons.1 hK).1, (List.cons_eq_cons.1 hN).1]
set_option maxRecDepth 100000 in
theorem open_rsc {H : Type} {enc : TypeId × Value → H} {W : World} {base : Nat} {sp : Nat → Bool} {held : Bool} {n : Nat} {cs : List Value} {x : DataW H × List MemPlace} (h : DataW.trod enc Tryz.prog W base sp held n 30 cs = some x) :
    ∃ r : Int × Int × ByteArray, ((Lit.int .i64 r.1).wf = true ∧ (Lit.int .i64 r.2.1).wf = true ∧ r.2.2.size ≤ maxLen) ∧ cs = [.int .i64 r.1, .int .i64 r.2.1, .string r.2.2] := by
  obtain ⟨xs, k, hk, hxy, hlen, hxl, hf⟩ := DataW.trod_struct Tryz.underlying30 h
  rw [rsCells] at hlen
  have hxl : xs.length = 3 := hxl
  match xs, hxl, cs, hlen with
  | [y0, y1, y2], _, [v0, v1, v2], _ =>
    have g0 := hf 0 _ rfl
    have g1 := hf 1 _ rfl
    have g2 := hf 2 _ rfl
    simp [intCells, strCells] at g0 g1 g2
    obtain ⟨K, hK, hx0, hw0⟩ := DataW.trod_int Tryz.underlying3 g0
    obtain ⟨N, hN, hx2, hw2⟩ := DataW.trod_int Tryz.underlying3 g1
    obtain ⟨t, hS, hx4, hw4⟩ := DataW.trod_string Tryz.underlying9 g2
    refine ⟨(K, N, t), ⟨hw0, hw2, hw4⟩, ?_⟩
    rw [(List.cons_eq_cons.1 hK).1, (List.cons_eq_cons.1 hN).1, (List.cons_eq_cons.1 hS).1]
set_option maxRecDepth 100000 in
theorem slice_of_trod {α : Type} [Inhabited α] {Y : Lay α} (F : α → Prop) {T ST : TypeId} {k by_ : Nat} (hT : Y.T = T) (hk : Y.k = k) (kp : 0 < k) (klen : ∀ x, (Y.cs x).length = k) (hu : Tryz.prog.underlying ST = some (.slice T)) (hcl : Tryz.prog.cellsOf T = k) (hby : Tryz.prog.bytesOf T = by_) (hmul : ∀ n, n * by_ ≤ 140737488351232 → n * by_ ≤ 140737488351232)
    {H : Type} {enc : TypeId × Value → H} {W : World} {n : Nat} {v : Value} {d : DataW H} {p : List MemPlace}
    (hop : ∀ {m cs x}, DataW.trod enc Tryz.prog W 0 (fun _ => true) true m T cs = some x → ∃ e : α, F e ∧ cs = Y.cs e)
    (hf : DataW.trod enc Tryz.prog W 0 (fun _ => true) true n ST [v] = some (d, p))
    (hw : ∀ m, m ∈ d.weights Tryz.prog ST → m ≤ reachBytes) : ∃ a len cap, v = .slice a len cap ∧ ∃ P : List α, SlY Y W a len cap P ∧ (∀ e ∈ P, F e) ∧ len * by_ ≤ 140737488351232 := by
  rcases Go.Deep.open_slice hu hf with ⟨hcs, hx⟩ | ⟨y, ln, cp, m, k', D, Pl, hcs, hb, hl, hm, hmm, hx, hall⟩
  · have e := (List.cons_eq_cons.1 hcs).1
    cases e
    exact ⟨none, 0, 0, rfl, [], ⟨rfl, Nat.le_refl _, by unfold maxLen; omega, fun _ => ⟨rfl, rfl⟩, fun x hx => .inl rfl⟩, by simp, by omega⟩
  · have e := (List.cons_eq_cons.1 hcs).1
    subst e
    have hlm : ln ≤ m := by rw [hmm]; split <;> omega
    have each : ∀ i, i < ln → ∃ e : α, F e ∧ (∀ j, j < k → W.cell? ((y.add (i * k)).add j) = (Y.cs e)[j]?) := by
      intro i hi
      obtain ⟨cs', h1, h2⟩ := hall i (by omega)
      rw [hcl] at h1
      obtain ⟨e, hF, rfl⟩ := hop h2
      obtain ⟨_, _, hcell⟩ := World.cells?_some h1
      exact ⟨e, hF, hcell⟩
    obtain ⟨f, hp⟩ := Go.Deep.choose_lt each
    have hd := congrArg Prod.fst hx
    have hsz : ln * by_ ≤ 140737488351232 := by
      have hdd : d = _ := hd
      have := hw _ (by
        rw [hdd]
        simp only [DataW.weights, hu, hby]
        exact List.mem_cons_self)
      simp only [List.length_map, List.length_range, reachBytes] at this
      rw [Nat.add_mul] at this
      omega
    refine ⟨some y, ln, cp, rfl, (List.range ln).map f, ⟨by simp, hl, hm, (fun e => by cases e), fun x hx => ?_⟩, ?_, hsz⟩
    · cases hx
      by_cases hn0 : ln = 0
      · subst hn0
        exact .inl rfl
      · obtain ⟨b, o, s⟩ := y
        have z0 := (hp 0 (by omega)).2 0 kp
        have hs := World.cell?_spot (z0.trans (List.getElem?_eq_getElem (by rw [klen]; exact kp)))
        obtain rfl : s = none := by
          rw [Nat.zero_mul] at hs
          simpa [Addr.add] using hs
        refine .inr ⟨b, o, rfl, ?_, fun i x hx j u hu => ?_⟩
        · have c0 := z0.trans (List.getElem?_eq_getElem (by rw [klen]; exact kp))
          rw [Addr.add_lit, Addr.add_lit] at c0
          exact World.block_lt_of_cell? _ _ c0
        · have hi : i < ln := by
            have := (List.getElem?_eq_some_iff.1 hx).1
            simpa using this
          have e : f i = x := by
            simp [hi] at hx
            exact hx
          subst e
          have hj : j < k := by have := (List.getElem?_eq_some_iff.1 hu).1; rw [klen] at this; exact this
          have := (hp i hi).2 j hj
          rw [Addr.add_lit, Addr.add_lit] at this
          rw [hk]
          exact this.trans hu
    · intro q hq
      obtain ⟨i, hi, rfl⟩ := List.mem_map.1 hq
      exact (hp i (List.mem_range.1 hi)).1
def CameM (W : World) (m : Mg) (a1 : Option Addr) (n1 c1 : Nat) (a2 : Option Addr) (n2 c2 : Nat) : Prop := m.fits ∧ (∃ L : List En, SlY yE W a1 n1 c1 L ∧ (∀ e ∈ L, e.fits) ∧ n1 * 48 ≤ 140737488351232) ∧ ∃ D : List (Int × Int), SlY yD W a2 n2 c2 D ∧ (∀ d ∈ D, (Lit.int .u64 d.1).wf = true ∧ (Lit.int .u64 d.2).wf = true) ∧ n2 * 16 ≤ 140737488351232
set_option maxRecDepth 100000 in
set_option maxHeartbeats 2000000 in
theorem open_msg {H : Type} {enc : TypeId × Value → H} {W : World} {base : Nat} {v : Value} {d : DataW H} {p : List MemPlace} (hv : Value.okWide Tryz.prog W .any base 38 v) (h : DataW.Trod enc Tryz.prog W 0 (fun _ => true) true 38 v d p)
    (hw : ∀ m, m ∈ d.weights Tryz.prog 38 → m ≤ reachBytes) :
    ∃ (m : Mg) (a1 : Option Addr) (n1 c1 : Nat) (a2 : Option Addr) (n2 c2 : Nat), v = m.val (.slice a1 n1 c1) (.slice a2 n2 c2) ∧ CameM W m a1 n1 c1 a2 n2 c2 := by
  obtain ⟨cs, rfl, hsz⟩ := okWide_struct Tryz.underlying38 hv
  rw [msCells] at hsz
  obtain ⟨l⟩ := cs
  obtain ⟨fuel, hf⟩ := h
  obtain ⟨xs, k, hk, hxy, hlen, hxl, hf⟩ := DataW.trod_struct Tryz.underlying38 hf
  have hxl : xs.length = 11 := hxl
  match xs, hxl, l, hsz with
  | [y0, y1, y2, y3, y4, y5, y6, y7, y8, y9, y10], _, [v0, v1, v2, v3, v4, v5, v6, v7, v8, v9, v10, v11, v12, v13, v14, v15, v16, v17], _ =>
    have g0 := hf 0 _ rfl
    have g1 := hf 1 _ rfl
    have g2 := hf 2 _ rfl
    have g3 := hf 3 _ rfl
    have g4 := hf 4 _ rfl
    have g5 := hf 5 _ rfl
    have g6 := hf 6 _ rfl
    have g7 := hf 7 _ rfl
    have g8 := hf 8 _ rfl
    have g9 := hf 9 _ rfl
    have g10 := hf 10 _ rfl
    simp [Value.cells, intCells, kdCells, enCells, rsCells, drCells, slCells, vcCells] at g0 g1 g2 g3 g4 g5 g6 g7 g8 g9 g10
    obtain ⟨K, hK, _, wK⟩ := DataW.trod_int Tryz.underlying24 g0
    obtain ⟨N, hN, _, wN⟩ := DataW.trod_int Tryz.underlying3 g1
    obtain ⟨V, hV, _, wV⟩ := DataW.trod_int Tryz.underlying3 g2
    obtain ⟨e, we, he⟩ := open_enc g3
    obtain ⟨r, wr, hr⟩ := open_rsc g4
    obtain ⟨P, hP, _, wP⟩ := DataW.trod_int Tryz.underlying3 g5
    obtain ⟨C, hC, _, wC⟩ := DataW.trod_int Tryz.underlying3 g6
    obtain ⟨Ls, hLs, _, wLs⟩ := DataW.trod_int Tryz.underlying3 g7
    obtain ⟨dr, wdr, hdr⟩ := open_drc g8
    have hd : d = .agg ([y0, y1, y2, y3, y4, y5, y6, y7, y8, y9, y10].map Prod.fst) := congrArg Prod.fst hxy
    haveI : Inhabited En := ⟨⟨0, 0, ⟨0, 0, ⟨#[]⟩⟩⟩⟩
    obtain ⟨a1, n1, c1, e16, hL⟩ := slice_of_trod (Y := yE) En.fits rfl rfl (by decide) (fun _ => rfl) Tryz.underlying34 enCells enBytes (fun _ h => h) (fun h => open_enc h) g9 (fun k hk => hw k (by
      rw [hd]
      simp only [DataW.weights, Tryz.underlying38]
      exact DataW.weights_mem_each (j := 9) (t := 34) rfl rfl k hk))
    obtain ⟨a2, n2, c2, e17, hD⟩ := slice_of_trod (Y := yD) (fun d => (Lit.int .u64 d.1).wf = true ∧ (Lit.int .u64 d.2).wf = true) rfl rfl (by decide) (fun _ => rfl) Tryz.underlying36 drCells drBytes (fun _ h => h) (fun h => open_drc h) g10 (fun k hk => hw k (by
      rw [hd]
      simp only [DataW.weights, Tryz.underlying38]
      exact DataW.weights_mem_each (j := 10) (t := 36) rfl rfl k hk))
    refine ⟨⟨K, N, V, e, r, P, C, Ls, dr⟩, a1, n1, c1, a2, n2, c2, ?_, ⟨wK, wN, wV, we, wr, wP, wC, wLs, wdr.1, wdr.2⟩, hL, hD⟩
    simp [En.cs] at hK hN hV he hr hP hC hLs hdr
    obtain ⟨q3, q4, q5, q6, q7⟩ := he
    obtain ⟨q8, q9, q10⟩ := hr
    obtain ⟨q14, q15⟩ := hdr
    subst hK hN hV q3 q4 q5 q6 q7 q8 q9 q10 hP hC hLs q14 q15 e16 e17
    rfl
end Go.Proofs.YtjfbkeommlopmaaGreatDoor
namespace Go.Proofs.YtjfbkeommlopmaaGreatDoor
open Go.RowKit Go.Maps Go.WideShapes Go.ChangeShapes
open Classical
set_option linter.unusedVariables false
set_option linter.unusedSimpArgs false
theorem gTab : Tryz.prog.globalNamed "amnesia/message.table" = some 0 := by kernel_rfl
theorem gTabT : (Tryz.prog.globals[0]?).map (·.type) = some 84 := by kernel_rfl
theorem cellsRow : Tryz.prog.cellsOf 83 = 10 := by kernel_rfl
theorem cellsRule : Tryz.prog.cellsOf 82 = 1 := by kernel_rfl
theorem undTab : Tryz.prog.underlying 84 = some (.array 15 83) := by kernel_rfl
theorem undRow : Tryz.prog.underlying 83 = some (.array 10 82) := by kernel_rfl
theorem undRule : Tryz.prog.underlying 82 = some (.int .u8) := by kernel_rfl
theorem tab_of_laid7 {W : World} (h : laidMetH Tryz.prog [("amnesia/message.table", Rows.laid_amnesia_message_table)] W) : Tab W := by
  rw [MakeChecks.laidMetH_plain _ _ _ (by kernel_rfl)] at h
  obtain ⟨ps, ⟨g', t', cs, fuel, p, q, hg', ht', hvar, hd, _, _⟩, _⟩ := h
  obtain rfl := Option.some.inj (gTab.symm.trans hg')
  obtain rfl := Option.some.inj (gTabT.symm.trans ht')
  obtain ⟨xs, m, _, hx, hl, hxl, hall⟩ := DataW.trod_array undTab hd
  have e : (Rows.laid_amnesia_message_table : DataW Unit) = .agg ((List.range 15).map fun k => Lib.tabData .u8 ((List.range 10).map fun j => (tabA k j : Int))) := by kernel_rfl
  have hxs : xs.map (·.1) = (List.range 15).map fun k => (Lib.tabData .u8 ((List.range 10).map fun j => (tabA k j : Int)) : DataW Unit) := by
    have h1 := congrArg Prod.fst hx
    rw [e] at h1
    exact (DataW.agg.inj h1).symm
  have row : ∀ k, k < 15 → (cs.toList.drop (k * 10)).take 10 = ((List.range 10).map fun j => (tabA k j : Int)).map fun z => Value.int .u8 z := by
    intro k hk
    have h1 := hall k hk
    rw [cellsRow] at h1
    obtain ⟨x, hx⟩ : ∃ x, xs[k]? = some x := ⟨_, List.getElem?_eq_getElem (by omega)⟩
    rw [hx] at h1
    have h2 : x.1 = (Lib.tabData .u8 ((List.range 10).map fun j => (tabA k j : Int)) : DataW Unit) := by
      have h3 := congrArg (fun l => l[k]?) hxs
      simp only [List.getElem?_map, hx, Option.map_some, List.getElem?_range hk] at h3
      exact Option.some.inj h3
    obtain ⟨d, pp⟩ := x
    subst h2
    exact Lib.cells_of_tab undRow undRule cellsRule cellsRow h1
  have cell : ∀ k j, k < 15 → j < 10 → W.cell? ⟨0, k * 10 + j, none⟩ = some (.int .u8 (tabA k j : Int)) := by
    intro k j hk hj
    have h1 := World.var?_cell gTab hvar (k * 10 + j)
    rw [h1]
    have h2 := congrArg (fun l => l[j]?) (row k hk)
    simp only [List.getElem?_take_of_lt hj, List.getElem?_drop, List.getElem?_map, List.getElem?_range hj, Option.map_some, Array.getElem?_toList] at h2
    exact h2
  refine ⟨?_, cell⟩
  have h0 := cell 0 0 (by decide) (by decide)
  apply Nat.pos_of_ne_zero
  intro hz
  have : W.heap[0]? = none := Array.getElem?_eq_none (by omega)
  simp [World.cell?, this] at h0
theorem cfCells7 : Tryz.prog.cellsOf 23 = 4 := by kernel_rfl
theorem boolCells7 : Tryz.prog.cellsOf 4 = 1 := by kernel_rfl
set_option maxRecDepth 100000 in
theorem open_cfg {H : Type} {enc : TypeId × Value → H} {W : World} {base : Nat} {v : Value} {d : DataW H} {p : List MemPlace} (hv : Value.okWide Tryz.prog W .any base 23 v) (h : DataW.Trod enc Tryz.prog W 0 (fun _ => true) true 23 v d p) :
    ∃ x : Cf, v = x.val ∧ True := by
  obtain ⟨cs, rfl, hsz⟩ := okWide_struct Tryz.underlying23 hv
  obtain ⟨fuel, hf⟩ := h
  obtain ⟨xs, k, hk, hxy, hlen, hxl, hf⟩ := DataW.trod_struct Tryz.underlying23 hf
  rw [cfCells7] at hlen
  have hxl : xs.length = 4 := hxl
  simp only [Value.cells] at hlen hf
  obtain ⟨l⟩ := cs
  match xs, hxl, l, hlen with
  | [y0, y1, y2, y3], _, [v0, v1, v2, v3], _ =>
    have g0 := hf 0 _ rfl
    have g1 := hf 1 _ rfl
    have g2 := hf 2 _ rfl
    have g3 := hf 3 _ rfl
    simp [intCells, boolCells7] at g0 g1 g2 g3
    obtain ⟨A, hA, _, _⟩ := DataW.trod_int Tryz.underlying3 g0
    obtain ⟨B, hB, _, _⟩ := DataW.trod_int Tryz.underlying3 g1
    obtain ⟨C, hC, _, _⟩ := DataW.trod_int Tryz.underlying3 g2
    obtain ⟨b, hb, _⟩ := DataW.trod_bool Tryz.underlying4 g3
    refine ⟨⟨A, B, C, b⟩, ?_, trivial⟩
    simp at hA hB hC hb
    subst hA hB hC hb
    rfl
end Go.Proofs.YtjfbkeommlopmaaGreatDoor
namespace Go.Proofs.YtjfbkeommlopmaaGreatDoor
open Go.RowKit Go.Maps
open Classical
set_option linter.unusedVariables false
set_option linter.unusedSimpArgs false
theorem enB_byte {c : Cf} {m : Mg} {L : List En} {D : List (Int × Int)} (hf : m.e.fits) (hL : ∀ e ∈ L, e.fits) (hd : drF m.d) (hD : ∀ d ∈ D, drF d) (hlen : (L.length : Int) ≤ 9223372036854775807) : ∀ z ∈ enB c m L D, 0 ≤ z ∧ z < 256 := by
  unfold enB
  split
  · rename_i h
    obtain ⟨hm, k1, k2⟩ := ck_mgF h hf hL hd hD hlen
    exact M.frame_byte _ (mbBy_byte hm (by omega))
  · exact fun z hz => by cases hz
theorem same_eq (a a' : Option Addr) (n c n' c' : Nat) (l : List Int) (w : World) (h : Wi.Hs w a n c l) (h' : Wi.Hs w a' n' c' l) : Calls Tryz.prog 18 #[.slice a n c, .slice a' n' c'] w fun e w' => e = .returned (.bool true) ∧ w' = w := by
  refine (Wi.same_any a a' n c n' c' _ _ w h h').mono ?_
  rintro e w' ⟨rfl, rfl⟩
  exact ⟨by rw [decide_eq_true rfl], rfl⟩
set_option maxRecDepth 100000 in
set_option maxHeartbeats 4000000 in
theorem law_encodes7 (c : Cf) (m : Mg) (a1 a2 : Option Addr) (c1 c2 : Nat) (L : List En) (D : List (Int × Int)) (w : World) (hT : Tab w) (hL : SlY yE w a1 L.length c1 L) (hfit : ∀ e ∈ L, e.fits) (hD : SlY yD w a2 D.length c2 D) (hfe : m.e.fits) (hd : drF m.d) (hds : ∀ d ∈ D, drF d) (k1 : L.length * 48 ≤ 140737488351232) (k2 : D.length * 16 ≤ 140737488351232) :
    Calls Tryz.prog 4 #[c.val, m.val (.slice a1 L.length c1) (.slice a2 D.length c2)] w fun e w' => e = .returned (.bool true) ∧ Below w.heap.size w w' := by
  have hby := enB_byte (c := c) (m := m) (L := L) (D := D) hfe hfit hd hds (by omega)
  have H1 := hide hL
  have H2 := hide hD
  clear hL hD
  have HT := hide hT
  have H0 := hT.lt
  clear hT
  go_enter Tryz.func4, Tryz.ntmps4
  go_upto_region 0 with fail
  refine wp_region_lit ?_
  refine vl_gen (fun T => T.size = 38 ∧ T[0]? = some (gw true (.agg #[.int .i64 c.f, .int .i64 c.r, .int .i64 c.p, .bool c.u])) ∧ T[1]? = some (gw true (m.val (.slice a1 L.length c1) (.slice a2 D.length c2)))) ⟨rfl, rfl, rfl⟩ (fun Z0 ⟨hz, s0, s1⟩ => ?_)
  obtain ⟨w1, hw1⟩ : ∃ y, y = w.alloc (.cells #[.int .i64 c.f, .int .i64 c.r, .int .i64 c.p, .bool c.u] 23) := ⟨_, rfl⟩
  have hB1 : Below w.heap.size w w1 := by rw [hw1]; exact (Below.refl _ _).alloc (Nat.le_refl _) _
  have hs1 : w1.heap.size = w.heap.size + 1 := by rw [hw1]; simp
  have C1 : CfB w1 w.heap.size c := ⟨by omega, fun i x hx => by rw [hw1]; exact cell_box _ _ _ _ _ (by simpa using hx)⟩
  refine vw (.pointer (some ⟨w.heap.size, 0, none⟩)) w1 (want_none rfl) (ex_box rfl (ev s0 rfl) (by rw [hw1]; exact bxCf _ _ _ _ _)) rfl hz (by decide) (fun Z1 zz kk s2 => ?_)
  replace s1 := kt kk s1
  clear kk hz s0 hw1
  have hz := zz
  clear zz
  obtain ⟨w2, hw2⟩ : ∃ y, y = w1.alloc (.cells (m.cs (.slice a1 L.length c1) (.slice a2 D.length c2)).toArray 38) := ⟨_, rfl⟩
  have hb12 : Below w1.heap.size w1 w2 := by rw [hw2]; exact (Below.refl _ _).alloc (Nat.le_refl _) _
  have hs2 : w2.heap.size = w1.heap.size + 1 := by rw [hw2]; simp
  have M2 : MBox w2 (w.heap.size + 1) m (.slice a1 L.length c1) (.slice a2 D.length c2) := by rw [hw2, ← hs1]; exact MBox.new w1 m _ _
  have C2 := C1.bel hb12
  have hB2 := hB1.trans (hb12.mono hB1.size)
  refine vw (.pointer (some ⟨w.heap.size + 1, 0, none⟩)) w2 (want_none rfl) (ex_box rfl (ev s1 rfl) (by rw [hw2, ← hs1]; exact bxM _ _ _ _)) rfl hz (by decide) (fun Z2 zz kk s3 => ?_)
  replace s2 := kt kk s2
  clear kk hz s1 hw2
  have hz := zz
  clear zz
  refine vl true (.bool false) (want_none rfl) (fun hc => ex_assign rfl rfl) rfl hz (by decide) (fun Z3 zz kk s4 => ?_)
  replace s2 := kt kk s2
  replace s3 := kt kk s3
  clear kk hz s4
  have hz := zz
  clear zz
  refine wpList_nil ?_
  go_upto_region 1 with fail
  refine wp_region_lit ?_
  obtain ⟨bG, hbG⟩ : ∃ bG, bG = w2.heap.size := ⟨_, rfl⟩
  obtain ⟨w3, hw3⟩ : ∃ y, y = w2.alloc gvO := ⟨_, rfl⟩
  have hb23 : Below w2.heap.size w2 w3 := by rw [hw3]; exact (Below.refl _ _).alloc (Nat.le_refl _) _
  have hs3 : w3.heap.size = w2.heap.size + 1 := by rw [hw3]; simp
  have G3 : GM w3 bG (bG + 1) nS nS nS nS [] [] [] [] := by rw [hw3, hbG]; exact GM.new w2 45
  have C3 := C2.bel hb23
  have M3 := M2.bel hb23
  have hB3 := hB2.trans (hb23.mono hB2.size)
  refine vw (.pointer (some ⟨bG, 0, none⟩)) w3 (want_none rfl) (ex_al rfl (by rw [hw3, hbG]; exact alGv _)) rfl hz (by decide) (fun Z4 zz kk s5 => ?_)
  replace s2 := kt kk s2
  replace s3 := kt kk s3
  clear kk hz hw3
  have hz := zz
  clear zz
  refine wpList_nil ?_
  have hL3 := H1.out.later hB3
  have hD3 := H2.out.later hB3
  have T3 := HT.out.later hB3 H0
  have hneL : ∀ x, a1 = some x → L ≠ [] → ¬ x.block = bG := fun x hx hne => by have := SlY.apart0 H1.out x hx hne; omega
  have hneD : ∀ x, a2 = some x → D ≠ [] → ¬ x.block = bG := fun x hx hne => by have := SlY.apart0 H2.out x hx hne; omega
  have hne : ∀ z, a2 = some z → D ≠ [] → z.block ≠ bG := hneD
  clear C2 M2 C1 hB1 hB2 hb12 hb23
  go_upto_region 2 with fail
  refine vh_start (fun v => UB bG w3 v) (by kernel_rfl) ?_
  have hS : UB bG w3 w3.drew := UB.of_below (Below.refl _ _).drew
  refine vh_take 0 true (.agg #[.int .i64 c.f, .int .i64 c.r, .int .i64 c.p, .bool c.u]) rfl (by kernel_rfl) (by kernel_rfl) (by kernel_rfl) (want_none rfl) (fun hc v hv => ex_ld rfl (ev s2 rfl) ((C3.upd hv (by omega)).ldAll)) rfl hz (by decide) hS (fun A2_1 zz kk s11x => ?_)
  replace s2 := kt kk s2
  replace s3 := kt kk s3
  replace s5 := kt kk s5
  clear kk hz
  have hz := zz
  have s11 := s11x
  clear zz s11x
  refine vh_take 1 true (m.val (.slice a1 L.length c1) (.slice a2 D.length c2)) rfl (by kernel_rfl) (by kernel_rfl) (by kernel_rfl) (want_none rfl) (fun hc v hv => ex_ld rfl (ev s3 rfl) ((M3.upd hv (by omega)).ldAll)) rfl hz (by decide) hS (fun A2_2 zz kk s12x => ?_)
  replace s2 := kt kk s2
  replace s3 := kt kk s3
  replace s5 := kt kk s5
  replace s11 := kt kk s11
  clear kk hz
  have hz := zz
  have s12 := s12x
  clear zz s12x A2_1
  refine vh_call 2 rfl (by kernel_rfl) (want_none rfl) (ex_call rfl (by simp only [List.map_toArray, List.map_cons, List.map_nil, (ev s5 rfl), (ev s12 rfl), evc] <;> rfl) rfl) (given7 m a1 a2 L.length D.length c1 c2 L D bG _ (G3.bel (Below.refl _ _).drew) (hL3.later (Below.refl _ _).drew) (hD3.later (Below.refl _ _).drew) k1 k2 hne) rfl hz (by decide) ?_
  rintro e y1 ⟨g, cg, g', cg', rfl, sl1, sl2, HI, u1⟩
  refine ⟨_, rfl, (hS.trans u1), fun A2_3 zz kk s13x => ?_⟩
  replace hS := hS.trans u1
  have hI : Below y1.heap.size y1 y1 := Below.refl _ _
  clear u1
  replace s2 := kt kk s2
  replace s3 := kt kk s3
  replace s5 := kt kk s5
  replace s11 := kt kk s11
  clear kk hz s12
  have hz := zz
  have s13 := s13x
  clear zz s13x A2_2
  refine vh_call 3 rfl (by kernel_rfl) (want_none rfl) (ex_call rfl (by simp only [List.map_toArray, List.map_cons, List.map_nil, (ev s11 rfl), (ev s13 rfl), evc] <;> rfl) rfl) (encode_any c m (some ⟨g, 0, none⟩) (some ⟨g', 0, none⟩) cg cg' L D _ (T3.upd hS (by omega)) sl1 hfit sl2 hfe hd hds) rfl hz (by decide) ?_
  rintro e y2 ⟨vf_, rfl, Of, hb⟩; obtain ⟨af, nf, cf, rfl, hsF, _⟩ := Of.hs hby
  refine ⟨_, rfl, (hS.trans (UB.of_below hb)), fun A2_4 zz kk s14x => ?_⟩
  replace hS := hS.trans (UB.of_below hb)
  replace hI := hI.trans (hb.mono hI.size)
  clear hb Of
  replace s2 := kt kk s2
  replace s3 := kt kk s3
  replace s5 := kt kk s5
  clear kk hz s11 s13
  have hz := zz
  have s14 := s14x
  clear zz s14x A2_3
  refine vh_take 4 true (.tuple #[.slice af nf cf, .int .i64 (ckM c m L D)]) rfl (by kernel_rfl) (by kernel_rfl) (by kernel_rfl) (want_none rfl) (fun hc v hv => ex_move rfl (ev s14 rfl)) rfl hz (by decide) hS (fun A2_5 zz kk s10x => ?_)
  replace s2 := kt kk s2
  replace s3 := kt kk s3
  replace s5 := kt kk s5
  clear kk hz s14
  have hz := zz
  have s10 := s10x
  clear zz s10x A2_4
  refine vh_take 5 true (.slice af nf cf) rfl (by kernel_rfl) (by kernel_rfl) (by kernel_rfl) (want_none rfl) (fun hc v hv => ex_ext rfl (ev s10 rfl) rfl) rfl hz (by decide) hS (fun A2_6 zz kk s15x => ?_)
  replace s2 := kt kk s2
  replace s3 := kt kk s3
  replace s5 := kt kk s5
  replace s10 := kt kk s10
  clear kk hz
  have hz := zz
  have s15 := s15x
  clear zz s15x A2_5
  refine vh_take 6 true (.int .i64 (ckM c m L D)) rfl (by kernel_rfl) (by kernel_rfl) (by kernel_rfl) (want_none rfl) (fun hc v hv => ex_ext rfl (ev s10 rfl) rfl) rfl hz (by decide) hS (fun A2_7 zz kk s16x => ?_)
  replace s2 := kt kk s2
  replace s3 := kt kk s3
  replace s5 := kt kk s5
  replace s15 := kt kk s15
  clear kk hz s10
  have hz := zz
  have s16 := s16x
  clear zz s16x A2_6
  refine vh_take 7 true (.slice af nf cf) rfl (by kernel_rfl) (by kernel_rfl) (by kernel_rfl) (want_none rfl) (fun hc v hv => ex_assign rfl (ev s15 rfl)) rfl hz (by decide) hS (fun A2_8 zz kk s6x => ?_)
  replace s2 := kt kk s2
  replace s3 := kt kk s3
  replace s5 := kt kk s5
  replace s16 := kt kk s16
  clear kk hz s15
  have hz := zz
  have s6 := s6x
  clear zz s6x A2_7
  refine vh_take 8 true (.int .i64 (ckM c m L D)) rfl (by kernel_rfl) (by kernel_rfl) (by kernel_rfl) (want_none rfl) (fun hc v hv => ex_assign rfl (ev s16 rfl)) rfl hz (by decide) hS (fun A2_9 zz kk s7x => ?_)
  replace s2 := kt kk s2
  replace s3 := kt kk s3
  replace s5 := kt kk s5
  replace s6 := kt kk s6
  clear kk hz s16
  have hz := zz
  have s7 := s7x
  clear zz s7x A2_8
  refine vh_done (by kernel_rfl) ?_
  go_upto_region 3 with fail
  refine wp_region_lit ?_
  refine vt (.agg #[.int .i64 c.f, .int .i64 c.r, .int .i64 c.p, .bool c.u]) (ex_ld rfl (ev s2 rfl) ((C3.upd hS (by omega)).ldAll)) hz (fun A3_1 zz kk s18x => ?_)
  replace s3 := kt kk s3
  replace s5 := kt kk s5
  replace s6 := kt kk s6
  replace s7 := kt kk s7
  clear kk hz s2
  have hz := zz
  have s18 := s18x
  clear zz s18x
  refine vt (m.val (.slice a1 L.length c1) (.slice a2 D.length c2)) (ex_ld rfl (ev s3 rfl) ((M3.upd hS (by omega)).ldAll)) hz (fun A3_2 zz kk s19x => ?_)
  replace s5 := kt kk s5
  replace s6 := kt kk s6
  replace s7 := kt kk s7
  replace s18 := kt kk s18
  clear kk hz s3
  have hz := zz
  have s19 := s19x
  clear zz s19x A3_1
  refine vcallP (want_none rfl) (ex_call rfl (by simp only [List.map_toArray, List.map_cons, List.map_nil, (ev s18 rfl), (ev s19 rfl), evc] <;> rfl) rfl) (refencode7 c m a1 a2 c1 c2 L D _ (hL3.upd hS hneL) hfit (hD3.upd hS hneD) hfe hd hds) rfl hz (by decide) ?_
  rintro e y3 ⟨vr_, rfl, Or_, hb⟩; obtain ⟨ar, nr, cr, rfl, hsR, _⟩ := Or_.hs hby
  refine ⟨_, rfl, fun A3_3 zz kk s20x => ?_⟩
  replace hS := hS.trans (UB.of_below hb)
  replace hI := hI.trans (hb.mono hI.size)
  replace hsF := hsF.later hb
  clear hb Or_
  replace s5 := kt kk s5
  replace s6 := kt kk s6
  replace s7 := kt kk s7
  clear kk hz s18 s19
  have hz := zz
  have s20 := s20x
  clear zz s20x A3_2
  refine vt _ (ex_move rfl (ev s20 rfl)) hz (fun A3_4 zz kk s17x => ?_)
  replace s5 := kt kk s5
  replace s6 := kt kk s6
  replace s7 := kt kk s7
  clear kk hz s20
  have hz := zz
  have s17 := s17x
  clear zz s17x A3_3
  refine vt (.slice ar nr cr) (ex_ext rfl (ev s17 rfl) rfl) hz (fun A3_5 zz kk s21x => ?_)
  replace s5 := kt kk s5
  replace s6 := kt kk s6
  replace s7 := kt kk s7
  replace s17 := kt kk s17
  clear kk hz
  have hz := zz
  have s21 := s21x
  clear zz s21x A3_4
  refine vt (.int .i64 (ckM c m L D)) (ex_ext rfl (ev s17 rfl) rfl) hz (fun A3_6 zz kk s22x => ?_)
  replace s5 := kt kk s5
  replace s6 := kt kk s6
  replace s7 := kt kk s7
  replace s21 := kt kk s21
  clear kk hz s17
  have hz := zz
  have s22 := s22x
  clear zz s22x A3_5
  refine vt _ (ex_assign rfl (ev s21 rfl)) hz (fun A3_7 zz kk s8x => ?_)
  replace s5 := kt kk s5
  replace s6 := kt kk s6
  replace s7 := kt kk s7
  replace s22 := kt kk s22
  clear kk hz s21
  have hz := zz
  have s8 := s8x
  clear zz s8x A3_6
  refine vt _ (ex_assign rfl (ev s22 rfl)) hz (fun A3_8 zz kk s9x => ?_)
  replace s5 := kt kk s5
  replace s6 := kt kk s6
  replace s7 := kt kk s7
  replace s8 := kt kk s8
  clear kk hz s22
  have hz := zz
  have s9 := s9x
  clear zz s9x A3_7
  refine wpList_nil ?_
  go_upto_region 4 with fail
  refine wp_region_lit ?_
  refine vt _ (ex_move rfl (ev s7 rfl)) hz (fun A4_1 zz kk s23x => ?_)
  replace s5 := kt kk s5
  replace s6 := kt kk s6
  replace s8 := kt kk s8
  replace s9 := kt kk s9
  clear kk hz s7
  have hz := zz
  have s23 := s23x
  clear zz s23x
  refine vcallP (want_none rfl) (ex_call rfl (by simp only [List.map_toArray, List.map_cons, List.map_nil, (ev s23 rfl), evc] <;> rfl) rfl) (num7_any (ckM c m L D) _) rfl hz (by decide) ?_
  rintro e y ⟨rfl, rfl⟩
  refine ⟨_, rfl, fun A4_2 zz kk s24x => ?_⟩
  replace s5 := kt kk s5
  replace s6 := kt kk s6
  replace s8 := kt kk s8
  replace s9 := kt kk s9
  clear kk hz s23
  have hz := zz
  have s24 := s24x
  clear zz s24x A4_1
  refine vt _ (ex_move rfl (ev s9 rfl)) hz (fun A4_3 zz kk s25x => ?_)
  replace s5 := kt kk s5
  replace s6 := kt kk s6
  replace s8 := kt kk s8
  replace s24 := kt kk s24
  clear kk hz s9
  have hz := zz
  have s25 := s25x
  clear zz s25x A4_2
  refine vt (.bool true) (ex_bin rfl (ev s24 rfl) (ev s25 rfl) (eqSelf _ _ _ _)) hz (fun A4_4 zz kk s26x => ?_)
  replace s5 := kt kk s5
  replace s6 := kt kk s6
  replace s8 := kt kk s8
  clear kk hz s24 s25
  have hz := zz
  have s26 := s26x
  clear zz s26x A4_3
  refine vt _ (ex_move rfl (ev s26 rfl)) hz (fun A4_5 zz kk s27x => ?_)
  replace s5 := kt kk s5
  replace s6 := kt kk s6
  replace s8 := kt kk s8
  clear kk hz s26
  have hz := zz
  have s27 := s27x
  clear zz s27x A4_4
  refine vl true _ (want_t rfl rfl s27) (fun hc => ex_move rfl (ev s6 rfl)) rfl hz (by decide) (fun A4_6 zz kk s28x => ?_)
  replace s5 := kt kk s5
  replace s8 := kt kk s8
  replace s27 := kt kk s27
  clear kk hz s6
  have hz := zz
  have s28 := s28x
  clear zz s28x A4_5
  refine vl true _ (want_t rfl rfl s27) (fun hc => ex_move rfl (ev s8 rfl)) rfl hz (by decide) (fun A4_7 zz kk s29x => ?_)
  replace s5 := kt kk s5
  replace s27 := kt kk s27
  replace s28 := kt kk s28
  clear kk hz s8
  have hz := zz
  have s29 := s29x
  clear zz s29x A4_6
  refine vcallP (want_t rfl rfl s27) (ex_call rfl (by simp only [List.map_toArray, List.map_cons, List.map_nil, (ev s28 rfl), (ev s29 rfl), evc] <;> rfl) rfl) (same_eq af ar nf cf nr cr (enB c m L D) _ hsF hsR) rfl hz (by decide) ?_
  rintro e y ⟨rfl, rfl⟩
  refine ⟨_, rfl, fun A4_8 zz kk s30x => ?_⟩
  replace s5 := kt kk s5
  replace s27 := kt kk s27
  clear kk hz s28 s29
  have hz := zz
  have s30 := s30x
  clear zz s30x A4_7
  refine vt (.bool true) (ex_andT rfl s27 s30) hz (fun A4_9 zz kk s31x => ?_)
  replace s5 := kt kk s5
  clear kk hz s27 s30
  have hz := zz
  have s31 := s31x
  clear zz s31x A4_8
  refine vt _ (ex_move rfl (ev s31 rfl)) hz (fun A4_10 zz kk s32x => ?_)
  replace s5 := kt kk s5
  clear kk hz s31
  have hz := zz
  have s32 := s32x
  clear zz s32x A4_9
  refine vcallP (want_t rfl rfl s32) (ex_call rfl (by simp only [List.map_toArray, List.map_cons, List.map_nil, (ev s5 rfl), evc] <;> rfl) rfl) (HI _ hI) rfl hz (by decide) ?_
  rintro e y4 ⟨rfl, hb⟩
  refine ⟨_, rfl, fun A4_11 zz kk s33x => ?_⟩
  replace hS := hS.trans (UB.of_below hb)
  replace hI := hI.trans (hb.mono hI.size)
  clear hb
  replace s32 := kt kk s32
  clear kk hz s5
  have hz := zz
  have s33 := s33x
  clear zz s33x A4_10
  refine vt (.bool true) (ex_andT rfl s32 s33) hz (fun A4_12 zz kk s34x => ?_)
  clear kk hz s32 s33
  have hz := zz
  have s34 := s34x
  clear zz s34x A4_11
  refine vt _ (ex_move rfl (ev s34 rfl)) hz (fun A4_13 zz kk s35x => ?_)
  clear kk hz s34
  have hz := zz
  have s35 := s35x
  clear zz s35x A4_12
  refine vcallP (want_t rfl rfl s35) (ex_call (args := #[]) rfl (by simp) rfl) (alive7 _ (T3.upd hS (by omega))) rfl hz (by decide) ?_
  rintro e y5 ⟨rfl, hb⟩
  refine ⟨_, rfl, fun A4_14 zz kk s36x => ?_⟩
  replace hS := hS.trans (UB.of_below hb)
  replace hI := hI.trans (hb.mono hI.size)
  clear hb
  replace s35 := kt kk s35
  clear kk hz
  have hz := zz
  have s36 := s36x
  clear zz s36x A4_13
  refine vt (.bool true) (ex_andT rfl s35 s36) hz (fun A4_15 zz kk s37x => ?_)
  clear kk hz s35 s36
  have hz := zz
  have s37 := s37x
  clear zz s37x A4_14
  refine vt _ (ex_assign rfl (ev s37 rfl)) hz (fun A4_16 zz kk s4x => ?_)
  clear kk hz s37
  have hz := zz
  have s4 := s4x
  clear zz s4x A4_15
  refine wpList_nil ?_
  have hfin := hB3.trans (hS.below hB3.size (by omega))
  go_wp2
  refine bodyPost_ret (results_tmp rfl _ _ _) rfl ⟨?_, hfin⟩
  rw [getD_of s4]
  rfl
theorem drF_wf {d : Int × Int} (h : (Lit.int .u64 d.1).wf = true ∧ (Lit.int .u64 d.2).wf = true) : drF d := by
  have h1 := bounds_u64 h.1
  have h2 := bounds_u64 h.2
  exact ⟨h1.1, by omega, h2.1, by omega⟩
theorem encodes_came7 (c : Cf) (m : Mg) (a1 : Option Addr) (n1 c1 : Nat) (a2 : Option Addr) (n2 c2 : Nat) (w : World) (h : CameM w m a1 n1 c1 a2 n2 c2) (hT : Tab w) :
    Calls Tryz.prog 4 #[c.val, m.val (.slice a1 n1 c1) (.slice a2 n2 c2)] w fun e w' => e = .returned (.bool true) ∧ Below w.heap.size w w' := by
  obtain ⟨hm, ⟨L, h1, hf, k1⟩, D, h2, hds, k2⟩ := h
  obtain rfl := h1.len
  obtain rfl := h2.len
  exact law_encodes7 c m a1 a2 c1 c2 L D w hT h1 hf h2 hm.2.2.2.1 (drF_wf hm.2.2.2.2.2.2.2.2) (fun d hd => drF_wf (hds d hd)) k1 k2
end Go.Proofs.YtjfbkeommlopmaaGreatDoor
