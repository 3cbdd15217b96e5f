import Derived.Test.YtibedokegignhaaGreatDoorD6
namespace Go.Proofs.YtibedokegignhaaGreatDoor.Wi
open Go.RowKit
set_option linter.unusedVariables false
def seErr (n : Nat) : Int := if n ≤ 32756 then 0 else 11
def seBody (l : List Int) (n : Nat) : List Int := if n ≤ 32756 then M.frame l else []
theorem seBody_byte (l : List Int) (n : Nat) (h : ∀ z ∈ l, 0 ≤ z ∧ z < 256) : ∀ z ∈ seBody l n, 0 ≤ z ∧ z < 256 := by
  unfold seBody
  split
  · exact M.frame_byte l h
  · intro z hz; cases hz
theorem seal_any (a : Option Addr) (n c : Nat) (l : List Int) (w : World) (hh : Hs w a n c l) :
    Calls Tryz.prog 46 #[.slice a n c] w fun e w' => ∃ v', e = .returned (.tuple #[v', .int .i64 (seErr n)]) ∧ Own w.heap.size w' v' (seBody l n) ∧ Below w.heap.size w w' := by
  unfold seErr seBody
  by_cases h : n ≤ 32756
  · rw [if_pos h, if_pos h]
    refine (seal_ok a n c l w hh h).mono ?_
    rintro e w' ⟨v', rfl, h1, h2, h3⟩
    exact ⟨v', rfl, h1, h3⟩
  · rw [if_neg h, if_neg h]
    refine (seal_long a n c w (by omega)).mono ?_
    rintro e w' ⟨rfl, rfl⟩
    exact ⟨_, rfl, Own.nil _ _, Below.refl _ _⟩
theorem refseal_any (a : Option Addr) (n c : Nat) (l : List Int) (w : World) (hh : Hs w a n c l) :
    Calls Tryz.prog 23 #[.slice a n c] w fun e w' => ∃ v', e = .returned (.tuple #[v', .int .i64 (seErr n)]) ∧ Own w.heap.size w' v' (seBody l n) ∧ Below w.heap.size w w' := by
  unfold seErr seBody
  by_cases h : n ≤ 32756
  · rw [if_pos h, if_pos h]
    refine (refseal_ok a n c l w hh h).mono ?_
    rintro e w' ⟨v', rfl, h1, h2, h3⟩
    exact ⟨v', rfl, h1, h3⟩
  · rw [if_neg h, if_neg h]
    refine (refseal_long a n c w (by omega)).mono ?_
    rintro e w' ⟨rfl, rfl⟩
    exact ⟨_, rfl, Own.nil _ _, Below.refl _ _⟩
end Go.Proofs.YtibedokegignhaaGreatDoor.Wi
namespace Go.Proofs.YtibedokegignhaaGreatDoor
open Go.RowKit Go.Maps Go.WideShapes Go.ChangeShapes
open Classical
set_option linter.unusedVariables false
set_option linter.unusedSimpArgs false
theorem gTab : Tryz.prog.globalNamed "amnesia/message.table" = some 0 := by kernel_rfl
theorem gTabT : (Tryz.prog.globals[0]?).map (·.type) = some 84 := by kernel_rfl
theorem cellsRow : Tryz.prog.cellsOf 83 = 10 := by kernel_rfl
theorem cellsRule : Tryz.prog.cellsOf 82 = 1 := by kernel_rfl
theorem undTab : Tryz.prog.underlying 84 = some (.array 15 83) := by kernel_rfl
theorem undRow : Tryz.prog.underlying 83 = some (.array 10 82) := by kernel_rfl
theorem undRule : Tryz.prog.underlying 82 = some (.int .u8) := by kernel_rfl
theorem tab_of_laid7 {W : World} (h : laidMetH Tryz.prog [("amnesia/message.table", Rows.laid_amnesia_message_table)] W) : Tab W := by
  rw [MakeChecks.laidMetH_plain _ _ _ (by kernel_rfl)] at h
  obtain ⟨ps, ⟨g', t', cs, fuel, p, q, hg', ht', hvar, hd, _, _⟩, _⟩ := h
  obtain rfl := Option.some.inj (gTab.symm.trans hg')
  obtain rfl := Option.some.inj (gTabT.symm.trans ht')
  obtain ⟨xs, m, _, hx, hl, hxl, hall⟩ := DataW.trod_array undTab hd
  have e : (Rows.laid_amnesia_message_table : DataW Unit) = .agg ((List.range 15).map fun k => Lib.tabData .u8 ((List.range 10).map fun j => (tabA k j : Int))) := by kernel_rfl
  have hxs : xs.map (·.1) = (List.range 15).map fun k => (Lib.tabData .u8 ((List.range 10).map fun j => (tabA k j : Int)) : DataW Unit) := by
    have h1 := congrArg Prod.fst hx
    rw [e] at h1
    exact (DataW.agg.inj h1).symm
  have row : ∀ k, k < 15 → (cs.toList.drop (k * 10)).take 10 = ((List.range 10).map fun j => (tabA k j : Int)).map fun z => Value.int .u8 z := by
    intro k hk
    have h1 := hall k hk
    rw [cellsRow] at h1
    obtain ⟨x, hx⟩ : ∃ x, xs[k]? = some x := ⟨_, List.getElem?_eq_getElem (by omega)⟩
    rw [hx] at h1
    have h2 : x.1 = (Lib.tabData .u8 ((List.range 10).map fun j => (tabA k j : Int)) : DataW Unit) := by
      have h3 := congrArg (fun l => l[k]?) hxs
      simp only [List.getElem?_map, hx, Option.map_some, List.getElem?_range hk] at h3
      exact Option.some.inj h3
    obtain ⟨d, pp⟩ := x
    subst h2
    exact Lib.cells_of_tab undRow undRule cellsRule cellsRow h1
  have cell : ∀ k j, k < 15 → j < 10 → W.cell? ⟨0, k * 10 + j, none⟩ = some (.int .u8 (tabA k j : Int)) := by
    intro k j hk hj
    have h1 := World.var?_cell gTab hvar (k * 10 + j)
    rw [h1]
    have h2 := congrArg (fun l => l[j]?) (row k hk)
    simp only [List.getElem?_take_of_lt hj, List.getElem?_drop, List.getElem?_map, List.getElem?_range hj, Option.map_some, Array.getElem?_toList] at h2
    exact h2
  refine ⟨?_, cell⟩
  have h0 := cell 0 0 (by decide) (by decide)
  apply Nat.pos_of_ne_zero
  intro hz
  have : W.heap[0]? = none := Array.getElem?_eq_none (by omega)
  simp [World.cell?, this] at h0
theorem cfCells7 : Tryz.prog.cellsOf 23 = 4 := by kernel_rfl
theorem boolCells7 : Tryz.prog.cellsOf 4 = 1 := by kernel_rfl
set_option maxRecDepth 100000 in
theorem open_cfg {H : Type} {enc : TypeId × Value → H} {W : World} {base : Nat} {v : Value} {d : DataW H} {p : List MemPlace} (hv : Value.okWide Tryz.prog W .any base 23 v) (h : DataW.Trod enc Tryz.prog W 0 (fun _ => true) true 23 v d p) :
    ∃ x : Cf, v = x.val ∧ True := by
  obtain ⟨cs, rfl, hsz⟩ := okWide_struct Tryz.underlying23 hv
  obtain ⟨fuel, hf⟩ := h
  obtain ⟨xs, k, hk, hxy, hlen, hxl, hf⟩ := DataW.trod_struct Tryz.underlying23 hf
  rw [cfCells7] at hlen
  have hxl : xs.length = 4 := hxl
  simp only [Value.cells] at hlen hf
  obtain ⟨l⟩ := cs
  match xs, hxl, l, hlen with
  | [y0, y1, y2, y3], _, [v0, v1, v2, v3], _ =>
    have g0 := hf 0 _ rfl
    have g1 := hf 1 _ rfl
    have g2 := hf 2 _ rfl
    have g3 := hf 3 _ rfl
    simp [intCells, boolCells7] at g0 g1 g2 g3
    obtain ⟨A, hA, _, _⟩ := DataW.trod_int Tryz.underlying3 g0
    obtain ⟨B, hB, _, _⟩ := DataW.trod_int Tryz.underlying3 g1
    obtain ⟨C, hC, _, _⟩ := DataW.trod_int Tryz.underlying3 g2
    obtain ⟨b, hb, _⟩ := DataW.trod_bool Tryz.underlying4 g3
    refine ⟨⟨A, B, C, b⟩, ?_, trivial⟩
    simp at hA hB hC hb
    subst hA hB hC hb
    rfl
end Go.Proofs.YtibedokegignhaaGreatDoor
namespace Go.Proofs.YtibedokegignhaaGreatDoor
open Go.ChangeShapes Go.WideShapes Go.ChangeAt Go.RowKit
set_option linter.unusedVariables false
def yBy : Lay Int := ⟨5, 55, 1, 1, fun x => [.int .u8 x], 0⟩
theorem kBy : yBy.Ok := ⟨by decide, fun x => rfl, fun x u h => by
    simp [yBy] at h
    rw [h]; rfl, Tryz.underlying55, ⟨.int .u8 0, by kernel_rfl, rfl⟩⟩
theorem SlY.hs {w : World} {a : Option Addr} {n c : Nat} {l : List Int} (h : SlY yBy w a n c l) (hb : ∀ z ∈ l, 0 ≤ z ∧ z < 256) : Wi.Hs w a n c l :=
  ⟨h.len, h.cap, fun x hx i hi => by
    rcases h.at_ x hx with rfl | ⟨q, o, rfl, _, hl⟩
    · simp at hi
    · have := hl i l[i] (List.getElem?_eq_getElem hi) 0 (.int .u8 l[i]) rfl
      rw [Addr.add_lit]
      rw [show o + i * yBy.k + 0 = o + i from congrArg (o + ·) (Nat.mul_one i)] at this
      rw [show l.getD i 0 = l[i] by simp [List.getD_eq_getElem?_getD, List.getElem?_eq_getElem hi]]
      exact this, fun hx => ⟨List.eq_nil_of_length_eq_zero (by rw [h.len]; exact (h.nil hx).1), (h.nil hx).2⟩, hb⟩
set_option maxRecDepth 100000 in
theorem open_rowsN {α : Type} {Y : Lay α} (K : Y.Ok) [Inhabited α] (fits : α → Prop) {H : Type} {enc : TypeId × Value → H} {W : World} {base : Nat} {v : Value} {d : DataW H} {p : List MemPlace} (hT : Tryz.prog.cellsOf Y.T = Y.k)
    (el : ∀ {n : Nat} {cs : List Value} {x : DataW H × List MemPlace}, DataW.trod enc Tryz.prog W 0 (fun _ => true) true n Y.T cs = some x → ∃ q : α, fits q ∧ cs = Y.cs q)
    (hv : Value.okWide Tryz.prog W .any base Y.ST v) (h : DataW.Trod enc Tryz.prog W 0 (fun _ => true) true Y.ST v d p) :
    ∃ a len cap, v = .slice a len cap ∧ ∃ P : List α, SlY Y W a len cap P ∧ (∀ q ∈ P, fits q) ∧ (∃ el sp : List (DataW H), el.length = len ∧ el.length ≤ el.length + sp.length ∧ (len = 0 ∨ d = .slice el sp)) := by
  obtain ⟨a, n, c, rfl⟩ := okWide_slice K.und hv
  refine ⟨a, n, c, rfl, ?_⟩
  obtain ⟨fuel, h⟩ := h
  simp only [Value.cells] at h
  rcases Go.Deep.open_slice K.und h with ⟨hcs, hx⟩ | ⟨y, ln, cp, m, k, D, Pl, hcs, hb, hl, hm, hmm, hx, hall⟩
  · have e := (List.cons_eq_cons.1 hcs).1
    cases e
    exact ⟨[], ⟨rfl, Nat.le_refl _, by unfold maxLen; omega, fun _ => ⟨rfl, rfl⟩, fun x hx => .inl rfl⟩, by simp, [], [], rfl, Nat.le_refl _, .inl rfl⟩
  · have e := (List.cons_eq_cons.1 hcs).1
    cases e
    have hlm : n ≤ m := by rw [hmm]; split <;> omega
    have each : ∀ i, i < n → ∃ q : α, fits q ∧ (∀ j, j < Y.k → W.cell? ((y.add (i * Y.k)).add j) = (Y.cs q)[j]?) := by
      intro i hi
      obtain ⟨cs', h1, h2⟩ := hall i (by omega)
      rw [hT] at h1
      obtain ⟨q, hf, rfl⟩ := el h2
      obtain ⟨_, _, hcell⟩ := World.cells?_some h1
      exact ⟨q, hf, hcell⟩
    obtain ⟨q, hq⟩ := Go.Deep.choose_lt each
    have hd := congrArg Prod.fst hx
    refine ⟨(List.range n).map q, ⟨by simp, hl, hm, (fun e => by cases e), fun x hx => ?_⟩, ?_, ?_⟩
    · cases hx
      by_cases hn0 : n = 0
      · subst hn0
        exact .inl rfl
      · obtain ⟨b, o, s⟩ := y
        have z0 := (hq 0 (by omega)).2 0 K.kp
        have z1 := z0.trans (List.getElem?_eq_getElem (by rw [K.len]; exact K.kp))
        have hs := World.cell?_spot z1
        obtain rfl : s = none := by
          rw [Nat.zero_mul] at hs
          simpa [Addr.add] using hs
        refine .inr ⟨b, o, rfl, ?_, fun i x hx j u hu => ?_⟩
        · rw [Addr.add_lit, Addr.add_lit] at z1
          exact World.block_lt_of_cell? _ _ z1
        · have hi : i < n := by
            have := (List.getElem?_eq_some_iff.1 hx).1
            simpa using this
          have e : q i = x := by
            simp [hi] at hx
            exact hx
          subst e
          have hj : j < Y.k := by have := (List.getElem?_eq_some_iff.1 hu).1; rwa [K.len] at this
          have := (hq i hi).2 j hj
          rw [Addr.add_lit, Addr.add_lit] at this
          exact this.trans hu
    · intro z hz
      obtain ⟨i, hi, rfl⟩ := List.mem_map.1 hz
      exact (hq i (List.mem_range.1 hi)).1
    · dsimp only at hd
      exact ⟨_, _, by simp, Nat.le_add_right _ _, .inr hd⟩
theorem byCells : Tryz.prog.cellsOf 5 = 1 := by kernel_rfl
theorem byBytes : Tryz.prog.bytesOf 5 = 1 := by kernel_rfl
def CameBy (W : World) (a : Option Addr) (len cap : Nat) : Prop := ∃ P : List Int, SlY yBy W a len cap P ∧ (∀ z ∈ P, 0 ≤ z ∧ z < 256) ∧ len ≤ 140737488351232
theorem u8_range {z : Int} (h : (Lit.int .u8 z).wf = true) : 0 ≤ z ∧ z < 256 := by
  simp [Lit.wf, IntKind.min, IntKind.max, IntKind.bits, IntKind.signed] at h
  omega
set_option maxRecDepth 100000 in
theorem open_by {H : Type} {enc : TypeId × Value → H} {W : World} {base : Nat} {v : Value} {d : DataW H} {p : List MemPlace} (hv : Value.okWide Tryz.prog W .any base 55 v) (h : DataW.Trod enc Tryz.prog W 0 (fun _ => true) true 55 v d p)
    (hs : ∀ el sp, d = .slice el sp → (el.length + sp.length) * Tryz.prog.bytesOf 5 ≤ reachBytes) : ∃ a len cap, v = .slice a len cap ∧ CameBy W a len cap := by
  obtain ⟨a, n, c, rfl, P, h1, h2, el, sp, e1, _, e3⟩ := open_rowsN kBy (fun z => 0 ≤ z ∧ z < 256) byCells (fun h => by
    obtain ⟨K, hK, _, hw⟩ := DataW.trod_int Tryz.underlying5 h
    exact ⟨K, u8_range hw, hK⟩) hv h
  refine ⟨a, n, c, rfl, P, h1, h2, ?_⟩
  rcases e3 with e3 | e3
  · omega
  · have := hs el sp e3
    rw [byBytes, e1] at this
    simp only [reachBytes] at this
    omega
end Go.Proofs.YtibedokegignhaaGreatDoor
namespace Go.Proofs.YtibedokegignhaaGreatDoor
open Go.RowKit Go.Maps
open Classical
set_option linter.unusedVariables false
set_option linter.unusedSimpArgs false
theorem want_k {ops : Array Oper} {o : Oper} {T : Array Value} {g j : Nat} {pol : Bool} (h : o.guard = some (g, pol)) (hg : (ops[g]?).bind (·.dst) = some j) (hj : T[j]? = some (gw true (.bool pol))) : Region.wanted o (yielded ops T) = true := by
  rw [want_g h hg hj]
  simp
theorem eqSelf9 (x y : Operand) (a : Int) (w : World) : (do eqGuard .eql 3 x y (.int .i64 a) (.int .i64 a); binOp .eql 3 (.int .i64 a) (.int .i64 a) : Sem Value).run Tryz.prog w = .ok (.bool true) w := by
  go_simp
theorem decode_sl9 (c : Cf) (a : Option Addr) (n c_ : Nat) (f : List Int) (w : World) (hH : Wi.Hs w a n c_ f) (hm : n ≤ 140737488355328) (hT : Tab w) :
    Calls Tryz.prog 19 #[c.val, .slice a n c_] w fun e w' => ∃ sa sc ta tc, e = .returned (.tuple #[(dcM c f).1.m.val (.slice sa (dcM c f).1.L.length sc) (.slice ta (dcM c f).1.D.length tc), .int .i64 (dcM c f).2]) ∧ SlY yE w' sa (dcM c f).1.L.length sc (dcM c f).1.L ∧ SlY yD w' ta (dcM c f).1.D.length tc (dcM c f).1.D ∧ Below w.heap.size w w' := by
  refine (decode_any c a n c_ f w hH hm hT).mono ?_
  rintro e w' ⟨s, t, rfl, h1, h2, hb⟩
  obtain ⟨sa, sc, rfl, k1, _⟩ := h1.sl kE
  obtain ⟨ta, tc, rfl, k2, _⟩ := h2.sl kD
  exact ⟨sa, sc, ta, tc, rfl, k1, k2, hb⟩
theorem refdecode_sl9 (c : Cf) (a : Option Addr) (n c_ : Nat) (f : List Int) (w : World) (hH : Wi.Hs w a n c_ f) (hm : n ≤ 140737488355328) :
    Calls Tryz.prog 21 #[c.val, .slice a n c_] w fun e w' => ∃ sa sc ta tc, e = .returned (.tuple #[(dcM c f).1.m.val (.slice sa (dcM c f).1.L.length sc) (.slice ta (dcM c f).1.D.length tc), .int .i64 (dcM c f).2]) ∧ SlY yE w' sa (dcM c f).1.L.length sc (dcM c f).1.L ∧ SlY yD w' ta (dcM c f).1.D.length tc (dcM c f).1.D ∧ Below w.heap.size w w' := by
  refine (refdecode7 c a n c_ f w hH hm).mono ?_
  rintro e w' ⟨s, t, rfl, h1, h2, hb⟩
  obtain ⟨sa, sc, rfl, k1, _⟩ := h1.sl kE
  obtain ⟨ta, tc, rfl, k2, _⟩ := h2.sl kD
  exact ⟨sa, sc, ta, tc, rfl, k1, k2, hb⟩
theorem samemsg_eq9 (m : Mg) (a1 a2 : Option Addr) (c1 c2 : Nat) (b1 b2 : Option Addr) (e1 e2 : Nat) (L : List En) (D : List (Int × Int)) (w : World) (h1 : SlY yE w a1 L.length c1 L) (h2 : SlY yD w a2 D.length c2 D) (h3 : SlY yE w b1 L.length e1 L) (h4 : SlY yD w b2 D.length e2 D) :
    Calls Tryz.prog 22 #[m.val (.slice a1 L.length c1) (.slice a2 D.length c2), m.val (.slice b1 L.length e1) (.slice b2 D.length e2)] w fun e w' => e = .returned (.bool true) ∧ Below w.heap.size w w' := by
  have := samemsg_any m m a1 a2 b1 b2 L.length D.length L.length D.length c1 c2 e1 e2 L L D D w h1 h2 h3 h4
  rwa [(sameM_iff m m L L D D).2 ⟨rfl, rfl, rfl⟩] at this
theorem seBody_byte (l : List Int) (n : Nat) (h : ∀ z ∈ l, 0 ≤ z ∧ z < 256) : ∀ z ∈ Wi.seBody l n, 0 ≤ z ∧ z < 256 := by
  unfold Wi.seBody
  split
  · exact M.frame_byte l h
  · exact fun z hz => by cases hz
theorem seBody_len (l : List Int) (n : Nat) (h : l.length = n) : (Wi.seBody l n).length ≤ 32768 := by
  unfold Wi.seBody
  split
  · rw [M.frame_length]; omega
  · exact Nat.zero_le _
set_option maxRecDepth 100000 in
set_option maxHeartbeats 4000000 in
theorem law_bodies7 (c : Cf) (a : Option Addr) (n c_ : Nat) (l : List Int) (w : World) (hT : Tab w) (hH : Wi.Hs w a n c_ l) :
    Calls Tryz.prog 6 #[c.val, .slice a n c_] w fun e w' => e = .returned (.bool true) ∧ Below w.heap.size w w' := by
  have hby := seBody_byte l n hH.byte
  go_enter Tryz.func6, Tryz.ntmps6
  go_upto_region 0 with fail
  refine wp_region_lit ?_
  refine vl_gen (fun T => T.size = 43 ∧ T[0]? = some (gw true (.agg #[.int .i64 c.f, .int .i64 c.r, .int .i64 c.p, .bool c.u])) ∧ T[1]? = some (gw true (.slice a n c_))) ⟨rfl, rfl, rfl⟩ (fun Z0 ⟨hz, s0, s1⟩ => ?_)
  obtain ⟨w1, hw1⟩ : ∃ y, y = w.alloc (.cells #[.int .i64 c.f, .int .i64 c.r, .int .i64 c.p, .bool c.u] 23) := ⟨_, rfl⟩
  have hs1 : w1.heap.size = w.heap.size + 1 := by rw [hw1]; simp
  have hB : Below w.heap.size w w1 := by rw [hw1]; exact (Below.refl _ _).alloc (Nat.le_refl _) _
  have Cc : CfB w1 w.heap.size c := ⟨by omega, fun i x hx => by rw [hw1]; exact cell_box _ _ _ _ _ (by simpa using hx)⟩
  have Tc := hT.later hB hT.lt
  have HH := Wi.Hs.later hH hB
  refine vw (.pointer (some ⟨w.heap.size, 0, none⟩)) w1 (want_none rfl) (ex_box rfl (ev s0 rfl) (by rw [hw1]; exact bxCf _ _ _ _ _)) rfl hz (by decide) (fun B1x0_1 zz kk s2 => ?_)
  replace s1 := kt kk s1
  replace hz := zz
  clear kk zz s0
  refine vt (.bool false) (ex_assign rfl rfl) hz (fun B1x0_2 zz kk s4 => ?_)
  replace s1 := kt kk s1
  replace s2 := kt kk s2
  replace hz := zz
  clear kk zz B1x0_1
  clear s4
  refine wpList_nil ?_
  clear hw1 hT
  go_upto_region 1 with fail
  refine wp_region_lit ?_
  refine vt _ (ex_move rfl (ev s1 rfl)) hz (fun B2x1_1 zz kk s12 => ?_)
  replace s2 := kt kk s2
  replace hz := zz
  clear kk zz s1
  refine vcallP (want_none rfl) (ex_call rfl (by simp only [List.map_toArray, List.map_cons, List.map_nil, (ev s12 rfl), evc] <;> rfl) rfl) (Wi.refseal_any a n c_ l w1 HH) rfl hz (by decide) ?_
  rintro e y1 ⟨vf_, rfl, OF, hb⟩; obtain ⟨fa, fn, fc, hvf, HF, _⟩ := Wi.Own.hs OF hby; subst hvf
  refine ⟨_, rfl, fun B2x1_2 zz kk s13 => ?_⟩
  replace Cc := Cc.bel hb
  replace hB := hB.trans (hb.mono hB.size)
  replace Tc := Tc.later hb Tc.lt
  clear hb
  replace s2 := kt kk s2
  replace hz := zz
  clear kk zz s12 B2x1_1
  refine vt _ (ex_move rfl (ev s13 rfl)) hz (fun B2x1_3 zz kk s11 => ?_)
  replace s2 := kt kk s2
  replace hz := zz
  clear kk zz s13 B2x1_2
  refine vt (.slice fa fn fc) (ex_ext rfl (ev s11 rfl) rfl) hz (fun B2x1_4 zz kk s14 => ?_)
  replace s2 := kt kk s2
  replace s11 := kt kk s11
  replace hz := zz
  clear kk zz B2x1_3
  refine vt (.int .i64 (Wi.seErr n)) (ex_ext rfl (ev s11 rfl) rfl) hz (fun B2x1_5 zz kk s15 => ?_)
  replace s2 := kt kk s2
  replace s14 := kt kk s14
  replace hz := zz
  clear kk zz s11 B2x1_4
  refine vt _ (ex_assign rfl (ev s14 rfl)) hz (fun B2x1_6 zz kk s5 => ?_)
  replace s2 := kt kk s2
  replace s15 := kt kk s15
  replace hz := zz
  clear kk zz s14 B2x1_5
  refine vt _ (ex_assign rfl (ev s15 rfl)) hz (fun B2x1_7 zz kk s6 => ?_)
  replace s2 := kt kk s2
  replace s5 := kt kk s5
  replace hz := zz
  clear kk zz s15 B2x1_6
  refine wpList_nil ?_
  go_upto_region 2 with fail
  refine wp_region_lit ?_
  refine vt _ (ex_move rfl (ev s6 rfl)) hz (fun B3x2_1 zz kk s16 => ?_)
  replace s2 := kt kk s2
  replace s5 := kt kk s5
  replace hz := zz
  clear kk zz s6
  refine vt (.bool (!decide ((Wi.seErr n) = 0))) (ex_bin rfl (ev s16 rfl) rfl (neqC _ _ _ _ _)) hz (fun B3x2_2 zz kk s17 => ?_)
  replace s2 := kt kk s2
  replace s5 := kt kk s5
  replace hz := zz
  clear kk zz s16 B3x2_1
  refine wpList_nil ?_
  go_upto_region 4 with fail
  cases e4 : !decide (Wi.seErr n = 0)
  rotate_left
  · rw [e4] at s17
    refine wp_cond_true ((ev s17 rfl).trans rfl) ?_
    clear s17 e4
    go_upto_region 3 with fail
    refine wp_region_lit ?_
    refine vcallP (want_none rfl) (ex_call (args := #[]) rfl (by simp) rfl) (alive7 _ Tc) rfl hz (by decide) ?_
    rintro e y2 ⟨rfl, hb⟩
    refine ⟨_, rfl, fun B4x3_1 zz kk s18 => ?_⟩
    replace Cc := Cc.bel hb
    replace hB := hB.trans (hb.mono hB.size)
    replace Tc := Tc.later hb Tc.lt
    clear hb
    replace hz := zz
    clear kk zz s2 s5
    refine vt _ (ex_assign rfl (ev s18 rfl)) hz (fun B4x3_2 zz kk s4 => ?_)
    replace hz := zz
    clear kk zz s18 B4x3_1
    refine wpList_nil ?_
    go_wp2
    refine bodyPost_ret (results_tmp rfl _ _ _) rfl ⟨?_, hB⟩
    rw [getD_of s4]
    rfl
  rw [e4] at s17
  refine wp_cond_false ((ev s17 rfl).trans rfl) ?_
  clear s17 e4
  obtain ⟨F, hFe⟩ : ∃ F, F = Wi.seBody l n := ⟨_, rfl⟩
  rw [← hFe] at HF
  have hfn : fn ≤ 140737488355328 := by have h1 := HF.len; have h2 := seBody_len l n hH.len; rw [← hFe] at h2; omega
  clear hFe OF HH
  go_upto_region 4 with fail
  refine wp_region_lit ?_
  refine vt (.agg #[.int .i64 c.f, .int .i64 c.r, .int .i64 c.p, .bool c.u]) (ex_ld rfl (ev s2 rfl) Cc.ldAll) hz (fun B5x4_1 zz kk s20 => ?_)
  replace s2 := kt kk s2
  replace s5 := kt kk s5
  replace hz := zz
  clear kk zz
  refine vt _ (ex_move rfl (ev s5 rfl)) hz (fun B5x4_2 zz kk s21 => ?_)
  replace s2 := kt kk s2
  replace s5 := kt kk s5
  replace s20 := kt kk s20
  replace hz := zz
  clear kk zz B5x4_1
  refine vcallP (want_none rfl) (ex_call rfl (by simp only [List.map_toArray, List.map_cons, List.map_nil, (ev s20 rfl), (ev s21 rfl), evc] <;> rfl) rfl) (decode_sl9 c fa fn fc F _ HF hfn Tc) rfl hz (by decide) ?_
  rintro e y3 ⟨ua, uc, va, vc, rfl, hu, hv, hb⟩
  refine ⟨_, rfl, fun B5x4_3 zz kk s22 => ?_⟩
  replace Cc := Cc.bel hb
  replace hB := hB.trans (hb.mono hB.size)
  replace Tc := Tc.later hb Tc.lt
  replace HF := HF.later hb
  clear hb
  obtain ⟨qa, hqa⟩ : ∃ q, q = y3.heap.size := ⟨_, rfl⟩
  obtain ⟨y3a, hy3a⟩ : ∃ z, z = y3.alloc (.cells (zG.cs nilS nilS).toArray 38) := ⟨_, rfl⟩
  have hb : Below y3.heap.size y3 y3a := by rw [hy3a]; exact (Below.refl _ _).alloc (Nat.le_refl _) _
  have BN : MBox y3a qa zG nilS nilS := by rw [hy3a, hqa]; exact MBox.new0 y3
  replace s2 := kt kk s2
  replace s5 := kt kk s5
  replace hz := zz
  clear kk zz s20 s21 B5x4_2
  refine vt _ (ex_move rfl (ev s22 rfl)) hz (fun B5x4_4 zz kk s19 => ?_)
  replace s2 := kt kk s2
  replace s5 := kt kk s5
  replace hz := zz
  clear kk zz s22 B5x4_3
  refine vt ((dcM c F).1.m.val (.slice ua (dcM c F).1.L.length uc) (.slice va (dcM c F).1.D.length vc)) (ex_ext rfl (ev s19 rfl) rfl) hz (fun B5x4_5 zz kk s23 => ?_)
  replace s2 := kt kk s2
  replace s5 := kt kk s5
  replace s19 := kt kk s19
  replace hz := zz
  clear kk zz B5x4_4
  refine vt (.int .i64 (dcM c F).2) (ex_ext rfl (ev s19 rfl) rfl) hz (fun B5x4_6 zz kk s24 => ?_)
  replace s2 := kt kk s2
  replace s5 := kt kk s5
  replace s23 := kt kk s23
  replace hz := zz
  clear kk zz s19 B5x4_5
  refine vw (.pointer (some ⟨qa, 0, none⟩)) y3a (want_none rfl) (ex_al rfl (by rw [hy3a, hqa]; exact alM _)) rfl hz (by decide) (fun B5x4_7 zz kk s7 => ?_)
  replace s2 := kt kk s2
  replace s5 := kt kk s5
  replace s23 := kt kk s23
  replace s24 := kt kk s24
  replace hz := zz
  clear kk zz B5x4_6
  refine vs (sets y3a qa 0 ((dcM c F).1.m.cs (.slice ua (dcM c F).1.L.length uc) (.slice va (dcM c F).1.D.length vc))) (want_none rfl) (ex_st rfl (ev s7 rfl) (ev s23 rfl) (stM BN (dcM c F).1.m (.slice ua (dcM c F).1.L.length uc) (.slice va (dcM c F).1.D.length vc) rfl rfl)) rfl ?_
  have SP := BN.putU (dcM c F).1.m (.slice ua (dcM c F).1.L.length uc) (.slice va (dcM c F).1.D.length vc)
  obtain ⟨y3b, hy3b⟩ : ∃ z, z = sets y3a qa 0 ((dcM c F).1.m.cs (.slice ua (dcM c F).1.L.length uc) (.slice va (dcM c F).1.D.length vc)) := ⟨_, rfl⟩
  rw [← hy3b] at SP ⊢
  clear hy3b hy3a
  replace hb := hb.trans (SP.2.below hb.size (by omega))
  have Mqa := SP.1
  clear SP BN
  replace Cc := Cc.bel hb
  replace hB := hB.trans (hb.mono hB.size)
  replace Tc := Tc.later hb Tc.lt
  replace HF := HF.later hb
  replace hu := hu.later hb
  replace hv := hv.later hb
  clear hb
  refine vt _ (ex_assign rfl (ev s24 rfl)) hz (fun B5x4_8 zz kk s8 => ?_)
  replace s2 := kt kk s2
  replace s5 := kt kk s5
  replace s7 := kt kk s7
  replace hz := zz
  clear kk zz s23 s24 B5x4_7
  refine wpList_nil ?_
  go_upto_region 5 with fail
  refine wp_region_lit ?_
  refine vt (.agg #[.int .i64 c.f, .int .i64 c.r, .int .i64 c.p, .bool c.u]) (ex_ld rfl (ev s2 rfl) Cc.ldAll) hz (fun B6x5_1 zz kk s26 => ?_)
  replace s5 := kt kk s5
  replace s7 := kt kk s7
  replace s8 := kt kk s8
  replace hz := zz
  clear kk zz s2
  refine vt _ (ex_move rfl (ev s5 rfl)) hz (fun B6x5_2 zz kk s27 => ?_)
  replace s7 := kt kk s7
  replace s8 := kt kk s8
  replace s26 := kt kk s26
  replace hz := zz
  clear kk zz s5 B6x5_1
  refine vcallP (want_none rfl) (ex_call rfl (by simp only [List.map_toArray, List.map_cons, List.map_nil, (ev s26 rfl), (ev s27 rfl), evc] <;> rfl) rfl) (refdecode_sl9 c fa fn fc F _ HF hfn) rfl hz (by decide) ?_
  rintro e y4 ⟨pa, pc, ra, rc, rfl, hp, hr, hb⟩
  refine ⟨_, rfl, fun B6x5_3 zz kk s28 => ?_⟩
  replace Cc := Cc.bel hb
  replace hB := hB.trans (hb.mono hB.size)
  replace Tc := Tc.later hb Tc.lt
  replace HF := HF.later hb
  replace hu := hu.later hb
  replace hv := hv.later hb
  replace Mqa := Mqa.bel hb
  clear hb
  obtain ⟨qb, hqb⟩ : ∃ q, q = y4.heap.size := ⟨_, rfl⟩
  obtain ⟨y4a, hy4a⟩ : ∃ z, z = y4.alloc (.cells (zG.cs nilS nilS).toArray 38) := ⟨_, rfl⟩
  have hb : Below y4.heap.size y4 y4a := by rw [hy4a]; exact (Below.refl _ _).alloc (Nat.le_refl _) _
  have BN : MBox y4a qb zG nilS nilS := by rw [hy4a, hqb]; exact MBox.new0 y4
  replace s7 := kt kk s7
  replace s8 := kt kk s8
  replace hz := zz
  clear kk zz s26 s27 B6x5_2
  refine vt _ (ex_move rfl (ev s28 rfl)) hz (fun B6x5_4 zz kk s25 => ?_)
  replace s7 := kt kk s7
  replace s8 := kt kk s8
  replace hz := zz
  clear kk zz s28 B6x5_3
  refine vt ((dcM c F).1.m.val (.slice pa (dcM c F).1.L.length pc) (.slice ra (dcM c F).1.D.length rc)) (ex_ext rfl (ev s25 rfl) rfl) hz (fun B6x5_5 zz kk s29 => ?_)
  replace s7 := kt kk s7
  replace s8 := kt kk s8
  replace s25 := kt kk s25
  replace hz := zz
  clear kk zz B6x5_4
  refine vt (.int .i64 (dcM c F).2) (ex_ext rfl (ev s25 rfl) rfl) hz (fun B6x5_6 zz kk s30 => ?_)
  replace s7 := kt kk s7
  replace s8 := kt kk s8
  replace s29 := kt kk s29
  replace hz := zz
  clear kk zz s25 B6x5_5
  refine vw (.pointer (some ⟨qb, 0, none⟩)) y4a (want_none rfl) (ex_al rfl (by rw [hy4a, hqb]; exact alM _)) rfl hz (by decide) (fun B6x5_7 zz kk s9 => ?_)
  replace s7 := kt kk s7
  replace s8 := kt kk s8
  replace s29 := kt kk s29
  replace s30 := kt kk s30
  replace hz := zz
  clear kk zz B6x5_6
  refine vs (sets y4a qb 0 ((dcM c F).1.m.cs (.slice pa (dcM c F).1.L.length pc) (.slice ra (dcM c F).1.D.length rc))) (want_none rfl) (ex_st rfl (ev s9 rfl) (ev s29 rfl) (stM BN (dcM c F).1.m (.slice pa (dcM c F).1.L.length pc) (.slice ra (dcM c F).1.D.length rc) rfl rfl)) rfl ?_
  have SP := BN.putU (dcM c F).1.m (.slice pa (dcM c F).1.L.length pc) (.slice ra (dcM c F).1.D.length rc)
  obtain ⟨y4b, hy4b⟩ : ∃ z, z = sets y4a qb 0 ((dcM c F).1.m.cs (.slice pa (dcM c F).1.L.length pc) (.slice ra (dcM c F).1.D.length rc)) := ⟨_, rfl⟩
  rw [← hy4b] at SP ⊢
  clear hy4b hy4a
  replace hb := hb.trans (SP.2.below hb.size (by omega))
  have Mqb := SP.1
  clear SP BN
  replace Cc := Cc.bel hb
  replace hB := hB.trans (hb.mono hB.size)
  replace Tc := Tc.later hb Tc.lt
  replace HF := HF.later hb
  replace hu := hu.later hb
  replace hv := hv.later hb
  replace Mqa := Mqa.bel hb
  replace hp := hp.later hb
  replace hr := hr.later hb
  clear hb
  refine vt _ (ex_assign rfl (ev s30 rfl)) hz (fun B6x5_8 zz kk s10 => ?_)
  replace s7 := kt kk s7
  replace s8 := kt kk s8
  replace s9 := kt kk s9
  replace hz := zz
  clear kk zz s29 s30 B6x5_7
  refine wpList_nil ?_
  go_upto_region 6 with fail
  refine wp_region_lit ?_
  refine vt _ (ex_move rfl (ev s8 rfl)) hz (fun B7x6_1 zz kk s31 => ?_)
  replace s7 := kt kk s7
  replace s9 := kt kk s9
  replace s10 := kt kk s10
  replace hz := zz
  clear kk zz s8
  refine vcallP (want_none rfl) (ex_call rfl (by simp only [List.map_toArray, List.map_cons, List.map_nil, (ev s31 rfl), evc] <;> rfl) rfl) (num7_any (dcM c F).2 _) rfl hz (by decide) ?_
  rintro e y_ ⟨rfl, hy_⟩; rw [hy_]; clear hy_ y_
  refine ⟨_, rfl, fun B7x6_2 zz kk s32 => ?_⟩
  replace s7 := kt kk s7
  replace s9 := kt kk s9
  replace s10 := kt kk s10
  replace hz := zz
  clear kk zz s31 B7x6_1
  refine vt _ (ex_move rfl (ev s10 rfl)) hz (fun B7x6_3 zz kk s33 => ?_)
  replace s7 := kt kk s7
  replace s9 := kt kk s9
  replace s32 := kt kk s32
  replace hz := zz
  clear kk zz s10 B7x6_2
  refine vt (.bool true) (ex_bin rfl (ev s32 rfl) (ev s33 rfl) (eqSelf9 _ _ _ _)) hz (fun B7x6_4 zz kk s34 => ?_)
  replace s7 := kt kk s7
  replace s9 := kt kk s9
  replace hz := zz
  clear kk zz s32 s33 B7x6_3
  refine vt _ (ex_move rfl (ev s34 rfl)) hz (fun B7x6_5 zz kk s35 => ?_)
  replace s7 := kt kk s7
  replace s9 := kt kk s9
  replace hz := zz
  clear kk zz s34 B7x6_4
  refine vl true ((dcM c F).1.m.val (.slice ua (dcM c F).1.L.length uc) (.slice va (dcM c F).1.D.length vc)) (want_k rfl rfl s35) (fun hc => ex_ld rfl (ev s7 rfl) Mqa.ldAll) rfl hz (by decide) (fun B7x6_6 zz kk s36 => ?_)
  replace s9 := kt kk s9
  replace s35 := kt kk s35
  replace hz := zz
  clear kk zz s7 B7x6_5
  refine vl true ((dcM c F).1.m.val (.slice pa (dcM c F).1.L.length pc) (.slice ra (dcM c F).1.D.length rc)) (want_k rfl rfl s35) (fun hc => ex_ld rfl (ev s9 rfl) Mqb.ldAll) rfl hz (by decide) (fun B7x6_7 zz kk s37 => ?_)
  replace s35 := kt kk s35
  replace s36 := kt kk s36
  replace hz := zz
  clear kk zz s9 B7x6_6
  refine vcallP (want_k rfl rfl s35) (ex_call rfl (by simp only [List.map_toArray, List.map_cons, List.map_nil, (ev s36 rfl), (ev s37 rfl), evc] <;> rfl) rfl) (samemsg_eq9 (dcM c F).1.m ua va uc vc pa ra pc rc (dcM c F).1.L (dcM c F).1.D _ hu hv hp hr) rfl hz (by decide) ?_
  rintro e y5 ⟨rfl, hb⟩
  refine ⟨_, rfl, fun B7x6_8 zz kk s38 => ?_⟩
  replace Cc := Cc.bel hb
  replace hB := hB.trans (hb.mono hB.size)
  replace Tc := Tc.later hb Tc.lt
  replace HF := HF.later hb
  replace hu := hu.later hb
  replace hv := hv.later hb
  replace Mqa := Mqa.bel hb
  replace hp := hp.later hb
  replace hr := hr.later hb
  replace Mqb := Mqb.bel hb
  clear hb
  replace s35 := kt kk s35
  replace hz := zz
  clear kk zz s36 s37 B7x6_7
  refine vt (.bool true) (ex_and rfl s35 s38 rfl) hz (fun B7x6_9 zz kk s39 => ?_)
  replace hz := zz
  clear kk zz s35 s38 B7x6_8
  refine vt _ (ex_move rfl (ev s39 rfl)) hz (fun B7x6_10 zz kk s40 => ?_)
  replace hz := zz
  clear kk zz s39 B7x6_9
  refine vcallP (want_k rfl rfl s40) (ex_call (args := #[]) rfl (by simp) rfl) (alive7 _ Tc) rfl hz (by decide) ?_
  rintro e y6 ⟨rfl, hb⟩
  refine ⟨_, rfl, fun B7x6_11 zz kk s41 => ?_⟩
  replace Cc := Cc.bel hb
  replace hB := hB.trans (hb.mono hB.size)
  replace Tc := Tc.later hb Tc.lt
  replace HF := HF.later hb
  replace hu := hu.later hb
  replace hv := hv.later hb
  replace Mqa := Mqa.bel hb
  replace hp := hp.later hb
  replace hr := hr.later hb
  replace Mqb := Mqb.bel hb
  clear hb
  replace s40 := kt kk s40
  replace hz := zz
  clear kk zz B7x6_10
  refine vt (.bool true) (ex_and rfl s40 s41 rfl) hz (fun B7x6_12 zz kk s42 => ?_)
  replace hz := zz
  clear kk zz s40 s41 B7x6_11
  refine vt _ (ex_assign rfl (ev s42 rfl)) hz (fun B7x6_13 zz kk s4 => ?_)
  replace hz := zz
  clear kk zz s42 B7x6_12
  refine wpList_nil ?_
  go_wp2
  refine bodyPost_ret (results_tmp rfl _ _ _) rfl ⟨?_, hB⟩
  rw [getD_of s4]
  rfl
theorem bodies_came7 (c : Cf) (a3 : Option Addr) (n3 c3 : Nat) (w : World) (hf : CameBy w a3 n3 c3) (hT : Tab w) :
    Calls Tryz.prog 6 #[c.val, .slice a3 n3 c3] w fun e w' => e = .returned (.bool true) ∧ Below w.heap.size w w' := by
  obtain ⟨f, hF, hby, hn⟩ := hf
  exact law_bodies7 c a3 n3 c3 f w hT (hF.hs hby)
end Go.Proofs.YtibedokegignhaaGreatDoor
