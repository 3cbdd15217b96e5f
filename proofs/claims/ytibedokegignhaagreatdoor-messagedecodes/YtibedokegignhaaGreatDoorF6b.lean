import Derived.Test.YtibedokegignhaaGreatDoorF6
set_option maxRecDepth 100000
set_option linter.unusedVariables false
set_option linter.unusedSimpArgs false
namespace Go.Proofs.YtibedokegignhaaGreatDoor
open Go.RowKit Go.Maps
open Classical
def gvO : Obj := .cells #[.slice none 0 0, .slice none 0 0, .slice none 0 0, .slice none 0 0, .slice none 0 0, .slice none 0 0, .slice none 0 0, .slice none 0 0, .slice none 0 0, .slice none 0 0] 45
theorem alGv (w : World) : (Instr.alloc 45 true (.tuple #[])).run Tryz.prog w = .ok (.pointer (some ⟨w.heap.size, 0, none⟩)) (w.alloc gvO) := by
  go_simp
  first | done | rfl
end Go.Proofs.YtibedokegignhaaGreatDoor
namespace Go.Proofs.YtibedokegignhaaGreatDoor
open Go.RowKit Go.Maps Go.WideShapes Go.ChangeShapes
open Classical
theorem gTab : Tryz.prog.globalNamed "amnesia/message.table" = some 0 := by kernel_rfl
theorem gTabT : (Tryz.prog.globals[0]?).map (·.type) = some 84 := by kernel_rfl
theorem cellsRow : Tryz.prog.cellsOf 83 = 10 := by kernel_rfl
theorem cellsRule : Tryz.prog.cellsOf 82 = 1 := by kernel_rfl
theorem undTab : Tryz.prog.underlying 84 = some (.array 15 83) := by kernel_rfl
theorem undRow : Tryz.prog.underlying 83 = some (.array 10 82) := by kernel_rfl
theorem undRule : Tryz.prog.underlying 82 = some (.int .u8) := by kernel_rfl
theorem tab_of_laid7 {W : World} (h : laidMetH Tryz.prog [("amnesia/message.table", Rows.laid_amnesia_message_table)] W) : Tab W := by
  rw [MakeChecks.laidMetH_plain _ _ _ (by kernel_rfl)] at h
  obtain ⟨ps, ⟨g', t', cs, fuel, p, q, hg', ht', hvar, hd, _, _⟩, _⟩ := h
  obtain rfl := Option.some.inj (gTab.symm.trans hg')
  obtain rfl := Option.some.inj (gTabT.symm.trans ht')
  obtain ⟨xs, m, _, hx, hl, hxl, hall⟩ := DataW.trod_array undTab hd
  have e : (Rows.laid_amnesia_message_table : DataW Unit) = .agg ((List.range 15).map fun k => Lib.tabData .u8 ((List.range 10).map fun j => (tabA k j : Int))) := by kernel_rfl
  have hxs : xs.map (·.1) = (List.range 15).map fun k => (Lib.tabData .u8 ((List.range 10).map fun j => (tabA k j : Int)) : DataW Unit) := by
    have h1 := congrArg Prod.fst hx
    rw [e] at h1
    exact (DataW.agg.inj h1).symm
  have row : ∀ k, k < 15 → (cs.toList.drop (k * 10)).take 10 = ((List.range 10).map fun j => (tabA k j : Int)).map fun z => Value.int .u8 z := by
    intro k hk
    have h1 := hall k hk
    rw [cellsRow] at h1
    obtain ⟨x, hx⟩ : ∃ x, xs[k]? = some x := ⟨_, List.getElem?_eq_getElem (by omega)⟩
    rw [hx] at h1
    have h2 : x.1 = (Lib.tabData .u8 ((List.range 10).map fun j => (tabA k j : Int)) : DataW Unit) := by
      have h3 := congrArg (fun l => l[k]?) hxs
      simp only [List.getElem?_map, hx, Option.map_some, List.getElem?_range hk] at h3
      exact Option.some.inj h3
    obtain ⟨d, pp⟩ := x
    subst h2
    exact Lib.cells_of_tab undRow undRule cellsRule cellsRow h1
  have cell : ∀ k j, k < 15 → j < 10 → W.cell? ⟨0, k * 10 + j, none⟩ = some (.int .u8 (tabA k j : Int)) := by
    intro k j hk hj
    have h1 := World.var?_cell gTab hvar (k * 10 + j)
    rw [h1]
    have h2 := congrArg (fun l => l[j]?) (row k hk)
    simp only [List.getElem?_take_of_lt hj, List.getElem?_drop, List.getElem?_map, List.getElem?_range hj, Option.map_some, Array.getElem?_toList] at h2
    exact h2
  refine ⟨?_, cell⟩
  have h0 := cell 0 0 (by decide) (by decide)
  apply Nat.pos_of_ne_zero
  intro hz
  have : W.heap[0]? = none := Array.getElem?_eq_none (by omega)
  simp [World.cell?, this] at h0
theorem cfCells7 : Tryz.prog.cellsOf 23 = 4 := by kernel_rfl
theorem boolCells7 : Tryz.prog.cellsOf 4 = 1 := by kernel_rfl
theorem open_cfg {H : Type} {enc : TypeId × Value → H} {W : World} {base : Nat} {v : Value} {d : DataW H} {p : List MemPlace} (hv : Value.okWide Tryz.prog W .any base 23 v) (h : DataW.Trod enc Tryz.prog W 0 (fun _ => true) true 23 v d p) :
    ∃ x : Cf, v = x.val ∧ True := by
  obtain ⟨cs, rfl, hsz⟩ := okWide_struct Tryz.underlying23 hv
  obtain ⟨fuel, hf⟩ := h
  obtain ⟨xs, k, hk, hxy, hlen, hxl, hf⟩ := DataW.trod_struct Tryz.underlying23 hf
  rw [cfCells7] at hlen
  have hxl : xs.length = 4 := hxl
  simp only [Value.cells] at hlen hf
  obtain ⟨l⟩ := cs
  match xs, hxl, l, hlen with
  | [y0, y1, y2, y3], _, [v0, v1, v2, v3], _ =>
    have g0 := hf 0 _ rfl
    have g1 := hf 1 _ rfl
    have g2 := hf 2 _ rfl
    have g3 := hf 3 _ rfl
    simp [intCells, boolCells7] at g0 g1 g2 g3
    obtain ⟨A, hA, _, _⟩ := DataW.trod_int Tryz.underlying3 g0
    obtain ⟨B, hB, _, _⟩ := DataW.trod_int Tryz.underlying3 g1
    obtain ⟨C, hC, _, _⟩ := DataW.trod_int Tryz.underlying3 g2
    obtain ⟨b, hb, _⟩ := DataW.trod_bool Tryz.underlying4 g3
    refine ⟨⟨A, B, C, b⟩, ?_, trivial⟩
    simp at hA hB hC hb
    subst hA hB hC hb
    rfl
end Go.Proofs.YtibedokegignhaaGreatDoor
namespace Go.Proofs.YtibedokegignhaaGreatDoor
open Go.ChangeShapes Go.WideShapes Go.ChangeAt Go.RowKit
def yBy : Lay Int := ⟨5, 55, 1, 1, fun x => [.int .u8 x], 0⟩
theorem kBy : yBy.Ok := ⟨by decide, fun x => rfl, fun x u h => by
    simp [yBy] at h
    rw [h]; rfl, Tryz.underlying55, ⟨.int .u8 0, by kernel_rfl, rfl⟩⟩
theorem SlY.hs {w : World} {a : Option Addr} {n c : Nat} {l : List Int} (h : SlY yBy w a n c l) (hb : ∀ z ∈ l, 0 ≤ z ∧ z < 256) : Wi.Hs w a n c l :=
  ⟨h.len, h.cap, fun x hx i hi => by
    rcases h.at_ x hx with rfl | ⟨q, o, rfl, _, hl⟩
    · simp at hi
    · have := hl i l[i] (List.getElem?_eq_getElem hi) 0 (.int .u8 l[i]) rfl
      rw [Addr.add_lit]
      rw [show o + i * yBy.k + 0 = o + i from congrArg (o + ·) (Nat.mul_one i)] at this
      rw [show l.getD i 0 = l[i] by simp [List.getD_eq_getElem?_getD, List.getElem?_eq_getElem hi]]
      exact this, fun hx => ⟨List.eq_nil_of_length_eq_zero (by rw [h.len]; exact (h.nil hx).1), (h.nil hx).2⟩, hb⟩
theorem open_rowsN {α : Type} {Y : Lay α} (K : Y.Ok) [Inhabited α] (fits : α → Prop) {H : Type} {enc : TypeId × Value → H} {W : World} {base : Nat} {v : Value} {d : DataW H} {p : List MemPlace} (hT : Tryz.prog.cellsOf Y.T = Y.k)
    (el : ∀ {n : Nat} {cs : List Value} {x : DataW H × List MemPlace}, DataW.trod enc Tryz.prog W 0 (fun _ => true) true n Y.T cs = some x → ∃ q : α, fits q ∧ cs = Y.cs q)
    (hv : Value.okWide Tryz.prog W .any base Y.ST v) (h : DataW.Trod enc Tryz.prog W 0 (fun _ => true) true Y.ST v d p) :
    ∃ a len cap, v = .slice a len cap ∧ ∃ P : List α, SlY Y W a len cap P ∧ (∀ q ∈ P, fits q) ∧ (∃ el sp : List (DataW H), el.length = len ∧ el.length ≤ el.length + sp.length ∧ (len = 0 ∨ d = .slice el sp)) := by
  obtain ⟨a, n, c, rfl⟩ := okWide_slice K.und hv
  refine ⟨a, n, c, rfl, ?_⟩
  obtain ⟨fuel, h⟩ := h
  simp only [Value.cells] at h
  rcases Go.Deep.open_slice K.und h with ⟨hcs, hx⟩ | ⟨y, ln, cp, m, k, D, Pl, hcs, hb, hl, hm, hmm, hx, hall⟩
  · have e := (List.cons_eq_cons.1 hcs).1
    cases e
    exact ⟨[], ⟨rfl, Nat.le_refl _, by unfold maxLen; omega, fun _ => ⟨rfl, rfl⟩, fun x hx => .inl rfl⟩, by simp, [], [], rfl, Nat.le_refl _, .inl rfl⟩
  · have e := (List.cons_eq_cons.1 hcs).1
    cases e
    have hlm : n ≤ m := by rw [hmm]; split <;> omega
    have each : ∀ i, i < n → ∃ q : α, fits q ∧ (∀ j, j < Y.k → W.cell? ((y.add (i * Y.k)).add j) = (Y.cs q)[j]?) := by
      intro i hi
      obtain ⟨cs', h1, h2⟩ := hall i (by omega)
      rw [hT] at h1
      obtain ⟨q, hf, rfl⟩ := el h2
      obtain ⟨_, _, hcell⟩ := World.cells?_some h1
      exact ⟨q, hf, hcell⟩
    obtain ⟨q, hq⟩ := Go.Deep.choose_lt each
    have hd := congrArg Prod.fst hx
    refine ⟨(List.range n).map q, ⟨by simp, hl, hm, (fun e => by cases e), fun x hx => ?_⟩, ?_, ?_⟩
    · cases hx
      by_cases hn0 : n = 0
      · subst hn0
        exact .inl rfl
      · obtain ⟨b, o, s⟩ := y
        have z0 := (hq 0 (by omega)).2 0 K.kp
        have z1 := z0.trans (List.getElem?_eq_getElem (by rw [K.len]; exact K.kp))
        have hs := World.cell?_spot z1
        obtain rfl : s = none := by
          rw [Nat.zero_mul] at hs
          simpa [Addr.add] using hs
        refine .inr ⟨b, o, rfl, ?_, fun i x hx j u hu => ?_⟩
        · rw [Addr.add_lit, Addr.add_lit] at z1
          exact World.block_lt_of_cell? _ _ z1
        · have hi : i < n := by
            have := (List.getElem?_eq_some_iff.1 hx).1
            simpa using this
          have e : q i = x := by
            simp [hi] at hx
            exact hx
          subst e
          have hj : j < Y.k := by have := (List.getElem?_eq_some_iff.1 hu).1; rwa [K.len] at this
          have := (hq i hi).2 j hj
          rw [Addr.add_lit, Addr.add_lit] at this
          exact this.trans hu
    · intro z hz
      obtain ⟨i, hi, rfl⟩ := List.mem_map.1 hz
      exact (hq i (List.mem_range.1 hi)).1
    · dsimp only at hd
      exact ⟨_, _, by simp, Nat.le_add_right _ _, .inr hd⟩
theorem byCells : Tryz.prog.cellsOf 5 = 1 := by kernel_rfl
theorem byBytes : Tryz.prog.bytesOf 5 = 1 := by kernel_rfl
def CameBy (W : World) (a : Option Addr) (len cap : Nat) : Prop := ∃ P : List Int, SlY yBy W a len cap P ∧ (∀ z ∈ P, 0 ≤ z ∧ z < 256) ∧ len ≤ 140737488351232
theorem u8_range {z : Int} (h : (Lit.int .u8 z).wf = true) : 0 ≤ z ∧ z < 256 := by
  simp [Lit.wf, IntKind.min, IntKind.max, IntKind.bits, IntKind.signed] at h
  omega
theorem open_by {H : Type} {enc : TypeId × Value → H} {W : World} {base : Nat} {v : Value} {d : DataW H} {p : List MemPlace} (hv : Value.okWide Tryz.prog W .any base 55 v) (h : DataW.Trod enc Tryz.prog W 0 (fun _ => true) true 55 v d p)
    (hs : ∀ el sp, d = .slice el sp → (el.length + sp.length) * Tryz.prog.bytesOf 5 ≤ reachBytes) : ∃ a len cap, v = .slice a len cap ∧ CameBy W a len cap := by
  obtain ⟨a, n, c, rfl, P, h1, h2, el, sp, e1, _, e3⟩ := open_rowsN kBy (fun z => 0 ≤ z ∧ z < 256) byCells (fun h => by
    obtain ⟨K, hK, _, hw⟩ := DataW.trod_int Tryz.underlying5 h
    exact ⟨K, u8_range hw, hK⟩) hv h
  refine ⟨a, n, c, rfl, P, h1, h2, ?_⟩
  rcases e3 with e3 | e3
  · omega
  · have := hs el sp e3
    rw [byBytes, e1] at this
    simp only [reachBytes] at this
    omega
end Go.Proofs.YtibedokegignhaaGreatDoor
namespace Go.Proofs.YtibedokegignhaaGreatDoor
open Go.RowKit Go.Maps
open Classical
theorem want_k {ops : Array Oper} {o : Oper} {T : Array Value} {g j : Nat} {pol : Bool} (h : o.guard = some (g, pol)) (hg : (ops[g]?).bind (·.dst) = some j) (hj : T[j]? = some (gw true (.bool pol))) : Region.wanted o (yielded ops T) = true := by
  rw [want_g h hg hj]
  simp
theorem eqSelf9 (x y : Operand) (a : Int) (w : World) : (do eqGuard .eql 3 x y (.int .i64 a) (.int .i64 a); binOp .eql 3 (.int .i64 a) (.int .i64 a) : Sem Value).run Tryz.prog w = .ok (.bool true) w := by
  go_simp
theorem refdecode_sl9 (c : Cf) (a : Option Addr) (n c_ : Nat) (f : List Int) (w : World) (hH : Wi.Hs w a n c_ f) (hm : n ≤ 140737488355328) :
    Calls Tryz.prog 21 #[c.val, .slice a n c_] w fun e w' => ∃ sa sc ta tc, e = .returned (.tuple #[(dcM c f).1.m.val (.slice sa (dcM c f).1.L.length sc) (.slice ta (dcM c f).1.D.length tc), .int .i64 (dcM c f).2]) ∧ SlY yE w' sa (dcM c f).1.L.length sc (dcM c f).1.L ∧ SlY yD w' ta (dcM c f).1.D.length tc (dcM c f).1.D ∧ Below w.heap.size w w' := by
  refine (refdecode7 c a n c_ f w hH hm).mono ?_
  rintro e w' ⟨s, t, rfl, h1, h2, hb⟩
  obtain ⟨sa, sc, rfl, k1, _⟩ := h1.sl kE
  obtain ⟨ta, tc, rfl, k2, _⟩ := h2.sl kD
  exact ⟨sa, sc, ta, tc, rfl, k1, k2, hb⟩
theorem samemsg_eq9 (m : Mg) (a1 a2 : Option Addr) (c1 c2 : Nat) (b1 b2 : Option Addr) (e1 e2 : Nat) (L : List En) (D : List (Int × Int)) (w : World) (h1 : SlY yE w a1 L.length c1 L) (h2 : SlY yD w a2 D.length c2 D) (h3 : SlY yE w b1 L.length e1 L) (h4 : SlY yD w b2 D.length e2 D) :
    Calls Tryz.prog 22 #[m.val (.slice a1 L.length c1) (.slice a2 D.length c2), m.val (.slice b1 L.length e1) (.slice b2 D.length e2)] w fun e w' => e = .returned (.bool true) ∧ Below w.heap.size w w' := by
  have := samemsg_any m m a1 a2 b1 b2 L.length D.length L.length D.length c1 c2 e1 e2 L L D D w h1 h2 h3 h4
  rwa [(sameM_iff m m L L D D).2 ⟨rfl, rfl, rfl⟩] at this
end Go.Proofs.YtibedokegignhaaGreatDoor
namespace Go.Proofs.YtibedokegignhaaGreatDoor.Wi
open Go.RowKit
structure GQ (w : World) (b : Nat) (l : List Int) (K : Nat → Prop) : Prop where
  lt : b < w.heap.size
  kb : K b
  bytes : ∃ r c g n k, w.cell? ⟨b, 0, none⟩ = some (.slice (some ⟨r, 0, none⟩) 1 c) ∧ 1 ≤ c ∧ w.cell? ⟨r, 0, none⟩ = some (.slice (some ⟨g, 0, none⟩) n k) ∧ Hs w (some ⟨g, 0, none⟩) n k l ∧ K r ∧ K g
  was : ∃ r c g n k, w.cell? ⟨b, 1, none⟩ = some (.slice (some ⟨r, 0, none⟩) 1 c) ∧ 1 ≤ c ∧ w.cell? ⟨r, 0, none⟩ = some (.slice (some ⟨g, 0, none⟩) n k) ∧ Hs w (some ⟨g, 0, none⟩) n k l ∧ K r ∧ K g
  draws : w.cell? ⟨b, 2, none⟩ = some (.slice none 0 0)
  entries : w.cell? ⟨b, 4, none⟩ = some (.slice none 0 0)
  ints : w.cell? ⟨b, 6, none⟩ = some (.slice none 0 0)
  states : w.cell? ⟨b, 8, none⟩ = some (.slice none 0 0)
theorem GQ.one {w : World} {b : Nat} {l : List Int} {K : Nat → Prop} (h : GQ w b l K) : GOne w b l := by
  obtain ⟨r, c, g, n, k, h1, h2, h3, h4, _⟩ := h.bytes
  obtain ⟨r', c', g', n', k', f1, f2, f3, f4, _⟩ := h.was
  exact ⟨h.lt, ⟨r, c, _, n, k, h1, h2, h3, h4⟩, ⟨r', c', _, n', k', f1, f2, f3, f4⟩, h.draws, h.entries, h.ints, h.states⟩
set_option maxHeartbeats 1000000 in
theorem given_newU (b : Nat) (a : Option Addr) (n c : Nat) (l : List Int) (w : World) (hb : b < w.heap.size) (c0 : w.cell? ⟨b, 0, none⟩ = some (.slice none 0 0)) (c1 : w.cell? ⟨b, 1, none⟩ = some (.slice none 0 0)) (c2 : w.cell? ⟨b, 2, none⟩ = some (.slice none 0 0)) (c4 : w.cell? ⟨b, 4, none⟩ = some (.slice none 0 0)) (c6 : w.cell? ⟨b, 6, none⟩ = some (.slice none 0 0)) (c8 : w.cell? ⟨b, 8, none⟩ = some (.slice none 0 0))
    (f0 : w.frozen? ⟨b, 0, none⟩ = false) (f1 : w.frozen? ⟨b, 1, none⟩ = false) (h : Hs w a n c l) (hm : n ≤ 140737488351232) :
    Calls Tryz.prog 20 #[.pointer (some ⟨b, 0, none⟩), .slice a n c] w fun e w' => ∃ a' c', e = .returned (.slice a' n c') ∧ Hs w' a' n c' l ∧ c' ≤ maxLen ∧ GQ w' b (l ++ [90]) (fun k => k = b ∨ w.heap.size ≤ k) ∧ Below b w w' ∧ ∀ k, k < w.heap.size → k ≠ b → w'.heap[k]? = w.heap[k]? := by
  have hby := h.byte
  have HLN := hide h.len
  go_enter Tryz.func20, Tryz.ntmps20
  go_wp2_with fail
  refine (copy_any a n c l w h (by omega)).mono ?_
  rintro e w1 ⟨v1, rfl, o1, b1⟩
  have z1 := b1.size
  go_wp2_with (at_builtin; go_must (refine app_one _ rfl (.tmp 7) (.tmp 8) rfl w.heap.size l v1 rfl ⟨w1.heap.size, 0, none⟩ rfl 90 (by simp) (o1.alloc _) (by simp; omega) (by rw [HLN.out]; omega) ?_))
  intro v2 w2 o2 n2 g2
  have b2 : Below w.heap.size w w2 := (o1.alloc _).grown (b1.alloc z1 _) g2 (by simp; omega)
  have z2 := b2.size
  obtain ⟨g, k, hv, hg1, hg2⟩ := o2.shape n2
  have hln : (l ++ [90]).length = n + 1 := by simp [HLN.out]
  rw [hln] at hv
  subst hv
  have HLN2 := hide hln
  clear o1 b1 g2 hln n2
  have d0 := cell_later b2 c0
  have d1 := cell_later b2 c1
  have d2 := cell_later b2 c2
  have d4 := cell_later b2 c4
  have d6 := cell_later b2 c6
  have d8 := cell_later b2 c8
  have e0 := (b2.frozen (p := ⟨b, 0, none⟩) hb).trans f0
  have e1 := (b2.frozen (p := ⟨b, 1, none⟩) hb).trans f1
  have hb2 : b < w2.heap.size := by omega
  clear c0 c1 c2 c4 c6 c8 f0 f1
  go_wp2_with (at_builtin; go_must (refine first_one _ rfl (.tmp 14) (.tmp 16) rfl rfl ⟨w2.heap.size, 0, none⟩ rfl (.slice (some ⟨g, 0, none⟩) (n + 1) k) rfl (by simp) ?_))
  intro r3 k3 w3 h3 h4 h5 h6 b3'
  have b3 : Below w2.heap.size w2 w3 := ((Below.refl _ _).alloc (Nat.le_refl _) _).trans (b3'.mono (by simp))
  have h4' : w2.heap.size < r3 := by omega
  have z3 := b3.size
  have o3 : Own w.heap.size w3 (.slice (some ⟨g, 0, none⟩) (n + 1) k) (l ++ [90]) := o2.kept b3
  have d0 := cell_later b3 d0
  have d1 := cell_later b3 d1
  have d2 := cell_later b3 d2
  have d4 := cell_later b3 d4
  have d6 := cell_later b3 d6
  have d8 := cell_later b3 d8
  have e0 := (b3.frozen (p := ⟨b, 0, none⟩) hb2).trans e0
  have e1 := (b3.frozen (p := ⟨b, 1, none⟩) hb2).trans e1
  have hb3 : b < w3.heap.size := by omega
  have bw3 : Below b w w3 := (b2.mono (by omega)).trans (b3.mono (by omega))
  have kw3 : ∀ k, k < w.heap.size → w3.heap[k]? = w.heap[k]? := fun k hk => (b3.block k (by omega)).trans (b2.block k hk)
  have jz3 : w.heap.size ≤ w3.heap.size := by omega
  clear b3' b3 o2 h4 b2
  have hgb : g ≠ b := by omega
  have hrb : r3 ≠ b := by omega
  have hby2 : ∀ z ∈ l ++ [90], 0 ≤ z ∧ z < 256 := by
    intro z hz
    rcases List.mem_append.1 hz with hz | hz
    · exact hby z hz
    · simp at hz; omega
  have hx3 := o3.hs' HLN2.out hby2
  have hcm := o3.capmax
  have hcp := o3.cap
  go_wp2_with fail
  have hx4 : Hs (w3.setCell ⟨b, 0, none⟩ (.slice (some ⟨r3, 0, none⟩) 1 k3)) (some ⟨g, 0, none⟩) (n + 1) k (l ++ [90]) := hx3.far' (by show b ≠ g; exact fun e => hgb e.symm) _
  have bw4 : Below b w (w3.setCell ⟨b, 0, none⟩ (.slice (some ⟨r3, 0, none⟩) 1 k3)) := bw3.setCell (Nat.le_refl _) _
  have kw4 : ∀ k, k < w.heap.size → k ≠ b → (w3.setCell ⟨b, 0, none⟩ (.slice (some ⟨r3, 0, none⟩) 1 k3)).heap[k]? = w.heap[k]? := fun k hk hne => (Below.heap_setCell w3 _ _ k hne).trans (kw3 k hk)
  have jw : w.heap.size ≤ (w3.setCell ⟨b, 0, none⟩ (.slice (some ⟨r3, 0, none⟩) 1 k3)).heap.size := by simp; omega
  clear kw3 jz3
  have j0 : (w3.setCell ⟨b, 0, none⟩ (.slice (some ⟨r3, 0, none⟩) 1 k3)).cell? ⟨b, 0, none⟩ = some (.slice (some ⟨r3, 0, none⟩) 1 k3) := by go_simp
  have j1 : (w3.setCell ⟨b, 0, none⟩ (.slice (some ⟨r3, 0, none⟩) 1 k3)).cell? ⟨b, 1, none⟩ = some (.slice none 0 0) := by go_simp
  have j2 : (w3.setCell ⟨b, 0, none⟩ (.slice (some ⟨r3, 0, none⟩) 1 k3)).cell? ⟨b, 2, none⟩ = some (.slice none 0 0) := by go_simp
  have j4 : (w3.setCell ⟨b, 0, none⟩ (.slice (some ⟨r3, 0, none⟩) 1 k3)).cell? ⟨b, 4, none⟩ = some (.slice none 0 0) := by go_simp
  have j6 : (w3.setCell ⟨b, 0, none⟩ (.slice (some ⟨r3, 0, none⟩) 1 k3)).cell? ⟨b, 6, none⟩ = some (.slice none 0 0) := by go_simp
  have j8 : (w3.setCell ⟨b, 0, none⟩ (.slice (some ⟨r3, 0, none⟩) 1 k3)).cell? ⟨b, 8, none⟩ = some (.slice none 0 0) := by go_simp
  have jr : (w3.setCell ⟨b, 0, none⟩ (.slice (some ⟨r3, 0, none⟩) 1 k3)).cell? ⟨r3, 0, none⟩ = some (.slice (some ⟨g, 0, none⟩) (n + 1) k) := by rw [World.cell?_of_block (w := w3) (Below.heap_setCell w3 _ _ r3 hrb)]; exact h3
  have jf : (w3.setCell ⟨b, 0, none⟩ (.slice (some ⟨r3, 0, none⟩) 1 k3)).frozen? ⟨b, 1, none⟩ = false := by go_simp
  have jz : b < (w3.setCell ⟨b, 0, none⟩ (.slice (some ⟨r3, 0, none⟩) 1 k3)).heap.size := by simpa using hb3
  have jr2 : r3 < (w3.setCell ⟨b, 0, none⟩ (.slice (some ⟨r3, 0, none⟩) 1 k3)).heap.size := by simpa using h5
  have jg2 : g < (w3.setCell ⟨b, 0, none⟩ (.slice (some ⟨r3, 0, none⟩) 1 k3)).heap.size := by simp; omega
  clear d0 d1 d2 d4 d6 d8 e0 e1 o3 hx3 bw3 h3 hb3
  generalize w3.setCell ⟨b, 0, none⟩ (.slice (some ⟨r3, 0, none⟩) 1 k3) = W at *
  go_region_law (first | (refine step_first rfl (.tmp 24) (.tmp 27) rfl rfl ⟨_, 0, none⟩ rfl _ rfl (by simp; rfl) ?_; intro r5 k6 w6 m1 m2 m3 m4 m5; have bz5 := b5.size; have bW : Below W.heap.size W w6 := (((Below.refl W.heap.size W).drew.trans (b5.mono (by simp))).alloc (by simpa using bz5) _).trans (m5.mono (by simp at bz5 ⊢; omega)); have q1 := cell_later bW j1; have qf := (bW.frozen (p := ⟨b, 1, none⟩) jz).trans jf) | (refine step_copy rfl (.tmp 25) rfl (some ⟨g, 0, none⟩) (n + 1) k rfl (l ++ [90]) (hx4.later ((Below.refl _ _).drew)) (by omega) ?_; intro v5 w5 o5 b5; have s1 : w5.cell? ⟨b, 1, none⟩ = some (.slice none 0 0) := cell_later b5 (by exact j1); have hz5 : b < w5.heap.size := Nat.lt_of_lt_of_le jz b5.size; have s2 : ∀ x, (w5.alloc x).cell? ⟨b, 1, none⟩ = some (.slice none 0 0) := (fun x => cell_later ((Below.refl _ _).alloc (Nat.le_refl _) x) s1); obtain ⟨g5, k5, hv5, hg5, hg6⟩ := o5.shape (o5.ne_nil (by simp)); subst hv5))
  all_goals go_wp2_with fail
  all_goals
    go_ret
    have hll : (l ++ [90]).length = l.length + 1 := by simp
    rw [hll] at o5
    have b56 : Below w5.heap.size w5 w6 := ((Below.refl _ _).alloc (Nat.le_refl _) _).trans (m5.mono (by simp))
    have o6 := (o5.kept b56).hs' hll hby2
    have q0 := cell_later bW j0
    have q2 := cell_later bW j2
    have q4 := cell_later bW j4
    have q6 := cell_later bW j6
    have q8 := cell_later bW j8
    have qr := cell_later bW jr
    have x6 := hx4.later bW
    have hr5k : w.heap.size ≤ r5 := by have m2' := m2; have bz' := bz5; simp at m2' bz'; omega
    have hg5k : w.heap.size ≤ g5 := by have hg5' := hg5; simp at hg5'; omega
    have hr5 : r5 ≠ b := by simp at m2; omega
    have hg5b : g5 ≠ b := by simp at hg5; omega
    have hW6 := bW.size
    have x7 := x6.far' (p := ⟨b, 1, none⟩) (by show b ≠ g; exact fun e => hgb e.symm) (.slice (some ⟨r5, 0, none⟩) 1 k6)
    have o7 := o6.far' (p := ⟨b, 1, none⟩) (by show b ≠ g5; exact fun e => hg5b e.symm) (.slice (some ⟨r5, 0, none⟩) 1 k6)
    have x8 := x7.cut n (by omega)
    have htk : List.take n (l ++ [90]) = l := by rw [← HLN.out]; simp
    rw [htk] at x8
    have kw6 : ∀ k, k < w.heap.size → k ≠ b → w6.heap[k]? = w.heap[k]? := fun k hk hne => (bW.block k (by omega)).trans (kw4 k hk hne)
    have bw6 : Below b w w6 := bw4.trans (bW.mono (Nat.le_of_lt jz))
    have t0 : (w6.setCell ⟨b, 1, none⟩ (.slice (some ⟨r5, 0, none⟩) 1 k6)).cell? ⟨b, 0, none⟩ = some (.slice (some ⟨r3, 0, none⟩) 1 k3) := by go_simp
    have t1 : (w6.setCell ⟨b, 1, none⟩ (.slice (some ⟨r5, 0, none⟩) 1 k6)).cell? ⟨b, 1, none⟩ = some (.slice (some ⟨r5, 0, none⟩) 1 k6) := by go_simp
    have t2 : (w6.setCell ⟨b, 1, none⟩ (.slice (some ⟨r5, 0, none⟩) 1 k6)).cell? ⟨b, 2, none⟩ = some (.slice none 0 0) := by go_simp
    have t4 : (w6.setCell ⟨b, 1, none⟩ (.slice (some ⟨r5, 0, none⟩) 1 k6)).cell? ⟨b, 4, none⟩ = some (.slice none 0 0) := by go_simp
    have t6 : (w6.setCell ⟨b, 1, none⟩ (.slice (some ⟨r5, 0, none⟩) 1 k6)).cell? ⟨b, 6, none⟩ = some (.slice none 0 0) := by go_simp
    have t8 : (w6.setCell ⟨b, 1, none⟩ (.slice (some ⟨r5, 0, none⟩) 1 k6)).cell? ⟨b, 8, none⟩ = some (.slice none 0 0) := by go_simp
    have tr : (w6.setCell ⟨b, 1, none⟩ (.slice (some ⟨r5, 0, none⟩) 1 k6)).cell? ⟨r3, 0, none⟩ = some (.slice (some ⟨g, 0, none⟩) (n + 1) k) := by rw [World.cell?_of_block (w := w6) (Below.heap_setCell w6 _ _ r3 hrb)]; exact qr
    have tq : (w6.setCell ⟨b, 1, none⟩ (.slice (some ⟨r5, 0, none⟩) 1 k6)).cell? ⟨r5, 0, none⟩ = some (.slice (some ⟨g5, 0, none⟩) (l.length + 1) k5) := by rw [World.cell?_of_block (w := w6) (Below.heap_setCell w6 _ _ r5 hr5)]; exact m1
    exact ⟨_, _, rfl, x8, hcm, ⟨by simp; omega, .inl rfl, ⟨_, _, _, _, _, t0, h6, tr, x7, .inr (by omega), .inr (by omega)⟩, ⟨_, _, _, _, _, t1, m4, tq, o7, .inr hr5k, .inr hg5k⟩, t2, t4, t6, t8⟩, bw6.setCell (Nat.le_refl _) _, fun k hk hne => (Below.heap_setCell w6 _ _ k hne).trans (kw6 k hk hne)⟩
end Go.Proofs.YtibedokegignhaaGreatDoor.Wi
namespace Go.Proofs.YtibedokegignhaaGreatDoor
open Go.RowKit Go.Maps
open Classical
structure G09 (w : World) (b : Nat) : Prop where
  lt : b < w.heap.size
  c0 : w.cell? ⟨b, 0, none⟩ = some (.slice none 0 0)
  c1 : w.cell? ⟨b, 1, none⟩ = some (.slice none 0 0)
  c2 : w.cell? ⟨b, 2, none⟩ = some (.slice none 0 0)
  c4 : w.cell? ⟨b, 4, none⟩ = some (.slice none 0 0)
  c6 : w.cell? ⟨b, 6, none⟩ = some (.slice none 0 0)
  c8 : w.cell? ⟨b, 8, none⟩ = some (.slice none 0 0)
  f0 : w.frozen? ⟨b, 0, none⟩ = false
  f1 : w.frozen? ⟨b, 1, none⟩ = false
theorem G09.new (w : World) : G09 (w.alloc gvO) w.heap.size := by
  unfold gvO
  exact ⟨by simp, by go_simp, by go_simp, by go_simp, by go_simp, by go_simp, by go_simp, by go_simp, by go_simp⟩
theorem G09.later {w w' : World} {b : Nat} (h : G09 w b) (hb : Below w.heap.size w w') : G09 w' b :=
  ⟨Nat.lt_of_lt_of_le h.lt hb.size, (hb.cell (p := ⟨b, 0, none⟩) h.lt).trans h.c0, (hb.cell (p := ⟨b, 1, none⟩) h.lt).trans h.c1, (hb.cell (p := ⟨b, 2, none⟩) h.lt).trans h.c2, (hb.cell (p := ⟨b, 4, none⟩) h.lt).trans h.c4, (hb.cell (p := ⟨b, 6, none⟩) h.lt).trans h.c6, (hb.cell (p := ⟨b, 8, none⟩) h.lt).trans h.c8, (hb.frozen (p := ⟨b, 0, none⟩) h.lt).trans h.f0, (hb.frozen (p := ⟨b, 1, none⟩) h.lt).trans h.f1⟩
theorem gq_lt1 {w : World} {g n k : Nat} {l : List Int} (h : Wi.Hs w (some ⟨g, 0, none⟩) n k l) (hl : 0 < l.length) : g < w.heap.size := by
  have hr := h.row _ rfl 0 (by have := h.len; omega)
  rw [Addr.add_lit] at hr
  exact World.block_lt_of_cell? _ _ hr
theorem gq_upd {S K : Nat → Prop} {w w' : World} {b : Nat} {l : List Int} (h : Wi.GQ w b l K) (u : Upd S w w') (hs : ∀ k, K k → ¬ S k) : Wi.GQ w' b l K := by
  obtain ⟨r, c, g, n, k, h1, h2, h3, h4, h5, h6⟩ := h.bytes
  obtain ⟨r', c', g', n', k', f1, f2, f3, f4, f5, f6⟩ := h.was
  have hb := hs b h.kb
  exact ⟨Nat.lt_of_lt_of_le h.lt u.size, h.kb, ⟨r, c, g, n, k, (u.cell (p := ⟨b, 0, none⟩) h.lt hb).trans h1, h2, (u.cell (p := ⟨r, 0, none⟩) (World.block_lt_of_cell? _ _ h3) (hs r h5)).trans h3, hs_far h4 (fun x hx hl => by cases hx; exact ⟨g, 0, rfl, fun i => u.cell (p := ⟨g, i, none⟩) (gq_lt1 h4 hl) (hs g h6)⟩), h5, h6⟩,
    ⟨r', c', g', n', k', (u.cell (p := ⟨b, 1, none⟩) h.lt hb).trans f1, f2, (u.cell (p := ⟨r', 0, none⟩) (World.block_lt_of_cell? _ _ f3) (hs r' f5)).trans f3, hs_far f4 (fun x hx hl => by cases hx; exact ⟨g', 0, rfl, fun i => u.cell (p := ⟨g', i, none⟩) (gq_lt1 f4 hl) (hs g' f6)⟩), f5, f6⟩,
    (u.cell (p := ⟨b, 2, none⟩) h.lt hb).trans h.draws, (u.cell (p := ⟨b, 4, none⟩) h.lt hb).trans h.entries, (u.cell (p := ⟨b, 6, none⟩) h.lt hb).trans h.ints, (u.cell (p := ⟨b, 8, none⟩) h.lt hb).trans h.states⟩
theorem gq_later {K : Nat → Prop} {w w' : World} {b : Nat} {l : List Int} (h : Wi.GQ w b l K) (hb : Below w.heap.size w w') : Wi.GQ w' b l K := gq_upd (S := fun _ => False) h (Upd.of_below hb) (fun _ _ => id)
theorem gq_ne {K : Nat → Prop} {w : World} {b : Nat} {l : List Int} (h : Wi.GQ w b l K) {q : Nat} (hq : ∀ k, K k → k < w.heap.size → k ≠ q) (hl : 0 < l.length) : Wi.GQ w b l (fun k => k ≠ q) := by
  obtain ⟨r, c, g, n, k, h1, h2, h3, h4, h5, h6⟩ := h.bytes
  obtain ⟨r', c', g', n', k', f1, f2, f3, f4, f5, f6⟩ := h.was
  exact ⟨h.lt, hq b h.kb h.lt, ⟨r, c, g, n, k, h1, h2, h3, h4, hq r h5 (World.block_lt_of_cell? _ _ h3), hq g h6 (gq_lt1 h4 hl)⟩, ⟨r', c', g', n', k', f1, f2, f3, f4, hq r' f5 (World.block_lt_of_cell? _ _ f3), hq g' f6 (gq_lt1 f4 hl)⟩, h.draws, h.entries, h.ints, h.states⟩
theorem upd_k9 {b : Nat} {w w' : World} (hb : Below b w w') (hk : ∀ k, k < w.heap.size → k ≠ b → w'.heap[k]? = w.heap[k]?) : Upd (fun k => k = b) w w' := ⟨hb.os, hb.tape, hb.output, hb.size, fun k h1 h2 => hk k h1 h2⟩
set_option maxHeartbeats 4000000 in
theorem law_decodes7 (c : Cf) (a : Option Addr) (n c_ : Nat) (f : List Int) (w : World) (hT : Tab w) (hH : Wi.Hs w a n c_ f) (hn : n ≤ 140737488351232) :
    Calls Tryz.prog 5 #[c.val, .slice a n c_] w fun e w' => e = .returned (.bool true) ∧ Below w.heap.size w w' := by
  go_enter Tryz.func5, Tryz.ntmps5
  go_upto_region 0 with fail
  refine wp_region_lit ?_
  refine vl_gen (fun T => T.size = 38 ∧ T[0]? = some (gw true (.agg #[.int .i64 c.f, .int .i64 c.r, .int .i64 c.p, .bool c.u])) ∧ T[1]? = some (gw true (.slice a n c_))) ⟨rfl, rfl, rfl⟩ (fun Z0 ⟨hz, s0, s1⟩ => ?_)
  obtain ⟨w1, hw1⟩ : ∃ y, y = w.alloc (.cells #[.int .i64 c.f, .int .i64 c.r, .int .i64 c.p, .bool c.u] 23) := ⟨_, rfl⟩
  have hs1 : w1.heap.size = w.heap.size + 1 := by rw [hw1]; simp
  have hB : Below w.heap.size w w1 := by rw [hw1]; exact (Below.refl _ _).alloc (Nat.le_refl _) _
  have Cc : CfB w1 w.heap.size c := ⟨by omega, fun i x hx => by rw [hw1]; exact cell_box _ _ _ _ _ (by simpa using hx)⟩
  have Tc := hT.later hB hT.lt
  have HH := Wi.Hs.later hH hB
  obtain ⟨w2, hw2⟩ : ∃ y, y = w1.alloc gvO := ⟨_, rfl⟩
  have hW : Below w1.heap.size w1 w2 := by rw [hw2]; exact (Below.refl _ _).alloc (Nat.le_refl _) _
  have G2 : G09 w2 w1.heap.size := by rw [hw2]; exact G09.new w1
  refine vw (.pointer (some ⟨w.heap.size, 0, none⟩)) w1 (want_none rfl) (ex_box rfl (ev s0 rfl) (by rw [hw1]; exact bxCf _ _ _ _ _)) rfl hz (by decide) (fun Ya zz kk s2 => ?_)
  replace s1 := ku s1
  replace hz := zz
  clear kk zz s0
  refine vt (.bool false) (ex_assign rfl rfl) hz (fun Yb zz kk s4 => ?_)
  replace s1 := ku s1
  replace s2 := ku s2
  replace hz := zz
  clear kk zz Ya
  clear s4
  refine wpList_nil ?_
  go_upto_region 1 with fail
  refine wp_region_lit ?_
  refine vw (.pointer (some ⟨w1.heap.size, 0, none⟩)) w2 (want_none rfl) (ex_al rfl (by rw [hw2]; exact alGv _)) rfl hz (by decide) (fun Yc zz kk s5 => ?_)
  replace s1 := ku s1
  replace s2 := ku s2
  replace hz := zz
  clear kk zz
  refine wpList_nil ?_
  clear hw1 hw2 hT
  go_upto_region 2 with fail
  refine v_cut (fun T v => T.size = 38 ∧ T[1]? = some (gw true (.slice a n c_)) ∧ T[2]? = some (gw true (.pointer (some ⟨w.heap.size, 0, none⟩))) ∧ T[5]? = some (gw true (.pointer (some ⟨w1.heap.size, 0, none⟩))) ∧ ∃ q6 ua uc va vc, T[6]? = some (gw true (.pointer (some ⟨q6, 0, none⟩))) ∧ T[7]? = some (gw true (.int .i64 (dcM c f).2)) ∧ Hid (MBox v q6 (dcM c f).1.m (.slice ua (dcM c f).1.L.length uc) (.slice va (dcM c f).1.D.length vc) ∧ SlY yE v ua (dcM c f).1.L.length uc (dcM c f).1.L ∧ SlY yD v va (dcM c f).1.D.length vc (dcM c f).1.D ∧ Wi.GOne v w1.heap.size (f ++ [90]) ∧ Below w1.heap.size w1 v)) ?_ ?_
  · refine vh_start (fun v => Below w1.heap.size w1 v) (by kernel_rfl) ?_
    have hS : Below w1.heap.size w1 w2.drew := hW.drew
    have GW := G2.later (Below.refl _ _).drew
    clear hW G2
    obtain ⟨wd, hwd⟩ : ∃ y, y = w2.drew := ⟨_, rfl⟩
    rw [← hwd] at hS GW ⊢
    clear hwd
    refine vh_take 0 true (.agg #[.int .i64 c.f, .int .i64 c.r, .int .i64 c.p, .bool c.u]) rfl (by kernel_rfl) (by kernel_rfl) (by kernel_rfl) (want_none rfl) (fun hc v hv => ex_ld rfl (ev s2 rfl) (Cc.bel hv).ldAll) rfl hz (by decide) hS (fun R1 zz kk s11 => ?_)
    replace s1 := ku s1
    replace s2 := ku s2
    replace s5 := ku s5
    replace hz := zz
    clear kk zz
    refine vh_take 1 true (.slice a n c_) rfl (by kernel_rfl) (by kernel_rfl) (by kernel_rfl) (want_none rfl) (fun hc v hv => ex_move rfl (ev s1 rfl)) rfl hz (by decide) hS (fun R2 zz kk s12 => ?_)
    replace s1 := ku s1
    replace s2 := ku s2
    replace s5 := ku s5
    replace s11 := ku s11
    replace hz := zz
    clear kk zz
    obtain ⟨q6, hq6⟩ : ∃ q, q = wd.heap.size := ⟨_, rfl⟩
    obtain ⟨wa, hwa⟩ : ∃ y, y = wd.alloc (.cells (zG.cs nilS nilS).toArray 38) := ⟨_, rfl⟩
    have hbA : Below wd.heap.size wd wa := by rw [hwa]; exact (Below.refl _ _).alloc (Nat.le_refl _) _
    have MB : MBox wa q6 zG nilS nilS := by rw [hwa, hq6]; exact MBox.new0 wd
    have hq6w : w1.heap.size ≤ q6 := by have := hS.size; omega
    have hSA : Below w1.heap.size w1 wa := hS.trans (hbA.mono hS.size)
    refine vh_two 2 7 (by kernel_rfl) rfl rfl (want_none rfl) (ex_call rfl (by simp only [List.map_toArray, List.map_cons, List.map_nil, (ev s5 rfl), (ev s12 rfl), evc] <;> rfl) rfl) (Wi.given_newU w1.heap.size a n c_ f _ GW.lt GW.c0 GW.c1 GW.c2 GW.c4 GW.c6 GW.c8 GW.f0 GW.f1 (Wi.Hs.later HH hS) hn) rfl hz (by decide) ?_ (.pointer (some ⟨q6, 0, none⟩)) wa (want_none rfl) (ex_al rfl (by rw [hwa, hq6]; exact alM _)) rfl (by decide) hSA ?_
    · clear hwa hbA MB hq6w hSA hq6
      rintro e y1 ⟨fa, fc, rfl, HF, _, GO, hbB, hkB⟩
      refine ⟨_, rfl, hS.trans hbB, fun R3 zz kk s13 => ?_⟩
      replace s1 := ku s1
      replace s2 := ku s2
      replace s5 := ku s5
      replace s11 := ku s11
      replace s12 := ku s12
      replace hz := zz
      clear kk zz
      have hS2 := hS.trans hbB
      clear hS
      have hS := hS2
      clear hS2
      clear GW hbB hkB wa q6
      obtain ⟨q6, hq6⟩ : ∃ q, q = y1.heap.size := ⟨_, rfl⟩
      obtain ⟨ya, hya⟩ : ∃ y, y = y1.alloc (.cells (zG.cs nilS nilS).toArray 38) := ⟨_, rfl⟩
      have hbA : Below y1.heap.size y1 ya := by rw [hya]; exact (Below.refl _ _).alloc (Nat.le_refl _) _
      have MB : MBox ya q6 zG nilS nilS := by rw [hya, hq6]; exact MBox.new0 y1
      have hq6w : w1.heap.size ≤ q6 := by have := hS.size; omega
      have hSA : Below w1.heap.size w1 ya := hS.trans (hbA.mono hS.size)
      refine vh_two 3 7 (by kernel_rfl) rfl rfl (want_none rfl) (ex_call rfl (by simp only [List.map_toArray, List.map_cons, List.map_nil, (ev s11 rfl), (ev s13 rfl), evc] <;> rfl) rfl) (decode_any c fa n fc f _ HF (by omega) (Tc.later hS Tc.lt)) rfl hz (by decide) ?_ (.pointer (some ⟨q6, 0, none⟩)) ya (want_none rfl) (ex_al rfl (by rw [hya, hq6]; exact alM _)) rfl (by decide) hSA ?_
      · clear hya hbA MB hq6w hSA hq6
        rintro e y2 ⟨sv, tv, rfl, OL, OD, hb⟩; obtain ⟨ua, uc, hsv, _⟩ := OL.form; obtain ⟨va, vc, htv, _⟩ := OD.form; subst hsv htv
        refine ⟨_, rfl, hS.trans (hb.mono hS.size), fun R4 zz kk s14 => ?_⟩
        replace s1 := ku s1
        replace s2 := ku s2
        replace s5 := ku s5
        replace s11 := ku s11
        replace s12 := ku s12
        replace s13 := ku s13
        replace hz := zz
        clear kk zz
        have hS2 := hS.trans (hb.mono hS.size)
        have GO2 := gq_later GO hb
        clear hS GO
        have hS := hS2
        have GO := GO2
        clear hS2 GO2
        clear hb ya q6
        refine vh_take 4 true (.tuple #[(dcM c f).1.m.val (.slice ua (dcM c f).1.L.length uc) (.slice va (dcM c f).1.D.length vc), .int .i64 (dcM c f).2]) rfl (by kernel_rfl) (by kernel_rfl) (by kernel_rfl) (want_none rfl) (fun hc v hv => ex_move rfl (ev s14 rfl)) rfl hz (by decide) hS (fun R5 zz kk s10 => ?_)
        replace s1 := ku s1
        replace s2 := ku s2
        replace s5 := ku s5
        replace s11 := ku s11
        replace s12 := ku s12
        replace s13 := ku s13
        replace s14 := ku s14
        replace hz := zz
        clear kk zz
        refine vh_take 5 true ((dcM c f).1.m.val (.slice ua (dcM c f).1.L.length uc) (.slice va (dcM c f).1.D.length vc)) rfl (by kernel_rfl) (by kernel_rfl) (by kernel_rfl) (want_none rfl) (fun hc v hv => ex_ext rfl (ev s10 rfl) rfl) rfl hz (by decide) hS (fun R6 zz kk s15 => ?_)
        replace s1 := ku s1
        replace s2 := ku s2
        replace s5 := ku s5
        replace s11 := ku s11
        replace s12 := ku s12
        replace s13 := ku s13
        replace s14 := ku s14
        replace s10 := ku s10
        replace hz := zz
        clear kk zz
        refine vh_take 6 true (.int .i64 (dcM c f).2) rfl (by kernel_rfl) (by kernel_rfl) (by kernel_rfl) (want_none rfl) (fun hc v hv => ex_ext rfl (ev s10 rfl) rfl) rfl hz (by decide) hS (fun R7 zz kk s16 => ?_)
        replace s1 := ku s1
        replace s2 := ku s2
        replace s5 := ku s5
        replace s11 := ku s11
        replace s12 := ku s12
        replace s13 := ku s13
        replace s14 := ku s14
        replace s10 := ku s10
        replace s15 := ku s15
        replace hz := zz
        clear kk zz
        obtain ⟨q6, hq6⟩ : ∃ q, q = y2.heap.size := ⟨_, rfl⟩
        obtain ⟨yb, hyb⟩ : ∃ y, y = y2.alloc (.cells (zG.cs nilS nilS).toArray 38) := ⟨_, rfl⟩
        have hbA : Below y2.heap.size y2 yb := by rw [hyb]; exact (Below.refl _ _).alloc (Nat.le_refl _) _
        have MB : MBox yb q6 zG nilS nilS := by rw [hyb, hq6]; exact MBox.new0 y2
        have hq6w : w1.heap.size ≤ q6 := by have := hS.size; omega
        have hSA : Below w1.heap.size w1 yb := hS.trans (hbA.mono hS.size)
        have hqL : ∀ g, (Value.slice ua (dcM c f).1.L.length uc).ownBlock = some g → ¬ g = q6 := fun g hg e => by have := (OL.blk g hg).2; omega
        have hqD : ∀ g, (Value.slice va (dcM c f).1.D.length vc).ownBlock = some g → ¬ g = q6 := fun g hg e => by have := (OD.blk g hg).2; omega
        have GN := gq_later (gq_ne GO (q := q6) (fun k _ hk => by omega) (by simp)) hbA
        refine vh_val 7 (.pointer (some ⟨q6, 0, none⟩)) yb rfl (by kernel_rfl) (want_none rfl) (ex_al rfl (by rw [hyb, hq6]; exact alM _)) rfl hz (by decide) hSA (fun R8 zz kk s6 => ?_)
        replace s1 := ku s1
        replace s2 := ku s2
        replace s5 := ku s5
        replace s11 := ku s11
        replace s12 := ku s12
        replace s13 := ku s13
        replace s14 := ku s14
        replace s10 := ku s10
        replace s15 := ku s15
        replace s16 := ku s16
        replace hz := zz
        clear kk zz
        replace OL := OwnY.grow OL hbA
        replace OD := OwnY.grow OD hbA
        clear hS GO
        have hS := hSA
        clear hSA hyb hbA
        have SP := MB.putU (dcM c f).1.m (.slice ua (dcM c f).1.L.length uc) (.slice va (dcM c f).1.D.length vc)
        have hbP : Below w1.heap.size yb (sets yb q6 0 ((dcM c f).1.m.cs (.slice ua (dcM c f).1.L.length uc) (.slice va (dcM c f).1.D.length vc))) := SP.2.below hS.size hq6w
        refine vh_store 8 (sets yb q6 0 ((dcM c f).1.m.cs (.slice ua (dcM c f).1.L.length uc) (.slice va (dcM c f).1.D.length vc))) rfl (by kernel_rfl) (want_none rfl) (ex_st rfl (ev s6 rfl) (ev s15 rfl) (stM MB (dcM c f).1.m (.slice ua (dcM c f).1.L.length uc) (.slice va (dcM c f).1.D.length vc) rfl rfl)) rfl (hS.trans hbP) ?_
        obtain ⟨zf, hzf⟩ : ∃ y, y = sets yb q6 0 ((dcM c f).1.m.cs (.slice ua (dcM c f).1.L.length uc) (.slice va (dcM c f).1.D.length vc)) := ⟨_, rfl⟩
        rw [← hzf] at SP hbP ⊢
        clear hzf
        have OL2 := OwnY.upd1 OL SP.2 (fun g hg (e : g = q6) => hqL g hg e)
        have OD2 := OwnY.upd1 OD SP.2 (fun g hg (e : g = q6) => hqD g hg e)
        have GO2 := gq_upd GN SP.2 (fun k hk (e : k = q6) => hk e)
        have hS2 := hS.trans hbP
        have MF := SP.1
        clear hS OL OD GN MB SP hbP
        have hS := hS2
        refine vh_take 9 true (.int .i64 (dcM c f).2) rfl (by kernel_rfl) (by kernel_rfl) (by kernel_rfl) (want_none rfl) (fun hc v hv => ex_assign rfl (ev s16 rfl)) rfl hz (by decide) hS (fun R9 zz kk s7 => ?_)
        replace s1 := ku s1
        replace s2 := ku s2
        replace s5 := ku s5
        replace s11 := ku s11
        replace s12 := ku s12
        replace s13 := ku s13
        replace s14 := ku s14
        replace s10 := ku s10
        replace s15 := ku s15
        replace s16 := ku s16
        replace s6 := ku s6
        replace hz := zz
        clear kk zz
        refine vh_done (by kernel_rfl) ?_
        exact ⟨_, rfl, hz, s1, s2, s5, q6, ua, uc, va, vc, s6, s7, MF, OwnY.sl' kE OL2, OwnY.sl' kD OD2, GO2.one, hS⟩
      · intro R10 zz kk s6x
        replace s1 := ku s1
        replace s2 := ku s2
        replace s5 := ku s5
        replace s11 := ku s11
        replace s12 := ku s12
        replace s13 := ku s13
        clear kk hz
        have hz := zz
        have s6 := s6x
        clear zz s6x
        replace HF := Wi.Hs.later HF hbA
        have GO2 := gq_later (gq_ne GO (q := q6) (fun k _ hk => by omega) (by simp)) hbA
        clear GO
        have GO := GO2
        clear GO2 hS
        have hS := hSA
        clear hSA hya
        have hq6l := MB.lt
        refine vh_call 3 rfl (by kernel_rfl) (want_none rfl) (ex_call rfl (by simp only [List.map_toArray, List.map_cons, List.map_nil, (ev s11 rfl), (ev s13 rfl), evc] <;> rfl) rfl) (decode_any c fa n fc f _ HF (by omega) (Tc.later hS Tc.lt)) rfl hz (by decide) ?_
        rintro e y2 ⟨sv, tv, rfl, OL, OD, hb⟩; obtain ⟨ua, uc, hsv, _⟩ := OL.form; obtain ⟨va, vc, htv, _⟩ := OD.form; subst hsv htv
        refine ⟨_, rfl, hS.trans (hb.mono hS.size), fun R11 zz kk s14 => ?_⟩
        replace s1 := ku s1
        replace s2 := ku s2
        replace s5 := ku s5
        replace s11 := ku s11
        replace s12 := ku s12
        replace s13 := ku s13
        replace s6 := ku s6
        replace hz := zz
        clear kk zz
        have hS2 := hS.trans (hb.mono hS.size)
        have GO2 := gq_later GO hb
        clear hS GO
        have hS := hS2
        have GO := GO2
        clear hS2 GO2
        have MB2 := MB.bel hb
        clear MB
        have MB := MB2
        clear MB2 hb
        refine vh_take 4 true (.tuple #[(dcM c f).1.m.val (.slice ua (dcM c f).1.L.length uc) (.slice va (dcM c f).1.D.length vc), .int .i64 (dcM c f).2]) rfl (by kernel_rfl) (by kernel_rfl) (by kernel_rfl) (want_none rfl) (fun hc v hv => ex_move rfl (ev s14 rfl)) rfl hz (by decide) hS (fun R12 zz kk s10 => ?_)
        replace s1 := ku s1
        replace s2 := ku s2
        replace s5 := ku s5
        replace s11 := ku s11
        replace s12 := ku s12
        replace s13 := ku s13
        replace s6 := ku s6
        replace s14 := ku s14
        replace hz := zz
        clear kk zz
        refine vh_take 5 true ((dcM c f).1.m.val (.slice ua (dcM c f).1.L.length uc) (.slice va (dcM c f).1.D.length vc)) rfl (by kernel_rfl) (by kernel_rfl) (by kernel_rfl) (want_none rfl) (fun hc v hv => ex_ext rfl (ev s10 rfl) rfl) rfl hz (by decide) hS (fun R13 zz kk s15 => ?_)
        replace s1 := ku s1
        replace s2 := ku s2
        replace s5 := ku s5
        replace s11 := ku s11
        replace s12 := ku s12
        replace s13 := ku s13
        replace s6 := ku s6
        replace s14 := ku s14
        replace s10 := ku s10
        replace hz := zz
        clear kk zz
        refine vh_take 6 true (.int .i64 (dcM c f).2) rfl (by kernel_rfl) (by kernel_rfl) (by kernel_rfl) (want_none rfl) (fun hc v hv => ex_ext rfl (ev s10 rfl) rfl) rfl hz (by decide) hS (fun R14 zz kk s16 => ?_)
        replace s1 := ku s1
        replace s2 := ku s2
        replace s5 := ku s5
        replace s11 := ku s11
        replace s12 := ku s12
        replace s13 := ku s13
        replace s6 := ku s6
        replace s14 := ku s14
        replace s10 := ku s10
        replace s15 := ku s15
        replace hz := zz
        clear kk zz
        have hqL : ∀ g, (Value.slice ua (dcM c f).1.L.length uc).ownBlock = some g → ¬ g = q6 := fun g hg e => by have := (OL.blk g hg).1; omega
        have hqD : ∀ g, (Value.slice va (dcM c f).1.D.length vc).ownBlock = some g → ¬ g = q6 := fun g hg e => by have := (OD.blk g hg).1; omega
        have GN := GO
        clear GO
        have SP := MB.putU (dcM c f).1.m (.slice ua (dcM c f).1.L.length uc) (.slice va (dcM c f).1.D.length vc)
        have hbP : Below w1.heap.size y2 (sets y2 q6 0 ((dcM c f).1.m.cs (.slice ua (dcM c f).1.L.length uc) (.slice va (dcM c f).1.D.length vc))) := SP.2.below hS.size hq6w
        refine vh_store 8 (sets y2 q6 0 ((dcM c f).1.m.cs (.slice ua (dcM c f).1.L.length uc) (.slice va (dcM c f).1.D.length vc))) rfl (by kernel_rfl) (want_none rfl) (ex_st rfl (ev s6 rfl) (ev s15 rfl) (stM MB (dcM c f).1.m (.slice ua (dcM c f).1.L.length uc) (.slice va (dcM c f).1.D.length vc) rfl rfl)) rfl (hS.trans hbP) ?_
        obtain ⟨zf, hzf⟩ : ∃ y, y = sets y2 q6 0 ((dcM c f).1.m.cs (.slice ua (dcM c f).1.L.length uc) (.slice va (dcM c f).1.D.length vc)) := ⟨_, rfl⟩
        rw [← hzf] at SP hbP ⊢
        clear hzf
        have OL2 := OwnY.upd1 OL SP.2 (fun g hg (e : g = q6) => hqL g hg e)
        have OD2 := OwnY.upd1 OD SP.2 (fun g hg (e : g = q6) => hqD g hg e)
        have GO2 := gq_upd GN SP.2 (fun k hk (e : k = q6) => hk e)
        have hS2 := hS.trans hbP
        have MF := SP.1
        clear hS OL OD GN MB SP hbP
        have hS := hS2
        refine vh_take 9 true (.int .i64 (dcM c f).2) rfl (by kernel_rfl) (by kernel_rfl) (by kernel_rfl) (want_none rfl) (fun hc v hv => ex_assign rfl (ev s16 rfl)) rfl hz (by decide) hS (fun R15 zz kk s7 => ?_)
        replace s1 := ku s1
        replace s2 := ku s2
        replace s5 := ku s5
        replace s11 := ku s11
        replace s12 := ku s12
        replace s13 := ku s13
        replace s6 := ku s6
        replace s14 := ku s14
        replace s10 := ku s10
        replace s15 := ku s15
        replace s16 := ku s16
        replace hz := zz
        clear kk zz
        refine vh_done (by kernel_rfl) ?_
        exact ⟨_, rfl, hz, s1, s2, s5, q6, ua, uc, va, vc, s6, s7, MF, OwnY.sl' kE OL2, OwnY.sl' kD OD2, GO2.one, hS⟩
    · intro R16 zz kk s6x
      replace s1 := ku s1
      replace s2 := ku s2
      replace s5 := ku s5
      replace s11 := ku s11
      replace s12 := ku s12
      clear kk hz
      have hz := zz
      have s6 := s6x
      clear zz s6x
      have hqG : ¬ q6 = w1.heap.size := by have := GW.lt; omega
      have GW2 := GW.later hbA
      clear GW hS
      have GW := GW2
      have hS := hSA
      clear hSA hwa GW2
      have hq6l := MB.lt
      refine vh_call 2 rfl (by kernel_rfl) (want_none rfl) (ex_call rfl (by simp only [List.map_toArray, List.map_cons, List.map_nil, (ev s5 rfl), (ev s12 rfl), evc] <;> rfl) rfl) (Wi.given_newU w1.heap.size a n c_ f _ GW.lt GW.c0 GW.c1 GW.c2 GW.c4 GW.c6 GW.c8 GW.f0 GW.f1 (Wi.Hs.later HH hS) hn) rfl hz (by decide) ?_
      rintro e y1 ⟨fa, fc, rfl, HF, _, GO, hbB, hkB⟩
      refine ⟨_, rfl, hS.trans hbB, fun R17 zz kk s13 => ?_⟩
      replace s1 := ku s1
      replace s2 := ku s2
      replace s5 := ku s5
      replace s11 := ku s11
      replace s12 := ku s12
      replace s6 := ku s6
      replace hz := zz
      clear kk zz
      have MB2 := MB.upd (upd_k9 hbB hkB) hqG
      have hzB := hbB.size
      have GO2 := gq_ne GO (q := q6) (fun k hk _ => by rcases hk with h | h <;> omega) (by simp)
      clear MB GO
      have MB := MB2
      have GO := GO2
      clear MB2 GO2
      have hS2 := hS.trans hbB
      clear hS
      have hS := hS2
      clear hS2
      clear GW hbB hkB
      refine vh_call 3 rfl (by kernel_rfl) (want_none rfl) (ex_call rfl (by simp only [List.map_toArray, List.map_cons, List.map_nil, (ev s11 rfl), (ev s13 rfl), evc] <;> rfl) rfl) (decode_any c fa n fc f _ HF (by omega) (Tc.later hS Tc.lt)) rfl hz (by decide) ?_
      rintro e y2 ⟨sv, tv, rfl, OL, OD, hb⟩; obtain ⟨ua, uc, hsv, _⟩ := OL.form; obtain ⟨va, vc, htv, _⟩ := OD.form; subst hsv htv
      refine ⟨_, rfl, hS.trans (hb.mono hS.size), fun R18 zz kk s14 => ?_⟩
      replace s1 := ku s1
      replace s2 := ku s2
      replace s5 := ku s5
      replace s11 := ku s11
      replace s12 := ku s12
      replace s6 := ku s6
      replace s13 := ku s13
      replace hz := zz
      clear kk zz
      have hS2 := hS.trans (hb.mono hS.size)
      have GO2 := gq_later GO hb
      clear hS GO
      have hS := hS2
      have GO := GO2
      clear hS2 GO2
      have MB2 := MB.bel hb
      clear MB
      have MB := MB2
      clear MB2 hb
      refine vh_take 4 true (.tuple #[(dcM c f).1.m.val (.slice ua (dcM c f).1.L.length uc) (.slice va (dcM c f).1.D.length vc), .int .i64 (dcM c f).2]) rfl (by kernel_rfl) (by kernel_rfl) (by kernel_rfl) (want_none rfl) (fun hc v hv => ex_move rfl (ev s14 rfl)) rfl hz (by decide) hS (fun R19 zz kk s10 => ?_)
      replace s1 := ku s1
      replace s2 := ku s2
      replace s5 := ku s5
      replace s11 := ku s11
      replace s12 := ku s12
      replace s6 := ku s6
      replace s13 := ku s13
      replace s14 := ku s14
      replace hz := zz
      clear kk zz
      refine vh_take 5 true ((dcM c f).1.m.val (.slice ua (dcM c f).1.L.length uc) (.slice va (dcM c f).1.D.length vc)) rfl (by kernel_rfl) (by kernel_rfl) (by kernel_rfl) (want_none rfl) (fun hc v hv => ex_ext rfl (ev s10 rfl) rfl) rfl hz (by decide) hS (fun R20 zz kk s15 => ?_)
      replace s1 := ku s1
      replace s2 := ku s2
      replace s5 := ku s5
      replace s11 := ku s11
      replace s12 := ku s12
      replace s6 := ku s6
      replace s13 := ku s13
      replace s14 := ku s14
      replace s10 := ku s10
      replace hz := zz
      clear kk zz
      refine vh_take 6 true (.int .i64 (dcM c f).2) rfl (by kernel_rfl) (by kernel_rfl) (by kernel_rfl) (want_none rfl) (fun hc v hv => ex_ext rfl (ev s10 rfl) rfl) rfl hz (by decide) hS (fun R21 zz kk s16 => ?_)
      replace s1 := ku s1
      replace s2 := ku s2
      replace s5 := ku s5
      replace s11 := ku s11
      replace s12 := ku s12
      replace s6 := ku s6
      replace s13 := ku s13
      replace s14 := ku s14
      replace s10 := ku s10
      replace s15 := ku s15
      replace hz := zz
      clear kk zz
      have hqL : ∀ g, (Value.slice ua (dcM c f).1.L.length uc).ownBlock = some g → ¬ g = q6 := fun g hg e => by have := (OL.blk g hg).1; omega
      have hqD : ∀ g, (Value.slice va (dcM c f).1.D.length vc).ownBlock = some g → ¬ g = q6 := fun g hg e => by have := (OD.blk g hg).1; omega
      have GN := GO
      clear GO
      have SP := MB.putU (dcM c f).1.m (.slice ua (dcM c f).1.L.length uc) (.slice va (dcM c f).1.D.length vc)
      have hbP : Below w1.heap.size y2 (sets y2 q6 0 ((dcM c f).1.m.cs (.slice ua (dcM c f).1.L.length uc) (.slice va (dcM c f).1.D.length vc))) := SP.2.below hS.size hq6w
      refine vh_store 8 (sets y2 q6 0 ((dcM c f).1.m.cs (.slice ua (dcM c f).1.L.length uc) (.slice va (dcM c f).1.D.length vc))) rfl (by kernel_rfl) (want_none rfl) (ex_st rfl (ev s6 rfl) (ev s15 rfl) (stM MB (dcM c f).1.m (.slice ua (dcM c f).1.L.length uc) (.slice va (dcM c f).1.D.length vc) rfl rfl)) rfl (hS.trans hbP) ?_
      obtain ⟨zf, hzf⟩ : ∃ y, y = sets y2 q6 0 ((dcM c f).1.m.cs (.slice ua (dcM c f).1.L.length uc) (.slice va (dcM c f).1.D.length vc)) := ⟨_, rfl⟩
      rw [← hzf] at SP hbP ⊢
      clear hzf
      have OL2 := OwnY.upd1 OL SP.2 (fun g hg (e : g = q6) => hqL g hg e)
      have OD2 := OwnY.upd1 OD SP.2 (fun g hg (e : g = q6) => hqD g hg e)
      have GO2 := gq_upd GN SP.2 (fun k hk (e : k = q6) => hk e)
      have hS2 := hS.trans hbP
      have MF := SP.1
      clear hS OL OD GN MB SP hbP
      have hS := hS2
      refine vh_take 9 true (.int .i64 (dcM c f).2) rfl (by kernel_rfl) (by kernel_rfl) (by kernel_rfl) (want_none rfl) (fun hc v hv => ex_assign rfl (ev s16 rfl)) rfl hz (by decide) hS (fun R22 zz kk s7 => ?_)
      replace s1 := ku s1
      replace s2 := ku s2
      replace s5 := ku s5
      replace s11 := ku s11
      replace s12 := ku s12
      replace s6 := ku s6
      replace s13 := ku s13
      replace s14 := ku s14
      replace s10 := ku s10
      replace s15 := ku s15
      replace s16 := ku s16
      replace hz := zz
      clear kk zz
      refine vh_done (by kernel_rfl) ?_
      exact ⟨_, rfl, hz, s1, s2, s5, q6, ua, uc, va, vc, s6, s7, MF, OwnY.sl' kE OL2, OwnY.sl' kD OD2, GO2.one, hS⟩
  · clear hz s1 s2 s5 hW G2
    intro T9 z1 hJ
    obtain ⟨hz, s1, s2, s5, q6, ua, uc, va, vc, s6, s7, HI⟩ := hJ
    obtain ⟨M6, hu, hv, GO, hS⟩ := HI.out
    clear HI
    go_upto_region 3 with fail
    refine wp_region_lit ?_
    refine vt (.agg #[.int .i64 c.f, .int .i64 c.r, .int .i64 c.p, .bool c.u]) (ex_ld rfl (ev s2 rfl) (Cc.bel hS).ldAll) hz (fun Yd zz kk s18 => ?_)
    replace s1 := ku s1
    replace s5 := ku s5
    replace s6 := ku s6
    replace s7 := ku s7
    replace hz := zz
    clear kk zz s2
    refine vt _ (ex_move rfl (ev s1 rfl)) hz (fun Ye zz kk s19 => ?_)
    replace s5 := ku s5
    replace s6 := ku s6
    replace s7 := ku s7
    replace s18 := ku s18
    replace hz := zz
    clear kk zz s1 Yd
    refine vcallP (want_none rfl) (ex_call rfl (by simp only [List.map_toArray, List.map_cons, List.map_nil, (ev s18 rfl), (ev s19 rfl), evc] <;> rfl) rfl) (refdecode_sl9 c a n c_ f _ (Wi.Hs.later HH hS) (by omega)) rfl hz (by decide) ?_
    rintro e z2 ⟨pa, pc, ra, rc, rfl, hp, hr, hb⟩
    refine ⟨_, rfl, fun Yf zz kk s20 => ?_⟩
    replace M6 := M6.bel hb
    replace hu := hu.later hb
    replace hv := hv.later hb
    replace GO := GO.later hb
    replace hS := hS.trans (hb.mono hS.size)
    clear hb
    obtain ⟨q8, hq8⟩ : ∃ q, q = z2.heap.size := ⟨_, rfl⟩
    obtain ⟨z3, hz3⟩ : ∃ z, z = z2.alloc (.cells (zG.cs nilS nilS).toArray 38) := ⟨_, rfl⟩
    have hb : Below z2.heap.size z2 z3 := by rw [hz3]; exact (Below.refl _ _).alloc (Nat.le_refl _) _
    have BN : MBox z3 q8 zG nilS nilS := by rw [hz3, hq8]; exact MBox.new0 z2
    replace s5 := ku s5
    replace s6 := ku s6
    replace s7 := ku s7
    replace hz := zz
    clear kk zz s18 s19 Ye
    refine vt _ (ex_move rfl (ev s20 rfl)) hz (fun Yg zz kk s17 => ?_)
    replace s5 := ku s5
    replace s6 := ku s6
    replace s7 := ku s7
    replace hz := zz
    clear kk zz s20 Yf
    refine vt ((dcM c f).1.m.val (.slice pa (dcM c f).1.L.length pc) (.slice ra (dcM c f).1.D.length rc)) (ex_ext rfl (ev s17 rfl) rfl) hz (fun Yh zz kk s21 => ?_)
    replace s5 := ku s5
    replace s6 := ku s6
    replace s7 := ku s7
    replace s17 := ku s17
    replace hz := zz
    clear kk zz Yg
    refine vt (.int .i64 (dcM c f).2) (ex_ext rfl (ev s17 rfl) rfl) hz (fun Yi zz kk s22 => ?_)
    replace s5 := ku s5
    replace s6 := ku s6
    replace s7 := ku s7
    replace s21 := ku s21
    replace hz := zz
    clear kk zz s17 Yh
    refine vw (.pointer (some ⟨q8, 0, none⟩)) z3 (want_none rfl) (ex_al rfl (by rw [hz3, hq8]; exact alM _)) rfl hz (by decide) (fun Yj zz kk s8 => ?_)
    replace s5 := ku s5
    replace s6 := ku s6
    replace s7 := ku s7
    replace s21 := ku s21
    replace s22 := ku s22
    replace hz := zz
    clear kk zz Yi
    refine vs (sets z3 q8 0 ((dcM c f).1.m.cs (.slice pa (dcM c f).1.L.length pc) (.slice ra (dcM c f).1.D.length rc))) (want_none rfl) (ex_st rfl (ev s8 rfl) (ev s21 rfl) (stM BN (dcM c f).1.m (.slice pa (dcM c f).1.L.length pc) (.slice ra (dcM c f).1.D.length rc) rfl rfl)) rfl ?_
    have SP := BN.putU (dcM c f).1.m (.slice pa (dcM c f).1.L.length pc) (.slice ra (dcM c f).1.D.length rc)
    obtain ⟨z4, hz4⟩ : ∃ z, z = sets z3 q8 0 ((dcM c f).1.m.cs (.slice pa (dcM c f).1.L.length pc) (.slice ra (dcM c f).1.D.length rc)) := ⟨_, rfl⟩
    rw [← hz4] at SP ⊢
    clear hz4 hz3
    replace hb := hb.trans (SP.2.below hb.size (by omega))
    have M8 := SP.1
    clear SP BN
    replace M6 := M6.bel hb
    replace hu := hu.later hb
    replace hv := hv.later hb
    replace GO := GO.later hb
    replace hS := hS.trans (hb.mono hS.size)
    replace hp := hp.later hb
    replace hr := hr.later hb
    clear hb
    refine vt _ (ex_assign rfl (ev s22 rfl)) hz (fun Yk zz kk s9 => ?_)
    replace s5 := ku s5
    replace s6 := ku s6
    replace s7 := ku s7
    replace s8 := ku s8
    replace hz := zz
    clear kk zz s21 s22 Yj
    refine wpList_nil ?_
    go_upto_region 4 with fail
    refine wp_region_lit ?_
    refine vt _ (ex_move rfl (ev s7 rfl)) hz (fun Yl zz kk s23 => ?_)
    replace s5 := ku s5
    replace s6 := ku s6
    replace s8 := ku s8
    replace s9 := ku s9
    replace hz := zz
    clear kk zz s7
    refine vcallP (want_none rfl) (ex_call rfl (by simp only [List.map_toArray, List.map_cons, List.map_nil, (ev s23 rfl), evc] <;> rfl) rfl) (num7_any (dcM c f).2 _) rfl hz (by decide) ?_
    rintro e y_ ⟨rfl, hy_⟩; rw [hy_]; clear hy_ y_
    refine ⟨_, rfl, fun Ym zz kk s24 => ?_⟩
    replace s5 := ku s5
    replace s6 := ku s6
    replace s8 := ku s8
    replace s9 := ku s9
    replace hz := zz
    clear kk zz s23 Yl
    refine vt _ (ex_move rfl (ev s9 rfl)) hz (fun Yn zz kk s25 => ?_)
    replace s5 := ku s5
    replace s6 := ku s6
    replace s8 := ku s8
    replace s24 := ku s24
    replace hz := zz
    clear kk zz s9 Ym
    refine vt (.bool true) (ex_bin rfl (ev s24 rfl) (ev s25 rfl) (eqSelf9 _ _ _ _)) hz (fun Yo zz kk s26 => ?_)
    replace s5 := ku s5
    replace s6 := ku s6
    replace s8 := ku s8
    replace hz := zz
    clear kk zz s24 s25 Yn
    refine vt _ (ex_move rfl (ev s26 rfl)) hz (fun Yp zz kk s27 => ?_)
    replace s5 := ku s5
    replace s6 := ku s6
    replace s8 := ku s8
    replace hz := zz
    clear kk zz s26 Yo
    refine vl true ((dcM c f).1.m.val (.slice ua (dcM c f).1.L.length uc) (.slice va (dcM c f).1.D.length vc)) (want_k rfl rfl s27) (fun hc => ex_ld rfl (ev s6 rfl) M6.ldAll) rfl hz (by decide) (fun Yq zz kk s28 => ?_)
    replace s5 := ku s5
    replace s8 := ku s8
    replace s27 := ku s27
    replace hz := zz
    clear kk zz s6 Yp
    refine vl true ((dcM c f).1.m.val (.slice pa (dcM c f).1.L.length pc) (.slice ra (dcM c f).1.D.length rc)) (want_k rfl rfl s27) (fun hc => ex_ld rfl (ev s8 rfl) M8.ldAll) rfl hz (by decide) (fun Yr zz kk s29 => ?_)
    replace s5 := ku s5
    replace s27 := ku s27
    replace s28 := ku s28
    replace hz := zz
    clear kk zz s8 Yq
    refine vcallP (want_k rfl rfl s27) (ex_call rfl (by simp only [List.map_toArray, List.map_cons, List.map_nil, (ev s28 rfl), (ev s29 rfl), evc] <;> rfl) rfl) (samemsg_eq9 (dcM c f).1.m ua va uc vc pa ra pc rc (dcM c f).1.L (dcM c f).1.D _ hu hv hp hr) rfl hz (by decide) ?_
    rintro e z5 ⟨rfl, hb⟩
    refine ⟨_, rfl, fun Ys zz kk s30 => ?_⟩
    replace M6 := M6.bel hb
    replace hu := hu.later hb
    replace hv := hv.later hb
    replace GO := GO.later hb
    replace hS := hS.trans (hb.mono hS.size)
    replace hp := hp.later hb
    replace hr := hr.later hb
    replace M8 := M8.bel hb
    clear hb
    replace s5 := ku s5
    replace s27 := ku s27
    replace hz := zz
    clear kk zz s28 s29 Yr
    refine vt (.bool true) (ex_and rfl s27 s30 rfl) hz (fun Yt zz kk s31 => ?_)
    replace s5 := ku s5
    replace hz := zz
    clear kk zz s27 s30 Ys
    refine vt _ (ex_move rfl (ev s31 rfl)) hz (fun Yu zz kk s32 => ?_)
    replace s5 := ku s5
    replace hz := zz
    clear kk zz s31 Yt
    refine vcallP (want_k rfl rfl s32) (ex_call rfl (by simp only [List.map_toArray, List.map_cons, List.map_nil, (ev s5 rfl), evc] <;> rfl) rfl) (Wi.intact_one w1.heap.size (f ++ [90]) _ GO) rfl hz (by decide) ?_
    rintro e z6 ⟨rfl, hb⟩
    refine ⟨_, rfl, fun Yv zz kk s33 => ?_⟩
    replace M6 := M6.bel hb
    replace hu := hu.later hb
    replace hv := hv.later hb
    replace GO := GO.later hb
    replace hS := hS.trans (hb.mono hS.size)
    replace hp := hp.later hb
    replace hr := hr.later hb
    replace M8 := M8.bel hb
    clear hb
    replace s32 := ku s32
    replace hz := zz
    clear kk zz s5 Yu
    refine vt (.bool true) (ex_and rfl s32 s33 rfl) hz (fun Yw zz kk s34 => ?_)
    replace hz := zz
    clear kk zz s32 s33 Yv
    refine vt _ (ex_move rfl (ev s34 rfl)) hz (fun Yx zz kk s35 => ?_)
    replace hz := zz
    clear kk zz s34 Yw
    refine vcallP (want_k rfl rfl s35) (ex_call (args := #[]) rfl (by simp) rfl) (alive7 _ (Tc.later hS Tc.lt)) rfl hz (by decide) ?_
    rintro e z7 ⟨rfl, hb⟩
    refine ⟨_, rfl, fun Yy zz kk s36 => ?_⟩
    replace M6 := M6.bel hb
    replace hu := hu.later hb
    replace hv := hv.later hb
    replace GO := GO.later hb
    replace hS := hS.trans (hb.mono hS.size)
    replace hp := hp.later hb
    replace hr := hr.later hb
    replace M8 := M8.bel hb
    clear hb
    replace s35 := ku s35
    replace hz := zz
    clear kk zz Yx
    refine vt (.bool true) (ex_and rfl s35 s36 rfl) hz (fun Yz zz kk s37 => ?_)
    replace hz := zz
    clear kk zz s35 s36 Yy
    refine vt _ (ex_assign rfl (ev s37 rfl)) hz (fun Y0 zz kk s4 => ?_)
    replace hz := zz
    clear kk zz s37 Yz
    refine wpList_nil ?_
    have hfin : Below w.heap.size w z7 := hB.trans (hS.mono (by omega))
    go_wp2
    refine bodyPost_ret (results_tmp rfl _ _ _) rfl ⟨?_, hfin⟩
    rw [getD_of s4]
    rfl
theorem decodes_came7 (c : Cf) (a3 : Option Addr) (n3 c3 : Nat) (w : World) (hf : CameBy w a3 n3 c3) (hT : Tab w) :
    Calls Tryz.prog 5 #[c.val, .slice a3 n3 c3] w fun e w' => e = .returned (.bool true) ∧ Below w.heap.size w w' := by
  obtain ⟨f, hF, hby, hn⟩ := hf
  exact law_decodes7 c a3 n3 c3 f w hT (hF.hs hby) hn
end Go.Proofs.YtibedokegignhaaGreatDoor
