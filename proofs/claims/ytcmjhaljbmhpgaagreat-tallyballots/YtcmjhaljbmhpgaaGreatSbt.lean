import Derived.Test.YtcmjhaljbmhpgaaGreatSbs
import Derived.Test.YtcmjhaljbmhpgaaGreatSbq
import Derived.Test.YtcmjhaljbmhpgaaGreatOg
namespace Go.Proofs.YtcmjhaljbmhpgaaGreat
open Go.RowKit Go.Maps
open Classical
set_option linter.unusedVariables false
set_option linter.unusedSimpArgs false

/-- y is alike x, with a log of its own. -/
def Bl.Cp (B : Nat) (w : World) (x y : Bl) : Prop := Bl.Like x y ∧ OwnY yE B w (.slice y.s.a y.s.D.length y.s.c) y.s.D ∧ y.s.D.length * 48 ≤ 281474976710656
theorem Bl.Cp.In {B : Nat} {w : World} {x y : Bl} (h : Bl.Cp B w x y) : y.In w := ⟨h.2.1.sl' kE, h.2.2⟩
theorem Bl.Cp.bel {B : Nat} {w w' : World} {x y : Bl} (h : Bl.Cp B w x y) (hb : Below w.heap.size w w') : Bl.Cp B w' x y := ⟨h.1, h.2.1.grow hb, h.2.2⟩
theorem Bl.Cp.upd {B g : Nat} {w w' : World} {x y : Bl} (h : Bl.Cp B w x y) (u : Upd (· = g) w w') (hg : g < B) : Bl.Cp B w' x y :=
  ⟨h.1, h.2.1.upd1 u (fun k e hk => by have := (h.2.1.blk k e).1; have : k = g := hk; omega), h.2.2⟩
def Bl.Cop (B : Nat) (w : World) (L R : List Bl) : Prop := R.length = L.length ∧ ∀ (i : Nat) (x y : Bl), L[i]? = some x → R[i]? = some y → Bl.Cp B w x y
theorem Bl.Cop.bel {B : Nat} {w w' : World} {L R : List Bl} (h : Bl.Cop B w L R) (hb : Below w.heap.size w w') : Bl.Cop B w' L R := ⟨h.1, fun i x y hx hy => (h.2 i x y hx hy).bel hb⟩
theorem Bl.Cop.grown {B B' : Nat} {w w' : World} {v : Value} {L R K : List Bl} (h : Bl.Cop B w L R) (ho : OwnY yBlA B' w v K) (hg : w.grownBy w' v.ownBlock) : Bl.Cop B w' L R :=
  ⟨h.1, fun i x y hx hy => ⟨(h.2 i x y hx hy).1, (h.2 i x y hx hy).2.1.grownZ ho hTEBl hg, (h.2 i x y hx hy).2.2⟩⟩
theorem Bl.Cop.upd {B g : Nat} {w w' : World} {L R : List Bl} (h : Bl.Cop B w L R) (u : Upd (· = g) w w') (hr : ∀ k, k < w.heap.size → k = g → ∃ cs f, w.heap[k]? = some (.cells cs yBlA.T f)) : Bl.Cop B w' L R :=
  ⟨h.1, fun i x y hx hy => by
    obtain ⟨h1, h2, h3⟩ := h.2 i x y hx hy
    refine ⟨h1, h2.upd1 u (fun k e hk => ?_), h3⟩
    obtain ⟨cs, f, e1⟩ := h2.kind e
    obtain ⟨cs', f', e2⟩ := hr k (h2.blk k e).2 hk
    rw [e1] at e2
    injection e2 with e2
    injection e2 with _ e3
    exact hTEBl e3⟩
theorem Bl.Cop.snoc {B : Nat} {w : World} {L R : List Bl} {j : Nat} {x y : Bl} (h : Bl.Cop B w (L.take j) R) (hj : L[j]? = some x) (hc : Bl.Cp B w x y) : Bl.Cop B w (L.take (j + 1)) (R ++ [y]) := by
  have hl := (List.getElem?_eq_some_iff.1 hj).1
  have h0 : (L.take j).length = j := by rw [List.length_take]; omega
  refine ⟨by rw [List.length_append, h.1, h0, List.length_take]; simp; omega, fun i a b ha hb => ?_⟩
  by_cases e : i < j
  · rw [List.getElem?_append_left (by rw [h.1, h0]; exact e)] at hb
    refine h.2 i a b ?_ hb
    rw [List.getElem?_take_of_lt (by omega)] at ha
    rw [List.getElem?_take_of_lt e]
    exact ha
  · have hlt := (List.getElem?_eq_some_iff.1 hb).1
    rw [List.length_append, h.1, h0] at hlt
    simp at hlt
    obtain rfl : i = j := by omega
    rw [List.getElem?_append_right (by rw [h.1, h0]; exact Nat.le_refl _), h.1, h0, Nat.sub_self] at hb
    rw [List.getElem?_take_of_lt (by omega), hj] at ha
    cases ha
    simp at hb
    subst hb
    exact hc
theorem Bl.Cop.low {B B' : Nat} {w : World} {L R : List Bl} (h : Bl.Cop B w L R) (hb : B' ≤ B) : Bl.Cop B' w L R := ⟨h.1, fun i x y hx hy => ⟨(h.2 i x y hx hy).1, (h.2 i x y hx hy).2.1.low hb, (h.2 i x y hx hy).2.2⟩⟩
theorem Bl.Cop.In {B : Nat} {w : World} {L R : List Bl} (h : Bl.Cop B w L R) : ∀ y ∈ R, y.In w := fun y hy => by
  obtain ⟨i, hi, rfl⟩ := List.mem_iff_getElem.1 hy
  have hi2 : i < L.length := by rw [← h.1]; exact hi
  exact (h.2 i _ _ (List.getElem?_eq_getElem hi2) (List.getElem?_eq_getElem hi)).In
set_option maxRecDepth 100000 in
set_option maxHeartbeats 1000000 in
/-- The document's CopyBallots. -/
theorem Bl.refcopy_any (L : List Bl) (a : Option Addr) (n k : Nat) (w : World) (h : SlY yBlA w a n k L) (hlogs : ∀ x ∈ L, x.In w ∧ x.s.D.length * 48 ≤ 140737488351232) (hm : n * 64 ≤ 140737488355328) :
    Calls Tryz.prog 73 #[.slice a n k] w fun e w' => ∃ v R, e = .returned v ∧ OwnY yBlA w.heap.size w' v R ∧ Bl.Cop w.heap.size w' L R ∧ Below w.heap.size w w' := by
  have hmx := h.max
  have hcp := h.cap
  have hln := h.len
  unfold maxLen at hmx
  have H := hide h
  have HN := hide hln
  have HLL := hide hlogs
  clear h hln hlogs
  have HP : Hid (∀ R w', Bl.Cop w.heap.size w' (L.take n) R → Bl.Cop w.heap.size w' L R) := fun R w' hc => by
    rw [List.take_of_length_le (by rw [HN.out]; exact Nat.le_refl _)] at hc
    exact hc
  go_enter Tryz.func73, Tryz.ntmps73
  go_wp2
  go_loopw [4, 3] (fun i v wr => ∃ (j : Nat) (v3 : Value) (R : List Bl), i = .int .i64 (j : Int) ∧ j ≤ n ∧ v = v3 ∧ Hid (OwnY yBlA w.heap.size wr v3 R) ∧ Hid (Bl.Cop w.heap.size wr (L.take j) R) ∧ Hid (Below w.heap.size w wr)) (fun i _ _ => n - (intOf i).toNat)
  case atStart => exact ⟨0, _, [], rfl, Nat.zero_le _, rfl, OwnY.nil _ _ _, ⟨rfl, fun i x y hx hy => by simp at hy⟩, Below.refl _ _⟩
  case round =>
    obtain ⟨j, v3, R, rfl, hj, hv3, hO, hC, hbl⟩ := hrel
    have hv3 := hv3.symm
    subst hv3
    by_cases hlt : j < n
    · have hjl : j < L.length := by rw [HN.out]; exact hlt
      have hg : L[j]? = some L[j] := List.getElem?_eq_getElem hjl
      obtain ⟨q, o, ea, hq, y0, y1, y2, y3, y4, y5⟩ := (H.out.later hbl.out).BlA hg
      cases ea
      have HX : Hid (L[j].In w ∧ L[j].s.D.length * 48 ≤ 140737488351232) := HLL.out _ (List.getElem_mem hjl)
      have hRl : Hid (R.length = j) := by show _ = _; rw [hC.out.1, List.length_take]; omega
      have HG : Hid (L[j]? = some L[j]) := hg
      clear hg
      generalize L[j] = x at *
      have zr := hbl.out.size
      have oz : OwnY yBlA wr.heap.size (wr.alloc (.cells #[.int .i64 0, .int .u64 0, .int .u64 0, .int .i64 0, .int .i64 0, .slice none 0 0] 53)) (.slice (some ⟨wr.heap.size, 0, none⟩) 1 1) [⟨0, 0, 0, 0, 0, ⟨none, 0, []⟩⟩] := own_box kBlA wr.heap.size wr ⟨0, 0, 0, 0, 0, ⟨none, 0, []⟩⟩ (Nat.le_refl _)
      have OZ := hide oz
      have hza : Hid ((wr.alloc (.cells #[.int .i64 0, .int .u64 0, .int .u64 0, .int .i64 0, .int .i64 0, .slice none 0 0] 53)).heap.size = wr.heap.size + 1) := by show _ = _; simp
      have BA : Hid (Below wr.heap.size wr (wr.alloc (.cells #[.int .i64 0, .int .u64 0, .int .u64 0, .int .i64 0, .int .i64 0, .slice none 0 0] 53))) := (Below.refl _ _).alloc (Nat.le_refl _) _
      clear oz
      go_wp2_with (refine storeY kBlA _ rfl 53 (.tmp 5) (.tmp 15) rfl wr.heap.size wr.heap.size 1 1 [⟨0, 0, 0, 0, 0, ⟨none, 0, []⟩⟩] 0 0 ⟨0, 0, 0, 0, 0, ⟨none, 0, []⟩⟩ x _ rfl rfl rfl (by kernel_rfl) (by exact (by decide : 6 ≤ 6)) rfl OZ.out ?za)
      intro w1 o1 u1 z1
      have O1 := hide o1
      have B1 := hide (BA.out.trans (u1.below (by rw [hza.out]; omega) (fun k e => by subst e; exact Nat.le_refl _)))
      have z1' : w1.heap.size = wr.heap.size + 1 := by first | exact z1 | exact z1.trans hza.out
      have Z1 := hide z1'
      clear o1 u1 z1 z1' y0 y1 y2 y3 y4 y5 OZ BA hza
      have t5 := O1.out.cell kBlA 0 _ rfl 5 _ rfl
      simp only [Nat.zero_mul, Nat.zero_add] at t5
      have CC := hide (refcopy6_any x.s.D x.s.a x.s.D.length x.s.c w1 (HX.out.1.later (hbl.out.trans (B1.out.mono zr))).1 (by have := HX.out.2; omega))
      go_wp2_with fail
      refine CC.out.mono ?_
      rintro e w2 ⟨v2, rfl, o2, b2⟩
      obtain ⟨a2, c2, rfl, s2, _⟩ := o2.sl kE
      have O2 := hide o2
      have B2 := hide (B1.out.trans (b2.mono (by have := Z1.out; omega)))
      have OB2 := hide (O1.out.grow b2)
      have z2 := b2.size
      have Z2 : Hid (wr.heap.size + 1 ≤ w2.heap.size) := by show _ ≤ _; rw [← Z1.out]; exact z2
      clear CC o2 b2 s2 z2 t5
      dsimp only
      go_wp2_with (refine storeY kBlA _ rfl 51 (.tmp 19) (.tmp 18) rfl wr.heap.size wr.heap.size 1 1 [x] 0 5 x { x with s := ⟨a2, c2, x.s.D⟩ } _ rfl rfl rfl (by kernel_rfl) (by exact (by decide : 6 ≤ 6)) rfl OB2.out ?zb)
      intro w3 o3 u3 z3
      have O3 := hide o3
      have hlogB : Hid (OwnY yE w1.heap.size w3 (.slice a2 x.s.D.length c2) x.s.D) := O2.out.upd1 u3 (fun k e hk => by have := (O2.out.blk k e).1; have h2 : k = wr.heap.size := hk; have h3 := Z1.out; omega)
      have B3 := hide (B2.out.trans (u3.below (by have := Z2.out; omega) (fun k e => by subst e; exact Nat.le_refl _)))
      have Z3 : Hid (wr.heap.size + 1 ≤ w3.heap.size) := by show _ ≤ _; rw [z3]; exact Z2.out
      clear o3 u3 z3 O2 OB2
      have v0 := O3.out.cell kBlA 0 _ rfl 0 _ rfl
      have v1 := O3.out.cell kBlA 0 _ rfl 1 _ rfl
      have v2 := O3.out.cell kBlA 0 _ rfl 2 _ rfl
      have v3' := O3.out.cell kBlA 0 _ rfl 3 _ rfl
      have v4 := O3.out.cell kBlA 0 _ rfl 4 _ rfl
      have v5 := O3.out.cell kBlA 0 _ rfl 5 _ rfl
      simp only [Nat.zero_mul, Nat.zero_add] at v0 v1 v2 v3' v4 v5
      have OR3 := hide (hO.out.grow B3.out)
      have SB : Hid (SlY yBlA (w3.alloc (.cells #[.int .i64 x.n, .int .u64 x.h, .int .u64 x.l, .int .i64 x.v, .int .i64 x.c, .slice a2 x.s.D.length c2] 53)) (some ⟨w3.heap.size, 0, none⟩) 1 1 [{ x with s := ⟨a2, c2, x.s.D⟩ }]) := sl_box (Y := yBlA) w3 ({ x with s := ⟨a2, c2, x.s.D⟩ } : Bl) 53
      have BB : Hid (Below wr.heap.size wr (w3.alloc (.cells #[.int .i64 x.n, .int .u64 x.h, .int .u64 x.l, .int .i64 x.v, .int .i64 x.c, .slice a2 x.s.D.length c2] 53))) := B3.out.alloc (by have := Z3.out; omega) _
      have OR4 := hide (OR3.out.alloc (.cells #[.int .i64 x.n, .int .u64 x.h, .int .u64 x.l, .int .i64 x.v, .int .i64 x.c, .slice a2 x.s.D.length c2] 53))
      have OL4 := hide (hlogB.out.alloc (.cells #[.int .i64 x.n, .int .u64 x.h, .int .u64 x.l, .int .i64 x.v, .int .i64 x.c, .slice a2 x.s.D.length c2] 53))
      have D4 := hide (hbl.out.trans (BB.out.mono zr))
      have C4 := hide (hC.out.bel BB.out)
      have z4 : w.heap.size ≤ (w3.alloc (.cells #[.int .i64 x.n, .int .u64 x.h, .int .u64 x.l, .int .i64 x.v, .int .i64 x.c, .slice a2 x.s.D.length c2] 53)).heap.size := D4.out.size
      have z5 : Hid (w.heap.size ≤ w1.heap.size) := by show _ ≤ _; rw [Z1.out]; omega
      clear OR3 hlogB hO hC B3 B2 B1 BB
      go_upto_region 7 with fail
      go_wp2_with (at_builtin; go_must (refine appY kBlA _ rfl (.tmp 20) (.tmp 22) rfl w.heap.size R _ rfl (some ⟨w3.heap.size, 0, none⟩) 1 1 rfl [{ x with s := ⟨a2, c2, x.s.D⟩ }] SB.out OR4.out z4 (by rw [hRl.out]; unfold maxLen; omega) (by show (_ + 1) * 64 ≤ _; rw [hRl.out]; omega) ?_))
      intro v' w6 o6 g6 e6
      have D6 := hide (OR4.out.grown D4.out g6 z4)
      have C6 : Hid (Bl.Cop w.heap.size w6 (L.take (j + 1)) (R ++ [{ x with s := ⟨a2, c2, x.s.D⟩ }])) := (C4.out.grown OR4.out g6).snoc HG.out ⟨⟨rfl, rfl, rfl, rfl, rfl, rfl⟩, (OL4.out.grownZ OR4.out hTEBl g6).low z5.out, by show x.s.D.length * 48 ≤ _; have := HX.out.2; omega⟩
      have O6 := hide o6
      clear o6 g6 e6 SB OR4 OL4 C4 D4 z4 v0 v1 v2 v3' v4 v5
      go_wp2
      go_round
      case rel => exact ⟨j + 1, v', _, by go_num, by omega, rfl, O6, C6, D6⟩
      case measure => first | (simp [intOf]; done) | (simp [intOf]; omega)
    · obtain rfl : j = n := by omega
      have X9 := hide (HP.out _ _ hC.out)
      clear hC HP
      go_wp2
      go_ret
      first | exact ⟨_, rfl, R, hO.out, X9.out, hbl.out⟩ | exact ⟨_, R, rfl, hO.out, X9.out, hbl.out⟩

/-- CopyBallots of a list of one's own. -/
theorem Bl.refcopy_own {B : Nat} (P : List Bl) (v : Value) (w0 w : World) (o : OwnY yBlA B w v P) (hb : Below w0.heap.size w0 w) (hlogs : ∀ x ∈ P, x.In w0 ∧ x.s.D.length * 48 ≤ 140737488351232) (hm : P.length * 64 ≤ 140737488355328) :
    Calls Tryz.prog 73 #[v] w fun e w' => ∃ v R, e = .returned v ∧ OwnY yBlA w0.heap.size w' v R ∧ Bl.Cop w0.heap.size w' P R ∧ Below w0.heap.size w0 w' := by
  obtain ⟨a, c, rfl, s, _⟩ := o.sl kBlA
  refine (Bl.refcopy_any P a _ c w s (fun x hx => ⟨(hlogs x hx).1.later hb, (hlogs x hx).2⟩) hm).mono ?_
  rintro e w' ⟨v, R, rfl, h1, h2, h3⟩
  exact ⟨v, R, rfl, h1.low hb.size, h2.low hb.size, hb.trans (h3.mono hb.size)⟩

end Go.Proofs.YtcmjhaljbmhpgaaGreat
