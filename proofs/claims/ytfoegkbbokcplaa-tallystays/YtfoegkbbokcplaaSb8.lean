import Derived.Test.YtfoegkbbokcplaaSb7
import Derived.Test.YtfoegkbbokcplaaSc
import Derived.Deep.RegionHeld3
namespace Go.Proofs.Ytfoegkbbokcplaa
open Go.RowKit Go.Maps
set_option linter.unusedVariables false
set_option linter.unusedSimpArgs false

/-- The vote with its log in another block. -/
def Bl.re (x : Bl) (g : Nat) : Bl := { x with s := ⟨some ⟨g, 0, none⟩, x.s.D.length, x.s.D⟩ }
/-- The vote's log lies in memory. -/
def Bl.In (w : World) (x : Bl) : Prop := SlY yE w x.s.a x.s.D.length x.s.c x.s.D ∧ x.s.D.length * 48 ≤ 281474976710656
theorem Bl.In.later {w w' : World} {x : Bl} (h : x.In w) (hb : Below w.heap.size w w') : x.In w' := ⟨h.1.later hb, h.2⟩
theorem Bl.In.bel {w w' : World} {x : Bl} {B : Nat} (h : x.In w) (hb : Below B w w') (hB : w.heap.size ≤ B) : x.In w' := ⟨h.1.bel hb hB, h.2⟩
/-- y is x, with a log of its own. -/
def Bl.Told (B : Nat) (w : World) (x y : Bl) : Prop := x.s.D.length * 48 ≤ 281474976710656 ∧ ∃ g, y = x.re g ∧ OwnY yE B w (.slice (some ⟨g, 0, none⟩) x.s.D.length x.s.D.length) x.s.D
theorem Bl.Told.bel {B : Nat} {w w' : World} {x y : Bl} (h : Bl.Told B w x y) (hb : Below w.heap.size w w') : Bl.Told B w' x y := by
  obtain ⟨h0, g, e, o⟩ := h
  exact ⟨h0, g, e, o.grow hb⟩
theorem Bl.Told.low {B B' : Nat} {w : World} {x y : Bl} (h : Bl.Told B w x y) (hb : B' ≤ B) : Bl.Told B' w x y := by
  obtain ⟨h0, g, e, o⟩ := h
  exact ⟨h0, g, e, o.low hb⟩
theorem Bl.Told.In {B : Nat} {w : World} {x y : Bl} (h : Bl.Told B w x y) : y.In w := by
  obtain ⟨h0, g, rfl, o⟩ := h
  exact ⟨o.sl' kE, h0⟩
theorem Bl.Told.D {B : Nat} {w : World} {x y : Bl} (h : Bl.Told B w x y) : y.s.D = x.s.D ∧ y.n = x.n ∧ y.h = x.h ∧ y.l = x.l ∧ y.v = x.v ∧ y.c = x.c := by
  obtain ⟨h0, g, rfl, o⟩ := h
  exact ⟨rfl, rfl, rfl, rfl, rfl, rfl⟩
/-- The same of lists. -/
def Bl.Tolds (B : Nat) (w : World) (L R : List Bl) : Prop := R.length = L.length ∧ ∀ (i : Nat) (x y : Bl), L[i]? = some x → R[i]? = some y → Bl.Told B w x y
theorem Bl.Tolds.bel {B : Nat} {w w' : World} {L R : List Bl} (h : Bl.Tolds B w L R) (hb : Below w.heap.size w w') : Bl.Tolds B w' L R := ⟨h.1, fun i x y hx hy => (h.2 i x y hx hy).bel hb⟩
theorem Bl.Tolds.low {B B' : Nat} {w : World} {L R : List Bl} (h : Bl.Tolds B w L R) (hb : B' ≤ B) : Bl.Tolds B' w L R := ⟨h.1, fun i x y hx hy => (h.2 i x y hx hy).low hb⟩
theorem hTEBl : yE.T ≠ yBlA.T := by decide
set_option maxRecDepth 100000 in
set_option maxHeartbeats 1000000 in
theorem Bl.told_any (x : Bl) (w : World) (h : x.In w) : Calls Try.prog 16 #[x.val] w fun e w' => e = .returned (x.re (w.heap.size + 2)).val ∧ OwnY yE (w.heap.size + 2) w' (.slice (some ⟨w.heap.size + 2, 0, none⟩) x.s.D.length x.s.D.length) x.s.D ∧ Below w.heap.size w w' := by
  obtain ⟨h, hd⟩ := h
  obtain ⟨xn, xh, xl, xv, xc, ⟨xa, xp, xD⟩⟩ := x
  dsimp only at h hd
  have wz := hide (show ((w.alloc (.cells #[.int .i64 xn, .int .u64 xh, .int .u64 xl, .int .i64 xv, .int .i64 xc, .slice xa xD.length xp] 40)).alloc (.cells #[.int .i64 0, .int .u64 0, .int .u64 0, .int .i64 0, .int .i64 0, .slice none 0 0] 30)).heap.size = w.heap.size + 2 by simp)
  have b1 : Below w.heap.size w ((w.alloc (.cells #[.int .i64 xn, .int .u64 xh, .int .u64 xl, .int .i64 xv, .int .i64 xc, .slice xa xD.length xp] 40)).alloc (.cells #[.int .i64 0, .int .u64 0, .int .u64 0, .int .i64 0, .int .i64 0, .slice none 0 0] 30)) := ((Below.refl _ w).alloc (Nat.le_refl _) _).alloc (by simp) _
  have cc := copied_any xD xa xD.length xp _ (h.later b1) hd
  rw [wz.out] at cc
  have CC := hide cc
  have B1 := hide b1
  clear cc b1 h
  show Calls Try.prog 16 #[.agg #[.int .i64 xn, .int .u64 xh, .int .u64 xl, .int .i64 xv, .int .i64 xc, .slice xa xD.length xp]] w fun e w' => e = .returned (.agg #[.int .i64 xn, .int .u64 xh, .int .u64 xl, .int .i64 xv, .int .i64 xc, .slice (some ⟨w.heap.size + 2, 0, none⟩) xD.length xD.length]) ∧ OwnY yE (w.heap.size + 2) w' (.slice (some ⟨w.heap.size + 2, 0, none⟩) xD.length xD.length) xD ∧ Below w.heap.size w w'
  go_enter Try.func16, Try.ntmps16
  go_wp2_with fail
  refine CC.out.mono ?_
  rintro e w1 ⟨rfl, o1, b1⟩
  have ox : OwnY yBlV w.heap.size w1 (.slice (some ⟨w.heap.size, 0, none⟩) 1 1) [⟨xn, xh, xl, xv, xc, ⟨xa, xp, xD⟩⟩] :=
    (((own_box kBlV w.heap.size w ⟨xn, xh, xl, xv, xc, ⟨xa, xp, xD⟩⟩ (Nat.le_refl _)).alloc _).upd1 (Upd.of_below (by rw [← wz.out] at b1; exact b1)) (fun _ _ => id))
  have oz : OwnY yBlA w.heap.size w1 (.slice (some ⟨w.heap.size + 1, 0, none⟩) 1 1) [⟨0, 0, 0, 0, 0, ⟨none, 0, []⟩⟩] := by
    have := (own_box kBlA w.heap.size (w.alloc (.cells #[.int .i64 xn, .int .u64 xh, .int .u64 xl, .int .i64 xv, .int .i64 xc, .slice xa xD.length xp] 40)) ⟨0, 0, 0, 0, 0, ⟨none, 0, []⟩⟩ (by simp)).upd1 (Upd.of_below (by rw [← wz.out] at b1; exact b1)) (fun _ _ => id)
    rw [World.size_alloc] at this
    exact this
  have z1 : w.heap.size + 2 ≤ w1.heap.size := by have := b1.size; rwa [wz.out] at this
  have O1 := hide o1
  have B2 := hide (B1.out.trans (b1.mono (by omega)))
  have OX := hide ox
  have OZ := hide oz
  clear o1 b1 ox oz CC B1 wz
  dsimp only
  go_wp2_with (refine storeY kBlV _ rfl 28 (.tmp 6) (.tmp 5) rfl w.heap.size w.heap.size 1 1 [⟨xn, xh, xl, xv, xc, ⟨xa, xp, xD⟩⟩] 0 5 ⟨xn, xh, xl, xv, xc, ⟨xa, xp, xD⟩⟩ ⟨xn, xh, xl, xv, xc, ⟨some ⟨w.heap.size + 2, 0, none⟩, xD.length, xD⟩⟩ _ rfl rfl rfl (by kernel_rfl) (by exact (by decide : 6 ≤ 6)) rfl OX.out ?zk)
  intro w2 o2 u2 z2
  have y0 := o2.cell kBlV 0 _ rfl 0 _ rfl
  have y1 := o2.cell kBlV 0 _ rfl 1 _ rfl
  have y2 := o2.cell kBlV 0 _ rfl 2 _ rfl
  have y3 := o2.cell kBlV 0 _ rfl 3 _ rfl
  have y4 := o2.cell kBlV 0 _ rfl 4 _ rfl
  have y5 := o2.cell kBlV 0 _ rfl 5 _ rfl
  simp only [Nat.zero_mul, Nat.zero_add] at y0 y1 y2 y3 y4 y5
  have OZ2 := hide (OZ.out.upd1 u2 (fun g e => by cases e; show ¬ (w.heap.size + 1 = w.heap.size); omega))
  have U2 := hide u2
  clear o2 u2
  go_wp2_with (refine storeY kBlA _ rfl 30 (.tmp 2) (.tmp 7) rfl w.heap.size (w.heap.size + 1) 1 1 [⟨0, 0, 0, 0, 0, ⟨none, 0, []⟩⟩] 0 0 ⟨0, 0, 0, 0, 0, ⟨none, 0, []⟩⟩ ⟨xn, xh, xl, xv, xc, ⟨some ⟨w.heap.size + 2, 0, none⟩, xD.length, xD⟩⟩ _ rfl rfl rfl (by kernel_rfl) (by exact (by decide : 6 ≤ 6)) rfl OZ2.out ?zl)
  intro w3 o3 u3 z3
  have OZ3 := hide o3
  have U3 := hide u3
  clear o3 u3
  go_wp2
  have v0 := OZ3.out.cell kBlA 0 _ rfl 0 _ rfl
  have v1 := OZ3.out.cell kBlA 0 _ rfl 1 _ rfl
  have v2 := OZ3.out.cell kBlA 0 _ rfl 2 _ rfl
  have v3 := OZ3.out.cell kBlA 0 _ rfl 3 _ rfl
  have v4 := OZ3.out.cell kBlA 0 _ rfl 4 _ rfl
  have v5 := OZ3.out.cell kBlA 0 _ rfl 5 _ rfl
  simp only [Nat.zero_mul, Nat.zero_add] at v0 v1 v2 v3 v4 v5
  refine bodyPost_ret (v := .agg #[.int .i64 xn, .int .u64 xh, .int .u64 xl, .int .i64 xv, .int .i64 xc, .slice (some ⟨w.heap.size + 2, 0, none⟩) xD.length xD.length]) (by simp [results, Try.results16, go_sem, v0, v1, v2, v3, v4, v5]) rfl ?_
  refine ⟨rfl, (O1.out.upd1 U2.out (fun g e => by cases e; show ¬ (w.heap.size + 2 = w.heap.size); omega)).upd1 U3.out (fun g e => by cases e; show ¬ (w.heap.size + 2 = w.heap.size + 1); omega), (B2.out.trans (U2.out.below (by omega) (fun k e => by subst e; exact Nat.le_refl _))).trans (U3.out.below (by omega) (fun k e => by subst e; omega))⟩
/-- One more is told: its log in a block of its own, the row's block changed. -/
theorem Bl.Tolds.snoc {B g : Nat} {w w2 w3 : World} {L R : List Bl} {j : Nat} {x : Bl} {q : Nat} (h : Bl.Tolds B w (L.take j) R) (hj : L[j]? = some x) (hB : B ≤ q) (hb : Below w.heap.size w w2) (hd : x.s.D.length * 48 ≤ 281474976710656) (ho : OwnY yE q w2 (.slice (some ⟨q, 0, none⟩) x.s.D.length x.s.D.length) x.s.D) (u : Upd (· = g) w2 w3) (hr : ∃ cs f, w2.heap[g]? = some (.cells cs yBlA.T f)) : Bl.Tolds B w3 (L.take (j + 1)) (R ++ [x.re q]) := by
  have hjl := (List.getElem?_eq_some_iff.1 hj).1
  have keep : ∀ {B' g' n c : Nat} {l : List En}, OwnY yE B' w2 (.slice (some ⟨g', 0, none⟩) n c) l → OwnY yE B' w3 (.slice (some ⟨g', 0, none⟩) n c) l := fun {B' g' n c l} ho' => ho'.upd1 u (fun k e hk => by
    subst hk
    obtain ⟨c1, f1, e1⟩ := ho'.kind e
    obtain ⟨c2, f2, e2⟩ := hr
    rw [e1] at e2
    injection e2 with e2
    injection e2 with _ e3
    exact hTEBl e3)
  have ht : (L.take j).length = j := by rw [List.length_take]; omega
  refine ⟨by rw [List.length_append, h.1, ht, List.length_take, List.length_singleton]; omega, fun i y z hy hz => ?_⟩
  rw [List.take_add_one, hj] at hy
  by_cases hi : i < j
  · rw [List.getElem?_append_left (by omega)] at hy
    rw [List.getElem?_append_left (by rw [h.1]; omega)] at hz
    obtain ⟨h0, g', e, o⟩ := h.2 i y z hy hz
    exact ⟨h0, g', e, keep (o.grow hb)⟩
  · rw [List.getElem?_append_right (by omega)] at hy
    rw [List.getElem?_append_right (by rw [h.1]; omega)] at hz
    rw [ht] at hy
    rw [h.1, ht] at hz
    have hi0 : i - j = 0 := by
      have := (List.getElem?_eq_some_iff.1 hz).1
      simp at this
      omega
    rw [hi0] at hy hz
    simp at hy hz
    subst hy hz
    exact ⟨hd, q, rfl, (keep ho).low hB⟩
set_option maxRecDepth 100000 in
set_option maxHeartbeats 1000000 in
/-- tell: votes as callers have them, each with a log of its own. -/
theorem Bl.tell_any (L : List Bl) (a : Option Addr) (n c : Nat) (w : World) (h : SlY yBlV w a n c L) (hb : n * 64 ≤ 281474976710656) (hlogs : ∀ x ∈ L, x.In w) :
    Calls Try.prog 14 #[.slice a n c, .func (.func 16) #[] #[]] w fun e w' => e = .returned (.slice (some ⟨w.heap.size, 0, none⟩) n n) ∧ (∃ R, OwnY yBlA w.heap.size w' (.slice (some ⟨w.heap.size, 0, none⟩) n n) R ∧ Bl.Tolds w.heap.size w' L R) ∧ Below w.heap.size w w' := by
  have hmx := h.max
  have hcp := h.cap
  have hln := h.len
  unfold maxLen at hmx
  have H := hide h
  have HN := hide hln
  have HX := hide hlogs
  clear h hln hlogs
  go_enter Try.func14, Try.ntmps14
  go_wp2_with (at_make; go_must (refine makeYs kBlA _ rfl (.tmp 9) rfl n rfl (by unfold maxLen; omega) hb ?zk))
  intro w1 o1 b1
  have HO : Hid (∃ R, OwnY yBlA w.heap.size w1 (.slice (some ⟨w.heap.size, 0, none⟩) n n) (R ++ List.replicate (n - 0) yBlA.z) ∧ Bl.Tolds w.heap.size w1 (L.take 0) R) := ⟨[], by simpa using o1, rfl, fun i x y hx hy => by simp at hy⟩
  clear o1
  go_wp2
  go_loopw [13] (fun i wr => ∃ j : Nat, i = .int .i64 (j : Int) ∧ j ≤ n ∧ Hid (∃ R, OwnY yBlA w.heap.size wr (.slice (some ⟨w.heap.size, 0, none⟩) n n) (R ++ List.replicate (n - j) yBlA.z) ∧ Bl.Tolds w.heap.size wr (L.take j) R) ∧ Below w.heap.size w wr) (fun i _ => n - (intOf i).toNat)
  case atStart => exact ⟨0, rfl, Nat.zero_le _, HO, b1⟩
  case round =>
    obtain ⟨j, rfl, hj, hO, hbl⟩ := hrel
    have hsz := hbl.size
    obtain ⟨R, oR, tR⟩ := hO.out
    clear hO
    by_cases hlt : j < n
    · have hjl : j < L.length := by rw [HN.out]; exact hlt
      have hg : L[j]? = some L[j] := List.getElem?_eq_getElem hjl
      obtain ⟨q, o, rfl, hq, y0, y1, y2, y3, y4, y5⟩ := (H.out.later hbl).BlV hg
      have hlt0 : w.heap.size < wr.heap.size := by
        obtain ⟨_, _, ee, _, _, _, h4⟩ := oR.form
        injection ee with ee
        obtain ⟨g', e2, _, h5⟩ := h4 _ ee.symm
        cases e2
        exact h5
      have hRl : R.length = j := by rw [tR.1, List.length_take]; omega
      have hset : Hid (∀ y, (R ++ List.replicate (n - j) yBlA.z).set j y = (R ++ [y]) ++ List.replicate (n - (j + 1)) yBlA.z) := fun y => by
        rw [List.set_append_right _ _ (by omega), hRl, Nat.sub_self, show n - j = (n - (j + 1)) + 1 by omega, List.replicate_succ, List.set_cons_zero, List.append_assoc, List.singleton_append]
      have hget : Hid ((R ++ List.replicate (n - j) yBlA.z)[j]? = some yBlA.z) := by
        show _ = _
        rw [List.getElem?_append_right (by omega), hRl, Nat.sub_self, show n - j = (n - (j + 1)) + 1 by omega, List.replicate_succ]
        rfl
      have HIN := (HX.out _ (List.getElem_mem hjl)).later hbl
      have HG := hide hg
      clear hg hRl
      generalize L[j] = x at *
      generalize hX : R ++ List.replicate (n - j) yBlA.z = XX at *
      clear hX
      have wz : Hid ((wr.alloc (.cells #[.int .i64 x.n, .int .u64 x.h, .int .u64 x.l, .int .i64 x.v, .int .i64 x.c, .slice x.s.a x.s.D.length x.s.c] 40)).heap.size = wr.heap.size + 1) := by show _ = _; simp
      have bw : Below wr.heap.size wr (wr.alloc (.cells #[.int .i64 x.n, .int .u64 x.h, .int .u64 x.l, .int .i64 x.v, .int .i64 x.c, .slice x.s.a x.s.D.length x.s.c] 40)) := (Below.refl _ wr).alloc (Nat.le_refl _) _
      have bA := hide (hbl.trans (bw.mono hsz))
      have BW := hide bw
      have OA := hide (oR.alloc (.cells #[.int .i64 x.n, .int .u64 x.h, .int .u64 x.l, .int .i64 x.v, .int .i64 x.c, .slice x.s.a x.s.D.length x.s.c] 40))
      have ca := x.told_any _ (HIN.later bw)
      rw [wz.out] at ca
      have CA := hide ca
      have HD := hide HIN.2
      have TR := hide tR
      clear ca oR tR HIN bw
      go_wp2_with fail
      refine CA.out.mono ?_
      rintro e w2 ⟨rfl, o2, b2⟩
      have OE := hide o2
      have b2' := b2
      rw [← wz.out] at b2'
      have O2 := hide (OA.out.grow b2')
      have hk2 := hide (O2.out.kind (g := w.heap.size) rfl)
      have z2 := b2.size
      rw [wz.out] at z2
      have bw2 := hide (BW.out.trans (b2.mono (by omega)))
      clear o2 b2'
      dsimp only
      go_wp2_with (first
        | (refine storeY kBlA _ rfl 30 (.tmp 23) (.tmp 22) rfl w.heap.size w.heap.size n n XX j 0 yBlA.z (x.re (wr.heap.size + 1 + 2)) _ rfl rfl hget.out (by kernel_rfl) (by exact (by decide : 6 ≤ 6)) rfl O2.out ?_; intro w3 o3 u3 z3; have O3 := hide o3; have U3 := hide u3; clear o3 u3)
        | go_in)
      go_round
      case rel =>
        refine ⟨j + 1, by go_num, by omega, ⟨R ++ [x.re (wr.heap.size + 1 + 2)], by rw [← hset.out]; exact O3.out, TR.out.snoc HG.out (by omega) bw2.out HD.out OE.out U3.out hk2.out⟩, hbl.trans ((bw2.out.mono hsz).trans (U3.out.below (by omega) (fun k e => by subst e; exact Nat.le_refl _)))⟩
      case measure => simp [intOf]; omega
    · obtain rfl : j = n := by omega
      have O9 : Hid (∃ R, OwnY yBlA w.heap.size wr (.slice (some ⟨w.heap.size, 0, none⟩) j j) R ∧ Bl.Tolds w.heap.size wr L R) := by
        refine ⟨R, ?_, ?_⟩
        · rw [Nat.sub_self, List.replicate_zero, List.append_nil] at oR
          exact oR
        · rw [List.take_of_length_le (by rw [HN.out]; exact Nat.le_refl _)] at tR
          exact tR
      clear oR tR
      go_wp2
      go_ret
      exact ⟨rfl, O9.out, hbl⟩

end Go.Proofs.Ytfoegkbbokcplaa
