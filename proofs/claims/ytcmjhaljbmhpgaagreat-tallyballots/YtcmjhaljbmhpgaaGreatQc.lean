import Derived.Test.YtcmjhaljbmhpgaaGreatGSb
import Derived.Deep.CutRange
namespace Go.Proofs.YtcmjhaljbmhpgaaGreat
open Go.RowKit Go.Maps
open Classical
set_option linter.unusedVariables false
set_option linter.unusedSimpArgs false

/-- Does y take the place of the best so far? -/
def Bl.cho (x y : Bl) : Bool := decide (0 < orI [Bl.cb y x, cmpI x.n y.n])
/-- The best of one and more. -/
def bestB (x : Bl) : List Bl → Bl
  | [] => x
  | y :: r => bestB (if Bl.cho x y = true then y else x) r
/-- The greatest commit number. -/
def comB (m : Int) : List Bl → Int
  | [] => m
  | y :: r => comB (if m < y.c then y.c else m) r
/-- What is chosen. -/
def chs (o : Bl) (L : List Bl) : Bl := { bestB o L with c := max 0 (min (comB o.c L) ((bestB o L).s.D.length : Int)) }
theorem bestB_drop {x : Bl} {L : List Bl} {j : Nat} (h : j < L.length) : bestB x (L.drop j) = bestB (if Bl.cho x L[j] = true then L[j] else x) (L.drop (j + 1)) := by
  rw [List.drop_eq_getElem_cons h, bestB]
theorem comB_drop {m : Int} {L : List Bl} {j : Nat} (h : j < L.length) : comB m (L.drop j) = comB (if m < L[j].c then L[j].c else m) (L.drop (j + 1)) := by
  rw [List.drop_eq_getElem_cons h, comB]
/-- A vote in a block of its own, by its cells. -/
def Bl.Bx (w : World) (g : Nat) (x : Bl) : Prop := w.cell? ⟨g, 0, none⟩ = some (.int .i64 x.n) ∧ w.cell? ⟨g, 1, none⟩ = some (.int .u64 x.h) ∧ w.cell? ⟨g, 2, none⟩ = some (.int .u64 x.l) ∧ w.cell? ⟨g, 3, none⟩ = some (.int .i64 x.v) ∧ w.cell? ⟨g, 4, none⟩ = some (.int .i64 x.c) ∧ w.cell? ⟨g, 5, none⟩ = some (.slice x.s.a x.s.D.length x.s.c) ∧ w.frozen? ⟨g, 0, none⟩ = false ∧ w.frozen? ⟨g, 1, none⟩ = false ∧ w.frozen? ⟨g, 2, none⟩ = false ∧ w.frozen? ⟨g, 3, none⟩ = false ∧ w.frozen? ⟨g, 4, none⟩ = false ∧ w.frozen? ⟨g, 5, none⟩ = false
theorem Bl.Bx.new (w : World) (x : Bl) (T : TypeId) : Bl.Bx (w.alloc (.cells #[.int .i64 x.n, .int .u64 x.h, .int .u64 x.l, .int .i64 x.v, .int .i64 x.c, .slice x.s.a x.s.D.length x.s.c] T)) w.heap.size x := by
  unfold Bl.Bx
  refine ⟨?_, ?_, ?_, ?_, ?_, ?_, ?_, ?_, ?_, ?_, ?_, ?_⟩ <;> simp
theorem Bl.Bx.set {w : World} {g : Nat} {y : Bl} (x : Bl) (h : Bl.Bx w g y) : Bl.Bx ((((((w.setCell ⟨g, 0, none⟩ (.int .i64 x.n)).setCell ⟨g, 1, none⟩ (.int .u64 x.h)).setCell ⟨g, 2, none⟩ (.int .u64 x.l)).setCell ⟨g, 3, none⟩ (.int .i64 x.v)).setCell ⟨g, 4, none⟩ (.int .i64 x.c)).setCell ⟨g, 5, none⟩ (.slice x.s.a x.s.D.length x.s.c)) g x := by
  obtain ⟨h0, h1, h2, h3, h4, h5, h6, h7, h8, h9, ha, hb⟩ := h
  unfold Bl.Bx
  refine ⟨?_, ?_, ?_, ?_, ?_, ?_, ?_, ?_, ?_, ?_, ?_, ?_⟩ <;> go_simp
theorem Bl.Bx.bel {w w' : World} {g B : Nat} {x : Bl} (h : Bl.Bx w g x) (hb : Below B w w') (hg : g < B) : Bl.Bx w' g x := by
  obtain ⟨h0, h1, h2, h3, h4, h5, h6, h7, h8, h9, ha, hbb⟩ := h
  exact ⟨(hb.cell (p := ⟨g, 0, none⟩) hg).trans h0, (hb.cell (p := ⟨g, 1, none⟩) hg).trans h1, (hb.cell (p := ⟨g, 2, none⟩) hg).trans h2, (hb.cell (p := ⟨g, 3, none⟩) hg).trans h3, (hb.cell (p := ⟨g, 4, none⟩) hg).trans h4, (hb.cell (p := ⟨g, 5, none⟩) hg).trans h5, (hb.frozen (p := ⟨g, 0, none⟩) hg).trans h6, (hb.frozen (p := ⟨g, 1, none⟩) hg).trans h7, (hb.frozen (p := ⟨g, 2, none⟩) hg).trans h8, (hb.frozen (p := ⟨g, 3, none⟩) hg).trans h9, (hb.frozen (p := ⟨g, 4, none⟩) hg).trans ha, (hb.frozen (p := ⟨g, 5, none⟩) hg).trans hbb⟩
theorem Bl.Bx.lt {w : World} {g : Nat} {x : Bl} (h : Bl.Bx w g x) : g < w.heap.size := World.block_lt_of_cell? w _ h.1
theorem below_set6 {B g : Nat} {w0 w : World} (h : Below B w0 w) (hg : B ≤ g) (u0 u1 u2 u3 u4 u5 : Value) : Below B w0 ((((((w.setCell ⟨g, 0, none⟩ u0).setCell ⟨g, 1, none⟩ u1).setCell ⟨g, 2, none⟩ u2).setCell ⟨g, 3, none⟩ u3).setCell ⟨g, 4, none⟩ u4).setCell ⟨g, 5, none⟩ u5) :=
  (((((h.setCell hg _).setCell hg _).setCell hg _).setCell hg _).setCell hg _).setCell hg _
def ChsOut (B : Nat) (o : Option Bl) (e : Ending) (w : World) : Prop := match o with
  | none => e = .returned (.tuple #[(⟨0, 0, 0, 0, 0, ⟨none, 0, []⟩⟩ : Bl).val, .int .i64 81])
  | some x => ∃ y, e = .returned (.tuple #[y.val, .int .i64 0]) ∧ Bl.Told B w x y
set_option maxRecDepth 100000 in
set_option maxHeartbeats 3000000 in
theorem choose_any (f : Int) (x0 : Bl) (L : List Bl) (a : Option Addr) (n c : Nat) (w : World) (h : SlY yBlA w a n c L) (hlogs : ∀ x ∈ L, x.In w) (h0 : x0.In w) :
    Calls Tryz.prog 29 #[.int .i64 f, x0.val, .slice a n c] w fun e w' => ChsOut w.heap.size (if (n : Int) < f then none else some (chs x0 L)) e w' ∧ Below w.heap.size w w' := by
  have hmx := h.max
  have hcp := h.cap
  have hln := h.len
  unfold maxLen at hmx
  have H := hide h
  have HN := hide hln
  have HX := hide hlogs
  have H0 := hide h0
  clear h hln hlogs h0
  have b0 : Below w.heap.size w ((w.alloc (.cells #[.int .i64 x0.n, .int .u64 x0.h, .int .u64 x0.l, .int .i64 x0.v, .int .i64 x0.c, .slice x0.s.a x0.s.D.length x0.s.c] 53)).alloc (.cells #[.int .i64 0, .int .u64 0, .int .u64 0, .int .i64 0, .int .i64 0, .slice none 0 0] 53)) := ((Below.refl _ w).alloc (Nat.le_refl _) _).alloc (by simp) _
  have B0 := hide b0
  clear b0
  show Calls Tryz.prog 29 #[.int .i64 f, .agg #[.int .i64 x0.n, .int .u64 x0.h, .int .u64 x0.l, .int .i64 x0.v, .int .i64 x0.c, .slice x0.s.a x0.s.D.length x0.s.c], .slice a n c] w _
  by_cases h1 : (n : Int) < f
  · rw [if_pos h1]
    go_enter Tryz.func29, Tryz.ntmps29
    go_wp2
    refine bodyPost_ret (v := .tuple #[(⟨0, 0, 0, 0, 0, ⟨none, 0, []⟩⟩ : Bl).val, .int .i64 81]) (by simp [results, Tryz.results29, go_sem, Bl.val]) rfl ?_
    exact ⟨rfl, by repeat (first | exact B0.out | refine Below.setCell ?_ (by simp) _)⟩
  rw [if_neg h1]
  have KH : Hid (∀ v, Below (w.heap.size + 2) ((w.alloc (.cells #[.int .i64 x0.n, .int .u64 x0.h, .int .u64 x0.l, .int .i64 x0.v, .int .i64 x0.c, .slice x0.s.a x0.s.D.length x0.s.c] 53)).alloc (.cells #[.int .i64 0, .int .u64 0, .int .u64 0, .int .i64 0, .int .i64 0, .slice none 0 0] 53)) v → (v.cell? ⟨w.heap.size, 0, none⟩ = some (.int .i64 x0.n) ∧ v.cell? ⟨w.heap.size, 1, none⟩ = some (.int .u64 x0.h) ∧ v.cell? ⟨w.heap.size, 2, none⟩ = some (.int .u64 x0.l) ∧ v.cell? ⟨w.heap.size, 3, none⟩ = some (.int .i64 x0.v) ∧ v.cell? ⟨w.heap.size, 4, none⟩ = some (.int .i64 x0.c) ∧ v.cell? ⟨w.heap.size, 5, none⟩ = some (.slice x0.s.a x0.s.D.length x0.s.c))) := fun v hv =>
    ⟨(hv.cell (p := ⟨w.heap.size, 0, none⟩) (by simp)).trans (by simp), (hv.cell (p := ⟨w.heap.size, 1, none⟩) (by simp)).trans (by simp), (hv.cell (p := ⟨w.heap.size, 2, none⟩) (by simp)).trans (by simp), (hv.cell (p := ⟨w.heap.size, 3, none⟩) (by simp)).trans (by simp), (hv.cell (p := ⟨w.heap.size, 4, none⟩) (by simp)).trans (by simp), (hv.cell (p := ⟨w.heap.size, 5, none⟩) (by simp)).trans (by simp)⟩
  have hwz : Hid (((w.alloc (.cells #[.int .i64 x0.n, .int .u64 x0.h, .int .u64 x0.l, .int .i64 x0.v, .int .i64 x0.c, .slice x0.s.a x0.s.D.length x0.s.c] 53)).alloc (.cells #[.int .i64 0, .int .u64 0, .int .u64 0, .int .i64 0, .int .i64 0, .slice none 0 0] 53)).heap.size = w.heap.size + 2) := by show _ = _; simp
  have ca := hide (fun W => x0.as_any W)
  unfold Bl.val at ca
  generalize hw0 : (w.alloc (.cells #[.int .i64 x0.n, .int .u64 x0.h, .int .u64 x0.l, .int .i64 x0.v, .int .i64 x0.c, .slice x0.s.a x0.s.D.length x0.s.c] 53)).alloc (.cells #[.int .i64 0, .int .u64 0, .int .u64 0, .int .i64 0, .int .i64 0, .slice none 0 0] 53) = w0 at *
  have s0 := KH.out _ (Below.refl (w.heap.size + 2) w0).drew
  have s1 := KH.out _ ((Below.refl (w.heap.size + 2) w0).alloc (by rw [hwz.out]; exact Nat.le_refl _) (.cells #[.int .i64 0, .int .u64 0, .int .u64 0, .int .i64 0, .int .i64 0, .slice none 0 0] 116)).drew
  have DZ := hide ((Below.refl (w.heap.size + 2) w0).alloc (by rw [hwz.out]; exact Nat.le_refl _) (.cells #[.int .i64 0, .int .u64 0, .int .u64 0, .int .i64 0, .int .i64 0, .slice none 0 0] 116)).drew
  have hne0 : w0.heap.size ≠ w.heap.size := by rw [hwz.out]; omega
  have KZ : Hid (∀ v, Below (w0.heap.size + 1) (w0.alloc (.cells #[.int .i64 0, .int .u64 0, .int .u64 0, .int .i64 0, .int .i64 0, .slice none 0 0] 116)).drew v → (v.cell? ⟨w0.heap.size, 0, none⟩ = some (.int .i64 0) ∧ v.cell? ⟨w0.heap.size, 1, none⟩ = some (.int .u64 0) ∧ v.cell? ⟨w0.heap.size, 2, none⟩ = some (.int .u64 0) ∧ v.cell? ⟨w0.heap.size, 3, none⟩ = some (.int .i64 0) ∧ v.cell? ⟨w0.heap.size, 4, none⟩ = some (.int .i64 0) ∧ v.cell? ⟨w0.heap.size, 5, none⟩ = some (.slice none 0 0) ∧ v.frozen? ⟨w0.heap.size, 0, none⟩ = false ∧ v.frozen? ⟨w0.heap.size, 1, none⟩ = false ∧ v.frozen? ⟨w0.heap.size, 2, none⟩ = false ∧ v.frozen? ⟨w0.heap.size, 3, none⟩ = false ∧ v.frozen? ⟨w0.heap.size, 4, none⟩ = false ∧ v.frozen? ⟨w0.heap.size, 5, none⟩ = false)) := fun v hv =>
    ⟨(hv.cell (p := ⟨w0.heap.size, 0, none⟩) (by simp)).trans (by simp), (hv.cell (p := ⟨w0.heap.size, 1, none⟩) (by simp)).trans (by simp), (hv.cell (p := ⟨w0.heap.size, 2, none⟩) (by simp)).trans (by simp), (hv.cell (p := ⟨w0.heap.size, 3, none⟩) (by simp)).trans (by simp), (hv.cell (p := ⟨w0.heap.size, 4, none⟩) (by simp)).trans (by simp), (hv.cell (p := ⟨w0.heap.size, 5, none⟩) (by simp)).trans (by simp), (hv.frozen (p := ⟨w0.heap.size, 0, none⟩) (by simp)).trans (by simp), (hv.frozen (p := ⟨w0.heap.size, 1, none⟩) (by simp)).trans (by simp), (hv.frozen (p := ⟨w0.heap.size, 2, none⟩) (by simp)).trans (by simp), (hv.frozen (p := ⟨w0.heap.size, 3, none⟩) (by simp)).trans (by simp), (hv.frozen (p := ⟨w0.heap.size, 4, none⟩) (by simp)).trans (by simp), (hv.frozen (p := ⟨w0.heap.size, 5, none⟩) (by simp)).trans (by simp)⟩
  go_enter Tryz.func29, Tryz.ntmps29
  go_upto_region 3 with fail
  try rw [hw0]
  go_cut [8, 9] from 17 (fun p m wx => ∃ g, p = .pointer (some ⟨g, 0, none⟩) ∧ m = .int .i64 x0.c ∧ w.heap.size + 2 ≤ g ∧ Bl.Bx wx g x0 ∧ Below (w.heap.size + 2) w0 wx)
  case first =>
    obtain ⟨s00, s01, s02, s03, s04, s05⟩ := s0
    obtain ⟨s10, s11, s12, s13, s14, s15⟩ := s1
    go_region_with (first
      | (go_at_call 67; refine (ca.out w0.drew).mono ?_; rintro e w2 ⟨rfl, b2⟩; have D2 := hide ((Below.refl (w.heap.size + 2) w0).drew.trans (b2.mono (by show _ ≤ w0.heap.size; rw [hwz.out]; exact Nat.le_refl _))); have z2 := b2.size; obtain ⟨s20, s21, s22, s23, s24, s25⟩ := KH.out w2 D2.out; have hne2 : w2.heap.size ≠ w.heap.size := (by have := D2.out.size; have h2 := hwz.out; omega); obtain ⟨s30, s31, s32, s33, s34, s35⟩ := KH.out _ (D2.out.alloc (by have := D2.out.size; have h2 := hwz.out; omega) (.cells #[.int .i64 0, .int .u64 0, .int .u64 0, .int .i64 0, .int .i64 0, .slice none 0 0] 116)); obtain ⟨s40, s41, s42, s43, s44, s45⟩ := KH.out _ (D2.out.alloc (by have := D2.out.size; have h2 := hwz.out; omega) (.cells #[.int .i64 x0.n, .int .u64 x0.h, .int .u64 x0.l, .int .i64 x0.v, .int .i64 x0.c, .slice x0.s.a x0.s.D.length x0.s.c] 116)); clear b2)
      | (go_at_call 67; refine (ca.out (w0.alloc (.cells #[.int .i64 0, .int .u64 0, .int .u64 0, .int .i64 0, .int .i64 0, .slice none 0 0] 116)).drew).mono ?_; rintro e w2 ⟨rfl, b2⟩; have b3 : Below (w0.heap.size + 1) (w0.alloc (.cells #[.int .i64 0, .int .u64 0, .int .u64 0, .int .i64 0, .int .i64 0, .slice none 0 0] 116)).drew w2 := (by simpa using b2); have D2 := hide (DZ.out.trans (b3.mono (by have h2 := hwz.out; omega))); obtain ⟨s20, s21, s22, s23, s24, s25⟩ := KH.out w2 D2.out; obtain ⟨t20, t21, t22, t23, t24, t25, t26, t27, t28, t29, t2a, t2b⟩ := KZ.out w2 b3; have z2 := b3.size; clear b2 b3))
    all_goals first
      | (have := t20; go_wp2_with fail; go_meet; exact ⟨w0.heap.size, rfl, rfl, by rw [hwz.out]; exact Nat.le_refl _, Bl.Bx.set (y := ⟨0, 0, 0, 0, 0, ⟨none, 0, []⟩⟩) x0 ⟨t20, t21, t22, t23, t24, t25, t26, t27, t28, t29, t2a, t2b⟩, below_set6 D2.out (by rw [hwz.out]; exact Nat.le_refl _) _ _ _ _ _ _⟩)
      | (go_wp2_with fail; go_meet; exact ⟨w2.heap.size, rfl, rfl, by have := D2.out.size; have h2 := hwz.out; omega, Bl.Bx.new _ _ _, D2.out.alloc (by have := D2.out.size; have h2 := hwz.out; omega) _⟩)
  case rest =>
    obtain ⟨g, rfl, rfl, hg, hbx, hbl0⟩ := hcut
    clear s0 s1 DZ KZ hne0 ca KH
    have HB0 : Hid (bestB x0 L = bestB x0 (L.drop 0)) := rfl
    have HC0 : Hid (comB x0.c L = comB x0.c (L.drop 0)) := rfl
    have HCH : Hid (∀ (Y : Bl) (m : Int), bestB x0 L = Y → comB x0.c L = m → chs x0 L = { Y with c := max 0 (min m (Y.s.D.length : Int)) }) := fun Y m e1 e2 => by subst e1 e2; rfl
    have HCQ : Hid (∀ Y : Bl, bestB x0 L = { Y with c := (bestB x0 L).c } → True) := fun _ _ => trivial
    clear HCQ
    generalize bestB x0 L = BE at *
    generalize comB x0.c L = CO at *
    have OB : Hid (OwnY yBlA w.heap.size w0 (.slice (some ⟨w.heap.size + 1, 0, none⟩) 1 1) [⟨0, 0, 0, 0, 0, ⟨none, 0, []⟩⟩]) := by
      show OwnY _ _ _ _ _
      rw [← hw0]
      have := own_box kBlA w.heap.size (w.alloc (.cells #[.int .i64 x0.n, .int .u64 x0.h, .int .u64 x0.l, .int .i64 x0.v, .int .i64 x0.c, .slice x0.s.a x0.s.D.length x0.s.c] 53)) ⟨0, 0, 0, 0, 0, ⟨none, 0, []⟩⟩ (by simp)
      rw [show (w.alloc (.cells #[.int .i64 x0.n, .int .u64 x0.h, .int .u64 x0.l, .int .i64 x0.v, .int .i64 x0.c, .slice x0.s.a x0.s.D.length x0.s.c] 53)).heap.size = w.heap.size + 1 from by simp] at this
      exact this
    have HBL0 := hide hbl0
    have HBX0 := hide hbx
    clear hbl0 hbx
    go_wp2
    go_loopw [23, 9] (fun i m wr => ∃ (j : Nat) (M : Int) (X : Bl), i = .int .i64 (j : Int) ∧ j ≤ n ∧ m = .int .i64 M ∧ Hid (BE = bestB X (L.drop j)) ∧ Hid (CO = comB M (L.drop j)) ∧ Hid (X = x0 ∨ X ∈ L) ∧ Hid (Bl.Bx wr g X) ∧ Hid (Below (w.heap.size + 2) w0 wr)) (fun i _ _ => n - (intOf i).toNat)
    case atStart => exact ⟨0, x0.c, x0, rfl, Nat.zero_le _, rfl, HB0, HC0, .inl rfl, HBX0, HBL0⟩
    case round =>
      obtain ⟨j, M, X, rfl, hj, rfl, hBE, hCO, hXL, hBX, hBL⟩ := hrel
      have hsz : w.heap.size + 2 ≤ wr.heap.size := by have := hBL.out.size; rwa [hwz.out] at this
      have bl0 := hide (B0.out.trans (hBL.out.mono (by omega)))
      have hglt : g < wr.heap.size := hBX.out.lt
      by_cases hlt : j < n
      · have hjl : j < L.length := by rw [HN.out]; exact hlt
        have hgj : L[j]? = some L[j] := List.getElem?_eq_getElem hjl
        obtain ⟨q, o, rfl, hq, y0, y1, y2, y3, y4, y5⟩ := (H.out.later bl0.out).BlA hgj
        have hBE1 : Hid (BE = bestB (if Bl.cho X L[j] = true then L[j] else X) (L.drop (j + 1))) := by show _ = _; rw [hBE.out, bestB_drop hjl]
        have hCO1 : Hid (CO = comB (if M < L[j].c then L[j].c else M) (L.drop (j + 1))) := by show _ = _; rw [hCO.out, comB_drop hjl]
        have hmem : Hid (L[j] ∈ L) := List.getElem_mem hjl
        clear hgj hBE hCO
        generalize L[j] = y at *
        have HCHO : Hid (Bl.cho X y = decide (0 < orI [Bl.cb y X, cmpI X.n y.n])) := rfl
        generalize Bl.cho X y = ch at *
        have KB : Hid (∀ v, Below (wr.heap.size + 1) (wr.alloc (.cells #[.int .i64 y.n, .int .u64 y.h, .int .u64 y.l, .int .i64 y.v, .int .i64 y.c, .slice y.s.a y.s.D.length y.s.c] 53)) v → (v.cell? ⟨g, 0, none⟩ = some (.int .i64 X.n) ∧ v.cell? ⟨g, 1, none⟩ = some (.int .u64 X.h) ∧ v.cell? ⟨g, 2, none⟩ = some (.int .u64 X.l) ∧ v.cell? ⟨g, 3, none⟩ = some (.int .i64 X.v) ∧ v.cell? ⟨g, 4, none⟩ = some (.int .i64 X.c) ∧ v.cell? ⟨g, 5, none⟩ = some (.slice X.s.a X.s.D.length X.s.c)) ∧ (v.cell? ⟨wr.heap.size, 0, none⟩ = some (.int .i64 y.n) ∧ v.cell? ⟨wr.heap.size, 1, none⟩ = some (.int .u64 y.h) ∧ v.cell? ⟨wr.heap.size, 2, none⟩ = some (.int .u64 y.l) ∧ v.cell? ⟨wr.heap.size, 3, none⟩ = some (.int .i64 y.v) ∧ v.cell? ⟨wr.heap.size, 4, none⟩ = some (.int .i64 y.c) ∧ v.cell? ⟨wr.heap.size, 5, none⟩ = some (.slice y.s.a y.s.D.length y.s.c))) := fun v hv => by
          obtain ⟨h0, h1, h2, h3, h4, h5, _⟩ := (hBX.out.bel ((Below.refl wr.heap.size wr).alloc (Nat.le_refl _) (.cells #[.int .i64 y.n, .int .u64 y.h, .int .u64 y.l, .int .i64 y.v, .int .i64 y.c, .slice y.s.a y.s.D.length y.s.c] 53)) hglt).bel hv (by omega)
          exact ⟨⟨h0, h1, h2, h3, h4, h5⟩, ⟨(hv.cell (p := ⟨wr.heap.size, 0, none⟩) (by simp)).trans (by simp), (hv.cell (p := ⟨wr.heap.size, 1, none⟩) (by simp)).trans (by simp), (hv.cell (p := ⟨wr.heap.size, 2, none⟩) (by simp)).trans (by simp), (hv.cell (p := ⟨wr.heap.size, 3, none⟩) (by simp)).trans (by simp), (hv.cell (p := ⟨wr.heap.size, 4, none⟩) (by simp)).trans (by simp), (hv.cell (p := ⟨wr.heap.size, 5, none⟩) (by simp)).trans (by simp)⟩⟩
        have ca := hide (fun W => y.as_any W)
        unfold Bl.val at ca
        have c0 := hide (fun W => Bl.cball_any y X W)
        unfold Bl.val at c0
        generalize Bl.cb y X = CB at *
        have cc := hide (fun W => cmpint_any X.n y.n W)
        generalize cmpI X.n y.n = CC at *
        have co := hide (fun W => or_any [CB, CC] (some ⟨W.heap.size, 0, none⟩) 2 2 (W.alloc (.cells #[.int .i64 CB, .int .i64 CC] 3)) (sl_lit kI W [CB, CC] 3 (by unfold maxLen; simp)))
        generalize orI [CB, CC] = O at *
        have s0 := KB.out _ (Below.refl (wr.heap.size + 1) (wr.alloc (.cells #[.int .i64 y.n, .int .u64 y.h, .int .u64 y.l, .int .i64 y.v, .int .i64 y.c, .slice y.s.a y.s.D.length y.s.c] 53))).drew
        have hwz1 : Hid ((wr.alloc (.cells #[.int .i64 y.n, .int .u64 y.h, .int .u64 y.l, .int .i64 y.v, .int .i64 y.c, .slice y.s.a y.s.D.length y.s.c] 53)).heap.size = wr.heap.size + 1) := by show _ = _; simp
        have HW1 : Hid (Below (w.heap.size + 2) w0 (wr.alloc (.cells #[.int .i64 y.n, .int .u64 y.h, .int .u64 y.l, .int .i64 y.v, .int .i64 y.c, .slice y.s.a y.s.D.length y.s.c] 53))) := hBL.out.alloc hsz _
        go_wp2_with fail
        generalize hw1 : wr.alloc (.cells #[.int .i64 y.n, .int .u64 y.h, .int .u64 y.l, .int .i64 y.v, .int .i64 y.c, .slice y.s.a y.s.D.length y.s.c] 53) = wA at *
        go_region_held3 (fun v => (v.cell? ⟨g, 0, none⟩ = some (.int .i64 X.n) ∧ v.cell? ⟨g, 1, none⟩ = some (.int .u64 X.h) ∧ v.cell? ⟨g, 2, none⟩ = some (.int .u64 X.l) ∧ v.cell? ⟨g, 3, none⟩ = some (.int .i64 X.v) ∧ v.cell? ⟨g, 4, none⟩ = some (.int .i64 X.c) ∧ v.cell? ⟨g, 5, none⟩ = some (.slice X.s.a X.s.D.length X.s.c)) ∧ (v.cell? ⟨wr.heap.size, 0, none⟩ = some (.int .i64 y.n) ∧ v.cell? ⟨wr.heap.size, 1, none⟩ = some (.int .u64 y.h) ∧ v.cell? ⟨wr.heap.size, 2, none⟩ = some (.int .u64 y.l) ∧ v.cell? ⟨wr.heap.size, 3, none⟩ = some (.int .i64 y.v) ∧ v.cell? ⟨wr.heap.size, 4, none⟩ = some (.int .i64 y.c) ∧ v.cell? ⟨wr.heap.size, 5, none⟩ = some (.slice y.s.a y.s.D.length y.s.c))) (with_reducible assumption) (first
          | (go_at_call 67; refine (ca.out _).mono ?_; rintro e w2 ⟨rfl, b2⟩; have D2 := hide ((Below.refl (wr.heap.size + 1) wA).drew.trans (b2.mono (by show _ ≤ wA.heap.size; rw [hwz1.out]; exact Nat.le_refl _))); have z2 := b2.size; have s2 := KB.out w2 D2.out; clear b2)
          | (go_at_call 76; refine (c0.out _).mono ?_; rintro e w3 ⟨rfl, b3⟩; have D3 := hide (D2.out.trans (b3.mono (by have := D2.out.size; have h2 := hwz1.out; omega))); have z3 := b3.size; have s3 := KB.out w3 D3.out; have s4 := KB.out _ (D3.out.alloc (by have := D3.out.size; have h2 := hwz1.out; omega) (.cells #[.int .i64 CB, .int .i64 CC] 3)); clear b3)
          | (go_at_call 77; refine (cc.out _).mono ?_; rintro e w3' ⟨rfl, rfl⟩)
          | (go_at_call 75; refine (co.out _).mono ?_; rintro e w3' ⟨rfl, rfl⟩))
        have D4 := hide (D3.out.alloc (by have := D3.out.size; have h2 := hwz1.out; omega) (.cells #[.int .i64 CB, .int .i64 CC] 3))
        have bxA : Bl.Bx wA g X := by rw [← hw1]; exact hBX.out.bel ((Below.refl wr.heap.size wr).alloc (Nat.le_refl _) _) hglt
        have BXA := hide bxA
        have BX4 := hide (bxA.bel D4.out (by omega))
        have HW4 := hide (HW1.out.trans (D4.out.mono (by omega)))
        obtain ⟨⟨p0, p1, p2, p3, p4, p5⟩, ⟨r0, r1, r2, r3, r4, r5⟩⟩ := KB.out _ D4.out
        clear D3 bxA
        generalize w3'.alloc (.cells #[.int .i64 CB, .int .i64 CC] 3) = W4 at *
        by_cases hO : 0 < O
        · have hd : decide (0 < O) = true := by simp [hO]
          rw [hd]
          have hBE2 : Hid (BE = bestB y (L.drop (j + 1))) := by show _ = _; rw [hBE1.out, HCHO.out, hd, if_pos rfl]
          clear hBE1 HCHO hd
          go_wp2_with fail
          refine (ca.out _).mono ?_
          rintro e w5 ⟨rfl, b5⟩
          have D5 := hide (D4.out.trans (b5.mono (by have := D4.out.size; have h2 := hwz1.out; omega)))
          have BX5 := hide (BXA.out.bel D5.out (by omega))
          have HW5 := hide (HW1.out.trans (D5.out.mono (by omega)))
          clear b5 p0 p1 p2 p3 p4 p5 r0 r1 r2 r3 r4 r5
          obtain ⟨_, ⟨r0, r1, r2, r3, r4, r5⟩⟩ := KB.out _ D5.out
          obtain ⟨p0, p1, p2, p3, p4, p5, p6, p7, p8, p9, pa, pb⟩ := BX5.out
          have hgne : g ≠ wr.heap.size := by omega
          have hgne2 : wr.heap.size ≠ g := by omega
          dsimp only
          go_wp2
          go_round
          case rel => exact ⟨j + 1, if M < y.c then y.c else M, y, by go_num, by omega, rfl, hBE2, hCO1, .inr hmem.out, Bl.Bx.set y BX5.out, below_set6 HW5.out (by omega) _ _ _ _ _ _⟩
          case measure => simp [intOf]; omega
        · have hd : decide (0 < O) = false := by simp [hO]
          rw [hd]
          have hBE2 : Hid (BE = bestB X (L.drop (j + 1))) := by show _ = _; rw [hBE1.out, HCHO.out, hd]; rfl
          clear hBE1 HCHO hd
          go_wp2
          go_round
          case rel => exact ⟨j + 1, if M < y.c then y.c else M, X, by go_num, by omega, rfl, hBE2, hCO1, hXL, BX4, HW4⟩
          case measure => simp [intOf]; omega
      · obtain rfl : j = n := by omega
        have hBE1 : Hid (BE = X) := by show _ = _; rw [hBE.out, List.drop_of_length_le (by rw [HN.out]; exact Nat.le_refl _), bestB]
        have hCO1 : Hid (CO = M) := by show _ = _; rw [hCO.out, List.drop_of_length_le (by rw [HN.out]; exact Nat.le_refl _), comB]
        have HIN : Hid (X.In w) := by
          show Bl.In _ _
          rcases hXL.out with e | e
          · rw [e]; exact H0.out
          · exact HX.out _ e
        have HCH2 : Hid (chs x0 L = { X with c := max 0 (min M (X.s.D.length : Int)) }) := HCH.out X M hBE1.out hCO1.out
        clear hBE hCO HCH hBE1 hCO1
        have hgne : g ≠ w.heap.size + 1 := by omega
        have HWV : Hid (∀ u, Below (w.heap.size + 2) w0 (wr.setCell ⟨g, 4, none⟩ u)) := fun u => hBL.out.setCell hg u
        have CT : Hid (∀ V : Int, Calls Tryz.prog 71 #[.agg #[.int .i64 X.n, .int .u64 X.h, .int .u64 X.l, .int .i64 X.v, .int .i64 V, .slice X.s.a X.s.D.length X.s.c]] (wr.setCell ⟨g, 4, none⟩ (.int .i64 V)) fun e w' => ∃ y : Bl, e = .returned (.agg #[.int .i64 y.n, .int .u64 y.h, .int .u64 y.l, .int .i64 y.v, .int .i64 y.c, .slice y.s.a y.s.D.length y.s.c]) ∧ Hid (y = Bl.re { X with c := V } (wr.heap.size + 2)) ∧ OwnY yE (wr.heap.size + 2) w' (.slice (some ⟨wr.heap.size + 2, 0, none⟩) X.s.D.length X.s.D.length) X.s.D ∧ Below (w.heap.size + 2) w0 w') := fun V => by
          have hz : (wr.setCell ⟨g, 4, none⟩ (.int .i64 V)).heap.size = wr.heap.size := by simp
          have h := Bl.told_any { X with c := V } (wr.setCell ⟨g, 4, none⟩ (.int .i64 V)) (HIN.out.later (B0.out.trans ((HWV.out _).mono (by omega))))
          rw [hz] at h
          refine h.mono fun e w' hh => ⟨_, hh.1, rfl, hh.2.1, (HWV.out _).trans (hh.2.2.mono (by omega))⟩
        obtain ⟨p0, p1, p2, p3, p4, p5, p6, p7, p8, p9, pa, pb⟩ := hBX.out
        go_wp2_with fail
        all_goals
          refine (CT.out _).mono ?_
          rintro e w7 ⟨y, rfl, hy, o7, b7⟩
          have OB7 := hide (OB.out.grow (by rw [hwz.out]; exact b7))
          have OE := hide o7
          have B7 := hide b7
          have hyc : Hid (y = Bl.re (chs x0 L) (wr.heap.size + 2)) := by
            show _ = _
            rw [hy.out, HCH2.out]
            unfold Bl.re
            congr 1
            dsimp only
            omega
          have hlen : Hid ((chs x0 L).s = X.s) := by show _ = _; rw [HCH2.out]
          have z7 := b7.size
          rw [hwz.out] at z7
          clear o7 b7 hy
          dsimp only
          go_wp2_with (refine storeY kBlA _ rfl 53 (.tmp 6) (.tmp 54) rfl w.heap.size (w.heap.size + 1) 1 1 [⟨0, 0, 0, 0, 0, ⟨none, 0, []⟩⟩] 0 0 ⟨0, 0, 0, 0, 0, ⟨none, 0, []⟩⟩ y _ rfl rfl rfl (by kernel_rfl) (by exact (by decide : 6 ≤ 6)) rfl OB7.out ?_)
          intro w8 o8 u8 z8
          have v0 := o8.cell kBlA 0 _ rfl 0 _ rfl
          have v1 := o8.cell kBlA 0 _ rfl 1 _ rfl
          have v2 := o8.cell kBlA 0 _ rfl 2 _ rfl
          have v3 := o8.cell kBlA 0 _ rfl 3 _ rfl
          have v4 := o8.cell kBlA 0 _ rfl 4 _ rfl
          have v5 := o8.cell kBlA 0 _ rfl 5 _ rfl
          simp only [Nat.zero_mul, Nat.zero_add] at v0 v1 v2 v3 v4 v5
          have U8 := hide u8
          clear o8 u8
          go_wp2
          refine bodyPost_ret (v := .tuple #[y.val, .int .i64 0]) (by simp [results, Tryz.results29, go_sem, v0, v1, v2, v3, v4, v5, Bl.val]) rfl ?_
          refine ⟨⟨y, rfl, ?_⟩, (B0.out.trans (B7.out.mono (by omega))).trans (U8.out.below (by omega) (fun k e => by subst e; omega))⟩
          unfold Bl.Told
          rw [hlen.out]
          exact ⟨HIN.out.2, wr.heap.size + 2, hyc.out, (OE.out.upd1 U8.out (fun g e => by cases e; show ¬ (wr.heap.size + 2 = w.heap.size + 1); omega)).low (by omega)⟩

end Go.Proofs.YtcmjhaljbmhpgaaGreat
