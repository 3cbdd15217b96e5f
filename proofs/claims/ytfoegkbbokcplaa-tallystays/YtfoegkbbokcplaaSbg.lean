import Derived.Test.YtfoegkbbokcplaaSb1
import Derived.Test.YtfoegkbbokcplaaSo
import Derived.Deep.RegionHeld3
namespace Go.Proofs.Ytfoegkbbokcplaa
open Go.RowKit Go.Maps
set_option linter.unusedVariables false
set_option linter.unusedSimpArgs false

/-- What comes first: the later view, then the longer log. -/
def Bl.cb (x y : Bl) : Int := orI [cmpI x.v y.v, cmpI (x.s.D.length : Int) (y.s.D.length : Int)]
set_option maxRecDepth 100000 in
set_option maxHeartbeats 1000000 in
theorem Bl.cball_any (x y : Bl) (w : World) : Calls Try.prog 74 #[x.val, y.val] w fun e w' => e = .returned (.int .i64 (Bl.cb x y)) ∧ Below w.heap.size w w' := by
  have HB0 : Hid (Below w.heap.size w ((w.alloc (.cells #[.int .i64 x.n, .int .u64 x.h, .int .u64 x.l, .int .i64 x.v, .int .i64 x.c, .slice x.s.a x.s.D.length x.s.c] 40)).alloc (.cells #[.int .i64 y.n, .int .u64 y.h, .int .u64 y.l, .int .i64 y.v, .int .i64 y.c, .slice y.s.a y.s.D.length y.s.c] 40))) := ((Below.refl _ w).alloc (Nat.le_refl _) _).alloc (by simp) _
  have KH : Hid (∀ v, Below (w.heap.size + 2) ((w.alloc (.cells #[.int .i64 x.n, .int .u64 x.h, .int .u64 x.l, .int .i64 x.v, .int .i64 x.c, .slice x.s.a x.s.D.length x.s.c] 40)).alloc (.cells #[.int .i64 y.n, .int .u64 y.h, .int .u64 y.l, .int .i64 y.v, .int .i64 y.c, .slice y.s.a y.s.D.length y.s.c] 40)) v → (v.cell? ⟨w.heap.size, 0, none⟩ = some (.int .i64 x.n) ∧ v.cell? ⟨w.heap.size, 1, none⟩ = some (.int .u64 x.h) ∧ v.cell? ⟨w.heap.size, 2, none⟩ = some (.int .u64 x.l) ∧ v.cell? ⟨w.heap.size, 3, none⟩ = some (.int .i64 x.v) ∧ v.cell? ⟨w.heap.size, 4, none⟩ = some (.int .i64 x.c) ∧ v.cell? ⟨w.heap.size, 5, none⟩ = some (.slice x.s.a x.s.D.length x.s.c)) ∧ (v.cell? ⟨w.heap.size + 1, 0, none⟩ = some (.int .i64 y.n) ∧ v.cell? ⟨w.heap.size + 1, 1, none⟩ = some (.int .u64 y.h) ∧ v.cell? ⟨w.heap.size + 1, 2, none⟩ = some (.int .u64 y.l) ∧ v.cell? ⟨w.heap.size + 1, 3, none⟩ = some (.int .i64 y.v) ∧ v.cell? ⟨w.heap.size + 1, 4, none⟩ = some (.int .i64 y.c) ∧ v.cell? ⟨w.heap.size + 1, 5, none⟩ = some (.slice y.s.a y.s.D.length y.s.c))) := fun v hv =>
    ⟨⟨(hv.cell (p := ⟨w.heap.size, 0, none⟩) (by simp)).trans (by simp), (hv.cell (p := ⟨w.heap.size, 1, none⟩) (by simp)).trans (by simp), (hv.cell (p := ⟨w.heap.size, 2, none⟩) (by simp)).trans (by simp), (hv.cell (p := ⟨w.heap.size, 3, none⟩) (by simp)).trans (by simp), (hv.cell (p := ⟨w.heap.size, 4, none⟩) (by simp)).trans (by simp), (hv.cell (p := ⟨w.heap.size, 5, none⟩) (by simp)).trans (by simp)⟩, ⟨(hv.cell (p := ⟨w.heap.size + 1, 0, none⟩) (by simp)).trans (by simp), (hv.cell (p := ⟨w.heap.size + 1, 1, none⟩) (by simp)).trans (by simp), (hv.cell (p := ⟨w.heap.size + 1, 2, none⟩) (by simp)).trans (by simp), (hv.cell (p := ⟨w.heap.size + 1, 3, none⟩) (by simp)).trans (by simp), (hv.cell (p := ⟨w.heap.size + 1, 4, none⟩) (by simp)).trans (by simp), (hv.cell (p := ⟨w.heap.size + 1, 5, none⟩) (by simp)).trans (by simp)⟩⟩
  have HG : Hid (Bl.cb x y = orI [cmpI x.v y.v, cmpI (x.s.D.length : Int) (y.s.D.length : Int)]) := rfl
  obtain ⟨xn, xh, xl, xv, xc, ⟨xa, xcp, xD⟩⟩ := x
  obtain ⟨yn, yh, yl, yv, yc, ⟨ya, ycp, yD⟩⟩ := y
  show Calls Try.prog 74 #[.agg #[.int .i64 xn, .int .u64 xh, .int .u64 xl, .int .i64 xv, .int .i64 xc, .slice xa xD.length xcp], .agg #[.int .i64 yn, .int .u64 yh, .int .u64 yl, .int .i64 yv, .int .i64 yc, .slice ya yD.length ycp]] w _
  dsimp only at *
  generalize Bl.cb _ _ = G at *
  generalize xD.length = xm at *
  generalize yD.length = ym at *
  have cc := hide (fun x y W => cmpint_any x y W)
  have SB := hide (fun W => sl_lit kI W [cmpI xv yv, cmpI (xm : Int) (ym : Int)] 3 (by unfold maxLen; simp))
  have co := hide (fun W => or_any [cmpI xv yv, cmpI (xm : Int) (ym : Int)] (some ⟨W.heap.size, 0, none⟩) 2 2 (W.alloc (.cells #[.int .i64 (cmpI xv yv), .int .i64 (cmpI (xm : Int) (ym : Int))] 3)).drew ((SB.out W).later (Below.refl _ _).drew))
  generalize orI [cmpI xv yv, cmpI (xm : Int) (ym : Int)] = O at *
  generalize hw : (w.alloc (.cells #[.int .i64 xn, .int .u64 xh, .int .u64 xl, .int .i64 xv, .int .i64 xc, .slice xa xm xcp] 40)).alloc (.cells #[.int .i64 yn, .int .u64 yh, .int .u64 yl, .int .i64 yv, .int .i64 yc, .slice ya ym ycp] 40) = wA at *
  have hwz : Hid (wA.heap.size = w.heap.size + 2) := by show _ = _; rw [← hw]; simp
  have KS : Hid (∀ v, Below (w.heap.size + 2) wA v → (v.cell? ⟨w.heap.size, 3, none⟩ = some (.int .i64 xv)) ∧ (v.cell? ⟨w.heap.size, 5, none⟩ = some (.slice xa xm xcp)) ∧ (v.cell? ⟨w.heap.size + 1, 3, none⟩ = some (.int .i64 yv)) ∧ (v.cell? ⟨w.heap.size + 1, 5, none⟩ = some (.slice ya ym ycp))) := fun v hv => by
    obtain ⟨⟨_, _, _, h3, h4, h5⟩, ⟨_, _, _, g3, g4, g5⟩⟩ := KH.out v hv
    exact ⟨h3, h5, g3, g5⟩
  clear KH
  have s0 := KS.out _ (Below.refl (w.heap.size + 2) wA).drew
  have s1 := KS.out _ ((Below.refl (w.heap.size + 2) wA).alloc (by rw [hwz.out]; exact Nat.le_refl _) (.cells #[.int .i64 (cmpI xv yv), .int .i64 (cmpI (xm : Int) (ym : Int))] 3)).drew
  have hwA : Hid (wA = _) := hw.symm
  go_enter Try.func74, Try.ntmps74
  go_wp2_with fail
  try rw [hw]
  clear hw
  go_region_held3 (fun v => (v.cell? ⟨w.heap.size, 3, none⟩ = some (.int .i64 xv)) ∧ (v.cell? ⟨w.heap.size, 5, none⟩ = some (.slice xa xm xcp)) ∧ (v.cell? ⟨w.heap.size + 1, 3, none⟩ = some (.int .i64 yv)) ∧ (v.cell? ⟨w.heap.size + 1, 5, none⟩ = some (.slice ya ym ycp))) (with_reducible assumption) (first
    | (go_at_call 75; refine (cc.out _ _ _).mono ?_; rintro e w2 ⟨rfl, rfl⟩)
    | (go_at_call 73; refine (co.out _).mono ?_; rintro e w2 ⟨rfl, rfl⟩))
  go_wp2
  go_ret
  exact ⟨by rw [HG.out]; rfl, HB0.out.trans ((((Below.refl (w.heap.size + 2) wA).alloc (by rw [hwz.out]; exact Nat.le_refl _) _).drew).mono (by omega))⟩
/-- Is a ballot greater: by these, then by its commit number? -/
def Bl.gt (x y : Bl) : Bool := decide (0 < orI [Bl.cb x y, cmpI x.c y.c])
set_option maxRecDepth 100000 in
set_option maxHeartbeats 1000000 in
theorem Bl.greater_any (x y : Bl) (w : World) : Calls Try.prog 70 #[x.val, y.val] w fun e w' => e = .returned (.bool (Bl.gt x y)) ∧ Below w.heap.size w w' := by
  have HB0 : Hid (Below w.heap.size w ((w.alloc (.cells #[.int .i64 x.n, .int .u64 x.h, .int .u64 x.l, .int .i64 x.v, .int .i64 x.c, .slice x.s.a x.s.D.length x.s.c] 40)).alloc (.cells #[.int .i64 y.n, .int .u64 y.h, .int .u64 y.l, .int .i64 y.v, .int .i64 y.c, .slice y.s.a y.s.D.length y.s.c] 40))) := ((Below.refl _ w).alloc (Nat.le_refl _) _).alloc (by simp) _
  have KH : Hid (∀ v, Below (w.heap.size + 2) ((w.alloc (.cells #[.int .i64 x.n, .int .u64 x.h, .int .u64 x.l, .int .i64 x.v, .int .i64 x.c, .slice x.s.a x.s.D.length x.s.c] 40)).alloc (.cells #[.int .i64 y.n, .int .u64 y.h, .int .u64 y.l, .int .i64 y.v, .int .i64 y.c, .slice y.s.a y.s.D.length y.s.c] 40)) v → (v.cell? ⟨w.heap.size, 0, none⟩ = some (.int .i64 x.n) ∧ v.cell? ⟨w.heap.size, 1, none⟩ = some (.int .u64 x.h) ∧ v.cell? ⟨w.heap.size, 2, none⟩ = some (.int .u64 x.l) ∧ v.cell? ⟨w.heap.size, 3, none⟩ = some (.int .i64 x.v) ∧ v.cell? ⟨w.heap.size, 4, none⟩ = some (.int .i64 x.c) ∧ v.cell? ⟨w.heap.size, 5, none⟩ = some (.slice x.s.a x.s.D.length x.s.c)) ∧ (v.cell? ⟨w.heap.size + 1, 0, none⟩ = some (.int .i64 y.n) ∧ v.cell? ⟨w.heap.size + 1, 1, none⟩ = some (.int .u64 y.h) ∧ v.cell? ⟨w.heap.size + 1, 2, none⟩ = some (.int .u64 y.l) ∧ v.cell? ⟨w.heap.size + 1, 3, none⟩ = some (.int .i64 y.v) ∧ v.cell? ⟨w.heap.size + 1, 4, none⟩ = some (.int .i64 y.c) ∧ v.cell? ⟨w.heap.size + 1, 5, none⟩ = some (.slice y.s.a y.s.D.length y.s.c))) := fun v hv =>
    ⟨⟨(hv.cell (p := ⟨w.heap.size, 0, none⟩) (by simp)).trans (by simp), (hv.cell (p := ⟨w.heap.size, 1, none⟩) (by simp)).trans (by simp), (hv.cell (p := ⟨w.heap.size, 2, none⟩) (by simp)).trans (by simp), (hv.cell (p := ⟨w.heap.size, 3, none⟩) (by simp)).trans (by simp), (hv.cell (p := ⟨w.heap.size, 4, none⟩) (by simp)).trans (by simp), (hv.cell (p := ⟨w.heap.size, 5, none⟩) (by simp)).trans (by simp)⟩, ⟨(hv.cell (p := ⟨w.heap.size + 1, 0, none⟩) (by simp)).trans (by simp), (hv.cell (p := ⟨w.heap.size + 1, 1, none⟩) (by simp)).trans (by simp), (hv.cell (p := ⟨w.heap.size + 1, 2, none⟩) (by simp)).trans (by simp), (hv.cell (p := ⟨w.heap.size + 1, 3, none⟩) (by simp)).trans (by simp), (hv.cell (p := ⟨w.heap.size + 1, 4, none⟩) (by simp)).trans (by simp), (hv.cell (p := ⟨w.heap.size + 1, 5, none⟩) (by simp)).trans (by simp)⟩⟩
  have HG : Hid (Bl.gt x y = decide (0 < orI [Bl.cb x y, cmpI x.c y.c])) := rfl
  have c0 := hide (fun W => Bl.cball_any x y W)
  unfold Bl.val at c0
  generalize Bl.gt x y = G at *
  generalize Bl.cb x y = CB at *
  have cc := hide (fun W => cmpint_any x.c y.c W)
  generalize cmpI x.c y.c = CC at *
  have co := hide (fun W => or_any [CB, CC] (some ⟨W.heap.size, 0, none⟩) 2 2 (W.alloc (.cells #[.int .i64 CB, .int .i64 CC] 3)) (sl_lit kI W [CB, CC] 3 (by unfold maxLen; simp)))
  generalize orI [CB, CC] = O at *
  generalize hw : (w.alloc (.cells #[.int .i64 x.n, .int .u64 x.h, .int .u64 x.l, .int .i64 x.v, .int .i64 x.c, .slice x.s.a x.s.D.length x.s.c] 40)).alloc (.cells #[.int .i64 y.n, .int .u64 y.h, .int .u64 y.l, .int .i64 y.v, .int .i64 y.c, .slice y.s.a y.s.D.length y.s.c] 40) = wA at *
  have hwz : Hid (wA.heap.size = w.heap.size + 2) := by show _ = _; rw [← hw]; simp
  have s0 := KH.out _ (Below.refl (w.heap.size + 2) wA).drew
  show Calls Try.prog 70 #[.agg #[.int .i64 x.n, .int .u64 x.h, .int .u64 x.l, .int .i64 x.v, .int .i64 x.c, .slice x.s.a x.s.D.length x.s.c], .agg #[.int .i64 y.n, .int .u64 y.h, .int .u64 y.l, .int .i64 y.v, .int .i64 y.c, .slice y.s.a y.s.D.length y.s.c]] w _
  go_enter Try.func70, Try.ntmps70
  go_wp2_with fail
  try rw [hw]
  clear hw
  go_region_held3 (fun v => (v.cell? ⟨w.heap.size, 0, none⟩ = some (.int .i64 x.n) ∧ v.cell? ⟨w.heap.size, 1, none⟩ = some (.int .u64 x.h) ∧ v.cell? ⟨w.heap.size, 2, none⟩ = some (.int .u64 x.l) ∧ v.cell? ⟨w.heap.size, 3, none⟩ = some (.int .i64 x.v) ∧ v.cell? ⟨w.heap.size, 4, none⟩ = some (.int .i64 x.c) ∧ v.cell? ⟨w.heap.size, 5, none⟩ = some (.slice x.s.a x.s.D.length x.s.c)) ∧ (v.cell? ⟨w.heap.size + 1, 0, none⟩ = some (.int .i64 y.n) ∧ v.cell? ⟨w.heap.size + 1, 1, none⟩ = some (.int .u64 y.h) ∧ v.cell? ⟨w.heap.size + 1, 2, none⟩ = some (.int .u64 y.l) ∧ v.cell? ⟨w.heap.size + 1, 3, none⟩ = some (.int .i64 y.v) ∧ v.cell? ⟨w.heap.size + 1, 4, none⟩ = some (.int .i64 y.c) ∧ v.cell? ⟨w.heap.size + 1, 5, none⟩ = some (.slice y.s.a y.s.D.length y.s.c))) (with_reducible assumption) (first
    | (go_at_call 74; refine (c0.out _).mono ?_; rintro e w2 ⟨rfl, b2⟩; have D2 := hide ((Below.refl (w.heap.size + 2) wA).drew.trans (b2.mono (by show _ ≤ wA.heap.size; rw [hwz.out]; exact Nat.le_refl _))); have z2 := b2.size; have s2 := KH.out w2 D2.out; have s3 := KH.out _ (D2.out.alloc (by have := D2.out.size; have h2 := hwz.out; omega) (.cells #[.int .i64 CB, .int .i64 CC] 3)); clear b2)
    | (go_at_call 75; refine (cc.out _).mono ?_; rintro e w3 ⟨rfl, rfl⟩)
    | (go_at_call 73; refine (co.out _).mono ?_; rintro e w3 ⟨rfl, rfl⟩))
  go_wp2
  go_ret
  exact ⟨by rw [HG.out]; rfl, HB0.out.trans ((D2.out.alloc (by have := D2.out.size; have h2 := hwz.out; omega) _).mono (by omega))⟩

end Go.Proofs.Ytfoegkbbokcplaa
