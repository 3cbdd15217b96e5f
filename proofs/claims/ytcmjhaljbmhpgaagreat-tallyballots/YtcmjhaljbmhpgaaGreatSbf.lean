import Derived.Test.YtcmjhaljbmhpgaaGreatSbk
import Derived.Test.YtcmjhaljbmhpgaaGreatSbr
import Derived.Test.YtcmjhaljbmhpgaaGreatSbu
import Derived.Test.YtcmjhaljbmhpgaaGreatSbx
import Derived.Test.YtcmjhaljbmhpgaaGreatSbz
import Derived.Test.YtcmjhaljbmhpgaaGreatHc
import Derived.Test.YtcmjhaljbmhpgaaGreatSq
namespace Go.Proofs.YtcmjhaljbmhpgaaGreat
open Go.RowKit Go.Maps
open Classical
set_option linter.unusedVariables false
set_option linter.unusedSimpArgs false

theorem bestB_nrm (x : Bl) : ∀ L : List Bl, (bestB x L).nrm = bestB x.nrm (L.map Bl.nrm)
  | [] => rfl
  | y :: r => by
    rw [List.map_cons, bestB, bestB, bestB_nrm]
    have e : Bl.cho x.nrm y.nrm = Bl.cho x y := rfl
    rw [e]
    split <;> rfl
theorem comB_nrm (m : Int) : ∀ L : List Bl, comB m (L.map Bl.nrm) = comB m L
  | [] => rfl
  | y :: r => by
    rw [List.map_cons, comB, comB, comB_nrm]
    rfl
theorem chs_nrm (x : Bl) (L : List Bl) : (chs x L).nrm = chs x.nrm (L.map Bl.nrm) := by
  have h := bestB_nrm x L
  have hl : (bestB x.nrm (L.map Bl.nrm)).s.D = (bestB x L).s.D := by rw [← h]; rfl
  unfold chs
  rw [comB_nrm, ← h]
  rfl
theorem chs_like {L R : List Bl} {x y : Bl} (h : Bl.Likes L R) (hx : Bl.Like x y) : (chs y R).nrm = (chs x L).nrm := by
  rw [chs_nrm, chs_nrm, hx.nrm, h]
set_option maxRecDepth 100000 in
set_option maxHeartbeats 4000000 in
theorem ballots8_walk (c : Cg) (self : Int) (L : List Bl) (a : Option Addr) (n k : Nat) (x : Bl) (D : List (Int × Int)) (av : Option Addr) (vn vc : Nat) (w : World) (h : SlY yBlA w a n k L) (hlogs : ∀ y ∈ L, (y.In w ∧ y.s.D.length * 48 ≤ 140737488351232) ∧ ∀ e ∈ y.s.D, e.fits) (hx : (x.In w ∧ x.s.D.length * 48 ≤ 140737488351232) ∧ ∀ e ∈ x.s.D, e.fits) (hD : SlY yD w av vn vc D) (hm : n * 64 ≤ 140737488351232) (hmv : vn * 16 ≤ 140737488351232) (hm3 : (n + 3) * 64 ≤ 140737488355328) :
    Calls Tryz.prog 4 #[.agg #[.int .i64 c.F, .int .i64 c.R, .int .i64 c.P, .bool c.u], .int .i64 self, .slice a n k, .agg #[.int .i64 x.n, .int .u64 x.h, .int .u64 x.l, .int .i64 x.v, .int .i64 x.c, .slice x.s.a x.s.D.length x.s.c], .slice av vn vc] w fun e w' => e = .returned (.bool true) ∧ Below w.heap.size w w' := by
  have H := hide h
  have HD := hide hD
  have HN := hide h.len
  have HLL := hide hlogs
  have HX := hide hx
  clear h hD hlogs hx
  have B0 : Hid (Below w.heap.size w (((w.alloc (.cells #[.int .i64 c.F, .int .i64 c.R, .int .i64 c.P, .bool c.u] 23)).alloc (.cells #[.int .i64 x.n, .int .u64 x.h, .int .u64 x.l, .int .i64 x.v, .int .i64 x.c, .slice x.s.a x.s.D.length x.s.c] 53)).alloc (.cells #[.slice none 0 0, .slice none 0 0, .slice none 0 0, .slice none 0 0, .slice none 0 0, .slice none 0 0, .slice none 0 0, .slice none 0 0, .slice none 0 0, .slice none 0 0] 38))) := (((Below.refl _ w).alloc (Nat.le_refl _) _).alloc (by simp) _).alloc (by simp; omega) _
  have hwz : Hid ((((w.alloc (.cells #[.int .i64 c.F, .int .i64 c.R, .int .i64 c.P, .bool c.u] 23)).alloc (.cells #[.int .i64 x.n, .int .u64 x.h, .int .u64 x.l, .int .i64 x.v, .int .i64 x.c, .slice x.s.a x.s.D.length x.s.c] 53)).alloc (.cells #[.slice none 0 0, .slice none 0 0, .slice none 0 0, .slice none 0 0, .slice none 0 0, .slice none 0 0, .slice none 0 0, .slice none 0 0, .slice none 0 0, .slice none 0 0] 38)).heap.size = w.heap.size + 3) := by show _ = _; simp
  have G0 : Hid (GM (((w.alloc (.cells #[.int .i64 c.F, .int .i64 c.R, .int .i64 c.P, .bool c.u] 23)).alloc (.cells #[.int .i64 x.n, .int .u64 x.h, .int .u64 x.l, .int .i64 x.v, .int .i64 x.c, .slice x.s.a x.s.D.length x.s.c] 53)).alloc (.cells #[.slice none 0 0, .slice none 0 0, .slice none 0 0, .slice none 0 0, .slice none 0 0, .slice none 0 0, .slice none 0 0, .slice none 0 0, .slice none 0 0, .slice none 0 0] 38)) (w.heap.size + 2) (w.heap.size + 3) (.slice none 0 0) (.slice none 0 0) (.slice none 0 0) (.slice none 0 0) [] [] [] []) := by
    have := GM.new ((w.alloc (.cells #[.int .i64 c.F, .int .i64 c.R, .int .i64 c.P, .bool c.u] 23)).alloc (.cells #[.int .i64 x.n, .int .u64 x.h, .int .u64 x.l, .int .i64 x.v, .int .i64 x.c, .slice x.s.a x.s.D.length x.s.c] 53)) 38
    rw [show ((w.alloc (.cells #[.int .i64 c.F, .int .i64 c.R, .int .i64 c.P, .bool c.u] 23)).alloc (.cells #[.int .i64 x.n, .int .u64 x.h, .int .u64 x.l, .int .i64 x.v, .int .i64 x.c, .slice x.s.a x.s.D.length x.s.c] 53)).heap.size = w.heap.size + 2 from by simp] at this
    exact this
  have KC0 : Hid (((((w.alloc (.cells #[.int .i64 c.F, .int .i64 c.R, .int .i64 c.P, .bool c.u] 23)).alloc (.cells #[.int .i64 x.n, .int .u64 x.h, .int .u64 x.l, .int .i64 x.v, .int .i64 x.c, .slice x.s.a x.s.D.length x.s.c] 53)).alloc (.cells #[.slice none 0 0, .slice none 0 0, .slice none 0 0, .slice none 0 0, .slice none 0 0, .slice none 0 0, .slice none 0 0, .slice none 0 0, .slice none 0 0, .slice none 0 0] 38)).cell? ⟨w.heap.size, 0, none⟩ = some (.int .i64 c.F) ∧ (((w.alloc (.cells #[.int .i64 c.F, .int .i64 c.R, .int .i64 c.P, .bool c.u] 23)).alloc (.cells #[.int .i64 x.n, .int .u64 x.h, .int .u64 x.l, .int .i64 x.v, .int .i64 x.c, .slice x.s.a x.s.D.length x.s.c] 53)).alloc (.cells #[.slice none 0 0, .slice none 0 0, .slice none 0 0, .slice none 0 0, .slice none 0 0, .slice none 0 0, .slice none 0 0, .slice none 0 0, .slice none 0 0, .slice none 0 0] 38)).cell? ⟨w.heap.size, 1, none⟩ = some (.int .i64 c.R) ∧ (((w.alloc (.cells #[.int .i64 c.F, .int .i64 c.R, .int .i64 c.P, .bool c.u] 23)).alloc (.cells #[.int .i64 x.n, .int .u64 x.h, .int .u64 x.l, .int .i64 x.v, .int .i64 x.c, .slice x.s.a x.s.D.length x.s.c] 53)).alloc (.cells #[.slice none 0 0, .slice none 0 0, .slice none 0 0, .slice none 0 0, .slice none 0 0, .slice none 0 0, .slice none 0 0, .slice none 0 0, .slice none 0 0, .slice none 0 0] 38)).cell? ⟨w.heap.size, 2, none⟩ = some (.int .i64 c.P) ∧ (((w.alloc (.cells #[.int .i64 c.F, .int .i64 c.R, .int .i64 c.P, .bool c.u] 23)).alloc (.cells #[.int .i64 x.n, .int .u64 x.h, .int .u64 x.l, .int .i64 x.v, .int .i64 x.c, .slice x.s.a x.s.D.length x.s.c] 53)).alloc (.cells #[.slice none 0 0, .slice none 0 0, .slice none 0 0, .slice none 0 0, .slice none 0 0, .slice none 0 0, .slice none 0 0, .slice none 0 0, .slice none 0 0, .slice none 0 0] 38)).cell? ⟨w.heap.size, 3, none⟩ = some (.bool c.u)) ∧ ((((w.alloc (.cells #[.int .i64 c.F, .int .i64 c.R, .int .i64 c.P, .bool c.u] 23)).alloc (.cells #[.int .i64 x.n, .int .u64 x.h, .int .u64 x.l, .int .i64 x.v, .int .i64 x.c, .slice x.s.a x.s.D.length x.s.c] 53)).alloc (.cells #[.slice none 0 0, .slice none 0 0, .slice none 0 0, .slice none 0 0, .slice none 0 0, .slice none 0 0, .slice none 0 0, .slice none 0 0, .slice none 0 0, .slice none 0 0] 38)).cell? ⟨w.heap.size + 1, 0, none⟩ = some (.int .i64 x.n) ∧ (((w.alloc (.cells #[.int .i64 c.F, .int .i64 c.R, .int .i64 c.P, .bool c.u] 23)).alloc (.cells #[.int .i64 x.n, .int .u64 x.h, .int .u64 x.l, .int .i64 x.v, .int .i64 x.c, .slice x.s.a x.s.D.length x.s.c] 53)).alloc (.cells #[.slice none 0 0, .slice none 0 0, .slice none 0 0, .slice none 0 0, .slice none 0 0, .slice none 0 0, .slice none 0 0, .slice none 0 0, .slice none 0 0, .slice none 0 0] 38)).cell? ⟨w.heap.size + 1, 1, none⟩ = some (.int .u64 x.h) ∧ (((w.alloc (.cells #[.int .i64 c.F, .int .i64 c.R, .int .i64 c.P, .bool c.u] 23)).alloc (.cells #[.int .i64 x.n, .int .u64 x.h, .int .u64 x.l, .int .i64 x.v, .int .i64 x.c, .slice x.s.a x.s.D.length x.s.c] 53)).alloc (.cells #[.slice none 0 0, .slice none 0 0, .slice none 0 0, .slice none 0 0, .slice none 0 0, .slice none 0 0, .slice none 0 0, .slice none 0 0, .slice none 0 0, .slice none 0 0] 38)).cell? ⟨w.heap.size + 1, 2, none⟩ = some (.int .u64 x.l) ∧ (((w.alloc (.cells #[.int .i64 c.F, .int .i64 c.R, .int .i64 c.P, .bool c.u] 23)).alloc (.cells #[.int .i64 x.n, .int .u64 x.h, .int .u64 x.l, .int .i64 x.v, .int .i64 x.c, .slice x.s.a x.s.D.length x.s.c] 53)).alloc (.cells #[.slice none 0 0, .slice none 0 0, .slice none 0 0, .slice none 0 0, .slice none 0 0, .slice none 0 0, .slice none 0 0, .slice none 0 0, .slice none 0 0, .slice none 0 0] 38)).cell? ⟨w.heap.size + 1, 3, none⟩ = some (.int .i64 x.v) ∧ (((w.alloc (.cells #[.int .i64 c.F, .int .i64 c.R, .int .i64 c.P, .bool c.u] 23)).alloc (.cells #[.int .i64 x.n, .int .u64 x.h, .int .u64 x.l, .int .i64 x.v, .int .i64 x.c, .slice x.s.a x.s.D.length x.s.c] 53)).alloc (.cells #[.slice none 0 0, .slice none 0 0, .slice none 0 0, .slice none 0 0, .slice none 0 0, .slice none 0 0, .slice none 0 0, .slice none 0 0, .slice none 0 0, .slice none 0 0] 38)).cell? ⟨w.heap.size + 1, 4, none⟩ = some (.int .i64 x.c) ∧ (((w.alloc (.cells #[.int .i64 c.F, .int .i64 c.R, .int .i64 c.P, .bool c.u] 23)).alloc (.cells #[.int .i64 x.n, .int .u64 x.h, .int .u64 x.l, .int .i64 x.v, .int .i64 x.c, .slice x.s.a x.s.D.length x.s.c] 53)).alloc (.cells #[.slice none 0 0, .slice none 0 0, .slice none 0 0, .slice none 0 0, .slice none 0 0, .slice none 0 0, .slice none 0 0, .slice none 0 0, .slice none 0 0, .slice none 0 0] 38)).cell? ⟨w.heap.size + 1, 5, none⟩ = some (.slice x.s.a x.s.D.length x.s.c))) := ⟨⟨by go_simp, by go_simp, by go_simp, by go_simp⟩, by go_simp, by go_simp, by go_simp, by go_simp, by go_simp, by go_simp⟩
  have cl := hide (Bl.lent_any L a n k (w.heap.size + 2) (w.heap.size + 3) w (((w.alloc (.cells #[.int .i64 c.F, .int .i64 c.R, .int .i64 c.P, .bool c.u] 23)).alloc (.cells #[.int .i64 x.n, .int .u64 x.h, .int .u64 x.l, .int .i64 x.v, .int .i64 x.c, .slice x.s.a x.s.D.length x.s.c] 53)).alloc (.cells #[.slice none 0 0, .slice none 0 0, .slice none 0 0, .slice none 0 0, .slice none 0 0, .slice none 0 0, .slice none 0 0, .slice none 0 0, .slice none 0 0, .slice none 0 0] 38)) H.out (fun y hy => (HLL.out y hy).1) B0.out (by omega) G0.out hm)
  rw [hwz.out] at cl
  go_enter Tryz.func4, Tryz.ntmps4
  go_wp2_with fail
  refine cl.out.mono ?_
  rintro e w1 ⟨g, c1, R, va, vb, La, Lb, rfl, hc1, o1, C1, G1', hmap, hLal, hva, hvb, u1⟩
  have U1 := hide u1
  have OR1 := hide o1
  have G1 := hide G1'
  have z1 := u1.size
  rw [hwz.out] at z1
  have C5 := hide C1.likes
  have LN := hide C1
  clear o1 G1' cl u1 G0 C1
  generalize hw0 : (((w.alloc (.cells #[.int .i64 c.F, .int .i64 c.R, .int .i64 c.P, .bool c.u] 23)).alloc (.cells #[.int .i64 x.n, .int .u64 x.h, .int .u64 x.l, .int .i64 x.v, .int .i64 x.c, .slice x.s.a x.s.D.length x.s.c] 53)).alloc (.cells #[.slice none 0 0, .slice none 0 0, .slice none 0 0, .slice none 0 0, .slice none 0 0, .slice none 0 0, .slice none 0 0, .slice none 0 0, .slice none 0 0, .slice none 0 0] 38)) = w0 at *
  clear hw0
  have E1 : Hid (Below w.heap.size w w1) := B0.out.trans (U1.out.below B0.out.size (fun k e => by subst e; omega))
  have cg := hide (given_vecM (w.heap.size + 2) (w.heap.size + 3) _ _ va vb [] [] La Lb av vn vc D w1 G1.out (HD.out.later E1.out) hmv (by decide) rfl)
  try dsimp only
  go_wp2_with fail
  refine cg.out.mono ?_
  rintro e w2 ⟨gv, cv, va2, vb2, g5, k5, rfl, sv, hgv, G2', u2, nva2, nvb2⟩
  have hn2 : ∀ b : Nat, (b = w.heap.size + 2 ∨ (Value.slice none 0 0).ownBlock = some b ∨ (Value.slice none 0 0).ownBlock = some b) → b = w.heap.size + 2 := fun b hc => by
    rcases hc with hc | hc | hc
    · exact hc
    · cases hc
    · cases hc
  have U2 : Hid (Upd (· = w.heap.size + 2) w0 w2) := U1.out.trans9 u2 (fun i _ hc => hn2 i hc)
  have OR2 := hide (OR1.out.upd1 u2 (fun b e hc => by have h1 := (OR1.out.blk b e).1; have h2 := hn2 b hc; omega))
  have G2 := hide G2'
  have z2 := u2.size
  have HOR : Hid (∀ b, (Value.slice (some ⟨g, 0, none⟩) (n + 1) c1).ownBlock = some b → b < w2.heap.size) := fun b e => (OR2.out.blk b e).2
  clear sv hgv G2' u2 nva2 nvb2 hn2 cg G1 OR1 U1
  -- one := x
  have E2 : Hid (Below w.heap.size w w2) := B0.out.trans (U2.out.below B0.out.size (fun k e => by subst e; omega))
  have oz : OwnY yBlA w2.heap.size (w2.alloc (.cells #[.int .i64 0, .int .u64 0, .int .u64 0, .int .i64 0, .int .i64 0, .slice none 0 0] 53)) (.slice (some ⟨w2.heap.size, 0, none⟩) 1 1) [⟨0, 0, 0, 0, 0, ⟨none, 0, []⟩⟩] := own_box kBlA w2.heap.size w2 ⟨0, 0, 0, 0, 0, ⟨none, 0, []⟩⟩ (Nat.le_refl _)
  have OZ := hide oz
  have hza : Hid ((w2.alloc (.cells #[.int .i64 0, .int .u64 0, .int .u64 0, .int .i64 0, .int .i64 0, .slice none 0 0] 53)).heap.size = w2.heap.size + 1) := by show _ = _; simp
  have BA : Hid (Below w2.heap.size w2 (w2.alloc (.cells #[.int .i64 0, .int .u64 0, .int .u64 0, .int .i64 0, .int .i64 0, .slice none 0 0] 53))) := (Below.refl _ _).alloc (Nat.le_refl _) _
  clear oz
  obtain ⟨x0, x1, x2, x3, x4, x5⟩ : w2.cell? ⟨w.heap.size + 1, 0, none⟩ = some (.int .i64 x.n) ∧ w2.cell? ⟨w.heap.size + 1, 1, none⟩ = some (.int .u64 x.h) ∧ w2.cell? ⟨w.heap.size + 1, 2, none⟩ = some (.int .u64 x.l) ∧ w2.cell? ⟨w.heap.size + 1, 3, none⟩ = some (.int .i64 x.v) ∧ w2.cell? ⟨w.heap.size + 1, 4, none⟩ = some (.int .i64 x.c) ∧ w2.cell? ⟨w.heap.size + 1, 5, none⟩ = some (.slice x.s.a x.s.D.length x.s.c) := ⟨(U2.out.cell (p := ⟨w.heap.size + 1, 0, none⟩) (by rw [hwz.out]; show w.heap.size + 1 < _; omega) (by show w.heap.size + 1 ≠ _; omega)).trans KC0.out.2.1, (U2.out.cell (p := ⟨w.heap.size + 1, 1, none⟩) (by rw [hwz.out]; show w.heap.size + 1 < _; omega) (by show w.heap.size + 1 ≠ _; omega)).trans KC0.out.2.2.1, (U2.out.cell (p := ⟨w.heap.size + 1, 2, none⟩) (by rw [hwz.out]; show w.heap.size + 1 < _; omega) (by show w.heap.size + 1 ≠ _; omega)).trans KC0.out.2.2.2.1, (U2.out.cell (p := ⟨w.heap.size + 1, 3, none⟩) (by rw [hwz.out]; show w.heap.size + 1 < _; omega) (by show w.heap.size + 1 ≠ _; omega)).trans KC0.out.2.2.2.2.1, (U2.out.cell (p := ⟨w.heap.size + 1, 4, none⟩) (by rw [hwz.out]; show w.heap.size + 1 < _; omega) (by show w.heap.size + 1 ≠ _; omega)).trans KC0.out.2.2.2.2.2.1, (U2.out.cell (p := ⟨w.heap.size + 1, 5, none⟩) (by rw [hwz.out]; show w.heap.size + 1 < _; omega) (by show w.heap.size + 1 ≠ _; omega)).trans KC0.out.2.2.2.2.2.2⟩
  go_wp2_with (refine storeY kBlA _ rfl 53 (.tmp 14) (.tmp 23) rfl w2.heap.size w2.heap.size 1 1 [⟨0, 0, 0, 0, 0, ⟨none, 0, []⟩⟩] 0 0 ⟨0, 0, 0, 0, 0, ⟨none, 0, []⟩⟩ x _ rfl rfl rfl (by kernel_rfl) (by exact (by decide : 6 ≤ 6)) rfl OZ.out ?za)
  intro w3 o3 u3 z3
  have OB3 := hide o3
  have B3 := hide (BA.out.trans (u3.below (by rw [hza.out]; omega) (fun k e => by subst e; exact Nat.le_refl _)))
  have z3' : w3.heap.size = w2.heap.size + 1 := by first | exact z3 | exact z3.trans hza.out
  have Z3 := hide z3'
  clear o3 u3 z3 z3' OZ BA hza x0 x1 x2 x3 x4 x5
  have U3 : Hid (Upd (· = w.heap.size + 2) w0 w3) := U2.out.trans (Upd.of_below B3.out)
  have G3 := hide (G2.out.bel B3.out)
  have OR3 := hide (OR2.out.grow B3.out)
  have E3 : Hid (Below w.heap.size w w3) := B0.out.trans (U3.out.below B0.out.size (fun k e => by subst e; omega))
  clear G2 OR2 B3
  have x5 : w3.cell? ⟨w.heap.size + 1, 5, none⟩ = some (.slice x.s.a x.s.D.length x.s.c) := (U3.out.cell (p := ⟨w.heap.size + 1, 5, none⟩) (by rw [hwz.out]; show w.heap.size + 1 < _; omega) (by show w.heap.size + 1 ≠ _; omega)).trans KC0.out.2.2.2.2.2.2
  have cg := hide (given_entM (w.heap.size + 2) (w.heap.size + 3) _ _ va vb _ _ La Lb x.s.a x.s.D.length x.s.c x.s.D w3 G3.out (HX.out.1.1.later E3.out).1 HX.out.1.2 (by omega) (by have h1 := congrArg List.length hmap; simpa using h1.symm))
  go_wp2_with fail
  refine cg.out.mono ?_
  rintro e w4 ⟨g4, c4, va4, vb4, g6, k6, rfl, s4, hg4, G4', u4, _, _⟩
  have hne : ∀ {v : Value} {B' : Nat} {l : List Bl}, OwnY yBlA B' w3 v l → w.heap.size + 2 < B' → ∀ b, v.ownBlock = some b → ¬ (b = w.heap.size + 2 ∨ va.ownBlock = some b ∨ vb.ownBlock = some b) := fun ho hB b e hc => by
    rcases hc with hc | hc | hc
    · have := (ho.blk b e).1; omega
    · exact ho.apart G3.out.o4 hTBBl b e hc
    · exact ho.apart G3.out.o5 hTBBl b e hc
  have U4 : Hid (Upd (· = w.heap.size + 2) w0 w4) := U3.out.trans9 u4 (fun i hi hc => by
    rw [hwz.out] at hi
    rcases hc with hc | hc | hc
    · exact hc
    · have := hva i hc; omega
    · have := hvb i hc; omega)
  have OB4 := hide (OB3.out.upd1 u4 (hne OB3.out (by omega)))
  have OR4 := hide (OR3.out.upd1 u4 (hne OR3.out (by omega)))
  have G4 := hide G4'
  have Z4 : Hid (w2.heap.size + 1 ≤ w4.heap.size) := by show _ ≤ _; rw [← Z3.out]; exact u4.size
  have LN4 := hide (LN.out.more (Lb := La ++ [⟨some ⟨g4, 0, none⟩, c4, x.s.D ++ [mkE]⟩]) (fun z hz => List.mem_append_left _ hz))
  clear cg s4 hg4 G4' u4 hne G3 OB3 OR3 U3 x5 LN
  try dsimp only
  go_wp2_with (refine storeY kBlA _ rfl 51 (.tmp 27) (.tmp 26) rfl w2.heap.size w2.heap.size 1 1 [x] 0 5 x ({ x with s := ⟨some ⟨g4, 0, none⟩, c4, x.s.D⟩ } : Bl) _ rfl rfl rfl (by kernel_rfl) (by exact (by decide : 6 ≤ 6)) rfl OB4.out ?zb)
  intro w5 o5 u5 z5
  have OB5 := hide o5
  have U5 : Hid (Upd (· = w.heap.size + 2) w0 w5) := U4.out.trans9 u5 (fun i hi hc => by rw [hwz.out] at hi; have : i = w2.heap.size := hc; omega)
  have G5 := hide (G4.out.updT u5 (by show ¬ (w.heap.size + 2 = w2.heap.size); omega) (fun k hk hc => by subst hc; exact own_otherBl OB4.out _ rfl))
  have OR5 := hide (OR4.out.upd1 u5 (fun b e hc => by have h1 : b = w2.heap.size := hc; have h2 := HOR.out b e; omega))
  clear o5 u5 z5 OB4 OR4 G4 U4
  have E5 : Hid (Below w.heap.size w w5) := B0.out.trans (U5.out.below B0.out.size (fun k e => by subst e; omega))
  have KC : Hid (∀ v, Below w5.heap.size w5 v → (v.cell? ⟨w.heap.size, 0, none⟩ = some (.int .i64 c.F) ∧ v.cell? ⟨w.heap.size, 1, none⟩ = some (.int .i64 c.R) ∧ v.cell? ⟨w.heap.size, 2, none⟩ = some (.int .i64 c.P) ∧ v.cell? ⟨w.heap.size, 3, none⟩ = some (.bool c.u)) ∧ (v.cell? ⟨w.heap.size + 1, 0, none⟩ = some (.int .i64 x.n) ∧ v.cell? ⟨w.heap.size + 1, 1, none⟩ = some (.int .u64 x.h) ∧ v.cell? ⟨w.heap.size + 1, 2, none⟩ = some (.int .u64 x.l) ∧ v.cell? ⟨w.heap.size + 1, 3, none⟩ = some (.int .i64 x.v) ∧ v.cell? ⟨w.heap.size + 1, 4, none⟩ = some (.int .i64 x.c) ∧ v.cell? ⟨w.heap.size + 1, 5, none⟩ = some (.slice x.s.a x.s.D.length x.s.c)) ∧ (v.cell? ⟨w2.heap.size, 0, none⟩ = some (.int .i64 x.n) ∧ v.cell? ⟨w2.heap.size, 1, none⟩ = some (.int .u64 x.h) ∧ v.cell? ⟨w2.heap.size, 2, none⟩ = some (.int .u64 x.l) ∧ v.cell? ⟨w2.heap.size, 3, none⟩ = some (.int .i64 x.v) ∧ v.cell? ⟨w2.heap.size, 4, none⟩ = some (.int .i64 x.c) ∧ v.cell? ⟨w2.heap.size, 5, none⟩ = some (.slice (some ⟨g4, 0, none⟩) x.s.D.length c4))) := fun v hv => by
    have ob := OB5.out.grow hv
    have v0 := ob.cell kBlA 0 _ rfl 0 _ rfl
    have v1 := ob.cell kBlA 0 _ rfl 1 _ rfl
    have v2 := ob.cell kBlA 0 _ rfl 2 _ rfl
    have v3 := ob.cell kBlA 0 _ rfl 3 _ rfl
    have v4 := ob.cell kBlA 0 _ rfl 4 _ rfl
    have v5 := ob.cell kBlA 0 _ rfl 5 _ rfl
    simp only [Nat.zero_mul, Nat.zero_add] at v0 v1 v2 v3 v4 v5
    have uv : Upd (· = w.heap.size + 2) w0 v := U5.out.trans (Upd.of_below hv)
    exact ⟨⟨(uv.cell (p := ⟨w.heap.size, 0, none⟩) (by rw [hwz.out]; show w.heap.size < _; omega) (by show w.heap.size ≠ _; omega)).trans KC0.out.1.1, (uv.cell (p := ⟨w.heap.size, 1, none⟩) (by rw [hwz.out]; show w.heap.size < _; omega) (by show w.heap.size ≠ _; omega)).trans KC0.out.1.2.1, (uv.cell (p := ⟨w.heap.size, 2, none⟩) (by rw [hwz.out]; show w.heap.size < _; omega) (by show w.heap.size ≠ _; omega)).trans KC0.out.1.2.2.1, (uv.cell (p := ⟨w.heap.size, 3, none⟩) (by rw [hwz.out]; show w.heap.size < _; omega) (by show w.heap.size ≠ _; omega)).trans KC0.out.1.2.2.2⟩, ⟨(uv.cell (p := ⟨w.heap.size + 1, 0, none⟩) (by rw [hwz.out]; show w.heap.size + 1 < _; omega) (by show w.heap.size + 1 ≠ _; omega)).trans KC0.out.2.1, (uv.cell (p := ⟨w.heap.size + 1, 1, none⟩) (by rw [hwz.out]; show w.heap.size + 1 < _; omega) (by show w.heap.size + 1 ≠ _; omega)).trans KC0.out.2.2.1, (uv.cell (p := ⟨w.heap.size + 1, 2, none⟩) (by rw [hwz.out]; show w.heap.size + 1 < _; omega) (by show w.heap.size + 1 ≠ _; omega)).trans KC0.out.2.2.2.1, (uv.cell (p := ⟨w.heap.size + 1, 3, none⟩) (by rw [hwz.out]; show w.heap.size + 1 < _; omega) (by show w.heap.size + 1 ≠ _; omega)).trans KC0.out.2.2.2.2.1, (uv.cell (p := ⟨w.heap.size + 1, 4, none⟩) (by rw [hwz.out]; show w.heap.size + 1 < _; omega) (by show w.heap.size + 1 ≠ _; omega)).trans KC0.out.2.2.2.2.2.1, (uv.cell (p := ⟨w.heap.size + 1, 5, none⟩) (by rw [hwz.out]; show w.heap.size + 1 < _; omega) (by show w.heap.size + 1 ≠ _; omega)).trans KC0.out.2.2.2.2.2.2⟩, v0, v1, v2, v3, v4, v5⟩
  have hRn : R.length = n := C5.out.len.trans HN.out
  have SR5 : Hid (SlY yBlA w5 (some ⟨g, 0, none⟩) n c1 R) := OR5.out.front kBlA hRn
  have SR6 : Hid (SlY yBlA w5 (some ⟨g, 0, none⟩) (n + 1) c1 (R ++ [Bl.z77])) := OR5.out.sl' kBlA
  have IR5 := hide (LN4.out.In G5.out)
  have FR5 : Hid (∀ y ∈ R, ∀ e ∈ y.s.D, e.fits) := fun y hy => by
    obtain ⟨i, hi, rfl⟩ := List.mem_iff_getElem.1 hy
    have hi2 : i < L.length := by rw [HN.out, ← hRn]; exact hi
    have hk := C5.out.at_ i _ _ (List.getElem?_eq_getElem hi2) (List.getElem?_eq_getElem hi)
    rw [hk.2.2.2.2.2]
    exact (HLL.out _ (List.getElem_mem hi2)).2
  have IX5 : Hid (({ x with s := ⟨some ⟨g4, 0, none⟩, c4, x.s.D⟩ } : Bl).In w5 ∧ x.s.D.length * 48 ≤ 140737488351232) := ⟨⟨lent_in G5.out (s := ⟨some ⟨g4, 0, none⟩, c4, x.s.D⟩) ⟨g4, rfl⟩ (by simp), by show x.s.D.length * 48 ≤ _; have := HX.out.1.2; omega⟩, HX.out.1.2⟩
  have SV5 : Hid (SlY yD w5 (some ⟨gv, 0, none⟩) vn cv D) := (G5.out.m2 ⟨some ⟨gv, 0, none⟩, cv, D ++ [mkD]⟩ (by simp)).front kD HD.out.len
  have HL5 := hide (H.out.later E5.out)
  have HD5 := hide (HD.out.later E5.out)
  have IL5 : Hid (∀ y ∈ L, y.In w5 ∧ y.s.D.length * 48 ≤ 140737488351232) := fun y hy => ⟨(HLL.out y hy).1.1.later E5.out, (HLL.out y hy).1.2⟩
  have IXX : Hid (x.In w5 ∧ x.s.D.length * 48 ≤ 140737488351232) := ⟨HX.out.1.1.later E5.out, HX.out.1.2⟩
  have HPL : Hid (Bl.Likes (Bl.put L x) (Bl.put R ({ x with s := ⟨some ⟨g4, 0, none⟩, c4, x.s.D⟩ } : Bl))) := C5.out.put ⟨rfl, rfl, rfl, rfl, rfl, rfl⟩
  have HRL : Hid (Bl.Likes (Bl.prn L D) (Bl.prn R D)) := C5.out.prn D
  have HMP : Hid ((La ++ [(⟨some ⟨g4, 0, none⟩, c4, x.s.D ++ [mkE]⟩ : SV En)]).map (·.D) = (Lb ++ [(⟨some ⟨g6, 0, none⟩, k6, x.s.D ++ [mkE]⟩ : SV En)]).map (·.D)) := by show _ = _; rw [List.map_append, List.map_append, hmap]; rfl
  have c1' : Hid (∀ W, Below w5.heap.size w5 W → Calls Tryz.prog 22 #[.agg #[.int .i64 c.F, .int .i64 c.R, .int .i64 c.P, .bool c.u], .int .i64 self, .slice (some ⟨g, 0, none⟩) n c1] W fun e w' => e = .returned (.int .i64 (Bl.ck c self L)) ∧ Below W.heap.size W w') := fun W hW => by
    have := Bl.Check_any c self R (some ⟨g, 0, none⟩) n c1 W (SR5.out.later hW) (by omega) (fun y hy => ⟨(IR5.out y hy).1.later hW, FR5.out y hy⟩)
    rw [C5.out.ck c self] at this
    exact this
  have c2 := hide (fun W (hW : Below w5.heap.size w5 W) => refcheckballots_any c self L a n k W (HL5.out.later hW) (fun y hy => ⟨(IL5.out y hy).1.later hW, (HLL.out y hy).2⟩))
  generalize Bl.ck c self L = CK at *
  have c3 := hide (fun W (hW : Below w5.heap.size w5 W) => Bl.Put_any R ({ x with s := ⟨some ⟨g4, 0, none⟩, c4, x.s.D⟩ } : Bl) (some ⟨g, 0, none⟩) n c1 W (SR5.out.later hW) (fun y hy => (IR5.out y hy).1.later hW) (IX5.out.1.later hW) (by omega))
  unfold Bl.val at c3
  dsimp only at c3
  have c4' := hide (fun W (hW : Below w5.heap.size w5 W) => refputballot_any L x a n k W (HL5.out.later hW) (fun y hy => ⟨(IL5.out y hy).1.later hW, (IL5.out y hy).2⟩) ⟨IXX.out.1.later hW, IXX.out.2⟩ hm3)
  have c6 := hide (fun W (hW : Below w5.heap.size w5 W) => Bl.Prune_any R D (some ⟨g, 0, none⟩) (some ⟨gv, 0, none⟩) n c1 vn cv W (SR5.out.later hW) (SV5.out.later hW) (fun y hy => (IR5.out y hy).1.later hW) (by omega))
  have c7 := hide (fun W (hW : Below w5.heap.size w5 W) => refpruneballots_any L D a av n k vn vc W (HL5.out.later hW) (HD5.out.later hW) (fun y hy => ⟨(IL5.out y hy).1.later hW, (IL5.out y hy).2⟩) (by omega))
  obtain ⟨E, hE⟩ : ∃ E : Int, E = if (n : Int) < c.F then 81 else 0 := ⟨_, rfl⟩
  obtain ⟨Z, hZ⟩ : ∃ Z : Bl, Z = if (n : Int) < c.F then (⟨0, 0, 0, 0, 0, ⟨none, 0, []⟩⟩ : Bl).nrm else (chs x L).nrm := ⟨_, rfl⟩
  have hchs : (chs ({ x with s := ⟨some ⟨g4, 0, none⟩, c4, x.s.D⟩ } : Bl) R).nrm = (chs x L).nrm := chs_like C5.out (show Bl.Like x ({ x with s := ⟨some ⟨g4, 0, none⟩, c4, x.s.D⟩ } : Bl) from ⟨rfl, rfl, rfl, rfl, rfl, rfl⟩)
  have d1 : Hid (∀ W, Below w5.heap.size w5 W → Calls Tryz.prog 29 #[.int .i64 c.F, .agg #[.int .i64 x.n, .int .u64 x.h, .int .u64 x.l, .int .i64 x.v, .int .i64 x.c, .slice (some ⟨g4, 0, none⟩) x.s.D.length c4], .slice (some ⟨g, 0, none⟩) n c1] W fun e w' => ∃ Y : Bl, e = .returned (.tuple #[.agg #[.int .i64 Y.n, .int .u64 Y.h, .int .u64 Y.l, .int .i64 Y.v, .int .i64 Y.c, .slice Y.s.a Y.s.D.length Y.s.c], .int .i64 E]) ∧ Y.nrm = Z ∧ Y.In w' ∧ Below W.heap.size W w') := fun W hW => by
    refine (choose_any c.F ({ x with s := ⟨some ⟨g4, 0, none⟩, c4, x.s.D⟩ } : Bl) R (some ⟨g, 0, none⟩) n c1 W (SR5.out.later hW) (fun y hy => (IR5.out y hy).1.later hW) (IX5.out.1.later hW)).mono ?_
    rintro e w' ⟨h1, h2⟩
    rw [hE, hZ]
    by_cases hn : (n : Int) < c.F
    · rw [if_pos hn] at h1 ⊢
      rw [if_pos hn]
      exact ⟨⟨0, 0, 0, 0, 0, ⟨none, 0, []⟩⟩, h1, rfl, ⟨SlY.empty _ _ _, by simp⟩, h2⟩
    · rw [if_neg hn] at h1 ⊢
      rw [if_neg hn]
      obtain ⟨y, e1, ht⟩ := h1
      exact ⟨y, e1, by rw [ht.like.nrm, hchs], ht.In, h2⟩
  have d2 : Hid (∀ W, Below w5.heap.size w5 W → Calls Tryz.prog 30 #[.int .i64 c.F, .agg #[.int .i64 x.n, .int .u64 x.h, .int .u64 x.l, .int .i64 x.v, .int .i64 x.c, .slice x.s.a x.s.D.length x.s.c], .slice a n k] W fun e w' => ∃ Y : Bl, e = .returned (.tuple #[.agg #[.int .i64 Y.n, .int .u64 Y.h, .int .u64 Y.l, .int .i64 Y.v, .int .i64 Y.c, .slice Y.s.a Y.s.D.length Y.s.c], .int .i64 E]) ∧ Y.nrm = Z ∧ Y.In w' ∧ Below W.heap.size W w') := fun W hW => by
    refine (refchoose_any c.F x L a n k W (HL5.out.later hW) (fun y hy => ⟨(IL5.out y hy).1.later hW, (IL5.out y hy).2⟩) ⟨IXX.out.1.later hW, IXX.out.2⟩).mono ?_
    rintro e w' ⟨h1, h2⟩
    rw [hE, hZ]
    by_cases hn : (n : Int) < c.F
    · rw [if_pos hn] at h1 ⊢
      rw [if_pos hn]
      exact ⟨⟨0, 0, 0, 0, 0, ⟨none, 0, []⟩⟩, h1, rfl, ⟨SlY.empty _ _ _, by simp⟩, h2⟩
    · rw [if_neg hn] at h1 ⊢
      rw [if_neg hn]
      obtain ⟨y, e1, ht⟩ := h1
      exact ⟨y, e1, ht.1.nrm, ht.In, h2⟩
  clear hE hZ hchs
  have ck1 := hide (fun W (hW : Below w5.heap.size w5 W) => Bl.kept_any L R g c1 a n k W (SR5.out.later hW) (SR6.out.later hW) (HL5.out.later hW) C5.out (fun y hy => (IL5.out y hy).1.later hW) (fun y hy => (IR5.out y hy).1.later hW))
  have ci1 := hide (fun W (hW : Below w5.heap.size w5 W) => intactM_any (w.heap.size + 2) (w.heap.size + 3) _ _ _ _ _ _ _ _ W (G5.out.bel hW) rfl HMP.out)
  generalize Bl.put L x = PL at *
  generalize Bl.put R ({ x with s := ⟨some ⟨g4, 0, none⟩, c4, x.s.D⟩ } : Bl) = PR at *
  generalize Bl.prn L D = QL at *
  generalize Bl.prn R D = QR at *
  clear SR5 SR6 IR5 FR5 IX5 SV5 HL5 HD5 IL5 IXX HMP G5 OR5 LN4 U5 OB5 HOR hmap hva hvb hLal U2 E1 E2 E3
  have s0 := KC.out _ (Below.refl w5.heap.size w5).drew
  have D0 : Hid (Below w5.heap.size w5 w5.drew) := (Below.refl _ _).drew
  try dsimp only
  go_wp2_with fail
  go_region_held3 (fun v => (v.cell? ⟨w.heap.size, 0, none⟩ = some (.int .i64 c.F) ∧ v.cell? ⟨w.heap.size, 1, none⟩ = some (.int .i64 c.R) ∧ v.cell? ⟨w.heap.size, 2, none⟩ = some (.int .i64 c.P) ∧ v.cell? ⟨w.heap.size, 3, none⟩ = some (.bool c.u)) ∧ (v.cell? ⟨w.heap.size + 1, 0, none⟩ = some (.int .i64 x.n) ∧ v.cell? ⟨w.heap.size + 1, 1, none⟩ = some (.int .u64 x.h) ∧ v.cell? ⟨w.heap.size + 1, 2, none⟩ = some (.int .u64 x.l) ∧ v.cell? ⟨w.heap.size + 1, 3, none⟩ = some (.int .i64 x.v) ∧ v.cell? ⟨w.heap.size + 1, 4, none⟩ = some (.int .i64 x.c) ∧ v.cell? ⟨w.heap.size + 1, 5, none⟩ = some (.slice x.s.a x.s.D.length x.s.c)) ∧ (v.cell? ⟨w2.heap.size, 0, none⟩ = some (.int .i64 x.n) ∧ v.cell? ⟨w2.heap.size, 1, none⟩ = some (.int .u64 x.h) ∧ v.cell? ⟨w2.heap.size, 2, none⟩ = some (.int .u64 x.l) ∧ v.cell? ⟨w2.heap.size, 3, none⟩ = some (.int .i64 x.v) ∧ v.cell? ⟨w2.heap.size, 4, none⟩ = some (.int .i64 x.c) ∧ v.cell? ⟨w2.heap.size, 5, none⟩ = some (.slice (some ⟨g4, 0, none⟩) x.s.D.length c4))) (with_reducible assumption) (first
    | (have := P12; go_at_call 24; refine (Bl.same_own _ _ _ _ _ P12.out.1 P12.out.2.2.1 (P12.out.2.1.likes.symm.trans (HRL.out.symm.trans P12.out.2.2.2.likes)) P12.out.2.1.In P12.out.2.2.2.In).mono ?_; rintro e w13 ⟨rfl, kk13, rfl⟩; have D13 := hide (belNN D12.out kk13); have t13 := KC.out _ D13.out; clear P12)
    | (have := P11; go_at_call 28; refine (c7.out _ D11.out).mono ?_; rintro e w12 ⟨v12, R12, rfl, o12, q12, b12⟩; have D12 := hide (D11.out.trans (b12.mono D11.out.size)); have P12 := hide (And.intro (P11.out.1.grow b12) (And.intro (P11.out.2.bel b12) (And.intro o12 q12))); have t12 := KC.out w12 D12.out; clear o12 q12 b12 P11)
    | (have := D10; go_at_call 27; refine (c6.out _ D10.out).mono ?_; rintro e w11 ⟨v11, R11, rfl, o11, q11, b11⟩; have D11 := hide (D10.out.trans (b11.mono D10.out.size)); have P11 := hide (And.intro o11 q11); have t11 := KC.out w11 D11.out; clear o11 q11 b11)
    | (have := P9; go_at_call 24; refine (Bl.same_own _ _ _ _ _ P9.out.1 P9.out.2.2.1 (P9.out.2.1.likes.symm.trans (HPL.out.symm.trans P9.out.2.2.2.likes)) P9.out.2.1.In P9.out.2.2.2.In).mono ?_; rintro e w10 ⟨rfl, kk10, rfl⟩; have D10 := hide (belNN D9.out kk10); have t10 := KC.out _ D10.out; clear P9)
    | (have := P8; go_at_call 26; refine (c4'.out _ D8.out).mono ?_; rintro e w9 ⟨v9, R9, rfl, o9, q9, b9⟩; have D9 := hide (D8.out.trans (b9.mono D8.out.size)); have P9 := hide (And.intro (P8.out.1.grow b9) (And.intro (P8.out.2.bel b9) (And.intro o9 q9))); have t9 := KC.out w9 D9.out; clear o9 q9 b9 P8)
    | (have := D7; go_at_call 25; refine (c3.out _ D7.out).mono ?_; rintro e w8 ⟨v8, R8, rfl, o8, q8, b8⟩; have D8 := hide (D7.out.trans (b8.mono D7.out.size)); have P8 := hide (And.intro o8 q8); have t8 := KC.out w8 D8.out; clear o8 q8 b8)
    | (have := D6; go_at_call 23; refine (c2.out _ D6.out).mono ?_; rintro e w7 ⟨rfl, b7⟩; have D7 := hide (D6.out.trans (b7.mono D6.out.size)); have t7 := KC.out w7 D7.out; clear b7)
    | (go_at_call 22; refine (c1'.out _ D0.out).mono ?_; rintro e w6 ⟨rfl, b6⟩; have D6 := hide (D0.out.trans (b6.mono D0.out.size)); have t6 := KC.out w6 D6.out; clear b6))
  generalize w12.drewN kk13 = w14 at *
  clear c1' c2 c3 c4' c6 c7 s0 HPL HRL
  obtain ⟨⟨k0, k1, k2, k3⟩, _, ⟨y0, y1, y2, y3, y4, y5⟩⟩ := KC.out _ D13.out
  clear t13
  go_wp2_with fail
  refine (d1.out _ D13.out).mono ?_
  rintro e w15 ⟨Y1, rfl, hY1, i1, b15⟩
  have HY1 := hide hY1
  have I1 := hide i1
  have D15 := hide (D13.out.trans (b15.mono D13.out.size))
  clear hY1 i1 b15 k0 k1 k2 k3 y0 y1 y2 y3 y4 y5 d1
  have OZ := hide (own_box kBlA w15.heap.size w15 (⟨0, 0, 0, 0, 0, ⟨none, 0, []⟩⟩ : Bl) (Nat.le_refl _))
  have hza : Hid ((w15.alloc (.cells #[.int .i64 0, .int .u64 0, .int .u64 0, .int .i64 0, .int .i64 0, .slice none 0 0] 53)).heap.size = w15.heap.size + 1) := by show _ = _; simp
  have BA : Hid (Below w15.heap.size w15 (w15.alloc (.cells #[.int .i64 0, .int .u64 0, .int .u64 0, .int .i64 0, .int .i64 0, .slice none 0 0] 53))) := (Below.refl _ _).alloc (Nat.le_refl _) _
  try dsimp only
  go_wp2_with (refine storeY kBlA _ rfl 53 (.tmp 15) (.tmp 63) rfl w15.heap.size w15.heap.size 1 1 [⟨0, 0, 0, 0, 0, ⟨none, 0, []⟩⟩] 0 0 ⟨0, 0, 0, 0, 0, ⟨none, 0, []⟩⟩ Y1 _ rfl rfl rfl (by kernel_rfl) (by exact (by decide : 6 ≤ 6)) rfl OZ.out ?zc)
  intro w16 o16 u16 z16
  have B16 := hide (BA.out.trans (u16.below (by rw [hza.out]; omega) (fun k e => by subst e; exact Nat.le_refl _)))
  have OA16 := hide o16
  have D16 := hide (D15.out.trans (B16.out.mono D15.out.size))
  have I16 := hide (I1.out.later B16.out)
  clear o16 u16 z16 OZ hza BA I1
  obtain ⟨⟨k0, k1, k2, k3⟩, ⟨x0, x1, x2, x3, x4, x5⟩, _⟩ := KC.out _ D16.out
  go_wp2_with fail
  refine (d2.out _ D16.out).mono ?_
  rintro e w17 ⟨Y2, rfl, hY2, i2, b17⟩
  have HY2 := hide hY2
  have I2 := hide i2
  have D17 := hide (D16.out.trans (b17.mono D16.out.size))
  have OA17 := hide (OA16.out.grow b17)
  have I17 := hide (I16.out.later b17)
  clear hY2 i2 b17 k0 k1 k2 k3 x0 x1 x2 x3 x4 x5 d2 OA16 I16
  have OZ := hide (own_box kBlA w17.heap.size w17 (⟨0, 0, 0, 0, 0, ⟨none, 0, []⟩⟩ : Bl) (Nat.le_refl _))
  have hza : Hid ((w17.alloc (.cells #[.int .i64 0, .int .u64 0, .int .u64 0, .int .i64 0, .int .i64 0, .slice none 0 0] 53)).heap.size = w17.heap.size + 1) := by show _ = _; simp
  have BA : Hid (Below w17.heap.size w17 (w17.alloc (.cells #[.int .i64 0, .int .u64 0, .int .u64 0, .int .i64 0, .int .i64 0, .slice none 0 0] 53))) := (Below.refl _ _).alloc (Nat.le_refl _) _
  try dsimp only
  go_wp2_with (refine storeY kBlA _ rfl 53 (.tmp 17) (.tmp 71) rfl w17.heap.size w17.heap.size 1 1 [⟨0, 0, 0, 0, 0, ⟨none, 0, []⟩⟩] 0 0 ⟨0, 0, 0, 0, 0, ⟨none, 0, []⟩⟩ Y2 _ rfl rfl rfl (by kernel_rfl) (by exact (by decide : 6 ≤ 6)) rfl OZ.out ?zd)
  intro w18 o18 u18 z18
  have B18 := hide (BA.out.trans (u18.below (by rw [hza.out]; omega) (fun k e => by subst e; exact Nat.le_refl _)))
  have D18 := hide (D17.out.trans (B18.out.mono D17.out.size))
  have OA18 := hide (OA17.out.grow B18.out)
  have OC18 := hide o18
  have IA18 := hide (I17.out.later B18.out)
  have IC18 := hide (I2.out.later B18.out)
  clear o18 u18 z18 OZ hza BA I2 OA17 I17
  have p0 := OA18.out.cell kBlA 0 _ rfl 0 _ rfl
  have p1 := OA18.out.cell kBlA 0 _ rfl 1 _ rfl
  have p2 := OA18.out.cell kBlA 0 _ rfl 2 _ rfl
  have p3 := OA18.out.cell kBlA 0 _ rfl 3 _ rfl
  have p4 := OA18.out.cell kBlA 0 _ rfl 4 _ rfl
  have p5 := OA18.out.cell kBlA 0 _ rfl 5 _ rfl
  have q0 := OC18.out.cell kBlA 0 _ rfl 0 _ rfl
  have q1 := OC18.out.cell kBlA 0 _ rfl 1 _ rfl
  have q2 := OC18.out.cell kBlA 0 _ rfl 2 _ rfl
  have q3 := OC18.out.cell kBlA 0 _ rfl 3 _ rfl
  have q4 := OC18.out.cell kBlA 0 _ rfl 4 _ rfl
  have q5 := OC18.out.cell kBlA 0 _ rfl 5 _ rfl
  simp only [Nat.zero_mul, Nat.zero_add] at p0 p1 p2 p3 p4 p5 q0 q1 q2 q3 q4 q5
  have hpl := (OA18.out.blk _ rfl).2
  have hql := (OC18.out.blk _ rfl).2
  have cs : Hid (Calls Tryz.prog 24 #[.slice (some ⟨w18.heap.size, 0, none⟩) 1 1, .slice (some ⟨w18.heap.size + 1, 0, none⟩) 1 1] ((w18.alloc (.cells #[.int .i64 Y1.n, .int .u64 Y1.h, .int .u64 Y1.l, .int .i64 Y1.v, .int .i64 Y1.c, .slice Y1.s.a Y1.s.D.length Y1.s.c] 53)).alloc (.cells #[.int .i64 Y2.n, .int .u64 Y2.h, .int .u64 Y2.l, .int .i64 Y2.v, .int .i64 Y2.c, .slice Y2.s.a Y2.s.D.length Y2.s.c] 53)) fun e w' => e = .returned (.bool true) ∧ ∃ d, w' = ((w18.alloc (.cells #[.int .i64 Y1.n, .int .u64 Y1.h, .int .u64 Y1.l, .int .i64 Y1.v, .int .i64 Y1.c, .slice Y1.s.a Y1.s.D.length Y1.s.c] 53)).alloc (.cells #[.int .i64 Y2.n, .int .u64 Y2.h, .int .u64 Y2.l, .int .i64 Y2.v, .int .i64 Y2.c, .slice Y2.s.a Y2.s.D.length Y2.s.c] 53)).drewN d) := by
    have ba : Below w18.heap.size w18 (w18.alloc (.cells #[.int .i64 Y1.n, .int .u64 Y1.h, .int .u64 Y1.l, .int .i64 Y1.v, .int .i64 Y1.c, .slice Y1.s.a Y1.s.D.length Y1.s.c] 53)) := (Below.refl _ _).alloc (Nat.le_refl _) _
    have bb : Below (w18.alloc (.cells #[.int .i64 Y1.n, .int .u64 Y1.h, .int .u64 Y1.l, .int .i64 Y1.v, .int .i64 Y1.c, .slice Y1.s.a Y1.s.D.length Y1.s.c] 53)).heap.size (w18.alloc (.cells #[.int .i64 Y1.n, .int .u64 Y1.h, .int .u64 Y1.l, .int .i64 Y1.v, .int .i64 Y1.c, .slice Y1.s.a Y1.s.D.length Y1.s.c] 53)) ((w18.alloc (.cells #[.int .i64 Y1.n, .int .u64 Y1.h, .int .u64 Y1.l, .int .i64 Y1.v, .int .i64 Y1.c, .slice Y1.s.a Y1.s.D.length Y1.s.c] 53)).alloc (.cells #[.int .i64 Y2.n, .int .u64 Y2.h, .int .u64 Y2.l, .int .i64 Y2.v, .int .i64 Y2.c, .slice Y2.s.a Y2.s.D.length Y2.s.c] 53)) := (Below.refl _ _).alloc (Nat.le_refl _) _
    have s1 := (sl_lit kBlA w18 [Y1] 53 (by unfold maxLen; simp)).later bb
    have s2 := sl_lit kBlA (w18.alloc (.cells #[.int .i64 Y1.n, .int .u64 Y1.h, .int .u64 Y1.l, .int .i64 Y1.v, .int .i64 Y1.c, .slice Y1.s.a Y1.s.D.length Y1.s.c] 53)) [Y2] 53 (by unfold maxLen; simp)
    rw [World.size_alloc] at s2
    refine Bl.same_any [Y1] [Y2] _ _ 1 1 1 _ s1 s2 (fun i y z hy hz => ?_) (fun y hy => ?_) (fun y hy => ?_)
    · cases i with
      | zero => cases hy; cases hz; exact .of (HY2.out.trans HY1.out.symm)
      | succ i => simp at hy
    · obtain rfl : y = Y1 := by simpa using hy
      exact (IA18.out.later ba).later bb
    · obtain rfl : y = Y2 := by simpa using hy
      exact (IC18.out.later ba).later bb
  have D19 : Hid (Below w5.heap.size w5 ((w18.alloc (.cells #[.int .i64 Y1.n, .int .u64 Y1.h, .int .u64 Y1.l, .int .i64 Y1.v, .int .i64 Y1.c, .slice Y1.s.a Y1.s.D.length Y1.s.c] 53)).alloc (.cells #[.int .i64 Y2.n, .int .u64 Y2.h, .int .u64 Y2.l, .int .i64 Y2.v, .int .i64 Y2.c, .slice Y2.s.a Y2.s.D.length Y2.s.c] 53))) := (D18.out.alloc D18.out.size _).alloc (by have := D18.out.size; simp; omega) _
  clear OA18 OC18 IA18 IC18 HY1 HY2
  go_wp2_with fail
  refine cs.out.mono ?_
  rintro e w20 ⟨rfl, kk20, hw20⟩
  have D20 : Hid (Below w5.heap.size w5 w20) := by show Below _ _ _; rw [hw20]; exact belNN D19.out kk20
  clear hw20 cs D19 p0 p1 p2 p3 p4 p5 q0 q1 q2 q3 q4 q5 hpl hql
  try dsimp only
  go_wp2_with fail
  refine (ck1.out _ D20.out).mono ?_
  rintro e w21 ⟨rfl, kk21, hw21⟩
  have D21 : Hid (Below w5.heap.size w5 w21) := by show Below _ _ _; rw [hw21]; exact belNN D20.out kk21
  clear hw21 ck1
  try dsimp only
  go_wp2_with fail
  refine (ci1.out _ D21.out).mono ?_
  rintro e w22 ⟨rfl, kk22, hw22⟩
  have D22 : Hid (Below w5.heap.size w5 w22) := by show Below _ _ _; rw [hw22]; exact belNN D21.out kk22
  clear hw22 ci1
  try dsimp only
  go_wp2_with fail
  refine (works8_any _).mono ?_
  rintro e w23 ⟨rfl, b23⟩
  have D23 := hide (D22.out.trans (b23.mono D22.out.size))
  clear b23
  try dsimp only
  go_wp2
  go_ret
  exact ⟨rfl, E5.out.trans (D23.out.mono E5.out.size)⟩

end Go.Proofs.YtcmjhaljbmhpgaaGreat
