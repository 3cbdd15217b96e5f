import Derived.Lib.Strings
import Derived.RangeFuncOwn
import Derived.RangeFuncCalls
import Derived.RangeFuncLeaves
import Derived.Shelf.Abstract
import Derived.OwnWalkIn
import Derived.TacticsInMore
import Derived.LoopNIn
import Derived.LoopIn
import Derived.ChangeOld
import Derived.ProofKit
import Derived.OpenShut
import Derived.Deep.SlicePairs
import Derived.SizedLaws
import Derived.Shelf.SlGeneric
import Derived.Shelf.Lay
import Derived.Sort.OwnSorted
import Derived.Lib.MinMax
import Derived.Laws.IdiomRangeMap
import Derived.Laws.AppendOwnNone
import Derived.BigQuiet
import Derived.Test.YtibedokegignhaaGreatDoorF0
set_option maxRecDepth 100000
set_option linter.unusedVariables false
set_option linter.unusedSimpArgs false
namespace Go.Proofs.YtibedokegignhaaGreatDoor
open Go.RowKit Go.Maps
open Classical
theorem Wi.WOkT.later {w w' : World} {b : Nat} {l : List Int} (h : Wi.WOkT w b l) (hb : Below w.heap.size w w') : Wi.WOkT w' b l := by
  have hk := Wi.WOk.later h.ok hb
  rcases h with ⟨e, h, kb⟩ | ⟨q, g, n, c, h, kb, kq⟩
  · rcases hk with ⟨_, h2⟩ | ⟨q, g, n, c, h2⟩
    · exact .inl ⟨e, h2, Wi.wtyp_below kb hb h.lt⟩
    · have e1 := h2.c0
      rw [hb.cell (p := ⟨b, 0, none⟩) h.lt, h.c0] at e1
      cases e1
  · have hq : q < w.heap.size := h.ltq
    have hbq : b < w.heap.size := Nat.lt_trans h.lt hq
    rcases hk with ⟨_, h2⟩ | ⟨q', g', n', c', h2⟩
    · have e1 := h2.c0
      rw [hb.cell (p := ⟨b, 0, none⟩) hbq, h.c0] at e1
      cases e1
    · have e1 := h2.c0
      rw [hb.cell (p := ⟨b, 0, none⟩) hbq, h.c0] at e1
      cases e1
      exact .inr ⟨q, g', n', c', h2, Wi.wtyp_below kb hb hbq, Wi.wtyp_below kq hb hq⟩
theorem Wi.WOkT.drew {w : World} {b : Nat} {l : List Int} (h : Wi.WOkT w b l) : Wi.WOkT w.drew b l := h.later (Below.refl _ _).drew
theorem Wi.WOkT.lt {w : World} {b : Nat} {l : List Int} (h : Wi.WOkT w b l) : b < w.heap.size := by
  rcases h with ⟨e, h, kb⟩ | ⟨q, g, n, c, h, kb, kq⟩
  · exact h.lt
  · exact Nat.lt_trans h.lt h.ltq
theorem Wi.not_wtyp_box (w : World) (c : Array Value) (t : TypeId) (ht : ¬ (t = 5 ∨ t = 151 ∨ t = 112)) : ¬ Wi.wtyp (w.alloc (.cells c t)) w.heap.size := by
  rintro ⟨c', f, t', e, h⟩
  have : (w.alloc (.cells c t)).heap[w.heap.size]? = some (.cells c t) := by show (w.heap.push _)[w.heap.size]? = _; simp
  rw [this] at e
  cases e
  exact ht h
theorem cell_box (w : World) (c : Array Value) (t : TypeId) (i : Nat) (x : Value) (h : c[i]? = some x) : (w.alloc (.cells c t)).cell? ⟨w.heap.size, i, none⟩ = some x := by
  simp [h]
theorem ldInt {w : World} {q o : Nat} {x : Int} (h : w.cell? ⟨q, o, none⟩ = some (.int .i64 x)) : (Instr.loadAt 3 (.pointer (some ⟨q, o, none⟩))).run Tryz.prog w = .ok (.int .i64 x) w := by
  go_simp
theorem ldU64 {w : World} {q o : Nat} {x : Int} (h : w.cell? ⟨q, o, none⟩ = some (.int .u64 x)) : (Instr.loadAt 31 (.pointer (some ⟨q, o, none⟩))).run Tryz.prog w = .ok (.int .u64 x) w := by
  go_simp
theorem ldStr {w : World} {q o : Nat} {x : ByteArray} (h : w.cell? ⟨q, o, none⟩ = some (.string x)) : (Instr.loadAt 9 (.pointer (some ⟨q, o, none⟩))).run Tryz.prog w = .ok (.string x) w := by
  go_simp
theorem form_le {x : Nat} (h : x < 2 ^ 64) : (M.form x).length ≤ 9 := by
  rw [M.form_length]
  have := M.nb_le x h
  omega
def drBy (x y : Nat) : List Int := M.form x ++ M.form y
def nmBy (c n : Nat) : List Int := M.form c ++ M.form n
def opBy (k s : Nat) (v : ByteArray) : List Int := M.form k ++ (M.form s ++ (M.form v.size ++ Wi.sb v))
set_option maxHeartbeats 4000000 in
theorem wdraw_tk (B b : Nat) (l : List Int) (x y : Nat) (w : World) (hB : B ≤ b) (h : Wi.WOkT w b l) (hx : x < 2 ^ 64) (hy : y < 2 ^ 64) (hl : l.length + 18 ≤ 140737488355328) :
    Calls Tryz.prog 120 #[.pointer (some ⟨b, 0, none⟩), .agg #[.int .u64 (x : Int), .int .u64 (y : Int)]] w fun e w' => e = .returned (.tuple #[]) ∧ Wi.WOkT w' b (l ++ drBy x y) ∧ Below B w w' ∧ Wi.TKp w w' := by
  have hlt := h.lt
  go_enter Tryz.func120, Tryz.ntmps120
  go_upto_region 1 with fail
  obtain ⟨w1, hw1⟩ : ∃ w1, w1 = w.alloc (.cells #[.int .u64 (x : Int), .int .u64 (y : Int)] 33) := ⟨_, rfl⟩
  rw [← hw1]
  have hs1 : w1.heap.size = w.heap.size + 1 := by rw [hw1]; simp
  have hBw : Below w.heap.size w w1 := by rw [hw1]; exact (Below.refl _ _).alloc (Nat.le_refl _) _
  have HQ : Hid (∀ vv, Wi.TKp w1 vv → ∀ (ii : Nat) (uu : Value), ([.int .u64 (x : Int), .int .u64 (y : Int)] : List Value)[ii]? = some uu → vv.cell? ⟨w.heap.size, ii, none⟩ = some uu) := fun vv hv ii uu hx => by
    rw [hv.cell (p := ⟨w.heap.size, ii, none⟩) (by rw [hs1]; exact Nat.lt_succ_self _) (by rw [hw1]; exact Wi.not_wtyp_box _ _ _ (by decide))]
    rw [hw1]
    exact cell_box _ _ _ _ _ (by simpa using hx)
  have W1 : Hid (w1 = w1) := rfl
  obtain ⟨W1, hW1⟩ : ∃ W1, W1 = w1 := ⟨_, rfl⟩
  have hO1 : Wi.WOkT W1 b l := by rw [hW1]; exact h.later hBw
  have hT1 : Wi.TKp w1 W1 := by rw [hW1]; exact Wi.TKp.refl _
  have hB1 : Below B w W1 := by rw [hW1]; exact hBw.mono (by omega)
  have hTw : Wi.TKp w w1 := Wi.TKp.of_below hBw
  rw [← hW1]
  have f1 := form_le hx
  clear hW1 hw1 hs1 hBw h
  refine vh_start (fun v => Wi.TKp w1 v) (by kernel_rfl) ?_
  have hS : Wi.TKp w1 W1.drew := hT1.drewN 1
  have hP1 : Wi.WOkT W1.drew b (l) := hO1.drew
  refine vh_gen (fun T => T.size = 16 ∧ T[0]? = some (gw true (.pointer (some ⟨b, 0, none⟩))) ∧ T[3]? = some (gw true (.pointer (some ⟨w.heap.size, 0, none⟩)))) ⟨rfl, rfl, rfl⟩ (fun T0 ⟨hz, s0, s3⟩ => ?_)
  refine vh_take 0 true (.pointer (some ⟨b, 0, none⟩)) rfl (by kernel_rfl) (by kernel_rfl) (by kernel_rfl) (want_none rfl) (fun hc v hv => ex_move rfl (ev s0 rfl)) rfl hz (by decide) hS (fun Ya zz kk s4 => ?_)
  replace s0 := ku s0
  replace s3 := ku s3
  replace hz := zz
  clear kk zz
  refine vh_take 1 true (.pointer (some ⟨b, 0, none⟩)) rfl (by kernel_rfl) (by kernel_rfl) (by kernel_rfl) (want_none rfl) (fun hc v hv => ex_nil rfl (ev s4 rfl)) rfl hz (by decide) hS (fun Yb zz kk s5 => ?_)
  replace s0 := ku s0
  replace s3 := ku s3
  replace hz := zz
  clear kk zz s4 Ya
  refine vh_take 2 true (.pointer (some ⟨b, 0, none⟩)) rfl (by kernel_rfl) (by kernel_rfl) (by kernel_rfl) (want_none rfl) (fun hc v hv => ex_fa rfl (ev s5 rfl) (by go_simp)) rfl hz (by decide) hS (fun Yc zz kk s6 => ?_)
  replace s0 := ku s0
  replace s3 := ku s3
  replace hz := zz
  clear kk zz s5 Yb
  refine vh_take 3 true (.pointer (some ⟨w.heap.size, 0, none⟩)) rfl (by kernel_rfl) (by kernel_rfl) (by kernel_rfl) (want_none rfl) (fun hc v hv => ex_fa rfl (ev s3 rfl) (by go_simp)) rfl hz (by decide) hS (fun Yd zz kk s7 => ?_)
  replace s0 := ku s0
  replace s3 := ku s3
  replace s6 := ku s6
  replace hz := zz
  clear kk zz Yc
  refine vh_take 4 true (.int .u64 (x : Int)) rfl (by kernel_rfl) (by kernel_rfl) (by kernel_rfl) (want_none rfl) (fun hc v hv => ex_ld rfl (ev s7 rfl) (ldU64 (HQ.out v hv 0 _ rfl))) rfl hz (by decide) hS (fun Ye zz kk s8 => ?_)
  replace s0 := ku s0
  replace s3 := ku s3
  replace s6 := ku s6
  replace hz := zz
  clear kk zz s7 Yd
  refine vh_call 5 rfl (by kernel_rfl) (want_none rfl) (ex_call rfl (by simp only [List.map_toArray, List.map_cons, List.map_nil, (ev s6 rfl), (ev s8 rfl), evc] <;> rfl) rfl) (Wi.number_tk B b (l) x W1.drew hB hP1 hx (by first | omega | (simp only [List.length_append]; omega))) rfl hz (by decide) ?_
  rintro e W2 ⟨rfl, hO2, hb, ht⟩
  refine ⟨_, rfl, (hS.trans ht), fun Yf zz kk s9 => ?_⟩
  have hB2 := hB1.trans ((Below.refl _ _).drew.trans hb)
  have hT2 := hT1.trans (((Wi.TKp.refl _).drewN 1).trans ht)
  clear hb ht hS
  replace s0 := ku s0
  replace s3 := ku s3
  replace hz := zz
  clear kk zz s6 s8 Ye
  refine vh_done (by kernel_rfl) ?_
  go_upto_region 2 with fail
  refine vh_start (fun v => Wi.TKp w1 v) (by kernel_rfl) ?_
  have hS : Wi.TKp w1 W2.drew := hT2.drewN 1
  have hP2 : Wi.WOkT W2.drew b (l ++ M.form x) := hO2.drew
  refine vh_take 0 true (.pointer (some ⟨b, 0, none⟩)) rfl (by kernel_rfl) (by kernel_rfl) (by kernel_rfl) (want_none rfl) (fun hc v hv => ex_move rfl (ev s0 rfl)) rfl hz (by decide) hS (fun Yg zz kk s10 => ?_)
  replace s0 := ku s0
  replace s3 := ku s3
  replace hz := zz
  clear kk zz s9
  refine vh_take 1 true (.pointer (some ⟨b, 0, none⟩)) rfl (by kernel_rfl) (by kernel_rfl) (by kernel_rfl) (want_none rfl) (fun hc v hv => ex_nil rfl (ev s10 rfl)) rfl hz (by decide) hS (fun Yh zz kk s11 => ?_)
  replace s0 := ku s0
  replace s3 := ku s3
  replace hz := zz
  clear kk zz s10 Yg
  refine vh_take 2 true (.pointer (some ⟨b, 0, none⟩)) rfl (by kernel_rfl) (by kernel_rfl) (by kernel_rfl) (want_none rfl) (fun hc v hv => ex_fa rfl (ev s11 rfl) (by go_simp)) rfl hz (by decide) hS (fun Yi zz kk s12 => ?_)
  replace s0 := ku s0
  replace s3 := ku s3
  replace hz := zz
  clear kk zz s11 Yh
  refine vh_take 3 true (.pointer (some ⟨w.heap.size, 1, none⟩)) rfl (by kernel_rfl) (by kernel_rfl) (by kernel_rfl) (want_none rfl) (fun hc v hv => ex_fa rfl (ev s3 rfl) (by go_simp)) rfl hz (by decide) hS (fun Yj zz kk s13 => ?_)
  replace s0 := ku s0
  replace s3 := ku s3
  replace s12 := ku s12
  replace hz := zz
  clear kk zz Yi
  refine vh_take 4 true (.int .u64 (y : Int)) rfl (by kernel_rfl) (by kernel_rfl) (by kernel_rfl) (want_none rfl) (fun hc v hv => ex_ld rfl (ev s13 rfl) (ldU64 (HQ.out v hv 1 _ rfl))) rfl hz (by decide) hS (fun Yk zz kk s14 => ?_)
  replace s0 := ku s0
  replace s3 := ku s3
  replace s12 := ku s12
  replace hz := zz
  clear kk zz s13 Yj
  refine vh_call 5 rfl (by kernel_rfl) (want_none rfl) (ex_call rfl (by simp only [List.map_toArray, List.map_cons, List.map_nil, (ev s12 rfl), (ev s14 rfl), evc] <;> rfl) rfl) (Wi.number_tk B b (l ++ M.form x) y W2.drew hB hP2 hy (by first | omega | (simp only [List.length_append]; omega))) rfl hz (by decide) ?_
  rintro e W3 ⟨rfl, hO3, hb, ht⟩
  refine ⟨_, rfl, (hS.trans ht), fun Yl zz kk s15 => ?_⟩
  have hB3 := hB2.trans ((Below.refl _ _).drew.trans hb)
  have hT3 := hT2.trans (((Wi.TKp.refl _).drewN 1).trans ht)
  clear hb ht hS
  replace s0 := ku s0
  replace s3 := ku s3
  replace hz := zz
  clear kk zz s12 s14 Yk
  refine vh_done (by kernel_rfl) ?_
  go_wp2
  go_end0
  exact ⟨rfl, by simpa only [drBy, nmBy, List.append_assoc] using hO3, hB3, hTw.trans hT3⟩
set_option maxHeartbeats 4000000 in
theorem wname_tk (B b : Nat) (l : List Int) (c n : Nat) (k s : Int) (v : ByteArray) (w : World) (hB : B ≤ b) (h : Wi.WOkT w b l) (hc1 : c ≤ 9223372036854775807) (hn1 : n ≤ 9223372036854775807) (hl : l.length + 18 ≤ 140737488355328) :
    Calls Tryz.prog 121 #[.pointer (some ⟨b, 0, none⟩), .agg #[.int .i64 (c : Int), .int .i64 (n : Int), .int .i64 k, .int .i64 s, .string v]] w fun e w' => e = .returned (.tuple #[]) ∧ Wi.WOkT w' b (l ++ nmBy c n) ∧ Below B w w' ∧ Wi.TKp w w' := by
  have hlt := h.lt
  go_enter Tryz.func121, Tryz.ntmps121
  go_upto_region 1 with fail
  obtain ⟨w1, hw1⟩ : ∃ w1, w1 = w.alloc (.cells #[.int .i64 (c : Int), .int .i64 (n : Int), .int .i64 k, .int .i64 s, .string v] 28) := ⟨_, rfl⟩
  rw [← hw1]
  have hs1 : w1.heap.size = w.heap.size + 1 := by rw [hw1]; simp
  have hBw : Below w.heap.size w w1 := by rw [hw1]; exact (Below.refl _ _).alloc (Nat.le_refl _) _
  have HQ : Hid (∀ vv, Wi.TKp w1 vv → ∀ (ii : Nat) (uu : Value), ([.int .i64 (c : Int), .int .i64 (n : Int), .int .i64 k, .int .i64 s, .string v] : List Value)[ii]? = some uu → vv.cell? ⟨w.heap.size, ii, none⟩ = some uu) := fun vv hv ii uu hx => by
    rw [hv.cell (p := ⟨w.heap.size, ii, none⟩) (by rw [hs1]; exact Nat.lt_succ_self _) (by rw [hw1]; exact Wi.not_wtyp_box _ _ _ (by decide))]
    rw [hw1]
    exact cell_box _ _ _ _ _ (by simpa using hx)
  have W1 : Hid (w1 = w1) := rfl
  obtain ⟨W1, hW1⟩ : ∃ W1, W1 = w1 := ⟨_, rfl⟩
  have hO1 : Wi.WOkT W1 b l := by rw [hW1]; exact h.later hBw
  have hT1 : Wi.TKp w1 W1 := by rw [hW1]; exact Wi.TKp.refl _
  have hB1 : Below B w W1 := by rw [hW1]; exact hBw.mono (by omega)
  have hTw : Wi.TKp w w1 := Wi.TKp.of_below hBw
  rw [← hW1]
  have f1 := form_le (show c < 2 ^ 64 by omega)
  clear hW1 hw1 hs1 hBw h
  refine vh_start (fun v => Wi.TKp w1 v) (by kernel_rfl) ?_
  have hS : Wi.TKp w1 W1.drew := hT1.drewN 1
  have hP1 : Wi.WOkT W1.drew b (l) := hO1.drew
  refine vh_gen (fun T => T.size = 16 ∧ T[0]? = some (gw true (.pointer (some ⟨b, 0, none⟩))) ∧ T[3]? = some (gw true (.pointer (some ⟨w.heap.size, 0, none⟩)))) ⟨rfl, rfl, rfl⟩ (fun T0 ⟨hz, s0, s3⟩ => ?_)
  refine vh_take 0 true (.pointer (some ⟨b, 0, none⟩)) rfl (by kernel_rfl) (by kernel_rfl) (by kernel_rfl) (want_none rfl) (fun hc v hv => ex_move rfl (ev s0 rfl)) rfl hz (by decide) hS (fun Ya zz kk s4 => ?_)
  replace s0 := ku s0
  replace s3 := ku s3
  replace hz := zz
  clear kk zz
  refine vh_take 1 true (.pointer (some ⟨b, 0, none⟩)) rfl (by kernel_rfl) (by kernel_rfl) (by kernel_rfl) (want_none rfl) (fun hc v hv => ex_nil rfl (ev s4 rfl)) rfl hz (by decide) hS (fun Yb zz kk s5 => ?_)
  replace s0 := ku s0
  replace s3 := ku s3
  replace hz := zz
  clear kk zz s4 Ya
  refine vh_take 2 true (.pointer (some ⟨b, 0, none⟩)) rfl (by kernel_rfl) (by kernel_rfl) (by kernel_rfl) (want_none rfl) (fun hc v hv => ex_fa rfl (ev s5 rfl) (by go_simp)) rfl hz (by decide) hS (fun Yc zz kk s6 => ?_)
  replace s0 := ku s0
  replace s3 := ku s3
  replace hz := zz
  clear kk zz s5 Yb
  refine vh_take 3 true (.pointer (some ⟨w.heap.size, 0, none⟩)) rfl (by kernel_rfl) (by kernel_rfl) (by kernel_rfl) (want_none rfl) (fun hc v hv => ex_fa rfl (ev s3 rfl) (by go_simp)) rfl hz (by decide) hS (fun Yd zz kk s7 => ?_)
  replace s0 := ku s0
  replace s3 := ku s3
  replace s6 := ku s6
  replace hz := zz
  clear kk zz Yc
  refine vh_take 4 true (.int .i64 (c : Int)) rfl (by kernel_rfl) (by kernel_rfl) (by kernel_rfl) (want_none rfl) (fun hc v hv => ex_ld rfl (ev s7 rfl) (ldInt (HQ.out v hv 0 _ rfl))) rfl hz (by decide) hS (fun Ye zz kk s8 => ?_)
  replace s0 := ku s0
  replace s3 := ku s3
  replace s6 := ku s6
  replace hz := zz
  clear kk zz s7 Yd
  refine vh_call 5 rfl (by kernel_rfl) (want_none rfl) (ex_call rfl (by simp only [List.map_toArray, List.map_cons, List.map_nil, (ev s6 rfl), (ev s8 rfl), evc] <;> rfl) rfl) (Wi.int_tk B b (l) c W1.drew hB hP1 hc1 (by first | omega | (simp only [List.length_append]; omega))) rfl hz (by decide) ?_
  rintro e W2 ⟨rfl, hO2, hb, ht⟩
  refine ⟨_, rfl, (hS.trans ht), fun Yf zz kk s9 => ?_⟩
  have hB2 := hB1.trans ((Below.refl _ _).drew.trans hb)
  have hT2 := hT1.trans (((Wi.TKp.refl _).drewN 1).trans ht)
  clear hb ht hS
  replace s0 := ku s0
  replace s3 := ku s3
  replace hz := zz
  clear kk zz s6 s8 Ye
  refine vh_done (by kernel_rfl) ?_
  go_upto_region 2 with fail
  refine vh_start (fun v => Wi.TKp w1 v) (by kernel_rfl) ?_
  have hS : Wi.TKp w1 W2.drew := hT2.drewN 1
  have hP2 : Wi.WOkT W2.drew b (l ++ M.form c) := hO2.drew
  refine vh_take 0 true (.pointer (some ⟨b, 0, none⟩)) rfl (by kernel_rfl) (by kernel_rfl) (by kernel_rfl) (want_none rfl) (fun hc v hv => ex_move rfl (ev s0 rfl)) rfl hz (by decide) hS (fun Yg zz kk s10 => ?_)
  replace s0 := ku s0
  replace s3 := ku s3
  replace hz := zz
  clear kk zz s9
  refine vh_take 1 true (.pointer (some ⟨b, 0, none⟩)) rfl (by kernel_rfl) (by kernel_rfl) (by kernel_rfl) (want_none rfl) (fun hc v hv => ex_nil rfl (ev s10 rfl)) rfl hz (by decide) hS (fun Yh zz kk s11 => ?_)
  replace s0 := ku s0
  replace s3 := ku s3
  replace hz := zz
  clear kk zz s10 Yg
  refine vh_take 2 true (.pointer (some ⟨b, 0, none⟩)) rfl (by kernel_rfl) (by kernel_rfl) (by kernel_rfl) (want_none rfl) (fun hc v hv => ex_fa rfl (ev s11 rfl) (by go_simp)) rfl hz (by decide) hS (fun Yi zz kk s12 => ?_)
  replace s0 := ku s0
  replace s3 := ku s3
  replace hz := zz
  clear kk zz s11 Yh
  refine vh_take 3 true (.pointer (some ⟨w.heap.size, 1, none⟩)) rfl (by kernel_rfl) (by kernel_rfl) (by kernel_rfl) (want_none rfl) (fun hc v hv => ex_fa rfl (ev s3 rfl) (by go_simp)) rfl hz (by decide) hS (fun Yj zz kk s13 => ?_)
  replace s0 := ku s0
  replace s3 := ku s3
  replace s12 := ku s12
  replace hz := zz
  clear kk zz Yi
  refine vh_take 4 true (.int .i64 (n : Int)) rfl (by kernel_rfl) (by kernel_rfl) (by kernel_rfl) (want_none rfl) (fun hc v hv => ex_ld rfl (ev s13 rfl) (ldInt (HQ.out v hv 1 _ rfl))) rfl hz (by decide) hS (fun Yk zz kk s14 => ?_)
  replace s0 := ku s0
  replace s3 := ku s3
  replace s12 := ku s12
  replace hz := zz
  clear kk zz s13 Yj
  refine vh_call 5 rfl (by kernel_rfl) (want_none rfl) (ex_call rfl (by simp only [List.map_toArray, List.map_cons, List.map_nil, (ev s12 rfl), (ev s14 rfl), evc] <;> rfl) rfl) (Wi.int_tk B b (l ++ M.form c) n W2.drew hB hP2 hn1 (by first | omega | (simp only [List.length_append]; omega))) rfl hz (by decide) ?_
  rintro e W3 ⟨rfl, hO3, hb, ht⟩
  refine ⟨_, rfl, (hS.trans ht), fun Yl zz kk s15 => ?_⟩
  have hB3 := hB2.trans ((Below.refl _ _).drew.trans hb)
  have hT3 := hT2.trans (((Wi.TKp.refl _).drewN 1).trans ht)
  clear hb ht hS
  replace s0 := ku s0
  replace s3 := ku s3
  replace hz := zz
  clear kk zz s12 s14 Yk
  refine vh_done (by kernel_rfl) ?_
  go_wp2
  go_end0
  exact ⟨rfl, by simpa only [drBy, nmBy, List.append_assoc] using hO3, hB3, hTw.trans hT3⟩
set_option maxHeartbeats 4000000 in
theorem wop_tk (B b : Nat) (l : List Int) (k s : Nat) (v : ByteArray) (w : World) (hB : B ≤ b) (h : Wi.WOkT w b l) (hk1 : k ≤ 9223372036854775807) (hs2 : s ≤ 9223372036854775807) (hv1 : v.size ≤ 64) (hl : l.length + 91 ≤ 140737488355328) :
    Calls Tryz.prog 122 #[.pointer (some ⟨b, 0, none⟩), .agg #[.int .i64 (k : Int), .int .i64 (s : Int), .string v]] w fun e w' => e = .returned (.tuple #[]) ∧ Wi.WOkT w' b (l ++ opBy k s v) ∧ Below B w w' ∧ Wi.TKp w w' := by
  have hlt := h.lt
  go_enter Tryz.func122, Tryz.ntmps122
  go_upto_region 1 with fail
  obtain ⟨w1, hw1⟩ : ∃ w1, w1 = w.alloc (.cells #[.int .i64 (k : Int), .int .i64 (s : Int), .string v] 26) := ⟨_, rfl⟩
  rw [← hw1]
  have hs1 : w1.heap.size = w.heap.size + 1 := by rw [hw1]; simp
  have hBw : Below w.heap.size w w1 := by rw [hw1]; exact (Below.refl _ _).alloc (Nat.le_refl _) _
  have HQ : Hid (∀ vv, Wi.TKp w1 vv → ∀ (ii : Nat) (uu : Value), ([.int .i64 (k : Int), .int .i64 (s : Int), .string v] : List Value)[ii]? = some uu → vv.cell? ⟨w.heap.size, ii, none⟩ = some uu) := fun vv hv ii uu hx => by
    rw [hv.cell (p := ⟨w.heap.size, ii, none⟩) (by rw [hs1]; exact Nat.lt_succ_self _) (by rw [hw1]; exact Wi.not_wtyp_box _ _ _ (by decide))]
    rw [hw1]
    exact cell_box _ _ _ _ _ (by simpa using hx)
  have W1 : Hid (w1 = w1) := rfl
  obtain ⟨W1, hW1⟩ : ∃ W1, W1 = w1 := ⟨_, rfl⟩
  have hO1 : Wi.WOkT W1 b l := by rw [hW1]; exact h.later hBw
  have hT1 : Wi.TKp w1 W1 := by rw [hW1]; exact Wi.TKp.refl _
  have hB1 : Below B w W1 := by rw [hW1]; exact hBw.mono (by omega)
  have hTw : Wi.TKp w w1 := Wi.TKp.of_below hBw
  rw [← hW1]
  have f1 := form_le (show k < 2 ^ 64 by omega)
  have f2 := form_le (show s < 2 ^ 64 by omega)
  clear hW1 hw1 hs1 hBw h
  refine vh_start (fun v => Wi.TKp w1 v) (by kernel_rfl) ?_
  have hS : Wi.TKp w1 W1.drew := hT1.drewN 1
  have hP1 : Wi.WOkT W1.drew b (l) := hO1.drew
  refine vh_gen (fun T => T.size = 22 ∧ T[0]? = some (gw true (.pointer (some ⟨b, 0, none⟩))) ∧ T[3]? = some (gw true (.pointer (some ⟨w.heap.size, 0, none⟩)))) ⟨rfl, rfl, rfl⟩ (fun T0 ⟨hz, s0, s3⟩ => ?_)
  refine vh_take 0 true (.pointer (some ⟨b, 0, none⟩)) rfl (by kernel_rfl) (by kernel_rfl) (by kernel_rfl) (want_none rfl) (fun hc v hv => ex_move rfl (ev s0 rfl)) rfl hz (by decide) hS (fun Ya zz kk s4 => ?_)
  replace s0 := ku s0
  replace s3 := ku s3
  replace hz := zz
  clear kk zz
  refine vh_take 1 true (.pointer (some ⟨b, 0, none⟩)) rfl (by kernel_rfl) (by kernel_rfl) (by kernel_rfl) (want_none rfl) (fun hc v hv => ex_nil rfl (ev s4 rfl)) rfl hz (by decide) hS (fun Yb zz kk s5 => ?_)
  replace s0 := ku s0
  replace s3 := ku s3
  replace hz := zz
  clear kk zz s4 Ya
  refine vh_take 2 true (.pointer (some ⟨b, 0, none⟩)) rfl (by kernel_rfl) (by kernel_rfl) (by kernel_rfl) (want_none rfl) (fun hc v hv => ex_fa rfl (ev s5 rfl) (by go_simp)) rfl hz (by decide) hS (fun Yc zz kk s6 => ?_)
  replace s0 := ku s0
  replace s3 := ku s3
  replace hz := zz
  clear kk zz s5 Yb
  refine vh_take 3 true (.pointer (some ⟨w.heap.size, 0, none⟩)) rfl (by kernel_rfl) (by kernel_rfl) (by kernel_rfl) (want_none rfl) (fun hc v hv => ex_fa rfl (ev s3 rfl) (by go_simp)) rfl hz (by decide) hS (fun Yd zz kk s7 => ?_)
  replace s0 := ku s0
  replace s3 := ku s3
  replace s6 := ku s6
  replace hz := zz
  clear kk zz Yc
  refine vh_take 4 true (.int .i64 (k : Int)) rfl (by kernel_rfl) (by kernel_rfl) (by kernel_rfl) (want_none rfl) (fun hc v hv => ex_ld rfl (ev s7 rfl) (ldInt (HQ.out v hv 0 _ rfl))) rfl hz (by decide) hS (fun Ye zz kk s8 => ?_)
  replace s0 := ku s0
  replace s3 := ku s3
  replace s6 := ku s6
  replace hz := zz
  clear kk zz s7 Yd
  refine vh_call 5 rfl (by kernel_rfl) (want_none rfl) (ex_call rfl (by simp only [List.map_toArray, List.map_cons, List.map_nil, (ev s6 rfl), (ev s8 rfl), evc] <;> rfl) rfl) (Wi.int_tk B b (l) k W1.drew hB hP1 hk1 (by first | omega | (simp only [List.length_append]; omega))) rfl hz (by decide) ?_
  rintro e W2 ⟨rfl, hO2, hb, ht⟩
  refine ⟨_, rfl, (hS.trans ht), fun Yf zz kk s9 => ?_⟩
  have hB2 := hB1.trans ((Below.refl _ _).drew.trans hb)
  have hT2 := hT1.trans (((Wi.TKp.refl _).drewN 1).trans ht)
  clear hb ht hS
  replace s0 := ku s0
  replace s3 := ku s3
  replace hz := zz
  clear kk zz s6 s8 Ye
  refine vh_done (by kernel_rfl) ?_
  go_upto_region 2 with fail
  refine vh_start (fun v => Wi.TKp w1 v) (by kernel_rfl) ?_
  have hS : Wi.TKp w1 W2.drew := hT2.drewN 1
  have hP2 : Wi.WOkT W2.drew b (l ++ M.form k) := hO2.drew
  refine vh_take 0 true (.pointer (some ⟨b, 0, none⟩)) rfl (by kernel_rfl) (by kernel_rfl) (by kernel_rfl) (want_none rfl) (fun hc v hv => ex_move rfl (ev s0 rfl)) rfl hz (by decide) hS (fun Yg zz kk s10 => ?_)
  replace s0 := ku s0
  replace s3 := ku s3
  replace hz := zz
  clear kk zz s9
  refine vh_take 1 true (.pointer (some ⟨b, 0, none⟩)) rfl (by kernel_rfl) (by kernel_rfl) (by kernel_rfl) (want_none rfl) (fun hc v hv => ex_nil rfl (ev s10 rfl)) rfl hz (by decide) hS (fun Yh zz kk s11 => ?_)
  replace s0 := ku s0
  replace s3 := ku s3
  replace hz := zz
  clear kk zz s10 Yg
  refine vh_take 2 true (.pointer (some ⟨b, 0, none⟩)) rfl (by kernel_rfl) (by kernel_rfl) (by kernel_rfl) (want_none rfl) (fun hc v hv => ex_fa rfl (ev s11 rfl) (by go_simp)) rfl hz (by decide) hS (fun Yi zz kk s12 => ?_)
  replace s0 := ku s0
  replace s3 := ku s3
  replace hz := zz
  clear kk zz s11 Yh
  refine vh_take 3 true (.pointer (some ⟨w.heap.size, 1, none⟩)) rfl (by kernel_rfl) (by kernel_rfl) (by kernel_rfl) (want_none rfl) (fun hc v hv => ex_fa rfl (ev s3 rfl) (by go_simp)) rfl hz (by decide) hS (fun Yj zz kk s13 => ?_)
  replace s0 := ku s0
  replace s3 := ku s3
  replace s12 := ku s12
  replace hz := zz
  clear kk zz Yi
  refine vh_take 4 true (.int .i64 (s : Int)) rfl (by kernel_rfl) (by kernel_rfl) (by kernel_rfl) (want_none rfl) (fun hc v hv => ex_ld rfl (ev s13 rfl) (ldInt (HQ.out v hv 1 _ rfl))) rfl hz (by decide) hS (fun Yk zz kk s14 => ?_)
  replace s0 := ku s0
  replace s3 := ku s3
  replace s12 := ku s12
  replace hz := zz
  clear kk zz s13 Yj
  refine vh_call 5 rfl (by kernel_rfl) (want_none rfl) (ex_call rfl (by simp only [List.map_toArray, List.map_cons, List.map_nil, (ev s12 rfl), (ev s14 rfl), evc] <;> rfl) rfl) (Wi.int_tk B b (l ++ M.form k) s W2.drew hB hP2 hs2 (by first | omega | (simp only [List.length_append]; omega))) rfl hz (by decide) ?_
  rintro e W3 ⟨rfl, hO3, hb, ht⟩
  refine ⟨_, rfl, (hS.trans ht), fun Yl zz kk s15 => ?_⟩
  have hB3 := hB2.trans ((Below.refl _ _).drew.trans hb)
  have hT3 := hT2.trans (((Wi.TKp.refl _).drewN 1).trans ht)
  clear hb ht hS
  replace s0 := ku s0
  replace s3 := ku s3
  replace hz := zz
  clear kk zz s12 s14 Yk
  refine vh_done (by kernel_rfl) ?_
  go_upto_region 3 with fail
  refine vh_start (fun v => Wi.TKp w1 v) (by kernel_rfl) ?_
  have hS : Wi.TKp w1 W3.drew := hT3.drewN 1
  have hP3 : Wi.WOkT W3.drew b (l ++ M.form k ++ M.form s) := hO3.drew
  refine vh_take 0 true (.pointer (some ⟨b, 0, none⟩)) rfl (by kernel_rfl) (by kernel_rfl) (by kernel_rfl) (want_none rfl) (fun hc v hv => ex_move rfl (ev s0 rfl)) rfl hz (by decide) hS (fun Ym zz kk s16 => ?_)
  replace s0 := ku s0
  replace s3 := ku s3
  replace hz := zz
  clear kk zz s15
  refine vh_take 1 true (.pointer (some ⟨b, 0, none⟩)) rfl (by kernel_rfl) (by kernel_rfl) (by kernel_rfl) (want_none rfl) (fun hc v hv => ex_nil rfl (ev s16 rfl)) rfl hz (by decide) hS (fun Yn zz kk s17 => ?_)
  replace s0 := ku s0
  replace s3 := ku s3
  replace hz := zz
  clear kk zz s16 Ym
  refine vh_take 2 true (.pointer (some ⟨b, 0, none⟩)) rfl (by kernel_rfl) (by kernel_rfl) (by kernel_rfl) (want_none rfl) (fun hc v hv => ex_fa rfl (ev s17 rfl) (by go_simp)) rfl hz (by decide) hS (fun Yo zz kk s18 => ?_)
  replace s0 := ku s0
  replace s3 := ku s3
  replace hz := zz
  clear kk zz s17 Yn
  refine vh_take 3 true (.pointer (some ⟨w.heap.size, 2, none⟩)) rfl (by kernel_rfl) (by kernel_rfl) (by kernel_rfl) (want_none rfl) (fun hc v hv => ex_fa rfl (ev s3 rfl) (by go_simp)) rfl hz (by decide) hS (fun Yp zz kk s19 => ?_)
  replace s0 := ku s0
  replace s3 := ku s3
  replace s18 := ku s18
  replace hz := zz
  clear kk zz Yo
  refine vh_take 4 true (.string v) rfl (by kernel_rfl) (by kernel_rfl) (by kernel_rfl) (want_none rfl) (fun hc v hv => ex_ld rfl (ev s19 rfl) (ldStr (HQ.out v hv 2 _ rfl))) rfl hz (by decide) hS (fun Yq zz kk s20 => ?_)
  replace s0 := ku s0
  replace s3 := ku s3
  replace s18 := ku s18
  replace hz := zz
  clear kk zz s19 Yp
  refine vh_call 5 rfl (by kernel_rfl) (want_none rfl) (ex_call rfl (by simp only [List.map_toArray, List.map_cons, List.map_nil, (ev s18 rfl), (ev s20 rfl), evc] <;> rfl) rfl) (Wi.text_tk B b (l ++ M.form k ++ M.form s) v 64 W3.drew hB hP3 hv1 (by first | omega | (simp only [List.length_append]; omega))) rfl hz (by decide) ?_
  rintro e W4 ⟨rfl, hO4, hb, ht⟩
  refine ⟨_, rfl, (hS.trans ht), fun Yr zz kk s21 => ?_⟩
  have hB4 := hB3.trans ((Below.refl _ _).drew.trans hb)
  have hT4 := hT3.trans (((Wi.TKp.refl _).drewN 1).trans ht)
  clear hb ht hS
  replace s0 := ku s0
  replace s3 := ku s3
  replace hz := zz
  clear kk zz s18 s20 Yq
  refine vh_done (by kernel_rfl) ?_
  go_wp2
  go_end0
  exact ⟨rfl, by simpa only [opBy, List.append_assoc] using hO4, hB4, hTw.trans hT4⟩
set_option maxHeartbeats 4000000 in
theorem wresult_tk (B b : Nat) (l : List Int) (k s : Nat) (v : ByteArray) (w : World) (hB : B ≤ b) (h : Wi.WOkT w b l) (hk1 : k ≤ 9223372036854775807) (hs2 : s ≤ 9223372036854775807) (hv1 : v.size ≤ 64) (hl : l.length + 91 ≤ 140737488355328) :
    Calls Tryz.prog 123 #[.pointer (some ⟨b, 0, none⟩), .agg #[.int .i64 (k : Int), .int .i64 (s : Int), .string v]] w fun e w' => e = .returned (.tuple #[]) ∧ Wi.WOkT w' b (l ++ opBy k s v) ∧ Below B w w' ∧ Wi.TKp w w' := by
  have hlt := h.lt
  go_enter Tryz.func123, Tryz.ntmps123
  go_upto_region 1 with fail
  obtain ⟨w1, hw1⟩ : ∃ w1, w1 = w.alloc (.cells #[.int .i64 (k : Int), .int .i64 (s : Int), .string v] 30) := ⟨_, rfl⟩
  rw [← hw1]
  have hs1 : w1.heap.size = w.heap.size + 1 := by rw [hw1]; simp
  have hBw : Below w.heap.size w w1 := by rw [hw1]; exact (Below.refl _ _).alloc (Nat.le_refl _) _
  have HQ : Hid (∀ vv, Wi.TKp w1 vv → ∀ (ii : Nat) (uu : Value), ([.int .i64 (k : Int), .int .i64 (s : Int), .string v] : List Value)[ii]? = some uu → vv.cell? ⟨w.heap.size, ii, none⟩ = some uu) := fun vv hv ii uu hx => by
    rw [hv.cell (p := ⟨w.heap.size, ii, none⟩) (by rw [hs1]; exact Nat.lt_succ_self _) (by rw [hw1]; exact Wi.not_wtyp_box _ _ _ (by decide))]
    rw [hw1]
    exact cell_box _ _ _ _ _ (by simpa using hx)
  have W1 : Hid (w1 = w1) := rfl
  obtain ⟨W1, hW1⟩ : ∃ W1, W1 = w1 := ⟨_, rfl⟩
  have hO1 : Wi.WOkT W1 b l := by rw [hW1]; exact h.later hBw
  have hT1 : Wi.TKp w1 W1 := by rw [hW1]; exact Wi.TKp.refl _
  have hB1 : Below B w W1 := by rw [hW1]; exact hBw.mono (by omega)
  have hTw : Wi.TKp w w1 := Wi.TKp.of_below hBw
  rw [← hW1]
  have f1 := form_le (show k < 2 ^ 64 by omega)
  have f2 := form_le (show s < 2 ^ 64 by omega)
  clear hW1 hw1 hs1 hBw h
  refine vh_start (fun v => Wi.TKp w1 v) (by kernel_rfl) ?_
  have hS : Wi.TKp w1 W1.drew := hT1.drewN 1
  have hP1 : Wi.WOkT W1.drew b (l) := hO1.drew
  refine vh_gen (fun T => T.size = 22 ∧ T[0]? = some (gw true (.pointer (some ⟨b, 0, none⟩))) ∧ T[3]? = some (gw true (.pointer (some ⟨w.heap.size, 0, none⟩)))) ⟨rfl, rfl, rfl⟩ (fun T0 ⟨hz, s0, s3⟩ => ?_)
  refine vh_take 0 true (.pointer (some ⟨b, 0, none⟩)) rfl (by kernel_rfl) (by kernel_rfl) (by kernel_rfl) (want_none rfl) (fun hc v hv => ex_move rfl (ev s0 rfl)) rfl hz (by decide) hS (fun Ya zz kk s4 => ?_)
  replace s0 := ku s0
  replace s3 := ku s3
  replace hz := zz
  clear kk zz
  refine vh_take 1 true (.pointer (some ⟨b, 0, none⟩)) rfl (by kernel_rfl) (by kernel_rfl) (by kernel_rfl) (want_none rfl) (fun hc v hv => ex_nil rfl (ev s4 rfl)) rfl hz (by decide) hS (fun Yb zz kk s5 => ?_)
  replace s0 := ku s0
  replace s3 := ku s3
  replace hz := zz
  clear kk zz s4 Ya
  refine vh_take 2 true (.pointer (some ⟨b, 0, none⟩)) rfl (by kernel_rfl) (by kernel_rfl) (by kernel_rfl) (want_none rfl) (fun hc v hv => ex_fa rfl (ev s5 rfl) (by go_simp)) rfl hz (by decide) hS (fun Yc zz kk s6 => ?_)
  replace s0 := ku s0
  replace s3 := ku s3
  replace hz := zz
  clear kk zz s5 Yb
  refine vh_take 3 true (.pointer (some ⟨w.heap.size, 0, none⟩)) rfl (by kernel_rfl) (by kernel_rfl) (by kernel_rfl) (want_none rfl) (fun hc v hv => ex_fa rfl (ev s3 rfl) (by go_simp)) rfl hz (by decide) hS (fun Yd zz kk s7 => ?_)
  replace s0 := ku s0
  replace s3 := ku s3
  replace s6 := ku s6
  replace hz := zz
  clear kk zz Yc
  refine vh_take 4 true (.int .i64 (k : Int)) rfl (by kernel_rfl) (by kernel_rfl) (by kernel_rfl) (want_none rfl) (fun hc v hv => ex_ld rfl (ev s7 rfl) (ldInt (HQ.out v hv 0 _ rfl))) rfl hz (by decide) hS (fun Ye zz kk s8 => ?_)
  replace s0 := ku s0
  replace s3 := ku s3
  replace s6 := ku s6
  replace hz := zz
  clear kk zz s7 Yd
  refine vh_call 5 rfl (by kernel_rfl) (want_none rfl) (ex_call rfl (by simp only [List.map_toArray, List.map_cons, List.map_nil, (ev s6 rfl), (ev s8 rfl), evc] <;> rfl) rfl) (Wi.int_tk B b (l) k W1.drew hB hP1 hk1 (by first | omega | (simp only [List.length_append]; omega))) rfl hz (by decide) ?_
  rintro e W2 ⟨rfl, hO2, hb, ht⟩
  refine ⟨_, rfl, (hS.trans ht), fun Yf zz kk s9 => ?_⟩
  have hB2 := hB1.trans ((Below.refl _ _).drew.trans hb)
  have hT2 := hT1.trans (((Wi.TKp.refl _).drewN 1).trans ht)
  clear hb ht hS
  replace s0 := ku s0
  replace s3 := ku s3
  replace hz := zz
  clear kk zz s6 s8 Ye
  refine vh_done (by kernel_rfl) ?_
  go_upto_region 2 with fail
  refine vh_start (fun v => Wi.TKp w1 v) (by kernel_rfl) ?_
  have hS : Wi.TKp w1 W2.drew := hT2.drewN 1
  have hP2 : Wi.WOkT W2.drew b (l ++ M.form k) := hO2.drew
  refine vh_take 0 true (.pointer (some ⟨b, 0, none⟩)) rfl (by kernel_rfl) (by kernel_rfl) (by kernel_rfl) (want_none rfl) (fun hc v hv => ex_move rfl (ev s0 rfl)) rfl hz (by decide) hS (fun Yg zz kk s10 => ?_)
  replace s0 := ku s0
  replace s3 := ku s3
  replace hz := zz
  clear kk zz s9
  refine vh_take 1 true (.pointer (some ⟨b, 0, none⟩)) rfl (by kernel_rfl) (by kernel_rfl) (by kernel_rfl) (want_none rfl) (fun hc v hv => ex_nil rfl (ev s10 rfl)) rfl hz (by decide) hS (fun Yh zz kk s11 => ?_)
  replace s0 := ku s0
  replace s3 := ku s3
  replace hz := zz
  clear kk zz s10 Yg
  refine vh_take 2 true (.pointer (some ⟨b, 0, none⟩)) rfl (by kernel_rfl) (by kernel_rfl) (by kernel_rfl) (want_none rfl) (fun hc v hv => ex_fa rfl (ev s11 rfl) (by go_simp)) rfl hz (by decide) hS (fun Yi zz kk s12 => ?_)
  replace s0 := ku s0
  replace s3 := ku s3
  replace hz := zz
  clear kk zz s11 Yh
  refine vh_take 3 true (.pointer (some ⟨w.heap.size, 1, none⟩)) rfl (by kernel_rfl) (by kernel_rfl) (by kernel_rfl) (want_none rfl) (fun hc v hv => ex_fa rfl (ev s3 rfl) (by go_simp)) rfl hz (by decide) hS (fun Yj zz kk s13 => ?_)
  replace s0 := ku s0
  replace s3 := ku s3
  replace s12 := ku s12
  replace hz := zz
  clear kk zz Yi
  refine vh_take 4 true (.int .i64 (s : Int)) rfl (by kernel_rfl) (by kernel_rfl) (by kernel_rfl) (want_none rfl) (fun hc v hv => ex_ld rfl (ev s13 rfl) (ldInt (HQ.out v hv 1 _ rfl))) rfl hz (by decide) hS (fun Yk zz kk s14 => ?_)
  replace s0 := ku s0
  replace s3 := ku s3
  replace s12 := ku s12
  replace hz := zz
  clear kk zz s13 Yj
  refine vh_call 5 rfl (by kernel_rfl) (want_none rfl) (ex_call rfl (by simp only [List.map_toArray, List.map_cons, List.map_nil, (ev s12 rfl), (ev s14 rfl), evc] <;> rfl) rfl) (Wi.int_tk B b (l ++ M.form k) s W2.drew hB hP2 hs2 (by first | omega | (simp only [List.length_append]; omega))) rfl hz (by decide) ?_
  rintro e W3 ⟨rfl, hO3, hb, ht⟩
  refine ⟨_, rfl, (hS.trans ht), fun Yl zz kk s15 => ?_⟩
  have hB3 := hB2.trans ((Below.refl _ _).drew.trans hb)
  have hT3 := hT2.trans (((Wi.TKp.refl _).drewN 1).trans ht)
  clear hb ht hS
  replace s0 := ku s0
  replace s3 := ku s3
  replace hz := zz
  clear kk zz s12 s14 Yk
  refine vh_done (by kernel_rfl) ?_
  go_upto_region 3 with fail
  refine vh_start (fun v => Wi.TKp w1 v) (by kernel_rfl) ?_
  have hS : Wi.TKp w1 W3.drew := hT3.drewN 1
  have hP3 : Wi.WOkT W3.drew b (l ++ M.form k ++ M.form s) := hO3.drew
  refine vh_take 0 true (.pointer (some ⟨b, 0, none⟩)) rfl (by kernel_rfl) (by kernel_rfl) (by kernel_rfl) (want_none rfl) (fun hc v hv => ex_move rfl (ev s0 rfl)) rfl hz (by decide) hS (fun Ym zz kk s16 => ?_)
  replace s0 := ku s0
  replace s3 := ku s3
  replace hz := zz
  clear kk zz s15
  refine vh_take 1 true (.pointer (some ⟨b, 0, none⟩)) rfl (by kernel_rfl) (by kernel_rfl) (by kernel_rfl) (want_none rfl) (fun hc v hv => ex_nil rfl (ev s16 rfl)) rfl hz (by decide) hS (fun Yn zz kk s17 => ?_)
  replace s0 := ku s0
  replace s3 := ku s3
  replace hz := zz
  clear kk zz s16 Ym
  refine vh_take 2 true (.pointer (some ⟨b, 0, none⟩)) rfl (by kernel_rfl) (by kernel_rfl) (by kernel_rfl) (want_none rfl) (fun hc v hv => ex_fa rfl (ev s17 rfl) (by go_simp)) rfl hz (by decide) hS (fun Yo zz kk s18 => ?_)
  replace s0 := ku s0
  replace s3 := ku s3
  replace hz := zz
  clear kk zz s17 Yn
  refine vh_take 3 true (.pointer (some ⟨w.heap.size, 2, none⟩)) rfl (by kernel_rfl) (by kernel_rfl) (by kernel_rfl) (want_none rfl) (fun hc v hv => ex_fa rfl (ev s3 rfl) (by go_simp)) rfl hz (by decide) hS (fun Yp zz kk s19 => ?_)
  replace s0 := ku s0
  replace s3 := ku s3
  replace s18 := ku s18
  replace hz := zz
  clear kk zz Yo
  refine vh_take 4 true (.string v) rfl (by kernel_rfl) (by kernel_rfl) (by kernel_rfl) (want_none rfl) (fun hc v hv => ex_ld rfl (ev s19 rfl) (ldStr (HQ.out v hv 2 _ rfl))) rfl hz (by decide) hS (fun Yq zz kk s20 => ?_)
  replace s0 := ku s0
  replace s3 := ku s3
  replace s18 := ku s18
  replace hz := zz
  clear kk zz s19 Yp
  refine vh_call 5 rfl (by kernel_rfl) (want_none rfl) (ex_call rfl (by simp only [List.map_toArray, List.map_cons, List.map_nil, (ev s18 rfl), (ev s20 rfl), evc] <;> rfl) rfl) (Wi.text_tk B b (l ++ M.form k ++ M.form s) v 64 W3.drew hB hP3 hv1 (by first | omega | (simp only [List.length_append]; omega))) rfl hz (by decide) ?_
  rintro e W4 ⟨rfl, hO4, hb, ht⟩
  refine ⟨_, rfl, (hS.trans ht), fun Yr zz kk s21 => ?_⟩
  have hB4 := hB3.trans ((Below.refl _ _).drew.trans hb)
  have hT4 := hT3.trans (((Wi.TKp.refl _).drewN 1).trans ht)
  clear hb ht hS
  replace s0 := ku s0
  replace s3 := ku s3
  replace hz := zz
  clear kk zz s18 s20 Yq
  refine vh_done (by kernel_rfl) ?_
  go_wp2
  go_end0
  exact ⟨rfl, by simpa only [opBy, List.append_assoc] using hO4, hB4, hTw.trans hT4⟩
theorem v_loop {c : Code} {Q : Exit → Act → World → Prop} {T0 : Array Value} {w0 : World} (x N : Nat) (I : Nat → Array Value → World → Prop) (hx : ∀ j T w, I j T w → T[x]? = some (gw true (.int .i64 (j : Int)))) (h0 : I 0 T0 w0)
    (round : ∀ j T w, j ≤ N → I j T w → c.wp Tryz.prog (Exit.then (fun a' w' => ∃ T', a' = ⟨T', []⟩ ∧ j + 1 ≤ N ∧ I (j + 1) T' w') Q) ⟨T, []⟩ w) : (Code.loop c).wp Tryz.prog Q ⟨T0, []⟩ w0 := by
  have sl : ∀ {j : Nat} {T : Array Value} {w : World}, I j T w → (intOf (T.getD x undef)).toNat = j := fun h => by
    rw [getD_of (hx _ _ _ h)]
    show (intOf (.int .i64 _)).toNat = _
    simp [intOf]
  refine wp_loop (fun a w => ∃ j T, a = ⟨T, []⟩ ∧ j ≤ N ∧ I j T w) (fun a w => N - (intOf (a.tmps.getD x undef)).toNat) ⟨0, T0, rfl, Nat.zero_le _, h0⟩ ?_
  rintro a w ⟨j, T, rfl, hj, hI⟩
  refine Code.wp_mono (fun e a' w' h => ?_) (round j T w hj hI)
  cases e with
  | normal =>
    obtain ⟨T', rfl, hj', hI'⟩ := h
    refine ⟨⟨j + 1, T', rfl, hj', hI'⟩, ?_⟩
    show N - (intOf (T'.getD x undef)).toNat < N - (intOf (T.getD x undef)).toNat
    rw [sl hI', sl hI]
    omega
  | _ => exact h
theorem vw {ops : Array Oper} {rest : List Oper} {o : Oper} {T : Array Value} {df : List Deferred} {w : World} {Q : Exit → Act → World → Prop} {d n : Nat} (V : Value) (w' : World) (hw : Region.wanted o (yielded ops T) = true) (he : (execOp (⟨T, df⟩ : Act).eval o).run Tryz.prog w = .ok (.value V) w') (hd : o.dst = some d) (hz : T.size = n) (hn : d < n)
    (hk : ∀ T' : Array Value, T'.size = n → (∀ i, i ≠ d → T'[i]? = T[i]?) → T'[d]? = some (gw true V) → wpList Tryz.prog ops Q rest ⟨T', df⟩ w') : wpList Tryz.prog ops Q (o :: rest) ⟨T, df⟩ w := by
  refine BigFrame.wpList_want hw (fun K hK => ?_)
  unfold Oper.wp
  rw [he, Oper.upon_value]
  refine hK _ _ ?_
  rw [hd]
  exact hk (T.setIfInBounds d V) (by simp [hz]) (fun i hi => at_set_ne _ hi) (at_set _ (by omega))
theorem vs {ops : Array Oper} {rest : List Oper} {o : Oper} {T : Array Value} {df : List Deferred} {w : World} {Q : Exit → Act → World → Prop} (w' : World) (hw : Region.wanted o (yielded ops T) = true) (he : (execOp (⟨T, df⟩ : Act).eval o).run Tryz.prog w = .ok .skip w') (hd : o.dst = none)
    (hk : wpList Tryz.prog ops Q rest ⟨T, df⟩ w') : wpList Tryz.prog ops Q (o :: rest) ⟨T, df⟩ w := by
  refine BigFrame.wpList_want hw (fun K hK => ?_)
  unfold Oper.wp
  rw [he, Oper.upon_skip]
  refine hK _ _ ?_
  rw [hd]
  exact hk
theorem ex_st {o : Oper} {ρ : Operand → Value} {s : TypeId} {x y : Operand} {X Y : Value} {w w' : World} (ho : o.op = .store s x y) (hx : ρ x = X) (hy : ρ y = Y) (hr : (Instr.storeAt s X Y).run Tryz.prog w = .ok () w') : (execOp ρ o).run Tryz.prog w = .ok .skip w' := by
  unfold execOp
  simp only [ho, hx, hy, Sem.run_bind, hr, Result.andThen_ok]
  rfl
theorem ex_al {o : Oper} {ρ : Operand → Value} {s : TypeId} {V : Value} {w w' : World} (ho : o.op = .alloc s) (hr : (Instr.alloc s true (.tuple #[])).run Tryz.prog w = .ok V w') : (execOp ρ o).run Tryz.prog w = .ok (.value V) w' := by
  unfold execOp
  simp only [ho, Sem.run_bind, hr, Result.andThen_ok]
  rfl
end Go.Proofs.YtibedokegignhaaGreatDoor
namespace Go.Proofs.YtibedokegignhaaGreatDoor
open Go.RowKit
open Classical
def yB : Lay Bool := ⟨4, 90, 1, 1, fun x => [.bool x], false⟩
theorem kB : yB.Ok := ⟨by decide, fun x => rfl, fun x u h => by
    simp [yB] at h
    subst h; rfl, Tryz.underlying90, ⟨.bool false, by kernel_rfl, rfl⟩⟩
def btsU (s : ByteArray) : List Nat := s.data.toList.map UInt8.toNat
theorem btsU_len (s : ByteArray) : (btsU s).length = s.size := by unfold btsU; rw [List.length_map, Array.length_toList]; rfl
theorem idxU {s : ByteArray} {j c : Nat} (h : (btsU s)[j]? = some c) (w : World) : (Instr.index 9 (.string s) (.int .i64 (j : Int))).run Tryz.prog w = .ok (.int .u8 (c : Int)) w := by
  have hj : j < s.size := by rw [← btsU_len]; exact (List.getElem?_eq_some_iff.1 h).1
  rw [run_index_string w 9 s .i64 (j : Int) Tryz.underlying9, dif_pos ⟨by omega, by omega⟩]
  have e : ((s[((j : Int)).toNat]'(by omega)).toNat : Int) = (c : Int) := by
    have h2 : (btsU s)[j]? = some (s[j]'hj).toNat := by
      unfold btsU
      rw [List.getElem?_map, List.getElem?_eq_getElem (by simpa using hj)]
      rfl
    rw [h] at h2
    injection h2 with h2
    simp only [Int.toNat_natCast]
    omega
  rw [e]
def usT (l : List Nat) : List Bool := l.map fun c => !(c == 46)
theorem usT_next {l : List Nat} {i c : Nat} (h : l[i]? = some c) : usT (l.take i) ++ [!(c == 46)] = usT (l.take (i + 1)) := by
  unfold usT
  rw [List.take_add_one, h]; simp
set_option maxHeartbeats 1000000 in
theorem uses_1 (w : World) :
    Calls Tryz.prog 35 #[.int .i64 1] w fun e w' => ∃ v', e = .returned v' ∧ OwnY yB w.heap.size w' v' (usT [46, 46, 46, 46, 46, 46, 101, 46, 46, 46]) ∧ Below w.heap.size w w' := by
  have IX : Hid (∀ (j c : Nat), ([46, 46, 46, 46, 46, 46, 101, 46, 46, 46] : List Nat)[j]? = some c → ∀ W, (Instr.index 9 (.string ⟨#[46, 46, 46, 46, 46, 46, 101, 46, 46, 46]⟩) (.int .i64 (j : Int))).run Tryz.prog W = .ok (.int .u8 (c : Int)) W) := fun j c h W => idxU (s := ⟨#[46, 46, 46, 46, 46, 46, 101, 46, 46, 46]⟩) h W
  go_enter Tryz.func35, Tryz.ntmps35
  go_wp2
  go_loopw [4, 5] (fun vl vi wr => ∃ i : Nat, vi = .int .i64 (i : Int) ∧ i ≤ 10 ∧ Hid (OwnY yB w.heap.size wr vl (usT (([46, 46, 46, 46, 46, 46, 101, 46, 46, 46] : List Nat).take i)) ∧ Below w.heap.size w wr)) (fun _ vi _ => 10 - (intOf vi).toNat)
  case atStart => exact ⟨0, rfl, Nat.zero_le _, OwnY.nil _ _ _, Below.refl _ _⟩
  case round =>
    obtain ⟨i, rfl, hi, H⟩ := hrel
    by_cases hlt : i < 10
    · obtain ⟨c, hc⟩ : ∃ c, ([46, 46, 46, 46, 46, 46, 101, 46, 46, 46] : List Nat)[i]? = some c := ⟨_, List.getElem?_eq_getElem hlt⟩
      have ix := fun W => IX.out i c hc W
      have E := hide (usT_next hc)
      have hL : Hid ((usT (([46, 46, 46, 46, 46, 46, 101, 46, 46, 46] : List Nat).take i)).length = i) := by show _ = _; simp [usT]; omega
      clear hc
      have z1 := H.out.2.size
      have SB := hide (sl_box (Y := yB) wr (!(c == 46)) 4)
      have eB : ((c : Int) != 46) = !(c == 46) := by
        by_cases h : c = 46
        · subst h; rfl
        · rw [bne, beq_eq_false_iff_ne.2 h, beq_eq_false_iff_ne.2 (by omega)]
      go_wp2_with (at_builtin; go_must (refine appY kB _ rfl (.tmp 39) (.tmp 44) rfl w.heap.size _ _ rfl (some ⟨wr.heap.size, 0, none⟩) 1 1 rfl [!(c == 46)] SB.out (H.out.1.alloc _) (by simp; omega) (by rw [hL.out]; unfold maxLen; omega) (by show (_ + 1) * 1 ≤ _; rw [hL.out]; omega) ?_))
      intro v5 w2 o2 g2 _
      have b2 := hide ((H.out.1.alloc _).grown (H.out.2.alloc z1 _) g2 (by simp; omega))
      have O2 := hide o2
      clear o2 g2 SB H
      go_wp2
      go_roundw
      case rel => exact ⟨i + 1, by go_num, by omega, by rw [← E.out]; exact O2.out, b2.out⟩
      case measure => simp [intOf]; omega
    · obtain rfl : i = 10 := by omega
      go_wp2
      go_ret
      exact ⟨_, rfl, H.out.1, H.out.2⟩
set_option maxHeartbeats 1000000 in
theorem uses_2 (w : World) :
    Calls Tryz.prog 35 #[.int .i64 2] w fun e w' => ∃ v', e = .returned v' ∧ OwnY yB w.heap.size w' v' (usT [110, 118, 46, 112, 46, 46, 101, 114, 46, 46]) ∧ Below w.heap.size w w' := by
  have IX : Hid (∀ (j c : Nat), ([110, 118, 46, 112, 46, 46, 101, 114, 46, 46] : List Nat)[j]? = some c → ∀ W, (Instr.index 9 (.string ⟨#[110, 118, 46, 112, 46, 46, 101, 114, 46, 46]⟩) (.int .i64 (j : Int))).run Tryz.prog W = .ok (.int .u8 (c : Int)) W) := fun j c h W => idxU (s := ⟨#[110, 118, 46, 112, 46, 46, 101, 114, 46, 46]⟩) h W
  go_enter Tryz.func35, Tryz.ntmps35
  go_wp2
  go_loopw [4, 5] (fun vl vi wr => ∃ i : Nat, vi = .int .i64 (i : Int) ∧ i ≤ 10 ∧ Hid (OwnY yB w.heap.size wr vl (usT (([110, 118, 46, 112, 46, 46, 101, 114, 46, 46] : List Nat).take i)) ∧ Below w.heap.size w wr)) (fun _ vi _ => 10 - (intOf vi).toNat)
  case atStart => exact ⟨0, rfl, Nat.zero_le _, OwnY.nil _ _ _, Below.refl _ _⟩
  case round =>
    obtain ⟨i, rfl, hi, H⟩ := hrel
    by_cases hlt : i < 10
    · obtain ⟨c, hc⟩ : ∃ c, ([110, 118, 46, 112, 46, 46, 101, 114, 46, 46] : List Nat)[i]? = some c := ⟨_, List.getElem?_eq_getElem hlt⟩
      have ix := fun W => IX.out i c hc W
      have E := hide (usT_next hc)
      have hL : Hid ((usT (([110, 118, 46, 112, 46, 46, 101, 114, 46, 46] : List Nat).take i)).length = i) := by show _ = _; simp [usT]; omega
      clear hc
      have z1 := H.out.2.size
      have SB := hide (sl_box (Y := yB) wr (!(c == 46)) 4)
      have eB : ((c : Int) != 46) = !(c == 46) := by
        by_cases h : c = 46
        · subst h; rfl
        · rw [bne, beq_eq_false_iff_ne.2 h, beq_eq_false_iff_ne.2 (by omega)]
      go_wp2_with (at_builtin; go_must (refine appY kB _ rfl (.tmp 39) (.tmp 44) rfl w.heap.size _ _ rfl (some ⟨wr.heap.size, 0, none⟩) 1 1 rfl [!(c == 46)] SB.out (H.out.1.alloc _) (by simp; omega) (by rw [hL.out]; unfold maxLen; omega) (by show (_ + 1) * 1 ≤ _; rw [hL.out]; omega) ?_))
      intro v5 w2 o2 g2 _
      have b2 := hide ((H.out.1.alloc _).grown (H.out.2.alloc z1 _) g2 (by simp; omega))
      have O2 := hide o2
      clear o2 g2 SB H
      go_wp2
      go_roundw
      case rel => exact ⟨i + 1, by go_num, by omega, by rw [← E.out]; exact O2.out, b2.out⟩
      case measure => simp [intOf]; omega
    · obtain rfl : i = 10 := by omega
      go_wp2
      go_ret
      exact ⟨_, rfl, H.out.1, H.out.2⟩
set_option maxHeartbeats 1000000 in
theorem uses_3 (w : World) :
    Calls Tryz.prog 35 #[.int .i64 3] w fun e w' => ∃ v', e = .returned v' ∧ OwnY yB w.heap.size w' v' (usT [110, 118, 46, 112, 99, 46, 101, 46, 46, 120]) ∧ Below w.heap.size w w' := by
  have IX : Hid (∀ (j c : Nat), ([110, 118, 46, 112, 99, 46, 101, 46, 46, 120] : List Nat)[j]? = some c → ∀ W, (Instr.index 9 (.string ⟨#[110, 118, 46, 112, 99, 46, 101, 46, 46, 120]⟩) (.int .i64 (j : Int))).run Tryz.prog W = .ok (.int .u8 (c : Int)) W) := fun j c h W => idxU (s := ⟨#[110, 118, 46, 112, 99, 46, 101, 46, 46, 120]⟩) h W
  go_enter Tryz.func35, Tryz.ntmps35
  go_wp2
  go_loopw [4, 5] (fun vl vi wr => ∃ i : Nat, vi = .int .i64 (i : Int) ∧ i ≤ 10 ∧ Hid (OwnY yB w.heap.size wr vl (usT (([110, 118, 46, 112, 99, 46, 101, 46, 46, 120] : List Nat).take i)) ∧ Below w.heap.size w wr)) (fun _ vi _ => 10 - (intOf vi).toNat)
  case atStart => exact ⟨0, rfl, Nat.zero_le _, OwnY.nil _ _ _, Below.refl _ _⟩
  case round =>
    obtain ⟨i, rfl, hi, H⟩ := hrel
    by_cases hlt : i < 10
    · obtain ⟨c, hc⟩ : ∃ c, ([110, 118, 46, 112, 99, 46, 101, 46, 46, 120] : List Nat)[i]? = some c := ⟨_, List.getElem?_eq_getElem hlt⟩
      have ix := fun W => IX.out i c hc W
      have E := hide (usT_next hc)
      have hL : Hid ((usT (([110, 118, 46, 112, 99, 46, 101, 46, 46, 120] : List Nat).take i)).length = i) := by show _ = _; simp [usT]; omega
      clear hc
      have z1 := H.out.2.size
      have SB := hide (sl_box (Y := yB) wr (!(c == 46)) 4)
      have eB : ((c : Int) != 46) = !(c == 46) := by
        by_cases h : c = 46
        · subst h; rfl
        · rw [bne, beq_eq_false_iff_ne.2 h, beq_eq_false_iff_ne.2 (by omega)]
      go_wp2_with (at_builtin; go_must (refine appY kB _ rfl (.tmp 39) (.tmp 44) rfl w.heap.size _ _ rfl (some ⟨wr.heap.size, 0, none⟩) 1 1 rfl [!(c == 46)] SB.out (H.out.1.alloc _) (by simp; omega) (by rw [hL.out]; unfold maxLen; omega) (by show (_ + 1) * 1 ≤ _; rw [hL.out]; omega) ?_))
      intro v5 w2 o2 g2 _
      have b2 := hide ((H.out.1.alloc _).grown (H.out.2.alloc z1 _) g2 (by simp; omega))
      have O2 := hide o2
      clear o2 g2 SB H
      go_wp2
      go_roundw
      case rel => exact ⟨i + 1, by go_num, by omega, by rw [← E.out]; exact O2.out, b2.out⟩
      case measure => simp [intOf]; omega
    · obtain rfl : i = 10 := by omega
      go_wp2
      go_ret
      exact ⟨_, rfl, H.out.1, H.out.2⟩
set_option maxHeartbeats 1000000 in
theorem uses_4 (w : World) :
    Calls Tryz.prog 35 #[.int .i64 4] w fun e w' => ∃ v', e = .returned v' ∧ OwnY yB w.heap.size w' v' (usT [110, 118, 46, 112, 46, 46, 46, 46, 46, 120]) ∧ Below w.heap.size w w' := by
  have IX : Hid (∀ (j c : Nat), ([110, 118, 46, 112, 46, 46, 46, 46, 46, 120] : List Nat)[j]? = some c → ∀ W, (Instr.index 9 (.string ⟨#[110, 118, 46, 112, 46, 46, 46, 46, 46, 120]⟩) (.int .i64 (j : Int))).run Tryz.prog W = .ok (.int .u8 (c : Int)) W) := fun j c h W => idxU (s := ⟨#[110, 118, 46, 112, 46, 46, 46, 46, 46, 120]⟩) h W
  go_enter Tryz.func35, Tryz.ntmps35
  go_wp2
  go_loopw [4, 5] (fun vl vi wr => ∃ i : Nat, vi = .int .i64 (i : Int) ∧ i ≤ 10 ∧ Hid (OwnY yB w.heap.size wr vl (usT (([110, 118, 46, 112, 46, 46, 46, 46, 46, 120] : List Nat).take i)) ∧ Below w.heap.size w wr)) (fun _ vi _ => 10 - (intOf vi).toNat)
  case atStart => exact ⟨0, rfl, Nat.zero_le _, OwnY.nil _ _ _, Below.refl _ _⟩
  case round =>
    obtain ⟨i, rfl, hi, H⟩ := hrel
    by_cases hlt : i < 10
    · obtain ⟨c, hc⟩ : ∃ c, ([110, 118, 46, 112, 46, 46, 46, 46, 46, 120] : List Nat)[i]? = some c := ⟨_, List.getElem?_eq_getElem hlt⟩
      have ix := fun W => IX.out i c hc W
      have E := hide (usT_next hc)
      have hL : Hid ((usT (([110, 118, 46, 112, 46, 46, 46, 46, 46, 120] : List Nat).take i)).length = i) := by show _ = _; simp [usT]; omega
      clear hc
      have z1 := H.out.2.size
      have SB := hide (sl_box (Y := yB) wr (!(c == 46)) 4)
      have eB : ((c : Int) != 46) = !(c == 46) := by
        by_cases h : c = 46
        · subst h; rfl
        · rw [bne, beq_eq_false_iff_ne.2 h, beq_eq_false_iff_ne.2 (by omega)]
      go_wp2_with (at_builtin; go_must (refine appY kB _ rfl (.tmp 39) (.tmp 44) rfl w.heap.size _ _ rfl (some ⟨wr.heap.size, 0, none⟩) 1 1 rfl [!(c == 46)] SB.out (H.out.1.alloc _) (by simp; omega) (by rw [hL.out]; unfold maxLen; omega) (by show (_ + 1) * 1 ≤ _; rw [hL.out]; omega) ?_))
      intro v5 w2 o2 g2 _
      have b2 := hide ((H.out.1.alloc _).grown (H.out.2.alloc z1 _) g2 (by simp; omega))
      have O2 := hide o2
      clear o2 g2 SB H
      go_wp2
      go_roundw
      case rel => exact ⟨i + 1, by go_num, by omega, by rw [← E.out]; exact O2.out, b2.out⟩
      case measure => simp [intOf]; omega
    · obtain rfl : i = 10 := by omega
      go_wp2
      go_ret
      exact ⟨_, rfl, H.out.1, H.out.2⟩
set_option maxHeartbeats 1000000 in
theorem uses_5 (w : World) :
    Calls Tryz.prog 35 #[.int .i64 5] w fun e w' => ∃ v', e = .returned v' ∧ OwnY yB w.heap.size w' v' (usT [110, 118, 46, 46, 99, 46, 46, 46, 46, 120]) ∧ Below w.heap.size w w' := by
  have IX : Hid (∀ (j c : Nat), ([110, 118, 46, 46, 99, 46, 46, 46, 46, 120] : List Nat)[j]? = some c → ∀ W, (Instr.index 9 (.string ⟨#[110, 118, 46, 46, 99, 46, 46, 46, 46, 120]⟩) (.int .i64 (j : Int))).run Tryz.prog W = .ok (.int .u8 (c : Int)) W) := fun j c h W => idxU (s := ⟨#[110, 118, 46, 46, 99, 46, 46, 46, 46, 120]⟩) h W
  go_enter Tryz.func35, Tryz.ntmps35
  go_wp2
  go_loopw [4, 5] (fun vl vi wr => ∃ i : Nat, vi = .int .i64 (i : Int) ∧ i ≤ 10 ∧ Hid (OwnY yB w.heap.size wr vl (usT (([110, 118, 46, 46, 99, 46, 46, 46, 46, 120] : List Nat).take i)) ∧ Below w.heap.size w wr)) (fun _ vi _ => 10 - (intOf vi).toNat)
  case atStart => exact ⟨0, rfl, Nat.zero_le _, OwnY.nil _ _ _, Below.refl _ _⟩
  case round =>
    obtain ⟨i, rfl, hi, H⟩ := hrel
    by_cases hlt : i < 10
    · obtain ⟨c, hc⟩ : ∃ c, ([110, 118, 46, 46, 99, 46, 46, 46, 46, 120] : List Nat)[i]? = some c := ⟨_, List.getElem?_eq_getElem hlt⟩
      have ix := fun W => IX.out i c hc W
      have E := hide (usT_next hc)
      have hL : Hid ((usT (([110, 118, 46, 46, 99, 46, 46, 46, 46, 120] : List Nat).take i)).length = i) := by show _ = _; simp [usT]; omega
      clear hc
      have z1 := H.out.2.size
      have SB := hide (sl_box (Y := yB) wr (!(c == 46)) 4)
      have eB : ((c : Int) != 46) = !(c == 46) := by
        by_cases h : c = 46
        · subst h; rfl
        · rw [bne, beq_eq_false_iff_ne.2 h, beq_eq_false_iff_ne.2 (by omega)]
      go_wp2_with (at_builtin; go_must (refine appY kB _ rfl (.tmp 39) (.tmp 44) rfl w.heap.size _ _ rfl (some ⟨wr.heap.size, 0, none⟩) 1 1 rfl [!(c == 46)] SB.out (H.out.1.alloc _) (by simp; omega) (by rw [hL.out]; unfold maxLen; omega) (by show (_ + 1) * 1 ≤ _; rw [hL.out]; omega) ?_))
      intro v5 w2 o2 g2 _
      have b2 := hide ((H.out.1.alloc _).grown (H.out.2.alloc z1 _) g2 (by simp; omega))
      have O2 := hide o2
      clear o2 g2 SB H
      go_wp2
      go_roundw
      case rel => exact ⟨i + 1, by go_num, by omega, by rw [← E.out]; exact O2.out, b2.out⟩
      case measure => simp [intOf]; omega
    · obtain rfl : i = 10 := by omega
      go_wp2
      go_ret
      exact ⟨_, rfl, H.out.1, H.out.2⟩
set_option maxHeartbeats 1000000 in
theorem uses_6 (w : World) :
    Calls Tryz.prog 35 #[.int .i64 6] w fun e w' => ∃ v', e = .returned v' ∧ OwnY yB w.heap.size w' v' (usT [110, 118, 46, 46, 46, 46, 46, 46, 46, 120]) ∧ Below w.heap.size w w' := by
  have IX : Hid (∀ (j c : Nat), ([110, 118, 46, 46, 46, 46, 46, 46, 46, 120] : List Nat)[j]? = some c → ∀ W, (Instr.index 9 (.string ⟨#[110, 118, 46, 46, 46, 46, 46, 46, 46, 120]⟩) (.int .i64 (j : Int))).run Tryz.prog W = .ok (.int .u8 (c : Int)) W) := fun j c h W => idxU (s := ⟨#[110, 118, 46, 46, 46, 46, 46, 46, 46, 120]⟩) h W
  go_enter Tryz.func35, Tryz.ntmps35
  go_wp2
  go_loopw [4, 5] (fun vl vi wr => ∃ i : Nat, vi = .int .i64 (i : Int) ∧ i ≤ 10 ∧ Hid (OwnY yB w.heap.size wr vl (usT (([110, 118, 46, 46, 46, 46, 46, 46, 46, 120] : List Nat).take i)) ∧ Below w.heap.size w wr)) (fun _ vi _ => 10 - (intOf vi).toNat)
  case atStart => exact ⟨0, rfl, Nat.zero_le _, OwnY.nil _ _ _, Below.refl _ _⟩
  case round =>
    obtain ⟨i, rfl, hi, H⟩ := hrel
    by_cases hlt : i < 10
    · obtain ⟨c, hc⟩ : ∃ c, ([110, 118, 46, 46, 46, 46, 46, 46, 46, 120] : List Nat)[i]? = some c := ⟨_, List.getElem?_eq_getElem hlt⟩
      have ix := fun W => IX.out i c hc W
      have E := hide (usT_next hc)
      have hL : Hid ((usT (([110, 118, 46, 46, 46, 46, 46, 46, 46, 120] : List Nat).take i)).length = i) := by show _ = _; simp [usT]; omega
      clear hc
      have z1 := H.out.2.size
      have SB := hide (sl_box (Y := yB) wr (!(c == 46)) 4)
      have eB : ((c : Int) != 46) = !(c == 46) := by
        by_cases h : c = 46
        · subst h; rfl
        · rw [bne, beq_eq_false_iff_ne.2 h, beq_eq_false_iff_ne.2 (by omega)]
      go_wp2_with (at_builtin; go_must (refine appY kB _ rfl (.tmp 39) (.tmp 44) rfl w.heap.size _ _ rfl (some ⟨wr.heap.size, 0, none⟩) 1 1 rfl [!(c == 46)] SB.out (H.out.1.alloc _) (by simp; omega) (by rw [hL.out]; unfold maxLen; omega) (by show (_ + 1) * 1 ≤ _; rw [hL.out]; omega) ?_))
      intro v5 w2 o2 g2 _
      have b2 := hide ((H.out.1.alloc _).grown (H.out.2.alloc z1 _) g2 (by simp; omega))
      have O2 := hide o2
      clear o2 g2 SB H
      go_wp2
      go_roundw
      case rel => exact ⟨i + 1, by go_num, by omega, by rw [← E.out]; exact O2.out, b2.out⟩
      case measure => simp [intOf]; omega
    · obtain rfl : i = 10 := by omega
      go_wp2
      go_ret
      exact ⟨_, rfl, H.out.1, H.out.2⟩
set_option maxHeartbeats 1000000 in
theorem uses_7 (w : World) :
    Calls Tryz.prog 35 #[.int .i64 7] w fun e w' => ∃ v', e = .returned v' ∧ OwnY yB w.heap.size w' v' (usT [110, 118, 108, 46, 99, 46, 46, 46, 103, 120]) ∧ Below w.heap.size w w' := by
  have IX : Hid (∀ (j c : Nat), ([110, 118, 108, 46, 99, 46, 46, 46, 103, 120] : List Nat)[j]? = some c → ∀ W, (Instr.index 9 (.string ⟨#[110, 118, 108, 46, 99, 46, 46, 46, 103, 120]⟩) (.int .i64 (j : Int))).run Tryz.prog W = .ok (.int .u8 (c : Int)) W) := fun j c h W => idxU (s := ⟨#[110, 118, 108, 46, 99, 46, 46, 46, 103, 120]⟩) h W
  go_enter Tryz.func35, Tryz.ntmps35
  go_wp2
  go_loopw [4, 5] (fun vl vi wr => ∃ i : Nat, vi = .int .i64 (i : Int) ∧ i ≤ 10 ∧ Hid (OwnY yB w.heap.size wr vl (usT (([110, 118, 108, 46, 99, 46, 46, 46, 103, 120] : List Nat).take i)) ∧ Below w.heap.size w wr)) (fun _ vi _ => 10 - (intOf vi).toNat)
  case atStart => exact ⟨0, rfl, Nat.zero_le _, OwnY.nil _ _ _, Below.refl _ _⟩
  case round =>
    obtain ⟨i, rfl, hi, H⟩ := hrel
    by_cases hlt : i < 10
    · obtain ⟨c, hc⟩ : ∃ c, ([110, 118, 108, 46, 99, 46, 46, 46, 103, 120] : List Nat)[i]? = some c := ⟨_, List.getElem?_eq_getElem hlt⟩
      have ix := fun W => IX.out i c hc W
      have E := hide (usT_next hc)
      have hL : Hid ((usT (([110, 118, 108, 46, 99, 46, 46, 46, 103, 120] : List Nat).take i)).length = i) := by show _ = _; simp [usT]; omega
      clear hc
      have z1 := H.out.2.size
      have SB := hide (sl_box (Y := yB) wr (!(c == 46)) 4)
      have eB : ((c : Int) != 46) = !(c == 46) := by
        by_cases h : c = 46
        · subst h; rfl
        · rw [bne, beq_eq_false_iff_ne.2 h, beq_eq_false_iff_ne.2 (by omega)]
      go_wp2_with (at_builtin; go_must (refine appY kB _ rfl (.tmp 39) (.tmp 44) rfl w.heap.size _ _ rfl (some ⟨wr.heap.size, 0, none⟩) 1 1 rfl [!(c == 46)] SB.out (H.out.1.alloc _) (by simp; omega) (by rw [hL.out]; unfold maxLen; omega) (by show (_ + 1) * 1 ≤ _; rw [hL.out]; omega) ?_))
      intro v5 w2 o2 g2 _
      have b2 := hide ((H.out.1.alloc _).grown (H.out.2.alloc z1 _) g2 (by simp; omega))
      have O2 := hide o2
      clear o2 g2 SB H
      go_wp2
      go_roundw
      case rel => exact ⟨i + 1, by go_num, by omega, by rw [← E.out]; exact O2.out, b2.out⟩
      case measure => simp [intOf]; omega
    · obtain rfl : i = 10 := by omega
      go_wp2
      go_ret
      exact ⟨_, rfl, H.out.1, H.out.2⟩
set_option maxHeartbeats 1000000 in
theorem uses_8 (w : World) :
    Calls Tryz.prog 35 #[.int .i64 8] w fun e w' => ∃ v', e = .returned v' ∧ OwnY yB w.heap.size w' v' (usT [110, 118, 46, 46, 99, 46, 46, 46, 103, 120]) ∧ Below w.heap.size w w' := by
  have IX : Hid (∀ (j c : Nat), ([110, 118, 46, 46, 99, 46, 46, 46, 103, 120] : List Nat)[j]? = some c → ∀ W, (Instr.index 9 (.string ⟨#[110, 118, 46, 46, 99, 46, 46, 46, 103, 120]⟩) (.int .i64 (j : Int))).run Tryz.prog W = .ok (.int .u8 (c : Int)) W) := fun j c h W => idxU (s := ⟨#[110, 118, 46, 46, 99, 46, 46, 46, 103, 120]⟩) h W
  go_enter Tryz.func35, Tryz.ntmps35
  go_wp2
  go_loopw [4, 5] (fun vl vi wr => ∃ i : Nat, vi = .int .i64 (i : Int) ∧ i ≤ 10 ∧ Hid (OwnY yB w.heap.size wr vl (usT (([110, 118, 46, 46, 99, 46, 46, 46, 103, 120] : List Nat).take i)) ∧ Below w.heap.size w wr)) (fun _ vi _ => 10 - (intOf vi).toNat)
  case atStart => exact ⟨0, rfl, Nat.zero_le _, OwnY.nil _ _ _, Below.refl _ _⟩
  case round =>
    obtain ⟨i, rfl, hi, H⟩ := hrel
    by_cases hlt : i < 10
    · obtain ⟨c, hc⟩ : ∃ c, ([110, 118, 46, 46, 99, 46, 46, 46, 103, 120] : List Nat)[i]? = some c := ⟨_, List.getElem?_eq_getElem hlt⟩
      have ix := fun W => IX.out i c hc W
      have E := hide (usT_next hc)
      have hL : Hid ((usT (([110, 118, 46, 46, 99, 46, 46, 46, 103, 120] : List Nat).take i)).length = i) := by show _ = _; simp [usT]; omega
      clear hc
      have z1 := H.out.2.size
      have SB := hide (sl_box (Y := yB) wr (!(c == 46)) 4)
      have eB : ((c : Int) != 46) = !(c == 46) := by
        by_cases h : c = 46
        · subst h; rfl
        · rw [bne, beq_eq_false_iff_ne.2 h, beq_eq_false_iff_ne.2 (by omega)]
      go_wp2_with (at_builtin; go_must (refine appY kB _ rfl (.tmp 39) (.tmp 44) rfl w.heap.size _ _ rfl (some ⟨wr.heap.size, 0, none⟩) 1 1 rfl [!(c == 46)] SB.out (H.out.1.alloc _) (by simp; omega) (by rw [hL.out]; unfold maxLen; omega) (by show (_ + 1) * 1 ≤ _; rw [hL.out]; omega) ?_))
      intro v5 w2 o2 g2 _
      have b2 := hide ((H.out.1.alloc _).grown (H.out.2.alloc z1 _) g2 (by simp; omega))
      have O2 := hide o2
      clear o2 g2 SB H
      go_wp2
      go_roundw
      case rel => exact ⟨i + 1, by go_num, by omega, by rw [← E.out]; exact O2.out, b2.out⟩
      case measure => simp [intOf]; omega
    · obtain rfl : i = 10 := by omega
      go_wp2
      go_ret
      exact ⟨_, rfl, H.out.1, H.out.2⟩
set_option maxHeartbeats 1000000 in
theorem uses_9 (w : World) :
    Calls Tryz.prog 35 #[.int .i64 9] w fun e w' => ∃ v', e = .returned v' ∧ OwnY yB w.heap.size w' v' (usT [110, 46, 46, 46, 46, 100, 46, 46, 46, 120]) ∧ Below w.heap.size w w' := by
  have IX : Hid (∀ (j c : Nat), ([110, 46, 46, 46, 46, 100, 46, 46, 46, 120] : List Nat)[j]? = some c → ∀ W, (Instr.index 9 (.string ⟨#[110, 46, 46, 46, 46, 100, 46, 46, 46, 120]⟩) (.int .i64 (j : Int))).run Tryz.prog W = .ok (.int .u8 (c : Int)) W) := fun j c h W => idxU (s := ⟨#[110, 46, 46, 46, 46, 100, 46, 46, 46, 120]⟩) h W
  go_enter Tryz.func35, Tryz.ntmps35
  go_wp2
  go_loopw [4, 5] (fun vl vi wr => ∃ i : Nat, vi = .int .i64 (i : Int) ∧ i ≤ 10 ∧ Hid (OwnY yB w.heap.size wr vl (usT (([110, 46, 46, 46, 46, 100, 46, 46, 46, 120] : List Nat).take i)) ∧ Below w.heap.size w wr)) (fun _ vi _ => 10 - (intOf vi).toNat)
  case atStart => exact ⟨0, rfl, Nat.zero_le _, OwnY.nil _ _ _, Below.refl _ _⟩
  case round =>
    obtain ⟨i, rfl, hi, H⟩ := hrel
    by_cases hlt : i < 10
    · obtain ⟨c, hc⟩ : ∃ c, ([110, 46, 46, 46, 46, 100, 46, 46, 46, 120] : List Nat)[i]? = some c := ⟨_, List.getElem?_eq_getElem hlt⟩
      have ix := fun W => IX.out i c hc W
      have E := hide (usT_next hc)
      have hL : Hid ((usT (([110, 46, 46, 46, 46, 100, 46, 46, 46, 120] : List Nat).take i)).length = i) := by show _ = _; simp [usT]; omega
      clear hc
      have z1 := H.out.2.size
      have SB := hide (sl_box (Y := yB) wr (!(c == 46)) 4)
      have eB : ((c : Int) != 46) = !(c == 46) := by
        by_cases h : c = 46
        · subst h; rfl
        · rw [bne, beq_eq_false_iff_ne.2 h, beq_eq_false_iff_ne.2 (by omega)]
      go_wp2_with (at_builtin; go_must (refine appY kB _ rfl (.tmp 39) (.tmp 44) rfl w.heap.size _ _ rfl (some ⟨wr.heap.size, 0, none⟩) 1 1 rfl [!(c == 46)] SB.out (H.out.1.alloc _) (by simp; omega) (by rw [hL.out]; unfold maxLen; omega) (by show (_ + 1) * 1 ≤ _; rw [hL.out]; omega) ?_))
      intro v5 w2 o2 g2 _
      have b2 := hide ((H.out.1.alloc _).grown (H.out.2.alloc z1 _) g2 (by simp; omega))
      have O2 := hide o2
      clear o2 g2 SB H
      go_wp2
      go_roundw
      case rel => exact ⟨i + 1, by go_num, by omega, by rw [← E.out]; exact O2.out, b2.out⟩
      case measure => simp [intOf]; omega
    · obtain rfl : i = 10 := by omega
      go_wp2
      go_ret
      exact ⟨_, rfl, H.out.1, H.out.2⟩
set_option maxHeartbeats 1000000 in
theorem uses_10 (w : World) :
    Calls Tryz.prog 35 #[.int .i64 10] w fun e w' => ∃ v', e = .returned v' ∧ OwnY yB w.heap.size w' v' (usT [110, 118, 46, 46, 99, 100, 46, 46, 103, 120]) ∧ Below w.heap.size w w' := by
  have IX : Hid (∀ (j c : Nat), ([110, 118, 46, 46, 99, 100, 46, 46, 103, 120] : List Nat)[j]? = some c → ∀ W, (Instr.index 9 (.string ⟨#[110, 118, 46, 46, 99, 100, 46, 46, 103, 120]⟩) (.int .i64 (j : Int))).run Tryz.prog W = .ok (.int .u8 (c : Int)) W) := fun j c h W => idxU (s := ⟨#[110, 118, 46, 46, 99, 100, 46, 46, 103, 120]⟩) h W
  go_enter Tryz.func35, Tryz.ntmps35
  go_wp2
  go_loopw [4, 5] (fun vl vi wr => ∃ i : Nat, vi = .int .i64 (i : Int) ∧ i ≤ 10 ∧ Hid (OwnY yB w.heap.size wr vl (usT (([110, 118, 46, 46, 99, 100, 46, 46, 103, 120] : List Nat).take i)) ∧ Below w.heap.size w wr)) (fun _ vi _ => 10 - (intOf vi).toNat)
  case atStart => exact ⟨0, rfl, Nat.zero_le _, OwnY.nil _ _ _, Below.refl _ _⟩
  case round =>
    obtain ⟨i, rfl, hi, H⟩ := hrel
    by_cases hlt : i < 10
    · obtain ⟨c, hc⟩ : ∃ c, ([110, 118, 46, 46, 99, 100, 46, 46, 103, 120] : List Nat)[i]? = some c := ⟨_, List.getElem?_eq_getElem hlt⟩
      have ix := fun W => IX.out i c hc W
      have E := hide (usT_next hc)
      have hL : Hid ((usT (([110, 118, 46, 46, 99, 100, 46, 46, 103, 120] : List Nat).take i)).length = i) := by show _ = _; simp [usT]; omega
      clear hc
      have z1 := H.out.2.size
      have SB := hide (sl_box (Y := yB) wr (!(c == 46)) 4)
      have eB : ((c : Int) != 46) = !(c == 46) := by
        by_cases h : c = 46
        · subst h; rfl
        · rw [bne, beq_eq_false_iff_ne.2 h, beq_eq_false_iff_ne.2 (by omega)]
      go_wp2_with (at_builtin; go_must (refine appY kB _ rfl (.tmp 39) (.tmp 44) rfl w.heap.size _ _ rfl (some ⟨wr.heap.size, 0, none⟩) 1 1 rfl [!(c == 46)] SB.out (H.out.1.alloc _) (by simp; omega) (by rw [hL.out]; unfold maxLen; omega) (by show (_ + 1) * 1 ≤ _; rw [hL.out]; omega) ?_))
      intro v5 w2 o2 g2 _
      have b2 := hide ((H.out.1.alloc _).grown (H.out.2.alloc z1 _) g2 (by simp; omega))
      have O2 := hide o2
      clear o2 g2 SB H
      go_wp2
      go_roundw
      case rel => exact ⟨i + 1, by go_num, by omega, by rw [← E.out]; exact O2.out, b2.out⟩
      case measure => simp [intOf]; omega
    · obtain rfl : i = 10 := by omega
      go_wp2
      go_ret
      exact ⟨_, rfl, H.out.1, H.out.2⟩
set_option maxHeartbeats 1000000 in
theorem uses_11 (w : World) :
    Calls Tryz.prog 35 #[.int .i64 11] w fun e w' => ∃ v', e = .returned v' ∧ OwnY yB w.heap.size w' v' (usT [110, 118, 46, 46, 46, 46, 46, 46, 46, 120]) ∧ Below w.heap.size w w' := by
  have IX : Hid (∀ (j c : Nat), ([110, 118, 46, 46, 46, 46, 46, 46, 46, 120] : List Nat)[j]? = some c → ∀ W, (Instr.index 9 (.string ⟨#[110, 118, 46, 46, 46, 46, 46, 46, 46, 120]⟩) (.int .i64 (j : Int))).run Tryz.prog W = .ok (.int .u8 (c : Int)) W) := fun j c h W => idxU (s := ⟨#[110, 118, 46, 46, 46, 46, 46, 46, 46, 120]⟩) h W
  go_enter Tryz.func35, Tryz.ntmps35
  go_wp2
  go_loopw [4, 5] (fun vl vi wr => ∃ i : Nat, vi = .int .i64 (i : Int) ∧ i ≤ 10 ∧ Hid (OwnY yB w.heap.size wr vl (usT (([110, 118, 46, 46, 46, 46, 46, 46, 46, 120] : List Nat).take i)) ∧ Below w.heap.size w wr)) (fun _ vi _ => 10 - (intOf vi).toNat)
  case atStart => exact ⟨0, rfl, Nat.zero_le _, OwnY.nil _ _ _, Below.refl _ _⟩
  case round =>
    obtain ⟨i, rfl, hi, H⟩ := hrel
    by_cases hlt : i < 10
    · obtain ⟨c, hc⟩ : ∃ c, ([110, 118, 46, 46, 46, 46, 46, 46, 46, 120] : List Nat)[i]? = some c := ⟨_, List.getElem?_eq_getElem hlt⟩
      have ix := fun W => IX.out i c hc W
      have E := hide (usT_next hc)
      have hL : Hid ((usT (([110, 118, 46, 46, 46, 46, 46, 46, 46, 120] : List Nat).take i)).length = i) := by show _ = _; simp [usT]; omega
      clear hc
      have z1 := H.out.2.size
      have SB := hide (sl_box (Y := yB) wr (!(c == 46)) 4)
      have eB : ((c : Int) != 46) = !(c == 46) := by
        by_cases h : c = 46
        · subst h; rfl
        · rw [bne, beq_eq_false_iff_ne.2 h, beq_eq_false_iff_ne.2 (by omega)]
      go_wp2_with (at_builtin; go_must (refine appY kB _ rfl (.tmp 39) (.tmp 44) rfl w.heap.size _ _ rfl (some ⟨wr.heap.size, 0, none⟩) 1 1 rfl [!(c == 46)] SB.out (H.out.1.alloc _) (by simp; omega) (by rw [hL.out]; unfold maxLen; omega) (by show (_ + 1) * 1 ≤ _; rw [hL.out]; omega) ?_))
      intro v5 w2 o2 g2 _
      have b2 := hide ((H.out.1.alloc _).grown (H.out.2.alloc z1 _) g2 (by simp; omega))
      have O2 := hide o2
      clear o2 g2 SB H
      go_wp2
      go_roundw
      case rel => exact ⟨i + 1, by go_num, by omega, by rw [← E.out]; exact O2.out, b2.out⟩
      case measure => simp [intOf]; omega
    · obtain rfl : i = 10 := by omega
      go_wp2
      go_ret
      exact ⟨_, rfl, H.out.1, H.out.2⟩
set_option maxHeartbeats 1000000 in
theorem uses_12 (w : World) :
    Calls Tryz.prog 35 #[.int .i64 12] w fun e w' => ∃ v', e = .returned v' ∧ OwnY yB w.heap.size w' v' (usT [110, 118, 46, 46, 99, 46, 46, 46, 103, 120]) ∧ Below w.heap.size w w' := by
  have IX : Hid (∀ (j c : Nat), ([110, 118, 46, 46, 99, 46, 46, 46, 103, 120] : List Nat)[j]? = some c → ∀ W, (Instr.index 9 (.string ⟨#[110, 118, 46, 46, 99, 46, 46, 46, 103, 120]⟩) (.int .i64 (j : Int))).run Tryz.prog W = .ok (.int .u8 (c : Int)) W) := fun j c h W => idxU (s := ⟨#[110, 118, 46, 46, 99, 46, 46, 46, 103, 120]⟩) h W
  go_enter Tryz.func35, Tryz.ntmps35
  go_wp2
  go_loopw [4, 5] (fun vl vi wr => ∃ i : Nat, vi = .int .i64 (i : Int) ∧ i ≤ 10 ∧ Hid (OwnY yB w.heap.size wr vl (usT (([110, 118, 46, 46, 99, 46, 46, 46, 103, 120] : List Nat).take i)) ∧ Below w.heap.size w wr)) (fun _ vi _ => 10 - (intOf vi).toNat)
  case atStart => exact ⟨0, rfl, Nat.zero_le _, OwnY.nil _ _ _, Below.refl _ _⟩
  case round =>
    obtain ⟨i, rfl, hi, H⟩ := hrel
    by_cases hlt : i < 10
    · obtain ⟨c, hc⟩ : ∃ c, ([110, 118, 46, 46, 99, 46, 46, 46, 103, 120] : List Nat)[i]? = some c := ⟨_, List.getElem?_eq_getElem hlt⟩
      have ix := fun W => IX.out i c hc W
      have E := hide (usT_next hc)
      have hL : Hid ((usT (([110, 118, 46, 46, 99, 46, 46, 46, 103, 120] : List Nat).take i)).length = i) := by show _ = _; simp [usT]; omega
      clear hc
      have z1 := H.out.2.size
      have SB := hide (sl_box (Y := yB) wr (!(c == 46)) 4)
      have eB : ((c : Int) != 46) = !(c == 46) := by
        by_cases h : c = 46
        · subst h; rfl
        · rw [bne, beq_eq_false_iff_ne.2 h, beq_eq_false_iff_ne.2 (by omega)]
      go_wp2_with (at_builtin; go_must (refine appY kB _ rfl (.tmp 39) (.tmp 44) rfl w.heap.size _ _ rfl (some ⟨wr.heap.size, 0, none⟩) 1 1 rfl [!(c == 46)] SB.out (H.out.1.alloc _) (by simp; omega) (by rw [hL.out]; unfold maxLen; omega) (by show (_ + 1) * 1 ≤ _; rw [hL.out]; omega) ?_))
      intro v5 w2 o2 g2 _
      have b2 := hide ((H.out.1.alloc _).grown (H.out.2.alloc z1 _) g2 (by simp; omega))
      have O2 := hide o2
      clear o2 g2 SB H
      go_wp2
      go_roundw
      case rel => exact ⟨i + 1, by go_num, by omega, by rw [← E.out]; exact O2.out, b2.out⟩
      case measure => simp [intOf]; omega
    · obtain rfl : i = 10 := by omega
      go_wp2
      go_ret
      exact ⟨_, rfl, H.out.1, H.out.2⟩
set_option maxHeartbeats 1000000 in
theorem uses_13 (w : World) :
    Calls Tryz.prog 35 #[.int .i64 13] w fun e w' => ∃ v', e = .returned v' ∧ OwnY yB w.heap.size w' v' (usT [46, 46, 46, 112, 46, 46, 101, 46, 46, 46]) ∧ Below w.heap.size w w' := by
  have IX : Hid (∀ (j c : Nat), ([46, 46, 46, 112, 46, 46, 101, 46, 46, 46] : List Nat)[j]? = some c → ∀ W, (Instr.index 9 (.string ⟨#[46, 46, 46, 112, 46, 46, 101, 46, 46, 46]⟩) (.int .i64 (j : Int))).run Tryz.prog W = .ok (.int .u8 (c : Int)) W) := fun j c h W => idxU (s := ⟨#[46, 46, 46, 112, 46, 46, 101, 46, 46, 46]⟩) h W
  go_enter Tryz.func35, Tryz.ntmps35
  go_wp2
  go_loopw [4, 5] (fun vl vi wr => ∃ i : Nat, vi = .int .i64 (i : Int) ∧ i ≤ 10 ∧ Hid (OwnY yB w.heap.size wr vl (usT (([46, 46, 46, 112, 46, 46, 101, 46, 46, 46] : List Nat).take i)) ∧ Below w.heap.size w wr)) (fun _ vi _ => 10 - (intOf vi).toNat)
  case atStart => exact ⟨0, rfl, Nat.zero_le _, OwnY.nil _ _ _, Below.refl _ _⟩
  case round =>
    obtain ⟨i, rfl, hi, H⟩ := hrel
    by_cases hlt : i < 10
    · obtain ⟨c, hc⟩ : ∃ c, ([46, 46, 46, 112, 46, 46, 101, 46, 46, 46] : List Nat)[i]? = some c := ⟨_, List.getElem?_eq_getElem hlt⟩
      have ix := fun W => IX.out i c hc W
      have E := hide (usT_next hc)
      have hL : Hid ((usT (([46, 46, 46, 112, 46, 46, 101, 46, 46, 46] : List Nat).take i)).length = i) := by show _ = _; simp [usT]; omega
      clear hc
      have z1 := H.out.2.size
      have SB := hide (sl_box (Y := yB) wr (!(c == 46)) 4)
      have eB : ((c : Int) != 46) = !(c == 46) := by
        by_cases h : c = 46
        · subst h; rfl
        · rw [bne, beq_eq_false_iff_ne.2 h, beq_eq_false_iff_ne.2 (by omega)]
      go_wp2_with (at_builtin; go_must (refine appY kB _ rfl (.tmp 39) (.tmp 44) rfl w.heap.size _ _ rfl (some ⟨wr.heap.size, 0, none⟩) 1 1 rfl [!(c == 46)] SB.out (H.out.1.alloc _) (by simp; omega) (by rw [hL.out]; unfold maxLen; omega) (by show (_ + 1) * 1 ≤ _; rw [hL.out]; omega) ?_))
      intro v5 w2 o2 g2 _
      have b2 := hide ((H.out.1.alloc _).grown (H.out.2.alloc z1 _) g2 (by simp; omega))
      have O2 := hide o2
      clear o2 g2 SB H
      go_wp2
      go_roundw
      case rel => exact ⟨i + 1, by go_num, by omega, by rw [← E.out]; exact O2.out, b2.out⟩
      case measure => simp [intOf]; omega
    · obtain rfl : i = 10 := by omega
      go_wp2
      go_ret
      exact ⟨_, rfl, H.out.1, H.out.2⟩
set_option maxHeartbeats 1000000 in
theorem uses_14 (w : World) :
    Calls Tryz.prog 35 #[.int .i64 14] w fun e w' => ∃ v', e = .returned v' ∧ OwnY yB w.heap.size w' v' (usT [110, 118, 46, 46, 99, 46, 101, 114, 46, 46]) ∧ Below w.heap.size w w' := by
  have IX : Hid (∀ (j c : Nat), ([110, 118, 46, 46, 99, 46, 101, 114, 46, 46] : List Nat)[j]? = some c → ∀ W, (Instr.index 9 (.string ⟨#[110, 118, 46, 46, 99, 46, 101, 114, 46, 46]⟩) (.int .i64 (j : Int))).run Tryz.prog W = .ok (.int .u8 (c : Int)) W) := fun j c h W => idxU (s := ⟨#[110, 118, 46, 46, 99, 46, 101, 114, 46, 46]⟩) h W
  go_enter Tryz.func35, Tryz.ntmps35
  go_wp2
  go_loopw [4, 5] (fun vl vi wr => ∃ i : Nat, vi = .int .i64 (i : Int) ∧ i ≤ 10 ∧ Hid (OwnY yB w.heap.size wr vl (usT (([110, 118, 46, 46, 99, 46, 101, 114, 46, 46] : List Nat).take i)) ∧ Below w.heap.size w wr)) (fun _ vi _ => 10 - (intOf vi).toNat)
  case atStart => exact ⟨0, rfl, Nat.zero_le _, OwnY.nil _ _ _, Below.refl _ _⟩
  case round =>
    obtain ⟨i, rfl, hi, H⟩ := hrel
    by_cases hlt : i < 10
    · obtain ⟨c, hc⟩ : ∃ c, ([110, 118, 46, 46, 99, 46, 101, 114, 46, 46] : List Nat)[i]? = some c := ⟨_, List.getElem?_eq_getElem hlt⟩
      have ix := fun W => IX.out i c hc W
      have E := hide (usT_next hc)
      have hL : Hid ((usT (([110, 118, 46, 46, 99, 46, 101, 114, 46, 46] : List Nat).take i)).length = i) := by show _ = _; simp [usT]; omega
      clear hc
      have z1 := H.out.2.size
      have SB := hide (sl_box (Y := yB) wr (!(c == 46)) 4)
      have eB : ((c : Int) != 46) = !(c == 46) := by
        by_cases h : c = 46
        · subst h; rfl
        · rw [bne, beq_eq_false_iff_ne.2 h, beq_eq_false_iff_ne.2 (by omega)]
      go_wp2_with (at_builtin; go_must (refine appY kB _ rfl (.tmp 39) (.tmp 44) rfl w.heap.size _ _ rfl (some ⟨wr.heap.size, 0, none⟩) 1 1 rfl [!(c == 46)] SB.out (H.out.1.alloc _) (by simp; omega) (by rw [hL.out]; unfold maxLen; omega) (by show (_ + 1) * 1 ≤ _; rw [hL.out]; omega) ?_))
      intro v5 w2 o2 g2 _
      have b2 := hide ((H.out.1.alloc _).grown (H.out.2.alloc z1 _) g2 (by simp; omega))
      have O2 := hide o2
      clear o2 g2 SB H
      go_wp2
      go_roundw
      case rel => exact ⟨i + 1, by go_num, by omega, by rw [← E.out]; exact O2.out, b2.out⟩
      case measure => simp [intOf]; omega
    · obtain rfl : i = 10 := by omega
      go_wp2
      go_ret
      exact ⟨_, rfl, H.out.1, H.out.2⟩
def usN (k : Int) : List Nat :=
  if k = 1 then [46, 46, 46, 46, 46, 46, 101, 46, 46, 46] else
  if k = 2 then [110, 118, 46, 112, 46, 46, 101, 114, 46, 46] else
  if k = 3 then [110, 118, 46, 112, 99, 46, 101, 46, 46, 120] else
  if k = 4 then [110, 118, 46, 112, 46, 46, 46, 46, 46, 120] else
  if k = 5 then [110, 118, 46, 46, 99, 46, 46, 46, 46, 120] else
  if k = 6 then [110, 118, 46, 46, 46, 46, 46, 46, 46, 120] else
  if k = 7 then [110, 118, 108, 46, 99, 46, 46, 46, 103, 120] else
  if k = 8 then [110, 118, 46, 46, 99, 46, 46, 46, 103, 120] else
  if k = 9 then [110, 46, 46, 46, 46, 100, 46, 46, 46, 120] else
  if k = 10 then [110, 118, 46, 46, 99, 100, 46, 46, 103, 120] else
  if k = 11 then [110, 118, 46, 46, 46, 46, 46, 46, 46, 120] else
  if k = 12 then [110, 118, 46, 46, 99, 46, 46, 46, 103, 120] else
  if k = 13 then [46, 46, 46, 112, 46, 46, 101, 46, 46, 46] else
  if k = 14 then [110, 118, 46, 46, 99, 46, 101, 114, 46, 46] else
  []
def usL (k : Int) : List Bool := usT (usN k)
set_option maxHeartbeats 1000000 in
theorem uses_none (k : Int) (hk : k < 1 ∨ 14 < k) (w : World) :
    Calls Tryz.prog 35 #[.int .i64 k] w fun e w' => e = .returned (.slice none 0 0) ∧ w' = w := by
  have e1 : (k == 1) = false := by simp; omega
  have e2 : (k == 2) = false := by simp; omega
  have e3 : (k == 3) = false := by simp; omega
  have e4 : (k == 4) = false := by simp; omega
  have e5 : (k == 5) = false := by simp; omega
  have e6 : (k == 6) = false := by simp; omega
  have e7 : (k == 7) = false := by simp; omega
  have e8 : (k == 8) = false := by simp; omega
  have e9 : (k == 9) = false := by simp; omega
  have e10 : (k == 10) = false := by simp; omega
  have e11 : (k == 11) = false := by simp; omega
  have e12 : (k == 12) = false := by simp; omega
  have e13 : (k == 13) = false := by simp; omega
  have e14 : (k == 14) = false := by simp; omega
  clear hk
  go_enter Tryz.func35, Tryz.ntmps35
  go_wp2
  go_loopw [4, 5] (fun vl vi wr => vl = .slice none 0 0 ∧ vi = .int .i64 0 ∧ wr = w) (fun _ _ _ => 0)
  case atStart => exact ⟨rfl, rfl, rfl⟩
  case round =>
    obtain ⟨rfl, rfl, rfl⟩ := hrel
    go_wp2
    go_ret
    exact ⟨rfl, rfl⟩
theorem uses_all (k : Int) (w : World) :
    Calls Tryz.prog 35 #[.int .i64 k] w fun e w' => ∃ v', e = .returned v' ∧ OwnY yB w.heap.size w' v' (usL k) ∧ Below w.heap.size w w' := by
  by_cases h1 : k = 1
  · subst h1; exact uses_1 w
  by_cases h2 : k = 2
  · subst h2; exact uses_2 w
  by_cases h3 : k = 3
  · subst h3; exact uses_3 w
  by_cases h4 : k = 4
  · subst h4; exact uses_4 w
  by_cases h5 : k = 5
  · subst h5; exact uses_5 w
  by_cases h6 : k = 6
  · subst h6; exact uses_6 w
  by_cases h7 : k = 7
  · subst h7; exact uses_7 w
  by_cases h8 : k = 8
  · subst h8; exact uses_8 w
  by_cases h9 : k = 9
  · subst h9; exact uses_9 w
  by_cases h10 : k = 10
  · subst h10; exact uses_10 w
  by_cases h11 : k = 11
  · subst h11; exact uses_11 w
  by_cases h12 : k = 12
  · subst h12; exact uses_12 w
  by_cases h13 : k = 13
  · subst h13; exact uses_13 w
  by_cases h14 : k = 14
  · subst h14; exact uses_14 w
  have hk : k < 1 ∨ 14 < k := by omega
  refine (uses_none k hk w).mono ?_
  rintro e w' ⟨rfl, rfl⟩
  refine ⟨_, rfl, ?_, Below.refl _ _⟩
  have e : usL k = [] := by
    unfold usL usN
    rw [if_neg h1, if_neg h2, if_neg h3, if_neg h4, if_neg h5, if_neg h6, if_neg h7, if_neg h8, if_neg h9, if_neg h10, if_neg h11, if_neg h12, if_neg h13, if_neg h14]
    rfl
  rw [e]
  exact OwnY.nil _ _ _
end Go.Proofs.YtibedokegignhaaGreatDoor
namespace Go.Proofs.YtibedokegignhaaGreatDoor
open Go.RowKit Go.Maps
variable {α : Type} {Y : Lay α}
def put (M : List α) (i : Nat) (D : List α) : List α := M.take i ++ D ++ M.drop (i + D.length)
theorem put_length {M D : List α} {i : Nat} (h : i + D.length ≤ M.length) : (put M i D).length = M.length := by
  simp only [put, List.length_append, List.length_take, List.length_drop]; omega
theorem fl_put (K : Y.Ok) {M D : List α} {i : Nat} (h : i + D.length ≤ M.length) : fl Y (put M i D) = (fl Y M).take (i * Y.k) ++ fl Y D ++ (fl Y M).drop (i * Y.k + (fl Y D).length) := by
  have hM : M = M.take i ++ M.drop i := (List.take_append_drop i M).symm
  have hA : (fl Y (M.take i)).length = i * Y.k := by rw [fl_length K, List.length_take, Nat.min_eq_left (by omega)]
  have e1 : (fl Y M).take (i * Y.k) = fl Y (M.take i) := by
    conv => lhs; rw [hM, fl_append]
    rw [List.take_append_of_le_length (by omega), List.take_of_length_le (by omega)]
  have hM2 : M = M.take (i + D.length) ++ M.drop (i + D.length) := (List.take_append_drop _ M).symm
  have hB : (fl Y (M.take (i + D.length))).length = (i + D.length) * Y.k := by rw [fl_length K, List.length_take, Nat.min_eq_left (by omega)]
  have e2 : (fl Y M).drop (i * Y.k + (fl Y D).length) = fl Y (M.drop (i + D.length)) := by
    conv => lhs; rw [hM2, fl_append]
    rw [fl_length K, ← Nat.add_mul, List.drop_append_of_le_length (by omega), List.drop_of_length_le (by omega), List.nil_append]
  rw [e1, e2, put, fl_append, fl_append]
theorem run_copy_nil {P : Program} (w : World) (dT sT ty elem : TypeId) (k : Nat) (d a : Option Addr) (dn dc c : Nat)
    (hu : P.underlying dT = some (.slice elem)) (hs : (P.info? elem).map (·.size) = some k) :
    (Builtin.copy_ #[dT, sT] ty #[.slice d dn dc, .slice a 0 c]).run P w = .ok (goInt 0) w := by
  cases hq : P.info? elem with
  | none => simp [hq] at hs
  | some i =>
    have hi : i.size = k := by simpa [hq] using hs
    cases a <;> cases d <;> simp [Builtin.copy_, run_underlying hu, Builtin.lenOf, Builtin.firstCells, sizeOf, typeInfo, hq, hi, loadCells, loadCellsFrom, storeCells]
theorem run_copy_at {P : Program} (w : World) (dT sT ty elem : TypeId) (k g off dLen dCap : Nat) (a : Addr) (sLen sCap : Nat) (cur : Array Value) (t : TypeId) (cs : List Value)
    (hu : P.underlying dT = some (.slice elem)) (hs : (P.info? elem).map (·.size) = some k)
    (hg : w.heap[g]? = some (.cells cur t (0, 0))) (hn : cs.length = sLen * k) (hle : sLen ≤ dLen)
    (hsrc : ∀ j v, cs[j]? = some v → w.cell? (a.add j) = some v) (hfit : off + cs.length ≤ cur.size) (h1 : ∀ v ∈ cs, v.oneCell' = true) :
    (Builtin.copy_ #[dT, sT] ty #[.slice (some ⟨g, off, none⟩) dLen dCap, .slice (some a) sLen sCap]).run P w =
      .ok (goInt sLen) (w.setRow g (cur.toList.take off ++ cs ++ cur.toList.drop (off + cs.length)).toArray) := by
  have hl := run_loadCells_list (P := P) w a cs hsrc
  have hst := run_storeCells_at (P := P) g off t cs 0 cur w hg (by omega) h1
  rw [Nat.add_zero] at hst
  have hmin : Nat.min sLen dLen = sLen := Nat.min_eq_left hle
  cases hq : P.info? elem with
  | none => simp [hq] at hs
  | some i =>
    have hi : i.size = k := by simpa [hq] using hs
    rw [hn] at hl
    simp [Builtin.copy_, run_underlying hu, Builtin.lenOf, Builtin.firstCells, sizeOf, typeInfo, hq, hi, hl, hst, hmin, Nat.min_eq_left hle]
theorem copyY (K : Y.Ok) (w : World) {ops : Array Oper} {rest : List Oper} {o : Oper} {a : Act} {Q : Exit → Act → World → Prop} (hgd : o.guard = none) (d s : Operand)
    (ho : o.op = .call { callee := .builtin .copy, args := #[d, s], argTypes := #[Y.ST, Y.ST] }) (B g dn dc i n c m : Nat) (ad : Option Addr) (M D : List α)
    (hd : a.eval d = .slice (some ⟨g, i * Y.k, none⟩) dn dc) (hs : a.eval s = .slice ad m c) (hM : OwnY Y B w (.slice (some ⟨g, 0, none⟩) n n) M) (hD : SlY Y w ad m c D) (hi : i + m ≤ n) (hdn : m ≤ dn)
    (h : ∀ w', OwnY Y B w' (.slice (some ⟨g, 0, none⟩) n n) (put M i D) → Upd (· = g) w w' → w'.heap.size = w.heap.size → wpList Tryz.prog ops Q rest (a.put o.dst (goInt m)) w') : wpList Tryz.prog ops Q (o :: rest) a w := by
  obtain ⟨zv, hinfo, hzc⟩ := K.info
  obtain ⟨i0, hi0, hz0, hz1, hz2⟩ := info_parts hinfo
  have hsz : (Tryz.prog.info? Y.T).map (·.size) = some Y.k := by rw [hi0]; simp [hz1]
  have hMn : M.length = n := (hM.sl' K).len
  have hDm := hD.len
  by_cases hD0 : D = []
  · subst hD0
    have hm0 : m = 0 := hDm.symm
    subst hm0
    have hr := run_copy_nil (P := Tryz.prog) w Y.ST Y.ST o.type Y.T Y.k (some ⟨g, i * Y.k, none⟩) ad dn dc c K.und hsz
    refine wpList_plain hgd fun K' hK' => ?_
    unfold Oper.wp execOp
    simp only [ho, resolve, invoke, builtin, Sem.run_bind, Sem.run_pure, Result.andThen_ok, List.map_toArray, List.map_cons, List.map_nil, hd, hs, hr]
    refine hK' _ _ (h _ ?_ (Upd.refl _ _) rfl)
    have : put M i ([] : List α) = M := by simp [put]
    rw [this]
    exact hM
  · obtain ⟨q, p, rfl, hq, hl⟩ := hD.place hD0
    rcases hM with ⟨h0, h1 | ⟨g1, cap, cur, e1, e2, e3, e4, e5, e6, e7⟩⟩
    · have := h1.1; cases this
    · injection e1 with q1 q2 q3
      injection q1 with q1
      cases q1
      subst q3
      have hcs : (fl Y D).length = m * Y.k := by rw [fl_length K, hDm]
      have hfit : i * Y.k + (fl Y D).length ≤ cur.size := by rw [hcs, e6, ← Nat.add_mul]; exact Nat.mul_le_mul_right _ hi
      have hr := run_copy_at (P := Tryz.prog) w Y.ST Y.ST o.type Y.T Y.k g (i * Y.k) dn dc ⟨q, p, none⟩ m c cur Y.T (fl Y D) K.und hsz e3 hcs hdn (fun j u hu => by rw [Addr.add_lit]; exact hl.flat K j u hu) hfit (fl_one K D)
      refine wpList_plain hgd fun K' hK' => ?_
      unfold Oper.wp execOp
      simp only [ho, resolve, invoke, builtin, Sem.run_bind, Sem.run_pure, Result.andThen_ok, List.map_toArray, List.map_cons, List.map_nil, hd, hs, hr]
      refine hK' _ _ (h _ ?_ ⟨rfl, rfl, rfl, by simp, fun b hb hs => setRow_other w g b _ hs⟩ (by simp))
      have hpl : (put M i D).length = M.length := put_length (by omega)
      refine ⟨by rw [fl_length K], .inr ⟨g, n, _, ?_, e2, setRow_heap w g cur _ Y.T (0, 0) e3, ?_, e5, ?_, ?_⟩⟩
      · rw [hpl, ← q2]
      · rw [hpl]; exact e4
      · rw [List.size_toArray, ← e6]
        simp only [List.length_append, List.length_take, List.length_drop, Array.length_toList]
        omega
      · rw [hpl, fl_put K (by omega), ← e7]
        have hfit2 : i * Y.k + (fl Y D).length ≤ M.length * Y.k := by rw [hcs, ← Nat.add_mul]; exact Nat.mul_le_mul_right _ (by omega)
        exact splice_take hfit2
end Go.Proofs.YtibedokegignhaaGreatDoor
namespace Go.Proofs.YtibedokegignhaaGreatDoor
open Go.ChangeShapes Go.WideShapes Go.ChangeAt Go.RowKit
open Classical
theorem intCells : Tryz.prog.cellsOf 3 = 1 := by kernel_rfl
end Go.Proofs.YtibedokegignhaaGreatDoor
namespace Go.Proofs.YtibedokegignhaaGreatDoor
open Go.RowKit Go.Maps
def pl (L : List Cl) (P : List Opn) : List Cl := P.foldl (fun L o => dn L o.k o.s o.v) L
def gs (L : List Cl) : Nat → Int
  | 0 => -1
  | k + 1 => if (gv L k).isSome then (k : Int) else gs L k
end Go.Proofs.YtibedokegignhaaGreatDoor
namespace Go.Proofs.YtibedokegignhaaGreatDoor
open Go.RowKit
end Go.Proofs.YtibedokegignhaaGreatDoor
namespace Go.Proofs.YtibedokegignhaaGreatDoor
open Go.RowKit
end Go.Proofs.YtibedokegignhaaGreatDoor
namespace Go.Proofs.YtibedokegignhaaGreatDoor
open Go.RowKit Go.Maps
theorem size_zero {a : ByteArray} (h : a.size = 0) : a = ByteArray.empty := by
  obtain ⟨⟨x⟩⟩ := a
  cases x with
  | nil => rfl
  | cons y r => simp [ByteArray.size] at h
set_option maxHeartbeats 1000000 in
theorem refcheck (k s : Int) (v : ByteArray) (hf : (⟨k, s, v⟩ : Opn).fits) (w : World) : Calls Tryz.prog 137 #[.agg #[.int .i64 k, .int .i64 s, .string v]] w fun e w' => e = .returned (.int .i64 (ck k s v)) ∧ Below w.heap.size w w' := by
  have hv := hf.vl
  dsimp only at hv
  have hsz : (v.size : Int) ≤ 9223372036854775807 := by unfold maxLen at hv; omega
  clear hf hv
  by_cases k1 : k = 1
  · subst k1
    by_cases hs : s < 0 ∨ 1024 ≤ s
    · have e1 : ck 1 s v = 41 := by simp [ck, hs]
      rw [e1]
      clear e1
      go_enter Tryz.func137, Tryz.ntmps137
      go_wp2
      all_goals
        go_ret
        exact ⟨by first | rfl | (exfalso; omega) | (exfalso; simp_all), (Below.refl _ w).alloc (Nat.le_refl _) _⟩
    · have e1 : ck 1 s v = if 64 < v.size then 42 else 0 := by simp [ck, hs]
      rw [e1]
      clear e1
      by_cases hv : 64 < v.size
      · rw [if_pos hv]
        have hv' : ((64 : Int) < v.size) := by omega
        go_enter Tryz.func137, Tryz.ntmps137
        go_wp2
        all_goals
          go_ret
          exact ⟨by first | rfl | (exfalso; omega) | (exfalso; simp_all), (Below.refl _ w).alloc (Nat.le_refl _) _⟩
      · rw [if_neg hv]
        have hv' : ¬ ((64 : Int) < v.size) := by omega
        go_enter Tryz.func137, Tryz.ntmps137
        go_wp2
        all_goals
          go_ret
          exact ⟨by first | rfl | (exfalso; omega) | (exfalso; simp_all), (Below.refl _ w).alloc (Nat.le_refl _) _⟩
  by_cases k2 : k = 2
  · subst k2
    by_cases hs : s ≠ 0
    · have e1 : ck 2 s v = 41 := by simp [ck, hs]
      rw [e1]
      clear e1
      have hb : (s != 0) = true := by simp [hs]
      go_enter Tryz.func137, Tryz.ntmps137
      go_wp2
      all_goals
        go_ret
        exact ⟨by first | rfl | (exfalso; omega) | (exfalso; simp_all), (Below.refl _ w).alloc (Nat.le_refl _) _⟩
    · have e1 : ck 2 s v = if 64 < v.size then 42 else 0 := by simp [ck, hs]
      rw [e1]
      clear e1
      have hs : s = 0 := by omega
      subst hs
      by_cases hv : 64 < v.size
      · rw [if_pos hv]
        have hv' : ((64 : Int) < v.size) := by omega
        go_enter Tryz.func137, Tryz.ntmps137
        go_wp2
        all_goals
          go_ret
          exact ⟨by first | rfl | (exfalso; omega) | (exfalso; simp_all), (Below.refl _ w).alloc (Nat.le_refl _) _⟩
      · rw [if_neg hv]
        have hv' : ¬ ((64 : Int) < v.size) := by omega
        go_enter Tryz.func137, Tryz.ntmps137
        go_wp2
        all_goals
          go_ret
          exact ⟨by first | rfl | (exfalso; omega) | (exfalso; simp_all), (Below.refl _ w).alloc (Nat.le_refl _) _⟩
  by_cases k3 : k = 3
  · subst k3
    by_cases hs : s < 0 ∨ 1024 ≤ s
    · have e1 : ck 3 s v = 41 := by simp [ck, hs]
      rw [e1]
      clear e1
      go_enter Tryz.func137, Tryz.ntmps137
      go_wp2
      all_goals
        go_ret
        exact ⟨by first | rfl | (exfalso; omega) | (exfalso; simp_all), (Below.refl _ w).alloc (Nat.le_refl _) _⟩
    · have e1 : ck 3 s v = if 0 < v.size then 42 else 0 := by simp [ck, hs]
      rw [e1]
      clear e1
      by_cases hv : 0 < v.size
      · rw [if_pos hv]
        have hv' : ¬ (v.toList = []) := fun e => by
          rw [ByteArray.toList_eq] at e
          have : v.size = 0 := by simp [ByteArray.size, ← Array.length_toList, e]
          omega
        go_enter Tryz.func137, Tryz.ntmps137
        go_wp2
        all_goals
          go_ret
          exact ⟨by first | rfl | (exfalso; omega) | (exfalso; simp_all), (Below.refl _ w).alloc (Nat.le_refl _) _⟩
      · rw [if_neg hv]
        have hv' : v = ByteArray.empty := size_zero (by omega)
        subst hv'
        go_enter Tryz.func137, Tryz.ntmps137
        go_wp2
        all_goals
          go_ret
          exact ⟨by first | rfl | (exfalso; omega) | (exfalso; simp_all), (Below.refl _ w).alloc (Nat.le_refl _) _⟩
  by_cases k4 : k = 4
  · subst k4
    by_cases hs : s ≠ 0
    · have e1 : ck 4 s v = 41 := by simp [ck, hs]
      rw [e1]
      clear e1
      have hb : (s != 0) = true := by simp [hs]
      go_enter Tryz.func137, Tryz.ntmps137
      go_wp2
      all_goals
        go_ret
        exact ⟨by first | rfl | (exfalso; omega) | (exfalso; simp_all), (Below.refl _ w).alloc (Nat.le_refl _) _⟩
    · have e1 : ck 4 s v = if 0 < v.size then 42 else 0 := by simp [ck, hs]
      rw [e1]
      clear e1
      have hs : s = 0 := by omega
      subst hs
      by_cases hv : 0 < v.size
      · rw [if_pos hv]
        have hv' : ¬ (v.toList = []) := fun e => by
          rw [ByteArray.toList_eq] at e
          have : v.size = 0 := by simp [ByteArray.size, ← Array.length_toList, e]
          omega
        go_enter Tryz.func137, Tryz.ntmps137
        go_wp2
        all_goals
          go_ret
          exact ⟨by first | rfl | (exfalso; omega) | (exfalso; simp_all), (Below.refl _ w).alloc (Nat.le_refl _) _⟩
      · rw [if_neg hv]
        have hv' : v = ByteArray.empty := size_zero (by omega)
        subst hv'
        go_enter Tryz.func137, Tryz.ntmps137
        go_wp2
        all_goals
          go_ret
          exact ⟨by first | rfl | (exfalso; omega) | (exfalso; simp_all), (Below.refl _ w).alloc (Nat.le_refl _) _⟩
  have e1 : ck k s v = 40 := by simp [ck, k1, k2, k3, k4]
  rw [e1]
  have b1 : (k == 1) = false := by simp [k1]
  have b2 : (k == 2) = false := by simp [k2]
  have b3 : (k == 3) = false := by simp [k3]
  have b4 : (k == 4) = false := by simp [k4]
  go_enter Tryz.func137, Tryz.ntmps137
  go_wp2
  all_goals
    go_ret
    exact ⟨rfl, (Below.refl _ w).alloc (Nat.le_refl _) _⟩
end Go.Proofs.YtibedokegignhaaGreatDoor
namespace Go.Proofs.YtibedokegignhaaGreatDoor
open Go.ChangeShapes Go.WideShapes Go.ChangeAt Go.RowKit
open Classical
end Go.Proofs.YtibedokegignhaaGreatDoor
namespace Go.Proofs.YtibedokegignhaaGreatDoor
open Go.RowKit
end Go.Proofs.YtibedokegignhaaGreatDoor
namespace Go.Proofs.YtibedokegignhaaGreatDoor
open Go.RowKit
variable {T ST : TypeId}
end Go.Proofs.YtibedokegignhaaGreatDoor
namespace Go.Proofs.YtibedokegignhaaGreatDoor
open Go.RowKit
def rl (L : List Cl) : List Opn → List Rs
  | [] => []
  | o :: r => wd L o.k o.s o.v :: rl (dn L o.k o.s o.v) r
theorem rl_snoc (L : List Cl) (P : List Opn) (o : Opn) : rl L (P ++ [o]) = rl L P ++ [wd (pl L P) o.k o.s o.v] := by
  induction P generalizing L with
  | nil => rfl
  | cons p r ih => simp only [List.cons_append, rl, ih]; rfl
theorem rl_take (L : List Cl) {P : List Opn} {i : Nat} {o : Opn} (h : P[i]? = some o) : rl L (P.take (i + 1)) = rl L (P.take i) ++ [wd (pl L (P.take i)) o.k o.s o.v] := by
  rw [List.take_add_one, h]
  exact rl_snoc _ _ _
end Go.Proofs.YtibedokegignhaaGreatDoor
namespace Go.Proofs.YtibedokegignhaaGreatDoor
open Go.RowKit
end Go.Proofs.YtibedokegignhaaGreatDoor
namespace Go.Proofs.YtibedokegignhaaGreatDoor
open Go.RowKit
open Classical
def zR : Rs := (0, 0, ByteArray.empty)
def ckE (e : En) : Int := if e.c < 0 ∨ 16 ≤ e.c then 62 else if e.n < 1 then 63 else ck e.o.k e.o.s e.o.v
def gm : List En → Int → Int
  | [], _ => 0
  | e :: r, c => if e.c = c then max e.n (gm r c) else gm r c
theorem gm_snoc : ∀ (L : List En) (e : En) (c : Int), gm (L ++ [e]) c = if e.c = c then max (gm L c) e.n else gm L c
  | [], e, c => by simp [gm]; split <;> omega
  | y :: r, e, c => by
    have ih := gm_snoc r e c
    simp only [List.cons_append, gm, ih]
    split <;> split <;> omega
def tw (L : List En) (e : En) : Bool := L.any (fun p => decide (p.c = e.c) && decide (e.n ≤ p.n))
theorem gm_cons (y : En) (r : List En) (c : Int) : gm (y :: r) c = if y.c = c then max y.n (gm r c) else gm r c := rfl
theorem tw_iff (e : En) (h : 1 ≤ e.n) : ∀ L : List En, tw L e = decide (e.n ≤ gm L e.c)
  | [] => by
    have : ¬ e.n ≤ 0 := by omega
    simp [tw, gm, this]
  | y :: r => by
    have ih := tw_iff e h r
    unfold tw at ih ⊢
    rw [List.any_cons, ih, gm_cons]
    by_cases h1 : y.c = e.c
    · rw [if_pos h1]
      have hm : e.n ≤ max y.n (gm r e.c) ↔ e.n ≤ y.n ∨ e.n ≤ gm r e.c := by omega
      simp only [h1, decide_true, Bool.true_and]
      rw [Bool.eq_iff_iff]
      simp [hm]
    · rw [if_neg h1]
      simp [h1]
theorem tw_snoc (L : List En) (p e : En) : tw (L ++ [p]) e = (tw L e || (decide (p.c = e.c) && decide (e.n ≤ p.n))) := by simp [tw]
def er (past : List En) (e : En) : Int := if ckE e ≠ 0 then ckE e else if tw past e then 64 else 0
def lgA : List En → List En → Int
  | _, [] => 0
  | past, e :: r => if er past e ≠ 0 then er past e else lgA (past ++ [e]) r
def lg (L : List En) (room : Int) : Int := if room < L.length then 60 else lgA [] L
theorem lgA_at {L : List En} {j : Nat} {e : En} (h : L[j]? = some e) : lgA (L.take j) (L.drop j) = if er (L.take j) e ≠ 0 then er (L.take j) e else lgA (L.take (j + 1)) (L.drop (j + 1)) := by
  have hj := (List.getElem?_eq_some_iff.1 h).1
  have he := (List.getElem?_eq_some_iff.1 h).2
  rw [List.drop_eq_getElem_cons hj, he, lgA, List.take_add_one, h]
  rfl
theorem lgA_end (L : List En) : lgA (L.take L.length) (L.drop L.length) = 0 := by simp [lgA]
theorem lgA_zero : ∀ (n : Nat) (L : List En) (j : Nat), L.length - j = n → lgA (L.take j) (L.drop j) = 0 → ∀ (i : Nat) (e : En), j ≤ i → L[i]? = some e → er (L.take i) e = 0 := by
  intro n
  induction n with
  | zero => intro L j hn h i e hi he; have := (List.getElem?_eq_some_iff.1 he).1; omega
  | succ n ih =>
    intro L j hn h i e hi he
    have hj : j < L.length := by omega
    have hg : L[j]? = some L[j] := List.getElem?_eq_getElem hj
    rw [lgA_at hg] at h
    by_cases hz : er (L.take j) L[j] = 0
    · simp [hz] at h
      by_cases hij : i = j
      · subst hij
        rw [hg] at he
        cases he
        exact hz
      · exact ih L (j + 1) (by omega) h i e (by omega) he
    · simp [hz] at h
theorem ckE_zero {e : En} (h : ckE e = 0) : 0 ≤ e.c ∧ e.c < 16 ∧ 1 ≤ e.n ∧ ck e.o.k e.o.s e.o.v = 0 := by
  unfold ckE at h
  by_cases h1 : e.c < 0 ∨ 16 ≤ e.c
  · simp [h1] at h
  · by_cases h2 : e.n < 1
    · simp [h1, h2] at h
    · simp [h1, h2] at h
      exact ⟨by omega, by omega, by omega, h⟩
end Go.Proofs.YtibedokegignhaaGreatDoor
namespace Go.Proofs.YtibedokegignhaaGreatDoor
open Go.RowKit Go.Maps
open Classical
theorem ret_int {k : IntKind} {a b : Int} (h : a = b) : Ending.returned (.int k a) = .returned (.int k b) := by rw [h]
end Go.Proofs.YtibedokegignhaaGreatDoor
namespace Go.Proofs.YtibedokegignhaaGreatDoor
open Go.RowKit Go.Maps
def y3 (T ST : TypeId) : Lay Rs := ⟨T, ST, 3, 32, fun r => [.int .i64 r.1, .int .i64 r.2.1, .string r.2.2], zR⟩
end Go.Proofs.YtibedokegignhaaGreatDoor
namespace Go.Proofs.YtibedokegignhaaGreatDoor
open Go.RowKit Go.Maps
end Go.Proofs.YtibedokegignhaaGreatDoor
namespace Go.Proofs.YtibedokegignhaaGreatDoor
open Go.RowKit Go.Maps
open Classical
theorem refentry_any (C N k s : Int) (v : ByteArray) (hf : (⟨k, s, v⟩ : Opn).fits) (w : World) :
    Calls Tryz.prog 116 #[.agg #[.int .i64 C, .int .i64 N, .int .i64 k, .int .i64 s, .string v]] w fun e w' => e = .returned (.int .i64 (ckE ⟨C, N, ⟨k, s, v⟩⟩)) ∧ Below w.heap.size w w' := by
  have cc := fun W => refcheck k s v hf W
  have bA := (Below.refl w.heap.size w).alloc (Nat.le_refl _) (.cells #[.int .i64 C, .int .i64 N, .int .i64 k, .int .i64 s, .string v] 28)
  by_cases h1 : C < 0
  · have hE : Hid (ckE ⟨C, N, ⟨k, s, v⟩⟩ = 62) := by show _ = _; simp [ckE, h1]
    have d1 : decide (C < 0) = true := by simpa using h1
    go_enter Tryz.func116, Tryz.ntmps116
    go_wp2
    go_ret
    exact ⟨ret_int hE.out.symm, bA⟩
  · by_cases h2 : 16 ≤ C
    · have hE : Hid (ckE ⟨C, N, ⟨k, s, v⟩⟩ = 62) := by show _ = _; simp [ckE, h2]
      go_enter Tryz.func116, Tryz.ntmps116
      go_wp2
      go_ret
      exact ⟨ret_int hE.out.symm, bA⟩
    · by_cases h3 : N < 1
      · have hE : Hid (ckE ⟨C, N, ⟨k, s, v⟩⟩ = 63) := by show _ = _; simp [ckE, h1, h2, h3]
        go_enter Tryz.func116, Tryz.ntmps116
        go_wp2
        go_ret
        exact ⟨ret_int hE.out.symm, bA⟩
      · have hE : Hid (ckE ⟨C, N, ⟨k, s, v⟩⟩ = ck k s v) := by show _ = _; simp [ckE, h1, h2, h3]
        generalize ck k s v = x at *
        go_enter Tryz.func116, Tryz.ntmps116
        go_wp2_with (go_at_call 137; refine (cc _).mono ?_; rintro e w2 ⟨rfl, b2⟩)
        go_ret
        exact ⟨ret_int hE.out.symm, bA.trans (b2.mono (by simp))⟩
theorem tw_take_step {L : List En} {e p : En} {j : Nat} (h : L[j]? = some p) : tw (L.take (j + 1)) e = (tw (L.take j) e || (decide (p.c = e.c) && decide (e.n ≤ p.n))) := by
  rw [List.take_add_one, h]
  exact tw_snoc _ _ _
theorem tw_mono {L : List En} {e : En} {j i : Nat} (hji : j ≤ i) (h : tw (L.take j) e = true) : tw (L.take i) e = true := by
  unfold tw at h ⊢
  rw [List.any_eq_true] at h ⊢
  obtain ⟨x, hx, h2⟩ := h
  exact ⟨x, (List.take_subset_take_left L hji) hx, h2⟩
set_option maxHeartbeats 1000000 in
theorem reflog_any (L : List En) (a : Option Addr) (c : Nat) (room : Int) (w : World) (h : SlY yE w a L.length c L) (hf : ∀ e ∈ L, e.fits) :
    Calls Tryz.prog 83 #[.slice a L.length c, .int .i64 room] w fun e w' => e = .returned (.int .i64 (lg L room)) ∧ Below w.heap.size w w' := by
  have hmx := h.max
  have hcp := h.cap
  unfold maxLen at hmx
  have H := hide h
  have HF := hide hf
  clear h hf
  by_cases hl : room < (L.length : Int)
  · have hE : Hid (lg L room = 60) := by show _ = _; simp [lg, hl]
    go_enter Tryz.func83, Tryz.ntmps83
    go_wp2
    go_ret
    exact ⟨ret_int hE.out.symm, Below.refl _ _⟩
  · have HL : Hid (lg L room = lgA (L.take 0) (L.drop 0)) := by show _ = _; simp [lg, hl]
    go_enter Tryz.func83, Tryz.ntmps83
    go_wp2
    go_loopw [5] (fun i wr => ∃ j : Nat, i = .int .i64 (j : Int) ∧ j ≤ L.length ∧ Hid (lg L room = lgA (L.take j) (L.drop j)) ∧ Below w.heap.size w wr) (fun i _ => L.length - (intOf i).toNat)
    case atStart => exact ⟨0, rfl, Nat.zero_le _, HL, Below.refl _ _⟩
    case round =>
      obtain ⟨j, rfl, hj, hL, hb⟩ := hrel
      by_cases hlt : j < L.length
      · have hg : L[j]? = some L[j] := List.getElem?_eq_getElem hlt
        have hat := lgA_at hg
        have hfj := (HF.out L[j] (List.getElem_mem hlt)).ow
        obtain ⟨q, o, ea, hq, c0, c1, c2, c3, c4⟩ := (H.out.later hb).en hg
        have HE := hide (fun W (hb : Below w.heap.size w W) => (H.out.later hb).en hg)
        generalize hee : L[j] = e at *
        subst ea
        have ce := fun W => refentry_any e.c e.n e.o.k e.o.s e.o.v hfj W
        have hA := hide hat
        clear hat
        have hsz := hb.size
        have her : er (L.take j) e = if ckE e ≠ 0 then ckE e else if tw (L.take j) e then 64 else 0 := rfl
        have hER := hide her
        clear her
        have hx0 : ckE ⟨e.c, e.n, ⟨e.o.k, e.o.s, e.o.v⟩⟩ = ckE e := rfl
        rw [hx0] at ce
        generalize ckE e = x at *
        by_cases hx : x = 0
        · subst hx
          go_wp2_with (go_at_call 116; refine (ce _).mono ?_; rintro r w1 ⟨rfl, b1⟩)
          have hb1 := hb.trans (b1.mono hsz)
          clear c0 c1 c2 c3 c4
          go_loopw [7] (fun i wr => ∃ m : Nat, i = .int .i64 (m : Int) ∧ m ≤ j ∧ Hid (tw (L.take m) e = false) ∧ Below w.heap.size w wr) (fun i _ => j - (intOf i).toNat)
          case atStart => exact ⟨0, rfl, Nat.zero_le _, by show tw _ _ = _; simp [tw], hb1⟩
          case round =>
            obtain ⟨m, rfl, hm, htw, hbm⟩ := hrel
            by_cases hlm : m < j
            · have hgm : L[m]? = some L[m] := List.getElem?_eq_getElem (by omega)
              have hst := tw_take_step (e := e) hgm
              obtain ⟨q2, o2, ea2, hq2, d0, d1, d2, d3, d4⟩ := HE.out wr hbm
              cases ea2
              obtain ⟨q3, o3, ea3, hq3, f0, f1, f2, f3, f4⟩ := (H.out.later hbm).en hgm
              cases ea3
              generalize hpp : L[m] = p at *
              rw [htw.out] at hst
              have hST := hide hst
              clear hst hpp hgm hg hee
              obtain ⟨Ce, Ne, oe⟩ := e
              obtain ⟨Cp, Np, op⟩ := p
              dsimp only at *
              by_cases hc : Cp = Ce
              · subst hc
                by_cases hn : Ne ≤ Np
                · have hE : Hid (lg L room = 64) := by
                    show _ = _
                    have ht := tw_mono (L := L) (show m + 1 ≤ j by omega) (hST.out.trans (by simp [hn]))
                    rw [hL.out, hA.out, hER.out, ht]
                    simp
                  go_wp2
                  go_quiet (fail)
                  go_wp2
                  go_ret
                  exact ⟨ret_int hE.out.symm, belN hbm nq⟩
                · have hT : Hid (tw (L.take (m + 1)) ⟨Cp, Ne, oe⟩ = false) := by show _ = _; rw [hST.out]; simp [hn]
                  have hn' : decide (Ne ≤ Np) = false := by simpa using hn
                  go_wp2
                  go_quiet (fail)
                  go_wp2
                  go_round
                  case rel => exact ⟨m + 1, by go_num, by omega, hT, belN hbm nq⟩
                  case measure => simp [intOf]; omega
              · have hT : Hid (tw (L.take (m + 1)) ⟨Ce, Ne, oe⟩ = false) := by show _ = _; rw [hST.out]; simp [hc]
                have hd : decide (Cp = Ce) = false := by simpa using hc
                have hd2 : (Cp == Ce) = false := by simpa using hc
                go_wp2
                go_quiet (fail)
                go_wp2
                go_round
                case rel => exact ⟨m + 1, by go_num, by omega, hT, belN hbm nq⟩
                case measure => simp [intOf]; omega
            · obtain rfl : m = j := by omega
              have hE : Hid (lg L room = lgA (L.take (m + 1)) (L.drop (m + 1))) := by
                show _ = _
                rw [hL.out, hA.out, hER.out, htw.out]
                simp
              go_wp2
              go_round
              case rel => exact ⟨m + 1, by go_num, by omega, hE, hbm⟩
              case measure => simp [intOf]; omega
        · have hE : Hid (lg L room = x) := by show _ = _; rw [hL.out, hA.out, hER.out]; simp [hx]
          go_wp2_with (go_at_call 116; refine (ce _).mono ?_; rintro r w1 ⟨rfl, b1⟩)
          go_ret
          exact ⟨ret_int hE.out.symm, hb.trans (b1.mono hsz)⟩
      · obtain rfl : j = L.length := by omega
        have hE := hL.out
        rw [lgA_end] at hE
        have hEh := hide hE
        clear hE
        go_wp2
        go_ret
        exact ⟨ret_int hEh.out.symm, hb⟩
end Go.Proofs.YtibedokegignhaaGreatDoor
namespace Go.Proofs.YtibedokegignhaaGreatDoor
open Go.RowKit Go.Maps
end Go.Proofs.YtibedokegignhaaGreatDoor
namespace Go.Proofs.YtibedokegignhaaGreatDoor
open Go.RowKit Go.Maps
end Go.Proofs.YtibedokegignhaaGreatDoor
namespace Go.Proofs.YtibedokegignhaaGreatDoor
open Go.RowKit Go.Maps
end Go.Proofs.YtibedokegignhaaGreatDoor
namespace Go.Proofs.YtibedokegignhaaGreatDoor
open Go.RowKit Go.Maps
end Go.Proofs.YtibedokegignhaaGreatDoor
namespace Go.Proofs.YtibedokegignhaaGreatDoor
open Go.RowKit Go.Maps
end Go.Proofs.YtibedokegignhaaGreatDoor
namespace Go.Proofs.YtibedokegignhaaGreatDoor
open Go.RowKit Go.Shelf
open Classical
attribute [local go_sem] Oper.semAt_some
def En.val (x : En) : Value := .agg #[.int .i64 x.c, .int .i64 x.n, .int .i64 x.o.k, .int .i64 x.o.s, .string x.o.v]
theorem yieldE_nil (l : Nat) (w : World) : (binOp .eql 141 (.func (.yield l) #[] #[]) .nilFunc).run Tryz.prog w = .ok (.bool false) w := by kernel_rfl
theorem LieY.at5 {w : World} {g : Nat} {D : List En} (h : LieY yE w g 0 D) {i : Nat} {x : En} (hx : D[i]? = some x) : w.cell? ⟨g, i * 5, none⟩ = some (.int .i64 x.c) ∧ w.cell? ⟨g, i * 5 + 1, none⟩ = some (.int .i64 x.n) ∧ w.cell? ⟨g, i * 5 + 2, none⟩ = some (.int .i64 x.o.k) ∧ w.cell? ⟨g, i * 5 + 3, none⟩ = some (.int .i64 x.o.s) ∧ w.cell? ⟨g, i * 5 + 4, none⟩ = some (.string x.o.v) := by
  have h0 := h i x hx 0 _ rfl
  have h1 := h i x hx 1 _ rfl
  have h2 := h i x hx 2 _ rfl
  have h3 := h i x hx 3 _ rfl
  have h4 := h i x hx 4 _ rfl
  simp only [Nat.zero_add] at h0 h1 h2 h3 h4
  exact ⟨h0, h1, h2, h3, h4⟩
set_option maxHeartbeats 1000000 in
theorem eachO1_in (n : Nat) (hn : 1 ≤ n) (l k f g : Nat) (first : Int) (D : List En) (J Jx : Nat → World → Prop) (h1 : 1 ≤ first) (h2 : first + D.length < 9223372036854775807)
    (hY : ∀ i x W, D[i]? = some x → J i W → YieldAt Fence.wide (n - 1) Tryz.prog l #[.int .i64 (first + (i : Int)), x.val] W fun e W' => (e = .returned (.bool true) ∧ J (i + 1) W') ∨ (e = .returned (.bool false) ∧ Jx i W'))
    (hJa : ∀ i W o, J i W → J i (W.alloc o))
    (hJk : ∀ i W, J i W → LieY yE W g 0 D ∧ W.cell? ⟨f, 0, none⟩ = some (.int .i64 first) ∧ f < W.heap.size) (W : World) (hk : W.cell? ⟨k, 0, none⟩ = some (.slice (some ⟨g, 0, none⟩) D.length D.length)) (hD : D.length * 48 ≤ 140737488355328) (h0 : J 0 W) :
    CallsIn Fence.wide n Tryz.prog 147 #[.func (.yield l) #[] #[], .pointer (some ⟨k, 0, none⟩), .pointer (some ⟨f, 0, none⟩)] W fun e W' => (∃ v, e = .returned v) ∧ (J D.length W' ∨ ∃ i, i < D.length ∧ Jx i W') := by
  have hYh := hide hY
  have hJh := hide hJk
  clear hY hJk
  refine callsIn_of_wp Tryz.func147 rfl trivial ?_ rfl
  simp only [Tryz.ntmps147, List.size_toArray, List.length_cons, List.length_nil, Nat.reduceAdd, Nat.reduceSub, Array.replicate_succ, Array.replicate_zero, List.push_toArray, List.append_toArray, List.nil_append, List.cons_append]
  have q := yieldE_nil l
  gi_wp2
  gi_loopw [10] (fun i wr => ∃ k : Nat, i = .int .i64 (k : Int) ∧ k ≤ D.length ∧ J k wr) (fun i _ => D.length - (intOf i).toNat)
  case atStart => exact ⟨0, rfl, Nat.zero_le _, h0⟩
  case round =>
    obtain ⟨i, rfl, hi, hJ⟩ := hrel
    by_cases hlt : i < D.length
    · have hd := List.getElem?_eq_getElem hlt
      obtain ⟨hl, hf, hfl⟩ := hJh.out _ _ hJ
      obtain ⟨e0, e1, e2, e3, e4⟩ := hl.at5 hd
      have hq : W.heap.size = W.heap.size := rfl
      have hfa : ∀ o, (wr.alloc o).cell? ⟨f, 0, none⟩ = some (.int .i64 first) := fun o => (World.cell?_alloc_past _ _ _ hfl).trans hf
      generalize D[i] = x at *
      obtain ⟨fn, tmps, assign, body, hy, hR⟩ := hYh.out i x (wr.alloc (Obj.cells #[.int .i64 x.c, .int .i64 x.n, .int .i64 x.o.k, .int .i64 x.o.s, .string x.o.v] 28)) hd (hJa _ _ _ hJ)
      clear hd hq hl
      unfold En.val at hy
      gi_wp2
      refine hR.mono ?_
      rintro e W3 (⟨rfl, hJ3⟩ | ⟨rfl, hJ3⟩)
      · gi_wp2
        go_roundw
        case rel => exact ⟨i + 1, by simp, by omega, hJ3⟩
        case measure => simp [intOf]; omega
      · gi_wp2
        refine bodyPost_ret (results_none rfl _ _ _) rfl ?_
        exact ⟨⟨_, rfl⟩, .inr ⟨i, hlt, hJ3⟩⟩
    · have he : i = D.length := by omega
      subst he
      gi_wp2
      go_end0
      exact ⟨⟨_, rfl⟩, .inl hJ⟩
def eachPost (I : Nat → World → Prop) (Ix : Code → Nat → World → Prop) (z i : Nat) (W : World) : Exit → Act → World → Prop
  | .normal, _, W' => (W'.heap[z]? = W.heap[z]? ∧ W'.heap[z + 1]? = W.heap[z + 1]?) ∧ I (i + 1) W'
  | .ret, _, W' => (W'.heap[z]? = W.heap[z]? ∧ W'.heap[z + 1]? = W.heap[z + 1]?) ∧ Ix .ret i W'
  | .exit id, _, W' => (W'.heap[z]? = W.heap[z]? ∧ W'.heap[z + 1]? = W.heap[z + 1]?) ∧ Ix (.exit id) i W'
  | .goto t, _, W' => (W'.heap[z]? = W.heap[z]? ∧ W'.heap[z + 1]? = W.heap[z + 1]?) ∧ Ix (.goto t) i W'
  | .panic _, _, _ => False
  | .outgrown, _, _ => False
def recO (fn : FuncId) (tmps : Array Value) (ps : Array Tmp) (assign body : Code) (z : Nat) (st : LoopState) (pe : Option Code) : Loop := { state := st, pending := pe, fn, tmps, params := ps, assign, body, defers := z }
theorem over_each {n : Nat} {gg : Operand} {ps : Array Tmp} {assign body : Code} {Q : Exit → Act → World → Prop} {a : Act} {w : World} (hn : 2 ≤ n) (D : List En) (first : Int) (k f g : Nat)
    (hg : a.eval gg = .func (.func 147) #[] #[.pointer (some ⟨k, 0, none⟩), .pointer (some ⟨f, 0, none⟩)]) (hps : ps.size = 2)
    (h1 : 1 ≤ first) (h2 : first + D.length < 9223372036854775807) (hD : D.length * 48 ≤ 140737488355328)
    (hkl : k < w.heap.size) (hfl : f < w.heap.size) (hgl : g < w.heap.size)
    (hk : w.cell? ⟨k, 0, none⟩ = some (.slice (some ⟨g, 0, none⟩) D.length D.length)) (hf : w.cell? ⟨f, 0, none⟩ = some (.int .i64 first)) (hl : LieY yE w g 0 D)
    (I : Nat → World → Prop) (Ix : Code → Nat → World → Prop)
    (hI : ∀ i W W' row, I i W → W.grownBy W' row → (∀ r, row = some r → r = w.heap.size + 1) → I i W')
    (hIx : ∀ c i W W', Ix c i W → W.grownBy W' (some (w.heap.size + 1)) → Ix c i W')
    (hIk : ∀ i W, I i W → w.heap.size ≤ W.heap.size ∧ ∀ j, j = g ∨ j = k ∨ j = f → W.heap[j]? = w.heap[j]?)
    (h0 : I 0 w)
    (hround : ∀ i x W, D[i]? = some x → I i W → w.heap.size + 1 < W.heap.size →
      assign.wpIn (Fence.wide.inRound (w.heap.size + 1)) (n - 1 - 1) Tryz.prog (Exit.then (fun a₁ W₁ => (I i W₁ ∧ W₁.heap[w.heap.size]? = W.heap[w.heap.size]? ∧ W₁.heap[w.heap.size + 1]? = W.heap[w.heap.size + 1]?) ∧ ∀ W₂, I i W₂ → W₁.grownBy W₂ (some (w.heap.size + 1)) → body.wpIn (Fence.wide.inRound (w.heap.size + 1)) (n - 1 - 1) Tryz.prog (eachPost I Ix w.heap.size i W₂) a₁ W₂) (fun _ _ _ => False))
        { tmps := (ps.zip #[.int .i64 (first + (i : Int)), x.val]).foldl (fun t (p, v) => t.setIfInBounds p v) a.tmps, defers := [] } W)
    (hdone : ∀ W, I D.length W → W.heap[w.heap.size]? = some (.deferred (some [])) → Q .normal { a with defers := [{ target := .collected w.heap.size, args := #[] }] ++ a.defers } W)
    (hstop : ∀ c i W, i < D.length → Ix c i W → W.heap[w.heap.size]? = some (.deferred (some [])) → c.wpIn Fence.wide n Tryz.prog Q { a with defers := [{ target := .collected w.heap.size, args := #[] }] ++ a.defers } W) :
    (Code.rangeFunc gg ps assign body).wpIn Fence.wide n Tryz.prog Q a w := by
  refine wpIn_rangeFunc fun fn hfn => ?_
  obtain ⟨rec, hrec⟩ : ∃ rec, rec = recO fn a.tmps ps assign body w.heap.size := ⟨_, rfl⟩
  obtain ⟨W1, hW1⟩ : ∃ W1, W1 = (w.alloc (.deferred (some []))).alloc (.loop (rec .ready none)) := ⟨_, rfl⟩
  have he : (Instr.enterLoop fn a.tmps ps assign body none).run Tryz.prog w = .ok (w.heap.size + 1, [{ target := .collected w.heap.size, args := #[] }]) W1 := by
    rw [hW1, hrec]
    exact run_enterLoop_outer fn a.tmps ps assign body
  have hL1 : W1.heap[w.heap.size + 1]? = some (.loop (rec .ready none)) := by
    rw [hW1]; have := World.alloc_heap_new (w.alloc (.deferred (some []))) (.loop (rec .ready none)); rwa [World.size_alloc] at this
  have hK1 : W1.heap[w.heap.size]? = some (.deferred (some [])) := by
    rw [hW1]; exact (Below.heap_alloc _ _ _ (by simp)).trans (World.alloc_heap_new w _)
  have hI1 : I 0 W1 := by
    rw [hW1]
    exact hI _ _ _ none (hI _ _ _ none h0 (World.grownBy_alloc w _ none) (fun r e => by cases e)) (World.grownBy_alloc _ _ none) (fun r e => by cases e)
  have hkc : W1.cell? ⟨k, 0, none⟩ = some (.slice (some ⟨g, 0, none⟩) D.length D.length) := by
    rw [← hk]
    exact World.cell?_of_block (a := ⟨k, 0, none⟩) ((hIk 0 W1 hI1).2 k (.inr (.inl rfl)))
  have hres : (resolve a.eval (rangeCall gg (w.heap.size + 1)) 0).run Tryz.prog W1 = .ok { target := .fn (.func 147) #[.pointer (some ⟨k, 0, none⟩), .pointer (some ⟨f, 0, none⟩)], args := #[.func (.yield (w.heap.size + 1)) #[] #[]] } W1 := by
    simp only [resolve, hg]
    simp [go_sem]
  have eg : ∀ args w, (callFunc 147 args).run Tryz.prog w = .ok (.enter 147 args) w := enters_of Tryz.func147 (by kernel_rfl) rfl
  have hinv : (invoke (.fn (.func 147) #[.pointer (some ⟨k, 0, none⟩), .pointer (some ⟨f, 0, none⟩)]) #[.func (.yield (w.heap.size + 1)) #[] #[]]).run Tryz.prog W1 = .ok (.enter 147 #[.func (.yield (w.heap.size + 1)) #[] #[], .pointer (some ⟨k, 0, none⟩), .pointer (some ⟨f, 0, none⟩)]) W1 := by
    simp [invoke, go_sem, eg]
  refine ⟨w.heap.size + 1, [{ target := .collected w.heap.size, args := #[] }], W1, _, W1, 147, _, W1, he, hres, ?_, hinv, ?_, ?_⟩
  · intro f' _; trivial
  · intro _; omega
  refine (eachO1_in (n - 1) (by omega) (w.heap.size + 1) k f g first D
    (fun i W => I i W ∧ W.heap[w.heap.size + 1]? = some (.loop (rec .ready none)) ∧ W.heap[w.heap.size]? = some (.deferred (some [])))
    (fun i W => ∃ c, Ix c i W ∧ W.heap[w.heap.size + 1]? = some (.loop (rec .done (some c))) ∧ W.heap[w.heap.size]? = some (.deferred (some []))) h1 h2 ?_ ?_ ?_ W1 hkc hD ⟨hI1, hL1, hK1⟩).mono ?_
  · rintro i x W hx ⟨hi, hl, hk⟩
    have hlt : w.heap.size + 1 < W.heap.size := (Array.getElem?_eq_some_iff.1 hl).1
    have hy := run_yield (P := Tryz.prog) (args := #[.int .i64 (first + (i : Int)), x.val]) hl (by rw [hrec]; exact hps.symm)
    rw [hrec] at hy
    refine ⟨fn, _, assign, body, hy, roundIn_of_wpIn trivial (wpIn_mono (hround i x W hx hi hlt) fun e a1 w1 hq => ?_)⟩
    clear hy
    cases e with
    | normal =>
      obtain ⟨⟨hi1, hz0, hz1⟩, hb⟩ := hq
      have hl1 := hz1.trans hl
      have hk1 := hz0.trans hk
      have hlt1 : w.heap.size + 1 < w1.heap.size := (Array.getElem?_eq_some_iff.1 hl1).1
      refine ⟨_, run_beginRound hl1 (by rw [hrec]; rfl), ?_⟩
      have hg2 := grownBy_putObj' w1 (w.heap.size + 1) (.loop { rec .ready none with state := .busy })
      have hl2 : (w1.putObj (w.heap.size + 1) (.loop { rec .ready none with state := .busy })).heap[w.heap.size + 1]? = some (.loop { rec .ready none with state := .busy }) := World.putObj_heap_same hlt1
      have hk2 : (w1.putObj (w.heap.size + 1) (.loop { rec .ready none with state := .busy })).heap[w.heap.size]? = some (.deferred (some [])) := (World.putObj_heap_other (by omega)).trans hk1
      refine wpIn_mono (hb _ (hI _ _ _ _ hi1 hg2 (fun r e => by cases e; rfl)) hg2) fun e2 a3 W3 hp => ?_
      have fin : ∀ (jump : Option Code), (W3.heap[w.heap.size]? = (w1.putObj (w.heap.size + 1) (.loop { rec .ready none with state := .busy })).heap[w.heap.size]? ∧ W3.heap[w.heap.size + 1]? = (w1.putObj (w.heap.size + 1) (.loop { rec .ready none with state := .busy })).heap[w.heap.size + 1]?) →
          (Instr.endRound (w.heap.size + 1) jump).run Tryz.prog W3 = .ok (.bool jump.isNone) (W3.putObj (w.heap.size + 1) (.loop (rec (if jump.isNone then .ready else .done) jump))) ∧
          (W3.putObj (w.heap.size + 1) (.loop (rec (if jump.isNone then .ready else .done) jump))).heap[w.heap.size + 1]? = some (.loop (rec (if jump.isNone then .ready else .done) jump)) ∧
          (W3.putObj (w.heap.size + 1) (.loop (rec (if jump.isNone then .ready else .done) jump))).heap[w.heap.size]? = some (.deferred (some [])) := fun jump hkk => by
        have hl3 := hkk.2.trans hl2
        have := run_endRound (P := Tryz.prog) jump hl3
        rw [hrec] at this ⊢
        exact ⟨this, World.putObj_heap_same (Array.getElem?_eq_some_iff.1 hl3).1, (World.putObj_heap_other (by omega)).trans (hkk.1.trans hk2)⟩
      cases e2 with
      | normal =>
        obtain ⟨hkk, hi3⟩ := hp
        obtain ⟨hr, hl4, hk4⟩ := fin none hkk
        exact ⟨_, _, hr, .inl ⟨rfl, hI _ _ _ _ hi3 (grownBy_putObj' W3 _ _) (fun r e => by cases e; rfl), hl4, hk4⟩⟩
      | ret =>
        obtain ⟨hkk, hi3⟩ := hp
        obtain ⟨hr, hl4, hk4⟩ := fin (some .ret) hkk
        exact ⟨_, _, hr, .inr ⟨rfl, _, hIx _ _ _ _ hi3 (grownBy_putObj' W3 _ _), hl4, hk4⟩⟩
      | exit id =>
        obtain ⟨hkk, hi3⟩ := hp
        obtain ⟨hr, hl4, hk4⟩ := fin (some (.exit id)) hkk
        exact ⟨_, _, hr, .inr ⟨rfl, _, hIx _ _ _ _ hi3 (grownBy_putObj' W3 _ _), hl4, hk4⟩⟩
      | goto t =>
        obtain ⟨hkk, hi3⟩ := hp
        obtain ⟨hr, hl4, hk4⟩ := fin (some (.goto t)) hkk
        exact ⟨_, _, hr, .inr ⟨rfl, _, hIx _ _ _ _ hi3 (grownBy_putObj' W3 _ _), hl4, hk4⟩⟩
      | panic ch => exact hp.elim
      | outgrown => exact hp.elim
    | ret => exact hq.elim
    | exit id => exact hq.elim
    | goto t => exact hq.elim
    | panic ch => exact hq.elim
    | outgrown => exact hq.elim
  · rintro i W o ⟨hi, hl, hk⟩
    have hg2 := World.grownBy_alloc W o none
    exact ⟨hI _ _ _ none hi hg2 (fun r e => by cases e), (hg2.block _ (Array.getElem?_eq_some_iff.1 hl).1 nofun).trans hl, (hg2.block _ (Array.getElem?_eq_some_iff.1 hk).1 nofun).trans hk⟩
  · rintro i W ⟨hi, _, _⟩
    obtain ⟨hsz, hbl⟩ := hIk i W hi
    refine ⟨fun j x hx p u hu => ?_, ?_, by omega⟩
    · rw [← hl j x hx p u hu]
      exact World.cell?_of_block (a := ⟨g, _, none⟩) (hbl g (.inl rfl))
    · rw [← hf]
      exact World.cell?_of_block (a := ⟨f, 0, none⟩) (hbl f (.inr (.inr rfl)))
  · rintro e W2 ⟨⟨v, rfl⟩, (⟨hi, hl, hk⟩ | ⟨i, hlt, c, hi, hl, hk⟩)⟩
    · refine ⟨none, _, by have := run_endLoop (P := Tryz.prog) hl (by rw [hrec]; simp [recO]); rw [hrec] at this; exact this, ?_⟩
      exact hdone _ (hI _ _ _ _ hi (grownBy_putObj' W2 _ _) (fun r e => by cases e; rfl)) ((World.putObj_heap_other (by omega)).trans hk)
    · refine ⟨some c, _, by have := run_endLoop (P := Tryz.prog) hl (by rw [hrec]; simp [recO]); rw [hrec] at this; exact this, ?_⟩
      exact hstop c i _ hlt (hIx _ _ _ _ hi (grownBy_putObj' W2 _ _)) ((World.putObj_heap_other (by omega)).trans hk)
end Go.Proofs.YtibedokegignhaaGreatDoor
namespace Go.Proofs.YtibedokegignhaaGreatDoor
open Go.RowKit Go.Maps
open Classical
theorem makeYw {α : Type} {Y : Lay α} (K : Y.Ok) (w : World) {ops : Array Oper} {rest : List Oper} {o : Oper} {a : Act} {Q : Exit → Act → World → Prop} (hgd : o.guard = none) (x : Operand)
    (ho : o.op = .makeSlice Y.ST x x) (n : Nat) (hx : a.eval x = .int .i64 (n : Int)) (hm : n ≤ maxLen) (hb : n * Y.by_ ≤ 281474976710656)
    (h : ∀ w', OwnY Y w.heap.size w' (.slice (some ⟨w.heap.size, 0, none⟩) n n) (List.replicate n Y.z) → Below w.heap.size w w' → wpList Tryz.prog ops Q rest (a.put o.dst (.slice (some ⟨w.heap.size, 0, none⟩) n n)) w') : wpList Tryz.prog ops Q (o :: rest) a w := by
  obtain ⟨zv, hinfo, hzc⟩ := K.info
  obtain ⟨i0, hi, hz0, hz1, hz2⟩ := info_parts hinfo
  unfold maxLen at hm
  have hsz : (i0.bytes : Int) * (n : Int) ≤ 281474976710656 := by
    have h : ((n * Y.by_ : Nat) : Int) ≤ 281474976710656 := by omega
    rw [Int.natCast_mul, Int.mul_comm] at h
    rw [hz2]
    omega
  have hr := run_make (P := Tryz.prog) w Y.ST Y.T i0 zv K.und hi hz0 .i64 .i64 n n (by omega) (Int.le_refl _) hsz (by omega)
  rw [Int.toNat_natCast, hz1] at hr
  refine wpList_plain hgd fun K' hK' => ?_
  unfold Oper.wp execOp
  simp only [ho, hx, Sem.run_bind, Sem.run_pure, hr, Result.andThen_ok]
  refine hK' _ _ (h _ ?_ ((Below.refl _ _).alloc (Nat.le_refl _) _))
  unfold OwnY
  rw [List.length_replicate, ← madeY K hzc]
  exact World.ownsRow_lit w _ n (Nat.le_refl _) (by unfold maxLen; omega) (size_madeCells _ _)
def tot (L : List (SV En)) : Nat := (L.map (fun x => x.D.length)).sum
def flat (L : List (SV En)) : List En := L.flatMap SV.D
theorem flat_length : ∀ L : List (SV En), (flat L).length = tot L
  | [] => rfl
  | x :: r => by simp only [flat, tot, List.flatMap_cons, List.length_append, List.map_cons, List.sum_cons]; have := flat_length r; unfold flat tot at this; rw [this]
theorem tot_step {L : List (SV En)} {j : Nat} {x : SV En} (h : L[j]? = some x) : tot (L.take (j + 1)) = tot (L.take j) + x.D.length := by
  rw [List.take_add_one, h]; simp [tot]
theorem flat_step {L : List (SV En)} {j : Nat} {x : SV En} (h : L[j]? = some x) : flat (L.take (j + 1)) = flat (L.take j) ++ x.D := by
  rw [List.take_add_one, h]; simp [flat]
theorem tot_le (L : List (SV En)) (j : Nat) : tot (L.take j) ≤ tot L := by
  have : tot L = tot (L.take j) + tot (L.drop j) := by
    conv => lhs; rw [← List.take_append_drop j L]
    simp only [tot, List.map_append, List.sum_append]
  omega
theorem put_next {α : Type} (P D : List α) (z : α) (r : Nat) : put (P ++ List.replicate r z) P.length D = (P ++ D) ++ List.replicate (r - D.length) z := by
  unfold put
  rw [List.take_append_of_le_length (Nat.le_refl _), List.take_length, List.drop_append, List.drop_of_length_le (by omega), Nat.add_sub_cancel_left, List.drop_replicate, List.nil_append]
theorem SlY.sl1 {w : World} {a : Option Addr} {n c : Nat} {L : List (SV En)} (h : SlY zE w a n c L) {j : Nat} {x : SV En} (hx : L[j]? = some x) : ∃ q o, a = some ⟨q, o, none⟩ ∧ q < w.heap.size ∧ w.cell? ⟨q, o + j, none⟩ = some (.slice x.a x.D.length x.c) := by
  obtain ⟨q, o, ea, hq, hl⟩ := h.place (by rintro rfl; simp at hx)
  have := hl j x hx 0 _ rfl
  have e : o + j * zE.k + 0 = o + j := by show o + j * 1 + 0 = o + j; omega
  rw [e] at this
  exact ⟨q, o, ea, hq, this⟩
set_option maxHeartbeats 1000000 in
theorem lay_any (L : List (SV En)) (a : Option Addr) (n c : Nat) (w : World) (h : SlY zE w a n c L) (hx : ∀ x ∈ L, SlY yE w x.a x.D.length x.c x.D) (ht : tot L * 48 ≤ 281474976710656) :
    Calls Tryz.prog 146 #[.slice a n c] w fun e w' => e = .returned (.slice (some ⟨w.heap.size, 0, none⟩) (tot L) (tot L)) ∧ OwnY yE w.heap.size w' (.slice (some ⟨w.heap.size, 0, none⟩) (tot L) (tot L)) (flat L) ∧ Below w.heap.size w w' := by
  have hmx := h.max
  have hcp := h.cap
  have hln := h.len
  unfold maxLen at hmx
  have H := hide h
  have HX := hide hx
  have HN := hide hln
  clear h hx hln
  obtain ⟨T, hT⟩ : ∃ T, T = tot L := ⟨_, rfl⟩
  have HT := hide hT
  rw [← hT] at ht ⊢
  clear hT
  go_enter Tryz.func146, Tryz.ntmps146
  go_wp2
  go_loopw [12, 3] (fun i s wr => ∃ j A : Nat, i = .int .i64 (j : Int) ∧ j ≤ n ∧ s = .int .i64 (A : Int) ∧ Hid (A = tot (L.take j)) ∧ wr = w) (fun i _ _ => n - (intOf i).toNat)
  case atStart => exact ⟨0, 0, rfl, Nat.zero_le _, rfl, by show 0 = tot (L.take 0); simp [tot], rfl⟩
  case round =>
    obtain ⟨j, A, rfl, hj, rfl, hA, e1⟩ := hrel
    have e1 := e1.symm
    subst e1
    by_cases hlt : j < n
    · have hjl : j < L.length := by rw [HN.out]; exact hlt
      have hd : L[j]? = some L[j] := List.getElem?_eq_getElem hjl
      obtain ⟨q, o, rfl, hq, hc⟩ := H.out.sl1 hd
      have hst := tot_step hd
      have hle := tot_le L (j + 1)
      rw [hst, ← hA.out, ← HT.out] at hle
      have hb : A + L[j].D.length ≤ 5864062014806 := by omega
      have HS : Hid (A + L[j].D.length = tot (L.take (j + 1))) := by show _ = _; rw [hst, ← hA.out]
      clear hst hle hA hd
      generalize L[j] = x at *
      obtain ⟨xa, xc, xD⟩ := x
      dsimp only at hc hb HS
      generalize xD.length = m at *
      go_wp2
      go_round
      case rel => exact ⟨j + 1, A + m, by go_num, by omega, by go_num, HS, trivial⟩
      case measure => simp [intOf]; omega
    · obtain rfl : j = n := by omega
      have hA2 : A = T := by rw [hA.out, HT.out, List.take_of_length_le (by rw [HN.out]; exact Nat.le_refl _)]
      subst hA2
      clear hA
      go_wp2_with (at_make; go_must (refine makeYw kE _ rfl (.tmp 21) rfl A rfl (by unfold maxLen; omega) ht ?zk))
      intro w1 o1 b1
      have HO : Hid (OwnY yE w.heap.size w1 (.slice (some ⟨w.heap.size, 0, none⟩) A A) (flat (L.take 0) ++ List.replicate (A - 0) yE.z)) := by
        show OwnY _ _ _ _ _
        simpa [flat] using o1
      clear o1
      have HK : Hid (tot L = A) := HT.out.symm
      clear HT
      go_wp2
      go_loopw [25, 7] (fun i s ws => ∃ j2 B : Nat, i = .int .i64 (j2 : Int) ∧ j2 ≤ j ∧ s = .int .i64 (B : Int) ∧ Hid (B = tot (L.take j2)) ∧ Hid (OwnY yE w.heap.size ws (.slice (some ⟨w.heap.size, 0, none⟩) A A) (flat (L.take j2) ++ List.replicate (A - B) yE.z)) ∧ Below w.heap.size w ws) (fun i _ _ => j - (intOf i).toNat)
      case atStart => exact ⟨0, 0, rfl, Nat.zero_le _, rfl, by show 0 = tot (L.take 0); simp [tot], HO, b1⟩
      case round =>
        obtain ⟨j2, B, rfl, hj2, rfl, hB, hO, hb⟩ := hrel
        have hsz := hb.size
        by_cases hlt2 : j2 < j
        · have hjl : j2 < L.length := by rw [HN.out]; exact hlt2
          have hd : L[j2]? = some L[j2] := List.getElem?_eq_getElem hjl
          obtain ⟨q, o, rfl, hq, hc⟩ := (H.out.later hb).sl1 hd
          have hxs := (HX.out _ (List.getElem_mem hjl)).later hb
          have hst := tot_step hd
          have hfs := flat_step hd
          have hle := tot_le L (j2 + 1)
          rw [hst, ← hB.out, HK.out] at hle
          have HS : Hid (B + L[j2].D.length = tot (L.take (j2 + 1))) := by show _ = _; rw [hst, ← hB.out]
          have HP : Hid (put (flat (L.take j2) ++ List.replicate (A - B) yE.z) B L[j2].D = flat (L.take (j2 + 1)) ++ List.replicate (A - (B + L[j2].D.length)) yE.z) := by
            show _ = _
            have hl2 : (flat (L.take j2)).length = B := by rw [flat_length, hB.out]
            have := put_next (flat (L.take j2)) L[j2].D yE.z (A - B)
            rw [hl2] at this
            rw [this, hfs, Nat.sub_sub]
          clear hst hB hd hfs
          generalize L[j2] = x at *
          obtain ⟨xa, xc, xD⟩ := x
          dsimp only at hc hle HS HP hxs
          generalize hm : xD.length = m at *
          have HM := hide hm
          have HXS := hide hxs
          clear hm hxs
          have hbb : (B : Int) + (m : Int) ≤ 5864062014806 := by omega
          by_cases hBA : B = A
          · obtain rfl : m = 0 := by omega
            obtain rfl : xD = [] := List.eq_nil_of_length_eq_zero HM.out
            subst hBA
            have HP2 : Hid (put (flat (L.take j2) ++ List.replicate (B - B) yE.z) 0 [] = flat (L.take (j2 + 1)) ++ List.replicate (B - (B + 0)) yE.z) := by
              show _ = _
              rw [← HP.out]
              simp [put]
            go_wp2_with (refine copyY kE _ rfl (.tmp 32) (.tmp 33) rfl w.heap.size w.heap.size 0 0 0 B xc 0 xa _ [] rfl rfl hO.out HXS.out (by omega) (by omega) ?zc)
            intro w2 o2 u2 s2
            have o2 : OwnY yE w.heap.size w2 (Value.slice (some ⟨w.heap.size, 0, none⟩) B B) (flat (L.take (j2 + 1)) ++ List.replicate (B - (B + 0)) yE.z) := by
              rw [← HP2.out]
              simpa using o2
            have b2 : Below w.heap.size w w2 := hb.trans (u2.below hsz (fun k e => by omega))
            go_wp2
            go_round
            case rel => exact ⟨j2 + 1, B + 0, by go_num, by omega, by go_num, HS, hide o2, b2⟩
            case measure => simp [intOf]; omega
          · have hlt3 : B < A := by omega
            go_wp2_with (refine copyY kE _ rfl (.tmp 32) (.tmp 33) rfl w.heap.size w.heap.size (A - B) (A - B) B A xc m xa _ xD rfl rfl hO.out HXS.out (by omega) (by omega) ?zd)
            intro w2 o2 u2 s2
            rw [HP.out] at o2
            have b2 : Below w.heap.size w w2 := hb.trans (u2.below hsz (fun k e => by omega))
            go_wp2
            go_round
            case rel => exact ⟨j2 + 1, B + m, by go_num, by omega, by go_num, HS, hide o2, b2⟩
            case measure => simp [intOf]; omega
        · obtain rfl : j2 = j := by omega
          have hA2 : B = A := by rw [hB.out, ← HK.out, List.take_of_length_le (by rw [HN.out]; exact Nat.le_refl _)]
          subst hA2
          have hO2 := hO.out
          rw [Nat.sub_self, List.replicate_zero, List.append_nil, List.take_of_length_le (by rw [HN.out]; exact Nat.le_refl _)] at hO2
          have hO3 := hide hO2
          clear hO2 hO hB
          go_wp2
          go_ret
          exact ⟨rfl, hO3.out, hb⟩
theorem SlY.empty {α : Type} (Y : Lay α) (w : World) (a : Option Addr) : SlY Y w a 0 0 [] := ⟨rfl, Nat.le_refl _, by unfold maxLen; omega, fun _ => ⟨rfl, rfl⟩, fun x _ => .inl rfl⟩
theorem SlY.cut {α : Type} {Y : Lay α} {w : World} {q o n c : Nat} {l : List α} (hq : q < w.heap.size) (hl : LieY Y w q o l) (hn : l.length = n) (s m p : Nat) (hs : s < m) (hm : m ≤ n) (hp : m - s ≤ p) (hp2 : p ≤ maxLen) : SlY Y w (some ⟨q, o + s * Y.k, none⟩) (m - s) p ((l.take m).drop s) :=
  ⟨by rw [List.length_drop, List.length_take]; omega, hp, hp2, (fun e => by cases e), fun x hx => by
    cases hx
    refine .inr ⟨q, _, rfl, hq, fun i y hy j u hu => ?_⟩
    rw [List.getElem?_drop, List.getElem?_take] at hy
    split at hy
    · have := hl _ _ hy j u hu
      rw [show o + s * Y.k + i * Y.k + j = o + (s + i) * Y.k + j by rw [Nat.add_mul]; omega]
      exact this
    · cases hy⟩
set_option maxHeartbeats 1000000 in
theorem lay_one (D : List En) (a : Option Addr) (n c : Nat) (w : World) (h : SlY yE w a n c D) (hb : n * 48 ≤ 140737488355328) (T : TypeId) :
    Calls Tryz.prog 146 #[.slice (some ⟨w.heap.size, 0, none⟩) 1 1] (w.alloc (.cells #[.slice a n c] T)) fun e w' => e = .returned (.slice (some ⟨w.heap.size + 1, 0, none⟩) n n) ∧ OwnY yE (w.heap.size + 1) w' (.slice (some ⟨w.heap.size + 1, 0, none⟩) n n) D ∧ Below (w.heap.size + 1) (w.alloc (.cells #[.slice a n c] T)) w' := by
  have hln := h.len
  have hx : tot [(⟨a, c, D⟩ : SV En)] = n := by simp [tot, hln]
  have hy : flat [(⟨a, c, D⟩ : SV En)] = D := by simp [flat]
  have := lay_any [⟨a, c, D⟩] (some ⟨w.heap.size, 0, none⟩) 1 1 (w.alloc (.cells #[.slice a n c] T)) (by
    have := sl_box (Y := zE) w ⟨a, c, D⟩ T
    simp only [zE, yS, hln] at this
    exact this) (fun x hx => by
      simp at hx
      subst hx
      dsimp only
      rw [hln]
      exact h.later ((Below.refl _ _).alloc (Nat.le_refl _) _)) (by rw [hx]; omega)
  rw [hx, hy, World.size_alloc] at this
  exact this
structure Ea (w : World) (s n : Nat) (D : List En) (g k f : Nat) (w' : World) : Prop where
  gb : w.heap.size ≤ g ∧ w.heap.size ≤ k ∧ w.heap.size ≤ f
  lt : g < w'.heap.size ∧ k < w'.heap.size ∧ f < w'.heap.size
  kc : w'.cell? ⟨k, 0, none⟩ = some (.slice (some ⟨g, 0, none⟩) (n - s) (n - s))
  fc : w'.cell? ⟨f, 0, none⟩ = some (.int .i64 ((s : Int) + 1))
  row : OwnY yE w.heap.size w' (.slice (some ⟨g, 0, none⟩) (n - s) (n - s)) (D.drop s)
  bel : Below w.heap.size w w'
set_option maxHeartbeats 1000000 in
theorem eachO_any (D : List En) (a : Option Addr) (n c : Nat) (fr : Int) (s : Nat) (hs : s ≤ n) (hmm : min (max fr 1) ((n : Int) + 1) = (s : Int) + 1) (w : World) (h : SlY yE w a n c D) (hb : n * 48 ≤ 140737488355328) :
    Calls Tryz.prog 135 #[.slice a n c, .int .i64 fr] w fun e w' => ∃ g k f, e = .returned (.func (.func 147) #[] #[.pointer (some ⟨k, 0, none⟩), .pointer (some ⟨f, 0, none⟩)]) ∧ Ea w s n D g k f w' := by
  have hmx := h.max
  have hcp := h.cap
  have hln := h.len
  unfold maxLen at hmx
  obtain ⟨WF, hWF⟩ : ∃ WF, w.alloc (Obj.cells #[Value.int IntKind.i64 ((s : Int) + 1)] 3) = WF := ⟨_, rfl⟩
  have zF : WF.heap.size = w.heap.size + 1 := by rw [← hWF]; simp
  have bF : Below w.heap.size w WF := by rw [← hWF]; exact (Below.refl _ _).alloc (Nat.le_refl _) _
  have cF : WF.cell? ⟨w.heap.size, 0, none⟩ = some (.int .i64 ((s : Int) + 1)) := by rw [← hWF]; exact World.cell?_alloc_at _ _ _ _ rfl
  have HF := hide hWF
  have fin : ∀ (w2 : World), OwnY yE (WF.heap.size + 1) w2 (.slice (some ⟨WF.heap.size + 1, 0, none⟩) (n - s) (n - s)) (D.drop s) → Below WF.heap.size WF w2 → WF.heap.size + 1 < w2.heap.size → Ea w s n D (WF.heap.size + 1) w2.heap.size w.heap.size (w2.alloc (Obj.cells #[.slice (some ⟨WF.heap.size + 1, 0, none⟩) (n - s) (n - s)] 34)) := fun w2 o2 b2 z2 => by
    refine ⟨by omega, by simp; omega, World.cell?_alloc_at _ _ _ _ rfl, ?_, (o2.low (by omega)).alloc _, ?_⟩
    · rw [World.cell?_alloc_past _ _ _ (by show w.heap.size < w2.heap.size; omega)]
      exact (b2.cell (p := ⟨w.heap.size, 0, none⟩) (by show w.heap.size < _; omega)).trans cF
    · exact (bF.trans (b2.mono (by omega))).alloc (by omega) _
  have HI := hide fin
  have HZ := hide zF
  clear hWF fin zF
  by_cases hn : s = n
  · subst hn
    have hd : D.drop s = [] := List.drop_of_length_le (by omega)
    have HE : Hid (∀ x, SlY yE WF x 0 0 []) := fun x => SlY.empty yE WF x
    have H0 : Hid (s - s = 0) := Nat.sub_self s
    have HJ : Hid (∀ (w2 : World), OwnY yE (WF.heap.size + 1) w2 (.slice (some ⟨WF.heap.size + 1, 0, none⟩) 0 0) [] → Below WF.heap.size WF w2 → WF.heap.size + 1 < w2.heap.size → Ea w s s D (WF.heap.size + 1) w2.heap.size w.heap.size (w2.alloc (Obj.cells #[.slice (some ⟨WF.heap.size + 1, 0, none⟩) 0 0] 34))) := by
      have := HI.out
      rw [hd, H0.out] at this
      exact this
    clear hd HI
    have CC := hide (fun (x : Option Addr) (T : TypeId) => lay_one [] x 0 0 WF (HE.out x) (by omega) T)
    cases a with
    | none =>
      obtain ⟨rfl, rfl⟩ := h.nil rfl
      clear h hln
      have hm0 : min (max fr 1) 1 = 1 := by omega
      have HF1 : Hid (w.alloc (Obj.cells #[Value.int IntKind.i64 1] 3) = WF) := HF.out
      clear hmm HF
      go_enter Tryz.func135, Tryz.ntmps135
      go_wp2_with fail
      rw [HF1.out, ← HZ.out]
      refine (CC.out none _).mono ?_
      rintro e w2 ⟨rfl, o2, b2⟩
      have z2 := (o2.blk _ rfl).2
      have b3 : Below WF.heap.size WF w2 := ((Below.refl _ _).alloc (Nat.le_refl _) _).trans (b2.mono (Nat.le_succ _))
      clear CC HF1 HZ
      go_wp2
      go_ret
      exact ⟨_, _, _, rfl, HJ.out w2 o2 b3 z2⟩
    | some x =>
      clear h hln
      go_enter Tryz.func135, Tryz.ntmps135
      go_wp2_with fail
      rw [HF.out, ← HZ.out]
      refine (CC.out (some x) _).mono ?_
      rintro e w2 ⟨rfl, o2, b2⟩
      have z2 := (o2.blk _ rfl).2
      have b3 : Below WF.heap.size WF w2 := ((Below.refl _ _).alloc (Nat.le_refl _) _).trans (b2.mono (Nat.le_succ _))
      clear CC HF HZ
      go_wp2
      go_ret
      exact ⟨_, _, _, rfl, HJ.out w2 o2 b3 z2⟩
  · obtain ⟨q, o, rfl, hq, hl⟩ := h.place (by rintro rfl; simp at hln; omega)
    have h1 : s < n := by omega
    have hS : SlY yE w (some ⟨q, o + s * 5, none⟩) (n - s) (n - s) (D.drop s) := by
      have := SlY.cut (c := c) hq hl hln s n (n - s) h1 (Nat.le_refl _) (Nat.le_refl _) (by unfold maxLen; omega)
      rw [List.take_of_length_le (by omega)] at this
      exact this
    have CC := hide (lay_one (D.drop s) (some ⟨q, o + s * 5, none⟩) (n - s) (n - s) WF (hS.later bF) (by omega) 34)
    clear h hS hl hln
    go_enter Tryz.func135, Tryz.ntmps135
    go_wp2_with fail
    rw [HF.out, ← HZ.out]
    refine CC.out.mono ?_
    rintro e w2 ⟨rfl, o2, b2⟩
    have z2 := (o2.blk _ rfl).2
    have b3 : Below WF.heap.size WF w2 := ((Below.refl _ _).alloc (Nat.le_refl _) _).trans (b2.mono (Nat.le_succ _))
    clear CC HF HZ
    go_wp2
    go_ret
    exact ⟨_, _, _, rfl, HI.out w2 o2 b3 z2⟩
theorem eachO_one (D : List En) (a : Option Addr) (n c : Nat) (w : World) (h : SlY yE w a n c D) (hb : n * 48 ≤ 140737488355328) :
    Calls Tryz.prog 135 #[.slice a n c, .int .i64 1] w fun e w' => ∃ g k f, e = .returned (.func (.func 147) #[] #[.pointer (some ⟨k, 0, none⟩), .pointer (some ⟨f, 0, none⟩)]) ∧ Ea w 0 n D g k f w' :=
  eachO_any D a n c 1 0 (Nat.zero_le _) (by show min (max 1 1) _ = (0 : Int) + 1; omega) w h hb
end Go.Proofs.YtibedokegignhaaGreatDoor
namespace Go.Proofs.YtibedokegignhaaGreatDoor
open Go.RowKit Go.Shelf
open Classical
attribute [local go_sem] Oper.semAt_some
theorem up_row {S : Nat → Prop} {w W W' : World} {row : Option Nat} (h : Upd S w W) (hg : W.grownBy W' row) (hr : ∀ r, row = some r → r = w.heap.size + 1) : Upd S w W' := h.grownBy hg (fun k e hk => by have := hr k e; omega)
end Go.Proofs.YtibedokegignhaaGreatDoor
namespace Go.Proofs.YtibedokegignhaaGreatDoor
open Go.RowKit Go.Shelf
open Classical
variable {P : Program} {ops : Array Oper} {md : Region.Mode} {C : World → Prop}
def noDefer (o : Oper) : Bool := match o.op with | .defer _ => false | _ => true
theorem noDefer_ne {o : Oper} (h : noDefer o = true) (c : Call) : o.op ≠ .defer c := fun e => by simp [noDefer, e] at h
theorem opIn_of_quiet {l n : Nat} {o : Oper} {a : Act} {K : Act → Prop} {K' : Act → World → Prop} {Q' : Exit → Act → World → Prop} {w : World} (hnd : noDefer o = true) (hw : C w) (h : ∀ a w', C w' → K a → K' a w')
    (hh : o.quiet P a C K) : o.wpIn (Fence.wide.inRound l) n P a w K' Q' := by
  obtain ⟨v, h1, h2⟩ := hh
  have h3 := h1 w hw
  unfold Oper.quietAt at h3
  unfold Oper.wpIn
  refine ⟨fun _ _ => trivial, ?_⟩
  rw [Fence.inRound_round, Oper.semAt_some _ _ _ (noDefer_ne hnd)]
  generalize (execOp a.eval o).run P w = r at *
  cases r with
  | ok x w' =>
    cases x <;> simp only [Oper.quietUpon] at h3 <;> simp only [Oper.uponIn]
    case value u =>
      obtain ⟨e1, e2⟩ := h3
      rw [e1, e2]
      exact h _ _ hw h2
    case skip =>
      obtain ⟨e1, e2⟩ := h3
      rw [e1, ← e2]
      exact h _ _ hw h2
    case enter f args =>
      obtain ⟨e1, hc⟩ := h3
      rw [e1]
      refine ⟨fun h => (by cases h), CallsIn.inRound l (callsIn_wide.2 (hc.mono fun e w'' hq => ?_))⟩
      obtain ⟨he, hw''⟩ := hq
      subst he
      exact h _ _ hw'' h2
  | halt x w' => simp only [Oper.quietUpon] at h3
theorem wpOpIn_of_qOpR {l n i : Nat} {a : Act} {K : Act → Prop} {K' : Act → World → Prop} {Q' : Exit → Act → World → Prop} {w : World} (hnd : ∀ (i : Nat) (o : Oper), ops[i]? = some o → noDefer o = true) (hC : C w) (h : ∀ a w', C w' → K a → K' a w')
    (hh : qOp P ops C i K a) : wpOpIn (Fence.wide.inRound l) n P ops Q' i K' a w := by
  unfold qOp at hh
  unfold wpOpIn
  split
  · rename_i ho; simp only [ho] at hh; exact h _ _ hC hh
  · rename_i o ho
    simp only [ho] at hh
    split
    · rename_i hw; simp only [hw, if_true] at hh; exact opIn_of_quiet (hnd _ _ ho) hC h hh
    · rename_i hw; simp only [hw] at hh; exact ⟨fun _ _ => trivial, h _ _ hC hh⟩
theorem wpAnyIn_of_quietR {l n : Nat} {Q : Act → Prop} {Q' : Exit → Act → World → Prop} (hnd : ∀ (i : Nat) (o : Oper), ops[i]? = some o → noDefer o = true) (hQ : ∀ a w, C w → Q a → Q' .normal a w) : ∀ (fuel : Nat) (listed : Array Bool) (a : Act) (w : World), C w →
    wpAnyQ P md ops C Q fuel listed a → wpAnyIn (Fence.wide.inRound l) n P md ops Q' fuel listed a w
  | 0, _, _, _, hw, h => ⟨h.1, hQ _ _ hw h.2⟩
  | fuel + 1, _, _, _, hw, h => ⟨fun h0 => hQ _ _ hw (h.1 h0), fun i hi => wpOpIn_of_qOpR hnd hw (fun a' w' hw' => wpAnyIn_of_quietR hnd hQ fuel _ a' w' hw') (h.2 i hi)⟩
theorem region_round {l n id : Nat} {Q : Exit → Act → World → Prop} {a : Act} {w : World} {os : List Oper} (hm : P.follows .mixedOrders = true) (hB : Region.lexB .any os.toArray = true) (hnd : os.all noDefer = true)
    (h : wpQuiet P os.toArray (fun w' => ∃ n, w' = w.drewN n) (fun a' => ∀ w', (∃ n, w' = w.drewN n) → Q .normal a' w') os a) : (Code.region id os.toArray true).wpIn (Fence.wide.inRound l) n P Q a w := by
  simp only [Region.lexB, Bool.and_eq_true] at hB
  refine wpIn_region_any hm (wpAnyIn_of_quietR (C := fun w' => ∃ n, w' = w.drewN n) (Q := fun a' => ∀ w', (∃ n, w' = w.drewN n) → Q .normal a' w') ?_ (fun _ w' hw' h => h w' hw') _ _ _ _ ⟨1, rfl⟩ ?_)
  · intro i o ho
    rw [List.getElem?_toArray] at ho
    exact List.all_eq_true.1 hnd o (List.mem_of_getElem? ho)
  · have := wpAnyQ_lex (C := fun w' => ∃ n, w' = w.drewN n) (md := .any) hB.1 os.toArray.toList 0 (Array.replicate os.toArray.size false) a (by simp) (by simpa using hB.2) (by simpa using h)
    simpa using this
end Go.Proofs.YtibedokegignhaaGreatDoor
namespace Go.Proofs.YtibedokegignhaaGreatDoor
open Go.RowKit Go.Shelf
open Classical
attribute [local go_sem] Oper.semAt_some
def enb (a b : En) : Bool := decide (a.c = b.c) && (decide (a.n = b.n) && (decide (a.o.k = b.o.k) && (decide (a.o.s = b.o.s) && decide (a.o.v.data = b.o.v.data))))
theorem enb_iff (a b : En) : enb a b = true ↔ a = b := by
  rcases a with ⟨c, n, ⟨k, s, ⟨v⟩⟩⟩
  rcases b with ⟨c', n', ⟨k', s', ⟨v'⟩⟩⟩
  simp only [enb, Bool.and_eq_true, decide_eq_true_eq, En.mk.injEq, Opn.mk.injEq, ByteArray.mk.injEq]
end Go.Proofs.YtibedokegignhaaGreatDoor
namespace Go.Proofs.YtibedokegignhaaGreatDoor
open Go.RowKit
open Classical
def Arr (w : World) (g : Nat) (t : TypeId) (xs : List Value) : Prop := w.ownsRow 0 t 1 (.slice (some ⟨g, 0, none⟩) xs.length xs.length) xs.length xs
theorem Arr.new (w : World) (t : TypeId) (n : Nat) (z : Value) (hn : n ≤ 1024) : Arr (w.alloc (.cells (Array.replicate n z) t)) w.heap.size t (List.replicate n z) :=
  ⟨by simp, .inr ⟨w.heap.size, n, Array.replicate n z, by simp, Nat.zero_le _, (MapKept.heap_alloc w _).1, by simp, by unfold maxLen; omega, by simp, by simp⟩⟩
theorem Arr.cell {w : World} {g : Nat} {t : TypeId} {xs : List Value} (h : Arr w g t xs) {i : Nat} {u : Value} (hi : xs[i]? = some u) : w.cell? ⟨g, i, none⟩ = some u := by
  have := World.ownsRow.cells h (g := g) rfl i u hi
  rw [Addr.add_lit, Nat.zero_add] at this
  exact this
theorem Arr.free {w : World} {g : Nat} {t : TypeId} {xs : List Value} (h : Arr w g t xs) (i : Nat) : w.frozen? ⟨g, i, none⟩ = false := World.ownsRow.frozenAt h i
theorem Arr.set {w : World} {g : Nat} {t : TypeId} {xs : List Value} (h : Arr w g t xs) (i : Nat) (u : Value) : Arr (w.setCell ⟨g, i, none⟩ u) g t (xs.set i u) := by
  unfold Arr at *
  rw [List.length_set]
  exact (World.ownsRow.stored h i u).1
theorem Arr.upd {S : Nat → Prop} {w w' : World} {g : Nat} {t : TypeId} {xs : List Value} (h : Arr w g t xs) (u : Upd S w w') (hs : ¬ S g) : Arr w' g t xs := by
  obtain ⟨h1, h2⟩ := h
  refine ⟨h1, ?_⟩
  rcases h2 with ⟨e, _⟩ | ⟨g', cap, cur, e1, e2, e3, r⟩
  · cases e
  · have e0 := e1
    injection e1 with e1
    injection e1 with e1
    injection e1 with e1
    subst e1
    refine .inr ⟨g, cap, cur, e0, e2, ?_, r⟩
    rw [u.block g (Array.getElem?_eq_some_iff.1 e3).1 hs]
    exact e3
end Go.Proofs.YtibedokegignhaaGreatDoor
namespace Go.Proofs.YtibedokegignhaaGreatDoor
open Go.RowKit Go.Maps
open Classical
theorem Arr.later {w w' : World} {g : Nat} {t : TypeId} {xs : List Value} (h : Arr w g t xs) (hb : Below w.heap.size w w') : Arr w' g t xs := h.upd (S := fun _ => False) (Upd.of_below hb) id
end Go.Proofs.YtibedokegignhaaGreatDoor
namespace Go.Proofs.YtibedokegignhaaGreatDoor
open Go.RowKit Go.Shelf
open Classical
attribute [local go_sem] Oper.semAt_some
def ckA : List En → List En → Int × Int
  | _, [] => (0, 0)
  | past, e :: r => if er past e ≠ 0 then (er past e, (past.length : Int) + 1) else ckA (past ++ [e]) r
def chk (L : List En) (room : Int) : Int × Int := if room < 1 ∨ 256 < room then (3, 0) else if room < L.length then (60, room) else ckA [] L
theorem ckA_at {L : List En} {j : Nat} {e : En} (h : L[j]? = some e) : ckA (L.take j) (L.drop j) = if er (L.take j) e ≠ 0 then (er (L.take j) e, (j : Int) + 1) else ckA (L.take (j + 1)) (L.drop (j + 1)) := by
  have hj := (List.getElem?_eq_some_iff.1 h).1
  have he := (List.getElem?_eq_some_iff.1 h).2
  have hl : (L.take j).length = j := by rw [List.length_take]; omega
  rw [List.drop_eq_getElem_cons hj, he, ckA, List.take_add_one, h, hl]
  rfl
theorem ckA_end (L : List En) : ckA (L.take L.length) (L.drop L.length) = (0, 0) := by simp [ckA]
theorem checkent_any (C N k s : Int) (v : ByteArray) (hf : (⟨k, s, v⟩ : Opn).fits) (w : World) :
    Calls Tryz.prog 136 #[.agg #[.int .i64 C, .int .i64 N, .int .i64 k, .int .i64 s, .string v]] w fun e w' => e = .returned (.int .i64 (ckE ⟨C, N, ⟨k, s, v⟩⟩)) ∧ Below w.heap.size w w' := by
  have cc := fun W => check_any ⟨k, s, v⟩ hf W
  dsimp only [Opn.val] at cc
  have bA := (Below.refl w.heap.size w).alloc (Nat.le_refl _) (.cells #[.int .i64 C, .int .i64 N, .int .i64 k, .int .i64 s, .string v] 28)
  by_cases h1 : C < 0
  · have hE : Hid (ckE ⟨C, N, ⟨k, s, v⟩⟩ = 62) := by show _ = _; simp [ckE, h1]
    have d1 : decide (C < 0) = true := by simpa using h1
    go_enter Tryz.func136, Tryz.ntmps136
    go_wp2
    go_ret
    exact ⟨ret_int hE.out.symm, bA⟩
  · by_cases h2 : 16 ≤ C
    · have hE : Hid (ckE ⟨C, N, ⟨k, s, v⟩⟩ = 62) := by show _ = _; simp [ckE, h2]
      go_enter Tryz.func136, Tryz.ntmps136
      go_wp2
      go_ret
      exact ⟨ret_int hE.out.symm, bA⟩
    · by_cases h3 : N < 1
      · have hE : Hid (ckE ⟨C, N, ⟨k, s, v⟩⟩ = 63) := by show _ = _; simp [ckE, h1, h2, h3]
        go_enter Tryz.func136, Tryz.ntmps136
        go_wp2
        go_ret
        exact ⟨ret_int hE.out.symm, bA⟩
      · have hE : Hid (ckE ⟨C, N, ⟨k, s, v⟩⟩ = ck k s v) := by show _ = _; simp [ckE, h1, h2, h3]
        generalize ck k s v = x at *
        go_enter Tryz.func136, Tryz.ntmps136
        go_wp2_with (go_at_call 148; refine (cc _).mono ?_; rintro e w2 ⟨rfl, b2⟩)
        go_ret
        exact ⟨ret_int hE.out.symm, bA.trans (b2.mono (by simp))⟩
def gml (L : List En) : List Value := (List.range 16).map fun (c : Nat) => .int .i64 (gm L (c : Int))
theorem gml_get (L : List En) {c : Nat} (h : c < 16) : (gml L)[c]? = some (.int .i64 (gm L (c : Int))) := by simp [gml, h]
theorem gml_len (L : List En) : (gml L).length = 16 := by simp [gml]
theorem gml_set {L : List En} {e : En} {c : Nat} (hc : e.c = (c : Int)) (h16 : c < 16) (hn : gm L e.c < e.n) : (gml L).set c (.int .i64 e.n) = gml (L ++ [e]) := by
  apply List.ext_getElem?
  intro i
  by_cases h : i < 16
  · rw [gml_get _ h, gm_snoc, List.getElem?_set]
    by_cases hs : c = i
    · subst hs
      rw [hc] at hn ⊢
      have : max (gm L (c : Int)) e.n = e.n := by omega
      simp [gml_len, h, this]
    · have : ¬ (e.c = (i : Int)) := by rw [hc]; omega
      simp [hs, this, gml_get L h]
  · rw [List.getElem?_eq_none (by rw [List.length_set, gml_len]; omega), List.getElem?_eq_none (by rw [gml_len]; omega)]
theorem setc_other {w : World} {b b' i j : Nat} {u x : Value} (h : w.cell? ⟨b, i, none⟩ = some x) (hne : b ≠ b') : (w.setCell ⟨b', j, none⟩ u).cell? ⟨b, i, none⟩ = some x :=
  (World.cell?_of_block (a := ⟨b, i, none⟩) (Below.heap_setCell w ⟨b', j, none⟩ u b hne)).trans h
def ChkI (w4 : World) (N : Nat) (L : List En) (X : Int × Int) (i : Nat) (W : World) : Prop := Upd (· = N) w4 W ∧ Arr W N 209 (gml (L.take i)) ∧ X = ckA (L.take i) (L.drop i)
set_option maxHeartbeats 1000000 in
theorem checkO_any (L : List En) (a : Option Addr) (n c : Nat) (room : Int) (w : World) (h : SlY yE w a n c L) (hf : ∀ e ∈ L, e.fits) :
    Calls Tryz.prog 114 #[.slice a n c, .int .i64 room] w fun e w' => e = .returned (.tuple #[.int .i64 (chk L room).1, .int .i64 (chk L room).2]) ∧ Below w.heap.size w w' := by
  have hln := h.len
  have hcp := h.cap
  have hmx := h.max
  unfold maxLen at hmx
  have H := hide h
  have HF := hide hf
  clear h hf
  subst hln
  by_cases h1 : room < 1
  · have hE : Hid (chk L room = (3, 0)) := by show _ = _; simp [chk, h1]
    rw [hE.out]
    have d1 : decide (room < 1) = true := by simpa using h1
    go_enter Tryz.func114, Tryz.ntmps114
    go_wp2
    refine bodyPost_ret (v := .tuple #[.int .i64 3, .int .i64 0]) (by simp [results, Tryz.f114, go_sem]) rfl ⟨rfl, ((Below.refl _ _).alloc (Nat.le_refl _) _).alloc (by simp) _⟩
  · by_cases h2 : 256 < room
    · have hE : Hid (chk L room = (3, 0)) := by show _ = _; simp [chk, h2]
      rw [hE.out]
      go_enter Tryz.func114, Tryz.ntmps114
      go_wp2
      refine bodyPost_ret (v := .tuple #[.int .i64 3, .int .i64 0]) (by simp [results, Tryz.f114, go_sem]) rfl ⟨rfl, ((Below.refl _ _).alloc (Nat.le_refl _) _).alloc (by simp) _⟩
    · by_cases h3 : room < (L.length : Int)
      · have hE : Hid (chk L room = (60, room)) := by show _ = _; simp [chk, h1, h2, h3]
        rw [hE.out]
        go_enter Tryz.func114, Tryz.ntmps114
        go_wp2
        refine bodyPost_ret (v := .tuple #[.int .i64 60, .int .i64 room]) (by simp [results, Tryz.f114, go_sem]) rfl ⟨rfl, ((Below.refl _ _).alloc (Nat.le_refl _) _).alloc (by simp) _⟩
      · have hE : Hid (chk L room = ckA (L.take 0) (L.drop 0)) := by show _ = _; simp [chk, h1, h2, h3]
        have hb : L.length * 48 ≤ 140737488355328 := by omega
        refine (callsIn_wide (n := 4)).1 ?_
        refine callsIn_of_wp_marks Tryz.func114 rfl trivial ?_ rfl
        simp only [Tryz.ntmps114, List.size_toArray, List.length_cons, List.length_nil, Nat.reduceAdd, Nat.reduceSub, Array.replicate_succ, Array.replicate_zero, List.push_toArray, List.append_toArray, List.nil_append, List.cons_append]
        generalize chk L room = X at *
        gi_wp2_with fail
        refine ⟨trivial, ?_⟩
        obtain ⟨w3, hw3⟩ : ∃ w3, (((w.alloc (Obj.cells #[Value.int IntKind.i64 0] 47)).alloc (Obj.cells #[Value.int IntKind.i64 0] 3)).alloc (Obj.cells #[Value.int IntKind.i64 0, Value.int IntKind.i64 0, Value.int IntKind.i64 0, Value.int IntKind.i64 0, Value.int IntKind.i64 0, Value.int IntKind.i64 0, Value.int IntKind.i64 0, Value.int IntKind.i64 0, Value.int IntKind.i64 0, Value.int IntKind.i64 0, Value.int IntKind.i64 0, Value.int IntKind.i64 0, Value.int IntKind.i64 0, Value.int IntKind.i64 0, Value.int IntKind.i64 0, Value.int IntKind.i64 0] 209)) = w3 := ⟨_, rfl⟩
        rw [hw3]
        have b3 : Below w.heap.size w w3 := by rw [← hw3]; exact (((Below.refl _ _).alloc (Nat.le_refl _) _).alloc (by simp) _).alloc (by simp; omega) _
        have z3 : w3.heap.size = w.heap.size + 3 := by rw [← hw3]; simp
        have c0 : w3.cell? ⟨w.heap.size, 0, none⟩ = some (.int .i64 0) := by subst hw3; go_simp
        have c1 : w3.cell? ⟨w.heap.size + 1, 0, none⟩ = some (.int .i64 0) := by subst hw3; go_simp
        have f0 : w3.frozen? ⟨w.heap.size, 0, none⟩ = false := by subst hw3; go_simp
        have f1 : w3.frozen? ⟨w.heap.size + 1, 0, none⟩ = false := by subst hw3; go_simp
        have ar : Arr w3 (w.heap.size + 1 + 1) 209 (gml (L.take 0)) := by
          have := Arr.new ((w.alloc (Obj.cells #[Value.int IntKind.i64 0] 47)).alloc (Obj.cells #[Value.int IntKind.i64 0] 3)) 209 16 (.int .i64 0) (by omega)
          rw [World.size_alloc, World.size_alloc] at this
          rw [← hw3]
          exact this
        clear hw3
        refine (callsIn_wide.2 (eachO_one L a L.length c w3 (H.out.later b3) hb)).mono ?_
        rintro e w4 ⟨g, k, f, rfl, ea⟩
        have d0 := (ea.bel.cell (p := ⟨w.heap.size, 0, none⟩) (by show w.heap.size < _; omega)).trans c0
        have d1 := (ea.bel.cell (p := ⟨w.heap.size + 1, 0, none⟩) (by show w.heap.size + 1 < _; omega)).trans c1
        have g0 := (ea.bel.frozen (p := ⟨w.heap.size, 0, none⟩) (by show w.heap.size < _; omega)).trans f0
        have g1 := (ea.bel.frozen (p := ⟨w.heap.size + 1, 0, none⟩) (by show w.heap.size + 1 < _; omega)).trans f1
        have ar4 := hide (ar.later ea.bel)
        have b4 : Below w.heap.size w w4 := b3.trans (ea.bel.mono (by omega))
        have z4 : w.heap.size + 3 ≤ w4.heap.size := by have := ea.bel.size; omega
        clear c0 c1 f0 f1 b3 ar
        obtain ⟨gb, lt, kc, fc, row, _⟩ := ea
        obtain ⟨l1, l2, l3⟩ := lt
        have lie : LieY yE w4 g 0 L := fun i x hx j u hu => by rw [Nat.zero_add]; exact row.cell kE i x hx j u hu
        have hN : Hid (g ≠ w.heap.size + 1 + 1 ∧ k ≠ w.heap.size + 1 + 1 ∧ f ≠ w.heap.size + 1 + 1) := by show _ ∧ _; omega
        clear z3 row
        have HB4 := hide b4
        have HZ4 := hide z4
        have HL := hide lie
        clear b4 z4 lie gb
        gi_wp2
        refine over_each (n := 4) (by omega) L 1 k f g rfl rfl (by omega) (by omega) hb l2 l3 l1 kc fc HL.out
          (ChkI w4 (w.heap.size + 1 + 1) L X)
          (fun cd i W => cd = .ret ∧ (W.cell? ⟨w.heap.size, 0, none⟩ = some (.int .i64 X.1) ∧ W.cell? ⟨w.heap.size + 1, 0, none⟩ = some (.int .i64 X.2)) ∧ Upd (fun k => w.heap.size ≤ k) w4 W)
          (fun i W W' row hi hg hr => ⟨up_row hi.1 hg hr, hi.2.1.upd (S := fun k => row = some k) (gupd hg (fun _ e => e)) (fun e => by have := hr _ e; have := HZ4.out; omega), hi.2.2⟩)
          (fun cd i W W' hi hg => ⟨hi.1, ⟨gcell hg hi.2.1.1 (fun e => by injection e with e; have := HZ4.out; omega), gcell hg hi.2.1.2 (fun e => by injection e with e; have := HZ4.out; omega)⟩, up_row hi.2.2 hg (fun r e => by cases e; rfl)⟩)
          (fun i W hi => ⟨hi.1.size, fun j hj => hi.1.block j (by rcases hj with rfl | rfl | rfl <;> assumption) (by have := hN.out; rcases hj with rfl | rfl | rfl <;> omega)⟩)
          ⟨Upd.refl _ _, ar4.out, hE.out⟩ ?round ?done ?stop
        case round =>
          rintro i x W hx ⟨u, hA, hf⟩ hlt
          have hil := (List.getElem?_eq_some_iff.1 hx).1
          have hst := ckA_at hx
          have htk : L.take (i + 1) = L.take i ++ [x] := by rw [List.take_add_one, hx]; rfl
          have hfx := (HF.out x (List.mem_of_getElem? hx)).ow
          have her : er (L.take i) x = if ckE x ≠ 0 then ckE x else if tw (L.take i) x then 64 else 0 := rfl
          have HST := hide hst
          have HTK := hide htk
          have HER := hide her
          clear hst htk her hx
          obtain ⟨xc, xn, ⟨ok, os, ov⟩⟩ := x
          dsimp only [En.val]
          have HA1 := hide hA
          have HU := hide u
          have HLT := hide hlt
          have HF1 := hide hf
          clear hA u hlt hf
          gi_wp2
          have zl := HZ4.out
          have hlt := HLT.out
          have u := HU.out
          have us := u.size
          refine ⟨⟨⟨u.alloc _, HA1.out.later ((Below.refl _ _).alloc (Nat.le_refl _) _), HF1.out⟩, Below.heap_alloc _ _ _ (by omega), Below.heap_alloc _ _ _ hlt⟩, ?_⟩
          rintro W2 ⟨u2, hA2, hf2⟩ hg2
          have HA2 := hide hA2
          clear hA2 HA1
          have e0 : W2.cell? ⟨W.heap.size, 0, none⟩ = some (.int .i64 xc) := gcell hg2 (World.cell?_alloc_at _ _ _ _ rfl) (fun e => by injection e with e; omega)
          have e1 : W2.cell? ⟨W.heap.size, 1, none⟩ = some (.int .i64 xn) := gcell hg2 (World.cell?_alloc_at _ _ _ _ rfl) (fun e => by injection e with e; omega)
          have e2 : W2.cell? ⟨W.heap.size, 2, none⟩ = some (.int .i64 ok) := gcell hg2 (World.cell?_alloc_at _ _ _ _ rfl) (fun e => by injection e with e; omega)
          have e3 : W2.cell? ⟨W.heap.size, 3, none⟩ = some (.int .i64 os) := gcell hg2 (World.cell?_alloc_at _ _ _ _ rfl) (fun e => by injection e with e; omega)
          have e4 : W2.cell? ⟨W.heap.size, 4, none⟩ = some (.string ov) := gcell hg2 (World.cell?_alloc_at _ _ _ _ rfl) (fun e => by injection e with e; omega)
          have hW2 : W.heap.size < W2.heap.size := by have := hg2.size; simp at this; omega
          have cc := hide (fun W => checkent_any xc xn ok os ov hfx W)
          clear hfx
          gi_wp2_with fail
          refine ⟨trivial, ?_⟩
          refine (CallsIn.inRound _ (callsIn_wide.2 (cc.out _))).mono ?_
          rintro e w5 ⟨rfl, b5⟩
          have HU5 := hide (u2.trans (Upd.of_below b5))
          have HA5 := hide (HA2.out.later b5)
          have e0 := (b5.cell (p := ⟨W.heap.size, 0, none⟩) hW2).trans e0
          have e1 := (b5.cell (p := ⟨W.heap.size, 1, none⟩) hW2).trans e1
          have i0 := (HU5.out.cell (p := ⟨w.heap.size, 0, none⟩) (by show w.heap.size < _; omega) (by show w.heap.size ≠ _; omega)).trans d0
          have j0 := (HU5.out.frozen (p := ⟨w.heap.size, 0, none⟩) (by show w.heap.size < _; omega) (by show w.heap.size ≠ _; omega)).trans g0
          have i1 := (HU5.out.cell (p := ⟨w.heap.size + 1, 0, none⟩) (by show w.heap.size + 1 < _; omega) (by show w.heap.size + 1 ≠ _; omega)).trans d1
          have j1 := (HU5.out.frozen (p := ⟨w.heap.size + 1, 0, none⟩) (by show w.heap.size + 1 < _; omega) (by show w.heap.size + 1 ≠ _; omega)).trans g1
          have HZ0 : Hid (w5.heap[w4.heap.size]? = W2.heap[w4.heap.size]? ∧ w5.heap[w4.heap.size + 1]? = W2.heap[w4.heap.size + 1]?) := ⟨b5.block _ (by omega), b5.block _ (by omega)⟩
          have HD : Hid (w4.heap.size ≠ w.heap.size ∧ w4.heap.size ≠ w.heap.size + 1 ∧ w4.heap.size ≠ w.heap.size + 1 + 1 ∧ w4.heap.size + 1 ≠ w.heap.size ∧ w4.heap.size + 1 ≠ w.heap.size + 1 ∧ w4.heap.size + 1 ≠ w.heap.size + 1 + 1) := by show _ ∧ _; omega
          have hv : Hid ((1 : Int) + (i : Int) = (i : Int) + 1) := by show _ = _; omega
          have RET : Hid (∀ v : Int, X = (v, (i : Int) + 1) → ∀ w6 : World, Upd (· = w.heap.size + 1 + 1) w4 w6 → (w6.heap[w4.heap.size]? = W2.heap[w4.heap.size]? ∧ w6.heap[w4.heap.size + 1]? = W2.heap[w4.heap.size + 1]?) → w6.cell? ⟨w.heap.size, 0, none⟩ = some (.int .i64 0) → w6.cell? ⟨w.heap.size + 1, 0, none⟩ = some (.int .i64 0) → ∀ af, eachPost (ChkI w4 (w.heap.size + 1 + 1) L X)
    (fun cd i W => cd = .ret ∧ (W.cell? ⟨w.heap.size, 0, none⟩ = some (.int .i64 X.1) ∧ W.cell? ⟨w.heap.size + 1, 0, none⟩ = some (.int .i64 X.2)) ∧ Upd (fun k => w.heap.size ≤ k) w4 W) w4.heap.size i W2 Exit.ret af ((w6.setCell ⟨w.heap.size, 0, none⟩ (Value.int .i64 v)).setCell ⟨w.heap.size + 1, 0, none⟩ (Value.int .i64 (1 + (i : Int))))) := by
            intro v hX w6 u6 hz6 k0 k1 af
            refine ⟨⟨?_, ?_⟩, rfl, ⟨?_, ?_⟩, ?_⟩
            · rw [Below.heap_setCell _ _ _ _ HD.out.2.1, Below.heap_setCell _ _ _ _ HD.out.1]
              exact hz6.1
            · rw [Below.heap_setCell _ _ _ _ HD.out.2.2.2.2.1, Below.heap_setCell _ _ _ _ HD.out.2.2.2.1]
              exact hz6.2
            · rw [hX]
              exact setc_other (setc_eq k0) (by omega)
            · rw [hX, ← hv.out]
              exact setc_eq (setc_other k1 (by omega))
            · refine Upd.setCell (S := fun k => w.heap.size ≤ k) (Upd.setCell (S := fun k => w.heap.size ≤ k) (u6.mono (fun k _ h => ?_)) (.inl ?_) _) (.inl ?_) _
              · rw [h]; omega
              · exact Nat.le_refl _
              · show w.heap.size ≤ w.heap.size + 1; omega
          clear e2 e3 e4 hg2 u2 HA2 cc b5
          have hckz := fun h => ckE_zero (e := ⟨xc, xn, ⟨ok, os, ov⟩⟩) h
          have HCZ := hide hckz
          clear hckz
          generalize hx : ckE ⟨xc, xn, ⟨ok, os, ov⟩⟩ = x at *
          have HX := hide hx
          clear hx
          by_cases hx0 : x = 0
          · subst hx0
            obtain ⟨p0, p1, p2, _⟩ := HCZ.out rfl
            dsimp only at p0 p1 p2
            obtain ⟨cN, rfl⟩ : ∃ cN : Nat, xc = (cN : Int) := ⟨xc.toNat, by omega⟩
            have hc16 : cN < 16 := by omega
            have a0 := HA5.out.cell (gml_get (L.take i) hc16)
            have af := HA5.out.free cN
            have htw := tw_iff ⟨cN, xn, ⟨ok, os, ov⟩⟩ p2 (L.take i)
            dsimp only at htw
            have HTW := hide htw
            have HGS : Hid (gm (L.take i) (cN : Int) < xn → (gml (L.take i)).set cN (.int .i64 xn) = gml (L.take i ++ [⟨cN, xn, ⟨ok, os, ov⟩⟩])) := fun h => gml_set (e := ⟨cN, xn, ⟨ok, os, ov⟩⟩) rfl hc16 h
            clear htw HCZ p0 p1
            generalize gm (L.take i) (cN : Int) = G at *
            by_cases hle : xn ≤ G
            · have hX : Hid (X = (64, (i : Int) + 1)) := by
                show _ = _
                rw [hf2, HST.out, HER.out]
                simp [HTW.out, hle]
              gi_wp2
              refine region_round (by kernel_rfl) (by kernel_rfl) rfl ?_
              repeat (go_big_quiet_step (fail))
              refine wpQuiet_nil ?_
              intro _ hw'
              obtain ⟨nq, hw''⟩ := hw'
              subst hw''
              gi_wp2
              exact RET.out 64 hX.out (w5.drewN nq) (HU5.out.drewN nq) HZ0.out i0 i1 _
            · have hX : Hid (X = ckA (L.take (i + 1)) (L.drop (i + 1))) := by
                show _ = _
                rw [hf2, HST.out, HER.out]
                simp [HTW.out, hle]
              have hlt2 : G < xn := by omega
              gi_wp2
              refine region_round (by kernel_rfl) (by kernel_rfl) rfl ?_
              repeat (go_big_quiet_step (fail))
              refine wpQuiet_nil ?_
              intro _ hw'
              obtain ⟨nq, hw''⟩ := hw'
              subst hw''
              gi_wp2
              refine ⟨⟨?_, ?_⟩, ?_, ?_, hX.out⟩
              · rw [Below.heap_setCell _ _ _ _ HD.out.2.2.1]
                exact HZ0.out.1
              · rw [Below.heap_setCell _ _ _ _ HD.out.2.2.2.2.2]
                exact HZ0.out.2
              · exact Upd.setCell (S := (· = w.heap.size + 1 + 1)) (HU5.out.drewN nq) (.inl rfl) _
              · rw [HTK.out, ← HGS.out hlt2]
                exact Arr.set (HA5.out.later (belN (Below.refl _ _) nq)) cN _
          · have hX : Hid (X = (x, (i : Int) + 1)) := by
              show _ = _
              rw [hf2, HST.out, HER.out]
              simp [hx0]
            gi_wp2
            exact RET.out x hX.out w5 HU5.out HZ0.out i0 i1 _
        case done =>
          rintro W ⟨u, hA, hf⟩ hK
          have zl := HZ4.out
          rw [ckA_end] at hf
          have i0 := (u.cell (p := ⟨w.heap.size, 0, none⟩) (by show w.heap.size < _; omega) (by show w.heap.size ≠ _; omega)).trans d0
          have j0 := (u.frozen (p := ⟨w.heap.size, 0, none⟩) (by show w.heap.size < _; omega) (by show w.heap.size ≠ _; omega)).trans g0
          have i1 := (u.cell (p := ⟨w.heap.size + 1, 0, none⟩) (by show w.heap.size + 1 < _; omega) (by show w.heap.size + 1 ≠ _; omega)).trans d1
          have j1 := (u.frozen (p := ⟨w.heap.size + 1, 0, none⟩) (by show w.heap.size + 1 < _; omega) (by show w.heap.size + 1 ≠ _; omega)).trans g1
          clear hA
          gi_wp2
          have hK2 : ((W.setCell ⟨w.heap.size, 0, none⟩ (Value.int IntKind.i64 0)).setCell ⟨w.heap.size + 1, 0, none⟩ (Value.int IntKind.i64 0)).heap[w4.heap.size]? = some (.deferred (some [])) := by
            rw [Below.heap_setCell _ _ _ _ (by show w4.heap.size ≠ w.heap.size + 1; omega), Below.heap_setCell _ _ _ _ (by show w4.heap.size ≠ w.heap.size; omega)]
            exact hK
          refine ⟨by simp, .inl ⟨_, _, rfl, run_takeDeferred hK2, ?_⟩⟩
          have hc5 : (((W.setCell ⟨w.heap.size, 0, none⟩ (Value.int IntKind.i64 0)).setCell ⟨w.heap.size + 1, 0, none⟩ (Value.int IntKind.i64 0)).putObj w4.heap.size (.deferred none)).cell? ⟨w.heap.size, 0, none⟩ = some (.int .i64 0) := gcell (grownBy_putObj' _ _ _) (setc_other (setc_eq i0) (by omega)) (fun e => by injection e with e; omega)
          have hc6 : (((W.setCell ⟨w.heap.size, 0, none⟩ (Value.int IntKind.i64 0)).setCell ⟨w.heap.size + 1, 0, none⟩ (Value.int IntKind.i64 0)).putObj w4.heap.size (.deferred none)).cell? ⟨w.heap.size + 1, 0, none⟩ = some (.int .i64 0) := gcell (grownBy_putObj' _ _ _) (setc_eq (setc_other i1 (by omega))) (fun e => by injection e with e; omega)
          refine ⟨.tuple #[.int .i64 0, .int .i64 0], ?_, by rw [hf], ?_⟩
          · simp [results, Tryz.f114, go_sem, hc5, hc6]
          · exact ((((HB4.out.trans (u.below (by omega) (fun _ h => by omega))).setCell (by show w.heap.size ≤ w.heap.size; omega) _).setCell (by show w.heap.size ≤ w.heap.size + 1; omega) _).grown (grownBy_putObj' _ _ _) (by simp [World.setCell]; have := u.size; omega) (fun k e => by cases e; omega))
        case stop =>
          rintro cd i W hi ⟨rfl, ⟨hc0, hc1⟩, u⟩ hK
          have zl := HZ4.out
          gi_wp2
          refine ⟨by simp, .inl ⟨_, _, rfl, run_takeDeferred hK, ?_⟩⟩
          have hc5 : (W.putObj w4.heap.size (.deferred none)).cell? ⟨w.heap.size, 0, none⟩ = some (.int .i64 X.1) := gcell (grownBy_putObj' _ _ _) hc0 (fun e => by injection e with e; omega)
          have hc6 : (W.putObj w4.heap.size (.deferred none)).cell? ⟨w.heap.size + 1, 0, none⟩ = some (.int .i64 X.2) := gcell (grownBy_putObj' _ _ _) hc1 (fun e => by injection e with e; omega)
          refine ⟨_, ?_, rfl, ?_⟩
          · simp [results, Tryz.f114, go_sem, hc5, hc6]
          · exact ((HB4.out.trans (u.below (by omega) (fun _ h => h))).grown (grownBy_putObj' _ _ _) (by have := u.size; omega) (fun k e => by cases e; omega))
end Go.Proofs.YtibedokegignhaaGreatDoor
namespace Go.Proofs.YtibedokegignhaaGreatDoor
open Go.RowKit Go.Maps
open Classical
structure Cf where
  f : Int
  r : Int
  p : Int
  u : Bool
def Cf.val (c : Cf) : Value := .agg #[.int .i64 c.f, .int .i64 c.r, .int .i64 c.p, .bool c.u]
def inR (x a b : Int) : Bool := decide (a ≤ x) && decide (x ≤ b)
def cfB (c : Cf) : Bool := inR c.f 1 3 && inR c.r 1 256 && inR c.p 6 100
def rdB (c : Int) : Bool := decide (c = 4) || decide (c = 5) || decide (c = 6)
def apB (p c r : Int) : Bool := if c = 7 then decide (p = 0) else inR p 1 r
def kdB (k : Int) : Bool := inR k 1 14
def noV : ByteArray := ⟨#[]⟩
def resB (c s : Int) (v : ByteArray) : Bool := if c = 1 ∨ c = 2 ∨ c = 4 then inR s 0 1023 && decide (v.size ≤ 64) else if c = 5 then inR s 0 1023 && decide (v = noV) else if c = 6 then inR s 0 1024 && decide (v = noV) else if c = 3 ∨ c = 7 then decide (s = 0) && decide (v = noV) else false
theorem withinM_any (x a b : Int) (w : World) : Calls Tryz.prog 75 #[.int .i64 x, .int .i64 a, .int .i64 b] w fun e w' => e = .returned (.bool (inR x a b)) ∧ w' = w := by
  by_cases h1 : a ≤ x
  · by_cases h2 : x ≤ b
    · go_enter Tryz.func75, Tryz.ntmps75
      go_wp2
      go_ret
      exact ⟨by simp [inR, h1, h2], rfl⟩
    · go_enter Tryz.func75, Tryz.ntmps75
      go_wp2
      go_ret
      exact ⟨by simp [inR, h1, h2], rfl⟩
  · go_enter Tryz.func75, Tryz.ntmps75
    go_wp2
    go_ret
    exact ⟨by simp [inR, h1]; omega, rfl⟩
theorem isKind_any (k : Int) (w : World) : Calls Tryz.prog 30 #[.int .i64 k] w fun e w' => e = .returned (.bool (kdB k)) ∧ w' = w := by
  by_cases h1 : 1 ≤ k
  · by_cases h2 : k ≤ 14
    · go_enter Tryz.func30, Tryz.ntmps30
      go_wp2
      go_ret
      exact ⟨by simp [kdB, inR, h1, h2], rfl⟩
    · go_enter Tryz.func30, Tryz.ntmps30
      go_wp2
      go_ret
      exact ⟨by simp [kdB, inR, h1, h2], rfl⟩
  · go_enter Tryz.func30, Tryz.ntmps30
    go_wp2
    go_ret
    exact ⟨by simp [kdB, inR, h1]; omega, rfl⟩
theorem isReading_any (c : Int) (w : World) : Calls Tryz.prog 81 #[.int .i64 c] w fun e w' => e = .returned (.bool (rdB c)) ∧ w' = w := by
  by_cases h1 : c = 4
  · subst h1
    go_enter Tryz.func81, Tryz.ntmps81
    go_wp2
    go_ret
    exact ⟨rfl, rfl⟩
  · by_cases h2 : c = 5
    · subst h2
      go_enter Tryz.func81, Tryz.ntmps81
      go_wp2
      go_ret
      exact ⟨rfl, rfl⟩
    · by_cases h3 : c = 6
      · subst h3
        go_enter Tryz.func81, Tryz.ntmps81
        go_wp2
        go_ret
        exact ⟨rfl, rfl⟩
      · go_enter Tryz.func81, Tryz.ntmps81
        go_wp2
        go_ret
        exact ⟨by simp [rdB, h1, h2, h3], rfl⟩
theorem answerPlace_any (p c r : Int) (w : World) : Calls Tryz.prog 77 #[.int .i64 p, .int .i64 c, .int .i64 r] w fun e w' => e = .returned (.bool (apB p c r)) ∧ w' = w := by
  by_cases h1 : c = 7
  · subst h1
    by_cases h2 : p = 0
    · subst h2
      go_enter Tryz.func77, Tryz.ntmps77
      go_wp2
      go_ret
      exact ⟨rfl, rfl⟩
    · go_enter Tryz.func77, Tryz.ntmps77
      go_wp2
      go_ret
      exact ⟨by simp [apB, h2], rfl⟩
  · have H := hide (withinM_any p 1 r w)
    go_enter Tryz.func77, Tryz.ntmps77
    go_wp2_with fail
    refine H.out.mono ?_
    rintro e w1 ⟨rfl, rfl⟩
    go_wp2
    go_ret
    exact ⟨by simp [apB, h1], rfl⟩
set_option maxHeartbeats 1000000 in
theorem configMayBe_any (c : Cf) (w : World) : Calls Tryz.prog 29 #[c.val] w fun e w' => e = .returned (.bool (cfB c)) ∧ Below w.heap.size w w' := by
  obtain ⟨f, r, p, u⟩ := c
  have H1 := hide (fun W => withinM_any f 1 3 W)
  have H2 := hide (fun W => withinM_any r 1 256 W)
  have H3 := hide (fun W => withinM_any p 6 100 W)
  have V : Hid (cfB ⟨f, r, p, u⟩ = (inR f 1 3 && inR r 1 256 && inR p 6 100)) := rfl
  unfold Cf.val
  dsimp only
  have hB : Below w.heap.size w (w.alloc (.cells #[.int .i64 f, .int .i64 r, .int .i64 p, .bool u] 23)) := (Below.refl _ _).alloc (Nat.le_refl _) _
  have HB := hide hB
  clear hB
  generalize inR f 1 3 = x1 at *
  generalize inR r 1 256 = x2 at *
  generalize inR p 6 100 = x3 at *
  cases x1 with
  | false =>
    go_enter Tryz.func29, Tryz.ntmps29
    go_wp2_with fail
    refine (H1.out _).mono ?_
    rintro e w1 ⟨rfl, rfl⟩
    go_wp2
    go_ret
    exact ⟨by rw [V.out]; rfl, HB.out⟩
  | true =>
    cases x2 with
    | false =>
      go_enter Tryz.func29, Tryz.ntmps29
      go_wp2_with fail
      refine (H1.out _).mono ?_
      rintro e w1 ⟨rfl, rfl⟩
      go_wp2_with fail
      refine (H2.out _).mono ?_
      rintro e w1 ⟨rfl, rfl⟩
      go_wp2
      go_ret
      exact ⟨by rw [V.out]; rfl, HB.out⟩
    | true =>
      go_enter Tryz.func29, Tryz.ntmps29
      go_wp2_with fail
      refine (H1.out _).mono ?_
      rintro e w1 ⟨rfl, rfl⟩
      go_wp2_with fail
      refine (H2.out _).mono ?_
      rintro e w1 ⟨rfl, rfl⟩
      go_wp2_with fail
      refine (H3.out _).mono ?_
      rintro e w1 ⟨rfl, rfl⟩
      go_wp2
      go_ret
      exact ⟨by rw [V.out]; simp, HB.out⟩
theorem logMayBe_any (L : List En) (a : Option Addr) (n c : Nat) (room : Int) (w : World) (h : SlY yE w a n c L) (hf : ∀ e ∈ L, e.fits) :
    Calls Tryz.prog 78 #[.slice a n c, .int .i64 room] w fun e w' => e = .returned (.bool (decide ((chk L room).1 = 0))) ∧ Below w.heap.size w w' := by
  have H := hide (checkO_any L a n c room w h hf)
  clear h
  go_enter Tryz.func78, Tryz.ntmps78
  go_wp2_with fail
  refine H.out.mono ?_
  rintro e w1 ⟨rfl, b1⟩
  by_cases hx : (chk L room).1 = 0
  · have V := hide (decide_eq_true hx)
    go_wp2
    go_ret
    exact ⟨by rw [V.out]; rfl, b1⟩
  · have V := hide (decide_eq_false hx)
    have hq : ((chk L room).1 == 0) = false := by simp [hx]
    go_wp2
    go_ret
    exact ⟨by rw [V.out]; rfl, b1⟩
set_option maxHeartbeats 1000000 in
theorem refConfig7 (c : Cf) (w : World) : Calls Tryz.prog 34 #[c.val] w fun e w' => e = .returned (.bool (cfB c)) ∧ Below w.heap.size w w' := by
  obtain ⟨f, r, p, u⟩ := c
  have V : Hid (cfB ⟨f, r, p, u⟩ = decide (1 ≤ f ∧ f ≤ 3 ∧ 1 ≤ r ∧ r ≤ 256 ∧ 6 ≤ p ∧ p ≤ 100)) := by
    show _ = _
    rw [Bool.eq_iff_iff]
    simp [cfB, inR, and_assoc]
  unfold Cf.val
  dsimp only
  have HB : Hid (Below w.heap.size w (w.alloc (.cells #[.int .i64 f, .int .i64 r, .int .i64 p, .bool u] 23))) := (Below.refl _ _).alloc (Nat.le_refl _) _
  generalize cfB ⟨f, r, p, u⟩ = b at *
  by_cases h0 : 1 ≤ f
  rotate_left
  · have hk : Hid (b = false) := by show _ = _; rw [V.out, decide_eq_false_iff_not]; omega
    go_enter Tryz.func34, Tryz.ntmps34
    go_wp2
    go_ret
    exact ⟨by rw [hk.out]; first | rfl | (simp; omega), HB.out⟩
  by_cases h1 : f ≤ 3
  rotate_left
  · have hk : Hid (b = false) := by show _ = _; rw [V.out, decide_eq_false_iff_not]; omega
    go_enter Tryz.func34, Tryz.ntmps34
    go_wp2
    go_ret
    exact ⟨by rw [hk.out]; first | rfl | (simp; omega), HB.out⟩
  by_cases h2 : 1 ≤ r
  rotate_left
  · have hk : Hid (b = false) := by show _ = _; rw [V.out, decide_eq_false_iff_not]; omega
    go_enter Tryz.func34, Tryz.ntmps34
    go_wp2
    go_ret
    exact ⟨by rw [hk.out]; first | rfl | (simp; omega), HB.out⟩
  by_cases h3 : r ≤ 256
  rotate_left
  · have hk : Hid (b = false) := by show _ = _; rw [V.out, decide_eq_false_iff_not]; omega
    go_enter Tryz.func34, Tryz.ntmps34
    go_wp2
    go_ret
    exact ⟨by rw [hk.out]; first | rfl | (simp; omega), HB.out⟩
  by_cases h4 : 6 ≤ p
  rotate_left
  · have hk : Hid (b = false) := by show _ = _; rw [V.out, decide_eq_false_iff_not]; omega
    go_enter Tryz.func34, Tryz.ntmps34
    go_wp2
    go_ret
    exact ⟨by rw [hk.out]; first | rfl | (simp; omega), HB.out⟩
  by_cases h5 : p ≤ 100
  rotate_left
  · have hk : Hid (b = false) := by show _ = _; rw [V.out, decide_eq_false_iff_not]; omega
    go_enter Tryz.func34, Tryz.ntmps34
    go_wp2
    go_ret
    exact ⟨by rw [hk.out]; first | rfl | (simp; omega), HB.out⟩
  have hk : Hid (b = true) := by show _ = _; rw [V.out, decide_eq_true_iff]; omega
  go_enter Tryz.func34, Tryz.ntmps34
  go_wp2
  go_ret
  exact ⟨by rw [hk.out]; first | rfl | (simp; omega), HB.out⟩
set_option maxHeartbeats 1000000 in
theorem refresult_1 (s : Int) (v : ByteArray) (w : World) : Calls Tryz.prog 85 #[.agg #[.int .i64 1, .int .i64 s, .string v]] w fun e w' => e = .returned (.bool (resB 1 s v)) ∧ Below w.heap.size w w' := by
  have HB : Hid (Below w.heap.size w (w.alloc (.cells #[.int .i64 1, .int .i64 s, .string v] 30))) := (Below.refl _ _).alloc (Nat.le_refl _) _
  have V : Hid (resB 1 s v = (inR s 0 1023 && decide (v.size ≤ 64))) := by simp [Hid, resB]
  by_cases h0 : 0 ≤ s
  · by_cases h1 : s < 1024
    · by_cases hv : (v.size : Int) ≤ 64
      · have V2 : Hid (resB 1 s v = decide (0 ≤ s ∧ s ≤ 1023 ∧ True)) := V.out.trans (by rw [Bool.eq_iff_iff]; simp [inR] <;> omega)
        clear V
        go_enter Tryz.func85, Tryz.ntmps85
        go_wp2
        go_ret
        exact ⟨by rw [V2.out]; first | rfl | (simp; done) | (simp; omega), HB.out⟩
      · have V2 : Hid (resB 1 s v = decide (0 ≤ s ∧ s ≤ 1023 ∧ False)) := V.out.trans (by rw [Bool.eq_iff_iff]; simp [inR] <;> omega)
        clear V
        go_enter Tryz.func85, Tryz.ntmps85
        go_wp2
        go_ret
        exact ⟨by rw [V2.out]; first | rfl | (simp; done) | (simp; omega), HB.out⟩
    · by_cases hv : (v.size : Int) ≤ 64
      · have V2 : Hid (resB 1 s v = decide (0 ≤ s ∧ s ≤ 1023 ∧ True)) := V.out.trans (by rw [Bool.eq_iff_iff]; simp [inR] <;> omega)
        clear V
        go_enter Tryz.func85, Tryz.ntmps85
        go_wp2
        go_ret
        exact ⟨by rw [V2.out]; first | rfl | (simp; done) | (simp; omega), HB.out⟩
      · have V2 : Hid (resB 1 s v = decide (0 ≤ s ∧ s ≤ 1023 ∧ False)) := V.out.trans (by rw [Bool.eq_iff_iff]; simp [inR] <;> omega)
        clear V
        go_enter Tryz.func85, Tryz.ntmps85
        go_wp2
        go_ret
        exact ⟨by rw [V2.out]; first | rfl | (simp; done) | (simp; omega), HB.out⟩
  · by_cases hv : (v.size : Int) ≤ 64
    · have V2 : Hid (resB 1 s v = decide (0 ≤ s ∧ s ≤ 1023 ∧ True)) := V.out.trans (by rw [Bool.eq_iff_iff]; simp [inR] <;> omega)
      clear V
      go_enter Tryz.func85, Tryz.ntmps85
      go_wp2
      go_ret
      exact ⟨by rw [V2.out]; first | rfl | (simp; done) | (simp; omega), HB.out⟩
    · have V2 : Hid (resB 1 s v = decide (0 ≤ s ∧ s ≤ 1023 ∧ False)) := V.out.trans (by rw [Bool.eq_iff_iff]; simp [inR] <;> omega)
      clear V
      go_enter Tryz.func85, Tryz.ntmps85
      go_wp2
      go_ret
      exact ⟨by rw [V2.out]; first | rfl | (simp; done) | (simp; omega), HB.out⟩
set_option maxHeartbeats 1000000 in
theorem refresult_2 (s : Int) (v : ByteArray) (w : World) : Calls Tryz.prog 85 #[.agg #[.int .i64 2, .int .i64 s, .string v]] w fun e w' => e = .returned (.bool (resB 2 s v)) ∧ Below w.heap.size w w' := by
  have HB : Hid (Below w.heap.size w (w.alloc (.cells #[.int .i64 2, .int .i64 s, .string v] 30))) := (Below.refl _ _).alloc (Nat.le_refl _) _
  have V : Hid (resB 2 s v = (inR s 0 1023 && decide (v.size ≤ 64))) := by simp [Hid, resB]
  by_cases h0 : 0 ≤ s
  · by_cases h1 : s < 1024
    · by_cases hv : (v.size : Int) ≤ 64
      · have V2 : Hid (resB 2 s v = decide (0 ≤ s ∧ s ≤ 1023 ∧ True)) := V.out.trans (by rw [Bool.eq_iff_iff]; simp [inR] <;> omega)
        clear V
        go_enter Tryz.func85, Tryz.ntmps85
        go_wp2
        go_ret
        exact ⟨by rw [V2.out]; first | rfl | (simp; done) | (simp; omega), HB.out⟩
      · have V2 : Hid (resB 2 s v = decide (0 ≤ s ∧ s ≤ 1023 ∧ False)) := V.out.trans (by rw [Bool.eq_iff_iff]; simp [inR] <;> omega)
        clear V
        go_enter Tryz.func85, Tryz.ntmps85
        go_wp2
        go_ret
        exact ⟨by rw [V2.out]; first | rfl | (simp; done) | (simp; omega), HB.out⟩
    · by_cases hv : (v.size : Int) ≤ 64
      · have V2 : Hid (resB 2 s v = decide (0 ≤ s ∧ s ≤ 1023 ∧ True)) := V.out.trans (by rw [Bool.eq_iff_iff]; simp [inR] <;> omega)
        clear V
        go_enter Tryz.func85, Tryz.ntmps85
        go_wp2
        go_ret
        exact ⟨by rw [V2.out]; first | rfl | (simp; done) | (simp; omega), HB.out⟩
      · have V2 : Hid (resB 2 s v = decide (0 ≤ s ∧ s ≤ 1023 ∧ False)) := V.out.trans (by rw [Bool.eq_iff_iff]; simp [inR] <;> omega)
        clear V
        go_enter Tryz.func85, Tryz.ntmps85
        go_wp2
        go_ret
        exact ⟨by rw [V2.out]; first | rfl | (simp; done) | (simp; omega), HB.out⟩
  · by_cases hv : (v.size : Int) ≤ 64
    · have V2 : Hid (resB 2 s v = decide (0 ≤ s ∧ s ≤ 1023 ∧ True)) := V.out.trans (by rw [Bool.eq_iff_iff]; simp [inR] <;> omega)
      clear V
      go_enter Tryz.func85, Tryz.ntmps85
      go_wp2
      go_ret
      exact ⟨by rw [V2.out]; first | rfl | (simp; done) | (simp; omega), HB.out⟩
    · have V2 : Hid (resB 2 s v = decide (0 ≤ s ∧ s ≤ 1023 ∧ False)) := V.out.trans (by rw [Bool.eq_iff_iff]; simp [inR] <;> omega)
      clear V
      go_enter Tryz.func85, Tryz.ntmps85
      go_wp2
      go_ret
      exact ⟨by rw [V2.out]; first | rfl | (simp; done) | (simp; omega), HB.out⟩
set_option maxHeartbeats 1000000 in
theorem refresult_4 (s : Int) (v : ByteArray) (w : World) : Calls Tryz.prog 85 #[.agg #[.int .i64 4, .int .i64 s, .string v]] w fun e w' => e = .returned (.bool (resB 4 s v)) ∧ Below w.heap.size w w' := by
  have HB : Hid (Below w.heap.size w (w.alloc (.cells #[.int .i64 4, .int .i64 s, .string v] 30))) := (Below.refl _ _).alloc (Nat.le_refl _) _
  have V : Hid (resB 4 s v = (inR s 0 1023 && decide (v.size ≤ 64))) := by simp [Hid, resB]
  by_cases h0 : 0 ≤ s
  · by_cases h1 : s < 1024
    · by_cases hv : (v.size : Int) ≤ 64
      · have V2 : Hid (resB 4 s v = decide (0 ≤ s ∧ s ≤ 1023 ∧ True)) := V.out.trans (by rw [Bool.eq_iff_iff]; simp [inR] <;> omega)
        clear V
        go_enter Tryz.func85, Tryz.ntmps85
        go_wp2
        go_ret
        exact ⟨by rw [V2.out]; first | rfl | (simp; done) | (simp; omega), HB.out⟩
      · have V2 : Hid (resB 4 s v = decide (0 ≤ s ∧ s ≤ 1023 ∧ False)) := V.out.trans (by rw [Bool.eq_iff_iff]; simp [inR] <;> omega)
        clear V
        go_enter Tryz.func85, Tryz.ntmps85
        go_wp2
        go_ret
        exact ⟨by rw [V2.out]; first | rfl | (simp; done) | (simp; omega), HB.out⟩
    · by_cases hv : (v.size : Int) ≤ 64
      · have V2 : Hid (resB 4 s v = decide (0 ≤ s ∧ s ≤ 1023 ∧ True)) := V.out.trans (by rw [Bool.eq_iff_iff]; simp [inR] <;> omega)
        clear V
        go_enter Tryz.func85, Tryz.ntmps85
        go_wp2
        go_ret
        exact ⟨by rw [V2.out]; first | rfl | (simp; done) | (simp; omega), HB.out⟩
      · have V2 : Hid (resB 4 s v = decide (0 ≤ s ∧ s ≤ 1023 ∧ False)) := V.out.trans (by rw [Bool.eq_iff_iff]; simp [inR] <;> omega)
        clear V
        go_enter Tryz.func85, Tryz.ntmps85
        go_wp2
        go_ret
        exact ⟨by rw [V2.out]; first | rfl | (simp; done) | (simp; omega), HB.out⟩
  · by_cases hv : (v.size : Int) ≤ 64
    · have V2 : Hid (resB 4 s v = decide (0 ≤ s ∧ s ≤ 1023 ∧ True)) := V.out.trans (by rw [Bool.eq_iff_iff]; simp [inR] <;> omega)
      clear V
      go_enter Tryz.func85, Tryz.ntmps85
      go_wp2
      go_ret
      exact ⟨by rw [V2.out]; first | rfl | (simp; done) | (simp; omega), HB.out⟩
    · have V2 : Hid (resB 4 s v = decide (0 ≤ s ∧ s ≤ 1023 ∧ False)) := V.out.trans (by rw [Bool.eq_iff_iff]; simp [inR] <;> omega)
      clear V
      go_enter Tryz.func85, Tryz.ntmps85
      go_wp2
      go_ret
      exact ⟨by rw [V2.out]; first | rfl | (simp; done) | (simp; omega), HB.out⟩
set_option maxHeartbeats 1000000 in
theorem refresult_5 (s : Int) (v : ByteArray) (w : World) : Calls Tryz.prog 85 #[.agg #[.int .i64 5, .int .i64 s, .string v]] w fun e w' => e = .returned (.bool (resB 5 s v)) ∧ Below w.heap.size w w' := by
  have HB : Hid (Below w.heap.size w (w.alloc (.cells #[.int .i64 5, .int .i64 s, .string v] 30))) := (Below.refl _ _).alloc (Nat.le_refl _) _
  have V : Hid (resB 5 s v = (inR s 0 1023 && decide (v = noV))) := by simp [Hid, resB]
  by_cases h0 : 0 ≤ s
  · by_cases h1 : s < 1024
    · by_cases hv : v = noV
      · have V2 : Hid (resB 5 s v = decide (0 ≤ s ∧ s ≤ 1023 ∧ True)) := V.out.trans (by rw [Bool.eq_iff_iff]; simp [inR, hv] <;> omega)
        clear V
        unfold noV at hv
        subst hv
        go_enter Tryz.func85, Tryz.ntmps85
        go_wp2
        go_ret
        exact ⟨by rw [V2.out]; first | rfl | (simp; done) | (simp; omega), HB.out⟩
      · have V2 : Hid (resB 5 s v = decide (0 ≤ s ∧ s ≤ 1023 ∧ False)) := V.out.trans (by rw [Bool.eq_iff_iff]; simp [inR, hv] <;> omega)
        clear V
        have g2 : ¬ v.toList = (⟨#[]⟩ : ByteArray).toList := fun e => hv ((bytes_inj _ _).1 e)
        have g3 : v.toList.isEmpty = false := by
          rw [Bool.eq_false_iff]
          intro h
          exact g2 (by rw [List.isEmpty_iff.1 h, ByteArray.toList_eq])
        go_enter Tryz.func85, Tryz.ntmps85
        go_wp2
        go_ret
        exact ⟨by rw [V2.out]; first | rfl | (simp; done) | (simp; omega), HB.out⟩
    · by_cases hv : v = noV
      · have V2 : Hid (resB 5 s v = decide (0 ≤ s ∧ s ≤ 1023 ∧ True)) := V.out.trans (by rw [Bool.eq_iff_iff]; simp [inR, hv] <;> omega)
        clear V
        unfold noV at hv
        subst hv
        go_enter Tryz.func85, Tryz.ntmps85
        go_wp2
        go_ret
        exact ⟨by rw [V2.out]; first | rfl | (simp; done) | (simp; omega), HB.out⟩
      · have V2 : Hid (resB 5 s v = decide (0 ≤ s ∧ s ≤ 1023 ∧ False)) := V.out.trans (by rw [Bool.eq_iff_iff]; simp [inR, hv] <;> omega)
        clear V
        have g2 : ¬ v.toList = (⟨#[]⟩ : ByteArray).toList := fun e => hv ((bytes_inj _ _).1 e)
        have g3 : v.toList.isEmpty = false := by
          rw [Bool.eq_false_iff]
          intro h
          exact g2 (by rw [List.isEmpty_iff.1 h, ByteArray.toList_eq])
        go_enter Tryz.func85, Tryz.ntmps85
        go_wp2
        go_ret
        exact ⟨by rw [V2.out]; first | rfl | (simp; done) | (simp; omega), HB.out⟩
  · by_cases hv : v = noV
    · have V2 : Hid (resB 5 s v = decide (0 ≤ s ∧ s ≤ 1023 ∧ True)) := V.out.trans (by rw [Bool.eq_iff_iff]; simp [inR, hv] <;> omega)
      clear V
      unfold noV at hv
      subst hv
      go_enter Tryz.func85, Tryz.ntmps85
      go_wp2
      go_ret
      exact ⟨by rw [V2.out]; first | rfl | (simp; done) | (simp; omega), HB.out⟩
    · have V2 : Hid (resB 5 s v = decide (0 ≤ s ∧ s ≤ 1023 ∧ False)) := V.out.trans (by rw [Bool.eq_iff_iff]; simp [inR, hv] <;> omega)
      clear V
      have g2 : ¬ v.toList = (⟨#[]⟩ : ByteArray).toList := fun e => hv ((bytes_inj _ _).1 e)
      have g3 : v.toList.isEmpty = false := by
        rw [Bool.eq_false_iff]
        intro h
        exact g2 (by rw [List.isEmpty_iff.1 h, ByteArray.toList_eq])
      go_enter Tryz.func85, Tryz.ntmps85
      go_wp2
      go_ret
      exact ⟨by rw [V2.out]; first | rfl | (simp; done) | (simp; omega), HB.out⟩
set_option maxHeartbeats 1000000 in
theorem refresult_6 (s : Int) (v : ByteArray) (w : World) : Calls Tryz.prog 85 #[.agg #[.int .i64 6, .int .i64 s, .string v]] w fun e w' => e = .returned (.bool (resB 6 s v)) ∧ Below w.heap.size w w' := by
  have HB : Hid (Below w.heap.size w (w.alloc (.cells #[.int .i64 6, .int .i64 s, .string v] 30))) := (Below.refl _ _).alloc (Nat.le_refl _) _
  have V : Hid (resB 6 s v = (inR s 0 1024 && decide (v = noV))) := by simp [Hid, resB]
  by_cases h0 : 0 ≤ s
  · by_cases h1 : s < 1024
    · by_cases hv : v = noV
      · have V2 : Hid (resB 6 s v = decide (0 ≤ s ∧ s ≤ 1024 ∧ True)) := V.out.trans (by rw [Bool.eq_iff_iff]; simp [inR, hv] <;> omega)
        clear V
        unfold noV at hv
        subst hv
        have h4 : s ≤ 1024 := by omega
        go_enter Tryz.func85, Tryz.ntmps85
        go_wp2
        go_ret
        exact ⟨by rw [V2.out]; first | rfl | (simp; done) | (simp; omega), HB.out⟩
      · have V2 : Hid (resB 6 s v = decide (0 ≤ s ∧ s ≤ 1024 ∧ False)) := V.out.trans (by rw [Bool.eq_iff_iff]; simp [inR, hv] <;> omega)
        clear V
        have g2 : ¬ v.toList = (⟨#[]⟩ : ByteArray).toList := fun e => hv ((bytes_inj _ _).1 e)
        have g3 : v.toList.isEmpty = false := by
          rw [Bool.eq_false_iff]
          intro h
          exact g2 (by rw [List.isEmpty_iff.1 h, ByteArray.toList_eq])
        have h4 : s ≤ 1024 := by omega
        go_enter Tryz.func85, Tryz.ntmps85
        go_wp2
        go_ret
        exact ⟨by rw [V2.out]; first | rfl | (simp; done) | (simp; omega), HB.out⟩
    · by_cases hv : v = noV
      · have V2 : Hid (resB 6 s v = decide (0 ≤ s ∧ s ≤ 1024 ∧ True)) := V.out.trans (by rw [Bool.eq_iff_iff]; simp [inR, hv] <;> omega)
        clear V
        unfold noV at hv
        subst hv
        by_cases h4 : s ≤ 1024
        · go_enter Tryz.func85, Tryz.ntmps85
          go_wp2
          go_ret
          exact ⟨by rw [V2.out]; first | rfl | (simp; done) | (simp; omega), HB.out⟩
        · go_enter Tryz.func85, Tryz.ntmps85
          go_wp2
          go_ret
          exact ⟨by rw [V2.out]; first | rfl | (simp; done) | (simp; omega), HB.out⟩
      · have V2 : Hid (resB 6 s v = decide (0 ≤ s ∧ s ≤ 1024 ∧ False)) := V.out.trans (by rw [Bool.eq_iff_iff]; simp [inR, hv] <;> omega)
        clear V
        have g2 : ¬ v.toList = (⟨#[]⟩ : ByteArray).toList := fun e => hv ((bytes_inj _ _).1 e)
        have g3 : v.toList.isEmpty = false := by
          rw [Bool.eq_false_iff]
          intro h
          exact g2 (by rw [List.isEmpty_iff.1 h, ByteArray.toList_eq])
        by_cases h4 : s ≤ 1024
        · go_enter Tryz.func85, Tryz.ntmps85
          go_wp2
          go_ret
          exact ⟨by rw [V2.out]; first | rfl | (simp; done) | (simp; omega), HB.out⟩
        · go_enter Tryz.func85, Tryz.ntmps85
          go_wp2
          go_ret
          exact ⟨by rw [V2.out]; first | rfl | (simp; done) | (simp; omega), HB.out⟩
  · by_cases hv : v = noV
    · have V2 : Hid (resB 6 s v = decide (0 ≤ s ∧ s ≤ 1024 ∧ True)) := V.out.trans (by rw [Bool.eq_iff_iff]; simp [inR, hv] <;> omega)
      clear V
      unfold noV at hv
      subst hv
      go_enter Tryz.func85, Tryz.ntmps85
      go_wp2
      go_ret
      exact ⟨by rw [V2.out]; first | rfl | (simp; done) | (simp; omega), HB.out⟩
    · have V2 : Hid (resB 6 s v = decide (0 ≤ s ∧ s ≤ 1024 ∧ False)) := V.out.trans (by rw [Bool.eq_iff_iff]; simp [inR, hv] <;> omega)
      clear V
      have g2 : ¬ v.toList = (⟨#[]⟩ : ByteArray).toList := fun e => hv ((bytes_inj _ _).1 e)
      have g3 : v.toList.isEmpty = false := by
        rw [Bool.eq_false_iff]
        intro h
        exact g2 (by rw [List.isEmpty_iff.1 h, ByteArray.toList_eq])
      go_enter Tryz.func85, Tryz.ntmps85
      go_wp2
      go_ret
      exact ⟨by rw [V2.out]; first | rfl | (simp; done) | (simp; omega), HB.out⟩
set_option maxHeartbeats 1000000 in
theorem refresult_3 (s : Int) (v : ByteArray) (w : World) : Calls Tryz.prog 85 #[.agg #[.int .i64 3, .int .i64 s, .string v]] w fun e w' => e = .returned (.bool (resB 3 s v)) ∧ Below w.heap.size w w' := by
  have HB : Hid (Below w.heap.size w (w.alloc (.cells #[.int .i64 3, .int .i64 s, .string v] 30))) := (Below.refl _ _).alloc (Nat.le_refl _) _
  have V : Hid (resB 3 s v = (decide (s = 0) && decide (v = noV))) := by simp [Hid, resB]
  by_cases h0 : 0 ≤ s
  · by_cases h1 : s < 1024
    · by_cases hv : v = noV
      · by_cases hs : s = 0
        · have V2 : Hid (resB 3 s v = true) := V.out.trans (by simp [hv, hs])
          clear V
          unfold noV at hv
          subst hv
          subst hs
          go_enter Tryz.func85, Tryz.ntmps85
          go_wp2
          go_ret
          exact ⟨by rw [V2.out]; first | rfl | (simp; done) | (simp; omega), HB.out⟩
        · have V2 : Hid (resB 3 s v = false) := V.out.trans (by simp [hs])
          have n0 : (s == 0) = false := by simp [hs]
          clear V
          unfold noV at hv
          subst hv
          go_enter Tryz.func85, Tryz.ntmps85
          go_wp2
          go_ret
          exact ⟨by rw [V2.out]; first | rfl | (simp; done) | (simp; omega), HB.out⟩
      · by_cases hs : s = 0
        · have V2 : Hid (resB 3 s v = false) := V.out.trans (by simp [hv, hs])
          clear V
          have g2 : ¬ v.toList = (⟨#[]⟩ : ByteArray).toList := fun e => hv ((bytes_inj _ _).1 e)
          have g3 : v.toList.isEmpty = false := by
            rw [Bool.eq_false_iff]
            intro h
            exact g2 (by rw [List.isEmpty_iff.1 h, ByteArray.toList_eq])
          subst hs
          go_enter Tryz.func85, Tryz.ntmps85
          go_wp2
          go_ret
          exact ⟨by rw [V2.out]; first | rfl | (simp; done) | (simp; omega), HB.out⟩
        · have V2 : Hid (resB 3 s v = false) := V.out.trans (by simp [hs])
          have n0 : (s == 0) = false := by simp [hs]
          clear V
          have g2 : ¬ v.toList = (⟨#[]⟩ : ByteArray).toList := fun e => hv ((bytes_inj _ _).1 e)
          have g3 : v.toList.isEmpty = false := by
            rw [Bool.eq_false_iff]
            intro h
            exact g2 (by rw [List.isEmpty_iff.1 h, ByteArray.toList_eq])
          go_enter Tryz.func85, Tryz.ntmps85
          go_wp2
          go_ret
          exact ⟨by rw [V2.out]; first | rfl | (simp; done) | (simp; omega), HB.out⟩
    · by_cases hv : v = noV
      · have hs : ¬ s = 0 := by omega
        have V2 : Hid (resB 3 s v = false) := V.out.trans (by simp [hs])
        have n0 : (s == 0) = false := by simp [hs]
        clear V
        unfold noV at hv
        subst hv
        go_enter Tryz.func85, Tryz.ntmps85
        go_wp2
        go_ret
        exact ⟨by rw [V2.out]; first | rfl | (simp; done) | (simp; omega), HB.out⟩
      · have hs : ¬ s = 0 := by omega
        have V2 : Hid (resB 3 s v = false) := V.out.trans (by simp [hs])
        have n0 : (s == 0) = false := by simp [hs]
        clear V
        have g2 : ¬ v.toList = (⟨#[]⟩ : ByteArray).toList := fun e => hv ((bytes_inj _ _).1 e)
        have g3 : v.toList.isEmpty = false := by
          rw [Bool.eq_false_iff]
          intro h
          exact g2 (by rw [List.isEmpty_iff.1 h, ByteArray.toList_eq])
        go_enter Tryz.func85, Tryz.ntmps85
        go_wp2
        go_ret
        exact ⟨by rw [V2.out]; first | rfl | (simp; done) | (simp; omega), HB.out⟩
  · by_cases hv : v = noV
    · have hs : ¬ s = 0 := by omega
      have V2 : Hid (resB 3 s v = false) := V.out.trans (by simp [hs])
      have n0 : (s == 0) = false := by simp [hs]
      clear V
      unfold noV at hv
      subst hv
      go_enter Tryz.func85, Tryz.ntmps85
      go_wp2
      go_ret
      exact ⟨by rw [V2.out]; first | rfl | (simp; done) | (simp; omega), HB.out⟩
    · have hs : ¬ s = 0 := by omega
      have V2 : Hid (resB 3 s v = false) := V.out.trans (by simp [hs])
      have n0 : (s == 0) = false := by simp [hs]
      clear V
      have g2 : ¬ v.toList = (⟨#[]⟩ : ByteArray).toList := fun e => hv ((bytes_inj _ _).1 e)
      have g3 : v.toList.isEmpty = false := by
        rw [Bool.eq_false_iff]
        intro h
        exact g2 (by rw [List.isEmpty_iff.1 h, ByteArray.toList_eq])
      go_enter Tryz.func85, Tryz.ntmps85
      go_wp2
      go_ret
      exact ⟨by rw [V2.out]; first | rfl | (simp; done) | (simp; omega), HB.out⟩
set_option maxHeartbeats 1000000 in
theorem refresult_7 (s : Int) (v : ByteArray) (w : World) : Calls Tryz.prog 85 #[.agg #[.int .i64 7, .int .i64 s, .string v]] w fun e w' => e = .returned (.bool (resB 7 s v)) ∧ Below w.heap.size w w' := by
  have HB : Hid (Below w.heap.size w (w.alloc (.cells #[.int .i64 7, .int .i64 s, .string v] 30))) := (Below.refl _ _).alloc (Nat.le_refl _) _
  have V : Hid (resB 7 s v = (decide (s = 0) && decide (v = noV))) := by simp [Hid, resB]
  by_cases h0 : 0 ≤ s
  · by_cases h1 : s < 1024
    · by_cases hv : v = noV
      · by_cases hs : s = 0
        · have V2 : Hid (resB 7 s v = true) := V.out.trans (by simp [hv, hs])
          clear V
          unfold noV at hv
          subst hv
          subst hs
          go_enter Tryz.func85, Tryz.ntmps85
          go_wp2
          go_ret
          exact ⟨by rw [V2.out]; first | rfl | (simp; done) | (simp; omega), HB.out⟩
        · have V2 : Hid (resB 7 s v = false) := V.out.trans (by simp [hs])
          have n0 : (s == 0) = false := by simp [hs]
          clear V
          unfold noV at hv
          subst hv
          go_enter Tryz.func85, Tryz.ntmps85
          go_wp2
          go_ret
          exact ⟨by rw [V2.out]; first | rfl | (simp; done) | (simp; omega), HB.out⟩
      · by_cases hs : s = 0
        · have V2 : Hid (resB 7 s v = false) := V.out.trans (by simp [hv, hs])
          clear V
          have g2 : ¬ v.toList = (⟨#[]⟩ : ByteArray).toList := fun e => hv ((bytes_inj _ _).1 e)
          have g3 : v.toList.isEmpty = false := by
            rw [Bool.eq_false_iff]
            intro h
            exact g2 (by rw [List.isEmpty_iff.1 h, ByteArray.toList_eq])
          subst hs
          go_enter Tryz.func85, Tryz.ntmps85
          go_wp2
          go_ret
          exact ⟨by rw [V2.out]; first | rfl | (simp; done) | (simp; omega), HB.out⟩
        · have V2 : Hid (resB 7 s v = false) := V.out.trans (by simp [hs])
          have n0 : (s == 0) = false := by simp [hs]
          clear V
          have g2 : ¬ v.toList = (⟨#[]⟩ : ByteArray).toList := fun e => hv ((bytes_inj _ _).1 e)
          have g3 : v.toList.isEmpty = false := by
            rw [Bool.eq_false_iff]
            intro h
            exact g2 (by rw [List.isEmpty_iff.1 h, ByteArray.toList_eq])
          go_enter Tryz.func85, Tryz.ntmps85
          go_wp2
          go_ret
          exact ⟨by rw [V2.out]; first | rfl | (simp; done) | (simp; omega), HB.out⟩
    · by_cases hv : v = noV
      · have hs : ¬ s = 0 := by omega
        have V2 : Hid (resB 7 s v = false) := V.out.trans (by simp [hs])
        have n0 : (s == 0) = false := by simp [hs]
        clear V
        unfold noV at hv
        subst hv
        go_enter Tryz.func85, Tryz.ntmps85
        go_wp2
        go_ret
        exact ⟨by rw [V2.out]; first | rfl | (simp; done) | (simp; omega), HB.out⟩
      · have hs : ¬ s = 0 := by omega
        have V2 : Hid (resB 7 s v = false) := V.out.trans (by simp [hs])
        have n0 : (s == 0) = false := by simp [hs]
        clear V
        have g2 : ¬ v.toList = (⟨#[]⟩ : ByteArray).toList := fun e => hv ((bytes_inj _ _).1 e)
        have g3 : v.toList.isEmpty = false := by
          rw [Bool.eq_false_iff]
          intro h
          exact g2 (by rw [List.isEmpty_iff.1 h, ByteArray.toList_eq])
        go_enter Tryz.func85, Tryz.ntmps85
        go_wp2
        go_ret
        exact ⟨by rw [V2.out]; first | rfl | (simp; done) | (simp; omega), HB.out⟩
  · by_cases hv : v = noV
    · have hs : ¬ s = 0 := by omega
      have V2 : Hid (resB 7 s v = false) := V.out.trans (by simp [hs])
      have n0 : (s == 0) = false := by simp [hs]
      clear V
      unfold noV at hv
      subst hv
      go_enter Tryz.func85, Tryz.ntmps85
      go_wp2
      go_ret
      exact ⟨by rw [V2.out]; first | rfl | (simp; done) | (simp; omega), HB.out⟩
    · have hs : ¬ s = 0 := by omega
      have V2 : Hid (resB 7 s v = false) := V.out.trans (by simp [hs])
      have n0 : (s == 0) = false := by simp [hs]
      clear V
      have g2 : ¬ v.toList = (⟨#[]⟩ : ByteArray).toList := fun e => hv ((bytes_inj _ _).1 e)
      have g3 : v.toList.isEmpty = false := by
        rw [Bool.eq_false_iff]
        intro h
        exact g2 (by rw [List.isEmpty_iff.1 h, ByteArray.toList_eq])
      go_enter Tryz.func85, Tryz.ntmps85
      go_wp2
      go_ret
      exact ⟨by rw [V2.out]; first | rfl | (simp; done) | (simp; omega), HB.out⟩
set_option maxHeartbeats 1000000 in
theorem refresult_any (c s : Int) (v : ByteArray) (w : World) : Calls Tryz.prog 85 #[.agg #[.int .i64 c, .int .i64 s, .string v]] w fun e w' => e = .returned (.bool (resB c s v)) ∧ Below w.heap.size w w' := by
  by_cases g1 : c = 1
  · subst g1; exact refresult_1 s v w
  by_cases g2 : c = 2
  · subst g2; exact refresult_2 s v w
  by_cases g3 : c = 3
  · subst g3; exact refresult_3 s v w
  by_cases g4 : c = 4
  · subst g4; exact refresult_4 s v w
  by_cases g5 : c = 5
  · subst g5; exact refresult_5 s v w
  by_cases g6 : c = 6
  · subst g6; exact refresult_6 s v w
  by_cases g7 : c = 7
  · subst g7; exact refresult_7 s v w
  have HB : Hid (Below w.heap.size w (w.alloc (.cells #[.int .i64 c, .int .i64 s, .string v] 30))) := (Below.refl _ _).alloc (Nat.le_refl _) _
  have V : Hid (resB c s v = false) := by simp [Hid, resB, g1, g2, g3, g4, g5, g6, g7]
  have n1 : (c == 1) = false := by simp [g1]
  have n2 : (c == 2) = false := by simp [g2]
  have n3 : (c == 3) = false := by simp [g3]
  have n4 : (c == 4) = false := by simp [g4]
  have n5 : (c == 5) = false := by simp [g5]
  have n6 : (c == 6) = false := by simp [g6]
  have n7 : (c == 7) = false := by simp [g7]
  by_cases h0 : 0 ≤ s
  · by_cases h1 : s < 1024
    · go_enter Tryz.func85, Tryz.ntmps85
      go_wp2
      go_ret
      exact ⟨by rw [V.out]; first | rfl | (simp; done) | (simp; omega), HB.out⟩
    · go_enter Tryz.func85, Tryz.ntmps85
      go_wp2
      go_ret
      exact ⟨by rw [V.out]; first | rfl | (simp; done) | (simp; omega), HB.out⟩
  · go_enter Tryz.func85, Tryz.ntmps85
    go_wp2
    go_ret
    exact ⟨by rw [V.out]; first | rfl | (simp; done) | (simp; omega), HB.out⟩
def enK (k : Int) (e : En) : Bool := if k = 2 ∨ k = 14 then decide (0 ≤ e.c) && (decide (e.c < 16) && (decide (1 ≤ e.n) && (decide (e.o.k = 0) && (decide (e.o.s = 0) && decide (e.o.v = ⟨#[]⟩))))) else decide (ckE e = 0) && (!decide (k = 13) || (decide (e.o.k = 3) || decide (e.o.k = 4)))
set_option maxHeartbeats 2000000 in
theorem refentry7_name (K : Int) (hK : K = 2 ∨ K = 14) (C N k s : Int) (v : ByteArray) (w : World) : Calls Tryz.prog 84 #[.int .i64 K, .agg #[.int .i64 C, .int .i64 N, .int .i64 k, .int .i64 s, .string v]] w fun e w' => e = .returned (.bool (enK K ⟨C, N, ⟨k, s, v⟩⟩)) ∧ Below w.heap.size w w' := by
  have HB : Hid (∀ o, Below w.heap.size w ((w.alloc (.cells #[.int .i64 C, .int .i64 N, .int .i64 k, .int .i64 s, .string v] 28)).alloc o)) := fun o => ((Below.refl _ _).alloc (Nat.le_refl _) _).alloc (by simp) _
  have HB1 : Hid (Below w.heap.size w (w.alloc (.cells #[.int .i64 C, .int .i64 N, .int .i64 k, .int .i64 s, .string v] 28))) := (Below.refl _ _).alloc (Nat.le_refl _) _
  have V : Hid (enK K ⟨C, N, ⟨k, s, v⟩⟩ = (decide (0 ≤ C) && (decide (C < 16) && (decide (1 ≤ N) && (decide (k = 0) && (decide (s = 0) && decide (v = ⟨#[]⟩))))))) := by show _ = _; unfold enK; rw [if_pos hK]
  generalize enK K ⟨C, N, ⟨k, s, v⟩⟩ = b at *
  rcases hK with rfl | rfl
  · by_cases h0 : 0 ≤ C
    rotate_left
    · have V2 : Hid (b = false) := V.out.trans (by simp [*])
      clear V
      go_enter Tryz.func84, Tryz.ntmps84
      go_wp2
      go_ret
      exact ⟨by rw [V2.out]; first | rfl | (simp; done) | (simp; omega), by repeat (first | exact Below.refl _ _ | exact HB1.out | refine Below.alloc ?_ (by simp [World.setCell] <;> omega) _ | refine Below.setCell ?_ (by simp) _)⟩
    by_cases h1 : C < 16
    rotate_left
    · have V2 : Hid (b = false) := V.out.trans (by simp [*])
      clear V
      go_enter Tryz.func84, Tryz.ntmps84
      go_wp2
      go_ret
      exact ⟨by rw [V2.out]; first | rfl | (simp; done) | (simp; omega), by repeat (first | exact Below.refl _ _ | exact HB1.out | refine Below.alloc ?_ (by simp [World.setCell] <;> omega) _ | refine Below.setCell ?_ (by simp) _)⟩
    by_cases h2 : 1 ≤ N
    rotate_left
    · have V2 : Hid (b = false) := V.out.trans (by simp [*])
      clear V
      go_enter Tryz.func84, Tryz.ntmps84
      go_wp2
      go_ret
      exact ⟨by rw [V2.out]; first | rfl | (simp; done) | (simp; omega), by repeat (first | exact Below.refl _ _ | exact HB1.out | refine Below.alloc ?_ (by simp [World.setCell] <;> omega) _ | refine Below.setCell ?_ (by simp) _)⟩
    by_cases g0 : k = 0
    rotate_left
    · have V2 : Hid (b = false) := V.out.trans (by simp [*])
      clear V
      have q0 : (k == 0) = false := by simp [g0]
      go_enter Tryz.func84, Tryz.ntmps84
      go_wp2
      go_ret
      exact ⟨by rw [V2.out]; first | rfl | (simp; done) | (simp; omega), by repeat (first | exact Below.refl _ _ | exact HB1.out | refine Below.alloc ?_ (by simp [World.setCell] <;> omega) _ | refine Below.setCell ?_ (by simp) _)⟩
    by_cases g1 : s = 0
    rotate_left
    · have V2 : Hid (b = false) := V.out.trans (by simp [*])
      clear V
      have q1 : (s == 0) = false := by simp [g1]
      subst g0
      go_enter Tryz.func84, Tryz.ntmps84
      go_wp2
      go_ret
      exact ⟨by rw [V2.out]; first | rfl | (simp; done) | (simp; omega), by repeat (first | exact Below.refl _ _ | exact HB1.out | refine Below.alloc ?_ (by simp [World.setCell] <;> omega) _ | refine Below.setCell ?_ (by simp) _)⟩
    by_cases hv : v = ⟨#[]⟩
    · have V2 : Hid (b = true) := V.out.trans (by simp [*])
      clear V
      subst g0 g1 hv
      go_enter Tryz.func84, Tryz.ntmps84
      go_wp2
      go_ret
      exact ⟨by rw [V2.out]; first | rfl | (simp; done) | (simp; omega), by repeat (first | exact Below.refl _ _ | exact HB1.out | refine Below.alloc ?_ (by simp [World.setCell] <;> omega) _ | refine Below.setCell ?_ (by simp) _)⟩
    · have V2 : Hid (b = false) := V.out.trans (by simp [*])
      clear V
      have s7 : ¬ v.toList = (⟨#[]⟩ : ByteArray).toList := fun e => hv ((bytes_inj _ _).1 e)
      have t7 : v.toList.isEmpty = false := by
        rw [Bool.eq_false_iff]
        intro h
        exact s7 (by rw [List.isEmpty_iff.1 h, ByteArray.toList_eq])
      subst g0 g1
      go_enter Tryz.func84, Tryz.ntmps84
      go_wp2
      go_ret
      exact ⟨by rw [V2.out]; first | rfl | (simp; done) | (simp; omega), by repeat (first | exact Below.refl _ _ | exact HB1.out | refine Below.alloc ?_ (by simp [World.setCell] <;> omega) _ | refine Below.setCell ?_ (by simp) _)⟩
  · by_cases h0 : 0 ≤ C
    rotate_left
    · have V2 : Hid (b = false) := V.out.trans (by simp [*])
      clear V
      go_enter Tryz.func84, Tryz.ntmps84
      go_wp2
      go_ret
      exact ⟨by rw [V2.out]; first | rfl | (simp; done) | (simp; omega), by repeat (first | exact Below.refl _ _ | exact HB1.out | refine Below.alloc ?_ (by simp [World.setCell] <;> omega) _ | refine Below.setCell ?_ (by simp) _)⟩
    by_cases h1 : C < 16
    rotate_left
    · have V2 : Hid (b = false) := V.out.trans (by simp [*])
      clear V
      go_enter Tryz.func84, Tryz.ntmps84
      go_wp2
      go_ret
      exact ⟨by rw [V2.out]; first | rfl | (simp; done) | (simp; omega), by repeat (first | exact Below.refl _ _ | exact HB1.out | refine Below.alloc ?_ (by simp [World.setCell] <;> omega) _ | refine Below.setCell ?_ (by simp) _)⟩
    by_cases h2 : 1 ≤ N
    rotate_left
    · have V2 : Hid (b = false) := V.out.trans (by simp [*])
      clear V
      go_enter Tryz.func84, Tryz.ntmps84
      go_wp2
      go_ret
      exact ⟨by rw [V2.out]; first | rfl | (simp; done) | (simp; omega), by repeat (first | exact Below.refl _ _ | exact HB1.out | refine Below.alloc ?_ (by simp [World.setCell] <;> omega) _ | refine Below.setCell ?_ (by simp) _)⟩
    by_cases g0 : k = 0
    rotate_left
    · have V2 : Hid (b = false) := V.out.trans (by simp [*])
      clear V
      have q0 : (k == 0) = false := by simp [g0]
      go_enter Tryz.func84, Tryz.ntmps84
      go_wp2
      go_ret
      exact ⟨by rw [V2.out]; first | rfl | (simp; done) | (simp; omega), by repeat (first | exact Below.refl _ _ | exact HB1.out | refine Below.alloc ?_ (by simp [World.setCell] <;> omega) _ | refine Below.setCell ?_ (by simp) _)⟩
    by_cases g1 : s = 0
    rotate_left
    · have V2 : Hid (b = false) := V.out.trans (by simp [*])
      clear V
      have q1 : (s == 0) = false := by simp [g1]
      subst g0
      go_enter Tryz.func84, Tryz.ntmps84
      go_wp2
      go_ret
      exact ⟨by rw [V2.out]; first | rfl | (simp; done) | (simp; omega), by repeat (first | exact Below.refl _ _ | exact HB1.out | refine Below.alloc ?_ (by simp [World.setCell] <;> omega) _ | refine Below.setCell ?_ (by simp) _)⟩
    by_cases hv : v = ⟨#[]⟩
    · have V2 : Hid (b = true) := V.out.trans (by simp [*])
      clear V
      subst g0 g1 hv
      go_enter Tryz.func84, Tryz.ntmps84
      go_wp2
      go_ret
      exact ⟨by rw [V2.out]; first | rfl | (simp; done) | (simp; omega), by repeat (first | exact Below.refl _ _ | exact HB1.out | refine Below.alloc ?_ (by simp [World.setCell] <;> omega) _ | refine Below.setCell ?_ (by simp) _)⟩
    · have V2 : Hid (b = false) := V.out.trans (by simp [*])
      clear V
      have s7 : ¬ v.toList = (⟨#[]⟩ : ByteArray).toList := fun e => hv ((bytes_inj _ _).1 e)
      have t7 : v.toList.isEmpty = false := by
        rw [Bool.eq_false_iff]
        intro h
        exact s7 (by rw [List.isEmpty_iff.1 h, ByteArray.toList_eq])
      subst g0 g1
      go_enter Tryz.func84, Tryz.ntmps84
      go_wp2
      go_ret
      exact ⟨by rw [V2.out]; first | rfl | (simp; done) | (simp; omega), by repeat (first | exact Below.refl _ _ | exact HB1.out | refine Below.alloc ?_ (by simp [World.setCell] <;> omega) _ | refine Below.setCell ?_ (by simp) _)⟩
set_option maxHeartbeats 2000000 in
theorem refentry7_whole (K : Int) (hK : ¬ (K = 2 ∨ K = 14)) (C N k s : Int) (v : ByteArray) (hf : (⟨k, s, v⟩ : Opn).fits) (w : World) : Calls Tryz.prog 84 #[.int .i64 K, .agg #[.int .i64 C, .int .i64 N, .int .i64 k, .int .i64 s, .string v]] w fun e w' => e = .returned (.bool (enK K ⟨C, N, ⟨k, s, v⟩⟩)) ∧ Below w.heap.size w w' := by
  have HE := hide (fun W => refentry_any C N k s v hf W)
  have HB1 : Hid (Below w.heap.size w (w.alloc (.cells #[.int .i64 C, .int .i64 N, .int .i64 k, .int .i64 s, .string v] 28))) := (Below.refl _ _).alloc (Nat.le_refl _) _
  have V : Hid (enK K ⟨C, N, ⟨k, s, v⟩⟩ = (decide (ckE ⟨C, N, ⟨k, s, v⟩⟩ = 0) && (!decide (K = 13) || (decide (k = 3) || decide (k = 4))))) := by show _ = _; unfold enK; rw [if_neg hK]
  generalize enK K ⟨C, N, ⟨k, s, v⟩⟩ = b at *
  generalize ckE ⟨C, N, ⟨k, s, v⟩⟩ = x at *
  have k2 : (K == 2) = false := by simp; omega
  have k14 : (K == 14) = false := by simp; omega
  clear hK hf
  by_cases hx : x = 0
  rotate_left
  · have V2 : Hid (b = false) := V.out.trans (by simp [hx])
    have qx : (x == 0) = false := by simp [hx]
    clear V
    go_enter Tryz.func84, Tryz.ntmps84
    go_wp2_with fail
    refine (HE.out _).mono ?_
    rintro e w1 ⟨rfl, b1⟩
    have e2 := (b1.cell (p := ⟨w.heap.size, 2, none⟩) (by simp)).trans (show _ = some (.int .i64 k) by simp)
    have B1 := hide (HB1.out.trans (b1.mono (by simp)))
    clear b1
    go_wp2
    go_ret
    exact ⟨by rw [V2.out]; first | rfl | (simp; done) | (simp; omega), B1.out⟩
  subst hx
  by_cases h13 : K = 13
  rotate_left
  · have V2 : Hid (b = true) := V.out.trans (by simp [h13])
    have q13 : (K == 13) = false := by simp [h13]
    clear V
    go_enter Tryz.func84, Tryz.ntmps84
    go_wp2_with fail
    refine (HE.out _).mono ?_
    rintro e w1 ⟨rfl, b1⟩
    have e2 := (b1.cell (p := ⟨w.heap.size, 2, none⟩) (by simp)).trans (show _ = some (.int .i64 k) by simp)
    have B1 := hide (HB1.out.trans (b1.mono (by simp)))
    clear b1
    go_wp2
    go_ret
    exact ⟨by rw [V2.out]; first | rfl | (simp; done) | (simp; omega), B1.out⟩
  subst h13
  by_cases g3 : k = 3
  · have V2 : Hid (b = true) := V.out.trans (by simp [g3])
    subst g3
    clear V
    go_enter Tryz.func84, Tryz.ntmps84
    go_wp2_with fail
    refine (HE.out _).mono ?_
    rintro e w1 ⟨rfl, b1⟩
    have e2 := (b1.cell (p := ⟨w.heap.size, 2, none⟩) (by simp)).trans (show _ = some (.int .i64 3) by simp)
    have B1 := hide (HB1.out.trans (b1.mono (by simp)))
    clear b1
    go_wp2
    go_ret
    exact ⟨by rw [V2.out]; first | rfl | (simp; done) | (simp; omega), B1.out⟩
  have q3 : (k == 3) = false := by simp [g3]
  by_cases g4 : k = 4
  · have V2 : Hid (b = true) := V.out.trans (by simp [g4])
    subst g4
    clear V
    go_enter Tryz.func84, Tryz.ntmps84
    go_wp2_with fail
    refine (HE.out _).mono ?_
    rintro e w1 ⟨rfl, b1⟩
    have e2 := (b1.cell (p := ⟨w.heap.size, 2, none⟩) (by simp)).trans (show _ = some (.int .i64 4) by simp)
    have B1 := hide (HB1.out.trans (b1.mono (by simp)))
    clear b1
    go_wp2
    go_ret
    exact ⟨by rw [V2.out]; first | rfl | (simp; done) | (simp; omega), B1.out⟩
  have q4 : (k == 4) = false := by simp [g4]
  have V2 : Hid (b = false) := V.out.trans (by simp [g3, g4])
  clear V
  go_enter Tryz.func84, Tryz.ntmps84
  go_wp2_with fail
  refine (HE.out _).mono ?_
  rintro e w1 ⟨rfl, b1⟩
  have e2 := (b1.cell (p := ⟨w.heap.size, 2, none⟩) (by simp)).trans (show _ = some (.int .i64 k) by simp)
  have B1 := hide (HB1.out.trans (b1.mono (by simp)))
  clear b1
  go_wp2
  go_ret
  exact ⟨by rw [V2.out]; first | rfl | (simp; done) | (simp; omega), B1.out⟩
theorem refentry7 (K : Int) (e : En) (hf : e.o.fits) (w : World) : Calls Tryz.prog 84 #[.int .i64 K, .agg #[.int .i64 e.c, .int .i64 e.n, .int .i64 e.o.k, .int .i64 e.o.s, .string e.o.v]] w fun r w' => r = .returned (.bool (enK K e)) ∧ Below w.heap.size w w' := by
  by_cases hK : K = 2 ∨ K = 14
  · exact refentry7_name K hK e.c e.n e.o.k e.o.s e.o.v w
  · exact refentry7_whole K hK e.c e.n e.o.k e.o.s e.o.v hf w
set_option maxHeartbeats 1000000 in
theorem resultMayBe_any (c s : Int) (v : ByteArray) (w : World) : Calls Tryz.prog 80 #[.agg #[.int .i64 c, .int .i64 s, .string v]] w fun e w' => e = .returned (.bool (resB c s v)) ∧ Below w.heap.size w w' := by
  have hB : Below w.heap.size w (w.alloc (.cells #[.int .i64 c, .int .i64 s, .string v] 30)) := (Below.refl _ _).alloc (Nat.le_refl _) _
  have HB := hide hB
  clear hB
  by_cases h1 : c = 1
  · subst h1
    have V : Hid (resB 1 s v = (inR s 0 1023 && decide (v.size ≤ 64))) := by simp [Hid, resB]
    have H := hide (fun W => withinM_any s 0 1023 W)
    generalize inR s 0 1023 = x at *
    cases x with
    | false =>
      go_enter Tryz.func80, Tryz.ntmps80
      go_wp2_with fail
      refine (H.out _).mono ?_
      rintro e w1 ⟨rfl, rfl⟩
      go_wp2
      go_ret
      exact ⟨by rw [V.out]; rfl, HB.out⟩
    | true =>
      by_cases hv : (v.size : Int) ≤ 64
      · have hv' : decide (v.size ≤ 64) = true := decide_eq_true (by omega)
        go_enter Tryz.func80, Tryz.ntmps80
        go_wp2_with fail
        refine (H.out _).mono ?_
        rintro e w1 ⟨rfl, rfl⟩
        go_wp2
        go_ret
        exact ⟨by rw [V.out, hv']; first | rfl | (simp; omega), HB.out⟩
      · have hv' : decide (v.size ≤ 64) = false := decide_eq_false (by omega)
        go_enter Tryz.func80, Tryz.ntmps80
        go_wp2_with fail
        refine (H.out _).mono ?_
        rintro e w1 ⟨rfl, rfl⟩
        go_wp2
        go_ret
        exact ⟨by rw [V.out, hv']; first | rfl | (simp; omega), HB.out⟩
  · skip
    by_cases h2 : c = 2
    · subst h2
      have V : Hid (resB 2 s v = (inR s 0 1023 && decide (v.size ≤ 64))) := by simp [Hid, resB]
      have H := hide (fun W => withinM_any s 0 1023 W)
      generalize inR s 0 1023 = x at *
      cases x with
      | false =>
        go_enter Tryz.func80, Tryz.ntmps80
        go_wp2_with fail
        refine (H.out _).mono ?_
        rintro e w1 ⟨rfl, rfl⟩
        go_wp2
        go_ret
        exact ⟨by rw [V.out]; rfl, HB.out⟩
      | true =>
        by_cases hv : (v.size : Int) ≤ 64
        · have hv' : decide (v.size ≤ 64) = true := decide_eq_true (by omega)
          go_enter Tryz.func80, Tryz.ntmps80
          go_wp2_with fail
          refine (H.out _).mono ?_
          rintro e w1 ⟨rfl, rfl⟩
          go_wp2
          go_ret
          exact ⟨by rw [V.out, hv']; first | rfl | (simp; omega), HB.out⟩
        · have hv' : decide (v.size ≤ 64) = false := decide_eq_false (by omega)
          go_enter Tryz.func80, Tryz.ntmps80
          go_wp2_with fail
          refine (H.out _).mono ?_
          rintro e w1 ⟨rfl, rfl⟩
          go_wp2
          go_ret
          exact ⟨by rw [V.out, hv']; first | rfl | (simp; omega), HB.out⟩
    · skip
      by_cases h4 : c = 4
      · subst h4
        have V : Hid (resB 4 s v = (inR s 0 1023 && decide (v.size ≤ 64))) := by simp [Hid, resB]
        have H := hide (fun W => withinM_any s 0 1023 W)
        generalize inR s 0 1023 = x at *
        cases x with
        | false =>
          go_enter Tryz.func80, Tryz.ntmps80
          go_wp2_with fail
          refine (H.out _).mono ?_
          rintro e w1 ⟨rfl, rfl⟩
          go_wp2
          go_ret
          exact ⟨by rw [V.out]; rfl, HB.out⟩
        | true =>
          by_cases hv : (v.size : Int) ≤ 64
          · have hv' : decide (v.size ≤ 64) = true := decide_eq_true (by omega)
            go_enter Tryz.func80, Tryz.ntmps80
            go_wp2_with fail
            refine (H.out _).mono ?_
            rintro e w1 ⟨rfl, rfl⟩
            go_wp2
            go_ret
            exact ⟨by rw [V.out, hv']; first | rfl | (simp; omega), HB.out⟩
          · have hv' : decide (v.size ≤ 64) = false := decide_eq_false (by omega)
            go_enter Tryz.func80, Tryz.ntmps80
            go_wp2_with fail
            refine (H.out _).mono ?_
            rintro e w1 ⟨rfl, rfl⟩
            go_wp2
            go_ret
            exact ⟨by rw [V.out, hv']; first | rfl | (simp; omega), HB.out⟩
      · skip
        by_cases h5 : c = 5
        · subst h5
          have V : Hid (resB 5 s v = (inR s 0 1023 && decide (v = noV))) := by simp [Hid, resB]
          have H := hide (fun W => withinM_any s 0 1023 W)
          generalize inR s 0 1023 = x at *
          cases x with
          | false =>
            go_enter Tryz.func80, Tryz.ntmps80
            go_wp2_with fail
            refine (H.out _).mono ?_
            rintro e w1 ⟨rfl, rfl⟩
            go_wp2
            go_ret
            exact ⟨by rw [V.out]; rfl, HB.out⟩
          | true =>
            by_cases hv : v = noV
            · have hv' : decide (v = noV) = true := decide_eq_true hv
              have V2 : Hid (resB 5 s v = true) := V.out.trans (by rw [hv']; rfl)
              clear V hv'
              unfold noV at hv
              subst hv
              go_enter Tryz.func80, Tryz.ntmps80
              go_wp2_with fail
              refine (H.out _).mono ?_
              rintro e w1 ⟨rfl, rfl⟩
              go_wp2
              go_ret
              exact ⟨by rw [V2.out]; rfl, HB.out⟩
            · have hv' : decide (v = noV) = false := decide_eq_false hv
              have g2 : ¬ v.toList = (⟨#[]⟩ : ByteArray).toList := fun e => hv ((bytes_inj _ _).1 e)
              have g3 : v.toList.isEmpty = false := by
                rw [Bool.eq_false_iff]
                intro h
                exact g2 (by rw [List.isEmpty_iff.1 h, ByteArray.toList_eq])
              go_enter Tryz.func80, Tryz.ntmps80
              go_wp2_with fail
              refine (H.out _).mono ?_
              rintro e w1 ⟨rfl, rfl⟩
              go_wp2
              go_ret
              exact ⟨by rw [V.out, hv']; first | rfl | (simp; omega), HB.out⟩
        · skip
          by_cases h6 : c = 6
          · subst h6
            have V : Hid (resB 6 s v = (inR s 0 1024 && decide (v = noV))) := by simp [Hid, resB]
            have H := hide (fun W => withinM_any s 0 1024 W)
            generalize inR s 0 1024 = x at *
            cases x with
            | false =>
              go_enter Tryz.func80, Tryz.ntmps80
              go_wp2_with fail
              refine (H.out _).mono ?_
              rintro e w1 ⟨rfl, rfl⟩
              go_wp2
              go_ret
              exact ⟨by rw [V.out]; rfl, HB.out⟩
            | true =>
              by_cases hv : v = noV
              · have hv' : decide (v = noV) = true := decide_eq_true hv
                have V2 : Hid (resB 6 s v = true) := V.out.trans (by rw [hv']; rfl)
                clear V hv'
                unfold noV at hv
                subst hv
                go_enter Tryz.func80, Tryz.ntmps80
                go_wp2_with fail
                refine (H.out _).mono ?_
                rintro e w1 ⟨rfl, rfl⟩
                go_wp2
                go_ret
                exact ⟨by rw [V2.out]; rfl, HB.out⟩
              · have hv' : decide (v = noV) = false := decide_eq_false hv
                have g2 : ¬ v.toList = (⟨#[]⟩ : ByteArray).toList := fun e => hv ((bytes_inj _ _).1 e)
                have g3 : v.toList.isEmpty = false := by
                  rw [Bool.eq_false_iff]
                  intro h
                  exact g2 (by rw [List.isEmpty_iff.1 h, ByteArray.toList_eq])
                go_enter Tryz.func80, Tryz.ntmps80
                go_wp2_with fail
                refine (H.out _).mono ?_
                rintro e w1 ⟨rfl, rfl⟩
                go_wp2
                go_ret
                exact ⟨by rw [V.out, hv']; first | rfl | (simp; omega), HB.out⟩
          · skip
            by_cases h3 : c = 3
            · subst h3
              have V : Hid (resB 3 s v = (decide (s = 0) && decide (v = noV))) := by simp [Hid, resB]
              by_cases hs : s = 0
              · by_cases hv : v = noV
                · have V2 : Hid (resB 3 s v = true) := V.out.trans (by simp [hs, hv])
                  clear V
                  unfold noV at hv
                  subst hv hs
                  go_enter Tryz.func80, Tryz.ntmps80
                  go_wp2
                  go_ret
                  exact ⟨by rw [V2.out]; rfl, HB.out⟩
                · have g2 : ¬ v.toList = (⟨#[]⟩ : ByteArray).toList := fun e => hv ((bytes_inj _ _).1 e)
                  have g3 : v.toList.isEmpty = false := by
                    rw [Bool.eq_false_iff]
                    intro h
                    exact g2 (by rw [List.isEmpty_iff.1 h, ByteArray.toList_eq])
                  have V2 : Hid (resB 3 s v = false) := V.out.trans (by simp [hv])
                  clear V
                  subst hs
                  go_enter Tryz.func80, Tryz.ntmps80
                  go_wp2
                  go_ret
                  exact ⟨by rw [V2.out]; rfl, HB.out⟩
              · have V2 : Hid (resB 3 s v = false) := V.out.trans (by simp [hs])
                clear V
                go_enter Tryz.func80, Tryz.ntmps80
                go_wp2
                go_ret
                exact ⟨by rw [V2.out]; rfl, HB.out⟩
            · skip
              by_cases h7 : c = 7
              · subst h7
                have V : Hid (resB 7 s v = (decide (s = 0) && decide (v = noV))) := by simp [Hid, resB]
                by_cases hs : s = 0
                · by_cases hv : v = noV
                  · have V2 : Hid (resB 7 s v = true) := V.out.trans (by simp [hs, hv])
                    clear V
                    unfold noV at hv
                    subst hv hs
                    go_enter Tryz.func80, Tryz.ntmps80
                    go_wp2
                    go_ret
                    exact ⟨by rw [V2.out]; rfl, HB.out⟩
                  · have g2 : ¬ v.toList = (⟨#[]⟩ : ByteArray).toList := fun e => hv ((bytes_inj _ _).1 e)
                    have g3 : v.toList.isEmpty = false := by
                      rw [Bool.eq_false_iff]
                      intro h
                      exact g2 (by rw [List.isEmpty_iff.1 h, ByteArray.toList_eq])
                    have V2 : Hid (resB 7 s v = false) := V.out.trans (by simp [hv])
                    clear V
                    subst hs
                    go_enter Tryz.func80, Tryz.ntmps80
                    go_wp2
                    go_ret
                    exact ⟨by rw [V2.out]; rfl, HB.out⟩
                · have V2 : Hid (resB 7 s v = false) := V.out.trans (by simp [hs])
                  clear V
                  go_enter Tryz.func80, Tryz.ntmps80
                  go_wp2
                  go_ret
                  exact ⟨by rw [V2.out]; rfl, HB.out⟩
              · skip
                have V : Hid (resB c s v = false) := by simp [Hid, resB, h1, h2, h3, h4, h5, h6, h7]
                have n1 : (c == 1) = false := by simp [h1]
                have n2 : (c == 2) = false := by simp [h2]
                have n3 : (c == 3) = false := by simp [h3]
                have n4 : (c == 4) = false := by simp [h4]
                have n5 : (c == 5) = false := by simp [h5]
                have n6 : (c == 6) = false := by simp [h6]
                have n7 : (c == 7) = false := by simp [h7]
                go_enter Tryz.func80, Tryz.ntmps80
                go_wp2
                go_ret
                exact ⟨by rw [V.out]; rfl, HB.out⟩
def zEn : En := ⟨0, 0, ⟨0, 0, ⟨#[]⟩⟩⟩
def blB (m : Mg) (nl nv : Nat) (at_ : Nat) : Bool :=
  if at_ = 0 then decide (m.nd = 0) else if at_ = 1 then decide (m.vw = 0) else if at_ = 2 then decide (m.ls = 0) else if at_ = 3 then decide (m.p = 0) else if at_ = 4 then decide (m.cm = 0) else if at_ = 5 then decide (m.d = (0, 0)) else if at_ = 6 then enb m.e zEn else if at_ = 7 then decide (m.r = (0, 0, ⟨#[]⟩)) else if at_ = 8 then decide (nl = 0) else decide (nv = 0)
set_option maxHeartbeats 1000000 in
theorem isBlank_0 (m : Mg) (a1 a2 : Option Addr) (nl cl nv cv : Nat) (w : World) : Calls Tryz.prog 76 #[m.val (.slice a1 nl cl) (.slice a2 nv cv), .int .i64 0] w fun e w' => e = .returned (.bool (blB m nl nv 0)) ∧ Below w.heap.size w w' := by
  by_cases h : m.nd = 0
  · have V : Hid (blB m nl nv 0 = true) := by simp [Hid, blB, h]
    go_enter Tryz.func76, Tryz.ntmps76
    go_upto_region 1 with (refine boxMk rfl (.tmp 0) rfl m _ _ rfl ?_; intro q1 w1 hq1 M1 b1 z1; subst hq1)
    have HB := hide b1
    have x1 := M1.cell 1 _ rfl
    rw [h] at x1
    clear M1 b1 z1
    go_wp2
    go_ret
    exact ⟨by rw [V.out]; rfl, HB.out⟩
  · have V : Hid (blB m nl nv 0 = false) := by simp [Hid, blB, h]
    have hq : (m.nd == 0) = false := by simp [h]
    go_enter Tryz.func76, Tryz.ntmps76
    go_upto_region 1 with (refine boxMk rfl (.tmp 0) rfl m _ _ rfl ?_; intro q1 w1 hq1 M1 b1 z1; subst hq1)
    have HB := hide b1
    have x1 := M1.cell 1 _ rfl
    clear M1 b1 z1
    go_wp2
    go_ret
    exact ⟨by rw [V.out]; rfl, HB.out⟩
set_option maxHeartbeats 1000000 in
theorem isBlank_1 (m : Mg) (a1 a2 : Option Addr) (nl cl nv cv : Nat) (w : World) : Calls Tryz.prog 76 #[m.val (.slice a1 nl cl) (.slice a2 nv cv), .int .i64 1] w fun e w' => e = .returned (.bool (blB m nl nv 1)) ∧ Below w.heap.size w w' := by
  by_cases h : m.vw = 0
  · have V : Hid (blB m nl nv 1 = true) := by simp [Hid, blB, h]
    go_enter Tryz.func76, Tryz.ntmps76
    go_upto_region 1 with (refine boxMk rfl (.tmp 0) rfl m _ _ rfl ?_; intro q1 w1 hq1 M1 b1 z1; subst hq1)
    have HB := hide b1
    have x2 := M1.cell 2 _ rfl
    rw [h] at x2
    clear M1 b1 z1
    go_wp2
    go_ret
    exact ⟨by rw [V.out]; rfl, HB.out⟩
  · have V : Hid (blB m nl nv 1 = false) := by simp [Hid, blB, h]
    have hq : (m.vw == 0) = false := by simp [h]
    go_enter Tryz.func76, Tryz.ntmps76
    go_upto_region 1 with (refine boxMk rfl (.tmp 0) rfl m _ _ rfl ?_; intro q1 w1 hq1 M1 b1 z1; subst hq1)
    have HB := hide b1
    have x2 := M1.cell 2 _ rfl
    clear M1 b1 z1
    go_wp2
    go_ret
    exact ⟨by rw [V.out]; rfl, HB.out⟩
set_option maxHeartbeats 1000000 in
theorem isBlank_2 (m : Mg) (a1 a2 : Option Addr) (nl cl nv cv : Nat) (w : World) : Calls Tryz.prog 76 #[m.val (.slice a1 nl cl) (.slice a2 nv cv), .int .i64 2] w fun e w' => e = .returned (.bool (blB m nl nv 2)) ∧ Below w.heap.size w w' := by
  by_cases h : m.ls = 0
  · have V : Hid (blB m nl nv 2 = true) := by simp [Hid, blB, h]
    go_enter Tryz.func76, Tryz.ntmps76
    go_upto_region 1 with (refine boxMk rfl (.tmp 0) rfl m _ _ rfl ?_; intro q1 w1 hq1 M1 b1 z1; subst hq1)
    have HB := hide b1
    have x13 := M1.cell 13 _ rfl
    rw [h] at x13
    clear M1 b1 z1
    go_wp2
    go_ret
    exact ⟨by rw [V.out]; rfl, HB.out⟩
  · have V : Hid (blB m nl nv 2 = false) := by simp [Hid, blB, h]
    have hq : (m.ls == 0) = false := by simp [h]
    go_enter Tryz.func76, Tryz.ntmps76
    go_upto_region 1 with (refine boxMk rfl (.tmp 0) rfl m _ _ rfl ?_; intro q1 w1 hq1 M1 b1 z1; subst hq1)
    have HB := hide b1
    have x13 := M1.cell 13 _ rfl
    clear M1 b1 z1
    go_wp2
    go_ret
    exact ⟨by rw [V.out]; rfl, HB.out⟩
set_option maxHeartbeats 1000000 in
theorem isBlank_3 (m : Mg) (a1 a2 : Option Addr) (nl cl nv cv : Nat) (w : World) : Calls Tryz.prog 76 #[m.val (.slice a1 nl cl) (.slice a2 nv cv), .int .i64 3] w fun e w' => e = .returned (.bool (blB m nl nv 3)) ∧ Below w.heap.size w w' := by
  by_cases h : m.p = 0
  · have V : Hid (blB m nl nv 3 = true) := by simp [Hid, blB, h]
    go_enter Tryz.func76, Tryz.ntmps76
    go_upto_region 1 with (refine boxMk rfl (.tmp 0) rfl m _ _ rfl ?_; intro q1 w1 hq1 M1 b1 z1; subst hq1)
    have HB := hide b1
    have x11 := M1.cell 11 _ rfl
    rw [h] at x11
    clear M1 b1 z1
    go_wp2
    go_ret
    exact ⟨by rw [V.out]; rfl, HB.out⟩
  · have V : Hid (blB m nl nv 3 = false) := by simp [Hid, blB, h]
    have hq : (m.p == 0) = false := by simp [h]
    go_enter Tryz.func76, Tryz.ntmps76
    go_upto_region 1 with (refine boxMk rfl (.tmp 0) rfl m _ _ rfl ?_; intro q1 w1 hq1 M1 b1 z1; subst hq1)
    have HB := hide b1
    have x11 := M1.cell 11 _ rfl
    clear M1 b1 z1
    go_wp2
    go_ret
    exact ⟨by rw [V.out]; rfl, HB.out⟩
set_option maxHeartbeats 1000000 in
theorem isBlank_4 (m : Mg) (a1 a2 : Option Addr) (nl cl nv cv : Nat) (w : World) : Calls Tryz.prog 76 #[m.val (.slice a1 nl cl) (.slice a2 nv cv), .int .i64 4] w fun e w' => e = .returned (.bool (blB m nl nv 4)) ∧ Below w.heap.size w w' := by
  by_cases h : m.cm = 0
  · have V : Hid (blB m nl nv 4 = true) := by simp [Hid, blB, h]
    go_enter Tryz.func76, Tryz.ntmps76
    go_upto_region 1 with (refine boxMk rfl (.tmp 0) rfl m _ _ rfl ?_; intro q1 w1 hq1 M1 b1 z1; subst hq1)
    have HB := hide b1
    have x12 := M1.cell 12 _ rfl
    rw [h] at x12
    clear M1 b1 z1
    go_wp2
    go_ret
    exact ⟨by rw [V.out]; rfl, HB.out⟩
  · have V : Hid (blB m nl nv 4 = false) := by simp [Hid, blB, h]
    have hq : (m.cm == 0) = false := by simp [h]
    go_enter Tryz.func76, Tryz.ntmps76
    go_upto_region 1 with (refine boxMk rfl (.tmp 0) rfl m _ _ rfl ?_; intro q1 w1 hq1 M1 b1 z1; subst hq1)
    have HB := hide b1
    have x12 := M1.cell 12 _ rfl
    clear M1 b1 z1
    go_wp2
    go_ret
    exact ⟨by rw [V.out]; rfl, HB.out⟩
set_option maxHeartbeats 1000000 in
theorem isBlank_8 (m : Mg) (a1 a2 : Option Addr) (nl cl nv cv : Nat) (w : World) : Calls Tryz.prog 76 #[m.val (.slice a1 nl cl) (.slice a2 nv cv), .int .i64 8] w fun e w' => e = .returned (.bool (blB m nl nv 8)) ∧ Below w.heap.size w w' := by
  by_cases h : nl = 0
  · have V : Hid (blB m nl nv 8 = true) := by simp [Hid, blB, h]
    subst h
    go_enter Tryz.func76, Tryz.ntmps76
    go_upto_region 1 with (refine boxMk rfl (.tmp 0) rfl m _ _ rfl ?_; intro q1 w1 hq1 M1 b1 z1; subst hq1)
    have HB := hide b1
    have x16 := M1.cell 16 _ rfl
    clear M1 b1 z1
    go_wp2
    go_ret
    exact ⟨by rw [V.out]; rfl, HB.out⟩
  · have V : Hid (blB m nl nv 8 = false) := by simp [Hid, blB, h]
    have h' : ¬ (nl : Int) = 0 := by omega
    have hq : ((nl : Int) == 0) = false := by simp [h]
    go_enter Tryz.func76, Tryz.ntmps76
    go_upto_region 1 with (refine boxMk rfl (.tmp 0) rfl m _ _ rfl ?_; intro q1 w1 hq1 M1 b1 z1; subst hq1)
    have HB := hide b1
    have x16 := M1.cell 16 _ rfl
    clear M1 b1 z1
    go_wp2
    go_ret
    exact ⟨by rw [V.out]; rfl, HB.out⟩
set_option maxHeartbeats 1000000 in
theorem isBlank_9 (m : Mg) (a1 a2 : Option Addr) (nl cl nv cv : Nat) (w : World) : Calls Tryz.prog 76 #[m.val (.slice a1 nl cl) (.slice a2 nv cv), .int .i64 9] w fun e w' => e = .returned (.bool (blB m nl nv 9)) ∧ Below w.heap.size w w' := by
  by_cases h : nv = 0
  · have V : Hid (blB m nl nv 9 = true) := by simp [Hid, blB, h]
    subst h
    go_enter Tryz.func76, Tryz.ntmps76
    go_upto_region 1 with (refine boxMk rfl (.tmp 0) rfl m _ _ rfl ?_; intro q1 w1 hq1 M1 b1 z1; subst hq1)
    have HB := hide b1
    have x17 := M1.cell 17 _ rfl
    clear M1 b1 z1
    go_wp2
    go_ret
    exact ⟨by rw [V.out]; rfl, HB.out⟩
  · have V : Hid (blB m nl nv 9 = false) := by simp [Hid, blB, h]
    have h' : ¬ (nv : Int) = 0 := by omega
    have hq : ((nv : Int) == 0) = false := by simp [h]
    go_enter Tryz.func76, Tryz.ntmps76
    go_upto_region 1 with (refine boxMk rfl (.tmp 0) rfl m _ _ rfl ?_; intro q1 w1 hq1 M1 b1 z1; subst hq1)
    have HB := hide b1
    have x17 := M1.cell 17 _ rfl
    clear M1 b1 z1
    go_wp2
    go_ret
    exact ⟨by rw [V.out]; rfl, HB.out⟩
theorem TRUE5 (m : Mg) (nl nv : Nat) (h1 : m.d.1 = 0) (h2 : m.d.2 = 0) : Hid (blB m nl nv 5 = true) := by
  obtain ⟨k, nd, vw, e, r, p, cm, ls, d1, d2⟩ := m
  dsimp only at h1 h2
  subst h1 h2
  rfl
theorem FALSE5 (m : Mg) (nl nv : Nat) (h : m.d ≠ (0, 0)) : Hid (blB m nl nv 5 = false) := by
  show _ = _
  simp [blB, h]
theorem TRUE6 (m : Mg) (nl nv : Nat) (h1 : m.e.c = 0) (h2 : m.e.n = 0) (h3 : m.e.o.k = 0) (h4 : m.e.o.s = 0) (h5 : m.e.o.v = ⟨#[]⟩) : Hid (blB m nl nv 6 = true) := by
  obtain ⟨k, nd, vw, ⟨c, n, ⟨ok, os, ov⟩⟩, r, p, cm, ls, d1, d2⟩ := m
  dsimp only at h1 h2 h3 h4 h5
  subst h1 h2 h3 h4 h5
  show _ = _
  simp [blB, (enb_iff _ _).2, zEn]
theorem FALSE6 (m : Mg) (nl nv : Nat) (h : m.e ≠ zEn) : Hid (blB m nl nv 6 = false) := by
  have e : enb m.e zEn = false := Bool.eq_false_iff.2 (fun e => h ((enb_iff _ _).1 e))
  show _ = _
  simp [blB, e]
theorem TRUE7 (m : Mg) (nl nv : Nat) (h1 : m.r.1 = 0) (h2 : m.r.2.1 = 0) (h3 : m.r.2.2 = ⟨#[]⟩) : Hid (blB m nl nv 7 = true) := by
  obtain ⟨k, nd, vw, e, ⟨r1, r2, r3⟩, p, cm, ls, d1, d2⟩ := m
  dsimp only at h1 h2 h3
  subst h1 h2 h3
  show _ = _
  simp [blB, zEn]
theorem FALSE7 (m : Mg) (nl nv : Nat) (h : m.r ≠ (0, 0, ⟨#[]⟩)) : Hid (blB m nl nv 7 = false) := by
  show _ = _
  simp [blB, h]
set_option maxHeartbeats 1000000 in
theorem isBlank_5 (m : Mg) (a1 a2 : Option Addr) (nl cl nv cv : Nat) (w : World) : Calls Tryz.prog 76 #[m.val (.slice a1 nl cl) (.slice a2 nv cv), .int .i64 5] w fun e w' => e = .returned (.bool (blB m nl nv 5)) ∧ Below w.heap.size w w' := by
  by_cases g14 : m.d.1 = 0
  · by_cases g15 : m.d.2 = 0
    · have V : Hid (blB m nl nv 5 = true) := TRUE5 m nl nv g14 g15
      go_enter Tryz.func76, Tryz.ntmps76
      go_upto_region 1 with (refine boxMk rfl (.tmp 0) rfl m _ _ rfl ?_; intro q1 w1 hq1 M1 b1 z1; subst hq1)
      have HB := hide b1
      have x14 := M1.cell 14 _ rfl
      rw [g14] at x14
      have x15 := M1.cell 15 _ rfl
      rw [g15] at x15
      clear M1 b1 z1
      go_wp2
      go_ret
      exact ⟨by rw [V.out]; rfl, HB.out⟩
    · have V : Hid (blB m nl nv 5 = false) := FALSE5 m nl nv (by intro h; exact g15 (by rw [h] <;> rfl))
      have hq : (m.d.2 == 0) = false := by simp [g15]
      go_enter Tryz.func76, Tryz.ntmps76
      go_upto_region 1 with (refine boxMk rfl (.tmp 0) rfl m _ _ rfl ?_; intro q1 w1 hq1 M1 b1 z1; subst hq1)
      have HB := hide b1
      have x14 := M1.cell 14 _ rfl
      rw [g14] at x14
      have x15 := M1.cell 15 _ rfl
      clear M1 b1 z1
      go_wp2
      go_ret
      exact ⟨by rw [V.out]; rfl, HB.out⟩
  · have V : Hid (blB m nl nv 5 = false) := FALSE5 m nl nv (by intro h; exact g14 (by rw [h] <;> rfl))
    have hq : (m.d.1 == 0) = false := by simp [g14]
    go_enter Tryz.func76, Tryz.ntmps76
    go_upto_region 1 with (refine boxMk rfl (.tmp 0) rfl m _ _ rfl ?_; intro q1 w1 hq1 M1 b1 z1; subst hq1)
    have HB := hide b1
    have x14 := M1.cell 14 _ rfl
    have x15 := M1.cell 15 _ rfl
    clear M1 b1 z1
    go_wp2
    go_ret
    exact ⟨by rw [V.out]; rfl, HB.out⟩
set_option maxHeartbeats 1000000 in
theorem isBlank_6 (m : Mg) (a1 a2 : Option Addr) (nl cl nv cv : Nat) (w : World) : Calls Tryz.prog 76 #[m.val (.slice a1 nl cl) (.slice a2 nv cv), .int .i64 6] w fun e w' => e = .returned (.bool (blB m nl nv 6)) ∧ Below w.heap.size w w' := by
  by_cases g3 : m.e.c = 0
  · by_cases g4 : m.e.n = 0
    · by_cases g5 : m.e.o.k = 0
      · by_cases g6 : m.e.o.s = 0
        · by_cases g7 : m.e.o.v = ⟨#[]⟩
          · have V : Hid (blB m nl nv 6 = true) := TRUE6 m nl nv g3 g4 g5 g6 g7
            go_enter Tryz.func76, Tryz.ntmps76
            go_upto_region 1 with (refine boxMk rfl (.tmp 0) rfl m _ _ rfl ?_; intro q1 w1 hq1 M1 b1 z1; subst hq1)
            have HB := hide b1
            have x3 := M1.cell 3 _ rfl
            rw [g3] at x3
            have x4 := M1.cell 4 _ rfl
            rw [g4] at x4
            have x5 := M1.cell 5 _ rfl
            rw [g5] at x5
            have x6 := M1.cell 6 _ rfl
            rw [g6] at x6
            have x7 := M1.cell 7 _ rfl
            rw [g7] at x7
            clear M1 b1 z1
            go_wp2
            go_ret
            exact ⟨by rw [V.out]; rfl, HB.out⟩
          · have V : Hid (blB m nl nv 6 = false) := FALSE6 m nl nv (by intro h; exact g7 (by rw [h] <;> rfl))
            have s7 : ¬ (m.e.o.v).toList = (⟨#[]⟩ : ByteArray).toList := fun e => g7 ((bytes_inj _ _).1 e)
            have t7 : (m.e.o.v).toList.isEmpty = false := by
              rw [Bool.eq_false_iff]
              intro h
              exact s7 (by rw [List.isEmpty_iff.1 h, ByteArray.toList_eq])
            go_enter Tryz.func76, Tryz.ntmps76
            go_upto_region 1 with (refine boxMk rfl (.tmp 0) rfl m _ _ rfl ?_; intro q1 w1 hq1 M1 b1 z1; subst hq1)
            have HB := hide b1
            have x3 := M1.cell 3 _ rfl
            rw [g3] at x3
            have x4 := M1.cell 4 _ rfl
            rw [g4] at x4
            have x5 := M1.cell 5 _ rfl
            rw [g5] at x5
            have x6 := M1.cell 6 _ rfl
            rw [g6] at x6
            have x7 := M1.cell 7 _ rfl
            clear M1 b1 z1
            go_wp2
            go_ret
            exact ⟨by rw [V.out]; rfl, HB.out⟩
        · have V : Hid (blB m nl nv 6 = false) := FALSE6 m nl nv (by intro h; exact g6 (by rw [h] <;> rfl))
          have hq : (m.e.o.s == 0) = false := by simp [g6]
          go_enter Tryz.func76, Tryz.ntmps76
          go_upto_region 1 with (refine boxMk rfl (.tmp 0) rfl m _ _ rfl ?_; intro q1 w1 hq1 M1 b1 z1; subst hq1)
          have HB := hide b1
          have x3 := M1.cell 3 _ rfl
          rw [g3] at x3
          have x4 := M1.cell 4 _ rfl
          rw [g4] at x4
          have x5 := M1.cell 5 _ rfl
          rw [g5] at x5
          have x6 := M1.cell 6 _ rfl
          have x7 := M1.cell 7 _ rfl
          clear M1 b1 z1
          go_wp2
          go_ret
          exact ⟨by rw [V.out]; rfl, HB.out⟩
      · have V : Hid (blB m nl nv 6 = false) := FALSE6 m nl nv (by intro h; exact g5 (by rw [h] <;> rfl))
        have hq : (m.e.o.k == 0) = false := by simp [g5]
        go_enter Tryz.func76, Tryz.ntmps76
        go_upto_region 1 with (refine boxMk rfl (.tmp 0) rfl m _ _ rfl ?_; intro q1 w1 hq1 M1 b1 z1; subst hq1)
        have HB := hide b1
        have x3 := M1.cell 3 _ rfl
        rw [g3] at x3
        have x4 := M1.cell 4 _ rfl
        rw [g4] at x4
        have x5 := M1.cell 5 _ rfl
        have x6 := M1.cell 6 _ rfl
        have x7 := M1.cell 7 _ rfl
        clear M1 b1 z1
        go_wp2
        go_ret
        exact ⟨by rw [V.out]; rfl, HB.out⟩
    · have V : Hid (blB m nl nv 6 = false) := FALSE6 m nl nv (by intro h; exact g4 (by rw [h] <;> rfl))
      have hq : (m.e.n == 0) = false := by simp [g4]
      go_enter Tryz.func76, Tryz.ntmps76
      go_upto_region 1 with (refine boxMk rfl (.tmp 0) rfl m _ _ rfl ?_; intro q1 w1 hq1 M1 b1 z1; subst hq1)
      have HB := hide b1
      have x3 := M1.cell 3 _ rfl
      rw [g3] at x3
      have x4 := M1.cell 4 _ rfl
      have x5 := M1.cell 5 _ rfl
      have x6 := M1.cell 6 _ rfl
      have x7 := M1.cell 7 _ rfl
      clear M1 b1 z1
      go_wp2
      go_ret
      exact ⟨by rw [V.out]; rfl, HB.out⟩
  · have V : Hid (blB m nl nv 6 = false) := FALSE6 m nl nv (by intro h; exact g3 (by rw [h] <;> rfl))
    have hq : (m.e.c == 0) = false := by simp [g3]
    go_enter Tryz.func76, Tryz.ntmps76
    go_upto_region 1 with (refine boxMk rfl (.tmp 0) rfl m _ _ rfl ?_; intro q1 w1 hq1 M1 b1 z1; subst hq1)
    have HB := hide b1
    have x3 := M1.cell 3 _ rfl
    have x4 := M1.cell 4 _ rfl
    have x5 := M1.cell 5 _ rfl
    have x6 := M1.cell 6 _ rfl
    have x7 := M1.cell 7 _ rfl
    clear M1 b1 z1
    go_wp2
    go_ret
    exact ⟨by rw [V.out]; rfl, HB.out⟩
set_option maxHeartbeats 1000000 in
theorem isBlank_7 (m : Mg) (a1 a2 : Option Addr) (nl cl nv cv : Nat) (w : World) : Calls Tryz.prog 76 #[m.val (.slice a1 nl cl) (.slice a2 nv cv), .int .i64 7] w fun e w' => e = .returned (.bool (blB m nl nv 7)) ∧ Below w.heap.size w w' := by
  by_cases g8 : m.r.1 = 0
  · by_cases g9 : m.r.2.1 = 0
    · by_cases g10 : m.r.2.2 = ⟨#[]⟩
      · have V : Hid (blB m nl nv 7 = true) := TRUE7 m nl nv g8 g9 g10
        go_enter Tryz.func76, Tryz.ntmps76
        go_upto_region 1 with (refine boxMk rfl (.tmp 0) rfl m _ _ rfl ?_; intro q1 w1 hq1 M1 b1 z1; subst hq1)
        have HB := hide b1
        have x8 := M1.cell 8 _ rfl
        rw [g8] at x8
        have x9 := M1.cell 9 _ rfl
        rw [g9] at x9
        have x10 := M1.cell 10 _ rfl
        rw [g10] at x10
        clear M1 b1 z1
        go_wp2
        go_ret
        exact ⟨by rw [V.out]; rfl, HB.out⟩
      · have V : Hid (blB m nl nv 7 = false) := FALSE7 m nl nv (by intro h; exact g10 (by rw [h] <;> rfl))
        have s10 : ¬ (m.r.2.2).toList = (⟨#[]⟩ : ByteArray).toList := fun e => g10 ((bytes_inj _ _).1 e)
        have t10 : (m.r.2.2).toList.isEmpty = false := by
          rw [Bool.eq_false_iff]
          intro h
          exact s10 (by rw [List.isEmpty_iff.1 h, ByteArray.toList_eq])
        go_enter Tryz.func76, Tryz.ntmps76
        go_upto_region 1 with (refine boxMk rfl (.tmp 0) rfl m _ _ rfl ?_; intro q1 w1 hq1 M1 b1 z1; subst hq1)
        have HB := hide b1
        have x8 := M1.cell 8 _ rfl
        rw [g8] at x8
        have x9 := M1.cell 9 _ rfl
        rw [g9] at x9
        have x10 := M1.cell 10 _ rfl
        clear M1 b1 z1
        go_wp2
        go_ret
        exact ⟨by rw [V.out]; rfl, HB.out⟩
    · have V : Hid (blB m nl nv 7 = false) := FALSE7 m nl nv (by intro h; exact g9 (by rw [h] <;> rfl))
      have hq : (m.r.2.1 == 0) = false := by simp [g9]
      go_enter Tryz.func76, Tryz.ntmps76
      go_upto_region 1 with (refine boxMk rfl (.tmp 0) rfl m _ _ rfl ?_; intro q1 w1 hq1 M1 b1 z1; subst hq1)
      have HB := hide b1
      have x8 := M1.cell 8 _ rfl
      rw [g8] at x8
      have x9 := M1.cell 9 _ rfl
      have x10 := M1.cell 10 _ rfl
      clear M1 b1 z1
      go_wp2
      go_ret
      exact ⟨by rw [V.out]; rfl, HB.out⟩
  · have V : Hid (blB m nl nv 7 = false) := FALSE7 m nl nv (by intro h; exact g8 (by rw [h] <;> rfl))
    have hq : (m.r.1 == 0) = false := by simp [g8]
    go_enter Tryz.func76, Tryz.ntmps76
    go_upto_region 1 with (refine boxMk rfl (.tmp 0) rfl m _ _ rfl ?_; intro q1 w1 hq1 M1 b1 z1; subst hq1)
    have HB := hide b1
    have x8 := M1.cell 8 _ rfl
    have x9 := M1.cell 9 _ rfl
    have x10 := M1.cell 10 _ rfl
    clear M1 b1 z1
    go_wp2
    go_ret
    exact ⟨by rw [V.out]; rfl, HB.out⟩
end Go.Proofs.YtibedokegignhaaGreatDoor
