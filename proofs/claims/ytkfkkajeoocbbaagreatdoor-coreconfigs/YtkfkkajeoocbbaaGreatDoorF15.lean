import Derived.Test.YtkfkkajeoocbbaaGreatDoorF14
set_option maxRecDepth 100000
set_option linter.unusedVariables false
set_option linter.unusedSimpArgs false
namespace Go.Proofs.YtkfkkajeoocbbaaGreatDoor
open Go.RowKit Go.Maps Go.Shelf
open Classical
def zC9 : Cg := ⟨0, 0, 0, false⟩
theorem alC9 (w : World) : (Instr.alloc 23 true (.tuple #[])).run Tryz.prog w = .ok (.pointer (some ⟨w.heap.size, 0, none⟩)) (w.alloc (.cells zC9.cs.toArray 23)) := by
  go_simp
  first | done | rfl
theorem bdC9 (w : World) : (Instr.build 23 #[(0, .int .i64 1), (1, .int .i64 4), (2, .int .i64 6)]).run Tryz.prog w = .ok c39.val w := by
  go_simp
  first | done | rfl
theorem stC9 {w : World} {q : Nat} {x : Cg} (h : CB7 w q x) (y : Cg) : (Instr.storeAt 23 (.pointer (some ⟨q, 0, none⟩)) y.val).run Tryz.prog w = .ok () (sets w q 0 y.cs) := by
  have := run_storeAt_mid (P := Tryz.prog) w q 0 23 y.cs.toArray (fun j hj => ⟨by rw [Nat.zero_add, h.cell j _ (List.getElem?_eq_getElem (show j < x.cs.length from hj))]; rfl, by rw [Nat.zero_add]; exact h.free j⟩) (by kernel_rfl) (all_oneCell_toArray (by
    intro v hv
    simp only [Cg.cs, List.mem_cons, List.not_mem_nil, or_false] at hv
    rcases hv with rfl | rfl | rfl | rfl <;> rfl))
  rw [setCells_sets] at this
  exact this
theorem CB7.put9 {w : World} {q : Nat} {x : Cg} (h : CB7 w q x) (y : Cg) : CB7 (sets w q 0 y.cs) q y := by
  have h1 := BX7.set h (j := 0) (by simp [Cg.cs]) (.int .i64 y.F)
  have h2 := BX7.set h1 (j := 1) (by simp [Cg.cs]) (.int .i64 y.R)
  have h3 := BX7.set h2 (j := 2) (by simp [Cg.cs]) (.int .i64 y.P)
  have h4 := BX7.set h3 (j := 3) (by simp [Cg.cs]) (.bool y.u)
  exact h4
theorem upd_sets9 (q : Nat) : ∀ (vs : List Value) (i : Nat) (w : World), Upd (fun k => k = q) w (sets w q i vs)
  | [], _, w => Upd.refl _ _
  | v :: r, i, w => ((Upd.refl (fun k => k = q) w).setCell (p := ⟨q, i, none⟩) (.inl rfl) v).trans (upd_sets9 q r (i + 1) _)
theorem updC9 (w : World) (q : Nat) (y : Cg) : Upd (fun k => k = q) w (sets w q 0 y.cs) := upd_sets9 q _ 0 w
theorem results_cfg9 {fn : Func} {i : Tmp} {q : Nat} {t : Cg} {tmps : Array Value} {w : World} (h : fn.results = #[.cell i 23]) (hq : tmps.getD i undef = .pointer (some ⟨q, 0, none⟩)) (hb : CB7 w q t) : (results fn tmps).run Tryz.prog w = .ok t.val w := by
  have := run_loadVar_mid (P := Tryz.prog) w q 0 23 t.cs _ (fun j v hv => by rw [Nat.zero_add]; exact hb.cell j v hv) Tryz.underlying23 rfl (by kernel_rfl)
  simp only [results, h]
  simp only [Array.getD_eq_getD_getElem?] at hq
  simp [Sem.run_bind, Result.andThen, hq, asAddr, this]
  rfl
def zM9 : Ms9 := ⟨zG9, none, 0, [], none, 0, []⟩
theorem alM9 (w : World) : (Instr.alloc 70 true (.tuple #[])).run Tryz.prog w = .ok (.pointer (some ⟨w.heap.size, 0, none⟩)) (w.alloc (.cells zM9.cs.toArray 70)) := by
  go_simp
  first | done | rfl
theorem bdDr9 (x : Int) (w : World) : (Instr.build 26 #[(1, .int .u64 x)]).run Tryz.prog w = .ok (.agg #[.int .u64 0, .int .u64 x]) w := by
  go_simp
  first | done | rfl
theorem bdMs9 (a b : Int) (g : Nat) (w : World) : (Instr.build 70 #[(0, .int .i64 5), (10, .slice (some ⟨g, 0, none⟩) 3 3)]).run Tryz.prog w = .ok (cm9 a b g).val w := by
  go_simp
  first | done | rfl
theorem ex_bs3_9 {o : Oper} {ρ : Operand → Value} {s : TypeId} {x y z : Operand} {X Y Z V : Value} {w w' : World} (ho : o.op = .buildSlice s 3 #[(0, x), (1, y), (2, z)]) (hx : ρ x = X) (hy : ρ y = Y) (hz : ρ z = Z) (hr : (Instr.buildSlice s 3 #[(0, X), (1, Y), (2, Z)]).run Tryz.prog w = .ok V w') : (execOp ρ o).run Tryz.prog w = .ok (.value V) w' := by
  unfold execOp
  simp only [ho, List.map_toArray, List.map_cons, List.map_nil, hx, hy, hz, Sem.run_bind, hr, Result.andThen_ok]
  rfl
theorem bs3_9 (a b : Int) (w : World) : (Instr.buildSlice 30 3 #[(0, .agg #[.int .u64 0, .int .u64 a]), (1, .agg #[.int .u64 0, .int .u64 b]), (2, .agg #[.int .u64 0, .int .u64 0])]).run Tryz.prog w = .ok (.slice (some ⟨w.heap.size, 0, none⟩) 3 3) (w.alloc (.cells (fl yD [(0, a), (0, b), (0, 0)]).toArray 26)) := by
  go_simp
  first | done | rfl
theorem stM9 {w : World} {q : Nat} {x : Ms9} (h : MB9 w q x) (y : Ms9) : (Instr.storeAt 70 (.pointer (some ⟨q, 0, none⟩)) y.val).run Tryz.prog w = .ok () (sets w q 0 y.cs) := by
  have := run_storeAt_mid (P := Tryz.prog) w q 0 70 y.cs.toArray (fun j hj => ⟨by rw [Nat.zero_add, h.cell j _ (List.getElem?_eq_getElem (show j < x.cs.length from hj))]; rfl, by rw [Nat.zero_add]; exact h.free j⟩) (by kernel_rfl) (all_oneCell_toArray (by
    intro v hv
    simp only [Ms9.cs, Mg.cs, List.mem_cons, List.not_mem_nil, or_false] at hv
    rcases hv with rfl | rfl | rfl | rfl | rfl | rfl | rfl | rfl | rfl | rfl | rfl | rfl | rfl | rfl | rfl | rfl | rfl | rfl <;> rfl))
  rw [setCells_sets] at this
  exact this
theorem BX7.puts9 {q : Nat} : ∀ (vs : List Value) (i : Nat) (w : World) (cs : List Value), BX7 w q cs → i + vs.length ≤ cs.length → BX7 (sets w q i vs) q (cs.take i ++ vs ++ cs.drop (i + vs.length))
  | [], i, w, cs, h, hl => by
    show BX7 w q _
    simpa using h
  | v :: r, i, w, cs, h, hl => by
    have hi : i < cs.length := by simp at hl; omega
    have := BX7.puts9 r (i + 1) (w.setCell ⟨q, i, none⟩ v) (cs.set i v) (BX7.set h hi v) (by simp at hl ⊢; omega)
    have e : (cs.set i v).take (i + 1) ++ r ++ (cs.set i v).drop (i + 1 + r.length) = cs.take i ++ (v :: r) ++ cs.drop (i + (v :: r).length) := by
      rw [List.set_eq_take_append_cons_drop, if_pos hi]
      have h1 : (cs.take i).length = i := by rw [List.length_take]; omega
      rw [show i + 1 + r.length = i + (v :: r).length by simp; omega]
      rw [List.take_append, h1, List.take_of_length_le (by omega), show i + 1 - i = 1 by omega, List.take_succ_cons, List.take_zero]
      rw [List.drop_append, h1, List.drop_of_length_le (by omega), List.nil_append, show i + (v :: r).length - i = r.length + 1 by simp, List.drop_succ_cons, List.drop_drop]
      simp [show i + 1 + r.length = i + (r.length + 1) by omega]
    rw [← e]
    exact this
theorem MB9.put9 {w : World} {q : Nat} {x : Ms9} (h : MB9 w q x) (y : Ms9) : MB9 (sets w q 0 y.cs) q y := by
  have := BX7.puts9 y.cs 0 w x.cs h (by show 0 + 18 ≤ 18; omega)
  rw [show x.cs.drop (0 + y.cs.length) = [] from rfl, List.append_nil, List.take_zero, List.nil_append] at this
  exact this
theorem updM9 (w : World) (q : Nat) (y : Ms9) : Upd (fun k => k = q) w (sets w q 0 y.cs) := upd_sets9 q _ 0 w
theorem results_msg9 {fn : Func} {i : Tmp} {q : Nat} {t : Ms9} {tmps : Array Value} {w : World} (h : fn.results = #[.cell i 70]) (hq : tmps.getD i undef = .pointer (some ⟨q, 0, none⟩)) (hb : MB9 w q t) : (results fn tmps).run Tryz.prog w = .ok t.val w := by
  have := run_loadVar_mid (P := Tryz.prog) w q 0 70 t.cs _ (fun j v hv => by rw [Nat.zero_add]; exact hb.cell j v hv) Tryz.underlying70 rfl (by kernel_rfl)
  simp only [results, h]
  simp only [Array.getD_eq_getD_getElem?] at hq
  simp [Sem.run_bind, Result.andThen, hq, asAddr, this]
  rfl
theorem first_al9 {B : Nat} {s : Sta} {w : World} (h : Fs9 B c39 1 1 s w) : (vst9 1 1 0 0 Z39).Alike9 s := by
  rcases h with ⟨h, _⟩ | ⟨_, g, n, hn, rfl, _⟩
  · exact absurd rfl h
  · obtain rfl : n = 3 := by have : ((3 : Nat) : Int) = n := hn; omega
    exact ⟨rfl, rfl, rfl, rfl, rfl, rfl, rfl, rfl, rfl, rfl, ⟨rfl, fun i x y hx hy => by cases hx⟩, ⟨rfl, fun i x y hx hy => by cases hx⟩⟩
theorem faD9_1 (q o : Nat) (w : World) : (Instr.fieldAt 26 (.pointer (some ⟨q, o, none⟩)) 1).run Tryz.prog w = .ok (.pointer (some ⟨q, o + 1, none⟩)) w := by go_simp
theorem ldU9 {w : World} {q i : Nat} {z : Int} (h : w.cell? ⟨q, i, none⟩ = some (.int .u64 z)) : (Instr.loadAt 24 (.pointer (some ⟨q, i, none⟩))).run Tryz.prog w = .ok (.int .u64 z) w := by go_simp
theorem eqlU9 (x y : Operand) (a b : Int) (h : a = b) (w : World) : (do eqGuard .eql 24 x y (.int .u64 a) (.int .u64 b); binOp .eql 24 (.int .u64 a) (.int .u64 b) : Sem Value).run Tryz.prog w = .ok (.bool true) w := by
  subst h
  go_simp
  first | done | rfl | simp
theorem vec0_9 {w : World} {a : Option Addr} {n c : Nat} {V : List (Int × Int)} (h : SlY yD w a n c V) (e : V = F39) : ∃ q o, a = some ⟨q, o, none⟩ ∧ (∀ v, (Instr.indexAt 30 (.slice a n c) (.int .i64 0)).run Tryz.prog v = .ok (.pointer (some ⟨q, o, none⟩)) v) ∧ w.cell? ⟨q, o + 1, none⟩ = some (.int .u64 4) := by
  subst e
  have hl : n = 3 := h.len.symm
  obtain ⟨q, o, ea, hlie⟩ := lie0_9 h (by omega)
  refine ⟨q, o, ea, fun v => ?_, ?_⟩
  · have := ixV9 q o n c 0 (by omega) v
    rw [ea]
    simpa using this
  · have := hlie 0 (0, 4) rfl 1 _ rfl
    simpa using this
set_option maxHeartbeats 1000000 in
theorem three9  (w : World) : Calls Tryz.prog 64 #[] w fun e w' => e = .returned (c39.val) ∧ Below w.heap.size w w' := by
  go_enter Tryz.func64, Tryz.ntmps64
  go_upto_region 0 with fail
  refine wp_region_lit ?_
  have hB : Below w.heap.size w w := Below.refl _ _
  have hv0 : Below w.heap.size w w := Below.refl _ _
  refine vl_gen (fun T => T.size = 2) rfl (fun Z0 hz => ?_)
  obtain ⟨w1, hw1⟩ : ∃ y, y = w.alloc (.cells zC9.cs.toArray 23) := ⟨_, rfl⟩
  have hb : Below w.heap.size w w1 := by rw [hw1]; exact (Below.refl _ _).alloc (Nat.le_refl _) _
  have HC : CB7 w1 w.heap.size zC9 := by rw [hw1]; exact BX7.new _ _ _
  have hz1 : w1.heap.size = w.heap.size + 1 := by rw [hw1]; simp
  refine vw (.pointer (some ⟨w.heap.size, 0, none⟩)) w1 (want_none rfl) (ex_al rfl (by rw [hw1]; exact alC9 _)) rfl hz (by decide) (fun Ya zz kk s0 => ?_)
  replace hz := zz
  clear kk zz
  refine wpList_nil ?_
  go_upto_region 1 with fail
  refine wp_region_lit ?_
  refine vt (c39.val) (ex_buildP rfl (by simp only [List.map_toArray, List.map_cons, List.map_nil, evc] <;> rfl) (bdC9 _)) hz (fun Yb zz kk s1 => ?_)
  replace s0 := ku s0
  replace hz := zz
  clear kk zz
  refine vs (sets w1 w.heap.size 0 c39.cs) (want_none rfl) (ex_st rfl (ev s0 rfl) (ev s1 rfl) (stC9 HC c39)) rfl ?_
  have HP := CB7.put9 HC c39
  have UP := updC9 w1 w.heap.size c39
  obtain ⟨u9, hu9⟩ : ∃ v, v = sets w1 w.heap.size 0 c39.cs := ⟨_, rfl⟩
  rw [← hu9] at HP UP ⊢
  clear hu9
  have hB9 := hide (hB.trans ((hb.mono (by omega)).trans (UP.below (by omega) (fun k hk => by omega))))
  clear s1
  refine wpList_nil ?_
  go_wp2
  refine bodyPost_ret (results_cfg9 rfl (getD_of s0) HP) rfl ?_
  exact ⟨rfl, hB9.out⟩
set_option maxHeartbeats 1000000 in
theorem commit9 (a b : Int) (w : World)  : Calls Tryz.prog 65 #[.int .u64 a, .int .u64 b] w fun e w' => ∃ g, e = .returned ((cm9 a b g).val) ∧ (cm9 a b g).In w' ∧ Below w.heap.size w w' := by
  go_enter Tryz.func65, Tryz.ntmps65
  go_upto_region 0 with fail
  refine wp_region_lit ?_
  refine vl_gen (fun T => T.size = 12 ∧ T[0]? = some (gw true (.int .u64 a)) ∧ T[1]? = some (gw true (.int .u64 b))) ⟨rfl, rfl, rfl⟩ (fun Z0 ⟨hz, s0, s1⟩ => ?_)
  have hB : Below w.heap.size w w := Below.refl _ _
  have hv0 : Below w.heap.size w w := Below.refl _ _
  obtain ⟨w1, hw1⟩ : ∃ y, y = w.alloc (.cells zM9.cs.toArray 70) := ⟨_, rfl⟩
  have hb : Below w.heap.size w w1 := by rw [hw1]; exact (Below.refl _ _).alloc (Nat.le_refl _) _
  have HM : MB9 w1 w.heap.size zM9 := by rw [hw1]; exact BX7.new _ _ _
  have hz1 : w1.heap.size = w.heap.size + 1 := by rw [hw1]; simp
  obtain ⟨w2, hw2⟩ : ∃ y, y = w1.alloc (.cells (fl yD [(0, a), (0, b), (0, 0)]).toArray 26) := ⟨_, rfl⟩
  have hb2 : Below w1.heap.size w1 w2 := by rw [hw2]; exact (Below.refl _ _).alloc (Nat.le_refl _) _
  have oV : SlY yD w2 (some ⟨w1.heap.size, 0, none⟩) 3 3 [(0, a), (0, b), (0, 0)] := by rw [hw2]; exact sl_lit kD _ [(0, a), (0, b), (0, 0)] _ (by show 3 ≤ maxLen; unfold maxLen; decide)
  have HM := HM.bel hb2
  have z2 := hb2.size
  refine vw (.pointer (some ⟨w.heap.size, 0, none⟩)) w1 (want_none rfl) (ex_al rfl (by rw [hw1]; exact alM9 _)) rfl hz (by decide) (fun Ya zz kk s4 => ?_)
  replace s0 := ku s0
  replace s1 := ku s1
  replace hz := zz
  clear kk zz
  refine wpList_nil ?_
  go_upto_region 1 with fail
  refine wp_region_lit ?_
  refine vt _ (ex_move rfl (ev s0 rfl)) hz (fun Yb zz kk s5 => ?_)
  replace s1 := ku s1
  replace s4 := ku s4
  replace hz := zz
  clear kk zz s0
  refine vt (.agg #[.int .u64 0, .int .u64 a]) (ex_buildP rfl (by simp only [List.map_toArray, List.map_cons, List.map_nil, (ev s5 rfl)] <;> rfl) (bdDr9 _ _)) hz (fun Yc zz kk s6 => ?_)
  replace s1 := ku s1
  replace s4 := ku s4
  replace hz := zz
  clear kk zz s5 Yb
  refine vt _ (ex_move rfl (ev s1 rfl)) hz (fun Yd zz kk s7 => ?_)
  replace s4 := ku s4
  replace s6 := ku s6
  replace hz := zz
  clear kk zz s1 Yc
  refine vt (.agg #[.int .u64 0, .int .u64 b]) (ex_buildP rfl (by simp only [List.map_toArray, List.map_cons, List.map_nil, (ev s7 rfl)] <;> rfl) (bdDr9 _ _)) hz (fun Ye zz kk s8 => ?_)
  replace s4 := ku s4
  replace s6 := ku s6
  replace hz := zz
  clear kk zz s7 Yd
  refine vt (.agg #[.int .u64 0, .int .u64 0]) (ex_build rfl (buildDr _)) hz (fun Yf zz kk s9 => ?_)
  replace s4 := ku s4
  replace s6 := ku s6
  replace s8 := ku s8
  replace hz := zz
  clear kk zz Ye
  refine vw (.slice (some ⟨w1.heap.size, 0, none⟩) 3 3) w2 (want_none rfl) (ex_bs3_9 rfl (ev s6 rfl) (ev s8 rfl) (ev s9 rfl) (by rw [hw2]; exact bs3_9 _ _ _)) rfl hz (by decide) (fun Yg zz kk s10 => ?_)
  replace s4 := ku s4
  replace hz := zz
  clear kk zz s6 s8 s9 Yf
  refine vt ((cm9 a b w1.heap.size).val) (ex_buildP rfl (by simp only [List.map_toArray, List.map_cons, List.map_nil, (ev s10 rfl), evc] <;> rfl) (bdMs9 _ _ _ _)) hz (fun Yh zz kk s11 => ?_)
  replace s4 := ku s4
  replace hz := zz
  clear kk zz s10 Yg
  refine vs (sets w2 w.heap.size 0 (cm9 a b w1.heap.size).cs) (want_none rfl) (ex_st rfl (ev s4 rfl) (ev s11 rfl) (stM9 HM (cm9 a b w1.heap.size))) rfl ?_
  have HP := MB9.put9 HM (cm9 a b w1.heap.size)
  have UP := updM9 w2 w.heap.size (cm9 a b w1.heap.size)
  obtain ⟨u9, hu9⟩ : ∃ v, v = sets w2 w.heap.size 0 (cm9 a b w1.heap.size).cs := ⟨_, rfl⟩
  rw [← hu9] at HP UP ⊢
  clear hu9
  have hB9 := hide (hB.trans (((hb.trans (hb2.mono (by omega))).mono (by omega)).trans (UP.below (by omega) (fun k hk => by omega))))
  clear s11
  refine wpList_nil ?_
  have oV2 := oV.upd UP (fun x hx _ e => by cases hx; have e2 : w1.heap.size = w.heap.size := e; omega)
  go_wp2
  refine bodyPost_ret (results_msg9 rfl (getD_of s4) HP) rfl ?_
  exact ⟨_, rfl, ⟨nil_sl8 _ _, oV2⟩, hB9.out⟩
set_option maxHeartbeats 1000000 in
theorem alive9  (w : World) (hT : Tab w) : Calls Tryz.prog 25 #[] w fun e w' => e = .returned (.bool true) ∧ Below w.heap.size w w' := by
  go_enter Tryz.func25, Tryz.ntmps25
  go_upto_region 0 with fail
  refine wp_region_lit ?_
  have hB : Below w.heap.size w w := Below.refl _ _
  have hv0 : Below w.heap.size w w := Below.refl _ _
  refine vl_gen (fun T => T.size = 83) rfl (fun Z0 hz => ?_)
  refine vt (.bool false) (ex_assign rfl rfl) hz (fun Ya zz kk s0 => ?_)
  replace hz := zz
  clear kk zz
  clear s0
  refine wpList_nil ?_
  go_upto_region 1 with fail
  refine wp_region_lit ?_
  refine vcallP (want_none rfl) (ex_call (args := #[]) rfl (by simp) rfl) (three9 w) rfl hz (by decide) ?_
  rintro e y1 ⟨rfl, hb⟩
  refine ⟨_, rfl, fun Yb zz kk s13 => ?_⟩
  have hB := hB.trans (hb.mono (by omega))
  have zy1 := hb.size
  clear hb
  replace hz := zz
  clear kk zz
  refine vcallP (want_none rfl) (ex_call rfl (by simp only [List.map_toArray, List.map_cons, List.map_nil, (ev s13 rfl), evc] <;> rfl) rfl) (first9 c39 1 y1) rfl hz (by decide) ?_
  rintro e y2 ⟨s, rfl, sin, hfs, hb⟩
  refine ⟨_, rfl, fun Yc zz kk s14 => ?_⟩
  have hB := hB.trans (hb.mono (by omega))
  have zy2 := hb.size
  clear hb
  have sal : (vst9 1 1 0 0 Z39).Alike9 s := first_al9 hfs
  clear hfs
  obtain ⟨q1, hq1⟩ : ∃ z, z = y2.heap.size := ⟨_, rfl⟩
  obtain ⟨y3, hy3⟩ : ∃ y, y = y2.alloc (.cells zS8.cs.toArray 36) := ⟨_, rfl⟩
  have b3 : Below y2.heap.size y2 y3 := by rw [hy3]; exact (Below.refl _ _).alloc (Nat.le_refl _) _
  have HQ : SB7 y3 q1 zS8 := by rw [hy3, hq1]; exact BX7.new _ _ _
  have z3 := b3.size
  have l3 := HQ.lt
  replace hz := zz
  clear kk zz s13 Yb
  refine vt _ (ex_move rfl (ev s14 rfl)) hz (fun Yd zz kk s12 => ?_)
  replace hz := zz
  clear kk zz s14 Yc
  refine vt (s.val) (ex_ext8 rfl (ev s12 rfl) rfl) hz (fun Ye zz kk s15 => ?_)
  replace s12 := ku s12
  replace hz := zz
  clear kk zz Yd
  refine vt (.int .i64 (fvE9 c39 1)) (ex_ext8 rfl (ev s12 rfl) rfl) hz (fun Yf zz kk s16 => ?_)
  replace s15 := ku s15
  replace hz := zz
  clear kk zz s12 Ye
  refine vw (.pointer (some ⟨q1, 0, none⟩)) y3 (want_none rfl) (ex_al rfl (by rw [hy3, hq1]; exact al12 _)) rfl hz (by decide) (fun Yg zz kk s1 => ?_)
  replace s15 := ku s15
  replace s16 := ku s16
  replace hz := zz
  clear kk zz Yf
  refine vs (sets y3 q1 0 s.cs) (want_none rfl) (ex_st rfl (ev s1 rfl) (ev s15 rfl) (st12 HQ s)) rfl ?_
  have HS := SB7.put HQ s
  have UT := upd12 y3 q1 s
  obtain ⟨y4, hy4⟩ : ∃ v, v = sets y3 q1 0 s.cs := ⟨_, rfl⟩
  rw [← hy4] at HS UT ⊢
  clear hy4 hy3
  have hb : Below y2.heap.size y2 y4 := b3.trans (UT.below (by omega) (fun k hk => by omega))
  have hB := hB.trans (hb.mono (by omega))
  have sin := sin.later hb
  clear hb UT HQ b3
  have hT := hT.later hB hT.lt
  have hB0 := hB.size
  refine vt _ (ex_assign rfl (ev s16 rfl)) hz (fun Yh zz kk s2 => ?_)
  replace s1 := ku s1
  replace hz := zz
  clear kk zz s15 s16 Yg
  refine wpList_nil ?_
  go_upto_region 2 with fail
  refine v_cut9 (fun T v => T.size = 83 ∧ T[2]? = some (gw true (.int .i64 (fvE9 c39 1))) ∧ ∃ (q : Nat) (t : Sta), T[3]? = some (gw true (.pointer (some ⟨q, 0, none⟩))) ∧ T[4]? = some (gw true (.bool true)) ∧ T[5]? = some (gw true (.int .i64 0)) ∧ Hid (SB7 v q t ∧ t.In v ∧ (vst9 1 1 0 0 F39).Alike9 t ∧ Below y4.heap.size y4 v)) ?_ ?_
  · refine vh_start (fun v => Below y4.heap.size y4 v) (by kernel_rfl) ?_
    have hS : Below y4.heap.size y4 y4.drew := (Below.refl _ _).drew
    obtain ⟨wd2, hwd⟩ : ∃ y, y = y4.drew := ⟨_, rfl⟩
    rw [← hwd] at hS ⊢
    clear hwd
    refine vh_take 1 true (s.val) rfl (by kernel_rfl) (by kernel_rfl) (by kernel_rfl) (want_none rfl) (fun hc v hv => ex_ld rfl (ev s1 rfl) (SB7.ld (HS.bel hv))) rfl hz (by decide) hS (fun R2x1 zz kk s19 => ?_)
    replace s2 := ku s2
    replace hz := zz
    clear kk zz
    obtain ⟨q, hq⟩ : ∃ z, z = wd2.heap.size := ⟨_, rfl⟩
    obtain ⟨y2x1, hy2x1⟩ : ∃ y, y = wd2.alloc (.cells zS8.cs.toArray 36) := ⟨_, rfl⟩
    have ba : Below wd2.heap.size wd2 y2x1 := by rw [hy2x1]; exact (Below.refl _ _).alloc (Nat.le_refl _) _
    have HQ : SB7 y2x1 q zS8 := by rw [hy2x1, hq]; exact BX7.new _ _ _
    have hqb := hS.size
    have hSa := hS.trans (ba.mono hS.size)
    have za := ba.size
    have lq := HQ.lt
    refine vh_two9 0 8 (by kernel_rfl) rfl rfl (want_none rfl) (ex_call (args := #[]) rfl (by simp) rfl) (three9 wd2) rfl hz (by decide) ?_ (.pointer (some ⟨q, 0, none⟩)) y2x1 (want_none rfl) (ex_al rfl (by rw [hy2x1, hq]; exact al12 _)) rfl (by decide) hSa ?_
    · clear ba HQ hy2x1 hSa za lq hqb hq
      rintro e c2a ⟨rfl, h2a⟩
      clear y2x1 q
      refine ⟨_, rfl, hS.trans (h2a.mono hS.size), fun R2x2 zz kk s18 => ?_⟩
      replace s2 := ku s2
      replace s19 := ku s19
      replace hz := zz
      clear kk zz
      have zc0 := h2a.size
      have hS := hS.trans (h2a.mono hS.size)
      obtain ⟨q, hq⟩ : ∃ z, z = c2a.heap.size := ⟨_, rfl⟩
      obtain ⟨y2x2, hy2x2⟩ : ∃ y, y = c2a.alloc (.cells zS8.cs.toArray 36) := ⟨_, rfl⟩
      have ba : Below c2a.heap.size c2a y2x2 := by rw [hy2x2]; exact (Below.refl _ _).alloc (Nat.le_refl _) _
      have HQ : SB7 y2x2 q zS8 := by rw [hy2x2, hq]; exact BX7.new _ _ _
      have hqb := hS.size
      have hSa := hS.trans (ba.mono hS.size)
      have za := ba.size
      have lq := HQ.lt
      refine vh_two9 2 8 (by kernel_rfl) rfl rfl (want_none rfl) (ex_call (args := #[.int .u64 4, .int .u64 0]) rfl (by simp only [List.map_toArray, List.map_cons, List.map_nil, evc] <;> rfl) rfl) (commit9 4 0 c2a) rfl hz (by decide) ?_ (.pointer (some ⟨q, 0, none⟩)) y2x2 (want_none rfl) (ex_al rfl (by rw [hy2x2, hq]; exact al12 _)) rfl (by decide) hSa ?_
      · clear ba HQ hy2x2 hSa za lq hqb hq
        rintro e c2b ⟨g, rfl, gin, h2b⟩
        clear y2x2 q
        refine ⟨_, rfl, hS.trans (h2b.mono hS.size), fun R2x3 zz kk s20 => ?_⟩
        replace s2 := ku s2
        replace s19 := ku s19
        replace s18 := ku s18
        replace hz := zz
        clear kk zz
        have zc1 := h2b.size
        have hS := hS.trans (h2b.mono hS.size)
        obtain ⟨q, hq⟩ : ∃ z, z = c2b.heap.size := ⟨_, rfl⟩
        obtain ⟨y2x3, hy2x3⟩ : ∃ y, y = c2b.alloc (.cells zS8.cs.toArray 36) := ⟨_, rfl⟩
        have ba : Below c2b.heap.size c2b y2x3 := by rw [hy2x3]; exact (Below.refl _ _).alloc (Nat.le_refl _) _
        have HQ : SB7 y2x3 q zS8 := by rw [hy2x3, hq]; exact BX7.new _ _ _
        have hqb := hS.size
        have hSa := hS.trans (ba.mono hS.size)
        have za := ba.size
        have lq := HQ.lt
        refine vh_two9 3 8 (by kernel_rfl) rfl rfl (want_none rfl) (ex_call rfl (by simp only [List.map_toArray, List.map_cons, List.map_nil, (ev s18 rfl), (ev s19 rfl), (ev s20 rfl), evc] <;> rfl) rfl) (admitC9 s Z39 F39 4 0 g true c2b sal (by decide) (ck_z9 0 0) (ad1_9 g).1 (ad1_9 g).2 (sin.later hS) gin (hT.later hS hT.lt)) rfl hz (by decide) ?_ (.pointer (some ⟨q, 0, none⟩)) y2x3 (want_none rfl) (ex_al rfl (by rw [hy2x3, hq]; exact al12 _)) rfl (by decide) hSa ?_
        · clear ba HQ hy2x3 hSa za lq hqb hq
          rintro e c2c ⟨t, rfl, tin, tal, tup, h2c⟩
          clear y2x3 q
          refine ⟨_, rfl, hS.trans (h2c.mono hS.size), fun R2x4 zz kk s21 => ?_⟩
          replace s2 := ku s2
          replace s19 := ku s19
          replace s18 := ku s18
          replace s20 := ku s20
          replace hz := zz
          clear kk zz
          have zc2 := h2c.size
          have gin := gin.later h2c
          have hS := hS.trans (h2c.mono hS.size)
          refine vh_take 4 true (.tuple #[t.val, .bool true, .int .i64 0]) rfl (by kernel_rfl) (by kernel_rfl) (by kernel_rfl) (want_none rfl) (fun hc v hv => ex_move rfl (ev s21 rfl)) rfl hz (by decide) hS (fun R2x5 zz kk s17 => ?_)
          replace s2 := ku s2
          replace s19 := ku s19
          replace s18 := ku s18
          replace s20 := ku s20
          replace s21 := ku s21
          replace hz := zz
          clear kk zz
          refine vh_take 5 true (t.val) rfl (by kernel_rfl) (by kernel_rfl) (by kernel_rfl) (want_none rfl) (fun hc v hv => ex_ext8 rfl (ev s17 rfl) rfl) rfl hz (by decide) hS (fun R2x6 zz kk s22 => ?_)
          replace s2 := ku s2
          replace s19 := ku s19
          replace s18 := ku s18
          replace s20 := ku s20
          replace s21 := ku s21
          replace s17 := ku s17
          replace hz := zz
          clear kk zz
          refine vh_take 6 true (.bool true) rfl (by kernel_rfl) (by kernel_rfl) (by kernel_rfl) (want_none rfl) (fun hc v hv => ex_ext8 rfl (ev s17 rfl) rfl) rfl hz (by decide) hS (fun R2x7 zz kk s23 => ?_)
          replace s2 := ku s2
          replace s19 := ku s19
          replace s18 := ku s18
          replace s20 := ku s20
          replace s21 := ku s21
          replace s17 := ku s17
          replace s22 := ku s22
          replace hz := zz
          clear kk zz
          refine vh_take 7 true (.int .i64 0) rfl (by kernel_rfl) (by kernel_rfl) (by kernel_rfl) (want_none rfl) (fun hc v hv => ex_ext8 rfl (ev s17 rfl) rfl) rfl hz (by decide) hS (fun R2x8 zz kk s24 => ?_)
          replace s2 := ku s2
          replace s19 := ku s19
          replace s18 := ku s18
          replace s20 := ku s20
          replace s21 := ku s21
          replace s17 := ku s17
          replace s22 := ku s22
          replace s23 := ku s23
          replace hz := zz
          clear kk zz
          obtain ⟨q, hq⟩ : ∃ z, z = c2c.heap.size := ⟨_, rfl⟩
          obtain ⟨y2x4, hy2x4⟩ : ∃ y, y = c2c.alloc (.cells zS8.cs.toArray 36) := ⟨_, rfl⟩
          have ba : Below c2c.heap.size c2c y2x4 := by rw [hy2x4]; exact (Below.refl _ _).alloc (Nat.le_refl _) _
          have HQ : SB7 y2x4 q zS8 := by rw [hy2x4, hq]; exact BX7.new _ _ _
          have hqb := hS.size
          have hSa := hS.trans (ba.mono hS.size)
          have za := ba.size
          have lq := HQ.lt
          refine vh_val8 8 (.pointer (some ⟨q, 0, none⟩)) y2x4 rfl (by kernel_rfl) (want_none rfl) (ex_al rfl (by rw [hy2x4, hq]; exact al12 _)) rfl hz (by decide) hSa (fun R2x9 zz kk s3 => ?_)
          replace s2 := ku s2
          replace s19 := ku s19
          replace s18 := ku s18
          replace s20 := ku s20
          replace s21 := ku s21
          replace s17 := ku s17
          replace s22 := ku s22
          replace s23 := ku s23
          replace s24 := ku s24
          replace hz := zz
          clear kk zz
          have hS := hSa
          clear hy2x4 hSa
          have HT := SB7.put HQ t
          have UT := upd12 y2x4 q t
          have hST := hS.trans (UT.below hS.size (fun k hk => by omega))
          refine vh_store8 9 (sets y2x4 q 0 t.cs) rfl (by kernel_rfl) (want_none rfl) (ex_st rfl (ev s3 rfl) (ev s22 rfl) (st12 HQ t)) rfl hST ?_
          obtain ⟨x7, hx7⟩ : ∃ v, v = sets y2x4 q 0 t.cs := ⟨_, rfl⟩
          rw [← hx7] at HT UT hST ⊢
          clear hx7
          have hLT : Below c2c.heap.size c2c x7 := ba.trans (UT.below (by omega) (fun k hk => by omega))
          have tin7 : t.In x7 := tin.later hLT
          have hS := hST
          refine vh_take 10 true (.bool true) rfl (by kernel_rfl) (by kernel_rfl) (by kernel_rfl) (want_none rfl) (fun hc v hv => ex_assign rfl (ev s23 rfl)) rfl hz (by decide) hS (fun R2x10 zz kk s4 => ?_)
          replace s2 := ku s2
          replace s19 := ku s19
          replace s18 := ku s18
          replace s20 := ku s20
          replace s21 := ku s21
          replace s17 := ku s17
          replace s22 := ku s22
          replace s23 := ku s23
          replace s24 := ku s24
          replace s3 := ku s3
          replace hz := zz
          clear kk zz
          refine vh_take 11 true (.int .i64 0) rfl (by kernel_rfl) (by kernel_rfl) (by kernel_rfl) (want_none rfl) (fun hc v hv => ex_assign rfl (ev s24 rfl)) rfl hz (by decide) hS (fun R2x11 zz kk s5 => ?_)
          replace s2 := ku s2
          replace s19 := ku s19
          replace s18 := ku s18
          replace s20 := ku s20
          replace s21 := ku s21
          replace s17 := ku s17
          replace s22 := ku s22
          replace s23 := ku s23
          replace s24 := ku s24
          replace s3 := ku s3
          replace s4 := ku s4
          replace hz := zz
          clear kk zz
          refine vh_done (by kernel_rfl) ?_
          exact ⟨_, rfl, hz, s2, q, t, s3, s4, s5, HT, tin7, tal, hS⟩
        · intro R2x12 zz kk s3x
          replace s2 := ku s2
          replace s19 := ku s19
          replace s18 := ku s18
          replace s20 := ku s20
          clear kk hz
          have hz := zz
          have s3 := s3x
          clear zz s3x
          have gin := gin.later ba
          have hS := hSa
          clear hy2x3 hSa
          refine vh_call 3 rfl (by kernel_rfl) (want_none rfl) (ex_call rfl (by simp only [List.map_toArray, List.map_cons, List.map_nil, (ev s18 rfl), (ev s19 rfl), (ev s20 rfl), evc] <;> rfl) rfl) (admitC9 s Z39 F39 4 0 g true y2x3 sal (by decide) (ck_z9 0 0) (ad1_9 g).1 (ad1_9 g).2 (sin.later hS) gin (hT.later hS hT.lt)) rfl hz (by decide) ?_
          rintro e c2c ⟨t, rfl, tin, tal, tup, h2c⟩
          refine ⟨_, rfl, hS.trans (h2c.mono hS.size), fun R2x13 zz kk s21 => ?_⟩
          replace s2 := ku s2
          replace s19 := ku s19
          replace s18 := ku s18
          replace s20 := ku s20
          replace s3 := ku s3
          replace hz := zz
          clear kk zz
          have zc2 := h2c.size
          have gin := gin.later h2c
          have HQ := HQ.bel h2c
          have hS := hS.trans (h2c.mono hS.size)
          refine vh_take 4 true (.tuple #[t.val, .bool true, .int .i64 0]) rfl (by kernel_rfl) (by kernel_rfl) (by kernel_rfl) (want_none rfl) (fun hc v hv => ex_move rfl (ev s21 rfl)) rfl hz (by decide) hS (fun R2x14 zz kk s17 => ?_)
          replace s2 := ku s2
          replace s19 := ku s19
          replace s18 := ku s18
          replace s20 := ku s20
          replace s3 := ku s3
          replace s21 := ku s21
          replace hz := zz
          clear kk zz
          refine vh_take 5 true (t.val) rfl (by kernel_rfl) (by kernel_rfl) (by kernel_rfl) (want_none rfl) (fun hc v hv => ex_ext8 rfl (ev s17 rfl) rfl) rfl hz (by decide) hS (fun R2x15 zz kk s22 => ?_)
          replace s2 := ku s2
          replace s19 := ku s19
          replace s18 := ku s18
          replace s20 := ku s20
          replace s3 := ku s3
          replace s21 := ku s21
          replace s17 := ku s17
          replace hz := zz
          clear kk zz
          refine vh_take 6 true (.bool true) rfl (by kernel_rfl) (by kernel_rfl) (by kernel_rfl) (want_none rfl) (fun hc v hv => ex_ext8 rfl (ev s17 rfl) rfl) rfl hz (by decide) hS (fun R2x16 zz kk s23 => ?_)
          replace s2 := ku s2
          replace s19 := ku s19
          replace s18 := ku s18
          replace s20 := ku s20
          replace s3 := ku s3
          replace s21 := ku s21
          replace s17 := ku s17
          replace s22 := ku s22
          replace hz := zz
          clear kk zz
          refine vh_take 7 true (.int .i64 0) rfl (by kernel_rfl) (by kernel_rfl) (by kernel_rfl) (want_none rfl) (fun hc v hv => ex_ext8 rfl (ev s17 rfl) rfl) rfl hz (by decide) hS (fun R2x17 zz kk s24 => ?_)
          replace s2 := ku s2
          replace s19 := ku s19
          replace s18 := ku s18
          replace s20 := ku s20
          replace s3 := ku s3
          replace s21 := ku s21
          replace s17 := ku s17
          replace s22 := ku s22
          replace s23 := ku s23
          replace hz := zz
          clear kk zz
          have HT := SB7.put HQ t
          have UT := upd12 c2c q t
          have hST := hS.trans (UT.below hS.size (fun k hk => by omega))
          refine vh_store8 9 (sets c2c q 0 t.cs) rfl (by kernel_rfl) (want_none rfl) (ex_st rfl (ev s3 rfl) (ev s22 rfl) (st12 HQ t)) rfl hST ?_
          obtain ⟨x7, hx7⟩ : ∃ v, v = sets c2c q 0 t.cs := ⟨_, rfl⟩
          rw [← hx7] at HT UT hST ⊢
          clear hx7
          have tin7 : t.In x7 := tup q x7 (by omega) UT
          have hS := hST
          refine vh_take 10 true (.bool true) rfl (by kernel_rfl) (by kernel_rfl) (by kernel_rfl) (want_none rfl) (fun hc v hv => ex_assign rfl (ev s23 rfl)) rfl hz (by decide) hS (fun R2x18 zz kk s4 => ?_)
          replace s2 := ku s2
          replace s19 := ku s19
          replace s18 := ku s18
          replace s20 := ku s20
          replace s3 := ku s3
          replace s21 := ku s21
          replace s17 := ku s17
          replace s22 := ku s22
          replace s23 := ku s23
          replace s24 := ku s24
          replace hz := zz
          clear kk zz
          refine vh_take 11 true (.int .i64 0) rfl (by kernel_rfl) (by kernel_rfl) (by kernel_rfl) (want_none rfl) (fun hc v hv => ex_assign rfl (ev s24 rfl)) rfl hz (by decide) hS (fun R2x19 zz kk s5 => ?_)
          replace s2 := ku s2
          replace s19 := ku s19
          replace s18 := ku s18
          replace s20 := ku s20
          replace s3 := ku s3
          replace s21 := ku s21
          replace s17 := ku s17
          replace s22 := ku s22
          replace s23 := ku s23
          replace s24 := ku s24
          replace s4 := ku s4
          replace hz := zz
          clear kk zz
          refine vh_done (by kernel_rfl) ?_
          exact ⟨_, rfl, hz, s2, q, t, s3, s4, s5, HT, tin7, tal, hS⟩
      · intro R2x20 zz kk s3x
        replace s2 := ku s2
        replace s19 := ku s19
        replace s18 := ku s18
        clear kk hz
        have hz := zz
        have s3 := s3x
        clear zz s3x
        have hS := hSa
        clear hy2x2 hSa
        refine vh_call 2 rfl (by kernel_rfl) (want_none rfl) (ex_call (args := #[.int .u64 4, .int .u64 0]) rfl (by simp only [List.map_toArray, List.map_cons, List.map_nil, evc] <;> rfl) rfl) (commit9 4 0 y2x2) rfl hz (by decide) ?_
        rintro e c2b ⟨g, rfl, gin, h2b⟩
        refine ⟨_, rfl, hS.trans (h2b.mono hS.size), fun R2x21 zz kk s20 => ?_⟩
        replace s2 := ku s2
        replace s19 := ku s19
        replace s18 := ku s18
        replace s3 := ku s3
        replace hz := zz
        clear kk zz
        have zc1 := h2b.size
        have HQ := HQ.bel h2b
        have hS := hS.trans (h2b.mono hS.size)
        refine vh_call 3 rfl (by kernel_rfl) (want_none rfl) (ex_call rfl (by simp only [List.map_toArray, List.map_cons, List.map_nil, (ev s18 rfl), (ev s19 rfl), (ev s20 rfl), evc] <;> rfl) rfl) (admitC9 s Z39 F39 4 0 g true c2b sal (by decide) (ck_z9 0 0) (ad1_9 g).1 (ad1_9 g).2 (sin.later hS) gin (hT.later hS hT.lt)) rfl hz (by decide) ?_
        rintro e c2c ⟨t, rfl, tin, tal, tup, h2c⟩
        refine ⟨_, rfl, hS.trans (h2c.mono hS.size), fun R2x22 zz kk s21 => ?_⟩
        replace s2 := ku s2
        replace s19 := ku s19
        replace s18 := ku s18
        replace s3 := ku s3
        replace s20 := ku s20
        replace hz := zz
        clear kk zz
        have zc2 := h2c.size
        have gin := gin.later h2c
        have HQ := HQ.bel h2c
        have hS := hS.trans (h2c.mono hS.size)
        refine vh_take 4 true (.tuple #[t.val, .bool true, .int .i64 0]) rfl (by kernel_rfl) (by kernel_rfl) (by kernel_rfl) (want_none rfl) (fun hc v hv => ex_move rfl (ev s21 rfl)) rfl hz (by decide) hS (fun R2x23 zz kk s17 => ?_)
        replace s2 := ku s2
        replace s19 := ku s19
        replace s18 := ku s18
        replace s3 := ku s3
        replace s20 := ku s20
        replace s21 := ku s21
        replace hz := zz
        clear kk zz
        refine vh_take 5 true (t.val) rfl (by kernel_rfl) (by kernel_rfl) (by kernel_rfl) (want_none rfl) (fun hc v hv => ex_ext8 rfl (ev s17 rfl) rfl) rfl hz (by decide) hS (fun R2x24 zz kk s22 => ?_)
        replace s2 := ku s2
        replace s19 := ku s19
        replace s18 := ku s18
        replace s3 := ku s3
        replace s20 := ku s20
        replace s21 := ku s21
        replace s17 := ku s17
        replace hz := zz
        clear kk zz
        refine vh_take 6 true (.bool true) rfl (by kernel_rfl) (by kernel_rfl) (by kernel_rfl) (want_none rfl) (fun hc v hv => ex_ext8 rfl (ev s17 rfl) rfl) rfl hz (by decide) hS (fun R2x25 zz kk s23 => ?_)
        replace s2 := ku s2
        replace s19 := ku s19
        replace s18 := ku s18
        replace s3 := ku s3
        replace s20 := ku s20
        replace s21 := ku s21
        replace s17 := ku s17
        replace s22 := ku s22
        replace hz := zz
        clear kk zz
        refine vh_take 7 true (.int .i64 0) rfl (by kernel_rfl) (by kernel_rfl) (by kernel_rfl) (want_none rfl) (fun hc v hv => ex_ext8 rfl (ev s17 rfl) rfl) rfl hz (by decide) hS (fun R2x26 zz kk s24 => ?_)
        replace s2 := ku s2
        replace s19 := ku s19
        replace s18 := ku s18
        replace s3 := ku s3
        replace s20 := ku s20
        replace s21 := ku s21
        replace s17 := ku s17
        replace s22 := ku s22
        replace s23 := ku s23
        replace hz := zz
        clear kk zz
        have HT := SB7.put HQ t
        have UT := upd12 c2c q t
        have hST := hS.trans (UT.below hS.size (fun k hk => by omega))
        refine vh_store8 9 (sets c2c q 0 t.cs) rfl (by kernel_rfl) (want_none rfl) (ex_st rfl (ev s3 rfl) (ev s22 rfl) (st12 HQ t)) rfl hST ?_
        obtain ⟨x7, hx7⟩ : ∃ v, v = sets c2c q 0 t.cs := ⟨_, rfl⟩
        rw [← hx7] at HT UT hST ⊢
        clear hx7
        have tin7 : t.In x7 := tup q x7 (by omega) UT
        have hS := hST
        refine vh_take 10 true (.bool true) rfl (by kernel_rfl) (by kernel_rfl) (by kernel_rfl) (want_none rfl) (fun hc v hv => ex_assign rfl (ev s23 rfl)) rfl hz (by decide) hS (fun R2x27 zz kk s4 => ?_)
        replace s2 := ku s2
        replace s19 := ku s19
        replace s18 := ku s18
        replace s3 := ku s3
        replace s20 := ku s20
        replace s21 := ku s21
        replace s17 := ku s17
        replace s22 := ku s22
        replace s23 := ku s23
        replace s24 := ku s24
        replace hz := zz
        clear kk zz
        refine vh_take 11 true (.int .i64 0) rfl (by kernel_rfl) (by kernel_rfl) (by kernel_rfl) (want_none rfl) (fun hc v hv => ex_assign rfl (ev s24 rfl)) rfl hz (by decide) hS (fun R2x28 zz kk s5 => ?_)
        replace s2 := ku s2
        replace s19 := ku s19
        replace s18 := ku s18
        replace s3 := ku s3
        replace s20 := ku s20
        replace s21 := ku s21
        replace s17 := ku s17
        replace s22 := ku s22
        replace s23 := ku s23
        replace s24 := ku s24
        replace s4 := ku s4
        replace hz := zz
        clear kk zz
        refine vh_done (by kernel_rfl) ?_
        exact ⟨_, rfl, hz, s2, q, t, s3, s4, s5, HT, tin7, tal, hS⟩
    · intro R2x29 zz kk s3x
      replace s2 := ku s2
      replace s19 := ku s19
      clear kk hz
      have hz := zz
      have s3 := s3x
      clear zz s3x
      have hS := hSa
      clear hy2x1 hSa
      refine vh_call 0 rfl (by kernel_rfl) (want_none rfl) (ex_call (args := #[]) rfl (by simp) rfl) (three9 y2x1) rfl hz (by decide) ?_
      rintro e c2a ⟨rfl, h2a⟩
      refine ⟨_, rfl, hS.trans (h2a.mono hS.size), fun R2x30 zz kk s18 => ?_⟩
      replace s2 := ku s2
      replace s19 := ku s19
      replace s3 := ku s3
      replace hz := zz
      clear kk zz
      have zc0 := h2a.size
      have HQ := HQ.bel h2a
      have hS := hS.trans (h2a.mono hS.size)
      refine vh_call 2 rfl (by kernel_rfl) (want_none rfl) (ex_call (args := #[.int .u64 4, .int .u64 0]) rfl (by simp only [List.map_toArray, List.map_cons, List.map_nil, evc] <;> rfl) rfl) (commit9 4 0 c2a) rfl hz (by decide) ?_
      rintro e c2b ⟨g, rfl, gin, h2b⟩
      refine ⟨_, rfl, hS.trans (h2b.mono hS.size), fun R2x31 zz kk s20 => ?_⟩
      replace s2 := ku s2
      replace s19 := ku s19
      replace s3 := ku s3
      replace s18 := ku s18
      replace hz := zz
      clear kk zz
      have zc1 := h2b.size
      have HQ := HQ.bel h2b
      have hS := hS.trans (h2b.mono hS.size)
      refine vh_call 3 rfl (by kernel_rfl) (want_none rfl) (ex_call rfl (by simp only [List.map_toArray, List.map_cons, List.map_nil, (ev s18 rfl), (ev s19 rfl), (ev s20 rfl), evc] <;> rfl) rfl) (admitC9 s Z39 F39 4 0 g true c2b sal (by decide) (ck_z9 0 0) (ad1_9 g).1 (ad1_9 g).2 (sin.later hS) gin (hT.later hS hT.lt)) rfl hz (by decide) ?_
      rintro e c2c ⟨t, rfl, tin, tal, tup, h2c⟩
      refine ⟨_, rfl, hS.trans (h2c.mono hS.size), fun R2x32 zz kk s21 => ?_⟩
      replace s2 := ku s2
      replace s19 := ku s19
      replace s3 := ku s3
      replace s18 := ku s18
      replace s20 := ku s20
      replace hz := zz
      clear kk zz
      have zc2 := h2c.size
      have gin := gin.later h2c
      have HQ := HQ.bel h2c
      have hS := hS.trans (h2c.mono hS.size)
      refine vh_take 4 true (.tuple #[t.val, .bool true, .int .i64 0]) rfl (by kernel_rfl) (by kernel_rfl) (by kernel_rfl) (want_none rfl) (fun hc v hv => ex_move rfl (ev s21 rfl)) rfl hz (by decide) hS (fun R2x33 zz kk s17 => ?_)
      replace s2 := ku s2
      replace s19 := ku s19
      replace s3 := ku s3
      replace s18 := ku s18
      replace s20 := ku s20
      replace s21 := ku s21
      replace hz := zz
      clear kk zz
      refine vh_take 5 true (t.val) rfl (by kernel_rfl) (by kernel_rfl) (by kernel_rfl) (want_none rfl) (fun hc v hv => ex_ext8 rfl (ev s17 rfl) rfl) rfl hz (by decide) hS (fun R2x34 zz kk s22 => ?_)
      replace s2 := ku s2
      replace s19 := ku s19
      replace s3 := ku s3
      replace s18 := ku s18
      replace s20 := ku s20
      replace s21 := ku s21
      replace s17 := ku s17
      replace hz := zz
      clear kk zz
      refine vh_take 6 true (.bool true) rfl (by kernel_rfl) (by kernel_rfl) (by kernel_rfl) (want_none rfl) (fun hc v hv => ex_ext8 rfl (ev s17 rfl) rfl) rfl hz (by decide) hS (fun R2x35 zz kk s23 => ?_)
      replace s2 := ku s2
      replace s19 := ku s19
      replace s3 := ku s3
      replace s18 := ku s18
      replace s20 := ku s20
      replace s21 := ku s21
      replace s17 := ku s17
      replace s22 := ku s22
      replace hz := zz
      clear kk zz
      refine vh_take 7 true (.int .i64 0) rfl (by kernel_rfl) (by kernel_rfl) (by kernel_rfl) (want_none rfl) (fun hc v hv => ex_ext8 rfl (ev s17 rfl) rfl) rfl hz (by decide) hS (fun R2x36 zz kk s24 => ?_)
      replace s2 := ku s2
      replace s19 := ku s19
      replace s3 := ku s3
      replace s18 := ku s18
      replace s20 := ku s20
      replace s21 := ku s21
      replace s17 := ku s17
      replace s22 := ku s22
      replace s23 := ku s23
      replace hz := zz
      clear kk zz
      have HT := SB7.put HQ t
      have UT := upd12 c2c q t
      have hST := hS.trans (UT.below hS.size (fun k hk => by omega))
      refine vh_store8 9 (sets c2c q 0 t.cs) rfl (by kernel_rfl) (want_none rfl) (ex_st rfl (ev s3 rfl) (ev s22 rfl) (st12 HQ t)) rfl hST ?_
      obtain ⟨x7, hx7⟩ : ∃ v, v = sets c2c q 0 t.cs := ⟨_, rfl⟩
      rw [← hx7] at HT UT hST ⊢
      clear hx7
      have tin7 : t.In x7 := tup q x7 (by omega) UT
      have hS := hST
      refine vh_take 10 true (.bool true) rfl (by kernel_rfl) (by kernel_rfl) (by kernel_rfl) (want_none rfl) (fun hc v hv => ex_assign rfl (ev s23 rfl)) rfl hz (by decide) hS (fun R2x37 zz kk s4 => ?_)
      replace s2 := ku s2
      replace s19 := ku s19
      replace s3 := ku s3
      replace s18 := ku s18
      replace s20 := ku s20
      replace s21 := ku s21
      replace s17 := ku s17
      replace s22 := ku s22
      replace s23 := ku s23
      replace s24 := ku s24
      replace hz := zz
      clear kk zz
      refine vh_take 11 true (.int .i64 0) rfl (by kernel_rfl) (by kernel_rfl) (by kernel_rfl) (want_none rfl) (fun hc v hv => ex_assign rfl (ev s24 rfl)) rfl hz (by decide) hS (fun R2x38 zz kk s5 => ?_)
      replace s2 := ku s2
      replace s19 := ku s19
      replace s3 := ku s3
      replace s18 := ku s18
      replace s20 := ku s20
      replace s21 := ku s21
      replace s17 := ku s17
      replace s22 := ku s22
      replace s23 := ku s23
      replace s24 := ku s24
      replace s4 := ku s4
      replace hz := zz
      clear kk zz
      refine vh_done (by kernel_rfl) ?_
      exact ⟨_, rfl, hz, s2, q, t, s3, s4, s5, HT, tin7, tal, hS⟩
  · clear hz s1 s2
    intro T9 z1 hJ
    obtain ⟨hz, s2, q3, t, s3, s4, s5, HI9⟩ := hJ
    obtain ⟨HT3, tin, tal, hb⟩ := HI9.out
    clear HI9 HS sin sal
    have hT := hT.later hb hT.lt
    have hB := hB.trans (hb.mono hB0)
    have hB0 := hB.size
    clear hb
    go_upto_region 3 with fail
    refine v_cut9 (fun T v => T.size = 83 ∧ T[2]? = some (gw true (.int .i64 (fvE9 c39 1))) ∧ T[3]? = some (gw true (.pointer (some ⟨q3, 0, none⟩))) ∧ T[4]? = some (gw true (.bool true)) ∧ T[5]? = some (gw true (.int .i64 0)) ∧ ∃ (q : Nat) (t : Sta), T[6]? = some (gw true (.pointer (some ⟨q, 0, none⟩))) ∧ T[7]? = some (gw true (.bool false)) ∧ T[8]? = some (gw true (.int .i64 0)) ∧ Hid (SB7 v q t ∧ t.In v ∧ (vst9 1 1 0 0 F39).Alike9 t ∧ Below z1.heap.size z1 v)) ?_ ?_
    · refine vh_start (fun v => Below z1.heap.size z1 v) (by kernel_rfl) ?_
      have hS : Below z1.heap.size z1 z1.drew := (Below.refl _ _).drew
      obtain ⟨wd3, hwd⟩ : ∃ y, y = z1.drew := ⟨_, rfl⟩
      rw [← hwd] at hS ⊢
      clear hwd
      refine vh_take 1 true (t.val) rfl (by kernel_rfl) (by kernel_rfl) (by kernel_rfl) (want_none rfl) (fun hc v hv => ex_ld rfl (ev s3 rfl) (SB7.ld (HT3.bel hv))) rfl hz (by decide) hS (fun R3x1 zz kk s27 => ?_)
      replace s2 := ku s2
      replace s3 := ku s3
      replace s4 := ku s4
      replace s5 := ku s5
      replace hz := zz
      clear kk zz
      obtain ⟨q, hq⟩ : ∃ z, z = wd3.heap.size := ⟨_, rfl⟩
      obtain ⟨y3x1, hy3x1⟩ : ∃ y, y = wd3.alloc (.cells zS8.cs.toArray 36) := ⟨_, rfl⟩
      have ba : Below wd3.heap.size wd3 y3x1 := by rw [hy3x1]; exact (Below.refl _ _).alloc (Nat.le_refl _) _
      have HQ : SB7 y3x1 q zS8 := by rw [hy3x1, hq]; exact BX7.new _ _ _
      have hqb := hS.size
      have hSa := hS.trans (ba.mono hS.size)
      have za := ba.size
      have lq := HQ.lt
      refine vh_two9 0 8 (by kernel_rfl) rfl rfl (want_none rfl) (ex_call (args := #[]) rfl (by simp) rfl) (three9 wd3) rfl hz (by decide) ?_ (.pointer (some ⟨q, 0, none⟩)) y3x1 (want_none rfl) (ex_al rfl (by rw [hy3x1, hq]; exact al12 _)) rfl (by decide) hSa ?_
      · clear ba HQ hy3x1 hSa za lq hqb hq
        rintro e c3a ⟨rfl, h3a⟩
        clear y3x1 q
        refine ⟨_, rfl, hS.trans (h3a.mono hS.size), fun R3x2 zz kk s26 => ?_⟩
        replace s2 := ku s2
        replace s3 := ku s3
        replace s4 := ku s4
        replace s5 := ku s5
        replace s27 := ku s27
        replace hz := zz
        clear kk zz
        have zc0 := h3a.size
        have hS := hS.trans (h3a.mono hS.size)
        obtain ⟨q, hq⟩ : ∃ z, z = c3a.heap.size := ⟨_, rfl⟩
        obtain ⟨y3x2, hy3x2⟩ : ∃ y, y = c3a.alloc (.cells zS8.cs.toArray 36) := ⟨_, rfl⟩
        have ba : Below c3a.heap.size c3a y3x2 := by rw [hy3x2]; exact (Below.refl _ _).alloc (Nat.le_refl _) _
        have HQ : SB7 y3x2 q zS8 := by rw [hy3x2, hq]; exact BX7.new _ _ _
        have hqb := hS.size
        have hSa := hS.trans (ba.mono hS.size)
        have za := ba.size
        have lq := HQ.lt
        refine vh_two9 2 8 (by kernel_rfl) rfl rfl (want_none rfl) (ex_call (args := #[.int .u64 0, .int .u64 0]) rfl (by simp only [List.map_toArray, List.map_cons, List.map_nil, evc] <;> rfl) rfl) (commit9 0 0 c3a) rfl hz (by decide) ?_ (.pointer (some ⟨q, 0, none⟩)) y3x2 (want_none rfl) (ex_al rfl (by rw [hy3x2, hq]; exact al12 _)) rfl (by decide) hSa ?_
        · clear ba HQ hy3x2 hSa za lq hqb hq
          rintro e c3b ⟨g, rfl, gin, h3b⟩
          clear y3x2 q
          refine ⟨_, rfl, hS.trans (h3b.mono hS.size), fun R3x3 zz kk s28 => ?_⟩
          replace s2 := ku s2
          replace s3 := ku s3
          replace s4 := ku s4
          replace s5 := ku s5
          replace s27 := ku s27
          replace s26 := ku s26
          replace hz := zz
          clear kk zz
          have zc1 := h3b.size
          have hS := hS.trans (h3b.mono hS.size)
          obtain ⟨q, hq⟩ : ∃ z, z = c3b.heap.size := ⟨_, rfl⟩
          obtain ⟨y3x3, hy3x3⟩ : ∃ y, y = c3b.alloc (.cells zS8.cs.toArray 36) := ⟨_, rfl⟩
          have ba : Below c3b.heap.size c3b y3x3 := by rw [hy3x3]; exact (Below.refl _ _).alloc (Nat.le_refl _) _
          have HQ : SB7 y3x3 q zS8 := by rw [hy3x3, hq]; exact BX7.new _ _ _
          have hqb := hS.size
          have hSa := hS.trans (ba.mono hS.size)
          have za := ba.size
          have lq := HQ.lt
          refine vh_two9 3 8 (by kernel_rfl) rfl rfl (want_none rfl) (ex_call rfl (by simp only [List.map_toArray, List.map_cons, List.map_nil, (ev s26 rfl), (ev s27 rfl), (ev s28 rfl), evc] <;> rfl) rfl) (admitC9 t F39 F39 0 0 g false c3b tal (by decide) (ck_f9 0 0) (ad2_9 g).1 (ad2_9 g).2 (tin.later hS) gin (hT.later hS hT.lt)) rfl hz (by decide) ?_ (.pointer (some ⟨q, 0, none⟩)) y3x3 (want_none rfl) (ex_al rfl (by rw [hy3x3, hq]; exact al12 _)) rfl (by decide) hSa ?_
          · clear ba HQ hy3x3 hSa za lq hqb hq
            rintro e c3c ⟨t, rfl, tin, tal, tup, h3c⟩
            clear y3x3 q
            refine ⟨_, rfl, hS.trans (h3c.mono hS.size), fun R3x4 zz kk s29 => ?_⟩
            replace s2 := ku s2
            replace s3 := ku s3
            replace s4 := ku s4
            replace s5 := ku s5
            replace s27 := ku s27
            replace s26 := ku s26
            replace s28 := ku s28
            replace hz := zz
            clear kk zz
            have zc2 := h3c.size
            have gin := gin.later h3c
            have hS := hS.trans (h3c.mono hS.size)
            refine vh_take 4 true (.tuple #[t.val, .bool false, .int .i64 0]) rfl (by kernel_rfl) (by kernel_rfl) (by kernel_rfl) (want_none rfl) (fun hc v hv => ex_move rfl (ev s29 rfl)) rfl hz (by decide) hS (fun R3x5 zz kk s25 => ?_)
            replace s2 := ku s2
            replace s3 := ku s3
            replace s4 := ku s4
            replace s5 := ku s5
            replace s27 := ku s27
            replace s26 := ku s26
            replace s28 := ku s28
            replace s29 := ku s29
            replace hz := zz
            clear kk zz
            refine vh_take 5 true (t.val) rfl (by kernel_rfl) (by kernel_rfl) (by kernel_rfl) (want_none rfl) (fun hc v hv => ex_ext8 rfl (ev s25 rfl) rfl) rfl hz (by decide) hS (fun R3x6 zz kk s30 => ?_)
            replace s2 := ku s2
            replace s3 := ku s3
            replace s4 := ku s4
            replace s5 := ku s5
            replace s27 := ku s27
            replace s26 := ku s26
            replace s28 := ku s28
            replace s29 := ku s29
            replace s25 := ku s25
            replace hz := zz
            clear kk zz
            refine vh_take 6 true (.bool false) rfl (by kernel_rfl) (by kernel_rfl) (by kernel_rfl) (want_none rfl) (fun hc v hv => ex_ext8 rfl (ev s25 rfl) rfl) rfl hz (by decide) hS (fun R3x7 zz kk s31 => ?_)
            replace s2 := ku s2
            replace s3 := ku s3
            replace s4 := ku s4
            replace s5 := ku s5
            replace s27 := ku s27
            replace s26 := ku s26
            replace s28 := ku s28
            replace s29 := ku s29
            replace s25 := ku s25
            replace s30 := ku s30
            replace hz := zz
            clear kk zz
            refine vh_take 7 true (.int .i64 0) rfl (by kernel_rfl) (by kernel_rfl) (by kernel_rfl) (want_none rfl) (fun hc v hv => ex_ext8 rfl (ev s25 rfl) rfl) rfl hz (by decide) hS (fun R3x8 zz kk s32 => ?_)
            replace s2 := ku s2
            replace s3 := ku s3
            replace s4 := ku s4
            replace s5 := ku s5
            replace s27 := ku s27
            replace s26 := ku s26
            replace s28 := ku s28
            replace s29 := ku s29
            replace s25 := ku s25
            replace s30 := ku s30
            replace s31 := ku s31
            replace hz := zz
            clear kk zz
            obtain ⟨q, hq⟩ : ∃ z, z = c3c.heap.size := ⟨_, rfl⟩
            obtain ⟨y3x4, hy3x4⟩ : ∃ y, y = c3c.alloc (.cells zS8.cs.toArray 36) := ⟨_, rfl⟩
            have ba : Below c3c.heap.size c3c y3x4 := by rw [hy3x4]; exact (Below.refl _ _).alloc (Nat.le_refl _) _
            have HQ : SB7 y3x4 q zS8 := by rw [hy3x4, hq]; exact BX7.new _ _ _
            have hqb := hS.size
            have hSa := hS.trans (ba.mono hS.size)
            have za := ba.size
            have lq := HQ.lt
            refine vh_val8 8 (.pointer (some ⟨q, 0, none⟩)) y3x4 rfl (by kernel_rfl) (want_none rfl) (ex_al rfl (by rw [hy3x4, hq]; exact al12 _)) rfl hz (by decide) hSa (fun R3x9 zz kk s6 => ?_)
            replace s2 := ku s2
            replace s3 := ku s3
            replace s4 := ku s4
            replace s5 := ku s5
            replace s27 := ku s27
            replace s26 := ku s26
            replace s28 := ku s28
            replace s29 := ku s29
            replace s25 := ku s25
            replace s30 := ku s30
            replace s31 := ku s31
            replace s32 := ku s32
            replace hz := zz
            clear kk zz
            have hS := hSa
            clear hy3x4 hSa
            have HT := SB7.put HQ t
            have UT := upd12 y3x4 q t
            have hST := hS.trans (UT.below hS.size (fun k hk => by omega))
            refine vh_store8 9 (sets y3x4 q 0 t.cs) rfl (by kernel_rfl) (want_none rfl) (ex_st rfl (ev s6 rfl) (ev s30 rfl) (st12 HQ t)) rfl hST ?_
            obtain ⟨x7, hx7⟩ : ∃ v, v = sets y3x4 q 0 t.cs := ⟨_, rfl⟩
            rw [← hx7] at HT UT hST ⊢
            clear hx7
            have hLT : Below c3c.heap.size c3c x7 := ba.trans (UT.below (by omega) (fun k hk => by omega))
            have tin7 : t.In x7 := tin.later hLT
            have hS := hST
            refine vh_take 10 true (.bool false) rfl (by kernel_rfl) (by kernel_rfl) (by kernel_rfl) (want_none rfl) (fun hc v hv => ex_assign rfl (ev s31 rfl)) rfl hz (by decide) hS (fun R3x10 zz kk s7 => ?_)
            replace s2 := ku s2
            replace s3 := ku s3
            replace s4 := ku s4
            replace s5 := ku s5
            replace s27 := ku s27
            replace s26 := ku s26
            replace s28 := ku s28
            replace s29 := ku s29
            replace s25 := ku s25
            replace s30 := ku s30
            replace s31 := ku s31
            replace s32 := ku s32
            replace s6 := ku s6
            replace hz := zz
            clear kk zz
            refine vh_take 11 true (.int .i64 0) rfl (by kernel_rfl) (by kernel_rfl) (by kernel_rfl) (want_none rfl) (fun hc v hv => ex_assign rfl (ev s32 rfl)) rfl hz (by decide) hS (fun R3x11 zz kk s8 => ?_)
            replace s2 := ku s2
            replace s3 := ku s3
            replace s4 := ku s4
            replace s5 := ku s5
            replace s27 := ku s27
            replace s26 := ku s26
            replace s28 := ku s28
            replace s29 := ku s29
            replace s25 := ku s25
            replace s30 := ku s30
            replace s31 := ku s31
            replace s32 := ku s32
            replace s6 := ku s6
            replace s7 := ku s7
            replace hz := zz
            clear kk zz
            refine vh_done (by kernel_rfl) ?_
            exact ⟨_, rfl, hz, s2, s3, s4, s5, q, t, s6, s7, s8, HT, tin7, tal, hS⟩
          · intro R3x12 zz kk s6x
            replace s2 := ku s2
            replace s3 := ku s3
            replace s4 := ku s4
            replace s5 := ku s5
            replace s27 := ku s27
            replace s26 := ku s26
            replace s28 := ku s28
            clear kk hz
            have hz := zz
            have s6 := s6x
            clear zz s6x
            have gin := gin.later ba
            have hS := hSa
            clear hy3x3 hSa
            refine vh_call 3 rfl (by kernel_rfl) (want_none rfl) (ex_call rfl (by simp only [List.map_toArray, List.map_cons, List.map_nil, (ev s26 rfl), (ev s27 rfl), (ev s28 rfl), evc] <;> rfl) rfl) (admitC9 t F39 F39 0 0 g false y3x3 tal (by decide) (ck_f9 0 0) (ad2_9 g).1 (ad2_9 g).2 (tin.later hS) gin (hT.later hS hT.lt)) rfl hz (by decide) ?_
            rintro e c3c ⟨t, rfl, tin, tal, tup, h3c⟩
            refine ⟨_, rfl, hS.trans (h3c.mono hS.size), fun R3x13 zz kk s29 => ?_⟩
            replace s2 := ku s2
            replace s3 := ku s3
            replace s4 := ku s4
            replace s5 := ku s5
            replace s27 := ku s27
            replace s26 := ku s26
            replace s28 := ku s28
            replace s6 := ku s6
            replace hz := zz
            clear kk zz
            have zc2 := h3c.size
            have gin := gin.later h3c
            have HQ := HQ.bel h3c
            have hS := hS.trans (h3c.mono hS.size)
            refine vh_take 4 true (.tuple #[t.val, .bool false, .int .i64 0]) rfl (by kernel_rfl) (by kernel_rfl) (by kernel_rfl) (want_none rfl) (fun hc v hv => ex_move rfl (ev s29 rfl)) rfl hz (by decide) hS (fun R3x14 zz kk s25 => ?_)
            replace s2 := ku s2
            replace s3 := ku s3
            replace s4 := ku s4
            replace s5 := ku s5
            replace s27 := ku s27
            replace s26 := ku s26
            replace s28 := ku s28
            replace s6 := ku s6
            replace s29 := ku s29
            replace hz := zz
            clear kk zz
            refine vh_take 5 true (t.val) rfl (by kernel_rfl) (by kernel_rfl) (by kernel_rfl) (want_none rfl) (fun hc v hv => ex_ext8 rfl (ev s25 rfl) rfl) rfl hz (by decide) hS (fun R3x15 zz kk s30 => ?_)
            replace s2 := ku s2
            replace s3 := ku s3
            replace s4 := ku s4
            replace s5 := ku s5
            replace s27 := ku s27
            replace s26 := ku s26
            replace s28 := ku s28
            replace s6 := ku s6
            replace s29 := ku s29
            replace s25 := ku s25
            replace hz := zz
            clear kk zz
            refine vh_take 6 true (.bool false) rfl (by kernel_rfl) (by kernel_rfl) (by kernel_rfl) (want_none rfl) (fun hc v hv => ex_ext8 rfl (ev s25 rfl) rfl) rfl hz (by decide) hS (fun R3x16 zz kk s31 => ?_)
            replace s2 := ku s2
            replace s3 := ku s3
            replace s4 := ku s4
            replace s5 := ku s5
            replace s27 := ku s27
            replace s26 := ku s26
            replace s28 := ku s28
            replace s6 := ku s6
            replace s29 := ku s29
            replace s25 := ku s25
            replace s30 := ku s30
            replace hz := zz
            clear kk zz
            refine vh_take 7 true (.int .i64 0) rfl (by kernel_rfl) (by kernel_rfl) (by kernel_rfl) (want_none rfl) (fun hc v hv => ex_ext8 rfl (ev s25 rfl) rfl) rfl hz (by decide) hS (fun R3x17 zz kk s32 => ?_)
            replace s2 := ku s2
            replace s3 := ku s3
            replace s4 := ku s4
            replace s5 := ku s5
            replace s27 := ku s27
            replace s26 := ku s26
            replace s28 := ku s28
            replace s6 := ku s6
            replace s29 := ku s29
            replace s25 := ku s25
            replace s30 := ku s30
            replace s31 := ku s31
            replace hz := zz
            clear kk zz
            have HT := SB7.put HQ t
            have UT := upd12 c3c q t
            have hST := hS.trans (UT.below hS.size (fun k hk => by omega))
            refine vh_store8 9 (sets c3c q 0 t.cs) rfl (by kernel_rfl) (want_none rfl) (ex_st rfl (ev s6 rfl) (ev s30 rfl) (st12 HQ t)) rfl hST ?_
            obtain ⟨x7, hx7⟩ : ∃ v, v = sets c3c q 0 t.cs := ⟨_, rfl⟩
            rw [← hx7] at HT UT hST ⊢
            clear hx7
            have tin7 : t.In x7 := tup q x7 (by omega) UT
            have hS := hST
            refine vh_take 10 true (.bool false) rfl (by kernel_rfl) (by kernel_rfl) (by kernel_rfl) (want_none rfl) (fun hc v hv => ex_assign rfl (ev s31 rfl)) rfl hz (by decide) hS (fun R3x18 zz kk s7 => ?_)
            replace s2 := ku s2
            replace s3 := ku s3
            replace s4 := ku s4
            replace s5 := ku s5
            replace s27 := ku s27
            replace s26 := ku s26
            replace s28 := ku s28
            replace s6 := ku s6
            replace s29 := ku s29
            replace s25 := ku s25
            replace s30 := ku s30
            replace s31 := ku s31
            replace s32 := ku s32
            replace hz := zz
            clear kk zz
            refine vh_take 11 true (.int .i64 0) rfl (by kernel_rfl) (by kernel_rfl) (by kernel_rfl) (want_none rfl) (fun hc v hv => ex_assign rfl (ev s32 rfl)) rfl hz (by decide) hS (fun R3x19 zz kk s8 => ?_)
            replace s2 := ku s2
            replace s3 := ku s3
            replace s4 := ku s4
            replace s5 := ku s5
            replace s27 := ku s27
            replace s26 := ku s26
            replace s28 := ku s28
            replace s6 := ku s6
            replace s29 := ku s29
            replace s25 := ku s25
            replace s30 := ku s30
            replace s31 := ku s31
            replace s32 := ku s32
            replace s7 := ku s7
            replace hz := zz
            clear kk zz
            refine vh_done (by kernel_rfl) ?_
            exact ⟨_, rfl, hz, s2, s3, s4, s5, q, t, s6, s7, s8, HT, tin7, tal, hS⟩
        · intro R3x20 zz kk s6x
          replace s2 := ku s2
          replace s3 := ku s3
          replace s4 := ku s4
          replace s5 := ku s5
          replace s27 := ku s27
          replace s26 := ku s26
          clear kk hz
          have hz := zz
          have s6 := s6x
          clear zz s6x
          have hS := hSa
          clear hy3x2 hSa
          refine vh_call 2 rfl (by kernel_rfl) (want_none rfl) (ex_call (args := #[.int .u64 0, .int .u64 0]) rfl (by simp only [List.map_toArray, List.map_cons, List.map_nil, evc] <;> rfl) rfl) (commit9 0 0 y3x2) rfl hz (by decide) ?_
          rintro e c3b ⟨g, rfl, gin, h3b⟩
          refine ⟨_, rfl, hS.trans (h3b.mono hS.size), fun R3x21 zz kk s28 => ?_⟩
          replace s2 := ku s2
          replace s3 := ku s3
          replace s4 := ku s4
          replace s5 := ku s5
          replace s27 := ku s27
          replace s26 := ku s26
          replace s6 := ku s6
          replace hz := zz
          clear kk zz
          have zc1 := h3b.size
          have HQ := HQ.bel h3b
          have hS := hS.trans (h3b.mono hS.size)
          refine vh_call 3 rfl (by kernel_rfl) (want_none rfl) (ex_call rfl (by simp only [List.map_toArray, List.map_cons, List.map_nil, (ev s26 rfl), (ev s27 rfl), (ev s28 rfl), evc] <;> rfl) rfl) (admitC9 t F39 F39 0 0 g false c3b tal (by decide) (ck_f9 0 0) (ad2_9 g).1 (ad2_9 g).2 (tin.later hS) gin (hT.later hS hT.lt)) rfl hz (by decide) ?_
          rintro e c3c ⟨t, rfl, tin, tal, tup, h3c⟩
          refine ⟨_, rfl, hS.trans (h3c.mono hS.size), fun R3x22 zz kk s29 => ?_⟩
          replace s2 := ku s2
          replace s3 := ku s3
          replace s4 := ku s4
          replace s5 := ku s5
          replace s27 := ku s27
          replace s26 := ku s26
          replace s6 := ku s6
          replace s28 := ku s28
          replace hz := zz
          clear kk zz
          have zc2 := h3c.size
          have gin := gin.later h3c
          have HQ := HQ.bel h3c
          have hS := hS.trans (h3c.mono hS.size)
          refine vh_take 4 true (.tuple #[t.val, .bool false, .int .i64 0]) rfl (by kernel_rfl) (by kernel_rfl) (by kernel_rfl) (want_none rfl) (fun hc v hv => ex_move rfl (ev s29 rfl)) rfl hz (by decide) hS (fun R3x23 zz kk s25 => ?_)
          replace s2 := ku s2
          replace s3 := ku s3
          replace s4 := ku s4
          replace s5 := ku s5
          replace s27 := ku s27
          replace s26 := ku s26
          replace s6 := ku s6
          replace s28 := ku s28
          replace s29 := ku s29
          replace hz := zz
          clear kk zz
          refine vh_take 5 true (t.val) rfl (by kernel_rfl) (by kernel_rfl) (by kernel_rfl) (want_none rfl) (fun hc v hv => ex_ext8 rfl (ev s25 rfl) rfl) rfl hz (by decide) hS (fun R3x24 zz kk s30 => ?_)
          replace s2 := ku s2
          replace s3 := ku s3
          replace s4 := ku s4
          replace s5 := ku s5
          replace s27 := ku s27
          replace s26 := ku s26
          replace s6 := ku s6
          replace s28 := ku s28
          replace s29 := ku s29
          replace s25 := ku s25
          replace hz := zz
          clear kk zz
          refine vh_take 6 true (.bool false) rfl (by kernel_rfl) (by kernel_rfl) (by kernel_rfl) (want_none rfl) (fun hc v hv => ex_ext8 rfl (ev s25 rfl) rfl) rfl hz (by decide) hS (fun R3x25 zz kk s31 => ?_)
          replace s2 := ku s2
          replace s3 := ku s3
          replace s4 := ku s4
          replace s5 := ku s5
          replace s27 := ku s27
          replace s26 := ku s26
          replace s6 := ku s6
          replace s28 := ku s28
          replace s29 := ku s29
          replace s25 := ku s25
          replace s30 := ku s30
          replace hz := zz
          clear kk zz
          refine vh_take 7 true (.int .i64 0) rfl (by kernel_rfl) (by kernel_rfl) (by kernel_rfl) (want_none rfl) (fun hc v hv => ex_ext8 rfl (ev s25 rfl) rfl) rfl hz (by decide) hS (fun R3x26 zz kk s32 => ?_)
          replace s2 := ku s2
          replace s3 := ku s3
          replace s4 := ku s4
          replace s5 := ku s5
          replace s27 := ku s27
          replace s26 := ku s26
          replace s6 := ku s6
          replace s28 := ku s28
          replace s29 := ku s29
          replace s25 := ku s25
          replace s30 := ku s30
          replace s31 := ku s31
          replace hz := zz
          clear kk zz
          have HT := SB7.put HQ t
          have UT := upd12 c3c q t
          have hST := hS.trans (UT.below hS.size (fun k hk => by omega))
          refine vh_store8 9 (sets c3c q 0 t.cs) rfl (by kernel_rfl) (want_none rfl) (ex_st rfl (ev s6 rfl) (ev s30 rfl) (st12 HQ t)) rfl hST ?_
          obtain ⟨x7, hx7⟩ : ∃ v, v = sets c3c q 0 t.cs := ⟨_, rfl⟩
          rw [← hx7] at HT UT hST ⊢
          clear hx7
          have tin7 : t.In x7 := tup q x7 (by omega) UT
          have hS := hST
          refine vh_take 10 true (.bool false) rfl (by kernel_rfl) (by kernel_rfl) (by kernel_rfl) (want_none rfl) (fun hc v hv => ex_assign rfl (ev s31 rfl)) rfl hz (by decide) hS (fun R3x27 zz kk s7 => ?_)
          replace s2 := ku s2
          replace s3 := ku s3
          replace s4 := ku s4
          replace s5 := ku s5
          replace s27 := ku s27
          replace s26 := ku s26
          replace s6 := ku s6
          replace s28 := ku s28
          replace s29 := ku s29
          replace s25 := ku s25
          replace s30 := ku s30
          replace s31 := ku s31
          replace s32 := ku s32
          replace hz := zz
          clear kk zz
          refine vh_take 11 true (.int .i64 0) rfl (by kernel_rfl) (by kernel_rfl) (by kernel_rfl) (want_none rfl) (fun hc v hv => ex_assign rfl (ev s32 rfl)) rfl hz (by decide) hS (fun R3x28 zz kk s8 => ?_)
          replace s2 := ku s2
          replace s3 := ku s3
          replace s4 := ku s4
          replace s5 := ku s5
          replace s27 := ku s27
          replace s26 := ku s26
          replace s6 := ku s6
          replace s28 := ku s28
          replace s29 := ku s29
          replace s25 := ku s25
          replace s30 := ku s30
          replace s31 := ku s31
          replace s32 := ku s32
          replace s7 := ku s7
          replace hz := zz
          clear kk zz
          refine vh_done (by kernel_rfl) ?_
          exact ⟨_, rfl, hz, s2, s3, s4, s5, q, t, s6, s7, s8, HT, tin7, tal, hS⟩
      · intro R3x29 zz kk s6x
        replace s2 := ku s2
        replace s3 := ku s3
        replace s4 := ku s4
        replace s5 := ku s5
        replace s27 := ku s27
        clear kk hz
        have hz := zz
        have s6 := s6x
        clear zz s6x
        have hS := hSa
        clear hy3x1 hSa
        refine vh_call 0 rfl (by kernel_rfl) (want_none rfl) (ex_call (args := #[]) rfl (by simp) rfl) (three9 y3x1) rfl hz (by decide) ?_
        rintro e c3a ⟨rfl, h3a⟩
        refine ⟨_, rfl, hS.trans (h3a.mono hS.size), fun R3x30 zz kk s26 => ?_⟩
        replace s2 := ku s2
        replace s3 := ku s3
        replace s4 := ku s4
        replace s5 := ku s5
        replace s27 := ku s27
        replace s6 := ku s6
        replace hz := zz
        clear kk zz
        have zc0 := h3a.size
        have HQ := HQ.bel h3a
        have hS := hS.trans (h3a.mono hS.size)
        refine vh_call 2 rfl (by kernel_rfl) (want_none rfl) (ex_call (args := #[.int .u64 0, .int .u64 0]) rfl (by simp only [List.map_toArray, List.map_cons, List.map_nil, evc] <;> rfl) rfl) (commit9 0 0 c3a) rfl hz (by decide) ?_
        rintro e c3b ⟨g, rfl, gin, h3b⟩
        refine ⟨_, rfl, hS.trans (h3b.mono hS.size), fun R3x31 zz kk s28 => ?_⟩
        replace s2 := ku s2
        replace s3 := ku s3
        replace s4 := ku s4
        replace s5 := ku s5
        replace s27 := ku s27
        replace s6 := ku s6
        replace s26 := ku s26
        replace hz := zz
        clear kk zz
        have zc1 := h3b.size
        have HQ := HQ.bel h3b
        have hS := hS.trans (h3b.mono hS.size)
        refine vh_call 3 rfl (by kernel_rfl) (want_none rfl) (ex_call rfl (by simp only [List.map_toArray, List.map_cons, List.map_nil, (ev s26 rfl), (ev s27 rfl), (ev s28 rfl), evc] <;> rfl) rfl) (admitC9 t F39 F39 0 0 g false c3b tal (by decide) (ck_f9 0 0) (ad2_9 g).1 (ad2_9 g).2 (tin.later hS) gin (hT.later hS hT.lt)) rfl hz (by decide) ?_
        rintro e c3c ⟨t, rfl, tin, tal, tup, h3c⟩
        refine ⟨_, rfl, hS.trans (h3c.mono hS.size), fun R3x32 zz kk s29 => ?_⟩
        replace s2 := ku s2
        replace s3 := ku s3
        replace s4 := ku s4
        replace s5 := ku s5
        replace s27 := ku s27
        replace s6 := ku s6
        replace s26 := ku s26
        replace s28 := ku s28
        replace hz := zz
        clear kk zz
        have zc2 := h3c.size
        have gin := gin.later h3c
        have HQ := HQ.bel h3c
        have hS := hS.trans (h3c.mono hS.size)
        refine vh_take 4 true (.tuple #[t.val, .bool false, .int .i64 0]) rfl (by kernel_rfl) (by kernel_rfl) (by kernel_rfl) (want_none rfl) (fun hc v hv => ex_move rfl (ev s29 rfl)) rfl hz (by decide) hS (fun R3x33 zz kk s25 => ?_)
        replace s2 := ku s2
        replace s3 := ku s3
        replace s4 := ku s4
        replace s5 := ku s5
        replace s27 := ku s27
        replace s6 := ku s6
        replace s26 := ku s26
        replace s28 := ku s28
        replace s29 := ku s29
        replace hz := zz
        clear kk zz
        refine vh_take 5 true (t.val) rfl (by kernel_rfl) (by kernel_rfl) (by kernel_rfl) (want_none rfl) (fun hc v hv => ex_ext8 rfl (ev s25 rfl) rfl) rfl hz (by decide) hS (fun R3x34 zz kk s30 => ?_)
        replace s2 := ku s2
        replace s3 := ku s3
        replace s4 := ku s4
        replace s5 := ku s5
        replace s27 := ku s27
        replace s6 := ku s6
        replace s26 := ku s26
        replace s28 := ku s28
        replace s29 := ku s29
        replace s25 := ku s25
        replace hz := zz
        clear kk zz
        refine vh_take 6 true (.bool false) rfl (by kernel_rfl) (by kernel_rfl) (by kernel_rfl) (want_none rfl) (fun hc v hv => ex_ext8 rfl (ev s25 rfl) rfl) rfl hz (by decide) hS (fun R3x35 zz kk s31 => ?_)
        replace s2 := ku s2
        replace s3 := ku s3
        replace s4 := ku s4
        replace s5 := ku s5
        replace s27 := ku s27
        replace s6 := ku s6
        replace s26 := ku s26
        replace s28 := ku s28
        replace s29 := ku s29
        replace s25 := ku s25
        replace s30 := ku s30
        replace hz := zz
        clear kk zz
        refine vh_take 7 true (.int .i64 0) rfl (by kernel_rfl) (by kernel_rfl) (by kernel_rfl) (want_none rfl) (fun hc v hv => ex_ext8 rfl (ev s25 rfl) rfl) rfl hz (by decide) hS (fun R3x36 zz kk s32 => ?_)
        replace s2 := ku s2
        replace s3 := ku s3
        replace s4 := ku s4
        replace s5 := ku s5
        replace s27 := ku s27
        replace s6 := ku s6
        replace s26 := ku s26
        replace s28 := ku s28
        replace s29 := ku s29
        replace s25 := ku s25
        replace s30 := ku s30
        replace s31 := ku s31
        replace hz := zz
        clear kk zz
        have HT := SB7.put HQ t
        have UT := upd12 c3c q t
        have hST := hS.trans (UT.below hS.size (fun k hk => by omega))
        refine vh_store8 9 (sets c3c q 0 t.cs) rfl (by kernel_rfl) (want_none rfl) (ex_st rfl (ev s6 rfl) (ev s30 rfl) (st12 HQ t)) rfl hST ?_
        obtain ⟨x7, hx7⟩ : ∃ v, v = sets c3c q 0 t.cs := ⟨_, rfl⟩
        rw [← hx7] at HT UT hST ⊢
        clear hx7
        have tin7 : t.In x7 := tup q x7 (by omega) UT
        have hS := hST
        refine vh_take 10 true (.bool false) rfl (by kernel_rfl) (by kernel_rfl) (by kernel_rfl) (want_none rfl) (fun hc v hv => ex_assign rfl (ev s31 rfl)) rfl hz (by decide) hS (fun R3x37 zz kk s7 => ?_)
        replace s2 := ku s2
        replace s3 := ku s3
        replace s4 := ku s4
        replace s5 := ku s5
        replace s27 := ku s27
        replace s6 := ku s6
        replace s26 := ku s26
        replace s28 := ku s28
        replace s29 := ku s29
        replace s25 := ku s25
        replace s30 := ku s30
        replace s31 := ku s31
        replace s32 := ku s32
        replace hz := zz
        clear kk zz
        refine vh_take 11 true (.int .i64 0) rfl (by kernel_rfl) (by kernel_rfl) (by kernel_rfl) (want_none rfl) (fun hc v hv => ex_assign rfl (ev s32 rfl)) rfl hz (by decide) hS (fun R3x38 zz kk s8 => ?_)
        replace s2 := ku s2
        replace s3 := ku s3
        replace s4 := ku s4
        replace s5 := ku s5
        replace s27 := ku s27
        replace s6 := ku s6
        replace s26 := ku s26
        replace s28 := ku s28
        replace s29 := ku s29
        replace s25 := ku s25
        replace s30 := ku s30
        replace s31 := ku s31
        replace s32 := ku s32
        replace s7 := ku s7
        replace hz := zz
        clear kk zz
        refine vh_done (by kernel_rfl) ?_
        exact ⟨_, rfl, hz, s2, s3, s4, s5, q, t, s6, s7, s8, HT, tin7, tal, hS⟩
    · clear hz s2 s3 s4 s5
      intro T8 z2 hJ
      obtain ⟨hz, s2, s3, s4, s5, q6, t6, s6, s7, s8, HI9⟩ := hJ
      obtain ⟨_, _, _, hb⟩ := HI9.out
      clear HI9 s6
      have hT := hT.later hb hT.lt
      have hB := hB.trans (hb.mono hB0)
      have hB0 := hB.size
      have HT3 := HT3.bel hb
      have tin := tin.later hb
      clear hb
      go_upto_region 4 with fail
      refine v_cut9 (fun T v => T.size = 83 ∧ T[2]? = some (gw true (.int .i64 (fvE9 c39 1))) ∧ T[3]? = some (gw true (.pointer (some ⟨q3, 0, none⟩))) ∧ T[4]? = some (gw true (.bool true)) ∧ T[5]? = some (gw true (.int .i64 0)) ∧ T[7]? = some (gw true (.bool false)) ∧ T[8]? = some (gw true (.int .i64 0)) ∧ ∃ (q : Nat) (t : Sta), T[9]? = some (gw true (.pointer (some ⟨q, 0, none⟩))) ∧ T[10]? = some (gw true (.bool false)) ∧ T[11]? = some (gw true (.int .i64 0)) ∧ Hid (SB7 v q t ∧ t.In v ∧ (vst9 1 1 0 0 F39).Alike9 t ∧ Below z2.heap.size z2 v)) ?_ ?_
      · refine vh_start (fun v => Below z2.heap.size z2 v) (by kernel_rfl) ?_
        have hS : Below z2.heap.size z2 z2.drew := (Below.refl _ _).drew
        obtain ⟨wd4, hwd⟩ : ∃ y, y = z2.drew := ⟨_, rfl⟩
        rw [← hwd] at hS ⊢
        clear hwd
        refine vh_take 1 true (t.val) rfl (by kernel_rfl) (by kernel_rfl) (by kernel_rfl) (want_none rfl) (fun hc v hv => ex_ld rfl (ev s3 rfl) (SB7.ld (HT3.bel hv))) rfl hz (by decide) hS (fun R4x1 zz kk s35 => ?_)
        replace s2 := ku s2
        replace s3 := ku s3
        replace s4 := ku s4
        replace s5 := ku s5
        replace s7 := ku s7
        replace s8 := ku s8
        replace hz := zz
        clear kk zz
        obtain ⟨q, hq⟩ : ∃ z, z = wd4.heap.size := ⟨_, rfl⟩
        obtain ⟨y4x1, hy4x1⟩ : ∃ y, y = wd4.alloc (.cells zS8.cs.toArray 36) := ⟨_, rfl⟩
        have ba : Below wd4.heap.size wd4 y4x1 := by rw [hy4x1]; exact (Below.refl _ _).alloc (Nat.le_refl _) _
        have HQ : SB7 y4x1 q zS8 := by rw [hy4x1, hq]; exact BX7.new _ _ _
        have hqb := hS.size
        have hSa := hS.trans (ba.mono hS.size)
        have za := ba.size
        have lq := HQ.lt
        refine vh_two9 0 8 (by kernel_rfl) rfl rfl (want_none rfl) (ex_call (args := #[]) rfl (by simp) rfl) (three9 wd4) rfl hz (by decide) ?_ (.pointer (some ⟨q, 0, none⟩)) y4x1 (want_none rfl) (ex_al rfl (by rw [hy4x1, hq]; exact al12 _)) rfl (by decide) hSa ?_
        · clear ba HQ hy4x1 hSa za lq hqb hq
          rintro e c4a ⟨rfl, h4a⟩
          clear y4x1 q
          refine ⟨_, rfl, hS.trans (h4a.mono hS.size), fun R4x2 zz kk s34 => ?_⟩
          replace s2 := ku s2
          replace s3 := ku s3
          replace s4 := ku s4
          replace s5 := ku s5
          replace s7 := ku s7
          replace s8 := ku s8
          replace s35 := ku s35
          replace hz := zz
          clear kk zz
          have zc0 := h4a.size
          have hS := hS.trans (h4a.mono hS.size)
          obtain ⟨q, hq⟩ : ∃ z, z = c4a.heap.size := ⟨_, rfl⟩
          obtain ⟨y4x2, hy4x2⟩ : ∃ y, y = c4a.alloc (.cells zS8.cs.toArray 36) := ⟨_, rfl⟩
          have ba : Below c4a.heap.size c4a y4x2 := by rw [hy4x2]; exact (Below.refl _ _).alloc (Nat.le_refl _) _
          have HQ : SB7 y4x2 q zS8 := by rw [hy4x2, hq]; exact BX7.new _ _ _
          have hqb := hS.size
          have hSa := hS.trans (ba.mono hS.size)
          have za := ba.size
          have lq := HQ.lt
          refine vh_two9 2 8 (by kernel_rfl) rfl rfl (want_none rfl) (ex_call (args := #[.int .u64 4, .int .u64 3]) rfl (by simp only [List.map_toArray, List.map_cons, List.map_nil, evc] <;> rfl) rfl) (commit9 4 3 c4a) rfl hz (by decide) ?_ (.pointer (some ⟨q, 0, none⟩)) y4x2 (want_none rfl) (ex_al rfl (by rw [hy4x2, hq]; exact al12 _)) rfl (by decide) hSa ?_
          · clear ba HQ hy4x2 hSa za lq hqb hq
            rintro e c4b ⟨g, rfl, gin, h4b⟩
            clear y4x2 q
            refine ⟨_, rfl, hS.trans (h4b.mono hS.size), fun R4x3 zz kk s36 => ?_⟩
            replace s2 := ku s2
            replace s3 := ku s3
            replace s4 := ku s4
            replace s5 := ku s5
            replace s7 := ku s7
            replace s8 := ku s8
            replace s35 := ku s35
            replace s34 := ku s34
            replace hz := zz
            clear kk zz
            have zc1 := h4b.size
            have hS := hS.trans (h4b.mono hS.size)
            obtain ⟨q, hq⟩ : ∃ z, z = c4b.heap.size := ⟨_, rfl⟩
            obtain ⟨y4x3, hy4x3⟩ : ∃ y, y = c4b.alloc (.cells zS8.cs.toArray 36) := ⟨_, rfl⟩
            have ba : Below c4b.heap.size c4b y4x3 := by rw [hy4x3]; exact (Below.refl _ _).alloc (Nat.le_refl _) _
            have HQ : SB7 y4x3 q zS8 := by rw [hy4x3, hq]; exact BX7.new _ _ _
            have hqb := hS.size
            have hSa := hS.trans (ba.mono hS.size)
            have za := ba.size
            have lq := HQ.lt
            refine vh_two9 3 8 (by kernel_rfl) rfl rfl (want_none rfl) (ex_call rfl (by simp only [List.map_toArray, List.map_cons, List.map_nil, (ev s34 rfl), (ev s35 rfl), (ev s36 rfl), evc] <;> rfl) rfl) (admitC9 t F39 F39 4 3 g false c4b tal (by decide) (ck_f9 0 0) (ad3_9 g).1 (ad3_9 g).2 (tin.later hS) gin (hT.later hS hT.lt)) rfl hz (by decide) ?_ (.pointer (some ⟨q, 0, none⟩)) y4x3 (want_none rfl) (ex_al rfl (by rw [hy4x3, hq]; exact al12 _)) rfl (by decide) hSa ?_
            · clear ba HQ hy4x3 hSa za lq hqb hq
              rintro e c4c ⟨t, rfl, tin, tal, tup, h4c⟩
              clear y4x3 q
              refine ⟨_, rfl, hS.trans (h4c.mono hS.size), fun R4x4 zz kk s37 => ?_⟩
              replace s2 := ku s2
              replace s3 := ku s3
              replace s4 := ku s4
              replace s5 := ku s5
              replace s7 := ku s7
              replace s8 := ku s8
              replace s35 := ku s35
              replace s34 := ku s34
              replace s36 := ku s36
              replace hz := zz
              clear kk zz
              have zc2 := h4c.size
              have gin := gin.later h4c
              have hS := hS.trans (h4c.mono hS.size)
              refine vh_take 4 true (.tuple #[t.val, .bool false, .int .i64 0]) rfl (by kernel_rfl) (by kernel_rfl) (by kernel_rfl) (want_none rfl) (fun hc v hv => ex_move rfl (ev s37 rfl)) rfl hz (by decide) hS (fun R4x5 zz kk s33 => ?_)
              replace s2 := ku s2
              replace s3 := ku s3
              replace s4 := ku s4
              replace s5 := ku s5
              replace s7 := ku s7
              replace s8 := ku s8
              replace s35 := ku s35
              replace s34 := ku s34
              replace s36 := ku s36
              replace s37 := ku s37
              replace hz := zz
              clear kk zz
              refine vh_take 5 true (t.val) rfl (by kernel_rfl) (by kernel_rfl) (by kernel_rfl) (want_none rfl) (fun hc v hv => ex_ext8 rfl (ev s33 rfl) rfl) rfl hz (by decide) hS (fun R4x6 zz kk s38 => ?_)
              replace s2 := ku s2
              replace s3 := ku s3
              replace s4 := ku s4
              replace s5 := ku s5
              replace s7 := ku s7
              replace s8 := ku s8
              replace s35 := ku s35
              replace s34 := ku s34
              replace s36 := ku s36
              replace s37 := ku s37
              replace s33 := ku s33
              replace hz := zz
              clear kk zz
              refine vh_take 6 true (.bool false) rfl (by kernel_rfl) (by kernel_rfl) (by kernel_rfl) (want_none rfl) (fun hc v hv => ex_ext8 rfl (ev s33 rfl) rfl) rfl hz (by decide) hS (fun R4x7 zz kk s39 => ?_)
              replace s2 := ku s2
              replace s3 := ku s3
              replace s4 := ku s4
              replace s5 := ku s5
              replace s7 := ku s7
              replace s8 := ku s8
              replace s35 := ku s35
              replace s34 := ku s34
              replace s36 := ku s36
              replace s37 := ku s37
              replace s33 := ku s33
              replace s38 := ku s38
              replace hz := zz
              clear kk zz
              refine vh_take 7 true (.int .i64 0) rfl (by kernel_rfl) (by kernel_rfl) (by kernel_rfl) (want_none rfl) (fun hc v hv => ex_ext8 rfl (ev s33 rfl) rfl) rfl hz (by decide) hS (fun R4x8 zz kk s40 => ?_)
              replace s2 := ku s2
              replace s3 := ku s3
              replace s4 := ku s4
              replace s5 := ku s5
              replace s7 := ku s7
              replace s8 := ku s8
              replace s35 := ku s35
              replace s34 := ku s34
              replace s36 := ku s36
              replace s37 := ku s37
              replace s33 := ku s33
              replace s38 := ku s38
              replace s39 := ku s39
              replace hz := zz
              clear kk zz
              obtain ⟨q, hq⟩ : ∃ z, z = c4c.heap.size := ⟨_, rfl⟩
              obtain ⟨y4x4, hy4x4⟩ : ∃ y, y = c4c.alloc (.cells zS8.cs.toArray 36) := ⟨_, rfl⟩
              have ba : Below c4c.heap.size c4c y4x4 := by rw [hy4x4]; exact (Below.refl _ _).alloc (Nat.le_refl _) _
              have HQ : SB7 y4x4 q zS8 := by rw [hy4x4, hq]; exact BX7.new _ _ _
              have hqb := hS.size
              have hSa := hS.trans (ba.mono hS.size)
              have za := ba.size
              have lq := HQ.lt
              refine vh_val8 8 (.pointer (some ⟨q, 0, none⟩)) y4x4 rfl (by kernel_rfl) (want_none rfl) (ex_al rfl (by rw [hy4x4, hq]; exact al12 _)) rfl hz (by decide) hSa (fun R4x9 zz kk s9 => ?_)
              replace s2 := ku s2
              replace s3 := ku s3
              replace s4 := ku s4
              replace s5 := ku s5
              replace s7 := ku s7
              replace s8 := ku s8
              replace s35 := ku s35
              replace s34 := ku s34
              replace s36 := ku s36
              replace s37 := ku s37
              replace s33 := ku s33
              replace s38 := ku s38
              replace s39 := ku s39
              replace s40 := ku s40
              replace hz := zz
              clear kk zz
              have hS := hSa
              clear hy4x4 hSa
              have HT := SB7.put HQ t
              have UT := upd12 y4x4 q t
              have hST := hS.trans (UT.below hS.size (fun k hk => by omega))
              refine vh_store8 9 (sets y4x4 q 0 t.cs) rfl (by kernel_rfl) (want_none rfl) (ex_st rfl (ev s9 rfl) (ev s38 rfl) (st12 HQ t)) rfl hST ?_
              obtain ⟨x7, hx7⟩ : ∃ v, v = sets y4x4 q 0 t.cs := ⟨_, rfl⟩
              rw [← hx7] at HT UT hST ⊢
              clear hx7
              have hLT : Below c4c.heap.size c4c x7 := ba.trans (UT.below (by omega) (fun k hk => by omega))
              have tin7 : t.In x7 := tin.later hLT
              have hS := hST
              refine vh_take 10 true (.bool false) rfl (by kernel_rfl) (by kernel_rfl) (by kernel_rfl) (want_none rfl) (fun hc v hv => ex_assign rfl (ev s39 rfl)) rfl hz (by decide) hS (fun R4x10 zz kk s10 => ?_)
              replace s2 := ku s2
              replace s3 := ku s3
              replace s4 := ku s4
              replace s5 := ku s5
              replace s7 := ku s7
              replace s8 := ku s8
              replace s35 := ku s35
              replace s34 := ku s34
              replace s36 := ku s36
              replace s37 := ku s37
              replace s33 := ku s33
              replace s38 := ku s38
              replace s39 := ku s39
              replace s40 := ku s40
              replace s9 := ku s9
              replace hz := zz
              clear kk zz
              refine vh_take 11 true (.int .i64 0) rfl (by kernel_rfl) (by kernel_rfl) (by kernel_rfl) (want_none rfl) (fun hc v hv => ex_assign rfl (ev s40 rfl)) rfl hz (by decide) hS (fun R4x11 zz kk s11 => ?_)
              replace s2 := ku s2
              replace s3 := ku s3
              replace s4 := ku s4
              replace s5 := ku s5
              replace s7 := ku s7
              replace s8 := ku s8
              replace s35 := ku s35
              replace s34 := ku s34
              replace s36 := ku s36
              replace s37 := ku s37
              replace s33 := ku s33
              replace s38 := ku s38
              replace s39 := ku s39
              replace s40 := ku s40
              replace s9 := ku s9
              replace s10 := ku s10
              replace hz := zz
              clear kk zz
              refine vh_done (by kernel_rfl) ?_
              exact ⟨_, rfl, hz, s2, s3, s4, s5, s7, s8, q, t, s9, s10, s11, HT, tin7, tal, hS⟩
            · intro R4x12 zz kk s9x
              replace s2 := ku s2
              replace s3 := ku s3
              replace s4 := ku s4
              replace s5 := ku s5
              replace s7 := ku s7
              replace s8 := ku s8
              replace s35 := ku s35
              replace s34 := ku s34
              replace s36 := ku s36
              clear kk hz
              have hz := zz
              have s9 := s9x
              clear zz s9x
              have gin := gin.later ba
              have hS := hSa
              clear hy4x3 hSa
              refine vh_call 3 rfl (by kernel_rfl) (want_none rfl) (ex_call rfl (by simp only [List.map_toArray, List.map_cons, List.map_nil, (ev s34 rfl), (ev s35 rfl), (ev s36 rfl), evc] <;> rfl) rfl) (admitC9 t F39 F39 4 3 g false y4x3 tal (by decide) (ck_f9 0 0) (ad3_9 g).1 (ad3_9 g).2 (tin.later hS) gin (hT.later hS hT.lt)) rfl hz (by decide) ?_
              rintro e c4c ⟨t, rfl, tin, tal, tup, h4c⟩
              refine ⟨_, rfl, hS.trans (h4c.mono hS.size), fun R4x13 zz kk s37 => ?_⟩
              replace s2 := ku s2
              replace s3 := ku s3
              replace s4 := ku s4
              replace s5 := ku s5
              replace s7 := ku s7
              replace s8 := ku s8
              replace s35 := ku s35
              replace s34 := ku s34
              replace s36 := ku s36
              replace s9 := ku s9
              replace hz := zz
              clear kk zz
              have zc2 := h4c.size
              have gin := gin.later h4c
              have HQ := HQ.bel h4c
              have hS := hS.trans (h4c.mono hS.size)
              refine vh_take 4 true (.tuple #[t.val, .bool false, .int .i64 0]) rfl (by kernel_rfl) (by kernel_rfl) (by kernel_rfl) (want_none rfl) (fun hc v hv => ex_move rfl (ev s37 rfl)) rfl hz (by decide) hS (fun R4x14 zz kk s33 => ?_)
              replace s2 := ku s2
              replace s3 := ku s3
              replace s4 := ku s4
              replace s5 := ku s5
              replace s7 := ku s7
              replace s8 := ku s8
              replace s35 := ku s35
              replace s34 := ku s34
              replace s36 := ku s36
              replace s9 := ku s9
              replace s37 := ku s37
              replace hz := zz
              clear kk zz
              refine vh_take 5 true (t.val) rfl (by kernel_rfl) (by kernel_rfl) (by kernel_rfl) (want_none rfl) (fun hc v hv => ex_ext8 rfl (ev s33 rfl) rfl) rfl hz (by decide) hS (fun R4x15 zz kk s38 => ?_)
              replace s2 := ku s2
              replace s3 := ku s3
              replace s4 := ku s4
              replace s5 := ku s5
              replace s7 := ku s7
              replace s8 := ku s8
              replace s35 := ku s35
              replace s34 := ku s34
              replace s36 := ku s36
              replace s9 := ku s9
              replace s37 := ku s37
              replace s33 := ku s33
              replace hz := zz
              clear kk zz
              refine vh_take 6 true (.bool false) rfl (by kernel_rfl) (by kernel_rfl) (by kernel_rfl) (want_none rfl) (fun hc v hv => ex_ext8 rfl (ev s33 rfl) rfl) rfl hz (by decide) hS (fun R4x16 zz kk s39 => ?_)
              replace s2 := ku s2
              replace s3 := ku s3
              replace s4 := ku s4
              replace s5 := ku s5
              replace s7 := ku s7
              replace s8 := ku s8
              replace s35 := ku s35
              replace s34 := ku s34
              replace s36 := ku s36
              replace s9 := ku s9
              replace s37 := ku s37
              replace s33 := ku s33
              replace s38 := ku s38
              replace hz := zz
              clear kk zz
              refine vh_take 7 true (.int .i64 0) rfl (by kernel_rfl) (by kernel_rfl) (by kernel_rfl) (want_none rfl) (fun hc v hv => ex_ext8 rfl (ev s33 rfl) rfl) rfl hz (by decide) hS (fun R4x17 zz kk s40 => ?_)
              replace s2 := ku s2
              replace s3 := ku s3
              replace s4 := ku s4
              replace s5 := ku s5
              replace s7 := ku s7
              replace s8 := ku s8
              replace s35 := ku s35
              replace s34 := ku s34
              replace s36 := ku s36
              replace s9 := ku s9
              replace s37 := ku s37
              replace s33 := ku s33
              replace s38 := ku s38
              replace s39 := ku s39
              replace hz := zz
              clear kk zz
              have HT := SB7.put HQ t
              have UT := upd12 c4c q t
              have hST := hS.trans (UT.below hS.size (fun k hk => by omega))
              refine vh_store8 9 (sets c4c q 0 t.cs) rfl (by kernel_rfl) (want_none rfl) (ex_st rfl (ev s9 rfl) (ev s38 rfl) (st12 HQ t)) rfl hST ?_
              obtain ⟨x7, hx7⟩ : ∃ v, v = sets c4c q 0 t.cs := ⟨_, rfl⟩
              rw [← hx7] at HT UT hST ⊢
              clear hx7
              have tin7 : t.In x7 := tup q x7 (by omega) UT
              have hS := hST
              refine vh_take 10 true (.bool false) rfl (by kernel_rfl) (by kernel_rfl) (by kernel_rfl) (want_none rfl) (fun hc v hv => ex_assign rfl (ev s39 rfl)) rfl hz (by decide) hS (fun R4x18 zz kk s10 => ?_)
              replace s2 := ku s2
              replace s3 := ku s3
              replace s4 := ku s4
              replace s5 := ku s5
              replace s7 := ku s7
              replace s8 := ku s8
              replace s35 := ku s35
              replace s34 := ku s34
              replace s36 := ku s36
              replace s9 := ku s9
              replace s37 := ku s37
              replace s33 := ku s33
              replace s38 := ku s38
              replace s39 := ku s39
              replace s40 := ku s40
              replace hz := zz
              clear kk zz
              refine vh_take 11 true (.int .i64 0) rfl (by kernel_rfl) (by kernel_rfl) (by kernel_rfl) (want_none rfl) (fun hc v hv => ex_assign rfl (ev s40 rfl)) rfl hz (by decide) hS (fun R4x19 zz kk s11 => ?_)
              replace s2 := ku s2
              replace s3 := ku s3
              replace s4 := ku s4
              replace s5 := ku s5
              replace s7 := ku s7
              replace s8 := ku s8
              replace s35 := ku s35
              replace s34 := ku s34
              replace s36 := ku s36
              replace s9 := ku s9
              replace s37 := ku s37
              replace s33 := ku s33
              replace s38 := ku s38
              replace s39 := ku s39
              replace s40 := ku s40
              replace s10 := ku s10
              replace hz := zz
              clear kk zz
              refine vh_done (by kernel_rfl) ?_
              exact ⟨_, rfl, hz, s2, s3, s4, s5, s7, s8, q, t, s9, s10, s11, HT, tin7, tal, hS⟩
          · intro R4x20 zz kk s9x
            replace s2 := ku s2
            replace s3 := ku s3
            replace s4 := ku s4
            replace s5 := ku s5
            replace s7 := ku s7
            replace s8 := ku s8
            replace s35 := ku s35
            replace s34 := ku s34
            clear kk hz
            have hz := zz
            have s9 := s9x
            clear zz s9x
            have hS := hSa
            clear hy4x2 hSa
            refine vh_call 2 rfl (by kernel_rfl) (want_none rfl) (ex_call (args := #[.int .u64 4, .int .u64 3]) rfl (by simp only [List.map_toArray, List.map_cons, List.map_nil, evc] <;> rfl) rfl) (commit9 4 3 y4x2) rfl hz (by decide) ?_
            rintro e c4b ⟨g, rfl, gin, h4b⟩
            refine ⟨_, rfl, hS.trans (h4b.mono hS.size), fun R4x21 zz kk s36 => ?_⟩
            replace s2 := ku s2
            replace s3 := ku s3
            replace s4 := ku s4
            replace s5 := ku s5
            replace s7 := ku s7
            replace s8 := ku s8
            replace s35 := ku s35
            replace s34 := ku s34
            replace s9 := ku s9
            replace hz := zz
            clear kk zz
            have zc1 := h4b.size
            have HQ := HQ.bel h4b
            have hS := hS.trans (h4b.mono hS.size)
            refine vh_call 3 rfl (by kernel_rfl) (want_none rfl) (ex_call rfl (by simp only [List.map_toArray, List.map_cons, List.map_nil, (ev s34 rfl), (ev s35 rfl), (ev s36 rfl), evc] <;> rfl) rfl) (admitC9 t F39 F39 4 3 g false c4b tal (by decide) (ck_f9 0 0) (ad3_9 g).1 (ad3_9 g).2 (tin.later hS) gin (hT.later hS hT.lt)) rfl hz (by decide) ?_
            rintro e c4c ⟨t, rfl, tin, tal, tup, h4c⟩
            refine ⟨_, rfl, hS.trans (h4c.mono hS.size), fun R4x22 zz kk s37 => ?_⟩
            replace s2 := ku s2
            replace s3 := ku s3
            replace s4 := ku s4
            replace s5 := ku s5
            replace s7 := ku s7
            replace s8 := ku s8
            replace s35 := ku s35
            replace s34 := ku s34
            replace s9 := ku s9
            replace s36 := ku s36
            replace hz := zz
            clear kk zz
            have zc2 := h4c.size
            have gin := gin.later h4c
            have HQ := HQ.bel h4c
            have hS := hS.trans (h4c.mono hS.size)
            refine vh_take 4 true (.tuple #[t.val, .bool false, .int .i64 0]) rfl (by kernel_rfl) (by kernel_rfl) (by kernel_rfl) (want_none rfl) (fun hc v hv => ex_move rfl (ev s37 rfl)) rfl hz (by decide) hS (fun R4x23 zz kk s33 => ?_)
            replace s2 := ku s2
            replace s3 := ku s3
            replace s4 := ku s4
            replace s5 := ku s5
            replace s7 := ku s7
            replace s8 := ku s8
            replace s35 := ku s35
            replace s34 := ku s34
            replace s9 := ku s9
            replace s36 := ku s36
            replace s37 := ku s37
            replace hz := zz
            clear kk zz
            refine vh_take 5 true (t.val) rfl (by kernel_rfl) (by kernel_rfl) (by kernel_rfl) (want_none rfl) (fun hc v hv => ex_ext8 rfl (ev s33 rfl) rfl) rfl hz (by decide) hS (fun R4x24 zz kk s38 => ?_)
            replace s2 := ku s2
            replace s3 := ku s3
            replace s4 := ku s4
            replace s5 := ku s5
            replace s7 := ku s7
            replace s8 := ku s8
            replace s35 := ku s35
            replace s34 := ku s34
            replace s9 := ku s9
            replace s36 := ku s36
            replace s37 := ku s37
            replace s33 := ku s33
            replace hz := zz
            clear kk zz
            refine vh_take 6 true (.bool false) rfl (by kernel_rfl) (by kernel_rfl) (by kernel_rfl) (want_none rfl) (fun hc v hv => ex_ext8 rfl (ev s33 rfl) rfl) rfl hz (by decide) hS (fun R4x25 zz kk s39 => ?_)
            replace s2 := ku s2
            replace s3 := ku s3
            replace s4 := ku s4
            replace s5 := ku s5
            replace s7 := ku s7
            replace s8 := ku s8
            replace s35 := ku s35
            replace s34 := ku s34
            replace s9 := ku s9
            replace s36 := ku s36
            replace s37 := ku s37
            replace s33 := ku s33
            replace s38 := ku s38
            replace hz := zz
            clear kk zz
            refine vh_take 7 true (.int .i64 0) rfl (by kernel_rfl) (by kernel_rfl) (by kernel_rfl) (want_none rfl) (fun hc v hv => ex_ext8 rfl (ev s33 rfl) rfl) rfl hz (by decide) hS (fun R4x26 zz kk s40 => ?_)
            replace s2 := ku s2
            replace s3 := ku s3
            replace s4 := ku s4
            replace s5 := ku s5
            replace s7 := ku s7
            replace s8 := ku s8
            replace s35 := ku s35
            replace s34 := ku s34
            replace s9 := ku s9
            replace s36 := ku s36
            replace s37 := ku s37
            replace s33 := ku s33
            replace s38 := ku s38
            replace s39 := ku s39
            replace hz := zz
            clear kk zz
            have HT := SB7.put HQ t
            have UT := upd12 c4c q t
            have hST := hS.trans (UT.below hS.size (fun k hk => by omega))
            refine vh_store8 9 (sets c4c q 0 t.cs) rfl (by kernel_rfl) (want_none rfl) (ex_st rfl (ev s9 rfl) (ev s38 rfl) (st12 HQ t)) rfl hST ?_
            obtain ⟨x7, hx7⟩ : ∃ v, v = sets c4c q 0 t.cs := ⟨_, rfl⟩
            rw [← hx7] at HT UT hST ⊢
            clear hx7
            have tin7 : t.In x7 := tup q x7 (by omega) UT
            have hS := hST
            refine vh_take 10 true (.bool false) rfl (by kernel_rfl) (by kernel_rfl) (by kernel_rfl) (want_none rfl) (fun hc v hv => ex_assign rfl (ev s39 rfl)) rfl hz (by decide) hS (fun R4x27 zz kk s10 => ?_)
            replace s2 := ku s2
            replace s3 := ku s3
            replace s4 := ku s4
            replace s5 := ku s5
            replace s7 := ku s7
            replace s8 := ku s8
            replace s35 := ku s35
            replace s34 := ku s34
            replace s9 := ku s9
            replace s36 := ku s36
            replace s37 := ku s37
            replace s33 := ku s33
            replace s38 := ku s38
            replace s39 := ku s39
            replace s40 := ku s40
            replace hz := zz
            clear kk zz
            refine vh_take 11 true (.int .i64 0) rfl (by kernel_rfl) (by kernel_rfl) (by kernel_rfl) (want_none rfl) (fun hc v hv => ex_assign rfl (ev s40 rfl)) rfl hz (by decide) hS (fun R4x28 zz kk s11 => ?_)
            replace s2 := ku s2
            replace s3 := ku s3
            replace s4 := ku s4
            replace s5 := ku s5
            replace s7 := ku s7
            replace s8 := ku s8
            replace s35 := ku s35
            replace s34 := ku s34
            replace s9 := ku s9
            replace s36 := ku s36
            replace s37 := ku s37
            replace s33 := ku s33
            replace s38 := ku s38
            replace s39 := ku s39
            replace s40 := ku s40
            replace s10 := ku s10
            replace hz := zz
            clear kk zz
            refine vh_done (by kernel_rfl) ?_
            exact ⟨_, rfl, hz, s2, s3, s4, s5, s7, s8, q, t, s9, s10, s11, HT, tin7, tal, hS⟩
        · intro R4x29 zz kk s9x
          replace s2 := ku s2
          replace s3 := ku s3
          replace s4 := ku s4
          replace s5 := ku s5
          replace s7 := ku s7
          replace s8 := ku s8
          replace s35 := ku s35
          clear kk hz
          have hz := zz
          have s9 := s9x
          clear zz s9x
          have hS := hSa
          clear hy4x1 hSa
          refine vh_call 0 rfl (by kernel_rfl) (want_none rfl) (ex_call (args := #[]) rfl (by simp) rfl) (three9 y4x1) rfl hz (by decide) ?_
          rintro e c4a ⟨rfl, h4a⟩
          refine ⟨_, rfl, hS.trans (h4a.mono hS.size), fun R4x30 zz kk s34 => ?_⟩
          replace s2 := ku s2
          replace s3 := ku s3
          replace s4 := ku s4
          replace s5 := ku s5
          replace s7 := ku s7
          replace s8 := ku s8
          replace s35 := ku s35
          replace s9 := ku s9
          replace hz := zz
          clear kk zz
          have zc0 := h4a.size
          have HQ := HQ.bel h4a
          have hS := hS.trans (h4a.mono hS.size)
          refine vh_call 2 rfl (by kernel_rfl) (want_none rfl) (ex_call (args := #[.int .u64 4, .int .u64 3]) rfl (by simp only [List.map_toArray, List.map_cons, List.map_nil, evc] <;> rfl) rfl) (commit9 4 3 c4a) rfl hz (by decide) ?_
          rintro e c4b ⟨g, rfl, gin, h4b⟩
          refine ⟨_, rfl, hS.trans (h4b.mono hS.size), fun R4x31 zz kk s36 => ?_⟩
          replace s2 := ku s2
          replace s3 := ku s3
          replace s4 := ku s4
          replace s5 := ku s5
          replace s7 := ku s7
          replace s8 := ku s8
          replace s35 := ku s35
          replace s9 := ku s9
          replace s34 := ku s34
          replace hz := zz
          clear kk zz
          have zc1 := h4b.size
          have HQ := HQ.bel h4b
          have hS := hS.trans (h4b.mono hS.size)
          refine vh_call 3 rfl (by kernel_rfl) (want_none rfl) (ex_call rfl (by simp only [List.map_toArray, List.map_cons, List.map_nil, (ev s34 rfl), (ev s35 rfl), (ev s36 rfl), evc] <;> rfl) rfl) (admitC9 t F39 F39 4 3 g false c4b tal (by decide) (ck_f9 0 0) (ad3_9 g).1 (ad3_9 g).2 (tin.later hS) gin (hT.later hS hT.lt)) rfl hz (by decide) ?_
          rintro e c4c ⟨t, rfl, tin, tal, tup, h4c⟩
          refine ⟨_, rfl, hS.trans (h4c.mono hS.size), fun R4x32 zz kk s37 => ?_⟩
          replace s2 := ku s2
          replace s3 := ku s3
          replace s4 := ku s4
          replace s5 := ku s5
          replace s7 := ku s7
          replace s8 := ku s8
          replace s35 := ku s35
          replace s9 := ku s9
          replace s34 := ku s34
          replace s36 := ku s36
          replace hz := zz
          clear kk zz
          have zc2 := h4c.size
          have gin := gin.later h4c
          have HQ := HQ.bel h4c
          have hS := hS.trans (h4c.mono hS.size)
          refine vh_take 4 true (.tuple #[t.val, .bool false, .int .i64 0]) rfl (by kernel_rfl) (by kernel_rfl) (by kernel_rfl) (want_none rfl) (fun hc v hv => ex_move rfl (ev s37 rfl)) rfl hz (by decide) hS (fun R4x33 zz kk s33 => ?_)
          replace s2 := ku s2
          replace s3 := ku s3
          replace s4 := ku s4
          replace s5 := ku s5
          replace s7 := ku s7
          replace s8 := ku s8
          replace s35 := ku s35
          replace s9 := ku s9
          replace s34 := ku s34
          replace s36 := ku s36
          replace s37 := ku s37
          replace hz := zz
          clear kk zz
          refine vh_take 5 true (t.val) rfl (by kernel_rfl) (by kernel_rfl) (by kernel_rfl) (want_none rfl) (fun hc v hv => ex_ext8 rfl (ev s33 rfl) rfl) rfl hz (by decide) hS (fun R4x34 zz kk s38 => ?_)
          replace s2 := ku s2
          replace s3 := ku s3
          replace s4 := ku s4
          replace s5 := ku s5
          replace s7 := ku s7
          replace s8 := ku s8
          replace s35 := ku s35
          replace s9 := ku s9
          replace s34 := ku s34
          replace s36 := ku s36
          replace s37 := ku s37
          replace s33 := ku s33
          replace hz := zz
          clear kk zz
          refine vh_take 6 true (.bool false) rfl (by kernel_rfl) (by kernel_rfl) (by kernel_rfl) (want_none rfl) (fun hc v hv => ex_ext8 rfl (ev s33 rfl) rfl) rfl hz (by decide) hS (fun R4x35 zz kk s39 => ?_)
          replace s2 := ku s2
          replace s3 := ku s3
          replace s4 := ku s4
          replace s5 := ku s5
          replace s7 := ku s7
          replace s8 := ku s8
          replace s35 := ku s35
          replace s9 := ku s9
          replace s34 := ku s34
          replace s36 := ku s36
          replace s37 := ku s37
          replace s33 := ku s33
          replace s38 := ku s38
          replace hz := zz
          clear kk zz
          refine vh_take 7 true (.int .i64 0) rfl (by kernel_rfl) (by kernel_rfl) (by kernel_rfl) (want_none rfl) (fun hc v hv => ex_ext8 rfl (ev s33 rfl) rfl) rfl hz (by decide) hS (fun R4x36 zz kk s40 => ?_)
          replace s2 := ku s2
          replace s3 := ku s3
          replace s4 := ku s4
          replace s5 := ku s5
          replace s7 := ku s7
          replace s8 := ku s8
          replace s35 := ku s35
          replace s9 := ku s9
          replace s34 := ku s34
          replace s36 := ku s36
          replace s37 := ku s37
          replace s33 := ku s33
          replace s38 := ku s38
          replace s39 := ku s39
          replace hz := zz
          clear kk zz
          have HT := SB7.put HQ t
          have UT := upd12 c4c q t
          have hST := hS.trans (UT.below hS.size (fun k hk => by omega))
          refine vh_store8 9 (sets c4c q 0 t.cs) rfl (by kernel_rfl) (want_none rfl) (ex_st rfl (ev s9 rfl) (ev s38 rfl) (st12 HQ t)) rfl hST ?_
          obtain ⟨x7, hx7⟩ : ∃ v, v = sets c4c q 0 t.cs := ⟨_, rfl⟩
          rw [← hx7] at HT UT hST ⊢
          clear hx7
          have tin7 : t.In x7 := tup q x7 (by omega) UT
          have hS := hST
          refine vh_take 10 true (.bool false) rfl (by kernel_rfl) (by kernel_rfl) (by kernel_rfl) (want_none rfl) (fun hc v hv => ex_assign rfl (ev s39 rfl)) rfl hz (by decide) hS (fun R4x37 zz kk s10 => ?_)
          replace s2 := ku s2
          replace s3 := ku s3
          replace s4 := ku s4
          replace s5 := ku s5
          replace s7 := ku s7
          replace s8 := ku s8
          replace s35 := ku s35
          replace s9 := ku s9
          replace s34 := ku s34
          replace s36 := ku s36
          replace s37 := ku s37
          replace s33 := ku s33
          replace s38 := ku s38
          replace s39 := ku s39
          replace s40 := ku s40
          replace hz := zz
          clear kk zz
          refine vh_take 11 true (.int .i64 0) rfl (by kernel_rfl) (by kernel_rfl) (by kernel_rfl) (want_none rfl) (fun hc v hv => ex_assign rfl (ev s40 rfl)) rfl hz (by decide) hS (fun R4x38 zz kk s11 => ?_)
          replace s2 := ku s2
          replace s3 := ku s3
          replace s4 := ku s4
          replace s5 := ku s5
          replace s7 := ku s7
          replace s8 := ku s8
          replace s35 := ku s35
          replace s9 := ku s9
          replace s34 := ku s34
          replace s36 := ku s36
          replace s37 := ku s37
          replace s33 := ku s33
          replace s38 := ku s38
          replace s39 := ku s39
          replace s40 := ku s40
          replace s10 := ku s10
          replace hz := zz
          clear kk zz
          refine vh_done (by kernel_rfl) ?_
          exact ⟨_, rfl, hz, s2, s3, s4, s5, s7, s8, q, t, s9, s10, s11, HT, tin7, tal, hS⟩
      · clear hz s2 s3 s4 s5 s7 s8
        intro T7 z3 hJ
        obtain ⟨hz, s2, s3, s4, s5, s7, s8, q9, t9, s9, s10, s11, HI9⟩ := hJ
        obtain ⟨_, _, _, hb⟩ := HI9.out
        clear HI9 s9
        have hB := hB.trans (hb.mono hB0)
        have hB0 := hB.size
        have HT3 := HT3.bel hb
        have tin := tin.later hb
        clear hb
        obtain ⟨qv, ov, hva, hix, hc1⟩ := vec0_9 tin.v tal.v
        have hself : t.self = 1 := tal.self
        have hlen : (t.V.length : Int) = 3 := by rw [tal.v]; rfl
        go_upto_region 5 with fail
        refine wp_region_lit ?_
        refine vt _ (ex_move rfl (ev s2 rfl)) hz (fun Yi zz kk s41 => ?_)
        replace s3 := ku s3
        replace s4 := ku s4
        replace s5 := ku s5
        replace s7 := ku s7
        replace s8 := ku s8
        replace s10 := ku s10
        replace s11 := ku s11
        replace hz := zz
        clear kk zz s2
        refine vcallP (want_none rfl) (ex_call rfl (by simp only [List.map_toArray, List.map_cons, List.map_nil, (ev s41 rfl), evc] <;> rfl) rfl) (num9 (fvE9 c39 1) z3) rfl hz (by decide) ?_
        rintro e n1 ⟨rfl, hb⟩
        refine ⟨_, rfl, fun Yj zz kk s42 => ?_⟩
        have hB := hB.trans (hb.mono hB0)
        have hB0 := hB.size
        have HT3 := HT3.bel hb
        have hc1 := cell8 hc1 hb
        clear hb
        replace s3 := ku s3
        replace s4 := ku s4
        replace s5 := ku s5
        replace s7 := ku s7
        replace s8 := ku s8
        replace s10 := ku s10
        replace s11 := ku s11
        replace hz := zz
        clear kk zz s41 Yi
        refine vt _ (ex_move rfl (ev s5 rfl)) hz (fun Yk zz kk s43 => ?_)
        replace s3 := ku s3
        replace s4 := ku s4
        replace s7 := ku s7
        replace s8 := ku s8
        replace s10 := ku s10
        replace s11 := ku s11
        replace s42 := ku s42
        replace hz := zz
        clear kk zz s5 Yj
        refine vcallP (want_none rfl) (ex_call rfl (by simp only [List.map_toArray, List.map_cons, List.map_nil, (ev s43 rfl), evc] <;> rfl) rfl) (num9 0 n1) rfl hz (by decide) ?_
        rintro e n2 ⟨rfl, hb⟩
        refine ⟨_, rfl, fun Yl zz kk s44 => ?_⟩
        have hB := hB.trans (hb.mono hB0)
        have hB0 := hB.size
        have HT3 := HT3.bel hb
        have hc1 := cell8 hc1 hb
        clear hb
        replace s3 := ku s3
        replace s4 := ku s4
        replace s7 := ku s7
        replace s8 := ku s8
        replace s10 := ku s10
        replace s11 := ku s11
        replace s42 := ku s42
        replace hz := zz
        clear kk zz s43 Yk
        refine vt (.int .i64 0) (ex_bin rfl (ev s42 rfl) (ev s44 rfl) (addD8 _ _ _ _ 0 (by rfl) _)) hz (fun Ym zz kk s45 => ?_)
        replace s3 := ku s3
        replace s4 := ku s4
        replace s7 := ku s7
        replace s8 := ku s8
        replace s10 := ku s10
        replace s11 := ku s11
        replace hz := zz
        clear kk zz s42 s44 Yl
        refine vt _ (ex_move rfl (ev s8 rfl)) hz (fun Yn zz kk s46 => ?_)
        replace s3 := ku s3
        replace s4 := ku s4
        replace s7 := ku s7
        replace s10 := ku s10
        replace s11 := ku s11
        replace s45 := ku s45
        replace hz := zz
        clear kk zz s8 Ym
        refine vcallP (want_none rfl) (ex_call rfl (by simp only [List.map_toArray, List.map_cons, List.map_nil, (ev s46 rfl), evc] <;> rfl) rfl) (num9 0 n2) rfl hz (by decide) ?_
        rintro e n3 ⟨rfl, hb⟩
        refine ⟨_, rfl, fun Yo zz kk s47 => ?_⟩
        have hB := hB.trans (hb.mono hB0)
        have hB0 := hB.size
        have HT3 := HT3.bel hb
        have hc1 := cell8 hc1 hb
        clear hb
        replace s3 := ku s3
        replace s4 := ku s4
        replace s7 := ku s7
        replace s10 := ku s10
        replace s11 := ku s11
        replace s45 := ku s45
        replace hz := zz
        clear kk zz s46 Yn
        refine vt (.int .i64 0) (ex_bin rfl (ev s45 rfl) (ev s47 rfl) (addD8 _ _ _ _ 0 (by rfl) _)) hz (fun Yp zz kk s48 => ?_)
        replace s3 := ku s3
        replace s4 := ku s4
        replace s7 := ku s7
        replace s10 := ku s10
        replace s11 := ku s11
        replace hz := zz
        clear kk zz s45 s47 Yo
        refine vt _ (ex_move rfl (ev s11 rfl)) hz (fun Yq zz kk s49 => ?_)
        replace s3 := ku s3
        replace s4 := ku s4
        replace s7 := ku s7
        replace s10 := ku s10
        replace s48 := ku s48
        replace hz := zz
        clear kk zz s11 Yp
        refine vcallP (want_none rfl) (ex_call rfl (by simp only [List.map_toArray, List.map_cons, List.map_nil, (ev s49 rfl), evc] <;> rfl) rfl) (num9 0 n3) rfl hz (by decide) ?_
        rintro e n4 ⟨rfl, hb⟩
        refine ⟨_, rfl, fun Yr zz kk s50 => ?_⟩
        have hB := hB.trans (hb.mono hB0)
        have hB0 := hB.size
        have HT3 := HT3.bel hb
        have hc1 := cell8 hc1 hb
        clear hb
        replace s3 := ku s3
        replace s4 := ku s4
        replace s7 := ku s7
        replace s10 := ku s10
        replace s48 := ku s48
        replace hz := zz
        clear kk zz s49 Yq
        refine vt (.int .i64 0) (ex_bin rfl (ev s48 rfl) (ev s50 rfl) (addD8 _ _ _ _ 0 (by rfl) _)) hz (fun Ys zz kk s51 => ?_)
        replace s3 := ku s3
        replace s4 := ku s4
        replace s7 := ku s7
        replace s10 := ku s10
        replace hz := zz
        clear kk zz s48 s50 Yr
        refine vt (.bool true) (ex_bin rfl (ev s51 rfl) rfl (eqlI9 _ _ _ _ rfl _)) hz (fun Yt zz kk s52 => ?_)
        replace s3 := ku s3
        replace s4 := ku s4
        replace s7 := ku s7
        replace s10 := ku s10
        replace hz := zz
        clear kk zz s51 Ys
        refine vt _ (ex_move rfl (ev s52 rfl)) hz (fun Yu zz kk s53 => ?_)
        replace s3 := ku s3
        replace s4 := ku s4
        replace s7 := ku s7
        replace s10 := ku s10
        replace hz := zz
        clear kk zz s52 Yt
        refine vl true _ (want_t9 rfl rfl s53) (fun hc => ex_move rfl (ev s4 rfl)) rfl hz (by decide) (fun Yv zz kk s54 => ?_)
        replace s3 := ku s3
        replace s7 := ku s7
        replace s10 := ku s10
        replace s53 := ku s53
        replace hz := zz
        clear kk zz s4 Yu
        refine vt (.bool true) (ex_andT9 rfl s53 s54) hz (fun Yw zz kk s55 => ?_)
        replace s3 := ku s3
        replace s7 := ku s7
        replace s10 := ku s10
        replace hz := zz
        clear kk zz s53 s54 Yv
        refine vt _ (ex_move rfl (ev s55 rfl)) hz (fun Yx zz kk s56 => ?_)
        replace s3 := ku s3
        replace s7 := ku s7
        replace s10 := ku s10
        replace hz := zz
        clear kk zz s55 Yw
        refine vl true _ (want_t9 rfl rfl s56) (fun hc => ex_move rfl (ev s7 rfl)) rfl hz (by decide) (fun Yy zz kk s57 => ?_)
        replace s3 := ku s3
        replace s10 := ku s10
        replace s56 := ku s56
        replace hz := zz
        clear kk zz s7 Yx
        refine vl true (.bool true) (want_t9 rfl rfl s56) (fun hc => ex_not rfl (ev s57 rfl)) rfl hz (by decide) (fun Yz zz kk s58 => ?_)
        replace s3 := ku s3
        replace s10 := ku s10
        replace s56 := ku s56
        replace hz := zz
        clear kk zz s57 Yy
        refine vt (.bool true) (ex_andT9 rfl s56 s58) hz (fun Y0 zz kk s59 => ?_)
        replace s3 := ku s3
        replace s10 := ku s10
        replace hz := zz
        clear kk zz s56 s58 Yz
        refine vt _ (ex_move rfl (ev s59 rfl)) hz (fun Y1 zz kk s60 => ?_)
        replace s3 := ku s3
        replace s10 := ku s10
        replace hz := zz
        clear kk zz s59 Y0
        refine vl true _ (want_t9 rfl rfl s60) (fun hc => ex_move rfl (ev s10 rfl)) rfl hz (by decide) (fun Y2 zz kk s61 => ?_)
        replace s3 := ku s3
        replace s60 := ku s60
        replace hz := zz
        clear kk zz s10 Y1
        refine vl true (.bool true) (want_t9 rfl rfl s60) (fun hc => ex_not rfl (ev s61 rfl)) rfl hz (by decide) (fun Y3 zz kk s62 => ?_)
        replace s3 := ku s3
        replace s60 := ku s60
        replace hz := zz
        clear kk zz s61 Y2
        refine vt (.bool true) (ex_andT9 rfl s60 s62) hz (fun Y4 zz kk s63 => ?_)
        replace s3 := ku s3
        replace hz := zz
        clear kk zz s60 s62 Y3
        refine vt _ (ex_move rfl (ev s63 rfl)) hz (fun Y5 zz kk s64 => ?_)
        replace s3 := ku s3
        replace hz := zz
        clear kk zz s63 Y4
        refine vl true (.pointer (some ⟨q3, 0, none⟩)) (want_t9 rfl rfl s64) (fun hc => ex_fa rfl (ev s3 rfl) (faS0 _ _)) rfl hz (by decide) (fun Y6 zz kk s65 => ?_)
        replace s3 := ku s3
        replace s64 := ku s64
        replace hz := zz
        clear kk zz Y5
        refine vl true (.int .i64 t.self) (want_t9 rfl rfl s64) (fun hc => ex_ld rfl (ev s65 rfl) (ldI8 (HT3.cell 0 _ rfl))) rfl hz (by decide) (fun Y7 zz kk s66 => ?_)
        replace s3 := ku s3
        replace s64 := ku s64
        replace hz := zz
        clear kk zz s65 Y6
        refine vl true (.bool true) (want_t9 rfl rfl s64) (fun hc => ex_bin rfl (ev s66 rfl) rfl (eqlI9 _ _ _ _ hself _)) rfl hz (by decide) (fun Y8 zz kk s67 => ?_)
        replace s3 := ku s3
        replace s64 := ku s64
        replace hz := zz
        clear kk zz s66 Y7
        refine vt (.bool true) (ex_andT9 rfl s64 s67) hz (fun Y9 zz kk s68 => ?_)
        replace s3 := ku s3
        replace hz := zz
        clear kk zz s64 s67 Y8
        refine vt _ (ex_move rfl (ev s68 rfl)) hz (fun Yba zz kk s69 => ?_)
        replace s3 := ku s3
        replace hz := zz
        clear kk zz s68 Y9
        refine vl true (.pointer (some ⟨q3, 6, none⟩)) (want_t9 rfl rfl s69) (fun hc => ex_fa rfl (ev s3 rfl) (faS6 _ _)) rfl hz (by decide) (fun Ybb zz kk s70 => ?_)
        replace s3 := ku s3
        replace s69 := ku s69
        replace hz := zz
        clear kk zz Yba
        refine vl true (.slice t.va t.V.length t.vc) (want_t9 rfl rfl s69) (fun hc => ex_ld rfl (ev s70 rfl) (ldV8 (HT3.cell 6 _ rfl))) rfl hz (by decide) (fun Ybc zz kk s71 => ?_)
        replace s3 := ku s3
        replace s69 := ku s69
        replace hz := zz
        clear kk zz s70 Ybb
        refine vl true (.int .i64 (t.V.length : Int)) (want_t9 rfl rfl s69) (fun hc => ex_lenV8 rfl rfl (ev s71 rfl)) rfl hz (by decide) (fun Ybd zz kk s72 => ?_)
        replace s3 := ku s3
        replace s69 := ku s69
        replace hz := zz
        clear kk zz s71 Ybc
        refine vl true (.bool true) (want_t9 rfl rfl s69) (fun hc => ex_bin rfl (ev s72 rfl) rfl (eqlI9 _ _ _ _ hlen _)) rfl hz (by decide) (fun Ybe zz kk s73 => ?_)
        replace s3 := ku s3
        replace s69 := ku s69
        replace hz := zz
        clear kk zz s72 Ybd
        refine vt (.bool true) (ex_andT9 rfl s69 s73) hz (fun Ybf zz kk s74 => ?_)
        replace s3 := ku s3
        replace hz := zz
        clear kk zz s69 s73 Ybe
        refine vt _ (ex_move rfl (ev s74 rfl)) hz (fun Ybg zz kk s75 => ?_)
        replace s3 := ku s3
        replace hz := zz
        clear kk zz s74 Ybf
        refine vl true (.pointer (some ⟨q3, 6, none⟩)) (want_t9 rfl rfl s75) (fun hc => ex_fa rfl (ev s3 rfl) (faS6 _ _)) rfl hz (by decide) (fun Ybh zz kk s76 => ?_)
        replace s75 := ku s75
        replace hz := zz
        clear kk zz s3 Ybg
        refine vl true (.slice t.va t.V.length t.vc) (want_t9 rfl rfl s75) (fun hc => ex_ld rfl (ev s76 rfl) (ldV8 (HT3.cell 6 _ rfl))) rfl hz (by decide) (fun Ybi zz kk s77 => ?_)
        replace s75 := ku s75
        replace hz := zz
        clear kk zz s76 Ybh
        refine vl true (.pointer (some ⟨qv, ov, none⟩)) (want_t9 rfl rfl s75) (fun hc => ex_ix rfl (ev s77 rfl) rfl (hix _)) rfl hz (by decide) (fun Ybj zz kk s78 => ?_)
        replace s75 := ku s75
        replace hz := zz
        clear kk zz s77 Ybi
        refine vl true (.pointer (some ⟨qv, ov + 1, none⟩)) (want_t9 rfl rfl s75) (fun hc => ex_fa rfl (ev s78 rfl) (faD9_1 _ _ _)) rfl hz (by decide) (fun Ybk zz kk s79 => ?_)
        replace s75 := ku s75
        replace hz := zz
        clear kk zz s78 Ybj
        refine vl true (.int .u64 4) (want_t9 rfl rfl s75) (fun hc => ex_ld rfl (ev s79 rfl) (ldU9 hc1)) rfl hz (by decide) (fun Ybl zz kk s80 => ?_)
        replace s75 := ku s75
        replace hz := zz
        clear kk zz s79 Ybk
        refine vl true (.bool true) (want_t9 rfl rfl s75) (fun hc => ex_bin rfl (ev s80 rfl) rfl (eqlU9 _ _ _ _ rfl _)) rfl hz (by decide) (fun Ybm zz kk s81 => ?_)
        replace s75 := ku s75
        replace hz := zz
        clear kk zz s80 Ybl
        refine vt (.bool true) (ex_andT9 rfl s75 s81) hz (fun Ybn zz kk s82 => ?_)
        replace hz := zz
        clear kk zz s75 s81 Ybm
        refine vt _ (ex_assign rfl (ev s82 rfl)) hz (fun Ybo zz kk s0 => ?_)
        replace hz := zz
        clear kk zz s82 Ybn
        refine wpList_nil ?_
        go_wp2
        refine bodyPost_ret (results_tmp rfl _ _ _) rfl ⟨?_, hB⟩
        rw [getD_of s0]
        first | done | rfl
end Go.Proofs.YtkfkkajeoocbbaaGreatDoor
