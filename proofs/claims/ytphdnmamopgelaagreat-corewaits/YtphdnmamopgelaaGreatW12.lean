import Derived.Test.YtphdnmamopgelaaGreatW11
set_option maxRecDepth 100000
set_option linter.unusedVariables false
set_option linter.unusedSimpArgs false
namespace Go.Proofs.YtphdnmamopgelaaGreat
open Go.RowKit Go.Maps Go.Shelf
open Classical
theorem ex_bs8 {o : Oper} {ρ : Operand → Value} {s : TypeId} {x : Operand} {X V : Value} {w w' : World} (ho : o.op = .buildSlice s 1 #[(0, x)]) (hx : ρ x = X) (hr : (Instr.buildSlice s 1 #[(0, X)]).run Tryz.prog w = .ok V w') : (execOp ρ o).run Tryz.prog w = .ok (.value V) w' := by
  unfold execOp
  simp only [ho, List.map_toArray, List.map_cons, List.map_nil, hx, Sem.run_bind, hr, Result.andThen_ok]
  rfl
theorem ex_app8 {o : Oper} {ρ : Operand → Value} {x y : Operand} {t : TypeId} {X Y V : Value} {w w' : World} (ho : o.op = .call { callee := .builtin .append, args := #[x, y], argTypes := #[t, t] }) (hs : ρ x = X) (hx : ρ y = Y) (hr : (Builtin.append_ #[t, t] o.type #[X, Y]).run Tryz.prog w = .ok V w') : (execOp ρ o).run Tryz.prog w = .ok (.value V) w' := by
  unfold execOp
  simp only [ho, resolve, invoke, builtin, Sem.run_bind, Sem.run_pure, Result.andThen_ok, List.map_toArray, List.map_cons, List.map_nil, hs, hx, hr]
theorem one9 {α : Type} (Y : Lay α) (w : World) (x : α) : SlY Y (w.alloc (.cells (Y.cs x).toArray Y.T)) (some ⟨w.heap.size, 0, none⟩) 1 1 [x] := by
  refine ⟨rfl, Nat.le_refl _, (by unfold maxLen; omega), (fun h => by cases h), fun z hz => ?_⟩
  cases hz
  refine .inr ⟨w.heap.size, 0, rfl, by simp, fun j y hy k u hu => ?_⟩
  have hj : j = 0 := by
    have := (List.getElem?_eq_some_iff.1 hy).1
    simp at this
    exact this
  subst hj
  simp at hy
  subst hy
  rw [show 0 + 0 * Y.k + k = k by omega]
  exact cell_box7 _ _ _ _ _ (by simpa using hu)
theorem bsI9 (x : Int) (w : World) : (Instr.buildSlice 73 1 #[(0, .int .i64 x)]).run Tryz.prog w = .ok (.slice (some ⟨w.heap.size, 0, none⟩) 1 1) (w.alloc (.cells (yI9.cs x).toArray 3)) := by
  go_simp
  first | done | rfl
theorem bsR9 (d : Int × Int) (w : World) : (Instr.buildSlice 26 1 #[(0, .agg #[.int .u64 d.1, .int .u64 d.2])]).run Tryz.prog w = .ok (.slice (some ⟨w.heap.size, 0, none⟩) 1 1) (w.alloc (.cells (yR9.cs d).toArray 57)) := by
  go_simp
  first | done | rfl
theorem fa0Ak (q o : Nat) (w : World) : (Instr.fieldAt 82 (.pointer (some ⟨q, o, none⟩)) 0).run Tryz.prog w = .ok (.pointer (some ⟨q, o, none⟩)) w := by go_simp
theorem fa1Ak (q o : Nat) (w : World) : (Instr.fieldAt 82 (.pointer (some ⟨q, o, none⟩)) 1).run Tryz.prog w = .ok (.pointer (some ⟨q, o + 1, none⟩)) w := by go_simp
theorem ix9Ak (q o n c i : Nat) (hi : i < n) (w : World) : (Instr.indexAt 28 (.slice (some ⟨q, o, none⟩) n c) (.int .i64 (i : Int))).run Tryz.prog w = .ok (.pointer (some ⟨q, o + i * 4, none⟩)) w := by
  have h1 : (i : Int) < (n : Int) := by omega
  go_simp
theorem fa0Mk (q o : Nat) (w : World) : (Instr.fieldAt 84 (.pointer (some ⟨q, o, none⟩)) 0).run Tryz.prog w = .ok (.pointer (some ⟨q, o, none⟩)) w := by go_simp
theorem fa1Mk (q o : Nat) (w : World) : (Instr.fieldAt 84 (.pointer (some ⟨q, o, none⟩)) 1).run Tryz.prog w = .ok (.pointer (some ⟨q, o + 1, none⟩)) w := by go_simp
theorem ix9Mk (q o n c i : Nat) (hi : i < n) (w : World) : (Instr.indexAt 29 (.slice (some ⟨q, o, none⟩) n c) (.int .i64 (i : Int))).run Tryz.prog w = .ok (.pointer (some ⟨q, o + i * 3, none⟩)) w := by
  have h1 : (i : Int) < (n : Int) := by omega
  go_simp
theorem fa0Bl (q o : Nat) (w : World) : (Instr.fieldAt 59 (.pointer (some ⟨q, o, none⟩)) 0).run Tryz.prog w = .ok (.pointer (some ⟨q, o, none⟩)) w := by go_simp
theorem fa1Bl (q o : Nat) (w : World) : (Instr.fieldAt 59 (.pointer (some ⟨q, o, none⟩)) 1).run Tryz.prog w = .ok (.pointer (some ⟨q, o + 1, none⟩)) w := by go_simp
theorem ix9Bl (q o n c i : Nat) (hi : i < n) (w : World) : (Instr.indexAt 30 (.slice (some ⟨q, o, none⟩) n c) (.int .i64 (i : Int))).run Tryz.prog w = .ok (.pointer (some ⟨q, o + i * 6, none⟩)) w := by
  have h1 : (i : Int) < (n : Int) := by omega
  go_simp
theorem fa0An (q o : Nat) (w : World) : (Instr.fieldAt 61 (.pointer (some ⟨q, o, none⟩)) 0).run Tryz.prog w = .ok (.pointer (some ⟨q, o, none⟩)) w := by go_simp
theorem fa1An (q o : Nat) (w : World) : (Instr.fieldAt 61 (.pointer (some ⟨q, o, none⟩)) 1).run Tryz.prog w = .ok (.pointer (some ⟨q, o + 1, none⟩)) w := by go_simp
theorem ix9An (q o n c i : Nat) (hi : i < n) (w : World) : (Instr.indexAt 31 (.slice (some ⟨q, o, none⟩) n c) (.int .i64 (i : Int))).run Tryz.prog w = .ok (.pointer (some ⟨q, o + i * 6, none⟩)) w := by
  have h1 : (i : Int) < (n : Int) := by omega
  go_simp
theorem rvoters9' (s : Sta) (n : Int) (X : List Mk) (na da : Option Addr) (nc dc k : Nat) (hk : X.length = k) (w : World) (hI : s.In w) (hn : n = (s.V.length : Int)) (hn1 : 0 < s.V.length) (hN : SlY yI9 w na k nc (X.map Mk.n)) (hD : SlY yR9 w da k dc (X.map fun x => (x.h, x.l))) : Calls Tryz.prog 83 #[s.val, .int .i64 n, .slice na k nc, .slice da k dc] w fun e w' => e = .returned (.bool (rv9 s n X)) ∧ Below w.heap.size w w' := by
  subst hk
  exact rvoters9 s n X na da nc dc w hI hn hn1 hN hD
def Sta.vtB9 (s : Sta) (n : Int) : Bool := ((rv9 s n (s.A.map Ak.sm) && rv9 s n (s.M.map Mk.sm)) && rv9 s n (s.B.map Bl.sm)) && rv9 s n (s.N.map An.sm)
set_option maxHeartbeats 1000000 in
theorem rvotes9 (s : Sta) (n : Int) (w : World) (hI : s.In w) (hF : s.Fit) (hn : n = (s.V.length : Int)) (hn1 : 0 < s.V.length) : Calls Tryz.prog 49 #[s.val, .int .i64 n] w fun e w' => e = .returned (.bool (s.vtB9 n)) ∧ Below w.heap.size w w' := by
  go_enter Tryz.func49, Tryz.ntmps49
  go_upto_region 0 with fail
  refine wp_region_lit ?_
  refine vl_gen (fun T => T.size = 143 ∧ T[0]? = some (gw true (s.val)) ∧ T[1]? = some (gw true (.int .i64 n))) ⟨rfl, rfl, rfl⟩ (fun Z0 ⟨hz, s0, s1⟩ => ?_)
  obtain ⟨w1, hw1⟩ : ∃ y, y = w.alloc (.cells s.cs.toArray 33) := ⟨_, rfl⟩
  have hb : Below w.heap.size w w1 := by rw [hw1]; exact (Below.refl _ _).alloc (Nat.le_refl _) _
  have hs1 : w1.heap.size = w.heap.size + 1 := by rw [hw1]; simp
  have HS : SB7 w1 (w.heap.size) s := by rw [hw1]; exact BX7.new _ _ _
  refine vw (.pointer (some ⟨w.heap.size, 0, none⟩)) w1 (want_none rfl) (ex_box8 rfl (ev s0 rfl) (by rw [hw1]; exact bxS7 _ _)) rfl hz (by decide) (fun Z1 zz kk s2x => ?_)
  replace s1 := ku s1
  clear kk hz s0 hw1
  have hz := zz
  have s2 := s2x
  clear zz s2x
  have hB := hb
  clear hb
  have hv0 : Below w1.heap.size w1 w1 := Below.refl _ _
  refine vt (.bool false) (ex_assign rfl rfl) hz (fun Ya zz kk s4 => ?_)
  replace s1 := ku s1
  replace s2 := ku s2
  replace hz := zz
  clear kk zz
  clear s4
  refine wpList_nil ?_
  go_upto_region 1 with fail
  refine wp_region_lit ?_
  refine vt (.slice none 0 0) (ex_assign rfl rfl) hz (fun Yb zz kk s5 => ?_)
  replace s1 := ku s1
  replace s2 := ku s2
  replace hz := zz
  clear kk zz
  refine vt (.slice none 0 0) (ex_assign rfl rfl) hz (fun Yc zz kk s6 => ?_)
  replace s1 := ku s1
  replace s2 := ku s2
  replace s5 := ku s5
  replace hz := zz
  clear kk zz Yb
  refine vt (.slice none 0 0) (ex_assign rfl rfl) hz (fun Yd zz kk s7 => ?_)
  replace s1 := ku s1
  replace s2 := ku s2
  replace s5 := ku s5
  replace s6 := ku s6
  replace hz := zz
  clear kk zz Yc
  refine vt (.slice none 0 0) (ex_assign rfl rfl) hz (fun Ye zz kk s8 => ?_)
  replace s1 := ku s1
  replace s2 := ku s2
  replace s5 := ku s5
  replace s6 := ku s6
  replace s7 := ku s7
  replace hz := zz
  clear kk zz Yd
  refine wpList_nil ?_
  go_upto_region 2 with fail
  refine wp_region_lit ?_
  refine vt (.slice none 0 0) (ex_assign rfl rfl) hz (fun Yf zz kk s9 => ?_)
  replace s1 := ku s1
  replace s2 := ku s2
  replace s5 := ku s5
  replace s6 := ku s6
  replace s7 := ku s7
  replace s8 := ku s8
  replace hz := zz
  clear kk zz
  refine vt (.slice none 0 0) (ex_assign rfl rfl) hz (fun Yg zz kk s10 => ?_)
  replace s1 := ku s1
  replace s2 := ku s2
  replace s5 := ku s5
  replace s6 := ku s6
  replace s7 := ku s7
  replace s8 := ku s8
  replace s9 := ku s9
  replace hz := zz
  clear kk zz Yf
  refine vt (.slice none 0 0) (ex_assign rfl rfl) hz (fun Yh zz kk s11 => ?_)
  replace s1 := ku s1
  replace s2 := ku s2
  replace s5 := ku s5
  replace s6 := ku s6
  replace s7 := ku s7
  replace s8 := ku s8
  replace s9 := ku s9
  replace s10 := ku s10
  replace hz := zz
  clear kk zz Yg
  refine vt (.slice none 0 0) (ex_assign rfl rfl) hz (fun Yi zz kk s12 => ?_)
  replace s1 := ku s1
  replace s2 := ku s2
  replace s5 := ku s5
  replace s6 := ku s6
  replace s7 := ku s7
  replace s8 := ku s8
  replace s9 := ku s9
  replace s10 := ku s10
  replace s11 := ku s11
  replace hz := zz
  clear kk zz Yh
  refine wpList_nil ?_
  have f1 := hF.al
  have f2 := hF.ml
  have f3 := hF.bl
  have f4 := hF.nl
  have hw0 : Below w1.heap.size w1 w1 := Below.refl _ _
  have hz0 := hB.size
  go_upto_region 3 with fail
  refine wp_region_lit ?_
  refine vt (.int .i64 0) (ex_assign rfl rfl) hz (fun Yj zz kk s13 => ?_)
  replace s1 := ku s1
  replace s2 := ku s2
  replace s5 := ku s5
  replace s6 := ku s6
  replace s7 := ku s7
  replace s8 := ku s8
  replace s9 := ku s9
  replace s10 := ku s10
  replace s11 := ku s11
  replace s12 := ku s12
  replace hz := zz
  clear kk zz
  refine wpList_nil ?_
  have hsv : _ = some (gw true (.int .i64 ((0 : Nat) : Int))) := s13
  go_upto_region 4 with fail
  refine v_loop 13 s.A.length (fun i T wr => T.size = 143 ∧ T[1]? = some (gw true (.int .i64 n)) ∧ T[2]? = some (gw true (.pointer (some ⟨w.heap.size, 0, none⟩))) ∧ T[6]? = some (gw true (.slice none 0 0)) ∧ T[7]? = some (gw true (.slice none 0 0)) ∧ T[8]? = some (gw true (.slice none 0 0)) ∧ T[10]? = some (gw true (.slice none 0 0)) ∧ T[11]? = some (gw true (.slice none 0 0)) ∧ T[12]? = some (gw true (.slice none 0 0)) ∧ T[13]? = some (gw true (.int .i64 (i : Int))) ∧ Hid (∃ vn vd, T[5]? = some (gw true vn) ∧ T[9]? = some (gw true vd) ∧ OwnY yI9 w1.heap.size wr vn ((s.A.take i).map Ak.n) ∧ OwnY yR9 w1.heap.size wr vd ((s.A.take i).map fun x => (x.h, x.l)) ∧ Below w1.heap.size w1 wr)) (fun i T w h => h.2.2.2.2.2.2.2.2.2.1) ⟨hz, s1, s2, s6, s7, s8, s10, s11, s12, hsv, _, _, s5, s9, OwnY.nil _ _ _, OwnY.nil _ _ _, Below.refl _ _⟩ ?_
  clear hz s1 s2 s6 s7 s8 s10 s11 s12 s13 s5 s9 hsv
  intro i R0 wr hi hh
  obtain ⟨hz, s1, s2, s6, s7, s8, s10, s11, s12, s13, HJ⟩ := hh
  obtain ⟨vn, vd, s5, s9, oN, oD, hbr⟩ := HJ.out
  clear HJ
  have hzr := hbr.size
  have hbw := hw0.trans (hbr.mono hw0.size)
  have HIr := (hI.later (hB.trans (hbw.mono (by omega)))).a
  by_cases hit : i < s.A.length
  · have d1 : decide ((i : Int) < (s.A.length : Int)) = true := decide_eq_true (by omega)
    go_upto_region 4 with fail
    refine wp_region_lit ?_
    refine vt _ (ex_move rfl (ev s13 rfl)) hz (fun Yk zz kk s17 => ?_)
    replace s1 := ku s1
    replace s2 := ku s2
    replace s5 := ku s5
    replace s6 := ku s6
    replace s7 := ku s7
    replace s8 := ku s8
    replace s9 := ku s9
    replace s10 := ku s10
    replace s11 := ku s11
    replace s12 := ku s12
    replace s13 := ku s13
    replace hz := zz
    clear kk zz
    refine vt (.pointer (some ⟨w.heap.size, 8, none⟩)) (ex_fa rfl (ev s2 rfl) (faS8 _ _)) hz (fun Yl zz kk s18 => ?_)
    replace s1 := ku s1
    replace s2 := ku s2
    replace s5 := ku s5
    replace s6 := ku s6
    replace s7 := ku s7
    replace s8 := ku s8
    replace s9 := ku s9
    replace s10 := ku s10
    replace s11 := ku s11
    replace s12 := ku s12
    replace s13 := ku s13
    replace s17 := ku s17
    replace hz := zz
    clear kk zz Yk
    refine vt (.slice s.ka s.A.length s.kc) (ex_ld rfl (ev s18 rfl) (ldK8 (cell8 (HS.cell 8 _ rfl) hbw))) hz (fun Ym zz kk s19 => ?_)
    replace s1 := ku s1
    replace s2 := ku s2
    replace s5 := ku s5
    replace s6 := ku s6
    replace s7 := ku s7
    replace s8 := ku s8
    replace s9 := ku s9
    replace s10 := ku s10
    replace s11 := ku s11
    replace s12 := ku s12
    replace s13 := ku s13
    replace s17 := ku s17
    replace hz := zz
    clear kk zz s18 Yl
    refine vt (.int .i64 (s.A.length : Int)) (ex_lenK8 rfl rfl (ev s19 rfl)) hz (fun Yn zz kk s20 => ?_)
    replace s1 := ku s1
    replace s2 := ku s2
    replace s5 := ku s5
    replace s6 := ku s6
    replace s7 := ku s7
    replace s8 := ku s8
    replace s9 := ku s9
    replace s10 := ku s10
    replace s11 := ku s11
    replace s12 := ku s12
    replace s13 := ku s13
    replace s17 := ku s17
    replace hz := zz
    clear kk zz s19 Ym
    refine vt (.bool true) (ex_bin rfl (ev s17 rfl) (ev s20 rfl) (lssD8 _ _ _ _ true d1 _)) hz (fun Yo zz kk s21 => ?_)
    replace s1 := ku s1
    replace s2 := ku s2
    replace s5 := ku s5
    replace s6 := ku s6
    replace s7 := ku s7
    replace s8 := ku s8
    replace s9 := ku s9
    replace s10 := ku s10
    replace s11 := ku s11
    replace s12 := ku s12
    replace s13 := ku s13
    replace hz := zz
    clear kk zz s17 s20 Yn
    refine wpList_nil ?_
    go_upto_region 6 with fail
    refine wp_cond_true ((ev s21 rfl).trans rfl) ?_
    clear s21 d1
    obtain ⟨x, hxi⟩ : ∃ x, s.A[i]? = some x := ⟨_, List.getElem?_eq_getElem hit⟩
    obtain ⟨q, o, hqa, hq, hl⟩ := HIr.place (by intro e; rw [e] at hit; simp at hit)
    have e1 : wr.cell? ⟨q, o + i * 4, none⟩ = some (.int .i64 x.n) := hl i x hxi 0 _ rfl
    have e2 : wr.cell? ⟨q, o + i * 4 + 1, none⟩ = some (.int .u64 x.h) := hl i x hxi 1 _ rfl
    have e3 : wr.cell? ⟨q, o + i * 4 + 2, none⟩ = some (.int .u64 x.l) := hl i x hxi 2 _ rfl
    go_upto_region 6 with fail
    refine wp_region_lit ?_
    refine vt _ (ex_move rfl (ev s5 rfl)) hz (fun Yp zz kk s24 => ?_)
    replace s1 := ku s1
    replace s2 := ku s2
    replace s5 := ku s5
    replace s6 := ku s6
    replace s7 := ku s7
    replace s8 := ku s8
    replace s9 := ku s9
    replace s10 := ku s10
    replace s11 := ku s11
    replace s12 := ku s12
    replace s13 := ku s13
    replace hz := zz
    clear kk zz
    refine vt (.pointer (some ⟨w.heap.size, 8, none⟩)) (ex_fa rfl (ev s2 rfl) (faS8 _ _)) hz (fun Yq zz kk s25 => ?_)
    replace s1 := ku s1
    replace s2 := ku s2
    replace s5 := ku s5
    replace s6 := ku s6
    replace s7 := ku s7
    replace s8 := ku s8
    replace s9 := ku s9
    replace s10 := ku s10
    replace s11 := ku s11
    replace s12 := ku s12
    replace s13 := ku s13
    replace s24 := ku s24
    replace hz := zz
    clear kk zz Yp
    refine vt (.slice s.ka s.A.length s.kc) (ex_ld rfl (ev s25 rfl) (ldK8 (cell8 (HS.cell 8 _ rfl) hbw))) hz (fun Yr zz kk s26 => ?_)
    replace s1 := ku s1
    replace s2 := ku s2
    replace s5 := ku s5
    replace s6 := ku s6
    replace s7 := ku s7
    replace s8 := ku s8
    replace s9 := ku s9
    replace s10 := ku s10
    replace s11 := ku s11
    replace s12 := ku s12
    replace s13 := ku s13
    replace s24 := ku s24
    replace hz := zz
    clear kk zz s25 Yq
    refine vt _ (ex_move rfl (ev s13 rfl)) hz (fun Ys zz kk s27 => ?_)
    replace s1 := ku s1
    replace s2 := ku s2
    replace s5 := ku s5
    replace s6 := ku s6
    replace s7 := ku s7
    replace s8 := ku s8
    replace s9 := ku s9
    replace s10 := ku s10
    replace s11 := ku s11
    replace s12 := ku s12
    replace s13 := ku s13
    replace s24 := ku s24
    replace s26 := ku s26
    replace hz := zz
    clear kk zz Yr
    refine vt (.pointer (some ⟨q, o + i * 4, none⟩)) (ex_ix rfl (ev s26 rfl) (ev s27 rfl) (by rw [hqa]; exact ix9Ak q o s.A.length s.kc i hit _)) hz (fun Yt zz kk s28 => ?_)
    replace s1 := ku s1
    replace s2 := ku s2
    replace s5 := ku s5
    replace s6 := ku s6
    replace s7 := ku s7
    replace s8 := ku s8
    replace s9 := ku s9
    replace s10 := ku s10
    replace s11 := ku s11
    replace s12 := ku s12
    replace s13 := ku s13
    replace s24 := ku s24
    replace hz := zz
    clear kk zz s26 s27 Ys
    refine vt (.pointer (some ⟨q, o + i * 4, none⟩)) (ex_fa rfl (ev s28 rfl) (fa0Ak _ _ _)) hz (fun Yu zz kk s29 => ?_)
    replace s1 := ku s1
    replace s2 := ku s2
    replace s5 := ku s5
    replace s6 := ku s6
    replace s7 := ku s7
    replace s8 := ku s8
    replace s9 := ku s9
    replace s10 := ku s10
    replace s11 := ku s11
    replace s12 := ku s12
    replace s13 := ku s13
    replace s24 := ku s24
    replace hz := zz
    clear kk zz s28 Yt
    refine vt (.int .i64 x.n) (ex_ld rfl (ev s29 rfl) (ldI8 e1)) hz (fun Yv zz kk s30 => ?_)
    replace s1 := ku s1
    replace s2 := ku s2
    replace s5 := ku s5
    replace s6 := ku s6
    replace s7 := ku s7
    replace s8 := ku s8
    replace s9 := ku s9
    replace s10 := ku s10
    replace s11 := ku s11
    replace s12 := ku s12
    replace s13 := ku s13
    replace s24 := ku s24
    replace hz := zz
    clear kk zz s29 Yu
    obtain ⟨a1, ha1⟩ : ∃ v, v = wr.alloc (.cells (yI9.cs x.n).toArray 3) := ⟨_, rfl⟩
    have b1 : Below wr.heap.size wr a1 := by rw [ha1]; exact (Below.refl _ _).alloc (Nat.le_refl _) _
    have p1 : SlY yI9 a1 (some ⟨wr.heap.size, 0, none⟩) 1 1 [x.n] := by rw [ha1]; exact one9 yI9 wr x.n
    have z1 := b1.size
    have hlN : ((s.A.take i).map Ak.n).length = i := by rw [List.length_map, List.length_take]; omega
    obtain ⟨vn2, a2, hr2, oN2, g2, _⟩ := run_appY kI9 a1 73 w1.heap.size _ vn _ _ _ _ p1 (oN.grow b1) (by omega) (by rw [hlN]; unfold maxLen; omega) (by rw [hlN]; show (i + 1) * 8 ≤ _; omega)
    have oD2 := (oD.grow b1).grownZ (oN.grow b1) (by decide) g2
    have hb2 : Below w1.heap.size w1 a2 := (oN.grow b1).grown (hbr.trans (b1.mono (by omega))) g2 (by omega)
    refine vw (.slice (some ⟨wr.heap.size, 0, none⟩) 1 1) a1 (want_none rfl) (ex_bs8 rfl (ev s30 rfl) (by rw [ha1]; exact bsI9 _ _)) rfl hz (by decide) (fun Yw zz kk s31 => ?_)
    replace s1 := ku s1
    replace s2 := ku s2
    replace s5 := ku s5
    replace s6 := ku s6
    replace s7 := ku s7
    replace s8 := ku s8
    replace s9 := ku s9
    replace s10 := ku s10
    replace s11 := ku s11
    replace s12 := ku s12
    replace s13 := ku s13
    replace s24 := ku s24
    replace hz := zz
    clear kk zz s30 Yv
    refine vw (vn2) a2 (want_none rfl) (ex_app8 rfl (ev s24 rfl) (ev s31 rfl) hr2) rfl hz (by decide) (fun Yx zz kk s32 => ?_)
    clear hr2 g2 p1 ha1
    replace s1 := ku s1
    replace s2 := ku s2
    replace s5 := ku s5
    replace s6 := ku s6
    replace s7 := ku s7
    replace s8 := ku s8
    replace s9 := ku s9
    replace s10 := ku s10
    replace s11 := ku s11
    replace s12 := ku s12
    replace s13 := ku s13
    replace hz := zz
    clear kk zz s24 s31 Yw
    refine vt _ (ex_assign rfl (ev s32 rfl)) hz (fun Yy zz kk s5x => ?_)
    replace s1 := ku s1
    replace s2 := ku s2
    replace s6 := ku s6
    replace s7 := ku s7
    replace s8 := ku s8
    replace s9 := ku s9
    replace s10 := ku s10
    replace s11 := ku s11
    replace s12 := ku s12
    replace s13 := ku s13
    clear kk hz s32 s5
    have hz := zz
    have s5 := s5x
    clear zz s5x Yx
    refine wpList_nil ?_
    have z2 := hb2.size
    have hbw2 := hw0.trans (hb2.mono hw0.size)
    have HI2 := (hI.later (hB.trans (hbw2.mono (by omega)))).a
    clear e1 e2 e3 hl hq
    obtain ⟨q2, o2, hqa2, hq2, hl2⟩ := HI2.place (by intro e; rw [e] at hit; simp at hit)
    rw [hqa] at hqa2
    cases hqa2
    have e2 : a2.cell? ⟨q, o + i * 4 + 1, none⟩ = some (.int .u64 x.h) := hl2 i x hxi 1 _ rfl
    have e3 : a2.cell? ⟨q, o + i * 4 + 2, none⟩ = some (.int .u64 x.l) := hl2 i x hxi 2 _ rfl
    go_upto_region 7 with fail
    refine wp_region_lit ?_
    refine vt _ (ex_move rfl (ev s9 rfl)) hz (fun Yz zz kk s33 => ?_)
    replace s1 := ku s1
    replace s2 := ku s2
    replace s5 := ku s5
    replace s6 := ku s6
    replace s7 := ku s7
    replace s8 := ku s8
    replace s9 := ku s9
    replace s10 := ku s10
    replace s11 := ku s11
    replace s12 := ku s12
    replace s13 := ku s13
    replace hz := zz
    clear kk zz
    refine vt (.pointer (some ⟨w.heap.size, 8, none⟩)) (ex_fa rfl (ev s2 rfl) (faS8 _ _)) hz (fun Y0 zz kk s34 => ?_)
    replace s1 := ku s1
    replace s2 := ku s2
    replace s5 := ku s5
    replace s6 := ku s6
    replace s7 := ku s7
    replace s8 := ku s8
    replace s9 := ku s9
    replace s10 := ku s10
    replace s11 := ku s11
    replace s12 := ku s12
    replace s13 := ku s13
    replace s33 := ku s33
    replace hz := zz
    clear kk zz Yz
    refine vt (.slice s.ka s.A.length s.kc) (ex_ld rfl (ev s34 rfl) (ldK8 (cell8 (HS.cell 8 _ rfl) hbw2))) hz (fun Y1 zz kk s35 => ?_)
    replace s1 := ku s1
    replace s2 := ku s2
    replace s5 := ku s5
    replace s6 := ku s6
    replace s7 := ku s7
    replace s8 := ku s8
    replace s9 := ku s9
    replace s10 := ku s10
    replace s11 := ku s11
    replace s12 := ku s12
    replace s13 := ku s13
    replace s33 := ku s33
    replace hz := zz
    clear kk zz s34 Y0
    refine vt _ (ex_move rfl (ev s13 rfl)) hz (fun Y2 zz kk s36 => ?_)
    replace s1 := ku s1
    replace s2 := ku s2
    replace s5 := ku s5
    replace s6 := ku s6
    replace s7 := ku s7
    replace s8 := ku s8
    replace s9 := ku s9
    replace s10 := ku s10
    replace s11 := ku s11
    replace s12 := ku s12
    replace s13 := ku s13
    replace s33 := ku s33
    replace s35 := ku s35
    replace hz := zz
    clear kk zz Y1
    refine vt (.pointer (some ⟨q, o + i * 4, none⟩)) (ex_ix rfl (ev s35 rfl) (ev s36 rfl) (by rw [hqa]; exact ix9Ak q o s.A.length s.kc i hit _)) hz (fun Y3 zz kk s37 => ?_)
    replace s1 := ku s1
    replace s2 := ku s2
    replace s5 := ku s5
    replace s6 := ku s6
    replace s7 := ku s7
    replace s8 := ku s8
    replace s9 := ku s9
    replace s10 := ku s10
    replace s11 := ku s11
    replace s12 := ku s12
    replace s13 := ku s13
    replace s33 := ku s33
    replace hz := zz
    clear kk zz s35 s36 Y2
    refine vt (.pointer (some ⟨q, o + i * 4 + 1, none⟩)) (ex_fa rfl (ev s37 rfl) (fa1Ak _ _ _)) hz (fun Y4 zz kk s38 => ?_)
    replace s1 := ku s1
    replace s2 := ku s2
    replace s5 := ku s5
    replace s6 := ku s6
    replace s7 := ku s7
    replace s8 := ku s8
    replace s9 := ku s9
    replace s10 := ku s10
    replace s11 := ku s11
    replace s12 := ku s12
    replace s13 := ku s13
    replace s33 := ku s33
    replace hz := zz
    clear kk zz s37 Y3
    refine vt (.agg #[.int .u64 x.h, .int .u64 x.l]) (ex_ld rfl (ev s38 rfl) (ldDr8 (d := (x.h, x.l)) e2 e3)) hz (fun Y5 zz kk s39 => ?_)
    replace s1 := ku s1
    replace s2 := ku s2
    replace s5 := ku s5
    replace s6 := ku s6
    replace s7 := ku s7
    replace s8 := ku s8
    replace s9 := ku s9
    replace s10 := ku s10
    replace s11 := ku s11
    replace s12 := ku s12
    replace s13 := ku s13
    replace s33 := ku s33
    replace hz := zz
    clear kk zz s38 Y4
    obtain ⟨a3, ha3⟩ : ∃ v, v = a2.alloc (.cells (yR9.cs (x.h, x.l)).toArray 57) := ⟨_, rfl⟩
    have b3 : Below a2.heap.size a2 a3 := by rw [ha3]; exact (Below.refl _ _).alloc (Nat.le_refl _) _
    have p3 : SlY yR9 a3 (some ⟨a2.heap.size, 0, none⟩) 1 1 [(x.h, x.l)] := by rw [ha3]; exact one9 yR9 a2 (x.h, x.l)
    have z3 := b3.size
    have hlD : ((s.A.take i).map fun x => (x.h, x.l)).length = i := by rw [List.length_map, List.length_take]; omega
    obtain ⟨vd2, a4, hr4, oD4, g4, _⟩ := run_appY kR9 a3 26 w1.heap.size _ vd _ _ _ _ p3 (oD2.grow b3) (by omega) (by rw [hlD]; unfold maxLen; omega) (by rw [hlD]; show (i + 1) * 16 ≤ _; omega)
    have oN4 := (oN2.grow b3).grownZ (oD2.grow b3) (by decide) g4
    have hb4 : Below w1.heap.size w1 a4 := (oD2.grow b3).grown (hb2.trans (b3.mono (by omega))) g4 (by omega)
    refine vw (.slice (some ⟨a2.heap.size, 0, none⟩) 1 1) a3 (want_none rfl) (ex_bs8 rfl (ev s39 rfl) (by rw [ha3]; exact bsR9 (x.h, x.l) _)) rfl hz (by decide) (fun Y6 zz kk s40 => ?_)
    replace s1 := ku s1
    replace s2 := ku s2
    replace s5 := ku s5
    replace s6 := ku s6
    replace s7 := ku s7
    replace s8 := ku s8
    replace s9 := ku s9
    replace s10 := ku s10
    replace s11 := ku s11
    replace s12 := ku s12
    replace s13 := ku s13
    replace s33 := ku s33
    replace hz := zz
    clear kk zz s39 Y5
    refine vw (vd2) a4 (want_none rfl) (ex_app8 rfl (ev s33 rfl) (ev s40 rfl) hr4) rfl hz (by decide) (fun Y7 zz kk s41 => ?_)
    clear hr4 g4 p3 ha3
    replace s1 := ku s1
    replace s2 := ku s2
    replace s5 := ku s5
    replace s6 := ku s6
    replace s7 := ku s7
    replace s8 := ku s8
    replace s9 := ku s9
    replace s10 := ku s10
    replace s11 := ku s11
    replace s12 := ku s12
    replace s13 := ku s13
    replace hz := zz
    clear kk zz s33 s40 Y6
    refine vt _ (ex_assign rfl (ev s41 rfl)) hz (fun Y8 zz kk s9x => ?_)
    replace s1 := ku s1
    replace s2 := ku s2
    replace s5 := ku s5
    replace s6 := ku s6
    replace s7 := ku s7
    replace s8 := ku s8
    replace s10 := ku s10
    replace s11 := ku s11
    replace s12 := ku s12
    replace s13 := ku s13
    clear kk hz s41 s9
    have hz := zz
    have s9 := s9x
    clear zz s9x Y7
    refine wpList_nil ?_
    go_upto_region 5 with fail
    refine wp_region_lit ?_
    refine vt _ (ex_move rfl (ev s13 rfl)) hz (fun Y9 zz kk s22 => ?_)
    replace s1 := ku s1
    replace s2 := ku s2
    replace s5 := ku s5
    replace s6 := ku s6
    replace s7 := ku s7
    replace s8 := ku s8
    replace s9 := ku s9
    replace s10 := ku s10
    replace s11 := ku s11
    replace s12 := ku s12
    replace s13 := ku s13
    replace hz := zz
    clear kk zz
    refine vt (.int .i64 ((i + 1 : Nat) : Int)) (ex_bin rfl (ev s22 rfl) rfl (addD8 _ _ _ 1 ((i + 1 : Nat) : Int) (by rw [IntKind.wrap_i64]; omega) _)) hz (fun Yba zz kk s23 => ?_)
    replace s1 := ku s1
    replace s2 := ku s2
    replace s5 := ku s5
    replace s6 := ku s6
    replace s7 := ku s7
    replace s8 := ku s8
    replace s9 := ku s9
    replace s10 := ku s10
    replace s11 := ku s11
    replace s12 := ku s12
    replace s13 := ku s13
    replace hz := zz
    clear kk zz s22 Y9
    refine vt _ (ex_assign rfl (ev s23 rfl)) hz (fun Ybb zz kk s13x => ?_)
    replace s1 := ku s1
    replace s2 := ku s2
    replace s5 := ku s5
    replace s6 := ku s6
    replace s7 := ku s7
    replace s8 := ku s8
    replace s9 := ku s9
    replace s10 := ku s10
    replace s11 := ku s11
    replace s12 := ku s12
    clear kk hz s23 s13
    have hz := zz
    have s13 := s13x
    clear zz s13x Yba
    refine wpList_nil ?_
    have et : s.A.take (i + 1) = s.A.take i ++ [x] := by rw [List.take_add_one, hxi]; rfl
    exact ⟨_, rfl, by omega, hz, s1, s2, s6, s7, s8, s10, s11, s12, s13, vn2, vd2, s5, s9, by rw [et, List.map_append]; exact oN4, by rw [et, List.map_append]; exact oD4, hb4⟩
  · have d1 : decide ((i : Int) < (s.A.length : Int)) = false := decide_eq_false (by omega)
    go_upto_region 4 with fail
    refine wp_region_lit ?_
    refine vt _ (ex_move rfl (ev s13 rfl)) hz (fun Ybc zz kk s17 => ?_)
    replace s1 := ku s1
    replace s2 := ku s2
    replace s5 := ku s5
    replace s6 := ku s6
    replace s7 := ku s7
    replace s8 := ku s8
    replace s9 := ku s9
    replace s10 := ku s10
    replace s11 := ku s11
    replace s12 := ku s12
    replace hz := zz
    clear kk zz s13
    refine vt (.pointer (some ⟨w.heap.size, 8, none⟩)) (ex_fa rfl (ev s2 rfl) (faS8 _ _)) hz (fun Ybd zz kk s18 => ?_)
    replace s1 := ku s1
    replace s2 := ku s2
    replace s5 := ku s5
    replace s6 := ku s6
    replace s7 := ku s7
    replace s8 := ku s8
    replace s9 := ku s9
    replace s10 := ku s10
    replace s11 := ku s11
    replace s12 := ku s12
    replace s17 := ku s17
    replace hz := zz
    clear kk zz Ybc
    refine vt (.slice s.ka s.A.length s.kc) (ex_ld rfl (ev s18 rfl) (ldK8 (cell8 (HS.cell 8 _ rfl) hbw))) hz (fun Ybe zz kk s19 => ?_)
    replace s1 := ku s1
    replace s2 := ku s2
    replace s5 := ku s5
    replace s6 := ku s6
    replace s7 := ku s7
    replace s8 := ku s8
    replace s9 := ku s9
    replace s10 := ku s10
    replace s11 := ku s11
    replace s12 := ku s12
    replace s17 := ku s17
    replace hz := zz
    clear kk zz s18 Ybd
    refine vt (.int .i64 (s.A.length : Int)) (ex_lenK8 rfl rfl (ev s19 rfl)) hz (fun Ybf zz kk s20 => ?_)
    replace s1 := ku s1
    replace s2 := ku s2
    replace s5 := ku s5
    replace s6 := ku s6
    replace s7 := ku s7
    replace s8 := ku s8
    replace s9 := ku s9
    replace s10 := ku s10
    replace s11 := ku s11
    replace s12 := ku s12
    replace s17 := ku s17
    replace hz := zz
    clear kk zz s19 Ybe
    refine vt (.bool false) (ex_bin rfl (ev s17 rfl) (ev s20 rfl) (lssD8 _ _ _ _ false d1 _)) hz (fun Ybg zz kk s21 => ?_)
    replace s1 := ku s1
    replace s2 := ku s2
    replace s5 := ku s5
    replace s6 := ku s6
    replace s7 := ku s7
    replace s8 := ku s8
    replace s9 := ku s9
    replace s10 := ku s10
    replace s11 := ku s11
    replace s12 := ku s12
    replace hz := zz
    clear kk zz s17 s20 Ybf
    refine wpList_nil ?_
    go_upto_region 8 with fail
    refine wp_cond_false ((ev s21 rfl).trans rfl) ?_
    clear s21 d1
    obtain rfl : i = s.A.length := by omega
    rw [List.take_length] at oN oD
    obtain ⟨nAk, mAk, hvn, pNAk, _⟩ := oN.sl kI9
    obtain ⟨dAk, eAk, hvd, pDAk, _⟩ := oD.sl kR9
    rw [List.length_map] at hvn hvd pNAk pDAk
    rw [hvn] at s5
    rw [hvd] at s9
    clear hvn hvd oN oD HIr hit hi
    have hw0 := hbw
    obtain ⟨W0, hW⟩ : ∃ v, v = wr := ⟨_, rfl⟩
    rw [← hW] at hw0 pNAk pDAk hbr hzr hbw ⊢
    clear hW
    clear hbr hbw hzr
    go_upto_region 8 with fail
    refine wp_region_lit ?_
    refine vt (.int .i64 0) (ex_assign rfl rfl) hz (fun Ybh zz kk s14 => ?_)
    replace s1 := ku s1
    replace s2 := ku s2
    replace s5 := ku s5
    replace s6 := ku s6
    replace s7 := ku s7
    replace s8 := ku s8
    replace s9 := ku s9
    replace s10 := ku s10
    replace s11 := ku s11
    replace s12 := ku s12
    replace hz := zz
    clear kk zz
    refine wpList_nil ?_
    have hsv : _ = some (gw true (.int .i64 ((0 : Nat) : Int))) := s14
    go_upto_region 9 with fail
    refine v_loop 14 s.M.length (fun i T wr => T.size = 143 ∧ T[1]? = some (gw true (.int .i64 n)) ∧ T[2]? = some (gw true (.pointer (some ⟨w.heap.size, 0, none⟩))) ∧ T[5]? = some (gw true (.slice nAk s.A.length mAk)) ∧ T[7]? = some (gw true (.slice none 0 0)) ∧ T[8]? = some (gw true (.slice none 0 0)) ∧ T[9]? = some (gw true (.slice dAk s.A.length eAk)) ∧ T[11]? = some (gw true (.slice none 0 0)) ∧ T[12]? = some (gw true (.slice none 0 0)) ∧ T[14]? = some (gw true (.int .i64 (i : Int))) ∧ Hid (∃ vn vd, T[6]? = some (gw true vn) ∧ T[10]? = some (gw true vd) ∧ OwnY yI9 W0.heap.size wr vn ((s.M.take i).map Mk.n) ∧ OwnY yR9 W0.heap.size wr vd ((s.M.take i).map fun x => (x.h, x.l)) ∧ Below W0.heap.size W0 wr)) (fun i T w h => h.2.2.2.2.2.2.2.2.2.1) ⟨hz, s1, s2, s5, s7, s8, s9, s11, s12, hsv, _, _, s6, s10, OwnY.nil _ _ _, OwnY.nil _ _ _, Below.refl _ _⟩ ?_
    clear hz s1 s2 s5 s7 s8 s9 s11 s12 s14 s6 s10 hsv
    intro i R1 wr hi hh
    obtain ⟨hz, s1, s2, s5, s7, s8, s9, s11, s12, s14, HJ⟩ := hh
    obtain ⟨vn, vd, s6, s10, oN, oD, hbr⟩ := HJ.out
    clear HJ
    have hzr := hbr.size
    have hbw := hw0.trans (hbr.mono hw0.size)
    have HIr := (hI.later (hB.trans (hbw.mono (by omega)))).m
    by_cases hit : i < s.M.length
    · have d1 : decide ((i : Int) < (s.M.length : Int)) = true := decide_eq_true (by omega)
      go_upto_region 9 with fail
      refine wp_region_lit ?_
      refine vt _ (ex_move rfl (ev s14 rfl)) hz (fun Ybi zz kk s42 => ?_)
      replace s1 := ku s1
      replace s2 := ku s2
      replace s5 := ku s5
      replace s6 := ku s6
      replace s7 := ku s7
      replace s8 := ku s8
      replace s9 := ku s9
      replace s10 := ku s10
      replace s11 := ku s11
      replace s12 := ku s12
      replace s14 := ku s14
      replace hz := zz
      clear kk zz
      refine vt (.pointer (some ⟨w.heap.size, 9, none⟩)) (ex_fa rfl (ev s2 rfl) (faS9 _ _)) hz (fun Ybj zz kk s43 => ?_)
      replace s1 := ku s1
      replace s2 := ku s2
      replace s5 := ku s5
      replace s6 := ku s6
      replace s7 := ku s7
      replace s8 := ku s8
      replace s9 := ku s9
      replace s10 := ku s10
      replace s11 := ku s11
      replace s12 := ku s12
      replace s14 := ku s14
      replace s42 := ku s42
      replace hz := zz
      clear kk zz Ybi
      refine vt (.slice s.ma s.M.length s.mc) (ex_ld rfl (ev s43 rfl) (ldM8 (cell8 (HS.cell 9 _ rfl) hbw))) hz (fun Ybk zz kk s44 => ?_)
      replace s1 := ku s1
      replace s2 := ku s2
      replace s5 := ku s5
      replace s6 := ku s6
      replace s7 := ku s7
      replace s8 := ku s8
      replace s9 := ku s9
      replace s10 := ku s10
      replace s11 := ku s11
      replace s12 := ku s12
      replace s14 := ku s14
      replace s42 := ku s42
      replace hz := zz
      clear kk zz s43 Ybj
      refine vt (.int .i64 (s.M.length : Int)) (ex_lenM8 rfl rfl (ev s44 rfl)) hz (fun Ybl zz kk s45 => ?_)
      replace s1 := ku s1
      replace s2 := ku s2
      replace s5 := ku s5
      replace s6 := ku s6
      replace s7 := ku s7
      replace s8 := ku s8
      replace s9 := ku s9
      replace s10 := ku s10
      replace s11 := ku s11
      replace s12 := ku s12
      replace s14 := ku s14
      replace s42 := ku s42
      replace hz := zz
      clear kk zz s44 Ybk
      refine vt (.bool true) (ex_bin rfl (ev s42 rfl) (ev s45 rfl) (lssD8 _ _ _ _ true d1 _)) hz (fun Ybm zz kk s46 => ?_)
      replace s1 := ku s1
      replace s2 := ku s2
      replace s5 := ku s5
      replace s6 := ku s6
      replace s7 := ku s7
      replace s8 := ku s8
      replace s9 := ku s9
      replace s10 := ku s10
      replace s11 := ku s11
      replace s12 := ku s12
      replace s14 := ku s14
      replace hz := zz
      clear kk zz s42 s45 Ybl
      refine wpList_nil ?_
      go_upto_region 11 with fail
      refine wp_cond_true ((ev s46 rfl).trans rfl) ?_
      clear s46 d1
      obtain ⟨x, hxi⟩ : ∃ x, s.M[i]? = some x := ⟨_, List.getElem?_eq_getElem hit⟩
      obtain ⟨q, o, hqa, hq, hl⟩ := HIr.place (by intro e; rw [e] at hit; simp at hit)
      have e1 : wr.cell? ⟨q, o + i * 3, none⟩ = some (.int .i64 x.n) := hl i x hxi 0 _ rfl
      have e2 : wr.cell? ⟨q, o + i * 3 + 1, none⟩ = some (.int .u64 x.h) := hl i x hxi 1 _ rfl
      have e3 : wr.cell? ⟨q, o + i * 3 + 2, none⟩ = some (.int .u64 x.l) := hl i x hxi 2 _ rfl
      go_upto_region 11 with fail
      refine wp_region_lit ?_
      refine vt _ (ex_move rfl (ev s6 rfl)) hz (fun Ybn zz kk s49 => ?_)
      replace s1 := ku s1
      replace s2 := ku s2
      replace s5 := ku s5
      replace s6 := ku s6
      replace s7 := ku s7
      replace s8 := ku s8
      replace s9 := ku s9
      replace s10 := ku s10
      replace s11 := ku s11
      replace s12 := ku s12
      replace s14 := ku s14
      replace hz := zz
      clear kk zz
      refine vt (.pointer (some ⟨w.heap.size, 9, none⟩)) (ex_fa rfl (ev s2 rfl) (faS9 _ _)) hz (fun Ybo zz kk s50 => ?_)
      replace s1 := ku s1
      replace s2 := ku s2
      replace s5 := ku s5
      replace s6 := ku s6
      replace s7 := ku s7
      replace s8 := ku s8
      replace s9 := ku s9
      replace s10 := ku s10
      replace s11 := ku s11
      replace s12 := ku s12
      replace s14 := ku s14
      replace s49 := ku s49
      replace hz := zz
      clear kk zz Ybn
      refine vt (.slice s.ma s.M.length s.mc) (ex_ld rfl (ev s50 rfl) (ldM8 (cell8 (HS.cell 9 _ rfl) hbw))) hz (fun Ybp zz kk s51 => ?_)
      replace s1 := ku s1
      replace s2 := ku s2
      replace s5 := ku s5
      replace s6 := ku s6
      replace s7 := ku s7
      replace s8 := ku s8
      replace s9 := ku s9
      replace s10 := ku s10
      replace s11 := ku s11
      replace s12 := ku s12
      replace s14 := ku s14
      replace s49 := ku s49
      replace hz := zz
      clear kk zz s50 Ybo
      refine vt _ (ex_move rfl (ev s14 rfl)) hz (fun Ybq zz kk s52 => ?_)
      replace s1 := ku s1
      replace s2 := ku s2
      replace s5 := ku s5
      replace s6 := ku s6
      replace s7 := ku s7
      replace s8 := ku s8
      replace s9 := ku s9
      replace s10 := ku s10
      replace s11 := ku s11
      replace s12 := ku s12
      replace s14 := ku s14
      replace s49 := ku s49
      replace s51 := ku s51
      replace hz := zz
      clear kk zz Ybp
      refine vt (.pointer (some ⟨q, o + i * 3, none⟩)) (ex_ix rfl (ev s51 rfl) (ev s52 rfl) (by rw [hqa]; exact ix9Mk q o s.M.length s.mc i hit _)) hz (fun Ybr zz kk s53 => ?_)
      replace s1 := ku s1
      replace s2 := ku s2
      replace s5 := ku s5
      replace s6 := ku s6
      replace s7 := ku s7
      replace s8 := ku s8
      replace s9 := ku s9
      replace s10 := ku s10
      replace s11 := ku s11
      replace s12 := ku s12
      replace s14 := ku s14
      replace s49 := ku s49
      replace hz := zz
      clear kk zz s51 s52 Ybq
      refine vt (.pointer (some ⟨q, o + i * 3, none⟩)) (ex_fa rfl (ev s53 rfl) (fa0Mk _ _ _)) hz (fun Ybs zz kk s54 => ?_)
      replace s1 := ku s1
      replace s2 := ku s2
      replace s5 := ku s5
      replace s6 := ku s6
      replace s7 := ku s7
      replace s8 := ku s8
      replace s9 := ku s9
      replace s10 := ku s10
      replace s11 := ku s11
      replace s12 := ku s12
      replace s14 := ku s14
      replace s49 := ku s49
      replace hz := zz
      clear kk zz s53 Ybr
      refine vt (.int .i64 x.n) (ex_ld rfl (ev s54 rfl) (ldI8 e1)) hz (fun Ybt zz kk s55 => ?_)
      replace s1 := ku s1
      replace s2 := ku s2
      replace s5 := ku s5
      replace s6 := ku s6
      replace s7 := ku s7
      replace s8 := ku s8
      replace s9 := ku s9
      replace s10 := ku s10
      replace s11 := ku s11
      replace s12 := ku s12
      replace s14 := ku s14
      replace s49 := ku s49
      replace hz := zz
      clear kk zz s54 Ybs
      obtain ⟨a1, ha1⟩ : ∃ v, v = wr.alloc (.cells (yI9.cs x.n).toArray 3) := ⟨_, rfl⟩
      have b1 : Below wr.heap.size wr a1 := by rw [ha1]; exact (Below.refl _ _).alloc (Nat.le_refl _) _
      have p1 : SlY yI9 a1 (some ⟨wr.heap.size, 0, none⟩) 1 1 [x.n] := by rw [ha1]; exact one9 yI9 wr x.n
      have z1 := b1.size
      have hlN : ((s.M.take i).map Mk.n).length = i := by rw [List.length_map, List.length_take]; omega
      obtain ⟨vn2, a2, hr2, oN2, g2, _⟩ := run_appY kI9 a1 73 W0.heap.size _ vn _ _ _ _ p1 (oN.grow b1) (by omega) (by rw [hlN]; unfold maxLen; omega) (by rw [hlN]; show (i + 1) * 8 ≤ _; omega)
      have oD2 := (oD.grow b1).grownZ (oN.grow b1) (by decide) g2
      have hb2 : Below W0.heap.size W0 a2 := (oN.grow b1).grown (hbr.trans (b1.mono (by omega))) g2 (by omega)
      refine vw (.slice (some ⟨wr.heap.size, 0, none⟩) 1 1) a1 (want_none rfl) (ex_bs8 rfl (ev s55 rfl) (by rw [ha1]; exact bsI9 _ _)) rfl hz (by decide) (fun Ybu zz kk s56 => ?_)
      replace s1 := ku s1
      replace s2 := ku s2
      replace s5 := ku s5
      replace s6 := ku s6
      replace s7 := ku s7
      replace s8 := ku s8
      replace s9 := ku s9
      replace s10 := ku s10
      replace s11 := ku s11
      replace s12 := ku s12
      replace s14 := ku s14
      replace s49 := ku s49
      replace hz := zz
      clear kk zz s55 Ybt
      refine vw (vn2) a2 (want_none rfl) (ex_app8 rfl (ev s49 rfl) (ev s56 rfl) hr2) rfl hz (by decide) (fun Ybv zz kk s57 => ?_)
      clear hr2 g2 p1 ha1
      replace s1 := ku s1
      replace s2 := ku s2
      replace s5 := ku s5
      replace s6 := ku s6
      replace s7 := ku s7
      replace s8 := ku s8
      replace s9 := ku s9
      replace s10 := ku s10
      replace s11 := ku s11
      replace s12 := ku s12
      replace s14 := ku s14
      replace hz := zz
      clear kk zz s49 s56 Ybu
      refine vt _ (ex_assign rfl (ev s57 rfl)) hz (fun Ybw zz kk s6x => ?_)
      replace s1 := ku s1
      replace s2 := ku s2
      replace s5 := ku s5
      replace s7 := ku s7
      replace s8 := ku s8
      replace s9 := ku s9
      replace s10 := ku s10
      replace s11 := ku s11
      replace s12 := ku s12
      replace s14 := ku s14
      clear kk hz s57 s6
      have hz := zz
      have s6 := s6x
      clear zz s6x Ybv
      refine wpList_nil ?_
      have z2 := hb2.size
      have hbw2 := hw0.trans (hb2.mono hw0.size)
      have HI2 := (hI.later (hB.trans (hbw2.mono (by omega)))).m
      clear e1 e2 e3 hl hq
      obtain ⟨q2, o2, hqa2, hq2, hl2⟩ := HI2.place (by intro e; rw [e] at hit; simp at hit)
      rw [hqa] at hqa2
      cases hqa2
      have e2 : a2.cell? ⟨q, o + i * 3 + 1, none⟩ = some (.int .u64 x.h) := hl2 i x hxi 1 _ rfl
      have e3 : a2.cell? ⟨q, o + i * 3 + 2, none⟩ = some (.int .u64 x.l) := hl2 i x hxi 2 _ rfl
      go_upto_region 12 with fail
      refine wp_region_lit ?_
      refine vt _ (ex_move rfl (ev s10 rfl)) hz (fun Ybx zz kk s58 => ?_)
      replace s1 := ku s1
      replace s2 := ku s2
      replace s5 := ku s5
      replace s6 := ku s6
      replace s7 := ku s7
      replace s8 := ku s8
      replace s9 := ku s9
      replace s10 := ku s10
      replace s11 := ku s11
      replace s12 := ku s12
      replace s14 := ku s14
      replace hz := zz
      clear kk zz
      refine vt (.pointer (some ⟨w.heap.size, 9, none⟩)) (ex_fa rfl (ev s2 rfl) (faS9 _ _)) hz (fun Yby zz kk s59 => ?_)
      replace s1 := ku s1
      replace s2 := ku s2
      replace s5 := ku s5
      replace s6 := ku s6
      replace s7 := ku s7
      replace s8 := ku s8
      replace s9 := ku s9
      replace s10 := ku s10
      replace s11 := ku s11
      replace s12 := ku s12
      replace s14 := ku s14
      replace s58 := ku s58
      replace hz := zz
      clear kk zz Ybx
      refine vt (.slice s.ma s.M.length s.mc) (ex_ld rfl (ev s59 rfl) (ldM8 (cell8 (HS.cell 9 _ rfl) hbw2))) hz (fun Ybz zz kk s60 => ?_)
      replace s1 := ku s1
      replace s2 := ku s2
      replace s5 := ku s5
      replace s6 := ku s6
      replace s7 := ku s7
      replace s8 := ku s8
      replace s9 := ku s9
      replace s10 := ku s10
      replace s11 := ku s11
      replace s12 := ku s12
      replace s14 := ku s14
      replace s58 := ku s58
      replace hz := zz
      clear kk zz s59 Yby
      refine vt _ (ex_move rfl (ev s14 rfl)) hz (fun Yb0 zz kk s61 => ?_)
      replace s1 := ku s1
      replace s2 := ku s2
      replace s5 := ku s5
      replace s6 := ku s6
      replace s7 := ku s7
      replace s8 := ku s8
      replace s9 := ku s9
      replace s10 := ku s10
      replace s11 := ku s11
      replace s12 := ku s12
      replace s14 := ku s14
      replace s58 := ku s58
      replace s60 := ku s60
      replace hz := zz
      clear kk zz Ybz
      refine vt (.pointer (some ⟨q, o + i * 3, none⟩)) (ex_ix rfl (ev s60 rfl) (ev s61 rfl) (by rw [hqa]; exact ix9Mk q o s.M.length s.mc i hit _)) hz (fun Yb1 zz kk s62 => ?_)
      replace s1 := ku s1
      replace s2 := ku s2
      replace s5 := ku s5
      replace s6 := ku s6
      replace s7 := ku s7
      replace s8 := ku s8
      replace s9 := ku s9
      replace s10 := ku s10
      replace s11 := ku s11
      replace s12 := ku s12
      replace s14 := ku s14
      replace s58 := ku s58
      replace hz := zz
      clear kk zz s60 s61 Yb0
      refine vt (.pointer (some ⟨q, o + i * 3 + 1, none⟩)) (ex_fa rfl (ev s62 rfl) (fa1Mk _ _ _)) hz (fun Yb2 zz kk s63 => ?_)
      replace s1 := ku s1
      replace s2 := ku s2
      replace s5 := ku s5
      replace s6 := ku s6
      replace s7 := ku s7
      replace s8 := ku s8
      replace s9 := ku s9
      replace s10 := ku s10
      replace s11 := ku s11
      replace s12 := ku s12
      replace s14 := ku s14
      replace s58 := ku s58
      replace hz := zz
      clear kk zz s62 Yb1
      refine vt (.agg #[.int .u64 x.h, .int .u64 x.l]) (ex_ld rfl (ev s63 rfl) (ldDr8 (d := (x.h, x.l)) e2 e3)) hz (fun Yb3 zz kk s64 => ?_)
      replace s1 := ku s1
      replace s2 := ku s2
      replace s5 := ku s5
      replace s6 := ku s6
      replace s7 := ku s7
      replace s8 := ku s8
      replace s9 := ku s9
      replace s10 := ku s10
      replace s11 := ku s11
      replace s12 := ku s12
      replace s14 := ku s14
      replace s58 := ku s58
      replace hz := zz
      clear kk zz s63 Yb2
      obtain ⟨a3, ha3⟩ : ∃ v, v = a2.alloc (.cells (yR9.cs (x.h, x.l)).toArray 57) := ⟨_, rfl⟩
      have b3 : Below a2.heap.size a2 a3 := by rw [ha3]; exact (Below.refl _ _).alloc (Nat.le_refl _) _
      have p3 : SlY yR9 a3 (some ⟨a2.heap.size, 0, none⟩) 1 1 [(x.h, x.l)] := by rw [ha3]; exact one9 yR9 a2 (x.h, x.l)
      have z3 := b3.size
      have hlD : ((s.M.take i).map fun x => (x.h, x.l)).length = i := by rw [List.length_map, List.length_take]; omega
      obtain ⟨vd2, a4, hr4, oD4, g4, _⟩ := run_appY kR9 a3 26 W0.heap.size _ vd _ _ _ _ p3 (oD2.grow b3) (by omega) (by rw [hlD]; unfold maxLen; omega) (by rw [hlD]; show (i + 1) * 16 ≤ _; omega)
      have oN4 := (oN2.grow b3).grownZ (oD2.grow b3) (by decide) g4
      have hb4 : Below W0.heap.size W0 a4 := (oD2.grow b3).grown (hb2.trans (b3.mono (by omega))) g4 (by omega)
      refine vw (.slice (some ⟨a2.heap.size, 0, none⟩) 1 1) a3 (want_none rfl) (ex_bs8 rfl (ev s64 rfl) (by rw [ha3]; exact bsR9 (x.h, x.l) _)) rfl hz (by decide) (fun Yb4 zz kk s65 => ?_)
      replace s1 := ku s1
      replace s2 := ku s2
      replace s5 := ku s5
      replace s6 := ku s6
      replace s7 := ku s7
      replace s8 := ku s8
      replace s9 := ku s9
      replace s10 := ku s10
      replace s11 := ku s11
      replace s12 := ku s12
      replace s14 := ku s14
      replace s58 := ku s58
      replace hz := zz
      clear kk zz s64 Yb3
      refine vw (vd2) a4 (want_none rfl) (ex_app8 rfl (ev s58 rfl) (ev s65 rfl) hr4) rfl hz (by decide) (fun Yb5 zz kk s66 => ?_)
      clear hr4 g4 p3 ha3
      replace s1 := ku s1
      replace s2 := ku s2
      replace s5 := ku s5
      replace s6 := ku s6
      replace s7 := ku s7
      replace s8 := ku s8
      replace s9 := ku s9
      replace s10 := ku s10
      replace s11 := ku s11
      replace s12 := ku s12
      replace s14 := ku s14
      replace hz := zz
      clear kk zz s58 s65 Yb4
      refine vt _ (ex_assign rfl (ev s66 rfl)) hz (fun Yb6 zz kk s10x => ?_)
      replace s1 := ku s1
      replace s2 := ku s2
      replace s5 := ku s5
      replace s6 := ku s6
      replace s7 := ku s7
      replace s8 := ku s8
      replace s9 := ku s9
      replace s11 := ku s11
      replace s12 := ku s12
      replace s14 := ku s14
      clear kk hz s66 s10
      have hz := zz
      have s10 := s10x
      clear zz s10x Yb5
      refine wpList_nil ?_
      go_upto_region 10 with fail
      refine wp_region_lit ?_
      refine vt _ (ex_move rfl (ev s14 rfl)) hz (fun Yb7 zz kk s47 => ?_)
      replace s1 := ku s1
      replace s2 := ku s2
      replace s5 := ku s5
      replace s6 := ku s6
      replace s7 := ku s7
      replace s8 := ku s8
      replace s9 := ku s9
      replace s10 := ku s10
      replace s11 := ku s11
      replace s12 := ku s12
      replace s14 := ku s14
      replace hz := zz
      clear kk zz
      refine vt (.int .i64 ((i + 1 : Nat) : Int)) (ex_bin rfl (ev s47 rfl) rfl (addD8 _ _ _ 1 ((i + 1 : Nat) : Int) (by rw [IntKind.wrap_i64]; omega) _)) hz (fun Yb8 zz kk s48 => ?_)
      replace s1 := ku s1
      replace s2 := ku s2
      replace s5 := ku s5
      replace s6 := ku s6
      replace s7 := ku s7
      replace s8 := ku s8
      replace s9 := ku s9
      replace s10 := ku s10
      replace s11 := ku s11
      replace s12 := ku s12
      replace s14 := ku s14
      replace hz := zz
      clear kk zz s47 Yb7
      refine vt _ (ex_assign rfl (ev s48 rfl)) hz (fun Yb9 zz kk s14x => ?_)
      replace s1 := ku s1
      replace s2 := ku s2
      replace s5 := ku s5
      replace s6 := ku s6
      replace s7 := ku s7
      replace s8 := ku s8
      replace s9 := ku s9
      replace s10 := ku s10
      replace s11 := ku s11
      replace s12 := ku s12
      clear kk hz s48 s14
      have hz := zz
      have s14 := s14x
      clear zz s14x Yb8
      refine wpList_nil ?_
      have et : s.M.take (i + 1) = s.M.take i ++ [x] := by rw [List.take_add_one, hxi]; rfl
      exact ⟨_, rfl, by omega, hz, s1, s2, s5, s7, s8, s9, s11, s12, s14, vn2, vd2, s6, s10, by rw [et, List.map_append]; exact oN4, by rw [et, List.map_append]; exact oD4, hb4⟩
    · have d1 : decide ((i : Int) < (s.M.length : Int)) = false := decide_eq_false (by omega)
      go_upto_region 9 with fail
      refine wp_region_lit ?_
      refine vt _ (ex_move rfl (ev s14 rfl)) hz (fun Yca zz kk s42 => ?_)
      replace s1 := ku s1
      replace s2 := ku s2
      replace s5 := ku s5
      replace s6 := ku s6
      replace s7 := ku s7
      replace s8 := ku s8
      replace s9 := ku s9
      replace s10 := ku s10
      replace s11 := ku s11
      replace s12 := ku s12
      replace hz := zz
      clear kk zz s14
      refine vt (.pointer (some ⟨w.heap.size, 9, none⟩)) (ex_fa rfl (ev s2 rfl) (faS9 _ _)) hz (fun Ycb zz kk s43 => ?_)
      replace s1 := ku s1
      replace s2 := ku s2
      replace s5 := ku s5
      replace s6 := ku s6
      replace s7 := ku s7
      replace s8 := ku s8
      replace s9 := ku s9
      replace s10 := ku s10
      replace s11 := ku s11
      replace s12 := ku s12
      replace s42 := ku s42
      replace hz := zz
      clear kk zz Yca
      refine vt (.slice s.ma s.M.length s.mc) (ex_ld rfl (ev s43 rfl) (ldM8 (cell8 (HS.cell 9 _ rfl) hbw))) hz (fun Ycc zz kk s44 => ?_)
      replace s1 := ku s1
      replace s2 := ku s2
      replace s5 := ku s5
      replace s6 := ku s6
      replace s7 := ku s7
      replace s8 := ku s8
      replace s9 := ku s9
      replace s10 := ku s10
      replace s11 := ku s11
      replace s12 := ku s12
      replace s42 := ku s42
      replace hz := zz
      clear kk zz s43 Ycb
      refine vt (.int .i64 (s.M.length : Int)) (ex_lenM8 rfl rfl (ev s44 rfl)) hz (fun Ycd zz kk s45 => ?_)
      replace s1 := ku s1
      replace s2 := ku s2
      replace s5 := ku s5
      replace s6 := ku s6
      replace s7 := ku s7
      replace s8 := ku s8
      replace s9 := ku s9
      replace s10 := ku s10
      replace s11 := ku s11
      replace s12 := ku s12
      replace s42 := ku s42
      replace hz := zz
      clear kk zz s44 Ycc
      refine vt (.bool false) (ex_bin rfl (ev s42 rfl) (ev s45 rfl) (lssD8 _ _ _ _ false d1 _)) hz (fun Yce zz kk s46 => ?_)
      replace s1 := ku s1
      replace s2 := ku s2
      replace s5 := ku s5
      replace s6 := ku s6
      replace s7 := ku s7
      replace s8 := ku s8
      replace s9 := ku s9
      replace s10 := ku s10
      replace s11 := ku s11
      replace s12 := ku s12
      replace hz := zz
      clear kk zz s42 s45 Ycd
      refine wpList_nil ?_
      go_upto_region 13 with fail
      refine wp_cond_false ((ev s46 rfl).trans rfl) ?_
      clear s46 d1
      obtain rfl : i = s.M.length := by omega
      rw [List.take_length] at oN oD
      obtain ⟨nMk, mMk, hvn, pNMk, _⟩ := oN.sl kI9
      obtain ⟨dMk, eMk, hvd, pDMk, _⟩ := oD.sl kR9
      rw [List.length_map] at hvn hvd pNMk pDMk
      rw [hvn] at s6
      rw [hvd] at s10
      clear hvn hvd oN oD HIr hit hi
      have hw0 := hbw
      obtain ⟨W1, hW⟩ : ∃ v, v = wr := ⟨_, rfl⟩
      rw [← hW] at hw0 pNMk pDMk hbr hzr hbw ⊢
      clear hW
      have pNAk := pNAk.later hbr
      have pDAk := pDAk.later hbr
      clear hbr hbw hzr
      go_upto_region 13 with fail
      refine wp_region_lit ?_
      refine vt (.int .i64 0) (ex_assign rfl rfl) hz (fun Ycf zz kk s15 => ?_)
      replace s1 := ku s1
      replace s2 := ku s2
      replace s5 := ku s5
      replace s6 := ku s6
      replace s7 := ku s7
      replace s8 := ku s8
      replace s9 := ku s9
      replace s10 := ku s10
      replace s11 := ku s11
      replace s12 := ku s12
      replace hz := zz
      clear kk zz
      refine wpList_nil ?_
      have hsv : _ = some (gw true (.int .i64 ((0 : Nat) : Int))) := s15
      go_upto_region 14 with fail
      refine v_loop 15 s.B.length (fun i T wr => T.size = 143 ∧ T[1]? = some (gw true (.int .i64 n)) ∧ T[2]? = some (gw true (.pointer (some ⟨w.heap.size, 0, none⟩))) ∧ T[5]? = some (gw true (.slice nAk s.A.length mAk)) ∧ T[6]? = some (gw true (.slice nMk s.M.length mMk)) ∧ T[8]? = some (gw true (.slice none 0 0)) ∧ T[9]? = some (gw true (.slice dAk s.A.length eAk)) ∧ T[10]? = some (gw true (.slice dMk s.M.length eMk)) ∧ T[12]? = some (gw true (.slice none 0 0)) ∧ T[15]? = some (gw true (.int .i64 (i : Int))) ∧ Hid (∃ vn vd, T[7]? = some (gw true vn) ∧ T[11]? = some (gw true vd) ∧ OwnY yI9 W1.heap.size wr vn ((s.B.take i).map Bl.n) ∧ OwnY yR9 W1.heap.size wr vd ((s.B.take i).map fun x => (x.h, x.l)) ∧ Below W1.heap.size W1 wr)) (fun i T w h => h.2.2.2.2.2.2.2.2.2.1) ⟨hz, s1, s2, s5, s6, s8, s9, s10, s12, hsv, _, _, s7, s11, OwnY.nil _ _ _, OwnY.nil _ _ _, Below.refl _ _⟩ ?_
      clear hz s1 s2 s5 s6 s8 s9 s10 s12 s15 s7 s11 hsv
      intro i R2 wr hi hh
      obtain ⟨hz, s1, s2, s5, s6, s8, s9, s10, s12, s15, HJ⟩ := hh
      obtain ⟨vn, vd, s7, s11, oN, oD, hbr⟩ := HJ.out
      clear HJ
      have hzr := hbr.size
      have hbw := hw0.trans (hbr.mono hw0.size)
      have HIr := (hI.later (hB.trans (hbw.mono (by omega)))).b
      by_cases hit : i < s.B.length
      · have d1 : decide ((i : Int) < (s.B.length : Int)) = true := decide_eq_true (by omega)
        go_upto_region 14 with fail
        refine wp_region_lit ?_
        refine vt _ (ex_move rfl (ev s15 rfl)) hz (fun Ycg zz kk s67 => ?_)
        replace s1 := ku s1
        replace s2 := ku s2
        replace s5 := ku s5
        replace s6 := ku s6
        replace s7 := ku s7
        replace s8 := ku s8
        replace s9 := ku s9
        replace s10 := ku s10
        replace s11 := ku s11
        replace s12 := ku s12
        replace s15 := ku s15
        replace hz := zz
        clear kk zz
        refine vt (.pointer (some ⟨w.heap.size, 10, none⟩)) (ex_fa rfl (ev s2 rfl) (faS10 _ _)) hz (fun Ych zz kk s68 => ?_)
        replace s1 := ku s1
        replace s2 := ku s2
        replace s5 := ku s5
        replace s6 := ku s6
        replace s7 := ku s7
        replace s8 := ku s8
        replace s9 := ku s9
        replace s10 := ku s10
        replace s11 := ku s11
        replace s12 := ku s12
        replace s15 := ku s15
        replace s67 := ku s67
        replace hz := zz
        clear kk zz Ycg
        refine vt (.slice s.ba s.B.length s.bc) (ex_ld rfl (ev s68 rfl) (ldB8 (cell8 (HS.cell 10 _ rfl) hbw))) hz (fun Yci zz kk s69 => ?_)
        replace s1 := ku s1
        replace s2 := ku s2
        replace s5 := ku s5
        replace s6 := ku s6
        replace s7 := ku s7
        replace s8 := ku s8
        replace s9 := ku s9
        replace s10 := ku s10
        replace s11 := ku s11
        replace s12 := ku s12
        replace s15 := ku s15
        replace s67 := ku s67
        replace hz := zz
        clear kk zz s68 Ych
        refine vt (.int .i64 (s.B.length : Int)) (ex_lenB8 rfl rfl (ev s69 rfl)) hz (fun Ycj zz kk s70 => ?_)
        replace s1 := ku s1
        replace s2 := ku s2
        replace s5 := ku s5
        replace s6 := ku s6
        replace s7 := ku s7
        replace s8 := ku s8
        replace s9 := ku s9
        replace s10 := ku s10
        replace s11 := ku s11
        replace s12 := ku s12
        replace s15 := ku s15
        replace s67 := ku s67
        replace hz := zz
        clear kk zz s69 Yci
        refine vt (.bool true) (ex_bin rfl (ev s67 rfl) (ev s70 rfl) (lssD8 _ _ _ _ true d1 _)) hz (fun Yck zz kk s71 => ?_)
        replace s1 := ku s1
        replace s2 := ku s2
        replace s5 := ku s5
        replace s6 := ku s6
        replace s7 := ku s7
        replace s8 := ku s8
        replace s9 := ku s9
        replace s10 := ku s10
        replace s11 := ku s11
        replace s12 := ku s12
        replace s15 := ku s15
        replace hz := zz
        clear kk zz s67 s70 Ycj
        refine wpList_nil ?_
        go_upto_region 16 with fail
        refine wp_cond_true ((ev s71 rfl).trans rfl) ?_
        clear s71 d1
        obtain ⟨x, hxi⟩ : ∃ x, s.B[i]? = some x := ⟨_, List.getElem?_eq_getElem hit⟩
        obtain ⟨q, o, hqa, hq, hl⟩ := HIr.place (by intro e; rw [e] at hit; simp at hit)
        have e1 : wr.cell? ⟨q, o + i * 6, none⟩ = some (.int .i64 x.n) := hl i x hxi 0 _ rfl
        have e2 : wr.cell? ⟨q, o + i * 6 + 1, none⟩ = some (.int .u64 x.h) := hl i x hxi 1 _ rfl
        have e3 : wr.cell? ⟨q, o + i * 6 + 2, none⟩ = some (.int .u64 x.l) := hl i x hxi 2 _ rfl
        go_upto_region 16 with fail
        refine wp_region_lit ?_
        refine vt _ (ex_move rfl (ev s7 rfl)) hz (fun Ycl zz kk s74 => ?_)
        replace s1 := ku s1
        replace s2 := ku s2
        replace s5 := ku s5
        replace s6 := ku s6
        replace s7 := ku s7
        replace s8 := ku s8
        replace s9 := ku s9
        replace s10 := ku s10
        replace s11 := ku s11
        replace s12 := ku s12
        replace s15 := ku s15
        replace hz := zz
        clear kk zz
        refine vt (.pointer (some ⟨w.heap.size, 10, none⟩)) (ex_fa rfl (ev s2 rfl) (faS10 _ _)) hz (fun Ycm zz kk s75 => ?_)
        replace s1 := ku s1
        replace s2 := ku s2
        replace s5 := ku s5
        replace s6 := ku s6
        replace s7 := ku s7
        replace s8 := ku s8
        replace s9 := ku s9
        replace s10 := ku s10
        replace s11 := ku s11
        replace s12 := ku s12
        replace s15 := ku s15
        replace s74 := ku s74
        replace hz := zz
        clear kk zz Ycl
        refine vt (.slice s.ba s.B.length s.bc) (ex_ld rfl (ev s75 rfl) (ldB8 (cell8 (HS.cell 10 _ rfl) hbw))) hz (fun Ycn zz kk s76 => ?_)
        replace s1 := ku s1
        replace s2 := ku s2
        replace s5 := ku s5
        replace s6 := ku s6
        replace s7 := ku s7
        replace s8 := ku s8
        replace s9 := ku s9
        replace s10 := ku s10
        replace s11 := ku s11
        replace s12 := ku s12
        replace s15 := ku s15
        replace s74 := ku s74
        replace hz := zz
        clear kk zz s75 Ycm
        refine vt _ (ex_move rfl (ev s15 rfl)) hz (fun Yco zz kk s77 => ?_)
        replace s1 := ku s1
        replace s2 := ku s2
        replace s5 := ku s5
        replace s6 := ku s6
        replace s7 := ku s7
        replace s8 := ku s8
        replace s9 := ku s9
        replace s10 := ku s10
        replace s11 := ku s11
        replace s12 := ku s12
        replace s15 := ku s15
        replace s74 := ku s74
        replace s76 := ku s76
        replace hz := zz
        clear kk zz Ycn
        refine vt (.pointer (some ⟨q, o + i * 6, none⟩)) (ex_ix rfl (ev s76 rfl) (ev s77 rfl) (by rw [hqa]; exact ix9Bl q o s.B.length s.bc i hit _)) hz (fun Ycp zz kk s78 => ?_)
        replace s1 := ku s1
        replace s2 := ku s2
        replace s5 := ku s5
        replace s6 := ku s6
        replace s7 := ku s7
        replace s8 := ku s8
        replace s9 := ku s9
        replace s10 := ku s10
        replace s11 := ku s11
        replace s12 := ku s12
        replace s15 := ku s15
        replace s74 := ku s74
        replace hz := zz
        clear kk zz s76 s77 Yco
        refine vt (.pointer (some ⟨q, o + i * 6, none⟩)) (ex_fa rfl (ev s78 rfl) (fa0Bl _ _ _)) hz (fun Ycq zz kk s79 => ?_)
        replace s1 := ku s1
        replace s2 := ku s2
        replace s5 := ku s5
        replace s6 := ku s6
        replace s7 := ku s7
        replace s8 := ku s8
        replace s9 := ku s9
        replace s10 := ku s10
        replace s11 := ku s11
        replace s12 := ku s12
        replace s15 := ku s15
        replace s74 := ku s74
        replace hz := zz
        clear kk zz s78 Ycp
        refine vt (.int .i64 x.n) (ex_ld rfl (ev s79 rfl) (ldI8 e1)) hz (fun Ycr zz kk s80 => ?_)
        replace s1 := ku s1
        replace s2 := ku s2
        replace s5 := ku s5
        replace s6 := ku s6
        replace s7 := ku s7
        replace s8 := ku s8
        replace s9 := ku s9
        replace s10 := ku s10
        replace s11 := ku s11
        replace s12 := ku s12
        replace s15 := ku s15
        replace s74 := ku s74
        replace hz := zz
        clear kk zz s79 Ycq
        obtain ⟨a1, ha1⟩ : ∃ v, v = wr.alloc (.cells (yI9.cs x.n).toArray 3) := ⟨_, rfl⟩
        have b1 : Below wr.heap.size wr a1 := by rw [ha1]; exact (Below.refl _ _).alloc (Nat.le_refl _) _
        have p1 : SlY yI9 a1 (some ⟨wr.heap.size, 0, none⟩) 1 1 [x.n] := by rw [ha1]; exact one9 yI9 wr x.n
        have z1 := b1.size
        have hlN : ((s.B.take i).map Bl.n).length = i := by rw [List.length_map, List.length_take]; omega
        obtain ⟨vn2, a2, hr2, oN2, g2, _⟩ := run_appY kI9 a1 73 W1.heap.size _ vn _ _ _ _ p1 (oN.grow b1) (by omega) (by rw [hlN]; unfold maxLen; omega) (by rw [hlN]; show (i + 1) * 8 ≤ _; omega)
        have oD2 := (oD.grow b1).grownZ (oN.grow b1) (by decide) g2
        have hb2 : Below W1.heap.size W1 a2 := (oN.grow b1).grown (hbr.trans (b1.mono (by omega))) g2 (by omega)
        refine vw (.slice (some ⟨wr.heap.size, 0, none⟩) 1 1) a1 (want_none rfl) (ex_bs8 rfl (ev s80 rfl) (by rw [ha1]; exact bsI9 _ _)) rfl hz (by decide) (fun Ycs zz kk s81 => ?_)
        replace s1 := ku s1
        replace s2 := ku s2
        replace s5 := ku s5
        replace s6 := ku s6
        replace s7 := ku s7
        replace s8 := ku s8
        replace s9 := ku s9
        replace s10 := ku s10
        replace s11 := ku s11
        replace s12 := ku s12
        replace s15 := ku s15
        replace s74 := ku s74
        replace hz := zz
        clear kk zz s80 Ycr
        refine vw (vn2) a2 (want_none rfl) (ex_app8 rfl (ev s74 rfl) (ev s81 rfl) hr2) rfl hz (by decide) (fun Yct zz kk s82 => ?_)
        clear hr2 g2 p1 ha1
        replace s1 := ku s1
        replace s2 := ku s2
        replace s5 := ku s5
        replace s6 := ku s6
        replace s7 := ku s7
        replace s8 := ku s8
        replace s9 := ku s9
        replace s10 := ku s10
        replace s11 := ku s11
        replace s12 := ku s12
        replace s15 := ku s15
        replace hz := zz
        clear kk zz s74 s81 Ycs
        refine vt _ (ex_assign rfl (ev s82 rfl)) hz (fun Ycu zz kk s7x => ?_)
        replace s1 := ku s1
        replace s2 := ku s2
        replace s5 := ku s5
        replace s6 := ku s6
        replace s8 := ku s8
        replace s9 := ku s9
        replace s10 := ku s10
        replace s11 := ku s11
        replace s12 := ku s12
        replace s15 := ku s15
        clear kk hz s82 s7
        have hz := zz
        have s7 := s7x
        clear zz s7x Yct
        refine wpList_nil ?_
        have z2 := hb2.size
        have hbw2 := hw0.trans (hb2.mono hw0.size)
        have HI2 := (hI.later (hB.trans (hbw2.mono (by omega)))).b
        clear e1 e2 e3 hl hq
        obtain ⟨q2, o2, hqa2, hq2, hl2⟩ := HI2.place (by intro e; rw [e] at hit; simp at hit)
        rw [hqa] at hqa2
        cases hqa2
        have e2 : a2.cell? ⟨q, o + i * 6 + 1, none⟩ = some (.int .u64 x.h) := hl2 i x hxi 1 _ rfl
        have e3 : a2.cell? ⟨q, o + i * 6 + 2, none⟩ = some (.int .u64 x.l) := hl2 i x hxi 2 _ rfl
        go_upto_region 17 with fail
        refine wp_region_lit ?_
        refine vt _ (ex_move rfl (ev s11 rfl)) hz (fun Ycv zz kk s83 => ?_)
        replace s1 := ku s1
        replace s2 := ku s2
        replace s5 := ku s5
        replace s6 := ku s6
        replace s7 := ku s7
        replace s8 := ku s8
        replace s9 := ku s9
        replace s10 := ku s10
        replace s11 := ku s11
        replace s12 := ku s12
        replace s15 := ku s15
        replace hz := zz
        clear kk zz
        refine vt (.pointer (some ⟨w.heap.size, 10, none⟩)) (ex_fa rfl (ev s2 rfl) (faS10 _ _)) hz (fun Ycw zz kk s84 => ?_)
        replace s1 := ku s1
        replace s2 := ku s2
        replace s5 := ku s5
        replace s6 := ku s6
        replace s7 := ku s7
        replace s8 := ku s8
        replace s9 := ku s9
        replace s10 := ku s10
        replace s11 := ku s11
        replace s12 := ku s12
        replace s15 := ku s15
        replace s83 := ku s83
        replace hz := zz
        clear kk zz Ycv
        refine vt (.slice s.ba s.B.length s.bc) (ex_ld rfl (ev s84 rfl) (ldB8 (cell8 (HS.cell 10 _ rfl) hbw2))) hz (fun Ycx zz kk s85 => ?_)
        replace s1 := ku s1
        replace s2 := ku s2
        replace s5 := ku s5
        replace s6 := ku s6
        replace s7 := ku s7
        replace s8 := ku s8
        replace s9 := ku s9
        replace s10 := ku s10
        replace s11 := ku s11
        replace s12 := ku s12
        replace s15 := ku s15
        replace s83 := ku s83
        replace hz := zz
        clear kk zz s84 Ycw
        refine vt _ (ex_move rfl (ev s15 rfl)) hz (fun Ycy zz kk s86 => ?_)
        replace s1 := ku s1
        replace s2 := ku s2
        replace s5 := ku s5
        replace s6 := ku s6
        replace s7 := ku s7
        replace s8 := ku s8
        replace s9 := ku s9
        replace s10 := ku s10
        replace s11 := ku s11
        replace s12 := ku s12
        replace s15 := ku s15
        replace s83 := ku s83
        replace s85 := ku s85
        replace hz := zz
        clear kk zz Ycx
        refine vt (.pointer (some ⟨q, o + i * 6, none⟩)) (ex_ix rfl (ev s85 rfl) (ev s86 rfl) (by rw [hqa]; exact ix9Bl q o s.B.length s.bc i hit _)) hz (fun Ycz zz kk s87 => ?_)
        replace s1 := ku s1
        replace s2 := ku s2
        replace s5 := ku s5
        replace s6 := ku s6
        replace s7 := ku s7
        replace s8 := ku s8
        replace s9 := ku s9
        replace s10 := ku s10
        replace s11 := ku s11
        replace s12 := ku s12
        replace s15 := ku s15
        replace s83 := ku s83
        replace hz := zz
        clear kk zz s85 s86 Ycy
        refine vt (.pointer (some ⟨q, o + i * 6 + 1, none⟩)) (ex_fa rfl (ev s87 rfl) (fa1Bl _ _ _)) hz (fun Yc0 zz kk s88 => ?_)
        replace s1 := ku s1
        replace s2 := ku s2
        replace s5 := ku s5
        replace s6 := ku s6
        replace s7 := ku s7
        replace s8 := ku s8
        replace s9 := ku s9
        replace s10 := ku s10
        replace s11 := ku s11
        replace s12 := ku s12
        replace s15 := ku s15
        replace s83 := ku s83
        replace hz := zz
        clear kk zz s87 Ycz
        refine vt (.agg #[.int .u64 x.h, .int .u64 x.l]) (ex_ld rfl (ev s88 rfl) (ldDr8 (d := (x.h, x.l)) e2 e3)) hz (fun Yc1 zz kk s89 => ?_)
        replace s1 := ku s1
        replace s2 := ku s2
        replace s5 := ku s5
        replace s6 := ku s6
        replace s7 := ku s7
        replace s8 := ku s8
        replace s9 := ku s9
        replace s10 := ku s10
        replace s11 := ku s11
        replace s12 := ku s12
        replace s15 := ku s15
        replace s83 := ku s83
        replace hz := zz
        clear kk zz s88 Yc0
        obtain ⟨a3, ha3⟩ : ∃ v, v = a2.alloc (.cells (yR9.cs (x.h, x.l)).toArray 57) := ⟨_, rfl⟩
        have b3 : Below a2.heap.size a2 a3 := by rw [ha3]; exact (Below.refl _ _).alloc (Nat.le_refl _) _
        have p3 : SlY yR9 a3 (some ⟨a2.heap.size, 0, none⟩) 1 1 [(x.h, x.l)] := by rw [ha3]; exact one9 yR9 a2 (x.h, x.l)
        have z3 := b3.size
        have hlD : ((s.B.take i).map fun x => (x.h, x.l)).length = i := by rw [List.length_map, List.length_take]; omega
        obtain ⟨vd2, a4, hr4, oD4, g4, _⟩ := run_appY kR9 a3 26 W1.heap.size _ vd _ _ _ _ p3 (oD2.grow b3) (by omega) (by rw [hlD]; unfold maxLen; omega) (by rw [hlD]; show (i + 1) * 16 ≤ _; omega)
        have oN4 := (oN2.grow b3).grownZ (oD2.grow b3) (by decide) g4
        have hb4 : Below W1.heap.size W1 a4 := (oD2.grow b3).grown (hb2.trans (b3.mono (by omega))) g4 (by omega)
        refine vw (.slice (some ⟨a2.heap.size, 0, none⟩) 1 1) a3 (want_none rfl) (ex_bs8 rfl (ev s89 rfl) (by rw [ha3]; exact bsR9 (x.h, x.l) _)) rfl hz (by decide) (fun Yc2 zz kk s90 => ?_)
        replace s1 := ku s1
        replace s2 := ku s2
        replace s5 := ku s5
        replace s6 := ku s6
        replace s7 := ku s7
        replace s8 := ku s8
        replace s9 := ku s9
        replace s10 := ku s10
        replace s11 := ku s11
        replace s12 := ku s12
        replace s15 := ku s15
        replace s83 := ku s83
        replace hz := zz
        clear kk zz s89 Yc1
        refine vw (vd2) a4 (want_none rfl) (ex_app8 rfl (ev s83 rfl) (ev s90 rfl) hr4) rfl hz (by decide) (fun Yc3 zz kk s91 => ?_)
        clear hr4 g4 p3 ha3
        replace s1 := ku s1
        replace s2 := ku s2
        replace s5 := ku s5
        replace s6 := ku s6
        replace s7 := ku s7
        replace s8 := ku s8
        replace s9 := ku s9
        replace s10 := ku s10
        replace s11 := ku s11
        replace s12 := ku s12
        replace s15 := ku s15
        replace hz := zz
        clear kk zz s83 s90 Yc2
        refine vt _ (ex_assign rfl (ev s91 rfl)) hz (fun Yc4 zz kk s11x => ?_)
        replace s1 := ku s1
        replace s2 := ku s2
        replace s5 := ku s5
        replace s6 := ku s6
        replace s7 := ku s7
        replace s8 := ku s8
        replace s9 := ku s9
        replace s10 := ku s10
        replace s12 := ku s12
        replace s15 := ku s15
        clear kk hz s91 s11
        have hz := zz
        have s11 := s11x
        clear zz s11x Yc3
        refine wpList_nil ?_
        go_upto_region 15 with fail
        refine wp_region_lit ?_
        refine vt _ (ex_move rfl (ev s15 rfl)) hz (fun Yc5 zz kk s72 => ?_)
        replace s1 := ku s1
        replace s2 := ku s2
        replace s5 := ku s5
        replace s6 := ku s6
        replace s7 := ku s7
        replace s8 := ku s8
        replace s9 := ku s9
        replace s10 := ku s10
        replace s11 := ku s11
        replace s12 := ku s12
        replace s15 := ku s15
        replace hz := zz
        clear kk zz
        refine vt (.int .i64 ((i + 1 : Nat) : Int)) (ex_bin rfl (ev s72 rfl) rfl (addD8 _ _ _ 1 ((i + 1 : Nat) : Int) (by rw [IntKind.wrap_i64]; omega) _)) hz (fun Yc6 zz kk s73 => ?_)
        replace s1 := ku s1
        replace s2 := ku s2
        replace s5 := ku s5
        replace s6 := ku s6
        replace s7 := ku s7
        replace s8 := ku s8
        replace s9 := ku s9
        replace s10 := ku s10
        replace s11 := ku s11
        replace s12 := ku s12
        replace s15 := ku s15
        replace hz := zz
        clear kk zz s72 Yc5
        refine vt _ (ex_assign rfl (ev s73 rfl)) hz (fun Yc7 zz kk s15x => ?_)
        replace s1 := ku s1
        replace s2 := ku s2
        replace s5 := ku s5
        replace s6 := ku s6
        replace s7 := ku s7
        replace s8 := ku s8
        replace s9 := ku s9
        replace s10 := ku s10
        replace s11 := ku s11
        replace s12 := ku s12
        clear kk hz s73 s15
        have hz := zz
        have s15 := s15x
        clear zz s15x Yc6
        refine wpList_nil ?_
        have et : s.B.take (i + 1) = s.B.take i ++ [x] := by rw [List.take_add_one, hxi]; rfl
        exact ⟨_, rfl, by omega, hz, s1, s2, s5, s6, s8, s9, s10, s12, s15, vn2, vd2, s7, s11, by rw [et, List.map_append]; exact oN4, by rw [et, List.map_append]; exact oD4, hb4⟩
      · have d1 : decide ((i : Int) < (s.B.length : Int)) = false := decide_eq_false (by omega)
        go_upto_region 14 with fail
        refine wp_region_lit ?_
        refine vt _ (ex_move rfl (ev s15 rfl)) hz (fun Yc8 zz kk s67 => ?_)
        replace s1 := ku s1
        replace s2 := ku s2
        replace s5 := ku s5
        replace s6 := ku s6
        replace s7 := ku s7
        replace s8 := ku s8
        replace s9 := ku s9
        replace s10 := ku s10
        replace s11 := ku s11
        replace s12 := ku s12
        replace hz := zz
        clear kk zz s15
        refine vt (.pointer (some ⟨w.heap.size, 10, none⟩)) (ex_fa rfl (ev s2 rfl) (faS10 _ _)) hz (fun Yc9 zz kk s68 => ?_)
        replace s1 := ku s1
        replace s2 := ku s2
        replace s5 := ku s5
        replace s6 := ku s6
        replace s7 := ku s7
        replace s8 := ku s8
        replace s9 := ku s9
        replace s10 := ku s10
        replace s11 := ku s11
        replace s12 := ku s12
        replace s67 := ku s67
        replace hz := zz
        clear kk zz Yc8
        refine vt (.slice s.ba s.B.length s.bc) (ex_ld rfl (ev s68 rfl) (ldB8 (cell8 (HS.cell 10 _ rfl) hbw))) hz (fun Yda zz kk s69 => ?_)
        replace s1 := ku s1
        replace s2 := ku s2
        replace s5 := ku s5
        replace s6 := ku s6
        replace s7 := ku s7
        replace s8 := ku s8
        replace s9 := ku s9
        replace s10 := ku s10
        replace s11 := ku s11
        replace s12 := ku s12
        replace s67 := ku s67
        replace hz := zz
        clear kk zz s68 Yc9
        refine vt (.int .i64 (s.B.length : Int)) (ex_lenB8 rfl rfl (ev s69 rfl)) hz (fun Ydb zz kk s70 => ?_)
        replace s1 := ku s1
        replace s2 := ku s2
        replace s5 := ku s5
        replace s6 := ku s6
        replace s7 := ku s7
        replace s8 := ku s8
        replace s9 := ku s9
        replace s10 := ku s10
        replace s11 := ku s11
        replace s12 := ku s12
        replace s67 := ku s67
        replace hz := zz
        clear kk zz s69 Yda
        refine vt (.bool false) (ex_bin rfl (ev s67 rfl) (ev s70 rfl) (lssD8 _ _ _ _ false d1 _)) hz (fun Ydc zz kk s71 => ?_)
        replace s1 := ku s1
        replace s2 := ku s2
        replace s5 := ku s5
        replace s6 := ku s6
        replace s7 := ku s7
        replace s8 := ku s8
        replace s9 := ku s9
        replace s10 := ku s10
        replace s11 := ku s11
        replace s12 := ku s12
        replace hz := zz
        clear kk zz s67 s70 Ydb
        refine wpList_nil ?_
        go_upto_region 18 with fail
        refine wp_cond_false ((ev s71 rfl).trans rfl) ?_
        clear s71 d1
        obtain rfl : i = s.B.length := by omega
        rw [List.take_length] at oN oD
        obtain ⟨nBl, mBl, hvn, pNBl, _⟩ := oN.sl kI9
        obtain ⟨dBl, eBl, hvd, pDBl, _⟩ := oD.sl kR9
        rw [List.length_map] at hvn hvd pNBl pDBl
        rw [hvn] at s7
        rw [hvd] at s11
        clear hvn hvd oN oD HIr hit hi
        have hw0 := hbw
        obtain ⟨W2, hW⟩ : ∃ v, v = wr := ⟨_, rfl⟩
        rw [← hW] at hw0 pNBl pDBl hbr hzr hbw ⊢
        clear hW
        have pNAk := pNAk.later hbr
        have pDAk := pDAk.later hbr
        have pNMk := pNMk.later hbr
        have pDMk := pDMk.later hbr
        clear hbr hbw hzr
        go_upto_region 18 with fail
        refine wp_region_lit ?_
        refine vt (.int .i64 0) (ex_assign rfl rfl) hz (fun Ydd zz kk s16 => ?_)
        replace s1 := ku s1
        replace s2 := ku s2
        replace s5 := ku s5
        replace s6 := ku s6
        replace s7 := ku s7
        replace s8 := ku s8
        replace s9 := ku s9
        replace s10 := ku s10
        replace s11 := ku s11
        replace s12 := ku s12
        replace hz := zz
        clear kk zz
        refine wpList_nil ?_
        have hsv : _ = some (gw true (.int .i64 ((0 : Nat) : Int))) := s16
        go_upto_region 19 with fail
        refine v_loop 16 s.N.length (fun i T wr => T.size = 143 ∧ T[1]? = some (gw true (.int .i64 n)) ∧ T[2]? = some (gw true (.pointer (some ⟨w.heap.size, 0, none⟩))) ∧ T[5]? = some (gw true (.slice nAk s.A.length mAk)) ∧ T[6]? = some (gw true (.slice nMk s.M.length mMk)) ∧ T[7]? = some (gw true (.slice nBl s.B.length mBl)) ∧ T[9]? = some (gw true (.slice dAk s.A.length eAk)) ∧ T[10]? = some (gw true (.slice dMk s.M.length eMk)) ∧ T[11]? = some (gw true (.slice dBl s.B.length eBl)) ∧ T[16]? = some (gw true (.int .i64 (i : Int))) ∧ Hid (∃ vn vd, T[8]? = some (gw true vn) ∧ T[12]? = some (gw true vd) ∧ OwnY yI9 W2.heap.size wr vn ((s.N.take i).map An.n) ∧ OwnY yR9 W2.heap.size wr vd ((s.N.take i).map fun x => (x.h, x.l)) ∧ Below W2.heap.size W2 wr)) (fun i T w h => h.2.2.2.2.2.2.2.2.2.1) ⟨hz, s1, s2, s5, s6, s7, s9, s10, s11, hsv, _, _, s8, s12, OwnY.nil _ _ _, OwnY.nil _ _ _, Below.refl _ _⟩ ?_
        clear hz s1 s2 s5 s6 s7 s9 s10 s11 s16 s8 s12 hsv
        intro i R3 wr hi hh
        obtain ⟨hz, s1, s2, s5, s6, s7, s9, s10, s11, s16, HJ⟩ := hh
        obtain ⟨vn, vd, s8, s12, oN, oD, hbr⟩ := HJ.out
        clear HJ
        have hzr := hbr.size
        have hbw := hw0.trans (hbr.mono hw0.size)
        have HIr := (hI.later (hB.trans (hbw.mono (by omega)))).n
        by_cases hit : i < s.N.length
        · have d1 : decide ((i : Int) < (s.N.length : Int)) = true := decide_eq_true (by omega)
          go_upto_region 19 with fail
          refine wp_region_lit ?_
          refine vt _ (ex_move rfl (ev s16 rfl)) hz (fun Yde zz kk s92 => ?_)
          replace s1 := ku s1
          replace s2 := ku s2
          replace s5 := ku s5
          replace s6 := ku s6
          replace s7 := ku s7
          replace s8 := ku s8
          replace s9 := ku s9
          replace s10 := ku s10
          replace s11 := ku s11
          replace s12 := ku s12
          replace s16 := ku s16
          replace hz := zz
          clear kk zz
          refine vt (.pointer (some ⟨w.heap.size, 11, none⟩)) (ex_fa rfl (ev s2 rfl) (faS11 _ _)) hz (fun Ydf zz kk s93 => ?_)
          replace s1 := ku s1
          replace s2 := ku s2
          replace s5 := ku s5
          replace s6 := ku s6
          replace s7 := ku s7
          replace s8 := ku s8
          replace s9 := ku s9
          replace s10 := ku s10
          replace s11 := ku s11
          replace s12 := ku s12
          replace s16 := ku s16
          replace s92 := ku s92
          replace hz := zz
          clear kk zz Yde
          refine vt (.slice s.na s.N.length s.nc) (ex_ld rfl (ev s93 rfl) (ldN8 (cell8 (HS.cell 11 _ rfl) hbw))) hz (fun Ydg zz kk s94 => ?_)
          replace s1 := ku s1
          replace s2 := ku s2
          replace s5 := ku s5
          replace s6 := ku s6
          replace s7 := ku s7
          replace s8 := ku s8
          replace s9 := ku s9
          replace s10 := ku s10
          replace s11 := ku s11
          replace s12 := ku s12
          replace s16 := ku s16
          replace s92 := ku s92
          replace hz := zz
          clear kk zz s93 Ydf
          refine vt (.int .i64 (s.N.length : Int)) (ex_lenN8 rfl rfl (ev s94 rfl)) hz (fun Ydh zz kk s95 => ?_)
          replace s1 := ku s1
          replace s2 := ku s2
          replace s5 := ku s5
          replace s6 := ku s6
          replace s7 := ku s7
          replace s8 := ku s8
          replace s9 := ku s9
          replace s10 := ku s10
          replace s11 := ku s11
          replace s12 := ku s12
          replace s16 := ku s16
          replace s92 := ku s92
          replace hz := zz
          clear kk zz s94 Ydg
          refine vt (.bool true) (ex_bin rfl (ev s92 rfl) (ev s95 rfl) (lssD8 _ _ _ _ true d1 _)) hz (fun Ydi zz kk s96 => ?_)
          replace s1 := ku s1
          replace s2 := ku s2
          replace s5 := ku s5
          replace s6 := ku s6
          replace s7 := ku s7
          replace s8 := ku s8
          replace s9 := ku s9
          replace s10 := ku s10
          replace s11 := ku s11
          replace s12 := ku s12
          replace s16 := ku s16
          replace hz := zz
          clear kk zz s92 s95 Ydh
          refine wpList_nil ?_
          go_upto_region 21 with fail
          refine wp_cond_true ((ev s96 rfl).trans rfl) ?_
          clear s96 d1
          obtain ⟨x, hxi⟩ : ∃ x, s.N[i]? = some x := ⟨_, List.getElem?_eq_getElem hit⟩
          obtain ⟨q, o, hqa, hq, hl⟩ := HIr.place (by intro e; rw [e] at hit; simp at hit)
          have e1 : wr.cell? ⟨q, o + i * 6, none⟩ = some (.int .i64 x.n) := hl i x hxi 0 _ rfl
          have e2 : wr.cell? ⟨q, o + i * 6 + 1, none⟩ = some (.int .u64 x.h) := hl i x hxi 1 _ rfl
          have e3 : wr.cell? ⟨q, o + i * 6 + 2, none⟩ = some (.int .u64 x.l) := hl i x hxi 2 _ rfl
          go_upto_region 21 with fail
          refine wp_region_lit ?_
          refine vt _ (ex_move rfl (ev s8 rfl)) hz (fun Ydj zz kk s99 => ?_)
          replace s1 := ku s1
          replace s2 := ku s2
          replace s5 := ku s5
          replace s6 := ku s6
          replace s7 := ku s7
          replace s8 := ku s8
          replace s9 := ku s9
          replace s10 := ku s10
          replace s11 := ku s11
          replace s12 := ku s12
          replace s16 := ku s16
          replace hz := zz
          clear kk zz
          refine vt (.pointer (some ⟨w.heap.size, 11, none⟩)) (ex_fa rfl (ev s2 rfl) (faS11 _ _)) hz (fun Ydk zz kk s100 => ?_)
          replace s1 := ku s1
          replace s2 := ku s2
          replace s5 := ku s5
          replace s6 := ku s6
          replace s7 := ku s7
          replace s8 := ku s8
          replace s9 := ku s9
          replace s10 := ku s10
          replace s11 := ku s11
          replace s12 := ku s12
          replace s16 := ku s16
          replace s99 := ku s99
          replace hz := zz
          clear kk zz Ydj
          refine vt (.slice s.na s.N.length s.nc) (ex_ld rfl (ev s100 rfl) (ldN8 (cell8 (HS.cell 11 _ rfl) hbw))) hz (fun Ydl zz kk s101 => ?_)
          replace s1 := ku s1
          replace s2 := ku s2
          replace s5 := ku s5
          replace s6 := ku s6
          replace s7 := ku s7
          replace s8 := ku s8
          replace s9 := ku s9
          replace s10 := ku s10
          replace s11 := ku s11
          replace s12 := ku s12
          replace s16 := ku s16
          replace s99 := ku s99
          replace hz := zz
          clear kk zz s100 Ydk
          refine vt _ (ex_move rfl (ev s16 rfl)) hz (fun Ydm zz kk s102 => ?_)
          replace s1 := ku s1
          replace s2 := ku s2
          replace s5 := ku s5
          replace s6 := ku s6
          replace s7 := ku s7
          replace s8 := ku s8
          replace s9 := ku s9
          replace s10 := ku s10
          replace s11 := ku s11
          replace s12 := ku s12
          replace s16 := ku s16
          replace s99 := ku s99
          replace s101 := ku s101
          replace hz := zz
          clear kk zz Ydl
          refine vt (.pointer (some ⟨q, o + i * 6, none⟩)) (ex_ix rfl (ev s101 rfl) (ev s102 rfl) (by rw [hqa]; exact ix9An q o s.N.length s.nc i hit _)) hz (fun Ydn zz kk s103 => ?_)
          replace s1 := ku s1
          replace s2 := ku s2
          replace s5 := ku s5
          replace s6 := ku s6
          replace s7 := ku s7
          replace s8 := ku s8
          replace s9 := ku s9
          replace s10 := ku s10
          replace s11 := ku s11
          replace s12 := ku s12
          replace s16 := ku s16
          replace s99 := ku s99
          replace hz := zz
          clear kk zz s101 s102 Ydm
          refine vt (.pointer (some ⟨q, o + i * 6, none⟩)) (ex_fa rfl (ev s103 rfl) (fa0An _ _ _)) hz (fun Ydo zz kk s104 => ?_)
          replace s1 := ku s1
          replace s2 := ku s2
          replace s5 := ku s5
          replace s6 := ku s6
          replace s7 := ku s7
          replace s8 := ku s8
          replace s9 := ku s9
          replace s10 := ku s10
          replace s11 := ku s11
          replace s12 := ku s12
          replace s16 := ku s16
          replace s99 := ku s99
          replace hz := zz
          clear kk zz s103 Ydn
          refine vt (.int .i64 x.n) (ex_ld rfl (ev s104 rfl) (ldI8 e1)) hz (fun Ydp zz kk s105 => ?_)
          replace s1 := ku s1
          replace s2 := ku s2
          replace s5 := ku s5
          replace s6 := ku s6
          replace s7 := ku s7
          replace s8 := ku s8
          replace s9 := ku s9
          replace s10 := ku s10
          replace s11 := ku s11
          replace s12 := ku s12
          replace s16 := ku s16
          replace s99 := ku s99
          replace hz := zz
          clear kk zz s104 Ydo
          obtain ⟨a1, ha1⟩ : ∃ v, v = wr.alloc (.cells (yI9.cs x.n).toArray 3) := ⟨_, rfl⟩
          have b1 : Below wr.heap.size wr a1 := by rw [ha1]; exact (Below.refl _ _).alloc (Nat.le_refl _) _
          have p1 : SlY yI9 a1 (some ⟨wr.heap.size, 0, none⟩) 1 1 [x.n] := by rw [ha1]; exact one9 yI9 wr x.n
          have z1 := b1.size
          have hlN : ((s.N.take i).map An.n).length = i := by rw [List.length_map, List.length_take]; omega
          obtain ⟨vn2, a2, hr2, oN2, g2, _⟩ := run_appY kI9 a1 73 W2.heap.size _ vn _ _ _ _ p1 (oN.grow b1) (by omega) (by rw [hlN]; unfold maxLen; omega) (by rw [hlN]; show (i + 1) * 8 ≤ _; omega)
          have oD2 := (oD.grow b1).grownZ (oN.grow b1) (by decide) g2
          have hb2 : Below W2.heap.size W2 a2 := (oN.grow b1).grown (hbr.trans (b1.mono (by omega))) g2 (by omega)
          refine vw (.slice (some ⟨wr.heap.size, 0, none⟩) 1 1) a1 (want_none rfl) (ex_bs8 rfl (ev s105 rfl) (by rw [ha1]; exact bsI9 _ _)) rfl hz (by decide) (fun Ydq zz kk s106 => ?_)
          replace s1 := ku s1
          replace s2 := ku s2
          replace s5 := ku s5
          replace s6 := ku s6
          replace s7 := ku s7
          replace s8 := ku s8
          replace s9 := ku s9
          replace s10 := ku s10
          replace s11 := ku s11
          replace s12 := ku s12
          replace s16 := ku s16
          replace s99 := ku s99
          replace hz := zz
          clear kk zz s105 Ydp
          refine vw (vn2) a2 (want_none rfl) (ex_app8 rfl (ev s99 rfl) (ev s106 rfl) hr2) rfl hz (by decide) (fun Ydr zz kk s107 => ?_)
          clear hr2 g2 p1 ha1
          replace s1 := ku s1
          replace s2 := ku s2
          replace s5 := ku s5
          replace s6 := ku s6
          replace s7 := ku s7
          replace s8 := ku s8
          replace s9 := ku s9
          replace s10 := ku s10
          replace s11 := ku s11
          replace s12 := ku s12
          replace s16 := ku s16
          replace hz := zz
          clear kk zz s99 s106 Ydq
          refine vt _ (ex_assign rfl (ev s107 rfl)) hz (fun Yds zz kk s8x => ?_)
          replace s1 := ku s1
          replace s2 := ku s2
          replace s5 := ku s5
          replace s6 := ku s6
          replace s7 := ku s7
          replace s9 := ku s9
          replace s10 := ku s10
          replace s11 := ku s11
          replace s12 := ku s12
          replace s16 := ku s16
          clear kk hz s107 s8
          have hz := zz
          have s8 := s8x
          clear zz s8x Ydr
          refine wpList_nil ?_
          have z2 := hb2.size
          have hbw2 := hw0.trans (hb2.mono hw0.size)
          have HI2 := (hI.later (hB.trans (hbw2.mono (by omega)))).n
          clear e1 e2 e3 hl hq
          obtain ⟨q2, o2, hqa2, hq2, hl2⟩ := HI2.place (by intro e; rw [e] at hit; simp at hit)
          rw [hqa] at hqa2
          cases hqa2
          have e2 : a2.cell? ⟨q, o + i * 6 + 1, none⟩ = some (.int .u64 x.h) := hl2 i x hxi 1 _ rfl
          have e3 : a2.cell? ⟨q, o + i * 6 + 2, none⟩ = some (.int .u64 x.l) := hl2 i x hxi 2 _ rfl
          go_upto_region 22 with fail
          refine wp_region_lit ?_
          refine vt _ (ex_move rfl (ev s12 rfl)) hz (fun Ydt zz kk s108 => ?_)
          replace s1 := ku s1
          replace s2 := ku s2
          replace s5 := ku s5
          replace s6 := ku s6
          replace s7 := ku s7
          replace s8 := ku s8
          replace s9 := ku s9
          replace s10 := ku s10
          replace s11 := ku s11
          replace s12 := ku s12
          replace s16 := ku s16
          replace hz := zz
          clear kk zz
          refine vt (.pointer (some ⟨w.heap.size, 11, none⟩)) (ex_fa rfl (ev s2 rfl) (faS11 _ _)) hz (fun Ydu zz kk s109 => ?_)
          replace s1 := ku s1
          replace s2 := ku s2
          replace s5 := ku s5
          replace s6 := ku s6
          replace s7 := ku s7
          replace s8 := ku s8
          replace s9 := ku s9
          replace s10 := ku s10
          replace s11 := ku s11
          replace s12 := ku s12
          replace s16 := ku s16
          replace s108 := ku s108
          replace hz := zz
          clear kk zz Ydt
          refine vt (.slice s.na s.N.length s.nc) (ex_ld rfl (ev s109 rfl) (ldN8 (cell8 (HS.cell 11 _ rfl) hbw2))) hz (fun Ydv zz kk s110 => ?_)
          replace s1 := ku s1
          replace s2 := ku s2
          replace s5 := ku s5
          replace s6 := ku s6
          replace s7 := ku s7
          replace s8 := ku s8
          replace s9 := ku s9
          replace s10 := ku s10
          replace s11 := ku s11
          replace s12 := ku s12
          replace s16 := ku s16
          replace s108 := ku s108
          replace hz := zz
          clear kk zz s109 Ydu
          refine vt _ (ex_move rfl (ev s16 rfl)) hz (fun Ydw zz kk s111 => ?_)
          replace s1 := ku s1
          replace s2 := ku s2
          replace s5 := ku s5
          replace s6 := ku s6
          replace s7 := ku s7
          replace s8 := ku s8
          replace s9 := ku s9
          replace s10 := ku s10
          replace s11 := ku s11
          replace s12 := ku s12
          replace s16 := ku s16
          replace s108 := ku s108
          replace s110 := ku s110
          replace hz := zz
          clear kk zz Ydv
          refine vt (.pointer (some ⟨q, o + i * 6, none⟩)) (ex_ix rfl (ev s110 rfl) (ev s111 rfl) (by rw [hqa]; exact ix9An q o s.N.length s.nc i hit _)) hz (fun Ydx zz kk s112 => ?_)
          replace s1 := ku s1
          replace s2 := ku s2
          replace s5 := ku s5
          replace s6 := ku s6
          replace s7 := ku s7
          replace s8 := ku s8
          replace s9 := ku s9
          replace s10 := ku s10
          replace s11 := ku s11
          replace s12 := ku s12
          replace s16 := ku s16
          replace s108 := ku s108
          replace hz := zz
          clear kk zz s110 s111 Ydw
          refine vt (.pointer (some ⟨q, o + i * 6 + 1, none⟩)) (ex_fa rfl (ev s112 rfl) (fa1An _ _ _)) hz (fun Ydy zz kk s113 => ?_)
          replace s1 := ku s1
          replace s2 := ku s2
          replace s5 := ku s5
          replace s6 := ku s6
          replace s7 := ku s7
          replace s8 := ku s8
          replace s9 := ku s9
          replace s10 := ku s10
          replace s11 := ku s11
          replace s12 := ku s12
          replace s16 := ku s16
          replace s108 := ku s108
          replace hz := zz
          clear kk zz s112 Ydx
          refine vt (.agg #[.int .u64 x.h, .int .u64 x.l]) (ex_ld rfl (ev s113 rfl) (ldDr8 (d := (x.h, x.l)) e2 e3)) hz (fun Ydz zz kk s114 => ?_)
          replace s1 := ku s1
          replace s2 := ku s2
          replace s5 := ku s5
          replace s6 := ku s6
          replace s7 := ku s7
          replace s8 := ku s8
          replace s9 := ku s9
          replace s10 := ku s10
          replace s11 := ku s11
          replace s12 := ku s12
          replace s16 := ku s16
          replace s108 := ku s108
          replace hz := zz
          clear kk zz s113 Ydy
          obtain ⟨a3, ha3⟩ : ∃ v, v = a2.alloc (.cells (yR9.cs (x.h, x.l)).toArray 57) := ⟨_, rfl⟩
          have b3 : Below a2.heap.size a2 a3 := by rw [ha3]; exact (Below.refl _ _).alloc (Nat.le_refl _) _
          have p3 : SlY yR9 a3 (some ⟨a2.heap.size, 0, none⟩) 1 1 [(x.h, x.l)] := by rw [ha3]; exact one9 yR9 a2 (x.h, x.l)
          have z3 := b3.size
          have hlD : ((s.N.take i).map fun x => (x.h, x.l)).length = i := by rw [List.length_map, List.length_take]; omega
          obtain ⟨vd2, a4, hr4, oD4, g4, _⟩ := run_appY kR9 a3 26 W2.heap.size _ vd _ _ _ _ p3 (oD2.grow b3) (by omega) (by rw [hlD]; unfold maxLen; omega) (by rw [hlD]; show (i + 1) * 16 ≤ _; omega)
          have oN4 := (oN2.grow b3).grownZ (oD2.grow b3) (by decide) g4
          have hb4 : Below W2.heap.size W2 a4 := (oD2.grow b3).grown (hb2.trans (b3.mono (by omega))) g4 (by omega)
          refine vw (.slice (some ⟨a2.heap.size, 0, none⟩) 1 1) a3 (want_none rfl) (ex_bs8 rfl (ev s114 rfl) (by rw [ha3]; exact bsR9 (x.h, x.l) _)) rfl hz (by decide) (fun Yd0 zz kk s115 => ?_)
          replace s1 := ku s1
          replace s2 := ku s2
          replace s5 := ku s5
          replace s6 := ku s6
          replace s7 := ku s7
          replace s8 := ku s8
          replace s9 := ku s9
          replace s10 := ku s10
          replace s11 := ku s11
          replace s12 := ku s12
          replace s16 := ku s16
          replace s108 := ku s108
          replace hz := zz
          clear kk zz s114 Ydz
          refine vw (vd2) a4 (want_none rfl) (ex_app8 rfl (ev s108 rfl) (ev s115 rfl) hr4) rfl hz (by decide) (fun Yd1 zz kk s116 => ?_)
          clear hr4 g4 p3 ha3
          replace s1 := ku s1
          replace s2 := ku s2
          replace s5 := ku s5
          replace s6 := ku s6
          replace s7 := ku s7
          replace s8 := ku s8
          replace s9 := ku s9
          replace s10 := ku s10
          replace s11 := ku s11
          replace s12 := ku s12
          replace s16 := ku s16
          replace hz := zz
          clear kk zz s108 s115 Yd0
          refine vt _ (ex_assign rfl (ev s116 rfl)) hz (fun Yd2 zz kk s12x => ?_)
          replace s1 := ku s1
          replace s2 := ku s2
          replace s5 := ku s5
          replace s6 := ku s6
          replace s7 := ku s7
          replace s8 := ku s8
          replace s9 := ku s9
          replace s10 := ku s10
          replace s11 := ku s11
          replace s16 := ku s16
          clear kk hz s116 s12
          have hz := zz
          have s12 := s12x
          clear zz s12x Yd1
          refine wpList_nil ?_
          go_upto_region 20 with fail
          refine wp_region_lit ?_
          refine vt _ (ex_move rfl (ev s16 rfl)) hz (fun Yd3 zz kk s97 => ?_)
          replace s1 := ku s1
          replace s2 := ku s2
          replace s5 := ku s5
          replace s6 := ku s6
          replace s7 := ku s7
          replace s8 := ku s8
          replace s9 := ku s9
          replace s10 := ku s10
          replace s11 := ku s11
          replace s12 := ku s12
          replace s16 := ku s16
          replace hz := zz
          clear kk zz
          refine vt (.int .i64 ((i + 1 : Nat) : Int)) (ex_bin rfl (ev s97 rfl) rfl (addD8 _ _ _ 1 ((i + 1 : Nat) : Int) (by rw [IntKind.wrap_i64]; omega) _)) hz (fun Yd4 zz kk s98 => ?_)
          replace s1 := ku s1
          replace s2 := ku s2
          replace s5 := ku s5
          replace s6 := ku s6
          replace s7 := ku s7
          replace s8 := ku s8
          replace s9 := ku s9
          replace s10 := ku s10
          replace s11 := ku s11
          replace s12 := ku s12
          replace s16 := ku s16
          replace hz := zz
          clear kk zz s97 Yd3
          refine vt _ (ex_assign rfl (ev s98 rfl)) hz (fun Yd5 zz kk s16x => ?_)
          replace s1 := ku s1
          replace s2 := ku s2
          replace s5 := ku s5
          replace s6 := ku s6
          replace s7 := ku s7
          replace s8 := ku s8
          replace s9 := ku s9
          replace s10 := ku s10
          replace s11 := ku s11
          replace s12 := ku s12
          clear kk hz s98 s16
          have hz := zz
          have s16 := s16x
          clear zz s16x Yd4
          refine wpList_nil ?_
          have et : s.N.take (i + 1) = s.N.take i ++ [x] := by rw [List.take_add_one, hxi]; rfl
          exact ⟨_, rfl, by omega, hz, s1, s2, s5, s6, s7, s9, s10, s11, s16, vn2, vd2, s8, s12, by rw [et, List.map_append]; exact oN4, by rw [et, List.map_append]; exact oD4, hb4⟩
        · have d1 : decide ((i : Int) < (s.N.length : Int)) = false := decide_eq_false (by omega)
          go_upto_region 19 with fail
          refine wp_region_lit ?_
          refine vt _ (ex_move rfl (ev s16 rfl)) hz (fun Yd6 zz kk s92 => ?_)
          replace s1 := ku s1
          replace s2 := ku s2
          replace s5 := ku s5
          replace s6 := ku s6
          replace s7 := ku s7
          replace s8 := ku s8
          replace s9 := ku s9
          replace s10 := ku s10
          replace s11 := ku s11
          replace s12 := ku s12
          replace hz := zz
          clear kk zz s16
          refine vt (.pointer (some ⟨w.heap.size, 11, none⟩)) (ex_fa rfl (ev s2 rfl) (faS11 _ _)) hz (fun Yd7 zz kk s93 => ?_)
          replace s1 := ku s1
          replace s2 := ku s2
          replace s5 := ku s5
          replace s6 := ku s6
          replace s7 := ku s7
          replace s8 := ku s8
          replace s9 := ku s9
          replace s10 := ku s10
          replace s11 := ku s11
          replace s12 := ku s12
          replace s92 := ku s92
          replace hz := zz
          clear kk zz Yd6
          refine vt (.slice s.na s.N.length s.nc) (ex_ld rfl (ev s93 rfl) (ldN8 (cell8 (HS.cell 11 _ rfl) hbw))) hz (fun Yd8 zz kk s94 => ?_)
          replace s1 := ku s1
          replace s2 := ku s2
          replace s5 := ku s5
          replace s6 := ku s6
          replace s7 := ku s7
          replace s8 := ku s8
          replace s9 := ku s9
          replace s10 := ku s10
          replace s11 := ku s11
          replace s12 := ku s12
          replace s92 := ku s92
          replace hz := zz
          clear kk zz s93 Yd7
          refine vt (.int .i64 (s.N.length : Int)) (ex_lenN8 rfl rfl (ev s94 rfl)) hz (fun Yd9 zz kk s95 => ?_)
          replace s1 := ku s1
          replace s2 := ku s2
          replace s5 := ku s5
          replace s6 := ku s6
          replace s7 := ku s7
          replace s8 := ku s8
          replace s9 := ku s9
          replace s10 := ku s10
          replace s11 := ku s11
          replace s12 := ku s12
          replace s92 := ku s92
          replace hz := zz
          clear kk zz s94 Yd8
          refine vt (.bool false) (ex_bin rfl (ev s92 rfl) (ev s95 rfl) (lssD8 _ _ _ _ false d1 _)) hz (fun Yea zz kk s96 => ?_)
          replace s1 := ku s1
          replace s2 := ku s2
          replace s5 := ku s5
          replace s6 := ku s6
          replace s7 := ku s7
          replace s8 := ku s8
          replace s9 := ku s9
          replace s10 := ku s10
          replace s11 := ku s11
          replace s12 := ku s12
          replace hz := zz
          clear kk zz s92 s95 Yd9
          refine wpList_nil ?_
          go_upto_region 23 with fail
          refine wp_cond_false ((ev s96 rfl).trans rfl) ?_
          clear s96 d1
          obtain rfl : i = s.N.length := by omega
          rw [List.take_length] at oN oD
          obtain ⟨nAn, mAn, hvn, pNAn, _⟩ := oN.sl kI9
          obtain ⟨dAn, eAn, hvd, pDAn, _⟩ := oD.sl kR9
          rw [List.length_map] at hvn hvd pNAn pDAn
          rw [hvn] at s8
          rw [hvd] at s12
          clear hvn hvd oN oD HIr hit hi
          have hw0 := hbw
          obtain ⟨W3, hW⟩ : ∃ v, v = wr := ⟨_, rfl⟩
          rw [← hW] at hw0 pNAn pDAn hbr hzr hbw ⊢
          clear hW
          have pNAk := pNAk.later hbr
          have pDAk := pDAk.later hbr
          have pNMk := pNMk.later hbr
          have pDMk := pDMk.later hbr
          have pNBl := pNBl.later hbr
          have pDBl := pDBl.later hbr
          clear hbr hbw hzr
          have HS := HS.bel hw0
          have hB := hB.trans (hw0.mono (by omega))
          have hv9 : Below W3.heap.size W3 W3 := Below.refl _ _
          have hzW := hw0.size
          have hz1 := hB.size
          go_upto_region 23 with fail
          refine wp_region_lit ?_
          refine vt (s.val) (ex_ld rfl (ev s2 rfl) (SB7.ld (HS.bel hv9))) hz (fun Yeb zz kk s117 => ?_)
          replace s1 := ku s1
          replace s2 := ku s2
          replace s5 := ku s5
          replace s6 := ku s6
          replace s7 := ku s7
          replace s8 := ku s8
          replace s9 := ku s9
          replace s10 := ku s10
          replace s11 := ku s11
          replace s12 := ku s12
          replace hz := zz
          clear kk zz
          refine vt _ (ex_move rfl (ev s1 rfl)) hz (fun Yec zz kk s118 => ?_)
          replace s1 := ku s1
          replace s2 := ku s2
          replace s5 := ku s5
          replace s6 := ku s6
          replace s7 := ku s7
          replace s8 := ku s8
          replace s9 := ku s9
          replace s10 := ku s10
          replace s11 := ku s11
          replace s12 := ku s12
          replace s117 := ku s117
          replace hz := zz
          clear kk zz Yeb
          refine vt _ (ex_move rfl (ev s5 rfl)) hz (fun Yed zz kk s119 => ?_)
          replace s1 := ku s1
          replace s2 := ku s2
          replace s6 := ku s6
          replace s7 := ku s7
          replace s8 := ku s8
          replace s9 := ku s9
          replace s10 := ku s10
          replace s11 := ku s11
          replace s12 := ku s12
          replace s117 := ku s117
          replace s118 := ku s118
          replace hz := zz
          clear kk zz s5 Yec
          refine vt _ (ex_move rfl (ev s9 rfl)) hz (fun Yee zz kk s120 => ?_)
          replace s1 := ku s1
          replace s2 := ku s2
          replace s6 := ku s6
          replace s7 := ku s7
          replace s8 := ku s8
          replace s10 := ku s10
          replace s11 := ku s11
          replace s12 := ku s12
          replace s117 := ku s117
          replace s118 := ku s118
          replace s119 := ku s119
          replace hz := zz
          clear kk zz s9 Yed
          refine vcall true (.bool (rv9 s n (s.A.map Ak.sm))) (want_none rfl) (fun hc => ex_call rfl (by simp only [List.map_toArray, List.map_cons, List.map_nil, (ev s117 rfl), (ev s118 rfl), (ev s119 rfl), (ev s120 rfl), evc] <;> rfl) rfl) (fun hc => rvoters9' s n (s.A.map Ak.sm) nAk dAk mAk eAk s.A.length (List.length_map _) W3 (hI.later (hB.trans (hv9.mono hz1))) hn hn1 (by rw [List.map_map]; exact pNAk.later hv9) (by rw [List.map_map]; exact pDAk.later hv9)) rfl hz (by decide) (fun Yef x41 hb zz kk s121 => ?_)
          have hx41 := hv9.trans (hb.mono hv9.size)
          clear hb
          replace s1 := ku s1
          replace s2 := ku s2
          replace s6 := ku s6
          replace s7 := ku s7
          replace s8 := ku s8
          replace s10 := ku s10
          replace s11 := ku s11
          replace s12 := ku s12
          replace hz := zz
          clear kk zz s117 s118 s119 s120 Yee
          refine vt _ (ex_move rfl (ev s121 rfl)) hz (fun Yeg zz kk s122 => ?_)
          replace s1 := ku s1
          replace s2 := ku s2
          replace s6 := ku s6
          replace s7 := ku s7
          replace s8 := ku s8
          replace s10 := ku s10
          replace s11 := ku s11
          replace s12 := ku s12
          replace hz := zz
          clear kk zz s121 Yef
          refine vl _ (s.val) (want_g rfl rfl s122) (fun hc => ex_ld rfl (ev s2 rfl) (SB7.ld (HS.bel hx41))) rfl hz (by decide) (fun Yeh zz kk s123 => ?_)
          replace s1 := ku s1
          replace s2 := ku s2
          replace s6 := ku s6
          replace s7 := ku s7
          replace s8 := ku s8
          replace s10 := ku s10
          replace s11 := ku s11
          replace s12 := ku s12
          replace s122 := ku s122
          replace hz := zz
          clear kk zz Yeg
          refine vl _ _ (want_g rfl rfl s122) (fun hc => ex_move rfl (ev s1 rfl)) rfl hz (by decide) (fun Yei zz kk s124 => ?_)
          replace s1 := ku s1
          replace s2 := ku s2
          replace s6 := ku s6
          replace s7 := ku s7
          replace s8 := ku s8
          replace s10 := ku s10
          replace s11 := ku s11
          replace s12 := ku s12
          replace s122 := ku s122
          replace s123 := ku s123
          replace hz := zz
          clear kk zz Yeh
          refine vl _ _ (want_g rfl rfl s122) (fun hc => ex_move rfl (ev s6 rfl)) rfl hz (by decide) (fun Yej zz kk s125 => ?_)
          replace s1 := ku s1
          replace s2 := ku s2
          replace s7 := ku s7
          replace s8 := ku s8
          replace s10 := ku s10
          replace s11 := ku s11
          replace s12 := ku s12
          replace s122 := ku s122
          replace s123 := ku s123
          replace s124 := ku s124
          replace hz := zz
          clear kk zz s6 Yei
          refine vl _ _ (want_g rfl rfl s122) (fun hc => ex_move rfl (ev s10 rfl)) rfl hz (by decide) (fun Yek zz kk s126 => ?_)
          replace s1 := ku s1
          replace s2 := ku s2
          replace s7 := ku s7
          replace s8 := ku s8
          replace s11 := ku s11
          replace s12 := ku s12
          replace s122 := ku s122
          replace s123 := ku s123
          replace s124 := ku s124
          replace s125 := ku s125
          replace hz := zz
          clear kk zz s10 Yej
          refine vcall (true && ((rv9 s n (s.A.map Ak.sm)) == true)) (.bool (rv9 s n (s.M.map Mk.sm))) (want_g rfl rfl s122) (fun hc => ex_call rfl (by simp only [List.map_toArray, List.map_cons, List.map_nil, (ev s123 hc), (ev s124 hc), (ev s125 hc), (ev s126 hc), evc] <;> rfl) rfl) (fun hc => rvoters9' s n (s.M.map Mk.sm) nMk dMk mMk eMk s.M.length (List.length_map _) x41 (hI.later (hB.trans (hx41.mono hz1))) hn hn1 (by rw [List.map_map]; exact pNMk.later hx41) (by rw [List.map_map]; exact pDMk.later hx41)) rfl hz (by decide) (fun Yel x42 hb zz kk s127 => ?_)
          have hx42 := hx41.trans (hb.mono hx41.size)
          clear hb
          replace s1 := ku s1
          replace s2 := ku s2
          replace s7 := ku s7
          replace s8 := ku s8
          replace s11 := ku s11
          replace s12 := ku s12
          replace s122 := ku s122
          replace hz := zz
          clear kk zz s123 s124 s125 s126 Yek
          refine vt (.bool ((rv9 s n (s.A.map Ak.sm)) && (rv9 s n (s.M.map Mk.sm)))) (ex_and rfl s122 s127 rfl) hz (fun Yem zz kk s128 => ?_)
          replace s1 := ku s1
          replace s2 := ku s2
          replace s7 := ku s7
          replace s8 := ku s8
          replace s11 := ku s11
          replace s12 := ku s12
          replace hz := zz
          clear kk zz s122 s127 Yel
          refine vt _ (ex_move rfl (ev s128 rfl)) hz (fun Yen zz kk s129 => ?_)
          replace s1 := ku s1
          replace s2 := ku s2
          replace s7 := ku s7
          replace s8 := ku s8
          replace s11 := ku s11
          replace s12 := ku s12
          replace hz := zz
          clear kk zz s128 Yem
          refine vl _ (s.val) (want_g rfl rfl s129) (fun hc => ex_ld rfl (ev s2 rfl) (SB7.ld (HS.bel hx42))) rfl hz (by decide) (fun Yeo zz kk s130 => ?_)
          replace s1 := ku s1
          replace s2 := ku s2
          replace s7 := ku s7
          replace s8 := ku s8
          replace s11 := ku s11
          replace s12 := ku s12
          replace s129 := ku s129
          replace hz := zz
          clear kk zz Yen
          refine vl _ _ (want_g rfl rfl s129) (fun hc => ex_move rfl (ev s1 rfl)) rfl hz (by decide) (fun Yep zz kk s131 => ?_)
          replace s1 := ku s1
          replace s2 := ku s2
          replace s7 := ku s7
          replace s8 := ku s8
          replace s11 := ku s11
          replace s12 := ku s12
          replace s129 := ku s129
          replace s130 := ku s130
          replace hz := zz
          clear kk zz Yeo
          refine vl _ _ (want_g rfl rfl s129) (fun hc => ex_move rfl (ev s7 rfl)) rfl hz (by decide) (fun Yeq zz kk s132 => ?_)
          replace s1 := ku s1
          replace s2 := ku s2
          replace s8 := ku s8
          replace s11 := ku s11
          replace s12 := ku s12
          replace s129 := ku s129
          replace s130 := ku s130
          replace s131 := ku s131
          replace hz := zz
          clear kk zz s7 Yep
          refine vl _ _ (want_g rfl rfl s129) (fun hc => ex_move rfl (ev s11 rfl)) rfl hz (by decide) (fun Yer zz kk s133 => ?_)
          replace s1 := ku s1
          replace s2 := ku s2
          replace s8 := ku s8
          replace s12 := ku s12
          replace s129 := ku s129
          replace s130 := ku s130
          replace s131 := ku s131
          replace s132 := ku s132
          replace hz := zz
          clear kk zz s11 Yeq
          refine vcall (true && (((rv9 s n (s.A.map Ak.sm)) && (rv9 s n (s.M.map Mk.sm))) == true)) (.bool (rv9 s n (s.B.map Bl.sm))) (want_g rfl rfl s129) (fun hc => ex_call rfl (by simp only [List.map_toArray, List.map_cons, List.map_nil, (ev s130 hc), (ev s131 hc), (ev s132 hc), (ev s133 hc), evc] <;> rfl) rfl) (fun hc => rvoters9' s n (s.B.map Bl.sm) nBl dBl mBl eBl s.B.length (List.length_map _) x42 (hI.later (hB.trans (hx42.mono hz1))) hn hn1 (by rw [List.map_map]; exact pNBl.later hx42) (by rw [List.map_map]; exact pDBl.later hx42)) rfl hz (by decide) (fun Yes x43 hb zz kk s134 => ?_)
          have hx43 := hx42.trans (hb.mono hx42.size)
          clear hb
          replace s1 := ku s1
          replace s2 := ku s2
          replace s8 := ku s8
          replace s12 := ku s12
          replace s129 := ku s129
          replace hz := zz
          clear kk zz s130 s131 s132 s133 Yer
          refine vt (.bool (((rv9 s n (s.A.map Ak.sm)) && (rv9 s n (s.M.map Mk.sm))) && (rv9 s n (s.B.map Bl.sm)))) (ex_and rfl s129 s134 rfl) hz (fun Yet zz kk s135 => ?_)
          replace s1 := ku s1
          replace s2 := ku s2
          replace s8 := ku s8
          replace s12 := ku s12
          replace hz := zz
          clear kk zz s129 s134 Yes
          refine vt _ (ex_move rfl (ev s135 rfl)) hz (fun Yeu zz kk s136 => ?_)
          replace s1 := ku s1
          replace s2 := ku s2
          replace s8 := ku s8
          replace s12 := ku s12
          replace hz := zz
          clear kk zz s135 Yet
          refine vl _ (s.val) (want_g rfl rfl s136) (fun hc => ex_ld rfl (ev s2 rfl) (SB7.ld (HS.bel hx43))) rfl hz (by decide) (fun Yev zz kk s137 => ?_)
          replace s1 := ku s1
          replace s8 := ku s8
          replace s12 := ku s12
          replace s136 := ku s136
          replace hz := zz
          clear kk zz s2 Yeu
          refine vl _ _ (want_g rfl rfl s136) (fun hc => ex_move rfl (ev s1 rfl)) rfl hz (by decide) (fun Yew zz kk s138 => ?_)
          replace s8 := ku s8
          replace s12 := ku s12
          replace s136 := ku s136
          replace s137 := ku s137
          replace hz := zz
          clear kk zz s1 Yev
          refine vl _ _ (want_g rfl rfl s136) (fun hc => ex_move rfl (ev s8 rfl)) rfl hz (by decide) (fun Yex zz kk s139 => ?_)
          replace s12 := ku s12
          replace s136 := ku s136
          replace s137 := ku s137
          replace s138 := ku s138
          replace hz := zz
          clear kk zz s8 Yew
          refine vl _ _ (want_g rfl rfl s136) (fun hc => ex_move rfl (ev s12 rfl)) rfl hz (by decide) (fun Yey zz kk s140 => ?_)
          replace s136 := ku s136
          replace s137 := ku s137
          replace s138 := ku s138
          replace s139 := ku s139
          replace hz := zz
          clear kk zz s12 Yex
          refine vcall (true && ((((rv9 s n (s.A.map Ak.sm)) && (rv9 s n (s.M.map Mk.sm))) && (rv9 s n (s.B.map Bl.sm))) == true)) (.bool (rv9 s n (s.N.map An.sm))) (want_g rfl rfl s136) (fun hc => ex_call rfl (by simp only [List.map_toArray, List.map_cons, List.map_nil, (ev s137 hc), (ev s138 hc), (ev s139 hc), (ev s140 hc), evc] <;> rfl) rfl) (fun hc => rvoters9' s n (s.N.map An.sm) nAn dAn mAn eAn s.N.length (List.length_map _) x43 (hI.later (hB.trans (hx43.mono hz1))) hn hn1 (by rw [List.map_map]; exact pNAn.later hx43) (by rw [List.map_map]; exact pDAn.later hx43)) rfl hz (by decide) (fun Yez x44 hb zz kk s141 => ?_)
          have hx44 := hx43.trans (hb.mono hx43.size)
          clear hb
          replace s136 := ku s136
          replace hz := zz
          clear kk zz s137 s138 s139 s140 Yey
          refine vt (.bool ((((rv9 s n (s.A.map Ak.sm)) && (rv9 s n (s.M.map Mk.sm))) && (rv9 s n (s.B.map Bl.sm))) && (rv9 s n (s.N.map An.sm)))) (ex_and rfl s136 s141 rfl) hz (fun Ye0 zz kk s142 => ?_)
          replace hz := zz
          clear kk zz s136 s141 Yez
          refine vt _ (ex_assign rfl (ev s142 rfl)) hz (fun Ye1 zz kk s4 => ?_)
          replace hz := zz
          clear kk zz s142 Ye0
          refine wpList_nil ?_
          go_wp2
          refine bodyPost_ret (results_tmp rfl _ _ _) rfl ⟨?_, hB.trans (hx44.mono (by omega))⟩
          rw [getD_of s4]
          rfl
end Go.Proofs.YtphdnmamopgelaaGreat
