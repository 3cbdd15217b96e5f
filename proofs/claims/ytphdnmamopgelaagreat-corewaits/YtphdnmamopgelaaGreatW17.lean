import Derived.Test.YtphdnmamopgelaaGreatW16
set_option maxRecDepth 100000
set_option linter.unusedVariables false
set_option linter.unusedSimpArgs false
namespace Go.Proofs.YtphdnmamopgelaaGreat
open Go.RowKit Go.Maps Go.Shelf
open Classical
def yS9 : Lay Sta := ⟨33, 38, 12, 192, Sta.cs, zS8⟩
theorem faG0 (q : Nat) (w : World) : (Instr.fieldAt 40 (.pointer (some ⟨q, 0, none⟩)) 0).run Tryz.prog w = .ok (.pointer (some ⟨q, 0, none⟩)) w := by go_simp
theorem faG2 (q : Nat) (w : World) : (Instr.fieldAt 40 (.pointer (some ⟨q, 0, none⟩)) 2).run Tryz.prog w = .ok (.pointer (some ⟨q, 2, none⟩)) w := by go_simp
theorem faG3 (q : Nat) (w : World) : (Instr.fieldAt 40 (.pointer (some ⟨q, 0, none⟩)) 3).run Tryz.prog w = .ok (.pointer (some ⟨q, 3, none⟩)) w := by go_simp
theorem faG4 (q : Nat) (w : World) : (Instr.fieldAt 40 (.pointer (some ⟨q, 0, none⟩)) 4).run Tryz.prog w = .ok (.pointer (some ⟨q, 4, none⟩)) w := by go_simp
theorem faG5 (q : Nat) (w : World) : (Instr.fieldAt 40 (.pointer (some ⟨q, 0, none⟩)) 5).run Tryz.prog w = .ok (.pointer (some ⟨q, 5, none⟩)) w := by go_simp
theorem faG6 (q : Nat) (w : World) : (Instr.fieldAt 40 (.pointer (some ⟨q, 0, none⟩)) 6).run Tryz.prog w = .ok (.pointer (some ⟨q, 6, none⟩)) w := by go_simp
theorem faG8 (q : Nat) (w : World) : (Instr.fieldAt 40 (.pointer (some ⟨q, 0, none⟩)) 8).run Tryz.prog w = .ok (.pointer (some ⟨q, 8, none⟩)) w := by go_simp
theorem faG9 (q : Nat) (w : World) : (Instr.fieldAt 40 (.pointer (some ⟨q, 0, none⟩)) 9).run Tryz.prog w = .ok (.pointer (some ⟨q, 9, none⟩)) w := by go_simp
theorem ldG0 {w : World} {q i : Nat} {a : Option Addr} {n c : Nat} (h : w.cell? ⟨q, i, none⟩ = some (.slice a n c)) : (Instr.loadAt 34 (.pointer (some ⟨q, i, none⟩))).run Tryz.prog w = .ok (.slice a n c) w := by go_simp
theorem ex_lenG0 {o : Oper} {ρ : Operand → Value} {i : Nat} {a : Option Addr} {n k : Nat} {w : World} (ho : o.op = .call { callee := .builtin .len, args := #[.tmp i], argTypes := #[34] }) (ht : o.type = 3) (hx : ρ (.tmp i) = .slice a n k) : (execOp ρ o).run Tryz.prog w = .ok (.value (.int .i64 (n : Int))) w := by
  unfold execOp
  simp only [ho, resolve, invoke, builtin, Sem.run_bind, Sem.run_pure, Result.andThen_ok, List.map_toArray, List.map_cons, List.map_nil, hx, ht]
  go_simp
theorem ldG2 {w : World} {q i : Nat} {a : Option Addr} {n c : Nat} (h : w.cell? ⟨q, i, none⟩ = some (.slice a n c)) : (Instr.loadAt 35 (.pointer (some ⟨q, i, none⟩))).run Tryz.prog w = .ok (.slice a n c) w := by go_simp
theorem ex_lenG2 {o : Oper} {ρ : Operand → Value} {i : Nat} {a : Option Addr} {n k : Nat} {w : World} (ho : o.op = .call { callee := .builtin .len, args := #[.tmp i], argTypes := #[35] }) (ht : o.type = 3) (hx : ρ (.tmp i) = .slice a n k) : (execOp ρ o).run Tryz.prog w = .ok (.value (.int .i64 (n : Int))) w := by
  unfold execOp
  simp only [ho, resolve, invoke, builtin, Sem.run_bind, Sem.run_pure, Result.andThen_ok, List.map_toArray, List.map_cons, List.map_nil, hx, ht]
  go_simp
theorem ldG4 {w : World} {q i : Nat} {a : Option Addr} {n c : Nat} (h : w.cell? ⟨q, i, none⟩ = some (.slice a n c)) : (Instr.loadAt 36 (.pointer (some ⟨q, i, none⟩))).run Tryz.prog w = .ok (.slice a n c) w := by go_simp
theorem ex_lenG4 {o : Oper} {ρ : Operand → Value} {i : Nat} {a : Option Addr} {n k : Nat} {w : World} (ho : o.op = .call { callee := .builtin .len, args := #[.tmp i], argTypes := #[36] }) (ht : o.type = 3) (hx : ρ (.tmp i) = .slice a n k) : (execOp ρ o).run Tryz.prog w = .ok (.value (.int .i64 (n : Int))) w := by
  unfold execOp
  simp only [ho, resolve, invoke, builtin, Sem.run_bind, Sem.run_pure, Result.andThen_ok, List.map_toArray, List.map_cons, List.map_nil, hx, ht]
  go_simp
theorem ldG6 {w : World} {q i : Nat} {a : Option Addr} {n c : Nat} (h : w.cell? ⟨q, i, none⟩ = some (.slice a n c)) : (Instr.loadAt 37 (.pointer (some ⟨q, i, none⟩))).run Tryz.prog w = .ok (.slice a n c) w := by go_simp
theorem ex_lenG6 {o : Oper} {ρ : Operand → Value} {i : Nat} {a : Option Addr} {n k : Nat} {w : World} (ho : o.op = .call { callee := .builtin .len, args := #[.tmp i], argTypes := #[37] }) (ht : o.type = 3) (hx : ρ (.tmp i) = .slice a n k) : (execOp ρ o).run Tryz.prog w = .ok (.value (.int .i64 (n : Int))) w := by
  unfold execOp
  simp only [ho, resolve, invoke, builtin, Sem.run_bind, Sem.run_pure, Result.andThen_ok, List.map_toArray, List.map_cons, List.map_nil, hx, ht]
  go_simp
theorem ldG8 {w : World} {q i : Nat} {a : Option Addr} {n c : Nat} (h : w.cell? ⟨q, i, none⟩ = some (.slice a n c)) : (Instr.loadAt 38 (.pointer (some ⟨q, i, none⟩))).run Tryz.prog w = .ok (.slice a n c) w := by go_simp
theorem ex_lenG8 {o : Oper} {ρ : Operand → Value} {i : Nat} {a : Option Addr} {n k : Nat} {w : World} (ho : o.op = .call { callee := .builtin .len, args := #[.tmp i], argTypes := #[38] }) (ht : o.type = 3) (hx : ρ (.tmp i) = .slice a n k) : (execOp ρ o).run Tryz.prog w = .ok (.value (.int .i64 (n : Int))) w := by
  unfold execOp
  simp only [ho, resolve, invoke, builtin, Sem.run_bind, Sem.run_pure, Result.andThen_ok, List.map_toArray, List.map_cons, List.map_nil, hx, ht]
  go_simp
theorem ixG2 (q o n c i : Nat) (hi : i < n) (w : World) : (Instr.indexAt 35 (.slice (some ⟨q, o, none⟩) n c) (.int .i64 (i : Int))).run Tryz.prog w = .ok (.pointer (some ⟨q, o + i * 1, none⟩)) w := by
  have h1 : (i : Int) < (n : Int) := by omega
  go_simp
theorem ixG4 (q o n c i : Nat) (hi : i < n) (w : World) : (Instr.indexAt 36 (.slice (some ⟨q, o, none⟩) n c) (.int .i64 (i : Int))).run Tryz.prog w = .ok (.pointer (some ⟨q, o + i * 1, none⟩)) w := by
  have h1 : (i : Int) < (n : Int) := by omega
  go_simp
theorem ixG8 (q o n c i : Nat) (hi : i < n) (w : World) : (Instr.indexAt 38 (.slice (some ⟨q, o, none⟩) n c) (.int .i64 (i : Int))).run Tryz.prog w = .ok (.pointer (some ⟨q, o + i * 12, none⟩)) w := by
  have h1 : (i : Int) < (n : Int) := by omega
  go_simp
theorem ldS9 {w : World} {q o : Nat} {s : Sta} (h : ∀ k u, s.cs[k]? = some u → w.cell? ⟨q, o + k, none⟩ = some u) : (Instr.loadAt 33 (.pointer (some ⟨q, o, none⟩))).run Tryz.prog w = .ok s.val w := by
  have h0 := h 0 _ rfl
  have h1 := h 1 _ rfl
  have h2 := h 2 _ rfl
  have h3 := h 3 _ rfl
  have h4 := h 4 _ rfl
  have h5 := h 5 _ rfl
  have h6 := h 6 _ rfl
  have h7 := h 7 _ rfl
  have h8 := h 8 _ rfl
  have h9 := h 9 _ rfl
  have h10 := h 10 _ rfl
  have h11 := h 11 _ rfl
  rw [Nat.add_zero] at h0
  unfold Sta.val
  clear h
  go_simp
  first | done | rfl
structure GS9 (w : World) (b : Nat) (Sa Sb : List Sta) (Da Db : List (SV (Int × Int))) (La Lb : List (SV En)) : Prop where
  c0 : w.cell? ⟨b, 0, none⟩ = some (.slice none 0 0)
  c6 : w.cell? ⟨b, 6, none⟩ = some (.slice none 0 0)
  c2 : ∃ a c, w.cell? ⟨b, 2, none⟩ = some (.slice a Da.length c) ∧ SlY zD w a Da.length c Da
  c3 : ∃ a c, w.cell? ⟨b, 3, none⟩ = some (.slice a Db.length c) ∧ SlY zD w a Db.length c Db
  c4 : ∃ a c, w.cell? ⟨b, 4, none⟩ = some (.slice a La.length c) ∧ SlY zE w a La.length c La
  c5 : ∃ a c, w.cell? ⟨b, 5, none⟩ = some (.slice a Lb.length c) ∧ SlY zE w a Lb.length c Lb
  c8 : ∃ a c, w.cell? ⟨b, 8, none⟩ = some (.slice a Sa.length c) ∧ SlY yS9 w a Sa.length c Sa
  c9 : ∃ a c, w.cell? ⟨b, 9, none⟩ = some (.slice a Sb.length c) ∧ SlY yS9 w a Sb.length c Sb
  m2 : ∀ x ∈ Da, SlY yD w x.a x.D.length x.c x.D
  m3 : ∀ x ∈ Db, SlY yD w x.a x.D.length x.c x.D
  m4 : ∀ x ∈ La, SlY yE w x.a x.D.length x.c x.D
  m5 : ∀ x ∈ Lb, SlY yE w x.a x.D.length x.c x.D
  m8 : ∀ x ∈ Sa, x.In w
  m9 : ∀ x ∈ Sb, x.In w
  len2 : Db.length = Da.length
  len4 : Lb.length = La.length
  len8 : Sb.length = Sa.length
  eq2 : ∀ (i : Nat) (x y : SV (Int × Int)), Da[i]? = some x → Db[i]? = some y → x.D = y.D
  eq4 : ∀ (i : Nat) (x y : SV En), La[i]? = some x → Lb[i]? = some y → x.D = y.D
  eq8 : ∀ (i : Nat) (x y : Sta), Sa[i]? = some x → Sb[i]? = some y → x.Alike9 y
theorem GS9.later0 {w w' : World} {b : Nat} {Sa Sb : List Sta} {Da Db : List (SV (Int × Int))} {La Lb : List (SV En)} (h : GS9 w b Sa Sb Da Db La Lb) (hb : Below w.heap.size w w') : GS9 w' b Sa Sb Da Db La Lb := by
  refine ⟨cell8 h.c0 hb, cell8 h.c6 hb, ?_, ?_, ?_, ?_, ?_, ?_, fun x hx => (h.m2 x hx).later hb, fun x hx => (h.m3 x hx).later hb, fun x hx => (h.m4 x hx).later hb, fun x hx => (h.m5 x hx).later hb, fun x hx => (h.m8 x hx).later hb, fun x hx => (h.m9 x hx).later hb, h.len2, h.len4, h.len8, h.eq2, h.eq4, h.eq8⟩
  · obtain ⟨a, c, e, s⟩ := h.c2; exact ⟨a, c, cell8 e hb, s.later hb⟩
  · obtain ⟨a, c, e, s⟩ := h.c3; exact ⟨a, c, cell8 e hb, s.later hb⟩
  · obtain ⟨a, c, e, s⟩ := h.c4; exact ⟨a, c, cell8 e hb, s.later hb⟩
  · obtain ⟨a, c, e, s⟩ := h.c5; exact ⟨a, c, cell8 e hb, s.later hb⟩
  · obtain ⟨a, c, e, s⟩ := h.c8; exact ⟨a, c, cell8 e hb, s.later hb⟩
  · obtain ⟨a, c, e, s⟩ := h.c9; exact ⟨a, c, cell8 e hb, s.later hb⟩
set_option maxHeartbeats 1000000 in
theorem intact9 (b : Nat) (Sa Sb : List Sta) (Da Db : List (SV (Int × Int))) (La Lb : List (SV En)) (w : World) (G : GS9 w b Sa Sb Da Db La Lb) : Calls Tryz.prog 9 #[.pointer (some ⟨b, 0, none⟩)] w fun e w' => e = .returned (.bool true) ∧ Below w.heap.size w w' := by
  go_enter Tryz.func9, Tryz.ntmps9
  go_upto_region 0 with fail
  refine wp_region_lit ?_
  refine vl_gen (fun T => T.size = 133 ∧ T[0]? = some (gw true (.pointer (some ⟨b, 0, none⟩)))) ⟨rfl, rfl⟩ (fun Z0 ⟨hz, s0⟩ => ?_)
  have hB : Below w.heap.size w w := Below.refl _ _
  have hv0 : Below w.heap.size w w := Below.refl _ _
  refine vt (.bool false) (ex_assign rfl rfl) hz (fun Ya zz kk s2 => ?_)
  replace s0 := ku s0
  replace hz := zz
  clear kk zz
  refine wpList_nil ?_
  go_upto_region 1 with fail
  refine wp_region_lit ?_
  refine vt (.int .i64 0) (ex_assign rfl rfl) hz (fun Yb zz kk s3 => ?_)
  replace s0 := ku s0
  replace s2 := ku s2
  replace hz := zz
  clear kk zz
  refine wpList_nil ?_
  have hsv : _ = some (gw true (.int .i64 ((0 : Nat) : Int))) := s3
  go_upto_region 2 with fail
  refine v_loop 3 0 (fun i T wr => T.size = 133 ∧ T[0]? = some (gw true (.pointer (some ⟨b, 0, none⟩))) ∧ T[2]? = some (gw true (.bool false)) ∧ T[3]? = some (gw true (.int .i64 (i : Int))) ∧ Hid (Below w.heap.size w wr)) (fun i T w h => h.2.2.2.1) ⟨hz, s0, s2, hsv, hB.trans (hv0.mono hB.size)⟩ ?_
  clear hz s0 s2 s3 hsv hB hv0
  intro i R3 wr hi hh
  obtain ⟨hz, s0, s2, s3, hBr⟩ := hh
  have hB : Below w.heap.size w wr := hBr.out
  clear hBr
  have hzr := hB.size
  have GR := G.later0 hB
  have hv0 : Below wr.heap.size wr wr := Below.refl _ _
  have d1 : decide ((i : Int) < ((0 : Nat) : Int)) = false := decide_eq_false (by omega)
  go_upto_region 2 with fail
  refine wp_region_lit ?_
  refine vt _ (ex_move rfl (ev s3 rfl)) hz (fun Yc zz kk s8 => ?_)
  replace s0 := ku s0
  replace s2 := ku s2
  replace hz := zz
  clear kk zz s3
  refine vt _ (ex_move rfl (ev s0 rfl)) hz (fun Yd zz kk s9 => ?_)
  replace s0 := ku s0
  replace s2 := ku s2
  replace s8 := ku s8
  replace hz := zz
  clear kk zz Yc
  refine vt (.pointer (some ⟨b, 0, none⟩)) (ex_nil rfl (ev s9 rfl)) hz (fun Ye zz kk s10 => ?_)
  replace s0 := ku s0
  replace s2 := ku s2
  replace s8 := ku s8
  replace hz := zz
  clear kk zz s9 Yd
  refine vt (.pointer (some ⟨b, 0, none⟩)) (ex_fa rfl (ev s10 rfl) (faG0 _ _)) hz (fun Yf zz kk s11 => ?_)
  replace s0 := ku s0
  replace s2 := ku s2
  replace s8 := ku s8
  replace hz := zz
  clear kk zz s10 Ye
  refine vt (.slice none 0 0) (ex_ld rfl (ev s11 rfl) (ldG0 (cell8 GR.c0 hv0))) hz (fun Yg zz kk s12 => ?_)
  replace s0 := ku s0
  replace s2 := ku s2
  replace s8 := ku s8
  replace hz := zz
  clear kk zz s11 Yf
  refine vt (.int .i64 ((0 : Nat) : Int)) (ex_lenG0 rfl rfl (ev s12 rfl)) hz (fun Yh zz kk s13 => ?_)
  replace s0 := ku s0
  replace s2 := ku s2
  replace s8 := ku s8
  replace hz := zz
  clear kk zz s12 Yg
  refine vt (.bool false) (ex_bin rfl (ev s8 rfl) (ev s13 rfl) (lssD8 _ _ _ _ false d1 _)) hz (fun Yi zz kk s14 => ?_)
  replace s0 := ku s0
  replace s2 := ku s2
  replace hz := zz
  clear kk zz s8 s13 Yh
  refine wpList_nil ?_
  go_upto_region 6 with fail
  refine wp_cond_false ((ev s14 rfl).trans rfl) ?_
  clear s14 d1
  clear GR
  obtain ⟨u3, hu3⟩ : ∃ v, v = wr := ⟨_, rfl⟩
  rw [← hu3] at hB hv0 hzr ⊢
  clear hu3 hi
  go_upto_region 6 with fail
  refine wp_region_lit ?_
  refine vt (.int .i64 0) (ex_assign rfl rfl) hz (fun Yj zz kk s4 => ?_)
  replace s0 := ku s0
  replace s2 := ku s2
  replace hz := zz
  clear kk zz
  refine wpList_nil ?_
  have hsv : _ = some (gw true (.int .i64 ((0 : Nat) : Int))) := s4
  go_upto_region 7 with fail
  refine v_loop 4 Sa.length (fun i T wr => T.size = 133 ∧ T[0]? = some (gw true (.pointer (some ⟨b, 0, none⟩))) ∧ T[2]? = some (gw true (.bool false)) ∧ T[4]? = some (gw true (.int .i64 (i : Int))) ∧ Hid (Below w.heap.size w wr)) (fun i T w h => h.2.2.2.1) ⟨hz, s0, s2, hsv, hB.trans (hv0.mono hB.size)⟩ ?_
  clear hz s0 s2 s4 hsv hB hv0
  intro i R4 wr hi hh
  obtain ⟨hz, s0, s2, s4, hBr⟩ := hh
  have hB : Below w.heap.size w wr := hBr.out
  clear hBr
  have hzr := hB.size
  have GR := G.later0 hB
  have hv0 : Below wr.heap.size wr wr := Below.refl _ _
  obtain ⟨aA, cA, hcA, hsA⟩ := GR.c8
  obtain ⟨aB, cB, hcB, hsB⟩ := GR.c9
  have mA := hsA.max
  have mA2 := hsA.cap
  unfold maxLen at mA
  by_cases hit : i < Sa.length
  · have d1 : decide ((i : Int) < (Sa.length : Int)) = true := decide_eq_true (by omega)
    go_upto_region 7 with fail
    refine wp_region_lit ?_
    refine vt _ (ex_move rfl (ev s4 rfl)) hz (fun Yk zz kk s33 => ?_)
    replace s0 := ku s0
    replace s2 := ku s2
    replace s4 := ku s4
    replace hz := zz
    clear kk zz
    refine vt _ (ex_move rfl (ev s0 rfl)) hz (fun Yl zz kk s34 => ?_)
    replace s0 := ku s0
    replace s2 := ku s2
    replace s4 := ku s4
    replace s33 := ku s33
    replace hz := zz
    clear kk zz Yk
    refine vt (.pointer (some ⟨b, 0, none⟩)) (ex_nil rfl (ev s34 rfl)) hz (fun Ym zz kk s35 => ?_)
    replace s0 := ku s0
    replace s2 := ku s2
    replace s4 := ku s4
    replace s33 := ku s33
    replace hz := zz
    clear kk zz s34 Yl
    refine vt (.pointer (some ⟨b, 8, none⟩)) (ex_fa rfl (ev s35 rfl) (faG8 _ _)) hz (fun Yn zz kk s36 => ?_)
    replace s0 := ku s0
    replace s2 := ku s2
    replace s4 := ku s4
    replace s33 := ku s33
    replace hz := zz
    clear kk zz s35 Ym
    refine vl true (.slice aA Sa.length cA) (want_none rfl) (fun hc => ex_ld rfl (ev s36 rfl) (ldG8 (cell8 hcA hv0))) rfl hz (by decide) (fun Yo zz kk s37 => ?_)
    replace s0 := ku s0
    replace s2 := ku s2
    replace s4 := ku s4
    replace s33 := ku s33
    replace hz := zz
    clear kk zz s36 Yn
    refine vt (.int .i64 (Sa.length : Int)) (ex_lenG8 rfl rfl (ev s37 rfl)) hz (fun Yp zz kk s38 => ?_)
    replace s0 := ku s0
    replace s2 := ku s2
    replace s4 := ku s4
    replace s33 := ku s33
    replace hz := zz
    clear kk zz s37 Yo
    refine vt (.bool true) (ex_bin rfl (ev s33 rfl) (ev s38 rfl) (lssD8 _ _ _ _ true d1 _)) hz (fun Yq zz kk s39 => ?_)
    replace s0 := ku s0
    replace s2 := ku s2
    replace s4 := ku s4
    replace hz := zz
    clear kk zz s33 s38 Yp
    refine wpList_nil ?_
    go_upto_region 9 with fail
    refine wp_cond_true ((ev s39 rfl).trans rfl) ?_
    clear s39 d1
    obtain ⟨x, hx⟩ : ∃ x, Sa[i]? = some x := ⟨_, List.getElem?_eq_getElem hit⟩
    have hlB : Sb.length = Sa.length := G.len8
    have hitB : i < Sb.length := by omega
    obtain ⟨y, hy⟩ : ∃ y, Sb[i]? = some y := ⟨_, List.getElem?_eq_getElem hitB⟩
    have mx := List.mem_of_getElem? hx
    have my := List.mem_of_getElem? hy
    have hxy := G.eq8 i x y hx hy
    have sx := GR.m8 x mx
    have sy := GR.m9 y my
    obtain ⟨qA, oA, rfl, hqA, hlA⟩ := hsA.place (by intro e; rw [e] at hit; simp at hit)
    obtain ⟨qB, oB, rfl, hqB, hlB2⟩ := hsB.place (by intro e; rw [e] at hitB; simp at hitB)
    go_upto_region 9 with fail
    refine vq_start (C := fun v => Below wr.heap.size wr v) (by kernel_rfl) (by kernel_rfl) hv0.drew ?_
    refine vq true _ (want_none rfl) (fun hc v hv => ex_move rfl (ev s0 rfl)) rfl hz (by decide) (fun Yr zz kk s42 => ?_)
    replace s0 := ku s0
    replace s2 := ku s2
    replace s4 := ku s4
    replace hz := zz
    clear kk zz
    refine vq true (.pointer (some ⟨b, 0, none⟩)) (want_none rfl) (fun hc v hv => ex_nil rfl (ev s42 rfl)) rfl hz (by decide) (fun Ys zz kk s43 => ?_)
    replace s0 := ku s0
    replace s2 := ku s2
    replace s4 := ku s4
    replace hz := zz
    clear kk zz s42 Yr
    refine vq true (.pointer (some ⟨b, 8, none⟩)) (want_none rfl) (fun hc v hv => ex_fa rfl (ev s43 rfl) (faG8 _ _)) rfl hz (by decide) (fun Yt zz kk s44 => ?_)
    replace s0 := ku s0
    replace s2 := ku s2
    replace s4 := ku s4
    replace hz := zz
    clear kk zz s43 Ys
    refine vq true (.slice (some ⟨qA, oA, none⟩) Sa.length cA) (want_none rfl) (fun hc v hv => ex_ld rfl (ev s44 rfl) (ldG8 (cell8 hcA hv))) rfl hz (by decide) (fun Yu zz kk s45 => ?_)
    replace s0 := ku s0
    replace s2 := ku s2
    replace s4 := ku s4
    replace hz := zz
    clear kk zz s44 Yt
    refine vq true _ (want_none rfl) (fun hc v hv => ex_move rfl (ev s4 rfl)) rfl hz (by decide) (fun Yv zz kk s46 => ?_)
    replace s0 := ku s0
    replace s2 := ku s2
    replace s4 := ku s4
    replace s45 := ku s45
    replace hz := zz
    clear kk zz Yu
    refine vq true (.pointer (some ⟨qA, oA + i * 12, none⟩)) (want_none rfl) (fun hc v hv => ex_ix rfl (ev s45 rfl) (ev s46 rfl) (ixG8 qA oA Sa.length cA i hit _)) rfl hz (by decide) (fun Yw zz kk s47 => ?_)
    replace s0 := ku s0
    replace s2 := ku s2
    replace s4 := ku s4
    replace hz := zz
    clear kk zz s45 s46 Yv
    refine vq true (x.val) (want_none rfl) (fun hc v hv => ex_ld rfl (ev s47 rfl) (ldS9 (fun k u hu => cell8 (hlA i x hx k u hu) hv))) rfl hz (by decide) (fun Yx zz kk s48 => ?_)
    replace s0 := ku s0
    replace s2 := ku s2
    replace s4 := ku s4
    replace hz := zz
    clear kk zz s47 Yw
    refine vq true _ (want_none rfl) (fun hc v hv => ex_move rfl (ev s0 rfl)) rfl hz (by decide) (fun Yy zz kk s49 => ?_)
    replace s0 := ku s0
    replace s2 := ku s2
    replace s4 := ku s4
    replace s48 := ku s48
    replace hz := zz
    clear kk zz Yx
    refine vq true (.pointer (some ⟨b, 0, none⟩)) (want_none rfl) (fun hc v hv => ex_nil rfl (ev s49 rfl)) rfl hz (by decide) (fun Yz zz kk s50 => ?_)
    replace s0 := ku s0
    replace s2 := ku s2
    replace s4 := ku s4
    replace s48 := ku s48
    replace hz := zz
    clear kk zz s49 Yy
    refine vq true (.pointer (some ⟨b, 9, none⟩)) (want_none rfl) (fun hc v hv => ex_fa rfl (ev s50 rfl) (faG9 _ _)) rfl hz (by decide) (fun Y0 zz kk s51 => ?_)
    replace s0 := ku s0
    replace s2 := ku s2
    replace s4 := ku s4
    replace s48 := ku s48
    replace hz := zz
    clear kk zz s50 Yz
    refine vq true (.slice (some ⟨qB, oB, none⟩) Sb.length cB) (want_none rfl) (fun hc v hv => ex_ld rfl (ev s51 rfl) (ldG8 (cell8 hcB hv))) rfl hz (by decide) (fun Y1 zz kk s52 => ?_)
    replace s0 := ku s0
    replace s2 := ku s2
    replace s4 := ku s4
    replace s48 := ku s48
    replace hz := zz
    clear kk zz s51 Y0
    refine vq true _ (want_none rfl) (fun hc v hv => ex_move rfl (ev s4 rfl)) rfl hz (by decide) (fun Y2 zz kk s53 => ?_)
    replace s0 := ku s0
    replace s2 := ku s2
    replace s4 := ku s4
    replace s48 := ku s48
    replace s52 := ku s52
    replace hz := zz
    clear kk zz Y1
    refine vq true (.pointer (some ⟨qB, oB + i * 12, none⟩)) (want_none rfl) (fun hc v hv => ex_ix rfl (ev s52 rfl) (ev s53 rfl) (ixG8 qB oB Sb.length cB i hitB _)) rfl hz (by decide) (fun Y3 zz kk s54 => ?_)
    replace s0 := ku s0
    replace s2 := ku s2
    replace s4 := ku s4
    replace s48 := ku s48
    replace hz := zz
    clear kk zz s52 s53 Y2
    refine vq true (y.val) (want_none rfl) (fun hc v hv => ex_ld rfl (ev s54 rfl) (ldS9 (fun k u hu => cell8 (hlB2 i y hy k u hu) hv))) rfl hz (by decide) (fun Y4 zz kk s55 => ?_)
    replace s0 := ku s0
    replace s2 := ku s2
    replace s4 := ku s4
    replace s48 := ku s48
    replace hz := zz
    clear kk zz s54 Y3
    refine vq_call true (.bool true) (want_none rfl) (fun hc v hv => ex_call rfl (by simp only [List.map_toArray, List.map_cons, List.map_nil, (ev s48 rfl), (ev s55 rfl), evc] <;> rfl) rfl) (fun hc v hv => (bel8 hv (samestate9 x y v (sx.later hv) (sy.later hv) hxy))) rfl hz (by decide) (fun Y5 zz kk s56 => ?_)
    replace s0 := ku s0
    replace s2 := ku s2
    replace s4 := ku s4
    replace hz := zz
    clear kk zz s48 s55 Y4
    refine vq true (.bool false) (want_none rfl) (fun hc v hv => ex_not rfl (ev s56 rfl)) rfl hz (by decide) (fun Y6 zz kk s57 => ?_)
    replace s0 := ku s0
    replace s2 := ku s2
    replace s4 := ku s4
    replace hz := zz
    clear kk zz s56 Y5
    refine vq_nil (fun x1 hx1 => ?_)
    go_upto_region 8 with fail
    refine wp_cond_false ((ev s57 rfl).trans rfl) ?_
    clear s57
    go_upto_region 8 with fail
    refine wp_region_lit ?_
    refine vt _ (ex_move rfl (ev s4 rfl)) hz (fun Y7 zz kk s40 => ?_)
    replace s0 := ku s0
    replace s2 := ku s2
    replace s4 := ku s4
    replace hz := zz
    clear kk zz
    refine vt (.int .i64 ((i + 1 : Nat) : Int)) (ex_bin rfl (ev s40 rfl) rfl (addD8 _ _ _ 1 ((i + 1 : Nat) : Int) (by rw [IntKind.wrap_i64]; omega) _)) hz (fun Y8 zz kk s41 => ?_)
    replace s0 := ku s0
    replace s2 := ku s2
    replace s4 := ku s4
    replace hz := zz
    clear kk zz s40 Y7
    refine vt _ (ex_assign rfl (ev s41 rfl)) hz (fun Y9 zz kk s4x => ?_)
    replace s0 := ku s0
    replace s2 := ku s2
    clear kk hz s41 s4
    have hz := zz
    have s4 := s4x
    clear zz s4x Y8
    refine wpList_nil ?_
    exact ⟨_, rfl, by omega, hz, s0, s2, s4, hB.trans (hx1.mono (by omega))⟩
  have d1 : decide ((i : Int) < (Sa.length : Int)) = false := decide_eq_false (by omega)
  go_upto_region 7 with fail
  refine wp_region_lit ?_
  refine vt _ (ex_move rfl (ev s4 rfl)) hz (fun Yba zz kk s33 => ?_)
  replace s0 := ku s0
  replace s2 := ku s2
  replace hz := zz
  clear kk zz s4
  refine vt _ (ex_move rfl (ev s0 rfl)) hz (fun Ybb zz kk s34 => ?_)
  replace s0 := ku s0
  replace s2 := ku s2
  replace s33 := ku s33
  replace hz := zz
  clear kk zz Yba
  refine vt (.pointer (some ⟨b, 0, none⟩)) (ex_nil rfl (ev s34 rfl)) hz (fun Ybc zz kk s35 => ?_)
  replace s0 := ku s0
  replace s2 := ku s2
  replace s33 := ku s33
  replace hz := zz
  clear kk zz s34 Ybb
  refine vt (.pointer (some ⟨b, 8, none⟩)) (ex_fa rfl (ev s35 rfl) (faG8 _ _)) hz (fun Ybd zz kk s36 => ?_)
  replace s0 := ku s0
  replace s2 := ku s2
  replace s33 := ku s33
  replace hz := zz
  clear kk zz s35 Ybc
  refine vl true (.slice aA Sa.length cA) (want_none rfl) (fun hc => ex_ld rfl (ev s36 rfl) (ldG8 (cell8 hcA hv0))) rfl hz (by decide) (fun Ybe zz kk s37 => ?_)
  replace s0 := ku s0
  replace s2 := ku s2
  replace s33 := ku s33
  replace hz := zz
  clear kk zz s36 Ybd
  refine vt (.int .i64 (Sa.length : Int)) (ex_lenG8 rfl rfl (ev s37 rfl)) hz (fun Ybf zz kk s38 => ?_)
  replace s0 := ku s0
  replace s2 := ku s2
  replace s33 := ku s33
  replace hz := zz
  clear kk zz s37 Ybe
  refine vt (.bool false) (ex_bin rfl (ev s33 rfl) (ev s38 rfl) (lssD8 _ _ _ _ false d1 _)) hz (fun Ybg zz kk s39 => ?_)
  replace s0 := ku s0
  replace s2 := ku s2
  replace hz := zz
  clear kk zz s33 s38 Ybf
  refine wpList_nil ?_
  go_upto_region 11 with fail
  refine wp_cond_false ((ev s39 rfl).trans rfl) ?_
  clear s39 d1
  clear GR hcA hsA hcB hsB mA mA2
  obtain ⟨u4, hu4⟩ : ∃ v, v = wr := ⟨_, rfl⟩
  rw [← hu4] at hB hv0 hzr ⊢
  clear hu4 hi
  go_upto_region 11 with fail
  refine wp_region_lit ?_
  refine vt (.int .i64 0) (ex_assign rfl rfl) hz (fun Ybh zz kk s5 => ?_)
  replace s0 := ku s0
  replace s2 := ku s2
  replace hz := zz
  clear kk zz
  refine wpList_nil ?_
  have hsv : _ = some (gw true (.int .i64 ((0 : Nat) : Int))) := s5
  go_upto_region 12 with fail
  refine v_loop 5 0 (fun i T wr => T.size = 133 ∧ T[0]? = some (gw true (.pointer (some ⟨b, 0, none⟩))) ∧ T[2]? = some (gw true (.bool false)) ∧ T[5]? = some (gw true (.int .i64 (i : Int))) ∧ Hid (Below w.heap.size w wr)) (fun i T w h => h.2.2.2.1) ⟨hz, s0, s2, hsv, hB.trans (hv0.mono hB.size)⟩ ?_
  clear hz s0 s2 s5 hsv hB hv0
  intro i R5 wr hi hh
  obtain ⟨hz, s0, s2, s5, hBr⟩ := hh
  have hB : Below w.heap.size w wr := hBr.out
  clear hBr
  have hzr := hB.size
  have GR := G.later0 hB
  have hv0 : Below wr.heap.size wr wr := Below.refl _ _
  have d1 : decide ((i : Int) < ((0 : Nat) : Int)) = false := decide_eq_false (by omega)
  go_upto_region 12 with fail
  refine wp_region_lit ?_
  refine vt _ (ex_move rfl (ev s5 rfl)) hz (fun Ybi zz kk s58 => ?_)
  replace s0 := ku s0
  replace s2 := ku s2
  replace hz := zz
  clear kk zz s5
  refine vt _ (ex_move rfl (ev s0 rfl)) hz (fun Ybj zz kk s59 => ?_)
  replace s0 := ku s0
  replace s2 := ku s2
  replace s58 := ku s58
  replace hz := zz
  clear kk zz Ybi
  refine vt (.pointer (some ⟨b, 0, none⟩)) (ex_nil rfl (ev s59 rfl)) hz (fun Ybk zz kk s60 => ?_)
  replace s0 := ku s0
  replace s2 := ku s2
  replace s58 := ku s58
  replace hz := zz
  clear kk zz s59 Ybj
  refine vt (.pointer (some ⟨b, 6, none⟩)) (ex_fa rfl (ev s60 rfl) (faG6 _ _)) hz (fun Ybl zz kk s61 => ?_)
  replace s0 := ku s0
  replace s2 := ku s2
  replace s58 := ku s58
  replace hz := zz
  clear kk zz s60 Ybk
  refine vt (.slice none 0 0) (ex_ld rfl (ev s61 rfl) (ldG6 (cell8 GR.c6 hv0))) hz (fun Ybm zz kk s62 => ?_)
  replace s0 := ku s0
  replace s2 := ku s2
  replace s58 := ku s58
  replace hz := zz
  clear kk zz s61 Ybl
  refine vt (.int .i64 ((0 : Nat) : Int)) (ex_lenG6 rfl rfl (ev s62 rfl)) hz (fun Ybn zz kk s63 => ?_)
  replace s0 := ku s0
  replace s2 := ku s2
  replace s58 := ku s58
  replace hz := zz
  clear kk zz s62 Ybm
  refine vt (.bool false) (ex_bin rfl (ev s58 rfl) (ev s63 rfl) (lssD8 _ _ _ _ false d1 _)) hz (fun Ybo zz kk s64 => ?_)
  replace s0 := ku s0
  replace s2 := ku s2
  replace hz := zz
  clear kk zz s58 s63 Ybn
  refine wpList_nil ?_
  go_upto_region 16 with fail
  refine wp_cond_false ((ev s64 rfl).trans rfl) ?_
  clear s64 d1
  clear GR
  obtain ⟨u5, hu5⟩ : ∃ v, v = wr := ⟨_, rfl⟩
  rw [← hu5] at hB hv0 hzr ⊢
  clear hu5 hi
  go_upto_region 16 with fail
  refine wp_region_lit ?_
  refine vt (.int .i64 0) (ex_assign rfl rfl) hz (fun Ybp zz kk s6 => ?_)
  replace s0 := ku s0
  replace s2 := ku s2
  replace hz := zz
  clear kk zz
  refine wpList_nil ?_
  have hsv : _ = some (gw true (.int .i64 ((0 : Nat) : Int))) := s6
  go_upto_region 17 with fail
  refine v_loop 6 Da.length (fun i T wr => T.size = 133 ∧ T[0]? = some (gw true (.pointer (some ⟨b, 0, none⟩))) ∧ T[2]? = some (gw true (.bool false)) ∧ T[6]? = some (gw true (.int .i64 (i : Int))) ∧ Hid (Below w.heap.size w wr)) (fun i T w h => h.2.2.2.1) ⟨hz, s0, s2, hsv, hB.trans (hv0.mono hB.size)⟩ ?_
  clear hz s0 s2 s6 hsv hB hv0
  intro i R6 wr hi hh
  obtain ⟨hz, s0, s2, s6, hBr⟩ := hh
  have hB : Below w.heap.size w wr := hBr.out
  clear hBr
  have hzr := hB.size
  have GR := G.later0 hB
  have hv0 : Below wr.heap.size wr wr := Below.refl _ _
  obtain ⟨aA, cA, hcA, hsA⟩ := GR.c2
  obtain ⟨aB, cB, hcB, hsB⟩ := GR.c3
  have mA := hsA.max
  have mA2 := hsA.cap
  unfold maxLen at mA
  by_cases hit : i < Da.length
  · have d1 : decide ((i : Int) < (Da.length : Int)) = true := decide_eq_true (by omega)
    go_upto_region 17 with fail
    refine wp_region_lit ?_
    refine vt _ (ex_move rfl (ev s6 rfl)) hz (fun Ybq zz kk s83 => ?_)
    replace s0 := ku s0
    replace s2 := ku s2
    replace s6 := ku s6
    replace hz := zz
    clear kk zz
    refine vt _ (ex_move rfl (ev s0 rfl)) hz (fun Ybr zz kk s84 => ?_)
    replace s0 := ku s0
    replace s2 := ku s2
    replace s6 := ku s6
    replace s83 := ku s83
    replace hz := zz
    clear kk zz Ybq
    refine vt (.pointer (some ⟨b, 0, none⟩)) (ex_nil rfl (ev s84 rfl)) hz (fun Ybs zz kk s85 => ?_)
    replace s0 := ku s0
    replace s2 := ku s2
    replace s6 := ku s6
    replace s83 := ku s83
    replace hz := zz
    clear kk zz s84 Ybr
    refine vt (.pointer (some ⟨b, 2, none⟩)) (ex_fa rfl (ev s85 rfl) (faG2 _ _)) hz (fun Ybt zz kk s86 => ?_)
    replace s0 := ku s0
    replace s2 := ku s2
    replace s6 := ku s6
    replace s83 := ku s83
    replace hz := zz
    clear kk zz s85 Ybs
    refine vl true (.slice aA Da.length cA) (want_none rfl) (fun hc => ex_ld rfl (ev s86 rfl) (ldG2 (cell8 hcA hv0))) rfl hz (by decide) (fun Ybu zz kk s87 => ?_)
    replace s0 := ku s0
    replace s2 := ku s2
    replace s6 := ku s6
    replace s83 := ku s83
    replace hz := zz
    clear kk zz s86 Ybt
    refine vt (.int .i64 (Da.length : Int)) (ex_lenG2 rfl rfl (ev s87 rfl)) hz (fun Ybv zz kk s88 => ?_)
    replace s0 := ku s0
    replace s2 := ku s2
    replace s6 := ku s6
    replace s83 := ku s83
    replace hz := zz
    clear kk zz s87 Ybu
    refine vt (.bool true) (ex_bin rfl (ev s83 rfl) (ev s88 rfl) (lssD8 _ _ _ _ true d1 _)) hz (fun Ybw zz kk s89 => ?_)
    replace s0 := ku s0
    replace s2 := ku s2
    replace s6 := ku s6
    replace hz := zz
    clear kk zz s83 s88 Ybv
    refine wpList_nil ?_
    go_upto_region 19 with fail
    refine wp_cond_true ((ev s89 rfl).trans rfl) ?_
    clear s89 d1
    obtain ⟨x, hx⟩ : ∃ x, Da[i]? = some x := ⟨_, List.getElem?_eq_getElem hit⟩
    have hlB : Db.length = Da.length := G.len2
    have hitB : i < Db.length := by omega
    obtain ⟨y, hy⟩ : ∃ y, Db[i]? = some y := ⟨_, List.getElem?_eq_getElem hitB⟩
    have mx := List.mem_of_getElem? hx
    have my := List.mem_of_getElem? hy
    have hxy := G.eq2 i x y hx hy
    have sx := GR.m2 x mx
    have sy := GR.m3 y my
    obtain ⟨qA, oA, rfl, hqA, hlA⟩ := hsA.place (by intro e; rw [e] at hit; simp at hit)
    obtain ⟨qB, oB, rfl, hqB, hlB2⟩ := hsB.place (by intro e; rw [e] at hitB; simp at hitB)
    go_upto_region 19 with fail
    refine vq_start (C := fun v => Below wr.heap.size wr v) (by kernel_rfl) (by kernel_rfl) hv0.drew ?_
    refine vq true _ (want_none rfl) (fun hc v hv => ex_move rfl (ev s0 rfl)) rfl hz (by decide) (fun Ybx zz kk s92 => ?_)
    replace s0 := ku s0
    replace s2 := ku s2
    replace s6 := ku s6
    replace hz := zz
    clear kk zz
    refine vq true (.pointer (some ⟨b, 0, none⟩)) (want_none rfl) (fun hc v hv => ex_nil rfl (ev s92 rfl)) rfl hz (by decide) (fun Yby zz kk s93 => ?_)
    replace s0 := ku s0
    replace s2 := ku s2
    replace s6 := ku s6
    replace hz := zz
    clear kk zz s92 Ybx
    refine vq true (.pointer (some ⟨b, 2, none⟩)) (want_none rfl) (fun hc v hv => ex_fa rfl (ev s93 rfl) (faG2 _ _)) rfl hz (by decide) (fun Ybz zz kk s94 => ?_)
    replace s0 := ku s0
    replace s2 := ku s2
    replace s6 := ku s6
    replace hz := zz
    clear kk zz s93 Yby
    refine vq true (.slice (some ⟨qA, oA, none⟩) Da.length cA) (want_none rfl) (fun hc v hv => ex_ld rfl (ev s94 rfl) (ldG2 (cell8 hcA hv))) rfl hz (by decide) (fun Yb0 zz kk s95 => ?_)
    replace s0 := ku s0
    replace s2 := ku s2
    replace s6 := ku s6
    replace hz := zz
    clear kk zz s94 Ybz
    refine vq true _ (want_none rfl) (fun hc v hv => ex_move rfl (ev s6 rfl)) rfl hz (by decide) (fun Yb1 zz kk s96 => ?_)
    replace s0 := ku s0
    replace s2 := ku s2
    replace s6 := ku s6
    replace s95 := ku s95
    replace hz := zz
    clear kk zz Yb0
    refine vq true (.pointer (some ⟨qA, oA + i * 1, none⟩)) (want_none rfl) (fun hc v hv => ex_ix rfl (ev s95 rfl) (ev s96 rfl) (ixG2 qA oA Da.length cA i hit _)) rfl hz (by decide) (fun Yb2 zz kk s97 => ?_)
    replace s0 := ku s0
    replace s2 := ku s2
    replace s6 := ku s6
    replace hz := zz
    clear kk zz s95 s96 Yb1
    refine vq true (.slice x.a x.D.length x.c) (want_none rfl) (fun hc v hv => ex_ld rfl (ev s97 rfl) (ldV8 (cell8 (hlA i x hx 0 _ rfl) hv))) rfl hz (by decide) (fun Yb3 zz kk s98 => ?_)
    replace s0 := ku s0
    replace s2 := ku s2
    replace s6 := ku s6
    replace hz := zz
    clear kk zz s97 Yb2
    refine vq true _ (want_none rfl) (fun hc v hv => ex_move rfl (ev s0 rfl)) rfl hz (by decide) (fun Yb4 zz kk s99 => ?_)
    replace s0 := ku s0
    replace s2 := ku s2
    replace s6 := ku s6
    replace s98 := ku s98
    replace hz := zz
    clear kk zz Yb3
    refine vq true (.pointer (some ⟨b, 0, none⟩)) (want_none rfl) (fun hc v hv => ex_nil rfl (ev s99 rfl)) rfl hz (by decide) (fun Yb5 zz kk s100 => ?_)
    replace s0 := ku s0
    replace s2 := ku s2
    replace s6 := ku s6
    replace s98 := ku s98
    replace hz := zz
    clear kk zz s99 Yb4
    refine vq true (.pointer (some ⟨b, 3, none⟩)) (want_none rfl) (fun hc v hv => ex_fa rfl (ev s100 rfl) (faG3 _ _)) rfl hz (by decide) (fun Yb6 zz kk s101 => ?_)
    replace s0 := ku s0
    replace s2 := ku s2
    replace s6 := ku s6
    replace s98 := ku s98
    replace hz := zz
    clear kk zz s100 Yb5
    refine vq true (.slice (some ⟨qB, oB, none⟩) Db.length cB) (want_none rfl) (fun hc v hv => ex_ld rfl (ev s101 rfl) (ldG2 (cell8 hcB hv))) rfl hz (by decide) (fun Yb7 zz kk s102 => ?_)
    replace s0 := ku s0
    replace s2 := ku s2
    replace s6 := ku s6
    replace s98 := ku s98
    replace hz := zz
    clear kk zz s101 Yb6
    refine vq true _ (want_none rfl) (fun hc v hv => ex_move rfl (ev s6 rfl)) rfl hz (by decide) (fun Yb8 zz kk s103 => ?_)
    replace s0 := ku s0
    replace s2 := ku s2
    replace s6 := ku s6
    replace s98 := ku s98
    replace s102 := ku s102
    replace hz := zz
    clear kk zz Yb7
    refine vq true (.pointer (some ⟨qB, oB + i * 1, none⟩)) (want_none rfl) (fun hc v hv => ex_ix rfl (ev s102 rfl) (ev s103 rfl) (ixG2 qB oB Db.length cB i hitB _)) rfl hz (by decide) (fun Yb9 zz kk s104 => ?_)
    replace s0 := ku s0
    replace s2 := ku s2
    replace s6 := ku s6
    replace s98 := ku s98
    replace hz := zz
    clear kk zz s102 s103 Yb8
    refine vq true (.slice y.a y.D.length y.c) (want_none rfl) (fun hc v hv => ex_ld rfl (ev s104 rfl) (ldV8 (cell8 (hlB2 i y hy 0 _ rfl) hv))) rfl hz (by decide) (fun Yca zz kk s105 => ?_)
    replace s0 := ku s0
    replace s2 := ku s2
    replace s6 := ku s6
    replace s98 := ku s98
    replace hz := zz
    clear kk zz s104 Yb9
    refine vq_call true (.bool true) (want_none rfl) (fun hc v hv => ex_call rfl (by simp only [List.map_toArray, List.map_cons, List.map_nil, (ev s98 rfl), (ev s105 rfl), evc] <;> rfl) rfl) (fun hc v hv => (bel8 hv (drew_same9 (samevecB x.D y.D _ _ _ _ _ _ v (sx.later hv) (sy.later hv)) (decide_eq_true hxy)))) rfl hz (by decide) (fun Ycb zz kk s106 => ?_)
    replace s0 := ku s0
    replace s2 := ku s2
    replace s6 := ku s6
    replace hz := zz
    clear kk zz s98 s105 Yca
    refine vq true (.bool false) (want_none rfl) (fun hc v hv => ex_not rfl (ev s106 rfl)) rfl hz (by decide) (fun Ycc zz kk s107 => ?_)
    replace s0 := ku s0
    replace s2 := ku s2
    replace s6 := ku s6
    replace hz := zz
    clear kk zz s106 Ycb
    refine vq_nil (fun x2 hx2 => ?_)
    go_upto_region 18 with fail
    refine wp_cond_false ((ev s107 rfl).trans rfl) ?_
    clear s107
    go_upto_region 18 with fail
    refine wp_region_lit ?_
    refine vt _ (ex_move rfl (ev s6 rfl)) hz (fun Ycd zz kk s90 => ?_)
    replace s0 := ku s0
    replace s2 := ku s2
    replace s6 := ku s6
    replace hz := zz
    clear kk zz
    refine vt (.int .i64 ((i + 1 : Nat) : Int)) (ex_bin rfl (ev s90 rfl) rfl (addD8 _ _ _ 1 ((i + 1 : Nat) : Int) (by rw [IntKind.wrap_i64]; omega) _)) hz (fun Yce zz kk s91 => ?_)
    replace s0 := ku s0
    replace s2 := ku s2
    replace s6 := ku s6
    replace hz := zz
    clear kk zz s90 Ycd
    refine vt _ (ex_assign rfl (ev s91 rfl)) hz (fun Ycf zz kk s6x => ?_)
    replace s0 := ku s0
    replace s2 := ku s2
    clear kk hz s91 s6
    have hz := zz
    have s6 := s6x
    clear zz s6x Yce
    refine wpList_nil ?_
    exact ⟨_, rfl, by omega, hz, s0, s2, s6, hB.trans (hx2.mono (by omega))⟩
  have d1 : decide ((i : Int) < (Da.length : Int)) = false := decide_eq_false (by omega)
  go_upto_region 17 with fail
  refine wp_region_lit ?_
  refine vt _ (ex_move rfl (ev s6 rfl)) hz (fun Ycg zz kk s83 => ?_)
  replace s0 := ku s0
  replace s2 := ku s2
  replace hz := zz
  clear kk zz s6
  refine vt _ (ex_move rfl (ev s0 rfl)) hz (fun Ych zz kk s84 => ?_)
  replace s0 := ku s0
  replace s2 := ku s2
  replace s83 := ku s83
  replace hz := zz
  clear kk zz Ycg
  refine vt (.pointer (some ⟨b, 0, none⟩)) (ex_nil rfl (ev s84 rfl)) hz (fun Yci zz kk s85 => ?_)
  replace s0 := ku s0
  replace s2 := ku s2
  replace s83 := ku s83
  replace hz := zz
  clear kk zz s84 Ych
  refine vt (.pointer (some ⟨b, 2, none⟩)) (ex_fa rfl (ev s85 rfl) (faG2 _ _)) hz (fun Ycj zz kk s86 => ?_)
  replace s0 := ku s0
  replace s2 := ku s2
  replace s83 := ku s83
  replace hz := zz
  clear kk zz s85 Yci
  refine vl true (.slice aA Da.length cA) (want_none rfl) (fun hc => ex_ld rfl (ev s86 rfl) (ldG2 (cell8 hcA hv0))) rfl hz (by decide) (fun Yck zz kk s87 => ?_)
  replace s0 := ku s0
  replace s2 := ku s2
  replace s83 := ku s83
  replace hz := zz
  clear kk zz s86 Ycj
  refine vt (.int .i64 (Da.length : Int)) (ex_lenG2 rfl rfl (ev s87 rfl)) hz (fun Ycl zz kk s88 => ?_)
  replace s0 := ku s0
  replace s2 := ku s2
  replace s83 := ku s83
  replace hz := zz
  clear kk zz s87 Yck
  refine vt (.bool false) (ex_bin rfl (ev s83 rfl) (ev s88 rfl) (lssD8 _ _ _ _ false d1 _)) hz (fun Ycm zz kk s89 => ?_)
  replace s0 := ku s0
  replace s2 := ku s2
  replace hz := zz
  clear kk zz s83 s88 Ycl
  refine wpList_nil ?_
  go_upto_region 21 with fail
  refine wp_cond_false ((ev s89 rfl).trans rfl) ?_
  clear s89 d1
  clear GR hcA hsA hcB hsB mA mA2
  obtain ⟨u6, hu6⟩ : ∃ v, v = wr := ⟨_, rfl⟩
  rw [← hu6] at hB hv0 hzr ⊢
  clear hu6 hi
  go_upto_region 21 with fail
  refine wp_region_lit ?_
  refine vt (.int .i64 0) (ex_assign rfl rfl) hz (fun Ycn zz kk s7 => ?_)
  replace s0 := ku s0
  replace s2 := ku s2
  replace hz := zz
  clear kk zz
  refine wpList_nil ?_
  have hsv : _ = some (gw true (.int .i64 ((0 : Nat) : Int))) := s7
  go_upto_region 22 with fail
  refine v_loop 7 La.length (fun i T wr => T.size = 133 ∧ T[0]? = some (gw true (.pointer (some ⟨b, 0, none⟩))) ∧ T[2]? = some (gw true (.bool false)) ∧ T[7]? = some (gw true (.int .i64 (i : Int))) ∧ Hid (Below w.heap.size w wr)) (fun i T w h => h.2.2.2.1) ⟨hz, s0, s2, hsv, hB.trans (hv0.mono hB.size)⟩ ?_
  clear hz s0 s2 s7 hsv hB hv0
  intro i R7 wr hi hh
  obtain ⟨hz, s0, s2, s7, hBr⟩ := hh
  have hB : Below w.heap.size w wr := hBr.out
  clear hBr
  have hzr := hB.size
  have GR := G.later0 hB
  have hv0 : Below wr.heap.size wr wr := Below.refl _ _
  obtain ⟨aA, cA, hcA, hsA⟩ := GR.c4
  obtain ⟨aB, cB, hcB, hsB⟩ := GR.c5
  have mA := hsA.max
  have mA2 := hsA.cap
  unfold maxLen at mA
  by_cases hit : i < La.length
  · have d1 : decide ((i : Int) < (La.length : Int)) = true := decide_eq_true (by omega)
    go_upto_region 22 with fail
    refine wp_region_lit ?_
    refine vt _ (ex_move rfl (ev s7 rfl)) hz (fun Yco zz kk s108 => ?_)
    replace s0 := ku s0
    replace s2 := ku s2
    replace s7 := ku s7
    replace hz := zz
    clear kk zz
    refine vt _ (ex_move rfl (ev s0 rfl)) hz (fun Ycp zz kk s109 => ?_)
    replace s0 := ku s0
    replace s2 := ku s2
    replace s7 := ku s7
    replace s108 := ku s108
    replace hz := zz
    clear kk zz Yco
    refine vt (.pointer (some ⟨b, 0, none⟩)) (ex_nil rfl (ev s109 rfl)) hz (fun Ycq zz kk s110 => ?_)
    replace s0 := ku s0
    replace s2 := ku s2
    replace s7 := ku s7
    replace s108 := ku s108
    replace hz := zz
    clear kk zz s109 Ycp
    refine vt (.pointer (some ⟨b, 4, none⟩)) (ex_fa rfl (ev s110 rfl) (faG4 _ _)) hz (fun Ycr zz kk s111 => ?_)
    replace s0 := ku s0
    replace s2 := ku s2
    replace s7 := ku s7
    replace s108 := ku s108
    replace hz := zz
    clear kk zz s110 Ycq
    refine vl true (.slice aA La.length cA) (want_none rfl) (fun hc => ex_ld rfl (ev s111 rfl) (ldG4 (cell8 hcA hv0))) rfl hz (by decide) (fun Ycs zz kk s112 => ?_)
    replace s0 := ku s0
    replace s2 := ku s2
    replace s7 := ku s7
    replace s108 := ku s108
    replace hz := zz
    clear kk zz s111 Ycr
    refine vt (.int .i64 (La.length : Int)) (ex_lenG4 rfl rfl (ev s112 rfl)) hz (fun Yct zz kk s113 => ?_)
    replace s0 := ku s0
    replace s2 := ku s2
    replace s7 := ku s7
    replace s108 := ku s108
    replace hz := zz
    clear kk zz s112 Ycs
    refine vt (.bool true) (ex_bin rfl (ev s108 rfl) (ev s113 rfl) (lssD8 _ _ _ _ true d1 _)) hz (fun Ycu zz kk s114 => ?_)
    replace s0 := ku s0
    replace s2 := ku s2
    replace s7 := ku s7
    replace hz := zz
    clear kk zz s108 s113 Yct
    refine wpList_nil ?_
    go_upto_region 24 with fail
    refine wp_cond_true ((ev s114 rfl).trans rfl) ?_
    clear s114 d1
    obtain ⟨x, hx⟩ : ∃ x, La[i]? = some x := ⟨_, List.getElem?_eq_getElem hit⟩
    have hlB : Lb.length = La.length := G.len4
    have hitB : i < Lb.length := by omega
    obtain ⟨y, hy⟩ : ∃ y, Lb[i]? = some y := ⟨_, List.getElem?_eq_getElem hitB⟩
    have mx := List.mem_of_getElem? hx
    have my := List.mem_of_getElem? hy
    have hxy := G.eq4 i x y hx hy
    have sx := GR.m4 x mx
    have sy := GR.m5 y my
    obtain ⟨qA, oA, rfl, hqA, hlA⟩ := hsA.place (by intro e; rw [e] at hit; simp at hit)
    obtain ⟨qB, oB, rfl, hqB, hlB2⟩ := hsB.place (by intro e; rw [e] at hitB; simp at hitB)
    go_upto_region 24 with fail
    refine vq_start (C := fun v => Below wr.heap.size wr v) (by kernel_rfl) (by kernel_rfl) hv0.drew ?_
    refine vq true _ (want_none rfl) (fun hc v hv => ex_move rfl (ev s0 rfl)) rfl hz (by decide) (fun Ycv zz kk s117 => ?_)
    replace s0 := ku s0
    replace s2 := ku s2
    replace s7 := ku s7
    replace hz := zz
    clear kk zz
    refine vq true (.pointer (some ⟨b, 0, none⟩)) (want_none rfl) (fun hc v hv => ex_nil rfl (ev s117 rfl)) rfl hz (by decide) (fun Ycw zz kk s118 => ?_)
    replace s0 := ku s0
    replace s2 := ku s2
    replace s7 := ku s7
    replace hz := zz
    clear kk zz s117 Ycv
    refine vq true (.pointer (some ⟨b, 4, none⟩)) (want_none rfl) (fun hc v hv => ex_fa rfl (ev s118 rfl) (faG4 _ _)) rfl hz (by decide) (fun Ycx zz kk s119 => ?_)
    replace s0 := ku s0
    replace s2 := ku s2
    replace s7 := ku s7
    replace hz := zz
    clear kk zz s118 Ycw
    refine vq true (.slice (some ⟨qA, oA, none⟩) La.length cA) (want_none rfl) (fun hc v hv => ex_ld rfl (ev s119 rfl) (ldG4 (cell8 hcA hv))) rfl hz (by decide) (fun Ycy zz kk s120 => ?_)
    replace s0 := ku s0
    replace s2 := ku s2
    replace s7 := ku s7
    replace hz := zz
    clear kk zz s119 Ycx
    refine vq true _ (want_none rfl) (fun hc v hv => ex_move rfl (ev s7 rfl)) rfl hz (by decide) (fun Ycz zz kk s121 => ?_)
    replace s0 := ku s0
    replace s2 := ku s2
    replace s7 := ku s7
    replace s120 := ku s120
    replace hz := zz
    clear kk zz Ycy
    refine vq true (.pointer (some ⟨qA, oA + i * 1, none⟩)) (want_none rfl) (fun hc v hv => ex_ix rfl (ev s120 rfl) (ev s121 rfl) (ixG4 qA oA La.length cA i hit _)) rfl hz (by decide) (fun Yc0 zz kk s122 => ?_)
    replace s0 := ku s0
    replace s2 := ku s2
    replace s7 := ku s7
    replace hz := zz
    clear kk zz s120 s121 Ycz
    refine vq true (.slice x.a x.D.length x.c) (want_none rfl) (fun hc v hv => ex_ld rfl (ev s122 rfl) (ldE8 (cell8 (hlA i x hx 0 _ rfl) hv))) rfl hz (by decide) (fun Yc1 zz kk s123 => ?_)
    replace s0 := ku s0
    replace s2 := ku s2
    replace s7 := ku s7
    replace hz := zz
    clear kk zz s122 Yc0
    refine vq true _ (want_none rfl) (fun hc v hv => ex_move rfl (ev s0 rfl)) rfl hz (by decide) (fun Yc2 zz kk s124 => ?_)
    replace s0 := ku s0
    replace s2 := ku s2
    replace s7 := ku s7
    replace s123 := ku s123
    replace hz := zz
    clear kk zz Yc1
    refine vq true (.pointer (some ⟨b, 0, none⟩)) (want_none rfl) (fun hc v hv => ex_nil rfl (ev s124 rfl)) rfl hz (by decide) (fun Yc3 zz kk s125 => ?_)
    replace s0 := ku s0
    replace s2 := ku s2
    replace s7 := ku s7
    replace s123 := ku s123
    replace hz := zz
    clear kk zz s124 Yc2
    refine vq true (.pointer (some ⟨b, 5, none⟩)) (want_none rfl) (fun hc v hv => ex_fa rfl (ev s125 rfl) (faG5 _ _)) rfl hz (by decide) (fun Yc4 zz kk s126 => ?_)
    replace s0 := ku s0
    replace s2 := ku s2
    replace s7 := ku s7
    replace s123 := ku s123
    replace hz := zz
    clear kk zz s125 Yc3
    refine vq true (.slice (some ⟨qB, oB, none⟩) Lb.length cB) (want_none rfl) (fun hc v hv => ex_ld rfl (ev s126 rfl) (ldG4 (cell8 hcB hv))) rfl hz (by decide) (fun Yc5 zz kk s127 => ?_)
    replace s0 := ku s0
    replace s2 := ku s2
    replace s7 := ku s7
    replace s123 := ku s123
    replace hz := zz
    clear kk zz s126 Yc4
    refine vq true _ (want_none rfl) (fun hc v hv => ex_move rfl (ev s7 rfl)) rfl hz (by decide) (fun Yc6 zz kk s128 => ?_)
    replace s0 := ku s0
    replace s2 := ku s2
    replace s7 := ku s7
    replace s123 := ku s123
    replace s127 := ku s127
    replace hz := zz
    clear kk zz Yc5
    refine vq true (.pointer (some ⟨qB, oB + i * 1, none⟩)) (want_none rfl) (fun hc v hv => ex_ix rfl (ev s127 rfl) (ev s128 rfl) (ixG4 qB oB Lb.length cB i hitB _)) rfl hz (by decide) (fun Yc7 zz kk s129 => ?_)
    replace s0 := ku s0
    replace s2 := ku s2
    replace s7 := ku s7
    replace s123 := ku s123
    replace hz := zz
    clear kk zz s127 s128 Yc6
    refine vq true (.slice y.a y.D.length y.c) (want_none rfl) (fun hc v hv => ex_ld rfl (ev s129 rfl) (ldE8 (cell8 (hlB2 i y hy 0 _ rfl) hv))) rfl hz (by decide) (fun Yc8 zz kk s130 => ?_)
    replace s0 := ku s0
    replace s2 := ku s2
    replace s7 := ku s7
    replace s123 := ku s123
    replace hz := zz
    clear kk zz s129 Yc7
    refine vq_call true (.bool true) (want_none rfl) (fun hc v hv => ex_call rfl (by simp only [List.map_toArray, List.map_cons, List.map_nil, (ev s123 rfl), (ev s130 rfl), evc] <;> rfl) rfl) (fun hc v hv => (bel8 hv (drew_same9 (sameentsB x.D y.D _ _ _ _ _ _ v (sx.later hv) (sy.later hv)) (decide_eq_true hxy)))) rfl hz (by decide) (fun Yc9 zz kk s131 => ?_)
    replace s0 := ku s0
    replace s2 := ku s2
    replace s7 := ku s7
    replace hz := zz
    clear kk zz s123 s130 Yc8
    refine vq true (.bool false) (want_none rfl) (fun hc v hv => ex_not rfl (ev s131 rfl)) rfl hz (by decide) (fun Yda zz kk s132 => ?_)
    replace s0 := ku s0
    replace s2 := ku s2
    replace s7 := ku s7
    replace hz := zz
    clear kk zz s131 Yc9
    refine vq_nil (fun x3 hx3 => ?_)
    go_upto_region 23 with fail
    refine wp_cond_false ((ev s132 rfl).trans rfl) ?_
    clear s132
    go_upto_region 23 with fail
    refine wp_region_lit ?_
    refine vt _ (ex_move rfl (ev s7 rfl)) hz (fun Ydb zz kk s115 => ?_)
    replace s0 := ku s0
    replace s2 := ku s2
    replace s7 := ku s7
    replace hz := zz
    clear kk zz
    refine vt (.int .i64 ((i + 1 : Nat) : Int)) (ex_bin rfl (ev s115 rfl) rfl (addD8 _ _ _ 1 ((i + 1 : Nat) : Int) (by rw [IntKind.wrap_i64]; omega) _)) hz (fun Ydc zz kk s116 => ?_)
    replace s0 := ku s0
    replace s2 := ku s2
    replace s7 := ku s7
    replace hz := zz
    clear kk zz s115 Ydb
    refine vt _ (ex_assign rfl (ev s116 rfl)) hz (fun Ydd zz kk s7x => ?_)
    replace s0 := ku s0
    replace s2 := ku s2
    clear kk hz s116 s7
    have hz := zz
    have s7 := s7x
    clear zz s7x Ydc
    refine wpList_nil ?_
    exact ⟨_, rfl, by omega, hz, s0, s2, s7, hB.trans (hx3.mono (by omega))⟩
  have d1 : decide ((i : Int) < (La.length : Int)) = false := decide_eq_false (by omega)
  go_upto_region 22 with fail
  refine wp_region_lit ?_
  refine vt _ (ex_move rfl (ev s7 rfl)) hz (fun Yde zz kk s108 => ?_)
  replace s0 := ku s0
  replace s2 := ku s2
  replace hz := zz
  clear kk zz s7
  refine vt _ (ex_move rfl (ev s0 rfl)) hz (fun Ydf zz kk s109 => ?_)
  replace s0 := ku s0
  replace s2 := ku s2
  replace s108 := ku s108
  replace hz := zz
  clear kk zz Yde
  refine vt (.pointer (some ⟨b, 0, none⟩)) (ex_nil rfl (ev s109 rfl)) hz (fun Ydg zz kk s110 => ?_)
  replace s0 := ku s0
  replace s2 := ku s2
  replace s108 := ku s108
  replace hz := zz
  clear kk zz s109 Ydf
  refine vt (.pointer (some ⟨b, 4, none⟩)) (ex_fa rfl (ev s110 rfl) (faG4 _ _)) hz (fun Ydh zz kk s111 => ?_)
  replace s0 := ku s0
  replace s2 := ku s2
  replace s108 := ku s108
  replace hz := zz
  clear kk zz s110 Ydg
  refine vl true (.slice aA La.length cA) (want_none rfl) (fun hc => ex_ld rfl (ev s111 rfl) (ldG4 (cell8 hcA hv0))) rfl hz (by decide) (fun Ydi zz kk s112 => ?_)
  replace s0 := ku s0
  replace s2 := ku s2
  replace s108 := ku s108
  replace hz := zz
  clear kk zz s111 Ydh
  refine vt (.int .i64 (La.length : Int)) (ex_lenG4 rfl rfl (ev s112 rfl)) hz (fun Ydj zz kk s113 => ?_)
  replace s0 := ku s0
  replace s2 := ku s2
  replace s108 := ku s108
  replace hz := zz
  clear kk zz s112 Ydi
  refine vt (.bool false) (ex_bin rfl (ev s108 rfl) (ev s113 rfl) (lssD8 _ _ _ _ false d1 _)) hz (fun Ydk zz kk s114 => ?_)
  replace s0 := ku s0
  replace s2 := ku s2
  replace hz := zz
  clear kk zz s108 s113 Ydj
  refine wpList_nil ?_
  go_upto_region 26 with fail
  refine wp_cond_false ((ev s114 rfl).trans rfl) ?_
  clear s114 d1
  clear GR hcA hsA hcB hsB mA mA2
  obtain ⟨u7, hu7⟩ : ∃ v, v = wr := ⟨_, rfl⟩
  rw [← hu7] at hB hv0 hzr ⊢
  clear hu7 hi
  go_upto_region 26 with fail
  refine wp_region_lit ?_
  refine vt (.bool true) (ex_assign rfl rfl) hz (fun Ydl zz kk s2x => ?_)
  clear kk hz s0 s2
  have hz := zz
  have s2 := s2x
  clear zz s2x
  refine wpList_nil ?_
  go_wp2
  refine bodyPost_ret (results_tmp rfl _ _ _) rfl ⟨?_, hB.trans (hv0.mono (by omega))⟩
  rw [getD_of s2]
  rfl
theorem Upd.tr9 {S T : Nat → Prop} {a b c : World} (h : Upd S a b) (k : Upd T b c) (hs : ∀ i, i < a.heap.size → T i → S i) : Upd S a c :=
  ⟨k.os.trans h.os, k.tape.trans h.tape, k.output.trans h.output, Nat.le_trans h.size k.size, fun i hi hn => (k.block i (Nat.lt_of_lt_of_le hi h.size) (fun ht => hn (hs i hi ht))).trans (h.block i hi hn)⟩
theorem GM.upd9 {S : Nat → Prop} {w w' : World} {b B : Nat} {v2 v3 v4 v5 : Value} {Da Db : List (SV (Int × Int))} {La Lb : List (SV En)} (h : GM w b B v2 v3 v4 v5 Da Db La Lb) (u : Upd S w w') (hb : ¬ S b) (hS : ∀ k, S k → k < B) : GM w' b B v2 v3 v4 v5 Da Db La Lb := by
  have hlt : b < w.heap.size := Nat.lt_of_lt_of_le h.lt h.ltB
  exact ⟨h.lt, Nat.le_trans h.ltB u.size, (u.cell (p := ⟨b, _, none⟩) hlt hb).trans h.c2, (u.cell (p := ⟨b, _, none⟩) hlt hb).trans h.c3, (u.cell (p := ⟨b, _, none⟩) hlt hb).trans h.c4, (u.cell (p := ⟨b, _, none⟩) hlt hb).trans h.c5, fun i => (u.frozen (p := ⟨b, _, none⟩) hlt hb).trans (h.f i), fun i h0 h1 => (u.cell (p := ⟨b, _, none⟩) hlt hb).trans (h.ce i h0 h1),
    h.o2.upd1 u (fun k hk hs => by have := (h.o2.blk k hk).1; have := hS k hs; omega), h.o3.upd1 u (fun k hk hs => by have := (h.o3.blk k hk).1; have := hS k hs; omega), h.o4.upd1 u (fun k hk hs => by have := (h.o4.blk k hk).1; have := hS k hs; omega), h.o5.upd1 u (fun k hk hs => by have := (h.o5.blk k hk).1; have := hS k hs; omega), h.ne2, h.ne4,
    fun x hx => (h.m2 x hx).upd1 u (fun k hk hs => by have := ((h.m2 x hx).blk k hk).1; have := hS k hs; omega), fun x hx => (h.m3 x hx).upd1 u (fun k hk hs => by have := ((h.m3 x hx).blk k hk).1; have := hS k hs; omega), fun x hx => (h.m4 x hx).upd1 u (fun k hk hs => by have := ((h.m4 x hx).blk k hk).1; have := hS k hs; omega), fun x hx => (h.m5 x hx).upd1 u (fun k hk hs => by have := ((h.m5 x hx).blk k hk).1; have := hS k hs; omega)⟩
theorem GM.nil9 {S : Nat → Prop} {w w' : World} {b B : Nat} (h : GM w b B (.slice none 0 0) (.slice none 0 0) (.slice none 0 0) (.slice none 0 0) [] [] [] []) (u : Upd S w w') (hb : ¬ S b) : GM w' b w'.heap.size (.slice none 0 0) (.slice none 0 0) (.slice none 0 0) (.slice none 0 0) [] [] [] [] := by
  have hlt : b < w.heap.size := Nat.lt_of_lt_of_le h.lt h.ltB
  exact ⟨Nat.lt_of_lt_of_le hlt u.size, Nat.le_refl _, (u.cell (p := ⟨b, _, none⟩) hlt hb).trans h.c2, (u.cell (p := ⟨b, _, none⟩) hlt hb).trans h.c3, (u.cell (p := ⟨b, _, none⟩) hlt hb).trans h.c4, (u.cell (p := ⟨b, _, none⟩) hlt hb).trans h.c5, fun i => (u.frozen (p := ⟨b, _, none⟩) hlt hb).trans (h.f i), fun i h0 h1 => (u.cell (p := ⟨b, _, none⟩) hlt hb).trans (h.ce i h0 h1), OwnY.nil _ _ _, OwnY.nil _ _ _, OwnY.nil _ _ _, OwnY.nil _ _ _, (fun k h => by cases h), (fun k h => by cases h), (fun p hp => by cases hp), (fun p hp => by cases hp), (fun p hp => by cases hp), (fun p hp => by cases hp)⟩
structure LB9 (X Bq b q3 : Nat) (x4 w : World) (t : Sta) (v2 v3 va vb : Value) (Da Db : List (SV (Int × Int))) (La Lb : List (SV En)) (R : List Bl) (N : List An) (i j : Nat) (P : List (SV En)) : Prop where
  g : GM w b X v2 v3 va vb Da Db La Lb
  len : Lb.length = La.length
  eq : ∀ (k : Nat) (x y : SV En), La[k]? = some x → Lb[k]? = some y → x.D = y.D
  up : Upd (fun k => k = b ∨ k = q3 ∨ Value.ownBlock (.slice t.ba t.B.length t.bc) = some k ∨ Value.ownBlock (.slice t.na t.N.length t.nc) = some k) x4 w
  ob : OwnY yBlA Bq w (.slice t.ba t.B.length t.bc) R
  on : OwnY yAnA Bq w (.slice t.na t.N.length t.nc) N
  blt : ∀ k, Value.ownBlock (.slice t.ba t.B.length t.bc) = some k → k < X
  nlt : ∀ k, Value.ownBlock (.slice t.na t.N.length t.nc) = some k → k < X
  rb : R.length = t.B.length ∧ ∀ (k : Nat) (x y : Bl), t.B[k]? = some x → R[k]? = some y → Bl.Like x y ∧ (k < i → (⟨y.s.a, y.s.c, y.s.D ++ [mkE]⟩ : SV En) ∈ La) ∧ (i ≤ k → y = x)
  rn : N.length = t.N.length ∧ ∀ (k : Nat) (x y : An), t.N[k]? = some x → N[k]? = some y → An.Like x y ∧ (k < j → (⟨y.s.a, y.s.c, y.s.D ++ [mkE]⟩ : SV En) ∈ La) ∧ (j ≤ k → y = x)
  pl : ∀ x ∈ P, x ∈ La
theorem LB9.stepBl {X Bq b q3 i j g c' g5 k5 kB : Nat} {x4 w w' : World} {t : Sta} {v2 v3 va vb va' vb' : Value} {Da Db : List (SV (Int × Int))} {La Lb P : List (SV En)} {R : List Bl} {N : List An} {x : Bl}
    (h : LB9 X Bq b q3 x4 w t v2 v3 va vb Da Db La Lb R N i j P) (hX : X = x4.heap.size) (hbq : b < Bq) (hka : t.ba = some ⟨kB, 0, none⟩) (hx : t.B[i]? = some x)
    (G : GM w' b X v2 v3 va' vb' Da Db (La ++ [⟨some ⟨g, 0, none⟩, c', x.s.D ++ [mkE]⟩]) (Lb ++ [⟨some ⟨g5, 0, none⟩, k5, x.s.D ++ [mkE]⟩]))
    (U : Upd (fun k => k = b ∨ va.ownBlock = some k ∨ vb.ownBlock = some k) w w') :
    LB9 X Bq b q3 x4 (w'.setCell ⟨kB, i * 6 + 5, none⟩ (.slice (some ⟨g, 0, none⟩) x.s.D.length c')) t v2 v3 va' vb' Da Db (La ++ [⟨some ⟨g, 0, none⟩, c', x.s.D ++ [mkE]⟩]) (Lb ++ [⟨some ⟨g5, 0, none⟩, k5, x.s.D ++ [mkE]⟩]) (R.set i { x with s := ⟨some ⟨g, 0, none⟩, c', x.s.D⟩ }) N (i + 1) j P := by
  have hil : i < t.B.length := (List.getElem?_eq_some_iff.1 hx).1
  have hxr : R[i]? = some x := by
    have e := List.getElem?_eq_getElem (l := R) (i := i) (by rw [h.rb.1]; exact hil)
    rw [e, (h.rb.2 i x _ hx e).2.2 (Nat.le_refl _)]
  have nb : ∀ k, k < X → (k = b ∨ va.ownBlock = some k ∨ vb.ownBlock = some k) → k = b := by
    rintro k hk (e | e | e)
    · exact e
    · have := (h.g.o4.blk k e).1; omega
    · have := (h.g.o5.blk k e).1; omega
  have kb : Value.ownBlock (.slice t.ba t.B.length t.bc) = some kB := by rw [hka]; rfl
  have kB1 : Bq ≤ kB := (h.ob.blk kB kb).1
  have kBX : kB < X := h.blt kB kb
  have ob' : OwnY yBlA Bq w' (.slice t.ba t.B.length t.bc) R := h.ob.upd1 U (fun k hk hs => by have h1 := h.blt k hk; have h2 := nb k h1 hs; have h3 := (h.ob.blk k hk).1; omega)
  have on' : OwnY yAnA Bq w' (.slice t.na t.N.length t.nc) N := h.on.upd1 U (fun k hk hs => by have h1 := h.nlt k hk; have h2 := nb k h1 hs; have h3 := (h.on.blk k hk).1; omega)
  have hd := ob'.apart on' (by decide)
  have V : Upd (fun k => k = kB) w' (w'.setCell ⟨kB, i * 6 + 5, none⟩ (.slice (some ⟨g, 0, none⟩) x.s.D.length c')) := (Upd.refl (fun k => k = kB) _).setCell (p := ⟨kB, i * 6 + 5, none⟩) (.inl rfl) _
  have up2 := (h.up.tr9 U (fun k hk hs => .inl (nb k (by omega) hs))).tr9 V (fun k hk hs => .inr (.inr (.inl (by rw [hs]; exact kb))))
  have s1 := ob'
  rw [hka] at s1
  have s2 := OwnY.set1 kBlA s1 hxr { x with s := ⟨some ⟨g, 0, none⟩, c', x.s.D⟩ } 5 (.slice (some ⟨g, 0, none⟩) x.s.D.length c') (by decide) rfl
  rw [← hka] at s2
  have grow : ∀ z : SV En, z ∈ La → z ∈ La ++ [⟨some ⟨g, 0, none⟩, c', x.s.D ++ [mkE]⟩] := fun z hz => List.mem_append_left _ hz
  refine ⟨G.upd9 V (fun e => by omega) (fun k hk => by omega), by simp [h.len], ?_, up2, s2, on'.upd1 V (fun k hk hs => hd k (by rw [hs]; exact kb) hk), h.blt, h.nlt, ?_, ?_, fun z hz => grow z (h.pl z hz)⟩
  · intro k y z hy hz
    by_cases hk : k < La.length
    · rw [List.getElem?_append_left hk] at hy
      rw [List.getElem?_append_left (by rw [h.len]; exact hk)] at hz
      exact h.eq k y z hy hz
    · rw [List.getElem?_append_right (by omega)] at hy
      rw [List.getElem?_append_right (by rw [h.len]; omega), h.len] at hz
      have h0 : k - La.length = 0 := by
        have := (List.getElem?_eq_some_iff.1 hy).1
        simp at this
        omega
      rw [h0] at hy hz
      simp at hy hz
      subst hy hz
      rfl
  · refine ⟨by rw [List.length_set]; exact h.rb.1, fun k y z hy hz => ?_⟩
    by_cases e : k = i
    · subst e
      rw [List.getElem?_set_self (by rw [h.rb.1]; exact hil)] at hz
      cases hz
      rw [hx] at hy
      cases hy
      exact ⟨⟨rfl, rfl, rfl, rfl, rfl, rfl⟩, fun _ => List.mem_append_right _ (by simp), fun hh => by omega⟩
    · rw [List.getElem?_set_ne (fun e' => e e'.symm)] at hz
      obtain ⟨p1, p2, p3⟩ := h.rb.2 k y z hy hz
      exact ⟨p1, fun hh => grow _ (p2 (by omega)), fun hh => p3 (by omega)⟩
  · exact ⟨h.rn.1, fun k y z hy hz => by
      obtain ⟨p1, p2, p3⟩ := h.rn.2 k y z hy hz
      exact ⟨p1, fun hh => grow _ (p2 hh), p3⟩⟩
theorem LB9.stepAn {X Bq b q3 i j g c' g5 k5 kB : Nat} {x4 w w' : World} {t : Sta} {v2 v3 va vb va' vb' : Value} {Da Db : List (SV (Int × Int))} {La Lb P : List (SV En)} {R : List Bl} {N : List An} {x : An}
    (h : LB9 X Bq b q3 x4 w t v2 v3 va vb Da Db La Lb R N i j P) (hX : X = x4.heap.size) (hbq : b < Bq) (hka : t.na = some ⟨kB, 0, none⟩) (hx : t.N[j]? = some x)
    (G : GM w' b X v2 v3 va' vb' Da Db (La ++ [⟨some ⟨g, 0, none⟩, c', x.s.D ++ [mkE]⟩]) (Lb ++ [⟨some ⟨g5, 0, none⟩, k5, x.s.D ++ [mkE]⟩]))
    (U : Upd (fun k => k = b ∨ va.ownBlock = some k ∨ vb.ownBlock = some k) w w') :
    LB9 X Bq b q3 x4 (w'.setCell ⟨kB, j * 6 + 5, none⟩ (.slice (some ⟨g, 0, none⟩) x.s.D.length c')) t v2 v3 va' vb' Da Db (La ++ [⟨some ⟨g, 0, none⟩, c', x.s.D ++ [mkE]⟩]) (Lb ++ [⟨some ⟨g5, 0, none⟩, k5, x.s.D ++ [mkE]⟩]) R (N.set j { x with s := ⟨some ⟨g, 0, none⟩, c', x.s.D⟩ }) i (j + 1) P := by
  have hil : j < t.N.length := (List.getElem?_eq_some_iff.1 hx).1
  have hxr : N[j]? = some x := by
    have e := List.getElem?_eq_getElem (l := N) (i := j) (by rw [h.rn.1]; exact hil)
    rw [e, (h.rn.2 j x _ hx e).2.2 (Nat.le_refl _)]
  have nb : ∀ k, k < X → (k = b ∨ va.ownBlock = some k ∨ vb.ownBlock = some k) → k = b := by
    rintro k hk (e | e | e)
    · exact e
    · have := (h.g.o4.blk k e).1; omega
    · have := (h.g.o5.blk k e).1; omega
  have kb : Value.ownBlock (.slice t.na t.N.length t.nc) = some kB := by rw [hka]; rfl
  have kB1 : Bq ≤ kB := (h.on.blk kB kb).1
  have kBX : kB < X := h.nlt kB kb
  have ob' : OwnY yBlA Bq w' (.slice t.ba t.B.length t.bc) R := h.ob.upd1 U (fun k hk hs => by have h1 := h.blt k hk; have h2 := nb k h1 hs; have h3 := (h.ob.blk k hk).1; omega)
  have on' : OwnY yAnA Bq w' (.slice t.na t.N.length t.nc) N := h.on.upd1 U (fun k hk hs => by have h1 := h.nlt k hk; have h2 := nb k h1 hs; have h3 := (h.on.blk k hk).1; omega)
  have hd := ob'.apart on' (by decide)
  have V : Upd (fun k => k = kB) w' (w'.setCell ⟨kB, j * 6 + 5, none⟩ (.slice (some ⟨g, 0, none⟩) x.s.D.length c')) := (Upd.refl (fun k => k = kB) _).setCell (p := ⟨kB, j * 6 + 5, none⟩) (.inl rfl) _
  have up2 := (h.up.tr9 U (fun k hk hs => .inl (nb k (by omega) hs))).tr9 V (fun k hk hs => .inr (.inr (.inr (by rw [hs]; exact kb))))
  have s1 := on'
  rw [hka] at s1
  have s2 := OwnY.set1 kAnA s1 hxr { x with s := ⟨some ⟨g, 0, none⟩, c', x.s.D⟩ } 5 (.slice (some ⟨g, 0, none⟩) x.s.D.length c') (by decide) rfl
  rw [← hka] at s2
  have grow : ∀ z : SV En, z ∈ La → z ∈ La ++ [⟨some ⟨g, 0, none⟩, c', x.s.D ++ [mkE]⟩] := fun z hz => List.mem_append_left _ hz
  refine ⟨G.upd9 V (fun e => by omega) (fun k hk => by omega), by simp [h.len], ?_, up2, ob'.upd1 V (fun k hk hs => hd k hk (by rw [hs]; exact kb)), s2, h.blt, h.nlt, ?_, ?_, fun z hz => grow z (h.pl z hz)⟩
  · intro k y z hy hz
    by_cases hk : k < La.length
    · rw [List.getElem?_append_left hk] at hy
      rw [List.getElem?_append_left (by rw [h.len]; exact hk)] at hz
      exact h.eq k y z hy hz
    · rw [List.getElem?_append_right (by omega)] at hy
      rw [List.getElem?_append_right (by rw [h.len]; omega), h.len] at hz
      have h0 : k - La.length = 0 := by
        have := (List.getElem?_eq_some_iff.1 hy).1
        simp at this
        omega
      rw [h0] at hy hz
      simp at hy hz
      subst hy hz
      rfl
  · exact ⟨h.rb.1, fun k y z hy hz => by
      obtain ⟨p1, p2, p3⟩ := h.rb.2 k y z hy hz
      exact ⟨p1, fun hh => grow _ (p2 hh), p3⟩⟩
  · refine ⟨by rw [List.length_set]; exact h.rn.1, fun k y z hy hz => ?_⟩
    by_cases e : k = j
    · subst e
      rw [List.getElem?_set_self (by rw [h.rn.1]; exact hil)] at hz
      cases hz
      rw [hx] at hy
      cases hy
      exact ⟨⟨rfl, rfl, rfl, rfl, rfl, rfl⟩, fun _ => List.mem_append_right _ (by simp), fun hh => by omega⟩
    · rw [List.getElem?_set_ne (fun e' => e e'.symm)] at hz
      obtain ⟨p1, p2, p3⟩ := h.rn.2 k y z hy hz
      exact ⟨p1, fun hh => grow _ (p2 (by omega)), fun hh => p3 (by omega)⟩
theorem Sta.Ow.set9 {t : Sta} {B q : Nat} {w w' : World} (h : t.Ow B w) (u : Upd (fun k => k = q) w w') (hq : q < B) : t.Ow B w' := ⟨h.l.set9 u hq, h.v.set9 u hq, h.a.set9 u hq, h.m.set9 u hq, h.b.set9 u hq, h.n.set9 u hq⟩
theorem lb9_start {Bq b q3 g1 c1 h1 k1 : Nat} {x4 w : World} {t : Sta} {v2 v3 va vb : Value} {Da Db : List (SV (Int × Int))} (G : GM w b x4.heap.size v2 v3 va vb Da Db ([] ++ [⟨some ⟨g1, 0, none⟩, c1, t.L ++ [mkE]⟩]) ([] ++ [⟨some ⟨h1, 0, none⟩, k1, t.L ++ [mkE]⟩])) (U : Upd (fun k => k = b ∨ k = q3) x4 w) (ho : t.Ow Bq x4) (hb : b < Bq) (hq : q3 < Bq) :
    LB9 x4.heap.size Bq b q3 x4 w t v2 v3 va vb Da Db ([] ++ [⟨some ⟨g1, 0, none⟩, c1, t.L ++ [mkE]⟩]) ([] ++ [⟨some ⟨h1, 0, none⟩, k1, t.L ++ [mkE]⟩]) t.B t.N 0 0 ([] ++ [⟨some ⟨g1, 0, none⟩, c1, t.L ++ [mkE]⟩]) := by
  refine ⟨G, rfl, ?_, U.mono (fun k _ h => h.elim .inl (fun e => .inr (.inl e))), ho.b.upd1 U (fun k hk h => by have := (ho.b.blk k hk).1; rcases h with h | h <;> omega), ho.n.upd1 U (fun k hk h => by have := (ho.n.blk k hk).1; rcases h with h | h <;> omega), fun k hk => (ho.b.blk k hk).2, fun k hk => (ho.n.blk k hk).2, ⟨rfl, fun k x y hx hy => ?_⟩, ⟨rfl, fun k x y hx hy => ?_⟩, fun x hx => hx⟩
  · intro k x y hx hy
    cases k with
    | zero => simp at hx hy; subst hx hy; rfl
    | succ n => simp at hx
  · rw [hx] at hy; cases hy
    exact ⟨⟨rfl, rfl, rfl, rfl, rfl, rfl⟩, fun h => by omega, fun _ => rfl⟩
  · rw [hx] at hy; cases hy
    exact ⟨⟨rfl, rfl, rfl, rfl, rfl, rfl⟩, fun h => by omega, fun _ => rfl⟩
theorem LB9.bel {X Bq b q3 i j : Nat} {x4 w w' : World} {t : Sta} {v2 v3 va vb : Value} {Da Db : List (SV (Int × Int))} {La Lb P : List (SV En)} {R : List Bl} {N : List An} (h : LB9 X Bq b q3 x4 w t v2 v3 va vb Da Db La Lb R N i j P) (hb : Below w.heap.size w w') : LB9 X Bq b q3 x4 w' t v2 v3 va vb Da Db La Lb R N i j P :=
  ⟨h.g.bel hb, h.len, h.eq, h.up.tr9 (Upd.of_below (S := fun _ => False) hb) (fun _ _ h => h.elim), h.ob.grow hb, h.on.grow hb, h.blt, h.nlt, h.rb, h.rn, h.pl⟩
theorem LB9.onlyb {X Bq b q3 i j : Nat} {x4 w : World} {t : Sta} {v2 v3 va vb : Value} {Da Db : List (SV (Int × Int))} {La Lb P : List (SV En)} {R : List Bl} {N : List An} (h : LB9 X Bq b q3 x4 w t v2 v3 va vb Da Db La Lb R N i j P) {k : Nat} (hk : k < X) (hs : k = b ∨ va.ownBlock = some k ∨ vb.ownBlock = some k) : k = b := by
  rcases hs with e | e | e
  · exact e
  · have := (h.g.o4.blk k e).1; omega
  · have := (h.g.o5.blk k e).1; omega
theorem LB9.away {X Bq b q3 i j : Nat} {x4 w : World} {t : Sta} {v2 v3 va vb : Value} {Da Db : List (SV (Int × Int))} {La Lb P : List (SV En)} {R : List Bl} {N : List An} (h : LB9 X Bq b q3 x4 w t v2 v3 va vb Da Db La Lb R N i j P) {k : Nat} (hk : k < X) (hb : k ≠ b) : ¬ (k = b ∨ va.ownBlock = some k ∨ vb.ownBlock = some k) := fun hs => hb (h.onlyb hk hs)
theorem LB9.log {X Bq b q3 i j : Nat} {x4 w : World} {t : Sta} {v2 v3 va vb : Value} {Da Db : List (SV (Int × Int))} {La Lb P : List (SV En)} {R : List Bl} {N : List An} (h : LB9 X Bq b q3 x4 w t v2 v3 va vb Da Db La Lb R N i j P) {v : Value} {l : List En} (o : OwnY yE Bq x4 v l) (ob : OwnY yBlA Bq x4 (.slice t.ba t.B.length t.bc) t.B) (on : OwnY yAnA Bq x4 (.slice t.na t.N.length t.nc) t.N) (hb : b < Bq) (hq : q3 < Bq) : OwnY yE Bq w v l :=
  o.upd1 h.up (fun k hk hs => by
    have h1 := (o.blk k hk).1
    rcases hs with e | e | e | e
    · omega
    · omega
    · exact o.apart ob (by decide) k hk e
    · exact o.apart on (by decide) k hk e)
theorem own_at9 {α : Type} {Y : Lay α} {B n c : Nat} {w : World} {a : Option Addr} {l : List α} (h : OwnY Y B w (.slice a n c) l) (hne : 0 < l.length) : ∃ g, a = some ⟨g, 0, none⟩ := by
  obtain ⟨a', c', e, _, _, hn, hs⟩ := h.form
  injection e with e1 e2 e3
  subst e1
  cases a with
  | none => have := (hn rfl).1; rw [this] at hne; simp at hne
  | some z => obtain ⟨g, e, _⟩ := hs z rfl; exact ⟨g, by rw [e]⟩
theorem de9 (g c h k : Nat) (V : List (Int × Int)) : ([] ++ [⟨some ⟨h, 0, none⟩, k, V ++ [mkD]⟩] : List (SV (Int × Int))).length = ([] ++ [⟨some ⟨g, 0, none⟩, c, V ++ [mkD]⟩] : List (SV (Int × Int))).length ∧ (∀ (i : Nat) (x y : SV (Int × Int)), ([] ++ [⟨some ⟨g, 0, none⟩, c, V ++ [mkD]⟩] : List (SV (Int × Int)))[i]? = some x → ([] ++ [⟨some ⟨h, 0, none⟩, k, V ++ [mkD]⟩] : List (SV (Int × Int)))[i]? = some y → x.D = y.D) ∧ (⟨some ⟨g, 0, none⟩, c, V ++ [mkD]⟩ : SV (Int × Int)) ∈ ([] ++ [⟨some ⟨g, 0, none⟩, c, V ++ [mkD]⟩] : List (SV (Int × Int))) := by
  refine ⟨rfl, fun i x y hx hy => ?_, by simp⟩
  cases i with
  | zero => simp at hx hy; subst hx hy; rfl
  | succ n => simp at hx
theorem fa4Bl9 (q o : Nat) (w : World) : (Instr.fieldAt 59 (.pointer (some ⟨q, o, none⟩)) 4).run Tryz.prog w = .ok (.pointer (some ⟨q, o + 5, none⟩)) w := by go_simp
theorem fa4An9 (q o : Nat) (w : World) : (Instr.fieldAt 61 (.pointer (some ⟨q, o, none⟩)) 4).run Tryz.prog w = .ok (.pointer (some ⟨q, o + 5, none⟩)) w := by go_simp
theorem ixBlz (q n c i : Nat) (hi : i < n) (w : World) : (Instr.indexAt 30 (.slice (some ⟨q, 0, none⟩) n c) (.int .i64 (i : Int))).run Tryz.prog w = .ok (.pointer (some ⟨q, i * 6, none⟩)) w := (ix9Bl q 0 n c i hi w).trans (by rw [Nat.zero_add])
theorem ixAnz (q n c i : Nat) (hi : i < n) (w : World) : (Instr.indexAt 31 (.slice (some ⟨q, 0, none⟩) n c) (.int .i64 (i : Int))).run Tryz.prog w = .ok (.pointer (some ⟨q, i * 6, none⟩)) w := (ix9An q 0 n c i hi w).trans (by rw [Nat.zero_add])
theorem LB9.keep {X Bq b q3 i j : Nat} {x4 w : World} {t : Sta} {v2 v3 va vb : Value} {Da Db : List (SV (Int × Int))} {La Lb P : List (SV En)} {R : List Bl} {N : List An} (h : LB9 X Bq b q3 x4 w t v2 v3 va vb Da Db La Lb R N i j P) {α : Type} {Y : Lay α} {v : Value} {l : List α} (o : OwnY Y Bq x4 v l) (h1 : Y.T ≠ yBlA.T) (h2 : Y.T ≠ yAnA.T) (ho : t.Ow Bq x4) (hb : b < Bq) (hq : q3 < Bq) : OwnY Y Bq w v l :=
  o.upd1 h.up (fun k hk hs => by
    have h3 := (o.blk k hk).1
    rcases hs with e | e | e | e
    · omega
    · omega
    · exact o.apart ho.b h1 k hk e
    · exact o.apart ho.n h2 k hk e)
theorem given_log9 {X : Nat} {w : World} {a : Option Addr} {n c : Nat} {D : List En} (m : OwnY yE X w (.slice a n c) (D ++ [mkE])) : SlY yE w a D.length c D := by
  obtain ⟨g, e⟩ := own_at9 m (by simp)
  rw [e] at m ⊢
  exact m.front kE rfl
theorem LB9.inn {g1 c1 g2 c2 : Nat} {X Bq b q3 : Nat} {x4 w : World} {t : Sta} {v2 v3 va vb : Value} {Da Db : List (SV (Int × Int))} {La Lb P : List (SV En)} {R : List Bl} {N : List An} (h : LB9 X Bq b q3 x4 w t v2 v3 va vb Da Db La Lb R N t.B.length t.N.length P) (ho : t.Ow Bq x4) (hb : b < Bq) (hq : q3 < Bq) (h1 : (⟨some ⟨g1, 0, none⟩, c1, t.L ++ [mkE]⟩ : SV En) ∈ P) (h2 : (⟨some ⟨g2, 0, none⟩, c2, t.V ++ [mkD]⟩ : SV (Int × Int)) ∈ Da) (hbB : ∀ x ∈ t.B, x.s.D.length * 48 ≤ 281474976710656) (hbN : ∀ x ∈ t.N, x.s.D.length * 48 ≤ 281474976710656) :
    ({ t with la := some ⟨g1, 0, none⟩, lc := c1, va := some ⟨g2, 0, none⟩, vc := c2, B := R, N := N } : Sta).In w := by
  refine ⟨(h.g.m4 _ (h.pl _ h1)).front kE rfl, (h.g.m2 _ h2).front kD rfl, (h.keep ho.a (by decide) (by decide) ho hb hq).sl' kAkA, (h.keep ho.m (by decide) (by decide) ho hb hq).sl' kMkA, ?_, ?_, fun y hy => ?_, fun y hy => ?_⟩
  · have q := h.ob.sl' kBlA
    rw [← h.rb.1] at q
    exact q
  · have q := h.on.sl' kAnA
    rw [← h.rn.1] at q
    exact q
  · obtain ⟨k, hk⟩ := List.mem_iff_getElem?.1 hy
    have hkl : k < t.B.length := by rw [← h.rb.1]; exact (List.getElem?_eq_some_iff.1 hk).1
    obtain ⟨p1, p2, _⟩ := h.rb.2 k _ y (List.getElem?_eq_getElem hkl) hk
    exact ⟨given_log9 (h.g.m4 _ (p2 hkl)), by rw [p1.2.2.2.2.2]; exact hbB _ (List.getElem_mem hkl)⟩
  · obtain ⟨k, hk⟩ := List.mem_iff_getElem?.1 hy
    have hkl : k < t.N.length := by rw [← h.rn.1]; exact (List.getElem?_eq_some_iff.1 hk).1
    obtain ⟨p1, p2, _⟩ := h.rn.2 k _ y (List.getElem?_eq_getElem hkl) hk
    exact ⟨given_log9 (h.g.m4 _ (p2 hkl)), by rw [p1.2.2.2.2.2]; exact hbN _ (List.getElem_mem hkl)⟩
theorem LB9.alike {la va9 : Option Addr} {lc vc : Nat} {X Bq b q3 i j : Nat} {x4 w : World} {t : Sta} {v2 v3 va vb : Value} {Da Db : List (SV (Int × Int))} {La Lb P : List (SV En)} {R : List Bl} {N : List An} (h : LB9 X Bq b q3 x4 w t v2 v3 va vb Da Db La Lb R N i j P) : t.Alike9 { t with la := la, lc := lc, va := va9, vc := vc, B := R, N := N } :=
  ⟨rfl, rfl, rfl, rfl, rfl, rfl, rfl, rfl, rfl, rfl, ⟨h.rb.1, fun k x y hx hy => (h.rb.2 k x y hx hy).1⟩, ⟨h.rn.1, fun k x y hx hy => (h.rn.2 k x y hx hy).1⟩⟩
theorem LB9.low {g1 c1 g2 c2 : Nat} {X Bq b q3 : Nat} {x4 w : World} {t : Sta} {v2 v3 va vb : Value} {Da Db : List (SV (Int × Int))} {La Lb P : List (SV En)} {R : List Bl} {N : List An} (h : LB9 X Bq b q3 x4 w t v2 v3 va vb Da Db La Lb R N t.B.length t.N.length P) (hlo : t.Lo Bq) (hX : Bq ≤ X) (h1 : (⟨some ⟨g1, 0, none⟩, c1, t.L ++ [mkE]⟩ : SV En) ∈ P) (h2 : (⟨some ⟨g2, 0, none⟩, c2, t.V ++ [mkD]⟩ : SV (Int × Int)) ∈ Da) :
    ({ t with la := some ⟨g1, 0, none⟩, lc := c1, va := some ⟨g2, 0, none⟩, vc := c2, B := R, N := N } : Sta).Lo Bq ∧ (∀ y ∈ R, ∀ a, y.s.a = some a → Bq ≤ a.block) ∧ ∀ y ∈ N, ∀ a, y.s.a = some a → Bq ≤ a.block := by
  refine ⟨⟨fun x hx => ?_, fun x hx => ?_, hlo.a, hlo.m, hlo.b, hlo.n⟩, fun y hy a ha => ?_, fun y hy a ha => ?_⟩
  · cases hx
    exact Nat.le_trans hX ((h.g.m4 _ (h.pl _ h1)).blk g1 rfl).1
  · cases hx
    exact Nat.le_trans hX ((h.g.m2 _ h2).blk g2 rfl).1
  · obtain ⟨k, hk⟩ := List.mem_iff_getElem?.1 hy
    have hkl : k < t.B.length := by rw [← h.rb.1]; exact (List.getElem?_eq_some_iff.1 hk).1
    have m := h.g.m4 _ ((h.rb.2 k _ y (List.getElem?_eq_getElem hkl) hk).2.1 hkl)
    obtain ⟨g, e⟩ := own_at9 m (by simp)
    have e2 : y.s.a = some ⟨g, 0, none⟩ := e
    rw [ha] at e2
    cases e2
    exact Nat.le_trans hX (m.blk g (by show Value.ownBlock (.slice y.s.a _ _) = _; rw [ha]; rfl)).1
  · obtain ⟨k, hk⟩ := List.mem_iff_getElem?.1 hy
    have hkl : k < t.N.length := by rw [← h.rn.1]; exact (List.getElem?_eq_some_iff.1 hk).1
    have m := h.g.m4 _ ((h.rn.2 k _ y (List.getElem?_eq_getElem hkl) hk).2.1 hkl)
    obtain ⟨g, e⟩ := own_at9 m (by simp)
    have e2 : y.s.a = some ⟨g, 0, none⟩ := e
    rw [ha] at e2
    cases e2
    exact Nat.le_trans hX (m.blk g (by show Value.ownBlock (.slice y.s.a _ _) = _; rw [ha]; rfl)).1
theorem Sta.In.upd9 {S : Nat → Prop} {B : Nat} {u : Sta} {w w' : World} (h : u.In w) (hl : u.Lo B ∧ (∀ y ∈ u.B, ∀ a, y.s.a = some a → B ≤ a.block) ∧ ∀ y ∈ u.N, ∀ a, y.s.a = some a → B ≤ a.block) (U : Upd S w w') (hS : ∀ k, S k → k < B) : u.In w' :=
  ⟨h.l.upd U (fun x hx _ hs => by have := hl.1.l x hx; have := hS _ hs; omega), h.v.upd U (fun x hx _ hs => by have := hl.1.v x hx; have := hS _ hs; omega), h.a.upd U (fun x hx _ hs => by have := hl.1.a x hx; have := hS _ hs; omega), h.m.upd U (fun x hx _ hs => by have := hl.1.m x hx; have := hS _ hs; omega), h.b.upd U (fun x hx _ hs => by have := hl.1.b x hx; have := hS _ hs; omega), h.n.upd U (fun x hx _ hs => by have := hl.1.n x hx; have := hS _ hs; omega),
    fun y hy => ⟨(h.bl y hy).1.upd U (fun x hx _ hs => by have := hl.2.1 y hy x hx; have := hS _ hs; omega), (h.bl y hy).2⟩, fun y hy => ⟨(h.nl y hy).1.upd U (fun x hx _ hs => by have := hl.2.2 y hy x hx; have := hS _ hs; omega), (h.nl y hy).2⟩⟩
theorem gs9_of {S : Nat → Prop} {b X : Nat} {w w9 : World} {v2 v3 v4 v5 : Value} {Da Db : List (SV (Int × Int))} {La Lb : List (SV En)} {u u2 : Sta} (G : GM w b X v2 v3 v4 v5 Da Db La Lb) (U : Upd S w w9) (hS : ∀ k, S k → k < X) (hc : ∀ i z, i < 8 → w.cell? ⟨b, i, none⟩ = some z → w9.cell? ⟨b, i, none⟩ = some z)
    (hD : Db.length = Da.length ∧ ∀ (i : Nat) (x y : SV (Int × Int)), Da[i]? = some x → Db[i]? = some y → x.D = y.D) (hL : Lb.length = La.length ∧ ∀ (i : Nat) (x y : SV En), La[i]? = some x → Lb[i]? = some y → x.D = y.D)
    (h8 : ∃ a c, w9.cell? ⟨b, 8, none⟩ = some (.slice a [u].length c) ∧ SlY yS9 w9 a [u].length c [u]) (h9 : ∃ a c, w9.cell? ⟨b, 9, none⟩ = some (.slice a [u2].length c) ∧ SlY yS9 w9 a [u2].length c [u2]) (iu : u.In w9) (iu2 : u2.In w9) (al : u.Alike9 u2) : GS9 w9 b [u] [u2] Da Db La Lb := by
  refine ⟨hc 0 _ (by omega) (G.ce 0 (by omega) (by omega)), hc 6 _ (by omega) (G.ce 6 (by omega) (by omega)), ?_, ?_, ?_, ?_, h8, h9, fun x hx => ((G.m2 x hx).upd1 U (fun k hk hs => by have := ((G.m2 x hx).blk k hk).1; have := hS k hs; omega)).sl' kD, fun x hx => ((G.m3 x hx).upd1 U (fun k hk hs => by have := ((G.m3 x hx).blk k hk).1; have := hS k hs; omega)).sl' kD, fun x hx => ((G.m4 x hx).upd1 U (fun k hk hs => by have := ((G.m4 x hx).blk k hk).1; have := hS k hs; omega)).sl' kE, fun x hx => ((G.m5 x hx).upd1 U (fun k hk hs => by have := ((G.m5 x hx).blk k hk).1; have := hS k hs; omega)).sl' kE, fun x hx => by simp at hx; rw [hx]; exact iu, fun x hx => by simp at hx; rw [hx]; exact iu2, hD.1, hL.1, rfl, hD.2, hL.2, fun i x y hx hy => ?_⟩
  · obtain ⟨a, c, e, s, _⟩ := (G.o2.upd1 U (fun k hk hs => by have := (G.o2.blk k hk).1; have := hS k hs; omega)).sl kzD
    exact ⟨a, c, hc 2 _ (by omega) (by rw [G.c2, e]), s⟩
  · obtain ⟨a, c, e, s, _⟩ := (G.o3.upd1 U (fun k hk hs => by have := (G.o3.blk k hk).1; have := hS k hs; omega)).sl kzD
    exact ⟨a, c, hc 3 _ (by omega) (by rw [G.c3, e]), s⟩
  · obtain ⟨a, c, e, s, _⟩ := (G.o4.upd1 U (fun k hk hs => by have := (G.o4.blk k hk).1; have := hS k hs; omega)).sl kzE
    exact ⟨a, c, hc 4 _ (by omega) (by rw [G.c4, e]), s⟩
  · obtain ⟨a, c, e, s, _⟩ := (G.o5.upd1 U (fun k hk hs => by have := (G.o5.blk k hk).1; have := hS k hs; omega)).sl kzE
    exact ⟨a, c, hc 5 _ (by omega) (by rw [G.c5, e]), s⟩
  · cases i with
    | zero => simp at hx hy; subst hx hy; exact al
    | succ n => simp at hx
theorem kS9 : yS9.Ok := ⟨by decide, fun x => rfl, fun x u h => by
    simp [yS9, Sta.cs] at h
    rcases h with rfl | rfl | rfl | rfl | rfl | rfl | rfl | rfl | rfl | rfl | rfl | rfl <;> rfl, Tryz.underlying38, ⟨zS8.val, by kernel_rfl, rfl⟩⟩
theorem bsS9 (x : Sta) (w : World) : (Instr.buildSlice 38 1 #[(0, x.val)]).run Tryz.prog w = .ok (.slice (some ⟨w.heap.size, 0, none⟩) 1 1) (w.alloc (.cells (yS9.cs x).toArray 33)) := by
  unfold Sta.val
  go_simp
  first | done | rfl
theorem stG8 {w : World} {q i : Nat} {z : Value} (h : w.cell? ⟨q, i, none⟩ = some z) (hf : w.frozen? ⟨q, i, none⟩ = false) (a : Option Addr) (n c : Nat) : (Instr.storeAt 38 (.pointer (some ⟨q, i, none⟩)) (.slice a n c)).run Tryz.prog w = .ok () (w.setCell ⟨q, i, none⟩ (.slice a n c)) := by go_simp
theorem Sta.Alike9.bmem {s u : Sta} (h : s.Alike9 u) {y : Bl} (hy : y ∈ u.B) : ∃ x ∈ s.B, Bl.Like x y := by
  obtain ⟨k, hk⟩ := List.mem_iff_getElem?.1 hy
  have hkl : k < s.B.length := by rw [← h.b.1]; exact (List.getElem?_eq_some_iff.1 hk).1
  exact ⟨_, List.getElem_mem hkl, h.b.2 k _ y (List.getElem?_eq_getElem hkl) hk⟩
theorem Sta.Alike9.nmem {s u : Sta} (h : s.Alike9 u) {y : An} (hy : y ∈ u.N) : ∃ x ∈ s.N, An.Like x y := by
  obtain ⟨k, hk⟩ := List.mem_iff_getElem?.1 hy
  have hkl : k < s.N.length := by rw [← h.n.1]; exact (List.getElem?_eq_some_iff.1 hk).1
  exact ⟨_, List.getElem_mem hkl, h.n.2 k _ y (List.getElem?_eq_getElem hkl) hk⟩
theorem Sta.Alike9.fit {s u : Sta} (h : s.Alike9 u) (hF : s.Fit) : u.Fit := by
  refine ⟨by rw [h.l]; exact hF.le, fun y hy => ?_, fun y hy => ?_, by rw [h.l]; exact hF.ll, by rw [h.v]; exact hF.vl, by rw [h.a]; exact hF.al, by rw [h.m]; exact hF.ml, by rw [h.b.1]; exact hF.bl, by rw [h.n.1]; exact hF.nl⟩
  · obtain ⟨x, hx, k⟩ := h.bmem hy
    rw [k.2.2.2.2.2]
    exact hF.be x hx
  · obtain ⟨x, hx, k⟩ := h.nmem hy
    rw [k.2.2.2.2.2]
    exact hF.ne x hx
theorem Sta.Alike9.bb {s u : Sta} (h : s.Alike9 u) {m : Nat} (hb : ∀ x ∈ s.B, x.s.D.length * 48 ≤ m) : ∀ x ∈ u.B, x.s.D.length * 48 ≤ m := fun y hy => by
  obtain ⟨x, hx, k⟩ := h.bmem hy
  rw [k.2.2.2.2.2]
  exact hb x hx
theorem Sta.Alike9.nb {s u : Sta} (h : s.Alike9 u) {m : Nat} (hb : ∀ x ∈ s.N, x.s.D.length * 48 ≤ m) : ∀ x ∈ u.N, x.s.D.length * 48 ≤ m := fun y hy => by
  obtain ⟨x, hx, k⟩ := h.nmem hy
  rw [k.2.2.2.2.2]
  exact hb x hx
end Go.Proofs.YtphdnmamopgelaaGreat
