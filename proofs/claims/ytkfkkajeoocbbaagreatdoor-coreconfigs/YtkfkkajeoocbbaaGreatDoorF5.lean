import Derived.Test.YtkfkkajeoocbbaaGreatDoorF4
set_option maxRecDepth 100000
set_option linter.unusedVariables false
set_option linter.unusedSimpArgs false
namespace Go.Proofs.YtkfkkajeoocbbaaGreatDoor
open Go.RowKit Go.Maps
open Classical
theorem want_k {ops : Array Oper} {o : Oper} {T : Array Value} {g j : Nat} {pol : Bool} (h : o.guard = some (g, pol)) (hg : (ops[g]?).bind (·.dst) = some j) (hj : T[j]? = some (gw true (.bool pol))) : Region.wanted o (yielded ops T) = true := by
  rw [want_g h hg hj]
  simp
theorem vq_call {ops : Array Oper} {rest : List Oper} {o : Oper} {T : Array Value} {df : List Deferred} {C : World → Prop} {Q : Act → Prop} {d n : Nat} (c : Bool) (V : Value) {fid : FuncId} {args : Array Value} (hw : Region.wanted o (yielded ops T) = c) (he : c = true → ∀ v, C v → (execOp (⟨T, df⟩ : Act).eval o).run Tryz.prog v = .ok (.enter fid args) v)
    (hc : c = true → ∀ v, C v → Calls Tryz.prog fid args v fun e w' => e = .returned V ∧ C w') (hd : o.dst = some d) (hz : T.size = n) (hn : d < n)
    (hk : ∀ T' : Array Value, T'.size = n → (∀ i, i ≠ d → T'[i]? = T[i]?) → T'[d]? = some (gw c V) → VJ ops C Q rest ⟨T', df⟩) : VJ ops C Q (o :: rest) ⟨T, df⟩ := by
  cases c with
  | false =>
    refine ⟨BigFrame.wpQuiet_skip hw ?_⟩
    rw [hd]
    exact (hk (T.setIfInBounds d undef) (by simp [hz]) (fun i hi => at_set_ne _ hi) (at_set _ (by omega))).out
  | true =>
    refine ⟨BigFrame.wpQuiet_want hw (fun K hK => ⟨V, fun v hv => by unfold Oper.quietAt; rw [he rfl v hv]; exact ⟨rfl, hc rfl v hv⟩, hK _ ?_⟩)⟩
    rw [hd]
    exact (hk (T.setIfInBounds d V) (by simp [hz]) (fun i hi => at_set_ne _ hi) (at_set _ (by omega))).out
theorem bel8 {w v : World} {B : Nat} {f : FuncId} {args : Array Value} {V : Value} (hv : Below B w v) (h : Calls Tryz.prog f args v fun e w' => e = .returned V ∧ Below v.heap.size v w') (hB : B ≤ v.heap.size := by first | assumption | (have := hv.size; omega)) : Calls Tryz.prog f args v fun e w' => e = .returned V ∧ Below B w w' :=
  h.mono fun e w' ⟨h1, h2⟩ => ⟨h1, hv.trans (h2.mono hB)⟩
theorem ex_ext8 {o : Oper} {ρ : Operand → Value} {x : Operand} {i : Nat} {X V : Value} {w : World} (ho : o.op = .extract x i) (hx : ρ x = X) (hr : (Instr.extract X i).run Tryz.prog w = .ok V w) : (execOp ρ o).run Tryz.prog w = .ok (.value V) w := by
  unfold execOp
  simp only [ho, hx]
  simp [hr]
theorem ex_box8 {o : Oper} {ρ : Operand → Value} {s : TypeId} {x : Operand} {X V : Value} {w w' : World} (ho : o.op = .box s x) (hx : ρ x = X) (hr : (Instr.box s X).run Tryz.prog w = .ok V w') : (execOp ρ o).run Tryz.prog w = .ok (.value V) w' := by
  unfold execOp
  simp only [ho, hx, Sem.run_bind, hr, Result.andThen_ok]
  rfl
def inB (x a b : Int) : Bool := decide (a ≤ x) && decide (x ≤ b)
theorem inB_iff {x a b : Int} : inB x a b = true ↔ a ≤ x ∧ x ≤ b := by simp [inB]
def Cg.okB (c : Cg) : Bool := (inB c.F 1 3 && inB c.R 1 256) && inB c.P 6 100
def Cg.er (c : Cg) : Int := bif c.okB then 0 else 1
def Cg.nd (c : Cg) : Int := bif c.okB then 2 * c.F + 1 else 0
def Cg.pr (c : Cg) (v : Int) : Int := bif (c.okB && inB v 0 4294967296) then v % c.nd else -1
theorem Cg.nd_ok {c : Cg} (h : c.okB = true) : c.nd = 2 * c.F + 1 ∧ 1 ≤ c.F ∧ c.F ≤ 3 := by
  have h2 := h
  simp only [Cg.okB, Bool.and_eq_true, inB_iff] at h2
  exact ⟨by simp [Cg.nd, h], h2.1.1⟩
theorem addD8 (x y : Operand) (a b z : Int) (h : IntKind.i64.wrap (a + b) = z) (w : World) : (do eqGuard .add 3 x y (.int .i64 a) (.int .i64 b); binOp .add 3 (.int .i64 a) (.int .i64 b) : Sem Value).run Tryz.prog w = .ok (.int .i64 z) w := by
  subst h
  go_simp
theorem subD8 (x y : Operand) (a b z : Int) (h : IntKind.i64.wrap (a - b) = z) (w : World) : (do eqGuard .sub 3 x y (.int .i64 a) (.int .i64 b); binOp .sub 3 (.int .i64 a) (.int .i64 b) : Sem Value).run Tryz.prog w = .ok (.int .i64 z) w := by
  subst h
  go_simp
theorem mulD8 (x y : Operand) (a b z : Int) (h : IntKind.i64.wrap (a * b) = z) (w : World) : (do eqGuard .mul 3 x y (.int .i64 a) (.int .i64 b); binOp .mul 3 (.int .i64 a) (.int .i64 b) : Sem Value).run Tryz.prog w = .ok (.int .i64 z) w := by
  subst h
  go_simp
theorem remD8 (x y : Operand) (a b : Int) (ha : 0 ≤ a) (hb : 0 < b) (hb2 : b < 4611686018427387904) (w : World) : (do eqGuard .rem 3 x y (.int .i64 a) (.int .i64 b); binOp .rem 3 (.int .i64 a) (.int .i64 b) : Sem Value).run Tryz.prog w = .ok (.int .i64 (a % b)) w := by
  have hb0 : b ≠ 0 := by omega
  have e : a.tmod b = a % b := Int.tmod_eq_emod_of_nonneg ha
  have h1 := Int.emod_nonneg a hb0
  have h2 := Int.emod_lt_of_pos a hb
  have e2 : IntKind.i64.wrap (a % b) = a % b := by rw [IntKind.wrap_i64]; omega
  go_simp
  first | done | (rw [e, e2]) | (simp [e, e2]) | (rw [e])
theorem neqDr7 (x y : Operand) (r r' : Int × Int) (w : World) : (do eqGuard .neq 26 x y (.agg #[.int .u64 r.1, .int .u64 r.2]) (.agg #[.int .u64 r'.1, .int .u64 r'.2]); binOp .neq 26 (.agg #[.int .u64 r.1, .int .u64 r.2]) (.agg #[.int .u64 r'.1, .int .u64 r'.2]) : Sem Value).run Tryz.prog w = .ok (.bool (!decide (r = r'))) w := by
  obtain ⟨a, b⟩ := r
  obtain ⟨a', b'⟩ := r'
  go_simp
  by_cases e1 : a = a' <;> by_cases e2 : b = b' <;> simp [e1, e2]
theorem Cg.P_ok {c : Cg} (h : c.okB = true) : 6 ≤ c.P ∧ c.P ≤ 100 := by
  simp only [Cg.okB, Bool.and_eq_true, inB_iff] at h
  exact h.2
theorem ldDr8 {w : World} {q o : Nat} {d : Int × Int} (h0 : w.cell? ⟨q, o, none⟩ = some (.int .u64 d.1)) (h1 : w.cell? ⟨q, o + 1, none⟩ = some (.int .u64 d.2)) : (Instr.loadAt 26 (.pointer (some ⟨q, o, none⟩))).run Tryz.prog w = .ok (.agg #[.int .u64 d.1, .int .u64 d.2]) w := by go_simp
theorem vec_at8 {w : World} {a : Option Addr} {n c : Nat} {V : List (Int × Int)} {k : Int} (h : SlY yD w a n c V) (hk : 0 ≤ k ∧ k < (n : Int)) : ∃ q o, a = some ⟨q, o, none⟩ ∧ (∀ v, (Instr.indexAt 30 (.slice a n c) (.int .i64 k)).run Tryz.prog v = .ok (.pointer (some ⟨q, o + k.toNat * 2, none⟩)) v) ∧ ∀ v, Below w.heap.size w v → (Instr.loadAt 26 (.pointer (some ⟨q, o + k.toNat * 2, none⟩))).run Tryz.prog v = .ok (.agg #[.int .u64 (V.getD k.toNat (0, 0)).1, .int .u64 (V.getD k.toNat (0, 0)).2]) v := by
  obtain ⟨j, rfl⟩ := Int.eq_ofNat_of_zero_le hk.1
  have hl := h.len
  have hj : j < V.length := by omega
  obtain ⟨q, o, rfl, hq, hlie⟩ := h.place (by rintro rfl; simp at hj)
  have hg := List.getElem?_eq_getElem hj
  have e : V.getD (j : Int).toNat (0, 0) = V[j] := by simp [List.getD, hg]
  rw [e]
  refine ⟨q, o, rfl, fun v => ?_, fun v hv => ?_⟩
  · have h1 : (j : Int) < (n : Int) := hk.2
    simp only [Int.toNat_natCast]
    go_simp
  · have l0 := hlie _ _ hg 0 _ rfl
    have l1 := hlie _ _ hg 1 _ rfl
    exact ldDr8 (cell8 l0 hv) (cell8 l1 hv)
def Sta.votB (s : Sta) (c : Cg) : Bool := ((decide (Ak.ck c s.self s.A = 0) && decide (Mk.ck c s.self s.M = 0)) && decide (Bl.ck c s.self s.B = 0)) && decide (An.ck c s.self s.N = 0)
def Sta.numB (s : Sta) (c : Cg) : Bool := (((((decide ((chk s.L c.R).1 = 0) && decide ((if (s.V.length : Int) = c.nd then (0 : Int) else 30) = 0)) && inB s.self 0 (c.nd - 1)) && inB s.view 0 4294967296) && inB s.last 0 s.view) && inB s.commit 0 (s.L.length : Int)) && inB s.idle 0 (c.P - 1)
def Sta.recB (s : Sta) : Bool := ((decide (s.view = 0) && decide (s.idle = 0)) && decide ((((s.L.length : Int) + (s.A.length : Int)) + (s.M.length : Int)) + (s.B.length : Int) = 0)) && (!decide (s.V.getD s.self.toNat (0, 0) = (0, 0)))
set_option maxHeartbeats 1000000 in
theorem vcheck_any (f : Int) (a : Option Addr) (n c : Nat) (w : World) (hf1 : 1 ≤ f) (hf2 : f ≤ 3) : Calls Tryz.prog 148 #[.slice a n c, .int .i64 (2 * f + 1)] w fun e w' => e = .returned (.int .i64 (if (n : Int) = 2 * f + 1 then 0 else 30)) ∧ Below w.heap.size w w' := by
  have h3 : f = 1 ∨ f = 2 ∨ f = 3 := by omega
  by_cases h : (n : Int) = 2 * f + 1
  · rw [if_pos h]
    rcases h3 with rfl | rfl | rfl
    · have hq : ((n : Int) != 3) = false := by simp; omega
      clear h
      go_enter Tryz.func148, Tryz.ntmps148
      go_wp2_with (go_at_call 163; go_in)
      go_ret
      exact ⟨rfl, Below.refl _ _⟩
    · have hq : ((n : Int) != 5) = false := by simp; omega
      clear h
      go_enter Tryz.func148, Tryz.ntmps148
      go_wp2_with (go_at_call 163; go_in)
      go_ret
      exact ⟨rfl, Below.refl _ _⟩
    · have hq : ((n : Int) != 7) = false := by simp; omega
      clear h
      go_enter Tryz.func148, Tryz.ntmps148
      go_wp2_with (go_at_call 163; go_in)
      go_ret
      exact ⟨rfl, Below.refl _ _⟩
  · rw [if_neg h]
    rcases h3 with rfl | rfl | rfl
    · have hq : ((n : Int) != 3) = true := by simp; omega
      clear h
      go_enter Tryz.func148, Tryz.ntmps148
      go_wp2_with (go_at_call 163; go_in)
      go_ret
      exact ⟨rfl, Below.refl _ _⟩
    · have hq : ((n : Int) != 5) = true := by simp; omega
      clear h
      go_enter Tryz.func148, Tryz.ntmps148
      go_wp2_with (go_at_call 163; go_in)
      go_ret
      exact ⟨rfl, Below.refl _ _⟩
    · have hq : ((n : Int) != 7) = true := by simp; omega
      clear h
      go_enter Tryz.func148, Tryz.ntmps148
      go_wp2_with (go_at_call 163; go_in)
      go_ret
      exact ⟨rfl, Below.refl _ _⟩
theorem vcheck8 (c : Cg) (a : Option Addr) (n k : Nat) (w : World) (hok : c.okB = true) : Calls Tryz.prog 148 #[.slice a n k, .int .i64 c.nd] w fun e w' => e = .returned (.int .i64 (if (n : Int) = c.nd then 0 else 30)) ∧ Below w.heap.size w w' := by
  obtain ⟨h1, h2, h3⟩ := Cg.nd_ok hok
  rw [h1]
  exact vcheck_any c.F a n k w h2 h3
set_option maxHeartbeats 1000000 in
theorem within8 (x a b : Int) (w : World)  : Calls Tryz.prog 57 #[.int .i64 x, .int .i64 a, .int .i64 b] w fun e w' => e = .returned (.bool (inB x a b)) ∧ Below w.heap.size w w' := by
  go_enter Tryz.func57, Tryz.ntmps57
  go_upto_region 0 with fail
  refine wp_region_lit ?_
  refine vl_gen (fun T => T.size = 15 ∧ T[0]? = some (gw true (.int .i64 x)) ∧ T[1]? = some (gw true (.int .i64 a)) ∧ T[2]? = some (gw true (.int .i64 b))) ⟨rfl, rfl, rfl, rfl⟩ (fun Z0 ⟨hz, s0, s1, s2⟩ => ?_)
  have hB : Below w.heap.size w w := Below.refl _ _
  have hv0 : Below w.heap.size w w := Below.refl _ _
  refine vt (.bool false) (ex_assign rfl rfl) hz (fun Ya zz kk s6 => ?_)
  replace s0 := ku s0
  replace s1 := ku s1
  replace s2 := ku s2
  replace hz := zz
  clear kk zz
  clear s6
  refine wpList_nil ?_
  go_upto_region 1 with fail
  refine wp_region_lit ?_
  refine vt _ (ex_move rfl (ev s0 rfl)) hz (fun Yb zz kk s7 => ?_)
  replace s0 := ku s0
  replace s1 := ku s1
  replace s2 := ku s2
  replace hz := zz
  clear kk zz
  refine vt _ (ex_move rfl (ev s1 rfl)) hz (fun Yc zz kk s8 => ?_)
  replace s0 := ku s0
  replace s2 := ku s2
  replace s7 := ku s7
  replace hz := zz
  clear kk zz s1 Yb
  refine vt (.bool (decide (a ≤ x))) (ex_bin rfl (ev s7 rfl) (ev s8 rfl) (geqC _ _ _ _ _)) hz (fun Yd zz kk s9 => ?_)
  replace s0 := ku s0
  replace s2 := ku s2
  replace hz := zz
  clear kk zz s7 s8 Yc
  refine vt _ (ex_move rfl (ev s9 rfl)) hz (fun Ye zz kk s10 => ?_)
  replace s0 := ku s0
  replace s2 := ku s2
  replace hz := zz
  clear kk zz s9 Yd
  refine vl _ _ (want_g rfl rfl s10) (fun hc => ex_move rfl (ev s0 rfl)) rfl hz (by decide) (fun Yf zz kk s11 => ?_)
  replace s2 := ku s2
  replace s10 := ku s10
  replace hz := zz
  clear kk zz s0 Ye
  refine vl _ _ (want_g rfl rfl s10) (fun hc => ex_move rfl (ev s2 rfl)) rfl hz (by decide) (fun Yg zz kk s12 => ?_)
  replace s10 := ku s10
  replace s11 := ku s11
  replace hz := zz
  clear kk zz s2 Yf
  refine vl _ (.bool (decide (x ≤ b))) (want_g rfl rfl s10) (fun hc => ex_bin rfl (ev s11 hc) (ev s12 hc) (leqC8 _ _ _ _ _)) rfl hz (by decide) (fun Yh zz kk s13 => ?_)
  replace s10 := ku s10
  replace hz := zz
  clear kk zz s11 s12 Yg
  refine vt (.bool ((decide (a ≤ x)) && (decide (x ≤ b)))) (ex_and rfl s10 s13 rfl) hz (fun Yi zz kk s14 => ?_)
  replace hz := zz
  clear kk zz s10 s13 Yh
  refine vt _ (ex_assign rfl (ev s14 rfl)) hz (fun Yj zz kk s6 => ?_)
  replace hz := zz
  clear kk zz s14 Yi
  refine wpList_nil ?_
  go_wp2
  refine bodyPost_ret (results_tmp rfl _ _ _) rfl ⟨?_, hB.trans (hv0.mono (by omega))⟩
  rw [getD_of s6]
  rfl
set_option maxHeartbeats 1000000 in
theorem checkconfig8 (c : Cg) (w : World)  : Calls Tryz.prog 18 #[c.val] w fun e w' => e = .returned (.int .i64 c.er) ∧ Below w.heap.size w w' := by
  go_enter Tryz.func18, Tryz.ntmps18
  go_upto_region 0 with fail
  refine wp_region_lit ?_
  refine vl_gen (fun T => T.size = 16 ∧ T[0]? = some (gw true (c.val))) ⟨rfl, rfl⟩ (fun Z0 ⟨hz, s0⟩ => ?_)
  obtain ⟨w1, hw1⟩ : ∃ y, y = w.alloc (.cells c.cs.toArray 23) := ⟨_, rfl⟩
  have hb : Below w.heap.size w w1 := by rw [hw1]; exact (Below.refl _ _).alloc (Nat.le_refl _) _
  have hs1 : w1.heap.size = w.heap.size + 1 := by rw [hw1]; simp
  have HC : CB7 w1 (w.heap.size) c := by rw [hw1]; exact BX7.new _ _ _
  refine vw (.pointer (some ⟨w.heap.size, 0, none⟩)) w1 (want_none rfl) (ex_box8 rfl (ev s0 rfl) (by rw [hw1]; exact bxC7 _ _)) rfl hz (by decide) (fun Z1 zz kk s1x => ?_)
  clear kk hz s0 hw1
  have hz := zz
  have s1 := s1x
  clear zz s1x
  have hB := hb
  clear hb
  have hv0 : Below w1.heap.size w1 w1 := Below.refl _ _
  refine vt (.int .i64 0) (ex_assign rfl rfl) hz (fun Ya zz kk s2 => ?_)
  replace s1 := ku s1
  replace hz := zz
  clear kk zz
  clear s2
  refine wpList_nil ?_
  go_upto_region 1 with fail
  refine wp_region_lit ?_
  refine vt (.pointer (some ⟨w.heap.size, 0, none⟩)) (ex_fa rfl (ev s1 rfl) (faC0 _ _)) hz (fun Yb zz kk s3 => ?_)
  replace s1 := ku s1
  replace hz := zz
  clear kk zz
  refine vt (.int .i64 c.F) (ex_ld rfl (ev s3 rfl) (ldI8 (cell8 (HC.cell 0 _ rfl) hv0))) hz (fun Yc zz kk s4 => ?_)
  replace s1 := ku s1
  replace hz := zz
  clear kk zz s3 Yb
  refine vcall true (.bool (inB (c.F) (1) (3))) (want_none rfl) (fun hc => ex_call rfl (by simp only [List.map_toArray, List.map_cons, List.map_nil, (ev s4 rfl), evc] <;> rfl) rfl) (fun hc => within8 (c.F) (1) (3) w1) rfl hz (by decide) (fun Yd x1 hb zz kk s5 => ?_)
  have hx1 := hv0.trans (hb.mono hv0.size)
  clear hb
  replace s1 := ku s1
  replace hz := zz
  clear kk zz s4 Yc
  refine vt _ (ex_move rfl (ev s5 rfl)) hz (fun Ye zz kk s6 => ?_)
  replace s1 := ku s1
  replace hz := zz
  clear kk zz s5 Yd
  refine vl _ (.pointer (some ⟨w.heap.size, 1, none⟩)) (want_g rfl rfl s6) (fun hc => ex_fa rfl (ev s1 rfl) (faC1 _ _)) rfl hz (by decide) (fun Yf zz kk s7 => ?_)
  replace s1 := ku s1
  replace s6 := ku s6
  replace hz := zz
  clear kk zz Ye
  refine vl _ (.int .i64 c.R) (want_g rfl rfl s6) (fun hc => ex_ld rfl (ev s7 hc) (ldI8 (cell8 (HC.cell 1 _ rfl) hx1))) rfl hz (by decide) (fun Yg zz kk s8 => ?_)
  replace s1 := ku s1
  replace s6 := ku s6
  replace hz := zz
  clear kk zz s7 Yf
  refine vcall (true && ((inB (c.F) (1) (3)) == true)) (.bool (inB (c.R) (1) (256))) (want_g rfl rfl s6) (fun hc => ex_call rfl (by simp only [List.map_toArray, List.map_cons, List.map_nil, (ev s8 hc), evc] <;> rfl) rfl) (fun hc => within8 (c.R) (1) (256) x1) rfl hz (by decide) (fun Yh x2 hb zz kk s9 => ?_)
  have hx2 := hx1.trans (hb.mono hx1.size)
  clear hb
  replace s1 := ku s1
  replace s6 := ku s6
  replace hz := zz
  clear kk zz s8 Yg
  refine vt (.bool ((inB (c.F) (1) (3)) && (inB (c.R) (1) (256)))) (ex_and rfl s6 s9 rfl) hz (fun Yi zz kk s10 => ?_)
  replace s1 := ku s1
  replace hz := zz
  clear kk zz s6 s9 Yh
  refine vt _ (ex_move rfl (ev s10 rfl)) hz (fun Yj zz kk s11 => ?_)
  replace s1 := ku s1
  replace hz := zz
  clear kk zz s10 Yi
  refine vl _ (.pointer (some ⟨w.heap.size, 2, none⟩)) (want_g rfl rfl s11) (fun hc => ex_fa rfl (ev s1 rfl) (faC2 _ _)) rfl hz (by decide) (fun Yk zz kk s12 => ?_)
  replace s11 := ku s11
  replace hz := zz
  clear kk zz s1 Yj
  refine vl _ (.int .i64 c.P) (want_g rfl rfl s11) (fun hc => ex_ld rfl (ev s12 hc) (ldI8 (cell8 (HC.cell 2 _ rfl) hx2))) rfl hz (by decide) (fun Yl zz kk s13 => ?_)
  replace s11 := ku s11
  replace hz := zz
  clear kk zz s12 Yk
  refine vcall (true && (((inB (c.F) (1) (3)) && (inB (c.R) (1) (256))) == true)) (.bool (inB (c.P) (6) (100))) (want_g rfl rfl s11) (fun hc => ex_call rfl (by simp only [List.map_toArray, List.map_cons, List.map_nil, (ev s13 hc), evc] <;> rfl) rfl) (fun hc => within8 (c.P) (6) (100) x2) rfl hz (by decide) (fun Ym x3 hb zz kk s14 => ?_)
  have hx3 := hx2.trans (hb.mono hx2.size)
  clear hb
  replace s11 := ku s11
  replace hz := zz
  clear kk zz s13 Yl
  refine vt (.bool (((inB (c.F) (1) (3)) && (inB (c.R) (1) (256))) && (inB (c.P) (6) (100)))) (ex_and rfl s11 s14 rfl) hz (fun Yn zz kk s15 => ?_)
  replace hz := zz
  clear kk zz s11 s14 Ym
  refine wpList_nil ?_
  go_upto_region 2 with fail
  cases e15 : (((inB (c.F) (1) (3)) && (inB (c.R) (1) (256))) && (inB (c.P) (6) (100)))
  · refine wp_cond_false ((ev s15 rfl).trans (congrArg Value.bool e15)) ?_
    go_upto_region 3 with fail
    refine wp_region_lit ?_
    refine vt (.int .i64 1) (ex_assign rfl rfl) hz (fun Yo zz kk s2 => ?_)
    replace hz := zz
    clear kk zz s15
    refine wpList_nil ?_
    go_wp2
    refine bodyPost_ret (results_tmp rfl _ _ _) rfl ⟨?_, hB.trans (hx3.mono (by omega))⟩
    rw [getD_of s2]
    rw [show c.er = 1 from by unfold Cg.er Cg.okB; rw [e15]; rfl]
    rfl
  · refine wp_cond_true ((ev s15 rfl).trans (congrArg Value.bool e15)) ?_
    go_upto_region 2 with fail
    refine wp_region_lit ?_
    refine vt (.int .i64 0) (ex_assign rfl rfl) hz (fun Yp zz kk s2 => ?_)
    replace hz := zz
    clear kk zz s15
    refine wpList_nil ?_
    go_wp2
    refine bodyPost_ret (results_tmp rfl _ _ _) rfl ⟨?_, hB.trans (hx3.mono (by omega))⟩
    rw [getD_of s2]
    rw [show c.er = 0 from by unfold Cg.er Cg.okB; rw [e15]; rfl]
    rfl
set_option maxHeartbeats 1000000 in
theorem nodes8 (c : Cg) (w : World)  : Calls Tryz.prog 20 #[c.val] w fun e w' => e = .returned (.int .i64 c.nd) ∧ Below w.heap.size w w' := by
  go_enter Tryz.func20, Tryz.ntmps20
  go_upto_region 0 with fail
  refine wp_region_lit ?_
  refine vl_gen (fun T => T.size = 10 ∧ T[0]? = some (gw true (c.val))) ⟨rfl, rfl⟩ (fun Z0 ⟨hz, s0⟩ => ?_)
  obtain ⟨w1, hw1⟩ : ∃ y, y = w.alloc (.cells c.cs.toArray 23) := ⟨_, rfl⟩
  have hb : Below w.heap.size w w1 := by rw [hw1]; exact (Below.refl _ _).alloc (Nat.le_refl _) _
  have hs1 : w1.heap.size = w.heap.size + 1 := by rw [hw1]; simp
  have HC : CB7 w1 (w.heap.size) c := by rw [hw1]; exact BX7.new _ _ _
  refine vw (.pointer (some ⟨w.heap.size, 0, none⟩)) w1 (want_none rfl) (ex_box8 rfl (ev s0 rfl) (by rw [hw1]; exact bxC7 _ _)) rfl hz (by decide) (fun Z1 zz kk s1x => ?_)
  clear kk hz s0 hw1
  have hz := zz
  have s1 := s1x
  clear zz s1x
  have hB := hb
  clear hb
  have hv0 : Below w1.heap.size w1 w1 := Below.refl _ _
  refine vt (.int .i64 0) (ex_assign rfl rfl) hz (fun Ya zz kk s2 => ?_)
  replace s1 := ku s1
  replace hz := zz
  clear kk zz
  clear s2
  refine wpList_nil ?_
  go_upto_region 1 with fail
  refine wp_region_lit ?_
  refine vt (c.val) (ex_ld rfl (ev s1 rfl) (CB7.ld (HC.bel hv0))) hz (fun Yb zz kk s3 => ?_)
  replace s1 := ku s1
  replace hz := zz
  clear kk zz
  refine vcall true (.int .i64 c.er) (want_none rfl) (fun hc => ex_call rfl (by simp only [List.map_toArray, List.map_cons, List.map_nil, (ev s3 rfl), evc] <;> rfl) rfl) (fun hc => checkconfig8 c w1) rfl hz (by decide) (fun Yc x1 hb zz kk s4 => ?_)
  have hx1 := hv0.trans (hb.mono hv0.size)
  clear hb
  replace s1 := ku s1
  replace hz := zz
  clear kk zz s3 Yb
  refine vt (.bool (!decide (c.er = 0))) (ex_bin rfl (ev s4 rfl) rfl (neqN8 _ _ _ _ _)) hz (fun Yd zz kk s5 => ?_)
  replace s1 := ku s1
  replace hz := zz
  clear kk zz s4 Yc
  refine wpList_nil ?_
  go_upto_region 2 with fail
  cases eo : c.okB
  · refine wp_cond_true ((ev s5 rfl).trans (by unfold Cg.er; rw [eo]; rfl)) ?_
    go_upto_region 2 with fail
    refine wp_region_lit ?_
    refine vt (.int .i64 0) (ex_assign rfl rfl) hz (fun Ye zz kk s2 => ?_)
    replace hz := zz
    clear kk zz s1 s5
    refine wpList_nil ?_
    go_wp2
    refine bodyPost_ret (results_tmp rfl _ _ _) rfl ⟨?_, hB.trans (hx1.mono (by omega))⟩
    rw [getD_of s2]
    rw [show c.nd = 0 from by unfold Cg.nd; rw [eo]; rfl]
    rfl
  · refine wp_cond_false ((ev s5 rfl).trans (by unfold Cg.er; rw [eo]; rfl)) ?_
    obtain ⟨h1, h2, h3⟩ := Cg.nd_ok eo
    go_upto_region 3 with fail
    refine wp_region_lit ?_
    refine vt (.pointer (some ⟨w.heap.size, 0, none⟩)) (ex_fa rfl (ev s1 rfl) (faC0 _ _)) hz (fun Yf zz kk s6 => ?_)
    replace hz := zz
    clear kk zz s1
    refine vt (.int .i64 c.F) (ex_ld rfl (ev s6 rfl) (ldI8 (cell8 (HC.cell 0 _ rfl) hx1))) hz (fun Yg zz kk s7 => ?_)
    replace hz := zz
    clear kk zz s6 Yf
    refine vt (.int .i64 (2 * c.F)) (ex_bin rfl rfl (ev s7 rfl) (mulD8 _ _ 2 c.F (2 * c.F) (by rw [IntKind.wrap_i64]; omega) _)) hz (fun Yh zz kk s8 => ?_)
    replace hz := zz
    clear kk zz s7 Yg
    refine vt (.int .i64 (2 * c.F + 1)) (ex_bin rfl (ev s8 rfl) rfl (addD8 _ _ (2 * c.F) 1 (2 * c.F + 1) (by rw [IntKind.wrap_i64]; omega) _)) hz (fun Yi zz kk s9 => ?_)
    replace hz := zz
    clear kk zz s8 Yh
    refine vt _ (ex_assign rfl (ev s9 rfl)) hz (fun Yj zz kk s2 => ?_)
    replace hz := zz
    clear kk zz s9 Yi
    refine wpList_nil ?_
    go_wp2
    refine bodyPost_ret (results_tmp rfl _ _ _) rfl ⟨?_, hB.trans (hx1.mono (by omega))⟩
    rw [getD_of s2]
    rw [h1]
    rfl
set_option maxHeartbeats 1000000 in
theorem primary8 (c : Cg) (x : Int) (w : World)  : Calls Tryz.prog 22 #[c.val, .int .i64 x] w fun e w' => e = .returned (.int .i64 (c.pr x)) ∧ Below w.heap.size w w' := by
  go_enter Tryz.func22, Tryz.ntmps22
  go_upto_region 0 with fail
  refine wp_region_lit ?_
  refine vl_gen (fun T => T.size = 17 ∧ T[0]? = some (gw true (c.val)) ∧ T[1]? = some (gw true (.int .i64 x))) ⟨rfl, rfl, rfl⟩ (fun Z0 ⟨hz, s0, s1⟩ => ?_)
  obtain ⟨w1, hw1⟩ : ∃ y, y = w.alloc (.cells c.cs.toArray 23) := ⟨_, rfl⟩
  have hb : Below w.heap.size w w1 := by rw [hw1]; exact (Below.refl _ _).alloc (Nat.le_refl _) _
  have hs1 : w1.heap.size = w.heap.size + 1 := by rw [hw1]; simp
  have HC : CB7 w1 (w.heap.size) c := by rw [hw1]; exact BX7.new _ _ _
  refine vw (.pointer (some ⟨w.heap.size, 0, none⟩)) w1 (want_none rfl) (ex_box8 rfl (ev s0 rfl) (by rw [hw1]; exact bxC7 _ _)) rfl hz (by decide) (fun Z1 zz kk s2x => ?_)
  replace s1 := ku s1
  clear kk hz s0 hw1
  have hz := zz
  have s2 := s2x
  clear zz s2x
  have hB := hb
  clear hb
  have hv0 : Below w1.heap.size w1 w1 := Below.refl _ _
  refine vt (.int .i64 0) (ex_assign rfl rfl) hz (fun Ya zz kk s4 => ?_)
  replace s1 := ku s1
  replace s2 := ku s2
  replace hz := zz
  clear kk zz
  clear s4
  refine wpList_nil ?_
  go_upto_region 1 with fail
  refine wp_region_lit ?_
  refine vt (c.val) (ex_ld rfl (ev s2 rfl) (CB7.ld (HC.bel hv0))) hz (fun Yb zz kk s5 => ?_)
  replace s1 := ku s1
  replace s2 := ku s2
  replace hz := zz
  clear kk zz
  refine vcall true (.int .i64 c.er) (want_none rfl) (fun hc => ex_call rfl (by simp only [List.map_toArray, List.map_cons, List.map_nil, (ev s5 rfl), evc] <;> rfl) rfl) (fun hc => checkconfig8 c w1) rfl hz (by decide) (fun Yc x1 hb zz kk s6 => ?_)
  have hx1 := hv0.trans (hb.mono hv0.size)
  clear hb
  replace s1 := ku s1
  replace s2 := ku s2
  replace hz := zz
  clear kk zz s5 Yb
  refine vt (.bool (!decide (c.er = 0))) (ex_bin rfl (ev s6 rfl) rfl (neqN8 _ _ _ _ _)) hz (fun Yd zz kk s7 => ?_)
  replace s1 := ku s1
  replace s2 := ku s2
  replace hz := zz
  clear kk zz s6 Yc
  refine vt _ (ex_move rfl (ev s7 rfl)) hz (fun Ye zz kk s8 => ?_)
  replace s1 := ku s1
  replace s2 := ku s2
  replace hz := zz
  clear kk zz s7 Yd
  refine vl _ _ (want_g rfl rfl s8) (fun hc => ex_move rfl (ev s1 rfl)) rfl hz (by decide) (fun Yf zz kk s9 => ?_)
  replace s1 := ku s1
  replace s2 := ku s2
  replace s8 := ku s8
  replace hz := zz
  clear kk zz Ye
  refine vcall (true && ((!decide (c.er = 0)) == false)) (.bool (inB (x) (0) (4294967296))) (want_g rfl rfl s8) (fun hc => ex_call rfl (by simp only [List.map_toArray, List.map_cons, List.map_nil, (ev s9 hc), evc] <;> rfl) rfl) (fun hc => within8 (x) (0) (4294967296) x1) rfl hz (by decide) (fun Yg x2 hb zz kk s10 => ?_)
  have hx2 := hx1.trans (hb.mono hx1.size)
  clear hb
  replace s1 := ku s1
  replace s2 := ku s2
  replace s8 := ku s8
  replace hz := zz
  clear kk zz s9 Yf
  refine vl _ (.bool (!(inB (x) (0) (4294967296)))) (want_g rfl rfl s8) (fun hc => ex_not rfl (ev s10 hc)) rfl hz (by decide) (fun Yh zz kk s11 => ?_)
  replace s1 := ku s1
  replace s2 := ku s2
  replace s8 := ku s8
  replace hz := zz
  clear kk zz s10 Yg
  refine vt (.bool ((!decide (c.er = 0)) || (!(inB (x) (0) (4294967296))))) (ex_or rfl s8 s11 rfl) hz (fun Yi zz kk s12 => ?_)
  replace s1 := ku s1
  replace s2 := ku s2
  replace hz := zz
  clear kk zz s8 s11 Yh
  refine wpList_nil ?_
  go_upto_region 2 with fail
  cases eo : (c.okB && inB x 0 4294967296)
  · refine wp_cond_true ((ev s12 rfl).trans (by unfold Cg.er; revert eo; cases c.okB <;> cases inB x 0 4294967296 <;> intro eo <;> first | rfl | cases eo)) ?_
    go_upto_region 2 with fail
    refine wp_region_lit ?_
    refine vt (.int IntKind.i64 (-1)) (ex_assign rfl rfl) hz (fun Yj zz kk s4 => ?_)
    replace hz := zz
    clear kk zz s1 s2 s12
    refine wpList_nil ?_
    go_wp2
    refine bodyPost_ret (results_tmp rfl _ _ _) rfl ⟨?_, hB.trans (hx2.mono (by omega))⟩
    rw [getD_of s4]
    rw [show c.pr x = -1 from by unfold Cg.pr; rw [eo]; rfl]
    rfl
  · refine wp_cond_false ((ev s12 rfl).trans (by unfold Cg.er; revert eo; cases c.okB <;> cases inB x 0 4294967296 <;> intro eo <;> first | rfl | cases eo)) ?_
    have eo2 : c.okB = true ∧ inB x 0 4294967296 = true := by simpa using eo
    obtain ⟨h1, h2, h3⟩ := Cg.nd_ok eo2.1
    have h4 := inB_iff.1 eo2.2
    have h5 : 0 < c.nd := by omega
    go_upto_region 3 with fail
    refine wp_region_lit ?_
    refine vt _ (ex_move rfl (ev s1 rfl)) hz (fun Yk zz kk s13 => ?_)
    replace s2 := ku s2
    replace hz := zz
    clear kk zz s1
    refine vt (c.val) (ex_ld rfl (ev s2 rfl) (CB7.ld (HC.bel hx2))) hz (fun Yl zz kk s14 => ?_)
    replace s13 := ku s13
    replace hz := zz
    clear kk zz s2 Yk
    refine vcall true (.int .i64 c.nd) (want_none rfl) (fun hc => ex_call rfl (by simp only [List.map_toArray, List.map_cons, List.map_nil, (ev s14 rfl), evc] <;> rfl) rfl) (fun hc => nodes8 c x2) rfl hz (by decide) (fun Ym x3 hb zz kk s15 => ?_)
    have hx3 := hx2.trans (hb.mono hx2.size)
    clear hb
    replace s13 := ku s13
    replace hz := zz
    clear kk zz s14 Yl
    refine vt (.int .i64 (x % c.nd)) (ex_bin rfl (ev s13 rfl) (ev s15 rfl) (remD8 _ _ x c.nd h4.1 h5 (by omega) _)) hz (fun Yn zz kk s16 => ?_)
    replace hz := zz
    clear kk zz s13 s15 Ym
    refine vt _ (ex_assign rfl (ev s16 rfl)) hz (fun Yo zz kk s4 => ?_)
    replace hz := zz
    clear kk zz s16 Yn
    refine wpList_nil ?_
    go_wp2
    refine bodyPost_ret (results_tmp rfl _ _ _) rfl ⟨?_, hB.trans (hx3.mono (by omega))⟩
    rw [getD_of s4]
    rw [show c.pr x = x % c.nd from by unfold Cg.pr; rw [eo]; rfl]
    rfl
set_option maxHeartbeats 1000000 in
theorem isprimary8 (c : Cg) (s : Sta) (w : World)  : Calls Tryz.prog 136 #[c.val, s.val] w fun e w' => e = .returned (.bool (decide (s.self = c.pr s.view))) ∧ Below w.heap.size w w' := by
  go_enter Tryz.func136, Tryz.ntmps136
  go_upto_region 0 with fail
  refine wp_region_lit ?_
  refine vl_gen (fun T => T.size = 12 ∧ T[0]? = some (gw true (c.val)) ∧ T[1]? = some (gw true (s.val))) ⟨rfl, rfl, rfl⟩ (fun Z0 ⟨hz, s0, s1⟩ => ?_)
  obtain ⟨w1, hw1⟩ : ∃ y, y = w.alloc (.cells c.cs.toArray 23) := ⟨_, rfl⟩
  have hb : Below w.heap.size w w1 := by rw [hw1]; exact (Below.refl _ _).alloc (Nat.le_refl _) _
  have hs1 : w1.heap.size = w.heap.size + 1 := by rw [hw1]; simp
  have HC : CB7 w1 (w.heap.size) c := by rw [hw1]; exact BX7.new _ _ _
  refine vw (.pointer (some ⟨w.heap.size, 0, none⟩)) w1 (want_none rfl) (ex_box8 rfl (ev s0 rfl) (by rw [hw1]; exact bxC7 _ _)) rfl hz (by decide) (fun Z1 zz kk s2x => ?_)
  replace s1 := ku s1
  clear kk hz s0 hw1
  have hz := zz
  have s2 := s2x
  clear zz s2x
  have hB := hb
  clear hb
  obtain ⟨w2, hw2⟩ : ∃ y, y = w1.alloc (.cells s.cs.toArray 36) := ⟨_, rfl⟩
  have hb : Below w1.heap.size w1 w2 := by rw [hw2]; exact (Below.refl _ _).alloc (Nat.le_refl _) _
  have hs2 : w2.heap.size = w.heap.size + 2 := by rw [hw2]; simp; omega
  have HS : SB7 w2 (w.heap.size + 1) s := by rw [hw2, ← hs1]; exact BX7.new _ _ _
  refine vw (.pointer (some ⟨w.heap.size + 1, 0, none⟩)) w2 (want_none rfl) (ex_box8 rfl (ev s1 rfl) (by rw [hw2, ← hs1]; exact bxS7 _ _)) rfl hz (by decide) (fun Z2 zz kk s3x => ?_)
  replace s2 := ku s2
  clear kk hz s1 hw2
  have hz := zz
  have s3 := s3x
  clear zz s3x
  have hB := hB.trans (hb.mono (by omega))
  have HC := HC.bel hb
  clear hb
  have hv0 : Below w2.heap.size w2 w2 := Below.refl _ _
  refine vt (.bool false) (ex_assign rfl rfl) hz (fun Ya zz kk s4 => ?_)
  replace s2 := ku s2
  replace s3 := ku s3
  replace hz := zz
  clear kk zz
  clear s4
  refine wpList_nil ?_
  go_upto_region 1 with fail
  refine vq_start (C := fun v => Below w2.heap.size w2 v) (by kernel_rfl) (by kernel_rfl) hv0.drew ?_
  refine vq true (.pointer (some ⟨w.heap.size + 1, 0, none⟩)) (want_none rfl) (fun hc v hv => ex_fa rfl (ev s3 rfl) (faS0 _ _)) rfl hz (by decide) (fun Yb zz kk s5 => ?_)
  replace s2 := ku s2
  replace s3 := ku s3
  replace hz := zz
  clear kk zz
  refine vq true (.int .i64 s.self) (want_none rfl) (fun hc v hv => ex_ld rfl (ev s5 rfl) (ldI8 (cell8 (HS.cell 0 _ rfl) hv))) rfl hz (by decide) (fun Yc zz kk s6 => ?_)
  replace s2 := ku s2
  replace s3 := ku s3
  replace hz := zz
  clear kk zz s5 Yb
  refine vq true (c.val) (want_none rfl) (fun hc v hv => ex_ld rfl (ev s2 rfl) (CB7.ld (HC.bel hv))) rfl hz (by decide) (fun Yd zz kk s7 => ?_)
  replace s3 := ku s3
  replace s6 := ku s6
  replace hz := zz
  clear kk zz s2 Yc
  refine vq true (.pointer (some ⟨w.heap.size + 1, 2, none⟩)) (want_none rfl) (fun hc v hv => ex_fa rfl (ev s3 rfl) (faS2 _ _)) rfl hz (by decide) (fun Ye zz kk s8 => ?_)
  replace s6 := ku s6
  replace s7 := ku s7
  replace hz := zz
  clear kk zz s3 Yd
  refine vq true (.int .i64 s.view) (want_none rfl) (fun hc v hv => ex_ld rfl (ev s8 rfl) (ldI8 (cell8 (HS.cell 2 _ rfl) hv))) rfl hz (by decide) (fun Yf zz kk s9 => ?_)
  replace s6 := ku s6
  replace s7 := ku s7
  replace hz := zz
  clear kk zz s8 Ye
  refine vq_call true (.int .i64 (c.pr (s.view))) (want_none rfl) (fun hc v hv => ex_call rfl (by simp only [List.map_toArray, List.map_cons, List.map_nil, (ev s7 rfl), (ev s9 rfl), evc] <;> rfl) rfl) (fun hc v hv => (bel8 hv (primary8 c (s.view) v))) rfl hz (by decide) (fun Yg zz kk s10 => ?_)
  replace s6 := ku s6
  replace hz := zz
  clear kk zz s7 s9 Yf
  refine vq true (.bool (decide (s.self = (c.pr (s.view))))) (want_none rfl) (fun hc v hv => ex_bin rfl (ev s6 rfl) (ev s10 rfl) (eqlC _ _ _ _ _)) rfl hz (by decide) (fun Yh zz kk s11 => ?_)
  replace hz := zz
  clear kk zz s6 s10 Yg
  refine vq true _ (want_none rfl) (fun hc v hv => ex_assign rfl (ev s11 rfl)) rfl hz (by decide) (fun Yi zz kk s4 => ?_)
  replace hz := zz
  clear kk zz s11 Yh
  refine vq_nil (fun x1 hx1 => ?_)
  go_wp2
  refine bodyPost_ret (results_tmp rfl _ _ _) rfl ⟨?_, hB.trans (hx1.mono (by omega))⟩
  rw [getD_of s4]
  rfl
set_option maxHeartbeats 1000000 in
theorem votes8 (c : Cg) (s : Sta) (w : World) (hI : s.In w) (hF : s.Fit) : Calls Tryz.prog 120 #[c.val, s.val] w fun e w' => e = .returned (.bool (s.votB c)) ∧ Below w.heap.size w w' := by
  go_enter Tryz.func120, Tryz.ntmps120
  go_upto_region 0 with fail
  refine wp_region_lit ?_
  refine vl_gen (fun T => T.size = 39 ∧ T[0]? = some (gw true (c.val)) ∧ T[1]? = some (gw true (s.val))) ⟨rfl, rfl, rfl⟩ (fun Z0 ⟨hz, s0, s1⟩ => ?_)
  obtain ⟨w1, hw1⟩ : ∃ y, y = w.alloc (.cells c.cs.toArray 23) := ⟨_, rfl⟩
  have hb : Below w.heap.size w w1 := by rw [hw1]; exact (Below.refl _ _).alloc (Nat.le_refl _) _
  have hs1 : w1.heap.size = w.heap.size + 1 := by rw [hw1]; simp
  have HC : CB7 w1 (w.heap.size) c := by rw [hw1]; exact BX7.new _ _ _
  refine vw (.pointer (some ⟨w.heap.size, 0, none⟩)) w1 (want_none rfl) (ex_box8 rfl (ev s0 rfl) (by rw [hw1]; exact bxC7 _ _)) rfl hz (by decide) (fun Z1 zz kk s2x => ?_)
  replace s1 := ku s1
  clear kk hz s0 hw1
  have hz := zz
  have s2 := s2x
  clear zz s2x
  have hB := hb
  clear hb
  obtain ⟨w2, hw2⟩ : ∃ y, y = w1.alloc (.cells s.cs.toArray 36) := ⟨_, rfl⟩
  have hb : Below w1.heap.size w1 w2 := by rw [hw2]; exact (Below.refl _ _).alloc (Nat.le_refl _) _
  have hs2 : w2.heap.size = w.heap.size + 2 := by rw [hw2]; simp; omega
  have HS : SB7 w2 (w.heap.size + 1) s := by rw [hw2, ← hs1]; exact BX7.new _ _ _
  refine vw (.pointer (some ⟨w.heap.size + 1, 0, none⟩)) w2 (want_none rfl) (ex_box8 rfl (ev s1 rfl) (by rw [hw2, ← hs1]; exact bxS7 _ _)) rfl hz (by decide) (fun Z2 zz kk s3x => ?_)
  replace s2 := ku s2
  clear kk hz s1 hw2
  have hz := zz
  have s3 := s3x
  clear zz s3x
  have hB := hB.trans (hb.mono (by omega))
  have HC := HC.bel hb
  clear hb
  have hv0 : Below w2.heap.size w2 w2 := Below.refl _ _
  have HI := hI.later hB
  refine vt (.bool false) (ex_assign rfl rfl) hz (fun Ya zz kk s4 => ?_)
  replace s2 := ku s2
  replace s3 := ku s3
  replace hz := zz
  clear kk zz
  clear s4
  refine wpList_nil ?_
  go_upto_region 1 with fail
  refine wp_region_lit ?_
  refine vt (c.val) (ex_ld rfl (ev s2 rfl) (CB7.ld (HC.bel hv0))) hz (fun Yb zz kk s5 => ?_)
  replace s2 := ku s2
  replace s3 := ku s3
  replace hz := zz
  clear kk zz
  refine vt (.pointer (some ⟨w.heap.size + 1, 0, none⟩)) (ex_fa rfl (ev s3 rfl) (faS0 _ _)) hz (fun Yc zz kk s6 => ?_)
  replace s2 := ku s2
  replace s3 := ku s3
  replace s5 := ku s5
  replace hz := zz
  clear kk zz Yb
  refine vt (.int .i64 s.self) (ex_ld rfl (ev s6 rfl) (ldI8 (cell8 (HS.cell 0 _ rfl) hv0))) hz (fun Yd zz kk s7 => ?_)
  replace s2 := ku s2
  replace s3 := ku s3
  replace s5 := ku s5
  replace hz := zz
  clear kk zz s6 Yc
  refine vt (.pointer (some ⟨w.heap.size + 1, 8, none⟩)) (ex_fa rfl (ev s3 rfl) (faS8 _ _)) hz (fun Ye zz kk s8 => ?_)
  replace s2 := ku s2
  replace s3 := ku s3
  replace s5 := ku s5
  replace s7 := ku s7
  replace hz := zz
  clear kk zz Yd
  refine vt (.slice s.ka s.A.length s.kc) (ex_ld rfl (ev s8 rfl) (ldK8 (cell8 (HS.cell 8 _ rfl) hv0))) hz (fun Yf zz kk s9 => ?_)
  replace s2 := ku s2
  replace s3 := ku s3
  replace s5 := ku s5
  replace s7 := ku s7
  replace hz := zz
  clear kk zz s8 Ye
  refine vcall true (.int .i64 (Ak.ck c s.self s.A)) (want_none rfl) (fun hc => ex_call rfl (by simp only [List.map_toArray, List.map_cons, List.map_nil, (ev s5 rfl), (ev s7 rfl), (ev s9 rfl), evc] <;> rfl) rfl) (fun hc => Ak.Check_any c s.self s.A s.ka _ s.kc w2 (HI.a.later hv0) (by have := hF.al; omega)) rfl hz (by decide) (fun Yg x1 hb zz kk s10 => ?_)
  have hx1 := hv0.trans (hb.mono hv0.size)
  clear hb
  replace s2 := ku s2
  replace s3 := ku s3
  replace hz := zz
  clear kk zz s5 s7 s9 Yf
  refine vt (.bool (decide ((Ak.ck c s.self s.A) = 0))) (ex_bin rfl (ev s10 rfl) rfl (eqlN8 _ _ _ _ _)) hz (fun Yh zz kk s11 => ?_)
  replace s2 := ku s2
  replace s3 := ku s3
  replace hz := zz
  clear kk zz s10 Yg
  refine vt _ (ex_move rfl (ev s11 rfl)) hz (fun Yi zz kk s12 => ?_)
  replace s2 := ku s2
  replace s3 := ku s3
  replace hz := zz
  clear kk zz s11 Yh
  refine vl _ (c.val) (want_g rfl rfl s12) (fun hc => ex_ld rfl (ev s2 rfl) (CB7.ld (HC.bel hx1))) rfl hz (by decide) (fun Yj zz kk s13 => ?_)
  replace s2 := ku s2
  replace s3 := ku s3
  replace s12 := ku s12
  replace hz := zz
  clear kk zz Yi
  refine vl _ (.pointer (some ⟨w.heap.size + 1, 0, none⟩)) (want_g rfl rfl s12) (fun hc => ex_fa rfl (ev s3 rfl) (faS0 _ _)) rfl hz (by decide) (fun Yk zz kk s14 => ?_)
  replace s2 := ku s2
  replace s3 := ku s3
  replace s12 := ku s12
  replace s13 := ku s13
  replace hz := zz
  clear kk zz Yj
  refine vl _ (.int .i64 s.self) (want_g rfl rfl s12) (fun hc => ex_ld rfl (ev s14 hc) (ldI8 (cell8 (HS.cell 0 _ rfl) hx1))) rfl hz (by decide) (fun Yl zz kk s15 => ?_)
  replace s2 := ku s2
  replace s3 := ku s3
  replace s12 := ku s12
  replace s13 := ku s13
  replace hz := zz
  clear kk zz s14 Yk
  refine vl _ (.pointer (some ⟨w.heap.size + 1, 9, none⟩)) (want_g rfl rfl s12) (fun hc => ex_fa rfl (ev s3 rfl) (faS9 _ _)) rfl hz (by decide) (fun Ym zz kk s16 => ?_)
  replace s2 := ku s2
  replace s3 := ku s3
  replace s12 := ku s12
  replace s13 := ku s13
  replace s15 := ku s15
  replace hz := zz
  clear kk zz Yl
  refine vl _ (.slice s.ma s.M.length s.mc) (want_g rfl rfl s12) (fun hc => ex_ld rfl (ev s16 hc) (ldM8 (cell8 (HS.cell 9 _ rfl) hx1))) rfl hz (by decide) (fun Yn zz kk s17 => ?_)
  replace s2 := ku s2
  replace s3 := ku s3
  replace s12 := ku s12
  replace s13 := ku s13
  replace s15 := ku s15
  replace hz := zz
  clear kk zz s16 Ym
  refine vcall (true && ((decide ((Ak.ck c s.self s.A) = 0)) == true)) (.int .i64 (Mk.ck c s.self s.M)) (want_g rfl rfl s12) (fun hc => ex_call rfl (by simp only [List.map_toArray, List.map_cons, List.map_nil, (ev s13 hc), (ev s15 hc), (ev s17 hc), evc] <;> rfl) rfl) (fun hc => Mk.Check_any c s.self s.M s.ma _ s.mc x1 (HI.m.later hx1) (by have := hF.ml; omega)) rfl hz (by decide) (fun Yo x2 hb zz kk s18 => ?_)
  have hx2 := hx1.trans (hb.mono hx1.size)
  clear hb
  replace s2 := ku s2
  replace s3 := ku s3
  replace s12 := ku s12
  replace hz := zz
  clear kk zz s13 s15 s17 Yn
  refine vl _ (.bool (decide ((Mk.ck c s.self s.M) = 0))) (want_g rfl rfl s12) (fun hc => ex_bin rfl (ev s18 hc) rfl (eqlN8 _ _ _ _ _)) rfl hz (by decide) (fun Yp zz kk s19 => ?_)
  replace s2 := ku s2
  replace s3 := ku s3
  replace s12 := ku s12
  replace hz := zz
  clear kk zz s18 Yo
  refine vt (.bool ((decide ((Ak.ck c s.self s.A) = 0)) && (decide ((Mk.ck c s.self s.M) = 0)))) (ex_and rfl s12 s19 rfl) hz (fun Yq zz kk s20 => ?_)
  replace s2 := ku s2
  replace s3 := ku s3
  replace hz := zz
  clear kk zz s12 s19 Yp
  refine vt _ (ex_move rfl (ev s20 rfl)) hz (fun Yr zz kk s21 => ?_)
  replace s2 := ku s2
  replace s3 := ku s3
  replace hz := zz
  clear kk zz s20 Yq
  refine vl _ (c.val) (want_g rfl rfl s21) (fun hc => ex_ld rfl (ev s2 rfl) (CB7.ld (HC.bel hx2))) rfl hz (by decide) (fun Ys zz kk s22 => ?_)
  replace s2 := ku s2
  replace s3 := ku s3
  replace s21 := ku s21
  replace hz := zz
  clear kk zz Yr
  refine vl _ (.pointer (some ⟨w.heap.size + 1, 0, none⟩)) (want_g rfl rfl s21) (fun hc => ex_fa rfl (ev s3 rfl) (faS0 _ _)) rfl hz (by decide) (fun Yt zz kk s23 => ?_)
  replace s2 := ku s2
  replace s3 := ku s3
  replace s21 := ku s21
  replace s22 := ku s22
  replace hz := zz
  clear kk zz Ys
  refine vl _ (.int .i64 s.self) (want_g rfl rfl s21) (fun hc => ex_ld rfl (ev s23 hc) (ldI8 (cell8 (HS.cell 0 _ rfl) hx2))) rfl hz (by decide) (fun Yu zz kk s24 => ?_)
  replace s2 := ku s2
  replace s3 := ku s3
  replace s21 := ku s21
  replace s22 := ku s22
  replace hz := zz
  clear kk zz s23 Yt
  refine vl _ (.pointer (some ⟨w.heap.size + 1, 10, none⟩)) (want_g rfl rfl s21) (fun hc => ex_fa rfl (ev s3 rfl) (faS10 _ _)) rfl hz (by decide) (fun Yv zz kk s25 => ?_)
  replace s2 := ku s2
  replace s3 := ku s3
  replace s21 := ku s21
  replace s22 := ku s22
  replace s24 := ku s24
  replace hz := zz
  clear kk zz Yu
  refine vl _ (.slice s.ba s.B.length s.bc) (want_g rfl rfl s21) (fun hc => ex_ld rfl (ev s25 hc) (ldB8 (cell8 (HS.cell 10 _ rfl) hx2))) rfl hz (by decide) (fun Yw zz kk s26 => ?_)
  replace s2 := ku s2
  replace s3 := ku s3
  replace s21 := ku s21
  replace s22 := ku s22
  replace s24 := ku s24
  replace hz := zz
  clear kk zz s25 Yv
  refine vcall (true && (((decide ((Ak.ck c s.self s.A) = 0)) && (decide ((Mk.ck c s.self s.M) = 0))) == true)) (.int .i64 (Bl.ck c s.self s.B)) (want_g rfl rfl s21) (fun hc => ex_call rfl (by simp only [List.map_toArray, List.map_cons, List.map_nil, (ev s22 hc), (ev s24 hc), (ev s26 hc), evc] <;> rfl) rfl) (fun hc => Bl.Check_any c s.self s.B s.ba _ s.bc x2 (HI.b.later hx2) (by have := hF.bl; omega) (fun x hx => ⟨⟨(HI.bl x hx).1.later hx2, (HI.bl x hx).2⟩, hF.be x hx⟩)) rfl hz (by decide) (fun Yx x3 hb zz kk s27 => ?_)
  have hx3 := hx2.trans (hb.mono hx2.size)
  clear hb
  replace s2 := ku s2
  replace s3 := ku s3
  replace s21 := ku s21
  replace hz := zz
  clear kk zz s22 s24 s26 Yw
  refine vl _ (.bool (decide ((Bl.ck c s.self s.B) = 0))) (want_g rfl rfl s21) (fun hc => ex_bin rfl (ev s27 hc) rfl (eqlN8 _ _ _ _ _)) rfl hz (by decide) (fun Yy zz kk s28 => ?_)
  replace s2 := ku s2
  replace s3 := ku s3
  replace s21 := ku s21
  replace hz := zz
  clear kk zz s27 Yx
  refine vt (.bool (((decide ((Ak.ck c s.self s.A) = 0)) && (decide ((Mk.ck c s.self s.M) = 0))) && (decide ((Bl.ck c s.self s.B) = 0)))) (ex_and rfl s21 s28 rfl) hz (fun Yz zz kk s29 => ?_)
  replace s2 := ku s2
  replace s3 := ku s3
  replace hz := zz
  clear kk zz s21 s28 Yy
  refine vt _ (ex_move rfl (ev s29 rfl)) hz (fun Y0 zz kk s30 => ?_)
  replace s2 := ku s2
  replace s3 := ku s3
  replace hz := zz
  clear kk zz s29 Yz
  refine vl _ (c.val) (want_g rfl rfl s30) (fun hc => ex_ld rfl (ev s2 rfl) (CB7.ld (HC.bel hx3))) rfl hz (by decide) (fun Y1 zz kk s31 => ?_)
  replace s3 := ku s3
  replace s30 := ku s30
  replace hz := zz
  clear kk zz s2 Y0
  refine vl _ (.pointer (some ⟨w.heap.size + 1, 0, none⟩)) (want_g rfl rfl s30) (fun hc => ex_fa rfl (ev s3 rfl) (faS0 _ _)) rfl hz (by decide) (fun Y2 zz kk s32 => ?_)
  replace s3 := ku s3
  replace s30 := ku s30
  replace s31 := ku s31
  replace hz := zz
  clear kk zz Y1
  refine vl _ (.int .i64 s.self) (want_g rfl rfl s30) (fun hc => ex_ld rfl (ev s32 hc) (ldI8 (cell8 (HS.cell 0 _ rfl) hx3))) rfl hz (by decide) (fun Y3 zz kk s33 => ?_)
  replace s3 := ku s3
  replace s30 := ku s30
  replace s31 := ku s31
  replace hz := zz
  clear kk zz s32 Y2
  refine vl _ (.pointer (some ⟨w.heap.size + 1, 11, none⟩)) (want_g rfl rfl s30) (fun hc => ex_fa rfl (ev s3 rfl) (faS11 _ _)) rfl hz (by decide) (fun Y4 zz kk s34 => ?_)
  replace s30 := ku s30
  replace s31 := ku s31
  replace s33 := ku s33
  replace hz := zz
  clear kk zz s3 Y3
  refine vl _ (.slice s.na s.N.length s.nc) (want_g rfl rfl s30) (fun hc => ex_ld rfl (ev s34 hc) (ldN8 (cell8 (HS.cell 11 _ rfl) hx3))) rfl hz (by decide) (fun Y5 zz kk s35 => ?_)
  replace s30 := ku s30
  replace s31 := ku s31
  replace s33 := ku s33
  replace hz := zz
  clear kk zz s34 Y4
  refine vcall (true && ((((decide ((Ak.ck c s.self s.A) = 0)) && (decide ((Mk.ck c s.self s.M) = 0))) && (decide ((Bl.ck c s.self s.B) = 0))) == true)) (.int .i64 (An.ck c s.self s.N)) (want_g rfl rfl s30) (fun hc => ex_call rfl (by simp only [List.map_toArray, List.map_cons, List.map_nil, (ev s31 hc), (ev s33 hc), (ev s35 hc), evc] <;> rfl) rfl) (fun hc => An.Check_any c s.self s.N s.na _ s.nc x3 (HI.n.later hx3) (by have := hF.nl; omega) (fun x hx => ⟨⟨(HI.nl x hx).1.later hx3, (HI.nl x hx).2⟩, hF.ne x hx⟩)) rfl hz (by decide) (fun Y6 x4 hb zz kk s36 => ?_)
  have hx4 := hx3.trans (hb.mono hx3.size)
  clear hb
  replace s30 := ku s30
  replace hz := zz
  clear kk zz s31 s33 s35 Y5
  refine vl _ (.bool (decide ((An.ck c s.self s.N) = 0))) (want_g rfl rfl s30) (fun hc => ex_bin rfl (ev s36 hc) rfl (eqlN8 _ _ _ _ _)) rfl hz (by decide) (fun Y7 zz kk s37 => ?_)
  replace s30 := ku s30
  replace hz := zz
  clear kk zz s36 Y6
  refine vt (.bool ((((decide ((Ak.ck c s.self s.A) = 0)) && (decide ((Mk.ck c s.self s.M) = 0))) && (decide ((Bl.ck c s.self s.B) = 0))) && (decide ((An.ck c s.self s.N) = 0)))) (ex_and rfl s30 s37 rfl) hz (fun Y8 zz kk s38 => ?_)
  replace hz := zz
  clear kk zz s30 s37 Y7
  refine vt _ (ex_assign rfl (ev s38 rfl)) hz (fun Y9 zz kk s4 => ?_)
  replace hz := zz
  clear kk zz s38 Y8
  refine wpList_nil ?_
  go_wp2
  refine bodyPost_ret (results_tmp rfl _ _ _) rfl ⟨?_, hB.trans (hx4.mono (by omega))⟩
  rw [getD_of s4]
  rfl
set_option maxHeartbeats 1000000 in
theorem numbers8 (c : Cg) (s : Sta) (w : World) (hI : s.In w) (hF : s.Fit) (hok : c.okB = true) : Calls Tryz.prog 119 #[c.val, s.val] w fun e w' => e = .returned (.bool (s.numB c)) ∧ Below w.heap.size w w' := by
  go_enter Tryz.func119, Tryz.ntmps119
  go_upto_region 0 with fail
  refine wp_region_lit ?_
  refine vl_gen (fun T => T.size = 61 ∧ T[0]? = some (gw true (c.val)) ∧ T[1]? = some (gw true (s.val))) ⟨rfl, rfl, rfl⟩ (fun Z0 ⟨hz, s0, s1⟩ => ?_)
  obtain ⟨w1, hw1⟩ : ∃ y, y = w.alloc (.cells c.cs.toArray 23) := ⟨_, rfl⟩
  have hb : Below w.heap.size w w1 := by rw [hw1]; exact (Below.refl _ _).alloc (Nat.le_refl _) _
  have hs1 : w1.heap.size = w.heap.size + 1 := by rw [hw1]; simp
  have HC : CB7 w1 (w.heap.size) c := by rw [hw1]; exact BX7.new _ _ _
  refine vw (.pointer (some ⟨w.heap.size, 0, none⟩)) w1 (want_none rfl) (ex_box8 rfl (ev s0 rfl) (by rw [hw1]; exact bxC7 _ _)) rfl hz (by decide) (fun Z1 zz kk s2x => ?_)
  replace s1 := ku s1
  clear kk hz s0 hw1
  have hz := zz
  have s2 := s2x
  clear zz s2x
  have hB := hb
  clear hb
  obtain ⟨w2, hw2⟩ : ∃ y, y = w1.alloc (.cells s.cs.toArray 36) := ⟨_, rfl⟩
  have hb : Below w1.heap.size w1 w2 := by rw [hw2]; exact (Below.refl _ _).alloc (Nat.le_refl _) _
  have hs2 : w2.heap.size = w.heap.size + 2 := by rw [hw2]; simp; omega
  have HS : SB7 w2 (w.heap.size + 1) s := by rw [hw2, ← hs1]; exact BX7.new _ _ _
  refine vw (.pointer (some ⟨w.heap.size + 1, 0, none⟩)) w2 (want_none rfl) (ex_box8 rfl (ev s1 rfl) (by rw [hw2, ← hs1]; exact bxS7 _ _)) rfl hz (by decide) (fun Z2 zz kk s3x => ?_)
  replace s2 := ku s2
  clear kk hz s1 hw2
  have hz := zz
  have s3 := s3x
  clear zz s3x
  have hB := hB.trans (hb.mono (by omega))
  have HC := HC.bel hb
  clear hb
  have hv0 : Below w2.heap.size w2 w2 := Below.refl _ _
  have HI := hI.later hB
  obtain ⟨hn1, hn2, hn3⟩ := Cg.nd_ok hok
  have hP := Cg.P_ok hok
  refine vt (.bool false) (ex_assign rfl rfl) hz (fun Ya zz kk s4 => ?_)
  replace s2 := ku s2
  replace s3 := ku s3
  replace hz := zz
  clear kk zz
  clear s4
  refine wpList_nil ?_
  go_upto_region 1 with fail
  refine wp_region_lit ?_
  refine vt (.pointer (some ⟨w.heap.size + 1, 4, none⟩)) (ex_fa rfl (ev s3 rfl) (faS4 _ _)) hz (fun Yb zz kk s8 => ?_)
  replace s2 := ku s2
  replace s3 := ku s3
  replace hz := zz
  clear kk zz
  refine vt (.slice s.la s.L.length s.lc) (ex_ld rfl (ev s8 rfl) (ldE8 (cell8 (HS.cell 4 _ rfl) hv0))) hz (fun Yc zz kk s9 => ?_)
  replace s2 := ku s2
  replace s3 := ku s3
  replace hz := zz
  clear kk zz s8 Yb
  refine vt (.pointer (some ⟨w.heap.size, 1, none⟩)) (ex_fa rfl (ev s2 rfl) (faC1 _ _)) hz (fun Yd zz kk s10 => ?_)
  replace s2 := ku s2
  replace s3 := ku s3
  replace s9 := ku s9
  replace hz := zz
  clear kk zz Yc
  refine vt (.int .i64 c.R) (ex_ld rfl (ev s10 rfl) (ldI8 (cell8 (HC.cell 1 _ rfl) hv0))) hz (fun Ye zz kk s11 => ?_)
  replace s2 := ku s2
  replace s3 := ku s3
  replace s9 := ku s9
  replace hz := zz
  clear kk zz s10 Yd
  refine vcall true (.tuple #[.int .i64 (chk s.L c.R).1, .int .i64 (chk s.L c.R).2]) (want_none rfl) (fun hc => ex_call rfl (by simp only [List.map_toArray, List.map_cons, List.map_nil, (ev s9 rfl), (ev s11 rfl), evc] <;> rfl) rfl) (fun hc => checkO_any s.L s.la _ s.lc c.R w2 (HI.l.later hv0) hF.le) rfl hz (by decide) (fun Yf x1 hb zz kk s12 => ?_)
  have hx1 := hv0.trans (hb.mono hv0.size)
  clear hb
  replace s2 := ku s2
  replace s3 := ku s3
  replace hz := zz
  clear kk zz s9 s11 Ye
  refine vt _ (ex_move rfl (ev s12 rfl)) hz (fun Yg zz kk s7 => ?_)
  replace s2 := ku s2
  replace s3 := ku s3
  replace hz := zz
  clear kk zz s12 Yf
  refine vt (.int .i64 (chk s.L c.R).1) (ex_ext8 rfl (ev s7 rfl) rfl) hz (fun Yh zz kk s13 => ?_)
  replace s2 := ku s2
  replace s3 := ku s3
  replace s7 := ku s7
  replace hz := zz
  clear kk zz Yg
  refine vt (.int .i64 (chk s.L c.R).2) (ex_ext8 rfl (ev s7 rfl) rfl) hz (fun Yi zz kk s14 => ?_)
  replace s2 := ku s2
  replace s3 := ku s3
  replace s13 := ku s13
  replace hz := zz
  clear kk zz s7 Yh
  refine vt _ (ex_assign rfl (ev s13 rfl)) hz (fun Yj zz kk s5 => ?_)
  replace s2 := ku s2
  replace s3 := ku s3
  replace s14 := ku s14
  replace hz := zz
  clear kk zz s13 Yi
  refine vt _ (ex_assign rfl (ev s14 rfl)) hz (fun Yk zz kk s6 => ?_)
  replace s2 := ku s2
  replace s3 := ku s3
  replace s5 := ku s5
  replace hz := zz
  clear kk zz s14 Yj
  clear s6
  refine wpList_nil ?_
  go_upto_region 2 with fail
  refine vq_start (C := fun v => Below w2.heap.size w2 v) (by kernel_rfl) (by kernel_rfl) hx1.drew ?_
  refine vq true _ (want_none rfl) (fun hc v hv => ex_move rfl (ev s5 rfl)) rfl hz (by decide) (fun Yl zz kk s15 => ?_)
  replace s2 := ku s2
  replace s3 := ku s3
  replace hz := zz
  clear kk zz s5
  refine vq true (.bool (decide ((chk s.L c.R).1 = 0))) (want_none rfl) (fun hc v hv => ex_bin rfl (ev s15 rfl) rfl (eqlN8 _ _ _ _ _)) rfl hz (by decide) (fun Ym zz kk s16 => ?_)
  replace s2 := ku s2
  replace s3 := ku s3
  replace hz := zz
  clear kk zz s15 Yl
  refine vq true _ (want_none rfl) (fun hc v hv => ex_move rfl (ev s16 rfl)) rfl hz (by decide) (fun Yn zz kk s17 => ?_)
  replace s2 := ku s2
  replace s3 := ku s3
  replace hz := zz
  clear kk zz s16 Ym
  refine vq _ (.pointer (some ⟨w.heap.size + 1, 6, none⟩)) (want_g rfl rfl s17) (fun hc v hv => ex_fa rfl (ev s3 rfl) (faS6 _ _)) rfl hz (by decide) (fun Yo zz kk s18 => ?_)
  replace s2 := ku s2
  replace s3 := ku s3
  replace s17 := ku s17
  replace hz := zz
  clear kk zz Yn
  refine vq _ (.slice s.va s.V.length s.vc) (want_g rfl rfl s17) (fun hc v hv => ex_ld rfl (ev s18 hc) (ldV8 (cell8 (HS.cell 6 _ rfl) hv))) rfl hz (by decide) (fun Yp zz kk s19 => ?_)
  replace s2 := ku s2
  replace s3 := ku s3
  replace s17 := ku s17
  replace hz := zz
  clear kk zz s18 Yo
  refine vq _ (c.val) (want_g rfl rfl s17) (fun hc v hv => ex_ld rfl (ev s2 rfl) (CB7.ld (HC.bel hv))) rfl hz (by decide) (fun Yq zz kk s20 => ?_)
  replace s2 := ku s2
  replace s3 := ku s3
  replace s17 := ku s17
  replace s19 := ku s19
  replace hz := zz
  clear kk zz Yp
  refine vq_call (true && ((decide ((chk s.L c.R).1 = 0)) == true)) (.int .i64 c.nd) (want_g rfl rfl s17) (fun hc v hv => ex_call rfl (by simp only [List.map_toArray, List.map_cons, List.map_nil, (ev s20 hc), evc] <;> rfl) rfl) (fun hc v hv => (bel8 hv (nodes8 c v))) rfl hz (by decide) (fun Yr zz kk s21 => ?_)
  replace s2 := ku s2
  replace s3 := ku s3
  replace s17 := ku s17
  replace s19 := ku s19
  replace hz := zz
  clear kk zz s20 Yq
  refine vq_call (true && ((decide ((chk s.L c.R).1 = 0)) == true)) (.int .i64 (if (s.V.length : Int) = c.nd then 0 else 30)) (want_g rfl rfl s17) (fun hc v hv => ex_call rfl (by simp only [List.map_toArray, List.map_cons, List.map_nil, (ev s19 hc), (ev s21 hc), evc] <;> rfl) rfl) (fun hc v hv => (bel8 hv (vcheck8 c s.va s.V.length s.vc v hok))) rfl hz (by decide) (fun Ys zz kk s22 => ?_)
  replace s2 := ku s2
  replace s3 := ku s3
  replace s17 := ku s17
  replace hz := zz
  clear kk zz s19 s21 Yr
  refine vq _ (.bool (decide ((if (s.V.length : Int) = c.nd then 0 else 30) = 0))) (want_g rfl rfl s17) (fun hc v hv => ex_bin rfl (ev s22 hc) rfl (eqlN8 _ _ _ _ _)) rfl hz (by decide) (fun Yt zz kk s23 => ?_)
  replace s2 := ku s2
  replace s3 := ku s3
  replace s17 := ku s17
  replace hz := zz
  clear kk zz s22 Ys
  refine vq true (.bool ((decide ((chk s.L c.R).1 = 0)) && (decide ((if (s.V.length : Int) = c.nd then 0 else 30) = 0)))) (want_none rfl) (fun hc v hv => ex_and rfl s17 s23 rfl) rfl hz (by decide) (fun Yu zz kk s24 => ?_)
  replace s2 := ku s2
  replace s3 := ku s3
  replace hz := zz
  clear kk zz s17 s23 Yt
  refine vq true _ (want_none rfl) (fun hc v hv => ex_move rfl (ev s24 rfl)) rfl hz (by decide) (fun Yv zz kk s25 => ?_)
  replace s2 := ku s2
  replace s3 := ku s3
  replace hz := zz
  clear kk zz s24 Yu
  refine vq _ (.pointer (some ⟨w.heap.size + 1, 0, none⟩)) (want_g rfl rfl s25) (fun hc v hv => ex_fa rfl (ev s3 rfl) (faS0 _ _)) rfl hz (by decide) (fun Yw zz kk s26 => ?_)
  replace s2 := ku s2
  replace s3 := ku s3
  replace s25 := ku s25
  replace hz := zz
  clear kk zz Yv
  refine vq _ (.int .i64 s.self) (want_g rfl rfl s25) (fun hc v hv => ex_ld rfl (ev s26 hc) (ldI8 (cell8 (HS.cell 0 _ rfl) hv))) rfl hz (by decide) (fun Yx zz kk s27 => ?_)
  replace s2 := ku s2
  replace s3 := ku s3
  replace s25 := ku s25
  replace hz := zz
  clear kk zz s26 Yw
  refine vq _ (c.val) (want_g rfl rfl s25) (fun hc v hv => ex_ld rfl (ev s2 rfl) (CB7.ld (HC.bel hv))) rfl hz (by decide) (fun Yy zz kk s28 => ?_)
  replace s2 := ku s2
  replace s3 := ku s3
  replace s25 := ku s25
  replace s27 := ku s27
  replace hz := zz
  clear kk zz Yx
  refine vq_call (true && (((decide ((chk s.L c.R).1 = 0)) && (decide ((if (s.V.length : Int) = c.nd then 0 else 30) = 0))) == true)) (.int .i64 c.nd) (want_g rfl rfl s25) (fun hc v hv => ex_call rfl (by simp only [List.map_toArray, List.map_cons, List.map_nil, (ev s28 hc), evc] <;> rfl) rfl) (fun hc v hv => (bel8 hv (nodes8 c v))) rfl hz (by decide) (fun Yz zz kk s29 => ?_)
  replace s2 := ku s2
  replace s3 := ku s3
  replace s25 := ku s25
  replace s27 := ku s27
  replace hz := zz
  clear kk zz s28 Yy
  refine vq _ (.int .i64 (c.nd - 1)) (want_g rfl rfl s25) (fun hc v hv => ex_bin rfl (ev s29 hc) rfl (subD8 _ _ c.nd 1 (c.nd - 1) (by rw [IntKind.wrap_i64]; omega) _)) rfl hz (by decide) (fun Y0 zz kk s30 => ?_)
  replace s2 := ku s2
  replace s3 := ku s3
  replace s25 := ku s25
  replace s27 := ku s27
  replace hz := zz
  clear kk zz s29 Yz
  refine vq_call (true && (((decide ((chk s.L c.R).1 = 0)) && (decide ((if (s.V.length : Int) = c.nd then 0 else 30) = 0))) == true)) (.bool (inB (s.self) (0) ((c.nd - 1)))) (want_g rfl rfl s25) (fun hc v hv => ex_call rfl (by simp only [List.map_toArray, List.map_cons, List.map_nil, (ev s27 hc), (ev s30 hc), evc] <;> rfl) rfl) (fun hc v hv => (bel8 hv (within8 (s.self) (0) ((c.nd - 1)) v))) rfl hz (by decide) (fun Y1 zz kk s31 => ?_)
  replace s2 := ku s2
  replace s3 := ku s3
  replace s25 := ku s25
  replace hz := zz
  clear kk zz s27 s30 Y0
  refine vq true (.bool (((decide ((chk s.L c.R).1 = 0)) && (decide ((if (s.V.length : Int) = c.nd then 0 else 30) = 0))) && (inB (s.self) (0) ((c.nd - 1))))) (want_none rfl) (fun hc v hv => ex_and rfl s25 s31 rfl) rfl hz (by decide) (fun Y2 zz kk s32 => ?_)
  replace s2 := ku s2
  replace s3 := ku s3
  replace hz := zz
  clear kk zz s25 s31 Y1
  refine vq true _ (want_none rfl) (fun hc v hv => ex_move rfl (ev s32 rfl)) rfl hz (by decide) (fun Y3 zz kk s33 => ?_)
  replace s2 := ku s2
  replace s3 := ku s3
  replace hz := zz
  clear kk zz s32 Y2
  refine vq _ (.pointer (some ⟨w.heap.size + 1, 2, none⟩)) (want_g rfl rfl s33) (fun hc v hv => ex_fa rfl (ev s3 rfl) (faS2 _ _)) rfl hz (by decide) (fun Y4 zz kk s34 => ?_)
  replace s2 := ku s2
  replace s3 := ku s3
  replace s33 := ku s33
  replace hz := zz
  clear kk zz Y3
  refine vq _ (.int .i64 s.view) (want_g rfl rfl s33) (fun hc v hv => ex_ld rfl (ev s34 hc) (ldI8 (cell8 (HS.cell 2 _ rfl) hv))) rfl hz (by decide) (fun Y5 zz kk s35 => ?_)
  replace s2 := ku s2
  replace s3 := ku s3
  replace s33 := ku s33
  replace hz := zz
  clear kk zz s34 Y4
  refine vq_call (true && ((((decide ((chk s.L c.R).1 = 0)) && (decide ((if (s.V.length : Int) = c.nd then 0 else 30) = 0))) && (inB (s.self) (0) ((c.nd - 1)))) == true)) (.bool (inB (s.view) (0) (4294967296))) (want_g rfl rfl s33) (fun hc v hv => ex_call rfl (by simp only [List.map_toArray, List.map_cons, List.map_nil, (ev s35 hc), evc] <;> rfl) rfl) (fun hc v hv => (bel8 hv (within8 (s.view) (0) (4294967296) v))) rfl hz (by decide) (fun Y6 zz kk s36 => ?_)
  replace s2 := ku s2
  replace s3 := ku s3
  replace s33 := ku s33
  replace hz := zz
  clear kk zz s35 Y5
  refine vq true (.bool ((((decide ((chk s.L c.R).1 = 0)) && (decide ((if (s.V.length : Int) = c.nd then 0 else 30) = 0))) && (inB (s.self) (0) ((c.nd - 1)))) && (inB (s.view) (0) (4294967296)))) (want_none rfl) (fun hc v hv => ex_and rfl s33 s36 rfl) rfl hz (by decide) (fun Y7 zz kk s37 => ?_)
  replace s2 := ku s2
  replace s3 := ku s3
  replace hz := zz
  clear kk zz s33 s36 Y6
  refine vq true _ (want_none rfl) (fun hc v hv => ex_move rfl (ev s37 rfl)) rfl hz (by decide) (fun Y8 zz kk s38 => ?_)
  replace s2 := ku s2
  replace s3 := ku s3
  replace hz := zz
  clear kk zz s37 Y7
  refine vq _ (.pointer (some ⟨w.heap.size + 1, 3, none⟩)) (want_g rfl rfl s38) (fun hc v hv => ex_fa rfl (ev s3 rfl) (faS3 _ _)) rfl hz (by decide) (fun Y9 zz kk s39 => ?_)
  replace s2 := ku s2
  replace s3 := ku s3
  replace s38 := ku s38
  replace hz := zz
  clear kk zz Y8
  refine vq _ (.int .i64 s.last) (want_g rfl rfl s38) (fun hc v hv => ex_ld rfl (ev s39 hc) (ldI8 (cell8 (HS.cell 3 _ rfl) hv))) rfl hz (by decide) (fun Yba zz kk s40 => ?_)
  replace s2 := ku s2
  replace s3 := ku s3
  replace s38 := ku s38
  replace hz := zz
  clear kk zz s39 Y9
  refine vq _ (.pointer (some ⟨w.heap.size + 1, 2, none⟩)) (want_g rfl rfl s38) (fun hc v hv => ex_fa rfl (ev s3 rfl) (faS2 _ _)) rfl hz (by decide) (fun Ybb zz kk s41 => ?_)
  replace s2 := ku s2
  replace s3 := ku s3
  replace s38 := ku s38
  replace s40 := ku s40
  replace hz := zz
  clear kk zz Yba
  refine vq _ (.int .i64 s.view) (want_g rfl rfl s38) (fun hc v hv => ex_ld rfl (ev s41 hc) (ldI8 (cell8 (HS.cell 2 _ rfl) hv))) rfl hz (by decide) (fun Ybc zz kk s42 => ?_)
  replace s2 := ku s2
  replace s3 := ku s3
  replace s38 := ku s38
  replace s40 := ku s40
  replace hz := zz
  clear kk zz s41 Ybb
  refine vq_call (true && (((((decide ((chk s.L c.R).1 = 0)) && (decide ((if (s.V.length : Int) = c.nd then 0 else 30) = 0))) && (inB (s.self) (0) ((c.nd - 1)))) && (inB (s.view) (0) (4294967296))) == true)) (.bool (inB (s.last) (0) (s.view))) (want_g rfl rfl s38) (fun hc v hv => ex_call rfl (by simp only [List.map_toArray, List.map_cons, List.map_nil, (ev s40 hc), (ev s42 hc), evc] <;> rfl) rfl) (fun hc v hv => (bel8 hv (within8 (s.last) (0) (s.view) v))) rfl hz (by decide) (fun Ybd zz kk s43 => ?_)
  replace s2 := ku s2
  replace s3 := ku s3
  replace s38 := ku s38
  replace hz := zz
  clear kk zz s40 s42 Ybc
  refine vq true (.bool (((((decide ((chk s.L c.R).1 = 0)) && (decide ((if (s.V.length : Int) = c.nd then 0 else 30) = 0))) && (inB (s.self) (0) ((c.nd - 1)))) && (inB (s.view) (0) (4294967296))) && (inB (s.last) (0) (s.view)))) (want_none rfl) (fun hc v hv => ex_and rfl s38 s43 rfl) rfl hz (by decide) (fun Ybe zz kk s44 => ?_)
  replace s2 := ku s2
  replace s3 := ku s3
  replace hz := zz
  clear kk zz s38 s43 Ybd
  refine vq true _ (want_none rfl) (fun hc v hv => ex_move rfl (ev s44 rfl)) rfl hz (by decide) (fun Ybf zz kk s45 => ?_)
  replace s2 := ku s2
  replace s3 := ku s3
  replace hz := zz
  clear kk zz s44 Ybe
  refine vq _ (.pointer (some ⟨w.heap.size + 1, 5, none⟩)) (want_g rfl rfl s45) (fun hc v hv => ex_fa rfl (ev s3 rfl) (faS5 _ _)) rfl hz (by decide) (fun Ybg zz kk s46 => ?_)
  replace s2 := ku s2
  replace s3 := ku s3
  replace s45 := ku s45
  replace hz := zz
  clear kk zz Ybf
  refine vq _ (.int .i64 s.commit) (want_g rfl rfl s45) (fun hc v hv => ex_ld rfl (ev s46 hc) (ldI8 (cell8 (HS.cell 5 _ rfl) hv))) rfl hz (by decide) (fun Ybh zz kk s47 => ?_)
  replace s2 := ku s2
  replace s3 := ku s3
  replace s45 := ku s45
  replace hz := zz
  clear kk zz s46 Ybg
  refine vq _ (.pointer (some ⟨w.heap.size + 1, 4, none⟩)) (want_g rfl rfl s45) (fun hc v hv => ex_fa rfl (ev s3 rfl) (faS4 _ _)) rfl hz (by decide) (fun Ybi zz kk s48 => ?_)
  replace s2 := ku s2
  replace s3 := ku s3
  replace s45 := ku s45
  replace s47 := ku s47
  replace hz := zz
  clear kk zz Ybh
  refine vq _ (.slice s.la s.L.length s.lc) (want_g rfl rfl s45) (fun hc v hv => ex_ld rfl (ev s48 hc) (ldE8 (cell8 (HS.cell 4 _ rfl) hv))) rfl hz (by decide) (fun Ybj zz kk s49 => ?_)
  replace s2 := ku s2
  replace s3 := ku s3
  replace s45 := ku s45
  replace s47 := ku s47
  replace hz := zz
  clear kk zz s48 Ybi
  refine vq _ (.int .i64 (s.L.length : Int)) (want_g rfl rfl s45) (fun hc v hv => ex_lenE8 rfl rfl (ev s49 hc)) rfl hz (by decide) (fun Ybk zz kk s50 => ?_)
  replace s2 := ku s2
  replace s3 := ku s3
  replace s45 := ku s45
  replace s47 := ku s47
  replace hz := zz
  clear kk zz s49 Ybj
  refine vq_call (true && ((((((decide ((chk s.L c.R).1 = 0)) && (decide ((if (s.V.length : Int) = c.nd then 0 else 30) = 0))) && (inB (s.self) (0) ((c.nd - 1)))) && (inB (s.view) (0) (4294967296))) && (inB (s.last) (0) (s.view))) == true)) (.bool (inB (s.commit) (0) ((s.L.length : Int)))) (want_g rfl rfl s45) (fun hc v hv => ex_call rfl (by simp only [List.map_toArray, List.map_cons, List.map_nil, (ev s47 hc), (ev s50 hc), evc] <;> rfl) rfl) (fun hc v hv => (bel8 hv (within8 (s.commit) (0) ((s.L.length : Int)) v))) rfl hz (by decide) (fun Ybl zz kk s51 => ?_)
  replace s2 := ku s2
  replace s3 := ku s3
  replace s45 := ku s45
  replace hz := zz
  clear kk zz s47 s50 Ybk
  refine vq true (.bool ((((((decide ((chk s.L c.R).1 = 0)) && (decide ((if (s.V.length : Int) = c.nd then 0 else 30) = 0))) && (inB (s.self) (0) ((c.nd - 1)))) && (inB (s.view) (0) (4294967296))) && (inB (s.last) (0) (s.view))) && (inB (s.commit) (0) ((s.L.length : Int))))) (want_none rfl) (fun hc v hv => ex_and rfl s45 s51 rfl) rfl hz (by decide) (fun Ybm zz kk s52 => ?_)
  replace s2 := ku s2
  replace s3 := ku s3
  replace hz := zz
  clear kk zz s45 s51 Ybl
  refine vq true _ (want_none rfl) (fun hc v hv => ex_move rfl (ev s52 rfl)) rfl hz (by decide) (fun Ybn zz kk s53 => ?_)
  replace s2 := ku s2
  replace s3 := ku s3
  replace hz := zz
  clear kk zz s52 Ybm
  refine vq _ (.pointer (some ⟨w.heap.size + 1, 7, none⟩)) (want_g rfl rfl s53) (fun hc v hv => ex_fa rfl (ev s3 rfl) (faS7 _ _)) rfl hz (by decide) (fun Ybo zz kk s54 => ?_)
  replace s2 := ku s2
  replace s53 := ku s53
  replace hz := zz
  clear kk zz s3 Ybn
  refine vq _ (.int .i64 s.idle) (want_g rfl rfl s53) (fun hc v hv => ex_ld rfl (ev s54 hc) (ldI8 (cell8 (HS.cell 7 _ rfl) hv))) rfl hz (by decide) (fun Ybp zz kk s55 => ?_)
  replace s2 := ku s2
  replace s53 := ku s53
  replace hz := zz
  clear kk zz s54 Ybo
  refine vq _ (.pointer (some ⟨w.heap.size, 2, none⟩)) (want_g rfl rfl s53) (fun hc v hv => ex_fa rfl (ev s2 rfl) (faC2 _ _)) rfl hz (by decide) (fun Ybq zz kk s56 => ?_)
  replace s53 := ku s53
  replace s55 := ku s55
  replace hz := zz
  clear kk zz s2 Ybp
  refine vq _ (.int .i64 c.P) (want_g rfl rfl s53) (fun hc v hv => ex_ld rfl (ev s56 hc) (ldI8 (cell8 (HC.cell 2 _ rfl) hv))) rfl hz (by decide) (fun Ybr zz kk s57 => ?_)
  replace s53 := ku s53
  replace s55 := ku s55
  replace hz := zz
  clear kk zz s56 Ybq
  refine vq _ (.int .i64 (c.P - 1)) (want_g rfl rfl s53) (fun hc v hv => ex_bin rfl (ev s57 hc) rfl (subD8 _ _ c.P 1 (c.P - 1) (by rw [IntKind.wrap_i64]; omega) _)) rfl hz (by decide) (fun Ybs zz kk s58 => ?_)
  replace s53 := ku s53
  replace s55 := ku s55
  replace hz := zz
  clear kk zz s57 Ybr
  refine vq_call (true && (((((((decide ((chk s.L c.R).1 = 0)) && (decide ((if (s.V.length : Int) = c.nd then 0 else 30) = 0))) && (inB (s.self) (0) ((c.nd - 1)))) && (inB (s.view) (0) (4294967296))) && (inB (s.last) (0) (s.view))) && (inB (s.commit) (0) ((s.L.length : Int)))) == true)) (.bool (inB (s.idle) (0) ((c.P - 1)))) (want_g rfl rfl s53) (fun hc v hv => ex_call rfl (by simp only [List.map_toArray, List.map_cons, List.map_nil, (ev s55 hc), (ev s58 hc), evc] <;> rfl) rfl) (fun hc v hv => (bel8 hv (within8 (s.idle) (0) ((c.P - 1)) v))) rfl hz (by decide) (fun Ybt zz kk s59 => ?_)
  replace s53 := ku s53
  replace hz := zz
  clear kk zz s55 s58 Ybs
  refine vq true (.bool (((((((decide ((chk s.L c.R).1 = 0)) && (decide ((if (s.V.length : Int) = c.nd then 0 else 30) = 0))) && (inB (s.self) (0) ((c.nd - 1)))) && (inB (s.view) (0) (4294967296))) && (inB (s.last) (0) (s.view))) && (inB (s.commit) (0) ((s.L.length : Int)))) && (inB (s.idle) (0) ((c.P - 1))))) (want_none rfl) (fun hc v hv => ex_and rfl s53 s59 rfl) rfl hz (by decide) (fun Ybu zz kk s60 => ?_)
  replace hz := zz
  clear kk zz s53 s59 Ybt
  refine vq true _ (want_none rfl) (fun hc v hv => ex_assign rfl (ev s60 rfl)) rfl hz (by decide) (fun Ybv zz kk s4 => ?_)
  replace hz := zz
  clear kk zz s60 Ybu
  refine vq_nil (fun x2 hx2 => ?_)
  go_wp2
  refine bodyPost_ret (results_tmp rfl _ _ _) rfl ⟨?_, hB.trans (hx2.mono (by omega))⟩
  rw [getD_of s4]
  rfl
set_option maxHeartbeats 1000000 in
theorem recovering8 (s : Sta) (w : World) (hI : s.In w) (hF : s.Fit) (hs : 0 ≤ s.self ∧ s.self < (s.V.length : Int)) : Calls Tryz.prog 172 #[s.val] w fun e w' => e = .returned (.bool s.recB) ∧ Below w.heap.size w w' := by
  go_enter Tryz.func172, Tryz.ntmps172
  go_upto_region 0 with fail
  refine wp_region_lit ?_
  refine vl_gen (fun T => T.size = 39 ∧ T[0]? = some (gw true (s.val))) ⟨rfl, rfl⟩ (fun Z0 ⟨hz, s0⟩ => ?_)
  obtain ⟨w1, hw1⟩ : ∃ y, y = w.alloc (.cells s.cs.toArray 36) := ⟨_, rfl⟩
  have hb : Below w.heap.size w w1 := by rw [hw1]; exact (Below.refl _ _).alloc (Nat.le_refl _) _
  have hs1 : w1.heap.size = w.heap.size + 1 := by rw [hw1]; simp
  have HS : SB7 w1 (w.heap.size) s := by rw [hw1]; exact BX7.new _ _ _
  refine vw (.pointer (some ⟨w.heap.size, 0, none⟩)) w1 (want_none rfl) (ex_box8 rfl (ev s0 rfl) (by rw [hw1]; exact bxS7 _ _)) rfl hz (by decide) (fun Z1 zz kk s1x => ?_)
  clear kk hz s0 hw1
  have hz := zz
  have s1 := s1x
  clear zz s1x
  have hB := hb
  clear hb
  have hv0 : Below w1.heap.size w1 w1 := Below.refl _ _
  have HI := hI.later hB
  obtain ⟨q, o, hq, hQ⟩ := vec_at8 HI.v hs
  have f1 := hF.ll
  have f2 := hF.al
  have f3 := hF.ml
  have f4 := hF.bl
  refine vt (.bool false) (ex_assign rfl rfl) hz (fun Ya zz kk s2 => ?_)
  replace s1 := ku s1
  replace hz := zz
  clear kk zz
  clear s2
  refine wpList_nil ?_
  go_upto_region 1 with fail
  refine wp_region_lit ?_
  refine vt (.pointer (some ⟨w.heap.size, 2, none⟩)) (ex_fa rfl (ev s1 rfl) (faS2 _ _)) hz (fun Yb zz kk s3 => ?_)
  replace s1 := ku s1
  replace hz := zz
  clear kk zz
  refine vt (.int .i64 s.view) (ex_ld rfl (ev s3 rfl) (ldI8 (cell8 (HS.cell 2 _ rfl) hv0))) hz (fun Yc zz kk s4 => ?_)
  replace s1 := ku s1
  replace hz := zz
  clear kk zz s3 Yb
  refine vt (.bool (decide (s.view = 0))) (ex_bin rfl (ev s4 rfl) rfl (eqlC _ _ _ _ _)) hz (fun Yd zz kk s5 => ?_)
  replace s1 := ku s1
  replace hz := zz
  clear kk zz s4 Yc
  refine vt _ (ex_move rfl (ev s5 rfl)) hz (fun Ye zz kk s6 => ?_)
  replace s1 := ku s1
  replace hz := zz
  clear kk zz s5 Yd
  refine vl _ (.pointer (some ⟨w.heap.size, 7, none⟩)) (want_g rfl rfl s6) (fun hc => ex_fa rfl (ev s1 rfl) (faS7 _ _)) rfl hz (by decide) (fun Yf zz kk s7 => ?_)
  replace s1 := ku s1
  replace s6 := ku s6
  replace hz := zz
  clear kk zz Ye
  refine vl _ (.int .i64 s.idle) (want_g rfl rfl s6) (fun hc => ex_ld rfl (ev s7 hc) (ldI8 (cell8 (HS.cell 7 _ rfl) hv0))) rfl hz (by decide) (fun Yg zz kk s8 => ?_)
  replace s1 := ku s1
  replace s6 := ku s6
  replace hz := zz
  clear kk zz s7 Yf
  refine vl _ (.bool (decide (s.idle = 0))) (want_g rfl rfl s6) (fun hc => ex_bin rfl (ev s8 hc) rfl (eqlC _ _ _ _ _)) rfl hz (by decide) (fun Yh zz kk s9 => ?_)
  replace s1 := ku s1
  replace s6 := ku s6
  replace hz := zz
  clear kk zz s8 Yg
  refine vt (.bool ((decide (s.view = 0)) && (decide (s.idle = 0)))) (ex_and rfl s6 s9 rfl) hz (fun Yi zz kk s10 => ?_)
  replace s1 := ku s1
  replace hz := zz
  clear kk zz s6 s9 Yh
  refine vt _ (ex_move rfl (ev s10 rfl)) hz (fun Yj zz kk s11 => ?_)
  replace s1 := ku s1
  replace hz := zz
  clear kk zz s10 Yi
  refine vl _ (.pointer (some ⟨w.heap.size, 4, none⟩)) (want_g rfl rfl s11) (fun hc => ex_fa rfl (ev s1 rfl) (faS4 _ _)) rfl hz (by decide) (fun Yk zz kk s12 => ?_)
  replace s1 := ku s1
  replace s11 := ku s11
  replace hz := zz
  clear kk zz Yj
  refine vl _ (.slice s.la s.L.length s.lc) (want_g rfl rfl s11) (fun hc => ex_ld rfl (ev s12 hc) (ldE8 (cell8 (HS.cell 4 _ rfl) hv0))) rfl hz (by decide) (fun Yl zz kk s13 => ?_)
  replace s1 := ku s1
  replace s11 := ku s11
  replace hz := zz
  clear kk zz s12 Yk
  refine vl _ (.int .i64 (s.L.length : Int)) (want_g rfl rfl s11) (fun hc => ex_lenE8 rfl rfl (ev s13 hc)) rfl hz (by decide) (fun Ym zz kk s14 => ?_)
  replace s1 := ku s1
  replace s11 := ku s11
  replace hz := zz
  clear kk zz s13 Yl
  refine vl _ (.pointer (some ⟨w.heap.size, 8, none⟩)) (want_g rfl rfl s11) (fun hc => ex_fa rfl (ev s1 rfl) (faS8 _ _)) rfl hz (by decide) (fun Yn zz kk s15 => ?_)
  replace s1 := ku s1
  replace s11 := ku s11
  replace s14 := ku s14
  replace hz := zz
  clear kk zz Ym
  refine vl _ (.slice s.ka s.A.length s.kc) (want_g rfl rfl s11) (fun hc => ex_ld rfl (ev s15 hc) (ldK8 (cell8 (HS.cell 8 _ rfl) hv0))) rfl hz (by decide) (fun Yo zz kk s16 => ?_)
  replace s1 := ku s1
  replace s11 := ku s11
  replace s14 := ku s14
  replace hz := zz
  clear kk zz s15 Yn
  refine vl _ (.int .i64 (s.A.length : Int)) (want_g rfl rfl s11) (fun hc => ex_lenK8 rfl rfl (ev s16 hc)) rfl hz (by decide) (fun Yp zz kk s17 => ?_)
  replace s1 := ku s1
  replace s11 := ku s11
  replace s14 := ku s14
  replace hz := zz
  clear kk zz s16 Yo
  refine vl _ (.int .i64 ((s.L.length : Int) + (s.A.length : Int))) (want_g rfl rfl s11) (fun hc => ex_bin rfl (ev s14 hc) (ev s17 hc) (addD8 _ _ (s.L.length : Int) (s.A.length : Int) ((s.L.length : Int) + (s.A.length : Int)) (by rw [IntKind.wrap_i64]; omega) _)) rfl hz (by decide) (fun Yq zz kk s18 => ?_)
  replace s1 := ku s1
  replace s11 := ku s11
  replace hz := zz
  clear kk zz s14 s17 Yp
  refine vl _ (.pointer (some ⟨w.heap.size, 9, none⟩)) (want_g rfl rfl s11) (fun hc => ex_fa rfl (ev s1 rfl) (faS9 _ _)) rfl hz (by decide) (fun Yr zz kk s19 => ?_)
  replace s1 := ku s1
  replace s11 := ku s11
  replace s18 := ku s18
  replace hz := zz
  clear kk zz Yq
  refine vl _ (.slice s.ma s.M.length s.mc) (want_g rfl rfl s11) (fun hc => ex_ld rfl (ev s19 hc) (ldM8 (cell8 (HS.cell 9 _ rfl) hv0))) rfl hz (by decide) (fun Ys zz kk s20 => ?_)
  replace s1 := ku s1
  replace s11 := ku s11
  replace s18 := ku s18
  replace hz := zz
  clear kk zz s19 Yr
  refine vl _ (.int .i64 (s.M.length : Int)) (want_g rfl rfl s11) (fun hc => ex_lenM8 rfl rfl (ev s20 hc)) rfl hz (by decide) (fun Yt zz kk s21 => ?_)
  replace s1 := ku s1
  replace s11 := ku s11
  replace s18 := ku s18
  replace hz := zz
  clear kk zz s20 Ys
  refine vl _ (.int .i64 (((s.L.length : Int) + (s.A.length : Int)) + (s.M.length : Int))) (want_g rfl rfl s11) (fun hc => ex_bin rfl (ev s18 hc) (ev s21 hc) (addD8 _ _ ((s.L.length : Int) + (s.A.length : Int)) (s.M.length : Int) (((s.L.length : Int) + (s.A.length : Int)) + (s.M.length : Int)) (by rw [IntKind.wrap_i64]; omega) _)) rfl hz (by decide) (fun Yu zz kk s22 => ?_)
  replace s1 := ku s1
  replace s11 := ku s11
  replace hz := zz
  clear kk zz s18 s21 Yt
  refine vl _ (.pointer (some ⟨w.heap.size, 10, none⟩)) (want_g rfl rfl s11) (fun hc => ex_fa rfl (ev s1 rfl) (faS10 _ _)) rfl hz (by decide) (fun Yv zz kk s23 => ?_)
  replace s1 := ku s1
  replace s11 := ku s11
  replace s22 := ku s22
  replace hz := zz
  clear kk zz Yu
  refine vl _ (.slice s.ba s.B.length s.bc) (want_g rfl rfl s11) (fun hc => ex_ld rfl (ev s23 hc) (ldB8 (cell8 (HS.cell 10 _ rfl) hv0))) rfl hz (by decide) (fun Yw zz kk s24 => ?_)
  replace s1 := ku s1
  replace s11 := ku s11
  replace s22 := ku s22
  replace hz := zz
  clear kk zz s23 Yv
  refine vl _ (.int .i64 (s.B.length : Int)) (want_g rfl rfl s11) (fun hc => ex_lenB8 rfl rfl (ev s24 hc)) rfl hz (by decide) (fun Yx zz kk s25 => ?_)
  replace s1 := ku s1
  replace s11 := ku s11
  replace s22 := ku s22
  replace hz := zz
  clear kk zz s24 Yw
  refine vl _ (.int .i64 ((((s.L.length : Int) + (s.A.length : Int)) + (s.M.length : Int)) + (s.B.length : Int))) (want_g rfl rfl s11) (fun hc => ex_bin rfl (ev s22 hc) (ev s25 hc) (addD8 _ _ (((s.L.length : Int) + (s.A.length : Int)) + (s.M.length : Int)) (s.B.length : Int) ((((s.L.length : Int) + (s.A.length : Int)) + (s.M.length : Int)) + (s.B.length : Int)) (by rw [IntKind.wrap_i64]; omega) _)) rfl hz (by decide) (fun Yy zz kk s26 => ?_)
  replace s1 := ku s1
  replace s11 := ku s11
  replace hz := zz
  clear kk zz s22 s25 Yx
  refine vl _ (.bool (decide (((((s.L.length : Int) + (s.A.length : Int)) + (s.M.length : Int)) + (s.B.length : Int)) = 0))) (want_g rfl rfl s11) (fun hc => ex_bin rfl (ev s26 hc) rfl (eqlC _ _ _ _ _)) rfl hz (by decide) (fun Yz zz kk s27 => ?_)
  replace s1 := ku s1
  replace s11 := ku s11
  replace hz := zz
  clear kk zz s26 Yy
  refine vt (.bool (((decide (s.view = 0)) && (decide (s.idle = 0))) && (decide (((((s.L.length : Int) + (s.A.length : Int)) + (s.M.length : Int)) + (s.B.length : Int)) = 0)))) (ex_and rfl s11 s27 rfl) hz (fun Y0 zz kk s28 => ?_)
  replace s1 := ku s1
  replace hz := zz
  clear kk zz s11 s27 Yz
  refine vt _ (ex_move rfl (ev s28 rfl)) hz (fun Y1 zz kk s29 => ?_)
  replace s1 := ku s1
  replace hz := zz
  clear kk zz s28 Y0
  refine vl _ (.pointer (some ⟨w.heap.size, 6, none⟩)) (want_g rfl rfl s29) (fun hc => ex_fa rfl (ev s1 rfl) (faS6 _ _)) rfl hz (by decide) (fun Y2 zz kk s30 => ?_)
  replace s1 := ku s1
  replace s29 := ku s29
  replace hz := zz
  clear kk zz Y1
  refine vl _ (.slice s.va s.V.length s.vc) (want_g rfl rfl s29) (fun hc => ex_ld rfl (ev s30 hc) (ldV8 (cell8 (HS.cell 6 _ rfl) hv0))) rfl hz (by decide) (fun Y3 zz kk s31 => ?_)
  replace s1 := ku s1
  replace s29 := ku s29
  replace hz := zz
  clear kk zz s30 Y2
  refine vl _ (.pointer (some ⟨w.heap.size, 0, none⟩)) (want_g rfl rfl s29) (fun hc => ex_fa rfl (ev s1 rfl) (faS0 _ _)) rfl hz (by decide) (fun Y4 zz kk s32 => ?_)
  replace s29 := ku s29
  replace s31 := ku s31
  replace hz := zz
  clear kk zz s1 Y3
  refine vl _ (.int .i64 s.self) (want_g rfl rfl s29) (fun hc => ex_ld rfl (ev s32 hc) (ldI8 (cell8 (HS.cell 0 _ rfl) hv0))) rfl hz (by decide) (fun Y5 zz kk s33 => ?_)
  replace s29 := ku s29
  replace s31 := ku s31
  replace hz := zz
  clear kk zz s32 Y4
  refine vl _ (.pointer (some ⟨q, o + s.self.toNat * 2, none⟩)) (want_g rfl rfl s29) (fun hc => ex_ix rfl (ev s31 hc) (ev s33 hc) (hQ.1 _)) rfl hz (by decide) (fun Y6 zz kk s34 => ?_)
  replace s29 := ku s29
  replace hz := zz
  clear kk zz s31 s33 Y5
  refine vl _ (.agg #[.int .u64 (s.V.getD s.self.toNat (0, 0)).1, .int .u64 (s.V.getD s.self.toNat (0, 0)).2]) (want_g rfl rfl s29) (fun hc => ex_ld rfl (ev s34 hc) (hQ.2 _ hv0)) rfl hz (by decide) (fun Y7 zz kk s35 => ?_)
  replace s29 := ku s29
  replace hz := zz
  clear kk zz s34 Y6
  refine vl _ (.agg #[.int .u64 0, .int .u64 0]) (want_g rfl rfl s29) (fun hc => ex_build rfl (buildDr _)) rfl hz (by decide) (fun Y8 zz kk s36 => ?_)
  replace s29 := ku s29
  replace s35 := ku s35
  replace hz := zz
  clear kk zz Y7
  refine vl _ (.bool (!decide ((s.V.getD s.self.toNat (0, 0)) = (0, 0)))) (want_g rfl rfl s29) (fun hc => ex_bin rfl (ev s35 hc) (ev s36 hc) (neqDr7 _ _ (s.V.getD s.self.toNat (0, 0)) (0, 0) _)) rfl hz (by decide) (fun Y9 zz kk s37 => ?_)
  replace s29 := ku s29
  replace hz := zz
  clear kk zz s35 s36 Y8
  refine vt (.bool ((((decide (s.view = 0)) && (decide (s.idle = 0))) && (decide (((((s.L.length : Int) + (s.A.length : Int)) + (s.M.length : Int)) + (s.B.length : Int)) = 0))) && (!decide ((s.V.getD s.self.toNat (0, 0)) = (0, 0))))) (ex_and rfl s29 s37 rfl) hz (fun Yba zz kk s38 => ?_)
  replace hz := zz
  clear kk zz s29 s37 Y9
  refine vt _ (ex_assign rfl (ev s38 rfl)) hz (fun Ybb zz kk s2 => ?_)
  replace hz := zz
  clear kk zz s38 Yba
  refine wpList_nil ?_
  go_wp2
  refine bodyPost_ret (results_tmp rfl _ _ _) rfl ⟨?_, hB.trans (hv0.mono (by omega))⟩
  rw [getD_of s2]
  rfl
set_option maxHeartbeats 1000000 in
theorem Ak.index_any (p : Ak → Bool) (g : Nat) (lb : Array Value) (eg : ∀ args w, (callFunc g args).run Tryz.prog w = .ok (.enter g args) w) (L : List Ak) (a : Option Addr) (n c : Nat) (w : World) (h : SlY yAkV w a n c L)
    (hp : ∀ (W : World) (x : Ak), Below w.heap.size w W → Calls Tryz.prog g (#[x.val] ++ lb) W fun e w' => e = .returned (.bool (p x)) ∧ Below w.heap.size w w') :
    Calls Tryz.prog 237 #[.slice a n c, .func (.func g) #[] lb] w fun e w' => e = .returned (.int .i64 (ix p L)) ∧ Below w.heap.size w w' := by
  have hmx := h.max
  have hcp := h.cap
  have hln := h.len
  unfold maxLen at hmx
  have H := hide h
  have HN := hide hln
  have HP := hide hp
  clear h hln hp
  go_enter Tryz.func237, Tryz.ntmps237
  go_wp2
  go_loopw [8] (fun i wr => ∃ j : Nat, i = .int .i64 (j : Int) ∧ j ≤ n ∧ Hid (∀ k (hk : k < L.length), k < j → p L[k] = false) ∧ Below w.heap.size w wr) (fun i _ => n - (intOf i).toNat)
  case atStart => exact ⟨0, rfl, Nat.zero_le _, fun k hk h => absurd h (Nat.not_lt_zero _), Below.refl _ _⟩
  case round =>
    obtain ⟨j, rfl, hj, hA, hbl⟩ := hrel
    have hsz := hbl.size
    by_cases hlt : j < n
    · have hjl : j < L.length := by rw [HN.out]; exact hlt
      have hg : L[j]? = some L[j] := List.getElem?_eq_getElem hjl
      obtain ⟨q, o, rfl, hq, y0, y1, y2, y3⟩ := (H.out.later hbl).AkV hg
      have hcall := HP.out wr L[j] hbl
      have hH : Hid (p L[j] = true → ix p L = (j : Int)) := fun hp => ix_hit hjl hp (fun k hk => hA.out k (by omega) hk)
      have hS : Hid (p L[j] = false → ∀ k (hk : k < L.length), k < j + 1 → p L[k] = false) := fun hp k hk hkj => by
        by_cases e : k = j
        · subst e; exact hp
        · exact hA.out k hk (by omega)
      clear hA hg
      generalize L[j] = x at *
      unfold Ak.val at hcall
      cases hq2 : p x with
      | true =>
        have hx := hide (hH.out hq2)
        rw [hq2] at hcall
        clear hH hS
        go_wp2_with (go_at_fn g; refine hcall.mono ?_; rintro e w' ⟨rfl, hb'⟩)
        go_ret
        exact ⟨by rw [hx.out]; rfl, hb'⟩
      | false =>
        have hx := hide (hS.out hq2)
        rw [hq2] at hcall
        clear hH hS
        go_wp2_with (go_at_fn g; refine hcall.mono ?_; rintro e w' ⟨rfl, hb'⟩)
        go_round
        case rel => exact ⟨j + 1, by go_num, by omega, hx, hb'⟩
        case measure => simp [intOf]; omega
    · obtain rfl : j = n := by omega
      have hx : Hid (ix p L = -1) := ix_miss (fun x hx => by
        obtain ⟨k, hk, rfl⟩ := List.mem_iff_getElem.1 hx
        exact hA.out k hk (by rw [← HN.out]; exact hk))
      clear hA
      go_wp2
      go_ret
      exact ⟨by rw [hx.out]; rfl, hbl⟩
theorem Ak.box (x : Ak) (w v : World) (hv : Below (w.heap.size + 1) (w.alloc (.cells #[.int .i64 x.n, .int .u64 x.h, .int .u64 x.l, .int .i64 x.p] 231)) v) : v.cell? ⟨w.heap.size, 0, none⟩ = some (.int .i64 x.n) ∧ v.cell? ⟨w.heap.size, 1, none⟩ = some (.int .u64 x.h) ∧ v.cell? ⟨w.heap.size, 2, none⟩ = some (.int .u64 x.l) ∧ v.cell? ⟨w.heap.size, 3, none⟩ = some (.int .i64 x.p) :=
  ⟨(hv.cell (p := ⟨w.heap.size, 0, none⟩) (by simp)).trans (by simp), (hv.cell (p := ⟨w.heap.size, 1, none⟩) (by simp)).trans (by simp), (hv.cell (p := ⟨w.heap.size, 2, none⟩) (by simp)).trans (by simp), (hv.cell (p := ⟨w.heap.size, 3, none⟩) (by simp)).trans (by simp)⟩
theorem Ak.ifdraw (x : Ak) (w : World) : (invoke (.fn (.method "amnesia/tally.draw") #[]) #[.iface 231 x.val]).run Tryz.prog w = .ok (.enter 289 #[x.val]) w := by kernel_rfl
theorem Ak.told_any (x : Ak) (w : World) : Calls Tryz.prog 178 #[x.val] w fun e w' => e = .returned x.val ∧ Below w.heap.size w w' := by
  show Calls Tryz.prog 178 #[.agg #[.int .i64 x.n, .int .u64 x.h, .int .u64 x.l, .int .i64 x.p]] w _
  go_enter Tryz.func178, Tryz.ntmps178
  go_wp2
  refine bodyPost_ret (v := x.val) (by simp [results, Tryz.results178, go_sem, Ak.val]) rfl ?_
  exact ⟨rfl, by (repeat (first | exact Below.refl _ _ | assumption | refine Below.drew ?_ | refine Below.alloc ?_ (by first | (simp; done) | (simp; omega) | omega) _ | refine Below.setCell ?_ (by first | (simp; done) | (simp; omega) | omega) _))⟩
set_option maxHeartbeats 1000000 in
theorem Ak.tell_any (L : List Ak) (a : Option Addr) (n c : Nat) (w : World) (h : SlY yAkV w a n c L) (hb : n * 32 ≤ 281474976710656) :
    Calls Tryz.prog 174 #[.slice a n c, .func (.func 178) #[] #[]] w fun e w' => e = .returned (.slice (some ⟨w.heap.size, 0, none⟩) n n) ∧ OwnY yAkA w.heap.size w' (.slice (some ⟨w.heap.size, 0, none⟩) n n) L ∧ Below w.heap.size w w' := by
  have hmx := h.max
  have hcp := h.cap
  have hln := h.len
  unfold maxLen at hmx
  have H := hide h
  have HN := hide hln
  clear h hln
  go_enter Tryz.func174, Tryz.ntmps174
  go_wp2_with (at_make; go_must (refine makeYs kAkA _ rfl (.tmp 9) rfl n rfl (by unfold maxLen; omega) hb ?zk))
  intro w1 o1 b1
  have HO : Hid (OwnY yAkA w.heap.size w1 (.slice (some ⟨w.heap.size, 0, none⟩) n n) (L.take 0 ++ List.replicate (n - 0) yAkA.z)) := by
    show OwnY _ _ _ _ _
    simpa using o1
  clear o1
  go_wp2
  go_loopw [13] (fun i wr => ∃ j : Nat, i = .int .i64 (j : Int) ∧ j ≤ n ∧ Hid (OwnY yAkA w.heap.size wr (.slice (some ⟨w.heap.size, 0, none⟩) n n) (L.take j ++ List.replicate (n - j) yAkA.z)) ∧ Below w.heap.size w wr) (fun i _ => n - (intOf i).toNat)
  case atStart => exact ⟨0, rfl, Nat.zero_le _, HO, b1⟩
  case round =>
    obtain ⟨j, rfl, hj, hO, hbl⟩ := hrel
    have hsz := hbl.size
    by_cases hlt : j < n
    · have hjl : j < L.length := by rw [HN.out]; exact hlt
      have hg : L[j]? = some L[j] := List.getElem?_eq_getElem hjl
      obtain ⟨q, o, rfl, hq, y0, y1, y2, y3⟩ := (H.out.later hbl).AkV hg
      have hlt0 : w.heap.size < wr.heap.size := by
        obtain ⟨_, _, ee, _, _, _, h4⟩ := hO.out.form
        injection ee with ee
        obtain ⟨g', e2, _, h5⟩ := h4 _ ee.symm
        cases e2
        exact h5
      have hset : Hid ((L.take j ++ List.replicate (n - j) yAkA.z).set j L[j] = L.take (j + 1) ++ List.replicate (n - (j + 1)) yAkA.z) := by
        show _ = _
        have hl : (L.take j).length = j := by rw [List.length_take]; omega
        rw [List.set_append_right _ _ (by omega), hl, Nat.sub_self, show n - j = (n - (j + 1)) + 1 by omega, List.replicate_succ, List.set_cons_zero, List.take_add_one, hg]
        simp only [Option.toList_some, List.append_assoc, List.cons_append, List.nil_append]
      have hget : Hid ((L.take j ++ List.replicate (n - j) yAkA.z)[j]? = some yAkA.z) := by
        show _ = _
        have hl : (L.take j).length = j := by rw [List.length_take]; omega
        rw [List.getElem?_append_right (by omega), hl, Nat.sub_self, show n - j = (n - (j + 1)) + 1 by omega, List.replicate_succ]
        rfl
      clear hg
      generalize L[j] = x at *
      generalize hX : L.take j ++ List.replicate (n - j) yAkA.z = XX at *
      clear hX
      have bA := hide (hbl.trans (((Below.refl _ wr).alloc (Nat.le_refl _) (.cells #[.int .i64 x.n, .int .u64 x.h, .int .u64 x.l, .int .i64 x.p] 231)).mono hsz))
      have OA := hide (hO.out.alloc (.cells #[.int .i64 x.n, .int .u64 x.h, .int .u64 x.l, .int .i64 x.p] 231))
      have ca := hide (x.told_any (wr.alloc (.cells #[.int .i64 x.n, .int .u64 x.h, .int .u64 x.l, .int .i64 x.p] 231)))
      clear hO
      go_wp2_with fail
      refine ca.out.mono ?_
      rintro e w2 ⟨rfl, b2⟩
      have O2 := hide (OA.out.grow b2)
      have z2 := b2.size
      rw [World.size_alloc] at z2
      dsimp only
      go_wp2_with (first
        | (refine storeY kAkA _ rfl 110 (.tmp 23) (.tmp 22) rfl w.heap.size w.heap.size n n XX j 0 yAkA.z x _ rfl rfl hget.out (by kernel_rfl) (by exact (by decide : 4 ≤ 4)) rfl O2.out ?_; intro w3 o3 u3 z3; have O3 := hide o3; clear o3)
        | go_in)
      go_round
      case rel =>
        refine ⟨j + 1, by go_num, by omega, by show OwnY _ _ _ _ _; rw [← hset.out]; exact O3.out, bA.out.trans ((b2.mono (by simp; omega)).trans (u3.below (by omega) (fun k e => by subst e; exact Nat.le_refl _)))⟩
      case measure => simp [intOf]; omega
    · obtain rfl : j = n := by omega
      have O9 : Hid (OwnY yAkA w.heap.size wr (.slice (some ⟨w.heap.size, 0, none⟩) j j) L) := by
        show OwnY _ _ _ _ _
        have := hO.out
        rw [Nat.sub_self, List.replicate_zero, List.append_nil, List.take_of_length_le (by rw [HN.out]; exact Nat.le_refl _)] at this
        exact this
      clear hO
      go_wp2
      go_ret
      exact ⟨rfl, O9.out, hbl⟩
end Go.Proofs.YtkfkkajeoocbbaaGreatDoor
