import Derived.Test.YtphdnmamopgelaaGreatW10
set_option maxRecDepth 100000
set_option linter.unusedVariables false
set_option linter.unusedSimpArgs false
namespace Go.Proofs.YtphdnmamopgelaaGreat
open Go.RowKit Go.Maps Go.Shelf
open Classical
def yI9 : Lay Int := ⟨3, 73, 1, 8, fun x => [.int .i64 x], 0⟩
theorem kI9 : yI9.Ok := ⟨by decide, fun x => rfl, fun x u h => by
    simp [yI9] at h
    subst h
    rfl, Tryz.underlying73, ⟨.int .i64 0, by kernel_rfl, rfl⟩⟩
def yR9 : Lay (Int × Int) := ⟨57, 26, 2, 16, fun d => [.int .u64 d.1, .int .u64 d.2], (0, 0)⟩
theorem kR9 : yR9.Ok := ⟨by decide, fun x => rfl, fun x u h => by
    simp [yR9] at h
    rcases h with rfl | rfl <;> rfl, Tryz.underlying26, ⟨.agg #[.int .u64 0, .int .u64 0], by kernel_rfl, rfl⟩⟩
theorem ixI9 (q o n c i : Nat) (hi : i < n) (w : World) : (Instr.indexAt 73 (.slice (some ⟨q, o, none⟩) n c) (.int .i64 (i : Int))).run Tryz.prog w = .ok (.pointer (some ⟨q, o + i, none⟩)) w := by
  have h1 : (i : Int) < (n : Int) := by omega
  go_simp
theorem ixR9 (q o n c i : Nat) (hi : i < n) (w : World) : (Instr.indexAt 26 (.slice (some ⟨q, o, none⟩) n c) (.int .i64 (i : Int))).run Tryz.prog w = .ok (.pointer (some ⟨q, o + i * 2, none⟩)) w := by
  have h1 : (i : Int) < (n : Int) := by omega
  go_simp
theorem ex_lenI9 {o : Oper} {ρ : Operand → Value} {i : Nat} {a : Option Addr} {n k : Nat} {w : World} (ho : o.op = .call { callee := .builtin .len, args := #[.tmp i], argTypes := #[73] }) (ht : o.type = 3) (hx : ρ (.tmp i) = .slice a n k) : (execOp ρ o).run Tryz.prog w = .ok (.value (.int .i64 (n : Int))) w := by
  unfold execOp
  simp only [ho, resolve, invoke, builtin, Sem.run_bind, Sem.run_pure, Result.andThen_ok, List.map_toArray, List.map_cons, List.map_nil, hx, ht]
  go_simp
theorem vec_at9 {w : World} {a : Option Addr} {n c : Nat} {V : List (Int × Int)} (h : SlY yD w a n c V) (hne : 0 < n) : ∃ q o, a = some ⟨q, o, none⟩ ∧ ∀ k : Int, 0 ≤ k → k < (n : Int) → (∀ v, (Instr.indexAt 27 (.slice a n c) (.int .i64 k)).run Tryz.prog v = .ok (.pointer (some ⟨q, o + k.toNat * 2, none⟩)) v) ∧ ∀ v, Below w.heap.size w v → (Instr.loadAt 57 (.pointer (some ⟨q, o + k.toNat * 2, none⟩))).run Tryz.prog v = .ok (.agg #[.int .u64 (V.getD k.toNat (0, 0)).1, .int .u64 (V.getD k.toNat (0, 0)).2]) v := by
  have hl := h.len
  obtain ⟨q, o, e, hq, hlie⟩ := h.place (by rintro rfl; simp at hl; omega)
  refine ⟨q, o, e, fun k h1 h2 => ?_⟩
  obtain ⟨q', o', e', hQ⟩ := vec_at8 h ⟨h1, h2⟩
  rw [e] at e'
  cases e'
  exact hQ
def z3m : Mk := ⟨0, 0, 0⟩
def vbad9 (s : Sta) (n : Int) (X : List Mk) (i : Nat) : Bool := (((decide ((X.getD i z3m).n < 0) || decide (n ≤ (X.getD i z3m).n)) || decide ((X.getD i z3m).n = s.self)) || (decide (0 < (i : Int)) && decide ((X.getD i z3m).n ≤ (X.getD (i - 1) z3m).n))) || (!decide (((X.getD i z3m).h, (X.getD i z3m).l) = s.V.getD (X.getD i z3m).n.toNat (0, 0)))
def rv9 (s : Sta) (n : Int) (X : List Mk) : Bool := (List.range X.length).all fun i => !vbad9 s n X i
theorem rv9_bad {s : Sta} {n : Int} {X : List Mk} {i : Nat} (hi : i < X.length) (h : vbad9 s n X i = true) : rv9 s n X = false := by
  unfold rv9
  rw [List.all_eq_false]
  exact ⟨i, List.mem_range.2 hi, by rw [h]; decide⟩
theorem rv9_ok {s : Sta} {n : Int} {X : List Mk} (h : ∀ i, i < X.length → vbad9 s n X i = false) : rv9 s n X = true := by
  unfold rv9
  rw [List.all_eq_true]
  intro i hi
  rw [h i (List.mem_range.1 hi)]
  rfl
theorem lie1_9 {α : Type} {Y : Lay α} {w : World} {a : Option Addr} {n c i : Nat} {L : List α} (h : SlY Y w a n c L) (hi : i < n) : ∃ q o x, a = some ⟨q, o, none⟩ ∧ L[i]? = some x ∧ ∀ j, j < n → ∀ y, L[j]? = some y → ∀ k u, (Y.cs y)[k]? = some u → w.cell? ⟨q, o + j * Y.k + k, none⟩ = some u := by
  have hl := h.len
  obtain ⟨q, o, rfl, hq, hlie⟩ := h.place (by rintro rfl; simp at hl; omega)
  exact ⟨q, o, _, rfl, List.getElem?_eq_getElem (by omega), fun j _ y hy k u hu => hlie j y hy k u hu⟩
theorem and_c9 {a b : Bool} (h : (a && (b == true)) = true) : (true && (b == true)) = true := by cases a <;> simp_all
set_option maxHeartbeats 1000000 in
theorem rvoters9 (s : Sta) (n : Int) (X : List Mk) (na da : Option Addr) (nc dc : Nat) (w : World) (hI : s.In w) (hn : n = (s.V.length : Int)) (hn1 : 0 < s.V.length) (hN : SlY yI9 w na X.length nc (X.map Mk.n)) (hD : SlY yR9 w da X.length dc (X.map fun x => (x.h, x.l))) : Calls Tryz.prog 83 #[s.val, .int .i64 n, .slice na X.length nc, .slice da X.length dc] w fun e w' => e = .returned (.bool (rv9 s n X)) ∧ Below w.heap.size w w' := by
  go_enter Tryz.func83, Tryz.ntmps83
  go_upto_region 0 with fail
  refine wp_region_lit ?_
  refine vl_gen (fun T => T.size = 69 ∧ T[0]? = some (gw true (s.val)) ∧ T[1]? = some (gw true (.int .i64 n)) ∧ T[2]? = some (gw true (.slice na X.length nc)) ∧ T[3]? = some (gw true (.slice da X.length dc))) ⟨rfl, rfl, rfl, rfl, rfl⟩ (fun Z0 ⟨hz, s0, s1, s2, s3⟩ => ?_)
  obtain ⟨w1, hw1⟩ : ∃ y, y = w.alloc (.cells s.cs.toArray 33) := ⟨_, rfl⟩
  have hb : Below w.heap.size w w1 := by rw [hw1]; exact (Below.refl _ _).alloc (Nat.le_refl _) _
  have hs1 : w1.heap.size = w.heap.size + 1 := by rw [hw1]; simp
  have HS : SB7 w1 (w.heap.size) s := by rw [hw1]; exact BX7.new _ _ _
  refine vw (.pointer (some ⟨w.heap.size, 0, none⟩)) w1 (want_none rfl) (ex_box8 rfl (ev s0 rfl) (by rw [hw1]; exact bxS7 _ _)) rfl hz (by decide) (fun Z1 zz kk s4x => ?_)
  replace s1 := ku s1
  replace s2 := ku s2
  replace s3 := ku s3
  clear kk hz s0 hw1
  have hz := zz
  have s4 := s4x
  clear zz s4x
  have hB := hb
  clear hb
  have hv0 : Below w1.heap.size w1 w1 := Below.refl _ _
  refine vt (.bool false) (ex_assign rfl rfl) hz (fun Ya zz kk s8 => ?_)
  replace s1 := ku s1
  replace s2 := ku s2
  replace s3 := ku s3
  replace s4 := ku s4
  replace hz := zz
  clear kk zz
  clear s8
  refine wpList_nil ?_
  go_upto_region 1 with fail
  refine wp_region_lit ?_
  refine vt (.int .i64 0) (ex_assign rfl rfl) hz (fun Yb zz kk s9 => ?_)
  replace s1 := ku s1
  replace s2 := ku s2
  replace s3 := ku s3
  replace s4 := ku s4
  replace hz := zz
  clear kk zz
  refine wpList_nil ?_
  have HI := hI.later hB
  have hN := hN.later hB
  have hD := hD.later hB
  have hmx := hN.max
  have hcp := hN.cap
  unfold maxLen at hmx
  have hs9 : _ = some (gw true (.int .i64 ((0 : Nat) : Int))) := s9
  go_upto_region 2 with fail
  refine v_loop 9 X.length (fun i T wr => T.size = 69 ∧ T[1]? = some (gw true (.int .i64 n)) ∧ T[2]? = some (gw true (.slice na X.length nc)) ∧ T[3]? = some (gw true (.slice da X.length dc)) ∧ T[4]? = some (gw true (.pointer (some ⟨w.heap.size, 0, none⟩))) ∧ T[9]? = some (gw true (.int .i64 (i : Int))) ∧ Hid (Below w1.heap.size w1 wr ∧ ∀ k, k < i → vbad9 s n X k = false)) (fun i T w h => h.2.2.2.2.2.1) ⟨hz, s1, s2, s3, s4, hs9, Below.refl _ _, fun k hk => absurd hk (Nat.not_lt_zero _)⟩ ?_
  clear hz s1 s2 s3 s4 s9 hs9
  intro i R0 wr hi hh
  obtain ⟨hz, s1, s2, s3, s4, s9, HJ⟩ := hh
  have hbr := HJ.out.1
  by_cases hit : i < X.length
  · have d1 : decide ((i : Int) < (X.length : Int)) = true := decide_eq_true (by omega)
    go_upto_region 2 with fail
    refine wp_region_lit ?_
    refine vt _ (ex_move rfl (ev s9 rfl)) hz (fun Yc zz kk s10 => ?_)
    replace s1 := ku s1
    replace s2 := ku s2
    replace s3 := ku s3
    replace s4 := ku s4
    replace s9 := ku s9
    replace hz := zz
    clear kk zz
    refine vt _ (ex_move rfl (ev s2 rfl)) hz (fun Yd zz kk s11 => ?_)
    replace s1 := ku s1
    replace s2 := ku s2
    replace s3 := ku s3
    replace s4 := ku s4
    replace s9 := ku s9
    replace s10 := ku s10
    replace hz := zz
    clear kk zz Yc
    refine vt (.int .i64 (X.length : Int)) (ex_lenI9 rfl rfl (ev s11 rfl)) hz (fun Ye zz kk s12 => ?_)
    replace s1 := ku s1
    replace s2 := ku s2
    replace s3 := ku s3
    replace s4 := ku s4
    replace s9 := ku s9
    replace s10 := ku s10
    replace hz := zz
    clear kk zz s11 Yd
    refine vt (.bool true) (ex_bin rfl (ev s10 rfl) (ev s12 rfl) (lssD8 _ _ _ _ true d1 _)) hz (fun Yf zz kk s13 => ?_)
    replace s1 := ku s1
    replace s2 := ku s2
    replace s3 := ku s3
    replace s4 := ku s4
    replace s9 := ku s9
    replace hz := zz
    clear kk zz s10 s12 Ye
    refine wpList_nil ?_
    go_upto_region 4 with fail
    refine wp_cond_true ((ev s13 rfl).trans rfl) ?_
    clear s13 d1
    obtain ⟨x, hx⟩ : ∃ x, x = X.getD i z3m := ⟨_, rfl⟩
    obtain ⟨y, hy⟩ : ∃ y, y = X.getD (i - 1) z3m := ⟨_, rfl⟩
    have hxi : X[i]? = some x := by rw [hx]; simp [List.getD, List.getElem?_eq_getElem hit]
    have hyi : X[i - 1]? = some y := by rw [hy]; simp [List.getD, List.getElem?_eq_getElem (show i - 1 < X.length by omega)]
    obtain ⟨qn, on, _, rfl, _, ln⟩ := lie1_9 hN hit
    obtain ⟨qd, od, _, rfl, _, ldd⟩ := lie1_9 hD hit
    have e1 : w1.cell? ⟨qn, on + i, none⟩ = some (.int .i64 x.n) := by have h := ln i hit x.n (by rw [List.getElem?_map, hxi]; rfl) 0 _ rfl; rw [show on + i * yI9.k + 0 = on + i by show on + i * 1 + 0 = _; omega] at h; exact h
    have e2 : w1.cell? ⟨qn, on + (i - 1), none⟩ = some (.int .i64 y.n) := by have h := ln (i - 1) (by omega) y.n (by rw [List.getElem?_map, hyi]; rfl) 0 _ rfl; rw [show on + (i - 1) * yI9.k + 0 = on + (i - 1) by show on + (i - 1) * 1 + 0 = _; omega] at h; exact h
    have e3 : w1.cell? ⟨qd, od + i * 2, none⟩ = some (.int .u64 x.h) := ldd i hit (x.h, x.l) (by rw [List.getElem?_map, hxi]; rfl) 0 _ rfl
    have e4 : w1.cell? ⟨qd, od + i * 2 + 1, none⟩ = some (.int .u64 x.l) := ldd i hit (x.h, x.l) (by rw [List.getElem?_map, hxi]; rfl) 1 _ rfl
    obtain ⟨qv, ov, hva, HV⟩ := vec_at9 HI.v hn1
    have g1 : (true && (decide ((0 : Int) < (i : Int)) == true)) = true → 0 < i := fun h => by simpa using h
    have gd9 : ∀ {b : Bool}, (b && ((((decide (x.n < 0) || decide (n ≤ x.n)) || decide (x.n = s.self)) || (decide (0 < (i : Int)) && decide (x.n ≤ y.n))) == false)) = true → 0 ≤ x.n ∧ x.n < n := fun h => by
      simp only [Bool.and_eq_true, beq_iff_eq, Bool.or_eq_false_iff, decide_eq_false_iff_not] at h
      omega
    go_upto_region 4 with fail
    refine vq_start (C := fun v => Below w1.heap.size w1 v) (by kernel_rfl) (by kernel_rfl) hbr.drew ?_
    refine vq true _ (want_none rfl) (fun hc v hv => ex_move rfl (ev s2 rfl)) rfl hz (by decide) (fun Yg zz kk s16 => ?_)
    replace s1 := ku s1
    replace s2 := ku s2
    replace s3 := ku s3
    replace s4 := ku s4
    replace s9 := ku s9
    replace hz := zz
    clear kk zz
    refine vq true _ (want_none rfl) (fun hc v hv => ex_move rfl (ev s9 rfl)) rfl hz (by decide) (fun Yh zz kk s17 => ?_)
    replace s1 := ku s1
    replace s2 := ku s2
    replace s3 := ku s3
    replace s4 := ku s4
    replace s9 := ku s9
    replace s16 := ku s16
    replace hz := zz
    clear kk zz Yg
    refine vq true (.pointer (some ⟨qn, on + i, none⟩)) (want_none rfl) (fun hc v hv => ex_ix rfl (ev s16 rfl) (ev s17 rfl) (ixI9 qn on X.length nc i hit _)) rfl hz (by decide) (fun Yi zz kk s18 => ?_)
    replace s1 := ku s1
    replace s2 := ku s2
    replace s3 := ku s3
    replace s4 := ku s4
    replace s9 := ku s9
    replace hz := zz
    clear kk zz s16 s17 Yh
    refine vq true (.int .i64 x.n) (want_none rfl) (fun hc v hv => ex_ld rfl (ev s18 rfl) (ldI8 (cell8 e1 hv))) rfl hz (by decide) (fun Yj zz kk s19 => ?_)
    replace s1 := ku s1
    replace s2 := ku s2
    replace s3 := ku s3
    replace s4 := ku s4
    replace s9 := ku s9
    replace hz := zz
    clear kk zz s18 Yi
    refine vq true (.bool (decide (x.n < 0))) (want_none rfl) (fun hc v hv => ex_bin rfl (ev s19 rfl) rfl (lssC _ _ _ _ _)) rfl hz (by decide) (fun Yk zz kk s20 => ?_)
    replace s1 := ku s1
    replace s2 := ku s2
    replace s3 := ku s3
    replace s4 := ku s4
    replace s9 := ku s9
    replace hz := zz
    clear kk zz s19 Yj
    refine vq true _ (want_none rfl) (fun hc v hv => ex_move rfl (ev s20 rfl)) rfl hz (by decide) (fun Yl zz kk s21 => ?_)
    replace s1 := ku s1
    replace s2 := ku s2
    replace s3 := ku s3
    replace s4 := ku s4
    replace s9 := ku s9
    replace hz := zz
    clear kk zz s20 Yk
    refine vq _ _ (want_g rfl rfl s21) (fun hc v hv => ex_move rfl (ev s2 rfl)) rfl hz (by decide) (fun Ym zz kk s22 => ?_)
    replace s1 := ku s1
    replace s2 := ku s2
    replace s3 := ku s3
    replace s4 := ku s4
    replace s9 := ku s9
    replace s21 := ku s21
    replace hz := zz
    clear kk zz Yl
    refine vq _ _ (want_g rfl rfl s21) (fun hc v hv => ex_move rfl (ev s9 rfl)) rfl hz (by decide) (fun Yn zz kk s23 => ?_)
    replace s1 := ku s1
    replace s2 := ku s2
    replace s3 := ku s3
    replace s4 := ku s4
    replace s9 := ku s9
    replace s21 := ku s21
    replace s22 := ku s22
    replace hz := zz
    clear kk zz Ym
    refine vq _ (.pointer (some ⟨qn, on + i, none⟩)) (want_g rfl rfl s21) (fun hc v hv => ex_ix rfl (ev s22 hc) (ev s23 hc) (ixI9 qn on X.length nc i hit _)) rfl hz (by decide) (fun Yo zz kk s24 => ?_)
    replace s1 := ku s1
    replace s2 := ku s2
    replace s3 := ku s3
    replace s4 := ku s4
    replace s9 := ku s9
    replace s21 := ku s21
    replace hz := zz
    clear kk zz s22 s23 Yn
    refine vq _ (.int .i64 x.n) (want_g rfl rfl s21) (fun hc v hv => ex_ld rfl (ev s24 hc) (ldI8 (cell8 e1 hv))) rfl hz (by decide) (fun Yp zz kk s25 => ?_)
    replace s1 := ku s1
    replace s2 := ku s2
    replace s3 := ku s3
    replace s4 := ku s4
    replace s9 := ku s9
    replace s21 := ku s21
    replace hz := zz
    clear kk zz s24 Yo
    refine vq _ _ (want_g rfl rfl s21) (fun hc v hv => ex_move rfl (ev s1 rfl)) rfl hz (by decide) (fun Yq zz kk s26 => ?_)
    replace s1 := ku s1
    replace s2 := ku s2
    replace s3 := ku s3
    replace s4 := ku s4
    replace s9 := ku s9
    replace s21 := ku s21
    replace s25 := ku s25
    replace hz := zz
    clear kk zz Yp
    refine vq _ (.bool (decide (n ≤ x.n))) (want_g rfl rfl s21) (fun hc v hv => ex_bin rfl (ev s25 hc) (ev s26 hc) (geqC _ _ _ _ _)) rfl hz (by decide) (fun Yr zz kk s27 => ?_)
    replace s1 := ku s1
    replace s2 := ku s2
    replace s3 := ku s3
    replace s4 := ku s4
    replace s9 := ku s9
    replace s21 := ku s21
    replace hz := zz
    clear kk zz s25 s26 Yq
    refine vq true (.bool ((decide (x.n < 0)) || (decide (n ≤ x.n)))) (want_none rfl) (fun hc v hv => ex_or rfl s21 s27 rfl) rfl hz (by decide) (fun Ys zz kk s28 => ?_)
    replace s1 := ku s1
    replace s2 := ku s2
    replace s3 := ku s3
    replace s4 := ku s4
    replace s9 := ku s9
    replace hz := zz
    clear kk zz s21 s27 Yr
    refine vq true _ (want_none rfl) (fun hc v hv => ex_move rfl (ev s28 rfl)) rfl hz (by decide) (fun Yt zz kk s29 => ?_)
    replace s1 := ku s1
    replace s2 := ku s2
    replace s3 := ku s3
    replace s4 := ku s4
    replace s9 := ku s9
    replace hz := zz
    clear kk zz s28 Ys
    refine vq _ _ (want_g rfl rfl s29) (fun hc v hv => ex_move rfl (ev s2 rfl)) rfl hz (by decide) (fun Yu zz kk s30 => ?_)
    replace s1 := ku s1
    replace s2 := ku s2
    replace s3 := ku s3
    replace s4 := ku s4
    replace s9 := ku s9
    replace s29 := ku s29
    replace hz := zz
    clear kk zz Yt
    refine vq _ _ (want_g rfl rfl s29) (fun hc v hv => ex_move rfl (ev s9 rfl)) rfl hz (by decide) (fun Yv zz kk s31 => ?_)
    replace s1 := ku s1
    replace s2 := ku s2
    replace s3 := ku s3
    replace s4 := ku s4
    replace s9 := ku s9
    replace s29 := ku s29
    replace s30 := ku s30
    replace hz := zz
    clear kk zz Yu
    refine vq _ (.pointer (some ⟨qn, on + i, none⟩)) (want_g rfl rfl s29) (fun hc v hv => ex_ix rfl (ev s30 hc) (ev s31 hc) (ixI9 qn on X.length nc i hit _)) rfl hz (by decide) (fun Yw zz kk s32 => ?_)
    replace s1 := ku s1
    replace s2 := ku s2
    replace s3 := ku s3
    replace s4 := ku s4
    replace s9 := ku s9
    replace s29 := ku s29
    replace hz := zz
    clear kk zz s30 s31 Yv
    refine vq _ (.int .i64 x.n) (want_g rfl rfl s29) (fun hc v hv => ex_ld rfl (ev s32 hc) (ldI8 (cell8 e1 hv))) rfl hz (by decide) (fun Yx zz kk s33 => ?_)
    replace s1 := ku s1
    replace s2 := ku s2
    replace s3 := ku s3
    replace s4 := ku s4
    replace s9 := ku s9
    replace s29 := ku s29
    replace hz := zz
    clear kk zz s32 Yw
    refine vq _ (.pointer (some ⟨w.heap.size, 0, none⟩)) (want_g rfl rfl s29) (fun hc v hv => ex_fa rfl (ev s4 rfl) (faS0 _ _)) rfl hz (by decide) (fun Yy zz kk s34 => ?_)
    replace s1 := ku s1
    replace s2 := ku s2
    replace s3 := ku s3
    replace s4 := ku s4
    replace s9 := ku s9
    replace s29 := ku s29
    replace s33 := ku s33
    replace hz := zz
    clear kk zz Yx
    refine vq _ (.int .i64 s.self) (want_g rfl rfl s29) (fun hc v hv => ex_ld rfl (ev s34 hc) (ldI8 (cell8 (HS.cell 0 _ rfl) hv))) rfl hz (by decide) (fun Yz zz kk s35 => ?_)
    replace s1 := ku s1
    replace s2 := ku s2
    replace s3 := ku s3
    replace s4 := ku s4
    replace s9 := ku s9
    replace s29 := ku s29
    replace s33 := ku s33
    replace hz := zz
    clear kk zz s34 Yy
    refine vq _ (.bool (decide (x.n = s.self))) (want_g rfl rfl s29) (fun hc v hv => ex_bin rfl (ev s33 hc) (ev s35 hc) (eqlC _ _ _ _ _)) rfl hz (by decide) (fun Y0 zz kk s36 => ?_)
    replace s1 := ku s1
    replace s2 := ku s2
    replace s3 := ku s3
    replace s4 := ku s4
    replace s9 := ku s9
    replace s29 := ku s29
    replace hz := zz
    clear kk zz s33 s35 Yz
    refine vq true (.bool (((decide (x.n < 0)) || (decide (n ≤ x.n))) || (decide (x.n = s.self)))) (want_none rfl) (fun hc v hv => ex_or rfl s29 s36 rfl) rfl hz (by decide) (fun Y1 zz kk s37 => ?_)
    replace s1 := ku s1
    replace s2 := ku s2
    replace s3 := ku s3
    replace s4 := ku s4
    replace s9 := ku s9
    replace hz := zz
    clear kk zz s29 s36 Y0
    refine vq true _ (want_none rfl) (fun hc v hv => ex_move rfl (ev s37 rfl)) rfl hz (by decide) (fun Y2 zz kk s38 => ?_)
    replace s1 := ku s1
    replace s2 := ku s2
    replace s3 := ku s3
    replace s4 := ku s4
    replace s9 := ku s9
    replace hz := zz
    clear kk zz s37 Y1
    refine vq _ _ (want_g rfl rfl s38) (fun hc v hv => ex_move rfl (ev s9 rfl)) rfl hz (by decide) (fun Y3 zz kk s39 => ?_)
    replace s1 := ku s1
    replace s2 := ku s2
    replace s3 := ku s3
    replace s4 := ku s4
    replace s9 := ku s9
    replace s38 := ku s38
    replace hz := zz
    clear kk zz Y2
    refine vq _ (.bool (decide (0 < (i : Int)))) (want_g rfl rfl s38) (fun hc v hv => ex_bin rfl (ev s39 hc) rfl (gtrC _ _ _ _ _)) rfl hz (by decide) (fun Y4 zz kk s40 => ?_)
    replace s1 := ku s1
    replace s2 := ku s2
    replace s3 := ku s3
    replace s4 := ku s4
    replace s9 := ku s9
    replace s38 := ku s38
    replace hz := zz
    clear kk zz s39 Y3
    refine vq _ _ (want_g rfl rfl s38) (fun hc v hv => ex_move rfl (ev s40 hc)) rfl hz (by decide) (fun Y5 zz kk s41 => ?_)
    replace s1 := ku s1
    replace s2 := ku s2
    replace s3 := ku s3
    replace s4 := ku s4
    replace s9 := ku s9
    replace s38 := ku s38
    replace hz := zz
    clear kk zz s40 Y4
    refine vq ((true && ((((decide (x.n < 0)) || (decide (n ≤ x.n))) || (decide (x.n = s.self))) == false)) && ((decide (0 < (i : Int))) == true)) (.slice (some ⟨qn, on, none⟩) X.length nc) (want_g rfl rfl s41) (fun hc v hv => ex_move rfl (ev s2 rfl)) rfl hz (by decide) (fun Y6 zz kk s42 => ?_)
    replace s1 := ku s1
    replace s2 := ku s2
    replace s3 := ku s3
    replace s4 := ku s4
    replace s9 := ku s9
    replace s38 := ku s38
    replace s41 := ku s41
    replace hz := zz
    clear kk zz Y5
    refine vq ((true && ((((decide (x.n < 0)) || (decide (n ≤ x.n))) || (decide (x.n = s.self))) == false)) && ((decide (0 < (i : Int))) == true)) (.int .i64 (i : Int)) (want_g rfl rfl s41) (fun hc v hv => ex_move rfl (ev s9 rfl)) rfl hz (by decide) (fun Y7 zz kk s43 => ?_)
    replace s1 := ku s1
    replace s2 := ku s2
    replace s3 := ku s3
    replace s4 := ku s4
    replace s9 := ku s9
    replace s38 := ku s38
    replace s41 := ku s41
    replace s42 := ku s42
    replace hz := zz
    clear kk zz Y6
    refine vq ((true && ((((decide (x.n < 0)) || (decide (n ≤ x.n))) || (decide (x.n = s.self))) == false)) && ((decide (0 < (i : Int))) == true)) (.pointer (some ⟨qn, on + i, none⟩)) (want_g rfl rfl s41) (fun hc v hv => ex_ix rfl (ev s42 hc) (ev s43 hc) (ixI9 qn on X.length nc i hit _)) rfl hz (by decide) (fun Y8 zz kk s44 => ?_)
    replace s1 := ku s1
    replace s2 := ku s2
    replace s3 := ku s3
    replace s4 := ku s4
    replace s9 := ku s9
    replace s38 := ku s38
    replace s41 := ku s41
    replace hz := zz
    clear kk zz s42 s43 Y7
    refine vq ((true && ((((decide (x.n < 0)) || (decide (n ≤ x.n))) || (decide (x.n = s.self))) == false)) && ((decide (0 < (i : Int))) == true)) (.int .i64 x.n) (want_g rfl rfl s41) (fun hc v hv => ex_ld rfl (ev s44 hc) (ldI8 (cell8 e1 hv))) rfl hz (by decide) (fun Y9 zz kk s45 => ?_)
    replace s1 := ku s1
    replace s2 := ku s2
    replace s3 := ku s3
    replace s4 := ku s4
    replace s9 := ku s9
    replace s38 := ku s38
    replace s41 := ku s41
    replace hz := zz
    clear kk zz s44 Y8
    refine vq ((true && ((((decide (x.n < 0)) || (decide (n ≤ x.n))) || (decide (x.n = s.self))) == false)) && ((decide (0 < (i : Int))) == true)) (.slice (some ⟨qn, on, none⟩) X.length nc) (want_g rfl rfl s41) (fun hc v hv => ex_move rfl (ev s2 rfl)) rfl hz (by decide) (fun Yba zz kk s46 => ?_)
    replace s1 := ku s1
    replace s2 := ku s2
    replace s3 := ku s3
    replace s4 := ku s4
    replace s9 := ku s9
    replace s38 := ku s38
    replace s41 := ku s41
    replace s45 := ku s45
    replace hz := zz
    clear kk zz Y9
    refine vq ((true && ((((decide (x.n < 0)) || (decide (n ≤ x.n))) || (decide (x.n = s.self))) == false)) && ((decide (0 < (i : Int))) == true)) (.int .i64 (i : Int)) (want_g rfl rfl s41) (fun hc v hv => ex_move rfl (ev s9 rfl)) rfl hz (by decide) (fun Ybb zz kk s47 => ?_)
    replace s1 := ku s1
    replace s2 := ku s2
    replace s3 := ku s3
    replace s4 := ku s4
    replace s9 := ku s9
    replace s38 := ku s38
    replace s41 := ku s41
    replace s45 := ku s45
    replace s46 := ku s46
    replace hz := zz
    clear kk zz Yba
    refine vq ((true && ((((decide (x.n < 0)) || (decide (n ≤ x.n))) || (decide (x.n = s.self))) == false)) && ((decide (0 < (i : Int))) == true)) (.int .i64 ((i - 1 : Nat) : Int)) (want_g rfl rfl s41) (fun hc v hv => ex_bin rfl (ev s47 hc) rfl (subD8 _ _ _ 1 ((i - 1 : Nat) : Int) (by have := g1 (by first | exact hc | exact and_c9 hc); rw [IntKind.wrap_i64]; omega) _)) rfl hz (by decide) (fun Ybc zz kk s48 => ?_)
    replace s1 := ku s1
    replace s2 := ku s2
    replace s3 := ku s3
    replace s4 := ku s4
    replace s9 := ku s9
    replace s38 := ku s38
    replace s41 := ku s41
    replace s45 := ku s45
    replace s46 := ku s46
    replace hz := zz
    clear kk zz s47 Ybb
    refine vq ((true && ((((decide (x.n < 0)) || (decide (n ≤ x.n))) || (decide (x.n = s.self))) == false)) && ((decide (0 < (i : Int))) == true)) (.pointer (some ⟨qn, on + (i - 1), none⟩)) (want_g rfl rfl s41) (fun hc v hv => ex_ix rfl (ev s46 hc) (ev s48 hc) (ixI9 qn on X.length nc (i - 1) (by omega) _)) rfl hz (by decide) (fun Ybd zz kk s49 => ?_)
    replace s1 := ku s1
    replace s2 := ku s2
    replace s3 := ku s3
    replace s4 := ku s4
    replace s9 := ku s9
    replace s38 := ku s38
    replace s41 := ku s41
    replace s45 := ku s45
    replace hz := zz
    clear kk zz s46 s48 Ybc
    refine vq ((true && ((((decide (x.n < 0)) || (decide (n ≤ x.n))) || (decide (x.n = s.self))) == false)) && ((decide (0 < (i : Int))) == true)) (.int .i64 y.n) (want_g rfl rfl s41) (fun hc v hv => ex_ld rfl (ev s49 hc) (ldI8 (cell8 e2 hv))) rfl hz (by decide) (fun Ybe zz kk s50 => ?_)
    replace s1 := ku s1
    replace s2 := ku s2
    replace s3 := ku s3
    replace s4 := ku s4
    replace s9 := ku s9
    replace s38 := ku s38
    replace s41 := ku s41
    replace s45 := ku s45
    replace hz := zz
    clear kk zz s49 Ybd
    refine vq ((true && ((((decide (x.n < 0)) || (decide (n ≤ x.n))) || (decide (x.n = s.self))) == false)) && ((decide (0 < (i : Int))) == true)) (.bool (decide (x.n ≤ y.n))) (want_g rfl rfl s41) (fun hc v hv => ex_bin rfl (ev s45 hc) (ev s50 hc) (leqC8 _ _ _ _ _)) rfl hz (by decide) (fun Ybf zz kk s51 => ?_)
    replace s1 := ku s1
    replace s2 := ku s2
    replace s3 := ku s3
    replace s4 := ku s4
    replace s9 := ku s9
    replace s38 := ku s38
    replace s41 := ku s41
    replace hz := zz
    clear kk zz s45 s50 Ybe
    refine vq _ (.bool ((decide (0 < (i : Int))) && (decide (x.n ≤ y.n)))) (want_g rfl rfl s38) (fun hc v hv => ex_and rfl s41 s51 hc) rfl hz (by decide) (fun Ybg zz kk s52 => ?_)
    replace s1 := ku s1
    replace s2 := ku s2
    replace s3 := ku s3
    replace s4 := ku s4
    replace s9 := ku s9
    replace s38 := ku s38
    replace hz := zz
    clear kk zz s41 s51 Ybf
    refine vq true (.bool ((((decide (x.n < 0)) || (decide (n ≤ x.n))) || (decide (x.n = s.self))) || ((decide (0 < (i : Int))) && (decide (x.n ≤ y.n))))) (want_none rfl) (fun hc v hv => ex_or rfl s38 s52 rfl) rfl hz (by decide) (fun Ybh zz kk s53 => ?_)
    replace s1 := ku s1
    replace s2 := ku s2
    replace s3 := ku s3
    replace s4 := ku s4
    replace s9 := ku s9
    replace hz := zz
    clear kk zz s38 s52 Ybg
    refine vq true _ (want_none rfl) (fun hc v hv => ex_move rfl (ev s53 rfl)) rfl hz (by decide) (fun Ybi zz kk s54 => ?_)
    replace s1 := ku s1
    replace s2 := ku s2
    replace s3 := ku s3
    replace s4 := ku s4
    replace s9 := ku s9
    replace hz := zz
    clear kk zz s53 Ybh
    refine vq _ _ (want_g rfl rfl s54) (fun hc v hv => ex_move rfl (ev s3 rfl)) rfl hz (by decide) (fun Ybj zz kk s55 => ?_)
    replace s1 := ku s1
    replace s2 := ku s2
    replace s3 := ku s3
    replace s4 := ku s4
    replace s9 := ku s9
    replace s54 := ku s54
    replace hz := zz
    clear kk zz Ybi
    refine vq _ _ (want_g rfl rfl s54) (fun hc v hv => ex_move rfl (ev s9 rfl)) rfl hz (by decide) (fun Ybk zz kk s56 => ?_)
    replace s1 := ku s1
    replace s2 := ku s2
    replace s3 := ku s3
    replace s4 := ku s4
    replace s9 := ku s9
    replace s54 := ku s54
    replace s55 := ku s55
    replace hz := zz
    clear kk zz Ybj
    refine vq _ (.pointer (some ⟨qd, od + i * 2, none⟩)) (want_g rfl rfl s54) (fun hc v hv => ex_ix rfl (ev s55 hc) (ev s56 hc) (ixR9 qd od X.length dc i hit _)) rfl hz (by decide) (fun Ybl zz kk s57 => ?_)
    replace s1 := ku s1
    replace s2 := ku s2
    replace s3 := ku s3
    replace s4 := ku s4
    replace s9 := ku s9
    replace s54 := ku s54
    replace hz := zz
    clear kk zz s55 s56 Ybk
    refine vq _ (.agg #[.int .u64 x.h, .int .u64 x.l]) (want_g rfl rfl s54) (fun hc v hv => ex_ld rfl (ev s57 hc) (ldDr8 (d := (x.h, x.l)) (cell8 e3 hv) (cell8 e4 hv))) rfl hz (by decide) (fun Ybm zz kk s58 => ?_)
    replace s1 := ku s1
    replace s2 := ku s2
    replace s3 := ku s3
    replace s4 := ku s4
    replace s9 := ku s9
    replace s54 := ku s54
    replace hz := zz
    clear kk zz s57 Ybl
    refine vq _ (.pointer (some ⟨w.heap.size, 6, none⟩)) (want_g rfl rfl s54) (fun hc v hv => ex_fa rfl (ev s4 rfl) (faS6 _ _)) rfl hz (by decide) (fun Ybn zz kk s59 => ?_)
    replace s1 := ku s1
    replace s2 := ku s2
    replace s3 := ku s3
    replace s4 := ku s4
    replace s9 := ku s9
    replace s54 := ku s54
    replace s58 := ku s58
    replace hz := zz
    clear kk zz Ybm
    refine vq _ (.slice s.va s.V.length s.vc) (want_g rfl rfl s54) (fun hc v hv => ex_ld rfl (ev s59 hc) (ldV8 (cell8 (HS.cell 6 _ rfl) hv))) rfl hz (by decide) (fun Ybo zz kk s60 => ?_)
    replace s1 := ku s1
    replace s2 := ku s2
    replace s3 := ku s3
    replace s4 := ku s4
    replace s9 := ku s9
    replace s54 := ku s54
    replace s58 := ku s58
    replace hz := zz
    clear kk zz s59 Ybn
    refine vq _ _ (want_g rfl rfl s54) (fun hc v hv => ex_move rfl (ev s2 rfl)) rfl hz (by decide) (fun Ybp zz kk s61 => ?_)
    replace s1 := ku s1
    replace s2 := ku s2
    replace s3 := ku s3
    replace s4 := ku s4
    replace s9 := ku s9
    replace s54 := ku s54
    replace s58 := ku s58
    replace s60 := ku s60
    replace hz := zz
    clear kk zz Ybo
    refine vq _ _ (want_g rfl rfl s54) (fun hc v hv => ex_move rfl (ev s9 rfl)) rfl hz (by decide) (fun Ybq zz kk s62 => ?_)
    replace s1 := ku s1
    replace s2 := ku s2
    replace s3 := ku s3
    replace s4 := ku s4
    replace s9 := ku s9
    replace s54 := ku s54
    replace s58 := ku s58
    replace s60 := ku s60
    replace s61 := ku s61
    replace hz := zz
    clear kk zz Ybp
    refine vq _ (.pointer (some ⟨qn, on + i, none⟩)) (want_g rfl rfl s54) (fun hc v hv => ex_ix rfl (ev s61 hc) (ev s62 hc) (ixI9 qn on X.length nc i hit _)) rfl hz (by decide) (fun Ybr zz kk s63 => ?_)
    replace s1 := ku s1
    replace s2 := ku s2
    replace s3 := ku s3
    replace s4 := ku s4
    replace s9 := ku s9
    replace s54 := ku s54
    replace s58 := ku s58
    replace s60 := ku s60
    replace hz := zz
    clear kk zz s61 s62 Ybq
    refine vq _ (.int .i64 x.n) (want_g rfl rfl s54) (fun hc v hv => ex_ld rfl (ev s63 hc) (ldI8 (cell8 e1 hv))) rfl hz (by decide) (fun Ybs zz kk s64 => ?_)
    replace s1 := ku s1
    replace s2 := ku s2
    replace s3 := ku s3
    replace s4 := ku s4
    replace s9 := ku s9
    replace s54 := ku s54
    replace s58 := ku s58
    replace s60 := ku s60
    replace hz := zz
    clear kk zz s63 Ybr
    refine vq _ (.pointer (some ⟨qv, ov + x.n.toNat * 2, none⟩)) (want_g rfl rfl s54) (fun hc v hv => ex_ix rfl (ev s60 hc) (ev s64 hc) ((HV x.n (gd9 hc).1 (by have := (gd9 hc).2; omega)).1 _)) rfl hz (by decide) (fun Ybt zz kk s65 => ?_)
    replace s1 := ku s1
    replace s2 := ku s2
    replace s3 := ku s3
    replace s4 := ku s4
    replace s9 := ku s9
    replace s54 := ku s54
    replace s58 := ku s58
    replace hz := zz
    clear kk zz s60 s64 Ybs
    refine vq _ (.agg #[.int .u64 (s.V.getD x.n.toNat (0, 0)).1, .int .u64 (s.V.getD x.n.toNat (0, 0)).2]) (want_g rfl rfl s54) (fun hc v hv => ex_ld rfl (ev s65 hc) ((HV x.n (gd9 hc).1 (by have := (gd9 hc).2; omega)).2 _ hv)) rfl hz (by decide) (fun Ybu zz kk s66 => ?_)
    replace s1 := ku s1
    replace s2 := ku s2
    replace s3 := ku s3
    replace s4 := ku s4
    replace s9 := ku s9
    replace s54 := ku s54
    replace s58 := ku s58
    replace hz := zz
    clear kk zz s65 Ybt
    refine vq _ (.bool (!decide ((x.h, x.l) = (s.V.getD x.n.toNat (0, 0))))) (want_g rfl rfl s54) (fun hc v hv => ex_bin rfl (ev s58 hc) (ev s66 hc) (neqDr7 _ _ (x.h, x.l) (s.V.getD x.n.toNat (0, 0)) _)) rfl hz (by decide) (fun Ybv zz kk s67 => ?_)
    replace s1 := ku s1
    replace s2 := ku s2
    replace s3 := ku s3
    replace s4 := ku s4
    replace s9 := ku s9
    replace s54 := ku s54
    replace hz := zz
    clear kk zz s58 s66 Ybu
    refine vq true (.bool (((((decide (x.n < 0)) || (decide (n ≤ x.n))) || (decide (x.n = s.self))) || ((decide (0 < (i : Int))) && (decide (x.n ≤ y.n)))) || (!decide ((x.h, x.l) = (s.V.getD x.n.toNat (0, 0)))))) (want_none rfl) (fun hc v hv => ex_or rfl s54 s67 rfl) rfl hz (by decide) (fun Ybw zz kk s68 => ?_)
    replace s1 := ku s1
    replace s2 := ku s2
    replace s3 := ku s3
    replace s4 := ku s4
    replace s9 := ku s9
    replace hz := zz
    clear kk zz s54 s67 Ybv
    refine vq_nil (fun x1 hx1 => ?_)
    have ee : ((((((decide (x.n < 0)) || (decide (n ≤ x.n))) || (decide (x.n = s.self))) || ((decide (0 < (i : Int))) && (decide (x.n ≤ y.n)))) || (!decide ((x.h, x.l) = (s.V.getD x.n.toNat (0, 0)))))) = vbad9 s n X i := by unfold vbad9; rw [← hx, ← hy]
    go_upto_region 5 with fail
    cases eb : vbad9 s n X i
    rotate_left
    · refine wp_cond_true ((ev s68 rfl).trans (by rw [ee, eb])) ?_
      go_upto_region 5 with fail
      refine wp_region_lit ?_
      refine vt (.bool false) (ex_assign rfl rfl) hz (fun Ybx zz kk s8 => ?_)
      replace hz := zz
      clear kk zz s1 s2 s3 s4 s9
      refine wpList_nil ?_
      have HR := hide (rv9_bad hit eb)
      go_wp2
      refine bodyPost_ret (results_tmp rfl _ _ _) rfl ⟨?_, hB.trans (hx1.mono (by omega))⟩
      rw [getD_of s8, HR.out]
      rfl
    refine wp_cond_false ((ev s68 rfl).trans (by rw [ee, eb])) ?_
    clear s68
    go_upto_region 3 with fail
    refine wp_region_lit ?_
    refine vt _ (ex_move rfl (ev s9 rfl)) hz (fun Yby zz kk s14 => ?_)
    replace s1 := ku s1
    replace s2 := ku s2
    replace s3 := ku s3
    replace s4 := ku s4
    replace s9 := ku s9
    replace hz := zz
    clear kk zz
    refine vt (.int .i64 ((i + 1 : Nat) : Int)) (ex_bin rfl (ev s14 rfl) rfl (addD8 _ _ _ 1 ((i + 1 : Nat) : Int) (by rw [IntKind.wrap_i64]; omega) _)) hz (fun Ybz zz kk s15 => ?_)
    replace s1 := ku s1
    replace s2 := ku s2
    replace s3 := ku s3
    replace s4 := ku s4
    replace s9 := ku s9
    replace hz := zz
    clear kk zz s14 Yby
    refine vt _ (ex_assign rfl (ev s15 rfl)) hz (fun Yb0 zz kk s9x => ?_)
    replace s1 := ku s1
    replace s2 := ku s2
    replace s3 := ku s3
    replace s4 := ku s4
    clear kk hz s15 s9
    have hz := zz
    have s9 := s9x
    clear zz s9x Ybz
    refine wpList_nil ?_
    exact ⟨_, rfl, by omega, hz, s1, s2, s3, s4, s9, hx1, fun k hk => by
      by_cases e : k = i
      · subst e; exact eb
      · exact HJ.out.2 k (by omega)⟩
  · have d1 : decide ((i : Int) < (X.length : Int)) = false := decide_eq_false (by omega)
    go_upto_region 2 with fail
    refine wp_region_lit ?_
    refine vt _ (ex_move rfl (ev s9 rfl)) hz (fun Yb1 zz kk s10 => ?_)
    replace s2 := ku s2
    replace hz := zz
    clear kk zz s1 s3 s4 s9
    refine vt _ (ex_move rfl (ev s2 rfl)) hz (fun Yb2 zz kk s11 => ?_)
    replace s10 := ku s10
    replace hz := zz
    clear kk zz s2 Yb1
    refine vt (.int .i64 (X.length : Int)) (ex_lenI9 rfl rfl (ev s11 rfl)) hz (fun Yb3 zz kk s12 => ?_)
    replace s10 := ku s10
    replace hz := zz
    clear kk zz s11 Yb2
    refine vt (.bool false) (ex_bin rfl (ev s10 rfl) (ev s12 rfl) (lssD8 _ _ _ _ false d1 _)) hz (fun Yb4 zz kk s13 => ?_)
    replace hz := zz
    clear kk zz s10 s12 Yb3
    refine wpList_nil ?_
    go_upto_region 6 with fail
    refine wp_cond_false ((ev s13 rfl).trans rfl) ?_
    clear s13 d1
    go_upto_region 6 with fail
    refine wp_region_lit ?_
    refine vt (.bool true) (ex_assign rfl rfl) hz (fun Yb5 zz kk s8 => ?_)
    replace hz := zz
    clear kk zz
    refine wpList_nil ?_
    have HR := hide (rv9_ok (s := s) (n := n) (X := X) (fun k hk => HJ.out.2 k (by omega)))
    go_wp2
    refine bodyPost_ret (results_tmp rfl _ _ _) rfl ⟨?_, hB.trans (hbr.mono (by omega))⟩
    rw [getD_of s8, HR.out]
    rfl
end Go.Proofs.YtphdnmamopgelaaGreat
