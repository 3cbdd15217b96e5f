import Derived.Test.YtphdnmamopgelaaGreatW12
set_option maxRecDepth 100000
set_option linter.unusedVariables false
set_option linter.unusedSimpArgs false
namespace Go.Proofs.YtphdnmamopgelaaGreat
open Go.RowKit Go.Maps Go.Shelf
open Classical
theorem eqlDr7 (x y : Operand) (r r' : Int × Int) (w : World) : (do eqGuard .eql 57 x y (.agg #[.int .u64 r.1, .int .u64 r.2]) (.agg #[.int .u64 r'.1, .int .u64 r'.2]); binOp .eql 57 (.agg #[.int .u64 r.1, .int .u64 r.2]) (.agg #[.int .u64 r'.1, .int .u64 r'.2]) : Sem Value).run Tryz.prog w = .ok (.bool (decide (r = r'))) w := by
  obtain ⟨a, b⟩ := r
  obtain ⟨a', b'⟩ := r'
  go_simp
  by_cases e1 : a = a' <;> by_cases e2 : b = b' <;> simp [e1, e2]
def zAn9 : An := ⟨0, 0, 0, 0, 0, ⟨none, 0, []⟩⟩
def zBl9 : Bl := ⟨0, 0, 0, 0, 0, ⟨none, 0, []⟩⟩
theorem alAn9 (w : World) : (Instr.alloc 61 true (.tuple #[])).run Tryz.prog w = .ok (.pointer (some ⟨w.heap.size, 0, none⟩)) (w.alloc (.cells zAn9.cs.toArray 61)) := by
  go_simp
  first | done | rfl
theorem stAn9 {w : World} {q : Nat} (h : BX7 w q zAn9.cs) (x : An) : (Instr.storeAt 61 (.pointer (some ⟨q, 0, none⟩)) x.val).run Tryz.prog w = .ok () (sets w q 0 x.cs) := by
  have := run_storeAt_mid (P := Tryz.prog) w q 0 61 x.cs.toArray (fun j hj => ⟨by rw [Nat.zero_add, h.cell j _ (List.getElem?_eq_getElem (show j < zAn9.cs.length from hj))]; rfl, by rw [Nat.zero_add]; exact h.free j⟩) (by kernel_rfl) (all_oneCell_toArray (by
    intro v hv
    simp only [An.cs, List.mem_cons, List.not_mem_nil, or_false] at hv
    rcases hv with rfl | rfl | rfl | rfl | rfl | rfl <;> rfl))
  rw [setCells_sets] at this
  exact this
theorem putAn9 {w : World} {q : Nat} (h : BX7 w q zAn9.cs) (x : An) : BX7 (sets w q 0 x.cs) q x.cs := by
  refine ⟨by rw [size_sets]; exact h.lt, fun i y hy => ?_, fun i => sets_free _ _ _ (h.free i)⟩
  have := sets_at (b := q) x.cs 0 w (fun k hk => ⟨_, by rw [Nat.zero_add]; exact h.cell k _ (List.getElem?_eq_getElem (show k < zAn9.cs.length from hk))⟩) i y hy
  rw [Nat.zero_add] at this
  exact this
theorem upAn9 (w : World) (q : Nat) (x : An) : Upd (fun k => k = q) w (sets w q 0 x.cs) := upd_sets (S := fun k => k = q) (b := q) rfl _ _ _ (Upd.refl _ _)
theorem ldAn9 {w : World} {q o : Nat} {x : An} (h : ∀ k u, x.cs[k]? = some u → w.cell? ⟨q, o + k, none⟩ = some u) : (Instr.loadAt 61 (.pointer (some ⟨q, o, none⟩))).run Tryz.prog w = .ok x.val w := by
  have h0 := h 0 _ rfl
  have h1 := h 1 _ rfl
  have h2 := h 2 _ rfl
  have h3 := h 3 _ rfl
  have h4 := h 4 _ rfl
  have h5 := h 5 _ rfl
  rw [Nat.add_zero] at h0
  unfold An.val
  clear h
  go_simp
theorem fb0An (q : Nat) (w : World) : (Instr.fieldAt 61 (.pointer (some ⟨q, 0, none⟩)) 0).run Tryz.prog w = .ok (.pointer (some ⟨q, 0, none⟩)) w := by go_simp
theorem fb2An (q : Nat) (w : World) : (Instr.fieldAt 61 (.pointer (some ⟨q, 0, none⟩)) 2).run Tryz.prog w = .ok (.pointer (some ⟨q, 3, none⟩)) w := by go_simp
theorem fb3An (q : Nat) (w : World) : (Instr.fieldAt 61 (.pointer (some ⟨q, 0, none⟩)) 3).run Tryz.prog w = .ok (.pointer (some ⟨q, 4, none⟩)) w := by go_simp
theorem fb4An (q : Nat) (w : World) : (Instr.fieldAt 61 (.pointer (some ⟨q, 0, none⟩)) 4).run Tryz.prog w = .ok (.pointer (some ⟨q, 5, none⟩)) w := by go_simp
theorem alBl9 (w : World) : (Instr.alloc 59 true (.tuple #[])).run Tryz.prog w = .ok (.pointer (some ⟨w.heap.size, 0, none⟩)) (w.alloc (.cells zBl9.cs.toArray 59)) := by
  go_simp
  first | done | rfl
theorem stBl9 {w : World} {q : Nat} (h : BX7 w q zBl9.cs) (x : Bl) : (Instr.storeAt 59 (.pointer (some ⟨q, 0, none⟩)) x.val).run Tryz.prog w = .ok () (sets w q 0 x.cs) := by
  have := run_storeAt_mid (P := Tryz.prog) w q 0 59 x.cs.toArray (fun j hj => ⟨by rw [Nat.zero_add, h.cell j _ (List.getElem?_eq_getElem (show j < zBl9.cs.length from hj))]; rfl, by rw [Nat.zero_add]; exact h.free j⟩) (by kernel_rfl) (all_oneCell_toArray (by
    intro v hv
    simp only [Bl.cs, List.mem_cons, List.not_mem_nil, or_false] at hv
    rcases hv with rfl | rfl | rfl | rfl | rfl | rfl <;> rfl))
  rw [setCells_sets] at this
  exact this
theorem putBl9 {w : World} {q : Nat} (h : BX7 w q zBl9.cs) (x : Bl) : BX7 (sets w q 0 x.cs) q x.cs := by
  refine ⟨by rw [size_sets]; exact h.lt, fun i y hy => ?_, fun i => sets_free _ _ _ (h.free i)⟩
  have := sets_at (b := q) x.cs 0 w (fun k hk => ⟨_, by rw [Nat.zero_add]; exact h.cell k _ (List.getElem?_eq_getElem (show k < zBl9.cs.length from hk))⟩) i y hy
  rw [Nat.zero_add] at this
  exact this
theorem upBl9 (w : World) (q : Nat) (x : Bl) : Upd (fun k => k = q) w (sets w q 0 x.cs) := upd_sets (S := fun k => k = q) (b := q) rfl _ _ _ (Upd.refl _ _)
theorem ldBl9 {w : World} {q o : Nat} {x : Bl} (h : ∀ k u, x.cs[k]? = some u → w.cell? ⟨q, o + k, none⟩ = some u) : (Instr.loadAt 59 (.pointer (some ⟨q, o, none⟩))).run Tryz.prog w = .ok x.val w := by
  have h0 := h 0 _ rfl
  have h1 := h 1 _ rfl
  have h2 := h 2 _ rfl
  have h3 := h 3 _ rfl
  have h4 := h 4 _ rfl
  have h5 := h 5 _ rfl
  rw [Nat.add_zero] at h0
  unfold Bl.val
  clear h
  go_simp
theorem fb2Bl (q : Nat) (w : World) : (Instr.fieldAt 59 (.pointer (some ⟨q, 0, none⟩)) 2).run Tryz.prog w = .ok (.pointer (some ⟨q, 3, none⟩)) w := by go_simp
theorem fb3Bl (q : Nat) (w : World) : (Instr.fieldAt 59 (.pointer (some ⟨q, 0, none⟩)) 3).run Tryz.prog w = .ok (.pointer (some ⟨q, 4, none⟩)) w := by go_simp
theorem fb4Bl (q : Nat) (w : World) : (Instr.fieldAt 59 (.pointer (some ⟨q, 0, none⟩)) 4).run Tryz.prog w = .ok (.pointer (some ⟨q, 5, none⟩)) w := by go_simp
def rab9 (c : Cg) (n : Int) (x : An) : Bool := (((decide (x.v < 0) || decide (4294967296 < x.v)) || (!lgB9 c x.s.D x.c)) || ((!decide (x.n = x.v % n)) && decide (0 < (x.s.D.length : Int))))
def Sta.rc9 (s : Sta) (c : Cg) (n : Int) : Bool := bif (decide (0 < (((((((s.view + s.last) + s.commit) + s.idle) + (s.L.length : Int)) + (s.A.length : Int)) + (s.M.length : Int)) + (s.B.length : Int))) || decide (s.V.getD s.self.toNat (0, 0) = (0, 0))) then false else !(s.N.any (rab9 c n))
theorem any_bad9 {α : Type} {p : α → Bool} {L : List α} {i : Nat} {x : α} (h : L[i]? = some x) (hp : p x = true) : L.any p = true := List.any_eq_true.2 ⟨x, List.mem_of_getElem? h, hp⟩
theorem any_ok9 {α : Type} {p : α → Bool} {L : List α} (h : ∀ k x, k < L.length → L[k]? = some x → p x = false) : L.any p = false := by
  rw [List.any_eq_false]
  intro x hx
  obtain ⟨k, hk⟩ := List.mem_iff_getElem?.1 hx
  rw [h k x (List.getElem?_eq_some_iff.1 hk).1 hk]
  decide
set_option maxHeartbeats 1000000 in
theorem rrecovering9 (c : Cg) (s : Sta) (n : Int) (w : World) (hI : s.In w) (hF : s.Fit) (hv1 : 0 ≤ s.view ∧ s.view ≤ 4294967296) (hv2 : 0 ≤ s.last ∧ s.last ≤ s.view) (hv3 : 0 ≤ s.commit ∧ s.commit ≤ (s.L.length : Int)) (hv4 : 0 ≤ s.idle ∧ s.idle < 1000) (hs : 0 ≤ s.self ∧ s.self < (s.V.length : Int)) (hn : 0 < n ∧ n < 100) : Calls Tryz.prog 50 #[c.val, s.val, .int .i64 n] w fun e w' => e = .returned (.bool (s.rc9 c n)) ∧ Below w.heap.size w w' := by
  go_enter Tryz.func50, Tryz.ntmps50
  go_upto_region 0 with fail
  refine wp_region_lit ?_
  refine vl_gen (fun T => T.size = 91 ∧ T[0]? = some (gw true (c.val)) ∧ T[1]? = some (gw true (s.val)) ∧ T[2]? = some (gw true (.int .i64 n))) ⟨rfl, rfl, rfl, rfl⟩ (fun Z0 ⟨hz, s0, s1, s2⟩ => ?_)
  obtain ⟨w1, hw1⟩ : ∃ y, y = w.alloc (.cells c.cs.toArray 23) := ⟨_, rfl⟩
  have hb : Below w.heap.size w w1 := by rw [hw1]; exact (Below.refl _ _).alloc (Nat.le_refl _) _
  have hs1 : w1.heap.size = w.heap.size + 1 := by rw [hw1]; simp
  have HC : CB7 w1 (w.heap.size) c := by rw [hw1]; exact BX7.new _ _ _
  refine vw (.pointer (some ⟨w.heap.size, 0, none⟩)) w1 (want_none rfl) (ex_box8 rfl (ev s0 rfl) (by rw [hw1]; exact bxC7 _ _)) rfl hz (by decide) (fun Z1 zz kk s3x => ?_)
  replace s1 := ku s1
  replace s2 := ku s2
  clear kk hz s0 hw1
  have hz := zz
  have s3 := s3x
  clear zz s3x
  have hB := hb
  clear hb
  obtain ⟨w2, hw2⟩ : ∃ y, y = w1.alloc (.cells s.cs.toArray 33) := ⟨_, rfl⟩
  have hb : Below w1.heap.size w1 w2 := by rw [hw2]; exact (Below.refl _ _).alloc (Nat.le_refl _) _
  have hs2 : w2.heap.size = w.heap.size + 2 := by rw [hw2]; simp; omega
  have HS : SB7 w2 (w.heap.size + 1) s := by rw [hw2, ← hs1]; exact BX7.new _ _ _
  refine vw (.pointer (some ⟨w.heap.size + 1, 0, none⟩)) w2 (want_none rfl) (ex_box8 rfl (ev s1 rfl) (by rw [hw2, ← hs1]; exact bxS7 _ _)) rfl hz (by decide) (fun Z2 zz kk s4x => ?_)
  replace s2 := ku s2
  replace s3 := ku s3
  clear kk hz s1 hw2
  have hz := zz
  have s4 := s4x
  clear zz s4x
  have hB := hB.trans (hb.mono (by omega))
  have HC := HC.bel hb
  clear hb
  have hv0 : Below w2.heap.size w2 w2 := Below.refl _ _
  have HI := hI.later hB
  have f0 := hF.ll
  have f1 := hF.al
  have f2 := hF.ml
  have f3 := hF.bl
  have f4 := hF.nl
  obtain ⟨qv, ov, hva, hQ⟩ := vec_at8 HI.v hs
  refine vt (.bool false) (ex_assign rfl rfl) hz (fun Ya zz kk s6 => ?_)
  replace s2 := ku s2
  replace s3 := ku s3
  replace s4 := ku s4
  replace hz := zz
  clear kk zz
  clear s6
  refine wpList_nil ?_
  go_upto_region 1 with fail
  refine wp_region_lit ?_
  refine vt (.pointer (some ⟨w.heap.size + 1, 2, none⟩)) (ex_fa rfl (ev s4 rfl) (faS2 _ _)) hz (fun Yb zz kk s9 => ?_)
  replace s2 := ku s2
  replace s3 := ku s3
  replace s4 := ku s4
  replace hz := zz
  clear kk zz
  refine vt (.int .i64 s.view) (ex_ld rfl (ev s9 rfl) (ldI8 (cell8 (HS.cell 2 _ rfl) hv0))) hz (fun Yc zz kk s10 => ?_)
  replace s2 := ku s2
  replace s3 := ku s3
  replace s4 := ku s4
  replace hz := zz
  clear kk zz s9 Yb
  refine vt (.pointer (some ⟨w.heap.size + 1, 3, none⟩)) (ex_fa rfl (ev s4 rfl) (faS3 _ _)) hz (fun Yd zz kk s11 => ?_)
  replace s2 := ku s2
  replace s3 := ku s3
  replace s4 := ku s4
  replace s10 := ku s10
  replace hz := zz
  clear kk zz Yc
  refine vt (.int .i64 s.last) (ex_ld rfl (ev s11 rfl) (ldI8 (cell8 (HS.cell 3 _ rfl) hv0))) hz (fun Ye zz kk s12 => ?_)
  replace s2 := ku s2
  replace s3 := ku s3
  replace s4 := ku s4
  replace s10 := ku s10
  replace hz := zz
  clear kk zz s11 Yd
  refine vt (.int .i64 ((s.view) + (s.last))) (ex_bin rfl (ev s10 rfl) (ev s12 rfl) (addD8 _ _ (s.view) (s.last) ((s.view) + (s.last)) (by rw [IntKind.wrap_i64]; omega) _)) hz (fun Yf zz kk s13 => ?_)
  replace s2 := ku s2
  replace s3 := ku s3
  replace s4 := ku s4
  replace hz := zz
  clear kk zz s10 s12 Ye
  refine vt (.pointer (some ⟨w.heap.size + 1, 5, none⟩)) (ex_fa rfl (ev s4 rfl) (faS5 _ _)) hz (fun Yg zz kk s14 => ?_)
  replace s2 := ku s2
  replace s3 := ku s3
  replace s4 := ku s4
  replace s13 := ku s13
  replace hz := zz
  clear kk zz Yf
  refine vt (.int .i64 s.commit) (ex_ld rfl (ev s14 rfl) (ldI8 (cell8 (HS.cell 5 _ rfl) hv0))) hz (fun Yh zz kk s15 => ?_)
  replace s2 := ku s2
  replace s3 := ku s3
  replace s4 := ku s4
  replace s13 := ku s13
  replace hz := zz
  clear kk zz s14 Yg
  refine vt (.int .i64 (((s.view) + (s.last)) + (s.commit))) (ex_bin rfl (ev s13 rfl) (ev s15 rfl) (addD8 _ _ ((s.view) + (s.last)) (s.commit) (((s.view) + (s.last)) + (s.commit)) (by rw [IntKind.wrap_i64]; omega) _)) hz (fun Yi zz kk s16 => ?_)
  replace s2 := ku s2
  replace s3 := ku s3
  replace s4 := ku s4
  replace hz := zz
  clear kk zz s13 s15 Yh
  refine vt (.pointer (some ⟨w.heap.size + 1, 7, none⟩)) (ex_fa rfl (ev s4 rfl) (faS7 _ _)) hz (fun Yj zz kk s17 => ?_)
  replace s2 := ku s2
  replace s3 := ku s3
  replace s4 := ku s4
  replace s16 := ku s16
  replace hz := zz
  clear kk zz Yi
  refine vt (.int .i64 s.idle) (ex_ld rfl (ev s17 rfl) (ldI8 (cell8 (HS.cell 7 _ rfl) hv0))) hz (fun Yk zz kk s18 => ?_)
  replace s2 := ku s2
  replace s3 := ku s3
  replace s4 := ku s4
  replace s16 := ku s16
  replace hz := zz
  clear kk zz s17 Yj
  refine vt (.int .i64 ((((s.view) + (s.last)) + (s.commit)) + (s.idle))) (ex_bin rfl (ev s16 rfl) (ev s18 rfl) (addD8 _ _ (((s.view) + (s.last)) + (s.commit)) (s.idle) ((((s.view) + (s.last)) + (s.commit)) + (s.idle)) (by rw [IntKind.wrap_i64]; omega) _)) hz (fun Yl zz kk s19 => ?_)
  replace s2 := ku s2
  replace s3 := ku s3
  replace s4 := ku s4
  replace hz := zz
  clear kk zz s16 s18 Yk
  refine vt (.pointer (some ⟨w.heap.size + 1, 4, none⟩)) (ex_fa rfl (ev s4 rfl) (faS4 _ _)) hz (fun Ym zz kk s20 => ?_)
  replace s2 := ku s2
  replace s3 := ku s3
  replace s4 := ku s4
  replace s19 := ku s19
  replace hz := zz
  clear kk zz Yl
  refine vt (.slice s.la s.L.length s.lc) (ex_ld rfl (ev s20 rfl) (ldE8 (cell8 (HS.cell 4 _ rfl) hv0))) hz (fun Yn zz kk s21 => ?_)
  replace s2 := ku s2
  replace s3 := ku s3
  replace s4 := ku s4
  replace s19 := ku s19
  replace hz := zz
  clear kk zz s20 Ym
  refine vt (.int .i64 (s.L.length : Int)) (ex_lenE8 rfl rfl (ev s21 rfl)) hz (fun Yo zz kk s22 => ?_)
  replace s2 := ku s2
  replace s3 := ku s3
  replace s4 := ku s4
  replace s19 := ku s19
  replace hz := zz
  clear kk zz s21 Yn
  refine vt (.int .i64 (((((s.view) + (s.last)) + (s.commit)) + (s.idle)) + ((s.L.length : Int)))) (ex_bin rfl (ev s19 rfl) (ev s22 rfl) (addD8 _ _ ((((s.view) + (s.last)) + (s.commit)) + (s.idle)) ((s.L.length : Int)) (((((s.view) + (s.last)) + (s.commit)) + (s.idle)) + ((s.L.length : Int))) (by rw [IntKind.wrap_i64]; omega) _)) hz (fun Yp zz kk s23 => ?_)
  replace s2 := ku s2
  replace s3 := ku s3
  replace s4 := ku s4
  replace hz := zz
  clear kk zz s19 s22 Yo
  refine vt (.pointer (some ⟨w.heap.size + 1, 8, none⟩)) (ex_fa rfl (ev s4 rfl) (faS8 _ _)) hz (fun Yq zz kk s24 => ?_)
  replace s2 := ku s2
  replace s3 := ku s3
  replace s4 := ku s4
  replace s23 := ku s23
  replace hz := zz
  clear kk zz Yp
  refine vt (.slice s.ka s.A.length s.kc) (ex_ld rfl (ev s24 rfl) (ldK8 (cell8 (HS.cell 8 _ rfl) hv0))) hz (fun Yr zz kk s25 => ?_)
  replace s2 := ku s2
  replace s3 := ku s3
  replace s4 := ku s4
  replace s23 := ku s23
  replace hz := zz
  clear kk zz s24 Yq
  refine vt (.int .i64 (s.A.length : Int)) (ex_lenK8 rfl rfl (ev s25 rfl)) hz (fun Ys zz kk s26 => ?_)
  replace s2 := ku s2
  replace s3 := ku s3
  replace s4 := ku s4
  replace s23 := ku s23
  replace hz := zz
  clear kk zz s25 Yr
  refine vt (.int .i64 ((((((s.view) + (s.last)) + (s.commit)) + (s.idle)) + ((s.L.length : Int))) + ((s.A.length : Int)))) (ex_bin rfl (ev s23 rfl) (ev s26 rfl) (addD8 _ _ (((((s.view) + (s.last)) + (s.commit)) + (s.idle)) + ((s.L.length : Int))) ((s.A.length : Int)) ((((((s.view) + (s.last)) + (s.commit)) + (s.idle)) + ((s.L.length : Int))) + ((s.A.length : Int))) (by rw [IntKind.wrap_i64]; omega) _)) hz (fun Yt zz kk s27 => ?_)
  replace s2 := ku s2
  replace s3 := ku s3
  replace s4 := ku s4
  replace hz := zz
  clear kk zz s23 s26 Ys
  refine vt (.pointer (some ⟨w.heap.size + 1, 9, none⟩)) (ex_fa rfl (ev s4 rfl) (faS9 _ _)) hz (fun Yu zz kk s28 => ?_)
  replace s2 := ku s2
  replace s3 := ku s3
  replace s4 := ku s4
  replace s27 := ku s27
  replace hz := zz
  clear kk zz Yt
  refine vt (.slice s.ma s.M.length s.mc) (ex_ld rfl (ev s28 rfl) (ldM8 (cell8 (HS.cell 9 _ rfl) hv0))) hz (fun Yv zz kk s29 => ?_)
  replace s2 := ku s2
  replace s3 := ku s3
  replace s4 := ku s4
  replace s27 := ku s27
  replace hz := zz
  clear kk zz s28 Yu
  refine vt (.int .i64 (s.M.length : Int)) (ex_lenM8 rfl rfl (ev s29 rfl)) hz (fun Yw zz kk s30 => ?_)
  replace s2 := ku s2
  replace s3 := ku s3
  replace s4 := ku s4
  replace s27 := ku s27
  replace hz := zz
  clear kk zz s29 Yv
  refine vt (.int .i64 (((((((s.view) + (s.last)) + (s.commit)) + (s.idle)) + ((s.L.length : Int))) + ((s.A.length : Int))) + ((s.M.length : Int)))) (ex_bin rfl (ev s27 rfl) (ev s30 rfl) (addD8 _ _ ((((((s.view) + (s.last)) + (s.commit)) + (s.idle)) + ((s.L.length : Int))) + ((s.A.length : Int))) ((s.M.length : Int)) (((((((s.view) + (s.last)) + (s.commit)) + (s.idle)) + ((s.L.length : Int))) + ((s.A.length : Int))) + ((s.M.length : Int))) (by rw [IntKind.wrap_i64]; omega) _)) hz (fun Yx zz kk s31 => ?_)
  replace s2 := ku s2
  replace s3 := ku s3
  replace s4 := ku s4
  replace hz := zz
  clear kk zz s27 s30 Yw
  refine vt (.pointer (some ⟨w.heap.size + 1, 10, none⟩)) (ex_fa rfl (ev s4 rfl) (faS10 _ _)) hz (fun Yy zz kk s32 => ?_)
  replace s2 := ku s2
  replace s3 := ku s3
  replace s4 := ku s4
  replace s31 := ku s31
  replace hz := zz
  clear kk zz Yx
  refine vt (.slice s.ba s.B.length s.bc) (ex_ld rfl (ev s32 rfl) (ldB8 (cell8 (HS.cell 10 _ rfl) hv0))) hz (fun Yz zz kk s33 => ?_)
  replace s2 := ku s2
  replace s3 := ku s3
  replace s4 := ku s4
  replace s31 := ku s31
  replace hz := zz
  clear kk zz s32 Yy
  refine vt (.int .i64 (s.B.length : Int)) (ex_lenB8 rfl rfl (ev s33 rfl)) hz (fun Y0 zz kk s34 => ?_)
  replace s2 := ku s2
  replace s3 := ku s3
  replace s4 := ku s4
  replace s31 := ku s31
  replace hz := zz
  clear kk zz s33 Yz
  refine vt (.int .i64 ((((((((s.view) + (s.last)) + (s.commit)) + (s.idle)) + ((s.L.length : Int))) + ((s.A.length : Int))) + ((s.M.length : Int))) + ((s.B.length : Int)))) (ex_bin rfl (ev s31 rfl) (ev s34 rfl) (addD8 _ _ (((((((s.view) + (s.last)) + (s.commit)) + (s.idle)) + ((s.L.length : Int))) + ((s.A.length : Int))) + ((s.M.length : Int))) ((s.B.length : Int)) ((((((((s.view) + (s.last)) + (s.commit)) + (s.idle)) + ((s.L.length : Int))) + ((s.A.length : Int))) + ((s.M.length : Int))) + ((s.B.length : Int))) (by rw [IntKind.wrap_i64]; omega) _)) hz (fun Y1 zz kk s35 => ?_)
  replace s2 := ku s2
  replace s3 := ku s3
  replace s4 := ku s4
  replace hz := zz
  clear kk zz s31 s34 Y0
  refine vt (.bool (decide (0 < (((((((s.view) + (s.last)) + (s.commit)) + (s.idle)) + ((s.L.length : Int))) + ((s.A.length : Int))) + ((s.M.length : Int))) + ((s.B.length : Int))))) (ex_bin rfl (ev s35 rfl) rfl (gtrC _ _ _ _ _)) hz (fun Y2 zz kk s36 => ?_)
  replace s2 := ku s2
  replace s3 := ku s3
  replace s4 := ku s4
  replace hz := zz
  clear kk zz s35 Y1
  refine vt _ (ex_move rfl (ev s36 rfl)) hz (fun Y3 zz kk s37 => ?_)
  replace s2 := ku s2
  replace s3 := ku s3
  replace s4 := ku s4
  replace hz := zz
  clear kk zz s36 Y2
  refine vl _ (.pointer (some ⟨w.heap.size + 1, 6, none⟩)) (want_g rfl rfl s37) (fun hc => ex_fa rfl (ev s4 rfl) (faS6 _ _)) rfl hz (by decide) (fun Y4 zz kk s38 => ?_)
  replace s2 := ku s2
  replace s3 := ku s3
  replace s4 := ku s4
  replace s37 := ku s37
  replace hz := zz
  clear kk zz Y3
  refine vl _ (.slice s.va s.V.length s.vc) (want_g rfl rfl s37) (fun hc => ex_ld rfl (ev s38 hc) (ldV8 (cell8 (HS.cell 6 _ rfl) hv0))) rfl hz (by decide) (fun Y5 zz kk s39 => ?_)
  replace s2 := ku s2
  replace s3 := ku s3
  replace s4 := ku s4
  replace s37 := ku s37
  replace hz := zz
  clear kk zz s38 Y4
  refine vl _ (.pointer (some ⟨w.heap.size + 1, 0, none⟩)) (want_g rfl rfl s37) (fun hc => ex_fa rfl (ev s4 rfl) (faS0 _ _)) rfl hz (by decide) (fun Y6 zz kk s40 => ?_)
  replace s2 := ku s2
  replace s3 := ku s3
  replace s4 := ku s4
  replace s37 := ku s37
  replace s39 := ku s39
  replace hz := zz
  clear kk zz Y5
  refine vl _ (.int .i64 s.self) (want_g rfl rfl s37) (fun hc => ex_ld rfl (ev s40 hc) (ldI8 (cell8 (HS.cell 0 _ rfl) hv0))) rfl hz (by decide) (fun Y7 zz kk s41 => ?_)
  replace s2 := ku s2
  replace s3 := ku s3
  replace s4 := ku s4
  replace s37 := ku s37
  replace s39 := ku s39
  replace hz := zz
  clear kk zz s40 Y6
  refine vl _ (.pointer (some ⟨qv, ov + s.self.toNat * 2, none⟩)) (want_g rfl rfl s37) (fun hc => ex_ix rfl (ev s39 hc) (ev s41 hc) (hQ.1 _)) rfl hz (by decide) (fun Y8 zz kk s42 => ?_)
  replace s2 := ku s2
  replace s3 := ku s3
  replace s4 := ku s4
  replace s37 := ku s37
  replace hz := zz
  clear kk zz s39 s41 Y7
  refine vl _ (.agg #[.int .u64 (s.V.getD s.self.toNat (0, 0)).1, .int .u64 (s.V.getD s.self.toNat (0, 0)).2]) (want_g rfl rfl s37) (fun hc => ex_ld rfl (ev s42 hc) (hQ.2 _ hv0)) rfl hz (by decide) (fun Y9 zz kk s43 => ?_)
  replace s2 := ku s2
  replace s3 := ku s3
  replace s4 := ku s4
  replace s37 := ku s37
  replace hz := zz
  clear kk zz s42 Y8
  refine vl _ (.agg #[.int .u64 0, .int .u64 0]) (want_g rfl rfl s37) (fun hc => ex_build rfl (buildDr _)) rfl hz (by decide) (fun Yba zz kk s44 => ?_)
  replace s2 := ku s2
  replace s3 := ku s3
  replace s4 := ku s4
  replace s37 := ku s37
  replace s43 := ku s43
  replace hz := zz
  clear kk zz Y9
  refine vl _ (.bool (decide ((s.V.getD s.self.toNat (0, 0)) = (0, 0)))) (want_g rfl rfl s37) (fun hc => ex_bin rfl (ev s43 hc) (ev s44 hc) (eqlDr7 _ _ (s.V.getD s.self.toNat (0, 0)) (0, 0) _)) rfl hz (by decide) (fun Ybb zz kk s45 => ?_)
  replace s2 := ku s2
  replace s3 := ku s3
  replace s4 := ku s4
  replace s37 := ku s37
  replace hz := zz
  clear kk zz s43 s44 Yba
  refine vt (.bool ((decide (0 < (((((((s.view) + (s.last)) + (s.commit)) + (s.idle)) + ((s.L.length : Int))) + ((s.A.length : Int))) + ((s.M.length : Int))) + ((s.B.length : Int)))) || (decide ((s.V.getD s.self.toNat (0, 0)) = (0, 0))))) (ex_or rfl s37 s45 rfl) hz (fun Ybc zz kk s46 => ?_)
  replace s2 := ku s2
  replace s3 := ku s3
  replace s4 := ku s4
  replace hz := zz
  clear kk zz s37 s45 Ybb
  refine wpList_nil ?_
  go_upto_region 2 with fail
  cases e46 : ((decide (0 < (((((((s.view) + (s.last)) + (s.commit)) + (s.idle)) + ((s.L.length : Int))) + ((s.A.length : Int))) + ((s.M.length : Int))) + ((s.B.length : Int)))) || (decide ((s.V.getD s.self.toNat (0, 0)) = (0, 0))))
  rotate_left
  · refine wp_cond_true ((ev s46 rfl).trans (congrArg Value.bool e46)) ?_
    go_upto_region 2 with fail
    refine wp_region_lit ?_
    refine vt (.bool false) (ex_assign rfl rfl) hz (fun Ybd zz kk s6 => ?_)
    replace hz := zz
    clear kk zz s2 s3 s4
    refine wpList_nil ?_
    go_wp2
    refine bodyPost_ret (results_tmp rfl _ _ _) rfl ⟨?_, hB.trans (hv0.mono (by omega))⟩
    rw [getD_of s6]
    unfold Sta.rc9
    rw [show _ = true from e46]
    rfl
  refine wp_cond_false ((ev s46 rfl).trans (congrArg Value.bool e46)) ?_
  clear s46
  go_upto_region 3 with fail
  refine wp_region_lit ?_
  refine vt (.int .i64 0) (ex_assign rfl rfl) hz (fun Ybe zz kk s7 => ?_)
  replace s2 := ku s2
  replace s3 := ku s3
  replace s4 := ku s4
  replace hz := zz
  clear kk zz
  refine wpList_nil ?_
  have hs7 : _ = some (gw true (.int .i64 ((0 : Nat) : Int))) := s7
  go_upto_region 4 with fail
  refine v_loop 7 s.N.length (fun i T wr => T.size = 91 ∧ T[2]? = some (gw true (.int .i64 n)) ∧ T[3]? = some (gw true (.pointer (some ⟨w.heap.size, 0, none⟩))) ∧ T[4]? = some (gw true (.pointer (some ⟨w.heap.size + 1, 0, none⟩))) ∧ T[7]? = some (gw true (.int .i64 (i : Int))) ∧ Hid (Below w2.heap.size w2 wr ∧ ∀ k x, k < i → s.N[k]? = some x → rab9 c n x = false)) (fun i T w h => h.2.2.2.2.1) ⟨hz, s2, s3, s4, hs7, Below.refl _ _, fun k x hk => absurd hk (Nat.not_lt_zero _)⟩ ?_
  clear hz s2 s3 s4 s7 hs7
  intro i R0 wr hi hh
  obtain ⟨hz, s2, s3, s4, s7, HJ⟩ := hh
  have hbr := HJ.out.1
  have hzr := hbr.size
  have hzw := hB.size
  by_cases hit : i < s.N.length
  · have d1 : decide ((i : Int) < (s.N.length : Int)) = true := decide_eq_true (by omega)
    go_upto_region 4 with fail
    refine wp_region_lit ?_
    refine vt _ (ex_move rfl (ev s7 rfl)) hz (fun Ybf zz kk s47 => ?_)
    replace s2 := ku s2
    replace s3 := ku s3
    replace s4 := ku s4
    replace s7 := ku s7
    replace hz := zz
    clear kk zz
    refine vt (.pointer (some ⟨w.heap.size + 1, 11, none⟩)) (ex_fa rfl (ev s4 rfl) (faS11 _ _)) hz (fun Ybg zz kk s48 => ?_)
    replace s2 := ku s2
    replace s3 := ku s3
    replace s4 := ku s4
    replace s7 := ku s7
    replace s47 := ku s47
    replace hz := zz
    clear kk zz Ybf
    refine vt (.slice s.na s.N.length s.nc) (ex_ld rfl (ev s48 rfl) (ldN8 (cell8 (HS.cell 11 _ rfl) hbr))) hz (fun Ybh zz kk s49 => ?_)
    replace s2 := ku s2
    replace s3 := ku s3
    replace s4 := ku s4
    replace s7 := ku s7
    replace s47 := ku s47
    replace hz := zz
    clear kk zz s48 Ybg
    refine vt (.int .i64 (s.N.length : Int)) (ex_lenN8 rfl rfl (ev s49 rfl)) hz (fun Ybi zz kk s50 => ?_)
    replace s2 := ku s2
    replace s3 := ku s3
    replace s4 := ku s4
    replace s7 := ku s7
    replace s47 := ku s47
    replace hz := zz
    clear kk zz s49 Ybh
    refine vt (.bool true) (ex_bin rfl (ev s47 rfl) (ev s50 rfl) (lssD8 _ _ _ _ true d1 _)) hz (fun Ybj zz kk s51 => ?_)
    replace s2 := ku s2
    replace s3 := ku s3
    replace s4 := ku s4
    replace s7 := ku s7
    replace hz := zz
    clear kk zz s47 s50 Ybi
    refine wpList_nil ?_
    go_upto_region 6 with fail
    refine wp_cond_true ((ev s51 rfl).trans rfl) ?_
    clear s51 d1
    obtain ⟨x, hxi⟩ : ∃ x, s.N[i]? = some x := ⟨_, List.getElem?_eq_getElem hit⟩
    have hmem := List.mem_of_getElem? hxi
    obtain ⟨q, o, hqa, hq, hl⟩ := (HI.n.later hbr).place (by intro e; rw [e] at hit; simp at hit)
    obtain ⟨y1, hy1⟩ : ∃ y, y = wr.alloc (.cells zAn9.cs.toArray 61) := ⟨_, rfl⟩
    have hb : Below wr.heap.size wr y1 := by rw [hy1]; exact (Below.refl _ _).alloc (Nat.le_refl _) _
    have HA : BX7 y1 wr.heap.size zAn9.cs := by rw [hy1]; exact BX7.new _ _ _
    go_upto_region 6 with fail
    refine wp_region_lit ?_
    refine vt (.pointer (some ⟨w.heap.size + 1, 11, none⟩)) (ex_fa rfl (ev s4 rfl) (faS11 _ _)) hz (fun Ybk zz kk s54 => ?_)
    replace s2 := ku s2
    replace s3 := ku s3
    replace s4 := ku s4
    replace s7 := ku s7
    replace hz := zz
    clear kk zz
    refine vt (.slice s.na s.N.length s.nc) (ex_ld rfl (ev s54 rfl) (ldN8 (cell8 (HS.cell 11 _ rfl) hbr))) hz (fun Ybl zz kk s55 => ?_)
    replace s2 := ku s2
    replace s3 := ku s3
    replace s4 := ku s4
    replace s7 := ku s7
    replace hz := zz
    clear kk zz s54 Ybk
    refine vt _ (ex_move rfl (ev s7 rfl)) hz (fun Ybm zz kk s56 => ?_)
    replace s2 := ku s2
    replace s3 := ku s3
    replace s4 := ku s4
    replace s7 := ku s7
    replace s55 := ku s55
    replace hz := zz
    clear kk zz Ybl
    refine vt (.pointer (some ⟨q, o + i * 6, none⟩)) (ex_ix rfl (ev s55 rfl) (ev s56 rfl) (by rw [hqa]; exact ix9An q o s.N.length s.nc i hit _)) hz (fun Ybn zz kk s57 => ?_)
    replace s2 := ku s2
    replace s3 := ku s3
    replace s4 := ku s4
    replace s7 := ku s7
    replace hz := zz
    clear kk zz s55 s56 Ybm
    refine vt (x.val) (ex_ld rfl (ev s57 rfl) (ldAn9 (fun k u hu => hl i x hxi k u hu))) hz (fun Ybo zz kk s58 => ?_)
    replace s2 := ku s2
    replace s3 := ku s3
    replace s4 := ku s4
    replace s7 := ku s7
    replace hz := zz
    clear kk zz s57 Ybn
    refine vw (.pointer (some ⟨wr.heap.size, 0, none⟩)) y1 (want_none rfl) (ex_al rfl (by rw [hy1]; exact alAn9 _)) rfl hz (by decide) (fun Ybp zz kk s8 => ?_)
    replace s2 := ku s2
    replace s3 := ku s3
    replace s4 := ku s4
    replace s7 := ku s7
    replace s58 := ku s58
    replace hz := zz
    clear kk zz Ybo
    refine vs (sets y1 wr.heap.size 0 x.cs) (want_none rfl) (ex_st rfl (ev s8 rfl) (ev s58 rfl) (stAn9 HA x)) rfl ?_
    have HP := putAn9 HA x
    have UP := upAn9 y1 wr.heap.size x
    obtain ⟨y2, hy2⟩ : ∃ v, v = sets y1 wr.heap.size 0 x.cs := ⟨_, rfl⟩
    rw [← hy2] at HP UP ⊢
    have hby : Below wr.heap.size wr y2 := hb.trans (UP.below hb.size (fun k hk => by omega))
    have hbx := hbr.trans (hby.mono hzr)
    clear hy2 hy1 HA UP hb hl
    have hzy := hbx.size
    clear s58
    refine wpList_nil ?_
    have HC2 := HC.bel hbx
    have xin := (HI.nl x hmem)
    have hxL := xin.1.later hbx
    have gd8 : ∀ {b : Bool}, (b && (((decide (x.v < 0) || decide (4294967296 < x.v)) || (!lgB9 c x.s.D x.c)) == false)) = true → 0 ≤ x.v ∧ True := fun h => by
      simp only [Bool.and_eq_true, beq_iff_eq, Bool.or_eq_false_iff, decide_eq_false_iff_not] at h
      exact ⟨by omega, trivial⟩
    go_upto_region 7 with fail
    refine vq_start (C := fun v => Below y2.heap.size y2 v) (by kernel_rfl) (by kernel_rfl) (Below.refl _ _).drew ?_
    refine vq true (.pointer (some ⟨wr.heap.size, 3, none⟩)) (want_none rfl) (fun hc v hv => ex_fa rfl (ev s8 rfl) (fb2An _ _)) rfl hz (by decide) (fun Ybq zz kk s59 => ?_)
    replace s2 := ku s2
    replace s3 := ku s3
    replace s4 := ku s4
    replace s7 := ku s7
    replace s8 := ku s8
    replace hz := zz
    clear kk zz
    refine vq true (.int .i64 x.v) (want_none rfl) (fun hc v hv => ex_ld rfl (ev s59 rfl) (ldI8 (cell8 (HP.cell 3 _ rfl) hv))) rfl hz (by decide) (fun Ybr zz kk s60 => ?_)
    replace s2 := ku s2
    replace s3 := ku s3
    replace s4 := ku s4
    replace s7 := ku s7
    replace s8 := ku s8
    replace hz := zz
    clear kk zz s59 Ybq
    refine vq true (.bool (decide (x.v < 0))) (want_none rfl) (fun hc v hv => ex_bin rfl (ev s60 rfl) rfl (lssC _ _ _ _ _)) rfl hz (by decide) (fun Ybs zz kk s61 => ?_)
    replace s2 := ku s2
    replace s3 := ku s3
    replace s4 := ku s4
    replace s7 := ku s7
    replace s8 := ku s8
    replace hz := zz
    clear kk zz s60 Ybr
    refine vq true _ (want_none rfl) (fun hc v hv => ex_move rfl (ev s61 rfl)) rfl hz (by decide) (fun Ybt zz kk s62 => ?_)
    replace s2 := ku s2
    replace s3 := ku s3
    replace s4 := ku s4
    replace s7 := ku s7
    replace s8 := ku s8
    replace hz := zz
    clear kk zz s61 Ybs
    refine vq _ (.pointer (some ⟨wr.heap.size, 3, none⟩)) (want_g rfl rfl s62) (fun hc v hv => ex_fa rfl (ev s8 rfl) (fb2An _ _)) rfl hz (by decide) (fun Ybu zz kk s63 => ?_)
    replace s2 := ku s2
    replace s3 := ku s3
    replace s4 := ku s4
    replace s7 := ku s7
    replace s8 := ku s8
    replace s62 := ku s62
    replace hz := zz
    clear kk zz Ybt
    refine vq _ (.int .i64 x.v) (want_g rfl rfl s62) (fun hc v hv => ex_ld rfl (ev s63 hc) (ldI8 (cell8 (HP.cell 3 _ rfl) hv))) rfl hz (by decide) (fun Ybv zz kk s64 => ?_)
    replace s2 := ku s2
    replace s3 := ku s3
    replace s4 := ku s4
    replace s7 := ku s7
    replace s8 := ku s8
    replace s62 := ku s62
    replace hz := zz
    clear kk zz s63 Ybu
    refine vq _ (.bool (decide (4294967296 < x.v))) (want_g rfl rfl s62) (fun hc v hv => ex_bin rfl (ev s64 hc) rfl (gtrC _ _ _ _ _)) rfl hz (by decide) (fun Ybw zz kk s65 => ?_)
    replace s2 := ku s2
    replace s3 := ku s3
    replace s4 := ku s4
    replace s7 := ku s7
    replace s8 := ku s8
    replace s62 := ku s62
    replace hz := zz
    clear kk zz s64 Ybv
    refine vq true (.bool ((decide (x.v < 0)) || (decide (4294967296 < x.v)))) (want_none rfl) (fun hc v hv => ex_or rfl s62 s65 rfl) rfl hz (by decide) (fun Ybx zz kk s66 => ?_)
    replace s2 := ku s2
    replace s3 := ku s3
    replace s4 := ku s4
    replace s7 := ku s7
    replace s8 := ku s8
    replace hz := zz
    clear kk zz s62 s65 Ybw
    refine vq true _ (want_none rfl) (fun hc v hv => ex_move rfl (ev s66 rfl)) rfl hz (by decide) (fun Yby zz kk s67 => ?_)
    replace s2 := ku s2
    replace s3 := ku s3
    replace s4 := ku s4
    replace s7 := ku s7
    replace s8 := ku s8
    replace hz := zz
    clear kk zz s66 Ybx
    refine vq _ (c.val) (want_g rfl rfl s67) (fun hc v hv => ex_ld rfl (ev s3 rfl) (CB7.ld (HC2.bel hv))) rfl hz (by decide) (fun Ybz zz kk s68 => ?_)
    replace s2 := ku s2
    replace s3 := ku s3
    replace s4 := ku s4
    replace s7 := ku s7
    replace s8 := ku s8
    replace s67 := ku s67
    replace hz := zz
    clear kk zz Yby
    refine vq _ (.pointer (some ⟨wr.heap.size, 5, none⟩)) (want_g rfl rfl s67) (fun hc v hv => ex_fa rfl (ev s8 rfl) (fb4An _ _)) rfl hz (by decide) (fun Yb0 zz kk s69 => ?_)
    replace s2 := ku s2
    replace s3 := ku s3
    replace s4 := ku s4
    replace s7 := ku s7
    replace s8 := ku s8
    replace s67 := ku s67
    replace s68 := ku s68
    replace hz := zz
    clear kk zz Ybz
    refine vq _ (.slice x.s.a x.s.D.length x.s.c) (want_g rfl rfl s67) (fun hc v hv => ex_ld rfl (ev s69 hc) (ldE8 (cell8 (HP.cell 5 _ rfl) hv))) rfl hz (by decide) (fun Yb1 zz kk s70 => ?_)
    replace s2 := ku s2
    replace s3 := ku s3
    replace s4 := ku s4
    replace s7 := ku s7
    replace s8 := ku s8
    replace s67 := ku s67
    replace s68 := ku s68
    replace hz := zz
    clear kk zz s69 Yb0
    refine vq _ (.pointer (some ⟨wr.heap.size, 4, none⟩)) (want_g rfl rfl s67) (fun hc v hv => ex_fa rfl (ev s8 rfl) (fb3An _ _)) rfl hz (by decide) (fun Yb2 zz kk s71 => ?_)
    replace s2 := ku s2
    replace s3 := ku s3
    replace s4 := ku s4
    replace s7 := ku s7
    replace s8 := ku s8
    replace s67 := ku s67
    replace s68 := ku s68
    replace s70 := ku s70
    replace hz := zz
    clear kk zz Yb1
    refine vq _ (.int .i64 x.c) (want_g rfl rfl s67) (fun hc v hv => ex_ld rfl (ev s71 hc) (ldI8 (cell8 (HP.cell 4 _ rfl) hv))) rfl hz (by decide) (fun Yb3 zz kk s72 => ?_)
    replace s2 := ku s2
    replace s3 := ku s3
    replace s4 := ku s4
    replace s7 := ku s7
    replace s8 := ku s8
    replace s67 := ku s67
    replace s68 := ku s68
    replace s70 := ku s70
    replace hz := zz
    clear kk zz s71 Yb2
    refine vq_call (true && (((decide (x.v < 0)) || (decide (4294967296 < x.v))) == false)) (.bool (lgB9 c x.s.D x.c)) (want_g rfl rfl s67) (fun hc v hv => ex_call rfl (by simp only [List.map_toArray, List.map_cons, List.map_nil, (ev s68 hc), (ev s70 hc), (ev s72 hc), evc] <;> rfl) rfl) (fun hc v hv => (bel8 hv (rlogged9 c x.s.D x.s.a x.s.c x.c v (hxL.later hv) (hF.ne x hmem)))) rfl hz (by decide) (fun Yb4 zz kk s73 => ?_)
    replace s2 := ku s2
    replace s3 := ku s3
    replace s4 := ku s4
    replace s7 := ku s7
    replace s8 := ku s8
    replace s67 := ku s67
    replace hz := zz
    clear kk zz s68 s70 s72 Yb3
    refine vq _ (.bool (!(lgB9 c x.s.D x.c))) (want_g rfl rfl s67) (fun hc v hv => ex_not rfl (ev s73 hc)) rfl hz (by decide) (fun Yb5 zz kk s74 => ?_)
    replace s2 := ku s2
    replace s3 := ku s3
    replace s4 := ku s4
    replace s7 := ku s7
    replace s8 := ku s8
    replace s67 := ku s67
    replace hz := zz
    clear kk zz s73 Yb4
    refine vq true (.bool (((decide (x.v < 0)) || (decide (4294967296 < x.v))) || (!(lgB9 c x.s.D x.c)))) (want_none rfl) (fun hc v hv => ex_or rfl s67 s74 rfl) rfl hz (by decide) (fun Yb6 zz kk s75 => ?_)
    replace s2 := ku s2
    replace s3 := ku s3
    replace s4 := ku s4
    replace s7 := ku s7
    replace s8 := ku s8
    replace hz := zz
    clear kk zz s67 s74 Yb5
    refine vq true _ (want_none rfl) (fun hc v hv => ex_move rfl (ev s75 rfl)) rfl hz (by decide) (fun Yb7 zz kk s76 => ?_)
    replace s2 := ku s2
    replace s3 := ku s3
    replace s4 := ku s4
    replace s7 := ku s7
    replace s8 := ku s8
    replace hz := zz
    clear kk zz s75 Yb6
    refine vq _ (.pointer (some ⟨wr.heap.size, 0, none⟩)) (want_g rfl rfl s76) (fun hc v hv => ex_fa rfl (ev s8 rfl) (fb0An _ _)) rfl hz (by decide) (fun Yb8 zz kk s77 => ?_)
    replace s2 := ku s2
    replace s3 := ku s3
    replace s4 := ku s4
    replace s7 := ku s7
    replace s8 := ku s8
    replace s76 := ku s76
    replace hz := zz
    clear kk zz Yb7
    refine vq _ (.int .i64 x.n) (want_g rfl rfl s76) (fun hc v hv => ex_ld rfl (ev s77 hc) (ldI8 (cell8 (HP.cell 0 _ rfl) hv))) rfl hz (by decide) (fun Yb9 zz kk s78 => ?_)
    replace s2 := ku s2
    replace s3 := ku s3
    replace s4 := ku s4
    replace s7 := ku s7
    replace s8 := ku s8
    replace s76 := ku s76
    replace hz := zz
    clear kk zz s77 Yb8
    refine vq _ (.pointer (some ⟨wr.heap.size, 3, none⟩)) (want_g rfl rfl s76) (fun hc v hv => ex_fa rfl (ev s8 rfl) (fb2An _ _)) rfl hz (by decide) (fun Yca zz kk s79 => ?_)
    replace s2 := ku s2
    replace s3 := ku s3
    replace s4 := ku s4
    replace s7 := ku s7
    replace s8 := ku s8
    replace s76 := ku s76
    replace s78 := ku s78
    replace hz := zz
    clear kk zz Yb9
    refine vq _ (.int .i64 x.v) (want_g rfl rfl s76) (fun hc v hv => ex_ld rfl (ev s79 hc) (ldI8 (cell8 (HP.cell 3 _ rfl) hv))) rfl hz (by decide) (fun Ycb zz kk s80 => ?_)
    replace s2 := ku s2
    replace s3 := ku s3
    replace s4 := ku s4
    replace s7 := ku s7
    replace s8 := ku s8
    replace s76 := ku s76
    replace s78 := ku s78
    replace hz := zz
    clear kk zz s79 Yca
    refine vq _ _ (want_g rfl rfl s76) (fun hc v hv => ex_move rfl (ev s2 rfl)) rfl hz (by decide) (fun Ycc zz kk s81 => ?_)
    replace s2 := ku s2
    replace s3 := ku s3
    replace s4 := ku s4
    replace s7 := ku s7
    replace s8 := ku s8
    replace s76 := ku s76
    replace s78 := ku s78
    replace s80 := ku s80
    replace hz := zz
    clear kk zz Ycb
    refine vq _ (.int .i64 (x.v % n)) (want_g rfl rfl s76) (fun hc v hv => ex_bin rfl (ev s80 hc) (ev s81 hc) (remD8 _ _ x.v n (gd8 hc).1 hn.1 (by omega) _)) rfl hz (by decide) (fun Ycd zz kk s82 => ?_)
    replace s2 := ku s2
    replace s3 := ku s3
    replace s4 := ku s4
    replace s7 := ku s7
    replace s8 := ku s8
    replace s76 := ku s76
    replace s78 := ku s78
    replace hz := zz
    clear kk zz s80 s81 Ycc
    refine vq _ (.bool (!decide (x.n = (x.v % n)))) (want_g rfl rfl s76) (fun hc v hv => ex_bin rfl (ev s78 hc) (ev s82 hc) (neqC _ _ _ _ _)) rfl hz (by decide) (fun Yce zz kk s83 => ?_)
    replace s2 := ku s2
    replace s3 := ku s3
    replace s4 := ku s4
    replace s7 := ku s7
    replace s8 := ku s8
    replace s76 := ku s76
    replace hz := zz
    clear kk zz s78 s82 Ycd
    refine vq _ _ (want_g rfl rfl s76) (fun hc v hv => ex_move rfl (ev s83 hc)) rfl hz (by decide) (fun Ycf zz kk s84 => ?_)
    replace s2 := ku s2
    replace s3 := ku s3
    replace s4 := ku s4
    replace s7 := ku s7
    replace s8 := ku s8
    replace s76 := ku s76
    replace hz := zz
    clear kk zz s83 Yce
    refine vq ((true && ((((decide (x.v < 0)) || (decide (4294967296 < x.v))) || (!(lgB9 c x.s.D x.c))) == false)) && ((!decide (x.n = (x.v % n))) == true)) (.pointer (some ⟨wr.heap.size, 5, none⟩)) (want_g rfl rfl s84) (fun hc v hv => ex_fa rfl (ev s8 rfl) (fb4An _ _)) rfl hz (by decide) (fun Ycg zz kk s85 => ?_)
    replace s2 := ku s2
    replace s3 := ku s3
    replace s4 := ku s4
    replace s7 := ku s7
    replace s76 := ku s76
    replace s84 := ku s84
    replace hz := zz
    clear kk zz s8 Ycf
    refine vq ((true && ((((decide (x.v < 0)) || (decide (4294967296 < x.v))) || (!(lgB9 c x.s.D x.c))) == false)) && ((!decide (x.n = (x.v % n))) == true)) (.slice x.s.a x.s.D.length x.s.c) (want_g rfl rfl s84) (fun hc v hv => ex_ld rfl (ev s85 hc) (ldE8 (cell8 (HP.cell 5 _ rfl) hv))) rfl hz (by decide) (fun Ych zz kk s86 => ?_)
    replace s2 := ku s2
    replace s3 := ku s3
    replace s4 := ku s4
    replace s7 := ku s7
    replace s76 := ku s76
    replace s84 := ku s84
    replace hz := zz
    clear kk zz s85 Ycg
    refine vq ((true && ((((decide (x.v < 0)) || (decide (4294967296 < x.v))) || (!(lgB9 c x.s.D x.c))) == false)) && ((!decide (x.n = (x.v % n))) == true)) (.int .i64 (x.s.D.length : Int)) (want_g rfl rfl s84) (fun hc v hv => ex_lenE8 rfl rfl (ev s86 hc)) rfl hz (by decide) (fun Yci zz kk s87 => ?_)
    replace s2 := ku s2
    replace s3 := ku s3
    replace s4 := ku s4
    replace s7 := ku s7
    replace s76 := ku s76
    replace s84 := ku s84
    replace hz := zz
    clear kk zz s86 Ych
    refine vq ((true && ((((decide (x.v < 0)) || (decide (4294967296 < x.v))) || (!(lgB9 c x.s.D x.c))) == false)) && ((!decide (x.n = (x.v % n))) == true)) (.bool (decide (0 < (x.s.D.length : Int)))) (want_g rfl rfl s84) (fun hc v hv => ex_bin rfl (ev s87 hc) rfl (gtrC _ _ _ _ _)) rfl hz (by decide) (fun Ycj zz kk s88 => ?_)
    replace s2 := ku s2
    replace s3 := ku s3
    replace s4 := ku s4
    replace s7 := ku s7
    replace s76 := ku s76
    replace s84 := ku s84
    replace hz := zz
    clear kk zz s87 Yci
    refine vq _ (.bool ((!decide (x.n = (x.v % n))) && (decide (0 < (x.s.D.length : Int))))) (want_g rfl rfl s76) (fun hc v hv => ex_and rfl s84 s88 hc) rfl hz (by decide) (fun Yck zz kk s89 => ?_)
    replace s2 := ku s2
    replace s3 := ku s3
    replace s4 := ku s4
    replace s7 := ku s7
    replace s76 := ku s76
    replace hz := zz
    clear kk zz s84 s88 Ycj
    refine vq true (.bool ((((decide (x.v < 0)) || (decide (4294967296 < x.v))) || (!(lgB9 c x.s.D x.c))) || ((!decide (x.n = (x.v % n))) && (decide (0 < (x.s.D.length : Int)))))) (want_none rfl) (fun hc v hv => ex_or rfl s76 s89 rfl) rfl hz (by decide) (fun Ycl zz kk s90 => ?_)
    replace s2 := ku s2
    replace s3 := ku s3
    replace s4 := ku s4
    replace s7 := ku s7
    replace hz := zz
    clear kk zz s76 s89 Yck
    refine vq_nil (fun x11 hx11 => ?_)
    have ee : (((((decide (x.v < 0)) || (decide (4294967296 < x.v))) || (!(lgB9 c x.s.D x.c))) || ((!decide (x.n = (x.v % n))) && (decide (0 < (x.s.D.length : Int)))))) = rab9 c n x := rfl
    have hb8 := hbx.trans (hx11.mono hbx.size)
    go_upto_region 8 with fail
    cases eb : rab9 c n x
    rotate_left
    · refine wp_cond_true ((ev s90 rfl).trans (by rw [ee, eb])) ?_
      go_upto_region 8 with fail
      refine wp_region_lit ?_
      refine vt (.bool false) (ex_assign rfl rfl) hz (fun Ycm zz kk s6 => ?_)
      replace hz := zz
      clear kk zz s2 s3 s4 s7
      refine wpList_nil ?_
      have HR : Hid (s.rc9 c n = false) := by show _ = _; unfold Sta.rc9; rw [show _ = false from e46, any_bad9 hxi eb]; rfl
      go_wp2
      refine bodyPost_ret (results_tmp rfl _ _ _) rfl ⟨?_, hB.trans (hb8.mono (by omega))⟩
      rw [getD_of s6, HR.out]
      rfl
    refine wp_cond_false ((ev s90 rfl).trans (by rw [ee, eb])) ?_
    clear s90
    go_upto_region 5 with fail
    refine wp_region_lit ?_
    refine vt _ (ex_move rfl (ev s7 rfl)) hz (fun Ycn zz kk s52 => ?_)
    replace s2 := ku s2
    replace s3 := ku s3
    replace s4 := ku s4
    replace s7 := ku s7
    replace hz := zz
    clear kk zz
    refine vt (.int .i64 ((i + 1 : Nat) : Int)) (ex_bin rfl (ev s52 rfl) rfl (addD8 _ _ _ 1 ((i + 1 : Nat) : Int) (by rw [IntKind.wrap_i64]; omega) _)) hz (fun Yco zz kk s53 => ?_)
    replace s2 := ku s2
    replace s3 := ku s3
    replace s4 := ku s4
    replace s7 := ku s7
    replace hz := zz
    clear kk zz s52 Ycn
    refine vt _ (ex_assign rfl (ev s53 rfl)) hz (fun Ycp zz kk s7x => ?_)
    replace s2 := ku s2
    replace s3 := ku s3
    replace s4 := ku s4
    clear kk hz s53 s7
    have hz := zz
    have s7 := s7x
    clear zz s7x Yco
    refine wpList_nil ?_
    exact ⟨_, rfl, by omega, hz, s2, s3, s4, s7, hb8, fun k y hk hy => by
      by_cases e : k = i
      · subst e; rw [hxi] at hy; cases hy; exact eb
      · exact HJ.out.2 k y (by omega) hy⟩
  · have d1 : decide ((i : Int) < (s.N.length : Int)) = false := decide_eq_false (by omega)
    go_upto_region 4 with fail
    refine wp_region_lit ?_
    refine vt _ (ex_move rfl (ev s7 rfl)) hz (fun Ycq zz kk s47 => ?_)
    replace s4 := ku s4
    replace hz := zz
    clear kk zz s2 s3 s7
    refine vt (.pointer (some ⟨w.heap.size + 1, 11, none⟩)) (ex_fa rfl (ev s4 rfl) (faS11 _ _)) hz (fun Ycr zz kk s48 => ?_)
    replace s47 := ku s47
    replace hz := zz
    clear kk zz s4 Ycq
    refine vt (.slice s.na s.N.length s.nc) (ex_ld rfl (ev s48 rfl) (ldN8 (cell8 (HS.cell 11 _ rfl) hbr))) hz (fun Ycs zz kk s49 => ?_)
    replace s47 := ku s47
    replace hz := zz
    clear kk zz s48 Ycr
    refine vt (.int .i64 (s.N.length : Int)) (ex_lenN8 rfl rfl (ev s49 rfl)) hz (fun Yct zz kk s50 => ?_)
    replace s47 := ku s47
    replace hz := zz
    clear kk zz s49 Ycs
    refine vt (.bool false) (ex_bin rfl (ev s47 rfl) (ev s50 rfl) (lssD8 _ _ _ _ false d1 _)) hz (fun Ycu zz kk s51 => ?_)
    replace hz := zz
    clear kk zz s47 s50 Yct
    refine wpList_nil ?_
    go_upto_region 9 with fail
    refine wp_cond_false ((ev s51 rfl).trans rfl) ?_
    clear s51 d1
    go_upto_region 9 with fail
    refine wp_region_lit ?_
    refine vt (.bool true) (ex_assign rfl rfl) hz (fun Ycv zz kk s6 => ?_)
    replace hz := zz
    clear kk zz
    refine wpList_nil ?_
    have HR : Hid (s.rc9 c n = true) := by show _ = _; unfold Sta.rc9; rw [show _ = false from e46, any_ok9 (fun k x hk hx => HJ.out.2 k x (by omega) hx)]; rfl
    go_wp2
    refine bodyPost_ret (results_tmp rfl _ _ _) rfl ⟨?_, hB.trans (hbr.mono (by omega))⟩
    rw [getD_of s6, HR.out]
    rfl
end Go.Proofs.YtphdnmamopgelaaGreat
