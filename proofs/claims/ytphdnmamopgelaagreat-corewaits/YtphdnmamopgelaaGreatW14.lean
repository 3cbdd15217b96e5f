import Derived.Test.YtphdnmamopgelaaGreatW13
set_option maxRecDepth 100000
set_option linter.unusedVariables false
set_option linter.unusedSimpArgs false
namespace Go.Proofs.YtphdnmamopgelaaGreat
open Go.RowKit Go.Maps Go.Shelf
open Classical
theorem fa2Ak (q o : Nat) (w : World) : (Instr.fieldAt 82 (.pointer (some ⟨q, o, none⟩)) 2).run Tryz.prog w = .ok (.pointer (some ⟨q, o + 3, none⟩)) w := by go_simp
theorem v_cond8 {x : Code} {R : Exit → Act → World → Prop} {T : Array Value} {w : World} {t : Nat} {b : Bool} (J : Array Value → World → Prop) (ht : T[t]? = some (gw true (.bool b))) (h1 : b = true → x.wp Tryz.prog (Exit.then (fun a w' => ∃ T', a = ⟨T', []⟩ ∧ J T' w') R) ⟨T, []⟩ w) (h2 : b = false → J T w) (hk : ∀ T' w', J T' w' → R .normal ⟨T', []⟩ w') : (Code.cond (.tmp t) x .skip).wp Tryz.prog R ⟨T, []⟩ w := by
  cases b with
  | true =>
    refine wp_cond_true (ev ht rfl) (Code.wp_mono (fun e a' w' h => ?_) (h1 rfl))
    cases e with
    | normal =>
      obtain ⟨T', rfl, hJ⟩ := h
      exact hk T' w' hJ
    | _ => exact h
  | false => exact wp_cond_false (ev ht rfl) (wp_skip (hk T w (h2 rfl)))
def Sta.mh9 (s : Sta) (c : Cg) : Bool := (((((((((((decide (s.self < 0)) || (decide (c.nd ≤ s.self))) || (decide (s.view < 0))) || (decide (4294967296 < s.view))) || (decide (s.last < 0))) || (decide (s.view < s.last))) || (!(lgB9 c s.L s.commit))) || (!decide ((s.V.length : Int) = c.nd))) || (decide (s.idle < 0))) || (decide (c.P ≤ s.idle))) || (!(s.vtB9 c.nd)))
def Sta.mn9 (s : Sta) (c : Cg) : Bool := ((((!decide (s.last = s.view)) || (decide (0 < (((s.M.length : Int) + (s.B.length : Int)) + (s.N.length : Int))))) || ((decide (s.self = (s.view % c.nd))) && (!decide (s.idle = 0)))) || ((!(decide (s.self = (s.view % c.nd)))) && (decide (0 < (s.A.length : Int)))))
def Sta.mc9 (s : Sta) (c : Cg) : Bool := ((((decide (s.last = s.view)) || (decide (0 < ((s.A.length : Int) + (s.N.length : Int))))) || ((!(decide (s.self = (s.view % c.nd)))) && (decide (0 < (s.B.length : Int))))) || (decide (c.F ≤ (s.B.length : Int))))
def rkb9 (s : Sta) (x : Ak) : Bool := decide (x.p < 1) || decide ((s.L.length : Int) < x.p)
def rbb9 (c : Cg) (s : Sta) (x : Bl) : Bool := (decide (x.v < 0) || decide (s.view ≤ x.v)) || (!lgB9 c x.s.D x.c)
def Sta.mayB9 (s : Sta) (c : Cg) : Bool := bif s.mh9 c then false else bif decide (s.st = 1) then (bif s.mn9 c then false else !(s.A.any (rkb9 s))) else bif decide (s.st = 2) then (bif s.mc9 c then false else !(s.B.any (rbb9 c s))) else bif decide (s.st = 3) then s.rc9 c c.nd else false
def Sta.rk9 (s : Sta) (c : Cg) : Int := bif c.okB then (bif s.mayB9 c then 0 else 2) else 1
theorem ok_er9 {c : Cg} (h : c.er = 0) : c.okB = true := by
  unfold Cg.er at h
  cases e : c.okB with
  | true => rfl
  | false => rw [e] at h; cases h
theorem mh9_facts {s : Sta} {c : Cg} (hok : c.okB = true) (h : s.mh9 c = false) : 0 ≤ s.self ∧ s.self < c.nd ∧ 0 ≤ s.view ∧ s.view ≤ 4294967296 ∧ 0 ≤ s.last ∧ s.last ≤ s.view ∧ 0 ≤ s.commit ∧ s.commit ≤ (s.L.length : Int) ∧ (s.V.length : Int) = c.nd ∧ 0 ≤ s.idle ∧ s.idle < c.P := by
  unfold Sta.mh9 at h
  simp only [lgB9, Bool.or_eq_false_iff, decide_eq_false_iff_not, Bool.not_eq_false', Bool.and_eq_true, decide_eq_true_eq] at h
  omega
set_option maxHeartbeats 1000000 in
theorem rmay9 (c : Cg) (s : Sta) (w : World) (hI : s.In w) (hF : s.Fit) (hok : c.okB = true) : Calls Tryz.prog 33 #[c.val, s.val] w fun e w' => e = .returned (.bool (s.mayB9 c)) ∧ Below w.heap.size w w' := by
  go_enter Tryz.func33, Tryz.ntmps33
  go_upto_region 0 with fail
  refine wp_region_lit ?_
  refine vl_gen (fun T => T.size = 223 ∧ T[0]? = some (gw true (c.val)) ∧ T[1]? = some (gw true (s.val))) ⟨rfl, rfl, rfl⟩ (fun Z0 ⟨hz, s0, s1⟩ => ?_)
  obtain ⟨w1, hw1⟩ : ∃ y, y = w.alloc (.cells c.cs.toArray 23) := ⟨_, rfl⟩
  have hb : Below w.heap.size w w1 := by rw [hw1]; exact (Below.refl _ _).alloc (Nat.le_refl _) _
  have hs1 : w1.heap.size = w.heap.size + 1 := by rw [hw1]; simp
  have HC : CB7 w1 (w.heap.size) c := by rw [hw1]; exact BX7.new _ _ _
  refine vw (.pointer (some ⟨w.heap.size, 0, none⟩)) w1 (want_none rfl) (ex_box8 rfl (ev s0 rfl) (by rw [hw1]; exact bxC7 _ _)) rfl hz (by decide) (fun Z1 zz kk s2x => ?_)
  replace s1 := ku s1
  clear kk hz s0 hw1
  have hz := zz
  have s2 := s2x
  clear zz s2x
  have hB := hb
  clear hb
  obtain ⟨w2, hw2⟩ : ∃ y, y = w1.alloc (.cells s.cs.toArray 33) := ⟨_, rfl⟩
  have hb : Below w1.heap.size w1 w2 := by rw [hw2]; exact (Below.refl _ _).alloc (Nat.le_refl _) _
  have hs2 : w2.heap.size = w.heap.size + 2 := by rw [hw2]; simp; omega
  have HS : SB7 w2 (w.heap.size + 1) s := by rw [hw2, ← hs1]; exact BX7.new _ _ _
  refine vw (.pointer (some ⟨w.heap.size + 1, 0, none⟩)) w2 (want_none rfl) (ex_box8 rfl (ev s1 rfl) (by rw [hw2, ← hs1]; exact bxS7 _ _)) rfl hz (by decide) (fun Z2 zz kk s3x => ?_)
  replace s2 := ku s2
  clear kk hz s1 hw2
  have hz := zz
  have s3 := s3x
  clear zz s3x
  have hB := hB.trans (hb.mono (by omega))
  have HC := HC.bel hb
  clear hb
  have hv0 : Below w2.heap.size w2 w2 := Below.refl _ _
  have HI := hI.later hB
  have f0 := hF.ll
  have f1 := hF.al
  have f2 := hF.ml
  have f3 := hF.bl
  have f4 := hF.nl
  obtain ⟨hn1, hn2, hn3⟩ := Cg.nd_ok hok
  have hP := Cg.P_ok hok
  refine vt (.bool false) (ex_assign rfl rfl) hz (fun Ya zz kk s4 => ?_)
  replace s2 := ku s2
  replace s3 := ku s3
  replace hz := zz
  clear kk zz
  clear s4
  refine wpList_nil ?_
  go_upto_region 1 with fail
  refine wp_region_lit ?_
  refine vt (c.val) (ex_ld rfl (ev s2 rfl) (CB7.ld (HC.bel hv0))) hz (fun Yb zz kk s10 => ?_)
  replace s2 := ku s2
  replace s3 := ku s3
  replace hz := zz
  clear kk zz
  refine vcall true (.int .i64 c.nd) (want_none rfl) (fun hc => ex_call rfl (by simp only [List.map_toArray, List.map_cons, List.map_nil, (ev s10 rfl), evc] <;> rfl) rfl) (fun hc => rnodes9 c w2) rfl hz (by decide) (fun Yc x1 hb zz kk s11 => ?_)
  have hx1 := hv0.trans (hb.mono hv0.size)
  clear hb
  replace s2 := ku s2
  replace s3 := ku s3
  replace hz := zz
  clear kk zz s10 Yb
  refine vt _ (ex_assign rfl (ev s11 rfl)) hz (fun Yd zz kk s5 => ?_)
  replace s2 := ku s2
  replace s3 := ku s3
  replace hz := zz
  clear kk zz s11 Yc
  refine wpList_nil ?_
  have gv9 : ∀ {b : Bool}, (b && ((((((((((decide (s.self < 0) || decide (c.nd ≤ s.self)) || decide (s.view < 0)) || decide (4294967296 < s.view)) || decide (s.last < 0)) || decide (s.view < s.last)) || (!lgB9 c s.L s.commit)) || (!decide ((s.V.length : Int) = c.nd))) || decide (s.idle < 0)) || decide (c.P ≤ s.idle)) == false)) = true → c.nd = (s.V.length : Int) ∧ 0 < s.V.length := fun h => by
    simp only [Bool.and_eq_true, beq_iff_eq, Bool.or_eq_false_iff, decide_eq_false_iff_not, Bool.not_eq_false', decide_eq_true_eq] at h
    omega
  go_upto_region 2 with fail
  refine wp_region_lit ?_
  refine vt (.pointer (some ⟨w.heap.size + 1, 0, none⟩)) (ex_fa rfl (ev s3 rfl) (faS0 _ _)) hz (fun Ye zz kk s12 => ?_)
  replace s2 := ku s2
  replace s3 := ku s3
  replace s5 := ku s5
  replace hz := zz
  clear kk zz
  refine vt (.int .i64 s.self) (ex_ld rfl (ev s12 rfl) (ldI8 (cell8 (HS.cell 0 _ rfl) hx1))) hz (fun Yf zz kk s13 => ?_)
  replace s2 := ku s2
  replace s3 := ku s3
  replace s5 := ku s5
  replace hz := zz
  clear kk zz s12 Ye
  refine vt (.bool (decide (s.self < 0))) (ex_bin rfl (ev s13 rfl) rfl (lssC _ _ _ _ _)) hz (fun Yg zz kk s14 => ?_)
  replace s2 := ku s2
  replace s3 := ku s3
  replace s5 := ku s5
  replace hz := zz
  clear kk zz s13 Yf
  refine vt _ (ex_move rfl (ev s14 rfl)) hz (fun Yh zz kk s15 => ?_)
  replace s2 := ku s2
  replace s3 := ku s3
  replace s5 := ku s5
  replace hz := zz
  clear kk zz s14 Yg
  refine vl _ (.pointer (some ⟨w.heap.size + 1, 0, none⟩)) (want_g rfl rfl s15) (fun hc => ex_fa rfl (ev s3 rfl) (faS0 _ _)) rfl hz (by decide) (fun Yi zz kk s16 => ?_)
  replace s2 := ku s2
  replace s3 := ku s3
  replace s5 := ku s5
  replace s15 := ku s15
  replace hz := zz
  clear kk zz Yh
  refine vl _ (.int .i64 s.self) (want_g rfl rfl s15) (fun hc => ex_ld rfl (ev s16 hc) (ldI8 (cell8 (HS.cell 0 _ rfl) hx1))) rfl hz (by decide) (fun Yj zz kk s17 => ?_)
  replace s2 := ku s2
  replace s3 := ku s3
  replace s5 := ku s5
  replace s15 := ku s15
  replace hz := zz
  clear kk zz s16 Yi
  refine vl _ _ (want_g rfl rfl s15) (fun hc => ex_move rfl (ev s5 rfl)) rfl hz (by decide) (fun Yk zz kk s18 => ?_)
  replace s2 := ku s2
  replace s3 := ku s3
  replace s5 := ku s5
  replace s15 := ku s15
  replace s17 := ku s17
  replace hz := zz
  clear kk zz Yj
  refine vl _ (.bool (decide (c.nd ≤ s.self))) (want_g rfl rfl s15) (fun hc => ex_bin rfl (ev s17 hc) (ev s18 hc) (geqC _ _ _ _ _)) rfl hz (by decide) (fun Yl zz kk s19 => ?_)
  replace s2 := ku s2
  replace s3 := ku s3
  replace s5 := ku s5
  replace s15 := ku s15
  replace hz := zz
  clear kk zz s17 s18 Yk
  refine vt (.bool ((decide (s.self < 0)) || (decide (c.nd ≤ s.self)))) (ex_or rfl s15 s19 rfl) hz (fun Ym zz kk s20 => ?_)
  replace s2 := ku s2
  replace s3 := ku s3
  replace s5 := ku s5
  replace hz := zz
  clear kk zz s15 s19 Yl
  refine vt _ (ex_move rfl (ev s20 rfl)) hz (fun Yn zz kk s21 => ?_)
  replace s2 := ku s2
  replace s3 := ku s3
  replace s5 := ku s5
  replace hz := zz
  clear kk zz s20 Ym
  refine vl _ (.pointer (some ⟨w.heap.size + 1, 2, none⟩)) (want_g rfl rfl s21) (fun hc => ex_fa rfl (ev s3 rfl) (faS2 _ _)) rfl hz (by decide) (fun Yo zz kk s22 => ?_)
  replace s2 := ku s2
  replace s3 := ku s3
  replace s5 := ku s5
  replace s21 := ku s21
  replace hz := zz
  clear kk zz Yn
  refine vl _ (.int .i64 s.view) (want_g rfl rfl s21) (fun hc => ex_ld rfl (ev s22 hc) (ldI8 (cell8 (HS.cell 2 _ rfl) hx1))) rfl hz (by decide) (fun Yp zz kk s23 => ?_)
  replace s2 := ku s2
  replace s3 := ku s3
  replace s5 := ku s5
  replace s21 := ku s21
  replace hz := zz
  clear kk zz s22 Yo
  refine vl _ (.bool (decide (s.view < 0))) (want_g rfl rfl s21) (fun hc => ex_bin rfl (ev s23 hc) rfl (lssC _ _ _ _ _)) rfl hz (by decide) (fun Yq zz kk s24 => ?_)
  replace s2 := ku s2
  replace s3 := ku s3
  replace s5 := ku s5
  replace s21 := ku s21
  replace hz := zz
  clear kk zz s23 Yp
  refine vt (.bool (((decide (s.self < 0)) || (decide (c.nd ≤ s.self))) || (decide (s.view < 0)))) (ex_or rfl s21 s24 rfl) hz (fun Yr zz kk s25 => ?_)
  replace s2 := ku s2
  replace s3 := ku s3
  replace s5 := ku s5
  replace hz := zz
  clear kk zz s21 s24 Yq
  refine vt _ (ex_move rfl (ev s25 rfl)) hz (fun Ys zz kk s26 => ?_)
  replace s2 := ku s2
  replace s3 := ku s3
  replace s5 := ku s5
  replace hz := zz
  clear kk zz s25 Yr
  refine vl _ (.pointer (some ⟨w.heap.size + 1, 2, none⟩)) (want_g rfl rfl s26) (fun hc => ex_fa rfl (ev s3 rfl) (faS2 _ _)) rfl hz (by decide) (fun Yt zz kk s27 => ?_)
  replace s2 := ku s2
  replace s3 := ku s3
  replace s5 := ku s5
  replace s26 := ku s26
  replace hz := zz
  clear kk zz Ys
  refine vl _ (.int .i64 s.view) (want_g rfl rfl s26) (fun hc => ex_ld rfl (ev s27 hc) (ldI8 (cell8 (HS.cell 2 _ rfl) hx1))) rfl hz (by decide) (fun Yu zz kk s28 => ?_)
  replace s2 := ku s2
  replace s3 := ku s3
  replace s5 := ku s5
  replace s26 := ku s26
  replace hz := zz
  clear kk zz s27 Yt
  refine vl _ (.bool (decide (4294967296 < s.view))) (want_g rfl rfl s26) (fun hc => ex_bin rfl (ev s28 hc) rfl (gtrC _ _ _ _ _)) rfl hz (by decide) (fun Yv zz kk s29 => ?_)
  replace s2 := ku s2
  replace s3 := ku s3
  replace s5 := ku s5
  replace s26 := ku s26
  replace hz := zz
  clear kk zz s28 Yu
  refine vt (.bool ((((decide (s.self < 0)) || (decide (c.nd ≤ s.self))) || (decide (s.view < 0))) || (decide (4294967296 < s.view)))) (ex_or rfl s26 s29 rfl) hz (fun Yw zz kk s30 => ?_)
  replace s2 := ku s2
  replace s3 := ku s3
  replace s5 := ku s5
  replace hz := zz
  clear kk zz s26 s29 Yv
  refine vt _ (ex_move rfl (ev s30 rfl)) hz (fun Yx zz kk s31 => ?_)
  replace s2 := ku s2
  replace s3 := ku s3
  replace s5 := ku s5
  replace hz := zz
  clear kk zz s30 Yw
  refine vl _ (.pointer (some ⟨w.heap.size + 1, 3, none⟩)) (want_g rfl rfl s31) (fun hc => ex_fa rfl (ev s3 rfl) (faS3 _ _)) rfl hz (by decide) (fun Yy zz kk s32 => ?_)
  replace s2 := ku s2
  replace s3 := ku s3
  replace s5 := ku s5
  replace s31 := ku s31
  replace hz := zz
  clear kk zz Yx
  refine vl _ (.int .i64 s.last) (want_g rfl rfl s31) (fun hc => ex_ld rfl (ev s32 hc) (ldI8 (cell8 (HS.cell 3 _ rfl) hx1))) rfl hz (by decide) (fun Yz zz kk s33 => ?_)
  replace s2 := ku s2
  replace s3 := ku s3
  replace s5 := ku s5
  replace s31 := ku s31
  replace hz := zz
  clear kk zz s32 Yy
  refine vl _ (.bool (decide (s.last < 0))) (want_g rfl rfl s31) (fun hc => ex_bin rfl (ev s33 hc) rfl (lssC _ _ _ _ _)) rfl hz (by decide) (fun Y0 zz kk s34 => ?_)
  replace s2 := ku s2
  replace s3 := ku s3
  replace s5 := ku s5
  replace s31 := ku s31
  replace hz := zz
  clear kk zz s33 Yz
  refine vt (.bool (((((decide (s.self < 0)) || (decide (c.nd ≤ s.self))) || (decide (s.view < 0))) || (decide (4294967296 < s.view))) || (decide (s.last < 0)))) (ex_or rfl s31 s34 rfl) hz (fun Y1 zz kk s35 => ?_)
  replace s2 := ku s2
  replace s3 := ku s3
  replace s5 := ku s5
  replace hz := zz
  clear kk zz s31 s34 Y0
  refine vt _ (ex_move rfl (ev s35 rfl)) hz (fun Y2 zz kk s36 => ?_)
  replace s2 := ku s2
  replace s3 := ku s3
  replace s5 := ku s5
  replace hz := zz
  clear kk zz s35 Y1
  refine vl _ (.pointer (some ⟨w.heap.size + 1, 3, none⟩)) (want_g rfl rfl s36) (fun hc => ex_fa rfl (ev s3 rfl) (faS3 _ _)) rfl hz (by decide) (fun Y3 zz kk s37 => ?_)
  replace s2 := ku s2
  replace s3 := ku s3
  replace s5 := ku s5
  replace s36 := ku s36
  replace hz := zz
  clear kk zz Y2
  refine vl _ (.int .i64 s.last) (want_g rfl rfl s36) (fun hc => ex_ld rfl (ev s37 hc) (ldI8 (cell8 (HS.cell 3 _ rfl) hx1))) rfl hz (by decide) (fun Y4 zz kk s38 => ?_)
  replace s2 := ku s2
  replace s3 := ku s3
  replace s5 := ku s5
  replace s36 := ku s36
  replace hz := zz
  clear kk zz s37 Y3
  refine vl _ (.pointer (some ⟨w.heap.size + 1, 2, none⟩)) (want_g rfl rfl s36) (fun hc => ex_fa rfl (ev s3 rfl) (faS2 _ _)) rfl hz (by decide) (fun Y5 zz kk s39 => ?_)
  replace s2 := ku s2
  replace s3 := ku s3
  replace s5 := ku s5
  replace s36 := ku s36
  replace s38 := ku s38
  replace hz := zz
  clear kk zz Y4
  refine vl _ (.int .i64 s.view) (want_g rfl rfl s36) (fun hc => ex_ld rfl (ev s39 hc) (ldI8 (cell8 (HS.cell 2 _ rfl) hx1))) rfl hz (by decide) (fun Y6 zz kk s40 => ?_)
  replace s2 := ku s2
  replace s3 := ku s3
  replace s5 := ku s5
  replace s36 := ku s36
  replace s38 := ku s38
  replace hz := zz
  clear kk zz s39 Y5
  refine vl _ (.bool (decide (s.view < s.last))) (want_g rfl rfl s36) (fun hc => ex_bin rfl (ev s38 hc) (ev s40 hc) (gtrC _ _ _ _ _)) rfl hz (by decide) (fun Y7 zz kk s41 => ?_)
  replace s2 := ku s2
  replace s3 := ku s3
  replace s5 := ku s5
  replace s36 := ku s36
  replace hz := zz
  clear kk zz s38 s40 Y6
  refine vt (.bool ((((((decide (s.self < 0)) || (decide (c.nd ≤ s.self))) || (decide (s.view < 0))) || (decide (4294967296 < s.view))) || (decide (s.last < 0))) || (decide (s.view < s.last)))) (ex_or rfl s36 s41 rfl) hz (fun Y8 zz kk s42 => ?_)
  replace s2 := ku s2
  replace s3 := ku s3
  replace s5 := ku s5
  replace hz := zz
  clear kk zz s36 s41 Y7
  refine vt _ (ex_move rfl (ev s42 rfl)) hz (fun Y9 zz kk s43 => ?_)
  replace s2 := ku s2
  replace s3 := ku s3
  replace s5 := ku s5
  replace hz := zz
  clear kk zz s42 Y8
  refine vl _ (c.val) (want_g rfl rfl s43) (fun hc => ex_ld rfl (ev s2 rfl) (CB7.ld (HC.bel hx1))) rfl hz (by decide) (fun Yba zz kk s44 => ?_)
  replace s2 := ku s2
  replace s3 := ku s3
  replace s5 := ku s5
  replace s43 := ku s43
  replace hz := zz
  clear kk zz Y9
  refine vl _ (.pointer (some ⟨w.heap.size + 1, 4, none⟩)) (want_g rfl rfl s43) (fun hc => ex_fa rfl (ev s3 rfl) (faS4 _ _)) rfl hz (by decide) (fun Ybb zz kk s45 => ?_)
  replace s2 := ku s2
  replace s3 := ku s3
  replace s5 := ku s5
  replace s43 := ku s43
  replace s44 := ku s44
  replace hz := zz
  clear kk zz Yba
  refine vl _ (.slice s.la s.L.length s.lc) (want_g rfl rfl s43) (fun hc => ex_ld rfl (ev s45 hc) (ldE8 (cell8 (HS.cell 4 _ rfl) hx1))) rfl hz (by decide) (fun Ybc zz kk s46 => ?_)
  replace s2 := ku s2
  replace s3 := ku s3
  replace s5 := ku s5
  replace s43 := ku s43
  replace s44 := ku s44
  replace hz := zz
  clear kk zz s45 Ybb
  refine vl _ (.pointer (some ⟨w.heap.size + 1, 5, none⟩)) (want_g rfl rfl s43) (fun hc => ex_fa rfl (ev s3 rfl) (faS5 _ _)) rfl hz (by decide) (fun Ybd zz kk s47 => ?_)
  replace s2 := ku s2
  replace s3 := ku s3
  replace s5 := ku s5
  replace s43 := ku s43
  replace s44 := ku s44
  replace s46 := ku s46
  replace hz := zz
  clear kk zz Ybc
  refine vl _ (.int .i64 s.commit) (want_g rfl rfl s43) (fun hc => ex_ld rfl (ev s47 hc) (ldI8 (cell8 (HS.cell 5 _ rfl) hx1))) rfl hz (by decide) (fun Ybe zz kk s48 => ?_)
  replace s2 := ku s2
  replace s3 := ku s3
  replace s5 := ku s5
  replace s43 := ku s43
  replace s44 := ku s44
  replace s46 := ku s46
  replace hz := zz
  clear kk zz s47 Ybd
  refine vcall (true && (((((((decide (s.self < 0)) || (decide (c.nd ≤ s.self))) || (decide (s.view < 0))) || (decide (4294967296 < s.view))) || (decide (s.last < 0))) || (decide (s.view < s.last))) == false)) (.bool (lgB9 c s.L s.commit)) (want_g rfl rfl s43) (fun hc => ex_call rfl (by simp only [List.map_toArray, List.map_cons, List.map_nil, (ev s44 hc), (ev s46 hc), (ev s48 hc), evc] <;> rfl) rfl) (fun hc => rlogged9 c s.L s.la s.lc s.commit x1 (HI.l.later hx1) hF.le) rfl hz (by decide) (fun Ybf x2 hb zz kk s49 => ?_)
  have hx2 := hx1.trans (hb.mono hx1.size)
  clear hb
  replace s2 := ku s2
  replace s3 := ku s3
  replace s5 := ku s5
  replace s43 := ku s43
  replace hz := zz
  clear kk zz s44 s46 s48 Ybe
  refine vl _ (.bool (!(lgB9 c s.L s.commit))) (want_g rfl rfl s43) (fun hc => ex_not rfl (ev s49 hc)) rfl hz (by decide) (fun Ybg zz kk s50 => ?_)
  replace s2 := ku s2
  replace s3 := ku s3
  replace s5 := ku s5
  replace s43 := ku s43
  replace hz := zz
  clear kk zz s49 Ybf
  refine vt (.bool (((((((decide (s.self < 0)) || (decide (c.nd ≤ s.self))) || (decide (s.view < 0))) || (decide (4294967296 < s.view))) || (decide (s.last < 0))) || (decide (s.view < s.last))) || (!(lgB9 c s.L s.commit)))) (ex_or rfl s43 s50 rfl) hz (fun Ybh zz kk s51 => ?_)
  replace s2 := ku s2
  replace s3 := ku s3
  replace s5 := ku s5
  replace hz := zz
  clear kk zz s43 s50 Ybg
  refine vt _ (ex_move rfl (ev s51 rfl)) hz (fun Ybi zz kk s52 => ?_)
  replace s2 := ku s2
  replace s3 := ku s3
  replace s5 := ku s5
  replace hz := zz
  clear kk zz s51 Ybh
  refine vl _ (.pointer (some ⟨w.heap.size + 1, 6, none⟩)) (want_g rfl rfl s52) (fun hc => ex_fa rfl (ev s3 rfl) (faS6 _ _)) rfl hz (by decide) (fun Ybj zz kk s53 => ?_)
  replace s2 := ku s2
  replace s3 := ku s3
  replace s5 := ku s5
  replace s52 := ku s52
  replace hz := zz
  clear kk zz Ybi
  refine vl _ (.slice s.va s.V.length s.vc) (want_g rfl rfl s52) (fun hc => ex_ld rfl (ev s53 hc) (ldV8 (cell8 (HS.cell 6 _ rfl) hx2))) rfl hz (by decide) (fun Ybk zz kk s54 => ?_)
  replace s2 := ku s2
  replace s3 := ku s3
  replace s5 := ku s5
  replace s52 := ku s52
  replace hz := zz
  clear kk zz s53 Ybj
  refine vl _ (.int .i64 (s.V.length : Int)) (want_g rfl rfl s52) (fun hc => ex_lenV8 rfl rfl (ev s54 hc)) rfl hz (by decide) (fun Ybl zz kk s55 => ?_)
  replace s2 := ku s2
  replace s3 := ku s3
  replace s5 := ku s5
  replace s52 := ku s52
  replace hz := zz
  clear kk zz s54 Ybk
  refine vl _ _ (want_g rfl rfl s52) (fun hc => ex_move rfl (ev s5 rfl)) rfl hz (by decide) (fun Ybm zz kk s56 => ?_)
  replace s2 := ku s2
  replace s3 := ku s3
  replace s5 := ku s5
  replace s52 := ku s52
  replace s55 := ku s55
  replace hz := zz
  clear kk zz Ybl
  refine vl _ (.bool (!decide ((s.V.length : Int) = c.nd))) (want_g rfl rfl s52) (fun hc => ex_bin rfl (ev s55 hc) (ev s56 hc) (neqC _ _ _ _ _)) rfl hz (by decide) (fun Ybn zz kk s57 => ?_)
  replace s2 := ku s2
  replace s3 := ku s3
  replace s5 := ku s5
  replace s52 := ku s52
  replace hz := zz
  clear kk zz s55 s56 Ybm
  refine vt (.bool ((((((((decide (s.self < 0)) || (decide (c.nd ≤ s.self))) || (decide (s.view < 0))) || (decide (4294967296 < s.view))) || (decide (s.last < 0))) || (decide (s.view < s.last))) || (!(lgB9 c s.L s.commit))) || (!decide ((s.V.length : Int) = c.nd)))) (ex_or rfl s52 s57 rfl) hz (fun Ybo zz kk s58 => ?_)
  replace s2 := ku s2
  replace s3 := ku s3
  replace s5 := ku s5
  replace hz := zz
  clear kk zz s52 s57 Ybn
  refine vt _ (ex_move rfl (ev s58 rfl)) hz (fun Ybp zz kk s59 => ?_)
  replace s2 := ku s2
  replace s3 := ku s3
  replace s5 := ku s5
  replace hz := zz
  clear kk zz s58 Ybo
  refine vl _ (.pointer (some ⟨w.heap.size + 1, 7, none⟩)) (want_g rfl rfl s59) (fun hc => ex_fa rfl (ev s3 rfl) (faS7 _ _)) rfl hz (by decide) (fun Ybq zz kk s60 => ?_)
  replace s2 := ku s2
  replace s3 := ku s3
  replace s5 := ku s5
  replace s59 := ku s59
  replace hz := zz
  clear kk zz Ybp
  refine vl _ (.int .i64 s.idle) (want_g rfl rfl s59) (fun hc => ex_ld rfl (ev s60 hc) (ldI8 (cell8 (HS.cell 7 _ rfl) hx2))) rfl hz (by decide) (fun Ybr zz kk s61 => ?_)
  replace s2 := ku s2
  replace s3 := ku s3
  replace s5 := ku s5
  replace s59 := ku s59
  replace hz := zz
  clear kk zz s60 Ybq
  refine vl _ (.bool (decide (s.idle < 0))) (want_g rfl rfl s59) (fun hc => ex_bin rfl (ev s61 hc) rfl (lssC _ _ _ _ _)) rfl hz (by decide) (fun Ybs zz kk s62 => ?_)
  replace s2 := ku s2
  replace s3 := ku s3
  replace s5 := ku s5
  replace s59 := ku s59
  replace hz := zz
  clear kk zz s61 Ybr
  refine vt (.bool (((((((((decide (s.self < 0)) || (decide (c.nd ≤ s.self))) || (decide (s.view < 0))) || (decide (4294967296 < s.view))) || (decide (s.last < 0))) || (decide (s.view < s.last))) || (!(lgB9 c s.L s.commit))) || (!decide ((s.V.length : Int) = c.nd))) || (decide (s.idle < 0)))) (ex_or rfl s59 s62 rfl) hz (fun Ybt zz kk s63 => ?_)
  replace s2 := ku s2
  replace s3 := ku s3
  replace s5 := ku s5
  replace hz := zz
  clear kk zz s59 s62 Ybs
  refine vt _ (ex_move rfl (ev s63 rfl)) hz (fun Ybu zz kk s64 => ?_)
  replace s2 := ku s2
  replace s3 := ku s3
  replace s5 := ku s5
  replace hz := zz
  clear kk zz s63 Ybt
  refine vl _ (.pointer (some ⟨w.heap.size + 1, 7, none⟩)) (want_g rfl rfl s64) (fun hc => ex_fa rfl (ev s3 rfl) (faS7 _ _)) rfl hz (by decide) (fun Ybv zz kk s65 => ?_)
  replace s2 := ku s2
  replace s3 := ku s3
  replace s5 := ku s5
  replace s64 := ku s64
  replace hz := zz
  clear kk zz Ybu
  refine vl _ (.int .i64 s.idle) (want_g rfl rfl s64) (fun hc => ex_ld rfl (ev s65 hc) (ldI8 (cell8 (HS.cell 7 _ rfl) hx2))) rfl hz (by decide) (fun Ybw zz kk s66 => ?_)
  replace s2 := ku s2
  replace s3 := ku s3
  replace s5 := ku s5
  replace s64 := ku s64
  replace hz := zz
  clear kk zz s65 Ybv
  refine vl _ (.pointer (some ⟨w.heap.size, 2, none⟩)) (want_g rfl rfl s64) (fun hc => ex_fa rfl (ev s2 rfl) (faC2 _ _)) rfl hz (by decide) (fun Ybx zz kk s67 => ?_)
  replace s2 := ku s2
  replace s3 := ku s3
  replace s5 := ku s5
  replace s64 := ku s64
  replace s66 := ku s66
  replace hz := zz
  clear kk zz Ybw
  refine vl _ (.int .i64 c.P) (want_g rfl rfl s64) (fun hc => ex_ld rfl (ev s67 hc) (ldI8 (cell8 (HC.cell 2 _ rfl) hx2))) rfl hz (by decide) (fun Yby zz kk s68 => ?_)
  replace s2 := ku s2
  replace s3 := ku s3
  replace s5 := ku s5
  replace s64 := ku s64
  replace s66 := ku s66
  replace hz := zz
  clear kk zz s67 Ybx
  refine vl _ (.bool (decide (c.P ≤ s.idle))) (want_g rfl rfl s64) (fun hc => ex_bin rfl (ev s66 hc) (ev s68 hc) (geqC _ _ _ _ _)) rfl hz (by decide) (fun Ybz zz kk s69 => ?_)
  replace s2 := ku s2
  replace s3 := ku s3
  replace s5 := ku s5
  replace s64 := ku s64
  replace hz := zz
  clear kk zz s66 s68 Yby
  refine vt (.bool ((((((((((decide (s.self < 0)) || (decide (c.nd ≤ s.self))) || (decide (s.view < 0))) || (decide (4294967296 < s.view))) || (decide (s.last < 0))) || (decide (s.view < s.last))) || (!(lgB9 c s.L s.commit))) || (!decide ((s.V.length : Int) = c.nd))) || (decide (s.idle < 0))) || (decide (c.P ≤ s.idle)))) (ex_or rfl s64 s69 rfl) hz (fun Yb0 zz kk s70 => ?_)
  replace s2 := ku s2
  replace s3 := ku s3
  replace s5 := ku s5
  replace hz := zz
  clear kk zz s64 s69 Ybz
  refine vt _ (ex_move rfl (ev s70 rfl)) hz (fun Yb1 zz kk s71 => ?_)
  replace s2 := ku s2
  replace s3 := ku s3
  replace s5 := ku s5
  replace hz := zz
  clear kk zz s70 Yb0
  refine vl _ (s.val) (want_g rfl rfl s71) (fun hc => ex_ld rfl (ev s3 rfl) (SB7.ld (HS.bel hx2))) rfl hz (by decide) (fun Yb2 zz kk s72 => ?_)
  replace s2 := ku s2
  replace s3 := ku s3
  replace s5 := ku s5
  replace s71 := ku s71
  replace hz := zz
  clear kk zz Yb1
  refine vl _ _ (want_g rfl rfl s71) (fun hc => ex_move rfl (ev s5 rfl)) rfl hz (by decide) (fun Yb3 zz kk s73 => ?_)
  replace s2 := ku s2
  replace s3 := ku s3
  replace s5 := ku s5
  replace s71 := ku s71
  replace s72 := ku s72
  replace hz := zz
  clear kk zz Yb2
  refine vcall (true && (((((((((((decide (s.self < 0)) || (decide (c.nd ≤ s.self))) || (decide (s.view < 0))) || (decide (4294967296 < s.view))) || (decide (s.last < 0))) || (decide (s.view < s.last))) || (!(lgB9 c s.L s.commit))) || (!decide ((s.V.length : Int) = c.nd))) || (decide (s.idle < 0))) || (decide (c.P ≤ s.idle))) == false)) (.bool (s.vtB9 c.nd)) (want_g rfl rfl s71) (fun hc => ex_call rfl (by simp only [List.map_toArray, List.map_cons, List.map_nil, (ev s72 hc), (ev s73 hc), evc] <;> rfl) rfl) (fun hc => rvotes9 s c.nd x2 (HI.later hx2) hF (gv9 hc).1 (gv9 hc).2) rfl hz (by decide) (fun Yb4 x3 hb zz kk s74 => ?_)
  have hx3 := hx2.trans (hb.mono hx2.size)
  clear hb
  replace s2 := ku s2
  replace s3 := ku s3
  replace s5 := ku s5
  replace s71 := ku s71
  replace hz := zz
  clear kk zz s72 s73 Yb3
  refine vl _ (.bool (!(s.vtB9 c.nd))) (want_g rfl rfl s71) (fun hc => ex_not rfl (ev s74 hc)) rfl hz (by decide) (fun Yb5 zz kk s75 => ?_)
  replace s2 := ku s2
  replace s3 := ku s3
  replace s5 := ku s5
  replace s71 := ku s71
  replace hz := zz
  clear kk zz s74 Yb4
  refine vt (.bool (((((((((((decide (s.self < 0)) || (decide (c.nd ≤ s.self))) || (decide (s.view < 0))) || (decide (4294967296 < s.view))) || (decide (s.last < 0))) || (decide (s.view < s.last))) || (!(lgB9 c s.L s.commit))) || (!decide ((s.V.length : Int) = c.nd))) || (decide (s.idle < 0))) || (decide (c.P ≤ s.idle))) || (!(s.vtB9 c.nd)))) (ex_or rfl s71 s75 rfl) hz (fun Yb6 zz kk s76 => ?_)
  replace s2 := ku s2
  replace s3 := ku s3
  replace s5 := ku s5
  replace hz := zz
  clear kk zz s71 s75 Yb5
  refine wpList_nil ?_
  have hB := hB.trans (hx3.mono (by omega))
  have HS := HS.bel hx3
  have HC := HC.bel hx3
  have HI := HI.later hx3
  have hz2 := hx3.size
  have hv3 : Below x3.heap.size x3 x3 := Below.refl _ _
  have hzw := hB.size
  go_upto_region 3 with fail
  cases e76 : s.mh9 c
  rotate_left
  · refine wp_cond_true ((ev s76 rfl).trans (congrArg Value.bool e76)) ?_
    go_upto_region 3 with fail
    refine wp_region_lit ?_
    refine vt (.bool false) (ex_assign rfl rfl) hz (fun Yb7 zz kk s4 => ?_)
    replace hz := zz
    clear kk zz s2 s3 s5
    refine wpList_nil ?_
    go_wp2
    refine bodyPost_ret (results_tmp rfl _ _ _) rfl ⟨?_, hB.trans (hv3.mono (by omega))⟩
    rw [getD_of s4]
    unfold Sta.mayB9
    rw [e76]
    rfl
  refine wp_cond_false ((ev s76 rfl).trans (congrArg Value.bool e76)) ?_
  clear s76
  have MF := mh9_facts hok e76
  go_upto_region 4 with fail
  refine vq_start (C := fun v => Below x3.heap.size x3 v) (by kernel_rfl) (by kernel_rfl) hv3.drew ?_
  refine vq true (.pointer (some ⟨w.heap.size + 1, 0, none⟩)) (want_none rfl) (fun hc v hv => ex_fa rfl (ev s3 rfl) (faS0 _ _)) rfl hz (by decide) (fun Yb8 zz kk s77 => ?_)
  replace s2 := ku s2
  replace s3 := ku s3
  replace s5 := ku s5
  replace hz := zz
  clear kk zz
  refine vq true (.int .i64 s.self) (want_none rfl) (fun hc v hv => ex_ld rfl (ev s77 rfl) (ldI8 (cell8 (HS.cell 0 _ rfl) hv))) rfl hz (by decide) (fun Yb9 zz kk s78 => ?_)
  replace s2 := ku s2
  replace s3 := ku s3
  replace s5 := ku s5
  replace hz := zz
  clear kk zz s77 Yb8
  refine vq true (.pointer (some ⟨w.heap.size + 1, 2, none⟩)) (want_none rfl) (fun hc v hv => ex_fa rfl (ev s3 rfl) (faS2 _ _)) rfl hz (by decide) (fun Yca zz kk s79 => ?_)
  replace s2 := ku s2
  replace s3 := ku s3
  replace s5 := ku s5
  replace s78 := ku s78
  replace hz := zz
  clear kk zz Yb9
  refine vq true (.int .i64 s.view) (want_none rfl) (fun hc v hv => ex_ld rfl (ev s79 rfl) (ldI8 (cell8 (HS.cell 2 _ rfl) hv))) rfl hz (by decide) (fun Ycb zz kk s80 => ?_)
  replace s2 := ku s2
  replace s3 := ku s3
  replace s5 := ku s5
  replace s78 := ku s78
  replace hz := zz
  clear kk zz s79 Yca
  refine vq true _ (want_none rfl) (fun hc v hv => ex_move rfl (ev s5 rfl)) rfl hz (by decide) (fun Ycc zz kk s81 => ?_)
  replace s2 := ku s2
  replace s3 := ku s3
  replace s5 := ku s5
  replace s78 := ku s78
  replace s80 := ku s80
  replace hz := zz
  clear kk zz Ycb
  refine vq true (.int .i64 (s.view % c.nd)) (want_none rfl) (fun hc v hv => ex_bin rfl (ev s80 rfl) (ev s81 rfl) (remD8 _ _ s.view c.nd (by omega) (by omega) (by omega) _)) rfl hz (by decide) (fun Ycd zz kk s82 => ?_)
  replace s2 := ku s2
  replace s3 := ku s3
  replace s5 := ku s5
  replace s78 := ku s78
  replace hz := zz
  clear kk zz s80 s81 Ycc
  refine vq true (.bool (decide (s.self = (s.view % c.nd)))) (want_none rfl) (fun hc v hv => ex_bin rfl (ev s78 rfl) (ev s82 rfl) (eqlC _ _ _ _ _)) rfl hz (by decide) (fun Yce zz kk s83 => ?_)
  replace s2 := ku s2
  replace s3 := ku s3
  replace s5 := ku s5
  replace hz := zz
  clear kk zz s78 s82 Ycd
  refine vq true _ (want_none rfl) (fun hc v hv => ex_assign rfl (ev s83 rfl)) rfl hz (by decide) (fun Ycf zz kk s6 => ?_)
  replace s2 := ku s2
  replace s3 := ku s3
  replace s5 := ku s5
  replace hz := zz
  clear kk zz s83 Yce
  refine vq_nil (fun x4 hx4 => ?_)
  go_upto_region 5 with fail
  refine wp_region_lit ?_
  refine vt (.pointer (some ⟨w.heap.size + 1, 1, none⟩)) (ex_fa rfl (ev s3 rfl) (faS1 _ _)) hz (fun Ycg zz kk s84 => ?_)
  replace s2 := ku s2
  replace s3 := ku s3
  replace s5 := ku s5
  replace s6 := ku s6
  replace hz := zz
  clear kk zz
  refine vt (.int .i64 s.st) (ex_ld rfl (ev s84 rfl) (ldT8 (cell8 (HS.cell 1 _ rfl) hx4))) hz (fun Ych zz kk s85 => ?_)
  replace s2 := ku s2
  replace s3 := ku s3
  replace s5 := ku s5
  replace s6 := ku s6
  replace hz := zz
  clear kk zz s84 Ycg
  refine wpList_nil ?_
  go_upto_region 6 with fail
  refine wp_region_lit ?_
  refine vt (.bool (decide (s.st = 1))) (ex_bin rfl (ev s85 rfl) rfl (eqlC _ _ _ _ _)) hz (fun Yci zz kk s87 => ?_)
  replace s2 := ku s2
  replace s3 := ku s3
  replace s5 := ku s5
  replace s6 := ku s6
  replace s85 := ku s85
  replace hz := zz
  clear kk zz
  refine vt _ (ex_assign rfl (ev s87 rfl)) hz (fun Ycj zz kk s86 => ?_)
  replace s2 := ku s2
  replace s3 := ku s3
  replace s5 := ku s5
  replace s6 := ku s6
  replace s85 := ku s85
  replace hz := zz
  clear kk zz s87 Yci
  refine wpList_nil ?_
  go_upto_region 7 with fail
  cases e1s : decide (s.st = 1)
  rotate_left
  · refine wp_cond_true ((ev s86 rfl).trans (congrArg Value.bool e1s)) ?_
    clear s86
    go_upto_region 7 with fail
    refine wp_region_lit ?_
    refine vt (.pointer (some ⟨w.heap.size + 1, 3, none⟩)) (ex_fa rfl (ev s3 rfl) (faS3 _ _)) hz (fun Yck zz kk s88 => ?_)
    replace s2 := ku s2
    replace s3 := ku s3
    replace s6 := ku s6
    replace hz := zz
    clear kk zz s5 s85
    refine vt (.int .i64 s.last) (ex_ld rfl (ev s88 rfl) (ldI8 (cell8 (HS.cell 3 _ rfl) hx4))) hz (fun Ycl zz kk s89 => ?_)
    replace s2 := ku s2
    replace s3 := ku s3
    replace s6 := ku s6
    replace hz := zz
    clear kk zz s88 Yck
    refine vt (.pointer (some ⟨w.heap.size + 1, 2, none⟩)) (ex_fa rfl (ev s3 rfl) (faS2 _ _)) hz (fun Ycm zz kk s90 => ?_)
    replace s2 := ku s2
    replace s3 := ku s3
    replace s6 := ku s6
    replace s89 := ku s89
    replace hz := zz
    clear kk zz Ycl
    refine vt (.int .i64 s.view) (ex_ld rfl (ev s90 rfl) (ldI8 (cell8 (HS.cell 2 _ rfl) hx4))) hz (fun Ycn zz kk s91 => ?_)
    replace s2 := ku s2
    replace s3 := ku s3
    replace s6 := ku s6
    replace s89 := ku s89
    replace hz := zz
    clear kk zz s90 Ycm
    refine vt (.bool (!decide (s.last = s.view))) (ex_bin rfl (ev s89 rfl) (ev s91 rfl) (neqC _ _ _ _ _)) hz (fun Yco zz kk s92 => ?_)
    replace s2 := ku s2
    replace s3 := ku s3
    replace s6 := ku s6
    replace hz := zz
    clear kk zz s89 s91 Ycn
    refine vt _ (ex_move rfl (ev s92 rfl)) hz (fun Ycp zz kk s93 => ?_)
    replace s2 := ku s2
    replace s3 := ku s3
    replace s6 := ku s6
    replace hz := zz
    clear kk zz s92 Yco
    refine vl _ (.pointer (some ⟨w.heap.size + 1, 9, none⟩)) (want_g rfl rfl s93) (fun hc => ex_fa rfl (ev s3 rfl) (faS9 _ _)) rfl hz (by decide) (fun Ycq zz kk s94 => ?_)
    replace s2 := ku s2
    replace s3 := ku s3
    replace s6 := ku s6
    replace s93 := ku s93
    replace hz := zz
    clear kk zz Ycp
    refine vl _ (.slice s.ma s.M.length s.mc) (want_g rfl rfl s93) (fun hc => ex_ld rfl (ev s94 hc) (ldM8 (cell8 (HS.cell 9 _ rfl) hx4))) rfl hz (by decide) (fun Ycr zz kk s95 => ?_)
    replace s2 := ku s2
    replace s3 := ku s3
    replace s6 := ku s6
    replace s93 := ku s93
    replace hz := zz
    clear kk zz s94 Ycq
    refine vl _ (.int .i64 (s.M.length : Int)) (want_g rfl rfl s93) (fun hc => ex_lenM8 rfl rfl (ev s95 hc)) rfl hz (by decide) (fun Ycs zz kk s96 => ?_)
    replace s2 := ku s2
    replace s3 := ku s3
    replace s6 := ku s6
    replace s93 := ku s93
    replace hz := zz
    clear kk zz s95 Ycr
    refine vl _ (.pointer (some ⟨w.heap.size + 1, 10, none⟩)) (want_g rfl rfl s93) (fun hc => ex_fa rfl (ev s3 rfl) (faS10 _ _)) rfl hz (by decide) (fun Yct zz kk s97 => ?_)
    replace s2 := ku s2
    replace s3 := ku s3
    replace s6 := ku s6
    replace s93 := ku s93
    replace s96 := ku s96
    replace hz := zz
    clear kk zz Ycs
    refine vl _ (.slice s.ba s.B.length s.bc) (want_g rfl rfl s93) (fun hc => ex_ld rfl (ev s97 hc) (ldB8 (cell8 (HS.cell 10 _ rfl) hx4))) rfl hz (by decide) (fun Ycu zz kk s98 => ?_)
    replace s2 := ku s2
    replace s3 := ku s3
    replace s6 := ku s6
    replace s93 := ku s93
    replace s96 := ku s96
    replace hz := zz
    clear kk zz s97 Yct
    refine vl _ (.int .i64 (s.B.length : Int)) (want_g rfl rfl s93) (fun hc => ex_lenB8 rfl rfl (ev s98 hc)) rfl hz (by decide) (fun Ycv zz kk s99 => ?_)
    replace s2 := ku s2
    replace s3 := ku s3
    replace s6 := ku s6
    replace s93 := ku s93
    replace s96 := ku s96
    replace hz := zz
    clear kk zz s98 Ycu
    refine vl _ (.int .i64 ((s.M.length : Int) + (s.B.length : Int))) (want_g rfl rfl s93) (fun hc => ex_bin rfl (ev s96 hc) (ev s99 hc) (addD8 _ _ (s.M.length : Int) (s.B.length : Int) ((s.M.length : Int) + (s.B.length : Int)) (by rw [IntKind.wrap_i64]; omega) _)) rfl hz (by decide) (fun Ycw zz kk s100 => ?_)
    replace s2 := ku s2
    replace s3 := ku s3
    replace s6 := ku s6
    replace s93 := ku s93
    replace hz := zz
    clear kk zz s96 s99 Ycv
    refine vl _ (.pointer (some ⟨w.heap.size + 1, 11, none⟩)) (want_g rfl rfl s93) (fun hc => ex_fa rfl (ev s3 rfl) (faS11 _ _)) rfl hz (by decide) (fun Ycx zz kk s101 => ?_)
    replace s2 := ku s2
    replace s3 := ku s3
    replace s6 := ku s6
    replace s93 := ku s93
    replace s100 := ku s100
    replace hz := zz
    clear kk zz Ycw
    refine vl _ (.slice s.na s.N.length s.nc) (want_g rfl rfl s93) (fun hc => ex_ld rfl (ev s101 hc) (ldN8 (cell8 (HS.cell 11 _ rfl) hx4))) rfl hz (by decide) (fun Ycy zz kk s102 => ?_)
    replace s2 := ku s2
    replace s3 := ku s3
    replace s6 := ku s6
    replace s93 := ku s93
    replace s100 := ku s100
    replace hz := zz
    clear kk zz s101 Ycx
    refine vl _ (.int .i64 (s.N.length : Int)) (want_g rfl rfl s93) (fun hc => ex_lenN8 rfl rfl (ev s102 hc)) rfl hz (by decide) (fun Ycz zz kk s103 => ?_)
    replace s2 := ku s2
    replace s3 := ku s3
    replace s6 := ku s6
    replace s93 := ku s93
    replace s100 := ku s100
    replace hz := zz
    clear kk zz s102 Ycy
    refine vl _ (.int .i64 (((s.M.length : Int) + (s.B.length : Int)) + (s.N.length : Int))) (want_g rfl rfl s93) (fun hc => ex_bin rfl (ev s100 hc) (ev s103 hc) (addD8 _ _ ((s.M.length : Int) + (s.B.length : Int)) (s.N.length : Int) (((s.M.length : Int) + (s.B.length : Int)) + (s.N.length : Int)) (by rw [IntKind.wrap_i64]; omega) _)) rfl hz (by decide) (fun Yc0 zz kk s104 => ?_)
    replace s2 := ku s2
    replace s3 := ku s3
    replace s6 := ku s6
    replace s93 := ku s93
    replace hz := zz
    clear kk zz s100 s103 Ycz
    refine vl _ (.bool (decide (0 < (((s.M.length : Int) + (s.B.length : Int)) + (s.N.length : Int))))) (want_g rfl rfl s93) (fun hc => ex_bin rfl (ev s104 hc) rfl (gtrC _ _ _ _ _)) rfl hz (by decide) (fun Yc1 zz kk s105 => ?_)
    replace s2 := ku s2
    replace s3 := ku s3
    replace s6 := ku s6
    replace s93 := ku s93
    replace hz := zz
    clear kk zz s104 Yc0
    refine vt (.bool ((!decide (s.last = s.view)) || (decide (0 < (((s.M.length : Int) + (s.B.length : Int)) + (s.N.length : Int)))))) (ex_or rfl s93 s105 rfl) hz (fun Yc2 zz kk s106 => ?_)
    replace s2 := ku s2
    replace s3 := ku s3
    replace s6 := ku s6
    replace hz := zz
    clear kk zz s93 s105 Yc1
    refine vt _ (ex_move rfl (ev s106 rfl)) hz (fun Yc3 zz kk s107 => ?_)
    replace s2 := ku s2
    replace s3 := ku s3
    replace s6 := ku s6
    replace hz := zz
    clear kk zz s106 Yc2
    refine vl _ _ (want_g rfl rfl s107) (fun hc => ex_move rfl (ev s6 rfl)) rfl hz (by decide) (fun Yc4 zz kk s108 => ?_)
    replace s2 := ku s2
    replace s3 := ku s3
    replace s6 := ku s6
    replace s107 := ku s107
    replace hz := zz
    clear kk zz Yc3
    refine vl _ _ (want_g rfl rfl s107) (fun hc => ex_move rfl (ev s108 hc)) rfl hz (by decide) (fun Yc5 zz kk s109 => ?_)
    replace s2 := ku s2
    replace s3 := ku s3
    replace s6 := ku s6
    replace s107 := ku s107
    replace hz := zz
    clear kk zz s108 Yc4
    refine vl ((true && (((!decide (s.last = s.view)) || (decide (0 < (((s.M.length : Int) + (s.B.length : Int)) + (s.N.length : Int))))) == false)) && ((decide (s.self = (s.view % c.nd))) == true)) (.pointer (some ⟨w.heap.size + 1, 7, none⟩)) (want_g rfl rfl s109) (fun hc => ex_fa rfl (ev s3 rfl) (faS7 _ _)) rfl hz (by decide) (fun Yc6 zz kk s110 => ?_)
    replace s2 := ku s2
    replace s3 := ku s3
    replace s6 := ku s6
    replace s107 := ku s107
    replace s109 := ku s109
    replace hz := zz
    clear kk zz Yc5
    refine vl ((true && (((!decide (s.last = s.view)) || (decide (0 < (((s.M.length : Int) + (s.B.length : Int)) + (s.N.length : Int))))) == false)) && ((decide (s.self = (s.view % c.nd))) == true)) (.int .i64 s.idle) (want_g rfl rfl s109) (fun hc => ex_ld rfl (ev s110 hc) (ldI8 (cell8 (HS.cell 7 _ rfl) hx4))) rfl hz (by decide) (fun Yc7 zz kk s111 => ?_)
    replace s2 := ku s2
    replace s3 := ku s3
    replace s6 := ku s6
    replace s107 := ku s107
    replace s109 := ku s109
    replace hz := zz
    clear kk zz s110 Yc6
    refine vl ((true && (((!decide (s.last = s.view)) || (decide (0 < (((s.M.length : Int) + (s.B.length : Int)) + (s.N.length : Int))))) == false)) && ((decide (s.self = (s.view % c.nd))) == true)) (.bool (!decide (s.idle = 0))) (want_g rfl rfl s109) (fun hc => ex_bin rfl (ev s111 hc) rfl (neqC _ _ _ _ _)) rfl hz (by decide) (fun Yc8 zz kk s112 => ?_)
    replace s2 := ku s2
    replace s3 := ku s3
    replace s6 := ku s6
    replace s107 := ku s107
    replace s109 := ku s109
    replace hz := zz
    clear kk zz s111 Yc7
    refine vl _ (.bool ((decide (s.self = (s.view % c.nd))) && (!decide (s.idle = 0)))) (want_g rfl rfl s107) (fun hc => ex_and rfl s109 s112 hc) rfl hz (by decide) (fun Yc9 zz kk s113 => ?_)
    replace s2 := ku s2
    replace s3 := ku s3
    replace s6 := ku s6
    replace s107 := ku s107
    replace hz := zz
    clear kk zz s109 s112 Yc8
    refine vt (.bool (((!decide (s.last = s.view)) || (decide (0 < (((s.M.length : Int) + (s.B.length : Int)) + (s.N.length : Int))))) || ((decide (s.self = (s.view % c.nd))) && (!decide (s.idle = 0))))) (ex_or rfl s107 s113 rfl) hz (fun Yda zz kk s114 => ?_)
    replace s2 := ku s2
    replace s3 := ku s3
    replace s6 := ku s6
    replace hz := zz
    clear kk zz s107 s113 Yc9
    refine vt _ (ex_move rfl (ev s114 rfl)) hz (fun Ydb zz kk s115 => ?_)
    replace s2 := ku s2
    replace s3 := ku s3
    replace s6 := ku s6
    replace hz := zz
    clear kk zz s114 Yda
    refine vl _ _ (want_g rfl rfl s115) (fun hc => ex_move rfl (ev s6 rfl)) rfl hz (by decide) (fun Ydc zz kk s116 => ?_)
    replace s2 := ku s2
    replace s3 := ku s3
    replace s115 := ku s115
    replace hz := zz
    clear kk zz s6 Ydb
    refine vl _ (.bool (!(decide (s.self = (s.view % c.nd))))) (want_g rfl rfl s115) (fun hc => ex_not rfl (ev s116 hc)) rfl hz (by decide) (fun Ydd zz kk s117 => ?_)
    replace s2 := ku s2
    replace s3 := ku s3
    replace s115 := ku s115
    replace hz := zz
    clear kk zz s116 Ydc
    refine vl _ _ (want_g rfl rfl s115) (fun hc => ex_move rfl (ev s117 hc)) rfl hz (by decide) (fun Yde zz kk s118 => ?_)
    replace s2 := ku s2
    replace s3 := ku s3
    replace s115 := ku s115
    replace hz := zz
    clear kk zz s117 Ydd
    refine vl ((true && ((((!decide (s.last = s.view)) || (decide (0 < (((s.M.length : Int) + (s.B.length : Int)) + (s.N.length : Int))))) || ((decide (s.self = (s.view % c.nd))) && (!decide (s.idle = 0)))) == false)) && ((!(decide (s.self = (s.view % c.nd)))) == true)) (.pointer (some ⟨w.heap.size + 1, 8, none⟩)) (want_g rfl rfl s118) (fun hc => ex_fa rfl (ev s3 rfl) (faS8 _ _)) rfl hz (by decide) (fun Ydf zz kk s119 => ?_)
    replace s2 := ku s2
    replace s3 := ku s3
    replace s115 := ku s115
    replace s118 := ku s118
    replace hz := zz
    clear kk zz Yde
    refine vl ((true && ((((!decide (s.last = s.view)) || (decide (0 < (((s.M.length : Int) + (s.B.length : Int)) + (s.N.length : Int))))) || ((decide (s.self = (s.view % c.nd))) && (!decide (s.idle = 0)))) == false)) && ((!(decide (s.self = (s.view % c.nd)))) == true)) (.slice s.ka s.A.length s.kc) (want_g rfl rfl s118) (fun hc => ex_ld rfl (ev s119 hc) (ldK8 (cell8 (HS.cell 8 _ rfl) hx4))) rfl hz (by decide) (fun Ydg zz kk s120 => ?_)
    replace s2 := ku s2
    replace s3 := ku s3
    replace s115 := ku s115
    replace s118 := ku s118
    replace hz := zz
    clear kk zz s119 Ydf
    refine vl ((true && ((((!decide (s.last = s.view)) || (decide (0 < (((s.M.length : Int) + (s.B.length : Int)) + (s.N.length : Int))))) || ((decide (s.self = (s.view % c.nd))) && (!decide (s.idle = 0)))) == false)) && ((!(decide (s.self = (s.view % c.nd)))) == true)) (.int .i64 (s.A.length : Int)) (want_g rfl rfl s118) (fun hc => ex_lenK8 rfl rfl (ev s120 hc)) rfl hz (by decide) (fun Ydh zz kk s121 => ?_)
    replace s2 := ku s2
    replace s3 := ku s3
    replace s115 := ku s115
    replace s118 := ku s118
    replace hz := zz
    clear kk zz s120 Ydg
    refine vl ((true && ((((!decide (s.last = s.view)) || (decide (0 < (((s.M.length : Int) + (s.B.length : Int)) + (s.N.length : Int))))) || ((decide (s.self = (s.view % c.nd))) && (!decide (s.idle = 0)))) == false)) && ((!(decide (s.self = (s.view % c.nd)))) == true)) (.bool (decide (0 < (s.A.length : Int)))) (want_g rfl rfl s118) (fun hc => ex_bin rfl (ev s121 hc) rfl (gtrC _ _ _ _ _)) rfl hz (by decide) (fun Ydi zz kk s122 => ?_)
    replace s2 := ku s2
    replace s3 := ku s3
    replace s115 := ku s115
    replace s118 := ku s118
    replace hz := zz
    clear kk zz s121 Ydh
    refine vl _ (.bool ((!(decide (s.self = (s.view % c.nd)))) && (decide (0 < (s.A.length : Int))))) (want_g rfl rfl s115) (fun hc => ex_and rfl s118 s122 hc) rfl hz (by decide) (fun Ydj zz kk s123 => ?_)
    replace s2 := ku s2
    replace s3 := ku s3
    replace s115 := ku s115
    replace hz := zz
    clear kk zz s118 s122 Ydi
    refine vt (.bool ((((!decide (s.last = s.view)) || (decide (0 < (((s.M.length : Int) + (s.B.length : Int)) + (s.N.length : Int))))) || ((decide (s.self = (s.view % c.nd))) && (!decide (s.idle = 0)))) || ((!(decide (s.self = (s.view % c.nd)))) && (decide (0 < (s.A.length : Int)))))) (ex_or rfl s115 s123 rfl) hz (fun Ydk zz kk s124 => ?_)
    replace s2 := ku s2
    replace s3 := ku s3
    replace hz := zz
    clear kk zz s115 s123 Ydj
    refine wpList_nil ?_
    go_upto_region 8 with fail
    cases eg : s.mn9 c
    rotate_left
    · refine wp_cond_true ((ev s124 rfl).trans (congrArg Value.bool eg)) ?_
      go_upto_region 8 with fail
      refine wp_region_lit ?_
      refine vt (.bool false) (ex_assign rfl rfl) hz (fun Ydl zz kk s4 => ?_)
      replace hz := zz
      clear kk zz s2 s3
      refine wpList_nil ?_
      go_wp2
      refine bodyPost_ret (results_tmp rfl _ _ _) rfl ⟨?_, hB.trans (hx4.mono (by omega))⟩
      rw [getD_of s4]
      unfold Sta.mayB9
      rw [e76, e1s, eg]
      rfl
    refine wp_cond_false ((ev s124 rfl).trans (congrArg Value.bool eg)) ?_
    clear s124
    go_upto_region 9 with fail
    refine wp_region_lit ?_
    refine vt (.int .i64 0) (ex_assign rfl rfl) hz (fun Ydm zz kk s7 => ?_)
    replace s2 := ku s2
    replace s3 := ku s3
    replace hz := zz
    clear kk zz
    refine wpList_nil ?_
    have hsv : _ = some (gw true (.int .i64 ((0 : Nat) : Int))) := s7
    go_upto_region 10 with fail
    refine v_loop 7 s.A.length (fun i T wr => T.size = 223 ∧ T[2]? = some (gw true (.pointer (some ⟨w.heap.size, 0, none⟩))) ∧ T[3]? = some (gw true (.pointer (some ⟨w.heap.size + 1, 0, none⟩))) ∧ T[7]? = some (gw true (.int .i64 (i : Int))) ∧ Hid (Below x3.heap.size x3 wr ∧ ∀ k x, k < i → s.A[k]? = some x → rkb9 s x = false)) (fun i T w h => h.2.2.2.1) ⟨hz, s2, s3, hsv, hx4, fun k x hk => absurd hk (Nat.not_lt_zero _)⟩ ?_
    clear hz s2 s3 s7 hsv
    intro i R0 wr hi hh
    obtain ⟨hz, s2, s3, s7, HJ⟩ := hh
    have hbr := HJ.out.1
    have hzr := hbr.size
    by_cases hit : i < s.A.length
    · have d1 : decide ((i : Int) < (s.A.length : Int)) = true := decide_eq_true (by omega)
      go_upto_region 10 with fail
      refine wp_region_lit ?_
      refine vt _ (ex_move rfl (ev s7 rfl)) hz (fun Ydn zz kk s125 => ?_)
      replace s2 := ku s2
      replace s3 := ku s3
      replace s7 := ku s7
      replace hz := zz
      clear kk zz
      refine vt (.pointer (some ⟨w.heap.size + 1, 8, none⟩)) (ex_fa rfl (ev s3 rfl) (faS8 _ _)) hz (fun Ydo zz kk s126 => ?_)
      replace s2 := ku s2
      replace s3 := ku s3
      replace s7 := ku s7
      replace s125 := ku s125
      replace hz := zz
      clear kk zz Ydn
      refine vt (.slice s.ka s.A.length s.kc) (ex_ld rfl (ev s126 rfl) (ldK8 (cell8 (HS.cell 8 _ rfl) hbr))) hz (fun Ydp zz kk s127 => ?_)
      replace s2 := ku s2
      replace s3 := ku s3
      replace s7 := ku s7
      replace s125 := ku s125
      replace hz := zz
      clear kk zz s126 Ydo
      refine vt (.int .i64 (s.A.length : Int)) (ex_lenK8 rfl rfl (ev s127 rfl)) hz (fun Ydq zz kk s128 => ?_)
      replace s2 := ku s2
      replace s3 := ku s3
      replace s7 := ku s7
      replace s125 := ku s125
      replace hz := zz
      clear kk zz s127 Ydp
      refine vt (.bool true) (ex_bin rfl (ev s125 rfl) (ev s128 rfl) (lssD8 _ _ _ _ true d1 _)) hz (fun Ydr zz kk s129 => ?_)
      replace s2 := ku s2
      replace s3 := ku s3
      replace s7 := ku s7
      replace hz := zz
      clear kk zz s125 s128 Ydq
      refine wpList_nil ?_
      go_upto_region 12 with fail
      refine wp_cond_true ((ev s129 rfl).trans rfl) ?_
      clear s129 d1
      obtain ⟨x, hxi⟩ : ∃ x, s.A[i]? = some x := ⟨_, List.getElem?_eq_getElem hit⟩
      have hmem := List.mem_of_getElem? hxi
      obtain ⟨q, o, hqa, hq, hl⟩ := (HI.a.later hbr).place (by intro e; rw [e] at hit; simp at hit)
      have e1 : wr.cell? ⟨q, o + i * 4 + 3, none⟩ = some (.int .i64 x.p) := hl i x hxi 3 _ rfl
      go_upto_region 12 with fail
      refine vq_start (C := fun v => Below wr.heap.size wr v) (by kernel_rfl) (by kernel_rfl) (Below.refl _ _).drew ?_
      refine vq true (.pointer (some ⟨w.heap.size + 1, 8, none⟩)) (want_none rfl) (fun hc v hv => ex_fa rfl (ev s3 rfl) (faS8 _ _)) rfl hz (by decide) (fun Yds zz kk s132 => ?_)
      replace s2 := ku s2
      replace s3 := ku s3
      replace s7 := ku s7
      replace hz := zz
      clear kk zz
      refine vq true (.slice s.ka s.A.length s.kc) (want_none rfl) (fun hc v hv => ex_ld rfl (ev s132 rfl) (ldK8 (cell8 ((HS.bel hbr).cell 8 _ rfl) hv))) rfl hz (by decide) (fun Ydt zz kk s133 => ?_)
      replace s2 := ku s2
      replace s3 := ku s3
      replace s7 := ku s7
      replace hz := zz
      clear kk zz s132 Yds
      refine vq true _ (want_none rfl) (fun hc v hv => ex_move rfl (ev s7 rfl)) rfl hz (by decide) (fun Ydu zz kk s134 => ?_)
      replace s2 := ku s2
      replace s3 := ku s3
      replace s7 := ku s7
      replace s133 := ku s133
      replace hz := zz
      clear kk zz Ydt
      refine vq true (.pointer (some ⟨q, o + i * 4, none⟩)) (want_none rfl) (fun hc v hv => ex_ix rfl (ev s133 rfl) (ev s134 rfl) (by rw [hqa]; exact ix9Ak q o s.A.length s.kc i hit _)) rfl hz (by decide) (fun Ydv zz kk s135 => ?_)
      replace s2 := ku s2
      replace s3 := ku s3
      replace s7 := ku s7
      replace hz := zz
      clear kk zz s133 s134 Ydu
      refine vq true (.pointer (some ⟨q, o + i * 4 + 3, none⟩)) (want_none rfl) (fun hc v hv => ex_fa rfl (ev s135 rfl) (fa2Ak _ _ _)) rfl hz (by decide) (fun Ydw zz kk s136 => ?_)
      replace s2 := ku s2
      replace s3 := ku s3
      replace s7 := ku s7
      replace hz := zz
      clear kk zz s135 Ydv
      refine vq true (.int .i64 x.p) (want_none rfl) (fun hc v hv => ex_ld rfl (ev s136 rfl) (ldI8 (cell8 e1 hv))) rfl hz (by decide) (fun Ydx zz kk s137 => ?_)
      replace s2 := ku s2
      replace s3 := ku s3
      replace s7 := ku s7
      replace hz := zz
      clear kk zz s136 Ydw
      refine vq true (.bool (decide (x.p < 1))) (want_none rfl) (fun hc v hv => ex_bin rfl (ev s137 rfl) rfl (lssC _ _ _ _ _)) rfl hz (by decide) (fun Ydy zz kk s138 => ?_)
      replace s2 := ku s2
      replace s3 := ku s3
      replace s7 := ku s7
      replace hz := zz
      clear kk zz s137 Ydx
      refine vq true _ (want_none rfl) (fun hc v hv => ex_move rfl (ev s138 rfl)) rfl hz (by decide) (fun Ydz zz kk s139 => ?_)
      replace s2 := ku s2
      replace s3 := ku s3
      replace s7 := ku s7
      replace hz := zz
      clear kk zz s138 Ydy
      refine vq _ (.pointer (some ⟨w.heap.size + 1, 8, none⟩)) (want_g rfl rfl s139) (fun hc v hv => ex_fa rfl (ev s3 rfl) (faS8 _ _)) rfl hz (by decide) (fun Yd0 zz kk s140 => ?_)
      replace s2 := ku s2
      replace s3 := ku s3
      replace s7 := ku s7
      replace s139 := ku s139
      replace hz := zz
      clear kk zz Ydz
      refine vq _ (.slice s.ka s.A.length s.kc) (want_g rfl rfl s139) (fun hc v hv => ex_ld rfl (ev s140 hc) (ldK8 (cell8 ((HS.bel hbr).cell 8 _ rfl) hv))) rfl hz (by decide) (fun Yd1 zz kk s141 => ?_)
      replace s2 := ku s2
      replace s3 := ku s3
      replace s7 := ku s7
      replace s139 := ku s139
      replace hz := zz
      clear kk zz s140 Yd0
      refine vq _ _ (want_g rfl rfl s139) (fun hc v hv => ex_move rfl (ev s7 rfl)) rfl hz (by decide) (fun Yd2 zz kk s142 => ?_)
      replace s2 := ku s2
      replace s3 := ku s3
      replace s7 := ku s7
      replace s139 := ku s139
      replace s141 := ku s141
      replace hz := zz
      clear kk zz Yd1
      refine vq _ (.pointer (some ⟨q, o + i * 4, none⟩)) (want_g rfl rfl s139) (fun hc v hv => ex_ix rfl (ev s141 hc) (ev s142 hc) (by rw [hqa]; exact ix9Ak q o s.A.length s.kc i hit _)) rfl hz (by decide) (fun Yd3 zz kk s143 => ?_)
      replace s2 := ku s2
      replace s3 := ku s3
      replace s7 := ku s7
      replace s139 := ku s139
      replace hz := zz
      clear kk zz s141 s142 Yd2
      refine vq _ (.pointer (some ⟨q, o + i * 4 + 3, none⟩)) (want_g rfl rfl s139) (fun hc v hv => ex_fa rfl (ev s143 hc) (fa2Ak _ _ _)) rfl hz (by decide) (fun Yd4 zz kk s144 => ?_)
      replace s2 := ku s2
      replace s3 := ku s3
      replace s7 := ku s7
      replace s139 := ku s139
      replace hz := zz
      clear kk zz s143 Yd3
      refine vq _ (.int .i64 x.p) (want_g rfl rfl s139) (fun hc v hv => ex_ld rfl (ev s144 hc) (ldI8 (cell8 e1 hv))) rfl hz (by decide) (fun Yd5 zz kk s145 => ?_)
      replace s2 := ku s2
      replace s3 := ku s3
      replace s7 := ku s7
      replace s139 := ku s139
      replace hz := zz
      clear kk zz s144 Yd4
      refine vq _ (.pointer (some ⟨w.heap.size + 1, 4, none⟩)) (want_g rfl rfl s139) (fun hc v hv => ex_fa rfl (ev s3 rfl) (faS4 _ _)) rfl hz (by decide) (fun Yd6 zz kk s146 => ?_)
      replace s2 := ku s2
      replace s3 := ku s3
      replace s7 := ku s7
      replace s139 := ku s139
      replace s145 := ku s145
      replace hz := zz
      clear kk zz Yd5
      refine vq _ (.slice s.la s.L.length s.lc) (want_g rfl rfl s139) (fun hc v hv => ex_ld rfl (ev s146 hc) (ldE8 (cell8 ((HS.bel hbr).cell 4 _ rfl) hv))) rfl hz (by decide) (fun Yd7 zz kk s147 => ?_)
      replace s2 := ku s2
      replace s3 := ku s3
      replace s7 := ku s7
      replace s139 := ku s139
      replace s145 := ku s145
      replace hz := zz
      clear kk zz s146 Yd6
      refine vq _ (.int .i64 (s.L.length : Int)) (want_g rfl rfl s139) (fun hc v hv => ex_lenE8 rfl rfl (ev s147 hc)) rfl hz (by decide) (fun Yd8 zz kk s148 => ?_)
      replace s2 := ku s2
      replace s3 := ku s3
      replace s7 := ku s7
      replace s139 := ku s139
      replace s145 := ku s145
      replace hz := zz
      clear kk zz s147 Yd7
      refine vq _ (.bool (decide ((s.L.length : Int) < x.p))) (want_g rfl rfl s139) (fun hc v hv => ex_bin rfl (ev s145 hc) (ev s148 hc) (gtrC _ _ _ _ _)) rfl hz (by decide) (fun Yd9 zz kk s149 => ?_)
      replace s2 := ku s2
      replace s3 := ku s3
      replace s7 := ku s7
      replace s139 := ku s139
      replace hz := zz
      clear kk zz s145 s148 Yd8
      refine vq true (.bool ((decide (x.p < 1)) || (decide ((s.L.length : Int) < x.p)))) (want_none rfl) (fun hc v hv => ex_or rfl s139 s149 rfl) rfl hz (by decide) (fun Yea zz kk s150 => ?_)
      replace s2 := ku s2
      replace s3 := ku s3
      replace s7 := ku s7
      replace hz := zz
      clear kk zz s139 s149 Yd9
      refine vq_nil (fun x11 hx11 => ?_)
      have hb8 := hbr.trans (hx11.mono hzr)
      go_upto_region 13 with fail
      cases eb : rkb9 s x
      rotate_left
      · refine wp_cond_true ((ev s150 rfl).trans (congrArg Value.bool eb)) ?_
        go_upto_region 13 with fail
        refine wp_region_lit ?_
        refine vt (.bool false) (ex_assign rfl rfl) hz (fun Yeb zz kk s4 => ?_)
        replace hz := zz
        clear kk zz s2 s3 s7
        refine wpList_nil ?_
        go_wp2
        refine bodyPost_ret (results_tmp rfl _ _ _) rfl ⟨?_, hB.trans (hb8.mono (by omega))⟩
        rw [getD_of s4]
        unfold Sta.mayB9
        rw [e76, e1s, eg, any_bad9 hxi eb]
        rfl
      refine wp_cond_false ((ev s150 rfl).trans (congrArg Value.bool eb)) ?_
      clear s150
      go_upto_region 11 with fail
      refine wp_region_lit ?_
      refine vt _ (ex_move rfl (ev s7 rfl)) hz (fun Yec zz kk s130 => ?_)
      replace s2 := ku s2
      replace s3 := ku s3
      replace s7 := ku s7
      replace hz := zz
      clear kk zz
      refine vt (.int .i64 ((i + 1 : Nat) : Int)) (ex_bin rfl (ev s130 rfl) rfl (addD8 _ _ _ 1 ((i + 1 : Nat) : Int) (by rw [IntKind.wrap_i64]; omega) _)) hz (fun Yed zz kk s131 => ?_)
      replace s2 := ku s2
      replace s3 := ku s3
      replace s7 := ku s7
      replace hz := zz
      clear kk zz s130 Yec
      refine vt _ (ex_assign rfl (ev s131 rfl)) hz (fun Yee zz kk s7x => ?_)
      replace s2 := ku s2
      replace s3 := ku s3
      clear kk hz s131 s7
      have hz := zz
      have s7 := s7x
      clear zz s7x Yed
      refine wpList_nil ?_
      exact ⟨_, rfl, by omega, hz, s2, s3, s7, hb8, fun k y hk hy => by
        by_cases e : k = i
        · subst e; rw [hxi] at hy; cases hy; exact eb
        · exact HJ.out.2 k y (by omega) hy⟩
    · have d1 : decide ((i : Int) < (s.A.length : Int)) = false := decide_eq_false (by omega)
      go_upto_region 10 with fail
      refine wp_region_lit ?_
      refine vt _ (ex_move rfl (ev s7 rfl)) hz (fun Yef zz kk s125 => ?_)
      replace s3 := ku s3
      replace hz := zz
      clear kk zz s2 s7
      refine vt (.pointer (some ⟨w.heap.size + 1, 8, none⟩)) (ex_fa rfl (ev s3 rfl) (faS8 _ _)) hz (fun Yeg zz kk s126 => ?_)
      replace s125 := ku s125
      replace hz := zz
      clear kk zz s3 Yef
      refine vt (.slice s.ka s.A.length s.kc) (ex_ld rfl (ev s126 rfl) (ldK8 (cell8 (HS.cell 8 _ rfl) hbr))) hz (fun Yeh zz kk s127 => ?_)
      replace s125 := ku s125
      replace hz := zz
      clear kk zz s126 Yeg
      refine vt (.int .i64 (s.A.length : Int)) (ex_lenK8 rfl rfl (ev s127 rfl)) hz (fun Yei zz kk s128 => ?_)
      replace s125 := ku s125
      replace hz := zz
      clear kk zz s127 Yeh
      refine vt (.bool false) (ex_bin rfl (ev s125 rfl) (ev s128 rfl) (lssD8 _ _ _ _ false d1 _)) hz (fun Yej zz kk s129 => ?_)
      replace hz := zz
      clear kk zz s125 s128 Yei
      refine wpList_nil ?_
      go_upto_region 14 with fail
      refine wp_cond_false ((ev s129 rfl).trans rfl) ?_
      clear s129 d1
      go_upto_region 14 with fail
      refine wp_region_lit ?_
      refine vt (.bool true) (ex_assign rfl rfl) hz (fun Yek zz kk s4 => ?_)
      replace hz := zz
      clear kk zz
      refine wpList_nil ?_
      go_wp2
      refine bodyPost_ret (results_tmp rfl _ _ _) rfl ⟨?_, hB.trans (hbr.mono (by omega))⟩
      rw [getD_of s4]
      unfold Sta.mayB9
      rw [e76, e1s, eg, any_ok9 (fun k x hk hx => HJ.out.2 k x (by omega) hx)]
      rfl
  refine wp_cond_false ((ev s86 rfl).trans (congrArg Value.bool e1s)) ?_
  clear s86
  go_upto_region 15 with fail
  refine wp_region_lit ?_
  refine vt (.bool (decide (s.st = 2))) (ex_bin rfl (ev s85 rfl) rfl (eqlC _ _ _ _ _)) hz (fun Yel zz kk s152 => ?_)
  replace s2 := ku s2
  replace s3 := ku s3
  replace s5 := ku s5
  replace s6 := ku s6
  replace s85 := ku s85
  replace hz := zz
  clear kk zz
  refine vt _ (ex_assign rfl (ev s152 rfl)) hz (fun Yem zz kk s151 => ?_)
  replace s2 := ku s2
  replace s3 := ku s3
  replace s5 := ku s5
  replace s6 := ku s6
  replace s85 := ku s85
  replace hz := zz
  clear kk zz s152 Yel
  refine wpList_nil ?_
  go_upto_region 16 with fail
  cases e2s : decide (s.st = 2)
  rotate_left
  · refine wp_cond_true ((ev s151 rfl).trans (congrArg Value.bool e2s)) ?_
    clear s151
    go_upto_region 16 with fail
    refine wp_region_lit ?_
    refine vt (.pointer (some ⟨w.heap.size + 1, 3, none⟩)) (ex_fa rfl (ev s3 rfl) (faS3 _ _)) hz (fun Yen zz kk s153 => ?_)
    replace s2 := ku s2
    replace s3 := ku s3
    replace s6 := ku s6
    replace hz := zz
    clear kk zz s5 s85
    refine vt (.int .i64 s.last) (ex_ld rfl (ev s153 rfl) (ldI8 (cell8 (HS.cell 3 _ rfl) hx4))) hz (fun Yeo zz kk s154 => ?_)
    replace s2 := ku s2
    replace s3 := ku s3
    replace s6 := ku s6
    replace hz := zz
    clear kk zz s153 Yen
    refine vt (.pointer (some ⟨w.heap.size + 1, 2, none⟩)) (ex_fa rfl (ev s3 rfl) (faS2 _ _)) hz (fun Yep zz kk s155 => ?_)
    replace s2 := ku s2
    replace s3 := ku s3
    replace s6 := ku s6
    replace s154 := ku s154
    replace hz := zz
    clear kk zz Yeo
    refine vt (.int .i64 s.view) (ex_ld rfl (ev s155 rfl) (ldI8 (cell8 (HS.cell 2 _ rfl) hx4))) hz (fun Yeq zz kk s156 => ?_)
    replace s2 := ku s2
    replace s3 := ku s3
    replace s6 := ku s6
    replace s154 := ku s154
    replace hz := zz
    clear kk zz s155 Yep
    refine vt (.bool (decide (s.last = s.view))) (ex_bin rfl (ev s154 rfl) (ev s156 rfl) (eqlC _ _ _ _ _)) hz (fun Yer zz kk s157 => ?_)
    replace s2 := ku s2
    replace s3 := ku s3
    replace s6 := ku s6
    replace hz := zz
    clear kk zz s154 s156 Yeq
    refine vt _ (ex_move rfl (ev s157 rfl)) hz (fun Yes zz kk s158 => ?_)
    replace s2 := ku s2
    replace s3 := ku s3
    replace s6 := ku s6
    replace hz := zz
    clear kk zz s157 Yer
    refine vl _ (.pointer (some ⟨w.heap.size + 1, 8, none⟩)) (want_g rfl rfl s158) (fun hc => ex_fa rfl (ev s3 rfl) (faS8 _ _)) rfl hz (by decide) (fun Yet zz kk s159 => ?_)
    replace s2 := ku s2
    replace s3 := ku s3
    replace s6 := ku s6
    replace s158 := ku s158
    replace hz := zz
    clear kk zz Yes
    refine vl _ (.slice s.ka s.A.length s.kc) (want_g rfl rfl s158) (fun hc => ex_ld rfl (ev s159 hc) (ldK8 (cell8 (HS.cell 8 _ rfl) hx4))) rfl hz (by decide) (fun Yeu zz kk s160 => ?_)
    replace s2 := ku s2
    replace s3 := ku s3
    replace s6 := ku s6
    replace s158 := ku s158
    replace hz := zz
    clear kk zz s159 Yet
    refine vl _ (.int .i64 (s.A.length : Int)) (want_g rfl rfl s158) (fun hc => ex_lenK8 rfl rfl (ev s160 hc)) rfl hz (by decide) (fun Yev zz kk s161 => ?_)
    replace s2 := ku s2
    replace s3 := ku s3
    replace s6 := ku s6
    replace s158 := ku s158
    replace hz := zz
    clear kk zz s160 Yeu
    refine vl _ (.pointer (some ⟨w.heap.size + 1, 11, none⟩)) (want_g rfl rfl s158) (fun hc => ex_fa rfl (ev s3 rfl) (faS11 _ _)) rfl hz (by decide) (fun Yew zz kk s162 => ?_)
    replace s2 := ku s2
    replace s3 := ku s3
    replace s6 := ku s6
    replace s158 := ku s158
    replace s161 := ku s161
    replace hz := zz
    clear kk zz Yev
    refine vl _ (.slice s.na s.N.length s.nc) (want_g rfl rfl s158) (fun hc => ex_ld rfl (ev s162 hc) (ldN8 (cell8 (HS.cell 11 _ rfl) hx4))) rfl hz (by decide) (fun Yex zz kk s163 => ?_)
    replace s2 := ku s2
    replace s3 := ku s3
    replace s6 := ku s6
    replace s158 := ku s158
    replace s161 := ku s161
    replace hz := zz
    clear kk zz s162 Yew
    refine vl _ (.int .i64 (s.N.length : Int)) (want_g rfl rfl s158) (fun hc => ex_lenN8 rfl rfl (ev s163 hc)) rfl hz (by decide) (fun Yey zz kk s164 => ?_)
    replace s2 := ku s2
    replace s3 := ku s3
    replace s6 := ku s6
    replace s158 := ku s158
    replace s161 := ku s161
    replace hz := zz
    clear kk zz s163 Yex
    refine vl _ (.int .i64 ((s.A.length : Int) + (s.N.length : Int))) (want_g rfl rfl s158) (fun hc => ex_bin rfl (ev s161 hc) (ev s164 hc) (addD8 _ _ (s.A.length : Int) (s.N.length : Int) ((s.A.length : Int) + (s.N.length : Int)) (by rw [IntKind.wrap_i64]; omega) _)) rfl hz (by decide) (fun Yez zz kk s165 => ?_)
    replace s2 := ku s2
    replace s3 := ku s3
    replace s6 := ku s6
    replace s158 := ku s158
    replace hz := zz
    clear kk zz s161 s164 Yey
    refine vl _ (.bool (decide (0 < ((s.A.length : Int) + (s.N.length : Int))))) (want_g rfl rfl s158) (fun hc => ex_bin rfl (ev s165 hc) rfl (gtrC _ _ _ _ _)) rfl hz (by decide) (fun Ye0 zz kk s166 => ?_)
    replace s2 := ku s2
    replace s3 := ku s3
    replace s6 := ku s6
    replace s158 := ku s158
    replace hz := zz
    clear kk zz s165 Yez
    refine vt (.bool ((decide (s.last = s.view)) || (decide (0 < ((s.A.length : Int) + (s.N.length : Int)))))) (ex_or rfl s158 s166 rfl) hz (fun Ye1 zz kk s167 => ?_)
    replace s2 := ku s2
    replace s3 := ku s3
    replace s6 := ku s6
    replace hz := zz
    clear kk zz s158 s166 Ye0
    refine vt _ (ex_move rfl (ev s167 rfl)) hz (fun Ye2 zz kk s168 => ?_)
    replace s2 := ku s2
    replace s3 := ku s3
    replace s6 := ku s6
    replace hz := zz
    clear kk zz s167 Ye1
    refine vl _ _ (want_g rfl rfl s168) (fun hc => ex_move rfl (ev s6 rfl)) rfl hz (by decide) (fun Ye3 zz kk s169 => ?_)
    replace s2 := ku s2
    replace s3 := ku s3
    replace s168 := ku s168
    replace hz := zz
    clear kk zz s6 Ye2
    refine vl _ (.bool (!(decide (s.self = (s.view % c.nd))))) (want_g rfl rfl s168) (fun hc => ex_not rfl (ev s169 hc)) rfl hz (by decide) (fun Ye4 zz kk s170 => ?_)
    replace s2 := ku s2
    replace s3 := ku s3
    replace s168 := ku s168
    replace hz := zz
    clear kk zz s169 Ye3
    refine vl _ _ (want_g rfl rfl s168) (fun hc => ex_move rfl (ev s170 hc)) rfl hz (by decide) (fun Ye5 zz kk s171 => ?_)
    replace s2 := ku s2
    replace s3 := ku s3
    replace s168 := ku s168
    replace hz := zz
    clear kk zz s170 Ye4
    refine vl ((true && (((decide (s.last = s.view)) || (decide (0 < ((s.A.length : Int) + (s.N.length : Int))))) == false)) && ((!(decide (s.self = (s.view % c.nd)))) == true)) (.pointer (some ⟨w.heap.size + 1, 10, none⟩)) (want_g rfl rfl s171) (fun hc => ex_fa rfl (ev s3 rfl) (faS10 _ _)) rfl hz (by decide) (fun Ye6 zz kk s172 => ?_)
    replace s2 := ku s2
    replace s3 := ku s3
    replace s168 := ku s168
    replace s171 := ku s171
    replace hz := zz
    clear kk zz Ye5
    refine vl ((true && (((decide (s.last = s.view)) || (decide (0 < ((s.A.length : Int) + (s.N.length : Int))))) == false)) && ((!(decide (s.self = (s.view % c.nd)))) == true)) (.slice s.ba s.B.length s.bc) (want_g rfl rfl s171) (fun hc => ex_ld rfl (ev s172 hc) (ldB8 (cell8 (HS.cell 10 _ rfl) hx4))) rfl hz (by decide) (fun Ye7 zz kk s173 => ?_)
    replace s2 := ku s2
    replace s3 := ku s3
    replace s168 := ku s168
    replace s171 := ku s171
    replace hz := zz
    clear kk zz s172 Ye6
    refine vl ((true && (((decide (s.last = s.view)) || (decide (0 < ((s.A.length : Int) + (s.N.length : Int))))) == false)) && ((!(decide (s.self = (s.view % c.nd)))) == true)) (.int .i64 (s.B.length : Int)) (want_g rfl rfl s171) (fun hc => ex_lenB8 rfl rfl (ev s173 hc)) rfl hz (by decide) (fun Ye8 zz kk s174 => ?_)
    replace s2 := ku s2
    replace s3 := ku s3
    replace s168 := ku s168
    replace s171 := ku s171
    replace hz := zz
    clear kk zz s173 Ye7
    refine vl ((true && (((decide (s.last = s.view)) || (decide (0 < ((s.A.length : Int) + (s.N.length : Int))))) == false)) && ((!(decide (s.self = (s.view % c.nd)))) == true)) (.bool (decide (0 < (s.B.length : Int)))) (want_g rfl rfl s171) (fun hc => ex_bin rfl (ev s174 hc) rfl (gtrC _ _ _ _ _)) rfl hz (by decide) (fun Ye9 zz kk s175 => ?_)
    replace s2 := ku s2
    replace s3 := ku s3
    replace s168 := ku s168
    replace s171 := ku s171
    replace hz := zz
    clear kk zz s174 Ye8
    refine vl _ (.bool ((!(decide (s.self = (s.view % c.nd)))) && (decide (0 < (s.B.length : Int))))) (want_g rfl rfl s168) (fun hc => ex_and rfl s171 s175 hc) rfl hz (by decide) (fun Yfa zz kk s176 => ?_)
    replace s2 := ku s2
    replace s3 := ku s3
    replace s168 := ku s168
    replace hz := zz
    clear kk zz s171 s175 Ye9
    refine vt (.bool (((decide (s.last = s.view)) || (decide (0 < ((s.A.length : Int) + (s.N.length : Int))))) || ((!(decide (s.self = (s.view % c.nd)))) && (decide (0 < (s.B.length : Int)))))) (ex_or rfl s168 s176 rfl) hz (fun Yfb zz kk s177 => ?_)
    replace s2 := ku s2
    replace s3 := ku s3
    replace hz := zz
    clear kk zz s168 s176 Yfa
    refine vt _ (ex_move rfl (ev s177 rfl)) hz (fun Yfc zz kk s178 => ?_)
    replace s2 := ku s2
    replace s3 := ku s3
    replace hz := zz
    clear kk zz s177 Yfb
    refine vl _ (.pointer (some ⟨w.heap.size + 1, 10, none⟩)) (want_g rfl rfl s178) (fun hc => ex_fa rfl (ev s3 rfl) (faS10 _ _)) rfl hz (by decide) (fun Yfd zz kk s179 => ?_)
    replace s2 := ku s2
    replace s3 := ku s3
    replace s178 := ku s178
    replace hz := zz
    clear kk zz Yfc
    refine vl _ (.slice s.ba s.B.length s.bc) (want_g rfl rfl s178) (fun hc => ex_ld rfl (ev s179 hc) (ldB8 (cell8 (HS.cell 10 _ rfl) hx4))) rfl hz (by decide) (fun Yfe zz kk s180 => ?_)
    replace s2 := ku s2
    replace s3 := ku s3
    replace s178 := ku s178
    replace hz := zz
    clear kk zz s179 Yfd
    refine vl _ (.int .i64 (s.B.length : Int)) (want_g rfl rfl s178) (fun hc => ex_lenB8 rfl rfl (ev s180 hc)) rfl hz (by decide) (fun Yff zz kk s181 => ?_)
    replace s2 := ku s2
    replace s3 := ku s3
    replace s178 := ku s178
    replace hz := zz
    clear kk zz s180 Yfe
    refine vl _ (.pointer (some ⟨w.heap.size, 0, none⟩)) (want_g rfl rfl s178) (fun hc => ex_fa rfl (ev s2 rfl) (faC0 _ _)) rfl hz (by decide) (fun Yfg zz kk s182 => ?_)
    replace s2 := ku s2
    replace s3 := ku s3
    replace s178 := ku s178
    replace s181 := ku s181
    replace hz := zz
    clear kk zz Yff
    refine vl _ (.int .i64 c.F) (want_g rfl rfl s178) (fun hc => ex_ld rfl (ev s182 hc) (ldI8 (cell8 (HC.cell 0 _ rfl) hx4))) rfl hz (by decide) (fun Yfh zz kk s183 => ?_)
    replace s2 := ku s2
    replace s3 := ku s3
    replace s178 := ku s178
    replace s181 := ku s181
    replace hz := zz
    clear kk zz s182 Yfg
    refine vl _ (.bool (decide (c.F ≤ (s.B.length : Int)))) (want_g rfl rfl s178) (fun hc => ex_bin rfl (ev s181 hc) (ev s183 hc) (geqC _ _ _ _ _)) rfl hz (by decide) (fun Yfi zz kk s184 => ?_)
    replace s2 := ku s2
    replace s3 := ku s3
    replace s178 := ku s178
    replace hz := zz
    clear kk zz s181 s183 Yfh
    refine vt (.bool ((((decide (s.last = s.view)) || (decide (0 < ((s.A.length : Int) + (s.N.length : Int))))) || ((!(decide (s.self = (s.view % c.nd)))) && (decide (0 < (s.B.length : Int))))) || (decide (c.F ≤ (s.B.length : Int))))) (ex_or rfl s178 s184 rfl) hz (fun Yfj zz kk s185 => ?_)
    replace s2 := ku s2
    replace s3 := ku s3
    replace hz := zz
    clear kk zz s178 s184 Yfi
    refine wpList_nil ?_
    go_upto_region 17 with fail
    cases eg : s.mc9 c
    rotate_left
    · refine wp_cond_true ((ev s185 rfl).trans (congrArg Value.bool eg)) ?_
      go_upto_region 17 with fail
      refine wp_region_lit ?_
      refine vt (.bool false) (ex_assign rfl rfl) hz (fun Yfk zz kk s4 => ?_)
      replace hz := zz
      clear kk zz s2 s3
      refine wpList_nil ?_
      go_wp2
      refine bodyPost_ret (results_tmp rfl _ _ _) rfl ⟨?_, hB.trans (hx4.mono (by omega))⟩
      rw [getD_of s4]
      unfold Sta.mayB9
      rw [e76, e1s, e2s, eg]
      rfl
    refine wp_cond_false ((ev s185 rfl).trans (congrArg Value.bool eg)) ?_
    clear s185
    go_upto_region 18 with fail
    refine wp_region_lit ?_
    refine vt (.int .i64 0) (ex_assign rfl rfl) hz (fun Yfl zz kk s8 => ?_)
    replace s2 := ku s2
    replace s3 := ku s3
    replace hz := zz
    clear kk zz
    refine wpList_nil ?_
    have hsv : _ = some (gw true (.int .i64 ((0 : Nat) : Int))) := s8
    go_upto_region 19 with fail
    refine v_loop 8 s.B.length (fun i T wr => T.size = 223 ∧ T[2]? = some (gw true (.pointer (some ⟨w.heap.size, 0, none⟩))) ∧ T[3]? = some (gw true (.pointer (some ⟨w.heap.size + 1, 0, none⟩))) ∧ T[8]? = some (gw true (.int .i64 (i : Int))) ∧ Hid (Below x3.heap.size x3 wr ∧ ∀ k x, k < i → s.B[k]? = some x → rbb9 c s x = false)) (fun i T w h => h.2.2.2.1) ⟨hz, s2, s3, hsv, hx4, fun k x hk => absurd hk (Nat.not_lt_zero _)⟩ ?_
    clear hz s2 s3 s8 hsv
    intro i R0 wr hi hh
    obtain ⟨hz, s2, s3, s8, HJ⟩ := hh
    have hbr := HJ.out.1
    have hzr := hbr.size
    by_cases hit : i < s.B.length
    · have d1 : decide ((i : Int) < (s.B.length : Int)) = true := decide_eq_true (by omega)
      go_upto_region 19 with fail
      refine wp_region_lit ?_
      refine vt _ (ex_move rfl (ev s8 rfl)) hz (fun Yfm zz kk s186 => ?_)
      replace s2 := ku s2
      replace s3 := ku s3
      replace s8 := ku s8
      replace hz := zz
      clear kk zz
      refine vt (.pointer (some ⟨w.heap.size + 1, 10, none⟩)) (ex_fa rfl (ev s3 rfl) (faS10 _ _)) hz (fun Yfn zz kk s187 => ?_)
      replace s2 := ku s2
      replace s3 := ku s3
      replace s8 := ku s8
      replace s186 := ku s186
      replace hz := zz
      clear kk zz Yfm
      refine vt (.slice s.ba s.B.length s.bc) (ex_ld rfl (ev s187 rfl) (ldB8 (cell8 (HS.cell 10 _ rfl) hbr))) hz (fun Yfo zz kk s188 => ?_)
      replace s2 := ku s2
      replace s3 := ku s3
      replace s8 := ku s8
      replace s186 := ku s186
      replace hz := zz
      clear kk zz s187 Yfn
      refine vt (.int .i64 (s.B.length : Int)) (ex_lenB8 rfl rfl (ev s188 rfl)) hz (fun Yfp zz kk s189 => ?_)
      replace s2 := ku s2
      replace s3 := ku s3
      replace s8 := ku s8
      replace s186 := ku s186
      replace hz := zz
      clear kk zz s188 Yfo
      refine vt (.bool true) (ex_bin rfl (ev s186 rfl) (ev s189 rfl) (lssD8 _ _ _ _ true d1 _)) hz (fun Yfq zz kk s190 => ?_)
      replace s2 := ku s2
      replace s3 := ku s3
      replace s8 := ku s8
      replace hz := zz
      clear kk zz s186 s189 Yfp
      refine wpList_nil ?_
      go_upto_region 21 with fail
      refine wp_cond_true ((ev s190 rfl).trans rfl) ?_
      clear s190 d1
      obtain ⟨x, hxi⟩ : ∃ x, s.B[i]? = some x := ⟨_, List.getElem?_eq_getElem hit⟩
      have hmem := List.mem_of_getElem? hxi
      obtain ⟨q, o, hqa, hq, hl⟩ := (HI.b.later hbr).place (by intro e; rw [e] at hit; simp at hit)
      obtain ⟨y1, hy1⟩ : ∃ y, y = wr.alloc (.cells zBl9.cs.toArray 59) := ⟨_, rfl⟩
      have hb : Below wr.heap.size wr y1 := by rw [hy1]; exact (Below.refl _ _).alloc (Nat.le_refl _) _
      have HA : BX7 y1 wr.heap.size zBl9.cs := by rw [hy1]; exact BX7.new _ _ _
      go_upto_region 21 with fail
      refine wp_region_lit ?_
      refine vt (.pointer (some ⟨w.heap.size + 1, 10, none⟩)) (ex_fa rfl (ev s3 rfl) (faS10 _ _)) hz (fun Yfr zz kk s193 => ?_)
      replace s2 := ku s2
      replace s3 := ku s3
      replace s8 := ku s8
      replace hz := zz
      clear kk zz
      refine vt (.slice s.ba s.B.length s.bc) (ex_ld rfl (ev s193 rfl) (ldB8 (cell8 (HS.cell 10 _ rfl) hbr))) hz (fun Yfs zz kk s194 => ?_)
      replace s2 := ku s2
      replace s3 := ku s3
      replace s8 := ku s8
      replace hz := zz
      clear kk zz s193 Yfr
      refine vt _ (ex_move rfl (ev s8 rfl)) hz (fun Yft zz kk s195 => ?_)
      replace s2 := ku s2
      replace s3 := ku s3
      replace s8 := ku s8
      replace s194 := ku s194
      replace hz := zz
      clear kk zz Yfs
      refine vt (.pointer (some ⟨q, o + i * 6, none⟩)) (ex_ix rfl (ev s194 rfl) (ev s195 rfl) (by rw [hqa]; exact ix9Bl q o s.B.length s.bc i hit _)) hz (fun Yfu zz kk s196 => ?_)
      replace s2 := ku s2
      replace s3 := ku s3
      replace s8 := ku s8
      replace hz := zz
      clear kk zz s194 s195 Yft
      refine vt (x.val) (ex_ld rfl (ev s196 rfl) (ldBl9 (fun k u hu => hl i x hxi k u hu))) hz (fun Yfv zz kk s197 => ?_)
      replace s2 := ku s2
      replace s3 := ku s3
      replace s8 := ku s8
      replace hz := zz
      clear kk zz s196 Yfu
      refine vw (.pointer (some ⟨wr.heap.size, 0, none⟩)) y1 (want_none rfl) (ex_al rfl (by rw [hy1]; exact alBl9 _)) rfl hz (by decide) (fun Yfw zz kk s9 => ?_)
      replace s2 := ku s2
      replace s3 := ku s3
      replace s8 := ku s8
      replace s197 := ku s197
      replace hz := zz
      clear kk zz Yfv
      refine vs (sets y1 wr.heap.size 0 x.cs) (want_none rfl) (ex_st rfl (ev s9 rfl) (ev s197 rfl) (stBl9 HA x)) rfl ?_
      have HP := putBl9 HA x
      have UP := upBl9 y1 wr.heap.size x
      obtain ⟨y2, hy2⟩ : ∃ v, v = sets y1 wr.heap.size 0 x.cs := ⟨_, rfl⟩
      rw [← hy2] at HP UP ⊢
      have hby : Below wr.heap.size wr y2 := hb.trans (UP.below hb.size (fun k hk => by omega))
      have hbx := hbr.trans (hby.mono hzr)
      clear hy2 hy1 HA UP hb hl
      have hzy := hbx.size
      clear s197
      refine wpList_nil ?_
      have HC2 := HC.bel hbx
      have HS2 := HS.bel hbx
      have xin := (HI.bl x hmem)
      have hxL := xin.1.later hbx
      have hvy : Below y2.heap.size y2 y2 := Below.refl _ _
      go_upto_region 22 with fail
      refine wp_region_lit ?_
      refine vt (.pointer (some ⟨wr.heap.size, 3, none⟩)) (ex_fa rfl (ev s9 rfl) (fb2Bl _ _)) hz (fun Yfx zz kk s198 => ?_)
      replace s2 := ku s2
      replace s3 := ku s3
      replace s8 := ku s8
      replace s9 := ku s9
      replace hz := zz
      clear kk zz
      refine vt (.int .i64 x.v) (ex_ld rfl (ev s198 rfl) (ldI8 (cell8 (HP.cell 3 _ rfl) hvy))) hz (fun Yfy zz kk s199 => ?_)
      replace s2 := ku s2
      replace s3 := ku s3
      replace s8 := ku s8
      replace s9 := ku s9
      replace hz := zz
      clear kk zz s198 Yfx
      refine vt (.bool (decide (x.v < 0))) (ex_bin rfl (ev s199 rfl) rfl (lssC _ _ _ _ _)) hz (fun Yfz zz kk s200 => ?_)
      replace s2 := ku s2
      replace s3 := ku s3
      replace s8 := ku s8
      replace s9 := ku s9
      replace hz := zz
      clear kk zz s199 Yfy
      refine vt _ (ex_move rfl (ev s200 rfl)) hz (fun Yf0 zz kk s201 => ?_)
      replace s2 := ku s2
      replace s3 := ku s3
      replace s8 := ku s8
      replace s9 := ku s9
      replace hz := zz
      clear kk zz s200 Yfz
      refine vl _ (.pointer (some ⟨wr.heap.size, 3, none⟩)) (want_g rfl rfl s201) (fun hc => ex_fa rfl (ev s9 rfl) (fb2Bl _ _)) rfl hz (by decide) (fun Yf1 zz kk s202 => ?_)
      replace s2 := ku s2
      replace s3 := ku s3
      replace s8 := ku s8
      replace s9 := ku s9
      replace s201 := ku s201
      replace hz := zz
      clear kk zz Yf0
      refine vl _ (.int .i64 x.v) (want_g rfl rfl s201) (fun hc => ex_ld rfl (ev s202 hc) (ldI8 (cell8 (HP.cell 3 _ rfl) hvy))) rfl hz (by decide) (fun Yf2 zz kk s203 => ?_)
      replace s2 := ku s2
      replace s3 := ku s3
      replace s8 := ku s8
      replace s9 := ku s9
      replace s201 := ku s201
      replace hz := zz
      clear kk zz s202 Yf1
      refine vl _ (.pointer (some ⟨w.heap.size + 1, 2, none⟩)) (want_g rfl rfl s201) (fun hc => ex_fa rfl (ev s3 rfl) (faS2 _ _)) rfl hz (by decide) (fun Yf3 zz kk s204 => ?_)
      replace s2 := ku s2
      replace s3 := ku s3
      replace s8 := ku s8
      replace s9 := ku s9
      replace s201 := ku s201
      replace s203 := ku s203
      replace hz := zz
      clear kk zz Yf2
      refine vl _ (.int .i64 s.view) (want_g rfl rfl s201) (fun hc => ex_ld rfl (ev s204 hc) (ldI8 (cell8 (HS2.cell 2 _ rfl) hvy))) rfl hz (by decide) (fun Yf4 zz kk s205 => ?_)
      replace s2 := ku s2
      replace s3 := ku s3
      replace s8 := ku s8
      replace s9 := ku s9
      replace s201 := ku s201
      replace s203 := ku s203
      replace hz := zz
      clear kk zz s204 Yf3
      refine vl _ (.bool (decide (s.view ≤ x.v))) (want_g rfl rfl s201) (fun hc => ex_bin rfl (ev s203 hc) (ev s205 hc) (geqC _ _ _ _ _)) rfl hz (by decide) (fun Yf5 zz kk s206 => ?_)
      replace s2 := ku s2
      replace s3 := ku s3
      replace s8 := ku s8
      replace s9 := ku s9
      replace s201 := ku s201
      replace hz := zz
      clear kk zz s203 s205 Yf4
      refine vt (.bool ((decide (x.v < 0)) || (decide (s.view ≤ x.v)))) (ex_or rfl s201 s206 rfl) hz (fun Yf6 zz kk s207 => ?_)
      replace s2 := ku s2
      replace s3 := ku s3
      replace s8 := ku s8
      replace s9 := ku s9
      replace hz := zz
      clear kk zz s201 s206 Yf5
      refine vt _ (ex_move rfl (ev s207 rfl)) hz (fun Yf7 zz kk s208 => ?_)
      replace s2 := ku s2
      replace s3 := ku s3
      replace s8 := ku s8
      replace s9 := ku s9
      replace hz := zz
      clear kk zz s207 Yf6
      refine vl _ (c.val) (want_g rfl rfl s208) (fun hc => ex_ld rfl (ev s2 rfl) (CB7.ld (HC2.bel hvy))) rfl hz (by decide) (fun Yf8 zz kk s209 => ?_)
      replace s2 := ku s2
      replace s3 := ku s3
      replace s8 := ku s8
      replace s9 := ku s9
      replace s208 := ku s208
      replace hz := zz
      clear kk zz Yf7
      refine vl _ (.pointer (some ⟨wr.heap.size, 5, none⟩)) (want_g rfl rfl s208) (fun hc => ex_fa rfl (ev s9 rfl) (fb4Bl _ _)) rfl hz (by decide) (fun Yf9 zz kk s210 => ?_)
      replace s2 := ku s2
      replace s3 := ku s3
      replace s8 := ku s8
      replace s9 := ku s9
      replace s208 := ku s208
      replace s209 := ku s209
      replace hz := zz
      clear kk zz Yf8
      refine vl _ (.slice x.s.a x.s.D.length x.s.c) (want_g rfl rfl s208) (fun hc => ex_ld rfl (ev s210 hc) (ldE8 (cell8 (HP.cell 5 _ rfl) hvy))) rfl hz (by decide) (fun Yga zz kk s211 => ?_)
      replace s2 := ku s2
      replace s3 := ku s3
      replace s8 := ku s8
      replace s9 := ku s9
      replace s208 := ku s208
      replace s209 := ku s209
      replace hz := zz
      clear kk zz s210 Yf9
      refine vl _ (.pointer (some ⟨wr.heap.size, 4, none⟩)) (want_g rfl rfl s208) (fun hc => ex_fa rfl (ev s9 rfl) (fb3Bl _ _)) rfl hz (by decide) (fun Ygb zz kk s212 => ?_)
      replace s2 := ku s2
      replace s3 := ku s3
      replace s8 := ku s8
      replace s208 := ku s208
      replace s209 := ku s209
      replace s211 := ku s211
      replace hz := zz
      clear kk zz s9 Yga
      refine vl _ (.int .i64 x.c) (want_g rfl rfl s208) (fun hc => ex_ld rfl (ev s212 hc) (ldI8 (cell8 (HP.cell 4 _ rfl) hvy))) rfl hz (by decide) (fun Ygc zz kk s213 => ?_)
      replace s2 := ku s2
      replace s3 := ku s3
      replace s8 := ku s8
      replace s208 := ku s208
      replace s209 := ku s209
      replace s211 := ku s211
      replace hz := zz
      clear kk zz s212 Ygb
      refine vcall (true && (((decide (x.v < 0)) || (decide (s.view ≤ x.v))) == false)) (.bool (lgB9 c x.s.D x.c)) (want_g rfl rfl s208) (fun hc => ex_call rfl (by simp only [List.map_toArray, List.map_cons, List.map_nil, (ev s209 hc), (ev s211 hc), (ev s213 hc), evc] <;> rfl) rfl) (fun hc => rlogged9 c x.s.D x.s.a x.s.c x.c y2 (hxL.later hvy) (hF.be x hmem)) rfl hz (by decide) (fun Ygd x31 hb zz kk s214 => ?_)
      have hx31 := hvy.trans (hb.mono hvy.size)
      clear hb
      replace s2 := ku s2
      replace s3 := ku s3
      replace s8 := ku s8
      replace s208 := ku s208
      replace hz := zz
      clear kk zz s209 s211 s213 Ygc
      refine vl _ (.bool (!(lgB9 c x.s.D x.c))) (want_g rfl rfl s208) (fun hc => ex_not rfl (ev s214 hc)) rfl hz (by decide) (fun Yge zz kk s215 => ?_)
      replace s2 := ku s2
      replace s3 := ku s3
      replace s8 := ku s8
      replace s208 := ku s208
      replace hz := zz
      clear kk zz s214 Ygd
      refine vt (.bool (((decide (x.v < 0)) || (decide (s.view ≤ x.v))) || (!(lgB9 c x.s.D x.c)))) (ex_or rfl s208 s215 rfl) hz (fun Ygf zz kk s216 => ?_)
      replace s2 := ku s2
      replace s3 := ku s3
      replace s8 := ku s8
      replace hz := zz
      clear kk zz s208 s215 Yge
      refine wpList_nil ?_
      have hb8 := hbx.trans (hx31.mono hbx.size)
      go_upto_region 23 with fail
      cases eb : rbb9 c s x
      rotate_left
      · refine wp_cond_true ((ev s216 rfl).trans (congrArg Value.bool eb)) ?_
        go_upto_region 23 with fail
        refine wp_region_lit ?_
        refine vt (.bool false) (ex_assign rfl rfl) hz (fun Ygg zz kk s4 => ?_)
        replace hz := zz
        clear kk zz s2 s3 s8
        refine wpList_nil ?_
        go_wp2
        refine bodyPost_ret (results_tmp rfl _ _ _) rfl ⟨?_, hB.trans (hb8.mono (by omega))⟩
        rw [getD_of s4]
        unfold Sta.mayB9
        rw [e76, e1s, e2s, eg, any_bad9 hxi eb]
        rfl
      refine wp_cond_false ((ev s216 rfl).trans (congrArg Value.bool eb)) ?_
      clear s216
      go_upto_region 20 with fail
      refine wp_region_lit ?_
      refine vt _ (ex_move rfl (ev s8 rfl)) hz (fun Ygh zz kk s191 => ?_)
      replace s2 := ku s2
      replace s3 := ku s3
      replace s8 := ku s8
      replace hz := zz
      clear kk zz
      refine vt (.int .i64 ((i + 1 : Nat) : Int)) (ex_bin rfl (ev s191 rfl) rfl (addD8 _ _ _ 1 ((i + 1 : Nat) : Int) (by rw [IntKind.wrap_i64]; omega) _)) hz (fun Ygi zz kk s192 => ?_)
      replace s2 := ku s2
      replace s3 := ku s3
      replace s8 := ku s8
      replace hz := zz
      clear kk zz s191 Ygh
      refine vt _ (ex_assign rfl (ev s192 rfl)) hz (fun Ygj zz kk s8x => ?_)
      replace s2 := ku s2
      replace s3 := ku s3
      clear kk hz s192 s8
      have hz := zz
      have s8 := s8x
      clear zz s8x Ygi
      refine wpList_nil ?_
      exact ⟨_, rfl, by omega, hz, s2, s3, s8, hb8, fun k y hk hy => by
        by_cases e : k = i
        · subst e; rw [hxi] at hy; cases hy; exact eb
        · exact HJ.out.2 k y (by omega) hy⟩
    · have d1 : decide ((i : Int) < (s.B.length : Int)) = false := decide_eq_false (by omega)
      go_upto_region 19 with fail
      refine wp_region_lit ?_
      refine vt _ (ex_move rfl (ev s8 rfl)) hz (fun Ygk zz kk s186 => ?_)
      replace s3 := ku s3
      replace hz := zz
      clear kk zz s2 s8
      refine vt (.pointer (some ⟨w.heap.size + 1, 10, none⟩)) (ex_fa rfl (ev s3 rfl) (faS10 _ _)) hz (fun Ygl zz kk s187 => ?_)
      replace s186 := ku s186
      replace hz := zz
      clear kk zz s3 Ygk
      refine vt (.slice s.ba s.B.length s.bc) (ex_ld rfl (ev s187 rfl) (ldB8 (cell8 (HS.cell 10 _ rfl) hbr))) hz (fun Ygm zz kk s188 => ?_)
      replace s186 := ku s186
      replace hz := zz
      clear kk zz s187 Ygl
      refine vt (.int .i64 (s.B.length : Int)) (ex_lenB8 rfl rfl (ev s188 rfl)) hz (fun Ygn zz kk s189 => ?_)
      replace s186 := ku s186
      replace hz := zz
      clear kk zz s188 Ygm
      refine vt (.bool false) (ex_bin rfl (ev s186 rfl) (ev s189 rfl) (lssD8 _ _ _ _ false d1 _)) hz (fun Ygo zz kk s190 => ?_)
      replace hz := zz
      clear kk zz s186 s189 Ygn
      refine wpList_nil ?_
      go_upto_region 24 with fail
      refine wp_cond_false ((ev s190 rfl).trans rfl) ?_
      clear s190 d1
      go_upto_region 24 with fail
      refine wp_region_lit ?_
      refine vt (.bool true) (ex_assign rfl rfl) hz (fun Ygp zz kk s4 => ?_)
      replace hz := zz
      clear kk zz
      refine wpList_nil ?_
      go_wp2
      refine bodyPost_ret (results_tmp rfl _ _ _) rfl ⟨?_, hB.trans (hbr.mono (by omega))⟩
      rw [getD_of s4]
      unfold Sta.mayB9
      rw [e76, e1s, e2s, eg, any_ok9 (fun k x hk hx => HJ.out.2 k x (by omega) hx)]
      rfl
  refine wp_cond_false ((ev s151 rfl).trans (congrArg Value.bool e2s)) ?_
  clear s151
  go_upto_region 25 with fail
  refine wp_region_lit ?_
  refine vt (.bool (decide (s.st = 3))) (ex_bin rfl (ev s85 rfl) rfl (eqlC _ _ _ _ _)) hz (fun Ygq zz kk s218 => ?_)
  replace s2 := ku s2
  replace s3 := ku s3
  replace s5 := ku s5
  replace s6 := ku s6
  replace s85 := ku s85
  replace hz := zz
  clear kk zz
  refine vt _ (ex_assign rfl (ev s218 rfl)) hz (fun Ygr zz kk s217 => ?_)
  replace s2 := ku s2
  replace s3 := ku s3
  replace s5 := ku s5
  replace s6 := ku s6
  replace s85 := ku s85
  replace hz := zz
  clear kk zz s218 Ygq
  refine wpList_nil ?_
  go_upto_region 26 with fail
  cases e3s : decide (s.st = 3)
  rotate_left
  · refine wp_cond_true ((ev s217 rfl).trans (congrArg Value.bool e3s)) ?_
    clear s217
    go_upto_region 26 with fail
    refine wp_region_lit ?_
    refine vt (c.val) (ex_ld rfl (ev s2 rfl) (CB7.ld (HC.bel hx4))) hz (fun Ygs zz kk s219 => ?_)
    replace s3 := ku s3
    replace s5 := ku s5
    replace hz := zz
    clear kk zz s2 s6 s85
    refine vt (s.val) (ex_ld rfl (ev s3 rfl) (SB7.ld (HS.bel hx4))) hz (fun Ygt zz kk s220 => ?_)
    replace s5 := ku s5
    replace s219 := ku s219
    replace hz := zz
    clear kk zz s3 Ygs
    refine vt _ (ex_move rfl (ev s5 rfl)) hz (fun Ygu zz kk s221 => ?_)
    replace s219 := ku s219
    replace s220 := ku s220
    replace hz := zz
    clear kk zz s5 Ygt
    refine vcall true (.bool (s.rc9 c c.nd)) (want_none rfl) (fun hc => ex_call rfl (by simp only [List.map_toArray, List.map_cons, List.map_nil, (ev s219 rfl), (ev s220 rfl), (ev s221 rfl), evc] <;> rfl) rfl) (fun hc => rrecovering9 c s c.nd x4 (HI.later hx4) hF ⟨by omega, by omega⟩ ⟨by omega, by omega⟩ ⟨by omega, by omega⟩ ⟨by omega, by omega⟩ ⟨by omega, by omega⟩ ⟨by omega, by omega⟩) rfl hz (by decide) (fun Ygv x61 hb zz kk s222 => ?_)
    have hx61 := hx4.trans (hb.mono hx4.size)
    clear hb
    replace hz := zz
    clear kk zz s219 s220 s221 Ygu
    refine vt _ (ex_assign rfl (ev s222 rfl)) hz (fun Ygw zz kk s4 => ?_)
    replace hz := zz
    clear kk zz s222 Ygv
    refine wpList_nil ?_
    go_wp2
    refine bodyPost_ret (results_tmp rfl _ _ _) rfl ⟨?_, hB.trans (hx61.mono (by omega))⟩
    rw [getD_of s4]
    unfold Sta.mayB9
    rw [e76, e1s, e2s, e3s]
    rfl
  refine wp_cond_false ((ev s217 rfl).trans (congrArg Value.bool e3s)) ?_
  clear s217
  go_upto_region 27 with fail
  refine wp_region_lit ?_
  refine vt (.bool false) (ex_assign rfl rfl) hz (fun Ygx zz kk s4 => ?_)
  replace hz := zz
  clear kk zz s2 s3 s5 s6 s85
  refine wpList_nil ?_
  go_wp2
  refine bodyPost_ret (results_tmp rfl _ _ _) rfl ⟨?_, hB.trans (hx4.mono (by omega))⟩
  rw [getD_of s4]
  unfold Sta.mayB9
  rw [e76, e1s, e2s, e3s]
  rfl
set_option maxHeartbeats 1000000 in
theorem rcheck9 (c : Cg) (s : Sta) (w : World) (hI : s.In w) (hF : s.Fit) : Calls Tryz.prog 16 #[c.val, s.val] w fun e w' => e = .returned (.int .i64 (s.rk9 c)) ∧ Below w.heap.size w w' := by
  go_enter Tryz.func16, Tryz.ntmps16
  go_upto_region 0 with fail
  refine wp_region_lit ?_
  refine vl_gen (fun T => T.size = 17 ∧ T[0]? = some (gw true (c.val)) ∧ T[1]? = some (gw true (s.val))) ⟨rfl, rfl, rfl⟩ (fun Z0 ⟨hz, s0, s1⟩ => ?_)
  obtain ⟨w1, hw1⟩ : ∃ y, y = w.alloc (.cells c.cs.toArray 23) := ⟨_, rfl⟩
  have hb : Below w.heap.size w w1 := by rw [hw1]; exact (Below.refl _ _).alloc (Nat.le_refl _) _
  have hs1 : w1.heap.size = w.heap.size + 1 := by rw [hw1]; simp
  have HC : CB7 w1 (w.heap.size) c := by rw [hw1]; exact BX7.new _ _ _
  refine vw (.pointer (some ⟨w.heap.size, 0, none⟩)) w1 (want_none rfl) (ex_box8 rfl (ev s0 rfl) (by rw [hw1]; exact bxC7 _ _)) rfl hz (by decide) (fun Z1 zz kk s2x => ?_)
  replace s1 := ku s1
  clear kk hz s0 hw1
  have hz := zz
  have s2 := s2x
  clear zz s2x
  have hB := hb
  clear hb
  obtain ⟨w2, hw2⟩ : ∃ y, y = w1.alloc (.cells s.cs.toArray 33) := ⟨_, rfl⟩
  have hb : Below w1.heap.size w1 w2 := by rw [hw2]; exact (Below.refl _ _).alloc (Nat.le_refl _) _
  have hs2 : w2.heap.size = w.heap.size + 2 := by rw [hw2]; simp; omega
  have HS : SB7 w2 (w.heap.size + 1) s := by rw [hw2, ← hs1]; exact BX7.new _ _ _
  refine vw (.pointer (some ⟨w.heap.size + 1, 0, none⟩)) w2 (want_none rfl) (ex_box8 rfl (ev s1 rfl) (by rw [hw2, ← hs1]; exact bxS7 _ _)) rfl hz (by decide) (fun Z2 zz kk s3x => ?_)
  replace s2 := ku s2
  clear kk hz s1 hw2
  have hz := zz
  have s3 := s3x
  clear zz s3x
  have hB := hB.trans (hb.mono (by omega))
  have HC := HC.bel hb
  clear hb
  have hv0 : Below w2.heap.size w2 w2 := Below.refl _ _
  have HI := hI.later hB
  refine vt (.int .i64 0) (ex_assign rfl rfl) hz (fun Ya zz kk s4 => ?_)
  replace s2 := ku s2
  replace s3 := ku s3
  replace hz := zz
  clear kk zz
  clear s4
  refine wpList_nil ?_
  go_upto_region 1 with fail
  refine wp_region_lit ?_
  refine vt (c.val) (ex_ld rfl (ev s2 rfl) (CB7.ld (HC.bel hv0))) hz (fun Yb zz kk s6 => ?_)
  replace s2 := ku s2
  replace s3 := ku s3
  replace hz := zz
  clear kk zz
  refine vcall true (.int .i64 c.er) (want_none rfl) (fun hc => ex_call rfl (by simp only [List.map_toArray, List.map_cons, List.map_nil, (ev s6 rfl), evc] <;> rfl) rfl) (fun hc => rcheckconfig9 c w2) rfl hz (by decide) (fun Yc x1 hb zz kk s7 => ?_)
  have hx1 := hv0.trans (hb.mono hv0.size)
  clear hb
  replace s2 := ku s2
  replace s3 := ku s3
  replace hz := zz
  clear kk zz s6 Yb
  refine vt _ (ex_assign rfl (ev s7 rfl)) hz (fun Yd zz kk s5 => ?_)
  replace s2 := ku s2
  replace s3 := ku s3
  replace hz := zz
  clear kk zz s7 Yc
  refine wpList_nil ?_
  go_upto_region 2 with fail
  refine wp_region_lit ?_
  refine vt _ (ex_move rfl (ev s5 rfl)) hz (fun Ye zz kk s8 => ?_)
  replace s2 := ku s2
  replace s3 := ku s3
  replace s5 := ku s5
  replace hz := zz
  clear kk zz
  refine vt (.bool (decide (c.er = 0))) (ex_bin rfl (ev s8 rfl) rfl (eqlC _ _ _ _ _)) hz (fun Yf zz kk s9 => ?_)
  replace s2 := ku s2
  replace s3 := ku s3
  replace s5 := ku s5
  replace hz := zz
  clear kk zz s8 Ye
  refine vt _ (ex_move rfl (ev s9 rfl)) hz (fun Yg zz kk s10 => ?_)
  replace s2 := ku s2
  replace s3 := ku s3
  replace s5 := ku s5
  replace hz := zz
  clear kk zz s9 Yf
  refine vl _ (c.val) (want_g rfl rfl s10) (fun hc => ex_ld rfl (ev s2 rfl) (CB7.ld (HC.bel hx1))) rfl hz (by decide) (fun Yh zz kk s11 => ?_)
  replace s2 := ku s2
  replace s3 := ku s3
  replace s5 := ku s5
  replace s10 := ku s10
  replace hz := zz
  clear kk zz Yg
  refine vl _ (s.val) (want_g rfl rfl s10) (fun hc => ex_ld rfl (ev s3 rfl) (SB7.ld (HS.bel hx1))) rfl hz (by decide) (fun Yi zz kk s12 => ?_)
  replace s2 := ku s2
  replace s3 := ku s3
  replace s5 := ku s5
  replace s10 := ku s10
  replace s11 := ku s11
  replace hz := zz
  clear kk zz Yh
  refine vcall (true && ((decide (c.er = 0)) == true)) (.bool (s.mayB9 c)) (want_g rfl rfl s10) (fun hc => ex_call rfl (by simp only [List.map_toArray, List.map_cons, List.map_nil, (ev s11 hc), (ev s12 hc), evc] <;> rfl) rfl) (fun hc => rmay9 c s x1 (HI.later hx1) hF (ok_er9 (by simpa using hc))) rfl hz (by decide) (fun Yj x2 hb zz kk s13 => ?_)
  have hx2 := hx1.trans (hb.mono hx1.size)
  clear hb
  replace s2 := ku s2
  replace s3 := ku s3
  replace s5 := ku s5
  replace s10 := ku s10
  replace hz := zz
  clear kk zz s11 s12 Yi
  refine vl _ (.bool (!(s.mayB9 c))) (want_g rfl rfl s10) (fun hc => ex_not rfl (ev s13 hc)) rfl hz (by decide) (fun Yk zz kk s14 => ?_)
  replace s2 := ku s2
  replace s3 := ku s3
  replace s5 := ku s5
  replace s10 := ku s10
  replace hz := zz
  clear kk zz s13 Yj
  refine vt (.bool ((decide (c.er = 0)) && (!(s.mayB9 c)))) (ex_and rfl s10 s14 rfl) hz (fun Yl zz kk s15 => ?_)
  replace s2 := ku s2
  replace s3 := ku s3
  replace s5 := ku s5
  replace hz := zz
  clear kk zz s10 s14 Yk
  refine wpList_nil ?_
  go_upto_region 3 with fail
  have hB8 := hB.trans (hx2.mono (by omega))
  have ee : (((decide (c.er = 0)) && (!(s.mayB9 c)))) = (c.okB && !s.mayB9 c) := by rw [show decide (c.er = 0) = c.okB from Cg.er_eq c]
  refine v_cond8 (fun T w9 => T.size = 17 ∧ T[5]? = some (gw true (.int .i64 (s.rk9 c))) ∧ Below w.heap.size w w9) s15 (fun hu => ?_) (fun hu => ⟨hz, ?_, hB8⟩) ?_
  · clear s15
    go_upto_region 3 with fail
    refine wp_region_lit ?_
    refine vt (.int .i64 2) (ex_assign rfl rfl) hz (fun Ym zz kk s5x => ?_)
    clear kk hz s2 s3 s5
    have hz := zz
    have s5 := s5x
    clear zz s5x
    refine wpList_nil ?_
    refine ⟨_, rfl, hz, ?_, hB8⟩
    rw [s5, show s.rk9 c = 2 from by rw [ee] at hu; simp at hu; unfold Sta.rk9; rw [hu.1, hu.2]; rfl]
  · rw [s5, show s.rk9 c = c.er from by rw [ee] at hu; unfold Sta.rk9 Cg.er; revert hu; cases c.okB <;> cases s.mayB9 c <;> intro hu <;> first | rfl | cases hu]
  · clear hz s2 s3 s5 s15
    intro T9 w9 hJ
    obtain ⟨hz, s5, hB9⟩ := hJ
    go_upto_region 4 with fail
    refine wp_region_lit ?_
    refine vt _ (ex_move rfl (ev s5 rfl)) hz (fun Yn zz kk s16 => ?_)
    replace hz := zz
    clear kk zz s5
    refine vt _ (ex_assign rfl (ev s16 rfl)) hz (fun Yo zz kk s4 => ?_)
    replace hz := zz
    clear kk zz s16 Yn
    refine wpList_nil ?_
    have HB9 := hide hB9
    clear hB9
    go_wp2
    refine bodyPost_ret (results_tmp rfl _ _ _) rfl ⟨?_, HB9.out⟩
    rw [getD_of s4]
    rfl
end Go.Proofs.YtphdnmamopgelaaGreat
