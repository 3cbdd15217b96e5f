import Derived.Test.YtphdnmamopgelaaGreatW9
set_option maxRecDepth 100000
set_option linter.unusedVariables false
set_option linter.unusedSimpArgs false
namespace Go.Proofs.YtphdnmamopgelaaGreat
open Go.RowKit Go.Maps Go.Shelf
open Classical
theorem nil_sl8 {α : Type} (Y : Lay α) (w : World) : SlY Y w none 0 0 [] := ⟨rfl, Nat.le_refl _, Nat.zero_le _, fun _ => ⟨rfl, rfl⟩, fun x h => by cases h⟩
theorem zS8_in (w : World) : zS8.In w := ⟨nil_sl8 _ _, nil_sl8 _ _, nil_sl8 _ _, nil_sl8 _ _, nil_sl8 _ _, nil_sl8 _ _, (fun x h => by cases h), (fun x h => by cases h)⟩
theorem Sta.Kn.later8 {t : Sta} {B : Nat} {s : Sta} {D : List (Int × Int)} {w w' : World} (h : t.Kn B s D w) (hb : Below w.heap.size w w') : t.Kn B s D w' :=
  ⟨h.self, h.st, h.view, h.last, h.commit, h.idle, h.l, h.v, h.a, h.m, h.b.bel hb, h.n.bel hb, h.inn.later hb⟩
theorem Sta.In.idle8 {t : Sta} {w : World} (h : t.In w) {i : Int} : ({ t with idle := i } : Sta).In w := ⟨h.l, h.v, h.a, h.m, h.b, h.n, h.bl, h.nl⟩
def still8 (c : Cg) (s : Sta) : Bool := decide (s.st = 3) || (decide (s.st = 1) && decide (s.self = c.pr s.view))
def wtI8 (c : Cg) (s : Sta) : Int := if still8 c s = true then s.idle else (s.idle + 1) % c.P
def Wt8 (B : Nat) (c : Cg) (s t : Sta) (b : Bool) (w : World) : Prop :=
  (s.ckE c ≠ 0 ∧ t = zS8 ∧ b = false) ∨ (s.ckE c = 0 ∧ ∃ t0 : Sta, t0.Kn B s s.V w ∧ t0.Lo B ∧ t = { t0 with idle := wtI8 c s } ∧ b = (!still8 c s && decide (wtI8 c s = 0)))
theorem ck_idle8 {c : Cg} {s : Sta} (h : s.ckE c = 0) : c.okB = true ∧ 0 ≤ s.idle ∧ s.idle < c.P := by
  unfold Sta.ckE at h
  cases hok : c.okB with
  | false => rw [hok] at h; simp at h
  | true =>
    rw [hok] at h
    cases hs : s.stB c with
    | false => rw [hs] at h; simp at h
    | true =>
      simp only [Sta.stB, Bool.and_eq_true] at hs
      have hn := hs.1.1.1
      simp only [Sta.numB, Bool.and_eq_true, inB_iff] at hn
      have := hn.2
      exact ⟨rfl, by omega, by omega⟩
set_option maxHeartbeats 1000000 in
theorem wait8 (c : Cg) (s : Sta) (w : World) (hI : s.In w) (hF : s.Fit) : Calls Tryz.prog 4 #[c.val, s.val] w fun e w' => ∃ (t : Sta) (b : Bool), e = .returned (.tuple #[t.val, .bool b, .int .i64 (s.ckE c)]) ∧ t.In w' ∧ Wt8 w.heap.size c s t b w' ∧ Below w.heap.size w w' := by
  go_enter Tryz.func4, Tryz.ntmps4
  go_upto_region 0 with fail
  refine wp_region_lit ?_
  refine vl_gen (fun T => T.size = 37 ∧ T[0]? = some (gw true (c.val)) ∧ T[1]? = some (gw true (s.val))) ⟨rfl, rfl, rfl⟩ (fun Z0 ⟨hz, s0, s1⟩ => ?_)
  obtain ⟨w1, hw1⟩ : ∃ y, y = w.alloc (.cells c.cs.toArray 23) := ⟨_, rfl⟩
  have hb : Below w.heap.size w w1 := by rw [hw1]; exact (Below.refl _ _).alloc (Nat.le_refl _) _
  have hs1 : w1.heap.size = w.heap.size + 1 := by rw [hw1]; simp
  have HC : CB7 w1 (w.heap.size) c := by rw [hw1]; exact BX7.new _ _ _
  refine vw (.pointer (some ⟨w.heap.size, 0, none⟩)) w1 (want_none rfl) (ex_box8 rfl (ev s0 rfl) (by rw [hw1]; exact bxC7 _ _)) rfl hz (by decide) (fun Z1 zz kk s2x => ?_)
  replace s1 := ku s1
  clear kk hz s0 hw1
  have hz := zz
  have s2 := s2x
  clear zz s2x
  have hB := hb
  clear hb
  obtain ⟨w2, hw2⟩ : ∃ y, y = w1.alloc (.cells s.cs.toArray 33) := ⟨_, rfl⟩
  have hb : Below w1.heap.size w1 w2 := by rw [hw2]; exact (Below.refl _ _).alloc (Nat.le_refl _) _
  have hs2 : w2.heap.size = w.heap.size + 2 := by rw [hw2]; simp; omega
  have HS : SB7 w2 (w.heap.size + 1) s := by rw [hw2, ← hs1]; exact BX7.new _ _ _
  refine vw (.pointer (some ⟨w.heap.size + 1, 0, none⟩)) w2 (want_none rfl) (ex_box8 rfl (ev s1 rfl) (by rw [hw2, ← hs1]; exact bxS7 _ _)) rfl hz (by decide) (fun Z2 zz kk s3x => ?_)
  replace s2 := ku s2
  clear kk hz s1 hw2
  have hz := zz
  have s3 := s3x
  clear zz s3x
  have hB := hB.trans (hb.mono (by omega))
  have HC := HC.bel hb
  clear hb
  have hv0 : Below w2.heap.size w2 w2 := Below.refl _ _
  obtain ⟨w3, hw3⟩ : ∃ y, y = w2.alloc (.cells zS8.cs.toArray 33) := ⟨_, rfl⟩
  have hb : Below w2.heap.size w2 w3 := by rw [hw3]; exact (Below.refl _ _).alloc (Nat.le_refl _) _
  have HZ : SB7 w3 (w.heap.size + 2) zS8 := by rw [hw3, ← hs2]; exact BX7.new _ _ _
  have hz3 : w3.heap.size = w.heap.size + 3 := by rw [hw3]; simp; omega
  refine vw (.pointer (some ⟨w.heap.size + 2, 0, none⟩)) w3 (want_none rfl) (ex_al rfl (by rw [hw3, ← hs2]; exact al12 _)) rfl hz (by decide) (fun Ya zz kk s4 => ?_)
  replace s2 := ku s2
  replace s3 := ku s3
  replace hz := zz
  clear kk zz
  refine vt (.bool false) (ex_assign rfl rfl) hz (fun Yb zz kk s5 => ?_)
  replace s2 := ku s2
  replace s3 := ku s3
  replace s4 := ku s4
  replace hz := zz
  clear kk zz Ya
  refine vt (.int .i64 0) (ex_assign rfl rfl) hz (fun Yc zz kk s6 => ?_)
  replace s2 := ku s2
  replace s3 := ku s3
  replace s4 := ku s4
  replace hz := zz
  clear kk zz s5 Yb
  clear s6
  refine wpList_nil ?_
  have hB := hB.trans (hb.mono (by omega))
  have HS := HS.bel hb
  have HC := HC.bel hb
  have HI := hI.later hB
  clear hb hw3 hv0
  have hv0 : Below w3.heap.size w3 w3 := Below.refl _ _
  go_upto_region 1 with fail
  refine wp_region_lit ?_
  refine vt (c.val) (ex_ld rfl (ev s2 rfl) (CB7.ld (HC.bel hv0))) hz (fun Yd zz kk s8 => ?_)
  replace s2 := ku s2
  replace s3 := ku s3
  replace s4 := ku s4
  replace hz := zz
  clear kk zz
  refine vt (s.val) (ex_ld rfl (ev s3 rfl) (SB7.ld (HS.bel hv0))) hz (fun Ye zz kk s9 => ?_)
  replace s2 := ku s2
  replace s3 := ku s3
  replace s4 := ku s4
  replace s8 := ku s8
  replace hz := zz
  clear kk zz Yd
  refine vcall true (.int .i64 (s.ckE c)) (want_none rfl) (fun hc => ex_call rfl (by simp only [List.map_toArray, List.map_cons, List.map_nil, (ev s8 rfl), (ev s9 rfl), evc] <;> rfl) rfl) (fun hc => check8 c s w3 (HI.later hv0) hF) rfl hz (by decide) (fun Yf x1 hb zz kk s10 => ?_)
  have hx1 := hv0.trans (hb.mono hv0.size)
  clear hb
  replace s2 := ku s2
  replace s3 := ku s3
  replace s4 := ku s4
  replace hz := zz
  clear kk zz s8 s9 Ye
  refine vt _ (ex_assign rfl (ev s10 rfl)) hz (fun Yg zz kk s7 => ?_)
  replace s2 := ku s2
  replace s3 := ku s3
  replace s4 := ku s4
  replace hz := zz
  clear kk zz s10 Yf
  refine wpList_nil ?_
  go_upto_region 2 with fail
  refine wp_region_lit ?_
  refine vt _ (ex_move rfl (ev s7 rfl)) hz (fun Yh zz kk s11 => ?_)
  replace s2 := ku s2
  replace s3 := ku s3
  replace s4 := ku s4
  replace s7 := ku s7
  replace hz := zz
  clear kk zz
  refine vt (.bool (!decide ((s.ckE c) = 0))) (ex_bin rfl (ev s11 rfl) rfl (neqN8 _ _ _ _ _)) hz (fun Yi zz kk s12 => ?_)
  replace s2 := ku s2
  replace s3 := ku s3
  replace s4 := ku s4
  replace s7 := ku s7
  replace hz := zz
  clear kk zz s11 Yh
  refine wpList_nil ?_
  go_upto_region 3 with fail
  cases e12 : decide (s.ckE c = 0)
  · refine wp_cond_true ((ev s12 rfl).trans (by rw [e12]; rfl)) ?_
    have HZ1 := HZ.bel hx1
    go_upto_region 3 with fail
    refine wp_region_lit ?_
    refine vt (zS8.val) (ex_build rfl (bd12 _)) hz (fun Yj zz kk s13 => ?_)
    replace s4 := ku s4
    replace s7 := ku s7
    replace hz := zz
    clear kk zz s2 s3
    refine vt _ (ex_move rfl (ev s7 rfl)) hz (fun Yk zz kk s14 => ?_)
    replace s4 := ku s4
    replace s13 := ku s13
    replace hz := zz
    clear kk zz s7 Yj
    refine vs (sets x1 (w.heap.size + 2) 0 (Sta.cs zS8)) (want_none rfl) (ex_st rfl (ev s4 rfl) (ev s13 rfl) (st12 HZ1 zS8)) rfl ?_
    have HP := SB7.put HZ1 zS8
    have UP := upd12 x1 (w.heap.size + 2) zS8
    obtain ⟨u9, hu9⟩ : ∃ v, v = sets x1 (w.heap.size + 2) 0 (Sta.cs zS8) := ⟨_, rfl⟩
    rw [← hu9] at HP UP ⊢
    clear hu9
    refine vt (.bool false) (ex_assign rfl rfl) hz (fun Yl zz kk s5 => ?_)
    replace s4 := ku s4
    replace s14 := ku s14
    replace hz := zz
    clear kk zz s13 Yk
    refine vt _ (ex_assign rfl (ev s14 rfl)) hz (fun Ym zz kk s6 => ?_)
    replace s4 := ku s4
    replace s5 := ku s5
    replace hz := zz
    clear kk zz s14 Yl
    refine wpList_nil ?_
    have hB9 := hide ((hB.trans (hx1.mono (by omega))).trans (UP.below (by have := hx1.size; omega) (fun k hk => by omega)))
    go_wp2
    refine bodyPost_ret (results_sta3 rfl (getD_of s4) (getD_of s5) (getD_of s6) HP) rfl ?_
    exact ⟨zS8, false, rfl, zS8_in _, .inl ⟨of_decide_eq_false e12, rfl, rfl⟩, hB9.out⟩
  · refine wp_cond_false ((ev s12 rfl).trans (by rw [e12]; rfl)) ?_
    clear s12 s7
    have hB := hB.trans (hx1.mono (by omega))
    have HS := HS.bel hx1
    have HC := HC.bel hx1
    have HZ := HZ.bel hx1
    have HI := hI.later hB
    have hz4 := hx1.size
    have hv1 : Below x1.heap.size x1 x1 := Below.refl _ _
    go_upto_region 4 with fail
    refine wp_region_lit ?_
    refine vt (s.val) (ex_ld rfl (ev s3 rfl) (SB7.ld (HS.bel hv1))) hz (fun Yn zz kk s15 => ?_)
    replace s2 := ku s2
    replace s3 := ku s3
    replace s4 := ku s4
    replace hz := zz
    clear kk zz
    refine vcallP (want_none rfl) (ex_call rfl (by simp only [List.map_toArray, List.map_cons, List.map_nil, (ev s15 rfl), evc] <;> rfl) rfl) (copied8 s x1 HI hF) rfl hz (by decide) ?_
    rintro e x5 ⟨t, rfl, hk, hlo, bk⟩
    refine ⟨_, rfl, fun Yo zz kk s16 => ?_⟩
    have HS := HS.bel bk
    have HC := HC.bel bk
    have HZ := HZ.bel bk
    have hz5 := bk.size
    have hB := hB.trans (bk.mono (by omega))
    clear bk hv1
    replace s2 := ku s2
    replace s3 := ku s3
    replace s4 := ku s4
    replace hz := zz
    clear kk zz s15 Yn
    refine vs (sets x5 (w.heap.size + 1) 0 t.cs) (want_none rfl) (ex_st rfl (ev s3 rfl) (ev s16 rfl) (st12 HS t)) rfl ?_
    have HT := SB7.put HS t
    have UT := upd12 x5 (w.heap.size + 1) t
    obtain ⟨x6, hx6⟩ : ∃ v, v = sets x5 (w.heap.size + 1) 0 t.cs := ⟨_, rfl⟩
    rw [← hx6] at HT UT ⊢
    clear hx6
    have HC := HC.upd UT (by show ¬ w.heap.size = w.heap.size + 1; omega)
    have HZ := HZ.upd UT (by show ¬ w.heap.size + 2 = w.heap.size + 1; omega)
    have hz6 := UT.size
    have hB := hB.trans (UT.below (by omega) (fun k hk => by omega))
    have hk := hk.set8 UT (by omega) hlo
    clear UT HS
    have hv2 : Below x6.heap.size x6 x6 := Below.refl _ _
    clear s16
    refine wpList_nil ?_
    go_upto_region 5 with fail
    refine wp_region_lit ?_
    refine vt (.pointer (some ⟨w.heap.size + 1, 1, none⟩)) (ex_fa rfl (ev s3 rfl) (faS1 _ _)) hz (fun Yp zz kk s17 => ?_)
    replace s2 := ku s2
    replace s3 := ku s3
    replace s4 := ku s4
    replace hz := zz
    clear kk zz
    refine vt (.int .i64 t.st) (ex_ld rfl (ev s17 rfl) (ldT8 (cell8 (HT.cell 1 _ rfl) hv2))) hz (fun Yq zz kk s18 => ?_)
    replace s2 := ku s2
    replace s3 := ku s3
    replace s4 := ku s4
    replace hz := zz
    clear kk zz s17 Yp
    refine vt (.bool (decide (t.st = 3))) (ex_bin rfl (ev s18 rfl) rfl (eqlT8 _ _ _ _ _)) hz (fun Yr zz kk s19 => ?_)
    replace s2 := ku s2
    replace s3 := ku s3
    replace s4 := ku s4
    replace hz := zz
    clear kk zz s18 Yq
    refine vt _ (ex_move rfl (ev s19 rfl)) hz (fun Ys zz kk s20 => ?_)
    replace s2 := ku s2
    replace s3 := ku s3
    replace s4 := ku s4
    replace hz := zz
    clear kk zz s19 Yr
    refine vl _ (c.val) (want_g rfl rfl s20) (fun hc => ex_ld rfl (ev s2 rfl) (CB7.ld (HC.bel hv2))) rfl hz (by decide) (fun Yt zz kk s21 => ?_)
    replace s2 := ku s2
    replace s3 := ku s3
    replace s4 := ku s4
    replace s20 := ku s20
    replace hz := zz
    clear kk zz Ys
    refine vl _ (t.val) (want_g rfl rfl s20) (fun hc => ex_ld rfl (ev s3 rfl) (SB7.ld (HT.bel hv2))) rfl hz (by decide) (fun Yu zz kk s22 => ?_)
    replace s2 := ku s2
    replace s3 := ku s3
    replace s4 := ku s4
    replace s20 := ku s20
    replace s21 := ku s21
    replace hz := zz
    clear kk zz Yt
    refine vcall (true && ((decide (t.st = 3)) == false)) (.bool (decide (t.st = 1) && decide (t.self = c.pr t.view))) (want_g rfl rfl s20) (fun hc => ex_call rfl (by simp only [List.map_toArray, List.map_cons, List.map_nil, (ev s21 hc), (ev s22 hc), evc] <;> rfl) rfl) (fun hc => leads8 c t x6) rfl hz (by decide) (fun Yv x21 hb zz kk s23 => ?_)
    have hx21 := hv2.trans (hb.mono hv2.size)
    clear hb
    replace s2 := ku s2
    replace s3 := ku s3
    replace s4 := ku s4
    replace s20 := ku s20
    replace hz := zz
    clear kk zz s21 s22 Yu
    refine vt (.bool ((decide (t.st = 3)) || (decide (t.st = 1) && decide (t.self = c.pr t.view)))) (ex_or rfl s20 s23 rfl) hz (fun Yw zz kk s24 => ?_)
    replace s2 := ku s2
    replace s3 := ku s3
    replace s4 := ku s4
    replace hz := zz
    clear kk zz s20 s23 Yv
    refine wpList_nil ?_
    have hB := hB.trans (hx21.mono (by omega))
    have HT := HT.bel hx21
    have HC := HC.bel hx21
    have HZ := HZ.bel hx21
    have hk := hk.later8 hx21
    have hz7 := hx21.size
    have hst : still8 c t = still8 c s := by unfold still8; rw [hk.st, hk.self, hk.view]
    have hv3 : Below x21.heap.size x21 x21 := Below.refl _ _
    go_upto_region 6 with fail
    cases e24 : ((decide (t.st = 3)) || (decide (t.st = 1) && decide (t.self = c.pr t.view)))
    rotate_left
    · refine wp_cond_true ((ev s24 rfl).trans (congrArg Value.bool e24)) ?_
      go_upto_region 6 with fail
      refine wp_region_lit ?_
      refine vt (t.val) (ex_ld rfl (ev s3 rfl) (SB7.ld (HT.bel hv3))) hz (fun Yx zz kk s25 => ?_)
      replace s4 := ku s4
      replace hz := zz
      clear kk zz s2 s3
      refine vs (sets x21 (w.heap.size + 2) 0 (Sta.cs t)) (want_none rfl) (ex_st rfl (ev s4 rfl) (ev s25 rfl) (st12 HZ t)) rfl ?_
      have HP := SB7.put HZ t
      have UP := upd12 x21 (w.heap.size + 2) t
      obtain ⟨u9, hu9⟩ : ∃ v, v = sets x21 (w.heap.size + 2) 0 (Sta.cs t) := ⟨_, rfl⟩
      rw [← hu9] at HP UP ⊢
      clear hu9
      refine vt (.bool false) (ex_assign rfl rfl) hz (fun Yy zz kk s5 => ?_)
      replace s4 := ku s4
      replace hz := zz
      clear kk zz s25 Yx
      refine vt (.int .i64 0) (ex_assign rfl rfl) hz (fun Yz zz kk s6 => ?_)
      replace s4 := ku s4
      replace s5 := ku s5
      replace hz := zz
      clear kk zz Yy
      refine wpList_nil ?_
      have hk := hk.set8 UP (by omega) hlo
      have hB9 := hide (hB.trans (UP.below (by omega) (fun k hk => by omega)))
      go_wp2
      refine bodyPost_ret (results_sta3 rfl (getD_of s4) (getD_of s5) (getD_of s6) HP) rfl ?_
      have hE : s.ckE c = 0 := of_decide_eq_true e12
      rw [hE]
      refine ⟨t, false, rfl, hk.inn, .inr ⟨hE, t, hk.low8 (by omega), hlo.low (by omega), ?_, ?_⟩, hB9.out⟩
      · rw [show wtI8 c s = s.idle from by unfold wtI8; rw [← hst]; exact if_pos e24, ← hk.idle]
      · rw [← hst, show still8 c t = true from e24]; rfl
    refine wp_cond_false ((ev s24 rfl).trans (congrArg Value.bool e24)) ?_
    clear s24
    have hE : s.ckE c = 0 := of_decide_eq_true e12
    obtain ⟨hok, hid⟩ := ck_idle8 hE
    have hP := Cg.P_ok hok
    have hti : t.idle = s.idle := hk.idle
    go_upto_region 7 with fail
    refine wp_region_lit ?_
    refine vt (.pointer (some ⟨w.heap.size + 1, 7, none⟩)) (ex_fa rfl (ev s3 rfl) (faS7 _ _)) hz (fun Y0 zz kk s26 => ?_)
    replace s2 := ku s2
    replace s3 := ku s3
    replace s4 := ku s4
    replace hz := zz
    clear kk zz
    refine vt (.int .i64 t.idle) (ex_ld rfl (ev s26 rfl) (ldI8 (cell8 (HT.cell 7 _ rfl) hv3))) hz (fun Y1 zz kk s27 => ?_)
    replace s2 := ku s2
    replace s3 := ku s3
    replace s4 := ku s4
    replace hz := zz
    clear kk zz s26 Y0
    refine vt (.int .i64 (t.idle + 1)) (ex_bin rfl (ev s27 rfl) rfl (addD8 _ _ t.idle 1 (t.idle + 1) (by rw [IntKind.wrap_i64]; omega) _)) hz (fun Y2 zz kk s28 => ?_)
    replace s2 := ku s2
    replace s3 := ku s3
    replace s4 := ku s4
    replace hz := zz
    clear kk zz s27 Y1
    refine vt (.pointer (some ⟨w.heap.size, 2, none⟩)) (ex_fa rfl (ev s2 rfl) (faC2 _ _)) hz (fun Y3 zz kk s29 => ?_)
    replace s3 := ku s3
    replace s4 := ku s4
    replace s28 := ku s28
    replace hz := zz
    clear kk zz s2 Y2
    refine vt (.int .i64 c.P) (ex_ld rfl (ev s29 rfl) (ldI8 (cell8 (HC.cell 2 _ rfl) hv3))) hz (fun Y4 zz kk s30 => ?_)
    replace s3 := ku s3
    replace s4 := ku s4
    replace s28 := ku s28
    replace hz := zz
    clear kk zz s29 Y3
    refine vt (.int .i64 ((t.idle + 1) % c.P)) (ex_bin rfl (ev s28 rfl) (ev s30 rfl) (remD8 _ _ (t.idle + 1) c.P (by omega) (by omega) (by omega) _)) hz (fun Y5 zz kk s31 => ?_)
    replace s3 := ku s3
    replace s4 := ku s4
    replace hz := zz
    clear kk zz s28 s30 Y4
    refine vt (.pointer (some ⟨w.heap.size + 1, 7, none⟩)) (ex_fa rfl (ev s3 rfl) (faS7 _ _)) hz (fun Y6 zz kk s32 => ?_)
    replace s3 := ku s3
    replace s4 := ku s4
    replace s31 := ku s31
    replace hz := zz
    clear kk zz Y5
    refine vs (x21.setCell ⟨w.heap.size + 1, 7, none⟩ (.int .i64 ((t.idle + 1) % c.P))) (want_none rfl) (ex_st rfl (ev s32 rfl) (ev s31 rfl) (stI8 (HT.cell 7 _ rfl) (HT.free 7) _)) rfl ?_
    have HTn := HT.set (j := 7) (by simp [Sta.cs]) (.int .i64 ((t.idle + 1) % c.P))
    have UT : Upd (fun k => k = w.heap.size + 1) x21 (x21.setCell ⟨w.heap.size + 1, 7, none⟩ (.int .i64 ((t.idle + 1) % c.P))) := (Upd.refl (fun k => k = w.heap.size + 1) _).setCell (p := ⟨w.heap.size + 1, 7, none⟩) (.inl rfl) _
    obtain ⟨x8, hx8⟩ : ∃ v, v = x21.setCell ⟨w.heap.size + 1, 7, none⟩ (.int .i64 ((t.idle + 1) % c.P)) := ⟨_, rfl⟩
    rw [← hx8] at HTn UT ⊢
    clear hx8
    have HZ := HZ.upd UT (by show ¬ w.heap.size + 2 = w.heap.size + 1; omega)
    have hz8 := UT.size
    have hB := hB.trans (UT.below (by omega) (fun k hk => by omega))
    have hk := hk.set8 UT (by omega) hlo
    clear UT HT hv3
    have HT : SB7 x8 (w.heap.size + 1) { t with idle := (t.idle + 1) % c.P } := HTn
    clear HTn
    clear s31 s32
    refine wpList_nil ?_
    have hS : Below x8.heap.size x8 x8.drew := (Below.refl _ _).drew
    have hU : Upd (fun k => k = w.heap.size + 2) x8 x8.drew := Upd.of_below hS
    go_upto_region 8 with fail
    refine vh_start (fun v => Upd (fun k => k = w.heap.size + 2) x8 v) (by kernel_rfl) ?_
    refine vh_take 0 true (Sta.val { t with idle := (t.idle + 1) % c.P }) rfl (by kernel_rfl) (by kernel_rfl) (by kernel_rfl) (want_none rfl) (fun hc v hv => ex_ld rfl (ev s3 rfl) (SB7.ld (HT.upd hv (by show ¬ w.heap.size + 1 = w.heap.size + 2; omega)))) rfl hz (by decide) hU (fun Y7 zz kk s33 => ?_)
    replace s3 := ku s3
    replace s4 := ku s4
    replace hz := zz
    clear kk zz
    refine vh_take 1 true (.pointer (some ⟨w.heap.size + 1, 7, none⟩)) rfl (by kernel_rfl) (by kernel_rfl) (by kernel_rfl) (want_none rfl) (fun hc v hv => ex_fa rfl (ev s3 rfl) (faS7 _ _)) rfl hz (by decide) hU (fun Y8 zz kk s34 => ?_)
    replace s4 := ku s4
    replace s33 := ku s33
    replace hz := zz
    clear kk zz s3 Y7
    refine vh_take 2 true (.int .i64 ((t.idle + 1) % c.P)) rfl (by kernel_rfl) (by kernel_rfl) (by kernel_rfl) (want_none rfl) (fun hc v hv => ex_ld rfl (ev s34 rfl) (ldI8 ((HT.upd hv (by show ¬ w.heap.size + 1 = w.heap.size + 2; omega)).cell 7 _ rfl))) rfl hz (by decide) hU (fun Y9 zz kk s35 => ?_)
    replace s4 := ku s4
    replace s33 := ku s33
    replace hz := zz
    clear kk zz s34 Y8
    refine vh_take 3 true (.bool (decide (((t.idle + 1) % c.P) = 0))) rfl (by kernel_rfl) (by kernel_rfl) (by kernel_rfl) (want_none rfl) (fun hc v hv => ex_bin rfl (ev s35 rfl) rfl (eqlC _ _ _ _ _)) rfl hz (by decide) hU (fun Yba zz kk s36 => ?_)
    replace s4 := ku s4
    replace s33 := ku s33
    replace hz := zz
    clear kk zz s35 Y9
    refine vh_store8 4 (sets x8.drew (w.heap.size + 2) 0 (Sta.cs { t with idle := (t.idle + 1) % c.P })) rfl (by kernel_rfl) (want_none rfl) (ex_st rfl (ev s4 rfl) (ev s33 rfl) (st12 (HZ.bel hS) { t with idle := (t.idle + 1) % c.P })) rfl (hU.trans (upd12 x8.drew (w.heap.size + 2) { t with idle := (t.idle + 1) % c.P })) ?_
    have HP := SB7.put (HZ.bel hS) { t with idle := (t.idle + 1) % c.P }
    have UP := upd12 x8.drew (w.heap.size + 2) { t with idle := (t.idle + 1) % c.P }
    obtain ⟨u9, hu9⟩ : ∃ v, v = sets x8.drew (w.heap.size + 2) 0 (Sta.cs { t with idle := (t.idle + 1) % c.P }) := ⟨_, rfl⟩
    rw [← hu9] at HP UP ⊢
    clear hu9
    have hU := hU.trans UP
    refine vh_take 5 true (.bool (decide (((t.idle + 1) % c.P) = 0))) rfl (by kernel_rfl) (by kernel_rfl) (by kernel_rfl) (want_none rfl) (fun hc v hv => ex_assign rfl (ev s36 rfl)) rfl hz (by decide) hU (fun Ybb zz kk s5 => ?_)
    replace s4 := ku s4
    replace hz := zz
    clear kk zz s33 s36 Yba
    refine vh_take 6 true (.int .i64 0) rfl (by kernel_rfl) (by kernel_rfl) (by kernel_rfl) (want_none rfl) (fun hc v hv => ex_assign rfl rfl) rfl hz (by decide) hU (fun Ybc zz kk s6 => ?_)
    replace s4 := ku s4
    replace s5 := ku s5
    replace hz := zz
    clear kk zz Ybb
    refine vh_done (by kernel_rfl) ?_
    have hk := (hk.later8 hS).set8 UP (by omega) hlo
    have hzd : x8.drew.heap.size = x8.heap.size := rfl
    have hB9 := hide ((hB.trans (hS.mono (by omega))).trans (UP.below (by omega) (fun k hk => by omega)))
    go_wp2
    refine bodyPost_ret (results_sta3 rfl (getD_of s4) (getD_of s5) (getD_of s6) HP) rfl ?_
    rw [hE]
    refine ⟨{ t with idle := (t.idle + 1) % c.P }, _, rfl, hk.inn.idle8, .inr ⟨hE, t, hk.low8 (by omega), hlo.low (by omega), ?_, ?_⟩, hB9.out⟩
    · rw [show wtI8 c s = (s.idle + 1) % c.P from by unfold wtI8; rw [← hst]; exact if_neg (by rw [show still8 c t = false from e24]; decide), hti]
    · rw [show wtI8 c s = (s.idle + 1) % c.P from by unfold wtI8; rw [← hst]; exact if_neg (by rw [show still8 c t = false from e24]; decide), ← hst, show still8 c t = false from e24, hti]; rfl
end Go.Proofs.YtphdnmamopgelaaGreat
namespace Go.Proofs.YtphdnmamopgelaaGreat
open Go.RowKit Go.Maps
open Classical
theorem refentry_any (C N k s : Int) (v : ByteArray) (hf : (⟨k, s, v⟩ : Opn).fits) (w : World) :
    Calls Tryz.prog 113 #[.agg #[.int .i64 C, .int .i64 N, .int .i64 k, .int .i64 s, .string v]] w fun e w' => e = .returned (.int .i64 (ckE ⟨C, N, ⟨k, s, v⟩⟩)) ∧ Below w.heap.size w w' := by
  have cc := fun W => refcheck k s v hf W
  have bA := (Below.refl w.heap.size w).alloc (Nat.le_refl _) (.cells #[.int .i64 C, .int .i64 N, .int .i64 k, .int .i64 s, .string v] 79)
  by_cases h1 : C < 0
  · have hE : Hid (ckE ⟨C, N, ⟨k, s, v⟩⟩ = 62) := by show _ = _; simp [ckE, h1]
    have d1 : decide (C < 0) = true := by simpa using h1
    go_enter Tryz.func113, Tryz.ntmps113
    go_wp2
    go_ret
    exact ⟨ret_int hE.out.symm, bA⟩
  · by_cases h2 : 16 ≤ C
    · have hE : Hid (ckE ⟨C, N, ⟨k, s, v⟩⟩ = 62) := by show _ = _; simp [ckE, h2]
      go_enter Tryz.func113, Tryz.ntmps113
      go_wp2
      go_ret
      exact ⟨ret_int hE.out.symm, bA⟩
    · by_cases h3 : N < 1
      · have hE : Hid (ckE ⟨C, N, ⟨k, s, v⟩⟩ = 63) := by show _ = _; simp [ckE, h1, h2, h3]
        go_enter Tryz.func113, Tryz.ntmps113
        go_wp2
        go_ret
        exact ⟨ret_int hE.out.symm, bA⟩
      · have hE : Hid (ckE ⟨C, N, ⟨k, s, v⟩⟩ = ck k s v) := by show _ = _; simp [ckE, h1, h2, h3]
        generalize ck k s v = x at *
        go_enter Tryz.func113, Tryz.ntmps113
        go_wp2_with (go_at_call 125; refine (cc _).mono ?_; rintro e w2 ⟨rfl, b2⟩)
        go_ret
        exact ⟨ret_int hE.out.symm, bA.trans (b2.mono (by simp))⟩
set_option maxHeartbeats 1000000 in
theorem reflog_any (L : List En) (a : Option Addr) (c : Nat) (room : Int) (w : World) (h : SlY yE w a L.length c L) (hf : ∀ e ∈ L, e.fits) :
    Calls Tryz.prog 82 #[.slice a L.length c, .int .i64 room] w fun e w' => e = .returned (.int .i64 (lg L room)) ∧ Below w.heap.size w w' := by
  have hmx := h.max
  have hcp := h.cap
  unfold maxLen at hmx
  have H := hide h
  have HF := hide hf
  clear h hf
  by_cases hl : room < (L.length : Int)
  · have hE : Hid (lg L room = 60) := by show _ = _; simp [lg, hl]
    go_enter Tryz.func82, Tryz.ntmps82
    go_wp2
    go_ret
    exact ⟨ret_int hE.out.symm, Below.refl _ _⟩
  · have HL : Hid (lg L room = lgA (L.take 0) (L.drop 0)) := by show _ = _; simp [lg, hl]
    go_enter Tryz.func82, Tryz.ntmps82
    go_wp2
    go_loopw [5] (fun i wr => ∃ j : Nat, i = .int .i64 (j : Int) ∧ j ≤ L.length ∧ Hid (lg L room = lgA (L.take j) (L.drop j)) ∧ Below w.heap.size w wr) (fun i _ => L.length - (intOf i).toNat)
    case atStart => exact ⟨0, rfl, Nat.zero_le _, HL, Below.refl _ _⟩
    case round =>
      obtain ⟨j, rfl, hj, hL, hb⟩ := hrel
      by_cases hlt : j < L.length
      · have hg : L[j]? = some L[j] := List.getElem?_eq_getElem hlt
        have hat := lgA_at hg
        have hfj := (HF.out L[j] (List.getElem_mem hlt)).ow
        obtain ⟨q, o, ea, hq, c0, c1, c2, c3, c4⟩ := (H.out.later hb).en hg
        have HE := hide (fun W (hb : Below w.heap.size w W) => (H.out.later hb).en hg)
        generalize hee : L[j] = e at *
        subst ea
        have ce := fun W => refentry_any e.c e.n e.o.k e.o.s e.o.v hfj W
        have hA := hide hat
        clear hat
        have hsz := hb.size
        have her : er (L.take j) e = if ckE e ≠ 0 then ckE e else if tw (L.take j) e then 64 else 0 := rfl
        have hER := hide her
        clear her
        have hx0 : ckE ⟨e.c, e.n, ⟨e.o.k, e.o.s, e.o.v⟩⟩ = ckE e := rfl
        rw [hx0] at ce
        generalize ckE e = x at *
        by_cases hx : x = 0
        · subst hx
          go_wp2_with (go_at_call 113; refine (ce _).mono ?_; rintro r w1 ⟨rfl, b1⟩)
          have hb1 := hb.trans (b1.mono hsz)
          clear c0 c1 c2 c3 c4
          go_loopw [7] (fun i wr => ∃ m : Nat, i = .int .i64 (m : Int) ∧ m ≤ j ∧ Hid (tw (L.take m) e = false) ∧ Below w.heap.size w wr) (fun i _ => j - (intOf i).toNat)
          case atStart => exact ⟨0, rfl, Nat.zero_le _, by show tw _ _ = _; simp [tw], hb1⟩
          case round =>
            obtain ⟨m, rfl, hm, htw, hbm⟩ := hrel
            by_cases hlm : m < j
            · have hgm : L[m]? = some L[m] := List.getElem?_eq_getElem (by omega)
              have hst := tw_take_step (e := e) hgm
              obtain ⟨q2, o2, ea2, hq2, d0, d1, d2, d3, d4⟩ := HE.out wr hbm
              cases ea2
              obtain ⟨q3, o3, ea3, hq3, f0, f1, f2, f3, f4⟩ := (H.out.later hbm).en hgm
              cases ea3
              generalize hpp : L[m] = p at *
              rw [htw.out] at hst
              have hST := hide hst
              clear hst hpp hgm hg hee
              obtain ⟨Ce, Ne, oe⟩ := e
              obtain ⟨Cp, Np, op⟩ := p
              dsimp only at *
              by_cases hc : Cp = Ce
              · subst hc
                by_cases hn : Ne ≤ Np
                · have hE : Hid (lg L room = 64) := by
                    show _ = _
                    have ht := tw_mono (L := L) (show m + 1 ≤ j by omega) (hST.out.trans (by simp [hn]))
                    rw [hL.out, hA.out, hER.out, ht]
                    simp
                  go_wp2
                  go_quiet (fail)
                  go_wp2
                  go_ret
                  exact ⟨ret_int hE.out.symm, belN hbm nq⟩
                · have hT : Hid (tw (L.take (m + 1)) ⟨Cp, Ne, oe⟩ = false) := by show _ = _; rw [hST.out]; simp [hn]
                  have hn' : decide (Ne ≤ Np) = false := by simpa using hn
                  go_wp2
                  go_quiet (fail)
                  go_wp2
                  go_round
                  case rel => exact ⟨m + 1, by go_num, by omega, hT, belN hbm nq⟩
                  case measure => simp [intOf]; omega
              · have hT : Hid (tw (L.take (m + 1)) ⟨Ce, Ne, oe⟩ = false) := by show _ = _; rw [hST.out]; simp [hc]
                have hd : decide (Cp = Ce) = false := by simpa using hc
                have hd2 : (Cp == Ce) = false := by simpa using hc
                go_wp2
                go_quiet (fail)
                go_wp2
                go_round
                case rel => exact ⟨m + 1, by go_num, by omega, hT, belN hbm nq⟩
                case measure => simp [intOf]; omega
            · obtain rfl : m = j := by omega
              have hE : Hid (lg L room = lgA (L.take (m + 1)) (L.drop (m + 1))) := by
                show _ = _
                rw [hL.out, hA.out, hER.out, htw.out]
                simp
              go_wp2
              go_round
              case rel => exact ⟨m + 1, by go_num, by omega, hE, hbm⟩
              case measure => simp [intOf]; omega
        · have hE : Hid (lg L room = x) := by show _ = _; rw [hL.out, hA.out, hER.out]; simp [hx]
          go_wp2_with (go_at_call 113; refine (ce _).mono ?_; rintro r w1 ⟨rfl, b1⟩)
          go_ret
          exact ⟨ret_int hE.out.symm, hb.trans (b1.mono hsz)⟩
      · obtain rfl : j = L.length := by omega
        have hE := hL.out
        rw [lgA_end] at hE
        have hEh := hide hE
        clear hE
        go_wp2
        go_ret
        exact ⟨ret_int hEh.out.symm, hb⟩
theorem ckA_lgA : ∀ (L past : List En), (ckA past L).1 = lgA past L
  | [], past => rfl
  | e :: r, past => by
    unfold ckA lgA
    by_cases h : er past e ≠ 0
    · rw [if_pos h, if_pos h]
    · rw [if_neg h, if_neg h]; exact ckA_lgA r _
theorem chk_lg {r : Int} (h1 : 1 ≤ r) (h2 : r ≤ 256) (L : List En) : (chk L r).1 = lg L r := by
  unfold chk lg
  rw [if_neg (by omega)]
  by_cases h : r < L.length
  · rw [if_pos h, if_pos h]
  · rw [if_neg h, if_neg h]; exact ckA_lgA L []
end Go.Proofs.YtphdnmamopgelaaGreat
namespace Go.Proofs.YtphdnmamopgelaaGreat
open Go.RowKit Go.Maps Go.Shelf
open Classical
theorem okB_eq9 (c : Cg) : c.okB = (((((((decide (1 ≤ c.F)) && (decide (c.F ≤ 3))) && (decide (1 ≤ c.R))) && (decide (c.R ≤ 256))) && (decide (6 ≤ c.P))) && (decide (c.P ≤ 100)))) := by
  unfold Cg.okB inB
  simp only [Bool.and_assoc]
def lgB9 (c : Cg) (L : List En) (x : Int) : Bool := (decide (lg L c.R = 0) && decide (0 ≤ x)) && decide (x ≤ (L.length : Int))
set_option maxHeartbeats 1000000 in
theorem rconfig9 (c : Cg) (w : World)  : Calls Tryz.prog 47 #[c.val] w fun e w' => e = .returned (.bool c.okB) ∧ Below w.heap.size w w' := by
  go_enter Tryz.func47, Tryz.ntmps47
  go_upto_region 0 with fail
  refine wp_region_lit ?_
  refine vl_gen (fun T => T.size = 31 ∧ T[0]? = some (gw true (c.val))) ⟨rfl, rfl⟩ (fun Z0 ⟨hz, s0⟩ => ?_)
  obtain ⟨w1, hw1⟩ : ∃ y, y = w.alloc (.cells c.cs.toArray 23) := ⟨_, rfl⟩
  have hb : Below w.heap.size w w1 := by rw [hw1]; exact (Below.refl _ _).alloc (Nat.le_refl _) _
  have hs1 : w1.heap.size = w.heap.size + 1 := by rw [hw1]; simp
  have HC : CB7 w1 (w.heap.size) c := by rw [hw1]; exact BX7.new _ _ _
  refine vw (.pointer (some ⟨w.heap.size, 0, none⟩)) w1 (want_none rfl) (ex_box8 rfl (ev s0 rfl) (by rw [hw1]; exact bxC7 _ _)) rfl hz (by decide) (fun Z1 zz kk s1x => ?_)
  clear kk hz s0 hw1
  have hz := zz
  have s1 := s1x
  clear zz s1x
  have hB := hb
  clear hb
  have hv0 : Below w1.heap.size w1 w1 := Below.refl _ _
  refine vt (.bool false) (ex_assign rfl rfl) hz (fun Ya zz kk s2 => ?_)
  replace s1 := ku s1
  replace hz := zz
  clear kk zz
  clear s2
  refine wpList_nil ?_
  go_upto_region 1 with fail
  refine wp_region_lit ?_
  refine vt (.pointer (some ⟨w.heap.size, 0, none⟩)) (ex_fa rfl (ev s1 rfl) (faC0 _ _)) hz (fun Yb zz kk s3 => ?_)
  replace s1 := ku s1
  replace hz := zz
  clear kk zz
  refine vt (.int .i64 c.F) (ex_ld rfl (ev s3 rfl) (ldI8 (cell8 (HC.cell 0 _ rfl) hv0))) hz (fun Yc zz kk s4 => ?_)
  replace s1 := ku s1
  replace hz := zz
  clear kk zz s3 Yb
  refine vt (.bool (decide (1 ≤ c.F))) (ex_bin rfl (ev s4 rfl) rfl (geqC _ _ _ _ _)) hz (fun Yd zz kk s5 => ?_)
  replace s1 := ku s1
  replace hz := zz
  clear kk zz s4 Yc
  refine vt _ (ex_move rfl (ev s5 rfl)) hz (fun Ye zz kk s6 => ?_)
  replace s1 := ku s1
  replace hz := zz
  clear kk zz s5 Yd
  refine vl _ (.pointer (some ⟨w.heap.size, 0, none⟩)) (want_g rfl rfl s6) (fun hc => ex_fa rfl (ev s1 rfl) (faC0 _ _)) rfl hz (by decide) (fun Yf zz kk s7 => ?_)
  replace s1 := ku s1
  replace s6 := ku s6
  replace hz := zz
  clear kk zz Ye
  refine vl _ (.int .i64 c.F) (want_g rfl rfl s6) (fun hc => ex_ld rfl (ev s7 hc) (ldI8 (cell8 (HC.cell 0 _ rfl) hv0))) rfl hz (by decide) (fun Yg zz kk s8 => ?_)
  replace s1 := ku s1
  replace s6 := ku s6
  replace hz := zz
  clear kk zz s7 Yf
  refine vl _ (.bool (decide (c.F ≤ 3))) (want_g rfl rfl s6) (fun hc => ex_bin rfl (ev s8 hc) rfl (leqC8 _ _ _ _ _)) rfl hz (by decide) (fun Yh zz kk s9 => ?_)
  replace s1 := ku s1
  replace s6 := ku s6
  replace hz := zz
  clear kk zz s8 Yg
  refine vt (.bool ((decide (1 ≤ c.F)) && (decide (c.F ≤ 3)))) (ex_and rfl s6 s9 rfl) hz (fun Yi zz kk s10 => ?_)
  replace s1 := ku s1
  replace hz := zz
  clear kk zz s6 s9 Yh
  refine vt _ (ex_move rfl (ev s10 rfl)) hz (fun Yj zz kk s11 => ?_)
  replace s1 := ku s1
  replace hz := zz
  clear kk zz s10 Yi
  refine vl _ (.pointer (some ⟨w.heap.size, 1, none⟩)) (want_g rfl rfl s11) (fun hc => ex_fa rfl (ev s1 rfl) (faC1 _ _)) rfl hz (by decide) (fun Yk zz kk s12 => ?_)
  replace s1 := ku s1
  replace s11 := ku s11
  replace hz := zz
  clear kk zz Yj
  refine vl _ (.int .i64 c.R) (want_g rfl rfl s11) (fun hc => ex_ld rfl (ev s12 hc) (ldI8 (cell8 (HC.cell 1 _ rfl) hv0))) rfl hz (by decide) (fun Yl zz kk s13 => ?_)
  replace s1 := ku s1
  replace s11 := ku s11
  replace hz := zz
  clear kk zz s12 Yk
  refine vl _ (.bool (decide (1 ≤ c.R))) (want_g rfl rfl s11) (fun hc => ex_bin rfl (ev s13 hc) rfl (geqC _ _ _ _ _)) rfl hz (by decide) (fun Ym zz kk s14 => ?_)
  replace s1 := ku s1
  replace s11 := ku s11
  replace hz := zz
  clear kk zz s13 Yl
  refine vt (.bool (((decide (1 ≤ c.F)) && (decide (c.F ≤ 3))) && (decide (1 ≤ c.R)))) (ex_and rfl s11 s14 rfl) hz (fun Yn zz kk s15 => ?_)
  replace s1 := ku s1
  replace hz := zz
  clear kk zz s11 s14 Ym
  refine vt _ (ex_move rfl (ev s15 rfl)) hz (fun Yo zz kk s16 => ?_)
  replace s1 := ku s1
  replace hz := zz
  clear kk zz s15 Yn
  refine vl _ (.pointer (some ⟨w.heap.size, 1, none⟩)) (want_g rfl rfl s16) (fun hc => ex_fa rfl (ev s1 rfl) (faC1 _ _)) rfl hz (by decide) (fun Yp zz kk s17 => ?_)
  replace s1 := ku s1
  replace s16 := ku s16
  replace hz := zz
  clear kk zz Yo
  refine vl _ (.int .i64 c.R) (want_g rfl rfl s16) (fun hc => ex_ld rfl (ev s17 hc) (ldI8 (cell8 (HC.cell 1 _ rfl) hv0))) rfl hz (by decide) (fun Yq zz kk s18 => ?_)
  replace s1 := ku s1
  replace s16 := ku s16
  replace hz := zz
  clear kk zz s17 Yp
  refine vl _ (.bool (decide (c.R ≤ 256))) (want_g rfl rfl s16) (fun hc => ex_bin rfl (ev s18 hc) rfl (leqC8 _ _ _ _ _)) rfl hz (by decide) (fun Yr zz kk s19 => ?_)
  replace s1 := ku s1
  replace s16 := ku s16
  replace hz := zz
  clear kk zz s18 Yq
  refine vt (.bool ((((decide (1 ≤ c.F)) && (decide (c.F ≤ 3))) && (decide (1 ≤ c.R))) && (decide (c.R ≤ 256)))) (ex_and rfl s16 s19 rfl) hz (fun Ys zz kk s20 => ?_)
  replace s1 := ku s1
  replace hz := zz
  clear kk zz s16 s19 Yr
  refine vt _ (ex_move rfl (ev s20 rfl)) hz (fun Yt zz kk s21 => ?_)
  replace s1 := ku s1
  replace hz := zz
  clear kk zz s20 Ys
  refine vl _ (.pointer (some ⟨w.heap.size, 2, none⟩)) (want_g rfl rfl s21) (fun hc => ex_fa rfl (ev s1 rfl) (faC2 _ _)) rfl hz (by decide) (fun Yu zz kk s22 => ?_)
  replace s1 := ku s1
  replace s21 := ku s21
  replace hz := zz
  clear kk zz Yt
  refine vl _ (.int .i64 c.P) (want_g rfl rfl s21) (fun hc => ex_ld rfl (ev s22 hc) (ldI8 (cell8 (HC.cell 2 _ rfl) hv0))) rfl hz (by decide) (fun Yv zz kk s23 => ?_)
  replace s1 := ku s1
  replace s21 := ku s21
  replace hz := zz
  clear kk zz s22 Yu
  refine vl _ (.bool (decide (6 ≤ c.P))) (want_g rfl rfl s21) (fun hc => ex_bin rfl (ev s23 hc) rfl (geqC _ _ _ _ _)) rfl hz (by decide) (fun Yw zz kk s24 => ?_)
  replace s1 := ku s1
  replace s21 := ku s21
  replace hz := zz
  clear kk zz s23 Yv
  refine vt (.bool (((((decide (1 ≤ c.F)) && (decide (c.F ≤ 3))) && (decide (1 ≤ c.R))) && (decide (c.R ≤ 256))) && (decide (6 ≤ c.P)))) (ex_and rfl s21 s24 rfl) hz (fun Yx zz kk s25 => ?_)
  replace s1 := ku s1
  replace hz := zz
  clear kk zz s21 s24 Yw
  refine vt _ (ex_move rfl (ev s25 rfl)) hz (fun Yy zz kk s26 => ?_)
  replace s1 := ku s1
  replace hz := zz
  clear kk zz s25 Yx
  refine vl _ (.pointer (some ⟨w.heap.size, 2, none⟩)) (want_g rfl rfl s26) (fun hc => ex_fa rfl (ev s1 rfl) (faC2 _ _)) rfl hz (by decide) (fun Yz zz kk s27 => ?_)
  replace s26 := ku s26
  replace hz := zz
  clear kk zz s1 Yy
  refine vl _ (.int .i64 c.P) (want_g rfl rfl s26) (fun hc => ex_ld rfl (ev s27 hc) (ldI8 (cell8 (HC.cell 2 _ rfl) hv0))) rfl hz (by decide) (fun Y0 zz kk s28 => ?_)
  replace s26 := ku s26
  replace hz := zz
  clear kk zz s27 Yz
  refine vl _ (.bool (decide (c.P ≤ 100))) (want_g rfl rfl s26) (fun hc => ex_bin rfl (ev s28 hc) rfl (leqC8 _ _ _ _ _)) rfl hz (by decide) (fun Y1 zz kk s29 => ?_)
  replace s26 := ku s26
  replace hz := zz
  clear kk zz s28 Y0
  refine vt (.bool ((((((decide (1 ≤ c.F)) && (decide (c.F ≤ 3))) && (decide (1 ≤ c.R))) && (decide (c.R ≤ 256))) && (decide (6 ≤ c.P))) && (decide (c.P ≤ 100)))) (ex_and rfl s26 s29 rfl) hz (fun Y2 zz kk s30 => ?_)
  replace hz := zz
  clear kk zz s26 s29 Y1
  refine vt _ (ex_assign rfl (ev s30 rfl)) hz (fun Y3 zz kk s2 => ?_)
  replace hz := zz
  clear kk zz s30 Y2
  refine wpList_nil ?_
  go_wp2
  refine bodyPost_ret (results_tmp rfl _ _ _) rfl ⟨?_, hB.trans (hv0.mono (by omega))⟩
  rw [getD_of s2]
  rw [show c.okB = (((((((decide (1 ≤ c.F)) && (decide (c.F ≤ 3))) && (decide (1 ≤ c.R))) && (decide (c.R ≤ 256))) && (decide (6 ≤ c.P))) && (decide (c.P ≤ 100)))) from okB_eq9 c]
  rfl
set_option maxHeartbeats 1000000 in
theorem rcheckconfig9 (c : Cg) (w : World)  : Calls Tryz.prog 32 #[c.val] w fun e w' => e = .returned (.int .i64 c.er) ∧ Below w.heap.size w w' := by
  go_enter Tryz.func32, Tryz.ntmps32
  go_upto_region 0 with fail
  refine wp_region_lit ?_
  refine vl_gen (fun T => T.size = 6 ∧ T[0]? = some (gw true (c.val))) ⟨rfl, rfl⟩ (fun Z0 ⟨hz, s0⟩ => ?_)
  obtain ⟨w1, hw1⟩ : ∃ y, y = w.alloc (.cells c.cs.toArray 23) := ⟨_, rfl⟩
  have hb : Below w.heap.size w w1 := by rw [hw1]; exact (Below.refl _ _).alloc (Nat.le_refl _) _
  have hs1 : w1.heap.size = w.heap.size + 1 := by rw [hw1]; simp
  have HC : CB7 w1 (w.heap.size) c := by rw [hw1]; exact BX7.new _ _ _
  refine vw (.pointer (some ⟨w.heap.size, 0, none⟩)) w1 (want_none rfl) (ex_box8 rfl (ev s0 rfl) (by rw [hw1]; exact bxC7 _ _)) rfl hz (by decide) (fun Z1 zz kk s1x => ?_)
  clear kk hz s0 hw1
  have hz := zz
  have s1 := s1x
  clear zz s1x
  have hB := hb
  clear hb
  have hv0 : Below w1.heap.size w1 w1 := Below.refl _ _
  refine vt (.int .i64 0) (ex_assign rfl rfl) hz (fun Ya zz kk s2 => ?_)
  replace s1 := ku s1
  replace hz := zz
  clear kk zz
  clear s2
  refine wpList_nil ?_
  go_upto_region 1 with fail
  refine wp_region_lit ?_
  refine vt (c.val) (ex_ld rfl (ev s1 rfl) (CB7.ld (HC.bel hv0))) hz (fun Yb zz kk s3 => ?_)
  replace hz := zz
  clear kk zz s1
  refine vcall true (.bool c.okB) (want_none rfl) (fun hc => ex_call rfl (by simp only [List.map_toArray, List.map_cons, List.map_nil, (ev s3 rfl), evc] <;> rfl) rfl) (fun hc => rconfig9 c w1) rfl hz (by decide) (fun Yc x1 hb zz kk s4 => ?_)
  have hx1 := hv0.trans (hb.mono hv0.size)
  clear hb
  replace hz := zz
  clear kk zz s3 Yb
  refine vt (.bool (!c.okB)) (ex_not rfl (ev s4 rfl)) hz (fun Yd zz kk s5 => ?_)
  replace hz := zz
  clear kk zz s4 Yc
  refine wpList_nil ?_
  go_upto_region 2 with fail
  cases eo : c.okB
  · refine wp_cond_true ((ev s5 rfl).trans (by rw [eo]; rfl)) ?_
    go_upto_region 2 with fail
    refine wp_region_lit ?_
    refine vt (.int .i64 1) (ex_assign rfl rfl) hz (fun Ye zz kk s2 => ?_)
    replace hz := zz
    clear kk zz
    refine wpList_nil ?_
    go_wp2
    refine bodyPost_ret (results_tmp rfl _ _ _) rfl ⟨?_, hB.trans (hx1.mono (by omega))⟩
    rw [getD_of s2]
    unfold Cg.er
    rw [eo]
    rfl
  · refine wp_cond_false ((ev s5 rfl).trans (by rw [eo]; rfl)) ?_
    go_upto_region 3 with fail
    refine wp_region_lit ?_
    refine vt (.int .i64 0) (ex_assign rfl rfl) hz (fun Yf zz kk s2 => ?_)
    replace hz := zz
    clear kk zz
    refine wpList_nil ?_
    go_wp2
    refine bodyPost_ret (results_tmp rfl _ _ _) rfl ⟨?_, hB.trans (hx1.mono (by omega))⟩
    rw [getD_of s2]
    unfold Cg.er
    rw [eo]
    rfl
set_option maxHeartbeats 1000000 in
theorem rnodes9 (c : Cg) (w : World)  : Calls Tryz.prog 34 #[c.val] w fun e w' => e = .returned (.int .i64 c.nd) ∧ Below w.heap.size w w' := by
  go_enter Tryz.func34, Tryz.ntmps34
  go_upto_region 0 with fail
  refine wp_region_lit ?_
  refine vl_gen (fun T => T.size = 10 ∧ T[0]? = some (gw true (c.val))) ⟨rfl, rfl⟩ (fun Z0 ⟨hz, s0⟩ => ?_)
  obtain ⟨w1, hw1⟩ : ∃ y, y = w.alloc (.cells c.cs.toArray 23) := ⟨_, rfl⟩
  have hb : Below w.heap.size w w1 := by rw [hw1]; exact (Below.refl _ _).alloc (Nat.le_refl _) _
  have hs1 : w1.heap.size = w.heap.size + 1 := by rw [hw1]; simp
  have HC : CB7 w1 (w.heap.size) c := by rw [hw1]; exact BX7.new _ _ _
  refine vw (.pointer (some ⟨w.heap.size, 0, none⟩)) w1 (want_none rfl) (ex_box8 rfl (ev s0 rfl) (by rw [hw1]; exact bxC7 _ _)) rfl hz (by decide) (fun Z1 zz kk s1x => ?_)
  clear kk hz s0 hw1
  have hz := zz
  have s1 := s1x
  clear zz s1x
  have hB := hb
  clear hb
  have hv0 : Below w1.heap.size w1 w1 := Below.refl _ _
  refine vt (.int .i64 0) (ex_assign rfl rfl) hz (fun Ya zz kk s2 => ?_)
  replace s1 := ku s1
  replace hz := zz
  clear kk zz
  clear s2
  refine wpList_nil ?_
  go_upto_region 1 with fail
  refine wp_region_lit ?_
  refine vt (c.val) (ex_ld rfl (ev s1 rfl) (CB7.ld (HC.bel hv0))) hz (fun Yb zz kk s3 => ?_)
  replace s1 := ku s1
  replace hz := zz
  clear kk zz
  refine vcall true (.int .i64 c.er) (want_none rfl) (fun hc => ex_call rfl (by simp only [List.map_toArray, List.map_cons, List.map_nil, (ev s3 rfl), evc] <;> rfl) rfl) (fun hc => rcheckconfig9 c w1) rfl hz (by decide) (fun Yc x1 hb zz kk s4 => ?_)
  have hx1 := hv0.trans (hb.mono hv0.size)
  clear hb
  replace s1 := ku s1
  replace hz := zz
  clear kk zz s3 Yb
  refine vt (.bool (!decide (c.er = 0))) (ex_bin rfl (ev s4 rfl) rfl (neqC _ _ _ _ _)) hz (fun Yd zz kk s5 => ?_)
  replace s1 := ku s1
  replace hz := zz
  clear kk zz s4 Yc
  refine wpList_nil ?_
  go_upto_region 2 with fail
  cases eo : c.okB
  · refine wp_cond_true ((ev s5 rfl).trans (by unfold Cg.er; rw [eo]; rfl)) ?_
    go_upto_region 2 with fail
    refine wp_region_lit ?_
    refine vt (.int .i64 0) (ex_assign rfl rfl) hz (fun Ye zz kk s2 => ?_)
    replace hz := zz
    clear kk zz s1
    refine wpList_nil ?_
    go_wp2
    refine bodyPost_ret (results_tmp rfl _ _ _) rfl ⟨?_, hB.trans (hx1.mono (by omega))⟩
    rw [getD_of s2]
    rw [show c.nd = 0 from by unfold Cg.nd; rw [eo]; rfl]
    rfl
  · refine wp_cond_false ((ev s5 rfl).trans (by unfold Cg.er; rw [eo]; rfl)) ?_
    obtain ⟨h1, h2, h3⟩ := Cg.nd_ok eo
    go_upto_region 3 with fail
    refine wp_region_lit ?_
    refine vt (.pointer (some ⟨w.heap.size, 0, none⟩)) (ex_fa rfl (ev s1 rfl) (faC0 _ _)) hz (fun Yf zz kk s6 => ?_)
    replace hz := zz
    clear kk zz s1
    refine vt (.int .i64 c.F) (ex_ld rfl (ev s6 rfl) (ldI8 (cell8 (HC.cell 0 _ rfl) hx1))) hz (fun Yg zz kk s7 => ?_)
    replace hz := zz
    clear kk zz s6 Yf
    refine vt (.int .i64 (2 * c.F)) (ex_bin rfl rfl (ev s7 rfl) (mulD8 _ _ 2 c.F (2 * c.F) (by rw [IntKind.wrap_i64]; omega) _)) hz (fun Yh zz kk s8 => ?_)
    replace hz := zz
    clear kk zz s7 Yg
    refine vt (.int .i64 (2 * c.F + 1)) (ex_bin rfl (ev s8 rfl) rfl (addD8 _ _ (2 * c.F) 1 (2 * c.F + 1) (by rw [IntKind.wrap_i64]; omega) _)) hz (fun Yi zz kk s9 => ?_)
    replace hz := zz
    clear kk zz s8 Yh
    refine vt _ (ex_assign rfl (ev s9 rfl)) hz (fun Yj zz kk s2 => ?_)
    replace hz := zz
    clear kk zz s9 Yi
    refine wpList_nil ?_
    go_wp2
    refine bodyPost_ret (results_tmp rfl _ _ _) rfl ⟨?_, hB.trans (hx1.mono (by omega))⟩
    rw [getD_of s2]
    rw [h1]
    rfl
set_option maxHeartbeats 1000000 in
theorem rprimary9 (c : Cg) (x : Int) (w : World)  : Calls Tryz.prog 17 #[c.val, .int .i64 x] w fun e w' => e = .returned (.int .i64 (c.pr x)) ∧ Below w.heap.size w w' := by
  go_enter Tryz.func17, Tryz.ntmps17
  go_upto_region 0 with fail
  refine wp_region_lit ?_
  refine vl_gen (fun T => T.size = 20 ∧ T[0]? = some (gw true (c.val)) ∧ T[1]? = some (gw true (.int .i64 x))) ⟨rfl, rfl, rfl⟩ (fun Z0 ⟨hz, s0, s1⟩ => ?_)
  obtain ⟨w1, hw1⟩ : ∃ y, y = w.alloc (.cells c.cs.toArray 23) := ⟨_, rfl⟩
  have hb : Below w.heap.size w w1 := by rw [hw1]; exact (Below.refl _ _).alloc (Nat.le_refl _) _
  have hs1 : w1.heap.size = w.heap.size + 1 := by rw [hw1]; simp
  have HC : CB7 w1 (w.heap.size) c := by rw [hw1]; exact BX7.new _ _ _
  refine vw (.pointer (some ⟨w.heap.size, 0, none⟩)) w1 (want_none rfl) (ex_box8 rfl (ev s0 rfl) (by rw [hw1]; exact bxC7 _ _)) rfl hz (by decide) (fun Z1 zz kk s2x => ?_)
  replace s1 := ku s1
  clear kk hz s0 hw1
  have hz := zz
  have s2 := s2x
  clear zz s2x
  have hB := hb
  clear hb
  have hv0 : Below w1.heap.size w1 w1 := Below.refl _ _
  refine vt (.int .i64 0) (ex_assign rfl rfl) hz (fun Ya zz kk s4 => ?_)
  replace s1 := ku s1
  replace s2 := ku s2
  replace hz := zz
  clear kk zz
  clear s4
  refine wpList_nil ?_
  go_upto_region 1 with fail
  refine wp_region_lit ?_
  refine vt (c.val) (ex_ld rfl (ev s2 rfl) (CB7.ld (HC.bel hv0))) hz (fun Yb zz kk s5 => ?_)
  replace s1 := ku s1
  replace s2 := ku s2
  replace hz := zz
  clear kk zz
  refine vcall true (.int .i64 c.er) (want_none rfl) (fun hc => ex_call rfl (by simp only [List.map_toArray, List.map_cons, List.map_nil, (ev s5 rfl), evc] <;> rfl) rfl) (fun hc => rcheckconfig9 c w1) rfl hz (by decide) (fun Yc x1 hb zz kk s6 => ?_)
  have hx1 := hv0.trans (hb.mono hv0.size)
  clear hb
  replace s1 := ku s1
  replace s2 := ku s2
  replace hz := zz
  clear kk zz s5 Yb
  refine vt (.bool (!decide (c.er = 0))) (ex_bin rfl (ev s6 rfl) rfl (neqC _ _ _ _ _)) hz (fun Yd zz kk s7 => ?_)
  replace s1 := ku s1
  replace s2 := ku s2
  replace hz := zz
  clear kk zz s6 Yc
  refine vt _ (ex_move rfl (ev s7 rfl)) hz (fun Ye zz kk s8 => ?_)
  replace s1 := ku s1
  replace s2 := ku s2
  replace hz := zz
  clear kk zz s7 Yd
  refine vl _ _ (want_g rfl rfl s8) (fun hc => ex_move rfl (ev s1 rfl)) rfl hz (by decide) (fun Yf zz kk s9 => ?_)
  replace s1 := ku s1
  replace s2 := ku s2
  replace s8 := ku s8
  replace hz := zz
  clear kk zz Ye
  refine vl _ (.bool (decide (x < 0))) (want_g rfl rfl s8) (fun hc => ex_bin rfl (ev s9 hc) rfl (lssC _ _ _ _ _)) rfl hz (by decide) (fun Yg zz kk s10 => ?_)
  replace s1 := ku s1
  replace s2 := ku s2
  replace s8 := ku s8
  replace hz := zz
  clear kk zz s9 Yf
  refine vt (.bool ((!decide (c.er = 0)) || (decide (x < 0)))) (ex_or rfl s8 s10 rfl) hz (fun Yh zz kk s11 => ?_)
  replace s1 := ku s1
  replace s2 := ku s2
  replace hz := zz
  clear kk zz s8 s10 Yg
  refine vt _ (ex_move rfl (ev s11 rfl)) hz (fun Yi zz kk s12 => ?_)
  replace s1 := ku s1
  replace s2 := ku s2
  replace hz := zz
  clear kk zz s11 Yh
  refine vl _ _ (want_g rfl rfl s12) (fun hc => ex_move rfl (ev s1 rfl)) rfl hz (by decide) (fun Yj zz kk s13 => ?_)
  replace s1 := ku s1
  replace s2 := ku s2
  replace s12 := ku s12
  replace hz := zz
  clear kk zz Yi
  refine vl _ (.bool (decide (4294967296 < x))) (want_g rfl rfl s12) (fun hc => ex_bin rfl (ev s13 hc) rfl (gtrC _ _ _ _ _)) rfl hz (by decide) (fun Yk zz kk s14 => ?_)
  replace s1 := ku s1
  replace s2 := ku s2
  replace s12 := ku s12
  replace hz := zz
  clear kk zz s13 Yj
  refine vt (.bool (((!decide (c.er = 0)) || (decide (x < 0))) || (decide (4294967296 < x)))) (ex_or rfl s12 s14 rfl) hz (fun Yl zz kk s15 => ?_)
  replace s1 := ku s1
  replace s2 := ku s2
  replace hz := zz
  clear kk zz s12 s14 Yk
  refine wpList_nil ?_
  have ee : ((((!decide (c.er = 0)) || (decide (x < 0))) || (decide (4294967296 < x)))) = !(c.okB && inB x 0 4294967296) := by unfold Cg.er inB; cases c.okB <;> simp <;> by_cases h1 : x < 0 <;> by_cases h2 : 4294967296 < x <;> simp [h1, h2] <;> omega
  go_upto_region 2 with fail
  cases eo : (c.okB && inB x 0 4294967296)
  · refine wp_cond_true ((ev s15 rfl).trans (by rw [ee, eo]; rfl)) ?_
    go_upto_region 2 with fail
    refine wp_region_lit ?_
    refine vt (.int IntKind.i64 (-1)) (ex_assign rfl rfl) hz (fun Ym zz kk s4 => ?_)
    replace hz := zz
    clear kk zz s1 s2
    refine wpList_nil ?_
    go_wp2
    refine bodyPost_ret (results_tmp rfl _ _ _) rfl ⟨?_, hB.trans (hx1.mono (by omega))⟩
    rw [getD_of s4]
    rw [show c.pr x = -1 from by unfold Cg.pr; rw [eo]; rfl]
    rfl
  · refine wp_cond_false ((ev s15 rfl).trans (by rw [ee, eo]; rfl)) ?_
    have eo2 : c.okB = true ∧ inB x 0 4294967296 = true := by simpa using eo
    obtain ⟨h1, h2, h3⟩ := Cg.nd_ok eo2.1
    have h4 := inB_iff.1 eo2.2
    have h5 : 0 < c.nd := by omega
    go_upto_region 3 with fail
    refine wp_region_lit ?_
    refine vt _ (ex_move rfl (ev s1 rfl)) hz (fun Yn zz kk s16 => ?_)
    replace s2 := ku s2
    replace hz := zz
    clear kk zz s1
    refine vt (c.val) (ex_ld rfl (ev s2 rfl) (CB7.ld (HC.bel hx1))) hz (fun Yo zz kk s17 => ?_)
    replace s16 := ku s16
    replace hz := zz
    clear kk zz s2 Yn
    refine vcall true (.int .i64 c.nd) (want_none rfl) (fun hc => ex_call rfl (by simp only [List.map_toArray, List.map_cons, List.map_nil, (ev s17 rfl), evc] <;> rfl) rfl) (fun hc => rnodes9 c x1) rfl hz (by decide) (fun Yp x2 hb zz kk s18 => ?_)
    have hx2 := hx1.trans (hb.mono hx1.size)
    clear hb
    replace s16 := ku s16
    replace hz := zz
    clear kk zz s17 Yo
    refine vt (.int .i64 (x % c.nd)) (ex_bin rfl (ev s16 rfl) (ev s18 rfl) (remD8 _ _ x c.nd h4.1 h5 (by omega) _)) hz (fun Yq zz kk s19 => ?_)
    replace hz := zz
    clear kk zz s16 s18 Yp
    refine vt _ (ex_assign rfl (ev s19 rfl)) hz (fun Yr zz kk s4 => ?_)
    replace hz := zz
    clear kk zz s19 Yq
    refine wpList_nil ?_
    go_wp2
    refine bodyPost_ret (results_tmp rfl _ _ _) rfl ⟨?_, hB.trans (hx2.mono (by omega))⟩
    rw [getD_of s4]
    rw [show c.pr x = x % c.nd from by unfold Cg.pr; rw [eo]; rfl]
    rfl
set_option maxHeartbeats 1000000 in
theorem rlogged9 (c : Cg) (L : List En) (la : Option Addr) (lc : Nat) (x : Int) (w : World) (hL : SlY yE w la L.length lc L) (hle : ∀ e ∈ L, e.fits) : Calls Tryz.prog 48 #[c.val, .slice la L.length lc, .int .i64 x] w fun e w' => e = .returned (.bool (lgB9 c L x)) ∧ Below w.heap.size w w' := by
  go_enter Tryz.func48, Tryz.ntmps48
  go_upto_region 0 with fail
  refine wp_region_lit ?_
  refine vl_gen (fun T => T.size = 22 ∧ T[0]? = some (gw true (c.val)) ∧ T[1]? = some (gw true (.slice la L.length lc)) ∧ T[2]? = some (gw true (.int .i64 x))) ⟨rfl, rfl, rfl, rfl⟩ (fun Z0 ⟨hz, s0, s1, s2⟩ => ?_)
  obtain ⟨w1, hw1⟩ : ∃ y, y = w.alloc (.cells c.cs.toArray 23) := ⟨_, rfl⟩
  have hb : Below w.heap.size w w1 := by rw [hw1]; exact (Below.refl _ _).alloc (Nat.le_refl _) _
  have hs1 : w1.heap.size = w.heap.size + 1 := by rw [hw1]; simp
  have HC : CB7 w1 (w.heap.size) c := by rw [hw1]; exact BX7.new _ _ _
  refine vw (.pointer (some ⟨w.heap.size, 0, none⟩)) w1 (want_none rfl) (ex_box8 rfl (ev s0 rfl) (by rw [hw1]; exact bxC7 _ _)) rfl hz (by decide) (fun Z1 zz kk s3x => ?_)
  replace s1 := ku s1
  replace s2 := ku s2
  clear kk hz s0 hw1
  have hz := zz
  have s3 := s3x
  clear zz s3x
  have hB := hb
  clear hb
  have hv0 : Below w1.heap.size w1 w1 := Below.refl _ _
  refine vt (.bool false) (ex_assign rfl rfl) hz (fun Ya zz kk s6 => ?_)
  replace s1 := ku s1
  replace s2 := ku s2
  replace s3 := ku s3
  replace hz := zz
  clear kk zz
  clear s6
  refine wpList_nil ?_
  go_upto_region 1 with fail
  refine wp_region_lit ?_
  refine vt _ (ex_move rfl (ev s1 rfl)) hz (fun Yb zz kk s7 => ?_)
  replace s1 := ku s1
  replace s2 := ku s2
  replace s3 := ku s3
  replace hz := zz
  clear kk zz
  refine vt (.pointer (some ⟨w.heap.size, 1, none⟩)) (ex_fa rfl (ev s3 rfl) (faC1 _ _)) hz (fun Yc zz kk s8 => ?_)
  replace s1 := ku s1
  replace s2 := ku s2
  replace s7 := ku s7
  replace hz := zz
  clear kk zz s3 Yb
  refine vt (.int .i64 c.R) (ex_ld rfl (ev s8 rfl) (ldI8 (cell8 (HC.cell 1 _ rfl) hv0))) hz (fun Yd zz kk s9 => ?_)
  replace s1 := ku s1
  replace s2 := ku s2
  replace s7 := ku s7
  replace hz := zz
  clear kk zz s8 Yc
  refine vcall true (.int .i64 (lg L c.R)) (want_none rfl) (fun hc => ex_call rfl (by simp only [List.map_toArray, List.map_cons, List.map_nil, (ev s7 rfl), (ev s9 rfl), evc] <;> rfl) rfl) (fun hc => reflog_any L la lc c.R w1 (hL.later (hB.trans (hv0.mono (by omega)))) hle) rfl hz (by decide) (fun Ye x1 hb zz kk s10 => ?_)
  have hx1 := hv0.trans (hb.mono hv0.size)
  clear hb
  replace s1 := ku s1
  replace s2 := ku s2
  replace hz := zz
  clear kk zz s7 s9 Yd
  refine vt (.bool (decide ((lg L c.R) = 0))) (ex_bin rfl (ev s10 rfl) rfl (eqlC _ _ _ _ _)) hz (fun Yf zz kk s11 => ?_)
  replace s1 := ku s1
  replace s2 := ku s2
  replace hz := zz
  clear kk zz s10 Ye
  refine vt _ (ex_move rfl (ev s11 rfl)) hz (fun Yg zz kk s12 => ?_)
  replace s1 := ku s1
  replace s2 := ku s2
  replace hz := zz
  clear kk zz s11 Yf
  refine vl _ _ (want_g rfl rfl s12) (fun hc => ex_move rfl (ev s2 rfl)) rfl hz (by decide) (fun Yh zz kk s13 => ?_)
  replace s1 := ku s1
  replace s2 := ku s2
  replace s12 := ku s12
  replace hz := zz
  clear kk zz Yg
  refine vl _ (.bool (decide (0 ≤ x))) (want_g rfl rfl s12) (fun hc => ex_bin rfl (ev s13 hc) rfl (geqC _ _ _ _ _)) rfl hz (by decide) (fun Yi zz kk s14 => ?_)
  replace s1 := ku s1
  replace s2 := ku s2
  replace s12 := ku s12
  replace hz := zz
  clear kk zz s13 Yh
  refine vt (.bool ((decide ((lg L c.R) = 0)) && (decide (0 ≤ x)))) (ex_and rfl s12 s14 rfl) hz (fun Yj zz kk s15 => ?_)
  replace s1 := ku s1
  replace s2 := ku s2
  replace hz := zz
  clear kk zz s12 s14 Yi
  refine vt _ (ex_move rfl (ev s15 rfl)) hz (fun Yk zz kk s16 => ?_)
  replace s1 := ku s1
  replace s2 := ku s2
  replace hz := zz
  clear kk zz s15 Yj
  refine vl _ _ (want_g rfl rfl s16) (fun hc => ex_move rfl (ev s2 rfl)) rfl hz (by decide) (fun Yl zz kk s17 => ?_)
  replace s1 := ku s1
  replace s16 := ku s16
  replace hz := zz
  clear kk zz s2 Yk
  refine vl _ _ (want_g rfl rfl s16) (fun hc => ex_move rfl (ev s1 rfl)) rfl hz (by decide) (fun Ym zz kk s18 => ?_)
  replace s16 := ku s16
  replace s17 := ku s17
  replace hz := zz
  clear kk zz s1 Yl
  refine vl _ (.int .i64 (L.length : Int)) (want_g rfl rfl s16) (fun hc => ex_lenE8 rfl rfl (ev s18 hc)) rfl hz (by decide) (fun Yn zz kk s19 => ?_)
  replace s16 := ku s16
  replace s17 := ku s17
  replace hz := zz
  clear kk zz s18 Ym
  refine vl _ (.bool (decide (x ≤ (L.length : Int)))) (want_g rfl rfl s16) (fun hc => ex_bin rfl (ev s17 hc) (ev s19 hc) (leqC8 _ _ _ _ _)) rfl hz (by decide) (fun Yo zz kk s20 => ?_)
  replace s16 := ku s16
  replace hz := zz
  clear kk zz s17 s19 Yn
  refine vt (.bool (((decide ((lg L c.R) = 0)) && (decide (0 ≤ x))) && (decide (x ≤ (L.length : Int))))) (ex_and rfl s16 s20 rfl) hz (fun Yp zz kk s21 => ?_)
  replace hz := zz
  clear kk zz s16 s20 Yo
  refine vt _ (ex_assign rfl (ev s21 rfl)) hz (fun Yq zz kk s6 => ?_)
  replace hz := zz
  clear kk zz s21 Yp
  refine wpList_nil ?_
  go_wp2
  refine bodyPost_ret (results_tmp rfl _ _ _) rfl ⟨?_, hB.trans (hx1.mono (by omega))⟩
  rw [getD_of s6]
  rfl
end Go.Proofs.YtphdnmamopgelaaGreat
