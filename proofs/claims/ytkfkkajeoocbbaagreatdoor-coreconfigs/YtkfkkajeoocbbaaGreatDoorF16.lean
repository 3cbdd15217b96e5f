import Derived.Test.YtkfkkajeoocbbaaGreatDoorF15
set_option maxRecDepth 100000
set_option linter.unusedVariables false
set_option linter.unusedSimpArgs false
namespace Go.Proofs.YtkfkkajeoocbbaaGreatDoor
open Go.RowKit Go.Maps Go.Shelf
open Classical
structure Dr9 where
  a : Int
  b : Int
def Dr9.val (d : Dr9) : Value := .agg #[.int .u64 d.a, .int .u64 d.b]
def Dr9.cs (d : Dr9) : List Value := [.int .u64 d.a, .int .u64 d.b]
abbrev DRB9 (w : World) (q : Nat) (d : Dr9) : Prop := BX7 w q d.cs
theorem bxDr9 (d : Dr9) (w : World) : (Instr.box 26 d.val).run Tryz.prog w = .ok (.pointer (some ⟨w.heap.size, 0, none⟩)) (w.alloc (.cells d.cs.toArray 26)) := rfl
theorem DRB9.ld {w : World} {q : Nat} {d : Dr9} (h : DRB9 w q d) : (Instr.loadAt 26 (.pointer (some ⟨q, 0, none⟩))).run Tryz.prog w = .ok d.val w := ldDr8 (d := (d.a, d.b)) (h.cell 0 _ rfl) (h.cell 1 _ rfl)
theorem eqlDr9 (x y : Operand) (r r' : Int × Int) (w : World) : (do eqGuard .eql 26 x y (.agg #[.int .u64 r.1, .int .u64 r.2]) (.agg #[.int .u64 r'.1, .int .u64 r'.2]); binOp .eql 26 (.agg #[.int .u64 r.1, .int .u64 r.2]) (.agg #[.int .u64 r'.1, .int .u64 r'.2]) : Sem Value).run Tryz.prog w = .ok (.bool (decide (r = r'))) w := by
  obtain ⟨a, b⟩ := r
  obtain ⟨a', b'⟩ := r'
  go_simp
  by_cases e1 : a = a' <;> by_cases e2 : b = b' <;> simp [e1, e2]
def rbE9 (c : Cg) (x : Int) (d : Dr9) : Int := if fvE9 c x = 0 then (if (d.a, d.b) = ((0 : Int), (0 : Int)) then 3 else 0) else fvE9 c x
def Rb9 (c : Cg) (x : Int) (d : Dr9) (t : Sta) : Prop := (rbE9 c x d ≠ 0 ∧ t = zS8) ∨ (rbE9 c x d = 0 ∧ ∃ g n m k : Nat, c.nd = ((n : Nat) : Int) ∧ x = (k : Int) ∧ t = vst9 x 3 g m ((List.replicate n ((0 : Int), (0 : Int))).set k (d.a, d.b)))
theorem fv_nd9 {c : Cg} {x : Int} (h : fvE9 c x = 0) : ∃ n : Nat, c.nd = (n : Int) ∧ n ≤ 7 := by
  unfold fvE9 at h
  split at h
  · rename_i ho
    obtain ⟨n1, n2, n3⟩ := Cg.nd_ok ho
    exact ⟨c.nd.toNat, by omega, by omega⟩
  · omega
theorem fv_in9 {c : Cg} {x : Int} {n : Nat} (h : fvE9 c x = 0) (hn : c.nd = (n : Int)) : ∃ k : Nat, x = (k : Int) ∧ k < n := by
  unfold fvE9 at h
  split at h
  · split at h
    · rename_i hi
      have := inB_iff.1 hi
      exact ⟨x.toNat, by omega, by omega⟩
    · omega
  · omega
theorem bdW9 (x k : Int) (g n : Nat) (V : List (Int × Int)) (h : V.length = n) (w : World) : (Instr.build 36 #[(0, .int .i64 x), (1, .int .i64 k), (6, .slice (some ⟨g, 0, none⟩) n n)]).run Tryz.prog w = .ok (vst9 x k g n V).val w := by
  have := bdS9 x k g n V w
  rw [h] at this
  exact this
theorem fst_cell9 {w : World} {q : Nat} {x st : Int} {g n : Nat} (h : SB7 w q (fst9 x st g n)) : w.cell? ⟨q, 6, none⟩ = some (.slice (some ⟨g, 0, none⟩) n n) := by
  have := h.cell 6 _ rfl
  have e : (fst9 x st g n).V.length = n := List.length_replicate
  rw [e] at this
  exact this
theorem vst_box9 {w : World} {q : Nat} {x st : Int} {g n : Nat} {V : List (Int × Int)} (hl : V.length = n) (h : SB7 w q (fst9 x st g n)) : SB7 w q (vst9 x st g n V) := by
  have e : (fst9 x st g n).cs = (vst9 x st g n V).cs := by
    unfold fst9 vst9 Sta.cs
    simp only [List.length_replicate, hl]
  show BX7 w q _
  rw [← e]
  exact h
theorem fs_al9 {B B' : Nat} {c : Cg} {x st : Int} {t t' : Sta} {w w' : World} (h : Fs9 B c x st t w) (h' : Fs9 B' c x st t' w') : t.Alike9 t' := by
  rcases h with ⟨h0, rfl⟩ | ⟨h0, g, n, hn, rfl, _⟩ <;> rcases h' with ⟨k0, rfl⟩ | ⟨k0, g', n', hn', rfl, _⟩
  · exact Sta.Alike9.refl _
  · exact absurd k0 h0
  · exact absurd h0 k0
  · obtain rfl : n = n' := by omega
    exact ⟨rfl, rfl, rfl, rfl, rfl, rfl, rfl, rfl, rfl, rfl, ⟨rfl, fun i x y hx hy => by cases hx⟩, ⟨rfl, fun i x y hx hy => by cases hx⟩⟩
theorem rb_al9 {c : Cg} {x : Int} {d : Dr9} {t t' : Sta} (h : Rb9 c x d t) (h' : Rb9 c x d t') : t.Alike9 t' := by
  rcases h with ⟨h0, rfl⟩ | ⟨h0, g, n, m, k, hn, hk, rfl⟩ <;> rcases h' with ⟨k0, rfl⟩ | ⟨k0, g', n', m', k', hn', hk', rfl⟩
  · exact Sta.Alike9.refl _
  · exact absurd k0 h0
  · exact absurd h0 k0
  · obtain rfl : n = n' := by omega
    obtain rfl : k = k' := by omega
    exact ⟨rfl, rfl, rfl, rfl, rfl, rfl, rfl, rfl, rfl, rfl, ⟨rfl, fun i x y hx hy => by cases hx⟩, ⟨rfl, fun i x y hx hy => by cases hx⟩⟩
set_option maxHeartbeats 1000000 in
theorem reborn9 (c : Cg) (x : Int) (d : Dr9) (w : World)  : Calls Tryz.prog 15 #[c.val, .int .i64 x, d.val] w fun e w' => ∃ t : Sta, e = .returned (.tuple #[t.val, .int .i64 (rbE9 c x d)]) ∧ t.In w' ∧ Rb9 c x d t ∧ Below w.heap.size w w' := by
  go_enter Tryz.func15, Tryz.ntmps15
  go_upto_region 0 with fail
  refine wp_region_lit ?_
  refine vl_gen (fun T => T.size = 33 ∧ T[0]? = some (gw true (c.val)) ∧ T[2]? = some (gw true (d.val)) ∧ T[1]? = some (gw true (.int .i64 x))) ⟨rfl, rfl, rfl, rfl⟩ (fun Z0 ⟨hz, s0, s2, s1⟩ => ?_)
  obtain ⟨w1, hw1⟩ : ∃ y, y = w.alloc (.cells c.cs.toArray 23) := ⟨_, rfl⟩
  have hb : Below w.heap.size w w1 := by rw [hw1]; exact (Below.refl _ _).alloc (Nat.le_refl _) _
  have hs1 : w1.heap.size = w.heap.size + 1 := by rw [hw1]; simp
  have HC : CB7 w1 (w.heap.size) c := by rw [hw1]; exact BX7.new _ _ _
  refine vw (.pointer (some ⟨w.heap.size, 0, none⟩)) w1 (want_none rfl) (ex_box8 rfl (ev s0 rfl) (by rw [hw1]; exact bxC7 _ _)) rfl hz (by decide) (fun Z1 zz kk s3x => ?_)
  replace s2 := ku s2
  replace s1 := ku s1
  clear kk hz s0 hw1
  have hz := zz
  have s3 := s3x
  clear zz s3x
  have hB := hb
  clear hb
  obtain ⟨w2, hw2⟩ : ∃ y, y = w1.alloc (.cells d.cs.toArray 26) := ⟨_, rfl⟩
  have hb : Below w1.heap.size w1 w2 := by rw [hw2]; exact (Below.refl _ _).alloc (Nat.le_refl _) _
  have hs2 : w2.heap.size = w.heap.size + 2 := by rw [hw2]; simp; omega
  have HD : DRB9 w2 (w.heap.size + 1) d := by rw [hw2, ← hs1]; exact BX7.new _ _ _
  refine vw (.pointer (some ⟨w.heap.size + 1, 0, none⟩)) w2 (want_none rfl) (ex_box8 rfl (ev s2 rfl) (by rw [hw2, ← hs1]; exact bxDr9 _ _)) rfl hz (by decide) (fun Z2 zz kk s5x => ?_)
  replace s1 := ku s1
  replace s3 := ku s3
  clear kk hz s2 hw2
  have hz := zz
  have s5 := s5x
  clear zz s5x
  have hB := hB.trans (hb.mono (by omega))
  have HC := HC.bel hb
  clear hb
  have hv0 : Below w2.heap.size w2 w2 := Below.refl _ _
  obtain ⟨w3, hw3⟩ : ∃ y, y = w2.alloc (.cells zS8.cs.toArray 36) := ⟨_, rfl⟩
  have hb : Below w2.heap.size w2 w3 := by rw [hw3]; exact (Below.refl _ _).alloc (Nat.le_refl _) _
  have HZ : SB7 w3 (w.heap.size + 2) zS8 := by rw [hw3, ← hs2]; exact BX7.new _ _ _
  have hzz : w3.heap.size = w.heap.size + 3 := by rw [hw3]; simp; omega
  refine vw (.pointer (some ⟨w.heap.size + 2, 0, none⟩)) w3 (want_none rfl) (ex_al rfl (by rw [hw3, ← hs2]; exact al12 _)) rfl hz (by decide) (fun Ya zz kk s6 => ?_)
  replace s1 := ku s1
  replace s3 := ku s3
  replace s5 := ku s5
  replace hz := zz
  clear kk zz
  refine vt (.int .i64 0) (ex_assign rfl rfl) hz (fun Yb zz kk s7 => ?_)
  replace s1 := ku s1
  replace s3 := ku s3
  replace s5 := ku s5
  replace s6 := ku s6
  replace hz := zz
  clear kk zz Ya
  clear s7
  refine wpList_nil ?_
  have hB := hB.trans (hb.mono (by omega))
  have HC := HC.bel hb
  have HD := HD.bel hb
  clear hb hw3 hv0
  go_upto_region 1 with fail
  refine wp_region_lit ?_
  refine vt (c.val) (ex_ld rfl (ev s3 rfl) (CB7.ld HC)) hz (fun Yc zz kk s11 => ?_)
  replace s1 := ku s1
  replace s5 := ku s5
  replace s6 := ku s6
  replace hz := zz
  clear kk zz s3
  refine vt _ (ex_move rfl (ev s1 rfl)) hz (fun Yd zz kk s12 => ?_)
  replace s1 := ku s1
  replace s5 := ku s5
  replace s6 := ku s6
  replace s11 := ku s11
  replace hz := zz
  clear kk zz Yc
  refine vcallP (want_none rfl) (ex_call rfl (by simp only [List.map_toArray, List.map_cons, List.map_nil, (ev s11 rfl), (ev s12 rfl), evc] <;> rfl) rfl) (firstvector9 c x w3) rfl hz (by decide) ?_
  rintro e y2 ⟨v, rfl, hfv, b2⟩
  refine ⟨_, rfl, fun Ye zz kk s13 => ?_⟩
  have z2 := b2.size
  have HZ := HZ.bel b2
  have HD := HD.bel b2
  have hB := hB.trans (b2.mono (by omega))
  replace s1 := ku s1
  replace s5 := ku s5
  replace s6 := ku s6
  replace hz := zz
  clear kk zz s11 s12 Yd
  refine vt _ (ex_move rfl (ev s13 rfl)) hz (fun Yf zz kk s10 => ?_)
  replace s1 := ku s1
  replace s5 := ku s5
  replace s6 := ku s6
  replace hz := zz
  clear kk zz s13 Ye
  refine vt (v) (ex_ext8 rfl (ev s10 rfl) rfl) hz (fun Yg zz kk s14 => ?_)
  replace s1 := ku s1
  replace s5 := ku s5
  replace s6 := ku s6
  replace s10 := ku s10
  replace hz := zz
  clear kk zz Yf
  refine vt (.int .i64 (fvE9 c x)) (ex_ext8 rfl (ev s10 rfl) rfl) hz (fun Yh zz kk s15 => ?_)
  replace s1 := ku s1
  replace s5 := ku s5
  replace s6 := ku s6
  replace s14 := ku s14
  replace hz := zz
  clear kk zz s10 Yg
  refine vt _ (ex_assign rfl (ev s14 rfl)) hz (fun Yi zz kk s8 => ?_)
  replace s1 := ku s1
  replace s5 := ku s5
  replace s6 := ku s6
  replace s15 := ku s15
  replace hz := zz
  clear kk zz s14 Yh
  refine vt _ (ex_assign rfl (ev s15 rfl)) hz (fun Yj zz kk s9 => ?_)
  replace s1 := ku s1
  replace s5 := ku s5
  replace s6 := ku s6
  replace s8 := ku s8
  replace hz := zz
  clear kk zz s15 Yi
  refine wpList_nil ?_
  go_upto_region 2 with fail
  refine wp_region_lit ?_
  refine vt _ (ex_move rfl (ev s9 rfl)) hz (fun Yk zz kk s17 => ?_)
  replace s1 := ku s1
  replace s5 := ku s5
  replace s6 := ku s6
  replace s8 := ku s8
  replace s9 := ku s9
  replace hz := zz
  clear kk zz
  refine vt (.bool (!decide ((fvE9 c x) = 0))) (ex_bin rfl (ev s17 rfl) rfl (neqN8 _ _ _ _ _)) hz (fun Yl zz kk s18 => ?_)
  replace s1 := ku s1
  replace s5 := ku s5
  replace s6 := ku s6
  replace s8 := ku s8
  replace s9 := ku s9
  replace hz := zz
  clear kk zz s17 Yk
  refine vt _ (ex_assign rfl (ev s18 rfl)) hz (fun Ym zz kk s16 => ?_)
  replace s1 := ku s1
  replace s5 := ku s5
  replace s6 := ku s6
  replace s8 := ku s8
  replace s9 := ku s9
  replace hz := zz
  clear kk zz s18 Yl
  refine wpList_nil ?_
  go_upto_region 3 with fail
  cases e15 : decide (fvE9 c x = 0)
  · refine wp_cond_true ((ev s16 rfl).trans (by rw [e15]; rfl)) ?_
    clear s16
    have hne := of_decide_eq_false e15
    have hE : rbE9 c x d = fvE9 c x := if_neg hne
    go_upto_region 3 with fail
    refine wp_region_lit ?_
    refine vt (zS8.val) (ex_build rfl (bd12 _)) hz (fun Yn zz kk s19 => ?_)
    replace s6 := ku s6
    replace s9 := ku s9
    replace hz := zz
    clear kk zz s1 s5 s8
    refine vt _ (ex_move rfl (ev s9 rfl)) hz (fun Yo zz kk s20 => ?_)
    replace s6 := ku s6
    replace s19 := ku s19
    replace hz := zz
    clear kk zz s9 Yn
    refine vs (sets y2 (w.heap.size + 2) 0 (Sta.cs zS8)) (want_none rfl) (ex_st rfl (ev s6 rfl) (ev s19 rfl) (st12 HZ zS8)) rfl ?_
    have HP := SB7.put HZ zS8
    have UP := upd12 y2 (w.heap.size + 2) zS8
    obtain ⟨u9, hu9⟩ : ∃ v, v = sets y2 (w.heap.size + 2) 0 (Sta.cs zS8) := ⟨_, rfl⟩
    rw [← hu9] at HP UP ⊢
    clear hu9
    have hB9 := hide (hB.trans (UP.below (by omega) (fun k hk => by omega)))
    refine vt _ (ex_assign rfl (ev s20 rfl)) hz (fun Yp zz kk s7 => ?_)
    replace s6 := ku s6
    replace hz := zz
    clear kk zz s19 s20 Yo
    refine wpList_nil ?_
    go_wp2
    refine bodyPost_ret (results_sta2_9 rfl (getD_of s6) (getD_of s7) HP) rfl ?_
    rw [hE]
    exact ⟨zS8, rfl, zS8_in _, .inl ⟨by rw [hE]; exact hne, rfl⟩, hB9.out⟩
  · refine wp_cond_false ((ev s16 rfl).trans (by rw [e15]; rfl)) ?_
    clear s16 s9
    have hE0 := of_decide_eq_true e15
    rcases hfv with ⟨h0, _⟩ | ⟨_, g, n, hn, rfl, oV⟩
    · exact absurd hE0 h0
    go_upto_region 4 with fail
    refine wp_region_lit ?_
    refine vt (d.val) (ex_ld rfl (ev s5 rfl) (DRB9.ld HD)) hz (fun Yq zz kk s22 => ?_)
    replace s1 := ku s1
    replace s5 := ku s5
    replace s6 := ku s6
    replace s8 := ku s8
    replace hz := zz
    clear kk zz
    refine vt (.agg #[.int .u64 0, .int .u64 0]) (ex_build rfl (buildDr _)) hz (fun Yr zz kk s23 => ?_)
    replace s1 := ku s1
    replace s5 := ku s5
    replace s6 := ku s6
    replace s8 := ku s8
    replace s22 := ku s22
    replace hz := zz
    clear kk zz Yq
    refine vt (.bool (decide ((d.a, d.b) = ((0 : Int), (0 : Int))))) (ex_bin rfl (ev s22 rfl) (ev s23 rfl) (eqlDr9 _ _ (d.a, d.b) (0, 0) _)) hz (fun Ys zz kk s24 => ?_)
    replace s1 := ku s1
    replace s5 := ku s5
    replace s6 := ku s6
    replace s8 := ku s8
    replace hz := zz
    clear kk zz s22 s23 Yr
    refine vt _ (ex_assign rfl (ev s24 rfl)) hz (fun Yt zz kk s21 => ?_)
    replace s1 := ku s1
    replace s5 := ku s5
    replace s6 := ku s6
    replace s8 := ku s8
    replace hz := zz
    clear kk zz s24 Ys
    refine wpList_nil ?_
    go_upto_region 5 with fail
    cases ed : (decide ((d.a, d.b) = ((0 : Int), (0 : Int))))
    rotate_left
    · refine wp_cond_true ((ev s21 rfl).trans (congrArg Value.bool ed)) ?_
      clear s21
      have hE : rbE9 c x d = 3 := by unfold rbE9; rw [if_pos hE0, if_pos (of_decide_eq_true ed)]
      go_upto_region 5 with fail
      refine wp_region_lit ?_
      refine vt (zS8.val) (ex_build rfl (bd12 _)) hz (fun Yu zz kk s25 => ?_)
      replace s6 := ku s6
      replace hz := zz
      clear kk zz s1 s5 s8
      refine vs (sets y2 (w.heap.size + 2) 0 (Sta.cs zS8)) (want_none rfl) (ex_st rfl (ev s6 rfl) (ev s25 rfl) (st12 HZ zS8)) rfl ?_
      have HP := SB7.put HZ zS8
      have UP := upd12 y2 (w.heap.size + 2) zS8
      obtain ⟨u9, hu9⟩ : ∃ v, v = sets y2 (w.heap.size + 2) 0 (Sta.cs zS8) := ⟨_, rfl⟩
      rw [← hu9] at HP UP ⊢
      clear hu9
      have hB9 := hide (hB.trans (UP.below (by omega) (fun k hk => by omega)))
      refine vt (.int .i64 3) (ex_assign rfl rfl) hz (fun Yv zz kk s7 => ?_)
      replace s6 := ku s6
      replace hz := zz
      clear kk zz s25 Yu
      refine wpList_nil ?_
      go_wp2
      refine bodyPost_ret (results_sta2_9 rfl (getD_of s6) (getD_of s7) HP) rfl ?_
      rw [hE]
      exact ⟨zS8, rfl, zS8_in _, .inl ⟨by rw [hE]; omega, rfl⟩, hB9.out⟩
    refine wp_cond_false ((ev s21 rfl).trans (congrArg Value.bool ed)) ?_
    clear s21
    have hE : rbE9 c x d = 0 := by unfold rbE9; rw [if_pos hE0, if_neg (of_decide_eq_false ed)]
    obtain ⟨k, rfl, hk⟩ := fv_in9 hE0 hn
    have hy : (List.replicate n ((0 : Int), (0 : Int)))[k]? = some (0, 0) := List.getElem?_replicate_of_lt hk
    have hg := oV.blk g rfl
    go_upto_region 6 with fail
    refine wp_region_lit ?_
    refine vt _ (ex_move rfl (ev s8 rfl)) hz (fun Yw zz kk s26 => ?_)
    replace s1 := ku s1
    replace s5 := ku s5
    replace s6 := ku s6
    replace s8 := ku s8
    replace hz := zz
    clear kk zz
    refine vt _ (ex_move rfl (ev s1 rfl)) hz (fun Yx zz kk s27 => ?_)
    replace s1 := ku s1
    replace s5 := ku s5
    replace s6 := ku s6
    replace s8 := ku s8
    replace s26 := ku s26
    replace hz := zz
    clear kk zz Yw
    refine vt (d.val) (ex_ld rfl (ev s5 rfl) (DRB9.ld HD)) hz (fun Yy zz kk s28 => ?_)
    replace s1 := ku s1
    replace s6 := ku s6
    replace s8 := ku s8
    replace s26 := ku s26
    replace s27 := ku s27
    replace hz := zz
    clear kk zz s5 Yx
    refine vt (.pointer (some ⟨g, k * 2, none⟩)) (ex_ix rfl (ev s26 rfl) (ev s27 rfl) (ixVz9 g n n k hk _)) hz (fun Yz zz kk s29 => ?_)
    replace s1 := ku s1
    replace s6 := ku s6
    replace s8 := ku s8
    replace s28 := ku s28
    replace hz := zz
    clear kk zz s26 s27 Yy
    refine vs (sets y2 g (k * 2) (dcs9 (d.a, d.b))) (want_none rfl) (ex_st rfl (ev s29 rfl) (ev s28 rfl) (own_stD9 oV hy (d.a, d.b)).1) rfl ?_
    have OS := (own_stD9 oV hy (d.a, d.b)).2
    obtain ⟨y3, hy3⟩ : ∃ v, v = sets y2 g (k * 2) (dcs9 (d.a, d.b)) := ⟨_, rfl⟩
    rw [← hy3] at OS ⊢
    clear hy3
    obtain ⟨oW, UW⟩ := OS
    have HZ := HZ.upd UW (by show ¬ w.heap.size + 2 = g; omega)
    have zw := UW.size
    have hB := hB.trans (UW.below (by omega) (fun k hk => by omega))
    clear s28 s29
    refine wpList_nil ?_
    go_upto_region 7 with fail
    refine wp_region_lit ?_
    refine vt _ (ex_move rfl (ev s1 rfl)) hz (fun Y0 zz kk s30 => ?_)
    replace s6 := ku s6
    replace s8 := ku s8
    replace hz := zz
    clear kk zz s1
    refine vt _ (ex_move rfl (ev s8 rfl)) hz (fun Y1 zz kk s31 => ?_)
    replace s6 := ku s6
    replace s30 := ku s30
    replace hz := zz
    clear kk zz s8 Y0
    refine vt (Sta.val (vst9 (k : Int) 3 g n ((List.replicate n ((0 : Int), (0 : Int))).set k (d.a, d.b)))) (ex_buildP rfl (by simp only [List.map_toArray, List.map_cons, List.map_nil, (ev s30 rfl), (ev s31 rfl), evc] <;> rfl) (bdW9 _ _ _ _ _ (by simp) _)) hz (fun Y2 zz kk s32 => ?_)
    replace s6 := ku s6
    replace hz := zz
    clear kk zz s30 s31 Y1
    refine vs (sets y3 (w.heap.size + 2) 0 (Sta.cs (vst9 (k : Int) 3 g n ((List.replicate n ((0 : Int), (0 : Int))).set k (d.a, d.b))))) (want_none rfl) (ex_st rfl (ev s6 rfl) (ev s32 rfl) (st12 HZ (vst9 (k : Int) 3 g n ((List.replicate n ((0 : Int), (0 : Int))).set k (d.a, d.b))))) rfl ?_
    have HP := SB7.put HZ (vst9 (k : Int) 3 g n ((List.replicate n ((0 : Int), (0 : Int))).set k (d.a, d.b)))
    have UP := upd12 y3 (w.heap.size + 2) (vst9 (k : Int) 3 g n ((List.replicate n ((0 : Int), (0 : Int))).set k (d.a, d.b)))
    obtain ⟨u9, hu9⟩ : ∃ v, v = sets y3 (w.heap.size + 2) 0 (Sta.cs (vst9 (k : Int) 3 g n ((List.replicate n ((0 : Int), (0 : Int))).set k (d.a, d.b)))) := ⟨_, rfl⟩
    rw [← hu9] at HP UP ⊢
    clear hu9
    have hB9 := hide (hB.trans (UP.below (by omega) (fun k hk => by omega)))
    refine vt (.int .i64 0) (ex_assign rfl rfl) hz (fun Y3 zz kk s7 => ?_)
    replace s6 := ku s6
    replace hz := zz
    clear kk zz s32 Y2
    refine wpList_nil ?_
    go_wp2
    refine bodyPost_ret (results_sta2_9 rfl (getD_of s6) (getD_of s7) HP) rfl ?_
    rw [hE]
    have oW2 := oW.upd1 UP (fun j hj e => by have := (oW.blk j hj).1; omega)
    exact ⟨(vst9 (k : Int) 3 g n ((List.replicate n ((0 : Int), (0 : Int))).set k (d.a, d.b))), rfl, vst9_in (by rw [List.length_set, List.length_replicate]; exact oW2.sl' kD), .inr ⟨hE, g, n, n, k, hn, rfl, rfl⟩, hB9.out⟩
set_option maxHeartbeats 1000000 in
theorem rself9 (c : Cg) (x : Int) (w : World)  : Calls Tryz.prog 56 #[c.val, .int .i64 x] w fun e w' => e = .returned (.int .i64 (fvE9 c x)) ∧ Below w.heap.size w w' := by
  go_enter Tryz.func56, Tryz.ntmps56
  go_upto_region 0 with fail
  refine wp_region_lit ?_
  refine vl_gen (fun T => T.size = 21 ∧ T[0]? = some (gw true (c.val)) ∧ T[1]? = some (gw true (.int .i64 x))) ⟨rfl, rfl, rfl⟩ (fun Z0 ⟨hz, s0, s1⟩ => ?_)
  obtain ⟨w1, hw1⟩ : ∃ y, y = w.alloc (.cells c.cs.toArray 23) := ⟨_, rfl⟩
  have hb : Below w.heap.size w w1 := by rw [hw1]; exact (Below.refl _ _).alloc (Nat.le_refl _) _
  have hs1 : w1.heap.size = w.heap.size + 1 := by rw [hw1]; simp
  have HC : CB7 w1 (w.heap.size) c := by rw [hw1]; exact BX7.new _ _ _
  refine vw (.pointer (some ⟨w.heap.size, 0, none⟩)) w1 (want_none rfl) (ex_box8 rfl (ev s0 rfl) (by rw [hw1]; exact bxC7 _ _)) rfl hz (by decide) (fun Z1 zz kk s2x => ?_)
  replace s1 := ku s1
  clear kk hz s0 hw1
  have hz := zz
  have s2 := s2x
  clear zz s2x
  have hB := hb
  clear hb
  have hv0 : Below w1.heap.size w1 w1 := Below.refl _ _
  refine vt (.int .i64 0) (ex_assign rfl rfl) hz (fun Ya zz kk s4 => ?_)
  replace s1 := ku s1
  replace s2 := ku s2
  replace hz := zz
  clear kk zz
  clear s4
  refine wpList_nil ?_
  go_upto_region 1 with fail
  refine wp_region_lit ?_
  refine vt (c.val) (ex_ld rfl (ev s2 rfl) (CB7.ld (HC.bel hv0))) hz (fun Yb zz kk s6 => ?_)
  replace s1 := ku s1
  replace s2 := ku s2
  replace hz := zz
  clear kk zz
  refine vcall true (.int .i64 c.er) (want_none rfl) (fun hc => ex_call rfl (by simp only [List.map_toArray, List.map_cons, List.map_nil, (ev s6 rfl), evc] <;> rfl) rfl) (fun hc => rcheckconfig9 c w1) rfl hz (by decide) (fun Yc x1 hb zz kk s7 => ?_)
  have hx1 := hv0.trans (hb.mono hv0.size)
  clear hb
  replace s1 := ku s1
  replace s2 := ku s2
  replace hz := zz
  clear kk zz s6 Yb
  refine vt _ (ex_assign rfl (ev s7 rfl)) hz (fun Yd zz kk s5 => ?_)
  replace s1 := ku s1
  replace s2 := ku s2
  replace hz := zz
  clear kk zz s7 Yc
  refine wpList_nil ?_
  go_upto_region 2 with fail
  refine wp_region_lit ?_
  refine vt _ (ex_move rfl (ev s5 rfl)) hz (fun Ye zz kk s8 => ?_)
  replace s1 := ku s1
  replace s2 := ku s2
  replace s5 := ku s5
  replace hz := zz
  clear kk zz
  refine vt (.bool (decide (c.er = 0))) (ex_bin rfl (ev s8 rfl) rfl (eqlC _ _ _ _ _)) hz (fun Yf zz kk s9 => ?_)
  replace s1 := ku s1
  replace s2 := ku s2
  replace s5 := ku s5
  replace hz := zz
  clear kk zz s8 Ye
  refine vt _ (ex_move rfl (ev s9 rfl)) hz (fun Yg zz kk s10 => ?_)
  replace s1 := ku s1
  replace s2 := ku s2
  replace s5 := ku s5
  replace hz := zz
  clear kk zz s9 Yf
  refine vl _ _ (want_g rfl rfl s10) (fun hc => ex_move rfl (ev s1 rfl)) rfl hz (by decide) (fun Yh zz kk s11 => ?_)
  replace s1 := ku s1
  replace s2 := ku s2
  replace s5 := ku s5
  replace s10 := ku s10
  replace hz := zz
  clear kk zz Yg
  refine vl _ (.bool (decide (x < 0))) (want_g rfl rfl s10) (fun hc => ex_bin rfl (ev s11 hc) rfl (lssC _ _ _ _ _)) rfl hz (by decide) (fun Yi zz kk s12 => ?_)
  replace s1 := ku s1
  replace s2 := ku s2
  replace s5 := ku s5
  replace s10 := ku s10
  replace hz := zz
  clear kk zz s11 Yh
  refine vl _ _ (want_g rfl rfl s10) (fun hc => ex_move rfl (ev s12 hc)) rfl hz (by decide) (fun Yj zz kk s13 => ?_)
  replace s1 := ku s1
  replace s2 := ku s2
  replace s5 := ku s5
  replace s10 := ku s10
  replace hz := zz
  clear kk zz s12 Yi
  refine vl ((true && ((decide (c.er = 0)) == true)) && ((decide (x < 0)) == false)) (.int .i64 x) (want_g rfl rfl s13) (fun hc => ex_move rfl (ev s1 rfl)) rfl hz (by decide) (fun Yk zz kk s14 => ?_)
  replace s2 := ku s2
  replace s5 := ku s5
  replace s10 := ku s10
  replace s13 := ku s13
  replace hz := zz
  clear kk zz s1 Yj
  refine vl ((true && ((decide (c.er = 0)) == true)) && ((decide (x < 0)) == false)) (c.val) (want_g rfl rfl s13) (fun hc => ex_ld rfl (ev s2 rfl) (CB7.ld (HC.bel hx1))) rfl hz (by decide) (fun Yl zz kk s15 => ?_)
  replace s5 := ku s5
  replace s10 := ku s10
  replace s13 := ku s13
  replace s14 := ku s14
  replace hz := zz
  clear kk zz s2 Yk
  refine vcall ((true && ((decide (c.er = 0)) == true)) && ((decide (x < 0)) == false)) (.int .i64 c.nd) (want_g rfl rfl s13) (fun hc => ex_call rfl (by simp only [List.map_toArray, List.map_cons, List.map_nil, (ev s15 hc), evc] <;> rfl) rfl) (fun hc => rnodes9 c x1) rfl hz (by decide) (fun Ym x2 hb zz kk s16 => ?_)
  have hx2 := hx1.trans (hb.mono hx1.size)
  clear hb
  replace s5 := ku s5
  replace s10 := ku s10
  replace s13 := ku s13
  replace s14 := ku s14
  replace hz := zz
  clear kk zz s15 Yl
  refine vl ((true && ((decide (c.er = 0)) == true)) && ((decide (x < 0)) == false)) (.bool (decide (c.nd ≤ x))) (want_g rfl rfl s13) (fun hc => ex_bin rfl (ev s14 hc) (ev s16 hc) (geqC _ _ _ _ _)) rfl hz (by decide) (fun Yn zz kk s17 => ?_)
  replace s5 := ku s5
  replace s10 := ku s10
  replace s13 := ku s13
  replace hz := zz
  clear kk zz s14 s16 Ym
  refine vl _ (.bool ((decide (x < 0)) || (decide (c.nd ≤ x)))) (want_g rfl rfl s10) (fun hc => ex_or rfl s13 s17 hc) rfl hz (by decide) (fun Yo zz kk s18 => ?_)
  replace s5 := ku s5
  replace s10 := ku s10
  replace hz := zz
  clear kk zz s13 s17 Yn
  refine vt (.bool ((decide (c.er = 0)) && ((decide (x < 0)) || (decide (c.nd ≤ x))))) (ex_and rfl s10 s18 rfl) hz (fun Yp zz kk s19 => ?_)
  replace s5 := ku s5
  replace hz := zz
  clear kk zz s10 s18 Yo
  refine wpList_nil ?_
  go_upto_region 3 with fail
  cases eo : c.okB
  · refine wp_cond_false ((ev s19 rfl).trans (congrArg Value.bool (show (((decide (c.er = 0)) && ((decide (x < 0)) || (decide (c.nd ≤ x))))) = false by unfold Cg.er; rw [eo]; rfl))) ?_
    clear s19
    go_upto_region 4 with fail
    refine wp_region_lit ?_
    refine vt _ (ex_move rfl (ev s5 rfl)) hz (fun Yq zz kk s20 => ?_)
    replace hz := zz
    clear kk zz s5
    refine vt _ (ex_assign rfl (ev s20 rfl)) hz (fun Yr zz kk s4 => ?_)
    replace hz := zz
    clear kk zz s20 Yq
    refine wpList_nil ?_
    go_wp2
    refine bodyPost_ret (results_tmp rfl _ _ _) rfl ⟨?_, hB.trans (hx2.mono (by omega))⟩
    rw [getD_of s4]
    rw [show c.er = fvE9 c x from by unfold Cg.er fvE9; rw [eo]; rfl]
    rfl
  · obtain ⟨n1, n2, n3⟩ := Cg.nd_ok eo
    cases ei : inB x 0 (c.nd - 1)
    · have hbad : (decide (x < 0) || decide (c.nd ≤ x)) = true := by have : ¬ (0 ≤ x ∧ x ≤ c.nd - 1) := fun h => (by rw [inB_iff.2 h] at ei; cases ei); simp only [Bool.or_eq_true, decide_eq_true_eq]; omega
      refine wp_cond_true ((ev s19 rfl).trans (congrArg Value.bool (show (((decide (c.er = 0)) && ((decide (x < 0)) || (decide (c.nd ≤ x))))) = true by unfold Cg.er; rw [eo, hbad]; rfl))) ?_
      clear s19
      clear s5
      go_upto_region 3 with fail
      refine wp_region_lit ?_
      refine vt (.int .i64 3) (ex_assign rfl rfl) hz (fun Ys zz kk s5 => ?_)
      replace hz := zz
      clear kk zz
      refine wpList_nil ?_
      go_upto_region 4 with fail
      refine wp_region_lit ?_
      refine vt _ (ex_move rfl (ev s5 rfl)) hz (fun Yt zz kk s20 => ?_)
      replace hz := zz
      clear kk zz s5
      refine vt _ (ex_assign rfl (ev s20 rfl)) hz (fun Yu zz kk s4 => ?_)
      replace hz := zz
      clear kk zz s20 Yt
      refine wpList_nil ?_
      go_wp2
      refine bodyPost_ret (results_tmp rfl _ _ _) rfl ⟨?_, hB.trans (hx2.mono (by omega))⟩
      rw [getD_of s4]
      rw [show fvE9 c x = 3 from by unfold fvE9; rw [eo, ei]; rfl]
      rfl
    · have hgood : (decide (x < 0) || decide (c.nd ≤ x)) = false := by have := inB_iff.1 ei; simp only [Bool.or_eq_false_iff, decide_eq_false_iff_not]; omega
      refine wp_cond_false ((ev s19 rfl).trans (congrArg Value.bool (show (((decide (c.er = 0)) && ((decide (x < 0)) || (decide (c.nd ≤ x))))) = false by unfold Cg.er; rw [eo, hgood]; rfl))) ?_
      clear s19
      go_upto_region 4 with fail
      refine wp_region_lit ?_
      refine vt _ (ex_move rfl (ev s5 rfl)) hz (fun Yv zz kk s20 => ?_)
      replace hz := zz
      clear kk zz s5
      refine vt _ (ex_assign rfl (ev s20 rfl)) hz (fun Yw zz kk s4 => ?_)
      replace hz := zz
      clear kk zz s20 Yv
      refine wpList_nil ?_
      go_wp2
      refine bodyPost_ret (results_tmp rfl _ _ _) rfl ⟨?_, hB.trans (hx2.mono (by omega))⟩
      rw [getD_of s4]
      rw [show c.er = fvE9 c x from by unfold Cg.er fvE9; rw [eo, ei]; rfl]
      rfl
set_option maxHeartbeats 1000000 in
theorem rfirst9 (c : Cg) (x : Int) (w : World)  : Calls Tryz.prog 14 #[c.val, .int .i64 x] w fun e w' => ∃ t : Sta, e = .returned (.tuple #[t.val, .int .i64 (fvE9 c x)]) ∧ t.In w' ∧ Fs9 w.heap.size c x 1 t w' ∧ Below w.heap.size w w' := by
  go_enter Tryz.func14, Tryz.ntmps14
  go_upto_region 0 with fail
  refine wp_region_lit ?_
  refine vl_gen (fun T => T.size = 19 ∧ T[0]? = some (gw true (c.val)) ∧ T[1]? = some (gw true (.int .i64 x))) ⟨rfl, rfl, rfl⟩ (fun Z0 ⟨hz, s0, s1⟩ => ?_)
  obtain ⟨w1, hw1⟩ : ∃ y, y = w.alloc (.cells c.cs.toArray 23) := ⟨_, rfl⟩
  have hb : Below w.heap.size w w1 := by rw [hw1]; exact (Below.refl _ _).alloc (Nat.le_refl _) _
  have hs1 : w1.heap.size = w.heap.size + 1 := by rw [hw1]; simp
  have HC : CB7 w1 (w.heap.size) c := by rw [hw1]; exact BX7.new _ _ _
  refine vw (.pointer (some ⟨w.heap.size, 0, none⟩)) w1 (want_none rfl) (ex_box8 rfl (ev s0 rfl) (by rw [hw1]; exact bxC7 _ _)) rfl hz (by decide) (fun Z1 zz kk s2x => ?_)
  replace s1 := ku s1
  clear kk hz s0 hw1
  have hz := zz
  have s2 := s2x
  clear zz s2x
  have hB := hb
  clear hb
  have hv0 : Below w1.heap.size w1 w1 := Below.refl _ _
  obtain ⟨w2, hw2⟩ : ∃ y, y = w1.alloc (.cells zS8.cs.toArray 36) := ⟨_, rfl⟩
  have hb : Below w1.heap.size w1 w2 := by rw [hw2]; exact (Below.refl _ _).alloc (Nat.le_refl _) _
  have HZ : SB7 w2 (w.heap.size + 1) zS8 := by rw [hw2, ← hs1]; exact BX7.new _ _ _
  have hzz : w2.heap.size = w.heap.size + 2 := by rw [hw2]; simp; omega
  refine vw (.pointer (some ⟨w.heap.size + 1, 0, none⟩)) w2 (want_none rfl) (ex_al rfl (by rw [hw2, ← hs1]; exact al12 _)) rfl hz (by decide) (fun Ya zz kk s4 => ?_)
  replace s1 := ku s1
  replace s2 := ku s2
  replace hz := zz
  clear kk zz
  refine vt (.int .i64 0) (ex_assign rfl rfl) hz (fun Yb zz kk s5 => ?_)
  replace s1 := ku s1
  replace s2 := ku s2
  replace s4 := ku s4
  replace hz := zz
  clear kk zz Ya
  clear s5
  refine wpList_nil ?_
  have hB := hB.trans (hb.mono (by omega))
  have HC := HC.bel hb
  clear hb hw2 hv0
  have hv0 : Below w2.heap.size w2 w2 := Below.refl _ _
  go_upto_region 1 with fail
  refine wp_region_lit ?_
  refine vt (c.val) (ex_ld rfl (ev s2 rfl) (CB7.ld (HC.bel hv0))) hz (fun Yc zz kk s7 => ?_)
  replace s1 := ku s1
  replace s2 := ku s2
  replace s4 := ku s4
  replace hz := zz
  clear kk zz
  refine vt _ (ex_move rfl (ev s1 rfl)) hz (fun Yd zz kk s8 => ?_)
  replace s1 := ku s1
  replace s2 := ku s2
  replace s4 := ku s4
  replace s7 := ku s7
  replace hz := zz
  clear kk zz Yc
  refine vcall true (.int .i64 (fvE9 c (x))) (want_none rfl) (fun hc => ex_call rfl (by simp only [List.map_toArray, List.map_cons, List.map_nil, (ev s7 rfl), (ev s8 rfl), evc] <;> rfl) rfl) (fun hc => rself9 c (x) w2) rfl hz (by decide) (fun Ye x1 hb zz kk s9 => ?_)
  have hx1 := hv0.trans (hb.mono hv0.size)
  clear hb
  replace s1 := ku s1
  replace s2 := ku s2
  replace s4 := ku s4
  replace hz := zz
  clear kk zz s7 s8 Yd
  refine vt _ (ex_assign rfl (ev s9 rfl)) hz (fun Yf zz kk s6 => ?_)
  replace s1 := ku s1
  replace s2 := ku s2
  replace s4 := ku s4
  replace hz := zz
  clear kk zz s9 Ye
  refine wpList_nil ?_
  go_upto_region 2 with fail
  refine wp_region_lit ?_
  refine vt _ (ex_move rfl (ev s6 rfl)) hz (fun Yg zz kk s10 => ?_)
  replace s1 := ku s1
  replace s2 := ku s2
  replace s4 := ku s4
  replace s6 := ku s6
  replace hz := zz
  clear kk zz
  refine vt (.bool (!decide ((fvE9 c (x)) = 0))) (ex_bin rfl (ev s10 rfl) rfl (neqC _ _ _ _ _)) hz (fun Yh zz kk s11 => ?_)
  replace s1 := ku s1
  replace s2 := ku s2
  replace s4 := ku s4
  replace s6 := ku s6
  replace hz := zz
  clear kk zz s10 Yg
  refine wpList_nil ?_
  have hB := hB.trans (hx1.mono (by omega))
  have HZ := HZ.bel hx1
  have zx := hx1.size
  go_upto_region 3 with fail
  cases e15 : decide (fvE9 c x = 0)
  · refine wp_cond_true ((ev s11 rfl).trans (by rw [e15]; rfl)) ?_
    clear s11
    have hne := of_decide_eq_false e15
    go_upto_region 3 with fail
    refine wp_region_lit ?_
    refine vt (zS8.val) (ex_build rfl (bd12 _)) hz (fun Yi zz kk s12 => ?_)
    replace s4 := ku s4
    replace s6 := ku s6
    replace hz := zz
    clear kk zz s1 s2
    refine vt _ (ex_move rfl (ev s6 rfl)) hz (fun Yj zz kk s13 => ?_)
    replace s4 := ku s4
    replace s12 := ku s12
    replace hz := zz
    clear kk zz s6 Yi
    refine vs (sets x1 (w.heap.size + 1) 0 (Sta.cs zS8)) (want_none rfl) (ex_st rfl (ev s4 rfl) (ev s12 rfl) (st12 HZ zS8)) rfl ?_
    have HP := SB7.put HZ zS8
    have UP := upd12 x1 (w.heap.size + 1) zS8
    obtain ⟨u9, hu9⟩ : ∃ v, v = sets x1 (w.heap.size + 1) 0 (Sta.cs zS8) := ⟨_, rfl⟩
    rw [← hu9] at HP UP ⊢
    clear hu9
    have hB9 := hide (hB.trans (UP.below (by omega) (fun k hk => by omega)))
    refine vt _ (ex_assign rfl (ev s13 rfl)) hz (fun Yk zz kk s5 => ?_)
    replace s4 := ku s4
    replace hz := zz
    clear kk zz s12 s13 Yj
    refine wpList_nil ?_
    go_wp2
    refine bodyPost_ret (results_sta2_9 rfl (getD_of s4) (getD_of s5) HP) rfl ?_
    exact ⟨zS8, rfl, zS8_in _, .inl ⟨hne, rfl⟩, hB9.out⟩
  · refine wp_cond_false ((ev s11 rfl).trans (by rw [e15]; rfl)) ?_
    clear s11 s6
    have hE := of_decide_eq_true e15
    obtain ⟨n, hn, hn7⟩ := fv_nd9 hE
    go_upto_region 4 with fail
    refine wp_region_lit ?_
    refine vt _ (ex_move rfl (ev s1 rfl)) hz (fun Yl zz kk s14 => ?_)
    replace s2 := ku s2
    replace s4 := ku s4
    replace hz := zz
    clear kk zz s1
    refine vt (c.val) (ex_ld rfl (ev s2 rfl) (CB7.ld (HC.bel hx1))) hz (fun Ym zz kk s15 => ?_)
    replace s4 := ku s4
    replace s14 := ku s14
    replace hz := zz
    clear kk zz s2 Yl
    refine vcallP (want_none rfl) (ex_call rfl (by simp only [List.map_toArray, List.map_cons, List.map_nil, (ev s15 rfl), evc] <;> rfl) rfl) (rnodes9 c x1) rfl hz (by decide) ?_
    rintro e y2 ⟨rfl, hb⟩
    refine ⟨_, rfl, fun Yn zz kk s16 => ?_⟩
    have zy := hb.size
    have hB := hB.trans (hb.mono (by omega))
    have HZ := HZ.bel hb
    obtain ⟨y3, hmk, oV, bY⟩ := mkD9 n hn7 y2
    have zy3 := bY.size
    have hB := hB.trans (bY.mono (by omega))
    have HZ := HZ.bel bY
    replace s4 := ku s4
    replace s14 := ku s14
    replace hz := zz
    clear kk zz s15 Ym
    refine vw (.slice (some ⟨y2.heap.size, 0, none⟩) n n) y3 (want_none rfl) (ex_mk9 rfl (ev s16 rfl) (ev s16 rfl) (by rw [hn]; exact hmk)) rfl hz (by decide) (fun Yo zz kk s17 => ?_)
    replace s4 := ku s4
    replace s14 := ku s14
    replace hz := zz
    clear kk zz s16 Yn
    refine vt (Sta.val (fst9 x 1 y2.heap.size n)) (ex_buildP rfl (by simp only [List.map_toArray, List.map_cons, List.map_nil, (ev s14 rfl), (ev s17 rfl), evc] <;> rfl) (bdF9 _ _ _ _ _)) hz (fun Yp zz kk s18 => ?_)
    replace s4 := ku s4
    replace hz := zz
    clear kk zz s14 s17 Yo
    refine vs (sets y3 (w.heap.size + 1) 0 (Sta.cs (fst9 x 1 y2.heap.size n))) (want_none rfl) (ex_st rfl (ev s4 rfl) (ev s18 rfl) (st12 HZ (fst9 x 1 y2.heap.size n))) rfl ?_
    have HP := SB7.put HZ (fst9 x 1 y2.heap.size n)
    have UP := upd12 y3 (w.heap.size + 1) (fst9 x 1 y2.heap.size n)
    obtain ⟨u9, hu9⟩ : ∃ v, v = sets y3 (w.heap.size + 1) 0 (Sta.cs (fst9 x 1 y2.heap.size n)) := ⟨_, rfl⟩
    rw [← hu9] at HP UP ⊢
    clear hu9
    have hB9 := hide (hB.trans (UP.below (by omega) (fun k hk => by omega)))
    refine vt (.int .i64 0) (ex_assign rfl rfl) hz (fun Yq zz kk s5 => ?_)
    replace s4 := ku s4
    replace hz := zz
    clear kk zz s18 Yp
    refine wpList_nil ?_
    go_wp2
    refine bodyPost_ret (results_sta2_9 rfl (getD_of s4) (getD_of s5) HP) rfl ?_
    rw [hE]
    have oV2 := oV.upd1 UP (fun k hk e => by have := (oV.blk k hk).1; omega)
    exact ⟨(fst9 x 1 y2.heap.size n), rfl, fst9_in (oV2.sl' kD), .inr ⟨hE, y2.heap.size, n, hn, rfl, oV2.low (by omega)⟩, hB9.out⟩
set_option maxHeartbeats 1000000 in
theorem rreborn9 (c : Cg) (x : Int) (d : Dr9) (w : World)  : Calls Tryz.prog 16 #[c.val, .int .i64 x, d.val] w fun e w' => ∃ t : Sta, e = .returned (.tuple #[t.val, .int .i64 (rbE9 c x d)]) ∧ t.In w' ∧ Rb9 c x d t ∧ Below w.heap.size w w' := by
  go_enter Tryz.func16, Tryz.ntmps16
  go_upto_region 0 with fail
  refine wp_region_lit ?_
  refine vl_gen (fun T => T.size = 35 ∧ T[0]? = some (gw true (c.val)) ∧ T[2]? = some (gw true (d.val)) ∧ T[1]? = some (gw true (.int .i64 x))) ⟨rfl, rfl, rfl, rfl⟩ (fun Z0 ⟨hz, s0, s2, s1⟩ => ?_)
  obtain ⟨w1, hw1⟩ : ∃ y, y = w.alloc (.cells c.cs.toArray 23) := ⟨_, rfl⟩
  have hb : Below w.heap.size w w1 := by rw [hw1]; exact (Below.refl _ _).alloc (Nat.le_refl _) _
  have hs1 : w1.heap.size = w.heap.size + 1 := by rw [hw1]; simp
  have HC : CB7 w1 (w.heap.size) c := by rw [hw1]; exact BX7.new _ _ _
  refine vw (.pointer (some ⟨w.heap.size, 0, none⟩)) w1 (want_none rfl) (ex_box8 rfl (ev s0 rfl) (by rw [hw1]; exact bxC7 _ _)) rfl hz (by decide) (fun Z1 zz kk s3x => ?_)
  replace s2 := ku s2
  replace s1 := ku s1
  clear kk hz s0 hw1
  have hz := zz
  have s3 := s3x
  clear zz s3x
  have hB := hb
  clear hb
  obtain ⟨w2, hw2⟩ : ∃ y, y = w1.alloc (.cells d.cs.toArray 26) := ⟨_, rfl⟩
  have hb : Below w1.heap.size w1 w2 := by rw [hw2]; exact (Below.refl _ _).alloc (Nat.le_refl _) _
  have hs2 : w2.heap.size = w.heap.size + 2 := by rw [hw2]; simp; omega
  have HD : DRB9 w2 (w.heap.size + 1) d := by rw [hw2, ← hs1]; exact BX7.new _ _ _
  refine vw (.pointer (some ⟨w.heap.size + 1, 0, none⟩)) w2 (want_none rfl) (ex_box8 rfl (ev s2 rfl) (by rw [hw2, ← hs1]; exact bxDr9 _ _)) rfl hz (by decide) (fun Z2 zz kk s5x => ?_)
  replace s1 := ku s1
  replace s3 := ku s3
  clear kk hz s2 hw2
  have hz := zz
  have s5 := s5x
  clear zz s5x
  have hB := hB.trans (hb.mono (by omega))
  have HC := HC.bel hb
  clear hb
  have hv0 : Below w2.heap.size w2 w2 := Below.refl _ _
  obtain ⟨w3, hw3⟩ : ∃ y, y = w2.alloc (.cells zS8.cs.toArray 36) := ⟨_, rfl⟩
  have hb : Below w2.heap.size w2 w3 := by rw [hw3]; exact (Below.refl _ _).alloc (Nat.le_refl _) _
  have HZ : SB7 w3 (w.heap.size + 2) zS8 := by rw [hw3, ← hs2]; exact BX7.new _ _ _
  have hzz : w3.heap.size = w.heap.size + 3 := by rw [hw3]; simp; omega
  refine vw (.pointer (some ⟨w.heap.size + 2, 0, none⟩)) w3 (want_none rfl) (ex_al rfl (by rw [hw3, ← hs2]; exact al12 _)) rfl hz (by decide) (fun Ya zz kk s6 => ?_)
  replace s1 := ku s1
  replace s3 := ku s3
  replace s5 := ku s5
  replace hz := zz
  clear kk zz
  refine vt (.int .i64 0) (ex_assign rfl rfl) hz (fun Yb zz kk s7 => ?_)
  replace s1 := ku s1
  replace s3 := ku s3
  replace s5 := ku s5
  replace s6 := ku s6
  replace hz := zz
  clear kk zz Ya
  clear s7
  refine wpList_nil ?_
  have hB := hB.trans (hb.mono (by omega))
  have HC := HC.bel hb
  have HD := HD.bel hb
  clear hb hw3 hv0
  have hv0 : Below w3.heap.size w3 w3 := Below.refl _ _
  go_upto_region 1 with fail
  refine wp_region_lit ?_
  refine vt (c.val) (ex_ld rfl (ev s3 rfl) (CB7.ld HC)) hz (fun Yc zz kk s10 => ?_)
  replace s1 := ku s1
  replace s3 := ku s3
  replace s5 := ku s5
  replace s6 := ku s6
  replace hz := zz
  clear kk zz
  refine vt _ (ex_move rfl (ev s1 rfl)) hz (fun Yd zz kk s11 => ?_)
  replace s1 := ku s1
  replace s3 := ku s3
  replace s5 := ku s5
  replace s6 := ku s6
  replace s10 := ku s10
  replace hz := zz
  clear kk zz Yc
  refine vcall true (.int .i64 (fvE9 c (x))) (want_none rfl) (fun hc => ex_call rfl (by simp only [List.map_toArray, List.map_cons, List.map_nil, (ev s10 rfl), (ev s11 rfl), evc] <;> rfl) rfl) (fun hc => rself9 c (x) w3) rfl hz (by decide) (fun Ye x1 hb zz kk s12 => ?_)
  have hx1 := hv0.trans (hb.mono hv0.size)
  clear hb
  replace s1 := ku s1
  replace s3 := ku s3
  replace s5 := ku s5
  replace s6 := ku s6
  replace hz := zz
  clear kk zz s10 s11 Yd
  refine vt _ (ex_assign rfl (ev s12 rfl)) hz (fun Yf zz kk s8 => ?_)
  replace s1 := ku s1
  replace s3 := ku s3
  replace s5 := ku s5
  replace s6 := ku s6
  replace hz := zz
  clear kk zz s12 Ye
  refine wpList_nil ?_
  have hB := hB.trans (hx1.mono (by omega))
  have HZ := HZ.bel hx1
  have HD := HD.bel hx1
  have HC := HC.bel hx1
  have zx := hx1.size
  go_upto_region 2 with fail
  refine wp_region_lit ?_
  refine vt _ (ex_move rfl (ev s8 rfl)) hz (fun Yg zz kk s13 => ?_)
  replace s1 := ku s1
  replace s3 := ku s3
  replace s5 := ku s5
  replace s6 := ku s6
  replace s8 := ku s8
  replace hz := zz
  clear kk zz
  refine vt (.bool (decide ((fvE9 c (x)) = 0))) (ex_bin rfl (ev s13 rfl) rfl (eqlC _ _ _ _ _)) hz (fun Yh zz kk s14 => ?_)
  replace s1 := ku s1
  replace s3 := ku s3
  replace s5 := ku s5
  replace s6 := ku s6
  replace s8 := ku s8
  replace hz := zz
  clear kk zz s13 Yg
  refine vt _ (ex_move rfl (ev s14 rfl)) hz (fun Yi zz kk s15 => ?_)
  replace s1 := ku s1
  replace s3 := ku s3
  replace s5 := ku s5
  replace s6 := ku s6
  replace s8 := ku s8
  replace hz := zz
  clear kk zz s14 Yh
  refine vl _ (d.val) (want_g rfl rfl s15) (fun hc => ex_ld rfl (ev s5 rfl) (DRB9.ld HD)) rfl hz (by decide) (fun Yj zz kk s16 => ?_)
  replace s1 := ku s1
  replace s3 := ku s3
  replace s5 := ku s5
  replace s6 := ku s6
  replace s8 := ku s8
  replace s15 := ku s15
  replace hz := zz
  clear kk zz Yi
  refine vl _ (.agg #[.int .u64 0, .int .u64 0]) (want_g rfl rfl s15) (fun hc => ex_build rfl (buildDr _)) rfl hz (by decide) (fun Yk zz kk s17 => ?_)
  replace s1 := ku s1
  replace s3 := ku s3
  replace s5 := ku s5
  replace s6 := ku s6
  replace s8 := ku s8
  replace s15 := ku s15
  replace s16 := ku s16
  replace hz := zz
  clear kk zz Yj
  refine vl _ (.bool (decide ((d.a, d.b) = ((0 : Int), (0 : Int))))) (want_g rfl rfl s15) (fun hc => ex_bin rfl (ev s16 hc) (ev s17 hc) (eqlDr9 _ _ (d.a, d.b) (0, 0) _)) rfl hz (by decide) (fun Yl zz kk s18 => ?_)
  replace s1 := ku s1
  replace s3 := ku s3
  replace s5 := ku s5
  replace s6 := ku s6
  replace s8 := ku s8
  replace s15 := ku s15
  replace hz := zz
  clear kk zz s16 s17 Yk
  refine vt (.bool ((decide ((fvE9 c (x)) = 0)) && (decide ((d.a, d.b) = ((0 : Int), (0 : Int)))))) (ex_and rfl s15 s18 rfl) hz (fun Ym zz kk s19 => ?_)
  replace s1 := ku s1
  replace s3 := ku s3
  replace s5 := ku s5
  replace s6 := ku s6
  replace s8 := ku s8
  replace hz := zz
  clear kk zz s15 s18 Yl
  refine wpList_nil ?_
  go_upto_region 3 with fail
  cases e0 : decide (fvE9 c x = 0)
  · refine wp_cond_false ((ev s19 rfl).trans (congrArg Value.bool (show (((decide ((fvE9 c (x)) = 0)) && (decide ((d.a, d.b) = ((0 : Int), (0 : Int)))))) = false by rw [e0]; rfl))) ?_
    clear s19
    have hne := of_decide_eq_false e0
    have hE : rbE9 c x d = fvE9 c x := if_neg hne
    go_upto_region 4 with fail
    refine wp_region_lit ?_
    refine vt _ (ex_move rfl (ev s8 rfl)) hz (fun Yn zz kk s20 => ?_)
    replace s6 := ku s6
    replace s8 := ku s8
    replace hz := zz
    clear kk zz s1 s3 s5
    refine vt (.bool (!decide ((fvE9 c (x)) = 0))) (ex_bin rfl (ev s20 rfl) rfl (neqC _ _ _ _ _)) hz (fun Yo zz kk s21 => ?_)
    replace s6 := ku s6
    replace s8 := ku s8
    replace hz := zz
    clear kk zz s20 Yn
    refine wpList_nil ?_
    go_upto_region 5 with fail
    refine wp_cond_true ((ev s21 rfl).trans (by rw [e0]; rfl)) ?_
    clear s21
    go_upto_region 5 with fail
    refine wp_region_lit ?_
    refine vt (zS8.val) (ex_build rfl (bd12 _)) hz (fun Yp zz kk s22 => ?_)
    replace s6 := ku s6
    replace s8 := ku s8
    replace hz := zz
    clear kk zz
    refine vt _ (ex_move rfl (ev s8 rfl)) hz (fun Yq zz kk s23 => ?_)
    replace s6 := ku s6
    replace s22 := ku s22
    replace hz := zz
    clear kk zz s8 Yp
    refine vs (sets x1 (w.heap.size + 2) 0 (Sta.cs zS8)) (want_none rfl) (ex_st rfl (ev s6 rfl) (ev s22 rfl) (st12 HZ zS8)) rfl ?_
    have HP := SB7.put HZ zS8
    have UP := upd12 x1 (w.heap.size + 2) zS8
    obtain ⟨u9, hu9⟩ : ∃ v, v = sets x1 (w.heap.size + 2) 0 (Sta.cs zS8) := ⟨_, rfl⟩
    rw [← hu9] at HP UP ⊢
    clear hu9
    have hB9 := hide (hB.trans (UP.below (by omega) (fun k hk => by omega)))
    refine vt _ (ex_assign rfl (ev s23 rfl)) hz (fun Yr zz kk s7 => ?_)
    replace s6 := ku s6
    replace hz := zz
    clear kk zz s22 s23 Yq
    refine wpList_nil ?_
    go_wp2
    refine bodyPost_ret (results_sta2_9 rfl (getD_of s6) (getD_of s7) HP) rfl ?_
    rw [hE]
    exact ⟨zS8, rfl, zS8_in _, .inl ⟨by rw [hE]; exact hne, rfl⟩, hB9.out⟩
  · have hE0 := of_decide_eq_true e0
    cases ed : (decide ((d.a, d.b) = ((0 : Int), (0 : Int))))
    rotate_left
    · refine wp_cond_true ((ev s19 rfl).trans (congrArg Value.bool (show (((decide ((fvE9 c (x)) = 0)) && (decide ((d.a, d.b) = ((0 : Int), (0 : Int)))))) = true by rw [e0, ed]; rfl))) ?_
      clear s19 s8
      have hE : rbE9 c x d = 3 := by unfold rbE9; rw [if_pos hE0, if_pos (of_decide_eq_true ed)]
      go_upto_region 3 with fail
      refine wp_region_lit ?_
      refine vt (.int .i64 3) (ex_assign rfl rfl) hz (fun Ys zz kk s8 => ?_)
      replace s6 := ku s6
      replace hz := zz
      clear kk zz s1 s3 s5
      refine wpList_nil ?_
      go_upto_region 4 with fail
      refine wp_region_lit ?_
      refine vt _ (ex_move rfl (ev s8 rfl)) hz (fun Yt zz kk s20 => ?_)
      replace s6 := ku s6
      replace s8 := ku s8
      replace hz := zz
      clear kk zz
      refine vt (.bool (!decide (3 = 0))) (ex_bin rfl (ev s20 rfl) rfl (neqC _ _ _ _ _)) hz (fun Yu zz kk s21 => ?_)
      replace s6 := ku s6
      replace s8 := ku s8
      replace hz := zz
      clear kk zz s20 Yt
      refine wpList_nil ?_
      go_upto_region 5 with fail
      refine wp_cond_true ((ev s21 rfl).trans rfl) ?_
      clear s21
      go_upto_region 5 with fail
      refine wp_region_lit ?_
      refine vt (zS8.val) (ex_build rfl (bd12 _)) hz (fun Yv zz kk s22 => ?_)
      replace s6 := ku s6
      replace s8 := ku s8
      replace hz := zz
      clear kk zz
      refine vt _ (ex_move rfl (ev s8 rfl)) hz (fun Yw zz kk s23 => ?_)
      replace s6 := ku s6
      replace s22 := ku s22
      replace hz := zz
      clear kk zz s8 Yv
      refine vs (sets x1 (w.heap.size + 2) 0 (Sta.cs zS8)) (want_none rfl) (ex_st rfl (ev s6 rfl) (ev s22 rfl) (st12 HZ zS8)) rfl ?_
      have HP := SB7.put HZ zS8
      have UP := upd12 x1 (w.heap.size + 2) zS8
      obtain ⟨u9, hu9⟩ : ∃ v, v = sets x1 (w.heap.size + 2) 0 (Sta.cs zS8) := ⟨_, rfl⟩
      rw [← hu9] at HP UP ⊢
      clear hu9
      have hB9 := hide (hB.trans (UP.below (by omega) (fun k hk => by omega)))
      refine vt _ (ex_assign rfl (ev s23 rfl)) hz (fun Yx zz kk s7 => ?_)
      replace s6 := ku s6
      replace hz := zz
      clear kk zz s22 s23 Yw
      refine wpList_nil ?_
      go_wp2
      refine bodyPost_ret (results_sta2_9 rfl (getD_of s6) (getD_of s7) HP) rfl ?_
      rw [hE]
      exact ⟨zS8, rfl, zS8_in _, .inl ⟨by rw [hE]; omega, rfl⟩, hB9.out⟩
    refine wp_cond_false ((ev s19 rfl).trans (congrArg Value.bool (show (((decide ((fvE9 c (x)) = 0)) && (decide ((d.a, d.b) = ((0 : Int), (0 : Int)))))) = false by rw [e0, ed]; rfl))) ?_
    clear s19
    have hE : rbE9 c x d = 0 := by unfold rbE9; rw [if_pos hE0, if_neg (of_decide_eq_false ed)]
    go_upto_region 4 with fail
    refine wp_region_lit ?_
    refine vt _ (ex_move rfl (ev s8 rfl)) hz (fun Yy zz kk s20 => ?_)
    replace s1 := ku s1
    replace s3 := ku s3
    replace s5 := ku s5
    replace s6 := ku s6
    replace hz := zz
    clear kk zz s8
    refine vt (.bool (!decide ((fvE9 c (x)) = 0))) (ex_bin rfl (ev s20 rfl) rfl (neqC _ _ _ _ _)) hz (fun Yz zz kk s21 => ?_)
    replace s1 := ku s1
    replace s3 := ku s3
    replace s5 := ku s5
    replace s6 := ku s6
    replace hz := zz
    clear kk zz s20 Yy
    refine wpList_nil ?_
    go_upto_region 6 with fail
    refine wp_cond_false ((ev s21 rfl).trans (by rw [e0]; rfl)) ?_
    clear s21
    obtain ⟨n, hn, hn7⟩ := fv_nd9 hE0
    obtain ⟨k, rfl, hk⟩ := fv_in9 hE0 hn
    go_upto_region 6 with fail
    refine wp_region_lit ?_
    refine vt _ (ex_move rfl (ev s1 rfl)) hz (fun Y0 zz kk s24 => ?_)
    replace s1 := ku s1
    replace s3 := ku s3
    replace s5 := ku s5
    replace s6 := ku s6
    replace hz := zz
    clear kk zz
    refine vt (c.val) (ex_ld rfl (ev s3 rfl) (CB7.ld HC)) hz (fun Y1 zz kk s25 => ?_)
    replace s1 := ku s1
    replace s5 := ku s5
    replace s6 := ku s6
    replace s24 := ku s24
    replace hz := zz
    clear kk zz s3 Y0
    refine vcallP (want_none rfl) (ex_call rfl (by simp only [List.map_toArray, List.map_cons, List.map_nil, (ev s25 rfl), evc] <;> rfl) rfl) (rnodes9 c x1) rfl hz (by decide) ?_
    rintro e y2 ⟨rfl, hb⟩
    refine ⟨_, rfl, fun Y2 zz kk s26 => ?_⟩
    have zy := hb.size
    have hB := hB.trans (hb.mono (by omega))
    have HZ := HZ.bel hb
    have HD := HD.bel hb
    obtain ⟨y3, hmk, oV, bY⟩ := mkD9 n hn7 y2
    have zy3 := bY.size
    have hB := hB.trans (bY.mono (by omega))
    have HZ := HZ.bel bY
    have HD := HD.bel bY
    have ly := (oV.blk y2.heap.size rfl).2
    obtain ⟨q9, hq9⟩ : ∃ z, z = y3.heap.size := ⟨_, rfl⟩
    obtain ⟨y4, hy4⟩ : ∃ y, y = y3.alloc (.cells zS8.cs.toArray 36) := ⟨_, rfl⟩
    have ba : Below y3.heap.size y3 y4 := by rw [hy4]; exact (Below.refl _ _).alloc (Nat.le_refl _) _
    have HQ : SB7 y4 q9 zS8 := by rw [hy4, hq9]; exact BX7.new _ _ _
    have za := ba.size
    have lq := HQ.lt
    replace s1 := ku s1
    replace s5 := ku s5
    replace s6 := ku s6
    replace s24 := ku s24
    replace hz := zz
    clear kk zz s25 Y1
    refine vw (.slice (some ⟨y2.heap.size, 0, none⟩) n n) y3 (want_none rfl) (ex_mk9 rfl (ev s26 rfl) (ev s26 rfl) (by rw [hn]; exact hmk)) rfl hz (by decide) (fun Y3 zz kk s27 => ?_)
    replace s1 := ku s1
    replace s5 := ku s5
    replace s6 := ku s6
    replace s24 := ku s24
    replace hz := zz
    clear kk zz s26 Y2
    refine vt (Sta.val (fst9 (k : Int) 3 y2.heap.size n)) (ex_buildP rfl (by simp only [List.map_toArray, List.map_cons, List.map_nil, (ev s24 rfl), (ev s27 rfl), evc] <;> rfl) (bdF9 _ _ _ _ _)) hz (fun Y4 zz kk s28 => ?_)
    replace s1 := ku s1
    replace s5 := ku s5
    replace s6 := ku s6
    replace hz := zz
    clear kk zz s24 s27 Y3
    refine vw (.pointer (some ⟨q9, 0, none⟩)) y4 (want_none rfl) (ex_al rfl (by rw [hy4, hq9]; exact al12 _)) rfl hz (by decide) (fun Y5 zz kk s9 => ?_)
    replace s1 := ku s1
    replace s5 := ku s5
    replace s6 := ku s6
    replace s28 := ku s28
    replace hz := zz
    clear kk zz Y4
    refine vs (sets y4 q9 0 (Sta.cs (fst9 (k : Int) 3 y2.heap.size n))) (want_none rfl) (ex_st rfl (ev s9 rfl) (ev s28 rfl) (st12 HQ (fst9 (k : Int) 3 y2.heap.size n))) rfl ?_
    have HN := SB7.put HQ (fst9 (k : Int) 3 y2.heap.size n)
    have UN := upd12 y4 q9 (fst9 (k : Int) 3 y2.heap.size n)
    obtain ⟨y5, hy5⟩ : ∃ v, v = sets y4 q9 0 (Sta.cs (fst9 (k : Int) 3 y2.heap.size n)) := ⟨_, rfl⟩
    rw [← hy5] at HN UN ⊢
    clear hy5 hy4
    have hb5 : Below y3.heap.size y3 y5 := ba.trans (UN.below (by omega) (fun k hk => by omega))
    have hB := hB.trans (hb5.mono (by omega))
    have HZ := HZ.bel hb5
    have HD := HD.bel hb5
    have zz5 := hb5.size
    have oV := oV.grow hb5
    have hy : (List.replicate n ((0 : Int), (0 : Int)))[k]? = some (0, 0) := List.getElem?_replicate_of_lt hk
    clear hb5 ba HQ UN
    clear s28
    refine wpList_nil ?_
    go_upto_region 7 with fail
    refine wp_region_lit ?_
    refine vt (.pointer (some ⟨q9, 6, none⟩)) (ex_fa rfl (ev s9 rfl) (faS6 _ _)) hz (fun Y6 zz kk s29 => ?_)
    replace s1 := ku s1
    replace s5 := ku s5
    replace s6 := ku s6
    replace s9 := ku s9
    replace hz := zz
    clear kk zz
    refine vt (.slice (some ⟨y2.heap.size, 0, none⟩) n n) (ex_ld rfl (ev s29 rfl) (ldV8 (fst_cell9 HN))) hz (fun Y7 zz kk s30 => ?_)
    replace s1 := ku s1
    replace s5 := ku s5
    replace s6 := ku s6
    replace s9 := ku s9
    replace hz := zz
    clear kk zz s29 Y6
    refine vt _ (ex_move rfl (ev s1 rfl)) hz (fun Y8 zz kk s31 => ?_)
    replace s5 := ku s5
    replace s6 := ku s6
    replace s9 := ku s9
    replace s30 := ku s30
    replace hz := zz
    clear kk zz s1 Y7
    refine vt (d.val) (ex_ld rfl (ev s5 rfl) (DRB9.ld HD)) hz (fun Y9 zz kk s32 => ?_)
    replace s6 := ku s6
    replace s9 := ku s9
    replace s30 := ku s30
    replace s31 := ku s31
    replace hz := zz
    clear kk zz s5 Y8
    refine vt (.pointer (some ⟨y2.heap.size, k * 2, none⟩)) (ex_ix rfl (ev s30 rfl) (ev s31 rfl) (ixVz9 y2.heap.size n n k hk _)) hz (fun Yba zz kk s33 => ?_)
    replace s6 := ku s6
    replace s9 := ku s9
    replace s32 := ku s32
    replace hz := zz
    clear kk zz s30 s31 Y9
    refine vs (sets y5 y2.heap.size (k * 2) (dcs9 (d.a, d.b))) (want_none rfl) (ex_st rfl (ev s33 rfl) (ev s32 rfl) (own_stD9 oV hy (d.a, d.b)).1) rfl ?_
    have OS := (own_stD9 oV hy (d.a, d.b)).2
    obtain ⟨y6, hy6⟩ : ∃ v, v = sets y5 y2.heap.size (k * 2) (dcs9 (d.a, d.b)) := ⟨_, rfl⟩
    rw [← hy6] at OS ⊢
    clear hy6
    obtain ⟨oW, UW⟩ := OS
    have HZ := HZ.upd UW (by show ¬ w.heap.size + 2 = y2.heap.size; omega)
    have HN := HN.upd UW (by show ¬ q9 = y2.heap.size; omega)
    have zw := UW.size
    have hB := hB.trans (UW.below (by omega) (fun k hk => by omega))
    clear s32 s33
    refine wpList_nil ?_
    go_upto_region 8 with fail
    refine wp_region_lit ?_
    refine vt (Sta.val (vst9 (k : Int) 3 y2.heap.size n ((List.replicate n ((0 : Int), (0 : Int))).set k (d.a, d.b)))) (ex_ld rfl (ev s9 rfl) (SB7.ld (vst_box9 (by simp) HN))) hz (fun Ybb zz kk s34 => ?_)
    replace s6 := ku s6
    replace hz := zz
    clear kk zz s9
    refine vs (sets y6 (w.heap.size + 2) 0 (Sta.cs (vst9 (k : Int) 3 y2.heap.size n ((List.replicate n ((0 : Int), (0 : Int))).set k (d.a, d.b))))) (want_none rfl) (ex_st rfl (ev s6 rfl) (ev s34 rfl) (st12 HZ (vst9 (k : Int) 3 y2.heap.size n ((List.replicate n ((0 : Int), (0 : Int))).set k (d.a, d.b))))) rfl ?_
    have HP := SB7.put HZ (vst9 (k : Int) 3 y2.heap.size n ((List.replicate n ((0 : Int), (0 : Int))).set k (d.a, d.b)))
    have UP := upd12 y6 (w.heap.size + 2) (vst9 (k : Int) 3 y2.heap.size n ((List.replicate n ((0 : Int), (0 : Int))).set k (d.a, d.b)))
    obtain ⟨u9, hu9⟩ : ∃ v, v = sets y6 (w.heap.size + 2) 0 (Sta.cs (vst9 (k : Int) 3 y2.heap.size n ((List.replicate n ((0 : Int), (0 : Int))).set k (d.a, d.b)))) := ⟨_, rfl⟩
    rw [← hu9] at HP UP ⊢
    clear hu9
    have hB9 := hide (hB.trans (UP.below (by omega) (fun k hk => by omega)))
    refine vt (.int .i64 0) (ex_assign rfl rfl) hz (fun Ybc zz kk s7 => ?_)
    replace s6 := ku s6
    replace hz := zz
    clear kk zz s34 Ybb
    refine wpList_nil ?_
    go_wp2
    refine bodyPost_ret (results_sta2_9 rfl (getD_of s6) (getD_of s7) HP) rfl ?_
    rw [hE]
    have oW2 := oW.upd1 UP (fun j hj e => by have := (oW.blk j hj).1; omega)
    exact ⟨(vst9 (k : Int) 3 y2.heap.size n ((List.replicate n ((0 : Int), (0 : Int))).set k (d.a, d.b))), rfl, vst9_in (by rw [List.length_set, List.length_replicate]; exact oW2.sl' kD), .inr ⟨hE, y2.heap.size, n, n, k, hn, rfl, rfl⟩, hB9.out⟩
end Go.Proofs.YtkfkkajeoocbbaaGreatDoor
