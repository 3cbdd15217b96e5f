import Derived.Test.YtphdnmamopgelaaGreatW17
set_option maxRecDepth 100000
set_option linter.unusedVariables false
set_option linter.unusedSimpArgs false
namespace Go.Proofs.YtphdnmamopgelaaGreat
open Go.RowKit Go.Maps Go.Shelf
open Classical
set_option maxHeartbeats 1000000 in
theorem givenstate9 (s : Sta) (b B : Nat) (w : World) (G : GM w b B (.slice none 0 0) (.slice none 0 0) (.slice none 0 0) (.slice none 0 0) [] [] [] []) (hI : s.In w) (hF : s.Fit) (hb1 : ∀ x ∈ s.B, x.s.D.length * 48 ≤ 140737488351232) (hb2 : ∀ x ∈ s.N, x.s.D.length * 48 ≤ 140737488351232) : Calls Tryz.prog 5 #[.pointer (some ⟨b, 0, none⟩), s.val] w fun e w' => ∃ (u u2 : Sta) (Da Db : List (SV (Int × Int))) (La Lb : List (SV En)), e = .returned u.val ∧ s.Alike9 u ∧ GS9 w' b [u] [u2] Da Db La Lb ∧ (∀ (q : Nat) (z5 : World), q < w.heap.size → q ≠ b → Upd (fun k => k = q) w' z5 → GS9 z5 b [u] [u2] Da Db La Lb) ∧ Upd (fun k => k = b) w w' := by
  go_enter Tryz.func5, Tryz.ntmps5
  go_upto_region 0 with fail
  refine wp_region_lit ?_
  refine vl_gen (fun T => T.size = 81 ∧ T[1]? = some (gw true (s.val)) ∧ T[0]? = some (gw true (.pointer (some ⟨b, 0, none⟩)))) ⟨rfl, rfl, rfl⟩ (fun Z0 ⟨hz, s1, s0⟩ => ?_)
  obtain ⟨w1, hw1⟩ : ∃ y, y = w.alloc (.cells s.cs.toArray 33) := ⟨_, rfl⟩
  have hb : Below w.heap.size w w1 := by rw [hw1]; exact (Below.refl _ _).alloc (Nat.le_refl _) _
  have hs1 : w1.heap.size = w.heap.size + 1 := by rw [hw1]; simp
  have HS : SB7 w1 (w.heap.size) s := by rw [hw1]; exact BX7.new _ _ _
  refine vw (.pointer (some ⟨w.heap.size, 0, none⟩)) w1 (want_none rfl) (ex_box8 rfl (ev s1 rfl) (by rw [hw1]; exact bxS7 _ _)) rfl hz (by decide) (fun Z1 zz kk s3x => ?_)
  replace s0 := ku s0
  clear kk hz s1 hw1
  have hz := zz
  have s3 := s3x
  clear zz s3x
  have hB := hb
  clear hb
  have hv0 : Below w1.heap.size w1 w1 := Below.refl _ _
  obtain ⟨w2, hw2⟩ : ∃ y, y = w1.alloc (.cells zS8.cs.toArray 33) := ⟨_, rfl⟩
  have hb : Below w1.heap.size w1 w2 := by rw [hw2]; exact (Below.refl _ _).alloc (Nat.le_refl _) _
  have HZ : SB7 w2 (w.heap.size + 1) zS8 := by rw [hw2, ← hs1]; exact BX7.new _ _ _
  have hz2 : w2.heap.size = w.heap.size + 2 := by rw [hw2]; simp; omega
  refine vw (.pointer (some ⟨w.heap.size + 1, 0, none⟩)) w2 (want_none rfl) (ex_al rfl (by rw [hw2, ← hs1]; exact al12 _)) rfl hz (by decide) (fun Ya zz kk s4 => ?_)
  replace s0 := ku s0
  replace s3 := ku s3
  replace hz := zz
  clear kk zz
  refine wpList_nil ?_
  have hB2 : Below w.heap.size w w2 := hB.trans (hb.mono (by omega))
  have HS := HS.bel hb
  clear hb hw2 hv0 hB
  have hB := hB2
  clear hB2
  have f1 := hF.ll
  have f2 := hF.al
  have f3 := hF.ml
  have f4 := hF.bl
  have f5 := hF.nl
  have f6 := hF.vl
  have hbw : b < w.heap.size := Nat.lt_of_lt_of_le G.lt G.ltB
  have G2 := G.bel hB
  clear G
  go_upto_region 1 with fail
  refine wp_region_lit ?_
  refine vt (s.val) (ex_ld rfl (ev s3 rfl) (SB7.ld HS)) hz (fun Yb zz kk s7 => ?_)
  replace s0 := ku s0
  replace s3 := ku s3
  replace s4 := ku s4
  replace hz := zz
  clear kk zz
  refine vcallP (want_none rfl) (ex_call rfl (by simp only [List.map_toArray, List.map_cons, List.map_nil, (ev s7 rfl), evc] <;> rfl) rfl) (copystate9o s w2 (hI.later hB) hF hb1 hb2) rfl hz (by decide) ?_
  rintro e x3 ⟨t, rfl, hk, hlo, ho, bk⟩
  refine ⟨_, rfl, fun Yc zz kk s8 => ?_⟩
  have HS := HS.bel bk
  have HZ := HZ.bel bk
  have hz3 := bk.size
  have hB := hB.trans (bk.mono (by omega))
  have G3 := G2.bel bk
  clear bk G2
  replace s0 := ku s0
  replace s3 := ku s3
  replace s4 := ku s4
  replace hz := zz
  clear kk zz s7 Yb
  refine vs (sets x3 (w.heap.size) 0 t.cs) (want_none rfl) (ex_st rfl (ev s3 rfl) (ev s8 rfl) (st12 HS t)) rfl ?_
  have HT := SB7.put HS t
  have UT := upd12 x3 (w.heap.size) t
  obtain ⟨x4, hx4⟩ : ∃ v, v = sets x3 (w.heap.size) 0 t.cs := ⟨_, rfl⟩
  rw [← hx4] at HT UT ⊢
  clear hx4 HS
  have HZ := HZ.upd UT (by show ¬ w.heap.size + 1 = w.heap.size; omega)
  have hz4 := UT.size
  have hB := hB.trans (UT.below (by omega) (fun k hk => by omega))
  have ho := ho.set9 UT (by omega)
  have hk := hk.set8 UT (by omega) hlo
  have G4 := G3.nil9 UT (by show ¬ b = w.heap.size; omega)
  have UB : Upd (fun k => k = b) w x4 := Upd.mono (Upd.of_below (S := fun _ => False) hB) (fun k hk h => h.elim)
  have tlL : t.L.length = s.L.length := by rw [hk.l]
  have tlB : t.B.length = s.B.length := hk.b.1
  have tlN : t.N.length = s.N.length := hk.n.1
  have tlV : t.V.length = s.V.length := by rw [hk.v]
  clear UT G3
  clear s8
  refine wpList_nil ?_
  go_upto_region 2 with fail
  refine wp_region_lit ?_
  refine vt _ (ex_move rfl (ev s0 rfl)) hz (fun Yd zz kk s9 => ?_)
  replace s0 := ku s0
  replace s3 := ku s3
  replace s4 := ku s4
  replace hz := zz
  clear kk zz
  refine vt (.pointer (some ⟨w.heap.size, 4, none⟩)) (ex_fa rfl (ev s3 rfl) (faS4 _ _)) hz (fun Ye zz kk s10 => ?_)
  replace s0 := ku s0
  replace s3 := ku s3
  replace s4 := ku s4
  replace s9 := ku s9
  replace hz := zz
  clear kk zz Yd
  refine vt (.slice t.la t.L.length t.lc) (ex_ld rfl (ev s10 rfl) (ldE8 (HT.cell 4 _ rfl))) hz (fun Yf zz kk s11 => ?_)
  replace s0 := ku s0
  replace s3 := ku s3
  replace s4 := ku s4
  replace s9 := ku s9
  replace hz := zz
  clear kk zz s10 Ye
  refine vcallP (want_none rfl) (ex_call rfl (by simp only [List.map_toArray, List.map_cons, List.map_nil, (ev s9 rfl), (ev s11 rfl), evc] <;> rfl) rfl) (given_entM b x4.heap.size (.slice none 0 0) (.slice none 0 0) (.slice none 0 0) (.slice none 0 0) [] [] [] [] t.la _ t.lc t.L x4 G4 hk.inn.l (by omega) (by simp) rfl) rfl hz (by decide) ?_
  rintro e x5 ⟨g1, c1, vag1, vbg1, hg1, kg1, rfl, _, _, G5, Ug1, _, _⟩
  refine ⟨_, rfl, fun Yg zz kk s12 => ?_⟩
  have Ug1 : Upd (fun k => k = b) x4 x5 := Ug1.mono (fun k _ h => by rcases h with h | h | h; exact h; cases h; cases h)
  have HT := HT.upd Ug1 (by show ¬ w.heap.size = b; omega)
  have HZ := HZ.upd Ug1 (by show ¬ w.heap.size + 1 = b; omega)
  have zg1 := Ug1.size
  have UB := UB.trans Ug1
  clear G4
  replace s0 := ku s0
  replace s3 := ku s3
  replace s4 := ku s4
  replace hz := zz
  clear kk zz s9 s11 Yf
  refine vt (.pointer (some ⟨w.heap.size, 4, none⟩)) (ex_fa rfl (ev s3 rfl) (faS4 _ _)) hz (fun Yh zz kk s13 => ?_)
  replace s0 := ku s0
  replace s3 := ku s3
  replace s4 := ku s4
  replace s12 := ku s12
  replace hz := zz
  clear kk zz Yg
  refine vs (x5.setCell ⟨w.heap.size, 4, none⟩ (.slice (some ⟨g1, 0, none⟩) t.L.length c1)) (want_none rfl) (ex_st rfl (ev s13 rfl) (ev s12 rfl) (stE8 (HT.cell 4 _ rfl) (HT.free 4) _ _ _)) rfl ?_
  have US : Upd (fun k => k = w.heap.size) x5 (x5.setCell ⟨w.heap.size, 4, none⟩ (.slice (some ⟨g1, 0, none⟩) t.L.length c1)) := (Upd.refl (fun k => k = w.heap.size) _).setCell (p := ⟨w.heap.size, 4, none⟩) (.inl rfl) _
  have HTn := HT.set (j := 4) (by simp [Sta.cs]) (.slice (some ⟨g1, 0, none⟩) t.L.length c1)
  obtain ⟨x5', hx5'⟩ : ∃ v, v = x5.setCell ⟨w.heap.size, 4, none⟩ (.slice (some ⟨g1, 0, none⟩) t.L.length c1) := ⟨_, rfl⟩
  rw [← hx5'] at US HTn ⊢
  clear hx5' HT
  have HT : SB7 x5' (w.heap.size) { t with la := some ⟨g1, 0, none⟩, lc := c1 } := HTn
  clear HTn
  have HZ := HZ.upd US (by show ¬ w.heap.size + 1 = w.heap.size; omega)
  have zg12 := US.size
  have G5 := G5.upd9 US (by show ¬ b = w.heap.size; omega) (fun k hk => by omega)
  have UB := UB.tr9 US (fun k h1 h2 => by omega)
  have UUg1 : Upd (fun k => k = b ∨ k = w.heap.size) x4 x5' := ((Upd.mono Ug1 (fun k _ h => .inl h)) : Upd (fun k => k = b ∨ k = w.heap.size) x4 x5).tr9 US (fun k _ h => .inr h)
  clear US Ug1
  clear s12 s13
  refine wpList_nil ?_
  go_upto_region 3 with fail
  refine wp_region_lit ?_
  refine vt _ (ex_move rfl (ev s0 rfl)) hz (fun Yi zz kk s14 => ?_)
  replace s0 := ku s0
  replace s3 := ku s3
  replace s4 := ku s4
  replace hz := zz
  clear kk zz
  refine vt (.pointer (some ⟨w.heap.size, 6, none⟩)) (ex_fa rfl (ev s3 rfl) (faS6 _ _)) hz (fun Yj zz kk s15 => ?_)
  replace s0 := ku s0
  replace s3 := ku s3
  replace s4 := ku s4
  replace s14 := ku s14
  replace hz := zz
  clear kk zz Yi
  refine vt (.slice t.va t.V.length t.vc) (ex_ld rfl (ev s15 rfl) (ldV8 (HT.cell 6 _ rfl))) hz (fun Yk zz kk s16 => ?_)
  replace s0 := ku s0
  replace s3 := ku s3
  replace s4 := ku s4
  replace s14 := ku s14
  replace hz := zz
  clear kk zz s15 Yj
  refine vcallP (want_none rfl) (ex_call rfl (by simp only [List.map_toArray, List.map_cons, List.map_nil, (ev s14 rfl), (ev s16 rfl), evc] <;> rfl) rfl) (given_vecM b x4.heap.size (.slice none 0 0) (.slice none 0 0) vag1 vbg1 [] [] ([] ++ [⟨some ⟨g1, 0, none⟩, c1, t.L ++ [mkE]⟩]) ([] ++ [⟨some ⟨hg1, 0, none⟩, kg1, t.L ++ [mkE]⟩]) t.va _ t.vc t.V x5' G5 (hk.inn.v.upd UUg1 (fun x hx _ h => by have := hlo.v x hx; rcases h with h | h <;> omega)) (by omega) (by simp) rfl) rfl hz (by decide) ?_
  rintro e x6 ⟨g2, c2, vag2, vbg2, hg2, kg2, rfl, _, _, G6, Ug2, _, _⟩
  refine ⟨_, rfl, fun Yl zz kk s17 => ?_⟩
  have Ug2 : Upd (fun k => k = b) x5' x6 := Ug2.mono (fun k _ h => by rcases h with h | h | h; exact h; cases h; cases h)
  have HT := HT.upd Ug2 (by show ¬ w.heap.size = b; omega)
  have HZ := HZ.upd Ug2 (by show ¬ w.heap.size + 1 = b; omega)
  have zg2 := Ug2.size
  have UB := UB.trans Ug2
  clear G5
  replace s0 := ku s0
  replace s3 := ku s3
  replace s4 := ku s4
  replace hz := zz
  clear kk zz s14 s16 Yk
  refine vt (.pointer (some ⟨w.heap.size, 6, none⟩)) (ex_fa rfl (ev s3 rfl) (faS6 _ _)) hz (fun Ym zz kk s18 => ?_)
  replace s0 := ku s0
  replace s3 := ku s3
  replace s4 := ku s4
  replace s17 := ku s17
  replace hz := zz
  clear kk zz Yl
  refine vs (x6.setCell ⟨w.heap.size, 6, none⟩ (.slice (some ⟨g2, 0, none⟩) t.V.length c2)) (want_none rfl) (ex_st rfl (ev s18 rfl) (ev s17 rfl) (stV8 (HT.cell 6 _ rfl) (HT.free 6) _ _ _)) rfl ?_
  have US : Upd (fun k => k = w.heap.size) x6 (x6.setCell ⟨w.heap.size, 6, none⟩ (.slice (some ⟨g2, 0, none⟩) t.V.length c2)) := (Upd.refl (fun k => k = w.heap.size) _).setCell (p := ⟨w.heap.size, 6, none⟩) (.inl rfl) _
  have HTn := HT.set (j := 6) (by simp [Sta.cs]) (.slice (some ⟨g2, 0, none⟩) t.V.length c2)
  obtain ⟨x6', hx6'⟩ : ∃ v, v = x6.setCell ⟨w.heap.size, 6, none⟩ (.slice (some ⟨g2, 0, none⟩) t.V.length c2) := ⟨_, rfl⟩
  rw [← hx6'] at US HTn ⊢
  clear hx6' HT
  have HT : SB7 x6' (w.heap.size) { t with la := some ⟨g1, 0, none⟩, lc := c1, va := some ⟨g2, 0, none⟩, vc := c2 } := HTn
  clear HTn
  have HZ := HZ.upd US (by show ¬ w.heap.size + 1 = w.heap.size; omega)
  have zg22 := US.size
  have G6 := G6.upd9 US (by show ¬ b = w.heap.size; omega) (fun k hk => by omega)
  have UB := UB.tr9 US (fun k h1 h2 => by omega)
  have UUg2 : Upd (fun k => k = b ∨ k = w.heap.size) x5' x6' := ((Upd.mono Ug2 (fun k _ h => .inl h)) : Upd (fun k => k = b ∨ k = w.heap.size) x5' x6).tr9 US (fun k _ h => .inr h)
  clear US Ug2
  clear s17 s18
  refine wpList_nil ?_
  have UU : Upd (fun k => k = b ∨ k = w.heap.size) x4 x6' := UUg1.trans UUg2
  have hLB : LB9 x4.heap.size w2.heap.size b (w.heap.size) x4 x6' t vag2 vbg2 vag1 vbg1 ([] ++ [⟨some ⟨g2, 0, none⟩, c2, t.V ++ [mkD]⟩]) ([] ++ [⟨some ⟨hg2, 0, none⟩, kg2, t.V ++ [mkD]⟩]) ([] ++ [⟨some ⟨g1, 0, none⟩, c1, t.L ++ [mkE]⟩]) ([] ++ [⟨some ⟨hg1, 0, none⟩, kg1, t.L ++ [mkE]⟩]) t.B t.N 0 0 ([] ++ [⟨some ⟨g1, 0, none⟩, c1, t.L ++ [mkE]⟩]) := lb9_start G6 UU ho (by omega) (by omega)
  clear UU UUg1 UUg2 G6
  obtain ⟨L1, hL1⟩ : ∃ v, v = ([] ++ [⟨some ⟨g1, 0, none⟩, c1, t.L ++ [mkE]⟩] : List (SV En)) := ⟨_, rfl⟩
  have hL1n : L1.length = 1 := by rw [hL1]; rfl
  have hL1m : (⟨some ⟨g1, 0, none⟩, c1, t.L ++ [mkE]⟩ : SV En) ∈ L1 := by rw [hL1]; simp
  rw [← hL1] at hLB
  clear hL1
  obtain ⟨D1, hD1⟩ : ∃ v, v = ([] ++ [⟨some ⟨g2, 0, none⟩, c2, t.V ++ [mkD]⟩] : List (SV (Int × Int))) := ⟨_, rfl⟩
  obtain ⟨E1, hE1⟩ : ∃ v, v = ([] ++ [⟨some ⟨hg2, 0, none⟩, kg2, t.V ++ [mkD]⟩] : List (SV (Int × Int))) := ⟨_, rfl⟩
  have hDE : E1.length = D1.length ∧ (∀ (k : Nat) (x y : SV (Int × Int)), D1[k]? = some x → E1[k]? = some y → x.D = y.D) ∧ (⟨some ⟨g2, 0, none⟩, c2, t.V ++ [mkD]⟩ : SV (Int × Int)) ∈ D1 := by rw [hD1, hE1]; exact de9 _ _ _ _ _
  rw [← hD1, ← hE1] at hLB
  clear hD1 hE1
  go_upto_region 4 with fail
  refine wp_region_lit ?_
  refine vt (.int .i64 0) (ex_assign rfl rfl) hz (fun Yn zz kk s5 => ?_)
  replace s0 := ku s0
  replace s3 := ku s3
  replace s4 := ku s4
  replace hz := zz
  clear kk zz
  refine wpList_nil ?_
  have hsv : _ = some (gw true (.int .i64 ((0 : Nat) : Int))) := s5
  go_upto_region 5 with fail
  refine v_loop 5 t.B.length (fun i T wr => T.size = 81 ∧ T[0]? = some (gw true (.pointer (some ⟨b, 0, none⟩))) ∧ T[3]? = some (gw true (.pointer (some ⟨w.heap.size, 0, none⟩))) ∧ T[4]? = some (gw true (.pointer (some ⟨w.heap.size + 1, 0, none⟩))) ∧ T[5]? = some (gw true (.int .i64 (i : Int))) ∧ Hid (∃ va vb La Lb R, LB9 x4.heap.size w2.heap.size b (w.heap.size) x4 wr t vag2 vbg2 va vb D1 E1 La Lb R t.N i 0 L1 ∧ La.length = 1 + i ∧ SB7 wr (w.heap.size) { t with la := some ⟨g1, 0, none⟩, lc := c1, va := some ⟨g2, 0, none⟩, vc := c2 } ∧ SB7 wr (w.heap.size + 1) zS8 ∧ Upd (fun k => k = b) w wr)) (fun i T w h => h.2.2.2.2.1) ⟨hz, s0, s3, s4, hsv, _, _, _, _, _, hLB, by omega, HT, HZ, UB⟩ ?_
  clear hz s0 s3 s4 s5 hsv hLB HT HZ UB
  intro i T5 wr hi hh
  obtain ⟨hz, s0, s3, s4, s5, HJ⟩ := hh
  obtain ⟨va, vb, La, Lb, R, hL, hLn, HT, HZ, UB⟩ := HJ.out
  clear HJ
  have zwr := hL.up.size
  by_cases hit : i < t.B.length
  · have d1 : decide ((i : Int) < (t.B.length : Int)) = true := decide_eq_true (by omega)
    go_upto_region 5 with fail
    refine wp_region_lit ?_
    refine vt _ (ex_move rfl (ev s5 rfl)) hz (fun Yo zz kk s19 => ?_)
    replace s0 := ku s0
    replace s3 := ku s3
    replace s4 := ku s4
    replace s5 := ku s5
    replace hz := zz
    clear kk zz
    refine vt (.pointer (some ⟨w.heap.size, 10, none⟩)) (ex_fa rfl (ev s3 rfl) (faS10 _ _)) hz (fun Yp zz kk s20 => ?_)
    replace s0 := ku s0
    replace s3 := ku s3
    replace s4 := ku s4
    replace s5 := ku s5
    replace s19 := ku s19
    replace hz := zz
    clear kk zz Yo
    refine vt (.slice t.ba t.B.length t.bc) (ex_ld rfl (ev s20 rfl) (ldB8 (HT.cell 10 _ rfl))) hz (fun Yq zz kk s21 => ?_)
    replace s0 := ku s0
    replace s3 := ku s3
    replace s4 := ku s4
    replace s5 := ku s5
    replace s19 := ku s19
    replace hz := zz
    clear kk zz s20 Yp
    refine vt (.int .i64 (t.B.length : Int)) (ex_lenB8 rfl rfl (ev s21 rfl)) hz (fun Yr zz kk s22 => ?_)
    replace s0 := ku s0
    replace s3 := ku s3
    replace s4 := ku s4
    replace s5 := ku s5
    replace s19 := ku s19
    replace hz := zz
    clear kk zz s21 Yq
    refine vt (.bool true) (ex_bin rfl (ev s19 rfl) (ev s22 rfl) (lssD8 _ _ _ _ true d1 _)) hz (fun Ys zz kk s23 => ?_)
    replace s0 := ku s0
    replace s3 := ku s3
    replace s4 := ku s4
    replace s5 := ku s5
    replace hz := zz
    clear kk zz s19 s22 Yr
    refine wpList_nil ?_
    go_upto_region 7 with fail
    refine wp_cond_true ((ev s23 rfl).trans rfl) ?_
    clear s23 d1
    obtain ⟨x, hx⟩ : ∃ x, t.B[i]? = some x := ⟨_, List.getElem?_eq_getElem hit⟩
    have hb0 : Below wr.heap.size wr wr.drew := (Below.refl _ _).drew
    have hL := hL.bel hb0
    have HT := HT.bel hb0
    have HZ := HZ.bel hb0
    have UB := UB.tr9 (Upd.of_below (S := fun _ => False) hb0) (fun _ _ h => h.elim)
    clear hb0
    have hRi : R.length = t.B.length := hL.rb.1
    have hxr : R[i]? = some x := by have e := List.getElem?_eq_getElem (l := R) (i := i) (by omega); rw [e, (hL.rb.2 i x _ hx e).2.2 (Nat.le_refl _)]
    obtain ⟨kB, hka⟩ := own_at9 hL.ob (by omega)
    have ob2 : OwnY yBlA w2.heap.size wr.drew (.slice (some ⟨kB, 0, none⟩) t.B.length t.bc) R := by have q := hL.ob; rw [hka] at q; exact q
    have kB1 : w2.heap.size ≤ kB := (ob2.blk kB rfl).1
    have kBX : kB < x4.heap.size := hL.blt kB (by rw [hka]; rfl)
    obtain ⟨z, hz9⟩ : ∃ z, s.B[i]? = some z := ⟨_, List.getElem?_eq_getElem (by have := hk.b.1; omega)⟩
    obtain ⟨lk, ol, _⟩ := hk.b.2 i z x hz9 hx
    have xin := (hL.log ol ho.b ho.n (by omega) (by omega)).sl' kE
    have xb : x.s.D.length * 48 ≤ 140737488351232 := by rw [lk.2.2.2.2.2]; exact hb1 z (List.mem_of_getElem? hz9)
    have hS : SB7 wr.drew (w.heap.size) { t with la := some ⟨g1, 0, none⟩, lc := c1, va := some ⟨g2, 0, none⟩, vc := c2 } ∧ OwnY yBlA w2.heap.size wr.drew (.slice (some ⟨kB, 0, none⟩) t.B.length t.bc) R := ⟨HT, ob2⟩
    go_upto_region 7 with fail
    refine vg_start (fun k => k == 13) (fun v => SB7 v (w.heap.size) { t with la := some ⟨g1, 0, none⟩, lc := c1, va := some ⟨g2, 0, none⟩, vc := c2 } ∧ OwnY yBlA w2.heap.size v (.slice (some ⟨kB, 0, none⟩) t.B.length t.bc) R) (by kernel_rfl) ?_
    refine vg_takeW 0 true (.pointer (some ⟨w.heap.size, 10, none⟩)) rfl (by kernel_rfl) (by kernel_rfl) (by kernel_rfl) (by kernel_rfl) (want_none rfl) (fun hc v => ex_fa rfl (ev s3 rfl) (faS10 _ _)) rfl hz (by decide) (fun _ => hS) (fun Yt zz kk s26 => ?_)
    replace s0 := ku s0
    replace s3 := ku s3
    replace s4 := ku s4
    replace s5 := ku s5
    replace hz := zz
    clear kk zz
    refine vg_take 1 true (.slice t.ba t.B.length t.bc) rfl (by kernel_rfl) (by kernel_rfl) (by kernel_rfl) (by kernel_rfl) (by kernel_rfl) (by kernel_rfl) (want_none rfl) (fun hc v hv => ex_ld rfl (ev s26 rfl) (ldB8 (hv.1.cell 10 _ rfl))) rfl hz (by decide) hS (fun Yu zz kk s27 => ?_)
    replace s0 := ku s0
    replace s3 := ku s3
    replace s4 := ku s4
    replace s5 := ku s5
    replace hz := zz
    clear kk zz s26 Yt
    refine vg_takeW 2 true (.int .i64 (i : Int)) rfl (by kernel_rfl) (by kernel_rfl) (by kernel_rfl) (by kernel_rfl) (want_none rfl) (fun hc v => ex_move rfl (ev s5 rfl)) rfl hz (by decide) (fun _ => hS) (fun Yv zz kk s28 => ?_)
    replace s0 := ku s0
    replace s3 := ku s3
    replace s4 := ku s4
    replace s5 := ku s5
    replace s27 := ku s27
    replace hz := zz
    clear kk zz Yu
    refine vg_takeW 3 true (.pointer (some ⟨b, 0, none⟩)) rfl (by kernel_rfl) (by kernel_rfl) (by kernel_rfl) (by kernel_rfl) (want_none rfl) (fun hc v => ex_move rfl (ev s0 rfl)) rfl hz (by decide) (fun _ => hS) (fun Yw zz kk s29 => ?_)
    replace s0 := ku s0
    replace s3 := ku s3
    replace s4 := ku s4
    replace s5 := ku s5
    replace s27 := ku s27
    replace s28 := ku s28
    replace hz := zz
    clear kk zz Yv
    refine vg_takeW 4 true (.pointer (some ⟨w.heap.size, 10, none⟩)) rfl (by kernel_rfl) (by kernel_rfl) (by kernel_rfl) (by kernel_rfl) (want_none rfl) (fun hc v => ex_fa rfl (ev s3 rfl) (faS10 _ _)) rfl hz (by decide) (fun _ => hS) (fun Yx zz kk s30 => ?_)
    replace s0 := ku s0
    replace s3 := ku s3
    replace s4 := ku s4
    replace s5 := ku s5
    replace s27 := ku s27
    replace s28 := ku s28
    replace s29 := ku s29
    replace hz := zz
    clear kk zz Yw
    refine vg_take 5 true (.slice t.ba t.B.length t.bc) rfl (by kernel_rfl) (by kernel_rfl) (by kernel_rfl) (by kernel_rfl) (by kernel_rfl) (by kernel_rfl) (want_none rfl) (fun hc v hv => ex_ld rfl (ev s30 rfl) (ldB8 (hv.1.cell 10 _ rfl))) rfl hz (by decide) hS (fun Yy zz kk s31 => ?_)
    replace s0 := ku s0
    replace s3 := ku s3
    replace s4 := ku s4
    replace s5 := ku s5
    replace s27 := ku s27
    replace s28 := ku s28
    replace s29 := ku s29
    replace hz := zz
    clear kk zz s30 Yx
    refine vg_takeW 6 true (.int .i64 (i : Int)) rfl (by kernel_rfl) (by kernel_rfl) (by kernel_rfl) (by kernel_rfl) (want_none rfl) (fun hc v => ex_move rfl (ev s5 rfl)) rfl hz (by decide) (fun _ => hS) (fun Yz zz kk s32 => ?_)
    replace s0 := ku s0
    replace s3 := ku s3
    replace s4 := ku s4
    replace s5 := ku s5
    replace s27 := ku s27
    replace s28 := ku s28
    replace s29 := ku s29
    replace s31 := ku s31
    replace hz := zz
    clear kk zz Yy
    refine vg_takeW 7 true (.pointer (some ⟨kB, i * 6, none⟩)) rfl (by kernel_rfl) (by kernel_rfl) (by kernel_rfl) (by kernel_rfl) (want_none rfl) (fun hc v => ex_ix rfl (ev s31 rfl) (ev s32 rfl) (by rw [hka]; exact ixBlz kB t.B.length t.bc i hit _)) rfl hz (by decide) (fun _ => hS) (fun Y0 zz kk s33 => ?_)
    replace s0 := ku s0
    replace s3 := ku s3
    replace s4 := ku s4
    replace s5 := ku s5
    replace s27 := ku s27
    replace s28 := ku s28
    replace s29 := ku s29
    replace hz := zz
    clear kk zz s31 s32 Yz
    refine vg_takeW 8 true (.pointer (some ⟨kB, i * 6 + 5, none⟩)) rfl (by kernel_rfl) (by kernel_rfl) (by kernel_rfl) (by kernel_rfl) (want_none rfl) (fun hc v => ex_fa rfl (ev s33 rfl) (fa4Bl9 _ _ _)) rfl hz (by decide) (fun _ => hS) (fun Y1 zz kk s34 => ?_)
    replace s0 := ku s0
    replace s3 := ku s3
    replace s4 := ku s4
    replace s5 := ku s5
    replace s27 := ku s27
    replace s28 := ku s28
    replace s29 := ku s29
    replace hz := zz
    clear kk zz s33 Y0
    refine vg_take 9 true (.slice x.s.a x.s.D.length x.s.c) rfl (by kernel_rfl) (by kernel_rfl) (by kernel_rfl) (by kernel_rfl) (by kernel_rfl) (by kernel_rfl) (want_none rfl) (fun hc v hv => ex_ld rfl (ev s34 rfl) (ldE8 (OwnY.cell kBlA hv.2 i x hxr 5 _ rfl))) rfl hz (by decide) hS (fun Y2 zz kk s35 => ?_)
    replace s0 := ku s0
    replace s3 := ku s3
    replace s4 := ku s4
    replace s5 := ku s5
    replace s27 := ku s27
    replace s28 := ku s28
    replace s29 := ku s29
    replace hz := zz
    clear kk zz s34 Y1
    refine vg_call 10 rfl (by kernel_rfl) (want_none rfl) (ex_call rfl (by simp only [List.map_toArray, List.map_cons, List.map_nil, (ev s29 rfl), (ev s35 rfl), evc] <;> rfl) rfl) (given_entM b x4.heap.size vag2 vbg2 va vb D1 E1 La Lb x.s.a _ x.s.c x.s.D wr.drew hL.g xin xb (by omega) hL.len) rfl hz (by decide) ?_
    rintro e x7 ⟨g, c', va', vb', h5, k5, rfl, _, _, G7, U7, _, _⟩; have hS7 : SB7 x7 (w.heap.size) { t with la := some ⟨g1, 0, none⟩, lc := c1, va := some ⟨g2, 0, none⟩, vc := c2 } ∧ OwnY yBlA w2.heap.size x7 (.slice (some ⟨kB, 0, none⟩) t.B.length t.bc) R := ⟨HT.upd U7 (hL.away (by omega) (by omega)), ob2.upd1 U7 (fun k hk9 => by have e9 : kB = k := Option.some.inj hk9; rw [← e9]; exact hL.away kBX (by omega))⟩
    refine ⟨_, rfl, hS7, fun Y3 zz kk s36 => ?_⟩
    have hS := hS7
    have HT := hS7.1
    have HZ := HZ.upd U7 (hL.away (by omega) (by omega))
    have UB := UB.tr9 U7 (fun k h1 h2 => hL.onlyb (by omega) h2)
    have z7 := U7.size
    replace s0 := ku s0
    replace s3 := ku s3
    replace s4 := ku s4
    replace s5 := ku s5
    replace s27 := ku s27
    replace s28 := ku s28
    replace hz := zz
    clear kk zz s29 s35 Y2
    refine vg_takeW 11 true (.pointer (some ⟨kB, i * 6, none⟩)) rfl (by kernel_rfl) (by kernel_rfl) (by kernel_rfl) (by kernel_rfl) (want_none rfl) (fun hc v => ex_ix rfl (ev s27 rfl) (ev s28 rfl) (by rw [hka]; exact ixBlz kB t.B.length t.bc i hit _)) rfl hz (by decide) (fun _ => hS) (fun Y4 zz kk s37 => ?_)
    replace s0 := ku s0
    replace s3 := ku s3
    replace s4 := ku s4
    replace s5 := ku s5
    replace s36 := ku s36
    replace hz := zz
    clear kk zz s27 s28 Y3
    refine vg_takeW 12 true (.pointer (some ⟨kB, i * 6 + 5, none⟩)) rfl (by kernel_rfl) (by kernel_rfl) (by kernel_rfl) (by kernel_rfl) (want_none rfl) (fun hc v => ex_fa rfl (ev s37 rfl) (fa4Bl9 _ _ _)) rfl hz (by decide) (fun _ => hS) (fun Y5 zz kk s38 => ?_)
    replace s0 := ku s0
    replace s3 := ku s3
    replace s4 := ku s4
    replace s5 := ku s5
    replace s36 := ku s36
    replace hz := zz
    clear kk zz s37 Y4
    refine vg_store 13 (x7.setCell ⟨kB, i * 6 + 5, none⟩ (.slice (some ⟨g, 0, none⟩) x.s.D.length c')) rfl (by kernel_rfl) (by kernel_rfl) (want_none rfl) (ex_st rfl (ev s38 rfl) (ev s36 rfl) (stE8 (OwnY.cell kBlA hS7.2 i x hxr 5 _ rfl) (OwnY.free hS7.2 _) _ _ _)) rfl ?_
    have V9 : Upd (fun k => k = kB) x7 (x7.setCell ⟨kB, i * 6 + 5, none⟩ (.slice (some ⟨g, 0, none⟩) x.s.D.length c')) := (Upd.refl (fun k => k = kB) _).setCell (p := ⟨kB, i * 6 + 5, none⟩) (.inl rfl) _
    have hL2 := hL.stepBl rfl (by omega) hka hx G7 U7
    obtain ⟨x8, hx8⟩ : ∃ v, v = (x7.setCell ⟨kB, i * 6 + 5, none⟩ (.slice (some ⟨g, 0, none⟩) x.s.D.length c')) := ⟨_, rfl⟩
    rw [← hx8] at V9 hL2 ⊢
    clear hx8
    have HT := HT.upd V9 (by show ¬ w.heap.size = kB; omega)
    have HZ := HZ.upd V9 (by show ¬ w.heap.size + 1 = kB; omega)
    have UB := UB.tr9 V9 (fun k h1 h2 => by omega)
    clear V9
    refine vg_done (by kernel_rfl) ?_
    clear s36 s38
    clear hS hS7 ob2
    go_upto_region 6 with fail
    refine wp_region_lit ?_
    refine vt _ (ex_move rfl (ev s5 rfl)) hz (fun Y6 zz kk s24 => ?_)
    replace s0 := ku s0
    replace s3 := ku s3
    replace s4 := ku s4
    replace s5 := ku s5
    replace hz := zz
    clear kk zz
    refine vt (.int .i64 ((i + 1 : Nat) : Int)) (ex_bin rfl (ev s24 rfl) rfl (addD8 _ _ _ 1 ((i + 1 : Nat) : Int) (by rw [IntKind.wrap_i64]; omega) _)) hz (fun Y7 zz kk s25 => ?_)
    replace s0 := ku s0
    replace s3 := ku s3
    replace s4 := ku s4
    replace s5 := ku s5
    replace hz := zz
    clear kk zz s24 Y6
    refine vt _ (ex_assign rfl (ev s25 rfl)) hz (fun Y8 zz kk s5x => ?_)
    replace s0 := ku s0
    replace s3 := ku s3
    replace s4 := ku s4
    clear kk hz s25 s5
    have hz := zz
    have s5 := s5x
    clear zz s5x Y7
    refine wpList_nil ?_
    exact ⟨_, rfl, by omega, hz, s0, s3, s4, s5, va', vb', _, _, _, hL2, by rw [List.length_append]; simp; omega, HT, HZ, UB⟩
  have d1 : decide ((i : Int) < (t.B.length : Int)) = false := decide_eq_false (by omega)
  go_upto_region 5 with fail
  refine wp_region_lit ?_
  refine vt _ (ex_move rfl (ev s5 rfl)) hz (fun Y9 zz kk s19 => ?_)
  replace s0 := ku s0
  replace s3 := ku s3
  replace s4 := ku s4
  replace hz := zz
  clear kk zz s5
  refine vt (.pointer (some ⟨w.heap.size, 10, none⟩)) (ex_fa rfl (ev s3 rfl) (faS10 _ _)) hz (fun Yba zz kk s20 => ?_)
  replace s0 := ku s0
  replace s3 := ku s3
  replace s4 := ku s4
  replace s19 := ku s19
  replace hz := zz
  clear kk zz Y9
  refine vt (.slice t.ba t.B.length t.bc) (ex_ld rfl (ev s20 rfl) (ldB8 (HT.cell 10 _ rfl))) hz (fun Ybb zz kk s21 => ?_)
  replace s0 := ku s0
  replace s3 := ku s3
  replace s4 := ku s4
  replace s19 := ku s19
  replace hz := zz
  clear kk zz s20 Yba
  refine vt (.int .i64 (t.B.length : Int)) (ex_lenB8 rfl rfl (ev s21 rfl)) hz (fun Ybc zz kk s22 => ?_)
  replace s0 := ku s0
  replace s3 := ku s3
  replace s4 := ku s4
  replace s19 := ku s19
  replace hz := zz
  clear kk zz s21 Ybb
  refine vt (.bool false) (ex_bin rfl (ev s19 rfl) (ev s22 rfl) (lssD8 _ _ _ _ false d1 _)) hz (fun Ybd zz kk s23 => ?_)
  replace s0 := ku s0
  replace s3 := ku s3
  replace s4 := ku s4
  replace hz := zz
  clear kk zz s19 s22 Ybc
  refine wpList_nil ?_
  go_upto_region 8 with fail
  refine wp_cond_false ((ev s23 rfl).trans rfl) ?_
  clear s23 d1
  obtain rfl : i = t.B.length := by omega
  clear hit hi
  have hLB := hL
  clear hL
  obtain ⟨RB, hRB⟩ : ∃ v, v = R := ⟨_, rfl⟩
  rw [← hRB] at hLB
  clear hRB
  go_upto_region 8 with fail
  refine wp_region_lit ?_
  refine vt (.int .i64 0) (ex_assign rfl rfl) hz (fun Ybe zz kk s6 => ?_)
  replace s0 := ku s0
  replace s3 := ku s3
  replace s4 := ku s4
  replace hz := zz
  clear kk zz
  refine wpList_nil ?_
  have hsv : _ = some (gw true (.int .i64 ((0 : Nat) : Int))) := s6
  go_upto_region 9 with fail
  refine v_loop 6 t.N.length (fun i T wr => T.size = 81 ∧ T[0]? = some (gw true (.pointer (some ⟨b, 0, none⟩))) ∧ T[3]? = some (gw true (.pointer (some ⟨w.heap.size, 0, none⟩))) ∧ T[4]? = some (gw true (.pointer (some ⟨w.heap.size + 1, 0, none⟩))) ∧ T[6]? = some (gw true (.int .i64 (i : Int))) ∧ Hid (∃ va vb La Lb R, LB9 x4.heap.size w2.heap.size b (w.heap.size) x4 wr t vag2 vbg2 va vb D1 E1 La Lb RB R t.B.length i L1 ∧ La.length = 1 + t.B.length + i ∧ SB7 wr (w.heap.size) { t with la := some ⟨g1, 0, none⟩, lc := c1, va := some ⟨g2, 0, none⟩, vc := c2 } ∧ SB7 wr (w.heap.size + 1) zS8 ∧ Upd (fun k => k = b) w wr)) (fun i T w h => h.2.2.2.2.1) ⟨hz, s0, s3, s4, hsv, va, vb, La, Lb, _, hLB, by omega, HT, HZ, UB⟩ ?_
  clear hz s0 s3 s4 s6 hsv hLB HT HZ UB
  intro i T6 wr hi hh
  obtain ⟨hz, s0, s3, s4, s6, HJ⟩ := hh
  obtain ⟨va, vb, La, Lb, R, hL, hLn, HT, HZ, UB⟩ := HJ.out
  clear HJ
  have zwr := hL.up.size
  by_cases hit : i < t.N.length
  · have d1 : decide ((i : Int) < (t.N.length : Int)) = true := decide_eq_true (by omega)
    go_upto_region 9 with fail
    refine wp_region_lit ?_
    refine vt _ (ex_move rfl (ev s6 rfl)) hz (fun Ybf zz kk s39 => ?_)
    replace s0 := ku s0
    replace s3 := ku s3
    replace s4 := ku s4
    replace s6 := ku s6
    replace hz := zz
    clear kk zz
    refine vt (.pointer (some ⟨w.heap.size, 11, none⟩)) (ex_fa rfl (ev s3 rfl) (faS11 _ _)) hz (fun Ybg zz kk s40 => ?_)
    replace s0 := ku s0
    replace s3 := ku s3
    replace s4 := ku s4
    replace s6 := ku s6
    replace s39 := ku s39
    replace hz := zz
    clear kk zz Ybf
    refine vt (.slice t.na t.N.length t.nc) (ex_ld rfl (ev s40 rfl) (ldN8 (HT.cell 11 _ rfl))) hz (fun Ybh zz kk s41 => ?_)
    replace s0 := ku s0
    replace s3 := ku s3
    replace s4 := ku s4
    replace s6 := ku s6
    replace s39 := ku s39
    replace hz := zz
    clear kk zz s40 Ybg
    refine vt (.int .i64 (t.N.length : Int)) (ex_lenN8 rfl rfl (ev s41 rfl)) hz (fun Ybi zz kk s42 => ?_)
    replace s0 := ku s0
    replace s3 := ku s3
    replace s4 := ku s4
    replace s6 := ku s6
    replace s39 := ku s39
    replace hz := zz
    clear kk zz s41 Ybh
    refine vt (.bool true) (ex_bin rfl (ev s39 rfl) (ev s42 rfl) (lssD8 _ _ _ _ true d1 _)) hz (fun Ybj zz kk s43 => ?_)
    replace s0 := ku s0
    replace s3 := ku s3
    replace s4 := ku s4
    replace s6 := ku s6
    replace hz := zz
    clear kk zz s39 s42 Ybi
    refine wpList_nil ?_
    go_upto_region 11 with fail
    refine wp_cond_true ((ev s43 rfl).trans rfl) ?_
    clear s43 d1
    obtain ⟨x, hx⟩ : ∃ x, t.N[i]? = some x := ⟨_, List.getElem?_eq_getElem hit⟩
    have hb0 : Below wr.heap.size wr wr.drew := (Below.refl _ _).drew
    have hL := hL.bel hb0
    have HT := HT.bel hb0
    have HZ := HZ.bel hb0
    have UB := UB.tr9 (Upd.of_below (S := fun _ => False) hb0) (fun _ _ h => h.elim)
    clear hb0
    have hRi : R.length = t.N.length := hL.rn.1
    have hxr : R[i]? = some x := by have e := List.getElem?_eq_getElem (l := R) (i := i) (by omega); rw [e, (hL.rn.2 i x _ hx e).2.2 (Nat.le_refl _)]
    obtain ⟨kB, hka⟩ := own_at9 hL.on (by omega)
    have ob2 : OwnY yAnA w2.heap.size wr.drew (.slice (some ⟨kB, 0, none⟩) t.N.length t.nc) R := by have q := hL.on; rw [hka] at q; exact q
    have kB1 : w2.heap.size ≤ kB := (ob2.blk kB rfl).1
    have kBX : kB < x4.heap.size := hL.nlt kB (by rw [hka]; rfl)
    obtain ⟨z, hz9⟩ : ∃ z, s.N[i]? = some z := ⟨_, List.getElem?_eq_getElem (by have := hk.n.1; omega)⟩
    obtain ⟨lk, ol, _⟩ := hk.n.2 i z x hz9 hx
    have xin := (hL.log ol ho.b ho.n (by omega) (by omega)).sl' kE
    have xb : x.s.D.length * 48 ≤ 140737488351232 := by rw [lk.2.2.2.2.2]; exact hb2 z (List.mem_of_getElem? hz9)
    have hS : SB7 wr.drew (w.heap.size) { t with la := some ⟨g1, 0, none⟩, lc := c1, va := some ⟨g2, 0, none⟩, vc := c2 } ∧ OwnY yAnA w2.heap.size wr.drew (.slice (some ⟨kB, 0, none⟩) t.N.length t.nc) R := ⟨HT, ob2⟩
    go_upto_region 11 with fail
    refine vg_start (fun k => k == 13) (fun v => SB7 v (w.heap.size) { t with la := some ⟨g1, 0, none⟩, lc := c1, va := some ⟨g2, 0, none⟩, vc := c2 } ∧ OwnY yAnA w2.heap.size v (.slice (some ⟨kB, 0, none⟩) t.N.length t.nc) R) (by kernel_rfl) ?_
    refine vg_takeW 0 true (.pointer (some ⟨w.heap.size, 11, none⟩)) rfl (by kernel_rfl) (by kernel_rfl) (by kernel_rfl) (by kernel_rfl) (want_none rfl) (fun hc v => ex_fa rfl (ev s3 rfl) (faS11 _ _)) rfl hz (by decide) (fun _ => hS) (fun Ybk zz kk s46 => ?_)
    replace s0 := ku s0
    replace s3 := ku s3
    replace s4 := ku s4
    replace s6 := ku s6
    replace hz := zz
    clear kk zz
    refine vg_take 1 true (.slice t.na t.N.length t.nc) rfl (by kernel_rfl) (by kernel_rfl) (by kernel_rfl) (by kernel_rfl) (by kernel_rfl) (by kernel_rfl) (want_none rfl) (fun hc v hv => ex_ld rfl (ev s46 rfl) (ldN8 (hv.1.cell 11 _ rfl))) rfl hz (by decide) hS (fun Ybl zz kk s47 => ?_)
    replace s0 := ku s0
    replace s3 := ku s3
    replace s4 := ku s4
    replace s6 := ku s6
    replace hz := zz
    clear kk zz s46 Ybk
    refine vg_takeW 2 true (.int .i64 (i : Int)) rfl (by kernel_rfl) (by kernel_rfl) (by kernel_rfl) (by kernel_rfl) (want_none rfl) (fun hc v => ex_move rfl (ev s6 rfl)) rfl hz (by decide) (fun _ => hS) (fun Ybm zz kk s48 => ?_)
    replace s0 := ku s0
    replace s3 := ku s3
    replace s4 := ku s4
    replace s6 := ku s6
    replace s47 := ku s47
    replace hz := zz
    clear kk zz Ybl
    refine vg_takeW 3 true (.pointer (some ⟨b, 0, none⟩)) rfl (by kernel_rfl) (by kernel_rfl) (by kernel_rfl) (by kernel_rfl) (want_none rfl) (fun hc v => ex_move rfl (ev s0 rfl)) rfl hz (by decide) (fun _ => hS) (fun Ybn zz kk s49 => ?_)
    replace s0 := ku s0
    replace s3 := ku s3
    replace s4 := ku s4
    replace s6 := ku s6
    replace s47 := ku s47
    replace s48 := ku s48
    replace hz := zz
    clear kk zz Ybm
    refine vg_takeW 4 true (.pointer (some ⟨w.heap.size, 11, none⟩)) rfl (by kernel_rfl) (by kernel_rfl) (by kernel_rfl) (by kernel_rfl) (want_none rfl) (fun hc v => ex_fa rfl (ev s3 rfl) (faS11 _ _)) rfl hz (by decide) (fun _ => hS) (fun Ybo zz kk s50 => ?_)
    replace s0 := ku s0
    replace s3 := ku s3
    replace s4 := ku s4
    replace s6 := ku s6
    replace s47 := ku s47
    replace s48 := ku s48
    replace s49 := ku s49
    replace hz := zz
    clear kk zz Ybn
    refine vg_take 5 true (.slice t.na t.N.length t.nc) rfl (by kernel_rfl) (by kernel_rfl) (by kernel_rfl) (by kernel_rfl) (by kernel_rfl) (by kernel_rfl) (want_none rfl) (fun hc v hv => ex_ld rfl (ev s50 rfl) (ldN8 (hv.1.cell 11 _ rfl))) rfl hz (by decide) hS (fun Ybp zz kk s51 => ?_)
    replace s0 := ku s0
    replace s3 := ku s3
    replace s4 := ku s4
    replace s6 := ku s6
    replace s47 := ku s47
    replace s48 := ku s48
    replace s49 := ku s49
    replace hz := zz
    clear kk zz s50 Ybo
    refine vg_takeW 6 true (.int .i64 (i : Int)) rfl (by kernel_rfl) (by kernel_rfl) (by kernel_rfl) (by kernel_rfl) (want_none rfl) (fun hc v => ex_move rfl (ev s6 rfl)) rfl hz (by decide) (fun _ => hS) (fun Ybq zz kk s52 => ?_)
    replace s0 := ku s0
    replace s3 := ku s3
    replace s4 := ku s4
    replace s6 := ku s6
    replace s47 := ku s47
    replace s48 := ku s48
    replace s49 := ku s49
    replace s51 := ku s51
    replace hz := zz
    clear kk zz Ybp
    refine vg_takeW 7 true (.pointer (some ⟨kB, i * 6, none⟩)) rfl (by kernel_rfl) (by kernel_rfl) (by kernel_rfl) (by kernel_rfl) (want_none rfl) (fun hc v => ex_ix rfl (ev s51 rfl) (ev s52 rfl) (by rw [hka]; exact ixAnz kB t.N.length t.nc i hit _)) rfl hz (by decide) (fun _ => hS) (fun Ybr zz kk s53 => ?_)
    replace s0 := ku s0
    replace s3 := ku s3
    replace s4 := ku s4
    replace s6 := ku s6
    replace s47 := ku s47
    replace s48 := ku s48
    replace s49 := ku s49
    replace hz := zz
    clear kk zz s51 s52 Ybq
    refine vg_takeW 8 true (.pointer (some ⟨kB, i * 6 + 5, none⟩)) rfl (by kernel_rfl) (by kernel_rfl) (by kernel_rfl) (by kernel_rfl) (want_none rfl) (fun hc v => ex_fa rfl (ev s53 rfl) (fa4An9 _ _ _)) rfl hz (by decide) (fun _ => hS) (fun Ybs zz kk s54 => ?_)
    replace s0 := ku s0
    replace s3 := ku s3
    replace s4 := ku s4
    replace s6 := ku s6
    replace s47 := ku s47
    replace s48 := ku s48
    replace s49 := ku s49
    replace hz := zz
    clear kk zz s53 Ybr
    refine vg_take 9 true (.slice x.s.a x.s.D.length x.s.c) rfl (by kernel_rfl) (by kernel_rfl) (by kernel_rfl) (by kernel_rfl) (by kernel_rfl) (by kernel_rfl) (want_none rfl) (fun hc v hv => ex_ld rfl (ev s54 rfl) (ldE8 (OwnY.cell kAnA hv.2 i x hxr 5 _ rfl))) rfl hz (by decide) hS (fun Ybt zz kk s55 => ?_)
    replace s0 := ku s0
    replace s3 := ku s3
    replace s4 := ku s4
    replace s6 := ku s6
    replace s47 := ku s47
    replace s48 := ku s48
    replace s49 := ku s49
    replace hz := zz
    clear kk zz s54 Ybs
    refine vg_call 10 rfl (by kernel_rfl) (want_none rfl) (ex_call rfl (by simp only [List.map_toArray, List.map_cons, List.map_nil, (ev s49 rfl), (ev s55 rfl), evc] <;> rfl) rfl) (given_entM b x4.heap.size vag2 vbg2 va vb D1 E1 La Lb x.s.a _ x.s.c x.s.D wr.drew hL.g xin xb (by omega) hL.len) rfl hz (by decide) ?_
    rintro e x7 ⟨g, c', va', vb', h5, k5, rfl, _, _, G7, U7, _, _⟩; have hS7 : SB7 x7 (w.heap.size) { t with la := some ⟨g1, 0, none⟩, lc := c1, va := some ⟨g2, 0, none⟩, vc := c2 } ∧ OwnY yAnA w2.heap.size x7 (.slice (some ⟨kB, 0, none⟩) t.N.length t.nc) R := ⟨HT.upd U7 (hL.away (by omega) (by omega)), ob2.upd1 U7 (fun k hk9 => by have e9 : kB = k := Option.some.inj hk9; rw [← e9]; exact hL.away kBX (by omega))⟩
    refine ⟨_, rfl, hS7, fun Ybu zz kk s56 => ?_⟩
    have hS := hS7
    have HT := hS7.1
    have HZ := HZ.upd U7 (hL.away (by omega) (by omega))
    have UB := UB.tr9 U7 (fun k h1 h2 => hL.onlyb (by omega) h2)
    have z7 := U7.size
    replace s0 := ku s0
    replace s3 := ku s3
    replace s4 := ku s4
    replace s6 := ku s6
    replace s47 := ku s47
    replace s48 := ku s48
    replace hz := zz
    clear kk zz s49 s55 Ybt
    refine vg_takeW 11 true (.pointer (some ⟨kB, i * 6, none⟩)) rfl (by kernel_rfl) (by kernel_rfl) (by kernel_rfl) (by kernel_rfl) (want_none rfl) (fun hc v => ex_ix rfl (ev s47 rfl) (ev s48 rfl) (by rw [hka]; exact ixAnz kB t.N.length t.nc i hit _)) rfl hz (by decide) (fun _ => hS) (fun Ybv zz kk s57 => ?_)
    replace s0 := ku s0
    replace s3 := ku s3
    replace s4 := ku s4
    replace s6 := ku s6
    replace s56 := ku s56
    replace hz := zz
    clear kk zz s47 s48 Ybu
    refine vg_takeW 12 true (.pointer (some ⟨kB, i * 6 + 5, none⟩)) rfl (by kernel_rfl) (by kernel_rfl) (by kernel_rfl) (by kernel_rfl) (want_none rfl) (fun hc v => ex_fa rfl (ev s57 rfl) (fa4An9 _ _ _)) rfl hz (by decide) (fun _ => hS) (fun Ybw zz kk s58 => ?_)
    replace s0 := ku s0
    replace s3 := ku s3
    replace s4 := ku s4
    replace s6 := ku s6
    replace s56 := ku s56
    replace hz := zz
    clear kk zz s57 Ybv
    refine vg_store 13 (x7.setCell ⟨kB, i * 6 + 5, none⟩ (.slice (some ⟨g, 0, none⟩) x.s.D.length c')) rfl (by kernel_rfl) (by kernel_rfl) (want_none rfl) (ex_st rfl (ev s58 rfl) (ev s56 rfl) (stE8 (OwnY.cell kAnA hS7.2 i x hxr 5 _ rfl) (OwnY.free hS7.2 _) _ _ _)) rfl ?_
    have V9 : Upd (fun k => k = kB) x7 (x7.setCell ⟨kB, i * 6 + 5, none⟩ (.slice (some ⟨g, 0, none⟩) x.s.D.length c')) := (Upd.refl (fun k => k = kB) _).setCell (p := ⟨kB, i * 6 + 5, none⟩) (.inl rfl) _
    have hL2 := hL.stepAn rfl (by omega) hka hx G7 U7
    obtain ⟨x8, hx8⟩ : ∃ v, v = (x7.setCell ⟨kB, i * 6 + 5, none⟩ (.slice (some ⟨g, 0, none⟩) x.s.D.length c')) := ⟨_, rfl⟩
    rw [← hx8] at V9 hL2 ⊢
    clear hx8
    have HT := HT.upd V9 (by show ¬ w.heap.size = kB; omega)
    have HZ := HZ.upd V9 (by show ¬ w.heap.size + 1 = kB; omega)
    have UB := UB.tr9 V9 (fun k h1 h2 => by omega)
    clear V9
    refine vg_done (by kernel_rfl) ?_
    clear s56 s58
    clear hS hS7 ob2
    go_upto_region 10 with fail
    refine wp_region_lit ?_
    refine vt _ (ex_move rfl (ev s6 rfl)) hz (fun Ybx zz kk s44 => ?_)
    replace s0 := ku s0
    replace s3 := ku s3
    replace s4 := ku s4
    replace s6 := ku s6
    replace hz := zz
    clear kk zz
    refine vt (.int .i64 ((i + 1 : Nat) : Int)) (ex_bin rfl (ev s44 rfl) rfl (addD8 _ _ _ 1 ((i + 1 : Nat) : Int) (by rw [IntKind.wrap_i64]; omega) _)) hz (fun Yby zz kk s45 => ?_)
    replace s0 := ku s0
    replace s3 := ku s3
    replace s4 := ku s4
    replace s6 := ku s6
    replace hz := zz
    clear kk zz s44 Ybx
    refine vt _ (ex_assign rfl (ev s45 rfl)) hz (fun Ybz zz kk s6x => ?_)
    replace s0 := ku s0
    replace s3 := ku s3
    replace s4 := ku s4
    clear kk hz s45 s6
    have hz := zz
    have s6 := s6x
    clear zz s6x Yby
    refine wpList_nil ?_
    exact ⟨_, rfl, by omega, hz, s0, s3, s4, s6, va', vb', _, _, _, hL2, by rw [List.length_append]; simp; omega, HT, HZ, UB⟩
  have d1 : decide ((i : Int) < (t.N.length : Int)) = false := decide_eq_false (by omega)
  go_upto_region 9 with fail
  refine wp_region_lit ?_
  refine vt _ (ex_move rfl (ev s6 rfl)) hz (fun Yb0 zz kk s39 => ?_)
  replace s0 := ku s0
  replace s3 := ku s3
  replace s4 := ku s4
  replace hz := zz
  clear kk zz s6
  refine vt (.pointer (some ⟨w.heap.size, 11, none⟩)) (ex_fa rfl (ev s3 rfl) (faS11 _ _)) hz (fun Yb1 zz kk s40 => ?_)
  replace s0 := ku s0
  replace s3 := ku s3
  replace s4 := ku s4
  replace s39 := ku s39
  replace hz := zz
  clear kk zz Yb0
  refine vt (.slice t.na t.N.length t.nc) (ex_ld rfl (ev s40 rfl) (ldN8 (HT.cell 11 _ rfl))) hz (fun Yb2 zz kk s41 => ?_)
  replace s0 := ku s0
  replace s3 := ku s3
  replace s4 := ku s4
  replace s39 := ku s39
  replace hz := zz
  clear kk zz s40 Yb1
  refine vt (.int .i64 (t.N.length : Int)) (ex_lenN8 rfl rfl (ev s41 rfl)) hz (fun Yb3 zz kk s42 => ?_)
  replace s0 := ku s0
  replace s3 := ku s3
  replace s4 := ku s4
  replace s39 := ku s39
  replace hz := zz
  clear kk zz s41 Yb2
  refine vt (.bool false) (ex_bin rfl (ev s39 rfl) (ev s42 rfl) (lssD8 _ _ _ _ false d1 _)) hz (fun Yb4 zz kk s43 => ?_)
  replace s0 := ku s0
  replace s3 := ku s3
  replace s4 := ku s4
  replace hz := zz
  clear kk zz s39 s42 Yb3
  refine wpList_nil ?_
  go_upto_region 12 with fail
  refine wp_cond_false ((ev s43 rfl).trans rfl) ?_
  clear s43 d1
  obtain rfl : i = t.N.length := by omega
  clear hit hi
  have eB : RB.length = t.B.length := hL.rb.1
  have eN : R.length = t.N.length := hL.rn.1
  obtain ⟨u, hu⟩ : ∃ v, v = ({ t with la := some ⟨g1, 0, none⟩, lc := c1, va := some ⟨g2, 0, none⟩, vc := c2, B := RB, N := R } : Sta) := ⟨_, rfl⟩
  have ecs : Sta.cs u = Sta.cs { t with la := some ⟨g1, 0, none⟩, lc := c1, va := some ⟨g2, 0, none⟩, vc := c2 } := by rw [hu]; simp only [Sta.cs, eB, eN]
  have HU : SB7 wr (w.heap.size) u := by show BX7 wr _ u.cs; rw [ecs]; exact HT
  have uin : u.In wr := by rw [hu]; exact hL.inn ho (by omega) (by omega) hL1m hDE.2.2 (fun y hy => (hk.b.in8 y hy).2) (fun y hy => (hk.n.in8 y hy).2)
  have ulo : u.Lo w2.heap.size ∧ (∀ y ∈ u.B, ∀ a, y.s.a = some a → w2.heap.size ≤ a.block) ∧ ∀ y ∈ u.N, ∀ a, y.s.a = some a → w2.heap.size ≤ a.block := by rw [hu]; exact hL.low hlo (by omega) hL1m hDE.2.2
  have ual : s.Alike9 u := by rw [hu]; exact hk.alike.trans hL.alike
  have c8 := hL.g.ce 8 (by omega) (by omega)
  have c9 := hL.g.ce 9 (by omega) (by omega)
  have gf := hL.g.f
  have hbwr : b < wr.heap.size := by omega
  have hzd : wr.drew.heap.size = wr.heap.size := rfl
  have hG := hL.g
  have hLL := And.intro hL.len hL.eq
  clear HT hu ecs hL
  have hS : Below wr.heap.size wr wr.drew := (Below.refl _ _).drew
  go_upto_region 12 with fail
  refine vg_start (fun k => k == 10) (fun v => Below wr.heap.size wr v) (by kernel_rfl) ?_
  refine vg_takeW 0 true (.pointer (some ⟨b, 0, none⟩)) rfl (by kernel_rfl) (by kernel_rfl) (by kernel_rfl) (by kernel_rfl) (want_none rfl) (fun hc v => ex_move rfl (ev s0 rfl)) rfl hz (by decide) (fun _ => hS) (fun Yb5 zz kk s59 => ?_)
  replace s0 := ku s0
  replace s3 := ku s3
  replace s4 := ku s4
  replace hz := zz
  clear kk zz
  refine vg_takeW 1 true (.pointer (some ⟨b, 0, none⟩)) rfl (by kernel_rfl) (by kernel_rfl) (by kernel_rfl) (by kernel_rfl) (want_none rfl) (fun hc v => ex_move rfl (ev s0 rfl)) rfl hz (by decide) (fun _ => hS) (fun Yb6 zz kk s60 => ?_)
  replace s0 := ku s0
  replace s3 := ku s3
  replace s4 := ku s4
  replace s59 := ku s59
  replace hz := zz
  clear kk zz Yb5
  refine vg_takeW 2 true (.pointer (some ⟨b, 0, none⟩)) rfl (by kernel_rfl) (by kernel_rfl) (by kernel_rfl) (by kernel_rfl) (want_none rfl) (fun hc v => ex_nil rfl (ev s60 rfl)) rfl hz (by decide) (fun _ => hS) (fun Yb7 zz kk s61 => ?_)
  replace s0 := ku s0
  replace s3 := ku s3
  replace s4 := ku s4
  replace s59 := ku s59
  replace hz := zz
  clear kk zz s60 Yb6
  refine vg_takeW 3 true (.pointer (some ⟨b, 8, none⟩)) rfl (by kernel_rfl) (by kernel_rfl) (by kernel_rfl) (by kernel_rfl) (want_none rfl) (fun hc v => ex_fa rfl (ev s61 rfl) (faG8 _ _)) rfl hz (by decide) (fun _ => hS) (fun Yb8 zz kk s62 => ?_)
  replace s0 := ku s0
  replace s3 := ku s3
  replace s4 := ku s4
  replace s59 := ku s59
  replace hz := zz
  clear kk zz s61 Yb7
  refine vg_take 4 true (.slice none 0 0) rfl (by kernel_rfl) (by kernel_rfl) (by kernel_rfl) (by kernel_rfl) (by kernel_rfl) (by kernel_rfl) (want_none rfl) (fun hc v hv => ex_ld rfl (ev s62 rfl) (ldG8 (cell8 c8 hv))) rfl hz (by decide) hS (fun Yb9 zz kk s63 => ?_)
  replace s0 := ku s0
  replace s3 := ku s3
  replace s4 := ku s4
  replace s59 := ku s59
  replace hz := zz
  clear kk zz s62 Yb8
  refine vg_take 5 true (u.val) rfl (by kernel_rfl) (by kernel_rfl) (by kernel_rfl) (by kernel_rfl) (by kernel_rfl) (by kernel_rfl) (want_none rfl) (fun hc v hv => ex_ld rfl (ev s3 rfl) (SB7.ld (HU.bel hv))) rfl hz (by decide) hS (fun Yca zz kk s64 => ?_)
  replace s0 := ku s0
  replace s3 := ku s3
  replace s4 := ku s4
  replace s59 := ku s59
  replace s63 := ku s63
  replace hz := zz
  clear kk zz Yb9
  obtain ⟨e8, he8⟩ : ∃ v, v = wr.drew.alloc (.cells (yS9.cs u).toArray 33) := ⟨_, rfl⟩
  have be8 : Below wr.drew.heap.size wr.drew e8 := by rw [he8]; exact (Below.refl _ _).alloc (Nat.le_refl _) _
  have pe8 : SlY yS9 e8 (some ⟨wr.drew.heap.size, 0, none⟩) 1 1 [u] := by rw [he8]; exact one9 yS9 wr.drew u
  have hS := hS.trans (be8.mono hS.size)
  obtain ⟨vf8, f8, hrf8, of8, gf8, _⟩ := run_appY kS9 e8 38 e8.heap.size [] (.slice none 0 0) _ _ _ _ pe8 (OwnY.nil _ _ _) (Nat.le_refl _) (by unfold maxLen; simp) (by show (0 + 1) * 192 ≤ _; omega)
  rw [List.nil_append] at of8
  have bf8 : Below e8.heap.size e8 f8 := (OwnY.nil yS9 e8.heap.size e8).grown (Below.refl _ _) gf8 (Nat.le_refl _)
  obtain ⟨a8, c8_, rfl, _, _⟩ := of8.sl kS9
  have ze8 := be8.size
  have zf8 := bf8.size
  refine vg_val 6 (.slice (some ⟨wr.drew.heap.size, 0, none⟩) 1 1) e8 rfl (by kernel_rfl) (want_none rfl) (ex_bs8 rfl (ev s64 rfl) (by rw [he8]; exact bsS9 u _)) rfl hz (by decide) (fun _ => hS) (fun Ycb zz kk s65 => ?_)
  have hS := hS.trans (bf8.mono hS.size)
  replace s0 := ku s0
  replace s3 := ku s3
  replace s4 := ku s4
  replace s59 := ku s59
  replace s63 := ku s63
  replace hz := zz
  clear kk zz s64 Yca
  refine vg_val 7 (.slice a8 [u].length c8_) f8 rfl (by kernel_rfl) (want_none rfl) (ex_app8 rfl (ev s63 rfl) (ev s65 rfl) hrf8) rfl hz (by decide) (fun _ => hS) (fun Ycc zz kk s66 => ?_)
  clear hrf8 gf8 pe8 he8
  replace s0 := ku s0
  replace s3 := ku s3
  replace s4 := ku s4
  replace s59 := ku s59
  replace hz := zz
  clear kk zz s63 s65 Ycb
  refine vg_takeW 8 true (.pointer (some ⟨b, 0, none⟩)) rfl (by kernel_rfl) (by kernel_rfl) (by kernel_rfl) (by kernel_rfl) (want_none rfl) (fun hc v => ex_nil rfl (ev s59 rfl)) rfl hz (by decide) (fun _ => hS) (fun Ycd zz kk s67 => ?_)
  replace s0 := ku s0
  replace s3 := ku s3
  replace s4 := ku s4
  replace s66 := ku s66
  replace hz := zz
  clear kk zz s59 Ycc
  refine vg_takeW 9 true (.pointer (some ⟨b, 8, none⟩)) rfl (by kernel_rfl) (by kernel_rfl) (by kernel_rfl) (by kernel_rfl) (want_none rfl) (fun hc v => ex_fa rfl (ev s67 rfl) (faG8 _ _)) rfl hz (by decide) (fun _ => hS) (fun Yce zz kk s68 => ?_)
  replace s0 := ku s0
  replace s3 := ku s3
  replace s4 := ku s4
  replace s66 := ku s66
  replace hz := zz
  clear kk zz s67 Ycd
  refine vg_store 10 (f8.setCell ⟨b, 8, none⟩ (.slice a8 [u].length c8_)) rfl (by kernel_rfl) (by kernel_rfl) (want_none rfl) (ex_st rfl (ev s68 rfl) (ev s66 rfl) (stG8 (cell8 c8 hS) ((hS.frozen (p := ⟨b, 8, none⟩) hbwr).trans (gf 8)) _ _ _)) rfl ?_
  have V9 : Upd (fun k => k = b) f8 (f8.setCell ⟨b, 8, none⟩ (.slice a8 [u].length c8_)) := (Upd.refl (fun k => k = b) _).setCell (p := ⟨b, 8, none⟩) (.inl rfl) _
  have c8n : (f8.setCell ⟨b, 8, none⟩ (.slice a8 [u].length c8_)).cell? ⟨b, 8, none⟩ = some (.slice a8 [u].length c8_) := setc_eq (cell8 c8 hS)
  have cx : ∀ i z, i ≠ 8 → wr.cell? ⟨b, i, none⟩ = some z → (f8.setCell ⟨b, 8, none⟩ (.slice a8 [u].length c8_)).cell? ⟨b, i, none⟩ = some z := fun i z h1 h2 => setc_ne (cell8 h2 hS) h1
  have gf2 : ∀ i, (f8.setCell ⟨b, 8, none⟩ (.slice a8 [u].length c8_)).frozen? ⟨b, i, none⟩ = false := fun i => setf ((hS.frozen (p := ⟨b, i, none⟩) hbwr).trans (gf i))
  obtain ⟨y1, hy1⟩ : ∃ v, v = (f8.setCell ⟨b, 8, none⟩ (.slice a8 [u].length c8_)) := ⟨_, rfl⟩
  rw [← hy1] at V9 c8n cx gf2 ⊢
  clear hy1
  have of8 := of8.upd1 V9 (fun k hk9 e => by have := (of8.blk k hk9).1; have := hS.size; have := bf8.size; omega)
  have U1 : Upd (fun k => k = b) wr y1 := (Upd.mono (Upd.of_below (S := fun _ => False) hS) (fun k _ h => h.elim) : Upd (fun k => k = b) wr f8).trans V9
  have HU := HU.upd U1 (by show ¬ w.heap.size = b; omega)
  have HZ := HZ.upd U1 (by show ¬ w.heap.size + 1 = b; omega)
  have c9 := cx 9 _ (by omega) c9
  have zy1 := U1.size
  clear V9 gf
  refine vg_done (by kernel_rfl) ?_
  clear s66 s68
  clear hS be8 bf8
  have uin1 := uin.upd9 ulo U1 (fun k hk9 => by omega)
  have hS : Below y1.heap.size y1 y1.drew := (Below.refl _ _).drew
  have hby : b < y1.heap.size := by omega
  have hzd1 : y1.drew.heap.size = y1.heap.size := rfl
  go_upto_region 13 with fail
  refine vg_start (fun k => k == 11) (fun v => Below y1.heap.size y1 v) (by kernel_rfl) ?_
  refine vg_takeW 0 true (.pointer (some ⟨b, 0, none⟩)) rfl (by kernel_rfl) (by kernel_rfl) (by kernel_rfl) (by kernel_rfl) (want_none rfl) (fun hc v => ex_move rfl (ev s0 rfl)) rfl hz (by decide) (fun _ => hS) (fun Ycf zz kk s69 => ?_)
  replace s0 := ku s0
  replace s3 := ku s3
  replace s4 := ku s4
  replace hz := zz
  clear kk zz
  refine vg_takeW 1 true (.pointer (some ⟨b, 0, none⟩)) rfl (by kernel_rfl) (by kernel_rfl) (by kernel_rfl) (by kernel_rfl) (want_none rfl) (fun hc v => ex_move rfl (ev s0 rfl)) rfl hz (by decide) (fun _ => hS) (fun Ycg zz kk s70 => ?_)
  replace s0 := ku s0
  replace s3 := ku s3
  replace s4 := ku s4
  replace s69 := ku s69
  replace hz := zz
  clear kk zz Ycf
  refine vg_takeW 2 true (.pointer (some ⟨b, 0, none⟩)) rfl (by kernel_rfl) (by kernel_rfl) (by kernel_rfl) (by kernel_rfl) (want_none rfl) (fun hc v => ex_nil rfl (ev s70 rfl)) rfl hz (by decide) (fun _ => hS) (fun Ych zz kk s71 => ?_)
  replace s0 := ku s0
  replace s3 := ku s3
  replace s4 := ku s4
  replace s69 := ku s69
  replace hz := zz
  clear kk zz s70 Ycg
  refine vg_takeW 3 true (.pointer (some ⟨b, 9, none⟩)) rfl (by kernel_rfl) (by kernel_rfl) (by kernel_rfl) (by kernel_rfl) (want_none rfl) (fun hc v => ex_fa rfl (ev s71 rfl) (faG9 _ _)) rfl hz (by decide) (fun _ => hS) (fun Yci zz kk s72 => ?_)
  replace s0 := ku s0
  replace s3 := ku s3
  replace s4 := ku s4
  replace s69 := ku s69
  replace hz := zz
  clear kk zz s71 Ych
  refine vg_take 4 true (.slice none 0 0) rfl (by kernel_rfl) (by kernel_rfl) (by kernel_rfl) (by kernel_rfl) (by kernel_rfl) (by kernel_rfl) (want_none rfl) (fun hc v hv => ex_ld rfl (ev s72 rfl) (ldG8 (cell8 c9 hv))) rfl hz (by decide) hS (fun Ycj zz kk s73 => ?_)
  replace s0 := ku s0
  replace s3 := ku s3
  replace s4 := ku s4
  replace s69 := ku s69
  replace hz := zz
  clear kk zz s72 Yci
  refine vg_take 5 true (u.val) rfl (by kernel_rfl) (by kernel_rfl) (by kernel_rfl) (by kernel_rfl) (by kernel_rfl) (by kernel_rfl) (want_none rfl) (fun hc v hv => ex_ld rfl (ev s3 rfl) (SB7.ld (HU.bel hv))) rfl hz (by decide) hS (fun Yck zz kk s74 => ?_)
  replace s0 := ku s0
  replace s3 := ku s3
  replace s4 := ku s4
  replace s69 := ku s69
  replace s73 := ku s73
  replace hz := zz
  clear kk zz Ycj
  refine vg_call 6 rfl (by kernel_rfl) (want_none rfl) (ex_call rfl (by simp only [List.map_toArray, List.map_cons, List.map_nil, (ev s74 rfl), evc] <;> rfl) rfl) (copystate9o u y1.drew (uin1.later hS) (ual.fit hF) (ual.bb hb1) (ual.nb hb2)) rfl hz (by decide) ?_
  rintro e y2 ⟨u2, rfl, hk2, hlo2, ho2, bk2⟩; have hS := hS.trans (bk2.mono hS.size)
  refine ⟨_, rfl, hS, fun Ycl zz kk s75 => ?_⟩
  have zk2 := bk2.size
  clear ho2 bk2
  replace s0 := ku s0
  replace s3 := ku s3
  replace s4 := ku s4
  replace s69 := ku s69
  replace s73 := ku s73
  replace hz := zz
  clear kk zz s74 Yck
  obtain ⟨e9, he9⟩ : ∃ v, v = y2.alloc (.cells (yS9.cs u2).toArray 33) := ⟨_, rfl⟩
  have be9 : Below y2.heap.size y2 e9 := by rw [he9]; exact (Below.refl _ _).alloc (Nat.le_refl _) _
  have pe9 : SlY yS9 e9 (some ⟨y2.heap.size, 0, none⟩) 1 1 [u2] := by rw [he9]; exact one9 yS9 y2 u2
  have hS := hS.trans (be9.mono hS.size)
  obtain ⟨vf9, f9, hrf9, of9, gf9, _⟩ := run_appY kS9 e9 38 e9.heap.size [] (.slice none 0 0) _ _ _ _ pe9 (OwnY.nil _ _ _) (Nat.le_refl _) (by unfold maxLen; simp) (by show (0 + 1) * 192 ≤ _; omega)
  rw [List.nil_append] at of9
  have bf9 : Below e9.heap.size e9 f9 := (OwnY.nil yS9 e9.heap.size e9).grown (Below.refl _ _) gf9 (Nat.le_refl _)
  obtain ⟨a9, c9_, rfl, _, _⟩ := of9.sl kS9
  have ze9 := be9.size
  have zf9 := bf9.size
  refine vg_val 7 (.slice (some ⟨y2.heap.size, 0, none⟩) 1 1) e9 rfl (by kernel_rfl) (want_none rfl) (ex_bs8 rfl (ev s75 rfl) (by rw [he9]; exact bsS9 u2 _)) rfl hz (by decide) (fun _ => hS) (fun Ycm zz kk s76 => ?_)
  have hS := hS.trans (bf9.mono hS.size)
  replace s0 := ku s0
  replace s3 := ku s3
  replace s4 := ku s4
  replace s69 := ku s69
  replace s73 := ku s73
  replace hz := zz
  clear kk zz s75 Ycl
  refine vg_val 8 (.slice a9 [u2].length c9_) f9 rfl (by kernel_rfl) (want_none rfl) (ex_app8 rfl (ev s73 rfl) (ev s76 rfl) hrf9) rfl hz (by decide) (fun _ => hS) (fun Ycn zz kk s77 => ?_)
  clear hrf9 gf9 pe9 he9
  replace s0 := ku s0
  replace s3 := ku s3
  replace s4 := ku s4
  replace s69 := ku s69
  replace hz := zz
  clear kk zz s73 s76 Ycm
  refine vg_takeW 9 true (.pointer (some ⟨b, 0, none⟩)) rfl (by kernel_rfl) (by kernel_rfl) (by kernel_rfl) (by kernel_rfl) (want_none rfl) (fun hc v => ex_nil rfl (ev s69 rfl)) rfl hz (by decide) (fun _ => hS) (fun Yco zz kk s78 => ?_)
  replace s0 := ku s0
  replace s3 := ku s3
  replace s4 := ku s4
  replace s77 := ku s77
  replace hz := zz
  clear kk zz s69 Ycn
  refine vg_takeW 10 true (.pointer (some ⟨b, 9, none⟩)) rfl (by kernel_rfl) (by kernel_rfl) (by kernel_rfl) (by kernel_rfl) (want_none rfl) (fun hc v => ex_fa rfl (ev s78 rfl) (faG9 _ _)) rfl hz (by decide) (fun _ => hS) (fun Ycp zz kk s79 => ?_)
  replace s0 := ku s0
  replace s3 := ku s3
  replace s4 := ku s4
  replace s77 := ku s77
  replace hz := zz
  clear kk zz s78 Yco
  refine vg_store 11 (f9.setCell ⟨b, 9, none⟩ (.slice a9 [u2].length c9_)) rfl (by kernel_rfl) (by kernel_rfl) (want_none rfl) (ex_st rfl (ev s79 rfl) (ev s77 rfl) (stG8 (cell8 c9 hS) ((hS.frozen (p := ⟨b, 9, none⟩) hby).trans (gf2 9)) _ _ _)) rfl ?_
  have V9 : Upd (fun k => k = b) f9 (f9.setCell ⟨b, 9, none⟩ (.slice a9 [u2].length c9_)) := (Upd.refl (fun k => k = b) _).setCell (p := ⟨b, 9, none⟩) (.inl rfl) _
  have c9n : (f9.setCell ⟨b, 9, none⟩ (.slice a9 [u2].length c9_)).cell? ⟨b, 9, none⟩ = some (.slice a9 [u2].length c9_) := setc_eq (cell8 c9 hS)
  have cy : ∀ i z, i ≠ 9 → y1.cell? ⟨b, i, none⟩ = some z → (f9.setCell ⟨b, 9, none⟩ (.slice a9 [u2].length c9_)).cell? ⟨b, i, none⟩ = some z := fun i z h1 h2 => setc_ne (cell8 h2 hS) h1
  obtain ⟨y3, hy3⟩ : ∃ v, v = (f9.setCell ⟨b, 9, none⟩ (.slice a9 [u2].length c9_)) := ⟨_, rfl⟩
  rw [← hy3] at V9 c9n cy ⊢
  clear hy3
  have of8 := (of8.grow hS).upd1 V9 (fun k hk9 e => by have := (of8.blk k hk9).1; omega)
  have of9 := of9.upd1 V9 (fun k hk9 e => by have := (of9.blk k hk9).1; omega)
  have U2 : Upd (fun k => k = b) y1 y3 := (Upd.mono (Upd.of_below (S := fun _ => False) hS) (fun k _ h => h.elim) : Upd (fun k => k = b) y1 f9).trans V9
  have hk2 := ((hk2.later8 be9).later8 bf9).set8 V9 (by omega) hlo2
  have HU := HU.upd U2 (by show ¬ w.heap.size = b; omega)
  have HZ := HZ.upd U2 (by show ¬ w.heap.size + 1 = b; omega)
  have c8n := cy 8 _ (by omega) c8n
  have U12 := U1.trans U2
  have zy3 := U12.size
  clear V9 gf2 U1 U2
  refine vg_done (by kernel_rfl) ?_
  clear s77 s79
  clear hS be9 bf9
  go_upto_region 14 with fail
  refine wp_region_lit ?_
  refine vt (u.val) (ex_ld rfl (ev s3 rfl) (SB7.ld HU)) hz (fun Ycq zz kk s80 => ?_)
  replace s4 := ku s4
  replace hz := zz
  clear kk zz s0 s3
  refine vs (sets y3 (w.heap.size + 1) 0 u.cs) (want_none rfl) (ex_st rfl (ev s4 rfl) (ev s80 rfl) (st12 HZ u)) rfl ?_
  have HP := SB7.put HZ u
  have UP := upd12 y3 (w.heap.size + 1) u
  obtain ⟨z9, hz9⟩ : ∃ v, v = sets y3 (w.heap.size + 1) 0 u.cs := ⟨_, rfl⟩
  rw [← hz9] at HP UP ⊢
  clear hz9
  have UZ : Upd (fun k => k = b ∨ k = w.heap.size + 1) wr z9 := ((Upd.mono U12 (fun k _ h => .inl h)) : Upd (fun k => k = b ∨ k = w.heap.size + 1) wr y3).tr9 UP (fun k _ h => .inr h)
  have UB := (UB.trans U12).tr9 UP (fun k h1 h2 => by omega)
  have hne : ∀ k, k = b ∨ k = w.heap.size + 1 → k < w2.heap.size := fun k h => by omega
  have hcz : ∀ i z, y3.cell? ⟨b, i, none⟩ = some z → z9.cell? ⟨b, i, none⟩ = some z := fun i z h => (UP.cell (p := ⟨b, i, none⟩) (by show b < y3.heap.size; omega) (by show ¬ b = w.heap.size + 1; omega)).trans h
  have gs := gs9_of hG UZ (fun k hk9 => by have := hne k hk9; omega) (fun i z h1 h2 => hcz i z (cy i z (by omega) (cx i z (by omega) h2))) ⟨hDE.1, hDE.2.1⟩ hLL ⟨a8, c8_, hcz 8 _ c8n, (of8.upd1 UP (fun k hk9 e => by have := (of8.blk k hk9).1; omega)).sl' kS9⟩ ⟨a9, c9_, hcz 9 _ c9n, (of9.upd1 UP (fun k hk9 e => by have := (of9.blk k hk9).1; omega)).sl' kS9⟩ (uin.upd9 ulo UZ hne) (hk2.set8 UP (by omega) hlo2).inn hk2.alike
  have gsr : ∀ (q : Nat) (z5 : World), q < w.heap.size → q ≠ b → Upd (fun k => k = q) z9 z5 → GS9 z5 b [u] [u2] D1 E1 La Lb := fun q z5 hq hqb V => by
      have UV : Upd (fun k => k = b ∨ k = w.heap.size + 1 ∨ k = q) wr z5 := (Upd.mono UZ (fun k _ h => by omega) : Upd (fun k => k = b ∨ k = w.heap.size + 1 ∨ k = q) wr z9).tr9 V (fun k _ h => .inr (.inr h))
      have hnv : ∀ k, k = b ∨ k = w.heap.size + 1 ∨ k = q → k < w2.heap.size := fun k h => by omega
      have hcv : ∀ i z, y3.cell? ⟨b, i, none⟩ = some z → z5.cell? ⟨b, i, none⟩ = some z := fun i z h => (V.cell (p := ⟨b, i, none⟩) (Nat.lt_of_lt_of_le (by show b < y3.heap.size; omega) UP.size) (by show ¬ b = q; omega)).trans (hcz i z h)
      exact gs9_of hG UV (fun k hk9 => by have := hnv k hk9; omega) (fun i z h1 h2 => hcv i z (cy i z (by omega) (cx i z (by omega) h2))) ⟨hDE.1, hDE.2.1⟩ hLL ⟨a8, c8_, hcv 8 _ c8n, ((of8.upd1 UP (fun k hk9 e => by have := (of8.blk k hk9).1; omega)).upd1 V (fun k hk9 e => by have := (of8.blk k hk9).1; omega)).sl' kS9⟩ ⟨a9, c9_, hcv 9 _ c9n, ((of9.upd1 UP (fun k hk9 e => by have := (of9.blk k hk9).1; omega)).upd1 V (fun k hk9 e => by have := (of9.blk k hk9).1; omega)).sl' kS9⟩ (uin.upd9 ulo UV hnv) ((hk2.set8 UP (by omega) hlo2).set8 V (by omega) hlo2).inn hk2.alike
  have GSH := hide (And.intro gs (And.intro gsr UB))
  clear gs gsr UB hcz UZ UP of8 of9
  clear s80
  refine wpList_nil ?_
  go_wp2
  refine bodyPost_ret (results_sta rfl (getD_of s4) HP) rfl ?_
  exact ⟨u, u2, D1, E1, La, Lb, rfl, ual, GSH.out.1, GSH.out.2.1, GSH.out.2.2⟩
end Go.Proofs.YtphdnmamopgelaaGreat
