import Derived.Test.YtabiimmpjllcpaaDoorS5
namespace Go.Proofs.YtabiimmpjllcpaaDoor
open Go.RowKit Go.Maps
open Classical
set_option linter.unusedVariables false
set_option linter.unusedSimpArgs false
theorem want_n {ops : Array Oper} {o : Oper} {T : Array Value} {g j : Nat} {pol b c : Bool} (h : o.guard = some (g, pol)) (hg : (ops[g]?).bind (·.dst) = some j) (hj : T[j]? = some (gw c (.bool b))) (hv : (c && (b == pol)) = false) : Region.wanted o (yielded ops T) = false := by
  rw [want_g h hg hj]
  exact hv
theorem own_at9 {B : Nat} {w : World} {a : Option Addr} {n c : Nat} {l : List Int} (h : Wi.Own B w (.slice a n c) l) (hl : 0 < l.length) : ∃ g, a = some ⟨g, 0, none⟩ ∧ B ≤ g := by
  rcases h.2 with ⟨_, h2⟩ | ⟨g, cap, cur, h1, h2, _⟩
  · omega
  · injection h1 with h3 _ _
    exact ⟨g, h3, h2⟩
theorem spoilt_math {c : Cf} {m : Mg} {L : List En} {D : List (Int × Int)} (h : ckM c m L D = 0) (hf : m.e.fits) (hL : ∀ e ∈ L, e.fits) (hd : drF m.d) (hD : ∀ d ∈ D, drF d) (hlen : (L.length : Int) ≤ 9223372036854775807) {mk i j g nf cf B : Nat} {w0 w : World} {G : List Int} (hm : mk < 4294967296) (T : Wi.Turned B w0 w g nf cf (enB c m L D) i mk j G) (hj : j ≤ 32) (hi : i < 8 * nf) (hn : (enB c m L D).length = nf) (hch : Wi.chB mk j = true) :
    ¬ (dcM c G).2 = 0 ∧ (dcM c G).1 = ⟨zG, [], [], (0, 0)⟩ := by
  have hby := enB_byte (c := c) (m := m) (L := L) (D := D) hf hL hd hD hlen
  obtain ⟨⟨s, hs⟩, _⟩ := dc_back h hf hL hd hD hlen
  have e0 := (dc_ok (by rw [hs])).2.1
  have h2 : mk % 2 ^ j ≠ 0 := by
    unfold Wi.chB at hch
    simpa using hch
  have hE := Wi.told_burst (enB c m L D) G hby T.byte (by rw [T.len, hn]) e0 (mk % 2 ^ j) i (Nat.lt_of_le_of_lt (Nat.mod_le _ _) hm) (by rw [hn]; exact hi) T.num h2
  have hne : ¬ (dcM c G).2 = 0 := fun h0 => hE (dc_ok h0).2.1
  exact ⟨hne, dc_bad hne⟩
set_option maxRecDepth 100000 in
set_option maxHeartbeats 4000000 in
theorem law_spoilt7 (c : Cf) (m : Mg) (a1 a2 : Option Addr) (c1 c2 : Nat) (L : List En) (D : List (Int × Int)) (ft : Int) (mk : Nat) (w : World) (hT : Tab w) (hL : SlY yE w a1 L.length c1 L) (hfit : ∀ e ∈ L, e.fits) (hD : SlY yD w a2 D.length c2 D) (hfe : m.e.fits) (hd : drF m.d) (hds : ∀ d ∈ D, drF d) (k1 : L.length * 48 ≤ 140737488351232) (hm : mk < 4294967296) :
    Calls Tryd.prog 5 #[c.val, m.val (.slice a1 L.length c1) (.slice a2 D.length c2), .int .i64 ft, .int .u32 (mk : Int)] w fun e w' => e = .returned (.bool true) ∧ Below w.heap.size w w' := by
  have hll : (L.length : Int) ≤ 9223372036854775807 := by omega
  have hby := enB_byte (c := c) (m := m) (L := L) (D := D) hfe hfit hd hds hll
  have H1 := hide hL
  have H2 := hide hD
  clear hL hD
  have HT := hide hT
  have H0 := hT.lt
  clear hT
  go_enter Tryd.func5, Tryd.ntmps5
  go_upto_region 0 with fail
  refine wp_region_lit ?_
  refine vl_gen (fun T => T.size = 96 ∧ T[0]? = some (gw true (.agg #[.int .i64 c.f, .int .i64 c.r, .int .i64 c.p, .bool c.u])) ∧ T[1]? = some (gw true (m.val (.slice a1 L.length c1) (.slice a2 D.length c2))) ∧ T[2]? = some (gw true (.int .i64 ft)) ∧ T[3]? = some (gw true (.int .u32 (mk : Int)))) ⟨rfl, rfl, rfl, rfl, rfl⟩ (fun Z0 ⟨hz, s0, s1, s2, s3⟩ => ?_)
  obtain ⟨w1, hw1⟩ : ∃ y, y = w.alloc (.cells #[.int .i64 c.f, .int .i64 c.r, .int .i64 c.p, .bool c.u] 23) := ⟨_, rfl⟩
  have hB : Below w.heap.size w w1 := by rw [hw1]; exact (Below.refl _ _).alloc (Nat.le_refl _) _
  have hs1 : w1.heap.size = w.heap.size + 1 := by rw [hw1]; simp
  have Cc : CfB w1 w.heap.size c := ⟨by omega, fun i x hx => by rw [hw1]; exact cell_box _ _ _ _ _ (by simpa using hx)⟩
  refine vw (.pointer (some ⟨w.heap.size, 0, none⟩)) w1 (want_none rfl) (ex_box rfl (ev s0 rfl) (by rw [hw1]; exact bxCf _ _ _ _ _)) rfl hz (by decide) (fun Z1 zz kk s4 => ?_)
  replace s1 := kt kk s1
  replace s2 := kt kk s2
  replace s3 := kt kk s3
  clear kk hz s0 hw1
  have hz := zz
  clear zz
  obtain ⟨w2, hw2⟩ : ∃ y, y = w1.alloc (.cells (m.cs (.slice a1 L.length c1) (.slice a2 D.length c2)).toArray 38) := ⟨_, rfl⟩
  have hb : Below w1.heap.size w1 w2 := by rw [hw2]; exact (Below.refl _ _).alloc (Nat.le_refl _) _
  have hs2 : w2.heap.size = w.heap.size + 2 := by rw [hw2]; simp; omega
  have Mc : MBox w2 (w.heap.size + 1) m (.slice a1 L.length c1) (.slice a2 D.length c2) := by rw [hw2, ← hs1]; exact MBox.new w1 m _ _
  refine vw (.pointer (some ⟨w.heap.size + 1, 0, none⟩)) w2 (want_none rfl) (ex_box rfl (ev s1 rfl) (by rw [hw2, ← hs1]; exact bxM _ _ _ _)) rfl hz (by decide) (fun Z2 zz kk s5 => ?_)
  replace Cc := Cc.bel hb
  replace hB := hB.trans (hb.mono hB.size)
  clear hb
  replace s2 := kt kk s2
  replace s3 := kt kk s3
  replace s4 := kt kk s4
  clear kk hz s1 hw2
  have hz := zz
  clear zz
  refine vl true (.bool false) (want_none rfl) (fun hc => ex_assign rfl rfl) rfl hz (by decide) (fun Z9 zz kk s8 => ?_)
  replace s2 := kt kk s2
  replace s3 := kt kk s3
  replace s4 := kt kk s4
  replace s5 := kt kk s5
  clear kk hz s8
  have hz := zz
  clear zz
  refine wpList_nil ?_
  have Lc := H1.out.later hB
  have Dc := H2.out.later hB
  have Tc := HT.out.later hB H0
  clear H1 H2 HT
  go_upto_region 1 with fail
  refine wp_region_lit ?_
  refine vcallP (want_none rfl) (ex_call (args := #[]) rfl (by simp) rfl) (alive7 _ Tc) rfl hz (by decide) ?_
  rintro e y1 ⟨rfl, hb⟩; have hy1 : w.heap.size + 2 ≤ y1.heap.size := by have := hb.size; omega
  refine ⟨_, rfl, fun A1x1_1 zz kk s16x => ?_⟩
  replace Cc := Cc.bel hb
  replace hB := hB.trans (hb.mono hB.size)
  replace Mc := Mc.bel hb
  replace Lc := Lc.later hb
  replace Dc := Dc.later hb
  replace Tc := Tc.later hb Tc.lt
  clear hb
  replace s2 := kt kk s2
  replace s3 := kt kk s3
  replace s4 := kt kk s4
  replace s5 := kt kk s5
  clear kk hz
  have hz := zz
  have s16 := s16x
  clear zz s16x
  refine vt (.bool (!true)) (ex_not rfl (ev s16 rfl)) hz (fun A1x1_2 zz kk s17x => ?_)
  replace s2 := kt kk s2
  replace s3 := kt kk s3
  replace s4 := kt kk s4
  replace s5 := kt kk s5
  clear kk hz s16
  have hz := zz
  have s17 := s17x
  clear zz s17x A1x1_1
  refine wpList_nil ?_
  go_upto_region 3 with fail
  refine wp_cond_false ((ev s17 rfl).trans rfl) ?_
  clear s17
  go_upto_region 3 with fail
  refine wp_region_lit ?_
  refine vt (.agg #[.int .i64 c.f, .int .i64 c.r, .int .i64 c.p, .bool c.u]) (ex_ld rfl (ev s4 rfl) (Cc.ldAll)) hz (fun A2x3_1 zz kk s19x => ?_)
  replace s2 := kt kk s2
  replace s3 := kt kk s3
  replace s4 := kt kk s4
  replace s5 := kt kk s5
  clear kk hz
  have hz := zz
  have s19 := s19x
  clear zz s19x
  refine vt (m.val (.slice a1 L.length c1) (.slice a2 D.length c2)) (ex_ld rfl (ev s5 rfl) (Mc.ldAll)) hz (fun A2x3_2 zz kk s20x => ?_)
  replace s2 := kt kk s2
  replace s3 := kt kk s3
  replace s4 := kt kk s4
  replace s5 := kt kk s5
  replace s19 := kt kk s19
  clear kk hz
  have hz := zz
  have s20 := s20x
  clear zz s20x A2x3_1
  refine vcallP (want_none rfl) (ex_call rfl (by simp only [List.map_toArray, List.map_cons, List.map_nil, (ev s19 rfl), (ev s20 rfl), evc] <;> rfl) rfl) (encode_any c m a1 a2 c1 c2 L D _ Tc Lc hfit Dc hfe hd hds) rfl hz (by decide) ?_
  rintro e y2 ⟨vf_, rfl, Of, hb⟩; have hy12 := hB.size; obtain ⟨af, nf, cf, rfl, hsF, _⟩ := Of.hs hby
  refine ⟨_, rfl, fun A2x3_3 zz kk s21x => ?_⟩
  replace Cc := Cc.bel hb
  replace hB := hB.trans (hb.mono hB.size)
  replace Mc := Mc.bel hb
  replace Lc := Lc.later hb
  replace Dc := Dc.later hb
  replace Tc := Tc.later hb Tc.lt
  clear hb
  replace s2 := kt kk s2
  replace s3 := kt kk s3
  replace s4 := kt kk s4
  replace s5 := kt kk s5
  clear kk hz s19 s20
  have hz := zz
  have s21 := s21x
  clear zz s21x A2x3_2
  refine vt _ (ex_move rfl (ev s21 rfl)) hz (fun A2x3_4 zz kk s18x => ?_)
  replace s2 := kt kk s2
  replace s3 := kt kk s3
  replace s4 := kt kk s4
  replace s5 := kt kk s5
  clear kk hz s21
  have hz := zz
  have s18 := s18x
  clear zz s18x A2x3_3
  refine vt (.slice af nf cf) (ex_ext rfl (ev s18 rfl) rfl) hz (fun A2x3_5 zz kk s22x => ?_)
  replace s2 := kt kk s2
  replace s3 := kt kk s3
  replace s4 := kt kk s4
  replace s5 := kt kk s5
  replace s18 := kt kk s18
  clear kk hz
  have hz := zz
  have s22 := s22x
  clear zz s22x A2x3_4
  refine vt (.int .i64 (ckM c m L D)) (ex_ext rfl (ev s18 rfl) rfl) hz (fun A2x3_6 zz kk s23x => ?_)
  replace s2 := kt kk s2
  replace s3 := kt kk s3
  replace s4 := kt kk s4
  replace s5 := kt kk s5
  replace s22 := kt kk s22
  clear kk hz s18
  have hz := zz
  have s23 := s23x
  clear zz s23x A2x3_5
  refine vt _ (ex_assign rfl (ev s22 rfl)) hz (fun A2x3_7 zz kk s9x => ?_)
  replace s2 := kt kk s2
  replace s3 := kt kk s3
  replace s4 := kt kk s4
  replace s5 := kt kk s5
  replace s23 := kt kk s23
  clear kk hz s22
  have hz := zz
  have s9 := s9x
  clear zz s9x A2x3_6
  refine vt _ (ex_assign rfl (ev s23 rfl)) hz (fun A2x3_8 zz kk s10x => ?_)
  replace s2 := kt kk s2
  replace s3 := kt kk s3
  replace s4 := kt kk s4
  replace s5 := kt kk s5
  replace s9 := kt kk s9
  clear kk hz s23
  have hz := zz
  have s10 := s10x
  clear zz s10x A2x3_7
  refine wpList_nil ?_
  go_upto_region 4 with fail
  refine wp_region_lit ?_
  refine vt _ (ex_move rfl (ev s10 rfl)) hz (fun A3x4_1 zz kk s24x => ?_)
  replace s2 := kt kk s2
  replace s3 := kt kk s3
  replace s4 := kt kk s4
  replace s5 := kt kk s5
  replace s9 := kt kk s9
  replace s10 := kt kk s10
  clear kk hz
  have hz := zz
  have s24 := s24x
  clear zz s24x
  refine vcallP (want_none rfl) (ex_call rfl (by simp only [List.map_toArray, List.map_cons, List.map_nil, (ev s24 rfl), evc] <;> rfl) rfl) (num7_any (ckM c m L D) _) rfl hz (by decide) ?_
  rintro e y_ ⟨rfl, hy_⟩; rw [hy_]; clear hy_ y_
  refine ⟨_, rfl, fun A3x4_2 zz kk s25x => ?_⟩
  replace s2 := kt kk s2
  replace s3 := kt kk s3
  replace s4 := kt kk s4
  replace s5 := kt kk s5
  replace s9 := kt kk s9
  replace s10 := kt kk s10
  clear kk hz s24
  have hz := zz
  have s25 := s25x
  clear zz s25x A3x4_1
  refine vt (.bool (!decide ((ckM c m L D) = 0))) (ex_bin rfl (ev s25 rfl) rfl (neqC _ _ _ _ _)) hz (fun A3x4_3 zz kk s26x => ?_)
  replace s2 := kt kk s2
  replace s3 := kt kk s3
  replace s4 := kt kk s4
  replace s5 := kt kk s5
  replace s9 := kt kk s9
  replace s10 := kt kk s10
  clear kk hz s25
  have hz := zz
  have s26 := s26x
  clear zz s26x A3x4_2
  refine wpList_nil ?_
  go_upto_region 6 with fail
  cases e4 : !decide (ckM c m L D = 0)
  rotate_left
  · refine wp_cond_true ((ev s26 rfl).trans (congrArg Value.bool e4)) ?_
    clear s26 e4
    go_upto_region 5 with fail
    refine wp_region_lit ?_
    refine vt (.agg #[.int .i64 c.f, .int .i64 c.r, .int .i64 c.p, .bool c.u]) (ex_ld rfl (ev s4 rfl) (Cc.ldAll)) hz (fun A4x5_1 zz kk s27x => ?_)
    replace s5 := kt kk s5
    replace s10 := kt kk s10
    clear kk hz s2 s3 s4 s9
    have hz := zz
    have s27 := s27x
    clear zz s27x
    refine vt (m.val (.slice a1 L.length c1) (.slice a2 D.length c2)) (ex_ld rfl (ev s5 rfl) (Mc.ldAll)) hz (fun A4x5_2 zz kk s28x => ?_)
    replace s10 := kt kk s10
    replace s27 := kt kk s27
    clear kk hz s5
    have hz := zz
    have s28 := s28x
    clear zz s28x A4x5_1
    refine vcallP (want_none rfl) (ex_call rfl (by simp only [List.map_toArray, List.map_cons, List.map_nil, (ev s27 rfl), (ev s28 rfl), evc] <;> rfl) rfl) (refcheck7 c m a1 a2 c1 c2 L D _ Lc hfit Dc hfe) rfl hz (by decide) ?_
    rintro e y3 ⟨rfl, hb⟩
    refine ⟨_, rfl, fun A4x5_3 zz kk s29x => ?_⟩
    replace Cc := Cc.bel hb
    replace hB := hB.trans (hb.mono hB.size)
    replace Mc := Mc.bel hb
    replace Lc := Lc.later hb
    replace Dc := Dc.later hb
    replace Tc := Tc.later hb Tc.lt
    clear hb
    replace s10 := kt kk s10
    clear kk hz s27 s28
    have hz := zz
    have s29 := s29x
    clear zz s29x A4x5_2
    refine vt _ (ex_move rfl (ev s10 rfl)) hz (fun A4x5_4 zz kk s30x => ?_)
    replace s29 := kt kk s29
    clear kk hz s10
    have hz := zz
    have s30 := s30x
    clear zz s30x A4x5_3
    refine vcallP (want_none rfl) (ex_call rfl (by simp only [List.map_toArray, List.map_cons, List.map_nil, (ev s30 rfl), evc] <;> rfl) rfl) (num7_any (ckM c m L D) _) rfl hz (by decide) ?_
    rintro e y_ ⟨rfl, hy_⟩; rw [hy_]; clear hy_ y_
    refine ⟨_, rfl, fun A4x5_5 zz kk s31x => ?_⟩
    replace s29 := kt kk s29
    clear kk hz s30
    have hz := zz
    have s31 := s31x
    clear zz s31x A4x5_4
    refine vt (.bool true) (ex_bin rfl (ev s29 rfl) (ev s31 rfl) (eqSelf _ _ _ _)) hz (fun A4x5_6 zz kk s32x => ?_)
    clear kk hz s29 s31
    have hz := zz
    have s32 := s32x
    clear zz s32x A4x5_5
    refine vt _ (ex_assign rfl (ev s32 rfl)) hz (fun A4x5_7 zz kk s8x => ?_)
    clear kk hz s32
    have hz := zz
    have s8 := s8x
    clear zz s8x A4x5_6
    refine wpList_nil ?_
    go_wp2
    refine bodyPost_ret (results_tmp rfl _ _ _) rfl ⟨?_, hB⟩
    rw [getD_of s8]
    rfl
  refine wp_cond_false ((ev s26 rfl).trans (congrArg Value.bool e4)) ?_
  have hck : ckM c m L D = 0 := by simpa using e4
  clear s26 e4 s5 s10
  obtain ⟨⟨s0_, hdc⟩, hle, hge⟩ := dc_back hck hfe hfit hd hds hll
  have hnl := hsF.len
  obtain ⟨g, rfl, hgB⟩ := own_at9 Of (by omega)
  have hBg : w.heap.size ≤ g := by omega
  have hOf := Of.base (show w.heap.size ≤ y1.heap.size by omega)
  go_upto_region 6 with fail
  refine wp_region_lit ?_
  refine vt _ (ex_move rfl (ev s2 rfl)) hz (fun A5x6_1 zz kk s33x => ?_)
  replace s2 := kt kk s2
  replace s3 := kt kk s3
  replace s4 := kt kk s4
  replace s9 := kt kk s9
  clear kk hz
  have hz := zz
  have s33 := s33x
  clear zz s33x
  refine vt (.bool (decide (ft < 0))) (ex_bin rfl (ev s33 rfl) rfl (lssC _ _ _ _ _)) hz (fun A5x6_2 zz kk s34x => ?_)
  replace s2 := kt kk s2
  replace s3 := kt kk s3
  replace s4 := kt kk s4
  replace s9 := kt kk s9
  clear kk hz s33
  have hz := zz
  have s34 := s34x
  clear zz s34x A5x6_1
  refine vt _ (ex_move rfl (ev s34 rfl)) hz (fun A5x6_3 zz kk s35x => ?_)
  replace s2 := kt kk s2
  replace s3 := kt kk s3
  replace s4 := kt kk s4
  replace s9 := kt kk s9
  clear kk hz s34
  have hz := zz
  have s35 := s35x
  clear zz s35x A5x6_2
  refine vl _ _ (want_g rfl rfl s35) (fun hc => ex_move rfl (ev s2 rfl)) rfl hz (by decide) (fun A5x6_4 zz kk s36x => ?_)
  replace s2 := kt kk s2
  replace s3 := kt kk s3
  replace s4 := kt kk s4
  replace s9 := kt kk s9
  replace s35 := kt kk s35
  clear kk hz
  have hz := zz
  have s36 := s36x
  clear zz s36x A5x6_3
  refine vl _ _ (want_g rfl rfl s35) (fun hc => ex_move rfl (ev s9 rfl)) rfl hz (by decide) (fun A5x6_5 zz kk s37x => ?_)
  replace s2 := kt kk s2
  replace s3 := kt kk s3
  replace s4 := kt kk s4
  replace s9 := kt kk s9
  replace s35 := kt kk s35
  replace s36 := kt kk s36
  clear kk hz
  have hz := zz
  have s37 := s37x
  clear zz s37x A5x6_4
  refine vl _ (.int .i64 (nf : Int)) (want_g rfl rfl s35) (fun hc => ex_len8 rfl rfl (ev s37 hc)) rfl hz (by decide) (fun A5x6_6 zz kk s38x => ?_)
  replace s2 := kt kk s2
  replace s3 := kt kk s3
  replace s4 := kt kk s4
  replace s9 := kt kk s9
  replace s35 := kt kk s35
  replace s36 := kt kk s36
  clear kk hz s37
  have hz := zz
  have s38 := s38x
  clear zz s38x A5x6_5
  refine vl _ (.int .i64 ((8 * nf : Nat) : Int)) (want_g rfl rfl s35) (fun hc => ex_bin rfl rfl (ev s38 hc) (mul8 _ _ nf (by omega) _)) rfl hz (by decide) (fun A5x6_7 zz kk s39x => ?_)
  replace s2 := kt kk s2
  replace s3 := kt kk s3
  replace s4 := kt kk s4
  replace s9 := kt kk s9
  replace s35 := kt kk s35
  replace s36 := kt kk s36
  clear kk hz s38
  have hz := zz
  have s39 := s39x
  clear zz s39x A5x6_6
  refine vl _ (.bool (decide (((8 * nf : Nat) : Int) ≤ ft))) (want_g rfl rfl s35) (fun hc => ex_bin rfl (ev s36 hc) (ev s39 hc) (geqC _ _ _ _ _)) rfl hz (by decide) (fun A5x6_8 zz kk s40x => ?_)
  replace s2 := kt kk s2
  replace s3 := kt kk s3
  replace s4 := kt kk s4
  replace s9 := kt kk s9
  replace s35 := kt kk s35
  clear kk hz s36 s39
  have hz := zz
  have s40 := s40x
  clear zz s40x A5x6_7
  refine vt (.bool ((decide (ft < 0)) || (decide (((8 * nf : Nat) : Int) ≤ ft)))) (ex_or rfl s35 s40 rfl) hz (fun A5x6_9 zz kk s41x => ?_)
  replace s2 := kt kk s2
  replace s3 := kt kk s3
  replace s4 := kt kk s4
  replace s9 := kt kk s9
  clear kk hz s35 s40
  have hz := zz
  have s41 := s41x
  clear zz s41x A5x6_8
  refine wpList_nil ?_
  go_upto_region 8 with fail
  cases e6 : ((decide (ft < 0)) || (decide (((8 * nf : Nat) : Int) ≤ ft)))
  rotate_left
  · refine wp_cond_true ((ev s41 rfl).trans (congrArg Value.bool e6)) ?_
    clear s41 e6
    go_upto_region 7 with fail
    refine wp_region_lit ?_
    refine vt (.bool true) (ex_assign rfl rfl) hz (fun A6x7_1 zz kk s8x => ?_)
    clear kk hz s2 s3 s4 s9
    have hz := zz
    have s8 := s8x
    clear zz s8x
    refine wpList_nil ?_
    go_wp2
    refine bodyPost_ret (results_tmp rfl _ _ _) rfl ⟨?_, hB⟩
    rw [getD_of s8]
    rfl
  refine wp_cond_false ((ev s41 rfl).trans (congrArg Value.bool e6)) ?_
  simp only [Bool.or_eq_false_iff, decide_eq_false_iff_not] at e6
  obtain ⟨i, rfl⟩ := Int.eq_ofNat_of_zero_le (show 0 ≤ ft by omega)
  have hi : i < 8 * nf := by omega
  clear s41 e6
  go_upto_region 8 with fail
  refine wp_region_lit ?_
  refine vt (.bool false) (ex_assign rfl rfl) hz (fun A7x8_1 zz kk s11x => ?_)
  replace s2 := kt kk s2
  replace s3 := kt kk s3
  replace s4 := kt kk s4
  replace s9 := kt kk s9
  clear kk hz
  have hz := zz
  have s11 := s11x
  clear zz s11x
  refine wpList_nil ?_
  go_upto_region 9 with fail
  refine wp_region_lit ?_
  refine vt (.int .i64 0) (ex_assign rfl rfl) hz (fun A8x9_1 zz kk s12x => ?_)
  replace s2 := kt kk s2
  replace s3 := kt kk s3
  replace s4 := kt kk s4
  replace s9 := kt kk s9
  replace s11 := kt kk s11
  clear kk hz
  have hz := zz
  have s12 := s12x
  clear zz s12x
  refine wpList_nil ?_
  have T0 : Wi.Turned w.heap.size w y2 g nf cf (enB c m L D) i mk 0 (enB c m L D) := ⟨hOf, hB, hnl, hby, by simp [Nat.mod_one]⟩
  go_upto_region 10 with fail
  have h11 : (.bool false : Value) = .bool (Wi.chB mk 0) := by simp [Wi.chB, Nat.mod_one]
  rw [h11] at s11
  refine v_loop 12 32 (fun j T wr => T.size = 96 ∧ T[2]? = some (gw true (.int .i64 (i : Int))) ∧ T[3]? = some (gw true (.int .u32 (mk : Int))) ∧ T[4]? = some (gw true (.pointer (some ⟨w.heap.size, 0, none⟩))) ∧ T[9]? = some (gw true (.slice (some ⟨g, 0, none⟩) nf cf)) ∧ T[11]? = some (gw true (.bool (Wi.chB mk j))) ∧ T[12]? = some (gw true (.int .i64 (j : Int))) ∧ i + j ≤ 8 * nf ∧ Hid (∃ G, Wi.Turned w.heap.size w wr g nf cf (enB c m L D) i mk j G ∧ UB g y2 wr)) (fun j T w h => h.2.2.2.2.2.2.1) ⟨hz, s2, s3, s4, s9, s11, s12, by omega, ⟨_, T0, UB.refl _ _⟩⟩ ?_
  clear hz s2 s3 s4 s9 s11 s12 T0 h11
  intro j R0 wr hj hh
  obtain ⟨hz, s2, s3, s4, s9, s11, s12, hij, HI⟩ := hh
  obtain ⟨G, HT, hU⟩ := HI.out
  clear HI
  have Cy := Cc
  have hBy := hB
  replace Cc := Cc.upd hU (by omega)
  have hsr := hU.size
  replace hB := HT.bel
  go_upto_region 10 with fail
  refine wp_region_lit ?_
  refine vt _ (ex_move rfl (ev s12 rfl)) hz (fun A9x10_1 zz kk s42x => ?_)
  replace s2 := kt kk s2
  replace s3 := kt kk s3
  replace s4 := kt kk s4
  replace s9 := kt kk s9
  replace s11 := kt kk s11
  replace s12 := kt kk s12
  clear kk hz
  have hz := zz
  have s42 := s42x
  clear zz s42x
  refine vt (.bool (decide ((j : Int) < 32))) (ex_bin rfl (ev s42 rfl) rfl (lssC _ _ _ _ _)) hz (fun A9x10_2 zz kk s43x => ?_)
  replace s2 := kt kk s2
  replace s3 := kt kk s3
  replace s4 := kt kk s4
  replace s9 := kt kk s9
  replace s11 := kt kk s11
  replace s12 := kt kk s12
  clear kk hz s42
  have hz := zz
  have s43 := s43x
  clear zz s43x A9x10_1
  refine vt _ (ex_move rfl (ev s43 rfl)) hz (fun A9x10_3 zz kk s44x => ?_)
  replace s2 := kt kk s2
  replace s3 := kt kk s3
  replace s4 := kt kk s4
  replace s9 := kt kk s9
  replace s11 := kt kk s11
  replace s12 := kt kk s12
  clear kk hz s43
  have hz := zz
  have s44 := s44x
  clear zz s44x A9x10_2
  refine vl _ _ (want_g rfl rfl s44) (fun hc => ex_move rfl (ev s2 rfl)) rfl hz (by decide) (fun A9x10_4 zz kk s45x => ?_)
  replace s2 := kt kk s2
  replace s3 := kt kk s3
  replace s4 := kt kk s4
  replace s9 := kt kk s9
  replace s11 := kt kk s11
  replace s12 := kt kk s12
  replace s44 := kt kk s44
  clear kk hz
  have hz := zz
  have s45 := s45x
  clear zz s45x A9x10_3
  refine vl _ _ (want_g rfl rfl s44) (fun hc => ex_move rfl (ev s9 rfl)) rfl hz (by decide) (fun A9x10_5 zz kk s46x => ?_)
  replace s2 := kt kk s2
  replace s3 := kt kk s3
  replace s4 := kt kk s4
  replace s9 := kt kk s9
  replace s11 := kt kk s11
  replace s12 := kt kk s12
  replace s44 := kt kk s44
  replace s45 := kt kk s45
  clear kk hz
  have hz := zz
  have s46 := s46x
  clear zz s46x A9x10_4
  refine vl _ (.int .i64 (nf : Int)) (want_g rfl rfl s44) (fun hc => ex_len8 rfl rfl (ev s46 hc)) rfl hz (by decide) (fun A9x10_6 zz kk s47x => ?_)
  replace s2 := kt kk s2
  replace s3 := kt kk s3
  replace s4 := kt kk s4
  replace s9 := kt kk s9
  replace s11 := kt kk s11
  replace s12 := kt kk s12
  replace s44 := kt kk s44
  replace s45 := kt kk s45
  clear kk hz s46
  have hz := zz
  have s47 := s47x
  clear zz s47x A9x10_5
  refine vl _ (.int .i64 ((8 * nf : Nat) : Int)) (want_g rfl rfl s44) (fun hc => ex_bin rfl rfl (ev s47 hc) (mul8 _ _ nf (by omega) _)) rfl hz (by decide) (fun A9x10_7 zz kk s48x => ?_)
  replace s2 := kt kk s2
  replace s3 := kt kk s3
  replace s4 := kt kk s4
  replace s9 := kt kk s9
  replace s11 := kt kk s11
  replace s12 := kt kk s12
  replace s44 := kt kk s44
  replace s45 := kt kk s45
  clear kk hz s47
  have hz := zz
  have s48 := s48x
  clear zz s48x A9x10_6
  refine vl _ _ (want_g rfl rfl s44) (fun hc => ex_move rfl (ev s12 rfl)) rfl hz (by decide) (fun A9x10_8 zz kk s49x => ?_)
  replace s2 := kt kk s2
  replace s3 := kt kk s3
  replace s4 := kt kk s4
  replace s9 := kt kk s9
  replace s11 := kt kk s11
  replace s12 := kt kk s12
  replace s44 := kt kk s44
  replace s45 := kt kk s45
  replace s48 := kt kk s48
  clear kk hz
  have hz := zz
  have s49 := s49x
  clear zz s49x A9x10_7
  refine vl _ (.int .i64 ((8 * nf - j : Nat) : Int)) (want_g rfl rfl s44) (fun hc => ex_bin rfl (ev s48 hc) (ev s49 hc) (sub8 _ _ (8 * nf) j (by omega) (by omega) _)) rfl hz (by decide) (fun A9x10_9 zz kk s50x => ?_)
  replace s2 := kt kk s2
  replace s3 := kt kk s3
  replace s4 := kt kk s4
  replace s9 := kt kk s9
  replace s11 := kt kk s11
  replace s12 := kt kk s12
  replace s44 := kt kk s44
  replace s45 := kt kk s45
  clear kk hz s48 s49
  have hz := zz
  have s50 := s50x
  clear zz s50x A9x10_8
  refine vl _ (.bool (decide ((i : Int) < ((8 * nf - j : Nat) : Int)))) (want_g rfl rfl s44) (fun hc => ex_bin rfl (ev s45 hc) (ev s50 hc) (lssC _ _ _ _ _)) rfl hz (by decide) (fun A9x10_10 zz kk s51x => ?_)
  replace s2 := kt kk s2
  replace s3 := kt kk s3
  replace s4 := kt kk s4
  replace s9 := kt kk s9
  replace s11 := kt kk s11
  replace s12 := kt kk s12
  replace s44 := kt kk s44
  clear kk hz s45 s50
  have hz := zz
  have s51 := s51x
  clear zz s51x A9x10_9
  refine vt (.bool ((decide ((j : Int) < 32)) && (decide ((i : Int) < ((8 * nf - j : Nat) : Int))))) (ex_and rfl s44 s51 rfl) hz (fun A9x10_11 zz kk s52x => ?_)
  replace s2 := kt kk s2
  replace s3 := kt kk s3
  replace s4 := kt kk s4
  replace s9 := kt kk s9
  replace s11 := kt kk s11
  replace s12 := kt kk s12
  clear kk hz s44 s51
  have hz := zz
  have s52 := s52x
  clear zz s52x A9x10_10
  refine wpList_nil ?_
  go_upto_region 12 with fail
  cases e7 : ((decide ((j : Int) < 32)) && (decide ((i : Int) < ((8 * nf - j : Nat) : Int))))
  rotate_left
  · refine wp_cond_true ((ev s52 rfl).trans (congrArg Value.bool e7)) ?_
    simp only [Bool.and_eq_true, decide_eq_true_eq] at e7
    have hj2 : j < 32 := by omega
    have hij2 : i + j < 8 * nf := by omega
    have hat : (i + j) / 8 < nf := by omega
    clear s52 e7
    go_upto_region 12 with fail
    refine wp_region_lit ?_
    refine vt _ (ex_move rfl (ev s3 rfl)) hz (fun A10x12_1 zz kk s55x => ?_)
    replace s2 := kt kk s2
    replace s3 := kt kk s3
    replace s4 := kt kk s4
    replace s9 := kt kk s9
    replace s11 := kt kk s11
    replace s12 := kt kk s12
    clear kk hz
    have hz := zz
    have s55 := s55x
    clear zz s55x
    refine vt _ (ex_move rfl (ev s12 rfl)) hz (fun A10x12_2 zz kk s56x => ?_)
    replace s2 := kt kk s2
    replace s3 := kt kk s3
    replace s4 := kt kk s4
    replace s9 := kt kk s9
    replace s11 := kt kk s11
    replace s12 := kt kk s12
    replace s55 := kt kk s55
    clear kk hz
    have hz := zz
    have s56 := s56x
    clear zz s56x A10x12_1
    refine vt (.int .u64 (j : Int)) (ex_cv rfl (ev s56 rfl) (cvUint j (by omega) _)) hz (fun A10x12_3 zz kk s57x => ?_)
    replace s2 := kt kk s2
    replace s3 := kt kk s3
    replace s4 := kt kk s4
    replace s9 := kt kk s9
    replace s11 := kt kk s11
    replace s12 := kt kk s12
    replace s55 := kt kk s55
    clear kk hz s56
    have hz := zz
    have s57 := s57x
    clear zz s57x A10x12_2
    refine vt (.int .u32 ((mk : Int) / 2 ^ j)) (ex_bin rfl (ev s55 rfl) (ev s57 rfl) (shr32 _ _ mk j (by omega) _)) hz (fun A10x12_4 zz kk s58x => ?_)
    replace s2 := kt kk s2
    replace s3 := kt kk s3
    replace s4 := kt kk s4
    replace s9 := kt kk s9
    replace s11 := kt kk s11
    replace s12 := kt kk s12
    clear kk hz s55 s57
    have hz := zz
    have s58 := s58x
    clear zz s58x A10x12_3
    refine vt (.int .u32 (bits .and .u32 ((mk : Int) / 2 ^ j) 1)) (ex_bin rfl (ev s58 rfl) rfl (and32 _ _ _ _)) hz (fun A10x12_5 zz kk s59x => ?_)
    replace s2 := kt kk s2
    replace s3 := kt kk s3
    replace s4 := kt kk s4
    replace s9 := kt kk s9
    replace s11 := kt kk s11
    replace s12 := kt kk s12
    clear kk hz s58
    have hz := zz
    have s59 := s59x
    clear zz s59x A10x12_4
    refine vt (.bool (decide (mk / 2 ^ j % 2 = 1))) (ex_bin rfl (ev s59 rfl) rfl (eq32 _ _ mk j hm _)) hz (fun A10x12_6 zz kk s60x => ?_)
    replace s2 := kt kk s2
    replace s3 := kt kk s3
    replace s4 := kt kk s4
    replace s9 := kt kk s9
    replace s11 := kt kk s11
    replace s12 := kt kk s12
    clear kk hz s59
    have hz := zz
    have s60 := s60x
    clear zz s60x A10x12_5
    refine wpList_nil ?_
    go_upto_region 13 with fail
    refine v_cond (fun T wr => T.size = 96 ∧ T[2]? = some (gw true (.int .i64 (i : Int))) ∧ T[3]? = some (gw true (.int .u32 (mk : Int))) ∧ T[4]? = some (gw true (.pointer (some ⟨w.heap.size, 0, none⟩))) ∧ T[9]? = some (gw true (.slice (some ⟨g, 0, none⟩) nf cf)) ∧ T[11]? = some (gw true (.bool (Wi.chB mk (j + 1)))) ∧ T[12]? = some (gw true (.int .i64 (j : Int))) ∧ i + (j + 1) ≤ 8 * nf ∧ Hid (∃ G, Wi.Turned w.heap.size w wr g nf cf (enB c m L D) i mk (j + 1) G ∧ UB g y2 wr)) s60 (fun hu => ?_) (fun hu => ?_) ?_
    rotate_left
    · have hu0 : mk / 2 ^ j % 2 = 0 := by have := of_decide_eq_false hu; omega
      rw [← Wi.chB_skip mk j hu0] at s11
      exact ⟨hz, s2, s3, s4, s9, s11, s12, by omega, ⟨G, HT.skip hu0, hU⟩⟩
    · clear hz s2 s3 s4 s9 s11 s12 s60 HT hU Cc hB hsr
      intro T8 w8 hJ
      obtain ⟨hz, s2, s3, s4, s9, s11, s12, hij3, HI⟩ := hJ
      go_upto_region 11 with fail
      refine wp_region_lit ?_
      refine vt _ (ex_move rfl (ev s12 rfl)) hz (fun A11x11_1 zz kk s53x => ?_)
      replace s2 := kt kk s2
      replace s3 := kt kk s3
      replace s4 := kt kk s4
      replace s9 := kt kk s9
      replace s11 := kt kk s11
      replace s12 := kt kk s12
      clear kk hz
      have hz := zz
      have s53 := s53x
      clear zz s53x
      refine vt (.int .i64 ((j + 1 : Nat) : Int)) (ex_bin rfl (ev s53 rfl) rfl (addJ j (by omega) _ _ _)) hz (fun A11x11_2 zz kk s54x => ?_)
      replace s2 := kt kk s2
      replace s3 := kt kk s3
      replace s4 := kt kk s4
      replace s9 := kt kk s9
      replace s11 := kt kk s11
      replace s12 := kt kk s12
      clear kk hz s53
      have hz := zz
      have s54 := s54x
      clear zz s54x A11x11_1
      refine vt _ (ex_assign rfl (ev s54 rfl)) hz (fun A11x11_3 zz kk s12x => ?_)
      replace s2 := kt kk s2
      replace s3 := kt kk s3
      replace s4 := kt kk s4
      replace s9 := kt kk s9
      replace s11 := kt kk s11
      clear kk hz s54 s12
      have hz := zz
      have s12 := s12x
      clear zz s12x A11x11_2
      refine wpList_nil ?_
      exact ⟨_, rfl, by omega, hz, s2, s3, s4, s9, s11, s12, hij3, HI.out⟩
    · clear s60
      have hu1 := of_decide_eq_true hu
      have hcell := HT.own.row ((i + j) / 8) (by rw [HT.len]; exact hat)
      rw [Addr.add_lit, Nat.zero_add] at hcell
      have hsoft := HT.own.soft ((i + j) / 8)
      have hzb : 0 ≤ G.getD ((i + j) / 8) 0 ∧ G.getD ((i + j) / 8) 0 < 256 := HT.byte _ (by simp [List.getD, show (i + j) / 8 < G.length by rw [HT.len]; exact hat])
      have HN := HT.turn hu1 hBg hij2
      go_upto_region 13 with fail
      refine wp_region_lit ?_
      refine vt _ (ex_move rfl (ev s2 rfl)) hz (fun A12x13_1 zz kk s61x => ?_)
      replace s2 := kt kk s2
      replace s3 := kt kk s3
      replace s4 := kt kk s4
      replace s9 := kt kk s9
      replace s12 := kt kk s12
      clear kk hz s11
      have hz := zz
      have s61 := s61x
      clear zz s61x
      refine vt _ (ex_move rfl (ev s12 rfl)) hz (fun A12x13_2 zz kk s62x => ?_)
      replace s2 := kt kk s2
      replace s3 := kt kk s3
      replace s4 := kt kk s4
      replace s9 := kt kk s9
      replace s12 := kt kk s12
      replace s61 := kt kk s61
      clear kk hz
      have hz := zz
      have s62 := s62x
      clear zz s62x A12x13_1
      refine vt (.int .i64 ((i + j : Nat) : Int)) (ex_bin rfl (ev s61 rfl) (ev s62 rfl) (addN _ _ i j (by omega) _)) hz (fun A12x13_3 zz kk s63x => ?_)
      replace s2 := kt kk s2
      replace s3 := kt kk s3
      replace s4 := kt kk s4
      replace s9 := kt kk s9
      replace s12 := kt kk s12
      clear kk hz s61 s62
      have hz := zz
      have s63 := s63x
      clear zz s63x A12x13_2
      refine vt _ (ex_assign rfl (ev s63 rfl)) hz (fun A12x13_4 zz kk s13x => ?_)
      replace s2 := kt kk s2
      replace s3 := kt kk s3
      replace s4 := kt kk s4
      replace s9 := kt kk s9
      replace s12 := kt kk s12
      clear kk hz s63
      have hz := zz
      have s13 := s13x
      clear zz s13x A12x13_3
      refine wpList_nil ?_
      go_upto_region 14 with fail
      refine wp_region_lit ?_
      refine vt _ (ex_move rfl (ev s9 rfl)) hz (fun A13x14_1 zz kk s64x => ?_)
      replace s2 := kt kk s2
      replace s3 := kt kk s3
      replace s4 := kt kk s4
      replace s9 := kt kk s9
      replace s12 := kt kk s12
      replace s13 := kt kk s13
      clear kk hz
      have hz := zz
      have s64 := s64x
      clear zz s64x
      refine vt _ (ex_move rfl (ev s13 rfl)) hz (fun A13x14_2 zz kk s65x => ?_)
      replace s2 := kt kk s2
      replace s3 := kt kk s3
      replace s4 := kt kk s4
      replace s9 := kt kk s9
      replace s12 := kt kk s12
      replace s13 := kt kk s13
      replace s64 := kt kk s64
      clear kk hz
      have hz := zz
      have s65 := s65x
      clear zz s65x A13x14_1
      refine vt (.int .i64 (((i + j) / 8 : Nat) : Int)) (ex_bin rfl (ev s65 rfl) rfl (quo8 _ _ (i + j) (by omega) _)) hz (fun A13x14_3 zz kk s66x => ?_)
      replace s2 := kt kk s2
      replace s3 := kt kk s3
      replace s4 := kt kk s4
      replace s9 := kt kk s9
      replace s12 := kt kk s12
      replace s13 := kt kk s13
      replace s64 := kt kk s64
      clear kk hz s65
      have hz := zz
      have s66 := s66x
      clear zz s66x A13x14_2
      refine vt _ (ex_move rfl (ev s9 rfl)) hz (fun A13x14_4 zz kk s67x => ?_)
      replace s2 := kt kk s2
      replace s3 := kt kk s3
      replace s4 := kt kk s4
      replace s9 := kt kk s9
      replace s12 := kt kk s12
      replace s13 := kt kk s13
      replace s64 := kt kk s64
      replace s66 := kt kk s66
      clear kk hz
      have hz := zz
      have s67 := s67x
      clear zz s67x A13x14_3
      refine vt _ (ex_move rfl (ev s13 rfl)) hz (fun A13x14_5 zz kk s68x => ?_)
      replace s2 := kt kk s2
      replace s3 := kt kk s3
      replace s4 := kt kk s4
      replace s9 := kt kk s9
      replace s12 := kt kk s12
      replace s13 := kt kk s13
      replace s64 := kt kk s64
      replace s66 := kt kk s66
      replace s67 := kt kk s67
      clear kk hz
      have hz := zz
      have s68 := s68x
      clear zz s68x A13x14_4
      refine vt (.int .i64 (((i + j) / 8 : Nat) : Int)) (ex_bin rfl (ev s68 rfl) rfl (quo8 _ _ (i + j) (by omega) _)) hz (fun A13x14_6 zz kk s69x => ?_)
      replace s2 := kt kk s2
      replace s3 := kt kk s3
      replace s4 := kt kk s4
      replace s9 := kt kk s9
      replace s12 := kt kk s12
      replace s13 := kt kk s13
      replace s64 := kt kk s64
      replace s66 := kt kk s66
      replace s67 := kt kk s67
      clear kk hz s68
      have hz := zz
      have s69 := s69x
      clear zz s69x A13x14_5
      refine vt (.pointer (some ⟨g, (i + j) / 8, none⟩)) (ex_ix rfl (ev s67 rfl) (ev s69 rfl) (ixB8 g ((i + j) / 8) nf cf hat _)) hz (fun A13x14_7 zz kk s70x => ?_)
      replace s2 := kt kk s2
      replace s3 := kt kk s3
      replace s4 := kt kk s4
      replace s9 := kt kk s9
      replace s12 := kt kk s12
      replace s13 := kt kk s13
      replace s64 := kt kk s64
      replace s66 := kt kk s66
      clear kk hz s67 s69
      have hz := zz
      have s70 := s70x
      clear zz s70x A13x14_6
      refine vl true (.int .u8 (G.getD ((i + j) / 8) 0)) (want_none rfl) (fun hc => ex_ld rfl (ev s70 rfl) (ldB8 hcell)) rfl hz (by decide) (fun A13x14_8 zz kk s71x => ?_)
      replace s2 := kt kk s2
      replace s3 := kt kk s3
      replace s4 := kt kk s4
      replace s9 := kt kk s9
      replace s12 := kt kk s12
      replace s13 := kt kk s13
      replace s64 := kt kk s64
      replace s66 := kt kk s66
      clear kk hz s70
      have hz := zz
      have s71 := s71x
      clear zz s71x A13x14_7
      refine vt _ (ex_move rfl (ev s13 rfl)) hz (fun A13x14_9 zz kk s72x => ?_)
      replace s2 := kt kk s2
      replace s3 := kt kk s3
      replace s4 := kt kk s4
      replace s9 := kt kk s9
      replace s12 := kt kk s12
      replace s64 := kt kk s64
      replace s66 := kt kk s66
      replace s71 := kt kk s71
      clear kk hz s13
      have hz := zz
      have s72 := s72x
      clear zz s72x A13x14_8
      refine vt (.int .i64 (((i + j) % 8 : Nat) : Int)) (ex_bin rfl (ev s72 rfl) rfl (rem8 _ _ (i + j) (by omega) _)) hz (fun A13x14_10 zz kk s73x => ?_)
      replace s2 := kt kk s2
      replace s3 := kt kk s3
      replace s4 := kt kk s4
      replace s9 := kt kk s9
      replace s12 := kt kk s12
      replace s64 := kt kk s64
      replace s66 := kt kk s66
      replace s71 := kt kk s71
      clear kk hz s72
      have hz := zz
      have s73 := s73x
      clear zz s73x A13x14_9
      refine vt (.int .u64 (((i + j) % 8 : Nat) : Int)) (ex_cv rfl (ev s73 rfl) (cvUint ((i + j) % 8) (by omega) _)) hz (fun A13x14_11 zz kk s74x => ?_)
      replace s2 := kt kk s2
      replace s3 := kt kk s3
      replace s4 := kt kk s4
      replace s9 := kt kk s9
      replace s12 := kt kk s12
      replace s64 := kt kk s64
      replace s66 := kt kk s66
      replace s71 := kt kk s71
      clear kk hz s73
      have hz := zz
      have s74 := s74x
      clear zz s74x A13x14_10
      refine vt (.int .u8 ((2 : Int) ^ ((i + j) % 8) % 256)) (ex_bin rfl rfl (ev s74 rfl) (shl8 _ _ ((i + j) % 8) (by omega) _)) hz (fun A13x14_12 zz kk s75x => ?_)
      replace s2 := kt kk s2
      replace s3 := kt kk s3
      replace s4 := kt kk s4
      replace s9 := kt kk s9
      replace s12 := kt kk s12
      replace s64 := kt kk s64
      replace s66 := kt kk s66
      replace s71 := kt kk s71
      clear kk hz s74
      have hz := zz
      have s75 := s75x
      clear zz s75x A13x14_11
      refine vt (.int .u8 (((G.getD ((i + j) / 8) 0).toNat ^^^ 2 ^ ((i + j) % 8) : Nat) : Int)) (ex_bin rfl (ev s71 rfl) (ev s75 rfl) (xor8 _ _ (G.getD ((i + j) / 8) 0) ((i + j) % 8) (by omega) hzb.1 hzb.2 _)) hz (fun A13x14_13 zz kk s76x => ?_)
      replace s2 := kt kk s2
      replace s3 := kt kk s3
      replace s4 := kt kk s4
      replace s9 := kt kk s9
      replace s12 := kt kk s12
      replace s64 := kt kk s64
      replace s66 := kt kk s66
      clear kk hz s71 s75
      have hz := zz
      have s76 := s76x
      clear zz s76x A13x14_12
      refine vt (.pointer (some ⟨g, (i + j) / 8, none⟩)) (ex_ix rfl (ev s64 rfl) (ev s66 rfl) (ixB8 g ((i + j) / 8) nf cf hat _)) hz (fun A13x14_14 zz kk s77x => ?_)
      replace s2 := kt kk s2
      replace s3 := kt kk s3
      replace s4 := kt kk s4
      replace s9 := kt kk s9
      replace s12 := kt kk s12
      replace s76 := kt kk s76
      clear kk hz s64 s66
      have hz := zz
      have s77 := s77x
      clear zz s77x A13x14_13
      refine vs (wr.setCell ⟨g, (i + j) / 8, none⟩ (.int .u8 (((G.getD ((i + j) / 8) 0).toNat ^^^ 2 ^ ((i + j) % 8) : Nat) : Int))) (want_none rfl) (ex_st rfl (ev s77 rfl) (ev s76 rfl) (stB8 hcell hsoft (((G.getD ((i + j) / 8) 0).toNat ^^^ 2 ^ ((i + j) % 8) : Nat) : Int))) rfl ?_
      have hUn : UB g y2 (wr.setCell ⟨g, (i + j) / 8, none⟩ (.int .u8 (((G.getD ((i + j) / 8) 0).toNat ^^^ 2 ^ ((i + j) % 8) : Nat) : Int))) := Upd.setCell hU (.inl rfl) _
      clear s76 s77
      refine wpList_nil ?_
      go_upto_region 15 with fail
      refine wp_region_lit ?_
      refine vt (.bool true) (ex_assign rfl rfl) hz (fun A14x15_1 zz kk s11x => ?_)
      replace s2 := kt kk s2
      replace s3 := kt kk s3
      replace s4 := kt kk s4
      replace s9 := kt kk s9
      replace s12 := kt kk s12
      clear kk hz
      have hz := zz
      have s11 := s11x
      clear zz s11x
      refine wpList_nil ?_
      rw [show (.bool true : Value) = .bool (Wi.chB mk (j + 1)) by rw [Wi.chB_turn mk j hu1]] at s11
      exact ⟨_, rfl, hz, s2, s3, s4, s9, s11, s12, by omega, ⟨_, HN, hUn⟩⟩
  refine wp_cond_false ((ev s52 rfl).trans (congrArg Value.bool e7)) ?_
  clear s52 e7 s12 s2 s3
  replace Tc := Tc.upd hU (by have := Tc.lt; omega)
  have hsG : Wi.Hs wr (some ⟨g, 0, none⟩) nf cf G := ⟨HT.len, HT.own.cap, fun x hx => by (cases hx; exact HT.own.row), fun hx => by (cases hx), HT.byte⟩
  have hsp := spoilt_math hck hfe hfit hd hds hll hm HT (by omega) hi hnl
  go_upto_region 16 with fail
  refine wp_region_lit ?_
  refine vt (.agg #[.int .i64 c.f, .int .i64 c.r, .int .i64 c.p, .bool c.u]) (ex_ld rfl (ev s4 rfl) (Cc.ldAll)) hz (fun A15x16_1 zz kk s79x => ?_)
  replace s9 := kt kk s9
  replace s11 := kt kk s11
  clear kk hz s4
  have hz := zz
  have s79 := s79x
  clear zz s79x
  refine vt _ (ex_move rfl (ev s9 rfl)) hz (fun A15x16_2 zz kk s80x => ?_)
  replace s11 := kt kk s11
  replace s79 := kt kk s79
  clear kk hz s9
  have hz := zz
  have s80 := s80x
  clear zz s80x A15x16_1
  refine vcallP (want_none rfl) (ex_call rfl (by simp only [List.map_toArray, List.map_cons, List.map_nil, (ev s79 rfl), (ev s80 rfl), evc] <;> rfl) rfl) (decode_sl c (some ⟨g, 0, none⟩) nf cf G _ hsG (by omega) Tc) rfl hz (by decide) ?_
  rintro e z1 ⟨ua, uc, va, vc, rfl, hu1, hu2, hb⟩
  refine ⟨_, rfl, fun A15x16_3 zz kk s81x => ?_⟩
  replace Cc := Cc.bel hb
  replace hB := hB.trans (hb.mono hB.size)
  replace Tc := Tc.later hb Tc.lt
  clear hb
  obtain ⟨q2, hq2⟩ : ∃ q, q = z1.heap.size := ⟨_, rfl⟩
  obtain ⟨z2, hz2⟩ : ∃ y, y = z1.alloc (.cells (zG.cs nilS nilS).toArray 38) := ⟨_, rfl⟩
  have hb : Below z1.heap.size z1 z2 := by rw [hz2]; exact (Below.refl _ _).alloc (Nat.le_refl _) _
  have M5 : MBox z2 q2 zG nilS nilS := by rw [hz2, hq2]; exact MBox.new0 z1
  replace s11 := kt kk s11
  clear kk hz s79 s80
  have hz := zz
  have s81 := s81x
  clear zz s81x A15x16_2
  refine vt _ (ex_move rfl (ev s81 rfl)) hz (fun A15x16_4 zz kk s78x => ?_)
  replace s11 := kt kk s11
  clear kk hz s81
  have hz := zz
  have s78 := s78x
  clear zz s78x A15x16_3
  refine vt ((dcM c G).1.m.val (.slice ua (dcM c G).1.L.length uc) (.slice va (dcM c G).1.D.length vc)) (ex_ext rfl (ev s78 rfl) rfl) hz (fun A15x16_5 zz kk s82x => ?_)
  replace s11 := kt kk s11
  replace s78 := kt kk s78
  clear kk hz
  have hz := zz
  have s82 := s82x
  clear zz s82x A15x16_4
  refine vt (.int .i64 (dcM c G).2) (ex_ext rfl (ev s78 rfl) rfl) hz (fun A15x16_6 zz kk s83x => ?_)
  replace s11 := kt kk s11
  replace s82 := kt kk s82
  clear kk hz s78
  have hz := zz
  have s83 := s83x
  clear zz s83x A15x16_5
  refine vw (.pointer (some ⟨q2, 0, none⟩)) z2 (want_none rfl) (ex_al rfl (by rw [hz2, hq2]; exact alM _)) rfl hz (by decide) (fun A15x16_7 zz kk s14x => ?_)
  replace s11 := kt kk s11
  replace s82 := kt kk s82
  replace s83 := kt kk s83
  clear kk hz
  have hz := zz
  have s14 := s14x
  clear zz s14x A15x16_6
  refine vs (sets z2 q2 0 ((dcM c G).1.m.cs (.slice ua (dcM c G).1.L.length uc) (.slice va (dcM c G).1.D.length vc))) (want_none rfl) (ex_st rfl (ev s14 rfl) (ev s82 rfl) (stM M5 (dcM c G).1.m (.slice ua (dcM c G).1.L.length uc) (.slice va (dcM c G).1.D.length vc) rfl rfl)) rfl ?_
  have SP := M5.putU (dcM c G).1.m (.slice ua (dcM c G).1.L.length uc) (.slice va (dcM c G).1.D.length vc)
  obtain ⟨z3, hz3⟩ : ∃ y, y = sets z2 q2 0 ((dcM c G).1.m.cs (.slice ua (dcM c G).1.L.length uc) (.slice va (dcM c G).1.D.length vc)) := ⟨_, rfl⟩
  rw [← hz3] at SP ⊢
  clear hz3 hz2
  replace hb := hb.trans (SP.2.below hb.size (by omega))
  have Nc := SP.1
  clear SP M5
  replace Cc := Cc.bel hb
  replace hB := hB.trans (hb.mono hB.size)
  replace Tc := Tc.later hb Tc.lt
  replace hu1 := hu1.later hb
  replace hu2 := hu2.later hb
  clear hb
  refine vt _ (ex_assign rfl (ev s83 rfl)) hz (fun A15x16_8 zz kk s15x => ?_)
  replace s11 := kt kk s11
  replace s14 := kt kk s14
  clear kk hz s82 s83
  have hz := zz
  have s15 := s15x
  clear zz s15x A15x16_7
  refine wpList_nil ?_
  cases e8 : Wi.chB mk j
  · rw [e8] at s11
    go_upto_region 17 with fail
    refine wp_region_lit ?_
    refine vt _ (ex_move rfl (ev s11 rfl)) hz (fun A16x17_1 zz kk s84x => ?_)
    replace s14 := kt kk s14
    replace s15 := kt kk s15
    clear kk hz s11
    have hz := zz
    have s84 := s84x
    clear zz s84x
    refine vt (.bool true) (ex_not rfl (ev s84 rfl)) hz (fun A16x17_2 zz kk s85x => ?_)
    replace s14 := kt kk s14
    replace s15 := kt kk s15
    clear kk hz s84
    have hz := zz
    have s85 := s85x
    clear zz s85x A16x17_1
    refine vt _ (ex_move rfl (ev s85 rfl)) hz (fun A16x17_3 zz kk s86x => ?_)
    replace s14 := kt kk s14
    replace s15 := kt kk s15
    clear kk hz s85
    have hz := zz
    have s86 := s86x
    clear zz s86x A16x17_2
    refine vl false (.bool false) (want_n rfl rfl s86 rfl) (fun hc => by cases hc) rfl hz (by decide) (fun A16x17_4 zz kk s87x => ?_)
    replace s14 := kt kk s14
    replace s86 := kt kk s86
    clear kk hz s15
    have hz := zz
    have s87 := s87x
    clear zz s87x A16x17_3
    refine vl false (.bool false) (want_n rfl rfl s86 rfl) (fun hc => by cases hc) rfl hz (by decide) (fun A16x17_5 zz kk s88x => ?_)
    replace s14 := kt kk s14
    replace s86 := kt kk s86
    clear kk hz s87
    have hz := zz
    have s88 := s88x
    clear zz s88x A16x17_4
    refine vl false (.bool false) (want_n rfl rfl s86 rfl) (fun hc => by cases hc) rfl hz (by decide) (fun A16x17_6 zz kk s89x => ?_)
    replace s14 := kt kk s14
    replace s86 := kt kk s86
    clear kk hz s88
    have hz := zz
    have s89 := s89x
    clear zz s89x A16x17_5
    refine vl false (.bool false) (want_n rfl rfl s86 rfl) (fun hc => by cases hc) rfl hz (by decide) (fun A16x17_7 zz kk s90x => ?_)
    replace s14 := kt kk s14
    replace s86 := kt kk s86
    clear kk hz s89
    have hz := zz
    have s90 := s90x
    clear zz s90x A16x17_6
    refine vl false (.bool false) (want_n rfl rfl s90 rfl) (fun hc => by cases hc) rfl hz (by decide) (fun A16x17_8 zz kk s91x => ?_)
    replace s86 := kt kk s86
    replace s90 := kt kk s90
    clear kk hz s14
    have hz := zz
    have s91 := s91x
    clear zz s91x A16x17_7
    refine vl false (.bool false) (want_n rfl rfl s90 rfl) (fun hc => by cases hc) rfl hz (by decide) (fun A16x17_9 zz kk s92x => ?_)
    replace s86 := kt kk s86
    replace s90 := kt kk s90
    replace s91 := kt kk s91
    clear kk hz
    have hz := zz
    have s92 := s92x
    clear zz s92x A16x17_8
    refine vl false (.bool false) (want_n rfl rfl s90 rfl) (fun hc => by cases hc) rfl hz (by decide) (fun A16x17_10 zz kk s93x => ?_)
    replace s86 := kt kk s86
    replace s90 := kt kk s90
    clear kk hz s91 s92
    have hz := zz
    have s93 := s93x
    clear zz s93x A16x17_9
    refine vl false (.bool false) (want_n rfl rfl s86 rfl) (fun hc => by cases hc) rfl hz (by decide) (fun A16x17_11 zz kk s94x => ?_)
    replace s86 := kt kk s86
    clear kk hz s90 s93
    have hz := zz
    have s94 := s94x
    clear zz s94x A16x17_10
    refine vt (.bool true) (ex_or rfl s86 s94 rfl) hz (fun A16x17_12 zz kk s95x => ?_)
    clear kk hz s86 s94
    have hz := zz
    have s95 := s95x
    clear zz s95x A16x17_11
    refine vt _ (ex_assign rfl (ev s95 rfl)) hz (fun A16x17_13 zz kk s8x => ?_)
    clear kk hz s95
    have hz := zz
    have s8 := s8x
    clear zz s8x A16x17_12
    refine wpList_nil ?_
    go_wp2
    refine bodyPost_ret (results_tmp rfl _ _ _) rfl ⟨?_, hB⟩
    rw [getD_of s8]
    rfl
  rw [e8] at s11
  obtain ⟨hne, hbad⟩ := hsp e8
  have hne2 : (!decide ((dcM c G).2 = 0)) = true := by simp [hne]
  go_upto_region 17 with fail
  refine wp_region_lit ?_
  refine vt _ (ex_move rfl (ev s11 rfl)) hz (fun A17x17_1 zz kk s84x => ?_)
  replace s14 := kt kk s14
  replace s15 := kt kk s15
  clear kk hz s11
  have hz := zz
  have s84 := s84x
  clear zz s84x
  refine vt (.bool false) (ex_not rfl (ev s84 rfl)) hz (fun A17x17_2 zz kk s85x => ?_)
  replace s14 := kt kk s14
  replace s15 := kt kk s15
  clear kk hz s84
  have hz := zz
  have s85 := s85x
  clear zz s85x A17x17_1
  refine vt _ (ex_move rfl (ev s85 rfl)) hz (fun A17x17_3 zz kk s86x => ?_)
  replace s14 := kt kk s14
  replace s15 := kt kk s15
  clear kk hz s85
  have hz := zz
  have s86 := s86x
  clear zz s86x A17x17_2
  refine vl true _ (want_k rfl rfl s86) (fun hc => ex_move rfl (ev s15 rfl)) rfl hz (by decide) (fun A17x17_4 zz kk s87x => ?_)
  replace s14 := kt kk s14
  replace s86 := kt kk s86
  clear kk hz s15
  have hz := zz
  have s87 := s87x
  clear zz s87x A17x17_3
  refine vcallP (want_k rfl rfl s86) (ex_call rfl (by simp only [List.map_toArray, List.map_cons, List.map_nil, (ev s87 rfl), evc] <;> rfl) rfl) (num7_any (dcM c G).2 _) rfl hz (by decide) ?_
  rintro e y_ ⟨rfl, hy_⟩; rw [hy_]; clear hy_ y_
  refine ⟨_, rfl, fun A17x17_5 zz kk s88x => ?_⟩
  replace s14 := kt kk s14
  replace s86 := kt kk s86
  clear kk hz s87
  have hz := zz
  have s88 := s88x
  clear zz s88x A17x17_4
  refine vl true (.bool true) (want_k rfl rfl s86) (fun hc => ex_bin rfl (ev s88 rfl) rfl ((neqC _ _ _ _ _).trans (by rw [hne2]))) rfl hz (by decide) (fun A17x17_6 zz kk s89x => ?_)
  replace s14 := kt kk s14
  replace s86 := kt kk s86
  clear kk hz s88
  have hz := zz
  have s89 := s89x
  clear zz s89x A17x17_5
  refine vl true _ (want_k rfl rfl s86) (fun hc => ex_move rfl (ev s89 rfl)) rfl hz (by decide) (fun A17x17_7 zz kk s90x => ?_)
  replace s14 := kt kk s14
  replace s86 := kt kk s86
  clear kk hz s89
  have hz := zz
  have s90 := s90x
  clear zz s90x A17x17_6
  refine vl true ((dcM c G).1.m.val (.slice ua (dcM c G).1.L.length uc) (.slice va (dcM c G).1.D.length vc)) (want_k rfl rfl s90) (fun hc => ex_ld rfl (ev s14 rfl) (Nc.ldAll)) rfl hz (by decide) (fun A17x17_8 zz kk s91x => ?_)
  replace s86 := kt kk s86
  replace s90 := kt kk s90
  clear kk hz s14
  have hz := zz
  have s91 := s91x
  clear zz s91x A17x17_7
  refine vl true (zG.val nilS nilS) (want_k rfl rfl s90) (fun hc => ex_build rfl (bdM0 _)) rfl hz (by decide) (fun A17x17_9 zz kk s92x => ?_)
  replace s86 := kt kk s86
  replace s90 := kt kk s90
  replace s91 := kt kk s91
  clear kk hz
  have hz := zz
  have s92 := s92x
  clear zz s92x A17x17_8
  refine vcallP (want_k rfl rfl s90) (ex_call rfl (by simp only [List.map_toArray, List.map_cons, List.map_nil, (ev s91 rfl), (ev s92 rfl), evc] <;> rfl) rfl) (same_zero hbad hu1 hu2) rfl hz (by decide) ?_
  rintro e z5 ⟨rfl, hb⟩
  refine ⟨_, rfl, fun A17x17_10 zz kk s93x => ?_⟩
  replace Cc := Cc.bel hb
  replace hB := hB.trans (hb.mono hB.size)
  replace Tc := Tc.later hb Tc.lt
  replace hu1 := hu1.later hb
  replace hu2 := hu2.later hb
  replace Nc := Nc.bel hb
  clear hb
  replace s86 := kt kk s86
  replace s90 := kt kk s90
  clear kk hz s91 s92
  have hz := zz
  have s93 := s93x
  clear zz s93x A17x17_9
  refine vl true (.bool true) (want_k rfl rfl s86) (fun hc => ex_and rfl s90 s93 rfl) rfl hz (by decide) (fun A17x17_11 zz kk s94x => ?_)
  replace s86 := kt kk s86
  clear kk hz s90 s93
  have hz := zz
  have s94 := s94x
  clear zz s94x A17x17_10
  refine vt (.bool true) (ex_or rfl s86 s94 rfl) hz (fun A17x17_12 zz kk s95x => ?_)
  clear kk hz s86 s94
  have hz := zz
  have s95 := s95x
  clear zz s95x A17x17_11
  refine vt _ (ex_assign rfl (ev s95 rfl)) hz (fun A17x17_13 zz kk s8x => ?_)
  clear kk hz s95
  have hz := zz
  have s8 := s8x
  clear zz s8x A17x17_12
  refine wpList_nil ?_
  go_wp2
  refine bodyPost_ret (results_tmp rfl _ _ _) rfl ⟨?_, hB⟩
  rw [getD_of s8]
  rfl
theorem spoilt_came7 (c : Cf) (m : Mg) (a1 : Option Addr) (n1 c1 : Nat) (a2 : Option Addr) (n2 c2 : Nat) (ft mk : Int) (w : World) (h : CameM w m a1 n1 c1 a2 n2 c2) (hmk : (Lit.int .u32 mk).wf = true) (hT : Tab w) :
    Calls Tryd.prog 5 #[c.val, m.val (.slice a1 n1 c1) (.slice a2 n2 c2), .int .i64 ft, .int .u32 mk] w fun e w' => e = .returned (.bool true) ∧ Below w.heap.size w w' := by
  obtain ⟨hm, ⟨L, h1, hfi, k1⟩, D, h2, hds, k2⟩ := h
  obtain rfl := h1.len
  obtain rfl := h2.len
  obtain ⟨q1, q2⟩ := Wi.u32_wf hmk
  obtain ⟨k, rfl⟩ := Int.eq_ofNat_of_zero_le q1
  exact law_spoilt7 c m a1 a2 c1 c2 L D ft k w hT h1 hfi h2 hm.2.2.2.1 (drF_wf hm.2.2.2.2.2.2.2.2) (fun d hd => drF_wf (hds d hd)) k1 (by omega)
end Go.Proofs.YtabiimmpjllcpaaDoor
