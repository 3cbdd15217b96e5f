import Derived.Test.YteeofcoehffegaaDoorK7
set_option maxRecDepth 100000
set_option linter.unusedVariables false
set_option linter.unusedSimpArgs false
namespace Go.Proofs.YteeofcoehffegaaDoor
open Go.RowKit Go.Maps
open Classical
theorem neHF0 (x y : Operand) (h : Hs) (w : World) : (do eqGuard .neq 38 x y h.val h.val; binOp .neq 38 h.val h.val : Sem Value).run Tryd.prog w = .ok (.bool false) w := by
  have := neHZ x y h h w
  rw [decide_eq_true rfl] at this
  exact this
set_option maxHeartbeats 2000000 in
theorem apart20 (K : List (SV Hs)) (a : Option Addr) (c B Bk : Nat) (w : World) (hk : OwnY yHS Bk w (.slice a K.length c) K) (hB : B ≤ w.heap.size) (own : ∀ (i : Nat) (x : SV Hs), K[i]? = some x → OwnY yH B w x.v x.D) (dif : ∀ (i j : Nat) (x y : SV Hs) (b : Nat), K[i]? = some x → K[j]? = some y → x.v.ownBlock = some b → y.v.ownBlock = some b → i = j) (hn : K.length ≤ 200) (hl : ∀ (i : Nat) (x : SV Hs), K[i]? = some x → x.D.length ≤ 200) :
    Calls Tryd.prog 20 #[.slice a K.length c] w fun e w' => e = .returned (.bool true) ∧ Below B w w' := by
  go_enter Tryd.func20, Tryd.ntmps20
  go_upto_region 0 with fail
  refine wp_region_lit ?_
  refine vl_gen (fun T => Rp T 114 [(0, gw true (.slice a K.length c))]) ((Rp.nil rfl).cons rfl) (fun Z0 q0 => ?_)
  refine q0.t (.bool false) (ex_assign rfl rfl) fun _ q1 => ?_;clear q0
  refine wpList_nil ?_
  go_upto_region 1 with fail
  refine wp_region_lit ?_
  refine q1.t (.int .i64 ((0 : Nat) : Int)) (ex_assign rfl rfl) fun _ q2 => ?_;clear q1
  have q3 := (((Rp.nil q2.z).cons (q2.a 0 rfl)).cons (q2.a 3 rfl))
  clear q2
  refine wpList_nil ?_
  go_upto_region 2 with fail
  refine v_loop 3 K.length (fun j T wr => Rp T 114 [(3, gw true (.int .i64 ((j : Nat) : Int))), (0, gw true (.slice a K.length c))] ∧ Hid (OwnY yHS Bk wr (.slice a K.length c) K ∧ (∀ (i : Nat) (x : SV Hs), K[i]? = some x → OwnY yH B wr x.v (if i < j then mrk i x.D.length else x.D)) ∧ Below B w wr)) (fun j T w h => h.1.a 3 rfl) ⟨q3, hk, fun i x hx => by rw [if_neg (by omega)]; exact own i x hx, Below.refl _ _⟩ ?_
  clear q3
  intro j T wr hj hh
  obtain ⟨q100, HJ⟩ := hh
  obtain ⟨okk, orw, dr⟩ := HJ.out
  clear HJ
  have zr := dr.size
  by_cases hit : j < K.length
  · obtain ⟨x, hx⟩ : ∃ x, K[j]? = some x := ⟨_, List.getElem?_eq_getElem (by omega)⟩
    have hlx := hl j x hx
    go_upto_region 2 with fail
    refine wp_region_lit ?_
    refine q100.t (.int .i64 ((j : Nat) : Int)) (ex_move rfl (q100.e (j := 3) rfl)) fun _ q101 => ?_;clear q100
    refine q101.t (.slice a K.length c) (ex_move rfl (q101.e (j := 0) rfl)) fun _ q102 => ?_;clear q101
    refine q102.t (.int .i64 ((K.length : Nat) : Int)) (ex_lenG rfl rfl Tryd.underlying43 (q102.e (j := 13) rfl)) fun _ q103 => ?_;clear q102
    refine q103.t (.bool true) (ex_bin rfl (q103.e (j := 12) rfl) (q103.e (j := 14) rfl) (ltT _ _ hit _)) fun _ q104 => ?_;clear q103
    refine wpList_nil ?_
    go_upto_region 4 with fail
    refine wp_cond_true (q104.e (j := 15) rfl) ?_
    go_upto_region 4 with fail
    refine wp_region_lit ?_
    refine q104.t (.int .i64 ((0 : Nat) : Int)) (ex_assign rfl rfl) fun _ q105 => ?_;clear q104
    have q106 := ((((Rp.nil q105.z).cons (q105.a 0 rfl)).cons (q105.a 3 rfl)).cons (q105.a 4 rfl))
    clear q105
    refine wpList_nil ?_
    go_upto_region 5 with fail
    have or1 : ∀ (i : Nat) (y : SV Hs), K[i]? = some y → OwnY yH B wr y.v (if i = j then mrk j 0 ++ x.D.drop 0 else if i < j then mrk i y.D.length else y.D) := fun i y hy => by
      have h3 := orw i y hy
      by_cases e : i = j
      · subst e
        rw [if_neg (Nat.lt_irrefl _)] at h3
        rw [hx] at hy
        cases hy
        rw [if_pos rfl]
        exact h3
      · rw [if_neg e]
        exact h3
    refine v_loop 4 x.D.length (fun k T ws => Rp T 114 [(4, gw true (.int .i64 ((k : Nat) : Int))), (3, gw true (.int .i64 ((j : Nat) : Int))), (0, gw true (.slice a K.length c))] ∧ Hid (OwnY yHS Bk ws (.slice a K.length c) K ∧ (∀ (i : Nat) (y : SV Hs), K[i]? = some y → OwnY yH B ws y.v (if i = j then mrk j k ++ x.D.drop k else if i < j then mrk i y.D.length else y.D)) ∧ Below B w ws)) (fun k T w h => h.1.a 4 rfl) ⟨q106, okk, or1, dr⟩ ?_
    clear q106 okk orw or1 dr
    intro k T ws hk2 hh2
    obtain ⟨q200, HJ⟩ := hh2
    obtain ⟨ok2, or2, d2⟩ := HJ.out
    clear HJ
    have z2 := d2.size
    by_cases hik : k < x.D.length
    · obtain ⟨qa, oa, hqa, hqal, hlie⟩ := (ok2.sl' kHS).place (by rintro rfl; simp at hx)
      obtain ⟨g, hga, hgb, hgB, hgs⟩ := sv_place (or2 j x hx) (by omega)
      go_upto_region 5 with fail
      refine wp_region_lit ?_
      refine q200.t (.int .i64 ((k : Nat) : Int)) (ex_move rfl (q200.e (j := 4) rfl)) fun _ q201 => ?_;clear q200
      refine q201.t (.slice a K.length c) (ex_move rfl (q201.e (j := 0) rfl)) fun _ q202 => ?_;clear q201
      refine q202.t (.int .i64 ((j : Nat) : Int)) (ex_move rfl (q202.e (j := 3) rfl)) fun _ q203 => ?_;clear q202
      refine q203.t (.pointer (some ⟨qa, oa + j, none⟩)) (ex_ix rfl (q203.e (j := 19) rfl) (q203.e (j := 20) rfl) (by rw [hqa]; exact ixHS qa oa K.length c j hit _)) fun _ q204 => ?_;clear q203
      refine q204.t (.slice x.a x.D.length x.c) (ex_ld rfl (q204.e (j := 21) rfl) (ldHS hlie hx)) fun _ q205 => ?_;clear q204
      refine q205.t (.int .i64 ((x.D.length : Nat) : Int)) (ex_lenG rfl rfl Tryd.underlying44 (q205.e (j := 22) rfl)) fun _ q206 => ?_;clear q205
      refine q206.t (.bool true) (ex_bin rfl (q206.e (j := 18) rfl) (q206.e (j := 23) rfl) (ltT _ _ hik _)) fun _ q207 => ?_;clear q206
      refine wpList_nil ?_
      go_upto_region 7 with fail
      refine wp_cond_true (q207.e (j := 24) rfl) ?_
      go_upto_region 7 with fail
      refine wp_region_lit ?_
      refine q207.t (.slice a K.length c) (ex_move rfl (q207.e (j := 0) rfl)) fun _ q208 => ?_;clear q207
      refine q208.t (.int .i64 ((j : Nat) : Int)) (ex_move rfl (q208.e (j := 3) rfl)) fun _ q209 => ?_;clear q208
      refine q209.t (.pointer (some ⟨qa, oa + j, none⟩)) (ex_ix rfl (q209.e (j := 27) rfl) (q209.e (j := 28) rfl) (by rw [hqa]; exact ixHS qa oa K.length c j hit _)) fun _ q210 => ?_;clear q209
      refine q210.t (.slice x.a x.D.length x.c) (ex_ld rfl (q210.e (j := 29) rfl) (ldHS hlie hx)) fun _ q211 => ?_;clear q210
      refine q211.t (.int .i64 ((k : Nat) : Int)) (ex_move rfl (q211.e (j := 4) rfl)) fun _ q212 => ?_;clear q211
      refine q212.t (.int .i64 ((j : Nat) : Int)) (ex_move rfl (q212.e (j := 3) rfl)) fun _ q213 => ?_;clear q212
      refine q213.t (.int .u8 (((j % 256 : Nat)) : Int)) (ex_cv19 rfl (q213.e (j := 32) rfl) (cvA j (by omega) _)) fun _ q214 => ?_;clear q213
      refine q214.t (.int .i64 ((k : Nat) : Int)) (ex_move rfl (q214.e (j := 4) rfl)) fun _ q215 => ?_;clear q214
      refine q215.t (.int .u8 (((k % 256 : Nat)) : Int)) (ex_cv19 rfl (q215.e (j := 34) rfl) (cvA k (by omega) _)) fun _ q216 => ?_;clear q215
      refine q216.t ((mkA j k).val) (ex_buildP18 (P := #[(0, .int .u8 (((j % 256 : Nat)) : Int)), (1, .int .u8 (((k % 256 : Nat)) : Int)), (2, .int .u8 1)]) rfl (by simp only [List.map_toArray, List.map_cons, List.map_nil, (q216.e (j := 33) rfl), (q216.e (j := 35) rfl), evc] <;> rfl) (bdMk _ _ _)) fun _ q217 => ?_;clear q216
      refine q217.t (.pointer (some ⟨g, k * 32, none⟩)) (ex_ix rfl (q217.e (j := 30) rfl) (q217.e (j := 31) rfl) (by rw [hga]; exact ixH0 g x.D.length x.c k hik _)) fun _ q218 => ?_;clear q217
      have og : OwnY yH B ws (.slice (some ⟨g, 0, none⟩) x.D.length x.c) (mrk j k ++ x.D.drop k) := by
        have h3 := or2 j x hx
        rw [if_pos rfl] at h3
        unfold SV.v at h3
        rw [hga] at h3
        exact h3
      obtain ⟨w2, hst, o2, u2, y2⟩ := run_stH ws B g x.D.length x.c (mrk j k ++ x.D.drop k) k (mkA j k) (by rw [List.length_append, mrk_len, List.length_drop]; omega) og
      refine vs w2 (want_none rfl) (ex_st rfl (q218.e (j := 37) rfl) (q218.e (j := 36) rfl) hst) rfl ?_
      rw [mrk_set hik] at o2
      have ok3 : OwnY yHS Bk w2 (.slice a K.length c) K := ok2.upd1 u2 (fun b hb e => OwnY.apart (or2 j x hx) ok2 hH_HS g hgb (by rw [← e]; exact hb))
      have or3 : ∀ (i : Nat) (y : SV Hs), K[i]? = some y → OwnY yH B w2 y.v (if i = j then mrk j (k + 1) ++ x.D.drop (k + 1) else if i < j then mrk i y.D.length else y.D) := fun i y hy => by
        by_cases e : i = j
        · subst e
          rw [hx] at hy
          cases hy
          rw [if_pos rfl]
          unfold SV.v
          rw [hga]
          exact o2
        · have h3 := or2 i y hy
          rw [if_neg e] at h3 ⊢
          exact h3.upd1 u2 (fun b hb eb => e (dif i j y x g hy hx (by rw [← eb]; exact hb) hgb))
      have d3 : Below B w w2 := d2.trans (bel_ge u2 (by omega) hgB)
      clear ok2 or2 d2 og u2
      refine wpList_nil ?_
      go_upto_region 6 with fail
      refine wp_region_lit ?_
      refine q218.t (.int .i64 ((k : Nat) : Int)) (ex_move rfl (q218.e (j := 4) rfl)) fun _ q219 => ?_;clear q218
      refine q219.t (.int .i64 ((k + 1 : Nat) : Int)) (ex_bin rfl (q219.e (j := 25) rfl) rfl (add1C _ _ k (by omega) _)) fun _ q220 => ?_;clear q219
      refine q220.t (.int .i64 ((k + 1 : Nat) : Int)) (ex_assign rfl (q220.e (j := 26) rfl)) fun _ q221 => ?_;clear q220
      have q222 := ((((Rp.nil q221.z).cons (q221.a 0 rfl)).cons (q221.a 3 rfl)).cons (q221.a 4 rfl))
      clear q221
      refine wpList_nil ?_
      exact ⟨_, rfl, hik, q222, ok3, or3, d3⟩
    · obtain rfl : k = x.D.length := by omega
      obtain ⟨qa, oa, hqa, hqal, hlie⟩ := (ok2.sl' kHS).place (by rintro rfl; simp at hx)
      go_upto_region 5 with fail
      refine wp_region_lit ?_
      refine q200.t (.int .i64 ((x.D.length : Nat) : Int)) (ex_move rfl (q200.e (j := 4) rfl)) fun _ q201 => ?_;clear q200
      refine q201.t (.slice a K.length c) (ex_move rfl (q201.e (j := 0) rfl)) fun _ q202 => ?_;clear q201
      refine q202.t (.int .i64 ((j : Nat) : Int)) (ex_move rfl (q202.e (j := 3) rfl)) fun _ q203 => ?_;clear q202
      refine q203.t (.pointer (some ⟨qa, oa + j, none⟩)) (ex_ix rfl (q203.e (j := 19) rfl) (q203.e (j := 20) rfl) (by rw [hqa]; exact ixHS qa oa K.length c j hit _)) fun _ q204 => ?_;clear q203
      refine q204.t (.slice x.a x.D.length x.c) (ex_ld rfl (q204.e (j := 21) rfl) (ldHS hlie hx)) fun _ q205 => ?_;clear q204
      refine q205.t (.int .i64 ((x.D.length : Nat) : Int)) (ex_lenG rfl rfl Tryd.underlying44 (q205.e (j := 22) rfl)) fun _ q206 => ?_;clear q205
      refine q206.t (.bool false) (ex_bin rfl (q206.e (j := 18) rfl) (q206.e (j := 23) rfl) (ltF _ _ hik _)) fun _ q207 => ?_;clear q206
      refine wpList_nil ?_
      go_upto_region 3 with fail
      refine wp_cond_false (q207.e (j := 24) rfl) ?_
      have or4 : ∀ (i : Nat) (y : SV Hs), K[i]? = some y → OwnY yH B ws y.v (if i < j + 1 then mrk i y.D.length else y.D) := fun i y hy => by
        have h3 := or2 i y hy
        by_cases e : i = j
        · subst e
          rw [hx] at hy
          cases hy
          rw [if_pos rfl, List.drop_length, List.append_nil] at h3
          rw [if_pos (by omega)]
          exact h3
        · rw [if_neg e] at h3
          by_cases e2 : i < j
          · rw [if_pos e2] at h3
            rw [if_pos (by omega)]
            exact h3
          · rw [if_neg e2] at h3
            rw [if_neg (by omega)]
            exact h3
      go_upto_region 3 with fail
      refine wp_region_lit ?_
      refine q207.t (.int .i64 ((j : Nat) : Int)) (ex_move rfl (q207.e (j := 3) rfl)) fun _ q208 => ?_;clear q207
      refine q208.t (.int .i64 ((j + 1 : Nat) : Int)) (ex_bin rfl (q208.e (j := 16) rfl) rfl (add1C _ _ j (by omega) _)) fun _ q209 => ?_;clear q208
      refine q209.t (.int .i64 ((j + 1 : Nat) : Int)) (ex_assign rfl (q209.e (j := 17) rfl)) fun _ q210 => ?_;clear q209
      have q211 := (((Rp.nil q210.z).cons (q210.a 0 rfl)).cons (q210.a 3 rfl))
      clear q210
      refine wpList_nil ?_
      exact ⟨_, rfl, hit, q211, ok2, or4, d2⟩
  · obtain rfl : j = K.length := by omega
    have orr : ∀ (i : Nat) (x : SV Hs), K[i]? = some x → OwnY yH B wr x.v (mrk i x.D.length) := fun i x hx => by
      have h3 := orw i x hx
      rw [if_pos (List.getElem?_eq_some_iff.1 hx).1] at h3
      exact h3
    clear orw
    go_upto_region 2 with fail
    refine wp_region_lit ?_
    refine q100.t (.int .i64 ((K.length : Nat) : Int)) (ex_move rfl (q100.e (j := 3) rfl)) fun _ q101 => ?_;clear q100
    refine q101.t (.slice a K.length c) (ex_move rfl (q101.e (j := 0) rfl)) fun _ q102 => ?_;clear q101
    refine q102.t (.int .i64 ((K.length : Nat) : Int)) (ex_lenG rfl rfl Tryd.underlying43 (q102.e (j := 13) rfl)) fun _ q103 => ?_;clear q102
    refine q103.t (.bool false) (ex_bin rfl (q103.e (j := 12) rfl) (q103.e (j := 14) rfl) (ltF _ _ hit _)) fun _ q104 => ?_;clear q103
    refine wpList_nil ?_
    go_upto_region 8 with fail
    refine wp_cond_false (q104.e (j := 15) rfl) ?_
    go_upto_region 8 with fail
    refine wp_region_lit ?_
    refine q104.t (.slice none 0 0) (ex_assign rfl rfl) fun _ q105 => ?_;clear q104
    refine wpList_nil ?_
    go_upto_region 9 with fail
    refine wp_region_lit ?_
    refine q105.t (.int .i64 ((0 : Nat) : Int)) (ex_assign rfl rfl) fun _ q106 => ?_;clear q105
    have q107 := ((((Rp.nil q106.z).cons (q106.a 0 rfl)).cons (q106.a 5 rfl)).cons (q106.a 6 rfl))
    clear q106
    refine wpList_nil ?_
    go_upto_region 10 with fail
    refine v_loop 6 K.length (fun j T wt => ∃ (gv : Value) (G : List (SV Hs)), Rp T 114 [(6, gw true (.int .i64 ((j : Nat) : Int))), (5, gw true (gv)), (0, gw true (.slice a K.length c))] ∧ Hid (OwnY yHS Bk wt (.slice a K.length c) K ∧ OwnY yHS w.heap.size wt gv G ∧ G.length = j ∧ (∀ (i : Nat) (x : SV Hs), K[i]? = some x → j ≤ i → OwnY yH B wt x.v (mrk i x.D.length)) ∧ (∀ (i : Nat) (x g : SV Hs), K[i]? = some x → G[i]? = some g → g.D = mrk i (x.D.length + 12) ∧ OwnY yH B wt g.v g.D ∧ SlY yH wt x.a x.D.length x.c (mrk i x.D.length)) ∧ (∀ (i i2 : Nat) (g x : SV Hs) (b : Nat), G[i]? = some g → K[i2]? = some x → j ≤ i2 → g.v.ownBlock = some b → x.v.ownBlock = some b → False) ∧ Below B w wt ∧ w.heap.size ≤ wt.heap.size)) (fun j T w h => by obtain ⟨_, _, h, _⟩ := h; exact h.a 6 rfl) ⟨_, [], q107, okk, OwnY.nil _ _ _, rfl, fun i x hx _ => orr i x hx, fun i x g _ hg => by simp at hg, fun i i2 g x b hg => by simp at hg, dr, zr⟩ ?_
    clear q107 okk orr
    intro j T wt hj hh
    obtain ⟨gv, G, q300, HJ⟩ := hh
    obtain ⟨okt, ogt, hGl, ort, gst, sep, dt, zt⟩ := HJ.out
    clear HJ
    by_cases hit2 : j < K.length
    · obtain ⟨x, hx⟩ : ∃ x, K[j]? = some x := ⟨_, List.getElem?_eq_getElem (by omega)⟩
      have hlx := hl j x hx
      have ox := ort j x hx (Nat.le_refl _)
      have hxb : ∀ b, x.v.ownBlock = some b → b < wt.heap.size := fun b hb => (ox.blk b hb).2
      have hxa : ∀ z, x.a = some z → ∃ g, z = ⟨g, 0, none⟩ := fun z hz => by
        obtain ⟨a9, c9, e9, _, _, _, h9⟩ := ox.form
        injection e9 with e91 _ _
        obtain ⟨g9, hg9, _⟩ := h9 z (by rw [← e91]; exact hz)
        exact ⟨g9, hg9⟩
      obtain ⟨qa, oa, hqa, hqal, hlie⟩ := (okt.sl' kHS).place (by rintro rfl; simp at hx)
      go_upto_region 10 with fail
      refine wp_region_lit ?_
      refine q300.t (.int .i64 ((j : Nat) : Int)) (ex_move rfl (q300.e (j := 6) rfl)) fun _ q301 => ?_;clear q300
      refine q301.t (.slice a K.length c) (ex_move rfl (q301.e (j := 0) rfl)) fun _ q302 => ?_;clear q301
      refine q302.t (.int .i64 ((K.length : Nat) : Int)) (ex_lenG rfl rfl Tryd.underlying43 (q302.e (j := 39) rfl)) fun _ q303 => ?_;clear q302
      refine q303.t (.bool true) (ex_bin rfl (q303.e (j := 38) rfl) (q303.e (j := 40) rfl) (ltT _ _ hit2 _)) fun _ q304 => ?_;clear q303
      refine wpList_nil ?_
      go_upto_region 12 with fail
      refine wp_cond_true (q304.e (j := 41) rfl) ?_
      go_upto_region 12 with fail
      refine wp_region_lit ?_
      refine q304.t (.slice a K.length c) (ex_move rfl (q304.e (j := 0) rfl)) fun _ q305 => ?_;clear q304
      refine q305.t (.int .i64 ((j : Nat) : Int)) (ex_move rfl (q305.e (j := 6) rfl)) fun _ q306 => ?_;clear q305
      refine q306.t (.pointer (some ⟨qa, oa + j, none⟩)) (ex_ix rfl (q306.e (j := 44) rfl) (q306.e (j := 45) rfl) (by rw [hqa]; exact ixHS qa oa K.length c j hit2 _)) fun _ q307 => ?_;clear q306
      refine q307.t (.slice x.a x.D.length x.c) (ex_ld rfl (q307.e (j := 46) rfl) (ldHS hlie hx)) fun _ q308 => ?_;clear q307
      refine q308.t (.slice x.a x.D.length x.c) (ex_assign rfl (q308.e (j := 47) rfl)) fun _ q309 => ?_;clear q308
      refine wpList_nil ?_
      go_upto_region 13 with fail
      refine wp_region_lit ?_
      refine q309.t (.int .i64 ((0 : Nat) : Int)) (ex_assign rfl rfl) fun _ q310 => ?_;clear q309
      have q311 := ((((((Rp.nil q310.z).cons (q310.a 0 rfl)).cons (q310.a 5 rfl)).cons (q310.a 6 rfl)).cons (q310.a 7 rfl)).cons (q310.a 8 rfl))
      clear q310
      refine wpList_nil ?_
      go_upto_region 14 with fail
      refine v_loop 8 12 (fun k T ws => ∃ vv : Value, Rp T 114 [(8, gw true (.int .i64 ((k : Nat) : Int))), (7, gw true (vv)), (6, gw true (.int .i64 ((j : Nat) : Int))), (5, gw true (gv)), (0, gw true (.slice a K.length c))] ∧ Hid (OwnY yH B ws vv (mrk j (x.D.length + k)) ∧ SlY yH ws x.a x.D.length x.c (mrk j x.D.length) ∧ (vv.ownBlock = x.v.ownBlock ∨ ∀ b, vv.ownBlock = some b → wt.heap.size ≤ b) ∧ Upd (fun b => x.v.ownBlock = some b) wt ws)) (fun k T w h => by obtain ⟨_, h, _⟩ := h; exact h.a 8 rfl) ⟨_, q311, ox, (show OwnY yH B wt (.slice x.a x.D.length x.c) _ from ox).sl' kH, .inl rfl, Upd.refl _ _⟩ ?_
      clear q311
      intro k T ws hk3 hh3
      obtain ⟨vv, q400, HJ⟩ := hh3
      obtain ⟨oV, sV, hV, uV⟩ := HJ.out
      clear HJ
      have zs := uV.size
      obtain ⟨av, cv, hvv, hcv, hcm, hcz, hcb⟩ := oV.form
      by_cases hik : k < 12
      · rw [mrk_len] at hvv
        subst hvv
        go_upto_region 14 with fail
        refine wp_region_lit ?_
        refine q400.t (.int .i64 ((k : Nat) : Int)) (ex_move rfl (q400.e (j := 8) rfl)) fun _ q401 => ?_;clear q400
        refine q401.t (.bool true) (ex_bin (Y := .int .i64 ((12 : Nat) : Int)) rfl (q401.e (j := 48) rfl) rfl (ltT _ _ hik _)) fun _ q402 => ?_;clear q401
        refine wpList_nil ?_
        go_upto_region 16 with fail
        refine wp_cond_true (q402.e (j := 49) rfl) ?_
        go_upto_region 16 with fail
        refine wp_region_lit ?_
        refine q402.t (.slice av (x.D.length + k) cv) (ex_move rfl (q402.e (j := 7) rfl)) fun _ q403 => ?_;clear q402
        refine q403.t (.int .i64 ((j : Nat) : Int)) (ex_move rfl (q403.e (j := 6) rfl)) fun _ q404 => ?_;clear q403
        refine q404.t (.int .u8 (((j % 256 : Nat)) : Int)) (ex_cv19 rfl (q404.e (j := 53) rfl) (cvA j (by omega) _)) fun _ q405 => ?_;clear q404
        refine q405.t (.slice av (x.D.length + k) cv) (ex_move rfl (q405.e (j := 7) rfl)) fun _ q406 => ?_;clear q405
        refine q406.t (.int .i64 ((x.D.length + k : Nat) : Int)) (ex_lenG rfl rfl Tryd.underlying44 (q406.e (j := 55) rfl)) fun _ q407 => ?_;clear q406
        refine q407.t (.int .u8 ((((x.D.length + k) % 256 : Nat)) : Int)) (ex_cv19 rfl (q407.e (j := 56) rfl) (cvA (x.D.length + k) (by omega) _)) fun _ q408 => ?_;clear q407
        refine q408.t ((mkA j (x.D.length + k)).val) (ex_buildP18 (P := #[(0, .int .u8 (((j % 256 : Nat)) : Int)), (1, .int .u8 ((((x.D.length + k) % 256 : Nat)) : Int)), (2, .int .u8 1)]) rfl (by simp only [List.map_toArray, List.map_cons, List.map_nil, (q408.e (j := 54) rfl), (q408.e (j := 57) rfl), evc] <;> rfl) (bdMk _ _ _)) fun _ q409 => ?_;clear q408
        obtain ⟨r1, hr1⟩ : ∃ y, y = ws.alloc (.cells (mkA j (x.D.length + k)).cs.toArray 38) := ⟨_, rfl⟩
        refine vw (.slice (some ⟨ws.heap.size, 0, none⟩) 1 1) r1 (want_none rfl) (ex_bs18 rfl (q409.e (j := 58) rfl) (by rw [hr1]; exact bsH20 _ _)) rfl q409.z (by decide) (q409.k fun _ q410 => ?_);clear q409
        have s1 : SlY yH r1 (some ⟨ws.heap.size, 0, none⟩) 1 1 [mkA j (x.D.length + k)] := by rw [hr1]; exact sl1H _ _
        have b1 : Below ws.heap.size ws r1 := by rw [hr1]; exact (Below.refl _ _).alloc (Nat.le_refl _) _
        clear hr1
        have y1 := b1.size
        have hBw : B ≤ wt.heap.size := by have := dt.size; omega
        obtain ⟨v2, r2, ha2, o2, g2, h42⟩ := run_appZ kH r1 44 B (mrk j (x.D.length + k)) (.slice av (x.D.length + k) cv) _ 1 1 [mkA j (x.D.length + k)] s1 (oV.grow b1) (by omega) (by rw [mrk_len]; unfold maxLen; omega) (by rw [mrk_len]; show (x.D.length + k + 1) * 32 ≤ _; omega)
        rw [mrk_succ] at o2
        obtain ⟨F, hF⟩ := mrk_pre j x.D.length (k + 1)
        have kz := keepZ (S0 := wt.heap.size) (F := F) hxb hxa (sV.later b1) hV g2 (by rw [← hF]; exact o2) h42 (by omega)
        have u3 : Upd (fun b => x.v.ownBlock = some b) wt r2 := (uV.trans (Upd.of_below b1)).tr20 (gupd20 g2) (fun i hi hr => by
          rcases hV with e | e
          · rw [← e]; exact hr
          · have := e i hr; omega)
        clear oV sV hV uV s1 b1 h42 hF
        refine vw (v2) r2 (want_none rfl) (ex_app18 rfl (q410.e (j := 52) rfl) (q410.e (j := 59) rfl) ha2) rfl q410.z (by decide) (q410.k fun _ q411 => ?_);clear q410
        refine q411.t (v2) (ex_assign rfl (q411.e (j := 60) rfl)) fun _ q412 => ?_;clear q411
        refine wpList_nil ?_
        go_upto_region 15 with fail
        refine wp_region_lit ?_
        refine q412.t (.int .i64 ((k : Nat) : Int)) (ex_move rfl (q412.e (j := 8) rfl)) fun _ q413 => ?_;clear q412
        refine q413.t (.int .i64 ((k + 1 : Nat) : Int)) (ex_bin rfl (q413.e (j := 50) rfl) rfl (add1C _ _ k (by omega) _)) fun _ q414 => ?_;clear q413
        refine q414.t (.int .i64 ((k + 1 : Nat) : Int)) (ex_assign rfl (q414.e (j := 51) rfl)) fun _ q415 => ?_;clear q414
        have q416 := ((((((Rp.nil q415.z).cons (q415.a 0 rfl)).cons (q415.a 5 rfl)).cons (q415.a 6 rfl)).cons (q415.a 7 rfl)).cons (q415.a 8 rfl))
        clear q415
        refine wpList_nil ?_
        exact ⟨_, rfl, hik, v2, q416, o2, kz.1, kz.2, u3⟩
      · obtain rfl : k = 12 := by omega
        obtain ⟨g, hg⟩ : ∃ g : SV Hs, g = ⟨av, cv, mrk j (x.D.length + 12)⟩ := ⟨_, rfl⟩
        have hgD : g.D = mrk j (x.D.length + 12) := by rw [hg]
        have hvg : vv = .slice g.a g.D.length g.c := by rw [hvv, hg]
        clear hg hvv hcz hcb
        subst hvg
        have oG : OwnY yH B ws g.v g.D := by rw [hgD]; exact oV
        have hVg : g.v.ownBlock = x.v.ownBlock ∨ ∀ b, g.v.ownBlock = some b → wt.heap.size ≤ b := hV
        clear hV oV
        have okK : OwnY yHS Bk ws (.slice a K.length c) K := okt.upd1 uV (fun b hb e => OwnY.apart ox okt hH_HS b e hb)
        have oGv : OwnY yHS w.heap.size ws gv G := ogt.upd1 uV (fun b hb e => OwnY.apart ox ogt hH_HS b e hb)
        have ors : ∀ (i : Nat) (y : SV Hs), K[i]? = some y → j + 1 ≤ i → OwnY yH B ws y.v (mrk i y.D.length) := fun i y hy hi => (ort i y hy (by omega)).upd1 uV (fun b hb e => by have := dif i j y x b hy hx hb e; omega)
        have gss : ∀ (i : Nat) (y g1 : SV Hs), K[i]? = some y → G[i]? = some g1 → g1.D = mrk i (y.D.length + 12) ∧ OwnY yH B ws g1.v g1.D ∧ SlY yH ws y.a y.D.length y.c (mrk i y.D.length) := fun i y g1 hy hg1 => by
          have hij := (List.getElem?_eq_some_iff.1 hg1).1
          obtain ⟨h1, h2, h3⟩ := gst i y g1 hy hg1
          refine ⟨h1, h2.upd1 uV (fun b hb e => sep i j g1 x b hg1 hx (Nat.le_refl _) hb e), h3.upd uV (fun z hz _ e => ?_)⟩
          have e2 := (sv_blk (own i y hy) hz).1
          have := dif i j y x z.block hy hx e2 e
          omega
        clear ort gst okt ogt
        go_upto_region 14 with fail
        refine wp_region_lit ?_
        refine q400.t (.int .i64 ((12 : Nat) : Int)) (ex_move rfl (q400.e (j := 8) rfl)) fun _ q401 => ?_;clear q400
        refine q401.t (.bool false) (ex_bin (Y := .int .i64 ((12 : Nat) : Int)) rfl (q401.e (j := 48) rfl) rfl (ltF _ _ (by omega) _)) fun _ q402 => ?_;clear q401
        refine wpList_nil ?_
        go_upto_region 17 with fail
        refine wp_cond_false (q402.e (j := 49) rfl) ?_
        go_upto_region 17 with fail
        refine wp_region_lit ?_
        refine q402.t (gv) (ex_move rfl (q402.e (j := 5) rfl)) fun _ q403 => ?_;clear q402
        refine q403.t (.slice g.a g.D.length g.c) (ex_move rfl (q403.e (j := 7) rfl)) fun _ q404 => ?_;clear q403
        obtain ⟨r1, hr1⟩ : ∃ y, y = ws.alloc (.cells (yHS.cs g).toArray 44) := ⟨_, rfl⟩
        refine vw (.slice (some ⟨ws.heap.size, 0, none⟩) 1 1) r1 (want_none rfl) (ex_bs18 rfl (q404.e (j := 62) rfl) (by rw [hr1]; exact bsHS1 _ _)) rfl q404.z (by decide) (q404.k fun _ q405 => ?_);clear q404
        have s1 : SlY yHS r1 (some ⟨ws.heap.size, 0, none⟩) 1 1 [g] := by rw [hr1]; exact sl_box (Y := yHS) ws g 44
        have b1 : Below ws.heap.size ws r1 := by rw [hr1]; exact (Below.refl _ _).alloc (Nat.le_refl _) _
        clear hr1
        have y1 := b1.size
        obtain ⟨v2, r2, ha2, o2, g2, h42⟩ := run_appY kHS r1 43 w.heap.size G gv _ 1 1 [g] s1 (oGv.grow b1) (by omega) (by unfold maxLen; omega) (by show (G.length + 1) * 24 ≤ _; omega)
        have u2 := gupd20 g2
        have y2 := u2.size
        have ok3 : OwnY yHS Bk r2 (.slice a K.length c) K := (okK.grow b1).upd1 u2 (fun b hb e => by have := (hk.blk b hb).2; have := (oGv.blk b e).1; omega)
        have or3 : ∀ (i : Nat) (y : SV Hs), K[i]? = some y → j + 1 ≤ i → OwnY yH B r2 y.v (mrk i y.D.length) := fun i y hy hi => ((ors i y hy hi).grow b1).upd1 u2 (fun b hb e => OwnY.apart ((ors i y hy hi).grow b1) (oGv.grow b1) hH_HS b hb e)
        have hlow : ∀ b, gv.ownBlock = some b → w.heap.size ≤ b := fun b e => (oGv.blk b e).1
        have gs3 : ∀ (i : Nat) (y g1 : SV Hs), K[i]? = some y → (G ++ [g])[i]? = some g1 → g1.D = mrk i (y.D.length + 12) ∧ OwnY yH B r2 g1.v g1.D ∧ SlY yH r2 y.a y.D.length y.c (mrk i y.D.length) := fun i y g1 hy hg1 => by
          have h5 : g1.D = mrk i (y.D.length + 12) ∧ OwnY yH B ws g1.v g1.D ∧ SlY yH ws y.a y.D.length y.c (mrk i y.D.length) := by
            by_cases hi : i < G.length
            · rw [List.getElem?_append_left hi] at hg1
              exact gss i y g1 hy hg1
            · rw [List.getElem?_append_right (by omega)] at hg1
              have h0 := (List.getElem?_eq_some_iff.1 hg1).1
              have h0 : i - G.length < 1 := h0
              obtain rfl : i = j := by omega
              rw [show i - G.length = 0 by omega] at hg1
              cases hg1
              rw [hx] at hy
              cases hy
              exact ⟨hgD, oG, sV⟩
          obtain ⟨h1, h2, h3⟩ := h5
          refine ⟨h1, (h2.grow b1).upd1 u2 (fun b hb e => OwnY.apart (h2.grow b1) (oGv.grow b1) hH_HS b hb e), (h3.later b1).upd u2 (fun z hz _ e => ?_)⟩
          have e6 := hlow z.block e
          have e7 := (sv_blk (own i y hy) hz).2
          omega
        have sp3 : ∀ (i i2 : Nat) (g1 y : SV Hs) (b : Nat), (G ++ [g])[i]? = some g1 → K[i2]? = some y → j + 1 ≤ i2 → g1.v.ownBlock = some b → y.v.ownBlock = some b → False := fun i i2 g1 y b hg1 hy hi2 e1 e2 => by
          by_cases hi : i < G.length
          · rw [List.getElem?_append_left hi] at hg1
            exact sep i i2 g1 y b hg1 hy (by omega) e1 e2
          · rw [List.getElem?_append_right (by omega)] at hg1
            have h0 := (List.getElem?_eq_some_iff.1 hg1).1
            have h0 : i - G.length < 1 := h0
            rw [show i - G.length = 0 by omega] at hg1
            cases hg1
            rcases hVg with e | e
            · have := dif j i2 x y b hx hy (by rw [← e]; exact e1) e2
              omega
            · have h7 := e b e1
              have h8 := ((own i2 y hy).blk b e2).2
              omega
        have d3 : Below B w r2 := ((dt.trans (uV.below (by have := dt.size; omega) (fun k hk => (ox.blk k hk).1))).trans (b1.mono (by have := dt.size; omega))).trans (u2.below (by have := dt.size; omega) (fun k hk => by have := hlow k hk; omega))
        refine vw (v2) r2 (want_none rfl) (ex_app18 rfl (q405.e (j := 61) rfl) (q405.e (j := 63) rfl) ha2) rfl q405.z (by decide) (q405.k fun _ q406 => ?_);clear q405
        refine q406.t (v2) (ex_assign rfl (q406.e (j := 64) rfl)) fun _ q407 => ?_;clear q406
        refine wpList_nil ?_
        go_upto_region 11 with fail
        refine wp_region_lit ?_
        refine q407.t (.int .i64 ((j : Nat) : Int)) (ex_move rfl (q407.e (j := 6) rfl)) fun _ q408 => ?_;clear q407
        refine q408.t (.int .i64 ((j + 1 : Nat) : Int)) (ex_bin rfl (q408.e (j := 42) rfl) rfl (add1C _ _ j (by omega) _)) fun _ q409 => ?_;clear q408
        refine q409.t (.int .i64 ((j + 1 : Nat) : Int)) (ex_assign rfl (q409.e (j := 43) rfl)) fun _ q410 => ?_;clear q409
        have q411 := ((((Rp.nil q410.z).cons (q410.a 0 rfl)).cons (q410.a 5 rfl)).cons (q410.a 6 rfl))
        clear q410
        refine wpList_nil ?_
        exact ⟨_, rfl, hit2, v2, G ++ [g], q411, ok3, o2, by rw [List.length_append, hGl]; rfl, or3, gs3, sp3, d3, by omega⟩
    · obtain rfl : j = K.length := by omega
      obtain ⟨ag, cg, hgv, _, _, _, _⟩ := ogt.form
      subst hgv
      go_upto_region 10 with fail
      refine wp_region_lit ?_
      refine q300.t (.int .i64 ((K.length : Nat) : Int)) (ex_move rfl (q300.e (j := 6) rfl)) fun _ q301 => ?_;clear q300
      refine q301.t (.slice a K.length c) (ex_move rfl (q301.e (j := 0) rfl)) fun _ q302 => ?_;clear q301
      refine q302.t (.int .i64 ((K.length : Nat) : Int)) (ex_lenG rfl rfl Tryd.underlying43 (q302.e (j := 39) rfl)) fun _ q303 => ?_;clear q302
      refine q303.t (.bool false) (ex_bin rfl (q303.e (j := 38) rfl) (q303.e (j := 40) rfl) (ltF _ _ hit2 _)) fun _ q304 => ?_;clear q303
      refine wpList_nil ?_
      go_upto_region 18 with fail
      refine wp_cond_false (q304.e (j := 41) rfl) ?_
      go_upto_region 18 with fail
      refine wp_region_lit ?_
      refine q304.t (.int .i64 ((0 : Nat) : Int)) (ex_assign rfl rfl) fun _ q305 => ?_;clear q304
      have q306 := ((((Rp.nil q305.z).cons (q305.a 0 rfl)).cons (q305.a 5 rfl)).cons (q305.a 9 rfl))
      clear q305
      refine wpList_nil ?_
      go_upto_region 19 with fail
      refine v_loop 9 K.length (fun i T wz => Rp T 114 [(9, gw true (.int .i64 ((i : Nat) : Int))), (5, gw true (.slice ag G.length cg)), (0, gw true (.slice a K.length c))] ∧ Hid (Below wt.heap.size wt wz)) (fun i T w h => h.1.a 9 rfl) ⟨q306, Below.refl _ _⟩ ?_
      clear q306
      intro i T wz hi hh4
      obtain ⟨q500, HJ⟩ := hh4
      have dz : Below wt.heap.size wt wz := HJ.out
      clear HJ
      by_cases hi3 : i < K.length
      · obtain ⟨x, hx⟩ : ∃ x, K[i]? = some x := ⟨_, List.getElem?_eq_getElem (by omega)⟩
        have hlx := hl i x hx
        obtain ⟨g, hg⟩ : ∃ g, G[i]? = some g := ⟨_, List.getElem?_eq_getElem (by omega)⟩
        obtain ⟨hgD, oG, sV⟩ := gst i x g hx hg
        have hgl : g.D.length = x.D.length + 12 := by rw [hgD, mrk_len]
        obtain ⟨qa, oa, hqa, hqal, hlie⟩ := (okt.sl' kHS).place (by rintro rfl; simp at hx)
        obtain ⟨qg, og, hqg, hqgl, hlig⟩ := (ogt.sl' kHS).place (by rintro rfl; simp at hg)
        have oG2 : OwnY yH B wt (.slice g.a g.D.length g.c) g.D := oG
        obtain ⟨qr, orr, hqr, hqrl, hlir⟩ := (oG2.sl' kH).place (by rintro e; rw [e] at hgl; simp at hgl)
        go_upto_region 19 with fail
        refine wp_region_lit ?_
        refine q500.t (.int .i64 ((i : Nat) : Int)) (ex_move rfl (q500.e (j := 9) rfl)) fun _ q501 => ?_;clear q500
        refine q501.t (.slice a K.length c) (ex_move rfl (q501.e (j := 0) rfl)) fun _ q502 => ?_;clear q501
        refine q502.t (.int .i64 ((K.length : Nat) : Int)) (ex_lenG rfl rfl Tryd.underlying43 (q502.e (j := 66) rfl)) fun _ q503 => ?_;clear q502
        refine q503.t (.bool true) (ex_bin rfl (q503.e (j := 65) rfl) (q503.e (j := 67) rfl) (ltT _ _ hi3 _)) fun _ q504 => ?_;clear q503
        refine wpList_nil ?_
        go_upto_region 21 with fail
        refine wp_cond_true (q504.e (j := 68) rfl) ?_
        go_upto_region 21 with fail
        refine wp_region_lit ?_
        refine q504.t (.int .i64 ((0 : Nat) : Int)) (ex_assign rfl rfl) fun _ q505 => ?_;clear q504
        have q506 := (((((Rp.nil q505.z).cons (q505.a 0 rfl)).cons (q505.a 5 rfl)).cons (q505.a 9 rfl)).cons (q505.a 10 rfl))
        clear q505
        refine wpList_nil ?_
        go_upto_region 22 with fail
        refine v_loop 10 g.D.length (fun k T wy => Rp T 114 [(10, gw true (.int .i64 ((k : Nat) : Int))), (9, gw true (.int .i64 ((i : Nat) : Int))), (5, gw true (.slice ag G.length cg)), (0, gw true (.slice a K.length c))] ∧ Hid (Below wt.heap.size wt wy)) (fun k T w h => h.1.a 10 rfl) ⟨q506, dz⟩ ?_
        clear q506 dz
        intro k T wy hk4 hh5
        obtain ⟨q600, HJ⟩ := hh5
        have dy : Below wt.heap.size wt wy := HJ.out
        clear HJ
        have zy := dy.size
        have lig2 : LieY yHS wy qg og G := hlig.upd (S := fun _ => False) (Upd.of_below dy) hqgl id
        by_cases hkg : k < g.D.length
        · go_upto_region 22 with fail
          refine wp_region_lit ?_
          refine q600.t (.int .i64 ((k : Nat) : Int)) (ex_move rfl (q600.e (j := 10) rfl)) fun _ q601 => ?_;clear q600
          refine q601.t (.slice ag G.length cg) (ex_move rfl (q601.e (j := 5) rfl)) fun _ q602 => ?_;clear q601
          refine q602.t (.int .i64 ((i : Nat) : Int)) (ex_move rfl (q602.e (j := 9) rfl)) fun _ q603 => ?_;clear q602
          refine q603.t (.pointer (some ⟨qg, og + i, none⟩)) (ex_ix rfl (q603.e (j := 72) rfl) (q603.e (j := 73) rfl) (by rw [hqg]; exact ixHS qg og G.length cg i (by omega) _)) fun _ q604 => ?_;clear q603
          refine q604.t (.slice g.a g.D.length g.c) (ex_ld rfl (q604.e (j := 74) rfl) (ldHS lig2 hg)) fun _ q605 => ?_;clear q604
          refine q605.t (.int .i64 ((g.D.length : Nat) : Int)) (ex_lenG rfl rfl Tryd.underlying44 (q605.e (j := 75) rfl)) fun _ q606 => ?_;clear q605
          refine q606.t (.bool true) (ex_bin rfl (q606.e (j := 71) rfl) (q606.e (j := 76) rfl) (ltT _ _ hkg _)) fun _ q607 => ?_;clear q606
          refine wpList_nil ?_
          go_upto_region 24 with fail
          refine wp_cond_true (q607.e (j := 77) rfl) ?_
          go_upto_region 24 with fail
          refine wp_region_lit ?_
          refine q607.t (.int .i64 ((i : Nat) : Int)) (ex_move rfl (q607.e (j := 9) rfl)) fun _ q608 => ?_;clear q607
          refine q608.t (.int .u8 (((i % 256 : Nat)) : Int)) (ex_cv19 rfl (q608.e (j := 80) rfl) (cvA i (by omega) _)) fun _ q609 => ?_;clear q608
          refine q609.t (.int .i64 ((k : Nat) : Int)) (ex_move rfl (q609.e (j := 10) rfl)) fun _ q610 => ?_;clear q609
          refine q610.t (.int .u8 (((k % 256 : Nat)) : Int)) (ex_cv19 rfl (q610.e (j := 82) rfl) (cvA k (by omega) _)) fun _ q611 => ?_;clear q610
          refine q611.t ((mkA i k).val) (ex_buildP18 (P := #[(0, .int .u8 (((i % 256 : Nat)) : Int)), (1, .int .u8 (((k % 256 : Nat)) : Int)), (2, .int .u8 1)]) rfl (by simp only [List.map_toArray, List.map_cons, List.map_nil, (q611.e (j := 81) rfl), (q611.e (j := 83) rfl), evc] <;> rfl) (bdMk _ _ _)) fun _ q612 => ?_;clear q611
          obtain ⟨w4, hw4⟩ : ∃ y, y = wy.alloc (.cells (zH.cs).toArray 38) := ⟨_, rfl⟩
          refine vw (.pointer (some ⟨wy.heap.size, 0, none⟩)) w4 (want_none rfl) (ex_al rfl (by rw [hw4]; exact alH _)) rfl q612.z (by decide) (q612.k fun _ q613 => ?_);clear q612
          have Bw4 : BB w4 wy.heap.size 38 (zH.cs) := by rw [hw4]; exact BB.new _ _ _
          have bw4 : Below wy.heap.size wy w4 := by rw [hw4]; exact (Below.refl _ _).alloc (Nat.le_refl _) _
          have zw4 : w4.heap.size = wy.heap.size + 1 := by rw [hw4]; exact World.size_alloc _ _
          clear hw4
          obtain ⟨w5, hw5⟩ : ∃ y, y = w4.setCells wy.heap.size 0 ((mkA i k)).cs := ⟨_, rfl⟩
          refine vs w5 (want_none rfl) (ex_st rfl (q613.e (j := 11) rfl) (q613.e (j := 84) rfl) (by rw [hw5]; exact Bw4.stH rfl _)) rfl ?_
          have Bw5 : BB w5 wy.heap.size 38 ((mkA i k)).cs := by rw [hw5]; exact Bw4.putH rfl _
          have uw5 : Upd (fun k => k = wy.heap.size) w4 w5 := by rw [hw5]; exact upd18 _ _ _ _
          clear hw5
          refine wpList_nil ?_
          have d5 : Below wy.heap.size wy w5 := bw4.trans (bel_ge uw5 (by omega) (Nat.le_refl _))
          have hgk : g.D[k]? = some (mkA i k) := by rw [hgD]; exact mrk_get (by omega)
          clear bw4 uw5
          by_cases hkl : k < x.D.length
          · go_upto_region 25 with fail
            refine vq_start (C := fun v => v = w5.drew) (by kernel_rfl) (by kernel_rfl) rfl ?_
            have hd : Below w5.heap.size w5 w5.drew := (Below.refl _ _).drew
            have hzd : w5.drew.heap.size = w5.heap.size := rfl
            generalize w5.drew = d at *
            have dd := d5.trans (hd.mono (by have := d5.size; omega))
            have dx : Below wt.heap.size wt d := dy.trans (dd.mono zy)
            have Bd := Bw5.later hd
            have ligd : LieY yHS d qg og G := hlig.upd (S := fun _ => False) (Upd.of_below dx) hqgl id
            have lird : LieY yH d qr orr g.D := hlir.upd (S := fun _ => False) (Upd.of_below dx) hqrl id
            have liad : LieY yHS d qa oa K := hlie.upd (S := fun _ => False) (Upd.of_below dx) hqal id
            refine q613.q (.slice ag G.length cg) (fun v hv => by subst hv; exact ex_move rfl (q613.e (j := 5) rfl)) fun _ q614 => ?_;clear q613
            refine q614.q (.int .i64 ((i : Nat) : Int)) (fun v hv => by subst hv; exact ex_move rfl (q614.e (j := 9) rfl)) fun _ q615 => ?_;clear q614
            refine q615.q (.pointer (some ⟨qg, og + i, none⟩)) (fun v hv => by subst hv; exact ex_ix rfl (q615.e (j := 85) rfl) (q615.e (j := 86) rfl) (by rw [hqg]; exact ixHS qg og G.length cg i (by omega) _)) fun _ q616 => ?_;clear q615
            refine q616.q (.slice g.a g.D.length g.c) (fun v hv => by subst hv; exact ex_ld rfl (q616.e (j := 87) rfl) (ldHS ligd hg)) fun _ q617 => ?_;clear q616
            refine q617.q (.int .i64 ((k : Nat) : Int)) (fun v hv => by subst hv; exact ex_move rfl (q617.e (j := 10) rfl)) fun _ q618 => ?_;clear q617
            refine q618.q (.pointer (some ⟨qr, orr + k * 32, none⟩)) (fun v hv => by subst hv; exact ex_ix rfl (q618.e (j := 88) rfl) (q618.e (j := 89) rfl) (by rw [hqr]; exact ixH qr orr g.D.length g.c k hkg _)) fun _ q619 => ?_;clear q618
            refine q619.q ((mkA i k).val) (fun v hv => by subst hv; exact ex_ld rfl (q619.e (j := 90) rfl) (ldH20 lird hgk)) fun _ q620 => ?_;clear q619
            refine q620.q ((mkA i k).val) (fun v hv => by subst hv; exact ex_ld rfl (q620.e (j := 11) rfl) Bd.ldH) fun _ q621 => ?_;clear q620
            refine q621.q (.bool false) (fun v hv => by subst hv; exact ex_bin rfl (q621.e (j := 91) rfl) (q621.e (j := 92) rfl) (neHF0 _ _ _ _)) fun _ q622 => ?_;clear q621
            refine q622.q (.bool false) (fun v hv => by subst hv; exact ex_move rfl (q622.e (j := 93) rfl)) fun _ q623 => ?_;clear q622
            refine vq _ (.int .i64 ((k : Nat) : Int)) (want_g rfl rfl (q623.a 94 rfl)) (fun hc v hv => by subst hv; exact ex_move rfl (q623.e (j := 10) rfl)) rfl q623.z (by decide) (q623.k fun _ q624 => ?_);clear q623
            refine vq _ (.slice a K.length c) (want_g rfl rfl (q624.a 94 rfl)) (fun hc v hv => by subst hv; exact ex_move rfl (q624.e (j := 0) rfl)) rfl q624.z (by decide) (q624.k fun _ q625 => ?_);clear q624
            refine vq _ (.int .i64 ((i : Nat) : Int)) (want_g rfl rfl (q625.a 94 rfl)) (fun hc v hv => by subst hv; exact ex_move rfl (q625.e (j := 9) rfl)) rfl q625.z (by decide) (q625.k fun _ q626 => ?_);clear q625
            refine vq _ (.pointer (some ⟨qa, oa + i, none⟩)) (want_g rfl rfl (q626.a 94 rfl)) (fun hc v hv => by subst hv; exact ex_ix rfl (q626.e (j := 96) rfl) (q626.e (j := 97) rfl) (by rw [hqa]; exact ixHS qa oa K.length c i hi3 _)) rfl q626.z (by decide) (q626.k fun _ q627 => ?_);clear q626
            refine vq _ (.slice x.a x.D.length x.c) (want_g rfl rfl (q627.a 94 rfl)) (fun hc v hv => by subst hv; exact ex_ld rfl (q627.e (j := 98) rfl) (ldHS liad hx)) rfl q627.z (by decide) (q627.k fun _ q628 => ?_);clear q627
            refine vq _ (.int .i64 ((x.D.length : Nat) : Int)) (want_g rfl rfl (q628.a 94 rfl)) (fun hc v hv => by subst hv; exact ex_lenG rfl rfl Tryd.underlying44 (q628.e (j := 99) rfl)) rfl q628.z (by decide) (q628.k fun _ q629 => ?_);clear q628
            refine vq _ (.bool true) (want_g rfl rfl (q629.a 94 rfl)) (fun hc v hv => by subst hv; exact ex_bin rfl (q629.e (j := 95) rfl) (q629.e (j := 100) rfl) (ltT _ _ hkl _)) rfl q629.z (by decide) (q629.k fun _ q630 => ?_);clear q629
            refine vq _ (.bool true) (want_g rfl rfl (q630.a 94 rfl)) (fun hc v hv => by subst hv; exact ex_move rfl (q630.e (j := 101) rfl)) rfl q630.z (by decide) (q630.k fun _ q631 => ?_);clear q630
            obtain ⟨qx, ox2, hqx, hqxl, hlix⟩ := sV.place (by intro e; have h9 := congrArg List.length e; rw [mrk_len] at h9; have h8 : x.D.length = 0 := h9; omega)
            have lixd : LieY yH d qx ox2 (mrk i x.D.length) := hlix.upd (S := fun _ => False) (Upd.of_below dx) hqxl id
            refine vq ((true && (false == false)) && (true == true)) (.slice a K.length c) (want_g rfl rfl (q631.a 102 rfl)) (fun hc v hv => by subst hv; exact ex_move rfl (q631.e (j := 0) rfl)) rfl q631.z (by decide) (q631.k fun _ q632 => ?_);clear q631
            refine vq ((true && (false == false)) && (true == true)) (.int .i64 ((i : Nat) : Int)) (want_g rfl rfl (q632.a 102 rfl)) (fun hc v hv => by subst hv; exact ex_move rfl (q632.e (j := 9) rfl)) rfl q632.z (by decide) (q632.k fun _ q633 => ?_);clear q632
            refine vq ((true && (false == false)) && (true == true)) (.pointer (some ⟨qa, oa + i, none⟩)) (want_g rfl rfl (q633.a 102 rfl)) (fun hc v hv => by subst hv; exact ex_ix rfl (q633.e (j := 103) rfl) (q633.e (j := 104) rfl) (by rw [hqa]; exact ixHS qa oa K.length c i hi3 _)) rfl q633.z (by decide) (q633.k fun _ q634 => ?_);clear q633
            refine vq ((true && (false == false)) && (true == true)) (.slice x.a x.D.length x.c) (want_g rfl rfl (q634.a 102 rfl)) (fun hc v hv => by subst hv; exact ex_ld rfl (q634.e (j := 105) rfl) (ldHS liad hx)) rfl q634.z (by decide) (q634.k fun _ q635 => ?_);clear q634
            refine vq ((true && (false == false)) && (true == true)) (.int .i64 ((k : Nat) : Int)) (want_g rfl rfl (q635.a 102 rfl)) (fun hc v hv => by subst hv; exact ex_move rfl (q635.e (j := 10) rfl)) rfl q635.z (by decide) (q635.k fun _ q636 => ?_);clear q635
            refine vq ((true && (false == false)) && (true == true)) (.pointer (some ⟨qx, ox2 + k * 32, none⟩)) (want_g rfl rfl (q636.a 102 rfl)) (fun hc v hv => by subst hv; exact ex_ix rfl (q636.e (j := 106) rfl) (q636.e (j := 107) rfl) (by rw [hqx]; exact ixH qx ox2 x.D.length x.c k hkl _)) rfl q636.z (by decide) (q636.k fun _ q637 => ?_);clear q636
            refine vq ((true && (false == false)) && (true == true)) ((mkA i k).val) (want_g rfl rfl (q637.a 102 rfl)) (fun hc v hv => by subst hv; exact ex_ld rfl (q637.e (j := 108) rfl) (ldH20 lixd (mrk_get hkl))) rfl q637.z (by decide) (q637.k fun _ q638 => ?_);clear q637
            refine vq ((true && (false == false)) && (true == true)) ((mkA i k).val) (want_g rfl rfl (q638.a 102 rfl)) (fun hc v hv => by subst hv; exact ex_ld rfl (q638.e (j := 11) rfl) Bd.ldH) rfl q638.z (by decide) (q638.k fun _ q639 => ?_);clear q638
            refine vq ((true && (false == false)) && (true == true)) (.bool false) (want_g rfl rfl (q639.a 102 rfl)) (fun hc v hv => by subst hv; exact ex_bin rfl (q639.e (j := 109) rfl) (q639.e (j := 110) rfl) (neHF0 _ _ _ _)) rfl q639.z (by decide) (q639.k fun _ q640 => ?_);clear q639
            refine vq _ (.bool false) (want_g rfl rfl (q640.a 94 rfl)) (fun hc v hv => by subst hv; exact ex_and (c := true && (false == false)) (b := true) (z := false) rfl (q640.a 102 rfl) (q640.a 111 rfl) hc) rfl q640.z (by decide) (q640.k fun _ q641 => ?_);clear q640
            refine q641.q (.bool false) (fun v hv => by subst hv; exact ex_or (c := true) (b := false) (z := false) rfl (q641.a 94 rfl) (q641.a 112 rfl) rfl) fun _ q642 => ?_;clear q641
            refine vq_nil (fun r1 hr1 => ?_)
            subst hr1
            go_upto_region 23 with fail
            refine wp_cond_false (q642.e (j := 113) rfl) ?_
            go_upto_region 23 with fail
            refine wp_region_lit ?_
            refine q642.t (.int .i64 ((k : Nat) : Int)) (ex_move rfl (q642.e (j := 10) rfl)) fun _ q643 => ?_;clear q642
            refine q643.t (.int .i64 ((k + 1 : Nat) : Int)) (ex_bin rfl (q643.e (j := 78) rfl) rfl (add1C _ _ k (by omega) _)) fun _ q644 => ?_;clear q643
            refine q644.t (.int .i64 ((k + 1 : Nat) : Int)) (ex_assign rfl (q644.e (j := 79) rfl)) fun _ q645 => ?_;clear q644
            have q646 := (((((Rp.nil q645.z).cons (q645.a 0 rfl)).cons (q645.a 5 rfl)).cons (q645.a 9 rfl)).cons (q645.a 10 rfl))
            clear q645
            refine wpList_nil ?_
            exact ⟨_, rfl, hkg, q646, dx⟩
          · go_upto_region 25 with fail
            refine vq_start (C := fun v => v = w5.drew) (by kernel_rfl) (by kernel_rfl) rfl ?_
            have hd : Below w5.heap.size w5 w5.drew := (Below.refl _ _).drew
            have hzd : w5.drew.heap.size = w5.heap.size := rfl
            generalize w5.drew = d at *
            have dd := d5.trans (hd.mono (by have := d5.size; omega))
            have dx : Below wt.heap.size wt d := dy.trans (dd.mono zy)
            have Bd := Bw5.later hd
            have ligd : LieY yHS d qg og G := hlig.upd (S := fun _ => False) (Upd.of_below dx) hqgl id
            have lird : LieY yH d qr orr g.D := hlir.upd (S := fun _ => False) (Upd.of_below dx) hqrl id
            have liad : LieY yHS d qa oa K := hlie.upd (S := fun _ => False) (Upd.of_below dx) hqal id
            refine q613.q (.slice ag G.length cg) (fun v hv => by subst hv; exact ex_move rfl (q613.e (j := 5) rfl)) fun _ q614 => ?_;clear q613
            refine q614.q (.int .i64 ((i : Nat) : Int)) (fun v hv => by subst hv; exact ex_move rfl (q614.e (j := 9) rfl)) fun _ q615 => ?_;clear q614
            refine q615.q (.pointer (some ⟨qg, og + i, none⟩)) (fun v hv => by subst hv; exact ex_ix rfl (q615.e (j := 85) rfl) (q615.e (j := 86) rfl) (by rw [hqg]; exact ixHS qg og G.length cg i (by omega) _)) fun _ q616 => ?_;clear q615
            refine q616.q (.slice g.a g.D.length g.c) (fun v hv => by subst hv; exact ex_ld rfl (q616.e (j := 87) rfl) (ldHS ligd hg)) fun _ q617 => ?_;clear q616
            refine q617.q (.int .i64 ((k : Nat) : Int)) (fun v hv => by subst hv; exact ex_move rfl (q617.e (j := 10) rfl)) fun _ q618 => ?_;clear q617
            refine q618.q (.pointer (some ⟨qr, orr + k * 32, none⟩)) (fun v hv => by subst hv; exact ex_ix rfl (q618.e (j := 88) rfl) (q618.e (j := 89) rfl) (by rw [hqr]; exact ixH qr orr g.D.length g.c k hkg _)) fun _ q619 => ?_;clear q618
            refine q619.q ((mkA i k).val) (fun v hv => by subst hv; exact ex_ld rfl (q619.e (j := 90) rfl) (ldH20 lird hgk)) fun _ q620 => ?_;clear q619
            refine q620.q ((mkA i k).val) (fun v hv => by subst hv; exact ex_ld rfl (q620.e (j := 11) rfl) Bd.ldH) fun _ q621 => ?_;clear q620
            refine q621.q (.bool false) (fun v hv => by subst hv; exact ex_bin rfl (q621.e (j := 91) rfl) (q621.e (j := 92) rfl) (neHF0 _ _ _ _)) fun _ q622 => ?_;clear q621
            refine q622.q (.bool false) (fun v hv => by subst hv; exact ex_move rfl (q622.e (j := 93) rfl)) fun _ q623 => ?_;clear q622
            refine vq _ (.int .i64 ((k : Nat) : Int)) (want_g rfl rfl (q623.a 94 rfl)) (fun hc v hv => by subst hv; exact ex_move rfl (q623.e (j := 10) rfl)) rfl q623.z (by decide) (q623.k fun _ q624 => ?_);clear q623
            refine vq _ (.slice a K.length c) (want_g rfl rfl (q624.a 94 rfl)) (fun hc v hv => by subst hv; exact ex_move rfl (q624.e (j := 0) rfl)) rfl q624.z (by decide) (q624.k fun _ q625 => ?_);clear q624
            refine vq _ (.int .i64 ((i : Nat) : Int)) (want_g rfl rfl (q625.a 94 rfl)) (fun hc v hv => by subst hv; exact ex_move rfl (q625.e (j := 9) rfl)) rfl q625.z (by decide) (q625.k fun _ q626 => ?_);clear q625
            refine vq _ (.pointer (some ⟨qa, oa + i, none⟩)) (want_g rfl rfl (q626.a 94 rfl)) (fun hc v hv => by subst hv; exact ex_ix rfl (q626.e (j := 96) rfl) (q626.e (j := 97) rfl) (by rw [hqa]; exact ixHS qa oa K.length c i hi3 _)) rfl q626.z (by decide) (q626.k fun _ q627 => ?_);clear q626
            refine vq _ (.slice x.a x.D.length x.c) (want_g rfl rfl (q627.a 94 rfl)) (fun hc v hv => by subst hv; exact ex_ld rfl (q627.e (j := 98) rfl) (ldHS liad hx)) rfl q627.z (by decide) (q627.k fun _ q628 => ?_);clear q627
            refine vq _ (.int .i64 ((x.D.length : Nat) : Int)) (want_g rfl rfl (q628.a 94 rfl)) (fun hc v hv => by subst hv; exact ex_lenG rfl rfl Tryd.underlying44 (q628.e (j := 99) rfl)) rfl q628.z (by decide) (q628.k fun _ q629 => ?_);clear q628
            refine vq _ (.bool false) (want_g rfl rfl (q629.a 94 rfl)) (fun hc v hv => by subst hv; exact ex_bin rfl (q629.e (j := 95) rfl) (q629.e (j := 100) rfl) (ltF _ _ hkl _)) rfl q629.z (by decide) (q629.k fun _ q630 => ?_);clear q629
            refine vq _ (.bool false) (want_g rfl rfl (q630.a 94 rfl)) (fun hc v hv => by subst hv; exact ex_move rfl (q630.e (j := 101) rfl)) rfl q630.z (by decide) (q630.k fun _ q631 => ?_);clear q630
            refine vq ((true && (false == false)) && (false == true)) (undef) (want_g rfl rfl (q631.a 102 rfl)) (fun hc v hv => absurd hc (by decide)) rfl q631.z (by decide) (q631.k fun _ q632 => ?_);clear q631
            refine vq ((true && (false == false)) && (false == true)) (undef) (want_g rfl rfl (q632.a 102 rfl)) (fun hc v hv => absurd hc (by decide)) rfl q632.z (by decide) (q632.k fun _ q633 => ?_);clear q632
            refine vq ((true && (false == false)) && (false == true)) (undef) (want_g rfl rfl (q633.a 102 rfl)) (fun hc v hv => absurd hc (by decide)) rfl q633.z (by decide) (q633.k fun _ q634 => ?_);clear q633
            refine vq ((true && (false == false)) && (false == true)) (undef) (want_g rfl rfl (q634.a 102 rfl)) (fun hc v hv => absurd hc (by decide)) rfl q634.z (by decide) (q634.k fun _ q635 => ?_);clear q634
            refine vq ((true && (false == false)) && (false == true)) (undef) (want_g rfl rfl (q635.a 102 rfl)) (fun hc v hv => absurd hc (by decide)) rfl q635.z (by decide) (q635.k fun _ q636 => ?_);clear q635
            refine vq ((true && (false == false)) && (false == true)) (undef) (want_g rfl rfl (q636.a 102 rfl)) (fun hc v hv => absurd hc (by decide)) rfl q636.z (by decide) (q636.k fun _ q637 => ?_);clear q636
            refine vq ((true && (false == false)) && (false == true)) (undef) (want_g rfl rfl (q637.a 102 rfl)) (fun hc v hv => absurd hc (by decide)) rfl q637.z (by decide) (q637.k fun _ q638 => ?_);clear q637
            refine vq ((true && (false == false)) && (false == true)) (undef) (want_g rfl rfl (q638.a 102 rfl)) (fun hc v hv => absurd hc (by decide)) rfl q638.z (by decide) (q638.k fun _ q639 => ?_);clear q638
            refine vq ((true && (false == false)) && (false == true)) (.bool false) (want_g rfl rfl (q639.a 102 rfl)) (fun hc v hv => absurd hc (by decide)) rfl q639.z (by decide) (q639.k fun _ q640 => ?_);clear q639
            refine vq _ (.bool false) (want_g rfl rfl (q640.a 94 rfl)) (fun hc v hv => by subst hv; exact ex_and (c := true && (false == false)) (b := false) (z := false) rfl (q640.a 102 rfl) (q640.a 111 rfl) hc) rfl q640.z (by decide) (q640.k fun _ q641 => ?_);clear q640
            refine q641.q (.bool false) (fun v hv => by subst hv; exact ex_or (c := true) (b := false) (z := false) rfl (q641.a 94 rfl) (q641.a 112 rfl) rfl) fun _ q642 => ?_;clear q641
            refine vq_nil (fun r1 hr1 => ?_)
            subst hr1
            go_upto_region 23 with fail
            refine wp_cond_false (q642.e (j := 113) rfl) ?_
            go_upto_region 23 with fail
            refine wp_region_lit ?_
            refine q642.t (.int .i64 ((k : Nat) : Int)) (ex_move rfl (q642.e (j := 10) rfl)) fun _ q643 => ?_;clear q642
            refine q643.t (.int .i64 ((k + 1 : Nat) : Int)) (ex_bin rfl (q643.e (j := 78) rfl) rfl (add1C _ _ k (by omega) _)) fun _ q644 => ?_;clear q643
            refine q644.t (.int .i64 ((k + 1 : Nat) : Int)) (ex_assign rfl (q644.e (j := 79) rfl)) fun _ q645 => ?_;clear q644
            have q646 := (((((Rp.nil q645.z).cons (q645.a 0 rfl)).cons (q645.a 5 rfl)).cons (q645.a 9 rfl)).cons (q645.a 10 rfl))
            clear q645
            refine wpList_nil ?_
            exact ⟨_, rfl, hkg, q646, dx⟩
        · obtain rfl : k = g.D.length := by omega
          go_upto_region 22 with fail
          refine wp_region_lit ?_
          refine q600.t (.int .i64 ((g.D.length : Nat) : Int)) (ex_move rfl (q600.e (j := 10) rfl)) fun _ q601 => ?_;clear q600
          refine q601.t (.slice ag G.length cg) (ex_move rfl (q601.e (j := 5) rfl)) fun _ q602 => ?_;clear q601
          refine q602.t (.int .i64 ((i : Nat) : Int)) (ex_move rfl (q602.e (j := 9) rfl)) fun _ q603 => ?_;clear q602
          refine q603.t (.pointer (some ⟨qg, og + i, none⟩)) (ex_ix rfl (q603.e (j := 72) rfl) (q603.e (j := 73) rfl) (by rw [hqg]; exact ixHS qg og G.length cg i (by omega) _)) fun _ q604 => ?_;clear q603
          refine q604.t (.slice g.a g.D.length g.c) (ex_ld rfl (q604.e (j := 74) rfl) (ldHS lig2 hg)) fun _ q605 => ?_;clear q604
          refine q605.t (.int .i64 ((g.D.length : Nat) : Int)) (ex_lenG rfl rfl Tryd.underlying44 (q605.e (j := 75) rfl)) fun _ q606 => ?_;clear q605
          refine q606.t (.bool false) (ex_bin rfl (q606.e (j := 71) rfl) (q606.e (j := 76) rfl) (ltF _ _ hkg _)) fun _ q607 => ?_;clear q606
          refine wpList_nil ?_
          go_upto_region 20 with fail
          refine wp_cond_false (q607.e (j := 77) rfl) ?_
          go_upto_region 20 with fail
          refine wp_region_lit ?_
          refine q607.t (.int .i64 ((i : Nat) : Int)) (ex_move rfl (q607.e (j := 9) rfl)) fun _ q608 => ?_;clear q607
          refine q608.t (.int .i64 ((i + 1 : Nat) : Int)) (ex_bin rfl (q608.e (j := 69) rfl) rfl (add1C _ _ i (by omega) _)) fun _ q609 => ?_;clear q608
          refine q609.t (.int .i64 ((i + 1 : Nat) : Int)) (ex_assign rfl (q609.e (j := 70) rfl)) fun _ q610 => ?_;clear q609
          have q611 := ((((Rp.nil q610.z).cons (q610.a 0 rfl)).cons (q610.a 5 rfl)).cons (q610.a 9 rfl))
          clear q610
          refine wpList_nil ?_
          exact ⟨_, rfl, hi3, q611, dy⟩
      · obtain rfl : i = K.length := by omega
        go_upto_region 19 with fail
        refine wp_region_lit ?_
        refine q500.t (.int .i64 ((K.length : Nat) : Int)) (ex_move rfl (q500.e (j := 9) rfl)) fun _ q501 => ?_;clear q500
        refine q501.t (.slice a K.length c) (ex_move rfl (q501.e (j := 0) rfl)) fun _ q502 => ?_;clear q501
        refine q502.t (.int .i64 ((K.length : Nat) : Int)) (ex_lenG rfl rfl Tryd.underlying43 (q502.e (j := 66) rfl)) fun _ q503 => ?_;clear q502
        refine q503.t (.bool false) (ex_bin rfl (q503.e (j := 65) rfl) (q503.e (j := 67) rfl) (ltF _ _ hi3 _)) fun _ q504 => ?_;clear q503
        refine wpList_nil ?_
        go_upto_region 27 with fail
        refine wp_cond_false (q504.e (j := 68) rfl) ?_
        go_upto_region 27 with fail
        refine wp_region_lit ?_
        refine q504.t (.bool true) (ex_assign rfl rfl) fun _ q505 => ?_;clear q504
        refine wpList_nil ?_
        go_wp2
        refine bodyPost_ret (results_tmp rfl _ _ _) rfl ?_
        rw [getD_of (q505.a 2 rfl)]
        exact ⟨rfl, dt.trans (dz.mono (by have := dt.size; omega))⟩
theorem size_any20 {w : World} {B q n : Nat} {v : Value} {L E : List Hs} (h : TV w B q v L E) (hn : L.length = n) : Calls Tryd.prog 12 #[.pointer (some ⟨q, 0, none⟩)] w fun e w' => e = .returned (.int .i64 ((n : Nat) : Int)) ∧ w' = w := by
  subst hn
  exact rcS20 h.rc
theorem head_any20 {w : World} {B q : Nat} {v : Value} {L E : List Hs} (h : TV w B q v L E) (he : EdgeOf L E) (ht : Tb w) (hn : L.length ≤ 4398046511000) : Calls Tryd.prog 11 #[.pointer (some ⟨q, 0, none⟩)] w fun e w' => e = .returned (hd L).val ∧ Below w.heap.size w w' := by
  rcases Nat.eq_zero_or_pos L.length with e0 | e0
  · obtain rfl := List.eq_nil_of_length_eq_zero e0
    exact head020 _ _ h.rc
  · have := thead20 B q v L E w h ht e0 hn
    rw [thd_hd he e0 (by omega)] at this
    exact this
theorem tincl_all20 {w : World} {B q n : Nat} {v : Value} {L E : List Hs} (p : Int) (h : TV w B q v L E) (hn : L.length = n) (h2 : n ≤ 4398046511000) : Calls Tryd.prog 17 #[.pointer (some ⟨q, 0, none⟩), .int .i64 p, .int .i64 ((n : Nat) : Int)] w fun e w' => ∃ v, e = .returned (.tuple #[v, .int .i64 (inR L p).2]) ∧ OwnY yH w.heap.size w' v (inR L p).1 ∧ Below w.heap.size w w' := by
  subst hn
  have := tincl20 (.pointer (some ⟨q, 0, none⟩)) L p L.length (decide_eq_true (by omega)) (Nat.le_refl _) w h.rc (by omega)
  rw [List.take_length] at this
  exact this
theorem tcons_all20 {w : World} {B q n : Nat} {v : Value} {L E : List Hs} (p : Int) (h : TV w B q v L E) (hn : L.length = n) (h2 : n ≤ 4398046511000) : Calls Tryd.prog 18 #[.pointer (some ⟨q, 0, none⟩), .int .i64 p, .int .i64 ((n : Nat) : Int)] w fun e w' => ∃ v, e = .returned (.tuple #[v, .int .i64 (csR L p).2]) ∧ OwnY yH w.heap.size w' v (csR L p).1 ∧ Below w.heap.size w w' := by
  subst hn
  have := tcons20 (.pointer (some ⟨q, 0, none⟩)) L p L.length (decide_eq_true (by omega)) (Nat.le_refl _) w h.rc (by omega)
  rw [List.take_length] at this
  exact this
theorem sv_of {B : Nat} {w : World} {v : Value} {D : List Hs} (h : OwnY yH B w v D) : ∃ x : SV Hs, v = .slice x.a x.D.length x.c ∧ x.D = D ∧ OwnY yH B w x.v x.D := by
  obtain ⟨a, c, rfl, _⟩ := h.form
  exact ⟨⟨a, c, D⟩, rfl, rfl, h⟩
theorem ixHS1 (q o n c j : Nat) (hj : j < n) (w : World) : (Instr.indexAt 43 (.slice (some ⟨q, o, none⟩) n c) (.int .i64 (j : Int))).run Tryd.prog w = .ok (.pointer (some ⟨q, o + j * 1, none⟩)) w := by
  rw [Nat.mul_one]
  exact ixHS q o n c j hj w
theorem ldHS1 {w : World} {q o : Nat} {K : List (SV Hs)} (h : LieY yHS w q o K) {j : Nat} {x : SV Hs} (hx : K[j]? = some x) : (Instr.loadAt 44 (.pointer (some ⟨q, o + j * 1, none⟩))).run Tryd.prog w = .ok (.slice x.a x.D.length x.c) w := by
  rw [Nat.mul_one]
  exact ldHS h hx
theorem ex_bsP20 {o : Oper} {ρ : Operand → Value} {s : TypeId} {n : Nat} {ps : Array (Nat × Operand)} {P : Array (Nat × Value)} {V : Value} {w w' : World} (ho : o.op = .buildSlice s n ps) (hp : ps.map (fun (i, x) => (i, ρ x)) = P) (hr : (Instr.buildSlice s n P).run Tryd.prog w = .ok V w') : (execOp ρ o).run Tryd.prog w = .ok (.value V) w' := by
  unfold execOp
  simp only [ho, hp, Sem.run_bind, hr, Result.andThen_ok]
  rfl
theorem ldI20 {w : World} {q o : Nat} {z : Int} (h : w.cell? ⟨q, o, none⟩ = some (.int .i64 z)) : (Instr.loadAt 3 (.pointer (some ⟨q, o, none⟩))).run Tryd.prog w = .ok (.int .i64 z) w := by go_simp
theorem stI20 {w : World} {q o : Nat} {y z : Int} (h : w.cell? ⟨q, o, none⟩ = some (.int .i64 y)) (hf : w.frozen? ⟨q, o, none⟩ = false) : (Instr.storeAt 3 (.pointer (some ⟨q, o, none⟩)) (.int .i64 z)).run Tryd.prog w = .ok () (w.setCell ⟨q, o, none⟩ (.int .i64 z)) := by go_simp
theorem eqBB20 (x y : Operand) (a b : Bool) (w : World) : (do eqGuard .eql 4 x y (.bool a) (.bool b); binOp .eql 4 (.bool a) (.bool b) : Sem Value).run Tryd.prog w = .ok (.bool (a == b)) w := by cases a <;> cases b <;> kernel_rfl
theorem eqHT0 (x y : Operand) {h k : Hs} (e : h.v = k.v) (w : World) : (do eqGuard .eql 38 x y h.val k.val; binOp .eql 38 h.val k.val : Sem Value).run Tryd.prog w = .ok (.bool true) w := by
  have := eqHZ x y h k w
  rw [decide_eq_true e] at this
  exact this
theorem eqHF0 (x y : Operand) {h k : Hs} (e : ¬ h.v = k.v) (w : World) : (do eqGuard .eql 38 x y h.val k.val; binOp .eql 38 h.val k.val : Sem Value).run Tryd.prog w = .ok (.bool false) w := by
  have := eqHZ x y h k w
  rw [decide_eq_false e] at this
  exact this
theorem neHT0 (x y : Operand) {h k : Hs} (e : h.v = k.v) (w : World) : (do eqGuard .neq 38 x y h.val k.val; binOp .neq 38 h.val k.val : Sem Value).run Tryd.prog w = .ok (.bool false) w := by
  have := neHZ x y h k w
  rw [decide_eq_true e] at this
  exact this
theorem sub1I20 (x y : Operand) (n : Nat) (h : n ≤ 1000) (w : World) : (do eqGuard .sub 3 x y (.int .i64 (n : Int)) (.int .i64 1); binOp .sub 3 (.int .i64 (n : Int)) (.int .i64 1) : Sem Value).run Tryd.prog w = .ok (.int .i64 ((n : Int) - 1)) w := by
  have hwr : IntKind.i64.wrap ((n : Int) - 1) = (n : Int) - 1 := by rw [IntKind.wrap_i64]; omega
  go_simp
theorem ex_max20 {o : Oper} {ρ : Operand → Value} {j : Nat} {n : Nat} {w : World} (ho : o.op = .call { callee := .builtin .max, args := #[.const (.int .i64 0), .tmp j], argTypes := #[3, 3] }) (ht : o.type = 3) (hc : ρ (.const (.int .i64 0)) = .int .i64 0) (hy : ρ (.tmp j) = .int .i64 ((n : Int) - 1)) : (execOp ρ o).run Tryd.prog w = .ok (.value (.int .i64 ((n - 1 : Nat) : Int))) w := by
  unfold execOp
  simp only [ho]
  rw [Sem.run_bind]
  simp only [resolve, List.map_toArray, List.map_cons, List.map_nil, hc, hy, ht]
  by_cases h : 1 ≤ n
  · obtain ⟨m, rfl⟩ : ∃ m, n = m + 1 := ⟨n - 1, by omega⟩
    have e : ((m + 1 : Nat) : Int) - 1 = (m : Int) := by omega
    rw [e, Nat.add_sub_cancel]
    by_cases h0 : m = 0
    · subst h0
      have h2 : ¬ (0 : Int) < 0 := by omega
      go_simp
      first | done | (simp; done) | (simp; omega)
    · have h2 : (0 : Int) < (m : Int) := by omega
      have h3 : ¬ (m : Int) < 0 := by omega
      go_simp
      first | done | (simp; omega)
  · obtain rfl : n = 0 := by omega
    have e : ((0 : Nat) : Int) - 1 = -1 := by omega
    rw [e]
    have h2 : ¬ (0 : Int) < -1 := by omega
    have h3 : (-1 : Int) < 0 := by omega
    go_simp
    first | done | (simp; done) | (simp; omega)
def Rws (K : List (SV Hs)) (S : Nat) : Prop := (∀ (i : Nat) (y : SV Hs) (b : Nat), K[i]? = some y → y.v.ownBlock = some b → b < S) ∧ ∀ (i j : Nat) (x y : SV Hs) (b : Nat), K[i]? = some x → K[j]? = some y → x.v.ownBlock = some b → y.v.ownBlock = some b → i = j
theorem Rws.nil (S : Nat) : Rws [] S := ⟨fun i y b h => by simp at h, fun i j x y b h => by simp at h⟩
theorem Rws.up {K : List (SV Hs)} {S S2 : Nat} (h : Rws K S) (hS : S ≤ S2) : Rws K S2 := ⟨fun i y b h1 h2 => Nat.lt_of_lt_of_le (h.1 i y b h1 h2) hS, h.2⟩
theorem Rws.push {K : List (SV Hs)} {S S2 : Nat} {x : SV Hs} (h : Rws K S) (hS : S ≤ S2) (hx : ∀ b, x.v.ownBlock = some b → S ≤ b ∧ b < S2) : Rws (K ++ [x]) S2 := by
  have one : ∀ (i : Nat) (y : SV Hs), (K ++ [x])[i]? = some y → (i < K.length ∧ K[i]? = some y) ∨ (i = K.length ∧ y = x) := fun i y hy => by
    by_cases hi : i < K.length
    · rw [List.getElem?_append_left hi] at hy
      exact .inl ⟨hi, hy⟩
    · rw [List.getElem?_append_right (by omega)] at hy
      have h0 : i - K.length < 1 := (List.getElem?_eq_some_iff.1 hy).1
      rw [show i - K.length = 0 by omega] at hy
      cases hy
      exact .inr ⟨by omega, rfl⟩
  refine ⟨fun i y b h1 h2 => ?_, fun i j y z b h1 h2 e1 e2 => ?_⟩
  · rcases one i y h1 with ⟨_, h3⟩ | ⟨_, rfl⟩
    · exact Nat.lt_of_lt_of_le (h.1 i y b h3 h2) hS
    · exact (hx b h2).2
  · rcases one i y h1 with ⟨g1, h3⟩ | ⟨g1, rfl⟩
    · rcases one j z h2 with ⟨g2, h4⟩ | ⟨g2, rfl⟩
      · exact h.2 i j y z b h3 h4 e1 e2
      · have := h.1 i y b h3 e1
        have := (hx b e2).1
        omega
    · rcases one j z h2 with ⟨g2, h4⟩ | ⟨g2, rfl⟩
      · have := h.1 j z b h4 e2
        have := (hx b e1).1
        omega
      · omega
theorem own_push {B : Nat} {w : World} {K : List (SV Hs)} {x : SV Hs} (h : ∀ (i : Nat) (y : SV Hs), K[i]? = some y → OwnY yH B w y.v y.D) (hx : OwnY yH B w x.v x.D) : ∀ (i : Nat) (y : SV Hs), (K ++ [x])[i]? = some y → OwnY yH B w y.v y.D := fun i y hy => by
  by_cases hi : i < K.length
  · rw [List.getElem?_append_left hi] at hy
    exact h i y hy
  · rw [List.getElem?_append_right (by omega)] at hy
    have h0 : i - K.length < 1 := (List.getElem?_eq_some_iff.1 hy).1
    rw [show i - K.length = 0 by omega] at hy
    cases hy
    exact hx
theorem four_of {A C A1 C1 : List Hs} {K : List (SV Hs)} (h : K.map SV.D = [A, C, A, C, A1, C1, A, C, A, C, A, C]) {j : Nat} (hj : j < 4) {x y : SV Hs} (hx : K[j]? = some x) (hy : K[8 + j]? = some y) : x.D = y.D := by
  have h1 : (K.map SV.D)[j]? = some x.D := by rw [List.getElem?_map, hx]; rfl
  have h2 : (K.map SV.D)[8 + j]? = some y.D := by rw [List.getElem?_map, hy]; rfl
  rw [h] at h1 h2
  rcases (by omega : j = 0 ∨ j = 1 ∨ j = 2 ∨ j = 3) with rfl | rfl | rfl | rfl <;> (simp at h1 h2; rw [← h1, ← h2])
def LieAt {α : Type} (Y : Lay α) (w : World) (q o : Nat) (l : List α) : Prop := q < w.heap.size ∧ LieY Y w q o l
theorem LieAt.later {α : Type} {Y : Lay α} {w w' : World} {q o : Nat} {l : List α} (h : LieAt Y w q o l) (hb : Below w.heap.size w w') : LieAt Y w' q o l := ⟨Nat.lt_of_lt_of_le h.1 hb.size, h.2.upd (S := fun _ => False) (Upd.of_below hb) h.1 id⟩
theorem LieY.at {α : Type} {Y : Lay α} {w w' : World} {q o : Nat} {l : List α} (h : LieY Y w q o l) (hq : q < w.heap.size) (hb : Below w.heap.size w w') : LieAt Y w' q o l := LieAt.later ⟨hq, h⟩ hb
theorem own_place {α : Type} {Y : Lay α} {B : Nat} {w : World} {a : Option Addr} {n c : Nat} {D : List α} (h : OwnY Y B w (.slice a n c) D) (hne : D ≠ []) : ∃ g, a = some ⟨g, 0, none⟩ ∧ B ≤ g ∧ g < w.heap.size := by
  obtain ⟨a2, c2, e, _, _, h3, h4⟩ := h.form
  injection e with e1 _ _
  subst e1
  cases a with
  | none => exact absurd (h3 rfl).1 hne
  | some z =>
    obtain ⟨g, rfl, h5, h6⟩ := h4 z rfl
    exact ⟨g, rfl, h5, h6⟩
theorem OwnY.lieAt {α : Type} {Y : Lay α} (K : Y.Ok) {B : Nat} {w : World} {g n c : Nat} {D : List α} (h : OwnY Y B w (.slice (some ⟨g, 0, none⟩) n c) D) : LieAt Y w g 0 D := by
  refine ⟨(h.blk g rfl).2, fun i y hy j u hu => ?_⟩
  rw [Nat.zero_add]
  exact h.cell K i y hy j u hu
end Go.Proofs.YteeofcoehffegaaDoor
