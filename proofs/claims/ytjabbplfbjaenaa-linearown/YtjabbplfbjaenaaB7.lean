import Derived.Test.YtjabbplfbjaenaaB6
set_option maxRecDepth 100000
set_option linter.unusedVariables false
set_option linter.unusedSimpArgs false
namespace Go.Proofs.Ytjabbplfbjaenaa
open Go.RowKit Go.Maps
open Classical
def RwB (K : List (SV Int)) (k : Nat) : Prop := ∃ (i : Nat) (x : SV Int), K[i]? = some x ∧ x.v.ownBlock = some k
set_option maxHeartbeats 2000000 in
theorem apartInts63 (K : List (SV Int)) (a : Option Addr) (c b B Bk : Nat) (w : World) (hbk : w.cell? ⟨b, 1, none⟩ = some (.slice a K.length c)) (hk : OwnY zN Bk w (.slice a K.length c) K) (hB : B ≤ w.heap.size) (own : ∀ (i : Nat) (x : SV Int), K[i]? = some x → OwnY yN B w x.v x.D) (dif : ∀ (i j : Nat) (x y : SV Int) (b : Nat), K[i]? = some x → K[j]? = some y → x.v.ownBlock = some b → y.v.ownBlock = some b → i = j) (hn : K.length ≤ 200) (hl : ∀ (i : Nat) (x : SV Int), K[i]? = some x → x.D.length ≤ 200) :
    Calls Try.prog 43 #[.pointer (some ⟨b, 0, none⟩)] w fun e w' => e = .returned (.bool true) ∧ Upd (RwB K) w w' := by
  go_enter Try.func43, Try.ntmps43
  go_upto_region 0 with fail
  refine wp_region_lit ?_
  refine vl_gen (fun T => Rp T 113 [(0, gw true (.pointer (some ⟨b, 0, none⟩)))]) ((Rp.nil rfl).cons rfl) (fun Z0 q0 => ?_)
  refine q0.t (.bool false) (ex_assign rfl rfl) fun _ q1 => ?_;clear q0
  refine wpList_nil ?_
  go_upto_region 1 with fail
  refine wp_region_lit ?_
  refine q1.t (.pointer (some ⟨b, 0, none⟩)) (ex_move rfl (q1.e (j := 0) rfl)) fun _ q2 => ?_;clear q1
  refine q2.t (.pointer (some ⟨b, 0, none⟩)) (ex_nil rfl (q2.e (j := 12) rfl)) fun _ q3 => ?_;clear q2
  refine q3.t (.pointer (some ⟨b, 1, none⟩)) (ex_fa rfl (q3.e (j := 13) rfl) (faBk63 _ _)) fun _ q4 => ?_;clear q3
  refine q4.t (.slice a K.length c) (ex_ld rfl (q4.e (j := 14) rfl) (ldNN hbk)) fun _ q5 => ?_;clear q4
  refine q5.t (.slice a K.length c) (ex_assign rfl (q5.e (j := 15) rfl)) fun _ q6 => ?_;clear q5
  refine wpList_nil ?_
  go_upto_region 2 with fail
  refine wp_region_lit ?_
  refine q6.t (.int .i64 ((0 : Nat) : Int)) (ex_assign rfl rfl) fun _ q7 => ?_;clear q6
  have q8 := (((Rp.nil q7.z).cons (q7.a 3 rfl)).cons (q7.a 4 rfl))
  clear q7
  refine wpList_nil ?_
  go_upto_region 3 with fail
  refine v_loop 4 K.length (fun j T wr => Rp T 113 [(4, gw true (.int .i64 ((j : Nat) : Int))), (3, gw true (.slice a K.length c))] ∧ Hid (OwnY zN Bk wr (.slice a K.length c) K ∧ (∀ (i : Nat) (x : SV Int), K[i]? = some x → OwnY yN B wr x.v (if i < j then mrk i x.D.length else x.D)) ∧ Upd (RwB K) w wr)) (fun j T w h => h.1.a 4 rfl) ⟨q8, hk, fun i x hx => by rw [if_neg (by omega)]; exact own i x hx, Upd.refl _ _⟩ ?_
  clear q8
  intro j T wr hj hh
  obtain ⟨q100, HJ⟩ := hh
  obtain ⟨okk, orw, dr⟩ := HJ.out
  clear HJ
  have zr := dr.size
  by_cases hit : j < K.length
  · obtain ⟨x, hx⟩ : ∃ x, K[j]? = some x := ⟨_, List.getElem?_eq_getElem (by omega)⟩
    have hlx := hl j x hx
    go_upto_region 3 with fail
    refine wp_region_lit ?_
    refine q100.t (.int .i64 ((j : Nat) : Int)) (ex_move rfl (q100.e (j := 4) rfl)) fun _ q101 => ?_;clear q100
    refine q101.t (.slice a K.length c) (ex_move rfl (q101.e (j := 3) rfl)) fun _ q102 => ?_;clear q101
    refine q102.t (.int .i64 ((K.length : Nat) : Int)) (ex_lenZ63 rfl rfl (q102.e (j := 17) rfl)) fun _ q103 => ?_;clear q102
    refine q103.t (.bool true) (ex_bin rfl (q103.e (j := 16) rfl) (q103.e (j := 18) rfl) (ltT _ _ hit _)) fun _ q104 => ?_;clear q103
    refine wpList_nil ?_
    go_upto_region 5 with fail
    refine wp_cond_true (q104.e (j := 19) rfl) ?_
    go_upto_region 5 with fail
    refine wp_region_lit ?_
    refine q104.t (.int .i64 ((0 : Nat) : Int)) (ex_assign rfl rfl) fun _ q105 => ?_;clear q104
    have q106 := ((((Rp.nil q105.z).cons (q105.a 3 rfl)).cons (q105.a 4 rfl)).cons (q105.a 5 rfl))
    clear q105
    refine wpList_nil ?_
    go_upto_region 6 with fail
    have or1 : ∀ (i : Nat) (y : SV Int), K[i]? = some y → OwnY yN B wr y.v (if i = j then mrk j 0 ++ x.D.drop 0 else if i < j then mrk i y.D.length else y.D) := fun i y hy => by
      have h3 := orw i y hy
      by_cases e : i = j
      · subst e
        rw [if_neg (Nat.lt_irrefl _)] at h3
        rw [hx] at hy
        cases hy
        rw [if_pos rfl]
        exact h3
      · rw [if_neg e]
        exact h3
    refine v_loop 5 x.D.length (fun k T ws => Rp T 113 [(5, gw true (.int .i64 ((k : Nat) : Int))), (4, gw true (.int .i64 ((j : Nat) : Int))), (3, gw true (.slice a K.length c))] ∧ Hid (OwnY zN Bk ws (.slice a K.length c) K ∧ (∀ (i : Nat) (y : SV Int), K[i]? = some y → OwnY yN B ws y.v (if i = j then mrk j k ++ x.D.drop k else if i < j then mrk i y.D.length else y.D)) ∧ Upd (RwB K) w ws)) (fun k T w h => h.1.a 5 rfl) ⟨q106, okk, or1, dr⟩ ?_
    clear q106 okk orw or1 dr
    intro k T ws hk2 hh2
    obtain ⟨q200, HJ⟩ := hh2
    obtain ⟨ok2, or2, d2⟩ := HJ.out
    clear HJ
    have z2 := d2.size
    by_cases hik : k < x.D.length
    · obtain ⟨qa, oa, hqa, hqal, hlie⟩ := (ok2.sl' kzN).place (by rintro rfl; simp at hx)
      obtain ⟨g, hga, hgb, hgB, hgs⟩ := sv_place (or2 j x hx) (by omega)
      go_upto_region 6 with fail
      refine wp_region_lit ?_
      refine q200.t (.int .i64 ((k : Nat) : Int)) (ex_move rfl (q200.e (j := 5) rfl)) fun _ q201 => ?_;clear q200
      refine q201.t (.slice a K.length c) (ex_move rfl (q201.e (j := 3) rfl)) fun _ q202 => ?_;clear q201
      refine q202.t (.int .i64 ((j : Nat) : Int)) (ex_move rfl (q202.e (j := 4) rfl)) fun _ q203 => ?_;clear q202
      refine q203.t (.pointer (some ⟨qa, oa + j, none⟩)) (ex_ix rfl (q203.e (j := 23) rfl) (q203.e (j := 24) rfl) (by rw [hqa]; exact ixNN qa oa K.length c j hit _)) fun _ q204 => ?_;clear q203
      refine q204.t (.slice x.a x.D.length x.c) (ex_ld rfl (q204.e (j := 25) rfl) (ldN63 hlie hx)) fun _ q205 => ?_;clear q204
      refine q205.t (.int .i64 ((x.D.length : Nat) : Int)) (ex_lenN18 rfl rfl (q205.e (j := 26) rfl)) fun _ q206 => ?_;clear q205
      refine q206.t (.bool true) (ex_bin rfl (q206.e (j := 22) rfl) (q206.e (j := 27) rfl) (ltT _ _ hik _)) fun _ q207 => ?_;clear q206
      refine wpList_nil ?_
      go_upto_region 8 with fail
      refine wp_cond_true (q207.e (j := 28) rfl) ?_
      go_upto_region 8 with fail
      have o20 := or2 j x hx
      rw [if_pos rfl] at o20
      refine vg_start (fun k => k == 9) (fun v => v = ws.drew) (by kernel_rfl) ?_
      have hd : Below ws.heap.size ws ws.drew := (Below.refl _ _).drew
      have hzd : ws.drew.heap.size = ws.heap.size := rfl
      generalize ws.drew = d at *
      have o2d := o20.grow hd
      have hlid : LieY zN d qa oa K := hlie.upd (S := fun _ => False) (Upd.of_below hd) hqal id
      refine vg_takeW 0 true (.slice a K.length c) rfl (by kernel_rfl) (by kernel_rfl) (by kernel_rfl) (by kernel_rfl) (want_none rfl) (fun hc v => ex_move rfl (q207.e (j := 3) rfl)) rfl q207.z (by decide) (fun _ => rfl) (q207.k fun _ q208 => ?_);clear q207
      refine vg_takeW 1 true (.int .i64 ((j : Nat) : Int)) rfl (by kernel_rfl) (by kernel_rfl) (by kernel_rfl) (by kernel_rfl) (want_none rfl) (fun hc v => ex_move rfl (q208.e (j := 4) rfl)) rfl q208.z (by decide) (fun _ => rfl) (q208.k fun _ q209 => ?_);clear q208
      refine vg_takeW 2 true (.pointer (some ⟨qa, oa + j, none⟩)) rfl (by kernel_rfl) (by kernel_rfl) (by kernel_rfl) (by kernel_rfl) (want_none rfl) (fun hc v => ex_ix rfl (q209.e (j := 31) rfl) (q209.e (j := 32) rfl) (by rw [hqa]; exact ixNN qa oa K.length c j hit _)) rfl q209.z (by decide) (fun _ => rfl) (q209.k fun _ q210 => ?_);clear q209
      refine vg_take 3 true (.slice x.a x.D.length x.c) rfl (by kernel_rfl) (by kernel_rfl) (by kernel_rfl) (by kernel_rfl) (by kernel_rfl) (by kernel_rfl) (want_none rfl) (fun hc v hv => by subst hv; exact ex_ld rfl (q210.e (j := 33) rfl) (ldN63 hlid hx)) rfl q210.z (by decide) rfl (q210.k fun _ q211 => ?_);clear q210
      refine vg_takeW 4 true (.int .i64 ((k : Nat) : Int)) rfl (by kernel_rfl) (by kernel_rfl) (by kernel_rfl) (by kernel_rfl) (want_none rfl) (fun hc v => ex_move rfl (q211.e (j := 5) rfl)) rfl q211.z (by decide) (fun _ => rfl) (q211.k fun _ q212 => ?_);clear q211
      refine vg_takeW 5 true (.int .i64 ((j : Nat) : Int)) rfl (by kernel_rfl) (by kernel_rfl) (by kernel_rfl) (by kernel_rfl) (want_none rfl) (fun hc v => ex_move rfl (q212.e (j := 4) rfl)) rfl q212.z (by decide) (fun _ => rfl) (q212.k fun _ q213 => ?_);clear q212
      refine vg_takeW 6 true (.int .i64 ((k : Nat) : Int)) rfl (by kernel_rfl) (by kernel_rfl) (by kernel_rfl) (by kernel_rfl) (want_none rfl) (fun hc v => ex_move rfl (q213.e (j := 5) rfl)) rfl q213.z (by decide) (fun _ => rfl) (q213.k fun _ q214 => ?_);clear q213
      refine vg_call 7 rfl (by kernel_rfl) (want_none rfl) (ex_call rfl (by simp only [List.map_toArray, List.map_cons, List.map_nil, (q214.e (j := 36) rfl), (q214.e (j := 37) rfl), evc] <;> rfl) rfl) (markint63 j k (by omega) (by omega) d) rfl q214.z (by decide) ?_
      rintro e w9 ⟨rfl, hw9⟩
      have hw9 := hw9.symm
      subst hw9
      refine ⟨_, rfl, rfl, q214.k fun _ q215 => ?_⟩;clear q214
      refine vg_takeW 8 true (.pointer (some ⟨g, k, none⟩)) rfl (by kernel_rfl) (by kernel_rfl) (by kernel_rfl) (by kernel_rfl) (want_none rfl) (fun hc v => ex_ix rfl (q215.e (j := 34) rfl) (q215.e (j := 35) rfl) (by rw [hga]; have := ixN18 g 0 x.D.length x.c k hik v; rw [Nat.zero_add] at this; exact this)) rfl q215.z (by decide) (fun _ => rfl) (q215.k fun _ q216 => ?_);clear q215
      have og : OwnY yN B d (.slice (some ⟨g, 0, none⟩) x.D.length x.c) (mrk j k ++ x.D.drop k) := by
        have h3 := o2d
        unfold SV.v at h3
        rw [hga] at h3
        exact h3
      obtain ⟨w2, hst, o2, u2, y2⟩ := run_stN63 d B g x.D.length x.c (mrk j k ++ x.D.drop k) k (mkJ63 j k) (by rw [List.length_append, mrk_len, List.length_drop]; omega) og
      refine vg_store 9 w2 rfl (by kernel_rfl) (by kernel_rfl) (want_none rfl) (ex_st rfl (q216.e (j := 39) rfl) (q216.e (j := 38) rfl) hst) rfl ?_
      refine vg_done (by kernel_rfl) ?_
      rw [mrk_set hik] at o2
      have ok3 : OwnY zN Bk w2 (.slice a K.length c) K := (ok2.grow hd).upd1 u2 (fun b hb e => OwnY.apart (or2 j x hx) ok2 hN_NN g hgb (by rw [← e]; exact hb))
      have or3 : ∀ (i : Nat) (y : SV Int), K[i]? = some y → OwnY yN B w2 y.v (if i = j then mrk j (k + 1) ++ x.D.drop (k + 1) else if i < j then mrk i y.D.length else y.D) := fun i y hy => by
        by_cases e : i = j
        · subst e
          rw [hx] at hy
          cases hy
          rw [if_pos rfl]
          unfold SV.v
          rw [hga]
          exact o2
        · have h3 := or2 i y hy
          rw [if_neg e] at h3 ⊢
          exact (h3.grow hd).upd1 u2 (fun b hb eb => e (dif i j y x g hy hx (by rw [← eb]; exact hb) hgb))
      have d3 : Upd (RwB K) w w2 := (d2.trans (Upd.of_below hd)).tr20 u2 (fun i _ hr => ⟨j, x, hx, by have e : i = g := hr; rw [e]; exact hgb⟩)
      clear ok2 or2 d2 og u2
      go_upto_region 7 with fail
      refine wp_region_lit ?_
      refine q216.t (.int .i64 ((k : Nat) : Int)) (ex_move rfl (q216.e (j := 5) rfl)) fun _ q217 => ?_;clear q216
      refine q217.t (.int .i64 ((k + 1 : Nat) : Int)) (ex_bin rfl (q217.e (j := 29) rfl) rfl (add1C _ _ k (by omega) _)) fun _ q218 => ?_;clear q217
      refine q218.t (.int .i64 ((k + 1 : Nat) : Int)) (ex_assign rfl (q218.e (j := 30) rfl)) fun _ q219 => ?_;clear q218
      have q220 := ((((Rp.nil q219.z).cons (q219.a 3 rfl)).cons (q219.a 4 rfl)).cons (q219.a 5 rfl))
      clear q219
      refine wpList_nil ?_
      exact ⟨_, rfl, hik, q220, ok3, or3, d3⟩
    · obtain rfl : k = x.D.length := by omega
      obtain ⟨qa, oa, hqa, hqal, hlie⟩ := (ok2.sl' kzN).place (by rintro rfl; simp at hx)
      go_upto_region 6 with fail
      refine wp_region_lit ?_
      refine q200.t (.int .i64 ((x.D.length : Nat) : Int)) (ex_move rfl (q200.e (j := 5) rfl)) fun _ q201 => ?_;clear q200
      refine q201.t (.slice a K.length c) (ex_move rfl (q201.e (j := 3) rfl)) fun _ q202 => ?_;clear q201
      refine q202.t (.int .i64 ((j : Nat) : Int)) (ex_move rfl (q202.e (j := 4) rfl)) fun _ q203 => ?_;clear q202
      refine q203.t (.pointer (some ⟨qa, oa + j, none⟩)) (ex_ix rfl (q203.e (j := 23) rfl) (q203.e (j := 24) rfl) (by rw [hqa]; exact ixNN qa oa K.length c j hit _)) fun _ q204 => ?_;clear q203
      refine q204.t (.slice x.a x.D.length x.c) (ex_ld rfl (q204.e (j := 25) rfl) (ldN63 hlie hx)) fun _ q205 => ?_;clear q204
      refine q205.t (.int .i64 ((x.D.length : Nat) : Int)) (ex_lenN18 rfl rfl (q205.e (j := 26) rfl)) fun _ q206 => ?_;clear q205
      refine q206.t (.bool false) (ex_bin rfl (q206.e (j := 22) rfl) (q206.e (j := 27) rfl) (ltF _ _ hik _)) fun _ q207 => ?_;clear q206
      refine wpList_nil ?_
      go_upto_region 4 with fail
      refine wp_cond_false (q207.e (j := 28) rfl) ?_
      have or4 : ∀ (i : Nat) (y : SV Int), K[i]? = some y → OwnY yN B ws y.v (if i < j + 1 then mrk i y.D.length else y.D) := fun i y hy => by
        have h3 := or2 i y hy
        by_cases e : i = j
        · subst e
          rw [hx] at hy
          cases hy
          rw [if_pos rfl, List.drop_length, List.append_nil] at h3
          rw [if_pos (by omega)]
          exact h3
        · rw [if_neg e] at h3
          by_cases e2 : i < j
          · rw [if_pos e2] at h3
            rw [if_pos (by omega)]
            exact h3
          · rw [if_neg e2] at h3
            rw [if_neg (by omega)]
            exact h3
      go_upto_region 4 with fail
      refine wp_region_lit ?_
      refine q207.t (.int .i64 ((j : Nat) : Int)) (ex_move rfl (q207.e (j := 4) rfl)) fun _ q208 => ?_;clear q207
      refine q208.t (.int .i64 ((j + 1 : Nat) : Int)) (ex_bin rfl (q208.e (j := 20) rfl) rfl (add1C _ _ j (by omega) _)) fun _ q209 => ?_;clear q208
      refine q209.t (.int .i64 ((j + 1 : Nat) : Int)) (ex_assign rfl (q209.e (j := 21) rfl)) fun _ q210 => ?_;clear q209
      have q211 := (((Rp.nil q210.z).cons (q210.a 3 rfl)).cons (q210.a 4 rfl))
      clear q210
      refine wpList_nil ?_
      exact ⟨_, rfl, hit, q211, ok2, or4, d2⟩
  · obtain rfl : j = K.length := by omega
    have orr : ∀ (i : Nat) (x : SV Int), K[i]? = some x → OwnY yN B wr x.v (mrk i x.D.length) := fun i x hx => by
      have h3 := orw i x hx
      rw [if_pos (List.getElem?_eq_some_iff.1 hx).1] at h3
      exact h3
    clear orw
    go_upto_region 3 with fail
    refine wp_region_lit ?_
    refine q100.t (.int .i64 ((K.length : Nat) : Int)) (ex_move rfl (q100.e (j := 4) rfl)) fun _ q101 => ?_;clear q100
    refine q101.t (.slice a K.length c) (ex_move rfl (q101.e (j := 3) rfl)) fun _ q102 => ?_;clear q101
    refine q102.t (.int .i64 ((K.length : Nat) : Int)) (ex_lenZ63 rfl rfl (q102.e (j := 17) rfl)) fun _ q103 => ?_;clear q102
    refine q103.t (.bool false) (ex_bin rfl (q103.e (j := 16) rfl) (q103.e (j := 18) rfl) (ltF _ _ hit _)) fun _ q104 => ?_;clear q103
    refine wpList_nil ?_
    go_upto_region 9 with fail
    refine wp_cond_false (q104.e (j := 19) rfl) ?_
    go_upto_region 9 with fail
    refine wp_region_lit ?_
    refine q104.t (.slice none 0 0) (ex_assign rfl rfl) fun _ q105 => ?_;clear q104
    refine wpList_nil ?_
    go_upto_region 10 with fail
    refine wp_region_lit ?_
    refine q105.t (.int .i64 ((0 : Nat) : Int)) (ex_assign rfl rfl) fun _ q106 => ?_;clear q105
    have q107 := ((((Rp.nil q106.z).cons (q106.a 3 rfl)).cons (q106.a 6 rfl)).cons (q106.a 7 rfl))
    clear q106
    refine wpList_nil ?_
    go_upto_region 11 with fail
    refine v_loop 7 K.length (fun j T wt => ∃ (gv : Value) (G : List (SV Int)), Rp T 113 [(7, gw true (.int .i64 ((j : Nat) : Int))), (6, gw true (gv)), (3, gw true (.slice a K.length c))] ∧ Hid (OwnY zN Bk wt (.slice a K.length c) K ∧ OwnY zN w.heap.size wt gv G ∧ G.length = j ∧ (∀ (i : Nat) (x : SV Int), K[i]? = some x → j ≤ i → OwnY yN B wt x.v (mrk i x.D.length)) ∧ (∀ (i : Nat) (x g : SV Int), K[i]? = some x → G[i]? = some g → g.D = mrk i (x.D.length + 70) ∧ OwnY yN B wt g.v g.D ∧ SlY yN wt x.a x.D.length x.c (mrk i x.D.length)) ∧ (∀ (i i2 : Nat) (g x : SV Int) (b : Nat), G[i]? = some g → K[i2]? = some x → j ≤ i2 → g.v.ownBlock = some b → x.v.ownBlock = some b → False) ∧ Upd (RwB K) w wt ∧ w.heap.size ≤ wt.heap.size)) (fun j T w h => by obtain ⟨_, _, h, _⟩ := h; exact h.a 7 rfl) ⟨_, [], q107, okk, OwnY.nil _ _ _, rfl, fun i x hx _ => orr i x hx, fun i x g _ hg => by simp at hg, fun i i2 g x b hg => by simp at hg, dr, zr⟩ ?_
    clear q107 okk orr
    intro j T wt hj hh
    obtain ⟨gv, G, q300, HJ⟩ := hh
    obtain ⟨okt, ogt, hGl, ort, gst, sep, dt, zt⟩ := HJ.out
    clear HJ
    by_cases hit2 : j < K.length
    · obtain ⟨x, hx⟩ : ∃ x, K[j]? = some x := ⟨_, List.getElem?_eq_getElem (by omega)⟩
      have hlx := hl j x hx
      have ox := ort j x hx (Nat.le_refl _)
      have hxb : ∀ b, x.v.ownBlock = some b → b < wt.heap.size := fun b hb => (ox.blk b hb).2
      have hxa : ∀ z, x.a = some z → ∃ g, z = ⟨g, 0, none⟩ := fun z hz => by
        obtain ⟨a9, c9, e9, _, _, _, h9⟩ := ox.form
        injection e9 with e91 _ _
        obtain ⟨g9, hg9, _⟩ := h9 z (by rw [← e91]; exact hz)
        exact ⟨g9, hg9⟩
      obtain ⟨qa, oa, hqa, hqal, hlie⟩ := (okt.sl' kzN).place (by rintro rfl; simp at hx)
      go_upto_region 11 with fail
      refine wp_region_lit ?_
      refine q300.t (.int .i64 ((j : Nat) : Int)) (ex_move rfl (q300.e (j := 7) rfl)) fun _ q301 => ?_;clear q300
      refine q301.t (.slice a K.length c) (ex_move rfl (q301.e (j := 3) rfl)) fun _ q302 => ?_;clear q301
      refine q302.t (.int .i64 ((K.length : Nat) : Int)) (ex_lenZ63 rfl rfl (q302.e (j := 41) rfl)) fun _ q303 => ?_;clear q302
      refine q303.t (.bool true) (ex_bin rfl (q303.e (j := 40) rfl) (q303.e (j := 42) rfl) (ltT _ _ hit2 _)) fun _ q304 => ?_;clear q303
      refine wpList_nil ?_
      go_upto_region 13 with fail
      refine wp_cond_true (q304.e (j := 43) rfl) ?_
      go_upto_region 13 with fail
      refine wp_region_lit ?_
      refine q304.t (.slice a K.length c) (ex_move rfl (q304.e (j := 3) rfl)) fun _ q305 => ?_;clear q304
      refine q305.t (.int .i64 ((j : Nat) : Int)) (ex_move rfl (q305.e (j := 7) rfl)) fun _ q306 => ?_;clear q305
      refine q306.t (.pointer (some ⟨qa, oa + j, none⟩)) (ex_ix rfl (q306.e (j := 46) rfl) (q306.e (j := 47) rfl) (by rw [hqa]; exact ixNN qa oa K.length c j hit2 _)) fun _ q307 => ?_;clear q306
      refine q307.t (.slice x.a x.D.length x.c) (ex_ld rfl (q307.e (j := 48) rfl) (ldN63 hlie hx)) fun _ q308 => ?_;clear q307
      refine q308.t (.slice x.a x.D.length x.c) (ex_assign rfl (q308.e (j := 49) rfl)) fun _ q309 => ?_;clear q308
      refine wpList_nil ?_
      go_upto_region 14 with fail
      refine wp_region_lit ?_
      refine q309.t (.int .i64 ((0 : Nat) : Int)) (ex_assign rfl rfl) fun _ q310 => ?_;clear q309
      have q311 := ((((((Rp.nil q310.z).cons (q310.a 3 rfl)).cons (q310.a 6 rfl)).cons (q310.a 7 rfl)).cons (q310.a 8 rfl)).cons (q310.a 9 rfl))
      clear q310
      refine wpList_nil ?_
      go_upto_region 15 with fail
      refine v_loop 9 70 (fun k T ws => ∃ vv : Value, Rp T 113 [(9, gw true (.int .i64 ((k : Nat) : Int))), (8, gw true (vv)), (7, gw true (.int .i64 ((j : Nat) : Int))), (6, gw true (gv)), (3, gw true (.slice a K.length c))] ∧ Hid (OwnY yN B ws vv (mrk j (x.D.length + k)) ∧ SlY yN ws x.a x.D.length x.c (mrk j x.D.length) ∧ (vv.ownBlock = x.v.ownBlock ∨ ∀ b, vv.ownBlock = some b → wt.heap.size ≤ b) ∧ Upd (fun b => x.v.ownBlock = some b) wt ws)) (fun k T w h => by obtain ⟨_, h, _⟩ := h; exact h.a 9 rfl) ⟨_, q311, ox, (show OwnY yN B wt (.slice x.a x.D.length x.c) _ from ox).sl' kN, .inl rfl, Upd.refl _ _⟩ ?_
      clear q311
      intro k T ws hk3 hh3
      obtain ⟨vv, q400, HJ⟩ := hh3
      obtain ⟨oV, sV, hV, uV⟩ := HJ.out
      clear HJ
      have zs := uV.size
      obtain ⟨av, cv, hvv, hcv, hcm, hcz, hcb⟩ := oV.form
      by_cases hik : k < 70
      · rw [mrk_len] at hvv
        subst hvv
        go_upto_region 15 with fail
        refine wp_region_lit ?_
        refine q400.t (.int .i64 ((k : Nat) : Int)) (ex_move rfl (q400.e (j := 9) rfl)) fun _ q401 => ?_;clear q400
        refine q401.t (.bool true) (ex_bin (Y := .int .i64 ((70 : Nat) : Int)) rfl (q401.e (j := 50) rfl) rfl (ltT _ _ hik _)) fun _ q402 => ?_;clear q401
        refine wpList_nil ?_
        go_upto_region 17 with fail
        refine wp_cond_true (q402.e (j := 51) rfl) ?_
        go_upto_region 17 with fail
        refine wp_region_lit ?_
        refine q402.t (.slice av (x.D.length + k) cv) (ex_move rfl (q402.e (j := 8) rfl)) fun _ q403 => ?_;clear q402
        refine q403.t (.int .i64 ((j : Nat) : Int)) (ex_move rfl (q403.e (j := 7) rfl)) fun _ q404 => ?_;clear q403
        refine q404.t (.slice av (x.D.length + k) cv) (ex_move rfl (q404.e (j := 8) rfl)) fun _ q405 => ?_;clear q404
        refine q405.t (.int .i64 ((x.D.length + k : Nat) : Int)) (ex_lenN18 rfl rfl (q405.e (j := 56) rfl)) fun _ q406 => ?_;clear q405
        refine vcallP (want_none rfl) (ex_call rfl (by simp only [List.map_toArray, List.map_cons, List.map_nil, (q406.e (j := 55) rfl), (q406.e (j := 57) rfl), evc] <;> rfl) rfl) (markint63 j (x.D.length + k) (by omega) (by omega) ws) rfl q406.z (by decide) ?_
        rintro e w9 ⟨rfl, hw9⟩
        refine ⟨_, rfl, q406.k fun _ q407 => ?_⟩;clear q406
        have hw9 := hw9.symm
        subst hw9
        obtain ⟨r1, hr1⟩ : ∃ y, y = ws.alloc (.cells (yN.cs (mkJ63 j (x.D.length + k))).toArray 3) := ⟨_, rfl⟩
        refine vw (.slice (some ⟨ws.heap.size, 0, none⟩) 1 1) r1 (want_none rfl) (ex_bs18 rfl (q407.e (j := 58) rfl) (by rw [hr1]; exact bsI63 _ _)) rfl q407.z (by decide) (q407.k fun _ q408 => ?_);clear q407
        have s1 : SlY yN r1 (some ⟨ws.heap.size, 0, none⟩) 1 1 [mkJ63 j (x.D.length + k)] := by rw [hr1]; exact sl_box (Y := yN) ws (mkJ63 j (x.D.length + k)) 3
        have b1 : Below ws.heap.size ws r1 := by rw [hr1]; exact (Below.refl _ _).alloc (Nat.le_refl _) _
        clear hr1
        have y1 := b1.size
        have hBw : B ≤ wt.heap.size := by have := dt.size; omega
        obtain ⟨v2, r2, ha2, o2, g2, h42⟩ := run_appZ kN r1 35 B (mrk j (x.D.length + k)) (.slice av (x.D.length + k) cv) _ 1 1 [mkJ63 j (x.D.length + k)] s1 (oV.grow b1) (by omega) (by rw [mrk_len]; unfold maxLen; omega) (by rw [mrk_len]; show (x.D.length + k + 1) * 8 ≤ _; omega)
        rw [mrk_succ] at o2
        obtain ⟨F, hF⟩ := mrk_pre j x.D.length (k + 1)
        have kz := keepZ (S0 := wt.heap.size) (F := F) hxb hxa (sV.later b1) hV g2 (by rw [← hF]; exact o2) h42 (by omega)
        have u3 : Upd (fun b => x.v.ownBlock = some b) wt r2 := (uV.trans (Upd.of_below b1)).tr20 (gupd63 g2) (fun i hi hr => by
          rcases hV with e | e
          · rw [← e]; exact hr
          · have := e i hr; omega)
        clear oV sV hV uV s1 b1 h42 hF
        refine vw (v2) r2 (want_none rfl) (ex_app18 rfl (q408.e (j := 54) rfl) (q408.e (j := 59) rfl) ha2) rfl q408.z (by decide) (q408.k fun _ q409 => ?_);clear q408
        refine q409.t (v2) (ex_assign rfl (q409.e (j := 60) rfl)) fun _ q410 => ?_;clear q409
        refine wpList_nil ?_
        go_upto_region 16 with fail
        refine wp_region_lit ?_
        refine q410.t (.int .i64 ((k : Nat) : Int)) (ex_move rfl (q410.e (j := 9) rfl)) fun _ q411 => ?_;clear q410
        refine q411.t (.int .i64 ((k + 1 : Nat) : Int)) (ex_bin rfl (q411.e (j := 52) rfl) rfl (add1C _ _ k (by omega) _)) fun _ q412 => ?_;clear q411
        refine q412.t (.int .i64 ((k + 1 : Nat) : Int)) (ex_assign rfl (q412.e (j := 53) rfl)) fun _ q413 => ?_;clear q412
        have q414 := ((((((Rp.nil q413.z).cons (q413.a 3 rfl)).cons (q413.a 6 rfl)).cons (q413.a 7 rfl)).cons (q413.a 8 rfl)).cons (q413.a 9 rfl))
        clear q413
        refine wpList_nil ?_
        exact ⟨_, rfl, hik, v2, q414, o2, kz.1, kz.2, u3⟩
      · obtain rfl : k = 70 := by omega
        obtain ⟨g, hg⟩ : ∃ g : SV Int, g = ⟨av, cv, mrk j (x.D.length + 70)⟩ := ⟨_, rfl⟩
        have hgD : g.D = mrk j (x.D.length + 70) := by rw [hg]
        have hvg : vv = .slice g.a g.D.length g.c := by rw [hvv, hg]
        clear hg hvv hcz hcb
        subst hvg
        have oG : OwnY yN B ws g.v g.D := by rw [hgD]; exact oV
        have hVg : g.v.ownBlock = x.v.ownBlock ∨ ∀ b, g.v.ownBlock = some b → wt.heap.size ≤ b := hV
        clear hV oV
        have okK : OwnY zN Bk ws (.slice a K.length c) K := okt.upd1 uV (fun b hb e => OwnY.apart ox okt hN_NN b e hb)
        have oGv : OwnY zN w.heap.size ws gv G := ogt.upd1 uV (fun b hb e => OwnY.apart ox ogt hN_NN b e hb)
        have ors : ∀ (i : Nat) (y : SV Int), K[i]? = some y → j + 1 ≤ i → OwnY yN B ws y.v (mrk i y.D.length) := fun i y hy hi => (ort i y hy (by omega)).upd1 uV (fun b hb e => by have := dif i j y x b hy hx hb e; omega)
        have gss : ∀ (i : Nat) (y g1 : SV Int), K[i]? = some y → G[i]? = some g1 → g1.D = mrk i (y.D.length + 70) ∧ OwnY yN B ws g1.v g1.D ∧ SlY yN ws y.a y.D.length y.c (mrk i y.D.length) := fun i y g1 hy hg1 => by
          have hij := (List.getElem?_eq_some_iff.1 hg1).1
          obtain ⟨h1, h2, h3⟩ := gst i y g1 hy hg1
          refine ⟨h1, h2.upd1 uV (fun b hb e => sep i j g1 x b hg1 hx (Nat.le_refl _) hb e), h3.upd uV (fun z hz _ e => ?_)⟩
          have e2 := (sv_blk (own i y hy) hz).1
          have := dif i j y x z.block hy hx e2 e
          omega
        clear ort gst okt ogt
        go_upto_region 15 with fail
        refine wp_region_lit ?_
        refine q400.t (.int .i64 ((70 : Nat) : Int)) (ex_move rfl (q400.e (j := 9) rfl)) fun _ q401 => ?_;clear q400
        refine q401.t (.bool false) (ex_bin (Y := .int .i64 ((70 : Nat) : Int)) rfl (q401.e (j := 50) rfl) rfl (ltF _ _ (by omega) _)) fun _ q402 => ?_;clear q401
        refine wpList_nil ?_
        go_upto_region 18 with fail
        refine wp_cond_false (q402.e (j := 51) rfl) ?_
        go_upto_region 18 with fail
        refine wp_region_lit ?_
        refine q402.t (gv) (ex_move rfl (q402.e (j := 6) rfl)) fun _ q403 => ?_;clear q402
        refine q403.t (.slice g.a g.D.length g.c) (ex_move rfl (q403.e (j := 8) rfl)) fun _ q404 => ?_;clear q403
        obtain ⟨r1, hr1⟩ : ∃ y, y = ws.alloc (.cells (zN.cs g).toArray 35) := ⟨_, rfl⟩
        refine vw (.slice (some ⟨ws.heap.size, 0, none⟩) 1 1) r1 (want_none rfl) (ex_bs18 rfl (q404.e (j := 62) rfl) (by rw [hr1]; exact bsZ63 _ _)) rfl q404.z (by decide) (q404.k fun _ q405 => ?_);clear q404
        have s1 : SlY zN r1 (some ⟨ws.heap.size, 0, none⟩) 1 1 [g] := by rw [hr1]; exact sl_box (Y := zN) ws g 35
        have b1 : Below ws.heap.size ws r1 := by rw [hr1]; exact (Below.refl _ _).alloc (Nat.le_refl _) _
        clear hr1
        have y1 := b1.size
        obtain ⟨v2, r2, ha2, o2, g2, h42⟩ := run_appY kzN r1 57 w.heap.size G gv _ 1 1 [g] s1 (oGv.grow b1) (by omega) (by unfold maxLen; omega) (by show (G.length + 1) * 24 ≤ _; omega)
        have u2 := gupd63 g2
        have y2 := u2.size
        have ok3 : OwnY zN Bk r2 (.slice a K.length c) K := (okK.grow b1).upd1 u2 (fun b hb e => by have := (hk.blk b hb).2; have := (oGv.blk b e).1; omega)
        have or3 : ∀ (i : Nat) (y : SV Int), K[i]? = some y → j + 1 ≤ i → OwnY yN B r2 y.v (mrk i y.D.length) := fun i y hy hi => ((ors i y hy hi).grow b1).upd1 u2 (fun b hb e => OwnY.apart ((ors i y hy hi).grow b1) (oGv.grow b1) hN_NN b hb e)
        have hlow : ∀ b, gv.ownBlock = some b → w.heap.size ≤ b := fun b e => (oGv.blk b e).1
        have gs3 : ∀ (i : Nat) (y g1 : SV Int), K[i]? = some y → (G ++ [g])[i]? = some g1 → g1.D = mrk i (y.D.length + 70) ∧ OwnY yN B r2 g1.v g1.D ∧ SlY yN r2 y.a y.D.length y.c (mrk i y.D.length) := fun i y g1 hy hg1 => by
          have h5 : g1.D = mrk i (y.D.length + 70) ∧ OwnY yN B ws g1.v g1.D ∧ SlY yN ws y.a y.D.length y.c (mrk i y.D.length) := by
            by_cases hi : i < G.length
            · rw [List.getElem?_append_left hi] at hg1
              exact gss i y g1 hy hg1
            · rw [List.getElem?_append_right (by omega)] at hg1
              have h0 := (List.getElem?_eq_some_iff.1 hg1).1
              have h0 : i - G.length < 1 := h0
              obtain rfl : i = j := by omega
              rw [show i - G.length = 0 by omega] at hg1
              cases hg1
              rw [hx] at hy
              cases hy
              exact ⟨hgD, oG, sV⟩
          obtain ⟨h1, h2, h3⟩ := h5
          refine ⟨h1, (h2.grow b1).upd1 u2 (fun b hb e => OwnY.apart (h2.grow b1) (oGv.grow b1) hN_NN b hb e), (h3.later b1).upd u2 (fun z hz _ e => ?_)⟩
          have e6 := hlow z.block e
          have e7 := (sv_blk (own i y hy) hz).2
          omega
        have sp3 : ∀ (i i2 : Nat) (g1 y : SV Int) (b : Nat), (G ++ [g])[i]? = some g1 → K[i2]? = some y → j + 1 ≤ i2 → g1.v.ownBlock = some b → y.v.ownBlock = some b → False := fun i i2 g1 y b hg1 hy hi2 e1 e2 => by
          by_cases hi : i < G.length
          · rw [List.getElem?_append_left hi] at hg1
            exact sep i i2 g1 y b hg1 hy (by omega) e1 e2
          · rw [List.getElem?_append_right (by omega)] at hg1
            have h0 := (List.getElem?_eq_some_iff.1 hg1).1
            have h0 : i - G.length < 1 := h0
            rw [show i - G.length = 0 by omega] at hg1
            cases hg1
            rcases hVg with e | e
            · have := dif j i2 x y b hx hy (by rw [← e]; exact e1) e2
              omega
            · have h7 := e b e1
              have h8 := ((own i2 y hy).blk b e2).2
              omega
        have d3 : Upd (RwB K) w r2 := ((dt.tr20 uV (fun k _ hk => ⟨j, x, hx, hk⟩)).trans (Upd.of_below b1)).tr20 u2 (fun k hk hr => by have := hlow k hr; omega)
        refine vw (v2) r2 (want_none rfl) (ex_app18 rfl (q405.e (j := 61) rfl) (q405.e (j := 63) rfl) ha2) rfl q405.z (by decide) (q405.k fun _ q406 => ?_);clear q405
        refine q406.t (v2) (ex_assign rfl (q406.e (j := 64) rfl)) fun _ q407 => ?_;clear q406
        refine wpList_nil ?_
        go_upto_region 12 with fail
        refine wp_region_lit ?_
        refine q407.t (.int .i64 ((j : Nat) : Int)) (ex_move rfl (q407.e (j := 7) rfl)) fun _ q408 => ?_;clear q407
        refine q408.t (.int .i64 ((j + 1 : Nat) : Int)) (ex_bin rfl (q408.e (j := 44) rfl) rfl (add1C _ _ j (by omega) _)) fun _ q409 => ?_;clear q408
        refine q409.t (.int .i64 ((j + 1 : Nat) : Int)) (ex_assign rfl (q409.e (j := 45) rfl)) fun _ q410 => ?_;clear q409
        have q411 := ((((Rp.nil q410.z).cons (q410.a 3 rfl)).cons (q410.a 6 rfl)).cons (q410.a 7 rfl))
        clear q410
        refine wpList_nil ?_
        exact ⟨_, rfl, hit2, v2, G ++ [g], q411, ok3, o2, by rw [List.length_append, hGl]; rfl, or3, gs3, sp3, d3, by omega⟩
    · obtain rfl : j = K.length := by omega
      obtain ⟨ag, cg, hgv, _, _, _, _⟩ := ogt.form
      subst hgv
      go_upto_region 11 with fail
      refine wp_region_lit ?_
      refine q300.t (.int .i64 ((K.length : Nat) : Int)) (ex_move rfl (q300.e (j := 7) rfl)) fun _ q301 => ?_;clear q300
      refine q301.t (.slice a K.length c) (ex_move rfl (q301.e (j := 3) rfl)) fun _ q302 => ?_;clear q301
      refine q302.t (.int .i64 ((K.length : Nat) : Int)) (ex_lenZ63 rfl rfl (q302.e (j := 41) rfl)) fun _ q303 => ?_;clear q302
      refine q303.t (.bool false) (ex_bin rfl (q303.e (j := 40) rfl) (q303.e (j := 42) rfl) (ltF _ _ hit2 _)) fun _ q304 => ?_;clear q303
      refine wpList_nil ?_
      go_upto_region 19 with fail
      refine wp_cond_false (q304.e (j := 43) rfl) ?_
      go_upto_region 19 with fail
      refine wp_region_lit ?_
      refine q304.t (.int .i64 ((0 : Nat) : Int)) (ex_assign rfl rfl) fun _ q305 => ?_;clear q304
      have q306 := ((((Rp.nil q305.z).cons (q305.a 3 rfl)).cons (q305.a 6 rfl)).cons (q305.a 10 rfl))
      clear q305
      refine wpList_nil ?_
      go_upto_region 20 with fail
      refine v_loop 10 K.length (fun i T wz => Rp T 113 [(10, gw true (.int .i64 ((i : Nat) : Int))), (6, gw true (.slice ag G.length cg)), (3, gw true (.slice a K.length c))] ∧ Hid (Below wt.heap.size wt wz)) (fun i T w h => h.1.a 10 rfl) ⟨q306, Below.refl _ _⟩ ?_
      clear q306
      intro i T wz hi hh4
      obtain ⟨q500, HJ⟩ := hh4
      have dz : Below wt.heap.size wt wz := HJ.out
      clear HJ
      by_cases hi3 : i < K.length
      · obtain ⟨x, hx⟩ : ∃ x, K[i]? = some x := ⟨_, List.getElem?_eq_getElem (by omega)⟩
        have hlx := hl i x hx
        obtain ⟨g, hg⟩ : ∃ g, G[i]? = some g := ⟨_, List.getElem?_eq_getElem (by omega)⟩
        obtain ⟨hgD, oG, sV⟩ := gst i x g hx hg
        have hgl : g.D.length = x.D.length + 70 := by rw [hgD, mrk_len]
        obtain ⟨qa, oa, hqa, hqal, hlie⟩ := (okt.sl' kzN).place (by rintro rfl; simp at hx)
        obtain ⟨qg, og, hqg, hqgl, hlig⟩ := (ogt.sl' kzN).place (by rintro rfl; simp at hg)
        have oG2 : OwnY yN B wt (.slice g.a g.D.length g.c) g.D := oG
        obtain ⟨qr, orr, hqr, hqrl, hlir⟩ := (oG2.sl' kN).place (by rintro e; rw [e] at hgl; simp at hgl)
        go_upto_region 20 with fail
        refine wp_region_lit ?_
        refine q500.t (.int .i64 ((i : Nat) : Int)) (ex_move rfl (q500.e (j := 10) rfl)) fun _ q501 => ?_;clear q500
        refine q501.t (.slice a K.length c) (ex_move rfl (q501.e (j := 3) rfl)) fun _ q502 => ?_;clear q501
        refine q502.t (.int .i64 ((K.length : Nat) : Int)) (ex_lenZ63 rfl rfl (q502.e (j := 66) rfl)) fun _ q503 => ?_;clear q502
        refine q503.t (.bool true) (ex_bin rfl (q503.e (j := 65) rfl) (q503.e (j := 67) rfl) (ltT _ _ hi3 _)) fun _ q504 => ?_;clear q503
        refine wpList_nil ?_
        go_upto_region 22 with fail
        refine wp_cond_true (q504.e (j := 68) rfl) ?_
        go_upto_region 22 with fail
        refine wp_region_lit ?_
        refine q504.t (.int .i64 ((0 : Nat) : Int)) (ex_assign rfl rfl) fun _ q505 => ?_;clear q504
        have q506 := (((((Rp.nil q505.z).cons (q505.a 3 rfl)).cons (q505.a 6 rfl)).cons (q505.a 10 rfl)).cons (q505.a 11 rfl))
        clear q505
        refine wpList_nil ?_
        go_upto_region 23 with fail
        refine v_loop 11 g.D.length (fun k T wy => Rp T 113 [(11, gw true (.int .i64 ((k : Nat) : Int))), (10, gw true (.int .i64 ((i : Nat) : Int))), (6, gw true (.slice ag G.length cg)), (3, gw true (.slice a K.length c))] ∧ Hid (Below wt.heap.size wt wy)) (fun k T w h => h.1.a 11 rfl) ⟨q506, dz⟩ ?_
        clear q506 dz
        intro k T wy hk4 hh5
        obtain ⟨q600, HJ⟩ := hh5
        have dy : Below wt.heap.size wt wy := HJ.out
        clear HJ
        have zy := dy.size
        have lig2 : LieY zN wy qg og G := hlig.upd (S := fun _ => False) (Upd.of_below dy) hqgl id
        by_cases hkg : k < g.D.length
        · go_upto_region 23 with fail
          refine wp_region_lit ?_
          refine q600.t (.int .i64 ((k : Nat) : Int)) (ex_move rfl (q600.e (j := 11) rfl)) fun _ q601 => ?_;clear q600
          refine q601.t (.slice ag G.length cg) (ex_move rfl (q601.e (j := 6) rfl)) fun _ q602 => ?_;clear q601
          refine q602.t (.int .i64 ((i : Nat) : Int)) (ex_move rfl (q602.e (j := 10) rfl)) fun _ q603 => ?_;clear q602
          refine q603.t (.pointer (some ⟨qg, og + i, none⟩)) (ex_ix rfl (q603.e (j := 72) rfl) (q603.e (j := 73) rfl) (by rw [hqg]; exact ixNN qg og G.length cg i (by omega) _)) fun _ q604 => ?_;clear q603
          refine q604.t (.slice g.a g.D.length g.c) (ex_ld rfl (q604.e (j := 74) rfl) (ldN63 lig2 hg)) fun _ q605 => ?_;clear q604
          refine q605.t (.int .i64 ((g.D.length : Nat) : Int)) (ex_lenN18 rfl rfl (q605.e (j := 75) rfl)) fun _ q606 => ?_;clear q605
          refine q606.t (.bool true) (ex_bin rfl (q606.e (j := 71) rfl) (q606.e (j := 76) rfl) (ltT _ _ hkg _)) fun _ q607 => ?_;clear q606
          refine wpList_nil ?_
          go_upto_region 25 with fail
          refine wp_cond_true (q607.e (j := 77) rfl) ?_
          have hgk : g.D[k]? = some (mkJ63 i k) := by rw [hgD]; exact mrk_get (by omega)
          by_cases hkl : k < x.D.length
          · go_upto_region 25 with fail
            refine vq_start (C := fun v => v = wy.drew) (by kernel_rfl) (by kernel_rfl) rfl ?_
            have hd : Below wy.heap.size wy wy.drew := (Below.refl _ _).drew
            have hzd : wy.drew.heap.size = wy.heap.size := rfl
            generalize wy.drew = d at *
            have dx : Below wt.heap.size wt d := dy.trans (hd.mono zy)
            have ligd : LieY zN d qg og G := hlig.upd (S := fun _ => False) (Upd.of_below dx) hqgl id
            have lird : LieY yN d qr orr g.D := hlir.upd (S := fun _ => False) (Upd.of_below dx) hqrl id
            have liad : LieY zN d qa oa K := hlie.upd (S := fun _ => False) (Upd.of_below dx) hqal id
            refine q607.q (.slice ag G.length cg) (fun v hv => by subst hv; exact ex_move rfl (q607.e (j := 6) rfl)) fun _ q608 => ?_;clear q607
            refine q608.q (.int .i64 ((i : Nat) : Int)) (fun v hv => by subst hv; exact ex_move rfl (q608.e (j := 10) rfl)) fun _ q609 => ?_;clear q608
            refine q609.q (.pointer (some ⟨qg, og + i, none⟩)) (fun v hv => by subst hv; exact ex_ix rfl (q609.e (j := 80) rfl) (q609.e (j := 81) rfl) (by rw [hqg]; exact ixNN qg og G.length cg i (by omega) _)) fun _ q610 => ?_;clear q609
            refine q610.q (.slice g.a g.D.length g.c) (fun v hv => by subst hv; exact ex_ld rfl (q610.e (j := 82) rfl) (ldN63 ligd hg)) fun _ q611 => ?_;clear q610
            refine q611.q (.int .i64 ((k : Nat) : Int)) (fun v hv => by subst hv; exact ex_move rfl (q611.e (j := 11) rfl)) fun _ q612 => ?_;clear q611
            refine q612.q (.pointer (some ⟨qr, orr + k, none⟩)) (fun v hv => by subst hv; exact ex_ix rfl (q612.e (j := 83) rfl) (q612.e (j := 84) rfl) (by rw [hqr]; exact ixN18 qr orr g.D.length g.c k hkg _)) fun _ q613 => ?_;clear q612
            refine q613.q (.int .i64 (mkJ63 i k)) (fun v hv => by subst hv; exact ex_ld rfl (q613.e (j := 85) rfl) (ldE63 lird hgk)) fun _ q614 => ?_;clear q613
            refine q614.q (.int .i64 ((i : Nat) : Int)) (fun v hv => by subst hv; exact ex_move rfl (q614.e (j := 10) rfl)) fun _ q615 => ?_;clear q614
            refine q615.q (.int .i64 ((k : Nat) : Int)) (fun v hv => by subst hv; exact ex_move rfl (q615.e (j := 11) rfl)) fun _ q616 => ?_;clear q615
            refine vq_call18 (true) (.int .i64 (mkJ63 i k)) (want_none rfl) (fun hc v hv => ex_call rfl (by simp only [List.map_toArray, List.map_cons, List.map_nil, (q616.e (j := 87) rfl), (q616.e (j := 88) rfl), evc] <;> rfl) rfl) (fun hc v hv => (markint63 i k (by omega) (by omega) v).mono (fun e w9 h => ⟨h.1, h.2.trans hv⟩)) rfl q616.z (by decide) (q616.k fun _ q617 => ?_);clear q616
            refine q617.q (.bool false) (fun v hv => by subst hv; exact ex_bin rfl (q617.e (j := 86) rfl) (q617.e (j := 89) rfl) (neF63 _ _ _ _)) fun _ q618 => ?_;clear q617
            refine q618.q (.bool false) (fun v hv => by subst hv; exact ex_move rfl (q618.e (j := 90) rfl)) fun _ q619 => ?_;clear q618
            refine vq _ (.int .i64 ((k : Nat) : Int)) (want_g rfl rfl (q619.a 91 rfl)) (fun hc v hv => by subst hv; exact ex_move rfl (q619.e (j := 11) rfl)) rfl q619.z (by decide) (q619.k fun _ q620 => ?_);clear q619
            refine vq _ (.slice a K.length c) (want_g rfl rfl (q620.a 91 rfl)) (fun hc v hv => by subst hv; exact ex_move rfl (q620.e (j := 3) rfl)) rfl q620.z (by decide) (q620.k fun _ q621 => ?_);clear q620
            refine vq _ (.int .i64 ((i : Nat) : Int)) (want_g rfl rfl (q621.a 91 rfl)) (fun hc v hv => by subst hv; exact ex_move rfl (q621.e (j := 10) rfl)) rfl q621.z (by decide) (q621.k fun _ q622 => ?_);clear q621
            refine vq _ (.pointer (some ⟨qa, oa + i, none⟩)) (want_g rfl rfl (q622.a 91 rfl)) (fun hc v hv => by subst hv; exact ex_ix rfl (q622.e (j := 93) rfl) (q622.e (j := 94) rfl) (by rw [hqa]; exact ixNN qa oa K.length c i hi3 _)) rfl q622.z (by decide) (q622.k fun _ q623 => ?_);clear q622
            refine vq _ (.slice x.a x.D.length x.c) (want_g rfl rfl (q623.a 91 rfl)) (fun hc v hv => by subst hv; exact ex_ld rfl (q623.e (j := 95) rfl) (ldN63 liad hx)) rfl q623.z (by decide) (q623.k fun _ q624 => ?_);clear q623
            refine vq _ (.int .i64 ((x.D.length : Nat) : Int)) (want_g rfl rfl (q624.a 91 rfl)) (fun hc v hv => by subst hv; exact ex_lenN18 rfl rfl (q624.e (j := 96) rfl)) rfl q624.z (by decide) (q624.k fun _ q625 => ?_);clear q624
            refine vq _ (.bool true) (want_g rfl rfl (q625.a 91 rfl)) (fun hc v hv => by subst hv; exact ex_bin rfl (q625.e (j := 92) rfl) (q625.e (j := 97) rfl) (ltT _ _ hkl _)) rfl q625.z (by decide) (q625.k fun _ q626 => ?_);clear q625
            refine vq _ (.bool true) (want_g rfl rfl (q626.a 91 rfl)) (fun hc v hv => by subst hv; exact ex_move rfl (q626.e (j := 98) rfl)) rfl q626.z (by decide) (q626.k fun _ q627 => ?_);clear q626
            obtain ⟨qx, ox2, hqx, hqxl, hlix⟩ := sV.place (by intro e; have h9 := congrArg List.length e; rw [mrk_len] at h9; have h8 : x.D.length = 0 := h9; omega)
            have lixd : LieY yN d qx ox2 (mrk i x.D.length) := hlix.upd (S := fun _ => False) (Upd.of_below dx) hqxl id
            refine vq ((true && (false == false)) && (true == true)) (.slice a K.length c) (want_g rfl rfl (q627.a 99 rfl)) (fun hc v hv => by subst hv; exact ex_move rfl (q627.e (j := 3) rfl)) rfl q627.z (by decide) (q627.k fun _ q628 => ?_);clear q627
            refine vq ((true && (false == false)) && (true == true)) (.int .i64 ((i : Nat) : Int)) (want_g rfl rfl (q628.a 99 rfl)) (fun hc v hv => by subst hv; exact ex_move rfl (q628.e (j := 10) rfl)) rfl q628.z (by decide) (q628.k fun _ q629 => ?_);clear q628
            refine vq ((true && (false == false)) && (true == true)) (.pointer (some ⟨qa, oa + i, none⟩)) (want_g rfl rfl (q629.a 99 rfl)) (fun hc v hv => by subst hv; exact ex_ix rfl (q629.e (j := 100) rfl) (q629.e (j := 101) rfl) (by rw [hqa]; exact ixNN qa oa K.length c i hi3 _)) rfl q629.z (by decide) (q629.k fun _ q630 => ?_);clear q629
            refine vq ((true && (false == false)) && (true == true)) (.slice x.a x.D.length x.c) (want_g rfl rfl (q630.a 99 rfl)) (fun hc v hv => by subst hv; exact ex_ld rfl (q630.e (j := 102) rfl) (ldN63 liad hx)) rfl q630.z (by decide) (q630.k fun _ q631 => ?_);clear q630
            refine vq ((true && (false == false)) && (true == true)) (.int .i64 ((k : Nat) : Int)) (want_g rfl rfl (q631.a 99 rfl)) (fun hc v hv => by subst hv; exact ex_move rfl (q631.e (j := 11) rfl)) rfl q631.z (by decide) (q631.k fun _ q632 => ?_);clear q631
            refine vq ((true && (false == false)) && (true == true)) (.pointer (some ⟨qx, ox2 + k, none⟩)) (want_g rfl rfl (q632.a 99 rfl)) (fun hc v hv => by subst hv; exact ex_ix rfl (q632.e (j := 103) rfl) (q632.e (j := 104) rfl) (by rw [hqx]; exact ixN18 qx ox2 x.D.length x.c k hkl _)) rfl q632.z (by decide) (q632.k fun _ q633 => ?_);clear q632
            refine vq ((true && (false == false)) && (true == true)) (.int .i64 (mkJ63 i k)) (want_g rfl rfl (q633.a 99 rfl)) (fun hc v hv => by subst hv; exact ex_ld rfl (q633.e (j := 105) rfl) (ldE63 lixd (mrk_get hkl))) rfl q633.z (by decide) (q633.k fun _ q634 => ?_);clear q633
            refine vq ((true && (false == false)) && (true == true)) (.int .i64 ((i : Nat) : Int)) (want_g rfl rfl (q634.a 99 rfl)) (fun hc v hv => by subst hv; exact ex_move rfl (q634.e (j := 10) rfl)) rfl q634.z (by decide) (q634.k fun _ q635 => ?_);clear q634
            refine vq ((true && (false == false)) && (true == true)) (.int .i64 ((k : Nat) : Int)) (want_g rfl rfl (q635.a 99 rfl)) (fun hc v hv => by subst hv; exact ex_move rfl (q635.e (j := 11) rfl)) rfl q635.z (by decide) (q635.k fun _ q636 => ?_);clear q635
            refine vq_call18 ((true && (false == false)) && (true == true)) (.int .i64 (mkJ63 i k)) (want_g rfl rfl (q636.a 99 rfl)) (fun hc v hv => ex_call rfl (by simp only [List.map_toArray, List.map_cons, List.map_nil, (q636.e (j := 107) rfl), (q636.e (j := 108) rfl), evc] <;> rfl) rfl) (fun hc v hv => (markint63 i k (by omega) (by omega) v).mono (fun e w9 h => ⟨h.1, h.2.trans hv⟩)) rfl q636.z (by decide) (q636.k fun _ q637 => ?_);clear q636
            refine vq ((true && (false == false)) && (true == true)) (.bool false) (want_g rfl rfl (q637.a 99 rfl)) (fun hc v hv => by subst hv; exact ex_bin rfl (q637.e (j := 106) rfl) (q637.e (j := 109) rfl) (neF63 _ _ _ _)) rfl q637.z (by decide) (q637.k fun _ q638 => ?_);clear q637
            refine vq _ (.bool false) (want_g rfl rfl (q638.a 91 rfl)) (fun hc v hv => by subst hv; exact ex_and (c := true && (false == false)) (b := true) (z := false) rfl (q638.a 99 rfl) (q638.a 110 rfl) hc) rfl q638.z (by decide) (q638.k fun _ q639 => ?_);clear q638
            refine q639.q (.bool false) (fun v hv => by subst hv; exact ex_or (c := true) (b := false) (z := false) rfl (q639.a 91 rfl) (q639.a 111 rfl) rfl) fun _ q640 => ?_;clear q639
            refine vq_nil (fun r1 hr1 => ?_)
            subst hr1
            go_upto_region 24 with fail
            refine wp_cond_false (q640.e (j := 112) rfl) ?_
            go_upto_region 24 with fail
            refine wp_region_lit ?_
            refine q640.t (.int .i64 ((k : Nat) : Int)) (ex_move rfl (q640.e (j := 11) rfl)) fun _ q641 => ?_;clear q640
            refine q641.t (.int .i64 ((k + 1 : Nat) : Int)) (ex_bin rfl (q641.e (j := 78) rfl) rfl (add1C _ _ k (by omega) _)) fun _ q642 => ?_;clear q641
            refine q642.t (.int .i64 ((k + 1 : Nat) : Int)) (ex_assign rfl (q642.e (j := 79) rfl)) fun _ q643 => ?_;clear q642
            have q644 := (((((Rp.nil q643.z).cons (q643.a 3 rfl)).cons (q643.a 6 rfl)).cons (q643.a 10 rfl)).cons (q643.a 11 rfl))
            clear q643
            refine wpList_nil ?_
            exact ⟨_, rfl, hkg, q644, dx⟩
          · go_upto_region 25 with fail
            refine vq_start (C := fun v => v = wy.drew) (by kernel_rfl) (by kernel_rfl) rfl ?_
            have hd : Below wy.heap.size wy wy.drew := (Below.refl _ _).drew
            have hzd : wy.drew.heap.size = wy.heap.size := rfl
            generalize wy.drew = d at *
            have dx : Below wt.heap.size wt d := dy.trans (hd.mono zy)
            have ligd : LieY zN d qg og G := hlig.upd (S := fun _ => False) (Upd.of_below dx) hqgl id
            have lird : LieY yN d qr orr g.D := hlir.upd (S := fun _ => False) (Upd.of_below dx) hqrl id
            have liad : LieY zN d qa oa K := hlie.upd (S := fun _ => False) (Upd.of_below dx) hqal id
            refine q607.q (.slice ag G.length cg) (fun v hv => by subst hv; exact ex_move rfl (q607.e (j := 6) rfl)) fun _ q608 => ?_;clear q607
            refine q608.q (.int .i64 ((i : Nat) : Int)) (fun v hv => by subst hv; exact ex_move rfl (q608.e (j := 10) rfl)) fun _ q609 => ?_;clear q608
            refine q609.q (.pointer (some ⟨qg, og + i, none⟩)) (fun v hv => by subst hv; exact ex_ix rfl (q609.e (j := 80) rfl) (q609.e (j := 81) rfl) (by rw [hqg]; exact ixNN qg og G.length cg i (by omega) _)) fun _ q610 => ?_;clear q609
            refine q610.q (.slice g.a g.D.length g.c) (fun v hv => by subst hv; exact ex_ld rfl (q610.e (j := 82) rfl) (ldN63 ligd hg)) fun _ q611 => ?_;clear q610
            refine q611.q (.int .i64 ((k : Nat) : Int)) (fun v hv => by subst hv; exact ex_move rfl (q611.e (j := 11) rfl)) fun _ q612 => ?_;clear q611
            refine q612.q (.pointer (some ⟨qr, orr + k, none⟩)) (fun v hv => by subst hv; exact ex_ix rfl (q612.e (j := 83) rfl) (q612.e (j := 84) rfl) (by rw [hqr]; exact ixN18 qr orr g.D.length g.c k hkg _)) fun _ q613 => ?_;clear q612
            refine q613.q (.int .i64 (mkJ63 i k)) (fun v hv => by subst hv; exact ex_ld rfl (q613.e (j := 85) rfl) (ldE63 lird hgk)) fun _ q614 => ?_;clear q613
            refine q614.q (.int .i64 ((i : Nat) : Int)) (fun v hv => by subst hv; exact ex_move rfl (q614.e (j := 10) rfl)) fun _ q615 => ?_;clear q614
            refine q615.q (.int .i64 ((k : Nat) : Int)) (fun v hv => by subst hv; exact ex_move rfl (q615.e (j := 11) rfl)) fun _ q616 => ?_;clear q615
            refine vq_call18 (true) (.int .i64 (mkJ63 i k)) (want_none rfl) (fun hc v hv => ex_call rfl (by simp only [List.map_toArray, List.map_cons, List.map_nil, (q616.e (j := 87) rfl), (q616.e (j := 88) rfl), evc] <;> rfl) rfl) (fun hc v hv => (markint63 i k (by omega) (by omega) v).mono (fun e w9 h => ⟨h.1, h.2.trans hv⟩)) rfl q616.z (by decide) (q616.k fun _ q617 => ?_);clear q616
            refine q617.q (.bool false) (fun v hv => by subst hv; exact ex_bin rfl (q617.e (j := 86) rfl) (q617.e (j := 89) rfl) (neF63 _ _ _ _)) fun _ q618 => ?_;clear q617
            refine q618.q (.bool false) (fun v hv => by subst hv; exact ex_move rfl (q618.e (j := 90) rfl)) fun _ q619 => ?_;clear q618
            refine vq _ (.int .i64 ((k : Nat) : Int)) (want_g rfl rfl (q619.a 91 rfl)) (fun hc v hv => by subst hv; exact ex_move rfl (q619.e (j := 11) rfl)) rfl q619.z (by decide) (q619.k fun _ q620 => ?_);clear q619
            refine vq _ (.slice a K.length c) (want_g rfl rfl (q620.a 91 rfl)) (fun hc v hv => by subst hv; exact ex_move rfl (q620.e (j := 3) rfl)) rfl q620.z (by decide) (q620.k fun _ q621 => ?_);clear q620
            refine vq _ (.int .i64 ((i : Nat) : Int)) (want_g rfl rfl (q621.a 91 rfl)) (fun hc v hv => by subst hv; exact ex_move rfl (q621.e (j := 10) rfl)) rfl q621.z (by decide) (q621.k fun _ q622 => ?_);clear q621
            refine vq _ (.pointer (some ⟨qa, oa + i, none⟩)) (want_g rfl rfl (q622.a 91 rfl)) (fun hc v hv => by subst hv; exact ex_ix rfl (q622.e (j := 93) rfl) (q622.e (j := 94) rfl) (by rw [hqa]; exact ixNN qa oa K.length c i hi3 _)) rfl q622.z (by decide) (q622.k fun _ q623 => ?_);clear q622
            refine vq _ (.slice x.a x.D.length x.c) (want_g rfl rfl (q623.a 91 rfl)) (fun hc v hv => by subst hv; exact ex_ld rfl (q623.e (j := 95) rfl) (ldN63 liad hx)) rfl q623.z (by decide) (q623.k fun _ q624 => ?_);clear q623
            refine vq _ (.int .i64 ((x.D.length : Nat) : Int)) (want_g rfl rfl (q624.a 91 rfl)) (fun hc v hv => by subst hv; exact ex_lenN18 rfl rfl (q624.e (j := 96) rfl)) rfl q624.z (by decide) (q624.k fun _ q625 => ?_);clear q624
            refine vq _ (.bool false) (want_g rfl rfl (q625.a 91 rfl)) (fun hc v hv => by subst hv; exact ex_bin rfl (q625.e (j := 92) rfl) (q625.e (j := 97) rfl) (ltF _ _ hkl _)) rfl q625.z (by decide) (q625.k fun _ q626 => ?_);clear q625
            refine vq _ (.bool false) (want_g rfl rfl (q626.a 91 rfl)) (fun hc v hv => by subst hv; exact ex_move rfl (q626.e (j := 98) rfl)) rfl q626.z (by decide) (q626.k fun _ q627 => ?_);clear q626
            refine vq ((true && (false == false)) && (false == true)) (undef) (want_g rfl rfl (q627.a 99 rfl)) (fun hc v hv => absurd hc (by decide)) rfl q627.z (by decide) (q627.k fun _ q628 => ?_);clear q627
            refine vq ((true && (false == false)) && (false == true)) (undef) (want_g rfl rfl (q628.a 99 rfl)) (fun hc v hv => absurd hc (by decide)) rfl q628.z (by decide) (q628.k fun _ q629 => ?_);clear q628
            refine vq ((true && (false == false)) && (false == true)) (undef) (want_g rfl rfl (q629.a 99 rfl)) (fun hc v hv => absurd hc (by decide)) rfl q629.z (by decide) (q629.k fun _ q630 => ?_);clear q629
            refine vq ((true && (false == false)) && (false == true)) (undef) (want_g rfl rfl (q630.a 99 rfl)) (fun hc v hv => absurd hc (by decide)) rfl q630.z (by decide) (q630.k fun _ q631 => ?_);clear q630
            refine vq ((true && (false == false)) && (false == true)) (undef) (want_g rfl rfl (q631.a 99 rfl)) (fun hc v hv => absurd hc (by decide)) rfl q631.z (by decide) (q631.k fun _ q632 => ?_);clear q631
            refine vq ((true && (false == false)) && (false == true)) (undef) (want_g rfl rfl (q632.a 99 rfl)) (fun hc v hv => absurd hc (by decide)) rfl q632.z (by decide) (q632.k fun _ q633 => ?_);clear q632
            refine vq ((true && (false == false)) && (false == true)) (undef) (want_g rfl rfl (q633.a 99 rfl)) (fun hc v hv => absurd hc (by decide)) rfl q633.z (by decide) (q633.k fun _ q634 => ?_);clear q633
            refine vq ((true && (false == false)) && (false == true)) (undef) (want_g rfl rfl (q634.a 99 rfl)) (fun hc v hv => absurd hc (by decide)) rfl q634.z (by decide) (q634.k fun _ q635 => ?_);clear q634
            refine vq ((true && (false == false)) && (false == true)) (undef) (want_g rfl rfl (q635.a 99 rfl)) (fun hc v hv => absurd hc (by decide)) rfl q635.z (by decide) (q635.k fun _ q636 => ?_);clear q635
            refine vq ((true && (false == false)) && (false == true)) (undef) (want_g rfl rfl (q636.a 99 rfl)) (fun hc v hv => absurd hc (by decide)) rfl q636.z (by decide) (q636.k fun _ q637 => ?_);clear q636
            refine vq ((true && (false == false)) && (false == true)) (.bool false) (want_g rfl rfl (q637.a 99 rfl)) (fun hc v hv => absurd hc (by decide)) rfl q637.z (by decide) (q637.k fun _ q638 => ?_);clear q637
            refine vq _ (.bool false) (want_g rfl rfl (q638.a 91 rfl)) (fun hc v hv => by subst hv; exact ex_and (c := true && (false == false)) (b := false) (z := false) rfl (q638.a 99 rfl) (q638.a 110 rfl) hc) rfl q638.z (by decide) (q638.k fun _ q639 => ?_);clear q638
            refine q639.q (.bool false) (fun v hv => by subst hv; exact ex_or (c := true) (b := false) (z := false) rfl (q639.a 91 rfl) (q639.a 111 rfl) rfl) fun _ q640 => ?_;clear q639
            refine vq_nil (fun r1 hr1 => ?_)
            subst hr1
            go_upto_region 24 with fail
            refine wp_cond_false (q640.e (j := 112) rfl) ?_
            go_upto_region 24 with fail
            refine wp_region_lit ?_
            refine q640.t (.int .i64 ((k : Nat) : Int)) (ex_move rfl (q640.e (j := 11) rfl)) fun _ q641 => ?_;clear q640
            refine q641.t (.int .i64 ((k + 1 : Nat) : Int)) (ex_bin rfl (q641.e (j := 78) rfl) rfl (add1C _ _ k (by omega) _)) fun _ q642 => ?_;clear q641
            refine q642.t (.int .i64 ((k + 1 : Nat) : Int)) (ex_assign rfl (q642.e (j := 79) rfl)) fun _ q643 => ?_;clear q642
            have q644 := (((((Rp.nil q643.z).cons (q643.a 3 rfl)).cons (q643.a 6 rfl)).cons (q643.a 10 rfl)).cons (q643.a 11 rfl))
            clear q643
            refine wpList_nil ?_
            exact ⟨_, rfl, hkg, q644, dx⟩
        · obtain rfl : k = g.D.length := by omega
          go_upto_region 23 with fail
          refine wp_region_lit ?_
          refine q600.t (.int .i64 ((g.D.length : Nat) : Int)) (ex_move rfl (q600.e (j := 11) rfl)) fun _ q601 => ?_;clear q600
          refine q601.t (.slice ag G.length cg) (ex_move rfl (q601.e (j := 6) rfl)) fun _ q602 => ?_;clear q601
          refine q602.t (.int .i64 ((i : Nat) : Int)) (ex_move rfl (q602.e (j := 10) rfl)) fun _ q603 => ?_;clear q602
          refine q603.t (.pointer (some ⟨qg, og + i, none⟩)) (ex_ix rfl (q603.e (j := 72) rfl) (q603.e (j := 73) rfl) (by rw [hqg]; exact ixNN qg og G.length cg i (by omega) _)) fun _ q604 => ?_;clear q603
          refine q604.t (.slice g.a g.D.length g.c) (ex_ld rfl (q604.e (j := 74) rfl) (ldN63 lig2 hg)) fun _ q605 => ?_;clear q604
          refine q605.t (.int .i64 ((g.D.length : Nat) : Int)) (ex_lenN18 rfl rfl (q605.e (j := 75) rfl)) fun _ q606 => ?_;clear q605
          refine q606.t (.bool false) (ex_bin rfl (q606.e (j := 71) rfl) (q606.e (j := 76) rfl) (ltF _ _ hkg _)) fun _ q607 => ?_;clear q606
          refine wpList_nil ?_
          go_upto_region 21 with fail
          refine wp_cond_false (q607.e (j := 77) rfl) ?_
          go_upto_region 21 with fail
          refine wp_region_lit ?_
          refine q607.t (.int .i64 ((i : Nat) : Int)) (ex_move rfl (q607.e (j := 10) rfl)) fun _ q608 => ?_;clear q607
          refine q608.t (.int .i64 ((i + 1 : Nat) : Int)) (ex_bin rfl (q608.e (j := 69) rfl) rfl (add1C _ _ i (by omega) _)) fun _ q609 => ?_;clear q608
          refine q609.t (.int .i64 ((i + 1 : Nat) : Int)) (ex_assign rfl (q609.e (j := 70) rfl)) fun _ q610 => ?_;clear q609
          have q611 := ((((Rp.nil q610.z).cons (q610.a 3 rfl)).cons (q610.a 6 rfl)).cons (q610.a 10 rfl))
          clear q610
          refine wpList_nil ?_
          exact ⟨_, rfl, hi3, q611, dy⟩
      · obtain rfl : i = K.length := by omega
        go_upto_region 20 with fail
        refine wp_region_lit ?_
        refine q500.t (.int .i64 ((K.length : Nat) : Int)) (ex_move rfl (q500.e (j := 10) rfl)) fun _ q501 => ?_;clear q500
        refine q501.t (.slice a K.length c) (ex_move rfl (q501.e (j := 3) rfl)) fun _ q502 => ?_;clear q501
        refine q502.t (.int .i64 ((K.length : Nat) : Int)) (ex_lenZ63 rfl rfl (q502.e (j := 66) rfl)) fun _ q503 => ?_;clear q502
        refine q503.t (.bool false) (ex_bin rfl (q503.e (j := 65) rfl) (q503.e (j := 67) rfl) (ltF _ _ hi3 _)) fun _ q504 => ?_;clear q503
        refine wpList_nil ?_
        go_upto_region 27 with fail
        refine wp_cond_false (q504.e (j := 68) rfl) ?_
        go_upto_region 27 with fail
        refine wp_region_lit ?_
        refine q504.t (.bool true) (ex_assign rfl rfl) fun _ q505 => ?_;clear q504
        refine wpList_nil ?_
        go_wp2
        refine bodyPost_ret (results_tmp rfl _ _ _) rfl ?_
        rw [getD_of (q505.a 2 rfl)]
        exact ⟨rfl, dt.trans (Upd.of_below dz)⟩
def bkC (v : Value) : List Value := [nilS, v, nilS, nilS, nilS, nilS, nilS, nilS, nilS, nilS]
theorem alBk63 (w : World) : (Instr.alloc 67 true (.tuple #[])).run Try.prog w = .ok (.pointer (some ⟨w.heap.size, 0, none⟩)) (w.alloc (.cells (bkC nilS).toArray 67)) := by kernel_rfl
theorem stZ63 {w : World} {q o : Nat} {u : Value} {a : Option Addr} {n c : Nat} (h : w.cell? ⟨q, o, none⟩ = some u) (hf : w.frozen? ⟨q, o, none⟩ = false) : (Instr.storeAt 57 (.pointer (some ⟨q, o, none⟩)) (.slice a n c)).run Try.prog w = .ok () (w.setCell ⟨q, o, none⟩ (.slice a n c)) := by go_simp
theorem gtT65 (x y : Operand) {n : Nat} (h : 0 < n) (w : World) : (do eqGuard .gtr 3 x y (.int .i64 (n : Int)) (.int .i64 0); binOp .gtr 3 (.int .i64 (n : Int)) (.int .i64 0) : Sem Value).run Try.prog w = .ok (.bool true) w := by
  have h1 : (0 : Int) < (n : Int) := by omega
  go_simp
  first | done | simp [h1] | omega
theorem gtF65 (x y : Operand) (w : World) : (do eqGuard .gtr 3 x y (.int .i64 ((0 : Nat) : Int)) (.int .i64 0); binOp .gtr 3 (.int .i64 ((0 : Nat) : Int)) (.int .i64 0) : Sem Value).run Try.prog w = .ok (.bool false) w := by kernel_rfl
set_option maxHeartbeats 2000000 in
theorem ints_none65 (b : Nat) (a : Option Addr) (c : Nat) (w : World) :
    Calls Try.prog 22 #[.pointer (some ⟨b, 0, none⟩), .slice a 0 c] w fun e w' => e = .returned (.tuple #[]) ∧ w' = w := by
  go_enter Try.func22, Try.ntmps22
  go_upto_region 0 with fail
  refine wp_region_lit ?_
  refine vl_gen (fun T => Rp T 17 [(1, gw true (.slice a 0 c)), (0, gw true (.pointer (some ⟨b, 0, none⟩)))]) (((Rp.nil rfl).cons rfl).cons rfl) (fun Z0 q0 => ?_)
  refine q0.t (.slice a 0 c) (ex_move rfl (q0.e (j := 1) rfl)) fun _ q1 => ?_;clear q0
  refine q1.t (.int .i64 ((0 : Nat) : Int)) (ex_lenN18 rfl rfl (q1.e (j := 4) rfl)) fun _ q2 => ?_;clear q1
  refine q2.t (.bool false) (ex_bin (Y := .int .i64 (0 : Int)) rfl (q2.e (j := 5) rfl) rfl (gtF65 _ _ _)) fun _ q3 => ?_;clear q2
  refine wpList_nil ?_
  skip
  go_upto_if 6 with fail
  refine wp_cond_false (q3.e (j := 6) rfl) ?_
  go_wp2
  go_end0
  exact ⟨rfl, rfl⟩
set_option maxHeartbeats 2000000 in
theorem ints_some65 (b B : Nat) (kv : Value) (K : List (SV Int)) (x : SV Int) (w : World) (h : BB w b 67 (bkC kv)) (own : OwnY zN B w kv K) (hb : b < B) (hB : B ≤ w.heap.size) (h0 : 0 < x.D.length) (hn : K.length ≤ 100) :
    Calls Try.prog 22 #[.pointer (some ⟨b, 0, none⟩), .slice x.a x.D.length x.c] w fun e w' => ∃ kv', e = .returned (.tuple #[]) ∧ BB w' b 67 (bkC kv') ∧ OwnY zN B w' kv' (K ++ [x]) ∧ Upd (fun k => k = b ∨ kv.ownBlock = some k) w w' := by
  go_enter Try.func22, Try.ntmps22
  go_upto_region 0 with fail
  refine wp_region_lit ?_
  refine vl_gen (fun T => Rp T 17 [(1, gw true (.slice x.a x.D.length x.c)), (0, gw true (.pointer (some ⟨b, 0, none⟩)))]) (((Rp.nil rfl).cons rfl).cons rfl) (fun Z0 q0 => ?_)
  refine q0.t (.slice x.a x.D.length x.c) (ex_move rfl (q0.e (j := 1) rfl)) fun _ q1 => ?_;clear q0
  refine q1.t (.int .i64 ((x.D.length : Nat) : Int)) (ex_lenN18 rfl rfl (q1.e (j := 4) rfl)) fun _ q2 => ?_;clear q1
  refine q2.t (.bool true) (ex_bin (Y := .int .i64 (0 : Int)) rfl (q2.e (j := 5) rfl) rfl (gtT65 _ _ h0 _)) fun _ q3 => ?_;clear q2
  refine wpList_nil ?_
  go_upto_region 1 with fail
  refine wp_cond_true (q3.e (j := 6) rfl) ?_
  go_upto_region 1 with fail
  refine wp_region_lit ?_
  obtain ⟨ak, ck, hkv, _, _, _, _⟩ := own.form
  subst hkv
  refine q3.t (.pointer (some ⟨b, 0, none⟩)) (ex_move rfl (q3.e (j := 0) rfl)) fun _ q4 => ?_;clear q3
  refine q4.t (.pointer (some ⟨b, 0, none⟩)) (ex_move rfl (q4.e (j := 0) rfl)) fun _ q5 => ?_;clear q4
  refine q5.t (.pointer (some ⟨b, 0, none⟩)) (ex_nil rfl (q5.e (j := 8) rfl)) fun _ q6 => ?_;clear q5
  refine q6.t (.pointer (some ⟨b, 1, none⟩)) (ex_fa rfl (q6.e (j := 9) rfl) (faBk63 _ _)) fun _ q7 => ?_;clear q6
  refine q7.t (.slice ak K.length ck) (ex_ld rfl (q7.e (j := 10) rfl) (ldNN (by rw [h.cell]; rfl))) fun _ q8 => ?_;clear q7
  refine q8.t (.slice x.a x.D.length x.c) (ex_move rfl (q8.e (j := 1) rfl)) fun _ q9 => ?_;clear q8
  obtain ⟨r1, hr1⟩ : ∃ y, y = w.alloc (.cells (zN.cs x).toArray 35) := ⟨_, rfl⟩
  refine vw (.slice (some ⟨w.heap.size, 0, none⟩) 1 1) r1 (want_none rfl) (ex_bs18 rfl (q9.e (j := 12) rfl) (by rw [hr1]; exact bsZ63 _ _)) rfl q9.z (by decide) (q9.k fun _ q10 => ?_);clear q9
  have s1 : SlY zN r1 (some ⟨w.heap.size, 0, none⟩) 1 1 [x] := by rw [hr1]; exact sl_box (Y := zN) w x 35
  have b1 : Below w.heap.size w r1 := by rw [hr1]; exact (Below.refl _ _).alloc (Nat.le_refl _) _
  clear hr1
  have y1 := b1.size
  obtain ⟨v2, r2, ha2, o2, g2, h42⟩ := run_appY kzN r1 57 B K (.slice ak K.length ck) _ 1 1 [x] s1 (own.grow b1) (by omega) (by unfold maxLen; omega) (by show (K.length + 1) * 24 ≤ _; omega)
  have u2 := gupd63 g2
  have y2 := u2.size
  obtain ⟨a2, c2, hv2, _, _, _, _⟩ := o2.form
  subst hv2
  have h2 : BB r2 b 67 (bkC (.slice ak K.length ck)) := (h.later b1).upd u2 (fun e => by have := (own.blk b e).1; omega)
  refine vw (.slice a2 (K ++ [x]).length c2) r2 (want_none rfl) (ex_app18 rfl (q10.e (j := 11) rfl) (q10.e (j := 13) rfl) ha2) rfl q10.z (by decide) (q10.k fun _ q11 => ?_);clear q10
  refine q11.t (.pointer (some ⟨b, 0, none⟩)) (ex_nil rfl (q11.e (j := 7) rfl)) fun _ q12 => ?_;clear q11
  refine q12.t (.pointer (some ⟨b, 1, none⟩)) (ex_fa rfl (q12.e (j := 15) rfl) (faBk63 _ _)) fun _ q13 => ?_;clear q12
  obtain ⟨r3, hr3⟩ : ∃ y, y = r2.setCell ⟨b, 1, none⟩ (.slice a2 (K ++ [x]).length c2) := ⟨_, rfl⟩
  refine vs r3 (want_none rfl) (ex_st rfl (q13.e (j := 16) rfl) (q13.e (j := 14) rfl) (by rw [hr3]; exact stZ63 (h2.cell 1) (h2.free 1))) rfl ?_
  have h3 : BB r3 b 67 (bkC (.slice a2 (K ++ [x]).length c2)) := by rw [hr3]; exact h2.set1 1 _
  have u3 : Upd (fun k => k = b) r2 r3 := by rw [hr3]; exact (Upd.refl (fun k => k = b) r2).setCell (p := ⟨b, 1, none⟩) (.inl rfl) _
  clear hr3
  have y3 := u3.size
  have o3 := o2.upd1 u3 (fun k hk e => by have := (o2.blk k hk).1; omega)
  refine wpList_nil ?_
  go_wp2
  go_end0
  exact ⟨_, rfl, h3, o3, ((Upd.of_below b1).tr20 u2 (fun i hi hr => .inr hr)).tr20 u3 (fun i hi hr => .inl hr)⟩
end Go.Proofs.Ytjabbplfbjaenaa
namespace Go.Proofs.Ytjabbplfbjaenaa
open Go.RowKit
open Classical
set_option maxHeartbeats 400000 in
theorem apartBytes_nil (b : Nat) (w : World) (h : w.cell? ⟨b, 0, none⟩ = some (.slice none 0 0)) :
    Calls Try.prog 42 #[.pointer (some ⟨b, 0, none⟩)] w fun e w' => e = .returned (.bool true) ∧ Below w.heap.size w w' := by
  go_enter Try.func42, Try.ntmps42
  go_wp2
  go_loopw [4] (fun i wr => i = .int .i64 0 ∧ wr = w) (fun _ _ => 0)
  case atStart => exact ⟨rfl, rfl⟩
  case round =>
    obtain ⟨rfl, e1⟩ := hrel
    subst e1
    go_wp2
    go_loopw [7] (fun i ws => i = .int .i64 0 ∧ ws = wr) (fun _ _ => 0)
    case atStart => exact ⟨rfl, rfl⟩
    case round =>
      obtain ⟨rfl, e1⟩ := hrel
      subst e1
      go_wp2
      go_loopw [10] (fun i ws => i = .int .i64 0 ∧ ws = wr) (fun _ _ => 0)
      case atStart => exact ⟨rfl, rfl⟩
      case round =>
        obtain ⟨rfl, e1⟩ := hrel
        subst e1
        go_wp2
        go_ret
        exact ⟨rfl, Below.refl _ _⟩
set_option maxHeartbeats 400000 in
theorem apartVector_nil (b : Nat) (w : World) (h : w.cell? ⟨b, 2, none⟩ = some (.slice none 0 0)) :
    Calls Try.prog 44 #[.pointer (some ⟨b, 0, none⟩)] w fun e w' => e = .returned (.bool true) ∧ Below w.heap.size w w' := by
  go_enter Try.func44, Try.ntmps44
  go_wp2
  go_loopw [4] (fun i wr => i = .int .i64 0 ∧ wr = w) (fun _ _ => 0)
  case atStart => exact ⟨rfl, rfl⟩
  case round =>
    obtain ⟨rfl, e1⟩ := hrel
    subst e1
    go_wp2
    go_loopw [7] (fun i ws => i = .int .i64 0 ∧ ws = wr) (fun _ _ => 0)
    case atStart => exact ⟨rfl, rfl⟩
    case round =>
      obtain ⟨rfl, e1⟩ := hrel
      subst e1
      go_wp2
      go_loopw [10] (fun i ws => i = .int .i64 0 ∧ ws = wr) (fun _ _ => 0)
      case atStart => exact ⟨rfl, rfl⟩
      case round =>
        obtain ⟨rfl, e1⟩ := hrel
        subst e1
        go_wp2
        go_ret
        exact ⟨rfl, Below.refl _ _⟩
set_option maxHeartbeats 400000 in
theorem apartEntries_nil (b : Nat) (w : World) (h : w.cell? ⟨b, 3, none⟩ = some (.slice none 0 0)) :
    Calls Try.prog 45 #[.pointer (some ⟨b, 0, none⟩)] w fun e w' => e = .returned (.bool true) ∧ Below w.heap.size w w' := by
  go_enter Try.func45, Try.ntmps45
  go_wp2
  go_loopw [4] (fun i wr => i = .int .i64 0 ∧ wr = w) (fun _ _ => 0)
  case atStart => exact ⟨rfl, rfl⟩
  case round =>
    obtain ⟨rfl, e1⟩ := hrel
    subst e1
    go_wp2
    go_loopw [7] (fun i ws => i = .int .i64 0 ∧ ws = wr) (fun _ _ => 0)
    case atStart => exact ⟨rfl, rfl⟩
    case round =>
      obtain ⟨rfl, e1⟩ := hrel
      subst e1
      go_wp2
      go_loopw [10] (fun i ws => i = .int .i64 0 ∧ ws = wr) (fun _ _ => 0)
      case atStart => exact ⟨rfl, rfl⟩
      case round =>
        obtain ⟨rfl, e1⟩ := hrel
        subst e1
        go_wp2
        go_ret
        exact ⟨rfl, Below.refl _ _⟩
set_option maxHeartbeats 400000 in
theorem apartCells_nil (b : Nat) (w : World) (h : w.cell? ⟨b, 4, none⟩ = some (.slice none 0 0)) :
    Calls Try.prog 46 #[.pointer (some ⟨b, 0, none⟩)] w fun e w' => e = .returned (.bool true) ∧ Below w.heap.size w w' := by
  go_enter Try.func46, Try.ntmps46
  go_wp2
  go_loopw [4] (fun i wr => i = .int .i64 0 ∧ wr = w) (fun _ _ => 0)
  case atStart => exact ⟨rfl, rfl⟩
  case round =>
    obtain ⟨rfl, e1⟩ := hrel
    subst e1
    go_wp2
    go_loopw [7] (fun i ws => i = .int .i64 0 ∧ ws = wr) (fun _ _ => 0)
    case atStart => exact ⟨rfl, rfl⟩
    case round =>
      obtain ⟨rfl, e1⟩ := hrel
      subst e1
      go_wp2
      go_loopw [10] (fun i ws => i = .int .i64 0 ∧ ws = wr) (fun _ _ => 0)
      case atStart => exact ⟨rfl, rfl⟩
      case round =>
        obtain ⟨rfl, e1⟩ := hrel
        subst e1
        go_wp2
        go_ret
        exact ⟨rfl, Below.refl _ _⟩
set_option maxHeartbeats 400000 in
theorem apartRows_nil (b : Nat) (w : World) (h : w.cell? ⟨b, 5, none⟩ = some (.slice none 0 0)) :
    Calls Try.prog 47 #[.pointer (some ⟨b, 0, none⟩)] w fun e w' => e = .returned (.bool true) ∧ Below w.heap.size w w' := by
  go_enter Try.func47, Try.ntmps47
  go_wp2
  go_loopw [4] (fun i wr => i = .int .i64 0 ∧ wr = w) (fun _ _ => 0)
  case atStart => exact ⟨rfl, rfl⟩
  case round =>
    obtain ⟨rfl, e1⟩ := hrel
    subst e1
    go_wp2
    go_loopw [7] (fun i ws => i = .int .i64 0 ∧ ws = wr) (fun _ _ => 0)
    case atStart => exact ⟨rfl, rfl⟩
    case round =>
      obtain ⟨rfl, e1⟩ := hrel
      subst e1
      go_wp2
      go_loopw [10] (fun i ws => i = .int .i64 0 ∧ ws = wr) (fun _ _ => 0)
      case atStart => exact ⟨rfl, rfl⟩
      case round =>
        obtain ⟨rfl, e1⟩ := hrel
        subst e1
        go_wp2
        go_ret
        exact ⟨rfl, Below.refl _ _⟩
set_option maxHeartbeats 400000 in
theorem apartResults_nil (b : Nat) (w : World) (h : w.cell? ⟨b, 6, none⟩ = some (.slice none 0 0)) :
    Calls Try.prog 48 #[.pointer (some ⟨b, 0, none⟩)] w fun e w' => e = .returned (.bool true) ∧ Below w.heap.size w w' := by
  go_enter Try.func48, Try.ntmps48
  go_wp2
  go_loopw [4] (fun i wr => i = .int .i64 0 ∧ wr = w) (fun _ _ => 0)
  case atStart => exact ⟨rfl, rfl⟩
  case round =>
    obtain ⟨rfl, e1⟩ := hrel
    subst e1
    go_wp2
    go_loopw [7] (fun i ws => i = .int .i64 0 ∧ ws = wr) (fun _ _ => 0)
    case atStart => exact ⟨rfl, rfl⟩
    case round =>
      obtain ⟨rfl, e1⟩ := hrel
      subst e1
      go_wp2
      go_loopw [10] (fun i ws => i = .int .i64 0 ∧ ws = wr) (fun _ _ => 0)
      case atStart => exact ⟨rfl, rfl⟩
      case round =>
        obtain ⟨rfl, e1⟩ := hrel
        subst e1
        go_wp2
        go_ret
        exact ⟨rfl, Below.refl _ _⟩
set_option maxHeartbeats 400000 in
theorem apartStamps_nil (b : Nat) (w : World) (h : w.cell? ⟨b, 7, none⟩ = some (.slice none 0 0)) :
    Calls Try.prog 49 #[.pointer (some ⟨b, 0, none⟩)] w fun e w' => e = .returned (.bool true) ∧ Below w.heap.size w w' := by
  go_enter Try.func49, Try.ntmps49
  go_wp2
  go_loopw [4] (fun i wr => i = .int .i64 0 ∧ wr = w) (fun _ _ => 0)
  case atStart => exact ⟨rfl, rfl⟩
  case round =>
    obtain ⟨rfl, e1⟩ := hrel
    subst e1
    go_wp2
    go_loopw [7] (fun i ws => i = .int .i64 0 ∧ ws = wr) (fun _ _ => 0)
    case atStart => exact ⟨rfl, rfl⟩
    case round =>
      obtain ⟨rfl, e1⟩ := hrel
      subst e1
      go_wp2
      go_loopw [10] (fun i ws => i = .int .i64 0 ∧ ws = wr) (fun _ _ => 0)
      case atStart => exact ⟨rfl, rfl⟩
      case round =>
        obtain ⟨rfl, e1⟩ := hrel
        subst e1
        go_wp2
        go_ret
        exact ⟨rfl, Below.refl _ _⟩
set_option maxHeartbeats 400000 in
theorem apartAcks_nil (b : Nat) (w : World) (h : w.cell? ⟨b, 8, none⟩ = some (.slice none 0 0)) :
    Calls Try.prog 50 #[.pointer (some ⟨b, 0, none⟩)] w fun e w' => e = .returned (.bool true) ∧ Below w.heap.size w w' := by
  go_enter Try.func50, Try.ntmps50
  go_wp2
  go_loopw [4] (fun i wr => i = .int .i64 0 ∧ wr = w) (fun _ _ => 0)
  case atStart => exact ⟨rfl, rfl⟩
  case round =>
    obtain ⟨rfl, e1⟩ := hrel
    subst e1
    go_wp2
    go_loopw [7] (fun i ws => i = .int .i64 0 ∧ ws = wr) (fun _ _ => 0)
    case atStart => exact ⟨rfl, rfl⟩
    case round =>
      obtain ⟨rfl, e1⟩ := hrel
      subst e1
      go_wp2
      go_loopw [10] (fun i ws => i = .int .i64 0 ∧ ws = wr) (fun _ _ => 0)
      case atStart => exact ⟨rfl, rfl⟩
      case round =>
        obtain ⟨rfl, e1⟩ := hrel
        subst e1
        go_wp2
        go_ret
        exact ⟨rfl, Below.refl _ _⟩
set_option maxHeartbeats 400000 in
theorem apartMarks_nil (b : Nat) (w : World) (h : w.cell? ⟨b, 9, none⟩ = some (.slice none 0 0)) :
    Calls Try.prog 51 #[.pointer (some ⟨b, 0, none⟩)] w fun e w' => e = .returned (.bool true) ∧ Below w.heap.size w w' := by
  go_enter Try.func51, Try.ntmps51
  go_wp2
  go_loopw [4] (fun i wr => i = .int .i64 0 ∧ wr = w) (fun _ _ => 0)
  case atStart => exact ⟨rfl, rfl⟩
  case round =>
    obtain ⟨rfl, e1⟩ := hrel
    subst e1
    go_wp2
    go_loopw [7] (fun i ws => i = .int .i64 0 ∧ ws = wr) (fun _ _ => 0)
    case atStart => exact ⟨rfl, rfl⟩
    case round =>
      obtain ⟨rfl, e1⟩ := hrel
      subst e1
      go_wp2
      go_loopw [10] (fun i ws => i = .int .i64 0 ∧ ws = wr) (fun _ _ => 0)
      case atStart => exact ⟨rfl, rfl⟩
      case round =>
        obtain ⟨rfl, e1⟩ := hrel
        subst e1
        go_wp2
        go_ret
        exact ⟨rfl, Below.refl _ _⟩
end Go.Proofs.Ytjabbplfbjaenaa
namespace Go.Proofs.Ytjabbplfbjaenaa
open Go.RowKit Go.Maps
open Classical
set_option maxHeartbeats 2000000 in
theorem apart_bk67 (K : List (SV Int)) (a : Option Addr) (c b B : Nat) (w : World) (h : BB w b 67 (bkC (.slice a K.length c))) (ok : OwnY zN B w (.slice a K.length c) K) (hb : b < B) (hB : B ≤ w.heap.size) (own : ∀ (i : Nat) (x : SV Int), K[i]? = some x → OwnY yN B w x.v x.D) (dif : ∀ (i j : Nat) (x y : SV Int) (b : Nat), K[i]? = some x → K[j]? = some y → x.v.ownBlock = some b → y.v.ownBlock = some b → i = j) (hn : K.length ≤ 100) (hl : ∀ (i : Nat) (x : SV Int), K[i]? = some x → x.D.length ≤ 200) :
    Calls Try.prog 23 #[.pointer (some ⟨b, 0, none⟩)] w fun e w' => e = .returned (.bool true) ∧ Upd (RwB K) w w' := by
  go_enter Try.func23, Try.ntmps23
  go_upto_region 0 with fail
  refine wp_region_lit ?_
  refine vl_gen (fun T => Rp T 41 [(0, gw true (.pointer (some ⟨b, 0, none⟩)))]) ((Rp.nil rfl).cons rfl) (fun Z0 q0 => ?_)
  refine q0.t (.bool false) (ex_assign rfl rfl) fun _ q1 => ?_;clear q0
  refine wpList_nil ?_
  go_upto_region 1 with fail
  refine wp_region_lit ?_
  refine q1.t (.pointer (some ⟨b, 0, none⟩)) (ex_move rfl (q1.e (j := 0) rfl)) fun _ q2 => ?_;clear q1
  refine vcallP (want_none rfl) (ex_call rfl (by simp only [List.map_toArray, List.map_cons, List.map_nil, (q2.e (j := 3) rfl), evc] <;> rfl) rfl) (apartBytes_nil b w (h.cell 0)) rfl q2.z (by decide) ?_
  rintro e w0 ⟨rfl, b0⟩
  refine ⟨_, rfl, q2.k fun _ q3 => ?_⟩;clear q2
  have y0 := b0.size
  have h0 : BB w0 b 67 (bkC (.slice a K.length c)) := h.later b0
  have own0 : ∀ (i : Nat) (x : SV Int), K[i]? = some x → OwnY yN B w0 x.v x.D := fun i x hx => (own i x hx).grow b0
  have ok0 := ok.grow b0
  refine q3.t (.bool true) (ex_move rfl (q3.e (j := 4) rfl)) fun _ q4 => ?_;clear q3
  refine vl _ (.pointer (some ⟨b, 0, none⟩)) (want_g rfl rfl (q4.a 5 rfl)) (fun hc => ex_move rfl (q4.e (j := 0) rfl)) rfl q4.z (by decide) (q4.k fun _ q5 => ?_);clear q4
  refine vcallP (show Region.wanted _ _ = (true && (true == true)) from want_g rfl rfl (q5.a 5 rfl)) (ex_call rfl (by simp only [List.map_toArray, List.map_cons, List.map_nil, (ev (q5.a 6 rfl) rfl), evc] <;> rfl) rfl) (apartInts63 K a c b B B w0 (h0.cell 1) ok0 (by omega) own0 dif (by omega) hl) rfl q5.z (by decide) ?_
  rintro e w1 ⟨rfl, b1⟩
  refine ⟨_, rfl, q5.k fun _ q6 => ?_⟩;clear q5
  have y1 := b1.size
  have h1 : BB w1 b 67 (bkC (.slice a K.length c)) := h0.upd b1 (fun ⟨i, x, hx, e⟩ => by have := ((own i x hx).blk b e).1; omega)
  refine q6.t (.bool true) (ex_and (c := true) (b := true) (z := true) rfl (q6.a 5 rfl) (q6.a 7 rfl) rfl) fun _ q7 => ?_;clear q6
  refine q7.t (.bool true) (ex_move rfl (q7.e (j := 8) rfl)) fun _ q8 => ?_;clear q7
  refine vl _ (.pointer (some ⟨b, 0, none⟩)) (want_g rfl rfl (q8.a 9 rfl)) (fun hc => ex_move rfl (q8.e (j := 0) rfl)) rfl q8.z (by decide) (q8.k fun _ q9 => ?_);clear q8
  refine vcallP (show Region.wanted _ _ = (true && (true == true)) from want_g rfl rfl (q9.a 9 rfl)) (ex_call rfl (by simp only [List.map_toArray, List.map_cons, List.map_nil, (ev (q9.a 10 rfl) rfl), evc] <;> rfl) rfl) (apartVector_nil b w1 (h1.cell 2)) rfl q9.z (by decide) ?_
  rintro e w2 ⟨rfl, b2⟩
  refine ⟨_, rfl, q9.k fun _ q10 => ?_⟩;clear q9
  have y2 := b2.size
  have h2 := h1.later b2
  refine q10.t (.bool true) (ex_and (c := true) (b := true) (z := true) rfl (q10.a 9 rfl) (q10.a 11 rfl) rfl) fun _ q11 => ?_;clear q10
  refine q11.t (.bool true) (ex_move rfl (q11.e (j := 12) rfl)) fun _ q12 => ?_;clear q11
  refine vl _ (.pointer (some ⟨b, 0, none⟩)) (want_g rfl rfl (q12.a 13 rfl)) (fun hc => ex_move rfl (q12.e (j := 0) rfl)) rfl q12.z (by decide) (q12.k fun _ q13 => ?_);clear q12
  refine vcallP (show Region.wanted _ _ = (true && (true == true)) from want_g rfl rfl (q13.a 13 rfl)) (ex_call rfl (by simp only [List.map_toArray, List.map_cons, List.map_nil, (ev (q13.a 14 rfl) rfl), evc] <;> rfl) rfl) (apartEntries_nil b w2 (h2.cell 3)) rfl q13.z (by decide) ?_
  rintro e w3 ⟨rfl, b3⟩
  refine ⟨_, rfl, q13.k fun _ q14 => ?_⟩;clear q13
  have y3 := b3.size
  have h3 := h2.later b3
  refine q14.t (.bool true) (ex_and (c := true) (b := true) (z := true) rfl (q14.a 13 rfl) (q14.a 15 rfl) rfl) fun _ q15 => ?_;clear q14
  refine q15.t (.bool true) (ex_move rfl (q15.e (j := 16) rfl)) fun _ q16 => ?_;clear q15
  refine vl _ (.pointer (some ⟨b, 0, none⟩)) (want_g rfl rfl (q16.a 17 rfl)) (fun hc => ex_move rfl (q16.e (j := 0) rfl)) rfl q16.z (by decide) (q16.k fun _ q17 => ?_);clear q16
  refine vcallP (show Region.wanted _ _ = (true && (true == true)) from want_g rfl rfl (q17.a 17 rfl)) (ex_call rfl (by simp only [List.map_toArray, List.map_cons, List.map_nil, (ev (q17.a 18 rfl) rfl), evc] <;> rfl) rfl) (apartCells_nil b w3 (h3.cell 4)) rfl q17.z (by decide) ?_
  rintro e w4 ⟨rfl, b4⟩
  refine ⟨_, rfl, q17.k fun _ q18 => ?_⟩;clear q17
  have y4 := b4.size
  have h4 := h3.later b4
  refine q18.t (.bool true) (ex_and (c := true) (b := true) (z := true) rfl (q18.a 17 rfl) (q18.a 19 rfl) rfl) fun _ q19 => ?_;clear q18
  refine q19.t (.bool true) (ex_move rfl (q19.e (j := 20) rfl)) fun _ q20 => ?_;clear q19
  refine vl _ (.pointer (some ⟨b, 0, none⟩)) (want_g rfl rfl (q20.a 21 rfl)) (fun hc => ex_move rfl (q20.e (j := 0) rfl)) rfl q20.z (by decide) (q20.k fun _ q21 => ?_);clear q20
  refine vcallP (show Region.wanted _ _ = (true && (true == true)) from want_g rfl rfl (q21.a 21 rfl)) (ex_call rfl (by simp only [List.map_toArray, List.map_cons, List.map_nil, (ev (q21.a 22 rfl) rfl), evc] <;> rfl) rfl) (apartRows_nil b w4 (h4.cell 5)) rfl q21.z (by decide) ?_
  rintro e w5 ⟨rfl, b5⟩
  refine ⟨_, rfl, q21.k fun _ q22 => ?_⟩;clear q21
  have y5 := b5.size
  have h5 := h4.later b5
  refine q22.t (.bool true) (ex_and (c := true) (b := true) (z := true) rfl (q22.a 21 rfl) (q22.a 23 rfl) rfl) fun _ q23 => ?_;clear q22
  refine q23.t (.bool true) (ex_move rfl (q23.e (j := 24) rfl)) fun _ q24 => ?_;clear q23
  refine vl _ (.pointer (some ⟨b, 0, none⟩)) (want_g rfl rfl (q24.a 25 rfl)) (fun hc => ex_move rfl (q24.e (j := 0) rfl)) rfl q24.z (by decide) (q24.k fun _ q25 => ?_);clear q24
  refine vcallP (show Region.wanted _ _ = (true && (true == true)) from want_g rfl rfl (q25.a 25 rfl)) (ex_call rfl (by simp only [List.map_toArray, List.map_cons, List.map_nil, (ev (q25.a 26 rfl) rfl), evc] <;> rfl) rfl) (apartResults_nil b w5 (h5.cell 6)) rfl q25.z (by decide) ?_
  rintro e w6 ⟨rfl, b6⟩
  refine ⟨_, rfl, q25.k fun _ q26 => ?_⟩;clear q25
  have y6 := b6.size
  have h6 := h5.later b6
  refine q26.t (.bool true) (ex_and (c := true) (b := true) (z := true) rfl (q26.a 25 rfl) (q26.a 27 rfl) rfl) fun _ q27 => ?_;clear q26
  refine q27.t (.bool true) (ex_move rfl (q27.e (j := 28) rfl)) fun _ q28 => ?_;clear q27
  refine vl _ (.pointer (some ⟨b, 0, none⟩)) (want_g rfl rfl (q28.a 29 rfl)) (fun hc => ex_move rfl (q28.e (j := 0) rfl)) rfl q28.z (by decide) (q28.k fun _ q29 => ?_);clear q28
  refine vcallP (show Region.wanted _ _ = (true && (true == true)) from want_g rfl rfl (q29.a 29 rfl)) (ex_call rfl (by simp only [List.map_toArray, List.map_cons, List.map_nil, (ev (q29.a 30 rfl) rfl), evc] <;> rfl) rfl) (apartStamps_nil b w6 (h6.cell 7)) rfl q29.z (by decide) ?_
  rintro e w7 ⟨rfl, b7⟩
  refine ⟨_, rfl, q29.k fun _ q30 => ?_⟩;clear q29
  have y7 := b7.size
  have h7 := h6.later b7
  refine q30.t (.bool true) (ex_and (c := true) (b := true) (z := true) rfl (q30.a 29 rfl) (q30.a 31 rfl) rfl) fun _ q31 => ?_;clear q30
  refine q31.t (.bool true) (ex_move rfl (q31.e (j := 32) rfl)) fun _ q32 => ?_;clear q31
  refine vl _ (.pointer (some ⟨b, 0, none⟩)) (want_g rfl rfl (q32.a 33 rfl)) (fun hc => ex_move rfl (q32.e (j := 0) rfl)) rfl q32.z (by decide) (q32.k fun _ q33 => ?_);clear q32
  refine vcallP (show Region.wanted _ _ = (true && (true == true)) from want_g rfl rfl (q33.a 33 rfl)) (ex_call rfl (by simp only [List.map_toArray, List.map_cons, List.map_nil, (ev (q33.a 34 rfl) rfl), evc] <;> rfl) rfl) (apartAcks_nil b w7 (h7.cell 8)) rfl q33.z (by decide) ?_
  rintro e w8 ⟨rfl, b8⟩
  refine ⟨_, rfl, q33.k fun _ q34 => ?_⟩;clear q33
  have y8 := b8.size
  have h8 := h7.later b8
  refine q34.t (.bool true) (ex_and (c := true) (b := true) (z := true) rfl (q34.a 33 rfl) (q34.a 35 rfl) rfl) fun _ q35 => ?_;clear q34
  refine q35.t (.bool true) (ex_move rfl (q35.e (j := 36) rfl)) fun _ q36 => ?_;clear q35
  refine vl _ (.pointer (some ⟨b, 0, none⟩)) (want_g rfl rfl (q36.a 37 rfl)) (fun hc => ex_move rfl (q36.e (j := 0) rfl)) rfl q36.z (by decide) (q36.k fun _ q37 => ?_);clear q36
  refine vcallP (show Region.wanted _ _ = (true && (true == true)) from want_g rfl rfl (q37.a 37 rfl)) (ex_call rfl (by simp only [List.map_toArray, List.map_cons, List.map_nil, (ev (q37.a 38 rfl) rfl), evc] <;> rfl) rfl) (apartMarks_nil b w8 (h8.cell 9)) rfl q37.z (by decide) ?_
  rintro e w9 ⟨rfl, b9⟩
  refine ⟨_, rfl, q37.k fun _ q38 => ?_⟩;clear q37
  have y9 := b9.size
  have h9 := h8.later b9
  refine q38.t (.bool true) (ex_and (c := true) (b := true) (z := true) rfl (q38.a 37 rfl) (q38.a 39 rfl) rfl) fun _ q39 => ?_;clear q38
  refine q39.t (.bool true) (ex_assign rfl (q39.e (j := 40) rfl)) fun _ q40 => ?_;clear q39
  refine wpList_nil ?_
  go_wp2
  refine bodyPost_ret (results_tmp rfl _ _ _) rfl ?_
  rw [getD_of (q40.a 2 rfl)]
  exact ⟨rfl, ((((((((((Upd.of_below (S := RwB K) b0)).trans (b1)).trans (Upd.of_below b2)).trans (Upd.of_below b3)).trans (Upd.of_below b4)).trans (Upd.of_below b5)).trans (Upd.of_below b6)).trans (Upd.of_below b7)).trans (Upd.of_below b8)).trans (Upd.of_below b9)⟩
end Go.Proofs.Ytjabbplfbjaenaa
