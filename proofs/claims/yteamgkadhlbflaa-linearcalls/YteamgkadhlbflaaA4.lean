import Derived.WalkMore
import Derived.Laws.EntriesVeiled
import Derived.Lib.MinMax
import Derived.Test.YteamgkadhlbflaaA3
set_option maxRecDepth 100000
set_option linter.unusedVariables false
set_option linter.unusedSimpArgs false
namespace Go.Proofs.Yteamgkadhlbflaa
open Go.RowKit Go.Maps
open Classical
set_option maxHeartbeats 4000000 in
theorem search_step {l : List Kl} {a : Option Addr} {c : Nat} {w0 : World} {lb vb ob sb mb : Nat} (hl8 : l.length ≤ 8) (hfx : ∀ x ∈ l, x.fits) (k : Nat) (ih : ∀ k', k' + 1 = k → SC l a c w0 lb vb ob sb mb k') : SC l a c w0 lb vb ob sb mb k := by
  intro D L b m O v n V w hD hU hL8 hO8 hn hLed hST hbo hbv hmm
  have HLe : ∀ W, Below w.heap.size w W → Led W b m L := fun W hW => hLed.upd (S := fun _ => False) (Upd.of_below hW) id (fun _ _ => id)
  have hi8 : (Try.prog.info? 128).map (·.size) = some (D.map Value.bool).length := by rw [List.length_map, hD]; exact info8
  obtain ⟨lt1, lt2, lt3, lt4, lt5, lt6⟩ := hST.lts
  have hok := hLed.ok
  have hbl := hLed.lt
  go_enter Try.func60, Try.ntmps60
  go_upto_region 0 with fail
  refine wp_region_lit ?_
  refine vl_gen (fun T => Rp T 98 [(5, gw true (.pointer (some ⟨sb, 0, none⟩))), (4, gw true (.pointer (some ⟨ob, 0, none⟩))), (3, gw true (.pointer (some ⟨vb, 0, none⟩))), (2, gw true (.pointer (some ⟨lb, 0, none⟩))), (1, gw true (.pointer (some ⟨b, 0, none⟩))), (0, gw true (.agg (D.map Value.bool).toArray))]) ((((((Rp.nil rfl).cons rfl).cons rfl).cons rfl).cons rfl).cons rfl |>.cons rfl) (fun Z0 q0 => ?_)
  obtain ⟨w1, hw1⟩ : ∃ y, y = w.alloc (.cells (D.map Value.bool).toArray 128) := ⟨_, rfl⟩
  refine vw (.pointer (some ⟨w.heap.size, 0, none⟩)) w1 (want_none rfl) (ex_box18 rfl (q0.e (j := 0) rfl) (by rw [hw1]; exact bxB8 _ _)) rfl q0.z (by decide) (q0.k fun _ q1 => ?_);clear q0
  refine q1.t (.bool false) (ex_assign rfl rfl) fun _ q2 => ?_;clear q1
  have B6 : BB w1 w.heap.size 128 (D.map Value.bool) := by rw [hw1]; exact BB.new _ _ _
  have c1 : Below w.heap.size w w1 := by rw [hw1]; exact (Below.refl _ _).alloc (Nat.le_refl _) _
  have z1 : w1.heap.size = w.heap.size + 1 := by rw [hw1]; simp
  clear hw1
  have q3 := (((((((Rp.nil q2.z).cons (q2.a 1 rfl)).cons (q2.a 2 rfl)).cons (q2.a 3 rfl)).cons (q2.a 4 rfl)).cons (q2.a 5 rfl)).cons (q2.a 6 rfl))
  clear q2
  refine wpList_nil ?_
  go_upto_region 1 with go_step3
  refine vq_start (C := fun v => Below w1.heap.size w1 v) (by kernel_rfl) (by kernel_rfl) (Below.refl _ _).drew ?_
  have hST1 := hST.later c1
  refine q3.q (.slice a l.length c) (fun v hv => ex_ld rfl (q3.e (j := 2) rfl) (ldSlK (hST1.later hv).c0)) fun _ q4 => ?_;clear q3
  refine q4.q (.slice (some ⟨w.heap.size, 0, none⟩) D.length 8) (fun v hv => ex_sl18 rfl (q4.e (j := 6) rfl) (by rw [hD]; exact slB8 _ _)) fun _ q5 => ?_;clear q4
  refine vq_call18 (true) (.bool (lckK l D)) (want_none rfl) (fun hc v hv => ex_call rfl (by simp only [List.map_toArray, List.map_cons, List.map_nil, (q5.e (j := 18) rfl), (q5.e (j := 19) rfl), evc] <;> rfl) rfl) (fun hc v hv => bel18 hv (lacks_any l a c D _ 8 v (hST1.later hv).sl ((B6.later hv).sl8 hD) (by omega)) hv.size) rfl q5.z (by decide) (q5.k fun _ q6 => ?_);clear q5
  refine q6.q (.bool (!lckK l D)) (fun v hv => ex_not rfl (q6.e (j := 20) rfl)) fun _ q7 => ?_;clear q6
  refine vq_nil (fun x1 hx1 => ?_)
  have z2 := hx1.size
  have cx1 : Below w.heap.size w x1 := c1.trans (hx1.mono (by omega))
  have q8 := ((((((((Rp.nil q7.z).cons (q7.a 1 rfl)).cons (q7.a 2 rfl)).cons (q7.a 3 rfl)).cons (q7.a 4 rfl)).cons (q7.a 5 rfl)).cons (q7.a 6 rfl)).cons (q7.a 21 rfl))
  clear q7
  cases hlk : lckK l D with
  | false =>
    have hs : srK l k D L = some [] := by cases k <;> simp [srK, hlk]
    have q9x := q8.a 21 rfl
    rw [hlk] at q9x
    go_upto_region 2 with fail
    refine wp_cond_true (ev q9x rfl) ?_
    go_upto_region 2 with fail
    refine wp_region_lit ?_
    refine q8.t (.bool true) (ex_assign rfl rfl) fun _ q10 => ?_
    refine wpList_nil ?_
    go_wp2
    rw [Exit.noGoto_ret]
    refine (bodyPost_ret (P := Try.prog) (fn := Try.f60) (R := fun e w' => e = .returned (.bool (srK l k D L).isSome) ∧ SP l a c w0 lb vb ob sb mb (srK l k D L) k O v n w w') (results_tmp rfl _ _ _) rfl ⟨?_, ?_⟩)
    · rw [getD_of (q10.a 8 rfl)]
      rw [hs]; rfl
    · rw [hs]; exact SP.none_ hST cx1 rfl
  | true =>
    have q20x := q8.a 21 rfl
    rw [hlk] at q20x
    go_upto_region 3 with fail
    refine wp_cond_false (ev q20x rfl) ?_
    clear q20x
    obtain ⟨k, rfl⟩ : ∃ k1, k = k1 + 1 := by
      cases k with
      | zero => rw [lck_none (by omega)] at hlk; cases hlk
      | succ k => exact ⟨k, rfl⟩
    have IH := ih k rfl
    clear ih
    have hsr := srF_zero l k D L hlk
    have q21 := q8
    clear q8
    go_upto_region 3 with fail
    refine wp_region_lit ?_
    refine q21.t (.agg (D.map Value.bool).toArray) (ex_ld rfl (q21.e (j := 6) rfl) ((B6.later hx1).ld 128 Try.underlying128 rfl hi8)) fun _ q22 => ?_;clear q21
    refine q22.t (.pointer (some ⟨b, 0, none⟩)) (ex_move rfl (q22.e (j := 1) rfl)) fun _ q23 => ?_;clear q22
    refine vcallP (want_none rfl) (ex_call rfl (by simp only [List.map_toArray, List.map_cons, List.map_nil, (q23.e (j := 22) rfl), (q23.e (j := 23) rfl), evc] <;> rfl) rfl) (pointOf_any D b m L x1 hD (HLe x1 cx1) (by omega)) rfl q23.z (by decide) ?_
    rintro e x2 ⟨rfl, hx2⟩
    refine ⟨_, rfl, q23.k fun _ q24 => ?_⟩;clear q23
    have z3 := hx2.size
    have cx2 : Below w.heap.size w x2 := cx1.trans (hx2.mono (by omega))
    obtain ⟨x3, hx3⟩ : ∃ y, y = x2.alloc (.cells (p18 D0 0).toArray 131) := ⟨_, rfl⟩
    refine vw (.pointer (some ⟨x2.heap.size, 0, none⟩)) x3 (want_none rfl) (ex_al rfl (by rw [hx3]; exact alPt _)) rfl q24.z (by decide) (q24.k fun _ q25 => ?_);clear q24
    have B9 : BB x3 x2.heap.size 131 (p18 D0 0) := by rw [hx3]; exact BB.new _ _ _
    have hx3b : Below x2.heap.size x2 x3 := by rw [hx3]; exact (Below.refl _ _).alloc (Nat.le_refl _) _
    have z4 : x3.heap.size = x2.heap.size + 1 := by rw [hx3]; simp
    clear hx3
    have hq25 : (ptC D L).length = 25 := by simp [ptC, czs, hD]
    obtain ⟨x4, hx4⟩ : ∃ y, y = x3.setCells x2.heap.size 0 (ptC D L) := ⟨_, rfl⟩
    refine vs x4 (want_none rfl) (ex_st rfl (q25.e (j := 9) rfl) (q25.e (j := 24) rfl) (by rw [hx4]; exact B9.st 131 (ptC D L) (by rw [hq25]; rfl) (by rw [List.size_toArray, hq25]; exact info25) (ptC_one _ _))) rfl ?_
    have B9b : BB x4 x2.heap.size 131 (ptC D L) := by rw [hx4]; exact B9.whole _ (by rw [hq25]; rfl)
    have hx4b : Below x2.heap.size x2 x4 := by rw [hx4]; exact hx3b.trans (bel_ge (upd18 _ _ _ _) (by omega) (Nat.le_refl _))
    clear hx4 B9 hx3b z4
    have z4 := hx4b.size
    have cx4 : Below w.heap.size w x4 := cx2.trans (hx4b.mono (by omega))
    have q26 := ((((((((Rp.nil q25.z).cons (q25.a 1 rfl)).cons (q25.a 2 rfl)).cons (q25.a 3 rfl)).cons (q25.a 4 rfl)).cons (q25.a 5 rfl)).cons (q25.a 6 rfl)).cons (q25.a 9 rfl))
    clear q25
    refine wpList_nil ?_
    go_upto_region 4 with fail
    refine wp_region_lit ?_
    have hkey : zPt.ok (D, L) := ⟨hD, by show L.length ≤ 8; omega, hok⟩
    have hST4 := hST.later cx4
    refine q26.t (.map (some mb)) (ex_ld rfl (q26.e (j := 3) rfl) (ldMpK hST4.c1)) fun _ q27 => ?_;clear q26
    refine q27.t (.agg (ptC D L).toArray) (ex_ld rfl (q27.e (j := 9) rfl) (B9b.ld 131 Try.underlying131 rfl (by rw [hq25]; exact info25))) fun _ q28 => ?_;clear q27
    have hlook : (Instr.lookup 126 (.map (some mb)) (.agg (ptC D L).toArray) true).run Try.prog x4 = .ok (.tuple #[.agg #[], .bool (V (D, L)).isSome]) x4 := by
      refine (hST4.mp.look kPt true Try.underlying126 (z := .agg #[]) (by kernel_rfl) hkey).trans ?_
      cases hv : V (D, L) with
      | none => rfl
      | some u => rw [hST.vv _ _ hv]; rfl
    refine q28.t (.tuple #[.agg #[], .bool (V (D, L)).isSome]) (ex_look18 rfl (q28.e (j := 26) rfl) (q28.e (j := 27) rfl) hlook) fun _ q29 => ?_;clear q28
    refine q29.t (.tuple #[.agg #[], .bool (V (D, L)).isSome]) (ex_move rfl (q29.e (j := 28) rfl)) fun _ q30 => ?_;clear q29
    refine q30.t (.agg #[]) (ex_ext18 rfl (q30.e (j := 25) rfl) rfl) fun _ q31 => ?_;clear q30
    refine q31.t (.bool (V (D, L)).isSome) (ex_ext18 rfl (q31.e (j := 25) rfl) rfl) fun _ q32 => ?_;clear q31
    obtain ⟨x5, hx5⟩ : ∃ y, y = x4.alloc (.cells #[] 103) := ⟨_, rfl⟩
    refine vw (.pointer (some ⟨x4.heap.size, 0, none⟩)) x5 (want_none rfl) (ex_al rfl (by rw [hx5]; exact al0 _)) rfl q32.z (by decide) (q32.k fun _ q33 => ?_);clear q32
    refine vs x5 (want_none rfl) (ex_st rfl (q33.e (j := 10) rfl) (q33.e (j := 29) rfl) (st0 _ _)) rfl ?_
    refine q33.t (.bool (V (D, L)).isSome) (ex_assign rfl (q33.e (j := 30) rfl)) fun _ q34 => ?_;clear q33
    have hx5b : Below x4.heap.size x4 x5 := by rw [hx5]; exact (Below.refl _ _).alloc (Nat.le_refl _) _
    clear hx5 hlook
    have z5 := hx5b.size
    have cx5 : Below w.heap.size w x5 := cx4.trans (hx5b.mono (by omega))
    have B9c := B9b.later hx5b
    have B6c := (B6.later hx1).later (hx2.trans (((hx4b.trans (hx5b.mono (by omega)))).mono (by omega)))
    have q35 := (((((((((Rp.nil q34.z).cons (q34.a 1 rfl)).cons (q34.a 2 rfl)).cons (q34.a 3 rfl)).cons (q34.a 4 rfl)).cons (q34.a 5 rfl)).cons (q34.a 6 rfl)).cons (q34.a 9 rfl)).cons (q34.a 11 rfl))
    clear q34
    refine wpList_nil ?_
    go_upto_region 5 with fail
    refine wp_region_lit ?_
    refine q35.t (.bool (V (D, L)).isSome) (ex_move rfl (q35.e (j := 11) rfl)) fun _ q36 => ?_;clear q35
    refine wpList_nil ?_
    cases hV : (V (D, L)).isSome with
    | true =>
      have hs : srK l (k + 1) D L = none := hST.dd (D, L) hkey hV (k + 1) hU
      have q36x := q36.a 31 rfl
      rw [hV] at q36x
      go_upto_region 6 with fail
      refine wp_cond_true (ev q36x rfl) ?_
      go_upto_region 6 with fail
      refine wp_region_lit ?_
      refine q36.t (.bool false) (ex_assign rfl rfl) fun _ q37 => ?_;clear q36
      refine wpList_nil ?_
      go_wp2
      rw [Exit.noGoto_ret]
      refine (bodyPost_ret (P := Try.prog) (fn := Try.f60) (R := fun e w' => e = .returned (.bool (srK l (k + 1) D L).isSome) ∧ SP l a c w0 lb vb ob sb mb (srK l (k + 1) D L) (k + 1) O v n w w') (results_tmp rfl _ _ _) rfl ⟨?_, ?_⟩)
      · rw [getD_of (q37.a 8 rfl)]
        rw [hs]; rfl
      · rw [hs]; exact SP.none_ hST cx5 rfl
    | false =>
      have q36x := q36.a 31 rfl
      rw [hV] at q36x
      go_upto_region 7 with fail
      refine wp_cond_false (ev q36x rfl) ?_
      clear q36x
      go_upto_region 7 with go_step3
      refine wp_region_lit ?_
      have hST5 := hST.later cx5
      refine q36.t (.slice a l.length c) (ex_ld rfl (q36.e (j := 2) rfl) (ldSlK hST5.c0)) fun _ q37 => ?_;clear q36
      refine q37.t (.int .i64 (l.length : Int)) (ex_len18 rfl rfl (q37.e (j := 32) rfl)) fun _ q38 => ?_;clear q37
      refine q38.t (.int .i64 ((0 : Nat) : Int)) (ex_move rfl rfl) fun _ q39 => ?_;clear q38
      have q40 := (((((((((((Rp.nil q39.z).cons (q39.a 1 rfl)).cons (q39.a 2 rfl)).cons (q39.a 3 rfl)).cons (q39.a 4 rfl)).cons (q39.a 5 rfl)).cons (q39.a 6 rfl)).cons (q39.a 9 rfl)).cons (q39.a 32 rfl)).cons (q39.a 33 rfl)).cons (q39.a 34 rfl))
      clear q39
      refine wpList_nil ?_
      go_upto_region 8 with fail
      have hnb : ¬ SS ob mb v b := by
        rintro (e | e | e)
        · exact hbo e
        · exact hST.mne hLed.c0 e
        · exact hbv e
      have hnm : ∀ j, m = some j → ¬ SS ob mb v j := by
        rintro j hj (e | e | e)
        · obtain ⟨es, x, e2⟩ := hLed.map hj
          have := hST.c2
          rw [← e] at this
          simp [World.cell?, e2] at this
        · exact hmm (by rw [hj, e])
        · obtain ⟨es, x, e2⟩ := hLed.map hj
          exact hST.own.not_map e es x e2
      have h9 : 9 ^ (k + 1) = 9 * 9 ^ k := by rw [Nat.pow_succ]; omega
      have h91 := pow9 k
      refine v_loop 34 l.length (fun i T wr => Rp T 98 [(34, gw true (.int .i64 (i : Int))), (33, gw true (.int .i64 (l.length : Int))), (32, gw true (.slice a l.length c)), (9, gw true (.pointer (some ⟨x2.heap.size, 0, none⟩))), (6, gw true (.pointer (some ⟨w.heap.size, 0, none⟩))), (5, gw true (.pointer (some ⟨sb, 0, none⟩))), (4, gw true (.pointer (some ⟨ob, 0, none⟩))), (3, gw true (.pointer (some ⟨vb, 0, none⟩))), (2, gw true (.pointer (some ⟨lb, 0, none⟩))), (1, gw true (.pointer (some ⟨b, 0, none⟩)))] ∧ Hid (∃ v1 n1 V1, ST l a c w0 lb vb ob sb mb wr O v1 n1 V1 ∧ n1 ≤ n + i * 9 ^ k ∧ Upd (SS ob mb v) x5 wr ∧ (v1.ownBlock = v.ownBlock ∨ ∃ g, v1.ownBlock = some g ∧ x5.heap.size ≤ g) ∧ srF l k D L 0 = srF l k D L i)) (fun j T w h => h.1.a 34 rfl) ⟨q40, v, n, V, hST5, by omega, Upd.refl _ _, .inl rfl, rfl⟩ ?_
      clear q40
      intro i T wr hi hh
      obtain ⟨q100, HJ⟩ := hh
      obtain ⟨v1, n1, V1, hS1, hn1, hu1, hv1, hF⟩ := HJ.out
      clear HJ
      have z6 := hu1.size
      have B6r : BB wr w.heap.size 128 (D.map Value.bool) := B6c.upd hu1 (fun h => by have := hST.ss_lt h; omega)
      have B9r : BB wr x2.heap.size 131 (ptC D L) := B9c.upd hu1 (fun h => by have := hST.ss_lt h; omega)
      have hLr : Led wr b m L := (HLe x5 cx5).upd hu1 hnb hnm
      obtain ⟨m1, m2, m3, m4, m5, m6⟩ := hS1.lts
      by_cases hit : i < l.length
      · obtain ⟨x, hx⟩ : ∃ x, l[i]? = some x := ⟨_, List.getElem?_eq_getElem hit⟩
        have fx := hfx x (List.mem_of_getElem? hx)
        obtain ⟨qa, oa, hqa, hqa2, hlie⟩ := hS1.sl.place (by rintro rfl; simp at hx)
        have hFx := srF_at l k D L hx
        go_upto_region 8 with fail
        refine wp_region_lit ?_
        refine q100.t (.bool true) (ex_bin rfl (q100.e (j := 34) rfl) (q100.e (j := 33) rfl) (ltT _ _ hit _)) fun _ q101 => ?_;clear q100
        refine wpList_nil ?_
        go_upto_region 9 with fail
        refine wp_cond_true (q101.e (j := 35) rfl) ?_
        go_upto_region 9 with fail
        refine wp_region_lit ?_
        refine q101.t (.int .i64 (i : Int)) (ex_move rfl (q101.e (j := 34) rfl)) fun _ q102 => ?_;clear q101
        refine q102.t (.pointer (some ⟨qa, oa + i * 10, none⟩)) (ex_ix rfl (q102.e (j := 32) rfl) (q102.e (j := 34) rfl) (by rw [hqa]; exact ixK qa oa l.length c i hit _)) fun _ q103 => ?_;clear q102
        refine q103.t (x.val) (ex_ld rfl (q103.e (j := 37) rfl) (ldEl hlie hx)) fun _ q104 => ?_;clear q103
        obtain ⟨r1, hr1⟩ : ∃ y, y = wr.alloc (.cells zK.cs.toArray 45) := ⟨_, rfl⟩
        refine vw (.pointer (some ⟨wr.heap.size, 0, none⟩)) r1 (want_none rfl) (ex_al rfl (by rw [hr1]; exact alK _)) rfl q104.z (by decide) (q104.k fun _ q105 => ?_);clear q104
        refine q105.t (.int .i64 (i : Int)) (ex_assign rfl (q105.e (j := 36) rfl)) fun _ q106 => ?_;clear q105
        have Bz : BB r1 wr.heap.size 45 zK.cs := by rw [hr1]; exact BB.new _ _ _
        have hr1b : Below wr.heap.size wr r1 := by rw [hr1]; exact (Below.refl _ _).alloc (Nat.le_refl _) _
        clear hr1
        obtain ⟨r2, hr2⟩ : ∃ y, y = r1.setCells wr.heap.size 0 x.cs := ⟨_, rfl⟩
        refine vs r2 (want_none rfl) (ex_st rfl (q106.e (j := 13) rfl) (q106.e (j := 38) rfl) (by rw [hr2]; exact Bz.stK)) rfl ?_
        have B13 : BB r2 wr.heap.size 45 x.cs := by rw [hr2]; exact Bz.whole _ rfl
        have hr2b : Below wr.heap.size wr r2 := by rw [hr2]; exact hr1b.trans (bel_ge (upd18 _ _ _ _) hr1b.size (Nat.le_refl _))
        clear hr2 Bz hr1b
        have y2 := hr2b.size
        have hB13 := B13.lt
        have q107 := (((((((((((((Rp.nil q106.z).cons (q106.a 1 rfl)).cons (q106.a 2 rfl)).cons (q106.a 3 rfl)).cons (q106.a 4 rfl)).cons (q106.a 5 rfl)).cons (q106.a 6 rfl)).cons (q106.a 9 rfl)).cons (q106.a 32 rfl)).cons (q106.a 33 rfl)).cons (q106.a 34 rfl)).cons (q106.a 12 rfl)).cons (q106.a 13 rfl))
        clear q106
        refine wpList_nil ?_
        go_upto_region 10 with fail
        refine vq_start (C := fun v => Below r2.heap.size r2 v) (by kernel_rfl) (by kernel_rfl) (Below.refl _ _).drew ?_
        have B6s := B6r.later hr2b
        have hLs := hLr.upd (S := fun _ => False) (Upd.of_below hr2b) id (fun _ _ => id)
        refine q107.q (.int .i64 (i : Int)) (fun v hv => ex_move rfl (q107.e (j := 12) rfl)) fun _ q108 => ?_;clear q107
        refine q108.q (.pointer (some ⟨w.heap.size, i, none⟩)) (fun v hv => ex_ix rfl (q108.e (j := 6) rfl) (q108.e (j := 39) rfl) (ixB8 _ i (by omega) _)) fun _ q109 => ?_;clear q108
        refine q109.q (.bool (at9 D i)) (fun v hv => ex_ld rfl (q109.e (j := 40) rfl) ((B6s.later hv).ldB (by omega))) fun _ q110 => ?_;clear q109
        refine q110.q (.bool (at9 D i)) (fun v hv => ex_move rfl (q110.e (j := 41) rfl)) fun _ q111 => ?_;clear q110
        refine vq _ (x.val) (want_g rfl rfl (q111.a 42 rfl)) (fun hc v hv => ex_ld rfl (q111.e (j := 13) rfl) (B13.later hv).ldK) rfl q111.z (by decide) (q111.k fun _ q112 => ?_);clear q111
        refine vq_call18 (true && (at9 D i == false)) (.bool (ansK x)) (want_g rfl rfl (q112.a 42 rfl)) (fun hc v hv => ex_call rfl (by simp only [List.map_toArray, List.map_cons, List.map_nil, (ev (q112.a 43 rfl) hc), evc] <;> rfl) rfl) (fun hc v hv => bel18 hv (isAnswered_any x v) hv.size) rfl q112.z (by decide) (q112.k fun _ q113 => ?_);clear q112
        refine vq _ (.bool (ansK x)) (want_g rfl rfl (q113.a 42 rfl)) (fun hc v hv => ex_move rfl (ev (q113.a 44 rfl) hc)) rfl q113.z (by decide) (q113.k fun _ q114 => ?_);clear q113
        refine vq ((true && (at9 D i == false)) && (ansK x == true)) (.pointer (some ⟨b, 0, none⟩)) (want_g rfl rfl (q114.a 45 rfl)) (fun hc v hv => ex_move rfl (q114.e (j := 1) rfl)) rfl q114.z (by decide) (q114.k fun _ q115 => ?_);clear q114
        refine vq ((true && (at9 D i == false)) && (ansK x == true)) (.pointer (some ⟨wr.heap.size, 2, none⟩)) (want_g rfl rfl (q115.a 45 rfl)) (fun hc v hv => ex_fa rfl (q115.e (j := 13) rfl) (faK2 _ _)) rfl q115.z (by decide) (q115.k fun _ q116 => ?_);clear q115
        refine vq ((true && (at9 D i == false)) && (ansK x == true)) (.agg #[.int .i64 x.o.k, .int .i64 x.o.s, .string x.o.v]) (want_g rfl rfl (q116.a 45 rfl)) (fun hc v hv => ex_ld rfl (ev (q116.a 47 rfl) hc) (B13.later hv).ldO) rfl q116.z (by decide) (q116.k fun _ q117 => ?_);clear q116
        refine vq_call18 ((true && (at9 D i == false)) && (ansK x == true)) (.agg #[.int .i64 (wd L x.o.k x.o.s x.o.v).1, .int .i64 (wd L x.o.k x.o.s x.o.v).2.1, .string (wd L x.o.k x.o.s x.o.v).2.2]) (want_g rfl rfl (q117.a 45 rfl)) (fun hc v hv => ex_call rfl (by simp only [List.map_toArray, List.map_cons, List.map_nil, (ev (q117.a 46 rfl) hc), (ev (q117.a 48 rfl) hc), evc] <;> rfl) rfl) (fun hc v hv => bel18 hv (would3 b m L x.o.k x.o.s x.o.v fx.ow v (hLs.upd (S := fun _ => False) (Upd.of_below hv) id (fun _ _ => id))) hv.size) rfl q117.z (by decide) (q117.k fun _ q118 => ?_);clear q117
        refine vq ((true && (at9 D i == false)) && (ansK x == true)) (.pointer (some ⟨wr.heap.size, 7, none⟩)) (want_g rfl rfl (q118.a 45 rfl)) (fun hc v hv => ex_fa rfl (q118.e (j := 13) rfl) (faK5 _ _)) rfl q118.z (by decide) (q118.k fun _ q119 => ?_);clear q118
        refine vq ((true && (at9 D i == false)) && (ansK x == true)) (.agg #[.int .i64 x.r.1, .int .i64 x.r.2.1, .string x.r.2.2]) (want_g rfl rfl (q119.a 45 rfl)) (fun hc v hv => ex_ld rfl (ev (q119.a 50 rfl) hc) (B13.later hv).ldR) rfl q119.z (by decide) (q119.k fun _ q120 => ?_);clear q119
        refine vq ((true && (at9 D i == false)) && (ansK x == true)) (.bool (!decide (wd L x.o.k x.o.s x.o.v = x.r))) (want_g rfl rfl (q120.a 45 rfl)) (fun hc v hv => ex_bin rfl (ev (q120.a 49 rfl) hc) (ev (q120.a 51 rfl) hc) (neqR18 _ _ (wd L x.o.k x.o.s x.o.v) x.r _)) rfl q120.z (by decide) (q120.k fun _ q121 => ?_);clear q120
        refine vq _ (.bool (ansK x && !decide (wd L x.o.k x.o.s x.o.v = x.r))) (want_g rfl rfl (q121.a 42 rfl)) (fun hc v hv => ex_and rfl (q121.a 45 rfl) (q121.a 52 rfl) hc) rfl q121.z (by decide) (q121.k fun _ q122 => ?_);clear q121
        refine q122.q (.bool (at9 D i || offK L x)) (fun v hv => ex_or rfl (q122.a 42 rfl) (q122.a 53 rfl) rfl) fun _ q123 => ?_;clear q122
        refine vq_nil (fun r3 hr3 => ?_)
        have y3 := hr3.size
        have hr3b : Below wr.heap.size wr r3 := hr2b.trans (hr3.mono (by omega))
        have q124 := ((((((((((((((Rp.nil q123.z).cons (q123.a 1 rfl)).cons (q123.a 2 rfl)).cons (q123.a 3 rfl)).cons (q123.a 4 rfl)).cons (q123.a 5 rfl)).cons (q123.a 6 rfl)).cons (q123.a 9 rfl)).cons (q123.a 32 rfl)).cons (q123.a 33 rfl)).cons (q123.a 34 rfl)).cons (q123.a 12 rfl)).cons (q123.a 13 rfl)).cons (q123.a 54 rfl))
        clear q123
        cases hcn : (at9 D i || offK L x) with
        | true =>
          have q124x := q124.a 54 rfl
          rw [hcn] at q124x
          have hnx : nxtK l D L i x = false := by unfold nxtK; rw [hcn]; rfl
          go_upto_region 23 with fail
          refine wp_cond_true (ev q124x rfl) ?_
          clear q124x
          go_upto_region 23 with fail
          refine wp_region_lit ?_
          refine q124.t (.int .i64 ((i + 1 : Nat) : Int)) (ex_bin rfl (q124.e (j := 34) rfl) rfl (add1C _ _ i (by omega) _)) fun _ q125 => ?_;clear q124
          refine q125.t (.int .i64 ((i + 1 : Nat) : Int)) (ex_move rfl (q125.e (j := 94) rfl)) fun _ q126 => ?_;clear q125
          have q127 := (((((((((((Rp.nil q126.z).cons (q126.a 1 rfl)).cons (q126.a 2 rfl)).cons (q126.a 3 rfl)).cons (q126.a 4 rfl)).cons (q126.a 5 rfl)).cons (q126.a 6 rfl)).cons (q126.a 9 rfl)).cons (q126.a 32 rfl)).cons (q126.a 33 rfl)).cons (q126.a 34 rfl))
          clear q126
          refine wpList_nil ?_
          exact ⟨_, rfl, hit, q127, _, _, _, hS1.later hr3b, by rw [Nat.add_mul]; omega, hu1.trans18 (Upd.of_below (S := fun _ => False) hr3b) (fun _ _ h => h.elim), hv1, by rw [hF, hFx, hnx]; rfl⟩
        | false =>
          have q124x := q124.a 54 rfl
          rw [hcn] at q124x
          go_upto_region 11 with fail
          refine wp_cond_false (ev q124x rfl) ?_
          clear q124x
          go_upto_region 11 with fail
          refine wp_region_lit ?_
          refine q124.t (.slice a l.length c) (ex_ld rfl (q124.e (j := 2) rfl) (ldSlK (hS1.later hr3b).c0)) fun _ q125 => ?_;clear q124
          refine q125.t (.int .i64 (l.length : Int)) (ex_len18 rfl rfl (q125.e (j := 55) rfl)) fun _ q126 => ?_;clear q125
          refine q126.t (.int .i64 ((0 : Nat) : Int)) (ex_move rfl rfl) fun _ q127 => ?_;clear q126
          have q128 := ((((((((((((((((Rp.nil q127.z).cons (q127.a 1 rfl)).cons (q127.a 2 rfl)).cons (q127.a 3 rfl)).cons (q127.a 4 rfl)).cons (q127.a 5 rfl)).cons (q127.a 6 rfl)).cons (q127.a 9 rfl)).cons (q127.a 32 rfl)).cons (q127.a 33 rfl)).cons (q127.a 34 rfl)).cons (q127.a 12 rfl)).cons (q127.a 13 rfl)).cons (q127.a 55 rfl)).cons (q127.a 56 rfl)).cons (q127.a 57 rfl))
          clear q127
          refine wpList_nil ?_
          go_upto_region 12 with fail
          refine v_loop 57 l.length (fun j T u => Rp T 98 [(57, gw true (.int .i64 (j : Int))), (56, gw true (.int .i64 (l.length : Int))), (55, gw true (.slice a l.length c)), (13, gw true (.pointer (some ⟨wr.heap.size, 0, none⟩))), (12, gw true (.int .i64 (i : Int))), (34, gw true (.int .i64 (i : Int))), (33, gw true (.int .i64 (l.length : Int))), (32, gw true (.slice a l.length c)), (9, gw true (.pointer (some ⟨x2.heap.size, 0, none⟩))), (6, gw true (.pointer (some ⟨w.heap.size, 0, none⟩))), (5, gw true (.pointer (some ⟨sb, 0, none⟩))), (4, gw true (.pointer (some ⟨ob, 0, none⟩))), (3, gw true (.pointer (some ⟨vb, 0, none⟩))), (2, gw true (.pointer (some ⟨lb, 0, none⟩))), (1, gw true (.pointer (some ⟨b, 0, none⟩)))] ∧ Hid (Below r3.heap.size r3 u ∧ laI l D x j = false)) (fun j T w h => h.1.a 57 rfl) ⟨q128, Below.refl _ _, by simp [laI]⟩ ?_
          clear q128
          intro j T2 u hj hh2
          obtain ⟨q200, HJ2⟩ := hh2
          obtain ⟨hub, hla⟩ := HJ2.out
          clear HJ2
          have y4 := hub.size
          have hub2 : Below wr.heap.size wr u := hr3b.trans (hub.mono (by omega))
          have B6u := B6r.later hub2
          have B13u : BB u wr.heap.size 45 x.cs := B13.later (hr3.trans (hub.mono (by omega)))
          have hSu := hS1.later hub2
          by_cases hjt : j < l.length
          · obtain ⟨y, hy⟩ : ∃ y, l[j]? = some y := ⟨_, List.getElem?_eq_getElem hjt⟩
            obtain ⟨qb, obb, hqb, hqb2, hlie2⟩ := hSu.sl.place (by rintro rfl; simp at hx)
            have hls := laI_succ (D := D) (x := x) hy
            go_upto_region 12 with fail
            refine wp_region_lit ?_
            refine q200.t (.bool true) (ex_bin rfl (q200.e (j := 57) rfl) (q200.e (j := 56) rfl) (ltT _ _ hjt _)) fun _ q201 => ?_;clear q200
            refine wpList_nil ?_
            go_upto_region 13 with fail
            refine wp_cond_true (q201.e (j := 58) rfl) ?_
            go_upto_region 13 with fail
            refine wp_region_lit ?_
            refine q201.t (.int .i64 (j : Int)) (ex_move rfl (q201.e (j := 57) rfl)) fun _ q202 => ?_;clear q201
            refine q202.t (.pointer (some ⟨qb, obb + j * 10, none⟩)) (ex_ix rfl (q202.e (j := 55) rfl) (q202.e (j := 57) rfl) (by rw [hqb]; exact ixK qb obb l.length c j hjt _)) fun _ q203 => ?_;clear q202
            refine q203.t (y.val) (ex_ld rfl (q203.e (j := 60) rfl) (ldEl hlie2 hy)) fun _ q204 => ?_;clear q203
            obtain ⟨u1, hu1e⟩ : ∃ y, y = u.alloc (.cells zK.cs.toArray 45) := ⟨_, rfl⟩
            refine vw (.pointer (some ⟨u.heap.size, 0, none⟩)) u1 (want_none rfl) (ex_al rfl (by rw [hu1e]; exact alK _)) rfl q204.z (by decide) (q204.k fun _ q205 => ?_);clear q204
            refine q205.t (.int .i64 (j : Int)) (ex_assign rfl (q205.e (j := 59) rfl)) fun _ q206 => ?_;clear q205
            have Bz : BB u1 u.heap.size 45 zK.cs := by rw [hu1e]; exact BB.new _ _ _
            have hu1b : Below u.heap.size u u1 := by rw [hu1e]; exact (Below.refl _ _).alloc (Nat.le_refl _) _
            clear hu1e
            obtain ⟨u2, hu2e⟩ : ∃ z, z = u1.setCells u.heap.size 0 y.cs := ⟨_, rfl⟩
            refine vs u2 (want_none rfl) (ex_st rfl (q206.e (j := 15) rfl) (q206.e (j := 61) rfl) (by rw [hu2e]; exact Bz.stK)) rfl ?_
            have B15 : BB u2 u.heap.size 45 y.cs := by rw [hu2e]; exact Bz.whole _ rfl
            have hu2b : Below u.heap.size u u2 := by rw [hu2e]; exact hu1b.trans (bel_ge (upd18 _ _ _ _) hu1b.size (Nat.le_refl _))
            clear hu2e Bz hu1b
            have y5 := hu2b.size
            have q207 := ((((((((((((((((((Rp.nil q206.z).cons (q206.a 1 rfl)).cons (q206.a 2 rfl)).cons (q206.a 3 rfl)).cons (q206.a 4 rfl)).cons (q206.a 5 rfl)).cons (q206.a 6 rfl)).cons (q206.a 9 rfl)).cons (q206.a 32 rfl)).cons (q206.a 33 rfl)).cons (q206.a 34 rfl)).cons (q206.a 12 rfl)).cons (q206.a 13 rfl)).cons (q206.a 55 rfl)).cons (q206.a 56 rfl)).cons (q206.a 57 rfl)).cons (q206.a 14 rfl)).cons (q206.a 15 rfl))
            clear q206
            refine wpList_nil ?_
            go_upto_region 14 with fail
            refine wp_region_lit ?_
            refine q207.t (.int .i64 (j : Int)) (ex_move rfl (q207.e (j := 14) rfl)) fun _ q208 => ?_;clear q207
            refine q208.t (.pointer (some ⟨w.heap.size, j, none⟩)) (ex_ix rfl (q208.e (j := 6) rfl) (q208.e (j := 62) rfl) (ixB8 _ j (by omega) _)) fun _ q209 => ?_;clear q208
            refine q209.t (.bool (at9 D j)) (ex_ld rfl (q209.e (j := 63) rfl) ((B6u.later hu2b).ldB (by omega))) fun _ q210 => ?_;clear q209
            refine q210.t (.bool (!at9 D j)) (ex_not rfl (q210.e (j := 64) rfl)) fun _ q211 => ?_;clear q210
            refine q211.t (.bool (!at9 D j)) (ex_move rfl (q211.e (j := 65) rfl)) fun _ q212 => ?_;clear q211
            refine vl _ (y.val) (want_g rfl rfl (q212.a 66 rfl)) (fun hc => ex_ld rfl (q212.e (j := 15) rfl) B15.ldK) rfl q212.z (by decide) (q212.k fun _ q213 => ?_);clear q212
            refine vl _ (x.val) (want_g rfl rfl (q213.a 66 rfl)) (fun hc => ex_ld rfl (q213.e (j := 13) rfl) (B13u.later hu2b).ldK) rfl q213.z (by decide) (q213.k fun _ q214 => ?_);clear q213
            refine vcall (true && ((!at9 D j) == true)) (.bool (prcK y x)) (want_g rfl rfl (q214.a 66 rfl)) (fun hc => ex_call rfl (by simp only [List.map_toArray, List.map_cons, List.map_nil, (ev (q214.a 67 rfl) hc), (ev (q214.a 68 rfl) hc), evc] <;> rfl) rfl) (fun hc => precedes_any y x u2) rfl q214.z (by decide) (q214.kc fun _ u3 hb3 q215 => ?_);clear q214
            refine q215.t (.bool (!at9 D j && prcK y x)) (ex_and rfl (q215.a 66 rfl) (q215.a 69 rfl) rfl) fun _ q216 => ?_;clear q215
            have hu3b : Below u.heap.size u u3 := hu2b.trans (hb3.mono y5)
            have y6 := hu3b.size
            have q217 := (((((((((((((((((Rp.nil q216.z).cons (q216.a 1 rfl)).cons (q216.a 2 rfl)).cons (q216.a 3 rfl)).cons (q216.a 4 rfl)).cons (q216.a 5 rfl)).cons (q216.a 6 rfl)).cons (q216.a 9 rfl)).cons (q216.a 32 rfl)).cons (q216.a 33 rfl)).cons (q216.a 34 rfl)).cons (q216.a 12 rfl)).cons (q216.a 13 rfl)).cons (q216.a 55 rfl)).cons (q216.a 56 rfl)).cons (q216.a 57 rfl)).cons (q216.a 70 rfl))
            clear q216
            refine wpList_nil ?_
            cases hpc : (!at9 D j && prcK y x) with
            | true =>
              have q217x := q217.a 70 rfl
              rw [hpc] at q217x
              have hnx : nxtK l D L i x = false := by
                have : lateK l D x = true := late_of (j := j + 1) (by omega) (by rw [hls, hla, hpc]; rfl)
                unfold nxtK
                rw [hcn, this]
                rfl
              go_upto_region 23 with fail
              refine wp_cond_true (ev q217x rfl) ?_
              clear q217x
              go_upto_region 23 with fail
              refine wp_region_lit ?_
              refine q217.t (.int .i64 ((i + 1 : Nat) : Int)) (ex_bin rfl (q217.e (j := 34) rfl) rfl (add1C _ _ i (by omega) _)) fun _ q218 => ?_;clear q217
              refine q218.t (.int .i64 ((i + 1 : Nat) : Int)) (ex_move rfl (q218.e (j := 94) rfl)) fun _ q219 => ?_;clear q218
              have q220 := (((((((((((Rp.nil q219.z).cons (q219.a 1 rfl)).cons (q219.a 2 rfl)).cons (q219.a 3 rfl)).cons (q219.a 4 rfl)).cons (q219.a 5 rfl)).cons (q219.a 6 rfl)).cons (q219.a 9 rfl)).cons (q219.a 32 rfl)).cons (q219.a 33 rfl)).cons (q219.a 34 rfl))
              clear q219
              refine wpList_nil ?_
              exact ⟨_, rfl, hit, q220, _, _, _, hSu.later hu3b, by rw [Nat.add_mul]; omega, (hu1.trans18 (Upd.of_below (S := fun _ => False) hub2) (fun _ _ h => h.elim)).trans18 (Upd.of_below (S := fun _ => False) hu3b) (fun _ _ h => h.elim), hv1, by rw [hF, hFx, hnx]; rfl⟩
            | false =>
              have q217x := q217.a 70 rfl
              rw [hpc] at q217x
              go_upto_region 15 with fail
              refine wp_cond_false (ev q217x rfl) ?_
              clear q217x
              go_upto_region 15 with fail
              refine wp_region_lit ?_
              refine q217.t (.int .i64 ((j + 1 : Nat) : Int)) (ex_bin rfl (q217.e (j := 57) rfl) rfl (add1C _ _ j (by omega) _)) fun _ q218 => ?_;clear q217
              refine q218.t (.int .i64 ((j + 1 : Nat) : Int)) (ex_move rfl (q218.e (j := 71) rfl)) fun _ q219 => ?_;clear q218
              have q220 := ((((((((((((((((Rp.nil q219.z).cons (q219.a 1 rfl)).cons (q219.a 2 rfl)).cons (q219.a 3 rfl)).cons (q219.a 4 rfl)).cons (q219.a 5 rfl)).cons (q219.a 6 rfl)).cons (q219.a 9 rfl)).cons (q219.a 32 rfl)).cons (q219.a 33 rfl)).cons (q219.a 34 rfl)).cons (q219.a 12 rfl)).cons (q219.a 13 rfl)).cons (q219.a 55 rfl)).cons (q219.a 56 rfl)).cons (q219.a 57 rfl))
              clear q219
              refine wpList_nil ?_
              exact ⟨_, rfl, hjt, q220, hub.trans (hu3b.mono (by omega)), by rw [hls, hla, hpc]; rfl⟩
          · obtain rfl : j = l.length := by omega
            have hlt : lateK l D x = false := hla
            have hnx : nxtK l D L i x = true := by unfold nxtK; rw [hcn, hlt]; rfl
            go_upto_region 12 with fail
            refine wp_region_lit ?_
            refine q200.t (.bool false) (ex_bin rfl (q200.e (j := 57) rfl) (q200.e (j := 56) rfl) (ltF _ _ hjt _)) fun _ q201 => ?_;clear q200
            refine wpList_nil ?_
            go_upto_region 16 with fail
            refine wp_cond_false (q201.e (j := 58) rfl) ?_
            go_upto_region 16 with fail
            refine v_cut18 (fun T' w' => ∃ q16 bb mm, Rp T' 98 [(17, gw true (.pointer (some ⟨bb, 0, none⟩))), (16, gw true (.pointer (some ⟨q16, 0, none⟩))), (13, gw true (.pointer (some ⟨wr.heap.size, 0, none⟩))), (12, gw true (.int .i64 (i : Int))), (34, gw true (.int .i64 (i : Int))), (33, gw true (.int .i64 (l.length : Int))), (32, gw true (.slice a l.length c)), (9, gw true (.pointer (some ⟨x2.heap.size, 0, none⟩))), (6, gw true (.pointer (some ⟨w.heap.size, 0, none⟩))), (5, gw true (.pointer (some ⟨sb, 0, none⟩))), (4, gw true (.pointer (some ⟨ob, 0, none⟩))), (3, gw true (.pointer (some ⟨vb, 0, none⟩))), (2, gw true (.pointer (some ⟨lb, 0, none⟩))), (1, gw true (.pointer (some ⟨b, 0, none⟩)))] ∧ BB w' q16 128 (D.map Value.bool) ∧ Led w' bb mm L ∧ u.heap.size ≤ q16 ∧ u.heap.size ≤ bb ∧ (∀ j, mm = some j → u.heap.size ≤ j) ∧ q16 ≠ bb ∧ Below u.heap.size u w') ?_ ?_
            · refine vh_start (fun v => Below u.heap.size u v) (by kernel_rfl) ?_
              have hSd : Below u.heap.size u u.drew := (Below.refl _ _).drew
              have hzd : u.drew.heap.size = u.heap.size := rfl
              generalize u.drew = d at *
              have hLd := hLr.upd (S := fun _ => False) (Upd.of_below (hub2.trans (hSd.mono (by omega)))) id (fun _ _ => id)
              have hAd : Below u.heap.size u (d.alloc (.cells (D0.map Value.bool).toArray 128)) := hSd.alloc (by omega) _
              refine vh_take 0 true (.agg (D.map Value.bool).toArray) rfl (by kernel_rfl) (by kernel_rfl) (by kernel_rfl) (want_none rfl) (fun hc v hv => ex_ld rfl (q201.e (j := 6) rfl) ((B6u.later hv).ld 128 Try.underlying128 rfl hi8)) rfl q201.z (by decide) hSd (q201.k fun _ q202 => ?_);clear q201
              refine vh_take 1 true (.pointer (some ⟨b, 0, none⟩)) rfl (by kernel_rfl) (by kernel_rfl) (by kernel_rfl) (want_none rfl) (fun hc v hv => ex_move rfl (q202.e (j := 1) rfl)) rfl q202.z (by decide) hSd (q202.k fun _ q203 => ?_);clear q202
              refine vh_two18 2 3 (by kernel_rfl) rfl rfl (want_none rfl) (ex_call rfl (by simp only [List.map_toArray, List.map_cons, List.map_nil, (q203.e (j := 73) rfl), evc] <;> rfl) rfl) (clone_any b m L d hLd) rfl q203.z (by decide) ?_ (.pointer (some ⟨d.heap.size, 0, none⟩)) _ (want_none rfl) (ex_al rfl (alB8 _)) rfl (by decide) hAd ?_
              · rintro e d1 ⟨rfl, mm, hL1, hg1, hg2, hb1⟩
                have hb1u : Below u.heap.size u d1 := hSd.trans (hb1.mono (by omega))
                have y7 := hb1.size
                have hA1 : Below u.heap.size u (d1.alloc (.cells (D0.map Value.bool).toArray 128)) := hb1u.alloc (by omega) _
                have hNew := BB.new d1 128 (D0.map Value.bool)
                refine ⟨_, rfl, hb1u, q203.k fun _ q204 => ?_⟩
                clear q203
                refine vh_val18 3 (.pointer (some ⟨d1.heap.size, 0, none⟩)) _ rfl (by kernel_rfl) (want_none rfl) (ex_al rfl (alB8 _)) rfl q204.z (by decide) hA1 (q204.k fun _ q205 => ?_)
                clear q204
                have hA2 : Below u.heap.size u ((d1.alloc (.cells (D0.map Value.bool).toArray 128)).setCells d1.heap.size 0 (D.map Value.bool)) := hA1.trans (bel_ge (upd18 _ _ _ _) hA1.size (by omega))
                refine vh_store18 4 _ rfl (by kernel_rfl) (want_none rfl) (ex_st rfl (q205.e (j := 16) rfl) (q205.e (j := 72) rfl) (hNew.st 128 (D.map Value.bool) (by rw [List.length_map, hD]; rfl) (by rw [List.size_toArray]; exact hi8) (oneB _))) rfl hA2 ?_
                refine vh_val18 5 (.pointer (some ⟨d.heap.size, 0, none⟩)) _ rfl (by kernel_rfl) (want_none rfl) (ex_assign rfl (ev (q205.a 74 rfl) rfl)) rfl q205.z (by decide) hA2 (q205.k fun _ q206 => ?_)
                clear q205
                refine vh_done (by kernel_rfl) ?_
                have q207 := (((((((((((((((Rp.nil q206.z).cons (q206.a 1 rfl)).cons (q206.a 2 rfl)).cons (q206.a 3 rfl)).cons (q206.a 4 rfl)).cons (q206.a 5 rfl)).cons (q206.a 6 rfl)).cons (q206.a 9 rfl)).cons (q206.a 32 rfl)).cons (q206.a 33 rfl)).cons (q206.a 34 rfl)).cons (q206.a 12 rfl)).cons (q206.a 13 rfl)).cons (q206.a 16 rfl)).cons (q206.a 17 rfl))
                clear q206
                have hL2 : Led (d1.alloc (.cells (D0.map Value.bool).toArray 128)) d.heap.size mm L := hL1.upd (S := fun _ => False) (Upd.of_below ((Below.refl _ _).alloc (Nat.le_refl _) _)) id (fun _ _ => id)
                have hlt1 := hL1.lt
                exact ⟨_, rfl, d1.heap.size, d.heap.size, mm, q207, hNew.whole _ (by rw [List.length_map, hD]; rfl), hL2.upd (upd18 _ _ _ _) (by omega) (fun j e => by have := hL1.mlt e; omega), by omega, by omega, fun j e => by have := hg2 j e; omega, by omega, hA2⟩
              · refine q203.k fun _ q204 => ?_
                clear q203
                have hNew := BB.new d 128 (D0.map Value.bool)
                have hzz : (d.alloc (.cells (D0.map Value.bool).toArray 128)).heap.size = d.heap.size + 1 := by simp
                have hLe2 := hLd.upd (S := fun _ => False) (Upd.of_below ((Below.refl _ _).alloc (Nat.le_refl _) (.cells (D0.map Value.bool).toArray 128))) id (fun _ _ => id)
                generalize d.alloc (.cells (D0.map Value.bool).toArray 128) = d0 at *
                refine vh_call 2 rfl (by kernel_rfl) (want_none rfl) (ex_call rfl (by simp only [List.map_toArray, List.map_cons, List.map_nil, (q204.e (j := 73) rfl), evc] <;> rfl) rfl) (clone_any b m L d0 hLe2) rfl q204.z (by decide) ?_
                rintro e d1 ⟨rfl, mm, hL1, hg1, hg2, hb1⟩
                have hb1u : Below u.heap.size u d1 := hAd.trans (hb1.mono (by omega))
                have y7 := hb1.size
                replace hNew := hNew.later hb1
                refine ⟨_, rfl, hb1u, q204.k fun _ q205 => ?_⟩
                clear q204
                have hA2 : Below u.heap.size u (d1.setCells d.heap.size 0 (D.map Value.bool)) := hb1u.trans (bel_ge (upd18 _ _ _ _) hb1u.size (by omega))
                refine vh_store18 4 _ rfl (by kernel_rfl) (want_none rfl) (ex_st rfl (q205.e (j := 16) rfl) (q205.e (j := 72) rfl) (hNew.st 128 (D.map Value.bool) (by rw [List.length_map, hD]; rfl) (by rw [List.size_toArray]; exact hi8) (oneB _))) rfl hA2 ?_
                refine vh_val18 5 (.pointer (some ⟨d0.heap.size, 0, none⟩)) _ rfl (by kernel_rfl) (want_none rfl) (ex_assign rfl (ev (q205.a 74 rfl) rfl)) rfl q205.z (by decide) hA2 (q205.k fun _ q206 => ?_)
                clear q205
                refine vh_done (by kernel_rfl) ?_
                have q207 := (((((((((((((((Rp.nil q206.z).cons (q206.a 1 rfl)).cons (q206.a 2 rfl)).cons (q206.a 3 rfl)).cons (q206.a 4 rfl)).cons (q206.a 5 rfl)).cons (q206.a 6 rfl)).cons (q206.a 9 rfl)).cons (q206.a 32 rfl)).cons (q206.a 33 rfl)).cons (q206.a 34 rfl)).cons (q206.a 12 rfl)).cons (q206.a 13 rfl)).cons (q206.a 16 rfl)).cons (q206.a 17 rfl))
                clear q206
                exact ⟨_, rfl, d.heap.size, d0.heap.size, mm, q207, hNew.whole _ (by rw [List.length_map, hD]; rfl), hL1.upd (upd18 _ _ _ _) (by omega) (fun j e => by have := hg2 j e; omega), by omega, by omega, fun j e => by have := hg2 j e; omega, by omega, hA2⟩
            · rintro T3 e1 ⟨q16, bb, mm, q300, Bq, hLq, hq1, hq2, hq3, hq4, hqb⟩
              clear q201
              have y8 := hqb.size
              have hqw : Below wr.heap.size wr e1 := hub2.trans (hqb.mono (by omega))
              have B13e := B13u.later hqb
              go_upto_region 17 with fail
              refine wp_region_lit ?_
              refine q300.t (.int .i64 (i : Int)) (ex_move rfl (q300.e (j := 12) rfl)) fun _ q301 => ?_;clear q300
              refine q301.t (.pointer (some ⟨q16, i, none⟩)) (ex_ix rfl (q301.e (j := 16) rfl) (q301.e (j := 75) rfl) (ixB8 _ i (by omega) _)) fun _ q302 => ?_;clear q301
              obtain ⟨e2, he2⟩ : ∃ y, y = e1.setCell ⟨q16, i, none⟩ (.bool true) := ⟨_, rfl⟩
              refine vs e2 (want_none rfl) (ex_st rfl (q302.e (j := 76) rfl) rfl (by rw [he2]; exact stBo (u := .bool (at9 D i)) (by rw [Bq.cell, List.getElem?_map, List.getElem?_eq_getElem (by omega : i < D.length)]; simp [at9, List.getElem?_eq_getElem (by omega : i < D.length)]) (Bq.free _))) rfl ?_
              have ue2 : Upd (fun k => k = q16) e1 e2 := by rw [he2]; exact (Upd.refl (fun k => k = q16) _).setCell (p := ⟨q16, i, none⟩) (.inl rfl) _
              have Bq2 : BB e2 q16 128 ((D.set i true).map Value.bool) := by rw [he2, List.map_set]; exact Bq.set1 i _
              clear he2
              have hq2w : Below wr.heap.size wr e2 := hqw.trans (bel_ge ue2 (by omega) (by omega))
              have hLq2 := hLq.upd ue2 (fun e => hq4 e.symm) (fun j e e5 => by obtain ⟨es, xx, e6⟩ := hLq.map e; have := Bq; unfold BB at this; rw [← e5, e6] at this; cases this)
              have B13f := B13e.upd ue2 (by omega)
              have y9 := ue2.size
              refine wpList_nil ?_
              go_upto_region 18 with fail
              refine wp_region_lit ?_
              refine q302.t (.pointer (some ⟨bb, 0, none⟩)) (ex_move rfl (q302.e (j := 17) rfl)) fun _ q303 => ?_;clear q302
              refine q303.t (.pointer (some ⟨wr.heap.size, 2, none⟩)) (ex_fa rfl (q303.e (j := 13) rfl) (faK2 _ _)) fun _ q304 => ?_;clear q303
              refine q304.t (.agg #[.int .i64 x.o.k, .int .i64 x.o.s, .string x.o.v]) (ex_ld rfl (q304.e (j := 78) rfl) B13f.ldO) fun _ q305 => ?_;clear q304
              refine vcallP (want_none rfl) (ex_call rfl (by simp only [List.map_toArray, List.map_cons, List.map_nil, (q305.e (j := 77) rfl), (q305.e (j := 79) rfl), evc] <;> rfl) rfl) (do3 bb mm L x.o.k x.o.s x.o.v fx.ow e2 hLq2) rfl q305.z (by decide) ?_
              rintro e e3 ⟨rfl, m3, hL3, hm3, ue3⟩
              refine ⟨_, rfl, q305.k fun _ q306 => ?_⟩;clear q305
              have y10 := ue3.size
              have hq3w : Below wr.heap.size wr e3 := hq2w.trans (ue3.below (by omega) (fun k hk => by rcases hk with rfl | hk; omega; have := hq3 k hk; omega))
              have Bq3 : BB e3 q16 128 ((D.set i true).map Value.bool) := Bq2.upd ue3 (by
                rintro (e | e)
                · exact hq4 e
                · obtain ⟨es, xx, e6⟩ := hLq2.map e
                  have := Bq2
                  unfold BB at this
                  rw [e6] at this
                  cases this)
              have q307 := (((((((((((((((Rp.nil q306.z).cons (q306.a 1 rfl)).cons (q306.a 2 rfl)).cons (q306.a 3 rfl)).cons (q306.a 4 rfl)).cons (q306.a 5 rfl)).cons (q306.a 6 rfl)).cons (q306.a 9 rfl)).cons (q306.a 32 rfl)).cons (q306.a 33 rfl)).cons (q306.a 34 rfl)).cons (q306.a 12 rfl)).cons (q306.a 13 rfl)).cons (q306.a 16 rfl)).cons (q306.a 17 rfl))
              clear q306
              refine wpList_nil ?_
              go_upto_region 19 with fail
              refine wp_region_lit ?_
              have hS3 := hS1.later hq3w
              obtain ⟨av, cv, hvf, hvc, hvm, hvn, hva⟩ := hS3.own.form
              refine q307.t (v1) (ex_ld rfl (q307.e (j := 4) rfl) (by rw [hvf]; exact ldSlN (hvf ▸ hS3.c2))) fun _ q308 => ?_;clear q307
              refine q308.t (.int .i64 (i : Int)) (ex_move rfl (q308.e (j := 12) rfl)) fun _ q309 => ?_;clear q308
              obtain ⟨e4, he4⟩ : ∃ y, y = e3.alloc (.cells #[.int .i64 (i : Int)] 3) := ⟨_, rfl⟩
              refine vw (.slice (some ⟨e3.heap.size, 0, none⟩) 1 1) e4 (want_none rfl) (ex_bs18 rfl (q309.e (j := 82) rfl) (by rw [he4]; exact bsN _ _)) rfl q309.z (by decide) (q309.k fun _ q310 => ?_);clear q309
              have hsl4 : SlY yN e4 (some ⟨e3.heap.size, 0, none⟩) 1 1 [(i : Int)] := by rw [he4]; exact sl_box (Y := yN) e3 (i : Int) 3
              have he4b : Below e3.heap.size e3 e4 := by rw [he4]; exact (Below.refl _ _).alloc (Nat.le_refl _) _
              have he4z : e4.heap.size = e3.heap.size + 1 := by rw [he4]; simp
              clear he4
              have hS4 := hS3.later he4b
              obtain ⟨v2, e5, hap, ho5, hg5, hv5⟩ := run_appY kN e4 35 w0.heap.size O v1 _ 1 1 [(i : Int)] hsl4 hS4.own (by have := hS4.bel.size; omega) (by unfold maxLen; omega) (by show (O.length + 1) * 8 ≤ _; omega)
              obtain ⟨hS6, u6⟩ := hS4.push hg5 ho5 hv5
              obtain ⟨a2, c2x, hv2f, _⟩ := ho5.form
              refine vw (v2) e5 (want_none rfl) (ex_app18 rfl (q310.e (j := 81) rfl) (q310.e (j := 83) rfl) hap) rfl q310.z (by decide) (q310.k fun _ q311 => ?_);clear q310
              obtain ⟨e6, he6⟩ : ∃ y, y = e5.setCell ⟨ob, 0, none⟩ v2 := ⟨_, rfl⟩
              have l5 := hS4.lts.2.2.1
              refine vs e6 (want_none rfl) (ex_st rfl (q311.e (j := 4) rfl) (q311.e (j := 84) rfl) (by rw [he6, hv2f]; exact stSlN ((World.cell?_of_block (a := ⟨ob, 0, none⟩) (hg5.block ob l5 (fun e => hS4.ol.2.2.2 e.symm))).trans hS4.c2) ((World.frozen?_of_block (a := ⟨ob, 0, none⟩) (hg5.block ob l5 (fun e => hS4.ol.2.2.2 e.symm))).trans hS4.f2))) rfl ?_
              rw [← he6] at hS6 u6
              clear he6
              have y11 := u6.size
              have n6 : ∀ q, wr.heap.size ≤ q → q < e4.heap.size → ¬ (q = ob ∨ v1.ownBlock = some q) := fun q h1 h2 h3 => by rcases h3 with e | e; omega; have := m6 q e; omega
              have hL6 : Led e6 bb m3 (dnK L x) := (hL3.upd (S := fun _ => False) (Upd.of_below he4b) id (fun _ _ => id)).upd u6 (n6 bb (by omega) (by have := hL3.lt; omega)) (fun j e => n6 j (by rcases hm3 with e2 | ⟨j2, e2, e3⟩; have := hq3 j (e2 ▸ e); omega; rw [e2] at e; cases e; omega) (by have := hL3.mlt e; omega))
              have Bq6 : BB e6 q16 128 ((D.set i true).map Value.bool) := (Bq3.later he4b).upd u6 (n6 q16 (by omega) (by have := Bq3.lt; omega))
              have q312 := (((((((((((((((Rp.nil q311.z).cons (q311.a 1 rfl)).cons (q311.a 2 rfl)).cons (q311.a 3 rfl)).cons (q311.a 4 rfl)).cons (q311.a 5 rfl)).cons (q311.a 6 rfl)).cons (q311.a 9 rfl)).cons (q311.a 32 rfl)).cons (q311.a 33 rfl)).cons (q311.a 34 rfl)).cons (q311.a 12 rfl)).cons (q311.a 13 rfl)).cons (q311.a 16 rfl)).cons (q311.a 17 rfl))
              clear q311
              refine wpList_nil ?_
              go_upto_region 20 with fail
              refine wp_region_lit ?_
              have hD2 : (D.set i true).length = 8 := by rw [List.length_set]; exact hD
              have hi82 : (Try.prog.info? 128).map (·.size) = some ((D.set i true).map Value.bool).length := by rw [List.length_map, hD2]; exact info8
              have hcu := cU_set D i (by omega) (nxt_at hnx).1 l.length
              rw [if_pos hit] at hcu
              have hdl : (dnK L x).length ≤ L.length + 1 := by unfold dnK; rw [len_dn]; split <;> omega
              refine q312.t (FV lb vb ob sb) (ex_ld rfl (q312.e (j := 5) rfl) (ldFnK hS6.c3)) fun _ q313 => ?_;clear q312
              refine q313.t (.agg ((D.set i true).map Value.bool).toArray) (ex_ld rfl (q313.e (j := 16) rfl) (Bq6.ld 128 Try.underlying128 rfl hi82)) fun _ q314 => ?_;clear q313
              refine q314.t (.pointer (some ⟨bb, 0, none⟩)) (ex_move rfl (q314.e (j := 17) rfl)) fun _ q315 => ?_;clear q314
              have hik : n + i * 9 ^ k + 9 ^ k ≤ n + 8 * 9 ^ k := by have : (i + 1) * 9 ^ k ≤ 8 * 9 ^ k := Nat.mul_le_mul_right _ (by omega); rw [Nat.add_mul] at this; omega
              have CC := IH (D.set i true) (dnK L x) bb m3 (O ++ [(i : Int)]) v2 n1 V1 e6 hD2 (by omega) (by omega) (by rw [List.length_append]; simp; omega) (by omega) hL6 hS6 (by omega) (fun e => by rcases hv5 with e2 | ⟨gg, e2, e3⟩; have := m6 bb (e2 ▸ e); omega; rw [e2] at e; cases e; have := hL3.lt; omega) (fun e => by rcases hm3 with e2 | ⟨j2, e2, e3⟩; have := hq3 mb (e2 ▸ e); omega; rw [e2] at e; cases e; omega)
              refine vcallP (want_none rfl) (ex_callV18 rfl (q315.e (j := 85) rfl) (args := #[.agg ((D.set i true).map Value.bool).toArray, .pointer (some ⟨bb, 0, none⟩), .pointer (some ⟨lb, 0, none⟩), .pointer (some ⟨vb, 0, none⟩), .pointer (some ⟨ob, 0, none⟩), .pointer (some ⟨sb, 0, none⟩)]) (by simp only [List.map_toArray, List.map_cons, List.map_nil, (q315.e (j := 86) rfl), (q315.e (j := 87) rfl)] <;> rfl) rfl) CC rfl q315.z (by decide) ?_
              rintro e e7 ⟨rfl, v7, n7, V7, hS7, hn7, u7, hv7⟩
              refine ⟨_, rfl, q315.k fun _ q316 => ?_⟩;clear q315 CC
              have q317 := (((((((((((((Rp.nil q316.z).cons (q316.a 1 rfl)).cons (q316.a 2 rfl)).cons (q316.a 3 rfl)).cons (q316.a 4 rfl)).cons (q316.a 5 rfl)).cons (q316.a 6 rfl)).cons (q316.a 9 rfl)).cons (q316.a 32 rfl)).cons (q316.a 33 rfl)).cons (q316.a 34 rfl)).cons (q316.a 12 rfl)).cons (q316.a 88 rfl))
              clear q316
              refine wpList_nil ?_
              have hv2b : v2.ownBlock = v.ownBlock ∨ ∃ g, v2.ownBlock = some g ∧ x5.heap.size ≤ g := by
                rcases hv5 with e | ⟨gg, e, e3⟩
                · rcases hv1 with e2 | ⟨gg, e2, e3⟩
                  · exact .inl (e.trans e2)
                  · exact .inr ⟨gg, e.trans e2, e3⟩
                · exact .inr ⟨gg, e, by omega⟩
              have hU6 : Upd (SS ob mb v) x5 e6 := (hu1.trans18 (Upd.of_below (S := fun _ => False) (hq3w.trans (he4b.mono (by omega)))) (fun _ _ h => h.elim)).trans18 u6 (fun k hk h => by
                rcases h with e | e
                · exact .inl e
                · rcases hv1 with e2 | ⟨gg, e2, e3⟩
                  · exact .inr (.inr (e2 ▸ e))
                  · rw [e2] at e; cases e; omega)
              have hU7 : Upd (SS ob mb v) x5 e7 := hU6.trans18 u7 (fun k hk h => by
                rcases h with e | e | e
                · exact .inl e
                · exact .inr (.inl e)
                · rcases hv2b with e2 | ⟨gg, e2, e3⟩
                  · exact .inr (.inr (e2 ▸ e))
                  · rw [e2] at e; cases e; omega)
              have hv7b : v7.ownBlock = v.ownBlock ∨ ∃ g, v7.ownBlock = some g ∧ x5.heap.size ≤ g := by
                rcases hv7 with e | ⟨gg, e, e3⟩
                · rcases hv2b with e2 | ⟨gg, e2, e3⟩
                  · exact .inl (e.trans e2)
                  · exact .inr ⟨gg, e.trans e2, e3⟩
                · exact .inr ⟨gg, e, by have := u6.size; omega⟩
              cases hsk : srK l k (D.set i true) (dnK L x) with
              | some sx =>
                have q317x := q317.a 88 rfl
                rw [hsk] at q317x hS7
                have hs : srK l (k + 1) D L = some (i :: sx) := by rw [hsr, hF, hFx, if_pos hnx, hsk]
                go_upto_region 21 with fail
                refine wp_cond_true (ev q317x rfl) ?_
                go_upto_region 21 with fail
                refine wp_region_lit ?_
                refine q317.t (.bool true) (ex_assign rfl rfl) fun _ q318 => ?_;clear q317
                refine wpList_nil ?_
                go_wp2
                rw [Exit.noGoto_ret]
                refine (bodyPost_ret (P := Try.prog) (fn := Try.f60) (R := fun e w' => e = .returned (.bool (srK l (k + 1) D L).isSome) ∧ SP l a c w0 lb vb ob sb mb (srK l (k + 1) D L) (k + 1) O v n w w') (results_tmp rfl _ _ _) rfl ⟨?_, ?_⟩)
                · rw [getD_of (q318.a 8 rfl)]
                  rw [hs]; rfl
                · rw [hs]
                  refine ⟨v7, n7, V7, ?_, by omega, (Upd.of_below (S := SS ob mb v) cx5).trans18 hU7 (fun _ _ h => h), ?_⟩
                  · simpa using hS7
                  · rcases hv7b with e | ⟨gg, e, e3⟩
                    · exact .inl e
                    · exact .inr ⟨gg, e, by omega⟩
              | none =>
                have q317x := q317.a 88 rfl
                rw [hsk] at q317x hS7
                go_upto_region 22 with fail
                refine wp_cond_false (ev q317x rfl) ?_
                clear q317x
                go_upto_region 22 with fail
                refine wp_region_lit ?_
                simp only [Option.getD_none, List.map_nil, List.append_nil] at hS7
                obtain ⟨a7, c7x, hv7f, _, _, hv7n, hv7a⟩ := hS7.own.form
                obtain ⟨g7, rfl⟩ : ∃ g7, a7 = some ⟨g7, 0, none⟩ := by
                  cases a7 with
                  | none => have := (hv7n rfl).1; simp at this
                  | some z => obtain ⟨g7, e, _⟩ := hv7a z rfl; exact ⟨g7, by rw [e]⟩
                rw [List.length_append, List.length_singleton] at hv7f
                refine q317.t (.slice (some ⟨g7, 0, none⟩) (O.length + 1) c7x) (ex_ld rfl (q317.e (j := 4) rfl) (ldSlN (hv7f ▸ hS7.c2))) fun _ q318 => ?_;clear q317
                refine q318.t (.slice (some ⟨g7, 0, none⟩) (O.length + 1) c7x) (ex_ld rfl (q318.e (j := 4) rfl) (ldSlN (hv7f ▸ hS7.c2))) fun _ q319 => ?_;clear q318
                refine q319.t (.int .i64 ((O.length + 1 : Nat) : Int)) (ex_lenN18 rfl rfl (q319.e (j := 90) rfl)) fun _ q320 => ?_;clear q319
                refine q320.t (.int .i64 (O.length : Int)) (ex_bin rfl (q320.e (j := 91) rfl) rfl (sub1C _ _ O.length (by omega) _)) fun _ q321 => ?_;clear q320
                have hcc7 : O.length + 1 ≤ c7x := by
                  obtain ⟨a8, c8, e8, h8, _⟩ := hS7.own.form
                  rw [hv7f] at e8
                  injection e8 with _ _ e8
                  rw [e8]
                  simpa using h8
                refine q321.t (.slice (some ⟨g7, 0, none⟩) O.length c7x) (ex_slT18 rfl (q321.e (j := 89) rfl) (q321.e (j := 92) rfl) (slToN g7 0 (O.length + 1) c7x O.length (by omega) (by omega) _)) fun _ q322 => ?_;clear q321
                have hcut : OwnY yN w0.heap.size e7 (.slice (some ⟨g7, 0, none⟩) O.length c7x) O := OwnY.cut18 (hv7f ▸ hS7.own)
                obtain ⟨hS8, u8⟩ := hS7.push (World.grownBy.refl _ _) hcut (.inl (by rw [hv7f]; rfl))
                refine vs _ (want_none rfl) (ex_st rfl (q322.e (j := 4) rfl) (q322.e (j := 93) rfl) (stSlN hS7.c2 hS7.f2)) rfl ?_
                have q323 := (((((((((((Rp.nil q322.z).cons (q322.a 1 rfl)).cons (q322.a 2 rfl)).cons (q322.a 3 rfl)).cons (q322.a 4 rfl)).cons (q322.a 5 rfl)).cons (q322.a 6 rfl)).cons (q322.a 9 rfl)).cons (q322.a 32 rfl)).cons (q322.a 33 rfl)).cons (q322.a 34 rfl))
                clear q322
                refine wpList_nil ?_
                go_upto_region 23 with fail
                refine wp_region_lit ?_
                refine q323.t (.int .i64 ((i + 1 : Nat) : Int)) (ex_bin rfl (q323.e (j := 34) rfl) rfl (add1C _ _ i (by omega) _)) fun _ q324 => ?_;clear q323
                refine q324.t (.int .i64 ((i + 1 : Nat) : Int)) (ex_move rfl (q324.e (j := 94) rfl)) fun _ q325 => ?_;clear q324
                have q326 := (((((((((((Rp.nil q325.z).cons (q325.a 1 rfl)).cons (q325.a 2 rfl)).cons (q325.a 3 rfl)).cons (q325.a 4 rfl)).cons (q325.a 5 rfl)).cons (q325.a 6 rfl)).cons (q325.a 9 rfl)).cons (q325.a 32 rfl)).cons (q325.a 33 rfl)).cons (q325.a 34 rfl))
                clear q325
                refine wpList_nil ?_
                exact ⟨_, rfl, hit, q326, _, _, _, hS8, by rw [Nat.add_mul]; omega, hU7.trans18 u8 (fun k hk h => by rcases h with e | e; exact .inl e; rcases hv7b with e2 | ⟨gg, e2, e3⟩; exact .inr (.inr (e2 ▸ e)); rw [e2] at e; cases e; omega), by rcases hv7b with e | ⟨gg, e, e3⟩; exact .inl (by rw [← e, hv7f]; rfl); exact .inr ⟨gg, by rw [← e, hv7f]; rfl, by omega⟩, by rw [hF, hFx, if_pos hnx, hsk]⟩
      · obtain rfl : i = l.length := by omega
        have hs : srK l (k + 1) D L = none := by rw [hsr, hF, srF_end]
        go_upto_region 8 with fail
        refine wp_region_lit ?_
        refine q100.t (.bool false) (ex_bin rfl (q100.e (j := 34) rfl) (q100.e (j := 33) rfl) (ltF _ _ hit _)) fun _ q101 => ?_;clear q100
        refine wpList_nil ?_
        go_upto_region 24 with fail
        refine wp_cond_false (q101.e (j := 35) rfl) ?_
        go_upto_region 24 with fail
        refine wp_region_lit ?_
        have hik : l.length * 9 ^ k ≤ 8 * 9 ^ k := Nat.mul_le_mul_right _ hl8
        obtain ⟨f1, V9, hmu, g0, g1, hm9, hg9⟩ := hS1.mp.store kPt (by unfold maxLen; have e9 : 9 ^ 9 = 387420489 := (by decide); omega) Try.underlying126 (D, L) hkey (.agg #[])
        obtain ⟨hS9, u9⟩ := hS1.put (dead_of (by omega) hU hs) g0 g1 hm9 hg9
        refine q101.t (.map (some mb)) (ex_ld rfl (q101.e (j := 3) rfl) (ldMpK hS1.c1)) fun _ q102 => ?_;clear q101
        refine q102.t (.agg (ptC D L).toArray) (ex_ld rfl (q102.e (j := 9) rfl) (B9r.ld 131 Try.underlying131 rfl (by rw [hq25]; exact info25))) fun _ q103 => ?_;clear q102
        refine q103.t (.agg #[]) (ex_build rfl (by go_simp)) fun _ q104 => ?_;clear q103
        refine vs f1 (want_none rfl) (ex_mu18 rfl (q104.e (j := 95) rfl) (q104.e (j := 96) rfl) (q104.e (j := 97) rfl) hmu) rfl ?_
        refine wpList_nil ?_
        go_upto_region 25 with fail
        refine wp_region_lit ?_
        refine q104.t (.bool false) (ex_assign rfl rfl) fun _ q105 => ?_;clear q104
        refine wpList_nil ?_
        go_wp2
        rw [Exit.noGoto_ret]
        refine (bodyPost_ret (P := Try.prog) (fn := Try.f60) (R := fun e w' => e = .returned (.bool (srK l (k + 1) D L).isSome) ∧ SP l a c w0 lb vb ob sb mb (srK l (k + 1) D L) (k + 1) O v n w w') (results_tmp rfl _ _ _) rfl ⟨?_, ?_⟩)
        · rw [getD_of (q105.a 8 rfl)]
          rw [hs]; rfl
        · rw [hs]
          refine ⟨v1, n1 + 1, V9, by simpa using hS9, by omega, ((Upd.of_below (S := SS ob mb v) cx5).trans18 hu1 (fun _ _ h => h)).trans18 u9 (fun k hk h => .inr (.inl h)), ?_⟩
          rcases hv1 with e | ⟨gg, e, e3⟩
          · exact .inl e
          · exact .inr ⟨gg, e, by omega⟩
theorem search_any {l : List Kl} {a : Option Addr} {c : Nat} {w0 : World} {lb vb ob sb mb : Nat} (hl8 : l.length ≤ 8) (hfx : ∀ x ∈ l, x.fits) : ∀ k, SC l a c w0 lb vb ob sb mb k
  | 0 => search_step hl8 hfx 0 (fun k' h => by omega)
  | k + 1 => search_step hl8 hfx (k + 1) (fun k' h => by
    obtain rfl : k' = k := by omega
    exact search_any hl8 hfx k')
theorem results2_18 {fn : Func} {j k : Tmp} {x y : Value} {tmps : Array Value} {w : World} (h : fn.results = #[.tmp j, .tmp k]) (hj : tmps[j]? = some (gw true x)) (hk : tmps[k]? = some (gw true y)) : (results fn tmps).run Try.prog w = .ok (.tuple #[x, y]) w := by
  simp only [results, h]
  have hj' : tmps.getD j undef = x := getD_of hj
  have hk' : tmps.getD k undef = y := getD_of hk
  simp only [Array.getD_eq_getD_getElem?] at hj' hk'
  simp [Sem.run_bind, Result.andThen, hj', hk']
theorem bxSlK (a : Option Addr) (n c : Nat) (w : World) : (Instr.box 24 (.slice a n c)).run Try.prog w = .ok (.pointer (some ⟨w.heap.size, 0, none⟩)) (w.alloc (.cells [Value.slice a n c].toArray 24)) := rfl
theorem alSlN (w : World) : (Instr.alloc 35 true (.tuple #[])).run Try.prog w = .ok (.pointer (some ⟨w.heap.size, 0, none⟩)) (w.alloc (.cells [Value.slice none 0 0].toArray 35)) := by kernel_rfl
theorem alMpK (w : World) : (Instr.alloc 126 true (.tuple #[])).run Try.prog w = .ok (.pointer (some ⟨w.heap.size, 0, none⟩)) (w.alloc (.cells [Value.map none].toArray 126)) := by kernel_rfl
theorem alFnK (w : World) : (Instr.alloc 127 true (.tuple #[])).run Try.prog w = .ok (.pointer (some ⟨w.heap.size, 0, none⟩)) (w.alloc (.cells [Value.nilFunc].toArray 127)) := by kernel_rfl
theorem stMpK {w : World} {q : Nat} {u : Value} {m : Option Nat} (h : w.cell? ⟨q, 0, none⟩ = some u) (hf : w.frozen? ⟨q, 0, none⟩ = false) : (Instr.storeAt 126 (.pointer (some ⟨q, 0, none⟩)) (.map m)).run Try.prog w = .ok () (w.setCell ⟨q, 0, none⟩ (.map m)) := by go_simp
theorem stFnK {w : World} {q : Nat} {u : Value} {f : Fn} {x y : Array Value} (h : w.cell? ⟨q, 0, none⟩ = some u) (hf : w.frozen? ⟨q, 0, none⟩ = false) : (Instr.storeAt 127 (.pointer (some ⟨q, 0, none⟩)) (.func f x y)).run Try.prog w = .ok () (w.setCell ⟨q, 0, none⟩ (.func f x y)) := by go_simp
theorem bd8 (w : World) : (Instr.build 128 #[]).run Try.prog w = .ok (.agg (D0.map Value.bool).toArray) w := by kernel_rfl
theorem ex_mm18 {o : Oper} {ρ : Operand → Value} {s : TypeId} {V : Value} {w w' : World} (ho : o.op = .makeMap s none) (hr : (Instr.makeMap s none).run Try.prog w = .ok V w') : (execOp ρ o).run Try.prog w = .ok (.value V) w' := by
  unfold execOp
  simp only [ho, Option.map_none, Sem.run_bind, hr, Result.andThen_ok]
  rfl
theorem ex_mf18 {o : Oper} {ρ : Operand → Value} {f : Fn} {x1 x2 x3 x4 : Operand} {X1 X2 X3 X4 : Value} {w : World} (ho : o.op = .makeFunc f #[] #[x1, x2, x3, x4]) (h1 : ρ x1 = X1) (h2 : ρ x2 = X2) (h3 : ρ x3 = X3) (h4 : ρ x4 = X4) : (execOp ρ o).run Try.prog w = .ok (.value (.func f #[] #[X1, X2, X3, X4])) w := by
  unfold execOp
  simp only [ho, List.map_toArray, List.map_cons, List.map_nil, h1, h2, h3, h4, Instr.makeFunc]
  rfl
def lst (l : List Kl) : Option (List Nat) := srK l l.length D0 []
def ints (s : List Nat) : List Int := s.map (fun (i : Nat) => (i : Int))
set_option maxHeartbeats 1000000 in
theorem least_any (l : List Kl) (a : Option Addr) (c : Nat) (w : World) (hsl : SlY yK w a l.length c l) (hl8 : l.length ≤ 8) (hfx : ∀ x ∈ l, x.fits) :
    Calls Try.prog 34 #[.slice a l.length c] w fun e w' => ∃ v, e = .returned (.tuple #[v, .bool (lst l).isSome]) ∧ OwnY yN w.heap.size w' v (ints ((lst l).getD [])) ∧ Below w.heap.size w w' := by
  go_enter Try.func34, Try.ntmps34
  go_upto_region 0 with fail
  refine wp_region_lit ?_
  refine vl_gen (fun T => Rp T 15 [(0, gw true (.slice a l.length c))]) ((Rp.nil rfl).cons rfl) (fun Z0 q0 => ?_)
  obtain ⟨w1, hw1⟩ : ∃ y, y = w.alloc (.cells [.slice a l.length c].toArray 24) := ⟨_, rfl⟩
  refine vw (.pointer (some ⟨w.heap.size, 0, none⟩)) w1 (want_none rfl) (ex_box18 rfl (q0.e (j := 0) rfl) (by rw [hw1]; exact bxSlK _ _ _ _)) rfl q0.z (by decide) (q0.k fun _ q1 => ?_);clear q0
  have Bl : BB w1 (w.heap.size) 24 [.slice a l.length c] := by rw [hw1]; exact BB.new _ _ _
  have bw1 : Below w.heap.size w w1 := by rw [hw1]; exact (Below.refl _ _).alloc (Nat.le_refl _) _
  have zw1 : w1.heap.size = w.heap.size + 1 := by rw [hw1]; simp
  clear hw1
  refine q1.t (.slice none 0 0) (ex_assign rfl rfl) fun _ q2 => ?_;clear q1
  refine q2.t (.bool false) (ex_assign rfl rfl) fun _ q3 => ?_;clear q2
  refine wpList_nil ?_
  go_upto_region 1 with fail
  refine wp_region_lit ?_
  obtain ⟨w2, hw2⟩ : ∃ y, y = w1.alloc (.cells [.slice none 0 0].toArray 35) := ⟨_, rfl⟩
  refine vw (.pointer (some ⟨w1.heap.size, 0, none⟩)) w2 (want_none rfl) (ex_al rfl (by rw [hw2]; exact alSlN _)) rfl q3.z (by decide) (q3.k fun _ q4 => ?_);clear q3
  have Bo : BB w2 (w1.heap.size) 35 [.slice none 0 0] := by rw [hw2]; exact BB.new _ _ _
  have bw2 : Below w1.heap.size w1 w2 := by rw [hw2]; exact (Below.refl _ _).alloc (Nat.le_refl _) _
  have zw2 : w2.heap.size = w1.heap.size + 1 := by rw [hw2]; simp
  clear hw2
  replace Bl := Bl.later bw2
  refine wpList_nil ?_
  go_upto_region 2 with fail
  refine wp_region_lit ?_
  obtain ⟨w3, hw3⟩ : ∃ y, y = w2.alloc (.map #[] 0) := ⟨_, rfl⟩
  refine vw (.map (some w2.heap.size)) w3 (want_none rfl) (ex_mm18 rfl (by rw [hw3]; exact run_makeMap _ _)) rfl q4.z (by decide) (q4.k fun _ q5 => ?_);clear q4
  have M3 : MapG zPt w3 w2.heap.size 0 (fun _ => none) := by rw [hw3]; exact MapG.made zPt w2
  have bw3 : Below w2.heap.size w2 w3 := by rw [hw3]; exact (Below.refl _ _).alloc (Nat.le_refl _) _
  have zw3 : w3.heap.size = w2.heap.size + 1 := by rw [hw3]; simp
  clear hw3
  replace Bl := Bl.later bw3
  replace Bo := Bo.later bw3
  obtain ⟨w4, hw4⟩ : ∃ y, y = w3.alloc (.cells [.map none].toArray 126) := ⟨_, rfl⟩
  refine vw (.pointer (some ⟨w3.heap.size, 0, none⟩)) w4 (want_none rfl) (ex_al rfl (by rw [hw4]; exact alMpK _)) rfl q5.z (by decide) (q5.k fun _ q6 => ?_);clear q5
  have Bv : BB w4 (w3.heap.size) 126 [.map none] := by rw [hw4]; exact BB.new _ _ _
  have bw4 : Below w3.heap.size w3 w4 := by rw [hw4]; exact (Below.refl _ _).alloc (Nat.le_refl _) _
  have zw4 : w4.heap.size = w3.heap.size + 1 := by rw [hw4]; simp
  clear hw4
  replace Bl := Bl.later bw4
  replace Bo := Bo.later bw4
  replace M3 := M3.later bw4
  obtain ⟨w5, hw5⟩ : ∃ y, y = w4.setCell ⟨w3.heap.size, 0, none⟩ (.map (some w2.heap.size)) := ⟨_, rfl⟩
  refine vs w5 (want_none rfl) (ex_st rfl (q6.e (j := 5) rfl) (q6.e (j := 7) rfl) (by rw [hw5]; exact stMpK (Bv.cell 0) (Bv.free 0))) rfl ?_
  have u5 : Upd (fun k => k = w3.heap.size) w4 w5 := by rw [hw5]; exact (Upd.refl (fun k => k = w3.heap.size) _).setCell (p := ⟨w3.heap.size, 0, none⟩) (.inl rfl) _
  replace Bv : BB w5 w3.heap.size 126 [.map (some w2.heap.size)] := by rw [hw5]; exact Bv.set1 0 _
  clear hw5
  replace Bl := Bl.upd u5 (by omega)
  replace Bo := Bo.upd u5 (by omega)
  replace M3 := M3.upd u5 (by omega)
  have zw5 := u5.size
  refine wpList_nil ?_
  go_upto_region 3 with fail
  refine wp_region_lit ?_
  obtain ⟨w6, hw6⟩ : ∃ y, y = w5.alloc (.cells [.nilFunc].toArray 127) := ⟨_, rfl⟩
  refine vw (.pointer (some ⟨w5.heap.size, 0, none⟩)) w6 (want_none rfl) (ex_al rfl (by rw [hw6]; exact alFnK _)) rfl q6.z (by decide) (q6.k fun _ q7 => ?_);clear q6
  have Bs : BB w6 (w5.heap.size) 127 [.nilFunc] := by rw [hw6]; exact BB.new _ _ _
  have bw6 : Below w5.heap.size w5 w6 := by rw [hw6]; exact (Below.refl _ _).alloc (Nat.le_refl _) _
  have zw6 : w6.heap.size = w5.heap.size + 1 := by rw [hw6]; simp
  clear hw6
  replace Bl := Bl.later bw6
  replace Bo := Bo.later bw6
  replace Bv := Bv.later bw6
  replace M3 := M3.later bw6
  refine wpList_nil ?_
  go_upto_region 4 with fail
  refine wp_region_lit ?_
  refine q7.t (FV w.heap.size w3.heap.size w1.heap.size w5.heap.size) (ex_mf18 rfl (q7.e (j := 1) rfl) (q7.e (j := 5) rfl) (q7.e (j := 4) rfl) (q7.e (j := 6) rfl)) fun _ q8 => ?_;clear q7
  obtain ⟨w7, hw7⟩ : ∃ y, y = w6.setCell ⟨w5.heap.size, 0, none⟩ (FV w.heap.size w3.heap.size w1.heap.size w5.heap.size) := ⟨_, rfl⟩
  refine vs w7 (want_none rfl) (ex_st rfl (q8.e (j := 6) rfl) (q8.e (j := 8) rfl) (by rw [hw7]; exact stFnK (Bs.cell 0) (Bs.free 0))) rfl ?_
  have u7 : Upd (fun k => k = w5.heap.size) w6 w7 := by rw [hw7]; exact (Upd.refl (fun k => k = w5.heap.size) _).setCell (p := ⟨w5.heap.size, 0, none⟩) (.inl rfl) _
  replace Bs : BB w7 w5.heap.size 127 [FV w.heap.size w3.heap.size w1.heap.size w5.heap.size] := by rw [hw7]; exact Bs.set1 0 _
  clear hw7
  replace Bl := Bl.upd u7 (by omega)
  replace Bo := Bo.upd u7 (by omega)
  replace Bv := Bv.upd u7 (by omega)
  replace M3 := M3.upd u7 (by omega)
  have zw7 := u7.size
  have cw : Below w.heap.size w w7 := (((((bw1.trans (bw2.mono (by omega))).trans (bw3.mono (by omega))).trans (bw4.mono (by omega))).trans (bel_ge u5 (by omega) (by omega))).trans (bw6.mono (by omega))).trans (bel_ge u7 (by omega) (by omega))
  have hST : ST l a c w w.heap.size w3.heap.size w1.heap.size w5.heap.size w2.heap.size w7 [] (.slice none 0 0) 0 (fun _ => none) := ⟨hsl, cw, Bl.cell 0, Bv.cell 0, Bo.cell 0, Bo.free 0, Bs.cell 0, M3, (fun k u h => by cases h), OwnY.nil _ _ _, (fun k _ h => by cases h), ⟨by omega, by omega⟩, ⟨by omega, by omega, by omega⟩, by simp [Value.ownBlock]⟩
  have q9 := (((Rp.nil q8.z).cons (q8.a 4 rfl)).cons (q8.a 6 rfl))
  clear q8
  refine wpList_nil ?_
  go_upto_region 5 with fail
  refine vh_start (fun v => v.cell? ⟨w5.heap.size, 0, none⟩ = some (FV w.heap.size w3.heap.size w1.heap.size w5.heap.size)) (by kernel_rfl) ?_
  have hd : Below w7.heap.size w7 w7.drew := (Below.refl _ _).drew
  have hz : w7.drew.heap.size = w7.heap.size := rfl
  generalize w7.drew = d at *
  have hSd := hST.later hd
  refine vh_take 0 true (FV w.heap.size w3.heap.size w1.heap.size w5.heap.size) rfl (by kernel_rfl) (by kernel_rfl) (by kernel_rfl) (want_none rfl) (fun hc v hv => ex_ld rfl (q9.e (j := 6) rfl) (ldFnK hv)) rfl q9.z (by decide) hSd.c3 (q9.k fun _ q10 => ?_);clear q9
  refine vh_take 1 true (.agg (D0.map Value.bool).toArray) rfl (by kernel_rfl) (by kernel_rfl) (by kernel_rfl) (want_none rfl) (fun hc v hv => ex_build rfl (bd8 _)) rfl q10.z (by decide) hSd.c3 (q10.k fun _ q11 => ?_);clear q10
  refine vh_call 2 rfl (by kernel_rfl) (want_none rfl) (ex_call (args := #[]) rfl (by simp) rfl) (new_any d) rfl q11.z (by decide) ?_
  rintro e d1 ⟨rfl, hL1, u1, z1⟩
  have hb1 : Below d.heap.size d d1 := u1.below (Nat.le_refl _) (fun k hk => hk.elim)
  have hS1 := hSd.later hb1
  refine ⟨_, rfl, hS1.c3, q11.k fun _ q12 => ?_⟩
  clear q11
  have hcz := cU_le D0 l.length
  have CC := search_any (l := l) (a := a) (c := c) (w0 := w) (lb := w.heap.size) (vb := w3.heap.size) (ob := w1.heap.size) (sb := w5.heap.size) (mb := w2.heap.size) hl8 hfx l.length D0 [] d.heap.size none [] (.slice none 0 0) 0 _ d1 rfl hcz (by simpa using hl8) (by simpa using hl8) (by rw [Nat.zero_add]; exact Nat.pow_le_pow_right (by omega) (by omega)) hL1 hS1 (by omega) (by simp [Value.ownBlock]) (by simp)
  refine vh_call 3 rfl (by kernel_rfl) (want_none rfl) (ex_callV18 rfl (q12.e (j := 9) rfl) (args := #[.agg (D0.map Value.bool).toArray, .pointer (some ⟨d.heap.size, 0, none⟩), .pointer (some ⟨w.heap.size, 0, none⟩), .pointer (some ⟨w3.heap.size, 0, none⟩), .pointer (some ⟨w1.heap.size, 0, none⟩), .pointer (some ⟨w5.heap.size, 0, none⟩)]) (by simp only [List.map_toArray, List.map_cons, List.map_nil, q12.e (j := 10) rfl, q12.e (j := 11) rfl] <;> rfl) rfl) CC rfl q12.z (by decide) ?_
  rintro e d2 ⟨rfl, v2, n2, V2, hS2, hn2, u2, hv2⟩
  refine ⟨_, rfl, hS2.c3, q12.k fun _ q13 => ?_⟩
  clear q12 CC
  refine vh_take 4 true (.bool (!(lst l).isSome)) rfl (by kernel_rfl) (by kernel_rfl) (by kernel_rfl) (want_none rfl) (fun hc v hv => ex_not rfl (q13.e (j := 12) rfl)) rfl q13.z (by decide) hS2.c3 (q13.k fun _ q14 => ?_);clear q13
  refine vh_done (by kernel_rfl) ?_
  have q15 := (((Rp.nil q14.z).cons (q14.a 4 rfl)).cons (q14.a 13 rfl))
  clear q14
  rw [List.nil_append] at hS2
  cases hk : lst l with
  | none =>
    have q15x := q15.a 13 rfl
    rw [hk] at q15x
    go_upto_region 6 with fail
    refine wp_cond_true (ev q15x rfl) ?_
    go_upto_region 6 with fail
    refine wp_region_lit ?_
    refine q15.t (.slice none 0 0) (ex_assign rfl rfl) fun _ q16 => ?_;clear q15
    refine q16.t (.bool false) (ex_assign rfl rfl) fun _ q17 => ?_;clear q16
    refine wpList_nil ?_
    go_wp2
    exact bodyPost_ret (results2_18 rfl (q17.a 2 rfl) (q17.a 3 rfl)) rfl ⟨_, by rw [hk]; rfl, by rw [hk]; exact OwnY.nil _ _ _, hS2.bel⟩
  | some sx =>
    have q15x := q15.a 13 rfl
    rw [hk] at q15x
    have hS3 : ST l a c w w.heap.size w3.heap.size w1.heap.size w5.heap.size w2.heap.size d2 (ints sx) v2 n2 V2 := by unfold lst at hk; rw [hk] at hS2; exact hS2
    obtain ⟨av, cv, hvf, _⟩ := hS3.own.form
    go_upto_region 7 with fail
    refine wp_cond_false (ev q15x rfl) ?_
    go_upto_region 7 with fail
    refine wp_region_lit ?_
    refine q15.t (v2) (ex_ld rfl (q15.e (j := 4) rfl) (by rw [hvf]; exact ldSlN (hvf ▸ hS3.c2))) fun _ q16 => ?_;clear q15
    refine q16.t (v2) (ex_assign rfl (q16.e (j := 14) rfl)) fun _ q17 => ?_;clear q16
    refine q17.t (.bool true) (ex_assign rfl rfl) fun _ q18 => ?_;clear q17
    refine wpList_nil ?_
    go_wp2
    exact bodyPost_ret (results2_18 rfl (q18.a 2 rfl) (q18.a 3 rfl)) rfl ⟨_, by rw [hk]; rfl, by rw [hk]; exact hS3.own, hS3.bel⟩
theorem few_any (l : List Kl) (a : Option Addr) (c : Nat) (w : World) (hsl : SlY yK w a l.length c l) (hfx : ∀ x ∈ l, x.fits) :
    Calls Try.prog 33 #[.slice a l.length c] w fun e w' => e = .returned (.int .i64 (if kchk l ≠ 0 then kchk l else if 8 < l.length then 181 else 0)) ∧ Below w.heap.size w w' := by
  have cc := check18_any l a c w hsl hfx
  have hmx := hsl.max
  have hcp := hsl.cap
  unfold maxLen at hmx
  clear hsl
  rcases kcA_zero [] l with h | h
  · have h : kchk l = 0 := h
    rw [h] at cc ⊢
    by_cases h8 : 8 < l.length
    · simp only [ne_eq, not_true, if_false, if_pos h8]
      go_enter Try.func33, Try.ntmps33
      go_wp2_with (go_at_call 15; refine cc.mono ?_; rintro e w1 ⟨rfl, b1⟩)
      go_ret
      exact ⟨rfl, b1⟩
    · simp only [ne_eq, not_true, if_false, if_neg h8]
      go_enter Try.func33, Try.ntmps33
      go_wp2_with (go_at_call 15; refine cc.mono ?_; rintro e w1 ⟨rfl, b1⟩)
      go_ret
      exact ⟨rfl, b1⟩
  · have h : kchk l = 180 := h
    rw [h] at cc ⊢
    go_enter Try.func33, Try.ntmps33
    go_wp2_with (go_at_call 15; refine cc.mono ?_; rintro e w1 ⟨rfl, b1⟩)
    go_ret
    exact ⟨rfl, b1⟩
def srE (l : List Kl) : Int := if kchk l ≠ 0 then kchk l else if 8 < l.length then 181 else 0
def srA (l : List Kl) : Option (List Nat) := if srE l ≠ 0 then none else lst l
theorem search18_any (l : List Kl) (a : Option Addr) (c : Nat) (w : World) (hsl : SlY yK w a l.length c l) (hfx : ∀ x ∈ l, x.fits) :
    Calls Try.prog 14 #[.slice a l.length c] w fun e w' => ∃ v, e = .returned (.tuple #[v, .bool (srA l).isSome, .int .i64 (srE l)]) ∧ OwnY yN w.heap.size w' v (ints ((srA l).getD [])) ∧ Below w.heap.size w w' := by
  have cf := few_any l a c w hsl hfx
  have hcl := fun W (hW : Below w.heap.size w W) h8 => least_any l a c W (hsl.on hW (Nat.le_refl _)) h8 hfx
  have HE : Hid (srE l = if kchk l ≠ 0 then kchk l else if 8 < l.length then 181 else 0) := rfl
  rw [← HE.out] at cf
  by_cases h0 : srE l = 0
  · have h8 : l.length ≤ 8 := by
      have := HE.out
      rw [h0] at this
      by_cases h1 : kchk l = 0
      · simp [h1] at this; exact this
      · simp [h1] at this; exact absurd this.symm h1
    have HA : Hid (srA l = lst l) := by show _ = _; simp [srA, h0]
    rw [HA.out]
    rw [h0] at cf ⊢
    have HL := hide (fun W hW => hcl W hW h8)
    clear hcl HE h0 h8 hsl
    go_enter Try.func14, Try.ntmps14
    go_wp2_with (first
      | (go_at_call 33; refine cf.mono ?_; rintro e w1 ⟨rfl, b1⟩)
      | (go_at_call 34; refine (HL.out _ b1).mono ?_; rintro e w2 ⟨v, rfl, o2, b2⟩))
    go_ret3
    exact ⟨v, rfl, o2.low b1.size, b1.trans (b2.mono b1.size)⟩
  · have HA : Hid (srA l = none) := by show _ = _; simp [srA, h0]
    rw [HA.out]
    generalize srE l = X at *
    have hne : (X != 0) = true := by simpa using h0
    clear hcl HE hsl
    go_enter Try.func14, Try.ntmps14
    go_wp2_with (go_at_call 33; refine cf.mono ?_; rintro e w1 ⟨rfl, b1⟩)
    go_ret3
    exact ⟨_, rfl, OwnY.nil _ _ _, b1⟩
theorem stK_at {n : Nat} {Ord : List Int} {j : Nat} {p : Int} {s : List Bool} (h : Ord[j]? = some p) : stK n (Ord.drop j) s = if p < 0 ∨ (n : Int) ≤ p ∨ at9 s p.toNat = true then none else stK n (Ord.drop (j + 1)) (s.set p.toNat true) := by
  have hj := (List.getElem?_eq_some_iff.1 h).1
  have he := (List.getElem?_eq_some_iff.1 h).2
  rw [List.drop_eq_getElem_cons hj, he, stK]
theorem stK_end {n : Nat} (Ord : List Int) (s : List Bool) : stK n (Ord.drop Ord.length) s = some s := by simp [stK]
theorem stK_len {n : Nat} : ∀ (Ord : List Int) (s s' : List Bool), stK n Ord s = some s' → s'.length = s.length
  | [], s, s', h => by simp [stK] at h; rw [h]
  | p :: r, s, s', h => by
    unfold stK at h
    split at h
    · cases h
    · have := stK_len r _ _ h
      simpa using this
theorem OwnY.tr {B g n c : Nat} {w : World} {s : List Bool} (h : OwnY yT B w (.slice (some ⟨g, 0, none⟩) n c) s) {j : Nat} {x : Bool} (hx : s[j]? = some x) : w.cell? ⟨g, j, none⟩ = some (.bool x) := by
  have := h.cell kT j x hx 0 _ rfl
  simpa [yT] using this
theorem OwnY.trSet {B g n c : Nat} {w : World} {s : List Bool} (h : OwnY yT B w (.slice (some ⟨g, 0, none⟩) n c) s) {j : Nat} {x : Bool} (hx : s[j]? = some x) (b : Bool) : OwnY yT B (w.setCell ⟨g, j, none⟩ (.bool b)) (.slice (some ⟨g, 0, none⟩) n c) (s.set j b) := by
  have := h.set1 kT hx b 0 (.bool b) (by decide) rfl
  simpa [yT] using this
theorem OwnY.nmSet {B g n c : Nat} {w : World} {s : List Int} (h : OwnY yN B w (.slice (some ⟨g, 0, none⟩) n c) s) {j : Nat} {x : Int} (hx : s[j]? = some x) (b : Int) : OwnY yN B (w.setCell ⟨g, j, none⟩ (.int .i64 b)) (.slice (some ⟨g, 0, none⟩) n c) (s.set j b) := by
  have := h.set1 kN hx b 0 (.int .i64 b) (by decide) rfl
  simpa [yN] using this
theorem OwnY.nm {B g n c : Nat} {w : World} {s : List Int} (h : OwnY yN B w (.slice (some ⟨g, 0, none⟩) n c) s) {j : Nat} {x : Int} (hx : s[j]? = some x) : w.cell? ⟨g, j, none⟩ = some (.int .i64 x) := by
  have := h.cell kN j x hx 0 _ rfl
  simpa [yN] using this
def stnd (n : Nat) (Ord : List Int) : Option (List Bool) := stK n Ord (List.replicate n false)
set_option maxHeartbeats 1000000 in
theorem standing_any (L : List Kl) (a : Option Addr) (c : Nat) (Ord : List Int) (a2 : Option Addr) (c2 : Nat) (w : World) (h : SlY yK w a L.length c L) (h2 : SlY yN w a2 Ord.length c2 Ord) (hb : L.length ≤ 140737488355328) :
    Calls Try.prog 55 #[.slice a L.length c, .slice a2 Ord.length c2] w fun e w' => ∃ v, e = .returned (.tuple #[v, .bool (stnd L.length Ord).isSome]) ∧ OwnY yT w.heap.size w' v ((stnd L.length Ord).getD []) ∧ Below w.heap.size w w' := by
  have hmx := h.max
  have hcp := h.cap
  have hmx2 := h2.max
  have hcp2 := h2.cap
  unfold maxLen at hmx hmx2
  have H2 := hide h2
  have HE : Hid (stnd L.length Ord = stK L.length (Ord.drop 0) (List.replicate L.length false)) := rfl
  generalize stnd L.length Ord = X at *
  clear h h2
  go_enter Try.func55, Try.ntmps55
  go_wp2_with (at_make; go_must (refine makeY kT _ rfl (.tmp 10) rfl L.length rfl (by unfold maxLen; omega) (by show L.length * 1 ≤ _; omega) ?_; intro w1 o1 b1))
  have O1 := hide o1
  have B1 := hide b1
  have z1 := (o1.blk w.heap.size rfl).2
  clear o1 b1
  go_loopw [14] (fun i wr => ∃ (j : Nat) (s : List Bool), i = .int .i64 (j : Int) ∧ j ≤ Ord.length ∧ OwnY yT w.heap.size wr (.slice (some ⟨w.heap.size, 0, none⟩) L.length L.length) s ∧ s.length = L.length ∧ Below w.heap.size w wr ∧ X = stK L.length (Ord.drop j) s) (fun i _ => Ord.length - (intOf i).toNat)
  case atStart => exact ⟨0, _, rfl, Nat.zero_le _, O1.out, by simp, B1.out, HE.out⟩
  case round =>
    obtain ⟨j, s, rfl, hj, os, hsl, hbr, hX⟩ := hrel
    by_cases hlt : j < Ord.length
    · obtain ⟨p, hp⟩ : ∃ p, Ord[j]? = some p := ⟨_, List.getElem?_eq_getElem hlt⟩
      obtain ⟨q, o, rfl, hq, hc⟩ := (H2.out.on hbr (Nat.le_refl _)).nm hp
      have HS := hide (hX.trans (stK_at hp))
      have OS := hide os
      have SL := hide hsl
      have BR := hide hbr
      clear hX os hsl hbr
      by_cases h0 : p < 0
      · have HS2 : Hid (X = none) := by have := HS.out; rw [if_pos (.inl h0)] at this; exact this
        go_wp2
        go_ret2
        exact ⟨_, by rw [HS2.out]; rfl, by rw [HS2.out]; exact OwnY.nil _ _ _, BR.out⟩
      · obtain ⟨m, rfl⟩ : ∃ m : Nat, p = (m : Int) := ⟨p.toNat, by omega⟩
        by_cases h1 : m < L.length
        · obtain ⟨x, hx⟩ : ∃ x, s[m]? = some x := ⟨_, List.getElem?_eq_getElem (by rw [SL.out]; exact h1)⟩
          have hcx := OS.out.tr hx
          have hfr := OS.out.free m
          have ha9 : at9 s m = x := at9_get hx
          have h1' : ¬ (L.length : Int) ≤ (m : Int) := by omega
          have h1'' : ¬ L.length ≤ m := by omega
          cases x with
          | true =>
            have HS2 : Hid (X = none) := by have := HS.out; rw [Int.toNat_natCast, if_pos (.inr (.inr ha9))] at this; exact this
            go_wp2
            go_ret2
            exact ⟨_, by rw [HS2.out]; rfl, by rw [HS2.out]; exact OwnY.nil _ _ _, BR.out⟩
          | false =>
            have HS2 : Hid (X = stK L.length (Ord.drop (j + 1)) (s.set m true)) := by
              have := HS.out
              rw [Int.toNat_natCast, if_neg (by rw [ha9]; simp; omega)] at this
              exact this
            have O2 := hide (OS.out.trSet hx true)
            go_wp2
            go_round
            case rel => exact ⟨j + 1, _, by go_num, by omega, O2.out, by rw [List.length_set]; exact SL.out, BR.out.setCell (by simp) _, HS2.out⟩
            case measure => simp [intOf]; omega
        · have HS2 : Hid (X = none) := by have := HS.out; rw [if_pos (.inr (.inl (by omega)))] at this; exact this
          have h1' : (L.length : Int) ≤ (m : Int) := by omega
          have h1'' : L.length ≤ m := by omega
          go_wp2
          go_ret2
          exact ⟨_, by rw [HS2.out]; rfl, by rw [HS2.out]; exact OwnY.nil _ _ _, BR.out⟩
    · obtain rfl : j = Ord.length := by omega
      have HS2 : Hid (X = some s) := hX.trans (stK_end Ord s)
      have OS := hide os
      have BR := hide hbr
      clear hX os hbr
      go_wp2
      go_ret2
      exact ⟨_, by rw [HS2.out]; rfl, by rw [HS2.out]; exact OS.out, BR.out⟩
end Go.Proofs.Yteamgkadhlbflaa
