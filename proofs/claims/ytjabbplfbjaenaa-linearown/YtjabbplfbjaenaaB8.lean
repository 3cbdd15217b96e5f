import Derived.ChangeArms
import Derived.Test.YtjabbplfbjaenaaB7
set_option maxRecDepth 100000
set_option linter.unusedVariables false
set_option linter.unusedSimpArgs false
namespace Go.Proofs.Ytjabbplfbjaenaa
open Go.RowKit Go.Maps
open Classical
def ctK (r : Int) (x : Kl) : Kl := if r < x.e then { x with e := -1, r := (0, 0, ⟨#[]⟩) } else x
def upR (l : List Kl) (r : Int) : List Kl := l.filterMap fun x => if r < x.b then none else some (ctK r x)
theorem upR_len (l : List Kl) (r : Int) : (upR l r).length ≤ l.length := List.length_filterMap_le _ _
theorem upR_at {l : List Kl} {r : Int} {j : Nat} {x : Kl} (h : l[j]? = some x) : upR (l.take (j + 1)) r = upR (l.take j) r ++ (if r < x.b then [] else [ctK r x]) := by
  obtain ⟨hj, rfl⟩ := List.getElem?_eq_some_iff.1 h
  unfold upR
  rw [List.take_succ_eq_append_getElem hj, List.filterMap_append]
  congr 1
  by_cases h : r < l[j].b <;> simp [h]
def ctR (l : List Kl) (row : Int) : List Kl × Int := if kchk l ≠ 0 then ([], 180) else if row < 0 then ([], 3) else (upR l (row - 1), 0)
theorem bsK18 (x : Kl) (w : World) : (Instr.buildSlice 24 1 #[(0, x.val)]).run Try.prog w = .ok (.slice (some ⟨w.heap.size, 0, none⟩) 1 1) (w.alloc (.cells x.cs.toArray 45)) := by unfold Kl.val Kl.cs; go_simp
theorem BB.stR8 {w : World} {q : Nat} {T : TypeId} {x : Kl} (h : BB w q T x.cs) : (Instr.storeAt 43 (.pointer (some ⟨q, 7, none⟩)) (.agg #[.int .i64 0, .int .i64 0, .string ⟨#[]⟩])).run Try.prog w = .ok () (w.setCells q 7 [.int .i64 0, .int .i64 0, .string ⟨#[]⟩]) :=
  run_storeAt_mid (P := Try.prog) w q 7 43 #[.int .i64 0, .int .i64 0, .string ⟨#[]⟩] (fun j hj => ⟨by
    rw [h.cell]
    match j, hj with
    | 0, _ => rfl
    | 1, _ => rfl
    | 2, _ => rfl
    | j + 3, hj => simp at hj; omega, h.free _⟩) info3r (by
    rw [Array.all_eq_true_iff_forall_mem]
    intro u hu
    simp only [List.mem_toArray, List.mem_cons, List.not_mem_nil, or_false] at hu
    rcases hu with rfl | rfl | rfl <;> rfl)
theorem BB.cut8 {w : World} {q : Nat} {T : TypeId} {x : Kl} (h : BB w q T x.cs) : BB ((w.setCell ⟨q, 6, none⟩ (.int .i64 (-1))).setCells q 7 [.int .i64 0, .int .i64 0, .string ⟨#[]⟩]) q T ({ x with e := -1, r := (0, 0, ⟨#[]⟩) } : Kl).cs :=
  (((h.set1 6 (.int .i64 (-1))).set1 7 (.int .i64 0)).set1 8 (.int .i64 0)).set1 9 (.string ⟨#[]⟩)
theorem subN8 (x y : Operand) (r : Int) (h : 0 ≤ r) (h2 : r ≤ 9223372036854775807) (w : World) : (do eqGuard .sub 3 x y (.int .i64 r) (.int .i64 1); binOp .sub 3 (.int .i64 r) (.int .i64 1) : Sem Value).run Try.prog w = .ok (.int .i64 (r - 1)) w := by
  have h3 : IntKind.i64.wrap (r - 1) = r - 1 := by rw [IntKind.wrap_i64]; omega
  go_simp
set_option maxHeartbeats 2000000 in
theorem upTo18 (l : List Kl) (a : Option Addr) (c : Nat) (r : Int) (w : World) (h : SlY yK w a l.length c l) (hb96 : l.length * 96 ≤ 140737488351232) :
    Calls Try.prog 41 #[.slice a l.length c, .int .i64 r] w fun e w' => ∃ v, e = .returned v ∧ OwnY yK w.heap.size w' v (upR l r) ∧ Below w.heap.size w w' := by
  go_enter Try.func41, Try.ntmps41
  go_upto_region 0 with fail
  refine wp_region_lit ?_
  refine vl_gen (fun T => Rp T 31 [(1, gw true (.int .i64 r)), (0, gw true (.slice a l.length c))]) (((Rp.nil rfl).cons rfl).cons rfl) (fun Z0 q0 => ?_)
  refine q0.t (.slice none 0 0) (ex_assign rfl rfl) fun _ q1 => ?_;clear q0
  refine wpList_nil ?_
  go_upto_region 1 with fail
  refine wp_region_lit ?_
  refine q1.t (.slice none 0 0) (ex_assign rfl rfl) fun _ q2 => ?_;clear q1
  refine wpList_nil ?_
  go_upto_region 2 with fail
  refine wp_region_lit ?_
  refine q2.t (.slice a l.length c) (ex_move rfl (q2.e (j := 0) rfl)) fun _ q3 => ?_;clear q2
  refine q3.t (.int .i64 (l.length : Int)) (ex_len18 rfl rfl (q3.e (j := 8) rfl)) fun _ q4 => ?_;clear q3
  refine q4.t (.int .i64 ((0 : Nat) : Int)) (ex_move rfl rfl) fun _ q5 => ?_;clear q4
  have q6 := ((((((Rp.nil q5.z).cons (q5.a 1 rfl)).cons (q5.a 5 rfl)).cons (q5.a 8 rfl)).cons (q5.a 9 rfl)).cons (q5.a 10 rfl))
  clear q5
  refine wpList_nil ?_
  go_upto_region 3 with fail
  refine v_loop 10 l.length (fun j T wr => ∃ v, Rp T 31 [(10, gw true (.int .i64 (j : Int))), (9, gw true (.int .i64 (l.length : Int))), (8, gw true (.slice a l.length c)), (5, gw true v), (1, gw true (.int .i64 r))] ∧ Hid (Below w.heap.size w wr ∧ OwnY yK w.heap.size wr v (upR (l.take j) (r)))) (fun j T w h => by obtain ⟨v, h, _⟩ := h; exact h.a 10 rfl) ⟨_, q6, Below.refl _ _, OwnY.nil _ _ _⟩ ?_
  clear q6
  intro j T wr hj hh
  obtain ⟨v, q100, HJ⟩ := hh
  obtain ⟨br, hO⟩ := HJ.out
  clear HJ
  have zr := br.size
  by_cases hit : j < l.length
  · obtain ⟨x, hx⟩ : ∃ x, l[j]? = some x := ⟨_, List.getElem?_eq_getElem hit⟩
    obtain ⟨qa, oa, hqa, hqal, hlie⟩ := (h.on br (Nat.le_refl _)).place (by rintro rfl; simp at hit)
    have hua := upR_at (r := r) hx
    have hul := upR_len (l.take j) (r)
    rw [List.length_take] at hul
    go_upto_region 3 with fail
    refine wp_region_lit ?_
    refine q100.t (.bool true) (ex_bin rfl (q100.e (j := 10) rfl) (q100.e (j := 9) rfl) (ltT _ _ hit _)) fun _ q101 => ?_;clear q100
    refine wpList_nil ?_
    go_upto_region 4 with fail
    refine wp_cond_true (q101.e (j := 11) rfl) ?_
    go_upto_region 4 with fail
    refine wp_region_lit ?_
    refine q101.t (.pointer (some ⟨qa, oa + j * 10, none⟩)) (ex_ix rfl (q101.e (j := 8) rfl) (q101.e (j := 10) rfl) (by rw [hqa]; exact ixK qa oa l.length c j hit _)) fun _ q102 => ?_;clear q101
    refine q102.t (x.val) (ex_ld rfl (q102.e (j := 12) rfl) (ldEl hlie hx)) fun _ q103 => ?_;clear q102
    obtain ⟨r1, hr1⟩ : ∃ y, y = wr.alloc (.cells zK.cs.toArray 45) := ⟨_, rfl⟩
    refine vw (.pointer (some ⟨wr.heap.size, 0, none⟩)) r1 (want_none rfl) (ex_al rfl (by rw [hr1]; exact alK _)) rfl q103.z (by decide) (q103.k fun _ q104 => ?_);clear q103
    have Bz : BB r1 wr.heap.size 45 zK.cs := by rw [hr1]; exact BB.new _ _ _
    have hr1b : Below wr.heap.size wr r1 := by rw [hr1]; exact (Below.refl _ _).alloc (Nat.le_refl _) _
    clear hr1
    obtain ⟨r2, hr2⟩ : ∃ y, y = r1.setCells wr.heap.size 0 x.cs := ⟨_, rfl⟩
    refine vs r2 (want_none rfl) (ex_st rfl (q104.e (j := 7) rfl) (q104.e (j := 13) rfl) (by rw [hr2]; exact Bz.stK)) rfl ?_
    have B13 : BB r2 wr.heap.size 45 x.cs := by rw [hr2]; exact Bz.whole _ rfl
    have hr2b : Below wr.heap.size wr r2 := by rw [hr2]; exact hr1b.trans (bel_ge (upd18 _ _ _ _) hr1b.size (Nat.le_refl _))
    clear hr2 Bz hr1b
    have y2 := hr2b.size
    have hl2 := B13.lt
    have O2 := hO.grow hr2b
    have bw2 : Below w.heap.size w r2 := br.trans (hr2b.mono zr)
    refine wpList_nil ?_
    go_upto_region 5 with fail
    refine wp_region_lit ?_
    refine q104.t (.pointer (some ⟨wr.heap.size, 5, none⟩)) (ex_fa rfl (q104.e (j := 7) rfl) (faK3 _ _)) fun _ q105 => ?_;clear q104
    refine q105.t (.int .i64 x.b) (ex_ld rfl (q105.e (j := 14) rfl) (ldI18 ((B13.cell 5).trans rfl))) fun _ q106 => ?_;clear q105
    refine q106.t (.int .i64 r) (ex_move rfl (q106.e (j := 1) rfl)) fun _ q107 => ?_;clear q106
    refine q107.t (.bool (decide (r < x.b))) (ex_bin rfl (q107.e (j := 15) rfl) (q107.e (j := 16) rfl) (gtrC _ _ _ _ _)) fun _ q108 => ?_;clear q107
    have q109 := ((((((((Rp.nil q108.z).cons (q108.a 1 rfl)).cons (q108.a 5 rfl)).cons (q108.a 7 rfl)).cons (q108.a 8 rfl)).cons (q108.a 9 rfl)).cons (q108.a 10 rfl)).cons (q108.a 17 rfl))
    clear q108
    refine wpList_nil ?_
    by_cases hb : r < x.b
    · have q109x := q109.a 17 rfl
      rw [decide_eq_true (by omega)] at q109x
      rw [if_pos hb, List.append_nil] at hua
      go_upto_region 9 with fail
      refine wp_cond_true (ev q109x rfl) ?_
      clear q109x
      go_upto_region 9 with fail
      refine wp_region_lit ?_
      refine q109.t (.int .i64 ((j + 1 : Nat) : Int)) (ex_bin rfl (q109.e (j := 10) rfl) rfl (add1C _ _ j (by omega) _)) fun _ q110 => ?_;clear q109
      refine q110.t (.int .i64 ((j + 1 : Nat) : Int)) (ex_move rfl (q110.e (j := 29) rfl)) fun _ q111 => ?_;clear q110
      have q112 := ((((((Rp.nil q111.z).cons (q111.a 1 rfl)).cons (q111.a 5 rfl)).cons (q111.a 8 rfl)).cons (q111.a 9 rfl)).cons (q111.a 10 rfl))
      clear q111
      refine wpList_nil ?_
      exact ⟨_, rfl, hit, _, q112, bw2, by rw [hua]; exact O2⟩
    · have q109x := q109.a 17 rfl
      rw [decide_eq_false (by omega)] at q109x
      rw [if_neg hb] at hua
      go_upto_region 6 with fail
      refine wp_cond_false (ev q109x rfl) ?_
      clear q109x
      go_upto_region 6 with fail
      refine wp_region_lit ?_
      refine q109.t (.pointer (some ⟨wr.heap.size, 6, none⟩)) (ex_fa rfl (q109.e (j := 7) rfl) (faK4 _ _)) fun _ q110 => ?_;clear q109
      refine q110.t (.int .i64 x.e) (ex_ld rfl (q110.e (j := 18) rfl) (ldI18 ((B13.cell 6).trans rfl))) fun _ q111 => ?_;clear q110
      refine q111.t (.int .i64 r) (ex_move rfl (q111.e (j := 1) rfl)) fun _ q112 => ?_;clear q111
      refine q112.t (.bool (decide (r < x.e))) (ex_bin rfl (q112.e (j := 19) rfl) (q112.e (j := 20) rfl) (gtrC _ _ _ _ _)) fun _ q113 => ?_;clear q112
      have q114 := ((((((((Rp.nil q113.z).cons (q113.a 1 rfl)).cons (q113.a 5 rfl)).cons (q113.a 7 rfl)).cons (q113.a 8 rfl)).cons (q113.a 9 rfl)).cons (q113.a 10 rfl)).cons (q113.a 21 rfl))
      clear q113
      refine wpList_nil ?_
      by_cases he : r < x.e
      · have q114x := q114.a 21 rfl
        rw [decide_eq_true (by omega)] at q114x
        have hct : ctK (r) x = (({ x with e := -1, r := (0, 0, ⟨#[]⟩) } : Kl)) := by unfold ctK; rw [if_pos he]
        go_upto_region 7 with fail
        refine wp_cond_true (ev q114x rfl) ?_
        clear q114x
        go_upto_region 7 with fail
        refine wp_region_lit ?_
        obtain ⟨r3, hr3⟩ : ∃ y, y = r2.setCell ⟨wr.heap.size, 6, none⟩ (.int .i64 (-1)) := ⟨_, rfl⟩
        have B14 : BB r3 wr.heap.size 45 ({ x with e := -1 } : Kl).cs := by rw [hr3]; exact B13.set1 6 _
        refine q114.t (.agg #[.int .i64 0, .int .i64 0, .string ⟨#[]⟩]) (ex_build rfl (bdRs18 _)) fun _ q115 => ?_;clear q114
        refine q115.t (.pointer (some ⟨wr.heap.size, 6, none⟩)) (ex_fa rfl (q115.e (j := 7) rfl) (faK4 _ _)) fun _ q116 => ?_;clear q115
        refine vs r3 (want_none rfl) (ex_st rfl (q116.e (j := 23) rfl) rfl (by rw [hr3]; exact stI18 ((B13.cell 6).trans rfl) (B13.free 6))) rfl ?_
        refine q116.t (.pointer (some ⟨wr.heap.size, 7, none⟩)) (ex_fa rfl (q116.e (j := 7) rfl) (faK5 _ _)) fun _ q117 => ?_;clear q116
        obtain ⟨r4, hr4⟩ : ∃ y, y = r3.setCells wr.heap.size 7 [.int .i64 0, .int .i64 0, .string ⟨#[]⟩] := ⟨_, rfl⟩
        refine vs r4 (want_none rfl) (ex_st rfl (q117.e (j := 24) rfl) (q117.e (j := 22) rfl) (by rw [hr4]; exact B14.stR8)) rfl ?_
        have B15 : BB r4 wr.heap.size 45 (({ x with e := -1, r := (0, 0, ⟨#[]⟩) } : Kl)).cs := by rw [hr4, hr3]; exact B13.cut8
        have u4 : Upd (fun k => k = wr.heap.size) r2 r4 := by rw [hr4, hr3]; exact ((Upd.refl (fun k => k = wr.heap.size) _).setCell (p := ⟨wr.heap.size, 6, none⟩) (.inl rfl) _).trans (upd18 _ _ _ _)
        clear hr3 hr4 B14
        have bw4 : Below w.heap.size w r4 := bw2.trans (bel_ge u4 (by omega) (by omega))
        have O4 := O2.upd1 u4 (fun g hg => by have := hO.blk g hg; omega)
        have y4 := u4.size
        refine wpList_nil ?_
        go_upto_region 8 with fail
        refine wp_region_lit ?_
        refine q117.t (v) (ex_move rfl (q117.e (j := 5) rfl)) fun _ q118 => ?_;clear q117
        refine q118.t ((({ x with e := -1, r := (0, 0, ⟨#[]⟩) } : Kl)).val) (ex_ld rfl (q118.e (j := 7) rfl) B15.ldK) fun _ q119 => ?_;clear q118
        obtain ⟨r5, hr5⟩ : ∃ z, z = r4.alloc (.cells (({ x with e := -1, r := (0, 0, ⟨#[]⟩) } : Kl)).cs.toArray 45) := ⟨_, rfl⟩
        refine vw (.slice (some ⟨r4.heap.size, 0, none⟩) 1 1) r5 (want_none rfl) (ex_bs18 rfl (q119.e (j := 26) rfl) (by rw [hr5]; exact bsK18 _ _)) rfl q119.z (by decide) (q119.k fun _ q120 => ?_);clear q119
        have s5 : SlY yK r5 (some ⟨r4.heap.size, 0, none⟩) 1 1 [({ x with e := -1, r := (0, 0, ⟨#[]⟩) } : Kl)] := by rw [hr5]; exact sl_box (Y := yK) r4 (({ x with e := -1, r := (0, 0, ⟨#[]⟩) } : Kl)) 45
        have b5 : Below r4.heap.size r4 r5 := by rw [hr5]; exact (Below.refl _ _).alloc (Nat.le_refl _) _
        clear hr5
        have y5 := b5.size
        have zz := bw4.size
        obtain ⟨v6, r6, ha6, o6, g6, _⟩ := run_appY kK r5 24 w.heap.size _ v _ 1 1 [({ x with e := -1, r := (0, 0, ⟨#[]⟩) } : Kl)] s5 (O4.grow b5) (by omega) (by unfold maxLen; omega) (by show ((upR (l.take j) (r)).length + 1) * 96 ≤ _; omega)
        have b6 : Below w.heap.size w r6 := (bw4.trans (b5.mono (by omega))).grown g6 (by omega) (fun k hk => (O4.blk k hk).1)
        refine vw (v6) r6 (want_none rfl) (ex_app18 rfl (q120.e (j := 25) rfl) (q120.e (j := 27) rfl) ha6) rfl q120.z (by decide) (q120.k fun _ q121 => ?_);clear q120
        refine q121.t (v6) (ex_assign rfl (q121.e (j := 28) rfl)) fun _ q122 => ?_;clear q121
        refine wpList_nil ?_
        go_upto_region 9 with fail
        refine wp_region_lit ?_
        refine q122.t (.int .i64 ((j + 1 : Nat) : Int)) (ex_bin rfl (q122.e (j := 10) rfl) rfl (add1C _ _ j (by omega) _)) fun _ q123 => ?_;clear q122
        refine q123.t (.int .i64 ((j + 1 : Nat) : Int)) (ex_move rfl (q123.e (j := 29) rfl)) fun _ q124 => ?_;clear q123
        have q125 := ((((((Rp.nil q124.z).cons (q124.a 1 rfl)).cons (q124.a 5 rfl)).cons (q124.a 8 rfl)).cons (q124.a 9 rfl)).cons (q124.a 10 rfl))
        clear q124
        refine wpList_nil ?_
        exact ⟨_, rfl, hit, v6, q125, b6, by rw [hua, hct]; exact o6⟩
      · have q114x := q114.a 21 rfl
        rw [decide_eq_false (by omega)] at q114x
        have hct : ctK (r) x = x := by unfold ctK; rw [if_neg he]
        go_upto_region 8 with fail
        refine wp_cond_false (ev q114x rfl) ?_
        clear q114x
        go_upto_region 8 with fail
        refine wp_region_lit ?_
        refine q114.t (v) (ex_move rfl (q114.e (j := 5) rfl)) fun _ q115 => ?_;clear q114
        refine q115.t ((x).val) (ex_ld rfl (q115.e (j := 7) rfl) B13.ldK) fun _ q116 => ?_;clear q115
        obtain ⟨r5, hr5⟩ : ∃ z, z = r2.alloc (.cells (x).cs.toArray 45) := ⟨_, rfl⟩
        refine vw (.slice (some ⟨r2.heap.size, 0, none⟩) 1 1) r5 (want_none rfl) (ex_bs18 rfl (q116.e (j := 26) rfl) (by rw [hr5]; exact bsK18 _ _)) rfl q116.z (by decide) (q116.k fun _ q117 => ?_);clear q116
        have s5 : SlY yK r5 (some ⟨r2.heap.size, 0, none⟩) 1 1 [x] := by rw [hr5]; exact sl_box (Y := yK) r2 (x) 45
        have b5 : Below r2.heap.size r2 r5 := by rw [hr5]; exact (Below.refl _ _).alloc (Nat.le_refl _) _
        clear hr5
        have y5 := b5.size
        have zz := bw2.size
        obtain ⟨v6, r6, ha6, o6, g6, _⟩ := run_appY kK r5 24 w.heap.size _ v _ 1 1 [x] s5 (O2.grow b5) (by omega) (by unfold maxLen; omega) (by show ((upR (l.take j) (r)).length + 1) * 96 ≤ _; omega)
        have b6 : Below w.heap.size w r6 := (bw2.trans (b5.mono (by omega))).grown g6 (by omega) (fun k hk => (O2.blk k hk).1)
        refine vw (v6) r6 (want_none rfl) (ex_app18 rfl (q117.e (j := 25) rfl) (q117.e (j := 27) rfl) ha6) rfl q117.z (by decide) (q117.k fun _ q118 => ?_);clear q117
        refine q118.t (v6) (ex_assign rfl (q118.e (j := 28) rfl)) fun _ q119 => ?_;clear q118
        refine wpList_nil ?_
        go_upto_region 9 with fail
        refine wp_region_lit ?_
        refine q119.t (.int .i64 ((j + 1 : Nat) : Int)) (ex_bin rfl (q119.e (j := 10) rfl) rfl (add1C _ _ j (by omega) _)) fun _ q120 => ?_;clear q119
        refine q120.t (.int .i64 ((j + 1 : Nat) : Int)) (ex_move rfl (q120.e (j := 29) rfl)) fun _ q121 => ?_;clear q120
        have q122 := ((((((Rp.nil q121.z).cons (q121.a 1 rfl)).cons (q121.a 5 rfl)).cons (q121.a 8 rfl)).cons (q121.a 9 rfl)).cons (q121.a 10 rfl))
        clear q121
        refine wpList_nil ?_
        exact ⟨_, rfl, hit, v6, q122, b6, by rw [hua, hct]; exact o6⟩
  · obtain rfl : j = l.length := by omega
    rw [List.take_length] at hO
    go_upto_region 3 with fail
    refine wp_region_lit ?_
    refine q100.t (.bool false) (ex_bin rfl (q100.e (j := 10) rfl) (q100.e (j := 9) rfl) (ltF _ _ hit _)) fun _ q101 => ?_;clear q100
    refine wpList_nil ?_
    go_upto_region 10 with fail
    refine wp_cond_false (q101.e (j := 11) rfl) ?_
    go_upto_region 10 with fail
    refine wp_region_lit ?_
    refine q101.t (v) (ex_move rfl (q101.e (j := 5) rfl)) fun _ q102 => ?_;clear q101
    refine q102.t (v) (ex_assign rfl (q102.e (j := 30) rfl)) fun _ q103 => ?_;clear q102
    refine wpList_nil ?_
    go_wp2
    refine bodyPost_ret (results_tmp rfl _ _ _) rfl ⟨v, ?_, hO, br⟩
    rw [getD_of (q103.a 4 rfl)]
    rfl
set_option maxHeartbeats 2000000 in
theorem cut18 (l : List Kl) (a : Option Addr) (c : Nat) (r : Int) (w : World) (h : SlY yK w a l.length c l) (hfx : ∀ x ∈ l, x.fits) (hb96 : l.length * 96 ≤ 140737488351232) (hrw : r ≤ 9223372036854775807) :
    Calls Try.prog 20 #[.slice a l.length c, .int .i64 r] w fun e w' => ∃ v, e = .returned (.tuple #[v, .int .i64 (ctR l r).2]) ∧ OwnY yK w.heap.size w' v (ctR l r).1 ∧ Below w.heap.size w w' := by
  go_enter Try.func20, Try.ntmps20
  go_upto_region 0 with fail
  refine wp_region_lit ?_
  refine vl_gen (fun T => Rp T 18 [(1, gw true (.int .i64 r)), (0, gw true (.slice a l.length c))]) (((Rp.nil rfl).cons rfl).cons rfl) (fun Z0 q0 => ?_)
  refine q0.t (.slice none 0 0) (ex_assign rfl rfl) fun _ q1 => ?_;clear q0
  refine q1.t (.int .i64 0) (ex_assign rfl rfl) fun _ q2 => ?_;clear q1
  refine wpList_nil ?_
  go_upto_region 1 with fail
  refine wp_region_lit ?_
  refine q2.t (.slice a l.length c) (ex_move rfl (q2.e (j := 0) rfl)) fun _ q3 => ?_;clear q2
  refine vcallP (want_none rfl) (ex_call rfl (by simp only [List.map_toArray, List.map_cons, List.map_nil, (q3.e (j := 7) rfl), evc] <;> rfl) rfl) (check18_any l a c w h hfx) rfl q3.z (by decide) ?_
  rintro e w1 ⟨rfl, b1⟩
  refine ⟨_, rfl, q3.k fun _ q4 => ?_⟩;clear q3
  have z1 := b1.size
  refine q4.t (.int .i64 (kchk l : Int)) (ex_assign rfl (q4.e (j := 8) rfl)) fun _ q5 => ?_;clear q4
  refine wpList_nil ?_
  go_upto_region 2 with fail
  refine wp_region_lit ?_
  refine q5.t (.int .i64 (kchk l : Int)) (ex_move rfl (q5.e (j := 6) rfl)) fun _ q6 => ?_;clear q5
  refine q6.t (.bool (!decide (kchk l = 0))) (ex_bin rfl (q6.e (j := 9) rfl) rfl (neqE18 _ _ _ _ _)) fun _ q7 => ?_;clear q6
  have q8 := (((((Rp.nil q7.z).cons (q7.a 0 rfl)).cons (q7.a 1 rfl)).cons (q7.a 6 rfl)).cons (q7.a 10 rfl))
  clear q7
  refine wpList_nil ?_
  by_cases hk : kchk l = 0
  · have q8x := q8.a 10 rfl
    rw [hk] at q8x
    go_upto_region 4 with fail
    refine wp_cond_false (ev q8x rfl) ?_
    clear q8x
    go_upto_region 4 with fail
    refine wp_region_lit ?_
    refine q8.t (.int .i64 r) (ex_move rfl (q8.e (j := 1) rfl)) fun _ q9 => ?_;clear q8
    refine q9.t (.bool (decide (r < 0))) (ex_bin rfl (q9.e (j := 12) rfl) rfl (lssC _ _ _ _ _)) fun _ q10 => ?_;clear q9
    have q11 := ((((Rp.nil q10.z).cons (q10.a 0 rfl)).cons (q10.a 1 rfl)).cons (q10.a 13 rfl))
    clear q10
    refine wpList_nil ?_
    by_cases hr : r < 0
    · have q11x := q11.a 13 rfl
      rw [decide_eq_true hr] at q11x
      have hE : ctR l r = ([], 3) := by unfold ctR; rw [if_neg (by simp [hk]), if_pos hr]
      go_upto_region 5 with fail
      refine wp_cond_true (ev q11x rfl) ?_
      go_upto_region 5 with fail
      refine wp_region_lit ?_
      refine q11.t (.slice none 0 0) (ex_assign rfl rfl) fun _ q12 => ?_;clear q11
      refine q12.t (.int .i64 3) (ex_assign rfl rfl) fun _ q13 => ?_;clear q12
      refine wpList_nil ?_
      go_wp2
      exact bodyPost_ret (results2_18 rfl (q13.a 4 rfl) (q13.a 5 rfl)) rfl ⟨_, by rw [hE], by rw [hE]; exact OwnY.nil _ _ _, b1⟩
    · have q11x := q11.a 13 rfl
      rw [decide_eq_false hr] at q11x
      have hE : ctR l r = (upR l (r - 1), 0) := by unfold ctR; rw [if_neg (by simp [hk]), if_neg hr]
      go_upto_region 6 with fail
      refine wp_cond_false (ev q11x rfl) ?_
      clear q11x
      go_upto_region 6 with fail
      refine wp_region_lit ?_
      refine q11.t (.slice a l.length c) (ex_move rfl (q11.e (j := 0) rfl)) fun _ q12 => ?_;clear q11
      refine q12.t (.int .i64 r) (ex_move rfl (q12.e (j := 1) rfl)) fun _ q13 => ?_;clear q12
      refine q13.t (.int .i64 (r - 1)) (ex_bin rfl (q13.e (j := 15) rfl) rfl (subN8 _ _ r (by omega) hrw _)) fun _ q14 => ?_;clear q13
      refine vcallP (want_none rfl) (ex_call rfl (by simp only [List.map_toArray, List.map_cons, List.map_nil, (q14.e (j := 14) rfl), (q14.e (j := 16) rfl), evc] <;> rfl) rfl) (upTo18 l a c (r - 1) w1 (h.on b1 (Nat.le_refl _)) hb96) rfl q14.z (by decide) ?_
      rintro e w2 ⟨v4, rfl, o4, b2⟩
      refine ⟨_, rfl, q14.k fun _ q15 => ?_⟩;clear q14
      refine q15.t (v4) (ex_assign rfl (q15.e (j := 17) rfl)) fun _ q16 => ?_;clear q15
      refine q16.t (.int .i64 0) (ex_assign rfl rfl) fun _ q17 => ?_;clear q16
      refine wpList_nil ?_
      go_wp2
      exact bodyPost_ret (results2_18 rfl (q17.a 4 rfl) (q17.a 5 rfl)) rfl ⟨_, by rw [hE], by rw [hE]; exact o4.low z1, b1.trans (b2.mono z1)⟩
  · have hk2 : kchk l = 180 := (kcA_zero [] l).resolve_left hk
    have hE : ctR l r = ([], 180) := by unfold ctR; rw [if_pos hk]
    have q8x := q8.a 10 rfl
    rw [decide_eq_false hk] at q8x
    go_upto_region 3 with fail
    refine wp_cond_true (ev q8x rfl) ?_
    clear q8x
    go_upto_region 3 with fail
    refine wp_region_lit ?_
    refine q8.t (.int .i64 (kchk l : Int)) (ex_move rfl (q8.e (j := 6) rfl)) fun _ q9 => ?_;clear q8
    refine q9.t (.slice none 0 0) (ex_assign rfl rfl) fun _ q10 => ?_;clear q9
    refine q10.t (.int .i64 180) (ex_assign rfl ((q10.e (j := 11) rfl).trans (by rw [hk2]))) fun _ q11 => ?_;clear q10
    refine wpList_nil ?_
    go_wp2
    exact bodyPost_ret (results2_18 rfl (q11.a 4 rfl) (q11.a 5 rfl)) rfl ⟨_, by rw [hE], by rw [hE]; exact OwnY.nil _ _ _, b1⟩
def slP (r : Int) (x : Kl) : Bool := (decide (x.o.k = 1) || decide (x.o.k = 3)) && decide (x.o.s = r)
end Go.Proofs.Ytjabbplfbjaenaa
namespace Go.Proofs.Ytjabbplfbjaenaa
open Classical
/-! ### Witnesses: the search finds one if there is one; a beginning of a good history is good -/
theorem lck_iff (l : List Kl) (D : List Bool) : lckK l D = true ↔ ∃ j x, l[j]? = some x ∧ ansK x = true ∧ at9 D j = false := by
  unfold lckK lcI
  rw [List.any_eq_true]
  constructor
  · rintro ⟨j, hj, h⟩
    cases hx : l[j]? with
    | none => rw [hx] at h; cases h
    | some x =>
      rw [hx] at h
      simp only [Bool.and_eq_true, Bool.not_eq_true'] at h
      exact ⟨j, x, hx, h.1, h.2⟩
  · rintro ⟨j, x, hx, h1, h2⟩
    refine ⟨j, List.mem_range.2 (List.getElem?_eq_some_iff.1 hx).1, ?_⟩
    rw [hx]
    simp [h1, h2]
/-! ### Calls one by one: one order alone is left -/
theorem srK_end {l : List Kl} {D : List Bool} {L : List Cl} (k : Nat) (h : lckK l D = false) : srK l k D L = some [] := by
  cases k <;> unfold srK <;> rw [h] <;> rfl
def opn (x : Kl) : Kl := { x with e := -1, r := (0, 0, ⟨#[]⟩) }
theorem lst_open (l : List Kl) : lst (l.map opn) = some [] := by
  unfold lst
  refine srK_end _ ?_
  cases hc : lckK (l.map opn) D0 with
  | false => rfl
  | true =>
    obtain ⟨j, x, hx, h, _⟩ := (lck_iff _ _).1 hc
    rw [List.getElem?_map] at hx
    cases hy : l[j]? with
    | none => rw [hy] at hx; cases hx
    | some y =>
      rw [hy] at hx
      cases hx
      exact absurd (of_decide_eq_true h) (by show ¬ (0 : Int) ≤ -1; omega)
end Go.Proofs.Ytjabbplfbjaenaa
namespace Go.Proofs.Ytjabbplfbjaenaa
open Go.RowKit Go.Maps
open Classical
/-! ### Locality -/
def fx (l : List Kl) (r : Int) (i : Nat) : Nat := ((l.take i).filter (slP r)).length
def oV (o : Opn) : Value := .agg #[.int .i64 o.k, .int .i64 o.s, .string o.v]
theorem bdr62 (w : World) : (Instr.build 43 #[]).run Try.prog w = .ok (rV (0, 0, ⟨#[]⟩)) w := by kernel_rfl
theorem addZ62 (x y : Operand) (a b : Int) (h : -9223372036854775808 ≤ a + b ∧ a + b ≤ 9223372036854775807) (w : World) : (do eqGuard .add 3 x y (.int .i64 a) (.int .i64 b); binOp .add 3 (.int .i64 a) (.int .i64 b) : Sem Value).run Try.prog w = .ok (.int .i64 (a + b)) w := by
  have hwr : IntKind.i64.wrap (a + b) = a + b := by rw [IntKind.wrap_i64]; omega
  go_simp
theorem neqF62 (x y : Operand) {a b : Int} (h : a = b) (w : World) : (do eqGuard .neq 3 x y (.int .i64 a) (.int .i64 b); binOp .neq 3 (.int .i64 a) (.int .i64 b) : Sem Value).run Try.prog w = .ok (.bool false) w := by
  have := neqC x y a b w
  rw [decide_eq_true h] at this
  exact this
theorem eqT62 (x y : Operand) {a b : Int} (h : a = b) (w : World) : (do eqGuard .eql 3 x y (.int .i64 a) (.int .i64 b); binOp .eql 3 (.int .i64 a) (.int .i64 b) : Sem Value).run Try.prog w = .ok (.bool true) w := by
  have := eqlC x y a b w
  rw [decide_eq_true h] at this
  exact this
theorem ltT62 (x y : Operand) {a b : Int} (h : a < b) (w : World) : (do eqGuard .lss 3 x y (.int .i64 a) (.int .i64 b); binOp .lss 3 (.int .i64 a) (.int .i64 b) : Sem Value).run Try.prog w = .ok (.bool true) w := by
  go_simp
theorem ltF62 (x y : Operand) {a b : Int} (h : ¬ a < b) (w : World) : (do eqGuard .lss 3 x y (.int .i64 a) (.int .i64 b); binOp .lss 3 (.int .i64 a) (.int .i64 b) : Sem Value).run Try.prog w = .ok (.bool false) w := by
  go_simp
theorem opn_fits {x : Kl} (h : x.fits) : (opn x).fits := ⟨h.cw, h.nw, h.ow, h.bw, by show (Lit.int .i64 (-1)).wf = true; decide, by show ByteArray.size ⟨#[]⟩ ≤ maxLen; decide⟩
theorem neEf62 (x y : Operand) (a : Int) (w : World) : (do eqGuard .neq 25 x y (.int .i64 a) (.int .i64 a); binOp .neq 25 (.int .i64 a) (.int .i64 a) : Sem Value).run Try.prog w = .ok (.bool false) w := by go_simp
/-! What LinearOwn's walk needs. -/
theorem hK_Z : yK.T ≠ zN.T := by decide
theorem hK_N : yK.T ≠ yN.T := by decide
def Rz68 (K : List (SV Int)) (S : Nat) : Prop := (∀ (i : Nat) (y : SV Int) (b : Nat), K[i]? = some y → y.v.ownBlock = some b → b < S) ∧ ∀ (i j : Nat) (x y : SV Int) (b : Nat), K[i]? = some x → K[j]? = some y → x.v.ownBlock = some b → y.v.ownBlock = some b → i = j
theorem Rz68.nil (S : Nat) : Rz68 [] S := ⟨fun i y b h => by simp at h, fun i j x y b h => by simp at h⟩
theorem Rz68.up {K : List (SV Int)} {S S2 : Nat} (h : Rz68 K S) (hS : S ≤ S2) : Rz68 K S2 := ⟨fun i y b h1 h2 => Nat.lt_of_lt_of_le (h.1 i y b h1 h2) hS, h.2⟩
theorem Rz68.push {K : List (SV Int)} {S S2 : Nat} {x : SV Int} (h : Rz68 K S) (hS : S ≤ S2) (hx : ∀ b, x.v.ownBlock = some b → S ≤ b ∧ b < S2) : Rz68 (K ++ [x]) S2 := by
  have one : ∀ (i : Nat) (y : SV Int), (K ++ [x])[i]? = some y → (i < K.length ∧ K[i]? = some y) ∨ (i = K.length ∧ y = x) := fun i y hy => by
    by_cases hi : i < K.length
    · rw [List.getElem?_append_left hi] at hy
      exact .inl ⟨hi, hy⟩
    · rw [List.getElem?_append_right (by omega)] at hy
      have h0 : i - K.length < 1 := (List.getElem?_eq_some_iff.1 hy).1
      rw [show i - K.length = 0 by omega] at hy
      cases hy
      exact .inr ⟨by omega, rfl⟩
  refine ⟨fun i y b h1 h2 => ?_, fun i j y z b h1 h2 e1 e2 => ?_⟩
  · rcases one i y h1 with ⟨_, h3⟩ | ⟨_, rfl⟩
    · exact Nat.lt_of_lt_of_le (h.1 i y b h3 h2) hS
    · exact (hx b h2).2
  · rcases one i y h1 with ⟨g1, h3⟩ | ⟨g1, rfl⟩
    · rcases one j z h2 with ⟨g2, h4⟩ | ⟨g2, rfl⟩
      · exact h.2 i j y z b h3 h4 e1 e2
      · have := h.1 i y b h3 e1
        have := (hx b e2).1
        omega
    · rcases one j z h2 with ⟨g2, h4⟩ | ⟨g2, rfl⟩
      · have := h.1 j z b h4 e2
        have := (hx b e1).1
        omega
      · omega
theorem ex_neg68 {o : Oper} {ρ : Operand → Value} {x : Operand} {a : Int} {w : World} (ho : o.op = .unOp .neg 3 x) (hx : ρ x = .int .i64 a) (h : -9223372036854775807 ≤ a ∧ a ≤ 9223372036854775807) : (execOp ρ o).run Try.prog w = .ok (.value (.int .i64 (-a))) w := by
  have hw : IntKind.i64.wrap (-a) = -a := by rw [IntKind.wrap_i64]; omega
  unfold execOp
  simp only [ho, hx]
  go_simp
theorem ex_bs0_68 {o : Oper} {ρ : Operand → Value} {s : TypeId} {V : Value} {w w' : World} (ho : o.op = .buildSlice s 0 #[]) (hr : (Instr.buildSlice s 0 #[]).run Try.prog w = .ok V w') : (execOp ρ o).run Try.prog w = .ok (.value V) w' := by
  unfold execOp
  simp only [ho, List.map_toArray, List.map_nil, Sem.run_bind, hr, Result.andThen_ok]
  rfl
theorem bs0_68 (w : World) : (Instr.buildSlice 24 0 #[]).run Try.prog w = .ok (.slice (some ⟨w.heap.size, 0, none⟩) 0 0) (w.alloc (.cells #[] 45)) := by go_simp
theorem own0_68 {B : Nat} (w : World) (hB : B ≤ w.heap.size) : OwnY yK B (w.alloc (.cells #[] 45)) (.slice (some ⟨w.heap.size, 0, none⟩) 0 0) [] :=
  ⟨rfl, .inr ⟨w.heap.size, 0, #[], rfl, hB, World.alloc_heap_new _ _, Nat.le_refl _, by unfold maxLen; omega, rfl, rfl⟩⟩
theorem ex_bs3_68 {o : Oper} {ρ : Operand → Value} {s : TypeId} {x y z : Operand} {X Y Z V : Value} {w w' : World} (ho : o.op = .buildSlice s 3 #[(0, x), (1, y), (2, z)]) (hx : ρ x = X) (hy : ρ y = Y) (hz : ρ z = Z) (hr : (Instr.buildSlice s 3 #[(0, X), (1, Y), (2, Z)]).run Try.prog w = .ok V w') : (execOp ρ o).run Try.prog w = .ok (.value V) w' := by
  unfold execOp
  simp only [ho, List.map_toArray, List.map_cons, List.map_nil, hx, hy, hz, Sem.run_bind, hr, Result.andThen_ok]
  rfl
def nK (z : Int) : Kl := ⟨0, 0, ⟨0, 0, ⟨#[]⟩⟩, z, 0, (0, 0, ⟨#[]⟩)⟩
theorem bdB68 (z : Int) (w : World) : (Instr.build 45 #[(3, .int .i64 z)]).run Try.prog w = .ok (nK z).val w := by
  unfold nK Kl.val
  go_simp
theorem bs3_68 (z : Int) (w : World) : (Instr.buildSlice 24 3 #[(0, (nK z).val), (1, (nK z).val), (2, (nK z).val)]).run Try.prog w = .ok (.slice (some ⟨w.heap.size, 0, none⟩) 3 3) (w.alloc (.cells (fl yK [nK z, nK z, nK z]).toArray 45)) := by
  unfold nK Kl.val
  go_simp
  rfl
theorem fa3_68 (q o : Nat) (w : World) : (Instr.fieldAt 45 (.pointer (some ⟨q, o, none⟩)) 3).run Try.prog w = .ok (.pointer (some ⟨q, o + 5, none⟩)) w := by go_simp
theorem fa4_68 (q o : Nat) (w : World) : (Instr.fieldAt 45 (.pointer (some ⟨q, o, none⟩)) 4).run Try.prog w = .ok (.pointer (some ⟨q, o + 6, none⟩)) w := by go_simp
theorem fa5_68 (q o : Nat) (w : World) : (Instr.fieldAt 45 (.pointer (some ⟨q, o, none⟩)) 5).run Try.prog w = .ok (.pointer (some ⟨q, o + 7, none⟩)) w := by go_simp
theorem ix0_68 (g n c j : Nat) (hj : j < n) (w : World) : (Instr.indexAt 24 (.slice (some ⟨g, 0, none⟩) n c) (.int .i64 (j : Int))).run Try.prog w = .ok (.pointer (some ⟨g, j * 10, none⟩)) w := by
  have := ixK g 0 n c j hj w
  rw [Nat.zero_add] at this
  exact this
theorem neEt68 (x y : Operand) {a : Int} (h : ¬ a = 0) (w : World) : (do eqGuard .neq 25 x y (.int .i64 a) (.int .i64 0); binOp .neq 25 (.int .i64 a) (.int .i64 0) : Sem Value).run Try.prog w = .ok (.bool true) w := by
  go_simp
/-! A list whose first calls are written over. -/
def fF (f : Kl → Kl) (k : Nat) (X : List Kl) : List Kl := (X.take k).map f ++ X.drop k
theorem fF_len (f : Kl → Kl) (k : Nat) (X : List Kl) : (fF f k X).length = X.length := by
  unfold fF
  rw [List.length_append, List.length_map, ← List.length_append, List.take_append_drop]
theorem fF_end (f : Kl → Kl) (X : List Kl) : fF f X.length X = X.map f := by
  unfold fF
  rw [List.take_length, List.drop_length, List.append_nil]
theorem fF_get {f : Kl → Kl} {k : Nat} {X : List Kl} {x : Kl} (hx : X[k]? = some x) : (fF f k X)[k]? = some x := by
  have hl := (List.getElem?_eq_some_iff.1 hx).1
  unfold fF
  rw [List.getElem?_append_right (by rw [List.length_map, List.length_take]; omega), List.length_map, List.length_take, Nat.min_eq_left (by omega), Nat.sub_self, List.getElem?_drop]
  exact hx
theorem fF_set {f : Kl → Kl} {k : Nat} {X : List Kl} {x : Kl} (hx : X[k]? = some x) : (fF f k X).set k (f x) = fF f (k + 1) X := by
  obtain ⟨hl, hx2⟩ := List.getElem?_eq_some_iff.1 hx
  unfold fF
  rw [List.set_append_right (h := by rw [List.length_map, List.length_take]; omega), List.length_map, List.length_take, Nat.min_eq_left (by omega), Nat.sub_self, List.take_add_one, hx, List.map_append, List.append_assoc, List.drop_eq_getElem_cons hl]
  rfl
def bz (z : Int) (x : Kl) : Kl := { x with b := z }
/-! Stores into an own list. -/
theorem stKb68 {w : World} {B g n c : Nat} {l : List Kl} {i : Nat} {x : Kl} (h : OwnY yK B w (.slice (some ⟨g, 0, none⟩) n c) l) (hx : l[i]? = some x) (z : Int) :
    ∃ w', (Instr.storeAt 3 (.pointer (some ⟨g, i * 10 + 5, none⟩)) (.int .i64 z)).run Try.prog w = .ok () w' ∧ OwnY yK B w' (.slice (some ⟨g, 0, none⟩) n c) (l.set i (bz z x)) ∧ Upd (fun k => k = g) w w' :=
  ⟨_, stI18 (h.cell kK i x hx 5 _ rfl) (h.free _), h.set1 kK hx (bz z x) 5 (.int .i64 z) (by decide) rfl, (Upd.refl (fun k => k = g) w).setCell (p := ⟨g, i * 10 + 5, none⟩) (.inl rfl) _⟩
theorem stKe68 {w : World} {B g n c : Nat} {l : List Kl} {i : Nat} {x : Kl} (h : OwnY yK B w (.slice (some ⟨g, 0, none⟩) n c) l) (hx : l[i]? = some x) (z : Int) :
    ∃ w', (Instr.storeAt 3 (.pointer (some ⟨g, i * 10 + 6, none⟩)) (.int .i64 z)).run Try.prog w = .ok () w' ∧ OwnY yK B w' (.slice (some ⟨g, 0, none⟩) n c) (l.set i { x with e := z }) ∧ Upd (fun k => k = g) w w' :=
  ⟨_, stI18 (h.cell kK i x hx 6 _ rfl) (h.free _), h.set1 kK hx { x with e := z } 6 (.int .i64 z) (by decide) rfl, (Upd.refl (fun k => k = g) w).setCell (p := ⟨g, i * 10 + 6, none⟩) (.inl rfl) _⟩
theorem stKr68 {w : World} {B g n c : Nat} {l : List Kl} {i : Nat} {x : Kl} (h : OwnY yK B w (.slice (some ⟨g, 0, none⟩) n c) l) (hx : l[i]? = some x) (r : Rs) :
    ∃ w', (Instr.storeAt 43 (.pointer (some ⟨g, i * 10 + 7, none⟩)) (rV r)).run Try.prog w = .ok () w' ∧ OwnY yK B w' (.slice (some ⟨g, 0, none⟩) n c) (l.set i { x with r := r }) ∧ Upd (fun k => k = g) w w' := by
  have hst := run_storeAt_mid (P := Try.prog) w g (i * 10 + 7) 43 (rsC r).toArray (fun j hj => by
    have hj : j < 3 := hj
    have e : i * 10 + 7 + j = i * yK.k + (7 + j) := by show _ = i * 10 + (7 + j); omega
    refine ⟨?_, h.free _⟩
    rw [e, h.cell kK i x hx (7 + j) _ (List.getElem?_eq_getElem (by show 7 + j < 10; omega))]
    rfl) info3r (oneR18 r)
  have hl := (List.getElem?_eq_some_iff.1 hx).1
  have h1 := h.set1 kK hx { x with r := (r.1, x.r.2) } 7 (.int .i64 r.1) (by decide) rfl
  have h2 := h1.set1 kK (x := { x with r := (r.1, x.r.2) }) (by rw [List.getElem?_set_self hl]) { x with r := (r.1, r.2.1, x.r.2.2) } 8 (.int .i64 r.2.1) (by decide) rfl
  rw [List.set_set] at h2
  have h3 := h2.set1 kK (x := { x with r := (r.1, r.2.1, x.r.2.2) }) (by rw [List.getElem?_set_self hl]) { x with r := r } 9 (.string r.2.2) (by decide) rfl
  rw [List.set_set] at h3
  exact ⟨_, hst, h3, upd18 _ _ _ _⟩
theorem keep68 {B : Nat} {w w' : World} {a : Option Addr} {n c : Nat} {D F : List Kl} {v' : Value} (o0 : OwnY yK B w (.slice a n c) D) (o : OwnY yK B w' v' (D ++ F)) (g : w.grownBy w' (Value.ownBlock (.slice a n c)))
    (h4 : v'.ownBlock = Value.ownBlock (.slice a n c) ∨ ((∃ k, v'.ownBlock = some k ∧ w.heap.size ≤ k) ∧ w.grownBy w' none)) : SlY yK w' a n c D := by
  have hs := o0.sl' kK
  rcases h4 with h4 | ⟨_, g0⟩
  · refine ⟨hs.len, hs.cap, hs.max, hs.nil, fun y hy => ?_⟩
    obtain ⟨a0, c0, e0, _, _, _, h7⟩ := o0.form
    injection e0 with e1 _ _
    obtain ⟨q, rfl, _, _⟩ := h7 y (by rw [← e1]; exact hy)
    have e2 : v'.ownBlock = some q := by rw [h4, hy]; rfl
    obtain ⟨a2, c2, rfl, _, _, _, h6⟩ := o.form
    cases ha : a2 with
    | none => rw [ha] at e2; cases e2
    | some z =>
      obtain ⟨q2, rfl, _, hlt⟩ := h6 z ha
      rw [ha] at e2 o
      have e3 : q2 = q := by injection e2
      subst e3
      exact .inr ⟨q2, 0, rfl, hlt, fun i y hy j u hu => by
        rw [Nat.zero_add]
        exact o.cell kK i y (by rw [List.getElem?_append_left (List.getElem?_eq_some_iff.1 hy).1]; exact hy) j u hu⟩
  · exact hs.upd (gupd63 g0) (fun y hy _ hh => by cases hh)
theorem SlY.off68 {α : Type} {Y : Lay α} {S : Nat → Prop} {w w' : World} {a : Option Addr} {n c : Nat} {l : List α} (h : SlY Y w a n c l) (u : Upd S w w') (hs : ∀ k, Value.ownBlock (.slice a n c) = some k → ¬ S k) : SlY Y w' a n c l :=
  h.upd u (fun y hy _ => hs _ (by rw [hy]; rfl))
theorem ctR_pos {l : List Kl} {r : Int} : ∀ x ∈ (ctR l r).1, 0 ≤ x.b := by
  intro x hx
  unfold ctR at hx
  split at hx
  · cases hx
  · rename_i hk
    split at hx
    · cases hx
    · have hk0 : kchk l = 0 := by omega
      unfold upR at hx
      obtain ⟨y, hy, e⟩ := List.mem_filterMap.1 hx
      have hm := (kcA_ok [] l hk0).1 y hy
      have hb : 0 ≤ y.b := by
        unfold mayK at hm
        simp only [Bool.and_eq_true, decide_eq_true_eq] at hm
        exact hm.2.1
      split at e
      · cases e
      · cases e
        unfold ctK
        split <;> exact hb
theorem ctR_len68 (l : List Kl) (r : Int) : (ctR l r).1.length ≤ l.length := by
  unfold ctR
  split
  · exact Nat.zero_le _
  · split
    · exact Nat.zero_le _
    · exact upR_len _ _
theorem srE_ok68 {l : List Kl} (h : srE l = 0) : kchk l = 0 ∧ l.length ≤ 8 := by
  unfold srE at h
  split at h
  · omega
  · split at h
    · cases h
    · omega
theorem srA_le68 (l : List Kl) : (ints ((srA l).getD [])).length ≤ 8 := by
  unfold ints
  rw [List.length_map]
  cases h : srA l with
  | none => exact Nat.zero_le _
  | some s =>
    unfold srA at h
    split at h
    · cases h
    · rename_i h0
      have h8 := (srE_ok68 (l := l) (by omega)).2
      have hs := srK_len l _ _ _ s h
      show s.length ≤ 8
      omega
theorem srA_open68 {l : List Kl} (h : srE (l.map opn) = 0) : srA (l.map opn) = some [] := by
  unfold srA
  rw [if_neg (by omega)]
  exact lst_open l
theorem ints68 (b B S S2 : Nat) (kv : Value) (K : List (SV Int)) (x : SV Int) (w : World) (h : BB w b 67 (bkC kv)) (own : OwnY zN B w kv K) (hb : b < B) (hB : B ≤ w.heap.size) (hn : K.length ≤ 100)
    (hr : ∀ (i : Nat) (y : SV Int), K[i]? = some y → OwnY yN B w y.v y.D ∧ y.D.length ≤ 8) (hz : Rz68 K S) (hx : OwnY yN B w x.v x.D) (hx8 : x.D.length ≤ 8) (hxs : ∀ k, x.v.ownBlock = some k → S ≤ k ∧ k < S2) (hS : S ≤ S2) :
    Calls Try.prog 22 #[.pointer (some ⟨b, 0, none⟩), .slice x.a x.D.length x.c] w fun e w' => ∃ (kv' : Value) (K' : List (SV Int)), e = .returned (.tuple #[]) ∧ BB w' b 67 (bkC kv') ∧ OwnY zN B w' kv' K' ∧ K'.length ≤ K.length + 1 ∧ (∀ (i : Nat) (y : SV Int), K'[i]? = some y → OwnY yN B w' y.v y.D ∧ y.D.length ≤ 8) ∧ Rz68 K' S2 ∧ Upd (fun k => k = b ∨ kv.ownBlock = some k) w w' := by
  by_cases h0 : x.D.length = 0
  · rw [h0]
    refine Calls.mono (ints_none65 b x.a x.c w) (fun e w' he => ?_)
    obtain ⟨rfl, rfl⟩ := he
    exact ⟨kv, K, rfl, h, own, by omega, hr, hz.up hS, Upd.refl _ _⟩
  · refine Calls.mono (ints_some65 b B kv K x w h own hb hB (by omega) hn) (fun e w' he => ?_)
    obtain ⟨kv', rfl, h2, o2, u⟩ := he
    have far : ∀ (y : SV Int), OwnY yN B w y.v y.D → OwnY yN B w' y.v y.D := fun y hy => hy.upd1 u (fun g hg e => by
      rcases e with e | e
      · have := (hy.blk g hg).1
        omega
      · exact OwnY.apart hy own hN_NN g hg e)
    refine ⟨kv', K ++ [x], rfl, h2, o2, by rw [List.length_append]; exact Nat.le_refl _, fun i y hy => ?_, hz.push hS hxs, u⟩
    by_cases hi : i < K.length
    · rw [List.getElem?_append_left hi] at hy
      exact ⟨far y (hr i y hy).1, (hr i y hy).2⟩
    · rw [List.getElem?_append_right (by omega)] at hy
      have h3 : i - K.length < 1 := (List.getElem?_eq_some_iff.1 hy).1
      rw [show i - K.length = 0 by omega] at hy
      cases hy
      exact ⟨far x hx, hx8⟩
end Go.Proofs.Ytjabbplfbjaenaa
