import Derived.Test.YtidfcflcjkbeeaaGKz
import Derived.Shelf.Lay
import Derived.Shelf.Sort.Plain
import Derived.Shelf.Slices.In.SortNone
import Derived.Sort.OwnSortedInts
import Derived.Ground.NamesProg
namespace Go.Proofs.Ytidfcflcjkbeeaa
open Go.RowKit Go.Maps
open Classical
set_option linter.unusedVariables false
set_option linter.unusedSimpArgs false

/-- A call as it stands at a row: unanswered if its answer comes behind. -/
def ctK (r : Int) (x : Kl) : Kl := if r < x.e then { x with e := -1, r := (0, 0, ⟨#[]⟩) } else x
/-- What of a history there is up to a row. -/
def upR (l : List Kl) (r : Int) : List Kl := l.filterMap fun x => if r < x.b then none else some (ctK r x)
theorem upR_len (l : List Kl) (r : Int) : (upR l r).length ≤ l.length := List.length_filterMap_le _ _
theorem upR_at {l : List Kl} {r : Int} {j : Nat} {x : Kl} (h : l[j]? = some x) : upR (l.take (j + 1)) r = upR (l.take j) r ++ (if r < x.b then [] else [ctK r x]) := by
  obtain ⟨hj, rfl⟩ := List.getElem?_eq_some_iff.1 h
  unfold upR
  rw [List.take_succ_eq_append_getElem hj, List.filterMap_append]
  congr 1
  by_cases h : r < l[j].b <;> simp [h]
theorem ctK_fits {r : Int} {x : Kl} (h : x.fits) : (ctK r x).fits := by
  unfold ctK
  split
  · exact ⟨h.cw, h.nw, h.ow, h.bw, (by show (Lit.int .i64 (-1)).wf = true; decide), by show (⟨#[]⟩ : ByteArray).size ≤ maxLen; unfold maxLen; decide⟩
  · exact h
theorem upR_fits {l : List Kl} {r : Int} (h : ∀ x ∈ l, x.fits) : ∀ x ∈ upR l r, x.fits := by
  intro x hx
  unfold upR at hx
  obtain ⟨y, hy, e⟩ := List.mem_filterMap.1 hx
  split at e
  · cases e
  · cases e; exact ctK_fits (h y hy)
def ctR (l : List Kl) (row : Int) : List Kl × Int := if kchk l ≠ 0 then ([], 180) else if row < 0 then ([], 3) else (upR l (row - 1), 0)
theorem bsK18 (x : Kl) (w : World) : (Instr.buildSlice 24 1 #[(0, x.val)]).run Try.prog w = .ok (.slice (some ⟨w.heap.size, 0, none⟩) 1 1) (w.alloc (.cells x.cs.toArray 50)) := by unfold Kl.val Kl.cs; go_simp
theorem BB.stR8 {w : World} {q : Nat} {T : TypeId} {x : Kl} (h : BB w q T x.cs) : (Instr.storeAt 48 (.pointer (some ⟨q, 7, none⟩)) (.agg #[.int .i64 0, .int .i64 0, .string ⟨#[]⟩])).run Try.prog w = .ok () (w.setCells q 7 [.int .i64 0, .int .i64 0, .string ⟨#[]⟩]) :=
  run_storeAt_mid (P := Try.prog) w q 7 48 #[.int .i64 0, .int .i64 0, .string ⟨#[]⟩] (fun j hj => ⟨by
    rw [h.cell]
    match j, hj with
    | 0, _ => rfl
    | 1, _ => rfl
    | 2, _ => rfl
    | j + 3, hj => simp at hj; omega, h.free _⟩) info3r (by
    rw [Array.all_eq_true_iff_forall_mem]
    intro u hu
    simp only [List.mem_toArray, List.mem_cons, List.not_mem_nil, or_false] at hu
    rcases hu with rfl | rfl | rfl <;> rfl)
theorem BB.cut8 {w : World} {q : Nat} {T : TypeId} {x : Kl} (h : BB w q T x.cs) : BB ((w.setCell ⟨q, 6, none⟩ (.int .i64 (-1))).setCells q 7 [.int .i64 0, .int .i64 0, .string ⟨#[]⟩]) q T ({ x with e := -1, r := (0, 0, ⟨#[]⟩) } : Kl).cs :=
  (((h.set1 6 (.int .i64 (-1))).set1 7 (.int .i64 0)).set1 8 (.int .i64 0)).set1 9 (.string ⟨#[]⟩)
theorem subN8 (x y : Operand) (r : Int) (h : 0 ≤ r) (h2 : r ≤ 9223372036854775807) (w : World) : (do eqGuard .sub 3 x y (.int .i64 r) (.int .i64 1); binOp .sub 3 (.int .i64 r) (.int .i64 1) : Sem Value).run Try.prog w = .ok (.int .i64 (r - 1)) w := by
  have h3 : IntKind.i64.wrap (r - 1) = r - 1 := by rw [IntKind.wrap_i64]; omega
  go_simp
set_option maxRecDepth 100000 in
set_option maxHeartbeats 2000000 in
theorem upTo18 (l : List Kl) (a : Option Addr) (c : Nat) (r : Int) (w : World) (h : SlY yK w a l.length c l) (hb96 : l.length * 96 ≤ 140737488351232) :
    Calls Try.prog 47 #[.slice a l.length c, .int .i64 r] w fun e w' => ∃ v, e = .returned v ∧ OwnY yK w.heap.size w' v (upR l r) ∧ Below w.heap.size w w' := by
  go_enter Try.func47, Try.ntmps47
  go_upto_region 0 with fail
  refine wp_region_lit ?_
  refine vl_gen (fun T => Rp T 31 [(1, gw true (.int .i64 r)), (0, gw true (.slice a l.length c))]) (((Rp.nil rfl).cons rfl).cons rfl) (fun Z0 q0 => ?_)
  refine q0.t (.slice none 0 0) (ex_assign rfl rfl) fun _ q1 => ?_;clear q0
  refine wpList_nil ?_
  go_upto_region 1 with fail
  refine wp_region_lit ?_
  refine q1.t (.slice none 0 0) (ex_assign rfl rfl) fun _ q2 => ?_;clear q1
  refine wpList_nil ?_
  go_upto_region 2 with fail
  refine wp_region_lit ?_
  refine q2.t (.slice a l.length c) (ex_move rfl (q2.e (j := 0) rfl)) fun _ q3 => ?_;clear q2
  refine q3.t (.int .i64 (l.length : Int)) (ex_len18 rfl rfl (q3.e (j := 8) rfl)) fun _ q4 => ?_;clear q3
  refine q4.t (.int .i64 ((0 : Nat) : Int)) (ex_move rfl rfl) fun _ q5 => ?_;clear q4
  have q6 := ((((((Rp.nil q5.z).cons (q5.a 1 rfl)).cons (q5.a 5 rfl)).cons (q5.a 8 rfl)).cons (q5.a 9 rfl)).cons (q5.a 10 rfl))
  clear q5
  refine wpList_nil ?_
  go_upto_region 3 with fail
  refine v_loop 10 l.length (fun j T wr => ∃ v, Rp T 31 [(10, gw true (.int .i64 (j : Int))), (9, gw true (.int .i64 (l.length : Int))), (8, gw true (.slice a l.length c)), (5, gw true v), (1, gw true (.int .i64 r))] ∧ Hid (Below w.heap.size w wr ∧ OwnY yK w.heap.size wr v (upR (l.take j) (r)))) (fun j T w h => by obtain ⟨v, h, _⟩ := h; exact h.a 10 rfl) ⟨_, q6, Below.refl _ _, OwnY.nil _ _ _⟩ ?_
  clear q6
  intro j T wr hj hh
  obtain ⟨v, q100, HJ⟩ := hh
  obtain ⟨br, hO⟩ := HJ.out
  clear HJ
  have zr := br.size
  by_cases hit : j < l.length
  · obtain ⟨x, hx⟩ : ∃ x, l[j]? = some x := ⟨_, List.getElem?_eq_getElem hit⟩
    obtain ⟨qa, oa, hqa, hqal, hlie⟩ := (h.on br (Nat.le_refl _)).place (by rintro rfl; simp at hit)
    have hua := upR_at (r := r) hx
    have hul := upR_len (l.take j) (r)
    rw [List.length_take] at hul
    go_upto_region 3 with fail
    refine wp_region_lit ?_
    refine q100.t (.bool true) (ex_bin rfl (q100.e (j := 10) rfl) (q100.e (j := 9) rfl) (ltT _ _ hit _)) fun _ q101 => ?_;clear q100
    refine wpList_nil ?_
    go_upto_region 4 with fail
    refine wp_cond_true (q101.e (j := 11) rfl) ?_
    go_upto_region 4 with fail
    refine wp_region_lit ?_
    refine q101.t (.pointer (some ⟨qa, oa + j * 10, none⟩)) (ex_ix rfl (q101.e (j := 8) rfl) (q101.e (j := 10) rfl) (by rw [hqa]; exact ixK qa oa l.length c j hit _)) fun _ q102 => ?_;clear q101
    refine q102.t (x.val) (ex_ld rfl (q102.e (j := 12) rfl) (ldEl hlie hx)) fun _ q103 => ?_;clear q102
    obtain ⟨r1, hr1⟩ : ∃ y, y = wr.alloc (.cells zK.cs.toArray 50) := ⟨_, rfl⟩
    refine vw (.pointer (some ⟨wr.heap.size, 0, none⟩)) r1 (want_none rfl) (ex_al rfl (by rw [hr1]; exact alK _)) rfl q103.z (by decide) (q103.k fun _ q104 => ?_);clear q103
    have Bz : BB r1 wr.heap.size 50 zK.cs := by rw [hr1]; exact BB.new _ _ _
    have hr1b : Below wr.heap.size wr r1 := by rw [hr1]; exact (Below.refl _ _).alloc (Nat.le_refl _) _
    clear hr1
    obtain ⟨r2, hr2⟩ : ∃ y, y = r1.setCells wr.heap.size 0 x.cs := ⟨_, rfl⟩
    refine vs r2 (want_none rfl) (ex_st rfl (q104.e (j := 7) rfl) (q104.e (j := 13) rfl) (by rw [hr2]; exact Bz.stK)) rfl ?_
    have B13 : BB r2 wr.heap.size 50 x.cs := by rw [hr2]; exact Bz.whole _ rfl
    have hr2b : Below wr.heap.size wr r2 := by rw [hr2]; exact hr1b.trans (bel_ge (upd18 _ _ _ _) hr1b.size (Nat.le_refl _))
    clear hr2 Bz hr1b
    have y2 := hr2b.size
    have hl2 := B13.lt
    have O2 := hO.grow hr2b
    have bw2 : Below w.heap.size w r2 := br.trans (hr2b.mono zr)
    refine wpList_nil ?_
    go_upto_region 5 with fail
    refine wp_region_lit ?_
    refine q104.t (.pointer (some ⟨wr.heap.size, 5, none⟩)) (ex_fa rfl (q104.e (j := 7) rfl) (faK3 _ _)) fun _ q105 => ?_;clear q104
    refine q105.t (.int .i64 x.b) (ex_ld rfl (q105.e (j := 14) rfl) (ldI18 ((B13.cell 5).trans rfl))) fun _ q106 => ?_;clear q105
    refine q106.t (.int .i64 r) (ex_move rfl (q106.e (j := 1) rfl)) fun _ q107 => ?_;clear q106
    refine q107.t (.bool (decide (r < x.b))) (ex_bin rfl (q107.e (j := 15) rfl) (q107.e (j := 16) rfl) (gtrC _ _ _ _ _)) fun _ q108 => ?_;clear q107
    have q109 := ((((((((Rp.nil q108.z).cons (q108.a 1 rfl)).cons (q108.a 5 rfl)).cons (q108.a 7 rfl)).cons (q108.a 8 rfl)).cons (q108.a 9 rfl)).cons (q108.a 10 rfl)).cons (q108.a 17 rfl))
    clear q108
    refine wpList_nil ?_
    by_cases hb : r < x.b
    · have q109x := q109.a 17 rfl
      rw [decide_eq_true (by omega)] at q109x
      rw [if_pos hb, List.append_nil] at hua
      go_upto_region 9 with fail
      refine wp_cond_true (ev q109x rfl) ?_
      clear q109x
      go_upto_region 9 with fail
      refine wp_region_lit ?_
      refine q109.t (.int .i64 ((j + 1 : Nat) : Int)) (ex_bin rfl (q109.e (j := 10) rfl) rfl (add1C _ _ j (by omega) _)) fun _ q110 => ?_;clear q109
      refine q110.t (.int .i64 ((j + 1 : Nat) : Int)) (ex_move rfl (q110.e (j := 29) rfl)) fun _ q111 => ?_;clear q110
      have q112 := ((((((Rp.nil q111.z).cons (q111.a 1 rfl)).cons (q111.a 5 rfl)).cons (q111.a 8 rfl)).cons (q111.a 9 rfl)).cons (q111.a 10 rfl))
      clear q111
      refine wpList_nil ?_
      exact ⟨_, rfl, hit, _, q112, bw2, by rw [hua]; exact O2⟩
    · have q109x := q109.a 17 rfl
      rw [decide_eq_false (by omega)] at q109x
      rw [if_neg hb] at hua
      go_upto_region 6 with fail
      refine wp_cond_false (ev q109x rfl) ?_
      clear q109x
      go_upto_region 6 with fail
      refine wp_region_lit ?_
      refine q109.t (.pointer (some ⟨wr.heap.size, 6, none⟩)) (ex_fa rfl (q109.e (j := 7) rfl) (faK4 _ _)) fun _ q110 => ?_;clear q109
      refine q110.t (.int .i64 x.e) (ex_ld rfl (q110.e (j := 18) rfl) (ldI18 ((B13.cell 6).trans rfl))) fun _ q111 => ?_;clear q110
      refine q111.t (.int .i64 r) (ex_move rfl (q111.e (j := 1) rfl)) fun _ q112 => ?_;clear q111
      refine q112.t (.bool (decide (r < x.e))) (ex_bin rfl (q112.e (j := 19) rfl) (q112.e (j := 20) rfl) (gtrC _ _ _ _ _)) fun _ q113 => ?_;clear q112
      have q114 := ((((((((Rp.nil q113.z).cons (q113.a 1 rfl)).cons (q113.a 5 rfl)).cons (q113.a 7 rfl)).cons (q113.a 8 rfl)).cons (q113.a 9 rfl)).cons (q113.a 10 rfl)).cons (q113.a 21 rfl))
      clear q113
      refine wpList_nil ?_
      by_cases he : r < x.e
      · have q114x := q114.a 21 rfl
        rw [decide_eq_true (by omega)] at q114x
        have hct : ctK (r) x = (({ x with e := -1, r := (0, 0, ⟨#[]⟩) } : Kl)) := by unfold ctK; rw [if_pos he]
        go_upto_region 7 with fail
        refine wp_cond_true (ev q114x rfl) ?_
        clear q114x
        go_upto_region 7 with fail
        refine wp_region_lit ?_
        obtain ⟨r3, hr3⟩ : ∃ y, y = r2.setCell ⟨wr.heap.size, 6, none⟩ (.int .i64 (-1)) := ⟨_, rfl⟩
        have B14 : BB r3 wr.heap.size 50 ({ x with e := -1 } : Kl).cs := by rw [hr3]; exact B13.set1 6 _
        refine q114.t (.agg #[.int .i64 0, .int .i64 0, .string ⟨#[]⟩]) (ex_build rfl (bdRs18 _)) fun _ q115 => ?_;clear q114
        refine q115.t (.pointer (some ⟨wr.heap.size, 6, none⟩)) (ex_fa rfl (q115.e (j := 7) rfl) (faK4 _ _)) fun _ q116 => ?_;clear q115
        refine vs r3 (want_none rfl) (ex_st rfl (q116.e (j := 23) rfl) rfl (by rw [hr3]; exact stI18 ((B13.cell 6).trans rfl) (B13.free 6))) rfl ?_
        refine q116.t (.pointer (some ⟨wr.heap.size, 7, none⟩)) (ex_fa rfl (q116.e (j := 7) rfl) (faK5 _ _)) fun _ q117 => ?_;clear q116
        obtain ⟨r4, hr4⟩ : ∃ y, y = r3.setCells wr.heap.size 7 [.int .i64 0, .int .i64 0, .string ⟨#[]⟩] := ⟨_, rfl⟩
        refine vs r4 (want_none rfl) (ex_st rfl (q117.e (j := 24) rfl) (q117.e (j := 22) rfl) (by rw [hr4]; exact B14.stR8)) rfl ?_
        have B15 : BB r4 wr.heap.size 50 (({ x with e := -1, r := (0, 0, ⟨#[]⟩) } : Kl)).cs := by rw [hr4, hr3]; exact B13.cut8
        have u4 : Upd (fun k => k = wr.heap.size) r2 r4 := by rw [hr4, hr3]; exact ((Upd.refl (fun k => k = wr.heap.size) _).setCell (p := ⟨wr.heap.size, 6, none⟩) (.inl rfl) _).trans (upd18 _ _ _ _)
        clear hr3 hr4 B14
        have bw4 : Below w.heap.size w r4 := bw2.trans (bel_ge u4 (by omega) (by omega))
        have O4 := O2.upd1 u4 (fun g hg => by have := hO.blk g hg; omega)
        have y4 := u4.size
        refine wpList_nil ?_
        go_upto_region 8 with fail
        refine wp_region_lit ?_
        refine q117.t (v) (ex_move rfl (q117.e (j := 5) rfl)) fun _ q118 => ?_;clear q117
        refine q118.t ((({ x with e := -1, r := (0, 0, ⟨#[]⟩) } : Kl)).val) (ex_ld rfl (q118.e (j := 7) rfl) B15.ldK) fun _ q119 => ?_;clear q118
        obtain ⟨r5, hr5⟩ : ∃ z, z = r4.alloc (.cells (({ x with e := -1, r := (0, 0, ⟨#[]⟩) } : Kl)).cs.toArray 50) := ⟨_, rfl⟩
        refine vw (.slice (some ⟨r4.heap.size, 0, none⟩) 1 1) r5 (want_none rfl) (ex_bs18 rfl (q119.e (j := 26) rfl) (by rw [hr5]; exact bsK18 _ _)) rfl q119.z (by decide) (q119.k fun _ q120 => ?_);clear q119
        have s5 : SlY yK r5 (some ⟨r4.heap.size, 0, none⟩) 1 1 [({ x with e := -1, r := (0, 0, ⟨#[]⟩) } : Kl)] := by rw [hr5]; exact sl_box (Y := yK) r4 (({ x with e := -1, r := (0, 0, ⟨#[]⟩) } : Kl)) 50
        have b5 : Below r4.heap.size r4 r5 := by rw [hr5]; exact (Below.refl _ _).alloc (Nat.le_refl _) _
        clear hr5
        have y5 := b5.size
        have zz := bw4.size
        obtain ⟨v6, r6, ha6, o6, g6, _⟩ := run_appY kK r5 24 w.heap.size _ v _ 1 1 [({ x with e := -1, r := (0, 0, ⟨#[]⟩) } : Kl)] s5 (O4.grow b5) (by omega) (by unfold maxLen; omega) (by show ((upR (l.take j) (r)).length + 1) * 96 ≤ _; omega)
        have b6 : Below w.heap.size w r6 := (bw4.trans (b5.mono (by omega))).grown g6 (by omega) (fun k hk => (O4.blk k hk).1)
        refine vw (v6) r6 (want_none rfl) (ex_app18 rfl (q120.e (j := 25) rfl) (q120.e (j := 27) rfl) ha6) rfl q120.z (by decide) (q120.k fun _ q121 => ?_);clear q120
        refine q121.t (v6) (ex_assign rfl (q121.e (j := 28) rfl)) fun _ q122 => ?_;clear q121
        refine wpList_nil ?_
        go_upto_region 9 with fail
        refine wp_region_lit ?_
        refine q122.t (.int .i64 ((j + 1 : Nat) : Int)) (ex_bin rfl (q122.e (j := 10) rfl) rfl (add1C _ _ j (by omega) _)) fun _ q123 => ?_;clear q122
        refine q123.t (.int .i64 ((j + 1 : Nat) : Int)) (ex_move rfl (q123.e (j := 29) rfl)) fun _ q124 => ?_;clear q123
        have q125 := ((((((Rp.nil q124.z).cons (q124.a 1 rfl)).cons (q124.a 5 rfl)).cons (q124.a 8 rfl)).cons (q124.a 9 rfl)).cons (q124.a 10 rfl))
        clear q124
        refine wpList_nil ?_
        exact ⟨_, rfl, hit, v6, q125, b6, by rw [hua, hct]; exact o6⟩
      · have q114x := q114.a 21 rfl
        rw [decide_eq_false (by omega)] at q114x
        have hct : ctK (r) x = x := by unfold ctK; rw [if_neg he]
        go_upto_region 8 with fail
        refine wp_cond_false (ev q114x rfl) ?_
        clear q114x
        go_upto_region 8 with fail
        refine wp_region_lit ?_
        refine q114.t (v) (ex_move rfl (q114.e (j := 5) rfl)) fun _ q115 => ?_;clear q114
        refine q115.t ((x).val) (ex_ld rfl (q115.e (j := 7) rfl) B13.ldK) fun _ q116 => ?_;clear q115
        obtain ⟨r5, hr5⟩ : ∃ z, z = r2.alloc (.cells (x).cs.toArray 50) := ⟨_, rfl⟩
        refine vw (.slice (some ⟨r2.heap.size, 0, none⟩) 1 1) r5 (want_none rfl) (ex_bs18 rfl (q116.e (j := 26) rfl) (by rw [hr5]; exact bsK18 _ _)) rfl q116.z (by decide) (q116.k fun _ q117 => ?_);clear q116
        have s5 : SlY yK r5 (some ⟨r2.heap.size, 0, none⟩) 1 1 [x] := by rw [hr5]; exact sl_box (Y := yK) r2 (x) 50
        have b5 : Below r2.heap.size r2 r5 := by rw [hr5]; exact (Below.refl _ _).alloc (Nat.le_refl _) _
        clear hr5
        have y5 := b5.size
        have zz := bw2.size
        obtain ⟨v6, r6, ha6, o6, g6, _⟩ := run_appY kK r5 24 w.heap.size _ v _ 1 1 [x] s5 (O2.grow b5) (by omega) (by unfold maxLen; omega) (by show ((upR (l.take j) (r)).length + 1) * 96 ≤ _; omega)
        have b6 : Below w.heap.size w r6 := (bw2.trans (b5.mono (by omega))).grown g6 (by omega) (fun k hk => (O2.blk k hk).1)
        refine vw (v6) r6 (want_none rfl) (ex_app18 rfl (q117.e (j := 25) rfl) (q117.e (j := 27) rfl) ha6) rfl q117.z (by decide) (q117.k fun _ q118 => ?_);clear q117
        refine q118.t (v6) (ex_assign rfl (q118.e (j := 28) rfl)) fun _ q119 => ?_;clear q118
        refine wpList_nil ?_
        go_upto_region 9 with fail
        refine wp_region_lit ?_
        refine q119.t (.int .i64 ((j + 1 : Nat) : Int)) (ex_bin rfl (q119.e (j := 10) rfl) rfl (add1C _ _ j (by omega) _)) fun _ q120 => ?_;clear q119
        refine q120.t (.int .i64 ((j + 1 : Nat) : Int)) (ex_move rfl (q120.e (j := 29) rfl)) fun _ q121 => ?_;clear q120
        have q122 := ((((((Rp.nil q121.z).cons (q121.a 1 rfl)).cons (q121.a 5 rfl)).cons (q121.a 8 rfl)).cons (q121.a 9 rfl)).cons (q121.a 10 rfl))
        clear q121
        refine wpList_nil ?_
        exact ⟨_, rfl, hit, v6, q122, b6, by rw [hua, hct]; exact o6⟩
  · obtain rfl : j = l.length := by omega
    rw [List.take_length] at hO
    go_upto_region 3 with fail
    refine wp_region_lit ?_
    refine q100.t (.bool false) (ex_bin rfl (q100.e (j := 10) rfl) (q100.e (j := 9) rfl) (ltF _ _ hit _)) fun _ q101 => ?_;clear q100
    refine wpList_nil ?_
    go_upto_region 10 with fail
    refine wp_cond_false (q101.e (j := 11) rfl) ?_
    go_upto_region 10 with fail
    refine wp_region_lit ?_
    refine q101.t (v) (ex_move rfl (q101.e (j := 5) rfl)) fun _ q102 => ?_;clear q101
    refine q102.t (v) (ex_assign rfl (q102.e (j := 30) rfl)) fun _ q103 => ?_;clear q102
    refine wpList_nil ?_
    go_wp2
    refine bodyPost_ret (results_tmp rfl _ _ _) rfl ⟨v, ?_, hO, br⟩
    rw [getD_of (q103.a 4 rfl)]
    rfl
set_option maxRecDepth 100000 in
set_option maxHeartbeats 2000000 in
theorem cut18 (l : List Kl) (a : Option Addr) (c : Nat) (r : Int) (w : World) (h : SlY yK w a l.length c l) (hfx : ∀ x ∈ l, x.fits) (hb96 : l.length * 96 ≤ 140737488351232) (hrw : r ≤ 9223372036854775807) :
    Calls Try.prog 20 #[.slice a l.length c, .int .i64 r] w fun e w' => ∃ v, e = .returned (.tuple #[v, .int .i64 (ctR l r).2]) ∧ OwnY yK w.heap.size w' v (ctR l r).1 ∧ Below w.heap.size w w' := by
  go_enter Try.func20, Try.ntmps20
  go_upto_region 0 with fail
  refine wp_region_lit ?_
  refine vl_gen (fun T => Rp T 18 [(1, gw true (.int .i64 r)), (0, gw true (.slice a l.length c))]) (((Rp.nil rfl).cons rfl).cons rfl) (fun Z0 q0 => ?_)
  refine q0.t (.slice none 0 0) (ex_assign rfl rfl) fun _ q1 => ?_;clear q0
  refine q1.t (.int .i64 0) (ex_assign rfl rfl) fun _ q2 => ?_;clear q1
  refine wpList_nil ?_
  go_upto_region 1 with fail
  refine wp_region_lit ?_
  refine q2.t (.slice a l.length c) (ex_move rfl (q2.e (j := 0) rfl)) fun _ q3 => ?_;clear q2
  refine vcallP (want_none rfl) (ex_call rfl (by simp only [List.map_toArray, List.map_cons, List.map_nil, (q3.e (j := 7) rfl), evc] <;> rfl) rfl) (check18_any l a c w h hfx) rfl q3.z (by decide) ?_
  rintro e w1 ⟨rfl, b1⟩
  refine ⟨_, rfl, q3.k fun _ q4 => ?_⟩;clear q3
  have z1 := b1.size
  refine q4.t (.int .i64 (kchk l : Int)) (ex_assign rfl (q4.e (j := 8) rfl)) fun _ q5 => ?_;clear q4
  refine wpList_nil ?_
  go_upto_region 2 with fail
  refine wp_region_lit ?_
  refine q5.t (.int .i64 (kchk l : Int)) (ex_move rfl (q5.e (j := 6) rfl)) fun _ q6 => ?_;clear q5
  refine q6.t (.bool (!decide (kchk l = 0))) (ex_bin rfl (q6.e (j := 9) rfl) rfl (neqE18 _ _ _ _ _)) fun _ q7 => ?_;clear q6
  have q8 := (((((Rp.nil q7.z).cons (q7.a 0 rfl)).cons (q7.a 1 rfl)).cons (q7.a 6 rfl)).cons (q7.a 10 rfl))
  clear q7
  refine wpList_nil ?_
  by_cases hk : kchk l = 0
  · have q8x := q8.a 10 rfl
    rw [hk] at q8x
    go_upto_region 4 with fail
    refine wp_cond_false (ev q8x rfl) ?_
    clear q8x
    go_upto_region 4 with fail
    refine wp_region_lit ?_
    refine q8.t (.int .i64 r) (ex_move rfl (q8.e (j := 1) rfl)) fun _ q9 => ?_;clear q8
    refine q9.t (.bool (decide (r < 0))) (ex_bin rfl (q9.e (j := 12) rfl) rfl (lssC _ _ _ _ _)) fun _ q10 => ?_;clear q9
    have q11 := ((((Rp.nil q10.z).cons (q10.a 0 rfl)).cons (q10.a 1 rfl)).cons (q10.a 13 rfl))
    clear q10
    refine wpList_nil ?_
    by_cases hr : r < 0
    · have q11x := q11.a 13 rfl
      rw [decide_eq_true hr] at q11x
      have hE : ctR l r = ([], 3) := by unfold ctR; rw [if_neg (by simp [hk]), if_pos hr]
      go_upto_region 5 with fail
      refine wp_cond_true (ev q11x rfl) ?_
      go_upto_region 5 with fail
      refine wp_region_lit ?_
      refine q11.t (.slice none 0 0) (ex_assign rfl rfl) fun _ q12 => ?_;clear q11
      refine q12.t (.int .i64 3) (ex_assign rfl rfl) fun _ q13 => ?_;clear q12
      refine wpList_nil ?_
      go_wp2
      exact bodyPost_ret (results2_18 rfl (q13.a 4 rfl) (q13.a 5 rfl)) rfl ⟨_, by rw [hE], by rw [hE]; exact OwnY.nil _ _ _, b1⟩
    · have q11x := q11.a 13 rfl
      rw [decide_eq_false hr] at q11x
      have hE : ctR l r = (upR l (r - 1), 0) := by unfold ctR; rw [if_neg (by simp [hk]), if_neg hr]
      go_upto_region 6 with fail
      refine wp_cond_false (ev q11x rfl) ?_
      clear q11x
      go_upto_region 6 with fail
      refine wp_region_lit ?_
      refine q11.t (.slice a l.length c) (ex_move rfl (q11.e (j := 0) rfl)) fun _ q12 => ?_;clear q11
      refine q12.t (.int .i64 r) (ex_move rfl (q12.e (j := 1) rfl)) fun _ q13 => ?_;clear q12
      refine q13.t (.int .i64 (r - 1)) (ex_bin rfl (q13.e (j := 15) rfl) rfl (subN8 _ _ r (by omega) hrw _)) fun _ q14 => ?_;clear q13
      refine vcallP (want_none rfl) (ex_call rfl (by simp only [List.map_toArray, List.map_cons, List.map_nil, (q14.e (j := 14) rfl), (q14.e (j := 16) rfl), evc] <;> rfl) rfl) (upTo18 l a c (r - 1) w1 (h.on b1 (Nat.le_refl _)) hb96) rfl q14.z (by decide) ?_
      rintro e w2 ⟨v4, rfl, o4, b2⟩
      refine ⟨_, rfl, q14.k fun _ q15 => ?_⟩;clear q14
      refine q15.t (v4) (ex_assign rfl (q15.e (j := 17) rfl)) fun _ q16 => ?_;clear q15
      refine q16.t (.int .i64 0) (ex_assign rfl rfl) fun _ q17 => ?_;clear q16
      refine wpList_nil ?_
      go_wp2
      exact bodyPost_ret (results2_18 rfl (q17.a 4 rfl) (q17.a 5 rfl)) rfl ⟨_, by rw [hE], by rw [hE]; exact o4.low z1, b1.trans (b2.mono z1)⟩
  · have hk2 : kchk l = 180 := (kcA_zero [] l).resolve_left hk
    have hE : ctR l r = ([], 180) := by unfold ctR; rw [if_pos hk]
    have q8x := q8.a 10 rfl
    rw [decide_eq_false hk] at q8x
    go_upto_region 3 with fail
    refine wp_cond_true (ev q8x rfl) ?_
    clear q8x
    go_upto_region 3 with fail
    refine wp_region_lit ?_
    refine q8.t (.int .i64 (kchk l : Int)) (ex_move rfl (q8.e (j := 6) rfl)) fun _ q9 => ?_;clear q8
    refine q9.t (.slice none 0 0) (ex_assign rfl rfl) fun _ q10 => ?_;clear q9
    refine q10.t (.int .i64 180) (ex_assign rfl ((q10.e (j := 11) rfl).trans (by rw [hk2]))) fun _ q11 => ?_;clear q10
    refine wpList_nil ?_
    go_wp2
    exact bodyPost_ret (results2_18 rfl (q11.a 4 rfl) (q11.a 5 rfl)) rfl ⟨_, by rw [hE], by rw [hE]; exact OwnY.nil _ _ _, b1⟩
end Go.Proofs.Ytidfcflcjkbeeaa

namespace Go.Proofs.Ytidfcflcjkbeeaa
open Go.RowKit Go.Maps
open Classical
set_option linter.unusedVariables false
set_option linter.unusedSimpArgs false

/-- Is it a write or a read of this slot? -/
def slP (r : Int) (x : Kl) : Bool := (decide (x.o.k = 1) || decide (x.o.k = 3)) && decide (x.o.s = r)
def slR (l : List Kl) (r : Int) : List Kl × Int := if kchk l ≠ 0 then ([], 180) else if r < 0 ∨ 1024 ≤ r then ([], 41) else (l.filter (slP r), 0)
theorem slP_at {l : List Kl} {r : Int} {j : Nat} {x : Kl} (h : l[j]? = some x) : (l.take (j + 1)).filter (slP r) = (l.take j).filter (slP r) ++ (if slP r x then [x] else []) := by
  obtain ⟨hj, rfl⟩ := List.getElem?_eq_some_iff.1 h
  rw [List.take_succ_eq_append_getElem hj, List.filter_append]
  congr 1
  by_cases h : slP r l[j] <;> simp [h]
theorem ck_slot (r : Int) : ck 3 r ⟨#[]⟩ = if r < 0 ∨ 1024 ≤ r then 41 else 0 := by
  unfold ck
  by_cases h : r < 0 ∨ 1024 ≤ r
  · simp [h]
  · simp [h]
    rfl
theorem faO0 (q o : Nat) (w : World) : (Instr.fieldAt 46 (.pointer (some ⟨q, o, none⟩)) 0).run Try.prog w = .ok (.pointer (some ⟨q, o, none⟩)) w := by go_simp
theorem faO1 (q o : Nat) (w : World) : (Instr.fieldAt 46 (.pointer (some ⟨q, o, none⟩)) 1).run Try.prog w = .ok (.pointer (some ⟨q, o + 1, none⟩)) w := by go_simp
theorem bdO8 (r : Int) (w : World) : (Instr.build 46 #[(0, .int .i64 3), (1, .int .i64 r)]).run Try.prog w = .ok (⟨3, r, ⟨#[]⟩⟩ : Opn).val w := by unfold Opn.val; go_simp
set_option maxRecDepth 100000 in
set_option maxHeartbeats 2000000 in
theorem slot18 (l : List Kl) (a : Option Addr) (c : Nat) (r : Int) (w : World) (h : SlY yK w a l.length c l) (hfx : ∀ x ∈ l, x.fits) (hb96 : l.length * 96 ≤ 140737488351232) (hrw : (Lit.int .i64 r).wf = true) :
    Calls Try.prog 23 #[.slice a l.length c, .int .i64 r] w fun e w' => ∃ v, e = .returned (.tuple #[v, .int .i64 (slR l r).2]) ∧ OwnY yK w.heap.size w' v (slR l r).1 ∧ Below w.heap.size w w' := by
  go_enter Try.func23, Try.ntmps23
  go_upto_region 0 with fail
  refine wp_region_lit ?_
  refine vl_gen (fun T => Rp T 51 [(1, gw true (.int .i64 r)), (0, gw true (.slice a l.length c))]) (((Rp.nil rfl).cons rfl).cons rfl) (fun Z0 q0 => ?_)
  refine q0.t (.slice none 0 0) (ex_assign rfl rfl) fun _ q1 => ?_;clear q0
  refine q1.t (.int .i64 0) (ex_assign rfl rfl) fun _ q2 => ?_;clear q1
  refine wpList_nil ?_
  go_upto_region 1 with fail
  refine wp_region_lit ?_
  refine q2.t (.slice a l.length c) (ex_move rfl (q2.e (j := 0) rfl)) fun _ q3 => ?_;clear q2
  refine vcallP (want_none rfl) (ex_call rfl (by simp only [List.map_toArray, List.map_cons, List.map_nil, (q3.e (j := 11) rfl), evc] <;> rfl) rfl) (check18_any l a c w h hfx) rfl q3.z (by decide) ?_
  rintro e w1 ⟨rfl, b1⟩
  refine ⟨_, rfl, q3.k fun _ q4 => ?_⟩;clear q3
  have z1 := b1.size
  refine q4.t (.int .i64 (kchk l : Int)) (ex_assign rfl (q4.e (j := 12) rfl)) fun _ q5 => ?_;clear q4
  refine wpList_nil ?_
  go_upto_region 2 with fail
  refine wp_region_lit ?_
  refine q5.t (.int .i64 (kchk l : Int)) (ex_move rfl (q5.e (j := 6) rfl)) fun _ q6 => ?_;clear q5
  refine q6.t (.bool (!decide (kchk l = 0))) (ex_bin rfl (q6.e (j := 13) rfl) rfl (neqE18 _ _ _ _ _)) fun _ q7 => ?_;clear q6
  have q8 := (((((Rp.nil q7.z).cons (q7.a 0 rfl)).cons (q7.a 1 rfl)).cons (q7.a 6 rfl)).cons (q7.a 14 rfl))
  clear q7
  refine wpList_nil ?_
  by_cases hk : kchk l = 0
  · have q8x := q8.a 14 rfl
    rw [hk] at q8x
    have hck := ck_slot r
    go_upto_region 4 with fail
    refine wp_cond_false (ev q8x rfl) ?_
    clear q8x
    go_upto_region 4 with fail
    refine wp_region_lit ?_
    refine q8.t (.int .i64 r) (ex_move rfl (q8.e (j := 1) rfl)) fun _ q9 => ?_;clear q8
    refine q9.t ((⟨3, r, ⟨#[]⟩⟩ : Opn).val) (ex_buildP18 (P := #[(0, .int .i64 3), (1, .int .i64 r)]) rfl (by simp only [List.map_toArray, List.map_cons, List.map_nil, q9.e (j := 16) rfl, evc] <;> rfl) (bdO8 _ _)) fun _ q10 => ?_;clear q9
    refine vcallP (want_none rfl) (ex_call rfl (by simp only [List.map_toArray, List.map_cons, List.map_nil, (q10.e (j := 17) rfl), evc] <;> rfl) rfl) (check_any ⟨3, r, ⟨#[]⟩⟩ ⟨by show (Lit.int .i64 3).wf = true; decide, hrw, by show (⟨#[]⟩ : ByteArray).size ≤ maxLen; unfold maxLen; decide⟩ w1) rfl q10.z (by decide) ?_
    rintro e w2 ⟨rfl, b2⟩
    refine ⟨_, rfl, q10.k fun _ q11 => ?_⟩;clear q10
    have b2w : Below w.heap.size w w2 := b1.trans (b2.mono z1)
    have z2 := b2w.size
    refine q11.t (.int .i64 (ck 3 r ⟨#[]⟩ : Int)) (ex_assign rfl (q11.e (j := 18) rfl)) fun _ q12 => ?_;clear q11
    refine wpList_nil ?_
    go_upto_region 5 with fail
    refine wp_region_lit ?_
    refine q12.t (.int .i64 (ck 3 r ⟨#[]⟩ : Int)) (ex_move rfl (q12.e (j := 7) rfl)) fun _ q13 => ?_;clear q12
    refine q13.t (.bool (!decide (ck 3 r ⟨#[]⟩ = 0))) (ex_bin rfl (q13.e (j := 19) rfl) rfl (neqE18 _ _ _ _ _)) fun _ q14 => ?_;clear q13
    have q15 := (((((Rp.nil q14.z).cons (q14.a 0 rfl)).cons (q14.a 1 rfl)).cons (q14.a 7 rfl)).cons (q14.a 20 rfl))
    clear q14
    refine wpList_nil ?_
    by_cases hr : r < 0 ∨ 1024 ≤ r
    · rw [if_pos hr] at hck
      have q15x := q15.a 20 rfl
      rw [hck] at q15x
      have hE : slR l r = ([], 41) := by unfold slR; rw [if_neg (by simp [hk]), if_pos hr]
      go_upto_region 6 with fail
      refine wp_cond_true (ev q15x rfl) ?_
      clear q15x
      go_upto_region 6 with fail
      refine wp_region_lit ?_
      refine q15.t (.int .i64 (ck 3 r ⟨#[]⟩ : Int)) (ex_move rfl (q15.e (j := 7) rfl)) fun _ q16 => ?_;clear q15
      refine q16.t (.slice none 0 0) (ex_assign rfl rfl) fun _ q17 => ?_;clear q16
      refine q17.t (.int .i64 41) (ex_assign rfl ((q17.e (j := 21) rfl).trans (by rw [hck]))) fun _ q18 => ?_;clear q17
      refine wpList_nil ?_
      go_wp2
      exact bodyPost_ret (results2_18 rfl (q18.a 4 rfl) (q18.a 5 rfl)) rfl ⟨_, by rw [hE], by rw [hE]; exact OwnY.nil _ _ _, b2w⟩
    · rw [if_neg hr] at hck
      have q15x := q15.a 20 rfl
      rw [hck] at q15x
      have hE : slR l r = (l.filter (slP r), 0) := by unfold slR; rw [if_neg (by simp [hk]), if_neg hr]
      go_upto_region 7 with fail
      refine wp_cond_false (ev q15x rfl) ?_
      clear q15x
      go_upto_region 7 with fail
      refine wp_region_lit ?_
      refine q15.t (.slice none 0 0) (ex_assign rfl rfl) fun _ q16 => ?_;clear q15
      refine wpList_nil ?_
      go_upto_region 8 with fail
      refine wp_region_lit ?_
      refine q16.t (.slice a l.length c) (ex_move rfl (q16.e (j := 0) rfl)) fun _ q17 => ?_;clear q16
      refine q17.t (.int .i64 (l.length : Int)) (ex_len18 rfl rfl (q17.e (j := 22) rfl)) fun _ q18 => ?_;clear q17
      refine q18.t (.int .i64 ((0 : Nat) : Int)) (ex_move rfl rfl) fun _ q19 => ?_;clear q18
      have q20 := (((((((Rp.nil q19.z).cons (q19.a 0 rfl)).cons (q19.a 1 rfl)).cons (q19.a 8 rfl)).cons (q19.a 22 rfl)).cons (q19.a 23 rfl)).cons (q19.a 24 rfl))
      clear q19
      refine wpList_nil ?_
      go_upto_region 9 with fail
      refine v_loop 24 l.length (fun j T wr => ∃ v, Rp T 51 [(24, gw true (.int .i64 (j : Int))), (23, gw true (.int .i64 (l.length : Int))), (22, gw true (.slice a l.length c)), (8, gw true v), (1, gw true (.int .i64 r)), (0, gw true (.slice a l.length c))] ∧ Hid (Below w.heap.size w wr ∧ OwnY yK w.heap.size wr v ((l.take j).filter (slP r)))) (fun j T w h => by obtain ⟨v, h, _⟩ := h; exact h.a 24 rfl) ⟨_, q20, b2w, OwnY.nil _ _ _⟩ ?_
      clear q20
      intro j T wr hj hh
      obtain ⟨v, q100, HJ⟩ := hh
      obtain ⟨br, hO⟩ := HJ.out
      clear HJ
      have zr := br.size
      by_cases hit : j < l.length
      · obtain ⟨x, hx⟩ : ∃ x, l[j]? = some x := ⟨_, List.getElem?_eq_getElem hit⟩
        obtain ⟨qa, oa, hqa, hqal, hlie⟩ := (h.on br (Nat.le_refl _)).place (by rintro rfl; simp at hit)
        have hua := slP_at (r := r) hx
        have hul : ((l.take j).filter (slP r)).length ≤ j := Nat.le_trans (List.length_filter_le _ _) (by rw [List.length_take]; omega)
        go_upto_region 9 with fail
        refine wp_region_lit ?_
        refine q100.t (.bool true) (ex_bin rfl (q100.e (j := 24) rfl) (q100.e (j := 23) rfl) (ltT _ _ hit _)) fun _ q101 => ?_;clear q100
        refine wpList_nil ?_
        go_upto_region 10 with fail
        refine wp_cond_true (q101.e (j := 25) rfl) ?_
        go_upto_region 10 with fail
        refine wp_region_lit ?_
        refine q101.t (.pointer (some ⟨qa, oa + j * 10, none⟩)) (ex_ix rfl (q101.e (j := 22) rfl) (q101.e (j := 24) rfl) (by rw [hqa]; exact ixK qa oa l.length c j hit _)) fun _ q102 => ?_;clear q101
        refine q102.t (x.val) (ex_ld rfl (q102.e (j := 26) rfl) (ldEl hlie hx)) fun _ q103 => ?_;clear q102
        obtain ⟨r1, hr1⟩ : ∃ y, y = wr.alloc (.cells zK.cs.toArray 50) := ⟨_, rfl⟩
        refine vw (.pointer (some ⟨wr.heap.size, 0, none⟩)) r1 (want_none rfl) (ex_al rfl (by rw [hr1]; exact alK _)) rfl q103.z (by decide) (q103.k fun _ q104 => ?_);clear q103
        have Bz : BB r1 wr.heap.size 50 zK.cs := by rw [hr1]; exact BB.new _ _ _
        have hr1b : Below wr.heap.size wr r1 := by rw [hr1]; exact (Below.refl _ _).alloc (Nat.le_refl _) _
        clear hr1
        obtain ⟨r2, hr2⟩ : ∃ y, y = r1.setCells wr.heap.size 0 x.cs := ⟨_, rfl⟩
        refine vs r2 (want_none rfl) (ex_st rfl (q104.e (j := 10) rfl) (q104.e (j := 27) rfl) (by rw [hr2]; exact Bz.stK)) rfl ?_
        have B13 : BB r2 wr.heap.size 50 x.cs := by rw [hr2]; exact Bz.whole _ rfl
        have hr2b : Below wr.heap.size wr r2 := by rw [hr2]; exact hr1b.trans (bel_ge (upd18 _ _ _ _) hr1b.size (Nat.le_refl _))
        clear hr2 Bz hr1b
        have y2 := hr2b.size
        have O2 := hO.grow hr2b
        have bw2 : Below w.heap.size w r2 := br.trans (hr2b.mono zr)
        refine wpList_nil ?_
        go_upto_region 11 with fail
        refine wp_region_lit ?_
        refine q104.t (.pointer (some ⟨wr.heap.size, 2, none⟩)) (ex_fa rfl (q104.e (j := 10) rfl) (faK2 _ _)) fun _ q105 => ?_;clear q104
        refine q105.t (.pointer (some ⟨wr.heap.size, 2, none⟩)) (ex_fa rfl (q105.e (j := 28) rfl) (faO0 _ _ _)) fun _ q106 => ?_;clear q105
        refine q106.t (.int .i64 x.o.k) (ex_ld rfl (q106.e (j := 29) rfl) (ldI18 ((B13.cell 2).trans rfl))) fun _ q107 => ?_;clear q106
        refine q107.t (.bool (decide (x.o.k = 1))) (ex_bin rfl (q107.e (j := 30) rfl) rfl (eqlC _ _ _ _ _)) fun _ q108 => ?_;clear q107
        refine q108.t (.bool (decide (x.o.k = 1))) (ex_move rfl (q108.e (j := 31) rfl)) fun _ q109 => ?_;clear q108
        refine vl (true && ((decide (x.o.k = 1)) == false)) (.pointer (some ⟨wr.heap.size, 2, none⟩)) (want_g rfl rfl (q109.a 32 rfl)) (fun hc => ex_fa rfl (q109.e (j := 10) rfl) (faK2 _ _)) rfl q109.z (by decide) (q109.k fun _ q110 => ?_);clear q109
        refine vl (true && ((decide (x.o.k = 1)) == false)) (.pointer (some ⟨wr.heap.size, 2, none⟩)) (want_g rfl rfl (q110.a 32 rfl)) (fun hc => ex_fa rfl (ev (q110.a 33 rfl) hc) (faO0 _ _ _)) rfl q110.z (by decide) (q110.k fun _ q111 => ?_);clear q110
        refine vl (true && ((decide (x.o.k = 1)) == false)) (.int .i64 x.o.k) (want_g rfl rfl (q111.a 32 rfl)) (fun hc => ex_ld rfl (ev (q111.a 34 rfl) hc) (ldI18 ((B13.cell 2).trans rfl))) rfl q111.z (by decide) (q111.k fun _ q112 => ?_);clear q111
        refine vl (true && ((decide (x.o.k = 1)) == false)) (.bool (decide (x.o.k = 3))) (want_g rfl rfl (q112.a 32 rfl)) (fun hc => ex_bin rfl (ev (q112.a 35 rfl) hc) rfl (eqlC _ _ _ _ _)) rfl q112.z (by decide) (q112.k fun _ q113 => ?_);clear q112
        refine q113.t (.bool (decide (x.o.k = 1) || decide (x.o.k = 3))) (ex_or rfl (q113.a 32 rfl) (q113.a 36 rfl) rfl) fun _ q114 => ?_;clear q113
        refine q114.t (.bool (decide (x.o.k = 1) || decide (x.o.k = 3))) (ex_move rfl (q114.e (j := 37) rfl)) fun _ q115 => ?_;clear q114
        refine vl (true && ((decide (x.o.k = 1) || decide (x.o.k = 3)) == true)) (.pointer (some ⟨wr.heap.size, 2, none⟩)) (want_g rfl rfl (q115.a 38 rfl)) (fun hc => ex_fa rfl (q115.e (j := 10) rfl) (faK2 _ _)) rfl q115.z (by decide) (q115.k fun _ q116 => ?_);clear q115
        refine vl (true && ((decide (x.o.k = 1) || decide (x.o.k = 3)) == true)) (.pointer (some ⟨wr.heap.size, 2 + 1, none⟩)) (want_g rfl rfl (q116.a 38 rfl)) (fun hc => ex_fa rfl (ev (q116.a 39 rfl) hc) (faO1 _ _ _)) rfl q116.z (by decide) (q116.k fun _ q117 => ?_);clear q116
        refine vl (true && ((decide (x.o.k = 1) || decide (x.o.k = 3)) == true)) (.int .i64 x.o.s) (want_g rfl rfl (q117.a 38 rfl)) (fun hc => ex_ld rfl (ev (q117.a 40 rfl) hc) (ldI18 ((B13.cell 3).trans rfl))) rfl q117.z (by decide) (q117.k fun _ q118 => ?_);clear q117
        refine vl (true && ((decide (x.o.k = 1) || decide (x.o.k = 3)) == true)) (.int .i64 r) (want_g rfl rfl (q118.a 38 rfl)) (fun hc => ex_move rfl (q118.e (j := 1) rfl)) rfl q118.z (by decide) (q118.k fun _ q119 => ?_);clear q118
        refine vl (true && ((decide (x.o.k = 1) || decide (x.o.k = 3)) == true)) (.bool (decide (x.o.s = r))) (want_g rfl rfl (q119.a 38 rfl)) (fun hc => ex_bin rfl (ev (q119.a 41 rfl) hc) (ev (q119.a 42 rfl) hc) (eqlC _ _ _ _ _)) rfl q119.z (by decide) (q119.k fun _ q120 => ?_);clear q119
        refine q120.t (.bool ((decide (x.o.k = 1) || decide (x.o.k = 3)) && decide (x.o.s = r))) (ex_and rfl (q120.a 38 rfl) (q120.a 43 rfl) rfl) fun _ q121 => ?_;clear q120
        have q122 := (((((((((Rp.nil q121.z).cons (q121.a 0 rfl)).cons (q121.a 1 rfl)).cons (q121.a 8 rfl)).cons (q121.a 10 rfl)).cons (q121.a 22 rfl)).cons (q121.a 23 rfl)).cons (q121.a 24 rfl)).cons (q121.a 44 rfl))
        clear q121
        refine wpList_nil ?_
        cases hs : slP r x with
        | false =>
          have q122x : _ = some (gw true (.bool (slP r x))) := q122.a 44 rfl
          rw [hs] at q122x
          rw [hs, if_neg (by simp), List.append_nil] at hua
          go_upto_region 13 with fail
          refine wp_cond_false (ev q122x rfl) ?_
          clear q122x
          go_upto_region 13 with fail
          refine wp_region_lit ?_
          refine q122.t (.int .i64 ((j + 1 : Nat) : Int)) (ex_bin rfl (q122.e (j := 24) rfl) rfl (add1C _ _ j (by omega) _)) fun _ q123 => ?_;clear q122
          refine q123.t (.int .i64 ((j + 1 : Nat) : Int)) (ex_move rfl (q123.e (j := 49) rfl)) fun _ q124 => ?_;clear q123
          have q125 := (((((((Rp.nil q124.z).cons (q124.a 0 rfl)).cons (q124.a 1 rfl)).cons (q124.a 8 rfl)).cons (q124.a 22 rfl)).cons (q124.a 23 rfl)).cons (q124.a 24 rfl))
          clear q124
          refine wpList_nil ?_
          exact ⟨_, rfl, hit, _, q125, bw2, by rw [hua]; exact O2⟩
        | true =>
          have q122x : _ = some (gw true (.bool (slP r x))) := q122.a 44 rfl
          rw [hs] at q122x
          rw [hs, if_pos rfl] at hua
          go_upto_region 12 with fail
          refine wp_cond_true (ev q122x rfl) ?_
          clear q122x
          go_upto_region 12 with fail
          refine wp_region_lit ?_
          refine q122.t (v) (ex_move rfl (q122.e (j := 8) rfl)) fun _ q123 => ?_;clear q122
          refine q123.t (x.val) (ex_ld rfl (q123.e (j := 10) rfl) B13.ldK) fun _ q124 => ?_;clear q123
          obtain ⟨r5, hr5⟩ : ∃ z, z = r2.alloc (.cells x.cs.toArray 50) := ⟨_, rfl⟩
          refine vw (.slice (some ⟨r2.heap.size, 0, none⟩) 1 1) r5 (want_none rfl) (ex_bs18 rfl (q124.e (j := 46) rfl) (by rw [hr5]; exact bsK18 _ _)) rfl q124.z (by decide) (q124.k fun _ q125 => ?_);clear q124
          have s5 : SlY yK r5 (some ⟨r2.heap.size, 0, none⟩) 1 1 [x] := by rw [hr5]; exact sl_box (Y := yK) r2 x 50
          have b5 : Below r2.heap.size r2 r5 := by rw [hr5]; exact (Below.refl _ _).alloc (Nat.le_refl _) _
          clear hr5
          have y5 := b5.size
          have zz := bw2.size
          obtain ⟨v6, r6, ha6, o6, g6, _⟩ := run_appY kK r5 24 w.heap.size _ v _ 1 1 [x] s5 (O2.grow b5) (by omega) (by unfold maxLen; omega) (by show (((l.take j).filter (slP r)).length + 1) * 96 ≤ _; omega)
          have b6 : Below w.heap.size w r6 := (bw2.trans (b5.mono (by omega))).grown g6 (by omega) (fun k hk => (O2.blk k hk).1)
          refine vw (v6) r6 (want_none rfl) (ex_app18 rfl (q125.e (j := 45) rfl) (q125.e (j := 47) rfl) ha6) rfl q125.z (by decide) (q125.k fun _ q126 => ?_);clear q125
          refine q126.t (v6) (ex_assign rfl (q126.e (j := 48) rfl)) fun _ q127 => ?_;clear q126
          refine wpList_nil ?_
          go_upto_region 13 with fail
          refine wp_region_lit ?_
          refine q127.t (.int .i64 ((j + 1 : Nat) : Int)) (ex_bin rfl (q127.e (j := 24) rfl) rfl (add1C _ _ j (by omega) _)) fun _ q128 => ?_;clear q127
          refine q128.t (.int .i64 ((j + 1 : Nat) : Int)) (ex_move rfl (q128.e (j := 49) rfl)) fun _ q129 => ?_;clear q128
          have q130 := (((((((Rp.nil q129.z).cons (q129.a 0 rfl)).cons (q129.a 1 rfl)).cons (q129.a 8 rfl)).cons (q129.a 22 rfl)).cons (q129.a 23 rfl)).cons (q129.a 24 rfl))
          clear q129
          refine wpList_nil ?_
          exact ⟨_, rfl, hit, v6, q130, b6, by rw [hua]; exact o6⟩
      · obtain rfl : j = l.length := by omega
        rw [List.take_length] at hO
        go_upto_region 9 with fail
        refine wp_region_lit ?_
        refine q100.t (.bool false) (ex_bin rfl (q100.e (j := 24) rfl) (q100.e (j := 23) rfl) (ltF _ _ hit _)) fun _ q101 => ?_;clear q100
        refine wpList_nil ?_
        go_upto_region 14 with fail
        refine wp_cond_false (q101.e (j := 25) rfl) ?_
        go_upto_region 14 with fail
        refine wp_region_lit ?_
        refine q101.t (v) (ex_move rfl (q101.e (j := 8) rfl)) fun _ q102 => ?_;clear q101
        refine q102.t (v) (ex_assign rfl (q102.e (j := 50) rfl)) fun _ q103 => ?_;clear q102
        refine q103.t (.int .i64 0) (ex_assign rfl rfl) fun _ q104 => ?_;clear q103
        refine wpList_nil ?_
        go_wp2
        exact bodyPost_ret (results2_18 rfl (q104.a 4 rfl) (q104.a 5 rfl)) rfl ⟨_, by rw [hE], by rw [hE]; exact hO, br⟩
  · have hk2 : kchk l = 180 := (kcA_zero [] l).resolve_left hk
    have hE : slR l r = ([], 180) := by unfold slR; rw [if_pos hk]
    have q8x := q8.a 14 rfl
    rw [decide_eq_false hk] at q8x
    go_upto_region 3 with fail
    refine wp_cond_true (ev q8x rfl) ?_
    clear q8x
    go_upto_region 3 with fail
    refine wp_region_lit ?_
    refine q8.t (.int .i64 (kchk l : Int)) (ex_move rfl (q8.e (j := 6) rfl)) fun _ q9 => ?_;clear q8
    refine q9.t (.slice none 0 0) (ex_assign rfl rfl) fun _ q10 => ?_;clear q9
    refine q10.t (.int .i64 180) (ex_assign rfl ((q10.e (j := 15) rfl).trans (by rw [hk2]))) fun _ q11 => ?_;clear q10
    refine wpList_nil ?_
    go_wp2
    exact bodyPost_ret (results2_18 rfl (q11.a 4 rfl) (q11.a 5 rfl)) rfl ⟨_, by rw [hE], by rw [hE]; exact OwnY.nil _ _ _, b1⟩
end Go.Proofs.Ytidfcflcjkbeeaa

namespace Go.Proofs.Ytidfcflcjkbeeaa
open Classical
set_option linter.unusedVariables false
set_option linter.unusedSimpArgs false

/-! ### Witnesses: the search finds one if there is one; a beginning of a good history is good -/
theorem lck_iff (l : List Kl) (D : List Bool) : lckK l D = true ↔ ∃ j x, l[j]? = some x ∧ ansK x = true ∧ at9 D j = false := by
  unfold lckK lcI
  rw [List.any_eq_true]
  constructor
  · rintro ⟨j, hj, h⟩
    cases hx : l[j]? with
    | none => rw [hx] at h; cases h
    | some x =>
      rw [hx] at h
      simp only [Bool.and_eq_true, Bool.not_eq_true'] at h
      exact ⟨j, x, hx, h.1, h.2⟩
  · rintro ⟨j, x, hx, h1, h2⟩
    refine ⟨j, List.mem_range.2 (List.getElem?_eq_some_iff.1 hx).1, ?_⟩
    rw [hx]
    simp [h1, h2]
/-- A way on from where D is done and the ledger has L. -/
def Wit (l : List Kl) : List Bool → List Cl → List Nat → Prop
  | D, _, [] => lckK l D = false
  | D, L, q :: o => ∃ x, l[q]? = some x ∧ nxtK l D L q x = true ∧ Wit l (D.set q true) (dnK L x) o
theorem Wit.nil {l : List Kl} {D : List Bool} {L : List Cl} (h : lckK l D = false) : Wit l D L [] := by
  rw [Wit]
  exact h
theorem Wit.cons {l : List Kl} {D : List Bool} {L : List Cl} {q : Nat} {x : Kl} {o : List Nat} (hx : l[q]? = some x) (hn : nxtK l D L q x = true) (h : Wit l (D.set q true) (dnK L x) o) : Wit l D L (q :: o) := by
  rw [Wit]
  exact ⟨x, hx, hn, h⟩
theorem sr_wit (l : List Kl) : ∀ (k : Nat) (D : List Bool) (L : List Cl) (s : List Nat), srK l k D L = some s → Wit l D L s
  | 0, D, L, s, h => by
    unfold srK at h
    split at h
    · cases h
    · rename_i hk; cases h; exact .nil (by simpa using hk)
  | k + 1, D, L, s, h => by
    unfold srK at h
    split at h
    · obtain ⟨q, hq, h2⟩ := List.exists_of_findSome?_eq_some h
      cases hx : l[q]? with
      | none => rw [hx] at h2; cases h2
      | some x =>
        rw [hx, Option.bind_some] at h2
        split at h2
        · rename_i hn
          cases hs : srK l k (D.set q true) (dnK L x) with
          | none => rw [hs] at h2; cases h2
          | some t =>
            rw [hs] at h2
            cases h2
            exact .cons hx hn (sr_wit l k _ _ t hs)
        · cases h2
    · rename_i hk; cases h; exact .nil (by simpa using hk)
theorem wit_sr (l : List Kl) : ∀ (k : Nat) (D : List Bool) (L : List Cl) (o : List Nat), Wit l D L o → o.length ≤ k → (srK l k D L).isSome = true
  | 0, D, L, o, h, hk => by
    cases o with
    | nil => rw [Wit] at h; unfold srK; rw [h]; rfl
    | cons _ _ => simp at hk
  | k + 1, D, L, o, h, hk => by
    cases hl : lckK l D with
    | false => unfold srK; rw [hl]; rfl
    | true =>
      cases o with
      | nil => rw [Wit] at h; rw [hl] at h; cases h
      | cons q o =>
        rw [Wit] at h
        obtain ⟨x, hx, hn, hw⟩ := h
        have ih := wit_sr l k _ _ o hw (by simp at hk; omega)
        unfold srK
        rw [hl, if_pos rfl]
        rw [List.findSome?_isSome_iff]
        refine ⟨q, List.mem_range.2 (List.getElem?_eq_some_iff.1 hx).1, ?_⟩
        rw [hx, Option.bind_some, if_pos hn]
        simpa using ih
/-- Where a call of a history lies in what there is up to a row. -/
def ixR (l : List Kl) (e : Int) (i : Nat) : Nat := (upR (l.take i) e).length
theorem ixR_at {l : List Kl} {e : Int} {i : Nat} {x : Kl} (h : l[i]? = some x) (hb : ¬ e < x.b) : (upR l e)[ixR l e i]? = some (ctK e x) := by
  obtain ⟨hi, rfl⟩ := List.getElem?_eq_some_iff.1 h
  have e1 : l = l.take i ++ l[i] :: l.drop (i + 1) := by rw [← List.drop_eq_getElem_cons hi, List.take_append_drop]
  have e2 : upR l e = upR (l.take i) e ++ ctK e l[i] :: upR (l.drop (i + 1)) e := by
    have e3 : upR l e = upR (l.take i ++ l[i] :: l.drop (i + 1)) e := congrArg (fun z => upR z e) e1
    rw [e3]
    unfold upR
    rw [List.filterMap_append, List.filterMap_cons, if_neg hb]
  rw [e2]
  unfold ixR
  simp
theorem ixR_back {e : Int} : ∀ {l : List Kl} {j : Nat} {y : Kl}, (upR l e)[j]? = some y → ∃ i x, l[i]? = some x ∧ ¬ e < x.b ∧ ixR l e i = j ∧ y = ctK e x
  | [], j, y, h => by simp [upR] at h
  | a :: t, j, y, h => by
    have e0 : upR (a :: t) e = if e < a.b then upR t e else ctK e a :: upR t e := by
      unfold upR
      rw [List.filterMap_cons]
      by_cases h : e < a.b <;> simp [h]
    rw [e0] at h
    by_cases hb : e < a.b
    · rw [if_pos hb] at h
      obtain ⟨i, x, h1, h2, h3, h4⟩ := ixR_back h
      refine ⟨i + 1, x, by simpa using h1, h2, ?_, h4⟩
      rw [← h3]
      unfold ixR upR
      simp [hb]
    · rw [if_neg hb] at h
      cases j with
      | zero =>
        simp at h
        exact ⟨0, a, rfl, hb, by simp [ixR, upR], h.symm⟩
      | succ j =>
        simp at h
        obtain ⟨i, x, h1, h2, h3, h4⟩ := ixR_back h
        refine ⟨i + 1, x, by simpa using h1, h2, ?_, h4⟩
        rw [← h3]
        unfold ixR upR
        simp [hb]
theorem ixR_mono (l : List Kl) (e : Int) {i j : Nat} (h : i ≤ j) : ixR l e i ≤ ixR l e j := by
  unfold ixR upR
  exact (List.Sublist.filterMap _ (List.take_prefix_take_left (l := l) h).sublist).length_le
theorem ixR_lt {l : List Kl} {e : Int} {i j : Nat} {x : Kl} (hx : l[i]? = some x) (hb : ¬ e < x.b) (h : i < j) : ixR l e i < ixR l e j := by
  have h1 := ixR_mono l e (show i + 1 ≤ j from h)
  have h2 : ixR l e (i + 1) = ixR l e i + 1 := by
    unfold ixR
    rw [upR_at hx, if_neg hb]
    simp
  omega
theorem at9_set8 (D : List Bool) (q i : Nat) (hq : q < D.length) : at9 (D.set q true) i = (decide (q = i) || at9 D i) := by
  unfold at9
  by_cases h : q = i
  · subst h; simp [hq]
  · simp [h]
structure RelD (l : List Kl) (e : Int) (D D' : List Bool) : Prop where
  len : D'.length = 8
  eq : ∀ i x, l[i]? = some x → ¬ e < x.b → at9 D' (ixR l e i) = at9 D i
theorem ctK_ans {e : Int} {x : Kl} : ansK (ctK e x) = true ↔ ansK x = true ∧ x.e ≤ e := by
  unfold ctK ansK
  split <;> simp <;> omega
theorem ctK_e {e : Int} {x : Kl} (h : ansK (ctK e x) = true) : ctK e x = x := by
  unfold ctK
  rw [if_neg (by have := (ctK_ans.1 h).2; omega)]
theorem ctK_b (e : Int) (x : Kl) : (ctK e x).b = x.b := by unfold ctK; split <;> rfl
theorem ctK_o (e : Int) (x : Kl) : (ctK e x).o = x.o := by unfold ctK; split <;> rfl
theorem wit_up (l : List Kl) (e : Int) (h8 : l.length ≤ 8) : ∀ (o : List Nat) (D : List Bool) (L : List Cl), Wit l D L o → D.length = 8 → ∀ D', RelD l e D D' → ∃ o', Wit (upR l e) D' L o' := by
  intro o
  induction o with
  | nil =>
    intro D L h hD D' hR
    refine ⟨[], .nil ?_⟩
    · rw [Wit] at h
      cases hl : lckK (upR l e) D' with
      | false => rfl
      | true =>
        obtain ⟨j, y, hy, ha, hn⟩ := (lck_iff _ _).1 hl
        obtain ⟨i, x, hx, hb, hi, rfl⟩ := ixR_back hy
        rw [← hi, hR.eq i x hx hb] at hn
        have := (lck_iff l D).2 ⟨i, x, hx, (ctK_ans.1 ha).1, hn⟩
        rw [h] at this
        cases this
  | cons q o ih =>
    intro D L h hD D' hR
    cases hl : lckK (upR l e) D' with
    | false => exact ⟨[], .nil hl⟩
    | true =>
      obtain ⟨j, y, hy, ha, hn⟩ := (lck_iff _ _).1 hl
      obtain ⟨i, z, hz, hzb, hi, rfl⟩ := ixR_back hy
      rw [← hi, hR.eq i z hz hzb] at hn
      have hza := ctK_ans.1 ha
      · rw [Wit] at h
        obtain ⟨x, hx, hnx, hw⟩ := h
        have hn2 := hnx
        unfold nxtK at hn2
        simp only [Bool.and_eq_true, Bool.not_eq_true', Bool.or_eq_false_iff] at hn2
        obtain ⟨⟨hq0, hoff⟩, hlate⟩ := hn2
        have hxb : ¬ e < x.b := fun hc => by
          have := (late_iff l D x).2 ⟨i, (List.getElem?_eq_some_iff.1 hz).1, z, hz, hza.1, hn, by omega⟩
          rw [hlate] at this
          cases this
        have hql := (List.getElem?_eq_some_iff.1 hx).1
        have hxu := ixR_at hx hxb
        have hul := (List.getElem?_eq_some_iff.1 hxu).1
        have hup := upR_len l e
        have hR2 : RelD l e (D.set q true) (D'.set (ixR l e q) true) := ⟨by simp [hR.len], fun i' x' hx' hb' => by
          rw [at9_set8 _ _ _ (by rw [hR.len]; omega), at9_set8 _ _ _ (by omega), hR.eq i' x' hx' hb']
          congr 1
          by_cases hc : q = i'
          · subst hc; simp
          · have : ixR l e q ≠ ixR l e i' := fun hcc => by
              rcases Nat.lt_or_gt_of_ne hc with h | h
              · have := ixR_lt hx hxb h; omega
              · have := ixR_lt hx' hb' h; omega
            simp [hc, this]⟩
        obtain ⟨o', ho'⟩ := ih _ _ hw (by simp [hD]) _ hR2
        refine ⟨ixR l e q :: o', .cons hxu ?_ (by
          have : dnK L (ctK e x) = dnK L x := by unfold dnK; rw [ctK_o]
          rw [this]; exact ho')⟩
        unfold nxtK
        have h1 : at9 D' (ixR l e q) = false := by rw [hR.eq q x hx hxb]; exact hq0
        have h2 : offK L (ctK e x) = false := by
          cases hoo : offK L (ctK e x) with
          | false => rfl
          | true =>
            have hax : ansK (ctK e x) = true := by unfold offK at hoo; simp only [Bool.and_eq_true] at hoo; exact hoo.1
            rw [ctK_e hax, hoff] at hoo
            cases hoo
        have h3 : lateK (upR l e) D' (ctK e x) = false := by
          cases hll : lateK (upR l e) D' (ctK e x) with
          | false => rfl
          | true =>
            obtain ⟨j2, _, y2, hy2, ha2, hn3, hlt⟩ := (late_iff _ _ _).1 hll
            obtain ⟨i2, z2, hz2, hzb2, hi2, rfl⟩ := ixR_back hy2
            rw [← hi2, hR.eq i2 z2 hz2 hzb2] at hn3
            rw [ctK_b, ctK_e ha2] at hlt
            have := (late_iff l D x).2 ⟨i2, (List.getElem?_eq_some_iff.1 hz2).1, z2, hz2, (ctK_ans.1 ha2).1, hn3, hlt⟩
            rw [hlate] at this
            cases this
        rw [h1, h2, h3]
        rfl
theorem at9_D0 (i : Nat) : at9 D0 i = false := by
  unfold at9 D0
  match i with
  | 0 | 1 | 2 | 3 | 4 | 5 | 6 | 7 => rfl
  | i + 8 => simp
/-- A beginning of a history that has a witness has one. -/
theorem lst_up (l : List Kl) (e : Int) (h8 : l.length ≤ 8) (h : (lst l).isSome = true) : ∃ o, Wit (upR l e) D0 [] o := by
  obtain ⟨s, hs⟩ := Option.isSome_iff_exists.1 h
  exact wit_up l e h8 s _ _ (sr_wit l _ _ _ s hs) rfl D0 ⟨rfl, fun i x _ _ => by rw [at9_D0, at9_D0]⟩
theorem wit_lst (l : List Kl) (h8 : l.length ≤ 8) {o : List Nat} (h : Wit l D0 [] o) : (lst l).isSome = true := by
  have h1 := wit_sr l (o.length + l.length) _ _ o h (by omega)
  have h2 := cU_le D0 l.length
  unfold lst
  rw [srK_eq l D0 [] (show l.length ≤ D0.length from h8) (k := l.length) (k' := o.length + l.length) h2 (by omega)]
  exact h1
theorem lst_upR (l : List Kl) (e : Int) (h8 : l.length ≤ 8) (h : (lst l).isSome = true) : (lst (upR l e)).isSome = true := by
  obtain ⟨o, ho⟩ := lst_up l e h8 h
  exact wit_lst _ (Nat.le_trans (upR_len l e) h8) ho

end Go.Proofs.Ytidfcflcjkbeeaa

namespace Go.Proofs.Ytidfcflcjkbeeaa
open Go.RowKit Go.Maps
open Classical
set_option linter.unusedVariables false
set_option linter.unusedSimpArgs false

end Go.Proofs.Ytidfcflcjkbeeaa

namespace Go.Proofs
open Go.Shelf Go.RowKit Go.Lib Go.Sort
def Try.lays189_ren : Go.Shelf.Ren := ⟨fun | 189 => 46 | 125 => 73 | 257 => 72 | 128 => 98 | 129 => 99 | 294 => 89 | 295 => 90 | 296 => 91 | 297 => 92 | 298 => 93 | 299 => 94 | 216 => 95 | 300 => 96 | 301 => 97 | 328 => 104 | 329 => 105 | 330 => 106 | 331 => 107 | 332 => 108 | 215 => 109 | 343 => 111 | n => n, fun | 28 => 34 | 3 => 3 | 46 => 144 | 0 => 0 | 51 => 185 | 53 => 78 | 4 => 4 | 183 => 178 | 182 => 177 | 131 => 129 | 5 => 5 | 9 => 9 | 218 => 190 | 222 => 194 | 228 => 197 | 229 => 198 | n => n, fun | n => n⟩
theorem Try.lays189 : Go.Proofs.Lays.n189 Try.prog Try.lays189_ren := {
  mixed := by kernel_rfl,
  f125 := Try.func73.trans (congrArg some (by kernel_rfl)),
  f128 := Try.func98.trans (congrArg some (by kernel_rfl)),
  f129 := Try.func99.trans (congrArg some (by kernel_rfl)),
  f189 := Try.func46.trans (congrArg some (by kernel_rfl)),
  f215 := Try.func109.trans (congrArg some (by kernel_rfl)),
  f216 := Try.func95.trans (congrArg some (by kernel_rfl)),
  f257 := Try.func72.trans (congrArg some (by kernel_rfl)),
  f294 := Try.func89.trans (congrArg some (by kernel_rfl)),
  f295 := Try.func90.trans (congrArg some (by kernel_rfl)),
  f296 := Try.func91.trans (congrArg some (by kernel_rfl)),
  f297 := Try.func92.trans (congrArg some (by kernel_rfl)),
  f298 := Try.func93.trans (congrArg some (by kernel_rfl)),
  f299 := Try.func94.trans (congrArg some (by kernel_rfl)),
  f300 := Try.func96.trans (congrArg some (by kernel_rfl)),
  f301 := Try.func97.trans (congrArg some (by kernel_rfl)),
  f328 := Try.func104.trans (congrArg some (by kernel_rfl)),
  f329 := Try.func105.trans (congrArg some (by kernel_rfl)),
  f330 := Try.func106.trans (congrArg some (by kernel_rfl)),
  f331 := Try.func107.trans (congrArg some (by kernel_rfl)),
  f332 := Try.func108.trans (congrArg some (by kernel_rfl)),
  f343 := Try.func111.trans (congrArg some (by kernel_rfl)),
  t0 := Try.underlying0,
  a0 := Try.isAgg0,
  z0 := Try.sizeOf0,
  v0 := Try.zeroValue0,
  t3 := Try.underlying3,
  a3 := Try.isAgg3,
  z3 := Try.sizeOf3,
  v3 := Try.zeroValue3,
  t4 := Try.underlying4,
  a4 := Try.isAgg4,
  z4 := Try.sizeOf4,
  v4 := Try.zeroValue4,
  t5 := Try.underlying5,
  a5 := Try.isAgg5,
  z5 := Try.sizeOf5,
  v5 := Try.zeroValue5,
  t9 := Try.underlying9,
  a9 := Try.isAgg9,
  z9 := Try.sizeOf9,
  v9 := Try.zeroValue9,
  t28 := Try.underlying34,
  a28 := Try.isAgg34,
  z28 := Try.sizeOf34,
  v28 := Try.zeroValue34,
  t46 := Try.underlying144,
  a46 := Try.isAgg144,
  z46 := Try.sizeOf144,
  v46 := Try.zeroValue144,
  t51 := Try.underlying185,
  a51 := Try.isAgg185,
  z51 := Try.sizeOf185,
  v51 := Try.zeroValue185,
  t53 := Try.underlying78,
  a53 := Try.isAgg78,
  z53 := Try.sizeOf78,
  v53 := Try.zeroValue78,
  t131 := Try.underlying129,
  a131 := Try.isAgg129,
  z131 := Try.sizeOf129,
  v131 := Try.zeroValue129,
  t182 := Try.underlying177,
  a182 := Try.isAgg177,
  z182 := Try.sizeOf177,
  v182 := Try.zeroValue177,
  t183 := Try.underlying178,
  a183 := Try.isAgg178,
  z183 := Try.sizeOf178,
  v183 := Try.zeroValue178,
  t218 := Try.underlying190,
  a218 := Try.isAgg190,
  z218 := Try.sizeOf190,
  v218 := Try.zeroValue190,
  t222 := Try.underlying194,
  a222 := Try.isAgg194,
  z222 := Try.sizeOf194,
  v222 := Try.zeroValue194,
  t228 := Try.underlying197,
  a228 := Try.isAgg197,
  z228 := Try.sizeOf197,
  v228 := Try.zeroValue197,
  t229 := Try.underlying198,
  a229 := Try.isAgg198,
  z229 := Try.sizeOf198,
  v229 := Try.zeroValue198 }
end Go.Proofs
namespace Go.Proofs.Ytidfcflcjkbeeaa
open Go.RowKit Go.Maps Go.Sort Go.Shelf
open Classical
set_option linter.unusedVariables false
set_option linter.unusedSimpArgs false

theorem fl_N8 : ∀ L : List Int, fl yN L = L.map (Value.int .i64)
  | [] => rfl
  | x :: r => by rw [fl, fl_N8 r]; rfl
/-- Whole numbers from the least on. -/
def srt8 (L : List Int) : List Int := L.mergeSort (fun x y => decide (x ≤ y))
theorem srt8_len (L : List Int) : (srt8 L).length = L.length := List.length_mergeSort L
theorem srt8_mem {L : List Int} {x : Int} : x ∈ srt8 L ↔ x ∈ L := List.mem_mergeSort
theorem srt8_pair (L : List Int) : (srt8 L).Pairwise (fun x y => x ≤ y) := by
  have := List.pairwise_mergeSort (le := fun x y : Int => decide (x ≤ y)) (by intro a b c h1 h2; simp at *; omega) (by intro a b; simp; omega) L
  unfold srt8
  simpa using this
set_option maxRecDepth 100000 in
/-- slices.Sort of a row of the call's own. -/
theorem sortN18 (L : List Int) (B : Nat) (v : Value) (w : World) (h : OwnY yN B w v L) (hm : L.length * 8 ≤ 281474976710656) :
    Calls Try.prog 46 #[v] w fun e w' => e = .returned (.tuple #[]) ∧ OwnY yN B w' v (srt8 L) ∧ w.grownBy w' v.ownBlock := by
  rcases h with ⟨h0, ⟨h1, h2⟩ | ⟨g, cap, cur, e1, e2, e3, e4, e5, e6, e7⟩⟩
  · subst h1
    have hL : L = [] := List.eq_nil_of_length_eq_zero h2
    subst hL
    have hc := Any.slices_Sort_int_none Try.lays189 none 0 w
    change Calls Try.prog 46 _ _ _ at hc
    refine hc.mono fun e w' hq => ?_
    obtain ⟨rfl, rfl⟩ := hq
    exact ⟨rfl, by rw [show srt8 [] = [] by simp [srt8]]; exact OwnY.nil _ _ _, World.grownBy.refl _ _⟩
  · subst e1
    have e7' : cur.toList.take L.length = L.map (Value.int .i64) := by
      rw [← fl_N8]
      rw [show L.length * yN.k = L.length from Nat.mul_one _] at e7
      exact e7
    have hc := Any.slices_Sort_int Try.lays189 g 0 cap L w (holds_of_blockI e3 e7') (Array.getElem?_eq_some_iff.1 e3).1 (by omega)
    change Calls Try.prog 46 _ _ _ at hc
    refine hc.mono fun e w' hq => ?_
    obtain ⟨rfl, k, os, rfl⟩ := hq
    refine ⟨rfl, ?_, grownBy_sortedI _⟩
    unfold OwnY
    rw [srt8_len, fl_N8]
    exact ownsRow_sortedI (ss := L) (ts := srt8 L) (srt8_len L) e2 e3 e4 e5 (by rw [e6]; rfl)
/-- When the answers came. -/
def enL (l : List Kl) : List Int := (l.filter ansK).map (·.e)
def badR (l : List Kl) (r : Int) : Bool := !(lst (upR l r)).isSome
def wrs (l : List Kl) : Int := ((srt8 (enL l)).find? (badR l)).getD (-1)
def woR (l : List Kl) : Int × Int := if srE l ≠ 0 then (0, srE l) else (wrs l, 0)
theorem enL_at {l : List Kl} {j : Nat} {x : Kl} (h : l[j]? = some x) : enL (l.take (j + 1)) = enL (l.take j) ++ (if ansK x then [x.e] else []) := by
  obtain ⟨hj, rfl⟩ := List.getElem?_eq_some_iff.1 h
  unfold enL
  rw [List.take_succ_eq_append_getElem hj, List.filter_append, List.map_append]
  congr 1
  by_cases h : ansK l[j] <;> simp [h]
theorem enL_len (l : List Kl) : (enL l).length ≤ l.length := by unfold enL; rw [List.length_map]; exact List.length_filter_le _ _
theorem enL_mem {l : List Kl} {r : Int} : r ∈ enL l ↔ ∃ x ∈ l, ansK x = true ∧ x.e = r := by
  unfold enL
  simp [and_assoc]
theorem srE_zero {l : List Kl} (h : srE l = 0) : kchk l = 0 ∧ l.length ≤ 8 := by
  unfold srE at h
  split at h
  · rename_i hk; exact absurd h hk
  · rename_i hk
    split at h
    · cases h
    · exact ⟨by simpa using hk, by omega⟩
theorem wrs_first {l : List Kl} {i : Nat} {r : Int} (h : (srt8 (enL l))[i]? = some r) (h1 : ∀ z ∈ (srt8 (enL l)).take i, badR l z = false) (h2 : badR l r = true) : wrs l = r := by
  obtain ⟨hi, rfl⟩ := List.getElem?_eq_some_iff.1 h
  unfold wrs
  have e : srt8 (enL l) = (srt8 (enL l)).take i ++ (srt8 (enL l))[i] :: (srt8 (enL l)).drop (i + 1) := by rw [← List.drop_eq_getElem_cons hi, List.take_append_drop]
  have : (srt8 (enL l)).find? (badR l) = some (srt8 (enL l))[i] := List.find?_eq_some_iff_append.2 ⟨h2, _, _, e, fun a ha => by rw [h1 a ha]; rfl⟩
  rw [this]
  rfl
theorem wrs_none {l : List Kl} (h : ∀ x ∈ l, ansK x = true → badR l x.e = false) : wrs l = -1 := by
  unfold wrs
  have : (srt8 (enL l)).find? (badR l) = none := List.find?_eq_none.2 fun r hr => by
    obtain ⟨x, hx, ha, rfl⟩ := enL_mem.1 (srt8_mem.1 hr)
    rw [h x hx ha]
    simp
  rw [this]
  rfl
/-- The least end of the first j that leaves no witness. -/
def Wst (l : List Kl) (j : Nat) (z : Int) : Prop := (z = -1 ∧ ∀ x ∈ l.take j, ansK x = true → badR l x.e = false) ∨ (0 ≤ z ∧ badR l z = true ∧ (∃ x ∈ l.take j, ansK x = true ∧ x.e = z) ∧ ∀ x ∈ l.take j, ansK x = true → badR l x.e = true → z ≤ x.e)
theorem Wst.end_ {l : List Kl} {z : Int} (h : Wst l l.length z) : z = wrs l := by
  unfold Wst at h
  rw [List.take_length] at h
  rcases h with ⟨rfl, h⟩ | ⟨h0, h1, ⟨x, hx, hxa, hxe⟩, h2⟩
  · exact (wrs_none h).symm
  · have hz : z ∈ srt8 (enL l) := srt8_mem.2 (enL_mem.2 ⟨x, hx, hxa, hxe⟩)
    cases hf : (srt8 (enL l)).find? (badR l) with
    | none => exact absurd h1 (by have := List.find?_eq_none.1 hf z hz; simpa using this)
    | some r =>
      have hw : wrs l = r := by unfold wrs; rw [hf]; rfl
      obtain ⟨hr, A, C, e, has⟩ := List.find?_eq_some_iff_append.1 hf
      have hrm : r ∈ srt8 (enL l) := by rw [e]; simp
      obtain ⟨y, hy, hya, hye⟩ := enL_mem.1 (srt8_mem.1 hrm)
      have h3 : z ≤ r := by rw [← hye]; exact h2 y hy hya (by rw [hye]; exact hr)
      have h4 : r ≤ z := by
        have hp := srt8_pair (enL l)
        rw [e] at hz hp
        rcases List.mem_append.1 hz with hz | hz
        · have := has z hz; rw [h1] at this; simp at this
        · rcases List.mem_cons.1 hz with rfl | hz
          · omega
          · exact List.rel_of_pairwise_cons (List.pairwise_append.1 hp).2.1 hz
      omega
theorem Wst.step {l : List Kl} {j : Nat} {z : Int} {x : Kl} (h : Wst l j z) (hx : l[j]? = some x) :
    Wst l (j + 1) (if x.e < 0 ∨ (0 ≤ z ∧ z ≤ x.e) then z else if badR l x.e then x.e else z) := by
  obtain ⟨hj, rfl⟩ := List.getElem?_eq_some_iff.1 hx
  unfold Wst at h ⊢
  rw [List.take_succ_eq_append_getElem hj]
  have hans : ∀ y : Kl, ansK y = true ↔ 0 ≤ y.e := fun y => by unfold ansK; simp
  split
  · rename_i hc
    rcases h with ⟨rfl, h⟩ | ⟨h0, h1, ⟨y, hy, hya, hye⟩, h2⟩
    · refine .inl ⟨rfl, fun y hy hya => ?_⟩
      rcases List.mem_append.1 hy with hy | hy
      · exact h y hy hya
      · simp at hy; subst hy; rw [hans] at hya; omega
    · refine .inr ⟨h0, h1, ⟨y, List.mem_append.2 (.inl hy), hya, hye⟩, fun y hy hya hyb => ?_⟩
      rcases List.mem_append.1 hy with hy | hy
      · exact h2 y hy hya hyb
      · simp at hy; subst hy; rw [hans] at hya; omega
  · rename_i hc
    split
    · rename_i hb
      refine .inr ⟨by omega, hb, ⟨l[j], List.mem_append.2 (.inr (List.mem_singleton.2 rfl)), (hans _).2 (by omega), rfl⟩, fun y hy hya hyb => ?_⟩
      rcases List.mem_append.1 hy with hy | hy
      · rcases h with ⟨rfl, h⟩ | ⟨h0, h1, _, h2⟩
        · rw [h y hy hya] at hyb; cases hyb
        · have := h2 y hy hya hyb; omega
      · simp at hy; subst hy; omega
    · rename_i hb
      have hb : badR l l[j].e = false := by simpa using hb
      rcases h with ⟨rfl, h⟩ | ⟨h0, h1, ⟨y, hy, hya, hye⟩, h2⟩
      · refine .inl ⟨rfl, fun y hy hya => ?_⟩
        rcases List.mem_append.1 hy with hy | hy
        · exact h y hy hya
        · simp at hy; subst hy; exact hb
      · refine .inr ⟨h0, h1, ⟨y, List.mem_append.2 (.inl hy), hya, hye⟩, fun y hy hya hyb => ?_⟩
        rcases List.mem_append.1 hy with hy | hy
        · exact h2 y hy hya hyb
        · simp at hy; subst hy; rw [hb] at hyb; cases hyb
theorem wrs_good {l : List Kl} (h8 : l.length ≤ 8) (h : (lst l).isSome = true) : wrs l = -1 := wrs_none fun x _ _ => by unfold badR; rw [lst_upR l x.e h8 h]; rfl
set_option maxRecDepth 100000 in
set_option maxHeartbeats 2000000 in
theorem worst18 (l : List Kl) (a : Option Addr) (c : Nat) (w : World) (h : SlY yK w a l.length c l) (hfx : ∀ x ∈ l, x.fits) (hb96 : l.length * 96 ≤ 140737488351232) :
    Calls Try.prog 19 #[.slice a l.length c] w fun e w' => e = .returned (.tuple #[.int .i64 (woR l).1, .int .i64 (woR l).2]) ∧ Below w.heap.size w w' := by
  go_enter Try.func19, Try.ntmps19
  go_upto_region 0 with fail
  refine wp_region_lit ?_
  refine vl_gen (fun T => Rp T 50 [(0, gw true (.slice a l.length c))]) ((Rp.nil rfl).cons rfl) (fun Z0 q0 => ?_)
  refine q0.t (.int .i64 0) (ex_assign rfl rfl) fun _ q1 => ?_;clear q0
  refine q1.t (.int .i64 0) (ex_assign rfl rfl) fun _ q2 => ?_;clear q1
  refine wpList_nil ?_
  go_upto_region 1 with fail
  refine wp_region_lit ?_
  refine q2.t (.slice a l.length c) (ex_move rfl (q2.e (j := 0) rfl)) fun _ q3 => ?_;clear q2
  refine vcallP (want_none rfl) (ex_call rfl (by simp only [List.map_toArray, List.map_cons, List.map_nil, (q3.e (j := 12) rfl), evc] <;> rfl) rfl) (few_any l a c w h hfx) rfl q3.z (by decide) ?_
  rintro e w1 ⟨rfl, b1⟩
  refine ⟨_, rfl, q3.k fun _ q4 => ?_⟩;clear q3
  have z1 := b1.size
  refine q4.t (.int .i64 (srE l : Int)) (ex_assign rfl (q4.e (j := 13) rfl)) fun _ q5 => ?_;clear q4
  refine wpList_nil ?_
  go_upto_region 2 with fail
  refine wp_region_lit ?_
  refine q5.t (.int .i64 (srE l : Int)) (ex_move rfl (q5.e (j := 4) rfl)) fun _ q6 => ?_;clear q5
  refine q6.t (.bool (!decide (srE l = 0))) (ex_bin rfl (q6.e (j := 14) rfl) rfl (neqE18 _ _ _ _ _)) fun _ q7 => ?_;clear q6
  have q8 := ((((Rp.nil q7.z).cons (q7.a 0 rfl)).cons (q7.a 4 rfl)).cons (q7.a 15 rfl))
  clear q7
  refine wpList_nil ?_
  by_cases hk : srE l = 0
  · obtain ⟨hk0, h8⟩ := srE_zero hk
    have q8x := q8.a 15 rfl
    rw [hk] at q8x
    have hW : woR l = (wrs l, 0) := by unfold woR; rw [if_neg (by simp [hk])]
    go_upto_region 4 with fail
    refine wp_cond_false (ev q8x rfl) ?_
    clear q8x
    go_upto_region 4 with fail
    refine wp_region_lit ?_
    refine q8.t (.slice none 0 0) (ex_assign rfl rfl) fun _ q9 => ?_;clear q8
    refine wpList_nil ?_
    go_upto_region 5 with fail
    refine wp_region_lit ?_
    refine q9.t (.slice a l.length c) (ex_move rfl (q9.e (j := 0) rfl)) fun _ q10 => ?_;clear q9
    refine q10.t (.int .i64 (l.length : Int)) (ex_len18 rfl rfl (q10.e (j := 17) rfl)) fun _ q11 => ?_;clear q10
    refine q11.t (.int .i64 ((0 : Nat) : Int)) (ex_move rfl rfl) fun _ q12 => ?_;clear q11
    have q13 := ((((((Rp.nil q12.z).cons (q12.a 0 rfl)).cons (q12.a 5 rfl)).cons (q12.a 17 rfl)).cons (q12.a 18 rfl)).cons (q12.a 19 rfl))
    clear q12
    refine wpList_nil ?_
    go_upto_region 6 with fail
    refine v_loop 19 l.length (fun j T wr => ∃ v, Rp T 50 [(19, gw true (.int .i64 (j : Int))), (18, gw true (.int .i64 (l.length : Int))), (17, gw true (.slice a l.length c)), (5, gw true v), (0, gw true (.slice a l.length c))] ∧ Hid (Below w.heap.size w wr ∧ OwnY yN w.heap.size wr v (enL (l.take j)))) (fun j T w h => by obtain ⟨v, h, _⟩ := h; exact h.a 19 rfl) ⟨_, q13, b1, OwnY.nil _ _ _⟩ ?_
    clear q13
    intro j T wr hj hh
    obtain ⟨v, q100, HJ⟩ := hh
    obtain ⟨br, hO⟩ := HJ.out
    clear HJ
    have zr := br.size
    by_cases hit : j < l.length
    · obtain ⟨x, hx⟩ : ∃ x, l[j]? = some x := ⟨_, List.getElem?_eq_getElem hit⟩
      obtain ⟨qa, oa, hqa, hqal, hlie⟩ := (h.on br (Nat.le_refl _)).place (by rintro rfl; simp at hit)
      have hua := enL_at hx
      have hul := enL_len (l.take j)
      rw [List.length_take] at hul
      go_upto_region 6 with fail
      refine wp_region_lit ?_
      refine q100.t (.bool true) (ex_bin rfl (q100.e (j := 19) rfl) (q100.e (j := 18) rfl) (ltT _ _ hit _)) fun _ q101 => ?_;clear q100
      refine wpList_nil ?_
      go_upto_region 7 with fail
      refine wp_cond_true (q101.e (j := 20) rfl) ?_
      go_upto_region 7 with fail
      refine wp_region_lit ?_
      refine q101.t (.pointer (some ⟨qa, oa + j * 10, none⟩)) (ex_ix rfl (q101.e (j := 17) rfl) (q101.e (j := 19) rfl) (by rw [hqa]; exact ixK qa oa l.length c j hit _)) fun _ q102 => ?_;clear q101
      refine q102.t (x.val) (ex_ld rfl (q102.e (j := 21) rfl) (ldEl hlie hx)) fun _ q103 => ?_;clear q102
      obtain ⟨r1, hr1⟩ : ∃ y, y = wr.alloc (.cells zK.cs.toArray 50) := ⟨_, rfl⟩
      refine vw (.pointer (some ⟨wr.heap.size, 0, none⟩)) r1 (want_none rfl) (ex_al rfl (by rw [hr1]; exact alK _)) rfl q103.z (by decide) (q103.k fun _ q104 => ?_);clear q103
      have Bz : BB r1 wr.heap.size 50 zK.cs := by rw [hr1]; exact BB.new _ _ _
      have hr1b : Below wr.heap.size wr r1 := by rw [hr1]; exact (Below.refl _ _).alloc (Nat.le_refl _) _
      clear hr1
      obtain ⟨r2, hr2⟩ : ∃ y, y = r1.setCells wr.heap.size 0 x.cs := ⟨_, rfl⟩
      refine vs r2 (want_none rfl) (ex_st rfl (q104.e (j := 7) rfl) (q104.e (j := 22) rfl) (by rw [hr2]; exact Bz.stK)) rfl ?_
      have B2 : BB r2 wr.heap.size 50 x.cs := by rw [hr2]; exact Bz.whole _ rfl
      have hr2b : Below wr.heap.size wr r2 := by rw [hr2]; exact hr1b.trans (bel_ge (upd18 _ _ _ _) hr1b.size (Nat.le_refl _))
      clear hr2 Bz hr1b
      have y2 := hr2b.size
      refine wpList_nil ?_
      go_upto_region 8 with fail
      refine wp_region_lit ?_
      refine q104.t (x.val) (ex_ld rfl (q104.e (j := 7) rfl) B2.ldK) fun _ q105 => ?_;clear q104
      refine vcallP (want_none rfl) (ex_call rfl (by simp only [List.map_toArray, List.map_cons, List.map_nil, (q105.e (j := 23) rfl), evc] <;> rfl) rfl) (isAnswered_any x r2) rfl q105.z (by decide) ?_
      rintro e r3 ⟨rfl, hr3b⟩
      refine ⟨_, rfl, q105.k fun _ q106 => ?_⟩;clear q105
      have y3 := hr3b.size
      have B3 := B2.later hr3b
      have hr3w : Below wr.heap.size wr r3 := hr2b.trans (hr3b.mono y2)
      have O3 := hO.grow hr3w
      have bw3 : Below w.heap.size w r3 := br.trans (hr3w.mono zr)
      have q107 := ((((((((Rp.nil q106.z).cons (q106.a 0 rfl)).cons (q106.a 5 rfl)).cons (q106.a 7 rfl)).cons (q106.a 17 rfl)).cons (q106.a 18 rfl)).cons (q106.a 19 rfl)).cons (q106.a 24 rfl))
      clear q106
      refine wpList_nil ?_
      cases hs : ansK x with
      | false =>
        have q107x := q107.a 24 rfl
        rw [hs] at q107x
        rw [hs, if_neg (by simp), List.append_nil] at hua
        go_upto_region 10 with fail
        refine wp_cond_false (ev q107x rfl) ?_
        clear q107x
        go_upto_region 10 with fail
        refine wp_region_lit ?_
        refine q107.t (.int .i64 ((j + 1 : Nat) : Int)) (ex_bin rfl (q107.e (j := 19) rfl) rfl (add1C _ _ j (by omega) _)) fun _ q108 => ?_;clear q107
        refine q108.t (.int .i64 ((j + 1 : Nat) : Int)) (ex_move rfl (q108.e (j := 30) rfl)) fun _ q109 => ?_;clear q108
        have q110 := ((((((Rp.nil q109.z).cons (q109.a 0 rfl)).cons (q109.a 5 rfl)).cons (q109.a 17 rfl)).cons (q109.a 18 rfl)).cons (q109.a 19 rfl))
        clear q109
        refine wpList_nil ?_
        exact ⟨_, rfl, hit, _, q110, bw3, by rw [hua]; exact O3⟩
      | true =>
        have q107x := q107.a 24 rfl
        rw [hs] at q107x
        rw [hs, if_pos rfl] at hua
        go_upto_region 9 with fail
        refine wp_cond_true (ev q107x rfl) ?_
        clear q107x
        go_upto_region 9 with fail
        refine wp_region_lit ?_
        refine q107.t (v) (ex_move rfl (q107.e (j := 5) rfl)) fun _ q108 => ?_;clear q107
        refine q108.t (.pointer (some ⟨wr.heap.size, 6, none⟩)) (ex_fa rfl (q108.e (j := 7) rfl) (faK4 _ _)) fun _ q109 => ?_;clear q108
        refine q109.t (.int .i64 x.e) (ex_ld rfl (q109.e (j := 26) rfl) (ldI18 ((B3.cell 6).trans rfl))) fun _ q110 => ?_;clear q109
        obtain ⟨r5, hr5⟩ : ∃ z, z = r3.alloc (.cells #[.int .i64 x.e] 3) := ⟨_, rfl⟩
        refine vw (.slice (some ⟨r3.heap.size, 0, none⟩) 1 1) r5 (want_none rfl) (ex_bs18 rfl (q110.e (j := 27) rfl) (by rw [hr5]; exact bsN _ _)) rfl q110.z (by decide) (q110.k fun _ q111 => ?_);clear q110
        have s5 : SlY yN r5 (some ⟨r3.heap.size, 0, none⟩) 1 1 [x.e] := by rw [hr5]; exact sl_box (Y := yN) r3 x.e 3
        have b5 : Below r3.heap.size r3 r5 := by rw [hr5]; exact (Below.refl _ _).alloc (Nat.le_refl _) _
        clear hr5
        have y5 := b5.size
        have zz := bw3.size
        obtain ⟨v6, r6, ha6, o6, g6, _⟩ := run_appY kN r5 34 w.heap.size _ v _ 1 1 [x.e] s5 (O3.grow b5) (by omega) (by unfold maxLen; omega) (by show ((enL (l.take j)).length + 1) * 8 ≤ _; omega)
        have b6 : Below w.heap.size w r6 := (bw3.trans (b5.mono (by omega))).grown g6 (by omega) (fun k hk => (O3.blk k hk).1)
        refine vw (v6) r6 (want_none rfl) (ex_app18 rfl (q111.e (j := 25) rfl) (q111.e (j := 28) rfl) ha6) rfl q111.z (by decide) (q111.k fun _ q112 => ?_);clear q111
        refine q112.t (v6) (ex_assign rfl (q112.e (j := 29) rfl)) fun _ q113 => ?_;clear q112
        refine wpList_nil ?_
        go_upto_region 10 with fail
        refine wp_region_lit ?_
        refine q113.t (.int .i64 ((j + 1 : Nat) : Int)) (ex_bin rfl (q113.e (j := 19) rfl) rfl (add1C _ _ j (by omega) _)) fun _ q114 => ?_;clear q113
        refine q114.t (.int .i64 ((j + 1 : Nat) : Int)) (ex_move rfl (q114.e (j := 30) rfl)) fun _ q115 => ?_;clear q114
        have q116 := ((((((Rp.nil q115.z).cons (q115.a 0 rfl)).cons (q115.a 5 rfl)).cons (q115.a 17 rfl)).cons (q115.a 18 rfl)).cons (q115.a 19 rfl))
        clear q115
        refine wpList_nil ?_
        exact ⟨_, rfl, hit, v6, q116, b6, by rw [hua]; exact o6⟩
    · obtain rfl : j = l.length := by omega
      rw [List.take_length] at hO
      have hel := enL_len l
      have hsl := srt8_len (enL l)
      go_upto_region 6 with fail
      refine wp_region_lit ?_
      refine q100.t (.bool false) (ex_bin rfl (q100.e (j := 19) rfl) (q100.e (j := 18) rfl) (ltF _ _ hit _)) fun _ q101 => ?_;clear q100
      refine wpList_nil ?_
      go_upto_region 11 with fail
      refine wp_cond_false (q101.e (j := 20) rfl) ?_
      go_upto_region 11 with fail
      refine wp_region_lit ?_
      refine q101.t (v) (ex_move rfl (q101.e (j := 5) rfl)) fun _ q102 => ?_;clear q101
      refine vcallP (want_none rfl) (ex_call rfl (by simp only [List.map_toArray, List.map_cons, List.map_nil, (q102.e (j := 31) rfl), evc] <;> rfl) rfl) (sortN18 (enL l) w.heap.size v wr hO (by omega)) rfl q102.z (by decide) ?_
      rintro e r1 ⟨rfl, o1, g1⟩
      refine ⟨_, rfl, q102.k fun _ q103 => ?_⟩;clear q102
      have br1 : Below w.heap.size w r1 := br.grown g1 zr (fun k hk => (hO.blk k hk).1)
      have zr1 := br1.size
      obtain ⟨a9, c9, rfl, s9, _⟩ := o1.sl kN
      refine wpList_nil ?_
      go_upto_region 12 with fail
      refine wp_region_lit ?_
      refine q103.t (.slice a9 (srt8 (enL l)).length c9) (ex_move rfl (q103.e (j := 5) rfl)) fun _ q104 => ?_;clear q103
      refine q104.t (.int .i64 ((srt8 (enL l)).length : Int)) (ex_lenN18 rfl rfl (q104.e (j := 33) rfl)) fun _ q105 => ?_;clear q104
      refine q105.t (.int .i64 ((0 : Nat) : Int)) (ex_move rfl rfl) fun _ q106 => ?_;clear q105
      have q107 := (((((Rp.nil q106.z).cons (q106.a 0 rfl)).cons (q106.a 33 rfl)).cons (q106.a 34 rfl)).cons (q106.a 35 rfl))
      clear q106
      refine wpList_nil ?_
      go_upto_region 13 with fail
      refine v_loop 35 (srt8 (enL l)).length (fun i T u => Rp T 50 [(35, gw true (.int .i64 (i : Int))), (34, gw true (.int .i64 ((srt8 (enL l)).length : Int))), (33, gw true (.slice a9 (srt8 (enL l)).length c9)), (0, gw true (.slice a l.length c))] ∧ Hid (Below r1.heap.size r1 u ∧ ∀ z ∈ (srt8 (enL l)).take i, badR l z = false)) (fun i T w h => h.1.a 35 rfl) ⟨q107, Below.refl _ _, by simp⟩ ?_
      clear q107
      intro i T2 u hi hh2
      obtain ⟨q200, HJ⟩ := hh2
      obtain ⟨bu, hno⟩ := HJ.out
      clear HJ
      have zu := bu.size
      have buw : Below w.heap.size w u := br1.trans (bu.mono zr1)
      by_cases his : i < (srt8 (enL l)).length
      · obtain ⟨e, he⟩ : ∃ e, (srt8 (enL l))[i]? = some e := ⟨_, List.getElem?_eq_getElem his⟩
        obtain ⟨qb, ob, hqb, hqbl, hcb⟩ := (s9.on bu (Nat.le_refl _)).nm he
        go_upto_region 13 with fail
        refine wp_region_lit ?_
        refine q200.t (.bool true) (ex_bin rfl (q200.e (j := 35) rfl) (q200.e (j := 34) rfl) (ltT _ _ his _)) fun _ q201 => ?_;clear q200
        refine wpList_nil ?_
        go_upto_region 14 with fail
        refine wp_cond_true (q201.e (j := 36) rfl) ?_
        go_upto_region 14 with fail
        refine wp_region_lit ?_
        refine q201.t (.pointer (some ⟨qb, ob + i, none⟩)) (ex_ix rfl (q201.e (j := 33) rfl) (q201.e (j := 35) rfl) (by rw [hqb]; exact ixN18 qb ob _ c9 i his _)) fun _ q202 => ?_;clear q201
        refine q202.t (.int .i64 e) (ex_ld rfl (q202.e (j := 37) rfl) (ldI18 hcb)) fun _ q203 => ?_;clear q202
        refine q203.t (.int .i64 e) (ex_assign rfl (q203.e (j := 38) rfl)) fun _ q204 => ?_;clear q203
        refine wpList_nil ?_
        go_upto_region 15 with fail
        refine wp_region_lit ?_
        refine q204.t (.slice a l.length c) (ex_move rfl (q204.e (j := 0) rfl)) fun _ q205 => ?_;clear q204
        refine q205.t (.int .i64 e) (ex_move rfl (q205.e (j := 9) rfl)) fun _ q206 => ?_;clear q205
        refine vcallP (want_none rfl) (ex_call rfl (by simp only [List.map_toArray, List.map_cons, List.map_nil, (q206.e (j := 40) rfl), (q206.e (j := 41) rfl), evc] <;> rfl) rfl) (upTo18 l a c e u (h.on buw (Nat.le_refl _)) hb96) rfl q206.z (by decide) ?_
        rintro e u1 ⟨v1, rfl, o2, bu1⟩
        refine ⟨_, rfl, q206.k fun _ q207 => ?_⟩;clear q206
        have zu1 := bu1.size
        obtain ⟨a5, c5, rfl, s5, _⟩ := o2.sl kK
        refine vcallP (want_none rfl) (ex_call rfl (by simp only [List.map_toArray, List.map_cons, List.map_nil, (q207.e (j := 42) rfl), evc] <;> rfl) rfl) (least_any (upR l e) a5 c5 u1 s5 (Nat.le_trans (upR_len l e) h8) (upR_fits hfx)) rfl q207.z (by decide) ?_
        rintro e u2 ⟨v2, rfl, o3, bu2⟩
        refine ⟨_, rfl, q207.k fun _ q208 => ?_⟩;clear q207
        have b2u : Below r1.heap.size r1 u2 := bu.trans ((bu1.trans (bu2.mono zu1)).mono zu)
        refine q208.t (.tuple #[v2, .bool (lst (upR l e)).isSome]) (ex_move rfl (q208.e (j := 43) rfl)) fun _ q209 => ?_;clear q208
        refine q209.t (v2) (ex_ext18 rfl (q209.e (j := 39) rfl) rfl) fun _ q210 => ?_;clear q209
        refine q210.t (.bool (lst (upR l e)).isSome) (ex_ext18 rfl (q210.e (j := 39) rfl) rfl) fun _ q211 => ?_;clear q210
        refine q211.t (v2) (ex_assign rfl (q211.e (j := 44) rfl)) fun _ q212 => ?_;clear q211
        refine q212.t (.bool (lst (upR l e)).isSome) (ex_assign rfl (q212.e (j := 45) rfl)) fun _ q213 => ?_;clear q212
        refine wpList_nil ?_
        go_upto_region 16 with fail
        refine wp_region_lit ?_
        refine q213.t (.bool (lst (upR l e)).isSome) (ex_move rfl (q213.e (j := 11) rfl)) fun _ q214 => ?_;clear q213
        refine q214.t (.bool (badR l e)) (ex_not rfl (q214.e (j := 46) rfl)) fun _ q215 => ?_;clear q214
        have q216 := (((((((Rp.nil q215.z).cons (q215.a 0 rfl)).cons (q215.a 9 rfl)).cons (q215.a 33 rfl)).cons (q215.a 34 rfl)).cons (q215.a 35 rfl)).cons (q215.a 47 rfl))
        clear q215
        refine wpList_nil ?_
        cases hb : badR l e with
        | true =>
          have q216x := q216.a 47 rfl
          rw [hb] at q216x
          have hE : woR l = (e, 0) := by rw [hW, wrs_first he hno hb]
          go_upto_region 17 with fail
          refine wp_cond_true (ev q216x rfl) ?_
          clear q216x
          go_upto_region 17 with fail
          refine wp_region_lit ?_
          refine q216.t (.int .i64 e) (ex_move rfl (q216.e (j := 9) rfl)) fun _ q217 => ?_;clear q216
          refine q217.t (.int .i64 e) (ex_assign rfl (q217.e (j := 48) rfl)) fun _ q218 => ?_;clear q217
          refine q218.t (.int .i64 0) (ex_assign rfl rfl) fun _ q219 => ?_;clear q218
          refine wpList_nil ?_
          go_wp2
          exact bodyPost_ret (results2_18 rfl (q219.a 2 rfl) (q219.a 3 rfl)) rfl ⟨by rw [hE], br1.trans (b2u.mono zr1)⟩
        | false =>
          have q216x := q216.a 47 rfl
          rw [hb] at q216x
          go_upto_region 18 with fail
          refine wp_cond_false (ev q216x rfl) ?_
          clear q216x
          go_upto_region 18 with fail
          refine wp_region_lit ?_
          refine q216.t (.int .i64 ((i + 1 : Nat) : Int)) (ex_bin rfl (q216.e (j := 35) rfl) rfl (add1C _ _ i (by omega) _)) fun _ q217 => ?_;clear q216
          refine q217.t (.int .i64 ((i + 1 : Nat) : Int)) (ex_move rfl (q217.e (j := 49) rfl)) fun _ q218 => ?_;clear q217
          have q219 := (((((Rp.nil q218.z).cons (q218.a 0 rfl)).cons (q218.a 33 rfl)).cons (q218.a 34 rfl)).cons (q218.a 35 rfl))
          clear q218
          refine wpList_nil ?_
          exact ⟨_, rfl, his, q219, b2u, fun z hz => by
            rw [List.take_add_one, he] at hz
            rcases List.mem_append.1 hz with hz | hz
            · exact hno z hz
            · simp at hz; subst hz; exact hb⟩
      · obtain rfl : i = (srt8 (enL l)).length := by omega
        rw [List.take_length] at hno
        have hE : woR l = (-1, 0) := by rw [hW, wrs_none (fun x hx ha => hno _ (srt8_mem.2 (enL_mem.2 ⟨x, hx, ha, rfl⟩)))]
        go_upto_region 13 with fail
        refine wp_region_lit ?_
        refine q200.t (.bool false) (ex_bin rfl (q200.e (j := 35) rfl) (q200.e (j := 34) rfl) (ltF _ _ his _)) fun _ q201 => ?_;clear q200
        refine wpList_nil ?_
        go_upto_region 19 with fail
        refine wp_cond_false (q201.e (j := 36) rfl) ?_
        go_upto_region 19 with fail
        refine wp_region_lit ?_
        refine q201.t (.int .i64 (-1)) (ex_assign rfl rfl) fun _ q202 => ?_;clear q201
        refine q202.t (.int .i64 0) (ex_assign rfl rfl) fun _ q203 => ?_;clear q202
        refine wpList_nil ?_
        go_wp2
        exact bodyPost_ret (results2_18 rfl (q203.a 2 rfl) (q203.a 3 rfl)) rfl ⟨by rw [hE], buw⟩
  · have hE : woR l = (0, srE l) := by unfold woR; rw [if_pos hk]
    have q8x := q8.a 15 rfl
    rw [decide_eq_false hk] at q8x
    go_upto_region 3 with fail
    refine wp_cond_true (ev q8x rfl) ?_
    clear q8x
    go_upto_region 3 with fail
    refine wp_region_lit ?_
    refine q8.t (.int .i64 (srE l : Int)) (ex_move rfl (q8.e (j := 4) rfl)) fun _ q9 => ?_;clear q8
    refine q9.t (.int .i64 0) (ex_assign rfl rfl) fun _ q10 => ?_;clear q9
    refine q10.t (.int .i64 (srE l : Int)) (ex_assign rfl (q10.e (j := 16) rfl)) fun _ q11 => ?_;clear q10
    refine wpList_nil ?_
    go_wp2
    exact bodyPost_ret (results2_18 rfl (q11.a 2 rfl) (q11.a 3 rfl)) rfl ⟨by rw [hE], b1⟩
end Go.Proofs.Ytidfcflcjkbeeaa

namespace Go.Proofs.Ytidfcflcjkbeeaa
open Go.RowKit Go.Maps
open Classical
set_option linter.unusedVariables false
set_option linter.unusedSimpArgs false

theorem ctR_len (l : List Kl) (r : Int) : (ctR l r).1.length ≤ l.length := by
  have := upR_len l (r - 1)
  unfold ctR
  split
  · simp
  · split
    · simp
    · exact this
theorem slR_len (l : List Kl) (r : Int) : (slR l r).1.length ≤ l.length := by
  unfold slR
  split
  · simp
  · split
    · simp
    · exact List.length_filter_le _ _
end Go.Proofs.Ytidfcflcjkbeeaa

namespace Go.Proofs.Ytidfcflcjkbeeaa
open Classical
set_option linter.unusedVariables false
set_option linter.unusedSimpArgs false

/-! ### What is cut off a good history leaves it good; what of a bad one is ahead of its worst row is good -/
theorem kcA_mk : ∀ (p l : List Kl), (∀ x ∈ l, mayK x = true) → l.Pairwise (fun x y => ¬ (x.c = y.c ∧ x.n = y.n)) → (∀ x ∈ l, hasK p x.c x.n = false) → kcA p l = 0
  | _, [], _, _, _ => rfl
  | p, x :: r, h1, h2, h3 => by
    have hp := List.pairwise_cons.1 h2
    unfold kcA
    rw [if_neg (by rw [h3 x (by simp), h1 x (by simp)]; simp)]
    refine kcA_mk _ r (fun y hy => h1 y (by simp [hy])) hp.2 (fun y hy => ?_)
    rw [hasK_snoc, h3 y (by simp [hy]), Bool.false_or]
    have := hp.1 y hy
    simp only [Bool.and_eq_false_iff, decide_eq_false_iff_not]
    by_cases hc : x.c = y.c
    · exact .inr fun hn => this ⟨hc, hn⟩
    · exact .inl hc
theorem may_b {x : Kl} (h : mayK x = true) : 0 ≤ x.b ∧ -1 ≤ x.e ∧ (0 ≤ x.e → x.b ≤ x.e) := by
  unfold mayK at h
  simp only [Bool.and_eq_true, Bool.or_eq_true, decide_eq_true_eq] at h
  obtain ⟨_, h1, h2 | h2⟩ := h
  · exact ⟨h1, by omega, by omega⟩
  · exact ⟨h1, by omega, by omega⟩
theorem may_ct {x : Kl} (h : mayK x = true) (r : Int) : mayK (ctK r x) = true := by
  unfold ctK
  split
  · unfold mayK at *
    simp only [Bool.and_eq_true, Bool.or_eq_true, decide_eq_true_eq] at *
    exact ⟨h.1, h.2.1, .inl ⟨trivial, rfl⟩⟩
  · exact h
theorem ctK_c (r : Int) (x : Kl) : (ctK r x).c = x.c ∧ (ctK r x).n = x.n := by unfold ctK; split <;> exact ⟨rfl, rfl⟩
theorem upR_mem {l : List Kl} {r : Int} {y : Kl} (h : y ∈ upR l r) : ∃ x ∈ l, ¬ r < x.b ∧ y = ctK r x := by
  obtain ⟨x, hx, hy⟩ := List.mem_filterMap.1 h
  split at hy
  · cases hy
  · rename_i hb
    exact ⟨x, hx, hb, (Option.some.inj hy).symm⟩
theorem kchk_upR {l : List Kl} (h : kchk l = 0) (r : Int) : kchk (upR l r) = 0 := by
  obtain ⟨h1, h2, h3⟩ := kcA_ok [] l h
  refine kcA_mk [] _ (fun y hy => ?_) ?_ (fun y hy => rfl)
  · obtain ⟨x, hx, _, rfl⟩ := upR_mem hy
    exact may_ct (h1 x hx) r
  · unfold upR
    refine List.Pairwise.filterMap _ (fun a a' hR b hb b' hb' => ?_) h2
    have e1 : ∀ {z : Kl} {w : Kl}, (if r < z.b then none else some (ctK r z)) = some w → w = ctK r z := fun {z w} hz => by
      split at hz
      · cases hz
      · exact (Option.some.inj hz).symm
    rw [e1 hb, e1 hb', (ctK_c r a).1, (ctK_c r a).2, (ctK_c r a').1, (ctK_c r a').2]
    exact hR
theorem ctK_same {e : Int} {x : Kl} (h : x.e ≤ e) : ctK e x = x := by unfold ctK; rw [if_neg (by omega)]
/-- Calls that were asked behind all answers take no witness away. -/
theorem wit_dn (l : List Kl) (e : Int) (h8 : l.length ≤ 8) (hall : ∀ x ∈ l, x.e ≤ e) (hbe : ∀ x ∈ l, ansK x = true → x.b ≤ x.e) : ∀ (o : List Nat) (D' : List Bool) (L : List Cl), Wit (upR l e) D' L o → ∀ D, D.length = 8 → RelD l e D D' → ∃ o', Wit l D L o' := by
  intro o
  have key : ∀ {i : Nat} {x : Kl}, l[i]? = some x → ansK x = true → ¬ e < x.b := fun {i x} hx ha => by
    have hm := List.mem_of_getElem? hx
    have := hall x hm
    have := hbe x hm ha
    omega
  induction o with
  | nil =>
    intro D' L h D hD hR
    refine ⟨[], .nil ?_⟩
    · rw [Wit] at h
      cases hl : lckK l D with
      | false => rfl
      | true =>
        obtain ⟨i, x, hx, ha, hn⟩ := (lck_iff _ _).1 hl
        have hb := key hx ha
        have hu := ixR_at hx hb
        rw [ctK_same (hall x (List.mem_of_getElem? hx))] at hu
        have := (lck_iff (upR l e) D').2 ⟨_, x, hu, ha, by rw [hR.eq i x hx hb]; exact hn⟩
        rw [h] at this
        cases this
  | cons q o ih =>
    intro D' L h D hD hR
    · rw [Wit] at h
      obtain ⟨y, hy, hny, hw⟩ := h
      obtain ⟨i, x, hx, hxb, hi, rfl⟩ := ixR_back hy
      have hxe := ctK_same (hall x (List.mem_of_getElem? hx))
      rw [hxe] at hy hny hw
      subst hi
      have hn2 := hny
      unfold nxtK at hn2
      simp only [Bool.and_eq_true, Bool.not_eq_true', Bool.or_eq_false_iff] at hn2
      obtain ⟨⟨hq0, hoff⟩, hlate⟩ := hn2
      have hil := (List.getElem?_eq_some_iff.1 hx).1
      have hul := (List.getElem?_eq_some_iff.1 hy).1
      have hup := upR_len l e
      have hR2 : RelD l e (D.set i true) (D'.set (ixR l e i) true) := ⟨by simp [hR.len], fun i' x' hx' hb' => by
        rw [at9_set8 _ _ _ (by rw [hR.len]; omega), at9_set8 _ _ _ (by omega), hR.eq i' x' hx' hb']
        congr 1
        by_cases hc : i = i'
        · subst hc; simp
        · have : ixR l e i ≠ ixR l e i' := fun hcc => by
            rcases Nat.lt_or_gt_of_ne hc with h | h
            · have := ixR_lt hx hxb h; omega
            · have := ixR_lt hx' hb' h; omega
          simp [hc, this]⟩
      obtain ⟨o', ho'⟩ := ih _ _ hw _ (by simp [hD]) hR2
      refine ⟨i :: o', .cons hx ?_ ho'⟩
      unfold nxtK
      have h1 : at9 D i = false := by rw [← hR.eq i x hx hxb]; exact hq0
      have h3 : lateK l D x = false := by
        cases hll : lateK l D x with
        | false => rfl
        | true =>
          obtain ⟨j2, _, z, hz, hza, hn3, hlt⟩ := (late_iff _ _ _).1 hll
          have hzb := key hz hza
          have hzu := ixR_at hz hzb
          rw [ctK_same (hall z (List.mem_of_getElem? hz))] at hzu
          have := (late_iff (upR l e) D' x).2 ⟨_, (List.getElem?_eq_some_iff.1 hzu).1, z, hzu, hza, by rw [hR.eq j2 z hz hzb]; exact hn3, hlt⟩
          rw [hlate] at this
          cases this
      rw [h1, hoff, h3]
      rfl
theorem lst_dn (l : List Kl) (e : Int) (h8 : l.length ≤ 8) (hall : ∀ x ∈ l, x.e ≤ e) (hbe : ∀ x ∈ l, ansK x = true → x.b ≤ x.e) (h : (lst (upR l e)).isSome = true) : (lst l).isSome = true := by
  obtain ⟨s, hs⟩ := Option.isSome_iff_exists.1 h
  obtain ⟨o, ho⟩ := wit_dn l e h8 hall hbe s _ _ (sr_wit _ _ _ _ s hs) D0 rfl ⟨rfl, fun i x _ _ => by rw [at9_D0, at9_D0]⟩
  exact wit_lst l h8 ho
theorem lst_none (l : List Kl) (h8 : l.length ≤ 8) (h : ∀ x ∈ l, ansK x = false) : (lst l).isSome = true := by
  refine wit_lst l h8 (o := []) (.nil ?_)
  cases hl : lckK l D0 with
  | false => rfl
  | true =>
    obtain ⟨i, x, hx, ha, _⟩ := (lck_iff _ _).1 hl
    rw [h x (List.mem_of_getElem? hx)] at ha
    cases ha
theorem upR_upR (l : List Kl) {E r : Int} (h : E ≤ r) (hE : -1 ≤ E) : upR (upR l r) E = upR l E := by
  unfold upR
  rw [List.filterMap_filterMap]
  congr 1
  funext x
  by_cases h1 : r < x.b
  · rw [if_pos h1, if_pos (by omega)]
    rfl
  · rw [if_neg h1, Option.bind_some, ctK_b]
    by_cases h2 : E < x.b
    · rw [if_pos h2, if_pos h2]
    · rw [if_neg h2, if_neg h2]
      congr 1
      by_cases h3 : r < x.e
      · have e1 : ctK r x = { x with e := -1, r := (0, 0, ⟨#[]⟩) } := by unfold ctK; rw [if_pos h3]
        have e2 : ctK E x = { x with e := -1, r := (0, 0, ⟨#[]⟩) } := by unfold ctK; rw [if_pos (by omega)]
        rw [e1, e2]
        exact ctK_same hE
      · rw [ctK_same (show x.e ≤ r by omega)]
/-- Between two rows with no answer between them. -/
theorem lst_btw (l : List Kl) {E r : Int} (h8 : l.length ≤ 8) (hk : kchk l = 0) (hEr : E ≤ r) (hE : -1 ≤ E) (hno : ∀ x ∈ l, ansK x = true → x.e ≤ r → x.e ≤ E) (h : (lst (upR l E)).isSome = true) : (lst (upR l r)).isSome = true := by
  obtain ⟨h1, _, _⟩ := kcA_ok [] l hk
  have h2 : ∀ y ∈ upR l r, y.e ≤ E ∧ (ansK y = true → y.b ≤ y.e) := fun y hy => by
    obtain ⟨x, hx, _, rfl⟩ := upR_mem hy
    have hb := may_b (h1 x hx)
    have hb2 := may_b (may_ct (h1 x hx) r)
    refine ⟨?_, fun ha => hb2.2.2 (of_decide_eq_true ha)⟩
    by_cases h3 : r < x.e
    · unfold ctK
      rw [if_pos h3]
      exact hE
    · rw [ctK_same (by omega)]
      by_cases h4 : 0 ≤ x.e
      · exact hno x hx (decide_eq_true h4) (by omega)
      · omega
  refine lst_dn (upR l r) E (Nat.le_trans (upR_len l r) h8) (fun y hy => (h2 y hy).1) (fun y hy => (h2 y hy).2) ?_
  rw [upR_upR l hEr hE]
  exact h
theorem max_end : ∀ (l : List Kl) (p : Kl → Bool), (∀ x ∈ l, p x = false) ∨ ∃ x ∈ l, p x = true ∧ ∀ y ∈ l, p y = true → y.e ≤ x.e
  | [], p => .inl (fun x hx => by cases hx)
  | a :: t, p => by
    rcases max_end t p with h | ⟨x, hx, hp, hm⟩
    · cases ha : p a with
      | false =>
        refine .inl fun x hx => ?_
        rcases List.mem_cons.1 hx with rfl | hx
        · exact ha
        · exact h x hx
      | true =>
        refine .inr ⟨a, by simp, ha, fun y hy hpy => ?_⟩
        rcases List.mem_cons.1 hy with rfl | hy
        · exact Int.le_refl _
        · rw [h y hy] at hpy
          cases hpy
    · cases ha : p a with
      | false =>
        refine .inr ⟨x, by simp [hx], hp, fun y hy hpy => ?_⟩
        rcases List.mem_cons.1 hy with rfl | hy
        · rw [ha] at hpy
          cases hpy
        · exact hm y hy hpy
      | true =>
        by_cases hxa : a.e ≤ x.e
        · refine .inr ⟨x, by simp [hx], hp, fun y hy hpy => ?_⟩
          rcases List.mem_cons.1 hy with rfl | hy
          · exact hxa
          · exact hm y hy hpy
        · refine .inr ⟨a, by simp, ha, fun y hy hpy => ?_⟩
          rcases List.mem_cons.1 hy with rfl | hy
          · exact Int.le_refl _
          · have := hm y hy hpy
            omega
/-- Up to a row at which, or ahead of which, all ends leave a witness. -/
theorem lst_row (l : List Kl) {r : Int} (h8 : l.length ≤ 8) (hk : kchk l = 0) (h : ∀ x ∈ l, ansK x = true → x.e ≤ r → badR l x.e = false) : (lst (upR l r)).isSome = true := by
  rcases max_end l (fun x => ansK x && decide (x.e ≤ r)) with hn | ⟨x, hx, hp, hm⟩
  · refine lst_none _ (Nat.le_trans (upR_len l r) h8) (fun y hy => ?_)
    obtain ⟨x, hx, _, rfl⟩ := upR_mem hy
    cases ha : ansK (ctK r x) with
    | false => rfl
    | true =>
      have := ctK_ans.1 ha
      have h2 := hn x hx
      rw [this.1, Bool.true_and, decide_eq_false_iff_not] at h2
      exact absurd this.2 h2
  · simp only [Bool.and_eq_true, decide_eq_true_eq] at hp hm
    have hb := h x hx hp.1 hp.2
    have h0 : 0 ≤ x.e := of_decide_eq_true hp.1
    refine lst_btw l h8 hk hp.2 (by omega) (fun y hy ha hr => hm y hy ⟨ha, hr⟩) ?_
    unfold badR at hb
    simpa using hb
theorem wrs_cases (l : List Kl) : (wrs l = -1 ∧ ∀ x ∈ l, ansK x = true → badR l x.e = false) ∨ (0 ≤ wrs l ∧ badR l (wrs l) = true ∧ (∃ x ∈ l, ansK x = true ∧ x.e = wrs l) ∧ ∀ x ∈ l, ansK x = true → x.e < wrs l → badR l x.e = false) := by
  cases hf : (srt8 (enL l)).find? (badR l) with
  | none =>
    refine .inl ⟨by unfold wrs; rw [hf]; rfl, fun x hx ha => ?_⟩
    have := List.find?_eq_none.1 hf x.e (srt8_mem.2 (enL_mem.2 ⟨x, hx, ha, rfl⟩))
    simpa using this
  | some r =>
    have hw : wrs l = r := by unfold wrs; rw [hf]; rfl
    obtain ⟨hr, A, C, e, has⟩ := List.find?_eq_some_iff_append.1 hf
    have hrm : r ∈ srt8 (enL l) := by rw [e]; simp
    obtain ⟨y, hy, hya, hye⟩ := enL_mem.1 (srt8_mem.1 hrm)
    rw [hw]
    refine .inr ⟨by rw [← hye]; exact of_decide_eq_true hya, hr, ⟨y, hy, hya, hye⟩, fun x hx ha hlt => ?_⟩
    have hz : x.e ∈ srt8 (enL l) := srt8_mem.2 (enL_mem.2 ⟨x, hx, ha, rfl⟩)
    have hp := srt8_pair (enL l)
    rw [e] at hz hp
    rcases List.mem_append.1 hz with hz | hz
    · have := has _ hz
      simpa using this
    · have hp2 := (List.pairwise_append.1 hp).2.1
      rcases List.mem_cons.1 hz with hz | hz
      · omega
      · have := (List.pairwise_cons.1 hp2).1 _ hz
        omega
/-- There is a worst row just when there is no witness. -/
theorem wrs_iff {l : List Kl} (h8 : l.length ≤ 8) (hk : kchk l = 0) : decide (wrs l = -1) = (lst l).isSome := by
  obtain ⟨h1, _, _⟩ := kcA_ok [] l hk
  rcases wrs_cases l with ⟨hw, hg⟩ | ⟨h0, hb, ⟨x, hx, ha, hxe⟩, _⟩
  · rw [hw]
    show true = _
    symm
    rcases max_end l ansK with hn | ⟨x, hx, hp, hm⟩
    · exact lst_none l h8 hn
    · have hgx := hg x hx hp
      have hx0 : 0 ≤ x.e := of_decide_eq_true hp
      have hall : ∀ y ∈ l, y.e ≤ x.e := fun y hy => by
        by_cases hy0 : 0 ≤ y.e
        · exact hm y hy (decide_eq_true hy0)
        · omega
      refine lst_dn l x.e h8 hall (fun y hy hya => (may_b (h1 y hy)).2.2 (of_decide_eq_true hya)) ?_
      unfold badR at hgx
      simpa using hgx
  · rw [decide_eq_false (by omega)]
    cases hl : (lst l).isSome with
    | false => rfl
    | true =>
      have := lst_upR l (wrs l) h8 hl
      unfold badR at hb
      rw [this] at hb
      cases hb
/-- What Search answers of what is cut. -/
theorem cut_good {l : List Kl} (h8 : l.length ≤ 8) (hk : kchk l = 0) {row : Int} (h0 : 0 ≤ row) (h : (lst l).isSome = true ∨ row ≤ wrs l) : (ctR l row).2 = 0 ∧ srE (ctR l row).1 = 0 ∧ (srA (ctR l row).1).isSome = true := by
  have e : ctR l row = (upR l (row - 1), 0) := by unfold ctR; rw [if_neg (by simp [hk]), if_neg (by omega)]
  have hl := upR_len l (row - 1)
  have hs : srE (upR l (row - 1)) = 0 := by unfold srE; rw [if_neg (by rw [kchk_upR hk]; simp), if_neg (by omega)]
  rw [e]
  refine ⟨rfl, hs, ?_⟩
  unfold srA
  rw [if_neg (by rw [hs]; simp)]
  rcases h with h | h
  · exact lst_upR l _ h8 h
  · refine lst_row l h8 hk (fun x hx ha hr => ?_)
    rcases wrs_cases l with ⟨hw, hg⟩ | ⟨_, _, _, hg⟩
    · exact hg x hx ha
    · exact hg x hx ha (by omega)

end Go.Proofs.Ytidfcflcjkbeeaa
