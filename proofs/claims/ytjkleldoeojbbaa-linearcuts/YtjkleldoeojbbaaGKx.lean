import Derived.Test.YtjkleldoeojbbaaGKz
import Derived.Shelf.Lay
import Derived.Shelf.Sort.Plain
import Derived.Shelf.Slices.In.SortNone
import Derived.Sort.OwnSortedInts
import Derived.Ground.NamesProg
namespace Go.Proofs.Ytjkleldoeojbbaa
open Go.RowKit Go.Maps
open Classical
set_option linter.unusedVariables false
set_option linter.unusedSimpArgs false

/-- A call as it stands at a row: unanswered if its answer comes behind. -/
def ctK (r : Int) (x : Kl) : Kl := if r < x.e then { x with e := -1, r := (0, 0, ⟨#[]⟩) } else x
/-- What of a history there is up to a row. -/
def upR (l : List Kl) (r : Int) : List Kl := l.filterMap fun x => if r < x.b then none else some (ctK r x)
theorem upR_len (l : List Kl) (r : Int) : (upR l r).length ≤ l.length := List.length_filterMap_le _ _
theorem upR_at {l : List Kl} {r : Int} {j : Nat} {x : Kl} (h : l[j]? = some x) : upR (l.take (j + 1)) r = upR (l.take j) r ++ (if r < x.b then [] else [ctK r x]) := by
  obtain ⟨hj, rfl⟩ := List.getElem?_eq_some_iff.1 h
  unfold upR
  rw [List.take_succ_eq_append_getElem hj, List.filterMap_append]
  congr 1
  by_cases h : r < l[j].b <;> simp [h]
theorem ctK_fits {r : Int} {x : Kl} (h : x.fits) : (ctK r x).fits := by
  unfold ctK
  split
  · exact ⟨h.cw, h.nw, h.ow, h.bw, (by show (Lit.int .i64 (-1)).wf = true; decide), by show (⟨#[]⟩ : ByteArray).size ≤ maxLen; unfold maxLen; decide⟩
  · exact h
theorem upR_fits {l : List Kl} {r : Int} (h : ∀ x ∈ l, x.fits) : ∀ x ∈ upR l r, x.fits := by
  intro x hx
  unfold upR at hx
  obtain ⟨y, hy, e⟩ := List.mem_filterMap.1 hx
  split at e
  · cases e
  · cases e; exact ctK_fits (h y hy)
def ctR (l : List Kl) (row : Int) : List Kl × Int := if kchk l ≠ 0 then ([], 180) else if row < 0 then ([], 3) else (upR l (row - 1), 0)
theorem bsK18 (x : Kl) (w : World) : (Instr.buildSlice 24 1 #[(0, x.val)]).run Try.prog w = .ok (.slice (some ⟨w.heap.size, 0, none⟩) 1 1) (w.alloc (.cells x.cs.toArray 66)) := by unfold Kl.val Kl.cs; go_simp
theorem BB.stR8 {w : World} {q : Nat} {T : TypeId} {x : Kl} (h : BB w q T x.cs) : (Instr.storeAt 64 (.pointer (some ⟨q, 7, none⟩)) (.agg #[.int .i64 0, .int .i64 0, .string ⟨#[]⟩])).run Try.prog w = .ok () (w.setCells q 7 [.int .i64 0, .int .i64 0, .string ⟨#[]⟩]) :=
  run_storeAt_mid (P := Try.prog) w q 7 64 #[.int .i64 0, .int .i64 0, .string ⟨#[]⟩] (fun j hj => ⟨by
    rw [h.cell]
    match j, hj with
    | 0, _ => rfl
    | 1, _ => rfl
    | 2, _ => rfl
    | j + 3, hj => simp at hj; omega, h.free _⟩) info3r (by
    rw [Array.all_eq_true_iff_forall_mem]
    intro u hu
    simp only [List.mem_toArray, List.mem_cons, List.not_mem_nil, or_false] at hu
    rcases hu with rfl | rfl | rfl <;> rfl)
theorem BB.cut8 {w : World} {q : Nat} {T : TypeId} {x : Kl} (h : BB w q T x.cs) : BB ((w.setCell ⟨q, 6, none⟩ (.int .i64 (-1))).setCells q 7 [.int .i64 0, .int .i64 0, .string ⟨#[]⟩]) q T ({ x with e := -1, r := (0, 0, ⟨#[]⟩) } : Kl).cs :=
  (((h.set1 6 (.int .i64 (-1))).set1 7 (.int .i64 0)).set1 8 (.int .i64 0)).set1 9 (.string ⟨#[]⟩)
theorem subN8 (x y : Operand) (r : Int) (h : 0 ≤ r) (h2 : r ≤ 9223372036854775807) (w : World) : (do eqGuard .sub 3 x y (.int .i64 r) (.int .i64 1); binOp .sub 3 (.int .i64 r) (.int .i64 1) : Sem Value).run Try.prog w = .ok (.int .i64 (r - 1)) w := by
  have h3 : IntKind.i64.wrap (r - 1) = r - 1 := by rw [IntKind.wrap_i64]; omega
  go_simp
set_option maxRecDepth 100000 in
set_option maxHeartbeats 2000000 in
theorem upTo18 (l : List Kl) (a : Option Addr) (c : Nat) (r : Int) (w : World) (h : SlY yK w a l.length c l) (hb96 : l.length * 96 ≤ 140737488351232) :
    Calls Try.prog 45 #[.slice a l.length c, .int .i64 r] w fun e w' => ∃ v, e = .returned v ∧ OwnY yK w.heap.size w' v (upR l r) ∧ Below w.heap.size w w' := by
  go_enter Try.func45, Try.ntmps45
  go_upto_region 0 with fail
  refine wp_region_lit ?_
  refine vl_gen (fun T => Rp T 31 [(1, gw true (.int .i64 r)), (0, gw true (.slice a l.length c))]) (((Rp.nil rfl).cons rfl).cons rfl) (fun Z0 q0 => ?_)
  refine q0.t (.slice none 0 0) (ex_assign rfl rfl) fun _ q1 => ?_;clear q0
  refine wpList_nil ?_
  go_upto_region 1 with fail
  refine wp_region_lit ?_
  refine q1.t (.slice none 0 0) (ex_assign rfl rfl) fun _ q2 => ?_;clear q1
  refine wpList_nil ?_
  go_upto_region 2 with fail
  refine wp_region_lit ?_
  refine q2.t (.slice a l.length c) (ex_move rfl (q2.e (j := 0) rfl)) fun _ q3 => ?_;clear q2
  refine q3.t (.int .i64 (l.length : Int)) (ex_len18 rfl rfl (q3.e (j := 8) rfl)) fun _ q4 => ?_;clear q3
  refine q4.t (.int .i64 ((0 : Nat) : Int)) (ex_move rfl rfl) fun _ q5 => ?_;clear q4
  have q6 := ((((((Rp.nil q5.z).cons (q5.a 1 rfl)).cons (q5.a 5 rfl)).cons (q5.a 8 rfl)).cons (q5.a 9 rfl)).cons (q5.a 10 rfl))
  clear q5
  refine wpList_nil ?_
  go_upto_region 3 with fail
  refine v_loop 10 l.length (fun j T wr => ∃ v, Rp T 31 [(10, gw true (.int .i64 (j : Int))), (9, gw true (.int .i64 (l.length : Int))), (8, gw true (.slice a l.length c)), (5, gw true v), (1, gw true (.int .i64 r))] ∧ Hid (Below w.heap.size w wr ∧ OwnY yK w.heap.size wr v (upR (l.take j) (r)))) (fun j T w h => by obtain ⟨v, h, _⟩ := h; exact h.a 10 rfl) ⟨_, q6, Below.refl _ _, OwnY.nil _ _ _⟩ ?_
  clear q6
  intro j T wr hj hh
  obtain ⟨v, q100, HJ⟩ := hh
  obtain ⟨br, hO⟩ := HJ.out
  clear HJ
  have zr := br.size
  by_cases hit : j < l.length
  · obtain ⟨x, hx⟩ : ∃ x, l[j]? = some x := ⟨_, List.getElem?_eq_getElem hit⟩
    obtain ⟨qa, oa, hqa, hqal, hlie⟩ := (h.on br (Nat.le_refl _)).place (by rintro rfl; simp at hit)
    have hua := upR_at (r := r) hx
    have hul := upR_len (l.take j) (r)
    rw [List.length_take] at hul
    go_upto_region 3 with fail
    refine wp_region_lit ?_
    refine q100.t (.bool true) (ex_bin rfl (q100.e (j := 10) rfl) (q100.e (j := 9) rfl) (ltT _ _ hit _)) fun _ q101 => ?_;clear q100
    refine wpList_nil ?_
    go_upto_region 4 with fail
    refine wp_cond_true (q101.e (j := 11) rfl) ?_
    go_upto_region 4 with fail
    refine wp_region_lit ?_
    refine q101.t (.pointer (some ⟨qa, oa + j * 10, none⟩)) (ex_ix rfl (q101.e (j := 8) rfl) (q101.e (j := 10) rfl) (by rw [hqa]; exact ixK qa oa l.length c j hit _)) fun _ q102 => ?_;clear q101
    refine q102.t (x.val) (ex_ld rfl (q102.e (j := 12) rfl) (ldEl hlie hx)) fun _ q103 => ?_;clear q102
    obtain ⟨r1, hr1⟩ : ∃ y, y = wr.alloc (.cells zK.cs.toArray 66) := ⟨_, rfl⟩
    refine vw (.pointer (some ⟨wr.heap.size, 0, none⟩)) r1 (want_none rfl) (ex_al rfl (by rw [hr1]; exact alK _)) rfl q103.z (by decide) (q103.k fun _ q104 => ?_);clear q103
    have Bz : BB r1 wr.heap.size 66 zK.cs := by rw [hr1]; exact BB.new _ _ _
    have hr1b : Below wr.heap.size wr r1 := by rw [hr1]; exact (Below.refl _ _).alloc (Nat.le_refl _) _
    clear hr1
    obtain ⟨r2, hr2⟩ : ∃ y, y = r1.setCells wr.heap.size 0 x.cs := ⟨_, rfl⟩
    refine vs r2 (want_none rfl) (ex_st rfl (q104.e (j := 7) rfl) (q104.e (j := 13) rfl) (by rw [hr2]; exact Bz.stK)) rfl ?_
    have B13 : BB r2 wr.heap.size 66 x.cs := by rw [hr2]; exact Bz.whole _ rfl
    have hr2b : Below wr.heap.size wr r2 := by rw [hr2]; exact hr1b.trans (bel_ge (upd18 _ _ _ _) hr1b.size (Nat.le_refl _))
    clear hr2 Bz hr1b
    have y2 := hr2b.size
    have hl2 := B13.lt
    have O2 := hO.grow hr2b
    have bw2 : Below w.heap.size w r2 := br.trans (hr2b.mono zr)
    refine wpList_nil ?_
    go_upto_region 5 with fail
    refine wp_region_lit ?_
    refine q104.t (.pointer (some ⟨wr.heap.size, 5, none⟩)) (ex_fa rfl (q104.e (j := 7) rfl) (faK3 _ _)) fun _ q105 => ?_;clear q104
    refine q105.t (.int .i64 x.b) (ex_ld rfl (q105.e (j := 14) rfl) (ldI18 ((B13.cell 5).trans rfl))) fun _ q106 => ?_;clear q105
    refine q106.t (.int .i64 r) (ex_move rfl (q106.e (j := 1) rfl)) fun _ q107 => ?_;clear q106
    refine q107.t (.bool (decide (r < x.b))) (ex_bin rfl (q107.e (j := 15) rfl) (q107.e (j := 16) rfl) (gtrC _ _ _ _ _)) fun _ q108 => ?_;clear q107
    have q109 := ((((((((Rp.nil q108.z).cons (q108.a 1 rfl)).cons (q108.a 5 rfl)).cons (q108.a 7 rfl)).cons (q108.a 8 rfl)).cons (q108.a 9 rfl)).cons (q108.a 10 rfl)).cons (q108.a 17 rfl))
    clear q108
    refine wpList_nil ?_
    by_cases hb : r < x.b
    · have q109x := q109.a 17 rfl
      rw [decide_eq_true (by omega)] at q109x
      rw [if_pos hb, List.append_nil] at hua
      go_upto_region 9 with fail
      refine wp_cond_true (ev q109x rfl) ?_
      clear q109x
      go_upto_region 9 with fail
      refine wp_region_lit ?_
      refine q109.t (.int .i64 ((j + 1 : Nat) : Int)) (ex_bin rfl (q109.e (j := 10) rfl) rfl (add1C _ _ j (by omega) _)) fun _ q110 => ?_;clear q109
      refine q110.t (.int .i64 ((j + 1 : Nat) : Int)) (ex_move rfl (q110.e (j := 29) rfl)) fun _ q111 => ?_;clear q110
      have q112 := ((((((Rp.nil q111.z).cons (q111.a 1 rfl)).cons (q111.a 5 rfl)).cons (q111.a 8 rfl)).cons (q111.a 9 rfl)).cons (q111.a 10 rfl))
      clear q111
      refine wpList_nil ?_
      exact ⟨_, rfl, hit, _, q112, bw2, by rw [hua]; exact O2⟩
    · have q109x := q109.a 17 rfl
      rw [decide_eq_false (by omega)] at q109x
      rw [if_neg hb] at hua
      go_upto_region 6 with fail
      refine wp_cond_false (ev q109x rfl) ?_
      clear q109x
      go_upto_region 6 with fail
      refine wp_region_lit ?_
      refine q109.t (.pointer (some ⟨wr.heap.size, 6, none⟩)) (ex_fa rfl (q109.e (j := 7) rfl) (faK4 _ _)) fun _ q110 => ?_;clear q109
      refine q110.t (.int .i64 x.e) (ex_ld rfl (q110.e (j := 18) rfl) (ldI18 ((B13.cell 6).trans rfl))) fun _ q111 => ?_;clear q110
      refine q111.t (.int .i64 r) (ex_move rfl (q111.e (j := 1) rfl)) fun _ q112 => ?_;clear q111
      refine q112.t (.bool (decide (r < x.e))) (ex_bin rfl (q112.e (j := 19) rfl) (q112.e (j := 20) rfl) (gtrC _ _ _ _ _)) fun _ q113 => ?_;clear q112
      have q114 := ((((((((Rp.nil q113.z).cons (q113.a 1 rfl)).cons (q113.a 5 rfl)).cons (q113.a 7 rfl)).cons (q113.a 8 rfl)).cons (q113.a 9 rfl)).cons (q113.a 10 rfl)).cons (q113.a 21 rfl))
      clear q113
      refine wpList_nil ?_
      by_cases he : r < x.e
      · have q114x := q114.a 21 rfl
        rw [decide_eq_true (by omega)] at q114x
        have hct : ctK (r) x = (({ x with e := -1, r := (0, 0, ⟨#[]⟩) } : Kl)) := by unfold ctK; rw [if_pos he]
        go_upto_region 7 with fail
        refine wp_cond_true (ev q114x rfl) ?_
        clear q114x
        go_upto_region 7 with fail
        refine wp_region_lit ?_
        obtain ⟨r3, hr3⟩ : ∃ y, y = r2.setCell ⟨wr.heap.size, 6, none⟩ (.int .i64 (-1)) := ⟨_, rfl⟩
        have B14 : BB r3 wr.heap.size 66 ({ x with e := -1 } : Kl).cs := by rw [hr3]; exact B13.set1 6 _
        refine q114.t (.agg #[.int .i64 0, .int .i64 0, .string ⟨#[]⟩]) (ex_build rfl (bdRs18 _)) fun _ q115 => ?_;clear q114
        refine q115.t (.pointer (some ⟨wr.heap.size, 6, none⟩)) (ex_fa rfl (q115.e (j := 7) rfl) (faK4 _ _)) fun _ q116 => ?_;clear q115
        refine vs r3 (want_none rfl) (ex_st rfl (q116.e (j := 23) rfl) rfl (by rw [hr3]; exact stI18 ((B13.cell 6).trans rfl) (B13.free 6))) rfl ?_
        refine q116.t (.pointer (some ⟨wr.heap.size, 7, none⟩)) (ex_fa rfl (q116.e (j := 7) rfl) (faK5 _ _)) fun _ q117 => ?_;clear q116
        obtain ⟨r4, hr4⟩ : ∃ y, y = r3.setCells wr.heap.size 7 [.int .i64 0, .int .i64 0, .string ⟨#[]⟩] := ⟨_, rfl⟩
        refine vs r4 (want_none rfl) (ex_st rfl (q117.e (j := 24) rfl) (q117.e (j := 22) rfl) (by rw [hr4]; exact B14.stR8)) rfl ?_
        have B15 : BB r4 wr.heap.size 66 (({ x with e := -1, r := (0, 0, ⟨#[]⟩) } : Kl)).cs := by rw [hr4, hr3]; exact B13.cut8
        have u4 : Upd (fun k => k = wr.heap.size) r2 r4 := by rw [hr4, hr3]; exact ((Upd.refl (fun k => k = wr.heap.size) _).setCell (p := ⟨wr.heap.size, 6, none⟩) (.inl rfl) _).trans (upd18 _ _ _ _)
        clear hr3 hr4 B14
        have bw4 : Below w.heap.size w r4 := bw2.trans (bel_ge u4 (by omega) (by omega))
        have O4 := O2.upd1 u4 (fun g hg => by have := hO.blk g hg; omega)
        have y4 := u4.size
        refine wpList_nil ?_
        go_upto_region 8 with fail
        refine wp_region_lit ?_
        refine q117.t (v) (ex_move rfl (q117.e (j := 5) rfl)) fun _ q118 => ?_;clear q117
        refine q118.t ((({ x with e := -1, r := (0, 0, ⟨#[]⟩) } : Kl)).val) (ex_ld rfl (q118.e (j := 7) rfl) B15.ldK) fun _ q119 => ?_;clear q118
        obtain ⟨r5, hr5⟩ : ∃ z, z = r4.alloc (.cells (({ x with e := -1, r := (0, 0, ⟨#[]⟩) } : Kl)).cs.toArray 66) := ⟨_, rfl⟩
        refine vw (.slice (some ⟨r4.heap.size, 0, none⟩) 1 1) r5 (want_none rfl) (ex_bs18 rfl (q119.e (j := 26) rfl) (by rw [hr5]; exact bsK18 _ _)) rfl q119.z (by decide) (q119.k fun _ q120 => ?_);clear q119
        have s5 : SlY yK r5 (some ⟨r4.heap.size, 0, none⟩) 1 1 [({ x with e := -1, r := (0, 0, ⟨#[]⟩) } : Kl)] := by rw [hr5]; exact sl_box (Y := yK) r4 (({ x with e := -1, r := (0, 0, ⟨#[]⟩) } : Kl)) 66
        have b5 : Below r4.heap.size r4 r5 := by rw [hr5]; exact (Below.refl _ _).alloc (Nat.le_refl _) _
        clear hr5
        have y5 := b5.size
        have zz := bw4.size
        obtain ⟨v6, r6, ha6, o6, g6, _⟩ := run_appY kK r5 24 w.heap.size _ v _ 1 1 [({ x with e := -1, r := (0, 0, ⟨#[]⟩) } : Kl)] s5 (O4.grow b5) (by omega) (by unfold maxLen; omega) (by show ((upR (l.take j) (r)).length + 1) * 96 ≤ _; omega)
        have b6 : Below w.heap.size w r6 := (bw4.trans (b5.mono (by omega))).grown g6 (by omega) (fun k hk => (O4.blk k hk).1)
        refine vw (v6) r6 (want_none rfl) (ex_app18 rfl (q120.e (j := 25) rfl) (q120.e (j := 27) rfl) ha6) rfl q120.z (by decide) (q120.k fun _ q121 => ?_);clear q120
        refine q121.t (v6) (ex_assign rfl (q121.e (j := 28) rfl)) fun _ q122 => ?_;clear q121
        refine wpList_nil ?_
        go_upto_region 9 with fail
        refine wp_region_lit ?_
        refine q122.t (.int .i64 ((j + 1 : Nat) : Int)) (ex_bin rfl (q122.e (j := 10) rfl) rfl (add1C _ _ j (by omega) _)) fun _ q123 => ?_;clear q122
        refine q123.t (.int .i64 ((j + 1 : Nat) : Int)) (ex_move rfl (q123.e (j := 29) rfl)) fun _ q124 => ?_;clear q123
        have q125 := ((((((Rp.nil q124.z).cons (q124.a 1 rfl)).cons (q124.a 5 rfl)).cons (q124.a 8 rfl)).cons (q124.a 9 rfl)).cons (q124.a 10 rfl))
        clear q124
        refine wpList_nil ?_
        exact ⟨_, rfl, hit, v6, q125, b6, by rw [hua, hct]; exact o6⟩
      · have q114x := q114.a 21 rfl
        rw [decide_eq_false (by omega)] at q114x
        have hct : ctK (r) x = x := by unfold ctK; rw [if_neg he]
        go_upto_region 8 with fail
        refine wp_cond_false (ev q114x rfl) ?_
        clear q114x
        go_upto_region 8 with fail
        refine wp_region_lit ?_
        refine q114.t (v) (ex_move rfl (q114.e (j := 5) rfl)) fun _ q115 => ?_;clear q114
        refine q115.t ((x).val) (ex_ld rfl (q115.e (j := 7) rfl) B13.ldK) fun _ q116 => ?_;clear q115
        obtain ⟨r5, hr5⟩ : ∃ z, z = r2.alloc (.cells (x).cs.toArray 66) := ⟨_, rfl⟩
        refine vw (.slice (some ⟨r2.heap.size, 0, none⟩) 1 1) r5 (want_none rfl) (ex_bs18 rfl (q116.e (j := 26) rfl) (by rw [hr5]; exact bsK18 _ _)) rfl q116.z (by decide) (q116.k fun _ q117 => ?_);clear q116
        have s5 : SlY yK r5 (some ⟨r2.heap.size, 0, none⟩) 1 1 [x] := by rw [hr5]; exact sl_box (Y := yK) r2 (x) 66
        have b5 : Below r2.heap.size r2 r5 := by rw [hr5]; exact (Below.refl _ _).alloc (Nat.le_refl _) _
        clear hr5
        have y5 := b5.size
        have zz := bw2.size
        obtain ⟨v6, r6, ha6, o6, g6, _⟩ := run_appY kK r5 24 w.heap.size _ v _ 1 1 [x] s5 (O2.grow b5) (by omega) (by unfold maxLen; omega) (by show ((upR (l.take j) (r)).length + 1) * 96 ≤ _; omega)
        have b6 : Below w.heap.size w r6 := (bw2.trans (b5.mono (by omega))).grown g6 (by omega) (fun k hk => (O2.blk k hk).1)
        refine vw (v6) r6 (want_none rfl) (ex_app18 rfl (q117.e (j := 25) rfl) (q117.e (j := 27) rfl) ha6) rfl q117.z (by decide) (q117.k fun _ q118 => ?_);clear q117
        refine q118.t (v6) (ex_assign rfl (q118.e (j := 28) rfl)) fun _ q119 => ?_;clear q118
        refine wpList_nil ?_
        go_upto_region 9 with fail
        refine wp_region_lit ?_
        refine q119.t (.int .i64 ((j + 1 : Nat) : Int)) (ex_bin rfl (q119.e (j := 10) rfl) rfl (add1C _ _ j (by omega) _)) fun _ q120 => ?_;clear q119
        refine q120.t (.int .i64 ((j + 1 : Nat) : Int)) (ex_move rfl (q120.e (j := 29) rfl)) fun _ q121 => ?_;clear q120
        have q122 := ((((((Rp.nil q121.z).cons (q121.a 1 rfl)).cons (q121.a 5 rfl)).cons (q121.a 8 rfl)).cons (q121.a 9 rfl)).cons (q121.a 10 rfl))
        clear q121
        refine wpList_nil ?_
        exact ⟨_, rfl, hit, v6, q122, b6, by rw [hua, hct]; exact o6⟩
  · obtain rfl : j = l.length := by omega
    rw [List.take_length] at hO
    go_upto_region 3 with fail
    refine wp_region_lit ?_
    refine q100.t (.bool false) (ex_bin rfl (q100.e (j := 10) rfl) (q100.e (j := 9) rfl) (ltF _ _ hit _)) fun _ q101 => ?_;clear q100
    refine wpList_nil ?_
    go_upto_region 10 with fail
    refine wp_cond_false (q101.e (j := 11) rfl) ?_
    go_upto_region 10 with fail
    refine wp_region_lit ?_
    refine q101.t (v) (ex_move rfl (q101.e (j := 5) rfl)) fun _ q102 => ?_;clear q101
    refine q102.t (v) (ex_assign rfl (q102.e (j := 30) rfl)) fun _ q103 => ?_;clear q102
    refine wpList_nil ?_
    go_wp2
    refine bodyPost_ret (results_tmp rfl _ _ _) rfl ⟨v, ?_, hO, br⟩
    rw [getD_of (q103.a 4 rfl)]
    rfl
set_option maxRecDepth 100000 in
set_option maxHeartbeats 2000000 in
theorem cut18 (l : List Kl) (a : Option Addr) (c : Nat) (r : Int) (w : World) (h : SlY yK w a l.length c l) (hfx : ∀ x ∈ l, x.fits) (hb96 : l.length * 96 ≤ 140737488351232) (hrw : r ≤ 9223372036854775807) :
    Calls Try.prog 16 #[.slice a l.length c, .int .i64 r] w fun e w' => ∃ v, e = .returned (.tuple #[v, .int .i64 (ctR l r).2]) ∧ OwnY yK w.heap.size w' v (ctR l r).1 ∧ Below w.heap.size w w' := by
  go_enter Try.func16, Try.ntmps16
  go_upto_region 0 with fail
  refine wp_region_lit ?_
  refine vl_gen (fun T => Rp T 18 [(1, gw true (.int .i64 r)), (0, gw true (.slice a l.length c))]) (((Rp.nil rfl).cons rfl).cons rfl) (fun Z0 q0 => ?_)
  refine q0.t (.slice none 0 0) (ex_assign rfl rfl) fun _ q1 => ?_;clear q0
  refine q1.t (.int .i64 0) (ex_assign rfl rfl) fun _ q2 => ?_;clear q1
  refine wpList_nil ?_
  go_upto_region 1 with fail
  refine wp_region_lit ?_
  refine q2.t (.slice a l.length c) (ex_move rfl (q2.e (j := 0) rfl)) fun _ q3 => ?_;clear q2
  refine vcallP (want_none rfl) (ex_call rfl (by simp only [List.map_toArray, List.map_cons, List.map_nil, (q3.e (j := 7) rfl), evc] <;> rfl) rfl) (check18_any l a c w h hfx) rfl q3.z (by decide) ?_
  rintro e w1 ⟨rfl, b1⟩
  refine ⟨_, rfl, q3.k fun _ q4 => ?_⟩;clear q3
  have z1 := b1.size
  refine q4.t (.int .i64 (kchk l : Int)) (ex_assign rfl (q4.e (j := 8) rfl)) fun _ q5 => ?_;clear q4
  refine wpList_nil ?_
  go_upto_region 2 with fail
  refine wp_region_lit ?_
  refine q5.t (.int .i64 (kchk l : Int)) (ex_move rfl (q5.e (j := 6) rfl)) fun _ q6 => ?_;clear q5
  refine q6.t (.bool (!decide (kchk l = 0))) (ex_bin rfl (q6.e (j := 9) rfl) rfl (neqE18 _ _ _ _ _)) fun _ q7 => ?_;clear q6
  have q8 := (((((Rp.nil q7.z).cons (q7.a 0 rfl)).cons (q7.a 1 rfl)).cons (q7.a 6 rfl)).cons (q7.a 10 rfl))
  clear q7
  refine wpList_nil ?_
  by_cases hk : kchk l = 0
  · have q8x := q8.a 10 rfl
    rw [hk] at q8x
    go_upto_region 4 with fail
    refine wp_cond_false (ev q8x rfl) ?_
    clear q8x
    go_upto_region 4 with fail
    refine wp_region_lit ?_
    refine q8.t (.int .i64 r) (ex_move rfl (q8.e (j := 1) rfl)) fun _ q9 => ?_;clear q8
    refine q9.t (.bool (decide (r < 0))) (ex_bin rfl (q9.e (j := 12) rfl) rfl (lssC _ _ _ _ _)) fun _ q10 => ?_;clear q9
    have q11 := ((((Rp.nil q10.z).cons (q10.a 0 rfl)).cons (q10.a 1 rfl)).cons (q10.a 13 rfl))
    clear q10
    refine wpList_nil ?_
    by_cases hr : r < 0
    · have q11x := q11.a 13 rfl
      rw [decide_eq_true hr] at q11x
      have hE : ctR l r = ([], 3) := by unfold ctR; rw [if_neg (by simp [hk]), if_pos hr]
      go_upto_region 5 with fail
      refine wp_cond_true (ev q11x rfl) ?_
      go_upto_region 5 with fail
      refine wp_region_lit ?_
      refine q11.t (.slice none 0 0) (ex_assign rfl rfl) fun _ q12 => ?_;clear q11
      refine q12.t (.int .i64 3) (ex_assign rfl rfl) fun _ q13 => ?_;clear q12
      refine wpList_nil ?_
      go_wp2
      exact bodyPost_ret (results2_18 rfl (q13.a 4 rfl) (q13.a 5 rfl)) rfl ⟨_, by rw [hE], by rw [hE]; exact OwnY.nil _ _ _, b1⟩
    · have q11x := q11.a 13 rfl
      rw [decide_eq_false hr] at q11x
      have hE : ctR l r = (upR l (r - 1), 0) := by unfold ctR; rw [if_neg (by simp [hk]), if_neg hr]
      go_upto_region 6 with fail
      refine wp_cond_false (ev q11x rfl) ?_
      clear q11x
      go_upto_region 6 with fail
      refine wp_region_lit ?_
      refine q11.t (.slice a l.length c) (ex_move rfl (q11.e (j := 0) rfl)) fun _ q12 => ?_;clear q11
      refine q12.t (.int .i64 r) (ex_move rfl (q12.e (j := 1) rfl)) fun _ q13 => ?_;clear q12
      refine q13.t (.int .i64 (r - 1)) (ex_bin rfl (q13.e (j := 15) rfl) rfl (subN8 _ _ r (by omega) hrw _)) fun _ q14 => ?_;clear q13
      refine vcallP (want_none rfl) (ex_call rfl (by simp only [List.map_toArray, List.map_cons, List.map_nil, (q14.e (j := 14) rfl), (q14.e (j := 16) rfl), evc] <;> rfl) rfl) (upTo18 l a c (r - 1) w1 (h.on b1 (Nat.le_refl _)) hb96) rfl q14.z (by decide) ?_
      rintro e w2 ⟨v4, rfl, o4, b2⟩
      refine ⟨_, rfl, q14.k fun _ q15 => ?_⟩;clear q14
      refine q15.t (v4) (ex_assign rfl (q15.e (j := 17) rfl)) fun _ q16 => ?_;clear q15
      refine q16.t (.int .i64 0) (ex_assign rfl rfl) fun _ q17 => ?_;clear q16
      refine wpList_nil ?_
      go_wp2
      exact bodyPost_ret (results2_18 rfl (q17.a 4 rfl) (q17.a 5 rfl)) rfl ⟨_, by rw [hE], by rw [hE]; exact o4.low z1, b1.trans (b2.mono z1)⟩
  · have hk2 : kchk l = 180 := (kcA_zero [] l).resolve_left hk
    have hE : ctR l r = ([], 180) := by unfold ctR; rw [if_pos hk]
    have q8x := q8.a 10 rfl
    rw [decide_eq_false hk] at q8x
    go_upto_region 3 with fail
    refine wp_cond_true (ev q8x rfl) ?_
    clear q8x
    go_upto_region 3 with fail
    refine wp_region_lit ?_
    refine q8.t (.int .i64 (kchk l : Int)) (ex_move rfl (q8.e (j := 6) rfl)) fun _ q9 => ?_;clear q8
    refine q9.t (.slice none 0 0) (ex_assign rfl rfl) fun _ q10 => ?_;clear q9
    refine q10.t (.int .i64 180) (ex_assign rfl ((q10.e (j := 11) rfl).trans (by rw [hk2]))) fun _ q11 => ?_;clear q10
    refine wpList_nil ?_
    go_wp2
    exact bodyPost_ret (results2_18 rfl (q11.a 4 rfl) (q11.a 5 rfl)) rfl ⟨_, by rw [hE], by rw [hE]; exact OwnY.nil _ _ _, b1⟩
set_option maxRecDepth 100000 in
set_option maxHeartbeats 2000000 in
theorem refCut18 (l : List Kl) (a : Option Addr) (c : Nat) (r : Int) (w : World) (h : SlY yK w a l.length c l) (hfx : ∀ x ∈ l, x.fits) (hb96 : l.length * 96 ≤ 140737488351232) :
    Calls Try.prog 17 #[.slice a l.length c, .int .i64 r] w fun e w' => ∃ v, e = .returned (.tuple #[v, .int .i64 (ctR l r).2]) ∧ OwnY yK w.heap.size w' v (ctR l r).1 ∧ Below w.heap.size w w' := by
  go_enter Try.func17, Try.ntmps17
  go_upto_region 0 with fail
  refine wp_region_lit ?_
  refine vl_gen (fun T => Rp T 40 [(1, gw true (.int .i64 r)), (0, gw true (.slice a l.length c))]) (((Rp.nil rfl).cons rfl).cons rfl) (fun Z0 q0 => ?_)
  refine q0.t (.slice none 0 0) (ex_assign rfl rfl) fun _ q1 => ?_;clear q0
  refine q1.t (.int .i64 0) (ex_assign rfl rfl) fun _ q2 => ?_;clear q1
  refine wpList_nil ?_
  go_upto_region 1 with fail
  refine wp_region_lit ?_
  refine q2.t (.slice a l.length c) (ex_move rfl (q2.e (j := 0) rfl)) fun _ q3 => ?_;clear q2
  refine vcallP (want_none rfl) (ex_call rfl (by simp only [List.map_toArray, List.map_cons, List.map_nil, (q3.e (j := 9) rfl), evc] <;> rfl) rfl) (refCheck18 l a c w h hfx (by omega)) rfl q3.z (by decide) ?_
  rintro e w1 ⟨rfl, b1⟩
  refine ⟨_, rfl, q3.k fun _ q4 => ?_⟩;clear q3
  have z1 := b1.size
  refine q4.t (.bool (!decide (kchk l = 0))) (ex_bin rfl (q4.e (j := 10) rfl) rfl (neqC _ _ _ _ _)) fun _ q5 => ?_;clear q4
  have q6 := ((((Rp.nil q5.z).cons (q5.a 0 rfl)).cons (q5.a 1 rfl)).cons (q5.a 11 rfl))
  clear q5
  refine wpList_nil ?_
  by_cases hk : kchk l = 0
  · have q6x := q6.a 11 rfl
    rw [hk] at q6x
    go_upto_region 3 with fail
    refine wp_cond_false (ev q6x rfl) ?_
    clear q6x
    go_upto_region 3 with fail
    refine wp_region_lit ?_
    refine q6.t (.int .i64 r) (ex_move rfl (q6.e (j := 1) rfl)) fun _ q7 => ?_;clear q6
    refine q7.t (.bool (decide (r < 0))) (ex_bin rfl (q7.e (j := 12) rfl) rfl (lssC _ _ _ _ _)) fun _ q8 => ?_;clear q7
    have q9 := ((((Rp.nil q8.z).cons (q8.a 0 rfl)).cons (q8.a 1 rfl)).cons (q8.a 13 rfl))
    clear q8
    refine wpList_nil ?_
    by_cases hr : r < 0
    · have q9x := q9.a 13 rfl
      rw [decide_eq_true hr] at q9x
      have hE : ctR l r = ([], 3) := by unfold ctR; rw [if_neg (by simp [hk]), if_pos hr]
      go_upto_region 4 with fail
      refine wp_cond_true (ev q9x rfl) ?_
      go_upto_region 4 with fail
      refine wp_region_lit ?_
      refine q9.t (.slice none 0 0) (ex_assign rfl rfl) fun _ q10 => ?_;clear q9
      refine q10.t (.int .i64 3) (ex_assign rfl rfl) fun _ q11 => ?_;clear q10
      refine wpList_nil ?_
      go_wp2
      exact bodyPost_ret (results2_18 rfl (q11.a 4 rfl) (q11.a 5 rfl)) rfl ⟨_, by rw [hE], by rw [hE]; exact OwnY.nil _ _ _, b1⟩
    · have q9x := q9.a 13 rfl
      rw [decide_eq_false hr] at q9x
      have hE : ctR l r = (upR l (r - 1), 0) := by unfold ctR; rw [if_neg (by simp [hk]), if_neg hr]
      go_upto_region 5 with fail
      refine wp_cond_false (ev q9x rfl) ?_
      clear q9x
      go_upto_region 5 with fail
      refine wp_region_lit ?_
      refine q9.t (.slice none 0 0) (ex_assign rfl rfl) fun _ q10 => ?_;clear q9
      refine wpList_nil ?_
      go_upto_region 6 with fail
      refine wp_region_lit ?_
      refine q10.t (.int .i64 ((0 : Nat) : Int)) (ex_assign rfl rfl) fun _ q11 => ?_;clear q10
      have q12 := (((((Rp.nil q11.z).cons (q11.a 0 rfl)).cons (q11.a 1 rfl)).cons (q11.a 6 rfl)).cons (q11.a 7 rfl))
      clear q11
      refine wpList_nil ?_
      go_upto_region 7 with fail
      refine v_loop 7 l.length (fun j T wr => ∃ v, Rp T 40 [(7, gw true (.int .i64 (j : Int))), (6, gw true v), (1, gw true (.int .i64 r)), (0, gw true (.slice a l.length c))] ∧ Hid (Below w.heap.size w wr ∧ OwnY yK w.heap.size wr v (upR (l.take j) (r - 1)))) (fun j T w h => by obtain ⟨v, h, _⟩ := h; exact h.a 7 rfl) ⟨_, q12, b1, OwnY.nil _ _ _⟩ ?_
      clear q12
      intro j T wr hj hh
      obtain ⟨v, q100, HJ⟩ := hh
      obtain ⟨br, hO⟩ := HJ.out
      clear HJ
      have zr := br.size
      by_cases hit : j < l.length
      · obtain ⟨x, hx⟩ : ∃ x, l[j]? = some x := ⟨_, List.getElem?_eq_getElem hit⟩
        obtain ⟨qa, oa, hqa, hqal, hlie⟩ := (h.on br (Nat.le_refl _)).place (by rintro rfl; simp at hit)
        have hua := upR_at (r := r - 1) hx
        have hul := upR_len (l.take j) (r - 1)
        rw [List.length_take] at hul
        go_upto_region 7 with fail
        refine wp_region_lit ?_
        refine q100.t (.int .i64 (j : Int)) (ex_move rfl (q100.e (j := 7) rfl)) fun _ q101 => ?_;clear q100
        refine q101.t (.slice a l.length c) (ex_move rfl (q101.e (j := 0) rfl)) fun _ q102 => ?_;clear q101
        refine q102.t (.int .i64 (l.length : Int)) (ex_len18 rfl rfl (q102.e (j := 15) rfl)) fun _ q103 => ?_;clear q102
        refine q103.t (.bool true) (ex_bin rfl (q103.e (j := 14) rfl) (q103.e (j := 16) rfl) (ltT _ _ hit _)) fun _ q104 => ?_;clear q103
        refine wpList_nil ?_
        go_upto_region 9 with fail
        refine wp_cond_true (q104.e (j := 17) rfl) ?_
        go_upto_region 9 with fail
        refine wp_region_lit ?_
        refine q104.t (.slice a l.length c) (ex_move rfl (q104.e (j := 0) rfl)) fun _ q105 => ?_;clear q104
        refine q105.t (.int .i64 (j : Int)) (ex_move rfl (q105.e (j := 7) rfl)) fun _ q106 => ?_;clear q105
        refine q106.t (.pointer (some ⟨qa, oa + j * 10, none⟩)) (ex_ix rfl (q106.e (j := 20) rfl) (q106.e (j := 21) rfl) (by rw [hqa]; exact ixK qa oa l.length c j hit _)) fun _ q107 => ?_;clear q106
        refine q107.t (x.val) (ex_ld rfl (q107.e (j := 22) rfl) (ldEl hlie hx)) fun _ q108 => ?_;clear q107
        obtain ⟨r1, hr1⟩ : ∃ y, y = wr.alloc (.cells zK.cs.toArray 66) := ⟨_, rfl⟩
        refine vw (.pointer (some ⟨wr.heap.size, 0, none⟩)) r1 (want_none rfl) (ex_al rfl (by rw [hr1]; exact alK _)) rfl q108.z (by decide) (q108.k fun _ q109 => ?_);clear q108
        have Bz : BB r1 wr.heap.size 66 zK.cs := by rw [hr1]; exact BB.new _ _ _
        have hr1b : Below wr.heap.size wr r1 := by rw [hr1]; exact (Below.refl _ _).alloc (Nat.le_refl _) _
        clear hr1
        obtain ⟨r2, hr2⟩ : ∃ y, y = r1.setCells wr.heap.size 0 x.cs := ⟨_, rfl⟩
        refine vs r2 (want_none rfl) (ex_st rfl (q109.e (j := 8) rfl) (q109.e (j := 23) rfl) (by rw [hr2]; exact Bz.stK)) rfl ?_
        have B13 : BB r2 wr.heap.size 66 x.cs := by rw [hr2]; exact Bz.whole _ rfl
        have hr2b : Below wr.heap.size wr r2 := by rw [hr2]; exact hr1b.trans (bel_ge (upd18 _ _ _ _) hr1b.size (Nat.le_refl _))
        clear hr2 Bz hr1b
        have y2 := hr2b.size
        have hl2 := B13.lt
        have O2 := hO.grow hr2b
        have bw2 : Below w.heap.size w r2 := br.trans (hr2b.mono zr)
        refine wpList_nil ?_
        go_upto_region 10 with fail
        refine wp_region_lit ?_
        refine q109.t (.pointer (some ⟨wr.heap.size, 5, none⟩)) (ex_fa rfl (q109.e (j := 8) rfl) (faK3 _ _)) fun _ q110 => ?_;clear q109
        refine q110.t (.int .i64 x.b) (ex_ld rfl (q110.e (j := 24) rfl) (ldI18 ((B13.cell 5).trans rfl))) fun _ q111 => ?_;clear q110
        refine q111.t (.int .i64 r) (ex_move rfl (q111.e (j := 1) rfl)) fun _ q112 => ?_;clear q111
        refine q112.t (.bool (decide (r ≤ x.b))) (ex_bin rfl (q112.e (j := 25) rfl) (q112.e (j := 26) rfl) (geqC18 _ _ _ _ _)) fun _ q113 => ?_;clear q112
        have q114 := (((((((Rp.nil q113.z).cons (q113.a 0 rfl)).cons (q113.a 1 rfl)).cons (q113.a 6 rfl)).cons (q113.a 7 rfl)).cons (q113.a 8 rfl)).cons (q113.a 27 rfl))
        clear q113
        refine wpList_nil ?_
        by_cases hb : r - 1 < x.b
        · have q114x := q114.a 27 rfl
          rw [decide_eq_true (by omega)] at q114x
          rw [if_pos hb, List.append_nil] at hua
          go_upto_region 8 with fail
          refine wp_cond_true (ev q114x rfl) ?_
          clear q114x
          go_upto_region 8 with fail
          refine wp_region_lit ?_
          refine q114.t (.int .i64 (j : Int)) (ex_move rfl (q114.e (j := 7) rfl)) fun _ q115 => ?_;clear q114
          refine q115.t (.int .i64 ((j + 1 : Nat) : Int)) (ex_bin rfl (q115.e (j := 18) rfl) rfl (add1C _ _ j (by omega) _)) fun _ q116 => ?_;clear q115
          refine q116.t (.int .i64 ((j + 1 : Nat) : Int)) (ex_assign rfl (q116.e (j := 19) rfl)) fun _ q117 => ?_;clear q116
          have q118 := (((((Rp.nil q117.z).cons (q117.a 0 rfl)).cons (q117.a 1 rfl)).cons (q117.a 6 rfl)).cons (q117.a 7 rfl))
          clear q117
          refine wpList_nil ?_
          exact ⟨_, rfl, hit, _, q118, bw2, by rw [hua]; exact O2⟩
        · have q114x := q114.a 27 rfl
          rw [decide_eq_false (by omega)] at q114x
          rw [if_neg hb] at hua
          go_upto_region 11 with fail
          refine wp_cond_false (ev q114x rfl) ?_
          clear q114x
          go_upto_region 11 with fail
          refine wp_region_lit ?_
          refine q114.t (.pointer (some ⟨wr.heap.size, 6, none⟩)) (ex_fa rfl (q114.e (j := 8) rfl) (faK4 _ _)) fun _ q115 => ?_;clear q114
          refine q115.t (.int .i64 x.e) (ex_ld rfl (q115.e (j := 28) rfl) (ldI18 ((B13.cell 6).trans rfl))) fun _ q116 => ?_;clear q115
          refine q116.t (.int .i64 r) (ex_move rfl (q116.e (j := 1) rfl)) fun _ q117 => ?_;clear q116
          refine q117.t (.bool (decide (r ≤ x.e))) (ex_bin rfl (q117.e (j := 29) rfl) (q117.e (j := 30) rfl) (geqC18 _ _ _ _ _)) fun _ q118 => ?_;clear q117
          have q119 := (((((((Rp.nil q118.z).cons (q118.a 0 rfl)).cons (q118.a 1 rfl)).cons (q118.a 6 rfl)).cons (q118.a 7 rfl)).cons (q118.a 8 rfl)).cons (q118.a 31 rfl))
          clear q118
          refine wpList_nil ?_
          by_cases he : r - 1 < x.e
          · have q119x := q119.a 31 rfl
            rw [decide_eq_true (by omega)] at q119x
            have hct : ctK (r - 1) x = (({ x with e := -1, r := (0, 0, ⟨#[]⟩) } : Kl)) := by unfold ctK; rw [if_pos he]
            go_upto_region 12 with fail
            refine wp_cond_true (ev q119x rfl) ?_
            clear q119x
            go_upto_region 12 with fail
            refine wp_region_lit ?_
            obtain ⟨r3, hr3⟩ : ∃ y, y = r2.setCell ⟨wr.heap.size, 6, none⟩ (.int .i64 (-1)) := ⟨_, rfl⟩
            have B14 : BB r3 wr.heap.size 66 ({ x with e := -1 } : Kl).cs := by rw [hr3]; exact B13.set1 6 _
            refine q119.t (.pointer (some ⟨wr.heap.size, 6, none⟩)) (ex_fa rfl (q119.e (j := 8) rfl) (faK4 _ _)) fun _ q120 => ?_;clear q119
            refine vs r3 (want_none rfl) (ex_st rfl (q120.e (j := 32) rfl) rfl (by rw [hr3]; exact stI18 ((B13.cell 6).trans rfl) (B13.free 6))) rfl ?_
            refine wpList_nil ?_
            go_upto_region 13 with fail
            refine wp_region_lit ?_
            refine q120.t (.agg #[.int .i64 0, .int .i64 0, .string ⟨#[]⟩]) (ex_build rfl (bdRs18 _)) fun _ q121 => ?_;clear q120
            refine q121.t (.pointer (some ⟨wr.heap.size, 7, none⟩)) (ex_fa rfl (q121.e (j := 8) rfl) (faK5 _ _)) fun _ q122 => ?_;clear q121
            obtain ⟨r4, hr4⟩ : ∃ y, y = r3.setCells wr.heap.size 7 [.int .i64 0, .int .i64 0, .string ⟨#[]⟩] := ⟨_, rfl⟩
            refine vs r4 (want_none rfl) (ex_st rfl (q122.e (j := 34) rfl) (q122.e (j := 33) rfl) (by rw [hr4]; exact B14.stR8)) rfl ?_
            have B15 : BB r4 wr.heap.size 66 (({ x with e := -1, r := (0, 0, ⟨#[]⟩) } : Kl)).cs := by rw [hr4, hr3]; exact B13.cut8
            have u4 : Upd (fun k => k = wr.heap.size) r2 r4 := by rw [hr4, hr3]; exact ((Upd.refl (fun k => k = wr.heap.size) _).setCell (p := ⟨wr.heap.size, 6, none⟩) (.inl rfl) _).trans (upd18 _ _ _ _)
            clear hr3 hr4 B14
            have bw4 : Below w.heap.size w r4 := bw2.trans (bel_ge u4 (by omega) (by omega))
            have O4 := O2.upd1 u4 (fun g hg => by have := hO.blk g hg; omega)
            have y4 := u4.size
            refine wpList_nil ?_
            go_upto_region 14 with fail
            refine wp_region_lit ?_
            refine q122.t (v) (ex_move rfl (q122.e (j := 6) rfl)) fun _ q123 => ?_;clear q122
            refine q123.t ((({ x with e := -1, r := (0, 0, ⟨#[]⟩) } : Kl)).val) (ex_ld rfl (q123.e (j := 8) rfl) B15.ldK) fun _ q124 => ?_;clear q123
            obtain ⟨r5, hr5⟩ : ∃ z, z = r4.alloc (.cells (({ x with e := -1, r := (0, 0, ⟨#[]⟩) } : Kl)).cs.toArray 66) := ⟨_, rfl⟩
            refine vw (.slice (some ⟨r4.heap.size, 0, none⟩) 1 1) r5 (want_none rfl) (ex_bs18 rfl (q124.e (j := 36) rfl) (by rw [hr5]; exact bsK18 _ _)) rfl q124.z (by decide) (q124.k fun _ q125 => ?_);clear q124
            have s5 : SlY yK r5 (some ⟨r4.heap.size, 0, none⟩) 1 1 [({ x with e := -1, r := (0, 0, ⟨#[]⟩) } : Kl)] := by rw [hr5]; exact sl_box (Y := yK) r4 (({ x with e := -1, r := (0, 0, ⟨#[]⟩) } : Kl)) 66
            have b5 : Below r4.heap.size r4 r5 := by rw [hr5]; exact (Below.refl _ _).alloc (Nat.le_refl _) _
            clear hr5
            have y5 := b5.size
            have zz := bw4.size
            obtain ⟨v6, r6, ha6, o6, g6, _⟩ := run_appY kK r5 24 w.heap.size _ v _ 1 1 [({ x with e := -1, r := (0, 0, ⟨#[]⟩) } : Kl)] s5 (O4.grow b5) (by omega) (by unfold maxLen; omega) (by show ((upR (l.take j) (r - 1)).length + 1) * 96 ≤ _; omega)
            have b6 : Below w.heap.size w r6 := (bw4.trans (b5.mono (by omega))).grown g6 (by omega) (fun k hk => (O4.blk k hk).1)
            refine vw (v6) r6 (want_none rfl) (ex_app18 rfl (q125.e (j := 35) rfl) (q125.e (j := 37) rfl) ha6) rfl q125.z (by decide) (q125.k fun _ q126 => ?_);clear q125
            refine q126.t (v6) (ex_assign rfl (q126.e (j := 38) rfl)) fun _ q127 => ?_;clear q126
            refine wpList_nil ?_
            go_upto_region 8 with fail
            refine wp_region_lit ?_
            refine q127.t (.int .i64 (j : Int)) (ex_move rfl (q127.e (j := 7) rfl)) fun _ q128 => ?_;clear q127
            refine q128.t (.int .i64 ((j + 1 : Nat) : Int)) (ex_bin rfl (q128.e (j := 18) rfl) rfl (add1C _ _ j (by omega) _)) fun _ q129 => ?_;clear q128
            refine q129.t (.int .i64 ((j + 1 : Nat) : Int)) (ex_assign rfl (q129.e (j := 19) rfl)) fun _ q130 => ?_;clear q129
            have q131 := (((((Rp.nil q130.z).cons (q130.a 0 rfl)).cons (q130.a 1 rfl)).cons (q130.a 6 rfl)).cons (q130.a 7 rfl))
            clear q130
            refine wpList_nil ?_
            exact ⟨_, rfl, hit, v6, q131, b6, by rw [hua, hct]; exact o6⟩
          · have q119x := q119.a 31 rfl
            rw [decide_eq_false (by omega)] at q119x
            have hct : ctK (r - 1) x = x := by unfold ctK; rw [if_neg he]
            go_upto_region 14 with fail
            refine wp_cond_false (ev q119x rfl) ?_
            clear q119x
            go_upto_region 14 with fail
            refine wp_region_lit ?_
            refine q119.t (v) (ex_move rfl (q119.e (j := 6) rfl)) fun _ q120 => ?_;clear q119
            refine q120.t ((x).val) (ex_ld rfl (q120.e (j := 8) rfl) B13.ldK) fun _ q121 => ?_;clear q120
            obtain ⟨r5, hr5⟩ : ∃ z, z = r2.alloc (.cells (x).cs.toArray 66) := ⟨_, rfl⟩
            refine vw (.slice (some ⟨r2.heap.size, 0, none⟩) 1 1) r5 (want_none rfl) (ex_bs18 rfl (q121.e (j := 36) rfl) (by rw [hr5]; exact bsK18 _ _)) rfl q121.z (by decide) (q121.k fun _ q122 => ?_);clear q121
            have s5 : SlY yK r5 (some ⟨r2.heap.size, 0, none⟩) 1 1 [x] := by rw [hr5]; exact sl_box (Y := yK) r2 (x) 66
            have b5 : Below r2.heap.size r2 r5 := by rw [hr5]; exact (Below.refl _ _).alloc (Nat.le_refl _) _
            clear hr5
            have y5 := b5.size
            have zz := bw2.size
            obtain ⟨v6, r6, ha6, o6, g6, _⟩ := run_appY kK r5 24 w.heap.size _ v _ 1 1 [x] s5 (O2.grow b5) (by omega) (by unfold maxLen; omega) (by show ((upR (l.take j) (r - 1)).length + 1) * 96 ≤ _; omega)
            have b6 : Below w.heap.size w r6 := (bw2.trans (b5.mono (by omega))).grown g6 (by omega) (fun k hk => (O2.blk k hk).1)
            refine vw (v6) r6 (want_none rfl) (ex_app18 rfl (q122.e (j := 35) rfl) (q122.e (j := 37) rfl) ha6) rfl q122.z (by decide) (q122.k fun _ q123 => ?_);clear q122
            refine q123.t (v6) (ex_assign rfl (q123.e (j := 38) rfl)) fun _ q124 => ?_;clear q123
            refine wpList_nil ?_
            go_upto_region 8 with fail
            refine wp_region_lit ?_
            refine q124.t (.int .i64 (j : Int)) (ex_move rfl (q124.e (j := 7) rfl)) fun _ q125 => ?_;clear q124
            refine q125.t (.int .i64 ((j + 1 : Nat) : Int)) (ex_bin rfl (q125.e (j := 18) rfl) rfl (add1C _ _ j (by omega) _)) fun _ q126 => ?_;clear q125
            refine q126.t (.int .i64 ((j + 1 : Nat) : Int)) (ex_assign rfl (q126.e (j := 19) rfl)) fun _ q127 => ?_;clear q126
            have q128 := (((((Rp.nil q127.z).cons (q127.a 0 rfl)).cons (q127.a 1 rfl)).cons (q127.a 6 rfl)).cons (q127.a 7 rfl))
            clear q127
            refine wpList_nil ?_
            exact ⟨_, rfl, hit, v6, q128, b6, by rw [hua, hct]; exact o6⟩
      · obtain rfl : j = l.length := by omega
        rw [List.take_length] at hO
        go_upto_region 7 with fail
        refine wp_region_lit ?_
        refine q100.t (.int .i64 (l.length : Int)) (ex_move rfl (q100.e (j := 7) rfl)) fun _ q101 => ?_;clear q100
        refine q101.t (.slice a l.length c) (ex_move rfl (q101.e (j := 0) rfl)) fun _ q102 => ?_;clear q101
        refine q102.t (.int .i64 (l.length : Int)) (ex_len18 rfl rfl (q102.e (j := 15) rfl)) fun _ q103 => ?_;clear q102
        refine q103.t (.bool false) (ex_bin rfl (q103.e (j := 14) rfl) (q103.e (j := 16) rfl) (ltF _ _ hit _)) fun _ q104 => ?_;clear q103
        refine wpList_nil ?_
        go_upto_region 15 with fail
        refine wp_cond_false (q104.e (j := 17) rfl) ?_
        go_upto_region 15 with fail
        refine wp_region_lit ?_
        refine q104.t (v) (ex_move rfl (q104.e (j := 6) rfl)) fun _ q105 => ?_;clear q104
        refine q105.t (v) (ex_assign rfl (q105.e (j := 39) rfl)) fun _ q106 => ?_;clear q105
        refine q106.t (.int .i64 0) (ex_assign rfl rfl) fun _ q107 => ?_;clear q106
        refine wpList_nil ?_
        go_wp2
        exact bodyPost_ret (results2_18 rfl (q107.a 4 rfl) (q107.a 5 rfl)) rfl ⟨_, by rw [hE], by rw [hE]; exact hO, br⟩
  · have hE : ctR l r = ([], 180) := by unfold ctR; rw [if_pos hk]
    have q6x := q6.a 11 rfl
    rw [decide_eq_false hk] at q6x
    go_upto_region 2 with fail
    refine wp_cond_true (ev q6x rfl) ?_
    clear q6x
    go_upto_region 2 with fail
    refine wp_region_lit ?_
    refine q6.t (.slice none 0 0) (ex_assign rfl rfl) fun _ q7 => ?_;clear q6
    refine q7.t (.int .i64 180) (ex_assign rfl rfl) fun _ q8 => ?_;clear q7
    refine wpList_nil ?_
    go_wp2
    exact bodyPost_ret (results2_18 rfl (q8.a 4 rfl) (q8.a 5 rfl)) rfl ⟨_, by rw [hE], by rw [hE]; exact OwnY.nil _ _ _, b1⟩

end Go.Proofs.Ytjkleldoeojbbaa

namespace Go.Proofs.Ytjkleldoeojbbaa
open Go.RowKit Go.Maps
open Classical
set_option linter.unusedVariables false
set_option linter.unusedSimpArgs false

/-- Is it a write or a read of this slot? -/
def slP (r : Int) (x : Kl) : Bool := (decide (x.o.k = 1) || decide (x.o.k = 3)) && decide (x.o.s = r)
def slR (l : List Kl) (r : Int) : List Kl × Int := if kchk l ≠ 0 then ([], 180) else if r < 0 ∨ 1024 ≤ r then ([], 41) else (l.filter (slP r), 0)
theorem slP_at {l : List Kl} {r : Int} {j : Nat} {x : Kl} (h : l[j]? = some x) : (l.take (j + 1)).filter (slP r) = (l.take j).filter (slP r) ++ (if slP r x then [x] else []) := by
  obtain ⟨hj, rfl⟩ := List.getElem?_eq_some_iff.1 h
  rw [List.take_succ_eq_append_getElem hj, List.filter_append]
  congr 1
  by_cases h : slP r l[j] <;> simp [h]
theorem ck_slot (r : Int) : ck 3 r ⟨#[]⟩ = if r < 0 ∨ 1024 ≤ r then 41 else 0 := by
  unfold ck
  by_cases h : r < 0 ∨ 1024 ≤ r
  · simp [h]
  · simp [h]
    rfl
theorem faK2c (q o : Nat) (w : World) : (Instr.fieldAt 66 (.pointer (some ⟨q, o, none⟩)) 2).run Try.prog w = .ok (.pointer (some ⟨q, o + 2, none⟩)) w := by go_simp
theorem faO0 (q o : Nat) (w : World) : (Instr.fieldAt 62 (.pointer (some ⟨q, o, none⟩)) 0).run Try.prog w = .ok (.pointer (some ⟨q, o, none⟩)) w := by go_simp
theorem faO1 (q o : Nat) (w : World) : (Instr.fieldAt 62 (.pointer (some ⟨q, o, none⟩)) 1).run Try.prog w = .ok (.pointer (some ⟨q, o + 1, none⟩)) w := by go_simp
theorem bdO8 (r : Int) (w : World) : (Instr.build 62 #[(0, .int .i64 3), (1, .int .i64 r)]).run Try.prog w = .ok (⟨3, r, ⟨#[]⟩⟩ : Opn).val w := by unfold Opn.val; go_simp
set_option maxRecDepth 100000 in
set_option maxHeartbeats 2000000 in
theorem slot18 (l : List Kl) (a : Option Addr) (c : Nat) (r : Int) (w : World) (h : SlY yK w a l.length c l) (hfx : ∀ x ∈ l, x.fits) (hb96 : l.length * 96 ≤ 140737488351232) (hrw : (Lit.int .i64 r).wf = true) :
    Calls Try.prog 18 #[.slice a l.length c, .int .i64 r] w fun e w' => ∃ v, e = .returned (.tuple #[v, .int .i64 (slR l r).2]) ∧ OwnY yK w.heap.size w' v (slR l r).1 ∧ Below w.heap.size w w' := by
  go_enter Try.func18, Try.ntmps18
  go_upto_region 0 with fail
  refine wp_region_lit ?_
  refine vl_gen (fun T => Rp T 51 [(1, gw true (.int .i64 r)), (0, gw true (.slice a l.length c))]) (((Rp.nil rfl).cons rfl).cons rfl) (fun Z0 q0 => ?_)
  refine q0.t (.slice none 0 0) (ex_assign rfl rfl) fun _ q1 => ?_;clear q0
  refine q1.t (.int .i64 0) (ex_assign rfl rfl) fun _ q2 => ?_;clear q1
  refine wpList_nil ?_
  go_upto_region 1 with fail
  refine wp_region_lit ?_
  refine q2.t (.slice a l.length c) (ex_move rfl (q2.e (j := 0) rfl)) fun _ q3 => ?_;clear q2
  refine vcallP (want_none rfl) (ex_call rfl (by simp only [List.map_toArray, List.map_cons, List.map_nil, (q3.e (j := 11) rfl), evc] <;> rfl) rfl) (check18_any l a c w h hfx) rfl q3.z (by decide) ?_
  rintro e w1 ⟨rfl, b1⟩
  refine ⟨_, rfl, q3.k fun _ q4 => ?_⟩;clear q3
  have z1 := b1.size
  refine q4.t (.int .i64 (kchk l : Int)) (ex_assign rfl (q4.e (j := 12) rfl)) fun _ q5 => ?_;clear q4
  refine wpList_nil ?_
  go_upto_region 2 with fail
  refine wp_region_lit ?_
  refine q5.t (.int .i64 (kchk l : Int)) (ex_move rfl (q5.e (j := 6) rfl)) fun _ q6 => ?_;clear q5
  refine q6.t (.bool (!decide (kchk l = 0))) (ex_bin rfl (q6.e (j := 13) rfl) rfl (neqE18 _ _ _ _ _)) fun _ q7 => ?_;clear q6
  have q8 := (((((Rp.nil q7.z).cons (q7.a 0 rfl)).cons (q7.a 1 rfl)).cons (q7.a 6 rfl)).cons (q7.a 14 rfl))
  clear q7
  refine wpList_nil ?_
  by_cases hk : kchk l = 0
  · have q8x := q8.a 14 rfl
    rw [hk] at q8x
    have hck := ck_slot r
    go_upto_region 4 with fail
    refine wp_cond_false (ev q8x rfl) ?_
    clear q8x
    go_upto_region 4 with fail
    refine wp_region_lit ?_
    refine q8.t (.int .i64 r) (ex_move rfl (q8.e (j := 1) rfl)) fun _ q9 => ?_;clear q8
    refine q9.t ((⟨3, r, ⟨#[]⟩⟩ : Opn).val) (ex_buildP18 (P := #[(0, .int .i64 3), (1, .int .i64 r)]) rfl (by simp only [List.map_toArray, List.map_cons, List.map_nil, q9.e (j := 16) rfl, evc] <;> rfl) (bdO8 _ _)) fun _ q10 => ?_;clear q9
    refine vcallP (want_none rfl) (ex_call rfl (by simp only [List.map_toArray, List.map_cons, List.map_nil, (q10.e (j := 17) rfl), evc] <;> rfl) rfl) (check_any ⟨3, r, ⟨#[]⟩⟩ ⟨by show (Lit.int .i64 3).wf = true; decide, hrw, by show (⟨#[]⟩ : ByteArray).size ≤ maxLen; unfold maxLen; decide⟩ w1) rfl q10.z (by decide) ?_
    rintro e w2 ⟨rfl, b2⟩
    refine ⟨_, rfl, q10.k fun _ q11 => ?_⟩;clear q10
    have b2w : Below w.heap.size w w2 := b1.trans (b2.mono z1)
    have z2 := b2w.size
    refine q11.t (.int .i64 (ck 3 r ⟨#[]⟩ : Int)) (ex_assign rfl (q11.e (j := 18) rfl)) fun _ q12 => ?_;clear q11
    refine wpList_nil ?_
    go_upto_region 5 with fail
    refine wp_region_lit ?_
    refine q12.t (.int .i64 (ck 3 r ⟨#[]⟩ : Int)) (ex_move rfl (q12.e (j := 7) rfl)) fun _ q13 => ?_;clear q12
    refine q13.t (.bool (!decide (ck 3 r ⟨#[]⟩ = 0))) (ex_bin rfl (q13.e (j := 19) rfl) rfl (neqE18 _ _ _ _ _)) fun _ q14 => ?_;clear q13
    have q15 := (((((Rp.nil q14.z).cons (q14.a 0 rfl)).cons (q14.a 1 rfl)).cons (q14.a 7 rfl)).cons (q14.a 20 rfl))
    clear q14
    refine wpList_nil ?_
    by_cases hr : r < 0 ∨ 1024 ≤ r
    · rw [if_pos hr] at hck
      have q15x := q15.a 20 rfl
      rw [hck] at q15x
      have hE : slR l r = ([], 41) := by unfold slR; rw [if_neg (by simp [hk]), if_pos hr]
      go_upto_region 6 with fail
      refine wp_cond_true (ev q15x rfl) ?_
      clear q15x
      go_upto_region 6 with fail
      refine wp_region_lit ?_
      refine q15.t (.int .i64 (ck 3 r ⟨#[]⟩ : Int)) (ex_move rfl (q15.e (j := 7) rfl)) fun _ q16 => ?_;clear q15
      refine q16.t (.slice none 0 0) (ex_assign rfl rfl) fun _ q17 => ?_;clear q16
      refine q17.t (.int .i64 41) (ex_assign rfl ((q17.e (j := 21) rfl).trans (by rw [hck]))) fun _ q18 => ?_;clear q17
      refine wpList_nil ?_
      go_wp2
      exact bodyPost_ret (results2_18 rfl (q18.a 4 rfl) (q18.a 5 rfl)) rfl ⟨_, by rw [hE], by rw [hE]; exact OwnY.nil _ _ _, b2w⟩
    · rw [if_neg hr] at hck
      have q15x := q15.a 20 rfl
      rw [hck] at q15x
      have hE : slR l r = (l.filter (slP r), 0) := by unfold slR; rw [if_neg (by simp [hk]), if_neg hr]
      go_upto_region 7 with fail
      refine wp_cond_false (ev q15x rfl) ?_
      clear q15x
      go_upto_region 7 with fail
      refine wp_region_lit ?_
      refine q15.t (.slice none 0 0) (ex_assign rfl rfl) fun _ q16 => ?_;clear q15
      refine wpList_nil ?_
      go_upto_region 8 with fail
      refine wp_region_lit ?_
      refine q16.t (.slice a l.length c) (ex_move rfl (q16.e (j := 0) rfl)) fun _ q17 => ?_;clear q16
      refine q17.t (.int .i64 (l.length : Int)) (ex_len18 rfl rfl (q17.e (j := 22) rfl)) fun _ q18 => ?_;clear q17
      refine q18.t (.int .i64 ((0 : Nat) : Int)) (ex_move rfl rfl) fun _ q19 => ?_;clear q18
      have q20 := (((((((Rp.nil q19.z).cons (q19.a 0 rfl)).cons (q19.a 1 rfl)).cons (q19.a 8 rfl)).cons (q19.a 22 rfl)).cons (q19.a 23 rfl)).cons (q19.a 24 rfl))
      clear q19
      refine wpList_nil ?_
      go_upto_region 9 with fail
      refine v_loop 24 l.length (fun j T wr => ∃ v, Rp T 51 [(24, gw true (.int .i64 (j : Int))), (23, gw true (.int .i64 (l.length : Int))), (22, gw true (.slice a l.length c)), (8, gw true v), (1, gw true (.int .i64 r)), (0, gw true (.slice a l.length c))] ∧ Hid (Below w.heap.size w wr ∧ OwnY yK w.heap.size wr v ((l.take j).filter (slP r)))) (fun j T w h => by obtain ⟨v, h, _⟩ := h; exact h.a 24 rfl) ⟨_, q20, b2w, OwnY.nil _ _ _⟩ ?_
      clear q20
      intro j T wr hj hh
      obtain ⟨v, q100, HJ⟩ := hh
      obtain ⟨br, hO⟩ := HJ.out
      clear HJ
      have zr := br.size
      by_cases hit : j < l.length
      · obtain ⟨x, hx⟩ : ∃ x, l[j]? = some x := ⟨_, List.getElem?_eq_getElem hit⟩
        obtain ⟨qa, oa, hqa, hqal, hlie⟩ := (h.on br (Nat.le_refl _)).place (by rintro rfl; simp at hit)
        have hua := slP_at (r := r) hx
        have hul : ((l.take j).filter (slP r)).length ≤ j := Nat.le_trans (List.length_filter_le _ _) (by rw [List.length_take]; omega)
        go_upto_region 9 with fail
        refine wp_region_lit ?_
        refine q100.t (.bool true) (ex_bin rfl (q100.e (j := 24) rfl) (q100.e (j := 23) rfl) (ltT _ _ hit _)) fun _ q101 => ?_;clear q100
        refine wpList_nil ?_
        go_upto_region 10 with fail
        refine wp_cond_true (q101.e (j := 25) rfl) ?_
        go_upto_region 10 with fail
        refine wp_region_lit ?_
        refine q101.t (.pointer (some ⟨qa, oa + j * 10, none⟩)) (ex_ix rfl (q101.e (j := 22) rfl) (q101.e (j := 24) rfl) (by rw [hqa]; exact ixK qa oa l.length c j hit _)) fun _ q102 => ?_;clear q101
        refine q102.t (x.val) (ex_ld rfl (q102.e (j := 26) rfl) (ldEl hlie hx)) fun _ q103 => ?_;clear q102
        obtain ⟨r1, hr1⟩ : ∃ y, y = wr.alloc (.cells zK.cs.toArray 66) := ⟨_, rfl⟩
        refine vw (.pointer (some ⟨wr.heap.size, 0, none⟩)) r1 (want_none rfl) (ex_al rfl (by rw [hr1]; exact alK _)) rfl q103.z (by decide) (q103.k fun _ q104 => ?_);clear q103
        have Bz : BB r1 wr.heap.size 66 zK.cs := by rw [hr1]; exact BB.new _ _ _
        have hr1b : Below wr.heap.size wr r1 := by rw [hr1]; exact (Below.refl _ _).alloc (Nat.le_refl _) _
        clear hr1
        obtain ⟨r2, hr2⟩ : ∃ y, y = r1.setCells wr.heap.size 0 x.cs := ⟨_, rfl⟩
        refine vs r2 (want_none rfl) (ex_st rfl (q104.e (j := 10) rfl) (q104.e (j := 27) rfl) (by rw [hr2]; exact Bz.stK)) rfl ?_
        have B13 : BB r2 wr.heap.size 66 x.cs := by rw [hr2]; exact Bz.whole _ rfl
        have hr2b : Below wr.heap.size wr r2 := by rw [hr2]; exact hr1b.trans (bel_ge (upd18 _ _ _ _) hr1b.size (Nat.le_refl _))
        clear hr2 Bz hr1b
        have y2 := hr2b.size
        have O2 := hO.grow hr2b
        have bw2 : Below w.heap.size w r2 := br.trans (hr2b.mono zr)
        refine wpList_nil ?_
        go_upto_region 11 with fail
        refine wp_region_lit ?_
        refine q104.t (.pointer (some ⟨wr.heap.size, 2, none⟩)) (ex_fa rfl (q104.e (j := 10) rfl) (faK2 _ _)) fun _ q105 => ?_;clear q104
        refine q105.t (.pointer (some ⟨wr.heap.size, 2, none⟩)) (ex_fa rfl (q105.e (j := 28) rfl) (faO0 _ _ _)) fun _ q106 => ?_;clear q105
        refine q106.t (.int .i64 x.o.k) (ex_ld rfl (q106.e (j := 29) rfl) (ldI18 ((B13.cell 2).trans rfl))) fun _ q107 => ?_;clear q106
        refine q107.t (.bool (decide (x.o.k = 1))) (ex_bin rfl (q107.e (j := 30) rfl) rfl (eqlC _ _ _ _ _)) fun _ q108 => ?_;clear q107
        refine q108.t (.bool (decide (x.o.k = 1))) (ex_move rfl (q108.e (j := 31) rfl)) fun _ q109 => ?_;clear q108
        refine vl (true && ((decide (x.o.k = 1)) == false)) (.pointer (some ⟨wr.heap.size, 2, none⟩)) (want_g rfl rfl (q109.a 32 rfl)) (fun hc => ex_fa rfl (q109.e (j := 10) rfl) (faK2 _ _)) rfl q109.z (by decide) (q109.k fun _ q110 => ?_);clear q109
        refine vl (true && ((decide (x.o.k = 1)) == false)) (.pointer (some ⟨wr.heap.size, 2, none⟩)) (want_g rfl rfl (q110.a 32 rfl)) (fun hc => ex_fa rfl (ev (q110.a 33 rfl) hc) (faO0 _ _ _)) rfl q110.z (by decide) (q110.k fun _ q111 => ?_);clear q110
        refine vl (true && ((decide (x.o.k = 1)) == false)) (.int .i64 x.o.k) (want_g rfl rfl (q111.a 32 rfl)) (fun hc => ex_ld rfl (ev (q111.a 34 rfl) hc) (ldI18 ((B13.cell 2).trans rfl))) rfl q111.z (by decide) (q111.k fun _ q112 => ?_);clear q111
        refine vl (true && ((decide (x.o.k = 1)) == false)) (.bool (decide (x.o.k = 3))) (want_g rfl rfl (q112.a 32 rfl)) (fun hc => ex_bin rfl (ev (q112.a 35 rfl) hc) rfl (eqlC _ _ _ _ _)) rfl q112.z (by decide) (q112.k fun _ q113 => ?_);clear q112
        refine q113.t (.bool (decide (x.o.k = 1) || decide (x.o.k = 3))) (ex_or rfl (q113.a 32 rfl) (q113.a 36 rfl) rfl) fun _ q114 => ?_;clear q113
        refine q114.t (.bool (decide (x.o.k = 1) || decide (x.o.k = 3))) (ex_move rfl (q114.e (j := 37) rfl)) fun _ q115 => ?_;clear q114
        refine vl (true && ((decide (x.o.k = 1) || decide (x.o.k = 3)) == true)) (.pointer (some ⟨wr.heap.size, 2, none⟩)) (want_g rfl rfl (q115.a 38 rfl)) (fun hc => ex_fa rfl (q115.e (j := 10) rfl) (faK2 _ _)) rfl q115.z (by decide) (q115.k fun _ q116 => ?_);clear q115
        refine vl (true && ((decide (x.o.k = 1) || decide (x.o.k = 3)) == true)) (.pointer (some ⟨wr.heap.size, 2 + 1, none⟩)) (want_g rfl rfl (q116.a 38 rfl)) (fun hc => ex_fa rfl (ev (q116.a 39 rfl) hc) (faO1 _ _ _)) rfl q116.z (by decide) (q116.k fun _ q117 => ?_);clear q116
        refine vl (true && ((decide (x.o.k = 1) || decide (x.o.k = 3)) == true)) (.int .i64 x.o.s) (want_g rfl rfl (q117.a 38 rfl)) (fun hc => ex_ld rfl (ev (q117.a 40 rfl) hc) (ldI18 ((B13.cell 3).trans rfl))) rfl q117.z (by decide) (q117.k fun _ q118 => ?_);clear q117
        refine vl (true && ((decide (x.o.k = 1) || decide (x.o.k = 3)) == true)) (.int .i64 r) (want_g rfl rfl (q118.a 38 rfl)) (fun hc => ex_move rfl (q118.e (j := 1) rfl)) rfl q118.z (by decide) (q118.k fun _ q119 => ?_);clear q118
        refine vl (true && ((decide (x.o.k = 1) || decide (x.o.k = 3)) == true)) (.bool (decide (x.o.s = r))) (want_g rfl rfl (q119.a 38 rfl)) (fun hc => ex_bin rfl (ev (q119.a 41 rfl) hc) (ev (q119.a 42 rfl) hc) (eqlC _ _ _ _ _)) rfl q119.z (by decide) (q119.k fun _ q120 => ?_);clear q119
        refine q120.t (.bool ((decide (x.o.k = 1) || decide (x.o.k = 3)) && decide (x.o.s = r))) (ex_and rfl (q120.a 38 rfl) (q120.a 43 rfl) rfl) fun _ q121 => ?_;clear q120
        have q122 := (((((((((Rp.nil q121.z).cons (q121.a 0 rfl)).cons (q121.a 1 rfl)).cons (q121.a 8 rfl)).cons (q121.a 10 rfl)).cons (q121.a 22 rfl)).cons (q121.a 23 rfl)).cons (q121.a 24 rfl)).cons (q121.a 44 rfl))
        clear q121
        refine wpList_nil ?_
        cases hs : slP r x with
        | false =>
          have q122x : _ = some (gw true (.bool (slP r x))) := q122.a 44 rfl
          rw [hs] at q122x
          rw [hs, if_neg (by simp), List.append_nil] at hua
          go_upto_region 13 with fail
          refine wp_cond_false (ev q122x rfl) ?_
          clear q122x
          go_upto_region 13 with fail
          refine wp_region_lit ?_
          refine q122.t (.int .i64 ((j + 1 : Nat) : Int)) (ex_bin rfl (q122.e (j := 24) rfl) rfl (add1C _ _ j (by omega) _)) fun _ q123 => ?_;clear q122
          refine q123.t (.int .i64 ((j + 1 : Nat) : Int)) (ex_move rfl (q123.e (j := 49) rfl)) fun _ q124 => ?_;clear q123
          have q125 := (((((((Rp.nil q124.z).cons (q124.a 0 rfl)).cons (q124.a 1 rfl)).cons (q124.a 8 rfl)).cons (q124.a 22 rfl)).cons (q124.a 23 rfl)).cons (q124.a 24 rfl))
          clear q124
          refine wpList_nil ?_
          exact ⟨_, rfl, hit, _, q125, bw2, by rw [hua]; exact O2⟩
        | true =>
          have q122x : _ = some (gw true (.bool (slP r x))) := q122.a 44 rfl
          rw [hs] at q122x
          rw [hs, if_pos rfl] at hua
          go_upto_region 12 with fail
          refine wp_cond_true (ev q122x rfl) ?_
          clear q122x
          go_upto_region 12 with fail
          refine wp_region_lit ?_
          refine q122.t (v) (ex_move rfl (q122.e (j := 8) rfl)) fun _ q123 => ?_;clear q122
          refine q123.t (x.val) (ex_ld rfl (q123.e (j := 10) rfl) B13.ldK) fun _ q124 => ?_;clear q123
          obtain ⟨r5, hr5⟩ : ∃ z, z = r2.alloc (.cells x.cs.toArray 66) := ⟨_, rfl⟩
          refine vw (.slice (some ⟨r2.heap.size, 0, none⟩) 1 1) r5 (want_none rfl) (ex_bs18 rfl (q124.e (j := 46) rfl) (by rw [hr5]; exact bsK18 _ _)) rfl q124.z (by decide) (q124.k fun _ q125 => ?_);clear q124
          have s5 : SlY yK r5 (some ⟨r2.heap.size, 0, none⟩) 1 1 [x] := by rw [hr5]; exact sl_box (Y := yK) r2 x 66
          have b5 : Below r2.heap.size r2 r5 := by rw [hr5]; exact (Below.refl _ _).alloc (Nat.le_refl _) _
          clear hr5
          have y5 := b5.size
          have zz := bw2.size
          obtain ⟨v6, r6, ha6, o6, g6, _⟩ := run_appY kK r5 24 w.heap.size _ v _ 1 1 [x] s5 (O2.grow b5) (by omega) (by unfold maxLen; omega) (by show (((l.take j).filter (slP r)).length + 1) * 96 ≤ _; omega)
          have b6 : Below w.heap.size w r6 := (bw2.trans (b5.mono (by omega))).grown g6 (by omega) (fun k hk => (O2.blk k hk).1)
          refine vw (v6) r6 (want_none rfl) (ex_app18 rfl (q125.e (j := 45) rfl) (q125.e (j := 47) rfl) ha6) rfl q125.z (by decide) (q125.k fun _ q126 => ?_);clear q125
          refine q126.t (v6) (ex_assign rfl (q126.e (j := 48) rfl)) fun _ q127 => ?_;clear q126
          refine wpList_nil ?_
          go_upto_region 13 with fail
          refine wp_region_lit ?_
          refine q127.t (.int .i64 ((j + 1 : Nat) : Int)) (ex_bin rfl (q127.e (j := 24) rfl) rfl (add1C _ _ j (by omega) _)) fun _ q128 => ?_;clear q127
          refine q128.t (.int .i64 ((j + 1 : Nat) : Int)) (ex_move rfl (q128.e (j := 49) rfl)) fun _ q129 => ?_;clear q128
          have q130 := (((((((Rp.nil q129.z).cons (q129.a 0 rfl)).cons (q129.a 1 rfl)).cons (q129.a 8 rfl)).cons (q129.a 22 rfl)).cons (q129.a 23 rfl)).cons (q129.a 24 rfl))
          clear q129
          refine wpList_nil ?_
          exact ⟨_, rfl, hit, v6, q130, b6, by rw [hua]; exact o6⟩
      · obtain rfl : j = l.length := by omega
        rw [List.take_length] at hO
        go_upto_region 9 with fail
        refine wp_region_lit ?_
        refine q100.t (.bool false) (ex_bin rfl (q100.e (j := 24) rfl) (q100.e (j := 23) rfl) (ltF _ _ hit _)) fun _ q101 => ?_;clear q100
        refine wpList_nil ?_
        go_upto_region 14 with fail
        refine wp_cond_false (q101.e (j := 25) rfl) ?_
        go_upto_region 14 with fail
        refine wp_region_lit ?_
        refine q101.t (v) (ex_move rfl (q101.e (j := 8) rfl)) fun _ q102 => ?_;clear q101
        refine q102.t (v) (ex_assign rfl (q102.e (j := 50) rfl)) fun _ q103 => ?_;clear q102
        refine q103.t (.int .i64 0) (ex_assign rfl rfl) fun _ q104 => ?_;clear q103
        refine wpList_nil ?_
        go_wp2
        exact bodyPost_ret (results2_18 rfl (q104.a 4 rfl) (q104.a 5 rfl)) rfl ⟨_, by rw [hE], by rw [hE]; exact hO, br⟩
  · have hk2 : kchk l = 180 := (kcA_zero [] l).resolve_left hk
    have hE : slR l r = ([], 180) := by unfold slR; rw [if_pos hk]
    have q8x := q8.a 14 rfl
    rw [decide_eq_false hk] at q8x
    go_upto_region 3 with fail
    refine wp_cond_true (ev q8x rfl) ?_
    clear q8x
    go_upto_region 3 with fail
    refine wp_region_lit ?_
    refine q8.t (.int .i64 (kchk l : Int)) (ex_move rfl (q8.e (j := 6) rfl)) fun _ q9 => ?_;clear q8
    refine q9.t (.slice none 0 0) (ex_assign rfl rfl) fun _ q10 => ?_;clear q9
    refine q10.t (.int .i64 180) (ex_assign rfl ((q10.e (j := 15) rfl).trans (by rw [hk2]))) fun _ q11 => ?_;clear q10
    refine wpList_nil ?_
    go_wp2
    exact bodyPost_ret (results2_18 rfl (q11.a 4 rfl) (q11.a 5 rfl)) rfl ⟨_, by rw [hE], by rw [hE]; exact OwnY.nil _ _ _, b1⟩
set_option maxRecDepth 100000 in
set_option maxHeartbeats 2000000 in
theorem refSlot18 (l : List Kl) (a : Option Addr) (c : Nat) (r : Int) (w : World) (h : SlY yK w a l.length c l) (hfx : ∀ x ∈ l, x.fits) (hb96 : l.length * 96 ≤ 140737488351232) :
    Calls Try.prog 19 #[.slice a l.length c, .int .i64 r] w fun e w' => ∃ v, e = .returned (.tuple #[v, .int .i64 (slR l r).2]) ∧ OwnY yK w.heap.size w' v (slR l r).1 ∧ Below w.heap.size w w' := by
  go_enter Try.func19, Try.ntmps19
  go_upto_region 0 with fail
  refine wp_region_lit ?_
  refine vl_gen (fun T => Rp T 57 [(1, gw true (.int .i64 r)), (0, gw true (.slice a l.length c))]) (((Rp.nil rfl).cons rfl).cons rfl) (fun Z0 q0 => ?_)
  refine q0.t (.slice none 0 0) (ex_assign rfl rfl) fun _ q1 => ?_;clear q0
  refine q1.t (.int .i64 0) (ex_assign rfl rfl) fun _ q2 => ?_;clear q1
  refine wpList_nil ?_
  go_upto_region 1 with fail
  refine wp_region_lit ?_
  refine q2.t (.slice a l.length c) (ex_move rfl (q2.e (j := 0) rfl)) fun _ q3 => ?_;clear q2
  refine vcallP (want_none rfl) (ex_call rfl (by simp only [List.map_toArray, List.map_cons, List.map_nil, (q3.e (j := 8) rfl), evc] <;> rfl) rfl) (refCheck18 l a c w h hfx (by omega)) rfl q3.z (by decide) ?_
  rintro e w1 ⟨rfl, b1⟩
  refine ⟨_, rfl, q3.k fun _ q4 => ?_⟩;clear q3
  have z1 := b1.size
  refine q4.t (.bool (!decide (kchk l = 0))) (ex_bin rfl (q4.e (j := 9) rfl) rfl (neqC _ _ _ _ _)) fun _ q5 => ?_;clear q4
  have q6 := ((((Rp.nil q5.z).cons (q5.a 0 rfl)).cons (q5.a 1 rfl)).cons (q5.a 10 rfl))
  clear q5
  refine wpList_nil ?_
  by_cases hk : kchk l = 0
  · have q6x := q6.a 10 rfl
    rw [hk] at q6x
    go_upto_region 3 with fail
    refine wp_cond_false (ev q6x rfl) ?_
    clear q6x
    go_upto_region 3 with fail
    refine wp_region_lit ?_
    refine q6.t (.int .i64 r) (ex_move rfl (q6.e (j := 1) rfl)) fun _ q7 => ?_;clear q6
    refine q7.t (.bool (decide (r < 0))) (ex_bin rfl (q7.e (j := 11) rfl) rfl (lssC _ _ _ _ _)) fun _ q8 => ?_;clear q7
    refine q8.t (.bool (decide (r < 0))) (ex_move rfl (q8.e (j := 12) rfl)) fun _ q9 => ?_;clear q8
    refine vl (true && ((decide (r < 0)) == false)) (.int .i64 r) (want_g rfl rfl (q9.a 13 rfl)) (fun hc => ex_move rfl (q9.e (j := 1) rfl)) rfl q9.z (by decide) (q9.k fun _ q10 => ?_);clear q9
    refine vl (true && ((decide (r < 0)) == false)) (.bool (decide (1024 ≤ r))) (want_g rfl rfl (q10.a 13 rfl)) (fun hc => ex_bin rfl (ev (q10.a 14 rfl) hc) rfl (geqC18 _ _ _ _ _)) rfl q10.z (by decide) (q10.k fun _ q11 => ?_);clear q10
    refine q11.t (.bool (decide (r < 0) || decide (1024 ≤ r))) (ex_or rfl (q11.a 13 rfl) (q11.a 15 rfl) rfl) fun _ q12 => ?_;clear q11
    have q13 := ((((Rp.nil q12.z).cons (q12.a 0 rfl)).cons (q12.a 1 rfl)).cons (q12.a 16 rfl))
    clear q12
    refine wpList_nil ?_
    by_cases hr : r < 0 ∨ 1024 ≤ r
    · have q13x := q13.a 16 rfl
      rw [show (decide (r < 0) || decide (1024 ≤ r)) = true by simpa using hr] at q13x
      have hE : slR l r = ([], 41) := by unfold slR; rw [if_neg (by simp [hk]), if_pos hr]
      go_upto_region 4 with fail
      refine wp_cond_true (ev q13x rfl) ?_
      go_upto_region 4 with fail
      refine wp_region_lit ?_
      refine q13.t (.slice none 0 0) (ex_assign rfl rfl) fun _ q14 => ?_;clear q13
      refine q14.t (.int .i64 41) (ex_assign rfl rfl) fun _ q15 => ?_;clear q14
      refine wpList_nil ?_
      go_wp2
      exact bodyPost_ret (results2_18 rfl (q15.a 4 rfl) (q15.a 5 rfl)) rfl ⟨_, by rw [hE], by rw [hE]; exact OwnY.nil _ _ _, b1⟩
    · have q13x := q13.a 16 rfl
      rw [show (decide (r < 0) || decide (1024 ≤ r)) = false by simpa using hr] at q13x
      have hE : slR l r = (l.filter (slP r), 0) := by unfold slR; rw [if_neg (by simp [hk]), if_neg hr]
      go_upto_region 5 with fail
      refine wp_cond_false (ev q13x rfl) ?_
      clear q13x
      go_upto_region 5 with fail
      refine wp_region_lit ?_
      refine q13.t (.slice none 0 0) (ex_assign rfl rfl) fun _ q14 => ?_;clear q13
      refine wpList_nil ?_
      go_upto_region 6 with fail
      refine wp_region_lit ?_
      refine q14.t (.int .i64 ((0 : Nat) : Int)) (ex_assign rfl rfl) fun _ q15 => ?_;clear q14
      have q16 := (((((Rp.nil q15.z).cons (q15.a 0 rfl)).cons (q15.a 1 rfl)).cons (q15.a 6 rfl)).cons (q15.a 7 rfl))
      clear q15
      refine wpList_nil ?_
      go_upto_region 7 with fail
      refine v_loop 7 l.length (fun j T wr => ∃ v, Rp T 57 [(7, gw true (.int .i64 (j : Int))), (6, gw true v), (1, gw true (.int .i64 r)), (0, gw true (.slice a l.length c))] ∧ Hid (Below w.heap.size w wr ∧ OwnY yK w.heap.size wr v ((l.take j).filter (slP r)))) (fun j T w h => by obtain ⟨v, h, _⟩ := h; exact h.a 7 rfl) ⟨_, q16, b1, OwnY.nil _ _ _⟩ ?_
      clear q16
      intro j T wr hj hh
      obtain ⟨v, q100, HJ⟩ := hh
      obtain ⟨br, hO⟩ := HJ.out
      clear HJ
      have zr := br.size
      by_cases hit : j < l.length
      · obtain ⟨x, hx⟩ : ∃ x, l[j]? = some x := ⟨_, List.getElem?_eq_getElem hit⟩
        obtain ⟨qa, oa, hqa, hqal, hlie⟩ := (h.on br (Nat.le_refl _)).place (by rintro rfl; simp at hit)
        have hua := slP_at (r := r) hx
        have hul : ((l.take j).filter (slP r)).length ≤ j := Nat.le_trans (List.length_filter_le _ _) (by rw [List.length_take]; omega)
        go_upto_region 7 with fail
        refine wp_region_lit ?_
        refine q100.t (.int .i64 (j : Int)) (ex_move rfl (q100.e (j := 7) rfl)) fun _ q101 => ?_;clear q100
        refine q101.t (.slice a l.length c) (ex_move rfl (q101.e (j := 0) rfl)) fun _ q102 => ?_;clear q101
        refine q102.t (.int .i64 (l.length : Int)) (ex_len18 rfl rfl (q102.e (j := 18) rfl)) fun _ q103 => ?_;clear q102
        refine q103.t (.bool true) (ex_bin rfl (q103.e (j := 17) rfl) (q103.e (j := 19) rfl) (ltT _ _ hit _)) fun _ q104 => ?_;clear q103
        refine wpList_nil ?_
        go_upto_region 9 with fail
        refine wp_cond_true (q104.e (j := 20) rfl) ?_
        go_upto_region 9 with fail
        refine wp_region_lit ?_
        refine q104.t (.slice a l.length c) (ex_move rfl (q104.e (j := 0) rfl)) fun _ q105 => ?_;clear q104
        refine q105.t (.int .i64 (j : Int)) (ex_move rfl (q105.e (j := 7) rfl)) fun _ q106 => ?_;clear q105
        refine q106.t (.pointer (some ⟨qa, oa + j * 10, none⟩)) (ex_ix rfl (q106.e (j := 23) rfl) (q106.e (j := 24) rfl) (by rw [hqa]; exact ixK qa oa l.length c j hit _)) fun _ q107 => ?_;clear q106
        refine q107.t (.pointer (some ⟨qa, oa + j * 10 + 2, none⟩)) (ex_fa rfl (q107.e (j := 25) rfl) (faK2c _ _ _)) fun _ q108 => ?_;clear q107
        refine q108.t (.pointer (some ⟨qa, oa + j * 10 + 2, none⟩)) (ex_fa rfl (q108.e (j := 26) rfl) (faO0 _ _ _)) fun _ q109 => ?_;clear q108
        refine q109.t (.int .i64 x.o.k) (ex_ld rfl (q109.e (j := 27) rfl) (ldI18 (hlie j x hx 2 _ rfl))) fun _ q110 => ?_;clear q109
        refine q110.t (.bool (decide (x.o.k = 1))) (ex_bin rfl (q110.e (j := 28) rfl) rfl (eqlC _ _ _ _ _)) fun _ q111 => ?_;clear q110
        refine q111.t (.bool (decide (x.o.k = 1))) (ex_move rfl (q111.e (j := 29) rfl)) fun _ q112 => ?_;clear q111
        refine vl (true && ((decide (x.o.k = 1)) == false)) (.slice a l.length c) (want_g rfl rfl (q112.a 30 rfl)) (fun hc => ex_move rfl (q112.e (j := 0) rfl)) rfl q112.z (by decide) (q112.k fun _ q113 => ?_);clear q112
        refine vl (true && ((decide (x.o.k = 1)) == false)) (.int .i64 (j : Int)) (want_g rfl rfl (q113.a 30 rfl)) (fun hc => ex_move rfl (q113.e (j := 7) rfl)) rfl q113.z (by decide) (q113.k fun _ q114 => ?_);clear q113
        refine vl (true && ((decide (x.o.k = 1)) == false)) (.pointer (some ⟨qa, oa + j * 10, none⟩)) (want_g rfl rfl (q114.a 30 rfl)) (fun hc => ex_ix rfl (ev (q114.a 31 rfl) hc) (ev (q114.a 32 rfl) hc) (by rw [hqa]; exact ixK qa oa l.length c j hit _)) rfl q114.z (by decide) (q114.k fun _ q115 => ?_);clear q114
        refine vl (true && ((decide (x.o.k = 1)) == false)) (.pointer (some ⟨qa, oa + j * 10 + 2, none⟩)) (want_g rfl rfl (q115.a 30 rfl)) (fun hc => ex_fa rfl (ev (q115.a 33 rfl) hc) (faK2c _ _ _)) rfl q115.z (by decide) (q115.k fun _ q116 => ?_);clear q115
        refine vl (true && ((decide (x.o.k = 1)) == false)) (.pointer (some ⟨qa, oa + j * 10 + 2, none⟩)) (want_g rfl rfl (q116.a 30 rfl)) (fun hc => ex_fa rfl (ev (q116.a 34 rfl) hc) (faO0 _ _ _)) rfl q116.z (by decide) (q116.k fun _ q117 => ?_);clear q116
        refine vl (true && ((decide (x.o.k = 1)) == false)) (.int .i64 x.o.k) (want_g rfl rfl (q117.a 30 rfl)) (fun hc => ex_ld rfl (ev (q117.a 35 rfl) hc) (ldI18 (hlie j x hx 2 _ rfl))) rfl q117.z (by decide) (q117.k fun _ q118 => ?_);clear q117
        refine vl (true && ((decide (x.o.k = 1)) == false)) (.bool (decide (x.o.k = 3))) (want_g rfl rfl (q118.a 30 rfl)) (fun hc => ex_bin rfl (ev (q118.a 36 rfl) hc) rfl (eqlC _ _ _ _ _)) rfl q118.z (by decide) (q118.k fun _ q119 => ?_);clear q118
        refine q119.t (.bool (decide (x.o.k = 1) || decide (x.o.k = 3))) (ex_or rfl (q119.a 30 rfl) (q119.a 37 rfl) rfl) fun _ q120 => ?_;clear q119
        refine q120.t (.bool (decide (x.o.k = 1) || decide (x.o.k = 3))) (ex_move rfl (q120.e (j := 38) rfl)) fun _ q121 => ?_;clear q120
        refine vl (true && ((decide (x.o.k = 1) || decide (x.o.k = 3)) == true)) (.slice a l.length c) (want_g rfl rfl (q121.a 39 rfl)) (fun hc => ex_move rfl (q121.e (j := 0) rfl)) rfl q121.z (by decide) (q121.k fun _ q122 => ?_);clear q121
        refine vl (true && ((decide (x.o.k = 1) || decide (x.o.k = 3)) == true)) (.int .i64 (j : Int)) (want_g rfl rfl (q122.a 39 rfl)) (fun hc => ex_move rfl (q122.e (j := 7) rfl)) rfl q122.z (by decide) (q122.k fun _ q123 => ?_);clear q122
        refine vl (true && ((decide (x.o.k = 1) || decide (x.o.k = 3)) == true)) (.pointer (some ⟨qa, oa + j * 10, none⟩)) (want_g rfl rfl (q123.a 39 rfl)) (fun hc => ex_ix rfl (ev (q123.a 40 rfl) hc) (ev (q123.a 41 rfl) hc) (by rw [hqa]; exact ixK qa oa l.length c j hit _)) rfl q123.z (by decide) (q123.k fun _ q124 => ?_);clear q123
        refine vl (true && ((decide (x.o.k = 1) || decide (x.o.k = 3)) == true)) (.pointer (some ⟨qa, oa + j * 10 + 2, none⟩)) (want_g rfl rfl (q124.a 39 rfl)) (fun hc => ex_fa rfl (ev (q124.a 42 rfl) hc) (faK2c _ _ _)) rfl q124.z (by decide) (q124.k fun _ q125 => ?_);clear q124
        refine vl (true && ((decide (x.o.k = 1) || decide (x.o.k = 3)) == true)) (.pointer (some ⟨qa, oa + j * 10 + 2 + 1, none⟩)) (want_g rfl rfl (q125.a 39 rfl)) (fun hc => ex_fa rfl (ev (q125.a 43 rfl) hc) (faO1 _ _ _)) rfl q125.z (by decide) (q125.k fun _ q126 => ?_);clear q125
        refine vl (true && ((decide (x.o.k = 1) || decide (x.o.k = 3)) == true)) (.int .i64 x.o.s) (want_g rfl rfl (q126.a 39 rfl)) (fun hc => ex_ld rfl (ev (q126.a 44 rfl) hc) (ldI18 (hlie j x hx 3 _ rfl))) rfl q126.z (by decide) (q126.k fun _ q127 => ?_);clear q126
        refine vl (true && ((decide (x.o.k = 1) || decide (x.o.k = 3)) == true)) (.int .i64 r) (want_g rfl rfl (q127.a 39 rfl)) (fun hc => ex_move rfl (q127.e (j := 1) rfl)) rfl q127.z (by decide) (q127.k fun _ q128 => ?_);clear q127
        refine vl (true && ((decide (x.o.k = 1) || decide (x.o.k = 3)) == true)) (.bool (decide (x.o.s = r))) (want_g rfl rfl (q128.a 39 rfl)) (fun hc => ex_bin rfl (ev (q128.a 45 rfl) hc) (ev (q128.a 46 rfl) hc) (eqlC _ _ _ _ _)) rfl q128.z (by decide) (q128.k fun _ q129 => ?_);clear q128
        refine q129.t (.bool ((decide (x.o.k = 1) || decide (x.o.k = 3)) && decide (x.o.s = r))) (ex_and rfl (q129.a 39 rfl) (q129.a 47 rfl) rfl) fun _ q130 => ?_;clear q129
        have q131 := ((((((Rp.nil q130.z).cons (q130.a 0 rfl)).cons (q130.a 1 rfl)).cons (q130.a 6 rfl)).cons (q130.a 7 rfl)).cons (q130.a 48 rfl))
        clear q130
        refine wpList_nil ?_
        cases hs : slP r x with
        | false =>
          have q131x : _ = some (gw true (.bool (slP r x))) := q131.a 48 rfl
          rw [hs] at q131x
          rw [hs, if_neg (by simp), List.append_nil] at hua
          go_upto_region 8 with fail
          refine wp_cond_false (ev q131x rfl) ?_
          clear q131x
          go_upto_region 8 with fail
          refine wp_region_lit ?_
          refine q131.t (.int .i64 (j : Int)) (ex_move rfl (q131.e (j := 7) rfl)) fun _ q132 => ?_;clear q131
          refine q132.t (.int .i64 ((j + 1 : Nat) : Int)) (ex_bin rfl (q132.e (j := 21) rfl) rfl (add1C _ _ j (by omega) _)) fun _ q133 => ?_;clear q132
          refine q133.t (.int .i64 ((j + 1 : Nat) : Int)) (ex_assign rfl (q133.e (j := 22) rfl)) fun _ q134 => ?_;clear q133
          have q135 := (((((Rp.nil q134.z).cons (q134.a 0 rfl)).cons (q134.a 1 rfl)).cons (q134.a 6 rfl)).cons (q134.a 7 rfl))
          clear q134
          refine wpList_nil ?_
          exact ⟨_, rfl, hit, _, q135, br, by rw [hua]; exact hO⟩
        | true =>
          have q131x : _ = some (gw true (.bool (slP r x))) := q131.a 48 rfl
          rw [hs] at q131x
          rw [hs, if_pos rfl] at hua
          go_upto_region 10 with fail
          refine wp_cond_true (ev q131x rfl) ?_
          clear q131x
          go_upto_region 10 with fail
          refine wp_region_lit ?_
          refine q131.t (v) (ex_move rfl (q131.e (j := 6) rfl)) fun _ q132 => ?_;clear q131
          refine q132.t (.slice a l.length c) (ex_move rfl (q132.e (j := 0) rfl)) fun _ q133 => ?_;clear q132
          refine q133.t (.int .i64 (j : Int)) (ex_move rfl (q133.e (j := 7) rfl)) fun _ q134 => ?_;clear q133
          refine q134.t (.pointer (some ⟨qa, oa + j * 10, none⟩)) (ex_ix rfl (q134.e (j := 50) rfl) (q134.e (j := 51) rfl) (by rw [hqa]; exact ixK qa oa l.length c j hit _)) fun _ q135 => ?_;clear q134
          refine q135.t (x.val) (ex_ld rfl (q135.e (j := 52) rfl) (ldEl hlie hx)) fun _ q136 => ?_;clear q135
          obtain ⟨r5, hr5⟩ : ∃ z, z = wr.alloc (.cells x.cs.toArray 66) := ⟨_, rfl⟩
          refine vw (.slice (some ⟨wr.heap.size, 0, none⟩) 1 1) r5 (want_none rfl) (ex_bs18 rfl (q136.e (j := 53) rfl) (by rw [hr5]; exact bsK18 _ _)) rfl q136.z (by decide) (q136.k fun _ q137 => ?_);clear q136
          have s5 : SlY yK r5 (some ⟨wr.heap.size, 0, none⟩) 1 1 [x] := by rw [hr5]; exact sl_box (Y := yK) wr x 66
          have b5 : Below wr.heap.size wr r5 := by rw [hr5]; exact (Below.refl _ _).alloc (Nat.le_refl _) _
          clear hr5
          have y5 := b5.size
          have zz := br.size
          obtain ⟨v6, r6, ha6, o6, g6, _⟩ := run_appY kK r5 24 w.heap.size _ v _ 1 1 [x] s5 (hO.grow b5) (by omega) (by unfold maxLen; omega) (by show (((l.take j).filter (slP r)).length + 1) * 96 ≤ _; omega)
          have b6 : Below w.heap.size w r6 := (br.trans (b5.mono (by omega))).grown g6 (by omega) (fun k hk => (hO.blk k hk).1)
          refine vw (v6) r6 (want_none rfl) (ex_app18 rfl (q137.e (j := 49) rfl) (q137.e (j := 54) rfl) ha6) rfl q137.z (by decide) (q137.k fun _ q138 => ?_);clear q137
          refine q138.t (v6) (ex_assign rfl (q138.e (j := 55) rfl)) fun _ q139 => ?_;clear q138
          refine wpList_nil ?_
          go_upto_region 8 with fail
          refine wp_region_lit ?_
          refine q139.t (.int .i64 (j : Int)) (ex_move rfl (q139.e (j := 7) rfl)) fun _ q140 => ?_;clear q139
          refine q140.t (.int .i64 ((j + 1 : Nat) : Int)) (ex_bin rfl (q140.e (j := 21) rfl) rfl (add1C _ _ j (by omega) _)) fun _ q141 => ?_;clear q140
          refine q141.t (.int .i64 ((j + 1 : Nat) : Int)) (ex_assign rfl (q141.e (j := 22) rfl)) fun _ q142 => ?_;clear q141
          have q143 := (((((Rp.nil q142.z).cons (q142.a 0 rfl)).cons (q142.a 1 rfl)).cons (q142.a 6 rfl)).cons (q142.a 7 rfl))
          clear q142
          refine wpList_nil ?_
          exact ⟨_, rfl, hit, v6, q143, b6, by rw [hua]; exact o6⟩
      · obtain rfl : j = l.length := by omega
        rw [List.take_length] at hO
        go_upto_region 7 with fail
        refine wp_region_lit ?_
        refine q100.t (.int .i64 (l.length : Int)) (ex_move rfl (q100.e (j := 7) rfl)) fun _ q101 => ?_;clear q100
        refine q101.t (.slice a l.length c) (ex_move rfl (q101.e (j := 0) rfl)) fun _ q102 => ?_;clear q101
        refine q102.t (.int .i64 (l.length : Int)) (ex_len18 rfl rfl (q102.e (j := 18) rfl)) fun _ q103 => ?_;clear q102
        refine q103.t (.bool false) (ex_bin rfl (q103.e (j := 17) rfl) (q103.e (j := 19) rfl) (ltF _ _ hit _)) fun _ q104 => ?_;clear q103
        refine wpList_nil ?_
        go_upto_region 11 with fail
        refine wp_cond_false (q104.e (j := 20) rfl) ?_
        go_upto_region 11 with fail
        refine wp_region_lit ?_
        refine q104.t (v) (ex_move rfl (q104.e (j := 6) rfl)) fun _ q105 => ?_;clear q104
        refine q105.t (v) (ex_assign rfl (q105.e (j := 56) rfl)) fun _ q106 => ?_;clear q105
        refine q106.t (.int .i64 0) (ex_assign rfl rfl) fun _ q107 => ?_;clear q106
        refine wpList_nil ?_
        go_wp2
        exact bodyPost_ret (results2_18 rfl (q107.a 4 rfl) (q107.a 5 rfl)) rfl ⟨_, by rw [hE], by rw [hE]; exact hO, br⟩
  · have hE : slR l r = ([], 180) := by unfold slR; rw [if_pos hk]
    have q6x := q6.a 10 rfl
    rw [decide_eq_false hk] at q6x
    go_upto_region 2 with fail
    refine wp_cond_true (ev q6x rfl) ?_
    clear q6x
    go_upto_region 2 with fail
    refine wp_region_lit ?_
    refine q6.t (.slice none 0 0) (ex_assign rfl rfl) fun _ q7 => ?_;clear q6
    refine q7.t (.int .i64 180) (ex_assign rfl rfl) fun _ q8 => ?_;clear q7
    refine wpList_nil ?_
    go_wp2
    exact bodyPost_ret (results2_18 rfl (q8.a 4 rfl) (q8.a 5 rfl)) rfl ⟨_, by rw [hE], by rw [hE]; exact OwnY.nil _ _ _, b1⟩

end Go.Proofs.Ytjkleldoeojbbaa

namespace Go.Proofs.Ytjkleldoeojbbaa
open Classical
set_option linter.unusedVariables false
set_option linter.unusedSimpArgs false

/-! ### Witnesses: the search finds one if there is one; a beginning of a good history is good -/
theorem lck_iff (l : List Kl) (D : List Bool) : lckK l D = true ↔ ∃ j x, l[j]? = some x ∧ ansK x = true ∧ at9 D j = false := by
  unfold lckK lcI
  rw [List.any_eq_true]
  constructor
  · rintro ⟨j, hj, h⟩
    cases hx : l[j]? with
    | none => rw [hx] at h; cases h
    | some x =>
      rw [hx] at h
      simp only [Bool.and_eq_true, Bool.not_eq_true'] at h
      exact ⟨j, x, hx, h.1, h.2⟩
  · rintro ⟨j, x, hx, h1, h2⟩
    refine ⟨j, List.mem_range.2 (List.getElem?_eq_some_iff.1 hx).1, ?_⟩
    rw [hx]
    simp [h1, h2]
/-- A way on from where D is done and the ledger has L. -/
def Wit (l : List Kl) : List Bool → List Cl → List Nat → Prop
  | D, _, [] => lckK l D = false
  | D, L, q :: o => ∃ x, l[q]? = some x ∧ nxtK l D L q x = true ∧ Wit l (D.set q true) (dnK L x) o
theorem Wit.nil {l : List Kl} {D : List Bool} {L : List Cl} (h : lckK l D = false) : Wit l D L [] := by
  rw [Wit]
  exact h
theorem Wit.cons {l : List Kl} {D : List Bool} {L : List Cl} {q : Nat} {x : Kl} {o : List Nat} (hx : l[q]? = some x) (hn : nxtK l D L q x = true) (h : Wit l (D.set q true) (dnK L x) o) : Wit l D L (q :: o) := by
  rw [Wit]
  exact ⟨x, hx, hn, h⟩
theorem sr_wit (l : List Kl) : ∀ (k : Nat) (D : List Bool) (L : List Cl) (s : List Nat), srK l k D L = some s → Wit l D L s
  | 0, D, L, s, h => by
    unfold srK at h
    split at h
    · cases h
    · rename_i hk; cases h; exact .nil (by simpa using hk)
  | k + 1, D, L, s, h => by
    unfold srK at h
    split at h
    · obtain ⟨q, hq, h2⟩ := List.exists_of_findSome?_eq_some h
      cases hx : l[q]? with
      | none => rw [hx] at h2; cases h2
      | some x =>
        rw [hx, Option.bind_some] at h2
        split at h2
        · rename_i hn
          cases hs : srK l k (D.set q true) (dnK L x) with
          | none => rw [hs] at h2; cases h2
          | some t =>
            rw [hs] at h2
            cases h2
            exact .cons hx hn (sr_wit l k _ _ t hs)
        · cases h2
    · rename_i hk; cases h; exact .nil (by simpa using hk)
theorem wit_sr (l : List Kl) : ∀ (k : Nat) (D : List Bool) (L : List Cl) (o : List Nat), Wit l D L o → o.length ≤ k → (srK l k D L).isSome = true
  | 0, D, L, o, h, hk => by
    cases o with
    | nil => rw [Wit] at h; unfold srK; rw [h]; rfl
    | cons _ _ => simp at hk
  | k + 1, D, L, o, h, hk => by
    cases hl : lckK l D with
    | false => unfold srK; rw [hl]; rfl
    | true =>
      cases o with
      | nil => rw [Wit] at h; rw [hl] at h; cases h
      | cons q o =>
        rw [Wit] at h
        obtain ⟨x, hx, hn, hw⟩ := h
        have ih := wit_sr l k _ _ o hw (by simp at hk; omega)
        unfold srK
        rw [hl, if_pos rfl]
        rw [List.findSome?_isSome_iff]
        refine ⟨q, List.mem_range.2 (List.getElem?_eq_some_iff.1 hx).1, ?_⟩
        rw [hx, Option.bind_some, if_pos hn]
        simpa using ih
/-- Where a call of a history lies in what there is up to a row. -/
def ixR (l : List Kl) (e : Int) (i : Nat) : Nat := (upR (l.take i) e).length
theorem ixR_at {l : List Kl} {e : Int} {i : Nat} {x : Kl} (h : l[i]? = some x) (hb : ¬ e < x.b) : (upR l e)[ixR l e i]? = some (ctK e x) := by
  obtain ⟨hi, rfl⟩ := List.getElem?_eq_some_iff.1 h
  have e1 : l = l.take i ++ l[i] :: l.drop (i + 1) := by rw [← List.drop_eq_getElem_cons hi, List.take_append_drop]
  have e2 : upR l e = upR (l.take i) e ++ ctK e l[i] :: upR (l.drop (i + 1)) e := by
    have e3 : upR l e = upR (l.take i ++ l[i] :: l.drop (i + 1)) e := congrArg (fun z => upR z e) e1
    rw [e3]
    unfold upR
    rw [List.filterMap_append, List.filterMap_cons, if_neg hb]
  rw [e2]
  unfold ixR
  simp
theorem ixR_back {e : Int} : ∀ {l : List Kl} {j : Nat} {y : Kl}, (upR l e)[j]? = some y → ∃ i x, l[i]? = some x ∧ ¬ e < x.b ∧ ixR l e i = j ∧ y = ctK e x
  | [], j, y, h => by simp [upR] at h
  | a :: t, j, y, h => by
    have e0 : upR (a :: t) e = if e < a.b then upR t e else ctK e a :: upR t e := by
      unfold upR
      rw [List.filterMap_cons]
      by_cases h : e < a.b <;> simp [h]
    rw [e0] at h
    by_cases hb : e < a.b
    · rw [if_pos hb] at h
      obtain ⟨i, x, h1, h2, h3, h4⟩ := ixR_back h
      refine ⟨i + 1, x, by simpa using h1, h2, ?_, h4⟩
      rw [← h3]
      unfold ixR upR
      simp [hb]
    · rw [if_neg hb] at h
      cases j with
      | zero =>
        simp at h
        exact ⟨0, a, rfl, hb, by simp [ixR, upR], h.symm⟩
      | succ j =>
        simp at h
        obtain ⟨i, x, h1, h2, h3, h4⟩ := ixR_back h
        refine ⟨i + 1, x, by simpa using h1, h2, ?_, h4⟩
        rw [← h3]
        unfold ixR upR
        simp [hb]
theorem ixR_mono (l : List Kl) (e : Int) {i j : Nat} (h : i ≤ j) : ixR l e i ≤ ixR l e j := by
  unfold ixR upR
  exact (List.Sublist.filterMap _ (List.take_prefix_take_left (l := l) h).sublist).length_le
theorem ixR_lt {l : List Kl} {e : Int} {i j : Nat} {x : Kl} (hx : l[i]? = some x) (hb : ¬ e < x.b) (h : i < j) : ixR l e i < ixR l e j := by
  have h1 := ixR_mono l e (show i + 1 ≤ j from h)
  have h2 : ixR l e (i + 1) = ixR l e i + 1 := by
    unfold ixR
    rw [upR_at hx, if_neg hb]
    simp
  omega
theorem at9_set8 (D : List Bool) (q i : Nat) (hq : q < D.length) : at9 (D.set q true) i = (decide (q = i) || at9 D i) := by
  unfold at9
  by_cases h : q = i
  · subst h; simp [hq]
  · simp [h]
structure RelD (l : List Kl) (e : Int) (D D' : List Bool) : Prop where
  len : D'.length = 8
  eq : ∀ i x, l[i]? = some x → ¬ e < x.b → at9 D' (ixR l e i) = at9 D i
theorem ctK_ans {e : Int} {x : Kl} : ansK (ctK e x) = true ↔ ansK x = true ∧ x.e ≤ e := by
  unfold ctK ansK
  split <;> simp <;> omega
theorem ctK_e {e : Int} {x : Kl} (h : ansK (ctK e x) = true) : ctK e x = x := by
  unfold ctK
  rw [if_neg (by have := (ctK_ans.1 h).2; omega)]
theorem ctK_b (e : Int) (x : Kl) : (ctK e x).b = x.b := by unfold ctK; split <;> rfl
theorem ctK_o (e : Int) (x : Kl) : (ctK e x).o = x.o := by unfold ctK; split <;> rfl
theorem wit_up (l : List Kl) (e : Int) (h8 : l.length ≤ 8) : ∀ (o : List Nat) (D : List Bool) (L : List Cl), Wit l D L o → D.length = 8 → ∀ D', RelD l e D D' → ∃ o', Wit (upR l e) D' L o' := by
  intro o
  induction o with
  | nil =>
    intro D L h hD D' hR
    refine ⟨[], .nil ?_⟩
    · rw [Wit] at h
      cases hl : lckK (upR l e) D' with
      | false => rfl
      | true =>
        obtain ⟨j, y, hy, ha, hn⟩ := (lck_iff _ _).1 hl
        obtain ⟨i, x, hx, hb, hi, rfl⟩ := ixR_back hy
        rw [← hi, hR.eq i x hx hb] at hn
        have := (lck_iff l D).2 ⟨i, x, hx, (ctK_ans.1 ha).1, hn⟩
        rw [h] at this
        cases this
  | cons q o ih =>
    intro D L h hD D' hR
    cases hl : lckK (upR l e) D' with
    | false => exact ⟨[], .nil hl⟩
    | true =>
      obtain ⟨j, y, hy, ha, hn⟩ := (lck_iff _ _).1 hl
      obtain ⟨i, z, hz, hzb, hi, rfl⟩ := ixR_back hy
      rw [← hi, hR.eq i z hz hzb] at hn
      have hza := ctK_ans.1 ha
      · rw [Wit] at h
        obtain ⟨x, hx, hnx, hw⟩ := h
        have hn2 := hnx
        unfold nxtK at hn2
        simp only [Bool.and_eq_true, Bool.not_eq_true', Bool.or_eq_false_iff] at hn2
        obtain ⟨⟨hq0, hoff⟩, hlate⟩ := hn2
        have hxb : ¬ e < x.b := fun hc => by
          have := (late_iff l D x).2 ⟨i, (List.getElem?_eq_some_iff.1 hz).1, z, hz, hza.1, hn, by omega⟩
          rw [hlate] at this
          cases this
        have hql := (List.getElem?_eq_some_iff.1 hx).1
        have hxu := ixR_at hx hxb
        have hul := (List.getElem?_eq_some_iff.1 hxu).1
        have hup := upR_len l e
        have hR2 : RelD l e (D.set q true) (D'.set (ixR l e q) true) := ⟨by simp [hR.len], fun i' x' hx' hb' => by
          rw [at9_set8 _ _ _ (by rw [hR.len]; omega), at9_set8 _ _ _ (by omega), hR.eq i' x' hx' hb']
          congr 1
          by_cases hc : q = i'
          · subst hc; simp
          · have : ixR l e q ≠ ixR l e i' := fun hcc => by
              rcases Nat.lt_or_gt_of_ne hc with h | h
              · have := ixR_lt hx hxb h; omega
              · have := ixR_lt hx' hb' h; omega
            simp [hc, this]⟩
        obtain ⟨o', ho'⟩ := ih _ _ hw (by simp [hD]) _ hR2
        refine ⟨ixR l e q :: o', .cons hxu ?_ (by
          have : dnK L (ctK e x) = dnK L x := by unfold dnK; rw [ctK_o]
          rw [this]; exact ho')⟩
        unfold nxtK
        have h1 : at9 D' (ixR l e q) = false := by rw [hR.eq q x hx hxb]; exact hq0
        have h2 : offK L (ctK e x) = false := by
          cases hoo : offK L (ctK e x) with
          | false => rfl
          | true =>
            have hax : ansK (ctK e x) = true := by unfold offK at hoo; simp only [Bool.and_eq_true] at hoo; exact hoo.1
            rw [ctK_e hax, hoff] at hoo
            cases hoo
        have h3 : lateK (upR l e) D' (ctK e x) = false := by
          cases hll : lateK (upR l e) D' (ctK e x) with
          | false => rfl
          | true =>
            obtain ⟨j2, _, y2, hy2, ha2, hn3, hlt⟩ := (late_iff _ _ _).1 hll
            obtain ⟨i2, z2, hz2, hzb2, hi2, rfl⟩ := ixR_back hy2
            rw [← hi2, hR.eq i2 z2 hz2 hzb2] at hn3
            rw [ctK_b, ctK_e ha2] at hlt
            have := (late_iff l D x).2 ⟨i2, (List.getElem?_eq_some_iff.1 hz2).1, z2, hz2, (ctK_ans.1 ha2).1, hn3, hlt⟩
            rw [hlate] at this
            cases this
        rw [h1, h2, h3]
        rfl
theorem at9_D0 (i : Nat) : at9 D0 i = false := by
  unfold at9 D0
  match i with
  | 0 | 1 | 2 | 3 | 4 | 5 | 6 | 7 => rfl
  | i + 8 => simp
/-- A beginning of a history that has a witness has one. -/
theorem lst_up (l : List Kl) (e : Int) (h8 : l.length ≤ 8) (h : (lst l).isSome = true) : ∃ o, Wit (upR l e) D0 [] o := by
  obtain ⟨s, hs⟩ := Option.isSome_iff_exists.1 h
  exact wit_up l e h8 s _ _ (sr_wit l _ _ _ s hs) rfl D0 ⟨rfl, fun i x _ _ => by rw [at9_D0, at9_D0]⟩
theorem wit_lst (l : List Kl) (h8 : l.length ≤ 8) {o : List Nat} (h : Wit l D0 [] o) : (lst l).isSome = true := by
  have h1 := wit_sr l (o.length + l.length) _ _ o h (by omega)
  have h2 := cU_le D0 l.length
  unfold lst
  rw [srK_eq l D0 [] (show l.length ≤ D0.length from h8) (k := l.length) (k' := o.length + l.length) h2 (by omega)]
  exact h1
theorem lst_upR (l : List Kl) (e : Int) (h8 : l.length ≤ 8) (h : (lst l).isSome = true) : (lst (upR l e)).isSome = true := by
  obtain ⟨o, ho⟩ := lst_up l e h8 h
  exact wit_lst _ (Nat.le_trans (upR_len l e) h8) ho

end Go.Proofs.Ytjkleldoeojbbaa

namespace Go.Proofs.Ytjkleldoeojbbaa
open Go.RowKit Go.Maps
open Classical
set_option linter.unusedVariables false
set_option linter.unusedSimpArgs false

set_option maxRecDepth 100000 in
set_option maxHeartbeats 2000000 in
theorem refUpTo18 (l : List Kl) (a : Option Addr) (c : Nat) (r : Int) (w : World) (h : SlY yK w a l.length c l) (hb96 : l.length * 96 ≤ 140737488351232) :
    Calls Try.prog 54 #[.slice a l.length c, .int .i64 r] w fun e w' => ∃ v, e = .returned v ∧ OwnY yK w.heap.size w' v (upR l r) ∧ Below w.heap.size w w' := by
  go_enter Try.func54, Try.ntmps54
  go_upto_region 0 with fail
  refine wp_region_lit ?_
  refine vl_gen (fun T => Rp T 34 [(1, gw true (.int .i64 r)), (0, gw true (.slice a l.length c))]) (((Rp.nil rfl).cons rfl).cons rfl) (fun Z0 q0 => ?_)
  refine q0.t (.slice none 0 0) (ex_assign rfl rfl) fun _ q1 => ?_;clear q0
  refine wpList_nil ?_
  go_upto_region 1 with fail
  refine wp_region_lit ?_
  refine q1.t (.slice none 0 0) (ex_assign rfl rfl) fun _ q2 => ?_;clear q1
  refine wpList_nil ?_
  go_upto_region 2 with fail
  refine wp_region_lit ?_
  refine q2.t (.int .i64 ((0 : Nat) : Int)) (ex_assign rfl rfl) fun _ q3 => ?_;clear q2
  have q4 := (((((Rp.nil q3.z).cons (q3.a 0 rfl)).cons (q3.a 1 rfl)).cons (q3.a 5 rfl)).cons (q3.a 6 rfl))
  clear q3
  refine wpList_nil ?_
  go_upto_region 3 with fail
  refine v_loop 6 l.length (fun j T wr => ∃ v, Rp T 34 [(6, gw true (.int .i64 (j : Int))), (5, gw true v), (1, gw true (.int .i64 r)), (0, gw true (.slice a l.length c))] ∧ Hid (Below w.heap.size w wr ∧ OwnY yK w.heap.size wr v (upR (l.take j) r))) (fun j T w h => by obtain ⟨v, h, _⟩ := h; exact h.a 6 rfl) ⟨_, q4, Below.refl _ _, OwnY.nil _ _ _⟩ ?_
  clear q4
  intro j T wr hj hh
  obtain ⟨v, q100, HJ⟩ := hh
  obtain ⟨br, hO⟩ := HJ.out
  clear HJ
  have zr := br.size
  by_cases hit : j < l.length
  · obtain ⟨x, hx⟩ : ∃ x, l[j]? = some x := ⟨_, List.getElem?_eq_getElem hit⟩
    obtain ⟨qa, oa, hqa, hqal, hlie⟩ := (h.on br (Nat.le_refl _)).place (by rintro rfl; simp at hit)
    have hua := upR_at (r := r) hx
    have hul := upR_len (l.take j) r
    rw [List.length_take] at hul
    go_upto_region 3 with fail
    refine wp_region_lit ?_
    refine q100.t (.int .i64 (j : Int)) (ex_move rfl (q100.e (j := 6) rfl)) fun _ q101 => ?_;clear q100
    refine q101.t (.slice a l.length c) (ex_move rfl (q101.e (j := 0) rfl)) fun _ q102 => ?_;clear q101
    refine q102.t (.int .i64 (l.length : Int)) (ex_len18 rfl rfl (q102.e (j := 9) rfl)) fun _ q103 => ?_;clear q102
    refine q103.t (.bool true) (ex_bin rfl (q103.e (j := 8) rfl) (q103.e (j := 10) rfl) (ltT _ _ hit _)) fun _ q104 => ?_;clear q103
    refine wpList_nil ?_
    go_upto_region 5 with fail
    refine wp_cond_true (q104.e (j := 11) rfl) ?_
    go_upto_region 5 with fail
    refine wp_region_lit ?_
    refine q104.t (.slice a l.length c) (ex_move rfl (q104.e (j := 0) rfl)) fun _ q105 => ?_;clear q104
    refine q105.t (.int .i64 (j : Int)) (ex_move rfl (q105.e (j := 6) rfl)) fun _ q106 => ?_;clear q105
    refine q106.t (.pointer (some ⟨qa, oa + j * 10, none⟩)) (ex_ix rfl (q106.e (j := 14) rfl) (q106.e (j := 15) rfl) (by rw [hqa]; exact ixK qa oa l.length c j hit _)) fun _ q107 => ?_;clear q106
    refine q107.t (x.val) (ex_ld rfl (q107.e (j := 16) rfl) (ldEl hlie hx)) fun _ q108 => ?_;clear q107
    obtain ⟨r1, hr1⟩ : ∃ y, y = wr.alloc (.cells zK.cs.toArray 66) := ⟨_, rfl⟩
    refine vw (.pointer (some ⟨wr.heap.size, 0, none⟩)) r1 (want_none rfl) (ex_al rfl (by rw [hr1]; exact alK _)) rfl q108.z (by decide) (q108.k fun _ q109 => ?_);clear q108
    have Bz : BB r1 wr.heap.size 66 zK.cs := by rw [hr1]; exact BB.new _ _ _
    have hr1b : Below wr.heap.size wr r1 := by rw [hr1]; exact (Below.refl _ _).alloc (Nat.le_refl _) _
    clear hr1
    obtain ⟨r2, hr2⟩ : ∃ y, y = r1.setCells wr.heap.size 0 x.cs := ⟨_, rfl⟩
    refine vs r2 (want_none rfl) (ex_st rfl (q109.e (j := 7) rfl) (q109.e (j := 17) rfl) (by rw [hr2]; exact Bz.stK)) rfl ?_
    have B13 : BB r2 wr.heap.size 66 x.cs := by rw [hr2]; exact Bz.whole _ rfl
    have hr2b : Below wr.heap.size wr r2 := by rw [hr2]; exact hr1b.trans (bel_ge (upd18 _ _ _ _) hr1b.size (Nat.le_refl _))
    clear hr2 Bz hr1b
    have y2 := hr2b.size
    have hl2 := B13.lt
    have O2 := hO.grow hr2b
    have bw2 : Below w.heap.size w r2 := br.trans (hr2b.mono zr)
    refine wpList_nil ?_
    go_upto_region 6 with fail
    refine wp_region_lit ?_
    refine q109.t (.pointer (some ⟨wr.heap.size, 5, none⟩)) (ex_fa rfl (q109.e (j := 7) rfl) (faK3 _ _)) fun _ q110 => ?_;clear q109
    refine q110.t (.int .i64 x.b) (ex_ld rfl (q110.e (j := 18) rfl) (ldI18 ((B13.cell 5).trans rfl))) fun _ q111 => ?_;clear q110
    refine q111.t (.int .i64 r) (ex_move rfl (q111.e (j := 1) rfl)) fun _ q112 => ?_;clear q111
    refine q112.t (.bool (decide (r < x.b))) (ex_bin rfl (q112.e (j := 19) rfl) (q112.e (j := 20) rfl) (gtrC _ _ _ _ _)) fun _ q113 => ?_;clear q112
    have q114 := (((((((Rp.nil q113.z).cons (q113.a 0 rfl)).cons (q113.a 1 rfl)).cons (q113.a 5 rfl)).cons (q113.a 6 rfl)).cons (q113.a 7 rfl)).cons (q113.a 21 rfl))
    clear q113
    refine wpList_nil ?_
    by_cases hb : r < x.b
    · have q114x := q114.a 21 rfl
      rw [decide_eq_true (by omega)] at q114x
      rw [if_pos hb, List.append_nil] at hua
      go_upto_region 4 with fail
      refine wp_cond_true (ev q114x rfl) ?_
      clear q114x
      go_upto_region 4 with fail
      refine wp_region_lit ?_
      refine q114.t (.int .i64 (j : Int)) (ex_move rfl (q114.e (j := 6) rfl)) fun _ q115 => ?_;clear q114
      refine q115.t (.int .i64 ((j + 1 : Nat) : Int)) (ex_bin rfl (q115.e (j := 12) rfl) rfl (add1C _ _ j (by omega) _)) fun _ q116 => ?_;clear q115
      refine q116.t (.int .i64 ((j + 1 : Nat) : Int)) (ex_assign rfl (q116.e (j := 13) rfl)) fun _ q117 => ?_;clear q116
      have q118 := (((((Rp.nil q117.z).cons (q117.a 0 rfl)).cons (q117.a 1 rfl)).cons (q117.a 5 rfl)).cons (q117.a 6 rfl))
      clear q117
      refine wpList_nil ?_
      exact ⟨_, rfl, hit, _, q118, bw2, by rw [hua]; exact O2⟩
    · have q114x := q114.a 21 rfl
      rw [decide_eq_false (by omega)] at q114x
      rw [if_neg hb] at hua
      go_upto_region 7 with fail
      refine wp_cond_false (ev q114x rfl) ?_
      clear q114x
      go_upto_region 7 with fail
      refine wp_region_lit ?_
      refine q114.t (.pointer (some ⟨wr.heap.size, 6, none⟩)) (ex_fa rfl (q114.e (j := 7) rfl) (faK4 _ _)) fun _ q115 => ?_;clear q114
      refine q115.t (.int .i64 x.e) (ex_ld rfl (q115.e (j := 22) rfl) (ldI18 ((B13.cell 6).trans rfl))) fun _ q116 => ?_;clear q115
      refine q116.t (.int .i64 r) (ex_move rfl (q116.e (j := 1) rfl)) fun _ q117 => ?_;clear q116
      refine q117.t (.bool (decide (r < x.e))) (ex_bin rfl (q117.e (j := 23) rfl) (q117.e (j := 24) rfl) (gtrC _ _ _ _ _)) fun _ q118 => ?_;clear q117
      have q119 := (((((((Rp.nil q118.z).cons (q118.a 0 rfl)).cons (q118.a 1 rfl)).cons (q118.a 5 rfl)).cons (q118.a 6 rfl)).cons (q118.a 7 rfl)).cons (q118.a 25 rfl))
      clear q118
      refine wpList_nil ?_
      by_cases he : r < x.e
      · have q119x := q119.a 25 rfl
        rw [decide_eq_true (by omega)] at q119x
        have hct : ctK r x = (({ x with e := -1, r := (0, 0, ⟨#[]⟩) } : Kl)) := by unfold ctK; rw [if_pos he]
        go_upto_region 8 with fail
        refine wp_cond_true (ev q119x rfl) ?_
        clear q119x
        go_upto_region 8 with fail
        refine wp_region_lit ?_
        obtain ⟨r3, hr3⟩ : ∃ y, y = r2.setCell ⟨wr.heap.size, 6, none⟩ (.int .i64 (-1)) := ⟨_, rfl⟩
        have B14 : BB r3 wr.heap.size 66 ({ x with e := -1 } : Kl).cs := by rw [hr3]; exact B13.set1 6 _
        refine q119.t (.pointer (some ⟨wr.heap.size, 6, none⟩)) (ex_fa rfl (q119.e (j := 7) rfl) (faK4 _ _)) fun _ q120 => ?_;clear q119
        refine vs r3 (want_none rfl) (ex_st rfl (q120.e (j := 26) rfl) rfl (by rw [hr3]; exact stI18 ((B13.cell 6).trans rfl) (B13.free 6))) rfl ?_
        refine wpList_nil ?_
        go_upto_region 9 with fail
        refine wp_region_lit ?_
        refine q120.t (.agg #[.int .i64 0, .int .i64 0, .string ⟨#[]⟩]) (ex_build rfl (bdRs18 _)) fun _ q121 => ?_;clear q120
        refine q121.t (.pointer (some ⟨wr.heap.size, 7, none⟩)) (ex_fa rfl (q121.e (j := 7) rfl) (faK5 _ _)) fun _ q122 => ?_;clear q121
        obtain ⟨r4, hr4⟩ : ∃ y, y = r3.setCells wr.heap.size 7 [.int .i64 0, .int .i64 0, .string ⟨#[]⟩] := ⟨_, rfl⟩
        refine vs r4 (want_none rfl) (ex_st rfl (q122.e (j := 28) rfl) (q122.e (j := 27) rfl) (by rw [hr4]; exact B14.stR8)) rfl ?_
        have B15 : BB r4 wr.heap.size 66 (({ x with e := -1, r := (0, 0, ⟨#[]⟩) } : Kl)).cs := by rw [hr4, hr3]; exact B13.cut8
        have u4 : Upd (fun k => k = wr.heap.size) r2 r4 := by rw [hr4, hr3]; exact ((Upd.refl (fun k => k = wr.heap.size) _).setCell (p := ⟨wr.heap.size, 6, none⟩) (.inl rfl) _).trans (upd18 _ _ _ _)
        clear hr3 hr4 B14
        have bw4 : Below w.heap.size w r4 := bw2.trans (bel_ge u4 (by omega) (by omega))
        have O4 := O2.upd1 u4 (fun g hg => by have := hO.blk g hg; omega)
        have y4 := u4.size
        refine wpList_nil ?_
        go_upto_region 10 with fail
        refine wp_region_lit ?_
        refine q122.t (v) (ex_move rfl (q122.e (j := 5) rfl)) fun _ q123 => ?_;clear q122
        refine q123.t ((({ x with e := -1, r := (0, 0, ⟨#[]⟩) } : Kl)).val) (ex_ld rfl (q123.e (j := 7) rfl) B15.ldK) fun _ q124 => ?_;clear q123
        obtain ⟨r5, hr5⟩ : ∃ z, z = r4.alloc (.cells (({ x with e := -1, r := (0, 0, ⟨#[]⟩) } : Kl)).cs.toArray 66) := ⟨_, rfl⟩
        refine vw (.slice (some ⟨r4.heap.size, 0, none⟩) 1 1) r5 (want_none rfl) (ex_bs18 rfl (q124.e (j := 30) rfl) (by rw [hr5]; exact bsK18 _ _)) rfl q124.z (by decide) (q124.k fun _ q125 => ?_);clear q124
        have s5 : SlY yK r5 (some ⟨r4.heap.size, 0, none⟩) 1 1 [({ x with e := -1, r := (0, 0, ⟨#[]⟩) } : Kl)] := by rw [hr5]; exact sl_box (Y := yK) r4 (({ x with e := -1, r := (0, 0, ⟨#[]⟩) } : Kl)) 66
        have b5 : Below r4.heap.size r4 r5 := by rw [hr5]; exact (Below.refl _ _).alloc (Nat.le_refl _) _
        clear hr5
        have y5 := b5.size
        have zz := bw4.size
        obtain ⟨v6, r6, ha6, o6, g6, _⟩ := run_appY kK r5 24 w.heap.size _ v _ 1 1 [({ x with e := -1, r := (0, 0, ⟨#[]⟩) } : Kl)] s5 (O4.grow b5) (by omega) (by unfold maxLen; omega) (by show ((upR (l.take j) r).length + 1) * 96 ≤ _; omega)
        have b6 : Below w.heap.size w r6 := (bw4.trans (b5.mono (by omega))).grown g6 (by omega) (fun k hk => (O4.blk k hk).1)
        refine vw (v6) r6 (want_none rfl) (ex_app18 rfl (q125.e (j := 29) rfl) (q125.e (j := 31) rfl) ha6) rfl q125.z (by decide) (q125.k fun _ q126 => ?_);clear q125
        refine q126.t (v6) (ex_assign rfl (q126.e (j := 32) rfl)) fun _ q127 => ?_;clear q126
        refine wpList_nil ?_
        go_upto_region 4 with fail
        refine wp_region_lit ?_
        refine q127.t (.int .i64 (j : Int)) (ex_move rfl (q127.e (j := 6) rfl)) fun _ q128 => ?_;clear q127
        refine q128.t (.int .i64 ((j + 1 : Nat) : Int)) (ex_bin rfl (q128.e (j := 12) rfl) rfl (add1C _ _ j (by omega) _)) fun _ q129 => ?_;clear q128
        refine q129.t (.int .i64 ((j + 1 : Nat) : Int)) (ex_assign rfl (q129.e (j := 13) rfl)) fun _ q130 => ?_;clear q129
        have q131 := (((((Rp.nil q130.z).cons (q130.a 0 rfl)).cons (q130.a 1 rfl)).cons (q130.a 5 rfl)).cons (q130.a 6 rfl))
        clear q130
        refine wpList_nil ?_
        exact ⟨_, rfl, hit, v6, q131, b6, by rw [hua, hct]; exact o6⟩
      · have q119x := q119.a 25 rfl
        rw [decide_eq_false (by omega)] at q119x
        have hct : ctK r x = x := by unfold ctK; rw [if_neg he]
        go_upto_region 10 with fail
        refine wp_cond_false (ev q119x rfl) ?_
        clear q119x
        go_upto_region 10 with fail
        refine wp_region_lit ?_
        refine q119.t (v) (ex_move rfl (q119.e (j := 5) rfl)) fun _ q120 => ?_;clear q119
        refine q120.t ((x).val) (ex_ld rfl (q120.e (j := 7) rfl) B13.ldK) fun _ q121 => ?_;clear q120
        obtain ⟨r5, hr5⟩ : ∃ z, z = r2.alloc (.cells (x).cs.toArray 66) := ⟨_, rfl⟩
        refine vw (.slice (some ⟨r2.heap.size, 0, none⟩) 1 1) r5 (want_none rfl) (ex_bs18 rfl (q121.e (j := 30) rfl) (by rw [hr5]; exact bsK18 _ _)) rfl q121.z (by decide) (q121.k fun _ q122 => ?_);clear q121
        have s5 : SlY yK r5 (some ⟨r2.heap.size, 0, none⟩) 1 1 [x] := by rw [hr5]; exact sl_box (Y := yK) r2 (x) 66
        have b5 : Below r2.heap.size r2 r5 := by rw [hr5]; exact (Below.refl _ _).alloc (Nat.le_refl _) _
        clear hr5
        have y5 := b5.size
        have zz := bw2.size
        obtain ⟨v6, r6, ha6, o6, g6, _⟩ := run_appY kK r5 24 w.heap.size _ v _ 1 1 [x] s5 (O2.grow b5) (by omega) (by unfold maxLen; omega) (by show ((upR (l.take j) r).length + 1) * 96 ≤ _; omega)
        have b6 : Below w.heap.size w r6 := (bw2.trans (b5.mono (by omega))).grown g6 (by omega) (fun k hk => (O2.blk k hk).1)
        refine vw (v6) r6 (want_none rfl) (ex_app18 rfl (q122.e (j := 29) rfl) (q122.e (j := 31) rfl) ha6) rfl q122.z (by decide) (q122.k fun _ q123 => ?_);clear q122
        refine q123.t (v6) (ex_assign rfl (q123.e (j := 32) rfl)) fun _ q124 => ?_;clear q123
        refine wpList_nil ?_
        go_upto_region 4 with fail
        refine wp_region_lit ?_
        refine q124.t (.int .i64 (j : Int)) (ex_move rfl (q124.e (j := 6) rfl)) fun _ q125 => ?_;clear q124
        refine q125.t (.int .i64 ((j + 1 : Nat) : Int)) (ex_bin rfl (q125.e (j := 12) rfl) rfl (add1C _ _ j (by omega) _)) fun _ q126 => ?_;clear q125
        refine q126.t (.int .i64 ((j + 1 : Nat) : Int)) (ex_assign rfl (q126.e (j := 13) rfl)) fun _ q127 => ?_;clear q126
        have q128 := (((((Rp.nil q127.z).cons (q127.a 0 rfl)).cons (q127.a 1 rfl)).cons (q127.a 5 rfl)).cons (q127.a 6 rfl))
        clear q127
        refine wpList_nil ?_
        exact ⟨_, rfl, hit, v6, q128, b6, by rw [hua, hct]; exact o6⟩
  · obtain rfl : j = l.length := by omega
    rw [List.take_length] at hO
    go_upto_region 3 with fail
    refine wp_region_lit ?_
    refine q100.t (.int .i64 (l.length : Int)) (ex_move rfl (q100.e (j := 6) rfl)) fun _ q101 => ?_;clear q100
    refine q101.t (.slice a l.length c) (ex_move rfl (q101.e (j := 0) rfl)) fun _ q102 => ?_;clear q101
    refine q102.t (.int .i64 (l.length : Int)) (ex_len18 rfl rfl (q102.e (j := 9) rfl)) fun _ q103 => ?_;clear q102
    refine q103.t (.bool false) (ex_bin rfl (q103.e (j := 8) rfl) (q103.e (j := 10) rfl) (ltF _ _ hit _)) fun _ q104 => ?_;clear q103
    refine wpList_nil ?_
    go_upto_region 11 with fail
    refine wp_cond_false (q104.e (j := 11) rfl) ?_
    go_upto_region 11 with fail
    refine wp_region_lit ?_
    refine q104.t (v) (ex_move rfl (q104.e (j := 5) rfl)) fun _ q105 => ?_;clear q104
    refine q105.t (v) (ex_assign rfl (q105.e (j := 33) rfl)) fun _ q106 => ?_;clear q105
    refine wpList_nil ?_
    go_wp2
    refine bodyPost_ret (results_tmp rfl _ _ _) rfl ⟨v, ?_, hO, br⟩
    rw [getD_of (q106.a 4 rfl)]
    rfl

end Go.Proofs.Ytjkleldoeojbbaa

namespace Go.Proofs
open Go.Shelf Go.RowKit Go.Lib Go.Sort
def Try.lays189_ren : Go.Shelf.Ren := ⟨fun | 189 => 50 | 125 => 83 | 257 => 82 | 128 => 114 | 129 => 115 | 294 => 105 | 295 => 106 | 296 => 107 | 297 => 108 | 298 => 109 | 299 => 110 | 216 => 111 | 300 => 112 | 301 => 113 | 328 => 120 | 329 => 121 | 330 => 122 | 331 => 123 | 332 => 124 | 215 => 125 | 343 => 130 | n => n, fun | 28 => 50 | 3 => 3 | 46 => 161 | 0 => 0 | 51 => 207 | 53 => 88 | 4 => 4 | 183 => 200 | 182 => 199 | 131 => 120 | 5 => 5 | 9 => 9 | 218 => 219 | 222 => 223 | 228 => 228 | 229 => 39 | n => n, fun | n => n⟩
theorem Try.lays189 : Go.Proofs.Lays.n189 Try.prog Try.lays189_ren := {
  mixed := by kernel_rfl,
  f125 := Try.func83.trans (congrArg some (by kernel_rfl)),
  f128 := Try.func114.trans (congrArg some (by kernel_rfl)),
  f129 := Try.func115.trans (congrArg some (by kernel_rfl)),
  f189 := Try.func50.trans (congrArg some (by kernel_rfl)),
  f215 := Try.func125.trans (congrArg some (by kernel_rfl)),
  f216 := Try.func111.trans (congrArg some (by kernel_rfl)),
  f257 := Try.func82.trans (congrArg some (by kernel_rfl)),
  f294 := Try.func105.trans (congrArg some (by kernel_rfl)),
  f295 := Try.func106.trans (congrArg some (by kernel_rfl)),
  f296 := Try.func107.trans (congrArg some (by kernel_rfl)),
  f297 := Try.func108.trans (congrArg some (by kernel_rfl)),
  f298 := Try.func109.trans (congrArg some (by kernel_rfl)),
  f299 := Try.func110.trans (congrArg some (by kernel_rfl)),
  f300 := Try.func112.trans (congrArg some (by kernel_rfl)),
  f301 := Try.func113.trans (congrArg some (by kernel_rfl)),
  f328 := Try.func120.trans (congrArg some (by kernel_rfl)),
  f329 := Try.func121.trans (congrArg some (by kernel_rfl)),
  f330 := Try.func122.trans (congrArg some (by kernel_rfl)),
  f331 := Try.func123.trans (congrArg some (by kernel_rfl)),
  f332 := Try.func124.trans (congrArg some (by kernel_rfl)),
  f343 := Try.func130.trans (congrArg some (by kernel_rfl)),
  t0 := Try.underlying0,
  a0 := Try.isAgg0,
  z0 := Try.sizeOf0,
  v0 := Try.zeroValue0,
  t3 := Try.underlying3,
  a3 := Try.isAgg3,
  z3 := Try.sizeOf3,
  v3 := Try.zeroValue3,
  t4 := Try.underlying4,
  a4 := Try.isAgg4,
  z4 := Try.sizeOf4,
  v4 := Try.zeroValue4,
  t5 := Try.underlying5,
  a5 := Try.isAgg5,
  z5 := Try.sizeOf5,
  v5 := Try.zeroValue5,
  t9 := Try.underlying9,
  a9 := Try.isAgg9,
  z9 := Try.sizeOf9,
  v9 := Try.zeroValue9,
  t28 := Try.underlying50,
  a28 := Try.isAgg50,
  z28 := Try.sizeOf50,
  v28 := Try.zeroValue50,
  t46 := Try.underlying161,
  a46 := Try.isAgg161,
  z46 := Try.sizeOf161,
  v46 := Try.zeroValue161,
  t51 := Try.underlying207,
  a51 := Try.isAgg207,
  z51 := Try.sizeOf207,
  v51 := Try.zeroValue207,
  t53 := Try.underlying88,
  a53 := Try.isAgg88,
  z53 := Try.sizeOf88,
  v53 := Try.zeroValue88,
  t131 := Try.underlying120,
  a131 := Try.isAgg120,
  z131 := Try.sizeOf120,
  v131 := Try.zeroValue120,
  t182 := Try.underlying199,
  a182 := Try.isAgg199,
  z182 := Try.sizeOf199,
  v182 := Try.zeroValue199,
  t183 := Try.underlying200,
  a183 := Try.isAgg200,
  z183 := Try.sizeOf200,
  v183 := Try.zeroValue200,
  t218 := Try.underlying219,
  a218 := Try.isAgg219,
  z218 := Try.sizeOf219,
  v218 := Try.zeroValue219,
  t222 := Try.underlying223,
  a222 := Try.isAgg223,
  z222 := Try.sizeOf223,
  v222 := Try.zeroValue223,
  t228 := Try.underlying228,
  a228 := Try.isAgg228,
  z228 := Try.sizeOf228,
  v228 := Try.zeroValue228,
  t229 := Try.underlying39,
  a229 := Try.isAgg39,
  z229 := Try.sizeOf39,
  v229 := Try.zeroValue39 }
end Go.Proofs
namespace Go.Proofs.Ytjkleldoeojbbaa
open Go.RowKit Go.Maps Go.Sort Go.Shelf
open Classical
set_option linter.unusedVariables false
set_option linter.unusedSimpArgs false

theorem fl_N8 : ∀ L : List Int, fl yN L = L.map (Value.int .i64)
  | [] => rfl
  | x :: r => by rw [fl, fl_N8 r]; rfl
/-- Whole numbers from the least on. -/
def srt8 (L : List Int) : List Int := L.mergeSort (fun x y => decide (x ≤ y))
theorem srt8_len (L : List Int) : (srt8 L).length = L.length := List.length_mergeSort L
theorem srt8_mem {L : List Int} {x : Int} : x ∈ srt8 L ↔ x ∈ L := List.mem_mergeSort
theorem srt8_pair (L : List Int) : (srt8 L).Pairwise (fun x y => x ≤ y) := by
  have := List.pairwise_mergeSort (le := fun x y : Int => decide (x ≤ y)) (by intro a b c h1 h2; simp at *; omega) (by intro a b; simp; omega) L
  unfold srt8
  simpa using this
set_option maxRecDepth 100000 in
/-- slices.Sort of a row of the call's own. -/
theorem sortN18 (L : List Int) (B : Nat) (v : Value) (w : World) (h : OwnY yN B w v L) (hm : L.length * 8 ≤ 281474976710656) :
    Calls Try.prog 50 #[v] w fun e w' => e = .returned (.tuple #[]) ∧ OwnY yN B w' v (srt8 L) ∧ w.grownBy w' v.ownBlock := by
  rcases h with ⟨h0, ⟨h1, h2⟩ | ⟨g, cap, cur, e1, e2, e3, e4, e5, e6, e7⟩⟩
  · subst h1
    have hL : L = [] := List.eq_nil_of_length_eq_zero h2
    subst hL
    have hc := Any.slices_Sort_int_none Try.lays189 none 0 w
    change Calls Try.prog 50 _ _ _ at hc
    refine hc.mono fun e w' hq => ?_
    obtain ⟨rfl, rfl⟩ := hq
    exact ⟨rfl, by rw [show srt8 [] = [] by simp [srt8]]; exact OwnY.nil _ _ _, World.grownBy.refl _ _⟩
  · subst e1
    have e7' : cur.toList.take L.length = L.map (Value.int .i64) := by
      rw [← fl_N8]
      rw [show L.length * yN.k = L.length from Nat.mul_one _] at e7
      exact e7
    have hc := Any.slices_Sort_int Try.lays189 g 0 cap L w (holds_of_blockI e3 e7') (Array.getElem?_eq_some_iff.1 e3).1 (by omega)
    change Calls Try.prog 50 _ _ _ at hc
    refine hc.mono fun e w' hq => ?_
    obtain ⟨rfl, k, os, rfl⟩ := hq
    refine ⟨rfl, ?_, grownBy_sortedI _⟩
    unfold OwnY
    rw [srt8_len, fl_N8]
    exact ownsRow_sortedI (ss := L) (ts := srt8 L) (srt8_len L) e2 e3 e4 e5 (by rw [e6]; rfl)
/-- When the answers came. -/
def enL (l : List Kl) : List Int := (l.filter ansK).map (·.e)
def badR (l : List Kl) (r : Int) : Bool := !(lst (upR l r)).isSome
def wrs (l : List Kl) : Int := ((srt8 (enL l)).find? (badR l)).getD (-1)
def woR (l : List Kl) : Int × Int := if srE l ≠ 0 then (0, srE l) else (wrs l, 0)
theorem enL_at {l : List Kl} {j : Nat} {x : Kl} (h : l[j]? = some x) : enL (l.take (j + 1)) = enL (l.take j) ++ (if ansK x then [x.e] else []) := by
  obtain ⟨hj, rfl⟩ := List.getElem?_eq_some_iff.1 h
  unfold enL
  rw [List.take_succ_eq_append_getElem hj, List.filter_append, List.map_append]
  congr 1
  by_cases h : ansK l[j] <;> simp [h]
theorem enL_len (l : List Kl) : (enL l).length ≤ l.length := by unfold enL; rw [List.length_map]; exact List.length_filter_le _ _
theorem enL_mem {l : List Kl} {r : Int} : r ∈ enL l ↔ ∃ x ∈ l, ansK x = true ∧ x.e = r := by
  unfold enL
  simp [and_assoc]
theorem srE_zero {l : List Kl} (h : srE l = 0) : kchk l = 0 ∧ l.length ≤ 8 := by
  unfold srE at h
  split at h
  · rename_i hk; exact absurd h hk
  · rename_i hk
    split at h
    · cases h
    · exact ⟨by simpa using hk, by omega⟩
theorem wrs_first {l : List Kl} {i : Nat} {r : Int} (h : (srt8 (enL l))[i]? = some r) (h1 : ∀ z ∈ (srt8 (enL l)).take i, badR l z = false) (h2 : badR l r = true) : wrs l = r := by
  obtain ⟨hi, rfl⟩ := List.getElem?_eq_some_iff.1 h
  unfold wrs
  have e : srt8 (enL l) = (srt8 (enL l)).take i ++ (srt8 (enL l))[i] :: (srt8 (enL l)).drop (i + 1) := by rw [← List.drop_eq_getElem_cons hi, List.take_append_drop]
  have : (srt8 (enL l)).find? (badR l) = some (srt8 (enL l))[i] := List.find?_eq_some_iff_append.2 ⟨h2, _, _, e, fun a ha => by rw [h1 a ha]; rfl⟩
  rw [this]
  rfl
theorem wrs_none {l : List Kl} (h : ∀ x ∈ l, ansK x = true → badR l x.e = false) : wrs l = -1 := by
  unfold wrs
  have : (srt8 (enL l)).find? (badR l) = none := List.find?_eq_none.2 fun r hr => by
    obtain ⟨x, hx, ha, rfl⟩ := enL_mem.1 (srt8_mem.1 hr)
    rw [h x hx ha]
    simp
  rw [this]
  rfl
/-- The least end of the first j that leaves no witness. -/
def Wst (l : List Kl) (j : Nat) (z : Int) : Prop := (z = -1 ∧ ∀ x ∈ l.take j, ansK x = true → badR l x.e = false) ∨ (0 ≤ z ∧ badR l z = true ∧ (∃ x ∈ l.take j, ansK x = true ∧ x.e = z) ∧ ∀ x ∈ l.take j, ansK x = true → badR l x.e = true → z ≤ x.e)
theorem Wst.end_ {l : List Kl} {z : Int} (h : Wst l l.length z) : z = wrs l := by
  unfold Wst at h
  rw [List.take_length] at h
  rcases h with ⟨rfl, h⟩ | ⟨h0, h1, ⟨x, hx, hxa, hxe⟩, h2⟩
  · exact (wrs_none h).symm
  · have hz : z ∈ srt8 (enL l) := srt8_mem.2 (enL_mem.2 ⟨x, hx, hxa, hxe⟩)
    cases hf : (srt8 (enL l)).find? (badR l) with
    | none => exact absurd h1 (by have := List.find?_eq_none.1 hf z hz; simpa using this)
    | some r =>
      have hw : wrs l = r := by unfold wrs; rw [hf]; rfl
      obtain ⟨hr, A, C, e, has⟩ := List.find?_eq_some_iff_append.1 hf
      have hrm : r ∈ srt8 (enL l) := by rw [e]; simp
      obtain ⟨y, hy, hya, hye⟩ := enL_mem.1 (srt8_mem.1 hrm)
      have h3 : z ≤ r := by rw [← hye]; exact h2 y hy hya (by rw [hye]; exact hr)
      have h4 : r ≤ z := by
        have hp := srt8_pair (enL l)
        rw [e] at hz hp
        rcases List.mem_append.1 hz with hz | hz
        · have := has z hz; rw [h1] at this; simp at this
        · rcases List.mem_cons.1 hz with rfl | hz
          · omega
          · exact List.rel_of_pairwise_cons (List.pairwise_append.1 hp).2.1 hz
      omega
theorem Wst.step {l : List Kl} {j : Nat} {z : Int} {x : Kl} (h : Wst l j z) (hx : l[j]? = some x) :
    Wst l (j + 1) (if x.e < 0 ∨ (0 ≤ z ∧ z ≤ x.e) then z else if badR l x.e then x.e else z) := by
  obtain ⟨hj, rfl⟩ := List.getElem?_eq_some_iff.1 hx
  unfold Wst at h ⊢
  rw [List.take_succ_eq_append_getElem hj]
  have hans : ∀ y : Kl, ansK y = true ↔ 0 ≤ y.e := fun y => by unfold ansK; simp
  split
  · rename_i hc
    rcases h with ⟨rfl, h⟩ | ⟨h0, h1, ⟨y, hy, hya, hye⟩, h2⟩
    · refine .inl ⟨rfl, fun y hy hya => ?_⟩
      rcases List.mem_append.1 hy with hy | hy
      · exact h y hy hya
      · simp at hy; subst hy; rw [hans] at hya; omega
    · refine .inr ⟨h0, h1, ⟨y, List.mem_append.2 (.inl hy), hya, hye⟩, fun y hy hya hyb => ?_⟩
      rcases List.mem_append.1 hy with hy | hy
      · exact h2 y hy hya hyb
      · simp at hy; subst hy; rw [hans] at hya; omega
  · rename_i hc
    split
    · rename_i hb
      refine .inr ⟨by omega, hb, ⟨l[j], List.mem_append.2 (.inr (List.mem_singleton.2 rfl)), (hans _).2 (by omega), rfl⟩, fun y hy hya hyb => ?_⟩
      rcases List.mem_append.1 hy with hy | hy
      · rcases h with ⟨rfl, h⟩ | ⟨h0, h1, _, h2⟩
        · rw [h y hy hya] at hyb; cases hyb
        · have := h2 y hy hya hyb; omega
      · simp at hy; subst hy; omega
    · rename_i hb
      have hb : badR l l[j].e = false := by simpa using hb
      rcases h with ⟨rfl, h⟩ | ⟨h0, h1, ⟨y, hy, hya, hye⟩, h2⟩
      · refine .inl ⟨rfl, fun y hy hya => ?_⟩
        rcases List.mem_append.1 hy with hy | hy
        · exact h y hy hya
        · simp at hy; subst hy; exact hb
      · refine .inr ⟨h0, h1, ⟨y, List.mem_append.2 (.inl hy), hya, hye⟩, fun y hy hya hyb => ?_⟩
        rcases List.mem_append.1 hy with hy | hy
        · exact h2 y hy hya hyb
        · simp at hy; subst hy; rw [hb] at hyb; cases hyb
theorem wrs_good {l : List Kl} (h8 : l.length ≤ 8) (h : (lst l).isSome = true) : wrs l = -1 := wrs_none fun x _ _ => by unfold badR; rw [lst_upR l x.e h8 h]; rfl
set_option maxRecDepth 100000 in
set_option maxHeartbeats 2000000 in
theorem worst18 (l : List Kl) (a : Option Addr) (c : Nat) (w : World) (h : SlY yK w a l.length c l) (hfx : ∀ x ∈ l, x.fits) (hb96 : l.length * 96 ≤ 140737488351232) :
    Calls Try.prog 20 #[.slice a l.length c] w fun e w' => e = .returned (.tuple #[.int .i64 (woR l).1, .int .i64 (woR l).2]) ∧ Below w.heap.size w w' := by
  go_enter Try.func20, Try.ntmps20
  go_upto_region 0 with fail
  refine wp_region_lit ?_
  refine vl_gen (fun T => Rp T 50 [(0, gw true (.slice a l.length c))]) ((Rp.nil rfl).cons rfl) (fun Z0 q0 => ?_)
  refine q0.t (.int .i64 0) (ex_assign rfl rfl) fun _ q1 => ?_;clear q0
  refine q1.t (.int .i64 0) (ex_assign rfl rfl) fun _ q2 => ?_;clear q1
  refine wpList_nil ?_
  go_upto_region 1 with fail
  refine wp_region_lit ?_
  refine q2.t (.slice a l.length c) (ex_move rfl (q2.e (j := 0) rfl)) fun _ q3 => ?_;clear q2
  refine vcallP (want_none rfl) (ex_call rfl (by simp only [List.map_toArray, List.map_cons, List.map_nil, (q3.e (j := 12) rfl), evc] <;> rfl) rfl) (few_any l a c w h hfx) rfl q3.z (by decide) ?_
  rintro e w1 ⟨rfl, b1⟩
  refine ⟨_, rfl, q3.k fun _ q4 => ?_⟩;clear q3
  have z1 := b1.size
  refine q4.t (.int .i64 (srE l : Int)) (ex_assign rfl (q4.e (j := 13) rfl)) fun _ q5 => ?_;clear q4
  refine wpList_nil ?_
  go_upto_region 2 with fail
  refine wp_region_lit ?_
  refine q5.t (.int .i64 (srE l : Int)) (ex_move rfl (q5.e (j := 4) rfl)) fun _ q6 => ?_;clear q5
  refine q6.t (.bool (!decide (srE l = 0))) (ex_bin rfl (q6.e (j := 14) rfl) rfl (neqE18 _ _ _ _ _)) fun _ q7 => ?_;clear q6
  have q8 := ((((Rp.nil q7.z).cons (q7.a 0 rfl)).cons (q7.a 4 rfl)).cons (q7.a 15 rfl))
  clear q7
  refine wpList_nil ?_
  by_cases hk : srE l = 0
  · obtain ⟨hk0, h8⟩ := srE_zero hk
    have q8x := q8.a 15 rfl
    rw [hk] at q8x
    have hW : woR l = (wrs l, 0) := by unfold woR; rw [if_neg (by simp [hk])]
    go_upto_region 4 with fail
    refine wp_cond_false (ev q8x rfl) ?_
    clear q8x
    go_upto_region 4 with fail
    refine wp_region_lit ?_
    refine q8.t (.slice none 0 0) (ex_assign rfl rfl) fun _ q9 => ?_;clear q8
    refine wpList_nil ?_
    go_upto_region 5 with fail
    refine wp_region_lit ?_
    refine q9.t (.slice a l.length c) (ex_move rfl (q9.e (j := 0) rfl)) fun _ q10 => ?_;clear q9
    refine q10.t (.int .i64 (l.length : Int)) (ex_len18 rfl rfl (q10.e (j := 17) rfl)) fun _ q11 => ?_;clear q10
    refine q11.t (.int .i64 ((0 : Nat) : Int)) (ex_move rfl rfl) fun _ q12 => ?_;clear q11
    have q13 := ((((((Rp.nil q12.z).cons (q12.a 0 rfl)).cons (q12.a 5 rfl)).cons (q12.a 17 rfl)).cons (q12.a 18 rfl)).cons (q12.a 19 rfl))
    clear q12
    refine wpList_nil ?_
    go_upto_region 6 with fail
    refine v_loop 19 l.length (fun j T wr => ∃ v, Rp T 50 [(19, gw true (.int .i64 (j : Int))), (18, gw true (.int .i64 (l.length : Int))), (17, gw true (.slice a l.length c)), (5, gw true v), (0, gw true (.slice a l.length c))] ∧ Hid (Below w.heap.size w wr ∧ OwnY yN w.heap.size wr v (enL (l.take j)))) (fun j T w h => by obtain ⟨v, h, _⟩ := h; exact h.a 19 rfl) ⟨_, q13, b1, OwnY.nil _ _ _⟩ ?_
    clear q13
    intro j T wr hj hh
    obtain ⟨v, q100, HJ⟩ := hh
    obtain ⟨br, hO⟩ := HJ.out
    clear HJ
    have zr := br.size
    by_cases hit : j < l.length
    · obtain ⟨x, hx⟩ : ∃ x, l[j]? = some x := ⟨_, List.getElem?_eq_getElem hit⟩
      obtain ⟨qa, oa, hqa, hqal, hlie⟩ := (h.on br (Nat.le_refl _)).place (by rintro rfl; simp at hit)
      have hua := enL_at hx
      have hul := enL_len (l.take j)
      rw [List.length_take] at hul
      go_upto_region 6 with fail
      refine wp_region_lit ?_
      refine q100.t (.bool true) (ex_bin rfl (q100.e (j := 19) rfl) (q100.e (j := 18) rfl) (ltT _ _ hit _)) fun _ q101 => ?_;clear q100
      refine wpList_nil ?_
      go_upto_region 7 with fail
      refine wp_cond_true (q101.e (j := 20) rfl) ?_
      go_upto_region 7 with fail
      refine wp_region_lit ?_
      refine q101.t (.pointer (some ⟨qa, oa + j * 10, none⟩)) (ex_ix rfl (q101.e (j := 17) rfl) (q101.e (j := 19) rfl) (by rw [hqa]; exact ixK qa oa l.length c j hit _)) fun _ q102 => ?_;clear q101
      refine q102.t (x.val) (ex_ld rfl (q102.e (j := 21) rfl) (ldEl hlie hx)) fun _ q103 => ?_;clear q102
      obtain ⟨r1, hr1⟩ : ∃ y, y = wr.alloc (.cells zK.cs.toArray 66) := ⟨_, rfl⟩
      refine vw (.pointer (some ⟨wr.heap.size, 0, none⟩)) r1 (want_none rfl) (ex_al rfl (by rw [hr1]; exact alK _)) rfl q103.z (by decide) (q103.k fun _ q104 => ?_);clear q103
      have Bz : BB r1 wr.heap.size 66 zK.cs := by rw [hr1]; exact BB.new _ _ _
      have hr1b : Below wr.heap.size wr r1 := by rw [hr1]; exact (Below.refl _ _).alloc (Nat.le_refl _) _
      clear hr1
      obtain ⟨r2, hr2⟩ : ∃ y, y = r1.setCells wr.heap.size 0 x.cs := ⟨_, rfl⟩
      refine vs r2 (want_none rfl) (ex_st rfl (q104.e (j := 7) rfl) (q104.e (j := 22) rfl) (by rw [hr2]; exact Bz.stK)) rfl ?_
      have B2 : BB r2 wr.heap.size 66 x.cs := by rw [hr2]; exact Bz.whole _ rfl
      have hr2b : Below wr.heap.size wr r2 := by rw [hr2]; exact hr1b.trans (bel_ge (upd18 _ _ _ _) hr1b.size (Nat.le_refl _))
      clear hr2 Bz hr1b
      have y2 := hr2b.size
      refine wpList_nil ?_
      go_upto_region 8 with fail
      refine wp_region_lit ?_
      refine q104.t (x.val) (ex_ld rfl (q104.e (j := 7) rfl) B2.ldK) fun _ q105 => ?_;clear q104
      refine vcallP (want_none rfl) (ex_call rfl (by simp only [List.map_toArray, List.map_cons, List.map_nil, (q105.e (j := 23) rfl), evc] <;> rfl) rfl) (isAnswered_any x r2) rfl q105.z (by decide) ?_
      rintro e r3 ⟨rfl, hr3b⟩
      refine ⟨_, rfl, q105.k fun _ q106 => ?_⟩;clear q105
      have y3 := hr3b.size
      have B3 := B2.later hr3b
      have hr3w : Below wr.heap.size wr r3 := hr2b.trans (hr3b.mono y2)
      have O3 := hO.grow hr3w
      have bw3 : Below w.heap.size w r3 := br.trans (hr3w.mono zr)
      have q107 := ((((((((Rp.nil q106.z).cons (q106.a 0 rfl)).cons (q106.a 5 rfl)).cons (q106.a 7 rfl)).cons (q106.a 17 rfl)).cons (q106.a 18 rfl)).cons (q106.a 19 rfl)).cons (q106.a 24 rfl))
      clear q106
      refine wpList_nil ?_
      cases hs : ansK x with
      | false =>
        have q107x := q107.a 24 rfl
        rw [hs] at q107x
        rw [hs, if_neg (by simp), List.append_nil] at hua
        go_upto_region 10 with fail
        refine wp_cond_false (ev q107x rfl) ?_
        clear q107x
        go_upto_region 10 with fail
        refine wp_region_lit ?_
        refine q107.t (.int .i64 ((j + 1 : Nat) : Int)) (ex_bin rfl (q107.e (j := 19) rfl) rfl (add1C _ _ j (by omega) _)) fun _ q108 => ?_;clear q107
        refine q108.t (.int .i64 ((j + 1 : Nat) : Int)) (ex_move rfl (q108.e (j := 30) rfl)) fun _ q109 => ?_;clear q108
        have q110 := ((((((Rp.nil q109.z).cons (q109.a 0 rfl)).cons (q109.a 5 rfl)).cons (q109.a 17 rfl)).cons (q109.a 18 rfl)).cons (q109.a 19 rfl))
        clear q109
        refine wpList_nil ?_
        exact ⟨_, rfl, hit, _, q110, bw3, by rw [hua]; exact O3⟩
      | true =>
        have q107x := q107.a 24 rfl
        rw [hs] at q107x
        rw [hs, if_pos rfl] at hua
        go_upto_region 9 with fail
        refine wp_cond_true (ev q107x rfl) ?_
        clear q107x
        go_upto_region 9 with fail
        refine wp_region_lit ?_
        refine q107.t (v) (ex_move rfl (q107.e (j := 5) rfl)) fun _ q108 => ?_;clear q107
        refine q108.t (.pointer (some ⟨wr.heap.size, 6, none⟩)) (ex_fa rfl (q108.e (j := 7) rfl) (faK4 _ _)) fun _ q109 => ?_;clear q108
        refine q109.t (.int .i64 x.e) (ex_ld rfl (q109.e (j := 26) rfl) (ldI18 ((B3.cell 6).trans rfl))) fun _ q110 => ?_;clear q109
        obtain ⟨r5, hr5⟩ : ∃ z, z = r3.alloc (.cells #[.int .i64 x.e] 3) := ⟨_, rfl⟩
        refine vw (.slice (some ⟨r3.heap.size, 0, none⟩) 1 1) r5 (want_none rfl) (ex_bs18 rfl (q110.e (j := 27) rfl) (by rw [hr5]; exact bsN _ _)) rfl q110.z (by decide) (q110.k fun _ q111 => ?_);clear q110
        have s5 : SlY yN r5 (some ⟨r3.heap.size, 0, none⟩) 1 1 [x.e] := by rw [hr5]; exact sl_box (Y := yN) r3 x.e 3
        have b5 : Below r3.heap.size r3 r5 := by rw [hr5]; exact (Below.refl _ _).alloc (Nat.le_refl _) _
        clear hr5
        have y5 := b5.size
        have zz := bw3.size
        obtain ⟨v6, r6, ha6, o6, g6, _⟩ := run_appY kN r5 50 w.heap.size _ v _ 1 1 [x.e] s5 (O3.grow b5) (by omega) (by unfold maxLen; omega) (by show ((enL (l.take j)).length + 1) * 8 ≤ _; omega)
        have b6 : Below w.heap.size w r6 := (bw3.trans (b5.mono (by omega))).grown g6 (by omega) (fun k hk => (O3.blk k hk).1)
        refine vw (v6) r6 (want_none rfl) (ex_app18 rfl (q111.e (j := 25) rfl) (q111.e (j := 28) rfl) ha6) rfl q111.z (by decide) (q111.k fun _ q112 => ?_);clear q111
        refine q112.t (v6) (ex_assign rfl (q112.e (j := 29) rfl)) fun _ q113 => ?_;clear q112
        refine wpList_nil ?_
        go_upto_region 10 with fail
        refine wp_region_lit ?_
        refine q113.t (.int .i64 ((j + 1 : Nat) : Int)) (ex_bin rfl (q113.e (j := 19) rfl) rfl (add1C _ _ j (by omega) _)) fun _ q114 => ?_;clear q113
        refine q114.t (.int .i64 ((j + 1 : Nat) : Int)) (ex_move rfl (q114.e (j := 30) rfl)) fun _ q115 => ?_;clear q114
        have q116 := ((((((Rp.nil q115.z).cons (q115.a 0 rfl)).cons (q115.a 5 rfl)).cons (q115.a 17 rfl)).cons (q115.a 18 rfl)).cons (q115.a 19 rfl))
        clear q115
        refine wpList_nil ?_
        exact ⟨_, rfl, hit, v6, q116, b6, by rw [hua]; exact o6⟩
    · obtain rfl : j = l.length := by omega
      rw [List.take_length] at hO
      have hel := enL_len l
      have hsl := srt8_len (enL l)
      go_upto_region 6 with fail
      refine wp_region_lit ?_
      refine q100.t (.bool false) (ex_bin rfl (q100.e (j := 19) rfl) (q100.e (j := 18) rfl) (ltF _ _ hit _)) fun _ q101 => ?_;clear q100
      refine wpList_nil ?_
      go_upto_region 11 with fail
      refine wp_cond_false (q101.e (j := 20) rfl) ?_
      go_upto_region 11 with fail
      refine wp_region_lit ?_
      refine q101.t (v) (ex_move rfl (q101.e (j := 5) rfl)) fun _ q102 => ?_;clear q101
      refine vcallP (want_none rfl) (ex_call rfl (by simp only [List.map_toArray, List.map_cons, List.map_nil, (q102.e (j := 31) rfl), evc] <;> rfl) rfl) (sortN18 (enL l) w.heap.size v wr hO (by omega)) rfl q102.z (by decide) ?_
      rintro e r1 ⟨rfl, o1, g1⟩
      refine ⟨_, rfl, q102.k fun _ q103 => ?_⟩;clear q102
      have br1 : Below w.heap.size w r1 := br.grown g1 zr (fun k hk => (hO.blk k hk).1)
      have zr1 := br1.size
      obtain ⟨a9, c9, rfl, s9, _⟩ := o1.sl kN
      refine wpList_nil ?_
      go_upto_region 12 with fail
      refine wp_region_lit ?_
      refine q103.t (.slice a9 (srt8 (enL l)).length c9) (ex_move rfl (q103.e (j := 5) rfl)) fun _ q104 => ?_;clear q103
      refine q104.t (.int .i64 ((srt8 (enL l)).length : Int)) (ex_lenN18 rfl rfl (q104.e (j := 33) rfl)) fun _ q105 => ?_;clear q104
      refine q105.t (.int .i64 ((0 : Nat) : Int)) (ex_move rfl rfl) fun _ q106 => ?_;clear q105
      have q107 := (((((Rp.nil q106.z).cons (q106.a 0 rfl)).cons (q106.a 33 rfl)).cons (q106.a 34 rfl)).cons (q106.a 35 rfl))
      clear q106
      refine wpList_nil ?_
      go_upto_region 13 with fail
      refine v_loop 35 (srt8 (enL l)).length (fun i T u => Rp T 50 [(35, gw true (.int .i64 (i : Int))), (34, gw true (.int .i64 ((srt8 (enL l)).length : Int))), (33, gw true (.slice a9 (srt8 (enL l)).length c9)), (0, gw true (.slice a l.length c))] ∧ Hid (Below r1.heap.size r1 u ∧ ∀ z ∈ (srt8 (enL l)).take i, badR l z = false)) (fun i T w h => h.1.a 35 rfl) ⟨q107, Below.refl _ _, by simp⟩ ?_
      clear q107
      intro i T2 u hi hh2
      obtain ⟨q200, HJ⟩ := hh2
      obtain ⟨bu, hno⟩ := HJ.out
      clear HJ
      have zu := bu.size
      have buw : Below w.heap.size w u := br1.trans (bu.mono zr1)
      by_cases his : i < (srt8 (enL l)).length
      · obtain ⟨e, he⟩ : ∃ e, (srt8 (enL l))[i]? = some e := ⟨_, List.getElem?_eq_getElem his⟩
        obtain ⟨qb, ob, hqb, hqbl, hcb⟩ := (s9.on bu (Nat.le_refl _)).nm he
        go_upto_region 13 with fail
        refine wp_region_lit ?_
        refine q200.t (.bool true) (ex_bin rfl (q200.e (j := 35) rfl) (q200.e (j := 34) rfl) (ltT _ _ his _)) fun _ q201 => ?_;clear q200
        refine wpList_nil ?_
        go_upto_region 14 with fail
        refine wp_cond_true (q201.e (j := 36) rfl) ?_
        go_upto_region 14 with fail
        refine wp_region_lit ?_
        refine q201.t (.pointer (some ⟨qb, ob + i, none⟩)) (ex_ix rfl (q201.e (j := 33) rfl) (q201.e (j := 35) rfl) (by rw [hqb]; exact ixN18 qb ob _ c9 i his _)) fun _ q202 => ?_;clear q201
        refine q202.t (.int .i64 e) (ex_ld rfl (q202.e (j := 37) rfl) (ldI18 hcb)) fun _ q203 => ?_;clear q202
        refine q203.t (.int .i64 e) (ex_assign rfl (q203.e (j := 38) rfl)) fun _ q204 => ?_;clear q203
        refine wpList_nil ?_
        go_upto_region 15 with fail
        refine wp_region_lit ?_
        refine q204.t (.slice a l.length c) (ex_move rfl (q204.e (j := 0) rfl)) fun _ q205 => ?_;clear q204
        refine q205.t (.int .i64 e) (ex_move rfl (q205.e (j := 9) rfl)) fun _ q206 => ?_;clear q205
        refine vcallP (want_none rfl) (ex_call rfl (by simp only [List.map_toArray, List.map_cons, List.map_nil, (q206.e (j := 40) rfl), (q206.e (j := 41) rfl), evc] <;> rfl) rfl) (upTo18 l a c e u (h.on buw (Nat.le_refl _)) hb96) rfl q206.z (by decide) ?_
        rintro e u1 ⟨v1, rfl, o2, bu1⟩
        refine ⟨_, rfl, q206.k fun _ q207 => ?_⟩;clear q206
        have zu1 := bu1.size
        obtain ⟨a5, c5, rfl, s5, _⟩ := o2.sl kK
        refine vcallP (want_none rfl) (ex_call rfl (by simp only [List.map_toArray, List.map_cons, List.map_nil, (q207.e (j := 42) rfl), evc] <;> rfl) rfl) (least_any (upR l e) a5 c5 u1 s5 (Nat.le_trans (upR_len l e) h8) (upR_fits hfx)) rfl q207.z (by decide) ?_
        rintro e u2 ⟨v2, rfl, o3, bu2⟩
        refine ⟨_, rfl, q207.k fun _ q208 => ?_⟩;clear q207
        have b2u : Below r1.heap.size r1 u2 := bu.trans ((bu1.trans (bu2.mono zu1)).mono zu)
        refine q208.t (.tuple #[v2, .bool (lst (upR l e)).isSome]) (ex_move rfl (q208.e (j := 43) rfl)) fun _ q209 => ?_;clear q208
        refine q209.t (v2) (ex_ext18 rfl (q209.e (j := 39) rfl) rfl) fun _ q210 => ?_;clear q209
        refine q210.t (.bool (lst (upR l e)).isSome) (ex_ext18 rfl (q210.e (j := 39) rfl) rfl) fun _ q211 => ?_;clear q210
        refine q211.t (v2) (ex_assign rfl (q211.e (j := 44) rfl)) fun _ q212 => ?_;clear q211
        refine q212.t (.bool (lst (upR l e)).isSome) (ex_assign rfl (q212.e (j := 45) rfl)) fun _ q213 => ?_;clear q212
        refine wpList_nil ?_
        go_upto_region 16 with fail
        refine wp_region_lit ?_
        refine q213.t (.bool (lst (upR l e)).isSome) (ex_move rfl (q213.e (j := 11) rfl)) fun _ q214 => ?_;clear q213
        refine q214.t (.bool (badR l e)) (ex_not rfl (q214.e (j := 46) rfl)) fun _ q215 => ?_;clear q214
        have q216 := (((((((Rp.nil q215.z).cons (q215.a 0 rfl)).cons (q215.a 9 rfl)).cons (q215.a 33 rfl)).cons (q215.a 34 rfl)).cons (q215.a 35 rfl)).cons (q215.a 47 rfl))
        clear q215
        refine wpList_nil ?_
        cases hb : badR l e with
        | true =>
          have q216x := q216.a 47 rfl
          rw [hb] at q216x
          have hE : woR l = (e, 0) := by rw [hW, wrs_first he hno hb]
          go_upto_region 17 with fail
          refine wp_cond_true (ev q216x rfl) ?_
          clear q216x
          go_upto_region 17 with fail
          refine wp_region_lit ?_
          refine q216.t (.int .i64 e) (ex_move rfl (q216.e (j := 9) rfl)) fun _ q217 => ?_;clear q216
          refine q217.t (.int .i64 e) (ex_assign rfl (q217.e (j := 48) rfl)) fun _ q218 => ?_;clear q217
          refine q218.t (.int .i64 0) (ex_assign rfl rfl) fun _ q219 => ?_;clear q218
          refine wpList_nil ?_
          go_wp2
          exact bodyPost_ret (results2_18 rfl (q219.a 2 rfl) (q219.a 3 rfl)) rfl ⟨by rw [hE], br1.trans (b2u.mono zr1)⟩
        | false =>
          have q216x := q216.a 47 rfl
          rw [hb] at q216x
          go_upto_region 18 with fail
          refine wp_cond_false (ev q216x rfl) ?_
          clear q216x
          go_upto_region 18 with fail
          refine wp_region_lit ?_
          refine q216.t (.int .i64 ((i + 1 : Nat) : Int)) (ex_bin rfl (q216.e (j := 35) rfl) rfl (add1C _ _ i (by omega) _)) fun _ q217 => ?_;clear q216
          refine q217.t (.int .i64 ((i + 1 : Nat) : Int)) (ex_move rfl (q217.e (j := 49) rfl)) fun _ q218 => ?_;clear q217
          have q219 := (((((Rp.nil q218.z).cons (q218.a 0 rfl)).cons (q218.a 33 rfl)).cons (q218.a 34 rfl)).cons (q218.a 35 rfl))
          clear q218
          refine wpList_nil ?_
          exact ⟨_, rfl, his, q219, b2u, fun z hz => by
            rw [List.take_add_one, he] at hz
            rcases List.mem_append.1 hz with hz | hz
            · exact hno z hz
            · simp at hz; subst hz; exact hb⟩
      · obtain rfl : i = (srt8 (enL l)).length := by omega
        rw [List.take_length] at hno
        have hE : woR l = (-1, 0) := by rw [hW, wrs_none (fun x hx ha => hno _ (srt8_mem.2 (enL_mem.2 ⟨x, hx, ha, rfl⟩)))]
        go_upto_region 13 with fail
        refine wp_region_lit ?_
        refine q200.t (.bool false) (ex_bin rfl (q200.e (j := 35) rfl) (q200.e (j := 34) rfl) (ltF _ _ his _)) fun _ q201 => ?_;clear q200
        refine wpList_nil ?_
        go_upto_region 19 with fail
        refine wp_cond_false (q201.e (j := 36) rfl) ?_
        go_upto_region 19 with fail
        refine wp_region_lit ?_
        refine q201.t (.int .i64 (-1)) (ex_assign rfl rfl) fun _ q202 => ?_;clear q201
        refine q202.t (.int .i64 0) (ex_assign rfl rfl) fun _ q203 => ?_;clear q202
        refine wpList_nil ?_
        go_wp2
        exact bodyPost_ret (results2_18 rfl (q203.a 2 rfl) (q203.a 3 rfl)) rfl ⟨by rw [hE], buw⟩
  · have hE : woR l = (0, srE l) := by unfold woR; rw [if_pos hk]
    have q8x := q8.a 15 rfl
    rw [decide_eq_false hk] at q8x
    go_upto_region 3 with fail
    refine wp_cond_true (ev q8x rfl) ?_
    clear q8x
    go_upto_region 3 with fail
    refine wp_region_lit ?_
    refine q8.t (.int .i64 (srE l : Int)) (ex_move rfl (q8.e (j := 4) rfl)) fun _ q9 => ?_;clear q8
    refine q9.t (.int .i64 0) (ex_assign rfl rfl) fun _ q10 => ?_;clear q9
    refine q10.t (.int .i64 (srE l : Int)) (ex_assign rfl (q10.e (j := 16) rfl)) fun _ q11 => ?_;clear q10
    refine wpList_nil ?_
    go_wp2
    exact bodyPost_ret (results2_18 rfl (q11.a 2 rfl) (q11.a 3 rfl)) rfl ⟨by rw [hE], b1⟩
set_option maxRecDepth 100000 in
set_option maxHeartbeats 2000000 in
theorem refWorst18 (l : List Kl) (a : Option Addr) (c : Nat) (w : World) (h : SlY yK w a l.length c l) (hfx : ∀ x ∈ l, x.fits) (hb96 : l.length * 96 ≤ 140737488351232) :
    Calls Try.prog 21 #[.slice a l.length c] w fun e w' => e = .returned (.tuple #[.int .i64 (woR l).1, .int .i64 (woR l).2]) ∧ Below w.heap.size w w' := by
  go_enter Try.func21, Try.ntmps21
  go_upto_region 0 with fail
  refine wp_region_lit ?_
  refine vl_gen (fun T => Rp T 55 [(0, gw true (.slice a l.length c))]) ((Rp.nil rfl).cons rfl) (fun Z0 q0 => ?_)
  refine q0.t (.int .i64 0) (ex_assign rfl rfl) fun _ q1 => ?_;clear q0
  refine q1.t (.int .i64 0) (ex_assign rfl rfl) fun _ q2 => ?_;clear q1
  refine wpList_nil ?_
  go_upto_region 1 with fail
  refine wp_region_lit ?_
  refine q2.t (.slice a l.length c) (ex_move rfl (q2.e (j := 0) rfl)) fun _ q3 => ?_;clear q2
  refine vcallP (want_none rfl) (ex_call rfl (by simp only [List.map_toArray, List.map_cons, List.map_nil, (q3.e (j := 13) rfl), evc] <;> rfl) rfl) (refSearch18 l a c w h hfx (by omega)) rfl q3.z (by decide) ?_
  rintro e w1 ⟨a7, n7, c7, rfl, s7, b1⟩
  refine ⟨_, rfl, q3.k fun _ q4 => ?_⟩;clear q3
  have z1 := b1.size
  refine q4.t (.tuple #[.slice a7 n7 c7, .bool (srA l).isSome, .int .i64 (srE l : Int)]) (ex_move rfl (q4.e (j := 14) rfl)) fun _ q5 => ?_;clear q4
  refine q5.t (.slice a7 n7 c7) (ex_ext18 rfl (q5.e (j := 12) rfl) rfl) fun _ q6 => ?_;clear q5
  refine q6.t (.bool (srA l).isSome) (ex_ext18 rfl (q6.e (j := 12) rfl) rfl) fun _ q7 => ?_;clear q6
  refine q7.t (.int .i64 (srE l : Int)) (ex_ext18 rfl (q7.e (j := 12) rfl) rfl) fun _ q8 => ?_;clear q7
  refine q8.t (.slice a7 n7 c7) (ex_assign rfl (q8.e (j := 15) rfl)) fun _ q9 => ?_;clear q8
  refine q9.t (.bool (srA l).isSome) (ex_assign rfl (q9.e (j := 16) rfl)) fun _ q10 => ?_;clear q9
  refine q10.t (.int .i64 (srE l : Int)) (ex_assign rfl (q10.e (j := 17) rfl)) fun _ q11 => ?_;clear q10
  refine wpList_nil ?_
  go_upto_region 2 with fail
  refine wp_region_lit ?_
  refine q11.t (.int .i64 (srE l : Int)) (ex_move rfl (q11.e (j := 6) rfl)) fun _ q12 => ?_;clear q11
  refine q12.t (.bool (!decide (srE l = 0))) (ex_bin rfl (q12.e (j := 18) rfl) rfl (neqC _ _ _ _ _)) fun _ q13 => ?_;clear q12
  have q14 := (((((Rp.nil q13.z).cons (q13.a 0 rfl)).cons (q13.a 5 rfl)).cons (q13.a 6 rfl)).cons (q13.a 19 rfl))
  clear q13
  refine wpList_nil ?_
  by_cases hk : srE l = 0
  · obtain ⟨hk0, h8⟩ := srE_zero hk
    have q14x := q14.a 19 rfl
    rw [hk] at q14x
    have hW : woR l = (wrs l, 0) := by unfold woR; rw [if_neg (by simp [hk])]
    have hA : srA l = lst l := by unfold srA; rw [if_neg (by simp [hk])]
    go_upto_region 4 with fail
    refine wp_cond_false (ev q14x rfl) ?_
    clear q14x
    go_upto_region 4 with fail
    refine wp_region_lit ?_
    refine q14.t (.bool (srA l).isSome) (ex_move rfl (q14.e (j := 5) rfl)) fun _ q15 => ?_;clear q14
    have q16 := (((Rp.nil q15.z).cons (q15.a 0 rfl)).cons (q15.a 21 rfl))
    clear q15
    refine wpList_nil ?_
    cases hf : (srA l).isSome with
    | true =>
      have q16x := q16.a 21 rfl
      rw [hf] at q16x
      have hE : woR l = (-1, 0) := by rw [hW, wrs_good h8 (hA ▸ hf)]
      go_upto_region 5 with fail
      refine wp_cond_true (ev q16x rfl) ?_
      clear q16x
      go_upto_region 5 with fail
      refine wp_region_lit ?_
      refine q16.t (.int .i64 (-1)) (ex_assign rfl rfl) fun _ q17 => ?_;clear q16
      refine q17.t (.int .i64 0) (ex_assign rfl rfl) fun _ q18 => ?_;clear q17
      refine wpList_nil ?_
      go_wp2
      exact bodyPost_ret (results2_18 rfl (q18.a 2 rfl) (q18.a 3 rfl)) rfl ⟨by rw [hE], b1⟩
    | false =>
      have q16x := q16.a 21 rfl
      rw [hf] at q16x
      go_upto_region 6 with fail
      refine wp_cond_false (ev q16x rfl) ?_
      clear q16x
      go_upto_region 6 with fail
      refine wp_region_lit ?_
      refine q16.t (.int .i64 (-1)) (ex_assign rfl rfl) fun _ q17 => ?_;clear q16
      refine wpList_nil ?_
      go_upto_region 7 with fail
      refine wp_region_lit ?_
      refine q17.t (.int .i64 ((0 : Nat) : Int)) (ex_assign rfl rfl) fun _ q18 => ?_;clear q17
      have q19 := ((((Rp.nil q18.z).cons (q18.a 0 rfl)).cons (q18.a 7 rfl)).cons (q18.a 8 rfl))
      clear q18
      refine wpList_nil ?_
      go_upto_region 8 with fail
      refine v_loop 8 l.length (fun j T wr => ∃ z : Int, Rp T 55 [(8, gw true (.int .i64 (j : Int))), (7, gw true (.int .i64 z)), (0, gw true (.slice a l.length c))] ∧ Hid (Below w.heap.size w wr ∧ Wst l j z)) (fun j T w h => by obtain ⟨z, h, _⟩ := h; exact h.a 8 rfl) ⟨_, q19, b1, .inl ⟨rfl, by simp⟩⟩ ?_
      clear q19
      intro j T wr hj hh
      obtain ⟨z, q100, HJ⟩ := hh
      obtain ⟨br, hZ⟩ := HJ.out
      clear HJ
      have zr := br.size
      by_cases hit : j < l.length
      · obtain ⟨x, hx⟩ : ∃ x, l[j]? = some x := ⟨_, List.getElem?_eq_getElem hit⟩
        obtain ⟨qa, oa, hqa, hqal, hlie⟩ := (h.on br (Nat.le_refl _)).place (by rintro rfl; simp at hit)
        have hZs := hZ.step hx
        go_upto_region 8 with fail
        refine wp_region_lit ?_
        refine q100.t (.int .i64 (j : Int)) (ex_move rfl (q100.e (j := 8) rfl)) fun _ q101 => ?_;clear q100
        refine q101.t (.slice a l.length c) (ex_move rfl (q101.e (j := 0) rfl)) fun _ q102 => ?_;clear q101
        refine q102.t (.int .i64 (l.length : Int)) (ex_len18 rfl rfl (q102.e (j := 23) rfl)) fun _ q103 => ?_;clear q102
        refine q103.t (.bool true) (ex_bin rfl (q103.e (j := 22) rfl) (q103.e (j := 24) rfl) (ltT _ _ hit _)) fun _ q104 => ?_;clear q103
        refine wpList_nil ?_
        go_upto_region 10 with fail
        refine wp_cond_true (q104.e (j := 25) rfl) ?_
        go_upto_region 10 with fail
        refine wp_region_lit ?_
        refine q104.t (.slice a l.length c) (ex_move rfl (q104.e (j := 0) rfl)) fun _ q105 => ?_;clear q104
        refine q105.t (.int .i64 (j : Int)) (ex_move rfl (q105.e (j := 8) rfl)) fun _ q106 => ?_;clear q105
        refine q106.t (.pointer (some ⟨qa, oa + j * 10, none⟩)) (ex_ix rfl (q106.e (j := 28) rfl) (q106.e (j := 29) rfl) (by rw [hqa]; exact ixK qa oa l.length c j hit _)) fun _ q107 => ?_;clear q106
        refine q107.t (.pointer (some ⟨qa, oa + j * 10 + 6, none⟩)) (ex_fa rfl (q107.e (j := 30) rfl) (faK4o _ _ _)) fun _ q108 => ?_;clear q107
        refine q108.t (.int .i64 x.e) (ex_ld rfl (q108.e (j := 31) rfl) (ldI18 (hlie j x hx 6 _ rfl))) fun _ q109 => ?_;clear q108
        refine q109.t (.int .i64 x.e) (ex_assign rfl (q109.e (j := 32) rfl)) fun _ q110 => ?_;clear q109
        refine wpList_nil ?_
        go_upto_region 11 with fail
        refine wp_region_lit ?_
        refine q110.t (.int .i64 x.e) (ex_move rfl (q110.e (j := 9) rfl)) fun _ q111 => ?_;clear q110
        refine q111.t (.bool (decide (x.e < 0))) (ex_bin rfl (q111.e (j := 33) rfl) rfl (lssC _ _ _ _ _)) fun _ q112 => ?_;clear q111
        refine q112.t (.bool (decide (x.e < 0))) (ex_move rfl (q112.e (j := 34) rfl)) fun _ q113 => ?_;clear q112
        refine vl (true && ((decide (x.e < 0)) == false)) (.int .i64 z) (want_g rfl rfl (q113.a 35 rfl)) (fun hc => ex_move rfl (q113.e (j := 7) rfl)) rfl q113.z (by decide) (q113.k fun _ q114 => ?_);clear q113
        refine vl (true && ((decide (x.e < 0)) == false)) (.bool (decide (0 ≤ z))) (want_g rfl rfl (q114.a 35 rfl)) (fun hc => ex_bin rfl (ev (q114.a 36 rfl) hc) rfl (geqC18 _ _ _ _ _)) rfl q114.z (by decide) (q114.k fun _ q115 => ?_);clear q114
        refine vl (true && ((decide (x.e < 0)) == false)) (.bool (decide (0 ≤ z))) (want_g rfl rfl (q115.a 35 rfl)) (fun hc => ex_move rfl (ev (q115.a 37 rfl) hc)) rfl q115.z (by decide) (q115.k fun _ q116 => ?_);clear q115
        refine vl ((true && ((decide (x.e < 0)) == false)) && ((decide (0 ≤ z)) == true)) (.int .i64 x.e) (want_g rfl rfl (q116.a 38 rfl)) (fun hc => ex_move rfl (q116.e (j := 9) rfl)) rfl q116.z (by decide) (q116.k fun _ q117 => ?_);clear q116
        refine vl ((true && ((decide (x.e < 0)) == false)) && ((decide (0 ≤ z)) == true)) (.int .i64 z) (want_g rfl rfl (q117.a 38 rfl)) (fun hc => ex_move rfl (q117.e (j := 7) rfl)) rfl q117.z (by decide) (q117.k fun _ q118 => ?_);clear q117
        refine vl ((true && ((decide (x.e < 0)) == false)) && ((decide (0 ≤ z)) == true)) (.bool (decide (z ≤ x.e))) (want_g rfl rfl (q118.a 38 rfl)) (fun hc => ex_bin rfl (ev (q118.a 39 rfl) hc) (ev (q118.a 40 rfl) hc) (geqC18 _ _ _ _ _)) rfl q118.z (by decide) (q118.k fun _ q119 => ?_);clear q118
        refine vl (true && ((decide (x.e < 0)) == false)) (.bool (decide (0 ≤ z) && decide (z ≤ x.e))) (want_g rfl rfl (q119.a 35 rfl)) (fun hc => ex_and rfl (q119.a 38 rfl) (q119.a 41 rfl) hc) rfl q119.z (by decide) (q119.k fun _ q120 => ?_);clear q119
        refine q120.t (.bool (decide (x.e < 0) || (decide (0 ≤ z) && decide (z ≤ x.e)))) (ex_or rfl (q120.a 35 rfl) (q120.a 42 rfl) rfl) fun _ q121 => ?_;clear q120
        have q122 := ((((((Rp.nil q121.z).cons (q121.a 0 rfl)).cons (q121.a 7 rfl)).cons (q121.a 8 rfl)).cons (q121.a 9 rfl)).cons (q121.a 43 rfl))
        clear q121
        refine wpList_nil ?_
        by_cases hc0 : x.e < 0 ∨ (0 ≤ z ∧ z ≤ x.e)
        · have q122x := q122.a 43 rfl
          rw [show (decide (x.e < 0) || (decide (0 ≤ z) && decide (z ≤ x.e))) = true by simpa using hc0] at q122x
          rw [if_pos hc0] at hZs
          go_upto_region 9 with fail
          refine wp_cond_true (ev q122x rfl) ?_
          clear q122x
          go_upto_region 9 with fail
          refine wp_region_lit ?_
          refine q122.t (.int .i64 (j : Int)) (ex_move rfl (q122.e (j := 8) rfl)) fun _ q123 => ?_;clear q122
          refine q123.t (.int .i64 ((j + 1 : Nat) : Int)) (ex_bin rfl (q123.e (j := 26) rfl) rfl (add1C _ _ j (by omega) _)) fun _ q124 => ?_;clear q123
          refine q124.t (.int .i64 ((j + 1 : Nat) : Int)) (ex_assign rfl (q124.e (j := 27) rfl)) fun _ q125 => ?_;clear q124
          have q126 := ((((Rp.nil q125.z).cons (q125.a 0 rfl)).cons (q125.a 7 rfl)).cons (q125.a 8 rfl))
          clear q125
          refine wpList_nil ?_
          exact ⟨_, rfl, hit, z, q126, br, hZs⟩
        · have q122x := q122.a 43 rfl
          rw [show (decide (x.e < 0) || (decide (0 ≤ z) && decide (z ≤ x.e))) = false by
            cases hh : (decide (x.e < 0) || (decide (0 ≤ z) && decide (z ≤ x.e))) with
            | false => rfl
            | true => exact absurd (by simpa using hh) hc0] at q122x
          rw [if_neg hc0] at hZs
          go_upto_region 12 with fail
          refine wp_cond_false (ev q122x rfl) ?_
          clear q122x
          go_upto_region 12 with fail
          refine wp_region_lit ?_
          refine q122.t (.slice a l.length c) (ex_move rfl (q122.e (j := 0) rfl)) fun _ q123 => ?_;clear q122
          refine q123.t (.int .i64 x.e) (ex_move rfl (q123.e (j := 9) rfl)) fun _ q124 => ?_;clear q123
          refine vcallP (want_none rfl) (ex_call rfl (by simp only [List.map_toArray, List.map_cons, List.map_nil, (q124.e (j := 45) rfl), (q124.e (j := 46) rfl), evc] <;> rfl) rfl) (refUpTo18 l a c x.e wr (h.on br (Nat.le_refl _)) hb96) rfl q124.z (by decide) ?_
          rintro e u1 ⟨v1, rfl, o2, bu1⟩
          refine ⟨_, rfl, q124.k fun _ q125 => ?_⟩;clear q124
          have zu1 := bu1.size
          obtain ⟨a5, c5, rfl, s5, _⟩ := o2.sl kK
          have h8u := Nat.le_trans (upR_len l x.e) h8
          refine vcallP (want_none rfl) (ex_call rfl (by simp only [List.map_toArray, List.map_cons, List.map_nil, (q125.e (j := 47) rfl), evc] <;> rfl) rfl) (from18 h8u (upR_fits hfx) (upR l x.e).length a5 c5 [] none 0 u1 s5 (OwnY.sl' kN (OwnY.nil yN 0 u1)) (cU_le _ _) (by simpa using h8u) (by intro p hp; cases hp)) rfl q125.z (by decide) ?_
          rintro e u2 ⟨a6, n6, c6, rfl, s6, bu2⟩
          refine ⟨_, rfl, q125.k fun _ q126 => ?_⟩;clear q125
          rw [frm_lst _ h8u] at *
          have b2u : Below w.heap.size w u2 := br.trans ((bu1.trans (bu2.mono zu1)).mono zr)
          refine q126.t (.tuple #[.slice a6 n6 c6, .bool (lst (upR l x.e)).isSome]) (ex_move rfl (q126.e (j := 48) rfl)) fun _ q127 => ?_;clear q126
          refine q127.t (.slice a6 n6 c6) (ex_ext18 rfl (q127.e (j := 44) rfl) rfl) fun _ q128 => ?_;clear q127
          refine q128.t (.bool (lst (upR l x.e)).isSome) (ex_ext18 rfl (q128.e (j := 44) rfl) rfl) fun _ q129 => ?_;clear q128
          refine q129.t (.slice a6 n6 c6) (ex_assign rfl (q129.e (j := 49) rfl)) fun _ q130 => ?_;clear q129
          refine q130.t (.bool (lst (upR l x.e)).isSome) (ex_assign rfl (q130.e (j := 50) rfl)) fun _ q131 => ?_;clear q130
          refine wpList_nil ?_
          go_upto_region 13 with fail
          refine wp_region_lit ?_
          refine q131.t (.bool (lst (upR l x.e)).isSome) (ex_move rfl (q131.e (j := 11) rfl)) fun _ q132 => ?_;clear q131
          refine q132.t (.bool (badR l x.e)) (ex_not rfl (q132.e (j := 51) rfl)) fun _ q133 => ?_;clear q132
          have q134 := ((((((Rp.nil q133.z).cons (q133.a 0 rfl)).cons (q133.a 7 rfl)).cons (q133.a 8 rfl)).cons (q133.a 9 rfl)).cons (q133.a 52 rfl))
          clear q133
          refine wpList_nil ?_
          cases hb : badR l x.e with
          | true =>
            have q134x := q134.a 52 rfl
            rw [hb] at q134x
            rw [hb, if_pos rfl] at hZs
            go_upto_region 14 with fail
            refine wp_cond_true (ev q134x rfl) ?_
            clear q134x
            go_upto_region 14 with fail
            refine wp_region_lit ?_
            refine q134.t (.int .i64 x.e) (ex_move rfl (q134.e (j := 9) rfl)) fun _ q135 => ?_;clear q134
            refine q135.t (.int .i64 x.e) (ex_assign rfl (q135.e (j := 53) rfl)) fun _ q136 => ?_;clear q135
            refine wpList_nil ?_
            go_upto_region 9 with fail
            refine wp_region_lit ?_
            refine q136.t (.int .i64 (j : Int)) (ex_move rfl (q136.e (j := 8) rfl)) fun _ q137 => ?_;clear q136
            refine q137.t (.int .i64 ((j + 1 : Nat) : Int)) (ex_bin rfl (q137.e (j := 26) rfl) rfl (add1C _ _ j (by omega) _)) fun _ q138 => ?_;clear q137
            refine q138.t (.int .i64 ((j + 1 : Nat) : Int)) (ex_assign rfl (q138.e (j := 27) rfl)) fun _ q139 => ?_;clear q138
            have q140 := ((((Rp.nil q139.z).cons (q139.a 0 rfl)).cons (q139.a 7 rfl)).cons (q139.a 8 rfl))
            clear q139
            refine wpList_nil ?_
            exact ⟨_, rfl, hit, x.e, q140, b2u, hZs⟩
          | false =>
            have q134x := q134.a 52 rfl
            rw [hb] at q134x
            rw [hb, if_neg (by simp)] at hZs
            go_upto_region 9 with fail
            refine wp_cond_false (ev q134x rfl) ?_
            clear q134x
            go_upto_region 9 with fail
            refine wp_region_lit ?_
            refine q134.t (.int .i64 (j : Int)) (ex_move rfl (q134.e (j := 8) rfl)) fun _ q135 => ?_;clear q134
            refine q135.t (.int .i64 ((j + 1 : Nat) : Int)) (ex_bin rfl (q135.e (j := 26) rfl) rfl (add1C _ _ j (by omega) _)) fun _ q136 => ?_;clear q135
            refine q136.t (.int .i64 ((j + 1 : Nat) : Int)) (ex_assign rfl (q136.e (j := 27) rfl)) fun _ q137 => ?_;clear q136
            have q138 := ((((Rp.nil q137.z).cons (q137.a 0 rfl)).cons (q137.a 7 rfl)).cons (q137.a 8 rfl))
            clear q137
            refine wpList_nil ?_
            exact ⟨_, rfl, hit, z, q138, b2u, hZs⟩
      · obtain rfl : j = l.length := by omega
        have hE : woR l = (z, 0) := by rw [hW, hZ.end_]
        go_upto_region 8 with fail
        refine wp_region_lit ?_
        refine q100.t (.int .i64 (l.length : Int)) (ex_move rfl (q100.e (j := 8) rfl)) fun _ q101 => ?_;clear q100
        refine q101.t (.slice a l.length c) (ex_move rfl (q101.e (j := 0) rfl)) fun _ q102 => ?_;clear q101
        refine q102.t (.int .i64 (l.length : Int)) (ex_len18 rfl rfl (q102.e (j := 23) rfl)) fun _ q103 => ?_;clear q102
        refine q103.t (.bool false) (ex_bin rfl (q103.e (j := 22) rfl) (q103.e (j := 24) rfl) (ltF _ _ hit _)) fun _ q104 => ?_;clear q103
        refine wpList_nil ?_
        go_upto_region 15 with fail
        refine wp_cond_false (q104.e (j := 25) rfl) ?_
        go_upto_region 15 with fail
        refine wp_region_lit ?_
        refine q104.t (.int .i64 z) (ex_move rfl (q104.e (j := 7) rfl)) fun _ q105 => ?_;clear q104
        refine q105.t (.int .i64 z) (ex_assign rfl (q105.e (j := 54) rfl)) fun _ q106 => ?_;clear q105
        refine q106.t (.int .i64 0) (ex_assign rfl rfl) fun _ q107 => ?_;clear q106
        refine wpList_nil ?_
        go_wp2
        exact bodyPost_ret (results2_18 rfl (q107.a 2 rfl) (q107.a 3 rfl)) rfl ⟨by rw [hE], br⟩
  · have hE : woR l = (0, srE l) := by unfold woR; rw [if_pos hk]
    have q14x := q14.a 19 rfl
    rw [decide_eq_false hk] at q14x
    go_upto_region 3 with fail
    refine wp_cond_true (ev q14x rfl) ?_
    clear q14x
    go_upto_region 3 with fail
    refine wp_region_lit ?_
    refine q14.t (.int .i64 (srE l : Int)) (ex_move rfl (q14.e (j := 6) rfl)) fun _ q15 => ?_;clear q14
    refine q15.t (.int .i64 0) (ex_assign rfl rfl) fun _ q16 => ?_;clear q15
    refine q16.t (.int .i64 (srE l : Int)) (ex_assign rfl (q16.e (j := 20) rfl)) fun _ q17 => ?_;clear q16
    refine wpList_nil ?_
    go_wp2
    exact bodyPost_ret (results2_18 rfl (q17.a 2 rfl) (q17.a 3 rfl)) rfl ⟨by rw [hE], b1⟩

end Go.Proofs.Ytjkleldoeojbbaa

namespace Go.Proofs.Ytjkleldoeojbbaa
open Go.RowKit Go.Maps
open Classical
set_option linter.unusedVariables false
set_option linter.unusedSimpArgs false

theorem ctR_len (l : List Kl) (r : Int) : (ctR l r).1.length ≤ l.length := by
  have := upR_len l (r - 1)
  unfold ctR
  split
  · simp
  · split
    · simp
    · exact this
theorem slR_len (l : List Kl) (r : Int) : (slR l r).1.length ≤ l.length := by
  unfold slR
  split
  · simp
  · split
    · simp
    · exact List.length_filter_le _ _
set_option maxRecDepth 100000 in
set_option maxHeartbeats 2000000 in
theorem cuts18 (l : List Kl) (a : Option Addr) (c : Nat) (r t : Int) (w : World) (h : SlY yK w a l.length c l) (hfx : ∀ x ∈ l, x.fits) (hb : l.length * 96 ≤ 140737488351232) (hr : (Lit.int .i64 r).wf = true) (ht : (Lit.int .i64 t).wf = true) :
    Calls Try.prog 4 #[.slice a l.length c, .int .i64 r, .int .i64 t] w fun e w' => e = .returned (.bool true) ∧ Below w.heap.size w w' := by
  have hbl : l.length ≤ 140737488355328 := by omega
  have hrw : r ≤ 9223372036854775807 := (i64_wf hr).2
  have hcl := ctR_len l r
  have hsl := slR_len l t
  go_enter Try.func4, Try.ntmps4
  go_upto_region 0 with fail
  refine wp_region_lit ?_
  refine vl_gen (fun T => Rp T 92 [(2, gw true (.int .i64 t)), (1, gw true (.int .i64 r)), (0, gw true (.slice a l.length c))]) ((((Rp.nil rfl).cons rfl).cons rfl).cons rfl) (fun Z0 q0 => ?_)
  refine q0.t (.bool false) (ex_assign rfl rfl) fun _ q1 => ?_;clear q0
  refine wpList_nil ?_
  go_upto_region 1 with fail
  refine wp_region_lit ?_
  refine q1.t (.slice a l.length c) (ex_move rfl (q1.e (j := 0) rfl)) fun _ q2 => ?_;clear q1
  refine vcallP (want_none rfl) (ex_call rfl (by simp only [List.map_toArray, List.map_cons, List.map_nil, (q2.e (j := 20) rfl), evc] <;> rfl) rfl) (lent_any l a c w h hb) rfl q2.z (by decide) ?_
  rintro e w1 ⟨a3, c3, rfl, hL1, b1⟩
  refine ⟨_, rfl, q2.k fun _ q3 => ?_⟩;clear q2
  have b1w := b1
  have z1 := b1w.size
  refine q3.t (.slice a3 l.length c3) (ex_assign rfl (q3.e (j := 21) rfl)) fun _ q4 => ?_;clear q3
  refine wpList_nil ?_
  go_upto_region 2 with fail
  refine wp_region_lit ?_
  refine q4.t (.slice a3 l.length c3) (ex_move rfl (q4.e (j := 7) rfl)) fun _ q5 => ?_;clear q4
  refine q5.t (.int .i64 r) (ex_move rfl (q5.e (j := 1) rfl)) fun _ q6 => ?_;clear q5
  refine vcallP (want_none rfl) (ex_call rfl (by simp only [List.map_toArray, List.map_cons, List.map_nil, (q6.e (j := 23) rfl), (q6.e (j := 24) rfl), evc] <;> rfl) rfl) (cut18 l a3 c3 r w1 hL1.sl hfx hb hrw) rfl q6.z (by decide) ?_
  rintro e w2 ⟨v8, rfl, o8, b2⟩
  refine ⟨_, rfl, q6.k fun _ q7 => ?_⟩;clear q6
  have b2w : Below w.heap.size w w2 := b1w.trans (b2.mono b1w.size)
  have hL2 := hL1.later b2
  have z2 := b2.size
  obtain ⟨a8, c8, hv8, s8, _⟩ := o8.sl kK
  refine q7.t (.tuple #[v8, .int .i64 (ctR l r).2]) (ex_move rfl (q7.e (j := 25) rfl)) fun _ q8 => ?_;clear q7
  refine q8.t (v8) (ex_ext18 rfl (q8.e (j := 22) rfl) rfl) fun _ q9 => ?_;clear q8
  refine q9.t (.int .i64 (ctR l r).2) (ex_ext18 rfl (q9.e (j := 22) rfl) rfl) fun _ q10 => ?_;clear q9
  refine q10.t (v8) (ex_assign rfl (q10.e (j := 26) rfl)) fun _ q11 => ?_;clear q10
  refine q11.t (.int .i64 (ctR l r).2) (ex_assign rfl (q11.e (j := 27) rfl)) fun _ q12 => ?_;clear q11
  refine wpList_nil ?_
  go_upto_region 3 with fail
  refine wp_region_lit ?_
  refine q12.t (.slice a l.length c) (ex_move rfl (q12.e (j := 0) rfl)) fun _ q13 => ?_;clear q12
  refine q13.t (.int .i64 r) (ex_move rfl (q13.e (j := 1) rfl)) fun _ q14 => ?_;clear q13
  refine vcallP (want_none rfl) (ex_call rfl (by simp only [List.map_toArray, List.map_cons, List.map_nil, (q14.e (j := 29) rfl), (q14.e (j := 30) rfl), evc] <;> rfl) rfl) (refCut18 l a c r w2 (h.on b2w (Nat.le_refl _)) hfx hb) rfl q14.z (by decide) ?_
  rintro e w3 ⟨v10, rfl, o10, b3⟩
  refine ⟨_, rfl, q14.k fun _ q15 => ?_⟩;clear q14
  have b3w : Below w.heap.size w w3 := b2w.trans (b3.mono b2w.size)
  have hL3 := hL2.later b3
  have z3 := b3.size
  obtain ⟨a10, c10, hv10, s10, _⟩ := o10.sl kK
  replace s8 := s8.on b3 (Nat.le_refl _)
  refine q15.t (.tuple #[v10, .int .i64 (ctR l r).2]) (ex_move rfl (q15.e (j := 31) rfl)) fun _ q16 => ?_;clear q15
  refine q16.t (v10) (ex_ext18 rfl (q16.e (j := 28) rfl) rfl) fun _ q17 => ?_;clear q16
  refine q17.t (.int .i64 (ctR l r).2) (ex_ext18 rfl (q17.e (j := 28) rfl) rfl) fun _ q18 => ?_;clear q17
  refine q18.t (v10) (ex_assign rfl (q18.e (j := 32) rfl)) fun _ q19 => ?_;clear q18
  refine q19.t (.int .i64 (ctR l r).2) (ex_assign rfl (q19.e (j := 33) rfl)) fun _ q20 => ?_;clear q19
  refine wpList_nil ?_
  go_upto_region 4 with fail
  refine wp_region_lit ?_
  refine q20.t (.slice a3 l.length c3) (ex_move rfl (q20.e (j := 7) rfl)) fun _ q21 => ?_;clear q20
  refine q21.t (.int .i64 t) (ex_move rfl (q21.e (j := 2) rfl)) fun _ q22 => ?_;clear q21
  refine vcallP (want_none rfl) (ex_call rfl (by simp only [List.map_toArray, List.map_cons, List.map_nil, (q22.e (j := 35) rfl), (q22.e (j := 36) rfl), evc] <;> rfl) rfl) (slot18 l a3 c3 t w3 hL3.sl hfx hb ht) rfl q22.z (by decide) ?_
  rintro e w4 ⟨v12, rfl, o12, b4⟩
  refine ⟨_, rfl, q22.k fun _ q23 => ?_⟩;clear q22
  have b4w : Below w.heap.size w w4 := b3w.trans (b4.mono b3w.size)
  have hL4 := hL3.later b4
  have z4 := b4.size
  obtain ⟨a12, c12, hv12, s12, _⟩ := o12.sl kK
  replace s8 := s8.on b4 (Nat.le_refl _)
  replace s10 := s10.on b4 (Nat.le_refl _)
  refine q23.t (.tuple #[v12, .int .i64 (slR l t).2]) (ex_move rfl (q23.e (j := 37) rfl)) fun _ q24 => ?_;clear q23
  refine q24.t (v12) (ex_ext18 rfl (q24.e (j := 34) rfl) rfl) fun _ q25 => ?_;clear q24
  refine q25.t (.int .i64 (slR l t).2) (ex_ext18 rfl (q25.e (j := 34) rfl) rfl) fun _ q26 => ?_;clear q25
  refine q26.t (v12) (ex_assign rfl (q26.e (j := 38) rfl)) fun _ q27 => ?_;clear q26
  refine q27.t (.int .i64 (slR l t).2) (ex_assign rfl (q27.e (j := 39) rfl)) fun _ q28 => ?_;clear q27
  refine wpList_nil ?_
  go_upto_region 5 with fail
  refine wp_region_lit ?_
  refine q28.t (.slice a l.length c) (ex_move rfl (q28.e (j := 0) rfl)) fun _ q29 => ?_;clear q28
  refine q29.t (.int .i64 t) (ex_move rfl (q29.e (j := 2) rfl)) fun _ q30 => ?_;clear q29
  refine vcallP (want_none rfl) (ex_call rfl (by simp only [List.map_toArray, List.map_cons, List.map_nil, (q30.e (j := 41) rfl), (q30.e (j := 42) rfl), evc] <;> rfl) rfl) (refSlot18 l a c t w4 (h.on b4w (Nat.le_refl _)) hfx hb) rfl q30.z (by decide) ?_
  rintro e w5 ⟨v14, rfl, o14, b5⟩
  refine ⟨_, rfl, q30.k fun _ q31 => ?_⟩;clear q30
  have b5w : Below w.heap.size w w5 := b4w.trans (b5.mono b4w.size)
  have hL5 := hL4.later b5
  have z5 := b5.size
  obtain ⟨a14, c14, hv14, s14, _⟩ := o14.sl kK
  replace s8 := s8.on b5 (Nat.le_refl _)
  replace s10 := s10.on b5 (Nat.le_refl _)
  replace s12 := s12.on b5 (Nat.le_refl _)
  refine q31.t (.tuple #[v14, .int .i64 (slR l t).2]) (ex_move rfl (q31.e (j := 43) rfl)) fun _ q32 => ?_;clear q31
  refine q32.t (v14) (ex_ext18 rfl (q32.e (j := 40) rfl) rfl) fun _ q33 => ?_;clear q32
  refine q33.t (.int .i64 (slR l t).2) (ex_ext18 rfl (q33.e (j := 40) rfl) rfl) fun _ q34 => ?_;clear q33
  refine q34.t (v14) (ex_assign rfl (q34.e (j := 44) rfl)) fun _ q35 => ?_;clear q34
  refine q35.t (.int .i64 (slR l t).2) (ex_assign rfl (q35.e (j := 45) rfl)) fun _ q36 => ?_;clear q35
  refine wpList_nil ?_
  go_upto_region 6 with fail
  refine wp_region_lit ?_
  refine q36.t (.slice a3 l.length c3) (ex_move rfl (q36.e (j := 7) rfl)) fun _ q37 => ?_;clear q36
  refine vcallP (want_none rfl) (ex_call rfl (by simp only [List.map_toArray, List.map_cons, List.map_nil, (q37.e (j := 47) rfl), evc] <;> rfl) rfl) (worst18 l a3 c3 w5 hL5.sl hfx hb) rfl q37.z (by decide) ?_
  rintro e w6 ⟨rfl, b6⟩
  refine ⟨_, rfl, q37.k fun _ q38 => ?_⟩;clear q37
  have b6w : Below w.heap.size w w6 := b5w.trans (b6.mono b5w.size)
  have hL6 := hL5.later b6
  have z6 := b6.size
  replace s8 := s8.on b6 (Nat.le_refl _)
  replace s10 := s10.on b6 (Nat.le_refl _)
  replace s12 := s12.on b6 (Nat.le_refl _)
  replace s14 := s14.on b6 (Nat.le_refl _)
  refine q38.t (.tuple #[.int .i64 (woR l).1, .int .i64 (woR l).2]) (ex_move rfl (q38.e (j := 48) rfl)) fun _ q39 => ?_;clear q38
  refine q39.t (.int .i64 (woR l).1) (ex_ext18 rfl (q39.e (j := 46) rfl) rfl) fun _ q40 => ?_;clear q39
  refine q40.t (.int .i64 (woR l).2) (ex_ext18 rfl (q40.e (j := 46) rfl) rfl) fun _ q41 => ?_;clear q40
  refine q41.t (.int .i64 (woR l).1) (ex_assign rfl (q41.e (j := 49) rfl)) fun _ q42 => ?_;clear q41
  refine q42.t (.int .i64 (woR l).2) (ex_assign rfl (q42.e (j := 50) rfl)) fun _ q43 => ?_;clear q42
  refine wpList_nil ?_
  go_upto_region 7 with fail
  refine wp_region_lit ?_
  refine q43.t (.slice a l.length c) (ex_move rfl (q43.e (j := 0) rfl)) fun _ q44 => ?_;clear q43
  refine vcallP (want_none rfl) (ex_call rfl (by simp only [List.map_toArray, List.map_cons, List.map_nil, (q44.e (j := 52) rfl), evc] <;> rfl) rfl) (refWorst18 l a c w6 (h.on b6w (Nat.le_refl _)) hfx hb) rfl q44.z (by decide) ?_
  rintro e w7 ⟨rfl, b7⟩
  refine ⟨_, rfl, q44.k fun _ q45 => ?_⟩;clear q44
  have b7w : Below w.heap.size w w7 := b6w.trans (b7.mono b6w.size)
  have hL7 := hL6.later b7
  have z7 := b7.size
  replace s8 := s8.on b7 (Nat.le_refl _)
  replace s10 := s10.on b7 (Nat.le_refl _)
  replace s12 := s12.on b7 (Nat.le_refl _)
  replace s14 := s14.on b7 (Nat.le_refl _)
  refine q45.t (.tuple #[.int .i64 (woR l).1, .int .i64 (woR l).2]) (ex_move rfl (q45.e (j := 53) rfl)) fun _ q46 => ?_;clear q45
  refine q46.t (.int .i64 (woR l).1) (ex_ext18 rfl (q46.e (j := 51) rfl) rfl) fun _ q47 => ?_;clear q46
  refine q47.t (.int .i64 (woR l).2) (ex_ext18 rfl (q47.e (j := 51) rfl) rfl) fun _ q48 => ?_;clear q47
  refine q48.t (.int .i64 (woR l).1) (ex_assign rfl (q48.e (j := 54) rfl)) fun _ q49 => ?_;clear q48
  refine q49.t (.int .i64 (woR l).2) (ex_assign rfl (q49.e (j := 55) rfl)) fun _ q50 => ?_;clear q49
  have q51 := (((((((((((((((Rp.nil q50.z).cons (q50.a 0 rfl)).cons (q50.a 7 rfl)).cons (q50.a 8 rfl)).cons (q50.a 9 rfl)).cons (q50.a 10 rfl)).cons (q50.a 11 rfl)).cons (q50.a 12 rfl)).cons (q50.a 13 rfl)).cons (q50.a 14 rfl)).cons (q50.a 15 rfl)).cons (q50.a 16 rfl)).cons (q50.a 17 rfl)).cons (q50.a 18 rfl)).cons (q50.a 19 rfl))
  clear q50
  refine wpList_nil ?_
  go_upto_region 8 with fail
  refine wp_region_lit ?_
  refine q51.t (.int .i64 (ctR l r).2) (ex_move rfl (q51.e (j := 9) rfl)) fun _ q52 => ?_;clear q51
  refine q52.t (.int .i64 (ctR l r).2) (ex_move rfl (q52.e (j := 11) rfl)) fun _ q53 => ?_;clear q52
  refine q53.t (.bool true) (ex_bin rfl (q53.e (j := 56) rfl) (q53.e (j := 57) rfl) (eqlSe _ _ _ _)) fun _ q54 => ?_;clear q53
  refine q54.t (.bool true) (ex_move rfl (q54.e (j := 58) rfl)) fun _ q55 => ?_;clear q54
  refine vl (true) (v8) (wantT18 rfl rfl (q55.a 59 rfl)) (fun hc => ex_move rfl (q55.e (j := 8) rfl)) rfl q55.z (by decide) (q55.k fun _ q56 => ?_);clear q55
  refine vl (true) (v10) (wantT18 rfl rfl (q56.a 59 rfl)) (fun hc => ex_move rfl (q56.e (j := 10) rfl)) rfl q56.z (by decide) (q56.k fun _ q57 => ?_);clear q56
  refine vcall true (.bool true) (wantT18 rfl rfl (q57.a 59 rfl)) (fun hc => ex_call rfl (by simp only [List.map_toArray, List.map_cons, List.map_nil, ((q57.e (j := 60) rfl).trans hv8), ((q57.e (j := 61) rfl).trans hv10), evc] <;> rfl) rfl) (fun hc => same18 _ a8 a10 c8 c10 w7 s8 s10 (by omega)) rfl q57.z (by decide) (q57.kc fun _ w8 b8 q58 => ?_);clear q57
  have b8w : Below w.heap.size w w8 := b7w.trans (b8.mono b7w.size)
  have hL8 := hL7.later b8
  replace s8 := s8.on b8 (Nat.le_refl _)
  replace s10 := s10.on b8 (Nat.le_refl _)
  replace s12 := s12.on b8 (Nat.le_refl _)
  replace s14 := s14.on b8 (Nat.le_refl _)
  refine q58.t (.bool true) (ex_and (c := true) (b := true) (z := true) rfl (q58.a 59 rfl) (q58.a 62 rfl) rfl) fun _ q59 => ?_;clear q58
  refine q59.t (.bool true) (ex_move rfl (q59.e (j := 63) rfl)) fun _ q60 => ?_;clear q59
  refine vl (true) (.int .i64 (slR l t).2) (wantT18 rfl rfl (q60.a 64 rfl)) (fun hc => ex_move rfl (q60.e (j := 13) rfl)) rfl q60.z (by decide) (q60.k fun _ q61 => ?_);clear q60
  refine vl (true) (.int .i64 (slR l t).2) (wantT18 rfl rfl (q61.a 64 rfl)) (fun hc => ex_move rfl (q61.e (j := 15) rfl)) rfl q61.z (by decide) (q61.k fun _ q62 => ?_);clear q61
  refine vl (true) (.bool true) (wantT18 rfl rfl (q62.a 64 rfl)) (fun hc => ex_bin rfl (q62.e (j := 65) rfl) (q62.e (j := 66) rfl) (eqlSe _ _ _ _)) rfl q62.z (by decide) (q62.k fun _ q63 => ?_);clear q62
  refine q63.t (.bool true) (ex_and (c := true) (b := true) (z := true) rfl (q63.a 64 rfl) (q63.a 67 rfl) rfl) fun _ q64 => ?_;clear q63
  refine q64.t (.bool true) (ex_move rfl (q64.e (j := 68) rfl)) fun _ q65 => ?_;clear q64
  refine vl (true) (v12) (wantT18 rfl rfl (q65.a 69 rfl)) (fun hc => ex_move rfl (q65.e (j := 12) rfl)) rfl q65.z (by decide) (q65.k fun _ q66 => ?_);clear q65
  refine vl (true) (v14) (wantT18 rfl rfl (q66.a 69 rfl)) (fun hc => ex_move rfl (q66.e (j := 14) rfl)) rfl q66.z (by decide) (q66.k fun _ q67 => ?_);clear q66
  refine vcall true (.bool true) (wantT18 rfl rfl (q67.a 69 rfl)) (fun hc => ex_call rfl (by simp only [List.map_toArray, List.map_cons, List.map_nil, ((q67.e (j := 70) rfl).trans hv12), ((q67.e (j := 71) rfl).trans hv14), evc] <;> rfl) rfl) (fun hc => same18 _ a12 a14 c12 c14 w8 s12 s14 (by omega)) rfl q67.z (by decide) (q67.kc fun _ w9 b9 q68 => ?_);clear q67
  have b9w : Below w.heap.size w w9 := b8w.trans (b9.mono b8w.size)
  have hL9 := hL8.later b9
  refine q68.t (.bool true) (ex_and (c := true) (b := true) (z := true) rfl (q68.a 69 rfl) (q68.a 72 rfl) rfl) fun _ q69 => ?_;clear q68
  refine q69.t (.bool true) (ex_move rfl (q69.e (j := 73) rfl)) fun _ q70 => ?_;clear q69
  refine vl (true) (.int .i64 (woR l).1) (wantT18 rfl rfl (q70.a 74 rfl)) (fun hc => ex_move rfl (q70.e (j := 16) rfl)) rfl q70.z (by decide) (q70.k fun _ q71 => ?_);clear q70
  refine vl (true) (.int .i64 (woR l).1) (wantT18 rfl rfl (q71.a 74 rfl)) (fun hc => ex_move rfl (q71.e (j := 18) rfl)) rfl q71.z (by decide) (q71.k fun _ q72 => ?_);clear q71
  refine vl (true) (.bool true) (wantT18 rfl rfl (q72.a 74 rfl)) (fun hc => ex_bin rfl (q72.e (j := 75) rfl) (q72.e (j := 76) rfl) (eqlSe _ _ _ _)) rfl q72.z (by decide) (q72.k fun _ q73 => ?_);clear q72
  refine q73.t (.bool true) (ex_and (c := true) (b := true) (z := true) rfl (q73.a 74 rfl) (q73.a 77 rfl) rfl) fun _ q74 => ?_;clear q73
  refine q74.t (.bool true) (ex_move rfl (q74.e (j := 78) rfl)) fun _ q75 => ?_;clear q74
  refine vl (true) (.int .i64 (woR l).2) (wantT18 rfl rfl (q75.a 79 rfl)) (fun hc => ex_move rfl (q75.e (j := 17) rfl)) rfl q75.z (by decide) (q75.k fun _ q76 => ?_);clear q75
  refine vl (true) (.int .i64 (woR l).2) (wantT18 rfl rfl (q76.a 79 rfl)) (fun hc => ex_move rfl (q76.e (j := 19) rfl)) rfl q76.z (by decide) (q76.k fun _ q77 => ?_);clear q76
  refine vl (true) (.bool true) (wantT18 rfl rfl (q77.a 79 rfl)) (fun hc => ex_bin rfl (q77.e (j := 80) rfl) (q77.e (j := 81) rfl) (eqlSe _ _ _ _)) rfl q77.z (by decide) (q77.k fun _ q78 => ?_);clear q77
  refine q78.t (.bool true) (ex_and (c := true) (b := true) (z := true) rfl (q78.a 79 rfl) (q78.a 82 rfl) rfl) fun _ q79 => ?_;clear q78
  refine q79.t (.bool true) (ex_move rfl (q79.e (j := 83) rfl)) fun _ q80 => ?_;clear q79
  refine vl (true) (.slice a3 l.length c3) (wantT18 rfl rfl (q80.a 84 rfl)) (fun hc => ex_move rfl (q80.e (j := 7) rfl)) rfl q80.z (by decide) (q80.k fun _ q81 => ?_);clear q80
  refine vl (true) (.slice a l.length c) (wantT18 rfl rfl (q81.a 84 rfl)) (fun hc => ex_move rfl (q81.e (j := 0) rfl)) rfl q81.z (by decide) (q81.k fun _ q82 => ?_);clear q81
  refine vcall true (.bool true) (wantT18 rfl rfl (q82.a 84 rfl)) (fun hc => ex_call rfl (by simp only [List.map_toArray, List.map_cons, List.map_nil, (q82.e (j := 85) rfl), (q82.e (j := 86) rfl), evc] <;> rfl) rfl) (fun hc => kept18 _ l a3 a c3 c w9 hL9 (h.on b9w (Nat.le_refl _)) hbl) rfl q82.z (by decide) (q82.kc fun _ w10 b10 q83 => ?_);clear q82
  have b10w : Below w.heap.size w w10 := b9w.trans (b10.mono b9w.size)
  have hL10 := hL9.later b10
  refine q83.t (.bool true) (ex_and (c := true) (b := true) (z := true) rfl (q83.a 84 rfl) (q83.a 87 rfl) rfl) fun _ q84 => ?_;clear q83
  refine q84.t (.bool true) (ex_move rfl (q84.e (j := 88) rfl)) fun _ q85 => ?_;clear q84
  refine vcall true (.bool true) (wantT18 rfl rfl (q85.a 89 rfl)) (fun hc => ex_call (args := #[]) rfl (by simp) rfl) (fun hc => works18_any w10) rfl q85.z (by decide) (q85.kc fun _ w11 b11 q86 => ?_);clear q85
  have b11w : Below w.heap.size w w11 := b10w.trans (b11.mono b10w.size)
  have hL11 := hL10.later b11
  refine q86.t (.bool true) (ex_and (c := true) (b := true) (z := true) rfl (q86.a 89 rfl) (q86.a 90 rfl) rfl) fun _ q87 => ?_;clear q86
  refine q87.t (.bool true) (ex_assign rfl (q87.e (j := 91) rfl)) fun _ q88 => ?_;clear q87
  refine wpList_nil ?_
  go_wp2
  refine bodyPost_ret (results_tmp rfl _ _ _) rfl ⟨?_, b11w⟩
  rw [getD_of (q88.a 6 rfl)]
  rfl
theorem cuts_came18 (a : Option Addr) (n c : Nat) (r t : Int) (W : World) (h : CameKl W a n c) (hr : (Lit.int .i64 r).wf = true) (ht : (Lit.int .i64 t).wf = true) : Calls Try.prog 4 #[.slice a n c, .int .i64 r, .int .i64 t] W fun e w' => e = .returned (.bool true) ∧ Below W.heap.size W w' := by
  obtain ⟨P, h1, h2, h3⟩ := h
  have hl := h1.len
  subst hl
  exact cuts18 P a c r t W h1 h2 h3 hr ht

end Go.Proofs.Ytjkleldoeojbbaa
