import Derived.Test.YtjkleldoeojbbaaK23
namespace Go.Proofs.Ytjkleldoeojbbaa
open Go.RowKit Go.Maps
open Classical
set_option linter.unusedVariables false
set_option linter.unusedSimpArgs false

theorem faK1o (q o : Nat) (w : World) : (Instr.fieldAt 66 (.pointer (some ⟨q, o, none⟩)) 1).run Try.prog w = .ok (.pointer (some ⟨q, o + 1, none⟩)) w := by go_simp
theorem leqC18 (x y : Operand) (a b : Int) (w : World) : (do eqGuard .leq 3 x y (.int .i64 a) (.int .i64 b); binOp .leq 3 (.int .i64 a) (.int .i64 b) : Sem Value).run Try.prog w = .ok (.bool (decide (a ≤ b))) w := by
  go_simp
theorem bdEn18 (c n k s : Int) (v : ByteArray) (w : World) : (Instr.build 92 #[(0, .int .i64 c), (1, .int .i64 n), (2, .agg #[.int .i64 k, .int .i64 s, .string v])]).run Try.prog w = .ok (.agg #[.int .i64 c, .int .i64 n, .int .i64 k, .int .i64 s, .string v]) w := by go_simp
theorem bdRs18 (w : World) : (Instr.build 64 #[]).run Try.prog w = .ok (.agg #[.int .i64 0, .int .i64 0, .string ⟨#[]⟩]) w := by go_simp
def a24 (x : Kl) : Bool := (!decide (er18 x.c x.n x.o.k x.o.s x.o.v = 0)) || decide (x.b < 0)
def b24 (x : Kl) : Bool := (decide (x.e = -1) && !decide (x.r = (0, 0, ⟨#[]⟩))) || (!decide (x.e = -1) && decide (x.e ≤ x.b))
theorem may24 (x : Kl) : mayK x = (!a24 x && !b24 x) := by
  unfold mayK a24 b24
  have e : er18 x.c x.n x.o.k x.o.s x.o.v = 0 ↔ askB x.c x.n x.o = true := by
    have := er18_ask x.c x.n x.o.k x.o.s x.o.v
    rw [show (⟨x.o.k, x.o.s, x.o.v⟩ : Opn) = x.o from rfl] at this
    rw [← this]
    simp
  cases ha : askB x.c x.n x.o with
  | false =>
    have : ¬ er18 x.c x.n x.o.k x.o.s x.o.v = 0 := by rw [e, ha]; simp
    simp [this]
  | true =>
    have : er18 x.c x.n x.o.k x.o.s x.o.v = 0 := by rw [e, ha]
    simp only [this, decide_true, Bool.not_true, Bool.false_or, Bool.true_and]
    by_cases hb : x.b < 0
    · have h2 : ¬ 0 ≤ x.b := by omega
      simp [hb, h2]
    · have h2 : 0 ≤ x.b := by omega
      by_cases he : x.e = -1
      · have h3 : ¬ x.b < x.e := by omega
        by_cases hr : x.r = (0, 0, ⟨#[]⟩)
        · have hr2 : x.r = (0, 0, ByteArray.empty) := hr
          simp [hb, h2, he, hr2]
          rfl
        · have hr2 : ¬ x.r = (0, 0, ByteArray.empty) := hr
          simp [hb, h2, he, hr, hr2]
          omega
      · by_cases hl : x.e ≤ x.b
        · have h3 : ¬ x.b < x.e := by omega
          simp [hb, h2, he, hl, h3]
        · have h3 : x.b < x.e := by omega
          simp [hb, h2, he, hl, h3]
theorem hasK_mono {l : List Kl} {c n : Int} {k i : Nat} (h : k ≤ i) (hh : hasK (l.take k) c n = true) : hasK (l.take i) c n = true := by
  unfold hasK at *
  rw [List.any_eq_true] at *
  obtain ⟨x, hx, h2⟩ := hh
  refine ⟨x, ?_, h2⟩
  have : l.take k = (l.take i).take k := by rw [List.take_take, Nat.min_eq_left h]
  rw [this] at hx
  exact List.mem_of_mem_take hx
theorem hasK_take {l : List Kl} {c n : Int} {k : Nat} {y : Kl} (h : l[k]? = some y) : hasK (l.take (k + 1)) c n = (hasK (l.take k) c n || (decide (y.c = c) && decide (y.n = n))) := by
  rw [List.take_add_one, h]
  exact hasK_snoc _ _ _ _
set_option maxRecDepth 100000 in
set_option maxHeartbeats 2000000 in
theorem refCheck18 (l : List Kl) (a : Option Addr) (c : Nat) (w : World) (h : SlY yK w a l.length c l) (hfx : ∀ x ∈ l, x.fits) (hbn : l.length ≤ 140737488355328) :
    Calls Try.prog 46 #[.slice a l.length c] w fun e w' => e = .returned (.int .i64 (kchk l)) ∧ Below w.heap.size w w' := by
  have hE : kchk l = kcA (l.take 0) (l.drop 0) := by simp [kchk]
  go_enter Try.func46, Try.ntmps46
  go_upto_region 0 with fail
  refine wp_region_lit ?_
  refine vl_gen (fun T => Rp T 74 [(0, gw true (.slice a l.length c))]) ((Rp.nil rfl).cons rfl) (fun Z0 q0 => ?_)
  refine q0.t (.int .i64 0) (ex_assign rfl rfl) fun _ q1 => ?_;clear q0
  refine wpList_nil ?_
  go_upto_region 1 with fail
  refine wp_region_lit ?_
  refine q1.t (.int .i64 ((0 : Nat) : Int)) (ex_assign rfl rfl) fun _ q2 => ?_;clear q1
  have q3 := (((Rp.nil q2.z).cons (q2.a 0 rfl)).cons (q2.a 3 rfl))
  clear q2
  refine wpList_nil ?_
  go_upto_region 2 with fail
  refine v_loop 3 l.length (fun i T wr => Rp T 74 [(3, gw true (.int .i64 (i : Int))), (0, gw true (.slice a l.length c))] ∧ Hid (Below w.heap.size w wr ∧ kchk l = kcA (l.take i) (l.drop i))) (fun j T w h => h.1.a 3 rfl) ⟨q3, Below.refl _ _, hE⟩ ?_
  clear q3
  intro i T wr hi hh
  obtain ⟨q100, HJ⟩ := hh
  obtain ⟨br, hX⟩ := HJ.out
  clear HJ
  have zr := br.size
  by_cases hit : i < l.length
  · obtain ⟨x, hx⟩ : ∃ x, l[i]? = some x := ⟨_, List.getElem?_eq_getElem hit⟩
    have fx := hfx x (List.mem_of_getElem? hx)
    have hXx := hX.trans (kcA_at hx)
    obtain ⟨qa, oa, hqa, hqal, hla⟩ := (h.on br (Nat.le_refl _)).place (by rintro rfl; simp at hx)
    go_upto_region 2 with fail
    refine wp_region_lit ?_
    refine q100.t (.int .i64 (i : Int)) (ex_move rfl (q100.e (j := 3) rfl)) fun _ q101 => ?_;clear q100
    refine q101.t (.slice a l.length c) (ex_move rfl (q101.e (j := 0) rfl)) fun _ q102 => ?_;clear q101
    refine q102.t (.int .i64 (l.length : Int)) (ex_len18 rfl rfl (q102.e (j := 7) rfl)) fun _ q103 => ?_;clear q102
    refine q103.t (.bool true) (ex_bin rfl (q103.e (j := 6) rfl) (q103.e (j := 8) rfl) (ltT _ _ hit _)) fun _ q104 => ?_;clear q103
    refine wpList_nil ?_
    go_upto_region 4 with fail
    refine wp_cond_true (q104.e (j := 9) rfl) ?_
    go_upto_region 4 with fail
    refine wp_region_lit ?_
    refine q104.t (.slice a l.length c) (ex_move rfl (q104.e (j := 0) rfl)) fun _ q105 => ?_;clear q104
    refine q105.t (.int .i64 (i : Int)) (ex_move rfl (q105.e (j := 3) rfl)) fun _ q106 => ?_;clear q105
    refine q106.t (.pointer (some ⟨qa, oa + i * 10, none⟩)) (ex_ix rfl (q106.e (j := 12) rfl) (q106.e (j := 13) rfl) (by rw [hqa]; exact ixK qa oa l.length c i hit _)) fun _ q107 => ?_;clear q106
    refine q107.t (x.val) (ex_ld rfl (q107.e (j := 14) rfl) (ldEl hla hx)) fun _ q108 => ?_;clear q107
    obtain ⟨r1, hr1⟩ : ∃ y, y = wr.alloc (.cells zK.cs.toArray 66) := ⟨_, rfl⟩
    refine vw (.pointer (some ⟨wr.heap.size, 0, none⟩)) r1 (want_none rfl) (ex_al rfl (by rw [hr1]; exact alK _)) rfl q108.z (by decide) (q108.k fun _ q109 => ?_);clear q108
    have Bz : BB r1 wr.heap.size 66 zK.cs := by rw [hr1]; exact BB.new _ _ _
    have hr1b : Below wr.heap.size wr r1 := by rw [hr1]; exact (Below.refl _ _).alloc (Nat.le_refl _) _
    clear hr1
    obtain ⟨r2, hr2⟩ : ∃ y, y = r1.setCells wr.heap.size 0 x.cs := ⟨_, rfl⟩
    refine vs r2 (want_none rfl) (ex_st rfl (q109.e (j := 4) rfl) (q109.e (j := 15) rfl) (by rw [hr2]; exact Bz.stK)) rfl ?_
    have B4 : BB r2 wr.heap.size 66 x.cs := by rw [hr2]; exact Bz.whole _ rfl
    have hr2b : Below wr.heap.size wr r2 := by rw [hr2]; exact hr1b.trans (bel_ge (upd18 _ _ _ _) hr1b.size (Nat.le_refl _))
    clear hr2 Bz hr1b
    have y2 := hr2b.size
    have q110 := ((((Rp.nil q109.z).cons (q109.a 0 rfl)).cons (q109.a 3 rfl)).cons (q109.a 4 rfl))
    clear q109
    refine wpList_nil ?_
    go_upto_region 5 with fail
    refine wp_region_lit ?_
    refine q110.t (.pointer (some ⟨wr.heap.size, 0, none⟩)) (ex_fa rfl (q110.e (j := 4) rfl) (faK0o _ _ _)) fun _ q111 => ?_;clear q110
    refine q111.t (.int .i64 x.c) (ex_ld rfl (q111.e (j := 16) rfl) (ldI18 ((B4.cell 0).trans rfl))) fun _ q112 => ?_;clear q111
    refine q112.t (.pointer (some ⟨wr.heap.size, 0 + 1, none⟩)) (ex_fa rfl (q112.e (j := 4) rfl) (faK1o _ _ _)) fun _ q113 => ?_;clear q112
    refine q113.t (.int .i64 x.n) (ex_ld rfl (q113.e (j := 18) rfl) (ldI18 ((B4.cell 1).trans rfl))) fun _ q114 => ?_;clear q113
    refine q114.t (.pointer (some ⟨wr.heap.size, 2, none⟩)) (ex_fa rfl (q114.e (j := 4) rfl) (faK2 _ _)) fun _ q115 => ?_;clear q114
    refine q115.t (.agg #[.int .i64 x.o.k, .int .i64 x.o.s, .string x.o.v]) (ex_ld rfl (q115.e (j := 20) rfl) B4.ldO) fun _ q116 => ?_;clear q115
    refine q116.t (.agg #[.int .i64 x.c, .int .i64 x.n, .int .i64 x.o.k, .int .i64 x.o.s, .string x.o.v]) (ex_buildP18 rfl (by simp only [List.map_toArray, List.map_cons, List.map_nil, q116.e (j := 17) rfl, q116.e (j := 19) rfl, q116.e (j := 21) rfl] <;> rfl) (bdEn18 _ _ _ _ _ _)) fun _ q117 => ?_;clear q116
    refine vcallP (want_none rfl) (ex_call rfl (by simp only [List.map_toArray, List.map_cons, List.map_nil, (q117.e (j := 22) rfl), evc] <;> rfl) rfl) (refEntry18 x.c x.n x.o.k x.o.s x.o.v fx.ow r2) rfl q117.z (by decide) ?_
    rintro e r3 ⟨rfl, b3⟩
    refine ⟨_, rfl, q117.k fun _ q118 => ?_⟩;clear q117
    replace B4 := B4.later b3
    have hr3b : Below wr.heap.size wr r3 := hr2b.trans (b3.mono y2)
    have y3 := hr3b.size
    refine q118.t (.bool (!decide (er18 x.c x.n x.o.k x.o.s x.o.v = 0))) (ex_bin rfl (q118.e (j := 23) rfl) rfl (neqC _ _ _ _ _)) fun _ q119 => ?_;clear q118
    refine q119.t (.bool (!decide (er18 x.c x.n x.o.k x.o.s x.o.v = 0))) (ex_move rfl (q119.e (j := 24) rfl)) fun _ q120 => ?_;clear q119
    refine vl (true && ((!decide (er18 x.c x.n x.o.k x.o.s x.o.v = 0)) == false)) (.pointer (some ⟨wr.heap.size, 5, none⟩)) (want_g rfl rfl (q120.a 25 rfl)) (fun hc => ex_fa rfl (q120.e (j := 4) rfl) (faK3 _ _)) rfl q120.z (by decide) (q120.k fun _ q121 => ?_);clear q120
    refine vl (true && ((!decide (er18 x.c x.n x.o.k x.o.s x.o.v = 0)) == false)) (.int .i64 x.b) (want_g rfl rfl (q121.a 25 rfl)) (fun hc => ex_ld rfl (ev (q121.a 26 rfl) hc) (ldI18 ((B4.cell 5).trans rfl))) rfl q121.z (by decide) (q121.k fun _ q122 => ?_);clear q121
    refine vl (true && ((!decide (er18 x.c x.n x.o.k x.o.s x.o.v = 0)) == false)) (.bool (decide (x.b < 0))) (want_g rfl rfl (q122.a 25 rfl)) (fun hc => ex_bin rfl (ev (q122.a 27 rfl) hc) rfl (lssC _ _ _ _ _)) rfl q122.z (by decide) (q122.k fun _ q123 => ?_);clear q122
    refine q123.t (.bool (a24 x)) (ex_or rfl (q123.a 25 rfl) (q123.a 28 rfl) rfl) fun _ q124 => ?_;clear q123
    have q125 := (((((Rp.nil q124.z).cons (q124.a 0 rfl)).cons (q124.a 3 rfl)).cons (q124.a 4 rfl)).cons (q124.a 29 rfl))
    clear q124
    refine wpList_nil ?_
    cases hA : a24 x with
    | true =>
      have q125x := q125.a 29 rfl
      rw [hA] at q125x
      have hEE : kchk l = 180 := by rw [hXx, may24, hA]; simp
      go_upto_region 6 with fail
      refine wp_cond_true (ev q125x rfl) ?_
      go_upto_region 6 with fail
      refine wp_region_lit ?_
      refine q125.t (.int .i64 180) (ex_assign rfl rfl) fun _ q126 => ?_;clear q125
      refine wpList_nil ?_
      go_wp2
      refine bodyPost_ret (results_tmp rfl _ _ _) rfl ⟨?_, br.trans (hr3b.mono zr)⟩
      rw [getD_of (q126.a 2 rfl)]
      exact ret18 (hEE.symm)
    | false =>
      have q125x := q125.a 29 rfl
      rw [hA] at q125x
      go_upto_region 7 with fail
      refine wp_cond_false (ev q125x rfl) ?_
      clear q125x
      go_upto_region 7 with fail
      refine wp_region_lit ?_
      refine q125.t (.pointer (some ⟨wr.heap.size, 6, none⟩)) (ex_fa rfl (q125.e (j := 4) rfl) (faK4 _ _)) fun _ q126 => ?_;clear q125
      refine q126.t (.int .i64 x.e) (ex_ld rfl (q126.e (j := 30) rfl) (ldI18 ((B4.cell 6).trans rfl))) fun _ q127 => ?_;clear q126
      refine q127.t (.bool (decide (x.e = -1))) (ex_bin rfl (q127.e (j := 31) rfl) rfl (eqlC _ _ _ _ _)) fun _ q128 => ?_;clear q127
      refine q128.t (.bool (decide (x.e = -1))) (ex_move rfl (q128.e (j := 32) rfl)) fun _ q129 => ?_;clear q128
      refine vl (true && ((decide (x.e = -1)) == true)) (.pointer (some ⟨wr.heap.size, 7, none⟩)) (want_g rfl rfl (q129.a 33 rfl)) (fun hc => ex_fa rfl (q129.e (j := 4) rfl) (faK5 _ _)) rfl q129.z (by decide) (q129.k fun _ q130 => ?_);clear q129
      refine vl (true && ((decide (x.e = -1)) == true)) (.agg #[.int .i64 x.r.1, .int .i64 x.r.2.1, .string x.r.2.2]) (want_g rfl rfl (q130.a 33 rfl)) (fun hc => ex_ld rfl (ev (q130.a 34 rfl) hc) B4.ldR) rfl q130.z (by decide) (q130.k fun _ q131 => ?_);clear q130
      refine vl (true && ((decide (x.e = -1)) == true)) (.agg #[.int .i64 0, .int .i64 0, .string ⟨#[]⟩]) (want_g rfl rfl (q131.a 33 rfl)) (fun hc => ex_build rfl (bdRs18 _)) rfl q131.z (by decide) (q131.k fun _ q132 => ?_);clear q131
      refine vl (true && ((decide (x.e = -1)) == true)) (.bool (!decide (x.r = (0, 0, ⟨#[]⟩)))) (want_g rfl rfl (q132.a 33 rfl)) (fun hc => ex_bin rfl (ev (q132.a 35 rfl) hc) (ev (q132.a 36 rfl) hc) (neqR18 _ _ x.r (0, 0, ⟨#[]⟩) _)) rfl q132.z (by decide) (q132.k fun _ q133 => ?_);clear q132
      refine q133.t (.bool (decide (x.e = -1) && !decide (x.r = (0, 0, ⟨#[]⟩)))) (ex_and rfl (q133.a 33 rfl) (q133.a 37 rfl) rfl) fun _ q134 => ?_;clear q133
      refine q134.t (.bool (decide (x.e = -1) && !decide (x.r = (0, 0, ⟨#[]⟩)))) (ex_move rfl (q134.e (j := 38) rfl)) fun _ q135 => ?_;clear q134
      refine vl (true && ((decide (x.e = -1) && !decide (x.r = (0, 0, ⟨#[]⟩))) == false)) (.pointer (some ⟨wr.heap.size, 6, none⟩)) (want_g rfl rfl (q135.a 39 rfl)) (fun hc => ex_fa rfl (q135.e (j := 4) rfl) (faK4 _ _)) rfl q135.z (by decide) (q135.k fun _ q136 => ?_);clear q135
      refine vl (true && ((decide (x.e = -1) && !decide (x.r = (0, 0, ⟨#[]⟩))) == false)) (.int .i64 x.e) (want_g rfl rfl (q136.a 39 rfl)) (fun hc => ex_ld rfl (ev (q136.a 40 rfl) hc) (ldI18 ((B4.cell 6).trans rfl))) rfl q136.z (by decide) (q136.k fun _ q137 => ?_);clear q136
      refine vl (true && ((decide (x.e = -1) && !decide (x.r = (0, 0, ⟨#[]⟩))) == false)) (.bool (!decide (x.e = -1))) (want_g rfl rfl (q137.a 39 rfl)) (fun hc => ex_bin rfl (ev (q137.a 41 rfl) hc) rfl (neqC _ _ _ _ _)) rfl q137.z (by decide) (q137.k fun _ q138 => ?_);clear q137
      refine vl (true && ((decide (x.e = -1) && !decide (x.r = (0, 0, ⟨#[]⟩))) == false)) (.bool (!decide (x.e = -1))) (want_g rfl rfl (q138.a 39 rfl)) (fun hc => ex_move rfl (ev (q138.a 42 rfl) hc)) rfl q138.z (by decide) (q138.k fun _ q139 => ?_);clear q138
      refine vl ((true && ((decide (x.e = -1) && !decide (x.r = (0, 0, ⟨#[]⟩))) == false)) && ((!decide (x.e = -1)) == true)) (.pointer (some ⟨wr.heap.size, 6, none⟩)) (want_g rfl rfl (q139.a 43 rfl)) (fun hc => ex_fa rfl (q139.e (j := 4) rfl) (faK4 _ _)) rfl q139.z (by decide) (q139.k fun _ q140 => ?_);clear q139
      refine vl ((true && ((decide (x.e = -1) && !decide (x.r = (0, 0, ⟨#[]⟩))) == false)) && ((!decide (x.e = -1)) == true)) (.int .i64 x.e) (want_g rfl rfl (q140.a 43 rfl)) (fun hc => ex_ld rfl (ev (q140.a 44 rfl) hc) (ldI18 ((B4.cell 6).trans rfl))) rfl q140.z (by decide) (q140.k fun _ q141 => ?_);clear q140
      refine vl ((true && ((decide (x.e = -1) && !decide (x.r = (0, 0, ⟨#[]⟩))) == false)) && ((!decide (x.e = -1)) == true)) (.pointer (some ⟨wr.heap.size, 5, none⟩)) (want_g rfl rfl (q141.a 43 rfl)) (fun hc => ex_fa rfl (q141.e (j := 4) rfl) (faK3 _ _)) rfl q141.z (by decide) (q141.k fun _ q142 => ?_);clear q141
      refine vl ((true && ((decide (x.e = -1) && !decide (x.r = (0, 0, ⟨#[]⟩))) == false)) && ((!decide (x.e = -1)) == true)) (.int .i64 x.b) (want_g rfl rfl (q142.a 43 rfl)) (fun hc => ex_ld rfl (ev (q142.a 46 rfl) hc) (ldI18 ((B4.cell 5).trans rfl))) rfl q142.z (by decide) (q142.k fun _ q143 => ?_);clear q142
      refine vl ((true && ((decide (x.e = -1) && !decide (x.r = (0, 0, ⟨#[]⟩))) == false)) && ((!decide (x.e = -1)) == true)) (.bool (decide (x.e ≤ x.b))) (want_g rfl rfl (q143.a 43 rfl)) (fun hc => ex_bin rfl (ev (q143.a 45 rfl) hc) (ev (q143.a 47 rfl) hc) (leqC18 _ _ _ _ _)) rfl q143.z (by decide) (q143.k fun _ q144 => ?_);clear q143
      refine vl (true && ((decide (x.e = -1) && !decide (x.r = (0, 0, ⟨#[]⟩))) == false)) (.bool (!decide (x.e = -1) && decide (x.e ≤ x.b))) (want_g rfl rfl (q144.a 39 rfl)) (fun hc => ex_and rfl (q144.a 43 rfl) (q144.a 48 rfl) hc) rfl q144.z (by decide) (q144.k fun _ q145 => ?_);clear q144
      refine q145.t (.bool (b24 x)) (ex_or rfl (q145.a 39 rfl) (q145.a 49 rfl) rfl) fun _ q146 => ?_;clear q145
      have q147 := (((((Rp.nil q146.z).cons (q146.a 0 rfl)).cons (q146.a 3 rfl)).cons (q146.a 4 rfl)).cons (q146.a 50 rfl))
      clear q146
      refine wpList_nil ?_
      cases hB : b24 x with
      | true =>
        have q147x := q147.a 50 rfl
        rw [hB] at q147x
        have hEE : kchk l = 180 := by rw [hXx, may24, hB]; simp
        go_upto_region 8 with fail
        refine wp_cond_true (ev q147x rfl) ?_
        go_upto_region 8 with fail
        refine wp_region_lit ?_
        refine q147.t (.int .i64 180) (ex_assign rfl rfl) fun _ q148 => ?_;clear q147
        refine wpList_nil ?_
        go_wp2
        refine bodyPost_ret (results_tmp rfl _ _ _) rfl ⟨?_, br.trans (hr3b.mono zr)⟩
        rw [getD_of (q148.a 2 rfl)]
        exact ret18 (hEE.symm)
      | false =>
        have q147x := q147.a 50 rfl
        rw [hB] at q147x
        go_upto_region 9 with fail
        refine wp_cond_false (ev q147x rfl) ?_
        clear q147x
        go_upto_region 9 with fail
        refine wp_region_lit ?_
        refine q147.t (.int .i64 ((0 : Nat) : Int)) (ex_assign rfl rfl) fun _ q148 => ?_;clear q147
        have q149 := (((((Rp.nil q148.z).cons (q148.a 0 rfl)).cons (q148.a 3 rfl)).cons (q148.a 4 rfl)).cons (q148.a 5 rfl))
        clear q148
        refine wpList_nil ?_
        go_upto_region 10 with fail
        refine v_loop 5 i (fun j T u => Rp T 74 [(5, gw true (.int .i64 (j : Int))), (4, gw true (.pointer (some ⟨wr.heap.size, 0, none⟩))), (3, gw true (.int .i64 (i : Int))), (0, gw true (.slice a l.length c))] ∧ Hid (Below r3.heap.size r3 u ∧ hasK (l.take j) x.c x.n = false)) (fun j T w h => h.1.a 5 rfl) ⟨q149, Below.refl _ _, by simp [hasK]⟩ ?_
        clear q149
        intro j T2 u hj hh2
        obtain ⟨q200, HJ2⟩ := hh2
        obtain ⟨hub, hha⟩ := HJ2.out
        clear HJ2
        have y4 := hub.size
        have hub2 : Below wr.heap.size wr u := hr3b.trans (hub.mono (by omega))
        have B4u := B4.later hub
        by_cases hjt : j < i
        · obtain ⟨y, hy⟩ : ∃ y, l[j]? = some y := ⟨_, List.getElem?_eq_getElem (by omega)⟩
          obtain ⟨qb, ob, hqb, hqbl, hlb⟩ := (h.on (br.trans (hub2.mono zr)) (Nat.le_refl _)).place (by rintro rfl; simp at hx)
          have hht := hasK_take (c := x.c) (n := x.n) hy
          go_upto_region 10 with fail
          refine wp_region_lit ?_
          refine q200.t (.int .i64 (j : Int)) (ex_move rfl (q200.e (j := 5) rfl)) fun _ q201 => ?_;clear q200
          refine q201.t (.int .i64 (i : Int)) (ex_move rfl (q201.e (j := 3) rfl)) fun _ q202 => ?_;clear q201
          refine q202.t (.bool true) (ex_bin rfl (q202.e (j := 51) rfl) (q202.e (j := 52) rfl) (ltT _ _ hjt _)) fun _ q203 => ?_;clear q202
          refine wpList_nil ?_
          go_upto_region 12 with fail
          refine wp_cond_true (q203.e (j := 53) rfl) ?_
          go_upto_region 12 with fail
          refine vq_start (C := fun v => Below u.heap.size u v) (by kernel_rfl) (by kernel_rfl) (Below.refl _ _).drew ?_
          refine q203.q (.slice a l.length c) (fun v hv => ex_move rfl (q203.e (j := 0) rfl)) fun _ q204 => ?_;clear q203
          refine q204.q (.int .i64 (j : Int)) (fun v hv => ex_move rfl (q204.e (j := 5) rfl)) fun _ q205 => ?_;clear q204
          refine q205.q (.pointer (some ⟨qb, ob + j * 10, none⟩)) (fun v hv => ex_ix rfl (q205.e (j := 56) rfl) (q205.e (j := 57) rfl) (by rw [hqb]; exact ixK qb ob l.length c j (by omega) _)) fun _ q206 => ?_;clear q205
          refine q206.q (.pointer (some ⟨qb, ob + j * 10, none⟩)) (fun v hv => ex_fa rfl (q206.e (j := 58) rfl) (faK0o _ _ _)) fun _ q207 => ?_;clear q206
          refine q207.q (.int .i64 y.c) (fun v hv => ex_ld rfl (q207.e (j := 59) rfl) (ldI18 ((hlb.upd (S := fun _ => False) (Upd.of_below hv) hqbl id) j y hy 0 _ rfl))) fun _ q208 => ?_;clear q207
          refine q208.q (.pointer (some ⟨wr.heap.size, 0, none⟩)) (fun v hv => ex_fa rfl (q208.e (j := 4) rfl) (faK0o _ _ _)) fun _ q209 => ?_;clear q208
          refine q209.q (.int .i64 x.c) (fun v hv => ex_ld rfl (q209.e (j := 61) rfl) (ldI18 (((B4u.later hv).cell 0).trans rfl))) fun _ q210 => ?_;clear q209
          refine q210.q (.bool (decide (y.c = x.c))) (fun v hv => ex_bin rfl (q210.e (j := 60) rfl) (q210.e (j := 62) rfl) (eqlC _ _ _ _ _)) fun _ q211 => ?_;clear q210
          refine q211.q (.bool (decide (y.c = x.c))) (fun v hv => ex_move rfl (q211.e (j := 63) rfl)) fun _ q212 => ?_;clear q211
          refine vq (true && ((decide (y.c = x.c)) == true)) (.slice a l.length c) (want_g rfl rfl (q212.a 64 rfl)) (fun hc v hv => ex_move rfl (q212.e (j := 0) rfl)) rfl q212.z (by decide) (q212.k fun _ q213 => ?_);clear q212
          refine vq (true && ((decide (y.c = x.c)) == true)) (.int .i64 (j : Int)) (want_g rfl rfl (q213.a 64 rfl)) (fun hc v hv => ex_move rfl (q213.e (j := 5) rfl)) rfl q213.z (by decide) (q213.k fun _ q214 => ?_);clear q213
          refine vq (true && ((decide (y.c = x.c)) == true)) (.pointer (some ⟨qb, ob + j * 10, none⟩)) (want_g rfl rfl (q214.a 64 rfl)) (fun hc v hv => ex_ix rfl (ev (q214.a 65 rfl) hc) (ev (q214.a 66 rfl) hc) (by rw [hqb]; exact ixK qb ob l.length c j (by omega) _)) rfl q214.z (by decide) (q214.k fun _ q215 => ?_);clear q214
          refine vq (true && ((decide (y.c = x.c)) == true)) (.pointer (some ⟨qb, ob + j * 10 + 1, none⟩)) (want_g rfl rfl (q215.a 64 rfl)) (fun hc v hv => ex_fa rfl (ev (q215.a 67 rfl) hc) (faK1o _ _ _)) rfl q215.z (by decide) (q215.k fun _ q216 => ?_);clear q215
          refine vq (true && ((decide (y.c = x.c)) == true)) (.int .i64 y.n) (want_g rfl rfl (q216.a 64 rfl)) (fun hc v hv => ex_ld rfl (ev (q216.a 68 rfl) hc) (ldI18 ((hlb.upd (S := fun _ => False) (Upd.of_below hv) hqbl id) j y hy 1 _ rfl))) rfl q216.z (by decide) (q216.k fun _ q217 => ?_);clear q216
          refine vq (true && ((decide (y.c = x.c)) == true)) (.pointer (some ⟨wr.heap.size, 0 + 1, none⟩)) (want_g rfl rfl (q217.a 64 rfl)) (fun hc v hv => ex_fa rfl (q217.e (j := 4) rfl) (faK1o _ _ _)) rfl q217.z (by decide) (q217.k fun _ q218 => ?_);clear q217
          refine vq (true && ((decide (y.c = x.c)) == true)) (.int .i64 x.n) (want_g rfl rfl (q218.a 64 rfl)) (fun hc v hv => ex_ld rfl (ev (q218.a 70 rfl) hc) (ldI18 (((B4u.later hv).cell 1).trans rfl))) rfl q218.z (by decide) (q218.k fun _ q219 => ?_);clear q218
          refine vq (true && ((decide (y.c = x.c)) == true)) (.bool (decide (y.n = x.n))) (want_g rfl rfl (q219.a 64 rfl)) (fun hc v hv => ex_bin rfl (ev (q219.a 69 rfl) hc) (ev (q219.a 71 rfl) hc) (eqlC _ _ _ _ _)) rfl q219.z (by decide) (q219.k fun _ q220 => ?_);clear q219
          refine q220.q (.bool (decide (y.c = x.c) && decide (y.n = x.n))) (fun v hv => ex_and rfl (q220.a 64 rfl) (q220.a 72 rfl) rfl) fun _ q221 => ?_;clear q220
          refine vq_nil (fun u1 hu1 => ?_)
          have y5 := hu1.size
          have q222 := ((((((Rp.nil q221.z).cons (q221.a 0 rfl)).cons (q221.a 3 rfl)).cons (q221.a 4 rfl)).cons (q221.a 5 rfl)).cons (q221.a 73 rfl))
          clear q221
          cases hD : (decide (y.c = x.c) && decide (y.n = x.n)) with
          | true =>
            have q222x := q222.a 73 rfl
            rw [hD] at q222x
            have hEE : kchk l = 180 := by rw [hXx, hasK_mono (k := j + 1) (by omega) (by rw [hht, hD]; simp)]; simp
            go_upto_region 13 with fail
            refine wp_cond_true (ev q222x rfl) ?_
            go_upto_region 13 with fail
            refine wp_region_lit ?_
            refine q222.t (.int .i64 180) (ex_assign rfl rfl) fun _ q223 => ?_;clear q222
            refine wpList_nil ?_
            go_wp2
            refine bodyPost_ret (results_tmp rfl _ _ _) rfl ⟨?_, br.trans ((hub2.trans (hu1.mono (by omega))).mono zr)⟩
            rw [getD_of (q223.a 2 rfl)]
            exact ret18 (hEE.symm)
          | false =>
            have q222x := q222.a 73 rfl
            rw [hD] at q222x
            go_upto_region 11 with fail
            refine wp_cond_false (ev q222x rfl) ?_
            clear q222x
            go_upto_region 11 with fail
            refine wp_region_lit ?_
            refine q222.t (.int .i64 (j : Int)) (ex_move rfl (q222.e (j := 5) rfl)) fun _ q223 => ?_;clear q222
            refine q223.t (.int .i64 ((j + 1 : Nat) : Int)) (ex_bin rfl (q223.e (j := 54) rfl) rfl (add1C _ _ j (by omega) _)) fun _ q224 => ?_;clear q223
            refine q224.t (.int .i64 ((j + 1 : Nat) : Int)) (ex_assign rfl (q224.e (j := 55) rfl)) fun _ q225 => ?_;clear q224
            have q226 := (((((Rp.nil q225.z).cons (q225.a 0 rfl)).cons (q225.a 3 rfl)).cons (q225.a 4 rfl)).cons (q225.a 5 rfl))
            clear q225
            refine wpList_nil ?_
            exact ⟨_, rfl, hjt, q226, hub.trans (hu1.mono y4), by rw [hht, hha, hD]; rfl⟩
        · obtain rfl : j = i := by omega
          go_upto_region 10 with fail
          refine wp_region_lit ?_
          refine q200.t (.int .i64 (j : Int)) (ex_move rfl (q200.e (j := 5) rfl)) fun _ q201 => ?_;clear q200
          refine q201.t (.int .i64 (j : Int)) (ex_move rfl (q201.e (j := 3) rfl)) fun _ q202 => ?_;clear q201
          refine q202.t (.bool false) (ex_bin rfl (q202.e (j := 51) rfl) (q202.e (j := 52) rfl) (ltF _ _ hjt _)) fun _ q203 => ?_;clear q202
          refine wpList_nil ?_
          go_upto_region 3 with fail
          refine wp_cond_false (q203.e (j := 53) rfl) ?_
          go_upto_region 3 with fail
          refine wp_region_lit ?_
          refine q203.t (.int .i64 (j : Int)) (ex_move rfl (q203.e (j := 3) rfl)) fun _ q204 => ?_;clear q203
          refine q204.t (.int .i64 ((j + 1 : Nat) : Int)) (ex_bin rfl (q204.e (j := 10) rfl) rfl (add1C _ _ j (by omega) _)) fun _ q205 => ?_;clear q204
          refine q205.t (.int .i64 ((j + 1 : Nat) : Int)) (ex_assign rfl (q205.e (j := 11) rfl)) fun _ q206 => ?_;clear q205
          have q207 := (((Rp.nil q206.z).cons (q206.a 0 rfl)).cons (q206.a 3 rfl))
          clear q206
          refine wpList_nil ?_
          exact ⟨_, rfl, hit, q207, br.trans (hub2.mono zr), by rw [hXx, hha, may24, hA, hB]; rfl⟩
  · obtain rfl : i = l.length := by omega
    go_upto_region 2 with fail
    refine wp_region_lit ?_
    refine q100.t (.int .i64 (l.length : Int)) (ex_move rfl (q100.e (j := 3) rfl)) fun _ q101 => ?_;clear q100
    refine q101.t (.slice a l.length c) (ex_move rfl (q101.e (j := 0) rfl)) fun _ q102 => ?_;clear q101
    refine q102.t (.int .i64 (l.length : Int)) (ex_len18 rfl rfl (q102.e (j := 7) rfl)) fun _ q103 => ?_;clear q102
    refine q103.t (.bool false) (ex_bin rfl (q103.e (j := 6) rfl) (q103.e (j := 8) rfl) (ltF _ _ hit _)) fun _ q104 => ?_;clear q103
    refine wpList_nil ?_
    go_upto_region 14 with fail
    refine wp_cond_false (q104.e (j := 9) rfl) ?_
    go_upto_region 14 with fail
    refine wp_region_lit ?_
    refine q104.t (.int .i64 0) (ex_assign rfl rfl) fun _ q105 => ?_;clear q104
    refine wpList_nil ?_
    go_wp2
    refine bodyPost_ret (results_tmp rfl _ _ _) rfl ⟨?_, br⟩
    rw [getD_of (q105.a 2 rfl)]
    exact ret18 ((hX.trans (kcA_end l)).symm)

end Go.Proofs.Ytjkleldoeojbbaa
