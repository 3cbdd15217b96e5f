import Derived.Test.YtomiifnhcojilaaS20
import Derived.Test.YtomiifnhcojilaaS12
namespace Go.Proofs.Ytomiifnhcojilaa
open Go.RowKit Go.Maps
open Classical
set_option linter.unusedVariables false
set_option linter.unusedSimpArgs false

theorem v_loopX {c : Code} {Q : Exit → Act → World → Prop} {T0 : Array Value} {w0 : World} (M : Array Value → Nat) (N : Nat) (I : Nat → Array Value → World → Prop) (hM : ∀ j T w, I j T w → M T = N - j) (h0 : I 0 T0 w0)
    (round : ∀ j T w, j ≤ N → I j T w → c.wp Try.prog (Exit.then (fun a' w' => ∃ T', a' = ⟨T', []⟩ ∧ j + 1 ≤ N ∧ I (j + 1) T' w') Q) ⟨T, []⟩ w) : (Code.loop c).wp Try.prog Q ⟨T0, []⟩ w0 := by
  refine wp_loop (fun a w => ∃ j T, a = ⟨T, []⟩ ∧ j ≤ N ∧ I j T w) (fun a w => M a.tmps) ⟨0, T0, rfl, Nat.zero_le _, h0⟩ ?_
  rintro a w ⟨j, T, rfl, hj, hI⟩
  refine Code.wp_mono (fun e a' w' h => ?_) (round j T w hj hI)
  cases e with
  | normal =>
    obtain ⟨T', rfl, hj', hI'⟩ := h
    refine ⟨⟨j + 1, T', rfl, hj', hI'⟩, ?_⟩
    show M T' < M T
    rw [hM _ _ _ hI', hM _ _ _ hI]
    omega
  | _ => exact h
theorem neqI (x y : Operand) (a k : Nat) (b : Bool) (h : (!decide (a = k)) = b) (w : World) : (do eqGuard .neq 3 x y (.int .i64 ((a : Nat) : Int)) (.int .i64 ((k : Nat) : Int)); binOp .neq 3 (.int .i64 ((a : Nat) : Int)) (.int .i64 ((k : Nat) : Int)) : Sem Value).run Try.prog w = .ok (.bool b) w := by
  rw [neqC, ← h]
  congr 3
  by_cases e : a = k
  · rw [decide_eq_true e, decide_eq_true (by omega)]
  · rw [decide_eq_false e, decide_eq_false (by omega)]
theorem lenB_at (k : Nat) (j : Nat) (hj : j < 8) : (lenB k).take (8 - j) = (lenB k).take (8 - (j + 1)) ++ [IntKind.u8.wrap (IntKind.u64.wrap (IntKind.u64.wrap (k : Int) * 8) / 2 ^ (8 * j))] := by
  have hl : (lenB k).length = 8 := by simp [lenB]
  rw [show 8 - j = (8 - (j + 1)) + 1 by omega, List.take_succ_eq_append_getElem (by omega)]
  congr 2
  simp only [lenB, List.getElem_map, List.getElem_range]
  rw [show 56 - 8 * (8 - (j + 1)) = 8 * j by omega]
set_option maxRecDepth 100000 in
set_option maxHeartbeats 2000000 in
theorem filled19 (b : List Int) (a : Option Addr) (c : Nat) (w : World) (h : SlY yB9 w a b.length c b) (hl : b.length ≤ 140737488350000) :
    Calls Try.prog 70 #[.slice a b.length c] w fun e w' => ∃ v, e = .returned v ∧ OwnY yB9 w.heap.size w' v (b ++ fill b.length) ∧ Below w.heap.size w w' := by
  go_enter Try.func70, Try.ntmps70
  go_upto_region 0 with fail
  refine wp_region_lit ?_
  refine vl_gen (fun T => Rp T 37 [(0, gw true (.slice a b.length c))]) ((Rp.nil rfl).cons rfl) (fun Z0 q0 => ?_)
  have hzr : zr b.length < 64 := Nat.mod_lt _ (by decide)
  refine q0.t (.slice none 0 0) (ex_assign rfl rfl) fun _ q1 => ?_;clear q0
  refine wpList_nil ?_
  go_upto_region 1 with fail
  refine wp_region_lit ?_
  refine q1.t (.slice none 0 0) (ex_assign rfl rfl) fun _ q2 => ?_;clear q1
  refine wpList_nil ?_
  go_upto_region 2 with fail
  refine wp_region_lit ?_
  refine q2.t (.slice none 0 0) (ex_move rfl (q2.e (j := 3) rfl)) fun _ q3 => ?_;clear q2
  refine q3.t (.slice a b.length c) (ex_move rfl (q3.e (j := 0) rfl)) fun _ q4 => ?_;clear q3
  obtain ⟨v1, w1, ha1, o1, g1, _⟩ := run_appY kB9 w 73 w.heap.size [] (.slice none 0 0) a b.length c b h (OwnY.nil _ _ _) (Nat.le_refl _) (by unfold maxLen; simp; omega) (by show (([] : List Int).length + b.length) * 1 ≤ _; simp; omega)
  rw [List.nil_append] at o1
  have b1 : Below w.heap.size w w1 := (Below.refl _ _).grown g1 (Nat.le_refl _) (fun k hk => by cases hk)
  have z1 := b1.size
  refine vw (v1) w1 (want_none rfl) (ex_app18 rfl (q4.e (j := 6) rfl) (q4.e (j := 7) rfl) ha1) rfl q4.z (by decide) (q4.k fun _ q5 => ?_);clear q4
  refine q5.t (v1) (ex_assign rfl (q5.e (j := 8) rfl)) fun _ q6 => ?_;clear q5
  have q7 := (((Rp.nil q6.z).cons (q6.a 0 rfl)).cons (q6.a 3 rfl))
  clear q6
  refine wpList_nil ?_
  go_upto_region 3 with fail
  refine wp_region_lit ?_
  refine q7.t (v1) (ex_move rfl (q7.e (j := 3) rfl)) fun _ q8 => ?_;clear q7
  obtain ⟨s2, hs2⟩ : ∃ y, y = w1.alloc (.cells (([128] : List Int).map bV).toArray 5) := ⟨_, rfl⟩
  refine vw (.slice (some ⟨w1.heap.size, 0, none⟩) 1 1) s2 (want_none rfl) (ex_bs18 rfl rfl (by rw [hs2]; exact bs1B _ _)) rfl q8.z (by decide) (q8.k fun _ q9 => ?_);clear q8
  have t2 : SlY yB9 s2 (some ⟨w1.heap.size, 0, none⟩) 1 1 [128] := by rw [hs2]; exact slM w1 [128] _ _ (by unfold maxLen; simp)
  have e2 : Below w1.heap.size w1 s2 := by rw [hs2]; exact (Below.refl _ _).alloc (Nat.le_refl _) _
  clear hs2
  have y2 := e2.size
  obtain ⟨v2, w2, ha2, o2, g2, _⟩ := run_appY kB9 s2 73 w.heap.size (b) v1 _ 1 1 [128] t2 (o1.grow e2) (by omega) (by unfold maxLen; first | omega | (simp only [List.length_append, List.length_replicate, List.length_cons, List.length_nil, List.length_take]; omega)) (by show ((b).length + 1) * 1 ≤ _; first | omega | (simp only [List.length_append, List.length_replicate, List.length_cons, List.length_nil, List.length_take]; omega))
  have b2 : Below w.heap.size w w2 := (b1.trans (e2.mono b1.size)).grown g2 (by omega) (fun k hk => (o1.blk k hk).1)
  have z2 := b2.size
  refine vw (v2) w2 (want_none rfl) (ex_app18 rfl (q9.e (j := 9) rfl) (q9.e (j := 10) rfl) ha2) rfl q9.z (by decide) (q9.k fun _ q10 => ?_);clear q9
  refine q10.t (v2) (ex_assign rfl (q10.e (j := 11) rfl)) fun _ q11 => ?_;clear q10
  have q12 := (((Rp.nil q11.z).cons (q11.a 0 rfl)).cons (q11.a 3 rfl))
  clear q11
  refine wpList_nil ?_
  go_upto_region 4 with fail
  have o2 : OwnY yB9 w.heap.size w2 v2 (b ++ [128] ++ List.replicate 0 0) := by rw [List.replicate_zero, List.append_nil]; exact o2
  refine v_loopX (fun T => b.length + 1 + zr b.length - lenV (T.getD 3 undef)) (zr b.length) (fun j T wr => ∃ v, Rp T 37 [(3, gw true v), (0, gw true (.slice a b.length c))] ∧ Hid (OwnY yB9 w.heap.size wr v (b ++ [128] ++ List.replicate j 0) ∧ Below w.heap.size w wr)) (fun j T w hh => by
    obtain ⟨v, hr, hH⟩ := hh
    obtain ⟨a9, c9, hv9, _⟩ := hH.out.1.form
    rw [hr.get rfl, hv9]
    simp only [lenV, List.length_append, List.length_replicate, List.length_cons, List.length_nil]
    omega) ⟨v2, q12, o2, b2⟩ ?_
  clear q12 o2 b2
  intro j T wr hj hh
  obtain ⟨v, q100, HJ⟩ := hh
  obtain ⟨hO, br⟩ := HJ.out
  clear HJ
  have zr2 := br.size
  obtain ⟨a9, c9, hv9, _⟩ := hO.sl kB9
  have hln : (b ++ [128] ++ List.replicate j 0).length = b.length + 1 + j := by simp only [List.length_append, List.length_replicate, List.length_cons, List.length_nil]
  have hzd : zr b.length = (119 - b.length % 64) % 64 := rfl
  by_cases hit : j < zr b.length
  · go_upto_region 4 with fail
    refine wp_region_lit ?_
    refine q100.t (.slice a9 (b ++ [128] ++ List.replicate j 0).length c9) (ex_move rfl ((q100.e (j := 3) rfl).trans hv9)) fun _ q101 => ?_;clear q100
    refine q101.t (.int .i64 (((b ++ [128] ++ List.replicate j 0).length : Nat) : Int)) (ex_lenG rfl rfl Try.underlying73 (q101.e (j := 12) rfl)) fun _ q102 => ?_;clear q101
    refine q102.t (.int .i64 (((b ++ [128] ++ List.replicate j 0).length % 64 : Nat) : Int)) (ex_bin rfl (q102.e (j := 13) rfl) rfl (remC _ _ _ 64 (by decide) (by rw [hln]; omega) _)) fun _ q103 => ?_;clear q102
    refine q103.t (.bool true) (ex_bin rfl (q103.e (j := 14) rfl) rfl (neqI _ _ _ 56 true (by rw [hln]; rw [decide_eq_false (by omega)]; rfl) _)) fun _ q104 => ?_;clear q103
    refine wpList_nil ?_
    go_upto_region 5 with fail
    refine wp_cond_true (q104.e (j := 15) rfl) ?_
    go_upto_region 5 with fail
    refine wp_region_lit ?_
    refine q104.t (v) (ex_move rfl (q104.e (j := 3) rfl)) fun _ q105 => ?_;clear q104
    obtain ⟨s3, hs3⟩ : ∃ y, y = wr.alloc (.cells (([0] : List Int).map bV).toArray 5) := ⟨_, rfl⟩
    refine vw (.slice (some ⟨wr.heap.size, 0, none⟩) 1 1) s3 (want_none rfl) (ex_bs18 rfl rfl (by rw [hs3]; exact bs1B _ _)) rfl q105.z (by decide) (q105.k fun _ q106 => ?_);clear q105
    have t3 : SlY yB9 s3 (some ⟨wr.heap.size, 0, none⟩) 1 1 [0] := by rw [hs3]; exact slM wr [0] _ _ (by unfold maxLen; simp)
    have e3 : Below wr.heap.size wr s3 := by rw [hs3]; exact (Below.refl _ _).alloc (Nat.le_refl _) _
    clear hs3
    have y3 := e3.size
    obtain ⟨v3, w3, ha3, o3, g3, _⟩ := run_appY kB9 s3 73 w.heap.size (b ++ [128] ++ List.replicate j 0) v _ 1 1 [0] t3 (hO.grow e3) (by omega) (by unfold maxLen; first | omega | (simp only [List.length_append, List.length_replicate, List.length_cons, List.length_nil, List.length_take]; omega)) (by show ((b ++ [128] ++ List.replicate j 0).length + 1) * 1 ≤ _; first | omega | (simp only [List.length_append, List.length_replicate, List.length_cons, List.length_nil, List.length_take]; omega))
    have b3 : Below w.heap.size w w3 := (br.trans (e3.mono br.size)).grown g3 (by omega) (fun k hk => (hO.blk k hk).1)
    have z3 := b3.size
    refine vw (v3) w3 (want_none rfl) (ex_app18 rfl (q106.e (j := 16) rfl) (q106.e (j := 17) rfl) ha3) rfl q106.z (by decide) (q106.k fun _ q107 => ?_);clear q106
    refine q107.t (v3) (ex_assign rfl (q107.e (j := 18) rfl)) fun _ q108 => ?_;clear q107
    have q109 := (((Rp.nil q108.z).cons (q108.a 0 rfl)).cons (q108.a 3 rfl))
    clear q108
    refine wpList_nil ?_
    have o3 : OwnY yB9 w.heap.size w3 v3 (b ++ [128] ++ List.replicate (j + 1) 0) := by rw [List.replicate_succ', ← List.append_assoc]; exact o3
    exact ⟨_, rfl, hit, v3, q109, o3, b3⟩
  · obtain rfl : j = zr b.length := by omega
    go_upto_region 4 with fail
    refine wp_region_lit ?_
    refine q100.t (.slice a9 (b ++ [128] ++ List.replicate (zr b.length) 0).length c9) (ex_move rfl ((q100.e (j := 3) rfl).trans hv9)) fun _ q101 => ?_;clear q100
    refine q101.t (.int .i64 (((b ++ [128] ++ List.replicate (zr b.length) 0).length : Nat) : Int)) (ex_lenG rfl rfl Try.underlying73 (q101.e (j := 12) rfl)) fun _ q102 => ?_;clear q101
    refine q102.t (.int .i64 (((b ++ [128] ++ List.replicate (zr b.length) 0).length % 64 : Nat) : Int)) (ex_bin rfl (q102.e (j := 13) rfl) rfl (remC _ _ _ 64 (by decide) (by rw [hln]; omega) _)) fun _ q103 => ?_;clear q102
    refine q103.t (.bool false) (ex_bin rfl (q103.e (j := 14) rfl) rfl (neqI _ _ _ 56 false (by rw [hln]; rw [decide_eq_true (by omega)]; rfl) _)) fun _ q104 => ?_;clear q103
    refine wpList_nil ?_
    go_upto_region 6 with fail
    refine wp_cond_false (q104.e (j := 15) rfl) ?_
    go_upto_region 6 with fail
    refine wp_region_lit ?_
    refine q104.t (.slice a b.length c) (ex_move rfl (q104.e (j := 0) rfl)) fun _ q105 => ?_;clear q104
    refine q105.t (.int .i64 ((b.length : Nat) : Int)) (ex_lenG rfl rfl Try.underlying73 (q105.e (j := 19) rfl)) fun _ q106 => ?_;clear q105
    refine q106.t (.int .u64 (IntKind.u64.wrap (b.length : Int))) (ex_cv19 rfl (q106.e (j := 20) rfl) (cvI_64 _ _)) fun _ q107 => ?_;clear q106
    refine q107.t (.int .u64 (IntKind.u64.wrap (IntKind.u64.wrap (b.length : Int) * 8))) (ex_bin rfl (q107.e (j := 21) rfl) rfl (mulQ _ _ _ _)) fun _ q108 => ?_;clear q107
    refine q108.t (.int .u64 (IntKind.u64.wrap (IntKind.u64.wrap (b.length : Int) * 8))) (ex_assign rfl (q108.e (j := 22) rfl)) fun _ q109 => ?_;clear q108
    refine wpList_nil ?_
    go_upto_region 7 with fail
    refine wp_region_lit ?_
    refine q109.t (.int .i64 (((8 : Nat) : Int) - 1)) (ex_assign rfl rfl) fun _ q110 => ?_;clear q109
    have q111 := ((((Rp.nil q110.z).cons (q110.a 3 rfl)).cons (q110.a 4 rfl)).cons (q110.a 5 rfl))
    clear q110
    refine wpList_nil ?_
    go_upto_region 8 with fail
    have o8 : OwnY yB9 w.heap.size wr v ((b ++ [128] ++ List.replicate (zr b.length) 0) ++ (lenB b.length).take (8 - 8)) := by rw [Nat.sub_self, List.take_zero, List.append_nil]; exact hO
    refine v_loopD 5 8 (fun j T wr => ∃ v, Rp T 37 [(5, gw true (.int .i64 (((j : Nat) : Int) - 1))), (4, gw true (.int .u64 (IntKind.u64.wrap (IntKind.u64.wrap (b.length : Int) * 8)))), (3, gw true v)] ∧ Hid (OwnY yB9 w.heap.size wr v ((b ++ [128] ++ List.replicate (zr b.length) 0) ++ (lenB b.length).take (8 - j)) ∧ Below w.heap.size w wr)) (fun j T w h => by obtain ⟨v, h, _⟩ := h; exact h.a 5 rfl) ⟨v, q111, o8, br⟩ ?_
    clear q111 o8 hO br hv9
    intro j T wr hj hh
    obtain ⟨v, q100, HJ⟩ := hh
    obtain ⟨hO, br⟩ := HJ.out
    clear HJ
    have zr2 := br.size
    have hlb : (lenB b.length).length = 8 := by simp [lenB]
    cases j with
    | succ j =>
      have ejj : (((j + 1 : Nat) : Int) - 1) = ((j : Nat) : Int) := by omega
      have hua := lenB_at b.length j (by omega)
      go_upto_region 8 with fail
      refine wp_region_lit ?_
      refine q100.t (.int .i64 (((j + 1 : Nat) : Int) - 1)) (ex_move rfl (q100.e (j := 5) rfl)) fun _ q101 => ?_;clear q100
      refine q101.t (.bool true) (ex_bin rfl (q101.e (j := 23) rfl) rfl (geqD _ _ (j + 1) true (by simp) _)) fun _ q102 => ?_;clear q101
      refine wpList_nil ?_
      go_upto_region 10 with fail
      refine wp_cond_true (q102.e (j := 24) rfl) ?_
      go_upto_region 10 with fail
      refine wp_region_lit ?_
      refine q102.t (v) (ex_move rfl (q102.e (j := 3) rfl)) fun _ q103 => ?_;clear q102
      refine q103.t (.int .u64 (IntKind.u64.wrap (IntKind.u64.wrap (b.length : Int) * 8))) (ex_move rfl (q103.e (j := 4) rfl)) fun _ q104 => ?_;clear q103
      refine q104.t (.int .i64 ((j : Nat) : Int)) (ex_move rfl ((q104.e (j := 5) rfl).trans (by rw [ejj]))) fun _ q105 => ?_;clear q104
      refine q105.t (.int .i64 ((8 * j : Nat) : Int)) (ex_bin rfl rfl (q105.e (j := 29) rfl) (mulC9 _ _ 8 j (by omega) _)) fun _ q106 => ?_;clear q105
      refine q106.t (.int .u64 ((8 * j : Nat) : Int)) (ex_cv19 rfl (q106.e (j := 30) rfl) (cvI_U (8 * j) (by omega) _)) fun _ q107 => ?_;clear q106
      refine q107.t (.int .u64 (IntKind.u64.wrap (IntKind.u64.wrap (b.length : Int) * 8) / 2 ^ (8 * j))) (ex_bin rfl (q107.e (j := 28) rfl) (q107.e (j := 31) rfl) (shrQu64 _ _ _ (8 * j) (by omega) _)) fun _ q108 => ?_;clear q107
      refine q108.t (.int .u8 (IntKind.u8.wrap (IntKind.u64.wrap (IntKind.u64.wrap (b.length : Int) * 8) / 2 ^ (8 * j)))) (ex_cv19 rfl (q108.e (j := 32) rfl) (cv64_8 _ _)) fun _ q109 => ?_;clear q108
      obtain ⟨s4, hs4⟩ : ∃ y, y = wr.alloc (.cells (([IntKind.u8.wrap (IntKind.u64.wrap (IntKind.u64.wrap (b.length : Int) * 8) / 2 ^ (8 * j))] : List Int).map bV).toArray 5) := ⟨_, rfl⟩
      refine vw (.slice (some ⟨wr.heap.size, 0, none⟩) 1 1) s4 (want_none rfl) (ex_bs18 rfl (q109.e (j := 33) rfl) (by rw [hs4]; exact bs1B _ _)) rfl q109.z (by decide) (q109.k fun _ q110 => ?_);clear q109
      have t4 : SlY yB9 s4 (some ⟨wr.heap.size, 0, none⟩) 1 1 [IntKind.u8.wrap (IntKind.u64.wrap (IntKind.u64.wrap (b.length : Int) * 8) / 2 ^ (8 * j))] := by rw [hs4]; exact slM wr [IntKind.u8.wrap (IntKind.u64.wrap (IntKind.u64.wrap (b.length : Int) * 8) / 2 ^ (8 * j))] _ _ (by unfold maxLen; simp)
      have e4 : Below wr.heap.size wr s4 := by rw [hs4]; exact (Below.refl _ _).alloc (Nat.le_refl _) _
      clear hs4
      have y4 := e4.size
      obtain ⟨v4, w4, ha4, o4, g4, _⟩ := run_appY kB9 s4 73 w.heap.size ((b ++ [128] ++ List.replicate (zr b.length) 0) ++ (lenB b.length).take (8 - (j + 1))) v _ 1 1 [IntKind.u8.wrap (IntKind.u64.wrap (IntKind.u64.wrap (b.length : Int) * 8) / 2 ^ (8 * j))] t4 (hO.grow e4) (by omega) (by unfold maxLen; first | omega | (simp only [List.length_append, List.length_replicate, List.length_cons, List.length_nil, List.length_take]; omega)) (by show (((b ++ [128] ++ List.replicate (zr b.length) 0) ++ (lenB b.length).take (8 - (j + 1))).length + 1) * 1 ≤ _; first | omega | (simp only [List.length_append, List.length_replicate, List.length_cons, List.length_nil, List.length_take]; omega))
      have b4 : Below w.heap.size w w4 := (br.trans (e4.mono br.size)).grown g4 (by omega) (fun k hk => (hO.blk k hk).1)
      have z4 := b4.size
      refine vw (v4) w4 (want_none rfl) (ex_app18 rfl (q110.e (j := 27) rfl) (q110.e (j := 34) rfl) ha4) rfl q110.z (by decide) (q110.k fun _ q111 => ?_);clear q110
      refine q111.t (v4) (ex_assign rfl (q111.e (j := 35) rfl)) fun _ q112 => ?_;clear q111
      have q113 := ((((Rp.nil q112.z).cons (q112.a 3 rfl)).cons (q112.a 4 rfl)).cons (q112.a 5 rfl))
      clear q112
      refine wpList_nil ?_
      go_upto_region 9 with fail
      refine wp_region_lit ?_
      refine q113.t (.int .i64 (((j + 1 : Nat) : Int) - 1)) (ex_move rfl (q113.e (j := 5) rfl)) fun _ q114 => ?_;clear q113
      refine q114.t (.int .i64 (((j : Nat) : Int) - 1)) (ex_bin rfl (q114.e (j := 25) rfl) rfl (sub1D _ _ j (by omega) _)) fun _ q115 => ?_;clear q114
      refine q115.t (.int .i64 (((j : Nat) : Int) - 1)) (ex_assign rfl (q115.e (j := 26) rfl)) fun _ q116 => ?_;clear q115
      have q117 := ((((Rp.nil q116.z).cons (q116.a 3 rfl)).cons (q116.a 4 rfl)).cons (q116.a 5 rfl))
      clear q116
      refine wpList_nil ?_
      have o5 : OwnY yB9 w.heap.size w4 v4 ((b ++ [128] ++ List.replicate (zr b.length) 0) ++ (lenB b.length).take (8 - j)) := by rw [hua, ← List.append_assoc]; exact o4
      exact ⟨_, j, rfl, rfl, v4, q117, o5, b4⟩
    | zero =>
      go_upto_region 8 with fail
      refine wp_region_lit ?_
      refine q100.t (.int .i64 (((0 : Nat) : Int) - 1)) (ex_move rfl (q100.e (j := 5) rfl)) fun _ q101 => ?_;clear q100
      refine q101.t (.bool false) (ex_bin rfl (q101.e (j := 23) rfl) rfl (geqD _ _ 0 false (by simp) _)) fun _ q102 => ?_;clear q101
      refine wpList_nil ?_
      go_upto_region 11 with fail
      refine wp_cond_false (q102.e (j := 24) rfl) ?_
      go_upto_region 11 with fail
      refine wp_region_lit ?_
      refine q102.t (v) (ex_move rfl (q102.e (j := 3) rfl)) fun _ q103 => ?_;clear q102
      refine q103.t (v) (ex_assign rfl (q103.e (j := 36) rfl)) fun _ q104 => ?_;clear q103
      refine wpList_nil ?_
      have o6 : OwnY yB9 w.heap.size wr v (b ++ fill b.length) := by
        rw [Nat.sub_zero, List.take_of_length_le (by omega)] at hO
        unfold fill
        rw [← List.append_assoc, ← List.append_assoc]
        exact hO
      go_wp2
      refine bodyPost_ret (results_tmp rfl _ _ _) rfl ⟨v, ?_, o6, br⟩
      rw [getD_of (q104.a 2 rfl)]
      rfl

end Go.Proofs.Ytomiifnhcojilaa
