import Derived.Test.YtomiifnhcojilaaS5
namespace Go.Proofs.Ytomiifnhcojilaa
open Go.RowKit Go.Maps
open Classical
set_option linter.unusedVariables false
set_option linter.unusedSimpArgs false

def fS (z : Nat) (g : Nat → Int) : Nat → List Int
  | 0 => (List.replicate 72 0).set 0 128
  | j + 1 => (fS z g j).set (1 + z + j) (g j)
theorem fS_len (z : Nat) (g : Nat → Int) : ∀ j, (fS z g j).length = 72
  | 0 => by simp [fS]
  | j + 1 => by rw [fS, List.length_set, fS_len z g j]
theorem fS_eq (z : Nat) (g : Nat → Int) (hz : z < 64) : ∀ j, j ≤ 8 → fS z g j = ([128] ++ List.replicate z 0 ++ (List.range j).map g) ++ List.replicate (71 - z - j) 0
  | 0, _ => by
    have e : (71 : Nat) = z + (71 - z) := by omega
    show (List.replicate 72 0).set 0 128 = _
    rw [show (72 : Nat) = 71 + 1 from rfl, List.replicate_succ, List.set_cons_zero]
    conv => lhs; rw [e, ← List.replicate_append_replicate]
    simp
  | j + 1, h => by
    have l1 : ([128] ++ List.replicate z 0 ++ (List.range j).map g).length = 1 + z + j := by simp; omega
    rw [fS, fS_eq z g hz j (by omega), List.set_append_right _ _ (by omega), l1, Nat.sub_self, show 71 - z - j = (71 - z - (j + 1)) + 1 by omega, List.replicate_succ, List.set_cons_zero, List.range_succ, List.map_append]
    simp
def lenG (n : Nat) (i : Nat) : Int := IntKind.u8.wrap (IntKind.u64.wrap (IntKind.u64.wrap (n : Int) * 8) / 2 ^ (56 - 8 * i))
theorem fS_fill (n : Nat) : (fS (zr n) (lenG n) 8).take (9 + zr n) = fill n := by
  have hz : zr n < 64 := Nat.mod_lt _ (by decide)
  have l1 : ([128] ++ List.replicate (zr n) 0 ++ (List.range 8).map (lenG n)).length = 9 + zr n := by simp; omega
  rw [fS_eq _ _ hz 8 (Nat.le_refl _), List.take_append_of_le_length (by omega), List.take_of_length_le (by omega)]
  rfl
theorem al72 (w : World) : (Instr.alloc 144 true (.tuple #[])).run Try.prog w = .ok (.pointer (some ⟨w.heap.size, 0, none⟩)) (w.alloc (.cells ((List.replicate 72 (0 : Int)).map bV).toArray 144)) := by kernel_rfl
theorem sl72 (q k : Nat) (h : k ≤ 72) (w : World) : (Instr.sliceAt 144 (.pointer (some ⟨q, 0, none⟩)) none (some (.int .i64 (k : Int))) none).run Try.prog w = .ok (.slice (some ⟨q, 0, none⟩) k 72) w := by
  have e1 : (0 : Int) ≤ (k : Int) := by omega
  have e2 : (k : Int) ≤ 72 := by omega
  go_simp
theorem mulQ (x y : Operand) (a : Int) (w : World) : (do eqGuard .mul 122 x y (.int .u64 a) (.int .u64 8); binOp .mul 122 (.int .u64 a) (.int .u64 8) : Sem Value).run Try.prog w = .ok (.int .u64 (IntKind.u64.wrap (a * 8))) w := by go_simp
theorem BB.sl0 {w : World} {q : Nat} {T : TypeId} {L : List Int} (h : BB w q T (L.map bV)) (hm : L.length ≤ maxLen) : SlY yB9 w (some ⟨q, 0, none⟩) L.length L.length L := by
  refine ⟨rfl, Nat.le_refl _, hm, (fun e => by cases e), fun x hx => .inr ⟨q, 0, (Option.some.inj hx).symm, h.lt, fun i x hx j v hv => ?_⟩⟩
  obtain ⟨hi, rfl⟩ := List.getElem?_eq_some_iff.1 hx
  have hj : j = 0 := by
    cases j with
    | zero => rfl
    | succ j => simp [yB9] at hv
  subst hj
  obtain rfl : Value.int .u8 L[i] = v := by simpa [yB9] using hv
  have := h.v9 hi
  rw [List.getD_eq_getElem?_getD, List.getElem?_eq_getElem hi] at this
  simpa [yB9] using this
def zB9 : Lay (SV Int) := yS Int 73 29
theorem kzB9 : zB9.Ok := kS Try.underlying29 (by kernel_rfl)
theorem ixBB (q o n c j : Nat) (hj : j < n) (w : World) : (Instr.indexAt 29 (.slice (some ⟨q, o, none⟩) n c) (.int .i64 (j : Int))).run Try.prog w = .ok (.pointer (some ⟨q, o + j, none⟩)) w := by
  have h1 : (j : Int) < (n : Int) := by omega
  go_simp
theorem ldBs {w : World} {q o : Nat} {a : Option Addr} {n c : Nat} (h : w.cell? ⟨q, o, none⟩ = some (.slice a n c)) : (Instr.loadAt 73 (.pointer (some ⟨q, o, none⟩))).run Try.prog w = .ok (.slice a n c) w := by go_simp
theorem bsBB (a : Option Addr) (n c : Nat) (w : World) : (Instr.buildSlice 29 1 #[(0, .slice a n c)]).run Try.prog w = .ok (.slice (some ⟨w.heap.size, 0, none⟩) 1 1) (w.alloc (.cells #[.slice a n c] 73)) := by go_simp
def flB (l : List (SV Int)) : List Int := l.flatMap (·.D)
theorem flB_at {l : List (SV Int)} {j : Nat} {x : SV Int} (h : l[j]? = some x) : flB (l.take (j + 1)) = flB (l.take j) ++ x.D := by
  obtain ⟨hj, rfl⟩ := List.getElem?_eq_some_iff.1 h
  unfold flB
  rw [List.take_succ_eq_append_getElem hj, List.flatMap_append, List.flatMap_cons, List.flatMap_nil, List.append_nil]
theorem flB_le (l : List (SV Int)) (j : Nat) : (flB (l.take j)).length ≤ (flB l).length := by
  conv => rhs; rw [← List.take_append_drop j l]
  unfold flB
  rw [List.flatMap_append, List.length_append]
  omega
theorem out_len (s : St) : (outB s).length = 32 := rfl
theorem sum_m (B : List Int) : ((sumF B).map bV).length = 32 := by rw [len_bV]; exact out_len _
set_option maxRecDepth 100000 in
set_option maxHeartbeats 2000000 in
theorem end19 (q : Nat) (B : List Int) (w : World) (hB : HI w q B) (hl : B.length < 4611686018427387000) :
    Calls Try.prog 75 #[.pointer (some ⟨q, 0, none⟩)] w fun e w' => e = .returned (.agg ((sumF B).map bV).toArray) ∧ Upd (fun k => k = q) w w' := by
  go_enter Try.func75, Try.ntmps75
  go_upto_region 0 with fail
  refine wp_region_lit ?_
  refine vl_gen (fun T => Rp T 46 [(0, gw true (.pointer (some ⟨q, 0, none⟩)))]) ((Rp.nil rfl).cons rfl) (fun Z0 q0 => ?_)
  have hql := hB.lt
  obtain ⟨w1, hw1⟩ : ∃ y, y = w.alloc (.cells ((List.replicate 32 (0 : Int)).map bV).toArray 24) := ⟨_, rfl⟩
  refine vw (.pointer (some ⟨w.heap.size, 0, none⟩)) w1 (want_none rfl) (ex_al rfl (by rw [hw1]; exact alH _)) rfl q0.z (by decide) (q0.k fun _ q1 => ?_);clear q0
  have Bw1 : BB w1 w.heap.size 24 ((List.replicate 32 (0 : Int)).map bV) := by rw [hw1]; exact BB.new _ _ _
  have bw1 : Below w.heap.size w w1 := by rw [hw1]; exact (Below.refl _ _).alloc (Nat.le_refl _) _
  have zw1 : w1.heap.size = w.heap.size + 1 := by rw [hw1]; exact World.size_alloc _ _
  clear hw1
  have hB1 := hB.later bw1
  obtain ⟨R, hBB, hR, hRt⟩ := hB1
  have cn := (hBB.cell 73).trans (hC_n (St.len _) hR)
  refine wpList_nil ?_
  go_upto_region 1 with fail
  refine wp_region_lit ?_
  refine q1.t (.pointer (some ⟨q, 0, none⟩)) (ex_move rfl (q1.e (j := 0) rfl)) fun _ q2 => ?_;clear q1
  refine q2.t (.pointer (some ⟨q, 0, none⟩)) (ex_nil rfl (q2.e (j := 7) rfl)) fun _ q3 => ?_;clear q2
  refine q3.t (.pointer (some ⟨q, 73, none⟩)) (ex_fa rfl (q3.e (j := 8) rfl) (faH q 3 73 (by decide) _)) fun _ q4 => ?_;clear q3
  refine q4.t (.int .i64 ((B.length : Nat) : Int)) (ex_ld rfl (q4.e (j := 9) rfl) (ldI18 cn)) fun _ q5 => ?_;clear q4
  refine q5.t (.int .u64 (IntKind.u64.wrap (B.length : Int))) (ex_cv19 rfl (q5.e (j := 10) rfl) (cvI_64 _ _)) fun _ q6 => ?_;clear q5
  refine q6.t (.int .u64 (IntKind.u64.wrap (IntKind.u64.wrap (B.length : Int) * 8))) (ex_bin rfl (q6.e (j := 11) rfl) rfl (mulQ _ _ _ _)) fun _ q7 => ?_;clear q6
  refine q7.t (.int .u64 (IntKind.u64.wrap (IntKind.u64.wrap (B.length : Int) * 8))) (ex_assign rfl (q7.e (j := 12) rfl)) fun _ q8 => ?_;clear q7
  refine wpList_nil ?_
  go_upto_region 2 with fail
  refine wp_region_lit ?_
  refine q8.t (.pointer (some ⟨q, 0, none⟩)) (ex_move rfl (q8.e (j := 0) rfl)) fun _ q9 => ?_;clear q8
  refine q9.t (.pointer (some ⟨q, 0, none⟩)) (ex_nil rfl (q9.e (j := 13) rfl)) fun _ q10 => ?_;clear q9
  refine q10.t (.pointer (some ⟨q, 73, none⟩)) (ex_fa rfl (q10.e (j := 14) rfl) (faH q 3 73 (by decide) _)) fun _ q11 => ?_;clear q10
  refine q11.t (.int .i64 ((B.length : Nat) : Int)) (ex_ld rfl (q11.e (j := 15) rfl) (ldI18 cn)) fun _ q12 => ?_;clear q11
  refine q12.t (.int .i64 ((B.length % 64 : Nat) : Int)) (ex_bin rfl (q12.e (j := 16) rfl) rfl (remC _ _ B.length 64 (by decide) (by omega) _)) fun _ q13 => ?_;clear q12
  refine q13.t (.int .i64 ((119 - B.length % 64 : Nat) : Int)) (ex_bin rfl rfl (q13.e (j := 17) rfl) (subC9 _ _ 119 (B.length % 64) (by omega) (by omega) _)) fun _ q14 => ?_;clear q13
  refine q14.t (.int .i64 ((zr B.length : Nat) : Int)) (ex_bin rfl (q14.e (j := 18) rfl) rfl (remC _ _ (119 - B.length % 64) 64 (by decide) (by omega) _)) fun _ q15 => ?_;clear q14
  refine q15.t (.int .i64 ((zr B.length : Nat) : Int)) (ex_assign rfl (q15.e (j := 19) rfl)) fun _ q16 => ?_;clear q15
  have q17 := (((((Rp.nil q16.z).cons (q16.a 0 rfl)).cons (q16.a 2 rfl)).cons (q16.a 3 rfl)).cons (q16.a 4 rfl))
  clear q16
  refine wpList_nil ?_
  go_upto_region 3 with fail
  refine wp_region_lit ?_
  have hz : zr B.length < 64 := Nat.mod_lt _ (by decide)
  obtain ⟨z, hzz⟩ : ∃ z, z = zr B.length := ⟨_, rfl⟩
  rw [← hzz] at q17 hz
  obtain ⟨w2, hw2⟩ : ∃ y, y = w1.alloc (.cells ((List.replicate 72 (0 : Int)).map bV).toArray 144) := ⟨_, rfl⟩
  refine vw (.pointer (some ⟨w1.heap.size, 0, none⟩)) w2 (want_none rfl) (ex_al rfl (by rw [hw2]; exact al72 _)) rfl q17.z (by decide) (q17.k fun _ q18 => ?_);clear q17
  have Bw2 : BB w2 w1.heap.size 144 ((List.replicate 72 (0 : Int)).map bV) := by rw [hw2]; exact BB.new _ _ _
  have bw2 : Below w1.heap.size w1 w2 := by rw [hw2]; exact (Below.refl _ _).alloc (Nat.le_refl _) _
  have zw2 : w2.heap.size = w1.heap.size + 1 := by rw [hw2]; exact World.size_alloc _ _
  clear hw2
  refine wpList_nil ?_
  go_upto_region 4 with fail
  refine wp_region_lit ?_
  refine q18.t (.pointer (some ⟨w1.heap.size, 0, none⟩)) (ex_ix rfl (q18.e (j := 5) rfl) rfl (ixA0 w1.heap.size 0 72 144 5 Try.underlying144 i1b (by decide) _)) fun _ q19 => ?_;clear q18
  have c0 := Bw2.v9 (j := 0) (by simp)
  obtain ⟨w3, hw3⟩ : ∃ y, y = w2.setCell ⟨w1.heap.size, 0, none⟩ (.int .u8 128) := ⟨_, rfl⟩
  refine vs w3 (want_none rfl) (ex_st rfl (q19.e (j := 20) rfl) rfl (by rw [hw3]; exact st8 c0 (Bw2.free _))) rfl ?_
  have B3 : BB w3 w1.heap.size 144 ((fS z (lenG B.length) 0).map bV) := by rw [hw3]; exact Bw2.setv _ _
  have u3 : Upd (fun k => k = w1.heap.size) w2 w3 := by rw [hw3]; exact upd1 _ _ _ _
  clear hw3
  have b3 : Below w.heap.size w w3 := (bw1.trans (bw2.mono (by omega))).trans (bel_ge u3 (by omega) (by omega))
  have B2 : BB w3 w.heap.size 24 ((List.replicate 32 (0 : Int)).map bV) := (Bw1.later bw2).upd u3 (by omega)
  have q20 := ((((((Rp.nil q19.z).cons (q19.a 0 rfl)).cons (q19.a 2 rfl)).cons (q19.a 3 rfl)).cons (q19.a 4 rfl)).cons (q19.a 5 rfl))
  clear q19
  refine wpList_nil ?_
  go_upto_region 5 with fail
  refine wp_region_lit ?_
  refine q20.t (.int .i64 ((0 : Nat) : Int)) (ex_move rfl rfl) fun _ q21 => ?_;clear q20
  have q22 := (((((((Rp.nil q21.z).cons (q21.a 0 rfl)).cons (q21.a 2 rfl)).cons (q21.a 3 rfl)).cons (q21.a 4 rfl)).cons (q21.a 5 rfl)).cons (q21.a 21 rfl))
  clear q21
  refine wpList_nil ?_
  go_upto_region 6 with fail
  refine v_loop 21 8 (fun j T wr => Rp T 46 [(21, gw true (.int .i64 ((j : Nat) : Int))), (5, gw true (.pointer (some ⟨w1.heap.size, 0, none⟩))), (4, gw true (.int .i64 ((z : Nat) : Int))), (3, gw true (.int .u64 (IntKind.u64.wrap (IntKind.u64.wrap (B.length : Int) * 8)))), (2, gw true (.pointer (some ⟨w.heap.size, 0, none⟩))), (0, gw true (.pointer (some ⟨q, 0, none⟩)))] ∧ Hid (BB wr w1.heap.size 144 ((fS z (lenG B.length) j).map bV) ∧ BB wr w.heap.size 24 ((List.replicate 32 (0 : Int)).map bV) ∧ Below w.heap.size w wr)) (fun j T w h => h.1.a 21 rfl) ⟨q22, B3, B2, b3⟩ ?_
  clear q22 B3 B2 b3 u3 Bw2 Bw1 c0
  intro j T wr hj hh
  obtain ⟨q100, HJ⟩ := hh
  obtain ⟨B3, B2, br⟩ := HJ.out
  clear HJ
  have zr2 := br.size
  have hl := fS_len z (lenG B.length) j
  by_cases hit : j < 8
  · have cj := B3.v9 (j := 1 + z + j) (by omega)
    go_upto_region 6 with fail
    refine wp_region_lit ?_
    refine q100.t (.bool true) (ex_bin rfl (q100.e (j := 21) rfl) rfl (ltT _ _ hit _)) fun _ q101 => ?_;clear q100
    refine wpList_nil ?_
    go_upto_region 7 with fail
    refine wp_cond_true (q101.e (j := 22) rfl) ?_
    go_upto_region 7 with fail
    refine wp_region_lit ?_
    refine q101.t (.int .i64 ((j : Nat) : Int)) (ex_move rfl (q101.e (j := 21) rfl)) fun _ q102 => ?_;clear q101
    refine q102.t (.int .i64 ((j : Nat) : Int)) (ex_assign rfl (q102.e (j := 23) rfl)) fun _ q103 => ?_;clear q102
    refine wpList_nil ?_
    go_upto_region 8 with fail
    refine wp_region_lit ?_
    refine q103.t (.int .i64 ((z : Nat) : Int)) (ex_move rfl (q103.e (j := 4) rfl)) fun _ q104 => ?_;clear q103
    refine q104.t (.int .i64 ((1 + z : Nat) : Int)) (ex_bin rfl rfl (q104.e (j := 24) rfl) (addC9 _ _ 1 z (by omega) _)) fun _ q105 => ?_;clear q104
    refine q105.t (.int .i64 ((j : Nat) : Int)) (ex_move rfl (q105.e (j := 6) rfl)) fun _ q106 => ?_;clear q105
    refine q106.t (.int .i64 ((1 + z + j : Nat) : Int)) (ex_bin rfl (q106.e (j := 25) rfl) (q106.e (j := 26) rfl) (addC9 _ _ (1 + z) j (by omega) _)) fun _ q107 => ?_;clear q106
    refine q107.t (.int .u64 (IntKind.u64.wrap (IntKind.u64.wrap (B.length : Int) * 8))) (ex_move rfl (q107.e (j := 3) rfl)) fun _ q108 => ?_;clear q107
    refine q108.t (.int .i64 ((j : Nat) : Int)) (ex_move rfl (q108.e (j := 6) rfl)) fun _ q109 => ?_;clear q108
    refine q109.t (.int .i64 ((8 * j : Nat) : Int)) (ex_bin rfl rfl (q109.e (j := 29) rfl) (mulC9 _ _ 8 j (by omega) _)) fun _ q110 => ?_;clear q109
    refine q110.t (.int .i64 ((56 - 8 * j : Nat) : Int)) (ex_bin rfl rfl (q110.e (j := 30) rfl) (subC9 _ _ 56 (8 * j) (by omega) (by omega) _)) fun _ q111 => ?_;clear q110
    refine q111.t (.int .u64 (IntKind.u64.wrap (IntKind.u64.wrap (B.length : Int) * 8) / 2 ^ (56 - 8 * j))) (ex_bin rfl (q111.e (j := 28) rfl) (q111.e (j := 31) rfl) (shrQi64 _ _ _ (56 - 8 * j) (by omega) _)) fun _ q112 => ?_;clear q111
    refine q112.t (.int .u8 (lenG B.length j)) (ex_cv19 rfl (q112.e (j := 32) rfl) (cv64_8 _ _)) fun _ q113 => ?_;clear q112
    refine q113.t (.pointer (some ⟨w1.heap.size, (1 + z + j), none⟩)) (ex_ix rfl (q113.e (j := 5) rfl) (q113.e (j := 27) rfl) (ixA0 w1.heap.size (1 + z + j) 72 144 5 Try.underlying144 i1b (by omega) _)) fun _ q114 => ?_;clear q113
    obtain ⟨d2, hd2⟩ : ∃ y, y = wr.setCell ⟨w1.heap.size, 1 + z + j, none⟩ (.int .u8 (lenG B.length j)) := ⟨_, rfl⟩
    refine vs d2 (want_none rfl) (ex_st rfl (q114.e (j := 34) rfl) (q114.e (j := 33) rfl) (by rw [hd2]; exact st8 cj (B3.free _))) rfl ?_
    have B3e : BB d2 w1.heap.size 144 ((fS z (lenG B.length) (j + 1)).map bV) := by rw [hd2]; exact B3.setv _ _
    have ue : Upd (fun k => k = w1.heap.size) wr d2 := by rw [hd2]; exact upd1 _ _ _ _
    have B2e := B2.upd ue (by omega)
    have be : Below w.heap.size w d2 := br.trans (bel_ge ue (by omega) (by omega))
    clear hd2
    have q115 := (((((((Rp.nil q114.z).cons (q114.a 0 rfl)).cons (q114.a 2 rfl)).cons (q114.a 3 rfl)).cons (q114.a 4 rfl)).cons (q114.a 5 rfl)).cons (q114.a 21 rfl))
    clear q114
    refine wpList_nil ?_
    go_upto_region 9 with fail
    refine wp_region_lit ?_
    refine q115.t (.int .i64 ((j + 1 : Nat) : Int)) (ex_bin rfl (q115.e (j := 21) rfl) rfl (add1C _ _ j (by omega) _)) fun _ q116 => ?_;clear q115
    refine q116.t (.int .i64 ((j + 1 : Nat) : Int)) (ex_move rfl (q116.e (j := 35) rfl)) fun _ q117 => ?_;clear q116
    have q118 := (((((((Rp.nil q117.z).cons (q117.a 0 rfl)).cons (q117.a 2 rfl)).cons (q117.a 3 rfl)).cons (q117.a 4 rfl)).cons (q117.a 5 rfl)).cons (q117.a 21 rfl))
    clear q117
    refine wpList_nil ?_
    exact ⟨_, rfl, hit, q118, B3e, B2e, be⟩
  · obtain rfl : j = 8 := by omega
    go_upto_region 6 with fail
    refine wp_region_lit ?_
    refine q100.t (.bool false) (ex_bin rfl (q100.e (j := 21) rfl) rfl (ltF _ _ hit _)) fun _ q101 => ?_;clear q100
    refine wpList_nil ?_
    go_upto_region 10 with fail
    refine wp_cond_false (q101.e (j := 22) rfl) ?_
    go_upto_region 10 with fail
    refine wp_region_lit ?_
    refine q101.t (.pointer (some ⟨q, 0, none⟩)) (ex_move rfl (q101.e (j := 0) rfl)) fun _ q102 => ?_;clear q101
    refine q102.t (.int .i64 ((z : Nat) : Int)) (ex_move rfl (q102.e (j := 4) rfl)) fun _ q103 => ?_;clear q102
    refine q103.t (.int .i64 ((1 + z : Nat) : Int)) (ex_bin rfl rfl (q103.e (j := 37) rfl) (addC9 _ _ 1 z (by omega) _)) fun _ q104 => ?_;clear q103
    refine q104.t (.int .i64 ((1 + z + 8 : Nat) : Int)) (ex_bin rfl (q104.e (j := 38) rfl) rfl (addC9 _ _ (1 + z) 8 (by omega) _)) fun _ q105 => ?_;clear q104
    refine q105.t (.slice (some ⟨w1.heap.size, 0, none⟩) (1 + z + 8) 72) (ex_sl19 rfl (q105.e (j := 5) rfl) rfl (congrArg some (q105.e (j := 39) rfl)) rfl (sl72 w1.heap.size (1 + z + 8) (by omega) _)) fun _ q106 => ?_;clear q105
    have hfl := fill_len B.length
    have sF := (B3.sl0 (by rw [hl]; unfold maxLen; decide)).take (1 + z + 8) (by rw [hl]; omega)
    rw [hl, show 1 + z + 8 = 9 + z by omega, hzz, fS_fill] at sF
    rw [← hzz] at hfl
    have hsl : 1 + z + 8 = (fill B.length).length := by omega
    rw [hsl] at q106
    have hzl : 9 + zr B.length = (fill B.length).length := by rw [← hzz]; omega
    rw [hzl] at sF
    refine vcallP (want_none rfl) (ex_call rfl (by simp only [List.map_toArray, List.map_cons, List.map_nil, (q106.e (j := 36) rfl), (q106.e (j := 40) rfl), evc] <;> rfl) rfl) (take19 q B (fill B.length) (some ⟨w1.heap.size, 0, none⟩) 72 wr (hB.later br) sF (fun z0 hz0 _ => by obtain rfl := Option.some.inj hz0; show w1.heap.size ≠ q; omega) (by omega)) rfl q106.z (by decide) ?_
    rintro e v1 ⟨rfl, hI, uv⟩
    refine ⟨_, rfl, q106.k fun _ q107 => ?_⟩;clear q106
    have B2v := B2.upd uv (by omega)
    obtain ⟨R2, hB2, hR2, _⟩ := hI
    have uwv : Upd (fun k => k = q) w v1 := (Upd.of_below br).trans18 uv (fun _ _ h => h)
    have zv := uwv.size
    have q108 := (((Rp.nil q107.z).cons (q107.a 0 rfl)).cons (q107.a 2 rfl))
    clear q107
    refine wpList_nil ?_
    go_upto_region 11 with fail
    refine wp_region_lit ?_
    refine q108.t (.pointer (some ⟨q, 0, none⟩)) (ex_move rfl (q108.e (j := 0) rfl)) fun _ q109 => ?_;clear q108
    refine q109.t (.pointer (some ⟨q, 0, none⟩)) (ex_nil rfl (q109.e (j := 42) rfl)) fun _ q110 => ?_;clear q109
    refine q110.t (.pointer (some ⟨q, 1, none⟩)) (ex_fa rfl (q110.e (j := 43) rfl) (faH q 1 1 (by decide) _)) fun _ q111 => ?_;clear q110
    refine vcallP (want_none rfl) (ex_call rfl (by simp only [List.map_toArray, List.map_cons, List.map_nil, (q111.e (j := 44) rfl), evc] <;> rfl) rfl) ((hash_any q true _ R2 _ v1 hB2).mono fun e w9 h9 => (show e = .returned (.agg ((sumF B).map bV).toArray) ∧ Below v1.heap.size v1 w9 from h9)) rfl q111.z (by decide) ?_
    rintro e v2 ⟨rfl, bv⟩
    refine ⟨_, rfl, q111.k fun _ q112 => ?_⟩;clear q111
    have B2w := B2v.later bv
    have uw2 : Upd (fun k => k = q) w v2 := uwv.trans18 (Upd.of_below bv) (fun _ _ h => h)
    obtain ⟨v3, hv3⟩ : ∃ y, y = v2.setCells w.heap.size 0 ((sumF B).map bV) := ⟨_, rfl⟩
    refine vs v3 (want_none rfl) (ex_st rfl (q112.e (j := 2) rfl) (q112.e (j := 45) rfl) (by rw [hv3]; exact B2w.st 24 _ (by rw [sum_m]; rfl) (by rw [List.size_toArray, sum_m]; exact i32h) (one_b _))) rfl ?_
    have Bv3 : BB v3 w.heap.size 24 ((sumF B).map bV) := by rw [hv3]; exact B2w.whole _ (by rw [sum_m]; rfl)
    have uv3 : Upd (fun k => k = w.heap.size) v2 v3 := by rw [hv3]; exact upd18 _ _ _ _
    clear hv3
    have uw3 : Upd (fun k => k = q) w v3 := uw2.trans18 uv3 (fun i hi e => by omega)
    refine wpList_nil ?_
    go_wp2
    exact Bv3.res rfl (q112.a 2 rfl) Try.underlying24 rfl (by rw [sum_m]; exact i32h) ⟨rfl, uw3⟩
set_option maxRecDepth 100000 in
set_option maxHeartbeats 2000000 in
theorem join19 (l : List (SV Int)) (a : Option Addr) (c : Nat) (w : World) (h : SlY zB9 w a l.length c l) (hp : ∀ x ∈ l, SlY yB9 w x.a x.D.length x.c x.D) (hl : (flB l).length < 4611686018427387000) (hll : l.length < 4611686018427387000) :
    Calls Try.prog 43 #[.slice a l.length c] w fun e w' => e = .returned (.agg ((sumF (flB l)).map bV).toArray) ∧ Below w.heap.size w w' := by
  go_enter Try.func43, Try.ntmps43
  go_upto_region 0 with fail
  refine wp_region_lit ?_
  refine vl_gen (fun T => Rp T 17 [(0, gw true (.slice a l.length c))]) ((Rp.nil rfl).cons rfl) (fun Z0 q0 => ?_)
  obtain ⟨w1, hw1⟩ : ∃ y, y = w.alloc (.cells ((List.replicate 32 (0 : Int)).map bV).toArray 24) := ⟨_, rfl⟩
  refine vw (.pointer (some ⟨w.heap.size, 0, none⟩)) w1 (want_none rfl) (ex_al rfl (by rw [hw1]; exact alH _)) rfl q0.z (by decide) (q0.k fun _ q1 => ?_);clear q0
  have Bw1 : BB w1 w.heap.size 24 ((List.replicate 32 (0 : Int)).map bV) := by rw [hw1]; exact BB.new _ _ _
  have bw1 : Below w.heap.size w w1 := by rw [hw1]; exact (Below.refl _ _).alloc (Nat.le_refl _) _
  have zw1 : w1.heap.size = w.heap.size + 1 := by rw [hw1]; exact World.size_alloc _ _
  clear hw1
  refine wpList_nil ?_
  go_upto_region 1 with fail
  refine wp_region_lit ?_
  refine vcallP (want_none rfl) (ex_call (args := #[]) rfl (by simp) rfl) (fresh_any w1) rfl q1.z (by decide) ?_
  rintro e w2 ⟨rfl, bf⟩
  refine ⟨_, rfl, q1.k fun _ q2 => ?_⟩;clear q1
  have zf := bf.size
  have Bh2 := Bw1.later bf
  obtain ⟨w3, hw3⟩ : ∃ y, y = w2.alloc (.cells (hC false (List.replicate 8 0) (List.replicate 64 0) 0).toArray 113) := ⟨_, rfl⟩
  refine vw (.pointer (some ⟨w2.heap.size, 0, none⟩)) w3 (want_none rfl) (ex_al rfl (by rw [hw3]; exact alHs _)) rfl q2.z (by decide) (q2.k fun _ q3 => ?_);clear q2
  have Bw3 : BB w3 w2.heap.size 113 (hC false (List.replicate 8 0) (List.replicate 64 0) 0) := by rw [hw3]; exact BB.new _ _ _
  have bw3 : Below w2.heap.size w2 w3 := by rw [hw3]; exact (Below.refl _ _).alloc (Nat.le_refl _) _
  have zw3 : w3.heap.size = w2.heap.size + 1 := by rw [hw3]; exact World.size_alloc _ _
  clear hw3
  have Bh3 := Bh2.later bw3
  obtain ⟨w4, hw4⟩ : ∃ y, y = w3.setCells w2.heap.size 0 (hC true iv.l (List.replicate 64 0) 0) := ⟨_, rfl⟩
  refine vs w4 (want_none rfl) (ex_st rfl (q3.e (j := 3) rfl) (q3.e (j := 6) rfl) (by rw [hw4]; exact Bw3.st 113 _ rfl i74 (by kernel_rfl))) rfl ?_
  have B4 : BB w4 w2.heap.size 113 (hC true iv.l (List.replicate 64 0) 0) := by rw [hw4]; exact Bw3.whole _ rfl
  have u4 : Upd (fun k => k = w2.heap.size) w3 w4 := by rw [hw4]; exact upd18 _ _ _ _
  clear hw4 Bw3
  have Bh4 := Bh3.upd u4 (by omega)
  have b4 : Below w.heap.size w w4 := ((bw1.trans (bf.mono (by omega))).trans (bw3.mono (by omega))).trans (bel_ge u4 (by omega) (by omega))
  have I4 : HI w4 w2.heap.size (flB (l.take 0)) := by rw [List.take_zero]; exact ⟨List.replicate 64 0, B4, by simp, rfl⟩
  have q4 := ((((Rp.nil q3.z).cons (q3.a 0 rfl)).cons (q3.a 2 rfl)).cons (q3.a 3 rfl))
  clear q3
  refine wpList_nil ?_
  go_upto_region 2 with fail
  refine wp_region_lit ?_
  refine q4.t (.slice a l.length c) (ex_move rfl (q4.e (j := 0) rfl)) fun _ q5 => ?_;clear q4
  refine q5.t (.int .i64 ((l.length : Nat) : Int)) (ex_lenG rfl rfl Try.underlying29 (q5.e (j := 7) rfl)) fun _ q6 => ?_;clear q5
  refine q6.t (.int .i64 ((0 : Nat) : Int)) (ex_move rfl rfl) fun _ q7 => ?_;clear q6
  have q8 := ((((((Rp.nil q7.z).cons (q7.a 2 rfl)).cons (q7.a 3 rfl)).cons (q7.a 7 rfl)).cons (q7.a 8 rfl)).cons (q7.a 9 rfl))
  clear q7
  refine wpList_nil ?_
  go_upto_region 3 with fail
  refine v_loop 9 l.length (fun j T wr => Rp T 17 [(9, gw true (.int .i64 ((j : Nat) : Int))), (8, gw true (.int .i64 ((l.length : Nat) : Int))), (7, gw true (.slice a l.length c)), (3, gw true (.pointer (some ⟨w2.heap.size, 0, none⟩))), (2, gw true (.pointer (some ⟨w.heap.size, 0, none⟩)))] ∧ Hid (HI wr w2.heap.size (flB (l.take j)) ∧ BB wr w.heap.size 24 ((List.replicate 32 (0 : Int)).map bV) ∧ Below w.heap.size w wr)) (fun j T w h => h.1.a 9 rfl) ⟨q8, I4, Bh4, b4⟩ ?_
  clear q8 I4 Bh4 b4 B4 Bh3 Bh2 Bw1 u4
  intro j T wr hj hh
  obtain ⟨q100, HJ⟩ := hh
  obtain ⟨I, B2, br⟩ := HJ.out
  clear HJ
  have zr2 := br.size
  by_cases hit : j < l.length
  · obtain ⟨x, hx⟩ : ∃ x, l[j]? = some x := ⟨_, List.getElem?_eq_getElem hit⟩
    have hua := flB_at hx
    have hle := flB_le l (j + 1)
    rw [hua, List.length_append] at hle
    obtain ⟨qa, oa, hqa, hqal, hlie⟩ := h.place (by rintro rfl; simp at hit)
    have hcx : wr.cell? ⟨qa, oa + j, none⟩ = some (.slice x.a x.D.length x.c) := by
      have := (br.cell (p := ⟨qa, oa + j * zB9.k + 0, none⟩) hqal).trans (hlie j x hx 0 _ rfl)
      simpa [zB9, yS] using this
    have hxs := hp x (List.mem_of_getElem? hx)
    have hxr := hxs.on br (Nat.le_refl _)
    go_upto_region 3 with fail
    refine wp_region_lit ?_
    refine q100.t (.bool true) (ex_bin rfl (q100.e (j := 9) rfl) (q100.e (j := 8) rfl) (ltT _ _ hit _)) fun _ q101 => ?_;clear q100
    refine wpList_nil ?_
    go_upto_region 4 with fail
    refine wp_cond_true (q101.e (j := 10) rfl) ?_
    go_upto_region 4 with fail
    refine wp_region_lit ?_
    refine q101.t (.pointer (some ⟨qa, (oa + j), none⟩)) (ex_ix rfl (q101.e (j := 7) rfl) (q101.e (j := 9) rfl) (by rw [hqa]; exact ixBB qa oa l.length c j hit _)) fun _ q102 => ?_;clear q101
    refine q102.t (.slice x.a x.D.length x.c) (ex_ld rfl (q102.e (j := 11) rfl) (ldBs hcx)) fun _ q103 => ?_;clear q102
    refine q103.t (.slice x.a x.D.length x.c) (ex_assign rfl (q103.e (j := 12) rfl)) fun _ q104 => ?_;clear q103
    refine wpList_nil ?_
    go_upto_region 5 with fail
    refine wp_region_lit ?_
    refine q104.t (.slice x.a x.D.length x.c) (ex_move rfl (q104.e (j := 5) rfl)) fun _ q105 => ?_;clear q104
    refine vcallP (want_none rfl) (ex_call rfl (by simp only [List.map_toArray, List.map_cons, List.map_nil, (q105.e (j := 3) rfl), (q105.e (j := 13) rfl), evc] <;> rfl) rfl) (take19 w2.heap.size (flB (l.take j)) x.D x.a x.c wr I hxr (fun z hz hne => by obtain ⟨q9, o9, e9, h9, _⟩ := hxs.place hne; rw [hz] at e9; obtain rfl := Option.some.inj e9; show q9 ≠ w2.heap.size; omega) (by omega)) rfl q105.z (by decide) ?_
    rintro e v1 ⟨rfl, I2, uv⟩
    refine ⟨_, rfl, q105.k fun _ q106 => ?_⟩;clear q105
    have B3 := B2.upd uv (by omega)
    have bv : Below w.heap.size w v1 := br.trans (bel_ge uv (by omega) (by omega))
    rw [← hua] at I2
    refine wpList_nil ?_
    go_upto_region 6 with fail
    refine wp_region_lit ?_
    refine q106.t (.int .i64 ((j + 1 : Nat) : Int)) (ex_bin rfl (q106.e (j := 9) rfl) rfl (add1C _ _ j (by omega) _)) fun _ q107 => ?_;clear q106
    refine q107.t (.int .i64 ((j + 1 : Nat) : Int)) (ex_move rfl (q107.e (j := 15) rfl)) fun _ q108 => ?_;clear q107
    have q109 := ((((((Rp.nil q108.z).cons (q108.a 2 rfl)).cons (q108.a 3 rfl)).cons (q108.a 7 rfl)).cons (q108.a 8 rfl)).cons (q108.a 9 rfl))
    clear q108
    refine wpList_nil ?_
    exact ⟨_, rfl, hit, q109, I2, B3, bv⟩
  · obtain rfl : j = l.length := by omega
    rw [List.take_length] at I
    go_upto_region 3 with fail
    refine wp_region_lit ?_
    refine q100.t (.bool false) (ex_bin rfl (q100.e (j := 9) rfl) (q100.e (j := 8) rfl) (ltF _ _ hit _)) fun _ q101 => ?_;clear q100
    refine wpList_nil ?_
    go_upto_region 7 with fail
    refine wp_cond_false (q101.e (j := 10) rfl) ?_
    go_upto_region 7 with fail
    refine wp_region_lit ?_
    refine vcallP (want_none rfl) (ex_call rfl (by simp only [List.map_toArray, List.map_cons, List.map_nil, (q101.e (j := 3) rfl), evc] <;> rfl) rfl) (end19 w2.heap.size (flB l) wr I (by omega)) rfl q101.z (by decide) ?_
    rintro e v1 ⟨rfl, uv⟩
    refine ⟨_, rfl, q101.k fun _ q102 => ?_⟩;clear q101
    have B3 := B2.upd uv (by omega)
    have bv : Below w.heap.size w v1 := br.trans (bel_ge uv (by omega) (by omega))
    obtain ⟨v3, hv3⟩ : ∃ y, y = v1.setCells w.heap.size 0 ((sumF (flB l)).map bV) := ⟨_, rfl⟩
    refine vs v3 (want_none rfl) (ex_st rfl (q102.e (j := 2) rfl) (q102.e (j := 16) rfl) (by rw [hv3]; exact B3.st 24 _ (by rw [sum_m]; rfl) (by rw [List.size_toArray, sum_m]; exact i32h) (one_b _))) rfl ?_
    have Bv3 : BB v3 w.heap.size 24 ((sumF (flB l)).map bV) := by rw [hv3]; exact B3.whole _ (by rw [sum_m]; rfl)
    have uv3 : Upd (fun k => k = w.heap.size) v1 v3 := by rw [hv3]; exact upd18 _ _ _ _
    clear hv3
    have b3 : Below w.heap.size w v3 := bv.trans (bel_ge uv3 bv.size (Nat.le_refl _))
    refine wpList_nil ?_
    go_wp2
    exact Bv3.res rfl (q102.a 2 rfl) Try.underlying24 rfl (by rw [sum_m]; exact i32h) ⟨rfl, b3⟩
set_option maxRecDepth 100000 in
set_option maxHeartbeats 2000000 in
theorem sum19 (b : List Int) (a : Option Addr) (c : Nat) (w : World) (h : SlY yB9 w a b.length c b) (hl : b.length < 4611686018427387000) :
    Calls Try.prog 68 #[.slice a b.length c] w fun e w' => e = .returned (.agg ((sumF b).map bV).toArray) ∧ Below w.heap.size w w' := by
  go_enter Try.func68, Try.ntmps68
  go_upto_region 0 with fail
  refine wp_region_lit ?_
  refine vl_gen (fun T => Rp T 6 [(0, gw true (.slice a b.length c))]) ((Rp.nil rfl).cons rfl) (fun Z0 q0 => ?_)
  obtain ⟨w1, hw1⟩ : ∃ y, y = w.alloc (.cells ((List.replicate 32 (0 : Int)).map bV).toArray 24) := ⟨_, rfl⟩
  refine vw (.pointer (some ⟨w.heap.size, 0, none⟩)) w1 (want_none rfl) (ex_al rfl (by rw [hw1]; exact alH _)) rfl q0.z (by decide) (q0.k fun _ q1 => ?_);clear q0
  have Bw1 : BB w1 w.heap.size 24 ((List.replicate 32 (0 : Int)).map bV) := by rw [hw1]; exact BB.new _ _ _
  have bw1 : Below w.heap.size w w1 := by rw [hw1]; exact (Below.refl _ _).alloc (Nat.le_refl _) _
  have zw1 : w1.heap.size = w.heap.size + 1 := by rw [hw1]; exact World.size_alloc _ _
  clear hw1
  refine wpList_nil ?_
  go_upto_region 1 with fail
  refine wp_region_lit ?_
  refine q1.t (.slice a b.length c) (ex_move rfl (q1.e (j := 0) rfl)) fun _ q2 => ?_;clear q1
  obtain ⟨w2, hw2⟩ : ∃ y, y = w1.alloc (.cells #[.slice a b.length c] 73) := ⟨_, rfl⟩
  refine vw (.slice (some ⟨w1.heap.size, 0, none⟩) 1 1) w2 (want_none rfl) (ex_bs18 rfl (q2.e (j := 3) rfl) (by rw [hw2]; exact bsBB _ _ _ _)) rfl q2.z (by decide) (q2.k fun _ q3 => ?_);clear q2
  have s2 : SlY zB9 w2 (some ⟨w1.heap.size, 0, none⟩) 1 1 [⟨a, c, b⟩] := by rw [hw2]; exact sl_box (Y := zB9) w1 ⟨a, c, b⟩ 73
  have bw2 : Below w1.heap.size w1 w2 := by rw [hw2]; exact (Below.refl _ _).alloc (Nat.le_refl _) _
  clear hw2
  have z2 := bw2.size
  have hs2 := (h.on bw1 (Nat.le_refl _)).on bw2 (Nat.le_refl _)
  have e1 : flB [⟨a, c, b⟩] = b := by simp [flB]
  refine vcallP (want_none rfl) (ex_call rfl (by simp only [List.map_toArray, List.map_cons, List.map_nil, (q3.e (j := 4) rfl), evc] <;> rfl) rfl) (join19 [⟨a, c, b⟩] _ 1 w2 s2 (fun x hx => by obtain rfl := List.mem_singleton.1 hx; exact hs2) (by rw [e1]; omega) (by simp)) rfl q3.z (by decide) ?_
  rintro e v1 ⟨rfl, bv⟩
  refine ⟨_, rfl, q3.k fun _ q4 => ?_⟩;clear q3
  have B2 := (Bw1.later bw2).later bv
  have bw : Below w.heap.size w v1 := (bw1.trans (bw2.mono (by omega))).trans (bv.mono (by omega))
  rw [e1] at q4
  obtain ⟨v3, hv3⟩ : ∃ y, y = v1.setCells w.heap.size 0 ((sumF b).map bV) := ⟨_, rfl⟩
  refine vs v3 (want_none rfl) (ex_st rfl (q4.e (j := 2) rfl) (q4.e (j := 5) rfl) (by rw [hv3]; exact B2.st 24 _ (by rw [sum_m]; rfl) (by rw [List.size_toArray, sum_m]; exact i32h) (one_b _))) rfl ?_
  have Bv3 : BB v3 w.heap.size 24 ((sumF b).map bV) := by rw [hv3]; exact B2.whole _ (by rw [sum_m]; rfl)
  have uv3 : Upd (fun k => k = w.heap.size) v1 v3 := by rw [hv3]; exact upd18 _ _ _ _
  clear hv3
  have b3 : Below w.heap.size w v3 := bw.trans (bel_ge uv3 bw.size (Nat.le_refl _))
  refine wpList_nil ?_
  go_wp2
  exact Bv3.res rfl (q4.a 2 rfl) Try.underlying24 rfl (by rw [sum_m]; exact i32h) ⟨rfl, b3⟩

end Go.Proofs.Ytomiifnhcojilaa
