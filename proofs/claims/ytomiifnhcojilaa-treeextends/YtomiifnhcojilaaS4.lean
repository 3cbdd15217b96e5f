import Derived.Test.YtomiifnhcojilaaS3
namespace Go.Proofs.Ytomiifnhcojilaa
open Go.RowKit Go.Maps
open Classical
set_option linter.unusedVariables false
set_option linter.unusedSimpArgs false

theorem hC_len {m : Bool} {W R : List Int} {n : Int} (hW : W.length = 8) (hR : R.length = 64) : (hC m W R n).length = 74 := by simp [hC, hW, hR]
theorem hC_w {m : Bool} {W R : List Int} {n : Int} (hW : W.length = 8) {i : Nat} (hi : i < 8) : (hC m W R n)[1 + i]? = some (.int .u32 (W.getD i 0)) := by
  rw [hC, Nat.add_comm, List.getElem?_cons_succ, List.getElem?_append_left (by rw [List.length_map]; omega), List.getElem?_map, List.getD_eq_getElem?_getD, List.getElem?_eq_getElem (by omega)]
  rfl
theorem hC_setw {m : Bool} {W R : List Int} {n : Int} (hW : W.length = 8) {i : Nat} (hi : i < 8) (x : Int) : (hC m W R n).set (1 + i) (.int .u32 x) = hC m (W.set i x) R n := by
  rw [hC, Nat.add_comm, List.set_cons_succ, List.set_append_left _ _ (by rw [List.length_map]; omega), hC, List.map_set]
  rfl
theorem hC_r {m : Bool} {W R : List Int} {n : Int} (hW : W.length = 8) {i : Nat} (hi : i < R.length) : (hC m W R n)[9 + i]? = some (.int .u8 (R.getD i 0)) := by
  rw [hC, show 9 + i = (8 + i) + 1 by omega, List.getElem?_cons_succ, List.getElem?_append_right (by rw [List.length_map]; omega), List.length_map, hW, Nat.add_sub_cancel_left, List.getElem?_append_left (by rw [List.length_map]; omega), List.getElem?_map, List.getD_eq_getElem?_getD, List.getElem?_eq_getElem (by omega)]
  rfl
theorem hC_n {m : Bool} {W R : List Int} {n : Int} (hW : W.length = 8) (hR : R.length = 64) : (hC m W R n)[73]? = some (.int .i64 n) := by
  rw [hC, List.getElem?_cons_succ, List.getElem?_append_right (by rw [List.length_map]; omega), List.length_map, hW, List.getElem?_append_right (by rw [List.length_map]; omega), List.length_map, hR]
  rfl
theorem hC_setn {m : Bool} {W R : List Int} {n : Int} (hW : W.length = 8) (hR : R.length = 64) (x : Int) : (hC m W R n).set 73 (.int .i64 x) = hC m W R x := by
  rw [hC, List.set_cons_succ, List.set_append_right _ _ (by rw [List.length_map]; omega), List.length_map, hW, List.set_append_right _ _ (by rw [List.length_map]; omega), List.length_map, hR, hC]
  rfl
theorem St.len (s : St) : s.l.length = 8 := rfl
theorem bdA (t : St) (w : World) : (Instr.build 109 #[(0, .int .u32 t.a), (1, .int .u32 t.b), (2, .int .u32 t.c), (3, .int .u32 t.d), (4, .int .u32 t.e), (5, .int .u32 t.f), (6, .int .u32 t.g), (7, .int .u32 t.h)]).run Try.prog w = .ok (.agg (t.l.map uV).toArray) w := by kernel_rfl
theorem ex_index9 {o : Oper} {ρ : Operand → Value} {s : TypeId} {x y : Operand} {X Y V : Value} {w : World} (ho : o.op = .index s x y) (hx : ρ x = X) (hy : ρ y = Y) (hr : (Instr.index s X Y).run Try.prog w = .ok V w) : (execOp ρ o).run Try.prog w = .ok (.value V) w := by
  unfold execOp
  simp only [ho, hx, hy, Sem.run_bind, hr, Result.andThen_ok]
  rfl
theorem idx8_0 (t : St) (w : World) : (Instr.index 109 (.agg (t.l.map uV).toArray) (.int .i64 ((0 : Nat) : Int))).run Try.prog w = .ok (.int .u32 (t.l.getD 0 0)) w := by kernel_rfl
theorem idx8_1 (t : St) (w : World) : (Instr.index 109 (.agg (t.l.map uV).toArray) (.int .i64 ((1 : Nat) : Int))).run Try.prog w = .ok (.int .u32 (t.l.getD 1 0)) w := by kernel_rfl
theorem idx8_2 (t : St) (w : World) : (Instr.index 109 (.agg (t.l.map uV).toArray) (.int .i64 ((2 : Nat) : Int))).run Try.prog w = .ok (.int .u32 (t.l.getD 2 0)) w := by kernel_rfl
theorem idx8_3 (t : St) (w : World) : (Instr.index 109 (.agg (t.l.map uV).toArray) (.int .i64 ((3 : Nat) : Int))).run Try.prog w = .ok (.int .u32 (t.l.getD 3 0)) w := by kernel_rfl
theorem idx8_4 (t : St) (w : World) : (Instr.index 109 (.agg (t.l.map uV).toArray) (.int .i64 ((4 : Nat) : Int))).run Try.prog w = .ok (.int .u32 (t.l.getD 4 0)) w := by kernel_rfl
theorem idx8_5 (t : St) (w : World) : (Instr.index 109 (.agg (t.l.map uV).toArray) (.int .i64 ((5 : Nat) : Int))).run Try.prog w = .ok (.int .u32 (t.l.getD 5 0)) w := by kernel_rfl
theorem idx8_6 (t : St) (w : World) : (Instr.index 109 (.agg (t.l.map uV).toArray) (.int .i64 ((6 : Nat) : Int))).run Try.prog w = .ok (.int .u32 (t.l.getD 6 0)) w := by kernel_rfl
theorem idx8_7 (t : St) (w : World) : (Instr.index 109 (.agg (t.l.map uV).toArray) (.int .i64 ((7 : Nat) : Int))).run Try.prog w = .ok (.int .u32 (t.l.getD 7 0)) w := by kernel_rfl
theorem idx8 (t : St) (j : Nat) (hj : j < 8) (w : World) : (Instr.index 109 (.agg (t.l.map uV).toArray) (.int .i64 (j : Int))).run Try.prog w = .ok (.int .u32 (t.l.getD j 0)) w := by
  have hc : j = 0 ∨ j = 1 ∨ j = 2 ∨ j = 3 ∨ j = 4 ∨ j = 5 ∨ j = 6 ∨ j = 7 := by omega
  rcases hc with rfl | rfl | rfl | rfl | rfl | rfl | rfl | rfl
  · exact idx8_0 t w
  · exact idx8_1 t w
  · exact idx8_2 t w
  · exact idx8_3 t w
  · exact idx8_4 t w
  · exact idx8_5 t w
  · exact idx8_6 t w
  · exact idx8_7 t w
def adN (s t : St) : Nat → List Int
  | 0 => s.l
  | j + 1 => (adN s t j).set j (ad ((adN s t j).getD j 0) (t.l.getD j 0))
theorem adN_len (s t : St) : ∀ j, (adN s t j).length = 8
  | 0 => rfl
  | j + 1 => by rw [adN, List.length_set, adN_len s t j]
theorem adN_8 (s t : St) : adN s t 8 = (s.ad t).l := rfl
def sN (f : Nat → Int) : Nat → List Int
  | 0 => List.replicate 32 0
  | j + 1 => (sN f j).set j (f j)
theorem sN_len (f : Nat → Int) : ∀ j, (sN f j).length = 32
  | 0 => by simp [sN]
  | j + 1 => by rw [sN, List.length_set, sN_len f j]
theorem sN_eq (f : Nat → Int) : ∀ j, j ≤ 32 → sN f j = (List.range j).map f ++ List.replicate (32 - j) 0
  | 0, _ => by simp [sN]
  | j + 1, h => by
    rw [sN, sN_eq f j (by omega), List.set_append_right _ _ (by simp), List.length_map, List.length_range, Nat.sub_self, show 32 - j = (32 - (j + 1)) + 1 by omega, List.replicate_succ, List.set_cons_zero, List.range_succ, List.map_append]
    simp
theorem sN_32 (f : Nat → Int) : sN f 32 = (List.range 32).map f := by rw [sN_eq f 32 (Nat.le_refl _)]; simp
def oS (s : St) (j : Nat) : List Int := sN (fun i => IntKind.u8.wrap (s.l.getD (i / 4) 0 / 2 ^ (24 - 8 * (i % 4)))) j
theorem oS_len (s : St) (j : Nat) : (oS s j).length = 32 := sN_len _ j
theorem oS_32 (s : St) : oS s 32 = outB s := sN_32 _
set_option maxRecDepth 100000 in
set_option maxHeartbeats 2000000 in
theorem mix_any (q : Nat) (m : Bool) (s : St) (R : List Int) (n : Int) (b : List Int) (a : Option Addr) (c : Nat) (w : World) (hB : BB w q 113 (hC m s.l R n)) (h : SlY yB9 w a 64 c b) (hb : b.length = 64) :
    Calls Try.prog 94 #[.pointer (some ⟨q, 1, none⟩), .slice a 64 c] w fun e w' => e = .returned (.tuple #[]) ∧ BB w' q 113 (hC m (blkF s b).l R n) ∧ Upd (fun k => k = q) w w' := by
  go_enter Try.func94, Try.ntmps94
  go_upto_region 0 with fail
  refine wp_region_lit ?_
  refine vl_gen (fun T => Rp T 140 [(1, gw true (.slice a 64 c)), (0, gw true (.pointer (some ⟨q, 1, none⟩)))]) (((Rp.nil rfl).cons rfl).cons rfl) (fun Z0 q0 => ?_)
  refine q0.t (.slice a 64 c) (ex_move rfl (q0.e (j := 1) rfl)) fun _ q1 => ?_;clear q0
  refine vcallP (want_none rfl) (ex_call rfl (by simp only [List.map_toArray, List.map_cons, List.map_nil, (q1.e (j := 19) rfl), evc] <;> rfl) rfl) (wordsOf_any b a c w h hb) rfl q1.z (by decide) ?_
  rintro e w1 ⟨rfl, b1⟩
  refine ⟨_, rfl, q1.k fun _ q2 => ?_⟩;clear q1
  have z1 := b1.size
  refine vcallP (want_none rfl) (ex_call (args := #[]) rfl (by simp) rfl) (rwords_any w1) rfl q2.z (by decide) ?_
  rintro e w2 ⟨rfl, b2⟩
  refine ⟨_, rfl, q2.k fun _ q3 => ?_⟩;clear q2
  have z2 := b2.size
  obtain ⟨w3, hw3⟩ : ∃ y, y = w2.alloc (.cells ((List.replicate 64 (0 : Int)).map uV).toArray 165) := ⟨_, rfl⟩
  refine vw (.pointer (some ⟨w2.heap.size, 0, none⟩)) w3 (want_none rfl) (ex_al rfl (by rw [hw3]; exact al64 _)) rfl q3.z (by decide) (q3.k fun _ q4 => ?_);clear q3
  have Bw3 : BB w3 w2.heap.size 165 ((List.replicate 64 (0 : Int)).map uV) := by rw [hw3]; exact BB.new _ _ _
  have bw3 : Below w2.heap.size w2 w3 := by rw [hw3]; exact (Below.refl _ _).alloc (Nat.le_refl _) _
  have zw3 : w3.heap.size = w2.heap.size + 1 := by rw [hw3]; exact World.size_alloc _ _
  clear hw3
  obtain ⟨w4, hw4⟩ : ∃ y, y = w3.alloc (.cells ((List.replicate 64 (0 : Int)).map uV).toArray 165) := ⟨_, rfl⟩
  refine vw (.pointer (some ⟨w3.heap.size, 0, none⟩)) w4 (want_none rfl) (ex_al rfl (by rw [hw4]; exact al64 _)) rfl q4.z (by decide) (q4.k fun _ q5 => ?_);clear q4
  have Bw4 : BB w4 w3.heap.size 165 ((List.replicate 64 (0 : Int)).map uV) := by rw [hw4]; exact BB.new _ _ _
  have bw4 : Below w3.heap.size w3 w4 := by rw [hw4]; exact (Below.refl _ _).alloc (Nat.le_refl _) _
  have zw4 : w4.heap.size = w3.heap.size + 1 := by rw [hw4]; exact World.size_alloc _ _
  clear hw4
  have hwm : ((wrds b).map uV).length = 64 := by rw [len_uV]; exact wT_len b 48
  have hkm : (kT9.map uV).length = 64 := rfl
  have B34 := Bw3.later bw4
  obtain ⟨w5, hw5⟩ : ∃ y, y = w4.setCells w2.heap.size 0 ((wrds b).map uV) := ⟨_, rfl⟩
  refine vs w5 (want_none rfl) (ex_st rfl (q5.e (j := 4) rfl) (q5.e (j := 20) rfl) (by rw [hw5]; exact B34.st 165 _ (by rw [hwm]; rfl) (by rw [List.size_toArray, hwm]; exact i64u) (one_u _))) rfl ?_
  have B5 : BB w5 w2.heap.size 165 ((wrds b).map uV) := by rw [hw5]; exact B34.whole _ (by rw [hwm]; rfl)
  have u5 : Upd (fun k => k = w2.heap.size) w4 w5 := by rw [hw5]; exact upd18 _ _ _ _
  have z5 := u5.size
  have B45 := Bw4.upd u5 (by omega)
  clear hw5
  obtain ⟨w6, hw6⟩ : ∃ y, y = w5.setCells w3.heap.size 0 (kT9.map uV) := ⟨_, rfl⟩
  refine vs w6 (want_none rfl) (ex_st rfl (q5.e (j := 5) rfl) (q5.e (j := 21) rfl) (by rw [hw6]; exact B45.st 165 _ rfl i64u (by kernel_rfl))) rfl ?_
  have B6k : BB w6 w3.heap.size 165 (kT9.map uV) := by rw [hw6]; exact B45.whole _ rfl
  have u6 : Upd (fun k => k = w3.heap.size) w5 w6 := by rw [hw6]; exact upd18 _ _ _ _
  have z6 := u6.size
  have B6w := B5.upd u6 (by omega)
  clear hw6 B5 B45 B34 Bw3 Bw4
  have b6 : Below w.heap.size w w6 := ((((b1.trans (b2.mono z1)).trans (bw3.mono (by omega))).trans (bw4.mono (by omega))).trans (bel_ge u5 (by omega) (by omega))).trans (bel_ge u6 (by omega) (by omega))
  have z66 := b6.size
  have B6q := hB.later b6
  have hql := hB.lt
  obtain ⟨x4, hx4⟩ : ∃ x, x = w2.heap.size := ⟨_, rfl⟩
  obtain ⟨x5, hx5⟩ : ∃ x, x = w3.heap.size := ⟨_, rfl⟩
  have q6 := ((((Rp.nil q5.z).cons (q5.a 0 rfl)).cons (q5.a 4 rfl)).cons (q5.a 5 rfl))
  clear q5
  rw [← hx4, ← hx5] at q6
  rw [← hx4] at B6w
  rw [← hx5] at B6k
  have h4l := B6w.lt
  have h5l := B6k.lt
  have h4w : w.heap.size ≤ x4 := by omega
  have h5w : w.heap.size ≤ x5 := by omega
  clear hx4 hx5 bw3 bw4 zw3 zw4 z5 u5 u6 b1 b2 z1 z2
  refine wpList_nil ?_
  go_upto_region 1 with fail
  refine vq_start (C := fun v => v = w6.drew) (by kernel_rfl) (by kernel_rfl) rfl ?_
  have hd : Below w6.heap.size w6 w6.drew := (Below.refl _ _).drew
  have hzd : w6.drew.heap.size = w6.heap.size := rfl
  generalize w6.drew = d at *
  have Bq := B6q.later hd
  have Bw := B6w.later hd
  have Bk := B6k.later hd
  have bd : Below w.heap.size w d := b6.trans (hd.mono z66)
  clear B6q B6w B6k b6
  refine q6.q (.pointer (some ⟨q, 1, none⟩)) (fun v hv => ex_move rfl (q6.e (j := 0) rfl)) fun _ q7 => ?_;clear q6
  refine q7.q (.pointer (some ⟨q, 1, none⟩)) (fun v hv => ex_nil rfl (q7.e (j := 22) rfl)) fun _ q8 => ?_;clear q7
  refine q8.q (.pointer (some ⟨q, (1 + 0), none⟩)) (fun v hv => ex_ix rfl (q8.e (j := 23) rfl) rfl (ixA q 1 0 8 110 103 Try.underlying110 i1u (by decide) _)) fun _ q9 => ?_;clear q8
  refine q9.q (.int .u32 s.a) (fun v hv => by subst hv; exact ex_ld rfl (q9.e (j := 24) rfl) (ldU ((Bq.cell (1 + 0)).trans rfl))) fun _ q10 => ?_;clear q9
  refine q10.q (.pointer (some ⟨q, 1, none⟩)) (fun v hv => ex_move rfl (q10.e (j := 0) rfl)) fun _ q11 => ?_;clear q10
  refine q11.q (.pointer (some ⟨q, 1, none⟩)) (fun v hv => ex_nil rfl (q11.e (j := 26) rfl)) fun _ q12 => ?_;clear q11
  refine q12.q (.pointer (some ⟨q, (1 + 1), none⟩)) (fun v hv => ex_ix rfl (q12.e (j := 27) rfl) rfl (ixA q 1 1 8 110 103 Try.underlying110 i1u (by decide) _)) fun _ q13 => ?_;clear q12
  refine q13.q (.int .u32 s.b) (fun v hv => by subst hv; exact ex_ld rfl (q13.e (j := 28) rfl) (ldU ((Bq.cell (1 + 1)).trans rfl))) fun _ q14 => ?_;clear q13
  refine q14.q (.pointer (some ⟨q, 1, none⟩)) (fun v hv => ex_move rfl (q14.e (j := 0) rfl)) fun _ q15 => ?_;clear q14
  refine q15.q (.pointer (some ⟨q, 1, none⟩)) (fun v hv => ex_nil rfl (q15.e (j := 30) rfl)) fun _ q16 => ?_;clear q15
  refine q16.q (.pointer (some ⟨q, (1 + 2), none⟩)) (fun v hv => ex_ix rfl (q16.e (j := 31) rfl) rfl (ixA q 1 2 8 110 103 Try.underlying110 i1u (by decide) _)) fun _ q17 => ?_;clear q16
  refine q17.q (.int .u32 s.c) (fun v hv => by subst hv; exact ex_ld rfl (q17.e (j := 32) rfl) (ldU ((Bq.cell (1 + 2)).trans rfl))) fun _ q18 => ?_;clear q17
  refine q18.q (.pointer (some ⟨q, 1, none⟩)) (fun v hv => ex_move rfl (q18.e (j := 0) rfl)) fun _ q19 => ?_;clear q18
  refine q19.q (.pointer (some ⟨q, 1, none⟩)) (fun v hv => ex_nil rfl (q19.e (j := 34) rfl)) fun _ q20 => ?_;clear q19
  refine q20.q (.pointer (some ⟨q, (1 + 3), none⟩)) (fun v hv => ex_ix rfl (q20.e (j := 35) rfl) rfl (ixA q 1 3 8 110 103 Try.underlying110 i1u (by decide) _)) fun _ q21 => ?_;clear q20
  refine q21.q (.int .u32 s.d) (fun v hv => by subst hv; exact ex_ld rfl (q21.e (j := 36) rfl) (ldU ((Bq.cell (1 + 3)).trans rfl))) fun _ q22 => ?_;clear q21
  refine q22.q (.pointer (some ⟨q, 1, none⟩)) (fun v hv => ex_move rfl (q22.e (j := 0) rfl)) fun _ q23 => ?_;clear q22
  refine q23.q (.pointer (some ⟨q, 1, none⟩)) (fun v hv => ex_nil rfl (q23.e (j := 38) rfl)) fun _ q24 => ?_;clear q23
  refine q24.q (.pointer (some ⟨q, (1 + 4), none⟩)) (fun v hv => ex_ix rfl (q24.e (j := 39) rfl) rfl (ixA q 1 4 8 110 103 Try.underlying110 i1u (by decide) _)) fun _ q25 => ?_;clear q24
  refine q25.q (.int .u32 s.e) (fun v hv => by subst hv; exact ex_ld rfl (q25.e (j := 40) rfl) (ldU ((Bq.cell (1 + 4)).trans rfl))) fun _ q26 => ?_;clear q25
  refine q26.q (.pointer (some ⟨q, 1, none⟩)) (fun v hv => ex_move rfl (q26.e (j := 0) rfl)) fun _ q27 => ?_;clear q26
  refine q27.q (.pointer (some ⟨q, 1, none⟩)) (fun v hv => ex_nil rfl (q27.e (j := 42) rfl)) fun _ q28 => ?_;clear q27
  refine q28.q (.pointer (some ⟨q, (1 + 5), none⟩)) (fun v hv => ex_ix rfl (q28.e (j := 43) rfl) rfl (ixA q 1 5 8 110 103 Try.underlying110 i1u (by decide) _)) fun _ q29 => ?_;clear q28
  refine q29.q (.int .u32 s.f) (fun v hv => by subst hv; exact ex_ld rfl (q29.e (j := 44) rfl) (ldU ((Bq.cell (1 + 5)).trans rfl))) fun _ q30 => ?_;clear q29
  refine q30.q (.pointer (some ⟨q, 1, none⟩)) (fun v hv => ex_move rfl (q30.e (j := 0) rfl)) fun _ q31 => ?_;clear q30
  refine q31.q (.pointer (some ⟨q, 1, none⟩)) (fun v hv => ex_nil rfl (q31.e (j := 46) rfl)) fun _ q32 => ?_;clear q31
  refine q32.q (.pointer (some ⟨q, (1 + 6), none⟩)) (fun v hv => ex_ix rfl (q32.e (j := 47) rfl) rfl (ixA q 1 6 8 110 103 Try.underlying110 i1u (by decide) _)) fun _ q33 => ?_;clear q32
  refine q33.q (.int .u32 s.g) (fun v hv => by subst hv; exact ex_ld rfl (q33.e (j := 48) rfl) (ldU ((Bq.cell (1 + 6)).trans rfl))) fun _ q34 => ?_;clear q33
  refine q34.q (.pointer (some ⟨q, 1, none⟩)) (fun v hv => ex_move rfl (q34.e (j := 0) rfl)) fun _ q35 => ?_;clear q34
  refine q35.q (.pointer (some ⟨q, 1, none⟩)) (fun v hv => ex_nil rfl (q35.e (j := 50) rfl)) fun _ q36 => ?_;clear q35
  refine q36.q (.pointer (some ⟨q, (1 + 7), none⟩)) (fun v hv => ex_ix rfl (q36.e (j := 51) rfl) rfl (ixA q 1 7 8 110 103 Try.underlying110 i1u (by decide) _)) fun _ q37 => ?_;clear q36
  refine q37.q (.int .u32 s.h) (fun v hv => by subst hv; exact ex_ld rfl (q37.e (j := 52) rfl) (ldU ((Bq.cell (1 + 7)).trans rfl))) fun _ q38 => ?_;clear q37
  refine q38.q (.int .u32 s.a) (fun v hv => ex_assign rfl (q38.e (j := 25) rfl)) fun _ q39 => ?_;clear q38
  refine q39.q (.int .u32 s.b) (fun v hv => ex_assign rfl (q39.e (j := 29) rfl)) fun _ q40 => ?_;clear q39
  refine q40.q (.int .u32 s.c) (fun v hv => ex_assign rfl (q40.e (j := 33) rfl)) fun _ q41 => ?_;clear q40
  refine q41.q (.int .u32 s.d) (fun v hv => ex_assign rfl (q41.e (j := 37) rfl)) fun _ q42 => ?_;clear q41
  refine q42.q (.int .u32 s.e) (fun v hv => ex_assign rfl (q42.e (j := 41) rfl)) fun _ q43 => ?_;clear q42
  refine q43.q (.int .u32 s.f) (fun v hv => ex_assign rfl (q43.e (j := 45) rfl)) fun _ q44 => ?_;clear q43
  refine q44.q (.int .u32 s.g) (fun v hv => ex_assign rfl (q44.e (j := 49) rfl)) fun _ q45 => ?_;clear q44
  refine q45.q (.int .u32 s.h) (fun v hv => ex_assign rfl (q45.e (j := 53) rfl)) fun _ q46 => ?_;clear q45
  refine vq_nil (fun r1 hr1 => ?_)
  subst hr1
  have q47 := ((((((((((((Rp.nil q46.z).cons (q46.a 0 rfl)).cons (q46.a 4 rfl)).cons (q46.a 5 rfl)).cons (q46.a 6 rfl)).cons (q46.a 7 rfl)).cons (q46.a 8 rfl)).cons (q46.a 9 rfl)).cons (q46.a 10 rfl)).cons (q46.a 11 rfl)).cons (q46.a 12 rfl)).cons (q46.a 13 rfl))
  clear q46
  go_upto_region 2 with fail
  refine wp_region_lit ?_
  refine q47.t (.int .i64 ((0 : Nat) : Int)) (ex_move rfl rfl) fun _ q48 => ?_;clear q47
  have q49 := (((((((((((((Rp.nil q48.z).cons (q48.a 0 rfl)).cons (q48.a 4 rfl)).cons (q48.a 5 rfl)).cons (q48.a 6 rfl)).cons (q48.a 7 rfl)).cons (q48.a 8 rfl)).cons (q48.a 9 rfl)).cons (q48.a 10 rfl)).cons (q48.a 11 rfl)).cons (q48.a 12 rfl)).cons (q48.a 13 rfl)).cons (q48.a 54 rfl))
  clear q48
  refine wpList_nil ?_
  go_upto_region 3 with fail
  refine v_loop 54 64 (fun j T wr => Rp T 140 [(54, gw true (.int .i64 ((j : Nat) : Int))), (13, gw true (.int .u32 (rN kT9 (wrds b) s j).h)), (12, gw true (.int .u32 (rN kT9 (wrds b) s j).g)), (11, gw true (.int .u32 (rN kT9 (wrds b) s j).f)), (10, gw true (.int .u32 (rN kT9 (wrds b) s j).e)), (9, gw true (.int .u32 (rN kT9 (wrds b) s j).d)), (8, gw true (.int .u32 (rN kT9 (wrds b) s j).c)), (7, gw true (.int .u32 (rN kT9 (wrds b) s j).b)), (6, gw true (.int .u32 (rN kT9 (wrds b) s j).a)), (5, gw true (.pointer (some ⟨x5, 0, none⟩))), (4, gw true (.pointer (some ⟨x4, 0, none⟩))), (0, gw true (.pointer (some ⟨q, 1, none⟩)))] ∧ Hid (BB wr q 113 (hC m s.l R n) ∧ BB wr x4 165 ((wrds b).map uV) ∧ BB wr x5 165 (kT9.map uV) ∧ Below w.heap.size w wr)) (fun j T w h => h.1.a 54 rfl) ⟨q49, Bq, Bw, Bk, bd⟩ ?_
  clear q49 Bq Bw Bk bd hd hzd h4l h5l
  intro j T wr hj hh
  obtain ⟨q100, HJ⟩ := hh
  obtain ⟨Bq, Bw, Bk, br⟩ := HJ.out
  clear HJ
  have zr := br.size
  by_cases hit : j < 64
  · obtain ⟨t, ht⟩ : ∃ t, t = (rN kT9 (wrds b) s j) := ⟨_, rfl⟩
    rw [← ht] at q100
    go_upto_region 3 with fail
    refine wp_region_lit ?_
    refine q100.t (.bool true) (ex_bin rfl (q100.e (j := 54) rfl) rfl (ltT _ _ hit _)) fun _ q101 => ?_;clear q100
    refine wpList_nil ?_
    go_upto_region 4 with fail
    refine wp_cond_true (q101.e (j := 55) rfl) ?_
    go_upto_region 4 with fail
    refine wp_region_lit ?_
    refine q101.t (.int .i64 ((j : Nat) : Int)) (ex_move rfl (q101.e (j := 54) rfl)) fun _ q102 => ?_;clear q101
    refine q102.t (.int .i64 ((j : Nat) : Int)) (ex_assign rfl (q102.e (j := 56) rfl)) fun _ q103 => ?_;clear q102
    have q104 := ((((((((((((((Rp.nil q103.z).cons (q103.a 0 rfl)).cons (q103.a 4 rfl)).cons (q103.a 5 rfl)).cons (q103.a 6 rfl)).cons (q103.a 7 rfl)).cons (q103.a 8 rfl)).cons (q103.a 9 rfl)).cons (q103.a 10 rfl)).cons (q103.a 11 rfl)).cons (q103.a 12 rfl)).cons (q103.a 13 rfl)).cons (q103.a 54 rfl)).cons (q103.a 14 rfl))
    clear q103
    refine wpList_nil ?_
    go_upto_region 5 with fail
    refine vq_start (C := fun v => v = wr.drew) (by kernel_rfl) (by kernel_rfl) rfl ?_
    have he : Below wr.heap.size wr wr.drew := (Below.refl _ _).drew
    have hze : wr.drew.heap.size = wr.heap.size := rfl
    generalize wr.drew = e at *
    have Bq1 := Bq.later he
    have Bw1 := Bw.later he
    have Bk1 := Bk.later he
    have bd : Below w.heap.size w e := br.trans (he.mono zr)
    clear Bq Bw Bk br
    have hwl : (wrds b).length = 64 := wT_len b 48
    refine q104.q (.int .u32 (t.h)) (fun v hv => ex_move rfl (q104.e (j := 13) rfl)) fun _ q105 => ?_;clear q104
    refine q105.q (.int .u32 (t.e)) (fun v hv => ex_move rfl (q105.e (j := 10) rfl)) fun _ q106 => ?_;clear q105
    refine vq_call18 (true) (.int .u32 (ror9 t.e 6)) (want_none rfl) (fun hc v hv => ex_call rfl (by simp only [List.map_toArray, List.map_cons, List.map_nil, (q106.e (j := 58) rfl), evc] <;> rfl) rfl) (fun hc v hv => (ror_any t.e 6 (by decide) v).mono fun e9 w9 h9 => ⟨h9.1, h9.2.trans hv⟩) rfl q106.z (by decide) (q106.k fun _ q107 => ?_);clear q106
    refine q107.q (.int .u32 (t.e)) (fun v hv => ex_move rfl (q107.e (j := 10) rfl)) fun _ q108 => ?_;clear q107
    refine vq_call18 (true) (.int .u32 (ror9 t.e 11)) (want_none rfl) (fun hc v hv => ex_call rfl (by simp only [List.map_toArray, List.map_cons, List.map_nil, (q108.e (j := 60) rfl), evc] <;> rfl) rfl) (fun hc v hv => (ror_any t.e 11 (by decide) v).mono fun e9 w9 h9 => ⟨h9.1, h9.2.trans hv⟩) rfl q108.z (by decide) (q108.k fun _ q109 => ?_);clear q108
    refine q109.q (.int .u32 (xo (ror9 t.e 6) (ror9 t.e 11))) (fun v hv => ex_bin rfl (q109.e (j := 59) rfl) (q109.e (j := 61) rfl) (xorU _ _ _ _ _)) fun _ q110 => ?_;clear q109
    refine q110.q (.int .u32 (t.e)) (fun v hv => ex_move rfl (q110.e (j := 10) rfl)) fun _ q111 => ?_;clear q110
    refine vq_call18 (true) (.int .u32 (ror9 t.e 25)) (want_none rfl) (fun hc v hv => ex_call rfl (by simp only [List.map_toArray, List.map_cons, List.map_nil, (q111.e (j := 63) rfl), evc] <;> rfl) rfl) (fun hc v hv => (ror_any t.e 25 (by decide) v).mono fun e9 w9 h9 => ⟨h9.1, h9.2.trans hv⟩) rfl q111.z (by decide) (q111.k fun _ q112 => ?_);clear q111
    refine q112.q (.int .u32 (xo (xo (ror9 t.e 6) (ror9 t.e 11)) (ror9 t.e 25))) (fun v hv => ex_bin rfl (q112.e (j := 62) rfl) (q112.e (j := 64) rfl) (xorU _ _ _ _ _)) fun _ q113 => ?_;clear q112
    refine q113.q (.int .u32 (ad t.h (xo (xo (ror9 t.e 6) (ror9 t.e 11)) (ror9 t.e 25)))) (fun v hv => ex_bin rfl (q113.e (j := 57) rfl) (q113.e (j := 65) rfl) (addU _ _ _ _ _)) fun _ q114 => ?_;clear q113
    refine q114.q (.int .u32 (t.e)) (fun v hv => ex_move rfl (q114.e (j := 10) rfl)) fun _ q115 => ?_;clear q114
    refine q115.q (.int .u32 (t.f)) (fun v hv => ex_move rfl (q115.e (j := 11) rfl)) fun _ q116 => ?_;clear q115
    refine q116.q (.int .u32 (an t.e t.f)) (fun v hv => ex_bin rfl (q116.e (j := 67) rfl) (q116.e (j := 68) rfl) (andU _ _ _ _ _)) fun _ q117 => ?_;clear q116
    refine q117.q (.int .u32 (t.e)) (fun v hv => ex_move rfl (q117.e (j := 10) rfl)) fun _ q118 => ?_;clear q117
    refine q118.q (.int .u32 (nt t.e)) (fun v hv => ex_un19 rfl (q118.e (j := 70) rfl)) fun _ q119 => ?_;clear q118
    refine q119.q (.int .u32 (t.g)) (fun v hv => ex_move rfl (q119.e (j := 12) rfl)) fun _ q120 => ?_;clear q119
    refine q120.q (.int .u32 (an (nt t.e) t.g)) (fun v hv => ex_bin rfl (q120.e (j := 71) rfl) (q120.e (j := 72) rfl) (andU _ _ _ _ _)) fun _ q121 => ?_;clear q120
    refine q121.q (.int .u32 (xo (an t.e t.f) (an (nt t.e) t.g))) (fun v hv => ex_bin rfl (q121.e (j := 69) rfl) (q121.e (j := 73) rfl) (xorU _ _ _ _ _)) fun _ q122 => ?_;clear q121
    refine q122.q (.int .u32 (ad (ad t.h (xo (xo (ror9 t.e 6) (ror9 t.e 11)) (ror9 t.e 25))) (xo (an t.e t.f) (an (nt t.e) t.g)))) (fun v hv => ex_bin rfl (q122.e (j := 66) rfl) (q122.e (j := 74) rfl) (addU _ _ _ _ _)) fun _ q123 => ?_;clear q122
    refine q123.q (.int .i64 ((j : Nat) : Int)) (fun v hv => ex_move rfl (q123.e (j := 14) rfl)) fun _ q124 => ?_;clear q123
    refine q124.q (.pointer (some ⟨x5, j, none⟩)) (fun v hv => ex_ix rfl (q124.e (j := 5) rfl) (q124.e (j := 76) rfl) (ixA0 x5 j 64 165 103 Try.underlying165 i1u hit _)) fun _ q125 => ?_;clear q124
    refine q125.q (.int .u32 (kT9.getD j 0)) (fun v hv => by subst hv; exact ex_ld rfl (q125.e (j := 77) rfl) (ldU (Bk1.u9 (show j < kT9.length from hit)))) fun _ q126 => ?_;clear q125
    refine q126.q (.int .u32 (ad (ad (ad t.h (xo (xo (ror9 t.e 6) (ror9 t.e 11)) (ror9 t.e 25))) (xo (an t.e t.f) (an (nt t.e) t.g))) (kT9.getD j 0))) (fun v hv => ex_bin rfl (q126.e (j := 75) rfl) (q126.e (j := 78) rfl) (addU _ _ _ _ _)) fun _ q127 => ?_;clear q126
    refine q127.q (.int .i64 ((j : Nat) : Int)) (fun v hv => ex_move rfl (q127.e (j := 14) rfl)) fun _ q128 => ?_;clear q127
    refine q128.q (.pointer (some ⟨x4, j, none⟩)) (fun v hv => ex_ix rfl (q128.e (j := 4) rfl) (q128.e (j := 80) rfl) (ixA0 x4 j 64 165 103 Try.underlying165 i1u hit _)) fun _ q129 => ?_;clear q128
    refine q129.q (.int .u32 ((wrds b).getD j 0)) (fun v hv => by subst hv; exact ex_ld rfl (q129.e (j := 81) rfl) (ldU (Bw1.u9 (by rw [hwl]; exact hit)))) fun _ q130 => ?_;clear q129
    refine q130.q (.int .u32 (t19 t (kT9.getD j 0) ((wrds b).getD j 0))) (fun v hv => ex_bin rfl (q130.e (j := 79) rfl) (q130.e (j := 82) rfl) (addU _ _ _ _ _)) fun _ q131 => ?_;clear q130
    refine q131.q (.int .u32 (t19 t (kT9.getD j 0) ((wrds b).getD j 0))) (fun v hv => ex_assign rfl (q131.e (j := 83) rfl)) fun _ q132 => ?_;clear q131
    refine vq_nil (fun r1 hr1 => ?_)
    subst hr1
    have q133 := ((((((((((((((Rp.nil q132.z).cons (q132.a 0 rfl)).cons (q132.a 4 rfl)).cons (q132.a 5 rfl)).cons (q132.a 6 rfl)).cons (q132.a 7 rfl)).cons (q132.a 8 rfl)).cons (q132.a 9 rfl)).cons (q132.a 10 rfl)).cons (q132.a 11 rfl)).cons (q132.a 12 rfl)).cons (q132.a 13 rfl)).cons (q132.a 54 rfl)).cons (q132.a 15 rfl))
    clear q132
    obtain ⟨y1, hy1⟩ : ∃ y, y = t19 t (kT9.getD j 0) ((wrds b).getD j 0) := ⟨_, rfl⟩
    rw [← hy1] at q133
    go_upto_region 6 with fail
    refine wp_region_lit ?_
    refine q133.t (.int .u32 (t.a)) (ex_move rfl (q133.e (j := 6) rfl)) fun _ q134 => ?_;clear q133
    refine vcallP (want_none rfl) (ex_call rfl (by simp only [List.map_toArray, List.map_cons, List.map_nil, (q134.e (j := 84) rfl), evc] <;> rfl) rfl) (ror_any t.a 2 (by decide) r1) rfl q134.z (by decide) ?_
    rintro e v1 ⟨rfl, rfl⟩
    refine ⟨_, rfl, q134.k fun _ q135 => ?_⟩;clear q134
    refine q135.t (.int .u32 (t.a)) (ex_move rfl (q135.e (j := 6) rfl)) fun _ q136 => ?_;clear q135
    refine vcallP (want_none rfl) (ex_call rfl (by simp only [List.map_toArray, List.map_cons, List.map_nil, (q136.e (j := 86) rfl), evc] <;> rfl) rfl) (ror_any t.a 13 (by decide) v1) rfl q136.z (by decide) ?_
    rintro e v2 ⟨rfl, rfl⟩
    refine ⟨_, rfl, q136.k fun _ q137 => ?_⟩;clear q136
    refine q137.t (.int .u32 (xo (ror9 t.a 2) (ror9 t.a 13))) (ex_bin rfl (q137.e (j := 85) rfl) (q137.e (j := 87) rfl) (xorU _ _ _ _ _)) fun _ q138 => ?_;clear q137
    refine q138.t (.int .u32 (t.a)) (ex_move rfl (q138.e (j := 6) rfl)) fun _ q139 => ?_;clear q138
    refine vcallP (want_none rfl) (ex_call rfl (by simp only [List.map_toArray, List.map_cons, List.map_nil, (q139.e (j := 89) rfl), evc] <;> rfl) rfl) (ror_any t.a 22 (by decide) v2) rfl q139.z (by decide) ?_
    rintro e v3 ⟨rfl, rfl⟩
    refine ⟨_, rfl, q139.k fun _ q140 => ?_⟩;clear q139
    refine q140.t (.int .u32 (xo (xo (ror9 t.a 2) (ror9 t.a 13)) (ror9 t.a 22))) (ex_bin rfl (q140.e (j := 88) rfl) (q140.e (j := 90) rfl) (xorU _ _ _ _ _)) fun _ q141 => ?_;clear q140
    refine q141.t (.int .u32 (t.a)) (ex_move rfl (q141.e (j := 6) rfl)) fun _ q142 => ?_;clear q141
    refine q142.t (.int .u32 (t.b)) (ex_move rfl (q142.e (j := 7) rfl)) fun _ q143 => ?_;clear q142
    refine q143.t (.int .u32 (an t.a t.b)) (ex_bin rfl (q143.e (j := 92) rfl) (q143.e (j := 93) rfl) (andU _ _ _ _ _)) fun _ q144 => ?_;clear q143
    refine q144.t (.int .u32 (t.a)) (ex_move rfl (q144.e (j := 6) rfl)) fun _ q145 => ?_;clear q144
    refine q145.t (.int .u32 (t.c)) (ex_move rfl (q145.e (j := 8) rfl)) fun _ q146 => ?_;clear q145
    refine q146.t (.int .u32 (an t.a t.c)) (ex_bin rfl (q146.e (j := 95) rfl) (q146.e (j := 96) rfl) (andU _ _ _ _ _)) fun _ q147 => ?_;clear q146
    refine q147.t (.int .u32 (xo (an t.a t.b) (an t.a t.c))) (ex_bin rfl (q147.e (j := 94) rfl) (q147.e (j := 97) rfl) (xorU _ _ _ _ _)) fun _ q148 => ?_;clear q147
    refine q148.t (.int .u32 (t.b)) (ex_move rfl (q148.e (j := 7) rfl)) fun _ q149 => ?_;clear q148
    refine q149.t (.int .u32 (t.c)) (ex_move rfl (q149.e (j := 8) rfl)) fun _ q150 => ?_;clear q149
    refine q150.t (.int .u32 (an t.b t.c)) (ex_bin rfl (q150.e (j := 99) rfl) (q150.e (j := 100) rfl) (andU _ _ _ _ _)) fun _ q151 => ?_;clear q150
    refine q151.t (.int .u32 (xo (xo (an t.a t.b) (an t.a t.c)) (an t.b t.c))) (ex_bin rfl (q151.e (j := 98) rfl) (q151.e (j := 101) rfl) (xorU _ _ _ _ _)) fun _ q152 => ?_;clear q151
    refine q152.t (.int .u32 (t29 t)) (ex_bin rfl (q152.e (j := 91) rfl) (q152.e (j := 102) rfl) (addU _ _ _ _ _)) fun _ q153 => ?_;clear q152
    refine q153.t (.int .u32 (t29 t)) (ex_assign rfl (q153.e (j := 103) rfl)) fun _ q154 => ?_;clear q153
    have q155 := (((((((((((((((Rp.nil q154.z).cons (q154.a 0 rfl)).cons (q154.a 4 rfl)).cons (q154.a 5 rfl)).cons (q154.a 6 rfl)).cons (q154.a 7 rfl)).cons (q154.a 8 rfl)).cons (q154.a 9 rfl)).cons (q154.a 10 rfl)).cons (q154.a 11 rfl)).cons (q154.a 12 rfl)).cons (q154.a 13 rfl)).cons (q154.a 54 rfl)).cons (q154.a 15 rfl)).cons (q154.a 16 rfl))
    clear q154
    refine wpList_nil ?_
    go_upto_region 7 with fail
    refine wp_region_lit ?_
    refine q155.t (.int .u32 (t.g)) (ex_move rfl (q155.e (j := 12) rfl)) fun _ q156 => ?_;clear q155
    refine q156.t (.int .u32 (t.f)) (ex_move rfl (q156.e (j := 11) rfl)) fun _ q157 => ?_;clear q156
    refine q157.t (.int .u32 (t.e)) (ex_move rfl (q157.e (j := 10) rfl)) fun _ q158 => ?_;clear q157
    refine q158.t (.int .u32 (t.d)) (ex_move rfl (q158.e (j := 9) rfl)) fun _ q159 => ?_;clear q158
    refine q159.t (.int .u32 (y1)) (ex_move rfl (q159.e (j := 15) rfl)) fun _ q160 => ?_;clear q159
    refine q160.t (.int .u32 (ad t.d y1)) (ex_bin rfl (q160.e (j := 107) rfl) (q160.e (j := 108) rfl) (addU _ _ _ _ _)) fun _ q161 => ?_;clear q160
    refine q161.t (.int .u32 (t.g)) (ex_assign rfl (q161.e (j := 104) rfl)) fun _ q162 => ?_;clear q161
    refine q162.t (.int .u32 (t.f)) (ex_assign rfl (q162.e (j := 105) rfl)) fun _ q163 => ?_;clear q162
    refine q163.t (.int .u32 (t.e)) (ex_assign rfl (q163.e (j := 106) rfl)) fun _ q164 => ?_;clear q163
    refine q164.t (.int .u32 (ad t.d y1)) (ex_assign rfl (q164.e (j := 109) rfl)) fun _ q165 => ?_;clear q164
    have q166 := (((((((((((((((Rp.nil q165.z).cons (q165.a 0 rfl)).cons (q165.a 4 rfl)).cons (q165.a 5 rfl)).cons (q165.a 6 rfl)).cons (q165.a 7 rfl)).cons (q165.a 8 rfl)).cons (q165.a 9 rfl)).cons (q165.a 10 rfl)).cons (q165.a 11 rfl)).cons (q165.a 12 rfl)).cons (q165.a 13 rfl)).cons (q165.a 54 rfl)).cons (q165.a 15 rfl)).cons (q165.a 16 rfl))
    clear q165
    refine wpList_nil ?_
    go_upto_region 8 with fail
    refine wp_region_lit ?_
    refine q166.t (.int .u32 (t.c)) (ex_move rfl (q166.e (j := 8) rfl)) fun _ q167 => ?_;clear q166
    refine q167.t (.int .u32 (t.b)) (ex_move rfl (q167.e (j := 7) rfl)) fun _ q168 => ?_;clear q167
    refine q168.t (.int .u32 (t.a)) (ex_move rfl (q168.e (j := 6) rfl)) fun _ q169 => ?_;clear q168
    refine q169.t (.int .u32 (y1)) (ex_move rfl (q169.e (j := 15) rfl)) fun _ q170 => ?_;clear q169
    refine q170.t (.int .u32 (t29 t)) (ex_move rfl (q170.e (j := 16) rfl)) fun _ q171 => ?_;clear q170
    refine q171.t (.int .u32 (ad y1 (t29 t))) (ex_bin rfl (q171.e (j := 113) rfl) (q171.e (j := 114) rfl) (addU _ _ _ _ _)) fun _ q172 => ?_;clear q171
    refine q172.t (.int .u32 (t.c)) (ex_assign rfl (q172.e (j := 110) rfl)) fun _ q173 => ?_;clear q172
    refine q173.t (.int .u32 (t.b)) (ex_assign rfl (q173.e (j := 111) rfl)) fun _ q174 => ?_;clear q173
    refine q174.t (.int .u32 (t.a)) (ex_assign rfl (q174.e (j := 112) rfl)) fun _ q175 => ?_;clear q174
    refine q175.t (.int .u32 (ad y1 (t29 t))) (ex_assign rfl (q175.e (j := 115) rfl)) fun _ q176 => ?_;clear q175
    refine wpList_nil ?_
    go_upto_region 9 with fail
    refine wp_region_lit ?_
    refine q176.t (.int .i64 ((j + 1 : Nat) : Int)) (ex_bin rfl (q176.e (j := 54) rfl) rfl (add1C _ _ j (by omega) _)) fun _ q177 => ?_;clear q176
    refine q177.t (.int .i64 ((j + 1 : Nat) : Int)) (ex_move rfl (q177.e (j := 116) rfl)) fun _ q178 => ?_;clear q177
    have q179 := (((((((((((((Rp.nil q178.z).cons (q178.a 0 rfl)).cons (q178.a 4 rfl)).cons (q178.a 5 rfl)).cons (q178.a 6 rfl)).cons (q178.a 7 rfl)).cons (q178.a 8 rfl)).cons (q178.a 9 rfl)).cons (q178.a 10 rfl)).cons (q178.a 11 rfl)).cons (q178.a 12 rfl)).cons (q178.a 13 rfl)).cons (q178.a 54 rfl))
    clear q178
    refine wpList_nil ?_
    subst hy1 ht
    exact ⟨_, rfl, hit, q179, Bq1, Bw1, Bk1, bd⟩
  · obtain rfl : j = 64 := by omega
    obtain ⟨t, ht⟩ : ∃ t, t = (rN kT9 (wrds b) s 64) := ⟨_, rfl⟩
    rw [← ht] at q100
    go_upto_region 3 with fail
    refine wp_region_lit ?_
    refine q100.t (.bool false) (ex_bin rfl (q100.e (j := 54) rfl) rfl (ltF _ _ hit _)) fun _ q101 => ?_;clear q100
    refine wpList_nil ?_
    go_upto_region 10 with fail
    refine wp_cond_false (q101.e (j := 55) rfl) ?_
    go_upto_region 10 with fail
    refine wp_region_lit ?_
    refine q101.t (.int .u32 (t.a)) (ex_move rfl (q101.e (j := 6) rfl)) fun _ q102 => ?_;clear q101
    refine q102.t (.int .u32 (t.b)) (ex_move rfl (q102.e (j := 7) rfl)) fun _ q103 => ?_;clear q102
    refine q103.t (.int .u32 (t.c)) (ex_move rfl (q103.e (j := 8) rfl)) fun _ q104 => ?_;clear q103
    refine q104.t (.int .u32 (t.d)) (ex_move rfl (q104.e (j := 9) rfl)) fun _ q105 => ?_;clear q104
    refine q105.t (.int .u32 (t.e)) (ex_move rfl (q105.e (j := 10) rfl)) fun _ q106 => ?_;clear q105
    refine q106.t (.int .u32 (t.f)) (ex_move rfl (q106.e (j := 11) rfl)) fun _ q107 => ?_;clear q106
    refine q107.t (.int .u32 (t.g)) (ex_move rfl (q107.e (j := 12) rfl)) fun _ q108 => ?_;clear q107
    refine q108.t (.int .u32 (t.h)) (ex_move rfl (q108.e (j := 13) rfl)) fun _ q109 => ?_;clear q108
    refine q109.t (.agg (t.l.map uV).toArray) (ex_buildP18 (P := #[(0, .int .u32 t.a), (1, .int .u32 t.b), (2, .int .u32 t.c), (3, .int .u32 t.d), (4, .int .u32 t.e), (5, .int .u32 t.f), (6, .int .u32 t.g), (7, .int .u32 t.h)]) rfl (by simp only [List.map_toArray, List.map_cons, List.map_nil, q109.e (j := 117) rfl, q109.e (j := 118) rfl, q109.e (j := 119) rfl, q109.e (j := 120) rfl, q109.e (j := 121) rfl, q109.e (j := 122) rfl, q109.e (j := 123) rfl, q109.e (j := 124) rfl, evc]) (bdA _ _)) fun _ q110 => ?_;clear q109
    refine q110.t (.int .i64 ((0 : Nat) : Int)) (ex_move rfl rfl) fun _ q111 => ?_;clear q110
    have q112 := ((((Rp.nil q111.z).cons (q111.a 0 rfl)).cons (q111.a 125 rfl)).cons (q111.a 126 rfl))
    clear q111
    refine wpList_nil ?_
    go_upto_region 11 with fail
    have uw : Upd (fun k => k = q) w wr := Upd.of_below br
    refine v_loop 126 8 (fun j T wr => Rp T 140 [(126, gw true (.int .i64 ((j : Nat) : Int))), (125, gw true (.agg (t.l.map uV).toArray)), (0, gw true (.pointer (some ⟨q, 1, none⟩)))] ∧ Hid (BB wr q 113 (hC m (adN s t j) R n) ∧ Upd (fun k => k = q) w wr)) (fun j T w h => h.1.a 126 rfl) ⟨q112, Bq, uw⟩ ?_
    clear q112 Bq Bw Bk br zr uw hit hj
    intro j T wr hj hh
    obtain ⟨q100, HJ⟩ := hh
    obtain ⟨Bq, uw⟩ := HJ.out
    clear HJ
    have zr := uw.size
    by_cases hit : j < 8
    · go_upto_region 11 with fail
      refine wp_region_lit ?_
      refine q100.t (.bool true) (ex_bin rfl (q100.e (j := 126) rfl) rfl (ltT _ _ hit _)) fun _ q101 => ?_;clear q100
      refine wpList_nil ?_
      go_upto_region 12 with fail
      refine wp_cond_true (q101.e (j := 127) rfl) ?_
      go_upto_region 12 with fail
      refine wp_region_lit ?_
      refine q101.t (.int .i64 ((j : Nat) : Int)) (ex_move rfl (q101.e (j := 126) rfl)) fun _ q102 => ?_;clear q101
      refine q102.t (.int .u32 (t.l.getD j 0)) (ex_index9 rfl (q102.e (j := 125) rfl) (q102.e (j := 126) rfl) (idx8 t j hit _)) fun _ q103 => ?_;clear q102
      refine q103.t (.int .i64 ((j : Nat) : Int)) (ex_assign rfl (q103.e (j := 128) rfl)) fun _ q104 => ?_;clear q103
      refine q104.t (.int .u32 (t.l.getD j 0)) (ex_assign rfl (q104.e (j := 129) rfl)) fun _ q105 => ?_;clear q104
      have q106 := ((((((Rp.nil q105.z).cons (q105.a 0 rfl)).cons (q105.a 17 rfl)).cons (q105.a 18 rfl)).cons (q105.a 125 rfl)).cons (q105.a 126 rfl))
      clear q105
      refine wpList_nil ?_
      go_upto_region 13 with fail
      refine vg_start (fun k => k == 9) (fun v => v = wr.drew) (by kernel_rfl) ?_
      have he : Below wr.heap.size wr wr.drew := (Below.refl _ _).drew
      have hze : wr.drew.heap.size = wr.heap.size := rfl
      generalize wr.drew = e at *
      have Be := Bq.later he
      have hal := adN_len s t j
      have cj := (Be.cell (1 + j)).trans (hC_w hal hit)
      refine vg_takeW 0 true (.pointer (some ⟨q, 1, none⟩)) rfl (by kernel_rfl) (by kernel_rfl) (by kernel_rfl) (by kernel_rfl) (want_none rfl) (fun hc v => ex_move rfl (q106.e (j := 0) rfl)) rfl q106.z (by decide) (fun _ => rfl) (q106.k fun _ q107 => ?_);clear q106
      refine vg_takeW 1 true (.int .i64 ((j : Nat) : Int)) rfl (by kernel_rfl) (by kernel_rfl) (by kernel_rfl) (by kernel_rfl) (want_none rfl) (fun hc v => ex_move rfl (q107.e (j := 17) rfl)) rfl q107.z (by decide) (fun _ => rfl) (q107.k fun _ q108 => ?_);clear q107
      refine vg_takeW 2 true (.pointer (some ⟨q, 1, none⟩)) rfl (by kernel_rfl) (by kernel_rfl) (by kernel_rfl) (by kernel_rfl) (want_none rfl) (fun hc v => ex_nil rfl (q108.e (j := 130) rfl)) rfl q108.z (by decide) (fun _ => rfl) (q108.k fun _ q109 => ?_);clear q108
      refine vg_takeW 3 true (.pointer (some ⟨q, (1 + j), none⟩)) rfl (by kernel_rfl) (by kernel_rfl) (by kernel_rfl) (by kernel_rfl) (want_none rfl) (fun hc v => ex_ix rfl (q109.e (j := 132) rfl) (q109.e (j := 131) rfl) (ixA q 1 j 8 110 103 Try.underlying110 i1u hit _)) rfl q109.z (by decide) (fun _ => rfl) (q109.k fun _ q110 => ?_);clear q109
      refine vg_take 4 true (.int .u32 ((adN s t j).getD j 0)) rfl (by kernel_rfl) (by kernel_rfl) (by kernel_rfl) (by kernel_rfl) (by kernel_rfl) (by kernel_rfl) (want_none rfl) (fun hc v hv => by subst hv; exact ex_ld rfl (q110.e (j := 133) rfl) (ldU cj)) rfl q110.z (by decide) rfl (q110.k fun _ q111 => ?_);clear q110
      refine vg_takeW 5 true (.int .u32 (t.l.getD j 0)) rfl (by kernel_rfl) (by kernel_rfl) (by kernel_rfl) (by kernel_rfl) (want_none rfl) (fun hc v => ex_move rfl (q111.e (j := 18) rfl)) rfl q111.z (by decide) (fun _ => rfl) (q111.k fun _ q112 => ?_);clear q111
      refine vg_takeW 6 true (.int .u32 (ad ((adN s t j).getD j 0) (t.l.getD j 0))) rfl (by kernel_rfl) (by kernel_rfl) (by kernel_rfl) (by kernel_rfl) (want_none rfl) (fun hc v => ex_bin rfl (q112.e (j := 134) rfl) (q112.e (j := 135) rfl) (addU _ _ _ _ _)) rfl q112.z (by decide) (fun _ => rfl) (q112.k fun _ q113 => ?_);clear q112
      refine vg_takeW 7 true (.pointer (some ⟨q, 1, none⟩)) rfl (by kernel_rfl) (by kernel_rfl) (by kernel_rfl) (by kernel_rfl) (want_none rfl) (fun hc v => ex_nil rfl (q113.e (j := 130) rfl)) rfl q113.z (by decide) (fun _ => rfl) (q113.k fun _ q114 => ?_);clear q113
      refine vg_takeW 8 true (.pointer (some ⟨q, (1 + j), none⟩)) rfl (by kernel_rfl) (by kernel_rfl) (by kernel_rfl) (by kernel_rfl) (want_none rfl) (fun hc v => ex_ix rfl (q114.e (j := 137) rfl) (q114.e (j := 131) rfl) (ixA q 1 j 8 110 103 Try.underlying110 i1u hit _)) rfl q114.z (by decide) (fun _ => rfl) (q114.k fun _ q115 => ?_);clear q114
      obtain ⟨d2, hd2⟩ : ∃ z, z = e.setCell ⟨q, 1 + j, none⟩ (.int .u32 (ad ((adN s t j).getD j 0) (t.l.getD j 0))) := ⟨_, rfl⟩
      refine vg_store 9 d2 rfl (by kernel_rfl) (by kernel_rfl) (want_none rfl) (ex_st rfl (q115.e (j := 138) rfl) (q115.e (j := 136) rfl) (by rw [hd2]; exact stU cj (Be.free _))) rfl ?_
      have Bf : BB d2 q 113 (hC m (adN s t (j + 1)) R n) := by
        have := Be.set1 (1 + j) (.int .u32 (ad ((adN s t j).getD j 0) (t.l.getD j 0)))
        rw [hC_setw hal hit] at this
        rw [hd2]
        exact this
      have uf : Upd (fun k => k = q) w d2 := (uw.trans18 (Upd.of_below he) (fun _ _ h => h)).trans18 (by rw [hd2]; exact upd1 _ _ _ _) (fun _ _ h => h)
      clear hd2
      refine vg_done (by kernel_rfl) ?_
      have q116 := ((((Rp.nil q115.z).cons (q115.a 0 rfl)).cons (q115.a 125 rfl)).cons (q115.a 126 rfl))
      clear q115
      go_upto_region 14 with fail
      refine wp_region_lit ?_
      refine q116.t (.int .i64 ((j + 1 : Nat) : Int)) (ex_bin rfl (q116.e (j := 126) rfl) rfl (add1C _ _ j (by omega) _)) fun _ q117 => ?_;clear q116
      refine q117.t (.int .i64 ((j + 1 : Nat) : Int)) (ex_move rfl (q117.e (j := 139) rfl)) fun _ q118 => ?_;clear q117
      have q119 := ((((Rp.nil q118.z).cons (q118.a 0 rfl)).cons (q118.a 125 rfl)).cons (q118.a 126 rfl))
      clear q118
      refine wpList_nil ?_
      exact ⟨_, rfl, hit, q119, Bf, uf⟩
    · obtain rfl : j = 8 := by omega
      go_upto_region 11 with fail
      refine wp_region_lit ?_
      refine q100.t (.bool false) (ex_bin rfl (q100.e (j := 126) rfl) rfl (ltF _ _ hit _)) fun _ q101 => ?_;clear q100
      refine wpList_nil ?_
      subst ht
      rw [adN_8] at Bq
      go_upto_if 127 with fail
      refine wp_cond_false (q101.e (j := 127) rfl) ?_
      go_wp2
      go_end0
      exact ⟨rfl, Bq, uw⟩
set_option maxRecDepth 100000 in
set_option maxHeartbeats 2000000 in
theorem hash_any (q : Nat) (m : Bool) (s : St) (R : List Int) (n : Int) (w : World) (hB : BB w q 113 (hC m s.l R n)) :
    Calls Try.prog 95 #[.pointer (some ⟨q, 1, none⟩)] w fun e w' => e = .returned (.agg ((outB s).map bV).toArray) ∧ Below w.heap.size w w' := by
  go_enter Try.func95, Try.ntmps95
  go_upto_region 0 with fail
  refine wp_region_lit ?_
  refine vl_gen (fun T => Rp T 24 [(0, gw true (.pointer (some ⟨q, 1, none⟩)))]) ((Rp.nil rfl).cons rfl) (fun Z0 q0 => ?_)
  obtain ⟨w1, hw1⟩ : ∃ y, y = w.alloc (.cells ((List.replicate 32 (0 : Int)).map bV).toArray 24) := ⟨_, rfl⟩
  refine vw (.pointer (some ⟨w.heap.size, 0, none⟩)) w1 (want_none rfl) (ex_al rfl (by rw [hw1]; exact alH _)) rfl q0.z (by decide) (q0.k fun _ q1 => ?_);clear q0
  have Bw1 : BB w1 w.heap.size 24 ((List.replicate 32 (0 : Int)).map bV) := by rw [hw1]; exact BB.new _ _ _
  have bw1 : Below w.heap.size w w1 := by rw [hw1]; exact (Below.refl _ _).alloc (Nat.le_refl _) _
  have zw1 : w1.heap.size = w.heap.size + 1 := by rw [hw1]; exact World.size_alloc _ _
  clear hw1
  refine wpList_nil ?_
  go_upto_region 1 with fail
  refine wp_region_lit ?_
  obtain ⟨w2, hw2⟩ : ∃ y, y = w1.alloc (.cells ((List.replicate 32 (0 : Int)).map bV).toArray 24) := ⟨_, rfl⟩
  refine vw (.pointer (some ⟨w1.heap.size, 0, none⟩)) w2 (want_none rfl) (ex_al rfl (by rw [hw2]; exact alH _)) rfl q1.z (by decide) (q1.k fun _ q2 => ?_);clear q1
  have Bw2 : BB w2 w1.heap.size 24 ((List.replicate 32 (0 : Int)).map bV) := by rw [hw2]; exact BB.new _ _ _
  have bw2 : Below w1.heap.size w1 w2 := by rw [hw2]; exact (Below.refl _ _).alloc (Nat.le_refl _) _
  have zw2 : w2.heap.size = w1.heap.size + 1 := by rw [hw2]; exact World.size_alloc _ _
  clear hw2
  refine wpList_nil ?_
  go_upto_region 2 with fail
  refine wp_region_lit ?_
  refine q2.t (.int .i64 ((0 : Nat) : Int)) (ex_move rfl rfl) fun _ q3 => ?_;clear q2
  have q4 := (((((Rp.nil q3.z).cons (q3.a 0 rfl)).cons (q3.a 2 rfl)).cons (q3.a 3 rfl)).cons (q3.a 5 rfl))
  clear q3
  refine wpList_nil ?_
  go_upto_region 3 with fail
  have Bq2 := Bw1.later bw2
  have bw : Below w.heap.size w w2 := bw1.trans (bw2.mono (by omega))
  have hql := hB.lt
  refine v_loop 5 32 (fun j T wr => Rp T 24 [(5, gw true (.int .i64 ((j : Nat) : Int))), (3, gw true (.pointer (some ⟨w1.heap.size, 0, none⟩))), (2, gw true (.pointer (some ⟨w.heap.size, 0, none⟩))), (0, gw true (.pointer (some ⟨q, 1, none⟩)))] ∧ Hid (BB wr w1.heap.size 24 ((oS s j).map bV) ∧ BB wr w.heap.size 24 ((List.replicate 32 (0 : Int)).map bV) ∧ Below w.heap.size w wr)) (fun j T w h => h.1.a 5 rfl) ⟨q4, Bw2, Bq2, bw⟩ ?_
  clear q4 Bw2 Bq2
  intro j T wr hj hh
  obtain ⟨q100, HJ⟩ := hh
  obtain ⟨B3, B2, br⟩ := HJ.out
  clear HJ
  have zr := br.size
  by_cases hit : j < 32
  · have Bq := hB.later br
    have hl := oS_len s j
    have cj := B3.v9 (j := j) (by omega)
    have h4 : j / 4 < 8 := by omega
    go_upto_region 3 with fail
    refine wp_region_lit ?_
    refine q100.t (.bool true) (ex_bin rfl (q100.e (j := 5) rfl) rfl (ltT _ _ hit _)) fun _ q101 => ?_;clear q100
    refine wpList_nil ?_
    go_upto_region 4 with fail
    refine wp_cond_true (q101.e (j := 6) rfl) ?_
    go_upto_region 4 with fail
    refine wp_region_lit ?_
    refine q101.t (.int .i64 ((j : Nat) : Int)) (ex_move rfl (q101.e (j := 5) rfl)) fun _ q102 => ?_;clear q101
    refine q102.t (.int .i64 ((j : Nat) : Int)) (ex_assign rfl (q102.e (j := 7) rfl)) fun _ q103 => ?_;clear q102
    refine wpList_nil ?_
    go_upto_region 5 with fail
    refine wp_region_lit ?_
    refine q103.t (.int .i64 ((j : Nat) : Int)) (ex_move rfl (q103.e (j := 4) rfl)) fun _ q104 => ?_;clear q103
    refine q104.t (.pointer (some ⟨q, 1, none⟩)) (ex_move rfl (q104.e (j := 0) rfl)) fun _ q105 => ?_;clear q104
    refine q105.t (.int .i64 ((j : Nat) : Int)) (ex_move rfl (q105.e (j := 4) rfl)) fun _ q106 => ?_;clear q105
    refine q106.t (.int .i64 ((j / 4 : Nat) : Int)) (ex_bin rfl (q106.e (j := 10) rfl) rfl (quoC _ _ j 4 (by decide) (by omega) _)) fun _ q107 => ?_;clear q106
    refine q107.t (.pointer (some ⟨q, 1, none⟩)) (ex_nil rfl (q107.e (j := 9) rfl)) fun _ q108 => ?_;clear q107
    refine q108.t (.pointer (some ⟨q, (1 + j / 4), none⟩)) (ex_ix rfl (q108.e (j := 12) rfl) (q108.e (j := 11) rfl) (ixA q 1 (j / 4) 8 110 103 Try.underlying110 i1u h4 _)) fun _ q109 => ?_;clear q108
    refine q109.t (.int .u32 (s.l.getD (j / 4) 0)) (ex_ld rfl (q109.e (j := 13) rfl) (ldU ((Bq.cell (1 + j / 4)).trans (hC_w rfl h4)))) fun _ q110 => ?_;clear q109
    refine q110.t (.int .i64 ((j : Nat) : Int)) (ex_move rfl (q110.e (j := 4) rfl)) fun _ q111 => ?_;clear q110
    refine q111.t (.int .i64 ((j % 4 : Nat) : Int)) (ex_bin rfl (q111.e (j := 15) rfl) rfl (remC _ _ j 4 (by decide) (by omega) _)) fun _ q112 => ?_;clear q111
    refine q112.t (.int .i64 ((8 * (j % 4) : Nat) : Int)) (ex_bin rfl rfl (q112.e (j := 16) rfl) (mulC9 _ _ 8 (j % 4) (by omega) _)) fun _ q113 => ?_;clear q112
    refine q113.t (.int .i64 ((24 - 8 * (j % 4) : Nat) : Int)) (ex_bin rfl rfl (q113.e (j := 17) rfl) (subC9 _ _ 24 (8 * (j % 4)) (by omega) (by omega) _)) fun _ q114 => ?_;clear q113
    refine q114.t (.int .u32 (s.l.getD (j / 4) 0 / 2 ^ (24 - 8 * (j % 4)))) (ex_bin rfl (q114.e (j := 14) rfl) (q114.e (j := 18) rfl) (shrUi64 _ _ _ (24 - 8 * (j % 4)) (by omega) _)) fun _ q115 => ?_;clear q114
    refine q115.t (.int .u8 (IntKind.u8.wrap (s.l.getD (j / 4) 0 / 2 ^ (24 - 8 * (j % 4))))) (ex_cv19 rfl (q115.e (j := 19) rfl) (cv32_8 _ _)) fun _ q116 => ?_;clear q115
    refine q116.t (.pointer (some ⟨w1.heap.size, j, none⟩)) (ex_ix rfl (q116.e (j := 3) rfl) (q116.e (j := 8) rfl) (ixA0 w1.heap.size j 32 24 5 Try.underlying24 i1b hit _)) fun _ q117 => ?_;clear q116
    obtain ⟨d2, hd2⟩ : ∃ z, z = wr.setCell ⟨w1.heap.size, j, none⟩ (.int .u8 (IntKind.u8.wrap (s.l.getD (j / 4) 0 / 2 ^ (24 - 8 * (j % 4))))) := ⟨_, rfl⟩
    refine vs d2 (want_none rfl) (ex_st rfl (q117.e (j := 21) rfl) (q117.e (j := 20) rfl) (by rw [hd2]; exact st8 cj (B3.free _))) rfl ?_
    have B3e : BB d2 w1.heap.size 24 ((oS s (j + 1)).map bV) := by rw [hd2]; exact B3.setv _ _
    have ue : Upd (fun k => k = w1.heap.size) wr d2 := by rw [hd2]; exact upd1 _ _ _ _
    have B2e := B2.upd ue (by omega)
    have be : Below w.heap.size w d2 := br.trans (bel_ge ue (by omega) (by omega))
    clear hd2
    have q118 := (((((Rp.nil q117.z).cons (q117.a 0 rfl)).cons (q117.a 2 rfl)).cons (q117.a 3 rfl)).cons (q117.a 5 rfl))
    clear q117
    refine wpList_nil ?_
    go_upto_region 6 with fail
    refine wp_region_lit ?_
    refine q118.t (.int .i64 ((j + 1 : Nat) : Int)) (ex_bin rfl (q118.e (j := 5) rfl) rfl (add1C _ _ j (by omega) _)) fun _ q119 => ?_;clear q118
    refine q119.t (.int .i64 ((j + 1 : Nat) : Int)) (ex_move rfl (q119.e (j := 22) rfl)) fun _ q120 => ?_;clear q119
    have q121 := (((((Rp.nil q120.z).cons (q120.a 0 rfl)).cons (q120.a 2 rfl)).cons (q120.a 3 rfl)).cons (q120.a 5 rfl))
    clear q120
    refine wpList_nil ?_
    exact ⟨_, rfl, hit, q121, B3e, B2e, be⟩
  · obtain rfl : j = 32 := by omega
    rw [oS_32] at B3
    go_upto_region 3 with fail
    refine wp_region_lit ?_
    refine q100.t (.bool false) (ex_bin rfl (q100.e (j := 5) rfl) rfl (ltF _ _ hit _)) fun _ q101 => ?_;clear q100
    refine wpList_nil ?_
    go_upto_region 7 with fail
    refine wp_cond_false (q101.e (j := 6) rfl) ?_
    go_upto_region 7 with fail
    refine wp_region_lit ?_
    have hm : ((outB s).map bV).length = 32 := by rw [len_bV]; rfl
    refine q101.t (.agg ((outB s).map bV).toArray) (ex_ld rfl (q101.e (j := 3) rfl) (B3.ld 24 Try.underlying24 rfl (by rw [hm]; exact i32h))) fun _ q102 => ?_;clear q101
    obtain ⟨w9, hw9⟩ : ∃ y, y = wr.setCells w.heap.size 0 ((outB s).map bV) := ⟨_, rfl⟩
    refine vs w9 (want_none rfl) (ex_st rfl (q102.e (j := 2) rfl) (q102.e (j := 23) rfl) (by rw [hw9]; exact B2.st 24 _ (by rw [hm]; rfl) (by rw [List.size_toArray, hm]; exact i32h) (one_b _))) rfl ?_
    have B9 : BB w9 w.heap.size 24 ((outB s).map bV) := by rw [hw9]; exact B2.whole _ (by rw [hm]; rfl)
    have b9 : Below w.heap.size w w9 := by rw [hw9]; exact br.trans (bel_ge (upd18 _ _ _ _) br.size (Nat.le_refl _))
    clear hw9
    refine wpList_nil ?_
    go_wp2
    exact B9.res rfl (q102.a 2 rfl) Try.underlying24 rfl (by rw [hm]; exact i32h) ⟨rfl, b9⟩

end Go.Proofs.Ytomiifnhcojilaa
