import Derived.Test.YtjkleldoeojbbaaGKw
namespace Go.Proofs.Ytjkleldoeojbbaa
open Go.RowKit Go.Maps
open Classical
set_option linter.unusedVariables false
set_option linter.unusedSimpArgs false

theorem size_setCells18 (q : Nat) : ∀ (vs : List Value) (o : Nat) (w : World), (w.setCells q o vs).heap.size = w.heap.size
  | [], o, w => rfl
  | v :: r, o, w => by
    rw [World.setCells, size_setCells18 q r]
    simp [World.setCell]
def kW : Kl := ⟨0, 1, ⟨1, 7, ⟨#[97]⟩⟩, 0, 5, (1, 7, ⟨#[97]⟩)⟩
def kR : Kl := ⟨1, 1, ⟨3, 7, ⟨#[]⟩⟩, 2, 3, (5, 7, ⟨#[]⟩)⟩
def kR2 : Kl := ⟨1, 1, ⟨3, 7, ⟨#[]⟩⟩, 6, 7, (5, 7, ⟨#[]⟩)⟩
theorem fitW : kW.fits := ⟨by decide, by decide, ⟨by decide, by decide, by decide⟩, by decide, by decide, by decide⟩
theorem fitR : kR.fits := ⟨by decide, by decide, ⟨by decide, by decide, by decide⟩, by decide, by decide, by decide⟩
theorem fitR2 : kR2.fits := ⟨by decide, by decide, ⟨by decide, by decide, by decide⟩, by decide, by decide, by decide⟩
theorem wk1 : srE [kW, kR] = 0 := by decide
theorem wk2 : srA [kW, kR] = some [1, 0] := by decide
theorem wk3 : hld [kW, kR] [0, 1] = (1, 0) := by decide
theorem wk4 : srE [kW, kR2] = 0 := by decide
theorem wk5 : srA [kW, kR2] = none := by decide
theorem bdo1 (w : World) : (Instr.build 62 #[(0, .int .i64 1), (1, .int .i64 7), (2, .string ⟨#[97]⟩)]).run Try.prog w = .ok (.agg #[.int .i64 1, .int .i64 7, .string ⟨#[97]⟩]) w := by go_simp
theorem bdr1 (w : World) : (Instr.build 64 #[(0, .int .i64 1), (1, .int .i64 7), (2, .string ⟨#[97]⟩)]).run Try.prog w = .ok (.agg #[.int .i64 1, .int .i64 7, .string ⟨#[97]⟩]) w := by go_simp
theorem bdo2 (w : World) : (Instr.build 62 #[(0, .int .i64 3), (1, .int .i64 7)]).run Try.prog w = .ok (.agg #[.int .i64 3, .int .i64 7, .string ⟨#[]⟩]) w := by go_simp
theorem bdr2 (w : World) : (Instr.build 64 #[(0, .int .i64 5), (1, .int .i64 7)]).run Try.prog w = .ok (.agg #[.int .i64 5, .int .i64 7, .string ⟨#[]⟩]) w := by go_simp
theorem bdk (c n k s b e r1 r2 : Int) (v r3 : ByteArray) (w : World) : (Instr.build 66 #[(0, .int .i64 c), (1, .int .i64 n), (2, .agg #[.int .i64 k, .int .i64 s, .string v]), (3, .int .i64 b), (4, .int .i64 e), (5, .agg #[.int .i64 r1, .int .i64 r2, .string r3])]).run Try.prog w = .ok (⟨c, n, ⟨k, s, v⟩, b, e, (r1, r2, r3)⟩ : Kl).val w := by
  unfold Kl.val
  go_simp
theorem bs2K (x y : Kl) (w : World) : (Instr.buildSlice 24 2 #[(0, x.val), (1, y.val)]).run Try.prog w = .ok (.slice (some ⟨w.heap.size, 0, none⟩) 2 2) (w.alloc (.cells (fl yK [x, y]).toArray 66)) := by
  unfold Kl.val
  simp only [fl, yK, Kl.cs]
  go_simp
theorem bs2N (x y : Int) (w : World) : (Instr.buildSlice 50 2 #[(0, .int .i64 x), (1, .int .i64 y)]).run Try.prog w = .ok (.slice (some ⟨w.heap.size, 0, none⟩) 2 2) (w.alloc (.cells (fl yN [x, y]).toArray 3)) := by
  simp only [fl, yN]
  go_simp
theorem ex_bs2 {o : Oper} {ρ : Operand → Value} {s : TypeId} {x y : Operand} {X Y V : Value} {w w' : World} (ho : o.op = .buildSlice s 2 #[(0, x), (1, y)]) (hx : ρ x = X) (hy : ρ y = Y) (hr : (Instr.buildSlice s 2 #[(0, X), (1, Y)]).run Try.prog w = .ok V w') : (execOp ρ o).run Try.prog w = .ok (.value V) w' := by
  unfold execOp
  simp only [ho, List.map_toArray, List.map_cons, List.map_nil, hx, hy, Sem.run_bind, hr, Result.andThen_ok]
  rfl
theorem stI18 {w : World} {q j : Nat} {u : Value} {b : Int} (h : w.cell? ⟨q, j, none⟩ = some u) (hf : w.frozen? ⟨q, j, none⟩ = false) : (Instr.storeAt 3 (.pointer (some ⟨q, j, none⟩)) (.int .i64 b)).run Try.prog w = .ok () (w.setCell ⟨q, j, none⟩ (.int .i64 b)) := by go_simp
theorem faK4 (q : Nat) (w : World) : (Instr.fieldAt 66 (.pointer (some ⟨q, 0, none⟩)) 4).run Try.prog w = .ok (.pointer (some ⟨q, 6, none⟩)) w := by go_simp
theorem eqlE18 (x y : Operand) (a b : Int) (w : World) : (do eqGuard .eql 25 x y (.int .i64 a) (.int .i64 b); binOp .eql 25 (.int .i64 a) (.int .i64 b) : Sem Value).run Try.prog w = .ok (.bool (decide (a = b))) w := by
  go_simp
  by_cases h : a = b <;> simp [h]
theorem wantT18 {ops : Array Oper} {T : Array Value} {o : Oper} {k j : Nat} (hg : o.guard = some (k, true)) (hk : (ops[k]?).bind (·.dst) = some j) (hs : T[j]? = some (gw true (.bool true))) : Region.wanted o (yielded ops T) = true := want_g hg hk hs
set_option maxRecDepth 100000 in
set_option maxHeartbeats 2000000 in
theorem works18_any (w : World) : Calls Try.prog 14 #[] w fun e w' => e = .returned (.bool true) ∧ Below w.heap.size w w' := by
  go_enter Try.func14, Try.ntmps14
  go_upto_region 0 with fail
  refine wp_region_lit ?_
  refine vl_gen (fun T => Rp T 81 []) (Rp.nil rfl) (fun Z0 q0 => ?_)
  refine q0.t (.bool false) (ex_assign rfl rfl) fun _ q1 => ?_;clear q0
  refine wpList_nil ?_
  go_upto_region 1 with fail
  refine wp_region_lit ?_
  refine q1.t (.agg #[.int .i64 1, .int .i64 7, .string ⟨#[97]⟩]) (ex_buildP18 rfl (by simp only [List.map_toArray, List.map_cons, List.map_nil, evc] <;> rfl) (bdo1 _)) fun _ q2 => ?_;clear q1
  refine q2.t (.agg #[.int .i64 1, .int .i64 7, .string ⟨#[97]⟩]) (ex_buildP18 rfl (by simp only [List.map_toArray, List.map_cons, List.map_nil, evc] <;> rfl) (bdr1 _)) fun _ q3 => ?_;clear q2
  refine q3.t (kW.val) (ex_buildP18 rfl (by simp only [List.map_toArray, List.map_cons, List.map_nil, evc, q3.e (j := 11) rfl, q3.e (j := 12) rfl] <;> rfl) (bdk 0 1 1 7 0 5 1 7 ⟨#[97]⟩ ⟨#[97]⟩ _)) fun _ q4 => ?_;clear q3
  obtain ⟨w1, hw1⟩ : ∃ y, y = w.alloc (.cells zK.cs.toArray 66) := ⟨_, rfl⟩
  refine vw (.pointer (some ⟨w.heap.size, 0, none⟩)) w1 (want_none rfl) (ex_al rfl (by rw [hw1]; exact alK _)) rfl q4.z (by decide) (q4.k fun _ q5 => ?_);clear q4
  have Bz : BB w1 w.heap.size 66 zK.cs := by rw [hw1]; exact BB.new _ _ _
  have bw1 : Below w.heap.size w w1 := by rw [hw1]; exact (Below.refl _ _).alloc (Nat.le_refl _) _
  have zw1 : w1.heap.size = w.heap.size + 1 := by rw [hw1]; simp
  clear hw1
  obtain ⟨w1b, hw1b⟩ : ∃ y, y = w1.setCells w.heap.size 0 kW.cs := ⟨_, rfl⟩
  refine vs w1b (want_none rfl) (ex_st rfl (q5.e (j := 1) rfl) (q5.e (j := 13) rfl) (by rw [hw1b]; exact Bz.stK (x := kW))) rfl ?_
  have BW : BB w1b w.heap.size 66 kW.cs := by rw [hw1b]; exact Bz.whole _ rfl
  have bw1b : Below w.heap.size w w1b := by rw [hw1b]; exact bw1.trans (bel_ge (upd18 _ _ _ _) bw1.size (Nat.le_refl _))
  have zw1b : w1b.heap.size = w.heap.size + 1 := by rw [hw1b]; have := (upd18 w.heap.size kW.cs 0 w1); rw [← zw1]; exact size_setCells18 _ _ _ _
  clear hw1b Bz bw1
  have q6 := ((Rp.nil q5.z).cons (q5.a 1 rfl))
  clear q5
  refine wpList_nil ?_
  go_upto_region 2 with fail
  refine wp_region_lit ?_
  refine q6.t (.agg #[.int .i64 3, .int .i64 7, .string ⟨#[]⟩]) (ex_buildP18 rfl (by simp only [List.map_toArray, List.map_cons, List.map_nil, evc] <;> rfl) (bdo2 _)) fun _ q7 => ?_;clear q6
  refine q7.t (.agg #[.int .i64 5, .int .i64 7, .string ⟨#[]⟩]) (ex_buildP18 rfl (by simp only [List.map_toArray, List.map_cons, List.map_nil, evc] <;> rfl) (bdr2 _)) fun _ q8 => ?_;clear q7
  refine q8.t (kR.val) (ex_buildP18 rfl (by simp only [List.map_toArray, List.map_cons, List.map_nil, evc, q8.e (j := 14) rfl, q8.e (j := 15) rfl] <;> rfl) (bdk 1 1 3 7 2 3 5 7 ⟨#[]⟩ ⟨#[]⟩ _)) fun _ q9 => ?_;clear q8
  obtain ⟨w2, hw2⟩ : ∃ y, y = w1b.alloc (.cells zK.cs.toArray 66) := ⟨_, rfl⟩
  refine vw (.pointer (some ⟨w1b.heap.size, 0, none⟩)) w2 (want_none rfl) (ex_al rfl (by rw [hw2]; exact alK _)) rfl q9.z (by decide) (q9.k fun _ q10 => ?_);clear q9
  have Bz : BB w2 w1b.heap.size 66 zK.cs := by rw [hw2]; exact BB.new _ _ _
  have bw2 : Below w1b.heap.size w1b w2 := by rw [hw2]; exact (Below.refl _ _).alloc (Nat.le_refl _) _
  have zw2 : w2.heap.size = w1b.heap.size + 1 := by rw [hw2]; simp
  clear hw2
  obtain ⟨w2b, hw2b⟩ : ∃ y, y = w2.setCells w1b.heap.size 0 kR.cs := ⟨_, rfl⟩
  refine vs w2b (want_none rfl) (ex_st rfl (q10.e (j := 2) rfl) (q10.e (j := 16) rfl) (by rw [hw2b]; exact Bz.stK (x := kR))) rfl ?_
  have BR : BB w2b w1b.heap.size 66 kR.cs := by rw [hw2b]; exact Bz.whole _ rfl
  have bw2b : Below w1b.heap.size w1b w2b := by rw [hw2b]; exact bw2.trans (bel_ge (upd18 _ _ _ _) bw2.size (Nat.le_refl _))
  have zw2b : w2b.heap.size = w1b.heap.size + 1 := by rw [hw2b]; have := (upd18 w1b.heap.size kR.cs 0 w2); rw [← zw2]; exact size_setCells18 _ _ _ _
  clear hw2b Bz bw2
  replace BW := BW.later bw2b
  have c2 : Below w.heap.size w w2b := bw1b.trans (bw2b.mono (by omega))
  have q11 := (((Rp.nil q10.z).cons (q10.a 1 rfl)).cons (q10.a 2 rfl))
  clear q10
  refine wpList_nil ?_
  go_upto_region 3 with fail
  refine wp_region_lit ?_
  refine q11.t (kW.val) (ex_ld rfl (q11.e (j := 1) rfl) BW.ldK) fun _ q12 => ?_;clear q11
  refine q12.t (kR.val) (ex_ld rfl (q12.e (j := 2) rfl) BR.ldK) fun _ q13 => ?_;clear q12
  obtain ⟨x1, hx1⟩ : ∃ y, y = w2b.alloc (.cells (fl yK [kW, kR]).toArray 66) := ⟨_, rfl⟩
  refine vw (.slice (some ⟨w2b.heap.size, 0, none⟩) 2 2) x1 (want_none rfl) (ex_bs2 rfl (q13.e (j := 18) rfl) (q13.e (j := 19) rfl) (by rw [hx1]; exact bs2K _ _ _)) rfl q13.z (by decide) (q13.k fun _ q14 => ?_);clear q13
  have sx1 : SlY yK x1 (some ⟨w2b.heap.size, 0, none⟩) 2 2 [kW, kR] := by rw [hx1]; exact sl_lit kK w2b [kW, kR] 66 (by unfold maxLen; decide)
  have bx1 : Below w2b.heap.size w2b x1 := by rw [hx1]; exact (Below.refl _ _).alloc (Nat.le_refl _) _
  have zx1 := bx1.size
  clear hx1
  refine vcallP (want_none rfl) (ex_call rfl (by simp only [List.map_toArray, List.map_cons, List.map_nil, (q14.e (j := 20) rfl), evc] <;> rfl) rfl) (search18_any [kW, kR] _ 2 x1 sx1 (fun x hx => by rcases List.mem_cons.1 hx with rfl | hx; exact fitW; rcases List.mem_cons.1 hx with rfl | hx; exact fitR; cases hx)) rfl q14.z (by decide) ?_
  rintro e x2 ⟨v3, rfl, o3, bx2⟩
  refine ⟨_, rfl, q14.k fun _ q15 => ?_⟩;clear q14
  rw [wk2] at o3
  have zx2 := bx2.size
  refine q15.t (.tuple #[v3, .bool (srA [kW, kR]).isSome, .int .i64 (srE [kW, kR])]) (ex_move rfl (q15.e (j := 21) rfl)) fun _ q16 => ?_;clear q15
  refine q16.t (v3) (ex_ext18 rfl (q16.e (j := 17) rfl) rfl) fun _ q17 => ?_;clear q16
  refine q17.t (.bool true) (ex_ext18 rfl (q17.e (j := 17) rfl) (by rw [wk2]; rfl)) fun _ q18 => ?_;clear q17
  refine q18.t (.int .i64 0) (ex_ext18 rfl (q18.e (j := 17) rfl) (by rw [wk1]; rfl)) fun _ q19 => ?_;clear q18
  refine q19.t (v3) (ex_assign rfl (q19.e (j := 22) rfl)) fun _ q20 => ?_;clear q19
  refine q20.t (.bool true) (ex_assign rfl (q20.e (j := 23) rfl)) fun _ q21 => ?_;clear q20
  refine q21.t (.int .i64 0) (ex_assign rfl (q21.e (j := 24) rfl)) fun _ q22 => ?_;clear q21
  have c12 : Below w2b.heap.size w2b x2 := bx1.trans (bx2.mono (by omega))
  replace BW := BW.later c12
  replace BR := BR.later c12
  have q23 := ((((((Rp.nil q22.z).cons (q22.a 1 rfl)).cons (q22.a 2 rfl)).cons (q22.a 3 rfl)).cons (q22.a 4 rfl)).cons (q22.a 5 rfl))
  clear q22
  refine wpList_nil ?_
  go_upto_region 4 with fail
  refine wp_region_lit ?_
  refine q23.t (kW.val) (ex_ld rfl (q23.e (j := 1) rfl) BW.ldK) fun _ q24 => ?_;clear q23
  refine q24.t (kR.val) (ex_ld rfl (q24.e (j := 2) rfl) BR.ldK) fun _ q25 => ?_;clear q24
  obtain ⟨x3, hx3⟩ : ∃ y, y = x2.alloc (.cells (fl yK [kW, kR]).toArray 66) := ⟨_, rfl⟩
  refine vw (.slice (some ⟨x2.heap.size, 0, none⟩) 2 2) x3 (want_none rfl) (ex_bs2 rfl (q25.e (j := 26) rfl) (q25.e (j := 27) rfl) (by rw [hx3]; exact bs2K _ _ _)) rfl q25.z (by decide) (q25.k fun _ q26 => ?_);clear q25
  have sx3 : SlY yK x3 (some ⟨x2.heap.size, 0, none⟩) 2 2 [kW, kR] := by rw [hx3]; exact sl_lit kK x2 [kW, kR] 66 (by unfold maxLen; decide)
  have bx3 : Below x2.heap.size x2 x3 := by rw [hx3]; exact (Below.refl _ _).alloc (Nat.le_refl _) _
  have zx3 := bx3.size
  clear hx3
  obtain ⟨x4, hx4⟩ : ∃ y, y = x3.alloc (.cells (fl yN [0, 1]).toArray 3) := ⟨_, rfl⟩
  refine vw (.slice (some ⟨x3.heap.size, 0, none⟩) 2 2) x4 (want_none rfl) (ex_bs2 rfl rfl rfl (by rw [hx4]; exact bs2N 0 1 _)) rfl q26.z (by decide) (q26.k fun _ q27 => ?_);clear q26
  have sx4 : SlY yN x4 (some ⟨x3.heap.size, 0, none⟩) 2 2 [0, 1] := by rw [hx4]; exact sl_lit kN x3 [0, 1] 3 (by unfold maxLen; decide)
  have bx4 : Below x3.heap.size x3 x4 := by rw [hx4]; exact (Below.refl _ _).alloc (Nat.le_refl _) _
  have zx4 := bx4.size
  clear hx4
  refine vcallP (want_none rfl) (ex_call rfl (by simp only [List.map_toArray, List.map_cons, List.map_nil, (q27.e (j := 28) rfl), (q27.e (j := 29) rfl), evc] <;> rfl) rfl) (holds18_any [kW, kR] _ 2 [0, 1] _ 2 x4 (sx3.later bx4) sx4 (fun x hx => by rcases List.mem_cons.1 hx with rfl | hx; exact fitW; rcases List.mem_cons.1 hx with rfl | hx; exact fitR; cases hx) (by decide) (by decide)) rfl q27.z (by decide) ?_
  rintro e x5 ⟨rfl, bx5⟩
  refine ⟨_, rfl, q27.k fun _ q28 => ?_⟩;clear q27
  have zx5 := bx5.size
  refine q28.t (.tuple #[.int .i64 (hld [kW, kR] [0, 1]).1, .int .i64 (hld [kW, kR] [0, 1]).2]) (ex_move rfl (q28.e (j := 30) rfl)) fun _ q29 => ?_;clear q28
  refine q29.t (.int .i64 1) (ex_ext18 rfl (q29.e (j := 25) rfl) (by rw [wk3]; rfl)) fun _ q30 => ?_;clear q29
  refine q30.t (.int .i64 0) (ex_ext18 rfl (q30.e (j := 25) rfl) (by rw [wk3]; rfl)) fun _ q31 => ?_;clear q30
  refine q31.t (.int .i64 1) (ex_assign rfl (q31.e (j := 31) rfl)) fun _ q32 => ?_;clear q31
  refine q32.t (.int .i64 0) (ex_assign rfl (q32.e (j := 32) rfl)) fun _ q33 => ?_;clear q32
  have c25 : Below x2.heap.size x2 x5 := bx3.trans ((bx4.trans (bx5.mono (by omega))).mono (by omega))
  replace BW := BW.later c25
  replace BR := BR.later c25
  replace o3 := o3.grow c25
  have q34 := ((((((((Rp.nil q33.z).cons (q33.a 1 rfl)).cons (q33.a 2 rfl)).cons (q33.a 3 rfl)).cons (q33.a 4 rfl)).cons (q33.a 5 rfl)).cons (q33.a 6 rfl)).cons (q33.a 7 rfl))
  clear q33
  refine wpList_nil ?_
  go_upto_region 5 with fail
  refine wp_region_lit ?_
  refine q34.t (.pointer (some ⟨w1b.heap.size, 5, none⟩)) (ex_fa rfl (q34.e (j := 2) rfl) (faK3 _ _)) fun _ q35 => ?_;clear q34
  obtain ⟨x6, hx6⟩ : ∃ y, y = x5.setCell ⟨w1b.heap.size, 5, none⟩ (.int .i64 6) := ⟨_, rfl⟩
  refine vs x6 (want_none rfl) (ex_st rfl (q35.e (j := 33) rfl) rfl (by rw [hx6]; exact stI18 ((BR.cell 5).trans rfl) (BR.free 5))) rfl ?_
  have u6 : Upd (fun k => k = w1b.heap.size) x5 x6 := by rw [hx6]; exact (Upd.refl (fun k => k = w1b.heap.size) _).setCell (p := ⟨w1b.heap.size, 5, none⟩) (.inl rfl) _
  have BR6 := BR.set1 5 (.int .i64 6)
  rw [← hx6] at BR6
  clear hx6
  replace BW := BW.upd u6 (by omega)
  refine wpList_nil ?_
  go_upto_region 6 with fail
  refine wp_region_lit ?_
  refine q35.t (.pointer (some ⟨w1b.heap.size, 6, none⟩)) (ex_fa rfl (q35.e (j := 2) rfl) (faK4 _ _)) fun _ q36 => ?_;clear q35
  obtain ⟨x7, hx7⟩ : ∃ y, y = x6.setCell ⟨w1b.heap.size, 6, none⟩ (.int .i64 7) := ⟨_, rfl⟩
  refine vs x7 (want_none rfl) (ex_st rfl (q36.e (j := 34) rfl) rfl (by rw [hx7]; exact stI18 ((BR6.cell 6).trans rfl) (BR6.free 6))) rfl ?_
  have u7 : Upd (fun k => k = w1b.heap.size) x6 x7 := by rw [hx7]; exact (Upd.refl (fun k => k = w1b.heap.size) _).setCell (p := ⟨w1b.heap.size, 6, none⟩) (.inl rfl) _
  have BR7 := BR6.set1 6 (.int .i64 7)
  rw [← hx7] at BR7
  clear hx7 BR BR6
  have BR : BB x7 w1b.heap.size 66 kR2.cs := BR7
  replace BW := BW.upd u7 (by omega)
  have zx6 := u6.size
  have zx7 := u7.size
  have u67 := u6.trans u7
  have o7 : OwnY yN x1.heap.size x7 v3 (ints [1, 0]) := o3.upd1 u67 (fun g hg e => by have := (o3.blk g hg).1; omega)
  have c7 : Below w.heap.size w x7 := (c2.trans ((c12.trans (c25.mono (by omega))).mono (by omega))).trans (u67.below (by omega) (fun k hk => by omega))
  refine wpList_nil ?_
  go_upto_region 7 with fail
  refine wp_region_lit ?_
  refine q36.t (kW.val) (ex_ld rfl (q36.e (j := 1) rfl) BW.ldK) fun _ q37 => ?_;clear q36
  refine q37.t (kR2.val) (ex_ld rfl (q37.e (j := 2) rfl) BR.ldK) fun _ q38 => ?_;clear q37
  obtain ⟨x8, hx8⟩ : ∃ y, y = x7.alloc (.cells (fl yK [kW, kR2]).toArray 66) := ⟨_, rfl⟩
  refine vw (.slice (some ⟨x7.heap.size, 0, none⟩) 2 2) x8 (want_none rfl) (ex_bs2 rfl (q38.e (j := 36) rfl) (q38.e (j := 37) rfl) (by rw [hx8]; exact bs2K _ _ _)) rfl q38.z (by decide) (q38.k fun _ q39 => ?_);clear q38
  have sx8 : SlY yK x8 (some ⟨x7.heap.size, 0, none⟩) 2 2 [kW, kR2] := by rw [hx8]; exact sl_lit kK x7 [kW, kR2] 66 (by unfold maxLen; decide)
  have bx8 : Below x7.heap.size x7 x8 := by rw [hx8]; exact (Below.refl _ _).alloc (Nat.le_refl _) _
  have zx8 := bx8.size
  clear hx8
  refine vcallP (want_none rfl) (ex_call rfl (by simp only [List.map_toArray, List.map_cons, List.map_nil, (q39.e (j := 38) rfl), evc] <;> rfl) rfl) (search18_any [kW, kR2] _ 2 x8 sx8 (fun x hx => by rcases List.mem_cons.1 hx with rfl | hx; exact fitW; rcases List.mem_cons.1 hx with rfl | hx; exact fitR2; cases hx)) rfl q39.z (by decide) ?_
  rintro e x9 ⟨v8, rfl, o8, bx9⟩
  refine ⟨_, rfl, q39.k fun _ q40 => ?_⟩;clear q39
  have zx9 := bx9.size
  refine q40.t (.tuple #[v8, .bool (srA [kW, kR2]).isSome, .int .i64 (srE [kW, kR2])]) (ex_move rfl (q40.e (j := 39) rfl)) fun _ q41 => ?_;clear q40
  refine q41.t (v8) (ex_ext18 rfl (q41.e (j := 35) rfl) rfl) fun _ q42 => ?_;clear q41
  refine q42.t (.bool false) (ex_ext18 rfl (q42.e (j := 35) rfl) (by rw [wk5]; rfl)) fun _ q43 => ?_;clear q42
  refine q43.t (.int .i64 0) (ex_ext18 rfl (q43.e (j := 35) rfl) (by rw [wk4]; rfl)) fun _ q44 => ?_;clear q43
  refine q44.t (v8) (ex_assign rfl (q44.e (j := 40) rfl)) fun _ q45 => ?_;clear q44
  refine q45.t (.bool false) (ex_assign rfl (q45.e (j := 41) rfl)) fun _ q46 => ?_;clear q45
  refine q46.t (.int .i64 0) (ex_assign rfl (q46.e (j := 42) rfl)) fun _ q47 => ?_;clear q46
  have c79 : Below x7.heap.size x7 x9 := bx8.trans (bx9.mono (by omega))
  have o9 := o7.grow c79
  obtain ⟨a9, cc9, hv3, _, _, hn9, ha9⟩ := o9.form
  obtain ⟨g9, rfl⟩ : ∃ g9, a9 = some ⟨g9, 0, none⟩ := by
    cases a9 with
    | none => have := (hn9 rfl).1; simp [ints] at this
    | some z => obtain ⟨g, e, _⟩ := ha9 z rfl; exact ⟨g, by rw [e]⟩
  have hv32 : v3 = .slice (some ⟨g9, 0, none⟩) 2 cc9 := hv3
  clear hv3 hn9 ha9
  rw [hv32] at o9
  have d0 : x9.cell? ⟨g9, 0, none⟩ = some (.int .i64 1) := o9.nm rfl
  have d1 : x9.cell? ⟨g9, 1, none⟩ = some (.int .i64 0) := o9.nm rfl
  have q48 := ((((((((Rp.nil q47.z).cons (q47.a 3 rfl)).cons (q47.a 4 rfl)).cons (q47.a 5 rfl)).cons (q47.a 6 rfl)).cons (q47.a 7 rfl)).cons (q47.a 9 rfl)).cons (q47.a 10 rfl))
  clear q47
  refine wpList_nil ?_
  go_upto_region 8 with fail
  refine wp_region_lit ?_
  refine q48.t (.int .i64 0) (ex_move rfl (q48.e (j := 5) rfl)) fun _ q49 => ?_;clear q48
  refine q49.t (.bool true) (ex_bin rfl (q49.e (j := 43) rfl) rfl (eqlE18 _ _ 0 0 _)) fun _ q50 => ?_;clear q49
  refine q50.t (.bool true) (ex_move rfl (q50.e (j := 44) rfl)) fun _ q51 => ?_;clear q50
  refine vl (true) (.bool true) (wantT18 rfl rfl (q51.a 45 rfl)) (fun hc => ex_move rfl (q51.e (j := 4) rfl)) rfl q51.z (by decide) (q51.k fun _ q52 => ?_);clear q51
  refine q52.t (.bool true) (ex_and (c := true) (b := true) (z := true) rfl (q52.a 45 rfl) (q52.a 46 rfl) rfl) fun _ q53 => ?_;clear q52
  refine q53.t (.bool true) (ex_move rfl (q53.e (j := 47) rfl)) fun _ q54 => ?_;clear q53
  refine vl (true) (v3) (wantT18 rfl rfl (q54.a 48 rfl)) (fun hc => ex_move rfl (q54.e (j := 3) rfl)) rfl q54.z (by decide) (q54.k fun _ q55 => ?_);clear q54
  refine vl (true) (.int .i64 2) (wantT18 rfl rfl (q55.a 48 rfl)) (fun hc => (ex_lenN18 (n := 2) (a := some ⟨g9, 0, none⟩) (k := cc9) rfl rfl ((q55.e (j := 49) rfl).trans hv32))) rfl q55.z (by decide) (q55.k fun _ q56 => ?_);clear q55
  refine vl (true) (.bool true) (wantT18 rfl rfl (q56.a 48 rfl)) (fun hc => ex_bin rfl (q56.e (j := 50) rfl) rfl (eqlC _ _ 2 2 _)) rfl q56.z (by decide) (q56.k fun _ q57 => ?_);clear q56
  refine q57.t (.bool true) (ex_and (c := true) (b := true) (z := true) rfl (q57.a 48 rfl) (q57.a 51 rfl) rfl) fun _ q58 => ?_;clear q57
  refine q58.t (.bool true) (ex_move rfl (q58.e (j := 52) rfl)) fun _ q59 => ?_;clear q58
  refine vl (true) (v3) (wantT18 rfl rfl (q59.a 53 rfl)) (fun hc => ex_move rfl (q59.e (j := 3) rfl)) rfl q59.z (by decide) (q59.k fun _ q60 => ?_);clear q59
  refine vl (true) (.pointer (some ⟨g9, 0 + 0, none⟩)) (wantT18 rfl rfl (q60.a 53 rfl)) (fun hc => ex_ix rfl ((q60.e (j := 54) rfl).trans hv32) rfl (ixN18 g9 0 2 cc9 0 (by decide) _)) rfl q60.z (by decide) (q60.k fun _ q61 => ?_);clear q60
  refine vl (true) (.int .i64 1) (wantT18 rfl rfl (q61.a 53 rfl)) (fun hc => ex_ld rfl (q61.e (j := 55) rfl) (ldI18 d0)) rfl q61.z (by decide) (q61.k fun _ q62 => ?_);clear q61
  refine vl (true) (.bool true) (wantT18 rfl rfl (q62.a 53 rfl)) (fun hc => ex_bin rfl (q62.e (j := 56) rfl) rfl (eqlC _ _ 1 1 _)) rfl q62.z (by decide) (q62.k fun _ q63 => ?_);clear q62
  refine q63.t (.bool true) (ex_and (c := true) (b := true) (z := true) rfl (q63.a 53 rfl) (q63.a 57 rfl) rfl) fun _ q64 => ?_;clear q63
  refine q64.t (.bool true) (ex_move rfl (q64.e (j := 58) rfl)) fun _ q65 => ?_;clear q64
  refine vl (true) (v3) (wantT18 rfl rfl (q65.a 59 rfl)) (fun hc => ex_move rfl (q65.e (j := 3) rfl)) rfl q65.z (by decide) (q65.k fun _ q66 => ?_);clear q65
  refine vl (true) (.pointer (some ⟨g9, 0 + 1, none⟩)) (wantT18 rfl rfl (q66.a 59 rfl)) (fun hc => ex_ix rfl ((q66.e (j := 60) rfl).trans hv32) rfl (ixN18 g9 0 2 cc9 1 (by decide) _)) rfl q66.z (by decide) (q66.k fun _ q67 => ?_);clear q66
  refine vl (true) (.int .i64 0) (wantT18 rfl rfl (q67.a 59 rfl)) (fun hc => ex_ld rfl (q67.e (j := 61) rfl) (ldI18 d1)) rfl q67.z (by decide) (q67.k fun _ q68 => ?_);clear q67
  refine vl (true) (.bool true) (wantT18 rfl rfl (q68.a 59 rfl)) (fun hc => ex_bin rfl (q68.e (j := 62) rfl) rfl (eqlC _ _ 0 0 _)) rfl q68.z (by decide) (q68.k fun _ q69 => ?_);clear q68
  refine q69.t (.bool true) (ex_and (c := true) (b := true) (z := true) rfl (q69.a 59 rfl) (q69.a 63 rfl) rfl) fun _ q70 => ?_;clear q69
  refine q70.t (.bool true) (ex_move rfl (q70.e (j := 64) rfl)) fun _ q71 => ?_;clear q70
  refine vl (true) (.int .i64 0) (wantT18 rfl rfl (q71.a 65 rfl)) (fun hc => ex_move rfl (q71.e (j := 7) rfl)) rfl q71.z (by decide) (q71.k fun _ q72 => ?_);clear q71
  refine vl (true) (.bool true) (wantT18 rfl rfl (q72.a 65 rfl)) (fun hc => ex_bin rfl (q72.e (j := 66) rfl) rfl (eqlE18 _ _ 0 0 _)) rfl q72.z (by decide) (q72.k fun _ q73 => ?_);clear q72
  refine q73.t (.bool true) (ex_and (c := true) (b := true) (z := true) rfl (q73.a 65 rfl) (q73.a 67 rfl) rfl) fun _ q74 => ?_;clear q73
  refine q74.t (.bool true) (ex_move rfl (q74.e (j := 68) rfl)) fun _ q75 => ?_;clear q74
  refine vl (true) (.int .i64 1) (wantT18 rfl rfl (q75.a 69 rfl)) (fun hc => ex_move rfl (q75.e (j := 6) rfl)) rfl q75.z (by decide) (q75.k fun _ q76 => ?_);clear q75
  refine vl (true) (.bool true) (wantT18 rfl rfl (q76.a 69 rfl)) (fun hc => ex_bin rfl (q76.e (j := 70) rfl) rfl (eqlC _ _ 1 1 _)) rfl q76.z (by decide) (q76.k fun _ q77 => ?_);clear q76
  refine q77.t (.bool true) (ex_and (c := true) (b := true) (z := true) rfl (q77.a 69 rfl) (q77.a 71 rfl) rfl) fun _ q78 => ?_;clear q77
  refine q78.t (.bool true) (ex_move rfl (q78.e (j := 72) rfl)) fun _ q79 => ?_;clear q78
  refine vl (true) (.int .i64 0) (wantT18 rfl rfl (q79.a 73 rfl)) (fun hc => ex_move rfl (q79.e (j := 10) rfl)) rfl q79.z (by decide) (q79.k fun _ q80 => ?_);clear q79
  refine vl (true) (.bool true) (wantT18 rfl rfl (q80.a 73 rfl)) (fun hc => ex_bin rfl (q80.e (j := 74) rfl) rfl (eqlE18 _ _ 0 0 _)) rfl q80.z (by decide) (q80.k fun _ q81 => ?_);clear q80
  refine q81.t (.bool true) (ex_and (c := true) (b := true) (z := true) rfl (q81.a 73 rfl) (q81.a 75 rfl) rfl) fun _ q82 => ?_;clear q81
  refine q82.t (.bool true) (ex_move rfl (q82.e (j := 76) rfl)) fun _ q83 => ?_;clear q82
  refine vl (true) (.bool false) (wantT18 rfl rfl (q83.a 77 rfl)) (fun hc => ex_move rfl (q83.e (j := 9) rfl)) rfl q83.z (by decide) (q83.k fun _ q84 => ?_);clear q83
  refine vl (true) (.bool true) (wantT18 rfl rfl (q84.a 77 rfl)) (fun hc => ex_not rfl (q84.e (j := 78) rfl)) rfl q84.z (by decide) (q84.k fun _ q85 => ?_);clear q84
  refine q85.t (.bool true) (ex_and (c := true) (b := true) (z := true) rfl (q85.a 77 rfl) (q85.a 79 rfl) rfl) fun _ q86 => ?_;clear q85
  refine q86.t (.bool true) (ex_assign rfl (q86.e (j := 80) rfl)) fun _ q87 => ?_;clear q86
  refine wpList_nil ?_
  go_wp2
  refine bodyPost_ret (results_tmp rfl _ _ _) rfl ⟨?_, c7.trans (c79.mono (by have := c7.size; omega))⟩
  rw [getD_of (q87.a 0 rfl)]
  rfl

end Go.Proofs.Ytjkleldoeojbbaa
