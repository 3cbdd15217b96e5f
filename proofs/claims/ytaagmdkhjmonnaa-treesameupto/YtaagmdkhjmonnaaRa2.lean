import Derived.Test.YtaagmdkhjmonnaaRa1
namespace Go.Proofs.Ytaagmdkhjmonnaa
open Go.RowKit Go.Maps
open Classical
set_option linter.unusedVariables false
set_option linter.unusedSimpArgs false

theorem puW (a b c : Hs) : pu [a, b, c] 2 = [a, c] := by kernel_rfl
theorem hdW3 (a b c : Hs) : hd [a, b, c] = nd (nd a b) c := by kernel_rfl
theorem clW (x a c : Hs) : cl x 2 3 [a, c] = nd (nd a x) c := by kernel_rfl
theorem su23 : su 2 3 = 2 := by kernel_rfl
theorem icW (g : Hs) (x : En) (a c : Hs) : icR g 3 2 x [a, c] = if (nd (nd a (lf x)) c).v = g.v then 0 else 202 := by
  unfold icR
  rw [if_neg (by decide), if_neg (by decide), if_neg (fun h => h (show ([a, c] : List Hs).length = su 2 3 from su23.symm)), show cl (lf x) (2 : Int).toNat (3 : Int).toNat [a, c] = nd (nd a (lf x)) c from clW _ _ _]
theorem inW (a b c : Hs) : inR [a, b, c] 2 = ([a, c], 0) := by
  unfold inR
  rw [if_neg (by simp), show pu [a, b, c] (2 : Int).toNat = [a, c] from puW a b c]
theorem exW : exR hdW 3 (sH []) 3 [] = 202 := by
  unfold exR
  rw [if_neg (by decide), if_neg (by decide), if_neg ?_]
  show ¬ jnR hdW 3 3 (sH []) [] = true
  unfold jnR
  rw [if_neg (by decide), if_pos rfl, decide_eq_false hdW_none]
  decide
theorem rem16 (x y : Operand) (n : Nat) (h : n < 16) (w : World) : (do eqGuard .rem 3 x y (.int .i64 (n : Int)) (.int .i64 16); binOp .rem 3 (.int .i64 (n : Int)) (.int .i64 16) : Sem Value).run Try.prog w = .ok (.int .i64 (n : Int)) w := by
  have h1 : (n : Int).tmod 16 = (n : Int) := Int.tmod_eq_of_lt (by omega) (by omega)
  have h2 : IntKind.i64.wrap ((n : Int).tmod 16) = (n : Int) := by rw [h1, IntKind.wrap_i64]; omega
  go_simp
theorem cvI8 (n : Nat) (h : n < 256) (w : World) : (Go.convert 3 5 (.int .i64 (n : Int))).run Try.prog w = .ok (.int .u8 (n : Int)) w := by
  have hwr : IntKind.u8.wrap (n : Int) = (n : Int) := by rw [IntKind.wrap_u8]; omega
  go_simp
theorem bdO20 (s : ByteArray) (w : World) : (Instr.build 26 #[(0, .int .i64 2), (2, .string s)]).run Try.prog w = .ok (.agg #[.int .i64 2, .int .i64 0, .string s]) w := by kernel_rfl
theorem bdE20 (a b : Int) (s : ByteArray) (w : World) : (Instr.build 28 #[(0, .int .i64 a), (1, .int .i64 b), (2, .agg #[.int .i64 2, .int .i64 0, .string s])]).run Try.prog w = .ok (⟨a, b, ⟨2, 0, s⟩⟩ : En).val20 w := by kernel_rfl
theorem ex_bdO20 {o : Oper} {ρ : Operand → Value} {s : TypeId} {i : Nat} {B V : Value} {w : World} (ho : o.op = .build s #[(0, .const (.int .i64 2)), (2, .tmp i)]) (hc : ρ (.const (.int .i64 2)) = .int .i64 2) (hb : ρ (.tmp i) = B) (hr : (Instr.build s #[(0, .int .i64 2), (2, B)]).run Try.prog w = .ok V w) : (execOp ρ o).run Try.prog w = .ok (.value V) w := ex_buildP18 ho (by simp only [List.map_toArray, List.map_cons, List.map_nil, hc, hb]) hr
theorem ex_bdE20 {o : Oper} {ρ : Operand → Value} {s : TypeId} {a b c : Operand} {A B C V : Value} {w : World} (ho : o.op = .build s #[(0, a), (1, b), (2, c)]) (ha : ρ a = A) (hb : ρ b = B) (hc : ρ c = C) (hr : (Instr.build s #[(0, A), (1, B), (2, C)]).run Try.prog w = .ok V w) : (execOp ρ o).run Try.prog w = .ok (.value V) w := ex_buildP18 ho (by simp only [List.map_toArray, List.map_cons, List.map_nil, ha, hb, hc]) hr
theorem bsE20 (x y z : En) (w : World) : (Instr.buildSlice 22 3 #[(0, x.val20), (1, y.val20), (2, z.val20)]).run Try.prog w = .ok (.slice (some ⟨w.heap.size, 0, none⟩) 3 3) (w.alloc (.cells (fl yE [x, y, z]).toArray 28)) := by kernel_rfl
theorem ldB20 {w : World} {q o : Nat} {x : Int} (h : w.cell? ⟨q, o, none⟩ = some (.int .u8 x)) : (Instr.loadAt 5 (.pointer (some ⟨q, o, none⟩))).run Try.prog w = .ok (.int .u8 x) w := by go_simp
theorem eqB20 (x y : Operand) (a : Int) (w : World) : (do eqGuard .eql 5 x y (.int .u8 a) (.int .u8 a); binOp .eql 5 (.int .u8 a) (.int .u8 a) : Sem Value).run Try.prog w = .ok (.bool true) w := by go_simp
theorem ixHb (q j : Nat) (hj : j < 32) (w : World) : (Instr.indexAt 24 (.pointer (some ⟨q, 0, none⟩)) (.int .i64 (j : Int))).run Try.prog w = .ok (.pointer (some ⟨q, j, none⟩)) w := ixA0 q j 32 24 5 Try.underlying24 (by kernel_rfl) hj w
theorem eqEt (x y : Operand) (a : Int) (w : World) : (do eqGuard .eql 43 x y (.int .i64 a) (.int .i64 a); binOp .eql 43 (.int .i64 a) (.int .i64 a) : Sem Value).run Try.prog w = .ok (.bool true) w := by
  have := eqlE18 x y a a w
  rw [decide_eq_true rfl] at this
  exact this
set_option maxRecDepth 100000 in
set_option maxHeartbeats 2000000 in
theorem entryW20 (n : Nat) (hn : n < 16) (w : World) :
    Calls Try.prog 52 #[.int .i64 (n : Int)] w fun e w' => e = .returned (eW n).val20 ∧ Below w.heap.size w w' := by
  go_enter Try.func52, Try.ntmps52
  go_upto_region 0 with fail
  refine wp_region_lit ?_
  refine vl_gen (fun T => Rp T 13 [(0, gw true (.int .i64 ((n : Nat) : Int)))]) ((Rp.nil rfl).cons rfl) (fun Z0 q0 => ?_)
  obtain ⟨w1, hw1⟩ : ∃ y, y = w.alloc (.cells (yE.z.cs).toArray 28) := ⟨_, rfl⟩
  refine vw (.pointer (some ⟨w.heap.size, 0, none⟩)) w1 (want_none rfl) (ex_al rfl (by rw [hw1]; exact alE20 _)) rfl q0.z (by decide) (q0.k fun _ q1 => ?_);clear q0
  have Bw1 : BB w1 w.heap.size 28 (yE.z.cs) := by rw [hw1]; exact BB.new _ _ _
  have bw1 : Below w.heap.size w w1 := by rw [hw1]; exact (Below.refl _ _).alloc (Nat.le_refl _) _
  have zw1 : w1.heap.size = w.heap.size + 1 := by rw [hw1]; exact World.size_alloc _ _
  clear hw1
  refine wpList_nil ?_
  go_upto_region 1 with fail
  refine wp_region_lit ?_
  refine q1.t (.int .i64 ((n : Nat) : Int)) (ex_move rfl (q1.e (j := 0) rfl)) fun _ q2 => ?_;clear q1
  refine q2.t (.int .i64 ((n : Nat) : Int)) (ex_bin (Y := .int .i64 (16 : Int)) rfl (q2.e (j := 3) rfl) rfl (rem16 _ _ n hn _)) fun _ q3 => ?_;clear q2
  refine q3.t (.int .i64 ((n : Nat) : Int)) (ex_move rfl (q3.e (j := 0) rfl)) fun _ q4 => ?_;clear q3
  refine q4.t (.int .i64 ((n + 1 : Nat) : Int)) (ex_bin rfl (q4.e (j := 5) rfl) rfl (add1C _ _ n (by omega) _)) fun _ q5 => ?_;clear q4
  refine q5.t (.int .i64 ((n : Nat) : Int)) (ex_move rfl (q5.e (j := 0) rfl)) fun _ q6 => ?_;clear q5
  refine q6.t (.int .u8 (n : Int)) (ex_cv19 rfl (q6.e (j := 7) rfl) (cvI8 n (by omega) _)) fun _ q7 => ?_;clear q6
  obtain ⟨w3, hw3⟩ : ∃ y, y = w1.alloc (.cells (([(n : Int)] : List Int).map bV).toArray 5) := ⟨_, rfl⟩
  refine vw (.slice (some ⟨w1.heap.size, 0, none⟩) 1 1) w3 (want_none rfl) (ex_bs18 rfl (q7.e (j := 8) rfl) (by rw [hw3]; exact bs1B _ _)) rfl q7.z (by decide) (q7.k fun _ q8 => ?_);clear q7
  have s3 : SlY yB9 w3 (some ⟨w1.heap.size, 0, none⟩) 1 1 [(n : Int)] := by rw [hw3]; exact slM w1 [(n : Int)] _ _ (by unfold maxLen; show 1 ≤ _; decide)
  have b3 : Below w1.heap.size w1 w3 := by rw [hw3]; exact (Below.refl _ _).alloc (Nat.le_refl _) _
  clear hw3
  have B3 := Bw1.later b3
  have z3 := b3.size
  refine q8.t (.string (strOfNums [(n : Int)])) (ex_cv19 rfl (q8.e (j := 9) rfl) (cv_str s3 (by simp))) fun _ q9 => ?_;clear q8
  refine q9.t (.agg #[.int .i64 2, .int .i64 0, .string (strOfNums [(n : Int)])]) (ex_bdO20 rfl rfl (q9.e (j := 10) rfl) (bdO20 _ _)) fun _ q10 => ?_;clear q9
  refine q10.t ((eW n).val20) (ex_bdE20 rfl (q10.e (j := 4) rfl) (q10.e (j := 6) rfl) (q10.e (j := 11) rfl) (bdE20 _ _ _ _)) fun _ q11 => ?_;clear q10
  obtain ⟨w4, hw4⟩ : ∃ y, y = w3.setCells w.heap.size 0 (eW n).cs := ⟨_, rfl⟩
  refine vs w4 (want_none rfl) (ex_st rfl (q11.e (j := 2) rfl) (q11.e (j := 12) rfl) (by rw [hw4]; exact B3.stE20 (eW n))) rfl ?_
  have B4 : BB w4 w.heap.size 28 (eW n).cs := by rw [hw4]; exact B3.whole _ rfl
  have u4 : Upd (fun k => k = w.heap.size) w3 w4 := by rw [hw4]; exact upd18 _ _ _ _
  clear hw4
  refine wpList_nil ?_
  go_wp2
  exact B4.res rfl (q11.a 2 rfl) Try.underlying28 rfl i5e20 ⟨rfl, (bw1.trans (b3.mono (by omega))).trans (bel_ge u4 (by omega) (Nat.le_refl _))⟩
set_option maxRecDepth 100000 in
set_option maxHeartbeats 2000000 in
theorem works20 (w : World) :
    Calls Try.prog 19 #[] w fun e w' => e = .returned (.bool true) ∧ Below w.heap.size w w' := by
  go_enter Try.func19, Try.ntmps19
  go_upto_region 0 with fail
  refine wp_region_lit ?_
  refine vl_gen (fun T => Rp T 59 []) (Rp.nil rfl) (fun Z0 q0 => ?_)
  refine q0.t (.bool false) (ex_assign rfl rfl) fun _ q1 => ?_;clear q0
  refine wpList_nil ?_
  go_upto_region 1 with fail
  refine wp_region_lit ?_
  refine vcallP (want_none rfl) (ex_call rfl (by simp only [List.map_toArray, List.map_cons, List.map_nil, evc] <;> rfl) rfl) (entryW20 1 (by omega) w) rfl q1.z (by decide) ?_
  rintro e w1 ⟨rfl, b1⟩
  refine ⟨_, rfl, q1.k fun _ q2 => ?_⟩;clear q1
  have z1 := b1.size
  refine vcallP (want_none rfl) (ex_call rfl (by simp only [List.map_toArray, List.map_cons, List.map_nil, evc] <;> rfl) rfl) (entryW20 2 (by omega) w1) rfl q2.z (by decide) ?_
  rintro e w2 ⟨rfl, b2⟩
  refine ⟨_, rfl, q2.k fun _ q3 => ?_⟩;clear q2
  have z2 := b2.size
  refine vcallP (want_none rfl) (ex_call rfl (by simp only [List.map_toArray, List.map_cons, List.map_nil, evc] <;> rfl) rfl) (entryW20 3 (by omega) w2) rfl q3.z (by decide) ?_
  rintro e w3 ⟨rfl, b3⟩
  refine ⟨_, rfl, q3.k fun _ q4 => ?_⟩;clear q3
  have z3 := b3.size
  obtain ⟨w4, hw4⟩ : ∃ y, y = w3.alloc (.cells (fl yE [eW 1, eW 2, eW 3]).toArray 28) := ⟨_, rfl⟩
  refine vw (.slice (some ⟨w3.heap.size, 0, none⟩) 3 3) w4 (want_none rfl) (ex_bs3 rfl (q4.e (j := 6) rfl) (q4.e (j := 7) rfl) (q4.e (j := 8) rfl) (by rw [hw4]; exact bsE20 _ _ _ _)) rfl q4.z (by decide) (q4.k fun _ q5 => ?_);clear q4
  have s4 : SlY yE w4 (some ⟨w3.heap.size, 0, none⟩) 3 3 [eW 1, eW 2, eW 3] := by rw [hw4]; exact sl_lit kE w3 [eW 1, eW 2, eW 3] _ (by show 3 ≤ maxLen; unfold maxLen; decide)
  have b4 : Below w3.heap.size w3 w4 := by rw [hw4]; exact (Below.refl _ _).alloc (Nat.le_refl _) _
  have z4 := b4.size
  clear hw4
  have hvv : ∀ x ∈ [eW 1, eW 2, eW 3], x.o.v.size ≤ 140737488350000 := by
    intro x hx
    simp only [List.mem_cons, List.not_mem_nil, or_false] at hx
    rcases hx with rfl | rfl | rfl <;> exact Nat.le_trans (Nat.le_refl 1) (by decide)
  have d4 : Below w.heap.size w w4 := ((b1.trans (b2.mono (by omega))).trans (b3.mono (by omega))).trans (b4.mono (by omega))
  refine q5.t (.slice (some ⟨w3.heap.size, 0, none⟩) 3 3) (ex_assign rfl (q5.e (j := 9) rfl)) fun _ q6 => ?_;clear q5
  refine wpList_nil ?_
  go_upto_region 2 with fail
  refine wp_region_lit ?_
  refine q6.t (.slice (some ⟨w3.heap.size, 0, none⟩) 3 3) (ex_move rfl (q6.e (j := 1) rfl)) fun _ q7 => ?_;clear q6
  refine vcallP (want_none rfl) (ex_call rfl (by simp only [List.map_toArray, List.map_cons, List.map_nil, (q7.e (j := 10) rfl), evc] <;> rfl) rfl) (head20 [eW 1, eW 2, eW 3] _ 3 3 w4 s4 (by decide) hvv) rfl q7.z (by decide) ?_
  rintro e w5 ⟨rfl, b5⟩
  refine ⟨_, rfl, q7.k fun _ q8 => ?_⟩;clear q7
  have z5 := b5.size
  have eh : hd (([eW 1, eW 2, eW 3] : List En).map lf) = hdW := hdW3 _ _ _
  rw [eh] at q8
  clear eh
  obtain ⟨w6, hw6⟩ : ∃ y, y = w5.alloc (.cells (zH.cs).toArray 24) := ⟨_, rfl⟩
  refine vw (.pointer (some ⟨w5.heap.size, 0, none⟩)) w6 (want_none rfl) (ex_al rfl (by rw [hw6]; exact alH _)) rfl q8.z (by decide) (q8.k fun _ q9 => ?_);clear q8
  have Bw6 : BB w6 w5.heap.size 24 (zH.cs) := by rw [hw6]; exact BB.new _ _ _
  have bw6 : Below w5.heap.size w5 w6 := by rw [hw6]; exact (Below.refl _ _).alloc (Nat.le_refl _) _
  have zw6 : w6.heap.size = w5.heap.size + 1 := by rw [hw6]; exact World.size_alloc _ _
  clear hw6
  obtain ⟨w7, hw7⟩ : ∃ y, y = w6.setCells w5.heap.size 0 (hdW).cs := ⟨_, rfl⟩
  refine vs w7 (want_none rfl) (ex_st rfl (q9.e (j := 2) rfl) (q9.e (j := 11) rfl) (by rw [hw7]; exact Bw6.stH rfl _)) rfl ?_
  have Bw7 : BB w7 w5.heap.size 24 (hdW).cs := by rw [hw7]; exact Bw6.putH rfl _
  have uw7 : Upd (fun k => k = w5.heap.size) w6 w7 := by rw [hw7]; exact upd18 _ _ _ _
  clear hw7
  have b7 : Below w5.heap.size w5 w7 := bw6.trans (bel_ge uw7 (by omega) (Nat.le_refl _))
  have z7 := b7.size
  have s7 := (s4.later b5).later b7
  have d7 : Below w.heap.size w w7 := (d4.trans (b5.mono (by omega))).trans (b7.mono (by omega))
  clear Bw6
  refine wpList_nil ?_
  go_upto_region 3 with fail
  refine wp_region_lit ?_
  refine q9.t (.slice (some ⟨w3.heap.size, 0, none⟩) 3 3) (ex_move rfl (q9.e (j := 1) rfl)) fun _ q10 => ?_;clear q9
  refine vcallP (want_none rfl) (ex_call rfl (by simp only [List.map_toArray, List.map_cons, List.map_nil, (q10.e (j := 13) rfl), evc] <;> rfl) rfl) (incllude20 [eW 1, eW 2, eW 3] _ 3 3 2 w7 s7 (by decide) hvv) rfl q10.z (by decide) ?_
  rintro e w8 ⟨v8, rfl, o8, b8⟩
  refine ⟨_, rfl, q10.k fun _ q11 => ?_⟩;clear q10
  have z8 := b8.size
  have ei : inR (([eW 1, eW 2, eW 3] : List En).map lf) 2 = ([lf (eW 1), lf (eW 3)], 0) := inW _ _ _
  rw [ei] at o8
  rw [ei] at q11
  clear ei
  refine q11.t (.tuple #[v8, .int .i64 0]) (ex_move rfl (q11.e (j := 14) rfl)) fun _ q12 => ?_;clear q11
  refine q12.t (v8) (ex_ext18 rfl (q12.e (j := 12) rfl) (xt0 _ _ _)) fun _ q13 => ?_;clear q12
  refine q13.t (.int .i64 0) (ex_ext18 rfl (q13.e (j := 12) rfl) (xt1 _ _ _)) fun _ q14 => ?_;clear q13
  refine q14.t (v8) (ex_assign rfl (q14.e (j := 15) rfl)) fun _ q15 => ?_;clear q14
  refine q15.t (.int .i64 0) (ex_assign rfl (q15.e (j := 16) rfl)) fun _ q16 => ?_;clear q15
  refine wpList_nil ?_
  go_upto_region 4 with fail
  refine wp_region_lit ?_
  refine vcallP (want_none rfl) (ex_call rfl (by simp only [List.map_toArray, List.map_cons, List.map_nil, evc] <;> rfl) rfl) (head20 [] none 0 0 w8 (nil_sl20 yE w8) (by decide) (by simp)) rfl q16.z (by decide) ?_
  rintro e w9 ⟨rfl, b9⟩
  refine ⟨_, rfl, q16.k fun _ q17 => ?_⟩;clear q16
  have z9 := b9.size
  have eh : hd (([] : List En).map lf) = sH [] := rfl
  rw [eh] at q17
  clear eh
  obtain ⟨wa, hwa⟩ : ∃ y, y = w9.alloc (.cells (zH.cs).toArray 24) := ⟨_, rfl⟩
  refine vw (.pointer (some ⟨w9.heap.size, 0, none⟩)) wa (want_none rfl) (ex_al rfl (by rw [hwa]; exact alH _)) rfl q17.z (by decide) (q17.k fun _ q18 => ?_);clear q17
  have Bwa : BB wa w9.heap.size 24 (zH.cs) := by rw [hwa]; exact BB.new _ _ _
  have bwa : Below w9.heap.size w9 wa := by rw [hwa]; exact (Below.refl _ _).alloc (Nat.le_refl _) _
  have zwa : wa.heap.size = w9.heap.size + 1 := by rw [hwa]; exact World.size_alloc _ _
  clear hwa
  obtain ⟨wb, hwb⟩ : ∃ y, y = wa.setCells w9.heap.size 0 (sH []).cs := ⟨_, rfl⟩
  refine vs wb (want_none rfl) (ex_st rfl (q18.e (j := 5) rfl) (q18.e (j := 17) rfl) (by rw [hwb]; exact Bwa.stH rfl _)) rfl ?_
  have Bwb : BB wb w9.heap.size 24 (sH []).cs := by rw [hwb]; exact Bwa.putH rfl _
  have uwb : Upd (fun k => k = w9.heap.size) wa wb := by rw [hwb]; exact upd18 _ _ _ _
  clear hwb
  have bb : Below w9.heap.size w9 wb := bwa.trans (bel_ge uwb (by omega) (Nat.le_refl _))
  have zb := bb.size
  have sb := ((s7.later b8).later b9).later bb
  have Hb := ((Bw7.later b8).later b9).later bb
  have ob := (o8.grow b9).grow bb
  have db : Below w.heap.size w wb := ((d7.trans (b8.mono (by omega))).trans (b9.mono (by omega))).trans (bb.mono (by omega))
  obtain ⟨a8, c8, hv8, sv, _⟩ := ob.sl kH
  subst hv8
  clear s7 s4 o8 ob Bw7 Bwa
  refine wpList_nil ?_
  go_upto_region 5 with fail
  refine vq_start (C := fun v => Below wb.heap.size wb v) (by kernel_rfl) (by kernel_rfl) ((Below.refl _ _).drew) ?_
  have c0 : ((sH []).v).getD 0 0 = 227 := by rw [no20]; rfl
  have c31 : ((sH []).v).getD 31 0 = 85 := by rw [no20]; rfl
  have m0 : ∀ v, Below wb.heap.size wb v → v.cell? ⟨w9.heap.size, 0, none⟩ = some (.int .u8 227) := fun v hv => by have := (show BB v w9.heap.size _ ((sH []).v.map bV) from Bwb.later hv).v9 (j := 0) (by rw [(sH []).p]; decide); rw [c0] at this; exact this
  have m31 : ∀ v, Below wb.heap.size wb v → v.cell? ⟨w9.heap.size, 31, none⟩ = some (.int .u8 85) := fun v hv => by have := (show BB v w9.heap.size _ ((sH []).v.map bV) from Bwb.later hv).v9 (j := 31) (by rw [(sH []).p]; decide); rw [c31] at this; exact this
  refine q18.q (.pointer (some ⟨w9.heap.size, 0, none⟩)) (fun v hv => ex_ix (Y := .int .i64 ((0 : Nat) : Int)) rfl (q18.e (j := 5) rfl) rfl (ixHb _ 0 (by decide) _)) fun _ q19 => ?_;clear q18
  refine q19.q (.int .u8 227) (fun v hv => ex_ld rfl (q19.e (j := 18) rfl) (ldB20 (m0 v hv))) fun _ q20 => ?_;clear q19
  refine q20.q (.bool true) (fun v hv => ex_bin (Y := .int .u8 227) rfl (q20.e (j := 19) rfl) rfl (eqB20 _ _ 227 _)) fun _ q21 => ?_;clear q20
  refine q21.q (.bool true) (fun v hv => ex_move rfl (q21.e (j := 20) rfl)) fun _ q22 => ?_;clear q21
  refine vq ((true && (true == true))) (.pointer (some ⟨w9.heap.size, 31, none⟩)) (want_g rfl rfl (q22.a 21 rfl)) (fun hc v hv => ex_ix (Y := .int .i64 ((31 : Nat) : Int)) rfl (q22.e (j := 5) rfl) rfl (ixHb _ 31 (by decide) _)) rfl q22.z (by decide) (q22.k fun _ q23 => ?_);clear q22
  refine vq ((true && (true == true))) (.int .u8 85) (want_g rfl rfl (q23.a 21 rfl)) (fun hc v hv => ex_ld rfl (q23.e (j := 22) rfl) (ldB20 (m31 v hv))) rfl q23.z (by decide) (q23.k fun _ q24 => ?_);clear q23
  refine vq ((true && (true == true))) (.bool true) (want_g rfl rfl (q24.a 21 rfl)) (fun hc v hv => ex_bin (Y := .int .u8 85) rfl (q24.e (j := 23) rfl) rfl (eqB20 _ _ 85 _)) rfl q24.z (by decide) (q24.k fun _ q25 => ?_);clear q24
  refine q25.q (.bool true) (fun v hv => ex_and (c := true) (b := true) (z := true) rfl (q25.a 21 rfl) (q25.a 24 rfl) rfl) fun _ q26 => ?_;clear q25
  refine q26.q (.bool true) (fun v hv => ex_move rfl (q26.e (j := 25) rfl)) fun _ q27 => ?_;clear q26
  refine vq ((true && (true == true))) (.int .i64 0) (want_g rfl rfl (q27.a 26 rfl)) (fun hc v hv => ex_move rfl (q27.e (j := 4) rfl)) rfl q27.z (by decide) (q27.k fun _ q28 => ?_);clear q27
  refine vq ((true && (true == true))) (.bool true) (want_g rfl rfl (q28.a 26 rfl)) (fun hc v hv => ex_bin (Y := .int .i64 0) rfl (q28.e (j := 27) rfl) rfl (eqEt _ _ 0 _)) rfl q28.z (by decide) (q28.k fun _ q29 => ?_);clear q28
  refine q29.q (.bool true) (fun v hv => ex_and (c := true) (b := true) (z := true) rfl (q29.a 26 rfl) (q29.a 28 rfl) rfl) fun _ q30 => ?_;clear q29
  refine q30.q (.bool true) (fun v hv => ex_move rfl (q30.e (j := 29) rfl)) fun _ q31 => ?_;clear q30
  refine vq ((true && (true == true))) (.slice a8 2 c8) (want_g rfl rfl (q31.a 30 rfl)) (fun hc v hv => ex_move rfl (q31.e (j := 3) rfl)) rfl q31.z (by decide) (q31.k fun _ q32 => ?_);clear q31
  refine vq ((true && (true == true))) (.int .i64 ((2 : Nat) : Int)) (want_g rfl rfl (q32.a 30 rfl)) (fun hc v hv => ex_lenG rfl rfl Try.underlying42 (q32.e (j := 31) rfl)) rfl q32.z (by decide) (q32.k fun _ q33 => ?_);clear q32
  refine vq ((true && (true == true))) (.bool true) (want_g rfl rfl (q33.a 30 rfl)) (fun hc v hv => ex_bin (Y := .int .i64 2) rfl (q33.e (j := 32) rfl) rfl (eqT20 _ _ rfl _)) rfl q33.z (by decide) (q33.k fun _ q34 => ?_);clear q33
  refine q34.q (.bool true) (fun v hv => ex_and (c := true) (b := true) (z := true) rfl (q34.a 30 rfl) (q34.a 33 rfl) rfl) fun _ q35 => ?_;clear q34
  refine q35.q (.bool true) (fun v hv => ex_move rfl (q35.e (j := 34) rfl)) fun _ q36 => ?_;clear q35
  refine vq ((true && (true == true))) (hdW.val) (want_g rfl rfl (q36.a 35 rfl)) (fun hc v hv => ex_ld rfl (q36.e (j := 2) rfl) (Hb.later hv).ldH) rfl q36.z (by decide) (q36.k fun _ q37 => ?_);clear q36
  refine vq ((true && (true == true))) (.slice (some ⟨w3.heap.size, 0, none⟩) 3 3) (want_g rfl rfl (q37.a 35 rfl)) (fun hc v hv => ex_move rfl (q37.e (j := 1) rfl)) rfl q37.z (by decide) (q37.k fun _ q38 => ?_);clear q37
  refine vq ((true && (true == true))) (.pointer (some ⟨w3.heap.size, 0 + 1 * 5, none⟩)) (want_g rfl rfl (q38.a 35 rfl)) (fun hc v hv => ex_ix (Y := .int .i64 ((1 : Nat) : Int)) rfl (q38.e (j := 37) rfl) rfl (ixE20 _ 0 3 3 1 (by decide) _)) rfl q38.z (by decide) (q38.k fun _ q39 => ?_);clear q38
  refine vq ((true && (true == true))) ((eW 2).val20) (want_g rfl rfl (q39.a 35 rfl)) (fun hc v hv => ex_ld rfl (q39.e (j := 38) rfl) (by obtain ⟨q, o, e, _, hl⟩ := (sb.later hv).place (by simp); cases e; exact ldEl20 hl rfl)) rfl q39.z (by decide) (q39.k fun _ q40 => ?_);clear q39
  refine vq ((true && (true == true))) (.slice a8 2 c8) (want_g rfl rfl (q40.a 35 rfl)) (fun hc v hv => ex_move rfl (q40.e (j := 3) rfl)) rfl q40.z (by decide) (q40.k fun _ q41 => ?_);clear q40
  refine vq_call18 ((true && (true == true))) (.int .i64 0) (want_g rfl rfl (q41.a 35 rfl)) (fun hc v hv => ex_call rfl (by simp only [List.map_toArray, List.map_cons, List.map_nil, (q41.e (j := 36) rfl), (q41.e (j := 39) rfl), (q41.e (j := 40) rfl), evc] <;> rfl) rfl) (fun hc v hv => bel18 hv (by have := included20 hdW 3 2 (eW 2) [lf (eW 1), lf (eW 3)] a8 2 c8 v (sv.later hv) (by decide) (hvv _ (by simp)); rw [icW, if_pos (show (nd (nd (lf (eW 1)) (lf (eW 2))) (lf (eW 3))).v = hdW.v from rfl)] at this; exact this) hv.size) rfl q41.z (by decide) (q41.k fun _ q42 => ?_);clear q41
  refine vq ((true && (true == true))) (.bool true) (want_g rfl rfl (q42.a 35 rfl)) (fun hc v hv => ex_bin (Y := .int .i64 0) rfl (q42.e (j := 41) rfl) rfl (eqEt _ _ 0 _)) rfl q42.z (by decide) (q42.k fun _ q43 => ?_);clear q42
  refine q43.q (.bool true) (fun v hv => ex_and (c := true) (b := true) (z := true) rfl (q43.a 35 rfl) (q43.a 42 rfl) rfl) fun _ q44 => ?_;clear q43
  refine q44.q (.bool true) (fun v hv => ex_move rfl (q44.e (j := 43) rfl)) fun _ q45 => ?_;clear q44
  refine vq ((true && (true == true))) (hdW.val) (want_g rfl rfl (q45.a 44 rfl)) (fun hc v hv => ex_ld rfl (q45.e (j := 2) rfl) (Hb.later hv).ldH) rfl q45.z (by decide) (q45.k fun _ q46 => ?_);clear q45
  refine vq ((true && (true == true))) (.slice (some ⟨w3.heap.size, 0, none⟩) 3 3) (want_g rfl rfl (q46.a 44 rfl)) (fun hc v hv => ex_move rfl (q46.e (j := 1) rfl)) rfl q46.z (by decide) (q46.k fun _ q47 => ?_);clear q46
  refine vq ((true && (true == true))) (.pointer (some ⟨w3.heap.size, 0 + 2 * 5, none⟩)) (want_g rfl rfl (q47.a 44 rfl)) (fun hc v hv => ex_ix (Y := .int .i64 ((2 : Nat) : Int)) rfl (q47.e (j := 46) rfl) rfl (ixE20 _ 0 3 3 2 (by decide) _)) rfl q47.z (by decide) (q47.k fun _ q48 => ?_);clear q47
  refine vq ((true && (true == true))) ((eW 3).val20) (want_g rfl rfl (q48.a 44 rfl)) (fun hc v hv => ex_ld rfl (q48.e (j := 47) rfl) (by obtain ⟨q, o, e, _, hl⟩ := (sb.later hv).place (by simp); cases e; exact ldEl20 hl rfl)) rfl q48.z (by decide) (q48.k fun _ q49 => ?_);clear q48
  refine vq ((true && (true == true))) (.slice a8 2 c8) (want_g rfl rfl (q49.a 44 rfl)) (fun hc v hv => ex_move rfl (q49.e (j := 3) rfl)) rfl q49.z (by decide) (q49.k fun _ q50 => ?_);clear q49
  refine vq_call18 ((true && (true == true))) (.int .i64 202) (want_g rfl rfl (q50.a 44 rfl)) (fun hc v hv => ex_call rfl (by simp only [List.map_toArray, List.map_cons, List.map_nil, (q50.e (j := 45) rfl), (q50.e (j := 48) rfl), (q50.e (j := 49) rfl), evc] <;> rfl) rfl) (fun hc v hv => bel18 hv (by have := included20 hdW 3 2 (eW 3) [lf (eW 1), lf (eW 3)] a8 2 c8 v (sv.later hv) (by decide) (hvv _ (by simp)); rw [icW, if_neg hdW_x] at this; exact this) hv.size) rfl q50.z (by decide) (q50.k fun _ q51 => ?_);clear q50
  refine vq ((true && (true == true))) (.bool true) (want_g rfl rfl (q51.a 44 rfl)) (fun hc v hv => ex_bin (Y := .int .i64 202) rfl (q51.e (j := 50) rfl) rfl (eqEt _ _ 202 _)) rfl q51.z (by decide) (q51.k fun _ q52 => ?_);clear q51
  refine q52.q (.bool true) (fun v hv => ex_and (c := true) (b := true) (z := true) rfl (q52.a 44 rfl) (q52.a 51 rfl) rfl) fun _ q53 => ?_;clear q52
  refine q53.q (.bool true) (fun v hv => ex_move rfl (q53.e (j := 52) rfl)) fun _ q54 => ?_;clear q53
  refine vq ((true && (true == true))) (hdW.val) (want_g rfl rfl (q54.a 53 rfl)) (fun hc v hv => ex_ld rfl (q54.e (j := 2) rfl) (Hb.later hv).ldH) rfl q54.z (by decide) (q54.k fun _ q55 => ?_);clear q54
  refine vq ((true && (true == true))) ((sH []).val) (want_g rfl rfl (q55.a 53 rfl)) (fun hc v hv => ex_ld rfl (q55.e (j := 5) rfl) (Bwb.later hv).ldH) rfl q55.z (by decide) (q55.k fun _ q56 => ?_);clear q55
  refine vq_call18 ((true && (true == true))) (.int .i64 202) (want_g rfl rfl (q56.a 53 rfl)) (fun hc v hv => ex_call rfl (by simp only [List.map_toArray, List.map_cons, List.map_nil, (q56.e (j := 54) rfl), (q56.e (j := 55) rfl), evc] <;> rfl) rfl) (fun hc v hv => bel18 hv (by have := extends20 hdW 3 (sH []) 3 [] none 0 0 v (nil_sl20 yH v) (by decide); rw [exW] at this; exact this) hv.size) rfl q56.z (by decide) (q56.k fun _ q57 => ?_);clear q56
  refine vq ((true && (true == true))) (.bool true) (want_g rfl rfl (q57.a 53 rfl)) (fun hc v hv => ex_bin (Y := .int .i64 202) rfl (q57.e (j := 56) rfl) rfl (eqEt _ _ 202 _)) rfl q57.z (by decide) (q57.k fun _ q58 => ?_);clear q57
  refine q58.q (.bool true) (fun v hv => ex_and (c := true) (b := true) (z := true) rfl (q58.a 53 rfl) (q58.a 57 rfl) rfl) fun _ q59 => ?_;clear q58
  refine q59.q (.bool true) (fun v hv => ex_assign rfl (q59.e (j := 58) rfl)) fun _ q60 => ?_;clear q59
  refine vq_nil (fun r1 hr1 => ?_)
  go_wp2
  refine bodyPost_ret (results_tmp rfl _ _ _) rfl ?_
  rw [getD_of (q60.a 0 rfl)]
  exact ⟨rfl, db.trans (hr1.mono db.size)⟩

end Go.Proofs.Ytaagmdkhjmonnaa
