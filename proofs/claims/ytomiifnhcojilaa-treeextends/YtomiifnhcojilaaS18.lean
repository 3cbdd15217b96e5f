import Derived.Test.YtomiifnhcojilaaS14
namespace Go.Proofs.Ytomiifnhcojilaa
open Go.RowKit Go.Maps
open Classical
set_option linter.unusedVariables false
set_option linter.unusedSimpArgs false

/-! The document's numbers of many halves. -/
def yQ9 : Lay Nat := ⟨122, 138, 1, 8, fun x => [.int .u64 (x : Int)], 0⟩
theorem kQ9 : yQ9.Ok := ⟨by decide, fun x => rfl, fun x u h => by
    simp [yQ9] at h
    rw [h]; rfl, Try.underlying138, ⟨.int .u64 0, by kernel_rfl, rfl⟩⟩
def qV (x : Nat) : Value := .int .u64 (x : Int)
theorem len_qV (L : List Nat) : (L.map qV).length = L.length := List.length_map _
theorem BB.q9 {w : World} {q : Nat} {T : TypeId} {L : List Nat} (h : BB w q T (L.map qV)) {j : Nat} (hj : j < L.length) : w.cell? ⟨q, j, none⟩ = some (.int .u64 ((L.getD j 0 : Nat) : Int)) := by
  rw [h.cell, List.getElem?_map, List.getD_eq_getElem?_getD, List.getElem?_eq_getElem hj]
  rfl
theorem BB.setq {w : World} {q : Nat} {T : TypeId} {L : List Nat} (h : BB w q T (L.map qV)) (j : Nat) (x : Nat) : BB (w.setCell ⟨q, j, none⟩ (.int .u64 (x : Int))) q T ((L.set j x).map qV) := by
  have := h.set1 j (.int .u64 (x : Int))
  rw [show (L.map qV).set j (.int .u64 (x : Int)) = (L.set j x).map qV from by rw [List.map_set]; rfl] at this
  exact this
theorem BB.slq {w : World} {q : Nat} {T : TypeId} {L : List Nat} (h : BB w q T (L.map qV)) (hm : L.length ≤ maxLen) : SlY yQ9 w (some ⟨q, 0, none⟩) L.length L.length L := by
  refine ⟨rfl, Nat.le_refl _, hm, (fun e => by cases e), fun x hx => .inr ⟨q, 0, (Option.some.inj hx).symm, h.lt, fun i x hx j v hv => ?_⟩⟩
  obtain ⟨hi, rfl⟩ := List.getElem?_eq_some_iff.1 hx
  have hj : j = 0 := by
    cases j with
    | zero => rfl
    | succ j => simp [yQ9] at hv
  subst hj
  obtain rfl : Value.int .u64 ((L[i] : Nat) : Int) = v := by simpa [yQ9] using hv
  have := h.q9 hi
  rw [List.getD_eq_getElem?_getD, List.getElem?_eq_getElem hi] at this
  simpa [yQ9] using this
theorem SlY.q9 {w : World} {a : Option Addr} {n c : Nat} {L : List Nat} (h : SlY yQ9 w a n c L) {j : Nat} (hj : j < L.length) : ∃ q o, a = some ⟨q, o, none⟩ ∧ q < w.heap.size ∧ w.cell? ⟨q, o + j, none⟩ = some (.int .u64 ((L.getD j 0 : Nat) : Int)) := by
  obtain ⟨q, o, ea, hq, hl⟩ := h.place (by rintro rfl; simp at hj)
  have hx := List.getElem?_eq_getElem hj
  have := hl j _ hx 0 _ rfl
  refine ⟨q, o, ea, hq, ?_⟩
  rw [List.getD_eq_getElem?_getD, hx]
  simpa [yQ9] using this
theorem mkq (n : Nat) (hn : n ≤ 1000) (w : World) : ∃ w', (Instr.makeSlice 138 (.int .i64 (n : Int)) (.int .i64 (n : Int))).run Try.prog w = .ok (.slice (some ⟨w.heap.size, 0, none⟩) n n) w' ∧ BB w' w.heap.size 122 ((List.replicate n 0).map qV) ∧ Below w.heap.size w w' := by
  obtain ⟨zv, hinfo, hzc⟩ := kQ9.info
  obtain ⟨i0, hi, hz0, hz1, hz2⟩ := info_parts hinfo
  have hr := run_make (P := Try.prog) w yQ9.ST yQ9.T i0 zv kQ9.und hi hz0 .i64 .i64 n n (by omega) (Int.le_refl _) (room_int hz2 (by show n * 8 ≤ _; omega)) (by omega)
  rw [Int.toNat_natCast, hz1] at hr
  refine ⟨_, hr, ?_, (Below.refl _ _).alloc (Nat.le_refl _) _⟩
  have hf : ∀ m : Nat, fl yQ9 (List.replicate m 0) = (List.replicate m 0).map qV := fun m => by
    induction m with
    | zero => rfl
    | succ m ih => rw [List.replicate_succ, fl, ih]; rfl
  have hm := madeY kQ9 hzc n
  have e : madeCells zv.cells (n * yQ9.k) = ((List.replicate n 0).map qV).toArray := by
    have hm2 : (madeCells zv.cells (n * yQ9.k)).toList = (List.replicate n 0).map qV := hm.trans (hf n)
    rw [← hm2]
  rw [e]
  exact World.alloc_heap_new _ _
theorem ixQ (q o n c j : Nat) (hj : j < n) (w : World) : (Instr.indexAt 138 (.slice (some ⟨q, o, none⟩) n c) (.int .i64 (j : Int))).run Try.prog w = .ok (.pointer (some ⟨q, o + j, none⟩)) w := by
  have h1 : (j : Int) < (n : Int) := by omega
  go_simp
theorem ixQ0 (q n c j : Nat) (hj : j < n) (w : World) : (Instr.indexAt 138 (.slice (some ⟨q, 0, none⟩) n c) (.int .i64 (j : Int))).run Try.prog w = .ok (.pointer (some ⟨q, j, none⟩)) w := by
  have := ixQ q 0 n c j hj w
  rwa [Nat.zero_add] at this
theorem ldQ {w : World} {q o : Nat} {x : Int} (h : w.cell? ⟨q, o, none⟩ = some (.int .u64 x)) : (Instr.loadAt 122 (.pointer (some ⟨q, o, none⟩))).run Try.prog w = .ok (.int .u64 x) w := by go_simp
theorem stQ {w : World} {q j : Nat} {u : Value} {b : Int} (h : w.cell? ⟨q, j, none⟩ = some u) (hf : w.frozen? ⟨q, j, none⟩ = false) : (Instr.storeAt 122 (.pointer (some ⟨q, j, none⟩)) (.int .u64 b)).run Try.prog w = .ok () (w.setCell ⟨q, j, none⟩ (.int .u64 b)) := by go_simp
theorem remQ (x y : Operand) (j k : Nat) (hk : 0 < k) (w : World) : (do eqGuard .rem 122 x y (.int .u64 ((j : Nat) : Int)) (.int .u64 ((k : Nat) : Int)); binOp .rem 122 (.int .u64 ((j : Nat) : Int)) (.int .u64 ((k : Nat) : Int)) : Sem Value).run Try.prog w = .ok (.int .u64 ((j % k : Nat) : Int)) w := by
  have h0 : ¬ k = 0 := by omega
  have h1 : (j : Int).tmod (k : Int) = ((j % k : Nat) : Int) := by rw [Int.tmod_eq_emod_of_nonneg (by omega)]; rfl
  go_simp
theorem quoQ (x y : Operand) (j : Nat) (hj : j < 18446744073709551616) (w : World) : (do eqGuard .quo 122 x y (.int .u64 ((j : Nat) : Int)) (.int .u64 ((65536 : Nat) : Int)); binOp .quo 122 (.int .u64 ((j : Nat) : Int)) (.int .u64 ((65536 : Nat) : Int)) : Sem Value).run Try.prog w = .ok (.int .u64 ((j / 65536 : Nat) : Int)) w := by
  have h1 : (j : Int).tdiv 65536 = ((j / 65536 : Nat) : Int) := by rw [Int.tdiv_eq_ediv_of_nonneg (by omega)]; rfl
  have h2 : IntKind.u64.wrap ((j : Int) / 65536) = (j : Int) / 65536 := by rw [IntKind.wrap_u64]; omega
  go_simp
theorem mulQ9 (x y : Operand) (j k : Nat)  (w : World) : (do eqGuard .mul 122 x y (.int .u64 ((j : Nat) : Int)) (.int .u64 ((k : Nat) : Int)); binOp .mul 122 (.int .u64 ((j : Nat) : Int)) (.int .u64 ((k : Nat) : Int)) : Sem Value).run Try.prog w = .ok (.int .u64 ((j * k % 18446744073709551616 : Nat) : Int)) w := by
  have hw : IntKind.u64.wrap ((j : Int) * (k : Int)) = ((j * k % 18446744073709551616 : Nat) : Int) := by rw [IntKind.wrap_u64, ← Int.natCast_mul]; omega
  go_simp
theorem addQ9 (x y : Operand) (j k : Nat)  (w : World) : (do eqGuard .add 122 x y (.int .u64 ((j : Nat) : Int)) (.int .u64 ((k : Nat) : Int)); binOp .add 122 (.int .u64 ((j : Nat) : Int)) (.int .u64 ((k : Nat) : Int)) : Sem Value).run Try.prog w = .ok (.int .u64 (((j + k) % 18446744073709551616 : Nat) : Int)) w := by
  have hw : IntKind.u64.wrap ((j : Int) + (k : Int)) = (((j + k) % 18446744073709551616 : Nat) : Int) := by rw [IntKind.wrap_u64]; omega
  go_simp
theorem neqQ (x y : Operand) (j k : Nat)  (w : World) : (do eqGuard .neq 122 x y (.int .u64 ((j : Nat) : Int)) (.int .u64 ((k : Nat) : Int)); binOp .neq 122 (.int .u64 ((j : Nat) : Int)) (.int .u64 ((k : Nat) : Int)) : Sem Value).run Try.prog w = .ok (.bool (!decide (j = k))) w := by
  go_simp
  by_cases h : j = k
  · simp [h]
  · have h2 : ¬ (j : Int) = (k : Int) := by omega
    simp [h, h2]
theorem eqlQ (x y : Operand) (j k : Nat)  (w : World) : (do eqGuard .eql 122 x y (.int .u64 ((j : Nat) : Int)) (.int .u64 ((k : Nat) : Int)); binOp .eql 122 (.int .u64 ((j : Nat) : Int)) (.int .u64 ((k : Nat) : Int)) : Sem Value).run Try.prog w = .ok (.bool (decide (j = k))) w := by
  go_simp
  by_cases h : j = k
  · simp [h]
  · have h2 : ¬ (j : Int) = (k : Int) := by omega
    simp [h, h2]
theorem lssQ (x y : Operand) (j k : Nat)  (w : World) : (do eqGuard .lss 122 x y (.int .u64 ((j : Nat) : Int)) (.int .u64 ((k : Nat) : Int)); binOp .lss 122 (.int .u64 ((j : Nat) : Int)) (.int .u64 ((k : Nat) : Int)) : Sem Value).run Try.prog w = .ok (.bool (decide (j < k))) w := by
  go_simp
theorem shlQ (x y : Operand) (k : Nat) (hk : k ≤ 64) (w : World) : (do eqGuard .shl 122 x y (.int .u64 1) (.int .u64 ((k : Nat) : Int)); binOp .shl 122 (.int .u64 1) (.int .u64 ((k : Nat) : Int)) : Sem Value).run Try.prog w = .ok (.int .u64 ((2 ^ k % 18446744073709551616 : Nat) : Int)) w := by
  have h2 := shift_shl .u64 .u64 1 (k : Int) (by omega) (by show (k : Int) ≤ ((_ : Nat) : Int); simp [IntKind.bits]; omega)
  rw [Int.toNat_natCast] at h2
  rw [Sem.run_bind]
  have e : (eqGuard .shl 122 x y (.int .u64 1) (.int .u64 (k : Int))).run Try.prog w = .ok () w := by go_simp
  rw [e, Result.andThen_ok]
  show (Op.shift .shl .u64 1 .u64 (k : Int)).run Try.prog w = _
  rw [h2, IntKind.wrap_u64]
  have e2 : (1 : Int) * 2 ^ k % 18446744073709551616 = ((2 ^ k % 18446744073709551616 : Nat) : Int) := by rw [Int.one_mul]; simp
  rw [e2]
  rfl
theorem cvI_U (k : Nat) (hk : k < 18446744073709551616) (w : World) : (Go.convert 3 108 (.int .i64 (k : Int))).run Try.prog w = .ok (.int .u64 (k : Int)) w := by
  have hw : IntKind.u64.wrap (k : Int) = (k : Int) := by rw [IntKind.wrap_u64]; omega
  go_simp
theorem v_loopD {c : Code} {Q : Exit → Act → World → Prop} {T0 : Array Value} {w0 : World} (x N : Nat) (I : Nat → Array Value → World → Prop) (hx : ∀ j T w, I j T w → T[x]? = some (gw true (.int .i64 ((j : Int) - 1)))) (h0 : I N T0 w0)
    (round : ∀ j T w, j ≤ N → I j T w → c.wp Try.prog (Exit.then (fun a' w' => ∃ T' j', a' = ⟨T', []⟩ ∧ j = j' + 1 ∧ I j' T' w') Q) ⟨T, []⟩ w) : (Code.loop c).wp Try.prog Q ⟨T0, []⟩ w0 := by
  have sl : ∀ {j : Nat} {T : Array Value} {w : World}, I j T w → (intOf (T.getD x undef) + 1).toNat = j := fun h => by
    rw [getD_of (hx _ _ _ h)]
    show (intOf (.int .i64 _) + 1).toNat = _
    simp [intOf]
  refine wp_loop (fun a w => ∃ j T, a = ⟨T, []⟩ ∧ j ≤ N ∧ I j T w) (fun a w => (intOf (a.tmps.getD x undef) + 1).toNat) ⟨N, T0, rfl, Nat.le_refl _, h0⟩ ?_
  rintro a w ⟨j, T, rfl, hj, hI⟩
  refine Code.wp_mono (fun e a' w' h => ?_) (round j T w hj hI)
  cases e with
  | normal =>
    obtain ⟨T', j', rfl, rfl, hI'⟩ := h
    refine ⟨⟨j', T', rfl, by omega, hI'⟩, ?_⟩
    show (intOf (T'.getD x undef) + 1).toNat < (intOf (T.getD x undef) + 1).toNat
    rw [sl hI', sl hI]
    omega
  | _ => exact h
theorem sub1D (x y : Operand) (j : Nat) (h : j < 9000000000000000000) (w : World) : (do eqGuard .sub 3 x y (.int .i64 (((j + 1 : Nat) : Int) - 1)) (.int .i64 1); binOp .sub 3 (.int .i64 (((j + 1 : Nat) : Int) - 1)) (.int .i64 1) : Sem Value).run Try.prog w = .ok (.int .i64 ((j : Int) - 1)) w := by
  have hw : IntKind.i64.wrap (((j + 1 : Nat) : Int) - 1 - 1) = (j : Int) - 1 := by rw [IntKind.wrap_i64]; omega
  rw [show (((j + 1 : Nat) : Int) - 1) = (j : Int) by omega] at *
  go_simp
theorem geqD (x y : Operand) (j : Nat) (b : Bool) (h : decide (0 < j) = b) (w : World) : (do eqGuard .geq 3 x y (.int .i64 ((j : Int) - 1)) (.int .i64 0); binOp .geq 3 (.int .i64 ((j : Int) - 1)) (.int .i64 0) : Sem Value).run Try.prog w = .ok (.bool b) w := by
  rw [geqC, ← h]
  congr 2
  by_cases hj : 0 < j
  · rw [decide_eq_true hj, decide_eq_true (by omega)]
  · rw [decide_eq_false hj, decide_eq_false (by omega)]
/-- Is a number below another? -/
def lsN (a b : List Nat) : Nat → Bool
  | 0 => false
  | n + 1 => if a.getD n 0 ≠ b.getD n 0 then decide (a.getD n 0 < b.getD n 0) else lsN a b n
def tmS (a : List Nat) (m : Nat) : Nat → List Nat × Nat
  | 0 => (List.replicate a.length 0, 0)
  | j + 1 => let x := (a.getD j 0 * m % 18446744073709551616 + (tmS a m j).2) % 18446744073709551616
    ((tmS a m j).1.set j (x % 65536), x / 65536)
theorem tmS_len (a : List Nat) (m : Nat) : ∀ j, (tmS a m j).1.length = a.length
  | 0 => by simp [tmS]
  | j + 1 => by simp [tmS, tmS_len a m j]
def tmF (a : List Nat) (m : Nat) : List Nat := (tmS a m a.length).1
def hvS (v : Nat) : Nat → List Nat × Nat
  | 0 => (List.replicate 9 0, v)
  | j + 1 => ((hvS v j).1.set j ((hvS v j).2 % 65536), (hvS v j).2 / 65536)
theorem hvS_len (v : Nat) : ∀ j, (hvS v j).1.length = 9
  | 0 => by simp [hvS]
  | j + 1 => by simp [hvS, hvS_len v j]
theorem hvS_le (v : Nat) : ∀ j, (hvS v j).2 ≤ v
  | 0 => Nat.le_refl _
  | j + 1 => Nat.le_trans (Nat.div_le_self _ _) (hvS_le v j)
def hvF (v : Nat) : List Nat := (hvS v 4).1
def wantF (p : Nat) : List Nat := (List.replicate 9 0).set 6 p
def cubeF (t : Nat) : List Nat := tmF (tmF (hvF t) t) t
def rtF (p : Nat) : Nat → Nat → Nat
  | 0, r => r
  | n + 1, r => let t := (r + 2 ^ n % 18446744073709551616) % 18446744073709551616
    rtF p n (if lsN (wantF p) (cubeF t) 9 then r else t)
def rootF (p : Nat) : Nat := rtF p 36 0 % 4294967296
theorem subL (x y : Operand) (n : Nat) (h : n < 9000000000000000000) (w : World) : (do eqGuard .sub 3 x y (.int .i64 ((n : Nat) : Int)) (.int .i64 1); binOp .sub 3 (.int .i64 ((n : Nat) : Int)) (.int .i64 1) : Sem Value).run Try.prog w = .ok (.int .i64 ((n : Int) - 1)) w := by
  have hw : IntKind.i64.wrap ((n : Int) - 1) = (n : Int) - 1 := by rw [IntKind.wrap_i64]; omega
  go_simp
set_option maxRecDepth 100000 in
set_option maxHeartbeats 2000000 in
theorem less19 (L M : List Nat) (a a2 : Option Addr) (c c2 : Nat) (w : World) (h : SlY yQ9 w a L.length c L) (h2 : SlY yQ9 w a2 M.length c2 M) (hl : L.length = M.length) (hm : L.length < 9000000000000000000) :
    Calls Try.prog 105 #[.slice a L.length c, .slice a2 M.length c2] w fun e w' => e = .returned (.bool (lsN L M L.length)) ∧ Below w.heap.size w w' := by
  go_enter Try.func105, Try.ntmps105
  go_upto_region 0 with fail
  refine wp_region_lit ?_
  refine vl_gen (fun T => Rp T 31 [(1, gw true (.slice a2 M.length c2)), (0, gw true (.slice a L.length c))]) (((Rp.nil rfl).cons rfl).cons rfl) (fun Z0 q0 => ?_)
  refine q0.t (.bool false) (ex_assign rfl rfl) fun _ q1 => ?_;clear q0
  refine wpList_nil ?_
  go_upto_region 1 with fail
  refine wp_region_lit ?_
  refine q1.t (.slice a L.length c) (ex_move rfl (q1.e (j := 0) rfl)) fun _ q2 => ?_;clear q1
  refine q2.t (.int .i64 ((L.length : Nat) : Int)) (ex_lenG rfl rfl Try.underlying138 (q2.e (j := 6) rfl)) fun _ q3 => ?_;clear q2
  refine q3.t (.int .i64 (((L.length : Nat) : Int) - 1)) (ex_bin rfl (q3.e (j := 7) rfl) rfl (subL _ _ L.length (by omega) _)) fun _ q4 => ?_;clear q3
  refine q4.t (.int .i64 (((L.length : Nat) : Int) - 1)) (ex_assign rfl (q4.e (j := 8) rfl)) fun _ q5 => ?_;clear q4
  have q6 := ((((Rp.nil q5.z).cons (q5.a 0 rfl)).cons (q5.a 1 rfl)).cons (q5.a 5 rfl))
  clear q5
  refine wpList_nil ?_
  go_upto_region 2 with fail
  refine v_loopD 5 L.length (fun j T wr => Rp T 31 [(5, gw true (.int .i64 (((j : Nat) : Int) - 1))), (1, gw true (.slice a2 M.length c2)), (0, gw true (.slice a L.length c))] ∧ Hid (Below w.heap.size w wr ∧ lsN L M L.length = lsN L M j)) (fun j T w h => h.1.a 5 rfl) ⟨q6, Below.refl _ _, rfl⟩ ?_
  clear q6
  intro j T wr hj hh
  obtain ⟨q100, HJ⟩ := hh
  obtain ⟨br, hL⟩ := HJ.out
  clear HJ
  have zr := br.size
  cases j with
  | succ j =>
    obtain ⟨qa, oa, hqa, hqal, hca⟩ := h.q9 (j := j) (by omega)
    obtain ⟨qb, ob, hqb, hqbl, hcb⟩ := h2.q9 (j := j) (by omega)
    have ejj : (((j + 1 : Nat) : Int) - 1) = ((j : Nat) : Int) := by omega
    go_upto_region 2 with fail
    refine wp_region_lit ?_
    refine q100.t (.int .i64 (((j + 1 : Nat) : Int) - 1)) (ex_move rfl (q100.e (j := 5) rfl)) fun _ q101 => ?_;clear q100
    refine q101.t (.bool true) (ex_bin rfl (q101.e (j := 9) rfl) rfl (geqD _ _ (j + 1) true (by simp) _)) fun _ q102 => ?_;clear q101
    refine wpList_nil ?_
    go_upto_region 4 with fail
    refine wp_cond_true (q102.e (j := 10) rfl) ?_
    go_upto_region 4 with fail
    refine vq_start (C := fun v => v = wr.drew) (by kernel_rfl) (by kernel_rfl) rfl ?_
    have hd : Below wr.heap.size wr wr.drew := (Below.refl _ _).drew
    have hzd : wr.drew.heap.size = wr.heap.size := rfl
    generalize wr.drew = d at *
    have cd : Below w.heap.size w d := br.trans (hd.mono br.size)
    refine q102.q (.slice a L.length c) (fun v hv => ex_move rfl (q102.e (j := 0) rfl)) fun _ q103 => ?_;clear q102
    refine q103.q (.int .i64 ((j : Nat) : Int)) (fun v hv => ex_move rfl ((q103.e (j := 5) rfl).trans (by rw [ejj]))) fun _ q104 => ?_;clear q103
    refine q104.q (.pointer (some ⟨qa, (oa + j), none⟩)) (fun v hv => ex_ix rfl (q104.e (j := 13) rfl) (q104.e (j := 14) rfl) (by rw [hqa]; exact ixQ qa oa L.length c j (by omega) _)) fun _ q105 => ?_;clear q104
    refine q105.q (.int .u64 ((L.getD j 0 : Nat) : Int)) (fun v hv => by subst hv; exact ex_ld rfl (q105.e (j := 15) rfl) (ldQ ((cd.cell (p := ⟨qa, oa + j, none⟩) hqal).trans hca))) fun _ q106 => ?_;clear q105
    refine q106.q (.slice a2 M.length c2) (fun v hv => ex_move rfl (q106.e (j := 1) rfl)) fun _ q107 => ?_;clear q106
    refine q107.q (.int .i64 ((j : Nat) : Int)) (fun v hv => ex_move rfl ((q107.e (j := 5) rfl).trans (by rw [ejj]))) fun _ q108 => ?_;clear q107
    refine q108.q (.pointer (some ⟨qb, (ob + j), none⟩)) (fun v hv => ex_ix rfl (q108.e (j := 17) rfl) (q108.e (j := 18) rfl) (by rw [hqb]; exact ixQ qb ob M.length c2 j (by omega) _)) fun _ q109 => ?_;clear q108
    refine q109.q (.int .u64 ((M.getD j 0 : Nat) : Int)) (fun v hv => by subst hv; exact ex_ld rfl (q109.e (j := 19) rfl) (ldQ ((cd.cell (p := ⟨qb, ob + j, none⟩) hqbl).trans hcb))) fun _ q110 => ?_;clear q109
    refine q110.q (.bool (!decide (L.getD j 0 = M.getD j 0))) (fun v hv => ex_bin rfl (q110.e (j := 16) rfl) (q110.e (j := 20) rfl) (neqQ _ _ _ _ _)) fun _ q111 => ?_;clear q110
    refine vq_nil (fun r1 hr1 => ?_)
    subst hr1
    have q112 := (((((Rp.nil q111.z).cons (q111.a 0 rfl)).cons (q111.a 1 rfl)).cons (q111.a 5 rfl)).cons (q111.a 21 rfl))
    clear q111
    by_cases he : L.getD j 0 = M.getD j 0
    · have q112x := q112.a 21 rfl
      rw [decide_eq_true he] at q112x
      have hS : lsN L M (j + 1) = lsN L M j := by rw [lsN, if_neg (by simpa using he)]
      go_upto_region 3 with fail
      refine wp_cond_false (ev q112x rfl) ?_
      clear q112x
      go_upto_region 3 with fail
      refine wp_region_lit ?_
      refine q112.t (.int .i64 (((j + 1 : Nat) : Int) - 1)) (ex_move rfl (q112.e (j := 5) rfl)) fun _ q113 => ?_;clear q112
      refine q113.t (.int .i64 (((j : Nat) : Int) - 1)) (ex_bin rfl (q113.e (j := 11) rfl) rfl (sub1D _ _ j (by omega) _)) fun _ q114 => ?_;clear q113
      refine q114.t (.int .i64 (((j : Nat) : Int) - 1)) (ex_assign rfl (q114.e (j := 12) rfl)) fun _ q115 => ?_;clear q114
      have q116 := ((((Rp.nil q115.z).cons (q115.a 0 rfl)).cons (q115.a 1 rfl)).cons (q115.a 5 rfl))
      clear q115
      refine wpList_nil ?_
      exact ⟨_, j, rfl, rfl, q116, cd, hL.trans hS⟩
    · have q112x := q112.a 21 rfl
      rw [decide_eq_false he] at q112x
      have hS : lsN L M (j + 1) = decide (L.getD j 0 < M.getD j 0) := by rw [lsN, if_pos (by simpa using he)]
      go_upto_region 5 with fail
      refine wp_cond_true (ev q112x rfl) ?_
      clear q112x
      have q113 := ((((Rp.nil q112.z).cons (q112.a 0 rfl)).cons (q112.a 1 rfl)).cons (q112.a 5 rfl))
      clear q112
      go_upto_region 5 with fail
      refine vq_start (C := fun v => v = r1.drew) (by kernel_rfl) (by kernel_rfl) rfl ?_
      have he : Below r1.heap.size r1 r1.drew := (Below.refl _ _).drew
      have hze : r1.drew.heap.size = r1.heap.size := rfl
      generalize r1.drew = e at *
      have ce : Below w.heap.size w e := cd.trans (he.mono cd.size)
      refine q113.q (.slice a L.length c) (fun v hv => ex_move rfl (q113.e (j := 0) rfl)) fun _ q114 => ?_;clear q113
      refine q114.q (.int .i64 ((j : Nat) : Int)) (fun v hv => ex_move rfl ((q114.e (j := 5) rfl).trans (by rw [ejj]))) fun _ q115 => ?_;clear q114
      refine q115.q (.pointer (some ⟨qa, (oa + j), none⟩)) (fun v hv => ex_ix rfl (q115.e (j := 22) rfl) (q115.e (j := 23) rfl) (by rw [hqa]; exact ixQ qa oa L.length c j (by omega) _)) fun _ q116 => ?_;clear q115
      refine q116.q (.int .u64 ((L.getD j 0 : Nat) : Int)) (fun v hv => by subst hv; exact ex_ld rfl (q116.e (j := 24) rfl) (ldQ ((ce.cell (p := ⟨qa, oa + j, none⟩) hqal).trans hca))) fun _ q117 => ?_;clear q116
      refine q117.q (.slice a2 M.length c2) (fun v hv => ex_move rfl (q117.e (j := 1) rfl)) fun _ q118 => ?_;clear q117
      refine q118.q (.int .i64 ((j : Nat) : Int)) (fun v hv => ex_move rfl ((q118.e (j := 5) rfl).trans (by rw [ejj]))) fun _ q119 => ?_;clear q118
      refine q119.q (.pointer (some ⟨qb, (ob + j), none⟩)) (fun v hv => ex_ix rfl (q119.e (j := 26) rfl) (q119.e (j := 27) rfl) (by rw [hqb]; exact ixQ qb ob M.length c2 j (by omega) _)) fun _ q120 => ?_;clear q119
      refine q120.q (.int .u64 ((M.getD j 0 : Nat) : Int)) (fun v hv => by subst hv; exact ex_ld rfl (q120.e (j := 28) rfl) (ldQ ((ce.cell (p := ⟨qb, ob + j, none⟩) hqbl).trans hcb))) fun _ q121 => ?_;clear q120
      refine q121.q (.bool (decide (L.getD j 0 < M.getD j 0))) (fun v hv => ex_bin rfl (q121.e (j := 25) rfl) (q121.e (j := 29) rfl) (lssQ _ _ _ _ _)) fun _ q122 => ?_;clear q121
      refine q122.q (.bool (decide (L.getD j 0 < M.getD j 0))) (fun v hv => ex_assign rfl (q122.e (j := 30) rfl)) fun _ q123 => ?_;clear q122
      refine vq_nil (fun r2 hr2 => ?_)
      subst hr2
      go_wp2
      refine bodyPost_ret (results_tmp rfl _ _ _) rfl ⟨?_, ce⟩
      rw [getD_of (q123.a 4 rfl), hL, hS]
      rfl
  | zero =>
    go_upto_region 2 with fail
    refine wp_region_lit ?_
    refine q100.t (.int .i64 (((0 : Nat) : Int) - 1)) (ex_move rfl (q100.e (j := 5) rfl)) fun _ q101 => ?_;clear q100
    refine q101.t (.bool false) (ex_bin rfl (q101.e (j := 9) rfl) rfl (geqD _ _ 0 false (by simp) _)) fun _ q102 => ?_;clear q101
    refine wpList_nil ?_
    go_upto_region 6 with fail
    refine wp_cond_false (q102.e (j := 10) rfl) ?_
    go_upto_region 6 with fail
    refine wp_region_lit ?_
    refine q102.t (.bool false) (ex_assign rfl rfl) fun _ q103 => ?_;clear q102
    refine wpList_nil ?_
    go_wp2
    refine bodyPost_ret (results_tmp rfl _ _ _) rfl ⟨?_, br⟩
    rw [getD_of (q103.a 4 rfl), hL]
    rfl
set_option maxRecDepth 100000 in
set_option maxHeartbeats 2000000 in
theorem times19 (L : List Nat) (a : Option Addr) (c m : Nat) (w : World) (h : SlY yQ9 w a L.length c L) (hm : L.length ≤ 1000) :
    Calls Try.prog 103 #[.slice a L.length c, .int .u64 ((m : Nat) : Int)] w fun e w' => ∃ g, e = .returned (.slice (some ⟨g, 0, none⟩) L.length L.length) ∧ SlY yQ9 w' (some ⟨g, 0, none⟩) L.length L.length (tmF L m) ∧ Below w.heap.size w w' := by
  go_enter Try.func103, Try.ntmps103
  go_upto_region 0 with fail
  refine wp_region_lit ?_
  refine vl_gen (fun T => Rp T 34 [(1, gw true (.int .u64 ((m : Nat) : Int))), (0, gw true (.slice a L.length c))]) (((Rp.nil rfl).cons rfl).cons rfl) (fun Z0 q0 => ?_)
  refine q0.t (.slice none 0 0) (ex_assign rfl rfl) fun _ q1 => ?_;clear q0
  refine wpList_nil ?_
  go_upto_region 1 with fail
  refine wp_region_lit ?_
  refine q1.t (.slice a L.length c) (ex_move rfl (q1.e (j := 0) rfl)) fun _ q2 => ?_;clear q1
  refine q2.t (.int .i64 ((L.length : Nat) : Int)) (ex_lenG rfl rfl Try.underlying138 (q2.e (j := 9) rfl)) fun _ q3 => ?_;clear q2
  obtain ⟨w1, hk1, B1, b1⟩ := mkq L.length hm w
  refine vw (.slice (some ⟨w.heap.size, 0, none⟩) L.length L.length) w1 (want_none rfl) (ex_mk19 rfl (q3.e (j := 10) rfl) (q3.e (j := 10) rfl) hk1) rfl q3.z (by decide) (q3.k fun _ q4 => ?_);clear q3
  refine q4.t (.slice (some ⟨w.heap.size, 0, none⟩) L.length L.length) (ex_assign rfl (q4.e (j := 11) rfl)) fun _ q5 => ?_;clear q4
  refine wpList_nil ?_
  go_upto_region 2 with fail
  refine wp_region_lit ?_
  refine q5.t (.int .u64 ((0 : Nat) : Int)) (ex_assign rfl rfl) fun _ q6 => ?_;clear q5
  refine wpList_nil ?_
  go_upto_region 3 with fail
  refine wp_region_lit ?_
  refine q6.t (.int .i64 ((0 : Nat) : Int)) (ex_assign rfl rfl) fun _ q7 => ?_;clear q6
  have q8 := ((((((Rp.nil q7.z).cons (q7.a 0 rfl)).cons (q7.a 1 rfl)).cons (q7.a 5 rfl)).cons (q7.a 6 rfl)).cons (q7.a 7 rfl))
  clear q7
  refine wpList_nil ?_
  go_upto_region 4 with fail
  refine v_loop 7 L.length (fun j T wr => Rp T 34 [(7, gw true (.int .i64 ((j : Nat) : Int))), (6, gw true (.int .u64 (((tmS L m j).2 : Nat) : Int))), (5, gw true (.slice (some ⟨w.heap.size, 0, none⟩) L.length L.length)), (1, gw true (.int .u64 ((m : Nat) : Int))), (0, gw true (.slice a L.length c))] ∧ Hid (BB wr w.heap.size 122 ((tmS L m j).1.map qV) ∧ Below w.heap.size w wr)) (fun j T w h => h.1.a 7 rfl) ⟨q8, B1, b1⟩ ?_
  clear q8 B1 b1 hk1
  intro j T wr hj hh
  obtain ⟨q100, HJ⟩ := hh
  obtain ⟨B1, br⟩ := HJ.out
  clear HJ
  have zr := br.size
  have hl := tmS_len L m j
  by_cases hit : j < L.length
  · obtain ⟨qa, oa, hqa, hqal, hca⟩ := h.q9 (j := j) hit
    have hcr := (br.cell (p := ⟨qa, oa + j, none⟩) hqal).trans hca
    have cj := B1.q9 (j := j) (by omega)
    have hxl : (L.getD j 0 * m % 18446744073709551616 + (tmS L m j).2) % 18446744073709551616 < 18446744073709551616 := Nat.mod_lt _ (by decide)
    go_upto_region 4 with fail
    refine wp_region_lit ?_
    refine q100.t (.int .i64 ((j : Nat) : Int)) (ex_move rfl (q100.e (j := 7) rfl)) fun _ q101 => ?_;clear q100
    refine q101.t (.slice a L.length c) (ex_move rfl (q101.e (j := 0) rfl)) fun _ q102 => ?_;clear q101
    refine q102.t (.int .i64 ((L.length : Nat) : Int)) (ex_lenG rfl rfl Try.underlying138 (q102.e (j := 13) rfl)) fun _ q103 => ?_;clear q102
    refine q103.t (.bool true) (ex_bin rfl (q103.e (j := 12) rfl) (q103.e (j := 14) rfl) (ltT _ _ hit _)) fun _ q104 => ?_;clear q103
    refine wpList_nil ?_
    go_upto_region 6 with fail
    refine wp_cond_true (q104.e (j := 15) rfl) ?_
    go_upto_region 6 with fail
    refine wp_region_lit ?_
    refine q104.t (.slice a L.length c) (ex_move rfl (q104.e (j := 0) rfl)) fun _ q105 => ?_;clear q104
    refine q105.t (.int .i64 ((j : Nat) : Int)) (ex_move rfl (q105.e (j := 7) rfl)) fun _ q106 => ?_;clear q105
    refine q106.t (.pointer (some ⟨qa, (oa + j), none⟩)) (ex_ix rfl (q106.e (j := 18) rfl) (q106.e (j := 19) rfl) (by rw [hqa]; exact ixQ qa oa L.length c j hit _)) fun _ q107 => ?_;clear q106
    refine q107.t (.int .u64 ((L.getD j 0 : Nat) : Int)) (ex_ld rfl (q107.e (j := 20) rfl) (ldQ hcr)) fun _ q108 => ?_;clear q107
    refine q108.t (.int .u64 ((m : Nat) : Int)) (ex_move rfl (q108.e (j := 1) rfl)) fun _ q109 => ?_;clear q108
    refine q109.t (.int .u64 ((L.getD j 0 * m % 18446744073709551616 : Nat) : Int)) (ex_bin rfl (q109.e (j := 21) rfl) (q109.e (j := 22) rfl) (mulQ9 _ _ _ _ _)) fun _ q110 => ?_;clear q109
    refine q110.t (.int .u64 (((tmS L m j).2 : Nat) : Int)) (ex_move rfl (q110.e (j := 6) rfl)) fun _ q111 => ?_;clear q110
    refine q111.t (.int .u64 (((L.getD j 0 * m % 18446744073709551616 + (tmS L m j).2) % 18446744073709551616 : Nat) : Int)) (ex_bin rfl (q111.e (j := 23) rfl) (q111.e (j := 24) rfl) (addQ9 _ _ _ _ _)) fun _ q112 => ?_;clear q111
    refine q112.t (.int .u64 (((L.getD j 0 * m % 18446744073709551616 + (tmS L m j).2) % 18446744073709551616 : Nat) : Int)) (ex_assign rfl (q112.e (j := 25) rfl)) fun _ q113 => ?_;clear q112
    refine wpList_nil ?_
    go_upto_region 7 with fail
    refine wp_region_lit ?_
    refine q113.t (.slice (some ⟨w.heap.size, 0, none⟩) L.length L.length) (ex_move rfl (q113.e (j := 5) rfl)) fun _ q114 => ?_;clear q113
    refine q114.t (.int .i64 ((j : Nat) : Int)) (ex_move rfl (q114.e (j := 7) rfl)) fun _ q115 => ?_;clear q114
    refine q115.t (.int .u64 (((L.getD j 0 * m % 18446744073709551616 + (tmS L m j).2) % 18446744073709551616 : Nat) : Int)) (ex_move rfl (q115.e (j := 8) rfl)) fun _ q116 => ?_;clear q115
    refine q116.t (.int .u64 (((L.getD j 0 * m % 18446744073709551616 + (tmS L m j).2) % 18446744073709551616 % 65536 : Nat) : Int)) (ex_bin rfl (q116.e (j := 28) rfl) rfl (remQ _ _ _ 65536 (by decide) _)) fun _ q117 => ?_;clear q116
    refine q117.t (.pointer (some ⟨w.heap.size, j, none⟩)) (ex_ix rfl (q117.e (j := 26) rfl) (q117.e (j := 27) rfl) (ixQ0 w.heap.size L.length L.length j hit _)) fun _ q118 => ?_;clear q117
    obtain ⟨d2, hd2⟩ : ∃ z, z = wr.setCell ⟨w.heap.size, j, none⟩ (.int .u64 (((L.getD j 0 * m % 18446744073709551616 + (tmS L m j).2) % 18446744073709551616 % 65536 : Nat) : Int)) := ⟨_, rfl⟩
    refine vs d2 (want_none rfl) (ex_st rfl (q118.e (j := 30) rfl) (q118.e (j := 29) rfl) (by rw [hd2]; exact stQ cj (B1.free _))) rfl ?_
    have B2 : BB d2 w.heap.size 122 ((tmS L m (j + 1)).1.map qV) := by rw [hd2]; exact B1.setq _ _
    have be : Below w.heap.size w d2 := by rw [hd2]; exact br.trans (bel_ge (upd1 _ _ _ _) zr (Nat.le_refl _))
    clear hd2
    refine wpList_nil ?_
    go_upto_region 8 with fail
    refine wp_region_lit ?_
    refine q118.t (.int .u64 (((L.getD j 0 * m % 18446744073709551616 + (tmS L m j).2) % 18446744073709551616 : Nat) : Int)) (ex_move rfl (q118.e (j := 8) rfl)) fun _ q119 => ?_;clear q118
    refine q119.t (.int .u64 (((L.getD j 0 * m % 18446744073709551616 + (tmS L m j).2) % 18446744073709551616 / 65536 : Nat) : Int)) (ex_bin rfl (q119.e (j := 31) rfl) rfl (quoQ _ _ _ hxl _)) fun _ q120 => ?_;clear q119
    refine q120.t (.int .u64 (((L.getD j 0 * m % 18446744073709551616 + (tmS L m j).2) % 18446744073709551616 / 65536 : Nat) : Int)) (ex_assign rfl (q120.e (j := 32) rfl)) fun _ q121 => ?_;clear q120
    have q122 := ((((((Rp.nil q121.z).cons (q121.a 0 rfl)).cons (q121.a 1 rfl)).cons (q121.a 5 rfl)).cons (q121.a 6 rfl)).cons (q121.a 7 rfl))
    clear q121
    refine wpList_nil ?_
    go_upto_region 5 with fail
    refine wp_region_lit ?_
    refine q122.t (.int .i64 ((j : Nat) : Int)) (ex_move rfl (q122.e (j := 7) rfl)) fun _ q123 => ?_;clear q122
    refine q123.t (.int .i64 ((j + 1 : Nat) : Int)) (ex_bin rfl (q123.e (j := 16) rfl) rfl (add1C _ _ j (by omega) _)) fun _ q124 => ?_;clear q123
    refine q124.t (.int .i64 ((j + 1 : Nat) : Int)) (ex_assign rfl (q124.e (j := 17) rfl)) fun _ q125 => ?_;clear q124
    have q126 := ((((((Rp.nil q125.z).cons (q125.a 0 rfl)).cons (q125.a 1 rfl)).cons (q125.a 5 rfl)).cons (q125.a 6 rfl)).cons (q125.a 7 rfl))
    clear q125
    refine wpList_nil ?_
    exact ⟨_, rfl, hit, q126, B2, be⟩
  · obtain rfl : j = L.length := by omega
    go_upto_region 4 with fail
    refine wp_region_lit ?_
    refine q100.t (.int .i64 ((L.length : Nat) : Int)) (ex_move rfl (q100.e (j := 7) rfl)) fun _ q101 => ?_;clear q100
    refine q101.t (.slice a L.length c) (ex_move rfl (q101.e (j := 0) rfl)) fun _ q102 => ?_;clear q101
    refine q102.t (.int .i64 ((L.length : Nat) : Int)) (ex_lenG rfl rfl Try.underlying138 (q102.e (j := 13) rfl)) fun _ q103 => ?_;clear q102
    refine q103.t (.bool false) (ex_bin rfl (q103.e (j := 12) rfl) (q103.e (j := 14) rfl) (ltF _ _ hit _)) fun _ q104 => ?_;clear q103
    refine wpList_nil ?_
    go_upto_region 9 with fail
    refine wp_cond_false (q104.e (j := 15) rfl) ?_
    go_upto_region 9 with fail
    refine wp_region_lit ?_
    refine q104.t (.slice (some ⟨w.heap.size, 0, none⟩) L.length L.length) (ex_move rfl (q104.e (j := 5) rfl)) fun _ q105 => ?_;clear q104
    refine q105.t (.slice (some ⟨w.heap.size, 0, none⟩) L.length L.length) (ex_assign rfl (q105.e (j := 33) rfl)) fun _ q106 => ?_;clear q105
    refine wpList_nil ?_
    have sF := B1.slq (by rw [hl]; unfold maxLen; omega)
    rw [hl] at sF
    go_wp2
    refine bodyPost_ret (results_tmp rfl _ _ _) rfl ⟨w.heap.size, ?_, sF, br⟩
    rw [getD_of (q106.a 4 rfl)]
    rfl
set_option maxRecDepth 100000 in
set_option maxHeartbeats 2000000 in
theorem halves19 (v : Nat) (hv : v < 18446744073709551616) (w : World) :
    Calls Try.prog 104 #[.int .u64 ((v : Nat) : Int)] w fun e w' => ∃ g, e = .returned (.slice (some ⟨g, 0, none⟩) 9 9) ∧ SlY yQ9 w' (some ⟨g, 0, none⟩) 9 9 (hvF v) ∧ Below w.heap.size w w' := by
  go_enter Try.func104, Try.ntmps104
  go_upto_region 0 with fail
  refine wp_region_lit ?_
  refine vl_gen (fun T => Rp T 18 [(0, gw true (.int .u64 ((v : Nat) : Int)))]) ((Rp.nil rfl).cons rfl) (fun Z0 q0 => ?_)
  refine q0.t (.slice none 0 0) (ex_assign rfl rfl) fun _ q1 => ?_;clear q0
  refine wpList_nil ?_
  go_upto_region 1 with fail
  refine wp_region_lit ?_
  obtain ⟨w1, hk1, B1, b1⟩ := mkq 9 (by decide) w
  refine vw (.slice (some ⟨w.heap.size, 0, none⟩) 9 9) w1 (want_none rfl) (ex_mk19 rfl rfl rfl hk1) rfl q1.z (by decide) (q1.k fun _ q2 => ?_);clear q1
  refine q2.t (.slice (some ⟨w.heap.size, 0, none⟩) 9 9) (ex_assign rfl (q2.e (j := 5) rfl)) fun _ q3 => ?_;clear q2
  refine wpList_nil ?_
  go_upto_region 2 with fail
  refine wp_region_lit ?_
  refine q3.t (.int .i64 ((0 : Nat) : Int)) (ex_assign rfl rfl) fun _ q4 => ?_;clear q3
  have q5 := ((((Rp.nil q4.z).cons (q4.a 0 rfl)).cons (q4.a 3 rfl)).cons (q4.a 4 rfl))
  clear q4
  refine wpList_nil ?_
  go_upto_region 3 with fail
  refine v_loop 4 4 (fun j T wr => Rp T 18 [(4, gw true (.int .i64 ((j : Nat) : Int))), (3, gw true (.slice (some ⟨w.heap.size, 0, none⟩) 9 9)), (0, gw true (.int .u64 (((hvS v j).2 : Nat) : Int)))] ∧ Hid (BB wr w.heap.size 122 ((hvS v j).1.map qV) ∧ Below w.heap.size w wr)) (fun j T w h => h.1.a 4 rfl) ⟨q5, B1, b1⟩ ?_
  clear q5 B1 b1 hk1
  intro j T wr hj hh
  obtain ⟨q100, HJ⟩ := hh
  obtain ⟨B1, br⟩ := HJ.out
  clear HJ
  have zr := br.size
  have hl := hvS_len v j
  have hle := hvS_le v j
  by_cases hit : j < 4
  · have cj := B1.q9 (j := j) (by omega)
    go_upto_region 3 with fail
    refine wp_region_lit ?_
    refine q100.t (.int .i64 ((j : Nat) : Int)) (ex_move rfl (q100.e (j := 4) rfl)) fun _ q101 => ?_;clear q100
    refine q101.t (.bool true) (ex_bin rfl (q101.e (j := 6) rfl) rfl (ltT _ _ hit _)) fun _ q102 => ?_;clear q101
    refine wpList_nil ?_
    go_upto_region 5 with fail
    refine wp_cond_true (q102.e (j := 7) rfl) ?_
    go_upto_region 5 with fail
    refine wp_region_lit ?_
    refine q102.t (.slice (some ⟨w.heap.size, 0, none⟩) 9 9) (ex_move rfl (q102.e (j := 3) rfl)) fun _ q103 => ?_;clear q102
    refine q103.t (.int .i64 ((j : Nat) : Int)) (ex_move rfl (q103.e (j := 4) rfl)) fun _ q104 => ?_;clear q103
    refine q104.t (.int .u64 (((hvS v j).2 : Nat) : Int)) (ex_move rfl (q104.e (j := 0) rfl)) fun _ q105 => ?_;clear q104
    refine q105.t (.int .u64 (((hvS v j).2 % 65536 : Nat) : Int)) (ex_bin rfl (q105.e (j := 12) rfl) rfl (remQ _ _ _ 65536 (by decide) _)) fun _ q106 => ?_;clear q105
    refine q106.t (.pointer (some ⟨w.heap.size, j, none⟩)) (ex_ix rfl (q106.e (j := 10) rfl) (q106.e (j := 11) rfl) (ixQ0 w.heap.size 9 9 j (by omega) _)) fun _ q107 => ?_;clear q106
    obtain ⟨d2, hd2⟩ : ∃ z, z = wr.setCell ⟨w.heap.size, j, none⟩ (.int .u64 (((hvS v j).2 % 65536 : Nat) : Int)) := ⟨_, rfl⟩
    refine vs d2 (want_none rfl) (ex_st rfl (q107.e (j := 14) rfl) (q107.e (j := 13) rfl) (by rw [hd2]; exact stQ cj (B1.free _))) rfl ?_
    have B2 : BB d2 w.heap.size 122 ((hvS v (j + 1)).1.map qV) := by rw [hd2]; exact B1.setq _ _
    have be : Below w.heap.size w d2 := by rw [hd2]; exact br.trans (bel_ge (upd1 _ _ _ _) zr (Nat.le_refl _))
    clear hd2
    refine wpList_nil ?_
    go_upto_region 6 with fail
    refine wp_region_lit ?_
    refine q107.t (.int .u64 (((hvS v j).2 : Nat) : Int)) (ex_move rfl (q107.e (j := 0) rfl)) fun _ q108 => ?_;clear q107
    refine q108.t (.int .u64 (((hvS v j).2 / 65536 : Nat) : Int)) (ex_bin rfl (q108.e (j := 15) rfl) rfl (quoQ _ _ _ (by omega) _)) fun _ q109 => ?_;clear q108
    refine q109.t (.int .u64 (((hvS v j).2 / 65536 : Nat) : Int)) (ex_assign rfl (q109.e (j := 16) rfl)) fun _ q110 => ?_;clear q109
    have q111 := ((((Rp.nil q110.z).cons (q110.a 0 rfl)).cons (q110.a 3 rfl)).cons (q110.a 4 rfl))
    clear q110
    refine wpList_nil ?_
    go_upto_region 4 with fail
    refine wp_region_lit ?_
    refine q111.t (.int .i64 ((j : Nat) : Int)) (ex_move rfl (q111.e (j := 4) rfl)) fun _ q112 => ?_;clear q111
    refine q112.t (.int .i64 ((j + 1 : Nat) : Int)) (ex_bin rfl (q112.e (j := 8) rfl) rfl (add1C _ _ j (by omega) _)) fun _ q113 => ?_;clear q112
    refine q113.t (.int .i64 ((j + 1 : Nat) : Int)) (ex_assign rfl (q113.e (j := 9) rfl)) fun _ q114 => ?_;clear q113
    have q115 := ((((Rp.nil q114.z).cons (q114.a 0 rfl)).cons (q114.a 3 rfl)).cons (q114.a 4 rfl))
    clear q114
    refine wpList_nil ?_
    exact ⟨_, rfl, hit, q115, B2, be⟩
  · obtain rfl : j = 4 := by omega
    go_upto_region 3 with fail
    refine wp_region_lit ?_
    refine q100.t (.int .i64 ((4 : Nat) : Int)) (ex_move rfl (q100.e (j := 4) rfl)) fun _ q101 => ?_;clear q100
    refine q101.t (.bool false) (ex_bin rfl (q101.e (j := 6) rfl) rfl (ltF _ _ hit _)) fun _ q102 => ?_;clear q101
    refine wpList_nil ?_
    go_upto_region 7 with fail
    refine wp_cond_false (q102.e (j := 7) rfl) ?_
    go_upto_region 7 with fail
    refine wp_region_lit ?_
    refine q102.t (.slice (some ⟨w.heap.size, 0, none⟩) 9 9) (ex_move rfl (q102.e (j := 3) rfl)) fun _ q103 => ?_;clear q102
    refine q103.t (.slice (some ⟨w.heap.size, 0, none⟩) 9 9) (ex_assign rfl (q103.e (j := 17) rfl)) fun _ q104 => ?_;clear q103
    refine wpList_nil ?_
    have sF := B1.slq (by rw [hl]; unfold maxLen; omega)
    rw [hl] at sF
    go_wp2
    refine bodyPost_ret (results_tmp rfl _ _ _) rfl ⟨w.heap.size, ?_, sF, br⟩
    rw [getD_of (q104.a 2 rfl)]
    rfl
theorem cvQ_U (k : Nat) (hk : k < 4294967296) (w : World) : (Go.convert 122 103 (.int .u64 (k : Int))).run Try.prog w = .ok (.int .u32 (k : Int)) w := by
  have hw : IntKind.u32.wrap (k : Int) = (k : Int) := by rw [IntKind.wrap_u32]; omega
  go_simp
set_option maxRecDepth 100000 in
set_option maxHeartbeats 2000000 in
theorem root19 (p : Nat) (w : World) :
    Calls Try.prog 91 #[.int .u64 ((p : Nat) : Int)] w fun e w' => e = .returned (.int .u32 ((rootF p : Nat) : Int)) ∧ Below w.heap.size w w' := by
  go_enter Try.func91, Try.ntmps91
  go_upto_region 0 with fail
  refine wp_region_lit ?_
  refine vl_gen (fun T => Rp T 35 [(0, gw true (.int .u64 ((p : Nat) : Int)))]) ((Rp.nil rfl).cons rfl) (fun Z0 q0 => ?_)
  refine q0.t (.int .u32 0) (ex_assign rfl rfl) fun _ q1 => ?_;clear q0
  refine wpList_nil ?_
  go_upto_region 1 with fail
  refine wp_region_lit ?_
  obtain ⟨w1, hk1, B1, b1⟩ := mkq 9 (by decide) w
  have z1 := b1.size
  refine vw (.slice (some ⟨w.heap.size, 0, none⟩) 9 9) w1 (want_none rfl) (ex_mk19 rfl rfl rfl hk1) rfl q1.z (by decide) (q1.k fun _ q2 => ?_);clear q1
  refine q2.t (.slice (some ⟨w.heap.size, 0, none⟩) 9 9) (ex_assign rfl (q2.e (j := 8) rfl)) fun _ q3 => ?_;clear q2
  refine wpList_nil ?_
  go_upto_region 2 with fail
  refine wp_region_lit ?_
  refine q3.t (.slice (some ⟨w.heap.size, 0, none⟩) 9 9) (ex_move rfl (q3.e (j := 3) rfl)) fun _ q4 => ?_;clear q3
  refine q4.t (.int .u64 ((p : Nat) : Int)) (ex_move rfl (q4.e (j := 0) rfl)) fun _ q5 => ?_;clear q4
  refine q5.t (.pointer (some ⟨w.heap.size, 6, none⟩)) (ex_ix rfl (q5.e (j := 9) rfl) rfl (ixQ0 w.heap.size 9 9 6 (by decide) _)) fun _ q6 => ?_;clear q5
  have c6 := B1.q9 (j := 6) (by simp)
  obtain ⟨w2, hw2⟩ : ∃ z, z = w1.setCell ⟨w.heap.size, 6, none⟩ (.int .u64 ((p : Nat) : Int)) := ⟨_, rfl⟩
  refine vs w2 (want_none rfl) (ex_st rfl (q6.e (j := 11) rfl) (q6.e (j := 10) rfl) (by rw [hw2]; exact stQ c6 (B1.free _))) rfl ?_
  have B2 : BB w2 w.heap.size 122 ((wantF p).map qV) := by rw [hw2]; exact B1.setq _ _
  have b2 : Below w.heap.size w w2 := by rw [hw2]; exact b1.trans (bel_ge (upd1 _ _ _ _) z1 (Nat.le_refl _))
  clear hw2 hk1 B1 c6
  refine wpList_nil ?_
  go_upto_region 3 with fail
  refine wp_region_lit ?_
  refine q6.t (.int .u64 ((0 : Nat) : Int)) (ex_assign rfl rfl) fun _ q7 => ?_;clear q6
  refine wpList_nil ?_
  go_upto_region 4 with fail
  refine wp_region_lit ?_
  refine q7.t (.int .i64 (((36 : Nat) : Int) - 1)) (ex_assign rfl rfl) fun _ q8 => ?_;clear q7
  have q9 := ((((Rp.nil q8.z).cons (q8.a 3 rfl)).cons (q8.a 4 rfl)).cons (q8.a 5 rfl))
  clear q8
  refine wpList_nil ?_
  go_upto_region 5 with fail
  refine v_loopD 5 36 (fun j T wr => ∃ r, Rp T 35 [(5, gw true (.int .i64 (((j : Nat) : Int) - 1))), (4, gw true (.int .u64 ((r : Nat) : Int))), (3, gw true (.slice (some ⟨w.heap.size, 0, none⟩) 9 9))] ∧ Hid (BB wr w.heap.size 122 ((wantF p).map qV) ∧ Below w.heap.size w wr ∧ rtF p 36 0 = rtF p j r)) (fun j T w h => by obtain ⟨r, h, _⟩ := h; exact h.a 5 rfl) ⟨0, q9, B2, b2, rfl⟩ ?_
  clear q9 B2 b2
  intro j T wr hj hh
  obtain ⟨r, q100, HJ⟩ := hh
  obtain ⟨B2, br, hR⟩ := HJ.out
  clear HJ
  have zr := br.size
  cases j with
  | succ j =>
    obtain ⟨t, ht⟩ : ∃ t, t = (r + 2 ^ j % 18446744073709551616) % 18446744073709551616 := ⟨_, rfl⟩
    have htl : t < 18446744073709551616 := by rw [ht]; exact Nat.mod_lt _ (by decide)
    have ejj : (((j + 1 : Nat) : Int) - 1) = ((j : Nat) : Int) := by omega
    have hS : rtF p (j + 1) r = rtF p j (if lsN (wantF p) (cubeF t) 9 then r else t) := by rw [rtF, ht]
    go_upto_region 5 with fail
    refine wp_region_lit ?_
    refine q100.t (.int .i64 (((j + 1 : Nat) : Int) - 1)) (ex_move rfl (q100.e (j := 5) rfl)) fun _ q101 => ?_;clear q100
    refine q101.t (.bool true) (ex_bin rfl (q101.e (j := 12) rfl) rfl (geqD _ _ (j + 1) true (by simp) _)) fun _ q102 => ?_;clear q101
    refine wpList_nil ?_
    go_upto_region 7 with fail
    refine wp_cond_true (q102.e (j := 13) rfl) ?_
    go_upto_region 7 with fail
    refine wp_region_lit ?_
    refine q102.t (.int .u64 ((r : Nat) : Int)) (ex_move rfl (q102.e (j := 4) rfl)) fun _ q103 => ?_;clear q102
    refine q103.t (.int .i64 ((j : Nat) : Int)) (ex_move rfl ((q103.e (j := 5) rfl).trans (by rw [ejj]))) fun _ q104 => ?_;clear q103
    refine q104.t (.int .u64 ((j : Nat) : Int)) (ex_cv19 rfl (q104.e (j := 17) rfl) (cvI_U j (by omega) _)) fun _ q105 => ?_;clear q104
    refine q105.t (.int .u64 ((2 ^ j % 18446744073709551616 : Nat) : Int)) (ex_bin (X := .int .u64 1) rfl rfl (q105.e (j := 18) rfl) (shlQ _ _ j (by omega) _)) fun _ q106 => ?_;clear q105
    refine q106.t (.int .u64 ((t : Nat) : Int)) (ex_bin rfl (q106.e (j := 16) rfl) (q106.e (j := 19) rfl) (by rw [addQ9, ht])) fun _ q107 => ?_;clear q106
    refine q107.t (.int .u64 ((t : Nat) : Int)) (ex_assign rfl (q107.e (j := 20) rfl)) fun _ q108 => ?_;clear q107
    have q109 := (((((Rp.nil q108.z).cons (q108.a 3 rfl)).cons (q108.a 4 rfl)).cons (q108.a 5 rfl)).cons (q108.a 6 rfl))
    clear q108
    refine wpList_nil ?_
    go_upto_region 8 with fail
    refine wp_region_lit ?_
    refine q109.t (.int .u64 ((t : Nat) : Int)) (ex_move rfl (q109.e (j := 6) rfl)) fun _ q110 => ?_;clear q109
    refine vcallP (want_none rfl) (ex_call rfl (by simp only [List.map_toArray, List.map_cons, List.map_nil, (q110.e (j := 21) rfl), evc] <;> rfl) rfl) (halves19 t htl wr) rfl q110.z (by decide) ?_
    rintro e v1 ⟨g1, rfl, s1, e1⟩
    refine ⟨_, rfl, q110.k fun _ q111 => ?_⟩;clear q110
    have f1 : Below w.heap.size w v1 := br.trans (e1.mono zr)
    refine q111.t (.int .u64 ((t : Nat) : Int)) (ex_move rfl (q111.e (j := 6) rfl)) fun _ q112 => ?_;clear q111
    have l1 : (hvF t).length = 9 := hvS_len t 4
    rw [← l1] at s1
    refine vcallP (want_none rfl) (ex_call rfl (by simp only [List.map_toArray, List.map_cons, List.map_nil, (q112.e (j := 22) rfl), (q112.e (j := 23) rfl), evc] <;> rfl) rfl) ((by rw [l1] at s1; have := times19 (hvF t) (some ⟨g1, 0, none⟩) 9 t v1 (by rw [l1]; exact s1) (by omega); rw [l1] at this; exact this)) rfl q112.z (by decide) ?_
    rintro e v2 ⟨g2, rfl, s2, e2⟩
    refine ⟨_, rfl, q112.k fun _ q113 => ?_⟩;clear q112
    have f2 : Below w.heap.size w v2 := f1.trans (e2.mono f1.size)
    have l2 : (tmF (hvF t) t).length = 9 := (tmS_len _ _ _).trans l1
    refine q113.t (.int .u64 ((t : Nat) : Int)) (ex_move rfl (q113.e (j := 6) rfl)) fun _ q114 => ?_;clear q113
    refine vcallP (want_none rfl) (ex_call rfl (by simp only [List.map_toArray, List.map_cons, List.map_nil, (q114.e (j := 24) rfl), (q114.e (j := 25) rfl), evc] <;> rfl) rfl) ((by have := times19 (tmF (hvF t) t) (some ⟨g2, 0, none⟩) 9 t v2 (by rw [l2]; exact s2) (by omega); rw [l2] at this; exact this)) rfl q114.z (by decide) ?_
    rintro e v3 ⟨g3, rfl, s3, e3⟩
    refine ⟨_, rfl, q114.k fun _ q115 => ?_⟩;clear q114
    have f3 : Below w.heap.size w v3 := f2.trans (e3.mono f2.size)
    have l3 : (cubeF t).length = 9 := (tmS_len _ _ _).trans l2
    have B3 := ((B2.later e1).later e2).later e3
    refine q115.t (.slice (some ⟨g3, 0, none⟩) 9 9) (ex_assign rfl (q115.e (j := 26) rfl)) fun _ q116 => ?_;clear q115
    have q117 := ((((((Rp.nil q116.z).cons (q116.a 3 rfl)).cons (q116.a 4 rfl)).cons (q116.a 5 rfl)).cons (q116.a 6 rfl)).cons (q116.a 7 rfl))
    clear q116
    refine wpList_nil ?_
    go_upto_region 9 with fail
    refine wp_region_lit ?_
    refine q117.t (.slice (some ⟨w.heap.size, 0, none⟩) 9 9) (ex_move rfl (q117.e (j := 3) rfl)) fun _ q118 => ?_;clear q117
    refine q118.t (.slice (some ⟨g3, 0, none⟩) 9 9) (ex_move rfl (q118.e (j := 7) rfl)) fun _ q119 => ?_;clear q118
    refine vcallP (want_none rfl) (ex_call rfl (by simp only [List.map_toArray, List.map_cons, List.map_nil, (q119.e (j := 27) rfl), (q119.e (j := 28) rfl), evc] <;> rfl) rfl) ((by have sw := B3.slq (L := wantF p) (by unfold maxLen wantF; simp); have := less19 (wantF p) (cubeF t) (some ⟨w.heap.size, 0, none⟩) (some ⟨g3, 0, none⟩) 9 9 v3 sw (by rw [l3]; exact s3) (by rw [l3]; rfl) (by show (9 : Nat) < _; decide); rw [l3] at this; exact this)) rfl q119.z (by decide) ?_
    rintro e v4 ⟨rfl, e4⟩
    refine ⟨_, rfl, q119.k fun _ q120 => ?_⟩;clear q119
    have f4 : Below w.heap.size w v4 := f3.trans (e4.mono f3.size)
    have B4 := B3.later e4
    refine q120.t (.bool (!lsN (wantF p) (cubeF t) 9)) (ex_not rfl (q120.e (j := 29) rfl)) fun _ q121 => ?_;clear q120
    have q122 := ((((((Rp.nil q121.z).cons (q121.a 3 rfl)).cons (q121.a 4 rfl)).cons (q121.a 5 rfl)).cons (q121.a 6 rfl)).cons (q121.a 30 rfl))
    clear q121
    refine wpList_nil ?_
    cases hls : lsN (wantF p) (cubeF t) 9 with
    | true =>
      have q122x := q122.a 30 rfl
      rw [hls] at q122x
      go_upto_region 6 with fail
      refine wp_cond_false (ev q122x rfl) ?_
      clear q122x
      go_upto_region 6 with fail
      refine wp_region_lit ?_
      refine q122.t (.int .i64 (((j + 1 : Nat) : Int) - 1)) (ex_move rfl (q122.e (j := 5) rfl)) fun _ q123 => ?_;clear q122
      refine q123.t (.int .i64 (((j : Nat) : Int) - 1)) (ex_bin rfl (q123.e (j := 14) rfl) rfl (sub1D _ _ j (by omega) _)) fun _ q124 => ?_;clear q123
      refine q124.t (.int .i64 (((j : Nat) : Int) - 1)) (ex_assign rfl (q124.e (j := 15) rfl)) fun _ q125 => ?_;clear q124
      have q126 := ((((Rp.nil q125.z).cons (q125.a 3 rfl)).cons (q125.a 4 rfl)).cons (q125.a 5 rfl))
      clear q125
      refine wpList_nil ?_
      exact ⟨_, j, rfl, rfl, r, q126, B4, f4, hR.trans (by rw [hS, hls]; rfl)⟩
    | false =>
      have q122x := q122.a 30 rfl
      rw [hls] at q122x
      go_upto_region 10 with fail
      refine wp_cond_true (ev q122x rfl) ?_
      clear q122x
      go_upto_region 10 with fail
      refine wp_region_lit ?_
      refine q122.t (.int .u64 ((t : Nat) : Int)) (ex_move rfl (q122.e (j := 6) rfl)) fun _ q123 => ?_;clear q122
      refine q123.t (.int .u64 ((t : Nat) : Int)) (ex_assign rfl (q123.e (j := 31) rfl)) fun _ q124 => ?_;clear q123
      have q125 := ((((Rp.nil q124.z).cons (q124.a 3 rfl)).cons (q124.a 4 rfl)).cons (q124.a 5 rfl))
      clear q124
      refine wpList_nil ?_
      go_upto_region 6 with fail
      refine wp_region_lit ?_
      refine q125.t (.int .i64 (((j + 1 : Nat) : Int) - 1)) (ex_move rfl (q125.e (j := 5) rfl)) fun _ q126 => ?_;clear q125
      refine q126.t (.int .i64 (((j : Nat) : Int) - 1)) (ex_bin rfl (q126.e (j := 14) rfl) rfl (sub1D _ _ j (by omega) _)) fun _ q127 => ?_;clear q126
      refine q127.t (.int .i64 (((j : Nat) : Int) - 1)) (ex_assign rfl (q127.e (j := 15) rfl)) fun _ q128 => ?_;clear q127
      have q129 := ((((Rp.nil q128.z).cons (q128.a 3 rfl)).cons (q128.a 4 rfl)).cons (q128.a 5 rfl))
      clear q128
      refine wpList_nil ?_
      exact ⟨_, j, rfl, rfl, t, q129, B4, f4, hR.trans (by rw [hS, hls]; rfl)⟩
  | zero =>
    go_upto_region 5 with fail
    refine wp_region_lit ?_
    refine q100.t (.int .i64 (((0 : Nat) : Int) - 1)) (ex_move rfl (q100.e (j := 5) rfl)) fun _ q101 => ?_;clear q100
    refine q101.t (.bool false) (ex_bin rfl (q101.e (j := 12) rfl) rfl (geqD _ _ 0 false (by simp) _)) fun _ q102 => ?_;clear q101
    refine wpList_nil ?_
    go_upto_region 11 with fail
    refine wp_cond_false (q102.e (j := 13) rfl) ?_
    go_upto_region 11 with fail
    refine wp_region_lit ?_
    refine q102.t (.int .u64 ((r : Nat) : Int)) (ex_move rfl (q102.e (j := 4) rfl)) fun _ q103 => ?_;clear q102
    refine q103.t (.int .u64 ((r % 4294967296 : Nat) : Int)) (ex_bin rfl (q103.e (j := 32) rfl) rfl (remQ _ _ _ 4294967296 (by decide) _)) fun _ q104 => ?_;clear q103
    refine q104.t (.int .u32 ((rootF p : Nat) : Int)) (ex_cv19 rfl (q104.e (j := 33) rfl) (by rw [cvQ_U _ (Nat.mod_lt _ (by decide)), rootF, hR]; rfl)) fun _ q105 => ?_;clear q104
    refine q105.t (.int .u32 ((rootF p : Nat) : Int)) (ex_assign rfl (q105.e (j := 34) rfl)) fun _ q106 => ?_;clear q105
    refine wpList_nil ?_
    go_wp2
    refine bodyPost_ret (results_tmp rfl _ _ _) rfl ⟨?_, br⟩
    rw [getD_of (q106.a 2 rfl)]
    rfl

end Go.Proofs.Ytomiifnhcojilaa
