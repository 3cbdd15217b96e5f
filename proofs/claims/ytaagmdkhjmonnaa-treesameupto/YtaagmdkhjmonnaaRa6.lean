import Derived.Test.YtaagmdkhjmonnaaRa4
namespace Go.Proofs.Ytaagmdkhjmonnaa
open Go.RowKit Go.Maps
open Classical
set_option linter.unusedVariables false
set_option linter.unusedSimpArgs false

theorem v_loopG20 {c : Code} {Q : Exit → Act → World → Prop} {T0 : Array Value} {w0 : World} (N : Nat) (I : Nat → Array Value → World → Prop) (h0 : I 0 T0 w0)
    (round : ∀ j T w, j ≤ N → I j T w → c.wp Try.prog (Exit.then (fun a' w' => ∃ T', a' = ⟨T', []⟩ ∧ j + 1 ≤ N ∧ I (j + 1) T' w') Q) ⟨T, []⟩ w) : (Code.loop c).wp Try.prog Q ⟨T0, []⟩ w0 := by
  have top : ∀ (p : Nat → Prop) (n : Nat), ∃ g, (∀ j, j ≤ n → p j → j ≤ g) ∧ ((∃ j, j ≤ n ∧ p j) → g ≤ n ∧ p g) := by
    intro p n
    induction n with
    | zero =>
      refine ⟨0, fun j hj _ => hj, ?_⟩
      rintro ⟨j, hj, h⟩
      obtain rfl : j = 0 := by omega
      exact ⟨hj, h⟩
    | succ n ih =>
      by_cases hp : p (n + 1)
      · exact ⟨n + 1, fun j hj _ => hj, fun _ => ⟨Nat.le_refl _, hp⟩⟩
      · obtain ⟨g, h1, h2⟩ := ih
        refine ⟨g, fun j hj h => ?_, ?_⟩
        · by_cases e : j = n + 1
          · subst e; exact absurd h hp
          · exact h1 j (by omega) h
        · rintro ⟨j, hj, h⟩
          by_cases e : j = n + 1
          · subst e; exact absurd h hp
          · obtain ⟨a, b⟩ := h2 ⟨j, by omega, h⟩
            exact ⟨by omega, b⟩
  obtain ⟨G, hG⟩ := Classical.axiomOfChoice (fun (x : Act × World) => top (fun j => I j x.1.tmps x.2) N)
  refine wp_loop (fun a w => ∃ j T, a = ⟨T, []⟩ ∧ j ≤ N ∧ I j T w) (fun a w => N - G (a, w)) ⟨0, T0, rfl, Nat.zero_le _, h0⟩ ?_
  rintro a w ⟨j, T, rfl, hj, hI⟩
  obtain ⟨g1, g2⟩ := (hG (⟨T, []⟩, w)).2 ⟨j, hj, hI⟩
  refine Code.wp_mono (fun e a' w' h => ?_) (round _ T w g1 g2)
  cases e with
  | normal =>
    obtain ⟨T', rfl, hj', hI'⟩ := h
    have h1 := (hG (⟨T', []⟩, w')).1 _ hj' hI'
    refine ⟨⟨_, T', rfl, hj', hI'⟩, ?_⟩
    show N - G (⟨T', []⟩, w') < N - G (⟨T, []⟩, w)
    omega
  | _ => exact h
theorem mul2 (x y : Operand) (k : Nat) (h : k ≤ 1000000000) (w : World) : (do eqGuard .mul 3 x y (.int .i64 2) (.int .i64 (k : Int)); binOp .mul 3 (.int .i64 2) (.int .i64 (k : Int)) : Sem Value).run Try.prog w = .ok (.int .i64 ((2 * k : Nat) : Int)) w := by
  have hw : IntKind.i64.wrap (2 * (k : Int)) = ((2 * k : Nat) : Int) := by rw [IntKind.wrap_i64]; omega
  go_simp
theorem lft_uniq {n k j : Nat} (hk : k = 2 ^ j) (h1 : k < n) (h2 : n ≤ 2 * k) : lft n = k := by
  have e : Nat.log2 (n - 1) = j := (Nat.log2_eq_iff (by omega)).2 ⟨by omega, by rw [Nat.pow_succ]; omega⟩
  unfold lft
  rw [e, hk]
theorem neEn20 (a b : Operand) (x y : En) (w : World) : (do eqGuard .neq 28 a b x.val20 y.val20; binOp .neq 28 x.val20 y.val20 : Sem Value).run Try.prog w = .ok (.bool (!decide (x = y))) w := by
  have e : (eqGuard .neq 28 a b x.val20 y.val20).run Try.prog w = .ok () w := by unfold En.val20; go_simp
  rw [Sem.run_bind, e, Result.andThen_ok]
  exact neqE _ _ _ _ _ _ _ _ _ _ w
/-- Two digests side by side. -/
def pcs (a b : Hs) : List Value := a.cs ++ b.cs
def pval (a b : Hs) : Value := .agg (pcs a b).toArray
theorem pcs_len (a b : Hs) : (pcs a b).length = 64 := by unfold pcs; rw [List.length_append, a.len, b.len]
def pz : List Value := (List.replicate 64 (0 : Int)).map bV
theorem i64p : (Try.prog.info? 99).map (·.size) = some 64 := by kernel_rfl
theorem alP (w : World) : (Instr.alloc 99 true (.tuple #[])).run Try.prog w = .ok (.pointer (some ⟨w.heap.size, 0, none⟩)) (w.alloc (.cells pz.toArray 99)) := by kernel_rfl
theorem bxP (a b : Hs) (w : World) : (Instr.box 99 (pval a b)).run Try.prog w = .ok (.pointer (some ⟨w.heap.size, 0, none⟩)) (w.alloc (.cells (pcs a b).toArray 99)) := rfl
theorem BB.ldP {w : World} {q : Nat} {T : TypeId} {a b : Hs} (h : BB w q T (pcs a b)) : (Instr.loadAt 99 (.pointer (some ⟨q, 0, none⟩))).run Try.prog w = .ok (pval a b) w := h.ld 99 Try.underlying99 rfl (by rw [pcs_len]; exact i64p)
theorem pcs_one (a b : Hs) : (pcs a b).toArray.all (·.oneCell') = true := by
  rw [Array.all_eq_true_iff_forall_mem]
  intro u hu
  rw [List.mem_toArray, pcs, List.mem_append] at hu
  rcases hu with hu | hu <;> (obtain ⟨y, _, rfl⟩ := List.mem_map.1 hu; rfl)
theorem BB.stP {w : World} {q : Nat} {T : TypeId} {cs : List Value} (h : BB w q T cs) (hl : cs.length = 64) (a b : Hs) : (Instr.storeAt 99 (.pointer (some ⟨q, 0, none⟩)) (pval a b)).run Try.prog w = .ok () (w.setCells q 0 (pcs a b)) := h.st 99 (pcs a b) (by rw [pcs_len, hl]) (by rw [List.size_toArray, pcs_len]; exact i64p) (pcs_one a b)
theorem faP (q j o : Nat) (h : (j = 0 ∧ o = 0) ∨ (j = 1 ∧ o = 32)) (w : World) : (Instr.fieldAt 99 (.pointer (some ⟨q, 0, none⟩)) j).run Try.prog w = .ok (.pointer (some ⟨q, o, none⟩)) w := by
  rcases h with ⟨rfl, rfl⟩ | ⟨rfl, rfl⟩ <;> go_simp
theorem BB.ldA {w : World} {q : Nat} {T : TypeId} {a b : Hs} (h : BB w q T (pcs a b)) : (Instr.loadAt 24 (.pointer (some ⟨q, 0, none⟩))).run Try.prog w = .ok a.val w :=
  run_loadAt_mid (P := Try.prog) w q 0 24 a.cs _ (fun k v hv => by
    rw [Nat.zero_add, h.cell, pcs, List.getElem?_append_left (List.getElem?_eq_some_iff.1 hv).1]; exact hv) Try.underlying24 rfl (by rw [a.len]; exact i32h)
theorem BB.ldB {w : World} {q : Nat} {T : TypeId} {a b : Hs} (h : BB w q T (pcs a b)) : (Instr.loadAt 24 (.pointer (some ⟨q, 32, none⟩))).run Try.prog w = .ok b.val w :=
  run_loadAt_mid (P := Try.prog) w q 32 24 b.cs _ (fun k v hv => by
    rw [h.cell, pcs, List.getElem?_append_right (by rw [a.len]; omega), a.len, Nat.add_sub_cancel_left]; exact hv) Try.underlying24 rfl (by rw [b.len]; exact i32h)
set_option maxRecDepth 100000 in
theorem bdP (a b : Hs) (w : World) : (Instr.build 99 #[(0, a.val), (1, b.val)]).run Try.prog w = .ok (pval a b) w := by
  refine run_build (P := Try.prog) w _ _ _ ?_
  have hi : ∃ it z, Try.prog.info? 99 = some it ∧ it.zero = some z ∧ z.cells.size = 64 := by
    cases h : Try.prog.info? 99 with
    | none => have := i64p; rw [h] at this; cases this
    | some it =>
      have hz : (Try.prog.info? 99).bind (fun i => i.zero.map fun z => z.cells.size) = some 64 := by kernel_rfl
      rw [h] at hz
      simp only [Option.bind_some, Option.map_eq_some_iff] at hz
      obtain ⟨z, h1, h2⟩ := hz
      exact ⟨it, z, rfl, h1, h2⟩
  obtain ⟨it, z, h1, h2, h3⟩ := hi
  have hp : (Try.prog.fieldsOf 99).toList.mapM (fun f => (Try.prog.info? f.type).map fun i => (f.offset, i.size)) = some [(0, 32), (32, 32)] := by kernel_rfl
  have hu : Try.prog.underlying 99 = some (.struct (Try.prog.fieldsOf 99)) := by kernel_rfl
  unfold Program.built
  rw [h1, hu]
  simp only [h2, hp]
  have hs : ∀ x : Hs, x.val.cells.size = 32 := fun x => by show x.cs.toArray.size = 32; rw [List.size_toArray, x.len]
  have hf := Great.fill_whole (s := 32) (by omega) [a.val, b.val] z.cells (by intro v hv; rcases List.mem_cons.1 hv with rfl | hv; exact hs a; rw [List.mem_singleton.1 hv]; exact hs b) (by rw [h3]; rfl)
  have e : ([a.val, b.val].flatMap fun v => v.cells.toList).toArray = (pcs a b).toArray := by
    show (a.cs.toArray.toList ++ (b.cs.toArray.toList ++ [])).toArray = _
    rw [List.append_nil]
    rfl
  rw [e] at hf
  rw [← hf]
  simp [Instr.fill, hs, h3, List.zipIdx]
set_option maxRecDepth 100000 in
set_option maxHeartbeats 2000000 in
theorem split20 (n : Nat) (h2 : 2 ≤ n) (hn : n ≤ 1000000) (w : World) :
    Calls Try.prog 64 #[.int .i64 (n : Int)] w fun e w' => e = .returned (.int .i64 ((lft n : Nat) : Int)) ∧ w' = w := by
  go_enter Try.func64, Try.ntmps64
  go_upto_region 0 with fail
  refine wp_region_lit ?_
  refine vl_gen (fun T => Rp T 11 [(0, gw true (.int .i64 ((n : Nat) : Int)))]) ((Rp.nil rfl).cons rfl) (fun Z0 q0 => ?_)
  refine q0.t (.int .i64 (0 : Int)) (ex_assign rfl rfl) fun _ q1 => ?_;clear q0
  refine wpList_nil ?_
  go_upto_region 1 with fail
  refine wp_region_lit ?_
  refine q1.t (.int .i64 ((1 : Nat) : Int)) (ex_assign rfl rfl) fun _ q2 => ?_;clear q1
  have q3 := (((Rp.nil q2.z).cons (q2.a 0 rfl)).cons (q2.a 3 rfl))
  clear q2
  refine wpList_nil ?_
  go_upto_region 2 with fail
  refine v_loopG20 n (fun j T wr => ∃ k : Nat, Rp T 11 [(3, gw true (.int .i64 ((k : Nat) : Int))), (0, gw true (.int .i64 ((n : Nat) : Int)))] ∧ Hid (k = 2 ^ j ∧ j < k ∧ k < n ∧ wr = w)) ⟨1, q3, by decide, by decide, by omega, rfl⟩ ?_
  clear q3
  intro j T wr hj hh
  obtain ⟨k, q100, HJ⟩ := hh
  obtain ⟨h1, h1b, h2, rfl⟩ := HJ.out
  have H1 := hide h1
  clear HJ h1
  by_cases hit : 2 * k < n
  · go_upto_region 2 with fail
    refine wp_region_lit ?_
    refine q100.t (.int .i64 ((k : Nat) : Int)) (ex_move rfl (q100.e (j := 3) rfl)) fun _ q101 => ?_;clear q100
    refine q101.t (.int .i64 ((2 * k : Nat) : Int)) (ex_bin (X := .int .i64 (2 : Int)) rfl rfl (q101.e (j := 4) rfl) (mul2 _ _ k (by omega) _)) fun _ q102 => ?_;clear q101
    refine q102.t (.int .i64 ((n : Nat) : Int)) (ex_move rfl (q102.e (j := 0) rfl)) fun _ q103 => ?_;clear q102
    refine q103.t (.bool true) (ex_bin rfl (q103.e (j := 5) rfl) (q103.e (j := 6) rfl) (ltT20 _ _ (by omega) _)) fun _ q104 => ?_;clear q103
    refine wpList_nil ?_
    go_upto_region 3 with fail
    refine wp_cond_true (q104.e (j := 7) rfl) ?_
    go_upto_region 3 with fail
    refine wp_region_lit ?_
    refine q104.t (.int .i64 ((k : Nat) : Int)) (ex_move rfl (q104.e (j := 3) rfl)) fun _ q105 => ?_;clear q104
    refine q105.t (.int .i64 ((2 * k : Nat) : Int)) (ex_bin (X := .int .i64 (2 : Int)) rfl rfl (q105.e (j := 8) rfl) (mul2 _ _ k (by omega) _)) fun _ q106 => ?_;clear q105
    refine q106.t (.int .i64 ((2 * k : Nat) : Int)) (ex_assign rfl (q106.e (j := 9) rfl)) fun _ q107 => ?_;clear q106
    have q108 := (((Rp.nil q107.z).cons (q107.a 0 rfl)).cons (q107.a 3 rfl))
    clear q107
    refine wpList_nil ?_
    exact ⟨_, rfl, by omega, 2 * k, q108, by rw [H1.out, Nat.pow_succ, Nat.mul_comm], by omega, hit, rfl⟩
  · go_upto_region 2 with fail
    refine wp_region_lit ?_
    refine q100.t (.int .i64 ((k : Nat) : Int)) (ex_move rfl (q100.e (j := 3) rfl)) fun _ q101 => ?_;clear q100
    refine q101.t (.int .i64 ((2 * k : Nat) : Int)) (ex_bin (X := .int .i64 (2 : Int)) rfl rfl (q101.e (j := 4) rfl) (mul2 _ _ k (by omega) _)) fun _ q102 => ?_;clear q101
    refine q102.t (.int .i64 ((n : Nat) : Int)) (ex_move rfl (q102.e (j := 0) rfl)) fun _ q103 => ?_;clear q102
    refine q103.t (.bool false) (ex_bin rfl (q103.e (j := 5) rfl) (q103.e (j := 6) rfl) (ltF20 _ _ (by omega) _)) fun _ q104 => ?_;clear q103
    refine wpList_nil ?_
    go_upto_region 4 with fail
    refine wp_cond_false (q104.e (j := 7) rfl) ?_
    go_upto_region 4 with fail
    refine wp_region_lit ?_
    refine q104.t (.int .i64 ((k : Nat) : Int)) (ex_move rfl (q104.e (j := 3) rfl)) fun _ q105 => ?_;clear q104
    refine q105.t (.int .i64 ((k : Nat) : Int)) (ex_assign rfl (q105.e (j := 10) rfl)) fun _ q106 => ?_;clear q105
    refine wpList_nil ?_
    go_wp2
    refine bodyPost_ret (results_tmp rfl _ _ _) rfl ?_
    rw [getD_of (q106.a 2 rfl)]
    exact ⟨by rw [lft_uniq H1.out h2 (by omega)]; rfl, rfl⟩
set_option maxRecDepth 100000 in
set_option maxHeartbeats 2000000 in
theorem unlike20 (A B : List En) (a : Option Addr) (n c : Nat) (a2 : Option Addr) (c2 : Nat) (w : World) (hA : SlY yE w a n c A) (hB : SlY yE w a2 n c2 B) (hn : n ≤ 1000000000) :
    Calls Try.prog 35 #[.slice a n c, .slice a2 n c2] w fun e w' => e = .returned (.bool (!decide (A = B))) ∧ Below w.heap.size w w' := by
  go_enter Try.func35, Try.ntmps35
  go_upto_region 0 with fail
  refine wp_region_lit ?_
  refine vl_gen (fun T => Rp T 21 [(1, gw true (.slice a2 n c2)), (0, gw true (.slice a n c))]) (((Rp.nil rfl).cons rfl).cons rfl) (fun Z0 q0 => ?_)
  have lA := hA.len
  have lB := hB.len
  refine q0.t (.bool false) (ex_assign rfl rfl) fun _ q1 => ?_;clear q0
  refine wpList_nil ?_
  go_upto_region 1 with fail
  refine wp_region_lit ?_
  refine q1.t (.int .i64 ((0 : Nat) : Int)) (ex_assign rfl rfl) fun _ q2 => ?_;clear q1
  have q3 := ((((Rp.nil q2.z).cons (q2.a 0 rfl)).cons (q2.a 1 rfl)).cons (q2.a 5 rfl))
  clear q2
  refine wpList_nil ?_
  go_upto_region 2 with fail
  refine v_loop 5 n (fun j T wr => Rp T 21 [(5, gw true (.int .i64 ((j : Nat) : Int))), (1, gw true (.slice a2 n c2)), (0, gw true (.slice a n c))] ∧ Hid (A.take j = B.take j ∧ Below w.heap.size w wr)) (fun j T w h => h.1.a 5 rfl) ⟨q3, by rw [List.take_zero, List.take_zero], Below.refl _ _⟩ ?_
  clear q3
  intro j T wr hj hh
  obtain ⟨q100, HJ⟩ := hh
  obtain ⟨hAB, br⟩ := HJ.out
  have HAB := hide hAB
  clear HJ hAB
  have zr := br.size
  by_cases hit : j < n
  · go_upto_region 2 with fail
    refine wp_region_lit ?_
    refine q100.t (.int .i64 ((j : Nat) : Int)) (ex_move rfl (q100.e (j := 5) rfl)) fun _ q101 => ?_;clear q100
    refine q101.t (.slice a n c) (ex_move rfl (q101.e (j := 0) rfl)) fun _ q102 => ?_;clear q101
    refine q102.t (.int .i64 ((n : Nat) : Int)) (ex_lenG rfl rfl Try.underlying22 (q102.e (j := 7) rfl)) fun _ q103 => ?_;clear q102
    refine q103.t (.bool true) (ex_bin rfl (q103.e (j := 6) rfl) (q103.e (j := 8) rfl) (ltT _ _ hit _)) fun _ q104 => ?_;clear q103
    refine wpList_nil ?_
    go_upto_region 4 with fail
    refine wp_cond_true (q104.e (j := 9) rfl) ?_
    go_upto_region 4 with fail
    obtain ⟨x, hx⟩ : ∃ x, A[j]? = some x := ⟨_, List.getElem?_eq_getElem (by omega)⟩
    obtain ⟨y, hy⟩ : ∃ y, B[j]? = some y := ⟨_, List.getElem?_eq_getElem (by omega)⟩
    obtain ⟨qa, oa, hqa, hqla, hla⟩ := hA.place (by rintro rfl; simp at hx)
    obtain ⟨qb, ob, hqb, hqlb, hlb⟩ := hB.place (by rintro rfl; simp at hy)
    refine vq_start (C := fun v => Below w.heap.size w v) (by kernel_rfl) (by kernel_rfl) (br.trans (((Below.refl _ _).drew (w := wr)).mono zr)) ?_
    refine q104.q (.slice a n c) (fun v hv => ex_move rfl (q104.e (j := 0) rfl)) fun _ q105 => ?_;clear q104
    refine q105.q (.int .i64 ((j : Nat) : Int)) (fun v hv => ex_move rfl (q105.e (j := 5) rfl)) fun _ q106 => ?_;clear q105
    refine q106.q (.pointer (some ⟨qa, oa + j * 5, none⟩)) (fun v hv => ex_ix rfl (q106.e (j := 12) rfl) (q106.e (j := 13) rfl) (by rw [hqa]; exact ixE20 qa oa n c j hit _)) fun _ q107 => ?_;clear q106
    refine q107.q (x.val20) (fun v hv => ex_ld rfl (q107.e (j := 14) rfl) (ldEl20 (hla.upd (S := fun _ => False) (Upd.of_below hv) hqla id) hx)) fun _ q108 => ?_;clear q107
    refine q108.q (.slice a2 n c2) (fun v hv => ex_move rfl (q108.e (j := 1) rfl)) fun _ q109 => ?_;clear q108
    refine q109.q (.int .i64 ((j : Nat) : Int)) (fun v hv => ex_move rfl (q109.e (j := 5) rfl)) fun _ q110 => ?_;clear q109
    refine q110.q (.pointer (some ⟨qb, ob + j * 5, none⟩)) (fun v hv => ex_ix rfl (q110.e (j := 16) rfl) (q110.e (j := 17) rfl) (by rw [hqb]; exact ixE20 qb ob n c2 j hit _)) fun _ q111 => ?_;clear q110
    refine q111.q (y.val20) (fun v hv => ex_ld rfl (q111.e (j := 18) rfl) (ldEl20 (hlb.upd (S := fun _ => False) (Upd.of_below hv) hqlb id) hy)) fun _ q112 => ?_;clear q111
    refine q112.q (.bool (!decide (x = y))) (fun v hv => ex_bin rfl (q112.e (j := 15) rfl) (q112.e (j := 19) rfl) (neEn20 _ _ _ _ _)) fun _ q113 => ?_;clear q112
    refine vq_nil (fun r1 hr1 => ?_)
    by_cases hxy : x = y
    · rw [decide_eq_true hxy] at q113
      have HN : Hid (A.take (j + 1) = B.take (j + 1)) := by
        obtain ⟨h1, e1⟩ := List.getElem?_eq_some_iff.1 hx
        obtain ⟨h2, e2⟩ := List.getElem?_eq_some_iff.1 hy
        show A.take (j + 1) = B.take (j + 1)
        rw [List.take_succ_eq_append_getElem h1, List.take_succ_eq_append_getElem h2, e1, e2, hxy, HAB.out]
      go_upto_region 3 with fail
      refine wp_cond_false (q113.e (j := 20) rfl) ?_
      skip
      go_upto_region 3 with fail
      refine wp_region_lit ?_
      refine q113.t (.int .i64 ((j : Nat) : Int)) (ex_move rfl (q113.e (j := 5) rfl)) fun _ q114 => ?_;clear q113
      refine q114.t (.int .i64 ((j + 1 : Nat) : Int)) (ex_bin rfl (q114.e (j := 10) rfl) rfl (add1C _ _ j (by omega) _)) fun _ q115 => ?_;clear q114
      refine q115.t (.int .i64 ((j + 1 : Nat) : Int)) (ex_assign rfl (q115.e (j := 11) rfl)) fun _ q116 => ?_;clear q115
      have q117 := ((((Rp.nil q116.z).cons (q116.a 0 rfl)).cons (q116.a 1 rfl)).cons (q116.a 5 rfl))
      clear q116
      refine wpList_nil ?_
      exact ⟨_, rfl, hit, q117, HN.out, hr1⟩
    · rw [decide_eq_false hxy] at q113
      go_upto_region 5 with fail
      refine wp_cond_true (q113.e (j := 20) rfl) ?_
      go_upto_region 5 with fail
      refine wp_region_lit ?_
      refine q113.t (.bool true) (ex_assign rfl rfl) fun _ q114 => ?_;clear q113
      refine wpList_nil ?_
      go_wp2
      refine bodyPost_ret (results_tmp rfl _ _ _) rfl ?_
      rw [getD_of (q114.a 4 rfl)]
      exact ⟨by rw [decide_eq_false (fun e => hxy (by rw [e, hy] at hx; exact (Option.some.inj hx).symm))]; rfl, hr1⟩
  · go_upto_region 2 with fail
    refine wp_region_lit ?_
    refine q100.t (.int .i64 ((j : Nat) : Int)) (ex_move rfl (q100.e (j := 5) rfl)) fun _ q101 => ?_;clear q100
    refine q101.t (.slice a n c) (ex_move rfl (q101.e (j := 0) rfl)) fun _ q102 => ?_;clear q101
    refine q102.t (.int .i64 ((n : Nat) : Int)) (ex_lenG rfl rfl Try.underlying22 (q102.e (j := 7) rfl)) fun _ q103 => ?_;clear q102
    refine q103.t (.bool false) (ex_bin rfl (q103.e (j := 6) rfl) (q103.e (j := 8) rfl) (ltF _ _ hit _)) fun _ q104 => ?_;clear q103
    refine wpList_nil ?_
    have hE : A = B := by have := HAB.out; rw [List.take_of_length_le (by omega), List.take_of_length_le (by omega)] at this; exact this
    have HE := hide hE
    clear hE
    go_upto_region 6 with fail
    refine wp_cond_false (q104.e (j := 9) rfl) ?_
    go_upto_region 6 with fail
    refine wp_region_lit ?_
    refine q104.t (.bool false) (ex_assign rfl rfl) fun _ q105 => ?_;clear q104
    refine wpList_nil ?_
    go_wp2
    refine bodyPost_ret (results_tmp rfl _ _ _) rfl ?_
    rw [getD_of (q105.a 4 rfl)]
    exact ⟨by rw [decide_eq_true HE.out]; rfl, br⟩

end Go.Proofs.Ytaagmdkhjmonnaa
