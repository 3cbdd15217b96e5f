import Derived.Test.YtaagmdkhjmonnaaRa6
import Derived.Laws.StructEq
namespace Go.Proofs.Ytaagmdkhjmonnaa
open Go.RowKit Go.Maps
open Classical
set_option linter.unusedVariables false
set_option linter.unusedSimpArgs false

theorem len2 {α : Type} : ∀ l : List α, l.length = 2 → ∃ a b, l = [a, b]
  | [], h => by cases h
  | [a], h => by simp at h
  | [a, b], _ => ⟨a, b, rfl⟩
  | a :: b :: c :: r, h => by simp at h
theorem eqHd {h k : List Int} (hl : h.length = 32) (kl : k.length = 32) (d : Nat) (w : World) : (Op.equalIn (d + 2) 24 (.agg (h.map bV).toArray) (.agg (k.map bV).toArray)).run Try.prog w = .ok (decide (h = k)) w := by
  have hi0 := i1b
  rw [Option.map_eq_some_iff] at hi0
  obtain ⟨i, hi, _⟩ := hi0
  have hc : Try.prog.cellsOf 5 = 1 := by kernel_rfl
  have := run_equalIn_array (P := Try.prog) w (d + 1) (h.map bV).toArray (k.map bV).toArray Try.underlying24 hi
  rw [hc, items_b hl kl d w _ (fun i hi => List.mem_range.1 hi), all_eq hl kl] at this
  exact this
theorem part0 (a b : Hs) (w : World) : (part 24 (pcs a b).toArray 0).run Try.prog w = .ok a.val w := by
  have e1 : (isAgg 24).run Try.prog w = .ok true w := by kernel_rfl
  have e2 : (sizeOf 24).run Try.prog w = .ok 32 w := by kernel_rfl
  have e4 : List.take 32 (pcs a b) = a.cs := by rw [pcs, List.take_left' a.len]
  unfold part
  rw [Sem.run_bind, e1, Result.andThen_ok]
  simp [e2, e4]
  first | done | rfl
theorem part32 (a b : Hs) (w : World) : (part 24 (pcs a b).toArray 32).run Try.prog w = .ok b.val w := by
  have e1 : (isAgg 24).run Try.prog w = .ok true w := by kernel_rfl
  have e2 : (sizeOf 24).run Try.prog w = .ok 32 w := by kernel_rfl
  have e4 : List.take 32 (List.drop 32 (pcs a b)) = b.cs := by rw [pcs, List.drop_left' a.len, List.take_of_length_le (by rw [b.len]; omega)]
  unfold part
  rw [Sem.run_bind, e1, Result.andThen_ok]
  simp [e2, e4]
  first | done | rfl
set_option maxRecDepth 100000 in
theorem eqP (a b c d : Hs) (w : World) : (Op.equal 99 (pval a b) (pval c d)).run Try.prog w = .ok (decide (a.v = c.v) && decide (b.v = d.v)) w := by
  have hu : Try.prog.underlying 99 = some (.struct (Try.prog.fieldsOf 99)) := by kernel_rfl
  have hp : Try.prog.stoodInHeld 99 = false := by kernel_rfl
  have h := run_equalIn_struct (P := Try.prog) w 9999 99 (pcs a b).toArray (pcs c d).toArray hu hp
  have hf : (Try.prog.fieldsOf 99).toList.map (fun f => (f.type, f.offset, decide (f.name ≠ "_"))) = [(24, 0, true), (24, 32, true)] := by kernel_rfl
  generalize (Try.prog.fieldsOf 99).toList = fs at h hf
  obtain ⟨f, g, rfl⟩ := len2 _ (show fs.length = 2 by have := congrArg List.length hf; rw [List.length_map] at this; exact this)
  simp only [List.map_cons, List.map_nil, List.cons.injEq, Prod.mk.injEq, decide_eq_true_eq, and_true] at hf
  obtain ⟨⟨f1, f2, f3⟩, g1, g2, g3⟩ := hf
  refine h.trans ?_
  have q1 : (Op.equalIn 9999 24 a.val c.val).run Try.prog w = .ok (decide (a.v = c.v)) w := eqHd a.p c.p 9997 w
  have q2 : (Op.equalIn 9999 24 b.val d.val).run Try.prog w = .ok (decide (b.v = d.v)) w := eqHd b.p d.p 9997 w
  rw [Op.eqFields, if_pos f3, f1, f2, Sem.run_bind, part0, Result.andThen_ok, Sem.run_bind, part0, Result.andThen_ok, Sem.run_bind, q1, Result.andThen_ok]
  by_cases e1 : a.v = c.v
  · rw [decide_eq_true e1, if_neg (by simp), Op.eqFields, if_pos g3, g1, g2, Sem.run_bind, part32, Result.andThen_ok, Sem.run_bind, part32, Result.andThen_ok, Sem.run_bind, q2, Result.andThen_ok]
    by_cases e2 : b.v = d.v
    · rw [decide_eq_true e2, if_neg (by simp)]; rfl
    · rw [decide_eq_false e2, if_pos (by simp)]; rfl
  · rw [decide_eq_false e1, if_pos (by simp)]; rfl
theorem gdP (x y : Operand) (A B : Array Value) (w : World) : (eqGuard .neq 99 x y (.agg A) (.agg B)).run Try.prog w = .ok () w := by
  have e : (Try.prog.eqGuardType Try.prog.depth 99) = false := by kernel_rfl
  unfold eqGuard
  simp [e]
theorem neP (x y : Operand) (a b c d : Hs) (w : World) : (do eqGuard .neq 99 x y (pval a b) (pval c d); binOp .neq 99 (pval a b) (pval c d) : Sem Value).run Try.prog w = .ok (.bool (!(decide (a.v = c.v) && decide (b.v = d.v)))) w := by
  rw [Sem.run_bind, show (eqGuard .neq 99 x y (pval a b) (pval c d)).run Try.prog w = .ok () w from gdP x y _ _ w, Result.andThen_ok]
  show (do pure (.bool (!(← Op.equal 99 (pval a b) (pval c d)))) : Sem Value).run Try.prog w = _
  rw [Sem.run_bind, eqP]
  rfl
theorem slFromE20 (q o n c k : Nat) (h1 : k ≤ n) (h2 : n ≤ c) (w : World) : (Instr.sliceAt 22 (.slice (some ⟨q, o, none⟩) n c) (some (.int .i64 (k : Int))) none none).run Try.prog w = .ok (.slice (some (if c = k then ⟨q, o, none⟩ else ⟨q, o + k * 5, none⟩)) (n - k) (c - k)) w := by
  have e1 : (0 : Int) ≤ (k : Int) := by omega
  have e2 : (k : Int) ≤ (n : Int) := by omega
  have e3 : (n : Int) ≤ (c : Int) := by omega
  by_cases h : c = k
  · subst h
    rw [if_pos rfl]
    go_simp
    first | done | simp
  · rw [if_neg h]
    go_simp
    first | done | simp [h]
theorem ex_bdP {o : Oper} {ρ : Operand → Value} {s : TypeId} {a b : Operand} {A B V : Value} {w : World} (ho : o.op = .build s #[(0, a), (1, b)]) (ha : ρ a = A) (hb : ρ b = B) (hr : (Instr.build s #[(0, A), (1, B)]).run Try.prog w = .ok V w) : (execOp ρ o).run Try.prog w = .ok (.value V) w := ex_buildP18 ho (by simp only [List.map_toArray, List.map_cons, List.map_nil, ha, hb]) hr
set_option maxRecDepth 100000 in
set_option maxHeartbeats 2000000 in
theorem one20 (a b c d : Hs) (w : World) :
    Calls Try.prog 65 #[pval a b, pval c d] w fun e w' => e = .returned (.bool ((!(decide (a.v = c.v) && decide (b.v = d.v))) && decide ((nd a b).v = (nd c d).v))) ∧ Below w.heap.size w w' := by
  go_enter Try.func65, Try.ntmps65
  go_upto_region 0 with fail
  refine wp_region_lit ?_
  refine vl_gen (fun T => Rp T 21 [(1, gw true (pval c d)), (0, gw true (pval a b))]) (((Rp.nil rfl).cons rfl).cons rfl) (fun Z0 q0 => ?_)
  obtain ⟨w1, hw1⟩ : ∃ y, y = w.alloc (.cells (pcs a b).toArray 99) := ⟨_, rfl⟩
  refine vw (.pointer (some ⟨w.heap.size, 0, none⟩)) w1 (want_none rfl) (ex_box18 rfl (q0.e (j := 0) rfl) (by rw [hw1]; exact bxP _ _ _)) rfl q0.z (by decide) (q0.k fun _ q1 => ?_);clear q0
  have Bw1 : BB w1 w.heap.size 99 (pcs a b) := by rw [hw1]; exact BB.new _ _ _
  have bw1 : Below w.heap.size w w1 := by rw [hw1]; exact (Below.refl _ _).alloc (Nat.le_refl _) _
  have zw1 : w1.heap.size = w.heap.size + 1 := by rw [hw1]; exact World.size_alloc _ _
  clear hw1
  obtain ⟨w2, hw2⟩ : ∃ y, y = w1.alloc (.cells (pcs c d).toArray 99) := ⟨_, rfl⟩
  refine vw (.pointer (some ⟨w1.heap.size, 0, none⟩)) w2 (want_none rfl) (ex_box18 rfl (q1.e (j := 1) rfl) (by rw [hw2]; exact bxP _ _ _)) rfl q1.z (by decide) (q1.k fun _ q2 => ?_);clear q1
  have Bw2 : BB w2 w1.heap.size 99 (pcs c d) := by rw [hw2]; exact BB.new _ _ _
  have bw2 : Below w1.heap.size w1 w2 := by rw [hw2]; exact (Below.refl _ _).alloc (Nat.le_refl _) _
  have zw2 : w2.heap.size = w1.heap.size + 1 := by rw [hw2]; exact World.size_alloc _ _
  clear hw2
  refine q2.t (.bool false) (ex_assign rfl rfl) fun _ q3 => ?_;clear q2
  refine wpList_nil ?_
  go_upto_region 1 with fail
  have A2 := Bw1.later bw2
  have d2 : Below w.heap.size w w2 := bw1.trans (bw2.mono (by omega))
  refine vq_start (C := fun v => Below w2.heap.size w2 v) (by kernel_rfl) (by kernel_rfl) ((Below.refl _ _).drew) ?_
  refine q3.q (pval a b) (fun v hv => ex_ld rfl (q3.e (j := 2) rfl) (A2.later hv).ldP) fun _ q4 => ?_;clear q3
  refine q4.q (pval c d) (fun v hv => ex_ld rfl (q4.e (j := 3) rfl) (Bw2.later hv).ldP) fun _ q5 => ?_;clear q4
  refine q5.q (.bool (!(decide (a.v = c.v) && decide (b.v = d.v)))) (fun v hv => ex_bin rfl (q5.e (j := 5) rfl) (q5.e (j := 6) rfl) (neP _ _ _ _ _ _ _)) fun _ q6 => ?_;clear q5
  refine q6.q (.bool (!(decide (a.v = c.v) && decide (b.v = d.v)))) (fun v hv => ex_move rfl (q6.e (j := 7) rfl)) fun _ q7 => ?_;clear q6
  refine vq ((true && ((!(decide (a.v = c.v) && decide (b.v = d.v))) == true))) (.pointer (some ⟨w.heap.size, 0, none⟩)) (want_g rfl rfl (q7.a 8 rfl)) (fun hc v hv => ex_fa rfl (q7.e (j := 2) rfl) (faP _ 0 0 (by simp) _)) rfl q7.z (by decide) (q7.k fun _ q8 => ?_);clear q7
  refine vq ((true && ((!(decide (a.v = c.v) && decide (b.v = d.v))) == true))) (a.val) (want_g rfl rfl (q8.a 8 rfl)) (fun hc v hv => ex_ld rfl (ev (q8.a 9 rfl) hc) (A2.later hv).ldA) rfl q8.z (by decide) (q8.k fun _ q9 => ?_);clear q8
  refine vq ((true && ((!(decide (a.v = c.v) && decide (b.v = d.v))) == true))) (.pointer (some ⟨w.heap.size, 32, none⟩)) (want_g rfl rfl (q9.a 8 rfl)) (fun hc v hv => ex_fa rfl (q9.e (j := 2) rfl) (faP _ 1 32 (by simp) _)) rfl q9.z (by decide) (q9.k fun _ q10 => ?_);clear q9
  refine vq ((true && ((!(decide (a.v = c.v) && decide (b.v = d.v))) == true))) (b.val) (want_g rfl rfl (q10.a 8 rfl)) (fun hc v hv => ex_ld rfl (ev (q10.a 11 rfl) hc) (A2.later hv).ldB) rfl q10.z (by decide) (q10.k fun _ q11 => ?_);clear q10
  refine vq_call18 ((true && ((!(decide (a.v = c.v) && decide (b.v = d.v))) == true))) ((nd a b).val) (want_g rfl rfl (q11.a 8 rfl)) (fun hc v hv => ex_call rfl (by simp only [List.map_toArray, List.map_cons, List.map_nil, (ev (q11.a 10 rfl) hc), (ev (q11.a 12 rfl) hc), evc] <;> rfl) rfl) (fun hc v hv => bel18 hv (node20 a b v) hv.size) rfl q11.z (by decide) (q11.k fun _ q12 => ?_);clear q11
  refine vq ((true && ((!(decide (a.v = c.v) && decide (b.v = d.v))) == true))) (.pointer (some ⟨w1.heap.size, 0, none⟩)) (want_g rfl rfl (q12.a 8 rfl)) (fun hc v hv => ex_fa rfl (q12.e (j := 3) rfl) (faP _ 0 0 (by simp) _)) rfl q12.z (by decide) (q12.k fun _ q13 => ?_);clear q12
  refine vq ((true && ((!(decide (a.v = c.v) && decide (b.v = d.v))) == true))) (c.val) (want_g rfl rfl (q13.a 8 rfl)) (fun hc v hv => ex_ld rfl (ev (q13.a 14 rfl) hc) (Bw2.later hv).ldA) rfl q13.z (by decide) (q13.k fun _ q14 => ?_);clear q13
  refine vq ((true && ((!(decide (a.v = c.v) && decide (b.v = d.v))) == true))) (.pointer (some ⟨w1.heap.size, 32, none⟩)) (want_g rfl rfl (q14.a 8 rfl)) (fun hc v hv => ex_fa rfl (q14.e (j := 3) rfl) (faP _ 1 32 (by simp) _)) rfl q14.z (by decide) (q14.k fun _ q15 => ?_);clear q14
  refine vq ((true && ((!(decide (a.v = c.v) && decide (b.v = d.v))) == true))) (d.val) (want_g rfl rfl (q15.a 8 rfl)) (fun hc v hv => ex_ld rfl (ev (q15.a 16 rfl) hc) (Bw2.later hv).ldB) rfl q15.z (by decide) (q15.k fun _ q16 => ?_);clear q15
  refine vq_call18 ((true && ((!(decide (a.v = c.v) && decide (b.v = d.v))) == true))) ((nd c d).val) (want_g rfl rfl (q16.a 8 rfl)) (fun hc v hv => ex_call rfl (by simp only [List.map_toArray, List.map_cons, List.map_nil, (ev (q16.a 15 rfl) hc), (ev (q16.a 17 rfl) hc), evc] <;> rfl) rfl) (fun hc v hv => bel18 hv (node20 c d v) hv.size) rfl q16.z (by decide) (q16.k fun _ q17 => ?_);clear q16
  refine vq ((true && ((!(decide (a.v = c.v) && decide (b.v = d.v))) == true))) (.bool (decide ((nd a b).v = (nd c d).v))) (want_g rfl rfl (q17.a 8 rfl)) (fun hc v hv => ex_bin rfl (ev (q17.a 13 rfl) hc) (ev (q17.a 18 rfl) hc) (eqHZ _ _ _ _ _)) rfl q17.z (by decide) (q17.k fun _ q18 => ?_);clear q17
  refine q18.q (.bool ((!(decide (a.v = c.v) && decide (b.v = d.v))) && decide ((nd a b).v = (nd c d).v))) (fun v hv => ex_and rfl (q18.a 8 rfl) (q18.a 19 rfl) rfl) fun _ q19 => ?_;clear q18
  refine q19.q (.bool ((!(decide (a.v = c.v) && decide (b.v = d.v))) && decide ((nd a b).v = (nd c d).v))) (fun v hv => ex_assign rfl (q19.e (j := 20) rfl)) fun _ q20 => ?_;clear q19
  refine vq_nil (fun r1 hr1 => ?_)
  go_wp2
  refine bodyPost_ret (results_tmp rfl _ _ _) rfl ?_
  rw [getD_of (q20.a 4 rfl)]
  exact ⟨rfl, d2.trans (hr1.mono d2.size)⟩
set_option maxRecDepth 100000 in
set_option maxHeartbeats 2000000 in
theorem halves20 (l : List En) (a : Option Addr) (n c : Nat) (w : World) (h : SlY yE w a n c l) (h2 : 2 ≤ n) (hn : n ≤ 1000000) (hv : ∀ x ∈ l, x.o.v.size ≤ 140737488350000) :
    Calls Try.prog 66 #[.slice a n c] w fun e w' => e = .returned (pval (hd ((l.map lf).take (lft n))) (hd ((l.map lf).drop (lft n)))) ∧ Below w.heap.size w w' := by
  go_enter Try.func66, Try.ntmps66
  go_upto_region 0 with fail
  refine wp_region_lit ?_
  refine vl_gen (fun T => Rp T 16 [(0, gw true (.slice a n c))]) ((Rp.nil rfl).cons rfl) (fun Z0 q0 => ?_)
  have hln := h.len
  have hcap := h.cap
  obtain ⟨q, o, rfl, hq, hl⟩ := h.place (by rintro rfl; simp at hln; omega)
  obtain ⟨w1, hw1⟩ : ∃ y, y = w.alloc (.cells (pz).toArray 99) := ⟨_, rfl⟩
  refine vw (.pointer (some ⟨w.heap.size, 0, none⟩)) w1 (want_none rfl) (ex_al rfl (by rw [hw1]; exact alP _)) rfl q0.z (by decide) (q0.k fun _ q1 => ?_);clear q0
  have Bw1 : BB w1 w.heap.size 99 (pz) := by rw [hw1]; exact BB.new _ _ _
  have bw1 : Below w.heap.size w w1 := by rw [hw1]; exact (Below.refl _ _).alloc (Nat.le_refl _) _
  have zw1 : w1.heap.size = w.heap.size + 1 := by rw [hw1]; exact World.size_alloc _ _
  clear hw1
  refine wpList_nil ?_
  go_upto_region 1 with fail
  refine wp_region_lit ?_
  refine q1.t (.slice (some ⟨q, o, none⟩) n c) (ex_move rfl (q1.e (j := 0) rfl)) fun _ q2 => ?_;clear q1
  refine q2.t (.int .i64 ((n : Nat) : Int)) (ex_lenG rfl rfl Try.underlying22 (q2.e (j := 4) rfl)) fun _ q3 => ?_;clear q2
  refine vcallP (want_none rfl) (ex_call rfl (by simp only [List.map_toArray, List.map_cons, List.map_nil, (q3.e (j := 5) rfl), evc] <;> rfl) rfl) (split20 n h2 hn w1) rfl q3.z (by decide) ?_
  rintro e w9 ⟨rfl, hw9⟩
  refine ⟨_, rfl, q3.k fun _ q4 => ?_⟩;clear q3
  have hw9 := hw9.symm
  subst hw9
  refine q4.t (.int .i64 ((lft n : Nat) : Int)) (ex_assign rfl (q4.e (j := 6) rfl)) fun _ q5 => ?_;clear q4
  refine wpList_nil ?_
  go_upto_region 2 with fail
  have hb := lft_b (n := n) (by omega)
  refine vg_start (fun k => k == 9) (fun _ => True) (by kernel_rfl) ?_
  have hy0 : Below w1.heap.size w1 w1.drew := (Below.refl _ _).drew
  have hzy0 : w1.drew.heap.size = w1.heap.size := rfl
  generalize w1.drew = y0 at *
  have hS := (h.later bw1).later hy0
  have sT := hS.take (lft n) (by omega)
  have sF := hS.from20 (lft n) (by omega)
  refine vg_takeW 0 true (.slice (some ⟨q, o, none⟩) n c) rfl (by kernel_rfl) (by kernel_rfl) (by kernel_rfl) (by kernel_rfl) (want_none rfl) (fun hc v => ex_move rfl (q5.e (j := 0) rfl)) rfl q5.z (by decide) (fun _ => trivial) (q5.k fun _ q6 => ?_);clear q5
  refine vg_takeW 1 true (.int .i64 ((lft n : Nat) : Int)) rfl (by kernel_rfl) (by kernel_rfl) (by kernel_rfl) (by kernel_rfl) (want_none rfl) (fun hc v => ex_move rfl (q6.e (j := 3) rfl)) rfl q6.z (by decide) (fun _ => trivial) (q6.k fun _ q7 => ?_);clear q6
  refine vg_takeW 2 true (.slice (some ⟨q, o, none⟩) (lft n) c) rfl (by kernel_rfl) (by kernel_rfl) (by kernel_rfl) (by kernel_rfl) (want_none rfl) (fun hc v => ex_sl19 rfl (q7.e (j := 7) rfl) rfl (congrArg some (q7.e (j := 8) rfl)) rfl (slToE20 q o n c (lft n) (by omega) hcap _)) rfl q7.z (by decide) (fun _ => trivial) (q7.k fun _ q8 => ?_);clear q7
  refine vg_takeW 4 true (.slice (some ⟨q, o, none⟩) n c) rfl (by kernel_rfl) (by kernel_rfl) (by kernel_rfl) (by kernel_rfl) (want_none rfl) (fun hc v => ex_move rfl (q8.e (j := 0) rfl)) rfl q8.z (by decide) (fun _ => trivial) (q8.k fun _ q9 => ?_);clear q8
  refine vg_takeW 5 true (.int .i64 ((lft n : Nat) : Int)) rfl (by kernel_rfl) (by kernel_rfl) (by kernel_rfl) (by kernel_rfl) (want_none rfl) (fun hc v => ex_move rfl (q9.e (j := 3) rfl)) rfl q9.z (by decide) (fun _ => trivial) (q9.k fun _ q10 => ?_);clear q9
  refine vg_takeW 6 true (.slice (some (if c = lft n then ⟨q, o, none⟩ else ⟨q, o + (lft n) * 5, none⟩)) (n - lft n) (c - lft n)) rfl (by kernel_rfl) (by kernel_rfl) (by kernel_rfl) (by kernel_rfl) (want_none rfl) (fun hc v => ex_sl19 rfl (q10.e (j := 11) rfl) (congrArg some (q10.e (j := 12) rfl)) rfl rfl (slFromE20 q o n c (lft n) (by omega) hcap _)) rfl q10.z (by decide) (fun _ => trivial) (q10.k fun _ q11 => ?_);clear q10
  refine vg_call 3 rfl (by kernel_rfl) (want_none rfl) (ex_call rfl (by simp only [List.map_toArray, List.map_cons, List.map_nil, (q11.e (j := 9) rfl), evc] <;> rfl) rfl) (head20 _ _ _ _ y0 sT (by omega) (fun x hx => hv x (List.mem_of_mem_take hx))) rfl q11.z (by decide) ?_
  rintro e d1 ⟨rfl, b1⟩
  have z1 := b1.size
  have sF1 := sF.later b1
  have Bh1 := (Bw1.later hy0).later b1
  refine ⟨_, rfl, trivial, q11.k fun _ q12 => ?_⟩;clear q11
  refine vg_call 7 rfl (by kernel_rfl) (want_none rfl) (ex_call rfl (by simp only [List.map_toArray, List.map_cons, List.map_nil, (q12.e (j := 13) rfl), evc] <;> rfl) rfl) (head20 _ _ _ _ d1 sF1 (by omega) (fun x hx => hv x (List.mem_of_mem_drop hx))) rfl q12.z (by decide) ?_
  rintro e d2 ⟨rfl, b2⟩
  have z2 := b2.size
  have Bh2 := Bh1.later b2
  have d6 : Below w.heap.size w d2 := ((bw1.trans (hy0.mono (by omega))).trans (b1.mono (by omega))).trans (b2.mono (by omega))
  refine ⟨_, rfl, trivial, q12.k fun _ q13 => ?_⟩;clear q12
  refine vg_takeW 8 true (pval (hd ((l.take (lft n)).map lf)) (hd ((l.drop (lft n)).map lf))) rfl (by kernel_rfl) (by kernel_rfl) (by kernel_rfl) (by kernel_rfl) (want_none rfl) (fun hc v => ex_bdP rfl (q13.e (j := 10) rfl) (q13.e (j := 14) rfl) (bdP _ _ _)) rfl q13.z (by decide) (fun _ => trivial) (q13.k fun _ q14 => ?_);clear q13
  obtain ⟨d7, hd7⟩ : ∃ y, y = d2.setCells w.heap.size 0 (pcs (hd ((l.take (lft n)).map lf)) (hd ((l.drop (lft n)).map lf))) := ⟨_, rfl⟩
  refine vg_store 9 d7 rfl (by kernel_rfl) (by kernel_rfl) (want_none rfl) (ex_st rfl (q14.e (j := 2) rfl) (q14.e (j := 15) rfl) (by rw [hd7]; exact Bh2.stP rfl _ _)) rfl ?_
  have Bd7 : BB d7 w.heap.size 99 (pcs (hd ((l.take (lft n)).map lf)) (hd ((l.drop (lft n)).map lf))) := by rw [hd7]; exact Bh2.whole _ (by rw [pcs_len]; rfl)
  have ud7 : Upd (fun k => k = w.heap.size) d2 d7 := by rw [hd7]; exact upd18 _ _ _ _
  clear hd7
  refine vg_done (by kernel_rfl) ?_
  go_wp2
  exact Bd7.res rfl (q14.a 2 rfl) Try.underlying99 rfl (by rw [pcs_len]; exact i64p) ⟨by rw [List.map_take, List.map_drop]; rfl, d6.trans (bel_ge ud7 d6.size (Nat.le_refl _))⟩

end Go.Proofs.Ytaagmdkhjmonnaa
