import Derived.Test.YtomiifnhcojilaaGRb
import Derived.Laws.StructEq
namespace Go.Proofs.Ytomiifnhcojilaa
open Go.RowKit Go.Maps
open Classical
set_option linter.unusedVariables false
set_option linter.unusedSimpArgs false

theorem len2 {α : Type} : ∀ l : List α, l.length = 2 → ∃ a b, l = [a, b]
  | [], h => by cases h
  | [a], h => by simp at h
  | [a, b], _ => ⟨a, b, rfl⟩
  | a :: b :: c :: r, h => by simp at h
theorem eqHd {h k : List Int} (hl : h.length = 32) (kl : k.length = 32) (d : Nat) (w : World) : (Op.equalIn (d + 2) 24 (.agg (h.map bV).toArray) (.agg (k.map bV).toArray)).run Try.prog w = .ok (decide (h = k)) w := by
  have hi0 := i1b
  rw [Option.map_eq_some_iff] at hi0
  obtain ⟨i, hi, _⟩ := hi0
  have hc : Try.prog.cellsOf 5 = 1 := by kernel_rfl
  have := run_equalIn_array (P := Try.prog) w (d + 1) (h.map bV).toArray (k.map bV).toArray Try.underlying24 hi
  rw [hc, items_b hl kl d w _ (fun i hi => List.mem_range.1 hi), all_eq hl kl] at this
  exact this
theorem part0 (a b : Hs) (w : World) : (part 24 (pcs a b).toArray 0).run Try.prog w = .ok a.val w := by
  have e1 : (isAgg 24).run Try.prog w = .ok true w := by kernel_rfl
  have e2 : (sizeOf 24).run Try.prog w = .ok 32 w := by kernel_rfl
  have e4 : List.take 32 (pcs a b) = a.cs := by rw [pcs, List.take_left' a.len]
  unfold part
  rw [Sem.run_bind, e1, Result.andThen_ok]
  simp [e2, e4]
  first | done | rfl
theorem part32 (a b : Hs) (w : World) : (part 24 (pcs a b).toArray 32).run Try.prog w = .ok b.val w := by
  have e1 : (isAgg 24).run Try.prog w = .ok true w := by kernel_rfl
  have e2 : (sizeOf 24).run Try.prog w = .ok 32 w := by kernel_rfl
  have e4 : List.take 32 (List.drop 32 (pcs a b)) = b.cs := by rw [pcs, List.drop_left' a.len, List.take_of_length_le (by rw [b.len]; omega)]
  unfold part
  rw [Sem.run_bind, e1, Result.andThen_ok]
  simp [e2, e4]
  first | done | rfl
set_option maxRecDepth 100000 in
theorem eqP (a b c d : Hs) (w : World) : (Op.equal 99 (pval a b) (pval c d)).run Try.prog w = .ok (decide (a.v = c.v) && decide (b.v = d.v)) w := by
  have hu : Try.prog.underlying 99 = some (.struct (Try.prog.fieldsOf 99)) := by kernel_rfl
  have hp : Try.prog.stoodInHeld 99 = false := by kernel_rfl
  have h := run_equalIn_struct (P := Try.prog) w 9999 99 (pcs a b).toArray (pcs c d).toArray hu hp
  have hf : (Try.prog.fieldsOf 99).toList.map (fun f => (f.type, f.offset, decide (f.name ≠ "_"))) = [(24, 0, true), (24, 32, true)] := by kernel_rfl
  generalize (Try.prog.fieldsOf 99).toList = fs at h hf
  obtain ⟨f, g, rfl⟩ := len2 _ (show fs.length = 2 by have := congrArg List.length hf; rw [List.length_map] at this; exact this)
  simp only [List.map_cons, List.map_nil, List.cons.injEq, Prod.mk.injEq, decide_eq_true_eq, and_true] at hf
  obtain ⟨⟨f1, f2, f3⟩, g1, g2, g3⟩ := hf
  refine h.trans ?_
  have q1 : (Op.equalIn 9999 24 a.val c.val).run Try.prog w = .ok (decide (a.v = c.v)) w := eqHd a.p c.p 9997 w
  have q2 : (Op.equalIn 9999 24 b.val d.val).run Try.prog w = .ok (decide (b.v = d.v)) w := eqHd b.p d.p 9997 w
  rw [Op.eqFields, if_pos f3, f1, f2, Sem.run_bind, part0, Result.andThen_ok, Sem.run_bind, part0, Result.andThen_ok, Sem.run_bind, q1, Result.andThen_ok]
  by_cases e1 : a.v = c.v
  · rw [decide_eq_true e1, if_neg (by simp), Op.eqFields, if_pos g3, g1, g2, Sem.run_bind, part32, Result.andThen_ok, Sem.run_bind, part32, Result.andThen_ok, Sem.run_bind, q2, Result.andThen_ok]
    by_cases e2 : b.v = d.v
    · rw [decide_eq_true e2, if_neg (by simp)]; rfl
    · rw [decide_eq_false e2, if_pos (by simp)]; rfl
  · rw [decide_eq_false e1, if_pos (by simp)]; rfl
theorem gdP (x y : Operand) (A B : Array Value) (w : World) : (eqGuard .neq 99 x y (.agg A) (.agg B)).run Try.prog w = .ok () w := by
  have e : (Try.prog.eqGuardType Try.prog.depth 99) = false := by kernel_rfl
  unfold eqGuard
  simp [e]
theorem neP (x y : Operand) (a b c d : Hs) (w : World) : (do eqGuard .neq 99 x y (pval a b) (pval c d); binOp .neq 99 (pval a b) (pval c d) : Sem Value).run Try.prog w = .ok (.bool (!(decide (a.v = c.v) && decide (b.v = d.v)))) w := by
  rw [Sem.run_bind, show (eqGuard .neq 99 x y (pval a b) (pval c d)).run Try.prog w = .ok () w from gdP x y _ _ w, Result.andThen_ok]
  show (do pure (.bool (!(← Op.equal 99 (pval a b) (pval c d)))) : Sem Value).run Try.prog w = _
  rw [Sem.run_bind, eqP]
  rfl
theorem slFromE20 (q o n c k : Nat) (h1 : k ≤ n) (h2 : n ≤ c) (w : World) : (Instr.sliceAt 22 (.slice (some ⟨q, o, none⟩) n c) (some (.int .i64 (k : Int))) none none).run Try.prog w = .ok (.slice (some (if c = k then ⟨q, o, none⟩ else ⟨q, o + k * 5, none⟩)) (n - k) (c - k)) w := by
  have e1 : (0 : Int) ≤ (k : Int) := by omega
  have e2 : (k : Int) ≤ (n : Int) := by omega
  have e3 : (n : Int) ≤ (c : Int) := by omega
  by_cases h : c = k
  · subst h
    rw [if_pos rfl]
    go_simp
    first | done | simp
  · rw [if_neg h]
    go_simp
    first | done | simp [h]
theorem ex_bdP {o : Oper} {ρ : Operand → Value} {s : TypeId} {a b : Operand} {A B V : Value} {w : World} (ho : o.op = .build s #[(0, a), (1, b)]) (ha : ρ a = A) (hb : ρ b = B) (hr : (Instr.build s #[(0, A), (1, B)]).run Try.prog w = .ok V w) : (execOp ρ o).run Try.prog w = .ok (.value V) w := ex_buildP18 ho (by simp only [List.map_toArray, List.map_cons, List.map_nil, ha, hb]) hr
set_option maxRecDepth 100000 in
set_option maxHeartbeats 2000000 in
theorem one20 (a b c d : Hs) (w : World) :
    Calls Try.prog 65 #[pval a b, pval c d] w fun e w' => e = .returned (.bool ((!(decide (a.v = c.v) && decide (b.v = d.v))) && decide ((nd a b).v = (nd c d).v))) ∧ Below w.heap.size w w' := by
  go_enter Try.func65, Try.ntmps65
  go_upto_region 0 with fail
  refine wp_region_lit ?_
  refine vl_gen (fun T => Rp T 21 [(1, gw true (pval c d)), (0, gw true (pval a b))]) (((Rp.nil rfl).cons rfl).cons rfl) (fun Z0 q0 => ?_)
  obtain ⟨w1, hw1⟩ : ∃ y, y = w.alloc (.cells (pcs a b).toArray 99) := ⟨_, rfl⟩
  refine vw (.pointer (some ⟨w.heap.size, 0, none⟩)) w1 (want_none rfl) (ex_box18 rfl (q0.e (j := 0) rfl) (by rw [hw1]; exact bxP _ _ _)) rfl q0.z (by decide) (q0.k fun _ q1 => ?_);clear q0
  have Bw1 : BB w1 w.heap.size 99 (pcs a b) := by rw [hw1]; exact BB.new _ _ _
  have bw1 : Below w.heap.size w w1 := by rw [hw1]; exact (Below.refl _ _).alloc (Nat.le_refl _) _
  have zw1 : w1.heap.size = w.heap.size + 1 := by rw [hw1]; exact World.size_alloc _ _
  clear hw1
  obtain ⟨w2, hw2⟩ : ∃ y, y = w1.alloc (.cells (pcs c d).toArray 99) := ⟨_, rfl⟩
  refine vw (.pointer (some ⟨w1.heap.size, 0, none⟩)) w2 (want_none rfl) (ex_box18 rfl (q1.e (j := 1) rfl) (by rw [hw2]; exact bxP _ _ _)) rfl q1.z (by decide) (q1.k fun _ q2 => ?_);clear q1
  have Bw2 : BB w2 w1.heap.size 99 (pcs c d) := by rw [hw2]; exact BB.new _ _ _
  have bw2 : Below w1.heap.size w1 w2 := by rw [hw2]; exact (Below.refl _ _).alloc (Nat.le_refl _) _
  have zw2 : w2.heap.size = w1.heap.size + 1 := by rw [hw2]; exact World.size_alloc _ _
  clear hw2
  refine q2.t (.bool false) (ex_assign rfl rfl) fun _ q3 => ?_;clear q2
  refine wpList_nil ?_
  go_upto_region 1 with fail
  have A2 := Bw1.later bw2
  have d2 : Below w.heap.size w w2 := bw1.trans (bw2.mono (by omega))
  refine vq_start (C := fun v => Below w2.heap.size w2 v) (by kernel_rfl) (by kernel_rfl) ((Below.refl _ _).drew) ?_
  refine q3.q (pval a b) (fun v hv => ex_ld rfl (q3.e (j := 2) rfl) (A2.later hv).ldP) fun _ q4 => ?_;clear q3
  refine q4.q (pval c d) (fun v hv => ex_ld rfl (q4.e (j := 3) rfl) (Bw2.later hv).ldP) fun _ q5 => ?_;clear q4
  refine q5.q (.bool (!(decide (a.v = c.v) && decide (b.v = d.v)))) (fun v hv => ex_bin rfl (q5.e (j := 5) rfl) (q5.e (j := 6) rfl) (neP _ _ _ _ _ _ _)) fun _ q6 => ?_;clear q5
  refine q6.q (.bool (!(decide (a.v = c.v) && decide (b.v = d.v)))) (fun v hv => ex_move rfl (q6.e (j := 7) rfl)) fun _ q7 => ?_;clear q6
  refine vq ((true && ((!(decide (a.v = c.v) && decide (b.v = d.v))) == true))) (.pointer (some ⟨w.heap.size, 0, none⟩)) (want_g rfl rfl (q7.a 8 rfl)) (fun hc v hv => ex_fa rfl (q7.e (j := 2) rfl) (faP _ 0 0 (by simp) _)) rfl q7.z (by decide) (q7.k fun _ q8 => ?_);clear q7
  refine vq ((true && ((!(decide (a.v = c.v) && decide (b.v = d.v))) == true))) (a.val) (want_g rfl rfl (q8.a 8 rfl)) (fun hc v hv => ex_ld rfl (ev (q8.a 9 rfl) hc) (A2.later hv).ldA) rfl q8.z (by decide) (q8.k fun _ q9 => ?_);clear q8
  refine vq ((true && ((!(decide (a.v = c.v) && decide (b.v = d.v))) == true))) (.pointer (some ⟨w.heap.size, 32, none⟩)) (want_g rfl rfl (q9.a 8 rfl)) (fun hc v hv => ex_fa rfl (q9.e (j := 2) rfl) (faP _ 1 32 (by simp) _)) rfl q9.z (by decide) (q9.k fun _ q10 => ?_);clear q9
  refine vq ((true && ((!(decide (a.v = c.v) && decide (b.v = d.v))) == true))) (b.val) (want_g rfl rfl (q10.a 8 rfl)) (fun hc v hv => ex_ld rfl (ev (q10.a 11 rfl) hc) (A2.later hv).ldB) rfl q10.z (by decide) (q10.k fun _ q11 => ?_);clear q10
  refine vq_call18 ((true && ((!(decide (a.v = c.v) && decide (b.v = d.v))) == true))) ((nd a b).val) (want_g rfl rfl (q11.a 8 rfl)) (fun hc v hv => ex_call rfl (by simp only [List.map_toArray, List.map_cons, List.map_nil, (ev (q11.a 10 rfl) hc), (ev (q11.a 12 rfl) hc), evc] <;> rfl) rfl) (fun hc v hv => bel18 hv (node20 a b v) hv.size) rfl q11.z (by decide) (q11.k fun _ q12 => ?_);clear q11
  refine vq ((true && ((!(decide (a.v = c.v) && decide (b.v = d.v))) == true))) (.pointer (some ⟨w1.heap.size, 0, none⟩)) (want_g rfl rfl (q12.a 8 rfl)) (fun hc v hv => ex_fa rfl (q12.e (j := 3) rfl) (faP _ 0 0 (by simp) _)) rfl q12.z (by decide) (q12.k fun _ q13 => ?_);clear q12
  refine vq ((true && ((!(decide (a.v = c.v) && decide (b.v = d.v))) == true))) (c.val) (want_g rfl rfl (q13.a 8 rfl)) (fun hc v hv => ex_ld rfl (ev (q13.a 14 rfl) hc) (Bw2.later hv).ldA) rfl q13.z (by decide) (q13.k fun _ q14 => ?_);clear q13
  refine vq ((true && ((!(decide (a.v = c.v) && decide (b.v = d.v))) == true))) (.pointer (some ⟨w1.heap.size, 32, none⟩)) (want_g rfl rfl (q14.a 8 rfl)) (fun hc v hv => ex_fa rfl (q14.e (j := 3) rfl) (faP _ 1 32 (by simp) _)) rfl q14.z (by decide) (q14.k fun _ q15 => ?_);clear q14
  refine vq ((true && ((!(decide (a.v = c.v) && decide (b.v = d.v))) == true))) (d.val) (want_g rfl rfl (q15.a 8 rfl)) (fun hc v hv => ex_ld rfl (ev (q15.a 16 rfl) hc) (Bw2.later hv).ldB) rfl q15.z (by decide) (q15.k fun _ q16 => ?_);clear q15
  refine vq_call18 ((true && ((!(decide (a.v = c.v) && decide (b.v = d.v))) == true))) ((nd c d).val) (want_g rfl rfl (q16.a 8 rfl)) (fun hc v hv => ex_call rfl (by simp only [List.map_toArray, List.map_cons, List.map_nil, (ev (q16.a 15 rfl) hc), (ev (q16.a 17 rfl) hc), evc] <;> rfl) rfl) (fun hc v hv => bel18 hv (node20 c d v) hv.size) rfl q16.z (by decide) (q16.k fun _ q17 => ?_);clear q16
  refine vq ((true && ((!(decide (a.v = c.v) && decide (b.v = d.v))) == true))) (.bool (decide ((nd a b).v = (nd c d).v))) (want_g rfl rfl (q17.a 8 rfl)) (fun hc v hv => ex_bin rfl (ev (q17.a 13 rfl) hc) (ev (q17.a 18 rfl) hc) (eqHZ _ _ _ _ _)) rfl q17.z (by decide) (q17.k fun _ q18 => ?_);clear q17
  refine q18.q (.bool ((!(decide (a.v = c.v) && decide (b.v = d.v))) && decide ((nd a b).v = (nd c d).v))) (fun v hv => ex_and rfl (q18.a 8 rfl) (q18.a 19 rfl) rfl) fun _ q19 => ?_;clear q18
  refine q19.q (.bool ((!(decide (a.v = c.v) && decide (b.v = d.v))) && decide ((nd a b).v = (nd c d).v))) (fun v hv => ex_assign rfl (q19.e (j := 20) rfl)) fun _ q20 => ?_;clear q19
  refine vq_nil (fun r1 hr1 => ?_)
  go_wp2
  refine bodyPost_ret (results_tmp rfl _ _ _) rfl ?_
  rw [getD_of (q20.a 4 rfl)]
  exact ⟨rfl, d2.trans (hr1.mono d2.size)⟩
set_option maxRecDepth 100000 in
set_option maxHeartbeats 2000000 in
theorem halves20 (l : List En) (a : Option Addr) (n c : Nat) (w : World) (h : SlY yE w a n c l) (h2 : 2 ≤ n) (hn : n ≤ 1000000) (hv : ∀ x ∈ l, x.o.v.size ≤ 140737488350000) :
    Calls Try.prog 66 #[.slice a n c] w fun e w' => e = .returned (pval (hd ((l.map lf).take (lft n))) (hd ((l.map lf).drop (lft n)))) ∧ Below w.heap.size w w' := by
  go_enter Try.func66, Try.ntmps66
  go_upto_region 0 with fail
  refine wp_region_lit ?_
  refine vl_gen (fun T => Rp T 16 [(0, gw true (.slice a n c))]) ((Rp.nil rfl).cons rfl) (fun Z0 q0 => ?_)
  have hln := h.len
  have hcap := h.cap
  obtain ⟨q, o, rfl, hq, hl⟩ := h.place (by rintro rfl; simp at hln; omega)
  obtain ⟨w1, hw1⟩ : ∃ y, y = w.alloc (.cells (pz).toArray 99) := ⟨_, rfl⟩
  refine vw (.pointer (some ⟨w.heap.size, 0, none⟩)) w1 (want_none rfl) (ex_al rfl (by rw [hw1]; exact alP _)) rfl q0.z (by decide) (q0.k fun _ q1 => ?_);clear q0
  have Bw1 : BB w1 w.heap.size 99 (pz) := by rw [hw1]; exact BB.new _ _ _
  have bw1 : Below w.heap.size w w1 := by rw [hw1]; exact (Below.refl _ _).alloc (Nat.le_refl _) _
  have zw1 : w1.heap.size = w.heap.size + 1 := by rw [hw1]; exact World.size_alloc _ _
  clear hw1
  refine wpList_nil ?_
  go_upto_region 1 with fail
  refine wp_region_lit ?_
  refine q1.t (.slice (some ⟨q, o, none⟩) n c) (ex_move rfl (q1.e (j := 0) rfl)) fun _ q2 => ?_;clear q1
  refine q2.t (.int .i64 ((n : Nat) : Int)) (ex_lenG rfl rfl Try.underlying22 (q2.e (j := 4) rfl)) fun _ q3 => ?_;clear q2
  refine vcallP (want_none rfl) (ex_call rfl (by simp only [List.map_toArray, List.map_cons, List.map_nil, (q3.e (j := 5) rfl), evc] <;> rfl) rfl) (split20 n h2 hn w1) rfl q3.z (by decide) ?_
  rintro e w9 ⟨rfl, hw9⟩
  refine ⟨_, rfl, q3.k fun _ q4 => ?_⟩;clear q3
  have hw9 := hw9.symm
  subst hw9
  refine q4.t (.int .i64 ((lft n : Nat) : Int)) (ex_assign rfl (q4.e (j := 6) rfl)) fun _ q5 => ?_;clear q4
  refine wpList_nil ?_
  go_upto_region 2 with fail
  have hb := lft_b (n := n) (by omega)
  refine vg_start (fun k => k == 9) (fun _ => True) (by kernel_rfl) ?_
  have hy0 : Below w1.heap.size w1 w1.drew := (Below.refl _ _).drew
  have hzy0 : w1.drew.heap.size = w1.heap.size := rfl
  generalize w1.drew = y0 at *
  have hS := (h.later bw1).later hy0
  have sT := hS.take (lft n) (by omega)
  have sF := hS.from20 (lft n) (by omega)
  refine vg_takeW 0 true (.slice (some ⟨q, o, none⟩) n c) rfl (by kernel_rfl) (by kernel_rfl) (by kernel_rfl) (by kernel_rfl) (want_none rfl) (fun hc v => ex_move rfl (q5.e (j := 0) rfl)) rfl q5.z (by decide) (fun _ => trivial) (q5.k fun _ q6 => ?_);clear q5
  refine vg_takeW 1 true (.int .i64 ((lft n : Nat) : Int)) rfl (by kernel_rfl) (by kernel_rfl) (by kernel_rfl) (by kernel_rfl) (want_none rfl) (fun hc v => ex_move rfl (q6.e (j := 3) rfl)) rfl q6.z (by decide) (fun _ => trivial) (q6.k fun _ q7 => ?_);clear q6
  refine vg_takeW 2 true (.slice (some ⟨q, o, none⟩) (lft n) c) rfl (by kernel_rfl) (by kernel_rfl) (by kernel_rfl) (by kernel_rfl) (want_none rfl) (fun hc v => ex_sl19 rfl (q7.e (j := 7) rfl) rfl (congrArg some (q7.e (j := 8) rfl)) rfl (slToE20 q o n c (lft n) (by omega) hcap _)) rfl q7.z (by decide) (fun _ => trivial) (q7.k fun _ q8 => ?_);clear q7
  refine vg_takeW 4 true (.slice (some ⟨q, o, none⟩) n c) rfl (by kernel_rfl) (by kernel_rfl) (by kernel_rfl) (by kernel_rfl) (want_none rfl) (fun hc v => ex_move rfl (q8.e (j := 0) rfl)) rfl q8.z (by decide) (fun _ => trivial) (q8.k fun _ q9 => ?_);clear q8
  refine vg_takeW 5 true (.int .i64 ((lft n : Nat) : Int)) rfl (by kernel_rfl) (by kernel_rfl) (by kernel_rfl) (by kernel_rfl) (want_none rfl) (fun hc v => ex_move rfl (q9.e (j := 3) rfl)) rfl q9.z (by decide) (fun _ => trivial) (q9.k fun _ q10 => ?_);clear q9
  refine vg_takeW 6 true (.slice (some (if c = lft n then ⟨q, o, none⟩ else ⟨q, o + (lft n) * 5, none⟩)) (n - lft n) (c - lft n)) rfl (by kernel_rfl) (by kernel_rfl) (by kernel_rfl) (by kernel_rfl) (want_none rfl) (fun hc v => ex_sl19 rfl (q10.e (j := 11) rfl) (congrArg some (q10.e (j := 12) rfl)) rfl rfl (slFromE20 q o n c (lft n) (by omega) hcap _)) rfl q10.z (by decide) (fun _ => trivial) (q10.k fun _ q11 => ?_);clear q10
  refine vg_call 3 rfl (by kernel_rfl) (want_none rfl) (ex_call rfl (by simp only [List.map_toArray, List.map_cons, List.map_nil, (q11.e (j := 9) rfl), evc] <;> rfl) rfl) (head20 _ _ _ _ y0 sT (by omega) (fun x hx => hv x (List.mem_of_mem_take hx))) rfl q11.z (by decide) ?_
  rintro e d1 ⟨rfl, b1⟩
  have z1 := b1.size
  have sF1 := sF.later b1
  have Bh1 := (Bw1.later hy0).later b1
  refine ⟨_, rfl, trivial, q11.k fun _ q12 => ?_⟩;clear q11
  refine vg_call 7 rfl (by kernel_rfl) (want_none rfl) (ex_call rfl (by simp only [List.map_toArray, List.map_cons, List.map_nil, (q12.e (j := 13) rfl), evc] <;> rfl) rfl) (head20 _ _ _ _ d1 sF1 (by omega) (fun x hx => hv x (List.mem_of_mem_drop hx))) rfl q12.z (by decide) ?_
  rintro e d2 ⟨rfl, b2⟩
  have z2 := b2.size
  have Bh2 := Bh1.later b2
  have d6 : Below w.heap.size w d2 := ((bw1.trans (hy0.mono (by omega))).trans (b1.mono (by omega))).trans (b2.mono (by omega))
  refine ⟨_, rfl, trivial, q12.k fun _ q13 => ?_⟩;clear q12
  refine vg_takeW 8 true (pval (hd ((l.take (lft n)).map lf)) (hd ((l.drop (lft n)).map lf))) rfl (by kernel_rfl) (by kernel_rfl) (by kernel_rfl) (by kernel_rfl) (want_none rfl) (fun hc v => ex_bdP rfl (q13.e (j := 10) rfl) (q13.e (j := 14) rfl) (bdP _ _ _)) rfl q13.z (by decide) (fun _ => trivial) (q13.k fun _ q14 => ?_);clear q13
  obtain ⟨d7, hd7⟩ : ∃ y, y = d2.setCells w.heap.size 0 (pcs (hd ((l.take (lft n)).map lf)) (hd ((l.drop (lft n)).map lf))) := ⟨_, rfl⟩
  refine vg_store 9 d7 rfl (by kernel_rfl) (by kernel_rfl) (want_none rfl) (ex_st rfl (q14.e (j := 2) rfl) (q14.e (j := 15) rfl) (by rw [hd7]; exact Bh2.stP rfl _ _)) rfl ?_
  have Bd7 : BB d7 w.heap.size 99 (pcs (hd ((l.take (lft n)).map lf)) (hd ((l.drop (lft n)).map lf))) := by rw [hd7]; exact Bh2.whole _ (by rw [pcs_len]; rfl)
  have ud7 : Upd (fun k => k = w.heap.size) d2 d7 := by rw [hd7]; exact upd18 _ _ _ _
  clear hd7
  refine vg_done (by kernel_rfl) ?_
  go_wp2
  exact Bd7.res rfl (q14.a 2 rfl) Try.underlying99 rfl (by rw [pcs_len]; exact i64p) ⟨by rw [List.map_take, List.map_drop]; rfl, d6.trans (bel_ge ud7 d6.size (Nat.le_refl _))⟩

end Go.Proofs.Ytomiifnhcojilaa

namespace Go.Proofs.Ytomiifnhcojilaa
open Go.RowKit Go.Maps
open Classical
set_option linter.unusedVariables false
set_option linter.unusedSimpArgs false

theorem neEnT (a b : Operand) {x y : En} (h : ¬ x = y) (w : World) : (do eqGuard .neq 28 a b x.val20 y.val20; binOp .neq 28 x.val20 y.val20 : Sem Value).run Try.prog w = .ok (.bool true) w := by
  have := neEn20 a b x y w
  rw [decide_eq_false h] at this
  exact this
theorem eqHt (x y : Operand) {h k : Hs} (e : h.v = k.v) (w : World) : (do eqGuard .eql 24 x y h.val k.val; binOp .eql 24 h.val k.val : Sem Value).run Try.prog w = .ok (.bool true) w := by
  have := eqHZ x y h k w
  rw [decide_eq_true e] at this
  exact this
theorem ex_min20 {o : Oper} {ρ : Operand → Value} {i j : Nat} {n m : Nat} {w : World} (ho : o.op = .call { callee := .builtin .min, args := #[.tmp i, .tmp j], argTypes := #[3, 3] }) (ht : o.type = 3) (hx : ρ (.tmp i) = .int .i64 (n : Int)) (hy : ρ (.tmp j) = .int .i64 (m : Int)) : (execOp ρ o).run Try.prog w = .ok (.value (.int .i64 ((min n m : Nat) : Int))) w := by
  unfold execOp
  simp only [ho]
  rw [Sem.run_bind]
  simp only [resolve, List.map_toArray, List.map_cons, List.map_nil, hx, hy, ht]
  by_cases h : n ≤ m
  · have h2 : ¬ (m : Int) < (n : Int) := by omega
    rw [Nat.min_eq_left h]
    go_simp
    first | done | (simp; omega)
  · have h2 : (m : Int) < (n : Int) := by omega
    rw [Nat.min_eq_right (by omega)]
    go_simp
    first | done | (simp; omega)
set_option maxRecDepth 100000 in
set_option maxHeartbeats 2000000 in
theorem clash_step (m : Nat) (ih : ∀ (A B : List En) (a : Option Addr) (n c : Nat) (a2 : Option Addr) (c2 : Nat) (w : World), SlY yE w a n c A → SlY yE w a2 n c2 B → n < m → 1 ≤ n → n ≤ 1000000 → hd (A.map lf) = hd (B.map lf) → ¬ A = B → (∀ x ∈ A, x.o.v.size ≤ 140737488350000) → (∀ x ∈ B, x.o.v.size ≤ 140737488350000) → Calls Try.prog 36 #[.slice a n c, .slice a2 n c2] w fun e w' => e = .returned (.bool true) ∧ Below w.heap.size w w') (A B : List En) (a : Option Addr) (n c : Nat) (a2 : Option Addr) (c2 : Nat) (w : World) (hA : SlY yE w a n c A) (hB : SlY yE w a2 n c2 B) (hm : n ≤ m) (hn0 : 1 ≤ n) (hn2 : n ≤ 1000000) (hhd : hd (A.map lf) = hd (B.map lf)) (hne : ¬ A = B) (hvA : ∀ x ∈ A, x.o.v.size ≤ 140737488350000) (hvB : ∀ x ∈ B, x.o.v.size ≤ 140737488350000) :
    Calls Try.prog 36 #[.slice a n c, .slice a2 n c2] w fun e w' => e = .returned (.bool true) ∧ Below w.heap.size w w' := by
  go_enter Try.func36, Try.ntmps36
  go_upto_region 0 with fail
  refine wp_region_lit ?_
  refine vl_gen (fun T => Rp T 56 [(1, gw true (.slice a2 n c2)), (0, gw true (.slice a n c))]) (((Rp.nil rfl).cons rfl).cons rfl) (fun Z0 q0 => ?_)
  have lA := hA.len
  have lB := hB.len
  have capA := hA.cap
  have capB := hB.cap
  obtain ⟨qa, oa, rfl, hqla, hla⟩ := hA.place (by rintro rfl; simp at lA; omega)
  obtain ⟨qb, ob, rfl, hqlb, hlb⟩ := hB.place (by rintro rfl; simp at lB; omega)
  refine q0.t (.bool false) (ex_assign rfl rfl) fun _ q1 => ?_;clear q0
  refine wpList_nil ?_
  go_upto_region 1 with fail
  refine wp_region_lit ?_
  refine q1.t (.slice (some ⟨qa, oa, none⟩) n c) (ex_move rfl (q1.e (j := 0) rfl)) fun _ q2 => ?_;clear q1
  refine q2.t (.int .i64 ((n : Nat) : Int)) (ex_lenG rfl rfl Try.underlying22 (q2.e (j := 6) rfl)) fun _ q3 => ?_;clear q2
  by_cases hn1 : n = 1
  · refine q3.t (.bool true) (ex_bin (Y := .int .i64 (1 : Int)) rfl (q3.e (j := 7) rfl) rfl (eqT20 _ _ (by omega) _)) fun _ q4 => ?_;clear q3
    refine wpList_nil ?_
    go_upto_region 2 with fail
    refine wp_cond_true (q4.e (j := 8) rfl) ?_
    go_upto_region 2 with fail
    obtain ⟨x, rfl⟩ : ∃ x, A = [x] := List.length_eq_one_iff.1 (by omega)
    obtain ⟨y, rfl⟩ : ∃ y, B = [y] := List.length_eq_one_iff.1 (by omega)
    have hxy : ¬ x = y := fun e => hne (by rw [e])
    have hlf : lf x = lf y := hhd
    have hlv : (lf x).v = (lf y).v := by rw [hlf]
    have HL := hide hlv
    clear hlf hlv hhd hne
    refine vq_start (C := fun v => Below w.heap.size w v) (by kernel_rfl) (by kernel_rfl) ((Below.refl _ _).drew) ?_
    refine q4.q (.slice (some ⟨qa, oa, none⟩) n c) (fun v hv => ex_move rfl (q4.e (j := 0) rfl)) fun _ q5 => ?_;clear q4
    refine q5.q (.pointer (some ⟨qa, oa + 0 * 5, none⟩)) (fun v hv => ex_ix (Y := .int .i64 ((0 : Nat) : Int)) rfl (q5.e (j := 9) rfl) rfl (ixE20 qa oa n c 0 (by omega) _)) fun _ q6 => ?_;clear q5
    refine q6.q (x.val20) (fun v hv => ex_ld rfl (q6.e (j := 10) rfl) (ldEl20 (hla.upd (S := fun _ => False) (Upd.of_below hv) hqla id) (j := 0) rfl)) fun _ q7 => ?_;clear q6
    refine q7.q (.slice (some ⟨qb, ob, none⟩) n c2) (fun v hv => ex_move rfl (q7.e (j := 1) rfl)) fun _ q8 => ?_;clear q7
    refine q8.q (.pointer (some ⟨qb, ob + 0 * 5, none⟩)) (fun v hv => ex_ix (Y := .int .i64 ((0 : Nat) : Int)) rfl (q8.e (j := 12) rfl) rfl (ixE20 qb ob n c2 0 (by omega) _)) fun _ q9 => ?_;clear q8
    refine q9.q (y.val20) (fun v hv => ex_ld rfl (q9.e (j := 13) rfl) (ldEl20 (hlb.upd (S := fun _ => False) (Upd.of_below hv) hqlb id) (j := 0) rfl)) fun _ q10 => ?_;clear q9
    refine q10.q (.bool true) (fun v hv => ex_bin rfl (q10.e (j := 11) rfl) (q10.e (j := 14) rfl) (neEnT _ _ hxy _)) fun _ q11 => ?_;clear q10
    refine q11.q (.bool true) (fun v hv => ex_move rfl (q11.e (j := 15) rfl)) fun _ q12 => ?_;clear q11
    refine vq ((true && (true == true))) (.slice (some ⟨qa, oa, none⟩) n c) (want_g rfl rfl (q12.a 16 rfl)) (fun hc v hv => ex_move rfl (q12.e (j := 0) rfl)) rfl q12.z (by decide) (q12.k fun _ q13 => ?_);clear q12
    refine vq ((true && (true == true))) (.pointer (some ⟨qa, oa + 0 * 5, none⟩)) (want_g rfl rfl (q13.a 16 rfl)) (fun hc v hv => ex_ix (Y := .int .i64 ((0 : Nat) : Int)) rfl (q13.e (j := 17) rfl) rfl (ixE20 qa oa n c 0 (by omega) _)) rfl q13.z (by decide) (q13.k fun _ q14 => ?_);clear q13
    refine vq ((true && (true == true))) (x.val20) (want_g rfl rfl (q14.a 16 rfl)) (fun hc v hv => ex_ld rfl (q14.e (j := 18) rfl) (ldEl20 (hla.upd (S := fun _ => False) (Upd.of_below hv) hqla id) (j := 0) rfl)) rfl q14.z (by decide) (q14.k fun _ q15 => ?_);clear q14
    refine vq_call18 ((true && (true == true))) ((lf x).val) (want_g rfl rfl (q15.a 16 rfl)) (fun hc v hv => ex_call rfl (by simp only [List.map_toArray, List.map_cons, List.map_nil, (q15.e (j := 19) rfl), evc] <;> rfl) rfl) (fun hc v hv => bel18 hv (leaf20 x v (hvA x (by simp))) hv.size) rfl q15.z (by decide) (q15.k fun _ q16 => ?_);clear q15
    refine vq ((true && (true == true))) (.slice (some ⟨qb, ob, none⟩) n c2) (want_g rfl rfl (q16.a 16 rfl)) (fun hc v hv => ex_move rfl (q16.e (j := 1) rfl)) rfl q16.z (by decide) (q16.k fun _ q17 => ?_);clear q16
    refine vq ((true && (true == true))) (.pointer (some ⟨qb, ob + 0 * 5, none⟩)) (want_g rfl rfl (q17.a 16 rfl)) (fun hc v hv => ex_ix (Y := .int .i64 ((0 : Nat) : Int)) rfl (q17.e (j := 21) rfl) rfl (ixE20 qb ob n c2 0 (by omega) _)) rfl q17.z (by decide) (q17.k fun _ q18 => ?_);clear q17
    refine vq ((true && (true == true))) (y.val20) (want_g rfl rfl (q18.a 16 rfl)) (fun hc v hv => ex_ld rfl (q18.e (j := 22) rfl) (ldEl20 (hlb.upd (S := fun _ => False) (Upd.of_below hv) hqlb id) (j := 0) rfl)) rfl q18.z (by decide) (q18.k fun _ q19 => ?_);clear q18
    refine vq_call18 ((true && (true == true))) ((lf y).val) (want_g rfl rfl (q19.a 16 rfl)) (fun hc v hv => ex_call rfl (by simp only [List.map_toArray, List.map_cons, List.map_nil, (q19.e (j := 23) rfl), evc] <;> rfl) rfl) (fun hc v hv => bel18 hv (leaf20 y v (hvB y (by simp))) hv.size) rfl q19.z (by decide) (q19.k fun _ q20 => ?_);clear q19
    refine vq ((true && (true == true))) (.bool true) (want_g rfl rfl (q20.a 16 rfl)) (fun hc v hv => ex_bin rfl (q20.e (j := 20) rfl) (q20.e (j := 24) rfl) (eqHt _ _ HL.out _)) rfl q20.z (by decide) (q20.k fun _ q21 => ?_);clear q20
    refine q21.q (.bool true) (fun v hv => ex_and (c := true) (b := true) (z := true) rfl (q21.a 16 rfl) (q21.a 25 rfl) rfl) fun _ q22 => ?_;clear q21
    refine q22.q (.bool true) (fun v hv => ex_assign rfl (q22.e (j := 26) rfl)) fun _ q23 => ?_;clear q22
    refine vq_nil (fun r1 hr1 => ?_)
    go_wp2
    refine bodyPost_ret (results_tmp rfl _ _ _) rfl ?_
    rw [getD_of (q23.a 4 rfl)]
    exact ⟨rfl, hr1⟩
  · refine q3.t (.bool false) (ex_bin (Y := .int .i64 (1 : Int)) rfl (q3.e (j := 7) rfl) rfl (eqF20 _ _ (by omega) _)) fun _ q4 => ?_;clear q3
    refine wpList_nil ?_
    go_upto_region 3 with fail
    refine wp_cond_false (q4.e (j := 8) rfl) ?_
    go_upto_region 3 with fail
    refine wp_region_lit ?_
    have hb := lft_b (n := n) (by omega)
    have eA := hd_2 (A.map lf) (by rw [List.length_map]; omega)
    have eB := hd_2 (B.map lf) (by rw [List.length_map]; omega)
    rw [List.length_map, lA] at eA
    rw [List.length_map, lB] at eB
    have hnd : (nd (hd ((A.map lf).take (lft n))) (hd ((A.map lf).drop (lft n)))).v = (nd (hd ((B.map lf).take (lft n))) (hd ((B.map lf).drop (lft n)))).v := by rw [← eA, ← eB, hhd]
    have HND := hide hnd
    clear hnd eA eB hhd
    refine q4.t (.slice (some ⟨qa, oa, none⟩) n c) (ex_move rfl (q4.e (j := 0) rfl)) fun _ q5 => ?_;clear q4
    refine vcallP (want_none rfl) (ex_call rfl (by simp only [List.map_toArray, List.map_cons, List.map_nil, (q5.e (j := 27) rfl), evc] <;> rfl) rfl) (halves20 A _ n c w hA (by omega) hn2 hvA) rfl q5.z (by decide) ?_
    rintro e w1 ⟨rfl, b1⟩
    refine ⟨_, rfl, q5.k fun _ q6 => ?_⟩;clear q5
    have z1 := b1.size
    have A1 := hA.later b1
    have B1 := hB.later b1
    refine q6.t (.slice (some ⟨qb, ob, none⟩) n c2) (ex_move rfl (q6.e (j := 1) rfl)) fun _ q7 => ?_;clear q6
    refine vcallP (want_none rfl) (ex_call rfl (by simp only [List.map_toArray, List.map_cons, List.map_nil, (q7.e (j := 29) rfl), evc] <;> rfl) rfl) (halves20 B _ n c2 w1 B1 (by omega) hn2 hvB) rfl q7.z (by decide) ?_
    rintro e w2 ⟨rfl, b2⟩
    refine ⟨_, rfl, q7.k fun _ q8 => ?_⟩;clear q7
    have z2 := b2.size
    have A2 := A1.later b2
    have B2 := B1.later b2
    refine vcallP (want_none rfl) (ex_call rfl (by simp only [List.map_toArray, List.map_cons, List.map_nil, (q8.e (j := 28) rfl), (q8.e (j := 30) rfl), evc] <;> rfl) rfl) (one20 (hd ((A.map lf).take (lft n))) (hd ((A.map lf).drop (lft n))) (hd ((B.map lf).take (lft n))) (hd ((B.map lf).drop (lft n))) w2) rfl q8.z (by decide) ?_
    rintro e w3 ⟨rfl, b3⟩
    refine ⟨_, rfl, q8.k fun _ q9 => ?_⟩;clear q8
    have z3 := b3.size
    have A3 := A2.later b3
    have B3 := B2.later b3
    have d3 : Below w.heap.size w w3 := (b1.trans (b2.mono (by omega))).trans (b3.mono (by omega))
    rw [decide_eq_true HND.out] at q9
    clear A1 B1 A2 B2
    refine wpList_nil ?_
    by_cases hpq : (hd ((A.map lf).take (lft n))).v = (hd ((B.map lf).take (lft n))).v ∧ (hd ((A.map lf).drop (lft n))).v = (hd ((B.map lf).drop (lft n))).v
    · rw [decide_eq_true hpq.1, decide_eq_true hpq.2] at q9
      have t1 : hd ((A.map lf).take (lft n)) = hd ((B.map lf).take (lft n)) := Hs.ext20 hpq.1
      have t2 : hd ((A.map lf).drop (lft n)) = hd ((B.map lf).drop (lft n)) := Hs.ext20 hpq.2
      rw [← List.map_take, ← List.map_take] at t1
      rw [← List.map_drop, ← List.map_drop] at t2
      have T1 := hide t1
      have T2 := hide t2
      clear t1 t2 hpq HND
      go_upto_region 5 with fail
      refine wp_cond_false (q9.e (j := 31) rfl) ?_
      go_upto_region 5 with fail
      refine wp_region_lit ?_
      refine q9.t (.slice (some ⟨qa, oa, none⟩) n c) (ex_move rfl (q9.e (j := 0) rfl)) fun _ q10 => ?_;clear q9
      refine q10.t (.int .i64 ((n : Nat) : Int)) (ex_lenG rfl rfl Try.underlying22 (q10.e (j := 32) rfl)) fun _ q11 => ?_;clear q10
      refine vcallP (want_none rfl) (ex_call rfl (by simp only [List.map_toArray, List.map_cons, List.map_nil, (q11.e (j := 33) rfl), evc] <;> rfl) rfl) (split20 n (by omega) hn2 w3) rfl q11.z (by decide) ?_
      rintro e w9 ⟨rfl, hw9⟩
      refine ⟨_, rfl, q11.k fun _ q12 => ?_⟩;clear q11
      have hw9 := hw9.symm
      subst hw9
      refine q12.t (.int .i64 ((lft n : Nat) : Int)) (ex_assign rfl (q12.e (j := 34) rfl)) fun _ q13 => ?_;clear q12
      refine wpList_nil ?_
      go_upto_region 6 with fail
      refine vq_start (C := fun v => Below w3.heap.size w3 v) (by kernel_rfl) (by kernel_rfl) ((Below.refl _ _).drew) ?_
      refine q13.q (.slice (some ⟨qa, oa, none⟩) n c) (fun v hv => ex_move rfl (q13.e (j := 0) rfl)) fun _ q14 => ?_;clear q13
      refine q14.q (.int .i64 ((lft n : Nat) : Int)) (fun v hv => ex_move rfl (q14.e (j := 5) rfl)) fun _ q15 => ?_;clear q14
      refine q15.q (.slice (some ⟨qa, oa, none⟩) (lft n) c) (fun v hv => ex_sl19 rfl (q15.e (j := 35) rfl) rfl (congrArg some (q15.e (j := 36) rfl)) rfl (slToE20 qa oa n c (lft n) (by omega) capA _)) fun _ q16 => ?_;clear q15
      refine q16.q (.slice (some ⟨qb, ob, none⟩) n c2) (fun v hv => ex_move rfl (q16.e (j := 1) rfl)) fun _ q17 => ?_;clear q16
      refine q17.q (.int .i64 ((lft n : Nat) : Int)) (fun v hv => ex_move rfl (q17.e (j := 5) rfl)) fun _ q18 => ?_;clear q17
      refine q18.q (.slice (some ⟨qb, ob, none⟩) (lft n) c2) (fun v hv => ex_sl19 rfl (q18.e (j := 38) rfl) rfl (congrArg some (q18.e (j := 39) rfl)) rfl (slToE20 qb ob n c2 (lft n) (by omega) capB _)) fun _ q19 => ?_;clear q18
      refine vq_call18 (true) (.bool (!decide (A.take (lft n) = B.take (lft n)))) (want_none rfl) (fun hc v hv => ex_call rfl (by simp only [List.map_toArray, List.map_cons, List.map_nil, (q19.e (j := 37) rfl), (q19.e (j := 40) rfl), evc] <;> rfl) rfl) (fun hc v hv => bel18 hv (unlike20 _ _ _ _ _ _ _ v ((A3.later hv).take (lft n) (by omega)) ((B3.later hv).take (lft n) (by omega)) (by omega)) hv.size) rfl q19.z (by decide) (q19.k fun _ q20 => ?_);clear q19
      refine vq_nil (fun r1 hr1 => ?_)
      have d4 : Below w.heap.size w r1 := d3.trans (hr1.mono d3.size)
      have A4 := A3.later hr1
      have B4 := B3.later hr1
      by_cases ht : A.take (lft n) = B.take (lft n)
      · rw [decide_eq_true ht] at q20
        have hdr : ¬ A.drop (lft n) = B.drop (lft n) := fun e => hne (by rw [← List.take_append_drop (lft n) A, ← List.take_append_drop (lft n) B, ht, e])
        have HD := hide hdr
        clear hdr ht
        go_upto_region 8 with fail
        refine wp_cond_false (q20.e (j := 41) rfl) ?_
        go_upto_region 8 with fail
        refine vq_start (C := fun v => Below r1.heap.size r1 v) (by kernel_rfl) (by kernel_rfl) ((Below.refl _ _).drew) ?_
        refine q20.q (.slice (some ⟨qa, oa, none⟩) n c) (fun v hv => ex_move rfl (q20.e (j := 0) rfl)) fun _ q21 => ?_;clear q20
        refine q21.q (.int .i64 ((lft n : Nat) : Int)) (fun v hv => ex_move rfl (q21.e (j := 5) rfl)) fun _ q22 => ?_;clear q21
        refine q22.q (.slice (some (if c = lft n then ⟨qa, oa, none⟩ else ⟨qa, oa + (lft n) * 5, none⟩)) (n - lft n) (c - lft n)) (fun v hv => ex_sl19 rfl (q22.e (j := 49) rfl) (congrArg some (q22.e (j := 50) rfl)) rfl rfl (slFromE20 qa oa n c (lft n) (by omega) capA _)) fun _ q23 => ?_;clear q22
        refine q23.q (.slice (some ⟨qb, ob, none⟩) n c2) (fun v hv => ex_move rfl (q23.e (j := 1) rfl)) fun _ q24 => ?_;clear q23
        refine q24.q (.int .i64 ((lft n : Nat) : Int)) (fun v hv => ex_move rfl (q24.e (j := 5) rfl)) fun _ q25 => ?_;clear q24
        refine q25.q (.slice (some (if c2 = lft n then ⟨qb, ob, none⟩ else ⟨qb, ob + (lft n) * 5, none⟩)) (n - lft n) (c2 - lft n)) (fun v hv => ex_sl19 rfl (q25.e (j := 52) rfl) (congrArg some (q25.e (j := 53) rfl)) rfl rfl (slFromE20 qb ob n c2 (lft n) (by omega) capB _)) fun _ q26 => ?_;clear q25
        refine vq_call18 (true) (.bool true) (want_none rfl) (fun hc v hv => ex_call rfl (by simp only [List.map_toArray, List.map_cons, List.map_nil, (q26.e (j := 51) rfl), (q26.e (j := 54) rfl), evc] <;> rfl) rfl) (fun hc v hv => bel18 hv (ih _ _ _ _ _ _ _ v ((A4.later hv).from20 (lft n) (by omega)) ((B4.later hv).from20 (lft n) (by omega)) (by omega) (by omega) (by omega) T2.out HD.out (fun x hx => hvA x (List.mem_of_mem_drop hx)) (fun x hx => hvB x (List.mem_of_mem_drop hx))) hv.size) rfl q26.z (by decide) (q26.k fun _ q27 => ?_);clear q26
        refine q27.q (.bool true) (fun v hv => ex_assign rfl (q27.e (j := 55) rfl)) fun _ q28 => ?_;clear q27
        refine vq_nil (fun r2 hr2 => ?_)
        go_wp2
        refine bodyPost_ret (results_tmp rfl _ _ _) rfl ?_
        rw [getD_of (q28.a 4 rfl)]
        exact ⟨rfl, d4.trans (hr2.mono d4.size)⟩
      · rw [decide_eq_false ht] at q20
        have HD := hide ht
        clear ht
        go_upto_region 7 with fail
        refine wp_cond_true (q20.e (j := 41) rfl) ?_
        go_upto_region 7 with fail
        refine vq_start (C := fun v => Below r1.heap.size r1 v) (by kernel_rfl) (by kernel_rfl) ((Below.refl _ _).drew) ?_
        refine q20.q (.slice (some ⟨qa, oa, none⟩) n c) (fun v hv => ex_move rfl (q20.e (j := 0) rfl)) fun _ q21 => ?_;clear q20
        refine q21.q (.int .i64 ((lft n : Nat) : Int)) (fun v hv => ex_move rfl (q21.e (j := 5) rfl)) fun _ q22 => ?_;clear q21
        refine q22.q (.slice (some ⟨qa, oa, none⟩) (lft n) c) (fun v hv => ex_sl19 rfl (q22.e (j := 42) rfl) rfl (congrArg some (q22.e (j := 43) rfl)) rfl (slToE20 qa oa n c (lft n) (by omega) capA _)) fun _ q23 => ?_;clear q22
        refine q23.q (.slice (some ⟨qb, ob, none⟩) n c2) (fun v hv => ex_move rfl (q23.e (j := 1) rfl)) fun _ q24 => ?_;clear q23
        refine q24.q (.int .i64 ((lft n : Nat) : Int)) (fun v hv => ex_move rfl (q24.e (j := 5) rfl)) fun _ q25 => ?_;clear q24
        refine q25.q (.slice (some ⟨qb, ob, none⟩) (lft n) c2) (fun v hv => ex_sl19 rfl (q25.e (j := 45) rfl) rfl (congrArg some (q25.e (j := 46) rfl)) rfl (slToE20 qb ob n c2 (lft n) (by omega) capB _)) fun _ q26 => ?_;clear q25
        refine vq_call18 (true) (.bool true) (want_none rfl) (fun hc v hv => ex_call rfl (by simp only [List.map_toArray, List.map_cons, List.map_nil, (q26.e (j := 44) rfl), (q26.e (j := 47) rfl), evc] <;> rfl) rfl) (fun hc v hv => bel18 hv (ih _ _ _ _ _ _ _ v ((A4.later hv).take (lft n) (by omega)) ((B4.later hv).take (lft n) (by omega)) (by omega) (by omega) (by omega) T1.out HD.out (fun x hx => hvA x (List.mem_of_mem_take hx)) (fun x hx => hvB x (List.mem_of_mem_take hx))) hv.size) rfl q26.z (by decide) (q26.k fun _ q27 => ?_);clear q26
        refine q27.q (.bool true) (fun v hv => ex_assign rfl (q27.e (j := 48) rfl)) fun _ q28 => ?_;clear q27
        refine vq_nil (fun r2 hr2 => ?_)
        go_wp2
        refine bodyPost_ret (results_tmp rfl _ _ _) rfl ?_
        rw [getD_of (q28.a 4 rfl)]
        exact ⟨rfl, d4.trans (hr2.mono d4.size)⟩
    · have hbb : (!(decide ((hd ((A.map lf).take (lft n))).v = (hd ((B.map lf).take (lft n))).v) && decide ((hd ((A.map lf).drop (lft n))).v = (hd ((B.map lf).drop (lft n))).v)) && true) = true := by by_cases e1 : (hd ((A.map lf).take (lft n))).v = (hd ((B.map lf).take (lft n))).v <;> by_cases e2 : (hd ((A.map lf).drop (lft n))).v = (hd ((B.map lf).drop (lft n))).v <;> simp [e1, e2] <;> exact hpq ⟨e1, e2⟩
      rw [hbb] at q9
      clear hbb hpq
      go_upto_region 4 with fail
      refine wp_cond_true (q9.e (j := 31) rfl) ?_
      go_upto_region 4 with fail
      refine wp_region_lit ?_
      refine q9.t (.bool true) (ex_assign rfl rfl) fun _ q10 => ?_;clear q9
      refine wpList_nil ?_
      go_wp2
      refine bodyPost_ret (results_tmp rfl _ _ _) rfl ?_
      rw [getD_of (q10.a 4 rfl)]
      exact ⟨rfl, d3⟩
theorem clash20 (A B : List En) (a : Option Addr) (n c : Nat) (a2 : Option Addr) (c2 : Nat) (w : World) (hA : SlY yE w a n c A) (hB : SlY yE w a2 n c2 B) (hn0 : 1 ≤ n) (hn2 : n ≤ 1000000) (hhd : hd (A.map lf) = hd (B.map lf)) (hne : ¬ A = B) (hvA : ∀ x ∈ A, x.o.v.size ≤ 140737488350000) (hvB : ∀ x ∈ B, x.o.v.size ≤ 140737488350000) :
    Calls Try.prog 36 #[.slice a n c, .slice a2 n c2] w fun e w' => e = .returned (.bool true) ∧ Below w.heap.size w w' := by
  have H : ∀ m, ∀ (A B : List En) (a : Option Addr) (n c : Nat) (a2 : Option Addr) (c2 : Nat) (w : World), SlY yE w a n c A → SlY yE w a2 n c2 B → n < m → 1 ≤ n → n ≤ 1000000 → hd (A.map lf) = hd (B.map lf) → ¬ A = B → (∀ x ∈ A, x.o.v.size ≤ 140737488350000) → (∀ x ∈ B, x.o.v.size ≤ 140737488350000) → Calls Try.prog 36 #[.slice a n c, .slice a2 n c2] w fun e w' => e = .returned (.bool true) ∧ Below w.heap.size w w' := by
    intro m
    induction m with
    | zero => intro A B a n c a2 c2 w _ _ h; omega
    | succ m ih => exact fun A B a n c a2 c2 w hA hB hm h1 h2 hh hne v1 v2 => clash_step m ih A B a n c a2 c2 w hA hB (by omega) h1 h2 hh hne v1 v2
  exact H (n + 1) A B a n c a2 c2 w hA hB (by omega) hn0 hn2 hhd hne hvA hvB

end Go.Proofs.Ytomiifnhcojilaa
