import Derived.Laws.StructEq
import Derived.Test.YteeofcoehffegaaDoorRows
import Derived.MakeChecks
import Derived.Stop.LaidErr
import Derived.Lib.LaidTab
import Derived.ChangeOld
import Derived.ProofKit
import Derived.OpenShut
import Derived.JoinedCond
import Derived.Handed
import Derived.LaidLaws
import Derived.Below
import Derived.ArgAppend
import Derived.Laws.OwnMore
import Derived.Test.YteeofcoehffegaaDoorK6
set_option maxRecDepth 100000
set_option linter.unusedVariables false
set_option linter.unusedSimpArgs false
namespace Go.Proofs.YteeofcoehffegaaDoor
open Go.RowKit Go.Maps
open Classical
theorem len2 {α : Type} : ∀ l : List α, l.length = 2 → ∃ a b, l = [a, b]
  | [], h => by cases h
  | [a], h => by simp at h
  | [a, b], _ => ⟨a, b, rfl⟩
  | a :: b :: c :: r, h => by simp at h
theorem eqHd {h k : List Int} (hl : h.length = 32) (kl : k.length = 32) (d : Nat) (w : World) : (Op.equalIn (d + 2) 38 (.agg (h.map bV).toArray) (.agg (k.map bV).toArray)).run Tryd.prog w = .ok (decide (h = k)) w := by
  have hi0 := i1b
  rw [Option.map_eq_some_iff] at hi0
  obtain ⟨i, hi, _⟩ := hi0
  have hc : Tryd.prog.cellsOf 5 = 1 := by kernel_rfl
  have := run_equalIn_array (P := Tryd.prog) w (d + 1) (h.map bV).toArray (k.map bV).toArray Tryd.underlying38 hi
  rw [hc, items_b hl kl d w _ (fun i hi => List.mem_range.1 hi), all_eq hl kl] at this
  exact this
theorem part0 (a b : Hs) (w : World) : (part 38 (pcs a b).toArray 0).run Tryd.prog w = .ok a.val w := by
  have e1 : (isAgg 38).run Tryd.prog w = .ok true w := by kernel_rfl
  have e2 : (sizeOf 38).run Tryd.prog w = .ok 32 w := by kernel_rfl
  have e4 : List.take 32 (pcs a b) = a.cs := by rw [pcs, List.take_left' a.len]
  unfold part
  rw [Sem.run_bind, e1, Result.andThen_ok]
  simp [e2, e4]
  first | done | rfl
theorem part32 (a b : Hs) (w : World) : (part 38 (pcs a b).toArray 32).run Tryd.prog w = .ok b.val w := by
  have e1 : (isAgg 38).run Tryd.prog w = .ok true w := by kernel_rfl
  have e2 : (sizeOf 38).run Tryd.prog w = .ok 32 w := by kernel_rfl
  have e4 : List.take 32 (List.drop 32 (pcs a b)) = b.cs := by rw [pcs, List.drop_left' a.len, List.take_of_length_le (by rw [b.len]; omega)]
  unfold part
  rw [Sem.run_bind, e1, Result.andThen_ok]
  simp [e2, e4]
  first | done | rfl
theorem eqP (a b c d : Hs) (w : World) : (Op.equal 77 (pval a b) (pval c d)).run Tryd.prog w = .ok (decide (a.v = c.v) && decide (b.v = d.v)) w := by
  have hu : Tryd.prog.underlying 77 = some (.struct (Tryd.prog.fieldsOf 77)) := by kernel_rfl
  have hp : Tryd.prog.stoodInHeld 77 = false := by kernel_rfl
  have h := run_equalIn_struct (P := Tryd.prog) w 9999 77 (pcs a b).toArray (pcs c d).toArray hu hp
  have hf : (Tryd.prog.fieldsOf 77).toList.map (fun f => (f.type, f.offset, decide (f.name ≠ "_"))) = [(38, 0, true), (38, 32, true)] := by kernel_rfl
  generalize (Tryd.prog.fieldsOf 77).toList = fs at h hf
  obtain ⟨f, g, rfl⟩ := len2 _ (show fs.length = 2 by have := congrArg List.length hf; rw [List.length_map] at this; exact this)
  simp only [List.map_cons, List.map_nil, List.cons.injEq, Prod.mk.injEq, decide_eq_true_eq, and_true] at hf
  obtain ⟨⟨f1, f2, f3⟩, g1, g2, g3⟩ := hf
  refine h.trans ?_
  have q1 : (Op.equalIn 9999 38 a.val c.val).run Tryd.prog w = .ok (decide (a.v = c.v)) w := eqHd a.p c.p 9997 w
  have q2 : (Op.equalIn 9999 38 b.val d.val).run Tryd.prog w = .ok (decide (b.v = d.v)) w := eqHd b.p d.p 9997 w
  rw [Op.eqFields, if_pos f3, f1, f2, Sem.run_bind, part0, Result.andThen_ok, Sem.run_bind, part0, Result.andThen_ok, Sem.run_bind, q1, Result.andThen_ok]
  by_cases e1 : a.v = c.v
  · rw [decide_eq_true e1, if_neg (by simp), Op.eqFields, if_pos g3, g1, g2, Sem.run_bind, part32, Result.andThen_ok, Sem.run_bind, part32, Result.andThen_ok, Sem.run_bind, q2, Result.andThen_ok]
    by_cases e2 : b.v = d.v
    · rw [decide_eq_true e2, if_neg (by simp)]; rfl
    · rw [decide_eq_false e2, if_pos (by simp)]; rfl
  · rw [decide_eq_false e1, if_pos (by simp)]; rfl
theorem gdP (x y : Operand) (A B : Array Value) (w : World) : (eqGuard .neq 77 x y (.agg A) (.agg B)).run Tryd.prog w = .ok () w := by
  have e : (Tryd.prog.eqGuardType Tryd.prog.depth 77) = false := by kernel_rfl
  unfold eqGuard
  simp [e]
theorem neP (x y : Operand) (a b c d : Hs) (w : World) : (do eqGuard .neq 77 x y (pval a b) (pval c d); binOp .neq 77 (pval a b) (pval c d) : Sem Value).run Tryd.prog w = .ok (.bool (!(decide (a.v = c.v) && decide (b.v = d.v)))) w := by
  rw [Sem.run_bind, show (eqGuard .neq 77 x y (pval a b) (pval c d)).run Tryd.prog w = .ok () w from gdP x y _ _ w, Result.andThen_ok]
  show (do pure (.bool (!(← Op.equal 77 (pval a b) (pval c d)))) : Sem Value).run Tryd.prog w = _
  rw [Sem.run_bind, eqP]
  rfl
theorem slFromE20 (q o n c k : Nat) (h1 : k ≤ n) (h2 : n ≤ c) (w : World) : (Instr.sliceAt 25 (.slice (some ⟨q, o, none⟩) n c) (some (.int .i64 (k : Int))) none none).run Tryd.prog w = .ok (.slice (some (if c = k then ⟨q, o, none⟩ else ⟨q, o + k * 5, none⟩)) (n - k) (c - k)) w := by
  have e1 : (0 : Int) ≤ (k : Int) := by omega
  have e2 : (k : Int) ≤ (n : Int) := by omega
  have e3 : (n : Int) ≤ (c : Int) := by omega
  by_cases h : c = k
  · subst h
    rw [if_pos rfl]
    go_simp
    first | done | simp
  · rw [if_neg h]
    go_simp
    first | done | simp [h]
theorem ex_bdP {o : Oper} {ρ : Operand → Value} {s : TypeId} {a b : Operand} {A B V : Value} {w : World} (ho : o.op = .build s #[(0, a), (1, b)]) (ha : ρ a = A) (hb : ρ b = B) (hr : (Instr.build s #[(0, A), (1, B)]).run Tryd.prog w = .ok V w) : (execOp ρ o).run Tryd.prog w = .ok (.value V) w := ex_buildP18 ho (by simp only [List.map_toArray, List.map_cons, List.map_nil, ha, hb]) hr
set_option maxHeartbeats 2000000 in
theorem one20 (a b c d : Hs) (w : World) :
    Calls Tryd.prog 42 #[pval a b, pval c d] w fun e w' => e = .returned (.bool ((!(decide (a.v = c.v) && decide (b.v = d.v))) && decide ((nd a b).v = (nd c d).v))) ∧ Below w.heap.size w w' := by
  go_enter Tryd.func42, Tryd.ntmps42
  go_upto_region 0 with fail
  refine wp_region_lit ?_
  refine vl_gen (fun T => Rp T 21 [(1, gw true (pval c d)), (0, gw true (pval a b))]) (((Rp.nil rfl).cons rfl).cons rfl) (fun Z0 q0 => ?_)
  obtain ⟨w1, hw1⟩ : ∃ y, y = w.alloc (.cells (pcs a b).toArray 77) := ⟨_, rfl⟩
  refine vw (.pointer (some ⟨w.heap.size, 0, none⟩)) w1 (want_none rfl) (ex_box18 rfl (q0.e (j := 0) rfl) (by rw [hw1]; exact bxP _ _ _)) rfl q0.z (by decide) (q0.k fun _ q1 => ?_);clear q0
  have Bw1 : BB w1 w.heap.size 77 (pcs a b) := by rw [hw1]; exact BB.new _ _ _
  have bw1 : Below w.heap.size w w1 := by rw [hw1]; exact (Below.refl _ _).alloc (Nat.le_refl _) _
  have zw1 : w1.heap.size = w.heap.size + 1 := by rw [hw1]; exact World.size_alloc _ _
  clear hw1
  obtain ⟨w2, hw2⟩ : ∃ y, y = w1.alloc (.cells (pcs c d).toArray 77) := ⟨_, rfl⟩
  refine vw (.pointer (some ⟨w1.heap.size, 0, none⟩)) w2 (want_none rfl) (ex_box18 rfl (q1.e (j := 1) rfl) (by rw [hw2]; exact bxP _ _ _)) rfl q1.z (by decide) (q1.k fun _ q2 => ?_);clear q1
  have Bw2 : BB w2 w1.heap.size 77 (pcs c d) := by rw [hw2]; exact BB.new _ _ _
  have bw2 : Below w1.heap.size w1 w2 := by rw [hw2]; exact (Below.refl _ _).alloc (Nat.le_refl _) _
  have zw2 : w2.heap.size = w1.heap.size + 1 := by rw [hw2]; exact World.size_alloc _ _
  clear hw2
  refine q2.t (.bool false) (ex_assign rfl rfl) fun _ q3 => ?_;clear q2
  refine wpList_nil ?_
  go_upto_region 1 with fail
  have A2 := Bw1.later bw2
  have d2 : Below w.heap.size w w2 := bw1.trans (bw2.mono (by omega))
  refine vq_start (C := fun v => Below w2.heap.size w2 v) (by kernel_rfl) (by kernel_rfl) ((Below.refl _ _).drew) ?_
  refine q3.q (pval a b) (fun v hv => ex_ld rfl (q3.e (j := 2) rfl) (A2.later hv).ldP) fun _ q4 => ?_;clear q3
  refine q4.q (pval c d) (fun v hv => ex_ld rfl (q4.e (j := 3) rfl) (Bw2.later hv).ldP) fun _ q5 => ?_;clear q4
  refine q5.q (.bool (!(decide (a.v = c.v) && decide (b.v = d.v)))) (fun v hv => ex_bin rfl (q5.e (j := 5) rfl) (q5.e (j := 6) rfl) (neP _ _ _ _ _ _ _)) fun _ q6 => ?_;clear q5
  refine q6.q (.bool (!(decide (a.v = c.v) && decide (b.v = d.v)))) (fun v hv => ex_move rfl (q6.e (j := 7) rfl)) fun _ q7 => ?_;clear q6
  refine vq ((true && ((!(decide (a.v = c.v) && decide (b.v = d.v))) == true))) (.pointer (some ⟨w.heap.size, 0, none⟩)) (want_g rfl rfl (q7.a 8 rfl)) (fun hc v hv => ex_fa rfl (q7.e (j := 2) rfl) (faP _ 0 0 (by simp) _)) rfl q7.z (by decide) (q7.k fun _ q8 => ?_);clear q7
  refine vq ((true && ((!(decide (a.v = c.v) && decide (b.v = d.v))) == true))) (a.val) (want_g rfl rfl (q8.a 8 rfl)) (fun hc v hv => ex_ld rfl (ev (q8.a 9 rfl) hc) (A2.later hv).ldA) rfl q8.z (by decide) (q8.k fun _ q9 => ?_);clear q8
  refine vq ((true && ((!(decide (a.v = c.v) && decide (b.v = d.v))) == true))) (.pointer (some ⟨w.heap.size, 32, none⟩)) (want_g rfl rfl (q9.a 8 rfl)) (fun hc v hv => ex_fa rfl (q9.e (j := 2) rfl) (faP _ 1 32 (by simp) _)) rfl q9.z (by decide) (q9.k fun _ q10 => ?_);clear q9
  refine vq ((true && ((!(decide (a.v = c.v) && decide (b.v = d.v))) == true))) (b.val) (want_g rfl rfl (q10.a 8 rfl)) (fun hc v hv => ex_ld rfl (ev (q10.a 11 rfl) hc) (A2.later hv).ldB) rfl q10.z (by decide) (q10.k fun _ q11 => ?_);clear q10
  refine vq_call18 ((true && ((!(decide (a.v = c.v) && decide (b.v = d.v))) == true))) ((nd a b).val) (want_g rfl rfl (q11.a 8 rfl)) (fun hc v hv => ex_call rfl (by simp only [List.map_toArray, List.map_cons, List.map_nil, (ev (q11.a 10 rfl) hc), (ev (q11.a 12 rfl) hc), evc] <;> rfl) rfl) (fun hc v hv => bel18 hv (node20 a b v) hv.size) rfl q11.z (by decide) (q11.k fun _ q12 => ?_);clear q11
  refine vq ((true && ((!(decide (a.v = c.v) && decide (b.v = d.v))) == true))) (.pointer (some ⟨w1.heap.size, 0, none⟩)) (want_g rfl rfl (q12.a 8 rfl)) (fun hc v hv => ex_fa rfl (q12.e (j := 3) rfl) (faP _ 0 0 (by simp) _)) rfl q12.z (by decide) (q12.k fun _ q13 => ?_);clear q12
  refine vq ((true && ((!(decide (a.v = c.v) && decide (b.v = d.v))) == true))) (c.val) (want_g rfl rfl (q13.a 8 rfl)) (fun hc v hv => ex_ld rfl (ev (q13.a 14 rfl) hc) (Bw2.later hv).ldA) rfl q13.z (by decide) (q13.k fun _ q14 => ?_);clear q13
  refine vq ((true && ((!(decide (a.v = c.v) && decide (b.v = d.v))) == true))) (.pointer (some ⟨w1.heap.size, 32, none⟩)) (want_g rfl rfl (q14.a 8 rfl)) (fun hc v hv => ex_fa rfl (q14.e (j := 3) rfl) (faP _ 1 32 (by simp) _)) rfl q14.z (by decide) (q14.k fun _ q15 => ?_);clear q14
  refine vq ((true && ((!(decide (a.v = c.v) && decide (b.v = d.v))) == true))) (d.val) (want_g rfl rfl (q15.a 8 rfl)) (fun hc v hv => ex_ld rfl (ev (q15.a 16 rfl) hc) (Bw2.later hv).ldB) rfl q15.z (by decide) (q15.k fun _ q16 => ?_);clear q15
  refine vq_call18 ((true && ((!(decide (a.v = c.v) && decide (b.v = d.v))) == true))) ((nd c d).val) (want_g rfl rfl (q16.a 8 rfl)) (fun hc v hv => ex_call rfl (by simp only [List.map_toArray, List.map_cons, List.map_nil, (ev (q16.a 15 rfl) hc), (ev (q16.a 17 rfl) hc), evc] <;> rfl) rfl) (fun hc v hv => bel18 hv (node20 c d v) hv.size) rfl q16.z (by decide) (q16.k fun _ q17 => ?_);clear q16
  refine vq ((true && ((!(decide (a.v = c.v) && decide (b.v = d.v))) == true))) (.bool (decide ((nd a b).v = (nd c d).v))) (want_g rfl rfl (q17.a 8 rfl)) (fun hc v hv => ex_bin rfl (ev (q17.a 13 rfl) hc) (ev (q17.a 18 rfl) hc) (eqHZ _ _ _ _ _)) rfl q17.z (by decide) (q17.k fun _ q18 => ?_);clear q17
  refine q18.q (.bool ((!(decide (a.v = c.v) && decide (b.v = d.v))) && decide ((nd a b).v = (nd c d).v))) (fun v hv => ex_and rfl (q18.a 8 rfl) (q18.a 19 rfl) rfl) fun _ q19 => ?_;clear q18
  refine q19.q (.bool ((!(decide (a.v = c.v) && decide (b.v = d.v))) && decide ((nd a b).v = (nd c d).v))) (fun v hv => ex_assign rfl (q19.e (j := 20) rfl)) fun _ q20 => ?_;clear q19
  refine vq_nil (fun r1 hr1 => ?_)
  go_wp2
  refine bodyPost_ret (results_tmp rfl _ _ _) rfl ?_
  rw [getD_of (q20.a 4 rfl)]
  exact ⟨rfl, d2.trans (hr1.mono d2.size)⟩
set_option maxHeartbeats 2000000 in
theorem halves20 (l : List En) (a : Option Addr) (n c : Nat) (w : World) (h : SlY yE w a n c l) (h2 : 2 ≤ n) (hn : n ≤ 1000000) (hv : ∀ x ∈ l, x.o.v.size ≤ 140737488352232) :
    Calls Tryd.prog 41 #[.slice a n c] w fun e w' => e = .returned (pval (hd ((l.map lf).take (lft n))) (hd ((l.map lf).drop (lft n)))) ∧ Below w.heap.size w w' := by
  go_enter Tryd.func41, Tryd.ntmps41
  go_upto_region 0 with fail
  refine wp_region_lit ?_
  refine vl_gen (fun T => Rp T 16 [(0, gw true (.slice a n c))]) ((Rp.nil rfl).cons rfl) (fun Z0 q0 => ?_)
  have hln := h.len
  have hcap := h.cap
  obtain ⟨q, o, rfl, hq, hl⟩ := h.place (by rintro rfl; simp at hln; omega)
  obtain ⟨w1, hw1⟩ : ∃ y, y = w.alloc (.cells (pz).toArray 77) := ⟨_, rfl⟩
  refine vw (.pointer (some ⟨w.heap.size, 0, none⟩)) w1 (want_none rfl) (ex_al rfl (by rw [hw1]; exact alP _)) rfl q0.z (by decide) (q0.k fun _ q1 => ?_);clear q0
  have Bw1 : BB w1 w.heap.size 77 (pz) := by rw [hw1]; exact BB.new _ _ _
  have bw1 : Below w.heap.size w w1 := by rw [hw1]; exact (Below.refl _ _).alloc (Nat.le_refl _) _
  have zw1 : w1.heap.size = w.heap.size + 1 := by rw [hw1]; exact World.size_alloc _ _
  clear hw1
  refine wpList_nil ?_
  go_upto_region 1 with fail
  refine wp_region_lit ?_
  refine q1.t (.slice (some ⟨q, o, none⟩) n c) (ex_move rfl (q1.e (j := 0) rfl)) fun _ q2 => ?_;clear q1
  refine q2.t (.int .i64 ((n : Nat) : Int)) (ex_lenG rfl rfl Tryd.underlying25 (q2.e (j := 4) rfl)) fun _ q3 => ?_;clear q2
  refine vcallP (want_none rfl) (ex_call rfl (by simp only [List.map_toArray, List.map_cons, List.map_nil, (q3.e (j := 5) rfl), evc] <;> rfl) rfl) (split20 n h2 hn w1) rfl q3.z (by decide) ?_
  rintro e w9 ⟨rfl, hw9⟩
  refine ⟨_, rfl, q3.k fun _ q4 => ?_⟩;clear q3
  have hw9 := hw9.symm
  subst hw9
  refine q4.t (.int .i64 ((lft n : Nat) : Int)) (ex_assign rfl (q4.e (j := 6) rfl)) fun _ q5 => ?_;clear q4
  refine wpList_nil ?_
  go_upto_region 2 with fail
  have hb := lft_b (n := n) (by omega)
  refine vg_start (fun k => k == 9) (fun _ => True) (by kernel_rfl) ?_
  have hy0 : Below w1.heap.size w1 w1.drew := (Below.refl _ _).drew
  have hzy0 : w1.drew.heap.size = w1.heap.size := rfl
  generalize w1.drew = y0 at *
  have hS := (h.later bw1).later hy0
  have sT := hS.take (lft n) (by omega)
  have sF := hS.from20 (lft n) (by omega)
  refine vg_takeW 0 true (.slice (some ⟨q, o, none⟩) n c) rfl (by kernel_rfl) (by kernel_rfl) (by kernel_rfl) (by kernel_rfl) (want_none rfl) (fun hc v => ex_move rfl (q5.e (j := 0) rfl)) rfl q5.z (by decide) (fun _ => trivial) (q5.k fun _ q6 => ?_);clear q5
  refine vg_takeW 1 true (.int .i64 ((lft n : Nat) : Int)) rfl (by kernel_rfl) (by kernel_rfl) (by kernel_rfl) (by kernel_rfl) (want_none rfl) (fun hc v => ex_move rfl (q6.e (j := 3) rfl)) rfl q6.z (by decide) (fun _ => trivial) (q6.k fun _ q7 => ?_);clear q6
  refine vg_takeW 2 true (.slice (some ⟨q, o, none⟩) (lft n) c) rfl (by kernel_rfl) (by kernel_rfl) (by kernel_rfl) (by kernel_rfl) (want_none rfl) (fun hc v => ex_sl19 rfl (q7.e (j := 7) rfl) rfl (congrArg some (q7.e (j := 8) rfl)) rfl (slToE20 q o n c (lft n) (by omega) hcap _)) rfl q7.z (by decide) (fun _ => trivial) (q7.k fun _ q8 => ?_);clear q7
  refine vg_takeW 4 true (.slice (some ⟨q, o, none⟩) n c) rfl (by kernel_rfl) (by kernel_rfl) (by kernel_rfl) (by kernel_rfl) (want_none rfl) (fun hc v => ex_move rfl (q8.e (j := 0) rfl)) rfl q8.z (by decide) (fun _ => trivial) (q8.k fun _ q9 => ?_);clear q8
  refine vg_takeW 5 true (.int .i64 ((lft n : Nat) : Int)) rfl (by kernel_rfl) (by kernel_rfl) (by kernel_rfl) (by kernel_rfl) (want_none rfl) (fun hc v => ex_move rfl (q9.e (j := 3) rfl)) rfl q9.z (by decide) (fun _ => trivial) (q9.k fun _ q10 => ?_);clear q9
  refine vg_takeW 6 true (.slice (some (if c = lft n then ⟨q, o, none⟩ else ⟨q, o + (lft n) * 5, none⟩)) (n - lft n) (c - lft n)) rfl (by kernel_rfl) (by kernel_rfl) (by kernel_rfl) (by kernel_rfl) (want_none rfl) (fun hc v => ex_sl19 rfl (q10.e (j := 11) rfl) (congrArg some (q10.e (j := 12) rfl)) rfl rfl (slFromE20 q o n c (lft n) (by omega) hcap _)) rfl q10.z (by decide) (fun _ => trivial) (q10.k fun _ q11 => ?_);clear q10
  refine vg_call 3 rfl (by kernel_rfl) (want_none rfl) (ex_call rfl (by simp only [List.map_toArray, List.map_cons, List.map_nil, (q11.e (j := 9) rfl), evc] <;> rfl) rfl) (head20 _ _ _ _ y0 sT (by omega) (fun x hx => hv x (List.mem_of_mem_take hx))) rfl q11.z (by decide) ?_
  rintro e d1 ⟨rfl, b1⟩
  have z1 := b1.size
  have sF1 := sF.later b1
  have Bh1 := (Bw1.later hy0).later b1
  refine ⟨_, rfl, trivial, q11.k fun _ q12 => ?_⟩;clear q11
  refine vg_call 7 rfl (by kernel_rfl) (want_none rfl) (ex_call rfl (by simp only [List.map_toArray, List.map_cons, List.map_nil, (q12.e (j := 13) rfl), evc] <;> rfl) rfl) (head20 _ _ _ _ d1 sF1 (by omega) (fun x hx => hv x (List.mem_of_mem_drop hx))) rfl q12.z (by decide) ?_
  rintro e d2 ⟨rfl, b2⟩
  have z2 := b2.size
  have Bh2 := Bh1.later b2
  have d6 : Below w.heap.size w d2 := ((bw1.trans (hy0.mono (by omega))).trans (b1.mono (by omega))).trans (b2.mono (by omega))
  refine ⟨_, rfl, trivial, q12.k fun _ q13 => ?_⟩;clear q12
  refine vg_takeW 8 true (pval (hd ((l.take (lft n)).map lf)) (hd ((l.drop (lft n)).map lf))) rfl (by kernel_rfl) (by kernel_rfl) (by kernel_rfl) (by kernel_rfl) (want_none rfl) (fun hc v => ex_bdP rfl (q13.e (j := 10) rfl) (q13.e (j := 14) rfl) (bdP _ _ _)) rfl q13.z (by decide) (fun _ => trivial) (q13.k fun _ q14 => ?_);clear q13
  obtain ⟨d7, hd7⟩ : ∃ y, y = d2.setCells w.heap.size 0 (pcs (hd ((l.take (lft n)).map lf)) (hd ((l.drop (lft n)).map lf))) := ⟨_, rfl⟩
  refine vg_store 9 d7 rfl (by kernel_rfl) (by kernel_rfl) (want_none rfl) (ex_st rfl (q14.e (j := 2) rfl) (q14.e (j := 15) rfl) (by rw [hd7]; exact Bh2.stP rfl _ _)) rfl ?_
  have Bd7 : BB d7 w.heap.size 77 (pcs (hd ((l.take (lft n)).map lf)) (hd ((l.drop (lft n)).map lf))) := by rw [hd7]; exact Bh2.whole _ (by rw [pcs_len]; rfl)
  have ud7 : Upd (fun k => k = w.heap.size) d2 d7 := by rw [hd7]; exact upd18 _ _ _ _
  clear hd7
  refine vg_done (by kernel_rfl) ?_
  go_wp2
  exact Bd7.res rfl (q14.a 2 rfl) Tryd.underlying77 rfl (by rw [pcs_len]; exact i64p) ⟨by rw [List.map_take, List.map_drop]; rfl, d6.trans (bel_ge ud7 d6.size (Nat.le_refl _))⟩
end Go.Proofs.YteeofcoehffegaaDoor
namespace Go.Proofs.YteeofcoehffegaaDoor
open Go.RowKit Go.Maps
open Classical
theorem neEnT (a b : Operand) {x y : En} (h : ¬ x = y) (w : World) : (do eqGuard .neq 29 a b x.val20 y.val20; binOp .neq 29 x.val20 y.val20 : Sem Value).run Tryd.prog w = .ok (.bool true) w := by
  have := neEn20 a b x y w
  rw [decide_eq_false h] at this
  exact this
theorem eqHt (x y : Operand) {h k : Hs} (e : h.v = k.v) (w : World) : (do eqGuard .eql 38 x y h.val k.val; binOp .eql 38 h.val k.val : Sem Value).run Tryd.prog w = .ok (.bool true) w := by
  have := eqHZ x y h k w
  rw [decide_eq_true e] at this
  exact this
set_option maxHeartbeats 2000000 in
theorem clash_step (m : Nat) (ih : ∀ (A B : List En) (a : Option Addr) (n c : Nat) (a2 : Option Addr) (c2 : Nat) (w : World), SlY yE w a n c A → SlY yE w a2 n c2 B → n < m → 1 ≤ n → n ≤ 1000000 → hd (A.map lf) = hd (B.map lf) → ¬ A = B → (∀ x ∈ A, x.o.v.size ≤ 140737488352232) → (∀ x ∈ B, x.o.v.size ≤ 140737488352232) → Calls Tryd.prog 22 #[.slice a n c, .slice a2 n c2] w fun e w' => e = .returned (.bool true) ∧ Below w.heap.size w w') (A B : List En) (a : Option Addr) (n c : Nat) (a2 : Option Addr) (c2 : Nat) (w : World) (hA : SlY yE w a n c A) (hB : SlY yE w a2 n c2 B) (hm : n ≤ m) (hn0 : 1 ≤ n) (hn2 : n ≤ 1000000) (hhd : hd (A.map lf) = hd (B.map lf)) (hne : ¬ A = B) (hvA : ∀ x ∈ A, x.o.v.size ≤ 140737488352232) (hvB : ∀ x ∈ B, x.o.v.size ≤ 140737488352232) :
    Calls Tryd.prog 22 #[.slice a n c, .slice a2 n c2] w fun e w' => e = .returned (.bool true) ∧ Below w.heap.size w w' := by
  go_enter Tryd.func22, Tryd.ntmps22
  go_upto_region 0 with fail
  refine wp_region_lit ?_
  refine vl_gen (fun T => Rp T 56 [(1, gw true (.slice a2 n c2)), (0, gw true (.slice a n c))]) (((Rp.nil rfl).cons rfl).cons rfl) (fun Z0 q0 => ?_)
  have lA := hA.len
  have lB := hB.len
  have capA := hA.cap
  have capB := hB.cap
  obtain ⟨qa, oa, rfl, hqla, hla⟩ := hA.place (by rintro rfl; simp at lA; omega)
  obtain ⟨qb, ob, rfl, hqlb, hlb⟩ := hB.place (by rintro rfl; simp at lB; omega)
  refine q0.t (.bool false) (ex_assign rfl rfl) fun _ q1 => ?_;clear q0
  refine wpList_nil ?_
  go_upto_region 1 with fail
  refine wp_region_lit ?_
  refine q1.t (.slice (some ⟨qa, oa, none⟩) n c) (ex_move rfl (q1.e (j := 0) rfl)) fun _ q2 => ?_;clear q1
  refine q2.t (.int .i64 ((n : Nat) : Int)) (ex_lenG rfl rfl Tryd.underlying25 (q2.e (j := 6) rfl)) fun _ q3 => ?_;clear q2
  by_cases hn1 : n = 1
  · refine q3.t (.bool true) (ex_bin (Y := .int .i64 (1 : Int)) rfl (q3.e (j := 7) rfl) rfl (eqT20 _ _ (by omega) _)) fun _ q4 => ?_;clear q3
    refine wpList_nil ?_
    go_upto_region 2 with fail
    refine wp_cond_true (q4.e (j := 8) rfl) ?_
    go_upto_region 2 with fail
    obtain ⟨x, rfl⟩ : ∃ x, A = [x] := List.length_eq_one_iff.1 (by omega)
    obtain ⟨y, rfl⟩ : ∃ y, B = [y] := List.length_eq_one_iff.1 (by omega)
    have hxy : ¬ x = y := fun e => hne (by rw [e])
    have hlf : lf x = lf y := hhd
    have hlv : (lf x).v = (lf y).v := by rw [hlf]
    have HL := hide hlv
    clear hlf hlv hhd hne
    refine vq_start (C := fun v => Below w.heap.size w v) (by kernel_rfl) (by kernel_rfl) ((Below.refl _ _).drew) ?_
    refine q4.q (.slice (some ⟨qa, oa, none⟩) n c) (fun v hv => ex_move rfl (q4.e (j := 0) rfl)) fun _ q5 => ?_;clear q4
    refine q5.q (.pointer (some ⟨qa, oa + 0 * 5, none⟩)) (fun v hv => ex_ix (Y := .int .i64 ((0 : Nat) : Int)) rfl (q5.e (j := 9) rfl) rfl (ixE20 qa oa n c 0 (by omega) _)) fun _ q6 => ?_;clear q5
    refine q6.q (x.val20) (fun v hv => ex_ld rfl (q6.e (j := 10) rfl) (ldEl20 (hla.upd (S := fun _ => False) (Upd.of_below hv) hqla id) (j := 0) rfl)) fun _ q7 => ?_;clear q6
    refine q7.q (.slice (some ⟨qb, ob, none⟩) n c2) (fun v hv => ex_move rfl (q7.e (j := 1) rfl)) fun _ q8 => ?_;clear q7
    refine q8.q (.pointer (some ⟨qb, ob + 0 * 5, none⟩)) (fun v hv => ex_ix (Y := .int .i64 ((0 : Nat) : Int)) rfl (q8.e (j := 12) rfl) rfl (ixE20 qb ob n c2 0 (by omega) _)) fun _ q9 => ?_;clear q8
    refine q9.q (y.val20) (fun v hv => ex_ld rfl (q9.e (j := 13) rfl) (ldEl20 (hlb.upd (S := fun _ => False) (Upd.of_below hv) hqlb id) (j := 0) rfl)) fun _ q10 => ?_;clear q9
    refine q10.q (.bool true) (fun v hv => ex_bin rfl (q10.e (j := 11) rfl) (q10.e (j := 14) rfl) (neEnT _ _ hxy _)) fun _ q11 => ?_;clear q10
    refine q11.q (.bool true) (fun v hv => ex_move rfl (q11.e (j := 15) rfl)) fun _ q12 => ?_;clear q11
    refine vq ((true && (true == true))) (.slice (some ⟨qa, oa, none⟩) n c) (want_g rfl rfl (q12.a 16 rfl)) (fun hc v hv => ex_move rfl (q12.e (j := 0) rfl)) rfl q12.z (by decide) (q12.k fun _ q13 => ?_);clear q12
    refine vq ((true && (true == true))) (.pointer (some ⟨qa, oa + 0 * 5, none⟩)) (want_g rfl rfl (q13.a 16 rfl)) (fun hc v hv => ex_ix (Y := .int .i64 ((0 : Nat) : Int)) rfl (q13.e (j := 17) rfl) rfl (ixE20 qa oa n c 0 (by omega) _)) rfl q13.z (by decide) (q13.k fun _ q14 => ?_);clear q13
    refine vq ((true && (true == true))) (x.val20) (want_g rfl rfl (q14.a 16 rfl)) (fun hc v hv => ex_ld rfl (q14.e (j := 18) rfl) (ldEl20 (hla.upd (S := fun _ => False) (Upd.of_below hv) hqla id) (j := 0) rfl)) rfl q14.z (by decide) (q14.k fun _ q15 => ?_);clear q14
    refine vq_call18 ((true && (true == true))) ((lf x).val) (want_g rfl rfl (q15.a 16 rfl)) (fun hc v hv => ex_call rfl (by simp only [List.map_toArray, List.map_cons, List.map_nil, (q15.e (j := 19) rfl), evc] <;> rfl) rfl) (fun hc v hv => bel18 hv (leaf20 x v (hvA x (by simp))) hv.size) rfl q15.z (by decide) (q15.k fun _ q16 => ?_);clear q15
    refine vq ((true && (true == true))) (.slice (some ⟨qb, ob, none⟩) n c2) (want_g rfl rfl (q16.a 16 rfl)) (fun hc v hv => ex_move rfl (q16.e (j := 1) rfl)) rfl q16.z (by decide) (q16.k fun _ q17 => ?_);clear q16
    refine vq ((true && (true == true))) (.pointer (some ⟨qb, ob + 0 * 5, none⟩)) (want_g rfl rfl (q17.a 16 rfl)) (fun hc v hv => ex_ix (Y := .int .i64 ((0 : Nat) : Int)) rfl (q17.e (j := 21) rfl) rfl (ixE20 qb ob n c2 0 (by omega) _)) rfl q17.z (by decide) (q17.k fun _ q18 => ?_);clear q17
    refine vq ((true && (true == true))) (y.val20) (want_g rfl rfl (q18.a 16 rfl)) (fun hc v hv => ex_ld rfl (q18.e (j := 22) rfl) (ldEl20 (hlb.upd (S := fun _ => False) (Upd.of_below hv) hqlb id) (j := 0) rfl)) rfl q18.z (by decide) (q18.k fun _ q19 => ?_);clear q18
    refine vq_call18 ((true && (true == true))) ((lf y).val) (want_g rfl rfl (q19.a 16 rfl)) (fun hc v hv => ex_call rfl (by simp only [List.map_toArray, List.map_cons, List.map_nil, (q19.e (j := 23) rfl), evc] <;> rfl) rfl) (fun hc v hv => bel18 hv (leaf20 y v (hvB y (by simp))) hv.size) rfl q19.z (by decide) (q19.k fun _ q20 => ?_);clear q19
    refine vq ((true && (true == true))) (.bool true) (want_g rfl rfl (q20.a 16 rfl)) (fun hc v hv => ex_bin rfl (q20.e (j := 20) rfl) (q20.e (j := 24) rfl) (eqHt _ _ HL.out _)) rfl q20.z (by decide) (q20.k fun _ q21 => ?_);clear q20
    refine q21.q (.bool true) (fun v hv => ex_and (c := true) (b := true) (z := true) rfl (q21.a 16 rfl) (q21.a 25 rfl) rfl) fun _ q22 => ?_;clear q21
    refine q22.q (.bool true) (fun v hv => ex_assign rfl (q22.e (j := 26) rfl)) fun _ q23 => ?_;clear q22
    refine vq_nil (fun r1 hr1 => ?_)
    go_wp2
    refine bodyPost_ret (results_tmp rfl _ _ _) rfl ?_
    rw [getD_of (q23.a 4 rfl)]
    exact ⟨rfl, hr1⟩
  · refine q3.t (.bool false) (ex_bin (Y := .int .i64 (1 : Int)) rfl (q3.e (j := 7) rfl) rfl (eqF20 _ _ (by omega) _)) fun _ q4 => ?_;clear q3
    refine wpList_nil ?_
    go_upto_region 3 with fail
    refine wp_cond_false (q4.e (j := 8) rfl) ?_
    go_upto_region 3 with fail
    refine wp_region_lit ?_
    have hb := lft_b (n := n) (by omega)
    have eA := hd_2 (A.map lf) (by rw [List.length_map]; omega)
    have eB := hd_2 (B.map lf) (by rw [List.length_map]; omega)
    rw [List.length_map, lA] at eA
    rw [List.length_map, lB] at eB
    have hnd : (nd (hd ((A.map lf).take (lft n))) (hd ((A.map lf).drop (lft n)))).v = (nd (hd ((B.map lf).take (lft n))) (hd ((B.map lf).drop (lft n)))).v := by rw [← eA, ← eB, hhd]
    have HND := hide hnd
    clear hnd eA eB hhd
    refine q4.t (.slice (some ⟨qa, oa, none⟩) n c) (ex_move rfl (q4.e (j := 0) rfl)) fun _ q5 => ?_;clear q4
    refine vcallP (want_none rfl) (ex_call rfl (by simp only [List.map_toArray, List.map_cons, List.map_nil, (q5.e (j := 27) rfl), evc] <;> rfl) rfl) (halves20 A _ n c w hA (by omega) hn2 hvA) rfl q5.z (by decide) ?_
    rintro e w1 ⟨rfl, b1⟩
    refine ⟨_, rfl, q5.k fun _ q6 => ?_⟩;clear q5
    have z1 := b1.size
    have A1 := hA.later b1
    have B1 := hB.later b1
    refine q6.t (.slice (some ⟨qb, ob, none⟩) n c2) (ex_move rfl (q6.e (j := 1) rfl)) fun _ q7 => ?_;clear q6
    refine vcallP (want_none rfl) (ex_call rfl (by simp only [List.map_toArray, List.map_cons, List.map_nil, (q7.e (j := 29) rfl), evc] <;> rfl) rfl) (halves20 B _ n c2 w1 B1 (by omega) hn2 hvB) rfl q7.z (by decide) ?_
    rintro e w2 ⟨rfl, b2⟩
    refine ⟨_, rfl, q7.k fun _ q8 => ?_⟩;clear q7
    have z2 := b2.size
    have A2 := A1.later b2
    have B2 := B1.later b2
    refine vcallP (want_none rfl) (ex_call rfl (by simp only [List.map_toArray, List.map_cons, List.map_nil, (q8.e (j := 28) rfl), (q8.e (j := 30) rfl), evc] <;> rfl) rfl) (one20 (hd ((A.map lf).take (lft n))) (hd ((A.map lf).drop (lft n))) (hd ((B.map lf).take (lft n))) (hd ((B.map lf).drop (lft n))) w2) rfl q8.z (by decide) ?_
    rintro e w3 ⟨rfl, b3⟩
    refine ⟨_, rfl, q8.k fun _ q9 => ?_⟩;clear q8
    have z3 := b3.size
    have A3 := A2.later b3
    have B3 := B2.later b3
    have d3 : Below w.heap.size w w3 := (b1.trans (b2.mono (by omega))).trans (b3.mono (by omega))
    rw [decide_eq_true HND.out] at q9
    clear A1 B1 A2 B2
    refine wpList_nil ?_
    by_cases hpq : (hd ((A.map lf).take (lft n))).v = (hd ((B.map lf).take (lft n))).v ∧ (hd ((A.map lf).drop (lft n))).v = (hd ((B.map lf).drop (lft n))).v
    · rw [decide_eq_true hpq.1, decide_eq_true hpq.2] at q9
      have t1 : hd ((A.map lf).take (lft n)) = hd ((B.map lf).take (lft n)) := Hs.ext20 hpq.1
      have t2 : hd ((A.map lf).drop (lft n)) = hd ((B.map lf).drop (lft n)) := Hs.ext20 hpq.2
      rw [← List.map_take, ← List.map_take] at t1
      rw [← List.map_drop, ← List.map_drop] at t2
      have T1 := hide t1
      have T2 := hide t2
      clear t1 t2 hpq HND
      go_upto_region 5 with fail
      refine wp_cond_false (q9.e (j := 31) rfl) ?_
      go_upto_region 5 with fail
      refine wp_region_lit ?_
      refine q9.t (.slice (some ⟨qa, oa, none⟩) n c) (ex_move rfl (q9.e (j := 0) rfl)) fun _ q10 => ?_;clear q9
      refine q10.t (.int .i64 ((n : Nat) : Int)) (ex_lenG rfl rfl Tryd.underlying25 (q10.e (j := 32) rfl)) fun _ q11 => ?_;clear q10
      refine vcallP (want_none rfl) (ex_call rfl (by simp only [List.map_toArray, List.map_cons, List.map_nil, (q11.e (j := 33) rfl), evc] <;> rfl) rfl) (split20 n (by omega) hn2 w3) rfl q11.z (by decide) ?_
      rintro e w9 ⟨rfl, hw9⟩
      refine ⟨_, rfl, q11.k fun _ q12 => ?_⟩;clear q11
      have hw9 := hw9.symm
      subst hw9
      refine q12.t (.int .i64 ((lft n : Nat) : Int)) (ex_assign rfl (q12.e (j := 34) rfl)) fun _ q13 => ?_;clear q12
      refine wpList_nil ?_
      go_upto_region 6 with fail
      refine vq_start (C := fun v => Below w3.heap.size w3 v) (by kernel_rfl) (by kernel_rfl) ((Below.refl _ _).drew) ?_
      refine q13.q (.slice (some ⟨qa, oa, none⟩) n c) (fun v hv => ex_move rfl (q13.e (j := 0) rfl)) fun _ q14 => ?_;clear q13
      refine q14.q (.int .i64 ((lft n : Nat) : Int)) (fun v hv => ex_move rfl (q14.e (j := 5) rfl)) fun _ q15 => ?_;clear q14
      refine q15.q (.slice (some ⟨qa, oa, none⟩) (lft n) c) (fun v hv => ex_sl19 rfl (q15.e (j := 35) rfl) rfl (congrArg some (q15.e (j := 36) rfl)) rfl (slToE20 qa oa n c (lft n) (by omega) capA _)) fun _ q16 => ?_;clear q15
      refine q16.q (.slice (some ⟨qb, ob, none⟩) n c2) (fun v hv => ex_move rfl (q16.e (j := 1) rfl)) fun _ q17 => ?_;clear q16
      refine q17.q (.int .i64 ((lft n : Nat) : Int)) (fun v hv => ex_move rfl (q17.e (j := 5) rfl)) fun _ q18 => ?_;clear q17
      refine q18.q (.slice (some ⟨qb, ob, none⟩) (lft n) c2) (fun v hv => ex_sl19 rfl (q18.e (j := 38) rfl) rfl (congrArg some (q18.e (j := 39) rfl)) rfl (slToE20 qb ob n c2 (lft n) (by omega) capB _)) fun _ q19 => ?_;clear q18
      refine vq_call18 (true) (.bool (!decide (A.take (lft n) = B.take (lft n)))) (want_none rfl) (fun hc v hv => ex_call rfl (by simp only [List.map_toArray, List.map_cons, List.map_nil, (q19.e (j := 37) rfl), (q19.e (j := 40) rfl), evc] <;> rfl) rfl) (fun hc v hv => bel18 hv (unlike20 _ _ _ _ _ _ _ v ((A3.later hv).take (lft n) (by omega)) ((B3.later hv).take (lft n) (by omega)) (by omega)) hv.size) rfl q19.z (by decide) (q19.k fun _ q20 => ?_);clear q19
      refine vq_nil (fun r1 hr1 => ?_)
      have d4 : Below w.heap.size w r1 := d3.trans (hr1.mono d3.size)
      have A4 := A3.later hr1
      have B4 := B3.later hr1
      by_cases ht : A.take (lft n) = B.take (lft n)
      · rw [decide_eq_true ht] at q20
        have hdr : ¬ A.drop (lft n) = B.drop (lft n) := fun e => hne (by rw [← List.take_append_drop (lft n) A, ← List.take_append_drop (lft n) B, ht, e])
        have HD := hide hdr
        clear hdr ht
        go_upto_region 8 with fail
        refine wp_cond_false (q20.e (j := 41) rfl) ?_
        go_upto_region 8 with fail
        refine vq_start (C := fun v => Below r1.heap.size r1 v) (by kernel_rfl) (by kernel_rfl) ((Below.refl _ _).drew) ?_
        refine q20.q (.slice (some ⟨qa, oa, none⟩) n c) (fun v hv => ex_move rfl (q20.e (j := 0) rfl)) fun _ q21 => ?_;clear q20
        refine q21.q (.int .i64 ((lft n : Nat) : Int)) (fun v hv => ex_move rfl (q21.e (j := 5) rfl)) fun _ q22 => ?_;clear q21
        refine q22.q (.slice (some (if c = lft n then ⟨qa, oa, none⟩ else ⟨qa, oa + (lft n) * 5, none⟩)) (n - lft n) (c - lft n)) (fun v hv => ex_sl19 rfl (q22.e (j := 49) rfl) (congrArg some (q22.e (j := 50) rfl)) rfl rfl (slFromE20 qa oa n c (lft n) (by omega) capA _)) fun _ q23 => ?_;clear q22
        refine q23.q (.slice (some ⟨qb, ob, none⟩) n c2) (fun v hv => ex_move rfl (q23.e (j := 1) rfl)) fun _ q24 => ?_;clear q23
        refine q24.q (.int .i64 ((lft n : Nat) : Int)) (fun v hv => ex_move rfl (q24.e (j := 5) rfl)) fun _ q25 => ?_;clear q24
        refine q25.q (.slice (some (if c2 = lft n then ⟨qb, ob, none⟩ else ⟨qb, ob + (lft n) * 5, none⟩)) (n - lft n) (c2 - lft n)) (fun v hv => ex_sl19 rfl (q25.e (j := 52) rfl) (congrArg some (q25.e (j := 53) rfl)) rfl rfl (slFromE20 qb ob n c2 (lft n) (by omega) capB _)) fun _ q26 => ?_;clear q25
        refine vq_call18 (true) (.bool true) (want_none rfl) (fun hc v hv => ex_call rfl (by simp only [List.map_toArray, List.map_cons, List.map_nil, (q26.e (j := 51) rfl), (q26.e (j := 54) rfl), evc] <;> rfl) rfl) (fun hc v hv => bel18 hv (ih _ _ _ _ _ _ _ v ((A4.later hv).from20 (lft n) (by omega)) ((B4.later hv).from20 (lft n) (by omega)) (by omega) (by omega) (by omega) T2.out HD.out (fun x hx => hvA x (List.mem_of_mem_drop hx)) (fun x hx => hvB x (List.mem_of_mem_drop hx))) hv.size) rfl q26.z (by decide) (q26.k fun _ q27 => ?_);clear q26
        refine q27.q (.bool true) (fun v hv => ex_assign rfl (q27.e (j := 55) rfl)) fun _ q28 => ?_;clear q27
        refine vq_nil (fun r2 hr2 => ?_)
        go_wp2
        refine bodyPost_ret (results_tmp rfl _ _ _) rfl ?_
        rw [getD_of (q28.a 4 rfl)]
        exact ⟨rfl, d4.trans (hr2.mono d4.size)⟩
      · rw [decide_eq_false ht] at q20
        have HD := hide ht
        clear ht
        go_upto_region 7 with fail
        refine wp_cond_true (q20.e (j := 41) rfl) ?_
        go_upto_region 7 with fail
        refine vq_start (C := fun v => Below r1.heap.size r1 v) (by kernel_rfl) (by kernel_rfl) ((Below.refl _ _).drew) ?_
        refine q20.q (.slice (some ⟨qa, oa, none⟩) n c) (fun v hv => ex_move rfl (q20.e (j := 0) rfl)) fun _ q21 => ?_;clear q20
        refine q21.q (.int .i64 ((lft n : Nat) : Int)) (fun v hv => ex_move rfl (q21.e (j := 5) rfl)) fun _ q22 => ?_;clear q21
        refine q22.q (.slice (some ⟨qa, oa, none⟩) (lft n) c) (fun v hv => ex_sl19 rfl (q22.e (j := 42) rfl) rfl (congrArg some (q22.e (j := 43) rfl)) rfl (slToE20 qa oa n c (lft n) (by omega) capA _)) fun _ q23 => ?_;clear q22
        refine q23.q (.slice (some ⟨qb, ob, none⟩) n c2) (fun v hv => ex_move rfl (q23.e (j := 1) rfl)) fun _ q24 => ?_;clear q23
        refine q24.q (.int .i64 ((lft n : Nat) : Int)) (fun v hv => ex_move rfl (q24.e (j := 5) rfl)) fun _ q25 => ?_;clear q24
        refine q25.q (.slice (some ⟨qb, ob, none⟩) (lft n) c2) (fun v hv => ex_sl19 rfl (q25.e (j := 45) rfl) rfl (congrArg some (q25.e (j := 46) rfl)) rfl (slToE20 qb ob n c2 (lft n) (by omega) capB _)) fun _ q26 => ?_;clear q25
        refine vq_call18 (true) (.bool true) (want_none rfl) (fun hc v hv => ex_call rfl (by simp only [List.map_toArray, List.map_cons, List.map_nil, (q26.e (j := 44) rfl), (q26.e (j := 47) rfl), evc] <;> rfl) rfl) (fun hc v hv => bel18 hv (ih _ _ _ _ _ _ _ v ((A4.later hv).take (lft n) (by omega)) ((B4.later hv).take (lft n) (by omega)) (by omega) (by omega) (by omega) T1.out HD.out (fun x hx => hvA x (List.mem_of_mem_take hx)) (fun x hx => hvB x (List.mem_of_mem_take hx))) hv.size) rfl q26.z (by decide) (q26.k fun _ q27 => ?_);clear q26
        refine q27.q (.bool true) (fun v hv => ex_assign rfl (q27.e (j := 48) rfl)) fun _ q28 => ?_;clear q27
        refine vq_nil (fun r2 hr2 => ?_)
        go_wp2
        refine bodyPost_ret (results_tmp rfl _ _ _) rfl ?_
        rw [getD_of (q28.a 4 rfl)]
        exact ⟨rfl, d4.trans (hr2.mono d4.size)⟩
    · have hbb : (!(decide ((hd ((A.map lf).take (lft n))).v = (hd ((B.map lf).take (lft n))).v) && decide ((hd ((A.map lf).drop (lft n))).v = (hd ((B.map lf).drop (lft n))).v)) && true) = true := by by_cases e1 : (hd ((A.map lf).take (lft n))).v = (hd ((B.map lf).take (lft n))).v <;> by_cases e2 : (hd ((A.map lf).drop (lft n))).v = (hd ((B.map lf).drop (lft n))).v <;> simp [e1, e2] <;> exact hpq ⟨e1, e2⟩
      rw [hbb] at q9
      clear hbb hpq
      go_upto_region 4 with fail
      refine wp_cond_true (q9.e (j := 31) rfl) ?_
      go_upto_region 4 with fail
      refine wp_region_lit ?_
      refine q9.t (.bool true) (ex_assign rfl rfl) fun _ q10 => ?_;clear q9
      refine wpList_nil ?_
      go_wp2
      refine bodyPost_ret (results_tmp rfl _ _ _) rfl ?_
      rw [getD_of (q10.a 4 rfl)]
      exact ⟨rfl, d3⟩
theorem clash20 (A B : List En) (a : Option Addr) (n c : Nat) (a2 : Option Addr) (c2 : Nat) (w : World) (hA : SlY yE w a n c A) (hB : SlY yE w a2 n c2 B) (hn0 : 1 ≤ n) (hn2 : n ≤ 1000000) (hhd : hd (A.map lf) = hd (B.map lf)) (hne : ¬ A = B) (hvA : ∀ x ∈ A, x.o.v.size ≤ 140737488352232) (hvB : ∀ x ∈ B, x.o.v.size ≤ 140737488352232) :
    Calls Tryd.prog 22 #[.slice a n c, .slice a2 n c2] w fun e w' => e = .returned (.bool true) ∧ Below w.heap.size w w' := by
  have H : ∀ m, ∀ (A B : List En) (a : Option Addr) (n c : Nat) (a2 : Option Addr) (c2 : Nat) (w : World), SlY yE w a n c A → SlY yE w a2 n c2 B → n < m → 1 ≤ n → n ≤ 1000000 → hd (A.map lf) = hd (B.map lf) → ¬ A = B → (∀ x ∈ A, x.o.v.size ≤ 140737488352232) → (∀ x ∈ B, x.o.v.size ≤ 140737488352232) → Calls Tryd.prog 22 #[.slice a n c, .slice a2 n c2] w fun e w' => e = .returned (.bool true) ∧ Below w.heap.size w w' := by
    intro m
    induction m with
    | zero => intro A B a n c a2 c2 w _ _ h; omega
    | succ m ih => exact fun A B a n c a2 c2 w hA hB hm h1 h2 hh hne v1 v2 => clash_step m ih A B a n c a2 c2 w hA hB (by omega) h1 h2 hh hne v1 v2
  exact H (n + 1) A B a n c a2 c2 w hA hB (by omega) hn0 hn2 hhd hne hvA hvB
end Go.Proofs.YteeofcoehffegaaDoor
namespace Go.Proofs.YteeofcoehffegaaDoor
open Go.RowKit Go.Maps
open Classical
theorem sameJ20 (A : List Hs) (a : Option Addr) (n c : Nat) (a2 : Option Addr) (n2 c2 : Nat) (w : World) (hA : SlY yH w a n c A) (hB : SlY yH w a2 n2 c2 A) (hn : n ≤ 8000000000000000000) :
    Calls Tryd.prog 19 #[.slice a n c, .slice a2 n2 c2] w fun e w' => e = .returned (.bool true) ∧ Below w.heap.size w w' := by
  have := sameH20 A A a n c a2 n2 c2 w hA hB hn
  rw [decide_eq_true rfl] at this
  exact this
theorem inJ_le (L : List Hs) (p : Int) : (inR L p).1.length ≤ L.length := by
  unfold inR
  by_cases hb : p < 1 ∨ (L.length : Int) < p
  · rw [if_pos hb]; exact Nat.zero_le _
  · rw [if_neg hb]
    have e1 := pu_len L.length L p.toNat rfl (by omega)
    have e2 := su_le L.length p.toNat (by omega)
    show (pu L p.toNat).length ≤ _
    omega
theorem csJ_le (L : List Hs) (p : Int) : (csR L p).1.length ≤ L.length := by
  unfold csR
  by_cases hb : p < 0 ∨ (L.length : Int) < p
  · rw [if_pos hb]; exact Nat.zero_le _
  · rw [if_neg hb]
    by_cases h0 : p = 0
    · rw [if_pos h0]; exact Nat.zero_le _
    · rw [if_neg h0]
      have e1 := pa_len L.length L p.toNat true rfl (by omega) (by omega)
      have e2 := sa_le L.length p.toNat true (by omega) (by omega)
      show (pa L p.toNat true).length ≤ _
      omega
theorem TV.upd20 {S : Nat → Prop} {w w' : World} {B q : Nat} {v : Value} {L E : List Hs} (h : TV w B q v L E) (u : Upd S w w') (hq : ¬ S q) (hv : ∀ g, v.ownBlock = some g → ¬ S g) : TV w' B q v L E := ⟨h.box.upd u hq, h.own.upd1 u hv, h.lt, Nat.le_trans h.le u.size⟩
theorem hE_T : yE.T ≠ yH.T := by decide
set_option maxHeartbeats 2000000 in
theorem new20 (w : World) :
    Calls Tryd.prog 6 #[] w fun e w' => e = .returned (.pointer (some ⟨w.heap.size, 0, none⟩)) ∧ TV w' (w.heap.size + 1) w.heap.size (.slice none 0 0) [] (List.replicate 63 zH) ∧ Below w.heap.size w w' ∧ w'.heap.size = w.heap.size + 1 := by
  go_enter Tryd.func6, Tryd.ntmps6
  go_upto_region 0 with fail
  refine wp_region_lit ?_
  refine vl_gen (fun T => Rp T 3 []) (Rp.nil rfl) (fun Z0 q0 => ?_)
  refine q0.t (.pointer none) (ex_assign rfl rfl) fun _ q1 => ?_;clear q0
  refine wpList_nil ?_
  go_upto_region 1 with fail
  refine wp_region_lit ?_
  refine q1.t (.agg (tcs (.slice none 0 0) (List.replicate 63 zH)).toArray) (ex_build rfl (bdT20 _)) fun _ q2 => ?_;clear q1
  obtain ⟨w1, hw1⟩ : ∃ y, y = w.alloc (.cells (tcs (.slice none 0 0) (List.replicate 63 zH)).toArray 56) := ⟨_, rfl⟩
  refine vw (.pointer (some ⟨w.heap.size, 0, none⟩)) w1 (want_none rfl) (ex_box18 rfl (q2.e (j := 1) rfl) (by rw [hw1]; exact bxT20 _ _ _)) rfl q2.z (by decide) (q2.k fun _ q3 => ?_);clear q2
  have B1 : BB w1 w.heap.size 56 (tcs (.slice none 0 0) (List.replicate 63 zH)) := by rw [hw1]; exact BB.new _ _ _
  have b1 : Below w.heap.size w w1 := by rw [hw1]; exact (Below.refl _ _).alloc (Nat.le_refl _) _
  have z1 : w1.heap.size = w.heap.size + 1 := by rw [hw1]; exact World.size_alloc _ _
  clear hw1
  refine q3.t (.pointer (some ⟨w.heap.size, 0, none⟩)) (ex_assign rfl (q3.e (j := 2) rfl)) fun _ q4 => ?_;clear q3
  refine wpList_nil ?_
  go_wp2
  refine bodyPost_ret (results_tmp rfl _ _ _) rfl ?_
  rw [getD_of (q4.a 0 rfl)]
  exact ⟨rfl, tv_new B1 z1, b1, z1⟩
end Go.Proofs.YteeofcoehffegaaDoor
namespace Go.Proofs.YteeofcoehffegaaDoor
open Go.ChangeShapes Go.WideShapes Go.ChangeAt Go.RowKit
open Classical
theorem gDb20 : Tryd.prog.globalNamed "math/bits.deBruijn64tab" = some 1 := by kernel_rfl
theorem gDbT20 : (Tryd.prog.globals[1]?).map (·.type) = some 94 := by kernel_rfl
theorem cellsDb20 : Tryd.prog.cellsOf 94 = 64 := by kernel_rfl
theorem cellsU20 : Tryd.prog.cellsOf 5 = 1 := by kernel_rfl
theorem tb_of_laid {W : World} (h : laidMetH Tryd.prog [("math/bits.deBruijn32tab", Rows.laid_math_bits_deBruijn32tab), ("math/bits.deBruijn64tab", Rows.laid_math_bits_deBruijn64tab)] W) : Tb W := by
  rw [MakeChecks.laidMetH_plain _ _ _ (by kernel_rfl)] at h
  have e : (Rows.laid_math_bits_deBruijn64tab : DataW Unit) = Lib.tabData .u8 (Lib.deBruijn64tab.map fun (k : Nat) => (k : Int)) := by kernel_rfl
  have h3 := h.tail
  rw [e] at h3
  have ht := Lib.tabIs_of_head (rest := []) gDb20 gDbT20 Tryd.underlying94 Tryd.underlying5 cellsU20 cellsDb20 h3
  intro j hj
  unfold Lib.TabIs World.var? at ht
  rw [gDb20, Option.bind_some] at ht
  unfold World.cell?
  show (match W.heap[1]? with | some (.cells cs _ _) => cs[j]? | _ => none) = _
  split at ht
  · next cs t f hc =>
    rw [hc]
    have ht := Option.some.inj ht
    subst ht
    show ((Lib.deBruijn64tab.map fun (k : Nat) => (k : Int)).map fun z => Value.int .u8 z).toArray[j]? = _
    rw [List.getElem?_toArray, List.map_map, List.getElem?_map, List.getD_eq_getElem?_getD, List.getElem?_eq_getElem hj]
    rfl
  · cases ht
end Go.Proofs.YteeofcoehffegaaDoor
namespace Go.Proofs.YteeofcoehffegaaDoor
open Go.RowKit Go.Maps
open Classical
def yHS : Lay (SV Hs) := yS Hs 44 43
theorem kHS : yHS.Ok := kS Tryd.underlying43 (by kernel_rfl)
theorem hH_HS : yH.T ≠ yHS.T := by decide
theorem ixHS (q o n c j : Nat) (hj : j < n) (w : World) : (Instr.indexAt 43 (.slice (some ⟨q, o, none⟩) n c) (.int .i64 (j : Int))).run Tryd.prog w = .ok (.pointer (some ⟨q, o + j, none⟩)) w := by
  have h1 : (j : Int) < (n : Int) := by omega
  go_simp
theorem ldHS {w : World} {q o : Nat} {K : List (SV Hs)} (h : LieY yHS w q o K) {j : Nat} {x : SV Hs} (hx : K[j]? = some x) : (Instr.loadAt 44 (.pointer (some ⟨q, o + j, none⟩))).run Tryd.prog w = .ok (.slice x.a x.D.length x.c) w := by
  have hc : w.cell? ⟨q, o + j, none⟩ = some (.slice x.a x.D.length x.c) := by
    have := h j x hx 0 (.slice x.a x.D.length x.c) rfl
    simpa [yHS, yS] using this
  go_simp
theorem bsHS1 (x : SV Hs) (w : World) : (Instr.buildSlice 43 1 #[(0, .slice x.a x.D.length x.c)]).run Tryd.prog w = .ok (.slice (some ⟨w.heap.size, 0, none⟩) 1 1) (w.alloc (.cells (yHS.cs x).toArray 44)) := by
  show _ = Result.ok _ (w.alloc (.cells #[.slice x.a x.D.length x.c] 44))
  go_simp
theorem bsHS4 (x y z u : SV Hs) (w : World) : (Instr.buildSlice 43 4 #[(0, .slice x.a x.D.length x.c), (1, .slice y.a y.D.length y.c), (2, .slice z.a z.D.length z.c), (3, .slice u.a u.D.length u.c)]).run Tryd.prog w = .ok (.slice (some ⟨w.heap.size, 0, none⟩) 4 4) (w.alloc (.cells (fl yHS [x, y, z, u]).toArray 44)) := by
  show _ = Result.ok _ (w.alloc (.cells #[.slice x.a x.D.length x.c, .slice y.a y.D.length y.c, .slice z.a z.D.length z.c, .slice u.a u.D.length u.c] 44))
  go_simp
theorem run_appZ {α : Type} {Y : Lay α} (K : Y.Ok) (w : World) (ty : TypeId) (B : Nat) (l : List α) (v : Value) (ad : Option Addr) (m c : Nat) (news : List α) (hh : SlY Y w ad m c news) (hown : OwnY Y B w v l) (hB : B ≤ w.heap.size) (hm : l.length + m ≤ maxLen) (hb : (l.length + m) * Y.by_ ≤ 140737488355328) :
    ∃ v' w', (Builtin.append_ #[Y.ST, Y.ST] ty #[v, .slice ad m c]).run Tryd.prog w = .ok v' w' ∧ OwnY Y B w' v' (l ++ news) ∧ w.grownBy w' v.ownBlock ∧ (v'.ownBlock = v.ownBlock ∨ ((∃ k, v'.ownBlock = some k ∧ w.heap.size ≤ k) ∧ w.grownBy w' none)) := by
  obtain ⟨v', w', hr, h2, h3, h4⟩ := run_appY K w ty B l v ad m c news hh hown hB hm hb
  refine ⟨v', w', hr, h2, h3, ?_⟩
  rcases h4 with h4 | ⟨k, hk, hk2⟩
  · exact .inl h4
  · refine .inr ⟨⟨k, hk, hk2⟩, ?_⟩
    obtain ⟨zv, hinfo, hzc⟩ := K.info
    obtain ⟨i0, hi, hz0, hz1, hz2⟩ := info_parts hinfo
    have hzs : zv.cells.size = Y.k := by rw [hzc, List.size_toArray, K.len]
    rcases hown.2 with ⟨rfl, hn⟩ | ⟨g, cap, cur, rfl, hbg, hg, hnc, hcm, hcs, htake⟩
    · exact h3
    · have hgl := (Array.getElem?_eq_some_iff.1 hg).1
      cases ad with
      | none =>
        obtain ⟨rfl, rfl⟩ := hh.nil rfl
        have hr2 := run_append_owned_none (P := Tryd.prog) (w := w) B Y.ST ty Y.T i0 Y.k K.und hi _ l.length (fl Y l) hown
        rw [hr] at hr2
        cases hr2
        cases hk
        have hk3 : w.heap.size ≤ g := hk2
        omega
      | some y =>
        have hnews : ∀ j u, (fl Y news)[j]? = some u → w.cell? (y.add j) = some u := fun j u hu => by
          rcases hh.at_ y rfl with e | ⟨q, o, rfl, _, hl⟩
          · subst e; cases hu
          · rw [Addr.add_lit]; exact hl.flat K j u hu
        have hlen : (fl Y news).length = m * Y.k := by rw [fl_length K, hh.len]
        by_cases hroom : l.length + m ≤ cap
        · have hfit : l.length * i0.size + (fl Y news).length ≤ cur.size := by rw [hcs, hz1, hlen, ← Nat.add_mul]; exact Nat.mul_le_mul_right _ hroom
          have hr2 := run_append_room (P := Tryd.prog) w Y.ST ty Y.T i0 K.und hi g l.length cap cur hg y m c (fl Y news) (by rw [hz1]; exact hlen) hnews (fl_one K news) hroom hfit
          rw [hr] at hr2
          cases hr2
          cases hk
          have hk3 : w.heap.size ≤ g := hk2
          omega
        · have holds : ∀ j u, (fl Y l)[j]? = some u → w.cell? ((⟨g, 0, none⟩ : Addr).add j) = some u := World.ownsRow.cells hown (g := g) rfl
          obtain ⟨v2, w2, hr2, _, h6⟩ := run_append_arg_grows (P := Tryd.prog) w Y.ST ty Y.T i0 zv Y.k Y.by_ K.und hi hz0 hz1 hz2 hzs K.kp ⟨g, 0, none⟩ l.length cap (fl Y l) (fl_length K l) holds y m c (fl Y news) hlen hnews (by omega) hm hb
          rw [hr] at hr2
          cases hr2
          exact h6
def mkA (i k : Nat) : Hs := ⟨[((i % 256 : Nat) : Int), ((k % 256 : Nat) : Int), 1] ++ List.replicate 29 0, rfl, by
  intro x hx
  rcases List.mem_append.1 hx with h | h
  · simp only [List.mem_cons, List.not_mem_nil, or_false] at h
    rcases h with rfl | rfl | rfl <;> omega
  · have := List.eq_of_mem_replicate h
    omega⟩
theorem cvA (k : Nat) (hk : k < 256) (w : World) : (Go.convert 3 5 (.int .i64 (k : Int))).run Tryd.prog w = .ok (.int .u8 ((k % 256 : Nat) : Int)) w := by
  rw [Nat.mod_eq_of_lt hk]
  exact cvI8 k hk w
theorem bdMk (i k : Nat) (w : World) : (Instr.build 38 #[(0, .int .u8 ((i % 256 : Nat) : Int)), (1, .int .u8 ((k % 256 : Nat) : Int)), (2, .int .u8 1)]).run Tryd.prog w = .ok (mkA i k).val w := by
  show _ = Result.ok (Value.agg ((([((i % 256 : Nat) : Int), ((k % 256 : Nat) : Int), 1] : List Int) ++ List.replicate 29 0).map bV).toArray) w
  generalize ((i % 256 : Nat) : Int) = x
  generalize ((k % 256 : Nat) : Int) = y
  kernel_rfl
def mrk (i m : Nat) : List Hs := (List.range m).map (mkA i)
theorem mrk_len (i m : Nat) : (mrk i m).length = m := by rw [mrk, List.length_map, List.length_range]
theorem mrk_get {i m k : Nat} (h : k < m) : (mrk i m)[k]? = some (mkA i k) := by
  rw [mrk, List.getElem?_map, List.getElem?_range h]
  rfl
theorem mrk_succ (i m : Nat) : mrk i m ++ [mkA i m] = mrk i (m + 1) := by
  rw [mrk, mrk, List.range_succ, List.map_append]
  rfl
theorem mrk_pre (i m r : Nat) : ∃ F, mrk i (m + r) = mrk i m ++ F := by
  refine ⟨((List.range r).map (m + ·)).map (mkA i), ?_⟩
  rw [mrk, mrk, List.range_add, List.map_append]
theorem mrk_set {i k : Nat} {D : List Hs} (h : k < D.length) : (mrk i k ++ D.drop k).set k (mkA i k) = mrk i (k + 1) ++ D.drop (k + 1) := by
  rw [List.set_append_right (h := by rw [mrk_len]; omega), mrk_len, Nat.sub_self, ← mrk_succ, List.append_assoc, List.drop_eq_getElem_cons h]
  rfl
theorem sv_len {B : Nat} {w : World} {x : SV Hs} {D : List Hs} (h : OwnY yH B w x.v D) : D.length = x.D.length := by
  obtain ⟨a, c, e, _⟩ := h.form
  injection e with _ e2 _
  exact e2.symm
theorem sv_place {B : Nat} {w : World} {x : SV Hs} {D : List Hs} (h : OwnY yH B w x.v D) (h0 : 0 < x.D.length) : ∃ g, x.a = some ⟨g, 0, none⟩ ∧ x.v.ownBlock = some g ∧ B ≤ g ∧ g < w.heap.size := by
  have hl := sv_len h
  obtain ⟨a, c, e, _, _, h3, h4⟩ := h.form
  injection e with e1 _ _
  cases ha : a with
  | none =>
    have := (h3 ha).1
    rw [this] at hl
    simp at hl
    omega
  | some z =>
    obtain ⟨g, rfl, h5, h6⟩ := h4 z ha
    rw [ha] at e1
    exact ⟨g, e1, by unfold SV.v; rw [e1]; rfl, h5, h6⟩
theorem sv_blk {B : Nat} {w : World} {x : SV Hs} {D : List Hs} (h : OwnY yH B w x.v D) {z : Addr} (hz : x.a = some z) : x.v.ownBlock = some z.block ∧ z.block < w.heap.size := by
  obtain ⟨a, c, e, _, _, _, h4⟩ := h.form
  injection e with e1 _ _
  obtain ⟨g, hg, _, h5⟩ := h4 z (by rw [← e1]; exact hz)
  unfold SV.v
  rw [hz, hg]
  exact ⟨rfl, h5⟩
theorem keepZ {B S0 : Nat} {w w' : World} {x : SV Hs} {D F : List Hs} {v v' : Value} (hxb : ∀ b, x.v.ownBlock = some b → b < S0) (hxa : ∀ z, x.a = some z → ∃ g, z = ⟨g, 0, none⟩) (hs : SlY yH w x.a x.D.length x.c D) (hv : v.ownBlock = x.v.ownBlock ∨ ∀ b, v.ownBlock = some b → S0 ≤ b) (g : w.grownBy w' v.ownBlock) (o : OwnY yH B w' v' (D ++ F))
    (h4 : v'.ownBlock = v.ownBlock ∨ ((∃ k, v'.ownBlock = some k ∧ w.heap.size ≤ k) ∧ w.grownBy w' none)) (hS : S0 ≤ w.heap.size) :
    SlY yH w' x.a x.D.length x.c D ∧ (v'.ownBlock = x.v.ownBlock ∨ ∀ b, v'.ownBlock = some b → S0 ≤ b) := by
  have ob : ∀ y, x.a = some y → x.v.ownBlock = some y.block := fun y hy => by
    obtain ⟨q, rfl⟩ := hxa y hy
    unfold SV.v
    rw [hy]
    rfl
  rcases h4 with h4 | ⟨⟨k, hk, hk2⟩, g0⟩
  · rw [h4]
    refine ⟨?_, hv⟩
    rcases hv with hv | hv
    · refine ⟨hs.len, hs.cap, hs.max, hs.nil, fun y hy => ?_⟩
      have e1 := ob y hy
      obtain ⟨q, rfl⟩ := hxa y hy
      have e2 : v'.ownBlock = some q := h4.trans (hv.trans e1)
      obtain ⟨a, c, rfl, _, _, _, h6⟩ := o.form
      cases ha : a with
      | none => rw [ha] at e2; cases e2
      | some z =>
        obtain ⟨q2, rfl, _, hlt⟩ := h6 z ha
        rw [ha] at e2 o
        have e3 : q2 = q := by injection e2
        subst e3
        exact .inr ⟨q2, 0, rfl, hlt, fun i y hy j u hu => by
          rw [Nat.zero_add]
          exact o.cell kH i y (by rw [List.getElem?_append_left (List.getElem?_eq_some_iff.1 hy).1]; exact hy) j u hu⟩
    · exact hs.upd (gupd20 g) (fun y hy _ hh => by
        have := hxb _ (ob y hy)
        have := hv _ hh
        omega)
  · exact ⟨hs.upd (gupd20 g0) (fun y hy _ hh => by cases hh), .inr (fun b hb => by rw [hk] at hb; cases hb; omega)⟩
end Go.Proofs.YteeofcoehffegaaDoor
