import Derived.Test.YtaagmdkhjmonnaaR2
namespace Go.Proofs.Ytaagmdkhjmonnaa
open Go.RowKit Go.Maps
open Classical
set_option linter.unusedVariables false
set_option linter.unusedSimpArgs false

theorem eqT20 (x y : Operand) {a b : Int} (h : a = b) (w : World) : (do eqGuard .eql 3 x y (.int .i64 a) (.int .i64 b); binOp .eql 3 (.int .i64 a) (.int .i64 b) : Sem Value).run Try.prog w = .ok (.bool true) w := by
  go_simp
  first | done | simp [h] | omega
theorem eqF20 (x y : Operand) {a b : Int} (h : ¬ a = b) (w : World) : (do eqGuard .eql 3 x y (.int .i64 a) (.int .i64 b); binOp .eql 3 (.int .i64 a) (.int .i64 b) : Sem Value).run Try.prog w = .ok (.bool false) w := by
  go_simp
  first | done | simp [h] | omega
theorem neT20 (x y : Operand) {a b : Int} (h : ¬ a = b) (w : World) : (do eqGuard .neq 3 x y (.int .i64 a) (.int .i64 b); binOp .neq 3 (.int .i64 a) (.int .i64 b) : Sem Value).run Try.prog w = .ok (.bool true) w := by
  go_simp
  first | done | simp [h] | omega
theorem neF20 (x y : Operand) {a b : Int} (h : a = b) (w : World) : (do eqGuard .neq 3 x y (.int .i64 a) (.int .i64 b); binOp .neq 3 (.int .i64 a) (.int .i64 b) : Sem Value).run Try.prog w = .ok (.bool false) w := by
  go_simp
  first | done | simp [h] | omega
theorem leT20 (x y : Operand) {a b : Int} (h : a ≤ b) (w : World) : (do eqGuard .leq 3 x y (.int .i64 a) (.int .i64 b); binOp .leq 3 (.int .i64 a) (.int .i64 b) : Sem Value).run Try.prog w = .ok (.bool true) w := by
  go_simp
  first | done | simp [h] | omega
theorem leF20 (x y : Operand) {a b : Int} (h : ¬ a ≤ b) (w : World) : (do eqGuard .leq 3 x y (.int .i64 a) (.int .i64 b); binOp .leq 3 (.int .i64 a) (.int .i64 b) : Sem Value).run Try.prog w = .ok (.bool false) w := by
  go_simp
  first | done | simp [h] | omega
theorem ltT20 (x y : Operand) {a b : Int} (h : a < b) (w : World) : (do eqGuard .lss 3 x y (.int .i64 a) (.int .i64 b); binOp .lss 3 (.int .i64 a) (.int .i64 b) : Sem Value).run Try.prog w = .ok (.bool true) w := by
  go_simp
  first | done | simp [h] | omega
theorem ltF20 (x y : Operand) {a b : Int} (h : ¬ a < b) (w : World) : (do eqGuard .lss 3 x y (.int .i64 a) (.int .i64 b); binOp .lss 3 (.int .i64 a) (.int .i64 b) : Sem Value).run Try.prog w = .ok (.bool false) w := by
  go_simp
  first | done | simp [h] | omega
theorem gtT20 (x y : Operand) {a b : Int} (h : b < a) (w : World) : (do eqGuard .gtr 3 x y (.int .i64 a) (.int .i64 b); binOp .gtr 3 (.int .i64 a) (.int .i64 b) : Sem Value).run Try.prog w = .ok (.bool true) w := by
  go_simp
  first | done | simp [h] | omega
theorem gtF20 (x y : Operand) {a b : Int} (h : ¬ b < a) (w : World) : (do eqGuard .gtr 3 x y (.int .i64 a) (.int .i64 b); binOp .gtr 3 (.int .i64 a) (.int .i64 b) : Sem Value).run Try.prog w = .ok (.bool false) w := by
  go_simp
  first | done | simp [h] | omega
def adH (q o c k : Nat) : Addr := if c = k then ⟨q, o, none⟩ else ⟨q, o + k * 32, none⟩
theorem slFromH (q o n c k : Nat) (h1 : k ≤ n) (h2 : n ≤ c) (w : World) : (Instr.sliceAt 42 (.slice (some ⟨q, o, none⟩) n c) (some (.int .i64 (k : Int))) none none).run Try.prog w = .ok (.slice (some (adH q o c k)) (n - k) (c - k)) w := by
  have e1 : (0 : Int) ≤ (k : Int) := by omega
  have e2 : (k : Int) ≤ (n : Int) := by omega
  have e3 : (n : Int) ≤ (c : Int) := by omega
  unfold adH
  by_cases h : c = k
  · subst h
    go_simp
    first | done | simp
  · rw [if_neg h]
    go_simp
    first | done | simp [h]
theorem slToH (q o n c k : Nat) (h1 : k ≤ n) (h2 : n ≤ c) (w : World) : (Instr.sliceAt 42 (.slice (some ⟨q, o, none⟩) n c) none (some (.int .i64 (k : Int))) none).run Try.prog w = .ok (.slice (some ⟨q, o, none⟩) k c) w := by
  have e1 : (0 : Int) ≤ (k : Int) := by omega
  have e2 : (k : Int) ≤ (c : Int) := by omega
  go_simp
theorem ixH (q o n c j : Nat) (hj : j < n) (w : World) : (Instr.indexAt 42 (.slice (some ⟨q, o, none⟩) n c) (.int .i64 (j : Int))).run Try.prog w = .ok (.pointer (some ⟨q, o + j * 32, none⟩)) w := by
  have h1 : (j : Int) < (n : Int) := by omega
  go_simp
theorem ixH0 (q n c j : Nat) (hj : j < n) (w : World) : (Instr.indexAt 42 (.slice (some ⟨q, 0, none⟩) n c) (.int .i64 (j : Int))).run Try.prog w = .ok (.pointer (some ⟨q, j * 32, none⟩)) w := by
  have := ixH q 0 n c j hj w
  rw [Nat.zero_add] at this
  exact this
theorem ldH20 {w : World} {q o : Nat} {l : List Hs} (h : LieY yH w q o l) {j : Nat} {x : Hs} (hx : l[j]? = some x) : (Instr.loadAt 24 (.pointer (some ⟨q, o + j * 32, none⟩))).run Try.prog w = .ok x.val w :=
  run_loadAt_mid (P := Try.prog) w q (o + j * 32) 24 x.cs _ (fun k v hv => h j x hx k v hv) Try.underlying24 rfl (by rw [x.len]; exact i32h)
theorem ixE20 (q o n c j : Nat) (hj : j < n) (w : World) : (Instr.indexAt 22 (.slice (some ⟨q, o, none⟩) n c) (.int .i64 (j : Int))).run Try.prog w = .ok (.pointer (some ⟨q, o + j * 5, none⟩)) w := by
  have h1 : (j : Int) < (n : Int) := by omega
  go_simp
theorem ldEl20 {w : World} {q o : Nat} {l : List En} (h : LieY yE w q o l) {j : Nat} {x : En} (hx : l[j]? = some x) : (Instr.loadAt 28 (.pointer (some ⟨q, o + j * 5, none⟩))).run Try.prog w = .ok x.val20 w :=
  run_loadAt_mid (P := Try.prog) w q (o + j * 5) 28 x.cs _ (fun k v hv => h j x hx k v hv) Try.underlying28 rfl i5e20
theorem alE20 (w : World) : (Instr.alloc 28 true (.tuple #[])).run Try.prog w = .ok (.pointer (some ⟨w.heap.size, 0, none⟩)) (w.alloc (.cells yE.z.cs.toArray 28)) := by kernel_rfl
theorem oneE20 (x : En) : x.cs.toArray.all (·.oneCell') = true := by
  rw [Array.all_eq_true_iff_forall_mem]
  intro u hu
  simp only [En.cs, List.mem_toArray, List.mem_cons, List.not_mem_nil, or_false] at hu
  rcases hu with rfl | rfl | rfl | rfl | rfl <;> rfl
theorem BB.stE20 {w : World} {q : Nat} {T : TypeId} {y : En} (h : BB w q T y.cs) (x : En) : (Instr.storeAt 28 (.pointer (some ⟨q, 0, none⟩)) x.val20).run Try.prog w = .ok () (w.setCells q 0 x.cs) := h.st 28 x.cs rfl i5e20 (oneE20 x)
theorem SlY.from20 {α : Type} {Y : Lay α} {w : World} {q o n c : Nat} {D : List α} (h : SlY Y w (some ⟨q, o, none⟩) n c D) (k : Nat) (hk : k ≤ n) : SlY Y w (some (if c = k then ⟨q, o, none⟩ else ⟨q, o + k * Y.k, none⟩)) (n - k) (c - k) (D.drop k) := by
  refine ⟨by rw [List.length_drop, h.len], by have := h.cap; omega, by have := h.max; omega, (fun e => by cases e), fun x hx => ?_⟩
  obtain rfl := Option.some.inj hx
  by_cases hd : D.drop k = []
  · exact .inl hd
  · refine .inr ?_
    have hlt : k < D.length := by
      rcases Nat.lt_or_ge k D.length with h2 | h2
      · exact h2
      · exact absurd (List.drop_eq_nil_of_le h2) hd
    obtain ⟨q', o', e, hq, hl⟩ := h.place (by rintro rfl; simp at hlt)
    obtain ⟨rfl, rfl⟩ : q = q' ∧ o = o' := by simpa using e
    have hne : ¬ c = k := by have := h.cap; have := h.len; omega
    refine ⟨q, o + k * Y.k, by rw [if_neg hne], hq, fun i y hy j v hv => ?_⟩
    rw [List.getElem?_drop] at hy
    have := hl (k + i) y hy j v hv
    rw [show o + (k + i) * Y.k + j = o + k * Y.k + i * Y.k + j by rw [Nat.add_mul]; omega] at this
    exact this
theorem SlY.fromH {w : World} {q o n c : Nat} {D : List Hs} (h : SlY yH w (some ⟨q, o, none⟩) n c D) (k : Nat) (hk : k ≤ n) : SlY yH w (some (adH q o c k)) (n - k) (c - k) (D.drop k) := h.from20 k hk
/-- A store of an element into an own row. -/
theorem run_stY {α : Type} {Y : Lay α} (K : Y.Ok) (w : World) (ty : TypeId) (B g n c : Nat) (l : List α) (i : Nat) (e' : α) (v : Value) (hlt : i < l.length) (hi : (Try.prog.info? ty).map (·.size) = some v.cells.size) (hc : Y.cs e' = v.cells.toList) (hown : OwnY Y B w (.slice (some ⟨g, 0, none⟩) n c) l) :
    ∃ w', (Instr.storeAt ty (.pointer (some ⟨g, i * Y.k, none⟩)) v).run Try.prog w = .ok () w' ∧ OwnY Y B w' (.slice (some ⟨g, 0, none⟩) n c) (l.set i e') ∧ Upd (fun b => b = g) w w' ∧ w'.heap.size = w.heap.size := by
  rcases hown with ⟨h0, h1 | ⟨g1, cap, cur, e1, e2, e3, e4, e5, e6, e7⟩⟩
  · have := h1.1; cases this
  · injection e1 with q1 q2 q3
    injection q1 with q1
    cases q1
    subst q3
    have hsz : l.length * Y.k ≤ cur.size := by rw [e6]; exact Nat.mul_le_mul_right _ e4
    have hlen : v.cells.toList.length = v.cells.size := by simp
    have hk : v.cells.toList.length = Y.k := by rw [← hc, K.len]
    have hfit : i * Y.k + v.cells.toList.length ≤ l.length * Y.k := by
      have : (i + 1) * Y.k ≤ l.length * Y.k := Nat.mul_le_mul_right _ hlt
      rw [Nat.add_mul] at this
      omega
    have hrun := run_storeCells_at (P := Try.prog) g (i * Y.k) Y.T v.cells.toList 0 cur w e3 (by omega) (fun u hu => K.one e' u (by rw [hc]; exact hu))
    rw [Nat.add_zero] at hrun
    have hst : (Instr.storeAt ty (.pointer (some ⟨g, i * Y.k, none⟩)) v).run Try.prog w = .ok () (w.setRow g (cur.toList.take (i * Y.k) ++ v.cells.toList ++ cur.toList.drop (i * Y.k + v.cells.toList.length)).toArray) := by
      cases hq : Try.prog.info? ty with
      | none => rw [hq] at hi; cases hi
      | some t =>
        have hs : v.cells.size = t.size := by simp [hq] at hi; omega
        simp [Instr.storeAt, Instr.sureAddr, storeVar, sizeOf, typeInfo, hq, hs]
        rw [← hs]
        simpa using hrun
    refine ⟨_, hst, ?_, ⟨rfl, rfl, rfl, by simp, fun b hb hs => setRow_other w g b _ hs⟩, by simp⟩
    refine ⟨by rw [fl_length K], .inr ⟨g, c, _, ?_, e2, setRow_heap w g cur _ Y.T (0, 0) e3, ?_, e5, ?_, ?_⟩⟩
    · rw [List.length_set, ← q2]
    · rw [List.length_set]; exact e4
    · rw [List.size_toArray, ← e6]
      simp only [List.length_append, List.length_take, List.length_drop, Array.length_toList]
      omega
    · have he : l[i]? = some l[i] := List.getElem?_eq_getElem hlt
      have := fl_splice K (e' := e') (j := 0) he (xs := v.cells.toList) (by omega) (by rw [hc, List.take_zero, List.nil_append, Nat.zero_add, List.drop_of_length_le (by rw [K.len]; omega), List.append_nil])
      rw [Nat.add_zero] at this
      rw [List.length_set, this, ← e7]
      exact splice_take hfit
theorem run_stH (w : World) (B g n c : Nat) (l : List Hs) (i : Nat) (x : Hs) (hlt : i < l.length) (hown : OwnY yH B w (.slice (some ⟨g, 0, none⟩) n c) l) :
    ∃ w', (Instr.storeAt 24 (.pointer (some ⟨g, i * 32, none⟩)) x.val).run Try.prog w = .ok () w' ∧ OwnY yH B w' (.slice (some ⟨g, 0, none⟩) n c) (l.set i x) ∧ Upd (fun b => b = g) w w' ∧ w'.heap.size = w.heap.size :=
  run_stY kH w 24 B g n c l i x x.val hlt (by have := x.len; show _ = some x.cs.toArray.size; rw [List.size_toArray, this]; exact i32h) rfl hown
theorem mkH20 (n : Nat) (hn : n ≤ 4398046511104) (w : World) : ∃ w', (Instr.makeSlice 42 (.int .i64 (n : Int)) (.int .i64 (n : Int))).run Try.prog w = .ok (.slice (some ⟨w.heap.size, 0, none⟩) n n) w' ∧ OwnY yH w.heap.size w' (.slice (some ⟨w.heap.size, 0, none⟩) n n) (List.replicate n zH) ∧ Below w.heap.size w w' := by
  obtain ⟨zv, hinfo, hzc⟩ := kH.info
  obtain ⟨i0, hi, hz0, hz1, hz2⟩ := info_parts hinfo
  have hr := run_make (P := Try.prog) w yH.ST yH.T i0 zv kH.und hi hz0 .i64 .i64 n n (by omega) (Int.le_refl _) (room_int hz2 (by show n * 32 ≤ _; omega)) (by omega)
  rw [Int.toNat_natCast, hz1] at hr
  refine ⟨_, hr, ?_, (Below.refl _ _).alloc (Nat.le_refl _) _⟩
  unfold OwnY at *
  rw [List.length_replicate, show List.replicate n zH = List.replicate n yH.z from rfl, ← madeY kH hzc]
  exact World.ownsRow_lit w _ n (Nat.le_refl _) (by unfold maxLen; omega) (size_madeCells _ _)
/-- The leaves behind j rounds. -/
def lvs (l : List En) (j : Nat) : List Hs := (l.take j).map lf ++ List.replicate (l.length - j) zH
theorem lvs_0 (l : List En) : lvs l 0 = List.replicate l.length zH := by simp [lvs]
theorem lvs_n (l : List En) : lvs l l.length = l.map lf := by simp [lvs]
theorem lvs_len (l : List En) (j : Nat) (hj : j ≤ l.length) : (lvs l j).length = l.length := by simp [lvs]; omega
theorem lvs_set {l : List En} {j : Nat} {x : En} (hx : l[j]? = some x) : (lvs l j).set j (lf x) = lvs l (j + 1) := by
  obtain ⟨hj, rfl⟩ := List.getElem?_eq_some_iff.1 hx
  unfold lvs
  have e : l.length - j = (l.length - (j + 1)) + 1 := by omega
  rw [List.set_append, if_neg (by rw [List.length_map, List.length_take]; omega), List.length_map, List.length_take, Nat.min_eq_left (by omega), Nat.sub_self, e, List.replicate_succ, List.set_cons_zero, List.take_succ_eq_append_getElem hj, List.map_append, List.append_assoc]
  rfl
set_option maxRecDepth 100000 in
set_option maxHeartbeats 2000000 in
theorem leaves20 (l : List En) (a : Option Addr) (n c : Nat) (w : World) (h : SlY yE w a n c l) (hn : n ≤ 4398046511104) (hv : ∀ x ∈ l, x.o.v.size ≤ 140737488350000) :
    Calls Try.prog 39 #[.slice a n c] w fun e w' => ∃ v, e = .returned v ∧ OwnY yH w.heap.size w' v (l.map lf) ∧ Below w.heap.size w w' := by
  go_enter Try.func39, Try.ntmps39
  go_upto_region 0 with fail
  refine wp_region_lit ?_
  refine vl_gen (fun T => Rp T 23 [(0, gw true (.slice a n c))]) ((Rp.nil rfl).cons rfl) (fun Z0 q0 => ?_)
  refine q0.t (.slice none 0 0) (ex_assign rfl rfl) fun _ q1 => ?_;clear q0
  refine wpList_nil ?_
  go_upto_region 1 with fail
  refine wp_region_lit ?_
  refine q1.t (.slice a n c) (ex_move rfl (q1.e (j := 0) rfl)) fun _ q2 => ?_;clear q1
  refine q2.t (.int .i64 ((n : Nat) : Int)) (ex_lenG rfl rfl Try.underlying22 (q2.e (j := 6) rfl)) fun _ q3 => ?_;clear q2
  obtain ⟨w1, hm1, O1, b1⟩ := mkH20 n (by omega) w
  have hln := h.len
  refine vw (.slice (some ⟨w.heap.size, 0, none⟩) n n) w1 (want_none rfl) (ex_mk19 rfl (q3.e (j := 7) rfl) (q3.e (j := 7) rfl) hm1) rfl q3.z (by decide) (q3.k fun _ q4 => ?_);clear q3
  refine q4.t (.slice (some ⟨w.heap.size, 0, none⟩) n n) (ex_assign rfl (q4.e (j := 8) rfl)) fun _ q5 => ?_;clear q4
  refine wpList_nil ?_
  go_upto_region 2 with fail
  refine wp_region_lit ?_
  refine q5.t (.slice a n c) (ex_move rfl (q5.e (j := 0) rfl)) fun _ q6 => ?_;clear q5
  refine q6.t (.int .i64 ((n : Nat) : Int)) (ex_lenG rfl rfl Try.underlying22 (q6.e (j := 9) rfl)) fun _ q7 => ?_;clear q6
  refine q7.t (.int .i64 ((0 : Nat) : Int)) (ex_move rfl rfl) fun _ q8 => ?_;clear q7
  have q9 := (((((Rp.nil q8.z).cons (q8.a 3 rfl)).cons (q8.a 9 rfl)).cons (q8.a 10 rfl)).cons (q8.a 11 rfl))
  clear q8
  refine wpList_nil ?_
  go_upto_region 3 with fail
  refine v_loop 11 n (fun j T wr => Rp T 23 [(11, gw true (.int .i64 ((j : Nat) : Int))), (10, gw true (.int .i64 ((n : Nat) : Int))), (9, gw true (.slice a n c)), (3, gw true (.slice (some ⟨w.heap.size, 0, none⟩) n n))] ∧ Hid (OwnY yH w.heap.size wr (.slice (some ⟨w.heap.size, 0, none⟩) n n) (lvs l j) ∧ Below w.heap.size w wr)) (fun j T w h => h.1.a 11 rfl) ⟨q9, (by rw [lvs_0, hln]; exact O1), b1⟩ ?_
  clear q9 O1 b1 hm1
  intro j T wr hj hh
  obtain ⟨q100, HJ⟩ := hh
  obtain ⟨OW, br⟩ := HJ.out
  clear HJ
  by_cases hit : j < n
  · go_upto_region 3 with fail
    refine wp_region_lit ?_
    refine q100.t (.bool true) (ex_bin rfl (q100.e (j := 11) rfl) (q100.e (j := 10) rfl) (ltT _ _ hit _)) fun _ q101 => ?_;clear q100
    refine wpList_nil ?_
    go_upto_region 4 with fail
    refine wp_cond_true (q101.e (j := 12) rfl) ?_
    go_upto_region 4 with fail
    refine wp_region_lit ?_
    obtain ⟨x, hx⟩ : ∃ x, l[j]? = some x := ⟨_, List.getElem?_eq_getElem (by omega)⟩
    obtain ⟨qa, oa, rfl, hqa, hla⟩ := h.place (by rintro rfl; simp at hx)
    have hvx := hv x (List.mem_of_getElem? hx)
    have hsz := br.size
    refine q101.t (.int .i64 ((j : Nat) : Int)) (ex_move rfl (q101.e (j := 11) rfl)) fun _ q102 => ?_;clear q101
    refine q102.t (.pointer (some ⟨qa, oa + j * 5, none⟩)) (ex_ix rfl (q102.e (j := 9) rfl) (q102.e (j := 11) rfl) (ixE20 qa oa n c j hit _)) fun _ q103 => ?_;clear q102
    refine q103.t (x.val20) (ex_ld rfl (q103.e (j := 14) rfl) (ldEl20 (hla.upd (S := fun _ => False) (Upd.of_below br) hqa id) hx)) fun _ q104 => ?_;clear q103
    obtain ⟨w2, hw2⟩ : ∃ y, y = wr.alloc (.cells (yE.z.cs).toArray 28) := ⟨_, rfl⟩
    refine vw (.pointer (some ⟨wr.heap.size, 0, none⟩)) w2 (want_none rfl) (ex_al rfl (by rw [hw2]; exact alE20 _)) rfl q104.z (by decide) (q104.k fun _ q105 => ?_);clear q104
    have Bw2 : BB w2 wr.heap.size 28 (yE.z.cs) := by rw [hw2]; exact BB.new _ _ _
    have bw2 : Below wr.heap.size wr w2 := by rw [hw2]; exact (Below.refl _ _).alloc (Nat.le_refl _) _
    have zw2 : w2.heap.size = wr.heap.size + 1 := by rw [hw2]; exact World.size_alloc _ _
    clear hw2
    refine q105.t (.int .i64 ((j : Nat) : Int)) (ex_assign rfl (q105.e (j := 13) rfl)) fun _ q106 => ?_;clear q105
    obtain ⟨w3, hw3⟩ : ∃ y, y = w2.setCells wr.heap.size 0 x.cs := ⟨_, rfl⟩
    refine vs w3 (want_none rfl) (ex_st rfl (q106.e (j := 5) rfl) (q106.e (j := 15) rfl) (by rw [hw3]; exact Bw2.stE20 x)) rfl ?_
    have B3 : BB w3 wr.heap.size 28 x.cs := by rw [hw3]; exact Bw2.whole _ rfl
    have u3 : Upd (fun k => k = wr.heap.size) w2 w3 := by rw [hw3]; exact upd18 _ _ _ _
    clear hw3
    have b3 : Below wr.heap.size wr w3 := bw2.trans (bel_ge u3 (by omega) (Nat.le_refl _))
    have O3 := OW.grow b3
    refine wpList_nil ?_
    go_upto_region 5 with fail
    refine wp_region_lit ?_
    refine q106.t (.slice (some ⟨w.heap.size, 0, none⟩) n n) (ex_move rfl (q106.e (j := 3) rfl)) fun _ q107 => ?_;clear q106
    refine q107.t (.int .i64 ((j : Nat) : Int)) (ex_move rfl (q107.e (j := 4) rfl)) fun _ q108 => ?_;clear q107
    refine q108.t (x.val20) (ex_ld rfl (q108.e (j := 5) rfl) B3.ldE20) fun _ q109 => ?_;clear q108
    refine vcallP (want_none rfl) (ex_call rfl (by simp only [List.map_toArray, List.map_cons, List.map_nil, (q109.e (j := 18) rfl), evc] <;> rfl) rfl) (leaf20 x w3 hvx) rfl q109.z (by decide) ?_
    rintro e w4 ⟨rfl, b4⟩
    refine ⟨_, rfl, q109.k fun _ q110 => ?_⟩;clear q109
    have O4 := O3.grow b4
    have hz4 := b4.size
    have hz3 := b3.size
    obtain ⟨w5, hs5, O5, u5, z5⟩ := run_stH w4 w.heap.size w.heap.size n n (lvs l j) j (lf x) (by rw [lvs_len l j (by omega)]; omega) O4
    rw [lvs_set hx] at O5
    have d5 : Below w.heap.size w w5 := ((br.trans (b3.mono hsz)).trans (b4.mono (by omega))).trans (bel_ge u5 (by omega) (Nat.le_refl _))
    refine q110.t (.pointer (some ⟨w.heap.size, j * 32, none⟩)) (ex_ix rfl (q110.e (j := 16) rfl) (q110.e (j := 17) rfl) (ixH0 _ n n j hit _)) fun _ q111 => ?_;clear q110
    refine vs w5 (want_none rfl) (ex_st rfl (q111.e (j := 20) rfl) (q111.e (j := 19) rfl) hs5) rfl ?_
    refine wpList_nil ?_
    go_upto_region 6 with fail
    refine wp_region_lit ?_
    refine q111.t (.int .i64 ((j + 1 : Nat) : Int)) (ex_bin rfl (q111.e (j := 11) rfl) rfl (add1C _ _ j (by omega) _)) fun _ q112 => ?_;clear q111
    refine q112.t (.int .i64 ((j + 1 : Nat) : Int)) (ex_move rfl (q112.e (j := 21) rfl)) fun _ q113 => ?_;clear q112
    have q114 := (((((Rp.nil q113.z).cons (q113.a 3 rfl)).cons (q113.a 9 rfl)).cons (q113.a 10 rfl)).cons (q113.a 11 rfl))
    clear q113
    refine wpList_nil ?_
    exact ⟨_, rfl, hit, q114, O5, d5⟩
  · obtain rfl : j = n := by omega
    rw [← hln, lvs_n] at OW
    rw [hln] at OW
    go_upto_region 3 with fail
    refine wp_region_lit ?_
    refine q100.t (.bool false) (ex_bin rfl (q100.e (j := 11) rfl) (q100.e (j := 10) rfl) (ltF _ _ hit _)) fun _ q101 => ?_;clear q100
    refine wpList_nil ?_
    go_upto_region 7 with fail
    refine wp_cond_false (q101.e (j := 12) rfl) ?_
    go_upto_region 7 with fail
    refine wp_region_lit ?_
    refine q101.t (.slice (some ⟨w.heap.size, 0, none⟩) j j) (ex_move rfl (q101.e (j := 3) rfl)) fun _ q102 => ?_;clear q101
    refine q102.t (.slice (some ⟨w.heap.size, 0, none⟩) j j) (ex_assign rfl (q102.e (j := 22) rfl)) fun _ q103 => ?_;clear q102
    refine wpList_nil ?_
    go_wp2
    refine bodyPost_ret (results_tmp rfl _ _ _) rfl ?_
    rw [getD_of (q103.a 2 rfl)]
    exact ⟨_, rfl, OW, br⟩
theorem nil_sl20 {α : Type} (Y : Lay α) (w : World) : SlY Y w none 0 0 [] := ⟨rfl, Nat.le_refl _, by unfold maxLen; omega, fun _ => ⟨rfl, rfl⟩, fun x hx => by cases hx⟩
set_option maxRecDepth 100000 in
set_option maxHeartbeats 2000000 in
theorem headOf_step (m : Nat) (ih : ∀ (L : List Hs) (a : Option Addr) (n c : Nat) (w : World), SlY yH w a n c L → n < m → n ≤ 9000000000000000000 → Calls Try.prog 38 #[.slice a n c] w fun e w' => e = .returned (hd L).val ∧ Below w.heap.size w w') (L : List Hs) (a : Option Addr) (n c : Nat) (w : World) (h : SlY yH w a n c L) (hm : n ≤ m) (hn : n ≤ 9000000000000000000) :
    Calls Try.prog 38 #[.slice a n c] w fun e w' => e = .returned (hd L).val ∧ Below w.heap.size w w' := by
  go_enter Try.func38, Try.ntmps38
  go_upto_region 0 with fail
  refine wp_region_lit ?_
  refine vl_gen (fun T => Rp T 26 [(0, gw true (.slice a n c))]) ((Rp.nil rfl).cons rfl) (fun Z0 q0 => ?_)
  have hln := h.len
  obtain ⟨w1, hw1⟩ : ∃ y, y = w.alloc (.cells (zH.cs).toArray 24) := ⟨_, rfl⟩
  refine vw (.pointer (some ⟨w.heap.size, 0, none⟩)) w1 (want_none rfl) (ex_al rfl (by rw [hw1]; exact alH _)) rfl q0.z (by decide) (q0.k fun _ q1 => ?_);clear q0
  have Bw1 : BB w1 w.heap.size 24 (zH.cs) := by rw [hw1]; exact BB.new _ _ _
  have bw1 : Below w.heap.size w w1 := by rw [hw1]; exact (Below.refl _ _).alloc (Nat.le_refl _) _
  have zw1 : w1.heap.size = w.heap.size + 1 := by rw [hw1]; exact World.size_alloc _ _
  clear hw1
  refine wpList_nil ?_
  go_upto_region 1 with fail
  refine wp_region_lit ?_
  refine q1.t (.slice a n c) (ex_move rfl (q1.e (j := 0) rfl)) fun _ q2 => ?_;clear q1
  refine q2.t (.int .i64 ((n : Nat) : Int)) (ex_lenG rfl rfl Try.underlying42 (q2.e (j := 4) rfl)) fun _ q3 => ?_;clear q2
  refine wpList_nil ?_
  go_upto_region 2 with fail
  refine wp_region_lit ?_
  by_cases h0 : n = 0
  · refine q3.t (.bool true) (ex_bin (Y := .int .i64 (0 : Int)) rfl (q3.e (j := 5) rfl) rfl (eqT20 _ _ (by omega) _)) fun _ q4 => ?_;clear q3
    refine q4.t (.bool true) (ex_assign rfl (q4.e (j := 7) rfl)) fun _ q5 => ?_;clear q4
    refine wpList_nil ?_
    go_upto_region 3 with fail
    refine wp_cond_true (q5.e (j := 6) rfl) ?_
    go_upto_region 3 with fail
    refine wp_region_lit ?_
    refine vcallP (want_none rfl) (ex_call rfl (by simp only [List.map_toArray, List.map_cons, List.map_nil, evc] <;> rfl) rfl) (sum19 [] none 0 w1 (nil_sl20 yB9 w1) (by decide)) rfl q5.z (by decide) ?_
    rintro e w2 ⟨rfl, b2⟩
    refine ⟨_, rfl, q5.k fun _ q6 => ?_⟩;clear q5
    have e9 : Value.agg ((sumF []).map bV).toArray = (sH []).val := rfl
    rw [e9] at q6
    have Bh2 := Bw1.later b2
    have z2 := b2.size
    obtain ⟨w3, hw3⟩ : ∃ y, y = w2.setCells w.heap.size 0 (sH []).cs := ⟨_, rfl⟩
    refine vs w3 (want_none rfl) (ex_st rfl (q6.e (j := 2) rfl) (q6.e (j := 8) rfl) (by rw [hw3]; exact Bh2.stH rfl _)) rfl ?_
    have Bw3 : BB w3 w.heap.size 24 (sH []).cs := by rw [hw3]; exact Bh2.putH rfl _
    have uw3 : Upd (fun k => k = w.heap.size) w2 w3 := by rw [hw3]; exact upd18 _ _ _ _
    clear hw3
    refine wpList_nil ?_
    go_wp2
    exact Bw3.res rfl (q6.a 2 rfl) Try.underlying24 rfl (by rw [Hs.len]; exact i32h) ⟨by rw [List.eq_nil_of_length_eq_zero (hln.trans h0), hd_0]; rfl, (bw1.trans (b2.mono (by omega))).trans (bel_ge uw3 (by omega) (Nat.le_refl _))⟩
  · refine q3.t (.bool false) (ex_bin (Y := .int .i64 (0 : Int)) rfl (q3.e (j := 5) rfl) rfl (eqF20 _ _ (by omega) _)) fun _ q4 => ?_;clear q3
    refine q4.t (.bool false) (ex_assign rfl (q4.e (j := 7) rfl)) fun _ q5 => ?_;clear q4
    refine wpList_nil ?_
    go_upto_region 4 with fail
    refine wp_cond_false (q5.e (j := 6) rfl) ?_
    go_upto_region 4 with fail
    refine wp_region_lit ?_
    by_cases h1 : n = 1
    · refine q5.t (.bool true) (ex_bin (Y := .int .i64 (1 : Int)) rfl (q5.e (j := 5) rfl) rfl (eqT20 _ _ (by omega) _)) fun _ q6 => ?_;clear q5
      refine q6.t (.bool true) (ex_assign rfl (q6.e (j := 10) rfl)) fun _ q7 => ?_;clear q6
      refine wpList_nil ?_
      go_upto_region 5 with fail
      refine wp_cond_true (q7.e (j := 9) rfl) ?_
      go_upto_region 5 with fail
      refine wp_region_lit ?_
      obtain ⟨x, rfl⟩ : ∃ x, L = [x] := List.length_eq_one_iff.1 (by omega)
      obtain ⟨q, o, rfl, hq, hl⟩ := (h.later bw1).place (by simp)
      refine q7.t (.slice (some ⟨q, o, none⟩) n c) (ex_move rfl (q7.e (j := 0) rfl)) fun _ q8 => ?_;clear q7
      refine q8.t (.pointer (some ⟨q, o + 0 * 32, none⟩)) (ex_ix (Y := .int .i64 ((0 : Nat) : Int)) rfl (q8.e (j := 11) rfl) rfl (ixH q o n c 0 (by omega) _)) fun _ q9 => ?_;clear q8
      refine q9.t (x.val) (ex_ld rfl (q9.e (j := 12) rfl) (ldH20 (x := x) hl (j := 0) rfl)) fun _ q10 => ?_;clear q9
      obtain ⟨w3, hw3⟩ : ∃ y, y = w1.setCells w.heap.size 0 (x).cs := ⟨_, rfl⟩
      refine vs w3 (want_none rfl) (ex_st rfl (q10.e (j := 2) rfl) (q10.e (j := 13) rfl) (by rw [hw3]; exact Bw1.stH rfl _)) rfl ?_
      have Bw3 : BB w3 w.heap.size 24 (x).cs := by rw [hw3]; exact Bw1.putH rfl _
      have uw3 : Upd (fun k => k = w.heap.size) w1 w3 := by rw [hw3]; exact upd18 _ _ _ _
      clear hw3
      refine wpList_nil ?_
      go_wp2
      exact Bw3.res rfl (q10.a 2 rfl) Try.underlying24 rfl (by rw [Hs.len]; exact i32h) ⟨by rw [hd_1]; rfl, bw1.trans (bel_ge uw3 (by omega) (Nat.le_refl _))⟩
    · refine q5.t (.bool false) (ex_bin (Y := .int .i64 (1 : Int)) rfl (q5.e (j := 5) rfl) rfl (eqF20 _ _ (by omega) _)) fun _ q6 => ?_;clear q5
      refine q6.t (.bool false) (ex_assign rfl (q6.e (j := 10) rfl)) fun _ q7 => ?_;clear q6
      refine wpList_nil ?_
      go_upto_region 6 with fail
      refine wp_cond_false (q7.e (j := 9) rfl) ?_
      go_upto_region 6 with fail
      refine wp_region_lit ?_
      refine q7.t (.slice a n c) (ex_move rfl (q7.e (j := 0) rfl)) fun _ q8 => ?_;clear q7
      refine q8.t (.int .i64 ((n : Nat) : Int)) (ex_lenG rfl rfl Try.underlying42 (q8.e (j := 14) rfl)) fun _ q9 => ?_;clear q8
      refine vcallP (want_none rfl) (ex_call rfl (by simp only [List.map_toArray, List.map_cons, List.map_nil, (q9.e (j := 15) rfl), evc] <;> rfl) rfl) (left20 n w1 (by omega) (by omega)) rfl q9.z (by decide) ?_
      rintro e w9 ⟨rfl, hw9⟩
      refine ⟨_, rfl, q9.k fun _ q10 => ?_⟩;clear q9
      have hw9 := hw9.symm
      subst hw9
      refine q10.t (.int .i64 ((lft n : Nat) : Int)) (ex_assign rfl (q10.e (j := 16) rfl)) fun _ q11 => ?_;clear q10
      refine wpList_nil ?_
      go_upto_region 7 with fail
      have hb := lft_b (n := n) (by omega)
      have hcap := h.cap
      obtain ⟨q, o, rfl, hq, hl⟩ := h.place (by rintro rfl; simp at hln; omega)
      refine vg_start (fun k => k == 9) (fun _ => True) (by kernel_rfl) ?_
      have hy0 : Below w1.heap.size w1 w1.drew := (Below.refl _ _).drew
      have hzy0 : w1.drew.heap.size = w1.heap.size := rfl
      generalize w1.drew = y0 at *
      have hS := (h.later bw1).later hy0
      have sT := hS.take (lft n) (by omega)
      have sF := hS.fromH (lft n) (by omega)
      refine vg_takeW 0 true (.slice (some ⟨q, o, none⟩) n c) rfl (by kernel_rfl) (by kernel_rfl) (by kernel_rfl) (by kernel_rfl) (want_none rfl) (fun hc v => ex_move rfl (q11.e (j := 0) rfl)) rfl q11.z (by decide) (fun _ => trivial) (q11.k fun _ q12 => ?_);clear q11
      refine vg_takeW 1 true (.int .i64 ((lft n : Nat) : Int)) rfl (by kernel_rfl) (by kernel_rfl) (by kernel_rfl) (by kernel_rfl) (want_none rfl) (fun hc v => ex_move rfl (q12.e (j := 3) rfl)) rfl q12.z (by decide) (fun _ => trivial) (q12.k fun _ q13 => ?_);clear q12
      refine vg_takeW 2 true (.slice (some ⟨q, o, none⟩) (lft n) c) rfl (by kernel_rfl) (by kernel_rfl) (by kernel_rfl) (by kernel_rfl) (want_none rfl) (fun hc v => ex_sl19 rfl (q13.e (j := 17) rfl) rfl (congrArg some (q13.e (j := 18) rfl)) rfl (slToH q o n c (lft n) (by omega) hcap _)) rfl q13.z (by decide) (fun _ => trivial) (q13.k fun _ q14 => ?_);clear q13
      refine vg_takeW 4 true (.slice (some ⟨q, o, none⟩) n c) rfl (by kernel_rfl) (by kernel_rfl) (by kernel_rfl) (by kernel_rfl) (want_none rfl) (fun hc v => ex_move rfl (q14.e (j := 0) rfl)) rfl q14.z (by decide) (fun _ => trivial) (q14.k fun _ q15 => ?_);clear q14
      refine vg_takeW 5 true (.int .i64 ((lft n : Nat) : Int)) rfl (by kernel_rfl) (by kernel_rfl) (by kernel_rfl) (by kernel_rfl) (want_none rfl) (fun hc v => ex_move rfl (q15.e (j := 3) rfl)) rfl q15.z (by decide) (fun _ => trivial) (q15.k fun _ q16 => ?_);clear q15
      refine vg_takeW 6 true (.slice (some (adH q o c (lft n))) (n - lft n) (c - lft n)) rfl (by kernel_rfl) (by kernel_rfl) (by kernel_rfl) (by kernel_rfl) (want_none rfl) (fun hc v => ex_sl19 rfl (q16.e (j := 21) rfl) (congrArg some (q16.e (j := 22) rfl)) rfl rfl (slFromH q o n c (lft n) (by omega) hcap _)) rfl q16.z (by decide) (fun _ => trivial) (q16.k fun _ q17 => ?_);clear q16
      refine vg_call 3 rfl (by kernel_rfl) (want_none rfl) (ex_call rfl (by simp only [List.map_toArray, List.map_cons, List.map_nil, (q17.e (j := 19) rfl), evc] <;> rfl) rfl) (ih _ _ _ _ y0 sT (by omega) (by omega)) rfl q17.z (by decide) ?_
      rintro e d1 ⟨rfl, b1⟩
      have z1 := b1.size
      have Bh1 := (Bw1.later hy0).later b1
      have sF1 := sF.later b1
      refine ⟨_, rfl, trivial, q17.k fun _ q18 => ?_⟩;clear q17
      refine vg_call 7 rfl (by kernel_rfl) (want_none rfl) (ex_call rfl (by simp only [List.map_toArray, List.map_cons, List.map_nil, (q18.e (j := 23) rfl), evc] <;> rfl) rfl) (ih _ _ _ _ d1 sF1 (by omega) (by omega)) rfl q18.z (by decide) ?_
      rintro e d2 ⟨rfl, b2⟩
      have z2 := b2.size
      have Bh2 := Bh1.later b2
      refine ⟨_, rfl, trivial, q18.k fun _ q19 => ?_⟩;clear q18
      refine vg_call 8 rfl (by kernel_rfl) (want_none rfl) (ex_call rfl (by simp only [List.map_toArray, List.map_cons, List.map_nil, (q19.e (j := 20) rfl), (q19.e (j := 24) rfl), evc] <;> rfl) rfl) (node20 _ _ d2) rfl q19.z (by decide) ?_
      rintro e d3 ⟨rfl, b3⟩
      have z3 := b3.size
      have Bh3 := Bh2.later b3
      have d6 : Below w.heap.size w d3 := (((bw1.trans (hy0.mono (by omega))).trans (b1.mono (by omega))).trans (b2.mono (by omega))).trans (b3.mono (by omega))
      refine ⟨_, rfl, trivial, q19.k fun _ q20 => ?_⟩;clear q19
      obtain ⟨d7, hd7⟩ : ∃ y, y = d3.setCells w.heap.size 0 (nd (hd (L.take (lft n))) (hd (L.drop (lft n)))).cs := ⟨_, rfl⟩
      refine vg_store 9 d7 rfl (by kernel_rfl) (by kernel_rfl) (want_none rfl) (ex_st rfl (q20.e (j := 2) rfl) (q20.e (j := 25) rfl) (by rw [hd7]; exact Bh3.stH rfl _)) rfl ?_
      have Bd7 : BB d7 w.heap.size 24 (nd (hd (L.take (lft n))) (hd (L.drop (lft n)))).cs := by rw [hd7]; exact Bh3.putH rfl _
      have ud7 : Upd (fun k => k = w.heap.size) d3 d7 := by rw [hd7]; exact upd18 _ _ _ _
      clear hd7
      refine vg_done (by kernel_rfl) ?_
      go_wp2
      exact Bd7.res rfl (q20.a 2 rfl) Try.underlying24 rfl (by rw [Hs.len]; exact i32h) ⟨by have := hd_2 L (by omega); rw [hln] at this; rw [this]; rfl, d6.trans (bel_ge ud7 d6.size (Nat.le_refl _))⟩
theorem headOf20 (L : List Hs) (a : Option Addr) (n c : Nat) (w : World) (h : SlY yH w a n c L) (hn : n ≤ 9000000000000000000) :
    Calls Try.prog 38 #[.slice a n c] w fun e w' => e = .returned (hd L).val ∧ Below w.heap.size w w' := by
  have H : ∀ m, ∀ (L : List Hs) (a : Option Addr) (n c : Nat) (w : World), SlY yH w a n c L → n < m → n ≤ 9000000000000000000 → Calls Try.prog 38 #[.slice a n c] w fun e w' => e = .returned (hd L).val ∧ Below w.heap.size w w' := by
    intro m
    induction m with
    | zero => intro L a n c w _ h; omega
    | succ m ih =>
      intro L a n c w h hm hn
      by_cases e : n = m
      · exact headOf_step m ih L a n c w h (by omega) hn
      · exact ih L a n c w h (by omega) hn
  exact H (n + 1) L a n c w h (by omega) hn
set_option maxRecDepth 100000 in
set_option maxHeartbeats 2000000 in
theorem head20 (l : List En) (a : Option Addr) (n c : Nat) (w : World) (h : SlY yE w a n c l) (hn : n ≤ 4398046511104) (hv : ∀ x ∈ l, x.o.v.size ≤ 140737488350000) :
    Calls Try.prog 11 #[.slice a n c] w fun e w' => e = .returned (hd (l.map lf)).val ∧ Below w.heap.size w w' := by
  go_enter Try.func11, Try.ntmps11
  go_upto_region 0 with fail
  refine wp_region_lit ?_
  refine vl_gen (fun T => Rp T 6 [(0, gw true (.slice a n c))]) ((Rp.nil rfl).cons rfl) (fun Z0 q0 => ?_)
  obtain ⟨w1, hw1⟩ : ∃ y, y = w.alloc (.cells (zH.cs).toArray 24) := ⟨_, rfl⟩
  refine vw (.pointer (some ⟨w.heap.size, 0, none⟩)) w1 (want_none rfl) (ex_al rfl (by rw [hw1]; exact alH _)) rfl q0.z (by decide) (q0.k fun _ q1 => ?_);clear q0
  have Bw1 : BB w1 w.heap.size 24 (zH.cs) := by rw [hw1]; exact BB.new _ _ _
  have bw1 : Below w.heap.size w w1 := by rw [hw1]; exact (Below.refl _ _).alloc (Nat.le_refl _) _
  have zw1 : w1.heap.size = w.heap.size + 1 := by rw [hw1]; exact World.size_alloc _ _
  clear hw1
  refine wpList_nil ?_
  go_upto_region 1 with fail
  refine wp_region_lit ?_
  refine q1.t (.slice a n c) (ex_move rfl (q1.e (j := 0) rfl)) fun _ q2 => ?_;clear q1
  refine vcallP (want_none rfl) (ex_call rfl (by simp only [List.map_toArray, List.map_cons, List.map_nil, (q2.e (j := 3) rfl), evc] <;> rfl) rfl) (leaves20 l a n c w1 (h.later bw1) hn hv) rfl q2.z (by decide) ?_
  rintro e w2 ⟨v2, rfl, o2, b2⟩
  refine ⟨_, rfl, q2.k fun _ q3 => ?_⟩;clear q2
  have z2 := b2.size
  obtain ⟨a2, c2, hv2, s2, _⟩ := o2.sl kH
  subst hv2
  have hll := h.len
  refine vcallP (want_none rfl) (ex_call rfl (by simp only [List.map_toArray, List.map_cons, List.map_nil, (q3.e (j := 4) rfl), evc] <;> rfl) rfl) (headOf20 _ _ _ _ w2 s2 (by rw [List.length_map]; omega)) rfl q3.z (by decide) ?_
  rintro e w3 ⟨rfl, b3⟩
  refine ⟨_, rfl, q3.k fun _ q4 => ?_⟩;clear q3
  have z3 := b3.size
  have Bh3 := (Bw1.later b2).later b3
  obtain ⟨w4, hw4⟩ : ∃ y, y = w3.setCells w.heap.size 0 (hd (l.map lf)).cs := ⟨_, rfl⟩
  refine vs w4 (want_none rfl) (ex_st rfl (q4.e (j := 2) rfl) (q4.e (j := 5) rfl) (by rw [hw4]; exact Bh3.stH rfl _)) rfl ?_
  have Bw4 : BB w4 w.heap.size 24 (hd (l.map lf)).cs := by rw [hw4]; exact Bh3.putH rfl _
  have uw4 : Upd (fun k => k = w.heap.size) w3 w4 := by rw [hw4]; exact upd18 _ _ _ _
  clear hw4
  refine wpList_nil ?_
  go_wp2
  exact Bw4.res rfl (q4.a 2 rfl) Try.underlying24 rfl (by rw [Hs.len]; exact i32h) ⟨rfl, ((bw1.trans (b2.mono (by omega))).trans (b3.mono (by omega))).trans (bel_ge uw4 (by omega) (Nat.le_refl _))⟩

end Go.Proofs.Ytaagmdkhjmonnaa
