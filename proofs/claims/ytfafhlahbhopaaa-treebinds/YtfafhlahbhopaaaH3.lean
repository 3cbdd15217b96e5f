import Derived.Great.BuildSlice
import Derived.Test.YtfafhlahbhopaaaH2
set_option maxRecDepth 100000
set_option linter.unusedVariables false
set_option linter.unusedSimpArgs false
namespace Go.Proofs.Ytfafhlahbhopaaa
open Go.RowKit Go.Maps
open Classical
theorem eqT20 (x y : Operand) {a b : Int} (h : a = b) (w : World) : (do eqGuard .eql 3 x y (.int .i64 a) (.int .i64 b); binOp .eql 3 (.int .i64 a) (.int .i64 b) : Sem Value).run Try.prog w = .ok (.bool true) w := by
  go_simp
  first | done | simp [h] | omega
theorem eqF20 (x y : Operand) {a b : Int} (h : ¬ a = b) (w : World) : (do eqGuard .eql 3 x y (.int .i64 a) (.int .i64 b); binOp .eql 3 (.int .i64 a) (.int .i64 b) : Sem Value).run Try.prog w = .ok (.bool false) w := by
  go_simp
  first | done | simp [h] | omega
theorem neT20 (x y : Operand) {a b : Int} (h : ¬ a = b) (w : World) : (do eqGuard .neq 3 x y (.int .i64 a) (.int .i64 b); binOp .neq 3 (.int .i64 a) (.int .i64 b) : Sem Value).run Try.prog w = .ok (.bool true) w := by
  go_simp
  first | done | simp [h] | omega
theorem neF20 (x y : Operand) {a b : Int} (h : a = b) (w : World) : (do eqGuard .neq 3 x y (.int .i64 a) (.int .i64 b); binOp .neq 3 (.int .i64 a) (.int .i64 b) : Sem Value).run Try.prog w = .ok (.bool false) w := by
  go_simp
  first | done | simp [h] | omega
theorem leT20 (x y : Operand) {a b : Int} (h : a ≤ b) (w : World) : (do eqGuard .leq 3 x y (.int .i64 a) (.int .i64 b); binOp .leq 3 (.int .i64 a) (.int .i64 b) : Sem Value).run Try.prog w = .ok (.bool true) w := by
  go_simp
  first | done | simp [h] | omega
theorem leF20 (x y : Operand) {a b : Int} (h : ¬ a ≤ b) (w : World) : (do eqGuard .leq 3 x y (.int .i64 a) (.int .i64 b); binOp .leq 3 (.int .i64 a) (.int .i64 b) : Sem Value).run Try.prog w = .ok (.bool false) w := by
  go_simp
  first | done | simp [h] | omega
theorem ltT20 (x y : Operand) {a b : Int} (h : a < b) (w : World) : (do eqGuard .lss 3 x y (.int .i64 a) (.int .i64 b); binOp .lss 3 (.int .i64 a) (.int .i64 b) : Sem Value).run Try.prog w = .ok (.bool true) w := by
  go_simp
  first | done | simp [h] | omega
theorem ltF20 (x y : Operand) {a b : Int} (h : ¬ a < b) (w : World) : (do eqGuard .lss 3 x y (.int .i64 a) (.int .i64 b); binOp .lss 3 (.int .i64 a) (.int .i64 b) : Sem Value).run Try.prog w = .ok (.bool false) w := by
  go_simp
  first | done | simp [h] | omega
theorem gtT20 (x y : Operand) {a b : Int} (h : b < a) (w : World) : (do eqGuard .gtr 3 x y (.int .i64 a) (.int .i64 b); binOp .gtr 3 (.int .i64 a) (.int .i64 b) : Sem Value).run Try.prog w = .ok (.bool true) w := by
  go_simp
  first | done | simp [h] | omega
theorem gtF20 (x y : Operand) {a b : Int} (h : ¬ b < a) (w : World) : (do eqGuard .gtr 3 x y (.int .i64 a) (.int .i64 b); binOp .gtr 3 (.int .i64 a) (.int .i64 b) : Sem Value).run Try.prog w = .ok (.bool false) w := by
  go_simp
  first | done | simp [h] | omega
def adH (q o c k : Nat) : Addr := if c = k then ⟨q, o, none⟩ else ⟨q, o + k * 32, none⟩
theorem slFromH (q o n c k : Nat) (h1 : k ≤ n) (h2 : n ≤ c) (w : World) : (Instr.sliceAt 42 (.slice (some ⟨q, o, none⟩) n c) (some (.int .i64 (k : Int))) none none).run Try.prog w = .ok (.slice (some (adH q o c k)) (n - k) (c - k)) w := by
  have e1 : (0 : Int) ≤ (k : Int) := by omega
  have e2 : (k : Int) ≤ (n : Int) := by omega
  have e3 : (n : Int) ≤ (c : Int) := by omega
  unfold adH
  by_cases h : c = k
  · subst h
    go_simp
    first | done | simp
  · rw [if_neg h]
    go_simp
    first | done | simp [h]
theorem slToH (q o n c k : Nat) (h1 : k ≤ n) (h2 : n ≤ c) (w : World) : (Instr.sliceAt 42 (.slice (some ⟨q, o, none⟩) n c) none (some (.int .i64 (k : Int))) none).run Try.prog w = .ok (.slice (some ⟨q, o, none⟩) k c) w := by
  have e1 : (0 : Int) ≤ (k : Int) := by omega
  have e2 : (k : Int) ≤ (c : Int) := by omega
  go_simp
theorem ixH (q o n c j : Nat) (hj : j < n) (w : World) : (Instr.indexAt 42 (.slice (some ⟨q, o, none⟩) n c) (.int .i64 (j : Int))).run Try.prog w = .ok (.pointer (some ⟨q, o + j * 32, none⟩)) w := by
  have h1 : (j : Int) < (n : Int) := by omega
  go_simp
theorem ixH0 (q n c j : Nat) (hj : j < n) (w : World) : (Instr.indexAt 42 (.slice (some ⟨q, 0, none⟩) n c) (.int .i64 (j : Int))).run Try.prog w = .ok (.pointer (some ⟨q, j * 32, none⟩)) w := by
  have := ixH q 0 n c j hj w
  rw [Nat.zero_add] at this
  exact this
theorem ldH20 {w : World} {q o : Nat} {l : List Hs} (h : LieY yH w q o l) {j : Nat} {x : Hs} (hx : l[j]? = some x) : (Instr.loadAt 24 (.pointer (some ⟨q, o + j * 32, none⟩))).run Try.prog w = .ok x.val w :=
  run_loadAt_mid (P := Try.prog) w q (o + j * 32) 24 x.cs _ (fun k v hv => h j x hx k v hv) Try.underlying24 rfl (by rw [x.len]; exact i32h)
theorem ixE20 (q o n c j : Nat) (hj : j < n) (w : World) : (Instr.indexAt 22 (.slice (some ⟨q, o, none⟩) n c) (.int .i64 (j : Int))).run Try.prog w = .ok (.pointer (some ⟨q, o + j * 5, none⟩)) w := by
  have h1 : (j : Int) < (n : Int) := by omega
  go_simp
theorem ldEl20 {w : World} {q o : Nat} {l : List En} (h : LieY yE w q o l) {j : Nat} {x : En} (hx : l[j]? = some x) : (Instr.loadAt 28 (.pointer (some ⟨q, o + j * 5, none⟩))).run Try.prog w = .ok x.val20 w :=
  run_loadAt_mid (P := Try.prog) w q (o + j * 5) 28 x.cs _ (fun k v hv => h j x hx k v hv) Try.underlying28 rfl i5e20
theorem alE20 (w : World) : (Instr.alloc 28 true (.tuple #[])).run Try.prog w = .ok (.pointer (some ⟨w.heap.size, 0, none⟩)) (w.alloc (.cells yE.z.cs.toArray 28)) := by kernel_rfl
theorem oneE20 (x : En) : x.cs.toArray.all (·.oneCell') = true := by
  rw [Array.all_eq_true_iff_forall_mem]
  intro u hu
  simp only [En.cs, List.mem_toArray, List.mem_cons, List.not_mem_nil, or_false] at hu
  rcases hu with rfl | rfl | rfl | rfl | rfl <;> rfl
theorem BB.stE20 {w : World} {q : Nat} {T : TypeId} {y : En} (h : BB w q T y.cs) (x : En) : (Instr.storeAt 28 (.pointer (some ⟨q, 0, none⟩)) x.val20).run Try.prog w = .ok () (w.setCells q 0 x.cs) := h.st 28 x.cs rfl i5e20 (oneE20 x)
theorem SlY.from20 {α : Type} {Y : Lay α} {w : World} {q o n c : Nat} {D : List α} (h : SlY Y w (some ⟨q, o, none⟩) n c D) (k : Nat) (hk : k ≤ n) : SlY Y w (some (if c = k then ⟨q, o, none⟩ else ⟨q, o + k * Y.k, none⟩)) (n - k) (c - k) (D.drop k) := by
  refine ⟨by rw [List.length_drop, h.len], by have := h.cap; omega, by have := h.max; omega, (fun e => by cases e), fun x hx => ?_⟩
  obtain rfl := Option.some.inj hx
  by_cases hd : D.drop k = []
  · exact .inl hd
  · refine .inr ?_
    have hlt : k < D.length := by
      rcases Nat.lt_or_ge k D.length with h2 | h2
      · exact h2
      · exact absurd (List.drop_eq_nil_of_le h2) hd
    obtain ⟨q', o', e, hq, hl⟩ := h.place (by rintro rfl; simp at hlt)
    obtain ⟨rfl, rfl⟩ : q = q' ∧ o = o' := by simpa using e
    have hne : ¬ c = k := by have := h.cap; have := h.len; omega
    refine ⟨q, o + k * Y.k, by rw [if_neg hne], hq, fun i y hy j v hv => ?_⟩
    rw [List.getElem?_drop] at hy
    have := hl (k + i) y hy j v hv
    rw [show o + (k + i) * Y.k + j = o + k * Y.k + i * Y.k + j by rw [Nat.add_mul]; omega] at this
    exact this
theorem SlY.fromH {w : World} {q o n c : Nat} {D : List Hs} (h : SlY yH w (some ⟨q, o, none⟩) n c D) (k : Nat) (hk : k ≤ n) : SlY yH w (some (adH q o c k)) (n - k) (c - k) (D.drop k) := h.from20 k hk
theorem run_stY {α : Type} {Y : Lay α} (K : Y.Ok) (w : World) (ty : TypeId) (B g n c : Nat) (l : List α) (i : Nat) (e' : α) (v : Value) (hlt : i < l.length) (hi : (Try.prog.info? ty).map (·.size) = some v.cells.size) (hc : Y.cs e' = v.cells.toList) (hown : OwnY Y B w (.slice (some ⟨g, 0, none⟩) n c) l) :
    ∃ w', (Instr.storeAt ty (.pointer (some ⟨g, i * Y.k, none⟩)) v).run Try.prog w = .ok () w' ∧ OwnY Y B w' (.slice (some ⟨g, 0, none⟩) n c) (l.set i e') ∧ Upd (fun b => b = g) w w' ∧ w'.heap.size = w.heap.size := by
  rcases hown with ⟨h0, h1 | ⟨g1, cap, cur, e1, e2, e3, e4, e5, e6, e7⟩⟩
  · have := h1.1; cases this
  · injection e1 with q1 q2 q3
    injection q1 with q1
    cases q1
    subst q3
    have hsz : l.length * Y.k ≤ cur.size := by rw [e6]; exact Nat.mul_le_mul_right _ e4
    have hlen : v.cells.toList.length = v.cells.size := by simp
    have hk : v.cells.toList.length = Y.k := by rw [← hc, K.len]
    have hfit : i * Y.k + v.cells.toList.length ≤ l.length * Y.k := by
      have : (i + 1) * Y.k ≤ l.length * Y.k := Nat.mul_le_mul_right _ hlt
      rw [Nat.add_mul] at this
      omega
    have hrun := run_storeCells_at (P := Try.prog) g (i * Y.k) Y.T v.cells.toList 0 cur w e3 (by omega) (fun u hu => K.one e' u (by rw [hc]; exact hu))
    rw [Nat.add_zero] at hrun
    have hst : (Instr.storeAt ty (.pointer (some ⟨g, i * Y.k, none⟩)) v).run Try.prog w = .ok () (w.setRow g (cur.toList.take (i * Y.k) ++ v.cells.toList ++ cur.toList.drop (i * Y.k + v.cells.toList.length)).toArray) := by
      cases hq : Try.prog.info? ty with
      | none => rw [hq] at hi; cases hi
      | some t =>
        have hs : v.cells.size = t.size := by simp [hq] at hi; omega
        simp [Instr.storeAt, Instr.sureAddr, storeVar, sizeOf, typeInfo, hq, hs]
        rw [← hs]
        simpa using hrun
    refine ⟨_, hst, ?_, ⟨rfl, rfl, rfl, by simp, fun b hb hs => setRow_other w g b _ hs⟩, by simp⟩
    refine ⟨by rw [fl_length K], .inr ⟨g, c, _, ?_, e2, setRow_heap w g cur _ Y.T (0, 0) e3, ?_, e5, ?_, ?_⟩⟩
    · rw [List.length_set, ← q2]
    · rw [List.length_set]; exact e4
    · rw [List.size_toArray, ← e6]
      simp only [List.length_append, List.length_take, List.length_drop, Array.length_toList]
      omega
    · have he : l[i]? = some l[i] := List.getElem?_eq_getElem hlt
      have := fl_splice K (e' := e') (j := 0) he (xs := v.cells.toList) (by omega) (by rw [hc, List.take_zero, List.nil_append, Nat.zero_add, List.drop_of_length_le (by rw [K.len]; omega), List.append_nil])
      rw [Nat.add_zero] at this
      rw [List.length_set, this, ← e7]
      exact splice_take hfit
theorem run_stH (w : World) (B g n c : Nat) (l : List Hs) (i : Nat) (x : Hs) (hlt : i < l.length) (hown : OwnY yH B w (.slice (some ⟨g, 0, none⟩) n c) l) :
    ∃ w', (Instr.storeAt 24 (.pointer (some ⟨g, i * 32, none⟩)) x.val).run Try.prog w = .ok () w' ∧ OwnY yH B w' (.slice (some ⟨g, 0, none⟩) n c) (l.set i x) ∧ Upd (fun b => b = g) w w' ∧ w'.heap.size = w.heap.size :=
  run_stY kH w 24 B g n c l i x x.val hlt (by have := x.len; show _ = some x.cs.toArray.size; rw [List.size_toArray, this]; exact i32h) rfl hown
theorem mkH20 (n : Nat) (hn : n ≤ 4398046511104) (w : World) : ∃ w', (Instr.makeSlice 42 (.int .i64 (n : Int)) (.int .i64 (n : Int))).run Try.prog w = .ok (.slice (some ⟨w.heap.size, 0, none⟩) n n) w' ∧ OwnY yH w.heap.size w' (.slice (some ⟨w.heap.size, 0, none⟩) n n) (List.replicate n zH) ∧ Below w.heap.size w w' := by
  obtain ⟨zv, hinfo, hzc⟩ := kH.info
  obtain ⟨i0, hi, hz0, hz1, hz2⟩ := info_parts hinfo
  have hr := run_make (P := Try.prog) w yH.ST yH.T i0 zv kH.und hi hz0 .i64 .i64 n n (by omega) (Int.le_refl _) (room_int hz2 (by show n * 32 ≤ _; omega)) (by omega)
  rw [Int.toNat_natCast, hz1] at hr
  refine ⟨_, hr, ?_, (Below.refl _ _).alloc (Nat.le_refl _) _⟩
  unfold OwnY at *
  rw [List.length_replicate, show List.replicate n zH = List.replicate n yH.z from rfl, ← madeY kH hzc]
  exact World.ownsRow_lit w _ n (Nat.le_refl _) (by unfold maxLen; omega) (size_madeCells _ _)
def lvs (l : List En) (j : Nat) : List Hs := (l.take j).map lf ++ List.replicate (l.length - j) zH
theorem lvs_0 (l : List En) : lvs l 0 = List.replicate l.length zH := by simp [lvs]
theorem lvs_n (l : List En) : lvs l l.length = l.map lf := by simp [lvs]
theorem lvs_len (l : List En) (j : Nat) (hj : j ≤ l.length) : (lvs l j).length = l.length := by simp [lvs]; omega
theorem lvs_set {l : List En} {j : Nat} {x : En} (hx : l[j]? = some x) : (lvs l j).set j (lf x) = lvs l (j + 1) := by
  obtain ⟨hj, rfl⟩ := List.getElem?_eq_some_iff.1 hx
  unfold lvs
  have e : l.length - j = (l.length - (j + 1)) + 1 := by omega
  rw [List.set_append, if_neg (by rw [List.length_map, List.length_take]; omega), List.length_map, List.length_take, Nat.min_eq_left (by omega), Nat.sub_self, e, List.replicate_succ, List.set_cons_zero, List.take_succ_eq_append_getElem hj, List.map_append, List.append_assoc]
  rfl
set_option maxHeartbeats 2000000 in
theorem leaves20 (l : List En) (a : Option Addr) (n c : Nat) (w : World) (h : SlY yE w a n c l) (hn : n ≤ 4398046511104) (hv : ∀ x ∈ l, x.o.v.size ≤ 140737488352232) :
    Calls Try.prog 37 #[.slice a n c] w fun e w' => ∃ v, e = .returned v ∧ OwnY yH w.heap.size w' v (l.map lf) ∧ Below w.heap.size w w' := by
  go_enter Try.func37, Try.ntmps37
  go_upto_region 0 with fail
  refine wp_region_lit ?_
  refine vl_gen (fun T => Rp T 23 [(0, gw true (.slice a n c))]) ((Rp.nil rfl).cons rfl) (fun Z0 q0 => ?_)
  refine q0.t (.slice none 0 0) (ex_assign rfl rfl) fun _ q1 => ?_;clear q0
  refine wpList_nil ?_
  go_upto_region 1 with fail
  refine wp_region_lit ?_
  refine q1.t (.slice a n c) (ex_move rfl (q1.e (j := 0) rfl)) fun _ q2 => ?_;clear q1
  refine q2.t (.int .i64 ((n : Nat) : Int)) (ex_lenG rfl rfl Try.underlying22 (q2.e (j := 6) rfl)) fun _ q3 => ?_;clear q2
  obtain ⟨w1, hm1, O1, b1⟩ := mkH20 n (by omega) w
  have hln := h.len
  refine vw (.slice (some ⟨w.heap.size, 0, none⟩) n n) w1 (want_none rfl) (ex_mk19 rfl (q3.e (j := 7) rfl) (q3.e (j := 7) rfl) hm1) rfl q3.z (by decide) (q3.k fun _ q4 => ?_);clear q3
  refine q4.t (.slice (some ⟨w.heap.size, 0, none⟩) n n) (ex_assign rfl (q4.e (j := 8) rfl)) fun _ q5 => ?_;clear q4
  refine wpList_nil ?_
  go_upto_region 2 with fail
  refine wp_region_lit ?_
  refine q5.t (.slice a n c) (ex_move rfl (q5.e (j := 0) rfl)) fun _ q6 => ?_;clear q5
  refine q6.t (.int .i64 ((n : Nat) : Int)) (ex_lenG rfl rfl Try.underlying22 (q6.e (j := 9) rfl)) fun _ q7 => ?_;clear q6
  refine q7.t (.int .i64 ((0 : Nat) : Int)) (ex_move rfl rfl) fun _ q8 => ?_;clear q7
  have q9 := (((((Rp.nil q8.z).cons (q8.a 3 rfl)).cons (q8.a 9 rfl)).cons (q8.a 10 rfl)).cons (q8.a 11 rfl))
  clear q8
  refine wpList_nil ?_
  go_upto_region 3 with fail
  refine v_loop 11 n (fun j T wr => Rp T 23 [(11, gw true (.int .i64 ((j : Nat) : Int))), (10, gw true (.int .i64 ((n : Nat) : Int))), (9, gw true (.slice a n c)), (3, gw true (.slice (some ⟨w.heap.size, 0, none⟩) n n))] ∧ Hid (OwnY yH w.heap.size wr (.slice (some ⟨w.heap.size, 0, none⟩) n n) (lvs l j) ∧ Below w.heap.size w wr)) (fun j T w h => h.1.a 11 rfl) ⟨q9, (by rw [lvs_0, hln]; exact O1), b1⟩ ?_
  clear q9 O1 b1 hm1
  intro j T wr hj hh
  obtain ⟨q100, HJ⟩ := hh
  obtain ⟨OW, br⟩ := HJ.out
  clear HJ
  by_cases hit : j < n
  · go_upto_region 3 with fail
    refine wp_region_lit ?_
    refine q100.t (.bool true) (ex_bin rfl (q100.e (j := 11) rfl) (q100.e (j := 10) rfl) (ltT _ _ hit _)) fun _ q101 => ?_;clear q100
    refine wpList_nil ?_
    go_upto_region 4 with fail
    refine wp_cond_true (q101.e (j := 12) rfl) ?_
    go_upto_region 4 with fail
    refine wp_region_lit ?_
    obtain ⟨x, hx⟩ : ∃ x, l[j]? = some x := ⟨_, List.getElem?_eq_getElem (by omega)⟩
    obtain ⟨qa, oa, rfl, hqa, hla⟩ := h.place (by rintro rfl; simp at hx)
    have hvx := hv x (List.mem_of_getElem? hx)
    have hsz := br.size
    refine q101.t (.int .i64 ((j : Nat) : Int)) (ex_move rfl (q101.e (j := 11) rfl)) fun _ q102 => ?_;clear q101
    refine q102.t (.pointer (some ⟨qa, oa + j * 5, none⟩)) (ex_ix rfl (q102.e (j := 9) rfl) (q102.e (j := 11) rfl) (ixE20 qa oa n c j hit _)) fun _ q103 => ?_;clear q102
    refine q103.t (x.val20) (ex_ld rfl (q103.e (j := 14) rfl) (ldEl20 (hla.upd (S := fun _ => False) (Upd.of_below br) hqa id) hx)) fun _ q104 => ?_;clear q103
    obtain ⟨w2, hw2⟩ : ∃ y, y = wr.alloc (.cells (yE.z.cs).toArray 28) := ⟨_, rfl⟩
    refine vw (.pointer (some ⟨wr.heap.size, 0, none⟩)) w2 (want_none rfl) (ex_al rfl (by rw [hw2]; exact alE20 _)) rfl q104.z (by decide) (q104.k fun _ q105 => ?_);clear q104
    have Bw2 : BB w2 wr.heap.size 28 (yE.z.cs) := by rw [hw2]; exact BB.new _ _ _
    have bw2 : Below wr.heap.size wr w2 := by rw [hw2]; exact (Below.refl _ _).alloc (Nat.le_refl _) _
    have zw2 : w2.heap.size = wr.heap.size + 1 := by rw [hw2]; exact World.size_alloc _ _
    clear hw2
    refine q105.t (.int .i64 ((j : Nat) : Int)) (ex_assign rfl (q105.e (j := 13) rfl)) fun _ q106 => ?_;clear q105
    obtain ⟨w3, hw3⟩ : ∃ y, y = w2.setCells wr.heap.size 0 x.cs := ⟨_, rfl⟩
    refine vs w3 (want_none rfl) (ex_st rfl (q106.e (j := 5) rfl) (q106.e (j := 15) rfl) (by rw [hw3]; exact Bw2.stE20 x)) rfl ?_
    have B3 : BB w3 wr.heap.size 28 x.cs := by rw [hw3]; exact Bw2.whole _ rfl
    have u3 : Upd (fun k => k = wr.heap.size) w2 w3 := by rw [hw3]; exact upd18 _ _ _ _
    clear hw3
    have b3 : Below wr.heap.size wr w3 := bw2.trans (bel_ge u3 (by omega) (Nat.le_refl _))
    have O3 := OW.grow b3
    refine wpList_nil ?_
    go_upto_region 5 with fail
    refine wp_region_lit ?_
    refine q106.t (.slice (some ⟨w.heap.size, 0, none⟩) n n) (ex_move rfl (q106.e (j := 3) rfl)) fun _ q107 => ?_;clear q106
    refine q107.t (.int .i64 ((j : Nat) : Int)) (ex_move rfl (q107.e (j := 4) rfl)) fun _ q108 => ?_;clear q107
    refine q108.t (x.val20) (ex_ld rfl (q108.e (j := 5) rfl) B3.ldE20) fun _ q109 => ?_;clear q108
    refine vcallP (want_none rfl) (ex_call rfl (by simp only [List.map_toArray, List.map_cons, List.map_nil, (q109.e (j := 18) rfl), evc] <;> rfl) rfl) (leaf20 x w3 hvx) rfl q109.z (by decide) ?_
    rintro e w4 ⟨rfl, b4⟩
    refine ⟨_, rfl, q109.k fun _ q110 => ?_⟩;clear q109
    have O4 := O3.grow b4
    have hz4 := b4.size
    have hz3 := b3.size
    obtain ⟨w5, hs5, O5, u5, z5⟩ := run_stH w4 w.heap.size w.heap.size n n (lvs l j) j (lf x) (by rw [lvs_len l j (by omega)]; omega) O4
    rw [lvs_set hx] at O5
    have d5 : Below w.heap.size w w5 := ((br.trans (b3.mono hsz)).trans (b4.mono (by omega))).trans (bel_ge u5 (by omega) (Nat.le_refl _))
    refine q110.t (.pointer (some ⟨w.heap.size, j * 32, none⟩)) (ex_ix rfl (q110.e (j := 16) rfl) (q110.e (j := 17) rfl) (ixH0 _ n n j hit _)) fun _ q111 => ?_;clear q110
    refine vs w5 (want_none rfl) (ex_st rfl (q111.e (j := 20) rfl) (q111.e (j := 19) rfl) hs5) rfl ?_
    refine wpList_nil ?_
    go_upto_region 6 with fail
    refine wp_region_lit ?_
    refine q111.t (.int .i64 ((j + 1 : Nat) : Int)) (ex_bin rfl (q111.e (j := 11) rfl) rfl (add1C _ _ j (by omega) _)) fun _ q112 => ?_;clear q111
    refine q112.t (.int .i64 ((j + 1 : Nat) : Int)) (ex_move rfl (q112.e (j := 21) rfl)) fun _ q113 => ?_;clear q112
    have q114 := (((((Rp.nil q113.z).cons (q113.a 3 rfl)).cons (q113.a 9 rfl)).cons (q113.a 10 rfl)).cons (q113.a 11 rfl))
    clear q113
    refine wpList_nil ?_
    exact ⟨_, rfl, hit, q114, O5, d5⟩
  · obtain rfl : j = n := by omega
    rw [← hln, lvs_n] at OW
    rw [hln] at OW
    go_upto_region 3 with fail
    refine wp_region_lit ?_
    refine q100.t (.bool false) (ex_bin rfl (q100.e (j := 11) rfl) (q100.e (j := 10) rfl) (ltF _ _ hit _)) fun _ q101 => ?_;clear q100
    refine wpList_nil ?_
    go_upto_region 7 with fail
    refine wp_cond_false (q101.e (j := 12) rfl) ?_
    go_upto_region 7 with fail
    refine wp_region_lit ?_
    refine q101.t (.slice (some ⟨w.heap.size, 0, none⟩) j j) (ex_move rfl (q101.e (j := 3) rfl)) fun _ q102 => ?_;clear q101
    refine q102.t (.slice (some ⟨w.heap.size, 0, none⟩) j j) (ex_assign rfl (q102.e (j := 22) rfl)) fun _ q103 => ?_;clear q102
    refine wpList_nil ?_
    go_wp2
    refine bodyPost_ret (results_tmp rfl _ _ _) rfl ?_
    rw [getD_of (q103.a 2 rfl)]
    exact ⟨_, rfl, OW, br⟩
theorem nil_sl20 {α : Type} (Y : Lay α) (w : World) : SlY Y w none 0 0 [] := ⟨rfl, Nat.le_refl _, by unfold maxLen; omega, fun _ => ⟨rfl, rfl⟩, fun x hx => by cases hx⟩
set_option maxHeartbeats 2000000 in
theorem headOf_step (m : Nat) (ih : ∀ (L : List Hs) (a : Option Addr) (n c : Nat) (w : World), SlY yH w a n c L → n < m → n ≤ 9000000000000000000 → Calls Try.prog 36 #[.slice a n c] w fun e w' => e = .returned (hd L).val ∧ Below w.heap.size w w') (L : List Hs) (a : Option Addr) (n c : Nat) (w : World) (h : SlY yH w a n c L) (hm : n ≤ m) (hn : n ≤ 9000000000000000000) :
    Calls Try.prog 36 #[.slice a n c] w fun e w' => e = .returned (hd L).val ∧ Below w.heap.size w w' := by
  go_enter Try.func36, Try.ntmps36
  go_upto_region 0 with fail
  refine wp_region_lit ?_
  refine vl_gen (fun T => Rp T 26 [(0, gw true (.slice a n c))]) ((Rp.nil rfl).cons rfl) (fun Z0 q0 => ?_)
  have hln := h.len
  obtain ⟨w1, hw1⟩ : ∃ y, y = w.alloc (.cells (zH.cs).toArray 24) := ⟨_, rfl⟩
  refine vw (.pointer (some ⟨w.heap.size, 0, none⟩)) w1 (want_none rfl) (ex_al rfl (by rw [hw1]; exact alH _)) rfl q0.z (by decide) (q0.k fun _ q1 => ?_);clear q0
  have Bw1 : BB w1 w.heap.size 24 (zH.cs) := by rw [hw1]; exact BB.new _ _ _
  have bw1 : Below w.heap.size w w1 := by rw [hw1]; exact (Below.refl _ _).alloc (Nat.le_refl _) _
  have zw1 : w1.heap.size = w.heap.size + 1 := by rw [hw1]; exact World.size_alloc _ _
  clear hw1
  refine wpList_nil ?_
  go_upto_region 1 with fail
  refine wp_region_lit ?_
  refine q1.t (.slice a n c) (ex_move rfl (q1.e (j := 0) rfl)) fun _ q2 => ?_;clear q1
  refine q2.t (.int .i64 ((n : Nat) : Int)) (ex_lenG rfl rfl Try.underlying42 (q2.e (j := 4) rfl)) fun _ q3 => ?_;clear q2
  refine wpList_nil ?_
  go_upto_region 2 with fail
  refine wp_region_lit ?_
  by_cases h0 : n = 0
  · refine q3.t (.bool true) (ex_bin (Y := .int .i64 (0 : Int)) rfl (q3.e (j := 5) rfl) rfl (eqT20 _ _ (by omega) _)) fun _ q4 => ?_;clear q3
    refine q4.t (.bool true) (ex_assign rfl (q4.e (j := 7) rfl)) fun _ q5 => ?_;clear q4
    refine wpList_nil ?_
    go_upto_region 3 with fail
    refine wp_cond_true (q5.e (j := 6) rfl) ?_
    go_upto_region 3 with fail
    refine wp_region_lit ?_
    refine vcallP (want_none rfl) (ex_call rfl (by simp only [List.map_toArray, List.map_cons, List.map_nil, evc] <;> rfl) rfl) (sum19 [] none 0 w1 (nil_sl20 yB9 w1) (by decide)) rfl q5.z (by decide) ?_
    rintro e w2 ⟨rfl, b2⟩
    refine ⟨_, rfl, q5.k fun _ q6 => ?_⟩;clear q5
    have e9 : Value.agg ((sumF []).map bV).toArray = (sH []).val := rfl
    rw [e9] at q6
    have Bh2 := Bw1.later b2
    have z2 := b2.size
    obtain ⟨w3, hw3⟩ : ∃ y, y = w2.setCells w.heap.size 0 (sH []).cs := ⟨_, rfl⟩
    refine vs w3 (want_none rfl) (ex_st rfl (q6.e (j := 2) rfl) (q6.e (j := 8) rfl) (by rw [hw3]; exact Bh2.stH rfl _)) rfl ?_
    have Bw3 : BB w3 w.heap.size 24 (sH []).cs := by rw [hw3]; exact Bh2.putH rfl _
    have uw3 : Upd (fun k => k = w.heap.size) w2 w3 := by rw [hw3]; exact upd18 _ _ _ _
    clear hw3
    refine wpList_nil ?_
    go_wp2
    exact Bw3.res rfl (q6.a 2 rfl) Try.underlying24 rfl (by rw [Hs.len]; exact i32h) ⟨by rw [List.eq_nil_of_length_eq_zero (hln.trans h0), hd_0]; rfl, (bw1.trans (b2.mono (by omega))).trans (bel_ge uw3 (by omega) (Nat.le_refl _))⟩
  · refine q3.t (.bool false) (ex_bin (Y := .int .i64 (0 : Int)) rfl (q3.e (j := 5) rfl) rfl (eqF20 _ _ (by omega) _)) fun _ q4 => ?_;clear q3
    refine q4.t (.bool false) (ex_assign rfl (q4.e (j := 7) rfl)) fun _ q5 => ?_;clear q4
    refine wpList_nil ?_
    go_upto_region 4 with fail
    refine wp_cond_false (q5.e (j := 6) rfl) ?_
    go_upto_region 4 with fail
    refine wp_region_lit ?_
    by_cases h1 : n = 1
    · refine q5.t (.bool true) (ex_bin (Y := .int .i64 (1 : Int)) rfl (q5.e (j := 5) rfl) rfl (eqT20 _ _ (by omega) _)) fun _ q6 => ?_;clear q5
      refine q6.t (.bool true) (ex_assign rfl (q6.e (j := 10) rfl)) fun _ q7 => ?_;clear q6
      refine wpList_nil ?_
      go_upto_region 5 with fail
      refine wp_cond_true (q7.e (j := 9) rfl) ?_
      go_upto_region 5 with fail
      refine wp_region_lit ?_
      obtain ⟨x, rfl⟩ : ∃ x, L = [x] := List.length_eq_one_iff.1 (by omega)
      obtain ⟨q, o, rfl, hq, hl⟩ := (h.later bw1).place (by simp)
      refine q7.t (.slice (some ⟨q, o, none⟩) n c) (ex_move rfl (q7.e (j := 0) rfl)) fun _ q8 => ?_;clear q7
      refine q8.t (.pointer (some ⟨q, o + 0 * 32, none⟩)) (ex_ix (Y := .int .i64 ((0 : Nat) : Int)) rfl (q8.e (j := 11) rfl) rfl (ixH q o n c 0 (by omega) _)) fun _ q9 => ?_;clear q8
      refine q9.t (x.val) (ex_ld rfl (q9.e (j := 12) rfl) (ldH20 (x := x) hl (j := 0) rfl)) fun _ q10 => ?_;clear q9
      obtain ⟨w3, hw3⟩ : ∃ y, y = w1.setCells w.heap.size 0 (x).cs := ⟨_, rfl⟩
      refine vs w3 (want_none rfl) (ex_st rfl (q10.e (j := 2) rfl) (q10.e (j := 13) rfl) (by rw [hw3]; exact Bw1.stH rfl _)) rfl ?_
      have Bw3 : BB w3 w.heap.size 24 (x).cs := by rw [hw3]; exact Bw1.putH rfl _
      have uw3 : Upd (fun k => k = w.heap.size) w1 w3 := by rw [hw3]; exact upd18 _ _ _ _
      clear hw3
      refine wpList_nil ?_
      go_wp2
      exact Bw3.res rfl (q10.a 2 rfl) Try.underlying24 rfl (by rw [Hs.len]; exact i32h) ⟨by rw [hd_1]; rfl, bw1.trans (bel_ge uw3 (by omega) (Nat.le_refl _))⟩
    · refine q5.t (.bool false) (ex_bin (Y := .int .i64 (1 : Int)) rfl (q5.e (j := 5) rfl) rfl (eqF20 _ _ (by omega) _)) fun _ q6 => ?_;clear q5
      refine q6.t (.bool false) (ex_assign rfl (q6.e (j := 10) rfl)) fun _ q7 => ?_;clear q6
      refine wpList_nil ?_
      go_upto_region 6 with fail
      refine wp_cond_false (q7.e (j := 9) rfl) ?_
      go_upto_region 6 with fail
      refine wp_region_lit ?_
      refine q7.t (.slice a n c) (ex_move rfl (q7.e (j := 0) rfl)) fun _ q8 => ?_;clear q7
      refine q8.t (.int .i64 ((n : Nat) : Int)) (ex_lenG rfl rfl Try.underlying42 (q8.e (j := 14) rfl)) fun _ q9 => ?_;clear q8
      refine vcallP (want_none rfl) (ex_call rfl (by simp only [List.map_toArray, List.map_cons, List.map_nil, (q9.e (j := 15) rfl), evc] <;> rfl) rfl) (left20 n w1 (by omega) (by omega)) rfl q9.z (by decide) ?_
      rintro e w9 ⟨rfl, hw9⟩
      refine ⟨_, rfl, q9.k fun _ q10 => ?_⟩;clear q9
      have hw9 := hw9.symm
      subst hw9
      refine q10.t (.int .i64 ((lft n : Nat) : Int)) (ex_assign rfl (q10.e (j := 16) rfl)) fun _ q11 => ?_;clear q10
      refine wpList_nil ?_
      go_upto_region 7 with fail
      have hb := lft_b (n := n) (by omega)
      have hcap := h.cap
      obtain ⟨q, o, rfl, hq, hl⟩ := h.place (by rintro rfl; simp at hln; omega)
      refine vg_start (fun k => k == 9) (fun _ => True) (by kernel_rfl) ?_
      have hy0 : Below w1.heap.size w1 w1.drew := (Below.refl _ _).drew
      have hzy0 : w1.drew.heap.size = w1.heap.size := rfl
      generalize w1.drew = y0 at *
      have hS := (h.later bw1).later hy0
      have sT := hS.take (lft n) (by omega)
      have sF := hS.fromH (lft n) (by omega)
      refine vg_takeW 0 true (.slice (some ⟨q, o, none⟩) n c) rfl (by kernel_rfl) (by kernel_rfl) (by kernel_rfl) (by kernel_rfl) (want_none rfl) (fun hc v => ex_move rfl (q11.e (j := 0) rfl)) rfl q11.z (by decide) (fun _ => trivial) (q11.k fun _ q12 => ?_);clear q11
      refine vg_takeW 1 true (.int .i64 ((lft n : Nat) : Int)) rfl (by kernel_rfl) (by kernel_rfl) (by kernel_rfl) (by kernel_rfl) (want_none rfl) (fun hc v => ex_move rfl (q12.e (j := 3) rfl)) rfl q12.z (by decide) (fun _ => trivial) (q12.k fun _ q13 => ?_);clear q12
      refine vg_takeW 2 true (.slice (some ⟨q, o, none⟩) (lft n) c) rfl (by kernel_rfl) (by kernel_rfl) (by kernel_rfl) (by kernel_rfl) (want_none rfl) (fun hc v => ex_sl19 rfl (q13.e (j := 17) rfl) rfl (congrArg some (q13.e (j := 18) rfl)) rfl (slToH q o n c (lft n) (by omega) hcap _)) rfl q13.z (by decide) (fun _ => trivial) (q13.k fun _ q14 => ?_);clear q13
      refine vg_takeW 4 true (.slice (some ⟨q, o, none⟩) n c) rfl (by kernel_rfl) (by kernel_rfl) (by kernel_rfl) (by kernel_rfl) (want_none rfl) (fun hc v => ex_move rfl (q14.e (j := 0) rfl)) rfl q14.z (by decide) (fun _ => trivial) (q14.k fun _ q15 => ?_);clear q14
      refine vg_takeW 5 true (.int .i64 ((lft n : Nat) : Int)) rfl (by kernel_rfl) (by kernel_rfl) (by kernel_rfl) (by kernel_rfl) (want_none rfl) (fun hc v => ex_move rfl (q15.e (j := 3) rfl)) rfl q15.z (by decide) (fun _ => trivial) (q15.k fun _ q16 => ?_);clear q15
      refine vg_takeW 6 true (.slice (some (adH q o c (lft n))) (n - lft n) (c - lft n)) rfl (by kernel_rfl) (by kernel_rfl) (by kernel_rfl) (by kernel_rfl) (want_none rfl) (fun hc v => ex_sl19 rfl (q16.e (j := 21) rfl) (congrArg some (q16.e (j := 22) rfl)) rfl rfl (slFromH q o n c (lft n) (by omega) hcap _)) rfl q16.z (by decide) (fun _ => trivial) (q16.k fun _ q17 => ?_);clear q16
      refine vg_call 3 rfl (by kernel_rfl) (want_none rfl) (ex_call rfl (by simp only [List.map_toArray, List.map_cons, List.map_nil, (q17.e (j := 19) rfl), evc] <;> rfl) rfl) (ih _ _ _ _ y0 sT (by omega) (by omega)) rfl q17.z (by decide) ?_
      rintro e d1 ⟨rfl, b1⟩
      have z1 := b1.size
      have Bh1 := (Bw1.later hy0).later b1
      have sF1 := sF.later b1
      refine ⟨_, rfl, trivial, q17.k fun _ q18 => ?_⟩;clear q17
      refine vg_call 7 rfl (by kernel_rfl) (want_none rfl) (ex_call rfl (by simp only [List.map_toArray, List.map_cons, List.map_nil, (q18.e (j := 23) rfl), evc] <;> rfl) rfl) (ih _ _ _ _ d1 sF1 (by omega) (by omega)) rfl q18.z (by decide) ?_
      rintro e d2 ⟨rfl, b2⟩
      have z2 := b2.size
      have Bh2 := Bh1.later b2
      refine ⟨_, rfl, trivial, q18.k fun _ q19 => ?_⟩;clear q18
      refine vg_call 8 rfl (by kernel_rfl) (want_none rfl) (ex_call rfl (by simp only [List.map_toArray, List.map_cons, List.map_nil, (q19.e (j := 20) rfl), (q19.e (j := 24) rfl), evc] <;> rfl) rfl) (node20 _ _ d2) rfl q19.z (by decide) ?_
      rintro e d3 ⟨rfl, b3⟩
      have z3 := b3.size
      have Bh3 := Bh2.later b3
      have d6 : Below w.heap.size w d3 := (((bw1.trans (hy0.mono (by omega))).trans (b1.mono (by omega))).trans (b2.mono (by omega))).trans (b3.mono (by omega))
      refine ⟨_, rfl, trivial, q19.k fun _ q20 => ?_⟩;clear q19
      obtain ⟨d7, hd7⟩ : ∃ y, y = d3.setCells w.heap.size 0 (nd (hd (L.take (lft n))) (hd (L.drop (lft n)))).cs := ⟨_, rfl⟩
      refine vg_store 9 d7 rfl (by kernel_rfl) (by kernel_rfl) (want_none rfl) (ex_st rfl (q20.e (j := 2) rfl) (q20.e (j := 25) rfl) (by rw [hd7]; exact Bh3.stH rfl _)) rfl ?_
      have Bd7 : BB d7 w.heap.size 24 (nd (hd (L.take (lft n))) (hd (L.drop (lft n)))).cs := by rw [hd7]; exact Bh3.putH rfl _
      have ud7 : Upd (fun k => k = w.heap.size) d3 d7 := by rw [hd7]; exact upd18 _ _ _ _
      clear hd7
      refine vg_done (by kernel_rfl) ?_
      go_wp2
      exact Bd7.res rfl (q20.a 2 rfl) Try.underlying24 rfl (by rw [Hs.len]; exact i32h) ⟨by have := hd_2 L (by omega); rw [hln] at this; rw [this]; rfl, d6.trans (bel_ge ud7 d6.size (Nat.le_refl _))⟩
theorem headOf20 (L : List Hs) (a : Option Addr) (n c : Nat) (w : World) (h : SlY yH w a n c L) (hn : n ≤ 9000000000000000000) :
    Calls Try.prog 36 #[.slice a n c] w fun e w' => e = .returned (hd L).val ∧ Below w.heap.size w w' := by
  have H : ∀ m, ∀ (L : List Hs) (a : Option Addr) (n c : Nat) (w : World), SlY yH w a n c L → n < m → n ≤ 9000000000000000000 → Calls Try.prog 36 #[.slice a n c] w fun e w' => e = .returned (hd L).val ∧ Below w.heap.size w w' := by
    intro m
    induction m with
    | zero => intro L a n c w _ h; omega
    | succ m ih =>
      intro L a n c w h hm hn
      by_cases e : n = m
      · exact headOf_step m ih L a n c w h (by omega) hn
      · exact ih L a n c w h (by omega) hn
  exact H (n + 1) L a n c w h (by omega) hn
set_option maxHeartbeats 2000000 in
theorem head20 (l : List En) (a : Option Addr) (n c : Nat) (w : World) (h : SlY yE w a n c l) (hn : n ≤ 4398046511104) (hv : ∀ x ∈ l, x.o.v.size ≤ 140737488352232) :
    Calls Try.prog 10 #[.slice a n c] w fun e w' => e = .returned (hd (l.map lf)).val ∧ Below w.heap.size w w' := by
  go_enter Try.func10, Try.ntmps10
  go_upto_region 0 with fail
  refine wp_region_lit ?_
  refine vl_gen (fun T => Rp T 6 [(0, gw true (.slice a n c))]) ((Rp.nil rfl).cons rfl) (fun Z0 q0 => ?_)
  obtain ⟨w1, hw1⟩ : ∃ y, y = w.alloc (.cells (zH.cs).toArray 24) := ⟨_, rfl⟩
  refine vw (.pointer (some ⟨w.heap.size, 0, none⟩)) w1 (want_none rfl) (ex_al rfl (by rw [hw1]; exact alH _)) rfl q0.z (by decide) (q0.k fun _ q1 => ?_);clear q0
  have Bw1 : BB w1 w.heap.size 24 (zH.cs) := by rw [hw1]; exact BB.new _ _ _
  have bw1 : Below w.heap.size w w1 := by rw [hw1]; exact (Below.refl _ _).alloc (Nat.le_refl _) _
  have zw1 : w1.heap.size = w.heap.size + 1 := by rw [hw1]; exact World.size_alloc _ _
  clear hw1
  refine wpList_nil ?_
  go_upto_region 1 with fail
  refine wp_region_lit ?_
  refine q1.t (.slice a n c) (ex_move rfl (q1.e (j := 0) rfl)) fun _ q2 => ?_;clear q1
  refine vcallP (want_none rfl) (ex_call rfl (by simp only [List.map_toArray, List.map_cons, List.map_nil, (q2.e (j := 3) rfl), evc] <;> rfl) rfl) (leaves20 l a n c w1 (h.later bw1) hn hv) rfl q2.z (by decide) ?_
  rintro e w2 ⟨v2, rfl, o2, b2⟩
  refine ⟨_, rfl, q2.k fun _ q3 => ?_⟩;clear q2
  have z2 := b2.size
  obtain ⟨a2, c2, hv2, s2, _⟩ := o2.sl kH
  subst hv2
  have hll := h.len
  refine vcallP (want_none rfl) (ex_call rfl (by simp only [List.map_toArray, List.map_cons, List.map_nil, (q3.e (j := 4) rfl), evc] <;> rfl) rfl) (headOf20 _ _ _ _ w2 s2 (by rw [List.length_map]; omega)) rfl q3.z (by decide) ?_
  rintro e w3 ⟨rfl, b3⟩
  refine ⟨_, rfl, q3.k fun _ q4 => ?_⟩;clear q3
  have z3 := b3.size
  have Bh3 := (Bw1.later b2).later b3
  obtain ⟨w4, hw4⟩ : ∃ y, y = w3.setCells w.heap.size 0 (hd (l.map lf)).cs := ⟨_, rfl⟩
  refine vs w4 (want_none rfl) (ex_st rfl (q4.e (j := 2) rfl) (q4.e (j := 5) rfl) (by rw [hw4]; exact Bh3.stH rfl _)) rfl ?_
  have Bw4 : BB w4 w.heap.size 24 (hd (l.map lf)).cs := by rw [hw4]; exact Bh3.putH rfl _
  have uw4 : Upd (fun k => k = w.heap.size) w3 w4 := by rw [hw4]; exact upd18 _ _ _ _
  clear hw4
  refine wpList_nil ?_
  go_wp2
  exact Bw4.res rfl (q4.a 2 rfl) Try.underlying24 rfl (by rw [Hs.len]; exact i32h) ⟨rfl, ((bw1.trans (b2.mono (by omega))).trans (b3.mono (by omega))).trans (bel_ge uw4 (by omega) (Nat.le_refl _))⟩
end Go.Proofs.Ytfafhlahbhopaaa
namespace Go.Proofs.Ytfafhlahbhopaaa
open Go.RowKit Go.Maps
open Classical
theorem eqZ20 (x y : Operand) (a b : Int) (w : World) : (do eqGuard .eql 3 x y (.int .i64 a) (.int .i64 b); binOp .eql 3 (.int .i64 a) (.int .i64 b) : Sem Value).run Try.prog w = .ok (.bool (decide (a = b))) w := by
  by_cases h : a = b
  · rw [decide_eq_true h]; exact eqT20 x y h w
  · rw [decide_eq_false h]; exact eqF20 x y h w
theorem ltZ20 (x y : Operand) (a b : Int) (w : World) : (do eqGuard .lss 3 x y (.int .i64 a) (.int .i64 b); binOp .lss 3 (.int .i64 a) (.int .i64 b) : Sem Value).run Try.prog w = .ok (.bool (decide (a < b))) w := by
  by_cases h : a < b
  · rw [decide_eq_true h]; exact ltT20 x y h w
  · rw [decide_eq_false h]; exact ltF20 x y h w
theorem gtZ20 (x y : Operand) (a b : Int) (w : World) : (do eqGuard .gtr 3 x y (.int .i64 a) (.int .i64 b); binOp .gtr 3 (.int .i64 a) (.int .i64 b) : Sem Value).run Try.prog w = .ok (.bool (decide (b < a))) w := by
  by_cases h : b < a
  · rw [decide_eq_true h]; exact gtT20 x y h w
  · rw [decide_eq_false h]; exact gtF20 x y h w
theorem bsH20 (x : Hs) (w : World) : (Instr.buildSlice 42 1 #[(0, x.val)]).run Try.prog w = .ok (.slice (some ⟨w.heap.size, 0, none⟩) 1 1) (w.alloc (.cells x.cs.toArray 24)) := by
  obtain ⟨zv, hinfo, hzc⟩ := kH.info
  obtain ⟨i0, hi, hz0, hz1, hz2⟩ := info_parts hinfo
  have hs : i0.size = 32 := hz1
  have hx : x.val.cells.size = 32 := by show x.cs.toArray.size = 32; rw [List.size_toArray, x.len]
  have hf := Great.fill_whole (s := i0.size) (by omega) [x.val] ((Array.range (1 * i0.size)).map (zv.cells[· % zv.cells.size]!)) (by intro v hv; rw [List.mem_singleton.1 hv, hs, hx]) (by simp)
  have e : ([x.val].flatMap fun v => v.cells.toList).toArray = x.cs.toArray := by
    show ((x.cs.toArray.toList) ++ []).toArray = _
    rw [List.append_nil]
  rw [e] at hf
  exact run_buildSlice (P := Try.prog) w 42 24 1 #[(0, x.val)] x.cs.toArray i0 zv kH.und hi hz0 (by omega) (by omega) hf
theorem sl1H (w : World) (x : Hs) : SlY yH (w.alloc (.cells x.cs.toArray 24)) (some ⟨w.heap.size, 0, none⟩) 1 1 [x] := by
  have := sl_lit kH w [x] 24 (by show 1 ≤ maxLen; unfold maxLen; decide)
  have e : fl yH [x] = x.cs := by show x.cs ++ [] = x.cs; rw [List.append_nil]
  rw [e] at this
  exact this
theorem su_le : ∀ (n p : Nat), 1 ≤ n → su p n + 1 ≤ n := by
  intro n
  induction n using Nat.strongRecOn with
  | _ n ih =>
    intro p h
    by_cases h1 : n = 1
    · subst h1; rw [su_1]; omega
    · have b := lft_b (n := n) (by omega)
      by_cases hp : p ≤ lft n
      · rw [su_l p n (by omega) hp]
        have := ih (lft n) (by omega) p (by omega)
        omega
      · rw [su_r p n (by omega) hp]
        have := ih (n - lft n) (by omega) (p - lft n) (by omega)
        omega
theorem pu_len : ∀ (n : Nat) (L : List Hs) (p : Nat), L.length = n → 1 ≤ n → (pu L p).length = su p n := by
  intro n
  induction n using Nat.strongRecOn with
  | _ n ih =>
    intro L p hL h
    by_cases h1 : n = 1
    · subst h1; rw [pu_1 L p hL, su_1]; rfl
    · have b := lft_b (n := n) (by omega)
      by_cases hp : p ≤ lft n
      · rw [su_l p n (by omega) hp, pu_l L p (by omega) (by rw [hL]; exact hp), List.length_append, hL, ih (lft n) (by omega) (L.take (lft n)) p (by rw [List.length_take]; omega) (by omega)]
        simp; omega
      · rw [su_r p n (by omega) hp, pu_r L p (by omega) (by rw [hL]; exact hp), List.length_append, hL, ih (n - lft n) (by omega) (L.drop (lft n)) (p - lft n) (by rw [List.length_drop]; omega) (by omega)]
        simp; omega
theorem sa_le : ∀ (n m : Nat) (wh : Bool), 1 ≤ m → m ≤ n → sa m n wh ≤ n := by
  intro n
  induction n using Nat.strongRecOn with
  | _ n ih =>
    intro m wh h1 h2
    by_cases h3 : m = n
    · subst h3; rw [sa_e]; cases wh <;> simp <;> omega
    · have b := lft_b (n := n) (by omega)
      by_cases hp : m ≤ lft n
      · rw [sa_l m n wh (by omega) hp]
        have := ih (lft n) (by omega) m wh (by omega) (by omega)
        omega
      · rw [sa_r m n wh (by omega) h3 hp]
        have := ih (n - lft n) (by omega) (m - lft n) false (by omega) (by omega)
        omega
def inR (L : List Hs) (p : Int) : List Hs × Int := if p < 1 ∨ (L.length : Int) < p then ([], 61) else (pu L p.toNat, 0)
set_option maxHeartbeats 2000000 in
theorem pathUp_step (m : Nat) (ih : ∀ (L : List Hs) (a : Option Addr) (n c p : Nat) (w : World), SlY yH w a n c L → n < m → n ≤ 4398046511104 → 1 ≤ p → p ≤ n → Calls Try.prog 80 #[.slice a n c, .int .i64 (p : Int)] w fun e w' => ∃ v, e = .returned v ∧ OwnY yH w.heap.size w' v (pu L p) ∧ Below w.heap.size w w') (L : List Hs) (a : Option Addr) (n c p : Nat) (w : World) (h : SlY yH w a n c L) (hm : n ≤ m) (hn : n ≤ 4398046511104) (hp1 : 1 ≤ p) (hp2 : p ≤ n) :
    Calls Try.prog 80 #[.slice a n c, .int .i64 (p : Int)] w fun e w' => ∃ v, e = .returned v ∧ OwnY yH w.heap.size w' v (pu L p) ∧ Below w.heap.size w w' := by
  go_enter Try.func80, Try.ntmps80
  go_upto_region 0 with fail
  refine wp_region_lit ?_
  refine vl_gen (fun T => Rp T 39 [(1, gw true (.int .i64 ((p : Nat) : Int))), (0, gw true (.slice a n c))]) (((Rp.nil rfl).cons rfl).cons rfl) (fun Z0 q0 => ?_)
  have hln := h.len
  have hcap := h.cap
  obtain ⟨q, o, rfl, hq, hl⟩ := h.place (by rintro rfl; simp at hln; omega)
  refine q0.t (.slice none 0 0) (ex_assign rfl rfl) fun _ q1 => ?_;clear q0
  refine wpList_nil ?_
  go_upto_region 1 with fail
  refine wp_region_lit ?_
  refine q1.t (.slice (some ⟨q, o, none⟩) n c) (ex_move rfl (q1.e (j := 0) rfl)) fun _ q2 => ?_;clear q1
  refine q2.t (.int .i64 ((n : Nat) : Int)) (ex_lenG rfl rfl Try.underlying42 (q2.e (j := 6) rfl)) fun _ q3 => ?_;clear q2
  by_cases h1 : n = 1
  · refine q3.t (.bool true) (ex_bin (Y := .int .i64 (1 : Int)) rfl (q3.e (j := 7) rfl) rfl (eqT20 _ _ (by omega) _)) fun _ q4 => ?_;clear q3
    refine wpList_nil ?_
    go_upto_region 2 with fail
    refine wp_cond_true (q4.e (j := 8) rfl) ?_
    go_upto_region 2 with fail
    refine wp_region_lit ?_
    refine q4.t (.slice none 0 0) (ex_assign rfl rfl) fun _ q5 => ?_;clear q4
    refine wpList_nil ?_
    go_wp2
    refine bodyPost_ret (results_tmp rfl _ _ _) rfl ?_
    rw [getD_of (q5.a 4 rfl)]
    exact ⟨_, rfl, by rw [pu_1 L p (by omega)]; exact OwnY.nil _ _ _, Below.refl _ _⟩
  · refine q3.t (.bool false) (ex_bin (Y := .int .i64 (1 : Int)) rfl (q3.e (j := 7) rfl) rfl (eqF20 _ _ (by omega) _)) fun _ q4 => ?_;clear q3
    refine wpList_nil ?_
    go_upto_region 3 with fail
    refine wp_cond_false (q4.e (j := 8) rfl) ?_
    go_upto_region 3 with fail
    refine wp_region_lit ?_
    refine q4.t (.slice (some ⟨q, o, none⟩) n c) (ex_move rfl (q4.e (j := 0) rfl)) fun _ q5 => ?_;clear q4
    refine q5.t (.int .i64 ((n : Nat) : Int)) (ex_lenG rfl rfl Try.underlying42 (q5.e (j := 9) rfl)) fun _ q6 => ?_;clear q5
    refine vcallP (want_none rfl) (ex_call rfl (by simp only [List.map_toArray, List.map_cons, List.map_nil, (q6.e (j := 10) rfl), evc] <;> rfl) rfl) (left20 n w (by omega) (by omega)) rfl q6.z (by decide) ?_
    rintro e w9 ⟨rfl, hw9⟩
    refine ⟨_, rfl, q6.k fun _ q7 => ?_⟩;clear q6
    have hw9 := hw9.symm
    subst hw9
    refine q7.t (.int .i64 ((lft n : Nat) : Int)) (ex_assign rfl (q7.e (j := 11) rfl)) fun _ q8 => ?_;clear q7
    refine wpList_nil ?_
    go_upto_region 4 with fail
    refine wp_region_lit ?_
    have hb := lft_b (n := n) (by omega)
    have hs1 := h
    have b01 : Below w.heap.size w w := Below.refl _ _
    refine q8.t (.int .i64 ((p : Nat) : Int)) (ex_move rfl (q8.e (j := 1) rfl)) fun _ q9 => ?_;clear q8
    refine q9.t (.int .i64 ((lft n : Nat) : Int)) (ex_move rfl (q9.e (j := 5) rfl)) fun _ q10 => ?_;clear q9
    by_cases hp : p ≤ lft n
    · refine q10.t (.bool true) (ex_bin rfl (q10.e (j := 12) rfl) (q10.e (j := 13) rfl) (leT20 _ _ (by omega) _)) fun _ q11 => ?_;clear q10
      refine wpList_nil ?_
      go_upto_region 5 with fail
      refine wp_cond_true (q11.e (j := 14) rfl) ?_
      go_upto_region 5 with fail
      refine vg_start (fun k => false) (fun _ => True) (by kernel_rfl) ?_
      have hy0 : Below w.heap.size w w.drew := (Below.refl _ _).drew
      have hzy0 : w.drew.heap.size = w.heap.size := rfl
      generalize w.drew = y0 at *
      have hS := hs1.later hy0
      have sT := hS.take (lft n) (by omega)
      have sF := hS.fromH (lft n) (by omega)
      refine vg_takeW 0 true (.slice (some ⟨q, o, none⟩) n c) rfl (by kernel_rfl) (by kernel_rfl) (by kernel_rfl) (by kernel_rfl) (want_none rfl) (fun hc v => ex_move rfl (q11.e (j := 0) rfl)) rfl q11.z (by decide) (fun _ => trivial) (q11.k fun _ q12 => ?_);clear q11
      refine vg_takeW 1 true (.int .i64 ((lft n : Nat) : Int)) rfl (by kernel_rfl) (by kernel_rfl) (by kernel_rfl) (by kernel_rfl) (want_none rfl) (fun hc v => ex_move rfl (q12.e (j := 5) rfl)) rfl q12.z (by decide) (fun _ => trivial) (q12.k fun _ q13 => ?_);clear q12
      refine vg_takeW 2 true (.slice (some ⟨q, o, none⟩) (lft n) c) rfl (by kernel_rfl) (by kernel_rfl) (by kernel_rfl) (by kernel_rfl) (want_none rfl) (fun hc v => ex_sl19 rfl (q13.e (j := 15) rfl) rfl (congrArg some (q13.e (j := 16) rfl)) rfl (slToH q o n c (lft n) (by omega) hcap _)) rfl q13.z (by decide) (fun _ => trivial) (q13.k fun _ q14 => ?_);clear q13
      refine vg_takeW 3 true (.int .i64 ((p : Nat) : Int)) rfl (by kernel_rfl) (by kernel_rfl) (by kernel_rfl) (by kernel_rfl) (want_none rfl) (fun hc v => ex_move rfl (q14.e (j := 1) rfl)) rfl q14.z (by decide) (fun _ => trivial) (q14.k fun _ q15 => ?_);clear q14
      refine vg_takeW 5 true (.slice (some ⟨q, o, none⟩) n c) rfl (by kernel_rfl) (by kernel_rfl) (by kernel_rfl) (by kernel_rfl) (want_none rfl) (fun hc v => ex_move rfl (q15.e (j := 0) rfl)) rfl q15.z (by decide) (fun _ => trivial) (q15.k fun _ q16 => ?_);clear q15
      refine vg_takeW 6 true (.int .i64 ((lft n : Nat) : Int)) rfl (by kernel_rfl) (by kernel_rfl) (by kernel_rfl) (by kernel_rfl) (want_none rfl) (fun hc v => ex_move rfl (q16.e (j := 5) rfl)) rfl q16.z (by decide) (fun _ => trivial) (q16.k fun _ q17 => ?_);clear q16
      refine vg_takeW 7 true (.slice (some (adH q o c (lft n))) (n - lft n) (c - lft n)) rfl (by kernel_rfl) (by kernel_rfl) (by kernel_rfl) (by kernel_rfl) (want_none rfl) (fun hc v => ex_sl19 rfl (q17.e (j := 20) rfl) (congrArg some (q17.e (j := 21) rfl)) rfl rfl (slFromH q o n c (lft n) (by omega) hcap _)) rfl q17.z (by decide) (fun _ => trivial) (q17.k fun _ q18 => ?_);clear q17
      refine vg_call 4 rfl (by kernel_rfl) (want_none rfl) (ex_call rfl (by simp only [List.map_toArray, List.map_cons, List.map_nil, (q18.e (j := 17) rfl), (q18.e (j := 18) rfl), evc] <;> rfl) rfl) (ih _ _ _ _ p y0 sT (by omega) (by omega) hp1 hp) rfl q18.z (by decide) ?_
      rintro e d1 ⟨v1, rfl, o1, b1⟩
      have z1 := b1.size
      have sO := sF.later b1
      refine ⟨_, rfl, trivial, q18.k fun _ q19 => ?_⟩;clear q18
      refine vg_call 8 rfl (by kernel_rfl) (want_none rfl) (ex_call rfl (by simp only [List.map_toArray, List.map_cons, List.map_nil, (q19.e (j := 22) rfl), evc] <;> rfl) rfl) (headOf20 _ _ _ _ d1 sO (by omega)) rfl q19.z (by decide) ?_
      rintro e d2 ⟨rfl, b2⟩
      have z2 := b2.size
      have o2 := o1.grow b2
      refine ⟨_, rfl, trivial, q19.k fun _ q20 => ?_⟩;clear q19
      obtain ⟨d3, hd3⟩ : ∃ y, y = d2.alloc (.cells (hd (L.drop (lft n))).cs.toArray 24) := ⟨_, rfl⟩
      refine vg_val 9 (.slice (some ⟨d2.heap.size, 0, none⟩) 1 1) d3 rfl (by kernel_rfl) (want_none rfl) (ex_bs18 rfl (q20.e (j := 23) rfl) (by rw [hd3]; exact bsH20 _ _)) rfl q20.z (by decide) (fun _ => trivial) (q20.k fun _ q21 => ?_);clear q20
      have s3 : SlY yH d3 (some ⟨d2.heap.size, 0, none⟩) 1 1 [hd (L.drop (lft n))] := by rw [hd3]; exact sl1H _ _
      have b3 : Below d2.heap.size d2 d3 := by rw [hd3]; exact (Below.refl _ _).alloc (Nat.le_refl _) _
      have z3 := b3.size
      clear hd3
      have o3 := (o2.grow b3).low (B' := w.heap.size) (by omega)
      have hlp : (pu (L.take (lft n)) p).length + 1 ≤ n := by have e1 := pu_len (lft n) (L.take (lft n)) p (by rw [List.length_take]; omega) (by omega); have e2 := su_le (lft n) p (by omega); omega
      obtain ⟨v4, d4, ha4, o4, g4, _⟩ := run_appY kH d3 42 w.heap.size (pu (L.take (lft n)) p) v1 _ 1 1 [hd (L.drop (lft n))] s3 o3 (by omega) (by unfold maxLen; omega) (by show ((pu (L.take (lft n)) p).length + 1) * 32 ≤ _; omega)
      refine vg_val 10 (v4) d4 rfl (by kernel_rfl) (want_none rfl) (ex_app18 rfl (q21.e (j := 19) rfl) (q21.e (j := 24) rfl) ha4) rfl q21.z (by decide) (fun _ => trivial) (q21.k fun _ q22 => ?_);clear q21
      have dd : Below w.heap.size w d3 := ((((b01.trans (hy0.mono (by omega))).trans (b1.mono (by omega))).trans (b2.mono (by omega))).trans (b3.mono (by omega)))
      have d5 := o3.grown dd g4 (by omega)
      refine vg_takeW 11 true (v4) rfl (by kernel_rfl) (by kernel_rfl) (by kernel_rfl) (by kernel_rfl) (want_none rfl) (fun hc v => ex_assign rfl (q22.e (j := 25) rfl)) rfl q22.z (by decide) (fun _ => trivial) (q22.k fun _ q23 => ?_);clear q22
      refine vg_done (by kernel_rfl) ?_
      go_wp2
      refine bodyPost_ret (results_tmp rfl _ _ _) rfl ?_
      rw [getD_of (q23.a 4 rfl)]
      exact ⟨_, rfl, by have := pu_l L p (by omega) (by rw [hln]; exact hp); rw [hln] at this; rw [this]; exact o4, d5⟩
    · refine q10.t (.bool false) (ex_bin rfl (q10.e (j := 12) rfl) (q10.e (j := 13) rfl) (leF20 _ _ (by omega) _)) fun _ q11 => ?_;clear q10
      refine wpList_nil ?_
      go_upto_region 6 with fail
      refine wp_cond_false (q11.e (j := 14) rfl) ?_
      go_upto_region 6 with fail
      refine vg_start (fun k => false) (fun _ => True) (by kernel_rfl) ?_
      have hy0 : Below w.heap.size w w.drew := (Below.refl _ _).drew
      have hzy0 : w.drew.heap.size = w.heap.size := rfl
      generalize w.drew = y0 at *
      have hS := hs1.later hy0
      have sT := hS.take (lft n) (by omega)
      have sF := hS.fromH (lft n) (by omega)
      refine vg_takeW 0 true (.slice (some ⟨q, o, none⟩) n c) rfl (by kernel_rfl) (by kernel_rfl) (by kernel_rfl) (by kernel_rfl) (want_none rfl) (fun hc v => ex_move rfl (q11.e (j := 0) rfl)) rfl q11.z (by decide) (fun _ => trivial) (q11.k fun _ q12 => ?_);clear q11
      refine vg_takeW 1 true (.int .i64 ((lft n : Nat) : Int)) rfl (by kernel_rfl) (by kernel_rfl) (by kernel_rfl) (by kernel_rfl) (want_none rfl) (fun hc v => ex_move rfl (q12.e (j := 5) rfl)) rfl q12.z (by decide) (fun _ => trivial) (q12.k fun _ q13 => ?_);clear q12
      refine vg_takeW 2 true (.slice (some (adH q o c (lft n))) (n - lft n) (c - lft n)) rfl (by kernel_rfl) (by kernel_rfl) (by kernel_rfl) (by kernel_rfl) (want_none rfl) (fun hc v => ex_sl19 rfl (q13.e (j := 26) rfl) (congrArg some (q13.e (j := 27) rfl)) rfl rfl (slFromH q o n c (lft n) (by omega) hcap _)) rfl q13.z (by decide) (fun _ => trivial) (q13.k fun _ q14 => ?_);clear q13
      refine vg_takeW 3 true (.int .i64 ((p : Nat) : Int)) rfl (by kernel_rfl) (by kernel_rfl) (by kernel_rfl) (by kernel_rfl) (want_none rfl) (fun hc v => ex_move rfl (q14.e (j := 1) rfl)) rfl q14.z (by decide) (fun _ => trivial) (q14.k fun _ q15 => ?_);clear q14
      refine vg_takeW 4 true (.int .i64 ((lft n : Nat) : Int)) rfl (by kernel_rfl) (by kernel_rfl) (by kernel_rfl) (by kernel_rfl) (want_none rfl) (fun hc v => ex_move rfl (q15.e (j := 5) rfl)) rfl q15.z (by decide) (fun _ => trivial) (q15.k fun _ q16 => ?_);clear q15
      refine vg_takeW 5 true (.int .i64 ((p - lft n : Nat) : Int)) rfl (by kernel_rfl) (by kernel_rfl) (by kernel_rfl) (by kernel_rfl) (want_none rfl) (fun hc v => ex_bin rfl (q16.e (j := 29) rfl) (q16.e (j := 30) rfl) (subP _ _ p (lft n) (by omega) (by omega) _)) rfl q16.z (by decide) (fun _ => trivial) (q16.k fun _ q17 => ?_);clear q16
      refine vg_takeW 7 true (.slice (some ⟨q, o, none⟩) n c) rfl (by kernel_rfl) (by kernel_rfl) (by kernel_rfl) (by kernel_rfl) (want_none rfl) (fun hc v => ex_move rfl (q17.e (j := 0) rfl)) rfl q17.z (by decide) (fun _ => trivial) (q17.k fun _ q18 => ?_);clear q17
      refine vg_takeW 8 true (.int .i64 ((lft n : Nat) : Int)) rfl (by kernel_rfl) (by kernel_rfl) (by kernel_rfl) (by kernel_rfl) (want_none rfl) (fun hc v => ex_move rfl (q18.e (j := 5) rfl)) rfl q18.z (by decide) (fun _ => trivial) (q18.k fun _ q19 => ?_);clear q18
      refine vg_takeW 9 true (.slice (some ⟨q, o, none⟩) (lft n) c) rfl (by kernel_rfl) (by kernel_rfl) (by kernel_rfl) (by kernel_rfl) (want_none rfl) (fun hc v => ex_sl19 rfl (q19.e (j := 33) rfl) rfl (congrArg some (q19.e (j := 34) rfl)) rfl (slToH q o n c (lft n) (by omega) hcap _)) rfl q19.z (by decide) (fun _ => trivial) (q19.k fun _ q20 => ?_);clear q19
      refine vg_call 6 rfl (by kernel_rfl) (want_none rfl) (ex_call rfl (by simp only [List.map_toArray, List.map_cons, List.map_nil, (q20.e (j := 28) rfl), (q20.e (j := 31) rfl), evc] <;> rfl) rfl) (ih _ _ _ _ (p - lft n) y0 sF (by omega) (by omega) (by omega) (by omega)) rfl q20.z (by decide) ?_
      rintro e d1 ⟨v1, rfl, o1, b1⟩
      have z1 := b1.size
      have sO := sT.later b1
      refine ⟨_, rfl, trivial, q20.k fun _ q21 => ?_⟩;clear q20
      refine vg_call 10 rfl (by kernel_rfl) (want_none rfl) (ex_call rfl (by simp only [List.map_toArray, List.map_cons, List.map_nil, (q21.e (j := 35) rfl), evc] <;> rfl) rfl) (headOf20 _ _ _ _ d1 sO (by omega)) rfl q21.z (by decide) ?_
      rintro e d2 ⟨rfl, b2⟩
      have z2 := b2.size
      have o2 := o1.grow b2
      refine ⟨_, rfl, trivial, q21.k fun _ q22 => ?_⟩;clear q21
      obtain ⟨d3, hd3⟩ : ∃ y, y = d2.alloc (.cells (hd (L.take (lft n))).cs.toArray 24) := ⟨_, rfl⟩
      refine vg_val 11 (.slice (some ⟨d2.heap.size, 0, none⟩) 1 1) d3 rfl (by kernel_rfl) (want_none rfl) (ex_bs18 rfl (q22.e (j := 36) rfl) (by rw [hd3]; exact bsH20 _ _)) rfl q22.z (by decide) (fun _ => trivial) (q22.k fun _ q23 => ?_);clear q22
      have s3 : SlY yH d3 (some ⟨d2.heap.size, 0, none⟩) 1 1 [hd (L.take (lft n))] := by rw [hd3]; exact sl1H _ _
      have b3 : Below d2.heap.size d2 d3 := by rw [hd3]; exact (Below.refl _ _).alloc (Nat.le_refl _) _
      have z3 := b3.size
      clear hd3
      have o3 := (o2.grow b3).low (B' := w.heap.size) (by omega)
      have hlp : (pu (L.drop (lft n)) (p - lft n)).length + 1 ≤ n := by have e1 := pu_len (n - lft n) (L.drop (lft n)) (p - lft n) (by rw [List.length_drop]; omega) (by omega); have e2 := su_le (n - lft n) (p - lft n) (by omega); omega
      obtain ⟨v4, d4, ha4, o4, g4, _⟩ := run_appY kH d3 42 w.heap.size (pu (L.drop (lft n)) (p - lft n)) v1 _ 1 1 [hd (L.take (lft n))] s3 o3 (by omega) (by unfold maxLen; omega) (by show ((pu (L.drop (lft n)) (p - lft n)).length + 1) * 32 ≤ _; omega)
      refine vg_val 12 (v4) d4 rfl (by kernel_rfl) (want_none rfl) (ex_app18 rfl (q23.e (j := 32) rfl) (q23.e (j := 37) rfl) ha4) rfl q23.z (by decide) (fun _ => trivial) (q23.k fun _ q24 => ?_);clear q23
      have dd : Below w.heap.size w d3 := ((((b01.trans (hy0.mono (by omega))).trans (b1.mono (by omega))).trans (b2.mono (by omega))).trans (b3.mono (by omega)))
      have d5 := o3.grown dd g4 (by omega)
      refine vg_takeW 13 true (v4) rfl (by kernel_rfl) (by kernel_rfl) (by kernel_rfl) (by kernel_rfl) (want_none rfl) (fun hc v => ex_assign rfl (q24.e (j := 38) rfl)) rfl q24.z (by decide) (fun _ => trivial) (q24.k fun _ q25 => ?_);clear q24
      refine vg_done (by kernel_rfl) ?_
      go_wp2
      refine bodyPost_ret (results_tmp rfl _ _ _) rfl ?_
      rw [getD_of (q25.a 4 rfl)]
      exact ⟨_, rfl, by have := pu_r L p (by omega) (by rw [hln]; exact hp); rw [hln] at this; rw [this]; exact o4, d5⟩
theorem pathUp20 (L : List Hs) (a : Option Addr) (n c p : Nat) (w : World) (h : SlY yH w a n c L) (hn : n ≤ 4398046511104) (hp1 : 1 ≤ p) (hp2 : p ≤ n) :
    Calls Try.prog 80 #[.slice a n c, .int .i64 (p : Int)] w fun e w' => ∃ v, e = .returned v ∧ OwnY yH w.heap.size w' v (pu L p) ∧ Below w.heap.size w w' := by
  have H : ∀ m, ∀ (L : List Hs) (a : Option Addr) (n c p : Nat) (w : World), SlY yH w a n c L → n < m → n ≤ 4398046511104 → 1 ≤ p → p ≤ n → Calls Try.prog 80 #[.slice a n c, .int .i64 (p : Int)] w fun e w' => ∃ v, e = .returned v ∧ OwnY yH w.heap.size w' v (pu L p) ∧ Below w.heap.size w w' := by
    intro m
    induction m with
    | zero => intro L a n c p w _ h; omega
    | succ m ih => exact fun L a n c p w h hm hn h1 h2 => pathUp_step m ih L a n c p w h (by omega) hn h1 h2
  exact H (n + 1) L a n c p w h (by omega) hn hp1 hp2
end Go.Proofs.Ytfafhlahbhopaaa
namespace Go.Proofs.Ytfafhlahbhopaaa
open Go.RowKit Go.Maps
open Classical
theorem dec_or20 (p q : Prop) [Decidable p] [Decidable q] : (decide p || decide q) = decide (p ∨ q) := by
  by_cases h : p <;> by_cases h2 : q <;> simp [h, h2]
set_option maxHeartbeats 2000000 in
theorem inclusion20 (L : List Hs) (a : Option Addr) (n c : Nat) (p : Int) (w : World) (h : SlY yH w a n c L) (hn : n ≤ 4398046511104) :
    Calls Try.prog 51 #[.slice a n c, .int .i64 p] w fun e w' => ∃ v, e = .returned (.tuple #[v, .int .i64 (inR L p).2]) ∧ OwnY yH w.heap.size w' v (inR L p).1 ∧ Below w.heap.size w w' := by
  go_enter Try.func51, Try.ntmps51
  go_upto_region 0 with fail
  refine wp_region_lit ?_
  refine vl_gen (fun T => Rp T 17 [(1, gw true (.int .i64 (p : Int))), (0, gw true (.slice a n c))]) (((Rp.nil rfl).cons rfl).cons rfl) (fun Z0 q0 => ?_)
  have hln := h.len
  refine q0.t (.slice none 0 0) (ex_assign rfl rfl) fun _ q1 => ?_;clear q0
  refine q1.t (.int .i64 (0 : Int)) (ex_assign rfl rfl) fun _ q2 => ?_;clear q1
  refine wpList_nil ?_
  go_upto_region 1 with fail
  refine wp_region_lit ?_
  refine q2.t (.int .i64 (p : Int)) (ex_move rfl (q2.e (j := 1) rfl)) fun _ q3 => ?_;clear q2
  refine q3.t (.bool (decide (p < 1))) (ex_bin (Y := .int .i64 (1 : Int)) rfl (q3.e (j := 6) rfl) rfl (ltZ20 _ _ _ _ _)) fun _ q4 => ?_;clear q3
  refine q4.t (.bool (decide (p < 1))) (ex_move rfl (q4.e (j := 7) rfl)) fun _ q5 => ?_;clear q4
  refine vl ((true && (decide (p < 1) == false))) (.int .i64 (p : Int)) (want_g rfl rfl (q5.a 8 rfl)) (fun hc => ex_move rfl (q5.e (j := 1) rfl)) rfl q5.z (by decide) (q5.k fun _ q6 => ?_);clear q5
  refine vl ((true && (decide (p < 1) == false))) (.slice a n c) (want_g rfl rfl (q6.a 8 rfl)) (fun hc => ex_move rfl (q6.e (j := 0) rfl)) rfl q6.z (by decide) (q6.k fun _ q7 => ?_);clear q6
  refine vl ((true && (decide (p < 1) == false))) (.int .i64 ((n : Nat) : Int)) (want_g rfl rfl (q7.a 8 rfl)) (fun hc => ex_lenG rfl rfl Try.underlying42 (ev (q7.a 10 rfl) hc)) rfl q7.z (by decide) (q7.k fun _ q8 => ?_);clear q7
  refine vl ((true && (decide (p < 1) == false))) (.bool (decide ((n : Int) < p))) (want_g rfl rfl (q8.a 8 rfl)) (fun hc => ex_bin rfl (ev (q8.a 9 rfl) hc) (ev (q8.a 11 rfl) hc) (gtZ20 _ _ _ _ _)) rfl q8.z (by decide) (q8.k fun _ q9 => ?_);clear q8
  refine q9.t (.bool (decide (p < 1) || decide ((n : Int) < p))) (ex_or rfl (q9.a 8 rfl) (q9.a 12 rfl) rfl) fun _ q10 => ?_;clear q9
  rw [dec_or20] at q10
  refine wpList_nil ?_
  by_cases hb : p < 1 ∨ (n : Int) < p
  · rw [decide_eq_true hb] at q10
    go_upto_region 2 with fail
    refine wp_cond_true (q10.e (j := 13) rfl) ?_
    go_upto_region 2 with fail
    refine wp_region_lit ?_
    refine q10.t (.slice none 0 0) (ex_assign rfl rfl) fun _ q11 => ?_;clear q10
    refine q11.t (.int .i64 (61 : Int)) (ex_assign rfl rfl) fun _ q12 => ?_;clear q11
    refine wpList_nil ?_
    go_wp2
    exact bodyPost_ret (results2_18 rfl (q12.a 4 rfl) (q12.a 5 rfl)) rfl ⟨_, by unfold inR; rw [hln, if_pos hb], by unfold inR; rw [hln, if_pos hb]; exact OwnY.nil _ _ _, Below.refl _ _⟩
  · rw [decide_eq_false hb] at q10
    obtain ⟨k, rfl⟩ : ∃ k : Nat, p = (k : Int) := ⟨p.toNat, by omega⟩
    go_upto_region 3 with fail
    refine wp_cond_false (q10.e (j := 13) rfl) ?_
    go_upto_region 3 with fail
    refine wp_region_lit ?_
    refine q10.t (.slice a n c) (ex_move rfl (q10.e (j := 0) rfl)) fun _ q11 => ?_;clear q10
    refine q11.t (.int .i64 ((k : Nat) : Int)) (ex_move rfl (q11.e (j := 1) rfl)) fun _ q12 => ?_;clear q11
    refine vcallP (want_none rfl) (ex_call rfl (by simp only [List.map_toArray, List.map_cons, List.map_nil, (q12.e (j := 14) rfl), (q12.e (j := 15) rfl), evc] <;> rfl) rfl) (pathUp20 L a n c k w h hn (by omega) (by omega)) rfl q12.z (by decide) ?_
    rintro e w1 ⟨v1, rfl, o1, b1⟩
    refine ⟨_, rfl, q12.k fun _ q13 => ?_⟩;clear q12
    refine q13.t (v1) (ex_assign rfl (q13.e (j := 16) rfl)) fun _ q14 => ?_;clear q13
    refine q14.t (.int .i64 (0 : Int)) (ex_assign rfl rfl) fun _ q15 => ?_;clear q14
    refine wpList_nil ?_
    go_wp2
    exact bodyPost_ret (results2_18 rfl (q15.a 4 rfl) (q15.a 5 rfl)) rfl ⟨_, by unfold inR; rw [hln, if_neg hb], by unfold inR; rw [hln, if_neg hb]; exact o1, b1⟩
set_option maxHeartbeats 2000000 in
theorem incllude20 (l : List En) (a : Option Addr) (n c : Nat) (p : Int) (w : World) (h : SlY yE w a n c l) (hn : n ≤ 4398046511104) (hv : ∀ x ∈ l, x.o.v.size ≤ 140737488352232) :
    Calls Try.prog 19 #[.slice a n c, .int .i64 p] w fun e w' => ∃ v, e = .returned (.tuple #[v, .int .i64 (inR (l.map lf) p).2]) ∧ OwnY yH w.heap.size w' v (inR (l.map lf) p).1 ∧ Below w.heap.size w w' := by
  go_enter Try.func19, Try.ntmps19
  go_upto_region 0 with fail
  refine wp_region_lit ?_
  refine vl_gen (fun T => Rp T 12 [(1, gw true (.int .i64 (p : Int))), (0, gw true (.slice a n c))]) (((Rp.nil rfl).cons rfl).cons rfl) (fun Z0 q0 => ?_)
  refine q0.t (.slice none 0 0) (ex_assign rfl rfl) fun _ q1 => ?_;clear q0
  refine q1.t (.int .i64 (0 : Int)) (ex_assign rfl rfl) fun _ q2 => ?_;clear q1
  refine wpList_nil ?_
  go_upto_region 1 with fail
  refine wp_region_lit ?_
  refine q2.t (.slice a n c) (ex_move rfl (q2.e (j := 0) rfl)) fun _ q3 => ?_;clear q2
  refine vcallP (want_none rfl) (ex_call rfl (by simp only [List.map_toArray, List.map_cons, List.map_nil, (q3.e (j := 6) rfl), evc] <;> rfl) rfl) (leaves20 l a n c w h hn hv) rfl q3.z (by decide) ?_
  rintro e w2 ⟨v2, rfl, o2, b2⟩
  refine ⟨_, rfl, q3.k fun _ q4 => ?_⟩;clear q3
  have z2 := b2.size
  obtain ⟨a2, c2, hv2, s2, _⟩ := o2.sl kH
  subst hv2
  have hll := h.len
  refine q4.t (.int .i64 (p : Int)) (ex_move rfl (q4.e (j := 1) rfl)) fun _ q5 => ?_;clear q4
  refine vcallP (want_none rfl) (ex_call rfl (by simp only [List.map_toArray, List.map_cons, List.map_nil, (q5.e (j := 7) rfl), (q5.e (j := 8) rfl), evc] <;> rfl) rfl) (inclusion20 _ _ _ _ p w2 s2 (by rw [List.length_map]; omega)) rfl q5.z (by decide) ?_
  rintro e w3 ⟨v3, rfl, o3, b3⟩
  refine ⟨_, rfl, q5.k fun _ q6 => ?_⟩;clear q5
  refine q6.t (v3) (ex_ext18 rfl (q6.e (j := 9) rfl) (xt0 _ _ _)) fun _ q7 => ?_;clear q6
  refine q7.t (.int .i64 (inR (l.map lf) p).2) (ex_ext18 rfl (q7.e (j := 9) rfl) (xt1 _ _ _)) fun _ q8 => ?_;clear q7
  refine q8.t (v3) (ex_assign rfl (q8.e (j := 10) rfl)) fun _ q9 => ?_;clear q8
  refine q9.t (.int .i64 (inR (l.map lf) p).2) (ex_assign rfl (q9.e (j := 11) rfl)) fun _ q10 => ?_;clear q9
  refine wpList_nil ?_
  go_wp2
  exact bodyPost_ret (results2_18 rfl (q10.a 4 rfl) (q10.a 5 rfl)) rfl ⟨_, rfl, o3.low z2, b2.trans (b3.mono z2)⟩
set_option maxHeartbeats 2000000 in
theorem stepsUp_step (m : Nat) (ih : ∀ (p n : Nat) (w : World), n < m → n ≤ 9223372036854775807 → 1 ≤ p → p ≤ n → Calls Try.prog 54 #[.int .i64 (p : Int), .int .i64 (n : Int)] w fun e w' => e = .returned (.int .i64 ((su p n : Nat) : Int)) ∧ w' = w) (p n : Nat) (w : World) (hm : n ≤ m) (hn : n ≤ 9223372036854775807) (hp1 : 1 ≤ p) (hp2 : p ≤ n) :
    Calls Try.prog 54 #[.int .i64 (p : Int), .int .i64 (n : Int)] w fun e w' => e = .returned (.int .i64 ((su p n : Nat) : Int)) ∧ w' = w := by
  go_enter Try.func54, Try.ntmps54
  go_upto_region 0 with fail
  refine wp_region_lit ?_
  refine vl_gen (fun T => Rp T 25 [(1, gw true (.int .i64 ((n : Nat) : Int))), (0, gw true (.int .i64 ((p : Nat) : Int)))]) (((Rp.nil rfl).cons rfl).cons rfl) (fun Z0 q0 => ?_)
  refine q0.t (.int .i64 (0 : Int)) (ex_assign rfl rfl) fun _ q1 => ?_;clear q0
  refine wpList_nil ?_
  go_upto_region 1 with fail
  refine wp_region_lit ?_
  refine q1.t (.int .i64 ((n : Nat) : Int)) (ex_move rfl (q1.e (j := 1) rfl)) fun _ q2 => ?_;clear q1
  by_cases h1 : n = 1
  · refine q2.t (.bool true) (ex_bin (Y := .int .i64 (1 : Int)) rfl (q2.e (j := 6) rfl) rfl (eqT20 _ _ (by omega) _)) fun _ q3 => ?_;clear q2
    refine wpList_nil ?_
    go_upto_region 2 with fail
    refine wp_cond_true (q3.e (j := 7) rfl) ?_
    go_upto_region 2 with fail
    refine wp_region_lit ?_
    refine q3.t (.int .i64 ((0 : Nat) : Int)) (ex_assign rfl rfl) fun _ q4 => ?_;clear q3
    refine wpList_nil ?_
    go_wp2
    refine bodyPost_ret (results_tmp rfl _ _ _) rfl ?_
    rw [getD_of (q4.a 4 rfl)]
    exact ⟨by rw [h1, su_1]; rfl, rfl⟩
  · refine q2.t (.bool false) (ex_bin (Y := .int .i64 (1 : Int)) rfl (q2.e (j := 6) rfl) rfl (eqF20 _ _ (by omega) _)) fun _ q3 => ?_;clear q2
    refine wpList_nil ?_
    go_upto_region 3 with fail
    refine wp_cond_false (q3.e (j := 7) rfl) ?_
    go_upto_region 3 with fail
    refine wp_region_lit ?_
    refine q3.t (.int .i64 ((n : Nat) : Int)) (ex_move rfl (q3.e (j := 1) rfl)) fun _ q4 => ?_;clear q3
    refine vcallP (want_none rfl) (ex_call rfl (by simp only [List.map_toArray, List.map_cons, List.map_nil, (q4.e (j := 8) rfl), evc] <;> rfl) rfl) (left20 n w (by omega) hn) rfl q4.z (by decide) ?_
    rintro e w9 ⟨rfl, hw9⟩
    refine ⟨_, rfl, q4.k fun _ q5 => ?_⟩;clear q4
    have hw9 := hw9.symm
    subst hw9
    refine q5.t (.int .i64 ((lft n : Nat) : Int)) (ex_assign rfl (q5.e (j := 9) rfl)) fun _ q6 => ?_;clear q5
    refine wpList_nil ?_
    go_upto_region 4 with fail
    refine wp_region_lit ?_
    have hb := lft_b (n := n) (by omega)
    refine q6.t (.int .i64 ((p : Nat) : Int)) (ex_move rfl (q6.e (j := 0) rfl)) fun _ q7 => ?_;clear q6
    refine q7.t (.int .i64 ((lft n : Nat) : Int)) (ex_move rfl (q7.e (j := 5) rfl)) fun _ q8 => ?_;clear q7
    by_cases hp : p ≤ lft n
    · refine q8.t (.bool true) (ex_bin rfl (q8.e (j := 10) rfl) (q8.e (j := 11) rfl) (leT20 _ _ (by omega) _)) fun _ q9 => ?_;clear q8
      refine wpList_nil ?_
      go_upto_region 5 with fail
      refine wp_cond_true (q9.e (j := 12) rfl) ?_
      go_upto_region 5 with fail
      refine wp_region_lit ?_
      refine q9.t (.int .i64 ((p : Nat) : Int)) (ex_move rfl (q9.e (j := 0) rfl)) fun _ q10 => ?_;clear q9
      refine q10.t (.int .i64 ((lft n : Nat) : Int)) (ex_move rfl (q10.e (j := 5) rfl)) fun _ q11 => ?_;clear q10
      refine vcallP (want_none rfl) (ex_call rfl (by simp only [List.map_toArray, List.map_cons, List.map_nil, (q11.e (j := 13) rfl), (q11.e (j := 14) rfl), evc] <;> rfl) rfl) (ih p (lft n) w (by omega) (by omega) hp1 hp) rfl q11.z (by decide) ?_
      rintro e w9 ⟨rfl, hw9⟩
      refine ⟨_, rfl, q11.k fun _ q12 => ?_⟩;clear q11
      have hw9 := hw9.symm
      subst hw9
      have hsl := su_le (lft n) p (by omega)
      refine q12.t (.int .i64 ((1 + su p (lft n) : Nat) : Int)) (ex_bin (X := .int .i64 ((1 : Nat) : Int)) rfl rfl (q12.e (j := 15) rfl) (addP _ _ 1 (su p (lft n)) (by omega) _)) fun _ q13 => ?_;clear q12
      refine q13.t (.int .i64 ((1 + su p (lft n) : Nat) : Int)) (ex_assign rfl (q13.e (j := 16) rfl)) fun _ q14 => ?_;clear q13
      refine wpList_nil ?_
      go_wp2
      refine bodyPost_ret (results_tmp rfl _ _ _) rfl ?_
      rw [getD_of (q14.a 4 rfl)]
      exact ⟨by rw [su_l p n (by omega) hp]; rfl, rfl⟩
    · refine q8.t (.bool false) (ex_bin rfl (q8.e (j := 10) rfl) (q8.e (j := 11) rfl) (leF20 _ _ (by omega) _)) fun _ q9 => ?_;clear q8
      refine wpList_nil ?_
      go_upto_region 6 with fail
      refine wp_cond_false (q9.e (j := 12) rfl) ?_
      go_upto_region 6 with fail
      refine wp_region_lit ?_
      refine q9.t (.int .i64 ((p : Nat) : Int)) (ex_move rfl (q9.e (j := 0) rfl)) fun _ q10 => ?_;clear q9
      refine q10.t (.int .i64 ((lft n : Nat) : Int)) (ex_move rfl (q10.e (j := 5) rfl)) fun _ q11 => ?_;clear q10
      refine q11.t (.int .i64 ((p - lft n : Nat) : Int)) (ex_bin rfl (q11.e (j := 17) rfl) (q11.e (j := 18) rfl) (subP _ _ p (lft n) (by omega) (by omega) _)) fun _ q12 => ?_;clear q11
      refine q12.t (.int .i64 ((n : Nat) : Int)) (ex_move rfl (q12.e (j := 1) rfl)) fun _ q13 => ?_;clear q12
      refine q13.t (.int .i64 ((lft n : Nat) : Int)) (ex_move rfl (q13.e (j := 5) rfl)) fun _ q14 => ?_;clear q13
      refine q14.t (.int .i64 ((n - lft n : Nat) : Int)) (ex_bin rfl (q14.e (j := 20) rfl) (q14.e (j := 21) rfl) (subP _ _ n (lft n) (by omega) (by omega) _)) fun _ q15 => ?_;clear q14
      refine vcallP (want_none rfl) (ex_call rfl (by simp only [List.map_toArray, List.map_cons, List.map_nil, (q15.e (j := 19) rfl), (q15.e (j := 22) rfl), evc] <;> rfl) rfl) (ih (p - lft n) (n - lft n) w (by omega) (by omega) (by omega) (by omega)) rfl q15.z (by decide) ?_
      rintro e w9 ⟨rfl, hw9⟩
      refine ⟨_, rfl, q15.k fun _ q16 => ?_⟩;clear q15
      have hw9 := hw9.symm
      subst hw9
      have hsl := su_le (n - lft n) (p - lft n) (by omega)
      refine q16.t (.int .i64 ((1 + su (p - lft n) (n - lft n) : Nat) : Int)) (ex_bin (X := .int .i64 ((1 : Nat) : Int)) rfl rfl (q16.e (j := 23) rfl) (addP _ _ 1 (su (p - lft n) (n - lft n)) (by omega) _)) fun _ q17 => ?_;clear q16
      refine q17.t (.int .i64 ((1 + su (p - lft n) (n - lft n) : Nat) : Int)) (ex_assign rfl (q17.e (j := 24) rfl)) fun _ q18 => ?_;clear q17
      refine wpList_nil ?_
      go_wp2
      refine bodyPost_ret (results_tmp rfl _ _ _) rfl ?_
      rw [getD_of (q18.a 4 rfl)]
      exact ⟨by rw [su_r p n (by omega) hp]; rfl, rfl⟩
theorem stepsUp20 (p n : Nat) (w : World) (hn : n ≤ 9223372036854775807) (hp1 : 1 ≤ p) (hp2 : p ≤ n) :
    Calls Try.prog 54 #[.int .i64 (p : Int), .int .i64 (n : Int)] w fun e w' => e = .returned (.int .i64 ((su p n : Nat) : Int)) ∧ w' = w := by
  have H : ∀ m, ∀ (p n : Nat) (w : World), n < m → n ≤ 9223372036854775807 → 1 ≤ p → p ≤ n → Calls Try.prog 54 #[.int .i64 (p : Int), .int .i64 (n : Int)] w fun e w' => e = .returned (.int .i64 ((su p n : Nat) : Int)) ∧ w' = w := by
    intro m
    induction m with
    | zero => intro p n w h; omega
    | succ m ih => exact fun p n w hm hn h1 h2 => stepsUp_step m ih p n w (by omega) hn h1 h2
  exact H (n + 1) p n w (by omega) hn hp1 hp2
set_option maxHeartbeats 2000000 in
theorem stepsAcross_step (m : Nat) (ih : ∀ (p n : Nat) (wh : Bool) (w : World), n < m → n ≤ 9223372036854775807 → 1 ≤ p → p ≤ n → Calls Try.prog 83 #[.int .i64 (p : Int), .int .i64 (n : Int), .bool wh] w fun e w' => e = .returned (.int .i64 ((sa p n wh : Nat) : Int)) ∧ w' = w) (p n : Nat) (wh : Bool) (w : World) (hm : n ≤ m) (hn : n ≤ 9223372036854775807) (hp1 : 1 ≤ p) (hp2 : p ≤ n) :
    Calls Try.prog 83 #[.int .i64 (p : Int), .int .i64 (n : Int), .bool wh] w fun e w' => e = .returned (.int .i64 ((sa p n wh : Nat) : Int)) ∧ w' = w := by
  go_enter Try.func83, Try.ntmps83
  go_upto_region 0 with fail
  refine wp_region_lit ?_
  refine vl_gen (fun T => Rp T 30 [(2, gw true (.bool wh)), (1, gw true (.int .i64 ((n : Nat) : Int))), (0, gw true (.int .i64 ((p : Nat) : Int)))]) ((((Rp.nil rfl).cons rfl).cons rfl).cons rfl) (fun Z0 q0 => ?_)
  refine q0.t (.int .i64 (0 : Int)) (ex_assign rfl rfl) fun _ q1 => ?_;clear q0
  refine wpList_nil ?_
  go_upto_region 1 with fail
  refine wp_region_lit ?_
  refine q1.t (.int .i64 ((p : Nat) : Int)) (ex_move rfl (q1.e (j := 0) rfl)) fun _ q2 => ?_;clear q1
  refine q2.t (.int .i64 ((n : Nat) : Int)) (ex_move rfl (q2.e (j := 1) rfl)) fun _ q3 => ?_;clear q2
  by_cases h1 : p = n
  · refine q3.t (.bool true) (ex_bin rfl (q3.e (j := 8) rfl) (q3.e (j := 9) rfl) (eqT20 _ _ (by omega) _)) fun _ q4 => ?_;clear q3
    refine wpList_nil ?_
    go_upto_region 2 with fail
    refine wp_cond_true (q4.e (j := 10) rfl) ?_
    go_upto_region 2 with fail
    refine wp_region_lit ?_
    refine q4.t (.bool wh) (ex_move rfl (q4.e (j := 2) rfl)) fun _ q5 => ?_;clear q4
    refine wpList_nil ?_
    have HE := hide h1
    clear h1
    cases wh
    · go_upto_region 4 with fail
      refine wp_cond_false (q5.e (j := 11) rfl) ?_
      go_upto_region 4 with fail
      refine wp_region_lit ?_
      refine q5.t (.int .i64 ((1 : Nat) : Int)) (ex_assign rfl rfl) fun _ q6 => ?_;clear q5
      refine wpList_nil ?_
      go_wp2
      refine bodyPost_ret (results_tmp rfl _ _ _) rfl ?_
      rw [getD_of (q6.a 6 rfl)]
      exact ⟨by rw [HE.out, sa_e]; rfl, rfl⟩
    · go_upto_region 3 with fail
      refine wp_cond_true (q5.e (j := 11) rfl) ?_
      go_upto_region 3 with fail
      refine wp_region_lit ?_
      refine q5.t (.int .i64 ((0 : Nat) : Int)) (ex_assign rfl rfl) fun _ q6 => ?_;clear q5
      refine wpList_nil ?_
      go_wp2
      refine bodyPost_ret (results_tmp rfl _ _ _) rfl ?_
      rw [getD_of (q6.a 6 rfl)]
      exact ⟨by rw [HE.out, sa_e]; rfl, rfl⟩
  · refine q3.t (.bool false) (ex_bin rfl (q3.e (j := 8) rfl) (q3.e (j := 9) rfl) (eqF20 _ _ (by omega) _)) fun _ q4 => ?_;clear q3
    refine wpList_nil ?_
    go_upto_region 5 with fail
    refine wp_cond_false (q4.e (j := 10) rfl) ?_
    go_upto_region 5 with fail
    refine wp_region_lit ?_
    refine q4.t (.int .i64 ((n : Nat) : Int)) (ex_move rfl (q4.e (j := 1) rfl)) fun _ q5 => ?_;clear q4
    refine vcallP (want_none rfl) (ex_call rfl (by simp only [List.map_toArray, List.map_cons, List.map_nil, (q5.e (j := 12) rfl), evc] <;> rfl) rfl) (left20 n w (by omega) hn) rfl q5.z (by decide) ?_
    rintro e w9 ⟨rfl, hw9⟩
    refine ⟨_, rfl, q5.k fun _ q6 => ?_⟩;clear q5
    have hw9 := hw9.symm
    subst hw9
    refine q6.t (.int .i64 ((lft n : Nat) : Int)) (ex_assign rfl (q6.e (j := 13) rfl)) fun _ q7 => ?_;clear q6
    refine wpList_nil ?_
    go_upto_region 6 with fail
    refine wp_region_lit ?_
    have hb := lft_b (n := n) (by omega)
    refine q7.t (.int .i64 ((p : Nat) : Int)) (ex_move rfl (q7.e (j := 0) rfl)) fun _ q8 => ?_;clear q7
    refine q8.t (.int .i64 ((lft n : Nat) : Int)) (ex_move rfl (q8.e (j := 7) rfl)) fun _ q9 => ?_;clear q8
    by_cases hp : p ≤ lft n
    · refine q9.t (.bool true) (ex_bin rfl (q9.e (j := 14) rfl) (q9.e (j := 15) rfl) (leT20 _ _ (by omega) _)) fun _ q10 => ?_;clear q9
      refine wpList_nil ?_
      go_upto_region 7 with fail
      refine wp_cond_true (q10.e (j := 16) rfl) ?_
      go_upto_region 7 with fail
      refine wp_region_lit ?_
      refine q10.t (.int .i64 ((p : Nat) : Int)) (ex_move rfl (q10.e (j := 0) rfl)) fun _ q11 => ?_;clear q10
      refine q11.t (.int .i64 ((lft n : Nat) : Int)) (ex_move rfl (q11.e (j := 7) rfl)) fun _ q12 => ?_;clear q11
      refine q12.t (.bool wh) (ex_move rfl (q12.e (j := 2) rfl)) fun _ q13 => ?_;clear q12
      refine vcallP (want_none rfl) (ex_call rfl (by simp only [List.map_toArray, List.map_cons, List.map_nil, (q13.e (j := 17) rfl), (q13.e (j := 18) rfl), (q13.e (j := 19) rfl), evc] <;> rfl) rfl) (ih p (lft n) wh w (by omega) (by omega) hp1 hp) rfl q13.z (by decide) ?_
      rintro e w9 ⟨rfl, hw9⟩
      refine ⟨_, rfl, q13.k fun _ q14 => ?_⟩;clear q13
      have hw9 := hw9.symm
      subst hw9
      have hsl := sa_le (lft n) p wh hp1 hp
      refine q14.t (.int .i64 ((1 + sa p (lft n) wh : Nat) : Int)) (ex_bin (X := .int .i64 ((1 : Nat) : Int)) rfl rfl (q14.e (j := 20) rfl) (addP _ _ 1 (sa p (lft n) wh) (by omega) _)) fun _ q15 => ?_;clear q14
      refine q15.t (.int .i64 ((1 + sa p (lft n) wh : Nat) : Int)) (ex_assign rfl (q15.e (j := 21) rfl)) fun _ q16 => ?_;clear q15
      refine wpList_nil ?_
      go_wp2
      refine bodyPost_ret (results_tmp rfl _ _ _) rfl ?_
      rw [getD_of (q16.a 6 rfl)]
      exact ⟨by rw [sa_l p n wh (by omega) hp]; rfl, rfl⟩
    · refine q9.t (.bool false) (ex_bin rfl (q9.e (j := 14) rfl) (q9.e (j := 15) rfl) (leF20 _ _ (by omega) _)) fun _ q10 => ?_;clear q9
      refine wpList_nil ?_
      go_upto_region 8 with fail
      refine wp_cond_false (q10.e (j := 16) rfl) ?_
      go_upto_region 8 with fail
      refine wp_region_lit ?_
      refine q10.t (.int .i64 ((p : Nat) : Int)) (ex_move rfl (q10.e (j := 0) rfl)) fun _ q11 => ?_;clear q10
      refine q11.t (.int .i64 ((lft n : Nat) : Int)) (ex_move rfl (q11.e (j := 7) rfl)) fun _ q12 => ?_;clear q11
      refine q12.t (.int .i64 ((p - lft n : Nat) : Int)) (ex_bin rfl (q12.e (j := 22) rfl) (q12.e (j := 23) rfl) (subP _ _ p (lft n) (by omega) (by omega) _)) fun _ q13 => ?_;clear q12
      refine q13.t (.int .i64 ((n : Nat) : Int)) (ex_move rfl (q13.e (j := 1) rfl)) fun _ q14 => ?_;clear q13
      refine q14.t (.int .i64 ((lft n : Nat) : Int)) (ex_move rfl (q14.e (j := 7) rfl)) fun _ q15 => ?_;clear q14
      refine q15.t (.int .i64 ((n - lft n : Nat) : Int)) (ex_bin rfl (q15.e (j := 25) rfl) (q15.e (j := 26) rfl) (subP _ _ n (lft n) (by omega) (by omega) _)) fun _ q16 => ?_;clear q15
      refine vcallP (want_none rfl) (ex_call rfl (by simp only [List.map_toArray, List.map_cons, List.map_nil, (q16.e (j := 24) rfl), (q16.e (j := 27) rfl), evc] <;> rfl) rfl) (ih (p - lft n) (n - lft n) false w (by omega) (by omega) (by omega) (by omega)) rfl q16.z (by decide) ?_
      rintro e w9 ⟨rfl, hw9⟩
      refine ⟨_, rfl, q16.k fun _ q17 => ?_⟩;clear q16
      have hw9 := hw9.symm
      subst hw9
      have hsl := sa_le (n - lft n) (p - lft n) false (by omega) (by omega)
      refine q17.t (.int .i64 ((1 + sa (p - lft n) (n - lft n) false : Nat) : Int)) (ex_bin (X := .int .i64 ((1 : Nat) : Int)) rfl rfl (q17.e (j := 28) rfl) (addP _ _ 1 (sa (p - lft n) (n - lft n) false) (by omega) _)) fun _ q18 => ?_;clear q17
      refine q18.t (.int .i64 ((1 + sa (p - lft n) (n - lft n) false : Nat) : Int)) (ex_assign rfl (q18.e (j := 29) rfl)) fun _ q19 => ?_;clear q18
      refine wpList_nil ?_
      go_wp2
      refine bodyPost_ret (results_tmp rfl _ _ _) rfl ?_
      rw [getD_of (q19.a 6 rfl)]
      exact ⟨by rw [sa_r p n wh (by omega) h1 hp]; rfl, rfl⟩
theorem stepsAcross20 (p n : Nat) (wh : Bool) (w : World) (hn : n ≤ 9223372036854775807) (hp1 : 1 ≤ p) (hp2 : p ≤ n) :
    Calls Try.prog 83 #[.int .i64 (p : Int), .int .i64 (n : Int), .bool wh] w fun e w' => e = .returned (.int .i64 ((sa p n wh : Nat) : Int)) ∧ w' = w := by
  have H : ∀ m, ∀ (p n : Nat) (wh : Bool) (w : World), n < m → n ≤ 9223372036854775807 → 1 ≤ p → p ≤ n → Calls Try.prog 83 #[.int .i64 (p : Int), .int .i64 (n : Int), .bool wh] w fun e w' => e = .returned (.int .i64 ((sa p n wh : Nat) : Int)) ∧ w' = w := by
    intro m
    induction m with
    | zero => intro p n wh w h; omega
    | succ m ih => exact fun p n wh w hm hn h1 h2 => stepsAcross_step m ih p n wh w (by omega) hn h1 h2
  exact H (n + 1) p n wh w (by omega) hn hp1 hp2
def sbN (m n : Nat) : Nat := if m = 0 then 0 else sa m n true
set_option maxHeartbeats 2000000 in
theorem stepsBetween20 (p n : Nat) (w : World) (hn : n ≤ 9223372036854775807) (hp2 : p ≤ n) :
    Calls Try.prog 58 #[.int .i64 (p : Int), .int .i64 (n : Int)] w fun e w' => e = .returned (.int .i64 ((sbN p n : Nat) : Int)) ∧ w' = w := by
  go_enter Try.func58, Try.ntmps58
  go_upto_region 0 with fail
  refine wp_region_lit ?_
  refine vl_gen (fun T => Rp T 10 [(1, gw true (.int .i64 ((n : Nat) : Int))), (0, gw true (.int .i64 ((p : Nat) : Int)))]) (((Rp.nil rfl).cons rfl).cons rfl) (fun Z0 q0 => ?_)
  refine q0.t (.int .i64 (0 : Int)) (ex_assign rfl rfl) fun _ q1 => ?_;clear q0
  refine wpList_nil ?_
  go_upto_region 1 with fail
  refine wp_region_lit ?_
  refine q1.t (.int .i64 ((p : Nat) : Int)) (ex_move rfl (q1.e (j := 0) rfl)) fun _ q2 => ?_;clear q1
  by_cases h1 : p = 0
  · refine q2.t (.bool true) (ex_bin (Y := .int .i64 (0 : Int)) rfl (q2.e (j := 5) rfl) rfl (eqT20 _ _ (by omega) _)) fun _ q3 => ?_;clear q2
    refine wpList_nil ?_
    go_upto_region 2 with fail
    refine wp_cond_true (q3.e (j := 6) rfl) ?_
    go_upto_region 2 with fail
    refine wp_region_lit ?_
    refine q3.t (.int .i64 ((0 : Nat) : Int)) (ex_assign rfl rfl) fun _ q4 => ?_;clear q3
    refine wpList_nil ?_
    go_wp2
    refine bodyPost_ret (results_tmp rfl _ _ _) rfl ?_
    rw [getD_of (q4.a 4 rfl)]
    exact ⟨by unfold sbN; rw [if_pos h1]; rfl, rfl⟩
  · refine q2.t (.bool false) (ex_bin (Y := .int .i64 (0 : Int)) rfl (q2.e (j := 5) rfl) rfl (eqF20 _ _ (by omega) _)) fun _ q3 => ?_;clear q2
    refine wpList_nil ?_
    go_upto_region 3 with fail
    refine wp_cond_false (q3.e (j := 6) rfl) ?_
    go_upto_region 3 with fail
    refine wp_region_lit ?_
    refine q3.t (.int .i64 ((p : Nat) : Int)) (ex_move rfl (q3.e (j := 0) rfl)) fun _ q4 => ?_;clear q3
    refine q4.t (.int .i64 ((n : Nat) : Int)) (ex_move rfl (q4.e (j := 1) rfl)) fun _ q5 => ?_;clear q4
    refine vcallP (want_none rfl) (ex_call rfl (by simp only [List.map_toArray, List.map_cons, List.map_nil, (q5.e (j := 7) rfl), (q5.e (j := 8) rfl), evc] <;> rfl) rfl) (stepsAcross20 p n true w hn (by omega) hp2) rfl q5.z (by decide) ?_
    rintro e w9 ⟨rfl, hw9⟩
    refine ⟨_, rfl, q5.k fun _ q6 => ?_⟩;clear q5
    have hw9 := hw9.symm
    subst hw9
    refine q6.t (.int .i64 ((sa p n true : Nat) : Int)) (ex_assign rfl (q6.e (j := 9) rfl)) fun _ q7 => ?_;clear q6
    refine wpList_nil ?_
    go_wp2
    refine bodyPost_ret (results_tmp rfl _ _ _) rfl ?_
    rw [getD_of (q7.a 4 rfl)]
    exact ⟨by unfold sbN; rw [if_neg h1]; rfl, rfl⟩
end Go.Proofs.Ytfafhlahbhopaaa
namespace Go.Proofs.Ytfafhlahbhopaaa
open Go.RowKit Go.Maps
open Classical
theorem eqHZ (x y : Operand) (h k : Hs) (w : World) : (do eqGuard .eql 24 x y h.val k.val; binOp .eql 24 h.val k.val : Sem Value).run Try.prog w = .ok (.bool (decide (h.v = k.v))) w := eqlH x y h.p k.p w
theorem neHZ (x y : Operand) (h k : Hs) (w : World) : (do eqGuard .neq 24 x y h.val k.val; binOp .neq 24 h.val k.val : Sem Value).run Try.prog w = .ok (.bool (!decide (h.v = k.v))) w := neqH x y h.p k.p w
theorem resTH {fn : Func} {j k : Tmp} {x : Value} {h : Hs} {q : Nat} {T : TypeId} {tmps : Array Value} {w : World} (hf : fn.results = #[.tmp j, .cell k 24]) (hj : tmps[j]? = some (gw true x)) (hk : tmps[k]? = some (gw true (.pointer (some ⟨q, 0, none⟩)))) (hb : BB w q T h.cs) : (results fn tmps).run Try.prog w = .ok (.tuple #[x, h.val]) w := by
  have := run_loadVar_mid (P := Try.prog) w q 0 24 h.cs _ (fun j v hv => by rw [Nat.zero_add]; rw [hb.cell]; exact hv) Try.underlying24 rfl (by rw [h.len]; exact i32h)
  have e1 : tmps.getD j undef = x := getD_of hj
  have e2 : tmps.getD k undef = .pointer (some ⟨q, 0, none⟩) := getD_of hk
  simp only [results, hf]
  simp only [Array.getD_eq_getD_getElem?] at e1 e2
  have ev : h.val = .agg h.cs.toArray := rfl
  rw [ev]
  clear ev hb
  generalize h.cs.toArray = A at *
  simp [Sem.run_bind, Result.andThen, e1, e2, asAddr, this]
  first | done | rfl
theorem resHH {fn : Func} {j k : Tmp} {h1 h2 : Hs} {q1 q2 : Nat} {T : TypeId} {tmps : Array Value} {w : World} (hf : fn.results = #[.cell j 24, .cell k 24]) (hj : tmps[j]? = some (gw true (.pointer (some ⟨q1, 0, none⟩)))) (hk : tmps[k]? = some (gw true (.pointer (some ⟨q2, 0, none⟩)))) (hb1 : BB w q1 T h1.cs) (hb2 : BB w q2 T h2.cs) : (results fn tmps).run Try.prog w = .ok (.tuple #[h1.val, h2.val]) w := by
  have l1 := run_loadVar_mid (P := Try.prog) w q1 0 24 h1.cs _ (fun j v hv => by rw [Nat.zero_add]; rw [hb1.cell]; exact hv) Try.underlying24 rfl (by rw [h1.len]; exact i32h)
  have l2 := run_loadVar_mid (P := Try.prog) w q2 0 24 h2.cs _ (fun j v hv => by rw [Nat.zero_add]; rw [hb2.cell]; exact hv) Try.underlying24 rfl (by rw [h2.len]; exact i32h)
  have e1 : tmps.getD j undef = .pointer (some ⟨q1, 0, none⟩) := getD_of hj
  have e2 : tmps.getD k undef = .pointer (some ⟨q2, 0, none⟩) := getD_of hk
  simp only [results, hf]
  simp only [Array.getD_eq_getD_getElem?] at e1 e2
  have ev1 : h1.val = .agg h1.cs.toArray := rfl
  have ev2 : h2.val = .agg h2.cs.toArray := rfl
  rw [ev1, ev2]
  clear ev1 ev2 hb1 hb2
  generalize h1.cs.toArray = A1 at *
  generalize h2.cs.toArray = A2 at *
  simp [Sem.run_bind, Result.andThen, e1, e2, asAddr, l1, l2]
  first | done | rfl
set_option maxHeartbeats 2000000 in
theorem parted20 (P : List Hs) (a : Option Addr) (n c : Nat) (w : World) (h : SlY yH w a n c P) (hn : 1 ≤ n) (hn2 : n ≤ 9223372036854775807) :
    Calls Try.prog 82 #[.slice a n c] w fun e w' => ∃ x, e = .returned (.tuple #[.slice a (n - 1) c, x.val]) ∧ x = P.getD (P.length - 1) zH ∧ SlY yH w' a n c P ∧ Below w.heap.size w w' := by
  go_enter Try.func82, Try.ntmps82
  go_upto_region 0 with fail
  refine wp_region_lit ?_
  refine vl_gen (fun T => Rp T 15 [(0, gw true (.slice a n c))]) ((Rp.nil rfl).cons rfl) (fun Z0 q0 => ?_)
  have hln := h.len
  have hcap := h.cap
  obtain ⟨q, o, rfl, hq, hl⟩ := h.place (by rintro rfl; simp at hln; omega)
  obtain ⟨x, hx⟩ : ∃ x, P[n - 1]? = some x := ⟨_, List.getElem?_eq_getElem (by omega)⟩
  have hxe : P.getD (P.length - 1) zH = x := by rw [hln, List.getD_eq_getElem?_getD, hx]; rfl
  have HX := hide hxe
  clear hxe
  refine q0.t (.slice none 0 0) (ex_assign rfl rfl) fun _ q1 => ?_;clear q0
  obtain ⟨w1, hw1⟩ : ∃ y, y = w.alloc (.cells (zH.cs).toArray 24) := ⟨_, rfl⟩
  refine vw (.pointer (some ⟨w.heap.size, 0, none⟩)) w1 (want_none rfl) (ex_al rfl (by rw [hw1]; exact alH _)) rfl q1.z (by decide) (q1.k fun _ q2 => ?_);clear q1
  have Bw1 : BB w1 w.heap.size 24 (zH.cs) := by rw [hw1]; exact BB.new _ _ _
  have bw1 : Below w.heap.size w w1 := by rw [hw1]; exact (Below.refl _ _).alloc (Nat.le_refl _) _
  have zw1 : w1.heap.size = w.heap.size + 1 := by rw [hw1]; exact World.size_alloc _ _
  clear hw1
  refine wpList_nil ?_
  go_upto_region 1 with fail
  refine wp_region_lit ?_
  refine q2.t (.slice (some ⟨q, o, none⟩) n c) (ex_move rfl (q2.e (j := 0) rfl)) fun _ q3 => ?_;clear q2
  refine q3.t (.int .i64 ((n : Nat) : Int)) (ex_lenG rfl rfl Try.underlying42 (q3.e (j := 5) rfl)) fun _ q4 => ?_;clear q3
  refine q4.t (.int .i64 ((n - 1 : Nat) : Int)) (ex_bin (Y := .int .i64 ((1 : Nat) : Int)) rfl (q4.e (j := 6) rfl) rfl (subP _ _ n 1 (by omega) (by omega) _)) fun _ q5 => ?_;clear q4
  refine q5.t (.int .i64 ((n - 1 : Nat) : Int)) (ex_assign rfl (q5.e (j := 7) rfl)) fun _ q6 => ?_;clear q5
  refine wpList_nil ?_
  go_upto_region 2 with fail
  refine vg_start (fun k => k == 8) (fun v => Below w1.heap.size w1 v) (by kernel_rfl) ?_
  have hy0 : Below w1.heap.size w1 w1.drew := (Below.refl _ _).drew
  have hzy0 : w1.drew.heap.size = w1.heap.size := rfl
  generalize w1.drew = y0 at *
  have hl1 : LieY yH w1 q o P := hl.upd (S := fun _ => False) (Upd.of_below bw1) hq id
  refine vg_takeW 0 true (.slice (some ⟨q, o, none⟩) n c) rfl (by kernel_rfl) (by kernel_rfl) (by kernel_rfl) (by kernel_rfl) (want_none rfl) (fun hc v => ex_move rfl (q6.e (j := 0) rfl)) rfl q6.z (by decide) (fun _ => hy0) (q6.k fun _ q7 => ?_);clear q6
  refine vg_takeW 1 true (.int .i64 ((n - 1 : Nat) : Int)) rfl (by kernel_rfl) (by kernel_rfl) (by kernel_rfl) (by kernel_rfl) (want_none rfl) (fun hc v => ex_move rfl (q7.e (j := 4) rfl)) rfl q7.z (by decide) (fun _ => hy0) (q7.k fun _ q8 => ?_);clear q7
  refine vg_takeW 2 true (.slice (some ⟨q, o, none⟩) (n - 1) c) rfl (by kernel_rfl) (by kernel_rfl) (by kernel_rfl) (by kernel_rfl) (want_none rfl) (fun hc v => ex_sl19 rfl (q8.e (j := 8) rfl) rfl (congrArg some (q8.e (j := 9) rfl)) rfl (slToH q o n c (n - 1) (by omega) hcap _)) rfl q8.z (by decide) (fun _ => hy0) (q8.k fun _ q9 => ?_);clear q8
  refine vg_takeW 3 true (.slice (some ⟨q, o, none⟩) n c) rfl (by kernel_rfl) (by kernel_rfl) (by kernel_rfl) (by kernel_rfl) (want_none rfl) (fun hc v => ex_move rfl (q9.e (j := 0) rfl)) rfl q9.z (by decide) (fun _ => hy0) (q9.k fun _ q10 => ?_);clear q9
  refine vg_takeW 4 true (.int .i64 ((n - 1 : Nat) : Int)) rfl (by kernel_rfl) (by kernel_rfl) (by kernel_rfl) (by kernel_rfl) (want_none rfl) (fun hc v => ex_move rfl (q10.e (j := 4) rfl)) rfl q10.z (by decide) (fun _ => hy0) (q10.k fun _ q11 => ?_);clear q10
  refine vg_takeW 5 true (.pointer (some ⟨q, o + (n - 1) * 32, none⟩)) rfl (by kernel_rfl) (by kernel_rfl) (by kernel_rfl) (by kernel_rfl) (want_none rfl) (fun hc v => ex_ix rfl (q11.e (j := 11) rfl) (q11.e (j := 12) rfl) (ixH q o n c (n - 1) (by omega) _)) rfl q11.z (by decide) (fun _ => hy0) (q11.k fun _ q12 => ?_);clear q11
  refine vg_take 6 true (x.val) rfl (by kernel_rfl) (by kernel_rfl) (by kernel_rfl) (by kernel_rfl) (by kernel_rfl) (by kernel_rfl) (want_none rfl) (fun hc v hv => ex_ld rfl (q12.e (j := 13) rfl) (ldH20 (hl1.upd (S := fun _ => False) (Upd.of_below hv) (by omega) id) hx)) rfl q12.z (by decide) hy0 (q12.k fun _ q13 => ?_);clear q12
  refine vg_takeW 7 true (.slice (some ⟨q, o, none⟩) (n - 1) c) rfl (by kernel_rfl) (by kernel_rfl) (by kernel_rfl) (by kernel_rfl) (want_none rfl) (fun hc v => ex_assign rfl (q13.e (j := 10) rfl)) rfl q13.z (by decide) (fun _ => hy0) (q13.k fun _ q14 => ?_);clear q13
  have Bh := Bw1.later hy0
  obtain ⟨w3, hw3⟩ : ∃ y, y = y0.setCells w.heap.size 0 (x).cs := ⟨_, rfl⟩
  refine vg_store 8 w3 rfl (by kernel_rfl) (by kernel_rfl) (want_none rfl) (ex_st rfl (q14.e (j := 3) rfl) (q14.e (j := 14) rfl) (by rw [hw3]; exact Bh.stH rfl _)) rfl ?_
  have Bw3 : BB w3 w.heap.size 24 (x).cs := by rw [hw3]; exact Bh.putH rfl _
  have uw3 : Upd (fun k => k = w.heap.size) y0 w3 := by rw [hw3]; exact upd18 _ _ _ _
  clear hw3
  refine vg_done (by kernel_rfl) ?_
  go_wp2
  refine bodyPost_ret (resTH rfl (q14.a 2 rfl) (q14.a 3 rfl) Bw3) rfl ?_
  exact ⟨_, rfl, by rw [HX.out], ((h.later bw1).later hy0).upd uw3 (fun z hz _ => by cases hz; show ¬ q = w.heap.size; omega), (bw1.trans (hy0.mono (by omega))).trans (bel_ge uw3 (by omega) (Nat.le_refl _))⟩
end Go.Proofs.Ytfafhlahbhopaaa
namespace Go.Proofs.Ytfafhlahbhopaaa
open Go.RowKit Go.Maps
open Classical
set_option maxHeartbeats 2000000 in
theorem climb_step (m : Nat) (ih : ∀ (x : Hs) (p n : Nat) (P : List Hs) (a : Option Addr) (k c : Nat) (w : World), SlY yH w a k c P → k = su p n → n < m → n ≤ 9223372036854775807 → 1 ≤ p → p ≤ n → Calls Try.prog 55 #[x.val, .int .i64 (p : Int), .int .i64 (n : Int), .slice a k c] w fun e w' => e = .returned (cl x p n P).val ∧ Below w.heap.size w w') (x : Hs) (p n : Nat) (P : List Hs) (a : Option Addr) (k c : Nat) (w : World) (h : SlY yH w a k c P) (hk : k = su p n) (hm : n ≤ m) (hn : n ≤ 9223372036854775807) (hp1 : 1 ≤ p) (hp2 : p ≤ n) :
    Calls Try.prog 55 #[x.val, .int .i64 (p : Int), .int .i64 (n : Int), .slice a k c] w fun e w' => e = .returned (cl x p n P).val ∧ Below w.heap.size w w' := by
  go_enter Try.func55, Try.ntmps55
  go_upto_region 0 with fail
  refine wp_region_lit ?_
  refine vl_gen (fun T => Rp T 43 [(3, gw true (.slice a k c)), (2, gw true (.int .i64 ((n : Nat) : Int))), (1, gw true (.int .i64 ((p : Nat) : Int))), (0, gw true (x.val))]) (((((Rp.nil rfl).cons rfl).cons rfl).cons rfl).cons rfl) (fun Z0 q0 => ?_)
  have hln := h.len
  obtain ⟨w1, hw1⟩ : ∃ y, y = w.alloc (.cells (x.cs).toArray 24) := ⟨_, rfl⟩
  refine vw (.pointer (some ⟨w.heap.size, 0, none⟩)) w1 (want_none rfl) (ex_box18 rfl (q0.e (j := 0) rfl) (by rw [hw1]; exact bxH20 _ _)) rfl q0.z (by decide) (q0.k fun _ q1 => ?_);clear q0
  have Bw1 : BB w1 w.heap.size 24 (x.cs) := by rw [hw1]; exact BB.new _ _ _
  have bw1 : Below w.heap.size w w1 := by rw [hw1]; exact (Below.refl _ _).alloc (Nat.le_refl _) _
  have zw1 : w1.heap.size = w.heap.size + 1 := by rw [hw1]; exact World.size_alloc _ _
  clear hw1
  obtain ⟨w2, hw2⟩ : ∃ y, y = w1.alloc (.cells (zH.cs).toArray 24) := ⟨_, rfl⟩
  refine vw (.pointer (some ⟨w1.heap.size, 0, none⟩)) w2 (want_none rfl) (ex_al rfl (by rw [hw2]; exact alH _)) rfl q1.z (by decide) (q1.k fun _ q2 => ?_);clear q1
  have Bw2 : BB w2 w1.heap.size 24 (zH.cs) := by rw [hw2]; exact BB.new _ _ _
  have bw2 : Below w1.heap.size w1 w2 := by rw [hw2]; exact (Below.refl _ _).alloc (Nat.le_refl _) _
  have zw2 : w2.heap.size = w1.heap.size + 1 := by rw [hw2]; exact World.size_alloc _ _
  clear hw2
  refine wpList_nil ?_
  go_upto_region 1 with fail
  refine wp_region_lit ?_
  refine q2.t (.int .i64 ((n : Nat) : Int)) (ex_move rfl (q2.e (j := 2) rfl)) fun _ q3 => ?_;clear q2
  by_cases h1 : n = 1
  · refine q3.t (.bool true) (ex_bin (Y := .int .i64 (1 : Int)) rfl (q3.e (j := 12) rfl) rfl (eqT20 _ _ (by omega) _)) fun _ q4 => ?_;clear q3
    refine wpList_nil ?_
    go_upto_region 2 with fail
    refine wp_cond_true (q4.e (j := 13) rfl) ?_
    go_upto_region 2 with fail
    refine wp_region_lit ?_
    refine q4.t (x.val) (ex_ld rfl (q4.e (j := 4) rfl) (Bw1.later bw2).ldH) fun _ q5 => ?_;clear q4
    obtain ⟨w3, hw3⟩ : ∃ y, y = w2.setCells w1.heap.size 0 (x).cs := ⟨_, rfl⟩
    refine vs w3 (want_none rfl) (ex_st rfl (q5.e (j := 8) rfl) (q5.e (j := 14) rfl) (by rw [hw3]; exact Bw2.stH rfl _)) rfl ?_
    have Bw3 : BB w3 w1.heap.size 24 (x).cs := by rw [hw3]; exact Bw2.putH rfl _
    have uw3 : Upd (fun k => k = w1.heap.size) w2 w3 := by rw [hw3]; exact upd18 _ _ _ _
    clear hw3
    refine wpList_nil ?_
    go_wp2
    exact Bw3.res rfl (q5.a 8 rfl) Try.underlying24 rfl (by rw [Hs.len]; exact i32h) ⟨by rw [h1, cl_1]; rfl, (bw1.trans (bw2.mono (by omega))).trans (bel_ge uw3 (by omega) (by omega))⟩
  · refine q3.t (.bool false) (ex_bin (Y := .int .i64 (1 : Int)) rfl (q3.e (j := 12) rfl) rfl (eqF20 _ _ (by omega) _)) fun _ q4 => ?_;clear q3
    refine wpList_nil ?_
    go_upto_region 3 with fail
    refine wp_cond_false (q4.e (j := 13) rfl) ?_
    go_upto_region 3 with fail
    refine wp_region_lit ?_
    refine q4.t (.int .i64 ((n : Nat) : Int)) (ex_move rfl (q4.e (j := 2) rfl)) fun _ q5 => ?_;clear q4
    refine vcallP (want_none rfl) (ex_call rfl (by simp only [List.map_toArray, List.map_cons, List.map_nil, (q5.e (j := 15) rfl), evc] <;> rfl) rfl) (left20 n w2 (by omega) hn) rfl q5.z (by decide) ?_
    rintro e w9 ⟨rfl, hw9⟩
    refine ⟨_, rfl, q5.k fun _ q6 => ?_⟩;clear q5
    have hw9 := hw9.symm
    subst hw9
    refine q6.t (.int .i64 ((lft n : Nat) : Int)) (ex_assign rfl (q6.e (j := 16) rfl)) fun _ q7 => ?_;clear q6
    refine wpList_nil ?_
    go_upto_region 4 with fail
    refine wp_region_lit ?_
    have hb := lft_b (n := n) (by omega)
    have hsu := su_le n p (by omega)
    have hs2 := (h.later bw1).later bw2
    have hk1 : 1 ≤ k := by
      by_cases hp : p ≤ lft n
      · have := su_l p n (by omega) hp; omega
      · have := su_r p n (by omega) hp; omega
    refine q7.t (.slice a k c) (ex_move rfl (q7.e (j := 3) rfl)) fun _ q8 => ?_;clear q7
    refine vcallP (want_none rfl) (ex_call rfl (by simp only [List.map_toArray, List.map_cons, List.map_nil, (q8.e (j := 18) rfl), evc] <;> rfl) rfl) (parted20 P a k c w2 hs2 hk1 (by omega)) rfl q8.z (by decide) ?_
    rintro e w3 ⟨tp, rfl, hy, s3, b3⟩
    refine ⟨_, rfl, q8.k fun _ q9 => ?_⟩;clear q8
    have z3 := b3.size
    refine q9.t (.tuple #[.slice a (k - 1) c, tp.val]) (ex_move rfl (q9.e (j := 19) rfl)) fun _ q10 => ?_;clear q9
    refine q10.t (.slice a (k - 1) c) (ex_ext18 rfl (q10.e (j := 17) rfl) (xt0 _ _ _)) fun _ q11 => ?_;clear q10
    refine q11.t (tp.val) (ex_ext18 rfl (q11.e (j := 17) rfl) (xt1 _ _ _)) fun _ q12 => ?_;clear q11
    obtain ⟨w4, hw4⟩ : ∃ y, y = w3.alloc (.cells (zH.cs).toArray 24) := ⟨_, rfl⟩
    refine vw (.pointer (some ⟨w3.heap.size, 0, none⟩)) w4 (want_none rfl) (ex_al rfl (by rw [hw4]; exact alH _)) rfl q12.z (by decide) (q12.k fun _ q13 => ?_);clear q12
    have Bw4 : BB w4 w3.heap.size 24 (zH.cs) := by rw [hw4]; exact BB.new _ _ _
    have bw4 : Below w3.heap.size w3 w4 := by rw [hw4]; exact (Below.refl _ _).alloc (Nat.le_refl _) _
    have zw4 : w4.heap.size = w3.heap.size + 1 := by rw [hw4]; exact World.size_alloc _ _
    clear hw4
    refine q13.t (.slice a (k - 1) c) (ex_assign rfl (q13.e (j := 20) rfl)) fun _ q14 => ?_;clear q13
    obtain ⟨w5, hw5⟩ : ∃ y, y = w4.setCells w3.heap.size 0 (tp).cs := ⟨_, rfl⟩
    refine vs w5 (want_none rfl) (ex_st rfl (q14.e (j := 11) rfl) (q14.e (j := 21) rfl) (by rw [hw5]; exact Bw4.stH rfl _)) rfl ?_
    have Bw5 : BB w5 w3.heap.size 24 (tp).cs := by rw [hw5]; exact Bw4.putH rfl _
    have uw5 : Upd (fun k => k = w3.heap.size) w4 w5 := by rw [hw5]; exact upd18 _ _ _ _
    clear hw5
    have z5 := uw5.size
    have b5 : Below w3.heap.size w3 w5 := bw4.trans (bel_ge uw5 (by omega) (Nat.le_refl _))
    have s5 := (s3.later b5).take (k - 1) (by omega)
    have d5 : Below w.heap.size w w5 := ((bw1.trans (bw2.mono (by omega))).trans (b3.mono (by omega))).trans (b5.mono (by omega))
    have A5 : BB w5 w.heap.size 24 x.cs := ((Bw1.later bw2).later b3).later b5
    have C5 : BB w5 w1.heap.size 24 zH.cs := (Bw2.later b3).later b5
    clear Bw1 Bw2 Bw4
    have HE : Hid (tp = P.getD (P.length - 1) zH) := hide hy
    clear hy
    have e1 : P.take (k - 1) = P.take (P.length - 1) := by rw [hln]
    have HT := hide e1
    clear e1
    refine wpList_nil ?_
    go_upto_region 5 with fail
    refine wp_region_lit ?_
    refine q14.t (.int .i64 ((p : Nat) : Int)) (ex_move rfl (q14.e (j := 1) rfl)) fun _ q15 => ?_;clear q14
    refine q15.t (.int .i64 ((lft n : Nat) : Int)) (ex_move rfl (q15.e (j := 9) rfl)) fun _ q16 => ?_;clear q15
    by_cases hp : p ≤ lft n
    · refine q16.t (.bool true) (ex_bin rfl (q16.e (j := 22) rfl) (q16.e (j := 23) rfl) (leT20 _ _ (by omega) _)) fun _ q17 => ?_;clear q16
      refine wpList_nil ?_
      go_upto_region 6 with fail
      refine wp_cond_true (q17.e (j := 24) rfl) ?_
      go_upto_region 6 with fail
      refine vg_start (fun k => k == 7) (fun v => BB v w.heap.size 24 x.cs ∧ BB v w3.heap.size 24 tp.cs) (by kernel_rfl) ?_
      have hy0 : Below w5.heap.size w5 w5.drew := (Below.refl _ _).drew
      have hzy0 : w5.drew.heap.size = w5.heap.size := rfl
      generalize w5.drew = y0 at *
      have A6 := A5.later hy0
      have Y6 := Bw5.later hy0
      have C6 := C5.later hy0
      have s6 := s5.later hy0
      refine vg_take 0 true (x.val) rfl (by kernel_rfl) (by kernel_rfl) (by kernel_rfl) (by kernel_rfl) (by kernel_rfl) (by kernel_rfl) (want_none rfl) (fun hc v hv => ex_ld rfl (q17.e (j := 4) rfl) hv.1.ldH) rfl q17.z (by decide) ⟨A6, Y6⟩ (q17.k fun _ q18 => ?_);clear q17
      refine vg_takeW 1 true (.int .i64 ((p : Nat) : Int)) rfl (by kernel_rfl) (by kernel_rfl) (by kernel_rfl) (by kernel_rfl) (want_none rfl) (fun hc v => ex_move rfl (q18.e (j := 1) rfl)) rfl q18.z (by decide) (fun _ => ⟨A6, Y6⟩) (q18.k fun _ q19 => ?_);clear q18
      refine vg_takeW 2 true (.int .i64 ((lft n : Nat) : Int)) rfl (by kernel_rfl) (by kernel_rfl) (by kernel_rfl) (by kernel_rfl) (want_none rfl) (fun hc v => ex_move rfl (q19.e (j := 9) rfl)) rfl q19.z (by decide) (fun _ => ⟨A6, Y6⟩) (q19.k fun _ q20 => ?_);clear q19
      refine vg_takeW 3 true (.slice a (k - 1) c) rfl (by kernel_rfl) (by kernel_rfl) (by kernel_rfl) (by kernel_rfl) (want_none rfl) (fun hc v => ex_move rfl (q20.e (j := 10) rfl)) rfl q20.z (by decide) (fun _ => ⟨A6, Y6⟩) (q20.k fun _ q21 => ?_);clear q20
      refine vg_take 5 true (tp.val) rfl (by kernel_rfl) (by kernel_rfl) (by kernel_rfl) (by kernel_rfl) (by kernel_rfl) (by kernel_rfl) (want_none rfl) (fun hc v hv => ex_ld rfl (q21.e (j := 11) rfl) hv.2.ldH) rfl q21.z (by decide) ⟨A6, Y6⟩ (q21.k fun _ q22 => ?_);clear q21
      refine vg_call 4 rfl (by kernel_rfl) (want_none rfl) (ex_call rfl (by simp only [List.map_toArray, List.map_cons, List.map_nil, (q22.e (j := 25) rfl), (q22.e (j := 26) rfl), (q22.e (j := 27) rfl), (q22.e (j := 28) rfl), evc] <;> rfl) rfl) (ih x p (lft n) (P.take (k - 1)) _ _ _ y0 s6 (by have := su_l p n (by omega) hp; omega) (by omega) (by omega) hp1 hp) rfl q22.z (by decide) ?_
      rintro e d1 ⟨rfl, b1⟩
      have z1 := b1.size
      have C7 := C6.later b1
      refine ⟨_, rfl, ⟨A6.later b1, Y6.later b1⟩, q22.k fun _ q23 => ?_⟩;clear q22
      refine vg_call 6 rfl (by kernel_rfl) (want_none rfl) (ex_call rfl (by simp only [List.map_toArray, List.map_cons, List.map_nil, (q23.e (j := 29) rfl), (q23.e (j := 30) rfl), evc] <;> rfl) rfl) (node20 _ _ d1) rfl q23.z (by decide) ?_
      rintro e d2 ⟨rfl, b2⟩
      have z2 := b2.size
      have C8 := C7.later b2
      have d6 : Below w.heap.size w d2 := ((d5.trans (hy0.mono d5.size)).trans (b1.mono (by omega))).trans (b2.mono (by omega))
      refine ⟨_, rfl, ⟨(A6.later b1).later b2, (Y6.later b1).later b2⟩, q23.k fun _ q24 => ?_⟩;clear q23
      obtain ⟨d7, hd7⟩ : ∃ y, y = d2.setCells w1.heap.size 0 (nd (cl x p (lft n) (P.take (k - 1))) tp).cs := ⟨_, rfl⟩
      refine vg_store 7 d7 rfl (by kernel_rfl) (by kernel_rfl) (want_none rfl) (ex_st rfl (q24.e (j := 8) rfl) (q24.e (j := 31) rfl) (by rw [hd7]; exact C8.stH rfl _)) rfl ?_
      have Bd7 : BB d7 w1.heap.size 24 (nd (cl x p (lft n) (P.take (k - 1))) tp).cs := by rw [hd7]; exact C8.putH rfl _
      have ud7 : Upd (fun k => k = w1.heap.size) d2 d7 := by rw [hd7]; exact upd18 _ _ _ _
      clear hd7
      refine vg_done (by kernel_rfl) ?_
      go_wp2
      exact Bd7.res rfl (q24.a 8 rfl) Try.underlying24 rfl (by rw [Hs.len]; exact i32h) ⟨by rw [cl_l x p n P (by omega) hp, ← HE.out, ← HT.out]; rfl, d6.trans (bel_ge ud7 d6.size (by omega))⟩
    · refine q16.t (.bool false) (ex_bin rfl (q16.e (j := 22) rfl) (q16.e (j := 23) rfl) (leF20 _ _ (by omega) _)) fun _ q17 => ?_;clear q16
      refine wpList_nil ?_
      go_upto_region 7 with fail
      refine wp_cond_false (q17.e (j := 24) rfl) ?_
      go_upto_region 7 with fail
      refine vg_start (fun k => k == 11) (fun v => BB v w.heap.size 24 x.cs ∧ BB v w3.heap.size 24 tp.cs) (by kernel_rfl) ?_
      have hy0 : Below w5.heap.size w5 w5.drew := (Below.refl _ _).drew
      have hzy0 : w5.drew.heap.size = w5.heap.size := rfl
      generalize w5.drew = y0 at *
      have A6 := A5.later hy0
      have Y6 := Bw5.later hy0
      have C6 := C5.later hy0
      have s6 := s5.later hy0
      refine vg_take 0 true (tp.val) rfl (by kernel_rfl) (by kernel_rfl) (by kernel_rfl) (by kernel_rfl) (by kernel_rfl) (by kernel_rfl) (want_none rfl) (fun hc v hv => ex_ld rfl (q17.e (j := 11) rfl) hv.2.ldH) rfl q17.z (by decide) ⟨A6, Y6⟩ (q17.k fun _ q18 => ?_);clear q17
      refine vg_take 1 true (x.val) rfl (by kernel_rfl) (by kernel_rfl) (by kernel_rfl) (by kernel_rfl) (by kernel_rfl) (by kernel_rfl) (want_none rfl) (fun hc v hv => ex_ld rfl (q18.e (j := 4) rfl) hv.1.ldH) rfl q18.z (by decide) ⟨A6, Y6⟩ (q18.k fun _ q19 => ?_);clear q18
      refine vg_takeW 2 true (.int .i64 ((p : Nat) : Int)) rfl (by kernel_rfl) (by kernel_rfl) (by kernel_rfl) (by kernel_rfl) (want_none rfl) (fun hc v => ex_move rfl (q19.e (j := 1) rfl)) rfl q19.z (by decide) (fun _ => ⟨A6, Y6⟩) (q19.k fun _ q20 => ?_);clear q19
      refine vg_takeW 3 true (.int .i64 ((lft n : Nat) : Int)) rfl (by kernel_rfl) (by kernel_rfl) (by kernel_rfl) (by kernel_rfl) (want_none rfl) (fun hc v => ex_move rfl (q20.e (j := 9) rfl)) rfl q20.z (by decide) (fun _ => ⟨A6, Y6⟩) (q20.k fun _ q21 => ?_);clear q20
      refine vg_takeW 4 true (.int .i64 ((p - lft n : Nat) : Int)) rfl (by kernel_rfl) (by kernel_rfl) (by kernel_rfl) (by kernel_rfl) (want_none rfl) (fun hc v => ex_bin rfl (q21.e (j := 34) rfl) (q21.e (j := 35) rfl) (subP _ _ p (lft n) (by omega) (by omega) _)) rfl q21.z (by decide) (fun _ => ⟨A6, Y6⟩) (q21.k fun _ q22 => ?_);clear q21
      refine vg_takeW 5 true (.int .i64 ((n : Nat) : Int)) rfl (by kernel_rfl) (by kernel_rfl) (by kernel_rfl) (by kernel_rfl) (want_none rfl) (fun hc v => ex_move rfl (q22.e (j := 2) rfl)) rfl q22.z (by decide) (fun _ => ⟨A6, Y6⟩) (q22.k fun _ q23 => ?_);clear q22
      refine vg_takeW 6 true (.int .i64 ((lft n : Nat) : Int)) rfl (by kernel_rfl) (by kernel_rfl) (by kernel_rfl) (by kernel_rfl) (want_none rfl) (fun hc v => ex_move rfl (q23.e (j := 9) rfl)) rfl q23.z (by decide) (fun _ => ⟨A6, Y6⟩) (q23.k fun _ q24 => ?_);clear q23
      refine vg_takeW 7 true (.int .i64 ((n - lft n : Nat) : Int)) rfl (by kernel_rfl) (by kernel_rfl) (by kernel_rfl) (by kernel_rfl) (want_none rfl) (fun hc v => ex_bin rfl (q24.e (j := 37) rfl) (q24.e (j := 38) rfl) (subP _ _ n (lft n) (by omega) (by omega) _)) rfl q24.z (by decide) (fun _ => ⟨A6, Y6⟩) (q24.k fun _ q25 => ?_);clear q24
      refine vg_takeW 8 true (.slice a (k - 1) c) rfl (by kernel_rfl) (by kernel_rfl) (by kernel_rfl) (by kernel_rfl) (want_none rfl) (fun hc v => ex_move rfl (q25.e (j := 10) rfl)) rfl q25.z (by decide) (fun _ => ⟨A6, Y6⟩) (q25.k fun _ q26 => ?_);clear q25
      refine vg_call 9 rfl (by kernel_rfl) (want_none rfl) (ex_call rfl (by simp only [List.map_toArray, List.map_cons, List.map_nil, (q26.e (j := 33) rfl), (q26.e (j := 36) rfl), (q26.e (j := 39) rfl), (q26.e (j := 40) rfl), evc] <;> rfl) rfl) (ih x (p - lft n) (n - lft n) (P.take (k - 1)) _ _ _ y0 s6 (by have := su_r p n (by omega) hp; omega) (by omega) (by omega) (by omega) (by omega)) rfl q26.z (by decide) ?_
      rintro e d1 ⟨rfl, b1⟩
      have z1 := b1.size
      have C7 := C6.later b1
      refine ⟨_, rfl, ⟨A6.later b1, Y6.later b1⟩, q26.k fun _ q27 => ?_⟩;clear q26
      refine vg_call 10 rfl (by kernel_rfl) (want_none rfl) (ex_call rfl (by simp only [List.map_toArray, List.map_cons, List.map_nil, (q27.e (j := 32) rfl), (q27.e (j := 41) rfl), evc] <;> rfl) rfl) (node20 _ _ d1) rfl q27.z (by decide) ?_
      rintro e d2 ⟨rfl, b2⟩
      have z2 := b2.size
      have C8 := C7.later b2
      have d6 : Below w.heap.size w d2 := ((d5.trans (hy0.mono d5.size)).trans (b1.mono (by omega))).trans (b2.mono (by omega))
      refine ⟨_, rfl, ⟨(A6.later b1).later b2, (Y6.later b1).later b2⟩, q27.k fun _ q28 => ?_⟩;clear q27
      obtain ⟨d7, hd7⟩ : ∃ y, y = d2.setCells w1.heap.size 0 (nd tp (cl x (p - lft n) (n - lft n) (P.take (k - 1)))).cs := ⟨_, rfl⟩
      refine vg_store 11 d7 rfl (by kernel_rfl) (by kernel_rfl) (want_none rfl) (ex_st rfl (q28.e (j := 8) rfl) (q28.e (j := 42) rfl) (by rw [hd7]; exact C8.stH rfl _)) rfl ?_
      have Bd7 : BB d7 w1.heap.size 24 (nd tp (cl x (p - lft n) (n - lft n) (P.take (k - 1)))).cs := by rw [hd7]; exact C8.putH rfl _
      have ud7 : Upd (fun k => k = w1.heap.size) d2 d7 := by rw [hd7]; exact upd18 _ _ _ _
      clear hd7
      refine vg_done (by kernel_rfl) ?_
      go_wp2
      exact Bd7.res rfl (q28.a 8 rfl) Try.underlying24 rfl (by rw [Hs.len]; exact i32h) ⟨by rw [cl_r x p n P (by omega) hp, ← HE.out, ← HT.out]; rfl, d6.trans (bel_ge ud7 d6.size (by omega))⟩
theorem climb20 (x : Hs) (p n : Nat) (P : List Hs) (a : Option Addr) (k c : Nat) (w : World) (h : SlY yH w a k c P) (hk : k = su p n) (hn : n ≤ 9223372036854775807) (hp1 : 1 ≤ p) (hp2 : p ≤ n) :
    Calls Try.prog 55 #[x.val, .int .i64 (p : Int), .int .i64 (n : Int), .slice a k c] w fun e w' => e = .returned (cl x p n P).val ∧ Below w.heap.size w w' := by
  have H : ∀ m, ∀ (x : Hs) (p n : Nat) (P : List Hs) (a : Option Addr) (k c : Nat) (w : World), SlY yH w a k c P → k = su p n → n < m → n ≤ 9223372036854775807 → 1 ≤ p → p ≤ n → Calls Try.prog 55 #[x.val, .int .i64 (p : Int), .int .i64 (n : Int), .slice a k c] w fun e w' => e = .returned (cl x p n P).val ∧ Below w.heap.size w w' := by
    intro m
    induction m with
    | zero => intro x p n P a k c w _ _ h; omega
    | succ m ih => exact fun x p n P a k c w h hk hm hn h1 h2 => climb_step m ih x p n P a k c w h hk (by omega) hn h1 h2
  exact H (n + 1) x p n P a k c w h hk (by omega) hn hp1 hp2
def icR (g : Hs) (s p : Int) (x : En) (P : List Hs) : Int := if s < 1 then 200 else if p < 1 ∨ s < p then 61 else if P.length ≠ su p.toNat s.toNat then 201 else if (cl (lf x) p.toNat s.toNat P).v = g.v then 0 else 202
set_option maxHeartbeats 2000000 in
theorem included20 (g : Hs) (s p : Int) (x : En) (P : List Hs) (a : Option Addr) (k c : Nat) (w : World) (h : SlY yH w a k c P) (hs : s ≤ 9223372036854775807) (hv : x.o.v.size ≤ 140737488352232) :
    Calls Try.prog 25 #[g.val, .int .i64 s, .int .i64 p, x.val20, .slice a k c] w fun e w' => e = .returned (.int .i64 (icR g s p x P)) ∧ Below w.heap.size w w' := by
  go_enter Try.func25, Try.ntmps25
  go_upto_region 0 with fail
  refine wp_region_lit ?_
  refine vl_gen (fun T => Rp T 38 [(4, gw true (.slice a k c)), (3, gw true (x.val20)), (2, gw true (.int .i64 (p : Int))), (1, gw true (.int .i64 (s : Int))), (0, gw true (g.val))]) ((((((Rp.nil rfl).cons rfl).cons rfl).cons rfl).cons rfl).cons rfl) (fun Z0 q0 => ?_)
  have hln := h.len
  obtain ⟨w1, hw1⟩ : ∃ y, y = w.alloc (.cells (g.cs).toArray 24) := ⟨_, rfl⟩
  refine vw (.pointer (some ⟨w.heap.size, 0, none⟩)) w1 (want_none rfl) (ex_box18 rfl (q0.e (j := 0) rfl) (by rw [hw1]; exact bxH20 _ _)) rfl q0.z (by decide) (q0.k fun _ q1 => ?_);clear q0
  have Bw1 : BB w1 w.heap.size 24 (g.cs) := by rw [hw1]; exact BB.new _ _ _
  have bw1 : Below w.heap.size w w1 := by rw [hw1]; exact (Below.refl _ _).alloc (Nat.le_refl _) _
  have zw1 : w1.heap.size = w.heap.size + 1 := by rw [hw1]; exact World.size_alloc _ _
  clear hw1
  obtain ⟨w2, hw2⟩ : ∃ y, y = w1.alloc (.cells (x.cs).toArray 28) := ⟨_, rfl⟩
  refine vw (.pointer (some ⟨w1.heap.size, 0, none⟩)) w2 (want_none rfl) (ex_box18 rfl (q1.e (j := 3) rfl) (by rw [hw2]; exact bxE20 _ _)) rfl q1.z (by decide) (q1.k fun _ q2 => ?_);clear q1
  have Bw2 : BB w2 w1.heap.size 28 (x.cs) := by rw [hw2]; exact BB.new _ _ _
  have bw2 : Below w1.heap.size w1 w2 := by rw [hw2]; exact (Below.refl _ _).alloc (Nat.le_refl _) _
  have zw2 : w2.heap.size = w1.heap.size + 1 := by rw [hw2]; exact World.size_alloc _ _
  clear hw2
  refine q2.t (.int .i64 (0 : Int)) (ex_assign rfl rfl) fun _ q3 => ?_;clear q2
  refine wpList_nil ?_
  go_upto_region 1 with fail
  refine wp_region_lit ?_
  have d2 : Below w.heap.size w w2 := bw1.trans (bw2.mono (by omega))
  refine q3.t (.int .i64 (s : Int)) (ex_move rfl (q3.e (j := 1) rfl)) fun _ q4 => ?_;clear q3
  by_cases hs1 : s < 1
  · refine q4.t (.bool true) (ex_bin (Y := .int .i64 (1 : Int)) rfl (q4.e (j := 12) rfl) rfl (ltT20 _ _ hs1 _)) fun _ q5 => ?_;clear q4
    refine q5.t (.bool true) (ex_assign rfl (q5.e (j := 13) rfl)) fun _ q6 => ?_;clear q5
    refine wpList_nil ?_
    go_upto_region 2 with fail
    refine wp_cond_true (q6.e (j := 11) rfl) ?_
    go_upto_region 2 with fail
    refine wp_region_lit ?_
    refine q6.t (.int .i64 (200 : Int)) (ex_assign rfl rfl) fun _ q7 => ?_;clear q6
    refine wpList_nil ?_
    go_wp2
    refine bodyPost_ret (results_tmp rfl _ _ _) rfl ?_
    rw [getD_of (q7.a 10 rfl)]
    exact ⟨by unfold icR; rw [if_pos (by omega)]; rfl, d2⟩
  · refine q4.t (.bool false) (ex_bin (Y := .int .i64 (1 : Int)) rfl (q4.e (j := 12) rfl) rfl (ltF20 _ _ hs1 _)) fun _ q5 => ?_;clear q4
    refine q5.t (.bool false) (ex_assign rfl (q5.e (j := 13) rfl)) fun _ q6 => ?_;clear q5
    refine wpList_nil ?_
    go_upto_region 3 with fail
    refine wp_cond_false (q6.e (j := 11) rfl) ?_
    go_upto_region 3 with fail
    refine wp_region_lit ?_
    refine q6.t (.int .i64 (p : Int)) (ex_move rfl (q6.e (j := 2) rfl)) fun _ q7 => ?_;clear q6
    refine q7.t (.bool (decide (p < 1))) (ex_bin (Y := .int .i64 (1 : Int)) rfl (q7.e (j := 15) rfl) rfl (ltZ20 _ _ _ _ _)) fun _ q8 => ?_;clear q7
    refine q8.t (.bool (decide (p < 1))) (ex_move rfl (q8.e (j := 16) rfl)) fun _ q9 => ?_;clear q8
    refine vl ((true && (decide (p < 1) == false))) (.int .i64 (p : Int)) (want_g rfl rfl (q9.a 17 rfl)) (fun hc => ex_move rfl (q9.e (j := 2) rfl)) rfl q9.z (by decide) (q9.k fun _ q10 => ?_);clear q9
    refine vl ((true && (decide (p < 1) == false))) (.int .i64 (s : Int)) (want_g rfl rfl (q10.a 17 rfl)) (fun hc => ex_move rfl (q10.e (j := 1) rfl)) rfl q10.z (by decide) (q10.k fun _ q11 => ?_);clear q10
    refine vl ((true && (decide (p < 1) == false))) (.bool (decide (s < p))) (want_g rfl rfl (q11.a 17 rfl)) (fun hc => ex_bin rfl (ev (q11.a 18 rfl) hc) (ev (q11.a 19 rfl) hc) (gtZ20 _ _ _ _ _)) rfl q11.z (by decide) (q11.k fun _ q12 => ?_);clear q11
    refine q12.t (.bool (decide (p < 1) || decide (s < p))) (ex_or rfl (q12.a 17 rfl) (q12.a 20 rfl) rfl) fun _ q13 => ?_;clear q12
    refine q13.t (.bool (decide (p < 1) || decide (s < p))) (ex_assign rfl (q13.e (j := 21) rfl)) fun _ q14 => ?_;clear q13
    rw [dec_or20] at q14
    refine wpList_nil ?_
    by_cases hb : p < 1 ∨ s < p
    · rw [decide_eq_true hb] at q14
      go_upto_region 4 with fail
      refine wp_cond_true (q14.e (j := 14) rfl) ?_
      go_upto_region 4 with fail
      refine wp_region_lit ?_
      refine q14.t (.int .i64 (61 : Int)) (ex_assign rfl rfl) fun _ q15 => ?_;clear q14
      refine wpList_nil ?_
      go_wp2
      refine bodyPost_ret (results_tmp rfl _ _ _) rfl ?_
      rw [getD_of (q15.a 10 rfl)]
      exact ⟨by unfold icR; rw [if_neg (by omega), if_pos (by omega)]; rfl, d2⟩
    · rw [decide_eq_false hb] at q14
      obtain ⟨j, rfl⟩ : ∃ j : Nat, p = (j : Int) := ⟨p.toNat, by omega⟩
      obtain ⟨n, rfl⟩ : ∃ n : Nat, s = (n : Int) := ⟨s.toNat, by omega⟩
      go_upto_region 5 with fail
      refine wp_cond_false (q14.e (j := 14) rfl) ?_
      go_upto_region 5 with fail
      refine wp_region_lit ?_
      refine q14.t (.slice a k c) (ex_move rfl (q14.e (j := 4) rfl)) fun _ q15 => ?_;clear q14
      refine q15.t (.int .i64 ((k : Nat) : Int)) (ex_lenG rfl rfl Try.underlying42 (q15.e (j := 23) rfl)) fun _ q16 => ?_;clear q15
      refine q16.t (.int .i64 ((j : Nat) : Int)) (ex_move rfl (q16.e (j := 2) rfl)) fun _ q17 => ?_;clear q16
      refine q17.t (.int .i64 ((n : Nat) : Int)) (ex_move rfl (q17.e (j := 1) rfl)) fun _ q18 => ?_;clear q17
      refine vcallP (want_none rfl) (ex_call rfl (by simp only [List.map_toArray, List.map_cons, List.map_nil, (q18.e (j := 25) rfl), (q18.e (j := 26) rfl), evc] <;> rfl) rfl) (stepsUp20 j n w2 (by omega) (by omega) (by omega)) rfl q18.z (by decide) ?_
      rintro e w9 ⟨rfl, hw9⟩
      refine ⟨_, rfl, q18.k fun _ q19 => ?_⟩;clear q18
      have hw9 := hw9.symm
      subst hw9
      by_cases hk : k = su j n
      · refine q19.t (.bool false) (ex_bin rfl (q19.e (j := 24) rfl) (q19.e (j := 27) rfl) (neF20 _ _ (by omega) _)) fun _ q20 => ?_;clear q19
        refine q20.t (.bool false) (ex_assign rfl (q20.e (j := 28) rfl)) fun _ q21 => ?_;clear q20
        refine wpList_nil ?_
        go_upto_region 7 with fail
        refine wp_cond_false (q21.e (j := 22) rfl) ?_
        go_upto_region 7 with fail
        refine vg_start (fun k => false) (fun v => BB v w.heap.size 24 g.cs ∧ BB v w1.heap.size 28 x.cs) (by kernel_rfl) ?_
        have hy0 : Below w2.heap.size w2 w2.drew := (Below.refl _ _).drew
        have hzy0 : w2.drew.heap.size = w2.heap.size := rfl
        generalize w2.drew = y0 at *
        have A6 := (Bw1.later bw2).later hy0
        have Y6 := Bw2.later hy0
        have s6 := ((h.later bw1).later bw2).later hy0
        refine vg_take 0 true (x.val20) rfl (by kernel_rfl) (by kernel_rfl) (by kernel_rfl) (by kernel_rfl) (by kernel_rfl) (by kernel_rfl) (want_none rfl) (fun hc v hv => ex_ld rfl (q21.e (j := 8) rfl) hv.2.ldE20) rfl q21.z (by decide) ⟨A6, Y6⟩ (q21.k fun _ q22 => ?_);clear q21
        refine vg_takeW 2 true (.int .i64 ((j : Nat) : Int)) rfl (by kernel_rfl) (by kernel_rfl) (by kernel_rfl) (by kernel_rfl) (want_none rfl) (fun hc v => ex_move rfl (q22.e (j := 2) rfl)) rfl q22.z (by decide) (fun _ => ⟨A6, Y6⟩) (q22.k fun _ q23 => ?_);clear q22
        refine vg_takeW 3 true (.int .i64 ((n : Nat) : Int)) rfl (by kernel_rfl) (by kernel_rfl) (by kernel_rfl) (by kernel_rfl) (want_none rfl) (fun hc v => ex_move rfl (q23.e (j := 1) rfl)) rfl q23.z (by decide) (fun _ => ⟨A6, Y6⟩) (q23.k fun _ q24 => ?_);clear q23
        refine vg_takeW 4 true (.slice a k c) rfl (by kernel_rfl) (by kernel_rfl) (by kernel_rfl) (by kernel_rfl) (want_none rfl) (fun hc v => ex_move rfl (q24.e (j := 4) rfl)) rfl q24.z (by decide) (fun _ => ⟨A6, Y6⟩) (q24.k fun _ q25 => ?_);clear q24
        refine vg_take 6 true (g.val) rfl (by kernel_rfl) (by kernel_rfl) (by kernel_rfl) (by kernel_rfl) (by kernel_rfl) (by kernel_rfl) (want_none rfl) (fun hc v hv => ex_ld rfl (q25.e (j := 5) rfl) hv.1.ldH) rfl q25.z (by decide) ⟨A6, Y6⟩ (q25.k fun _ q26 => ?_);clear q25
        refine vg_call 1 rfl (by kernel_rfl) (want_none rfl) (ex_call rfl (by simp only [List.map_toArray, List.map_cons, List.map_nil, (q26.e (j := 30) rfl), evc] <;> rfl) rfl) (leaf20 x y0 hv) rfl q26.z (by decide) ?_
        rintro e d1 ⟨rfl, b1⟩
        have z1 := b1.size
        have s7 := s6.later b1
        refine ⟨_, rfl, ⟨A6.later b1, Y6.later b1⟩, q26.k fun _ q27 => ?_⟩;clear q26
        refine vg_call 5 rfl (by kernel_rfl) (want_none rfl) (ex_call rfl (by simp only [List.map_toArray, List.map_cons, List.map_nil, (q27.e (j := 31) rfl), (q27.e (j := 32) rfl), (q27.e (j := 33) rfl), (q27.e (j := 34) rfl), evc] <;> rfl) rfl) (climb20 (lf x) j n P a k c d1 s7 hk (by omega) (by omega) (by omega)) rfl q27.z (by decide) ?_
        rintro e d3 ⟨rfl, b3⟩
        have z3 := b3.size
        have d6 : Below w.heap.size w d3 := ((d2.trans (hy0.mono d2.size)).trans (b1.mono (by omega))).trans (b3.mono (by omega))
        refine ⟨_, rfl, ⟨(A6.later b1).later b3, (Y6.later b1).later b3⟩, q27.k fun _ q28 => ?_⟩;clear q27
        refine vg_takeW 7 true (.bool (!decide ((cl (lf x) j n P).v = g.v))) rfl (by kernel_rfl) (by kernel_rfl) (by kernel_rfl) (by kernel_rfl) (want_none rfl) (fun hc v => ex_bin rfl (q28.e (j := 35) rfl) (q28.e (j := 36) rfl) (neHZ _ _ _ _ _)) rfl q28.z (by decide) (fun _ => ⟨(A6.later b1).later b3, (Y6.later b1).later b3⟩) (q28.k fun _ q29 => ?_);clear q28
        refine vg_takeW 8 true (.bool (!decide ((cl (lf x) j n P).v = g.v))) rfl (by kernel_rfl) (by kernel_rfl) (by kernel_rfl) (by kernel_rfl) (want_none rfl) (fun hc v => ex_assign rfl (q29.e (j := 37) rfl)) rfl q29.z (by decide) (fun _ => ⟨(A6.later b1).later b3, (Y6.later b1).later b3⟩) (q29.k fun _ q30 => ?_);clear q29
        refine vg_done (by kernel_rfl) ?_
        have hko : ¬ P.length ≠ su (j : Int).toNat (n : Int).toNat := by rw [Int.toNat_natCast, Int.toNat_natCast, hln]; exact fun e => e hk
        have HK := hide hko
        clear hko
        by_cases hc : (cl (lf x) j n P).v = g.v
        · rw [decide_eq_true hc] at q30
          have HC := hide hc
          clear hc
          go_upto_region 9 with fail
          refine wp_cond_false (q30.e (j := 29) rfl) ?_
          go_upto_region 9 with fail
          refine wp_region_lit ?_
          refine q30.t (.int .i64 (0 : Int)) (ex_assign rfl rfl) fun _ q31 => ?_;clear q30
          refine wpList_nil ?_
          go_wp2
          refine bodyPost_ret (results_tmp rfl _ _ _) rfl ?_
          rw [getD_of (q31.a 10 rfl)]
          exact ⟨by unfold icR; rw [if_neg (by omega), if_neg (by omega), if_neg HK.out, if_pos (by rw [Int.toNat_natCast, Int.toNat_natCast]; exact HC.out)]; rfl, d6⟩
        · rw [decide_eq_false hc] at q30
          have HC := hide hc
          clear hc
          go_upto_region 8 with fail
          refine wp_cond_true (q30.e (j := 29) rfl) ?_
          go_upto_region 8 with fail
          refine wp_region_lit ?_
          refine q30.t (.int .i64 (202 : Int)) (ex_assign rfl rfl) fun _ q31 => ?_;clear q30
          refine wpList_nil ?_
          go_wp2
          refine bodyPost_ret (results_tmp rfl _ _ _) rfl ?_
          rw [getD_of (q31.a 10 rfl)]
          exact ⟨by unfold icR; rw [if_neg (by omega), if_neg (by omega), if_neg HK.out, if_neg (by rw [Int.toNat_natCast, Int.toNat_natCast]; exact HC.out)]; rfl, d6⟩
      · refine q19.t (.bool true) (ex_bin rfl (q19.e (j := 24) rfl) (q19.e (j := 27) rfl) (neT20 _ _ (by omega) _)) fun _ q20 => ?_;clear q19
        refine q20.t (.bool true) (ex_assign rfl (q20.e (j := 28) rfl)) fun _ q21 => ?_;clear q20
        refine wpList_nil ?_
        go_upto_region 6 with fail
        refine wp_cond_true (q21.e (j := 22) rfl) ?_
        go_upto_region 6 with fail
        refine wp_region_lit ?_
        refine q21.t (.int .i64 (201 : Int)) (ex_assign rfl rfl) fun _ q22 => ?_;clear q21
        refine wpList_nil ?_
        go_wp2
        refine bodyPost_ret (results_tmp rfl _ _ _) rfl ?_
        rw [getD_of (q22.a 10 rfl)]
        exact ⟨by unfold icR; rw [if_neg (by omega), if_neg (by omega), if_pos (by rw [Int.toNat_natCast, Int.toNat_natCast, hln]; exact hk)]; rfl, d2⟩
end Go.Proofs.Ytfafhlahbhopaaa
namespace Go.Proofs.Ytfafhlahbhopaaa
open Go.RowKit Go.Maps
open Classical
theorem vg_storeS {ops : Array Oper} {late : Nat → Bool} {o : Oper} {T : Array Value} {df : List Deferred} {w : World} {Q : Exit → Act → World → Prop} {S : World → Prop} {fuel : Nat} {listed : Array Bool} (i : Nat) (w' : World) (hi : ops[i]? = some o) (hr : Region.ready .any ops listed = [i])
    (hw : Region.wanted o (yielded ops T) = true) (he : (execOp (⟨T, df⟩ : Act).eval o).run Try.prog w = .ok .skip w') (hd : o.dst = none) (hS : S w')
    (hk : VG ops late Q S fuel (listed.setIfInBounds i true) ⟨T, df⟩ w') : VG ops late Q S (fuel + 1) listed ⟨T, df⟩ w := by
  refine ⟨wpAnyG_all hr (by simp) (fun j hj => ?_)⟩
  obtain rfl : j = i := by simpa using hj
  unfold wpOp
  rw [hi]
  simp only [hw, if_true]
  refine .inl ?_
  unfold Oper.wp
  rw [he, Oper.upon_skip]
  refine ⟨fun _ => hS, ?_⟩
  rw [hd]
  exact hk.out
set_option maxHeartbeats 2000000 in
theorem climbBoth_step (m : Nat) (ih : ∀ (x : Hs) (p n : Nat) (wh : Bool) (P : List Hs) (a : Option Addr) (k c : Nat) (w : World), SlY yH w a k c P → k = sa p n wh → n < m → n ≤ 9223372036854775807 → 1 ≤ p → p ≤ n → Calls Try.prog 84 #[x.val, .int .i64 (p : Int), .int .i64 (n : Int), .bool wh, .slice a k c] w fun e w' => e = .returned (.tuple #[(cb x p n wh P).1.val, (cb x p n wh P).2.val]) ∧ Below w.heap.size w w') (x : Hs) (p n : Nat) (wh : Bool) (P : List Hs) (a : Option Addr) (k c : Nat) (w : World) (h : SlY yH w a k c P) (hk : k = sa p n wh) (hm : n ≤ m) (hn : n ≤ 9223372036854775807) (hp1 : 1 ≤ p) (hp2 : p ≤ n) :
    Calls Try.prog 84 #[x.val, .int .i64 (p : Int), .int .i64 (n : Int), .bool wh, .slice a k c] w fun e w' => e = .returned (.tuple #[(cb x p n wh P).1.val, (cb x p n wh P).2.val]) ∧ Below w.heap.size w w' := by
  go_enter Try.func84, Try.ntmps84
  go_upto_region 0 with fail
  refine wp_region_lit ?_
  refine vl_gen (fun T => Rp T 72 [(4, gw true (.slice a k c)), (3, gw true (.bool wh)), (2, gw true (.int .i64 ((n : Nat) : Int))), (1, gw true (.int .i64 ((p : Nat) : Int))), (0, gw true (x.val))]) ((((((Rp.nil rfl).cons rfl).cons rfl).cons rfl).cons rfl).cons rfl) (fun Z0 q0 => ?_)
  have hln := h.len
  obtain ⟨w1, hw1⟩ : ∃ y, y = w.alloc (.cells (x.cs).toArray 24) := ⟨_, rfl⟩
  refine vw (.pointer (some ⟨w.heap.size, 0, none⟩)) w1 (want_none rfl) (ex_box18 rfl (q0.e (j := 0) rfl) (by rw [hw1]; exact bxH20 _ _)) rfl q0.z (by decide) (q0.k fun _ q1 => ?_);clear q0
  have Bw1 : BB w1 w.heap.size 24 (x.cs) := by rw [hw1]; exact BB.new _ _ _
  have bw1 : Below w.heap.size w w1 := by rw [hw1]; exact (Below.refl _ _).alloc (Nat.le_refl _) _
  have zw1 : w1.heap.size = w.heap.size + 1 := by rw [hw1]; exact World.size_alloc _ _
  clear hw1
  obtain ⟨w2, hw2⟩ : ∃ y, y = w1.alloc (.cells (zH.cs).toArray 24) := ⟨_, rfl⟩
  refine vw (.pointer (some ⟨w1.heap.size, 0, none⟩)) w2 (want_none rfl) (ex_al rfl (by rw [hw2]; exact alH _)) rfl q1.z (by decide) (q1.k fun _ q2 => ?_);clear q1
  have Bw2 : BB w2 w1.heap.size 24 (zH.cs) := by rw [hw2]; exact BB.new _ _ _
  have bw2 : Below w1.heap.size w1 w2 := by rw [hw2]; exact (Below.refl _ _).alloc (Nat.le_refl _) _
  have zw2 : w2.heap.size = w1.heap.size + 1 := by rw [hw2]; exact World.size_alloc _ _
  clear hw2
  obtain ⟨w3, hw3⟩ : ∃ y, y = w2.alloc (.cells (zH.cs).toArray 24) := ⟨_, rfl⟩
  refine vw (.pointer (some ⟨w2.heap.size, 0, none⟩)) w3 (want_none rfl) (ex_al rfl (by rw [hw3]; exact alH _)) rfl q2.z (by decide) (q2.k fun _ q3 => ?_);clear q2
  have Bw3 : BB w3 w2.heap.size 24 (zH.cs) := by rw [hw3]; exact BB.new _ _ _
  have bw3 : Below w2.heap.size w2 w3 := by rw [hw3]; exact (Below.refl _ _).alloc (Nat.le_refl _) _
  have zw3 : w3.heap.size = w2.heap.size + 1 := by rw [hw3]; exact World.size_alloc _ _
  clear hw3
  refine wpList_nil ?_
  go_upto_region 1 with fail
  refine wp_region_lit ?_
  have A3 := (Bw1.later bw2).later bw3
  have O3 := Bw2.later bw3
  have d3 : Below w.heap.size w w3 := (bw1.trans (bw2.mono (by omega))).trans (bw3.mono (by omega))
  have s3 := ((h.later bw1).later bw2).later bw3
  clear Bw1 Bw2
  refine q3.t (.int .i64 ((p : Nat) : Int)) (ex_move rfl (q3.e (j := 1) rfl)) fun _ q4 => ?_;clear q3
  refine q4.t (.int .i64 ((n : Nat) : Int)) (ex_move rfl (q4.e (j := 2) rfl)) fun _ q5 => ?_;clear q4
  by_cases h1 : p = n
  · refine q5.t (.bool true) (ex_bin rfl (q5.e (j := 19) rfl) (q5.e (j := 20) rfl) (eqT20 _ _ (by omega) _)) fun _ q6 => ?_;clear q5
    refine wpList_nil ?_
    go_upto_region 2 with fail
    refine wp_cond_true (q6.e (j := 21) rfl) ?_
    go_upto_region 2 with fail
    refine wp_region_lit ?_
    refine q6.t (.bool wh) (ex_move rfl (q6.e (j := 3) rfl)) fun _ q7 => ?_;clear q6
    refine wpList_nil ?_
    have hcb : cb x p n wh P = bif wh then (x, x) else (P.getD 0 zH, P.getD 0 zH) := by rw [h1]; exact cb_e x n wh P
    have HE := hide hcb
    have hsa : sa p n wh = bif wh then 0 else 1 := by rw [h1]; exact sa_e n wh
    have HA := hide hsa
    clear hcb hsa h1
    cases wh
    · have hk0 : k = 1 := hk.trans HA.out
      have HK := hide hk0
      clear hk0
      obtain ⟨q, o, rfl, hq, hl⟩ := h.place (by rintro rfl; have := HK.out; simp at hln; omega)
      obtain ⟨y0, hy0⟩ : ∃ y, P[0]? = some y := ⟨_, List.getElem?_eq_getElem (by have := HK.out; omega)⟩
      have hg0 : P.getD 0 zH = y0 := by rw [List.getD_eq_getElem?_getD, hy0]; rfl
      have HG := hide hg0
      clear hg0
      go_upto_region 4 with fail
      refine wp_cond_false (q7.e (j := 22) rfl) ?_
      go_upto_region 4 with fail
      refine vg_start (fun k => k == 7) (fun v => LieY yH v q o P) (by kernel_rfl) ?_
      have hg0 : Below w3.heap.size w3 w3.drew := (Below.refl _ _).drew
      have hzg0 : w3.drew.heap.size = w3.heap.size := rfl
      generalize w3.drew = g0 at *
      have hq3 : q < w3.heap.size := Nat.lt_of_lt_of_le hq d3.size
      have hl3 : LieY yH g0 q o P := (hl.upd (S := fun _ => False) (Upd.of_below d3) hq id).upd (S := fun _ => False) (Upd.of_below hg0) hq3 id
      refine vg_takeW 0 true (.slice (some ⟨q, o, none⟩) k c) rfl (by kernel_rfl) (by kernel_rfl) (by kernel_rfl) (by kernel_rfl) (want_none rfl) (fun hc v => ex_move rfl (q7.e (j := 4) rfl)) rfl q7.z (by decide) (fun _ => hl3) (q7.k fun _ q8 => ?_);clear q7
      refine vg_takeW 1 true (.pointer (some ⟨q, o + 0 * 32, none⟩)) rfl (by kernel_rfl) (by kernel_rfl) (by kernel_rfl) (by kernel_rfl) (want_none rfl) (fun hc v => ex_ix (Y := .int .i64 ((0 : Nat) : Int)) rfl (q8.e (j := 25) rfl) rfl (ixH q o k c 0 (by have := HK.out; omega) _)) rfl q8.z (by decide) (fun _ => hl3) (q8.k fun _ q9 => ?_);clear q8
      refine vg_take 2 true (y0.val) rfl (by kernel_rfl) (by kernel_rfl) (by kernel_rfl) (by kernel_rfl) (by kernel_rfl) (by kernel_rfl) (want_none rfl) (fun hc v hv => ex_ld rfl (q9.e (j := 26) rfl) (ldH20 hv hy0)) rfl q9.z (by decide) hl3 (q9.k fun _ q10 => ?_);clear q9
      refine vg_takeW 3 true (.slice (some ⟨q, o, none⟩) k c) rfl (by kernel_rfl) (by kernel_rfl) (by kernel_rfl) (by kernel_rfl) (want_none rfl) (fun hc v => ex_move rfl (q10.e (j := 4) rfl)) rfl q10.z (by decide) (fun _ => hl3) (q10.k fun _ q11 => ?_);clear q10
      refine vg_takeW 4 true (.pointer (some ⟨q, o + 0 * 32, none⟩)) rfl (by kernel_rfl) (by kernel_rfl) (by kernel_rfl) (by kernel_rfl) (want_none rfl) (fun hc v => ex_ix (Y := .int .i64 ((0 : Nat) : Int)) rfl (q11.e (j := 28) rfl) rfl (ixH q o k c 0 (by have := HK.out; omega) _)) rfl q11.z (by decide) (fun _ => hl3) (q11.k fun _ q12 => ?_);clear q11
      refine vg_take 5 true (y0.val) rfl (by kernel_rfl) (by kernel_rfl) (by kernel_rfl) (by kernel_rfl) (by kernel_rfl) (by kernel_rfl) (want_none rfl) (fun hc v hv => ex_ld rfl (q12.e (j := 29) rfl) (ldH20 hv hy0)) rfl q12.z (by decide) hl3 (q12.k fun _ q13 => ?_);clear q12
      have O4 := O3.later hg0
      have P4 := Bw3.later hg0
      have d4 : Below w.heap.size w g0 := d3.trans (hg0.mono d3.size)
      obtain ⟨z2, hz2⟩ : ∃ y, y = g0.setCells w1.heap.size 0 (y0).cs := ⟨_, rfl⟩
      have Bz2 : BB z2 w1.heap.size 24 (y0).cs := by rw [hz2]; exact O4.putH rfl _
      have uz2 : Upd (fun k => k = w1.heap.size) g0 z2 := by rw [hz2]; exact upd18 _ _ _ _
      have Pz2 := P4.upd uz2 (show ¬ w2.heap.size = w1.heap.size by omega)
      have dz2 : Below w.heap.size w z2 := d4.trans (bel_ge uz2 d4.size (by omega))
      refine vg_storeS 6 z2 rfl (by kernel_rfl) (want_none rfl) (ex_st rfl (q13.e (j := 10) rfl) (q13.e (j := 27) rfl) (by rw [hz2]; exact O4.stH rfl _)) rfl (hl3.upd uz2 (Nat.lt_of_lt_of_le hq3 hg0.size) (show ¬ q = w1.heap.size by omega)) ?_
      clear hz2
      obtain ⟨xa, hxa⟩ : ∃ y, y = z2.setCells w2.heap.size 0 (y0).cs := ⟨_, rfl⟩
      refine vg_store 7 xa rfl (by kernel_rfl) (by kernel_rfl) (want_none rfl) (ex_st rfl (q13.e (j := 11) rfl) (q13.e (j := 30) rfl) (by rw [hxa]; exact Pz2.stH rfl _)) rfl ?_
      have Bxa : BB xa w2.heap.size 24 (y0).cs := by rw [hxa]; exact Pz2.putH rfl _
      have uxa : Upd (fun k => k = w2.heap.size) z2 xa := by rw [hxa]; exact upd18 _ _ _ _
      clear hxa
      refine vg_done (by kernel_rfl) ?_
      have Z1 := Bz2.upd uxa (show ¬ w1.heap.size = w2.heap.size by omega)
      go_wp2
      refine bodyPost_ret (resHH rfl (q13.a 10 rfl) (q13.a 11 rfl) Z1 Bxa) rfl ?_
      exact ⟨by rw [HE.out, HG.out]; rfl, dz2.trans (bel_ge uxa dz2.size (by omega))⟩
    · go_upto_region 3 with fail
      refine wp_cond_true (q7.e (j := 22) rfl) ?_
      go_upto_region 3 with fail
      refine vg_start (fun k => k == 3) (fun v => BB v w.heap.size 24 x.cs) (by kernel_rfl) ?_
      have hg0 : Below w3.heap.size w3 w3.drew := (Below.refl _ _).drew
      have hzg0 : w3.drew.heap.size = w3.heap.size := rfl
      generalize w3.drew = g0 at *
      have A4 := A3.later hg0
      refine vg_take 0 true (x.val) rfl (by kernel_rfl) (by kernel_rfl) (by kernel_rfl) (by kernel_rfl) (by kernel_rfl) (by kernel_rfl) (want_none rfl) (fun hc v hv => ex_ld rfl (q7.e (j := 5) rfl) hv.ldH) rfl q7.z (by decide) A4 (q7.k fun _ q8 => ?_);clear q7
      refine vg_take 1 true (x.val) rfl (by kernel_rfl) (by kernel_rfl) (by kernel_rfl) (by kernel_rfl) (by kernel_rfl) (by kernel_rfl) (want_none rfl) (fun hc v hv => ex_ld rfl (q8.e (j := 5) rfl) hv.ldH) rfl q8.z (by decide) A4 (q8.k fun _ q9 => ?_);clear q8
      have O4 := O3.later hg0
      have P4 := Bw3.later hg0
      have d4 : Below w.heap.size w g0 := d3.trans (hg0.mono d3.size)
      obtain ⟨z2, hz2⟩ : ∃ y, y = g0.setCells w1.heap.size 0 (x).cs := ⟨_, rfl⟩
      have Bz2 : BB z2 w1.heap.size 24 (x).cs := by rw [hz2]; exact O4.putH rfl _
      have uz2 : Upd (fun k => k = w1.heap.size) g0 z2 := by rw [hz2]; exact upd18 _ _ _ _
      have Pz2 := P4.upd uz2 (show ¬ w2.heap.size = w1.heap.size by omega)
      have dz2 : Below w.heap.size w z2 := d4.trans (bel_ge uz2 d4.size (by omega))
      refine vg_storeS 2 z2 rfl (by kernel_rfl) (want_none rfl) (ex_st rfl (q9.e (j := 10) rfl) (q9.e (j := 23) rfl) (by rw [hz2]; exact O4.stH rfl _)) rfl (A4.upd uz2 (show ¬ w.heap.size = w1.heap.size by omega)) ?_
      clear hz2
      obtain ⟨xa, hxa⟩ : ∃ y, y = z2.setCells w2.heap.size 0 (x).cs := ⟨_, rfl⟩
      refine vg_store 3 xa rfl (by kernel_rfl) (by kernel_rfl) (want_none rfl) (ex_st rfl (q9.e (j := 11) rfl) (q9.e (j := 24) rfl) (by rw [hxa]; exact Pz2.stH rfl _)) rfl ?_
      have Bxa : BB xa w2.heap.size 24 (x).cs := by rw [hxa]; exact Pz2.putH rfl _
      have uxa : Upd (fun k => k = w2.heap.size) z2 xa := by rw [hxa]; exact upd18 _ _ _ _
      clear hxa
      refine vg_done (by kernel_rfl) ?_
      have Z1 := Bz2.upd uxa (show ¬ w1.heap.size = w2.heap.size by omega)
      go_wp2
      refine bodyPost_ret (resHH rfl (q9.a 10 rfl) (q9.a 11 rfl) Z1 Bxa) rfl ?_
      exact ⟨by rw [HE.out]; rfl, dz2.trans (bel_ge uxa dz2.size (by omega))⟩
  · refine q5.t (.bool false) (ex_bin rfl (q5.e (j := 19) rfl) (q5.e (j := 20) rfl) (eqF20 _ _ (by omega) _)) fun _ q6 => ?_;clear q5
    refine wpList_nil ?_
    go_upto_region 5 with fail
    refine wp_cond_false (q6.e (j := 21) rfl) ?_
    go_upto_region 5 with fail
    refine wp_region_lit ?_
    refine q6.t (.int .i64 ((n : Nat) : Int)) (ex_move rfl (q6.e (j := 2) rfl)) fun _ q7 => ?_;clear q6
    refine vcallP (want_none rfl) (ex_call rfl (by simp only [List.map_toArray, List.map_cons, List.map_nil, (q7.e (j := 31) rfl), evc] <;> rfl) rfl) (left20 n w3 (by omega) hn) rfl q7.z (by decide) ?_
    rintro e w9 ⟨rfl, hw9⟩
    refine ⟨_, rfl, q7.k fun _ q8 => ?_⟩;clear q7
    have hw9 := hw9.symm
    subst hw9
    refine q8.t (.int .i64 ((lft n : Nat) : Int)) (ex_assign rfl (q8.e (j := 32) rfl)) fun _ q9 => ?_;clear q8
    refine wpList_nil ?_
    go_upto_region 6 with fail
    refine wp_region_lit ?_
    have hb := lft_b (n := n) (by omega)
    have hsa := sa_le n p wh hp1 hp2
    have hk1 : 1 ≤ k := by
      by_cases hp : p ≤ lft n
      · have := sa_l p n wh (by omega) hp; omega
      · have := sa_r p n wh (by omega) h1 hp; omega
    refine q9.t (.slice a k c) (ex_move rfl (q9.e (j := 4) rfl)) fun _ q10 => ?_;clear q9
    refine vcallP (want_none rfl) (ex_call rfl (by simp only [List.map_toArray, List.map_cons, List.map_nil, (q10.e (j := 34) rfl), evc] <;> rfl) rfl) (parted20 P a k c w3 s3 hk1 (by omega)) rfl q10.z (by decide) ?_
    rintro e w4 ⟨tp, rfl, hy, s4, b4⟩
    refine ⟨_, rfl, q10.k fun _ q11 => ?_⟩;clear q10
    have z4 := b4.size
    refine q11.t (.tuple #[.slice a (k - 1) c, tp.val]) (ex_move rfl (q11.e (j := 35) rfl)) fun _ q12 => ?_;clear q11
    refine q12.t (.slice a (k - 1) c) (ex_ext18 rfl (q12.e (j := 33) rfl) (xt0 _ _ _)) fun _ q13 => ?_;clear q12
    refine q13.t (tp.val) (ex_ext18 rfl (q13.e (j := 33) rfl) (xt1 _ _ _)) fun _ q14 => ?_;clear q13
    obtain ⟨w5, hw5⟩ : ∃ y, y = w4.alloc (.cells (zH.cs).toArray 24) := ⟨_, rfl⟩
    refine vw (.pointer (some ⟨w4.heap.size, 0, none⟩)) w5 (want_none rfl) (ex_al rfl (by rw [hw5]; exact alH _)) rfl q14.z (by decide) (q14.k fun _ q15 => ?_);clear q14
    have Bw5 : BB w5 w4.heap.size 24 (zH.cs) := by rw [hw5]; exact BB.new _ _ _
    have bw5 : Below w4.heap.size w4 w5 := by rw [hw5]; exact (Below.refl _ _).alloc (Nat.le_refl _) _
    have zw5 : w5.heap.size = w4.heap.size + 1 := by rw [hw5]; exact World.size_alloc _ _
    clear hw5
    refine q15.t (.slice a (k - 1) c) (ex_assign rfl (q15.e (j := 36) rfl)) fun _ q16 => ?_;clear q15
    obtain ⟨w6, hw6⟩ : ∃ y, y = w5.setCells w4.heap.size 0 (tp).cs := ⟨_, rfl⟩
    refine vs w6 (want_none rfl) (ex_st rfl (q16.e (j := 14) rfl) (q16.e (j := 37) rfl) (by rw [hw6]; exact Bw5.stH rfl _)) rfl ?_
    have Bw6 : BB w6 w4.heap.size 24 (tp).cs := by rw [hw6]; exact Bw5.putH rfl _
    have uw6 : Upd (fun k => k = w4.heap.size) w5 w6 := by rw [hw6]; exact upd18 _ _ _ _
    clear hw6
    have z6 := uw6.size
    have b6 : Below w4.heap.size w4 w6 := bw5.trans (bel_ge uw6 (by omega) (Nat.le_refl _))
    have s6 := (s4.later b6).take (k - 1) (by omega)
    have d6 : Below w.heap.size w w6 := (d3.trans (b4.mono (by omega))).trans (b6.mono (by omega))
    have A6 := (A3.later b4).later b6
    have O6 := (O3.later b4).later b6
    have P6 := (Bw3.later b4).later b6
    clear Bw3 O3 A3
    have HE : Hid (tp = P.getD (P.length - 1) zH) := hide hy
    clear hy
    have e1 : P.take (k - 1) = P.take (P.length - 1) := by rw [hln]
    have HT := hide e1
    clear e1
    refine wpList_nil ?_
    go_upto_region 7 with fail
    refine wp_region_lit ?_
    refine q16.t (.int .i64 ((p : Nat) : Int)) (ex_move rfl (q16.e (j := 1) rfl)) fun _ q17 => ?_;clear q16
    refine q17.t (.int .i64 ((lft n : Nat) : Int)) (ex_move rfl (q17.e (j := 12) rfl)) fun _ q18 => ?_;clear q17
    by_cases hp : p ≤ lft n
    · refine q18.t (.bool true) (ex_bin rfl (q18.e (j := 38) rfl) (q18.e (j := 39) rfl) (leT20 _ _ (by omega) _)) fun _ q19 => ?_;clear q18
      refine wpList_nil ?_
      go_upto_region 8 with fail
      refine wp_cond_true (q19.e (j := 40) rfl) ?_
      go_upto_region 8 with fail
      refine wp_region_lit ?_
      refine q19.t (x.val) (ex_ld rfl (q19.e (j := 5) rfl) A6.ldH) fun _ q20 => ?_;clear q19
      refine q20.t (.int .i64 ((p : Nat) : Int)) (ex_move rfl (q20.e (j := 1) rfl)) fun _ q21 => ?_;clear q20
      refine q21.t (.int .i64 ((lft n : Nat) : Int)) (ex_move rfl (q21.e (j := 12) rfl)) fun _ q22 => ?_;clear q21
      refine q22.t (.bool wh) (ex_move rfl (q22.e (j := 3) rfl)) fun _ q23 => ?_;clear q22
      refine q23.t (.slice a (k - 1) c) (ex_move rfl (q23.e (j := 13) rfl)) fun _ q24 => ?_;clear q23
      refine vcallP (want_none rfl) (ex_call rfl (by simp only [List.map_toArray, List.map_cons, List.map_nil, (q24.e (j := 42) rfl), (q24.e (j := 43) rfl), (q24.e (j := 44) rfl), (q24.e (j := 45) rfl), (q24.e (j := 46) rfl), evc] <;> rfl) rfl) (ih x p (lft n) wh (P.take (k - 1)) _ _ _ w6 s6 (by have := sa_l p n wh (by omega) hp; omega) (by omega) (by omega) hp1 hp) rfl q24.z (by decide) ?_
      rintro e w7 ⟨rfl, b7⟩
      refine ⟨_, rfl, q24.k fun _ q25 => ?_⟩;clear q24
      have z7 := b7.size
      refine q25.t (.tuple #[(cb x p (lft n) wh (P.take (k - 1))).1.val, (cb x p (lft n) wh (P.take (k - 1))).2.val]) (ex_move rfl (q25.e (j := 47) rfl)) fun _ q26 => ?_;clear q25
      refine q26.t ((cb x p (lft n) wh (P.take (k - 1))).1.val) (ex_ext18 rfl (q26.e (j := 41) rfl) (xt0 _ _ _)) fun _ q27 => ?_;clear q26
      refine q27.t ((cb x p (lft n) wh (P.take (k - 1))).2.val) (ex_ext18 rfl (q27.e (j := 41) rfl) (xt1 _ _ _)) fun _ q28 => ?_;clear q27
      obtain ⟨w8, hw8⟩ : ∃ y, y = w7.alloc (.cells (zH.cs).toArray 24) := ⟨_, rfl⟩
      refine vw (.pointer (some ⟨w7.heap.size, 0, none⟩)) w8 (want_none rfl) (ex_al rfl (by rw [hw8]; exact alH _)) rfl q28.z (by decide) (q28.k fun _ q29 => ?_);clear q28
      have Bw8 : BB w8 w7.heap.size 24 (zH.cs) := by rw [hw8]; exact BB.new _ _ _
      have bw8 : Below w7.heap.size w7 w8 := by rw [hw8]; exact (Below.refl _ _).alloc (Nat.le_refl _) _
      have zw8 : w8.heap.size = w7.heap.size + 1 := by rw [hw8]; exact World.size_alloc _ _
      clear hw8
      obtain ⟨w9, hw9⟩ : ∃ y, y = w8.alloc (.cells (zH.cs).toArray 24) := ⟨_, rfl⟩
      refine vw (.pointer (some ⟨w8.heap.size, 0, none⟩)) w9 (want_none rfl) (ex_al rfl (by rw [hw9]; exact alH _)) rfl q29.z (by decide) (q29.k fun _ q30 => ?_);clear q29
      have Bw9 : BB w9 w8.heap.size 24 (zH.cs) := by rw [hw9]; exact BB.new _ _ _
      have bw9 : Below w8.heap.size w8 w9 := by rw [hw9]; exact (Below.refl _ _).alloc (Nat.le_refl _) _
      have zw9 : w9.heap.size = w8.heap.size + 1 := by rw [hw9]; exact World.size_alloc _ _
      clear hw9
      have F8 := Bw8.later bw9
      obtain ⟨wa, hwa⟩ : ∃ y, y = w9.setCells w7.heap.size 0 ((cb x p (lft n) wh (P.take (k - 1))).1).cs := ⟨_, rfl⟩
      refine vs wa (want_none rfl) (ex_st rfl (q30.e (j := 15) rfl) (q30.e (j := 48) rfl) (by rw [hwa]; exact F8.stH rfl _)) rfl ?_
      have Bwa : BB wa w7.heap.size 24 ((cb x p (lft n) wh (P.take (k - 1))).1).cs := by rw [hwa]; exact F8.putH rfl _
      have uwa : Upd (fun k => k = w7.heap.size) w9 wa := by rw [hwa]; exact upd18 _ _ _ _
      clear hwa
      have G9 := Bw9.upd uwa (show ¬ w8.heap.size = w7.heap.size by omega)
      obtain ⟨wb, hwb⟩ : ∃ y, y = wa.setCells w8.heap.size 0 ((cb x p (lft n) wh (P.take (k - 1))).2).cs := ⟨_, rfl⟩
      refine vs wb (want_none rfl) (ex_st rfl (q30.e (j := 16) rfl) (q30.e (j := 49) rfl) (by rw [hwb]; exact G9.stH rfl _)) rfl ?_
      have Bwb : BB wb w8.heap.size 24 ((cb x p (lft n) wh (P.take (k - 1))).2).cs := by rw [hwb]; exact G9.putH rfl _
      have uwb : Upd (fun k => k = w8.heap.size) wa wb := by rw [hwb]; exact upd18 _ _ _ _
      clear hwb
      have za := uwa.size
      have zb := uwb.size
      have Fb := Bwa.upd uwb (show ¬ w7.heap.size = w8.heap.size by omega)
      have bb : Below w7.heap.size w7 wb := ((bw8.trans (bw9.mono (by omega))).trans (bel_ge uwa (by omega) (Nat.le_refl _))).trans (bel_ge uwb (by omega) (by omega))
      have Tb := (Bw6.later b7).later bb
      have Ob := (O6.later b7).later bb
      have Pb := (P6.later b7).later bb
      have db : Below w.heap.size w wb := (d6.trans (b7.mono (by omega))).trans (bb.mono (by omega))
      refine wpList_nil ?_
      go_upto_region 9 with fail
      refine vg_start (fun k => k == 5) (fun v => BB v w7.heap.size 24 (cb x p (lft n) wh (P.take (k - 1))).1.cs ∧ BB v w8.heap.size 24 (cb x p (lft n) wh (P.take (k - 1))).2.cs ∧ BB v w4.heap.size 24 tp.cs) (by kernel_rfl) ?_
      have hg0 : Below wb.heap.size wb wb.drew := (Below.refl _ _).drew
      have hzg0 : wb.drew.heap.size = wb.heap.size := rfl
      generalize wb.drew = g0 at *
      have F0 := Fb.later hg0
      have G0 := Bwb.later hg0
      have T0 := Tb.later hg0
      have d0 : Below w.heap.size w g0 := db.trans (hg0.mono db.size)
      have O0 := Ob.later hg0
      have P0 := Pb.later hg0
      refine vg_take 0 true ((cb x p (lft n) wh (P.take (k - 1))).1.val) rfl (by kernel_rfl) (by kernel_rfl) (by kernel_rfl) (by kernel_rfl) (by kernel_rfl) (by kernel_rfl) (want_none rfl) (fun hc v hv => ex_ld rfl (q30.e (j := 15) rfl) hv.1.ldH) rfl q30.z (by decide) ⟨F0, G0, T0⟩ (q30.k fun _ q31 => ?_);clear q30
      refine vg_take 1 true ((cb x p (lft n) wh (P.take (k - 1))).2.val) rfl (by kernel_rfl) (by kernel_rfl) (by kernel_rfl) (by kernel_rfl) (by kernel_rfl) (by kernel_rfl) (want_none rfl) (fun hc v hv => ex_ld rfl (q31.e (j := 16) rfl) hv.2.1.ldH) rfl q31.z (by decide) ⟨F0, G0, T0⟩ (q31.k fun _ q32 => ?_);clear q31
      refine vg_take 2 true (tp.val) rfl (by kernel_rfl) (by kernel_rfl) (by kernel_rfl) (by kernel_rfl) (by kernel_rfl) (by kernel_rfl) (want_none rfl) (fun hc v hv => ex_ld rfl (q32.e (j := 14) rfl) hv.2.2.ldH) rfl q32.z (by decide) ⟨F0, G0, T0⟩ (q32.k fun _ q33 => ?_);clear q32
      refine vg_call 3 rfl (by kernel_rfl) (want_none rfl) (ex_call rfl (by simp only [List.map_toArray, List.map_cons, List.map_nil, (q33.e (j := 51) rfl), (q33.e (j := 52) rfl), evc] <;> rfl) rfl) (node20 _ _ g0) rfl q33.z (by decide) ?_
      rintro e g1 ⟨rfl, c1⟩
      have d1 : Below w.heap.size w g1 := d0.trans (c1.mono d0.size)
      have O1 := O0.later c1
      have P1 := P0.later c1
      have F1 := F0.later c1
      have G1 := G0.later c1
      have T1 := T0.later c1
      refine ⟨_, rfl, ⟨F0.later c1, G0.later c1, T0.later c1⟩, q33.k fun _ q34 => ?_⟩;clear q33
      obtain ⟨z2, hz2⟩ : ∃ y, y = g1.setCells w1.heap.size 0 ((cb x p (lft n) wh (P.take (k - 1))).1).cs := ⟨_, rfl⟩
      have Bz2 : BB z2 w1.heap.size 24 ((cb x p (lft n) wh (P.take (k - 1))).1).cs := by rw [hz2]; exact O1.putH rfl _
      have uz2 : Upd (fun k => k = w1.heap.size) g1 z2 := by rw [hz2]; exact upd18 _ _ _ _
      have Pz2 := P1.upd uz2 (show ¬ w2.heap.size = w1.heap.size by omega)
      have dz2 : Below w.heap.size w z2 := d1.trans (bel_ge uz2 d1.size (by omega))
      refine vg_storeS 4 z2 rfl (by kernel_rfl) (want_none rfl) (ex_st rfl (q34.e (j := 10) rfl) (q34.e (j := 50) rfl) (by rw [hz2]; exact O1.stH rfl _)) rfl (⟨F1.upd uz2 (show ¬ w7.heap.size = w1.heap.size by omega), G1.upd uz2 (show ¬ w8.heap.size = w1.heap.size by omega), T1.upd uz2 (show ¬ w4.heap.size = w1.heap.size by omega)⟩) ?_
      clear hz2
      obtain ⟨xa, hxa⟩ : ∃ y, y = z2.setCells w2.heap.size 0 (nd (cb x p (lft n) wh (P.take (k - 1))).2 tp).cs := ⟨_, rfl⟩
      refine vg_store 5 xa rfl (by kernel_rfl) (by kernel_rfl) (want_none rfl) (ex_st rfl (q34.e (j := 11) rfl) (q34.e (j := 53) rfl) (by rw [hxa]; exact Pz2.stH rfl _)) rfl ?_
      have Bxa : BB xa w2.heap.size 24 (nd (cb x p (lft n) wh (P.take (k - 1))).2 tp).cs := by rw [hxa]; exact Pz2.putH rfl _
      have uxa : Upd (fun k => k = w2.heap.size) z2 xa := by rw [hxa]; exact upd18 _ _ _ _
      clear hxa
      refine vg_done (by kernel_rfl) ?_
      have Z1 := Bz2.upd uxa (show ¬ w1.heap.size = w2.heap.size by omega)
      go_wp2
      refine bodyPost_ret (resHH rfl (q34.a 10 rfl) (q34.a 11 rfl) Z1 Bxa) rfl ?_
      exact ⟨by rw [cb_l x p n wh P (by omega) hp, ← HE.out, ← HT.out], dz2.trans (bel_ge uxa dz2.size (by omega))⟩
    · refine q18.t (.bool false) (ex_bin rfl (q18.e (j := 38) rfl) (q18.e (j := 39) rfl) (leF20 _ _ (by omega) _)) fun _ q19 => ?_;clear q18
      refine wpList_nil ?_
      go_upto_region 10 with fail
      refine wp_cond_false (q19.e (j := 40) rfl) ?_
      go_upto_region 10 with fail
      refine wp_region_lit ?_
      refine q19.t (x.val) (ex_ld rfl (q19.e (j := 5) rfl) A6.ldH) fun _ q20 => ?_;clear q19
      refine q20.t (.int .i64 ((p : Nat) : Int)) (ex_move rfl (q20.e (j := 1) rfl)) fun _ q21 => ?_;clear q20
      refine q21.t (.int .i64 ((lft n : Nat) : Int)) (ex_move rfl (q21.e (j := 12) rfl)) fun _ q22 => ?_;clear q21
      refine q22.t (.int .i64 ((p - lft n : Nat) : Int)) (ex_bin rfl (q22.e (j := 56) rfl) (q22.e (j := 57) rfl) (subP _ _ p (lft n) (by omega) (by omega) _)) fun _ q23 => ?_;clear q22
      refine q23.t (.int .i64 ((n : Nat) : Int)) (ex_move rfl (q23.e (j := 2) rfl)) fun _ q24 => ?_;clear q23
      refine q24.t (.int .i64 ((lft n : Nat) : Int)) (ex_move rfl (q24.e (j := 12) rfl)) fun _ q25 => ?_;clear q24
      refine q25.t (.int .i64 ((n - lft n : Nat) : Int)) (ex_bin rfl (q25.e (j := 59) rfl) (q25.e (j := 60) rfl) (subP _ _ n (lft n) (by omega) (by omega) _)) fun _ q26 => ?_;clear q25
      refine q26.t (.slice a (k - 1) c) (ex_move rfl (q26.e (j := 13) rfl)) fun _ q27 => ?_;clear q26
      refine vcallP (want_none rfl) (ex_call rfl (by simp only [List.map_toArray, List.map_cons, List.map_nil, (q27.e (j := 55) rfl), (q27.e (j := 58) rfl), (q27.e (j := 61) rfl), (q27.e (j := 62) rfl), evc] <;> rfl) rfl) (ih x (p - lft n) (n - lft n) false (P.take (k - 1)) _ _ _ w6 s6 (by have := sa_r p n wh (by omega) h1 hp; omega) (by omega) (by omega) (by omega) (by omega)) rfl q27.z (by decide) ?_
      rintro e w7 ⟨rfl, b7⟩
      refine ⟨_, rfl, q27.k fun _ q28 => ?_⟩;clear q27
      have z7 := b7.size
      refine q28.t (.tuple #[(cb x (p - lft n) (n - lft n) false (P.take (k - 1))).1.val, (cb x (p - lft n) (n - lft n) false (P.take (k - 1))).2.val]) (ex_move rfl (q28.e (j := 63) rfl)) fun _ q29 => ?_;clear q28
      refine q29.t ((cb x (p - lft n) (n - lft n) false (P.take (k - 1))).1.val) (ex_ext18 rfl (q29.e (j := 54) rfl) (xt0 _ _ _)) fun _ q30 => ?_;clear q29
      refine q30.t ((cb x (p - lft n) (n - lft n) false (P.take (k - 1))).2.val) (ex_ext18 rfl (q30.e (j := 54) rfl) (xt1 _ _ _)) fun _ q31 => ?_;clear q30
      obtain ⟨w8, hw8⟩ : ∃ y, y = w7.alloc (.cells (zH.cs).toArray 24) := ⟨_, rfl⟩
      refine vw (.pointer (some ⟨w7.heap.size, 0, none⟩)) w8 (want_none rfl) (ex_al rfl (by rw [hw8]; exact alH _)) rfl q31.z (by decide) (q31.k fun _ q32 => ?_);clear q31
      have Bw8 : BB w8 w7.heap.size 24 (zH.cs) := by rw [hw8]; exact BB.new _ _ _
      have bw8 : Below w7.heap.size w7 w8 := by rw [hw8]; exact (Below.refl _ _).alloc (Nat.le_refl _) _
      have zw8 : w8.heap.size = w7.heap.size + 1 := by rw [hw8]; exact World.size_alloc _ _
      clear hw8
      obtain ⟨w9, hw9⟩ : ∃ y, y = w8.alloc (.cells (zH.cs).toArray 24) := ⟨_, rfl⟩
      refine vw (.pointer (some ⟨w8.heap.size, 0, none⟩)) w9 (want_none rfl) (ex_al rfl (by rw [hw9]; exact alH _)) rfl q32.z (by decide) (q32.k fun _ q33 => ?_);clear q32
      have Bw9 : BB w9 w8.heap.size 24 (zH.cs) := by rw [hw9]; exact BB.new _ _ _
      have bw9 : Below w8.heap.size w8 w9 := by rw [hw9]; exact (Below.refl _ _).alloc (Nat.le_refl _) _
      have zw9 : w9.heap.size = w8.heap.size + 1 := by rw [hw9]; exact World.size_alloc _ _
      clear hw9
      have F8 := Bw8.later bw9
      obtain ⟨wa, hwa⟩ : ∃ y, y = w9.setCells w7.heap.size 0 ((cb x (p - lft n) (n - lft n) false (P.take (k - 1))).1).cs := ⟨_, rfl⟩
      refine vs wa (want_none rfl) (ex_st rfl (q33.e (j := 17) rfl) (q33.e (j := 64) rfl) (by rw [hwa]; exact F8.stH rfl _)) rfl ?_
      have Bwa : BB wa w7.heap.size 24 ((cb x (p - lft n) (n - lft n) false (P.take (k - 1))).1).cs := by rw [hwa]; exact F8.putH rfl _
      have uwa : Upd (fun k => k = w7.heap.size) w9 wa := by rw [hwa]; exact upd18 _ _ _ _
      clear hwa
      have G9 := Bw9.upd uwa (show ¬ w8.heap.size = w7.heap.size by omega)
      obtain ⟨wb, hwb⟩ : ∃ y, y = wa.setCells w8.heap.size 0 ((cb x (p - lft n) (n - lft n) false (P.take (k - 1))).2).cs := ⟨_, rfl⟩
      refine vs wb (want_none rfl) (ex_st rfl (q33.e (j := 18) rfl) (q33.e (j := 65) rfl) (by rw [hwb]; exact G9.stH rfl _)) rfl ?_
      have Bwb : BB wb w8.heap.size 24 ((cb x (p - lft n) (n - lft n) false (P.take (k - 1))).2).cs := by rw [hwb]; exact G9.putH rfl _
      have uwb : Upd (fun k => k = w8.heap.size) wa wb := by rw [hwb]; exact upd18 _ _ _ _
      clear hwb
      have za := uwa.size
      have zb := uwb.size
      have Fb := Bwa.upd uwb (show ¬ w7.heap.size = w8.heap.size by omega)
      have bb : Below w7.heap.size w7 wb := ((bw8.trans (bw9.mono (by omega))).trans (bel_ge uwa (by omega) (Nat.le_refl _))).trans (bel_ge uwb (by omega) (by omega))
      have Tb := (Bw6.later b7).later bb
      have Ob := (O6.later b7).later bb
      have Pb := (P6.later b7).later bb
      have db : Below w.heap.size w wb := (d6.trans (b7.mono (by omega))).trans (bb.mono (by omega))
      refine wpList_nil ?_
      go_upto_region 11 with fail
      refine vg_start (fun k => k == 7) (fun v => BB v w7.heap.size 24 (cb x (p - lft n) (n - lft n) false (P.take (k - 1))).1.cs ∧ BB v w8.heap.size 24 (cb x (p - lft n) (n - lft n) false (P.take (k - 1))).2.cs ∧ BB v w4.heap.size 24 tp.cs) (by kernel_rfl) ?_
      have hg0 : Below wb.heap.size wb wb.drew := (Below.refl _ _).drew
      have hzg0 : wb.drew.heap.size = wb.heap.size := rfl
      generalize wb.drew = g0 at *
      have F0 := Fb.later hg0
      have G0 := Bwb.later hg0
      have T0 := Tb.later hg0
      have d0 : Below w.heap.size w g0 := db.trans (hg0.mono db.size)
      have O0 := Ob.later hg0
      have P0 := Pb.later hg0
      refine vg_take 0 true (tp.val) rfl (by kernel_rfl) (by kernel_rfl) (by kernel_rfl) (by kernel_rfl) (by kernel_rfl) (by kernel_rfl) (want_none rfl) (fun hc v hv => ex_ld rfl (q33.e (j := 14) rfl) hv.2.2.ldH) rfl q33.z (by decide) ⟨F0, G0, T0⟩ (q33.k fun _ q34 => ?_);clear q33
      refine vg_take 1 true ((cb x (p - lft n) (n - lft n) false (P.take (k - 1))).1.val) rfl (by kernel_rfl) (by kernel_rfl) (by kernel_rfl) (by kernel_rfl) (by kernel_rfl) (by kernel_rfl) (want_none rfl) (fun hc v hv => ex_ld rfl (q34.e (j := 17) rfl) hv.1.ldH) rfl q34.z (by decide) ⟨F0, G0, T0⟩ (q34.k fun _ q35 => ?_);clear q34
      refine vg_take 3 true (tp.val) rfl (by kernel_rfl) (by kernel_rfl) (by kernel_rfl) (by kernel_rfl) (by kernel_rfl) (by kernel_rfl) (want_none rfl) (fun hc v hv => ex_ld rfl (q35.e (j := 14) rfl) hv.2.2.ldH) rfl q35.z (by decide) ⟨F0, G0, T0⟩ (q35.k fun _ q36 => ?_);clear q35
      refine vg_take 4 true ((cb x (p - lft n) (n - lft n) false (P.take (k - 1))).2.val) rfl (by kernel_rfl) (by kernel_rfl) (by kernel_rfl) (by kernel_rfl) (by kernel_rfl) (by kernel_rfl) (want_none rfl) (fun hc v hv => ex_ld rfl (q36.e (j := 18) rfl) hv.2.1.ldH) rfl q36.z (by decide) ⟨F0, G0, T0⟩ (q36.k fun _ q37 => ?_);clear q36
      refine vg_call 2 rfl (by kernel_rfl) (want_none rfl) (ex_call rfl (by simp only [List.map_toArray, List.map_cons, List.map_nil, (q37.e (j := 66) rfl), (q37.e (j := 67) rfl), evc] <;> rfl) rfl) (node20 _ _ g0) rfl q37.z (by decide) ?_
      rintro e g1 ⟨rfl, c1⟩
      have d1 : Below w.heap.size w g1 := d0.trans (c1.mono d0.size)
      have O1 := O0.later c1
      have P1 := P0.later c1
      have F1 := F0.later c1
      have G1 := G0.later c1
      have T1 := T0.later c1
      refine ⟨_, rfl, ⟨F0.later c1, G0.later c1, T0.later c1⟩, q37.k fun _ q38 => ?_⟩;clear q37
      refine vg_call 5 rfl (by kernel_rfl) (want_none rfl) (ex_call rfl (by simp only [List.map_toArray, List.map_cons, List.map_nil, (q38.e (j := 69) rfl), (q38.e (j := 70) rfl), evc] <;> rfl) rfl) (node20 _ _ g1) rfl q38.z (by decide) ?_
      rintro e g2 ⟨rfl, c2⟩
      have d2 : Below w.heap.size w g2 := d1.trans (c2.mono d1.size)
      have O2 := O1.later c2
      have P2 := P1.later c2
      have F2 := F1.later c2
      have G2 := G1.later c2
      have T2 := T1.later c2
      refine ⟨_, rfl, ⟨F1.later c2, G1.later c2, T1.later c2⟩, q38.k fun _ q39 => ?_⟩;clear q38
      obtain ⟨z2, hz2⟩ : ∃ y, y = g2.setCells w1.heap.size 0 (nd tp (cb x (p - lft n) (n - lft n) false (P.take (k - 1))).1).cs := ⟨_, rfl⟩
      have Bz2 : BB z2 w1.heap.size 24 (nd tp (cb x (p - lft n) (n - lft n) false (P.take (k - 1))).1).cs := by rw [hz2]; exact O2.putH rfl _
      have uz2 : Upd (fun k => k = w1.heap.size) g2 z2 := by rw [hz2]; exact upd18 _ _ _ _
      have Pz2 := P2.upd uz2 (show ¬ w2.heap.size = w1.heap.size by omega)
      have dz2 : Below w.heap.size w z2 := d2.trans (bel_ge uz2 d2.size (by omega))
      refine vg_storeS 6 z2 rfl (by kernel_rfl) (want_none rfl) (ex_st rfl (q39.e (j := 10) rfl) (q39.e (j := 68) rfl) (by rw [hz2]; exact O2.stH rfl _)) rfl (⟨F2.upd uz2 (show ¬ w7.heap.size = w1.heap.size by omega), G2.upd uz2 (show ¬ w8.heap.size = w1.heap.size by omega), T2.upd uz2 (show ¬ w4.heap.size = w1.heap.size by omega)⟩) ?_
      clear hz2
      obtain ⟨xa, hxa⟩ : ∃ y, y = z2.setCells w2.heap.size 0 (nd tp (cb x (p - lft n) (n - lft n) false (P.take (k - 1))).2).cs := ⟨_, rfl⟩
      refine vg_store 7 xa rfl (by kernel_rfl) (by kernel_rfl) (want_none rfl) (ex_st rfl (q39.e (j := 11) rfl) (q39.e (j := 71) rfl) (by rw [hxa]; exact Pz2.stH rfl _)) rfl ?_
      have Bxa : BB xa w2.heap.size 24 (nd tp (cb x (p - lft n) (n - lft n) false (P.take (k - 1))).2).cs := by rw [hxa]; exact Pz2.putH rfl _
      have uxa : Upd (fun k => k = w2.heap.size) z2 xa := by rw [hxa]; exact upd18 _ _ _ _
      clear hxa
      refine vg_done (by kernel_rfl) ?_
      have Z1 := Bz2.upd uxa (show ¬ w1.heap.size = w2.heap.size by omega)
      go_wp2
      refine bodyPost_ret (resHH rfl (q39.a 10 rfl) (q39.a 11 rfl) Z1 Bxa) rfl ?_
      exact ⟨by rw [cb_r x p n wh P (by omega) h1 hp, ← HE.out, ← HT.out], dz2.trans (bel_ge uxa dz2.size (by omega))⟩
theorem climbBoth20 (x : Hs) (p n : Nat) (wh : Bool) (P : List Hs) (a : Option Addr) (k c : Nat) (w : World) (h : SlY yH w a k c P) (hk : k = sa p n wh) (hn : n ≤ 9223372036854775807) (hp1 : 1 ≤ p) (hp2 : p ≤ n) :
    Calls Try.prog 84 #[x.val, .int .i64 (p : Int), .int .i64 (n : Int), .bool wh, .slice a k c] w fun e w' => e = .returned (.tuple #[(cb x p n wh P).1.val, (cb x p n wh P).2.val]) ∧ Below w.heap.size w w' := by
  have H : ∀ m, ∀ (x : Hs) (p n : Nat) (wh : Bool) (P : List Hs) (a : Option Addr) (k c : Nat) (w : World), SlY yH w a k c P → k = sa p n wh → n < m → n ≤ 9223372036854775807 → 1 ≤ p → p ≤ n → Calls Try.prog 84 #[x.val, .int .i64 (p : Int), .int .i64 (n : Int), .bool wh, .slice a k c] w fun e w' => e = .returned (.tuple #[(cb x p n wh P).1.val, (cb x p n wh P).2.val]) ∧ Below w.heap.size w w' := by
    intro m
    induction m with
    | zero => intro x p n wh P a k c w _ _ h; omega
    | succ m ih => exact fun x p n wh P a k c w h hk hm hn h1 h2 => climbBoth_step m ih x p n wh P a k c w h hk (by omega) hn h1 h2
  exact H (n + 1) x p n wh P a k c w h hk (by omega) hn hp1 hp2
end Go.Proofs.Ytfafhlahbhopaaa
namespace Go.Proofs.Ytfafhlahbhopaaa
open Go.RowKit Go.Maps
open Classical
def jnR (old : Hs) (m n : Nat) (g : Hs) (P : List Hs) : Bool := if m = 0 then decide (old.v = (sH []).v) && (decide ((0 : Int) < (n : Int)) || decide (g.v = (sH []).v)) else if m = n then decide (old.v = g.v) else decide ((cb old m n true P).1.v = old.v) && decide ((cb old m n true P).2.v = g.v)
def exR (old : Hs) (m : Int) (g : Hs) (n : Int) (P : List Hs) : Int := if m < 0 ∨ n < m then 200 else if P.length ≠ sbN m.toNat n.toNat then 201 else if jnR old m.toNat n.toNat g P = true then 0 else 202
set_option maxHeartbeats 2000000 in
theorem joined20 (old : Hs) (m n : Nat) (g : Hs) (P : List Hs) (a : Option Addr) (k c : Nat) (w : World) (h : SlY yH w a k c P) (hk : k = sbN m n) (hn : n ≤ 9223372036854775807) (hm : m ≤ n) :
    Calls Try.prog 59 #[old.val, .int .i64 (m : Int), g.val, .int .i64 (n : Int), .slice a k c] w fun e w' => e = .returned (.bool (jnR old m n g P)) ∧ Below w.heap.size w w' := by
  go_enter Try.func59, Try.ntmps59
  go_upto_region 0 with fail
  refine wp_region_lit ?_
  refine vl_gen (fun T => Rp T 52 [(4, gw true (.slice a k c)), (3, gw true (.int .i64 ((n : Nat) : Int))), (2, gw true (g.val)), (1, gw true (.int .i64 ((m : Nat) : Int))), (0, gw true (old.val))]) ((((((Rp.nil rfl).cons rfl).cons rfl).cons rfl).cons rfl).cons rfl) (fun Z0 q0 => ?_)
  have hln := h.len
  obtain ⟨w1, hw1⟩ : ∃ y, y = w.alloc (.cells (old.cs).toArray 24) := ⟨_, rfl⟩
  refine vw (.pointer (some ⟨w.heap.size, 0, none⟩)) w1 (want_none rfl) (ex_box18 rfl (q0.e (j := 0) rfl) (by rw [hw1]; exact bxH20 _ _)) rfl q0.z (by decide) (q0.k fun _ q1 => ?_);clear q0
  have Bw1 : BB w1 w.heap.size 24 (old.cs) := by rw [hw1]; exact BB.new _ _ _
  have bw1 : Below w.heap.size w w1 := by rw [hw1]; exact (Below.refl _ _).alloc (Nat.le_refl _) _
  have zw1 : w1.heap.size = w.heap.size + 1 := by rw [hw1]; exact World.size_alloc _ _
  clear hw1
  obtain ⟨w2, hw2⟩ : ∃ y, y = w1.alloc (.cells (g.cs).toArray 24) := ⟨_, rfl⟩
  refine vw (.pointer (some ⟨w1.heap.size, 0, none⟩)) w2 (want_none rfl) (ex_box18 rfl (q1.e (j := 2) rfl) (by rw [hw2]; exact bxH20 _ _)) rfl q1.z (by decide) (q1.k fun _ q2 => ?_);clear q1
  have Bw2 : BB w2 w1.heap.size 24 (g.cs) := by rw [hw2]; exact BB.new _ _ _
  have bw2 : Below w1.heap.size w1 w2 := by rw [hw2]; exact (Below.refl _ _).alloc (Nat.le_refl _) _
  have zw2 : w2.heap.size = w1.heap.size + 1 := by rw [hw2]; exact World.size_alloc _ _
  clear hw2
  refine q2.t (.bool false) (ex_assign rfl rfl) fun _ q3 => ?_;clear q2
  refine wpList_nil ?_
  go_upto_region 1 with fail
  refine wp_region_lit ?_
  have A2 := Bw1.later bw2
  have d2 : Below w.heap.size w w2 := bw1.trans (bw2.mono (by omega))
  have s2 := (h.later bw1).later bw2
  refine q3.t (.int .i64 ((m : Nat) : Int)) (ex_move rfl (q3.e (j := 1) rfl)) fun _ q4 => ?_;clear q3
  refine wpList_nil ?_
  go_upto_region 2 with fail
  refine wp_region_lit ?_
  by_cases h0 : m = 0
  · refine q4.t (.bool true) (ex_bin (Y := .int .i64 (0 : Int)) rfl (q4.e (j := 14) rfl) rfl (eqT20 _ _ (by omega) _)) fun _ q5 => ?_;clear q4
    refine q5.t (.bool true) (ex_assign rfl (q5.e (j := 16) rfl)) fun _ q6 => ?_;clear q5
    refine wpList_nil ?_
    go_upto_region 3 with fail
    refine wp_cond_true (q6.e (j := 15) rfl) ?_
    go_upto_region 3 with fail
    refine wp_region_lit ?_
    refine vcallP (want_none rfl) (ex_call rfl (by simp only [List.map_toArray, List.map_cons, List.map_nil, evc] <;> rfl) rfl) (headOf20 [] none 0 0 w2 (nil_sl20 yH w2) (by omega)) rfl q6.z (by decide) ?_
    rintro e w3 ⟨rfl, b3⟩
    refine ⟨_, rfl, q6.k fun _ q7 => ?_⟩;clear q6
    rw [hd_0] at q7
    have z3 := b3.size
    obtain ⟨w4, hw4⟩ : ∃ y, y = w3.alloc (.cells (zH.cs).toArray 24) := ⟨_, rfl⟩
    refine vw (.pointer (some ⟨w3.heap.size, 0, none⟩)) w4 (want_none rfl) (ex_al rfl (by rw [hw4]; exact alH _)) rfl q7.z (by decide) (q7.k fun _ q8 => ?_);clear q7
    have Bw4 : BB w4 w3.heap.size 24 (zH.cs) := by rw [hw4]; exact BB.new _ _ _
    have bw4 : Below w3.heap.size w3 w4 := by rw [hw4]; exact (Below.refl _ _).alloc (Nat.le_refl _) _
    have zw4 : w4.heap.size = w3.heap.size + 1 := by rw [hw4]; exact World.size_alloc _ _
    clear hw4
    obtain ⟨w5, hw5⟩ : ∃ y, y = w4.setCells w3.heap.size 0 (sH []).cs := ⟨_, rfl⟩
    refine vs w5 (want_none rfl) (ex_st rfl (q8.e (j := 11) rfl) (q8.e (j := 17) rfl) (by rw [hw5]; exact Bw4.stH rfl _)) rfl ?_
    have Bw5 : BB w5 w3.heap.size 24 (sH []).cs := by rw [hw5]; exact Bw4.putH rfl _
    have uw5 : Upd (fun k => k = w3.heap.size) w4 w5 := by rw [hw5]; exact upd18 _ _ _ _
    clear hw5
    have b5 : Below w3.heap.size w3 w5 := bw4.trans (bel_ge uw5 (by omega) (Nat.le_refl _))
    have A5 := (A2.later b3).later b5
    have G5 := (Bw2.later b3).later b5
    have d5 : Below w.heap.size w w5 := (d2.trans (b3.mono (by omega))).trans (b5.mono (by omega))
    refine wpList_nil ?_
    go_upto_region 4 with fail
    refine wp_region_lit ?_
    refine q8.t (old.val) (ex_ld rfl (q8.e (j := 5) rfl) A5.ldH) fun _ q9 => ?_;clear q8
    refine q9.t ((sH []).val) (ex_ld rfl (q9.e (j := 11) rfl) Bw5.ldH) fun _ q10 => ?_;clear q9
    refine q10.t (.bool (decide (old.v = (sH []).v))) (ex_bin rfl (q10.e (j := 18) rfl) (q10.e (j := 19) rfl) (eqHZ _ _ _ _ _)) fun _ q11 => ?_;clear q10
    refine q11.t (.bool (decide (old.v = (sH []).v))) (ex_move rfl (q11.e (j := 20) rfl)) fun _ q12 => ?_;clear q11
    refine vl ((true && (decide (old.v = (sH []).v) == true))) (.int .i64 ((n : Nat) : Int)) (want_g rfl rfl (q12.a 21 rfl)) (fun hc => ex_move rfl (q12.e (j := 3) rfl)) rfl q12.z (by decide) (q12.k fun _ q13 => ?_);clear q12
    refine vl ((true && (decide (old.v = (sH []).v) == true))) (.bool (decide ((0 : Int) < (n : Int)))) (want_g rfl rfl (q13.a 21 rfl)) (fun hc => ex_bin (Y := .int .i64 (0 : Int)) rfl (ev (q13.a 22 rfl) hc) rfl (gtZ20 _ _ _ _ _)) rfl q13.z (by decide) (q13.k fun _ q14 => ?_);clear q13
    refine vl ((true && (decide (old.v = (sH []).v) == true))) (.bool (decide ((0 : Int) < (n : Int)))) (want_g rfl rfl (q14.a 21 rfl)) (fun hc => ex_move rfl (ev (q14.a 23 rfl) hc)) rfl q14.z (by decide) (q14.k fun _ q15 => ?_);clear q14
    refine vl (((true && (decide (old.v = (sH []).v) == true)) && (decide ((0 : Int) < (n : Int)) == false))) (g.val) (want_g rfl rfl (q15.a 24 rfl)) (fun hc => ex_ld rfl (q15.e (j := 7) rfl) G5.ldH) rfl q15.z (by decide) (q15.k fun _ q16 => ?_);clear q15
    refine vl (((true && (decide (old.v = (sH []).v) == true)) && (decide ((0 : Int) < (n : Int)) == false))) ((sH []).val) (want_g rfl rfl (q16.a 24 rfl)) (fun hc => ex_ld rfl (q16.e (j := 11) rfl) Bw5.ldH) rfl q16.z (by decide) (q16.k fun _ q17 => ?_);clear q16
    refine vl (((true && (decide (old.v = (sH []).v) == true)) && (decide ((0 : Int) < (n : Int)) == false))) (.bool (decide (g.v = (sH []).v))) (want_g rfl rfl (q17.a 24 rfl)) (fun hc => ex_bin rfl (ev (q17.a 25 rfl) hc) (ev (q17.a 26 rfl) hc) (eqHZ _ _ _ _ _)) rfl q17.z (by decide) (q17.k fun _ q18 => ?_);clear q17
    refine vl ((true && (decide (old.v = (sH []).v) == true))) (.bool (decide ((0 : Int) < (n : Int)) || decide (g.v = (sH []).v))) (want_g rfl rfl (q18.a 21 rfl)) (fun hc => ex_or rfl (q18.a 24 rfl) (q18.a 27 rfl) hc) rfl q18.z (by decide) (q18.k fun _ q19 => ?_);clear q18
    refine q19.t (.bool (decide (old.v = (sH []).v) && (decide ((0 : Int) < (n : Int)) || decide (g.v = (sH []).v)))) (ex_and rfl (q19.a 21 rfl) (q19.a 28 rfl) rfl) fun _ q20 => ?_;clear q19
    refine q20.t (.bool (decide (old.v = (sH []).v) && (decide ((0 : Int) < (n : Int)) || decide (g.v = (sH []).v)))) (ex_assign rfl (q20.e (j := 29) rfl)) fun _ q21 => ?_;clear q20
    refine wpList_nil ?_
    go_wp2
    refine bodyPost_ret (results_tmp rfl _ _ _) rfl ?_
    rw [getD_of (q21.a 10 rfl)]
    exact ⟨by unfold jnR; rw [if_pos h0]; rfl, d5⟩
  · refine q4.t (.bool false) (ex_bin (Y := .int .i64 (0 : Int)) rfl (q4.e (j := 14) rfl) rfl (eqF20 _ _ (by omega) _)) fun _ q5 => ?_;clear q4
    refine q5.t (.bool false) (ex_assign rfl (q5.e (j := 16) rfl)) fun _ q6 => ?_;clear q5
    refine wpList_nil ?_
    go_upto_region 5 with fail
    refine wp_cond_false (q6.e (j := 15) rfl) ?_
    go_upto_region 5 with fail
    refine wp_region_lit ?_
    refine q6.t (.int .i64 ((n : Nat) : Int)) (ex_move rfl (q6.e (j := 3) rfl)) fun _ q7 => ?_;clear q6
    by_cases h1 : m = n
    · refine q7.t (.bool true) (ex_bin rfl (q7.e (j := 14) rfl) (q7.e (j := 31) rfl) (eqT20 _ _ (by omega) _)) fun _ q8 => ?_;clear q7
      refine q8.t (.bool true) (ex_assign rfl (q8.e (j := 32) rfl)) fun _ q9 => ?_;clear q8
      refine wpList_nil ?_
      go_upto_region 6 with fail
      refine wp_cond_true (q9.e (j := 30) rfl) ?_
      go_upto_region 6 with fail
      refine wp_region_lit ?_
      refine q9.t (old.val) (ex_ld rfl (q9.e (j := 5) rfl) A2.ldH) fun _ q10 => ?_;clear q9
      refine q10.t (g.val) (ex_ld rfl (q10.e (j := 7) rfl) Bw2.ldH) fun _ q11 => ?_;clear q10
      refine q11.t (.bool (decide (old.v = g.v))) (ex_bin rfl (q11.e (j := 33) rfl) (q11.e (j := 34) rfl) (eqHZ _ _ _ _ _)) fun _ q12 => ?_;clear q11
      refine q12.t (.bool (decide (old.v = g.v))) (ex_assign rfl (q12.e (j := 35) rfl)) fun _ q13 => ?_;clear q12
      refine wpList_nil ?_
      go_wp2
      refine bodyPost_ret (results_tmp rfl _ _ _) rfl ?_
      rw [getD_of (q13.a 10 rfl)]
      exact ⟨by unfold jnR; rw [if_neg h0, if_pos h1]; rfl, d2⟩
    · refine q7.t (.bool false) (ex_bin rfl (q7.e (j := 14) rfl) (q7.e (j := 31) rfl) (eqF20 _ _ (by omega) _)) fun _ q8 => ?_;clear q7
      refine q8.t (.bool false) (ex_assign rfl (q8.e (j := 32) rfl)) fun _ q9 => ?_;clear q8
      refine wpList_nil ?_
      go_upto_region 7 with fail
      refine wp_cond_false (q9.e (j := 30) rfl) ?_
      go_upto_region 7 with fail
      refine wp_region_lit ?_
      refine q9.t (old.val) (ex_ld rfl (q9.e (j := 5) rfl) A2.ldH) fun _ q10 => ?_;clear q9
      refine q10.t (.int .i64 ((m : Nat) : Int)) (ex_move rfl (q10.e (j := 1) rfl)) fun _ q11 => ?_;clear q10
      refine q11.t (.int .i64 ((n : Nat) : Int)) (ex_move rfl (q11.e (j := 3) rfl)) fun _ q12 => ?_;clear q11
      refine q12.t (.slice a k c) (ex_move rfl (q12.e (j := 4) rfl)) fun _ q13 => ?_;clear q12
      refine vcallP (want_none rfl) (ex_call rfl (by simp only [List.map_toArray, List.map_cons, List.map_nil, (q13.e (j := 37) rfl), (q13.e (j := 38) rfl), (q13.e (j := 39) rfl), (q13.e (j := 40) rfl), evc] <;> rfl) rfl) (climbBoth20 old m n true P a k c w2 s2 (by rw [hk]; unfold sbN; rw [if_neg h0]) hn (by omega) hm) rfl q13.z (by decide) ?_
      rintro e w3 ⟨rfl, b3⟩
      refine ⟨_, rfl, q13.k fun _ q14 => ?_⟩;clear q13
      have z3 := b3.size
      refine q14.t (.tuple #[(cb old m n true P).1.val, (cb old m n true P).2.val]) (ex_move rfl (q14.e (j := 41) rfl)) fun _ q15 => ?_;clear q14
      refine q15.t ((cb old m n true P).1.val) (ex_ext18 rfl (q15.e (j := 36) rfl) (xt0 _ _ _)) fun _ q16 => ?_;clear q15
      refine q16.t ((cb old m n true P).2.val) (ex_ext18 rfl (q16.e (j := 36) rfl) (xt1 _ _ _)) fun _ q17 => ?_;clear q16
      obtain ⟨w4, hw4⟩ : ∃ y, y = w3.alloc (.cells (zH.cs).toArray 24) := ⟨_, rfl⟩
      refine vw (.pointer (some ⟨w3.heap.size, 0, none⟩)) w4 (want_none rfl) (ex_al rfl (by rw [hw4]; exact alH _)) rfl q17.z (by decide) (q17.k fun _ q18 => ?_);clear q17
      have Bw4 : BB w4 w3.heap.size 24 (zH.cs) := by rw [hw4]; exact BB.new _ _ _
      have bw4 : Below w3.heap.size w3 w4 := by rw [hw4]; exact (Below.refl _ _).alloc (Nat.le_refl _) _
      have zw4 : w4.heap.size = w3.heap.size + 1 := by rw [hw4]; exact World.size_alloc _ _
      clear hw4
      obtain ⟨w5, hw5⟩ : ∃ y, y = w4.alloc (.cells (zH.cs).toArray 24) := ⟨_, rfl⟩
      refine vw (.pointer (some ⟨w4.heap.size, 0, none⟩)) w5 (want_none rfl) (ex_al rfl (by rw [hw5]; exact alH _)) rfl q18.z (by decide) (q18.k fun _ q19 => ?_);clear q18
      have Bw5 : BB w5 w4.heap.size 24 (zH.cs) := by rw [hw5]; exact BB.new _ _ _
      have bw5 : Below w4.heap.size w4 w5 := by rw [hw5]; exact (Below.refl _ _).alloc (Nat.le_refl _) _
      have zw5 : w5.heap.size = w4.heap.size + 1 := by rw [hw5]; exact World.size_alloc _ _
      clear hw5
      have F5 := Bw4.later bw5
      obtain ⟨wa, hwa⟩ : ∃ y, y = w5.setCells w3.heap.size 0 ((cb old m n true P).1).cs := ⟨_, rfl⟩
      refine vs wa (want_none rfl) (ex_st rfl (q19.e (j := 12) rfl) (q19.e (j := 42) rfl) (by rw [hwa]; exact F5.stH rfl _)) rfl ?_
      have Bwa : BB wa w3.heap.size 24 ((cb old m n true P).1).cs := by rw [hwa]; exact F5.putH rfl _
      have uwa : Upd (fun k => k = w3.heap.size) w5 wa := by rw [hwa]; exact upd18 _ _ _ _
      clear hwa
      have G5 := Bw5.upd uwa (show ¬ w4.heap.size = w3.heap.size by omega)
      obtain ⟨wb, hwb⟩ : ∃ y, y = wa.setCells w4.heap.size 0 ((cb old m n true P).2).cs := ⟨_, rfl⟩
      refine vs wb (want_none rfl) (ex_st rfl (q19.e (j := 13) rfl) (q19.e (j := 43) rfl) (by rw [hwb]; exact G5.stH rfl _)) rfl ?_
      have Bwb : BB wb w4.heap.size 24 ((cb old m n true P).2).cs := by rw [hwb]; exact G5.putH rfl _
      have uwb : Upd (fun k => k = w4.heap.size) wa wb := by rw [hwb]; exact upd18 _ _ _ _
      clear hwb
      have za := uwa.size
      have Fb := Bwa.upd uwb (show ¬ w3.heap.size = w4.heap.size by omega)
      have bb : Below w3.heap.size w3 wb := ((bw4.trans (bw5.mono (by omega))).trans (bel_ge uwa (by omega) (Nat.le_refl _))).trans (bel_ge uwb (by omega) (by omega))
      have A9 := (A2.later b3).later bb
      have H9 := (Bw2.later b3).later bb
      have d9 : Below w.heap.size w wb := (d2.trans (b3.mono (by omega))).trans (bb.mono (by omega))
      refine wpList_nil ?_
      go_upto_region 8 with fail
      refine wp_region_lit ?_
      refine q19.t ((cb old m n true P).1.val) (ex_ld rfl (q19.e (j := 12) rfl) Fb.ldH) fun _ q20 => ?_;clear q19
      refine q20.t (old.val) (ex_ld rfl (q20.e (j := 5) rfl) A9.ldH) fun _ q21 => ?_;clear q20
      refine q21.t (.bool (decide ((cb old m n true P).1.v = old.v))) (ex_bin rfl (q21.e (j := 44) rfl) (q21.e (j := 45) rfl) (eqHZ _ _ _ _ _)) fun _ q22 => ?_;clear q21
      refine q22.t (.bool (decide ((cb old m n true P).1.v = old.v))) (ex_move rfl (q22.e (j := 46) rfl)) fun _ q23 => ?_;clear q22
      refine vl ((true && (decide ((cb old m n true P).1.v = old.v) == true))) ((cb old m n true P).2.val) (want_g rfl rfl (q23.a 47 rfl)) (fun hc => ex_ld rfl (q23.e (j := 13) rfl) Bwb.ldH) rfl q23.z (by decide) (q23.k fun _ q24 => ?_);clear q23
      refine vl ((true && (decide ((cb old m n true P).1.v = old.v) == true))) (g.val) (want_g rfl rfl (q24.a 47 rfl)) (fun hc => ex_ld rfl (q24.e (j := 7) rfl) H9.ldH) rfl q24.z (by decide) (q24.k fun _ q25 => ?_);clear q24
      refine vl ((true && (decide ((cb old m n true P).1.v = old.v) == true))) (.bool (decide ((cb old m n true P).2.v = g.v))) (want_g rfl rfl (q25.a 47 rfl)) (fun hc => ex_bin rfl (ev (q25.a 48 rfl) hc) (ev (q25.a 49 rfl) hc) (eqHZ _ _ _ _ _)) rfl q25.z (by decide) (q25.k fun _ q26 => ?_);clear q25
      refine q26.t (.bool (decide ((cb old m n true P).1.v = old.v) && decide ((cb old m n true P).2.v = g.v))) (ex_and rfl (q26.a 47 rfl) (q26.a 50 rfl) rfl) fun _ q27 => ?_;clear q26
      refine q27.t (.bool (decide ((cb old m n true P).1.v = old.v) && decide ((cb old m n true P).2.v = g.v))) (ex_assign rfl (q27.e (j := 51) rfl)) fun _ q28 => ?_;clear q27
      refine wpList_nil ?_
      go_wp2
      refine bodyPost_ret (results_tmp rfl _ _ _) rfl ?_
      rw [getD_of (q28.a 10 rfl)]
      exact ⟨by unfold jnR; rw [if_neg h0, if_neg h1]; rfl, d9⟩
set_option maxHeartbeats 2000000 in
theorem extends20 (old : Hs) (m : Int) (g : Hs) (n : Int) (P : List Hs) (a : Option Addr) (k c : Nat) (w : World) (h : SlY yH w a k c P) (hn : n ≤ 9223372036854775807) :
    Calls Try.prog 31 #[old.val, .int .i64 m, g.val, .int .i64 n, .slice a k c] w fun e w' => e = .returned (.int .i64 (exR old m g n P)) ∧ Below w.heap.size w w' := by
  go_enter Try.func31, Try.ntmps31
  go_upto_region 0 with fail
  refine wp_region_lit ?_
  refine vl_gen (fun T => Rp T 34 [(4, gw true (.slice a k c)), (3, gw true (.int .i64 (n : Int))), (2, gw true (g.val)), (1, gw true (.int .i64 (m : Int))), (0, gw true (old.val))]) ((((((Rp.nil rfl).cons rfl).cons rfl).cons rfl).cons rfl).cons rfl) (fun Z0 q0 => ?_)
  have hln := h.len
  obtain ⟨w1, hw1⟩ : ∃ y, y = w.alloc (.cells (old.cs).toArray 24) := ⟨_, rfl⟩
  refine vw (.pointer (some ⟨w.heap.size, 0, none⟩)) w1 (want_none rfl) (ex_box18 rfl (q0.e (j := 0) rfl) (by rw [hw1]; exact bxH20 _ _)) rfl q0.z (by decide) (q0.k fun _ q1 => ?_);clear q0
  have Bw1 : BB w1 w.heap.size 24 (old.cs) := by rw [hw1]; exact BB.new _ _ _
  have bw1 : Below w.heap.size w w1 := by rw [hw1]; exact (Below.refl _ _).alloc (Nat.le_refl _) _
  have zw1 : w1.heap.size = w.heap.size + 1 := by rw [hw1]; exact World.size_alloc _ _
  clear hw1
  obtain ⟨w2, hw2⟩ : ∃ y, y = w1.alloc (.cells (g.cs).toArray 24) := ⟨_, rfl⟩
  refine vw (.pointer (some ⟨w1.heap.size, 0, none⟩)) w2 (want_none rfl) (ex_box18 rfl (q1.e (j := 2) rfl) (by rw [hw2]; exact bxH20 _ _)) rfl q1.z (by decide) (q1.k fun _ q2 => ?_);clear q1
  have Bw2 : BB w2 w1.heap.size 24 (g.cs) := by rw [hw2]; exact BB.new _ _ _
  have bw2 : Below w1.heap.size w1 w2 := by rw [hw2]; exact (Below.refl _ _).alloc (Nat.le_refl _) _
  have zw2 : w2.heap.size = w1.heap.size + 1 := by rw [hw2]; exact World.size_alloc _ _
  clear hw2
  refine q2.t (.int .i64 (0 : Int)) (ex_assign rfl rfl) fun _ q3 => ?_;clear q2
  refine wpList_nil ?_
  go_upto_region 1 with fail
  refine wp_region_lit ?_
  have A2 := Bw1.later bw2
  have d2 : Below w.heap.size w w2 := bw1.trans (bw2.mono (by omega))
  have s2 := (h.later bw1).later bw2
  refine q3.t (.int .i64 (m : Int)) (ex_move rfl (q3.e (j := 1) rfl)) fun _ q4 => ?_;clear q3
  refine q4.t (.bool (decide (m < 0))) (ex_bin (Y := .int .i64 (0 : Int)) rfl (q4.e (j := 12) rfl) rfl (ltZ20 _ _ _ _ _)) fun _ q5 => ?_;clear q4
  refine q5.t (.bool (decide (m < 0))) (ex_move rfl (q5.e (j := 13) rfl)) fun _ q6 => ?_;clear q5
  refine vl ((true && (decide (m < 0) == false))) (.int .i64 (n : Int)) (want_g rfl rfl (q6.a 14 rfl)) (fun hc => ex_move rfl (q6.e (j := 3) rfl)) rfl q6.z (by decide) (q6.k fun _ q7 => ?_);clear q6
  refine vl ((true && (decide (m < 0) == false))) (.int .i64 (m : Int)) (want_g rfl rfl (q7.a 14 rfl)) (fun hc => ex_move rfl (q7.e (j := 1) rfl)) rfl q7.z (by decide) (q7.k fun _ q8 => ?_);clear q7
  refine vl ((true && (decide (m < 0) == false))) (.bool (decide (n < m))) (want_g rfl rfl (q8.a 14 rfl)) (fun hc => ex_bin rfl (ev (q8.a 15 rfl) hc) (ev (q8.a 16 rfl) hc) (ltZ20 _ _ _ _ _)) rfl q8.z (by decide) (q8.k fun _ q9 => ?_);clear q8
  refine q9.t (.bool (decide (m < 0) || decide (n < m))) (ex_or rfl (q9.a 14 rfl) (q9.a 17 rfl) rfl) fun _ q10 => ?_;clear q9
  refine q10.t (.bool (decide (m < 0) || decide (n < m))) (ex_assign rfl (q10.e (j := 18) rfl)) fun _ q11 => ?_;clear q10
  rw [dec_or20] at q11
  refine wpList_nil ?_
  by_cases hb : m < 0 ∨ n < m
  · rw [decide_eq_true hb] at q11
    go_upto_region 2 with fail
    refine wp_cond_true (q11.e (j := 11) rfl) ?_
    go_upto_region 2 with fail
    refine wp_region_lit ?_
    refine q11.t (.int .i64 (200 : Int)) (ex_assign rfl rfl) fun _ q12 => ?_;clear q11
    refine wpList_nil ?_
    go_wp2
    refine bodyPost_ret (results_tmp rfl _ _ _) rfl ?_
    rw [getD_of (q12.a 10 rfl)]
    exact ⟨by unfold exR; rw [if_pos (by omega)]; rfl, d2⟩
  · rw [decide_eq_false hb] at q11
    obtain ⟨j, rfl⟩ : ∃ j : Nat, m = (j : Int) := ⟨m.toNat, by omega⟩
    obtain ⟨i, rfl⟩ : ∃ i : Nat, n = (i : Int) := ⟨n.toNat, by omega⟩
    go_upto_region 3 with fail
    refine wp_cond_false (q11.e (j := 11) rfl) ?_
    go_upto_region 3 with fail
    refine wp_region_lit ?_
    refine q11.t (.slice a k c) (ex_move rfl (q11.e (j := 4) rfl)) fun _ q12 => ?_;clear q11
    refine q12.t (.int .i64 ((k : Nat) : Int)) (ex_lenG rfl rfl Try.underlying42 (q12.e (j := 20) rfl)) fun _ q13 => ?_;clear q12
    refine q13.t (.int .i64 ((j : Nat) : Int)) (ex_move rfl (q13.e (j := 1) rfl)) fun _ q14 => ?_;clear q13
    refine q14.t (.int .i64 ((i : Nat) : Int)) (ex_move rfl (q14.e (j := 3) rfl)) fun _ q15 => ?_;clear q14
    refine vcallP (want_none rfl) (ex_call rfl (by simp only [List.map_toArray, List.map_cons, List.map_nil, (q15.e (j := 22) rfl), (q15.e (j := 23) rfl), evc] <;> rfl) rfl) (stepsBetween20 j i w2 (by omega) (by omega)) rfl q15.z (by decide) ?_
    rintro e w9 ⟨rfl, hw9⟩
    refine ⟨_, rfl, q15.k fun _ q16 => ?_⟩;clear q15
    have hw9 := hw9.symm
    subst hw9
    by_cases hk : k = sbN j i
    · refine q16.t (.bool false) (ex_bin rfl (q16.e (j := 21) rfl) (q16.e (j := 24) rfl) (neF20 _ _ (by omega) _)) fun _ q17 => ?_;clear q16
      refine q17.t (.bool false) (ex_assign rfl (q17.e (j := 25) rfl)) fun _ q18 => ?_;clear q17
      refine wpList_nil ?_
      go_upto_region 5 with fail
      refine wp_cond_false (q18.e (j := 19) rfl) ?_
      go_upto_region 5 with fail
      refine wp_region_lit ?_
      refine q18.t (old.val) (ex_ld rfl (q18.e (j := 5) rfl) A2.ldH) fun _ q19 => ?_;clear q18
      refine q19.t (.int .i64 ((j : Nat) : Int)) (ex_move rfl (q19.e (j := 1) rfl)) fun _ q20 => ?_;clear q19
      refine q20.t (g.val) (ex_ld rfl (q20.e (j := 7) rfl) Bw2.ldH) fun _ q21 => ?_;clear q20
      refine q21.t (.int .i64 ((i : Nat) : Int)) (ex_move rfl (q21.e (j := 3) rfl)) fun _ q22 => ?_;clear q21
      refine q22.t (.slice a k c) (ex_move rfl (q22.e (j := 4) rfl)) fun _ q23 => ?_;clear q22
      refine vcallP (want_none rfl) (ex_call rfl (by simp only [List.map_toArray, List.map_cons, List.map_nil, (q23.e (j := 27) rfl), (q23.e (j := 28) rfl), (q23.e (j := 29) rfl), (q23.e (j := 30) rfl), (q23.e (j := 31) rfl), evc] <;> rfl) rfl) (joined20 old j i g P a k c w2 s2 hk (by omega) (by omega)) rfl q23.z (by decide) ?_
      rintro e w3 ⟨rfl, b3⟩
      refine ⟨_, rfl, q23.k fun _ q24 => ?_⟩;clear q23
      have d3 : Below w.heap.size w w3 := d2.trans (b3.mono d2.size)
      refine q24.t (.bool (!jnR old j i g P)) (ex_not rfl (q24.e (j := 32) rfl)) fun _ q25 => ?_;clear q24
      refine q25.t (.bool (!jnR old j i g P)) (ex_assign rfl (q25.e (j := 33) rfl)) fun _ q26 => ?_;clear q25
      refine wpList_nil ?_
      have hko : ¬ P.length ≠ sbN (j : Int).toNat (i : Int).toNat := by rw [Int.toNat_natCast, Int.toNat_natCast, hln]; exact fun e => e hk
      have HK := hide hko
      clear hko
      cases hc : jnR old j i g P
      · rw [hc] at q26
        have HC := hide hc
        clear hc
        go_upto_region 6 with fail
        refine wp_cond_true (q26.e (j := 26) rfl) ?_
        go_upto_region 6 with fail
        refine wp_region_lit ?_
        refine q26.t (.int .i64 (202 : Int)) (ex_assign rfl rfl) fun _ q27 => ?_;clear q26
        refine wpList_nil ?_
        go_wp2
        refine bodyPost_ret (results_tmp rfl _ _ _) rfl ?_
        rw [getD_of (q27.a 10 rfl)]
        exact ⟨by unfold exR; rw [if_neg (by omega), if_neg HK.out, if_neg (by rw [Int.toNat_natCast, Int.toNat_natCast, HC.out]; decide)]; rfl, d3⟩
      · rw [hc] at q26
        have HC := hide hc
        clear hc
        go_upto_region 7 with fail
        refine wp_cond_false (q26.e (j := 26) rfl) ?_
        go_upto_region 7 with fail
        refine wp_region_lit ?_
        refine q26.t (.int .i64 (0 : Int)) (ex_assign rfl rfl) fun _ q27 => ?_;clear q26
        refine wpList_nil ?_
        go_wp2
        refine bodyPost_ret (results_tmp rfl _ _ _) rfl ?_
        rw [getD_of (q27.a 10 rfl)]
        exact ⟨by unfold exR; rw [if_neg (by omega), if_neg HK.out, if_pos (by rw [Int.toNat_natCast, Int.toNat_natCast, HC.out])]; rfl, d3⟩
    · refine q16.t (.bool true) (ex_bin rfl (q16.e (j := 21) rfl) (q16.e (j := 24) rfl) (neT20 _ _ (by omega) _)) fun _ q17 => ?_;clear q16
      refine q17.t (.bool true) (ex_assign rfl (q17.e (j := 25) rfl)) fun _ q18 => ?_;clear q17
      refine wpList_nil ?_
      go_upto_region 4 with fail
      refine wp_cond_true (q18.e (j := 19) rfl) ?_
      go_upto_region 4 with fail
      refine wp_region_lit ?_
      refine q18.t (.int .i64 (201 : Int)) (ex_assign rfl rfl) fun _ q19 => ?_;clear q18
      refine wpList_nil ?_
      go_wp2
      refine bodyPost_ret (results_tmp rfl _ _ _) rfl ?_
      rw [getD_of (q19.a 10 rfl)]
      exact ⟨by unfold exR; rw [if_neg (by omega), if_pos (by rw [Int.toNat_natCast, Int.toNat_natCast, hln]; exact hk)]; rfl, d2⟩
end Go.Proofs.Ytfafhlahbhopaaa
