import Derived.Test.YtjodieiaccfkiaaS8
namespace Go.Proofs.Ytjodieiaccfkiaa
open Go.RowKit Go.Maps
open Classical
set_option linter.unusedVariables false
set_option linter.unusedSimpArgs false

/-- What a digit stands for; -1: none. -/
def vl9 (c : Int) : Int := if 48 ≤ c ∧ c ≤ 57 then c - 48 else if 97 ≤ c ∧ c ≤ 102 then c - 87 else -1
theorem vl9_lt (c : Int) : vl9 c < 16 := by unfold vl9; split <;> (try split) <;> omega
theorem vl9_ge (c : Int) : -1 ≤ vl9 c := by unfold vl9; split <;> (try split) <;> omega
def hS9 (t : List Int) : Nat → List Int
  | 0 => List.replicate 32 0
  | i + 1 => (hS9 t i).set (i / 2) (((hS9 t i).getD (i / 2) 0 * 16 + vl9 (t.getD i 0)) % 256)
theorem hS9_len (t : List Int) : ∀ i, (hS9 t i).length = 32
  | 0 => by simp [hS9]
  | i + 1 => by rw [hS9, List.length_set, hS9_len t i]
def z32 : List Int := List.replicate 32 0
/-- What a reading of a text answers. -/
def PS (t : List Int) (r : List Int × Int × Int) : Prop :=
  (∃ j, j < min t.length 64 ∧ (∀ i, i < j → 0 ≤ vl9 (t.getD i 0)) ∧ vl9 (t.getD j 0) < 0 ∧ r = (z32, 190, (j : Int))) ∨ ((∀ i, i < min t.length 64 → 0 ≤ vl9 (t.getD i 0)) ∧ ((t.length ≠ 64 ∧ r = (z32, 190, ((min t.length 64 : Nat) : Int))) ∨ (t.length = 64 ∧ r = (hS9 t 64, 0, 0))))
theorem PS.one {t : List Int} {r s : List Int × Int × Int} (h : PS t r) (k : PS t s) : r = s := by
  rcases h with ⟨j, h1, h2, h3, rfl⟩ | ⟨h1, h2⟩
  · rcases k with ⟨i, k1, k2, k3, rfl⟩ | ⟨k1, k2⟩
    · have : i = j := by
        rcases Nat.lt_trichotomy i j with e | e | e
        · have := h2 i e; omega
        · exact e
        · have := k2 j e; omega
      rw [this]
    · have := k1 j h1; omega
  · rcases k with ⟨i, k1, k2, k3, rfl⟩ | ⟨k1, k2⟩
    · have := h1 i k1; omega
    · rcases h2 with ⟨a, rfl⟩ | ⟨a, rfl⟩
      · rcases k2 with ⟨b, rfl⟩ | ⟨b, rfl⟩
        · rfl
        · exact absurd b a
      · rcases k2 with ⟨b, rfl⟩ | ⟨b, rfl⟩
        · exact absurd a b
        · rfl
theorem or16 (x v : Int) (h0 : 0 ≤ v) (h1 : v < 16) : bits .or .u8 (IntKind.u8.wrap (x * 2 ^ 4)) v = (x * 16 + v) % 256 := by
  have e : IntKind.u8.wrap (x * 2 ^ 4) = x * 16 % 256 := by rw [IntKind.wrap_u8]; rfl
  rw [e, bits_join .u8 8 (Nat.le_refl _) (fun n h0 h1 => wraps_u8 n h0 h1) 4 (x * 16 % 256) v (by omega) (by omega) (by omega) h0 (by omega) (by omega)]
  omega
theorem txt_in (s : ByteArray) (i : Nat) : 0 ≤ (txt s).getD i 0 ∧ (txt s).getD i 0 < 256 := by
  rw [txt, List.getD_eq_getElem?_getD, List.getElem?_map]
  cases h : s.data.toList[i]? with
  | none => simp
  | some b =>
    have := b.toNat_lt
    simp only [Option.map_some, Option.getD_some]
    omega
theorem txt_len (s : ByteArray) : (txt s).length = s.size := by rw [txt, List.length_map, Array.length_toList]; rfl
theorem lenS9 {o : Oper} {ρ : Operand → Value} {x : Operand} {s : ByteArray} {w : World} (ho : o.op = .call { callee := .builtin .len, args := #[x], argTypes := #[9] }) (ht : o.type = 3) (hx : ρ x = .string s) : (execOp ρ o).run Try.prog w = .ok (.value (.int .i64 (((txt s).length : Nat) : Int))) w := by
  rw [txt_len]
  unfold execOp
  simp only [ho]
  rw [Sem.run_bind]
  simp only [resolve, List.map_toArray, List.map_cons, List.map_nil, hx, ht]
  go_simp
theorem min9 {o : Oper} {ρ : Operand → Value} {x : Operand} {n : Nat} {w : World} (ho : o.op = .call { callee := .builtin .min, args := #[x, .const (.int .i64 64)], argTypes := #[3, 3] }) (ht : o.type = 3) (hc : ρ (.const (.int .i64 64)) = .int .i64 64) (hx : ρ x = .int .i64 (n : Int)) : (execOp ρ o).run Try.prog w = .ok (.value (.int .i64 ((min n 64 : Nat) : Int))) w := by
  unfold execOp
  simp only [ho]
  rw [Sem.run_bind]
  simp only [resolve, List.map_toArray, List.map_cons, List.map_nil, hx, hc, ht]
  by_cases h : n ≤ 64
  · have h2 : ¬ (64 : Int) < (n : Int) := by omega
    rw [Nat.min_eq_left h]
    go_simp
    first | done | (simp; omega)
  · have h2 : (64 : Int) < (n : Int) := by omega
    rw [Nat.min_eq_right (by omega)]
    go_simp
    first | done | (simp; omega)
theorem shl8 (x y : Operand) (a : Int) (w : World) : (do eqGuard .shl 5 x y (.int .u8 a) (.int .u64 4); binOp .shl 5 (.int .u8 a) (.int .u64 4) : Sem Value).run Try.prog w = .ok (.int .u8 (IntKind.u8.wrap (a * 2 ^ 4))) w := by
  have h2 := shift_shl .u8 .u64 a 4 (by omega) (by show (4 : Int) ≤ ((_ : Nat) : Int); simp [IntKind.bits])
  rw [Sem.run_bind]
  have e : (eqGuard .shl 5 x y (.int .u8 a) (.int .u64 4)).run Try.prog w = .ok () w := by go_simp
  rw [e, Result.andThen_ok]
  show (Op.shift .shl .u8 a .u64 4).run Try.prog w = _
  rw [h2]
  rfl
theorem or8 (x y : Operand) (a b : Int) (w : World) : (do eqGuard .or 5 x y (.int .u8 a) (.int .u8 b); binOp .or 5 (.int .u8 a) (.int .u8 b) : Sem Value).run Try.prog w = .ok (.int .u8 (bits .or .u8 a b)) w := by go_simp
theorem geq8 (x y : Operand) (a b : Int) (w : World) : (do eqGuard .geq 5 x y (.int .u8 a) (.int .u8 b); binOp .geq 5 (.int .u8 a) (.int .u8 b) : Sem Value).run Try.prog w = .ok (.bool (decide (b ≤ a))) w := by go_simp
theorem leq8 (x y : Operand) (a b : Int) (w : World) : (do eqGuard .leq 5 x y (.int .u8 a) (.int .u8 b); binOp .leq 5 (.int .u8 a) (.int .u8 b) : Sem Value).run Try.prog w = .ok (.bool (decide (a ≤ b))) w := by go_simp
theorem sub8 (x y : Operand) (a b : Int) (w : World) : (do eqGuard .sub 5 x y (.int .u8 a) (.int .u8 b); binOp .sub 5 (.int .u8 a) (.int .u8 b) : Sem Value).run Try.prog w = .ok (.int .u8 (IntKind.u8.wrap (a - b))) w := by go_simp
theorem add8 (x y : Operand) (a b : Int) (w : World) : (do eqGuard .add 5 x y (.int .u8 a) (.int .u8 b); binOp .add 5 (.int .u8 a) (.int .u8 b) : Sem Value).run Try.prog w = .ok (.int .u8 (IntKind.u8.wrap (a + b))) w := by go_simp
theorem mul8 (x y : Operand) (a b : Int) (w : World) : (do eqGuard .mul 5 x y (.int .u8 a) (.int .u8 b); binOp .mul 5 (.int .u8 a) (.int .u8 b) : Sem Value).run Try.prog w = .ok (.int .u8 (IntKind.u8.wrap (a * b))) w := by go_simp
theorem cv8_I (a : Int) (h0 : 0 ≤ a) (h1 : a < 256) (w : World) : (Go.convert 5 3 (.int .u8 a)).run Try.prog w = .ok (.int .i64 a) w := by
  have hw : IntKind.i64.wrap a = a := by rw [IntKind.wrap_i64]; omega
  go_simp
theorem cvI_8 (a : Int) (w : World) : (Go.convert 3 5 (.int .i64 a)).run Try.prog w = .ok (.int .u8 (IntKind.u8.wrap a)) w := by go_simp
theorem zrH (w : World) : (Instr.build 32 #[]).run Try.prog w = .ok (.agg (z32.map bV).toArray) w := by kernel_rfl
theorem z32_m : (z32.map bV).length = 32 := by rw [len_bV]; rfl
theorem res3 {fn : Func} {i j k : Tmp} {ty : TypeId} {T : Array Value} {R : Ending → World → Prop} {w : World} {q : Nat} {Ty : TypeId} {cs : List Value} {x y : Value} (h : BB w q Ty cs) (hf : fn.results = #[.cell i ty, .tmp j, .tmp k]) (hq : T[i]? = some (gw true (.pointer (some ⟨q, 0, none⟩)))) (hj : T[j]? = some (gw true x)) (hk : T[k]? = some (gw true y)) {d : TypeDesc} (hu : Try.prog.underlying ty = some d) (hd : d.isRow = true) (hi : (Try.prog.info? ty).map (·.size) = some cs.length) (hR : R (.returned (.tuple #[.agg cs.toArray, x, y])) w) : bodyPost Try.prog fn R .ret ⟨T, []⟩ w := by
  refine bodyPost_ret (v := .tuple #[.agg cs.toArray, x, y]) ?_ rfl hR
  have := run_loadVar_mid (P := Try.prog) w q 0 ty cs _ (fun j v hv => by rw [Nat.zero_add, h.cell]; exact hv) hu hd hi
  have hq' : T.getD i undef = .pointer (some ⟨q, 0, none⟩) := getD_of hq
  have hj' : T.getD j undef = x := getD_of hj
  have hk' : T.getD k undef = y := getD_of hk
  simp only [results, hf]
  simp only [Array.getD_eq_getD_getElem?] at hq' hj' hk'
  simp [Sem.run_bind, Result.andThen, hq', hj', hk', asAddr, this]
set_option maxRecDepth 100000 in
theorem valueOf19 (c : Int) (h0 : 0 ≤ c) (h1 : c < 256) (w : World) : Calls Try.prog 37 #[.int .u8 c] w fun e w' => e = .returned (.tuple #[.int .u8 (if 0 ≤ vl9 c then vl9 c else 0), .bool (decide (0 ≤ vl9 c))]) ∧ w' = w := by
  have hw : ∀ k : Int, 0 ≤ k → k < 256 → IntKind.u8.wrap k = k := fun k a b => by rw [IntKind.wrap_u8]; omega
  have hv : ∀ k : Int, 0 ≤ k → k < 256 → IntKind.i64.wrap k = k := fun k a b => by rw [IntKind.wrap_i64]; omega
  by_cases a1 : 48 ≤ c
  · by_cases a2 : c ≤ 57
    · have w1 := hw (c - 48) (by omega) (by omega)
      have v1 := hv (c - 48) (by omega) (by omega)
      rw [(show vl9 c = c - 48 by unfold vl9; rw [if_pos ⟨a1, a2⟩])]
      rw [if_pos (by omega), decide_eq_true (by omega)]
      go_enter Try.func37, Try.ntmps37
      go_wp2
      go_ret2
      exact ⟨rfl, rfl⟩
    · by_cases a3 : 97 ≤ c
      · by_cases a4 : c ≤ 102
        · have w1 := hw (c - 97) (by omega) (by omega)
          have w2 := hw (c - 97 + 10) (by omega) (by omega)
          have v1 := hv (c - 97) (by omega) (by omega)
          have v2 := hv (c - 97 + 10) (by omega) (by omega)
          rw [(show vl9 c = c - 97 + 10 by unfold vl9; rw [if_neg (by omega), if_pos ⟨a3, a4⟩]; omega)]
          rw [if_pos (by omega), decide_eq_true (by omega)]
          go_enter Try.func37, Try.ntmps37
          go_wp2
          go_ret2
          exact ⟨rfl, rfl⟩
        · rw [(show vl9 c = -1 by unfold vl9; rw [if_neg (by omega), if_neg (by omega)])]
          rw [if_neg (by omega), decide_eq_false (by omega)]
          go_enter Try.func37, Try.ntmps37
          go_wp2
          go_ret2
          exact ⟨rfl, rfl⟩
      · rw [(show vl9 c = -1 by unfold vl9; rw [if_neg (by omega), if_neg (by omega)])]
        rw [if_neg (by omega), decide_eq_false (by omega)]
        go_enter Try.func37, Try.ntmps37
        go_wp2
        go_ret2
        exact ⟨rfl, rfl⟩
  · have a3 : ¬ 97 ≤ c := by omega
    rw [(show vl9 c = -1 by unfold vl9; rw [if_neg (by omega), if_neg (by omega)])]
    rw [if_neg (by omega), decide_eq_false (by omega)]
    go_enter Try.func37, Try.ntmps37
    go_wp2
    go_ret2
    exact ⟨rfl, rfl⟩
set_option maxRecDepth 100000 in
theorem digit19 (c : Int) (h0 : 0 ≤ c) (h1 : c < 256) (w : World) : Calls Try.prog 38 #[.int .u8 c] w fun e w' => e = .returned (.int .i64 (vl9 c)) ∧ w' = w := by
  have hw : ∀ k : Int, 0 ≤ k → k < 256 → IntKind.u8.wrap k = k := fun k a b => by rw [IntKind.wrap_u8]; omega
  have hv : ∀ k : Int, 0 ≤ k → k < 256 → IntKind.i64.wrap k = k := fun k a b => by rw [IntKind.wrap_i64]; omega
  by_cases a1 : 48 ≤ c
  · by_cases a2 : c ≤ 57
    · have w1 := hw (c - 48) (by omega) (by omega)
      have v1 := hv (c - 48) (by omega) (by omega)
      rw [(show vl9 c = c - 48 by unfold vl9; rw [if_pos ⟨a1, a2⟩])]
      go_enter Try.func38, Try.ntmps38
      go_wp2
      go_ret
      exact ⟨rfl, rfl⟩
    · by_cases a3 : 97 ≤ c
      · by_cases a4 : c ≤ 102
        · have w1 := hw (c - 97) (by omega) (by omega)
          have w2 := hw (c - 97 + 10) (by omega) (by omega)
          have v1 := hv (c - 97) (by omega) (by omega)
          have v2 := hv (c - 97 + 10) (by omega) (by omega)
          rw [(show vl9 c = c - 97 + 10 by unfold vl9; rw [if_neg (by omega), if_pos ⟨a3, a4⟩]; omega)]
          go_enter Try.func38, Try.ntmps38
          go_wp2
          go_ret
          exact ⟨rfl, rfl⟩
        · rw [(show vl9 c = -1 by unfold vl9; rw [if_neg (by omega), if_neg (by omega)])]
          go_enter Try.func38, Try.ntmps38
          go_wp2
          go_ret
          exact ⟨rfl, rfl⟩
      · rw [(show vl9 c = -1 by unfold vl9; rw [if_neg (by omega), if_neg (by omega)])]
        go_enter Try.func38, Try.ntmps38
        go_wp2
        go_ret
        exact ⟨rfl, rfl⟩
  · have a3 : ¬ 97 ≤ c := by omega
    rw [(show vl9 c = -1 by unfold vl9; rw [if_neg (by omega), if_neg (by omega)])]
    go_enter Try.func38, Try.ntmps38
    go_wp2
    go_ret
    exact ⟨rfl, rfl⟩
set_option maxRecDepth 100000 in
set_option maxHeartbeats 2000000 in
theorem parse19 (t : ByteArray) (w : World) :
    Calls Try.prog 15 #[.string t] w fun e w' => ∃ r : List Int × Int × Int, e = .returned (.tuple #[.agg (r.1.map bV).toArray, .int .i64 r.2.1, .int .i64 r.2.2]) ∧ PS (txt t) r ∧ Below w.heap.size w w' := by
  go_enter Try.func15, Try.ntmps15
  go_upto_region 0 with fail
  refine wp_region_lit ?_
  refine vl_gen (fun T => Rp T 45 [(0, gw true (.string t))]) ((Rp.nil rfl).cons rfl) (fun Z0 q0 => ?_)
  obtain ⟨w1, hw1⟩ : ∃ y, y = w.alloc (.cells (z32.map bV).toArray 32) := ⟨_, rfl⟩
  refine vw (.pointer (some ⟨w.heap.size, 0, none⟩)) w1 (want_none rfl) (ex_al rfl (by rw [hw1]; exact alH _)) rfl q0.z (by decide) (q0.k fun _ q1 => ?_);clear q0
  have Bw1 : BB w1 w.heap.size 32 (z32.map bV) := by rw [hw1]; exact BB.new _ _ _
  have bw1 : Below w.heap.size w w1 := by rw [hw1]; exact (Below.refl _ _).alloc (Nat.le_refl _) _
  have zw1 : w1.heap.size = w.heap.size + 1 := by rw [hw1]; exact World.size_alloc _ _
  clear hw1
  refine q1.t (.int .i64 0) (ex_assign rfl rfl) fun _ q2 => ?_;clear q1
  refine q2.t (.int .i64 0) (ex_assign rfl rfl) fun _ q3 => ?_;clear q2
  refine wpList_nil ?_
  go_upto_region 1 with fail
  refine wp_region_lit ?_
  obtain ⟨w2, hw2⟩ : ∃ y, y = w1.alloc (.cells (z32.map bV).toArray 32) := ⟨_, rfl⟩
  refine vw (.pointer (some ⟨w1.heap.size, 0, none⟩)) w2 (want_none rfl) (ex_al rfl (by rw [hw2]; exact alH _)) rfl q3.z (by decide) (q3.k fun _ q4 => ?_);clear q3
  have Bw2 : BB w2 w1.heap.size 32 (z32.map bV) := by rw [hw2]; exact BB.new _ _ _
  have bw2 : Below w1.heap.size w1 w2 := by rw [hw2]; exact (Below.refl _ _).alloc (Nat.le_refl _) _
  have zw2 : w2.heap.size = w1.heap.size + 1 := by rw [hw2]; exact World.size_alloc _ _
  clear hw2
  refine wpList_nil ?_
  go_upto_region 2 with fail
  refine wp_region_lit ?_
  refine q4.t (.string t) (ex_move rfl (q4.e (j := 0) rfl)) fun _ q5 => ?_;clear q4
  refine q5.t (.int .i64 (((txt t).length : Nat) : Int)) (lenS9 rfl rfl (q5.e (j := 10) rfl)) fun _ q6 => ?_;clear q5
  refine q6.t (.int .i64 ((min (txt t).length 64 : Nat) : Int)) (min9 rfl rfl rfl (q6.e (j := 11) rfl)) fun _ q7 => ?_;clear q6
  refine q7.t (.int .i64 ((min (txt t).length 64 : Nat) : Int)) (ex_assign rfl (q7.e (j := 12) rfl)) fun _ q8 => ?_;clear q7
  refine wpList_nil ?_
  go_upto_region 3 with fail
  refine wp_region_lit ?_
  refine q8.t (.int .i64 ((min (txt t).length 64 : Nat) : Int)) (ex_move rfl (q8.e (j := 6) rfl)) fun _ q9 => ?_;clear q8
  refine q9.t (.int .i64 ((0 : Nat) : Int)) (ex_move rfl rfl) fun _ q10 => ?_;clear q9
  have q11 := (((((((Rp.nil q10.z).cons (q10.a 0 rfl)).cons (q10.a 2 rfl)).cons (q10.a 5 rfl)).cons (q10.a 6 rfl)).cons (q10.a 13 rfl)).cons (q10.a 14 rfl))
  clear q10
  refine wpList_nil ?_
  go_upto_region 4 with fail
  have Bq := Bw1.later bw2
  have bw : Below w.heap.size w w2 := bw1.trans (bw2.mono (by omega))
  refine v_loop 14 (min (txt t).length 64) (fun j T wr => Rp T 45 [(14, gw true (.int .i64 ((j : Nat) : Int))), (13, gw true (.int .i64 ((min (txt t).length 64 : Nat) : Int))), (6, gw true (.int .i64 ((min (txt t).length 64 : Nat) : Int))), (5, gw true (.pointer (some ⟨w1.heap.size, 0, none⟩))), (2, gw true (.pointer (some ⟨w.heap.size, 0, none⟩))), (0, gw true (.string t))] ∧ Hid (BB wr w1.heap.size 32 ((hS9 (txt t) j).map bV) ∧ BB wr w.heap.size 32 (z32.map bV) ∧ Below w.heap.size w wr ∧ ∀ i, i < j → 0 ≤ vl9 ((txt t).getD i 0))) (fun j T w h => h.1.a 14 rfl) ⟨q11, Bw2, Bq, bw, fun i hi => by omega⟩ ?_
  clear q11 Bw2 Bq
  intro j T wr hj hh
  obtain ⟨q100, HJ⟩ := hh
  obtain ⟨B3, B2, br, hgd⟩ := HJ.out
  clear HJ
  have zr := br.size
  have hl := hS9_len (txt t) j
  by_cases hit : j < min (txt t).length 64
  · have hjl : j < (txt t).length := by omega
    have hj64 : j < 64 := by omega
    obtain ⟨c0, c1⟩ := txt_in t j
    obtain ⟨c, hc⟩ : ∃ c, c = (txt t).getD j 0 := ⟨_, rfl⟩
    rw [← hc] at c0 c1
    have hidx := idxS t .i64 j hjl wr
    rw [← hc] at hidx
    have hv16 := vl9_lt c
    go_upto_region 4 with fail
    refine wp_region_lit ?_
    refine q100.t (.bool true) (ex_bin rfl (q100.e (j := 14) rfl) (q100.e (j := 13) rfl) (ltT _ _ hit _)) fun _ q101 => ?_;clear q100
    refine wpList_nil ?_
    go_upto_region 5 with fail
    refine wp_cond_true (q101.e (j := 15) rfl) ?_
    go_upto_region 5 with fail
    refine wp_region_lit ?_
    refine q101.t (.int .i64 ((j : Nat) : Int)) (ex_move rfl (q101.e (j := 14) rfl)) fun _ q102 => ?_;clear q101
    refine q102.t (.int .i64 ((j : Nat) : Int)) (ex_assign rfl (q102.e (j := 16) rfl)) fun _ q103 => ?_;clear q102
    refine wpList_nil ?_
    go_upto_region 6 with fail
    refine wp_region_lit ?_
    refine q103.t (.string t) (ex_move rfl (q103.e (j := 0) rfl)) fun _ q104 => ?_;clear q103
    refine q104.t (.int .i64 ((j : Nat) : Int)) (ex_move rfl (q104.e (j := 7) rfl)) fun _ q105 => ?_;clear q104
    refine q105.t (.int .u8 (c)) (ex_index9 rfl (q105.e (j := 18) rfl) (q105.e (j := 19) rfl) hidx) fun _ q106 => ?_;clear q105
    refine vcallP (want_none rfl) (ex_call rfl (by simp only [List.map_toArray, List.map_cons, List.map_nil, (q106.e (j := 20) rfl), evc] <;> rfl) rfl) (valueOf19 c c0 c1 wr) rfl q106.z (by decide) ?_
    rintro e wr ⟨rfl, rfl⟩
    refine ⟨_, rfl, q106.k fun _ q107 => ?_⟩;clear q106
    refine q107.t (.tuple #[.int .u8 (if 0 ≤ vl9 c then vl9 c else 0), .bool (decide (0 ≤ vl9 c))]) (ex_move rfl (q107.e (j := 21) rfl)) fun _ q108 => ?_;clear q107
    refine q108.t (.int .u8 (if 0 ≤ vl9 c then vl9 c else 0)) (ex_ext18 rfl (q108.e (j := 17) rfl) rfl) fun _ q109 => ?_;clear q108
    refine q109.t (.bool (decide (0 ≤ vl9 c))) (ex_ext18 rfl (q109.e (j := 17) rfl) rfl) fun _ q110 => ?_;clear q109
    refine q110.t (.int .u8 (if 0 ≤ vl9 c then vl9 c else 0)) (ex_assign rfl (q110.e (j := 22) rfl)) fun _ q111 => ?_;clear q110
    refine q111.t (.bool (decide (0 ≤ vl9 c))) (ex_assign rfl (q111.e (j := 23) rfl)) fun _ q112 => ?_;clear q111
    have q113 := ((((((((((Rp.nil q112.z).cons (q112.a 0 rfl)).cons (q112.a 2 rfl)).cons (q112.a 5 rfl)).cons (q112.a 6 rfl)).cons (q112.a 13 rfl)).cons (q112.a 14 rfl)).cons (q112.a 7 rfl)).cons (q112.a 8 rfl)).cons (q112.a 9 rfl))
    clear q112
    refine wpList_nil ?_
    go_upto_region 7 with fail
    refine wp_region_lit ?_
    refine q113.t (.bool (decide (0 ≤ vl9 c))) (ex_move rfl (q113.e (j := 9) rfl)) fun _ q114 => ?_;clear q113
    refine q114.t (.bool (!decide (0 ≤ vl9 c))) (ex_not rfl (q114.e (j := 24) rfl)) fun _ q115 => ?_;clear q114
    have q116 := ((((((((((Rp.nil q115.z).cons (q115.a 0 rfl)).cons (q115.a 2 rfl)).cons (q115.a 5 rfl)).cons (q115.a 6 rfl)).cons (q115.a 13 rfl)).cons (q115.a 14 rfl)).cons (q115.a 7 rfl)).cons (q115.a 8 rfl)).cons (q115.a 25 rfl))
    clear q115
    refine wpList_nil ?_
    by_cases hv : 0 ≤ vl9 c
    · have q116x := q116.a 25 rfl
      rw [decide_eq_true hv] at q116x
      rw [if_pos hv] at q116
      have hj2 : j / 2 < 32 := by omega
      have cj := B3.v9 (j := j / 2) (by omega)
      go_upto_region 9 with fail
      refine wp_cond_false (ev q116x rfl) ?_
      clear q116x
      go_upto_region 9 with fail
      refine wp_region_lit ?_
      refine q116.t (.int .i64 ((j : Nat) : Int)) (ex_move rfl (q116.e (j := 7) rfl)) fun _ q117 => ?_;clear q116
      refine q117.t (.int .i64 ((j / 2 : Nat) : Int)) (ex_bin rfl (q117.e (j := 28) rfl) rfl (quoC _ _ j 2 (by decide) (by omega) _)) fun _ q118 => ?_;clear q117
      refine q118.t (.int .i64 ((j : Nat) : Int)) (ex_move rfl (q118.e (j := 7) rfl)) fun _ q119 => ?_;clear q118
      refine q119.t (.int .i64 ((j / 2 : Nat) : Int)) (ex_bin rfl (q119.e (j := 30) rfl) rfl (quoC _ _ j 2 (by decide) (by omega) _)) fun _ q120 => ?_;clear q119
      refine q120.t (.pointer (some ⟨w1.heap.size, (j / 2), none⟩)) (ex_ix rfl (q120.e (j := 5) rfl) (q120.e (j := 31) rfl) (ixA0 w1.heap.size (j / 2) 32 32 5 Try.underlying32 i1b hj2 _)) fun _ q121 => ?_;clear q120
      refine q121.t (.int .u8 ((hS9 (txt t) j).getD (j / 2) 0)) (ex_ld rfl (q121.e (j := 32) rfl) (ld8 cj)) fun _ q122 => ?_;clear q121
      refine q122.t (.int .u8 (IntKind.u8.wrap ((hS9 (txt t) j).getD (j / 2) 0 * 2 ^ 4))) (ex_bin rfl (q122.e (j := 33) rfl) rfl (shl8 _ _ _ _)) fun _ q123 => ?_;clear q122
      refine q123.t (.int .u8 (vl9 c)) (ex_move rfl (q123.e (j := 8) rfl)) fun _ q124 => ?_;clear q123
      refine q124.t (.int .u8 (((hS9 (txt t) j).getD (j / 2) 0 * 16 + vl9 c) % 256)) (ex_bin rfl (q124.e (j := 34) rfl) (q124.e (j := 35) rfl) (by rw [or8, or16 _ _ hv hv16])) fun _ q125 => ?_;clear q124
      refine q125.t (.pointer (some ⟨w1.heap.size, (j / 2), none⟩)) (ex_ix rfl (q125.e (j := 5) rfl) (q125.e (j := 29) rfl) (ixA0 w1.heap.size (j / 2) 32 32 5 Try.underlying32 i1b hj2 _)) fun _ q126 => ?_;clear q125
      obtain ⟨d2, hd2⟩ : ∃ z, z = wr.setCell ⟨w1.heap.size, j / 2, none⟩ (.int .u8 (((hS9 (txt t) j).getD (j / 2) 0 * 16 + vl9 c) % 256)) := ⟨_, rfl⟩
      refine vs d2 (want_none rfl) (ex_st rfl (q126.e (j := 37) rfl) (q126.e (j := 36) rfl) (by rw [hd2]; exact st8 cj (B3.free _))) rfl ?_
      have B3e : BB d2 w1.heap.size 32 ((hS9 (txt t) (j + 1)).map bV) := by rw [hd2, hc]; exact B3.setv _ _
      have ue : Upd (fun k => k = w1.heap.size) wr d2 := by rw [hd2]; exact upd1 _ _ _ _
      have B2e := B2.upd ue (by omega)
      have be : Below w.heap.size w d2 := br.trans (bel_ge ue (by omega) (by omega))
      clear hd2
      have q127 := (((((((Rp.nil q126.z).cons (q126.a 0 rfl)).cons (q126.a 2 rfl)).cons (q126.a 5 rfl)).cons (q126.a 6 rfl)).cons (q126.a 13 rfl)).cons (q126.a 14 rfl))
      clear q126
      refine wpList_nil ?_
      go_upto_region 10 with fail
      refine wp_region_lit ?_
      refine q127.t (.int .i64 ((j + 1 : Nat) : Int)) (ex_bin rfl (q127.e (j := 14) rfl) rfl (add1C _ _ j (by omega) _)) fun _ q128 => ?_;clear q127
      refine q128.t (.int .i64 ((j + 1 : Nat) : Int)) (ex_move rfl (q128.e (j := 38) rfl)) fun _ q129 => ?_;clear q128
      have q130 := (((((((Rp.nil q129.z).cons (q129.a 0 rfl)).cons (q129.a 2 rfl)).cons (q129.a 5 rfl)).cons (q129.a 6 rfl)).cons (q129.a 13 rfl)).cons (q129.a 14 rfl))
      clear q129
      refine wpList_nil ?_
      exact ⟨_, rfl, hit, q130, B3e, B2e, be, (fun i hi => (Nat.lt_or_ge i j).elim (hgd i) (fun h => by have e : i = j := (by omega); rw [e, ← hc]; exact hv))⟩
    · have q116x := q116.a 25 rfl
      rw [decide_eq_false hv] at q116x
      go_upto_region 8 with fail
      refine wp_cond_true (ev q116x rfl) ?_
      clear q116x
      go_upto_region 8 with fail
      refine wp_region_lit ?_
      refine q116.t (.agg (z32.map bV).toArray) (ex_build rfl (zrH _)) fun _ q117 => ?_;clear q116
      refine q117.t (.int .i64 ((j : Nat) : Int)) (ex_move rfl (q117.e (j := 7) rfl)) fun _ q118 => ?_;clear q117
      obtain ⟨d3, hd3⟩ : ∃ y, y = wr.setCells w.heap.size 0 (z32.map bV) := ⟨_, rfl⟩
      refine vs d3 (want_none rfl) (ex_st rfl (q118.e (j := 2) rfl) (q118.e (j := 26) rfl) (by rw [hd3]; exact B2.st 32 _ rfl (by rw [List.size_toArray, z32_m]; exact i32h) (one_b _))) rfl ?_
      have Bd3 : BB d3 w.heap.size 32 (z32.map bV) := by rw [hd3]; exact B2.whole _ rfl
      have ud3 : Upd (fun k => k = w.heap.size) wr d3 := by rw [hd3]; exact upd18 _ _ _ _
      clear hd3
      have bd3 : Below w.heap.size w d3 := br.trans (bel_ge ud3 br.size (Nat.le_refl _))
      refine q118.t (.int .i64 190) (ex_assign rfl rfl) fun _ q119 => ?_;clear q118
      refine q119.t (.int .i64 ((j : Nat) : Int)) (ex_assign rfl (q119.e (j := 27) rfl)) fun _ q120 => ?_;clear q119
      refine wpList_nil ?_
      go_wp2
      exact res3 Bd3 rfl (q120.a 2 rfl) (q120.a 3 rfl) (q120.a 4 rfl) Try.underlying32 rfl (by rw [z32_m]; exact i32h) ⟨(z32, 190, (j : Int)), rfl, .inl ⟨j, hit, hgd, by rw [← hc]; omega, rfl⟩, bd3⟩
  · obtain rfl : j = min (txt t).length 64 := by omega
    go_upto_region 4 with fail
    refine wp_region_lit ?_
    refine q100.t (.bool false) (ex_bin rfl (q100.e (j := 14) rfl) (q100.e (j := 13) rfl) (ltF _ _ hit _)) fun _ q101 => ?_;clear q100
    refine wpList_nil ?_
    go_upto_region 11 with fail
    refine wp_cond_false (q101.e (j := 15) rfl) ?_
    go_upto_region 11 with fail
    refine wp_region_lit ?_
    refine q101.t (.string t) (ex_move rfl (q101.e (j := 0) rfl)) fun _ q102 => ?_;clear q101
    refine q102.t (.int .i64 (((txt t).length : Nat) : Int)) (lenS9 rfl rfl (q102.e (j := 39) rfl)) fun _ q103 => ?_;clear q102
    refine q103.t (.bool (!decide ((((txt t).length : Nat) : Int) = 64))) (ex_bin rfl (q103.e (j := 40) rfl) rfl (neqC _ _ _ _ _)) fun _ q104 => ?_;clear q103
    have q105 := (((((Rp.nil q104.z).cons (q104.a 2 rfl)).cons (q104.a 5 rfl)).cons (q104.a 6 rfl)).cons (q104.a 41 rfl))
    clear q104
    refine wpList_nil ?_
    by_cases h64 : (txt t).length = 64
    · have q105x := q105.a 41 rfl
      rw [decide_eq_true (by omega)] at q105x
      have hm64 : min (txt t).length 64 = 64 := by omega
      rw [hm64] at B3
      have hm : ((hS9 (txt t) 64).map bV).length = 32 := by rw [len_bV]; exact hS9_len _ _
      obtain ⟨H, hH⟩ : ∃ H, H = hS9 (txt t) 64 := ⟨_, rfl⟩
      rw [← hH] at hm B3
      go_upto_region 13 with fail
      refine wp_cond_false (ev q105x rfl) ?_
      clear q105x
      go_upto_region 13 with fail
      refine wp_region_lit ?_
      refine q105.t (.agg (H.map bV).toArray) (ex_ld rfl (q105.e (j := 5) rfl) (B3.ld 32 Try.underlying32 rfl (by rw [hm]; exact i32h))) fun _ q106 => ?_;clear q105
      obtain ⟨d3, hd3⟩ : ∃ y, y = wr.setCells w.heap.size 0 (H.map bV) := ⟨_, rfl⟩
      refine vs d3 (want_none rfl) (ex_st rfl (q106.e (j := 2) rfl) (q106.e (j := 44) rfl) (by rw [hd3]; exact B2.st 32 _ (by rw [hm, z32_m]) (by rw [List.size_toArray, hm]; exact i32h) (one_b _))) rfl ?_
      have Bd3 : BB d3 w.heap.size 32 (H.map bV) := by rw [hd3]; exact B2.whole _ (by rw [hm, z32_m])
      have ud3 : Upd (fun k => k = w.heap.size) wr d3 := by rw [hd3]; exact upd18 _ _ _ _
      clear hd3
      have bd3 : Below w.heap.size w d3 := br.trans (bel_ge ud3 br.size (Nat.le_refl _))
      refine q106.t (.int .i64 0) (ex_assign rfl rfl) fun _ q107 => ?_;clear q106
      refine q107.t (.int .i64 0) (ex_assign rfl rfl) fun _ q108 => ?_;clear q107
      refine wpList_nil ?_
      go_wp2
      exact res3 Bd3 rfl (q108.a 2 rfl) (q108.a 3 rfl) (q108.a 4 rfl) Try.underlying32 rfl (by rw [hm]; exact i32h) ⟨(H, 0, 0), rfl, .inr ⟨hgd, .inr ⟨h64, by rw [hH]⟩⟩, bd3⟩
    · have q105x := q105.a 41 rfl
      rw [decide_eq_false (by omega)] at q105x
      go_upto_region 12 with fail
      refine wp_cond_true (ev q105x rfl) ?_
      clear q105x
      go_upto_region 12 with fail
      refine wp_region_lit ?_
      refine q105.t (.agg (z32.map bV).toArray) (ex_build rfl (zrH _)) fun _ q106 => ?_;clear q105
      refine q106.t (.int .i64 ((min (txt t).length 64 : Nat) : Int)) (ex_move rfl (q106.e (j := 6) rfl)) fun _ q107 => ?_;clear q106
      obtain ⟨d3, hd3⟩ : ∃ y, y = wr.setCells w.heap.size 0 (z32.map bV) := ⟨_, rfl⟩
      refine vs d3 (want_none rfl) (ex_st rfl (q107.e (j := 2) rfl) (q107.e (j := 42) rfl) (by rw [hd3]; exact B2.st 32 _ rfl (by rw [List.size_toArray, z32_m]; exact i32h) (one_b _))) rfl ?_
      have Bd3 : BB d3 w.heap.size 32 (z32.map bV) := by rw [hd3]; exact B2.whole _ rfl
      have ud3 : Upd (fun k => k = w.heap.size) wr d3 := by rw [hd3]; exact upd18 _ _ _ _
      clear hd3
      have bd3 : Below w.heap.size w d3 := br.trans (bel_ge ud3 br.size (Nat.le_refl _))
      refine q107.t (.int .i64 190) (ex_assign rfl rfl) fun _ q108 => ?_;clear q107
      refine q108.t (.int .i64 ((min (txt t).length 64 : Nat) : Int)) (ex_assign rfl (q108.e (j := 43) rfl)) fun _ q109 => ?_;clear q108
      refine wpList_nil ?_
      go_wp2
      exact res3 Bd3 rfl (q109.a 2 rfl) (q109.a 3 rfl) (q109.a 4 rfl) Try.underlying32 rfl (by rw [z32_m]; exact i32h) ⟨(z32, 190, ((min (txt t).length 64 : Nat) : Int)), rfl, .inr ⟨hgd, .inl ⟨h64, rfl⟩⟩, bd3⟩

end Go.Proofs.Ytjodieiaccfkiaa
