import Derived.Test.YtaagmdkhjmonnaaR3
import Derived.Great.BuildSlice
namespace Go.Proofs.Ytaagmdkhjmonnaa
open Go.RowKit Go.Maps
open Classical
set_option linter.unusedVariables false
set_option linter.unusedSimpArgs false

theorem eqZ20 (x y : Operand) (a b : Int) (w : World) : (do eqGuard .eql 3 x y (.int .i64 a) (.int .i64 b); binOp .eql 3 (.int .i64 a) (.int .i64 b) : Sem Value).run Try.prog w = .ok (.bool (decide (a = b))) w := by
  by_cases h : a = b
  · rw [decide_eq_true h]; exact eqT20 x y h w
  · rw [decide_eq_false h]; exact eqF20 x y h w
theorem leZ20 (x y : Operand) (a b : Int) (w : World) : (do eqGuard .leq 3 x y (.int .i64 a) (.int .i64 b); binOp .leq 3 (.int .i64 a) (.int .i64 b) : Sem Value).run Try.prog w = .ok (.bool (decide (a ≤ b))) w := by
  by_cases h : a ≤ b
  · rw [decide_eq_true h]; exact leT20 x y h w
  · rw [decide_eq_false h]; exact leF20 x y h w
theorem ltZ20 (x y : Operand) (a b : Int) (w : World) : (do eqGuard .lss 3 x y (.int .i64 a) (.int .i64 b); binOp .lss 3 (.int .i64 a) (.int .i64 b) : Sem Value).run Try.prog w = .ok (.bool (decide (a < b))) w := by
  by_cases h : a < b
  · rw [decide_eq_true h]; exact ltT20 x y h w
  · rw [decide_eq_false h]; exact ltF20 x y h w
theorem gtZ20 (x y : Operand) (a b : Int) (w : World) : (do eqGuard .gtr 3 x y (.int .i64 a) (.int .i64 b); binOp .gtr 3 (.int .i64 a) (.int .i64 b) : Sem Value).run Try.prog w = .ok (.bool (decide (b < a))) w := by
  by_cases h : b < a
  · rw [decide_eq_true h]; exact gtT20 x y h w
  · rw [decide_eq_false h]; exact gtF20 x y h w
theorem bsH20 (x : Hs) (w : World) : (Instr.buildSlice 42 1 #[(0, x.val)]).run Try.prog w = .ok (.slice (some ⟨w.heap.size, 0, none⟩) 1 1) (w.alloc (.cells x.cs.toArray 24)) := by
  obtain ⟨zv, hinfo, hzc⟩ := kH.info
  obtain ⟨i0, hi, hz0, hz1, hz2⟩ := info_parts hinfo
  have hs : i0.size = 32 := hz1
  have hx : x.val.cells.size = 32 := by show x.cs.toArray.size = 32; rw [List.size_toArray, x.len]
  have hf := Great.fill_whole (s := i0.size) (by omega) [x.val] ((Array.range (1 * i0.size)).map (zv.cells[· % zv.cells.size]!)) (by intro v hv; rw [List.mem_singleton.1 hv, hs, hx]) (by simp)
  have e : ([x.val].flatMap fun v => v.cells.toList).toArray = x.cs.toArray := by
    show ((x.cs.toArray.toList) ++ []).toArray = _
    rw [List.append_nil]
  rw [e] at hf
  exact run_buildSlice (P := Try.prog) w 42 24 1 #[(0, x.val)] x.cs.toArray i0 zv kH.und hi hz0 (by omega) (by omega) hf
theorem sl1H (w : World) (x : Hs) : SlY yH (w.alloc (.cells x.cs.toArray 24)) (some ⟨w.heap.size, 0, none⟩) 1 1 [x] := by
  have := sl_lit kH w [x] 24 (by show 1 ≤ maxLen; unfold maxLen; decide)
  have e : fl yH [x] = x.cs := by show x.cs ++ [] = x.cs; rw [List.append_nil]
  rw [e] at this
  exact this
theorem su_le : ∀ (n p : Nat), 1 ≤ n → su p n + 1 ≤ n := by
  intro n
  induction n using Nat.strongRecOn with
  | _ n ih =>
    intro p h
    by_cases h1 : n = 1
    · subst h1; rw [su_1]; omega
    · have b := lft_b (n := n) (by omega)
      by_cases hp : p ≤ lft n
      · rw [su_l p n (by omega) hp]
        have := ih (lft n) (by omega) p (by omega)
        omega
      · rw [su_r p n (by omega) hp]
        have := ih (n - lft n) (by omega) (p - lft n) (by omega)
        omega
theorem pu_len : ∀ (n : Nat) (L : List Hs) (p : Nat), L.length = n → 1 ≤ n → (pu L p).length = su p n := by
  intro n
  induction n using Nat.strongRecOn with
  | _ n ih =>
    intro L p hL h
    by_cases h1 : n = 1
    · subst h1; rw [pu_1 L p hL, su_1]; rfl
    · have b := lft_b (n := n) (by omega)
      by_cases hp : p ≤ lft n
      · rw [su_l p n (by omega) hp, pu_l L p (by omega) (by rw [hL]; exact hp), List.length_append, hL, ih (lft n) (by omega) (L.take (lft n)) p (by rw [List.length_take]; omega) (by omega)]
        simp; omega
      · rw [su_r p n (by omega) hp, pu_r L p (by omega) (by rw [hL]; exact hp), List.length_append, hL, ih (n - lft n) (by omega) (L.drop (lft n)) (p - lft n) (by rw [List.length_drop]; omega) (by omega)]
        simp; omega
theorem sa_le : ∀ (n m : Nat) (wh : Bool), 1 ≤ m → m ≤ n → sa m n wh ≤ n := by
  intro n
  induction n using Nat.strongRecOn with
  | _ n ih =>
    intro m wh h1 h2
    by_cases h3 : m = n
    · subst h3; rw [sa_e]; cases wh <;> simp <;> omega
    · have b := lft_b (n := n) (by omega)
      by_cases hp : m ≤ lft n
      · rw [sa_l m n wh (by omega) hp]
        have := ih (lft n) (by omega) m wh (by omega) (by omega)
        omega
      · rw [sa_r m n wh (by omega) h3 hp]
        have := ih (n - lft n) (by omega) (m - lft n) false (by omega) (by omega)
        omega
theorem pa_len : ∀ (n : Nat) (L : List Hs) (m : Nat) (wh : Bool), L.length = n → 1 ≤ m → m ≤ n → (pa L m wh).length = sa m n wh := by
  intro n
  induction n using Nat.strongRecOn with
  | _ n ih =>
    intro L m wh hL h1 h2
    by_cases h3 : m = n
    · subst h3; rw [sa_e]; have := pa_e L wh; rw [hL] at this; rw [this]; cases wh <;> rfl
    · have b := lft_b (n := n) (by omega)
      by_cases hp : m ≤ lft n
      · rw [sa_l m n wh (by omega) hp, pa_l L m wh (by omega) (by rw [hL]; exact hp), List.length_append, hL, ih (lft n) (by omega) (L.take (lft n)) m wh (by rw [List.length_take]; omega) (by omega) (by omega)]
        simp; omega
      · rw [sa_r m n wh (by omega) h3 hp, pa_r L m wh (by omega) (by omega) (by rw [hL]; exact hp), List.length_append, hL, ih (n - lft n) (by omega) (L.drop (lft n)) (m - lft n) false (by rw [List.length_drop]; omega) (by omega) (by omega)]
        simp; omega
def inR (L : List Hs) (p : Int) : List Hs × Int := if p < 1 ∨ (L.length : Int) < p then ([], 61) else (pu L p.toNat, 0)
def csR (L : List Hs) (m : Int) : List Hs × Int := if m < 0 ∨ (L.length : Int) < m then ([], 200) else if m = 0 then ([], 0) else (pa L m.toNat true, 0)
set_option maxRecDepth 100000 in
set_option maxHeartbeats 2000000 in
theorem pathUp_step (m : Nat) (ih : ∀ (L : List Hs) (a : Option Addr) (n c p : Nat) (w : World), SlY yH w a n c L → n < m → n ≤ 4398046511104 → 1 ≤ p → p ≤ n → Calls Try.prog 84 #[.slice a n c, .int .i64 (p : Int)] w fun e w' => ∃ v, e = .returned v ∧ OwnY yH w.heap.size w' v (pu L p) ∧ Below w.heap.size w w') (L : List Hs) (a : Option Addr) (n c p : Nat) (w : World) (h : SlY yH w a n c L) (hm : n ≤ m) (hn : n ≤ 4398046511104) (hp1 : 1 ≤ p) (hp2 : p ≤ n) :
    Calls Try.prog 84 #[.slice a n c, .int .i64 (p : Int)] w fun e w' => ∃ v, e = .returned v ∧ OwnY yH w.heap.size w' v (pu L p) ∧ Below w.heap.size w w' := by
  go_enter Try.func84, Try.ntmps84
  go_upto_region 0 with fail
  refine wp_region_lit ?_
  refine vl_gen (fun T => Rp T 39 [(1, gw true (.int .i64 ((p : Nat) : Int))), (0, gw true (.slice a n c))]) (((Rp.nil rfl).cons rfl).cons rfl) (fun Z0 q0 => ?_)
  have hln := h.len
  have hcap := h.cap
  obtain ⟨q, o, rfl, hq, hl⟩ := h.place (by rintro rfl; simp at hln; omega)
  refine q0.t (.slice none 0 0) (ex_assign rfl rfl) fun _ q1 => ?_;clear q0
  refine wpList_nil ?_
  go_upto_region 1 with fail
  refine wp_region_lit ?_
  refine q1.t (.slice (some ⟨q, o, none⟩) n c) (ex_move rfl (q1.e (j := 0) rfl)) fun _ q2 => ?_;clear q1
  refine q2.t (.int .i64 ((n : Nat) : Int)) (ex_lenG rfl rfl Try.underlying42 (q2.e (j := 6) rfl)) fun _ q3 => ?_;clear q2
  by_cases h1 : n = 1
  · refine q3.t (.bool true) (ex_bin (Y := .int .i64 (1 : Int)) rfl (q3.e (j := 7) rfl) rfl (eqT20 _ _ (by omega) _)) fun _ q4 => ?_;clear q3
    refine wpList_nil ?_
    go_upto_region 2 with fail
    refine wp_cond_true (q4.e (j := 8) rfl) ?_
    go_upto_region 2 with fail
    refine wp_region_lit ?_
    refine q4.t (.slice none 0 0) (ex_assign rfl rfl) fun _ q5 => ?_;clear q4
    refine wpList_nil ?_
    go_wp2
    refine bodyPost_ret (results_tmp rfl _ _ _) rfl ?_
    rw [getD_of (q5.a 4 rfl)]
    exact ⟨_, rfl, by rw [pu_1 L p (by omega)]; exact OwnY.nil _ _ _, Below.refl _ _⟩
  · refine q3.t (.bool false) (ex_bin (Y := .int .i64 (1 : Int)) rfl (q3.e (j := 7) rfl) rfl (eqF20 _ _ (by omega) _)) fun _ q4 => ?_;clear q3
    refine wpList_nil ?_
    go_upto_region 3 with fail
    refine wp_cond_false (q4.e (j := 8) rfl) ?_
    go_upto_region 3 with fail
    refine wp_region_lit ?_
    refine q4.t (.slice (some ⟨q, o, none⟩) n c) (ex_move rfl (q4.e (j := 0) rfl)) fun _ q5 => ?_;clear q4
    refine q5.t (.int .i64 ((n : Nat) : Int)) (ex_lenG rfl rfl Try.underlying42 (q5.e (j := 9) rfl)) fun _ q6 => ?_;clear q5
    refine vcallP (want_none rfl) (ex_call rfl (by simp only [List.map_toArray, List.map_cons, List.map_nil, (q6.e (j := 10) rfl), evc] <;> rfl) rfl) (left20 n w (by omega) (by omega)) rfl q6.z (by decide) ?_
    rintro e w9 ⟨rfl, hw9⟩
    refine ⟨_, rfl, q6.k fun _ q7 => ?_⟩;clear q6
    have hw9 := hw9.symm
    subst hw9
    refine q7.t (.int .i64 ((lft n : Nat) : Int)) (ex_assign rfl (q7.e (j := 11) rfl)) fun _ q8 => ?_;clear q7
    refine wpList_nil ?_
    go_upto_region 4 with fail
    refine wp_region_lit ?_
    have hb := lft_b (n := n) (by omega)
    have hs1 := h
    have b01 : Below w.heap.size w w := Below.refl _ _
    refine q8.t (.int .i64 ((p : Nat) : Int)) (ex_move rfl (q8.e (j := 1) rfl)) fun _ q9 => ?_;clear q8
    refine q9.t (.int .i64 ((lft n : Nat) : Int)) (ex_move rfl (q9.e (j := 5) rfl)) fun _ q10 => ?_;clear q9
    by_cases hp : p ≤ lft n
    · refine q10.t (.bool true) (ex_bin rfl (q10.e (j := 12) rfl) (q10.e (j := 13) rfl) (leT20 _ _ (by omega) _)) fun _ q11 => ?_;clear q10
      refine wpList_nil ?_
      go_upto_region 5 with fail
      refine wp_cond_true (q11.e (j := 14) rfl) ?_
      go_upto_region 5 with fail
      refine vg_start (fun k => false) (fun _ => True) (by kernel_rfl) ?_
      have hy0 : Below w.heap.size w w.drew := (Below.refl _ _).drew
      have hzy0 : w.drew.heap.size = w.heap.size := rfl
      generalize w.drew = y0 at *
      have hS := hs1.later hy0
      have sT := hS.take (lft n) (by omega)
      have sF := hS.fromH (lft n) (by omega)
      refine vg_takeW 0 true (.slice (some ⟨q, o, none⟩) n c) rfl (by kernel_rfl) (by kernel_rfl) (by kernel_rfl) (by kernel_rfl) (want_none rfl) (fun hc v => ex_move rfl (q11.e (j := 0) rfl)) rfl q11.z (by decide) (fun _ => trivial) (q11.k fun _ q12 => ?_);clear q11
      refine vg_takeW 1 true (.int .i64 ((lft n : Nat) : Int)) rfl (by kernel_rfl) (by kernel_rfl) (by kernel_rfl) (by kernel_rfl) (want_none rfl) (fun hc v => ex_move rfl (q12.e (j := 5) rfl)) rfl q12.z (by decide) (fun _ => trivial) (q12.k fun _ q13 => ?_);clear q12
      refine vg_takeW 2 true (.slice (some ⟨q, o, none⟩) (lft n) c) rfl (by kernel_rfl) (by kernel_rfl) (by kernel_rfl) (by kernel_rfl) (want_none rfl) (fun hc v => ex_sl19 rfl (q13.e (j := 15) rfl) rfl (congrArg some (q13.e (j := 16) rfl)) rfl (slToH q o n c (lft n) (by omega) hcap _)) rfl q13.z (by decide) (fun _ => trivial) (q13.k fun _ q14 => ?_);clear q13
      refine vg_takeW 3 true (.int .i64 ((p : Nat) : Int)) rfl (by kernel_rfl) (by kernel_rfl) (by kernel_rfl) (by kernel_rfl) (want_none rfl) (fun hc v => ex_move rfl (q14.e (j := 1) rfl)) rfl q14.z (by decide) (fun _ => trivial) (q14.k fun _ q15 => ?_);clear q14
      refine vg_takeW 5 true (.slice (some ⟨q, o, none⟩) n c) rfl (by kernel_rfl) (by kernel_rfl) (by kernel_rfl) (by kernel_rfl) (want_none rfl) (fun hc v => ex_move rfl (q15.e (j := 0) rfl)) rfl q15.z (by decide) (fun _ => trivial) (q15.k fun _ q16 => ?_);clear q15
      refine vg_takeW 6 true (.int .i64 ((lft n : Nat) : Int)) rfl (by kernel_rfl) (by kernel_rfl) (by kernel_rfl) (by kernel_rfl) (want_none rfl) (fun hc v => ex_move rfl (q16.e (j := 5) rfl)) rfl q16.z (by decide) (fun _ => trivial) (q16.k fun _ q17 => ?_);clear q16
      refine vg_takeW 7 true (.slice (some (adH q o c (lft n))) (n - lft n) (c - lft n)) rfl (by kernel_rfl) (by kernel_rfl) (by kernel_rfl) (by kernel_rfl) (want_none rfl) (fun hc v => ex_sl19 rfl (q17.e (j := 20) rfl) (congrArg some (q17.e (j := 21) rfl)) rfl rfl (slFromH q o n c (lft n) (by omega) hcap _)) rfl q17.z (by decide) (fun _ => trivial) (q17.k fun _ q18 => ?_);clear q17
      refine vg_call 4 rfl (by kernel_rfl) (want_none rfl) (ex_call rfl (by simp only [List.map_toArray, List.map_cons, List.map_nil, (q18.e (j := 17) rfl), (q18.e (j := 18) rfl), evc] <;> rfl) rfl) (ih _ _ _ _ p y0 sT (by omega) (by omega) hp1 hp) rfl q18.z (by decide) ?_
      rintro e d1 ⟨v1, rfl, o1, b1⟩
      have z1 := b1.size
      have sO := sF.later b1
      refine ⟨_, rfl, trivial, q18.k fun _ q19 => ?_⟩;clear q18
      refine vg_call 8 rfl (by kernel_rfl) (want_none rfl) (ex_call rfl (by simp only [List.map_toArray, List.map_cons, List.map_nil, (q19.e (j := 22) rfl), evc] <;> rfl) rfl) (headOf20 _ _ _ _ d1 sO (by omega)) rfl q19.z (by decide) ?_
      rintro e d2 ⟨rfl, b2⟩
      have z2 := b2.size
      have o2 := o1.grow b2
      refine ⟨_, rfl, trivial, q19.k fun _ q20 => ?_⟩;clear q19
      obtain ⟨d3, hd3⟩ : ∃ y, y = d2.alloc (.cells (hd (L.drop (lft n))).cs.toArray 24) := ⟨_, rfl⟩
      refine vg_val 9 (.slice (some ⟨d2.heap.size, 0, none⟩) 1 1) d3 rfl (by kernel_rfl) (want_none rfl) (ex_bs18 rfl (q20.e (j := 23) rfl) (by rw [hd3]; exact bsH20 _ _)) rfl q20.z (by decide) (fun _ => trivial) (q20.k fun _ q21 => ?_);clear q20
      have s3 : SlY yH d3 (some ⟨d2.heap.size, 0, none⟩) 1 1 [hd (L.drop (lft n))] := by rw [hd3]; exact sl1H _ _
      have b3 : Below d2.heap.size d2 d3 := by rw [hd3]; exact (Below.refl _ _).alloc (Nat.le_refl _) _
      have z3 := b3.size
      clear hd3
      have o3 := (o2.grow b3).low (B' := w.heap.size) (by omega)
      have hlp : (pu (L.take (lft n)) p).length + 1 ≤ n := by have e1 := pu_len (lft n) (L.take (lft n)) p (by rw [List.length_take]; omega) (by omega); have e2 := su_le (lft n) p (by omega); omega
      obtain ⟨v4, d4, ha4, o4, g4, _⟩ := run_appY kH d3 42 w.heap.size (pu (L.take (lft n)) p) v1 _ 1 1 [hd (L.drop (lft n))] s3 o3 (by omega) (by unfold maxLen; omega) (by show ((pu (L.take (lft n)) p).length + 1) * 32 ≤ _; omega)
      refine vg_val 10 (v4) d4 rfl (by kernel_rfl) (want_none rfl) (ex_app18 rfl (q21.e (j := 19) rfl) (q21.e (j := 24) rfl) ha4) rfl q21.z (by decide) (fun _ => trivial) (q21.k fun _ q22 => ?_);clear q21
      have dd : Below w.heap.size w d3 := ((((b01.trans (hy0.mono (by omega))).trans (b1.mono (by omega))).trans (b2.mono (by omega))).trans (b3.mono (by omega)))
      have d5 := o3.grown dd g4 (by omega)
      refine vg_takeW 11 true (v4) rfl (by kernel_rfl) (by kernel_rfl) (by kernel_rfl) (by kernel_rfl) (want_none rfl) (fun hc v => ex_assign rfl (q22.e (j := 25) rfl)) rfl q22.z (by decide) (fun _ => trivial) (q22.k fun _ q23 => ?_);clear q22
      refine vg_done (by kernel_rfl) ?_
      go_wp2
      refine bodyPost_ret (results_tmp rfl _ _ _) rfl ?_
      rw [getD_of (q23.a 4 rfl)]
      exact ⟨_, rfl, by have := pu_l L p (by omega) (by rw [hln]; exact hp); rw [hln] at this; rw [this]; exact o4, d5⟩
    · refine q10.t (.bool false) (ex_bin rfl (q10.e (j := 12) rfl) (q10.e (j := 13) rfl) (leF20 _ _ (by omega) _)) fun _ q11 => ?_;clear q10
      refine wpList_nil ?_
      go_upto_region 6 with fail
      refine wp_cond_false (q11.e (j := 14) rfl) ?_
      go_upto_region 6 with fail
      refine vg_start (fun k => false) (fun _ => True) (by kernel_rfl) ?_
      have hy0 : Below w.heap.size w w.drew := (Below.refl _ _).drew
      have hzy0 : w.drew.heap.size = w.heap.size := rfl
      generalize w.drew = y0 at *
      have hS := hs1.later hy0
      have sT := hS.take (lft n) (by omega)
      have sF := hS.fromH (lft n) (by omega)
      refine vg_takeW 0 true (.slice (some ⟨q, o, none⟩) n c) rfl (by kernel_rfl) (by kernel_rfl) (by kernel_rfl) (by kernel_rfl) (want_none rfl) (fun hc v => ex_move rfl (q11.e (j := 0) rfl)) rfl q11.z (by decide) (fun _ => trivial) (q11.k fun _ q12 => ?_);clear q11
      refine vg_takeW 1 true (.int .i64 ((lft n : Nat) : Int)) rfl (by kernel_rfl) (by kernel_rfl) (by kernel_rfl) (by kernel_rfl) (want_none rfl) (fun hc v => ex_move rfl (q12.e (j := 5) rfl)) rfl q12.z (by decide) (fun _ => trivial) (q12.k fun _ q13 => ?_);clear q12
      refine vg_takeW 2 true (.slice (some (adH q o c (lft n))) (n - lft n) (c - lft n)) rfl (by kernel_rfl) (by kernel_rfl) (by kernel_rfl) (by kernel_rfl) (want_none rfl) (fun hc v => ex_sl19 rfl (q13.e (j := 26) rfl) (congrArg some (q13.e (j := 27) rfl)) rfl rfl (slFromH q o n c (lft n) (by omega) hcap _)) rfl q13.z (by decide) (fun _ => trivial) (q13.k fun _ q14 => ?_);clear q13
      refine vg_takeW 3 true (.int .i64 ((p : Nat) : Int)) rfl (by kernel_rfl) (by kernel_rfl) (by kernel_rfl) (by kernel_rfl) (want_none rfl) (fun hc v => ex_move rfl (q14.e (j := 1) rfl)) rfl q14.z (by decide) (fun _ => trivial) (q14.k fun _ q15 => ?_);clear q14
      refine vg_takeW 4 true (.int .i64 ((lft n : Nat) : Int)) rfl (by kernel_rfl) (by kernel_rfl) (by kernel_rfl) (by kernel_rfl) (want_none rfl) (fun hc v => ex_move rfl (q15.e (j := 5) rfl)) rfl q15.z (by decide) (fun _ => trivial) (q15.k fun _ q16 => ?_);clear q15
      refine vg_takeW 5 true (.int .i64 ((p - lft n : Nat) : Int)) rfl (by kernel_rfl) (by kernel_rfl) (by kernel_rfl) (by kernel_rfl) (want_none rfl) (fun hc v => ex_bin rfl (q16.e (j := 29) rfl) (q16.e (j := 30) rfl) (subP _ _ p (lft n) (by omega) (by omega) _)) rfl q16.z (by decide) (fun _ => trivial) (q16.k fun _ q17 => ?_);clear q16
      refine vg_takeW 7 true (.slice (some ⟨q, o, none⟩) n c) rfl (by kernel_rfl) (by kernel_rfl) (by kernel_rfl) (by kernel_rfl) (want_none rfl) (fun hc v => ex_move rfl (q17.e (j := 0) rfl)) rfl q17.z (by decide) (fun _ => trivial) (q17.k fun _ q18 => ?_);clear q17
      refine vg_takeW 8 true (.int .i64 ((lft n : Nat) : Int)) rfl (by kernel_rfl) (by kernel_rfl) (by kernel_rfl) (by kernel_rfl) (want_none rfl) (fun hc v => ex_move rfl (q18.e (j := 5) rfl)) rfl q18.z (by decide) (fun _ => trivial) (q18.k fun _ q19 => ?_);clear q18
      refine vg_takeW 9 true (.slice (some ⟨q, o, none⟩) (lft n) c) rfl (by kernel_rfl) (by kernel_rfl) (by kernel_rfl) (by kernel_rfl) (want_none rfl) (fun hc v => ex_sl19 rfl (q19.e (j := 33) rfl) rfl (congrArg some (q19.e (j := 34) rfl)) rfl (slToH q o n c (lft n) (by omega) hcap _)) rfl q19.z (by decide) (fun _ => trivial) (q19.k fun _ q20 => ?_);clear q19
      refine vg_call 6 rfl (by kernel_rfl) (want_none rfl) (ex_call rfl (by simp only [List.map_toArray, List.map_cons, List.map_nil, (q20.e (j := 28) rfl), (q20.e (j := 31) rfl), evc] <;> rfl) rfl) (ih _ _ _ _ (p - lft n) y0 sF (by omega) (by omega) (by omega) (by omega)) rfl q20.z (by decide) ?_
      rintro e d1 ⟨v1, rfl, o1, b1⟩
      have z1 := b1.size
      have sO := sT.later b1
      refine ⟨_, rfl, trivial, q20.k fun _ q21 => ?_⟩;clear q20
      refine vg_call 10 rfl (by kernel_rfl) (want_none rfl) (ex_call rfl (by simp only [List.map_toArray, List.map_cons, List.map_nil, (q21.e (j := 35) rfl), evc] <;> rfl) rfl) (headOf20 _ _ _ _ d1 sO (by omega)) rfl q21.z (by decide) ?_
      rintro e d2 ⟨rfl, b2⟩
      have z2 := b2.size
      have o2 := o1.grow b2
      refine ⟨_, rfl, trivial, q21.k fun _ q22 => ?_⟩;clear q21
      obtain ⟨d3, hd3⟩ : ∃ y, y = d2.alloc (.cells (hd (L.take (lft n))).cs.toArray 24) := ⟨_, rfl⟩
      refine vg_val 11 (.slice (some ⟨d2.heap.size, 0, none⟩) 1 1) d3 rfl (by kernel_rfl) (want_none rfl) (ex_bs18 rfl (q22.e (j := 36) rfl) (by rw [hd3]; exact bsH20 _ _)) rfl q22.z (by decide) (fun _ => trivial) (q22.k fun _ q23 => ?_);clear q22
      have s3 : SlY yH d3 (some ⟨d2.heap.size, 0, none⟩) 1 1 [hd (L.take (lft n))] := by rw [hd3]; exact sl1H _ _
      have b3 : Below d2.heap.size d2 d3 := by rw [hd3]; exact (Below.refl _ _).alloc (Nat.le_refl _) _
      have z3 := b3.size
      clear hd3
      have o3 := (o2.grow b3).low (B' := w.heap.size) (by omega)
      have hlp : (pu (L.drop (lft n)) (p - lft n)).length + 1 ≤ n := by have e1 := pu_len (n - lft n) (L.drop (lft n)) (p - lft n) (by rw [List.length_drop]; omega) (by omega); have e2 := su_le (n - lft n) (p - lft n) (by omega); omega
      obtain ⟨v4, d4, ha4, o4, g4, _⟩ := run_appY kH d3 42 w.heap.size (pu (L.drop (lft n)) (p - lft n)) v1 _ 1 1 [hd (L.take (lft n))] s3 o3 (by omega) (by unfold maxLen; omega) (by show ((pu (L.drop (lft n)) (p - lft n)).length + 1) * 32 ≤ _; omega)
      refine vg_val 12 (v4) d4 rfl (by kernel_rfl) (want_none rfl) (ex_app18 rfl (q23.e (j := 32) rfl) (q23.e (j := 37) rfl) ha4) rfl q23.z (by decide) (fun _ => trivial) (q23.k fun _ q24 => ?_);clear q23
      have dd : Below w.heap.size w d3 := ((((b01.trans (hy0.mono (by omega))).trans (b1.mono (by omega))).trans (b2.mono (by omega))).trans (b3.mono (by omega)))
      have d5 := o3.grown dd g4 (by omega)
      refine vg_takeW 13 true (v4) rfl (by kernel_rfl) (by kernel_rfl) (by kernel_rfl) (by kernel_rfl) (want_none rfl) (fun hc v => ex_assign rfl (q24.e (j := 38) rfl)) rfl q24.z (by decide) (fun _ => trivial) (q24.k fun _ q25 => ?_);clear q24
      refine vg_done (by kernel_rfl) ?_
      go_wp2
      refine bodyPost_ret (results_tmp rfl _ _ _) rfl ?_
      rw [getD_of (q25.a 4 rfl)]
      exact ⟨_, rfl, by have := pu_r L p (by omega) (by rw [hln]; exact hp); rw [hln] at this; rw [this]; exact o4, d5⟩
theorem pathUp20 (L : List Hs) (a : Option Addr) (n c p : Nat) (w : World) (h : SlY yH w a n c L) (hn : n ≤ 4398046511104) (hp1 : 1 ≤ p) (hp2 : p ≤ n) :
    Calls Try.prog 84 #[.slice a n c, .int .i64 (p : Int)] w fun e w' => ∃ v, e = .returned v ∧ OwnY yH w.heap.size w' v (pu L p) ∧ Below w.heap.size w w' := by
  have H : ∀ m, ∀ (L : List Hs) (a : Option Addr) (n c p : Nat) (w : World), SlY yH w a n c L → n < m → n ≤ 4398046511104 → 1 ≤ p → p ≤ n → Calls Try.prog 84 #[.slice a n c, .int .i64 (p : Int)] w fun e w' => ∃ v, e = .returned v ∧ OwnY yH w.heap.size w' v (pu L p) ∧ Below w.heap.size w w' := by
    intro m
    induction m with
    | zero => intro L a n c p w _ h; omega
    | succ m ih => exact fun L a n c p w h hm hn h1 h2 => pathUp_step m ih L a n c p w h (by omega) hn h1 h2
  exact H (n + 1) L a n c p w h (by omega) hn hp1 hp2
theorem own1H (w : World) (x : Hs) : OwnY yH w.heap.size (w.alloc (.cells x.cs.toArray 24)) (.slice (some ⟨w.heap.size, 0, none⟩) 1 1) [x] := by
  unfold OwnY
  have e : (fl yH [x]).toArray = x.cs.toArray := by show (x.cs ++ []).toArray = _; rw [List.append_nil]
  have := World.ownsRow_lit w (e := yH.T) (size := 32) x.cs.toArray 1 (Nat.le_refl _) (by unfold maxLen; decide) (by rw [List.size_toArray, x.len])
  have e2 : fl yH [x] = x.cs.toArray.toList := by show x.cs ++ [] = _; rw [List.append_nil]
  rw [e2]
  exact this
set_option maxRecDepth 100000 in
set_option maxHeartbeats 2000000 in
theorem pathAcross_step (m : Nat) (ih : ∀ (L : List Hs) (a : Option Addr) (n c p : Nat) (wh : Bool) (w : World), SlY yH w a n c L → n < m → n ≤ 4398046511104 → 1 ≤ p → p ≤ n → Calls Try.prog 85 #[.slice a n c, .int .i64 (p : Int), .bool wh] w fun e w' => ∃ v, e = .returned v ∧ OwnY yH w.heap.size w' v (pa L p wh) ∧ Below w.heap.size w w') (L : List Hs) (a : Option Addr) (n c p : Nat) (wh : Bool) (w : World) (h : SlY yH w a n c L) (hm : n ≤ m) (hn : n ≤ 4398046511104) (hp1 : 1 ≤ p) (hp2 : p ≤ n) :
    Calls Try.prog 85 #[.slice a n c, .int .i64 (p : Int), .bool wh] w fun e w' => ∃ v, e = .returned v ∧ OwnY yH w.heap.size w' v (pa L p wh) ∧ Below w.heap.size w w' := by
  go_enter Try.func85, Try.ntmps85
  go_upto_region 0 with fail
  refine wp_region_lit ?_
  refine vl_gen (fun T => Rp T 47 [(2, gw true (.bool wh)), (1, gw true (.int .i64 ((p : Nat) : Int))), (0, gw true (.slice a n c))]) ((((Rp.nil rfl).cons rfl).cons rfl).cons rfl) (fun Z0 q0 => ?_)
  have hln := h.len
  have hcap := h.cap
  obtain ⟨q, o, rfl, hq, hl⟩ := h.place (by rintro rfl; simp at hln; omega)
  refine q0.t (.slice none 0 0) (ex_assign rfl rfl) fun _ q1 => ?_;clear q0
  refine wpList_nil ?_
  go_upto_region 1 with fail
  refine wp_region_lit ?_
  refine q1.t (.int .i64 ((p : Nat) : Int)) (ex_move rfl (q1.e (j := 1) rfl)) fun _ q2 => ?_;clear q1
  refine q2.t (.slice (some ⟨q, o, none⟩) n c) (ex_move rfl (q2.e (j := 0) rfl)) fun _ q3 => ?_;clear q2
  refine q3.t (.int .i64 ((n : Nat) : Int)) (ex_lenG rfl rfl Try.underlying42 (q3.e (j := 9) rfl)) fun _ q4 => ?_;clear q3
  by_cases h1 : p = n
  · refine q4.t (.bool true) (ex_bin rfl (q4.e (j := 8) rfl) (q4.e (j := 10) rfl) (eqT20 _ _ (by omega) _)) fun _ q5 => ?_;clear q4
    refine wpList_nil ?_
    go_upto_region 2 with fail
    refine wp_cond_true (q5.e (j := 11) rfl) ?_
    go_upto_region 2 with fail
    refine wp_region_lit ?_
    have hpe : pa L p wh = bif wh then [] else [hd L] := by rw [h1, ← hln]; exact pa_e L wh
    refine q5.t (.bool wh) (ex_move rfl (q5.e (j := 2) rfl)) fun _ q6 => ?_;clear q5
    refine wpList_nil ?_
    cases hwh : wh
    · have HE := hide hpe
      clear hpe
      subst hwh
      go_upto_region 4 with fail
      refine wp_cond_false (q6.e (j := 12) rfl) ?_
      go_upto_region 4 with fail
      refine wp_region_lit ?_
      refine q6.t (.slice (some ⟨q, o, none⟩) n c) (ex_move rfl (q6.e (j := 0) rfl)) fun _ q7 => ?_;clear q6
      refine vcallP (want_none rfl) (ex_call rfl (by simp only [List.map_toArray, List.map_cons, List.map_nil, (q7.e (j := 13) rfl), evc] <;> rfl) rfl) (headOf20 _ _ _ _ w h (by omega)) rfl q7.z (by decide) ?_
      rintro e w2 ⟨rfl, b2⟩
      refine ⟨_, rfl, q7.k fun _ q8 => ?_⟩;clear q7
      have z2 := b2.size
      obtain ⟨d3, hd3⟩ : ∃ y, y = w2.alloc (.cells (hd L).cs.toArray 24) := ⟨_, rfl⟩
      refine vw (.slice (some ⟨w2.heap.size, 0, none⟩) 1 1) d3 (want_none rfl) (ex_bs18 rfl (q8.e (j := 14) rfl) (by rw [hd3]; exact bsH20 _ _)) rfl q8.z (by decide) (q8.k fun _ q9 => ?_);clear q8
      have b3 : Below w2.heap.size w2 d3 := by rw [hd3]; exact (Below.refl _ _).alloc (Nat.le_refl _) _
      have o3 : OwnY yH w2.heap.size d3 (.slice (some ⟨w2.heap.size, 0, none⟩) 1 1) [hd L] := by rw [hd3]; exact own1H _ _
      clear hd3
      refine q9.t (.slice (some ⟨w2.heap.size, 0, none⟩) 1 1) (ex_assign rfl (q9.e (j := 15) rfl)) fun _ q10 => ?_;clear q9
      refine wpList_nil ?_
      go_wp2
      refine bodyPost_ret (results_tmp rfl _ _ _) rfl ?_
      rw [getD_of (q10.a 6 rfl)]
      exact ⟨_, rfl, by rw [HE.out]; exact o3.low (by omega), b2.trans (b3.mono (by omega))⟩
    · have HE := hide hpe
      clear hpe
      subst hwh
      go_upto_region 3 with fail
      refine wp_cond_true (q6.e (j := 12) rfl) ?_
      go_upto_region 3 with fail
      refine wp_region_lit ?_
      refine q6.t (.slice none 0 0) (ex_assign rfl rfl) fun _ q7 => ?_;clear q6
      refine wpList_nil ?_
      go_wp2
      refine bodyPost_ret (results_tmp rfl _ _ _) rfl ?_
      rw [getD_of (q7.a 6 rfl)]
      exact ⟨_, rfl, by rw [HE.out]; exact OwnY.nil _ _ _, Below.refl _ _⟩
  · refine q4.t (.bool false) (ex_bin rfl (q4.e (j := 8) rfl) (q4.e (j := 10) rfl) (eqF20 _ _ (by omega) _)) fun _ q5 => ?_;clear q4
    refine wpList_nil ?_
    go_upto_region 5 with fail
    refine wp_cond_false (q5.e (j := 11) rfl) ?_
    go_upto_region 5 with fail
    refine wp_region_lit ?_
    refine q5.t (.slice (some ⟨q, o, none⟩) n c) (ex_move rfl (q5.e (j := 0) rfl)) fun _ q6 => ?_;clear q5
    refine q6.t (.int .i64 ((n : Nat) : Int)) (ex_lenG rfl rfl Try.underlying42 (q6.e (j := 16) rfl)) fun _ q7 => ?_;clear q6
    refine vcallP (want_none rfl) (ex_call rfl (by simp only [List.map_toArray, List.map_cons, List.map_nil, (q7.e (j := 17) rfl), evc] <;> rfl) rfl) (left20 n w (by omega) (by omega)) rfl q7.z (by decide) ?_
    rintro e w9 ⟨rfl, hw9⟩
    refine ⟨_, rfl, q7.k fun _ q8 => ?_⟩;clear q7
    have hw9 := hw9.symm
    subst hw9
    refine q8.t (.int .i64 ((lft n : Nat) : Int)) (ex_assign rfl (q8.e (j := 18) rfl)) fun _ q9 => ?_;clear q8
    refine wpList_nil ?_
    go_upto_region 6 with fail
    refine wp_region_lit ?_
    have hb := lft_b (n := n) (by omega)
    have hs1 := h
    have b01 : Below w.heap.size w w := Below.refl _ _
    refine q9.t (.int .i64 ((p : Nat) : Int)) (ex_move rfl (q9.e (j := 1) rfl)) fun _ q10 => ?_;clear q9
    refine q10.t (.int .i64 ((lft n : Nat) : Int)) (ex_move rfl (q10.e (j := 7) rfl)) fun _ q11 => ?_;clear q10
    by_cases hp : p ≤ lft n
    · refine q11.t (.bool true) (ex_bin rfl (q11.e (j := 19) rfl) (q11.e (j := 20) rfl) (leT20 _ _ (by omega) _)) fun _ q12 => ?_;clear q11
      refine wpList_nil ?_
      go_upto_region 7 with fail
      refine wp_cond_true (q12.e (j := 21) rfl) ?_
      go_upto_region 7 with fail
      refine vg_start (fun k => false) (fun _ => True) (by kernel_rfl) ?_
      have hy0 : Below w.heap.size w w.drew := (Below.refl _ _).drew
      have hzy0 : w.drew.heap.size = w.heap.size := rfl
      generalize w.drew = y0 at *
      have hS := hs1.later hy0
      have sT := hS.take (lft n) (by omega)
      have sF := hS.fromH (lft n) (by omega)
      refine vg_takeW 0 true (.slice (some ⟨q, o, none⟩) n c) rfl (by kernel_rfl) (by kernel_rfl) (by kernel_rfl) (by kernel_rfl) (want_none rfl) (fun hc v => ex_move rfl (q12.e (j := 0) rfl)) rfl q12.z (by decide) (fun _ => trivial) (q12.k fun _ q13 => ?_);clear q12
      refine vg_takeW 1 true (.int .i64 ((lft n : Nat) : Int)) rfl (by kernel_rfl) (by kernel_rfl) (by kernel_rfl) (by kernel_rfl) (want_none rfl) (fun hc v => ex_move rfl (q13.e (j := 7) rfl)) rfl q13.z (by decide) (fun _ => trivial) (q13.k fun _ q14 => ?_);clear q13
      refine vg_takeW 2 true (.slice (some ⟨q, o, none⟩) (lft n) c) rfl (by kernel_rfl) (by kernel_rfl) (by kernel_rfl) (by kernel_rfl) (want_none rfl) (fun hc v => ex_sl19 rfl (q14.e (j := 22) rfl) rfl (congrArg some (q14.e (j := 23) rfl)) rfl (slToH q o n c (lft n) (by omega) hcap _)) rfl q14.z (by decide) (fun _ => trivial) (q14.k fun _ q15 => ?_);clear q14
      refine vg_takeW 3 true (.int .i64 ((p : Nat) : Int)) rfl (by kernel_rfl) (by kernel_rfl) (by kernel_rfl) (by kernel_rfl) (want_none rfl) (fun hc v => ex_move rfl (q15.e (j := 1) rfl)) rfl q15.z (by decide) (fun _ => trivial) (q15.k fun _ q16 => ?_);clear q15
      refine vg_takeW 4 true (.bool wh) rfl (by kernel_rfl) (by kernel_rfl) (by kernel_rfl) (by kernel_rfl) (want_none rfl) (fun hc v => ex_move rfl (q16.e (j := 2) rfl)) rfl q16.z (by decide) (fun _ => trivial) (q16.k fun _ q17 => ?_);clear q16
      refine vg_takeW 6 true (.slice (some ⟨q, o, none⟩) n c) rfl (by kernel_rfl) (by kernel_rfl) (by kernel_rfl) (by kernel_rfl) (want_none rfl) (fun hc v => ex_move rfl (q17.e (j := 0) rfl)) rfl q17.z (by decide) (fun _ => trivial) (q17.k fun _ q18 => ?_);clear q17
      refine vg_takeW 7 true (.int .i64 ((lft n : Nat) : Int)) rfl (by kernel_rfl) (by kernel_rfl) (by kernel_rfl) (by kernel_rfl) (want_none rfl) (fun hc v => ex_move rfl (q18.e (j := 7) rfl)) rfl q18.z (by decide) (fun _ => trivial) (q18.k fun _ q19 => ?_);clear q18
      refine vg_takeW 8 true (.slice (some (adH q o c (lft n))) (n - lft n) (c - lft n)) rfl (by kernel_rfl) (by kernel_rfl) (by kernel_rfl) (by kernel_rfl) (want_none rfl) (fun hc v => ex_sl19 rfl (q19.e (j := 28) rfl) (congrArg some (q19.e (j := 29) rfl)) rfl rfl (slFromH q o n c (lft n) (by omega) hcap _)) rfl q19.z (by decide) (fun _ => trivial) (q19.k fun _ q20 => ?_);clear q19
      refine vg_call 5 rfl (by kernel_rfl) (want_none rfl) (ex_call rfl (by simp only [List.map_toArray, List.map_cons, List.map_nil, (q20.e (j := 24) rfl), (q20.e (j := 25) rfl), (q20.e (j := 26) rfl), evc] <;> rfl) rfl) (ih _ _ _ _ p wh y0 sT (by omega) (by omega) hp1 hp) rfl q20.z (by decide) ?_
      rintro e d1 ⟨v1, rfl, o1, b1⟩
      have z1 := b1.size
      have sO := sF.later b1
      refine ⟨_, rfl, trivial, q20.k fun _ q21 => ?_⟩;clear q20
      refine vg_call 9 rfl (by kernel_rfl) (want_none rfl) (ex_call rfl (by simp only [List.map_toArray, List.map_cons, List.map_nil, (q21.e (j := 30) rfl), evc] <;> rfl) rfl) (headOf20 _ _ _ _ d1 sO (by omega)) rfl q21.z (by decide) ?_
      rintro e d2 ⟨rfl, b2⟩
      have z2 := b2.size
      have o2 := o1.grow b2
      refine ⟨_, rfl, trivial, q21.k fun _ q22 => ?_⟩;clear q21
      obtain ⟨d3, hd3⟩ : ∃ y, y = d2.alloc (.cells (hd (L.drop (lft n))).cs.toArray 24) := ⟨_, rfl⟩
      refine vg_val 10 (.slice (some ⟨d2.heap.size, 0, none⟩) 1 1) d3 rfl (by kernel_rfl) (want_none rfl) (ex_bs18 rfl (q22.e (j := 31) rfl) (by rw [hd3]; exact bsH20 _ _)) rfl q22.z (by decide) (fun _ => trivial) (q22.k fun _ q23 => ?_);clear q22
      have s3 : SlY yH d3 (some ⟨d2.heap.size, 0, none⟩) 1 1 [hd (L.drop (lft n))] := by rw [hd3]; exact sl1H _ _
      have b3 : Below d2.heap.size d2 d3 := by rw [hd3]; exact (Below.refl _ _).alloc (Nat.le_refl _) _
      have z3 := b3.size
      clear hd3
      have o3 := (o2.grow b3).low (B' := w.heap.size) (by omega)
      have hlp : (pa (L.take (lft n)) p wh).length + 1 ≤ n := by have e1 := pa_len (lft n) (L.take (lft n)) p wh (by rw [List.length_take]; omega) hp1 hp; have e2 := sa_le (lft n) p wh hp1 hp; omega
      obtain ⟨v4, d4, ha4, o4, g4, _⟩ := run_appY kH d3 42 w.heap.size (pa (L.take (lft n)) p wh) v1 _ 1 1 [hd (L.drop (lft n))] s3 o3 (by omega) (by unfold maxLen; omega) (by show ((pa (L.take (lft n)) p wh).length + 1) * 32 ≤ _; omega)
      refine vg_val 11 (v4) d4 rfl (by kernel_rfl) (want_none rfl) (ex_app18 rfl (q23.e (j := 27) rfl) (q23.e (j := 32) rfl) ha4) rfl q23.z (by decide) (fun _ => trivial) (q23.k fun _ q24 => ?_);clear q23
      have dd : Below w.heap.size w d3 := ((((b01.trans (hy0.mono (by omega))).trans (b1.mono (by omega))).trans (b2.mono (by omega))).trans (b3.mono (by omega)))
      have d5 := o3.grown dd g4 (by omega)
      refine vg_takeW 12 true (v4) rfl (by kernel_rfl) (by kernel_rfl) (by kernel_rfl) (by kernel_rfl) (want_none rfl) (fun hc v => ex_assign rfl (q24.e (j := 33) rfl)) rfl q24.z (by decide) (fun _ => trivial) (q24.k fun _ q25 => ?_);clear q24
      refine vg_done (by kernel_rfl) ?_
      go_wp2
      refine bodyPost_ret (results_tmp rfl _ _ _) rfl ?_
      rw [getD_of (q25.a 6 rfl)]
      exact ⟨_, rfl, by have := pa_l L p wh (by omega) (by rw [hln]; exact hp); rw [hln] at this; rw [this]; exact o4, d5⟩
    · refine q11.t (.bool false) (ex_bin rfl (q11.e (j := 19) rfl) (q11.e (j := 20) rfl) (leF20 _ _ (by omega) _)) fun _ q12 => ?_;clear q11
      refine wpList_nil ?_
      go_upto_region 8 with fail
      refine wp_cond_false (q12.e (j := 21) rfl) ?_
      go_upto_region 8 with fail
      refine vg_start (fun k => false) (fun _ => True) (by kernel_rfl) ?_
      have hy0 : Below w.heap.size w w.drew := (Below.refl _ _).drew
      have hzy0 : w.drew.heap.size = w.heap.size := rfl
      generalize w.drew = y0 at *
      have hS := hs1.later hy0
      have sT := hS.take (lft n) (by omega)
      have sF := hS.fromH (lft n) (by omega)
      refine vg_takeW 0 true (.slice (some ⟨q, o, none⟩) n c) rfl (by kernel_rfl) (by kernel_rfl) (by kernel_rfl) (by kernel_rfl) (want_none rfl) (fun hc v => ex_move rfl (q12.e (j := 0) rfl)) rfl q12.z (by decide) (fun _ => trivial) (q12.k fun _ q13 => ?_);clear q12
      refine vg_takeW 1 true (.int .i64 ((lft n : Nat) : Int)) rfl (by kernel_rfl) (by kernel_rfl) (by kernel_rfl) (by kernel_rfl) (want_none rfl) (fun hc v => ex_move rfl (q13.e (j := 7) rfl)) rfl q13.z (by decide) (fun _ => trivial) (q13.k fun _ q14 => ?_);clear q13
      refine vg_takeW 2 true (.slice (some (adH q o c (lft n))) (n - lft n) (c - lft n)) rfl (by kernel_rfl) (by kernel_rfl) (by kernel_rfl) (by kernel_rfl) (want_none rfl) (fun hc v => ex_sl19 rfl (q14.e (j := 34) rfl) (congrArg some (q14.e (j := 35) rfl)) rfl rfl (slFromH q o n c (lft n) (by omega) hcap _)) rfl q14.z (by decide) (fun _ => trivial) (q14.k fun _ q15 => ?_);clear q14
      refine vg_takeW 3 true (.int .i64 ((p : Nat) : Int)) rfl (by kernel_rfl) (by kernel_rfl) (by kernel_rfl) (by kernel_rfl) (want_none rfl) (fun hc v => ex_move rfl (q15.e (j := 1) rfl)) rfl q15.z (by decide) (fun _ => trivial) (q15.k fun _ q16 => ?_);clear q15
      refine vg_takeW 4 true (.int .i64 ((lft n : Nat) : Int)) rfl (by kernel_rfl) (by kernel_rfl) (by kernel_rfl) (by kernel_rfl) (want_none rfl) (fun hc v => ex_move rfl (q16.e (j := 7) rfl)) rfl q16.z (by decide) (fun _ => trivial) (q16.k fun _ q17 => ?_);clear q16
      refine vg_takeW 5 true (.int .i64 ((p - lft n : Nat) : Int)) rfl (by kernel_rfl) (by kernel_rfl) (by kernel_rfl) (by kernel_rfl) (want_none rfl) (fun hc v => ex_bin rfl (q17.e (j := 37) rfl) (q17.e (j := 38) rfl) (subP _ _ p (lft n) (by omega) (by omega) _)) rfl q17.z (by decide) (fun _ => trivial) (q17.k fun _ q18 => ?_);clear q17
      refine vg_takeW 7 true (.slice (some ⟨q, o, none⟩) n c) rfl (by kernel_rfl) (by kernel_rfl) (by kernel_rfl) (by kernel_rfl) (want_none rfl) (fun hc v => ex_move rfl (q18.e (j := 0) rfl)) rfl q18.z (by decide) (fun _ => trivial) (q18.k fun _ q19 => ?_);clear q18
      refine vg_takeW 8 true (.int .i64 ((lft n : Nat) : Int)) rfl (by kernel_rfl) (by kernel_rfl) (by kernel_rfl) (by kernel_rfl) (want_none rfl) (fun hc v => ex_move rfl (q19.e (j := 7) rfl)) rfl q19.z (by decide) (fun _ => trivial) (q19.k fun _ q20 => ?_);clear q19
      refine vg_takeW 9 true (.slice (some ⟨q, o, none⟩) (lft n) c) rfl (by kernel_rfl) (by kernel_rfl) (by kernel_rfl) (by kernel_rfl) (want_none rfl) (fun hc v => ex_sl19 rfl (q20.e (j := 41) rfl) rfl (congrArg some (q20.e (j := 42) rfl)) rfl (slToH q o n c (lft n) (by omega) hcap _)) rfl q20.z (by decide) (fun _ => trivial) (q20.k fun _ q21 => ?_);clear q20
      refine vg_call 6 rfl (by kernel_rfl) (want_none rfl) (ex_call rfl (by simp only [List.map_toArray, List.map_cons, List.map_nil, (q21.e (j := 36) rfl), (q21.e (j := 39) rfl), evc] <;> rfl) rfl) (ih _ _ _ _ (p - lft n) false y0 sF (by omega) (by omega) (by omega) (by omega)) rfl q21.z (by decide) ?_
      rintro e d1 ⟨v1, rfl, o1, b1⟩
      have z1 := b1.size
      have sO := sT.later b1
      refine ⟨_, rfl, trivial, q21.k fun _ q22 => ?_⟩;clear q21
      refine vg_call 10 rfl (by kernel_rfl) (want_none rfl) (ex_call rfl (by simp only [List.map_toArray, List.map_cons, List.map_nil, (q22.e (j := 43) rfl), evc] <;> rfl) rfl) (headOf20 _ _ _ _ d1 sO (by omega)) rfl q22.z (by decide) ?_
      rintro e d2 ⟨rfl, b2⟩
      have z2 := b2.size
      have o2 := o1.grow b2
      refine ⟨_, rfl, trivial, q22.k fun _ q23 => ?_⟩;clear q22
      obtain ⟨d3, hd3⟩ : ∃ y, y = d2.alloc (.cells (hd (L.take (lft n))).cs.toArray 24) := ⟨_, rfl⟩
      refine vg_val 11 (.slice (some ⟨d2.heap.size, 0, none⟩) 1 1) d3 rfl (by kernel_rfl) (want_none rfl) (ex_bs18 rfl (q23.e (j := 44) rfl) (by rw [hd3]; exact bsH20 _ _)) rfl q23.z (by decide) (fun _ => trivial) (q23.k fun _ q24 => ?_);clear q23
      have s3 : SlY yH d3 (some ⟨d2.heap.size, 0, none⟩) 1 1 [hd (L.take (lft n))] := by rw [hd3]; exact sl1H _ _
      have b3 : Below d2.heap.size d2 d3 := by rw [hd3]; exact (Below.refl _ _).alloc (Nat.le_refl _) _
      have z3 := b3.size
      clear hd3
      have o3 := (o2.grow b3).low (B' := w.heap.size) (by omega)
      have hlp : (pa (L.drop (lft n)) (p - lft n) false).length + 1 ≤ n := by have e1 := pa_len (n - lft n) (L.drop (lft n)) (p - lft n) false (by rw [List.length_drop]; omega) (by omega) (by omega); have e2 := sa_le (n - lft n) (p - lft n) false (by omega) (by omega); omega
      obtain ⟨v4, d4, ha4, o4, g4, _⟩ := run_appY kH d3 42 w.heap.size (pa (L.drop (lft n)) (p - lft n) false) v1 _ 1 1 [hd (L.take (lft n))] s3 o3 (by omega) (by unfold maxLen; omega) (by show ((pa (L.drop (lft n)) (p - lft n) false).length + 1) * 32 ≤ _; omega)
      refine vg_val 12 (v4) d4 rfl (by kernel_rfl) (want_none rfl) (ex_app18 rfl (q24.e (j := 40) rfl) (q24.e (j := 45) rfl) ha4) rfl q24.z (by decide) (fun _ => trivial) (q24.k fun _ q25 => ?_);clear q24
      have dd : Below w.heap.size w d3 := ((((b01.trans (hy0.mono (by omega))).trans (b1.mono (by omega))).trans (b2.mono (by omega))).trans (b3.mono (by omega)))
      have d5 := o3.grown dd g4 (by omega)
      refine vg_takeW 13 true (v4) rfl (by kernel_rfl) (by kernel_rfl) (by kernel_rfl) (by kernel_rfl) (want_none rfl) (fun hc v => ex_assign rfl (q25.e (j := 46) rfl)) rfl q25.z (by decide) (fun _ => trivial) (q25.k fun _ q26 => ?_);clear q25
      refine vg_done (by kernel_rfl) ?_
      go_wp2
      refine bodyPost_ret (results_tmp rfl _ _ _) rfl ?_
      rw [getD_of (q26.a 6 rfl)]
      exact ⟨_, rfl, by have := pa_r L p wh (by omega) (by omega) (by rw [hln]; exact hp); rw [hln] at this; rw [this]; exact o4, d5⟩
theorem pathAcross20 (L : List Hs) (a : Option Addr) (n c p : Nat) (wh : Bool) (w : World) (h : SlY yH w a n c L) (hn : n ≤ 4398046511104) (hp1 : 1 ≤ p) (hp2 : p ≤ n) :
    Calls Try.prog 85 #[.slice a n c, .int .i64 (p : Int), .bool wh] w fun e w' => ∃ v, e = .returned v ∧ OwnY yH w.heap.size w' v (pa L p wh) ∧ Below w.heap.size w w' := by
  have H : ∀ m, ∀ (L : List Hs) (a : Option Addr) (n c p : Nat) (wh : Bool) (w : World), SlY yH w a n c L → n < m → n ≤ 4398046511104 → 1 ≤ p → p ≤ n → Calls Try.prog 85 #[.slice a n c, .int .i64 (p : Int), .bool wh] w fun e w' => ∃ v, e = .returned v ∧ OwnY yH w.heap.size w' v (pa L p wh) ∧ Below w.heap.size w w' := by
    intro m
    induction m with
    | zero => intro L a n c p wh w _ h; omega
    | succ m ih => exact fun L a n c p wh w h hm hn h1 h2 => pathAcross_step m ih L a n c p wh w h (by omega) hn h1 h2
  exact H (n + 1) L a n c p wh w h (by omega) hn hp1 hp2

end Go.Proofs.Ytaagmdkhjmonnaa
