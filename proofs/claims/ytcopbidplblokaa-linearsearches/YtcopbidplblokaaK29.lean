import Derived.Test.YtcopbidplblokaaK28
namespace Go.Proofs.Ytcopbidplblokaa
open Go.RowKit Go.Maps
open Classical
set_option linter.unusedVariables false
set_option linter.unusedSimpArgs false

theorem neqSe (x y : Operand) (a : Int) (w : World) : (do eqGuard .neq 3 x y (.int .i64 a) (.int .i64 a); binOp .neq 3 (.int .i64 a) (.int .i64 a) : Sem Value).run Try.prog w = .ok (.bool false) w := by
  rw [neqC]
  simp
theorem results3_18 {fn : Func} {i j k : Tmp} {x y z : Value} {tmps : Array Value} {w : World} (h : fn.results = #[.tmp i, .tmp j, .tmp k]) (hi : tmps[i]? = some (gw true x)) (hj : tmps[j]? = some (gw true y)) (hk : tmps[k]? = some (gw true z)) : (results fn tmps).run Try.prog w = .ok (.tuple #[x, y, z]) w := by
  rw [results_tmp3 h, getD_of hi, getD_of hj, getD_of hk]
  rfl
set_option maxRecDepth 100000 in
set_option maxHeartbeats 2000000 in
theorem sameInts18 (L : List Int) (a a2 : Option Addr) (c c2 : Nat) (w : World) (h : SlY yN w a L.length c L) (h2 : SlY yN w a2 L.length c2 L) (hbn : L.length ≤ 140737488355328) :
    Calls Try.prog 32 #[.slice a L.length c, .slice a2 L.length c2] w fun e w' => e = .returned (.bool true) ∧ Below w.heap.size w w' := by
  go_enter Try.func32, Try.ntmps32
  go_upto_region 0 with fail
  refine wp_region_lit ?_
  refine vl_gen (fun T => Rp T 26 [(1, gw true (.slice a2 L.length c2)), (0, gw true (.slice a L.length c))]) (((Rp.nil rfl).cons rfl).cons rfl) (fun Z0 q0 => ?_)
  refine q0.t (.bool false) (ex_assign rfl rfl) fun _ q1 => ?_;clear q0
  refine wpList_nil ?_
  go_upto_region 1 with fail
  refine wp_region_lit ?_
  refine q1.t (.slice a L.length c) (ex_move rfl (q1.e (j := 0) rfl)) fun _ q2 => ?_;clear q1
  refine q2.t (.int .i64 (L.length : Int)) (ex_lenN18 rfl rfl (q2.e (j := 6) rfl)) fun _ q3 => ?_;clear q2
  refine q3.t (.slice a2 L.length c2) (ex_move rfl (q3.e (j := 1) rfl)) fun _ q4 => ?_;clear q3
  refine q4.t (.int .i64 (L.length : Int)) (ex_lenN18 rfl rfl (q4.e (j := 8) rfl)) fun _ q5 => ?_;clear q4
  refine q5.t (.bool false) (ex_bin rfl (q5.e (j := 7) rfl) (q5.e (j := 9) rfl) (neqNn _ _ _ _)) fun _ q6 => ?_;clear q5
  refine wpList_nil ?_
  go_upto_region 3 with fail
  refine wp_cond_false (q6.e (j := 10) rfl) ?_
  go_upto_region 3 with fail
  refine wp_region_lit ?_
  refine q6.t (.int .i64 ((0 : Nat) : Int)) (ex_assign rfl rfl) fun _ q7 => ?_;clear q6
  have q8 := ((((Rp.nil q7.z).cons (q7.a 0 rfl)).cons (q7.a 1 rfl)).cons (q7.a 5 rfl))
  clear q7
  refine wpList_nil ?_
  go_upto_region 4 with fail
  refine v_loop 5 L.length (fun j T wr => Rp T 26 [(5, gw true (.int .i64 (j : Int))), (1, gw true (.slice a2 L.length c2)), (0, gw true (.slice a L.length c))] ∧ Hid (Below w.heap.size w wr)) (fun j T w h => h.1.a 5 rfl) ⟨q8, Below.refl _ _⟩ ?_
  clear q8
  intro j T wr hj hh
  obtain ⟨q100, HJ⟩ := hh
  have br := HJ.out
  clear HJ
  by_cases hit : j < L.length
  · obtain ⟨x, hx⟩ : ∃ x, L[j]? = some x := ⟨_, List.getElem?_eq_getElem hit⟩
    obtain ⟨qa, oa, hqa, hqal, hca⟩ := (h.on br (Nat.le_refl _)).nm hx
    obtain ⟨qb, ob, hqb, hqbl, hcb⟩ := (h2.on br (Nat.le_refl _)).nm hx
    go_upto_region 4 with fail
    refine wp_region_lit ?_
    refine q100.t (.int .i64 (j : Int)) (ex_move rfl (q100.e (j := 5) rfl)) fun _ q101 => ?_;clear q100
    refine q101.t (.slice a L.length c) (ex_move rfl (q101.e (j := 0) rfl)) fun _ q102 => ?_;clear q101
    refine q102.t (.int .i64 (L.length : Int)) (ex_lenN18 rfl rfl (q102.e (j := 12) rfl)) fun _ q103 => ?_;clear q102
    refine q103.t (.bool true) (ex_bin rfl (q103.e (j := 11) rfl) (q103.e (j := 13) rfl) (ltT _ _ hit _)) fun _ q104 => ?_;clear q103
    refine wpList_nil ?_
    go_upto_region 6 with fail
    refine wp_cond_true (q104.e (j := 14) rfl) ?_
    go_upto_region 6 with fail
    refine vq_start (C := fun v => Below wr.heap.size wr v) (by kernel_rfl) (by kernel_rfl) (Below.refl _ _).drew ?_
    refine q104.q (.slice a L.length c) (fun v hv => ex_move rfl (q104.e (j := 0) rfl)) fun _ q105 => ?_;clear q104
    refine q105.q (.int .i64 (j : Int)) (fun v hv => ex_move rfl (q105.e (j := 5) rfl)) fun _ q106 => ?_;clear q105
    refine q106.q (.pointer (some ⟨qa, oa + j, none⟩)) (fun v hv => ex_ix rfl (q106.e (j := 17) rfl) (q106.e (j := 18) rfl) (by rw [hqa]; exact ixN18 qa oa L.length c j hit _)) fun _ q107 => ?_;clear q106
    refine q107.q (.int .i64 x) (fun v hv => ex_ld rfl (q107.e (j := 19) rfl) (ldI18 ((hv.cell (p := ⟨qa, oa + j, none⟩) hqal).trans hca))) fun _ q108 => ?_;clear q107
    refine q108.q (.slice a2 L.length c2) (fun v hv => ex_move rfl (q108.e (j := 1) rfl)) fun _ q109 => ?_;clear q108
    refine q109.q (.int .i64 (j : Int)) (fun v hv => ex_move rfl (q109.e (j := 5) rfl)) fun _ q110 => ?_;clear q109
    refine q110.q (.pointer (some ⟨qb, ob + j, none⟩)) (fun v hv => ex_ix rfl (q110.e (j := 21) rfl) (q110.e (j := 22) rfl) (by rw [hqb]; exact ixN18 qb ob L.length c2 j hit _)) fun _ q111 => ?_;clear q110
    refine q111.q (.int .i64 x) (fun v hv => ex_ld rfl (q111.e (j := 23) rfl) (ldI18 ((hv.cell (p := ⟨qb, ob + j, none⟩) hqbl).trans hcb))) fun _ q112 => ?_;clear q111
    refine q112.q (.bool false) (fun v hv => ex_bin rfl (q112.e (j := 20) rfl) (q112.e (j := 24) rfl) (neqSe _ _ x _)) fun _ q113 => ?_;clear q112
    refine vq_nil (fun r1 hr1 => ?_)
    have q114 := (((((Rp.nil q113.z).cons (q113.a 0 rfl)).cons (q113.a 1 rfl)).cons (q113.a 5 rfl)).cons (q113.a 25 rfl))
    clear q113
    go_upto_region 5 with fail
    refine wp_cond_false (q114.e (j := 25) rfl) ?_
    go_upto_region 5 with fail
    refine wp_region_lit ?_
    refine q114.t (.int .i64 (j : Int)) (ex_move rfl (q114.e (j := 5) rfl)) fun _ q115 => ?_;clear q114
    refine q115.t (.int .i64 ((j + 1 : Nat) : Int)) (ex_bin rfl (q115.e (j := 15) rfl) rfl (add1C _ _ j (by omega) _)) fun _ q116 => ?_;clear q115
    refine q116.t (.int .i64 ((j + 1 : Nat) : Int)) (ex_assign rfl (q116.e (j := 16) rfl)) fun _ q117 => ?_;clear q116
    have q118 := ((((Rp.nil q117.z).cons (q117.a 0 rfl)).cons (q117.a 1 rfl)).cons (q117.a 5 rfl))
    clear q117
    refine wpList_nil ?_
    exact ⟨_, rfl, hit, q118, br.trans (hr1.mono br.size)⟩
  · obtain rfl : j = L.length := by omega
    go_upto_region 4 with fail
    refine wp_region_lit ?_
    refine q100.t (.int .i64 (L.length : Int)) (ex_move rfl (q100.e (j := 5) rfl)) fun _ q101 => ?_;clear q100
    refine q101.t (.slice a L.length c) (ex_move rfl (q101.e (j := 0) rfl)) fun _ q102 => ?_;clear q101
    refine q102.t (.int .i64 (L.length : Int)) (ex_lenN18 rfl rfl (q102.e (j := 12) rfl)) fun _ q103 => ?_;clear q102
    refine q103.t (.bool false) (ex_bin rfl (q103.e (j := 11) rfl) (q103.e (j := 13) rfl) (ltF _ _ hit _)) fun _ q104 => ?_;clear q103
    refine wpList_nil ?_
    go_upto_region 8 with fail
    refine wp_cond_false (q104.e (j := 14) rfl) ?_
    go_upto_region 8 with fail
    refine wp_region_lit ?_
    refine q104.t (.bool true) (ex_assign rfl rfl) fun _ q105 => ?_;clear q104
    refine wpList_nil ?_
    go_wp2
    refine bodyPost_ret (results_tmp rfl _ _ _) rfl ⟨?_, br⟩
    rw [getD_of (q105.a 4 rfl)]
    rfl
/-- What the document's search hands back. -/
def FP (l : List Kl) (s : Option (List Nat)) (w : World) (e : Ending) (w' : World) : Prop := ∃ a' n' c', e = .returned (.tuple #[.slice a' n' c', .bool s.isSome]) ∧ SlY yN w' a' n' c' (ints (s.getD [])) ∧ Below w.heap.size w w'
def FC (l : List Kl) (k : Nat) : Prop := ∀ (a : Option Addr) (c : Nat) (O : List Nat) (a2 : Option Addr) (c2 : Nat) (w : World), SlY yK w a l.length c l → SlY yN w a2 O.length c2 (ints O) → cU (dO l.length (ints O)) l.length ≤ k → O.length + k ≤ 8 → plc l.length (ints O) →
  Calls Try.prog 73 #[.slice a l.length c, .slice a2 O.length c2] w fun e w' => FP l (frm l k O) w e w'
/-- The places from j on. -/
def frF (l : List Kl) (k : Nat) (O : List Nat) (j : Nat) : Option (List Nat) := ((List.range l.length).drop j).findSome? fun (q : Nat) => if hasI (ints O) (q : Int) then none else frm l k (O ++ [q])
theorem frF_at (l : List Kl) (k : Nat) (O : List Nat) {j : Nat} (hj : j < l.length) : frF l k O j = if hasI (ints O) (j : Int) then frF l k O (j + 1) else (match frm l k (O ++ [j]) with | some s => some s | none => frF l k O (j + 1)) := by
  have e : (List.range l.length).drop j = j :: (List.range l.length).drop (j + 1) := by
    rw [List.drop_eq_getElem_cons (by simpa using hj)]
    simp
  unfold frF
  rw [e, List.findSome?_cons]
  cases hasI (ints O) (j : Int) with
  | true => rfl
  | false =>
    simp only [Bool.false_eq_true, if_false]
    cases frm l k (O ++ [j]) <;> rfl
/-- The same, whatever is left. -/
def frG (l : List Kl) (k : Nat) (O : List Nat) (j : Nat) : Option (List Nat) := match k with
  | 0 => none
  | k1 + 1 => frF l k1 O j
theorem frG_zero {l : List Kl} {k : Nat} {O : List Nat} (h1 : ¬ brk l (ints O) = -1) (h2 : ¬ brk l (ints O) < (O.length : Int)) : frm l k O = frG l k O 0 := by
  cases k with
  | zero => simp [frm, frG, h1]
  | succ k => rw [frm, if_neg h1, if_neg h2]; rfl
theorem frF_end (l : List Kl) (k : Nat) (O : List Nat) : frF l k O l.length = none := by simp [frF, List.drop_of_length_le]
theorem dO_len (n : Nat) (O : List Int) : (dO n O).length = n := by simp [dO]
theorem dO_snoc (n : Nat) (O : List Nat) (q : Nat) (hq : q < n) : dO n (ints (O ++ [q])) = (dO n (ints O)).set q true := by
  apply List.ext_getElem?
  intro j
  by_cases hj : j < n
  · have h1 : (dO n (ints (O ++ [q])))[j]? = some (hasI (ints (O ++ [q])) (j : Int)) := by simp [dO, hj]
    have h2 : (dO n (ints O))[j]? = some (hasI (ints O) (j : Int)) := by simp [dO, hj]
    rw [h1, List.getElem?_set, ints_snoc, hasI_snoc]
    by_cases e : q = j
    · subst e
      simp [dO_len, hq]
    · have : ¬ ((q : Int) = (j : Int)) := by omega
      rw [if_neg e, h2]
      simp [this]
  · rw [List.getElem?_eq_none (by rw [dO_len]; omega), List.getElem?_eq_none (by rw [List.length_set, dO_len]; omega)]
set_option maxRecDepth 100000 in
set_option maxHeartbeats 2000000 in
theorem from_step {l : List Kl} (hl8 : l.length ≤ 8) (hfx : ∀ x ∈ l, x.fits) (k : Nat) (ih : ∀ k', k' + 1 = k → FC l k') : FC l k := by
  intro a c O a2 c2 w h h2 hU hO8 hpl
  have hlo := ints_len O
  go_enter Try.func73, Try.ntmps73
  go_upto_region 0 with fail
  refine wp_region_lit ?_
  refine vl_gen (fun T => Rp T 44 [(1, gw true (.slice a2 O.length c2)), (0, gw true (.slice a l.length c))]) (((Rp.nil rfl).cons rfl).cons rfl) (fun Z0 q0 => ?_)
  refine q0.t (.slice none 0 0) (ex_assign rfl rfl) fun _ q1 => ?_;clear q0
  refine q1.t (.bool false) (ex_assign rfl rfl) fun _ q2 => ?_;clear q1
  refine wpList_nil ?_
  go_upto_region 1 with fail
  refine wp_region_lit ?_
  refine q2.t (.slice a l.length c) (ex_move rfl (q2.e (j := 0) rfl)) fun _ q3 => ?_;clear q2
  refine q3.t (.slice a2 O.length c2) (ex_move rfl (q3.e (j := 1) rfl)) fun _ q4 => ?_;clear q3
  refine vcallP (want_none rfl) (ex_call rfl (by simp only [List.map_toArray, List.map_cons, List.map_nil, (q4.e (j := 11) rfl), (q4.e (j := 12) rfl), evc] <;> rfl) rfl) (by rw [← hlo]; exact breaks18 l a c (ints O) a2 c2 w h (by rw [hlo]; exact h2) hfx hpl (by omega) (by omega)) rfl q4.z (by decide) ?_
  rintro e w1 ⟨rfl, b1⟩
  refine ⟨_, rfl, q4.k fun _ q5 => ?_⟩;clear q4
  have z1 := b1.size
  refine q5.t (.int .i64 (brk l (ints O))) (ex_assign rfl (q5.e (j := 13) rfl)) fun _ q6 => ?_;clear q5
  refine wpList_nil ?_
  go_upto_region 2 with fail
  refine wp_region_lit ?_
  refine q6.t (.int .i64 (brk l (ints O))) (ex_move rfl (q6.e (j := 6) rfl)) fun _ q7 => ?_;clear q6
  refine q7.t (.bool (decide (brk l (ints O) = -1))) (ex_bin rfl (q7.e (j := 14) rfl) rfl (eqlC _ _ _ _ _)) fun _ q8 => ?_;clear q7
  have q9 := (((((Rp.nil q8.z).cons (q8.a 0 rfl)).cons (q8.a 1 rfl)).cons (q8.a 6 rfl)).cons (q8.a 15 rfl))
  clear q8
  refine wpList_nil ?_
  by_cases hb1 : brk l (ints O) = -1
  · have hE : frm l k O = some O := by cases k <;> simp [frm, hb1]
    have q9x := q9.a 15 rfl
    rw [decide_eq_true hb1] at q9x
    go_upto_region 3 with fail
    refine wp_cond_true (ev q9x rfl) ?_
    go_upto_region 3 with fail
    refine wp_region_lit ?_
    refine q9.t (.slice a2 O.length c2) (ex_move rfl (q9.e (j := 1) rfl)) fun _ q10 => ?_;clear q9
    refine q10.t (.slice a2 O.length c2) (ex_assign rfl (q10.e (j := 16) rfl)) fun _ q11 => ?_;clear q10
    refine q11.t (.bool true) (ex_assign rfl rfl) fun _ q12 => ?_;clear q11
    refine wpList_nil ?_
    go_wp2
    exact bodyPost_ret (results2_18 rfl (q12.a 4 rfl) (q12.a 5 rfl)) rfl ⟨a2, O.length, c2, by rw [hE]; rfl, by rw [hE]; exact h2.later b1, b1⟩
  · have q9x := q9.a 15 rfl
    rw [decide_eq_false hb1] at q9x
    go_upto_region 4 with fail
    refine wp_cond_false (ev q9x rfl) ?_
    clear q9x
    go_upto_region 4 with fail
    refine wp_region_lit ?_
    refine q9.t (.int .i64 (brk l (ints O))) (ex_move rfl (q9.e (j := 6) rfl)) fun _ q10 => ?_;clear q9
    refine q10.t (.slice a2 O.length c2) (ex_move rfl (q10.e (j := 1) rfl)) fun _ q11 => ?_;clear q10
    refine q11.t (.int .i64 (O.length : Int)) (ex_lenN18 rfl rfl (q11.e (j := 18) rfl)) fun _ q12 => ?_;clear q11
    refine q12.t (.bool (decide (brk l (ints O) < (O.length : Int)))) (ex_bin rfl (q12.e (j := 17) rfl) (q12.e (j := 19) rfl) (lssC _ _ _ _ _)) fun _ q13 => ?_;clear q12
    have q14 := ((((Rp.nil q13.z).cons (q13.a 0 rfl)).cons (q13.a 1 rfl)).cons (q13.a 20 rfl))
    clear q13
    refine wpList_nil ?_
    by_cases hb2 : brk l (ints O) < (O.length : Int)
    · have hE : frm l k O = none := by cases k <;> simp [frm, hb1, hb2]
      have q14x := q14.a 20 rfl
      rw [decide_eq_true hb2] at q14x
      go_upto_region 5 with fail
      refine wp_cond_true (ev q14x rfl) ?_
      go_upto_region 5 with fail
      refine wp_region_lit ?_
      refine q14.t (.slice none 0 0) (ex_assign rfl rfl) fun _ q15 => ?_;clear q14
      refine q15.t (.bool false) (ex_assign rfl rfl) fun _ q16 => ?_;clear q15
      refine wpList_nil ?_
      go_wp2
      exact bodyPost_ret (results2_18 rfl (q16.a 4 rfl) (q16.a 5 rfl)) rfl ⟨none, 0, 0, by rw [hE]; rfl, by rw [hE]; exact ⟨rfl, Nat.le_refl _, by unfold maxLen; omega, fun _ => ⟨rfl, rfl⟩, fun x hx => by cases hx⟩, b1⟩
    · have q14x := q14.a 20 rfl
      rw [decide_eq_false hb2] at q14x
      go_upto_region 6 with fail
      refine wp_cond_false (ev q14x rfl) ?_
      clear q14x
      go_upto_region 6 with fail
      refine wp_region_lit ?_
      refine q14.t (.int .i64 ((0 : Nat) : Int)) (ex_assign rfl rfl) fun _ q15 => ?_;clear q14
      have q16 := ((((Rp.nil q15.z).cons (q15.a 0 rfl)).cons (q15.a 1 rfl)).cons (q15.a 7 rfl))
      clear q15
      refine wpList_nil ?_
      go_upto_region 7 with fail
      refine v_loop 7 l.length (fun j T wr => Rp T 44 [(7, gw true (.int .i64 (j : Int))), (1, gw true (.slice a2 O.length c2)), (0, gw true (.slice a l.length c))] ∧ Hid (Below w.heap.size w wr ∧ frm l k O = frG l k O j)) (fun j T w h => h.1.a 7 rfl) ⟨q16, b1, frG_zero hb1 (by omega)⟩ ?_
      clear q16
      intro j T wr hj hh
      obtain ⟨q100, HJ⟩ := hh
      obtain ⟨br, hR⟩ := HJ.out
      clear HJ
      have zr := br.size
      by_cases hit : j < l.length
      · have hD := dO_at (ints O) hit
        go_upto_region 7 with fail
        refine wp_region_lit ?_
        refine q100.t (.int .i64 (j : Int)) (ex_move rfl (q100.e (j := 7) rfl)) fun _ q101 => ?_;clear q100
        refine q101.t (.slice a l.length c) (ex_move rfl (q101.e (j := 0) rfl)) fun _ q102 => ?_;clear q101
        refine q102.t (.int .i64 (l.length : Int)) (ex_len18 rfl rfl (q102.e (j := 22) rfl)) fun _ q103 => ?_;clear q102
        refine q103.t (.bool true) (ex_bin rfl (q103.e (j := 21) rfl) (q103.e (j := 23) rfl) (ltT _ _ hit _)) fun _ q104 => ?_;clear q103
        refine wpList_nil ?_
        go_upto_region 9 with fail
        refine wp_cond_true (q104.e (j := 24) rfl) ?_
        go_upto_region 9 with fail
        refine wp_region_lit ?_
        refine q104.t (.slice a2 O.length c2) (ex_move rfl (q104.e (j := 1) rfl)) fun _ q105 => ?_;clear q104
        refine q105.t (.int .i64 (j : Int)) (ex_move rfl (q105.e (j := 7) rfl)) fun _ q106 => ?_;clear q105
        refine vcallP (want_none rfl) (ex_call rfl (by simp only [List.map_toArray, List.map_cons, List.map_nil, (q106.e (j := 27) rfl), (q106.e (j := 28) rfl), evc] <;> rfl) rfl) (by rw [← hlo]; exact has18 (ints O) a2 c2 (j : Int) wr (by rw [hlo]; exact h2.on br (Nat.le_refl _)) (by omega)) rfl q106.z (by decide) ?_
        rintro e w2 ⟨rfl, hw2e⟩
        refine ⟨_, rfl, q106.k fun _ q107 => ?_⟩;clear q106
        rw [hw2e]
        clear hw2e w2
        have q108 := (((((Rp.nil q107.z).cons (q107.a 0 rfl)).cons (q107.a 1 rfl)).cons (q107.a 7 rfl)).cons (q107.a 29 rfl))
        clear q107
        refine wpList_nil ?_
        cases hh : hasI (ints O) (j : Int) with
        | true =>
          have q108x := q108.a 29 rfl
          rw [hh] at q108x
          go_upto_region 8 with fail
          refine wp_cond_true (ev q108x rfl) ?_
          clear q108x
          go_upto_region 8 with fail
          refine wp_region_lit ?_
          refine q108.t (.int .i64 (j : Int)) (ex_move rfl (q108.e (j := 7) rfl)) fun _ q109 => ?_;clear q108
          refine q109.t (.int .i64 ((j + 1 : Nat) : Int)) (ex_bin rfl (q109.e (j := 25) rfl) rfl (add1C _ _ j (by omega) _)) fun _ q110 => ?_;clear q109
          refine q110.t (.int .i64 ((j + 1 : Nat) : Int)) (ex_assign rfl (q110.e (j := 26) rfl)) fun _ q111 => ?_;clear q110
          have q112 := ((((Rp.nil q111.z).cons (q111.a 0 rfl)).cons (q111.a 1 rfl)).cons (q111.a 7 rfl))
          clear q111
          refine wpList_nil ?_
          exact ⟨_, rfl, hit, q112, br, by rw [hR]; cases k; rfl; show frF l _ O j = frF l _ O (j + 1); rw [frF_at l _ O hit, hh]; rfl⟩
        | false =>
          have q108x := q108.a 29 rfl
          rw [hh] at q108x hD
          obtain ⟨k, rfl⟩ : ∃ k1, k = k1 + 1 := by
            cases k with
            | zero => rw [cU_zero _ _ (by omega) j hit] at hD; cases hD
            | succ k => exact ⟨k, rfl⟩
          have IH := ih k rfl
          replace hR : frm l (k + 1) O = frF l k O j := hR
          have hF := frF_at l k O hit
          rw [hh] at hF
          simp only [Bool.false_eq_true, if_false] at hF
          go_upto_region 10 with fail
          refine wp_cond_false (ev q108x rfl) ?_
          clear q108x
          go_upto_region 10 with fail
          refine wp_region_lit ?_
          refine q108.t (.slice none 0 0) (ex_assign rfl rfl) fun _ q109 => ?_;clear q108
          refine wpList_nil ?_
          go_upto_region 11 with fail
          refine wp_region_lit ?_
          refine q109.t (.slice none 0 0) (ex_move rfl (q109.e (j := 8) rfl)) fun _ q110 => ?_;clear q109
          refine q110.t (.slice a2 O.length c2) (ex_move rfl (q110.e (j := 1) rfl)) fun _ q111 => ?_;clear q110
          obtain ⟨v3, w3, ha3, o3, g3, _⟩ := run_appY kN wr 45 wr.heap.size [] (.slice none 0 0) a2 O.length c2 (ints O) (h2.on br (Nat.le_refl _)) (OwnY.nil _ _ _) (Nat.le_refl _) (by unfold maxLen; simp; omega) (by show (([] : List Int).length + O.length) * 8 ≤ _; simp; omega)
          rw [List.nil_append] at o3
          have b3 : Below wr.heap.size wr w3 := (Below.refl _ _).grown g3 (Nat.le_refl _) (fun k hk => by cases hk)
          have z3 := b3.size
          refine vw (v3) w3 (want_none rfl) (ex_app18 rfl (q111.e (j := 30) rfl) (q111.e (j := 31) rfl) ha3) rfl q111.z (by decide) (q111.k fun _ q112 => ?_);clear q111
          refine q112.t (v3) (ex_assign rfl (q112.e (j := 32) rfl)) fun _ q113 => ?_;clear q112
          refine wpList_nil ?_
          go_upto_region 12 with fail
          refine wp_region_lit ?_
          refine q113.t (.slice a l.length c) (ex_move rfl (q113.e (j := 0) rfl)) fun _ q114 => ?_;clear q113
          refine q114.t (v3) (ex_move rfl (q114.e (j := 8) rfl)) fun _ q115 => ?_;clear q114
          refine q115.t (.int .i64 (j : Int)) (ex_move rfl (q115.e (j := 7) rfl)) fun _ q116 => ?_;clear q115
          obtain ⟨w4, hw4⟩ : ∃ y, y = w3.alloc (.cells #[.int .i64 (j : Int)] 3) := ⟨_, rfl⟩
          refine vw (.slice (some ⟨w3.heap.size, 0, none⟩) 1 1) w4 (want_none rfl) (ex_bs18 rfl (q116.e (j := 36) rfl) (by rw [hw4]; exact bsN _ _)) rfl q116.z (by decide) (q116.k fun _ q117 => ?_);clear q116
          have s4 : SlY yN w4 (some ⟨w3.heap.size, 0, none⟩) 1 1 [(j : Int)] := by rw [hw4]; exact sl_box (Y := yN) w3 (j : Int) 3
          have b4 : Below w3.heap.size w3 w4 := by rw [hw4]; exact (Below.refl _ _).alloc (Nat.le_refl _) _
          clear hw4
          have z4 := b4.size
          obtain ⟨v5, w5, ha5, o5, g5, _⟩ := run_appY kN w4 45 wr.heap.size (ints O) v3 _ 1 1 [(j : Int)] s4 (o3.grow b4) (by omega) (by unfold maxLen; omega) (by show ((ints O).length + 1) * 8 ≤ _; omega)
          have b5 : Below wr.heap.size wr w5 := (b3.trans (b4.mono z3)).grown g5 (by omega) (fun k hk => (o3.blk k hk).1)
          rw [← ints_snoc] at o5
          obtain ⟨a5, c5, hv5, sl5, _⟩ := o5.sl kN
          have hl5 : (ints (O ++ [j])).length = (O ++ [j]).length := ints_len _
          rw [hl5] at hv5 sl5
          have brw : Below w.heap.size w w5 := br.trans (b5.mono zr)
          refine vw (v5) w5 (want_none rfl) (ex_app18 rfl (q117.e (j := 35) rfl) (q117.e (j := 37) rfl) ha5) rfl q117.z (by decide) (q117.k fun _ q118 => ?_);clear q117
          have hcu := cU_set (dO l.length (ints O)) j (by rw [dO_len]; exact hit) (by rw [dO_at _ hit]; exact hh) l.length
          rw [if_pos hit, ← dO_snoc _ _ _ hit] at hcu
          have hpl2 : plc l.length (ints (O ++ [j])) := fun p hp => by
            rw [ints_snoc] at hp
            rcases List.mem_append.1 hp with hp | hp
            · exact hpl p hp
            · have := List.mem_singleton.1 hp; omega
          refine vcallP (want_none rfl) (ex_call rfl (by simp only [List.map_toArray, List.map_cons, List.map_nil, (q118.e (j := 34) rfl), (q118.e (j := 38) rfl), evc] <;> rfl) rfl) (by rw [hv5]; exact IH a c (O ++ [j]) a5 c5 w5 (h.on brw (Nat.le_refl _)) sl5 (by omega) (by rw [List.length_append]; simp; omega) hpl2) rfl q118.z (by decide) ?_
          rintro e w6 ⟨a6, n6, c6, rfl, sl6, b6⟩
          refine ⟨_, rfl, q118.k fun _ q119 => ?_⟩;clear q118
          have brw6 : Below w.heap.size w w6 := brw.trans (b6.mono brw.size)
          refine q119.t (.tuple #[.slice a6 n6 c6, .bool (frm l k (O ++ [j])).isSome]) (ex_move rfl (q119.e (j := 39) rfl)) fun _ q120 => ?_;clear q119
          refine q120.t (.slice a6 n6 c6) (ex_ext18 rfl (q120.e (j := 33) rfl) rfl) fun _ q121 => ?_;clear q120
          refine q121.t (.bool (frm l k (O ++ [j])).isSome) (ex_ext18 rfl (q121.e (j := 33) rfl) rfl) fun _ q122 => ?_;clear q121
          refine q122.t (.slice a6 n6 c6) (ex_assign rfl (q122.e (j := 40) rfl)) fun _ q123 => ?_;clear q122
          refine q123.t (.bool (frm l k (O ++ [j])).isSome) (ex_assign rfl (q123.e (j := 41) rfl)) fun _ q124 => ?_;clear q123
          refine wpList_nil ?_
          go_upto_region 13 with fail
          refine wp_region_lit ?_
          refine q124.t (.bool (frm l k (O ++ [j])).isSome) (ex_move rfl (q124.e (j := 10) rfl)) fun _ q125 => ?_;clear q124
          have q126 := ((((((Rp.nil q125.z).cons (q125.a 0 rfl)).cons (q125.a 1 rfl)).cons (q125.a 7 rfl)).cons (q125.a 9 rfl)).cons (q125.a 42 rfl))
          clear q125
          refine wpList_nil ?_
          cases hfr : frm l k (O ++ [j]) with
          | some sx =>
            have q126x := q126.a 42 rfl
            rw [hfr] at q126x sl6
            have hE : frm l (k + 1) O = some sx := by rw [hR, hF, hfr]
            go_upto_region 14 with fail
            refine wp_cond_true (ev q126x rfl) ?_
            go_upto_region 14 with fail
            refine wp_region_lit ?_
            refine q126.t (.slice a6 n6 c6) (ex_move rfl (q126.e (j := 9) rfl)) fun _ q127 => ?_;clear q126
            refine q127.t (.slice a6 n6 c6) (ex_assign rfl (q127.e (j := 43) rfl)) fun _ q128 => ?_;clear q127
            refine q128.t (.bool true) (ex_assign rfl rfl) fun _ q129 => ?_;clear q128
            refine wpList_nil ?_
            go_wp2
            exact bodyPost_ret (results2_18 rfl (q129.a 4 rfl) (q129.a 5 rfl)) rfl ⟨a6, n6, c6, by rw [hE]; rfl, by rw [hE]; exact sl6, brw6⟩
          | none =>
            have q126x := q126.a 42 rfl
            rw [hfr] at q126x
            go_upto_region 8 with fail
            refine wp_cond_false (ev q126x rfl) ?_
            clear q126x
            go_upto_region 8 with fail
            refine wp_region_lit ?_
            refine q126.t (.int .i64 (j : Int)) (ex_move rfl (q126.e (j := 7) rfl)) fun _ q127 => ?_;clear q126
            refine q127.t (.int .i64 ((j + 1 : Nat) : Int)) (ex_bin rfl (q127.e (j := 25) rfl) rfl (add1C _ _ j (by omega) _)) fun _ q128 => ?_;clear q127
            refine q128.t (.int .i64 ((j + 1 : Nat) : Int)) (ex_assign rfl (q128.e (j := 26) rfl)) fun _ q129 => ?_;clear q128
            have q130 := ((((Rp.nil q129.z).cons (q129.a 0 rfl)).cons (q129.a 1 rfl)).cons (q129.a 7 rfl))
            clear q129
            refine wpList_nil ?_
            exact ⟨_, rfl, hit, q130, brw6, by rw [hR, hF, hfr]; rfl⟩
      · obtain rfl : j = l.length := by omega
        have hE : frm l k O = none := by rw [hR]; cases k; rfl; exact frF_end _ _ _
        go_upto_region 7 with fail
        refine wp_region_lit ?_
        refine q100.t (.int .i64 (l.length : Int)) (ex_move rfl (q100.e (j := 7) rfl)) fun _ q101 => ?_;clear q100
        refine q101.t (.slice a l.length c) (ex_move rfl (q101.e (j := 0) rfl)) fun _ q102 => ?_;clear q101
        refine q102.t (.int .i64 (l.length : Int)) (ex_len18 rfl rfl (q102.e (j := 22) rfl)) fun _ q103 => ?_;clear q102
        refine q103.t (.bool false) (ex_bin rfl (q103.e (j := 21) rfl) (q103.e (j := 23) rfl) (ltF _ _ hit _)) fun _ q104 => ?_;clear q103
        refine wpList_nil ?_
        go_upto_region 15 with fail
        refine wp_cond_false (q104.e (j := 24) rfl) ?_
        go_upto_region 15 with fail
        refine wp_region_lit ?_
        refine q104.t (.slice none 0 0) (ex_assign rfl rfl) fun _ q105 => ?_;clear q104
        refine q105.t (.bool false) (ex_assign rfl rfl) fun _ q106 => ?_;clear q105
        refine wpList_nil ?_
        go_wp2
        exact bodyPost_ret (results2_18 rfl (q106.a 4 rfl) (q106.a 5 rfl)) rfl ⟨none, 0, 0, by rw [hE]; rfl, by rw [hE]; exact ⟨rfl, Nat.le_refl _, by unfold maxLen; omega, fun _ => ⟨rfl, rfl⟩, fun x hx => by cases hx⟩, br⟩
theorem from18 {l : List Kl} (hl8 : l.length ≤ 8) (hfx : ∀ x ∈ l, x.fits) : ∀ k, FC l k
  | 0 => from_step hl8 hfx 0 (fun k' h => by omega)
  | k + 1 => from_step hl8 hfx (k + 1) (fun k' h => by
    obtain rfl : k' = k := by omega
    exact from18 hl8 hfx k')
set_option maxRecDepth 100000 in
set_option maxHeartbeats 2000000 in
theorem refSearch18 (l : List Kl) (a : Option Addr) (c : Nat) (w : World) (h : SlY yK w a l.length c l) (hfx : ∀ x ∈ l, x.fits) (hbn : l.length ≤ 140737488355328) :
    Calls Try.prog 31 #[.slice a l.length c] w fun e w' => ∃ a' n' c', e = .returned (.tuple #[.slice a' n' c', .bool (srA l).isSome, .int .i64 (srE l)]) ∧ SlY yN w' a' n' c' (ints ((srA l).getD [])) ∧ Below w.heap.size w w' := by
  go_enter Try.func31, Try.ntmps31
  go_upto_region 0 with fail
  refine wp_region_lit ?_
  refine vl_gen (fun T => Rp T 20 [(0, gw true (.slice a l.length c))]) ((Rp.nil rfl).cons rfl) (fun Z0 q0 => ?_)
  refine q0.t (.slice none 0 0) (ex_assign rfl rfl) fun _ q1 => ?_;clear q0
  refine q1.t (.bool false) (ex_assign rfl rfl) fun _ q2 => ?_;clear q1
  refine q2.t (.int .i64 0) (ex_assign rfl rfl) fun _ q3 => ?_;clear q2
  refine wpList_nil ?_
  go_upto_region 1 with fail
  refine wp_region_lit ?_
  refine q3.t (.slice a l.length c) (ex_move rfl (q3.e (j := 0) rfl)) fun _ q4 => ?_;clear q3
  refine vcallP (want_none rfl) (ex_call rfl (by simp only [List.map_toArray, List.map_cons, List.map_nil, (q4.e (j := 7) rfl), evc] <;> rfl) rfl) (refCheck18 l a c w h hfx hbn) rfl q4.z (by decide) ?_
  rintro e w1 ⟨rfl, b1⟩
  refine ⟨_, rfl, q4.k fun _ q5 => ?_⟩;clear q4
  have z1 := b1.size
  refine q5.t (.bool (!decide (kchk l = 0))) (ex_bin rfl (q5.e (j := 8) rfl) rfl (neqC _ _ _ _ _)) fun _ q6 => ?_;clear q5
  have q7 := (((Rp.nil q6.z).cons (q6.a 0 rfl)).cons (q6.a 9 rfl))
  clear q6
  refine wpList_nil ?_
  by_cases hk : kchk l = 0
  · have q7x := q7.a 9 rfl
    rw [hk] at q7x
    go_upto_region 3 with fail
    refine wp_cond_false (ev q7x rfl) ?_
    clear q7x
    go_upto_region 3 with fail
    refine wp_region_lit ?_
    refine q7.t (.slice a l.length c) (ex_move rfl (q7.e (j := 0) rfl)) fun _ q8 => ?_;clear q7
    refine q8.t (.int .i64 (l.length : Int)) (ex_len18 rfl rfl (q8.e (j := 10) rfl)) fun _ q9 => ?_;clear q8
    refine q9.t (.bool (decide (8 < (l.length : Int)))) (ex_bin rfl (q9.e (j := 11) rfl) rfl (gtrC _ _ _ _ _)) fun _ q10 => ?_;clear q9
    have q11 := (((Rp.nil q10.z).cons (q10.a 0 rfl)).cons (q10.a 12 rfl))
    clear q10
    refine wpList_nil ?_
    by_cases h8 : 8 < l.length
    · have hE : srE l = 181 := by simp [srE, hk, h8]
      have hA : srA l = none := by simp [srA, hE]
      have q11x := q11.a 12 rfl
      rw [decide_eq_true (by omega)] at q11x
      go_upto_region 4 with fail
      refine wp_cond_true (ev q11x rfl) ?_
      go_upto_region 4 with fail
      refine wp_region_lit ?_
      refine q11.t (.slice none 0 0) (ex_assign rfl rfl) fun _ q12 => ?_;clear q11
      refine q12.t (.bool false) (ex_assign rfl rfl) fun _ q13 => ?_;clear q12
      refine q13.t (.int .i64 181) (ex_assign rfl rfl) fun _ q14 => ?_;clear q13
      refine wpList_nil ?_
      go_wp2
      exact bodyPost_ret (results3_18 rfl (q14.a 2 rfl) (q14.a 3 rfl) (q14.a 4 rfl)) rfl ⟨none, 0, 0, by rw [hA, hE]; rfl, by rw [hA]; exact ⟨rfl, Nat.le_refl _, by unfold maxLen; omega, fun _ => ⟨rfl, rfl⟩, fun x hx => by cases hx⟩, b1⟩
    · have hE : srE l = 0 := by simp [srE, hk, h8]
      have hA : srA l = lst l := by simp [srA, hE]
      have q11x := q11.a 12 rfl
      rw [decide_eq_false (by omega)] at q11x
      have h8l : l.length ≤ 8 := by omega
      have CC := from18 h8l hfx l.length a c [] none 0 w1 (h.on b1 (Nat.le_refl _)) ⟨rfl, Nat.le_refl _, by unfold maxLen; simp, fun _ => ⟨rfl, rfl⟩, fun x hx => by cases hx⟩ (cU_le _ _) (by simpa using h8l) (fun p hp => by cases hp)
      rw [frm_lst l h8l] at CC
      go_upto_region 5 with fail
      refine wp_cond_false (ev q11x rfl) ?_
      clear q11x
      go_upto_region 5 with fail
      refine wp_region_lit ?_
      refine q11.t (.slice a l.length c) (ex_move rfl (q11.e (j := 0) rfl)) fun _ q12 => ?_;clear q11
      refine vcallP (want_none rfl) (ex_call rfl (by simp only [List.map_toArray, List.map_cons, List.map_nil, (q12.e (j := 14) rfl), evc] <;> rfl) rfl) (CC) rfl q12.z (by decide) ?_
      rintro e w2 ⟨a6, n6, c6, rfl, sl6, b6⟩
      refine ⟨_, rfl, q12.k fun _ q13 => ?_⟩;clear q12
      have b2 : Below w.heap.size w w2 := b1.trans (b6.mono z1)
      refine q13.t (.tuple #[.slice a6 n6 c6, .bool (lst l).isSome]) (ex_move rfl (q13.e (j := 15) rfl)) fun _ q14 => ?_;clear q13
      refine q14.t (.slice a6 n6 c6) (ex_ext18 rfl (q14.e (j := 13) rfl) rfl) fun _ q15 => ?_;clear q14
      refine q15.t (.bool (lst l).isSome) (ex_ext18 rfl (q15.e (j := 13) rfl) rfl) fun _ q16 => ?_;clear q15
      refine q16.t (.slice a6 n6 c6) (ex_assign rfl (q16.e (j := 16) rfl)) fun _ q17 => ?_;clear q16
      refine q17.t (.bool (lst l).isSome) (ex_assign rfl (q17.e (j := 17) rfl)) fun _ q18 => ?_;clear q17
      refine wpList_nil ?_
      go_upto_region 6 with fail
      refine wp_region_lit ?_
      refine q18.t (.slice a6 n6 c6) (ex_move rfl (q18.e (j := 5) rfl)) fun _ q19 => ?_;clear q18
      refine q19.t (.bool (lst l).isSome) (ex_move rfl (q19.e (j := 6) rfl)) fun _ q20 => ?_;clear q19
      refine q20.t (.slice a6 n6 c6) (ex_assign rfl (q20.e (j := 18) rfl)) fun _ q21 => ?_;clear q20
      refine q21.t (.bool (lst l).isSome) (ex_assign rfl (q21.e (j := 19) rfl)) fun _ q22 => ?_;clear q21
      refine q22.t (.int .i64 0) (ex_assign rfl rfl) fun _ q23 => ?_;clear q22
      refine wpList_nil ?_
      go_wp2
      exact bodyPost_ret (results3_18 rfl (q23.a 2 rfl) (q23.a 3 rfl) (q23.a 4 rfl)) rfl ⟨a6, n6, c6, by rw [hA, hE], by rw [hA]; exact sl6, b2⟩
  · have hk2 : kchk l = 180 := (kcA_zero [] l).resolve_left hk
    have hE : srE l = 180 := by simp [srE, hk2]
    have hA : srA l = none := by simp [srA, hE]
    have q7x := q7.a 9 rfl
    rw [decide_eq_false hk] at q7x
    go_upto_region 2 with fail
    refine wp_cond_true (ev q7x rfl) ?_
    go_upto_region 2 with fail
    refine wp_region_lit ?_
    refine q7.t (.slice none 0 0) (ex_assign rfl rfl) fun _ q8 => ?_;clear q7
    refine q8.t (.bool false) (ex_assign rfl rfl) fun _ q9 => ?_;clear q8
    refine q9.t (.int .i64 180) (ex_assign rfl rfl) fun _ q10 => ?_;clear q9
    refine wpList_nil ?_
    go_wp2
    exact bodyPost_ret (results3_18 rfl (q10.a 2 rfl) (q10.a 3 rfl) (q10.a 4 rfl)) rfl ⟨none, 0, 0, by rw [hA, hE]; rfl, by rw [hA]; exact ⟨rfl, Nat.le_refl _, by unfold maxLen; omega, fun _ => ⟨rfl, rfl⟩, fun x hx => by cases hx⟩, b1⟩
theorem srK_len (l : List Kl) : ∀ (k : Nat) (D : List Bool) (L : List Cl) (s : List Nat), srK l k D L = some s → s.length ≤ k
  | 0, D, L, s, h => by
    unfold srK at h
    split at h
    · cases h
    · cases h; simp
  | k + 1, D, L, s, h => by
    unfold srK at h
    split at h
    · obtain ⟨q, hq, h2⟩ := List.exists_of_findSome?_eq_some h
      cases hx : l[q]? with
      | none => rw [hx] at h2; cases h2
      | some x =>
        rw [hx, Option.bind_some] at h2
        split at h2
        · cases hs : srK l k (D.set q true) (dnK L x) with
          | none => rw [hs] at h2; cases h2
          | some t =>
            rw [hs] at h2
            cases h2
            have := srK_len l k _ _ t hs
            simp
            omega
        · cases h2
    · cases h; simp
theorem srA_len (l : List Kl) : (ints ((srA l).getD [])).length ≤ 140737488355328 := by
  rw [ints_len]
  unfold srA
  split
  · simp
  · rename_i h0
    have h8 : l.length ≤ 8 := by
      have h0 : srE l = 0 := by simpa using h0
      unfold srE at h0
      split at h0
      · rename_i h; exact absurd h0 h
      · split at h0
        · cases h0
        · omega
    cases hs : lst l with
    | none => simp
    | some s =>
      have := srK_len l _ _ _ s hs
      simp
      omega
set_option maxRecDepth 100000 in
set_option maxHeartbeats 2000000 in
theorem searches18 (l : List Kl) (a : Option Addr) (c : Nat) (w : World) (h : SlY yK w a l.length c l) (hfx : ∀ x ∈ l, x.fits) (hb : l.length * 96 ≤ 140737488351232) :
    Calls Try.prog 6 #[.slice a l.length c] w fun e w' => e = .returned (.bool true) ∧ Below w.heap.size w w' := by
  have hb2 : l.length ≤ 140737488355328 := by omega
  go_enter Try.func6, Try.ntmps6
  go_upto_region 0 with fail
  refine wp_region_lit ?_
  refine vl_gen (fun T => Rp T 45 [(0, gw true (.slice a l.length c))]) ((Rp.nil rfl).cons rfl) (fun Z0 q0 => ?_)
  refine q0.t (.bool false) (ex_assign rfl rfl) fun _ q1 => ?_;clear q0
  refine wpList_nil ?_
  go_upto_region 1 with fail
  refine wp_region_lit ?_
  refine q1.t (.slice a l.length c) (ex_move rfl (q1.e (j := 0) rfl)) fun _ q2 => ?_;clear q1
  refine vcallP (want_none rfl) (ex_call rfl (by simp only [List.map_toArray, List.map_cons, List.map_nil, (q2.e (j := 10) rfl), evc] <;> rfl) rfl) (lent_any l a c w h hb) rfl q2.z (by decide) ?_
  rintro e w1 ⟨a3, c3, rfl, hL1, b1⟩
  refine ⟨_, rfl, q2.k fun _ q3 => ?_⟩;clear q2
  have z1 := b1.size
  refine q3.t (.slice a3 l.length c3) (ex_assign rfl (q3.e (j := 11) rfl)) fun _ q4 => ?_;clear q3
  refine wpList_nil ?_
  go_upto_region 2 with fail
  refine wp_region_lit ?_
  refine q4.t (.slice a3 l.length c3) (ex_move rfl (q4.e (j := 3) rfl)) fun _ q5 => ?_;clear q4
  refine vcallP (want_none rfl) (ex_call rfl (by simp only [List.map_toArray, List.map_cons, List.map_nil, (q5.e (j := 13) rfl), evc] <;> rfl) rfl) (search18_any l a3 c3 w1 hL1.sl hfx) rfl q5.z (by decide) ?_
  rintro e w2 ⟨v4, rfl, o4, b2⟩
  refine ⟨_, rfl, q5.k fun _ q6 => ?_⟩;clear q5
  have z2 := b2.size
  have b2w : Below w.heap.size w w2 := b1.trans (b2.mono z1)
  obtain ⟨a4, c4, hv4, s4, _⟩ := o4.sl kN
  refine q6.t (.tuple #[v4, .bool (srA l).isSome, .int .i64 (srE l)]) (ex_move rfl (q6.e (j := 14) rfl)) fun _ q7 => ?_;clear q6
  refine q7.t (v4) (ex_ext18 rfl (q7.e (j := 12) rfl) rfl) fun _ q8 => ?_;clear q7
  refine q8.t (.bool (srA l).isSome) (ex_ext18 rfl (q8.e (j := 12) rfl) rfl) fun _ q9 => ?_;clear q8
  refine q9.t (.int .i64 (srE l)) (ex_ext18 rfl (q9.e (j := 12) rfl) rfl) fun _ q10 => ?_;clear q9
  refine q10.t (v4) (ex_assign rfl (q10.e (j := 15) rfl)) fun _ q11 => ?_;clear q10
  refine q11.t (.bool (srA l).isSome) (ex_assign rfl (q11.e (j := 16) rfl)) fun _ q12 => ?_;clear q11
  refine q12.t (.int .i64 (srE l)) (ex_assign rfl (q12.e (j := 17) rfl)) fun _ q13 => ?_;clear q12
  refine wpList_nil ?_
  go_upto_region 3 with fail
  refine wp_region_lit ?_
  refine q13.t (.slice a l.length c) (ex_move rfl (q13.e (j := 0) rfl)) fun _ q14 => ?_;clear q13
  refine vcallP (want_none rfl) (ex_call rfl (by simp only [List.map_toArray, List.map_cons, List.map_nil, (q14.e (j := 19) rfl), evc] <;> rfl) rfl) (refSearch18 l a c w2 (h.on b2w (Nat.le_refl _)) hfx hb2) rfl q14.z (by decide) ?_
  rintro e w3 ⟨a7, n7, c7, rfl, s7, b3⟩
  refine ⟨_, rfl, q14.k fun _ q15 => ?_⟩;clear q14
  have z3 := b3.size
  have b3w : Below w.heap.size w w3 := b2w.trans (b3.mono b2w.size)
  have hn7 := s7.len
  subst hn7
  have hsm : (ints ((srA l).getD [])).length ≤ 140737488355328 := srA_len l
  refine q15.t (.tuple #[.slice a7 (ints ((srA l).getD [])).length c7, .bool (srA l).isSome, .int .i64 (srE l)]) (ex_move rfl (q15.e (j := 20) rfl)) fun _ q16 => ?_;clear q15
  refine q16.t (.slice a7 (ints ((srA l).getD [])).length c7) (ex_ext18 rfl (q16.e (j := 18) rfl) rfl) fun _ q17 => ?_;clear q16
  refine q17.t (.bool (srA l).isSome) (ex_ext18 rfl (q17.e (j := 18) rfl) rfl) fun _ q18 => ?_;clear q17
  refine q18.t (.int .i64 (srE l)) (ex_ext18 rfl (q18.e (j := 18) rfl) rfl) fun _ q19 => ?_;clear q18
  refine q19.t (.slice a7 (ints ((srA l).getD [])).length c7) (ex_assign rfl (q19.e (j := 21) rfl)) fun _ q20 => ?_;clear q19
  refine q20.t (.bool (srA l).isSome) (ex_assign rfl (q20.e (j := 22) rfl)) fun _ q21 => ?_;clear q20
  refine q21.t (.int .i64 (srE l)) (ex_assign rfl (q21.e (j := 23) rfl)) fun _ q22 => ?_;clear q21
  have q23 := (((((((((Rp.nil q22.z).cons (q22.a 0 rfl)).cons (q22.a 3 rfl)).cons (q22.a 4 rfl)).cons (q22.a 5 rfl)).cons (q22.a 6 rfl)).cons (q22.a 7 rfl)).cons (q22.a 8 rfl)).cons (q22.a 9 rfl))
  clear q22
  refine wpList_nil ?_
  go_upto_region 4 with fail
  refine wp_region_lit ?_
  refine q23.t (.int .i64 (srE l)) (ex_move rfl (q23.e (j := 6) rfl)) fun _ q24 => ?_;clear q23
  refine q24.t (.int .i64 (srE l)) (ex_move rfl (q24.e (j := 9) rfl)) fun _ q25 => ?_;clear q24
  refine q25.t (.bool true) (ex_bin rfl (q25.e (j := 24) rfl) (q25.e (j := 25) rfl) (eqlSe _ _ _ _)) fun _ q26 => ?_;clear q25
  refine q26.t (.bool true) (ex_move rfl (q26.e (j := 26) rfl)) fun _ q27 => ?_;clear q26
  refine vl (true) (.bool (srA l).isSome) (wantT18 rfl rfl (q27.a 27 rfl)) (fun hc => ex_move rfl (q27.e (j := 5) rfl)) rfl q27.z (by decide) (q27.k fun _ q28 => ?_);clear q27
  refine vl (true) (.bool (srA l).isSome) (wantT18 rfl rfl (q28.a 27 rfl)) (fun hc => ex_move rfl (q28.e (j := 8) rfl)) rfl q28.z (by decide) (q28.k fun _ q29 => ?_);clear q28
  refine vl (true) (.bool true) (wantT18 rfl rfl (q29.a 27 rfl)) (fun hc => ex_bin rfl (q29.e (j := 28) rfl) (q29.e (j := 29) rfl) (eqlBs _ _ _ _)) rfl q29.z (by decide) (q29.k fun _ q30 => ?_);clear q29
  refine q30.t (.bool true) (ex_and (c := true) (b := true) (z := true) rfl (q30.a 27 rfl) (q30.a 30 rfl) rfl) fun _ q31 => ?_;clear q30
  refine q31.t (.bool true) (ex_move rfl (q31.e (j := 31) rfl)) fun _ q32 => ?_;clear q31
  refine vl (true) (v4) (wantT18 rfl rfl (q32.a 32 rfl)) (fun hc => ex_move rfl (q32.e (j := 4) rfl)) rfl q32.z (by decide) (q32.k fun _ q33 => ?_);clear q32
  refine vl (true) (.slice a7 (ints ((srA l).getD [])).length c7) (wantT18 rfl rfl (q33.a 32 rfl)) (fun hc => ex_move rfl (q33.e (j := 7) rfl)) rfl q33.z (by decide) (q33.k fun _ q34 => ?_);clear q33
  refine vcall true (.bool true) (wantT18 rfl rfl (q34.a 32 rfl)) (fun hc => ex_call rfl (by simp only [List.map_toArray, List.map_cons, List.map_nil, (q34.e (j := 33) rfl), (q34.e (j := 34) rfl), evc] <;> rfl) rfl) (fun hc => by rw [hv4]; exact sameInts18 _ a4 a7 c4 c7 w3 (s4.on (b3) (Nat.le_refl _)) s7 hsm) rfl q34.z (by decide) (q34.kc fun _ w4 b4 q35 => ?_);clear q34
  refine q35.t (.bool true) (ex_and (c := true) (b := true) (z := true) rfl (q35.a 32 rfl) (q35.a 35 rfl) rfl) fun _ q36 => ?_;clear q35
  refine q36.t (.bool true) (ex_move rfl (q36.e (j := 36) rfl)) fun _ q37 => ?_;clear q36
  have b13 : Below w1.heap.size w1 w4 := b2.trans ((b3.trans (b4.mono z3)).mono z2)
  have b4w : Below w.heap.size w w4 := b3w.trans (b4.mono b3w.size)
  refine vl (true) (.slice a3 l.length c3) (wantT18 rfl rfl (q37.a 37 rfl)) (fun hc => ex_move rfl (q37.e (j := 3) rfl)) rfl q37.z (by decide) (q37.k fun _ q38 => ?_);clear q37
  refine vl (true) (.slice a l.length c) (wantT18 rfl rfl (q38.a 37 rfl)) (fun hc => ex_move rfl (q38.e (j := 0) rfl)) rfl q38.z (by decide) (q38.k fun _ q39 => ?_);clear q38
  refine vcall true (.bool true) (wantT18 rfl rfl (q39.a 37 rfl)) (fun hc => ex_call rfl (by simp only [List.map_toArray, List.map_cons, List.map_nil, (q39.e (j := 38) rfl), (q39.e (j := 39) rfl), evc] <;> rfl) rfl) (fun hc => kept18 _ l a3 a c3 c w4 (hL1.later b13) (h.on b4w (Nat.le_refl _)) hb2) rfl q39.z (by decide) (q39.kc fun _ w5 b5 q40 => ?_);clear q39
  refine q40.t (.bool true) (ex_and (c := true) (b := true) (z := true) rfl (q40.a 37 rfl) (q40.a 40 rfl) rfl) fun _ q41 => ?_;clear q40
  refine q41.t (.bool true) (ex_move rfl (q41.e (j := 41) rfl)) fun _ q42 => ?_;clear q41
  have b5w : Below w.heap.size w w5 := b4w.trans (b5.mono b4w.size)
  refine vcall true (.bool true) (wantT18 rfl rfl (q42.a 42 rfl)) (fun hc => ex_call (args := #[]) rfl (by simp) rfl) (fun hc => works18_any w5) rfl q42.z (by decide) (q42.kc fun _ w6 b6 q43 => ?_);clear q42
  refine q43.t (.bool true) (ex_and (c := true) (b := true) (z := true) rfl (q43.a 42 rfl) (q43.a 43 rfl) rfl) fun _ q44 => ?_;clear q43
  refine q44.t (.bool true) (ex_assign rfl (q44.e (j := 44) rfl)) fun _ q45 => ?_;clear q44
  refine wpList_nil ?_
  go_wp2
  refine bodyPost_ret (results_tmp rfl _ _ _) rfl ⟨?_, b5w.trans (b6.mono b5w.size)⟩
  rw [getD_of (q45.a 2 rfl)]
  rfl
theorem searches_came18 (a : Option Addr) (n c : Nat) (W : World) (h : CameKl W a n c) : Calls Try.prog 6 #[.slice a n c] W fun e w' => e = .returned (.bool true) ∧ Below W.heap.size W w' := by
  obtain ⟨P, h1, h2, h3⟩ := h
  have hl := h1.len
  subst hl
  exact searches18 P a c W h1 h2 h3

end Go.Proofs.Ytcopbidplblokaa
