import Derived.Test.YtidfcflcjkbeeaaGKx
import Derived.Test.YtidfcflcjkbeeaaK26
namespace Go.Proofs.Ytidfcflcjkbeeaa
open Go.RowKit Go.Maps
open Classical
set_option linter.unusedVariables false
set_option linter.unusedSimpArgs false

/-- A loop whose rounds are counted by the invariant alone. -/
theorem v_loopG {c : Code} {Q : Exit → Act → World → Prop} {T0 : Array Value} {w0 : World} (N : Nat) (I : Nat → Array Value → World → Prop) (h0 : I 0 T0 w0)
    (round : ∀ j T w, j ≤ N → I j T w → c.wp Try.prog (Exit.then (fun a' w' => ∃ T', a' = ⟨T', []⟩ ∧ j + 1 ≤ N ∧ I (j + 1) T' w') Q) ⟨T, []⟩ w) : (Code.loop c).wp Try.prog Q ⟨T0, []⟩ w0 := by
  have top : ∀ (p : Nat → Prop) (n : Nat), ∃ g, (∀ j, j ≤ n → p j → j ≤ g) ∧ ((∃ j, j ≤ n ∧ p j) → g ≤ n ∧ p g) := by
    intro p n
    induction n with
    | zero =>
      refine ⟨0, fun j hj _ => hj, ?_⟩
      rintro ⟨j, hj, h⟩
      obtain rfl : j = 0 := by omega
      exact ⟨hj, h⟩
    | succ n ih =>
      by_cases hp : p (n + 1)
      · exact ⟨n + 1, fun j hj _ => hj, fun _ => ⟨Nat.le_refl _, hp⟩⟩
      · obtain ⟨g, h1, h2⟩ := ih
        refine ⟨g, fun j hj h => ?_, ?_⟩
        · by_cases e : j = n + 1
          · subst e; exact absurd h hp
          · exact h1 j (by omega) h
        · rintro ⟨j, hj, h⟩
          by_cases e : j = n + 1
          · subst e; exact absurd h hp
          · obtain ⟨a, b⟩ := h2 ⟨j, by omega, h⟩
            exact ⟨by omega, b⟩
  obtain ⟨G, hG⟩ := Classical.axiomOfChoice (fun (x : Act × World) => top (fun j => I j x.1.tmps x.2) N)
  refine wp_loop (fun a w => ∃ j T, a = ⟨T, []⟩ ∧ j ≤ N ∧ I j T w) (fun a w => N - G (a, w)) ⟨0, T0, rfl, Nat.zero_le _, h0⟩ ?_
  rintro a w ⟨j, T, rfl, hj, hI⟩
  obtain ⟨g1, g2⟩ := (hG (⟨T, []⟩, w)).2 ⟨j, hj, hI⟩
  refine Code.wp_mono (fun e a' w' h => ?_) (round _ T w g1 g2)
  cases e with
  | normal =>
    obtain ⟨T', rfl, hj', hI'⟩ := h
    have h1 := (hG (⟨T', []⟩, w')).1 _ hj' hI'
    refine ⟨⟨_, T', rfl, hj', hI'⟩, ?_⟩
    show N - G (⟨T', []⟩, w') < N - G (⟨T, []⟩, w)
    omega
  | _ => exact h
/-- All orders of places below n, none twice, each ahead of those that begin with it. -/
def preL (n : Nat) : Nat → List Nat → List (List Nat)
  | 0, O => [O]
  | k + 1, O => O :: (List.range n).flatMap fun (q : Nat) => if hasI (ints O) (q : Int) then [] else preL n k (O ++ [q])
def witB (l : List Kl) (o : List Nat) : Bool := decide (brk l (ints o) = -1)
theorem bkA_more (l : List Kl) (s : List Int) : ∀ (r ahead : List Int) (L : List Cl) (i : Nat), bkA l i ahead r L ≠ -1 → bkA l i ahead r L < ((i + r.length : Nat) : Int) → bkA l i ahead (r ++ s) L = bkA l i ahead r L
  | [], ahead, L, i, h1, h2 => by
    exfalso
    rw [bkA] at h1 h2
    split at h1
    · rename_i h; rw [if_pos h] at h2; simp at h2
    · exact h1 rfl
  | p :: r, ahead, L, i, h1, h2 => by
    rw [List.cons_append, bkA, bkA]
    rw [bkA] at h1 h2
    cases hx : l[p.toNat]? with
    | none => rfl
    | some x =>
      rw [hx] at h1 h2
      dsimp only at h1 h2 ⊢
      split
      · rfl
      · rename_i hc
        rw [if_neg hc] at h1 h2
        exact bkA_more l s r _ _ _ h1 (by rw [List.length_cons] at h2; rw [show i + 1 + r.length = i + (r.length + 1) by omega]; exact h2)
theorem ints_app (O s : List Nat) : ints (O ++ s) = ints O ++ ints s := by simp [ints]
theorem preL_pre (n : Nat) : ∀ (k : Nat) (O o : List Nat), o ∈ preL n k O → ∃ s, o = O ++ s
  | 0, O, o, h => ⟨[], by rw [preL, List.mem_singleton] at h; rw [h, List.append_nil]⟩
  | k + 1, O, o, h => by
    rw [preL, List.mem_cons] at h
    rcases h with rfl | h
    · exact ⟨[], by rw [List.append_nil]⟩
    · obtain ⟨q, _, hq⟩ := List.mem_flatMap.1 h
      split at hq
      · cases hq
      · obtain ⟨s, rfl⟩ := preL_pre n k _ _ hq
        exact ⟨[q] ++ s, by rw [List.append_assoc]⟩
theorem frm_find (l : List Kl) : ∀ (k : Nat) (O : List Nat), frm l k O = (preL l.length k O).find? (witB l)
  | 0, O => by
    rw [frm, preL, List.find?_cons, List.find?_nil]
    unfold witB
    by_cases h : brk l (ints O) = -1
    · rw [if_pos h, decide_eq_true h]
    · rw [if_neg h, decide_eq_false h]
  | k + 1, O => by
    rw [frm, preL, List.find?_cons]
    by_cases h : brk l (ints O) = -1
    · rw [if_pos h, show witB l O = true from decide_eq_true h]
    · rw [if_neg h, show witB l O = false from decide_eq_false h]
      dsimp only
      rw [List.find?_flatMap]
      by_cases hb : brk l (ints O) < (O.length : Int)
      · rw [if_pos hb]
        symm
        rw [List.findSome?_eq_none_iff]
        intro q hq
        split
        · rfl
        · rw [List.find?_eq_none]
          intro o ho
          obtain ⟨s, rfl⟩ := preL_pre _ _ _ _ ho
          have e : brk l (ints (O ++ [q] ++ s)) = brk l (ints O) := by
            rw [List.append_assoc, ints_app]
            exact bkA_more l _ _ _ _ _ h (by rw [Nat.zero_add, ints_len]; exact hb)
          simp only [witB, e, decide_eq_true_eq]
          exact h
      · rw [if_neg hb]
        congr 1
        funext q
        split
        · rfl
        · exact frm_find l k _
/-- The order behind one. -/
def nxF (n : Nat) (O : List Nat) (lo : Nat) : Option Nat := ((List.range n).drop lo).find? fun (k : Nat) => !hasI (ints O) (k : Int)
def nxB (n : Nat) : List Nat → Option (List Nat)
  | [] => none
  | x :: R => match nxF n R.reverse (x + 1) with
    | some k => some (R.reverse ++ [k])
    | none => nxB n R
def nxt (n : Nat) (O : List Nat) : Option (List Nat) := match nxF n O 0 with
  | some k => some (O ++ [k])
  | none => nxB n O.reverse
def chn (n : Nat) : List (List Nat) → Bool
  | [] => true
  | [O] => nxt n O == none
  | O :: P :: r => (nxt n O == some P) && chn n (P :: r)
def fine (n : Nat) (o : List Nat) : Bool := okO n [] (ints o) && decide (o.length ≤ 5) && o.all (fun k => decide (k < n))
theorem chn_at (n : Nat) : ∀ (E : List (List Nat)), chn n E = true → ∀ j O, E[j]? = some O → nxt n O = E[j + 1]?
  | [], _, j, O, h => by simp at h
  | [P], hc, j, O, h => by
    match j, h with
    | 0, h =>
      simp at h
      subst h
      rw [chn, beq_iff_eq] at hc
      rw [hc]
      rfl
    | j + 1, h => simp at h
  | P :: R :: r, hc, j, O, h => by
    rw [chn, Bool.and_eq_true, beq_iff_eq] at hc
    match j, h with
    | 0, h =>
      simp at h
      subst h
      rw [hc.1]
      rfl
    | j + 1, h =>
      rw [List.getElem?_cons_succ] at h
      rw [List.getElem?_cons_succ]
      exact chn_at n (R :: r) hc.2 j O h
theorem all_5 : (List.range 6).all (fun n => chn n (preL n n []) && (preL n n []).all (fine n) && decide (0 < (preL n n []).length) && decide ((preL n n []).length ≤ 400)) = true := by kernel_rfl

end Go.Proofs.Ytidfcflcjkbeeaa

namespace Go.Proofs.Ytidfcflcjkbeeaa
open Go.RowKit Go.Maps
open Classical
set_option linter.unusedVariables false
set_option linter.unusedSimpArgs false

set_option maxRecDepth 100000 in
set_option maxHeartbeats 2000000 in
theorem in18 (O : List Int) (a2 : Option Addr) (c2 : Nat) (k : Int) (w : World) (h : SlY yN w a2 O.length c2 O) (hb : O.length ≤ 140737488355328) :
    Calls Try.prog 45 #[.slice a2 O.length c2, .int .i64 k] w fun e w' => e = .returned (.bool (hasI O k)) ∧ w' = w := by
  go_enter Try.func45, Try.ntmps45
  go_upto_region 0 with fail
  refine wp_region_lit ?_
  refine vl_gen (fun T => Rp T 18 [(1, gw true (.int .i64 k)), (0, gw true (.slice a2 O.length c2))]) (((Rp.nil rfl).cons rfl).cons rfl) (fun Z0 q0 => ?_)
  refine q0.t (.bool false) (ex_assign rfl rfl) fun _ q1 => ?_;clear q0
  refine wpList_nil ?_
  go_upto_region 1 with fail
  refine wp_region_lit ?_
  refine q1.t (.int .i64 ((0 : Nat) : Int)) (ex_assign rfl rfl) fun _ q2 => ?_;clear q1
  have q3 := ((((Rp.nil q2.z).cons (q2.a 0 rfl)).cons (q2.a 1 rfl)).cons (q2.a 5 rfl))
  clear q2
  refine wpList_nil ?_
  go_upto_region 2 with fail
  refine v_loop 5 O.length (fun j T wr => Rp T 18 [(5, gw true (.int .i64 (j : Int))), (1, gw true (.int .i64 k)), (0, gw true (.slice a2 O.length c2))] ∧ Hid (wr = w ∧ hasI (O.take j) k = false)) (fun j T w h => h.1.a 5 rfl) ⟨q3, rfl, by simp [hasI]⟩ ?_
  clear q3
  intro j T wr hj hh
  obtain ⟨q100, HJ⟩ := hh
  obtain ⟨rfl, hX⟩ := HJ.out
  clear HJ
  by_cases hit : j < O.length
  · obtain ⟨x, hx⟩ : ∃ x, O[j]? = some x := ⟨_, List.getElem?_eq_getElem hit⟩
    obtain ⟨q, o, hq, hql, hc⟩ := h.nm hx
    have hT := hasI_take (k := k) hx
    go_upto_region 2 with fail
    refine wp_region_lit ?_
    refine q100.t (.int .i64 (j : Int)) (ex_move rfl (q100.e (j := 5) rfl)) fun _ q101 => ?_;clear q100
    refine q101.t (.slice a2 O.length c2) (ex_move rfl (q101.e (j := 0) rfl)) fun _ q102 => ?_;clear q101
    refine q102.t (.int .i64 (O.length : Int)) (ex_lenN18 rfl rfl (q102.e (j := 7) rfl)) fun _ q103 => ?_;clear q102
    refine q103.t (.bool true) (ex_bin rfl (q103.e (j := 6) rfl) (q103.e (j := 8) rfl) (ltT _ _ hit _)) fun _ q104 => ?_;clear q103
    refine wpList_nil ?_
    go_upto_region 4 with fail
    refine wp_cond_true (q104.e (j := 9) rfl) ?_
    go_upto_region 4 with fail
    refine wp_region_lit ?_
    refine q104.t (.slice a2 O.length c2) (ex_move rfl (q104.e (j := 0) rfl)) fun _ q105 => ?_;clear q104
    refine q105.t (.int .i64 (j : Int)) (ex_move rfl (q105.e (j := 5) rfl)) fun _ q106 => ?_;clear q105
    refine q106.t (.pointer (some ⟨q, o + j, none⟩)) (ex_ix rfl (q106.e (j := 12) rfl) (q106.e (j := 13) rfl) (by rw [hq]; exact ixN18 q o O.length c2 j hit _)) fun _ q107 => ?_;clear q106
    refine q107.t (.int .i64 x) (ex_ld rfl (q107.e (j := 14) rfl) (ldI18 hc)) fun _ q108 => ?_;clear q107
    refine q108.t (.int .i64 k) (ex_move rfl (q108.e (j := 1) rfl)) fun _ q109 => ?_;clear q108
    refine q109.t (.bool (decide (x = k))) (ex_bin rfl (q109.e (j := 15) rfl) (q109.e (j := 16) rfl) (eqlC _ _ _ _ _)) fun _ q110 => ?_;clear q109
    have q111 := (((((Rp.nil q110.z).cons (q110.a 0 rfl)).cons (q110.a 1 rfl)).cons (q110.a 5 rfl)).cons (q110.a 17 rfl))
    clear q110
    refine wpList_nil ?_
    cases hd : decide (x = k) with
    | true =>
      have q111x := q111.a 17 rfl
      rw [hd] at q111x
      have hE : hasI O k = true := hasI_mono (j := j + 1) (by rw [hT, hd]; simp)
      go_upto_region 5 with fail
      refine wp_cond_true (ev q111x rfl) ?_
      go_upto_region 5 with fail
      refine wp_region_lit ?_
      refine q111.t (.bool true) (ex_assign rfl rfl) fun _ q112 => ?_;clear q111
      refine wpList_nil ?_
      go_wp2
      refine bodyPost_ret (results_tmp rfl _ _ _) rfl ⟨?_, rfl⟩
      rw [getD_of (q112.a 4 rfl)]
      exact retB18 hE.symm
    | false =>
      have q111x := q111.a 17 rfl
      rw [hd] at q111x
      go_upto_region 3 with fail
      refine wp_cond_false (ev q111x rfl) ?_
      go_upto_region 3 with fail
      refine wp_region_lit ?_
      refine q111.t (.int .i64 (j : Int)) (ex_move rfl (q111.e (j := 5) rfl)) fun _ q112 => ?_;clear q111
      refine q112.t (.int .i64 ((j + 1 : Nat) : Int)) (ex_bin rfl (q112.e (j := 10) rfl) rfl (add1C _ _ j (by omega) _)) fun _ q113 => ?_;clear q112
      refine q113.t (.int .i64 ((j + 1 : Nat) : Int)) (ex_assign rfl (q113.e (j := 11) rfl)) fun _ q114 => ?_;clear q113
      have q115 := ((((Rp.nil q114.z).cons (q114.a 0 rfl)).cons (q114.a 1 rfl)).cons (q114.a 5 rfl))
      clear q114
      refine wpList_nil ?_
      exact ⟨_, rfl, hit, q115, rfl, by rw [hT, hX, hd]; rfl⟩
  · obtain rfl : j = O.length := by omega
    rw [List.take_length] at hX
    go_upto_region 2 with fail
    refine wp_region_lit ?_
    refine q100.t (.int .i64 (O.length : Int)) (ex_move rfl (q100.e (j := 5) rfl)) fun _ q101 => ?_;clear q100
    refine q101.t (.slice a2 O.length c2) (ex_move rfl (q101.e (j := 0) rfl)) fun _ q102 => ?_;clear q101
    refine q102.t (.int .i64 (O.length : Int)) (ex_lenN18 rfl rfl (q102.e (j := 7) rfl)) fun _ q103 => ?_;clear q102
    refine q103.t (.bool false) (ex_bin rfl (q103.e (j := 6) rfl) (q103.e (j := 8) rfl) (ltF _ _ hit _)) fun _ q104 => ?_;clear q103
    refine wpList_nil ?_
    go_upto_region 6 with fail
    refine wp_cond_false (q104.e (j := 9) rfl) ?_
    go_upto_region 6 with fail
    refine wp_region_lit ?_
    refine q104.t (.bool false) (ex_assign rfl rfl) fun _ q105 => ?_;clear q104
    refine wpList_nil ?_
    go_wp2
    refine bodyPost_ret (results_tmp rfl _ _ _) rfl ⟨?_, rfl⟩
    rw [getD_of (q105.a 4 rfl)]
    exact retB18 hX.symm
theorem ex_sl8 {o : Oper} {ρ : Operand → Value} {s : TypeId} {x : Operand} {lo hi mx : Option Operand} {X V : Value} {l h m : Option Value} {w : World} (ho : o.op = .slice s x lo hi mx) (hx : ρ x = X) (hl : lo.map ρ = l) (hh : hi.map ρ = h) (hm : mx.map ρ = m) (hr : (Instr.sliceAt s X l h m).run Try.prog w = .ok V w) : (execOp ρ o).run Try.prog w = .ok (.value V) w := by
  unfold execOp
  simp only [ho, hx, hl, hh, hm]
  simp only [Sem.run_bind, hr, Result.andThen_ok]
  rfl
theorem find_skip {p : Nat → Bool} (n : Nat) : ∀ (d lo : Nat), lo + d ≤ n → (∀ i, lo ≤ i → i < lo + d → p i = false) → ((List.range n).drop lo).find? p = ((List.range n).drop (lo + d)).find? p
  | 0, lo, _, _ => rfl
  | d + 1, lo, h, hp => by
    rw [List.drop_eq_getElem_cons (by simpa using (by omega : lo < n)), List.find?_cons, List.getElem_range, hp lo (Nat.le_refl _) (by omega)]
    dsimp only
    rw [find_skip n d (lo + 1) (by omega) (fun i h1 h2 => hp i (by omega) (by omega)), show lo + 1 + d = lo + (d + 1) by omega]
theorem nxF_at {n : Nat} {O : List Nat} {lo d : Nat} (h : lo + d < n) (hp : ∀ i, lo ≤ i → i < lo + d → hasI (ints O) (i : Int) = true) (hk : hasI (ints O) ((lo + d : Nat) : Int) = false) : nxF n O lo = some (lo + d) := by
  unfold nxF
  rw [find_skip n d lo (by omega) (fun i h1 h2 => by rw [hp i h1 h2]; rfl), List.drop_eq_getElem_cons (by simpa using h), List.find?_cons, List.getElem_range, hk]
  rfl
theorem nxF_no {n : Nat} {O : List Nat} {lo d : Nat} (h : n ≤ lo + d) (hp : ∀ i, lo ≤ i → i < lo + d → hasI (ints O) (i : Int) = true) : nxF n O lo = none := by
  unfold nxF
  by_cases hl : lo ≤ n
  · rw [find_skip n (n - lo) lo (by omega) (fun i h1 h2 => by rw [hp i h1 (by omega)]; rfl), show lo + (n - lo) = n by omega, List.drop_of_length_le (by simp)]
    rfl
  · rw [List.drop_of_length_le (by simp; omega)]
    rfl
set_option maxRecDepth 100000 in
set_option maxHeartbeats 2000000 in
theorem next18 (n : Nat) (O : List Nat) (a : Option Addr) (c : Nat) (w : World) (h : SlY yN w a (ints O).length c (ints O)) (hn : n ≤ 5) (hO : O.length ≤ 5) (hlt : ∀ k ∈ O, k < n) :
    Calls Try.prog 18 #[.slice a (ints O).length c, .int .i64 ((n : Nat) : Int)] w fun e w' => ∃ v, e = .returned (.tuple #[v, .bool (nxt n O).isSome]) ∧ OwnY yN w.heap.size w' v (ints ((nxt n O).getD [])) ∧ Below w.heap.size w w' := by
  go_enter Try.func18, Try.ntmps18
  go_upto_region 0 with fail
  refine wp_region_lit ?_
  refine vl_gen (fun T => Rp T 55 [(1, gw true (.int .i64 ((n : Nat) : Int))), (0, gw true (.slice a (ints O).length c))]) (((Rp.nil rfl).cons rfl).cons rfl) (fun Z0 q0 => ?_)
  refine q0.t (.slice none 0 0) (ex_assign rfl rfl) fun _ q1 => ?_;clear q0
  refine q1.t (.bool false) (ex_assign rfl rfl) fun _ q2 => ?_;clear q1
  refine wpList_nil ?_
  go_upto_region 1 with fail
  refine wp_region_lit ?_
  refine q2.t (.slice none 0 0) (ex_assign rfl rfl) fun _ q3 => ?_;clear q2
  refine wpList_nil ?_
  go_upto_region 2 with fail
  refine wp_region_lit ?_
  refine q3.t (.slice none 0 0) (ex_move rfl (q3.e (j := 6) rfl)) fun _ q4 => ?_;clear q3
  refine q4.t (.slice a (ints O).length c) (ex_move rfl (q4.e (j := 0) rfl)) fun _ q5 => ?_;clear q4
  have hil := ints_len O
  obtain ⟨v1, w1, ha1, o1, g1, _⟩ := run_appY kN w 34 w.heap.size [] (.slice none 0 0) a (ints O).length c (ints O) h (OwnY.nil _ _ _) (Nat.le_refl _) (by unfold maxLen; simp only [List.length_nil]; omega) (by show (([] : List Int).length + (ints O).length) * 8 ≤ _; simp only [List.length_nil]; omega)
  rw [List.nil_append] at o1
  have b1 : Below w.heap.size w w1 := (Below.refl _ _).grown g1 (Nat.le_refl _) (fun k hk => by cases hk)
  have z1 := b1.size
  refine vw (v1) w1 (want_none rfl) (ex_app18 rfl (q5.e (j := 10) rfl) (q5.e (j := 11) rfl) ha1) rfl q5.z (by decide) (q5.k fun _ q6 => ?_);clear q5
  refine q6.t (v1) (ex_assign rfl (q6.e (j := 12) rfl)) fun _ q7 => ?_;clear q6
  obtain ⟨av, cv, hv1, s1, hav⟩ := o1.sl kN
  subst hv1
  have q8 := (((Rp.nil q7.z).cons (q7.a 1 rfl)).cons (q7.a 6 rfl))
  clear q7
  refine wpList_nil ?_
  go_upto_region 3 with fail
  refine wp_region_lit ?_
  refine q8.t (.int .i64 ((0 : Nat) : Int)) (ex_assign rfl rfl) fun _ q9 => ?_;clear q8
  have q10 := ((((Rp.nil q9.z).cons (q9.a 1 rfl)).cons (q9.a 6 rfl)).cons (q9.a 7 rfl))
  clear q9
  refine wpList_nil ?_
  go_upto_region 4 with fail
  refine v_loop 7 n (fun j T wr => Rp T 55 [(7, gw true (.int .i64 ((j : Nat) : Int))), (6, gw true (.slice av (ints O).length cv)), (1, gw true (.int .i64 ((n : Nat) : Int)))] ∧ Hid (wr = w1 ∧ ∀ i, i < j → hasI (ints O) (i : Int) = true)) (fun j T w h => h.1.a 7 rfl) ⟨q10, rfl, fun i hi => by omega⟩ ?_
  clear q10
  intro j T wr hj hh
  obtain ⟨q100, HJ⟩ := hh
  obtain ⟨rfl, hX⟩ := HJ.out
  clear HJ
  by_cases hit : j < n
  · go_upto_region 4 with fail
    refine wp_region_lit ?_
    refine q100.t (.int .i64 ((j : Nat) : Int)) (ex_move rfl (q100.e (j := 7) rfl)) fun _ q101 => ?_;clear q100
    refine q101.t (.int .i64 ((n : Nat) : Int)) (ex_move rfl (q101.e (j := 1) rfl)) fun _ q102 => ?_;clear q101
    refine q102.t (.bool true) (ex_bin rfl (q102.e (j := 13) rfl) (q102.e (j := 14) rfl) (ltT _ _ hit _)) fun _ q103 => ?_;clear q102
    refine wpList_nil ?_
    go_upto_region 6 with fail
    refine wp_cond_true (q103.e (j := 15) rfl) ?_
    go_upto_region 6 with fail
    refine wp_region_lit ?_
    refine q103.t (.slice av (ints O).length cv) (ex_move rfl (q103.e (j := 6) rfl)) fun _ q104 => ?_;clear q103
    refine q104.t (.int .i64 ((j : Nat) : Int)) (ex_move rfl (q104.e (j := 7) rfl)) fun _ q105 => ?_;clear q104
    refine vcallP (want_none rfl) (ex_call rfl (by simp only [List.map_toArray, List.map_cons, List.map_nil, (q105.e (j := 18) rfl), (q105.e (j := 19) rfl), evc] <;> rfl) rfl) (in18 (ints O) av cv ((j : Nat) : Int) wr s1 (by omega)) rfl q105.z (by decide) ?_
    rintro e w2 ⟨rfl, rfl⟩
    refine ⟨_, rfl, q105.k fun _ q106 => ?_⟩;clear q105
    refine q106.t (.bool (!hasI (ints O) (j : Int))) (ex_not rfl (q106.e (j := 20) rfl)) fun _ q107 => ?_;clear q106
    have q108 := (((((Rp.nil q107.z).cons (q107.a 1 rfl)).cons (q107.a 6 rfl)).cons (q107.a 7 rfl)).cons (q107.a 21 rfl))
    clear q107
    refine wpList_nil ?_
    cases hd : hasI (ints O) (j : Int) with
    | false =>
      have q108x := q108.a 21 rfl
      rw [hd] at q108x
      have hN : nxt n O = some (O ++ [j]) := by
        unfold nxt
        have := nxF_at (n := n) (O := O) (lo := 0) (d := j) (by omega) (fun i _ hi => hX i (by omega)) (by rw [Nat.zero_add]; exact hd)
        rw [Nat.zero_add] at this
        rw [this]
      go_upto_region 7 with fail
      refine wp_cond_true (ev q108x rfl) ?_
      clear q108x
      go_upto_region 7 with fail
      refine wp_region_lit ?_
      refine q108.t (.slice av (ints O).length cv) (ex_move rfl (q108.e (j := 6) rfl)) fun _ q109 => ?_;clear q108
      refine q109.t (.int .i64 ((j : Nat) : Int)) (ex_move rfl (q109.e (j := 7) rfl)) fun _ q110 => ?_;clear q109
      obtain ⟨r2, hr2⟩ : ∃ zz, zz = w2.alloc (.cells #[.int .i64 ((j : Nat) : Int)] 3) := ⟨_, rfl⟩
      refine vw (.slice (some ⟨w2.heap.size, 0, none⟩) 1 1) r2 (want_none rfl) (ex_bs18 rfl (q110.e (j := 23) rfl) (by rw [hr2]; exact bsN _ _)) rfl q110.z (by decide) (q110.k fun _ q111 => ?_);clear q110
      have s2 : SlY yN r2 (some ⟨w2.heap.size, 0, none⟩) 1 1 [((j : Nat) : Int)] := by rw [hr2]; exact sl_box (Y := yN) w2 ((j : Nat) : Int) 3
      have b2 : Below w2.heap.size w2 r2 := by rw [hr2]; exact (Below.refl _ _).alloc (Nat.le_refl _) _
      clear hr2
      have z2 := b2.size
      obtain ⟨v3, r3, ha3, o3, g3, _⟩ := run_appY kN r2 34 w.heap.size (ints O) (.slice av (ints O).length cv) (some ⟨w2.heap.size, 0, none⟩) 1 1 [((j : Nat) : Int)] s2 (o1.grow b2) (by omega) (by unfold maxLen; omega) (by show ((ints O).length + 1) * 8 ≤ _; omega)
      have d3 : Below w.heap.size w r3 := (o1.grow b2).grown (b1.trans (b2.mono z1)) g3 (by omega)
      refine vw (v3) r3 (want_none rfl) (ex_app18 rfl (q111.e (j := 22) rfl) (q111.e (j := 24) rfl) ha3) rfl q111.z (by decide) (q111.k fun _ q112 => ?_);clear q111
      refine q112.t (v3) (ex_assign rfl (q112.e (j := 25) rfl)) fun _ q113 => ?_;clear q112
      refine q113.t (.bool true) (ex_assign rfl rfl) fun _ q114 => ?_;clear q113
      refine wpList_nil ?_
      go_wp2
      refine bodyPost_ret (results2_18 rfl (q114.a 4 rfl) (q114.a 5 rfl)) rfl ⟨v3, ?_, ?_, d3⟩
      · rw [hN]; rfl
      · rw [hN, Option.getD_some, ints_snoc]; exact o3
    | true =>
      have q108x := q108.a 21 rfl
      rw [hd] at q108x
      go_upto_region 5 with fail
      refine wp_cond_false (ev q108x rfl) ?_
      clear q108x
      go_upto_region 5 with fail
      refine wp_region_lit ?_
      refine q108.t (.int .i64 ((j : Nat) : Int)) (ex_move rfl (q108.e (j := 7) rfl)) fun _ q109 => ?_;clear q108
      refine q109.t (.int .i64 ((j + 1 : Nat) : Int)) (ex_bin rfl (q109.e (j := 16) rfl) rfl (add1C _ _ j (by omega) _)) fun _ q110 => ?_;clear q109
      refine q110.t (.int .i64 ((j + 1 : Nat) : Int)) (ex_assign rfl (q110.e (j := 17) rfl)) fun _ q111 => ?_;clear q110
      have q112 := ((((Rp.nil q111.z).cons (q111.a 1 rfl)).cons (q111.a 6 rfl)).cons (q111.a 7 rfl))
      clear q111
      refine wpList_nil ?_
      exact ⟨_, rfl, hit, q112, rfl, fun i hi => by by_cases e : i = j; subst e; exact hd; exact hX i (by omega)⟩
  · obtain rfl : j = n := by omega
    have hN : nxt j O = nxB j O.reverse := by unfold nxt; rw [nxF_no (n := j) (O := O) (lo := 0) (d := j) (by omega) (fun i _ hi => hX i (by omega))]
    go_upto_region 4 with fail
    refine wp_region_lit ?_
    refine q100.t (.int .i64 ((j : Nat) : Int)) (ex_move rfl (q100.e (j := 7) rfl)) fun _ q101 => ?_;clear q100
    refine q101.t (.int .i64 ((j : Nat) : Int)) (ex_move rfl (q101.e (j := 1) rfl)) fun _ q102 => ?_;clear q101
    refine q102.t (.bool false) (ex_bin rfl (q102.e (j := 13) rfl) (q102.e (j := 14) rfl) (ltF _ _ hit _)) fun _ q103 => ?_;clear q102
    refine wpList_nil ?_
    go_upto_region 8 with fail
    refine wp_cond_false (q103.e (j := 15) rfl) ?_
    have q104 := (((Rp.nil q103.z).cons (q103.a 1 rfl)).cons (q103.a 6 rfl))
    clear q103
    go_upto_region 8 with fail
    refine v_loopG O.length (fun i T w9 => ∃ P : List Nat, Rp T 55 [(6, gw true (.slice av (ints P).length cv)), (1, gw true (.int .i64 ((j : Nat) : Int)))] ∧ Hid (w9 = wr ∧ P.length + i = O.length ∧ OwnY yN w.heap.size wr (.slice av (ints P).length cv) (ints P) ∧ nxt j O = nxB j P.reverse ∧ ∀ k ∈ P, k < j)) ⟨O, q104, rfl, rfl, o1, hN, hlt⟩ ?_
    clear q104
    intro i T w9 hi hh
    obtain ⟨P, q100, HJ⟩ := hh
    obtain ⟨rfl, hPl, oP, hN, hPlt⟩ := HJ.out
    clear HJ
    cases hP : P.reverse with
    | nil =>
      obtain rfl : P = [] := by simpa using hP
      go_upto_region 8 with fail
      refine wp_region_lit ?_
      refine q100.t (.slice av (ints []).length cv) (ex_move rfl (q100.e (j := 6) rfl)) fun _ q101 => ?_;clear q100
      refine q101.t (.int .i64 (((ints []).length : Nat) : Int)) (ex_lenN18 rfl rfl (q101.e (j := 26) rfl)) fun _ q102 => ?_;clear q101
      refine q102.t (.bool false) (ex_bin (Y := .int .i64 0) rfl (q102.e (j := 27) rfl) rfl (by rw [gtrC]; rfl)) fun _ q103 => ?_;clear q102
      refine wpList_nil ?_
      go_upto_region 16 with fail
      refine wp_cond_false (q103.e (j := 28) rfl) ?_
      go_upto_region 16 with fail
      refine wp_region_lit ?_
      refine q103.t (.slice none 0 0) (ex_assign rfl rfl) fun _ q104 => ?_;clear q103
      refine q104.t (.bool false) (ex_assign rfl rfl) fun _ q105 => ?_;clear q104
      refine wpList_nil ?_
      rw [List.reverse_nil, nxB] at hN
      go_wp2
      refine bodyPost_ret (results2_18 rfl (q105.a 4 rfl) (q105.a 5 rfl)) rfl ⟨.slice none 0 0, ?_, ?_, b1⟩
      · rw [hN]; rfl
      · rw [hN]; exact OwnY.nil _ _ _
    | cons y R =>
      obtain rfl : P = R.reverse ++ [y] := by have := congrArg List.reverse hP; simpa using this
      obtain ⟨S, hS⟩ : ∃ S, S = R.reverse := ⟨_, rfl⟩
      rw [hP, nxB] at hN
      rw [← hS] at q100 hPl oP hN hPlt
      rw [ints_snoc] at q100 oP
      have hSl := ints_len S
      have hlen : (ints S ++ [(y : Int)]).length = (ints S).length + 1 := by simp
      rw [List.length_append, List.length_singleton] at hPl
      have hyj := hPlt y (by simp)
      rw [hlen] at q100 oP
      obtain ⟨ga, hga⟩ : ∃ g, av = some ⟨g, 0, none⟩ := by
        obtain ⟨a8, c8, e8, s8, _⟩ := oP.sl kN
        injection e8 with e8 _ _
        subst e8
        obtain ⟨q9, o9, e9, _⟩ := s8.place (by simp)
        obtain ⟨g, e, _⟩ := hav _ e9
        exact ⟨g, by rw [e9, e]⟩
      subst hga
      have oS := oP.cut18
      have sP := oP.sl' kN
      have sS := oS.sl' kN
      obtain ⟨q9, o9, e9, _, hcy⟩ := sP.nm (j := (ints S).length) (x := (y : Int)) (by simp)
      cases e9
      rw [Nat.zero_add] at hcy
      go_upto_region 8 with fail
      refine wp_region_lit ?_
      refine q100.t (.slice (some ⟨ga, 0, none⟩) ((ints S).length + 1) cv) (ex_move rfl (q100.e (j := 6) rfl)) fun _ q101 => ?_;clear q100
      refine q101.t (.int .i64 (((ints S).length + 1 : Nat) : Int)) (ex_lenN18 rfl rfl (q101.e (j := 26) rfl)) fun _ q102 => ?_;clear q101
      refine q102.t (.bool true) (ex_bin (Y := .int .i64 0) rfl (q102.e (j := 27) rfl) rfl (by rw [gtrC, decide_eq_true (by omega)])) fun _ q103 => ?_;clear q102
      refine wpList_nil ?_
      go_upto_region 9 with fail
      refine wp_cond_true (q103.e (j := 28) rfl) ?_
      go_upto_region 9 with fail
      refine wp_region_lit ?_
      refine q103.t (.slice (some ⟨ga, 0, none⟩) ((ints S).length + 1) cv) (ex_move rfl (q103.e (j := 6) rfl)) fun _ q104 => ?_;clear q103
      refine q104.t (.slice (some ⟨ga, 0, none⟩) ((ints S).length + 1) cv) (ex_move rfl (q104.e (j := 6) rfl)) fun _ q105 => ?_;clear q104
      refine q105.t (.int .i64 (((ints S).length + 1 : Nat) : Int)) (ex_lenN18 rfl rfl (q105.e (j := 30) rfl)) fun _ q106 => ?_;clear q105
      refine q106.t (.int .i64 (((ints S).length : Nat) : Int)) (ex_bin rfl (q106.e (j := 31) rfl) rfl (sub1C _ _ (ints S).length (by omega) _)) fun _ q107 => ?_;clear q106
      refine q107.t (.pointer (some ⟨ga, (ints S).length, none⟩)) (ex_ix rfl (q107.e (j := 29) rfl) (q107.e (j := 32) rfl) (by have := ixN18 ga 0 ((ints S).length + 1) cv (ints S).length (by omega) w9; rwa [Nat.zero_add] at this)) fun _ q108 => ?_;clear q107
      refine q108.t (.int .i64 ((y : Nat) : Int)) (ex_ld rfl (q108.e (j := 33) rfl) (ldI18 hcy)) fun _ q109 => ?_;clear q108
      refine q109.t (.int .i64 ((y : Nat) : Int)) (ex_assign rfl (q109.e (j := 34) rfl)) fun _ q110 => ?_;clear q109
      refine wpList_nil ?_
      go_upto_region 10 with fail
      refine wp_region_lit ?_
      refine q110.t (.slice (some ⟨ga, 0, none⟩) ((ints S).length + 1) cv) (ex_move rfl (q110.e (j := 6) rfl)) fun _ q111 => ?_;clear q110
      refine q111.t (.slice (some ⟨ga, 0, none⟩) ((ints S).length + 1) cv) (ex_move rfl (q111.e (j := 6) rfl)) fun _ q112 => ?_;clear q111
      refine q112.t (.int .i64 (((ints S).length + 1 : Nat) : Int)) (ex_lenN18 rfl rfl (q112.e (j := 36) rfl)) fun _ q113 => ?_;clear q112
      refine q113.t (.int .i64 (((ints S).length : Nat) : Int)) (ex_bin rfl (q113.e (j := 37) rfl) rfl (sub1C _ _ (ints S).length (by omega) _)) fun _ q114 => ?_;clear q113
      refine q114.t (.slice (some ⟨ga, 0, none⟩) (ints S).length cv) (ex_sl8 rfl (q114.e (j := 35) rfl) rfl (congrArg some (q114.e (j := 38) rfl)) rfl (slToN ga 0 ((ints S).length + 1) cv (ints S).length (by omega) (by have := sP.cap; omega) _)) fun _ q115 => ?_;clear q114
      refine q115.t (.slice (some ⟨ga, 0, none⟩) (ints S).length cv) (ex_assign rfl (q115.e (j := 39) rfl)) fun _ q116 => ?_;clear q115
      refine wpList_nil ?_
      go_upto_region 11 with fail
      refine wp_region_lit ?_
      refine q116.t (.int .i64 ((y : Nat) : Int)) (ex_move rfl (q116.e (j := 8) rfl)) fun _ q117 => ?_;clear q116
      refine q117.t (.int .i64 ((y + 1 : Nat) : Int)) (ex_bin rfl (q117.e (j := 40) rfl) rfl (add1C _ _ y (by omega) _)) fun _ q118 => ?_;clear q117
      refine q118.t (.int .i64 ((y + 1 : Nat) : Int)) (ex_assign rfl (q118.e (j := 41) rfl)) fun _ q119 => ?_;clear q118
      rw [show y + 1 = y + 1 + 0 from rfl] at q119
      have q120 := ((((Rp.nil q119.z).cons (q119.a 1 rfl)).cons (q119.a 6 rfl)).cons (q119.a 9 rfl))
      clear q119
      refine wpList_nil ?_
      go_upto_region 12 with fail
      refine v_loopG (j - (y + 1)) (fun d T w8 => Rp T 55 [(9, gw true (.int .i64 ((y + 1 + d : Nat) : Int))), (6, gw true (.slice (some ⟨ga, 0, none⟩) (ints S).length cv)), (1, gw true (.int .i64 ((j : Nat) : Int)))] ∧ Hid (w8 = w9 ∧ ∀ i, y + 1 ≤ i → i < y + 1 + d → hasI (ints S) (i : Int) = true)) ⟨q120, rfl, fun i h1 h2 => by omega⟩ ?_
      clear q120
      intro d T w8 hd hh
      obtain ⟨q100, HJ⟩ := hh
      obtain ⟨rfl, hY⟩ := HJ.out
      clear HJ
      by_cases hit2 : y + 1 + d < j
      · go_upto_region 12 with fail
        refine wp_region_lit ?_
        refine q100.t (.int .i64 ((y + 1 + d : Nat) : Int)) (ex_move rfl (q100.e (j := 9) rfl)) fun _ q101 => ?_;clear q100
        refine q101.t (.int .i64 ((j : Nat) : Int)) (ex_move rfl (q101.e (j := 1) rfl)) fun _ q102 => ?_;clear q101
        refine q102.t (.bool true) (ex_bin rfl (q102.e (j := 42) rfl) (q102.e (j := 43) rfl) (ltT _ _ hit2 _)) fun _ q103 => ?_;clear q102
        refine wpList_nil ?_
        go_upto_region 14 with fail
        refine wp_cond_true (q103.e (j := 44) rfl) ?_
        go_upto_region 14 with fail
        refine wp_region_lit ?_
        refine q103.t (.slice (some ⟨ga, 0, none⟩) (ints S).length cv) (ex_move rfl (q103.e (j := 6) rfl)) fun _ q104 => ?_;clear q103
        refine q104.t (.int .i64 ((y + 1 + d : Nat) : Int)) (ex_move rfl (q104.e (j := 9) rfl)) fun _ q105 => ?_;clear q104
        refine vcallP (want_none rfl) (ex_call rfl (by simp only [List.map_toArray, List.map_cons, List.map_nil, (q105.e (j := 47) rfl), (q105.e (j := 48) rfl), evc] <;> rfl) rfl) (in18 (ints S) (some ⟨ga, 0, none⟩) cv ((y + 1 + d : Nat) : Int) w8 sS (by omega)) rfl q105.z (by decide) ?_
        rintro e w7 ⟨rfl, rfl⟩
        refine ⟨_, rfl, q105.k fun _ q106 => ?_⟩;clear q105
        refine q106.t (.bool (!hasI (ints S) ((y + 1 + d : Nat) : Int))) (ex_not rfl (q106.e (j := 49) rfl)) fun _ q107 => ?_;clear q106
        have q108 := (((((Rp.nil q107.z).cons (q107.a 1 rfl)).cons (q107.a 6 rfl)).cons (q107.a 9 rfl)).cons (q107.a 50 rfl))
        clear q107
        refine wpList_nil ?_
        cases hd2 : hasI (ints S) ((y + 1 + d : Nat) : Int) with
        | false =>
          have q108x := q108.a 50 rfl
          rw [hd2] at q108x
          rw [nxF_at (n := j) (O := S) (lo := y + 1) (d := d) hit2 hY hd2] at hN
          dsimp only at hN
          go_upto_region 15 with fail
          refine wp_cond_true (ev q108x rfl) ?_
          clear q108x
          go_upto_region 15 with fail
          refine wp_region_lit ?_
          refine q108.t (.slice (some ⟨ga, 0, none⟩) (ints S).length cv) (ex_move rfl (q108.e (j := 6) rfl)) fun _ q109 => ?_;clear q108
          refine q109.t (.int .i64 ((y + 1 + d : Nat) : Int)) (ex_move rfl (q109.e (j := 9) rfl)) fun _ q110 => ?_;clear q109
          obtain ⟨r2, hr2⟩ : ∃ zz, zz = w7.alloc (.cells #[.int .i64 ((y + 1 + d : Nat) : Int)] 3) := ⟨_, rfl⟩
          refine vw (.slice (some ⟨w7.heap.size, 0, none⟩) 1 1) r2 (want_none rfl) (ex_bs18 rfl (q110.e (j := 52) rfl) (by rw [hr2]; exact bsN _ _)) rfl q110.z (by decide) (q110.k fun _ q111 => ?_);clear q110
          have s2 : SlY yN r2 (some ⟨w7.heap.size, 0, none⟩) 1 1 [((y + 1 + d : Nat) : Int)] := by rw [hr2]; exact sl_box (Y := yN) w7 ((y + 1 + d : Nat) : Int) 3
          have b2 : Below w7.heap.size w7 r2 := by rw [hr2]; exact (Below.refl _ _).alloc (Nat.le_refl _) _
          clear hr2
          have z2 := b2.size
          obtain ⟨v3, r3, ha3, o3, g3, _⟩ := run_appY kN r2 34 w.heap.size (ints S) (.slice (some ⟨ga, 0, none⟩) (ints S).length cv) (some ⟨w7.heap.size, 0, none⟩) 1 1 [((y + 1 + d : Nat) : Int)] s2 (oS.grow b2) (by omega) (by unfold maxLen; omega) (by show ((ints S).length + 1) * 8 ≤ _; omega)
          have d3 : Below w.heap.size w r3 := (oS.grow b2).grown (b1.trans (b2.mono z1)) g3 (by omega)
          refine vw (v3) r3 (want_none rfl) (ex_app18 rfl (q111.e (j := 51) rfl) (q111.e (j := 53) rfl) ha3) rfl q111.z (by decide) (q111.k fun _ q112 => ?_);clear q111
          refine q112.t (v3) (ex_assign rfl (q112.e (j := 54) rfl)) fun _ q113 => ?_;clear q112
          refine q113.t (.bool true) (ex_assign rfl rfl) fun _ q114 => ?_;clear q113
          refine wpList_nil ?_
          go_wp2
          refine bodyPost_ret (results2_18 rfl (q114.a 4 rfl) (q114.a 5 rfl)) rfl ⟨v3, ?_, ?_, d3⟩
          · rw [hN]; rfl
          · rw [hN, Option.getD_some, ints_snoc]; exact o3
        | true =>
          have q108x := q108.a 50 rfl
          rw [hd2] at q108x
          go_upto_region 13 with fail
          refine wp_cond_false (ev q108x rfl) ?_
          clear q108x
          go_upto_region 13 with fail
          refine wp_region_lit ?_
          refine q108.t (.int .i64 ((y + 1 + d : Nat) : Int)) (ex_move rfl (q108.e (j := 9) rfl)) fun _ q109 => ?_;clear q108
          refine q109.t (.int .i64 ((y + 1 + d + 1 : Nat) : Int)) (ex_bin rfl (q109.e (j := 45) rfl) rfl (add1C _ _ (y + 1 + d) (by omega) _)) fun _ q110 => ?_;clear q109
          refine q110.t (.int .i64 ((y + 1 + d + 1 : Nat) : Int)) (ex_assign rfl (q110.e (j := 46) rfl)) fun _ q111 => ?_;clear q110
          have q112 := ((((Rp.nil q111.z).cons (q111.a 1 rfl)).cons (q111.a 6 rfl)).cons (q111.a 9 rfl))
          clear q111
          refine wpList_nil ?_
          exact ⟨_, rfl, by omega, q112, rfl, fun i h1 h2 => by by_cases e : i = y + 1 + d; subst e; exact hd2; exact hY i h1 (by omega)⟩
      · rw [nxF_no (n := j) (O := S) (lo := y + 1) (d := d) (by omega) hY] at hN
        dsimp only at hN
        go_upto_region 12 with fail
        refine wp_region_lit ?_
        refine q100.t (.int .i64 ((y + 1 + d : Nat) : Int)) (ex_move rfl (q100.e (j := 9) rfl)) fun _ q101 => ?_;clear q100
        refine q101.t (.int .i64 ((j : Nat) : Int)) (ex_move rfl (q101.e (j := 1) rfl)) fun _ q102 => ?_;clear q101
        refine q102.t (.bool false) (ex_bin rfl (q102.e (j := 42) rfl) (q102.e (j := 43) rfl) (ltF _ _ hit2 _)) fun _ q103 => ?_;clear q102
        refine wpList_nil ?_
        go_upto_if 44 with fail
        refine wp_cond_false (q103.e (j := 44) rfl) ?_
        have q104 := (((Rp.nil q103.z).cons (q103.a 1 rfl)).cons (q103.a 6 rfl))
        clear q103
        go_wp2
        exact ⟨_, rfl, by omega, S, q104, trivial, by omega, oS, by rw [hN, hS, List.reverse_reverse], fun k hk => hPlt k (by simp [hk])⟩

end Go.Proofs.Ytidfcflcjkbeeaa
