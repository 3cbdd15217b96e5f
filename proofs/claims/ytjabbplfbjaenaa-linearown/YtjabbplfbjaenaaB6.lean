import Derived.ArgAppend
import Derived.Laws.OwnMore
import Derived.Test.YtjabbplfbjaenaaB5
set_option maxRecDepth 100000
set_option linter.unusedVariables false
set_option linter.unusedSimpArgs false
namespace Go.Proofs.Ytjabbplfbjaenaa
open Go.RowKit Go.Maps
open Classical
theorem neqSe (x y : Operand) (a : Int) (w : World) : (do eqGuard .neq 3 x y (.int .i64 a) (.int .i64 a); binOp .neq 3 (.int .i64 a) (.int .i64 a) : Sem Value).run Try.prog w = .ok (.bool false) w := by
  rw [neqC]
  simp
set_option maxHeartbeats 2000000 in
theorem sameInts18 (L : List Int) (a a2 : Option Addr) (c c2 : Nat) (w : World) (h : SlY yN w a L.length c L) (h2 : SlY yN w a2 L.length c2 L) (hbn : L.length ≤ 140737488355328) :
    Calls Try.prog 21 #[.slice a L.length c, .slice a2 L.length c2] w fun e w' => e = .returned (.bool true) ∧ Below w.heap.size w w' := by
  go_enter Try.func21, Try.ntmps21
  go_upto_region 0 with fail
  refine wp_region_lit ?_
  refine vl_gen (fun T => Rp T 26 [(1, gw true (.slice a2 L.length c2)), (0, gw true (.slice a L.length c))]) (((Rp.nil rfl).cons rfl).cons rfl) (fun Z0 q0 => ?_)
  refine q0.t (.bool false) (ex_assign rfl rfl) fun _ q1 => ?_;clear q0
  refine wpList_nil ?_
  go_upto_region 1 with fail
  refine wp_region_lit ?_
  refine q1.t (.slice a L.length c) (ex_move rfl (q1.e (j := 0) rfl)) fun _ q2 => ?_;clear q1
  refine q2.t (.int .i64 (L.length : Int)) (ex_lenN18 rfl rfl (q2.e (j := 6) rfl)) fun _ q3 => ?_;clear q2
  refine q3.t (.slice a2 L.length c2) (ex_move rfl (q3.e (j := 1) rfl)) fun _ q4 => ?_;clear q3
  refine q4.t (.int .i64 (L.length : Int)) (ex_lenN18 rfl rfl (q4.e (j := 8) rfl)) fun _ q5 => ?_;clear q4
  refine q5.t (.bool false) (ex_bin rfl (q5.e (j := 7) rfl) (q5.e (j := 9) rfl) (neqNn _ _ _ _)) fun _ q6 => ?_;clear q5
  refine wpList_nil ?_
  go_upto_region 3 with fail
  refine wp_cond_false (q6.e (j := 10) rfl) ?_
  go_upto_region 3 with fail
  refine wp_region_lit ?_
  refine q6.t (.int .i64 ((0 : Nat) : Int)) (ex_assign rfl rfl) fun _ q7 => ?_;clear q6
  have q8 := ((((Rp.nil q7.z).cons (q7.a 0 rfl)).cons (q7.a 1 rfl)).cons (q7.a 5 rfl))
  clear q7
  refine wpList_nil ?_
  go_upto_region 4 with fail
  refine v_loop 5 L.length (fun j T wr => Rp T 26 [(5, gw true (.int .i64 (j : Int))), (1, gw true (.slice a2 L.length c2)), (0, gw true (.slice a L.length c))] ∧ Hid (Below w.heap.size w wr)) (fun j T w h => h.1.a 5 rfl) ⟨q8, Below.refl _ _⟩ ?_
  clear q8
  intro j T wr hj hh
  obtain ⟨q100, HJ⟩ := hh
  have br := HJ.out
  clear HJ
  by_cases hit : j < L.length
  · obtain ⟨x, hx⟩ : ∃ x, L[j]? = some x := ⟨_, List.getElem?_eq_getElem hit⟩
    obtain ⟨qa, oa, hqa, hqal, hca⟩ := (h.on br (Nat.le_refl _)).nm hx
    obtain ⟨qb, ob, hqb, hqbl, hcb⟩ := (h2.on br (Nat.le_refl _)).nm hx
    go_upto_region 4 with fail
    refine wp_region_lit ?_
    refine q100.t (.int .i64 (j : Int)) (ex_move rfl (q100.e (j := 5) rfl)) fun _ q101 => ?_;clear q100
    refine q101.t (.slice a L.length c) (ex_move rfl (q101.e (j := 0) rfl)) fun _ q102 => ?_;clear q101
    refine q102.t (.int .i64 (L.length : Int)) (ex_lenN18 rfl rfl (q102.e (j := 12) rfl)) fun _ q103 => ?_;clear q102
    refine q103.t (.bool true) (ex_bin rfl (q103.e (j := 11) rfl) (q103.e (j := 13) rfl) (ltT _ _ hit _)) fun _ q104 => ?_;clear q103
    refine wpList_nil ?_
    go_upto_region 6 with fail
    refine wp_cond_true (q104.e (j := 14) rfl) ?_
    go_upto_region 6 with fail
    refine vq_start (C := fun v => Below wr.heap.size wr v) (by kernel_rfl) (by kernel_rfl) (Below.refl _ _).drew ?_
    refine q104.q (.slice a L.length c) (fun v hv => ex_move rfl (q104.e (j := 0) rfl)) fun _ q105 => ?_;clear q104
    refine q105.q (.int .i64 (j : Int)) (fun v hv => ex_move rfl (q105.e (j := 5) rfl)) fun _ q106 => ?_;clear q105
    refine q106.q (.pointer (some ⟨qa, oa + j, none⟩)) (fun v hv => ex_ix rfl (q106.e (j := 17) rfl) (q106.e (j := 18) rfl) (by rw [hqa]; exact ixN18 qa oa L.length c j hit _)) fun _ q107 => ?_;clear q106
    refine q107.q (.int .i64 x) (fun v hv => ex_ld rfl (q107.e (j := 19) rfl) (ldI18 ((hv.cell (p := ⟨qa, oa + j, none⟩) hqal).trans hca))) fun _ q108 => ?_;clear q107
    refine q108.q (.slice a2 L.length c2) (fun v hv => ex_move rfl (q108.e (j := 1) rfl)) fun _ q109 => ?_;clear q108
    refine q109.q (.int .i64 (j : Int)) (fun v hv => ex_move rfl (q109.e (j := 5) rfl)) fun _ q110 => ?_;clear q109
    refine q110.q (.pointer (some ⟨qb, ob + j, none⟩)) (fun v hv => ex_ix rfl (q110.e (j := 21) rfl) (q110.e (j := 22) rfl) (by rw [hqb]; exact ixN18 qb ob L.length c2 j hit _)) fun _ q111 => ?_;clear q110
    refine q111.q (.int .i64 x) (fun v hv => ex_ld rfl (q111.e (j := 23) rfl) (ldI18 ((hv.cell (p := ⟨qb, ob + j, none⟩) hqbl).trans hcb))) fun _ q112 => ?_;clear q111
    refine q112.q (.bool false) (fun v hv => ex_bin rfl (q112.e (j := 20) rfl) (q112.e (j := 24) rfl) (neqSe _ _ x _)) fun _ q113 => ?_;clear q112
    refine vq_nil (fun r1 hr1 => ?_)
    have q114 := (((((Rp.nil q113.z).cons (q113.a 0 rfl)).cons (q113.a 1 rfl)).cons (q113.a 5 rfl)).cons (q113.a 25 rfl))
    clear q113
    go_upto_region 5 with fail
    refine wp_cond_false (q114.e (j := 25) rfl) ?_
    go_upto_region 5 with fail
    refine wp_region_lit ?_
    refine q114.t (.int .i64 (j : Int)) (ex_move rfl (q114.e (j := 5) rfl)) fun _ q115 => ?_;clear q114
    refine q115.t (.int .i64 ((j + 1 : Nat) : Int)) (ex_bin rfl (q115.e (j := 15) rfl) rfl (add1C _ _ j (by omega) _)) fun _ q116 => ?_;clear q115
    refine q116.t (.int .i64 ((j + 1 : Nat) : Int)) (ex_assign rfl (q116.e (j := 16) rfl)) fun _ q117 => ?_;clear q116
    have q118 := ((((Rp.nil q117.z).cons (q117.a 0 rfl)).cons (q117.a 1 rfl)).cons (q117.a 5 rfl))
    clear q117
    refine wpList_nil ?_
    exact ⟨_, rfl, hit, q118, br.trans (hr1.mono br.size)⟩
  · obtain rfl : j = L.length := by omega
    go_upto_region 4 with fail
    refine wp_region_lit ?_
    refine q100.t (.int .i64 (L.length : Int)) (ex_move rfl (q100.e (j := 5) rfl)) fun _ q101 => ?_;clear q100
    refine q101.t (.slice a L.length c) (ex_move rfl (q101.e (j := 0) rfl)) fun _ q102 => ?_;clear q101
    refine q102.t (.int .i64 (L.length : Int)) (ex_lenN18 rfl rfl (q102.e (j := 12) rfl)) fun _ q103 => ?_;clear q102
    refine q103.t (.bool false) (ex_bin rfl (q103.e (j := 11) rfl) (q103.e (j := 13) rfl) (ltF _ _ hit _)) fun _ q104 => ?_;clear q103
    refine wpList_nil ?_
    go_upto_region 8 with fail
    refine wp_cond_false (q104.e (j := 14) rfl) ?_
    go_upto_region 8 with fail
    refine wp_region_lit ?_
    refine q104.t (.bool true) (ex_assign rfl rfl) fun _ q105 => ?_;clear q104
    refine wpList_nil ?_
    go_wp2
    refine bodyPost_ret (results_tmp rfl _ _ _) rfl ⟨?_, br⟩
    rw [getD_of (q105.a 4 rfl)]
    rfl
theorem srK_len (l : List Kl) : ∀ (k : Nat) (D : List Bool) (L : List Cl) (s : List Nat), srK l k D L = some s → s.length ≤ k
  | 0, D, L, s, h => by
    unfold srK at h
    split at h
    · cases h
    · cases h; simp
  | k + 1, D, L, s, h => by
    unfold srK at h
    split at h
    · obtain ⟨q, hq, h2⟩ := List.exists_of_findSome?_eq_some h
      cases hx : l[q]? with
      | none => rw [hx] at h2; cases h2
      | some x =>
        rw [hx, Option.bind_some] at h2
        split at h2
        · cases hs : srK l k (D.set q true) (dnK L x) with
          | none => rw [hs] at h2; cases h2
          | some t =>
            rw [hs] at h2
            cases h2
            have := srK_len l k _ _ t hs
            simp
            omega
        · cases h2
    · cases h; simp
end Go.Proofs.Ytjabbplfbjaenaa
namespace Go.Proofs.Ytjabbplfbjaenaa
open Go.RowKit Go.Maps
open Classical
/-! Regions that draw their order and end in stores over what they read: what only reads is taken first under S; the stores (late) wait for all of it, and behind them S is asked no more. -/
section
variable {P : Program} {ops : Array Oper} {Q : Exit → Act → World → Prop} {md : Region.Mode} {S : World → Prop} {late : Nat → Bool}
def wpAnyG (P : Program) (md : Region.Mode) (ops : Array Oper) (late : Nat → Bool) (Q : Exit → Act → World → Prop) (S : World → Prop) : Nat → Array Bool → Act → World → Prop
  | 0, listed, a, w => Region.ready md ops listed = [] ∧ Q .normal a w
  | fuel + 1, listed, a, w =>
    (Region.ready md ops listed = [] → Q .normal a w) ∧
    ∀ i ∈ Region.ready md ops listed, wpOp P ops Q i (fun a' w' => ((∀ k, late k = true → (listed.setIfInBounds i true).getD k false = false) → S w') ∧ wpAnyG P md ops late Q S fuel (listed.setIfInBounds i true) a' w') a w
theorem wpAny_of_G : ∀ (fuel : Nat) (listed : Array Bool) (a : Act) (w : World), wpAnyG P md ops late Q S fuel listed a w → wpAny P md ops Q fuel listed a w
  | 0, _, _, _, h => h
  | fuel + 1, _, _, _, h => ⟨h.1, fun i hi => wpOp_mono (fun a' w' h' => wpAny_of_G fuel _ a' w' h'.2) (h.2 i hi)⟩
theorem getD_setb {l : Array Bool} {i k : Nat} (h : i ≠ k) (d : Bool) : (l.setIfInBounds i true).getD k d = l.getD k d := by
  simp [Array.getD_eq_getD_getElem?, Array.getElem?_setIfInBounds, h]
theorem wpAnyG_first {i : Nat} {oi : Oper} {v : Value} (hi : ops[i]? = some oi) (hsel : ∀ (j : Nat) (o : Oper) cs b, ops[j]? = some o → o.op ≠ .select cs b)
    (hQ : ∀ c a w, Q (.panic c) (a.put oi.dst v) w → Q (.panic c) a w) (hlate : ∀ k ok, late k = true → ops[k]? = some ok → ∃ e ∈ ok.after, Region.binds md e = true ∧ e.on = i) (hil : late i = false) :
    ∀ (fuel : Nat) (listed : Array Bool) (a : Act) (w : World), (∀ k, late k = true → listed.getD k false = false) →
      (∀ j oj, ops[j]? = some oj → j ≠ i → listed.getD j true = false → (∀ e ∈ oj.after, Region.binds md e = true → e.on ≠ i) → oi.apart ops oj = true) →
      i ∈ Region.ready md ops listed → YieldsIf P ops S oi v a → S w →
      wpAnyG P md ops late Q S fuel (listed.setIfInBounds i true) (a.put oi.dst v) w → wpAnyG P md ops late Q S (fuel + 1) listed a w := by
  intro fuel
  induction fuel with
  | zero =>
    intro listed a w _ _ hr hy hS H
    refine ⟨fun h => (by rw [h] at hr; cases hr), fun j hj => ?_⟩
    by_cases hji : j = i
    · subst hji; exact hy.wpOp hi hS ⟨fun _ => hS, H⟩
    · have := ready_mono hj hji
      rw [H.1] at this
      cases this
  | succ fuel ih =>
    intro listed a w hno hfree hr hy hS H
    refine ⟨fun h => (by rw [h] at hr; cases hr), fun j hj => ?_⟩
    by_cases hji : j = i
    · subst hji; exact hy.wpOp hi hS ⟨fun _ => hS, H⟩
    · have h1 := H.2 j (ready_mono hj hji)
      obtain ⟨hjun, oj, hoj, hall⟩ := mem_ready.1 hj
      have hnot : ∀ e ∈ oj.after, Region.binds md e = true → e.on ≠ i := fun e he hb heq => by
        have h1 := hall e he hb
        have h0 := (mem_ready.1 hr).1
        rw [heq] at h1
        rcases Nat.lt_or_ge i listed.size with h' | h'
        · simp [h'] at h0 h1; rw [h0] at h1; cases h1
        · simp [Array.getElem?_eq_none h'] at h1
      have hjl : late j = false := by
        cases e : late j with
        | false => rfl
        | true =>
          obtain ⟨x, hx, hb, ho⟩ := hlate j oj e hoj
          exact absurd ho (hnot x hx hb)
      have hno2 : ∀ k, late k = true → ((listed.setIfInBounds i true).setIfInBounds j true).getD k false = false := fun k hk => by
        rw [getD_setb (by rintro rfl; rw [hjl] at hk; cases hk), getD_setb (by rintro rfl; rw [hil] at hk; cases hk)]
        exact hno k hk
      have hno3 : ∀ k, late k = true → (listed.setIfInBounds j true).getD k false = false := fun k hk => by
        rw [getD_setb (by rintro rfl; rw [hjl] at hk; cases hk)]
        exact hno k hk
      have h2 := wpOp_putIf hoj (hfree j oj hoj hji hjun hnot) (fun cs b => hsel i oi cs b hi) (fun cs b => hsel j oj cs b hoj) hQ hy h1
      have hfree' : ∀ k ok, ops[k]? = some ok → k ≠ i → (listed.setIfInBounds j true).getD k true = false →
          (∀ e ∈ ok.after, Region.binds md e = true → e.on ≠ i) → oi.apart ops ok = true := fun k ok hk hki hun hno => by
        refine hfree k ok hk hki ?_ hno
        by_cases hjk : j = k
        · subst hjk; exact hjun
        · rw [getD_set_ne true hjk] at hun; exact hun
      refine wpOp_mono (fun a' w' h3 => ⟨fun _ => h3.2.1 hno2, ih (listed.setIfInBounds j true) a' w' hno3 hfree' (ready_mono hr (Ne.symm hji)) h3.1 (h3.2.1 hno2) ?_⟩) h2
      rw [Array.setIfInBounds_comm _ _ hji]
      exact h3.2.2
theorem wpAnyG_firstW {i : Nat} {oi : Oper} {v : Value} (hi : ops[i]? = some oi) (hsel : ∀ (j : Nat) (o : Oper) cs b, ops[j]? = some o → o.op ≠ .select cs b)
    (hQ : ∀ c a w, Q (.panic c) (a.put oi.dst v) w → Q (.panic c) a w) (hil : late i = false) :
    ∀ (fuel : Nat) (listed : Array Bool) (a : Act) (w : World),
      (∀ j oj, ops[j]? = some oj → j ≠ i → listed.getD j true = false → (∀ e ∈ oj.after, Region.binds md e = true → e.on ≠ i) → oi.apart ops oj = true) →
      i ∈ Region.ready md ops listed → YieldsIf P ops (fun _ => True) oi v a → ((∀ k, late k = true → listed.getD k false = false) → S w) →
      wpAnyG P md ops late Q S fuel (listed.setIfInBounds i true) (a.put oi.dst v) w → wpAnyG P md ops late Q S (fuel + 1) listed a w := by
  have hset : ∀ (listed : Array Bool), (∀ k, late k = true → (listed.setIfInBounds i true).getD k false = false) → ∀ k, late k = true → listed.getD k false = false := fun listed h k hk => by
    have := h k hk
    rwa [getD_setb (by rintro rfl; rw [hil] at hk; cases hk)] at this
  intro fuel
  induction fuel with
  | zero =>
    intro listed a w _ hr hy hS H
    refine ⟨fun h => (by rw [h] at hr; cases hr), fun j hj => ?_⟩
    by_cases hji : j = i
    · subst hji; exact hy.wpOp hi trivial ⟨fun h => hS (hset listed h), H⟩
    · have := ready_mono hj hji
      rw [H.1] at this
      cases this
  | succ fuel ih =>
    intro listed a w hfree hr hy hS H
    refine ⟨fun h => (by rw [h] at hr; cases hr), fun j hj => ?_⟩
    by_cases hji : j = i
    · subst hji; exact hy.wpOp hi trivial ⟨fun h => hS (hset listed h), H⟩
    · have h1 := H.2 j (ready_mono hj hji)
      obtain ⟨hjun, oj, hoj, hall⟩ := mem_ready.1 hj
      have hnot : ∀ e ∈ oj.after, Region.binds md e = true → e.on ≠ i := fun e he hb heq => by
        have h1 := hall e he hb
        have h0 := (mem_ready.1 hr).1
        rw [heq] at h1
        rcases Nat.lt_or_ge i listed.size with h' | h'
        · simp [h'] at h0 h1; rw [h0] at h1; cases h1
        · simp [Array.getElem?_eq_none h'] at h1
      have hno : (∀ k, late k = true → (listed.setIfInBounds j true).getD k false = false) → ∀ k, late k = true → ((listed.setIfInBounds i true).setIfInBounds j true).getD k false = false := fun h k hk => by
        rw [Array.setIfInBounds_comm _ _ (Ne.symm hji), getD_setb (by rintro rfl; rw [hil] at hk; cases hk)]
        exact h k hk
      have h2 := wpOp_putIf hoj (hfree j oj hoj hji hjun hnot) (fun cs b => hsel i oi cs b hi) (fun cs b => hsel j oj cs b hoj) hQ hy h1
      have hfree' : ∀ k ok, ops[k]? = some ok → k ≠ i → (listed.setIfInBounds j true).getD k true = false →
          (∀ e ∈ ok.after, Region.binds md e = true → e.on ≠ i) → oi.apart ops ok = true := fun k ok hk hki hun hno => by
        refine hfree k ok hk hki ?_ hno
        by_cases hjk : j = k
        · subst hjk; exact hjun
        · rw [getD_set_ne true hjk] at hun; exact hun
      refine wpOp_mono (fun a' w' h3 => ⟨fun h => h3.2.1 (hno h), ih (listed.setIfInBounds j true) a' w' hfree' (ready_mono hr (Ne.symm hji)) h3.1 (fun h => h3.2.1 (hno h)) ?_⟩) h2
      rw [Array.setIfInBounds_comm _ _ hji]
      exact h3.2.2
end
def waitsB (ops : Array Oper) (late : Nat → Bool) (i : Nat) : Bool := (List.range ops.size).all fun k => !late k || match ops[k]? with
  | none => true
  | some o => o.after.toList.any fun e => Region.binds .any e && e.on == i
def noneB (late : Nat → Bool) (listed : Array Bool) : Bool := (List.range listed.size).all fun k => !late k || !listed.getD k false
theorem noneB_spec {late : Nat → Bool} {listed : Array Bool} (h : noneB late listed = true) (k : Nat) (hk : late k = true) : listed.getD k false = false := by
  by_cases hl : k < listed.size
  · have := List.all_eq_true.1 h k (List.mem_range.2 hl)
    simpa [hk] using this
  · simp [Array.getD_eq_getD_getElem?, Array.getElem?_eq_none (Nat.le_of_not_lt hl)]
theorem waitsB_spec {ops : Array Oper} {late : Nat → Bool} {i : Nat} (h : waitsB ops late i = true) (k : Nat) (ok : Oper) (hk : late k = true) (ho : ops[k]? = some ok) : ∃ e ∈ ok.after, Region.binds .any e = true ∧ e.on = i := by
  have hl : k < ops.size := (Array.getElem?_eq_some_iff.1 ho).1
  have := List.all_eq_true.1 h k (List.mem_range.2 hl)
  simp only [hk, Bool.not_true, Bool.false_or, ho] at this
  obtain ⟨e, he, h2⟩ := List.any_eq_true.1 this
  simp only [Bool.and_eq_true, beq_iff_eq] at h2
  exact ⟨e, by simpa using he, h2.1, h2.2⟩
structure VG (ops : Array Oper) (late : Nat → Bool) (Q : Exit → Act → World → Prop) (S : World → Prop) (fuel : Nat) (listed : Array Bool) (a : Act) (w : World) : Prop where
  out : wpAnyG Try.prog .any ops late (NoPanic Q) S fuel listed a w
theorem vg_start {id : Nat} {Q : Exit → Act → World → Prop} {a : Act} {w : World} {l : List Oper} (late : Nat → Bool) (S : World → Prop) (hm : Try.prog.follows .mixedOrders = true) (h : VG l.toArray late Q S l.length (Array.replicate l.length false) a w.drew) : (Code.region id l.toArray true).wp Try.prog Q a w :=
  wp_region_noPanic (wp_region_any hm (wpAny_of_G _ _ _ _ (by simpa using h.out)))
theorem vg_done {ops : Array Oper} {late : Nat → Bool} {Q : Exit → Act → World → Prop} {S : World → Prop} {fuel : Nat} {listed : Array Bool} {a : Act} {w : World} (hr : Region.ready .any ops listed = []) (h : Q .normal a w) : VG ops late Q S fuel listed a w := by
  cases fuel with
  | zero => exact ⟨hr, NoPanic.normal h⟩
  | succ n => exact ⟨⟨fun _ => NoPanic.normal h, by rw [hr]; simp⟩⟩
theorem vg_take {ops : Array Oper} {late : Nat → Bool} {o : Oper} {T : Array Value} {df : List Deferred} {w : World} {Q : Exit → Act → World → Prop} {S : World → Prop} {fuel d n : Nat} {listed : Array Bool} (i : Nat) (c : Bool) (V : Value) (hi : ops[i]? = some o) (hs : Region.noSelect ops = true) (hf : Region.free .any ops listed i = true) (hr : (Region.ready .any ops listed).contains i = true)
    (hb1 : waitsB ops late i = true) (hb2 : noneB late listed = true) (hb3 : late i = false)
    (hw : Region.wanted o (yielded ops T) = c) (he : c = true → ∀ v, S v → (execOp (⟨T, df⟩ : Act).eval o).run Try.prog v = .ok (.value V) v) (hd : o.dst = some d) (hz : T.size = n) (hn : d < n) (hS : S w)
    (hk : ∀ T' : Array Value, T'.size = n → (∀ j, j ≠ d → T'[j]? = T[j]?) → T'[d]? = some (gw c V) → VG ops late Q S fuel (listed.setIfInBounds i true) ⟨T', df⟩ w) : VG ops late Q S (fuel + 1) listed ⟨T, df⟩ w := by
  cases c with
  | false =>
    refine ⟨wpAnyG_first (v := undef) hi (Region.noSelect_spec hs) (fun _ _ _ h => h) (waitsB_spec hb1) hb3 fuel listed _ w (noneB_spec hb2) (Region.free_spec hi hf) (by simpa using hr) (.inr ⟨hw, rfl⟩) hS ?_⟩
    rw [hd]
    exact (hk (T.setIfInBounds d undef) (by simp [hz]) (fun i hi => at_set_ne _ hi) (at_set _ (by omega))).out
  | true =>
    refine ⟨wpAnyG_first (v := V) hi (Region.noSelect_spec hs) (fun _ _ _ h => h) (waitsB_spec hb1) hb3 fuel listed _ w (noneB_spec hb2) (Region.free_spec hi hf) (by simpa using hr) (.inl ⟨hw, he rfl⟩) hS ?_⟩
    rw [hd]
    exact (hk (T.setIfInBounds d V) (by simp [hz]) (fun i hi => at_set_ne _ hi) (at_set _ (by omega))).out
theorem vg_takeW {ops : Array Oper} {late : Nat → Bool} {o : Oper} {T : Array Value} {df : List Deferred} {w : World} {Q : Exit → Act → World → Prop} {S : World → Prop} {fuel d n : Nat} {listed : Array Bool} (i : Nat) (c : Bool) (V : Value) (hi : ops[i]? = some o) (hs : Region.noSelect ops = true) (hf : Region.free .any ops listed i = true) (hr : (Region.ready .any ops listed).contains i = true) (hb3 : late i = false)
    (hw : Region.wanted o (yielded ops T) = c) (he : c = true → ∀ v, (execOp (⟨T, df⟩ : Act).eval o).run Try.prog v = .ok (.value V) v) (hd : o.dst = some d) (hz : T.size = n) (hn : d < n) (hS : (∀ k, late k = true → listed.getD k false = false) → S w)
    (hk : ∀ T' : Array Value, T'.size = n → (∀ j, j ≠ d → T'[j]? = T[j]?) → T'[d]? = some (gw c V) → VG ops late Q S fuel (listed.setIfInBounds i true) ⟨T', df⟩ w) : VG ops late Q S (fuel + 1) listed ⟨T, df⟩ w := by
  cases c with
  | false =>
    refine ⟨wpAnyG_firstW (v := undef) hi (Region.noSelect_spec hs) (fun _ _ _ h => h) hb3 fuel listed _ w (Region.free_spec hi hf) (by simpa using hr) (.inr ⟨hw, rfl⟩) hS ?_⟩
    rw [hd]
    exact (hk (T.setIfInBounds d undef) (by simp [hz]) (fun i hi => at_set_ne _ hi) (at_set _ (by omega))).out
  | true =>
    refine ⟨wpAnyG_firstW (v := V) hi (Region.noSelect_spec hs) (fun _ _ _ h => h) hb3 fuel listed _ w (Region.free_spec hi hf) (by simpa using hr) (.inl ⟨hw, fun v _ => he rfl v⟩) hS ?_⟩
    rw [hd]
    exact (hk (T.setIfInBounds d V) (by simp [hz]) (fun i hi => at_set_ne _ hi) (at_set _ (by omega))).out
theorem wpAnyG_all {ops : Array Oper} {late : Nat → Bool} {Q : Exit → Act → World → Prop} {S : World → Prop} {rs : List Nat} {fuel : Nat} {listed : Array Bool} {a : Act} {w : World} (hr : Region.ready .any ops listed = rs) (hne : rs ≠ [])
    (h : ∀ i ∈ rs, wpOp Try.prog ops Q i (fun a' w' => ((∀ k, late k = true → (listed.setIfInBounds i true).getD k false = false) → S w') ∧ wpAnyG Try.prog .any ops late Q S fuel (listed.setIfInBounds i true) a' w') a w) : wpAnyG Try.prog .any ops late Q S (fuel + 1) listed a w :=
  ⟨fun h0 => absurd (hr ▸ h0) hne, hr ▸ h⟩
theorem vg_call {ops : Array Oper} {late : Nat → Bool} {o : Oper} {T : Array Value} {df : List Deferred} {w : World} {Q : Exit → Act → World → Prop} {S : World → Prop} {fuel d n : Nat} {listed : Array Bool} (i : Nat) {fid : FuncId} {args : Array Value} {R : Ending → World → Prop} (hi : ops[i]? = some o) (hr : Region.ready .any ops listed = [i])
    (hw : Region.wanted o (yielded ops T) = true) (he : (execOp (⟨T, df⟩ : Act).eval o).run Try.prog w = .ok (.enter fid args) w) (hc : Calls Try.prog fid args w R) (hd : o.dst = some d) (hz : T.size = n) (hn : d < n)
    (hk : ∀ (e : Ending) (w' : World), R e w' → ∃ V, e = .returned V ∧ S w' ∧ ∀ T' : Array Value, T'.size = n → (∀ j, j ≠ d → T'[j]? = T[j]?) → T'[d]? = some (gw true V) → VG ops late Q S fuel (listed.setIfInBounds i true) ⟨T', df⟩ w') : VG ops late Q S (fuel + 1) listed ⟨T, df⟩ w := by
  refine ⟨wpAnyG_all hr (by simp) (fun j hj => ?_)⟩
  obtain rfl : j = i := by simpa using hj
  unfold wpOp
  rw [hi]
  simp only [hw, if_true]
  refine .inl ?_
  unfold Oper.wp
  rw [he, Oper.upon_enter]
  refine hc.mono ?_
  intro e w' hR
  obtain ⟨V, rfl, hS, hk'⟩ := hk e w' hR
  refine ⟨fun _ => hS, ?_⟩
  rw [hd]
  exact (hk' (T.setIfInBounds d V) (by simp [hz]) (fun i hi => at_set_ne _ hi) (at_set _ (by omega))).out
theorem vg_store {ops : Array Oper} {late : Nat → Bool} {o : Oper} {T : Array Value} {df : List Deferred} {w : World} {Q : Exit → Act → World → Prop} {S : World → Prop} {fuel : Nat} {listed : Array Bool} (i : Nat) (w' : World) (hi : ops[i]? = some o) (hr : Region.ready .any ops listed = [i])
    (hl : (late i && decide (i < listed.size)) = true) (hw : Region.wanted o (yielded ops T) = true) (he : (execOp (⟨T, df⟩ : Act).eval o).run Try.prog w = .ok .skip w') (hd : o.dst = none)
    (hk : VG ops late Q S fuel (listed.setIfInBounds i true) ⟨T, df⟩ w') : VG ops late Q S (fuel + 1) listed ⟨T, df⟩ w := by
  refine ⟨wpAnyG_all hr (by simp) (fun j hj => ?_)⟩
  obtain rfl : j = i := by simpa using hj
  unfold wpOp
  rw [hi]
  simp only [hw, if_true]
  refine .inl ?_
  unfold Oper.wp
  rw [he, Oper.upon_skip]
  have hl2 : late j = true ∧ j < listed.size := by simpa using hl
  refine ⟨fun h => ?_, ?_⟩
  · have := h j hl2.1
    simp [Array.getD_eq_getD_getElem?, Array.getElem?_setIfInBounds, hl2.2] at this
  rw [hd]
  exact hk.out
end Go.Proofs.Ytjabbplfbjaenaa
namespace Go.Proofs.Ytjabbplfbjaenaa
open Go.RowKit Go.Maps
open Classical
def zN : Lay (SV Int) := yS Int 35 57
theorem kzN : zN.Ok := kS Try.underlying57 (by kernel_rfl)
def nilS : Value := .slice none 0 0
theorem ldNN {w : World} {q o : Nat} {a : Option Addr} {n c : Nat} (h : w.cell? ⟨q, o, none⟩ = some (.slice a n c)) : (Instr.loadAt 57 (.pointer (some ⟨q, o, none⟩))).run Try.prog w = .ok (.slice a n c) w := by go_simp
theorem ldN1 {w : World} {q o : Nat} {a : Option Addr} {n c : Nat} (h : w.cell? ⟨q, o, none⟩ = some (.slice a n c)) : (Instr.loadAt 35 (.pointer (some ⟨q, o, none⟩))).run Try.prog w = .ok (.slice a n c) w := by go_simp
theorem bsNN (a : Option Addr) (n c : Nat) (w : World) : (Instr.buildSlice 57 1 #[(0, .slice a n c)]).run Try.prog w = .ok (.slice (some ⟨w.heap.size, 0, none⟩) 1 1) (w.alloc (.cells #[.slice a n c] 35)) := by go_simp
theorem ixNN (q o n c j : Nat) (hj : j < n) (w : World) : (Instr.indexAt 57 (.slice (some ⟨q, o, none⟩) n c) (.int .i64 (j : Int))).run Try.prog w = .ok (.pointer (some ⟨q, o + j, none⟩)) w := by
  have h1 : (j : Int) < (n : Int) := by omega
  go_simp
/-! A book of ints. -/
theorem hN_NN : yN.T ≠ zN.T := by decide
theorem gupd63 {w w' : World} {row : Option Nat} (h : w.grownBy w' row) : Upd (fun k => row = some k) w w' :=
  ⟨h.os, h.tape, h.output, h.size, fun k hk hs => h.block k hk (fun e => hs e.symm)⟩
theorem ldN63 {w : World} {q o : Nat} {K : List (SV Int)} (h : LieY zN w q o K) {j : Nat} {x : SV Int} (hx : K[j]? = some x) : (Instr.loadAt 35 (.pointer (some ⟨q, o + j, none⟩))).run Try.prog w = .ok (.slice x.a x.D.length x.c) w := by
  refine ldN1 ?_
  have := h j x hx 0 (.slice x.a x.D.length x.c) rfl
  simpa [zN, yS] using this
theorem ldE63 {w : World} {q o : Nat} {l : List Int} (h : LieY yN w q o l) {j : Nat} {x : Int} (hx : l[j]? = some x) : (Instr.loadAt 3 (.pointer (some ⟨q, o + j, none⟩))).run Try.prog w = .ok (.int .i64 x) w := by
  refine ldI18 ?_
  have := h j x hx 0 (.int .i64 x) rfl
  simpa [yN] using this
theorem run_stN63 (w : World) (B g n c : Nat) (l : List Int) (i : Nat) (z : Int) (hlt : i < l.length) (h : OwnY yN B w (.slice (some ⟨g, 0, none⟩) n c) l) :
    ∃ w', (Instr.storeAt 3 (.pointer (some ⟨g, i, none⟩)) (.int .i64 z)).run Try.prog w = .ok () w' ∧ OwnY yN B w' (.slice (some ⟨g, 0, none⟩) n c) (l.set i z) ∧ Upd (fun b => b = g) w w' ∧ w'.heap.size = w.heap.size := by
  obtain ⟨x, hx⟩ : ∃ x, l[i]? = some x := ⟨_, List.getElem?_eq_getElem hlt⟩
  have e : i * yN.k + 0 = i := by show i * 1 + 0 = i; omega
  have hc := h.cell kN i x hx 0 (.int .i64 x) rfl
  rw [e] at hc
  have h2 := h.set1 kN hx z 0 (.int .i64 z) (by decide) rfl
  rw [e] at h2
  exact ⟨_, stI18 hc (h.free i), h2, (Upd.refl (fun b => b = g) w).setCell (p := ⟨g, i, none⟩) (.inl rfl) _, by simp [World.setCell]⟩
theorem bsI63 (x : Int) (w : World) : (Instr.buildSlice 35 1 #[(0, .int .i64 x)]).run Try.prog w = .ok (.slice (some ⟨w.heap.size, 0, none⟩) 1 1) (w.alloc (.cells (yN.cs x).toArray 3)) := bsN x w
theorem bsZ63 (x : SV Int) (w : World) : (Instr.buildSlice 57 1 #[(0, .slice x.a x.D.length x.c)]).run Try.prog w = .ok (.slice (some ⟨w.heap.size, 0, none⟩) 1 1) (w.alloc (.cells (zN.cs x).toArray 35)) := bsNN _ _ _ w
theorem faBk63 (b : Nat) (w : World) : (Instr.fieldAt 67 (.pointer (some ⟨b, 0, none⟩)) 1).run Try.prog w = .ok (.pointer (some ⟨b, 1, none⟩)) w := by go_simp
def mkJ63 (i k : Nat) : Int := -1 - 100003 * ((i : Int) + 1) - 7 * (k : Int)
theorem markint63 (i k : Nat) (hi : i ≤ 1000) (hk : k ≤ 2000) (w : World) : Calls Try.prog 68 #[.int .i64 (i : Int), .int .i64 (k : Int)] w fun e w' => e = .returned (.int .i64 (mkJ63 i k)) ∧ w' = w := by
  have h1 : IntKind.i64.wrap ((i : Int) + 1) = (i : Int) + 1 := by rw [IntKind.wrap_i64]; omega
  have h2 : IntKind.i64.wrap (100003 * ((i : Int) + 1)) = 100003 * ((i : Int) + 1) := by rw [IntKind.wrap_i64]; omega
  have h3 : IntKind.i64.wrap (-1 - 100003 * ((i : Int) + 1)) = -1 - 100003 * ((i : Int) + 1) := by rw [IntKind.wrap_i64]; omega
  have h4 : IntKind.i64.wrap (7 * (k : Int)) = 7 * (k : Int) := by rw [IntKind.wrap_i64]; omega
  have h5 : IntKind.i64.wrap (-1 - 100003 * ((i : Int) + 1) - 7 * (k : Int)) = -1 - 100003 * ((i : Int) + 1) - 7 * (k : Int) := by rw [IntKind.wrap_i64]; omega
  go_enter Try.func68, Try.ntmps68
  go_wp2
  go_ret
  exact ⟨rfl, rfl⟩
theorem neF63 (x y : Operand) (a : Int) (w : World) : (do eqGuard .neq 3 x y (.int .i64 a) (.int .i64 a); binOp .neq 3 (.int .i64 a) (.int .i64 a) : Sem Value).run Try.prog w = .ok (.bool false) w := by
  have := neqC x y a a w
  rw [decide_eq_true rfl] at this
  exact this
theorem ex_lenZ63 {o : Oper} {ρ : Operand → Value} {i : Nat} {a : Option Addr} {n k : Nat} {w : World} (ho : o.op = .call { callee := .builtin .len, args := #[.tmp i], argTypes := #[57] }) (ht : o.type = 3) (hx : ρ (.tmp i) = .slice a n k) : (execOp ρ o).run Try.prog w = .ok (.value (.int .i64 (n : Int))) w := by
  unfold execOp
  simp only [ho, resolve, invoke, builtin, Sem.run_bind, Sem.run_pure, Result.andThen_ok, List.map_toArray, List.map_cons, List.map_nil, hx, ht]
  go_simp
theorem run_appZ {α : Type} {Y : Lay α} (K : Y.Ok) (w : World) (ty : TypeId) (B : Nat) (l : List α) (v : Value) (ad : Option Addr) (m c : Nat) (news : List α) (hh : SlY Y w ad m c news) (hown : OwnY Y B w v l) (hB : B ≤ w.heap.size) (hm : l.length + m ≤ maxLen) (hb : (l.length + m) * Y.by_ ≤ 140737488355328) :
    ∃ v' w', (Builtin.append_ #[Y.ST, Y.ST] ty #[v, .slice ad m c]).run Try.prog w = .ok v' w' ∧ OwnY Y B w' v' (l ++ news) ∧ w.grownBy w' v.ownBlock ∧ (v'.ownBlock = v.ownBlock ∨ ((∃ k, v'.ownBlock = some k ∧ w.heap.size ≤ k) ∧ w.grownBy w' none)) := by
  obtain ⟨v', w', hr, h2, h3, h4⟩ := run_appY K w ty B l v ad m c news hh hown hB hm hb
  refine ⟨v', w', hr, h2, h3, ?_⟩
  rcases h4 with h4 | ⟨k, hk, hk2⟩
  · exact .inl h4
  · refine .inr ⟨⟨k, hk, hk2⟩, ?_⟩
    obtain ⟨zv, hinfo, hzc⟩ := K.info
    obtain ⟨i0, hi, hz0, hz1, hz2⟩ := info_parts hinfo
    have hzs : zv.cells.size = Y.k := by rw [hzc, List.size_toArray, K.len]
    rcases hown.2 with ⟨rfl, hn⟩ | ⟨g, cap, cur, rfl, hbg, hg, hnc, hcm, hcs, htake⟩
    · exact h3
    · have hgl := (Array.getElem?_eq_some_iff.1 hg).1
      cases ad with
      | none =>
        obtain ⟨rfl, rfl⟩ := hh.nil rfl
        have hr2 := run_append_owned_none (P := Try.prog) (w := w) B Y.ST ty Y.T i0 Y.k K.und hi _ l.length (fl Y l) hown
        rw [hr] at hr2
        cases hr2
        cases hk
        have hk3 : w.heap.size ≤ g := hk2
        omega
      | some y =>
        have hnews : ∀ j u, (fl Y news)[j]? = some u → w.cell? (y.add j) = some u := fun j u hu => by
          rcases hh.at_ y rfl with e | ⟨q, o, rfl, _, hl⟩
          · subst e; cases hu
          · rw [Addr.add_lit]; exact hl.flat K j u hu
        have hlen : (fl Y news).length = m * Y.k := by rw [fl_length K, hh.len]
        by_cases hroom : l.length + m ≤ cap
        · have hfit : l.length * i0.size + (fl Y news).length ≤ cur.size := by rw [hcs, hz1, hlen, ← Nat.add_mul]; exact Nat.mul_le_mul_right _ hroom
          have hr2 := run_append_room (P := Try.prog) w Y.ST ty Y.T i0 K.und hi g l.length cap cur hg y m c (fl Y news) (by rw [hz1]; exact hlen) hnews (fl_one K news) hroom hfit
          rw [hr] at hr2
          cases hr2
          cases hk
          have hk3 : w.heap.size ≤ g := hk2
          omega
        · have holds : ∀ j u, (fl Y l)[j]? = some u → w.cell? ((⟨g, 0, none⟩ : Addr).add j) = some u := World.ownsRow.cells hown (g := g) rfl
          obtain ⟨v2, w2, hr2, _, h6⟩ := run_append_arg_grows (P := Try.prog) w Y.ST ty Y.T i0 zv Y.k Y.by_ K.und hi hz0 hz1 hz2 hzs K.kp ⟨g, 0, none⟩ l.length cap (fl Y l) (fl_length K l) holds y m c (fl Y news) hlen hnews (by omega) hm hb
          rw [hr] at hr2
          cases hr2
          exact h6
def mrk (i m : Nat) : List Int := (List.range m).map (mkJ63 i)
theorem mrk_len (i m : Nat) : (mrk i m).length = m := by rw [mrk, List.length_map, List.length_range]
theorem mrk_get {i m k : Nat} (h : k < m) : (mrk i m)[k]? = some (mkJ63 i k) := by
  rw [mrk, List.getElem?_map, List.getElem?_range h]
  rfl
theorem mrk_succ (i m : Nat) : mrk i m ++ [mkJ63 i m] = mrk i (m + 1) := by
  rw [mrk, mrk, List.range_succ, List.map_append]
  rfl
theorem mrk_pre (i m r : Nat) : ∃ F, mrk i (m + r) = mrk i m ++ F := by
  refine ⟨((List.range r).map (m + ·)).map (mkJ63 i), ?_⟩
  rw [mrk, mrk, List.range_add, List.map_append]
theorem mrk_set {i k : Nat} {D : List Int} (h : k < D.length) : (mrk i k ++ D.drop k).set k (mkJ63 i k) = mrk i (k + 1) ++ D.drop (k + 1) := by
  rw [List.set_append_right (h := by rw [mrk_len]; omega), mrk_len, Nat.sub_self, ← mrk_succ, List.append_assoc, List.drop_eq_getElem_cons h]
  rfl
theorem sv_len {B : Nat} {w : World} {x : SV Int} {D : List Int} (h : OwnY yN B w x.v D) : D.length = x.D.length := by
  obtain ⟨a, c, e, _⟩ := h.form
  injection e with _ e2 _
  exact e2.symm
theorem sv_place {B : Nat} {w : World} {x : SV Int} {D : List Int} (h : OwnY yN B w x.v D) (h0 : 0 < x.D.length) : ∃ g, x.a = some ⟨g, 0, none⟩ ∧ x.v.ownBlock = some g ∧ B ≤ g ∧ g < w.heap.size := by
  have hl := sv_len h
  obtain ⟨a, c, e, _, _, h3, h4⟩ := h.form
  injection e with e1 _ _
  cases ha : a with
  | none =>
    have := (h3 ha).1
    rw [this] at hl
    simp at hl
    omega
  | some z =>
    obtain ⟨g, rfl, h5, h6⟩ := h4 z ha
    rw [ha] at e1
    exact ⟨g, e1, by unfold SV.v; rw [e1]; rfl, h5, h6⟩
theorem sv_blk {B : Nat} {w : World} {x : SV Int} {D : List Int} (h : OwnY yN B w x.v D) {z : Addr} (hz : x.a = some z) : x.v.ownBlock = some z.block ∧ z.block < w.heap.size := by
  obtain ⟨a, c, e, _, _, _, h4⟩ := h.form
  injection e with e1 _ _
  obtain ⟨g, hg, _, h5⟩ := h4 z (by rw [← e1]; exact hz)
  unfold SV.v
  rw [hz, hg]
  exact ⟨rfl, h5⟩
theorem keepZ {B S0 : Nat} {w w' : World} {x : SV Int} {D F : List Int} {v v' : Value} (hxb : ∀ b, x.v.ownBlock = some b → b < S0) (hxa : ∀ z, x.a = some z → ∃ g, z = ⟨g, 0, none⟩) (hs : SlY yN w x.a x.D.length x.c D) (hv : v.ownBlock = x.v.ownBlock ∨ ∀ b, v.ownBlock = some b → S0 ≤ b) (g : w.grownBy w' v.ownBlock) (o : OwnY yN B w' v' (D ++ F))
    (h4 : v'.ownBlock = v.ownBlock ∨ ((∃ k, v'.ownBlock = some k ∧ w.heap.size ≤ k) ∧ w.grownBy w' none)) (hS : S0 ≤ w.heap.size) :
    SlY yN w' x.a x.D.length x.c D ∧ (v'.ownBlock = x.v.ownBlock ∨ ∀ b, v'.ownBlock = some b → S0 ≤ b) := by
  have ob : ∀ y, x.a = some y → x.v.ownBlock = some y.block := fun y hy => by
    obtain ⟨q, rfl⟩ := hxa y hy
    unfold SV.v
    rw [hy]
    rfl
  rcases h4 with h4 | ⟨⟨k, hk, hk2⟩, g0⟩
  · rw [h4]
    refine ⟨?_, hv⟩
    rcases hv with hv | hv
    · refine ⟨hs.len, hs.cap, hs.max, hs.nil, fun y hy => ?_⟩
      have e1 := ob y hy
      obtain ⟨q, rfl⟩ := hxa y hy
      have e2 : v'.ownBlock = some q := h4.trans (hv.trans e1)
      obtain ⟨a, c, rfl, _, _, _, h6⟩ := o.form
      cases ha : a with
      | none => rw [ha] at e2; cases e2
      | some z =>
        obtain ⟨q2, rfl, _, hlt⟩ := h6 z ha
        rw [ha] at e2 o
        have e3 : q2 = q := by injection e2
        subst e3
        exact .inr ⟨q2, 0, rfl, hlt, fun i y hy j u hu => by
          rw [Nat.zero_add]
          exact o.cell kN i y (by rw [List.getElem?_append_left (List.getElem?_eq_some_iff.1 hy).1]; exact hy) j u hu⟩
    · exact hs.upd (gupd63 g) (fun y hy _ hh => by
        have := hxb _ (ob y hy)
        have := hv _ hh
        omega)
  · exact ⟨hs.upd (gupd63 g0) (fun y hy _ hh => by cases hh), .inr (fun b hb => by rw [hk] at hb; cases hb; omega)⟩
end Go.Proofs.Ytjabbplfbjaenaa
namespace Go.Proofs.Ytjabbplfbjaenaa
open Go.RowKit Go.Maps
open Classical
/-! A region that draws its order, whatever it does: each operation by itself, in whatever frame and world, from what those tell that it waits for; behind all of them what each tells holds. -/
theorem Upd.tr20 {S R : Nat → Prop} {a b c : World} (h : Upd S a b) (k : Upd R b c) (hs : ∀ i, i < a.heap.size → R i → S i) : Upd S a c :=
  ⟨k.os.trans h.os, k.tape.trans h.tape, k.output.trans h.output, Nat.le_trans h.size k.size, fun i hi hn => (k.block i (Nat.lt_of_lt_of_le hi h.size) (fun hr => hn (hs i hi hr))).trans (h.block i hi hn)⟩
section
variable {l : List Oper} {n : Nat} {B : Array Value → World → Prop} {P C : Nat → Array Value → World → Prop} {E : Nat → Array Value → Nat → Prop} {sl slC : Nat → List Nat} {slB : List Nat} {u : Nat → Nat → Bool} {al : Nat → Bool} {Q : Exit → Act → World → Prop} {df : List Deferred}
end
end Go.Proofs.Ytjabbplfbjaenaa
