import Derived.Deep.MidRow
import Derived.RangeFuncRecord
import Derived.Laws.IdiomCopy
import Derived.Test.YtfafhlahbhopaaaE0
set_option maxRecDepth 100000
set_option linter.unusedVariables false
set_option linter.unusedSimpArgs false
namespace Go.Proofs.Ytfafhlahbhopaaa
open Go.RowKit Go.Maps
open Classical
/-! Regions that draw their order and end in stores over what they read: what only reads is taken first under S; the stores (late) wait for all of it, and behind them S is asked no more. -/
section
variable {P : Program} {ops : Array Oper} {Q : Exit → Act → World → Prop} {md : Region.Mode} {S : World → Prop} {late : Nat → Bool}
def wpAnyG (P : Program) (md : Region.Mode) (ops : Array Oper) (late : Nat → Bool) (Q : Exit → Act → World → Prop) (S : World → Prop) : Nat → Array Bool → Act → World → Prop
  | 0, listed, a, w => Region.ready md ops listed = [] ∧ Q .normal a w
  | fuel + 1, listed, a, w =>
    (Region.ready md ops listed = [] → Q .normal a w) ∧
    ∀ i ∈ Region.ready md ops listed, wpOp P ops Q i (fun a' w' => ((∀ k, late k = true → (listed.setIfInBounds i true).getD k false = false) → S w') ∧ wpAnyG P md ops late Q S fuel (listed.setIfInBounds i true) a' w') a w
theorem wpAny_of_G : ∀ (fuel : Nat) (listed : Array Bool) (a : Act) (w : World), wpAnyG P md ops late Q S fuel listed a w → wpAny P md ops Q fuel listed a w
  | 0, _, _, _, h => h
  | fuel + 1, _, _, _, h => ⟨h.1, fun i hi => wpOp_mono (fun a' w' h' => wpAny_of_G fuel _ a' w' h'.2) (h.2 i hi)⟩
theorem getD_setb {l : Array Bool} {i k : Nat} (h : i ≠ k) (d : Bool) : (l.setIfInBounds i true).getD k d = l.getD k d := by
  simp [Array.getD_eq_getD_getElem?, Array.getElem?_setIfInBounds, h]
theorem wpAnyG_first {i : Nat} {oi : Oper} {v : Value} (hi : ops[i]? = some oi) (hsel : ∀ (j : Nat) (o : Oper) cs b, ops[j]? = some o → o.op ≠ .select cs b)
    (hQ : ∀ c a w, Q (.panic c) (a.put oi.dst v) w → Q (.panic c) a w) (hlate : ∀ k ok, late k = true → ops[k]? = some ok → ∃ e ∈ ok.after, Region.binds md e = true ∧ e.on = i) (hil : late i = false) :
    ∀ (fuel : Nat) (listed : Array Bool) (a : Act) (w : World), (∀ k, late k = true → listed.getD k false = false) →
      (∀ j oj, ops[j]? = some oj → j ≠ i → listed.getD j true = false → (∀ e ∈ oj.after, Region.binds md e = true → e.on ≠ i) → oi.apart ops oj = true) →
      i ∈ Region.ready md ops listed → YieldsIf P ops S oi v a → S w →
      wpAnyG P md ops late Q S fuel (listed.setIfInBounds i true) (a.put oi.dst v) w → wpAnyG P md ops late Q S (fuel + 1) listed a w := by
  intro fuel
  induction fuel with
  | zero =>
    intro listed a w _ _ hr hy hS H
    refine ⟨fun h => (by rw [h] at hr; cases hr), fun j hj => ?_⟩
    by_cases hji : j = i
    · subst hji; exact hy.wpOp hi hS ⟨fun _ => hS, H⟩
    · have := ready_mono hj hji
      rw [H.1] at this
      cases this
  | succ fuel ih =>
    intro listed a w hno hfree hr hy hS H
    refine ⟨fun h => (by rw [h] at hr; cases hr), fun j hj => ?_⟩
    by_cases hji : j = i
    · subst hji; exact hy.wpOp hi hS ⟨fun _ => hS, H⟩
    · have h1 := H.2 j (ready_mono hj hji)
      obtain ⟨hjun, oj, hoj, hall⟩ := mem_ready.1 hj
      have hnot : ∀ e ∈ oj.after, Region.binds md e = true → e.on ≠ i := fun e he hb heq => by
        have h1 := hall e he hb
        have h0 := (mem_ready.1 hr).1
        rw [heq] at h1
        rcases Nat.lt_or_ge i listed.size with h' | h'
        · simp [h'] at h0 h1; rw [h0] at h1; cases h1
        · simp [Array.getElem?_eq_none h'] at h1
      have hjl : late j = false := by
        cases e : late j with
        | false => rfl
        | true =>
          obtain ⟨x, hx, hb, ho⟩ := hlate j oj e hoj
          exact absurd ho (hnot x hx hb)
      have hno2 : ∀ k, late k = true → ((listed.setIfInBounds i true).setIfInBounds j true).getD k false = false := fun k hk => by
        rw [getD_setb (by rintro rfl; rw [hjl] at hk; cases hk), getD_setb (by rintro rfl; rw [hil] at hk; cases hk)]
        exact hno k hk
      have hno3 : ∀ k, late k = true → (listed.setIfInBounds j true).getD k false = false := fun k hk => by
        rw [getD_setb (by rintro rfl; rw [hjl] at hk; cases hk)]
        exact hno k hk
      have h2 := wpOp_putIf hoj (hfree j oj hoj hji hjun hnot) (fun cs b => hsel i oi cs b hi) (fun cs b => hsel j oj cs b hoj) hQ hy h1
      have hfree' : ∀ k ok, ops[k]? = some ok → k ≠ i → (listed.setIfInBounds j true).getD k true = false →
          (∀ e ∈ ok.after, Region.binds md e = true → e.on ≠ i) → oi.apart ops ok = true := fun k ok hk hki hun hno => by
        refine hfree k ok hk hki ?_ hno
        by_cases hjk : j = k
        · subst hjk; exact hjun
        · rw [getD_set_ne true hjk] at hun; exact hun
      refine wpOp_mono (fun a' w' h3 => ⟨fun _ => h3.2.1 hno2, ih (listed.setIfInBounds j true) a' w' hno3 hfree' (ready_mono hr (Ne.symm hji)) h3.1 (h3.2.1 hno2) ?_⟩) h2
      rw [Array.setIfInBounds_comm _ _ hji]
      exact h3.2.2
theorem wpAnyG_firstW {i : Nat} {oi : Oper} {v : Value} (hi : ops[i]? = some oi) (hsel : ∀ (j : Nat) (o : Oper) cs b, ops[j]? = some o → o.op ≠ .select cs b)
    (hQ : ∀ c a w, Q (.panic c) (a.put oi.dst v) w → Q (.panic c) a w) (hil : late i = false) :
    ∀ (fuel : Nat) (listed : Array Bool) (a : Act) (w : World),
      (∀ j oj, ops[j]? = some oj → j ≠ i → listed.getD j true = false → (∀ e ∈ oj.after, Region.binds md e = true → e.on ≠ i) → oi.apart ops oj = true) →
      i ∈ Region.ready md ops listed → YieldsIf P ops (fun _ => True) oi v a → ((∀ k, late k = true → listed.getD k false = false) → S w) →
      wpAnyG P md ops late Q S fuel (listed.setIfInBounds i true) (a.put oi.dst v) w → wpAnyG P md ops late Q S (fuel + 1) listed a w := by
  have hset : ∀ (listed : Array Bool), (∀ k, late k = true → (listed.setIfInBounds i true).getD k false = false) → ∀ k, late k = true → listed.getD k false = false := fun listed h k hk => by
    have := h k hk
    rwa [getD_setb (by rintro rfl; rw [hil] at hk; cases hk)] at this
  intro fuel
  induction fuel with
  | zero =>
    intro listed a w _ hr hy hS H
    refine ⟨fun h => (by rw [h] at hr; cases hr), fun j hj => ?_⟩
    by_cases hji : j = i
    · subst hji; exact hy.wpOp hi trivial ⟨fun h => hS (hset listed h), H⟩
    · have := ready_mono hj hji
      rw [H.1] at this
      cases this
  | succ fuel ih =>
    intro listed a w hfree hr hy hS H
    refine ⟨fun h => (by rw [h] at hr; cases hr), fun j hj => ?_⟩
    by_cases hji : j = i
    · subst hji; exact hy.wpOp hi trivial ⟨fun h => hS (hset listed h), H⟩
    · have h1 := H.2 j (ready_mono hj hji)
      obtain ⟨hjun, oj, hoj, hall⟩ := mem_ready.1 hj
      have hnot : ∀ e ∈ oj.after, Region.binds md e = true → e.on ≠ i := fun e he hb heq => by
        have h1 := hall e he hb
        have h0 := (mem_ready.1 hr).1
        rw [heq] at h1
        rcases Nat.lt_or_ge i listed.size with h' | h'
        · simp [h'] at h0 h1; rw [h0] at h1; cases h1
        · simp [Array.getElem?_eq_none h'] at h1
      have hno : (∀ k, late k = true → (listed.setIfInBounds j true).getD k false = false) → ∀ k, late k = true → ((listed.setIfInBounds i true).setIfInBounds j true).getD k false = false := fun h k hk => by
        rw [Array.setIfInBounds_comm _ _ (Ne.symm hji), getD_setb (by rintro rfl; rw [hil] at hk; cases hk)]
        exact h k hk
      have h2 := wpOp_putIf hoj (hfree j oj hoj hji hjun hnot) (fun cs b => hsel i oi cs b hi) (fun cs b => hsel j oj cs b hoj) hQ hy h1
      have hfree' : ∀ k ok, ops[k]? = some ok → k ≠ i → (listed.setIfInBounds j true).getD k true = false →
          (∀ e ∈ ok.after, Region.binds md e = true → e.on ≠ i) → oi.apart ops ok = true := fun k ok hk hki hun hno => by
        refine hfree k ok hk hki ?_ hno
        by_cases hjk : j = k
        · subst hjk; exact hjun
        · rw [getD_set_ne true hjk] at hun; exact hun
      refine wpOp_mono (fun a' w' h3 => ⟨fun h => h3.2.1 (hno h), ih (listed.setIfInBounds j true) a' w' hfree' (ready_mono hr (Ne.symm hji)) h3.1 (fun h => h3.2.1 (hno h)) ?_⟩) h2
      rw [Array.setIfInBounds_comm _ _ hji]
      exact h3.2.2
end
def waitsB (ops : Array Oper) (late : Nat → Bool) (i : Nat) : Bool := (List.range ops.size).all fun k => !late k || match ops[k]? with
  | none => true
  | some o => o.after.toList.any fun e => Region.binds .any e && e.on == i
def noneB (late : Nat → Bool) (listed : Array Bool) : Bool := (List.range listed.size).all fun k => !late k || !listed.getD k false
theorem noneB_spec {late : Nat → Bool} {listed : Array Bool} (h : noneB late listed = true) (k : Nat) (hk : late k = true) : listed.getD k false = false := by
  by_cases hl : k < listed.size
  · have := List.all_eq_true.1 h k (List.mem_range.2 hl)
    simpa [hk] using this
  · simp [Array.getD_eq_getD_getElem?, Array.getElem?_eq_none (Nat.le_of_not_lt hl)]
theorem waitsB_spec {ops : Array Oper} {late : Nat → Bool} {i : Nat} (h : waitsB ops late i = true) (k : Nat) (ok : Oper) (hk : late k = true) (ho : ops[k]? = some ok) : ∃ e ∈ ok.after, Region.binds .any e = true ∧ e.on = i := by
  have hl : k < ops.size := (Array.getElem?_eq_some_iff.1 ho).1
  have := List.all_eq_true.1 h k (List.mem_range.2 hl)
  simp only [hk, Bool.not_true, Bool.false_or, ho] at this
  obtain ⟨e, he, h2⟩ := List.any_eq_true.1 this
  simp only [Bool.and_eq_true, beq_iff_eq] at h2
  exact ⟨e, by simpa using he, h2.1, h2.2⟩
structure VG (ops : Array Oper) (late : Nat → Bool) (Q : Exit → Act → World → Prop) (S : World → Prop) (fuel : Nat) (listed : Array Bool) (a : Act) (w : World) : Prop where
  out : wpAnyG Try.prog .any ops late (NoPanic Q) S fuel listed a w
theorem vg_start {id : Nat} {Q : Exit → Act → World → Prop} {a : Act} {w : World} {l : List Oper} (late : Nat → Bool) (S : World → Prop) (hm : Try.prog.follows .mixedOrders = true) (h : VG l.toArray late Q S l.length (Array.replicate l.length false) a w.drew) : (Code.region id l.toArray true).wp Try.prog Q a w :=
  wp_region_noPanic (wp_region_any hm (wpAny_of_G _ _ _ _ (by simpa using h.out)))
theorem vg_done {ops : Array Oper} {late : Nat → Bool} {Q : Exit → Act → World → Prop} {S : World → Prop} {fuel : Nat} {listed : Array Bool} {a : Act} {w : World} (hr : Region.ready .any ops listed = []) (h : Q .normal a w) : VG ops late Q S fuel listed a w := by
  cases fuel with
  | zero => exact ⟨hr, NoPanic.normal h⟩
  | succ n => exact ⟨⟨fun _ => NoPanic.normal h, by rw [hr]; simp⟩⟩
theorem vg_take {ops : Array Oper} {late : Nat → Bool} {o : Oper} {T : Array Value} {df : List Deferred} {w : World} {Q : Exit → Act → World → Prop} {S : World → Prop} {fuel d n : Nat} {listed : Array Bool} (i : Nat) (c : Bool) (V : Value) (hi : ops[i]? = some o) (hs : Region.noSelect ops = true) (hf : Region.free .any ops listed i = true) (hr : (Region.ready .any ops listed).contains i = true)
    (hb1 : waitsB ops late i = true) (hb2 : noneB late listed = true) (hb3 : late i = false)
    (hw : Region.wanted o (yielded ops T) = c) (he : c = true → ∀ v, S v → (execOp (⟨T, df⟩ : Act).eval o).run Try.prog v = .ok (.value V) v) (hd : o.dst = some d) (hz : T.size = n) (hn : d < n) (hS : S w)
    (hk : ∀ T' : Array Value, T'.size = n → (∀ j, j ≠ d → T'[j]? = T[j]?) → T'[d]? = some (gw c V) → VG ops late Q S fuel (listed.setIfInBounds i true) ⟨T', df⟩ w) : VG ops late Q S (fuel + 1) listed ⟨T, df⟩ w := by
  cases c with
  | false =>
    refine ⟨wpAnyG_first (v := undef) hi (Region.noSelect_spec hs) (fun _ _ _ h => h) (waitsB_spec hb1) hb3 fuel listed _ w (noneB_spec hb2) (Region.free_spec hi hf) (by simpa using hr) (.inr ⟨hw, rfl⟩) hS ?_⟩
    rw [hd]
    exact (hk (T.setIfInBounds d undef) (by simp [hz]) (fun i hi => at_set_ne _ hi) (at_set _ (by omega))).out
  | true =>
    refine ⟨wpAnyG_first (v := V) hi (Region.noSelect_spec hs) (fun _ _ _ h => h) (waitsB_spec hb1) hb3 fuel listed _ w (noneB_spec hb2) (Region.free_spec hi hf) (by simpa using hr) (.inl ⟨hw, he rfl⟩) hS ?_⟩
    rw [hd]
    exact (hk (T.setIfInBounds d V) (by simp [hz]) (fun i hi => at_set_ne _ hi) (at_set _ (by omega))).out
theorem vg_takeW {ops : Array Oper} {late : Nat → Bool} {o : Oper} {T : Array Value} {df : List Deferred} {w : World} {Q : Exit → Act → World → Prop} {S : World → Prop} {fuel d n : Nat} {listed : Array Bool} (i : Nat) (c : Bool) (V : Value) (hi : ops[i]? = some o) (hs : Region.noSelect ops = true) (hf : Region.free .any ops listed i = true) (hr : (Region.ready .any ops listed).contains i = true) (hb3 : late i = false)
    (hw : Region.wanted o (yielded ops T) = c) (he : c = true → ∀ v, (execOp (⟨T, df⟩ : Act).eval o).run Try.prog v = .ok (.value V) v) (hd : o.dst = some d) (hz : T.size = n) (hn : d < n) (hS : (∀ k, late k = true → listed.getD k false = false) → S w)
    (hk : ∀ T' : Array Value, T'.size = n → (∀ j, j ≠ d → T'[j]? = T[j]?) → T'[d]? = some (gw c V) → VG ops late Q S fuel (listed.setIfInBounds i true) ⟨T', df⟩ w) : VG ops late Q S (fuel + 1) listed ⟨T, df⟩ w := by
  cases c with
  | false =>
    refine ⟨wpAnyG_firstW (v := undef) hi (Region.noSelect_spec hs) (fun _ _ _ h => h) hb3 fuel listed _ w (Region.free_spec hi hf) (by simpa using hr) (.inr ⟨hw, rfl⟩) hS ?_⟩
    rw [hd]
    exact (hk (T.setIfInBounds d undef) (by simp [hz]) (fun i hi => at_set_ne _ hi) (at_set _ (by omega))).out
  | true =>
    refine ⟨wpAnyG_firstW (v := V) hi (Region.noSelect_spec hs) (fun _ _ _ h => h) hb3 fuel listed _ w (Region.free_spec hi hf) (by simpa using hr) (.inl ⟨hw, fun v _ => he rfl v⟩) hS ?_⟩
    rw [hd]
    exact (hk (T.setIfInBounds d V) (by simp [hz]) (fun i hi => at_set_ne _ hi) (at_set _ (by omega))).out
theorem wpAnyG_all {ops : Array Oper} {late : Nat → Bool} {Q : Exit → Act → World → Prop} {S : World → Prop} {rs : List Nat} {fuel : Nat} {listed : Array Bool} {a : Act} {w : World} (hr : Region.ready .any ops listed = rs) (hne : rs ≠ [])
    (h : ∀ i ∈ rs, wpOp Try.prog ops Q i (fun a' w' => ((∀ k, late k = true → (listed.setIfInBounds i true).getD k false = false) → S w') ∧ wpAnyG Try.prog .any ops late Q S fuel (listed.setIfInBounds i true) a' w') a w) : wpAnyG Try.prog .any ops late Q S (fuel + 1) listed a w :=
  ⟨fun h0 => absurd (hr ▸ h0) hne, hr ▸ h⟩
theorem vg_call {ops : Array Oper} {late : Nat → Bool} {o : Oper} {T : Array Value} {df : List Deferred} {w : World} {Q : Exit → Act → World → Prop} {S : World → Prop} {fuel d n : Nat} {listed : Array Bool} (i : Nat) {fid : FuncId} {args : Array Value} {R : Ending → World → Prop} (hi : ops[i]? = some o) (hr : Region.ready .any ops listed = [i])
    (hw : Region.wanted o (yielded ops T) = true) (he : (execOp (⟨T, df⟩ : Act).eval o).run Try.prog w = .ok (.enter fid args) w) (hc : Calls Try.prog fid args w R) (hd : o.dst = some d) (hz : T.size = n) (hn : d < n)
    (hk : ∀ (e : Ending) (w' : World), R e w' → ∃ V, e = .returned V ∧ S w' ∧ ∀ T' : Array Value, T'.size = n → (∀ j, j ≠ d → T'[j]? = T[j]?) → T'[d]? = some (gw true V) → VG ops late Q S fuel (listed.setIfInBounds i true) ⟨T', df⟩ w') : VG ops late Q S (fuel + 1) listed ⟨T, df⟩ w := by
  refine ⟨wpAnyG_all hr (by simp) (fun j hj => ?_)⟩
  obtain rfl : j = i := by simpa using hj
  unfold wpOp
  rw [hi]
  simp only [hw, if_true]
  refine .inl ?_
  unfold Oper.wp
  rw [he, Oper.upon_enter]
  refine hc.mono ?_
  intro e w' hR
  obtain ⟨V, rfl, hS, hk'⟩ := hk e w' hR
  refine ⟨fun _ => hS, ?_⟩
  rw [hd]
  exact (hk' (T.setIfInBounds d V) (by simp [hz]) (fun i hi => at_set_ne _ hi) (at_set _ (by omega))).out
theorem vg_val {ops : Array Oper} {late : Nat → Bool} {o : Oper} {T : Array Value} {df : List Deferred} {w : World} {Q : Exit → Act → World → Prop} {S : World → Prop} {fuel d n : Nat} {listed : Array Bool} (i : Nat) (V : Value) (w' : World) (hi : ops[i]? = some o) (hr : Region.ready .any ops listed = [i])
    (hw : Region.wanted o (yielded ops T) = true) (he : (execOp (⟨T, df⟩ : Act).eval o).run Try.prog w = .ok (.value V) w') (hd : o.dst = some d) (hz : T.size = n) (hn : d < n) (hS : (∀ k, late k = true → (listed.setIfInBounds i true).getD k false = false) → S w')
    (hk : ∀ T' : Array Value, T'.size = n → (∀ j, j ≠ d → T'[j]? = T[j]?) → T'[d]? = some (gw true V) → VG ops late Q S fuel (listed.setIfInBounds i true) ⟨T', df⟩ w') : VG ops late Q S (fuel + 1) listed ⟨T, df⟩ w := by
  refine ⟨wpAnyG_all hr (by simp) (fun j hj => ?_)⟩
  obtain rfl : j = i := by simpa using hj
  unfold wpOp
  rw [hi]
  simp only [hw, if_true]
  unfold Oper.wp
  rw [he]
  simp only [Oper.upon]
  rw [hd]
  exact .inl ⟨hS, (hk (T.setIfInBounds d V) (by simp [hz]) (fun i hi => at_set_ne _ hi) (at_set _ (by omega))).out⟩
theorem vg_store {ops : Array Oper} {late : Nat → Bool} {o : Oper} {T : Array Value} {df : List Deferred} {w : World} {Q : Exit → Act → World → Prop} {S : World → Prop} {fuel : Nat} {listed : Array Bool} (i : Nat) (w' : World) (hi : ops[i]? = some o) (hr : Region.ready .any ops listed = [i])
    (hl : (late i && decide (i < listed.size)) = true) (hw : Region.wanted o (yielded ops T) = true) (he : (execOp (⟨T, df⟩ : Act).eval o).run Try.prog w = .ok .skip w') (hd : o.dst = none)
    (hk : VG ops late Q S fuel (listed.setIfInBounds i true) ⟨T, df⟩ w') : VG ops late Q S (fuel + 1) listed ⟨T, df⟩ w := by
  refine ⟨wpAnyG_all hr (by simp) (fun j hj => ?_)⟩
  obtain rfl : j = i := by simpa using hj
  unfold wpOp
  rw [hi]
  simp only [hw, if_true]
  refine .inl ?_
  unfold Oper.wp
  rw [he, Oper.upon_skip]
  have hl2 : late j = true ∧ j < listed.size := by simpa using hl
  refine ⟨fun h => ?_, ?_⟩
  · have := h j hl2.1
    simp [Array.getD_eq_getD_getElem?, Array.getElem?_setIfInBounds, hl2.2] at this
  rw [hd]
  exact hk.out
end Go.Proofs.Ytfafhlahbhopaaa
namespace Go.Proofs.Ytfafhlahbhopaaa
open Go.RowKit Go.Maps
open Classical
theorem v_loop {c : Code} {Q : Exit → Act → World → Prop} {T0 : Array Value} {w0 : World} (x N : Nat) (I : Nat → Array Value → World → Prop) (hx : ∀ j T w, I j T w → T[x]? = some (gw true (.int .i64 (j : Int)))) (h0 : I 0 T0 w0)
    (round : ∀ j T w, j ≤ N → I j T w → c.wp Try.prog (Exit.then (fun a' w' => ∃ T', a' = ⟨T', []⟩ ∧ j + 1 ≤ N ∧ I (j + 1) T' w') Q) ⟨T, []⟩ w) : (Code.loop c).wp Try.prog Q ⟨T0, []⟩ w0 := by
  have sl : ∀ {j : Nat} {T : Array Value} {w : World}, I j T w → (intOf (T.getD x undef)).toNat = j := fun h => by
    rw [getD_of (hx _ _ _ h)]
    show (intOf (.int .i64 _)).toNat = _
    simp [intOf]
  refine wp_loop (fun a w => ∃ j T, a = ⟨T, []⟩ ∧ j ≤ N ∧ I j T w) (fun a w => N - (intOf (a.tmps.getD x undef)).toNat) ⟨0, T0, rfl, Nat.zero_le _, h0⟩ ?_
  rintro a w ⟨j, T, rfl, hj, hI⟩
  refine Code.wp_mono (fun e a' w' h => ?_) (round j T w hj hI)
  cases e with
  | normal =>
    obtain ⟨T', rfl, hj', hI'⟩ := h
    refine ⟨⟨j + 1, T', rfl, hj', hI'⟩, ?_⟩
    show N - (intOf (T'.getD x undef)).toNat < N - (intOf (T.getD x undef)).toNat
    rw [sl hI', sl hI]
    omega
  | _ => exact h
theorem vw {ops : Array Oper} {rest : List Oper} {o : Oper} {T : Array Value} {df : List Deferred} {w : World} {Q : Exit → Act → World → Prop} {d n : Nat} (V : Value) (w' : World) (hw : Region.wanted o (yielded ops T) = true) (he : (execOp (⟨T, df⟩ : Act).eval o).run Try.prog w = .ok (.value V) w') (hd : o.dst = some d) (hz : T.size = n) (hn : d < n)
    (hk : ∀ T' : Array Value, T'.size = n → (∀ i, i ≠ d → T'[i]? = T[i]?) → T'[d]? = some (gw true V) → wpList Try.prog ops Q rest ⟨T', df⟩ w') : wpList Try.prog ops Q (o :: rest) ⟨T, df⟩ w := by
  refine BigFrame.wpList_want hw (fun K hK => ?_)
  unfold Oper.wp
  rw [he, Oper.upon_value]
  refine hK _ _ ?_
  rw [hd]
  exact hk (T.setIfInBounds d V) (by simp [hz]) (fun i hi => at_set_ne _ hi) (at_set _ (by omega))
theorem vs {ops : Array Oper} {rest : List Oper} {o : Oper} {T : Array Value} {df : List Deferred} {w : World} {Q : Exit → Act → World → Prop} (w' : World) (hw : Region.wanted o (yielded ops T) = true) (he : (execOp (⟨T, df⟩ : Act).eval o).run Try.prog w = .ok .skip w') (hd : o.dst = none)
    (hk : wpList Try.prog ops Q rest ⟨T, df⟩ w') : wpList Try.prog ops Q (o :: rest) ⟨T, df⟩ w := by
  refine BigFrame.wpList_want hw (fun K hK => ?_)
  unfold Oper.wp
  rw [he, Oper.upon_skip]
  refine hK _ _ ?_
  rw [hd]
  exact hk
theorem ex_st {o : Oper} {ρ : Operand → Value} {s : TypeId} {x y : Operand} {X Y : Value} {w w' : World} (ho : o.op = .store s x y) (hx : ρ x = X) (hy : ρ y = Y) (hr : (Instr.storeAt s X Y).run Try.prog w = .ok () w') : (execOp ρ o).run Try.prog w = .ok .skip w' := by
  unfold execOp
  simp only [ho, hx, hy, Sem.run_bind, hr, Result.andThen_ok]
  rfl
theorem ex_al {o : Oper} {ρ : Operand → Value} {s : TypeId} {V : Value} {w w' : World} (ho : o.op = .alloc s) (hr : (Instr.alloc s true (.tuple #[])).run Try.prog w = .ok V w') : (execOp ρ o).run Try.prog w = .ok (.value V) w' := by
  unfold execOp
  simp only [ho, Sem.run_bind, hr, Result.andThen_ok]
  rfl
/-! What is known of a frame, as one fact: which slot holds what; a step adds one, nothing is carried over by hand. -/
def look : List (Nat × Value) → Nat → Option Value
  | [], _ => none
  | (k, v) :: r, j => bif Nat.beq k j then some v else look r j
structure Rp (T : Array Value) (n : Nat) (L : List (Nat × Value)) : Prop where
  z : T.size = n
  at_ : ∀ j v, look L j = some v → T[j]? = some v
theorem Rp.a {T : Array Value} {n : Nat} {L : List (Nat × Value)} (h : Rp T n L) (j : Nat) {v : Value} (e : look L j = some v) : T[j]? = some v := h.at_ j v e
theorem Rp.nil {T : Array Value} {n : Nat} (h : T.size = n) : Rp T n [] := ⟨h, fun j v e => by cases e⟩
theorem Rp.cons {T : Array Value} {n : Nat} {L : List (Nat × Value)} (h : Rp T n L) {j : Nat} {v : Value} (e : T[j]? = some v) : Rp T n ((j, v) :: L) := ⟨h.z, fun i x hx => by
  unfold look at hx
  cases hb : Nat.beq j i with
  | true =>
    rw [hb] at hx
    have := Nat.eq_of_beq_eq_true hb
    subst this
    cases hx
    exact e
  | false =>
    rw [hb] at hx
    exact h.at_ i x hx⟩
theorem Rp.k {T : Array Value} {n d : Nat} {L : List (Nat × Value)} {c : Bool} {V : Value} {G : Array Value → Prop} (h : Rp T n L) (g : ∀ T', Rp T' n ((d, gw c V) :: L) → G T') : ∀ T', T'.size = n → (∀ j, j ≠ d → T'[j]? = T[j]?) → T'[d]? = some (gw c V) → G T' := fun T' z k s => g T' ⟨z, fun i x hx => by
  unfold look at hx
  cases hb : Nat.beq d i with
  | true =>
    rw [hb] at hx
    have := Nat.eq_of_beq_eq_true hb
    subst this
    cases hx
    exact s
  | false =>
    rw [hb] at hx
    have hne : i ≠ d := fun e => by subst e; rw [Nat.beq_refl] at hb; cases hb
    exact (k i hne).trans (h.at_ i x hx)⟩
theorem Rp.e {T : Array Value} {n : Nat} {L : List (Nat × Value)} (h : Rp T n L) {df : List Deferred} {j : Nat} {v : Value} (e : look L j = some (gw true v)) : (⟨T, df⟩ : Act).eval (.tmp j) = v := ev (h.at_ j _ e) rfl
theorem Rp.t {T : Array Value} {n d : Nat} {L : List (Nat × Value)} {ops : Array Oper} {rest : List Oper} {o : Oper} {df : List Deferred} {w : World} {Q : Exit → Act → World → Prop} (h : Rp T n L) (V : Value) (he : (execOp (⟨T, df⟩ : Act).eval o).run Try.prog w = .ok (.value V) w) (hk : ∀ T', Rp T' n ((d, gw true V) :: L) → wpList Try.prog ops Q rest ⟨T', df⟩ w) (hg : o.guard = none := by rfl) (hd : o.dst = some d := by rfl) (hn : d < n := by decide) : wpList Try.prog ops Q (o :: rest) ⟨T, df⟩ w :=
  vl true V (want_none hg) (fun _ => he) hd h.z hn (h.k hk)
theorem Rp.q {T : Array Value} {n d : Nat} {L : List (Nat × Value)} {ops : Array Oper} {rest : List Oper} {o : Oper} {df : List Deferred} {C : World → Prop} {Q : Act → Prop} (h : Rp T n L) (V : Value) (he : ∀ v, C v → (execOp (⟨T, df⟩ : Act).eval o).run Try.prog v = .ok (.value V) v) (hk : ∀ T', Rp T' n ((d, gw true V) :: L) → VJ ops C Q rest ⟨T', df⟩) (hg : o.guard = none := by rfl) (hd : o.dst = some d := by rfl) (hn : d < n := by decide) : VJ ops C Q (o :: rest) ⟨T, df⟩ :=
  vq true V (want_none hg) (fun _ => he) hd h.z hn (h.k hk)
theorem SlY.on {α : Type} {Y : Lay α} {w w' : World} {a : Option Addr} {n c B : Nat} {l : List α} (h : SlY Y w a n c l) (hb : Below B w w') (hB : w.heap.size ≤ B) : SlY Y w' a n c l := h.bel hb hB
theorem v_cut18 {c : Code} {Q : Exit → Act → World → Prop} {T : Array Value} {w : World} (J : Array Value → World → Prop) (h : c.wp Try.prog (Exit.then (fun a w' => ∃ T', a = ⟨T', []⟩ ∧ J T' w') Q) ⟨T, []⟩ w) (hk : ∀ T' w', J T' w' → Q .normal ⟨T', []⟩ w') : c.wp Try.prog Q ⟨T, []⟩ w := by
  refine Code.wp_mono (fun e a' w' h => ?_) h
  cases e with
  | normal =>
    obtain ⟨T', rfl, hJ⟩ := h
    exact hk T' w' hJ
  | _ => exact h
theorem vh_val18 {ops : Array Oper} {o : Oper} {T : Array Value} {df : List Deferred} {w : World} {Q : Exit → Act → World → Prop} {S : World → Prop} {fuel d n : Nat} {listed : Array Bool} (i : Nat) (V : Value) (w' : World) (hi : ops[i]? = some o) (hr : Region.ready .any ops listed = [i])
    (hw : Region.wanted o (yielded ops T) = true) (he : (execOp (⟨T, df⟩ : Act).eval o).run Try.prog w = .ok (.value V) w') (hd : o.dst = some d) (hz : T.size = n) (hn : d < n) (hS : S w')
    (hk : ∀ T' : Array Value, T'.size = n → (∀ j, j ≠ d → T'[j]? = T[j]?) → T'[d]? = some (gw true V) → VH ops Q S fuel (listed.setIfInBounds i true) ⟨T', df⟩ w') : VH ops Q S (fuel + 1) listed ⟨T, df⟩ w := by
  refine ⟨wpAnyH_all hr (by simp) (fun j hj => ?_)⟩
  obtain rfl : j = i := by simpa using hj
  unfold wpOp
  rw [hi]
  simp only [hw, if_true]
  refine .inl ?_
  unfold Oper.wp
  rw [he, Oper.upon_value]
  refine ⟨hS, ?_⟩
  rw [hd]
  exact (hk (T.setIfInBounds d V) (by simp [hz]) (fun i hi => at_set_ne _ hi) (at_set _ (by omega))).out
theorem ex_box18 {o : Oper} {ρ : Operand → Value} {s : TypeId} {x : Operand} {X V : Value} {w w' : World} (ho : o.op = .box s x) (hx : ρ x = X) (hr : (Instr.box s X).run Try.prog w = .ok V w') : (execOp ρ o).run Try.prog w = .ok (.value V) w' := by
  unfold execOp
  simp only [ho, hx, Sem.run_bind, hr, Result.andThen_ok]
  rfl
theorem ex_buildP18 {o : Oper} {ρ : Operand → Value} {s : TypeId} {ps : Array (Nat × Operand)} {P : Array (Nat × Value)} {V : Value} {w : World} (ho : o.op = .build s ps) (hp : ps.map (fun (i, x) => (i, ρ x)) = P) (hr : (Instr.build s P).run Try.prog w = .ok V w) : (execOp ρ o).run Try.prog w = .ok (.value V) w := by
  unfold execOp
  simp only [ho, hp, Sem.run_bind, hr, Result.andThen_ok]
  rfl
theorem ex_sl18 {o : Oper} {ρ : Operand → Value} {s : TypeId} {x : Operand} {X V : Value} {w : World} (ho : o.op = .slice s x none none none) (hx : ρ x = X) (hr : (Instr.sliceAt s X none none none).run Try.prog w = .ok V w) : (execOp ρ o).run Try.prog w = .ok (.value V) w := by
  unfold execOp
  simp only [ho, hx, Sem.run_bind, Option.map_none, hr, Result.andThen_ok]
  rfl
theorem ex_copy18 {o : Oper} {ρ : Operand → Value} {x y : Operand} {X Y V : Value} {s t : TypeId} {w w' : World} (ho : o.op = .call { callee := .builtin .copy, args := #[x, y], argTypes := #[s, t] }) (hx : ρ x = X) (hy : ρ y = Y) (hr : (Builtin.copy_ #[s, t] o.type #[X, Y]).run Try.prog w = .ok V w') : (execOp ρ o).run Try.prog w = .ok (.value V) w' := by
  unfold execOp
  simp only [ho, resolve, invoke, builtin, Sem.run_bind, Sem.run_pure, Result.andThen_ok, List.map_toArray, List.map_cons, List.map_nil, hx, hy, hr]
def BB (w : World) (q : Nat) (T : TypeId) (cs : List Value) : Prop := w.heap[q]? = some (.cells cs.toArray T (0, 0))
theorem BB.lt {w : World} {q : Nat} {T : TypeId} {cs : List Value} (h : BB w q T cs) : q < w.heap.size := (Array.getElem?_eq_some_iff.1 h).1
theorem BB.new (w : World) (T : TypeId) (cs : List Value) : BB (w.alloc (.cells cs.toArray T)) w.heap.size T cs := World.alloc_heap_new _ _
theorem BB.upd {S : Nat → Prop} {w w' : World} {q : Nat} {T : TypeId} {cs : List Value} (h : BB w q T cs) (u : Upd S w w') (hs : ¬ S q) : BB w' q T cs := (u.block q h.lt hs).trans h
theorem BB.later {w w' : World} {q : Nat} {T : TypeId} {cs : List Value} (h : BB w q T cs) (hb : Below w.heap.size w w') : BB w' q T cs := (hb.block q h.lt).trans h
theorem BB.cell {w : World} {q : Nat} {T : TypeId} {cs : List Value} (h : BB w q T cs) (i : Nat) : w.cell? ⟨q, i, none⟩ = cs[i]? := by
  unfold BB at h
  unfold World.cell?
  simp [h]
theorem BB.free {w : World} {q : Nat} {T : TypeId} {cs : List Value} (h : BB w q T cs) (i : Nat) : w.frozen? ⟨q, i, none⟩ = false := by
  unfold BB at h
  unfold World.frozen?
  simp [h]
theorem BB.ld {w : World} {q : Nat} {T : TypeId} {cs : List Value} (h : BB w q T cs) (ty : TypeId) {d : TypeDesc} (hu : Try.prog.underlying ty = some d) (hd : d.isRow = true) (hi : (Try.prog.info? ty).map (·.size) = some cs.length) : (Instr.loadAt ty (.pointer (some ⟨q, 0, none⟩))).run Try.prog w = .ok (.agg cs.toArray) w :=
  run_loadAt_mid (P := Try.prog) w q 0 ty cs d (fun j v hv => by rw [Nat.zero_add, h.cell]; exact hv) hu hd hi
theorem BB.set1 {w : World} {q : Nat} {T : TypeId} {cs : List Value} (h : BB w q T cs) (j : Nat) (u : Value) : BB (w.setCell ⟨q, j, none⟩ u) q T (cs.set j u) := by
  have hlt := h.lt
  unfold BB at *
  unfold World.setCell
  have e : w.heap[q] = .cells cs.toArray T (0, 0) := (Array.getElem?_eq_some_iff.1 h).2
  rw [Array.getElem?_eq_getElem (by simpa using hlt), Array.getElem_modify_self, e]
  simp
theorem BB.sets {q : Nat} {T : TypeId} : ∀ (vs : List Value) (o : Nat) (w : World) (cs : List Value), BB w q T cs → ∃ cs', BB (w.setCells q o vs) q T cs' ∧ cs'.length = cs.length
  | [], o, w, cs, h => ⟨cs, h, rfl⟩
  | v :: r, o, w, cs, h => by
    obtain ⟨cs', h1, h2⟩ := BB.sets r (o + 1) _ _ (h.set1 o v)
    exact ⟨cs', h1, by rw [h2, List.length_set]⟩
theorem BB.whole {w : World} {q : Nat} {T : TypeId} {cs : List Value} (h : BB w q T cs) (vs : List Value) (hl : vs.length = cs.length) : BB (w.setCells q 0 vs) q T vs := by
  obtain ⟨cs', h1, h2⟩ := BB.sets vs 0 w cs h
  have : cs' = vs := by
    apply List.ext_getElem (by omega)
    intro i hi hi2
    have h3 := World.cell?_setCells_in q vs 0 w (fun j hj => by rw [Nat.zero_add, h.cell, List.getElem?_eq_getElem (by omega)]; rfl) i hi2
    rw [Nat.zero_add, h1.cell, List.getElem?_eq_getElem hi] at h3
    exact Option.some.inj h3
  rw [← this]
  exact this ▸ h1
theorem upd18 (q : Nat) : ∀ (vs : List Value) (o : Nat) (w : World), Upd (fun k => k = q) w (w.setCells q o vs)
  | [], o, w => Upd.refl _ _
  | v :: r, o, w => ((Upd.refl (fun k => k = q) w).setCell (p := ⟨q, o, none⟩) (.inl rfl) v).trans (upd18 q r (o + 1) _)
theorem BB.st {w : World} {q : Nat} {T : TypeId} {cs : List Value} (h : BB w q T cs) (ty : TypeId) (vs : List Value) (hl : vs.length = cs.length) (hi : (Try.prog.info? ty).map (·.size) = some vs.toArray.size) (h1 : vs.toArray.all (·.oneCell') = true) : (Instr.storeAt ty (.pointer (some ⟨q, 0, none⟩)) (.agg vs.toArray)).run Try.prog w = .ok () (w.setCells q 0 vs) := by
  have := run_storeAt_mid (P := Try.prog) w q 0 ty vs.toArray (fun j hj => ⟨by rw [Nat.zero_add, h.cell, List.getElem?_eq_getElem (show j < cs.length by simpa [hl] using hj)]; rfl, by rw [Nat.zero_add]; exact h.free j⟩) hi h1
  exact this
theorem BB.res {w : World} {q : Nat} {Ty : TypeId} {cs : List Value} (h : BB w q Ty cs) {fn : Func} {i : Tmp} {ty : TypeId} {T : Array Value} {R : Ending → World → Prop} (hf : fn.results = #[.cell i ty]) (hq : T[i]? = some (gw true (.pointer (some ⟨q, 0, none⟩)))) {d : TypeDesc} (hu : Try.prog.underlying ty = some d) (hd : d.isRow = true) (hi : (Try.prog.info? ty).map (·.size) = some cs.length) (hR : R (.returned (.agg cs.toArray)) w) : bodyPost Try.prog fn R .ret ⟨T, []⟩ w := by
  refine bodyPost_ret (v := .agg cs.toArray) ?_ rfl hR
  have := run_loadVar_mid (P := Try.prog) w q 0 ty cs _ (fun j v hv => by rw [Nat.zero_add, h.cell]; exact hv) hu hd hi
  have hq' : T.getD i undef = .pointer (some ⟨q, 0, none⟩) := getD_of hq
  simp only [results, hf]
  simp only [Array.getD_eq_getD_getElem?] at hq'
  simp [Sem.run_bind, Result.andThen, hq', asAddr, this]
theorem vq_call18 {ops : Array Oper} {rest : List Oper} {o : Oper} {T : Array Value} {df : List Deferred} {C : World → Prop} {Q : Act → Prop} {d n : Nat} (c : Bool) (V : Value) {fid : FuncId} {args : Array Value} (hw : Region.wanted o (yielded ops T) = c) (he : c = true → ∀ v, C v → (execOp (⟨T, df⟩ : Act).eval o).run Try.prog v = .ok (.enter fid args) v)
    (hc : c = true → ∀ v, C v → Calls Try.prog fid args v fun e w' => e = .returned V ∧ C w') (hd : o.dst = some d) (hz : T.size = n) (hn : d < n)
    (hk : ∀ T' : Array Value, T'.size = n → (∀ i, i ≠ d → T'[i]? = T[i]?) → T'[d]? = some (gw c V) → VJ ops C Q rest ⟨T', df⟩) : VJ ops C Q (o :: rest) ⟨T, df⟩ := by
  cases c with
  | false =>
    refine ⟨BigFrame.wpQuiet_skip hw ?_⟩
    rw [hd]
    exact (hk (T.setIfInBounds d undef) (by simp [hz]) (fun i hi => at_set_ne _ hi) (at_set _ (by omega))).out
  | true =>
    refine ⟨BigFrame.wpQuiet_want hw (fun K hK => ⟨V, fun v hv => by unfold Oper.quietAt; rw [he rfl v hv]; exact ⟨rfl, hc rfl v hv⟩, hK _ ?_⟩)⟩
    rw [hd]
    exact (hk (T.setIfInBounds d V) (by simp [hz]) (fun i hi => at_set_ne _ hi) (at_set _ (by omega))).out
theorem bel18 {w v : World} {B : Nat} {f : FuncId} {args : Array Value} {V : Value} (hv : Below B w v) (h : Calls Try.prog f args v fun e w' => e = .returned V ∧ Below v.heap.size v w') (hB : B ≤ v.heap.size) : Calls Try.prog f args v fun e w' => e = .returned V ∧ Below B w w' :=
  h.mono fun e w' ⟨h1, h2⟩ => ⟨h1, hv.trans (h2.mono hB)⟩
theorem ex_ext18 {o : Oper} {ρ : Operand → Value} {x : Operand} {i : Nat} {X V : Value} {w : World} (ho : o.op = .extract x i) (hx : ρ x = X) (hr : (Instr.extract X i).run Try.prog w = .ok V w) : (execOp ρ o).run Try.prog w = .ok (.value V) w := by
  unfold execOp
  simp only [ho, hx]
  simp [hr]
theorem bel_ge {B N : Nat} {w w' : World} (u : Upd (fun k => k = N) w w') (hB : B ≤ w.heap.size) (hN : B ≤ N) : Below B w w' := u.below hB (fun k hk => by omega)
theorem ex_bs18 {o : Oper} {ρ : Operand → Value} {s : TypeId} {x : Operand} {X V : Value} {w w' : World} (ho : o.op = .buildSlice s 1 #[(0, x)]) (hx : ρ x = X) (hr : (Instr.buildSlice s 1 #[(0, X)]).run Try.prog w = .ok V w') : (execOp ρ o).run Try.prog w = .ok (.value V) w' := by
  unfold execOp
  simp only [ho, List.map_toArray, List.map_cons, List.map_nil, hx, Sem.run_bind, hr, Result.andThen_ok]
  rfl
theorem ex_app18 {o : Oper} {ρ : Operand → Value} {x y : Operand} {X Y V : Value} {s t : TypeId} {w w' : World} (ho : o.op = .call { callee := .builtin .append, args := #[x, y], argTypes := #[s, t] }) (hx : ρ x = X) (hy : ρ y = Y) (hr : (Builtin.append_ #[s, t] o.type #[X, Y]).run Try.prog w = .ok V w') : (execOp ρ o).run Try.prog w = .ok (.value V) w' := by
  unfold execOp
  simp only [ho, resolve, invoke, builtin, Sem.run_bind, Sem.run_pure, Result.andThen_ok, List.map_toArray, List.map_cons, List.map_nil, hx, hy, hr]
theorem add1C (x y : Operand) (j : Nat) (h : j < 9000000000000000000) (w : World) : (do eqGuard .add 3 x y (.int .i64 (j : Int)) (.int .i64 1); binOp .add 3 (.int .i64 (j : Int)) (.int .i64 1) : Sem Value).run Try.prog w = .ok (.int .i64 ((j + 1 : Nat) : Int)) w := by
  have hwr : IntKind.i64.wrap ((j : Int) + 1) = ((j + 1 : Nat) : Int) := by rw [IntKind.wrap_i64]; omega
  go_simp
theorem Upd.trans18 {S T : Nat → Prop} {w w1 w2 : World} (h : Upd S w w1) (k : Upd T w1 w2) (hs : ∀ i, i < w.heap.size → T i → S i) : Upd S w w2 :=
  ⟨k.os.trans h.os, k.tape.trans h.tape, k.output.trans h.output, Nat.le_trans h.size k.size, fun i hi hn => (k.block i (Nat.lt_of_lt_of_le hi h.size) (fun ht => hn (hs i hi ht))).trans (h.block i hi hn)⟩
theorem ltT (x y : Operand) {i n : Nat} (h : i < n) (w : World) : (do eqGuard .lss 3 x y (.int .i64 (i : Int)) (.int .i64 (n : Int)); binOp .lss 3 (.int .i64 (i : Int)) (.int .i64 (n : Int)) : Sem Value).run Try.prog w = .ok (.bool true) w := by
  have h1 : decide ((i : Int) < (n : Int)) = true := decide_eq_true (by omega)
  rw [lssC, h1]
theorem ltF (x y : Operand) {i n : Nat} (h : ¬ i < n) (w : World) : (do eqGuard .lss 3 x y (.int .i64 (i : Int)) (.int .i64 (n : Int)); binOp .lss 3 (.int .i64 (i : Int)) (.int .i64 (n : Int)) : Sem Value).run Try.prog w = .ok (.bool false) w := by
  have h1 : decide ((i : Int) < (n : Int)) = false := decide_eq_false (by omega)
  rw [lssC, h1]
theorem results2_18 {fn : Func} {j k : Tmp} {x y : Value} {tmps : Array Value} {w : World} (h : fn.results = #[.tmp j, .tmp k]) (hj : tmps[j]? = some (gw true x)) (hk : tmps[k]? = some (gw true y)) : (results fn tmps).run Try.prog w = .ok (.tuple #[x, y]) w := by
  simp only [results, h]
  have hj' : tmps.getD j undef = x := getD_of hj
  have hk' : tmps.getD k undef = y := getD_of hk
  simp only [Array.getD_eq_getD_getElem?] at hj' hk'
  simp [Sem.run_bind, Result.andThen, hj', hk']
theorem ldI18 {w : World} {q o : Nat} {x : Int} (h : w.cell? ⟨q, o, none⟩ = some (.int .i64 x)) : (Instr.loadAt 3 (.pointer (some ⟨q, o, none⟩))).run Try.prog w = .ok (.int .i64 x) w := by go_simp
theorem ex_bs2 {o : Oper} {ρ : Operand → Value} {s : TypeId} {x y : Operand} {X Y V : Value} {w w' : World} (ho : o.op = .buildSlice s 2 #[(0, x), (1, y)]) (hx : ρ x = X) (hy : ρ y = Y) (hr : (Instr.buildSlice s 2 #[(0, X), (1, Y)]).run Try.prog w = .ok V w') : (execOp ρ o).run Try.prog w = .ok (.value V) w' := by
  unfold execOp
  simp only [ho, List.map_toArray, List.map_cons, List.map_nil, hx, hy, Sem.run_bind, hr, Result.andThen_ok]
  rfl
theorem stI18 {w : World} {q j : Nat} {u : Value} {b : Int} (h : w.cell? ⟨q, j, none⟩ = some u) (hf : w.frozen? ⟨q, j, none⟩ = false) : (Instr.storeAt 3 (.pointer (some ⟨q, j, none⟩)) (.int .i64 b)).run Try.prog w = .ok () (w.setCell ⟨q, j, none⟩ (.int .i64 b)) := by go_simp
theorem eqlE18 (x y : Operand) (a b : Int) (w : World) : (do eqGuard .eql 43 x y (.int .i64 a) (.int .i64 b); binOp .eql 43 (.int .i64 a) (.int .i64 b) : Sem Value).run Try.prog w = .ok (.bool (decide (a = b))) w := by
  go_simp
  by_cases h : a = b <;> simp [h]
theorem ex_lenG {o : Oper} {ρ : Operand → Value} {i : Nat} {a : Option Addr} {n k : Nat} {w : World} {t e : TypeId} (ho : o.op = .call { callee := .builtin .len, args := #[.tmp i], argTypes := #[t] }) (ht : o.type = 3) (hu : Try.prog.underlying t = some (.slice e)) (hx : ρ (.tmp i) = .slice a n k) : (execOp ρ o).run Try.prog w = .ok (.value (.int .i64 (n : Int))) w := by
  unfold execOp
  simp only [ho]
  rw [Sem.run_bind]
  simp only [resolve, List.map_toArray, List.map_cons, List.map_nil, hx, ht]
  go_simp
end Go.Proofs.Ytfafhlahbhopaaa
