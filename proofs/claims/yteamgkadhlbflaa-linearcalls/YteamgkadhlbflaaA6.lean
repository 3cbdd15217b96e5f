import Derived.ArgAppend
import Derived.Laws.OwnMore
import Derived.ChangeArms
import Derived.Test.YteamgkadhlbflaaA5
set_option maxRecDepth 100000
set_option linter.unusedVariables false
set_option linter.unusedSimpArgs false
namespace Go.Proofs.Yteamgkadhlbflaa
open Go.RowKit Go.Maps
open Classical
/-! Regions that draw their order and end in stores over what they read: what only reads is taken first under S; the stores (late) wait for all of it, and behind them S is asked no more. -/
section
variable {P : Program} {ops : Array Oper} {Q : Exit → Act → World → Prop} {md : Region.Mode} {S : World → Prop} {late : Nat → Bool}
def wpAnyG (P : Program) (md : Region.Mode) (ops : Array Oper) (late : Nat → Bool) (Q : Exit → Act → World → Prop) (S : World → Prop) : Nat → Array Bool → Act → World → Prop
  | 0, listed, a, w => Region.ready md ops listed = [] ∧ Q .normal a w
  | fuel + 1, listed, a, w =>
    (Region.ready md ops listed = [] → Q .normal a w) ∧
    ∀ i ∈ Region.ready md ops listed, wpOp P ops Q i (fun a' w' => ((∀ k, late k = true → (listed.setIfInBounds i true).getD k false = false) → S w') ∧ wpAnyG P md ops late Q S fuel (listed.setIfInBounds i true) a' w') a w
theorem wpAny_of_G : ∀ (fuel : Nat) (listed : Array Bool) (a : Act) (w : World), wpAnyG P md ops late Q S fuel listed a w → wpAny P md ops Q fuel listed a w
  | 0, _, _, _, h => h
  | fuel + 1, _, _, _, h => ⟨h.1, fun i hi => wpOp_mono (fun a' w' h' => wpAny_of_G fuel _ a' w' h'.2) (h.2 i hi)⟩
theorem getD_setb {l : Array Bool} {i k : Nat} (h : i ≠ k) (d : Bool) : (l.setIfInBounds i true).getD k d = l.getD k d := by
  simp [Array.getD_eq_getD_getElem?, Array.getElem?_setIfInBounds, h]
theorem wpAnyG_first {i : Nat} {oi : Oper} {v : Value} (hi : ops[i]? = some oi) (hsel : ∀ (j : Nat) (o : Oper) cs b, ops[j]? = some o → o.op ≠ .select cs b)
    (hQ : ∀ c a w, Q (.panic c) (a.put oi.dst v) w → Q (.panic c) a w) (hlate : ∀ k ok, late k = true → ops[k]? = some ok → ∃ e ∈ ok.after, Region.binds md e = true ∧ e.on = i) (hil : late i = false) :
    ∀ (fuel : Nat) (listed : Array Bool) (a : Act) (w : World), (∀ k, late k = true → listed.getD k false = false) →
      (∀ j oj, ops[j]? = some oj → j ≠ i → listed.getD j true = false → (∀ e ∈ oj.after, Region.binds md e = true → e.on ≠ i) → oi.apart ops oj = true) →
      i ∈ Region.ready md ops listed → YieldsIf P ops S oi v a → S w →
      wpAnyG P md ops late Q S fuel (listed.setIfInBounds i true) (a.put oi.dst v) w → wpAnyG P md ops late Q S (fuel + 1) listed a w := by
  intro fuel
  induction fuel with
  | zero =>
    intro listed a w _ _ hr hy hS H
    refine ⟨fun h => (by rw [h] at hr; cases hr), fun j hj => ?_⟩
    by_cases hji : j = i
    · subst hji; exact hy.wpOp hi hS ⟨fun _ => hS, H⟩
    · have := ready_mono hj hji
      rw [H.1] at this
      cases this
  | succ fuel ih =>
    intro listed a w hno hfree hr hy hS H
    refine ⟨fun h => (by rw [h] at hr; cases hr), fun j hj => ?_⟩
    by_cases hji : j = i
    · subst hji; exact hy.wpOp hi hS ⟨fun _ => hS, H⟩
    · have h1 := H.2 j (ready_mono hj hji)
      obtain ⟨hjun, oj, hoj, hall⟩ := mem_ready.1 hj
      have hnot : ∀ e ∈ oj.after, Region.binds md e = true → e.on ≠ i := fun e he hb heq => by
        have h1 := hall e he hb
        have h0 := (mem_ready.1 hr).1
        rw [heq] at h1
        rcases Nat.lt_or_ge i listed.size with h' | h'
        · simp [h'] at h0 h1; rw [h0] at h1; cases h1
        · simp [Array.getElem?_eq_none h'] at h1
      have hjl : late j = false := by
        cases e : late j with
        | false => rfl
        | true =>
          obtain ⟨x, hx, hb, ho⟩ := hlate j oj e hoj
          exact absurd ho (hnot x hx hb)
      have hno2 : ∀ k, late k = true → ((listed.setIfInBounds i true).setIfInBounds j true).getD k false = false := fun k hk => by
        rw [getD_setb (by rintro rfl; rw [hjl] at hk; cases hk), getD_setb (by rintro rfl; rw [hil] at hk; cases hk)]
        exact hno k hk
      have hno3 : ∀ k, late k = true → (listed.setIfInBounds j true).getD k false = false := fun k hk => by
        rw [getD_setb (by rintro rfl; rw [hjl] at hk; cases hk)]
        exact hno k hk
      have h2 := wpOp_putIf hoj (hfree j oj hoj hji hjun hnot) (fun cs b => hsel i oi cs b hi) (fun cs b => hsel j oj cs b hoj) hQ hy h1
      have hfree' : ∀ k ok, ops[k]? = some ok → k ≠ i → (listed.setIfInBounds j true).getD k true = false →
          (∀ e ∈ ok.after, Region.binds md e = true → e.on ≠ i) → oi.apart ops ok = true := fun k ok hk hki hun hno => by
        refine hfree k ok hk hki ?_ hno
        by_cases hjk : j = k
        · subst hjk; exact hjun
        · rw [getD_set_ne true hjk] at hun; exact hun
      refine wpOp_mono (fun a' w' h3 => ⟨fun _ => h3.2.1 hno2, ih (listed.setIfInBounds j true) a' w' hno3 hfree' (ready_mono hr (Ne.symm hji)) h3.1 (h3.2.1 hno2) ?_⟩) h2
      rw [Array.setIfInBounds_comm _ _ hji]
      exact h3.2.2
theorem wpAnyG_firstW {i : Nat} {oi : Oper} {v : Value} (hi : ops[i]? = some oi) (hsel : ∀ (j : Nat) (o : Oper) cs b, ops[j]? = some o → o.op ≠ .select cs b)
    (hQ : ∀ c a w, Q (.panic c) (a.put oi.dst v) w → Q (.panic c) a w) (hil : late i = false) :
    ∀ (fuel : Nat) (listed : Array Bool) (a : Act) (w : World),
      (∀ j oj, ops[j]? = some oj → j ≠ i → listed.getD j true = false → (∀ e ∈ oj.after, Region.binds md e = true → e.on ≠ i) → oi.apart ops oj = true) →
      i ∈ Region.ready md ops listed → YieldsIf P ops (fun _ => True) oi v a → ((∀ k, late k = true → listed.getD k false = false) → S w) →
      wpAnyG P md ops late Q S fuel (listed.setIfInBounds i true) (a.put oi.dst v) w → wpAnyG P md ops late Q S (fuel + 1) listed a w := by
  have hset : ∀ (listed : Array Bool), (∀ k, late k = true → (listed.setIfInBounds i true).getD k false = false) → ∀ k, late k = true → listed.getD k false = false := fun listed h k hk => by
    have := h k hk
    rwa [getD_setb (by rintro rfl; rw [hil] at hk; cases hk)] at this
  intro fuel
  induction fuel with
  | zero =>
    intro listed a w _ hr hy hS H
    refine ⟨fun h => (by rw [h] at hr; cases hr), fun j hj => ?_⟩
    by_cases hji : j = i
    · subst hji; exact hy.wpOp hi trivial ⟨fun h => hS (hset listed h), H⟩
    · have := ready_mono hj hji
      rw [H.1] at this
      cases this
  | succ fuel ih =>
    intro listed a w hfree hr hy hS H
    refine ⟨fun h => (by rw [h] at hr; cases hr), fun j hj => ?_⟩
    by_cases hji : j = i
    · subst hji; exact hy.wpOp hi trivial ⟨fun h => hS (hset listed h), H⟩
    · have h1 := H.2 j (ready_mono hj hji)
      obtain ⟨hjun, oj, hoj, hall⟩ := mem_ready.1 hj
      have hnot : ∀ e ∈ oj.after, Region.binds md e = true → e.on ≠ i := fun e he hb heq => by
        have h1 := hall e he hb
        have h0 := (mem_ready.1 hr).1
        rw [heq] at h1
        rcases Nat.lt_or_ge i listed.size with h' | h'
        · simp [h'] at h0 h1; rw [h0] at h1; cases h1
        · simp [Array.getElem?_eq_none h'] at h1
      have hno : (∀ k, late k = true → (listed.setIfInBounds j true).getD k false = false) → ∀ k, late k = true → ((listed.setIfInBounds i true).setIfInBounds j true).getD k false = false := fun h k hk => by
        rw [Array.setIfInBounds_comm _ _ (Ne.symm hji), getD_setb (by rintro rfl; rw [hil] at hk; cases hk)]
        exact h k hk
      have h2 := wpOp_putIf hoj (hfree j oj hoj hji hjun hnot) (fun cs b => hsel i oi cs b hi) (fun cs b => hsel j oj cs b hoj) hQ hy h1
      have hfree' : ∀ k ok, ops[k]? = some ok → k ≠ i → (listed.setIfInBounds j true).getD k true = false →
          (∀ e ∈ ok.after, Region.binds md e = true → e.on ≠ i) → oi.apart ops ok = true := fun k ok hk hki hun hno => by
        refine hfree k ok hk hki ?_ hno
        by_cases hjk : j = k
        · subst hjk; exact hjun
        · rw [getD_set_ne true hjk] at hun; exact hun
      refine wpOp_mono (fun a' w' h3 => ⟨fun h => h3.2.1 (hno h), ih (listed.setIfInBounds j true) a' w' hfree' (ready_mono hr (Ne.symm hji)) h3.1 (fun h => h3.2.1 (hno h)) ?_⟩) h2
      rw [Array.setIfInBounds_comm _ _ hji]
      exact h3.2.2
end
def waitsB (ops : Array Oper) (late : Nat → Bool) (i : Nat) : Bool := (List.range ops.size).all fun k => !late k || match ops[k]? with
  | none => true
  | some o => o.after.toList.any fun e => Region.binds .any e && e.on == i
def noneB (late : Nat → Bool) (listed : Array Bool) : Bool := (List.range listed.size).all fun k => !late k || !listed.getD k false
theorem noneB_spec {late : Nat → Bool} {listed : Array Bool} (h : noneB late listed = true) (k : Nat) (hk : late k = true) : listed.getD k false = false := by
  by_cases hl : k < listed.size
  · have := List.all_eq_true.1 h k (List.mem_range.2 hl)
    simpa [hk] using this
  · simp [Array.getD_eq_getD_getElem?, Array.getElem?_eq_none (Nat.le_of_not_lt hl)]
theorem waitsB_spec {ops : Array Oper} {late : Nat → Bool} {i : Nat} (h : waitsB ops late i = true) (k : Nat) (ok : Oper) (hk : late k = true) (ho : ops[k]? = some ok) : ∃ e ∈ ok.after, Region.binds .any e = true ∧ e.on = i := by
  have hl : k < ops.size := (Array.getElem?_eq_some_iff.1 ho).1
  have := List.all_eq_true.1 h k (List.mem_range.2 hl)
  simp only [hk, Bool.not_true, Bool.false_or, ho] at this
  obtain ⟨e, he, h2⟩ := List.any_eq_true.1 this
  simp only [Bool.and_eq_true, beq_iff_eq] at h2
  exact ⟨e, by simpa using he, h2.1, h2.2⟩
structure VG (ops : Array Oper) (late : Nat → Bool) (Q : Exit → Act → World → Prop) (S : World → Prop) (fuel : Nat) (listed : Array Bool) (a : Act) (w : World) : Prop where
  out : wpAnyG Try.prog .any ops late (NoPanic Q) S fuel listed a w
theorem vg_start {id : Nat} {Q : Exit → Act → World → Prop} {a : Act} {w : World} {l : List Oper} (late : Nat → Bool) (S : World → Prop) (hm : Try.prog.follows .mixedOrders = true) (h : VG l.toArray late Q S l.length (Array.replicate l.length false) a w.drew) : (Code.region id l.toArray true).wp Try.prog Q a w :=
  wp_region_noPanic (wp_region_any hm (wpAny_of_G _ _ _ _ (by simpa using h.out)))
theorem vg_done {ops : Array Oper} {late : Nat → Bool} {Q : Exit → Act → World → Prop} {S : World → Prop} {fuel : Nat} {listed : Array Bool} {a : Act} {w : World} (hr : Region.ready .any ops listed = []) (h : Q .normal a w) : VG ops late Q S fuel listed a w := by
  cases fuel with
  | zero => exact ⟨hr, NoPanic.normal h⟩
  | succ n => exact ⟨⟨fun _ => NoPanic.normal h, by rw [hr]; simp⟩⟩
theorem vg_take {ops : Array Oper} {late : Nat → Bool} {o : Oper} {T : Array Value} {df : List Deferred} {w : World} {Q : Exit → Act → World → Prop} {S : World → Prop} {fuel d n : Nat} {listed : Array Bool} (i : Nat) (c : Bool) (V : Value) (hi : ops[i]? = some o) (hs : Region.noSelect ops = true) (hf : Region.free .any ops listed i = true) (hr : (Region.ready .any ops listed).contains i = true)
    (hb1 : waitsB ops late i = true) (hb2 : noneB late listed = true) (hb3 : late i = false)
    (hw : Region.wanted o (yielded ops T) = c) (he : c = true → ∀ v, S v → (execOp (⟨T, df⟩ : Act).eval o).run Try.prog v = .ok (.value V) v) (hd : o.dst = some d) (hz : T.size = n) (hn : d < n) (hS : S w)
    (hk : ∀ T' : Array Value, T'.size = n → (∀ j, j ≠ d → T'[j]? = T[j]?) → T'[d]? = some (gw c V) → VG ops late Q S fuel (listed.setIfInBounds i true) ⟨T', df⟩ w) : VG ops late Q S (fuel + 1) listed ⟨T, df⟩ w := by
  cases c with
  | false =>
    refine ⟨wpAnyG_first (v := undef) hi (Region.noSelect_spec hs) (fun _ _ _ h => h) (waitsB_spec hb1) hb3 fuel listed _ w (noneB_spec hb2) (Region.free_spec hi hf) (by simpa using hr) (.inr ⟨hw, rfl⟩) hS ?_⟩
    rw [hd]
    exact (hk (T.setIfInBounds d undef) (by simp [hz]) (fun i hi => at_set_ne _ hi) (at_set _ (by omega))).out
  | true =>
    refine ⟨wpAnyG_first (v := V) hi (Region.noSelect_spec hs) (fun _ _ _ h => h) (waitsB_spec hb1) hb3 fuel listed _ w (noneB_spec hb2) (Region.free_spec hi hf) (by simpa using hr) (.inl ⟨hw, he rfl⟩) hS ?_⟩
    rw [hd]
    exact (hk (T.setIfInBounds d V) (by simp [hz]) (fun i hi => at_set_ne _ hi) (at_set _ (by omega))).out
theorem vg_takeW {ops : Array Oper} {late : Nat → Bool} {o : Oper} {T : Array Value} {df : List Deferred} {w : World} {Q : Exit → Act → World → Prop} {S : World → Prop} {fuel d n : Nat} {listed : Array Bool} (i : Nat) (c : Bool) (V : Value) (hi : ops[i]? = some o) (hs : Region.noSelect ops = true) (hf : Region.free .any ops listed i = true) (hr : (Region.ready .any ops listed).contains i = true) (hb3 : late i = false)
    (hw : Region.wanted o (yielded ops T) = c) (he : c = true → ∀ v, (execOp (⟨T, df⟩ : Act).eval o).run Try.prog v = .ok (.value V) v) (hd : o.dst = some d) (hz : T.size = n) (hn : d < n) (hS : (∀ k, late k = true → listed.getD k false = false) → S w)
    (hk : ∀ T' : Array Value, T'.size = n → (∀ j, j ≠ d → T'[j]? = T[j]?) → T'[d]? = some (gw c V) → VG ops late Q S fuel (listed.setIfInBounds i true) ⟨T', df⟩ w) : VG ops late Q S (fuel + 1) listed ⟨T, df⟩ w := by
  cases c with
  | false =>
    refine ⟨wpAnyG_firstW (v := undef) hi (Region.noSelect_spec hs) (fun _ _ _ h => h) hb3 fuel listed _ w (Region.free_spec hi hf) (by simpa using hr) (.inr ⟨hw, rfl⟩) hS ?_⟩
    rw [hd]
    exact (hk (T.setIfInBounds d undef) (by simp [hz]) (fun i hi => at_set_ne _ hi) (at_set _ (by omega))).out
  | true =>
    refine ⟨wpAnyG_firstW (v := V) hi (Region.noSelect_spec hs) (fun _ _ _ h => h) hb3 fuel listed _ w (Region.free_spec hi hf) (by simpa using hr) (.inl ⟨hw, fun v _ => he rfl v⟩) hS ?_⟩
    rw [hd]
    exact (hk (T.setIfInBounds d V) (by simp [hz]) (fun i hi => at_set_ne _ hi) (at_set _ (by omega))).out
theorem wpAnyG_all {ops : Array Oper} {late : Nat → Bool} {Q : Exit → Act → World → Prop} {S : World → Prop} {rs : List Nat} {fuel : Nat} {listed : Array Bool} {a : Act} {w : World} (hr : Region.ready .any ops listed = rs) (hne : rs ≠ [])
    (h : ∀ i ∈ rs, wpOp Try.prog ops Q i (fun a' w' => ((∀ k, late k = true → (listed.setIfInBounds i true).getD k false = false) → S w') ∧ wpAnyG Try.prog .any ops late Q S fuel (listed.setIfInBounds i true) a' w') a w) : wpAnyG Try.prog .any ops late Q S (fuel + 1) listed a w :=
  ⟨fun h0 => absurd (hr ▸ h0) hne, hr ▸ h⟩
theorem vg_val {ops : Array Oper} {late : Nat → Bool} {o : Oper} {T : Array Value} {df : List Deferred} {w : World} {Q : Exit → Act → World → Prop} {S : World → Prop} {fuel d n : Nat} {listed : Array Bool} (i : Nat) (V : Value) (w' : World) (hi : ops[i]? = some o) (hr : Region.ready .any ops listed = [i])
    (hw : Region.wanted o (yielded ops T) = true) (he : (execOp (⟨T, df⟩ : Act).eval o).run Try.prog w = .ok (.value V) w') (hd : o.dst = some d) (hz : T.size = n) (hn : d < n) (hS : (∀ k, late k = true → (listed.setIfInBounds i true).getD k false = false) → S w')
    (hk : ∀ T' : Array Value, T'.size = n → (∀ j, j ≠ d → T'[j]? = T[j]?) → T'[d]? = some (gw true V) → VG ops late Q S fuel (listed.setIfInBounds i true) ⟨T', df⟩ w') : VG ops late Q S (fuel + 1) listed ⟨T, df⟩ w := by
  refine ⟨wpAnyG_all hr (by simp) (fun j hj => ?_)⟩
  obtain rfl : j = i := by simpa using hj
  unfold wpOp
  rw [hi]
  simp only [hw, if_true]
  unfold Oper.wp
  rw [he]
  simp only [Oper.upon]
  rw [hd]
  exact .inl ⟨hS, (hk (T.setIfInBounds d V) (by simp [hz]) (fun i hi => at_set_ne _ hi) (at_set _ (by omega))).out⟩
theorem vg_store {ops : Array Oper} {late : Nat → Bool} {o : Oper} {T : Array Value} {df : List Deferred} {w : World} {Q : Exit → Act → World → Prop} {S : World → Prop} {fuel : Nat} {listed : Array Bool} (i : Nat) (w' : World) (hi : ops[i]? = some o) (hr : Region.ready .any ops listed = [i])
    (hl : (late i && decide (i < listed.size)) = true) (hw : Region.wanted o (yielded ops T) = true) (he : (execOp (⟨T, df⟩ : Act).eval o).run Try.prog w = .ok .skip w') (hd : o.dst = none)
    (hk : VG ops late Q S fuel (listed.setIfInBounds i true) ⟨T, df⟩ w') : VG ops late Q S (fuel + 1) listed ⟨T, df⟩ w := by
  refine ⟨wpAnyG_all hr (by simp) (fun j hj => ?_)⟩
  obtain rfl : j = i := by simpa using hj
  unfold wpOp
  rw [hi]
  simp only [hw, if_true]
  refine .inl ?_
  unfold Oper.wp
  rw [he, Oper.upon_skip]
  have hl2 : late j = true ∧ j < listed.size := by simpa using hl
  refine ⟨fun h => ?_, ?_⟩
  · have := h j hl2.1
    simp [Array.getD_eq_getD_getElem?, Array.getElem?_setIfInBounds, hl2.2] at this
  rw [hd]
  exact hk.out
end Go.Proofs.Yteamgkadhlbflaa
namespace Go.Proofs.Yteamgkadhlbflaa
open Go.RowKit Go.Maps
open Classical
theorem ex_lenG {o : Oper} {ρ : Operand → Value} {i : Nat} {a : Option Addr} {n k : Nat} {w : World} {t e : TypeId} (ho : o.op = .call { callee := .builtin .len, args := #[.tmp i], argTypes := #[t] }) (ht : o.type = 3) (hu : Try.prog.underlying t = some (.slice e)) (hx : ρ (.tmp i) = .slice a n k) : (execOp ρ o).run Try.prog w = .ok (.value (.int .i64 (n : Int))) w := by
  unfold execOp
  simp only [ho]
  rw [Sem.run_bind]
  simp only [resolve, List.map_toArray, List.map_cons, List.map_nil, hx, ht]
  go_simp
/-! A book of ints. -/
theorem gupd63 {w w' : World} {row : Option Nat} (h : w.grownBy w' row) : Upd (fun k => row = some k) w w' :=
  ⟨h.os, h.tape, h.output, h.size, fun k hk hs => h.block k hk (fun e => hs e.symm)⟩
theorem bsK18 (x : Kl) (w : World) : (Instr.buildSlice 24 1 #[(0, x.val)]).run Try.prog w = .ok (.slice (some ⟨w.heap.size, 0, none⟩) 1 1) (w.alloc (.cells x.cs.toArray 45)) := by unfold Kl.val Kl.cs; go_simp
def slP (r : Int) (x : Kl) : Bool := (decide (x.o.k = 1) || decide (x.o.k = 3)) && decide (x.o.s = r)
/-! ### Locality -/
def fx (l : List Kl) (r : Int) (i : Nat) : Nat := ((l.take i).filter (slP r)).length
def oV (o : Opn) : Value := .agg #[.int .i64 o.k, .int .i64 o.s, .string o.v]
theorem BB.ldr62 {w : World} {q : Nat} {T : TypeId} {r : Rs} (h : BB w q T (rsC r)) : (Instr.loadAt 43 (.pointer (some ⟨q, 0, none⟩))).run Try.prog w = .ok (rV r) w := h.ld 43 Try.underlying43 rfl info3r
theorem bdC62 (c n b e : Int) (o : Opn) (w : World) : (Instr.build 45 #[(0, .int .i64 c), (1, .int .i64 n), (2, oV o), (3, .int .i64 b), (4, .int .i64 e)]).run Try.prog w = .ok (⟨c, n, o, b, e, (0, 0, ⟨#[]⟩)⟩ : Kl).val w := by
  unfold Kl.val oV
  go_simp
theorem neqT62 (x y : Operand) {a b : Int} (h : ¬ a = b) (w : World) : (do eqGuard .neq 3 x y (.int .i64 a) (.int .i64 b); binOp .neq 3 (.int .i64 a) (.int .i64 b) : Sem Value).run Try.prog w = .ok (.bool true) w := by
  have := neqC x y a b w
  rw [decide_eq_false h] at this
  exact this
theorem neqF62 (x y : Operand) {a b : Int} (h : a = b) (w : World) : (do eqGuard .neq 3 x y (.int .i64 a) (.int .i64 b); binOp .neq 3 (.int .i64 a) (.int .i64 b) : Sem Value).run Try.prog w = .ok (.bool false) w := by
  have := neqC x y a b w
  rw [decide_eq_true h] at this
  exact this
theorem eqT62 (x y : Operand) {a b : Int} (h : a = b) (w : World) : (do eqGuard .eql 3 x y (.int .i64 a) (.int .i64 b); binOp .eql 3 (.int .i64 a) (.int .i64 b) : Sem Value).run Try.prog w = .ok (.bool true) w := by
  have := eqlC x y a b w
  rw [decide_eq_true h] at this
  exact this
theorem ltT62 (x y : Operand) {a b : Int} (h : a < b) (w : World) : (do eqGuard .lss 3 x y (.int .i64 a) (.int .i64 b); binOp .lss 3 (.int .i64 a) (.int .i64 b) : Sem Value).run Try.prog w = .ok (.bool true) w := by
  go_simp
theorem ltF62 (x y : Operand) {a b : Int} (h : ¬ a < b) (w : World) : (do eqGuard .lss 3 x y (.int .i64 a) (.int .i64 b); binOp .lss 3 (.int .i64 a) (.int .i64 b) : Sem Value).run Try.prog w = .ok (.bool false) w := by
  go_simp
/-! What LinearOwn's walk needs. -/
theorem fa4_68 (q o : Nat) (w : World) : (Instr.fieldAt 45 (.pointer (some ⟨q, o, none⟩)) 4).run Try.prog w = .ok (.pointer (some ⟨q, o + 6, none⟩)) w := by go_simp
theorem fa5_68 (q o : Nat) (w : World) : (Instr.fieldAt 45 (.pointer (some ⟨q, o, none⟩)) 5).run Try.prog w = .ok (.pointer (some ⟨q, o + 7, none⟩)) w := by go_simp
theorem ix0_68 (g n c j : Nat) (hj : j < n) (w : World) : (Instr.indexAt 24 (.slice (some ⟨g, 0, none⟩) n c) (.int .i64 (j : Int))).run Try.prog w = .ok (.pointer (some ⟨g, j * 10, none⟩)) w := by
  have := ixK g 0 n c j hj w
  rw [Nat.zero_add] at this
  exact this
/-! A list whose first calls are written over. -/
/-! Stores into an own list. -/
theorem stKe68 {w : World} {B g n c : Nat} {l : List Kl} {i : Nat} {x : Kl} (h : OwnY yK B w (.slice (some ⟨g, 0, none⟩) n c) l) (hx : l[i]? = some x) (z : Int) :
    ∃ w', (Instr.storeAt 3 (.pointer (some ⟨g, i * 10 + 6, none⟩)) (.int .i64 z)).run Try.prog w = .ok () w' ∧ OwnY yK B w' (.slice (some ⟨g, 0, none⟩) n c) (l.set i { x with e := z }) ∧ Upd (fun k => k = g) w w' :=
  ⟨_, stI18 (h.cell kK i x hx 6 _ rfl) (h.free _), h.set1 kK hx { x with e := z } 6 (.int .i64 z) (by decide) rfl, (Upd.refl (fun k => k = g) w).setCell (p := ⟨g, i * 10 + 6, none⟩) (.inl rfl) _⟩
theorem stKr68 {w : World} {B g n c : Nat} {l : List Kl} {i : Nat} {x : Kl} (h : OwnY yK B w (.slice (some ⟨g, 0, none⟩) n c) l) (hx : l[i]? = some x) (r : Rs) :
    ∃ w', (Instr.storeAt 43 (.pointer (some ⟨g, i * 10 + 7, none⟩)) (rV r)).run Try.prog w = .ok () w' ∧ OwnY yK B w' (.slice (some ⟨g, 0, none⟩) n c) (l.set i { x with r := r }) ∧ Upd (fun k => k = g) w w' := by
  have hst := run_storeAt_mid (P := Try.prog) w g (i * 10 + 7) 43 (rsC r).toArray (fun j hj => by
    have hj : j < 3 := hj
    have e : i * 10 + 7 + j = i * yK.k + (7 + j) := by show _ = i * 10 + (7 + j); omega
    refine ⟨?_, h.free _⟩
    rw [e, h.cell kK i x hx (7 + j) _ (List.getElem?_eq_getElem (by show 7 + j < 10; omega))]
    rfl) info3r (oneR18 r)
  have hl := (List.getElem?_eq_some_iff.1 hx).1
  have h1 := h.set1 kK hx { x with r := (r.1, x.r.2) } 7 (.int .i64 r.1) (by decide) rfl
  have h2 := h1.set1 kK (x := { x with r := (r.1, x.r.2) }) (by rw [List.getElem?_set_self hl]) { x with r := (r.1, r.2.1, x.r.2.2) } 8 (.int .i64 r.2.1) (by decide) rfl
  rw [List.set_set] at h2
  have h3 := h2.set1 kK (x := { x with r := (r.1, r.2.1, x.r.2.2) }) (by rw [List.getElem?_set_self hl]) { x with r := r } 9 (.string r.2.2) (by decide) rfl
  rw [List.set_set] at h3
  exact ⟨_, hst, h3, upd18 _ _ _ _⟩
theorem ownP69 {B : Nat} {w : World} {a : Option Addr} {n c : Nat} {l : List Kl} (h : OwnY yK B w (.slice a n c) l) (h0 : 0 < l.length) : ∃ g, a = some ⟨g, 0, none⟩ ∧ B ≤ g ∧ g < w.heap.size := by
  obtain ⟨a2, c2, e, _, _, h3, h4⟩ := h.form
  injection e with e1 _ _
  subst e1
  cases a with
  | none => rw [(h3 rfl).1] at h0; cases h0
  | some z =>
    obtain ⟨g, rfl, h5, h6⟩ := h4 z rfl
    exact ⟨g, rfl, h5, h6⟩
/-! Entries: in lists, as keys. -/
structure En18 where
  c : Int
  n : Int
  o : Opn
def En18.cs (x : En18) : List Value := [.int .i64 x.c, .int .i64 x.n, .int .i64 x.o.k, .int .i64 x.o.s, .string x.o.v]
def En18.val (x : En18) : Value := .agg #[.int .i64 x.c, .int .i64 x.n, .int .i64 x.o.k, .int .i64 x.o.s, .string x.o.v]
structure En18.fits (x : En18) : Prop where
  cw : (Lit.int .i64 x.c).wf = true
  nw : (Lit.int .i64 x.n).wf = true
  ow : x.o.fits
def zE18 : En18 := ⟨0, 0, ⟨0, 0, ByteArray.empty⟩⟩
def yE18 : Lay En18 := ⟨76, 77, 5, 48, En18.cs, zE18⟩
theorem kE18 : yE18.Ok := ⟨by decide, fun x => rfl, fun x u h => by
    simp [yE18, En18.cs] at h
    rcases h with rfl | rfl | rfl | rfl | rfl <;> rfl, Try.underlying77, ⟨.agg #[.int .i64 0, .int .i64 0, .int .i64 0, .int .i64 0, .string ByteArray.empty], by kernel_rfl, rfl⟩⟩
theorem info5e : (Try.prog.info? 76).map (·.size) = some 5 := by kernel_rfl
theorem ixE18 (q o n c j : Nat) (hj : j < n) (w : World) : (Instr.indexAt 77 (.slice (some ⟨q, o, none⟩) n c) (.int .i64 (j : Int))).run Try.prog w = .ok (.pointer (some ⟨q, o + j * 5, none⟩)) w := by
  have h1 : (j : Int) < (n : Int) := by omega
  go_simp
structure EAt (w : World) (q o : Nat) (x : En18) : Prop where
  lt : q < w.heap.size
  cl : ∀ (j : Nat) (u : Value), x.cs[j]? = some u → w.cell? ⟨q, o + j, none⟩ = some u
theorem SlY.en8 {w : World} {a : Option Addr} {n c : Nat} {L : List En18} (h : SlY yE18 w a n c L) {j : Nat} {x : En18} (hx : L[j]? = some x) : ∃ q o, a = some ⟨q, o, none⟩ ∧ EAt w q (o + j * 5) x := by
  obtain ⟨q, o, ea, hq, hl⟩ := h.place (by rintro rfl; simp at hx)
  exact ⟨q, o, ea, hq, fun i u hu => hl j x hx i u hu⟩
theorem EAt.later {w w' : World} {q o : Nat} {x : En18} (h : EAt w q o x) (hb : Below w.heap.size w w') : EAt w' q o x :=
  ⟨Nat.lt_of_lt_of_le h.lt hb.size, fun j u hu => (hb.cell (p := ⟨q, o + j, none⟩) h.lt).trans (h.cl j u hu)⟩
theorem EAt.ld {w : World} {q o : Nat} {x : En18} (h : EAt w q o x) : (Instr.loadAt 76 (.pointer (some ⟨q, o, none⟩))).run Try.prog w = .ok x.val w :=
  run_loadAt_mid (P := Try.prog) w q o 76 x.cs _ h.cl Try.underlying76 rfl info5e
theorem BB.ldE {w : World} {q : Nat} {T : TypeId} {x : En18} (h : BB w q T x.cs) : (Instr.loadAt 76 (.pointer (some ⟨q, 0, none⟩))).run Try.prog w = .ok x.val w := h.ld 76 Try.underlying76 rfl info5e
theorem oneE (x : En18) : x.cs.toArray.all (·.oneCell') = true := by
  rw [Array.all_eq_true_iff_forall_mem]
  intro u hu
  simp only [En18.cs, List.mem_toArray, List.mem_cons, List.not_mem_nil, or_false] at hu
  rcases hu with rfl | rfl | rfl | rfl | rfl <;> rfl
theorem BB.stE {w : World} {q : Nat} {T : TypeId} {x y : En18} (h : BB w q T y.cs) : (Instr.storeAt 76 (.pointer (some ⟨q, 0, none⟩)) x.val).run Try.prog w = .ok () (w.setCells q 0 x.cs) := h.st 76 x.cs rfl info5e (oneE x)
theorem alE18 (w : World) : (Instr.alloc 76 true (.tuple #[])).run Try.prog w = .ok (.pointer (some ⟨w.heap.size, 0, none⟩)) (w.alloc (.cells zE18.cs.toArray 76)) := by kernel_rfl
theorem neqEn18 (a b : Operand) (x : En18) (w : World) : (do eqGuard .neq 76 a b x.val x.val; binOp .neq 76 x.val x.val : Sem Value).run Try.prog w = .ok (.bool false) w := by
  rw [Sem.run_bind]
  have e : (eqGuard .neq 76 a b x.val x.val).run Try.prog w = .ok () w := by unfold En18.val; go_simp
  rw [e, Result.andThen_ok]
  unfold En18.val
  go_simp
/-! An entry as a key. -/
set_option maxHeartbeats 2000000 in
theorem copyEntries18 (O : List En18) (a : Option Addr) (c : Nat) (w : World) (h : SlY yE18 w a O.length c O) (hb : O.length * 48 ≤ 140737488355328) :
    Calls Try.prog 24 #[.slice a O.length c] w fun e w' => ∃ v, e = .returned v ∧ OwnY yE18 w.heap.size w' v O ∧ Below w.heap.size w w' := by
  go_enter Try.func24, Try.ntmps24
  go_upto_region 0 with fail
  refine wp_region_lit ?_
  refine vl_gen (fun T => Rp T 5 [(0, gw true (.slice a O.length c))]) ((Rp.nil rfl).cons rfl) (fun Z0 q0 => ?_)
  refine q0.t (.slice none 0 0) (ex_assign rfl rfl) fun _ q1 => ?_;clear q0
  refine wpList_nil ?_
  go_upto_region 1 with fail
  refine wp_region_lit ?_
  refine q1.t (.slice a O.length c) (ex_move rfl (q1.e (j := 0) rfl)) fun _ q2 => ?_;clear q1
  obtain ⟨v1, w1, ha1, o1, g1, _⟩ := run_appY kE18 w 77 w.heap.size [] (.slice none 0 0) a O.length c O h (OwnY.nil _ _ _) (Nat.le_refl _) (by unfold maxLen; simp; omega) (by show (([] : List En18).length + O.length) * 48 ≤ _; simp; omega)
  rw [List.nil_append] at o1
  have b1 : Below w.heap.size w w1 := (Below.refl _ _).grown g1 (Nat.le_refl _) (fun k hk => by cases hk)
  refine vw (v1) w1 (want_none rfl) (ex_app18 rfl rfl (q2.e (j := 3) rfl) ha1) rfl q2.z (by decide) (q2.k fun _ q3 => ?_);clear q2
  refine q3.t (v1) (ex_assign rfl (q3.e (j := 4) rfl)) fun _ q4 => ?_;clear q3
  refine wpList_nil ?_
  go_wp2
  refine bodyPost_ret (results_tmp rfl _ _ _) rfl ⟨v1, ?_, o1, b1⟩
  rw [getD_of (q4.a 2 rfl)]
  rfl
set_option maxHeartbeats 2000000 in
theorem sameEntries18 (L : List En18) (a a2 : Option Addr) (c c2 : Nat) (w : World) (h : SlY yE18 w a L.length c L) (h2 : SlY yE18 w a2 L.length c2 L) (hbn : L.length ≤ 140737488355328) :
    Calls Try.prog 30 #[.slice a L.length c, .slice a2 L.length c2] w fun e w' => e = .returned (.bool true) ∧ Below w.heap.size w w' := by
  go_enter Try.func30, Try.ntmps30
  go_upto_region 0 with fail
  refine wp_region_lit ?_
  refine vl_gen (fun T => Rp T 26 [(1, gw true (.slice a2 L.length c2)), (0, gw true (.slice a L.length c))]) (((Rp.nil rfl).cons rfl).cons rfl) (fun Z0 q0 => ?_)
  refine q0.t (.bool false) (ex_assign rfl rfl) fun _ q1 => ?_;clear q0
  refine wpList_nil ?_
  go_upto_region 1 with fail
  refine wp_region_lit ?_
  refine q1.t (.slice a L.length c) (ex_move rfl (q1.e (j := 0) rfl)) fun _ q2 => ?_;clear q1
  refine q2.t (.int .i64 (L.length : Int)) (ex_lenG rfl rfl Try.underlying77 (q2.e (j := 6) rfl)) fun _ q3 => ?_;clear q2
  refine q3.t (.slice a2 L.length c2) (ex_move rfl (q3.e (j := 1) rfl)) fun _ q4 => ?_;clear q3
  refine q4.t (.int .i64 (L.length : Int)) (ex_lenG rfl rfl Try.underlying77 (q4.e (j := 8) rfl)) fun _ q5 => ?_;clear q4
  refine q5.t (.bool false) (ex_bin rfl (q5.e (j := 7) rfl) (q5.e (j := 9) rfl) (neqNn _ _ _ _)) fun _ q6 => ?_;clear q5
  refine wpList_nil ?_
  go_upto_region 3 with fail
  refine wp_cond_false (q6.e (j := 10) rfl) ?_
  go_upto_region 3 with fail
  refine wp_region_lit ?_
  refine q6.t (.int .i64 ((0 : Nat) : Int)) (ex_assign rfl rfl) fun _ q7 => ?_;clear q6
  have q8 := ((((Rp.nil q7.z).cons (q7.a 0 rfl)).cons (q7.a 1 rfl)).cons (q7.a 5 rfl))
  clear q7
  refine wpList_nil ?_
  go_upto_region 4 with fail
  refine v_loop 5 L.length (fun j T wr => Rp T 26 [(5, gw true (.int .i64 (j : Int))), (1, gw true (.slice a2 L.length c2)), (0, gw true (.slice a L.length c))] ∧ Hid (Below w.heap.size w wr)) (fun j T w h => h.1.a 5 rfl) ⟨q8, Below.refl _ _⟩ ?_
  clear q8
  intro j T wr hj hh
  obtain ⟨q100, HJ⟩ := hh
  have br := HJ.out
  clear HJ
  by_cases hit : j < L.length
  · obtain ⟨x, hx⟩ : ∃ x, L[j]? = some x := ⟨_, List.getElem?_eq_getElem hit⟩
    obtain ⟨qa, oa, hqa, hca⟩ := (h.on br (Nat.le_refl _)).en8 hx
    obtain ⟨qb, ob, hqb, hcb⟩ := (h2.on br (Nat.le_refl _)).en8 hx
    go_upto_region 4 with fail
    refine wp_region_lit ?_
    refine q100.t (.int .i64 (j : Int)) (ex_move rfl (q100.e (j := 5) rfl)) fun _ q101 => ?_;clear q100
    refine q101.t (.slice a L.length c) (ex_move rfl (q101.e (j := 0) rfl)) fun _ q102 => ?_;clear q101
    refine q102.t (.int .i64 (L.length : Int)) (ex_lenG rfl rfl Try.underlying77 (q102.e (j := 12) rfl)) fun _ q103 => ?_;clear q102
    refine q103.t (.bool true) (ex_bin rfl (q103.e (j := 11) rfl) (q103.e (j := 13) rfl) (ltT _ _ hit _)) fun _ q104 => ?_;clear q103
    refine wpList_nil ?_
    go_upto_region 6 with fail
    refine wp_cond_true (q104.e (j := 14) rfl) ?_
    go_upto_region 6 with fail
    refine vq_start (C := fun v => Below wr.heap.size wr v) (by kernel_rfl) (by kernel_rfl) (Below.refl _ _).drew ?_
    refine q104.q (.slice a L.length c) (fun v hv => ex_move rfl (q104.e (j := 0) rfl)) fun _ q105 => ?_;clear q104
    refine q105.q (.int .i64 (j : Int)) (fun v hv => ex_move rfl (q105.e (j := 5) rfl)) fun _ q106 => ?_;clear q105
    refine q106.q (.pointer (some ⟨qa, oa + j * 5, none⟩)) (fun v hv => ex_ix rfl (q106.e (j := 17) rfl) (q106.e (j := 18) rfl) (by rw [hqa]; exact ixE18 qa oa L.length c j hit _)) fun _ q107 => ?_;clear q106
    refine q107.q (x.val) (fun v hv => ex_ld rfl (q107.e (j := 19) rfl) (hca.later hv).ld) fun _ q108 => ?_;clear q107
    refine q108.q (.slice a2 L.length c2) (fun v hv => ex_move rfl (q108.e (j := 1) rfl)) fun _ q109 => ?_;clear q108
    refine q109.q (.int .i64 (j : Int)) (fun v hv => ex_move rfl (q109.e (j := 5) rfl)) fun _ q110 => ?_;clear q109
    refine q110.q (.pointer (some ⟨qb, ob + j * 5, none⟩)) (fun v hv => ex_ix rfl (q110.e (j := 21) rfl) (q110.e (j := 22) rfl) (by rw [hqb]; exact ixE18 qb ob L.length c2 j hit _)) fun _ q111 => ?_;clear q110
    refine q111.q (x.val) (fun v hv => ex_ld rfl (q111.e (j := 23) rfl) (hcb.later hv).ld) fun _ q112 => ?_;clear q111
    refine q112.q (.bool false) (fun v hv => ex_bin rfl (q112.e (j := 20) rfl) (q112.e (j := 24) rfl) (neqEn18 _ _ x _)) fun _ q113 => ?_;clear q112
    refine vq_nil (fun r1 hr1 => ?_)
    have q114 := (((((Rp.nil q113.z).cons (q113.a 0 rfl)).cons (q113.a 1 rfl)).cons (q113.a 5 rfl)).cons (q113.a 25 rfl))
    clear q113
    go_upto_region 5 with fail
    refine wp_cond_false (q114.e (j := 25) rfl) ?_
    go_upto_region 5 with fail
    refine wp_region_lit ?_
    refine q114.t (.int .i64 (j : Int)) (ex_move rfl (q114.e (j := 5) rfl)) fun _ q115 => ?_;clear q114
    refine q115.t (.int .i64 ((j + 1 : Nat) : Int)) (ex_bin rfl (q115.e (j := 15) rfl) rfl (add1C _ _ j (by omega) _)) fun _ q116 => ?_;clear q115
    refine q116.t (.int .i64 ((j + 1 : Nat) : Int)) (ex_assign rfl (q116.e (j := 16) rfl)) fun _ q117 => ?_;clear q116
    have q118 := ((((Rp.nil q117.z).cons (q117.a 0 rfl)).cons (q117.a 1 rfl)).cons (q117.a 5 rfl))
    clear q117
    refine wpList_nil ?_
    exact ⟨_, rfl, hit, q118, br.trans (hr1.mono br.size)⟩
  · obtain rfl : j = L.length := by omega
    go_upto_region 4 with fail
    refine wp_region_lit ?_
    refine q100.t (.int .i64 (L.length : Int)) (ex_move rfl (q100.e (j := 5) rfl)) fun _ q101 => ?_;clear q100
    refine q101.t (.slice a L.length c) (ex_move rfl (q101.e (j := 0) rfl)) fun _ q102 => ?_;clear q101
    refine q102.t (.int .i64 (L.length : Int)) (ex_lenG rfl rfl Try.underlying77 (q102.e (j := 12) rfl)) fun _ q103 => ?_;clear q102
    refine q103.t (.bool false) (ex_bin rfl (q103.e (j := 11) rfl) (q103.e (j := 13) rfl) (ltF _ _ hit _)) fun _ q104 => ?_;clear q103
    refine wpList_nil ?_
    go_upto_region 8 with fail
    refine wp_cond_false (q104.e (j := 14) rfl) ?_
    go_upto_region 8 with fail
    refine wp_region_lit ?_
    refine q104.t (.bool true) (ex_assign rfl rfl) fun _ q105 => ?_;clear q104
    refine wpList_nil ?_
    go_wp2
    refine bodyPost_ret (results_tmp rfl _ _ _) rfl ⟨?_, br⟩
    rw [getD_of (q105.a 4 rfl)]
    rfl
/-! Rows of what was seen. -/
structure Sn where
  kd : Int
  ev : Int
  nd : Int
  vw : Int
  pl : Int
  dh : Int
  dl : Int
  en : En18
  r : Rs
  lg : SV En18
  pf : Int
  pt : Int
  bt : SV Int
def Sn.cs (x : Sn) : List Value := [.int .i64 x.kd, .int .i64 x.ev, .int .i64 x.nd, .int .i64 x.vw, .int .i64 x.pl, .int .u64 x.dh, .int .u64 x.dl, .int .i64 x.en.c, .int .i64 x.en.n, .int .i64 x.en.o.k, .int .i64 x.en.o.s, .string x.en.o.v, .int .i64 x.r.1, .int .i64 x.r.2.1, .string x.r.2.2, .slice x.lg.a x.lg.D.length x.lg.c, .int .i64 x.pf, .int .i64 x.pt, .slice x.bt.a x.bt.D.length x.bt.c]
def zSn : Sn := ⟨0, 0, 0, 0, 0, 0, 0, zE18, (0, 0, ByteArray.empty), ⟨none, 0, []⟩, 0, 0, ⟨none, 0, []⟩⟩
def ySn : Lay Sn := ⟨82, 22, 19, 200, Sn.cs, zSn⟩
theorem kSn : ySn.Ok := ⟨by decide, fun x => rfl, fun x u h => by
    simp [ySn, Sn.cs] at h
    rcases h with rfl | rfl | rfl | rfl | rfl | rfl | rfl | rfl | rfl | rfl | rfl | rfl | rfl | rfl | rfl | rfl | rfl | rfl | rfl <;> rfl, Try.underlying22, ⟨.agg #[.int .i64 0, .int .i64 0, .int .i64 0, .int .i64 0, .int .i64 0, .int .u64 0, .int .u64 0, .int .i64 0, .int .i64 0, .int .i64 0, .int .i64 0, .string ByteArray.empty, .int .i64 0, .int .i64 0, .string ByteArray.empty, .slice none 0 0, .int .i64 0, .int .i64 0, .slice none 0 0], by kernel_rfl, rfl⟩⟩
theorem snCells : Try.prog.cellsOf 82 = 19 := by kernel_rfl
theorem snBytes : Try.prog.bytesOf 82 = 200 := by kernel_rfl
theorem ixSn (q o n c j : Nat) (hj : j < n) (w : World) : (Instr.indexAt 22 (.slice (some ⟨q, o, none⟩) n c) (.int .i64 (j : Int))).run Try.prog w = .ok (.pointer (some ⟨q, o + j * 19, none⟩)) w := by
  have h1 : (j : Int) < (n : Int) := by omega
  go_simp
theorem faSn0 (q o : Nat) (w : World) : (Instr.fieldAt 82 (.pointer (some ⟨q, o, none⟩)) 0).run Try.prog w = .ok (.pointer (some ⟨q, o, none⟩)) w := by go_simp
theorem faSn6 (q o : Nat) (w : World) : (Instr.fieldAt 82 (.pointer (some ⟨q, o, none⟩)) 6).run Try.prog w = .ok (.pointer (some ⟨q, o + 7, none⟩)) w := by go_simp
theorem faSn7 (q o : Nat) (w : World) : (Instr.fieldAt 82 (.pointer (some ⟨q, o, none⟩)) 7).run Try.prog w = .ok (.pointer (some ⟨q, o + 12, none⟩)) w := by go_simp
theorem faSn8 (q o : Nat) (w : World) : (Instr.fieldAt 82 (.pointer (some ⟨q, o, none⟩)) 8).run Try.prog w = .ok (.pointer (some ⟨q, o + 15, none⟩)) w := by go_simp
theorem faSn9 (q o : Nat) (w : World) : (Instr.fieldAt 82 (.pointer (some ⟨q, o, none⟩)) 9).run Try.prog w = .ok (.pointer (some ⟨q, o + 16, none⟩)) w := by go_simp
theorem ldSnK {w : World} {q o : Nat} {l : List Sn} (h : LieY ySn w q o l) {j : Nat} {x : Sn} (hx : l[j]? = some x) : (Instr.loadAt 71 (.pointer (some ⟨q, o + j * 19, none⟩))).run Try.prog w = .ok (.int .i64 x.kd) w := by
  have hc : w.cell? ⟨q, o + j * 19, none⟩ = some (.int .i64 x.kd) := h j x hx 0 _ rfl
  go_simp
theorem ldSnE {w : World} {q o : Nat} {l : List Sn} (h : LieY ySn w q o l) {j : Nat} {x : Sn} (hx : l[j]? = some x) : (Instr.loadAt 76 (.pointer (some ⟨q, o + j * 19 + 7, none⟩))).run Try.prog w = .ok x.en.val w :=
  run_loadAt_mid (P := Try.prog) w q (o + j * 19 + 7) 76 x.en.cs _ (fun i u hu => by
    have := h j x hx (7 + i) u (by
      have hi : i < 5 := (List.getElem?_eq_some_iff.1 hu).1
      match i, hi, hu with
      | 0, _, hu => exact hu
      | 1, _, hu => exact hu
      | 2, _, hu => exact hu
      | 3, _, hu => exact hu
      | 4, _, hu => exact hu)
    rw [Nat.add_assoc]
    exact this) Try.underlying76 rfl info5e
theorem ldSnR {w : World} {q o : Nat} {l : List Sn} (h : LieY ySn w q o l) {j : Nat} {x : Sn} (hx : l[j]? = some x) : (Instr.loadAt 43 (.pointer (some ⟨q, o + j * 19 + 12, none⟩))).run Try.prog w = .ok (rV x.r) w :=
  run_loadAt_mid (P := Try.prog) w q (o + j * 19 + 12) 43 (rsC x.r) _ (fun i u hu => by
    have := h j x hx (12 + i) u (by
      have hi : i < 3 := (List.getElem?_eq_some_iff.1 hu).1
      match i, hi, hu with
      | 0, _, hu => exact hu
      | 1, _, hu => exact hu
      | 2, _, hu => exact hu)
    rw [Nat.add_assoc]
    exact this) Try.underlying43 rfl info3r
theorem ex_lenSn {o : Oper} {ρ : Operand → Value} {i : Nat} {a : Option Addr} {n k : Nat} {w : World} (ho : o.op = .call { callee := .builtin .len, args := #[.tmp i], argTypes := #[22] }) (ht : o.type = 3) (hx : ρ (.tmp i) = .slice a n k) : (execOp ρ o).run Try.prog w = .ok (.value (.int .i64 (n : Int))) w := by
  unfold execOp
  simp only [ho, resolve, invoke, builtin, Sem.run_bind, Sem.run_pure, Result.andThen_ok, List.map_toArray, List.map_cons, List.map_nil, hx, ht]
  go_simp
/-! The history of what was seen. -/
def plc70 (c n : Int) : List Kl → Nat → Int
  | [], _ => -1
  | x :: r, i => if x.c = c ∧ x.n = n then (i : Int) else plc70 c n r (i + 1)
theorem plc70_at {c n : Int} {l : List Kl} {j : Nat} {x : Kl} (h : l[j]? = some x) : plc70 c n (l.drop j) j = if x.c = c ∧ x.n = n then (j : Int) else plc70 c n (l.drop (j + 1)) (j + 1) := by
  obtain ⟨hl, hx⟩ := List.getElem?_eq_some_iff.1 h
  rw [List.drop_eq_getElem_cons hl, hx]
  rfl
theorem plc70_in {c n : Int} : ∀ (l : List Kl) (i : Nat), plc70 c n l i = -1 ∨ ∃ (j : Nat) (x : Kl), plc70 c n l i = ((i + j : Nat) : Int) ∧ l[j]? = some x ∧ x.c = c ∧ x.n = n
  | [], _ => .inl rfl
  | x :: r, i => by
    unfold plc70
    by_cases h : x.c = c ∧ x.n = n
    · rw [if_pos h]
      exact .inr ⟨0, x, rfl, rfl, h.1, h.2⟩
    · rw [if_neg h]
      rcases plc70_in r (i + 1) with e | ⟨j, y, e, h2, h3⟩
      · exact .inl e
      · exact .inr ⟨j + 1, y, by rw [e]; congr 1; omega, h2, h3⟩
def cls : List Sn → Nat → List Kl → List Kl × Int
  | [], _, l => (l, 0)
  | x :: r, i, l =>
    if x.kd = 1 then
      if askB x.en.c x.en.n x.en.o = false then ([], 180)
      else if 0 ≤ plc70 x.en.c x.en.n l 0 then ([], 160)
      else cls r (i + 1) (l ++ [⟨x.en.c, x.en.n, x.en.o, (i : Int), -1, (0, 0, ⟨#[]⟩)⟩])
    else if x.kd = 6 then
      match l[(plc70 x.en.c x.en.n l 0).toNat]? with
      | none => ([], 160)
      | some y =>
        if plc70 x.en.c x.en.n l 0 < 0 ∨ 0 ≤ y.e then ([], 160)
        else cls r (i + 1) (l.set (plc70 x.en.c x.en.n l 0).toNat { y with e := (i : Int), r := x.r })
    else cls r (i + 1) l
theorem cls_at {L : List Sn} {j : Nat} {x : Sn} {l : List Kl} (h : L[j]? = some x) : cls (L.drop j) j l = cls (x :: L.drop (j + 1)) j l := by
  obtain ⟨hl, hx⟩ := List.getElem?_eq_some_iff.1 h
  rw [List.drop_eq_getElem_cons hl, hx]
theorem eqI71 (x y : Operand) (a b : Int) (w : World) : (do eqGuard .eql 3 x y (.int .i64 a) (.int .i64 b); binOp .eql 3 (.int .i64 a) (.int .i64 b) : Sem Value).run Try.prog w = .ok (.bool (decide (a = b))) w := by
  by_cases h : a = b
  · rw [decide_eq_true h]; exact eqT62 _ _ h _
  · rw [decide_eq_false h]; go_simp
theorem eqS71 (x y : Operand) (a b : Int) (w : World) : (do eqGuard .eql 71 x y (.int .i64 a) (.int .i64 b); binOp .eql 71 (.int .i64 a) (.int .i64 b) : Sem Value).run Try.prog w = .ok (.bool (decide (a = b))) w := by
  by_cases h : a = b
  · rw [decide_eq_true h]; subst h; go_simp
  · rw [decide_eq_false h]; go_simp
theorem geT71 (x y : Operand) {a b : Int} (h : b ≤ a) (w : World) : (do eqGuard .geq 3 x y (.int .i64 a) (.int .i64 b); binOp .geq 3 (.int .i64 a) (.int .i64 b) : Sem Value).run Try.prog w = .ok (.bool true) w := by go_simp
theorem geF71 (x y : Operand) {a b : Int} (h : ¬ b ≤ a) (w : World) : (do eqGuard .geq 3 x y (.int .i64 a) (.int .i64 b); binOp .geq 3 (.int .i64 a) (.int .i64 b) : Sem Value).run Try.prog w = .ok (.bool false) w := by go_simp
theorem faEn0 (q : Nat) (w : World) : (Instr.fieldAt 76 (.pointer (some ⟨q, 0, none⟩)) 0).run Try.prog w = .ok (.pointer (some ⟨q, 0, none⟩)) w := by go_simp
theorem faEn1 (q : Nat) (w : World) : (Instr.fieldAt 76 (.pointer (some ⟨q, 0, none⟩)) 1).run Try.prog w = .ok (.pointer (some ⟨q, 1, none⟩)) w := by go_simp
theorem faEn2 (q : Nat) (w : World) : (Instr.fieldAt 76 (.pointer (some ⟨q, 0, none⟩)) 2).run Try.prog w = .ok (.pointer (some ⟨q, 2, none⟩)) w := by go_simp
theorem info3o71 : (Try.prog.info? 41).map (·.size) = some 3 := by kernel_rfl
theorem BB.ldEO {w : World} {q : Nat} {T : TypeId} {x : En18} (h : BB w q T x.cs) : (Instr.loadAt 41 (.pointer (some ⟨q, 2, none⟩))).run Try.prog w = .ok (oV x.o) w :=
  run_loadAt_mid (P := Try.prog) w q 2 41 [.int .i64 x.o.k, .int .i64 x.o.s, .string x.o.v] _ (fun i u hu => by
    have hi : i < 3 := (List.getElem?_eq_some_iff.1 hu).1
    rw [h.cell]
    match i, hi, hu with
    | 0, _, hu => exact hu
    | 1, _, hu => exact hu
    | 2, _, hu => exact hu) Try.underlying41 rfl info3o71
theorem fa1_71 (q o : Nat) (w : World) : (Instr.fieldAt 45 (.pointer (some ⟨q, o, none⟩)) 1).run Try.prog w = .ok (.pointer (some ⟨q, o + 1, none⟩)) w := by go_simp
set_option maxHeartbeats 2000000 in
theorem place18 (l : List Kl) (a : Option Addr) (c : Nat) (cl n : Int) (w : World) (h : SlY yK w a l.length c l) (hn : l.length ≤ 9000000000000000000 - 1) :
    Calls Try.prog 29 #[.slice a l.length c, .int .i64 cl, .int .i64 n] w fun e w' => e = .returned (.int .i64 (plc70 cl n l 0)) ∧ w' = w := by
  go_enter Try.func29, Try.ntmps29
  go_upto_region 0 with fail
  refine wp_region_lit ?_
  refine vl_gen (fun T => Rp T 31 [(2, gw true (.int .i64 (n))), (1, gw true (.int .i64 (cl))), (0, gw true (.slice a l.length c))]) ((((Rp.nil rfl).cons rfl).cons rfl).cons rfl) (fun Z0 q0 => ?_)
  refine q0.t (.int .i64 ((0 : Nat) : Int)) (ex_assign rfl rfl) fun _ q1 => ?_;clear q0
  refine wpList_nil ?_
  go_upto_region 1 with fail
  refine wp_region_lit ?_
  refine q1.t (.int .i64 ((0 : Nat) : Int)) (ex_assign rfl rfl) fun _ q2 => ?_;clear q1
  have q3 := (((((Rp.nil q2.z).cons (q2.a 0 rfl)).cons (q2.a 1 rfl)).cons (q2.a 2 rfl)).cons (q2.a 7 rfl))
  clear q2
  refine wpList_nil ?_
  go_upto_region 2 with fail
  refine v_loop 7 l.length (fun j T wr => Rp T 31 [(7, gw true (.int .i64 ((j : Nat) : Int))), (2, gw true (.int .i64 (n))), (1, gw true (.int .i64 (cl))), (0, gw true (.slice a l.length c))] ∧ plc70 cl n (l.drop j) j = plc70 cl n l 0 ∧ wr = w) (fun j T w h => h.1.a 7 rfl) ⟨q3, by rw [List.drop_zero], rfl⟩ ?_
  clear q3
  intro j T wr hj hh
  obtain ⟨q100, hP, hwr⟩ := hh
  have hwr := hwr.symm
  subst hwr
  by_cases hit : j < l.length
  · obtain ⟨x, hx⟩ : ∃ x, l[j]? = some x := ⟨_, List.getElem?_eq_getElem (by omega)⟩
    obtain ⟨qa, oa, hqa, hqal, hl⟩ := h.place (by rintro rfl; simp at hx)
    rw [plc70_at hx] at hP
    go_upto_region 2 with fail
    refine wp_region_lit ?_
    refine q100.t (.int .i64 ((j : Nat) : Int)) (ex_move rfl (q100.e (j := 7) rfl)) fun _ q101 => ?_;clear q100
    refine q101.t (.slice a l.length c) (ex_move rfl (q101.e (j := 0) rfl)) fun _ q102 => ?_;clear q101
    refine q102.t (.int .i64 ((l.length : Nat) : Int)) (ex_len18 rfl rfl (q102.e (j := 9) rfl)) fun _ q103 => ?_;clear q102
    refine q103.t (.bool true) (ex_bin rfl (q103.e (j := 8) rfl) (q103.e (j := 10) rfl) (ltT _ _ hit _)) fun _ q104 => ?_;clear q103
    refine wpList_nil ?_
    go_upto_region 4 with fail
    refine wp_cond_true (q104.e (j := 11) rfl) ?_
    go_upto_region 4 with fail
    refine wp_region_lit ?_
    refine q104.t (.slice a l.length c) (ex_move rfl (q104.e (j := 0) rfl)) fun _ q105 => ?_;clear q104
    refine q105.t (.int .i64 ((j : Nat) : Int)) (ex_move rfl (q105.e (j := 7) rfl)) fun _ q106 => ?_;clear q105
    refine q106.t (.pointer (some ⟨qa, oa + j * 10, none⟩)) (ex_ix rfl (q106.e (j := 14) rfl) (q106.e (j := 15) rfl) (by rw [hqa]; exact ixK qa oa l.length c j hit _)) fun _ q107 => ?_;clear q106
    refine q107.t (.pointer (some ⟨qa, oa + j * 10, none⟩)) (ex_fa rfl (q107.e (j := 16) rfl) (faK0o _ _ _)) fun _ q108 => ?_;clear q107
    refine q108.t (.int .i64 (x.c)) (ex_ld rfl (q108.e (j := 17) rfl) (ldI18 (hl j x hx 0 _ rfl))) fun _ q109 => ?_;clear q108
    refine q109.t (.int .i64 (cl)) (ex_move rfl (q109.e (j := 1) rfl)) fun _ q110 => ?_;clear q109
    refine q110.t (.bool (decide (x.c = cl))) (ex_bin rfl (q110.e (j := 18) rfl) (q110.e (j := 19) rfl) (eqI71 _ _ _ _ _)) fun _ q111 => ?_;clear q110
    refine q111.t (.bool (decide (x.c = cl))) (ex_move rfl (q111.e (j := 20) rfl)) fun _ q112 => ?_;clear q111
    refine vl _ (.slice a l.length c) (want_g rfl rfl (q112.a 21 rfl)) (fun hc => ex_move rfl (q112.e (j := 0) rfl)) rfl q112.z (by decide) (q112.k fun _ q113 => ?_);clear q112
    refine vl _ (.int .i64 ((j : Nat) : Int)) (want_g rfl rfl (q113.a 21 rfl)) (fun hc => ex_move rfl (q113.e (j := 7) rfl)) rfl q113.z (by decide) (q113.k fun _ q114 => ?_);clear q113
    refine vl _ (.pointer (some ⟨qa, oa + j * 10, none⟩)) (want_g rfl rfl (q114.a 21 rfl)) (fun hc => ex_ix rfl (ev (q114.a 22 rfl) hc) (ev (q114.a 23 rfl) hc) (by rw [hqa]; exact ixK qa oa l.length c j hit _)) rfl q114.z (by decide) (q114.k fun _ q115 => ?_);clear q114
    refine vl _ (.pointer (some ⟨qa, oa + j * 10 + 1, none⟩)) (want_g rfl rfl (q115.a 21 rfl)) (fun hc => ex_fa rfl (ev (q115.a 24 rfl) hc) (fa1_71 _ _ _)) rfl q115.z (by decide) (q115.k fun _ q116 => ?_);clear q115
    refine vl _ (.int .i64 (x.n)) (want_g rfl rfl (q116.a 21 rfl)) (fun hc => ex_ld rfl (ev (q116.a 25 rfl) hc) (ldI18 (hl j x hx 1 _ rfl))) rfl q116.z (by decide) (q116.k fun _ q117 => ?_);clear q116
    refine vl _ (.int .i64 (n)) (want_g rfl rfl (q117.a 21 rfl)) (fun hc => ex_move rfl (q117.e (j := 2) rfl)) rfl q117.z (by decide) (q117.k fun _ q118 => ?_);clear q117
    refine vl _ (.bool (decide (x.n = n))) (want_g rfl rfl (q118.a 21 rfl)) (fun hc => ex_bin rfl (ev (q118.a 26 rfl) hc) (ev (q118.a 27 rfl) hc) (eqI71 _ _ _ _ _)) rfl q118.z (by decide) (q118.k fun _ q119 => ?_);clear q118
    refine q119.t (.bool (decide (x.c = cl) && decide (x.n = n))) (ex_and (c := true) (b := decide (x.c = cl)) (z := decide (x.n = n)) rfl (q119.a 21 rfl) (q119.a 28 rfl) rfl) fun _ q120 => ?_;clear q119
    have q121 := ((((((Rp.nil q120.z).cons (q120.a 0 rfl)).cons (q120.a 1 rfl)).cons (q120.a 2 rfl)).cons (q120.a 7 rfl)).cons (q120.a 29 rfl))
    clear q120
    refine wpList_nil ?_
    by_cases hm : x.c = cl ∧ x.n = n
    · rw [show (decide (x.c = cl) && decide (x.n = n)) = true by simp [hm]] at q121
      rw [if_pos hm] at hP
      go_upto_region 5 with fail
      refine wp_cond_true (q121.e (j := 29) rfl) ?_
      go_upto_region 5 with fail
      refine wp_region_lit ?_
      refine q121.t (.int .i64 ((j : Nat) : Int)) (ex_move rfl (q121.e (j := 7) rfl)) fun _ q122 => ?_;clear q121
      refine q122.t (.int .i64 ((j : Nat) : Int)) (ex_assign rfl (q122.e (j := 30) rfl)) fun _ q123 => ?_;clear q122
      refine wpList_nil ?_
      go_wp2
      refine bodyPost_ret (results_tmp rfl _ _ _) rfl ?_
      rw [getD_of (q123.a 6 rfl)]
      exact ⟨by rw [← hP]; rfl, rfl⟩
    · rw [show (decide (x.c = cl) && decide (x.n = n)) = false by rw [← decide_eq_true_eq (p := x.c = cl), ← decide_eq_true_eq (p := x.n = n)] at hm; cases h7 : decide (x.c = cl) <;> cases h8 : decide (x.n = n) <;> simp_all] at q121
      rw [if_neg hm] at hP
      go_upto_region 3 with fail
      refine wp_cond_false (q121.e (j := 29) rfl) ?_
      go_upto_region 3 with fail
      refine wp_region_lit ?_
      refine q121.t (.int .i64 ((j : Nat) : Int)) (ex_move rfl (q121.e (j := 7) rfl)) fun _ q122 => ?_;clear q121
      refine q122.t (.int .i64 ((j + 1 : Nat) : Int)) (ex_bin rfl (q122.e (j := 12) rfl) rfl (add1C _ _ j (by omega) _)) fun _ q123 => ?_;clear q122
      refine q123.t (.int .i64 ((j + 1 : Nat) : Int)) (ex_assign rfl (q123.e (j := 13) rfl)) fun _ q124 => ?_;clear q123
      have q125 := (((((Rp.nil q124.z).cons (q124.a 0 rfl)).cons (q124.a 1 rfl)).cons (q124.a 2 rfl)).cons (q124.a 7 rfl))
      clear q124
      refine wpList_nil ?_
      exact ⟨_, rfl, hit, q125, hP, rfl⟩
  · obtain rfl : j = l.length := by omega
    rw [List.drop_length] at hP
    go_upto_region 2 with fail
    refine wp_region_lit ?_
    refine q100.t (.int .i64 ((l.length : Nat) : Int)) (ex_move rfl (q100.e (j := 7) rfl)) fun _ q101 => ?_;clear q100
    refine q101.t (.slice a l.length c) (ex_move rfl (q101.e (j := 0) rfl)) fun _ q102 => ?_;clear q101
    refine q102.t (.int .i64 ((l.length : Nat) : Int)) (ex_len18 rfl rfl (q102.e (j := 9) rfl)) fun _ q103 => ?_;clear q102
    refine q103.t (.bool false) (ex_bin rfl (q103.e (j := 8) rfl) (q103.e (j := 10) rfl) (ltF _ _ hit _)) fun _ q104 => ?_;clear q103
    refine wpList_nil ?_
    go_upto_region 6 with fail
    refine wp_cond_false (q104.e (j := 11) rfl) ?_
    go_upto_region 6 with fail
    refine wp_region_lit ?_
    refine q104.t (.int .i64 (-1)) (ex_assign rfl rfl) fun _ q105 => ?_;clear q104
    refine wpList_nil ?_
    go_wp2
    refine bodyPost_ret (results_tmp rfl _ _ _) rfl ?_
    rw [getD_of (q105.a 6 rfl)]
    exact ⟨by rw [← hP]; rfl, rfl⟩
theorem cls_cons (x : Sn) (r : List Sn) (i : Nat) (l : List Kl) : cls (x :: r) i l = if x.kd = 1 then
      if askB x.en.c x.en.n x.en.o = false then ([], 180)
      else if 0 ≤ plc70 x.en.c x.en.n l 0 then ([], 160)
      else cls r (i + 1) (l ++ [⟨x.en.c, x.en.n, x.en.o, (i : Int), -1, (0, 0, ⟨#[]⟩)⟩])
    else if x.kd = 6 then
      match l[(plc70 x.en.c x.en.n l 0).toNat]? with
      | none => ([], 160)
      | some y =>
        if plc70 x.en.c x.en.n l 0 < 0 ∨ 0 ≤ y.e then ([], 160)
        else cls r (i + 1) (l.set (plc70 x.en.c x.en.n l 0).toNat { y with e := (i : Int), r := x.r })
    else cls r (i + 1) l := by rfl
set_option maxHeartbeats 2000000 in
theorem refcalls18 (L : List Sn) (a : Option Addr) (c : Nat) (w : World) (h : SlY ySn w a L.length c L) (hf : ∀ x ∈ L, x.en.o.fits) (hn : L.length * 200 ≤ 140737488351232) :
    Calls Try.prog 9 #[.slice a L.length c] w fun e w' => ∃ v, e = .returned (.tuple #[v, .int .i64 (cls L 0 []).2]) ∧ OwnY yK w.heap.size w' v (cls L 0 []).1 ∧ Below w.heap.size w w' := by
  go_enter Try.func9, Try.ntmps9
  go_upto_region 0 with fail
  refine wp_region_lit ?_
  refine vl_gen (fun T => Rp T 80 [(0, gw true (.slice a L.length c))]) ((Rp.nil rfl).cons rfl) (fun Z0 q0 => ?_)
  refine q0.t (.slice none 0 0) (ex_assign rfl rfl) fun _ q1 => ?_;clear q0
  refine q1.t (.int .i64 (0)) (ex_assign rfl rfl) fun _ q2 => ?_;clear q1
  refine wpList_nil ?_
  go_upto_region 1 with fail
  refine wp_region_lit ?_
  refine q2.t (.slice none 0 0) (ex_assign rfl rfl) fun _ q3 => ?_;clear q2
  refine wpList_nil ?_
  go_upto_region 2 with fail
  refine wp_region_lit ?_
  refine q3.t (.int .i64 ((0 : Nat) : Int)) (ex_assign rfl rfl) fun _ q4 => ?_;clear q3
  have q5 := ((((Rp.nil q4.z).cons (q4.a 0 rfl)).cons (q4.a 4 rfl)).cons (q4.a 5 rfl))
  clear q4
  refine wpList_nil ?_
  go_upto_region 3 with fail
  refine v_loop 5 L.length (fun j T wr => ∃ (v : Value) (D : List Kl), Rp T 80 [(5, gw true (.int .i64 ((j : Nat) : Int))), (4, gw true (v)), (0, gw true (.slice a L.length c))] ∧ Hid (OwnY yK w.heap.size wr v D ∧ cls (L.drop j) j D = cls L 0 [] ∧ D.length ≤ j ∧ Below w.heap.size w wr)) (fun j T w h => by obtain ⟨_, _, h, _⟩ := h; exact h.a 5 rfl) ⟨_, [], q5, OwnY.nil _ _ _, by rw [List.drop_zero], Nat.le_refl _, Below.refl _ _⟩ ?_
  clear q5
  intro j T wr hj hh
  obtain ⟨v, D, q100, HJ⟩ := hh
  obtain ⟨oD, hcl, hDl, d⟩ := HJ.out
  clear HJ
  have zr := d.size
  obtain ⟨ad, cd, hvd, _, _, _, _⟩ := oD.form
  subst hvd
  by_cases hit : j < L.length
  · obtain ⟨x, hx⟩ : ∃ x, L[j]? = some x := ⟨_, List.getElem?_eq_getElem (by omega)⟩
    have fx := hf x (List.mem_of_getElem? hx)
    obtain ⟨qa, oa, hqa, hqal, hl0⟩ := h.place (by rintro rfl; simp at hx)
    have hl : LieY ySn wr qa oa L := hl0.upd (S := fun _ => False) (Upd.of_below d) hqal id
    rw [cls_at hx] at hcl
    rw [cls_cons] at hcl
    go_upto_region 3 with fail
    refine wp_region_lit ?_
    refine q100.t (.int .i64 ((j : Nat) : Int)) (ex_move rfl (q100.e (j := 5) rfl)) fun _ q101 => ?_;clear q100
    refine q101.t (.slice a L.length c) (ex_move rfl (q101.e (j := 0) rfl)) fun _ q102 => ?_;clear q101
    refine q102.t (.int .i64 ((L.length : Nat) : Int)) (ex_lenSn rfl rfl (q102.e (j := 9) rfl)) fun _ q103 => ?_;clear q102
    refine q103.t (.bool true) (ex_bin rfl (q103.e (j := 8) rfl) (q103.e (j := 10) rfl) (ltT _ _ hit _)) fun _ q104 => ?_;clear q103
    refine wpList_nil ?_
    go_upto_region 5 with fail
    refine wp_cond_true (q104.e (j := 11) rfl) ?_
    go_upto_region 5 with fail
    refine wp_region_lit ?_
    refine q104.t (.slice a L.length c) (ex_move rfl (q104.e (j := 0) rfl)) fun _ q105 => ?_;clear q104
    refine q105.t (.int .i64 ((j : Nat) : Int)) (ex_move rfl (q105.e (j := 5) rfl)) fun _ q106 => ?_;clear q105
    refine q106.t (.pointer (some ⟨qa, oa + j * 19, none⟩)) (ex_ix rfl (q106.e (j := 14) rfl) (q106.e (j := 15) rfl) (by rw [hqa]; exact ixSn qa oa L.length c j hit _)) fun _ q107 => ?_;clear q106
    refine q107.t (.pointer (some ⟨qa, oa + j * 19 + 7, none⟩)) (ex_fa rfl (q107.e (j := 16) rfl) (faSn6 _ _ _)) fun _ q108 => ?_;clear q107
    refine q108.t (x.en.val) (ex_ld rfl (q108.e (j := 17) rfl) (ldSnE hl hx)) fun _ q109 => ?_;clear q108
    obtain ⟨w1, hw1⟩ : ∃ y, y = wr.alloc (.cells zE18.cs.toArray 76) := ⟨_, rfl⟩
    refine vw (.pointer (some ⟨wr.heap.size, 0, none⟩)) w1 (want_none rfl) (ex_al rfl (by rw [hw1]; exact alE18 _)) rfl q109.z (by decide) (q109.k fun _ q110 => ?_);clear q109
    have Be1 : BB w1 wr.heap.size 76 zE18.cs := by rw [hw1]; exact BB.new _ _ _
    have b1 : Below wr.heap.size wr w1 := by rw [hw1]; exact (Below.refl _ _).alloc (Nat.le_refl _) _
    have y1 : w1.heap.size = wr.heap.size + 1 := by rw [hw1]; exact World.size_alloc _ _
    clear hw1
    obtain ⟨w2, hw2⟩ : ∃ y, y = w1.setCells wr.heap.size 0 x.en.cs := ⟨_, rfl⟩
    refine vs w2 (want_none rfl) (ex_st rfl (q110.e (j := 6) rfl) (q110.e (j := 18) rfl) (by rw [hw2]; exact Be1.stE)) rfl ?_
    have Be : BB w2 wr.heap.size 76 x.en.cs := by rw [hw2]; exact Be1.whole _ rfl
    have u2 : Upd (fun k => k = wr.heap.size) w1 w2 := by rw [hw2]; exact upd18 _ _ _ _
    clear hw2 Be1
    have y2 := u2.size
    have b2 : Below wr.heap.size wr w2 := b1.trans (bel_ge u2 (by omega) (by omega))
    have o2 := oD.grow b2
    have hl2 : LieY ySn w2 qa oa L := hl.upd (S := fun _ => False) (Upd.of_below b2) (by omega) id
    have d2 := d.trans (b2.mono zr)
    have hsD := o2.sl' kK
    refine wpList_nil ?_
    go_upto_region 6 with fail
    refine wp_region_lit ?_
    refine q110.t (.slice a L.length c) (ex_move rfl (q110.e (j := 0) rfl)) fun _ q111 => ?_;clear q110
    refine q111.t (.int .i64 ((j : Nat) : Int)) (ex_move rfl (q111.e (j := 5) rfl)) fun _ q112 => ?_;clear q111
    refine q112.t (.pointer (some ⟨qa, oa + j * 19, none⟩)) (ex_ix rfl (q112.e (j := 19) rfl) (q112.e (j := 20) rfl) (by rw [hqa]; exact ixSn qa oa L.length c j hit _)) fun _ q113 => ?_;clear q112
    refine q113.t (.pointer (some ⟨qa, oa + j * 19, none⟩)) (ex_fa rfl (q113.e (j := 21) rfl) (faSn0 _ _ _)) fun _ q114 => ?_;clear q113
    refine q114.t (.int .i64 (x.kd)) (ex_ld rfl (q114.e (j := 22) rfl) (ldSnK hl2 hx)) fun _ q115 => ?_;clear q114
    have q116 := ((((((Rp.nil q115.z).cons (q115.a 0 rfl)).cons (q115.a 4 rfl)).cons (q115.a 5 rfl)).cons (q115.a 6 rfl)).cons (q115.a 23 rfl))
    clear q115
    refine wpList_nil ?_
    go_upto_region 7 with fail
    refine wp_region_lit ?_
    refine q116.t (.bool (decide (x.kd = 1))) (ex_bin (Y := .int .i64 (1)) rfl (q116.e (j := 23) rfl) rfl (eqS71 _ _ _ _ _)) fun _ q117 => ?_;clear q116
    refine q117.t (.bool (decide (x.kd = 1))) (ex_assign rfl (q117.e (j := 25) rfl)) fun _ q118 => ?_;clear q117
    have q119 := (((((((Rp.nil q118.z).cons (q118.a 0 rfl)).cons (q118.a 4 rfl)).cons (q118.a 5 rfl)).cons (q118.a 6 rfl)).cons (q118.a 23 rfl)).cons (q118.a 24 rfl))
    clear q118
    refine wpList_nil ?_
    by_cases hk : x.kd = 1
    · rw [if_pos hk] at hcl
      rw [decide_eq_true hk] at q119
      go_upto_region 8 with fail
      refine wp_cond_true (q119.e (j := 24) rfl) ?_
      go_upto_region 8 with fail
      refine wp_region_lit ?_
      refine q119.t (x.en.val) (ex_ld rfl (q119.e (j := 6) rfl) Be.ldE) fun _ q120 => ?_;clear q119
      refine vcallP (want_none rfl) (ex_call rfl (by simp only [List.map_toArray, List.map_cons, List.map_nil, (q120.e (j := 26) rfl), evc] <;> rfl) rfl) (refEntry18 x.en.c x.en.n x.en.o.k x.en.o.s x.en.o.v fx w2) rfl q120.z (by decide) ?_
      rintro e w3 ⟨rfl, b3⟩
      refine ⟨_, rfl, q120.k fun _ q121 => ?_⟩;clear q120
      have hask := er18_ask x.en.c x.en.n x.en.o.k x.en.o.s x.en.o.v
      have z3 := b3.size
      have d3 := d2.trans (b3.mono d2.size)
      by_cases he : er18 x.en.c x.en.n x.en.o.k x.en.o.s x.en.o.v = 0
      · rw [decide_eq_true he] at hask
        have hask2 : askB x.en.c x.en.n x.en.o = true := hask.symm
        rw [hask2] at hcl
        rw [if_neg (by decide)] at hcl
        replace Be := Be.later b3
        replace o2 := o2.grow b3
        replace hsD := o2.sl' kK
        clear hl2
        refine q121.t (.bool false) (ex_bin (Y := .int .i64 (0)) rfl (q121.e (j := 27) rfl) rfl (neqF62 _ _ he _)) fun _ q122 => ?_;clear q121
        refine wpList_nil ?_
        go_upto_region 10 with fail
        refine wp_cond_false (q122.e (j := 28) rfl) ?_
        go_upto_region 10 with fail
        refine wp_region_lit ?_
        refine q122.t (.slice ad D.length cd) (ex_move rfl (q122.e (j := 4) rfl)) fun _ q123 => ?_;clear q122
        refine q123.t (.pointer (some ⟨wr.heap.size, 0, none⟩)) (ex_fa rfl (q123.e (j := 6) rfl) (faEn0 _ _)) fun _ q124 => ?_;clear q123
        refine q124.t (.int .i64 (x.en.c)) (ex_ld rfl (q124.e (j := 30) rfl) (ldI18 (by rw [Be.cell]; rfl))) fun _ q125 => ?_;clear q124
        refine q125.t (.pointer (some ⟨wr.heap.size, 1, none⟩)) (ex_fa rfl (q125.e (j := 6) rfl) (faEn1 _ _)) fun _ q126 => ?_;clear q125
        refine q126.t (.int .i64 (x.en.n)) (ex_ld rfl (q126.e (j := 32) rfl) (ldI18 (by rw [Be.cell]; rfl))) fun _ q127 => ?_;clear q126
        refine vcallP (want_none rfl) (ex_call rfl (by simp only [List.map_toArray, List.map_cons, List.map_nil, (q127.e (j := 29) rfl), (q127.e (j := 31) rfl), (q127.e (j := 33) rfl), evc] <;> rfl) rfl) (place18 D ad cd x.en.c x.en.n w3 hsD (by omega)) rfl q127.z (by decide) ?_
        rintro e w9 ⟨rfl, hw9⟩
        refine ⟨_, rfl, q127.k fun _ q128 => ?_⟩;clear q127
        have hw9 := hw9.symm
        subst hw9
        by_cases hp : 0 ≤ plc70 x.en.c x.en.n D 0
        · rw [if_pos hp] at hcl
          refine q128.t (.bool true) (ex_bin (Y := .int .i64 (0)) rfl (q128.e (j := 34) rfl) rfl (geT71 _ _ hp _)) fun _ q129 => ?_;clear q128
          refine wpList_nil ?_
          go_upto_region 11 with fail
          refine wp_cond_true (q129.e (j := 35) rfl) ?_
          go_upto_region 11 with fail
          refine wp_region_lit ?_
          refine q129.t (.slice none 0 0) (ex_assign rfl rfl) fun _ q130 => ?_;clear q129
          refine q130.t (.int .i64 (160)) (ex_assign rfl rfl) fun _ q131 => ?_;clear q130
          refine wpList_nil ?_
          go_wp2
          exact bodyPost_ret (results2_18 rfl (q131.a 2 rfl) (q131.a 3 rfl)) rfl ⟨.slice none 0 0, by rw [← hcl] <;> rfl, by rw [← hcl]; exact OwnY.nil _ _ _, d3⟩
        · rw [if_neg hp] at hcl
          refine q128.t (.bool false) (ex_bin (Y := .int .i64 (0)) rfl (q128.e (j := 34) rfl) rfl (geF71 _ _ hp _)) fun _ q129 => ?_;clear q128
          refine wpList_nil ?_
          go_upto_region 12 with fail
          refine wp_cond_false (q129.e (j := 35) rfl) ?_
          go_upto_region 12 with fail
          refine wp_region_lit ?_
          refine q129.t (.slice ad D.length cd) (ex_move rfl (q129.e (j := 4) rfl)) fun _ q130 => ?_;clear q129
          refine q130.t (.pointer (some ⟨wr.heap.size, 0, none⟩)) (ex_fa rfl (q130.e (j := 6) rfl) (faEn0 _ _)) fun _ q131 => ?_;clear q130
          refine q131.t (.int .i64 (x.en.c)) (ex_ld rfl (q131.e (j := 37) rfl) (ldI18 (by rw [Be.cell]; rfl))) fun _ q132 => ?_;clear q131
          refine q132.t (.pointer (some ⟨wr.heap.size, 1, none⟩)) (ex_fa rfl (q132.e (j := 6) rfl) (faEn1 _ _)) fun _ q133 => ?_;clear q132
          refine q133.t (.int .i64 (x.en.n)) (ex_ld rfl (q133.e (j := 39) rfl) (ldI18 (by rw [Be.cell]; rfl))) fun _ q134 => ?_;clear q133
          refine q134.t (.pointer (some ⟨wr.heap.size, 2, none⟩)) (ex_fa rfl (q134.e (j := 6) rfl) (faEn2 _ _)) fun _ q135 => ?_;clear q134
          refine q135.t (oV x.en.o) (ex_ld rfl (q135.e (j := 41) rfl) Be.ldEO) fun _ q136 => ?_;clear q135
          refine q136.t (.int .i64 ((j : Nat) : Int)) (ex_move rfl (q136.e (j := 5) rfl)) fun _ q137 => ?_;clear q136
          obtain ⟨kx, hkx⟩ : ∃ k : Kl, k = (⟨x.en.c, x.en.n, x.en.o, (j : Int), -1, (0, 0, ⟨#[]⟩)⟩ : Kl) := ⟨_, rfl⟩
          refine q137.t (kx.val) (ex_buildP18 (P := #[(0, .int .i64 (x.en.c)), (1, .int .i64 (x.en.n)), (2, oV x.en.o), (3, .int .i64 ((j : Int))), (4, .int .i64 (-1))]) rfl (by simp only [List.map_toArray, List.map_cons, List.map_nil, (q137.e (j := 38) rfl), (q137.e (j := 40) rfl), (q137.e (j := 42) rfl), (q137.e (j := 43) rfl), evc] <;> rfl) (by rw [hkx]; exact bdC62 _ _ _ _ _ _)) fun _ q138 => ?_;clear q137
          obtain ⟨w4, hw4⟩ : ∃ y, y = w3.alloc (.cells kx.cs.toArray 45) := ⟨_, rfl⟩
          refine vw (.slice (some ⟨w3.heap.size, 0, none⟩) 1 1) w4 (want_none rfl) (ex_bs18 rfl (q138.e (j := 44) rfl) (by rw [hw4]; exact bsK18 _ _)) rfl q138.z (by decide) (q138.k fun _ q139 => ?_);clear q138
          have s4 : SlY yK w4 (some ⟨w3.heap.size, 0, none⟩) 1 1 [kx] := by rw [hw4]; exact sl_box (Y := yK) w3 kx 45
          have b4 : Below w3.heap.size w3 w4 := by rw [hw4]; exact (Below.refl _ _).alloc (Nat.le_refl _) _
          clear hw4
          have y4 := b4.size
          have z1 := d3.size
          obtain ⟨v5, w5, ha5, o5, g5, _⟩ := run_appY kK w4 24 w.heap.size D (.slice ad D.length cd) _ 1 1 [kx] s4 (o2.grow b4) (by omega) (by unfold maxLen; omega) (by show (D.length + 1) * 96 ≤ _; omega)
          have u5 := gupd63 g5
          have d5 : Below w.heap.size w w5 := (d3.trans (b4.mono d3.size)).trans (u5.below (by omega) (fun k hk => (o2.blk k hk).1))
          refine vw (v5) w5 (want_none rfl) (ex_app18 rfl (q139.e (j := 36) rfl) (q139.e (j := 45) rfl) ha5) rfl q139.z (by decide) (q139.k fun _ q140 => ?_);clear q139
          refine q140.t (v5) (ex_assign rfl (q140.e (j := 46) rfl)) fun _ q141 => ?_;clear q140
          have q142 := ((((Rp.nil q141.z).cons (q141.a 0 rfl)).cons (q141.a 4 rfl)).cons (q141.a 5 rfl))
          clear q141
          refine wpList_nil ?_
          go_upto_region 4 with fail
          refine wp_region_lit ?_
          refine q142.t (.int .i64 ((j : Nat) : Int)) (ex_move rfl (q142.e (j := 5) rfl)) fun _ q143 => ?_;clear q142
          refine q143.t (.int .i64 ((j + 1 : Nat) : Int)) (ex_bin rfl (q143.e (j := 12) rfl) rfl (add1C _ _ j (by omega) _)) fun _ q144 => ?_;clear q143
          refine q144.t (.int .i64 ((j + 1 : Nat) : Int)) (ex_assign rfl (q144.e (j := 13) rfl)) fun _ q145 => ?_;clear q144
          have q146 := ((((Rp.nil q145.z).cons (q145.a 0 rfl)).cons (q145.a 4 rfl)).cons (q145.a 5 rfl))
          clear q145
          refine wpList_nil ?_
          rw [← hkx] at hcl
          exact ⟨_, rfl, hit, v5, D ++ [kx], q146, o5, hcl, by rw [List.length_append]; exact Nat.succ_le_succ hDl, d5⟩
      · rw [decide_eq_false he] at hask
        have hask2 : askB x.en.c x.en.n x.en.o = false := hask.symm
        rw [if_pos hask2] at hcl
        refine q121.t (.bool true) (ex_bin (Y := .int .i64 (0)) rfl (q121.e (j := 27) rfl) rfl (neqT62 _ _ he _)) fun _ q122 => ?_;clear q121
        refine wpList_nil ?_
        go_upto_region 9 with fail
        refine wp_cond_true (q122.e (j := 28) rfl) ?_
        go_upto_region 9 with fail
        refine wp_region_lit ?_
        refine q122.t (.slice none 0 0) (ex_assign rfl rfl) fun _ q123 => ?_;clear q122
        refine q123.t (.int .i64 (180)) (ex_assign rfl rfl) fun _ q124 => ?_;clear q123
        refine wpList_nil ?_
        go_wp2
        exact bodyPost_ret (results2_18 rfl (q124.a 2 rfl) (q124.a 3 rfl)) rfl ⟨.slice none 0 0, by rw [← hcl] <;> rfl, by rw [← hcl]; exact OwnY.nil _ _ _, d3⟩
    · rw [if_neg hk] at hcl
      rw [decide_eq_false hk] at q119
      go_upto_region 13 with fail
      refine wp_cond_false (q119.e (j := 24) rfl) ?_
      go_upto_region 13 with fail
      refine wp_region_lit ?_
      refine q119.t (.bool (decide (x.kd = 6))) (ex_bin (Y := .int .i64 (6)) rfl (q119.e (j := 23) rfl) rfl (eqS71 _ _ _ _ _)) fun _ q120 => ?_;clear q119
      refine q120.t (.bool (decide (x.kd = 6))) (ex_assign rfl (q120.e (j := 48) rfl)) fun _ q121 => ?_;clear q120
      have q122 := ((((((Rp.nil q121.z).cons (q121.a 0 rfl)).cons (q121.a 4 rfl)).cons (q121.a 5 rfl)).cons (q121.a 6 rfl)).cons (q121.a 47 rfl))
      clear q121
      refine wpList_nil ?_
      by_cases hk6 : x.kd = 6
      · rw [if_pos hk6] at hcl
        rw [decide_eq_true hk6] at q122
        go_upto_region 14 with fail
        refine wp_cond_true (q122.e (j := 47) rfl) ?_
        go_upto_region 14 with fail
        refine wp_region_lit ?_
        refine q122.t (.slice ad D.length cd) (ex_move rfl (q122.e (j := 4) rfl)) fun _ q123 => ?_;clear q122
        refine q123.t (.pointer (some ⟨wr.heap.size, 0, none⟩)) (ex_fa rfl (q123.e (j := 6) rfl) (faEn0 _ _)) fun _ q124 => ?_;clear q123
        refine q124.t (.int .i64 (x.en.c)) (ex_ld rfl (q124.e (j := 50) rfl) (ldI18 (by rw [Be.cell]; rfl))) fun _ q125 => ?_;clear q124
        refine q125.t (.pointer (some ⟨wr.heap.size, 1, none⟩)) (ex_fa rfl (q125.e (j := 6) rfl) (faEn1 _ _)) fun _ q126 => ?_;clear q125
        refine q126.t (.int .i64 (x.en.n)) (ex_ld rfl (q126.e (j := 52) rfl) (ldI18 (by rw [Be.cell]; rfl))) fun _ q127 => ?_;clear q126
        refine vcallP (want_none rfl) (ex_call rfl (by simp only [List.map_toArray, List.map_cons, List.map_nil, (q127.e (j := 49) rfl), (q127.e (j := 51) rfl), (q127.e (j := 53) rfl), evc] <;> rfl) rfl) (place18 D ad cd x.en.c x.en.n w2 hsD (by omega)) rfl q127.z (by decide) ?_
        rintro e w9 ⟨rfl, hw9⟩
        refine ⟨_, rfl, q127.k fun _ q128 => ?_⟩;clear q127
        have hw9 := hw9.symm
        subst hw9
        refine q128.t (.int .i64 (plc70 x.en.c x.en.n D 0)) (ex_assign rfl (q128.e (j := 54) rfl)) fun _ q129 => ?_;clear q128
        refine wpList_nil ?_
        go_upto_region 15 with fail
        refine wp_region_lit ?_
        refine q129.t (.int .i64 (plc70 x.en.c x.en.n D 0)) (ex_move rfl (q129.e (j := 7) rfl)) fun _ q130 => ?_;clear q129
        rcases plc70_in (c := x.en.c) (n := x.en.n) D 0 with e | ⟨k, y, e, hy, _, _⟩
        · refine q130.t (.bool true) (ex_bin (Y := .int .i64 (0)) rfl (q130.e (j := 55) rfl) rfl (ltT62 _ _ (by omega) _)) fun _ q131 => ?_;clear q130
          refine q131.t (.bool true) (ex_move rfl (q131.e (j := 56) rfl)) fun _ q132 => ?_;clear q131
          refine vl _ (undef) (want_g rfl rfl (q132.a 57 rfl)) (fun hc => absurd hc (by decide)) rfl q132.z (by decide) (q132.k fun _ q133 => ?_);clear q132
          refine vl _ (undef) (want_g rfl rfl (q133.a 57 rfl)) (fun hc => absurd hc (by decide)) rfl q133.z (by decide) (q133.k fun _ q134 => ?_);clear q133
          refine vl _ (undef) (want_g rfl rfl (q134.a 57 rfl)) (fun hc => absurd hc (by decide)) rfl q134.z (by decide) (q134.k fun _ q135 => ?_);clear q134
          refine vl _ (undef) (want_g rfl rfl (q135.a 57 rfl)) (fun hc => absurd hc (by decide)) rfl q135.z (by decide) (q135.k fun _ q136 => ?_);clear q135
          refine vl _ (undef) (want_g rfl rfl (q136.a 57 rfl)) (fun hc => absurd hc (by decide)) rfl q136.z (by decide) (q136.k fun _ q137 => ?_);clear q136
          refine vl _ (.bool false) (want_g rfl rfl (q137.a 57 rfl)) (fun hc => absurd hc (by decide)) rfl q137.z (by decide) (q137.k fun _ q138 => ?_);clear q137
          refine q138.t (.bool true) (ex_or (c := true) (b := true) (z := false) rfl (q138.a 57 rfl) (q138.a 63 rfl) rfl) fun _ q139 => ?_;clear q138
          refine wpList_nil ?_
          go_upto_region 16 with fail
          refine wp_cond_true (q139.e (j := 64) rfl) ?_
          have hcl2 : cls L 0 [] = ([], 160) := by
            rw [← hcl, e]
            cases D[(-1 : Int).toNat]? with
            | none => rfl
            | some y => exact if_pos (.inl (by omega))
          go_upto_region 16 with fail
          refine wp_region_lit ?_
          refine q139.t (.slice none 0 0) (ex_assign rfl rfl) fun _ q140 => ?_;clear q139
          refine q140.t (.int .i64 (160)) (ex_assign rfl rfl) fun _ q141 => ?_;clear q140
          refine wpList_nil ?_
          go_wp2
          exact bodyPost_ret (results2_18 rfl (q141.a 2 rfl) (q141.a 3 rfl)) rfl ⟨.slice none 0 0, by rw [hcl2] <;> rfl, by rw [hcl2]; exact OwnY.nil _ _ _, d2⟩
        · have hkl := (List.getElem?_eq_some_iff.1 hy).1
          have e1 : plc70 x.en.c x.en.n D 0 = ((k : Nat) : Int) := by rw [e, Nat.zero_add]
          rw [e1] at q130 hcl
          rw [show (((k : Nat) : Int)).toNat = k from rfl, hy] at hcl
          obtain ⟨g, hg, hg1, hg2⟩ := ownP69 o2 (by omega)
          have og := o2
          rw [hg] at og
          refine q130.t (.bool false) (ex_bin (Y := .int .i64 (0)) rfl (q130.e (j := 55) rfl) rfl (ltF62 _ _ (by omega) _)) fun _ q131 => ?_;clear q130
          refine q131.t (.bool false) (ex_move rfl (q131.e (j := 56) rfl)) fun _ q132 => ?_;clear q131
          refine vl _ (.slice ad D.length cd) (want_g rfl rfl (q132.a 57 rfl)) (fun hc => ex_move rfl (q132.e (j := 4) rfl)) rfl q132.z (by decide) (q132.k fun _ q133 => ?_);clear q132
          refine vl _ (.int .i64 ((k : Nat) : Int)) (want_g rfl rfl (q133.a 57 rfl)) (fun hc => ex_move rfl (q133.e (j := 7) rfl)) rfl q133.z (by decide) (q133.k fun _ q134 => ?_);clear q133
          refine vl _ (.pointer (some ⟨g, k * 10, none⟩)) (want_g rfl rfl (q134.a 57 rfl)) (fun hc => ex_ix rfl (ev (q134.a 58 rfl) hc) (ev (q134.a 59 rfl) hc) (by rw [hg]; exact ix0_68 g D.length cd k hkl _)) rfl q134.z (by decide) (q134.k fun _ q135 => ?_);clear q134
          refine vl _ (.pointer (some ⟨g, k * 10 + 6, none⟩)) (want_g rfl rfl (q135.a 57 rfl)) (fun hc => ex_fa rfl (ev (q135.a 60 rfl) hc) (fa4_68 _ _ _)) rfl q135.z (by decide) (q135.k fun _ q136 => ?_);clear q135
          refine vl _ (.int .i64 (y.e)) (want_g rfl rfl (q136.a 57 rfl)) (fun hc => ex_ld rfl (ev (q136.a 61 rfl) hc) (ldI18 (og.cell kK k y hy 6 _ rfl))) rfl q136.z (by decide) (q136.k fun _ q137 => ?_);clear q136
          by_cases hye : 0 ≤ y.e
          · refine vl (true && (false == false)) (.bool true) (want_g rfl rfl (q137.a 57 rfl)) (fun hc => ex_bin (Y := .int .i64 (0)) rfl (ev (q137.a 62 rfl) hc) rfl (geT71 _ _ hye _)) rfl q137.z (by decide) (q137.k fun _ q138 => ?_);clear q137
            refine q138.t (.bool true) (ex_or (c := true) (b := false) (z := true) rfl (q138.a 57 rfl) (q138.a 63 rfl) rfl) fun _ q139 => ?_;clear q138
            refine wpList_nil ?_
            go_upto_region 16 with fail
            refine wp_cond_true (q139.e (j := 64) rfl) ?_
            have hcl2 : cls L 0 [] = ([], 160) := by rw [← hcl]; exact if_pos (.inr hye)
            go_upto_region 16 with fail
            refine wp_region_lit ?_
            refine q139.t (.slice none 0 0) (ex_assign rfl rfl) fun _ q140 => ?_;clear q139
            refine q140.t (.int .i64 (160)) (ex_assign rfl rfl) fun _ q141 => ?_;clear q140
            refine wpList_nil ?_
            go_wp2
            exact bodyPost_ret (results2_18 rfl (q141.a 2 rfl) (q141.a 3 rfl)) rfl ⟨.slice none 0 0, by rw [hcl2] <;> rfl, by rw [hcl2]; exact OwnY.nil _ _ _, d2⟩
          · refine vl (true && (false == false)) (.bool false) (want_g rfl rfl (q137.a 57 rfl)) (fun hc => ex_bin (Y := .int .i64 (0)) rfl (ev (q137.a 62 rfl) hc) rfl (geF71 _ _ hye _)) rfl q137.z (by decide) (q137.k fun _ q138 => ?_);clear q137
            refine q138.t (.bool false) (ex_or (c := true) (b := false) (z := false) rfl (q138.a 57 rfl) (q138.a 63 rfl) rfl) fun _ q139 => ?_;clear q138
            refine wpList_nil ?_
            go_upto_region 17 with fail
            refine wp_cond_false (q139.e (j := 64) rfl) ?_
            go_upto_region 17 with fail
            refine wp_region_lit ?_
            have hcl2 : _ = cls L 0 [] := (if_neg (by omega)).symm.trans hcl
            obtain ⟨w3, hst3, o3, u3⟩ := stKe68 og hy (j : Int)
            obtain ⟨w4, hst4, o4, u4⟩ := stKr68 o3 (by rw [List.getElem?_set_self hkl]) x.r
            rw [List.set_set] at o4
            have y3 := u3.size
            have y4 := u4.size
            have hqg : qa < w2.heap.size := by have := d2.size; omega
            refine q139.t (.slice ad D.length cd) (ex_move rfl (q139.e (j := 4) rfl)) fun _ q140 => ?_;clear q139
            refine q140.t (.int .i64 ((k : Nat) : Int)) (ex_move rfl (q140.e (j := 7) rfl)) fun _ q141 => ?_;clear q140
            refine q141.t (.int .i64 ((j : Nat) : Int)) (ex_move rfl (q141.e (j := 5) rfl)) fun _ q142 => ?_;clear q141
            refine q142.t (.pointer (some ⟨g, k * 10, none⟩)) (ex_ix rfl (q142.e (j := 65) rfl) (q142.e (j := 66) rfl) (by rw [hg]; exact ix0_68 g D.length cd k hkl _)) fun _ q143 => ?_;clear q142
            refine q143.t (.pointer (some ⟨g, k * 10 + 6, none⟩)) (ex_fa rfl (q143.e (j := 68) rfl) (fa4_68 _ _ _)) fun _ q144 => ?_;clear q143
            refine vs w3 (want_none rfl) (ex_st rfl (q144.e (j := 69) rfl) (q144.e (j := 67) rfl) hst3) rfl ?_
            refine wpList_nil ?_
            go_upto_region 18 with fail
            refine wp_region_lit ?_
            have hgb : ¬ qa = g := fun e => by omega
            have hl3 : LieY ySn w3 qa oa L := hl2.upd u3 hqg hgb
            refine q144.t (.slice ad D.length cd) (ex_move rfl (q144.e (j := 4) rfl)) fun _ q145 => ?_;clear q144
            refine q145.t (.int .i64 ((k : Nat) : Int)) (ex_move rfl (q145.e (j := 7) rfl)) fun _ q146 => ?_;clear q145
            refine q146.t (.slice a L.length c) (ex_move rfl (q146.e (j := 0) rfl)) fun _ q147 => ?_;clear q146
            refine q147.t (.int .i64 ((j : Nat) : Int)) (ex_move rfl (q147.e (j := 5) rfl)) fun _ q148 => ?_;clear q147
            refine q148.t (.pointer (some ⟨qa, oa + j * 19, none⟩)) (ex_ix rfl (q148.e (j := 72) rfl) (q148.e (j := 73) rfl) (by rw [hqa]; exact ixSn qa oa L.length c j hit _)) fun _ q149 => ?_;clear q148
            refine q149.t (.pointer (some ⟨qa, oa + j * 19 + 12, none⟩)) (ex_fa rfl (q149.e (j := 74) rfl) (faSn7 _ _ _)) fun _ q150 => ?_;clear q149
            refine q150.t (rV x.r) (ex_ld rfl (q150.e (j := 75) rfl) (ldSnR hl3 hx)) fun _ q151 => ?_;clear q150
            refine q151.t (.pointer (some ⟨g, k * 10, none⟩)) (ex_ix rfl (q151.e (j := 70) rfl) (q151.e (j := 71) rfl) (by rw [hg]; exact ix0_68 g D.length cd k hkl _)) fun _ q152 => ?_;clear q151
            refine q152.t (.pointer (some ⟨g, k * 10 + 7, none⟩)) (ex_fa rfl (q152.e (j := 77) rfl) (fa5_68 _ _ _)) fun _ q153 => ?_;clear q152
            refine vs w4 (want_none rfl) (ex_st rfl (q153.e (j := 78) rfl) (q153.e (j := 76) rfl) hst4) rfl ?_
            rw [← hg] at o4
            have d4 : Below w.heap.size w w4 := (d2.trans (bel_ge u3 d2.size hg1)).trans (bel_ge u4 (by have := d2.size; omega) hg1)
            have q154 := ((((Rp.nil q153.z).cons (q153.a 0 rfl)).cons (q153.a 4 rfl)).cons (q153.a 5 rfl))
            clear q153
            refine wpList_nil ?_
            go_upto_region 4 with fail
            refine wp_region_lit ?_
            refine q154.t (.int .i64 ((j : Nat) : Int)) (ex_move rfl (q154.e (j := 5) rfl)) fun _ q155 => ?_;clear q154
            refine q155.t (.int .i64 ((j + 1 : Nat) : Int)) (ex_bin rfl (q155.e (j := 12) rfl) rfl (add1C _ _ j (by omega) _)) fun _ q156 => ?_;clear q155
            refine q156.t (.int .i64 ((j + 1 : Nat) : Int)) (ex_assign rfl (q156.e (j := 13) rfl)) fun _ q157 => ?_;clear q156
            have q158 := ((((Rp.nil q157.z).cons (q157.a 0 rfl)).cons (q157.a 4 rfl)).cons (q157.a 5 rfl))
            clear q157
            refine wpList_nil ?_
            exact ⟨_, rfl, hit, _, D.set k { y with e := (j : Int), r := x.r }, q158, o4, hcl2, by rw [List.length_set]; omega, d4⟩
      · rw [if_neg hk6] at hcl
        rw [decide_eq_false hk6] at q122
        go_upto_region 4 with fail
        refine wp_cond_false (q122.e (j := 47) rfl) ?_
        have q123 := ((((Rp.nil q122.z).cons (q122.a 0 rfl)).cons (q122.a 4 rfl)).cons (q122.a 5 rfl))
        clear q122
        go_upto_region 4 with fail
        refine wp_region_lit ?_
        refine q123.t (.int .i64 ((j : Nat) : Int)) (ex_move rfl (q123.e (j := 5) rfl)) fun _ q124 => ?_;clear q123
        refine q124.t (.int .i64 ((j + 1 : Nat) : Int)) (ex_bin rfl (q124.e (j := 12) rfl) rfl (add1C _ _ j (by omega) _)) fun _ q125 => ?_;clear q124
        refine q125.t (.int .i64 ((j + 1 : Nat) : Int)) (ex_assign rfl (q125.e (j := 13) rfl)) fun _ q126 => ?_;clear q125
        have q127 := ((((Rp.nil q126.z).cons (q126.a 0 rfl)).cons (q126.a 4 rfl)).cons (q126.a 5 rfl))
        clear q126
        refine wpList_nil ?_
        exact ⟨_, rfl, hit, _, D, q127, o2, hcl, by omega, d2⟩
  · obtain rfl : j = L.length := by omega
    rw [List.drop_length] at hcl
    go_upto_region 3 with fail
    refine wp_region_lit ?_
    refine q100.t (.int .i64 ((L.length : Nat) : Int)) (ex_move rfl (q100.e (j := 5) rfl)) fun _ q101 => ?_;clear q100
    refine q101.t (.slice a L.length c) (ex_move rfl (q101.e (j := 0) rfl)) fun _ q102 => ?_;clear q101
    refine q102.t (.int .i64 ((L.length : Nat) : Int)) (ex_lenSn rfl rfl (q102.e (j := 9) rfl)) fun _ q103 => ?_;clear q102
    refine q103.t (.bool false) (ex_bin rfl (q103.e (j := 8) rfl) (q103.e (j := 10) rfl) (ltF _ _ hit _)) fun _ q104 => ?_;clear q103
    refine wpList_nil ?_
    go_upto_region 19 with fail
    refine wp_cond_false (q104.e (j := 11) rfl) ?_
    go_upto_region 19 with fail
    refine wp_region_lit ?_
    refine q104.t (.slice ad D.length cd) (ex_move rfl (q104.e (j := 4) rfl)) fun _ q105 => ?_;clear q104
    refine q105.t (.slice ad D.length cd) (ex_assign rfl (q105.e (j := 79) rfl)) fun _ q106 => ?_;clear q105
    refine q106.t (.int .i64 (0)) (ex_assign rfl rfl) fun _ q107 => ?_;clear q106
    refine wpList_nil ?_
    go_wp2
    exact bodyPost_ret (results2_18 rfl (q107.a 2 rfl) (q107.a 3 rfl)) rfl ⟨.slice ad D.length cd, by rw [← hcl] <;> rfl, by rw [← hcl]; exact oD, d⟩
end Go.Proofs.Yteamgkadhlbflaa
