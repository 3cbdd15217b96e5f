import Derived.Test.YtegkkoggfjgkbaaTt
import Derived.Test.YtegkkoggfjgkbaaOy
namespace Go.Proofs.Ytegkkoggfjgkbaa.Wi
open Go.RowKit
set_option linter.unusedVariables false

theorem tc_quiet (a : Option Addr) (n c : Nat) (l : List Int) (m : Int) (w : World) (k : Nat) (h : Hs w a n c l) (hm : c ≤ maxLen) (q : m ≤ 9223372036854775807) :
    Calls Try.prog 68 #[.slice a n c, .int .i64 m] (w.drewN k) fun e w' => e = .returned (.tuple #[.int .i64 (tcVal m l), .int .i64 (tcSize m l), .int .i64 (tcErr m l)]) ∧ ∃ j, w' = w.drewN j := by
  refine (tc_any a n c l m (w.drewN k) (h.later (below_drewN (Below.refl _ _) k)) hm q).mono ?_
  rintro e w' ⟨rfl, j, rfl⟩
  exact ⟨rfl, _, World.drewN_drewN _ _ _⟩
theorem tt_quiet (a : Option Addr) (n c : Nat) (l : List Int) (m : Int) (w : World) (k : Nat) (h : Hs w a n c l) (hm : c ≤ maxLen) (q : m ≤ 9223372036854775807) :
    Calls Try.prog 47 #[.slice a n c, .int .i64 m] (w.drewN k) fun e w' => e = .returned (.tuple #[.string (strOfNums (ttList m l)), .int .i64 (ttSize m l), .int .i64 (ttErr m l)]) ∧ ∃ j, w' = w.drewN j := by
  refine (tt_any a n c l m (w.drewN k) (h.later (below_drewN (Below.refl _ _) k)) hm q).mono ?_
  rintro e w' ⟨rfl, j, rfl⟩
  exact ⟨rfl, _, World.drewN_drewN _ _ _⟩
theorem ttSize_le (m : Int) (l : List Int) : ttSize m l ≤ l.length := by
  by_cases h : ttErr m l = 0
  · have h2 : ttSize m l = tcSize m l + tcVal m l := by unfold ttSize; rw [if_pos h]
    rw [h2]
    unfold ttErr at h
    split at h
    · rename_i h3; exact absurd h h3
    · split at h
      · cases h
      · omega
  · rw [(tt_bad h).2]; exact Nat.zero_le _
set_option maxRecDepth 100000 in
set_option maxHeartbeats 400000 in
theorem text_core (b : Nat) (a a' : Option Addr) (n c : Nat) (l : List Int) (p : Nat) (m : Int) (q : m ≤ 9223372036854775807) (w : World) (h : RSt w b a n c l p 0) (n' c' : Nat) (h' : Hs w a' n' c' (l.drop p)) (ha : (∃ g, a = some ⟨g, 0, none⟩ ∧ p < c ∧ a' = some ⟨g, p, none⟩ ∧ n' = n - p ∧ c' = c - p) ∨ (∃ g, a = some ⟨g, 0, none⟩ ∧ n = p ∧ c = p ∧ a' = some ⟨g, 0, none⟩ ∧ n' = 0 ∧ c' = 0) ∨ (a = none ∧ n = 0 ∧ c = 0 ∧ p = 0 ∧ a' = none ∧ n' = 0 ∧ c' = 0)) :
    Calls Try.prog 19 #[.pointer (some ⟨b, 0, none⟩), .int .i64 m] w fun e w' => e = .returned (.string (strOfNums (ttList m (l.drop p)))) ∧ ∃ k, w' = ((w.setCell ⟨b, 2, none⟩ (.int .i64 ((p + ttSize m (l.drop p) : Nat) : Int))).setCell ⟨b, 3, none⟩ (.int .i64 (ttErr m (l.drop p)))).drewN k := by
  obtain ⟨hlt, c0, c1, c2, c3, f2, f3, hs, cmax, ne, hle⟩ := h
  have hcap := hs.cap
  have hc' : c' ≤ maxLen := by
    rcases ha with ⟨g, _, _, _, _, hc⟩ | ⟨g, _, _, _, _, _, hc⟩ | ⟨_, _, _, _, _, _, hc⟩ <;> omega
  have HQ := fun k => hide (tt_quiet a' n' c' (l.drop p) m w k h' hc' q)
  have hsz := ttSize_le m (l.drop p)
  have hln : (l.drop p).length = n - p := by rw [List.length_drop, hs.len]
  unfold maxLen at cmax
  clear hs ne h'
  generalize ttList m (l.drop p) = V at *
  generalize ttSize m (l.drop p) = S at *
  generalize ttErr m (l.drop p) = E at *
  have hb1 : p + S ≤ 9223372036854775807 := by omega
  clear hsz hln hc'
  have HS := fun k => hide (step_any b p S E 0 (w.drewN k) c2 c3 f2 f3 hb1)
  rcases ha with ⟨g, rfl, hpc, rfl, rfl, rfl⟩ | ⟨g, rfl, rfl, rfl, rfl, rfl, rfl⟩ | ⟨rfl, rfl, rfl, rfl, rfl, rfl, rfl⟩
  all_goals
    go_enter Try.func19, Try.ntmps19
    go_wp2_with (go_at_call 46; go_in)
    go_quiet ((go_at_call 47; exact (HQ _).out))
    go_wp2_with fail
    refine (HS _).out.mono ?_
    rintro e w' ⟨rfl, rfl⟩
    clear HS HQ
    go_wp2
    go_ret
    first | exact ⟨rfl, _, rfl⟩ | exact ⟨rfl, nq, by rw [Nat.zero_add]; rfl⟩

theorem rd_text (b : Nat) (a : Option Addr) (n c : Nat) (l : List Int) (p : Nat) (m : Int) (q : m ≤ 9223372036854775807) (w : World) (h : RSt w b a n c l p 0) :
    Calls Try.prog 19 #[.pointer (some ⟨b, 0, none⟩), .int .i64 m] w fun e w' => e = .returned (.string (strOfNums (ttList m (l.drop p)))) ∧ RSt w' b a n c l (p + ttSize m (l.drop p)) (ttErr m (l.drop p)) ∧ Only b w w' := by
  have hsz := (ttSize_le m (l.drop p))
  rw [List.length_drop, h.hs.len] at hsz
  have hle := h.le
  have hcap := h.hs.cap
  have fin : ∀ a' n' c', Hs w a' n' c' (l.drop p) → _ → Calls Try.prog 19 #[.pointer (some ⟨b, 0, none⟩), .int .i64 m] w fun e w' => e = .returned (.string (strOfNums (ttList m (l.drop p)))) ∧ RSt w' b a n c l (p + ttSize m (l.drop p)) (ttErr m (l.drop p)) ∧ Only b w w' :=
    fun a' n' c' h1 h2 => (text_core b a a' n c l p m q w h n' c' h1 h2).mono (by
      rintro e w' ⟨rfl, k, rfl⟩
      exact ⟨rfl, h.stepped _ _ k (by omega), (((Only.refl _ _).setCell _ _).setCell _ _).drewN k⟩)
  cases ha : a with
  | none =>
    subst ha
    obtain ⟨e1, e2⟩ := h.hs.nil rfl
    have e3 := h.hs.len
    rw [e1] at e3
    obtain rfl : 0 = n := e3
    subst e2
    obtain rfl : p = 0 := by omega
    exact fin none 0 0 h.hs (.inr (.inr ⟨rfl, rfl, rfl, rfl, rfl, rfl, rfl⟩))
  | some x =>
    subst ha
    obtain ⟨g, rfl, hg⟩ := h.ne x rfl
    by_cases hp : p < c
    · exact fin _ _ _ (h.hs.rest p hle) (.inl ⟨g, rfl, hp, rfl, rfl, rfl⟩)
    · have e1 : c = p := by omega
      have e2 : n = p := by omega
      have h2 := h.hs.rest_end (by omega)
      rw [e1] at h2
      exact fin _ 0 0 h2 (.inr (.inl ⟨g, rfl, e2, e1, rfl, rfl, rfl⟩))

theorem rd_text_err (b : Nat) (a : Option Addr) (n c : Nat) (l : List Int) (p : Nat) (E : Int) (m : Int) (w : World) (h : RSt w b a n c l p E) (hE : E ≠ 0) :
    Calls Try.prog 19 #[.pointer (some ⟨b, 0, none⟩), .int .i64 m] w fun e w' => e = .returned (.string (strOfNums [])) ∧ w' = w := by
  obtain ⟨hlt, c0, c1, c2, c3, f2, f3, hs, cmax, ne, hle⟩ := h
  have hb : (E == 0) = false := by simp [hE]
  clear hs ne
  go_enter Try.func19, Try.ntmps19
  go_wp2
  go_ret
  exact ⟨rfl, rfl⟩

end Go.Proofs.Ytegkkoggfjgkbaa.Wi
