import Derived.Deep.RegionLaw
import Derived.Laws.ResultCell
import Derived.Test.YtabiimmpjllcpaaDoorB2
namespace Go.Proofs.YtabiimmpjllcpaaDoor.Wi
open Go.RowKit
set_option linter.unusedVariables false
theorem tc_quiet (a : Option Addr) (n c : Nat) (l : List Int) (m : Int) (w : World) (k : Nat) (h : Hs w a n c l) (hm : c ≤ maxLen) (q : m ≤ 9223372036854775807) :
    Calls Tryd.prog 95 #[.slice a n c, .int .i64 m] (w.drewN k) fun e w' => e = .returned (.tuple #[.int .i64 (tcVal m l), .int .i64 (tcSize m l), .int .i64 (tcErr m l)]) ∧ ∃ j, w' = w.drewN j := by
  refine (tc_any a n c l m (w.drewN k) (h.later (below_drewN (Below.refl _ _) k)) hm q).mono ?_
  rintro e w' ⟨rfl, j, rfl⟩
  exact ⟨rfl, _, World.drewN_drewN _ _ _⟩
theorem tt_quiet (a : Option Addr) (n c : Nat) (l : List Int) (m : Int) (w : World) (k : Nat) (h : Hs w a n c l) (hm : c ≤ maxLen) (q : m ≤ 9223372036854775807) :
    Calls Tryd.prog 98 #[.slice a n c, .int .i64 m] (w.drewN k) fun e w' => e = .returned (.tuple #[.string (strOfNums (ttList m l)), .int .i64 (ttSize m l), .int .i64 (ttErr m l)]) ∧ ∃ j, w' = w.drewN j := by
  refine (tt_any a n c l m (w.drewN k) (h.later (below_drewN (Below.refl _ _) k)) hm q).mono ?_
  rintro e w' ⟨rfl, j, rfl⟩
  exact ⟨rfl, _, World.drewN_drewN _ _ _⟩
theorem ttSize_le (m : Int) (l : List Int) : ttSize m l ≤ l.length := by
  by_cases h : ttErr m l = 0
  · have h2 : ttSize m l = tcSize m l + tcVal m l := by unfold ttSize; rw [if_pos h]
    rw [h2]
    unfold ttErr at h
    split at h
    · rename_i h3; exact absurd h h3
    · split at h
      · cases h
      · omega
  · rw [(tt_bad h).2]; exact Nat.zero_le _
set_option maxRecDepth 100000 in
set_option maxHeartbeats 400000 in
theorem count_core (b : Nat) (a a' : Option Addr) (n c : Nat) (l : List Int) (p : Nat) (m : Int) (q : m ≤ 9223372036854775807) (w : World) (h : RSt w b a n c l p 0) (n' c' : Nat) (h' : Hs w a' n' c' (l.drop p)) (ha : (∃ g, a = some ⟨g, 0, none⟩ ∧ p < c ∧ a' = some ⟨g, p, none⟩ ∧ n' = n - p ∧ c' = c - p) ∨ (∃ g, a = some ⟨g, 0, none⟩ ∧ n = p ∧ c = p ∧ a' = some ⟨g, 0, none⟩ ∧ n' = 0 ∧ c' = 0) ∨ (a = none ∧ n = 0 ∧ c = 0 ∧ p = 0 ∧ a' = none ∧ n' = 0 ∧ c' = 0)) :
    Calls Tryd.prog 86 #[.pointer (some ⟨b, 0, none⟩), .int .i64 m] w fun e w' => e = .returned (.int .i64 (tcVal m (l.drop p))) ∧ ∃ k, w' = ((w.setCell ⟨b, 2, none⟩ (.int .i64 ((p + tcSize m (l.drop p) : Nat) : Int))).setCell ⟨b, 3, none⟩ (.int .i64 (tcErr m (l.drop p)))).drewN k := by
  obtain ⟨hlt, c0, c1, c2, c3, f2, f3, hs, cmax, ne, hle⟩ := h
  have hcap := hs.cap
  have hc' : c' ≤ maxLen := by
    rcases ha with ⟨g, _, _, _, _, hc⟩ | ⟨g, _, _, _, _, _, hc⟩ | ⟨_, _, _, _, _, _, hc⟩ <;> omega
  have HQ := fun k => hide (tc_quiet a' n' c' (l.drop p) m w k h' hc' q)
  have hsz := tcSize_le m (l.drop p) h'.byte
  have hln : (l.drop p).length = n - p := by rw [List.length_drop, hs.len]
  unfold maxLen at cmax
  clear hs ne h'
  generalize tcVal m (l.drop p) = V at *
  generalize tcSize m (l.drop p) = S at *
  generalize tcErr m (l.drop p) = E at *
  have hS : S ≤ 9 := hsz.2
  have hb1 : p + S ≤ 9223372036854775807 := by omega
  clear hsz hln hc'
  have HS := fun k => hide (step_any b p S E 0 (w.drewN k) c2 c3 f2 f3 hb1)
  rcases ha with ⟨g, rfl, hpc, rfl, rfl, rfl⟩ | ⟨g, rfl, rfl, rfl, rfl, rfl, rfl⟩ | ⟨rfl, rfl, rfl, rfl, rfl, rfl, rfl⟩
  all_goals
    go_enter Tryd.func86, Tryd.ntmps86
    go_wp2_with (go_at_call 94; go_in)
    go_quiet ((go_at_call 95; exact (HQ _).out))
    go_wp2_with fail
    refine (HS _).out.mono ?_
    rintro e w' ⟨rfl, rfl⟩
    clear HS HQ
    go_wp2
    go_ret
    first | exact ⟨rfl, _, rfl⟩ | exact ⟨rfl, nq, by rw [Nat.zero_add]; rfl⟩
theorem rd_count (b : Nat) (a : Option Addr) (n c : Nat) (l : List Int) (p : Nat) (m : Int) (q : m ≤ 9223372036854775807) (w : World) (h : RSt w b a n c l p 0) :
    Calls Tryd.prog 86 #[.pointer (some ⟨b, 0, none⟩), .int .i64 m] w fun e w' => e = .returned (.int .i64 (tcVal m (l.drop p))) ∧ RSt w' b a n c l (p + tcSize m (l.drop p)) (tcErr m (l.drop p)) ∧ Only b w w' := by
  have hsz := (tcSize_le m (l.drop p) (fun z hz => h.hs.byte z (List.mem_of_mem_drop hz))).1
  rw [List.length_drop, h.hs.len] at hsz
  have hle := h.le
  have hcap := h.hs.cap
  have fin : ∀ a' n' c', Hs w a' n' c' (l.drop p) → _ → Calls Tryd.prog 86 #[.pointer (some ⟨b, 0, none⟩), .int .i64 m] w fun e w' => e = .returned (.int .i64 (tcVal m (l.drop p))) ∧ RSt w' b a n c l (p + tcSize m (l.drop p)) (tcErr m (l.drop p)) ∧ Only b w w' :=
    fun a' n' c' h1 h2 => (count_core b a a' n c l p m q w h n' c' h1 h2).mono (by
      rintro e w' ⟨rfl, k, rfl⟩
      exact ⟨rfl, h.stepped _ _ k (by omega), (((Only.refl _ _).setCell _ _).setCell _ _).drewN k⟩)
  cases ha : a with
  | none =>
    subst ha
    obtain ⟨e1, e2⟩ := h.hs.nil rfl
    have e3 := h.hs.len
    rw [e1] at e3
    obtain rfl : 0 = n := e3
    subst e2
    obtain rfl : p = 0 := by omega
    exact fin none 0 0 h.hs (.inr (.inr ⟨rfl, rfl, rfl, rfl, rfl, rfl, rfl⟩))
  | some x =>
    subst ha
    obtain ⟨g, rfl, hg⟩ := h.ne x rfl
    by_cases hp : p < c
    · exact fin _ _ _ (h.hs.rest p hle) (.inl ⟨g, rfl, hp, rfl, rfl, rfl⟩)
    · have e1 : c = p := by omega
      have e2 : n = p := by omega
      have h2 := h.hs.rest_end (by omega)
      rw [e1] at h2
      exact fin _ 0 0 h2 (.inr (.inl ⟨g, rfl, e2, e1, rfl, rfl, rfl⟩))
theorem rd_count_err (b : Nat) (a : Option Addr) (n c : Nat) (l : List Int) (p : Nat) (E : Int) (m : Int) (w : World) (h : RSt w b a n c l p E) (hE : E ≠ 0) :
    Calls Tryd.prog 86 #[.pointer (some ⟨b, 0, none⟩), .int .i64 m] w fun e w' => e = .returned (.int .i64 0) ∧ w' = w := by
  obtain ⟨hlt, c0, c1, c2, c3, f2, f3, hs, cmax, ne, hle⟩ := h
  have hb : (E == 0) = false := by simp [hE]
  clear hs ne
  go_enter Tryd.func86, Tryd.ntmps86
  go_wp2
  go_ret
  exact ⟨rfl, rfl⟩
set_option maxRecDepth 100000 in
set_option maxHeartbeats 400000 in
theorem text_core (b : Nat) (a a' : Option Addr) (n c : Nat) (l : List Int) (p : Nat) (m : Int) (q : m ≤ 9223372036854775807) (w : World) (h : RSt w b a n c l p 0) (n' c' : Nat) (h' : Hs w a' n' c' (l.drop p)) (ha : (∃ g, a = some ⟨g, 0, none⟩ ∧ p < c ∧ a' = some ⟨g, p, none⟩ ∧ n' = n - p ∧ c' = c - p) ∨ (∃ g, a = some ⟨g, 0, none⟩ ∧ n = p ∧ c = p ∧ a' = some ⟨g, 0, none⟩ ∧ n' = 0 ∧ c' = 0) ∨ (a = none ∧ n = 0 ∧ c = 0 ∧ p = 0 ∧ a' = none ∧ n' = 0 ∧ c' = 0)) :
    Calls Tryd.prog 88 #[.pointer (some ⟨b, 0, none⟩), .int .i64 m] w fun e w' => e = .returned (.string (strOfNums (ttList m (l.drop p)))) ∧ ∃ k, w' = ((w.setCell ⟨b, 2, none⟩ (.int .i64 ((p + ttSize m (l.drop p) : Nat) : Int))).setCell ⟨b, 3, none⟩ (.int .i64 (ttErr m (l.drop p)))).drewN k := by
  obtain ⟨hlt, c0, c1, c2, c3, f2, f3, hs, cmax, ne, hle⟩ := h
  have hcap := hs.cap
  have hc' : c' ≤ maxLen := by
    rcases ha with ⟨g, _, _, _, _, hc⟩ | ⟨g, _, _, _, _, _, hc⟩ | ⟨_, _, _, _, _, _, hc⟩ <;> omega
  have HQ := fun k => hide (tt_quiet a' n' c' (l.drop p) m w k h' hc' q)
  have hsz := ttSize_le m (l.drop p)
  have hln : (l.drop p).length = n - p := by rw [List.length_drop, hs.len]
  unfold maxLen at cmax
  clear hs ne h'
  generalize ttList m (l.drop p) = V at *
  generalize ttSize m (l.drop p) = S at *
  generalize ttErr m (l.drop p) = E at *
  have hb1 : p + S ≤ 9223372036854775807 := by omega
  clear hsz hln hc'
  have HS := fun k => hide (step_any b p S E 0 (w.drewN k) c2 c3 f2 f3 hb1)
  rcases ha with ⟨g, rfl, hpc, rfl, rfl, rfl⟩ | ⟨g, rfl, rfl, rfl, rfl, rfl, rfl⟩ | ⟨rfl, rfl, rfl, rfl, rfl, rfl, rfl⟩
  all_goals
    go_enter Tryd.func88, Tryd.ntmps88
    go_wp2_with (go_at_call 94; go_in)
    go_quiet ((go_at_call 98; exact (HQ _).out))
    go_wp2_with fail
    refine (HS _).out.mono ?_
    rintro e w' ⟨rfl, rfl⟩
    clear HS HQ
    go_wp2
    go_ret
    first | exact ⟨rfl, _, rfl⟩ | exact ⟨rfl, nq, by rw [Nat.zero_add]; rfl⟩
theorem rd_text (b : Nat) (a : Option Addr) (n c : Nat) (l : List Int) (p : Nat) (m : Int) (q : m ≤ 9223372036854775807) (w : World) (h : RSt w b a n c l p 0) :
    Calls Tryd.prog 88 #[.pointer (some ⟨b, 0, none⟩), .int .i64 m] w fun e w' => e = .returned (.string (strOfNums (ttList m (l.drop p)))) ∧ RSt w' b a n c l (p + ttSize m (l.drop p)) (ttErr m (l.drop p)) ∧ Only b w w' := by
  have hsz := (ttSize_le m (l.drop p))
  rw [List.length_drop, h.hs.len] at hsz
  have hle := h.le
  have hcap := h.hs.cap
  have fin : ∀ a' n' c', Hs w a' n' c' (l.drop p) → _ → Calls Tryd.prog 88 #[.pointer (some ⟨b, 0, none⟩), .int .i64 m] w fun e w' => e = .returned (.string (strOfNums (ttList m (l.drop p)))) ∧ RSt w' b a n c l (p + ttSize m (l.drop p)) (ttErr m (l.drop p)) ∧ Only b w w' :=
    fun a' n' c' h1 h2 => (text_core b a a' n c l p m q w h n' c' h1 h2).mono (by
      rintro e w' ⟨rfl, k, rfl⟩
      exact ⟨rfl, h.stepped _ _ k (by omega), (((Only.refl _ _).setCell _ _).setCell _ _).drewN k⟩)
  cases ha : a with
  | none =>
    subst ha
    obtain ⟨e1, e2⟩ := h.hs.nil rfl
    have e3 := h.hs.len
    rw [e1] at e3
    obtain rfl : 0 = n := e3
    subst e2
    obtain rfl : p = 0 := by omega
    exact fin none 0 0 h.hs (.inr (.inr ⟨rfl, rfl, rfl, rfl, rfl, rfl, rfl⟩))
  | some x =>
    subst ha
    obtain ⟨g, rfl, hg⟩ := h.ne x rfl
    by_cases hp : p < c
    · exact fin _ _ _ (h.hs.rest p hle) (.inl ⟨g, rfl, hp, rfl, rfl, rfl⟩)
    · have e1 : c = p := by omega
      have e2 : n = p := by omega
      have h2 := h.hs.rest_end (by omega)
      rw [e1] at h2
      exact fin _ 0 0 h2 (.inr (.inl ⟨g, rfl, e2, e1, rfl, rfl, rfl⟩))
theorem rd_text_err (b : Nat) (a : Option Addr) (n c : Nat) (l : List Int) (p : Nat) (E : Int) (m : Int) (w : World) (h : RSt w b a n c l p E) (hE : E ≠ 0) :
    Calls Tryd.prog 88 #[.pointer (some ⟨b, 0, none⟩), .int .i64 m] w fun e w' => e = .returned (.string (strOfNums [])) ∧ w' = w := by
  obtain ⟨hlt, c0, c1, c2, c3, f2, f3, hs, cmax, ne, hle⟩ := h
  have hb : (E == 0) = false := by simp [hE]
  clear hs ne
  go_enter Tryd.func88, Tryd.ntmps88
  go_wp2
  go_ret
  exact ⟨rfl, rfl⟩
theorem rd_number2 (b : Nat) (a : Option Addr) (n c : Nat) (l : List Int) (p : Nat) (w : World) (h : RSt w b a n c l p 0) :
    Calls Tryd.prog 87 #[.pointer (some ⟨b, 0, none⟩)] w fun e w' => e = .returned (.int .u64 (tnVal (l.drop p))) ∧ RSt w' b a n c l (p + tnSize (l.drop p)) (tnErr (l.drop p)) ∧ Only b w w' := by
  have hsz := (tnSize_le (l.drop p) (fun z hz => h.hs.byte z (List.mem_of_mem_drop hz))).1
  rw [List.length_drop, h.hs.len] at hsz
  have hle := h.le
  have hcap := h.hs.cap
  have fin : ∀ a' n' c', Hs w a' n' c' (l.drop p) → _ → Calls Tryd.prog 87 #[.pointer (some ⟨b, 0, none⟩)] w fun e w' => e = .returned (.int .u64 (tnVal (l.drop p))) ∧ RSt w' b a n c l (p + tnSize (l.drop p)) (tnErr (l.drop p)) ∧ Only b w w' :=
    fun a' n' c' h1 h2 => (number_core b a a' n c l p w h n' c' h1 h2).mono (by
      rintro e w' ⟨rfl, k, rfl⟩
      exact ⟨rfl, h.stepped _ _ k (by omega), (((Only.refl _ _).setCell _ _).setCell _ _).drewN k⟩)
  cases ha : a with
  | none =>
    subst ha
    obtain ⟨e1, e2⟩ := h.hs.nil rfl
    have e3 := h.hs.len
    rw [e1] at e3
    obtain rfl : 0 = n := e3
    subst e2
    obtain rfl : p = 0 := by omega
    exact fin none 0 0 h.hs (.inr (.inr ⟨rfl, rfl, rfl, rfl, rfl, rfl, rfl⟩))
  | some x =>
    subst ha
    obtain ⟨g, rfl, hg⟩ := h.ne x rfl
    by_cases hp : p < c
    · exact fin _ _ _ (h.hs.rest p hle) (.inl ⟨g, rfl, hp, rfl, rfl, rfl⟩)
    · have e1 : c = p := by omega
      have e2 : n = p := by omega
      have h2 := h.hs.rest_end (by omega)
      rw [e1] at h2
      exact fin _ 0 0 h2 (.inr (.inl ⟨g, rfl, e2, e1, rfl, rfl, rfl⟩))
theorem rd_int (b : Nat) (a : Option Addr) (n c : Nat) (l : List Int) (p : Nat) (m : Int) (q : m ≤ 9223372036854775807) (w : World) (h : RSt w b a n c l p 0) :
    Calls Tryd.prog 70 #[.pointer (some ⟨b, 0, none⟩), .int .i64 m] w fun e w' => e = .returned (.int .i64 (tcVal m (l.drop p))) ∧ RSt w' b a n c l (p + tcSize m (l.drop p)) (tcErr m (l.drop p)) ∧ Only b w w' := by
  have HC := hide (rd_count b a n c l p m q w h)
  clear h
  go_enter Tryd.func70, Tryd.ntmps70
  go_wp2_with fail
  refine HC.out.mono ?_
  rintro e w' ⟨rfl, h1, h2⟩
  clear HC
  go_wp2
  go_ret
  exact ⟨rfl, h1, h2⟩
theorem rd_int_err (b : Nat) (a : Option Addr) (n c : Nat) (l : List Int) (p : Nat) (E : Int) (m : Int) (w : World) (h : RSt w b a n c l p E) (hE : E ≠ 0) :
    Calls Tryd.prog 70 #[.pointer (some ⟨b, 0, none⟩), .int .i64 m] w fun e w' => e = .returned (.int .i64 0) ∧ w' = w := by
  have HC := hide (rd_count_err b a n c l p E m w h hE)
  clear h
  go_enter Tryd.func70, Tryd.ntmps70
  go_wp2_with fail
  refine HC.out.mono ?_
  rintro e w' ⟨rfl, h1⟩
  rw [h1]
  clear HC
  go_wp2
  go_ret
  exact ⟨rfl, rfl⟩
end Go.Proofs.YtabiimmpjllcpaaDoor.Wi
namespace Go.Proofs.YtabiimmpjllcpaaDoor.Wi
open Go.RowKit
set_option linter.unusedVariables false
def RnPost (p : Nat) (q : List Int) (w : World) (e : Ending) (w' : World) : Prop := e = .returned (.tuple #[.int .u64 (tnVal q), .int .i64 ((p + tnSize q : Nat) : Int), .int .i64 (tnErr q)]) ∧ ∃ k, w' = w.drewN k
theorem RnPost.mk_bad {p : Nat} {q : List Int} {w : World} {E : Int} (k : Nat) (h : tnErr q = E) (hE : E ≠ 0) : RnPost p q w (.returned (.tuple #[.int .u64 0, .int .i64 p, .int .i64 E])) (w.drewN k) := by
  obtain ⟨h1, h2⟩ := tn_bad (l := q) (by rw [h]; exact hE)
  exact ⟨ret3 (by rw [h1]; rfl) (by rw [h2]; rfl) h.symm, k, rfl⟩
theorem RnPost.mk_ok {p : Nat} {k : Int} {d : List Int} {w : World} (j : Nat) (h : tnErr (k :: d) = 0) {v s : Int} (hv : v = (M.rb (d.take k.toNat) : Nat)) (hs : s = ((p + (1 + k.toNat) : Nat) : Int)) : RnPost p (k :: d) w (.returned (.tuple #[.int .u64 v, .int .i64 s, .int .i64 0])) (w.drewN j) := by
  refine ⟨ret3 ?_ ?_ h.symm, j, rfl⟩
  · unfold tnVal; rw [if_pos h, hv]; rfl
  · unfold tnSize; rw [if_pos h, hs]; rfl
end Go.Proofs.YtabiimmpjllcpaaDoor.Wi
namespace Go.Proofs.YtabiimmpjllcpaaDoor.Wi
open Go.RowKit
set_option linter.unusedVariables false
structure QSt (w : World) (b : Nat) (a : Option Addr) (n c p : Nat) (err : Int) : Prop where
  lt : b < w.heap.size
  c0 : w.cell? ⟨b, 0, none⟩ = some (.slice a n c)
  c1 : w.cell? ⟨b, 1, none⟩ = some (.int .i64 p)
  c2 : w.cell? ⟨b, 2, none⟩ = some (.int .i64 err)
  f1 : w.frozen? ⟨b, 1, none⟩ = false
  f2 : w.frozen? ⟨b, 2, none⟩ = false
  le : p ≤ n
theorem QSt.later {w w' : World} {b : Nat} {a : Option Addr} {n c p : Nat} {E : Int} (h : QSt w b a n c p E) (hb : Below w.heap.size w w') : QSt w' b a n c p E :=
  ⟨Nat.lt_of_lt_of_le h.lt hb.size, cell_later hb h.c0, cell_later hb h.c1, cell_later hb h.c2, (hb.frozen (p := ⟨b, 1, none⟩) h.lt).trans h.f1, (hb.frozen (p := ⟨b, 2, none⟩) h.lt).trans h.f2, h.le⟩
theorem QSt.stepped {w : World} {b : Nat} {a : Option Addr} {n c p : Nat} {E : Int} (h : QSt w b a n c p E) (p' : Nat) (e' : Int) (k : Nat) (hp : p' ≤ n) : QSt (((w.drewN k).setCell ⟨b, 2, none⟩ (.int .i64 e')).setCell ⟨b, 1, none⟩ (.int .i64 (p' : Int))) b a n c p' e' := by
  obtain ⟨hlt, c0, c1, c2, f1, f2, hle⟩ := h
  refine ⟨?_, ?_, ?_, ?_, ?_, ?_, hp⟩
  all_goals go_simp
end Go.Proofs.YtabiimmpjllcpaaDoor.Wi
namespace Go.Proofs.YtabiimmpjllcpaaDoor.Wi
open Go.RowKit
set_option linter.unusedVariables false
end Go.Proofs.YtabiimmpjllcpaaDoor.Wi
namespace Go.Proofs.YtabiimmpjllcpaaDoor.Wi
open Go.RowKit
set_option linter.unusedVariables false
theorem Own.hs' {B : Nat} {w : World} {g n c : Nat} {l : List Int} (h : Own B w (.slice (some ⟨g, 0, none⟩) n c) l) (hn : l.length = n) (hb : ∀ z ∈ l, 0 ≤ z ∧ z < 256) : Hs w (some ⟨g, 0, none⟩) n c l :=
  ⟨hn, h.cap, fun x hx => by (cases hx; exact h.row), fun hx => by (cases hx), hb⟩
structure GOne (w : World) (b : Nat) (l : List Int) : Prop where
  lt : b < w.heap.size
  bytes : ∃ r c a n k, w.cell? ⟨b, 0, none⟩ = some (.slice (some ⟨r, 0, none⟩) 1 c) ∧ 1 ≤ c ∧ w.cell? ⟨r, 0, none⟩ = some (.slice a n k) ∧ Hs w a n k l
  was : ∃ r c a n k, w.cell? ⟨b, 1, none⟩ = some (.slice (some ⟨r, 0, none⟩) 1 c) ∧ 1 ≤ c ∧ w.cell? ⟨r, 0, none⟩ = some (.slice a n k) ∧ Hs w a n k l
  draws : w.cell? ⟨b, 2, none⟩ = some (.slice none 0 0)
  entries : w.cell? ⟨b, 4, none⟩ = some (.slice none 0 0)
  ints : w.cell? ⟨b, 6, none⟩ = some (.slice none 0 0)
  states : w.cell? ⟨b, 8, none⟩ = some (.slice none 0 0)
theorem GOne.later {w w' : World} {b : Nat} {l : List Int} (h : GOne w b l) (hb : Below w.heap.size w w') : GOne w' b l := by
  obtain ⟨r, c, a, n, k, e1, e2, e3, e4⟩ := h.bytes
  obtain ⟨r', c', a', n', k', e1', e2', e3', e4'⟩ := h.was
  exact ⟨Nat.lt_of_lt_of_le h.lt hb.size, ⟨r, c, a, n, k, cell_later hb e1, e2, cell_later hb e3, e4.later hb⟩, ⟨r', c', a', n', k', cell_later hb e1', e2', cell_later hb e3', e4'.later hb⟩, cell_later hb h.draws, cell_later hb h.entries, cell_later hb h.ints, cell_later hb h.states⟩
def sel (E : Int) (x : Nat) : Nat := if E = 0 then x else 0
def selE (E e : Int) : Int := if E = 0 then e else E
def selL (E : Int) (L : List Int) : List Int := if E = 0 then L else []
theorem sel_ok (x : Nat) : sel 0 x = x := rfl
theorem selE_ok (e : Int) : selE 0 e = e := rfl
theorem selL_ok (L : List Int) : selL 0 L = L := rfl
theorem sel_no {E : Int} (h : E ≠ 0) (x : Nat) : sel E x = 0 := by unfold sel; rw [if_neg h]
theorem selE_no {E : Int} (h : E ≠ 0) (e : Int) : selE E e = E := by unfold selE; rw [if_neg h]
theorem selL_no {E : Int} (h : E ≠ 0) (L : List Int) : selL E L = [] := by unfold selL; rw [if_neg h]
theorem ru_number (b : Nat) (a : Option Addr) (n c : Nat) (l : List Int) (p : Nat) (E : Int) (w : World) (h : RSt w b a n c l p E) :
    Calls Tryd.prog 87 #[.pointer (some ⟨b, 0, none⟩)] w fun e w' => e = .returned (.int .u64 (sel E (tnVal (l.drop p)))) ∧ RSt w' b a n c l (p + sel E (tnSize (l.drop p))) (selE E (tnErr (l.drop p))) ∧ Only b w w' := by
  by_cases hE : E = 0
  · subst hE
    exact rd_number2 b a n c l p w h
  · rw [sel_no hE, sel_no hE, selE_no hE]
    refine (rd_number_err b a n c l p E w h hE).mono ?_
    rintro e w' ⟨rfl, rfl⟩
    exact ⟨rfl, h, Only.refl _ _⟩
theorem ru_count (b : Nat) (a : Option Addr) (n c : Nat) (l : List Int) (p : Nat) (E : Int) (m : Int) (q : m ≤ 9223372036854775807) (w : World) (h : RSt w b a n c l p E) :
    Calls Tryd.prog 86 #[.pointer (some ⟨b, 0, none⟩), .int .i64 m] w fun e w' => e = .returned (.int .i64 (sel E (tcVal m (l.drop p)))) ∧ RSt w' b a n c l (p + sel E (tcSize m (l.drop p))) (selE E (tcErr m (l.drop p))) ∧ Only b w w' := by
  by_cases hE : E = 0
  · subst hE
    exact rd_count b a n c l p m q w h
  · rw [sel_no hE, sel_no hE, selE_no hE]
    refine (rd_count_err b a n c l p E m w h hE).mono ?_
    rintro e w' ⟨rfl, rfl⟩
    exact ⟨rfl, h, Only.refl _ _⟩
theorem ru_int (b : Nat) (a : Option Addr) (n c : Nat) (l : List Int) (p : Nat) (E : Int) (m : Int) (q : m ≤ 9223372036854775807) (w : World) (h : RSt w b a n c l p E) :
    Calls Tryd.prog 70 #[.pointer (some ⟨b, 0, none⟩), .int .i64 m] w fun e w' => e = .returned (.int .i64 (sel E (tcVal m (l.drop p)))) ∧ RSt w' b a n c l (p + sel E (tcSize m (l.drop p))) (selE E (tcErr m (l.drop p))) ∧ Only b w w' := by
  by_cases hE : E = 0
  · subst hE
    exact rd_int b a n c l p m q w h
  · rw [sel_no hE, sel_no hE, selE_no hE]
    refine (rd_int_err b a n c l p E m w h hE).mono ?_
    rintro e w' ⟨rfl, rfl⟩
    exact ⟨rfl, h, Only.refl _ _⟩
theorem ru_text (b : Nat) (a : Option Addr) (n c : Nat) (l : List Int) (p : Nat) (E : Int) (m : Int) (q : m ≤ 9223372036854775807) (w : World) (h : RSt w b a n c l p E) :
    Calls Tryd.prog 88 #[.pointer (some ⟨b, 0, none⟩), .int .i64 m] w fun e w' => e = .returned (.string (strOfNums (selL E (ttList m (l.drop p))))) ∧ RSt w' b a n c l (p + sel E (ttSize m (l.drop p))) (selE E (ttErr m (l.drop p))) ∧ Only b w w' := by
  by_cases hE : E = 0
  · subst hE
    exact rd_text b a n c l p m q w h
  · rw [selL_no hE, sel_no hE, selE_no hE]
    refine (rd_text_err b a n c l p E m w h hE).mono ?_
    rintro e w' ⟨rfl, rfl⟩
    exact ⟨rfl, h, Only.refl _ _⟩
end Go.Proofs.YtabiimmpjllcpaaDoor.Wi
namespace Go.Proofs.YtabiimmpjllcpaaDoor
open Go.RowKit Go.Maps
open Classical
set_option linter.unusedVariables false
set_option linter.unusedSimpArgs false
def rN (l : List Int) (s : Nat × Int) : Nat := Wi.sel s.2 (Wi.tnVal (l.drop s.1))
def sN (l : List Int) (s : Nat × Int) : Nat × Int := (s.1 + Wi.sel s.2 (Wi.tnSize (l.drop s.1)), Wi.selE s.2 (Wi.tnErr (l.drop s.1)))
def rI (m : Int) (l : List Int) (s : Nat × Int) : Nat := Wi.sel s.2 (Wi.tcVal m (l.drop s.1))
def sI (m : Int) (l : List Int) (s : Nat × Int) : Nat × Int := (s.1 + Wi.sel s.2 (Wi.tcSize m (l.drop s.1)), Wi.selE s.2 (Wi.tcErr m (l.drop s.1)))
def rT (l : List Int) (s : Nat × Int) : ByteArray := strOfNums (Wi.selL s.2 (Wi.ttList 64 (l.drop s.1)))
def sT (l : List Int) (s : Nat × Int) : Nat × Int := (s.1 + Wi.sel s.2 (Wi.ttSize 64 (l.drop s.1)), Wi.selE s.2 (Wi.ttErr 64 (l.drop s.1)))
def mxI : Int := 9223372036854775807
def rD (l : List Int) (s : Nat × Int) : Int × Int := ((rN l s : Int), (rN l (sN l s) : Int))
def sD (l : List Int) (s : Nat × Int) : Nat × Int := sN l (sN l s)
def s2 (l : List Int) (s : Nat × Int) : Nat × Int := sI mxI l (sI mxI l s)
def rO (l : List Int) (s : Nat × Int) : Opn := ⟨(rI mxI l s : Int), (rI mxI l (sI mxI l s) : Int), rT l (s2 l s)⟩
def sO (l : List Int) (s : Nat × Int) : Nat × Int := sT l (s2 l s)
def rE (l : List Int) (s : Nat × Int) : En := ⟨(rI mxI l s : Int), (rI mxI l (sI mxI l s) : Int), rO l (s2 l s)⟩
def sE (l : List Int) (s : Nat × Int) : Nat × Int := sO l (s2 l s)
def RD (N : Nat) (w : World) (b : Nat) (l : List Int) (s : Nat × Int) : Prop := ∃ a n c, Wi.RSt w b a n c l s.1 s.2 ∧ b < N ∧ N ≤ w.heap.size ∧ ∀ x, a = some x → 0 < l.length → x.block < N
theorem RD.lt {N : Nat} {w : World} {b : Nat} {l : List Int} {s : Nat × Int} (h : RD N w b l s) : b < N ∧ N ≤ w.heap.size := by
  obtain ⟨a, n, c, h, h1, h2, h3⟩ := h
  exact ⟨h1, h2⟩
def UB (b : Nat) (w w' : World) : Prop := Upd (fun k => k = b) w w'
theorem UB.refl (b : Nat) (w : World) : UB b w w := Upd.refl _ _
theorem UB.trans {b : Nat} {u v w : World} (h : UB b u v) (k : UB b v w) : UB b u w := Upd.trans h k
theorem UB.of_below {b : Nat} {w w' : World} (h : Below w.heap.size w w') : UB b w w' := Upd.of_below h
theorem UB.of_only {b : Nat} {w w' : World} (h : Wi.Only b w w') : UB b w w' := ⟨h.bel.os, h.bel.tape, h.bel.output, by rw [h.same]; exact Nat.le_refl _, fun k _ hs => h.block k hs⟩
theorem UB.below {b B : Nat} {w w' : World} (h : UB b w w') (hB : B ≤ w.heap.size) (hb : B ≤ b) : Below B w w' := Upd.below h hB (fun k hk => by omega)
theorem RD.ub {N : Nat} {w w' : World} {b : Nat} {l : List Int} {s : Nat × Int} {S : Nat → Prop} (h : RD N w b l s) (u : Upd S w w') (hS : ∀ k, k < N → ¬ S k) : RD N w' b l s := by
  obtain ⟨a, n, c, h, h1, h2, h3⟩ := h
  have hb := hS b h1
  refine ⟨a, n, c, ⟨Nat.lt_of_lt_of_le h.lt u.size, (u.cell (p := ⟨b, 0, none⟩) h.lt hb).trans h.c0, (u.cell (p := ⟨b, 1, none⟩) h.lt hb).trans h.c1, (u.cell (p := ⟨b, 2, none⟩) h.lt hb).trans h.c2, (u.cell (p := ⟨b, 3, none⟩) h.lt hb).trans h.c3, (u.frozen (p := ⟨b, 2, none⟩) h.lt hb).trans h.f2, (u.frozen (p := ⟨b, 3, none⟩) h.lt hb).trans h.f3, ⟨h.hs.len, h.hs.cap, fun x hx i hi => ?_, h.hs.nil, h.hs.byte⟩, h.cmax, h.ne, h.le⟩, h1, Nat.le_trans h2 u.size, h3⟩
  have hx3 := h3 x hx (by omega)
  have hr := h.hs.row x hx i hi
  obtain ⟨g, rfl, hg⟩ := h.ne x hx
  rw [Addr.add_lit] at hr ⊢
  rw [u.cell (p := ⟨g, 0 + i, none⟩) (Nat.lt_of_lt_of_le hx3 h2) (hS g hx3)]
  exact hr
theorem RD.later {N : Nat} {w w' : World} {b : Nat} {l : List Int} {s : Nat × Int} (h : RD N w b l s) (hb : Below w.heap.size w w') : RD N w' b l s := h.ub (S := fun _ => False) (Upd.of_below hb) (fun _ _ => id)
theorem rd_N (N : Nat) (b : Nat) (l : List Int) (s : Nat × Int) (w : World) (h : RD N w b l s) : Calls Tryd.prog 87 #[.pointer (some ⟨b, 0, none⟩)] w fun e w' => e = .returned (.int .u64 (rN l s : Int)) ∧ RD N w' b l (sN l s) ∧ UB b w w' := by
  obtain ⟨a, n, c, h, k1, k2, k3⟩ := h
  exact (Wi.ru_number b a n c l s.1 s.2 w h).mono (fun e w' ⟨h1, h2, h3⟩ => ⟨h1, ⟨a, n, c, h2, k1, by rw [h3.same]; exact k2, k3⟩, UB.of_only h3⟩)
theorem rd_I (N : Nat) (b : Nat) (m : Int) (hm : m ≤ 9223372036854775807) (l : List Int) (s : Nat × Int) (w : World) (h : RD N w b l s) : Calls Tryd.prog 70 #[.pointer (some ⟨b, 0, none⟩), .int .i64 m] w fun e w' => e = .returned (.int .i64 (rI m l s : Int)) ∧ RD N w' b l (sI m l s) ∧ UB b w w' := by
  obtain ⟨a, n, c, h, k1, k2, k3⟩ := h
  exact (Wi.ru_int b a n c l s.1 s.2 m hm w h).mono (fun e w' ⟨h1, h2, h3⟩ => ⟨h1, ⟨a, n, c, h2, k1, by rw [h3.same]; exact k2, k3⟩, UB.of_only h3⟩)
theorem rd_C (N : Nat) (b : Nat) (m : Int) (hm : m ≤ 9223372036854775807) (l : List Int) (s : Nat × Int) (w : World) (h : RD N w b l s) : Calls Tryd.prog 86 #[.pointer (some ⟨b, 0, none⟩), .int .i64 m] w fun e w' => e = .returned (.int .i64 (rI m l s : Int)) ∧ RD N w' b l (sI m l s) ∧ UB b w w' := by
  obtain ⟨a, n, c, h, k1, k2, k3⟩ := h
  exact (Wi.ru_count b a n c l s.1 s.2 m hm w h).mono (fun e w' ⟨h1, h2, h3⟩ => ⟨h1, ⟨a, n, c, h2, k1, by rw [h3.same]; exact k2, k3⟩, UB.of_only h3⟩)
theorem rd_T (N : Nat) (b : Nat) (l : List Int) (s : Nat × Int) (w : World) (h : RD N w b l s) : Calls Tryd.prog 88 #[.pointer (some ⟨b, 0, none⟩), .int .i64 64] w fun e w' => e = .returned (.string (rT l s)) ∧ RD N w' b l (sT l s) ∧ UB b w w' := by
  obtain ⟨a, n, c, h, k1, k2, k3⟩ := h
  exact (Wi.ru_text b a n c l s.1 s.2 64 (by decide) w h).mono (fun e w' ⟨h1, h2, h3⟩ => ⟨h1, ⟨a, n, c, h2, k1, by rw [h3.same]; exact k2, k3⟩, UB.of_only h3⟩)
theorem ex_buildP {o : Oper} {ρ : Operand → Value} {s : TypeId} {ps : Array (Nat × Operand)} {P : Array (Nat × Value)} {V : Value} {w : World} (ho : o.op = .build s ps) (hp : ps.map (fun (i, x) => (i, ρ x)) = P) (hr : (Instr.build s P).run Tryd.prog w = .ok V w) : (execOp ρ o).run Tryd.prog w = .ok (.value V) w := by
  unfold execOp
  simp only [ho, hp, Sem.run_bind, hr, Result.andThen_ok]
  rfl
theorem bdDr (x y : Int) (w : World) : (Instr.build 33 #[(0, .int .u64 x), (1, .int .u64 y)]).run Tryd.prog w = .ok (.agg #[.int .u64 x, .int .u64 y]) w := by go_simp
theorem bdEn (x y : Int) (w : World) : (Instr.build 28 #[(0, .int .i64 x), (1, .int .i64 y)]).run Tryd.prog w = .ok (.agg #[.int .i64 x, .int .i64 y, .int .i64 0, .int .i64 0, .string ⟨#[]⟩]) w := by go_simp
theorem bdOp (x y : Int) (v : ByteArray) (w : World) : (Instr.build 26 #[(0, .int .i64 x), (1, .int .i64 y), (2, .string v)]).run Tryd.prog w = .ok (.agg #[.int .i64 x, .int .i64 y, .string v]) w := by go_simp
theorem bdRs (x y : Int) (v : ByteArray) (w : World) : (Instr.build 30 #[(0, .int .i64 x), (1, .int .i64 y), (2, .string v)]).run Tryd.prog w = .ok (.agg #[.int .i64 x, .int .i64 y, .string v]) w := by go_simp
structure Bx (w : World) (q : Nat) (cs : List Value) : Prop where
  lt : q < w.heap.size
  cell : ∀ i x, cs[i]? = some x → w.cell? ⟨q, i, none⟩ = some x
  free : ∀ i, w.frozen? ⟨q, i, none⟩ = false
theorem Bx.ub {w w' : World} {q b : Nat} {cs : List Value} (h : Bx w q cs) (u : UB b w w') (hq : q ≠ b) : Bx w' q cs :=
  ⟨Nat.lt_of_lt_of_le h.lt u.size, fun i x hx => (u.cell (p := ⟨q, i, none⟩) h.lt hq).trans (h.cell i x hx), fun i => (u.frozen (p := ⟨q, i, none⟩) h.lt hq).trans (h.free i)⟩
theorem Bx.new (w : World) (cs : List Value) (t : TypeId) : Bx (w.alloc (.cells cs.toArray t)) w.heap.size cs :=
  ⟨by simp, fun i x hx => cell_box _ _ _ _ _ (by simpa using hx), fun i => froz_box _ _ _ _⟩
theorem Bx.later {w w' : World} {q : Nat} {cs : List Value} (h : Bx w q cs) (hb : Below w.heap.size w w') : Bx w' q cs :=
  ⟨Nat.lt_of_lt_of_le h.lt hb.size, fun i x hx => (hb.cell (p := ⟨q, i, none⟩) h.lt).trans (h.cell i x hx), fun i => (hb.frozen (p := ⟨q, i, none⟩) h.lt).trans (h.free i)⟩
theorem Bx.put {w : World} {q : Nat} {cs : List Value} (h : Bx w q cs) (cs' : List Value) (hl : cs'.length ≤ cs.length) : Bx (sets w q 0 cs') q cs' ∧ UB q w (sets w q 0 cs') := by
  refine ⟨⟨by rw [size_sets]; exact h.lt, fun i x hx => ?_, fun i => sets_free _ _ _ (h.free i)⟩, upd_sets (S := fun b => b = q) (b := q) rfl _ _ _ (Upd.refl _ _)⟩
  have := sets_at (b := q) cs' 0 w (fun k hk => ⟨_, by rw [Nat.zero_add]; exact h.cell k _ (List.getElem?_eq_getElem (show k < cs.length by omega))⟩) i x hx
  rw [Nat.zero_add] at this
  exact this
theorem Bx.st {w : World} {q : Nat} {cs : List Value} (h : Bx w q cs) (ty : TypeId) (cs' : List Value) (hl : cs'.length = cs.length) (hi : (Tryd.prog.info? ty).map (·.size) = some cs'.toArray.size) (h1 : cs'.toArray.all (·.oneCell') = true) : (Instr.storeAt ty (.pointer (some ⟨q, 0, none⟩)) (.agg cs'.toArray)).run Tryd.prog w = .ok () (sets w q 0 cs') := by
  have := run_storeAt_mid (P := Tryd.prog) w q 0 ty cs'.toArray (fun j hj => ⟨by rw [Nat.zero_add, h.cell j _ (List.getElem?_eq_getElem (show j < cs.length by simpa [hl] using hj))]; rfl, by rw [Nat.zero_add]; exact h.free j⟩) hi h1
  rw [setCells_sets] at this
  exact this
theorem Bx.res {w : World} {q : Nat} {cs : List Value} (h : Bx w q cs) {fn : Func} {i : Tmp} {ty : TypeId} {T : Array Value} {R : Ending → World → Prop} (hf : fn.results = #[.cell i ty]) (hq : T[i]? = some (gw true (.pointer (some ⟨q, 0, none⟩)))) {d : TypeDesc} (hu : Tryd.prog.underlying ty = some d) (hd : d.isRow = true) (hi : (Tryd.prog.info? ty).map (·.size) = some cs.length) (hR : R (.returned (.agg cs.toArray)) w) : bodyPost Tryd.prog fn R .ret ⟨T, []⟩ w := by
  refine bodyPost_ret (v := .agg cs.toArray) ?_ rfl hR
  have := run_loadVar_mid (P := Tryd.prog) w q 0 ty cs _ (fun j v hv => by rw [Nat.zero_add]; exact h.cell j v hv) hu hd hi
  have hq' : T.getD i undef = .pointer (some ⟨q, 0, none⟩) := getD_of hq
  simp only [results, hf]
  simp only [Array.getD_eq_getD_getElem?] at hq'
  simp [Sem.run_bind, Result.andThen, hq', asAddr, this]
theorem ldRd {w : World} {q b : Nat} (h : w.cell? ⟨q, 0, none⟩ = some (.pointer (some ⟨b, 0, none⟩))) : (Instr.loadAt 102 (.pointer (some ⟨q, 0, none⟩))).run Tryd.prog w = .ok (.agg #[.pointer (some ⟨b, 0, none⟩)]) w := by
  go_simp
theorem ldRp {w : World} {q b : Nat} (h : w.cell? ⟨q, 0, none⟩ = some (.pointer (some ⟨b, 0, none⟩))) : (Instr.loadAt 99 (.pointer (some ⟨q, 0, none⟩))).run Tryd.prog w = .ok (.pointer (some ⟨b, 0, none⟩)) w := by
  go_simp
theorem UB.trans_new {b q : Nat} {u v w : World} (h : UB b u v) (k : UB q v w) (hq : u.heap.size ≤ q) : UB b u w :=
  ⟨k.os.trans h.os, k.tape.trans h.tape, k.output.trans h.output, Nat.le_trans h.size k.size, fun i hi hs => (k.block i (Nat.lt_of_lt_of_le hi h.size) (by omega)).trans (h.block i hi hs)⟩
set_option maxRecDepth 100000 in
theorem rnumber_any (N b : Nat) (l : List Int) (s : Nat × Int) (w : World) (h : RD N w b l s) : Calls Tryd.prog 51 #[.agg #[.pointer (some ⟨b, 0, none⟩)]] w fun e w' => e = .returned (.int .i64 (rI mxI l s : Int)) ∧ RD N w' b l (sI mxI l s) ∧ UB b w w' := by
  have hb01 := fun o => (Below.refl w.heap.size w).alloc (Nat.le_refl _) o
  have HR := hide (fun o => rd_I N b mxI (Int.le_refl _) l s (w.alloc o) (h.later (hb01 o)))
  have HB := hide hb01
  clear h hb01
  go_enter Tryd.func51, Tryd.ntmps51
  go_wp2_with fail
  refine (HR.out _).mono ?_
  rintro e w2 ⟨rfl, h2, h3⟩
  have H2 := hide h2
  have H3 := hide h3
  clear h2 h3
  go_wp2
  go_ret
  exact ⟨rfl, H2.out, (UB.of_below (HB.out _)).trans H3.out⟩
set_option maxRecDepth 100000 in
set_option maxHeartbeats 2000000 in
theorem rdraw_any (N b : Nat) (l : List Int) (s : Nat × Int) (w : World) (h : RD N w b l s) : Calls Tryd.prog 72 #[.agg #[.pointer (some ⟨b, 0, none⟩)]] w fun e w' => e = .returned (.agg #[.int .u64 (rD l s).1, .int .u64 (rD l s).2]) ∧ RD N w' b l (sD l s) ∧ UB b w w' := by
  have hlt := h.lt
  have hqb : w.heap.size ≠ b := by omega
  have hqb2 : w.heap.size + 1 ≠ b := by omega
  go_enter Tryd.func72, Tryd.ntmps72
  go_upto_region 1 with fail
  obtain ⟨w1, hw1⟩ : ∃ w1, w1 = (w.alloc (.cells #[.pointer (some ⟨b, 0, none⟩)] 102)).alloc (.cells #[.int .u64 0, .int .u64 0] 33) := ⟨_, rfl⟩
  rw [← hw1]
  have hb01 : Below w.heap.size w w1 := by rw [hw1]; exact ((Below.refl _ _).alloc (Nat.le_refl _) _).alloc (by simp) _
  have B1_0 : Bx w1 w.heap.size [.pointer (some ⟨b, 0, none⟩)] := by rw [hw1]; exact (Bx.new w [.pointer (some ⟨b, 0, none⟩)] _).later ((Below.refl _ _).alloc (Nat.le_refl _) _)
  have B2_0 : Bx w1 (w.heap.size + 1) [.int .u64 0, .int .u64 0] := by rw [hw1]; have := Bx.new (w.alloc (.cells #[.pointer (some ⟨b, 0, none⟩)] 102)) [.int .u64 0, .int .u64 0] 33; simpa using this
  have hR1 := h.later hb01
  have hv0 : UB b w w1 := UB.of_below hb01
  clear hw1
  refine wp_region_lit ?_
  refine vl_gen (fun T => T.size = 12 ∧ T[1]? = some (gw true (.pointer (some ⟨w.heap.size, 0, none⟩))) ∧ T[2]? = some (gw true (.pointer (some ⟨w.heap.size + 1, 0, none⟩)))) ⟨rfl, rfl, rfl⟩ (fun T0 ⟨hz, s1, s2_⟩ => ?_)
  have s2 := s2_
  clear s2_
  refine vt (.pointer (some ⟨w.heap.size, 0, none⟩)) (ex_fa rfl (ev s1 rfl) (by go_simp)) hz (fun A1_1 zz kk s4x => ?_)
  replace s1 := kt kk s1
  replace s2 := kt kk s2
  clear kk hz
  have hz := zz
  have s4 := s4x
  clear zz s4x
  refine vt (.pointer (some ⟨b, 0, none⟩)) (ex_ld rfl (ev s4 rfl) (ldRp (B1_0.cell 0 _ rfl))) hz (fun A1_2 zz kk s5x => ?_)
  replace s1 := kt kk s1
  replace s2 := kt kk s2
  replace s4 := kt kk s4
  clear kk hz
  have hz := zz
  have s5 := s5x
  clear zz s5x A1_1
  refine vcallP (want_none rfl) (ex_call rfl (by simp only [List.map_toArray, List.map_cons, List.map_nil, (ev s5 rfl), evc] <;> rfl) rfl) (rd_N N b l s w1 hR1) rfl hz (by decide) ?_
  rintro e v1 ⟨rfl, hR2, hu1⟩
  refine ⟨_, rfl, fun A1_3 zz kk s6x => ?_⟩
  have B1_1 := B1_0.ub hu1 hqb
  have B2_1 := B2_0.ub hu1 hqb2
  have hv1 := hv0.trans hu1
  replace s1 := kt kk s1
  replace s2 := kt kk s2
  replace s4 := kt kk s4
  clear kk hz s5
  have hz := zz
  have s6 := s6x
  clear zz s6x A1_2
  refine vt _ (ex_assign rfl (ev s6 rfl)) hz (fun A1_4 zz kk s3x => ?_)
  replace s1 := kt kk s1
  replace s2 := kt kk s2
  replace s4 := kt kk s4
  clear kk hz s6
  have hz := zz
  have s3 := s3x
  clear zz s3x A1_3
  refine wpList_nil ?_
  go_upto_region 2 with fail
  refine wp_region_lit ?_
  refine vt _ (ex_move rfl (ev s3 rfl)) hz (fun A2_1 zz kk s7x => ?_)
  replace s1 := kt kk s1
  replace s2 := kt kk s2
  replace s3 := kt kk s3
  replace s4 := kt kk s4
  clear kk hz
  have hz := zz
  have s7 := s7x
  clear zz s7x
  refine vt (.pointer (some ⟨w.heap.size, 0, none⟩)) (ex_fa rfl (ev s1 rfl) (by go_simp)) hz (fun A2_2 zz kk s8x => ?_)
  replace s1 := kt kk s1
  replace s2 := kt kk s2
  replace s3 := kt kk s3
  replace s4 := kt kk s4
  replace s7 := kt kk s7
  clear kk hz
  have hz := zz
  have s8 := s8x
  clear zz s8x A2_1
  refine vt (.pointer (some ⟨b, 0, none⟩)) (ex_ld rfl (ev s8 rfl) (ldRp (B1_1.cell 0 _ rfl))) hz (fun A2_3 zz kk s9x => ?_)
  replace s1 := kt kk s1
  replace s2 := kt kk s2
  replace s3 := kt kk s3
  replace s4 := kt kk s4
  replace s7 := kt kk s7
  clear kk hz s8
  have hz := zz
  have s9 := s9x
  clear zz s9x A2_2
  refine vcallP (want_none rfl) (ex_call rfl (by simp only [List.map_toArray, List.map_cons, List.map_nil, (ev s9 rfl), evc] <;> rfl) rfl) (rd_N N b l (sN l s) v1 hR2) rfl hz (by decide) ?_
  rintro e v2 ⟨rfl, hR3, hu2⟩
  refine ⟨_, rfl, fun A2_4 zz kk s10x => ?_⟩
  have B1_2 := B1_1.ub hu2 hqb
  have B2_2 := B2_1.ub hu2 hqb2
  have hv2 := hv1.trans hu2
  replace s1 := kt kk s1
  replace s2 := kt kk s2
  replace s3 := kt kk s3
  replace s4 := kt kk s4
  replace s7 := kt kk s7
  clear kk hz s9
  have hz := zz
  have s10 := s10x
  clear zz s10x A2_3
  refine vt (.agg #[.int .u64 (rN l s : Int), .int .u64 (rN l (sN l s) : Int)]) (ex_buildP rfl (by simp only [List.map_toArray, List.map_cons, List.map_nil, (ev s7 rfl), (ev s10 rfl)] <;> rfl) (bdDr _ _ _)) hz (fun A2_5 zz kk s11x => ?_)
  replace s1 := kt kk s1
  replace s2 := kt kk s2
  replace s3 := kt kk s3
  replace s4 := kt kk s4
  clear kk hz s7 s10
  have hz := zz
  have s11 := s11x
  clear zz s11x A2_4
  refine vs (sets v2 (w.heap.size + 1) 0 [.int .u64 (rN l s : Int), .int .u64 (rN l (sN l s) : Int)]) (want_none rfl) (ex_st rfl (ev s2 rfl) (ev s11 rfl) (B2_2.st 33 [.int .u64 (rN l s : Int), .int .u64 (rN l (sN l s) : Int)] rfl (by kernel_rfl) (by kernel_rfl))) rfl ?_
  have BR := B2_2.put [.int .u64 (rN l s : Int), .int .u64 (rN l (sN l s) : Int)] (Nat.le_refl _)
  refine wpList_nil ?_
  go_wp2
  exact BR.1.res rfl s2 Tryd.underlying33 rfl (by kernel_rfl) ⟨rfl, hR3.ub BR.2 (fun k hk => by omega), hv2.trans_new BR.2 (by have := hb01.size; omega)⟩
set_option maxRecDepth 100000 in
set_option maxHeartbeats 2000000 in
theorem rname_any (N b : Nat) (l : List Int) (s : Nat × Int) (w : World) (h : RD N w b l s) : Calls Tryd.prog 73 #[.agg #[.pointer (some ⟨b, 0, none⟩)]] w fun e w' => e = .returned (.agg #[.int .i64 (rI mxI l s : Int), .int .i64 (rI mxI l (sI mxI l s) : Int), .int .i64 0, .int .i64 0, .string ⟨#[]⟩]) ∧ RD N w' b l (s2 l s) ∧ UB b w w' := by
  have hlt := h.lt
  have hqb : w.heap.size ≠ b := by omega
  have hqb2 : w.heap.size + 1 ≠ b := by omega
  go_enter Tryd.func73, Tryd.ntmps73
  go_upto_region 1 with fail
  obtain ⟨w1, hw1⟩ : ∃ w1, w1 = (w.alloc (.cells #[.pointer (some ⟨b, 0, none⟩)] 102)).alloc (.cells #[.int .i64 0, .int .i64 0, .int .i64 0, .int .i64 0, .string ⟨#[]⟩] 28) := ⟨_, rfl⟩
  rw [← hw1]
  have hb01 : Below w.heap.size w w1 := by rw [hw1]; exact ((Below.refl _ _).alloc (Nat.le_refl _) _).alloc (by simp) _
  have B1_0 : Bx w1 w.heap.size [.pointer (some ⟨b, 0, none⟩)] := by rw [hw1]; exact (Bx.new w [.pointer (some ⟨b, 0, none⟩)] _).later ((Below.refl _ _).alloc (Nat.le_refl _) _)
  have B2_0 : Bx w1 (w.heap.size + 1) [.int .i64 0, .int .i64 0, .int .i64 0, .int .i64 0, .string ⟨#[]⟩] := by rw [hw1]; have := Bx.new (w.alloc (.cells #[.pointer (some ⟨b, 0, none⟩)] 102)) [.int .i64 0, .int .i64 0, .int .i64 0, .int .i64 0, .string ⟨#[]⟩] 28; simpa using this
  have hR1 := h.later hb01
  have hv0 : UB b w w1 := UB.of_below hb01
  clear hw1
  refine wp_region_lit ?_
  refine vl_gen (fun T => T.size = 10 ∧ T[1]? = some (gw true (.pointer (some ⟨w.heap.size, 0, none⟩))) ∧ T[2]? = some (gw true (.pointer (some ⟨w.heap.size + 1, 0, none⟩)))) ⟨rfl, rfl, rfl⟩ (fun T0 ⟨hz, s1, s2_⟩ => ?_)
  have s2 := s2_
  clear s2_
  refine vt (.agg #[.pointer (some ⟨b, 0, none⟩)]) (ex_ld rfl (ev s1 rfl) (ldRd (B1_0.cell 0 _ rfl))) hz (fun A1_1 zz kk s4x => ?_)
  replace s1 := kt kk s1
  replace s2 := kt kk s2
  clear kk hz
  have hz := zz
  have s4 := s4x
  clear zz s4x
  refine vcallP (want_none rfl) (ex_call rfl (by simp only [List.map_toArray, List.map_cons, List.map_nil, (ev s4 rfl), evc] <;> rfl) rfl) (rnumber_any N b l s w1 hR1) rfl hz (by decide) ?_
  rintro e v1 ⟨rfl, hR2, hu1⟩
  refine ⟨_, rfl, fun A1_2 zz kk s5x => ?_⟩
  have B1_1 := B1_0.ub hu1 hqb
  have B2_1 := B2_0.ub hu1 hqb2
  have hv1 := hv0.trans hu1
  replace s1 := kt kk s1
  replace s2 := kt kk s2
  replace s4 := kt kk s4
  clear kk hz
  have hz := zz
  have s5 := s5x
  clear zz s5x A1_1
  refine vt _ (ex_assign rfl (ev s5 rfl)) hz (fun A1_3 zz kk s3x => ?_)
  replace s1 := kt kk s1
  replace s2 := kt kk s2
  replace s4 := kt kk s4
  clear kk hz s5
  have hz := zz
  have s3 := s3x
  clear zz s3x A1_2
  refine wpList_nil ?_
  go_upto_region 2 with fail
  refine wp_region_lit ?_
  refine vt _ (ex_move rfl (ev s3 rfl)) hz (fun A2_1 zz kk s6x => ?_)
  replace s1 := kt kk s1
  replace s2 := kt kk s2
  replace s3 := kt kk s3
  replace s4 := kt kk s4
  clear kk hz
  have hz := zz
  have s6 := s6x
  clear zz s6x
  refine vt (.agg #[.pointer (some ⟨b, 0, none⟩)]) (ex_ld rfl (ev s1 rfl) (ldRd (B1_1.cell 0 _ rfl))) hz (fun A2_2 zz kk s7x => ?_)
  replace s1 := kt kk s1
  replace s2 := kt kk s2
  replace s3 := kt kk s3
  replace s4 := kt kk s4
  replace s6 := kt kk s6
  clear kk hz
  have hz := zz
  have s7 := s7x
  clear zz s7x A2_1
  refine vcallP (want_none rfl) (ex_call rfl (by simp only [List.map_toArray, List.map_cons, List.map_nil, (ev s7 rfl), evc] <;> rfl) rfl) (rnumber_any N b l (sI mxI l s) v1 hR2) rfl hz (by decide) ?_
  rintro e v2 ⟨rfl, hR3, hu2⟩
  refine ⟨_, rfl, fun A2_3 zz kk s8x => ?_⟩
  have B1_2 := B1_1.ub hu2 hqb
  have B2_2 := B2_1.ub hu2 hqb2
  have hv2 := hv1.trans hu2
  replace s1 := kt kk s1
  replace s2 := kt kk s2
  replace s3 := kt kk s3
  replace s4 := kt kk s4
  replace s6 := kt kk s6
  clear kk hz s7
  have hz := zz
  have s8 := s8x
  clear zz s8x A2_2
  refine vt (.agg #[.int .i64 (rI mxI l s : Int), .int .i64 (rI mxI l (sI mxI l s) : Int), .int .i64 0, .int .i64 0, .string ⟨#[]⟩]) (ex_buildP rfl (by simp only [List.map_toArray, List.map_cons, List.map_nil, (ev s6 rfl), (ev s8 rfl)] <;> rfl) (bdEn _ _ _)) hz (fun A2_4 zz kk s9x => ?_)
  replace s1 := kt kk s1
  replace s2 := kt kk s2
  replace s3 := kt kk s3
  replace s4 := kt kk s4
  clear kk hz s6 s8
  have hz := zz
  have s9 := s9x
  clear zz s9x A2_3
  refine vs (sets v2 (w.heap.size + 1) 0 [.int .i64 (rI mxI l s : Int), .int .i64 (rI mxI l (sI mxI l s) : Int), .int .i64 0, .int .i64 0, .string ⟨#[]⟩]) (want_none rfl) (ex_st rfl (ev s2 rfl) (ev s9 rfl) (B2_2.st 28 [.int .i64 (rI mxI l s : Int), .int .i64 (rI mxI l (sI mxI l s) : Int), .int .i64 0, .int .i64 0, .string ⟨#[]⟩] rfl (by kernel_rfl) (by kernel_rfl))) rfl ?_
  have BR := B2_2.put [.int .i64 (rI mxI l s : Int), .int .i64 (rI mxI l (sI mxI l s) : Int), .int .i64 0, .int .i64 0, .string ⟨#[]⟩] (Nat.le_refl _)
  refine wpList_nil ?_
  go_wp2
  exact BR.1.res rfl s2 Tryd.underlying28 rfl (by kernel_rfl) ⟨rfl, hR3.ub BR.2 (fun k hk => by omega), hv2.trans_new BR.2 (by have := hb01.size; omega)⟩
set_option maxRecDepth 100000 in
set_option maxHeartbeats 2000000 in
theorem rop_any (N b : Nat) (l : List Int) (s : Nat × Int) (w : World) (h : RD N w b l s) : Calls Tryd.prog 74 #[.agg #[.pointer (some ⟨b, 0, none⟩)]] w fun e w' => e = .returned (.agg #[.int .i64 (rO l s).k, .int .i64 (rO l s).s, .string (rO l s).v]) ∧ RD N w' b l (sO l s) ∧ UB b w w' := by
  have hlt := h.lt
  have hqb : w.heap.size ≠ b := by omega
  have hqb2 : w.heap.size + 1 ≠ b := by omega
  go_enter Tryd.func74, Tryd.ntmps74
  go_upto_region 1 with fail
  obtain ⟨w1, hw1⟩ : ∃ w1, w1 = (w.alloc (.cells #[.pointer (some ⟨b, 0, none⟩)] 102)).alloc (.cells #[.int .i64 0, .int .i64 0, .string ⟨#[]⟩] 26) := ⟨_, rfl⟩
  rw [← hw1]
  have hb01 : Below w.heap.size w w1 := by rw [hw1]; exact ((Below.refl _ _).alloc (Nat.le_refl _) _).alloc (by simp) _
  have B1_0 : Bx w1 w.heap.size [.pointer (some ⟨b, 0, none⟩)] := by rw [hw1]; exact (Bx.new w [.pointer (some ⟨b, 0, none⟩)] _).later ((Below.refl _ _).alloc (Nat.le_refl _) _)
  have B2_0 : Bx w1 (w.heap.size + 1) [.int .i64 0, .int .i64 0, .string ⟨#[]⟩] := by rw [hw1]; have := Bx.new (w.alloc (.cells #[.pointer (some ⟨b, 0, none⟩)] 102)) [.int .i64 0, .int .i64 0, .string ⟨#[]⟩] 26; simpa using this
  have hR1 := h.later hb01
  have hv0 : UB b w w1 := UB.of_below hb01
  clear hw1
  refine vh_start (fun v => UB b w1 v) (by kernel_rfl) ?_
  have hS : UB b w1 w1.drew := UB.of_below (Below.refl _ _).drew
  have hR1d := hR1.later (Below.refl _ _).drew
  have B1_0d := B1_0.later (Below.refl _ _).drew
  have B2_0d := B2_0.later (Below.refl _ _).drew
  refine vh_gen (fun T => T.size = 15 ∧ T[1]? = some (gw true (.pointer (some ⟨w.heap.size, 0, none⟩))) ∧ T[2]? = some (gw true (.pointer (some ⟨w.heap.size + 1, 0, none⟩)))) ⟨rfl, rfl, rfl⟩ (fun T0 ⟨hz, s1, s2_⟩ => ?_)
  have s2 := s2_
  clear s2_
  refine vh_take 0 true (.agg #[.pointer (some ⟨b, 0, none⟩)]) rfl (by kernel_rfl) (by kernel_rfl) (by kernel_rfl) (want_none rfl) (fun hc v hv => ex_ld rfl (ev s1 rfl) (ldRd ((B1_0.ub hv hqb).cell 0 _ rfl))) rfl hz (by decide) hS (fun A1_1 zz kk s5x => ?_)
  replace s1 := kt kk s1
  replace s2 := kt kk s2
  clear kk hz
  have hz := zz
  have s5 := s5x
  clear zz s5x
  refine vh_take 2 true (.agg #[.pointer (some ⟨b, 0, none⟩)]) rfl (by kernel_rfl) (by kernel_rfl) (by kernel_rfl) (want_none rfl) (fun hc v hv => ex_ld rfl (ev s1 rfl) (ldRd ((B1_0.ub hv hqb).cell 0 _ rfl))) rfl hz (by decide) hS (fun A1_2 zz kk s7x => ?_)
  replace s1 := kt kk s1
  replace s2 := kt kk s2
  replace s5 := kt kk s5
  clear kk hz
  have hz := zz
  have s7 := s7x
  clear zz s7x A1_1
  refine vh_call 1 rfl (by kernel_rfl) (want_none rfl) (ex_call rfl (by simp only [List.map_toArray, List.map_cons, List.map_nil, (ev s5 rfl), evc] <;> rfl) rfl) (rnumber_any N b l s w1.drew hR1d) rfl hz (by decide) ?_
  rintro e v1 ⟨rfl, hR2, hu1⟩
  refine ⟨_, rfl, (hS.trans hu1), fun A1_3 zz kk s6x => ?_⟩
  have B1_1 := B1_0d.ub hu1 hqb
  have B2_1 := B2_0d.ub hu1 hqb2
  have hv1 := hv0.trans (UB.trans (UB.of_below (Below.refl _ _).drew) hu1)
  have hSn1 := hS.trans hu1
  replace s1 := kt kk s1
  replace s2 := kt kk s2
  replace s7 := kt kk s7
  clear kk hz s5
  have hz := zz
  have s6 := s6x
  clear zz s6x A1_2
  refine vh_call 3 rfl (by kernel_rfl) (want_none rfl) (ex_call rfl (by simp only [List.map_toArray, List.map_cons, List.map_nil, (ev s7 rfl), evc] <;> rfl) rfl) (rnumber_any N b l (sI mxI l s) v1 hR2) rfl hz (by decide) ?_
  rintro e v2 ⟨rfl, hR3, hu2⟩
  refine ⟨_, rfl, (hSn1.trans hu2), fun A1_4 zz kk s8x => ?_⟩
  have B1_2 := B1_1.ub hu2 hqb
  have B2_2 := B2_1.ub hu2 hqb2
  have hv2 := hv1.trans hu2
  have hSn2 := hSn1.trans hu2
  replace s1 := kt kk s1
  replace s2 := kt kk s2
  replace s6 := kt kk s6
  clear kk hz s7
  have hz := zz
  have s8 := s8x
  clear zz s8x A1_3
  refine vh_take 4 true (.int .i64 (rI mxI l s : Int)) rfl (by kernel_rfl) (by kernel_rfl) (by kernel_rfl) (want_none rfl) (fun hc v hv => ex_assign rfl (ev s6 rfl)) rfl hz (by decide) hSn2 (fun A1_5 zz kk s3x => ?_)
  replace s1 := kt kk s1
  replace s2 := kt kk s2
  replace s8 := kt kk s8
  clear kk hz s6
  have hz := zz
  have s3 := s3x
  clear zz s3x A1_4
  refine vh_take 5 true (.int .i64 (rI mxI l (sI mxI l s) : Int)) rfl (by kernel_rfl) (by kernel_rfl) (by kernel_rfl) (want_none rfl) (fun hc v hv => ex_assign rfl (ev s8 rfl)) rfl hz (by decide) hSn2 (fun A1_6 zz kk s4x => ?_)
  replace s1 := kt kk s1
  replace s2 := kt kk s2
  replace s3 := kt kk s3
  clear kk hz s8
  have hz := zz
  have s4 := s4x
  clear zz s4x A1_5
  refine vh_done (by kernel_rfl) ?_
  go_upto_region 2 with fail
  refine wp_region_lit ?_
  refine vt _ (ex_move rfl (ev s3 rfl)) hz (fun A2_1 zz kk s9x => ?_)
  replace s1 := kt kk s1
  replace s2 := kt kk s2
  replace s3 := kt kk s3
  replace s4 := kt kk s4
  clear kk hz
  have hz := zz
  have s9 := s9x
  clear zz s9x
  refine vt _ (ex_move rfl (ev s4 rfl)) hz (fun A2_2 zz kk s10x => ?_)
  replace s1 := kt kk s1
  replace s2 := kt kk s2
  replace s3 := kt kk s3
  replace s4 := kt kk s4
  replace s9 := kt kk s9
  clear kk hz
  have hz := zz
  have s10 := s10x
  clear zz s10x A2_1
  refine vt (.pointer (some ⟨w.heap.size, 0, none⟩)) (ex_fa rfl (ev s1 rfl) (by go_simp)) hz (fun A2_3 zz kk s11x => ?_)
  replace s1 := kt kk s1
  replace s2 := kt kk s2
  replace s3 := kt kk s3
  replace s4 := kt kk s4
  replace s9 := kt kk s9
  replace s10 := kt kk s10
  clear kk hz
  have hz := zz
  have s11 := s11x
  clear zz s11x A2_2
  refine vt (.pointer (some ⟨b, 0, none⟩)) (ex_ld rfl (ev s11 rfl) (ldRp (B1_2.cell 0 _ rfl))) hz (fun A2_4 zz kk s12x => ?_)
  replace s1 := kt kk s1
  replace s2 := kt kk s2
  replace s3 := kt kk s3
  replace s4 := kt kk s4
  replace s9 := kt kk s9
  replace s10 := kt kk s10
  clear kk hz s11
  have hz := zz
  have s12 := s12x
  clear zz s12x A2_3
  refine vcallP (want_none rfl) (ex_call rfl (by simp only [List.map_toArray, List.map_cons, List.map_nil, (ev s12 rfl), evc] <;> rfl) rfl) (rd_T N b l (sI mxI l (sI mxI l s)) v2 hR3) rfl hz (by decide) ?_
  rintro e v3 ⟨rfl, hR4, hu3⟩
  refine ⟨_, rfl, fun A2_5 zz kk s13x => ?_⟩
  have B1_3 := B1_2.ub hu3 hqb
  have B2_3 := B2_2.ub hu3 hqb2
  have hv3 := hv2.trans hu3
  have hSn3 := hSn2.trans hu3
  replace s1 := kt kk s1
  replace s2 := kt kk s2
  replace s3 := kt kk s3
  replace s4 := kt kk s4
  replace s9 := kt kk s9
  replace s10 := kt kk s10
  clear kk hz s12
  have hz := zz
  have s13 := s13x
  clear zz s13x A2_4
  refine vt (.agg #[.int .i64 (rI mxI l s : Int), .int .i64 (rI mxI l (sI mxI l s) : Int), .string (rT l (sI mxI l (sI mxI l s)))]) (ex_buildP rfl (by simp only [List.map_toArray, List.map_cons, List.map_nil, (ev s9 rfl), (ev s10 rfl), (ev s13 rfl)] <;> rfl) (bdOp _ _ _ _)) hz (fun A2_6 zz kk s14x => ?_)
  replace s1 := kt kk s1
  replace s2 := kt kk s2
  replace s3 := kt kk s3
  replace s4 := kt kk s4
  clear kk hz s9 s10 s13
  have hz := zz
  have s14 := s14x
  clear zz s14x A2_5
  refine vs (sets v3 (w.heap.size + 1) 0 [.int .i64 (rI mxI l s : Int), .int .i64 (rI mxI l (sI mxI l s) : Int), .string (rT l (sI mxI l (sI mxI l s)))]) (want_none rfl) (ex_st rfl (ev s2 rfl) (ev s14 rfl) (B2_3.st 26 [.int .i64 (rI mxI l s : Int), .int .i64 (rI mxI l (sI mxI l s) : Int), .string (rT l (sI mxI l (sI mxI l s)))] rfl (by kernel_rfl) (by kernel_rfl))) rfl ?_
  have BR := B2_3.put [.int .i64 (rI mxI l s : Int), .int .i64 (rI mxI l (sI mxI l s) : Int), .string (rT l (sI mxI l (sI mxI l s)))] (Nat.le_refl _)
  refine wpList_nil ?_
  go_wp2
  exact BR.1.res rfl s2 Tryd.underlying26 rfl (by kernel_rfl) ⟨rfl, hR4.ub BR.2 (fun k hk => by omega), hv3.trans_new BR.2 (by have := hb01.size; omega)⟩
set_option maxRecDepth 100000 in
set_option maxHeartbeats 2000000 in
theorem rresult_any (N b : Nat) (l : List Int) (s : Nat × Int) (w : World) (h : RD N w b l s) : Calls Tryd.prog 75 #[.agg #[.pointer (some ⟨b, 0, none⟩)]] w fun e w' => e = .returned (.agg #[.int .i64 (rO l s).k, .int .i64 (rO l s).s, .string (rO l s).v]) ∧ RD N w' b l (sO l s) ∧ UB b w w' := by
  have hlt := h.lt
  have hqb : w.heap.size ≠ b := by omega
  have hqb2 : w.heap.size + 1 ≠ b := by omega
  go_enter Tryd.func75, Tryd.ntmps75
  go_upto_region 1 with fail
  obtain ⟨w1, hw1⟩ : ∃ w1, w1 = (w.alloc (.cells #[.pointer (some ⟨b, 0, none⟩)] 102)).alloc (.cells #[.int .i64 0, .int .i64 0, .string ⟨#[]⟩] 30) := ⟨_, rfl⟩
  rw [← hw1]
  have hb01 : Below w.heap.size w w1 := by rw [hw1]; exact ((Below.refl _ _).alloc (Nat.le_refl _) _).alloc (by simp) _
  have B1_0 : Bx w1 w.heap.size [.pointer (some ⟨b, 0, none⟩)] := by rw [hw1]; exact (Bx.new w [.pointer (some ⟨b, 0, none⟩)] _).later ((Below.refl _ _).alloc (Nat.le_refl _) _)
  have B2_0 : Bx w1 (w.heap.size + 1) [.int .i64 0, .int .i64 0, .string ⟨#[]⟩] := by rw [hw1]; have := Bx.new (w.alloc (.cells #[.pointer (some ⟨b, 0, none⟩)] 102)) [.int .i64 0, .int .i64 0, .string ⟨#[]⟩] 30; simpa using this
  have hR1 := h.later hb01
  have hv0 : UB b w w1 := UB.of_below hb01
  clear hw1
  refine vh_start (fun v => UB b w1 v) (by kernel_rfl) ?_
  have hS : UB b w1 w1.drew := UB.of_below (Below.refl _ _).drew
  have hR1d := hR1.later (Below.refl _ _).drew
  have B1_0d := B1_0.later (Below.refl _ _).drew
  have B2_0d := B2_0.later (Below.refl _ _).drew
  refine vh_gen (fun T => T.size = 15 ∧ T[1]? = some (gw true (.pointer (some ⟨w.heap.size, 0, none⟩))) ∧ T[2]? = some (gw true (.pointer (some ⟨w.heap.size + 1, 0, none⟩)))) ⟨rfl, rfl, rfl⟩ (fun T0 ⟨hz, s1, s2_⟩ => ?_)
  have s2 := s2_
  clear s2_
  refine vh_take 0 true (.agg #[.pointer (some ⟨b, 0, none⟩)]) rfl (by kernel_rfl) (by kernel_rfl) (by kernel_rfl) (want_none rfl) (fun hc v hv => ex_ld rfl (ev s1 rfl) (ldRd ((B1_0.ub hv hqb).cell 0 _ rfl))) rfl hz (by decide) hS (fun A1_1 zz kk s5x => ?_)
  replace s1 := kt kk s1
  replace s2 := kt kk s2
  clear kk hz
  have hz := zz
  have s5 := s5x
  clear zz s5x
  refine vh_take 2 true (.agg #[.pointer (some ⟨b, 0, none⟩)]) rfl (by kernel_rfl) (by kernel_rfl) (by kernel_rfl) (want_none rfl) (fun hc v hv => ex_ld rfl (ev s1 rfl) (ldRd ((B1_0.ub hv hqb).cell 0 _ rfl))) rfl hz (by decide) hS (fun A1_2 zz kk s7x => ?_)
  replace s1 := kt kk s1
  replace s2 := kt kk s2
  replace s5 := kt kk s5
  clear kk hz
  have hz := zz
  have s7 := s7x
  clear zz s7x A1_1
  refine vh_call 1 rfl (by kernel_rfl) (want_none rfl) (ex_call rfl (by simp only [List.map_toArray, List.map_cons, List.map_nil, (ev s5 rfl), evc] <;> rfl) rfl) (rnumber_any N b l s w1.drew hR1d) rfl hz (by decide) ?_
  rintro e v1 ⟨rfl, hR2, hu1⟩
  refine ⟨_, rfl, (hS.trans hu1), fun A1_3 zz kk s6x => ?_⟩
  have B1_1 := B1_0d.ub hu1 hqb
  have B2_1 := B2_0d.ub hu1 hqb2
  have hv1 := hv0.trans (UB.trans (UB.of_below (Below.refl _ _).drew) hu1)
  have hSn1 := hS.trans hu1
  replace s1 := kt kk s1
  replace s2 := kt kk s2
  replace s7 := kt kk s7
  clear kk hz s5
  have hz := zz
  have s6 := s6x
  clear zz s6x A1_2
  refine vh_call 3 rfl (by kernel_rfl) (want_none rfl) (ex_call rfl (by simp only [List.map_toArray, List.map_cons, List.map_nil, (ev s7 rfl), evc] <;> rfl) rfl) (rnumber_any N b l (sI mxI l s) v1 hR2) rfl hz (by decide) ?_
  rintro e v2 ⟨rfl, hR3, hu2⟩
  refine ⟨_, rfl, (hSn1.trans hu2), fun A1_4 zz kk s8x => ?_⟩
  have B1_2 := B1_1.ub hu2 hqb
  have B2_2 := B2_1.ub hu2 hqb2
  have hv2 := hv1.trans hu2
  have hSn2 := hSn1.trans hu2
  replace s1 := kt kk s1
  replace s2 := kt kk s2
  replace s6 := kt kk s6
  clear kk hz s7
  have hz := zz
  have s8 := s8x
  clear zz s8x A1_3
  refine vh_take 4 true (.int .i64 (rI mxI l s : Int)) rfl (by kernel_rfl) (by kernel_rfl) (by kernel_rfl) (want_none rfl) (fun hc v hv => ex_assign rfl (ev s6 rfl)) rfl hz (by decide) hSn2 (fun A1_5 zz kk s3x => ?_)
  replace s1 := kt kk s1
  replace s2 := kt kk s2
  replace s8 := kt kk s8
  clear kk hz s6
  have hz := zz
  have s3 := s3x
  clear zz s3x A1_4
  refine vh_take 5 true (.int .i64 (rI mxI l (sI mxI l s) : Int)) rfl (by kernel_rfl) (by kernel_rfl) (by kernel_rfl) (want_none rfl) (fun hc v hv => ex_assign rfl (ev s8 rfl)) rfl hz (by decide) hSn2 (fun A1_6 zz kk s4x => ?_)
  replace s1 := kt kk s1
  replace s2 := kt kk s2
  replace s3 := kt kk s3
  clear kk hz s8
  have hz := zz
  have s4 := s4x
  clear zz s4x A1_5
  refine vh_done (by kernel_rfl) ?_
  go_upto_region 2 with fail
  refine wp_region_lit ?_
  refine vt _ (ex_move rfl (ev s3 rfl)) hz (fun A2_1 zz kk s9x => ?_)
  replace s1 := kt kk s1
  replace s2 := kt kk s2
  replace s3 := kt kk s3
  replace s4 := kt kk s4
  clear kk hz
  have hz := zz
  have s9 := s9x
  clear zz s9x
  refine vt _ (ex_move rfl (ev s4 rfl)) hz (fun A2_2 zz kk s10x => ?_)
  replace s1 := kt kk s1
  replace s2 := kt kk s2
  replace s3 := kt kk s3
  replace s4 := kt kk s4
  replace s9 := kt kk s9
  clear kk hz
  have hz := zz
  have s10 := s10x
  clear zz s10x A2_1
  refine vt (.pointer (some ⟨w.heap.size, 0, none⟩)) (ex_fa rfl (ev s1 rfl) (by go_simp)) hz (fun A2_3 zz kk s11x => ?_)
  replace s1 := kt kk s1
  replace s2 := kt kk s2
  replace s3 := kt kk s3
  replace s4 := kt kk s4
  replace s9 := kt kk s9
  replace s10 := kt kk s10
  clear kk hz
  have hz := zz
  have s11 := s11x
  clear zz s11x A2_2
  refine vt (.pointer (some ⟨b, 0, none⟩)) (ex_ld rfl (ev s11 rfl) (ldRp (B1_2.cell 0 _ rfl))) hz (fun A2_4 zz kk s12x => ?_)
  replace s1 := kt kk s1
  replace s2 := kt kk s2
  replace s3 := kt kk s3
  replace s4 := kt kk s4
  replace s9 := kt kk s9
  replace s10 := kt kk s10
  clear kk hz s11
  have hz := zz
  have s12 := s12x
  clear zz s12x A2_3
  refine vcallP (want_none rfl) (ex_call rfl (by simp only [List.map_toArray, List.map_cons, List.map_nil, (ev s12 rfl), evc] <;> rfl) rfl) (rd_T N b l (sI mxI l (sI mxI l s)) v2 hR3) rfl hz (by decide) ?_
  rintro e v3 ⟨rfl, hR4, hu3⟩
  refine ⟨_, rfl, fun A2_5 zz kk s13x => ?_⟩
  have B1_3 := B1_2.ub hu3 hqb
  have B2_3 := B2_2.ub hu3 hqb2
  have hv3 := hv2.trans hu3
  have hSn3 := hSn2.trans hu3
  replace s1 := kt kk s1
  replace s2 := kt kk s2
  replace s3 := kt kk s3
  replace s4 := kt kk s4
  replace s9 := kt kk s9
  replace s10 := kt kk s10
  clear kk hz s12
  have hz := zz
  have s13 := s13x
  clear zz s13x A2_4
  refine vt (.agg #[.int .i64 (rI mxI l s : Int), .int .i64 (rI mxI l (sI mxI l s) : Int), .string (rT l (sI mxI l (sI mxI l s)))]) (ex_buildP rfl (by simp only [List.map_toArray, List.map_cons, List.map_nil, (ev s9 rfl), (ev s10 rfl), (ev s13 rfl)] <;> rfl) (bdRs _ _ _ _)) hz (fun A2_6 zz kk s14x => ?_)
  replace s1 := kt kk s1
  replace s2 := kt kk s2
  replace s3 := kt kk s3
  replace s4 := kt kk s4
  clear kk hz s9 s10 s13
  have hz := zz
  have s14 := s14x
  clear zz s14x A2_5
  refine vs (sets v3 (w.heap.size + 1) 0 [.int .i64 (rI mxI l s : Int), .int .i64 (rI mxI l (sI mxI l s) : Int), .string (rT l (sI mxI l (sI mxI l s)))]) (want_none rfl) (ex_st rfl (ev s2 rfl) (ev s14 rfl) (B2_3.st 30 [.int .i64 (rI mxI l s : Int), .int .i64 (rI mxI l (sI mxI l s) : Int), .string (rT l (sI mxI l (sI mxI l s)))] rfl (by kernel_rfl) (by kernel_rfl))) rfl ?_
  have BR := B2_3.put [.int .i64 (rI mxI l s : Int), .int .i64 (rI mxI l (sI mxI l s) : Int), .string (rT l (sI mxI l (sI mxI l s)))] (Nat.le_refl _)
  refine wpList_nil ?_
  go_wp2
  exact BR.1.res rfl s2 Tryd.underlying30 rfl (by kernel_rfl) ⟨rfl, hR4.ub BR.2 (fun k hk => by omega), hv3.trans_new BR.2 (by have := hb01.size; omega)⟩
def dsS (l : List Int) (s : Nat × Int) : Nat → Nat × Int
  | 0 => s
  | j + 1 => sD l (dsS l s j)
def esS (l : List Int) (s : Nat × Int) : Nat → Nat × Int
  | 0 => s
  | j + 1 => sE l (esS l s j)
def dsL (l : List Int) (s : Nat × Int) (n : Nat) : List (Int × Int) := (List.range n).map fun i => rD l (dsS l s i)
def esL (l : List Int) (s : Nat × Int) (n : Nat) : List En := (List.range n).map fun i => rE l (esS l s i)
def dsR (l : List Int) (s : Nat × Int) (n j : Nat) : List (Int × Int) := dsL l s j ++ List.replicate (n - j) (0, 0)
def esR (l : List Int) (s : Nat × Int) (n j : Nat) : List En := esL l s j ++ List.replicate (n - j) ⟨0, 0, ⟨0, 0, ByteArray.empty⟩⟩
theorem dsR_len {l : List Int} {s : Nat × Int} {n j : Nat} (h : j ≤ n) : (dsR l s n j).length = n := by simp [dsR, dsL]; omega
theorem esR_len {l : List Int} {s : Nat × Int} {n j : Nat} (h : j ≤ n) : (esR l s n j).length = n := by simp [esR, esL]; omega
theorem dsR_all (l : List Int) (s : Nat × Int) (n : Nat) : dsR l s n n = dsL l s n := by simp [dsR]
theorem esR_all (l : List Int) (s : Nat × Int) (n : Nat) : esR l s n n = esL l s n := by simp [esR]
theorem set_rep {α : Type} (A : List α) (z x : α) (m : Nat) (h : 0 < m) : (A ++ List.replicate m z).set A.length x = A ++ [x] ++ List.replicate (m - 1) z := by
  rw [List.set_append_right _ _ (Nat.le_refl _), Nat.sub_self]
  cases m with
  | zero => omega
  | succ k => simp [List.replicate_succ]
theorem dsR_next {l : List Int} {s : Nat × Int} {n j : Nat} (h : j < n) : dsR l s n (j + 1) = (dsR l s n j).set j (rD l (dsS l s j)) := by
  have e : (dsL l s j).length = j := by simp [dsL]
  have := set_rep (dsL l s j) (0, 0) (rD l (dsS l s j)) (n - j) (by omega)
  rw [e] at this
  unfold dsR
  rw [this]
  have e2 : dsL l s (j + 1) = dsL l s j ++ [rD l (dsS l s j)] := by simp [dsL, List.range_succ]
  rw [e2, show n - (j + 1) = n - j - 1 by omega]
theorem esR_next {l : List Int} {s : Nat × Int} {n j : Nat} (h : j < n) : esR l s n (j + 1) = (esR l s n j).set j (rE l (esS l s j)) := by
  have e : (esL l s j).length = j := by simp [esL]
  have := set_rep (esL l s j) ⟨0, 0, ⟨0, 0, ByteArray.empty⟩⟩ (rE l (esS l s j)) (n - j) (by omega)
  rw [e] at this
  unfold esR
  rw [this]
  have e2 : esL l s (j + 1) = esL l s j ++ [rE l (esS l s j)] := by simp [esL, List.range_succ]
  rw [e2, show n - (j + 1) = n - j - 1 by omega]
theorem rI_le (m : Nat) (hm : m ≤ 9223372036854775807) (l : List Int) (s : Nat × Int) : rI (m : Int) l s ≤ m := by
  unfold rI Wi.sel
  split
  · unfold Wi.tcVal
    split
    · rename_i h
      unfold Wi.tcErr at h
      repeat' split at h
      all_goals omega
    · omega
  · omega
theorem vput {ops : Array Oper} {rest : List Oper} {o : Oper} {T : Array Value} {df : List Deferred} {w : World} {Q : Exit → Act → World → Prop} {d n : Nat} {v : Value} (hd : o.dst = some d) (hz : T.size = n) (hn : d < n) (hk : ∀ T' : Array Value, T'.size = n → (∀ i, i ≠ d → T'[i]? = T[i]?) → T'[d]? = some (gw true v) → wpList Tryd.prog ops Q rest ⟨T', df⟩ w) : wpList Tryd.prog ops Q rest ((⟨T, df⟩ : Act).put o.dst v) w := by
  rw [hd]
  exact hk (T.setIfInBounds d v) (by simp [hz]) (fun i hi => at_set_ne _ hi) (at_set _ (by omega))
theorem ixVec0 (q n cv nd : Nat) (h : nd < n) (w : World) : (Instr.indexAt 36 (.slice (some ⟨q, 0, none⟩) n cv) (.int .i64 (nd : Int))).run Tryd.prog w = .ok (.pointer (some ⟨q, nd * 2, none⟩)) w := by
  have := ixVec q 0 n cv nd h w
  rw [Nat.zero_add] at this
  exact this
theorem ixEnt0 (q n cv nd : Nat) (h : nd < n) (w : World) : (Instr.indexAt 34 (.slice (some ⟨q, 0, none⟩) n cv) (.int .i64 (nd : Int))).run Tryd.prog w = .ok (.pointer (some ⟨q, nd * 5, none⟩)) w := by
  have := ixEnt q 0 n cv nd h w
  rw [Nat.zero_add] at this
  exact this
set_option maxRecDepth 100000 in
set_option maxHeartbeats 4000000 in
theorem rvector_any (N b : Nat) (l : List Int) (s : Nat × Int) (w : World) (h : RD N w b l s) : Calls Tryd.prog 77 #[.agg #[.pointer (some ⟨b, 0, none⟩)]] w fun e w' => ∃ v, e = .returned v ∧ OwnY yD w.heap.size w' v (dsL l (sI 7 l s) (rI 7 l s)) ∧ RD N w' b l (dsS l (sI 7 l s) (rI 7 l s)) ∧ UB b w w' := by
  have hlt := h.lt
  have hqb : w.heap.size ≠ b := by omega
  obtain ⟨n0, hn0⟩ : ∃ n0, n0 = rI 7 l s := ⟨_, rfl⟩
  obtain ⟨st1, hst1⟩ : ∃ st1, st1 = sI 7 l s := ⟨_, rfl⟩
  have hn7 : n0 ≤ 7 := by rw [hn0]; exact rI_le 7 (by decide) l s
  rw [← hst1, ← hn0]
  go_enter Tryd.func77, Tryd.ntmps77
  go_upto_region 1 with fail
  obtain ⟨w1, hw1⟩ : ∃ w1, w1 = w.alloc (.cells #[.pointer (some ⟨b, 0, none⟩)] 102) := ⟨_, rfl⟩
  rw [← hw1]
  have hb01 : Below w.heap.size w w1 := by rw [hw1]; exact (Below.refl _ _).alloc (Nat.le_refl _) _
  have B1 : Bx w1 w.heap.size [.pointer (some ⟨b, 0, none⟩)] := by rw [hw1]; exact Bx.new w [.pointer (some ⟨b, 0, none⟩)] _
  have hR1 := h.later hb01
  have hv1 : UB b w w1 := UB.of_below hb01
  have hsz1 := hb01.size
  have hB1lt := B1.lt
  clear hw1
  refine wp_region_lit ?_
  refine vl_gen (fun T => T.size = 21 ∧ T[1]? = some (gw true (.pointer (some ⟨w.heap.size, 0, none⟩)))) ⟨rfl, rfl⟩ (fun T0 ⟨hz, s1⟩ => ?_)
  refine vt (.pointer (some ⟨w.heap.size, 0, none⟩)) (ex_fa rfl (ev s1 rfl) (by go_simp)) hz (fun A1_1 zz kk s5x => ?_)
  replace s1 := kt kk s1
  clear kk hz
  have hz := zz
  have s5 := s5x
  clear zz s5x
  refine vt (.pointer (some ⟨b, 0, none⟩)) (ex_ld rfl (ev s5 rfl) (ldRp (B1.cell 0 _ rfl))) hz (fun A1_2 zz kk s6x => ?_)
  replace s1 := kt kk s1
  clear kk hz s5
  have hz := zz
  have s6 := s6x
  clear zz s6x A1_1
  refine vcallP (want_none rfl) (ex_call rfl (by simp only [List.map_toArray, List.map_cons, List.map_nil, (ev s6 rfl), evc] <;> rfl) rfl) (rd_C N b 7 (by decide) l s w1 hR1) rfl hz (by decide) ?_
  rw [← hn0, ← hst1]; rintro e w2 ⟨rfl, hR2, hu2⟩
  refine ⟨_, rfl, fun A1_3 zz kk s7x => ?_⟩
  have B2 := B1.ub hu2 hqb
  replace s1 := kt kk s1
  clear kk hz s6
  have hz := zz
  have s7 := s7x
  clear zz s7x A1_2
  refine makeY kD _ rfl (.tmp 7) rfl n0 (ev s7 rfl) (by unfold maxLen; omega) (by show n0 * _ ≤ _; simp only [yD]; omega) ?_
  intro w3 O3 hb3
  refine vput rfl hz (by decide) (fun A1_4 zz kk s8x => ?_)
  replace s1 := kt kk s1
  clear kk hz s7
  have hz := zz
  have s8 := s8x
  clear zz s8x A1_3
  refine vt _ (ex_assign rfl (ev s8 rfl)) hz (fun A1_5 zz kk s3x => ?_)
  replace s1 := kt kk s1
  clear kk hz s8
  have hz := zz
  have s3 := s3x
  clear zz s3x A1_4
  refine wpList_nil ?_
  have hsz2 := hu2.size
  have O3b := O3.low (show w.heap.size ≤ w2.heap.size by omega)
  have hv3 : UB b w w3 := (hv1.trans hu2).trans (UB.of_below hb3)
  have hR3 := hR2.later hb3
  have B3 := B2.later hb3
  go_upto_region 2 with fail
  refine wp_region_lit ?_
  refine vt _ (ex_move rfl (ev s3 rfl)) hz (fun A2_1 zz kk s9x => ?_)
  replace s1 := kt kk s1
  replace s3 := kt kk s3
  clear kk hz
  have hz := zz
  have s9 := s9x
  clear zz s9x
  refine vt (.int .i64 ((n0 : Nat) : Int)) (ex_lenV rfl rfl (ev s9 rfl)) hz (fun A2_2 zz kk s10x => ?_)
  replace s1 := kt kk s1
  replace s3 := kt kk s3
  clear kk hz s9
  have hz := zz
  have s10 := s10x
  clear zz s10x A2_1
  refine vt (.int .i64 0) (ex_move rfl rfl) hz (fun A2_3 zz kk s11x => ?_)
  replace s1 := kt kk s1
  replace s3 := kt kk s3
  replace s10 := kt kk s10
  clear kk hz
  have hz := zz
  have s11 := s11x
  clear zz s11x A2_2
  refine wpList_nil ?_
  go_upto_region 3 with fail
  refine v_loop 11 n0 (fun j T wr => T.size = 21 ∧ T[1]? = some (gw true (.pointer (some ⟨w.heap.size, 0, none⟩))) ∧ T[3]? = some (gw true (.slice (some ⟨w2.heap.size, 0, none⟩) n0 n0)) ∧ T[10]? = some (gw true (.int .i64 ((n0 : Nat) : Int))) ∧ T[11]? = some (gw true (.int .i64 (j : Int))) ∧ Hid (RD N wr b l (dsS l st1 j) ∧ OwnY yD w.heap.size wr (.slice (some ⟨w2.heap.size, 0, none⟩) n0 n0) (dsR l st1 n0 j) ∧ UB b w wr ∧ Bx wr w.heap.size [.pointer (some ⟨b, 0, none⟩)])) (fun j T w h => h.2.2.2.2.1) ⟨hz, s1, s3, s10, s11, hR3, O3b, hv3, B3⟩ ?_
  clear hz s1 s3 s10 s11
  intro j R0 wr hj hh
  obtain ⟨hz, s1, s3, s10, s11, HI⟩ := hh
  have hwr := HI.out.2.2.1.size
  go_upto_region 3 with fail
  refine wp_region_lit ?_
  refine vt (.bool (decide ((j : Int) < (n0 : Int)))) (ex_bin rfl (ev s11 rfl) (ev s10 rfl) (lssC _ _ _ _ _)) hz (fun A3_1 zz kk s12x => ?_)
  replace s1 := kt kk s1
  replace s3 := kt kk s3
  replace s10 := kt kk s10
  replace s11 := kt kk s11
  clear kk hz
  have hz := zz
  have s12 := s12x
  clear zz s12x
  refine wpList_nil ?_
  go_upto_region 4 with fail
  cases e3 : decide ((j : Int) < (n0 : Int))
  · refine wp_cond_false ((ev s12 rfl).trans (congrArg Value.bool e3)) ?_
    have hjl : j = n0 := by have := of_decide_eq_false e3; omega
    have hI := HI.out
    rw [hjl, dsR_all] at hI
    clear e3 s12
    go_upto_region 7 with fail
    refine wp_region_lit ?_
    refine vt _ (ex_move rfl (ev s3 rfl)) hz (fun A7_1 zz kk s20x => ?_)
    clear kk hz s3
    have hz := zz
    have s20 := s20x
    clear zz s20x
    refine vt _ (ex_assign rfl (ev s20 rfl)) hz (fun A7_2 zz kk s2x => ?_)
    clear kk hz s20
    have hz := zz
    have s2 := s2x
    clear zz s2x A7_1
    refine wpList_nil ?_
    go_wp2
    exact bodyPost_ret1 rfl s2 ⟨_, rfl, hI.2.1, hI.1, hI.2.2.1⟩
  refine wp_cond_true ((ev s12 rfl).trans (congrArg Value.bool e3)) ?_
  have hlt2 : j < n0 := by have := of_decide_eq_true e3; omega
  clear e3 s12
  go_upto_region 4 with fail
  refine wp_region_lit ?_
  refine vt _ (ex_move rfl (ev s11 rfl)) hz (fun A4_1 zz kk s13x => ?_)
  replace s1 := kt kk s1
  replace s3 := kt kk s3
  replace s10 := kt kk s10
  replace s11 := kt kk s11
  clear kk hz
  have hz := zz
  have s13 := s13x
  clear zz s13x
  refine vt _ (ex_assign rfl (ev s13 rfl)) hz (fun A4_2 zz kk s4x => ?_)
  replace s1 := kt kk s1
  replace s3 := kt kk s3
  replace s10 := kt kk s10
  replace s11 := kt kk s11
  clear kk hz s13
  have hz := zz
  have s4 := s4x
  clear zz s4x A4_1
  refine wpList_nil ?_
  go_upto_region 5 with fail
  refine wp_region_lit ?_
  refine vt _ (ex_move rfl (ev s3 rfl)) hz (fun A5_1 zz kk s14x => ?_)
  replace s1 := kt kk s1
  replace s3 := kt kk s3
  replace s4 := kt kk s4
  replace s10 := kt kk s10
  replace s11 := kt kk s11
  clear kk hz
  have hz := zz
  have s14 := s14x
  clear zz s14x
  refine vt _ (ex_move rfl (ev s4 rfl)) hz (fun A5_2 zz kk s15x => ?_)
  replace s1 := kt kk s1
  replace s3 := kt kk s3
  replace s4 := kt kk s4
  replace s10 := kt kk s10
  replace s11 := kt kk s11
  replace s14 := kt kk s14
  clear kk hz
  have hz := zz
  have s15 := s15x
  clear zz s15x A5_1
  refine vt (.agg #[.pointer (some ⟨b, 0, none⟩)]) (ex_ld rfl (ev s1 rfl) (ldRd (HI.out.2.2.2.cell 0 _ rfl))) hz (fun A5_3 zz kk s16x => ?_)
  replace s1 := kt kk s1
  replace s3 := kt kk s3
  replace s4 := kt kk s4
  replace s10 := kt kk s10
  replace s11 := kt kk s11
  replace s14 := kt kk s14
  replace s15 := kt kk s15
  clear kk hz
  have hz := zz
  have s16 := s16x
  clear zz s16x A5_2
  refine vcallP (want_none rfl) (ex_call rfl (by simp only [List.map_toArray, List.map_cons, List.map_nil, (ev s16 rfl), evc] <;> rfl) rfl) (rdraw_any N b l (dsS l st1 j) wr HI.out.1) rfl hz (by decide) ?_
  rintro e w5 ⟨rfl, hR5, hu5⟩
  refine ⟨_, rfl, fun A5_4 zz kk s17x => ?_⟩
  have B5 := HI.out.2.2.2.ub hu5 hqb
  have O5 := HI.out.2.1.upd1 hu5 (fun g hg => by simp [Value.ownBlock] at hg; omega)
  have hv5 := HI.out.2.2.1.trans hu5
  have hs5 := hu5.size
  replace s1 := kt kk s1
  replace s3 := kt kk s3
  replace s4 := kt kk s4
  replace s10 := kt kk s10
  replace s11 := kt kk s11
  replace s14 := kt kk s14
  replace s15 := kt kk s15
  clear kk hz s16
  have hz := zz
  have s17 := s17x
  clear zz s17x A5_3
  refine vt (.pointer (some ⟨w2.heap.size, j * 2, none⟩)) (ex_ix rfl (ev s14 rfl) (ev s15 rfl) (ixVec0 _ _ _ _ hlt2 _)) hz (fun A5_5 zz kk s18x => ?_)
  replace s1 := kt kk s1
  replace s3 := kt kk s3
  replace s4 := kt kk s4
  replace s10 := kt kk s10
  replace s11 := kt kk s11
  replace s17 := kt kk s17
  clear kk hz s14 s15
  have hz := zz
  have s18 := s18x
  clear zz s18x A5_4
  obtain ⟨d0, hd0⟩ : ∃ d0, (dsR l st1 n0 j)[j]? = some d0 := ⟨_, List.getElem?_eq_getElem (by rw [dsR_len hj]; exact hlt2)⟩
  refine storeY kD _ rfl _ (.tmp 18) (.tmp 17) rfl w.heap.size w2.heap.size n0 n0 _ j 0 d0 (rD l (dsS l st1 j)) _ (ev s18 rfl) (ev s17 rfl) hd0 (by kernel_rfl) (by exact (by decide : 2 ≤ 2)) rfl O5 ?_
  intro w6 O6 u6 z6
  change wpList _ _ _ _ ⟨_, []⟩ w6
  have hR6 := hR5.ub u6 (fun k hk => by omega)
  have B6 := B5.ub u6 (by omega)
  have hv6 := hv5.trans_new u6 (by omega)
  refine wpList_nil ?_
  go_upto_region 6 with fail
  refine wp_region_lit ?_
  refine vt (.int .i64 ((j + 1 : Nat) : Int)) (ex_bin rfl (ev s11 rfl) rfl (addJ j (by omega) _ _ _)) hz (fun A6_1 zz kk s19x => ?_)
  replace s1 := kt kk s1
  replace s3 := kt kk s3
  replace s10 := kt kk s10
  replace s11 := kt kk s11
  clear kk hz s4 s17 s18
  have hz := zz
  have s19 := s19x
  clear zz s19x
  refine vt _ (ex_move rfl (ev s19 rfl)) hz (fun A6_2 zz kk s11x => ?_)
  replace s1 := kt kk s1
  replace s3 := kt kk s3
  replace s10 := kt kk s10
  clear kk hz s19 s11
  have hz := zz
  have s11 := s11x
  clear zz s11x A6_1
  refine wpList_nil ?_
  exact ⟨_, rfl, by omega, hz, s1, s3, s10, s11, hR6, by rw [dsR_next hlt2]; exact O6, hv6, B6⟩
set_option maxRecDepth 100000 in
set_option maxHeartbeats 4000000 in
theorem rlog_any (N b : Nat) (l : List Int) (s : Nat × Int) (w : World) (h : RD N w b l s) : Calls Tryd.prog 76 #[.agg #[.pointer (some ⟨b, 0, none⟩)]] w fun e w' => ∃ v, e = .returned v ∧ OwnY yE w.heap.size w' v (esL l (sI 256 l s) (rI 256 l s)) ∧ RD N w' b l (esS l (sI 256 l s) (rI 256 l s)) ∧ UB b w w' := by
  have hlt := h.lt
  have hqb : w.heap.size ≠ b := by omega
  obtain ⟨n0, hn0⟩ : ∃ n0, n0 = rI 256 l s := ⟨_, rfl⟩
  obtain ⟨st1, hst1⟩ : ∃ st1, st1 = sI 256 l s := ⟨_, rfl⟩
  have hn7 : n0 ≤ 256 := by rw [hn0]; exact rI_le 256 (by decide) l s
  rw [← hst1, ← hn0]
  go_enter Tryd.func76, Tryd.ntmps76
  go_upto_region 1 with fail
  obtain ⟨w1, hw1⟩ : ∃ w1, w1 = w.alloc (.cells #[.pointer (some ⟨b, 0, none⟩)] 102) := ⟨_, rfl⟩
  rw [← hw1]
  have hb01 : Below w.heap.size w w1 := by rw [hw1]; exact (Below.refl _ _).alloc (Nat.le_refl _) _
  have B1 : Bx w1 w.heap.size [.pointer (some ⟨b, 0, none⟩)] := by rw [hw1]; exact Bx.new w [.pointer (some ⟨b, 0, none⟩)] _
  have hR1 := h.later hb01
  have hv1 : UB b w w1 := UB.of_below hb01
  have hsz1 := hb01.size
  have hB1lt := B1.lt
  clear hw1
  refine wp_region_lit ?_
  refine vl_gen (fun T => T.size = 27 ∧ T[1]? = some (gw true (.pointer (some ⟨w.heap.size, 0, none⟩)))) ⟨rfl, rfl⟩ (fun T0 ⟨hz, s1⟩ => ?_)
  refine vt (.pointer (some ⟨w.heap.size, 0, none⟩)) (ex_fa rfl (ev s1 rfl) (by go_simp)) hz (fun A1_1 zz kk s5x => ?_)
  replace s1 := kt kk s1
  clear kk hz
  have hz := zz
  have s5 := s5x
  clear zz s5x
  refine vt (.pointer (some ⟨b, 0, none⟩)) (ex_ld rfl (ev s5 rfl) (ldRp (B1.cell 0 _ rfl))) hz (fun A1_2 zz kk s6x => ?_)
  replace s1 := kt kk s1
  clear kk hz s5
  have hz := zz
  have s6 := s6x
  clear zz s6x A1_1
  refine vcallP (want_none rfl) (ex_call rfl (by simp only [List.map_toArray, List.map_cons, List.map_nil, (ev s6 rfl), evc] <;> rfl) rfl) (rd_C N b 256 (by decide) l s w1 hR1) rfl hz (by decide) ?_
  rw [← hn0, ← hst1]; rintro e w2 ⟨rfl, hR2, hu2⟩
  refine ⟨_, rfl, fun A1_3 zz kk s7x => ?_⟩
  have B2 := B1.ub hu2 hqb
  replace s1 := kt kk s1
  clear kk hz s6
  have hz := zz
  have s7 := s7x
  clear zz s7x A1_2
  refine makeY kE _ rfl (.tmp 7) rfl n0 (ev s7 rfl) (by unfold maxLen; omega) (by show n0 * _ ≤ _; simp only [yE]; omega) ?_
  intro w3 O3 hb3
  refine vput rfl hz (by decide) (fun A1_4 zz kk s8x => ?_)
  replace s1 := kt kk s1
  clear kk hz s7
  have hz := zz
  have s8 := s8x
  clear zz s8x A1_3
  refine vt _ (ex_assign rfl (ev s8 rfl)) hz (fun A1_5 zz kk s3x => ?_)
  replace s1 := kt kk s1
  clear kk hz s8
  have hz := zz
  have s3 := s3x
  clear zz s3x A1_4
  refine wpList_nil ?_
  have hsz2 := hu2.size
  have O3b := O3.low (show w.heap.size ≤ w2.heap.size by omega)
  have hv3 : UB b w w3 := (hv1.trans hu2).trans (UB.of_below hb3)
  have hR3 := hR2.later hb3
  have B3 := B2.later hb3
  go_upto_region 2 with fail
  refine wp_region_lit ?_
  refine vt _ (ex_move rfl (ev s3 rfl)) hz (fun A2_1 zz kk s9x => ?_)
  replace s1 := kt kk s1
  replace s3 := kt kk s3
  clear kk hz
  have hz := zz
  have s9 := s9x
  clear zz s9x
  refine vt (.int .i64 ((n0 : Nat) : Int)) (ex_lenE rfl rfl (ev s9 rfl)) hz (fun A2_2 zz kk s10x => ?_)
  replace s1 := kt kk s1
  replace s3 := kt kk s3
  clear kk hz s9
  have hz := zz
  have s10 := s10x
  clear zz s10x A2_1
  refine vt (.int .i64 0) (ex_move rfl rfl) hz (fun A2_3 zz kk s11x => ?_)
  replace s1 := kt kk s1
  replace s3 := kt kk s3
  replace s10 := kt kk s10
  clear kk hz
  have hz := zz
  have s11 := s11x
  clear zz s11x A2_2
  refine wpList_nil ?_
  go_upto_region 3 with fail
  refine v_loop 11 n0 (fun j T wr => T.size = 27 ∧ T[1]? = some (gw true (.pointer (some ⟨w.heap.size, 0, none⟩))) ∧ T[3]? = some (gw true (.slice (some ⟨w2.heap.size, 0, none⟩) n0 n0)) ∧ T[10]? = some (gw true (.int .i64 ((n0 : Nat) : Int))) ∧ T[11]? = some (gw true (.int .i64 (j : Int))) ∧ Hid (RD N wr b l (esS l st1 j) ∧ OwnY yE w.heap.size wr (.slice (some ⟨w2.heap.size, 0, none⟩) n0 n0) (esR l st1 n0 j) ∧ UB b w wr ∧ Bx wr w.heap.size [.pointer (some ⟨b, 0, none⟩)])) (fun j T w h => h.2.2.2.2.1) ⟨hz, s1, s3, s10, s11, hR3, O3b, hv3, B3⟩ ?_
  clear hz s1 s3 s10 s11
  intro j R0 wr hj hh
  obtain ⟨hz, s1, s3, s10, s11, HI⟩ := hh
  have hwr := HI.out.2.2.1.size
  go_upto_region 3 with fail
  refine wp_region_lit ?_
  refine vt (.bool (decide ((j : Int) < (n0 : Int)))) (ex_bin rfl (ev s11 rfl) (ev s10 rfl) (lssC _ _ _ _ _)) hz (fun A3_1 zz kk s12x => ?_)
  replace s1 := kt kk s1
  replace s3 := kt kk s3
  replace s10 := kt kk s10
  replace s11 := kt kk s11
  clear kk hz
  have hz := zz
  have s12 := s12x
  clear zz s12x
  refine wpList_nil ?_
  go_upto_region 4 with fail
  cases e3 : decide ((j : Int) < (n0 : Int))
  · refine wp_cond_false ((ev s12 rfl).trans (congrArg Value.bool e3)) ?_
    have hjl : j = n0 := by have := of_decide_eq_false e3; omega
    have hI := HI.out
    rw [hjl, esR_all] at hI
    clear e3 s12
    go_upto_region 8 with fail
    refine wp_region_lit ?_
    refine vt _ (ex_move rfl (ev s3 rfl)) hz (fun A8_1 zz kk s26x => ?_)
    clear kk hz s3
    have hz := zz
    have s26 := s26x
    clear zz s26x
    refine vt _ (ex_assign rfl (ev s26 rfl)) hz (fun A8_2 zz kk s2x => ?_)
    clear kk hz s26
    have hz := zz
    have s2 := s2x
    clear zz s2x A8_1
    refine wpList_nil ?_
    go_wp2
    exact bodyPost_ret1 rfl s2 ⟨_, rfl, hI.2.1, hI.1, hI.2.2.1⟩
  refine wp_cond_true ((ev s12 rfl).trans (congrArg Value.bool e3)) ?_
  have hlt2 : j < n0 := by have := of_decide_eq_true e3; omega
  clear e3 s12
  go_upto_region 4 with fail
  refine wp_region_lit ?_
  refine vt _ (ex_move rfl (ev s11 rfl)) hz (fun A4_1 zz kk s13x => ?_)
  replace s1 := kt kk s1
  replace s3 := kt kk s3
  replace s10 := kt kk s10
  replace s11 := kt kk s11
  clear kk hz
  have hz := zz
  have s13 := s13x
  clear zz s13x
  refine vt _ (ex_assign rfl (ev s13 rfl)) hz (fun A4_2 zz kk s4x => ?_)
  replace s1 := kt kk s1
  replace s3 := kt kk s3
  replace s10 := kt kk s10
  replace s11 := kt kk s11
  clear kk hz s13
  have hz := zz
  have s4 := s4x
  clear zz s4x A4_1
  refine wpList_nil ?_
  go_upto_region 5 with fail
  refine wp_region_lit ?_
  refine vt _ (ex_move rfl (ev s3 rfl)) hz (fun A5_1 zz kk s14x => ?_)
  replace s1 := kt kk s1
  replace s3 := kt kk s3
  replace s4 := kt kk s4
  replace s10 := kt kk s10
  replace s11 := kt kk s11
  clear kk hz
  have hz := zz
  have s14 := s14x
  clear zz s14x
  refine vt _ (ex_move rfl (ev s4 rfl)) hz (fun A5_2 zz kk s15x => ?_)
  replace s1 := kt kk s1
  replace s3 := kt kk s3
  replace s4 := kt kk s4
  replace s10 := kt kk s10
  replace s11 := kt kk s11
  replace s14 := kt kk s14
  clear kk hz
  have hz := zz
  have s15 := s15x
  clear zz s15x A5_1
  refine vt (.agg #[.pointer (some ⟨b, 0, none⟩)]) (ex_ld rfl (ev s1 rfl) (ldRd (HI.out.2.2.2.cell 0 _ rfl))) hz (fun A5_3 zz kk s16x => ?_)
  replace s1 := kt kk s1
  replace s3 := kt kk s3
  replace s4 := kt kk s4
  replace s10 := kt kk s10
  replace s11 := kt kk s11
  replace s14 := kt kk s14
  replace s15 := kt kk s15
  clear kk hz
  have hz := zz
  have s16 := s16x
  clear zz s16x A5_2
  refine vcallP (want_none rfl) (ex_call rfl (by simp only [List.map_toArray, List.map_cons, List.map_nil, (ev s16 rfl), evc] <;> rfl) rfl) (rname_any N b l (esS l st1 j) wr HI.out.1) rfl hz (by decide) ?_
  rintro e w5 ⟨rfl, hR5, hu5⟩
  refine ⟨_, rfl, fun A5_4 zz kk s17x => ?_⟩
  have B5 := HI.out.2.2.2.ub hu5 hqb
  have O5 := HI.out.2.1.upd1 hu5 (fun g hg => by simp [Value.ownBlock] at hg; omega)
  have hv5 := HI.out.2.2.1.trans hu5
  have hs5 := hu5.size
  replace s1 := kt kk s1
  replace s3 := kt kk s3
  replace s4 := kt kk s4
  replace s10 := kt kk s10
  replace s11 := kt kk s11
  replace s14 := kt kk s14
  replace s15 := kt kk s15
  clear kk hz s16
  have hz := zz
  have s17 := s17x
  clear zz s17x A5_3
  refine vt (.pointer (some ⟨w2.heap.size, j * 5, none⟩)) (ex_ix rfl (ev s14 rfl) (ev s15 rfl) (ixEnt0 _ _ _ _ hlt2 _)) hz (fun A5_5 zz kk s18x => ?_)
  replace s1 := kt kk s1
  replace s3 := kt kk s3
  replace s4 := kt kk s4
  replace s10 := kt kk s10
  replace s11 := kt kk s11
  replace s17 := kt kk s17
  clear kk hz s14 s15
  have hz := zz
  have s18 := s18x
  clear zz s18x A5_4
  obtain ⟨d0, hd0⟩ : ∃ d0, (esR l st1 n0 j)[j]? = some d0 := ⟨_, List.getElem?_eq_getElem (by rw [esR_len hj]; exact hlt2)⟩
  refine storeY kE _ rfl _ (.tmp 18) (.tmp 17) rfl w.heap.size w2.heap.size n0 n0 _ j 0 d0 (⟨(rI mxI l (esS l st1 j) : Int), (rI mxI l (sI mxI l (esS l st1 j)) : Int), ⟨0, 0, ⟨#[]⟩⟩⟩ : En) _ (ev s18 rfl) (ev s17 rfl) hd0 (by kernel_rfl) (by exact (by decide : 5 ≤ 5)) rfl O5 ?_
  intro w6 O6 u6 z6
  change wpList _ _ _ _ ⟨_, []⟩ w6
  have hR6 := hR5.ub u6 (fun k hk => by omega)
  have B6 := B5.ub u6 (by omega)
  have hv6 := hv5.trans_new u6 (by omega)
  refine wpList_nil ?_
  go_upto_region 6 with fail
  refine wp_region_lit ?_
  refine vt _ (ex_move rfl (ev s3 rfl)) hz (fun A6_1 zz kk s19x => ?_)
  replace s1 := kt kk s1
  replace s3 := kt kk s3
  replace s4 := kt kk s4
  replace s10 := kt kk s10
  replace s11 := kt kk s11
  clear kk hz s17 s18
  have hz := zz
  have s19 := s19x
  clear zz s19x
  refine vt _ (ex_move rfl (ev s4 rfl)) hz (fun A6_2 zz kk s20x => ?_)
  replace s1 := kt kk s1
  replace s3 := kt kk s3
  replace s10 := kt kk s10
  replace s11 := kt kk s11
  replace s19 := kt kk s19
  clear kk hz s4
  have hz := zz
  have s20 := s20x
  clear zz s20x A6_1
  refine vt (.agg #[.pointer (some ⟨b, 0, none⟩)]) (ex_ld rfl (ev s1 rfl) (ldRd (B6.cell 0 _ rfl))) hz (fun A6_3 zz kk s21x => ?_)
  replace s1 := kt kk s1
  replace s3 := kt kk s3
  replace s10 := kt kk s10
  replace s11 := kt kk s11
  replace s19 := kt kk s19
  replace s20 := kt kk s20
  clear kk hz
  have hz := zz
  have s21 := s21x
  clear zz s21x A6_2
  refine vcallP (want_none rfl) (ex_call rfl (by simp only [List.map_toArray, List.map_cons, List.map_nil, (ev s21 rfl), evc] <;> rfl) rfl) (rop_any N b l (s2 l (esS l st1 j)) w6 hR6) rfl hz (by decide) ?_
  rintro e w7 ⟨rfl, hR7, hu7⟩
  refine ⟨_, rfl, fun A6_4 zz kk s22x => ?_⟩
  have B7 := B6.ub hu7 hqb
  have O7 := O6.upd1 hu7 (fun g hg => by simp [Value.ownBlock] at hg; omega)
  have hv7 := hv6.trans hu7
  have hs7 := hu7.size
  replace s1 := kt kk s1
  replace s3 := kt kk s3
  replace s10 := kt kk s10
  replace s11 := kt kk s11
  replace s19 := kt kk s19
  replace s20 := kt kk s20
  clear kk hz s21
  have hz := zz
  have s22 := s22x
  clear zz s22x A6_3
  refine vt (.pointer (some ⟨w2.heap.size, j * 5, none⟩)) (ex_ix rfl (ev s19 rfl) (ev s20 rfl) (ixEnt0 _ _ _ _ hlt2 _)) hz (fun A6_5 zz kk s23x => ?_)
  replace s1 := kt kk s1
  replace s3 := kt kk s3
  replace s10 := kt kk s10
  replace s11 := kt kk s11
  replace s22 := kt kk s22
  clear kk hz s19 s20
  have hz := zz
  have s23 := s23x
  clear zz s23x A6_4
  refine vt (.pointer (some ⟨w2.heap.size, j * 5 + 2, none⟩)) (ex_fa rfl (ev s23 rfl) (by go_simp)) hz (fun A6_6 zz kk s24x => ?_)
  replace s1 := kt kk s1
  replace s3 := kt kk s3
  replace s10 := kt kk s10
  replace s11 := kt kk s11
  replace s22 := kt kk s22
  clear kk hz s23
  have hz := zz
  have s24 := s24x
  clear zz s24x A6_5
  refine storeY kE _ rfl _ (.tmp 24) (.tmp 22) rfl w.heap.size w2.heap.size n0 n0 ((esR l st1 n0 j).set j (⟨(rI mxI l (esS l st1 j) : Int), (rI mxI l (sI mxI l (esS l st1 j)) : Int), ⟨0, 0, ⟨#[]⟩⟩⟩ : En)) j 2 (⟨(rI mxI l (esS l st1 j) : Int), (rI mxI l (sI mxI l (esS l st1 j)) : Int), ⟨0, 0, ⟨#[]⟩⟩⟩ : En) (rE l (esS l st1 j)) _ (ev s24 rfl) (ev s22 rfl) (List.getElem?_set_self (by rw [esR_len hj]; exact hlt2)) (by kernel_rfl) (by exact (by decide : 5 ≤ 5)) rfl O7 ?_
  intro w8 O8 u8 z8
  rw [List.set_set] at O8
  change wpList _ _ _ _ ⟨_, []⟩ w8
  have hR8 := hR7.ub u8 (fun k hk => by omega)
  have B8 := B7.ub u8 (by omega)
  have hv8 := hv7.trans_new u8 (by omega)
  refine wpList_nil ?_
  go_upto_region 7 with fail
  refine wp_region_lit ?_
  refine vt (.int .i64 ((j + 1 : Nat) : Int)) (ex_bin rfl (ev s11 rfl) rfl (addJ j (by omega) _ _ _)) hz (fun A7_1 zz kk s25x => ?_)
  replace s1 := kt kk s1
  replace s3 := kt kk s3
  replace s10 := kt kk s10
  replace s11 := kt kk s11
  clear kk hz s22 s24
  have hz := zz
  have s25 := s25x
  clear zz s25x
  refine vt _ (ex_move rfl (ev s25 rfl)) hz (fun A7_2 zz kk s11x => ?_)
  replace s1 := kt kk s1
  replace s3 := kt kk s3
  replace s10 := kt kk s10
  clear kk hz s25 s11
  have hz := zz
  have s11 := s11x
  clear zz s11x A7_1
  refine wpList_nil ?_
  exact ⟨_, rfl, by omega, hz, s1, s3, s10, s11, hR8, by rw [esR_next hlt2]; exact O8, hv8, B8⟩
theorem MBox.splice {w : World} {q : Nat} {m : Mg} {s t : Value} (h : MBox w q m s t) (o : Nat) (vs : List Value) (m' : Mg) (s' t' : Value) (ho : o + vs.length ≤ 18) (hc : m'.cs s' t' = (m.cs s t).take o ++ vs ++ (m.cs s t).drop (o + vs.length)) : MBox (sets w q o vs) q m' s' t' ∧ UB q w (sets w q o vs) := by
  have h18 : (m.cs s t).length = 18 := rfl
  refine ⟨⟨by rw [size_sets]; exact h.lt, sets_kind _ _ _ h.kind, fun i x hx => ?_, fun i => sets_free _ _ _ (h.free i)⟩, upd_sets (S := fun b => b = q) (b := q) rfl _ _ _ (Upd.refl _ _)⟩
  rw [hc] at hx
  by_cases h1 : i < o
  · rw [List.append_assoc, List.getElem?_append_left (by rw [List.length_take, h18]; omega), List.getElem?_take, if_pos h1] at hx
    rw [← setCells_sets, World.cell?_setCells_out _ _ _ _ _ (fun _ _ => .inl h1)]
    exact h.cell i x hx
  · by_cases h2 : i < o + vs.length
    · rw [List.append_assoc, List.getElem?_append_right (by rw [List.length_take, h18]; omega), List.length_take, h18, Nat.min_eq_left (by omega), List.getElem?_append_left (by omega)] at hx
      have := sets_at (b := q) vs o w (fun k hk => ⟨_, h.cell (o + k) _ (List.getElem?_eq_getElem (show o + k < (m.cs s t).length by rw [h18]; omega))⟩) (i - o) x hx
      rw [show o + (i - o) = i by omega] at this
      exact this
    · rw [List.getElem?_append_right (by rw [List.length_append, List.length_take, h18]; omega), List.length_append, List.length_take, h18, Nat.min_eq_left (by omega), List.getElem?_drop, show o + vs.length + (i - (o + vs.length)) = i by omega] at hx
      rw [← setCells_sets, World.cell?_setCells_out _ _ _ _ _ (fun _ _ => .inr (by show o + vs.length ≤ i; omega))]
      exact h.cell i x hx
theorem MBox.stAt {w : World} {q : Nat} {m : Mg} {s t : Value} (h : MBox w q m s t) (ty : TypeId) (o : Nat) (vs : List Value) (ho : o + vs.length ≤ 18) (hi : (Tryd.prog.info? ty).map (·.size) = some vs.toArray.size) (h1 : vs.toArray.all (·.oneCell') = true) : (Instr.storeAt ty (.pointer (some ⟨q, o, none⟩)) (.agg vs.toArray)).run Tryd.prog w = .ok () (sets w q o vs) := by
  have := run_storeAt_mid (P := Tryd.prog) w q o ty vs.toArray (fun j hj => ⟨by rw [h.cell (o + j) _ (List.getElem?_eq_getElem (show o + j < (m.cs s t).length by have hj2 : j < vs.length := (by simpa using hj); show o + j < 18; omega))]; rfl, h.free (o + j)⟩) hi h1
  rw [setCells_sets] at this
  exact this
theorem stInt {w : World} {q o : Nat} {y : Value} (x : Int) (h : w.cell? ⟨q, o, none⟩ = some y) (hf : w.frozen? ⟨q, o, none⟩ = false) : (Instr.storeAt 3 (.pointer (some ⟨q, o, none⟩)) (.int .i64 x)).run Tryd.prog w = .ok () (sets w q o [.int .i64 x]) := by
  show _ = Result.ok () (w.setCell ⟨q, o, none⟩ (.int .i64 x))
  go_simp
theorem stSlE {w : World} {q o : Nat} {y : Value} (a : Option Addr) (n c : Nat) (h : w.cell? ⟨q, o, none⟩ = some y) (hf : w.frozen? ⟨q, o, none⟩ = false) : (Instr.storeAt 34 (.pointer (some ⟨q, o, none⟩)) (.slice a n c)).run Tryd.prog w = .ok () (sets w q o [.slice a n c]) := by
  show _ = Result.ok () (w.setCell ⟨q, o, none⟩ (.slice a n c))
  go_simp
theorem stSlD {w : World} {q o : Nat} {y : Value} (a : Option Addr) (n c : Nat) (h : w.cell? ⟨q, o, none⟩ = some y) (hf : w.frozen? ⟨q, o, none⟩ = false) : (Instr.storeAt 36 (.pointer (some ⟨q, o, none⟩)) (.slice a n c)).run Tryd.prog w = .ok () (sets w q o [.slice a n c]) := by
  show _ = Result.ok () (w.setCell ⟨q, o, none⟩ (.slice a n c))
  go_simp
def MS (w : World) (q : Nat) (m : Mg) (L : List En) (D : List (Int × Int)) : Prop := ∃ s t, MBox w q m s t ∧ OwnY yE (q + 1) w s L ∧ OwnY yD (q + 1) w t D
theorem OwnY.far {α : Type} {Y : Lay α} {B : Nat} {w w' : World} {v : Value} {l : List α} {S : Nat → Prop} (h : OwnY Y B w v l) (u : Upd S w w') (hS : ∀ k, B ≤ k → ¬ S k) : OwnY Y B w' v l :=
  h.upd1 u (fun g hg => hS g (World.ownsRow.lt h g hg).1)
theorem MS.ub {w w' : World} {q b : Nat} {m : Mg} {L : List En} {D : List (Int × Int)} (h : MS w q m L D) (u : UB b w w') (hb : b < q) : MS w' q m L D := by
  obtain ⟨s, t, h1, h2, h3⟩ := h
  exact ⟨s, t, h1.upd u (by omega), h2.far u (fun k hk => by omega), h3.far u (fun k hk => by omega)⟩
structure Rst where
  m : Mg
  L : List En
  D : List (Int × Int)
  s : Nat × Int
def rCol (l : List Int) (x : Rst) (j : Nat) (op : Bool) : Rst :=
  match j with
  | 0 => ⟨{ x.m with nd := (rI mxI l x.s : Int) }, x.L, x.D, sI mxI l x.s⟩
  | 1 => ⟨{ x.m with vw := (rI mxI l x.s : Int) }, x.L, x.D, sI mxI l x.s⟩
  | 2 => ⟨{ x.m with ls := (rI mxI l x.s : Int) }, x.L, x.D, sI mxI l x.s⟩
  | 3 => ⟨{ x.m with p := (rI mxI l x.s : Int) }, x.L, x.D, sI mxI l x.s⟩
  | 4 => ⟨{ x.m with cm := (rI mxI l x.s : Int) }, x.L, x.D, sI mxI l x.s⟩
  | 5 => ⟨{ x.m with d := rD l x.s }, x.L, x.D, sD l x.s⟩
  | 6 => if op then ⟨{ x.m with e := rE l x.s }, x.L, x.D, sE l x.s⟩ else ⟨{ x.m with e := ⟨(rI mxI l x.s : Int), (rI mxI l (sI mxI l x.s) : Int), ⟨0, 0, ⟨#[]⟩⟩⟩ }, x.L, x.D, s2 l x.s⟩
  | 7 => ⟨{ x.m with r := ((rO l x.s).k, (rO l x.s).s, (rO l x.s).v) }, x.L, x.D, sO l x.s⟩
  | 8 => ⟨x.m, esL l (sI 256 l x.s) (rI 256 l x.s), x.D, esS l (sI 256 l x.s) (rI 256 l x.s)⟩
  | 9 => ⟨x.m, x.L, dsL l (sI 7 l x.s) (rI 7 l x.s), dsS l (sI 7 l x.s) (rI 7 l x.s)⟩
  | _ => x
def U2 (b q : Nat) (w w' : World) : Prop := Upd (fun k => k = b ∨ k = q) w w'
theorem U2.refl (b q : Nat) (w : World) : U2 b q w w := Upd.refl _ _
theorem U2.trans {b q : Nat} {u v w : World} (h : U2 b q u v) (k : U2 b q v w) : U2 b q u w := Upd.trans h k
theorem U2.b {b q : Nat} {w w' : World} (h : UB b w w') : U2 b q w w' := Upd.mono h (fun k _ hk => .inl hk)
theorem U2.q {b q : Nat} {w w' : World} (h : UB q w w') : U2 b q w w' := Upd.mono h (fun k _ hk => .inr hk)
set_option maxRecDepth 100000 in
set_option maxHeartbeats 4000000 in
theorem rfield_0 (N b qm : Nat) (l : List Int) (x : Rst) (q : Int) (w : World) (hN : N ≤ qm) (hM : MS w qm x.m x.L x.D) (h : RD N w b l x.s) : Calls Tryd.prog 54 #[.agg #[.pointer (some ⟨b, 0, none⟩)], .pointer (some ⟨qm, 0, none⟩), .int .i64 0, .int .u8 q] w fun e w' => e = .returned (.tuple #[]) ∧ MS w' qm (rCol l x 0 (!decide (q = 15))).m (rCol l x 0 (!decide (q = 15))).L (rCol l x 0 (!decide (q = 15))).D ∧ RD N w' b l (rCol l x 0 (!decide (q = 15))).s ∧ U2 b qm w w' := by
  have hlt := h.lt
  obtain ⟨s_, t_, M0, OL0, OD0⟩ := hM
  have hqm := M0.lt
  have hqb : w.heap.size ≠ b := by omega
  go_enter Tryd.func54, Tryd.ntmps54
  go_upto_region 3 with fail
  obtain ⟨w1, hw1⟩ : ∃ w1, w1 = w.alloc (.cells #[.pointer (some ⟨b, 0, none⟩)] 102) := ⟨_, rfl⟩
  rw [← hw1]
  have hb01 : Below w.heap.size w w1 := by rw [hw1]; exact (Below.refl _ _).alloc (Nat.le_refl _) _
  have B1 : Bx w1 w.heap.size [.pointer (some ⟨b, 0, none⟩)] := by rw [hw1]; exact Bx.new w [.pointer (some ⟨b, 0, none⟩)] _
  have hR1 := h.later hb01
  have M1 := M0.bel hb01
  have OL1 := OL0.far (Upd.of_below (S := fun _ => False) hb01) (fun _ _ => id)
  have OD1 := OD0.far (Upd.of_below (S := fun _ => False) hb01) (fun _ _ => id)
  have hB1lt := B1.lt
  clear hw1
  refine wp_region_lit ?_
  refine vl_gen (fun T => T.size = 87 ∧ T[1]? = some (gw true (.pointer (some ⟨qm, 0, none⟩))) ∧ T[3]? = some (gw true (.int .u8 q)) ∧ T[4]? = some (gw true (.pointer (some ⟨w.heap.size, 0, none⟩)))) ⟨rfl, rfl, rfl, rfl⟩ (fun T0 ⟨hz, s1, s3, s4⟩ => ?_)
  refine vt _ (ex_move rfl (ev s1 rfl)) hz (fun A_1 zz kk s11x => ?_)
  replace s1 := kt kk s1
  replace s3 := kt kk s3
  replace s4 := kt kk s4
  clear kk hz
  have hz := zz
  have s11 := s11x
  clear zz s11x
  refine vt (.agg #[.pointer (some ⟨b, 0, none⟩)]) (ex_ld rfl (ev s4 rfl) (ldRd (B1.cell 0 _ rfl))) hz (fun A_2 zz kk s12x => ?_)
  replace s1 := kt kk s1
  replace s3 := kt kk s3
  replace s4 := kt kk s4
  replace s11 := kt kk s11
  clear kk hz
  have hz := zz
  have s12 := s12x
  clear zz s12x A_1
  refine vcallP (want_none rfl) (ex_call rfl (by simp only [List.map_toArray, List.map_cons, List.map_nil, (ev s12 rfl), evc] <;> rfl) rfl) (rnumber_any N b l x.s w1 hR1) rfl hz (by decide) ?_
  rintro e w2 ⟨rfl, hR2, hu2⟩
  refine ⟨_, rfl, fun A_3 zz kk s13x => ?_⟩
  have B2 := B1.ub hu2 hqb
  have M2 := M1.upd hu2 (by omega)
  have OL2 := OL1.far hu2 (fun k hk => by omega)
  have OD2 := OD1.far hu2 (fun k hk => by omega)
  replace s1 := kt kk s1
  replace s3 := kt kk s3
  replace s4 := kt kk s4
  replace s11 := kt kk s11
  clear kk hz s12
  have hz := zz
  have s13 := s13x
  clear zz s13x A_2
  refine vt (.pointer (some ⟨qm, 0, none⟩)) (ex_nil rfl (ev s11 rfl)) hz (fun A_4 zz kk s14x => ?_)
  replace s1 := kt kk s1
  replace s3 := kt kk s3
  replace s4 := kt kk s4
  replace s13 := kt kk s13
  clear kk hz s11
  have hz := zz
  have s14 := s14x
  clear zz s14x A_3
  refine vt (.pointer (some ⟨qm, 1, none⟩)) (ex_fa rfl (ev s14 rfl) (MBox.faNode _ _)) hz (fun A_5 zz kk s15x => ?_)
  replace s1 := kt kk s1
  replace s3 := kt kk s3
  replace s4 := kt kk s4
  replace s13 := kt kk s13
  clear kk hz s14
  have hz := zz
  have s15 := s15x
  clear zz s15x A_4
  refine vs (sets w2 qm 1 [.int .i64 (rI mxI l x.s : Int)]) (want_none rfl) (ex_st rfl (ev s15 rfl) (ev s13 rfl) (stInt _ (M2.cell 1 _ rfl) (M2.free 1))) rfl ?_
  have SP3 := M2.splice 1 [.int .i64 (rI mxI l x.s : Int)] { x.m with nd := (rI mxI l x.s : Int) } s_ t_ (by show _ + _ ≤ 18; simp) rfl
  obtain ⟨w3, hw3⟩ : ∃ y, y = sets w2 qm 1 [.int .i64 (rI mxI l x.s : Int)] := ⟨_, rfl⟩
  rw [← hw3] at SP3 ⊢
  clear hw3
  have M3 := SP3.1
  have hR3 := hR2.ub SP3.2 (fun k hk => by omega)
  have B3 := B2.ub SP3.2 (by omega)
  have OL3 := OL2.far SP3.2 (fun k hk => by omega)
  have OD3 := OD2.far SP3.2 (fun k hk => by omega)
  refine wpList_nil ?_
  go_wp2
  go_end0
  exact ⟨rfl, ⟨_, _, M3, OL3, OD3⟩, hR3, (U2.b (UB.of_below hb01)).trans ((U2.b hu2).trans (U2.q SP3.2))⟩
set_option maxRecDepth 100000 in
set_option maxHeartbeats 4000000 in
theorem rfield_1 (N b qm : Nat) (l : List Int) (x : Rst) (q : Int) (w : World) (hN : N ≤ qm) (hM : MS w qm x.m x.L x.D) (h : RD N w b l x.s) : Calls Tryd.prog 54 #[.agg #[.pointer (some ⟨b, 0, none⟩)], .pointer (some ⟨qm, 0, none⟩), .int .i64 1, .int .u8 q] w fun e w' => e = .returned (.tuple #[]) ∧ MS w' qm (rCol l x 1 (!decide (q = 15))).m (rCol l x 1 (!decide (q = 15))).L (rCol l x 1 (!decide (q = 15))).D ∧ RD N w' b l (rCol l x 1 (!decide (q = 15))).s ∧ U2 b qm w w' := by
  have hlt := h.lt
  obtain ⟨s_, t_, M0, OL0, OD0⟩ := hM
  have hqm := M0.lt
  have hqb : w.heap.size ≠ b := by omega
  go_enter Tryd.func54, Tryd.ntmps54
  go_upto_region 5 with fail
  obtain ⟨w1, hw1⟩ : ∃ w1, w1 = w.alloc (.cells #[.pointer (some ⟨b, 0, none⟩)] 102) := ⟨_, rfl⟩
  rw [← hw1]
  have hb01 : Below w.heap.size w w1 := by rw [hw1]; exact (Below.refl _ _).alloc (Nat.le_refl _) _
  have B1 : Bx w1 w.heap.size [.pointer (some ⟨b, 0, none⟩)] := by rw [hw1]; exact Bx.new w [.pointer (some ⟨b, 0, none⟩)] _
  have hR1 := h.later hb01
  have M1 := M0.bel hb01
  have OL1 := OL0.far (Upd.of_below (S := fun _ => False) hb01) (fun _ _ => id)
  have OD1 := OD0.far (Upd.of_below (S := fun _ => False) hb01) (fun _ _ => id)
  have hB1lt := B1.lt
  clear hw1
  refine wp_region_lit ?_
  refine vl_gen (fun T => T.size = 87 ∧ T[1]? = some (gw true (.pointer (some ⟨qm, 0, none⟩))) ∧ T[3]? = some (gw true (.int .u8 q)) ∧ T[4]? = some (gw true (.pointer (some ⟨w.heap.size, 0, none⟩)))) ⟨rfl, rfl, rfl, rfl⟩ (fun T0 ⟨hz, s1, s3, s4⟩ => ?_)
  refine vt _ (ex_move rfl (ev s1 rfl)) hz (fun A_1 zz kk s18x => ?_)
  replace s1 := kt kk s1
  replace s3 := kt kk s3
  replace s4 := kt kk s4
  clear kk hz
  have hz := zz
  have s18 := s18x
  clear zz s18x
  refine vt (.agg #[.pointer (some ⟨b, 0, none⟩)]) (ex_ld rfl (ev s4 rfl) (ldRd (B1.cell 0 _ rfl))) hz (fun A_2 zz kk s19x => ?_)
  replace s1 := kt kk s1
  replace s3 := kt kk s3
  replace s4 := kt kk s4
  replace s18 := kt kk s18
  clear kk hz
  have hz := zz
  have s19 := s19x
  clear zz s19x A_1
  refine vcallP (want_none rfl) (ex_call rfl (by simp only [List.map_toArray, List.map_cons, List.map_nil, (ev s19 rfl), evc] <;> rfl) rfl) (rnumber_any N b l x.s w1 hR1) rfl hz (by decide) ?_
  rintro e w2 ⟨rfl, hR2, hu2⟩
  refine ⟨_, rfl, fun A_3 zz kk s20x => ?_⟩
  have B2 := B1.ub hu2 hqb
  have M2 := M1.upd hu2 (by omega)
  have OL2 := OL1.far hu2 (fun k hk => by omega)
  have OD2 := OD1.far hu2 (fun k hk => by omega)
  replace s1 := kt kk s1
  replace s3 := kt kk s3
  replace s4 := kt kk s4
  replace s18 := kt kk s18
  clear kk hz s19
  have hz := zz
  have s20 := s20x
  clear zz s20x A_2
  refine vt (.pointer (some ⟨qm, 0, none⟩)) (ex_nil rfl (ev s18 rfl)) hz (fun A_4 zz kk s21x => ?_)
  replace s1 := kt kk s1
  replace s3 := kt kk s3
  replace s4 := kt kk s4
  replace s20 := kt kk s20
  clear kk hz s18
  have hz := zz
  have s21 := s21x
  clear zz s21x A_3
  refine vt (.pointer (some ⟨qm, 2, none⟩)) (ex_fa rfl (ev s21 rfl) (MBox.faView _ _)) hz (fun A_5 zz kk s22x => ?_)
  replace s1 := kt kk s1
  replace s3 := kt kk s3
  replace s4 := kt kk s4
  replace s20 := kt kk s20
  clear kk hz s21
  have hz := zz
  have s22 := s22x
  clear zz s22x A_4
  refine vs (sets w2 qm 2 [.int .i64 (rI mxI l x.s : Int)]) (want_none rfl) (ex_st rfl (ev s22 rfl) (ev s20 rfl) (stInt _ (M2.cell 2 _ rfl) (M2.free 2))) rfl ?_
  have SP3 := M2.splice 2 [.int .i64 (rI mxI l x.s : Int)] { x.m with vw := (rI mxI l x.s : Int) } s_ t_ (by show _ + _ ≤ 18; simp) rfl
  obtain ⟨w3, hw3⟩ : ∃ y, y = sets w2 qm 2 [.int .i64 (rI mxI l x.s : Int)] := ⟨_, rfl⟩
  rw [← hw3] at SP3 ⊢
  clear hw3
  have M3 := SP3.1
  have hR3 := hR2.ub SP3.2 (fun k hk => by omega)
  have B3 := B2.ub SP3.2 (by omega)
  have OL3 := OL2.far SP3.2 (fun k hk => by omega)
  have OD3 := OD2.far SP3.2 (fun k hk => by omega)
  refine wpList_nil ?_
  go_wp2
  go_end0
  exact ⟨rfl, ⟨_, _, M3, OL3, OD3⟩, hR3, (U2.b (UB.of_below hb01)).trans ((U2.b hu2).trans (U2.q SP3.2))⟩
set_option maxRecDepth 100000 in
set_option maxHeartbeats 4000000 in
theorem rfield_2 (N b qm : Nat) (l : List Int) (x : Rst) (q : Int) (w : World) (hN : N ≤ qm) (hM : MS w qm x.m x.L x.D) (h : RD N w b l x.s) : Calls Tryd.prog 54 #[.agg #[.pointer (some ⟨b, 0, none⟩)], .pointer (some ⟨qm, 0, none⟩), .int .i64 2, .int .u8 q] w fun e w' => e = .returned (.tuple #[]) ∧ MS w' qm (rCol l x 2 (!decide (q = 15))).m (rCol l x 2 (!decide (q = 15))).L (rCol l x 2 (!decide (q = 15))).D ∧ RD N w' b l (rCol l x 2 (!decide (q = 15))).s ∧ U2 b qm w w' := by
  have hlt := h.lt
  obtain ⟨s_, t_, M0, OL0, OD0⟩ := hM
  have hqm := M0.lt
  have hqb : w.heap.size ≠ b := by omega
  go_enter Tryd.func54, Tryd.ntmps54
  go_upto_region 7 with fail
  obtain ⟨w1, hw1⟩ : ∃ w1, w1 = w.alloc (.cells #[.pointer (some ⟨b, 0, none⟩)] 102) := ⟨_, rfl⟩
  rw [← hw1]
  have hb01 : Below w.heap.size w w1 := by rw [hw1]; exact (Below.refl _ _).alloc (Nat.le_refl _) _
  have B1 : Bx w1 w.heap.size [.pointer (some ⟨b, 0, none⟩)] := by rw [hw1]; exact Bx.new w [.pointer (some ⟨b, 0, none⟩)] _
  have hR1 := h.later hb01
  have M1 := M0.bel hb01
  have OL1 := OL0.far (Upd.of_below (S := fun _ => False) hb01) (fun _ _ => id)
  have OD1 := OD0.far (Upd.of_below (S := fun _ => False) hb01) (fun _ _ => id)
  have hB1lt := B1.lt
  clear hw1
  refine wp_region_lit ?_
  refine vl_gen (fun T => T.size = 87 ∧ T[1]? = some (gw true (.pointer (some ⟨qm, 0, none⟩))) ∧ T[3]? = some (gw true (.int .u8 q)) ∧ T[4]? = some (gw true (.pointer (some ⟨w.heap.size, 0, none⟩)))) ⟨rfl, rfl, rfl, rfl⟩ (fun T0 ⟨hz, s1, s3, s4⟩ => ?_)
  refine vt _ (ex_move rfl (ev s1 rfl)) hz (fun A_1 zz kk s25x => ?_)
  replace s1 := kt kk s1
  replace s3 := kt kk s3
  replace s4 := kt kk s4
  clear kk hz
  have hz := zz
  have s25 := s25x
  clear zz s25x
  refine vt (.agg #[.pointer (some ⟨b, 0, none⟩)]) (ex_ld rfl (ev s4 rfl) (ldRd (B1.cell 0 _ rfl))) hz (fun A_2 zz kk s26x => ?_)
  replace s1 := kt kk s1
  replace s3 := kt kk s3
  replace s4 := kt kk s4
  replace s25 := kt kk s25
  clear kk hz
  have hz := zz
  have s26 := s26x
  clear zz s26x A_1
  refine vcallP (want_none rfl) (ex_call rfl (by simp only [List.map_toArray, List.map_cons, List.map_nil, (ev s26 rfl), evc] <;> rfl) rfl) (rnumber_any N b l x.s w1 hR1) rfl hz (by decide) ?_
  rintro e w2 ⟨rfl, hR2, hu2⟩
  refine ⟨_, rfl, fun A_3 zz kk s27x => ?_⟩
  have B2 := B1.ub hu2 hqb
  have M2 := M1.upd hu2 (by omega)
  have OL2 := OL1.far hu2 (fun k hk => by omega)
  have OD2 := OD1.far hu2 (fun k hk => by omega)
  replace s1 := kt kk s1
  replace s3 := kt kk s3
  replace s4 := kt kk s4
  replace s25 := kt kk s25
  clear kk hz s26
  have hz := zz
  have s27 := s27x
  clear zz s27x A_2
  refine vt (.pointer (some ⟨qm, 0, none⟩)) (ex_nil rfl (ev s25 rfl)) hz (fun A_4 zz kk s28x => ?_)
  replace s1 := kt kk s1
  replace s3 := kt kk s3
  replace s4 := kt kk s4
  replace s27 := kt kk s27
  clear kk hz s25
  have hz := zz
  have s28 := s28x
  clear zz s28x A_3
  refine vt (.pointer (some ⟨qm, 13, none⟩)) (ex_fa rfl (ev s28 rfl) (MBox.faLast _ _)) hz (fun A_5 zz kk s29x => ?_)
  replace s1 := kt kk s1
  replace s3 := kt kk s3
  replace s4 := kt kk s4
  replace s27 := kt kk s27
  clear kk hz s28
  have hz := zz
  have s29 := s29x
  clear zz s29x A_4
  refine vs (sets w2 qm 13 [.int .i64 (rI mxI l x.s : Int)]) (want_none rfl) (ex_st rfl (ev s29 rfl) (ev s27 rfl) (stInt _ (M2.cell 13 _ rfl) (M2.free 13))) rfl ?_
  have SP3 := M2.splice 13 [.int .i64 (rI mxI l x.s : Int)] { x.m with ls := (rI mxI l x.s : Int) } s_ t_ (by show _ + _ ≤ 18; simp) rfl
  obtain ⟨w3, hw3⟩ : ∃ y, y = sets w2 qm 13 [.int .i64 (rI mxI l x.s : Int)] := ⟨_, rfl⟩
  rw [← hw3] at SP3 ⊢
  clear hw3
  have M3 := SP3.1
  have hR3 := hR2.ub SP3.2 (fun k hk => by omega)
  have B3 := B2.ub SP3.2 (by omega)
  have OL3 := OL2.far SP3.2 (fun k hk => by omega)
  have OD3 := OD2.far SP3.2 (fun k hk => by omega)
  refine wpList_nil ?_
  go_wp2
  go_end0
  exact ⟨rfl, ⟨_, _, M3, OL3, OD3⟩, hR3, (U2.b (UB.of_below hb01)).trans ((U2.b hu2).trans (U2.q SP3.2))⟩
set_option maxRecDepth 100000 in
set_option maxHeartbeats 4000000 in
theorem rfield_3 (N b qm : Nat) (l : List Int) (x : Rst) (q : Int) (w : World) (hN : N ≤ qm) (hM : MS w qm x.m x.L x.D) (h : RD N w b l x.s) : Calls Tryd.prog 54 #[.agg #[.pointer (some ⟨b, 0, none⟩)], .pointer (some ⟨qm, 0, none⟩), .int .i64 3, .int .u8 q] w fun e w' => e = .returned (.tuple #[]) ∧ MS w' qm (rCol l x 3 (!decide (q = 15))).m (rCol l x 3 (!decide (q = 15))).L (rCol l x 3 (!decide (q = 15))).D ∧ RD N w' b l (rCol l x 3 (!decide (q = 15))).s ∧ U2 b qm w w' := by
  have hlt := h.lt
  obtain ⟨s_, t_, M0, OL0, OD0⟩ := hM
  have hqm := M0.lt
  have hqb : w.heap.size ≠ b := by omega
  go_enter Tryd.func54, Tryd.ntmps54
  go_upto_region 9 with fail
  obtain ⟨w1, hw1⟩ : ∃ w1, w1 = w.alloc (.cells #[.pointer (some ⟨b, 0, none⟩)] 102) := ⟨_, rfl⟩
  rw [← hw1]
  have hb01 : Below w.heap.size w w1 := by rw [hw1]; exact (Below.refl _ _).alloc (Nat.le_refl _) _
  have B1 : Bx w1 w.heap.size [.pointer (some ⟨b, 0, none⟩)] := by rw [hw1]; exact Bx.new w [.pointer (some ⟨b, 0, none⟩)] _
  have hR1 := h.later hb01
  have M1 := M0.bel hb01
  have OL1 := OL0.far (Upd.of_below (S := fun _ => False) hb01) (fun _ _ => id)
  have OD1 := OD0.far (Upd.of_below (S := fun _ => False) hb01) (fun _ _ => id)
  have hB1lt := B1.lt
  clear hw1
  refine wp_region_lit ?_
  refine vl_gen (fun T => T.size = 87 ∧ T[1]? = some (gw true (.pointer (some ⟨qm, 0, none⟩))) ∧ T[3]? = some (gw true (.int .u8 q)) ∧ T[4]? = some (gw true (.pointer (some ⟨w.heap.size, 0, none⟩)))) ⟨rfl, rfl, rfl, rfl⟩ (fun T0 ⟨hz, s1, s3, s4⟩ => ?_)
  refine vt _ (ex_move rfl (ev s1 rfl)) hz (fun A_1 zz kk s32x => ?_)
  replace s1 := kt kk s1
  replace s3 := kt kk s3
  replace s4 := kt kk s4
  clear kk hz
  have hz := zz
  have s32 := s32x
  clear zz s32x
  refine vt (.agg #[.pointer (some ⟨b, 0, none⟩)]) (ex_ld rfl (ev s4 rfl) (ldRd (B1.cell 0 _ rfl))) hz (fun A_2 zz kk s33x => ?_)
  replace s1 := kt kk s1
  replace s3 := kt kk s3
  replace s4 := kt kk s4
  replace s32 := kt kk s32
  clear kk hz
  have hz := zz
  have s33 := s33x
  clear zz s33x A_1
  refine vcallP (want_none rfl) (ex_call rfl (by simp only [List.map_toArray, List.map_cons, List.map_nil, (ev s33 rfl), evc] <;> rfl) rfl) (rnumber_any N b l x.s w1 hR1) rfl hz (by decide) ?_
  rintro e w2 ⟨rfl, hR2, hu2⟩
  refine ⟨_, rfl, fun A_3 zz kk s34x => ?_⟩
  have B2 := B1.ub hu2 hqb
  have M2 := M1.upd hu2 (by omega)
  have OL2 := OL1.far hu2 (fun k hk => by omega)
  have OD2 := OD1.far hu2 (fun k hk => by omega)
  replace s1 := kt kk s1
  replace s3 := kt kk s3
  replace s4 := kt kk s4
  replace s32 := kt kk s32
  clear kk hz s33
  have hz := zz
  have s34 := s34x
  clear zz s34x A_2
  refine vt (.pointer (some ⟨qm, 0, none⟩)) (ex_nil rfl (ev s32 rfl)) hz (fun A_4 zz kk s35x => ?_)
  replace s1 := kt kk s1
  replace s3 := kt kk s3
  replace s4 := kt kk s4
  replace s34 := kt kk s34
  clear kk hz s32
  have hz := zz
  have s35 := s35x
  clear zz s35x A_3
  refine vt (.pointer (some ⟨qm, 11, none⟩)) (ex_fa rfl (ev s35 rfl) (MBox.faPlace _ _)) hz (fun A_5 zz kk s36x => ?_)
  replace s1 := kt kk s1
  replace s3 := kt kk s3
  replace s4 := kt kk s4
  replace s34 := kt kk s34
  clear kk hz s35
  have hz := zz
  have s36 := s36x
  clear zz s36x A_4
  refine vs (sets w2 qm 11 [.int .i64 (rI mxI l x.s : Int)]) (want_none rfl) (ex_st rfl (ev s36 rfl) (ev s34 rfl) (stInt _ (M2.cell 11 _ rfl) (M2.free 11))) rfl ?_
  have SP3 := M2.splice 11 [.int .i64 (rI mxI l x.s : Int)] { x.m with p := (rI mxI l x.s : Int) } s_ t_ (by show _ + _ ≤ 18; simp) rfl
  obtain ⟨w3, hw3⟩ : ∃ y, y = sets w2 qm 11 [.int .i64 (rI mxI l x.s : Int)] := ⟨_, rfl⟩
  rw [← hw3] at SP3 ⊢
  clear hw3
  have M3 := SP3.1
  have hR3 := hR2.ub SP3.2 (fun k hk => by omega)
  have B3 := B2.ub SP3.2 (by omega)
  have OL3 := OL2.far SP3.2 (fun k hk => by omega)
  have OD3 := OD2.far SP3.2 (fun k hk => by omega)
  refine wpList_nil ?_
  go_wp2
  go_end0
  exact ⟨rfl, ⟨_, _, M3, OL3, OD3⟩, hR3, (U2.b (UB.of_below hb01)).trans ((U2.b hu2).trans (U2.q SP3.2))⟩
set_option maxRecDepth 100000 in
set_option maxHeartbeats 4000000 in
theorem rfield_4 (N b qm : Nat) (l : List Int) (x : Rst) (q : Int) (w : World) (hN : N ≤ qm) (hM : MS w qm x.m x.L x.D) (h : RD N w b l x.s) : Calls Tryd.prog 54 #[.agg #[.pointer (some ⟨b, 0, none⟩)], .pointer (some ⟨qm, 0, none⟩), .int .i64 4, .int .u8 q] w fun e w' => e = .returned (.tuple #[]) ∧ MS w' qm (rCol l x 4 (!decide (q = 15))).m (rCol l x 4 (!decide (q = 15))).L (rCol l x 4 (!decide (q = 15))).D ∧ RD N w' b l (rCol l x 4 (!decide (q = 15))).s ∧ U2 b qm w w' := by
  have hlt := h.lt
  obtain ⟨s_, t_, M0, OL0, OD0⟩ := hM
  have hqm := M0.lt
  have hqb : w.heap.size ≠ b := by omega
  go_enter Tryd.func54, Tryd.ntmps54
  go_upto_region 11 with fail
  obtain ⟨w1, hw1⟩ : ∃ w1, w1 = w.alloc (.cells #[.pointer (some ⟨b, 0, none⟩)] 102) := ⟨_, rfl⟩
  rw [← hw1]
  have hb01 : Below w.heap.size w w1 := by rw [hw1]; exact (Below.refl _ _).alloc (Nat.le_refl _) _
  have B1 : Bx w1 w.heap.size [.pointer (some ⟨b, 0, none⟩)] := by rw [hw1]; exact Bx.new w [.pointer (some ⟨b, 0, none⟩)] _
  have hR1 := h.later hb01
  have M1 := M0.bel hb01
  have OL1 := OL0.far (Upd.of_below (S := fun _ => False) hb01) (fun _ _ => id)
  have OD1 := OD0.far (Upd.of_below (S := fun _ => False) hb01) (fun _ _ => id)
  have hB1lt := B1.lt
  clear hw1
  refine wp_region_lit ?_
  refine vl_gen (fun T => T.size = 87 ∧ T[1]? = some (gw true (.pointer (some ⟨qm, 0, none⟩))) ∧ T[3]? = some (gw true (.int .u8 q)) ∧ T[4]? = some (gw true (.pointer (some ⟨w.heap.size, 0, none⟩)))) ⟨rfl, rfl, rfl, rfl⟩ (fun T0 ⟨hz, s1, s3, s4⟩ => ?_)
  refine vt _ (ex_move rfl (ev s1 rfl)) hz (fun A_1 zz kk s39x => ?_)
  replace s1 := kt kk s1
  replace s3 := kt kk s3
  replace s4 := kt kk s4
  clear kk hz
  have hz := zz
  have s39 := s39x
  clear zz s39x
  refine vt (.agg #[.pointer (some ⟨b, 0, none⟩)]) (ex_ld rfl (ev s4 rfl) (ldRd (B1.cell 0 _ rfl))) hz (fun A_2 zz kk s40x => ?_)
  replace s1 := kt kk s1
  replace s3 := kt kk s3
  replace s4 := kt kk s4
  replace s39 := kt kk s39
  clear kk hz
  have hz := zz
  have s40 := s40x
  clear zz s40x A_1
  refine vcallP (want_none rfl) (ex_call rfl (by simp only [List.map_toArray, List.map_cons, List.map_nil, (ev s40 rfl), evc] <;> rfl) rfl) (rnumber_any N b l x.s w1 hR1) rfl hz (by decide) ?_
  rintro e w2 ⟨rfl, hR2, hu2⟩
  refine ⟨_, rfl, fun A_3 zz kk s41x => ?_⟩
  have B2 := B1.ub hu2 hqb
  have M2 := M1.upd hu2 (by omega)
  have OL2 := OL1.far hu2 (fun k hk => by omega)
  have OD2 := OD1.far hu2 (fun k hk => by omega)
  replace s1 := kt kk s1
  replace s3 := kt kk s3
  replace s4 := kt kk s4
  replace s39 := kt kk s39
  clear kk hz s40
  have hz := zz
  have s41 := s41x
  clear zz s41x A_2
  refine vt (.pointer (some ⟨qm, 0, none⟩)) (ex_nil rfl (ev s39 rfl)) hz (fun A_4 zz kk s42x => ?_)
  replace s1 := kt kk s1
  replace s3 := kt kk s3
  replace s4 := kt kk s4
  replace s41 := kt kk s41
  clear kk hz s39
  have hz := zz
  have s42 := s42x
  clear zz s42x A_3
  refine vt (.pointer (some ⟨qm, 12, none⟩)) (ex_fa rfl (ev s42 rfl) (MBox.faCommit _ _)) hz (fun A_5 zz kk s43x => ?_)
  replace s1 := kt kk s1
  replace s3 := kt kk s3
  replace s4 := kt kk s4
  replace s41 := kt kk s41
  clear kk hz s42
  have hz := zz
  have s43 := s43x
  clear zz s43x A_4
  refine vs (sets w2 qm 12 [.int .i64 (rI mxI l x.s : Int)]) (want_none rfl) (ex_st rfl (ev s43 rfl) (ev s41 rfl) (stInt _ (M2.cell 12 _ rfl) (M2.free 12))) rfl ?_
  have SP3 := M2.splice 12 [.int .i64 (rI mxI l x.s : Int)] { x.m with cm := (rI mxI l x.s : Int) } s_ t_ (by show _ + _ ≤ 18; simp) rfl
  obtain ⟨w3, hw3⟩ : ∃ y, y = sets w2 qm 12 [.int .i64 (rI mxI l x.s : Int)] := ⟨_, rfl⟩
  rw [← hw3] at SP3 ⊢
  clear hw3
  have M3 := SP3.1
  have hR3 := hR2.ub SP3.2 (fun k hk => by omega)
  have B3 := B2.ub SP3.2 (by omega)
  have OL3 := OL2.far SP3.2 (fun k hk => by omega)
  have OD3 := OD2.far SP3.2 (fun k hk => by omega)
  refine wpList_nil ?_
  go_wp2
  go_end0
  exact ⟨rfl, ⟨_, _, M3, OL3, OD3⟩, hR3, (U2.b (UB.of_below hb01)).trans ((U2.b hu2).trans (U2.q SP3.2))⟩
set_option maxRecDepth 100000 in
set_option maxHeartbeats 4000000 in
theorem rfield_5 (N b qm : Nat) (l : List Int) (x : Rst) (q : Int) (w : World) (hN : N ≤ qm) (hM : MS w qm x.m x.L x.D) (h : RD N w b l x.s) : Calls Tryd.prog 54 #[.agg #[.pointer (some ⟨b, 0, none⟩)], .pointer (some ⟨qm, 0, none⟩), .int .i64 5, .int .u8 q] w fun e w' => e = .returned (.tuple #[]) ∧ MS w' qm (rCol l x 5 (!decide (q = 15))).m (rCol l x 5 (!decide (q = 15))).L (rCol l x 5 (!decide (q = 15))).D ∧ RD N w' b l (rCol l x 5 (!decide (q = 15))).s ∧ U2 b qm w w' := by
  have hlt := h.lt
  obtain ⟨s_, t_, M0, OL0, OD0⟩ := hM
  have hqm := M0.lt
  have hqb : w.heap.size ≠ b := by omega
  go_enter Tryd.func54, Tryd.ntmps54
  go_upto_region 13 with fail
  obtain ⟨w1, hw1⟩ : ∃ w1, w1 = w.alloc (.cells #[.pointer (some ⟨b, 0, none⟩)] 102) := ⟨_, rfl⟩
  rw [← hw1]
  have hb01 : Below w.heap.size w w1 := by rw [hw1]; exact (Below.refl _ _).alloc (Nat.le_refl _) _
  have B1 : Bx w1 w.heap.size [.pointer (some ⟨b, 0, none⟩)] := by rw [hw1]; exact Bx.new w [.pointer (some ⟨b, 0, none⟩)] _
  have hR1 := h.later hb01
  have M1 := M0.bel hb01
  have OL1 := OL0.far (Upd.of_below (S := fun _ => False) hb01) (fun _ _ => id)
  have OD1 := OD0.far (Upd.of_below (S := fun _ => False) hb01) (fun _ _ => id)
  have hB1lt := B1.lt
  clear hw1
  refine wp_region_lit ?_
  refine vl_gen (fun T => T.size = 87 ∧ T[1]? = some (gw true (.pointer (some ⟨qm, 0, none⟩))) ∧ T[3]? = some (gw true (.int .u8 q)) ∧ T[4]? = some (gw true (.pointer (some ⟨w.heap.size, 0, none⟩)))) ⟨rfl, rfl, rfl, rfl⟩ (fun T0 ⟨hz, s1, s3, s4⟩ => ?_)
  refine vt _ (ex_move rfl (ev s1 rfl)) hz (fun A_1 zz kk s46x => ?_)
  replace s1 := kt kk s1
  replace s3 := kt kk s3
  replace s4 := kt kk s4
  clear kk hz
  have hz := zz
  have s46 := s46x
  clear zz s46x
  refine vt (.agg #[.pointer (some ⟨b, 0, none⟩)]) (ex_ld rfl (ev s4 rfl) (ldRd (B1.cell 0 _ rfl))) hz (fun A_2 zz kk s47x => ?_)
  replace s1 := kt kk s1
  replace s3 := kt kk s3
  replace s4 := kt kk s4
  replace s46 := kt kk s46
  clear kk hz
  have hz := zz
  have s47 := s47x
  clear zz s47x A_1
  refine vcallP (want_none rfl) (ex_call rfl (by simp only [List.map_toArray, List.map_cons, List.map_nil, (ev s47 rfl), evc] <;> rfl) rfl) (rdraw_any N b l x.s w1 hR1) rfl hz (by decide) ?_
  rintro e w2 ⟨rfl, hR2, hu2⟩
  refine ⟨_, rfl, fun A_3 zz kk s48x => ?_⟩
  have B2 := B1.ub hu2 hqb
  have M2 := M1.upd hu2 (by omega)
  have OL2 := OL1.far hu2 (fun k hk => by omega)
  have OD2 := OD1.far hu2 (fun k hk => by omega)
  replace s1 := kt kk s1
  replace s3 := kt kk s3
  replace s4 := kt kk s4
  replace s46 := kt kk s46
  clear kk hz s47
  have hz := zz
  have s48 := s48x
  clear zz s48x A_2
  refine vt (.pointer (some ⟨qm, 0, none⟩)) (ex_nil rfl (ev s46 rfl)) hz (fun A_4 zz kk s49x => ?_)
  replace s1 := kt kk s1
  replace s3 := kt kk s3
  replace s4 := kt kk s4
  replace s48 := kt kk s48
  clear kk hz s46
  have hz := zz
  have s49 := s49x
  clear zz s49x A_3
  refine vt (.pointer (some ⟨qm, 14, none⟩)) (ex_fa rfl (ev s49 rfl) (MBox.faDraw _ _)) hz (fun A_5 zz kk s50x => ?_)
  replace s1 := kt kk s1
  replace s3 := kt kk s3
  replace s4 := kt kk s4
  replace s48 := kt kk s48
  clear kk hz s49
  have hz := zz
  have s50 := s50x
  clear zz s50x A_4
  refine vs (sets w2 qm 14 [.int .u64 (rD l x.s).1, .int .u64 (rD l x.s).2]) (want_none rfl) (ex_st rfl (ev s50 rfl) (ev s48 rfl) (M2.stAt 33 14 [.int .u64 (rD l x.s).1, .int .u64 (rD l x.s).2] (by show 14 + 2 ≤ 18; omega) (by kernel_rfl) (by kernel_rfl))) rfl ?_
  have SP3 := M2.splice 14 [.int .u64 (rD l x.s).1, .int .u64 (rD l x.s).2] { x.m with d := rD l x.s } s_ t_ (by show _ + _ ≤ 18; simp) rfl
  obtain ⟨w3, hw3⟩ : ∃ y, y = sets w2 qm 14 [.int .u64 (rD l x.s).1, .int .u64 (rD l x.s).2] := ⟨_, rfl⟩
  rw [← hw3] at SP3 ⊢
  clear hw3
  have M3 := SP3.1
  have hR3 := hR2.ub SP3.2 (fun k hk => by omega)
  have B3 := B2.ub SP3.2 (by omega)
  have OL3 := OL2.far SP3.2 (fun k hk => by omega)
  have OD3 := OD2.far SP3.2 (fun k hk => by omega)
  refine wpList_nil ?_
  go_wp2
  go_end0
  exact ⟨rfl, ⟨_, _, M3, OL3, OD3⟩, hR3, (U2.b (UB.of_below hb01)).trans ((U2.b hu2).trans (U2.q SP3.2))⟩
set_option maxRecDepth 100000 in
set_option maxHeartbeats 4000000 in
theorem rfield_6 (N b qm : Nat) (l : List Int) (x : Rst) (q : Int) (w : World) (hN : N ≤ qm) (hM : MS w qm x.m x.L x.D) (h : RD N w b l x.s) : Calls Tryd.prog 54 #[.agg #[.pointer (some ⟨b, 0, none⟩)], .pointer (some ⟨qm, 0, none⟩), .int .i64 6, .int .u8 q] w fun e w' => e = .returned (.tuple #[]) ∧ MS w' qm (rCol l x 6 (!decide (q = 15))).m (rCol l x 6 (!decide (q = 15))).L (rCol l x 6 (!decide (q = 15))).D ∧ RD N w' b l (rCol l x 6 (!decide (q = 15))).s ∧ U2 b qm w w' := by
  have hlt := h.lt
  obtain ⟨s_, t_, M0, OL0, OD0⟩ := hM
  have hqm := M0.lt
  have hqb : w.heap.size ≠ b := by omega
  go_enter Tryd.func54, Tryd.ntmps54
  go_upto_region 15 with fail
  obtain ⟨w1, hw1⟩ : ∃ w1, w1 = w.alloc (.cells #[.pointer (some ⟨b, 0, none⟩)] 102) := ⟨_, rfl⟩
  rw [← hw1]
  have hb01 : Below w.heap.size w w1 := by rw [hw1]; exact (Below.refl _ _).alloc (Nat.le_refl _) _
  have B1 : Bx w1 w.heap.size [.pointer (some ⟨b, 0, none⟩)] := by rw [hw1]; exact Bx.new w [.pointer (some ⟨b, 0, none⟩)] _
  have hR1 := h.later hb01
  have M1 := M0.bel hb01
  have OL1 := OL0.far (Upd.of_below (S := fun _ => False) hb01) (fun _ _ => id)
  have OD1 := OD0.far (Upd.of_below (S := fun _ => False) hb01) (fun _ _ => id)
  have hB1lt := B1.lt
  clear hw1
  refine wp_region_lit ?_
  refine vl_gen (fun T => T.size = 87 ∧ T[1]? = some (gw true (.pointer (some ⟨qm, 0, none⟩))) ∧ T[3]? = some (gw true (.int .u8 q)) ∧ T[4]? = some (gw true (.pointer (some ⟨w.heap.size, 0, none⟩)))) ⟨rfl, rfl, rfl, rfl⟩ (fun T0 ⟨hz, s1, s3, s4⟩ => ?_)
  refine vt _ (ex_move rfl (ev s1 rfl)) hz (fun A_1 zz kk s53x => ?_)
  replace s1 := kt kk s1
  replace s3 := kt kk s3
  replace s4 := kt kk s4
  clear kk hz
  have hz := zz
  have s53 := s53x
  clear zz s53x
  refine vt (.agg #[.pointer (some ⟨b, 0, none⟩)]) (ex_ld rfl (ev s4 rfl) (ldRd (B1.cell 0 _ rfl))) hz (fun A_2 zz kk s54x => ?_)
  replace s1 := kt kk s1
  replace s3 := kt kk s3
  replace s4 := kt kk s4
  replace s53 := kt kk s53
  clear kk hz
  have hz := zz
  have s54 := s54x
  clear zz s54x A_1
  refine vcallP (want_none rfl) (ex_call rfl (by simp only [List.map_toArray, List.map_cons, List.map_nil, (ev s54 rfl), evc] <;> rfl) rfl) (rname_any N b l x.s w1 hR1) rfl hz (by decide) ?_
  rintro e w2 ⟨rfl, hR2, hu2⟩
  refine ⟨_, rfl, fun A_3 zz kk s55x => ?_⟩
  have B2 := B1.ub hu2 hqb
  have M2 := M1.upd hu2 (by omega)
  have OL2 := OL1.far hu2 (fun k hk => by omega)
  have OD2 := OD1.far hu2 (fun k hk => by omega)
  replace s1 := kt kk s1
  replace s3 := kt kk s3
  replace s4 := kt kk s4
  replace s53 := kt kk s53
  clear kk hz s54
  have hz := zz
  have s55 := s55x
  clear zz s55x A_2
  refine vt (.pointer (some ⟨qm, 0, none⟩)) (ex_nil rfl (ev s53 rfl)) hz (fun A_4 zz kk s56x => ?_)
  replace s1 := kt kk s1
  replace s3 := kt kk s3
  replace s4 := kt kk s4
  replace s55 := kt kk s55
  clear kk hz s53
  have hz := zz
  have s56 := s56x
  clear zz s56x A_3
  refine vt (.pointer (some ⟨qm, 3, none⟩)) (ex_fa rfl (ev s56 rfl) (MBox.faEntry _ _)) hz (fun A_5 zz kk s57x => ?_)
  replace s1 := kt kk s1
  replace s3 := kt kk s3
  replace s4 := kt kk s4
  replace s55 := kt kk s55
  clear kk hz s56
  have hz := zz
  have s57 := s57x
  clear zz s57x A_4
  refine vs (sets w2 qm 3 [.int .i64 (rI mxI l x.s : Int), .int .i64 (rI mxI l (sI mxI l x.s) : Int), .int .i64 0, .int .i64 0, .string ⟨#[]⟩]) (want_none rfl) (ex_st rfl (ev s57 rfl) (ev s55 rfl) (M2.stAt 28 3 [.int .i64 (rI mxI l x.s : Int), .int .i64 (rI mxI l (sI mxI l x.s) : Int), .int .i64 0, .int .i64 0, .string ⟨#[]⟩] (by show 3 + 5 ≤ 18; omega) (by kernel_rfl) (by kernel_rfl))) rfl ?_
  have SP3 := M2.splice 3 [.int .i64 (rI mxI l x.s : Int), .int .i64 (rI mxI l (sI mxI l x.s) : Int), .int .i64 0, .int .i64 0, .string ⟨#[]⟩] { x.m with e := ⟨(rI mxI l x.s : Int), (rI mxI l (sI mxI l x.s) : Int), ⟨0, 0, ⟨#[]⟩⟩⟩ } s_ t_ (by show _ + _ ≤ 18; simp) rfl
  obtain ⟨w3, hw3⟩ : ∃ y, y = sets w2 qm 3 [.int .i64 (rI mxI l x.s : Int), .int .i64 (rI mxI l (sI mxI l x.s) : Int), .int .i64 0, .int .i64 0, .string ⟨#[]⟩] := ⟨_, rfl⟩
  rw [← hw3] at SP3 ⊢
  clear hw3
  have M3 := SP3.1
  have hR3 := hR2.ub SP3.2 (fun k hk => by omega)
  have B3 := B2.ub SP3.2 (by omega)
  have OL3 := OL2.far SP3.2 (fun k hk => by omega)
  have OD3 := OD2.far SP3.2 (fun k hk => by omega)
  refine wpList_nil ?_
  go_upto_region 16 with fail
  refine wp_region_lit ?_
  refine vt _ (ex_move rfl (ev s3 rfl)) hz (fun C_1 zz kk s58x => ?_)
  replace s1 := kt kk s1
  replace s3 := kt kk s3
  replace s4 := kt kk s4
  clear kk hz s55 s57
  have hz := zz
  have s58 := s58x
  clear zz s58x
  refine vt (.bool (!decide (q = 15))) (ex_bin rfl (ev s58 rfl) rfl (neqU8 _ _ _ _ _)) hz (fun C_2 zz kk s59x => ?_)
  replace s1 := kt kk s1
  replace s3 := kt kk s3
  replace s4 := kt kk s4
  clear kk hz s58
  have hz := zz
  have s59 := s59x
  clear zz s59x C_1
  refine wpList_nil ?_
  go_upto_region 17 with fail
  cases e6 : !decide (q = 15)
  · refine wp_cond_false ((ev s59 rfl).trans (congrArg Value.bool e6)) ?_
    go_wp2
    go_end0
    try rw [e6]
    exact ⟨rfl, ⟨_, _, M3, OL3, OD3⟩, hR3, (U2.b (UB.of_below hb01)).trans ((U2.b hu2).trans (U2.q SP3.2))⟩
  refine wp_cond_true ((ev s59 rfl).trans (congrArg Value.bool e6)) ?_
  go_upto_region 17 with fail
  refine wp_region_lit ?_
  refine vt _ (ex_move rfl (ev s1 rfl)) hz (fun D_1 zz kk s60x => ?_)
  replace s1 := kt kk s1
  replace s4 := kt kk s4
  clear kk hz s3 s59
  have hz := zz
  have s60 := s60x
  clear zz s60x
  refine vt (.agg #[.pointer (some ⟨b, 0, none⟩)]) (ex_ld rfl (ev s4 rfl) (ldRd (B3.cell 0 _ rfl))) hz (fun D_2 zz kk s61x => ?_)
  replace s1 := kt kk s1
  replace s60 := kt kk s60
  clear kk hz s4
  have hz := zz
  have s61 := s61x
  clear zz s61x D_1
  refine vcallP (want_none rfl) (ex_call rfl (by simp only [List.map_toArray, List.map_cons, List.map_nil, (ev s61 rfl), evc] <;> rfl) rfl) (rop_any N b l (s2 l x.s) w3 hR3) rfl hz (by decide) ?_
  rintro e w4 ⟨rfl, hR4, hu4⟩
  refine ⟨_, rfl, fun D_3 zz kk s62x => ?_⟩
  have B4 := B3.ub hu4 hqb
  have M4 := M3.upd hu4 (by omega)
  have OL4 := OL3.far hu4 (fun k hk => by omega)
  have OD4 := OD3.far hu4 (fun k hk => by omega)
  replace s1 := kt kk s1
  replace s60 := kt kk s60
  clear kk hz s61
  have hz := zz
  have s62 := s62x
  clear zz s62x D_2
  refine vt (.pointer (some ⟨qm, 0, none⟩)) (ex_nil rfl (ev s60 rfl)) hz (fun D_4 zz kk s63x => ?_)
  replace s1 := kt kk s1
  replace s62 := kt kk s62
  clear kk hz s60
  have hz := zz
  have s63 := s63x
  clear zz s63x D_3
  refine vt (.pointer (some ⟨qm, 3, none⟩)) (ex_fa rfl (ev s63 rfl) (MBox.faEntry _ _)) hz (fun D_5 zz kk s64x => ?_)
  replace s1 := kt kk s1
  replace s62 := kt kk s62
  clear kk hz s63
  have hz := zz
  have s64 := s64x
  clear zz s64x D_4
  refine vt (.pointer (some ⟨qm, 5, none⟩)) (ex_fa rfl (ev s64 rfl) (MBox.faOp _ _)) hz (fun D_6 zz kk s65x => ?_)
  replace s1 := kt kk s1
  replace s62 := kt kk s62
  clear kk hz s64
  have hz := zz
  have s65 := s65x
  clear zz s65x D_5
  refine vs (sets w4 qm 5 [.int .i64 (rO l (s2 l x.s)).k, .int .i64 (rO l (s2 l x.s)).s, .string (rO l (s2 l x.s)).v]) (want_none rfl) (ex_st rfl (ev s65 rfl) (ev s62 rfl) (M4.stAt 26 5 [.int .i64 (rO l (s2 l x.s)).k, .int .i64 (rO l (s2 l x.s)).s, .string (rO l (s2 l x.s)).v] (by show 5 + 3 ≤ 18; omega) (by kernel_rfl) (by kernel_rfl))) rfl ?_
  have SP5 := M4.splice 5 [.int .i64 (rO l (s2 l x.s)).k, .int .i64 (rO l (s2 l x.s)).s, .string (rO l (s2 l x.s)).v] { x.m with e := rE l x.s } s_ t_ (by show _ + _ ≤ 18; simp) rfl
  obtain ⟨w5, hw5⟩ : ∃ y, y = sets w4 qm 5 [.int .i64 (rO l (s2 l x.s)).k, .int .i64 (rO l (s2 l x.s)).s, .string (rO l (s2 l x.s)).v] := ⟨_, rfl⟩
  rw [← hw5] at SP5 ⊢
  clear hw5
  have M5 := SP5.1
  have hR5 := hR4.ub SP5.2 (fun k hk => by omega)
  have B5 := B4.ub SP5.2 (by omega)
  have OL5 := OL4.far SP5.2 (fun k hk => by omega)
  have OD5 := OD4.far SP5.2 (fun k hk => by omega)
  refine wpList_nil ?_
  go_wp2
  go_end0
  try rw [e6]
  exact ⟨rfl, ⟨_, _, M5, OL5, OD5⟩, hR5, (U2.b (UB.of_below hb01)).trans (((U2.b hu2).trans (U2.q SP3.2)).trans ((U2.b hu4).trans (U2.q SP5.2)))⟩
set_option maxRecDepth 100000 in
set_option maxHeartbeats 4000000 in
theorem rfield_7 (N b qm : Nat) (l : List Int) (x : Rst) (q : Int) (w : World) (hN : N ≤ qm) (hM : MS w qm x.m x.L x.D) (h : RD N w b l x.s) : Calls Tryd.prog 54 #[.agg #[.pointer (some ⟨b, 0, none⟩)], .pointer (some ⟨qm, 0, none⟩), .int .i64 7, .int .u8 q] w fun e w' => e = .returned (.tuple #[]) ∧ MS w' qm (rCol l x 7 (!decide (q = 15))).m (rCol l x 7 (!decide (q = 15))).L (rCol l x 7 (!decide (q = 15))).D ∧ RD N w' b l (rCol l x 7 (!decide (q = 15))).s ∧ U2 b qm w w' := by
  have hlt := h.lt
  obtain ⟨s_, t_, M0, OL0, OD0⟩ := hM
  have hqm := M0.lt
  have hqb : w.heap.size ≠ b := by omega
  go_enter Tryd.func54, Tryd.ntmps54
  go_upto_region 19 with fail
  obtain ⟨w1, hw1⟩ : ∃ w1, w1 = w.alloc (.cells #[.pointer (some ⟨b, 0, none⟩)] 102) := ⟨_, rfl⟩
  rw [← hw1]
  have hb01 : Below w.heap.size w w1 := by rw [hw1]; exact (Below.refl _ _).alloc (Nat.le_refl _) _
  have B1 : Bx w1 w.heap.size [.pointer (some ⟨b, 0, none⟩)] := by rw [hw1]; exact Bx.new w [.pointer (some ⟨b, 0, none⟩)] _
  have hR1 := h.later hb01
  have M1 := M0.bel hb01
  have OL1 := OL0.far (Upd.of_below (S := fun _ => False) hb01) (fun _ _ => id)
  have OD1 := OD0.far (Upd.of_below (S := fun _ => False) hb01) (fun _ _ => id)
  have hB1lt := B1.lt
  clear hw1
  refine wp_region_lit ?_
  refine vl_gen (fun T => T.size = 87 ∧ T[1]? = some (gw true (.pointer (some ⟨qm, 0, none⟩))) ∧ T[3]? = some (gw true (.int .u8 q)) ∧ T[4]? = some (gw true (.pointer (some ⟨w.heap.size, 0, none⟩)))) ⟨rfl, rfl, rfl, rfl⟩ (fun T0 ⟨hz, s1, s3, s4⟩ => ?_)
  refine vt _ (ex_move rfl (ev s1 rfl)) hz (fun A_1 zz kk s68x => ?_)
  replace s1 := kt kk s1
  replace s3 := kt kk s3
  replace s4 := kt kk s4
  clear kk hz
  have hz := zz
  have s68 := s68x
  clear zz s68x
  refine vt (.agg #[.pointer (some ⟨b, 0, none⟩)]) (ex_ld rfl (ev s4 rfl) (ldRd (B1.cell 0 _ rfl))) hz (fun A_2 zz kk s69x => ?_)
  replace s1 := kt kk s1
  replace s3 := kt kk s3
  replace s4 := kt kk s4
  replace s68 := kt kk s68
  clear kk hz
  have hz := zz
  have s69 := s69x
  clear zz s69x A_1
  refine vcallP (want_none rfl) (ex_call rfl (by simp only [List.map_toArray, List.map_cons, List.map_nil, (ev s69 rfl), evc] <;> rfl) rfl) (rresult_any N b l x.s w1 hR1) rfl hz (by decide) ?_
  rintro e w2 ⟨rfl, hR2, hu2⟩
  refine ⟨_, rfl, fun A_3 zz kk s70x => ?_⟩
  have B2 := B1.ub hu2 hqb
  have M2 := M1.upd hu2 (by omega)
  have OL2 := OL1.far hu2 (fun k hk => by omega)
  have OD2 := OD1.far hu2 (fun k hk => by omega)
  replace s1 := kt kk s1
  replace s3 := kt kk s3
  replace s4 := kt kk s4
  replace s68 := kt kk s68
  clear kk hz s69
  have hz := zz
  have s70 := s70x
  clear zz s70x A_2
  refine vt (.pointer (some ⟨qm, 0, none⟩)) (ex_nil rfl (ev s68 rfl)) hz (fun A_4 zz kk s71x => ?_)
  replace s1 := kt kk s1
  replace s3 := kt kk s3
  replace s4 := kt kk s4
  replace s70 := kt kk s70
  clear kk hz s68
  have hz := zz
  have s71 := s71x
  clear zz s71x A_3
  refine vt (.pointer (some ⟨qm, 8, none⟩)) (ex_fa rfl (ev s71 rfl) (MBox.faResult _ _)) hz (fun A_5 zz kk s72x => ?_)
  replace s1 := kt kk s1
  replace s3 := kt kk s3
  replace s4 := kt kk s4
  replace s70 := kt kk s70
  clear kk hz s71
  have hz := zz
  have s72 := s72x
  clear zz s72x A_4
  refine vs (sets w2 qm 8 [.int .i64 (rO l x.s).k, .int .i64 (rO l x.s).s, .string (rO l x.s).v]) (want_none rfl) (ex_st rfl (ev s72 rfl) (ev s70 rfl) (M2.stAt 30 8 [.int .i64 (rO l x.s).k, .int .i64 (rO l x.s).s, .string (rO l x.s).v] (by show 8 + 3 ≤ 18; omega) (by kernel_rfl) (by kernel_rfl))) rfl ?_
  have SP3 := M2.splice 8 [.int .i64 (rO l x.s).k, .int .i64 (rO l x.s).s, .string (rO l x.s).v] { x.m with r := ((rO l x.s).k, (rO l x.s).s, (rO l x.s).v) } s_ t_ (by show _ + _ ≤ 18; simp) rfl
  obtain ⟨w3, hw3⟩ : ∃ y, y = sets w2 qm 8 [.int .i64 (rO l x.s).k, .int .i64 (rO l x.s).s, .string (rO l x.s).v] := ⟨_, rfl⟩
  rw [← hw3] at SP3 ⊢
  clear hw3
  have M3 := SP3.1
  have hR3 := hR2.ub SP3.2 (fun k hk => by omega)
  have B3 := B2.ub SP3.2 (by omega)
  have OL3 := OL2.far SP3.2 (fun k hk => by omega)
  have OD3 := OD2.far SP3.2 (fun k hk => by omega)
  refine wpList_nil ?_
  go_wp2
  go_end0
  exact ⟨rfl, ⟨_, _, M3, OL3, OD3⟩, hR3, (U2.b (UB.of_below hb01)).trans ((U2.b hu2).trans (U2.q SP3.2))⟩
set_option maxRecDepth 100000 in
set_option maxHeartbeats 4000000 in
theorem rfield_8 (N b qm : Nat) (l : List Int) (x : Rst) (q : Int) (w : World) (hN : N ≤ qm) (hM : MS w qm x.m x.L x.D) (h : RD N w b l x.s) : Calls Tryd.prog 54 #[.agg #[.pointer (some ⟨b, 0, none⟩)], .pointer (some ⟨qm, 0, none⟩), .int .i64 8, .int .u8 q] w fun e w' => e = .returned (.tuple #[]) ∧ MS w' qm (rCol l x 8 (!decide (q = 15))).m (rCol l x 8 (!decide (q = 15))).L (rCol l x 8 (!decide (q = 15))).D ∧ RD N w' b l (rCol l x 8 (!decide (q = 15))).s ∧ U2 b qm w w' := by
  have hlt := h.lt
  obtain ⟨s_, t_, M0, OL0, OD0⟩ := hM
  have hqm := M0.lt
  have hqb : w.heap.size ≠ b := by omega
  go_enter Tryd.func54, Tryd.ntmps54
  go_upto_region 21 with fail
  obtain ⟨w1, hw1⟩ : ∃ w1, w1 = w.alloc (.cells #[.pointer (some ⟨b, 0, none⟩)] 102) := ⟨_, rfl⟩
  rw [← hw1]
  have hb01 : Below w.heap.size w w1 := by rw [hw1]; exact (Below.refl _ _).alloc (Nat.le_refl _) _
  have B1 : Bx w1 w.heap.size [.pointer (some ⟨b, 0, none⟩)] := by rw [hw1]; exact Bx.new w [.pointer (some ⟨b, 0, none⟩)] _
  have hR1 := h.later hb01
  have M1 := M0.bel hb01
  have OL1 := OL0.far (Upd.of_below (S := fun _ => False) hb01) (fun _ _ => id)
  have OD1 := OD0.far (Upd.of_below (S := fun _ => False) hb01) (fun _ _ => id)
  have hB1lt := B1.lt
  clear hw1
  refine wp_region_lit ?_
  refine vl_gen (fun T => T.size = 87 ∧ T[1]? = some (gw true (.pointer (some ⟨qm, 0, none⟩))) ∧ T[3]? = some (gw true (.int .u8 q)) ∧ T[4]? = some (gw true (.pointer (some ⟨w.heap.size, 0, none⟩)))) ⟨rfl, rfl, rfl, rfl⟩ (fun T0 ⟨hz, s1, s3, s4⟩ => ?_)
  refine vt _ (ex_move rfl (ev s1 rfl)) hz (fun A_1 zz kk s75x => ?_)
  replace s1 := kt kk s1
  replace s3 := kt kk s3
  replace s4 := kt kk s4
  clear kk hz
  have hz := zz
  have s75 := s75x
  clear zz s75x
  refine vt (.agg #[.pointer (some ⟨b, 0, none⟩)]) (ex_ld rfl (ev s4 rfl) (ldRd (B1.cell 0 _ rfl))) hz (fun A_2 zz kk s76x => ?_)
  replace s1 := kt kk s1
  replace s3 := kt kk s3
  replace s4 := kt kk s4
  replace s75 := kt kk s75
  clear kk hz
  have hz := zz
  have s76 := s76x
  clear zz s76x A_1
  refine vcallP (want_none rfl) (ex_call rfl (by simp only [List.map_toArray, List.map_cons, List.map_nil, (ev s76 rfl), evc] <;> rfl) rfl) (rlog_any N b l x.s w1 hR1) rfl hz (by decide) ?_
  rintro e w2 ⟨v2, rfl, O2, hR2, hu2⟩; obtain ⟨av, cv_, rfl, _⟩ := O2.form
  refine ⟨_, rfl, fun A_3 zz kk s77x => ?_⟩
  have B2 := B1.ub hu2 hqb
  have M2 := M1.upd hu2 (by omega)
  have OL2 := OL1.far hu2 (fun k hk => by omega)
  have OD2 := OD1.far hu2 (fun k hk => by omega)
  replace s1 := kt kk s1
  replace s3 := kt kk s3
  replace s4 := kt kk s4
  replace s75 := kt kk s75
  clear kk hz s76
  have hz := zz
  have s77 := s77x
  clear zz s77x A_2
  refine vt (.pointer (some ⟨qm, 0, none⟩)) (ex_nil rfl (ev s75 rfl)) hz (fun A_4 zz kk s78x => ?_)
  replace s1 := kt kk s1
  replace s3 := kt kk s3
  replace s4 := kt kk s4
  replace s77 := kt kk s77
  clear kk hz s75
  have hz := zz
  have s78 := s78x
  clear zz s78x A_3
  refine vt (.pointer (some ⟨qm, 16, none⟩)) (ex_fa rfl (ev s78 rfl) (MBox.faLog _ _)) hz (fun A_5 zz kk s79x => ?_)
  replace s1 := kt kk s1
  replace s3 := kt kk s3
  replace s4 := kt kk s4
  replace s77 := kt kk s77
  clear kk hz s78
  have hz := zz
  have s79 := s79x
  clear zz s79x A_4
  refine vs (sets w2 qm 16 [.slice av (esL l (sI 256 l x.s) (rI 256 l x.s)).length cv_]) (want_none rfl) (ex_st rfl (ev s79 rfl) (ev s77 rfl) (stSlE _ _ _ (M2.cell 16 _ rfl) (M2.free 16))) rfl ?_
  have SP3 := M2.splice 16 [.slice av (esL l (sI 256 l x.s) (rI 256 l x.s)).length cv_] x.m (.slice av (esL l (sI 256 l x.s) (rI 256 l x.s)).length cv_) t_ (by show _ + _ ≤ 18; simp) rfl
  obtain ⟨w3, hw3⟩ : ∃ y, y = sets w2 qm 16 [.slice av (esL l (sI 256 l x.s) (rI 256 l x.s)).length cv_] := ⟨_, rfl⟩
  rw [← hw3] at SP3 ⊢
  clear hw3
  have M3 := SP3.1
  have hR3 := hR2.ub SP3.2 (fun k hk => by omega)
  have B3 := B2.ub SP3.2 (by omega)
  have OL3 := OL2.far SP3.2 (fun k hk => by omega)
  have OD3 := OD2.far SP3.2 (fun k hk => by omega)
  refine wpList_nil ?_
  go_wp2
  go_end0
  exact ⟨rfl, ⟨_, _, M3, ((O2.low (show qm + 1 ≤ w1.heap.size by omega)).far SP3.2 (fun k hk => by omega)), OD3⟩, hR3, (U2.b (UB.of_below hb01)).trans ((U2.b hu2).trans (U2.q SP3.2))⟩
set_option maxRecDepth 100000 in
set_option maxHeartbeats 4000000 in
theorem rfield_9 (N b qm : Nat) (l : List Int) (x : Rst) (q : Int) (w : World) (hN : N ≤ qm) (hM : MS w qm x.m x.L x.D) (h : RD N w b l x.s) : Calls Tryd.prog 54 #[.agg #[.pointer (some ⟨b, 0, none⟩)], .pointer (some ⟨qm, 0, none⟩), .int .i64 9, .int .u8 q] w fun e w' => e = .returned (.tuple #[]) ∧ MS w' qm (rCol l x 9 (!decide (q = 15))).m (rCol l x 9 (!decide (q = 15))).L (rCol l x 9 (!decide (q = 15))).D ∧ RD N w' b l (rCol l x 9 (!decide (q = 15))).s ∧ U2 b qm w w' := by
  have hlt := h.lt
  obtain ⟨s_, t_, M0, OL0, OD0⟩ := hM
  have hqm := M0.lt
  have hqb : w.heap.size ≠ b := by omega
  go_enter Tryd.func54, Tryd.ntmps54
  go_upto_region 23 with fail
  obtain ⟨w1, hw1⟩ : ∃ w1, w1 = w.alloc (.cells #[.pointer (some ⟨b, 0, none⟩)] 102) := ⟨_, rfl⟩
  rw [← hw1]
  have hb01 : Below w.heap.size w w1 := by rw [hw1]; exact (Below.refl _ _).alloc (Nat.le_refl _) _
  have B1 : Bx w1 w.heap.size [.pointer (some ⟨b, 0, none⟩)] := by rw [hw1]; exact Bx.new w [.pointer (some ⟨b, 0, none⟩)] _
  have hR1 := h.later hb01
  have M1 := M0.bel hb01
  have OL1 := OL0.far (Upd.of_below (S := fun _ => False) hb01) (fun _ _ => id)
  have OD1 := OD0.far (Upd.of_below (S := fun _ => False) hb01) (fun _ _ => id)
  have hB1lt := B1.lt
  clear hw1
  refine wp_region_lit ?_
  refine vl_gen (fun T => T.size = 87 ∧ T[1]? = some (gw true (.pointer (some ⟨qm, 0, none⟩))) ∧ T[3]? = some (gw true (.int .u8 q)) ∧ T[4]? = some (gw true (.pointer (some ⟨w.heap.size, 0, none⟩)))) ⟨rfl, rfl, rfl, rfl⟩ (fun T0 ⟨hz, s1, s3, s4⟩ => ?_)
  refine vt _ (ex_move rfl (ev s1 rfl)) hz (fun A_1 zz kk s82x => ?_)
  replace s1 := kt kk s1
  replace s3 := kt kk s3
  replace s4 := kt kk s4
  clear kk hz
  have hz := zz
  have s82 := s82x
  clear zz s82x
  refine vt (.agg #[.pointer (some ⟨b, 0, none⟩)]) (ex_ld rfl (ev s4 rfl) (ldRd (B1.cell 0 _ rfl))) hz (fun A_2 zz kk s83x => ?_)
  replace s1 := kt kk s1
  replace s3 := kt kk s3
  replace s4 := kt kk s4
  replace s82 := kt kk s82
  clear kk hz
  have hz := zz
  have s83 := s83x
  clear zz s83x A_1
  refine vcallP (want_none rfl) (ex_call rfl (by simp only [List.map_toArray, List.map_cons, List.map_nil, (ev s83 rfl), evc] <;> rfl) rfl) (rvector_any N b l x.s w1 hR1) rfl hz (by decide) ?_
  rintro e w2 ⟨v2, rfl, O2, hR2, hu2⟩; obtain ⟨av, cv_, rfl, _⟩ := O2.form
  refine ⟨_, rfl, fun A_3 zz kk s84x => ?_⟩
  have B2 := B1.ub hu2 hqb
  have M2 := M1.upd hu2 (by omega)
  have OL2 := OL1.far hu2 (fun k hk => by omega)
  have OD2 := OD1.far hu2 (fun k hk => by omega)
  replace s1 := kt kk s1
  replace s3 := kt kk s3
  replace s4 := kt kk s4
  replace s82 := kt kk s82
  clear kk hz s83
  have hz := zz
  have s84 := s84x
  clear zz s84x A_2
  refine vt (.pointer (some ⟨qm, 0, none⟩)) (ex_nil rfl (ev s82 rfl)) hz (fun A_4 zz kk s85x => ?_)
  replace s1 := kt kk s1
  replace s3 := kt kk s3
  replace s4 := kt kk s4
  replace s84 := kt kk s84
  clear kk hz s82
  have hz := zz
  have s85 := s85x
  clear zz s85x A_3
  refine vt (.pointer (some ⟨qm, 17, none⟩)) (ex_fa rfl (ev s85 rfl) (MBox.faVector _ _)) hz (fun A_5 zz kk s86x => ?_)
  replace s1 := kt kk s1
  replace s3 := kt kk s3
  replace s4 := kt kk s4
  replace s84 := kt kk s84
  clear kk hz s85
  have hz := zz
  have s86 := s86x
  clear zz s86x A_4
  refine vs (sets w2 qm 17 [.slice av (dsL l (sI 7 l x.s) (rI 7 l x.s)).length cv_]) (want_none rfl) (ex_st rfl (ev s86 rfl) (ev s84 rfl) (stSlD _ _ _ (M2.cell 17 _ rfl) (M2.free 17))) rfl ?_
  have SP3 := M2.splice 17 [.slice av (dsL l (sI 7 l x.s) (rI 7 l x.s)).length cv_] x.m s_ (.slice av (dsL l (sI 7 l x.s) (rI 7 l x.s)).length cv_) (by show _ + _ ≤ 18; simp) rfl
  obtain ⟨w3, hw3⟩ : ∃ y, y = sets w2 qm 17 [.slice av (dsL l (sI 7 l x.s) (rI 7 l x.s)).length cv_] := ⟨_, rfl⟩
  rw [← hw3] at SP3 ⊢
  clear hw3
  have M3 := SP3.1
  have hR3 := hR2.ub SP3.2 (fun k hk => by omega)
  have B3 := B2.ub SP3.2 (by omega)
  have OL3 := OL2.far SP3.2 (fun k hk => by omega)
  have OD3 := OD2.far SP3.2 (fun k hk => by omega)
  refine wpList_nil ?_
  go_wp2
  go_end0
  exact ⟨rfl, ⟨_, _, M3, OL3, ((O2.low (show qm + 1 ≤ w1.heap.size by omega)).far SP3.2 (fun k hk => by omega))⟩, hR3, (U2.b (UB.of_below hb01)).trans ((U2.b hu2).trans (U2.q SP3.2))⟩
theorem rfield_all (N b qm : Nat) (l : List Int) (x : Rst) (j : Nat) (hj : j < 10) (q : Int) (w : World) (hN : N ≤ qm) (hM : MS w qm x.m x.L x.D) (h : RD N w b l x.s) : Calls Tryd.prog 54 #[.agg #[.pointer (some ⟨b, 0, none⟩)], .pointer (some ⟨qm, 0, none⟩), .int .i64 (j : Int), .int .u8 q] w fun e w' => e = .returned (.tuple #[]) ∧ MS w' qm (rCol l x j (!decide (q = 15))).m (rCol l x j (!decide (q = 15))).L (rCol l x j (!decide (q = 15))).D ∧ RD N w' b l (rCol l x j (!decide (q = 15))).s ∧ U2 b qm w w' := by
  match j, hj with
  | 0, _ => exact rfield_0 N b qm l x q w hN hM h
  | 1, _ => exact rfield_1 N b qm l x q w hN hM h
  | 2, _ => exact rfield_2 N b qm l x q w hN hM h
  | 3, _ => exact rfield_3 N b qm l x q w hN hM h
  | 4, _ => exact rfield_4 N b qm l x q w hN hM h
  | 5, _ => exact rfield_5 N b qm l x q w hN hM h
  | 6, _ => exact rfield_6 N b qm l x q w hN hM h
  | 7, _ => exact rfield_7 N b qm l x q w hN hM h
  | 8, _ => exact rfield_8 N b qm l x q w hN hM h
  | 9, _ => exact rfield_9 N b qm l x q w hN hM h
  | (k + 10), hk => exact absurd hk (by omega)
def zG : Mg := ⟨0, 0, 0, ⟨0, 0, ⟨0, 0, ⟨#[]⟩⟩⟩, (0, 0, ⟨#[]⟩), 0, 0, 0, (0, 0)⟩
def nilS : Value := .slice none 0 0
def rCols (l : List Int) (k : Nat) (x : Rst) : Nat → Rst
  | 0 => x
  | j + 1 => if tabA k j = 0 then rCols l k x j else rCol l (rCols l k x j) j (!decide ((tabA k j : Int) = 15))
def rdM (l : List Int) : Rst × Int :=
  if ¬ (sI mxI l (0, 0)).2 = 0 then (⟨zG, [], [], (0, 0)⟩, (sI mxI l (0, 0)).2)
  else if kdB (rI mxI l (0, 0) : Int) = false then (⟨zG, [], [], (0, 0)⟩, 70)
  else let x := rCols l (rI mxI l (0, 0)) ⟨{ zG with k := (rI mxI l (0, 0) : Int) }, [], [], sI mxI l (0, 0)⟩ 10
    (x, Wi.endErr l.length x.s.1 x.s.2)
theorem first_at (l : List Int) : (sI mxI l (0, 0)).1 = 0 ↔ ¬ (sI mxI l (0, 0)).2 = 0 := by
  show 0 + Wi.sel 0 (Wi.tcSize mxI (l.drop 0)) = 0 ↔ ¬ Wi.selE 0 (Wi.tcErr mxI (l.drop 0)) = 0
  rw [Wi.sel_ok, Wi.selE_ok, Nat.zero_add]
  unfold Wi.tcSize
  constructor
  · intro h h0
    rw [if_pos h0] at h
    unfold Wi.tcErr at h0
    have ht : Wi.tnErr (l.drop 0) = 0 := by
      split at h0
      · omega
      · split at h0
        · omega
        · rename_i h2; omega
    unfold Wi.tnSize at h
    rw [if_pos ht] at h
    omega
  · intro h
    rw [if_neg h]
theorem rd_At (N b : Nat) (l : List Int) (s : Nat × Int) (w : World) (h : RD N w b l s) : Calls Tryd.prog 52 #[.pointer (some ⟨b, 0, none⟩)] w fun e w' => e = .returned (.int .i64 (s.1 : Int)) ∧ w' = w := by
  obtain ⟨a, n, c, h, _⟩ := h
  exact Wi.rd_at b a n c l s.1 s.2 w h
theorem rd_End (N b : Nat) (l : List Int) (s : Nat × Int) (w : World) (h : RD N w b l s) : Calls Tryd.prog 53 #[.pointer (some ⟨b, 0, none⟩)] w fun e w' => e = .returned (.int .i64 (Wi.endErr l.length s.1 s.2)) ∧ Below w.heap.size w w' := by
  obtain ⟨a, n, c, h, _⟩ := h
  have := Wi.rd_end b a n c l s.1 s.2 w h
  rw [← h.hs.len] at this
  refine this.mono ?_
  rintro e w' ⟨rfl, k, rfl⟩
  exact ⟨rfl, belN (Below.refl _ _) k⟩
theorem alM (w : World) : (Instr.alloc 38 true (.tuple #[])).run Tryd.prog w = .ok (.pointer (some ⟨w.heap.size, 0, none⟩)) (w.alloc (.cells (zG.cs nilS nilS).toArray 38)) := by
  go_simp
  first | done | rfl
theorem bdM (k : Int) (w : World) : (Instr.build 38 #[(0, .int .i64 k)]).run Tryd.prog w = .ok (({ zG with k := k } : Mg).val nilS nilS) w := by
  go_simp
  first | done | rfl
theorem bdM0 (w : World) : (Instr.build 38 #[]).run Tryd.prog w = .ok (zG.val nilS nilS) w := by
  go_simp
  first | done | rfl
theorem bdRd (b : Nat) (w : World) : (Instr.build 102 #[(0, .pointer (some ⟨b, 0, none⟩))]).run Tryd.prog w = .ok (.agg #[.pointer (some ⟨b, 0, none⟩)]) w := by
  go_simp
theorem alRd (w : World) : (Instr.alloc 102 true (.tuple #[])).run Tryd.prog w = .ok (.pointer (some ⟨w.heap.size, 0, none⟩)) (w.alloc (.cells #[.pointer none] 102)) := by
  go_simp
theorem bodyPost_msg {fn : Func} {i u : Tmp} {q : Nat} {m : Mg} {s t V : Value} {T : Array Value} {w : World} {R : Ending → World → Prop} (h : fn.results = #[.cell i 38, .tmp u]) (hq : T[i]? = some (gw true (.pointer (some ⟨q, 0, none⟩)))) (hu : T[u]? = some (gw true V)) (hb : MBox w q m s t) (hR : R (.returned (.tuple #[m.val s t, V])) w) : bodyPost Tryd.prog fn R .ret ⟨T, []⟩ w := by
  refine bodyPost_ret (v := .tuple #[m.val s t, V]) ?_ rfl hR
  have hl := run_loadVar_mid (P := Tryd.prog) w q 0 38 (m.cs s t) _ (fun j v hv => by rw [Nat.zero_add]; exact hb.cell j v hv) Tryd.underlying38 rfl (by kernel_rfl)
  have hq' : T.getD i undef = .pointer (some ⟨q, 0, none⟩) := getD_of hq
  have hu' : T.getD u undef = V := getD_of hu
  rw [results_cell_tmp h]
  simp only [hq', hu', asAddr, Sem.run_pure, Result.andThen_ok, hl]
  rfl
theorem vh_store {ops : Array Oper} {o : Oper} {T : Array Value} {df : List Deferred} {w : World} {Q : Exit → Act → World → Prop} {S : World → Prop} {fuel : Nat} {listed : Array Bool} (i : Nat) (w' : World) (hi : ops[i]? = some o) (hr : Region.ready .any ops listed = [i])
    (hw : Region.wanted o (yielded ops T) = true) (he : (execOp (⟨T, df⟩ : Act).eval o).run Tryd.prog w = .ok .skip w') (hd : o.dst = none) (hS : S w')
    (hk : VH ops Q S fuel (listed.setIfInBounds i true) ⟨T, df⟩ w') : VH ops Q S (fuel + 1) listed ⟨T, df⟩ w := by
  refine ⟨wpAnyH_all hr (by simp) (fun j hj => ?_)⟩
  obtain rfl : j = i := by simpa using hj
  unfold wpOp
  rw [hi]
  simp only [hw, if_true]
  refine .inl ?_
  unfold Oper.wp
  rw [he, Oper.upon_skip]
  refine ⟨hS, ?_⟩
  rw [hd]
  exact hk.out
theorem MBox.new0 (w : World) : MBox (w.alloc (.cells (zG.cs nilS nilS).toArray 38)) w.heap.size zG nilS nilS := MBox.new w zG nilS nilS
theorem stM {w : World} {q : Nat} {m : Mg} {s t : Value} (h : MBox w q m s t) (m' : Mg) (s' t' : Value) (h1 : s'.oneCell' = true) (h2 : t'.oneCell' = true) : (Instr.storeAt 38 (.pointer (some ⟨q, 0, none⟩)) (m'.val s' t')).run Tryd.prog w = .ok () (sets w q 0 (m'.cs s' t')) := run_storeM h m' s' t' h1 h2
theorem MBox.putU {w : World} {q : Nat} {m : Mg} {s t : Value} (h : MBox w q m s t) (m' : Mg) (s' t' : Value) : MBox (sets w q 0 (m'.cs s' t')) q m' s' t' ∧ UB q w (sets w q 0 (m'.cs s' t')) := ⟨h.put m' s' t', upd_sets (S := fun b => b = q) (b := q) rfl _ _ _ (Upd.refl _ _)⟩
theorem eqlKd (x y : Operand) (a b : Int) (w : World) : (do eqGuard .eql 3 x y (.int .i64 a) (.int .i64 b); binOp .eql 3 (.int .i64 a) (.int .i64 b) : Sem Value).run Tryd.prog w = .ok (.bool (decide (a = b))) w := eqlC x y a b w
theorem rCols_none {l : List Int} {k j : Nat} {x : Rst} (h : tabA k j = 0) : rCols l k x (j + 1) = rCols l k x j := by
  show (if _ then _ else _) = _
  rw [if_pos h]
theorem rCols_some {l : List Int} {k j : Nat} {x : Rst} (h : ¬ tabA k j = 0) : rCols l k x (j + 1) = rCol l (rCols l k x j) j (!decide ((tabA k j : Int) = 15)) := by
  show (if _ then _ else _) = _
  rw [if_neg h]
theorem cell_lt {w : World} {x : Addr} {v : Value} (h : w.cell? (x.add 0) = some v) : x.block < w.heap.size := by
  by_cases hx : x.block < w.heap.size
  · exact hx
  · exfalso
    have e : (x.add 0).block = x.block := rfl
    have hn : w.heap[(x.add 0).block]? = none := by rw [e]; exact Array.getElem?_eq_none (by omega)
    unfold World.cell? at h
    rw [hn] at h
    cases h
theorem RD.new {w : World} {b : Nat} {a : Option Addr} {n c : Nat} {l : List Int} (h : Wi.RSt w b a n c l 0 0) : RD w.heap.size w b l (0, 0) := by
  refine ⟨a, n, c, h, h.lt, Nat.le_refl _, fun x hx hl => ?_⟩
  have hr := h.hs.row x hx 0 hl
  exact cell_lt hr
theorem Bx.ub2 {w w' : World} {q b p : Nat} {cs : List Value} (h : Bx w q cs) (u : U2 b p w w') (hq : q ≠ b) (hp : q ≠ p) : Bx w' q cs :=
  ⟨Nat.lt_of_lt_of_le h.lt u.size, fun i x hx => (u.cell (p := ⟨q, i, none⟩) h.lt (fun e => e.elim hq hp)).trans (h.cell i x hx), fun i => (u.frozen (p := ⟨q, i, none⟩) h.lt (fun e => e.elim hq hp)).trans (h.free i)⟩
theorem OwnY.later8 {α : Type} {Y : Lay α} {B : Nat} {w w' : World} {v : Value} {l : List α} (h : OwnY Y B w v l) (hb : Below w.heap.size w w') : OwnY Y B w' v l := h.far (Upd.of_below (S := fun _ => False) hb) (fun _ _ => id)
set_option maxRecDepth 100000 in
set_option maxHeartbeats 8000000 in
theorem readM_any (a : Option Addr) (n c : Nat) (l : List Int) (w : World) (hH : Wi.Hs w a n c l) (hm : n ≤ 140737488355328) (hT : Tab w) :
    Calls Tryd.prog 25 #[.slice a n c] w fun e w' => ∃ s t, e = .returned (.tuple #[(rdM l).1.m.val s t, .int .i64 (rdM l).2]) ∧ OwnY yE w.heap.size w' s (rdM l).1.L ∧ OwnY yD w.heap.size w' t (rdM l).1.D ∧ Below w.heap.size w w' := by
  go_enter Tryd.func25, Tryd.ntmps25
  go_upto_region 0 with fail
  refine wp_region_lit ?_
  refine vl_gen (fun T => T.size = 48 ∧ T[0]? = some (gw true (.slice a n c))) ⟨rfl, rfl⟩ (fun Z0 ⟨hz, s0⟩ => ?_)
  obtain ⟨w1, hw1⟩ : ∃ w1, w1 = w.alloc (.cells (zG.cs nilS nilS).toArray 38) := ⟨_, rfl⟩
  have hB01 : Below w.heap.size w w1 := by rw [hw1]; exact (Below.refl _ _).alloc (Nat.le_refl _) _
  have hs1 : w1.heap.size = w.heap.size + 1 := by rw [hw1]; simp
  have M1 : MBox w1 w.heap.size zG nilS nilS := by rw [hw1]; exact MBox.new0 w
  have hH1 := hH.later hB01
  refine vw (.pointer (some ⟨w.heap.size, 0, none⟩)) w1 (want_none rfl) (ex_al rfl (by rw [hw1]; exact alM _)) rfl hz (by decide) (fun Z1 zz kk s2x => ?_)
  replace s0 := kt kk s0
  clear kk hz hw1
  have hz := zz
  have s2 := s2x
  clear zz s2x
  refine vt (.int .i64 0) (ex_assign rfl rfl) hz (fun Z2 zz kk s3x => ?_)
  replace s0 := kt kk s0
  replace s2 := kt kk s2
  clear kk hz s3x
  have hz := zz
  clear zz
  refine wpList_nil ?_
  go_upto_region 1 with fail
  refine wp_region_lit ?_
  refine vt _ (ex_move rfl (ev s0 rfl)) hz (fun A1_1 zz kk s8x => ?_)
  replace s2 := kt kk s2
  clear kk hz s0
  have hz := zz
  have s8 := s8x
  clear zz s8x
  refine vcallP (want_none rfl) (ex_call rfl (by simp only [List.map_toArray, List.map_cons, List.map_nil, (ev s8 rfl), evc] <;> rfl) rfl) (Wi.newreader_any a n c l w1 hH1 hm) rfl hz (by decide) ?_
  rintro e w2 ⟨b, ar, cr, rfl, hRS, hbb, hb2⟩
  refine ⟨_, rfl, fun A1_2 zz kk s9x => ?_⟩
  have hR2 := RD.new hRS
  have hbl := hR2.lt
  obtain ⟨qr, hqr⟩ : ∃ qr, qr = w2.heap.size := ⟨_, rfl⟩
  obtain ⟨w3, hw3⟩ : ∃ y, y = w2.alloc (.cells #[.pointer none] 102) := ⟨_, rfl⟩
  have hb23 : Below w2.heap.size w2 w3 := by rw [hw3]; exact (Below.refl _ _).alloc (Nat.le_refl _) _
  have hs2 := hb2.size
  have hs3 : w3.heap.size = w2.heap.size + 1 := by rw [hw3]; simp
  have BR0 : Bx w3 qr [.pointer none] := by rw [hw3, hqr]; exact Bx.new w2 [.pointer none] _
  have hR3 := hR2.later hb23
  have M3 := (M1.bel hb2).bel hb23
  replace s2 := kt kk s2
  clear kk hz s8
  have hz := zz
  have s9 := s9x
  clear zz s9x A1_1
  refine vt (.agg #[.pointer (some ⟨b, 0, none⟩)]) (ex_buildP rfl (by simp only [List.map_toArray, List.map_cons, List.map_nil, (ev s9 rfl)] <;> rfl) (bdRd _ _)) hz (fun A1_3 zz kk s10x => ?_)
  replace s2 := kt kk s2
  clear kk hz s9
  have hz := zz
  have s10 := s10x
  clear zz s10x A1_2
  refine vw (.pointer (some ⟨qr, 0, none⟩)) w3 (want_none rfl) (ex_al rfl (by rw [hw3, hqr]; exact alRd _)) rfl hz (by decide) (fun A1_4 zz kk s4x => ?_)
  replace s2 := kt kk s2
  replace s10 := kt kk s10
  clear kk hz
  have hz := zz
  have s4 := s4x
  clear zz s4x A1_3
  refine vs (sets w3 qr 0 [.pointer (some ⟨b, 0, none⟩)]) (want_none rfl) (ex_st rfl (ev s4 rfl) (ev s10 rfl) (BR0.st 102 [.pointer (some ⟨b, 0, none⟩)] rfl (by kernel_rfl) (by kernel_rfl))) rfl ?_
  have SP4 := BR0.put [.pointer (some ⟨b, 0, none⟩)] (Nat.le_refl _)
  obtain ⟨w4, hw4⟩ : ∃ y, y = sets w3 qr 0 [.pointer (some ⟨b, 0, none⟩)] := ⟨_, rfl⟩
  rw [← hw4] at SP4 ⊢
  have BR4 := SP4.1
  have hR4 := hR3.ub SP4.2 (fun k hk => by omega)
  have M4 := M3.upd SP4.2 (by omega)
  have hs4 := SP4.2.size
  have hs4e : w4.heap.size = w3.heap.size := by rw [hw4, size_sets]
  clear hw4 hw3
  refine wpList_nil ?_
  go_upto_region 2 with fail
  refine wp_region_lit ?_
  refine vt (.agg #[.pointer (some ⟨b, 0, none⟩)]) (ex_ld rfl (ev s4 rfl) (ldRd (BR4.cell 0 _ rfl))) hz (fun A2_1 zz kk s11x => ?_)
  replace s2 := kt kk s2
  replace s4 := kt kk s4
  clear kk hz s10
  have hz := zz
  have s11 := s11x
  clear zz s11x
  refine vcallP (want_none rfl) (ex_call rfl (by simp only [List.map_toArray, List.map_cons, List.map_nil, (ev s11 rfl), evc] <;> rfl) rfl) (rnumber_any w2.heap.size b l (0, 0) w4 hR4) rfl hz (by decide) ?_
  rintro e w5 ⟨rfl, hR5, hu5⟩
  refine ⟨_, rfl, fun A2_2 zz kk s12x => ?_⟩
  have BR5 := BR4.ub hu5 (by omega)
  have M5 := M4.upd hu5 (by omega)
  have hs5 := hu5.size
  obtain ⟨qm, hqm⟩ : ∃ qm, qm = w5.heap.size := ⟨_, rfl⟩
  obtain ⟨w6, hw6⟩ : ∃ y, y = w5.alloc (.cells (zG.cs nilS nilS).toArray 38) := ⟨_, rfl⟩
  have hb56 : Below w5.heap.size w5 w6 := by rw [hw6]; exact (Below.refl _ _).alloc (Nat.le_refl _) _
  have hs6 : w6.heap.size = w5.heap.size + 1 := by rw [hw6]; simp
  have MM6 : MBox w6 qm zG nilS nilS := by rw [hw6, hqm]; exact MBox.new0 w5
  have BR6 := BR5.later hb56
  have hR6 := hR5.later hb56
  have M6 := M5.bel hb56
  replace s2 := kt kk s2
  replace s4 := kt kk s4
  clear kk hz s11
  have hz := zz
  have s12 := s12x
  clear zz s12x A2_1
  refine vt (({ zG with k := ((rI mxI l (0, 0)) : Int) } : Mg).val nilS nilS) (ex_buildP rfl (by simp only [List.map_toArray, List.map_cons, List.map_nil, (ev s12 rfl)] <;> rfl) (bdM _ _)) hz (fun A2_3 zz kk s13x => ?_)
  replace s2 := kt kk s2
  replace s4 := kt kk s4
  clear kk hz s12
  have hz := zz
  have s13 := s13x
  clear zz s13x A2_2
  refine vw (.pointer (some ⟨qm, 0, none⟩)) w6 (want_none rfl) (ex_al rfl (by rw [hw6, hqm]; exact alM _)) rfl hz (by decide) (fun A2_4 zz kk s5x => ?_)
  replace s2 := kt kk s2
  replace s4 := kt kk s4
  replace s13 := kt kk s13
  clear kk hz
  have hz := zz
  have s5 := s5x
  clear zz s5x A2_3
  refine vs (sets w6 qm 0 (({ zG with k := ((rI mxI l (0, 0)) : Int) } : Mg).cs nilS nilS)) (want_none rfl) (ex_st rfl (ev s5 rfl) (ev s13 rfl) (stM MM6 ({ zG with k := ((rI mxI l (0, 0)) : Int) } : Mg) nilS nilS rfl rfl)) rfl ?_
  have SP7 := MM6.putU ({ zG with k := ((rI mxI l (0, 0)) : Int) } : Mg) nilS nilS
  obtain ⟨w7, hw7⟩ : ∃ y, y = sets w6 qm 0 (({ zG with k := ((rI mxI l (0, 0)) : Int) } : Mg).cs nilS nilS) := ⟨_, rfl⟩
  rw [← hw7] at SP7 ⊢
  have MM7 := SP7.1
  have hs7 : w7.heap.size = w6.heap.size := by rw [hw7, size_sets]
  clear hw7 hw6
  have BR7 := BR6.ub SP7.2 (by omega)
  have hR7 := hR6.ub SP7.2 (fun k hk => by omega)
  have M7 := M6.upd SP7.2 (by omega)
  have hB7 : Below w.heap.size w w7 := hB01.trans ((hb2.mono (by omega)).trans ((hb23.mono (by omega)).trans ((SP4.2.below (by omega) (by omega)).trans ((hu5.below (by omega) (by omega)).trans ((hb56.mono (by omega)).trans (SP7.2.below (by omega) (by omega)))))))
  refine wpList_nil ?_
  go_upto_region 3 with fail
  refine wp_region_lit ?_
  refine vt (.pointer (some ⟨qr, 0, none⟩)) (ex_fa rfl (ev s4 rfl) (by go_simp)) hz (fun A3_1 zz kk s15x => ?_)
  replace s2 := kt kk s2
  replace s4 := kt kk s4
  replace s5 := kt kk s5
  clear kk hz s13
  have hz := zz
  have s15 := s15x
  clear zz s15x
  refine vt (.pointer (some ⟨b, 0, none⟩)) (ex_ld rfl (ev s15 rfl) (ldRp (BR7.cell 0 _ rfl))) hz (fun A3_2 zz kk s16x => ?_)
  replace s2 := kt kk s2
  replace s4 := kt kk s4
  replace s5 := kt kk s5
  clear kk hz s15
  have hz := zz
  have s16 := s16x
  clear zz s16x A3_1
  refine vcallP (want_none rfl) (ex_call rfl (by simp only [List.map_toArray, List.map_cons, List.map_nil, (ev s16 rfl), evc] <;> rfl) rfl) (rd_At w2.heap.size b l (sI mxI l (0, 0)) w7 hR7) rfl hz (by decide) ?_
  rintro e w7_ ⟨rfl, hw77⟩; rw [hw77]; clear hw77 w7_
  refine ⟨_, rfl, fun A3_3 zz kk s17x => ?_⟩
  replace s2 := kt kk s2
  replace s4 := kt kk s4
  replace s5 := kt kk s5
  clear kk hz s16
  have hz := zz
  have s17 := s17x
  clear zz s17x A3_2
  refine vt (.bool (decide (((sI mxI l (0, 0)).1 : Int) = 0))) (ex_bin rfl (ev s17 rfl) rfl (eqlKd _ _ _ _ _)) hz (fun A3_4 zz kk s18x => ?_)
  replace s2 := kt kk s2
  replace s4 := kt kk s4
  replace s5 := kt kk s5
  clear kk hz s17
  have hz := zz
  have s18 := s18x
  clear zz s18x A3_3
  refine vt _ (ex_assign rfl (ev s18 rfl)) hz (fun A3_5 zz kk s14x => ?_)
  replace s2 := kt kk s2
  replace s4 := kt kk s4
  replace s5 := kt kk s5
  clear kk hz s18
  have hz := zz
  have s14 := s14x
  clear zz s14x A3_4
  refine wpList_nil ?_
  go_upto_region 5 with fail
  cases e3 : decide (((sI mxI l (0, 0)).1 : Int) = 0)
  rotate_left
  · refine wp_cond_true ((ev s14 rfl).trans (congrArg Value.bool e3)) ?_
    have hE : ¬ (sI mxI l (0, 0)).2 = 0 := (first_at l).1 (by have := of_decide_eq_true e3; omega)
    have V : rdM l = (⟨zG, [], [], (0, 0)⟩, (sI mxI l (0, 0)).2) := by unfold rdM; rw [if_pos hE]
    clear s14 e3
    go_upto_region 4 with fail
    refine wp_region_lit ?_
    refine vt (zG.val nilS nilS) (ex_build rfl (bdM0 _)) hz (fun A4_1 zz kk s19x => ?_)
    replace s2 := kt kk s2
    replace s4 := kt kk s4
    clear kk hz s5
    have hz := zz
    have s19 := s19x
    clear zz s19x
    refine vt (.pointer (some ⟨qr, 0, none⟩)) (ex_fa rfl (ev s4 rfl) (by go_simp)) hz (fun A4_2 zz kk s20x => ?_)
    replace s2 := kt kk s2
    replace s19 := kt kk s19
    clear kk hz s4
    have hz := zz
    have s20 := s20x
    clear zz s20x A4_1
    refine vt (.pointer (some ⟨b, 0, none⟩)) (ex_ld rfl (ev s20 rfl) (ldRp (BR7.cell 0 _ rfl))) hz (fun A4_3 zz kk s21x => ?_)
    replace s2 := kt kk s2
    replace s19 := kt kk s19
    clear kk hz s20
    have hz := zz
    have s21 := s21x
    clear zz s21x A4_2
    refine vcallP (want_none rfl) (ex_call rfl (by simp only [List.map_toArray, List.map_cons, List.map_nil, (ev s21 rfl), evc] <;> rfl) rfl) (rd_End w2.heap.size b l (sI mxI l (0, 0)) w7 hR7) rfl hz (by decide) ?_
    rintro e w8 ⟨rfl, hb8⟩
    refine ⟨_, rfl, fun A4_4 zz kk s22x => ?_⟩
    have M8 := M7.bel hb8
    replace s2 := kt kk s2
    replace s19 := kt kk s19
    clear kk hz s21
    have hz := zz
    have s22 := s22x
    clear zz s22x A4_3
    refine vs (sets w8 w.heap.size 0 (zG.cs nilS nilS)) (want_none rfl) (ex_st rfl (ev s2 rfl) (ev s19 rfl) (stM M8 zG nilS nilS rfl rfl)) rfl ?_
    have SP9 := M8.putU zG nilS nilS
    obtain ⟨w9, hw9⟩ : ∃ y, y = sets w8 w.heap.size 0 (zG.cs nilS nilS) := ⟨_, rfl⟩
    rw [← hw9] at SP9 ⊢
    clear hw9
    refine vt _ (ex_assign rfl (ev s22 rfl)) hz (fun A4_5 zz kk s3x => ?_)
    replace s2 := kt kk s2
    clear kk hz s19 s22
    have hz := zz
    have s3 := s3x
    clear zz s3x A4_4
    refine wpList_nil ?_
    have hfin : Below w.heap.size w w9 := (hB7.trans (hb8.mono (by omega))).trans (SP9.2.below (by have := hb8.size; omega) (by omega))
    go_wp2
    refine bodyPost_msg rfl s2 s3 SP9.1 ?_
    rw [V]
    exact ⟨_, _, by show _ = Ending.returned (.tuple #[zG.val nilS nilS, .int .i64 (sI mxI l (0, 0)).2]); rw [Wi.endErr, if_neg hE], OwnY.nil _ _ _, OwnY.nil _ _ _, hfin⟩
  refine wp_cond_false ((ev s14 rfl).trans (congrArg Value.bool e3)) ?_
  have hE : (sI mxI l (0, 0)).2 = 0 := by have h1 := (first_at l).2; have h2 := of_decide_eq_false e3; exact Classical.byContradiction (fun hn => h2 (by rw [h1 hn]; rfl))
  clear s14 e3
  go_upto_region 5 with fail
  refine wp_region_lit ?_
  refine vt (.pointer (some ⟨qm, 0, none⟩)) (ex_fa rfl (ev s5 rfl) (MBox.faKind _ _)) hz (fun A5_1 zz kk s24x => ?_)
  replace s2 := kt kk s2
  replace s4 := kt kk s4
  replace s5 := kt kk s5
  clear kk hz
  have hz := zz
  have s24 := s24x
  clear zz s24x
  refine vt (.int .i64 ((rI mxI l (0, 0)) : Int)) (ex_ld rfl (ev s24 rfl) (MM7.ldKind)) hz (fun A5_2 zz kk s25x => ?_)
  replace s2 := kt kk s2
  replace s4 := kt kk s4
  replace s5 := kt kk s5
  clear kk hz s24
  have hz := zz
  have s25 := s25x
  clear zz s25x A5_1
  refine vcallP (want_none rfl) (ex_call rfl (by simp only [List.map_toArray, List.map_cons, List.map_nil, (ev s25 rfl), evc] <;> rfl) rfl) (isKind_any ((rI mxI l (0, 0)) : Int) w7) rfl hz (by decide) ?_
  rintro e w7_ ⟨rfl, hw77⟩; rw [hw77]; clear hw77 w7_
  refine ⟨_, rfl, fun A5_3 zz kk s26x => ?_⟩
  replace s2 := kt kk s2
  replace s4 := kt kk s4
  replace s5 := kt kk s5
  clear kk hz s25
  have hz := zz
  have s26 := s26x
  clear zz s26x A5_2
  refine vt (.bool (!(kdB ((rI mxI l (0, 0)) : Int)))) (ex_not rfl (ev s26 rfl)) hz (fun A5_4 zz kk s27x => ?_)
  replace s2 := kt kk s2
  replace s4 := kt kk s4
  replace s5 := kt kk s5
  clear kk hz s26
  have hz := zz
  have s27 := s27x
  clear zz s27x A5_3
  refine vt _ (ex_assign rfl (ev s27 rfl)) hz (fun A5_5 zz kk s23x => ?_)
  replace s2 := kt kk s2
  replace s4 := kt kk s4
  replace s5 := kt kk s5
  clear kk hz s27
  have hz := zz
  have s23 := s23x
  clear zz s23x A5_4
  refine wpList_nil ?_
  go_upto_region 7 with fail
  cases e5 : !kdB ((rI mxI l (0, 0)) : Int)
  rotate_left
  · refine wp_cond_true ((ev s23 rfl).trans (congrArg Value.bool e5)) ?_
    have hK : kdB ((rI mxI l (0, 0)) : Int) = false := by simpa using e5
    have V : rdM l = (⟨zG, [], [], (0, 0)⟩, 70) := by unfold rdM; rw [if_neg (by simp [hE]), if_pos hK]
    clear s23 e5
    go_upto_region 6 with fail
    refine wp_region_lit ?_
    refine vt (zG.val nilS nilS) (ex_build rfl (bdM0 _)) hz (fun A6_1 zz kk s28x => ?_)
    replace s2 := kt kk s2
    clear kk hz s4 s5
    have hz := zz
    have s28 := s28x
    clear zz s28x
    refine vs (sets w7 w.heap.size 0 (zG.cs nilS nilS)) (want_none rfl) (ex_st rfl (ev s2 rfl) (ev s28 rfl) (stM M7 zG nilS nilS rfl rfl)) rfl ?_
    have SP9 := M7.putU zG nilS nilS
    obtain ⟨w9, hw9⟩ : ∃ y, y = sets w7 w.heap.size 0 (zG.cs nilS nilS) := ⟨_, rfl⟩
    rw [← hw9] at SP9 ⊢
    clear hw9
    refine vt (.int .i64 70) (ex_assign rfl rfl) hz (fun A6_2 zz kk s3x => ?_)
    replace s2 := kt kk s2
    clear kk hz s28
    have hz := zz
    have s3 := s3x
    clear zz s3x A6_1
    refine wpList_nil ?_
    have hfin : Below w.heap.size w w9 := hB7.trans (SP9.2.below (by omega) (by omega))
    go_wp2
    refine bodyPost_msg rfl s2 s3 SP9.1 ?_
    rw [V]
    exact ⟨_, _, rfl, OwnY.nil _ _ _, OwnY.nil _ _ _, hfin⟩
  refine wp_cond_false ((ev s23 rfl).trans (congrArg Value.bool e5)) ?_
  have hK : kdB ((rI mxI l (0, 0)) : Int) = true := by simpa using e5
  clear s23 e5
  obtain ⟨k, hk⟩ : ∃ k, k = (rI mxI l (0, 0)) := ⟨_, rfl⟩
  have hk2 : k < 15 := by have := inR_iff.1 hK; omega
  obtain ⟨x0, hx0⟩ : ∃ x0 : Rst, x0 = ⟨({ zG with k := ((rI mxI l (0, 0)) : Int) } : Mg), [], [], (sI mxI l (0, 0))⟩ := ⟨_, rfl⟩
  have V : rdM l = (rCols l k x0 10, Wi.endErr l.length (rCols l k x0 10).s.1 (rCols l k x0 10).s.2) := by unfold rdM; rw [if_neg (by simp [hE]), if_neg (by simp [hK]), hx0, hk]
  have TB7 := hT.later hB7 hT.lt
  have MS7 : MS w7 qm x0.m x0.L x0.D := by rw [hx0]; exact ⟨_, _, MM7, OwnY.nil _ _ _, OwnY.nil _ _ _⟩
  have hR7x : RD w2.heap.size w7 b l x0.s := by rw [hx0]; exact hR7
  go_upto_region 7 with fail
  refine wp_region_lit ?_
  refine vt (.pointer (some ⟨qm, 0, none⟩)) (ex_fa rfl (ev s5 rfl) (MBox.faKind _ _)) hz (fun A7_1 zz kk s29x => ?_)
  replace s2 := kt kk s2
  replace s4 := kt kk s4
  replace s5 := kt kk s5
  clear kk hz
  have hz := zz
  have s29 := s29x
  clear zz s29x
  refine vt (.int .i64 (k : Int)) (ex_ld rfl (ev s29 rfl) (MM7.ldKind.trans (by rw [hk]))) hz (fun A7_2 zz kk s30x => ?_)
  replace s2 := kt kk s2
  replace s4 := kt kk s4
  replace s5 := kt kk s5
  clear kk hz s29
  have hz := zz
  have s30 := s30x
  clear zz s30x A7_1
  refine vt (.pointer (some ⟨0, k * 10, none⟩)) (ex_ix rfl rfl (ev s30 rfl) (ixTab k hk2 _)) hz (fun A7_3 zz kk s31x => ?_)
  replace s2 := kt kk s2
  replace s4 := kt kk s4
  replace s5 := kt kk s5
  clear kk hz s30
  have hz := zz
  have s31 := s31x
  clear zz s31x A7_2
  refine vt (.agg #[.int .u8 (tabA k 0 : Int), .int .u8 (tabA k 1 : Int), .int .u8 (tabA k 2 : Int), .int .u8 (tabA k 3 : Int), .int .u8 (tabA k 4 : Int), .int .u8 (tabA k 5 : Int), .int .u8 (tabA k 6 : Int), .int .u8 (tabA k 7 : Int), .int .u8 (tabA k 8 : Int), .int .u8 (tabA k 9 : Int)]) (ex_ld rfl (ev s31 rfl) (ldRow TB7 hk2)) hz (fun A7_4 zz kk s32x => ?_)
  replace s2 := kt kk s2
  replace s4 := kt kk s4
  replace s5 := kt kk s5
  clear kk hz s31
  have hz := zz
  have s32 := s32x
  clear zz s32x A7_3
  refine vt (.int .i64 0) (ex_move rfl rfl) hz (fun A7_5 zz kk s33x => ?_)
  replace s2 := kt kk s2
  replace s4 := kt kk s4
  replace s5 := kt kk s5
  replace s32 := kt kk s32
  clear kk hz
  have hz := zz
  have s33 := s33x
  clear zz s33x A7_4
  refine wpList_nil ?_
  go_upto_region 8 with fail
  refine v_loop 33 10 (fun j T wr => T.size = 48 ∧ T[2]? = some (gw true (.pointer (some ⟨w.heap.size, 0, none⟩))) ∧ T[4]? = some (gw true (.pointer (some ⟨qr, 0, none⟩))) ∧ T[5]? = some (gw true (.pointer (some ⟨qm, 0, none⟩))) ∧ T[32]? = some (gw true (.agg #[.int .u8 (tabA k 0 : Int), .int .u8 (tabA k 1 : Int), .int .u8 (tabA k 2 : Int), .int .u8 (tabA k 3 : Int), .int .u8 (tabA k 4 : Int), .int .u8 (tabA k 5 : Int), .int .u8 (tabA k 6 : Int), .int .u8 (tabA k 7 : Int), .int .u8 (tabA k 8 : Int), .int .u8 (tabA k 9 : Int)])) ∧ T[33]? = some (gw true (.int .i64 (j : Int))) ∧ Hid (MS wr qm (rCols l k x0 j).m (rCols l k x0 j).L (rCols l k x0 j).D ∧ RD w2.heap.size wr b l (rCols l k x0 j).s ∧ U2 b qm w7 wr)) (fun j T w h => h.2.2.2.2.2.1) ⟨hz, s2, s4, s5, s32, s33, MS7, hR7x, U2.refl _ _ _⟩ ?_
  clear hz s2 s4 s5 s32 s33
  intro j R0 wr hj hh
  obtain ⟨hz, s2, s4, s5, s32, s33, HI⟩ := hh
  have hsr := HI.out.2.2.size
  have BRr := BR7.ub2 HI.out.2.2 (by omega) (by omega)
  go_upto_region 8 with fail
  refine wp_region_lit ?_
  refine vt (.bool (decide ((j : Int) < 10))) (ex_bin rfl (ev s33 rfl) rfl (lssC _ _ _ _ _)) hz (fun A8_1 zz kk s34x => ?_)
  replace s2 := kt kk s2
  replace s4 := kt kk s4
  replace s5 := kt kk s5
  replace s32 := kt kk s32
  replace s33 := kt kk s33
  clear kk hz
  have hz := zz
  have s34 := s34x
  clear zz s34x
  refine wpList_nil ?_
  go_upto_region 9 with fail
  cases e8 : decide ((j : Int) < 10)
  rotate_left
  · refine wp_cond_true ((ev s34 rfl).trans (congrArg Value.bool e8)) ?_
    have hlt : j < 10 := by have := of_decide_eq_true e8; omega
    clear s34 e8
    go_upto_region 9 with fail
    refine wp_region_lit ?_
    refine vt _ (ex_move rfl (ev s33 rfl)) hz (fun A9_1 zz kk s35x => ?_)
    replace s2 := kt kk s2
    replace s4 := kt kk s4
    replace s5 := kt kk s5
    replace s32 := kt kk s32
    replace s33 := kt kk s33
    clear kk hz
    have hz := zz
    have s35 := s35x
    clear zz s35x
    refine vt (.int .u8 (tabA k j : Int)) (ex_index rfl (ev s32 rfl) (ev s33 rfl) (rowIx k j hlt _)) hz (fun A9_2 zz kk s36x => ?_)
    replace s2 := kt kk s2
    replace s4 := kt kk s4
    replace s5 := kt kk s5
    replace s32 := kt kk s32
    replace s33 := kt kk s33
    replace s35 := kt kk s35
    clear kk hz
    have hz := zz
    have s36 := s36x
    clear zz s36x A9_1
    refine vt _ (ex_assign rfl (ev s35 rfl)) hz (fun A9_3 zz kk s6x => ?_)
    replace s2 := kt kk s2
    replace s4 := kt kk s4
    replace s5 := kt kk s5
    replace s32 := kt kk s32
    replace s33 := kt kk s33
    replace s36 := kt kk s36
    clear kk hz s35
    have hz := zz
    have s6 := s6x
    clear zz s6x A9_2
    refine vt _ (ex_assign rfl (ev s36 rfl)) hz (fun A9_4 zz kk s7x => ?_)
    replace s2 := kt kk s2
    replace s4 := kt kk s4
    replace s5 := kt kk s5
    replace s6 := kt kk s6
    replace s32 := kt kk s32
    replace s33 := kt kk s33
    clear kk hz s36
    have hz := zz
    have s7 := s7x
    clear zz s7x A9_3
    refine wpList_nil ?_
    go_upto_region 10 with fail
    refine wp_region_lit ?_
    refine vt _ (ex_move rfl (ev s7 rfl)) hz (fun A10_1 zz kk s37x => ?_)
    replace s2 := kt kk s2
    replace s4 := kt kk s4
    replace s5 := kt kk s5
    replace s6 := kt kk s6
    replace s7 := kt kk s7
    replace s32 := kt kk s32
    replace s33 := kt kk s33
    clear kk hz
    have hz := zz
    have s37 := s37x
    clear zz s37x
    refine vt (.bool (!decide ((tabA k j : Int) = 0))) (ex_bin rfl (ev s37 rfl) rfl (neqU8 _ _ _ _ _)) hz (fun A10_2 zz kk s38x => ?_)
    replace s2 := kt kk s2
    replace s4 := kt kk s4
    replace s5 := kt kk s5
    replace s6 := kt kk s6
    replace s7 := kt kk s7
    replace s32 := kt kk s32
    replace s33 := kt kk s33
    clear kk hz s37
    have hz := zz
    have s38 := s38x
    clear zz s38x A10_1
    refine wpList_nil ?_
    go_upto_region 11 with fail
    refine v_cond (fun T wr => T.size = 48 ∧ T[2]? = some (gw true (.pointer (some ⟨w.heap.size, 0, none⟩))) ∧ T[4]? = some (gw true (.pointer (some ⟨qr, 0, none⟩))) ∧ T[5]? = some (gw true (.pointer (some ⟨qm, 0, none⟩))) ∧ T[32]? = some (gw true (.agg #[.int .u8 (tabA k 0 : Int), .int .u8 (tabA k 1 : Int), .int .u8 (tabA k 2 : Int), .int .u8 (tabA k 3 : Int), .int .u8 (tabA k 4 : Int), .int .u8 (tabA k 5 : Int), .int .u8 (tabA k 6 : Int), .int .u8 (tabA k 7 : Int), .int .u8 (tabA k 8 : Int), .int .u8 (tabA k 9 : Int)])) ∧ T[33]? = some (gw true (.int .i64 (j : Int))) ∧ Hid (MS wr qm (rCols l k x0 (j + 1)).m (rCols l k x0 (j + 1)).L (rCols l k x0 (j + 1)).D ∧ RD w2.heap.size wr b l (rCols l k x0 (j + 1)).s ∧ U2 b qm w7 wr)) s38 (fun hu => ?_) (fun hu => ⟨hz, s2, s4, s5, s32, s33, by rw [rCols_none (show tabA k j = 0 by have h0 : ((tabA k j : Nat) : Int) = 0 := (by simpa using hu); omega)]; exact HI.out⟩) ?_
    · clear s38
      go_upto_region 11 with fail
      refine wp_region_lit ?_
      refine vt (.agg #[.pointer (some ⟨b, 0, none⟩)]) (ex_ld rfl (ev s4 rfl) (ldRd (BRr.cell 0 _ rfl))) hz (fun A11_1 zz kk s39x => ?_)
      replace s2 := kt kk s2
      replace s4 := kt kk s4
      replace s5 := kt kk s5
      replace s6 := kt kk s6
      replace s7 := kt kk s7
      replace s32 := kt kk s32
      replace s33 := kt kk s33
      clear kk hz
      have hz := zz
      have s39 := s39x
      clear zz s39x
      refine vt _ (ex_move rfl (ev s6 rfl)) hz (fun A11_2 zz kk s40x => ?_)
      replace s2 := kt kk s2
      replace s4 := kt kk s4
      replace s5 := kt kk s5
      replace s7 := kt kk s7
      replace s32 := kt kk s32
      replace s33 := kt kk s33
      replace s39 := kt kk s39
      clear kk hz s6
      have hz := zz
      have s40 := s40x
      clear zz s40x A11_1
      refine vt _ (ex_move rfl (ev s7 rfl)) hz (fun A11_3 zz kk s41x => ?_)
      replace s2 := kt kk s2
      replace s4 := kt kk s4
      replace s5 := kt kk s5
      replace s32 := kt kk s32
      replace s33 := kt kk s33
      replace s39 := kt kk s39
      replace s40 := kt kk s40
      clear kk hz s7
      have hz := zz
      have s41 := s41x
      clear zz s41x A11_2
      refine vcallP (want_none rfl) (ex_call rfl (by simp only [List.map_toArray, List.map_cons, List.map_nil, (ev s39 rfl), (ev s5 rfl), (ev s40 rfl), (ev s41 rfl), evc] <;> rfl) rfl) (rfield_all w2.heap.size b qm l (rCols l k x0 j) j hlt (tabA k j : Int) wr (by omega) HI.out.1 HI.out.2.1) rfl hz (by decide) ?_
      rintro e w8 ⟨rfl, hM8, hR8, hu8⟩
      refine ⟨_, rfl, fun A11_4 zz kk s42x => ?_⟩
      replace s2 := kt kk s2
      replace s4 := kt kk s4
      replace s5 := kt kk s5
      replace s32 := kt kk s32
      replace s33 := kt kk s33
      clear kk hz s39 s40 s41
      have hz := zz
      have s42 := s42x
      clear zz s42x A11_3
      refine wpList_nil ?_
      exact ⟨_, rfl, hz, s2, s4, s5, s32, s33, by rw [rCols_some (show ¬ tabA k j = 0 by intro h0; rw [h0] at hu; simp at hu)]; exact ⟨hM8, hR8, HI.out.2.2.trans hu8⟩⟩
    · clear hz s2 s4 s5 s32 s33 s38 HI BRr hsr
      intro T8 w8 hJ
      obtain ⟨hz, s2, s4, s5, s32, s33, HI⟩ := hJ
      go_upto_region 12 with fail
      refine wp_region_lit ?_
      refine vt (.int .i64 ((j + 1 : Nat) : Int)) (ex_bin rfl (ev s33 rfl) rfl (addJ j (by omega) _ _ _)) hz (fun A12_1 zz kk s43x => ?_)
      replace s2 := kt kk s2
      replace s4 := kt kk s4
      replace s5 := kt kk s5
      replace s32 := kt kk s32
      replace s33 := kt kk s33
      clear kk hz
      have hz := zz
      have s43 := s43x
      clear zz s43x
      refine vt _ (ex_move rfl (ev s43 rfl)) hz (fun A12_2 zz kk s33x => ?_)
      replace s2 := kt kk s2
      replace s4 := kt kk s4
      replace s5 := kt kk s5
      replace s32 := kt kk s32
      clear kk hz s43 s33
      have hz := zz
      have s33 := s33x
      clear zz s33x A12_1
      refine wpList_nil ?_
      exact ⟨_, rfl, by omega, hz, s2, s4, s5, s32, s33, HI.out⟩
  refine wp_cond_false ((ev s34 rfl).trans (congrArg Value.bool e8)) ?_
  have hj10 : j = 10 := by have := of_decide_eq_false e8; omega
  subst hj10
  clear s34 e8 s32 s33 hj
  obtain ⟨vs_, vt_, MMr, OLr, ODr⟩ := HI.out.1
  have M0r := M7.upd HI.out.2.2 (by omega)
  obtain ⟨av, cv, rfl, _⟩ := OLr.form
  obtain ⟨at_, ct, rfl, _⟩ := ODr.form
  go_upto_region 13 with fail
  refine vh_start (fun v => U2 b w.heap.size wr v) (by kernel_rfl) ?_
  have hS : U2 b w.heap.size wr wr.drew := U2.b (UB.of_below (Below.refl _ _).drew)
  have hRd := HI.out.2.1.later (Below.refl _ _).drew
  refine vh_take 0 true ((rCols l k x0 10).m.val (.slice av (rCols l k x0 10).L.length cv) (.slice at_ (rCols l k x0 10).D.length ct)) rfl (by kernel_rfl) (by kernel_rfl) (by kernel_rfl) (want_none rfl) (fun hc v hv => ex_ld rfl (ev s5 rfl) ((MMr.upd hv (by omega)).ldAll)) rfl hz (by decide) hS (fun A13_1 zz kk s44x => ?_)
  replace s2 := kt kk s2
  replace s4 := kt kk s4
  clear kk hz s5
  have hz := zz
  have s44 := s44x
  clear zz s44x
  refine vh_take 1 true (.pointer (some ⟨qr, 0, none⟩)) rfl (by kernel_rfl) (by kernel_rfl) (by kernel_rfl) (want_none rfl) (fun hc v hv => ex_fa rfl (ev s4 rfl) (by go_simp)) rfl hz (by decide) hS (fun A13_2 zz kk s45x => ?_)
  replace s2 := kt kk s2
  replace s44 := kt kk s44
  clear kk hz s4
  have hz := zz
  have s45 := s45x
  clear zz s45x A13_1
  refine vh_take 2 true (.pointer (some ⟨b, 0, none⟩)) rfl (by kernel_rfl) (by kernel_rfl) (by kernel_rfl) (want_none rfl) (fun hc v hv => ex_ld rfl (ev s45 rfl) (ldRp ((BRr.ub2 hv (by omega) (by omega)).cell 0 _ rfl))) rfl hz (by decide) hS (fun A13_3 zz kk s46x => ?_)
  replace s2 := kt kk s2
  replace s44 := kt kk s44
  clear kk hz s45
  have hz := zz
  have s46 := s46x
  clear zz s46x A13_2
  refine vh_call 3 rfl (by kernel_rfl) (want_none rfl) (ex_call rfl (by simp only [List.map_toArray, List.map_cons, List.map_nil, (ev s46 rfl), evc] <;> rfl) rfl) (rd_End w2.heap.size b l (rCols l k x0 10).s wr.drew hRd) rfl hz (by decide) ?_
  rintro e w8 ⟨rfl, hb8⟩
  refine ⟨_, rfl, (hS.trans (U2.b (UB.of_below hb8))), fun A13_4 zz kk s47x => ?_⟩
  have hb8r : Below wr.heap.size wr w8 := (Below.refl _ _).drew.trans hb8
  have hS8 : U2 b w.heap.size wr w8 := U2.b (UB.of_below hb8r)
  have M8 := M0r.bel hb8r
  have hs8 := hb8r.size
  replace s2 := kt kk s2
  replace s44 := kt kk s44
  clear kk hz s46
  have hz := zz
  have s47 := s47x
  clear zz s47x A13_3
  refine vh_store 4 (sets w8 w.heap.size 0 ((rCols l k x0 10).m.cs (.slice av (rCols l k x0 10).L.length cv) (.slice at_ (rCols l k x0 10).D.length ct))) rfl (by kernel_rfl) (want_none rfl) (ex_st rfl (ev s2 rfl) (ev s44 rfl) (stM M8 (rCols l k x0 10).m (.slice av (rCols l k x0 10).L.length cv) (.slice at_ (rCols l k x0 10).D.length ct) rfl rfl)) rfl (hS8.trans (U2.q (M8.putU (rCols l k x0 10).m (.slice av (rCols l k x0 10).L.length cv) (.slice at_ (rCols l k x0 10).D.length ct)).2)) ?_
  have SP9 := M8.putU (rCols l k x0 10).m (.slice av (rCols l k x0 10).L.length cv) (.slice at_ (rCols l k x0 10).D.length ct)
  obtain ⟨w9, hw9⟩ : ∃ y, y = sets w8 w.heap.size 0 ((rCols l k x0 10).m.cs (.slice av (rCols l k x0 10).L.length cv) (.slice at_ (rCols l k x0 10).D.length ct)) := ⟨_, rfl⟩
  rw [← hw9] at SP9 ⊢
  clear hw9
  have hS9 : U2 b w.heap.size wr w9 := hS8.trans (U2.q SP9.2)
  refine vh_take 5 true (.int .i64 (Wi.endErr l.length (rCols l k x0 10).s.1 (rCols l k x0 10).s.2)) rfl (by kernel_rfl) (by kernel_rfl) (by kernel_rfl) (want_none rfl) (fun hc v hv => ex_assign rfl (ev s47 rfl)) rfl hz (by decide) hS9 (fun A13_5 zz kk s3x => ?_)
  replace s2 := kt kk s2
  clear kk hz s44 s47
  have hz := zz
  have s3 := s3x
  clear zz s3x A13_4
  refine vh_done (by kernel_rfl) ?_
  have hsr2 := HI.out.2.2.size
  have hfin : Below w.heap.size w w9 := hB7.trans ((Upd.below HI.out.2.2 (by omega) (fun k hk => by omega)).trans ((hb8r.mono (by omega)).trans (SP9.2.below (by omega) (by omega))))
  have OL9 := ((OLr.later8 hb8r).far SP9.2 (fun k hk => by omega)).low (show w.heap.size ≤ qm + 1 by omega)
  have OD9 := ((ODr.later8 hb8r).far SP9.2 (fun k hk => by omega)).low (show w.heap.size ≤ qm + 1 by omega)
  go_wp2
  refine bodyPost_msg rfl s2 s3 SP9.1 ?_
  rw [V]
  exact ⟨_, _, rfl, OL9, OD9, hfin⟩
def dcM (c : Cf) (f : List Int) : Rst × Int :=
  if cfB c = false then (⟨zG, [], [], (0, 0)⟩, 1)
  else if ¬ Wi.opErr f = 0 then (⟨zG, [], [], (0, 0)⟩, Wi.opErr f)
  else if ¬ (rdM (Wi.opBody f)).2 = 0 then (⟨zG, [], [], (0, 0)⟩, (rdM (Wi.opBody f)).2)
  else if ¬ ckM c (rdM (Wi.opBody f)).1.m (rdM (Wi.opBody f)).1.L (rdM (Wi.opBody f)).1.D = 0 then (⟨zG, [], [], (0, 0)⟩, ckM c (rdM (Wi.opBody f)).1.m (rdM (Wi.opBody f)).1.L (rdM (Wi.opBody f)).1.D)
  else ((rdM (Wi.opBody f)).1, 0)
theorem op_byte {f : List Int} (h : ∀ z ∈ f, 0 ≤ z ∧ z < 256) : ∀ z ∈ Wi.opBody f, 0 ≤ z ∧ z < 256 := by
  intro z hz
  unfold Wi.opBody at hz
  split at hz
  · exact h z (List.mem_of_mem_drop (List.mem_of_mem_take hz))
  · cases hz
theorem op_len (f : List Int) : (Wi.opBody f).length ≤ f.length := by
  unfold Wi.opBody
  split
  · simp; omega
  · simp
theorem rI_wf (l : List Int) (s : Nat × Int) : (Lit.int .i64 (rI mxI l s : Int)).wf = true := by
  have h : rI ((9223372036854775807 : Nat) : Int) l s ≤ 9223372036854775807 := rI_le 9223372036854775807 (Nat.le_refl _) l s
  have h2 : rI mxI l s ≤ 9223372036854775807 := h
  exact wf_i64 (by omega)
theorem fits_none : (⟨0, 0, ⟨#[]⟩⟩ : Opn).fits := ⟨by dsimp only; decide, by dsimp only; decide, by dsimp only; unfold maxLen; decide⟩
theorem str_sz (l : List Int) : (strOfNums l).size = l.length := by
  show (strOfNums l).data.size = _
  simp [strOfNums]
theorem rT_le (l : List Int) (s : Nat × Int) : (rT l s).size ≤ 64 := by
  unfold rT
  rw [str_sz]
  unfold Wi.selL
  split
  · unfold Wi.ttList
    split
    · have h : Wi.tcVal (64 : Nat) (l.drop s.1) ≤ 64 := by
        have := rI_le 64 (by decide) (l.drop s.1) (0, 0)
        unfold rI at this
        rw [Wi.sel_ok] at this
        simpa using this
      rw [List.length_take]
      exact Nat.le_trans (Nat.min_le_left _ _) h
    · simp
  · simp
theorem rO_fits (l : List Int) (s : Nat × Int) : (rO l s).fits := ⟨rI_wf _ _, rI_wf _ _, Nat.le_trans (rT_le _ _) (by unfold maxLen; omega)⟩
theorem rE_fits (l : List Int) (s : Nat × Int) : (rE l s).fits := ⟨rI_wf _ _, rI_wf _ _, rO_fits _ _⟩
theorem rCol_fits (l : List Int) (x : Rst) (j : Nat) (op : Bool) (h : (∀ e ∈ x.L, e.fits) ∧ x.m.e.fits) : (∀ e ∈ (rCol l x j op).L, e.fits) ∧ (rCol l x j op).m.e.fits := by
  unfold rCol
  split
  case h_7 =>
    split
    · exact ⟨h.1, rE_fits _ _⟩
    · exact ⟨h.1, rI_wf _ _, rI_wf _ _, fits_none⟩
  case h_9 =>
    refine ⟨fun e he => ?_, h.2⟩
    simp only [esL, List.mem_map] at he
    obtain ⟨i, _, rfl⟩ := he
    exact rE_fits _ _
  all_goals exact h
theorem rCols_fits (l : List Int) (k : Nat) (x : Rst) (h : (∀ e ∈ x.L, e.fits) ∧ x.m.e.fits) : ∀ j, (∀ e ∈ (rCols l k x j).L, e.fits) ∧ (rCols l k x j).m.e.fits
  | 0 => h
  | j + 1 => by
    unfold rCols
    split
    · exact rCols_fits l k x h j
    · exact rCol_fits _ _ _ _ (rCols_fits l k x h j)
theorem zG_fits : zG.e.fits := ⟨by decide, by decide, by decide, by decide, by unfold maxLen; decide⟩
theorem rdM_fits (l : List Int) : (∀ e ∈ (rdM l).1.L, e.fits) ∧ (rdM l).1.m.e.fits := by
  unfold rdM
  split
  · exact ⟨(fun e he => by cases he), zG_fits⟩
  · split
    · exact ⟨(fun e he => by cases he), zG_fits⟩
    · exact rCols_fits _ _ _ ⟨(fun e he => by cases he), zG_fits⟩ 10
theorem rdM_L (l : List Int) : ∀ e ∈ (rdM l).1.L, e.fits := (rdM_fits l).1
theorem rdM_e (l : List Int) : (rdM l).1.m.e.fits := (rdM_fits l).2
theorem OwnY.far6 {α : Type} {Y : Lay α} {B q : Nat} {w w1 w2 : World} {v : Value} {l : List α} (h : OwnY Y B w1 v l) (h0 : OwnY Y B w v l) (u : UB q w1 w2) (hq : q = w.heap.size) : OwnY Y B w2 v l :=
  h.upd1 u (fun g hg he => by have := (World.ownsRow.lt h0 g hg).2; omega)
theorem ex_box {o : Oper} {ρ : Operand → Value} {s : TypeId} {x : Operand} {X V : Value} {w w' : World} (ho : o.op = .box s x) (hx : ρ x = X) (hr : (Instr.box s X).run Tryd.prog w = .ok V w') : (execOp ρ o).run Tryd.prog w = .ok (.value V) w' := by
  unfold execOp
  simp only [ho, hx, Sem.run_bind, hr, Result.andThen_ok]
  rfl
theorem bxCf (f r p : Int) (u : Bool) (w : World) : (Instr.box 23 (.agg #[.int .i64 f, .int .i64 r, .int .i64 p, .bool u])).run Tryd.prog w = .ok (.pointer (some ⟨w.heap.size, 0, none⟩)) (w.alloc (.cells #[.int .i64 f, .int .i64 r, .int .i64 p, .bool u] 23)) := by
  go_simp
  first | done | rfl
set_option maxRecDepth 100000 in
set_option maxHeartbeats 8000000 in
theorem decode_any (c : Cf) (a : Option Addr) (n c_ : Nat) (f : List Int) (w : World) (hH : Wi.Hs w a n c_ f) (hm : n ≤ 140737488355328) (hT : Tab w) :
    Calls Tryd.prog 10 #[c.val, .slice a n c_] w fun e w' => ∃ s t, e = .returned (.tuple #[(dcM c f).1.m.val s t, .int .i64 (dcM c f).2]) ∧ OwnY yE w.heap.size w' s (dcM c f).1.L ∧ OwnY yD w.heap.size w' t (dcM c f).1.D ∧ Below w.heap.size w w' := by
  go_enter Tryd.func10, Tryd.ntmps10
  go_upto_region 0 with fail
  refine wp_region_lit ?_
  refine vl_gen (fun T => T.size = 40 ∧ T[0]? = some (gw true (.agg #[.int .i64 c.f, .int .i64 c.r, .int .i64 c.p, .bool c.u])) ∧ T[1]? = some (gw true (.slice a n c_))) ⟨rfl, rfl, rfl⟩ (fun Z0 ⟨hz, s0, s1⟩ => ?_)
  obtain ⟨w0, hw0⟩ : ∃ w0, w0 = w.alloc (.cells #[.int .i64 c.f, .int .i64 c.r, .int .i64 c.p, .bool c.u] 23) := ⟨_, rfl⟩
  have hB0 : Below w.heap.size w w0 := by rw [hw0]; exact (Below.refl _ _).alloc (Nat.le_refl _) _
  have hs0 : w0.heap.size = w.heap.size + 1 := by rw [hw0]; simp
  have C0 : CfB w0 w.heap.size c := ⟨by omega, fun i x hx => by rw [hw0]; exact cell_box _ _ _ _ _ (by simpa using hx)⟩
  refine vw (.pointer (some ⟨w.heap.size, 0, none⟩)) w0 (want_none rfl) (ex_box rfl (ev s0 rfl) (by rw [hw0]; exact bxCf _ _ _ _ _)) rfl hz (by decide) (fun Z1 zz kk s2x => ?_)
  replace s1 := kt kk s1
  clear kk hz hw0 s0
  have hz := zz
  have s2 := s2x
  clear zz s2x
  obtain ⟨w1, hw1⟩ : ∃ w1, w1 = w0.alloc (.cells (zG.cs nilS nilS).toArray 38) := ⟨_, rfl⟩
  have hb01 : Below w0.heap.size w0 w1 := by rw [hw1]; exact (Below.refl _ _).alloc (Nat.le_refl _) _
  have hs1 : w1.heap.size = w0.heap.size + 1 := by rw [hw1]; simp
  have M1 : MBox w1 (w.heap.size + 1) zG nilS nilS := by rw [hw1, ← hs0]; exact MBox.new0 w0
  have C1 := C0.bel hb01
  have hB1 := hB0.trans (hb01.mono hB0.size)
  refine vw (.pointer (some ⟨w.heap.size + 1, 0, none⟩)) w1 (want_none rfl) (ex_al rfl (by rw [hw1, ← hs0]; exact alM _)) rfl hz (by decide) (fun Z2 zz kk s4x => ?_)
  replace s1 := kt kk s1
  replace s2 := kt kk s2
  clear kk hz hw1
  have hz := zz
  have s4 := s4x
  clear zz s4x
  refine vt (.int .i64 0) (ex_assign rfl rfl) hz (fun Z3 zz kk s5x => ?_)
  replace s1 := kt kk s1
  replace s2 := kt kk s2
  replace s4 := kt kk s4
  clear kk hz s5x
  have hz := zz
  clear zz
  refine wpList_nil ?_
  go_upto_region 1 with fail
  refine wp_region_lit ?_
  refine vt (.agg #[.int .i64 c.f, .int .i64 c.r, .int .i64 c.p, .bool c.u]) (ex_ld rfl (ev s2 rfl) ((C1).ldAll)) hz (fun A1_1 zz kk s10x => ?_)
  replace s1 := kt kk s1
  replace s2 := kt kk s2
  replace s4 := kt kk s4
  clear kk hz
  have hz := zz
  have s10 := s10x
  clear zz s10x
  refine vcallP (want_none rfl) (ex_call rfl (by simp only [List.map_toArray, List.map_cons, List.map_nil, (ev s10 rfl), evc] <;> rfl) rfl) (configMayBe_any c w1) rfl hz (by decide) ?_
  rintro e w2 ⟨rfl, hb2⟩
  refine ⟨_, rfl, fun A1_2 zz kk s11x => ?_⟩
  have M2 := M1.bel hb2
  have C2 := C1.bel hb2
  have hB2 := hB1.trans (hb2.mono hB1.size)
  replace s1 := kt kk s1
  replace s2 := kt kk s2
  replace s4 := kt kk s4
  clear kk hz s10
  have hz := zz
  have s11 := s11x
  clear zz s11x A1_1
  refine vt (.bool (!(cfB c))) (ex_not rfl (ev s11 rfl)) hz (fun A1_3 zz kk s12x => ?_)
  replace s1 := kt kk s1
  replace s2 := kt kk s2
  replace s4 := kt kk s4
  clear kk hz s11
  have hz := zz
  have s12 := s12x
  clear zz s12x A1_2
  refine wpList_nil ?_
  go_upto_region 3 with fail
  cases e1 : !cfB c
  rotate_left
  · refine wp_cond_true ((ev s12 rfl).trans (congrArg Value.bool e1)) ?_
    have hn : cfB c = false := by simpa using e1
    have VV : dcM c f = (⟨zG, [], [], (0, 0)⟩, 1) := by unfold dcM; rw [if_pos hn]
    clear s1 s2 s12
    go_upto_region 2 with fail
    refine wp_region_lit ?_
    refine vt (zG.val nilS nilS) (ex_build rfl (bdM0 _)) hz (fun A2_1 zz kk s13x => ?_)
    replace s4 := kt kk s4
    clear kk hz
    have hz := zz
    have s13 := s13x
    clear zz s13x
    refine vs (sets w2 (w.heap.size + 1) 0 (zG.cs nilS nilS)) (want_none rfl) (ex_st rfl (ev s4 rfl) (ev s13 rfl) (stM M2 zG nilS nilS rfl rfl)) rfl ?_
    have SP := M2.putU zG nilS nilS
    obtain ⟨we, hwe⟩ : ∃ y, y = sets w2 (w.heap.size + 1) 0 (zG.cs nilS nilS) := ⟨_, rfl⟩
    rw [← hwe] at SP ⊢
    clear hwe
    refine vt (.int .i64 1) (ex_assign rfl rfl) hz (fun A2_2 zz kk s5x => ?_)
    replace s4 := kt kk s4
    clear kk hz s13
    have hz := zz
    have s5 := s5x
    clear zz s5x A2_1
    refine wpList_nil ?_
    have hfin : Below w.heap.size w we := hB2.trans (SP.2.below (by have := (hB2).size; omega) (by omega))
    go_wp2
    refine bodyPost_msg rfl s4 s5 SP.1 ?_
    rw [VV]
    exact ⟨_, _, rfl, OwnY.nil _ _ _, OwnY.nil _ _ _, hfin⟩
  refine wp_cond_false ((ev s12 rfl).trans (congrArg Value.bool e1)) ?_
  have hcf : cfB c = true := by simpa using e1
  clear s12 e1
  go_upto_region 3 with fail
  refine wp_region_lit ?_
  refine vt _ (ex_move rfl (ev s1 rfl)) hz (fun A3_1 zz kk s15x => ?_)
  replace s2 := kt kk s2
  replace s4 := kt kk s4
  clear kk hz s1
  have hz := zz
  have s15 := s15x
  clear zz s15x
  refine vcallP (want_none rfl) (ex_call rfl (by simp only [List.map_toArray, List.map_cons, List.map_nil, (ev s15 rfl), evc] <;> rfl) rfl) (Wi.open_any a n c_ f w2 (hH.later hB2)) rfl hz (by decide) ?_
  rintro e w3 ⟨vo, rfl, Oo, hb3⟩
  refine ⟨_, rfl, fun A3_2 zz kk s16x => ?_⟩
  have M3 := M2.bel hb3
  have C3 := C2.bel hb3
  have hB3 := hB2.trans (hb3.mono hB2.size)
  replace s2 := kt kk s2
  replace s4 := kt kk s4
  clear kk hz s15
  have hz := zz
  have s16 := s16x
  clear zz s16x A3_1
  refine vt _ (ex_move rfl (ev s16 rfl)) hz (fun A3_3 zz kk s14x => ?_)
  replace s2 := kt kk s2
  replace s4 := kt kk s4
  clear kk hz s16
  have hz := zz
  have s14 := s14x
  clear zz s14x A3_2
  refine vt (vo) (ex_ext rfl (ev s14 rfl) rfl) hz (fun A3_4 zz kk s17x => ?_)
  replace s2 := kt kk s2
  replace s4 := kt kk s4
  replace s14 := kt kk s14
  clear kk hz
  have hz := zz
  have s17 := s17x
  clear zz s17x A3_3
  refine vt (.int .i64 (Wi.opErr f)) (ex_ext rfl (ev s14 rfl) rfl) hz (fun A3_5 zz kk s18x => ?_)
  replace s2 := kt kk s2
  replace s4 := kt kk s4
  replace s17 := kt kk s17
  clear kk hz s14
  have hz := zz
  have s18 := s18x
  clear zz s18x A3_4
  refine vt _ (ex_assign rfl (ev s17 rfl)) hz (fun A3_6 zz kk s6x => ?_)
  replace s2 := kt kk s2
  replace s4 := kt kk s4
  replace s18 := kt kk s18
  clear kk hz s17
  have hz := zz
  have s6 := s6x
  clear zz s6x A3_5
  refine vt _ (ex_assign rfl (ev s18 rfl)) hz (fun A3_7 zz kk s7x => ?_)
  replace s2 := kt kk s2
  replace s4 := kt kk s4
  replace s6 := kt kk s6
  clear kk hz s18
  have hz := zz
  have s7 := s7x
  clear zz s7x A3_6
  refine wpList_nil ?_
  go_upto_region 4 with fail
  refine wp_region_lit ?_
  refine vt _ (ex_move rfl (ev s7 rfl)) hz (fun A4_1 zz kk s19x => ?_)
  replace s2 := kt kk s2
  replace s4 := kt kk s4
  replace s6 := kt kk s6
  replace s7 := kt kk s7
  clear kk hz
  have hz := zz
  have s19 := s19x
  clear zz s19x
  refine vt (.bool (!decide ((Wi.opErr f) = 0))) (ex_bin rfl (ev s19 rfl) rfl (neqEr _ _ _ _ _)) hz (fun A4_2 zz kk s20x => ?_)
  replace s2 := kt kk s2
  replace s4 := kt kk s4
  replace s6 := kt kk s6
  replace s7 := kt kk s7
  clear kk hz s19
  have hz := zz
  have s20 := s20x
  clear zz s20x A4_1
  refine wpList_nil ?_
  go_upto_region 6 with fail
  cases e4 : !decide (Wi.opErr f = 0)
  rotate_left
  · refine wp_cond_true ((ev s20 rfl).trans (congrArg Value.bool e4)) ?_
    have hn : ¬ Wi.opErr f = 0 := by simpa using e4
    have VV : dcM c f = (⟨zG, [], [], (0, 0)⟩, Wi.opErr f) := by unfold dcM; rw [if_neg (by simp [hcf]), if_pos hn]
    clear s2 s6 s20
    go_upto_region 5 with fail
    refine wp_region_lit ?_
    refine vt (zG.val nilS nilS) (ex_build rfl (bdM0 _)) hz (fun A5_1 zz kk s21x => ?_)
    replace s4 := kt kk s4
    replace s7 := kt kk s7
    clear kk hz
    have hz := zz
    have s21 := s21x
    clear zz s21x
    refine vt _ (ex_move rfl (ev s7 rfl)) hz (fun A5_2 zz kk s22x => ?_)
    replace s4 := kt kk s4
    replace s21 := kt kk s21
    clear kk hz s7
    have hz := zz
    have s22 := s22x
    clear zz s22x A5_1
    refine vs (sets w3 (w.heap.size + 1) 0 (zG.cs nilS nilS)) (want_none rfl) (ex_st rfl (ev s4 rfl) (ev s21 rfl) (stM M3 zG nilS nilS rfl rfl)) rfl ?_
    have SP := M3.putU zG nilS nilS
    obtain ⟨we, hwe⟩ : ∃ y, y = sets w3 (w.heap.size + 1) 0 (zG.cs nilS nilS) := ⟨_, rfl⟩
    rw [← hwe] at SP ⊢
    clear hwe
    refine vt _ (ex_assign rfl (ev s22 rfl)) hz (fun A5_3 zz kk s5x => ?_)
    replace s4 := kt kk s4
    clear kk hz s21 s22
    have hz := zz
    have s5 := s5x
    clear zz s5x A5_2
    refine wpList_nil ?_
    have hfin : Below w.heap.size w we := hB3.trans (SP.2.below (by have := (hB3).size; omega) (by omega))
    go_wp2
    refine bodyPost_msg rfl s4 s5 SP.1 ?_
    rw [VV]
    exact ⟨_, _, rfl, OwnY.nil _ _ _, OwnY.nil _ _ _, hfin⟩
  refine wp_cond_false ((ev s20 rfl).trans (congrArg Value.bool e4)) ?_
  have hop : Wi.opErr f = 0 := by simpa using e4
  clear s20 e4 s7
  obtain ⟨ao, no, co, rfl, hso, _⟩ := Oo.hs (op_byte hH.byte)
  have hno : no ≤ 140737488355328 := by have h1 := hso.len; have h2 := op_len f; have h3 := hH.len; omega
  go_upto_region 6 with fail
  refine wp_region_lit ?_
  refine vt _ (ex_move rfl (ev s6 rfl)) hz (fun A6_1 zz kk s24x => ?_)
  replace s2 := kt kk s2
  replace s4 := kt kk s4
  clear kk hz s6
  have hz := zz
  have s24 := s24x
  clear zz s24x
  refine vcallP (want_none rfl) (ex_call rfl (by simp only [List.map_toArray, List.map_cons, List.map_nil, (ev s24 rfl), evc] <;> rfl) rfl) (readM_any ao no co (Wi.opBody f) w3 hso hno (hT.later hB3 hT.lt)) rfl hz (by decide) ?_
  rintro e w4 ⟨vs_, vt_, rfl, OL, OD, hb4⟩; obtain ⟨sa, sc, rfl, _⟩ := OL.form; obtain ⟨ta, tc, rfl, _⟩ := OD.form
  refine ⟨_, rfl, fun A6_2 zz kk s25x => ?_⟩
  have M4 := M3.bel hb4
  have C4 := C3.bel hb4
  have hB4 := hB3.trans (hb4.mono hB3.size)
  obtain ⟨qm, hqm⟩ : ∃ qm, qm = w4.heap.size := ⟨_, rfl⟩
  obtain ⟨w5, hw5⟩ : ∃ y, y = w4.alloc (.cells (zG.cs nilS nilS).toArray 38) := ⟨_, rfl⟩
  have hb45 : Below w4.heap.size w4 w5 := by rw [hw5]; exact (Below.refl _ _).alloc (Nat.le_refl _) _
  have hs5 : w5.heap.size = w4.heap.size + 1 := by rw [hw5]; simp
  have MM5 : MBox w5 qm zG nilS nilS := by rw [hw5, hqm]; exact MBox.new0 w4
  have M5 := M4.bel hb45
  have C5 := C4.bel hb45
  have hsz1 := hB1.size
  have hs34 := hb4.size
  have hs23 := hb3.size
  have hs12 := hb2.size
  have hM1lt := M1.lt
  replace s2 := kt kk s2
  replace s4 := kt kk s4
  clear kk hz s24
  have hz := zz
  have s25 := s25x
  clear zz s25x A6_1
  refine vt _ (ex_move rfl (ev s25 rfl)) hz (fun A6_3 zz kk s23x => ?_)
  replace s2 := kt kk s2
  replace s4 := kt kk s4
  clear kk hz s25
  have hz := zz
  have s23 := s23x
  clear zz s23x A6_2
  refine vt ((rdM (Wi.opBody f)).1.m.val (.slice sa (rdM (Wi.opBody f)).1.L.length sc) (.slice ta (rdM (Wi.opBody f)).1.D.length tc)) (ex_ext rfl (ev s23 rfl) rfl) hz (fun A6_4 zz kk s26x => ?_)
  replace s2 := kt kk s2
  replace s4 := kt kk s4
  replace s23 := kt kk s23
  clear kk hz
  have hz := zz
  have s26 := s26x
  clear zz s26x A6_3
  refine vt (.int .i64 (rdM (Wi.opBody f)).2) (ex_ext rfl (ev s23 rfl) rfl) hz (fun A6_5 zz kk s27x => ?_)
  replace s2 := kt kk s2
  replace s4 := kt kk s4
  replace s26 := kt kk s26
  clear kk hz s23
  have hz := zz
  have s27 := s27x
  clear zz s27x A6_4
  refine vw (.pointer (some ⟨qm, 0, none⟩)) w5 (want_none rfl) (ex_al rfl (by rw [hw5, hqm]; exact alM _)) rfl hz (by decide) (fun A6_6 zz kk s8x => ?_)
  replace s2 := kt kk s2
  replace s4 := kt kk s4
  replace s26 := kt kk s26
  replace s27 := kt kk s27
  clear kk hz
  have hz := zz
  have s8 := s8x
  clear zz s8x A6_5
  refine vs (sets w5 qm 0 ((rdM (Wi.opBody f)).1.m.cs (.slice sa (rdM (Wi.opBody f)).1.L.length sc) (.slice ta (rdM (Wi.opBody f)).1.D.length tc))) (want_none rfl) (ex_st rfl (ev s8 rfl) (ev s26 rfl) (stM MM5 (rdM (Wi.opBody f)).1.m (.slice sa (rdM (Wi.opBody f)).1.L.length sc) (.slice ta (rdM (Wi.opBody f)).1.D.length tc) rfl rfl)) rfl ?_
  have SP6 := MM5.putU (rdM (Wi.opBody f)).1.m (.slice sa (rdM (Wi.opBody f)).1.L.length sc) (.slice ta (rdM (Wi.opBody f)).1.D.length tc)
  obtain ⟨w6, hw6⟩ : ∃ y, y = sets w5 qm 0 ((rdM (Wi.opBody f)).1.m.cs (.slice sa (rdM (Wi.opBody f)).1.L.length sc) (.slice ta (rdM (Wi.opBody f)).1.D.length tc)) := ⟨_, rfl⟩
  rw [← hw6] at SP6 ⊢
  have hs6 : w6.heap.size = w5.heap.size := by rw [hw6, size_sets]
  clear hw6 hw5
  have M6 := M5.upd SP6.2 (by omega)
  have C6 : CfB w6 w.heap.size c := ⟨by omega, fun i x hx => (SP6.2.cell (p := ⟨w.heap.size, i, none⟩) C5.lt (by show ¬ w.heap.size = qm; omega)).trans (C5.cell i x hx)⟩
  have hB6 : Below w.heap.size w w6 := hB4.trans ((hb45.mono hB4.size).trans (SP6.2.below (by omega) (by omega)))
  have OL6 := (OL.later8 hb45).far6 OL SP6.2 hqm
  have OD6 := (OD.later8 hb45).far6 OD SP6.2 hqm
  refine vt _ (ex_assign rfl (ev s27 rfl)) hz (fun A6_7 zz kk s7x => ?_)
  replace s2 := kt kk s2
  replace s4 := kt kk s4
  replace s8 := kt kk s8
  clear kk hz s26 s27
  have hz := zz
  have s7 := s7x
  clear zz s7x A6_6
  refine wpList_nil ?_
  go_upto_region 7 with fail
  refine wp_region_lit ?_
  refine vt _ (ex_move rfl (ev s7 rfl)) hz (fun A7_1 zz kk s28x => ?_)
  replace s2 := kt kk s2
  replace s4 := kt kk s4
  replace s7 := kt kk s7
  replace s8 := kt kk s8
  clear kk hz
  have hz := zz
  have s28 := s28x
  clear zz s28x
  refine vt (.bool (!decide ((rdM (Wi.opBody f)).2 = 0))) (ex_bin rfl (ev s28 rfl) rfl (neqEr _ _ _ _ _)) hz (fun A7_2 zz kk s29x => ?_)
  replace s2 := kt kk s2
  replace s4 := kt kk s4
  replace s7 := kt kk s7
  replace s8 := kt kk s8
  clear kk hz s28
  have hz := zz
  have s29 := s29x
  clear zz s29x A7_1
  refine wpList_nil ?_
  go_upto_region 9 with fail
  cases e7 : !decide ((rdM (Wi.opBody f)).2 = 0)
  rotate_left
  · refine wp_cond_true ((ev s29 rfl).trans (congrArg Value.bool e7)) ?_
    have hn : ¬ (rdM (Wi.opBody f)).2 = 0 := by simpa using e7
    have VV : dcM c f = (⟨zG, [], [], (0, 0)⟩, (rdM (Wi.opBody f)).2) := by unfold dcM; rw [if_neg (by simp [hcf]), if_neg (by simp [hop]), if_pos hn]
    clear s2 s8 s29
    go_upto_region 8 with fail
    refine wp_region_lit ?_
    refine vt (zG.val nilS nilS) (ex_build rfl (bdM0 _)) hz (fun A8_1 zz kk s30x => ?_)
    replace s4 := kt kk s4
    replace s7 := kt kk s7
    clear kk hz
    have hz := zz
    have s30 := s30x
    clear zz s30x
    refine vt _ (ex_move rfl (ev s7 rfl)) hz (fun A8_2 zz kk s31x => ?_)
    replace s4 := kt kk s4
    replace s30 := kt kk s30
    clear kk hz s7
    have hz := zz
    have s31 := s31x
    clear zz s31x A8_1
    refine vs (sets w6 (w.heap.size + 1) 0 (zG.cs nilS nilS)) (want_none rfl) (ex_st rfl (ev s4 rfl) (ev s30 rfl) (stM M6 zG nilS nilS rfl rfl)) rfl ?_
    have SP := M6.putU zG nilS nilS
    obtain ⟨we, hwe⟩ : ∃ y, y = sets w6 (w.heap.size + 1) 0 (zG.cs nilS nilS) := ⟨_, rfl⟩
    rw [← hwe] at SP ⊢
    clear hwe
    refine vt _ (ex_assign rfl (ev s31 rfl)) hz (fun A8_3 zz kk s5x => ?_)
    replace s4 := kt kk s4
    clear kk hz s30 s31
    have hz := zz
    have s5 := s5x
    clear zz s5x A8_2
    refine wpList_nil ?_
    have hfin : Below w.heap.size w we := hB6.trans (SP.2.below (by have := (hB6).size; omega) (by omega))
    go_wp2
    refine bodyPost_msg rfl s4 s5 SP.1 ?_
    rw [VV]
    exact ⟨_, _, rfl, OwnY.nil _ _ _, OwnY.nil _ _ _, hfin⟩
  refine wp_cond_false ((ev s29 rfl).trans (congrArg Value.bool e7)) ?_
  have hrd : (rdM (Wi.opBody f)).2 = 0 := by simpa using e7
  clear s29 e7 s7
  go_upto_region 9 with fail
  refine wp_region_lit ?_
  refine vt (.agg #[.int .i64 c.f, .int .i64 c.r, .int .i64 c.p, .bool c.u]) (ex_ld rfl (ev s2 rfl) ((C6).ldAll)) hz (fun A9_1 zz kk s32x => ?_)
  replace s4 := kt kk s4
  replace s8 := kt kk s8
  clear kk hz s2
  have hz := zz
  have s32 := s32x
  clear zz s32x
  refine vt ((rdM (Wi.opBody f)).1.m.val (.slice sa (rdM (Wi.opBody f)).1.L.length sc) (.slice ta (rdM (Wi.opBody f)).1.D.length tc)) (ex_ld rfl (ev s8 rfl) (SP6.1.ldAll)) hz (fun A9_2 zz kk s33x => ?_)
  replace s4 := kt kk s4
  replace s8 := kt kk s8
  replace s32 := kt kk s32
  clear kk hz
  have hz := zz
  have s33 := s33x
  clear zz s33x A9_1
  refine vcallP (want_none rfl) (ex_call rfl (by simp only [List.map_toArray, List.map_cons, List.map_nil, (ev s32 rfl), (ev s33 rfl), evc] <;> rfl) rfl) (checkM_any c (rdM (Wi.opBody f)).1.m sa ta sc tc (rdM (Wi.opBody f)).1.L (rdM (Wi.opBody f)).1.D w6 (hT.later hB6 hT.lt) (OL6.sl' kE) (rdM_L _) (OD6.sl' kD) (rdM_e _)) rfl hz (by decide) ?_
  rintro e w7 ⟨rfl, hb7⟩
  refine ⟨_, rfl, fun A9_3 zz kk s34x => ?_⟩
  have M7 := M6.bel hb7
  have MM7 := SP6.1.bel hb7
  have hB7 := hB6.trans (hb7.mono hB6.size)
  have hs7 := hb7.size
  have OL7 := OL6.later8 hb7
  have OD7 := OD6.later8 hb7
  replace s4 := kt kk s4
  replace s8 := kt kk s8
  clear kk hz s32 s33
  have hz := zz
  have s34 := s34x
  clear zz s34x A9_2
  refine vt _ (ex_assign rfl (ev s34 rfl)) hz (fun A9_4 zz kk s9x => ?_)
  replace s4 := kt kk s4
  replace s8 := kt kk s8
  clear kk hz s34
  have hz := zz
  have s9 := s9x
  clear zz s9x A9_3
  refine wpList_nil ?_
  go_upto_region 10 with fail
  refine wp_region_lit ?_
  refine vt _ (ex_move rfl (ev s9 rfl)) hz (fun A10_1 zz kk s35x => ?_)
  replace s4 := kt kk s4
  replace s8 := kt kk s8
  replace s9 := kt kk s9
  clear kk hz
  have hz := zz
  have s35 := s35x
  clear zz s35x
  refine vt (.bool (!decide ((ckM c (rdM (Wi.opBody f)).1.m (rdM (Wi.opBody f)).1.L (rdM (Wi.opBody f)).1.D) = 0))) (ex_bin rfl (ev s35 rfl) rfl (neqEr _ _ _ _ _)) hz (fun A10_2 zz kk s36x => ?_)
  replace s4 := kt kk s4
  replace s8 := kt kk s8
  replace s9 := kt kk s9
  clear kk hz s35
  have hz := zz
  have s36 := s36x
  clear zz s36x A10_1
  refine wpList_nil ?_
  go_upto_region 12 with fail
  cases e10 : !decide ((ckM c (rdM (Wi.opBody f)).1.m (rdM (Wi.opBody f)).1.L (rdM (Wi.opBody f)).1.D) = 0)
  rotate_left
  · refine wp_cond_true ((ev s36 rfl).trans (congrArg Value.bool e10)) ?_
    have hn : ¬ (ckM c (rdM (Wi.opBody f)).1.m (rdM (Wi.opBody f)).1.L (rdM (Wi.opBody f)).1.D) = 0 := by simpa using e10
    have VV : dcM c f = (⟨zG, [], [], (0, 0)⟩, (ckM c (rdM (Wi.opBody f)).1.m (rdM (Wi.opBody f)).1.L (rdM (Wi.opBody f)).1.D)) := by unfold dcM; rw [if_neg (by simp [hcf]), if_neg (by simp [hop]), if_neg (by simp [hrd]), if_pos hn]
    clear s8 s36
    go_upto_region 11 with fail
    refine wp_region_lit ?_
    refine vt (zG.val nilS nilS) (ex_build rfl (bdM0 _)) hz (fun A11_1 zz kk s37x => ?_)
    replace s4 := kt kk s4
    replace s9 := kt kk s9
    clear kk hz
    have hz := zz
    have s37 := s37x
    clear zz s37x
    refine vt _ (ex_move rfl (ev s9 rfl)) hz (fun A11_2 zz kk s38x => ?_)
    replace s4 := kt kk s4
    replace s37 := kt kk s37
    clear kk hz s9
    have hz := zz
    have s38 := s38x
    clear zz s38x A11_1
    refine vs (sets w7 (w.heap.size + 1) 0 (zG.cs nilS nilS)) (want_none rfl) (ex_st rfl (ev s4 rfl) (ev s37 rfl) (stM M7 zG nilS nilS rfl rfl)) rfl ?_
    have SP := M7.putU zG nilS nilS
    obtain ⟨we, hwe⟩ : ∃ y, y = sets w7 (w.heap.size + 1) 0 (zG.cs nilS nilS) := ⟨_, rfl⟩
    rw [← hwe] at SP ⊢
    clear hwe
    refine vt _ (ex_assign rfl (ev s38 rfl)) hz (fun A11_3 zz kk s5x => ?_)
    replace s4 := kt kk s4
    clear kk hz s37 s38
    have hz := zz
    have s5 := s5x
    clear zz s5x A11_2
    refine wpList_nil ?_
    have hfin : Below w.heap.size w we := hB7.trans (SP.2.below (by have := (hB7).size; omega) (by omega))
    go_wp2
    refine bodyPost_msg rfl s4 s5 SP.1 ?_
    rw [VV]
    exact ⟨_, _, rfl, OwnY.nil _ _ _, OwnY.nil _ _ _, hfin⟩
  refine wp_cond_false ((ev s36 rfl).trans (congrArg Value.bool e10)) ?_
  have hck : (ckM c (rdM (Wi.opBody f)).1.m (rdM (Wi.opBody f)).1.L (rdM (Wi.opBody f)).1.D) = 0 := by simpa using e10
  clear s36 e10 s9
  have VV : dcM c f = ((rdM (Wi.opBody f)).1, 0) := by unfold dcM; rw [if_neg (by simp [hcf]), if_neg (by simp [hop]), if_neg (by simp [hrd]), if_neg (by simp [hck])]
  go_upto_region 12 with fail
  refine wp_region_lit ?_
  refine vt ((rdM (Wi.opBody f)).1.m.val (.slice sa (rdM (Wi.opBody f)).1.L.length sc) (.slice ta (rdM (Wi.opBody f)).1.D.length tc)) (ex_ld rfl (ev s8 rfl) (MM7.ldAll)) hz (fun A12_1 zz kk s39x => ?_)
  replace s4 := kt kk s4
  clear kk hz s8
  have hz := zz
  have s39 := s39x
  clear zz s39x
  refine vs (sets w7 (w.heap.size + 1) 0 ((rdM (Wi.opBody f)).1.m.cs (.slice sa (rdM (Wi.opBody f)).1.L.length sc) (.slice ta (rdM (Wi.opBody f)).1.D.length tc))) (want_none rfl) (ex_st rfl (ev s4 rfl) (ev s39 rfl) (stM M7 (rdM (Wi.opBody f)).1.m (.slice sa (rdM (Wi.opBody f)).1.L.length sc) (.slice ta (rdM (Wi.opBody f)).1.D.length tc) rfl rfl)) rfl ?_
  have SP := M7.putU (rdM (Wi.opBody f)).1.m (.slice sa (rdM (Wi.opBody f)).1.L.length sc) (.slice ta (rdM (Wi.opBody f)).1.D.length tc)
  obtain ⟨we, hwe⟩ : ∃ y, y = sets w7 (w.heap.size + 1) 0 ((rdM (Wi.opBody f)).1.m.cs (.slice sa (rdM (Wi.opBody f)).1.L.length sc) (.slice ta (rdM (Wi.opBody f)).1.D.length tc)) := ⟨_, rfl⟩
  rw [← hwe] at SP ⊢
  clear hwe
  refine vt (.int .i64 0) (ex_assign rfl rfl) hz (fun A12_2 zz kk s5x => ?_)
  replace s4 := kt kk s4
  clear kk hz s39
  have hz := zz
  have s5 := s5x
  clear zz s5x A12_1
  refine wpList_nil ?_
  have hfin : Below w.heap.size w we := hB7.trans (SP.2.below (by omega) (by omega))
  have hlow : w.heap.size ≤ w3.heap.size := hB3.size
  have OLe := ((OL7.far SP.2 (fun k hk => by omega)).low hlow)
  have ODe := ((OD7.far SP.2 (fun k hk => by omega)).low hlow)
  go_wp2
  refine bodyPost_msg rfl s4 s5 SP.1 ?_
  rw [VV]
  exact ⟨_, _, rfl, OLe, ODe, hfin⟩
def RB {α : Type} (piece : List Int) (rd : List Int → Nat × Int → α) (st : List Int → Nat × Int → Nat × Int) (v : α) : Prop := ∀ (l : List Int) (p : Nat) (rest : List Int), l.drop p = piece ++ rest → rd l (p, 0) = v ∧ st l (p, 0) = (p + piece.length, 0)
theorem drop_next {l : List Int} {p : Nat} {a b : List Int} (h : l.drop p = a ++ b) : l.drop (p + a.length) = b := by
  rw [← List.drop_drop, h, List.drop_left]
theorem rb_N (x : Nat) (hx : x < 18446744073709551616) : RB (M.form x) rN sN x := by
  intro l p rest h
  obtain ⟨h1, h2, h3⟩ := Wi.tn_read x hx rest
  unfold rN sN
  rw [h]
  simp only [Wi.sel_ok, Wi.selE_ok, h1, h2, h3, and_self]
theorem rb_I (m : Int) (x : Nat) (hx : x ≤ 9223372036854775807) (hm : (x : Int) ≤ m) : RB (M.form x) (rI m) (sI m) x := by
  intro l p rest h
  obtain ⟨h1, h2, h3⟩ := Wi.tc_read x m hx hm rest
  unfold rI sI
  rw [h]
  simp only [Wi.sel_ok, Wi.selE_ok, h1, h2, h3, and_self]
theorem sb_len (v : ByteArray) : (Wi.sb v).length = v.size := by
  show (v.data.toList.map _).length = v.data.size
  simp
theorem rb_T (v : ByteArray) (hv : v.size ≤ 64) : RB (M.form v.size ++ Wi.sb v) rT sT v := by
  intro l p rest h
  have hl := sb_len v
  obtain ⟨h1, h2, h3⟩ := Wi.tt_read (Wi.sb v) 64 (by omega) (by omega) rest
  rw [hl] at h1 h2 h3
  unfold rT sT
  rw [h]
  simp only [Wi.sel_ok, Wi.selE_ok, Wi.selL_ok, h1, h2, h3, Wi.str_sb, and_self]
theorem RB.two {α β γ : Type} {a b : List Int} {ra : List Int → Nat × Int → α} {rb : List Int → Nat × Int → β} {sa sb : List Int → Nat × Int → Nat × Int} {x : α} {y : β} (ha : RB a ra sa x) (hb : RB b rb sb y) (f : α → β → γ) : RB (a ++ b) (fun l s => f (ra l s) (rb l (sa l s))) (fun l s => sb l (sa l s)) (f x y) := by
  intro l p rest h
  rw [List.append_assoc] at h
  obtain ⟨h1, h2⟩ := ha l p _ h
  obtain ⟨h3, h4⟩ := hb l (p + a.length) rest (drop_next h)
  simp only [h1, h2, h3, h4, List.length_append, Nat.add_assoc, and_self]
theorem rb_D (d : Int × Int) (h : drF d) : RB (drBy d.1.toNat d.2.toNat) rD sD d := by
  obtain ⟨h1, h2, h3, h4⟩ := h
  have := (rb_N d.1.toNat (by omega)).two (rb_N d.2.toNat (by omega)) (fun x y => ((x : Int), (y : Int)))
  rw [show (((d.1.toNat : Nat) : Int), ((d.2.toNat : Nat) : Int)) = d from by rw [Int.toNat_of_nonneg h1, Int.toNat_of_nonneg h3]] at this
  exact this
theorem rb_2 (x y : Nat) (hx : x ≤ 9223372036854775807) (hy : y ≤ 9223372036854775807) : RB (nmBy x y) (fun l s => (rI mxI l s, rI mxI l (sI mxI l s))) s2 (x, y) :=
  (rb_I mxI x hx (by unfold mxI; omega)).two (rb_I mxI y hy (by unfold mxI; omega)) Prod.mk
theorem rb_O (o : Opn) (h : 0 ≤ o.k ∧ o.k ≤ 9223372036854775807 ∧ 0 ≤ o.s ∧ o.s ≤ 9223372036854775807 ∧ o.v.size ≤ 64) : RB (opBy o.k.toNat o.s.toNat o.v) rO sO o := by
  obtain ⟨h1, h2, h3, h4, h5⟩ := h
  have := (rb_2 o.k.toNat o.s.toNat (by omega) (by omega)).two (rb_T o.v h5) (fun x y => (⟨(x.1 : Int), (x.2 : Int), y⟩ : Opn))
  simp only [Int.toNat_of_nonneg h1, Int.toNat_of_nonneg h3] at this
  unfold nmBy at this
  rw [List.append_assoc] at this
  exact this
theorem rb_E (e : En) (h : enF e) : RB (enBy e) rE sE e := by
  obtain ⟨h1, h2, h3, h4, h5⟩ := h
  have := (rb_2 e.c.toNat e.n.toNat (by omega) (by omega)).two (rb_O e.o h5) (fun x y => (⟨(x.1 : Int), (x.2 : Int), y⟩ : En))
  simp only [Int.toNat_of_nonneg h1, Int.toNat_of_nonneg h3] at this
  exact this
theorem flat_at {α : Type} (f : α → List Int) (X : List α) (j : Nat) (hj : j < X.length) : X.flatMap f = (X.take j).flatMap f ++ (f X[j] ++ (X.drop (j + 1)).flatMap f) := by
  have h : X = X.take j ++ (X[j] :: X.drop (j + 1)) := by rw [← List.drop_eq_getElem_cons hj, List.take_append_drop]
  refine (congrArg (fun Y => Y.flatMap f) h).trans ?_
  show (X.take j ++ (X[j] :: X.drop (j + 1))).flatMap f = _
  rw [List.flatMap_append, List.flatMap_cons]
theorem rb_list {α : Type} (by_ : α → List Int) (rd : List Int → Nat × Int → α) (st : List Int → Nat × Int → Nat × Int) (S : List Int → Nat × Int → Nat → Nat × Int) (h0 : ∀ l s, S l s 0 = s) (hS : ∀ l s j, S l s (j + 1) = st l (S l s j)) (X : List α) (hX : ∀ x ∈ X, RB (by_ x) rd st x) :
    RB (X.flatMap by_) (fun l s => (List.range X.length).map fun i => rd l (S l s i)) (fun l s => S l s X.length) X := by
  intro l p rest h
  have key : ∀ j, j ≤ X.length → S l (p, 0) j = (p + ((X.take j).flatMap by_).length, 0) := by
    intro j
    induction j with
    | zero => intro _; rw [h0]; simp
    | succ j ih =>
      intro hj
      have hd : l.drop (p + ((X.take j).flatMap by_).length) = by_ X[j] ++ ((X.drop (j + 1)).flatMap by_ ++ rest) := by
        refine drop_next (a := (X.take j).flatMap by_) ?_
        rw [h, flat_at by_ X j (by omega)]
        simp only [List.append_assoc]
      rw [hS, ih (by omega), (hX X[j] (List.getElem_mem _) l _ _ hd).2]
      rw [List.take_succ_eq_append_getElem (by omega), List.flatMap_append]
      simp [Nat.add_assoc]
  refine ⟨?_, ?_⟩
  · apply List.ext_getElem?
    intro i
    by_cases hi : i < X.length
    · have hd : l.drop (p + ((X.take i).flatMap by_).length) = by_ X[i] ++ ((X.drop (i + 1)).flatMap by_ ++ rest) := by
        refine drop_next (a := (X.take i).flatMap by_) ?_
        rw [h, flat_at by_ X i hi]
        simp only [List.append_assoc]
      rw [List.getElem?_map, List.getElem?_range hi, List.getElem?_eq_getElem hi]
      show some (rd l (S l (p, 0) i)) = _
      rw [key i (by omega), (hX X[i] (List.getElem_mem _) l _ _ hd).1]
    · rw [List.getElem?_eq_none (by simp; omega), List.getElem?_eq_none (by omega)]
  · show S l (p, 0) X.length = _
    rw [key X.length (Nat.le_refl _), List.take_length]
theorem rb_log (L : List En) (hl : L.length ≤ 256) (h : ∀ e ∈ L, enF e) : RB (lgBy L) (fun l s => esL l (sI 256 l s) (rI 256 l s)) (fun l s => esS l (sI 256 l s) (rI 256 l s)) L := by
  intro l p rest hd
  unfold lgBy at hd
  rw [List.append_assoc] at hd
  obtain ⟨h1, h2⟩ := rb_I 256 L.length (by omega) (by omega) l p _ hd
  obtain ⟨h3, h4⟩ := rb_list enBy rE sE esS (fun _ _ => rfl) (fun _ _ _ => rfl) L (fun e he => rb_E e (h e he)) l _ rest (drop_next hd)
  simp only [h1, h2]
  refine ⟨h3, h4.trans ?_⟩
  unfold lgBy esBy
  rw [List.length_append, Nat.add_assoc]
theorem rb_vec (D : List (Int × Int)) (hl : D.length ≤ 7) (h : ∀ d ∈ D, drF d) : RB (veBy D) (fun l s => dsL l (sI 7 l s) (rI 7 l s)) (fun l s => dsS l (sI 7 l s) (rI 7 l s)) D := by
  intro l p rest hd
  unfold veBy at hd
  rw [List.append_assoc] at hd
  obtain ⟨h1, h2⟩ := rb_I 7 D.length (by omega) (by omega) l p _ hd
  obtain ⟨h3, h4⟩ := rb_list (fun d => drBy d.1.toNat d.2.toNat) rD sD dsS (fun _ _ => rfl) (fun _ _ _ => rfl) D (fun d hd => rb_D d (h d hd)) l _ rest (drop_next hd)
  simp only [h1, h2]
  refine ⟨h3, h4.trans ?_⟩
  unfold veBy dsBy
  rw [List.length_append, Nat.add_assoc]
structure Ag (j : Nat) (x : Rst) (m : Mg) (L : List En) (D : List (Int × Int)) : Prop where
  k : x.m.k = m.k
  f0 : x.m.nd = if 0 < j then m.nd else 0
  f1 : x.m.vw = if 1 < j then m.vw else 0
  f2 : x.m.ls = if 2 < j then m.ls else 0
  f3 : x.m.p = if 3 < j then m.p else 0
  f4 : x.m.cm = if 4 < j then m.cm else 0
  f5 : x.m.d = if 5 < j then m.d else (0, 0)
  f6 : x.m.e = if 6 < j then m.e else ⟨0, 0, ⟨0, 0, ⟨#[]⟩⟩⟩
  f7 : x.m.r = if 7 < j then m.r else (0, 0, ⟨#[]⟩)
  f8 : x.L = if 8 < j then L else []
  f9 : x.D = if 9 < j then D else []
theorem ag_0 (op : Bool) {x : Rst} {m : Mg} {L : List En} {D : List (Int × Int)} {l : List Int} {p : Nat} {rest : List Int} (hm : mgF m L D) (hs : x.s = (p, 0)) (hd : l.drop p = colBy m L D 0 op ++ rest) (A : Ag 0 x m L D) : Ag (0 + 1) (rCol l x 0 op) m L D ∧ (rCol l x 0 op).s = (p + (colBy m L D 0 op).length, 0) := by
  have r := rb_I mxI m.nd.toNat (by have := hm.nd; omega) (by unfold mxI; have := hm.nd; omega) l p rest hd
  have e : ((m.nd.toNat : Nat) : Int) = m.nd := Int.toNat_of_nonneg hm.nd.1
  have v : (rCol l x 0 op).m.nd = m.nd := by show ((rI mxI l x.s : Nat) : Int) = _; rw [hs, r.1, e]
  refine ⟨⟨A.k, by simpa using v, A.f1.trans (by simp), A.f2.trans (by simp), A.f3.trans (by simp), A.f4.trans (by simp), A.f5.trans (by simp), A.f6.trans (by simp), A.f7.trans (by simp), A.f8.trans (by simp), A.f9.trans (by simp)⟩, ?_⟩
  show sI mxI l x.s = _
  rw [hs]
  exact r.2
theorem ag_1 (op : Bool) {x : Rst} {m : Mg} {L : List En} {D : List (Int × Int)} {l : List Int} {p : Nat} {rest : List Int} (hm : mgF m L D) (hs : x.s = (p, 0)) (hd : l.drop p = colBy m L D 1 op ++ rest) (A : Ag 1 x m L D) : Ag (1 + 1) (rCol l x 1 op) m L D ∧ (rCol l x 1 op).s = (p + (colBy m L D 1 op).length, 0) := by
  have r := rb_I mxI m.vw.toNat (by have := hm.vw; omega) (by unfold mxI; have := hm.vw; omega) l p rest hd
  have e : ((m.vw.toNat : Nat) : Int) = m.vw := Int.toNat_of_nonneg hm.vw.1
  have v : (rCol l x 1 op).m.vw = m.vw := by show ((rI mxI l x.s : Nat) : Int) = _; rw [hs, r.1, e]
  refine ⟨⟨A.k, A.f0.trans (by simp), by simpa using v, A.f2.trans (by simp), A.f3.trans (by simp), A.f4.trans (by simp), A.f5.trans (by simp), A.f6.trans (by simp), A.f7.trans (by simp), A.f8.trans (by simp), A.f9.trans (by simp)⟩, ?_⟩
  show sI mxI l x.s = _
  rw [hs]
  exact r.2
theorem ag_2 (op : Bool) {x : Rst} {m : Mg} {L : List En} {D : List (Int × Int)} {l : List Int} {p : Nat} {rest : List Int} (hm : mgF m L D) (hs : x.s = (p, 0)) (hd : l.drop p = colBy m L D 2 op ++ rest) (A : Ag 2 x m L D) : Ag (2 + 1) (rCol l x 2 op) m L D ∧ (rCol l x 2 op).s = (p + (colBy m L D 2 op).length, 0) := by
  have r := rb_I mxI m.ls.toNat (by have := hm.ls; omega) (by unfold mxI; have := hm.ls; omega) l p rest hd
  have e : ((m.ls.toNat : Nat) : Int) = m.ls := Int.toNat_of_nonneg hm.ls.1
  have v : (rCol l x 2 op).m.ls = m.ls := by show ((rI mxI l x.s : Nat) : Int) = _; rw [hs, r.1, e]
  refine ⟨⟨A.k, A.f0.trans (by simp), A.f1.trans (by simp), by simpa using v, A.f3.trans (by simp), A.f4.trans (by simp), A.f5.trans (by simp), A.f6.trans (by simp), A.f7.trans (by simp), A.f8.trans (by simp), A.f9.trans (by simp)⟩, ?_⟩
  show sI mxI l x.s = _
  rw [hs]
  exact r.2
theorem ag_3 (op : Bool) {x : Rst} {m : Mg} {L : List En} {D : List (Int × Int)} {l : List Int} {p : Nat} {rest : List Int} (hm : mgF m L D) (hs : x.s = (p, 0)) (hd : l.drop p = colBy m L D 3 op ++ rest) (A : Ag 3 x m L D) : Ag (3 + 1) (rCol l x 3 op) m L D ∧ (rCol l x 3 op).s = (p + (colBy m L D 3 op).length, 0) := by
  have r := rb_I mxI m.p.toNat (by have := hm.p; omega) (by unfold mxI; have := hm.p; omega) l p rest hd
  have e : ((m.p.toNat : Nat) : Int) = m.p := Int.toNat_of_nonneg hm.p.1
  have v : (rCol l x 3 op).m.p = m.p := by show ((rI mxI l x.s : Nat) : Int) = _; rw [hs, r.1, e]
  refine ⟨⟨A.k, A.f0.trans (by simp), A.f1.trans (by simp), A.f2.trans (by simp), by simpa using v, A.f4.trans (by simp), A.f5.trans (by simp), A.f6.trans (by simp), A.f7.trans (by simp), A.f8.trans (by simp), A.f9.trans (by simp)⟩, ?_⟩
  show sI mxI l x.s = _
  rw [hs]
  exact r.2
theorem ag_4 (op : Bool) {x : Rst} {m : Mg} {L : List En} {D : List (Int × Int)} {l : List Int} {p : Nat} {rest : List Int} (hm : mgF m L D) (hs : x.s = (p, 0)) (hd : l.drop p = colBy m L D 4 op ++ rest) (A : Ag 4 x m L D) : Ag (4 + 1) (rCol l x 4 op) m L D ∧ (rCol l x 4 op).s = (p + (colBy m L D 4 op).length, 0) := by
  have r := rb_I mxI m.cm.toNat (by have := hm.cm; omega) (by unfold mxI; have := hm.cm; omega) l p rest hd
  have e : ((m.cm.toNat : Nat) : Int) = m.cm := Int.toNat_of_nonneg hm.cm.1
  have v : (rCol l x 4 op).m.cm = m.cm := by show ((rI mxI l x.s : Nat) : Int) = _; rw [hs, r.1, e]
  refine ⟨⟨A.k, A.f0.trans (by simp), A.f1.trans (by simp), A.f2.trans (by simp), A.f3.trans (by simp), by simpa using v, A.f5.trans (by simp), A.f6.trans (by simp), A.f7.trans (by simp), A.f8.trans (by simp), A.f9.trans (by simp)⟩, ?_⟩
  show sI mxI l x.s = _
  rw [hs]
  exact r.2
theorem ag_5 (op : Bool) {x : Rst} {m : Mg} {L : List En} {D : List (Int × Int)} {l : List Int} {p : Nat} {rest : List Int} (hm : mgF m L D) (hs : x.s = (p, 0)) (hd : l.drop p = colBy m L D 5 op ++ rest) (A : Ag 5 x m L D) : Ag (5 + 1) (rCol l x 5 op) m L D ∧ (rCol l x 5 op).s = (p + (colBy m L D 5 op).length, 0) := by
  have r := rb_D m.d hm.d l p rest hd
  have v : (rCol l x 5 op).m.d = m.d := by show rD l x.s = _; rw [hs, r.1]
  refine ⟨⟨A.k, A.f0.trans (by simp), A.f1.trans (by simp), A.f2.trans (by simp), A.f3.trans (by simp), A.f4.trans (by simp), by simpa using v, A.f6.trans (by simp), A.f7.trans (by simp), A.f8.trans (by simp), A.f9.trans (by simp)⟩, ?_⟩
  show sD l x.s = _
  rw [hs]
  exact r.2
theorem ag_6 (op : Bool) {x : Rst} {m : Mg} {L : List En} {D : List (Int × Int)} {l : List Int} {p : Nat} {rest : List Int} (hm : mgF m L D) (hs : x.s = (p, 0)) (h15 : op = false → m.e.o = ⟨0, 0, ⟨#[]⟩⟩) (hd : l.drop p = colBy m L D 6 op ++ rest) (A : Ag 6 x m L D) : Ag (6 + 1) (rCol l x 6 op) m L D ∧ (rCol l x 6 op).s = (p + (colBy m L D 6 op).length, 0) := by
  cases op with
  | true =>
    have r := rb_E m.e hm.e l p rest hd
    have v : (rCol l x 6 true).m.e = m.e := by show rE l x.s = _; rw [hs, r.1]
    refine ⟨⟨A.k, A.f0.trans (by simp), A.f1.trans (by simp), A.f2.trans (by simp), A.f3.trans (by simp), A.f4.trans (by simp), A.f5.trans (by simp), by simpa using v, A.f7.trans (by simp), A.f8.trans (by simp), A.f9.trans (by simp)⟩, ?_⟩
    show sE l x.s = _
    rw [hs]
    exact r.2
  | false =>
    have he := hm.e
    obtain ⟨h1, h2, h3, h4, _⟩ := he
    have hd2 : l.drop p = nmBy m.e.c.toNat m.e.n.toNat ++ rest := by rw [hd]; simp [colBy]
    have r := rb_2 m.e.c.toNat m.e.n.toNat (by omega) (by omega) l p rest hd2
    have r1 := congrArg Prod.fst r.1
    have r2 := congrArg Prod.snd r.1
    simp only at r1 r2
    have v : (rCol l x 6 false).m.e = m.e := by
      show (⟨((rI mxI l x.s : Nat) : Int), ((rI mxI l (sI mxI l x.s) : Nat) : Int), ⟨0, 0, ⟨#[]⟩⟩⟩ : En) = m.e
      rw [hs, r1, r2, Int.toNat_of_nonneg h1, Int.toNat_of_nonneg h3, ← h15 rfl]
    refine ⟨⟨A.k, A.f0.trans (by simp), A.f1.trans (by simp), A.f2.trans (by simp), A.f3.trans (by simp), A.f4.trans (by simp), A.f5.trans (by simp), by simpa using v, A.f7.trans (by simp), A.f8.trans (by simp), A.f9.trans (by simp)⟩, ?_⟩
    show s2 l x.s = _
    rw [hs, r.2]
    simp [colBy]
theorem ag_7 (op : Bool) {x : Rst} {m : Mg} {L : List En} {D : List (Int × Int)} {l : List Int} {p : Nat} {rest : List Int} (hm : mgF m L D) (hs : x.s = (p, 0)) (hd : l.drop p = colBy m L D 7 op ++ rest) (A : Ag 7 x m L D) : Ag (7 + 1) (rCol l x 7 op) m L D ∧ (rCol l x 7 op).s = (p + (colBy m L D 7 op).length, 0) := by
  have hr := hm.r
  have r := rb_O ⟨m.r.1, m.r.2.1, m.r.2.2⟩ hr l p rest hd
  have v : (rCol l x 7 op).m.r = m.r := by show ((rO l x.s).k, (rO l x.s).s, (rO l x.s).v) = _; rw [hs, r.1]
  refine ⟨⟨A.k, A.f0.trans (by simp), A.f1.trans (by simp), A.f2.trans (by simp), A.f3.trans (by simp), A.f4.trans (by simp), A.f5.trans (by simp), A.f6.trans (by simp), by simpa using v, A.f8.trans (by simp), A.f9.trans (by simp)⟩, ?_⟩
  show sO l x.s = _
  rw [hs]
  exact r.2
theorem ag_8 (op : Bool) {x : Rst} {m : Mg} {L : List En} {D : List (Int × Int)} {l : List Int} {p : Nat} {rest : List Int} (hm : mgF m L D) (hs : x.s = (p, 0)) (hd : l.drop p = colBy m L D 8 op ++ rest) (A : Ag 8 x m L D) : Ag (8 + 1) (rCol l x 8 op) m L D ∧ (rCol l x 8 op).s = (p + (colBy m L D 8 op).length, 0) := by
  have r := rb_log L hm.lL hm.es l p rest hd
  have v : (rCol l x 8 op).L = L := by show esL l (sI 256 l x.s) (rI 256 l x.s) = _; rw [hs]; exact r.1
  refine ⟨⟨A.k, A.f0.trans (by simp), A.f1.trans (by simp), A.f2.trans (by simp), A.f3.trans (by simp), A.f4.trans (by simp), A.f5.trans (by simp), A.f6.trans (by simp), A.f7.trans (by simp), by simpa using v, A.f9.trans (by simp)⟩, ?_⟩
  show esS l (sI 256 l x.s) (rI 256 l x.s) = _
  rw [hs]
  exact r.2
theorem ag_9 (op : Bool) {x : Rst} {m : Mg} {L : List En} {D : List (Int × Int)} {l : List Int} {p : Nat} {rest : List Int} (hm : mgF m L D) (hs : x.s = (p, 0)) (hd : l.drop p = colBy m L D 9 op ++ rest) (A : Ag 9 x m L D) : Ag (9 + 1) (rCol l x 9 op) m L D ∧ (rCol l x 9 op).s = (p + (colBy m L D 9 op).length, 0) := by
  have r := rb_vec D hm.lD hm.ds l p rest hd
  have v : (rCol l x 9 op).D = D := by show dsL l (sI 7 l x.s) (rI 7 l x.s) = _; rw [hs]; exact r.1
  refine ⟨⟨A.k, A.f0.trans (by simp), A.f1.trans (by simp), A.f2.trans (by simp), A.f3.trans (by simp), A.f4.trans (by simp), A.f5.trans (by simp), A.f6.trans (by simp), A.f7.trans (by simp), A.f8.trans (by simp), by simpa using v⟩, ?_⟩
  show dsS l (sI 7 l x.s) (rI 7 l x.s) = _
  rw [hs]
  exact r.2
theorem op15 {n : Nat} (h : (!decide ((n : Int) = 15)) = false) : n = 15 := by
  have h2 : (n : Int) = 15 := by simpa using h
  omega
def Blk (k : Nat) (m : Mg) (L : List En) (D : List (Int × Int)) : Prop := (∀ j, j < 10 → tabA k j = 0 → blB m L.length D.length j = true) ∧ (tabA k 6 = 15 → m.e.o = ⟨0, 0, ⟨#[]⟩⟩)
theorem ag_none {j : Nat} (hj : j < 10) {x : Rst} {m : Mg} {L : List En} {D : List (Int × Int)} (hb : blB m L.length D.length j = true) (A : Ag j x m L D) : Ag (j + 1) x m L D := by
  match j, hj with
  | 0, _ =>
    have h : m.nd = 0 := by simpa [blB] using hb
    refine ⟨A.k, by rw [A.f0]; simp [h], A.f1.trans (by simp), A.f2.trans (by simp), A.f3.trans (by simp), A.f4.trans (by simp), A.f5.trans (by simp), A.f6.trans (by simp), A.f7.trans (by simp), A.f8.trans (by simp), A.f9.trans (by simp)⟩
  | 1, _ =>
    have h : m.vw = 0 := by simpa [blB] using hb
    refine ⟨A.k, A.f0.trans (by simp), by rw [A.f1]; simp [h], A.f2.trans (by simp), A.f3.trans (by simp), A.f4.trans (by simp), A.f5.trans (by simp), A.f6.trans (by simp), A.f7.trans (by simp), A.f8.trans (by simp), A.f9.trans (by simp)⟩
  | 2, _ =>
    have h : m.ls = 0 := by simpa [blB] using hb
    refine ⟨A.k, A.f0.trans (by simp), A.f1.trans (by simp), by rw [A.f2]; simp [h], A.f3.trans (by simp), A.f4.trans (by simp), A.f5.trans (by simp), A.f6.trans (by simp), A.f7.trans (by simp), A.f8.trans (by simp), A.f9.trans (by simp)⟩
  | 3, _ =>
    have h : m.p = 0 := by simpa [blB] using hb
    refine ⟨A.k, A.f0.trans (by simp), A.f1.trans (by simp), A.f2.trans (by simp), by rw [A.f3]; simp [h], A.f4.trans (by simp), A.f5.trans (by simp), A.f6.trans (by simp), A.f7.trans (by simp), A.f8.trans (by simp), A.f9.trans (by simp)⟩
  | 4, _ =>
    have h : m.cm = 0 := by simpa [blB] using hb
    refine ⟨A.k, A.f0.trans (by simp), A.f1.trans (by simp), A.f2.trans (by simp), A.f3.trans (by simp), by rw [A.f4]; simp [h], A.f5.trans (by simp), A.f6.trans (by simp), A.f7.trans (by simp), A.f8.trans (by simp), A.f9.trans (by simp)⟩
  | 5, _ =>
    have h : m.d = (0, 0) := by simpa [blB] using hb
    refine ⟨A.k, A.f0.trans (by simp), A.f1.trans (by simp), A.f2.trans (by simp), A.f3.trans (by simp), A.f4.trans (by simp), by rw [A.f5]; simp [h], A.f6.trans (by simp), A.f7.trans (by simp), A.f8.trans (by simp), A.f9.trans (by simp)⟩
  | 6, _ =>
    have h : m.e = ⟨0, 0, ⟨0, 0, ⟨#[]⟩⟩⟩ := by simpa [blB, enb_iff, zEn] using hb
    refine ⟨A.k, A.f0.trans (by simp), A.f1.trans (by simp), A.f2.trans (by simp), A.f3.trans (by simp), A.f4.trans (by simp), A.f5.trans (by simp), by rw [A.f6]; simp [h], A.f7.trans (by simp), A.f8.trans (by simp), A.f9.trans (by simp)⟩
  | 7, _ =>
    have h : m.r = (0, 0, ⟨#[]⟩) := by simpa [blB] using hb
    refine ⟨A.k, A.f0.trans (by simp), A.f1.trans (by simp), A.f2.trans (by simp), A.f3.trans (by simp), A.f4.trans (by simp), A.f5.trans (by simp), A.f6.trans (by simp), by rw [A.f7]; simp [h], A.f8.trans (by simp), A.f9.trans (by simp)⟩
  | 8, _ =>
    have h : L = [] := List.length_eq_zero_iff.1 (by simpa [blB] using hb)
    refine ⟨A.k, A.f0.trans (by simp), A.f1.trans (by simp), A.f2.trans (by simp), A.f3.trans (by simp), A.f4.trans (by simp), A.f5.trans (by simp), A.f6.trans (by simp), A.f7.trans (by simp), by rw [A.f8]; simp [h], A.f9.trans (by simp)⟩
  | 9, _ =>
    have h : D = [] := List.length_eq_zero_iff.1 (by simpa [blB] using hb)
    refine ⟨A.k, A.f0.trans (by simp), A.f1.trans (by simp), A.f2.trans (by simp), A.f3.trans (by simp), A.f4.trans (by simp), A.f5.trans (by simp), A.f6.trans (by simp), A.f7.trans (by simp), A.f8.trans (by simp), by rw [A.f9]; simp [h]⟩
theorem cols_back {k : Nat} {m : Mg} {L : List En} {D : List (Int × Int)} (hm : mgF m L D) (hB : Blk k m L D) {l : List Int} {p : Nat} {rest : List Int} (x : Rst) (hs : x.s = (p, 0)) (A : Ag 0 x m L D) (hd : l.drop p = colsBy m L D k 10 ++ rest) :
    ∀ j, j ≤ 10 → Ag j (rCols l k x j) m L D ∧ (rCols l k x j).s = (p + (colsBy m L D k j).length, 0) := by
  intro j
  induction j with
  | zero => intro _; exact ⟨A, by show x.s = _; rw [hs]; simp [colsBy]⟩
  | succ j ih =>
    intro hj
    obtain ⟨A', hs'⟩ := ih (by omega)
    by_cases h0 : tabA k j = 0
    · rw [show rCols l k x (j + 1) = rCols l k x j by rw [rCols, if_pos h0], colsBy_none (by omega)]
      exact ⟨ag_none (by omega) (hB.1 j (by omega) h0) A', hs'⟩
    · rw [show rCols l k x (j + 1) = rCol l (rCols l k x j) j (!decide ((tabA k j : Int) = 15)) by rw [rCols, if_neg h0], colsBy_some (by omega)]
      obtain ⟨r2, hd2⟩ : ∃ r2, l.drop (p + (colsBy m L D k j).length) = colBy m L D j (!decide ((tabA k j : Int) = 15)) ++ r2 := by
        refine ⟨(List.range 10).drop (j + 1) |>.flatMap (fun i => if tabA k i = 0 then [] else colBy m L D i (!decide ((tabA k i : Int) = 15))) |>.append rest, ?_⟩
        refine drop_next (a := colsBy m L D k j) ?_
        rw [hd]
        have e := flat_at (fun i => if tabA k i = 0 then [] else colBy m L D i (!decide ((tabA k i : Int) = 15))) (List.range 10) j (by simp; omega)
        show (List.range 10).flatMap _ ++ rest = _
        rw [e, List.take_range, Nat.min_eq_left (by omega)]
        simp only [List.getElem_range, if_neg h0, List.append_assoc]
        rfl
      rw [List.length_append, ← Nat.add_assoc]
      have hj' : j < 10 := by omega
      match j, hj' with
      | 0, _ => exact ag_0 (!decide ((tabA k 0 : Int) = 15)) hm hs' hd2 A'
      | 1, _ => exact ag_1 (!decide ((tabA k 1 : Int) = 15)) hm hs' hd2 A'
      | 2, _ => exact ag_2 (!decide ((tabA k 2 : Int) = 15)) hm hs' hd2 A'
      | 3, _ => exact ag_3 (!decide ((tabA k 3 : Int) = 15)) hm hs' hd2 A'
      | 4, _ => exact ag_4 (!decide ((tabA k 4 : Int) = 15)) hm hs' hd2 A'
      | 5, _ => exact ag_5 (!decide ((tabA k 5 : Int) = 15)) hm hs' hd2 A'
      | 6, _ => exact ag_6 (!decide ((tabA k 6 : Int) = 15)) hm hs' (fun h => hB.2 (op15 h)) hd2 A'
      | 7, _ => exact ag_7 (!decide ((tabA k 7 : Int) = 15)) hm hs' hd2 A'
      | 8, _ => exact ag_8 (!decide ((tabA k 8 : Int) = 15)) hm hs' hd2 A'
      | 9, _ => exact ag_9 (!decide ((tabA k 9 : Int) = 15)) hm hs' hd2 A'
theorem body_back {c : Cf} {m : Mg} {L : List En} {D : List (Int × Int)} (h : ckM c m L D = 0) (hm : mgF m L D) (hk : 1 ≤ m.k ∧ m.k ≤ 14) : ∃ s, rdM (mbBy m L D m.k.toNat) = (⟨m, L, D, s⟩, 0) := by
  obtain ⟨k, hkn⟩ := Int.eq_ofNat_of_zero_le (show 0 ≤ m.k by omega)
  have hkt : m.k.toNat = k := by omega
  have hall : ∀ j, j < 10 → keepB c.f c.r m L D j (tabA k j) = true := by
    unfold ckM at h
    split at h
    · omega
    · split at h
      · omega
      · split at h
        · rename_i ha
          rw [hkt] at ha
          exact fun j hj => List.all_eq_true.1 ha j (List.mem_range.2 hj)
        · omega
  have hB : Blk k m L D := by
    refine ⟨fun j hj h0 => ?_, fun h15 => ?_⟩
    · have := hall j hj
      rw [h0] at this
      exact this
    · have := hall 6 (by decide)
      rw [h15] at this
      have h2 : nmB m.e = true := this
      unfold nmB at h2
      simp only [Bool.and_eq_true, decide_eq_true_eq] at h2
      obtain ⟨⟨a1, a2, a3⟩, _⟩ := h2
      cases ho : m.e.o with
      | mk a b v => rw [ho] at a1 a2 a3; simp only at a1 a2 a3; rw [a1, a2, a3]
  rw [hkt]
  obtain ⟨r1, r2⟩ := rb_I mxI k (by omega) (by unfold mxI; omega) (mbBy m L D k) 0 (colsBy m L D k 10) (by rw [List.drop_zero]; rfl)
  have hdc : (mbBy m L D k).drop (0 + (M.form k).length) = colsBy m L D k 10 ++ [] := by
    refine drop_next (a := M.form k) ?_
    rw [List.drop_zero, List.append_nil]
    rfl
  have hkd : kdB (k : Int) = true := by
    rw [← hkn]
    unfold kdB inR
    simp [hk.1, hk.2]
  obtain ⟨A, hs⟩ := cols_back hm hB (l := mbBy m L D k) ⟨{ zG with k := (k : Int) }, [], [], (0 + (M.form k).length, 0)⟩ rfl ⟨hkn.symm, rfl, rfl, rfl, rfl, rfl, rfl, rfl, rfl, rfl, rfl⟩ hdc 10 (by decide)
  have hx : rdM (mbBy m L D k) = (rCols (mbBy m L D k) k ⟨{ zG with k := (k : Int) }, [], [], (0 + (M.form k).length, 0)⟩ 10, Wi.endErr (mbBy m L D k).length (rCols (mbBy m L D k) k ⟨{ zG with k := (k : Int) }, [], [], (0 + (M.form k).length, 0)⟩ 10).s.1 (rCols (mbBy m L D k) k ⟨{ zG with k := (k : Int) }, [], [], (0 + (M.form k).length, 0)⟩ 10).s.2) := by
    unfold rdM
    rw [r1, r2, if_neg (by simp), if_neg (by simp [hkd])]
  generalize rCols (mbBy m L D k) k ⟨{ zG with k := (k : Int) }, [], [], (0 + (M.form k).length, 0)⟩ 10 = y at A hs hx
  obtain ⟨ym, yL, yD, ys⟩ := y
  have e1 : ym = m := by
    cases ym
    cases hmm : m
    have B := A
    rw [hmm] at B
    have b0 := B.k; have b1 := B.f0; have b2 := B.f1; have b3 := B.f2; have b4 := B.f3; have b5 := B.f4; have b6 := B.f5; have b7 := B.f6; have b8 := B.f7
    simp at b0 b1 b2 b3 b4 b5 b6 b7 b8
    simp [b0, b1, b2, b3, b4, b5, b6, b7, b8]
  have e2 : yL = L := by have := A.f8; simpa using this
  have e3 : yD = D := by have := A.f9; simpa using this
  refine ⟨ys, ?_⟩
  rw [hx, e1, e2, e3]
  have hs' : ys = (0 + (M.form k).length + (colsBy m L D k 10).length, 0) := hs
  rw [hs']
  have hl : (mbBy m L D k).length = 0 + (M.form k).length + (colsBy m L D k 10).length := by unfold mbBy; simp
  rw [hl]
  simp [Wi.endErr]
def WB {α : Type} (by_ : α → List Int) (rd : List Int → Nat × Int → α) (st : List Int → Nat × Int → Nat × Int) : Prop := ∀ (l : List Int) (s : Nat × Int), isB l → (st l s).2 = 0 → s.2 = 0 ∧ l.drop s.1 = by_ (rd l s) ++ l.drop (st l s).1
theorem isB.drop {l : List Int} (h : isB l) (n : Nat) : isB (l.drop n) := fun z hz => h z (List.mem_of_mem_drop hz)
theorem wb_N : WB M.form rN sN := by
  intro l s hb h
  unfold sN Wi.selE at h
  simp only at h
  split at h
  · rename_i h0
    obtain ⟨h1, _⟩ := Wi.tn_form (l.drop s.1) (hb.drop _) h
    refine ⟨h0, ?_⟩
    unfold rN sN Wi.sel
    rw [if_pos h0, if_pos h0, h1]
    simp only
    rw [← List.drop_drop, List.take_append_drop]
  · rename_i h0
    exact absurd h h0
theorem tc_ok {m : Int} {l : List Int} (h : Wi.tcErr m l = 0) : Wi.tnErr l = 0 ∧ Wi.tcVal m l = Wi.tnVal l ∧ Wi.tcSize m l = Wi.tnSize l ∧ (Wi.tnVal l : Int) ≤ m := by
  have h' := h
  unfold Wi.tcErr at h'
  refine ⟨?_, by unfold Wi.tcVal; rw [if_pos h], by unfold Wi.tcSize; rw [if_pos h], ?_⟩
  · split at h'
    · omega
    · split at h'
      · omega
      · rename_i h2; omega
  · split at h'
    · omega
    · split at h'
      · rename_i h2; omega
      · split at h'
        · omega
        · rename_i h3; omega
theorem wb_I (m : Int) : WB M.form (rI m) (sI m) := by
  intro l s hb h
  unfold sI Wi.selE at h
  simp only at h
  split at h
  · rename_i h0
    obtain ⟨e1, e2, e3, _⟩ := tc_ok h
    obtain ⟨h1, _⟩ := Wi.tn_form (l.drop s.1) (hb.drop _) e1
    refine ⟨h0, ?_⟩
    unfold rI sI Wi.sel
    rw [if_pos h0, if_pos h0, e2, e3, h1]
    simp only
    rw [← List.drop_drop, List.take_append_drop]
  · rename_i h0
    exact absurd h h0
theorem wb_T : WB (fun v => M.form v.size ++ Wi.sb v) rT sT := by
  intro l s hb h
  unfold sT Wi.selE at h
  simp only at h
  split at h
  · rename_i h0
    have ht := h
    unfold Wi.ttErr at h
    split at h
    · rename_i h2; exact absurd h h2
    · rename_i h2
      have h2' : Wi.tcErr 64 (l.drop s.1) = 0 := by omega
      split at h
      · omega
      · rename_i h3
        obtain ⟨e1, e2, e3, _⟩ := tc_ok h2'
        obtain ⟨h1, _⟩ := Wi.tn_form (l.drop s.1) (hb.drop _) e1
        refine ⟨h0, ?_⟩
        have hL : Wi.ttList 64 (l.drop s.1) = ((l.drop s.1).drop (Wi.tnSize (l.drop s.1))).take (Wi.tnVal (l.drop s.1)) := by unfold Wi.ttList; rw [if_pos ht, e2, e3]
        have hS : Wi.ttSize 64 (l.drop s.1) = Wi.tnSize (l.drop s.1) + Wi.tnVal (l.drop s.1) := by unfold Wi.ttSize; rw [if_pos ht, e2, e3]
        rw [e2, e3] at h3
        have hl : (((l.drop s.1).drop (Wi.tnSize (l.drop s.1))).take (Wi.tnVal (l.drop s.1))).length = Wi.tnVal (l.drop s.1) := by
          rw [List.length_take, List.length_drop]; omega
        show l.drop s.1 = (M.form (rT l s).size ++ Wi.sb (rT l s)) ++ l.drop (sT l s).1
        unfold rT sT Wi.sel Wi.selL
        rw [if_pos h0, if_pos h0, hL, hS, str_sz, hl, Wi.sb_nums _ (fun z hz => hb z (List.mem_of_mem_drop (List.mem_of_mem_drop (List.mem_of_mem_take hz)))), h1]
        simp only
        rw [List.append_assoc, ← List.drop_drop, ← List.drop_drop, List.take_append_drop, List.take_append_drop]
  · rename_i h0
    exact absurd h h0
theorem WB.two {α β γ : Type} {a : α → List Int} {b : β → List Int} {ra : List Int → Nat × Int → α} {rb : List Int → Nat × Int → β} {sa sb : List Int → Nat × Int → Nat × Int} (ha : WB a ra sa) (hb : WB b rb sb) (f : α → β → γ) (by_ : γ → List Int) (hf : ∀ x y, by_ (f x y) = a x ++ b y) : WB by_ (fun l s => f (ra l s) (rb l (sa l s))) (fun l s => sb l (sa l s)) := by
  intro l s hB h
  obtain ⟨h1, h2⟩ := hb l (sa l s) hB h
  obtain ⟨h3, h4⟩ := ha l s hB h1
  refine ⟨h3, ?_⟩
  rw [h4, h2, hf, List.append_assoc]
theorem wb_D : WB (fun d : Int × Int => drBy d.1.toNat d.2.toNat) rD sD := wb_N.two wb_N (fun x y => ((x : Int), (y : Int))) _ (fun x y => by simp [drBy])
theorem wb_2 : WB (fun x : Nat × Nat => nmBy x.1 x.2) (fun l s => (rI mxI l s, rI mxI l (sI mxI l s))) s2 := (wb_I mxI).two (wb_I mxI) Prod.mk _ (fun x y => rfl)
theorem wb_O : WB (fun o : Opn => opBy o.k.toNat o.s.toNat o.v) rO sO := wb_2.two wb_T (fun x y => (⟨(x.1 : Int), (x.2 : Int), y⟩ : Opn)) _ (fun x y => by simp [opBy, nmBy])
theorem wb_E : WB enBy rE sE := wb_2.two wb_O (fun x y => (⟨(x.1 : Int), (x.2 : Int), y⟩ : En)) _ (fun x y => by simp [enBy])
theorem wb_list {α : Type} (by_ : α → List Int) (rd : List Int → Nat × Int → α) (st : List Int → Nat × Int → Nat × Int) (S : List Int → Nat × Int → Nat → Nat × Int) (h0 : ∀ l s, S l s 0 = s) (hS : ∀ l s j, S l s (j + 1) = st l (S l s j)) (hW : WB by_ rd st) (n : Nat) :
    WB (fun X : List α => X.flatMap by_) (fun l s => (List.range n).map fun i => rd l (S l s i)) (fun l s => S l s n) := by
  intro l s hb h
  induction n with
  | zero =>
    have h' : (S l s 0).2 = 0 := h
    rw [h0] at h'
    refine ⟨h', ?_⟩
    show l.drop s.1 = [] ++ l.drop (S l s 0).1
    rw [h0]
    rfl
  | succ n ih =>
    have h' : (S l s (n + 1)).2 = 0 := h
    rw [hS] at h'
    obtain ⟨h1, h2⟩ := hW l (S l s n) hb h'
    obtain ⟨h3, h4⟩ := ih h1
    refine ⟨h3, ?_⟩
    rw [h4, h2]
    show _ = _ ++ l.drop (S l s (n + 1)).1
    rw [hS]
    simp [List.range_succ, List.flatMap_append, List.append_assoc]
theorem wb_log : WB lgBy (fun l s => esL l (sI 256 l s) (rI 256 l s)) (fun l s => esS l (sI 256 l s) (rI 256 l s)) := by
  intro l s hb h
  obtain ⟨h1, h2⟩ := wb_list enBy rE sE esS (fun _ _ => rfl) (fun _ _ _ => rfl) wb_E (rI 256 l s) l (sI 256 l s) hb h
  obtain ⟨h3, h4⟩ := wb_I 256 l s hb h1
  refine ⟨h3, ?_⟩
  have hl : (esL l (sI 256 l s) (rI 256 l s)).length = rI 256 l s := by simp [esL]
  show l.drop s.1 = (M.form (esL l (sI 256 l s) (rI 256 l s)).length ++ (esL l (sI 256 l s) (rI 256 l s)).flatMap enBy) ++ l.drop (esS l (sI 256 l s) (rI 256 l s)).1
  rw [hl, h4, List.append_assoc]
  exact congrArg _ h2
theorem wb_vec : WB veBy (fun l s => dsL l (sI 7 l s) (rI 7 l s)) (fun l s => dsS l (sI 7 l s) (rI 7 l s)) := by
  intro l s hb h
  obtain ⟨h1, h2⟩ := wb_list (fun d : Int × Int => drBy d.1.toNat d.2.toNat) rD sD dsS (fun _ _ => rfl) (fun _ _ _ => rfl) wb_D (rI 7 l s) l (sI 7 l s) hb h
  obtain ⟨h3, h4⟩ := wb_I 7 l s hb h1
  refine ⟨h3, ?_⟩
  have hl : (dsL l (sI 7 l s) (rI 7 l s)).length = rI 7 l s := by simp [dsL]
  show l.drop s.1 = (M.form (dsL l (sI 7 l s) (rI 7 l s)).length ++ (dsL l (sI 7 l s) (rI 7 l s)).flatMap (fun d : Int × Int => drBy d.1.toNat d.2.toNat)) ++ l.drop (dsS l (sI 7 l s) (rI 7 l s)).1
  rw [hl, h4, List.append_assoc]
  exact congrArg _ h2
theorem flat_congr {α : Type} {f g : α → List Int} : ∀ X : List α, (∀ x ∈ X, f x = g x) → X.flatMap f = X.flatMap g
  | [], _ => rfl
  | a :: r, h => by
    rw [List.flatMap_cons, List.flatMap_cons, h a (by simp), flat_congr r (fun x hx => h x (by simp [hx]))]
def cB (x : Rst) (j : Nat) (op : Bool) : List Int := colBy x.m x.L x.D j op
theorem used_0 {l : List Int} (hb : isB l) (x : Rst) (op : Bool) (h : (rCol l x 0 op).s.2 = 0) : x.s.2 = 0 ∧ l.drop x.s.1 = cB (rCol l x 0 op) 0 op ++ l.drop (rCol l x 0 op).s.1 := by
  have r := wb_I mxI l x.s hb h
  exact r
theorem used_1 {l : List Int} (hb : isB l) (x : Rst) (op : Bool) (h : (rCol l x 1 op).s.2 = 0) : x.s.2 = 0 ∧ l.drop x.s.1 = cB (rCol l x 1 op) 1 op ++ l.drop (rCol l x 1 op).s.1 := by
  have r := wb_I mxI l x.s hb h
  exact r
theorem used_2 {l : List Int} (hb : isB l) (x : Rst) (op : Bool) (h : (rCol l x 2 op).s.2 = 0) : x.s.2 = 0 ∧ l.drop x.s.1 = cB (rCol l x 2 op) 2 op ++ l.drop (rCol l x 2 op).s.1 := by
  have r := wb_I mxI l x.s hb h
  exact r
theorem used_3 {l : List Int} (hb : isB l) (x : Rst) (op : Bool) (h : (rCol l x 3 op).s.2 = 0) : x.s.2 = 0 ∧ l.drop x.s.1 = cB (rCol l x 3 op) 3 op ++ l.drop (rCol l x 3 op).s.1 := by
  have r := wb_I mxI l x.s hb h
  exact r
theorem used_4 {l : List Int} (hb : isB l) (x : Rst) (op : Bool) (h : (rCol l x 4 op).s.2 = 0) : x.s.2 = 0 ∧ l.drop x.s.1 = cB (rCol l x 4 op) 4 op ++ l.drop (rCol l x 4 op).s.1 := by
  have r := wb_I mxI l x.s hb h
  exact r
theorem used_5 {l : List Int} (hb : isB l) (x : Rst) (op : Bool) (h : (rCol l x 5 op).s.2 = 0) : x.s.2 = 0 ∧ l.drop x.s.1 = cB (rCol l x 5 op) 5 op ++ l.drop (rCol l x 5 op).s.1 := by
  exact wb_D l x.s hb h
theorem used_6 {l : List Int} (hb : isB l) (x : Rst) (op : Bool) (h : (rCol l x 6 op).s.2 = 0) : x.s.2 = 0 ∧ l.drop x.s.1 = cB (rCol l x 6 op) 6 op ++ l.drop (rCol l x 6 op).s.1 := by
  cases op with
  | true => exact wb_E l x.s hb h
  | false =>
    obtain ⟨h1, h2⟩ := wb_2 l x.s hb h
    refine ⟨h1, ?_⟩
    show _ = (nmBy (((rI mxI l x.s : Nat) : Int)).toNat (((rI mxI l (sI mxI l x.s) : Nat) : Int)).toNat ++ []) ++ _
    rw [List.append_nil]
    exact h2
theorem used_7 {l : List Int} (hb : isB l) (x : Rst) (op : Bool) (h : (rCol l x 7 op).s.2 = 0) : x.s.2 = 0 ∧ l.drop x.s.1 = cB (rCol l x 7 op) 7 op ++ l.drop (rCol l x 7 op).s.1 := by
  exact wb_O l x.s hb h
theorem used_8 {l : List Int} (hb : isB l) (x : Rst) (op : Bool) (h : (rCol l x 8 op).s.2 = 0) : x.s.2 = 0 ∧ l.drop x.s.1 = cB (rCol l x 8 op) 8 op ++ l.drop (rCol l x 8 op).s.1 := by
  exact wb_log l x.s hb h
theorem used_9 {l : List Int} (hb : isB l) (x : Rst) (op : Bool) (h : (rCol l x 9 op).s.2 = 0) : x.s.2 = 0 ∧ l.drop x.s.1 = cB (rCol l x 9 op) 9 op ++ l.drop (rCol l x 9 op).s.1 := by
  exact wb_vec l x.s hb h
theorem keep_0 (l : List Int) (x : Rst) (op op2 : Bool) (i : Nat) (hi : i < 0) : cB (rCol l x 0 op) i op2 = cB x i op2 := by
  omega
theorem keep_1 (l : List Int) (x : Rst) (op op2 : Bool) (i : Nat) (hi : i < 1) : cB (rCol l x 1 op) i op2 = cB x i op2 := by
  match i, hi with
  | 0, _ => rfl
theorem keep_2 (l : List Int) (x : Rst) (op op2 : Bool) (i : Nat) (hi : i < 2) : cB (rCol l x 2 op) i op2 = cB x i op2 := by
  match i, hi with
  | 0, _ => rfl
  | 1, _ => rfl
theorem keep_3 (l : List Int) (x : Rst) (op op2 : Bool) (i : Nat) (hi : i < 3) : cB (rCol l x 3 op) i op2 = cB x i op2 := by
  match i, hi with
  | 0, _ => rfl
  | 1, _ => rfl
  | 2, _ => rfl
theorem keep_4 (l : List Int) (x : Rst) (op op2 : Bool) (i : Nat) (hi : i < 4) : cB (rCol l x 4 op) i op2 = cB x i op2 := by
  match i, hi with
  | 0, _ => rfl
  | 1, _ => rfl
  | 2, _ => rfl
  | 3, _ => rfl
theorem keep_5 (l : List Int) (x : Rst) (op op2 : Bool) (i : Nat) (hi : i < 5) : cB (rCol l x 5 op) i op2 = cB x i op2 := by
  match i, hi with
  | 0, _ => rfl
  | 1, _ => rfl
  | 2, _ => rfl
  | 3, _ => rfl
  | 4, _ => rfl
theorem keep_6 (l : List Int) (x : Rst) (op op2 : Bool) (i : Nat) (hi : i < 6) : cB (rCol l x 6 op) i op2 = cB x i op2 := by
  cases op
  all_goals
    match i, hi with
    | 0, _ => rfl
    | 1, _ => rfl
    | 2, _ => rfl
    | 3, _ => rfl
    | 4, _ => rfl
    | 5, _ => rfl
theorem keep_7 (l : List Int) (x : Rst) (op op2 : Bool) (i : Nat) (hi : i < 7) : cB (rCol l x 7 op) i op2 = cB x i op2 := by
  match i, hi with
  | 0, _ => rfl
  | 1, _ => rfl
  | 2, _ => rfl
  | 3, _ => rfl
  | 4, _ => rfl
  | 5, _ => rfl
  | 6, _ => rfl
theorem keep_8 (l : List Int) (x : Rst) (op op2 : Bool) (i : Nat) (hi : i < 8) : cB (rCol l x 8 op) i op2 = cB x i op2 := by
  match i, hi with
  | 0, _ => rfl
  | 1, _ => rfl
  | 2, _ => rfl
  | 3, _ => rfl
  | 4, _ => rfl
  | 5, _ => rfl
  | 6, _ => rfl
  | 7, _ => rfl
theorem keep_9 (l : List Int) (x : Rst) (op op2 : Bool) (i : Nat) (hi : i < 9) : cB (rCol l x 9 op) i op2 = cB x i op2 := by
  match i, hi with
  | 0, _ => rfl
  | 1, _ => rfl
  | 2, _ => rfl
  | 3, _ => rfl
  | 4, _ => rfl
  | 5, _ => rfl
  | 6, _ => rfl
  | 7, _ => rfl
  | 8, _ => rfl
theorem used_all {l : List Int} (hb : isB l) (x : Rst) (j : Nat) (hj : j < 10) (op : Bool) (h : (rCol l x j op).s.2 = 0) : x.s.2 = 0 ∧ l.drop x.s.1 = cB (rCol l x j op) j op ++ l.drop (rCol l x j op).s.1 := by
  match j, hj with
  | 0, _ => exact used_0 hb x op h
  | 1, _ => exact used_1 hb x op h
  | 2, _ => exact used_2 hb x op h
  | 3, _ => exact used_3 hb x op h
  | 4, _ => exact used_4 hb x op h
  | 5, _ => exact used_5 hb x op h
  | 6, _ => exact used_6 hb x op h
  | 7, _ => exact used_7 hb x op h
  | 8, _ => exact used_8 hb x op h
  | 9, _ => exact used_9 hb x op h
theorem keep_all (l : List Int) (x : Rst) (j : Nat) (hj : j < 10) (op op2 : Bool) (i : Nat) (hi : i < j) : cB (rCol l x j op) i op2 = cB x i op2 := by
  match j, hj with
  | 0, _ => exact keep_0 l x op op2 i hi
  | 1, _ => exact keep_1 l x op op2 i hi
  | 2, _ => exact keep_2 l x op op2 i hi
  | 3, _ => exact keep_3 l x op op2 i hi
  | 4, _ => exact keep_4 l x op op2 i hi
  | 5, _ => exact keep_5 l x op op2 i hi
  | 6, _ => exact keep_6 l x op op2 i hi
  | 7, _ => exact keep_7 l x op op2 i hi
  | 8, _ => exact keep_8 l x op op2 i hi
  | 9, _ => exact keep_9 l x op op2 i hi
theorem rc_step (l : List Int) (k : Nat) (x : Rst) (j : Nat) : rCols l k x (j + 1) = if tabA k j = 0 then rCols l k x j else rCol l (rCols l k x j) j (!decide ((tabA k j : Int) = 15)) := rfl
theorem cols_wb {l : List Int} (hb : isB l) (k : Nat) (x : Rst) : ∀ j, j ≤ 10 → (rCols l k x j).s.2 = 0 → x.s.2 = 0 ∧ l.drop x.s.1 = colsBy (rCols l k x j).m (rCols l k x j).L (rCols l k x j).D k j ++ l.drop (rCols l k x j).s.1 := by
  intro j
  induction j with
  | zero => intro _ h; exact ⟨h, by simp [colsBy, rCols]⟩
  | succ j ih =>
    intro hj h
    have hsame : ∀ y : Rst, (∀ i op2, i < j → cB y i op2 = cB (rCols l k x j) i op2) → colsBy y.m y.L y.D k j = colsBy (rCols l k x j).m (rCols l k x j).L (rCols l k x j).D k j := by
      intro y hy
      unfold colsBy
      refine flat_congr _ (fun i hi => ?_)
      have hi' : i < j := List.mem_range.1 hi
      split
      · rfl
      · exact hy i _ hi'
    by_cases h0 : tabA k j = 0
    · rw [rc_step, if_pos h0] at h ⊢
      obtain ⟨h1, h2⟩ := ih (by omega) h
      refine ⟨h1, ?_⟩
      rw [colsBy_none (by omega)]
      exact h2
    · rw [rc_step, if_neg h0] at h ⊢
      obtain ⟨h3, h4⟩ := used_all hb (rCols l k x j) j (by omega) _ h
      obtain ⟨h1, h2⟩ := ih (by omega) h3
      refine ⟨h1, ?_⟩
      rw [colsBy_some (by omega), hsame _ (fun i op2 hi => keep_all l _ j (by omega) _ op2 i hi), List.append_assoc, h2, h4]
      rfl
theorem k_col (l : List Int) (x : Rst) (j : Nat) (op : Bool) : (rCol l x j op).m.k = x.m.k := by
  unfold rCol
  split
  case h_7 => split <;> rfl
  all_goals rfl
theorem k_cols (l : List Int) (k : Nat) (x : Rst) : ∀ j, (rCols l k x j).m.k = x.m.k
  | 0 => rfl
  | j + 1 => by
    rw [rc_step]
    split
    · exact k_cols l k x j
    · rw [k_col]; exact k_cols l k x j
theorem body_wb {l : List Int} (hb : isB l) (h : (rdM l).2 = 0) : mbBy (rdM l).1.m (rdM l).1.L (rdM l).1.D (rdM l).1.m.k.toNat = l := by
  by_cases h1 : (sI mxI l (0, 0)).2 = 0
  · by_cases h2 : kdB (rI mxI l (0, 0) : Int) = false
    · unfold rdM at h
      rw [if_neg (by simp [h1]), if_pos h2] at h
      cases h
    · have e : rdM l = (rCols l (rI mxI l (0, 0)) ⟨{ zG with k := (rI mxI l (0, 0) : Int) }, [], [], sI mxI l (0, 0)⟩ 10, Wi.endErr l.length (rCols l (rI mxI l (0, 0)) ⟨{ zG with k := (rI mxI l (0, 0) : Int) }, [], [], sI mxI l (0, 0)⟩ 10).s.1 (rCols l (rI mxI l (0, 0)) ⟨{ zG with k := (rI mxI l (0, 0) : Int) }, [], [], sI mxI l (0, 0)⟩ 10).s.2) := by
        unfold rdM
        rw [if_neg (by simp [h1]), if_neg h2]
      rw [e] at h ⊢
      have hk := k_cols l (rI mxI l (0, 0)) ⟨{ zG with k := (rI mxI l (0, 0) : Int) }, [], [], sI mxI l (0, 0)⟩ 10
      have hc := cols_wb hb (rI mxI l (0, 0)) ⟨{ zG with k := (rI mxI l (0, 0) : Int) }, [], [], sI mxI l (0, 0)⟩ 10 (Nat.le_refl _)
      have h0 := wb_I mxI l (0, 0) hb h1
      generalize rCols l (rI mxI l (0, 0)) ⟨{ zG with k := (rI mxI l (0, 0) : Int) }, [], [], sI mxI l (0, 0)⟩ 10 = y at h hk hc ⊢
      simp only at h hk hc ⊢
      unfold Wi.endErr at h
      split at h
      · rename_i he
        split at h
        · omega
        · rename_i hlt
          obtain ⟨_, hc2⟩ := hc he
          rw [List.drop_eq_nil_of_le (Nat.le_of_not_lt hlt), List.append_nil] at hc2
          have h3 := h0.2
          rw [List.drop_zero] at h3
          rw [hk, Int.toNat_natCast]
          unfold mbBy
          rw [← hc2]
          exact h3.symm
      · rename_i he
        exact absurd h he
  · unfold rdM at h
    rw [if_pos h1] at h
    exact absurd h h1
end Go.Proofs.YtabiimmpjllcpaaDoor
