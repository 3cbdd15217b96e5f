import Derived.Test.YthhghenaflnlfaaTn
namespace Go.Proofs.Ythhghenaflnlfaa
open Go.RowKit
set_option linter.unusedVariables false

/-- A Reader at the head of block b that NewReader made: its bytes, how far, its error. -/
structure RSt (w : World) (b : Nat) (a : Option Addr) (n c : Nat) (l : List Int) (p : Nat) (err : Int) : Prop where
  lt : b < w.heap.size
  c0 : w.cell? ⟨b, 0, none⟩ = some (.bool true)
  c1 : w.cell? ⟨b, 1, none⟩ = some (.slice a n c)
  c2 : w.cell? ⟨b, 2, none⟩ = some (.int .i64 p)
  c3 : w.cell? ⟨b, 3, none⟩ = some (.int .i64 err)
  f2 : w.frozen? ⟨b, 2, none⟩ = false
  f3 : w.frozen? ⟨b, 3, none⟩ = false
  hs : Hs w a n c l
  cmax : c ≤ maxLen
  ne : ∀ x, a = some x → ∃ g, x = ⟨g, 0, none⟩ ∧ g ≠ b
  le : p ≤ n

theorem Row.far {w : World} {g : Nat} {l : List Int} (h : Row w ⟨g, 0, none⟩ l) {p : Addr} (hp : p.block ≠ g) (u : Value) : Row (w.setCell p u) ⟨g, 0, none⟩ l := by
  intro i hi
  have h1 := h i hi
  rw [Addr.add_lit] at h1 ⊢
  rw [World.cell?_of_block (w := w) (Below.heap_setCell w p u g (fun e => hp e.symm))]
  exact h1
theorem Hs.far {w : World} {a : Option Addr} {n c : Nat} {l : List Int} (h : Hs w a n c l) {b : Nat} (hne : ∀ x, a = some x → ∃ g, x = ⟨g, 0, none⟩ ∧ g ≠ b) (k : Nat) (u : Value) : Hs (w.setCell ⟨b, k, none⟩ u) a n c l := by
  refine ⟨h.len, h.cap, fun x hx => ?_, h.nil, h.byte⟩
  obtain ⟨g, rfl, hg⟩ := hne x hx
  exact (h.row _ hx).far (by show b ≠ g; exact fun e => hg e.symm) u
/-- The rest of a slice from a place on. -/
theorem Hs.rest {w : World} {g n c : Nat} {l : List Int} (h : Hs w (some ⟨g, 0, none⟩) n c l) (p : Nat) (hp : p ≤ n) : Hs w (some ⟨g, p, none⟩) (n - p) (c - p) (l.drop p) := by
  refine ⟨by rw [List.length_drop, h.len], by have := h.cap; omega, fun x hx => ?_, fun hx => by (cases hx), fun z hz => h.byte z (List.mem_of_mem_drop hz)⟩
  cases hx
  have := (h.row _ rfl).drop p
  rwa [Nat.zero_add] at this
theorem Hs.rest_end {w : World} {g n c : Nat} {l : List Int} (h : Hs w (some ⟨g, 0, none⟩) n c l) (hp : n = c) : Hs w (some ⟨g, 0, none⟩) 0 0 (l.drop c) := by
  have hl : l.drop c = [] := List.drop_eq_nil_of_le (by rw [h.len]; omega)
  rw [hl]
  exact ⟨rfl, Nat.le_refl _, fun x hx i hi => by (simp at hi), fun hx => by (cases hx), fun z hz => by (cases hz)⟩

theorem tn_quiet (a : Option Addr) (n c : Nat) (l : List Int) (w : World) (k : Nat) (h : Hs w a n c l) (hm : c ≤ maxLen) :
    Calls Try.prog 28 #[.slice a n c] (w.drewN k) fun e w' => e = .returned (.tuple #[.int .u64 (tnVal l), .int .i64 (tnSize l), .int .i64 (tnErr l)]) ∧ ∃ m, w' = w.drewN m := by
  refine (tn_any a n c l (w.drewN k) (h.later (below_drewN (Below.refl _ _) k)) hm).mono ?_
  rintro e w' ⟨rfl, j, rfl⟩
  exact ⟨rfl, _, World.drewN_drewN _ _ _⟩

theorem tnSize_le (l : List Int) (h : ∀ z ∈ l, 0 ≤ z ∧ z < 256) : tnSize l ≤ l.length ∧ tnSize l ≤ 9 := by
  cases l with
  | nil => exact ⟨by simp [tnSize, tnErr], by simp [tnSize, tnErr]⟩
  | cons k d =>
    by_cases he : tnErr (k :: d) = 0
    · have hk := h k (by simp)
      have : tnSize (k :: d) = 1 + k.toNat := by unfold tnSize; rw [if_pos he]; rfl
      simp only [tnErr] at he
      split at he
      · cases he
      · split at he
        · cases he
        · rename_i h1 h2
          rw [this]
          simp only [List.length_cons]
          omega
    · rw [(tn_bad he).2]
      exact ⟨Nat.zero_le _, Nat.zero_le _⟩

theorem step_any (b : Nat) (p S : Nat) (E v3 : Int) (w : World) (c2 : w.cell? ⟨b, 2, none⟩ = some (.int .i64 p)) (c3 : w.cell? ⟨b, 3, none⟩ = some (.int .i64 v3)) (f2 : w.frozen? ⟨b, 2, none⟩ = false) (f3 : w.frozen? ⟨b, 3, none⟩ = false) (hb : p + S ≤ 9223372036854775807) :
    Calls Try.prog 29 #[.pointer (some ⟨b, 0, none⟩), .int .i64 S, .int .i64 E] w fun e w' => e = .returned (.tuple #[]) ∧ w' = (w.setCell ⟨b, 2, none⟩ (.int .i64 ((p + S : Nat) : Int))).setCell ⟨b, 3, none⟩ (.int .i64 E) := by
  have hb1 : (p : Int) + (S : Int) ≤ 9223372036854775807 := by omega
  go_enter Try.func29, Try.ntmps29
  go_wp2
  go_end0
  exact ⟨rfl, rfl⟩

set_option maxRecDepth 100000 in
set_option maxHeartbeats 400000 in
theorem number_core (b : Nat) (a a' : Option Addr) (n c : Nat) (l : List Int) (p : Nat) (w : World) (h : RSt w b a n c l p 0) (n' c' : Nat) (h' : Hs w a' n' c' (l.drop p)) (ha : (∃ g, a = some ⟨g, 0, none⟩ ∧ p < c ∧ a' = some ⟨g, p, none⟩ ∧ n' = n - p ∧ c' = c - p) ∨ (∃ g, a = some ⟨g, 0, none⟩ ∧ n = p ∧ c = p ∧ a' = some ⟨g, 0, none⟩ ∧ n' = 0 ∧ c' = 0) ∨ (a = none ∧ n = 0 ∧ c = 0 ∧ p = 0 ∧ a' = none ∧ n' = 0 ∧ c' = 0)) :
    Calls Try.prog 13 #[.pointer (some ⟨b, 0, none⟩)] w fun e w' => e = .returned (.int .u64 (tnVal (l.drop p))) ∧ ∃ k, w' = ((w.setCell ⟨b, 2, none⟩ (.int .i64 ((p + tnSize (l.drop p) : Nat) : Int))).setCell ⟨b, 3, none⟩ (.int .i64 (tnErr (l.drop p)))).drewN k := by
  obtain ⟨hlt, c0, c1, c2, c3, f2, f3, hs, cmax, ne, hle⟩ := h
  have hcap := hs.cap
  have hc' : c' ≤ maxLen := by
    rcases ha with ⟨g, _, _, _, _, hc⟩ | ⟨g, _, _, _, _, _, hc⟩ | ⟨_, _, _, _, _, _, hc⟩ <;> omega
  have HQ := fun k => hide (tn_quiet a' n' c' (l.drop p) w k h' hc')
  have hsz := tnSize_le (l.drop p) h'.byte
  have hln : (l.drop p).length = n - p := by rw [List.length_drop, hs.len]
  unfold maxLen at cmax
  clear hs ne h'
  generalize tnVal (l.drop p) = V at *
  generalize tnSize (l.drop p) = S at *
  generalize tnErr (l.drop p) = E at *
  have hS : S ≤ 9 := hsz.2
  have hb1 : p + S ≤ 9223372036854775807 := by omega
  clear hsz hln hc'
  have HS := fun k => hide (step_any b p S E 0 (w.drewN k) c2 c3 f2 f3 hb1)
  rcases ha with ⟨g, rfl, hpc, rfl, rfl, rfl⟩ | ⟨g, rfl, rfl, rfl, rfl, rfl, rfl⟩ | ⟨rfl, rfl, rfl, rfl, rfl, rfl, rfl⟩
  all_goals
    go_enter Try.func13, Try.ntmps13
    go_wp2_with (go_at_call 27; go_in)
    go_quiet ((go_at_call 28; exact (HQ _).out))
    go_wp2_with fail
    refine (HS _).out.mono ?_
    rintro e w' ⟨rfl, rfl⟩
    clear HS HQ
    go_wp2
    go_ret
    first | exact ⟨rfl, _, rfl⟩ | exact ⟨rfl, nq, by rw [Nat.zero_add]; rfl⟩

theorem RSt.stepped {w : World} {b : Nat} {a : Option Addr} {n c : Nat} {l : List Int} {p : Nat} {e : Int} (h : RSt w b a n c l p e) (p' : Nat) (e' : Int) (k : Nat) (hp : p' ≤ n) :
    RSt (((w.setCell ⟨b, 2, none⟩ (.int .i64 (p' : Int))).setCell ⟨b, 3, none⟩ (.int .i64 e')).drewN k) b a n c l p' e' := by
  obtain ⟨hlt, c0, c1, c2, c3, f2, f3, hs, cmax, ne, hle⟩ := h
  refine ⟨?_, ?_, ?_, ?_, ?_, ?_, ?_, ((hs.far ne 2 _).far ne 3 _).later (below_drewN (Below.refl _ _) k), cmax, ne, hp⟩
  all_goals go_simp
theorem Below.two {B b : Nat} {w0 w : World} (h : Below B w0 w) (hB : B ≤ b) (u v : Value) (k : Nat) : Below B w0 (((w.setCell ⟨b, 2, none⟩ u).setCell ⟨b, 3, none⟩ v).drewN k) :=
  below_drewN ((h.setCell hB u).setCell hB v) k

theorem rd_number (B b : Nat) (a : Option Addr) (n c : Nat) (l : List Int) (p : Nat) (w : World) (h : RSt w b a n c l p 0) (hB : B ≤ b) :
    Calls Try.prog 13 #[.pointer (some ⟨b, 0, none⟩)] w fun e w' => e = .returned (.int .u64 (tnVal (l.drop p))) ∧ RSt w' b a n c l (p + tnSize (l.drop p)) (tnErr (l.drop p)) ∧ Below B w w' := by
  have hsz := (tnSize_le (l.drop p) (fun z hz => h.hs.byte z (List.mem_of_mem_drop hz))).1
  rw [List.length_drop, h.hs.len] at hsz
  have hle := h.le
  have hcap := h.hs.cap
  have fin : ∀ a' n' c', Hs w a' n' c' (l.drop p) → _ → Calls Try.prog 13 #[.pointer (some ⟨b, 0, none⟩)] w fun e w' => e = .returned (.int .u64 (tnVal (l.drop p))) ∧ RSt w' b a n c l (p + tnSize (l.drop p)) (tnErr (l.drop p)) ∧ Below B w w' :=
    fun a' n' c' h1 h2 => (number_core b a a' n c l p w h n' c' h1 h2).mono (by
      rintro e w' ⟨rfl, k, rfl⟩
      exact ⟨rfl, h.stepped _ _ k (by omega), Below.two (Below.refl _ _) hB _ _ k⟩)
  cases ha : a with
  | none =>
    subst ha
    obtain ⟨e1, e2⟩ := h.hs.nil rfl
    have e3 := h.hs.len
    rw [e1] at e3
    obtain rfl : 0 = n := e3
    subst e2
    obtain rfl : p = 0 := by omega
    exact fin none 0 0 h.hs (.inr (.inr ⟨rfl, rfl, rfl, rfl, rfl, rfl, rfl⟩))
  | some x =>
    subst ha
    obtain ⟨g, rfl, hg⟩ := h.ne x rfl
    by_cases hp : p < c
    · exact fin _ _ _ (h.hs.rest p hle) (.inl ⟨g, rfl, hp, rfl, rfl, rfl⟩)
    · have e1 : c = p := by omega
      have e2 : n = p := by omega
      have h2 := h.hs.rest_end (by omega)
      rw [e1] at h2
      exact fin _ 0 0 h2 (.inr (.inl ⟨g, rfl, e2, e1, rfl, rfl, rfl⟩))

theorem rd_number_err (b : Nat) (a : Option Addr) (n c : Nat) (l : List Int) (p : Nat) (E : Int) (w : World) (h : RSt w b a n c l p E) (hE : E ≠ 0) :
    Calls Try.prog 13 #[.pointer (some ⟨b, 0, none⟩)] w fun e w' => e = .returned (.int .u64 0) ∧ w' = w := by
  obtain ⟨hlt, c0, c1, c2, c3, f2, f3, hs, cmax, ne, hle⟩ := h
  have hb : (E == 0) = false := by simp [hE]
  clear hs ne
  go_enter Try.func13, Try.ntmps13
  go_wp2
  go_ret
  exact ⟨rfl, rfl⟩
theorem rd_at (b : Nat) (a : Option Addr) (n c : Nat) (l : List Int) (p : Nat) (E : Int) (w : World) (h : RSt w b a n c l p E) :
    Calls Try.prog 18 #[.pointer (some ⟨b, 0, none⟩)] w fun e w' => e = .returned (.int .i64 p) ∧ w' = w := by
  obtain ⟨hlt, c0, c1, c2, c3, f2, f3, hs, cmax, ne, hle⟩ := h
  clear hs ne
  go_enter Try.func18, Try.ntmps18
  go_wp2
  go_ret
  exact ⟨rfl, rfl⟩
theorem rd_left (b : Nat) (a : Option Addr) (n c : Nat) (l : List Int) (p : Nat) (E : Int) (w : World) (h : RSt w b a n c l p E) :
    Calls Try.prog 19 #[.pointer (some ⟨b, 0, none⟩)] w fun e w' => e = .returned (.int .i64 ((n - p : Nat) : Int)) ∧ ∃ k, w' = w.drewN k := by
  obtain ⟨hlt, c0, c1, c2, c3, f2, f3, hs, cmax, ne, hle⟩ := h
  have hcap := hs.cap
  unfold maxLen at cmax
  clear hs ne
  go_enter Try.func19, Try.ntmps19
  go_wp2
  go_quiet (fail)
  go_wp2
  go_ret
  exact ⟨ret_int (by omega), _, rfl⟩
/-- What End answers. -/
def endErr (n p : Nat) (E : Int) : Int := if E = 0 then if p < n then 15 else 0 else E
set_option maxRecDepth 100000 in
theorem rd_end (b : Nat) (a : Option Addr) (n c : Nat) (l : List Int) (p : Nat) (E : Int) (w : World) (h : RSt w b a n c l p E) :
    Calls Try.prog 17 #[.pointer (some ⟨b, 0, none⟩)] w fun e w' => e = .returned (.int .i64 (endErr n p E)) ∧ ∃ k, w' = w.drewN k := by
  have HL := hide (rd_left b a n c l p E w h)
  obtain ⟨hlt, c0, c1, c2, c3, f2, f3, hs, cmax, ne, hle⟩ := h
  clear hs ne
  by_cases hE : E = 0
  · subst hE
    by_cases hp : p < n
    · have H : Hid (endErr n p 0 = 15) := by unfold endErr; rw [if_pos rfl, if_pos hp]; rfl
      go_enter Try.func17, Try.ntmps17
      go_wp2_with fail
      refine HL.out.mono ?_
      rintro e w' ⟨rfl, k, rfl⟩
      have hd : decide (0 < n - p) = true := by simp; omega
      go_wp2
      go_ret
      exact ⟨ret_int H.out.symm, _, rfl⟩
    · have H : Hid (endErr n p 0 = 0) := by unfold endErr; rw [if_pos rfl, if_neg hp]; rfl
      go_enter Try.func17, Try.ntmps17
      go_wp2_with fail
      refine HL.out.mono ?_
      rintro e w' ⟨rfl, k, rfl⟩
      have hd : decide (0 < n - p) = false := by simp; omega
      go_wp2
      go_ret
      exact ⟨ret_int H.out.symm, _, rfl⟩
  · have H : Hid (endErr n p E = E) := by unfold endErr; rw [if_neg hE]; rfl
    have hb : (E != 0) = true := by simp [hE]
    clear HL
    go_enter Try.func17, Try.ntmps17
    go_wp2
    go_ret
    exact ⟨ret_int H.out.symm, 0, rfl⟩

theorem clone_none (w : World) : Calls Try.prog 20 #[.slice none 0 0] w fun e w' => e = .returned (.slice none 0 0) ∧ w' = w := by
  have kn := fun (w : World) => Lib.run_eql_slice_nil (P := Try.prog) w 27 5 none 0 0 0 0 Try.underlying27
  go_enter Try.func20, Try.ntmps20
  go_wp2
  go_ret
  exact ⟨rfl, rfl⟩
theorem clone_hs (a : Option Addr) (n c : Nat) (l : List Int) (w : World) (h : Hs w a n c l) (hm : n ≤ 140737488355328) :
    Calls Try.prog 20 #[.slice a n c] w fun e w' => ∃ v', e = .returned v' ∧ Own w.heap.size w' v' l ∧ (a ≠ none → v' ≠ .slice none 0 0) ∧ Below w.heap.size w w' := by
  cases a with
  | none =>
    obtain ⟨rfl, rfl⟩ := h.nil rfl
    obtain rfl : 0 = n := h.len
    refine (clone_none w).mono ?_
    rintro e w' ⟨rfl, rfl⟩
    exact ⟨_, rfl, Own.nil _ _, fun h => absurd rfl h, Below.refl _ _⟩
  | some x =>
    refine (clone_any x n c l w (Nat.le_of_eq h.len.symm) hm (h.row x rfl)).mono ?_
    rintro e w' ⟨v', rfl, h1, h2, h3⟩
    rw [List.take_of_length_le (Nat.le_of_eq h.len)] at h1
    exact ⟨v', rfl, h1, fun _ => h2, h3⟩
/-- The place and capacity of a slice of the call's own. -/
theorem Own.place {B : Nat} {w : World} {v : Value} {l : List Int} (h : Own B w v l) (hb : ∀ z ∈ l, 0 ≤ z ∧ z < 256) : ∃ a n c, v = .slice a n c ∧ Hs w a n c l ∧ c ≤ maxLen ∧ ∀ x, a = some x → ∃ g, x = ⟨g, 0, none⟩ ∧ B ≤ g ∧ g < w.heap.size := by
  have hl := World.ownsRow.lt h
  obtain ⟨a, n, c, rfl, h2, _⟩ := h.hs hb
  refine ⟨a, n, c, rfl, h2, ?_, ?_⟩
  · rcases h.2 with ⟨h1, _⟩ | ⟨g, c, _, h1, _, _, _, h3, _⟩
    · cases h1; unfold maxLen; omega
    · cases h1; exact h3
  · intro x hx
    subst hx
    rcases h.2 with ⟨h1, _⟩ | ⟨g, c, _, h1, h3, _⟩
    · cases h1
    · cases h1
      exact ⟨g, rfl, h3, (hl g rfl).2⟩
set_option maxRecDepth 100000 in
theorem newreader_any (a : Option Addr) (n c : Nat) (l : List Int) (w : World) (h : Hs w a n c l) (hm : n ≤ 140737488355328) :
    Calls Try.prog 12 #[.slice a n c] w fun e w' => ∃ b a' c', e = .returned (.pointer (some ⟨b, 0, none⟩)) ∧ RSt w' b a' n c' l 0 0 ∧ w.heap.size ≤ b ∧ Below w.heap.size w w' := by
  have hby := h.byte
  have hln := h.len
  go_enter Try.func12, Try.ntmps12
  go_wp2_with fail
  refine (clone_hs a n c l w h hm).mono ?_
  clear h
  rintro e w1 ⟨v, rfl, ho, _, hb⟩
  obtain ⟨a', n', c', rfl, h2, h3, h4⟩ := ho.place hby
  have hnn : n' = n := by rw [← h2.len, hln]
  subst hnn
  clear ho hln
  go_wp2
  go_ret
  refine ⟨w1.heap.size, a', c', rfl, ⟨by simp, ?_, ?_, ?_, ?_, ?_, ?_, h2.later ((Below.refl _ _).alloc (Nat.le_refl _) _), h3, ?_, Nat.zero_le _⟩, hb.size, hb.alloc hb.size _⟩
  all_goals first | (intro x hx; obtain ⟨g, h5, h6, h7⟩ := h4 x hx; exact ⟨g, h5, by omega⟩) | simp

end Go.Proofs.Ythhghenaflnlfaa
