import Derived.Test.YtomiifnhcojilaaGWs
namespace Go.Proofs.Ytomiifnhcojilaa.Wi
open Go.RowKit
set_option linter.unusedVariables false

/-- A Reader at the head of block b that NewReader made: its bytes, how far, its error. -/
structure RSt (w : World) (b : Nat) (a : Option Addr) (n c : Nat) (l : List Int) (p : Nat) (err : Int) : Prop where
  lt : b < w.heap.size
  c0 : w.cell? ⟨b, 0, none⟩ = some (.bool true)
  c1 : w.cell? ⟨b, 1, none⟩ = some (.slice a n c)
  c2 : w.cell? ⟨b, 2, none⟩ = some (.int .i64 p)
  c3 : w.cell? ⟨b, 3, none⟩ = some (.int .i64 err)
  f2 : w.frozen? ⟨b, 2, none⟩ = false
  f3 : w.frozen? ⟨b, 3, none⟩ = false
  hs : Hs w a n c l
  cmax : c ≤ maxLen
  ne : ∀ x, a = some x → ∃ g, x = ⟨g, 0, none⟩ ∧ g ≠ b
  le : p ≤ n

theorem Row.far {w : World} {g : Nat} {l : List Int} (h : Row w ⟨g, 0, none⟩ l) {p : Addr} (hp : p.block ≠ g) (u : Value) : Row (w.setCell p u) ⟨g, 0, none⟩ l := by
  intro i hi
  have h1 := h i hi
  rw [Addr.add_lit] at h1 ⊢
  rw [World.cell?_of_block (w := w) (Below.heap_setCell w p u g (fun e => hp e.symm))]
  exact h1
theorem Hs.far {w : World} {a : Option Addr} {n c : Nat} {l : List Int} (h : Hs w a n c l) {b : Nat} (hne : ∀ x, a = some x → ∃ g, x = ⟨g, 0, none⟩ ∧ g ≠ b) (k : Nat) (u : Value) : Hs (w.setCell ⟨b, k, none⟩ u) a n c l := by
  refine ⟨h.len, h.cap, fun x hx => ?_, h.nil, h.byte⟩
  obtain ⟨g, rfl, hg⟩ := hne x hx
  exact (h.row _ hx).far (by show b ≠ g; exact fun e => hg e.symm) u
/-- The rest of a slice from a place on. -/
theorem Hs.rest {w : World} {g n c : Nat} {l : List Int} (h : Hs w (some ⟨g, 0, none⟩) n c l) (p : Nat) (hp : p ≤ n) : Hs w (some ⟨g, p, none⟩) (n - p) (c - p) (l.drop p) := by
  refine ⟨by rw [List.length_drop, h.len], by have := h.cap; omega, fun x hx => ?_, fun hx => by (cases hx), fun z hz => h.byte z (List.mem_of_mem_drop hz)⟩
  cases hx
  have := (h.row _ rfl).drop p
  rwa [Nat.zero_add] at this
theorem Hs.rest_end {w : World} {g n c : Nat} {l : List Int} (h : Hs w (some ⟨g, 0, none⟩) n c l) (hp : n = c) : Hs w (some ⟨g, 0, none⟩) 0 0 (l.drop c) := by
  have hl : l.drop c = [] := List.drop_eq_nil_of_le (by rw [h.len]; omega)
  rw [hl]
  exact ⟨rfl, Nat.le_refl _, fun x hx i hi => by (simp at hi), fun hx => by (cases hx), fun z hz => by (cases hz)⟩

theorem tnSize_le (l : List Int) (h : ∀ z ∈ l, 0 ≤ z ∧ z < 256) : tnSize l ≤ l.length ∧ tnSize l ≤ 9 := by
  cases l with
  | nil => exact ⟨by simp [tnSize, tnErr], by simp [tnSize, tnErr]⟩
  | cons k d =>
    by_cases he : tnErr (k :: d) = 0
    · have hk := h k (by simp)
      have : tnSize (k :: d) = 1 + k.toNat := by unfold tnSize; rw [if_pos he]; rfl
      simp only [tnErr] at he
      split at he
      · cases he
      · split at he
        · cases he
        · rename_i h1 h2
          rw [this]
          simp only [List.length_cons]
          omega
    · rw [(tn_bad he).2]
      exact ⟨Nat.zero_le _, Nat.zero_le _⟩

theorem RSt.stepped {w : World} {b : Nat} {a : Option Addr} {n c : Nat} {l : List Int} {p : Nat} {e : Int} (h : RSt w b a n c l p e) (p' : Nat) (e' : Int) (k : Nat) (hp : p' ≤ n) :
    RSt (((w.setCell ⟨b, 2, none⟩ (.int .i64 (p' : Int))).setCell ⟨b, 3, none⟩ (.int .i64 e')).drewN k) b a n c l p' e' := by
  obtain ⟨hlt, c0, c1, c2, c3, f2, f3, hs, cmax, ne, hle⟩ := h
  refine ⟨?_, ?_, ?_, ?_, ?_, ?_, ?_, ((hs.far ne 2 _).far ne 3 _).later (below_drewN (Below.refl _ _) k), cmax, ne, hp⟩
  all_goals go_simp
theorem Below.two {B b : Nat} {w0 w : World} (h : Below B w0 w) (hB : B ≤ b) (u v : Value) (k : Nat) : Below B w0 (((w.setCell ⟨b, 2, none⟩ u).setCell ⟨b, 3, none⟩ v).drewN k) :=
  below_drewN ((h.setCell hB u).setCell hB v) k

/-- What End answers. -/
def endErr (n p : Nat) (E : Int) : Int := if E = 0 then if p < n then 15 else 0 else E
theorem clone_none (w : World) : Calls Try.prog 99 #[.slice none 0 0] w fun e w' => e = .returned (.slice none 0 0) ∧ w' = w := by
  have kn := fun (w : World) => Lib.run_eql_slice_nil (P := Try.prog) w 73 5 none 0 0 0 0 Try.underlying73
  go_enter Try.func99, Try.ntmps99
  go_wp2
  go_ret
  exact ⟨rfl, rfl⟩
theorem clone_hs (a : Option Addr) (n c : Nat) (l : List Int) (w : World) (h : Hs w a n c l) (hm : n ≤ 140737488355328) :
    Calls Try.prog 99 #[.slice a n c] w fun e w' => ∃ v', e = .returned v' ∧ Own w.heap.size w' v' l ∧ (a ≠ none → v' ≠ .slice none 0 0) ∧ Below w.heap.size w w' := by
  cases a with
  | none =>
    obtain ⟨rfl, rfl⟩ := h.nil rfl
    obtain rfl : 0 = n := h.len
    refine (clone_none w).mono ?_
    rintro e w' ⟨rfl, rfl⟩
    exact ⟨_, rfl, Own.nil _ _, fun h => absurd rfl h, Below.refl _ _⟩
  | some x =>
    refine (clone_any x n c l w (Nat.le_of_eq h.len.symm) hm (h.row x rfl)).mono ?_
    rintro e w' ⟨v', rfl, h1, h2, h3⟩
    rw [List.take_of_length_le (Nat.le_of_eq h.len)] at h1
    exact ⟨v', rfl, h1, fun _ => h2, h3⟩
/-- The place and capacity of a slice of the call's own. -/
theorem Own.place {B : Nat} {w : World} {v : Value} {l : List Int} (h : Own B w v l) (hb : ∀ z ∈ l, 0 ≤ z ∧ z < 256) : ∃ a n c, v = .slice a n c ∧ Hs w a n c l ∧ c ≤ maxLen ∧ ∀ x, a = some x → ∃ g, x = ⟨g, 0, none⟩ ∧ B ≤ g ∧ g < w.heap.size := by
  have hl := World.ownsRow.lt h
  obtain ⟨a, n, c, rfl, h2, _⟩ := h.hs hb
  refine ⟨a, n, c, rfl, h2, ?_, ?_⟩
  · rcases h.2 with ⟨h1, _⟩ | ⟨g, c, _, h1, _, _, _, h3, _⟩
    · cases h1; unfold maxLen; omega
    · cases h1; exact h3
  · intro x hx
    subst hx
    rcases h.2 with ⟨h1, _⟩ | ⟨g, c, _, h1, h3, _⟩
    · cases h1
    · cases h1
      exact ⟨g, rfl, h3, (hl g rfl).2⟩
end Go.Proofs.Ytomiifnhcojilaa.Wi
