import Derived.Test.YthhghenaflnlfaaCm
import Derived.Test.YthhghenaflnlfaaSm
import Derived.Test.YthhghenaflnlfaaRf
import Derived.Deep.RegionLaw
namespace Go.Proofs.Ythhghenaflnlfaa
open Go.RowKit
set_option linter.unusedVariables false

theorem Try.info22 : (Try.prog.info? 27).map (fun i => (i.zero, i.size, i.bytes)) = some (some (.slice none 0 0), 1, 24) := by kernel_rfl

theorem Own.ne_nil {B : Nat} {w : World} {v : Value} {l : List Int} (h : Own B w v l) (hl : 0 < l.length) : v ≠ .slice none 0 0 := by
  rintro rfl
  rcases h.2 with ⟨_, h2⟩ | ⟨_, _, _, h2, _⟩
  · omega
  · cases h2
theorem Row.far' {w : World} {g : Nat} {l : List Int} (h : Row w ⟨g, 0, none⟩ l) {p : Addr} (hp : p.block ≠ g) (u : Value) : Row (w.setCell p u) ⟨g, 0, none⟩ l := by
  intro i hi
  have h1 := h i hi
  rw [Addr.add_lit] at h1 ⊢
  rw [World.cell?_of_block (w := w) (Below.heap_setCell w p u g (fun e => hp e.symm))]
  exact h1
theorem Hs.far' {w : World} {g n c : Nat} {l : List Int} (h : Hs w (some ⟨g, 0, none⟩) n c l) {p : Addr} (hp : p.block ≠ g) (u : Value) : Hs (w.setCell p u) (some ⟨g, 0, none⟩) n c l :=
  ⟨h.len, h.cap, fun x hx => by (cases hx; exact (h.row _ rfl).far' hp u), fun hx => by (cases hx), h.byte⟩
theorem Own.hs' {B : Nat} {w : World} {g n c : Nat} {l : List Int} (h : Own B w (.slice (some ⟨g, 0, none⟩) n c) l) (hn : l.length = n) (hb : ∀ z ∈ l, 0 ≤ z ∧ z < 256) : Hs w (some ⟨g, 0, none⟩) n c l :=
  ⟨hn, h.cap, fun x hx => by (cases hx; exact h.row), fun hx => by (cases hx), hb⟩
theorem Own.capmax {B : Nat} {w : World} {g n c : Nat} {l : List Int} (h : Own B w (.slice (some ⟨g, 0, none⟩) n c) l) : c ≤ maxLen := by
  rcases h.2 with ⟨h1, _⟩ | ⟨g, c, _, h1, _, _, _, h3, _⟩
  · cases h1
  · cases h1; exact h3
/-- A Given at block b with one list in it. -/
structure GOne (w : World) (b : Nat) (l : List Int) : Prop where
  lt : b < w.heap.size
  bytes : ∃ r c a n k, w.cell? ⟨b, 0, none⟩ = some (.slice (some ⟨r, 0, none⟩) 1 c) ∧ 1 ≤ c ∧ w.cell? ⟨r, 0, none⟩ = some (.slice a n k) ∧ Hs w a n k l
  was : ∃ r c a n k, w.cell? ⟨b, 1, none⟩ = some (.slice (some ⟨r, 0, none⟩) 1 c) ∧ 1 ≤ c ∧ w.cell? ⟨r, 0, none⟩ = some (.slice a n k) ∧ Hs w a n k l
  draws : w.cell? ⟨b, 2, none⟩ = some (.slice none 0 0)
  entries : w.cell? ⟨b, 4, none⟩ = some (.slice none 0 0)
  ints : w.cell? ⟨b, 6, none⟩ = some (.slice none 0 0)
  states : w.cell? ⟨b, 8, none⟩ = some (.slice none 0 0)
theorem GOne.later {w w' : World} {b : Nat} {l : List Int} (h : GOne w b l) (hb : Below w.heap.size w w') : GOne w' b l := by
  obtain ⟨r, c, a, n, k, e1, e2, e3, e4⟩ := h.bytes
  obtain ⟨r', c', a', n', k', e1', e2', e3', e4'⟩ := h.was
  exact ⟨Nat.lt_of_lt_of_le h.lt hb.size, ⟨r, c, a, n, k, cell_later hb e1, e2, cell_later hb e3, e4.later hb⟩, ⟨r', c', a', n', k', cell_later hb e1', e2', cell_later hb e3', e4'.later hb⟩, cell_later hb h.draws, cell_later hb h.entries, cell_later hb h.ints, cell_later hb h.states⟩

end Go.Proofs.Ythhghenaflnlfaa
