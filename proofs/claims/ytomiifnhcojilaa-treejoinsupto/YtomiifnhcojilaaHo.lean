import Derived.Test.YtomiifnhcojilaaCl
import Derived.Laws.AppendOwnNone
namespace Go.Proofs.Ytomiifnhcojilaa.Wi
open Go.RowKit
set_option linter.unusedVariables false

theorem Own.row {B : Nat} {w : World} {g n c : Nat} {l : List Int} (h : Own B w (.slice (some ⟨g, 0, none⟩) n c) l) : Row w ⟨g, 0, none⟩ l := by
  intro i hi
  refine World.ownsRow.cells h (g := g) rfl i _ ?_
  simp [bs, hi, List.getD]
theorem Own.cap {B : Nat} {w : World} {g n c : Nat} {l : List Int} (h : Own B w (.slice (some ⟨g, 0, none⟩) n c) l) : n ≤ c := by
  rcases h.2 with ⟨h1, _⟩ | ⟨g, c, _, h1, _, _, h2, _⟩
  · cases h1
  · cases h1; exact h2

/-- A slice of bytes, nil or not, that holds l. -/
structure Hs (w : World) (a : Option Addr) (n c : Nat) (l : List Int) : Prop where
  len : l.length = n
  cap : n ≤ c
  row : ∀ x, a = some x → Row w x l
  nil : a = none → l = [] ∧ c = 0
  byte : ∀ z ∈ l, 0 ≤ z ∧ z < 256
theorem Hs.later {w w' : World} {a : Option Addr} {n c : Nat} {l : List Int} (h : Hs w a n c l) (hb : Below w.heap.size w w') : Hs w' a n c l :=
  ⟨h.len, h.cap, fun x hx => (h.row x hx).later hb, h.nil, h.byte⟩
theorem Row.take {w : World} {x : Addr} {l : List Int} (h : Row w x l) (k : Nat) : Row w x (l.take k) := by
  intro i hi
  have h1 : i < k := by simp at hi; omega
  have h2 : i < l.length := by simp at hi; omega
  rw [List.getD_eq_getElem?_getD, List.getElem?_take_of_lt h1, ← List.getD_eq_getElem?_getD]
  exact h i h2
/-- What a proof's frame knows of a slice that came in. -/
theorem Hs.of {w : World} {a : Option Addr} {len cap : Nat} {zs : List Int}
    (h : (a = none ∧ len = 0 ∧ cap = 0 ∧ zs = []) ∨ ∃ x, a = some x ∧ len ≤ cap ∧ cap ≤ maxLen ∧ zs.length = cap ∧ (∀ i, i < zs.length → w.cell? (x.add i) = some (.int .u8 (zs.getD i 0))) ∧ ∀ n ∈ zs, (Lit.int .u8 n).wf = true) :
    Hs w a len cap (zs.take len) ∧ len ≤ maxLen := by
  rcases h with ⟨rfl, rfl, rfl, rfl⟩ | ⟨x, rfl, h1, h2, h3, h4, h5⟩
  · exact ⟨⟨rfl, Nat.le_refl _, fun x hx => (by cases hx), fun _ => ⟨rfl, rfl⟩, fun z hz => (by cases hz)⟩, by unfold maxLen; omega⟩
  · refine ⟨⟨by simp; omega, h1, fun y hy => ?_, fun hx => (by cases hx), fun z hz => ?_⟩, by omega⟩
    · cases hy
      exact Row.take h4 len
    · have := h5 z (List.mem_of_mem_take hz)
      simp [Lit.wf, IntKind.min, IntKind.max, IntKind.bits, IntKind.signed] at this
      omega
theorem Own.hs {B : Nat} {w : World} {v : Value} {l : List Int} (h : Own B w v l) (hb : ∀ z ∈ l, 0 ≤ z ∧ z < 256) : ∃ a n c, v = .slice a n c ∧ Hs w a n c l ∧ (v ≠ .slice none 0 0 → a ≠ none) := by
  by_cases hn : v = .slice none 0 0
  · subst hn
    have hl : l = [] := by
      rcases h.2 with ⟨_, h2⟩ | ⟨_, _, _, h2, _⟩
      · exact List.eq_nil_of_length_eq_zero h2
      · cases h2
    subst hl
    exact ⟨none, 0, 0, rfl, ⟨rfl, Nat.le_refl _, fun x hx => by (cases hx), fun _ => ⟨rfl, rfl⟩, hb⟩, fun h => absurd rfl h⟩
  · obtain ⟨g, c, rfl, _, _⟩ := h.shape hn
    exact ⟨_, _, c, rfl, ⟨rfl, h.cap, fun x hx => by (cases hx; exact h.row), fun hx => by (cases hx), hb⟩, fun _ => by simp⟩

/-- 'append' of a slice of bytes, nil or not. -/
theorem app_hs (w : World) {ops : Array Oper} {rest : List Oper} {o : Oper} {a : Act} {Q : Exit → Act → World → Prop} (hgd : o.guard = none) (s x : Operand)
    (ho : o.op = .call { callee := .builtin .append, args := #[s, x], argTypes := #[73, 73] }) (B : Nat) (l : List Int) (v : Value) (hs : a.eval s = v)
    (ad : Option Addr) (m c : Nat) (hx : a.eval x = .slice ad m c) (news : List Int) (hh : Hs w ad m c news) (hown : Own B w v l) (hB : B ≤ w.heap.size) (hb : l.length + m ≤ 140737488355328)
    (h : ∀ v' w', Own B w' v' (l ++ news) → Keeps v v' m → w.grownBy w' v.ownBlock → wpList Try.prog ops Q rest (a.put o.dst v') w') : wpList Try.prog ops Q (o :: rest) a w := by
  cases ad with
  | none =>
    obtain ⟨rfl, rfl⟩ := hh.nil rfl
    obtain rfl : m = 0 := hh.len.symm
    obtain ⟨i0, hi, hz0, hz1, hz2⟩ := info_parts Try.info5
    refine wpList_append_own_none hgd s x 73 ho B 5 i0 1 Try.underlying73 hi v l.length (bs l) hs hown hx ?_
    refine h v w (by rw [List.append_nil]; exact hown) ?_ (World.grownBy.refl _ _)
    rintro (hp | hp)
    · exact hp
    · omega
  | some y =>
    refine app_any w hgd s x ho B l v hs y m c hx news hh.len hown (fun j hj => hh.row y rfl j (by rw [hh.len]; exact hj)) hB hb h

end Go.Proofs.Ytomiifnhcojilaa.Wi
