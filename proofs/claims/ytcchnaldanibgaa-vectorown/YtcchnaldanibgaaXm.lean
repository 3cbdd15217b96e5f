import Derived.Test.YtcchnaldanibgaaXl
namespace Go.Proofs.Ytcchnaldanibgaa
open Go.RowKit
set_option linter.unusedVariables false
set_option linter.unusedSimpArgs false

/-- A vector that a call made is put into the book, be it empty or not: lim lies above all that the book holds, lim' above the vector too. -/
theorem bookV {w : World} {b B : Nat} {v1 v2 : Value} {J : List VecJ} {V : List Vec} {a : Option Addr} {n c lim lim' : Nat} {D : List (Int × Int)} (G : BX w b B v1 v2 J V) (hx : OwnD lim w (.slice a n c) D) (hB : B ≤ lim) (hll : lim ≤ lim') (hlim : ∀ y, y ∈ V → blkOf y.a < lim) (hl' : ∀ k, (Value.slice a n c).ownBlock = some k → k < lim') (hn : n ≤ 1000) (hV : V.length ≤ 1000) :
    Calls Try.prog 34 #[.pointer (some ⟨b, 0, none⟩), .slice a n c] w fun e w' => ∃ v2' V', e = .returned (.tuple #[]) ∧ BX w' b B v1 v2' J V' ∧ V'.length ≤ V.length + 1 ∧ (∀ y, y ∈ V' → blkOf y.a < lim') ∧ Upd (fun k => k = b ∨ v2.ownBlock = some k) w w' := by
  have hD := hx.len
  by_cases h0 : n = 0
  · subst h0
    refine (book_none b a c w).mono ?_
    rintro e w' ⟨rfl, rfl⟩
    exact ⟨v2, V, rfl, G, by omega, fun y hy => Nat.lt_of_lt_of_le (hlim y hy) hll, Upd.refl _ _⟩
  · obtain ⟨g, rfl, hg⟩ : ∃ g, a = some ⟨g, 0, none⟩ ∧ lim ≤ g := by
      obtain ⟨a', c', hf, _, _, hno, hs⟩ := hx.form
      injection hf with f1 f2 f3
      subst f1
      cases a with
      | none => have := (hno rfl).1; rw [this] at hD; simp at hD; omega
      | some z => obtain ⟨g, rfl, h1, _⟩ := hs z rfl; exact ⟨g, rfl, h1⟩
    refine (book_vec b B v1 v2 J V ⟨some ⟨g, 0, none⟩, c, D⟩ n w G hD (hx.low hB) (by omega) hn (fun y hy e => ?_) hV).mono ?_
    · have := hlim y hy
      have e : y.a = some ⟨g, 0, none⟩ := e
      rw [e] at this
      have : g < lim := this
      omega
    · rintro e w' ⟨v2', rfl, G', u⟩
      refine ⟨v2', _, rfl, G', by simp, fun y hy => ?_, u⟩
      rcases List.mem_append.1 hy with hy | hy
      · exact Nat.lt_of_lt_of_le (hlim y hy) hll
      · simp at hy
        subst hy
        exact hl' g rfl
theorem OwnJ.len {B : Nat} {w : World} {a : Option Addr} {n c : Nat} {D : List Int} (h : OwnJ B w (.slice a n c) D) : D.length = n := by
  obtain ⟨a', c', hf, _⟩ := h.form
  injection hf with f1 f2 f3
  exact f2.symm
theorem bookJ {w : World} {b B : Nat} {v1 v2 : Value} {J : List VecJ} {V : List Vec} {a : Option Addr} {n c lim lim' : Nat} {D : List Int} (G : BX w b B v1 v2 J V) (hx : OwnJ lim w (.slice a n c) D) (hB : B ≤ lim) (hll : lim ≤ lim') (hlim : ∀ y, y ∈ J → blkOf y.a < lim) (hl' : ∀ k, (Value.slice a n c).ownBlock = some k → k < lim') (hn : n ≤ 1000) (hV : J.length ≤ 1000) :
    Calls Try.prog 35 #[.pointer (some ⟨b, 0, none⟩), .slice a n c] w fun e w' => ∃ v1' J', e = .returned (.tuple #[]) ∧ BX w' b B v1' v2 J' V ∧ J'.length ≤ J.length + 1 ∧ (∀ y, y ∈ J' → blkOf y.a < lim') ∧ Upd (fun k => k = b ∨ v1.ownBlock = some k) w w' := by
  have hD := hx.len
  by_cases h0 : n = 0
  · subst h0
    refine (bookints_none b a c w).mono ?_
    rintro e w' ⟨rfl, rfl⟩
    exact ⟨v1, J, rfl, G, by omega, fun y hy => Nat.lt_of_lt_of_le (hlim y hy) hll, Upd.refl _ _⟩
  · obtain ⟨g, rfl, hg⟩ : ∃ g, a = some ⟨g, 0, none⟩ ∧ lim ≤ g := by
      obtain ⟨a', c', hf, _, _, hno, hs⟩ := hx.form
      injection hf with f1 f2 f3
      subst f1
      cases a with
      | none => have := (hno rfl).1; rw [this] at hD; simp at hD; omega
      | some z => obtain ⟨g, rfl, h1, _⟩ := hs z rfl; exact ⟨g, rfl, h1⟩
    refine (book_ints b B v1 v2 J V ⟨some ⟨g, 0, none⟩, c, D⟩ n w G hD (hx.low hB) (by omega) hn (fun y hy e => ?_) hV).mono ?_
    · have := hlim y hy
      have e : y.a = some ⟨g, 0, none⟩ := e
      rw [e] at this
      have : g < lim := this
      omega
    · rintro e w' ⟨v1', rfl, G', u⟩
      refine ⟨v1', _, rfl, G', by simp, fun y hy => ?_, u⟩
      rcases List.mem_append.1 hy with hy | hy
      · exact Nat.lt_of_lt_of_le (hlim y hy) hll
      · simp at hy
        subst hy
        exact hl' g rfl

end Go.Proofs.Ytcchnaldanibgaa
