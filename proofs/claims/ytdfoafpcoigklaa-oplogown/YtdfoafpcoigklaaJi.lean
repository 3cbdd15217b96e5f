import Derived.Test.YtdfoafpcoigklaaJh
namespace Go.Proofs.Ytdfoafpcoigklaa
open Go.RowKit Go.Maps
open Classical
set_option linter.unusedVariables false
set_option linter.unusedSimpArgs false

/-- A book of entries, cells and results. -/
structure B3 (w : World) (b A B : Nat) (v1 v2 v3 : Value) (V1 : List (SV En)) (V2 : List (SV Cl)) (V3 : List (SV Rs)) : Prop where
  e : CY yE zEnB 3 w b A B v1 V1
  c : CY yCl zClB 4 w b A B v2 V2
  r : CY yRs zRsB 6 w b A B v3 V3
  ce : ∀ i, i < 10 → i ≠ 3 → i ≠ 4 → i ≠ 6 → w.cell? ⟨b, i, none⟩ = some (.slice none 0 0)
/-- The lists lie below. -/
def Lim {α : Type} (V : List (SV α)) (lim : Nat) : Prop := ∀ y, y ∈ V → ∀ z, y.a = some z → z.block < lim
theorem Lim.mono {α : Type} {V : List (SV α)} {l l' : Nat} (h : Lim V l) (hl : l ≤ l') : Lim V l' := fun y hy z hz => Nat.lt_of_lt_of_le (h y hy z hz) hl
section
variable {w w' : World} {b A B : Nat} {v1 v2 v3 : Value} {V1 : List (SV En)} {V2 : List (SV Cl)} {V3 : List (SV Rs)}
theorem B3.bel (h : B3 w b A B v1 v2 v3 V1 V2 V3) (hb : Below w.heap.size w w') : B3 w' b A B v1 v2 v3 V1 V2 V3 :=
  ⟨h.e.bel hb, h.c.bel hb, h.r.bel hb, fun i a1 a2 a3 a4 => (hb.cell (p := ⟨b, _, none⟩) (Nat.lt_of_lt_of_le h.e.lt h.e.ltB)).trans (h.ce i a1 a2 a3 a4)⟩
/-- A new one. -/
theorem B3.new (A : Nat) (w : World) (t : TypeId) : B3 (w.alloc (.cells #[.slice none 0 0, .slice none 0 0, .slice none 0 0, .slice none 0 0, .slice none 0 0, .slice none 0 0, .slice none 0 0, .slice none 0 0, .slice none 0 0, .slice none 0 0] t)) w.heap.size A (w.heap.size + 1) (.slice none 0 0) (.slice none 0 0) (.slice none 0 0) [] [] [] := by
  have hc : ∀ i, i < 10 → (w.alloc (.cells #[.slice none 0 0, .slice none 0 0, .slice none 0 0, .slice none 0 0, .slice none 0 0, .slice none 0 0, .slice none 0 0, .slice none 0 0, .slice none 0 0, .slice none 0 0] t)).cell? ⟨w.heap.size, i, none⟩ = some (.slice none 0 0) := by
    intro i hi
    rw [World.cell?_alloc_at _ _ _ _ rfl]
    rcases (by omega : i = 0 ∨ i = 1 ∨ i = 2 ∨ i = 3 ∨ i = 4 ∨ i = 5 ∨ i = 6 ∨ i = 7 ∨ i = 8 ∨ i = 9) with rfl | rfl | rfl | rfl | rfl | rfl | rfl | rfl | rfl | rfl <;> rfl
  have z : (w.alloc (.cells #[.slice none 0 0, .slice none 0 0, .slice none 0 0, .slice none 0 0, .slice none 0 0, .slice none 0 0, .slice none 0 0, .slice none 0 0, .slice none 0 0, .slice none 0 0] t)).heap.size = w.heap.size + 1 := by simp
  have n3 := CY.new yE zEnB 3 w.heap.size A _ (by rw [z]; omega) (hc 3 (by omega)) (by simp)
  have n4 := CY.new yCl zClB 4 w.heap.size A _ (by rw [z]; omega) (hc 4 (by omega)) (by simp)
  have n6 := CY.new yRs zRsB 6 w.heap.size A _ (by rw [z]; omega) (hc 6 (by omega)) (by simp)
  rw [z] at n3 n4 n6
  exact ⟨n3, n4, n6, fun i h _ _ _ => hc i h⟩
/-- What is no row of the book's stands beside it. -/
theorem own_beside {α β : Type} {Y : Lay α} {Z : Lay β} {lim B' : Nat} {v vr : Value} {l : List α} {lr : List β} (h : OwnY Y lim w v l) (hb : b < lim) (hr : OwnY Z B' w vr lr) (hT : Y.T ≠ Z.T) (u : Upd (fun k => k = b ∨ vr.ownBlock = some k) w w') : OwnY Y lim w' v l :=
  h.upd1 u (fun g hg hs => hs.elim (fun e => by have := (h.blk g hg).1; omega) (fun e => h.apart hr hT g hg e))
theorem B3.pushEn {w3 wa : World} {x : SV En} {v' : Value} (G : B3 w b A B v1 v2 v3 V1 V2 V3) (ba : Below w.heap.size w wa) (g3 : wa.grownBy w3 v1.ownBlock) (h : CY yE zEnB 3 (w3.setCell ⟨b, 3, none⟩ v') b A B v' (V1 ++ [x])) : B3 (w3.setCell ⟨b, 3, none⟩ v') b A B v' v2 v3 (V1 ++ [x]) V2 V3 := by
  have GA := G.bel ba
  have hrow : v1.ownBlock ≠ some b := fun e => by have := (GA.e.o.blk b e).1; have := GA.e.lt; omega
  exact ⟨h, GA.c.beside GA.e.o GA.e.lt (by decide) (by decide) (by decide) g3, GA.r.beside GA.e.o GA.e.lt (by decide) (by decide) (by decide) g3, fun i a1 a2 a3 a4 => setc_ne (gcell g3 (GA.ce i a1 a2 a3 a4) hrow) (by omega)⟩
theorem B3.bookEn (G : B3 w b A B v1 v2 v3 V1 V2 V3) {a : Option Addr} {n c lim : Nat} {D : List En} (hA : A ≤ lim) (own : OwnY yE lim w (.slice a n c) D) (hnb : ∀ z, a = some z → z.block ≠ b) (hne : n ≠ 0 → ∀ y, y ∈ V1 → y.a ≠ a) (h1 : n ≤ 1000) (hV : V1.length ≤ 99) :
    Calls Try.prog 48 #[.pointer (some ⟨b, 0, none⟩), .slice a n c] w fun e w' => e = .returned (.tuple #[]) ∧ ∃ v1' V1', B3 w' b A B v1' v2 v3 V1' V2 V3 ∧ (∀ y, y ∈ V1' → y ∈ V1 ∨ y.a = a) ∧ V1'.length ≤ V1.length + 1 ∧ Upd (fun k => k = b ∨ v1.ownBlock = some k) w w' ∧ (v1'.ownBlock = v1.ownBlock ∨ ∃ k, v1'.ownBlock = some k ∧ w.heap.size ≤ k) := by
  have hl : D.length = n := (own.sl' kE).len
  by_cases h0 : n = 0
  · subst h0
    refine (bookEn_none b a c w).mono ?_
    rintro e w2 ⟨rfl, rfl⟩
    exact ⟨rfl, _, _, G, fun y hy => .inl hy, Nat.le_succ _, Upd.refl _ _, .inl rfl⟩
  · have hxb : (SV.mk a c D).v.ownBlock ≠ some b := fun e => by
      unfold SV.v at e
      cases a with
      | none => cases e
      | some z =>
        obtain ⟨a', c', hf, _, _, hn, hs⟩ := own.form
        injection hf with f1 f2 f3
        obtain ⟨g, rfl, _⟩ := hs z f1.symm
        injection e with e
        exact hnb _ rfl e
    have := bookEn_any b A B v1 V1 ⟨a, c, D⟩ w G.e (by unfold SV.v; dsimp only; rw [hl]; exact own.low hA) hxb (by dsimp only; omega) (by dsimp only; omega) (hne h0) (by omega)
    dsimp only at this
    rw [hl] at this
    refine this.mono ?_
    rintro e w2 ⟨rfl, v', wa, w3, rfl, ba, g3, cy, u, n3⟩
    refine ⟨rfl, _, _, G.pushEn ba g3 cy, fun y hy => ?_, by simp, u, n3⟩
    rcases List.mem_append.1 hy with hy | hy
    · exact .inl hy
    · simp at hy
      subst hy
      exact .inr rfl
theorem B3.pushCl {w3 wa : World} {x : SV Cl} {v' : Value} (G : B3 w b A B v1 v2 v3 V1 V2 V3) (ba : Below w.heap.size w wa) (g3 : wa.grownBy w3 v2.ownBlock) (h : CY yCl zClB 4 (w3.setCell ⟨b, 4, none⟩ v') b A B v' (V2 ++ [x])) : B3 (w3.setCell ⟨b, 4, none⟩ v') b A B v1 v' v3 V1 (V2 ++ [x]) V3 := by
  have GA := G.bel ba
  have hrow : v2.ownBlock ≠ some b := fun e => by have := (GA.c.o.blk b e).1; have := GA.c.lt; omega
  exact ⟨GA.e.beside GA.c.o GA.c.lt (by decide) (by decide) (by decide) g3, h, GA.r.beside GA.c.o GA.c.lt (by decide) (by decide) (by decide) g3, fun i a1 a2 a3 a4 => setc_ne (gcell g3 (GA.ce i a1 a2 a3 a4) hrow) (by omega)⟩
theorem B3.bookCl (G : B3 w b A B v1 v2 v3 V1 V2 V3) {a : Option Addr} {n c lim : Nat} {D : List Cl} (hA : A ≤ lim) (own : OwnY yCl lim w (.slice a n c) D) (hnb : ∀ z, a = some z → z.block ≠ b) (hne : n ≠ 0 → ∀ y, y ∈ V2 → y.a ≠ a) (h1 : n ≤ 1000) (hV : V2.length ≤ 99) :
    Calls Try.prog 49 #[.pointer (some ⟨b, 0, none⟩), .slice a n c] w fun e w' => e = .returned (.tuple #[]) ∧ ∃ v2' V2', B3 w' b A B v1 v2' v3 V1 V2' V3 ∧ (∀ y, y ∈ V2' → y ∈ V2 ∨ y.a = a) ∧ V2'.length ≤ V2.length + 1 ∧ Upd (fun k => k = b ∨ v2.ownBlock = some k) w w' ∧ (v2'.ownBlock = v2.ownBlock ∨ ∃ k, v2'.ownBlock = some k ∧ w.heap.size ≤ k) := by
  have hl : D.length = n := (own.sl' kCl).len
  by_cases h0 : n = 0
  · subst h0
    refine (bookCl_none b a c w).mono ?_
    rintro e w2 ⟨rfl, rfl⟩
    exact ⟨rfl, _, _, G, fun y hy => .inl hy, Nat.le_succ _, Upd.refl _ _, .inl rfl⟩
  · have hxb : (SV.mk a c D).v.ownBlock ≠ some b := fun e => by
      unfold SV.v at e
      cases a with
      | none => cases e
      | some z =>
        obtain ⟨a', c', hf, _, _, hn, hs⟩ := own.form
        injection hf with f1 f2 f3
        obtain ⟨g, rfl, _⟩ := hs z f1.symm
        injection e with e
        exact hnb _ rfl e
    have := bookCl_any b A B v2 V2 ⟨a, c, D⟩ w G.c (by unfold SV.v; dsimp only; rw [hl]; exact own.low hA) hxb (by dsimp only; omega) (by dsimp only; omega) (hne h0) (by omega)
    dsimp only at this
    rw [hl] at this
    refine this.mono ?_
    rintro e w2 ⟨rfl, v', wa, w3, rfl, ba, g3, cy, u, n3⟩
    refine ⟨rfl, _, _, G.pushCl ba g3 cy, fun y hy => ?_, by simp, u, n3⟩
    rcases List.mem_append.1 hy with hy | hy
    · exact .inl hy
    · simp at hy
      subst hy
      exact .inr rfl
theorem B3.pushRs {w3 wa : World} {x : SV Rs} {v' : Value} (G : B3 w b A B v1 v2 v3 V1 V2 V3) (ba : Below w.heap.size w wa) (g3 : wa.grownBy w3 v3.ownBlock) (h : CY yRs zRsB 6 (w3.setCell ⟨b, 6, none⟩ v') b A B v' (V3 ++ [x])) : B3 (w3.setCell ⟨b, 6, none⟩ v') b A B v1 v2 v' V1 V2 (V3 ++ [x]) := by
  have GA := G.bel ba
  have hrow : v3.ownBlock ≠ some b := fun e => by have := (GA.r.o.blk b e).1; have := GA.r.lt; omega
  exact ⟨GA.e.beside GA.r.o GA.r.lt (by decide) (by decide) (by decide) g3, GA.c.beside GA.r.o GA.r.lt (by decide) (by decide) (by decide) g3, h, fun i a1 a2 a3 a4 => setc_ne (gcell g3 (GA.ce i a1 a2 a3 a4) hrow) (by omega)⟩
theorem B3.bookRs (G : B3 w b A B v1 v2 v3 V1 V2 V3) {a : Option Addr} {n c lim : Nat} {D : List Rs} (hA : A ≤ lim) (own : OwnY yRs lim w (.slice a n c) D) (hnb : ∀ z, a = some z → z.block ≠ b) (hne : n ≠ 0 → ∀ y, y ∈ V3 → y.a ≠ a) (h1 : n ≤ 1000) (hV : V3.length ≤ 99) :
    Calls Try.prog 50 #[.pointer (some ⟨b, 0, none⟩), .slice a n c] w fun e w' => e = .returned (.tuple #[]) ∧ ∃ v3' V3', B3 w' b A B v1 v2 v3' V1 V2 V3' ∧ (∀ y, y ∈ V3' → y ∈ V3 ∨ y.a = a) ∧ V3'.length ≤ V3.length + 1 ∧ Upd (fun k => k = b ∨ v3.ownBlock = some k) w w' ∧ (v3'.ownBlock = v3.ownBlock ∨ ∃ k, v3'.ownBlock = some k ∧ w.heap.size ≤ k) := by
  have hl : D.length = n := (own.sl' kRs).len
  by_cases h0 : n = 0
  · subst h0
    refine (bookRs_none b a c w).mono ?_
    rintro e w2 ⟨rfl, rfl⟩
    exact ⟨rfl, _, _, G, fun y hy => .inl hy, Nat.le_succ _, Upd.refl _ _, .inl rfl⟩
  · have hxb : (SV.mk a c D).v.ownBlock ≠ some b := fun e => by
      unfold SV.v at e
      cases a with
      | none => cases e
      | some z =>
        obtain ⟨a', c', hf, _, _, hn, hs⟩ := own.form
        injection hf with f1 f2 f3
        obtain ⟨g, rfl, _⟩ := hs z f1.symm
        injection e with e
        exact hnb _ rfl e
    have := bookRs_any b A B v3 V3 ⟨a, c, D⟩ w G.r (by unfold SV.v; dsimp only; rw [hl]; exact own.low hA) hxb (by dsimp only; omega) (by dsimp only; omega) (hne h0) (by omega)
    dsimp only at this
    rw [hl] at this
    refine this.mono ?_
    rintro e w2 ⟨rfl, v', wa, w3, rfl, ba, g3, cy, u, n3⟩
    refine ⟨rfl, _, _, G.pushRs ba g3 cy, fun y hy => ?_, by simp, u, n3⟩
    rcases List.mem_append.1 hy with hy | hy
    · exact .inl hy
    · simp at hy
      subst hy
      exact .inr rfl
end

end Go.Proofs.Ytdfoafpcoigklaa
