import Derived.Test.YtcchnaldanibgaaXm
namespace Go.Proofs.Ytcchnaldanibgaa
open Go.RowKit
set_option linter.unusedVariables false
set_option linter.unusedSimpArgs false

/-- A Given that holds nothing yet lies below any bound above it. -/
theorem GX.raise {w : World} {b B B' : Nat} (G : GX w b B (.slice none 0 0) (.slice none 0 0) [] []) (h : b < B') (h' : B' ≤ w.heap.size) : GX w b B' (.slice none 0 0) (.slice none 0 0) [] [] :=
  ⟨h, h', G.c0, G.c4, G.c6, G.c8, G.c2, G.c3, G.f2, G.f3, OwnV.nil _ _, OwnV.nil _ _, (fun k h => by cases h), (fun p hp => by cases hp), (fun p hp => by cases hp)⟩
/-- A book that holds nothing yet, likewise. -/
theorem BX.raise {w : World} {b B B' : Nat} (G : BX w b B (.slice none 0 0) (.slice none 0 0) [] []) (h : b < B') (h' : B' ≤ w.heap.size) : BX w b B' (.slice none 0 0) (.slice none 0 0) [] [] :=
  ⟨h, h', G.nils, G.c1, G.c2, G.f1, G.f2, OwnVJ.nil _ _, OwnV.nil _ _, (fun p hp => by cases hp), (fun p hp => by cases hp), (fun i j x y hx => by cases hx), (fun i j x y hx => by cases hx)⟩
/-- A Given beside which but one block below its bound has changed. -/
theorem GX.beside {w w' : World} {b B b' : Nat} {v2 v3 : Value} {L2 L3 : List Vec} (h : GX w b B v2 v3 L2 L3) (u : Upd (· = b') w w') (hb : b ≠ b') (hB : b' < B) : GX w' b B v2 v3 L2 L3 := by
  have hlt : b < w.heap.size := Nat.lt_of_lt_of_le h.lt h.ltB
  have hs : ∀ k, B ≤ k → ¬ k = b' := fun k hk e => by omega
  exact ⟨h.lt, Nat.le_trans h.ltB u.size, (u.cell (p := ⟨b, 0, none⟩) hlt hb).trans h.c0, (u.cell (p := ⟨b, 4, none⟩) hlt hb).trans h.c4, (u.cell (p := ⟨b, 6, none⟩) hlt hb).trans h.c6, (u.cell (p := ⟨b, 8, none⟩) hlt hb).trans h.c8, (u.cell (p := ⟨b, 2, none⟩) hlt hb).trans h.c2, (u.cell (p := ⟨b, 3, none⟩) hlt hb).trans h.c3,
    (u.frozen (p := ⟨b, 2, none⟩) hlt hb).trans h.f2, (u.frozen (p := ⟨b, 3, none⟩) hlt hb).trans h.f3, h.o2.upd u hs, h.o3.upd u hs, h.ne, fun x hx => (h.d2 x hx).upd u hs, fun x hx => (h.d3 x hx).upd u hs⟩

end Go.Proofs.Ytcchnaldanibgaa
