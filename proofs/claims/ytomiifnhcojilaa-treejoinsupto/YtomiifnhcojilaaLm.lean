import Derived.Test.YtomiifnhcojilaaGLc
import Derived.Laws.AppendOwnNone
import Derived.Sort.OwnSorted
namespace Go.Proofs.Ytomiifnhcojilaa
open Go.RowKit Go.Maps
set_option linter.unusedVariables false
set_option linter.unusedSimpArgs false

/-- Cells as cells. -/
def ccs : List Cl → List Value
  | [] => []
  | d :: r => .int .i64 d.1 :: .string d.2 :: ccs r
theorem ccs_length : ∀ l : List Cl, (ccs l).length = l.length * 2
  | [] => rfl
  | d :: r => by simp only [ccs, List.length_cons, ccs_length r]; omega
theorem ccs_append : ∀ l m : List Cl, ccs (l ++ m) = ccs l ++ ccs m
  | [], m => rfl
  | d :: r, m => by simp only [ccs, List.cons_append, ccs_append r m]
theorem ccs_get0 : ∀ (l : List Cl) (i : Nat) (d : Cl), l[i]? = some d → (ccs l)[i * 2]? = some (.int .i64 d.1)
  | [], i, d, h => by simp at h
  | x :: r, 0, d, h => by simp at h; subst h; simp [ccs]
  | x :: r, i + 1, d, h => by
    have e : (i + 1) * 2 = i * 2 + 1 + 1 := by omega
    rw [e]
    simp only [ccs, List.getElem?_cons_succ] at h ⊢
    exact ccs_get0 r i d h
theorem ccs_get1 : ∀ (l : List Cl) (i : Nat) (d : Cl), l[i]? = some d → (ccs l)[i * 2 + 1]? = some (.string d.2)
  | [], i, d, h => by simp at h
  | x :: r, 0, d, h => by simp at h; subst h; simp [ccs]
  | x :: r, i + 1, d, h => by
    have e : (i + 1) * 2 + 1 = i * 2 + 1 + 1 + 1 := by omega
    rw [e]
    simp only [ccs, List.getElem?_cons_succ] at h ⊢
    exact ccs_get1 r i d h
theorem info_parts {P : Program} {t : TypeId} {z : Option Value} {s b : Nat} (h : (P.info? t).map (fun i => (i.zero, i.size, i.bytes)) = some (z, s, b)) : ∃ i, P.info? t = some i ∧ i.zero = z ∧ i.size = s ∧ i.bytes = b := by
  cases h2 : P.info? t with
  | none => rw [h2] at h; cases h
  | some i =>
    rw [h2] at h
    simp at h
    exact ⟨i, rfl, h.1, h.2.1, h.2.2⟩

/-- Cells that lie from an address on. -/
def LieC (w : World) (q o : Nat) (D : List Cl) : Prop := ∀ i d, D[i]? = some d → w.cell? ⟨q, o + i * 2, none⟩ = some (.int .i64 d.1) ∧ w.cell? ⟨q, o + i * 2 + 1, none⟩ = some (.string d.2)
theorem LieC.upd {S : Nat → Prop} {w w' : World} {q o : Nat} {D : List Cl} (h : LieC w q o D) (u : Upd S w w') (hq : q < w.heap.size) (hs : ¬ S q) : LieC w' q o D := fun i d hd =>
  ⟨(u.cell (p := ⟨q, o + i * 2, none⟩) hq hs).trans (h i d hd).1, (u.cell (p := ⟨q, o + i * 2 + 1, none⟩) hq hs).trans (h i d hd).2⟩
theorem LieC.tail {w : World} {q o : Nat} {d : Cl} {D : List Cl} (h : LieC w q o (d :: D)) : LieC w q (o + 2) D := fun i e he => by
  have := h (i + 1) e (by simpa using he)
  rw [show o + 2 + i * 2 = o + (i + 1) * 2 from by omega]
  exact this
/-- A slice of cells, whatever it is. -/
structure SlC (w : World) (v : Value) (D : List Cl) (a : Option Addr) (c : Nat) : Prop where
  form : v = .slice a D.length c
  cap : D.length ≤ c
  max : c ≤ maxLen
  nil : a = none → D = [] ∧ c = 0
  at_ : ∀ x, a = some x → (D = [] ∧ c = 0) ∨ ∃ q o, x = ⟨q, o, none⟩ ∧ q < w.heap.size ∧ LieC w q o D
theorem SlC.upd {S : Nat → Prop} {w w' : World} {v : Value} {D : List Cl} {a : Option Addr} {c : Nat} (h : SlC w v D a c) (u : Upd S w w') (hs : ∀ x, a = some x → D ≠ [] → ¬ S x.block) : SlC w' v D a c :=
  ⟨h.form, h.cap, h.max, h.nil, fun x hx => by
    rcases h.at_ x hx with h1 | ⟨q, o, rfl, hq, hl⟩
    · exact .inl h1
    · refine .inr ⟨q, o, rfl, Nat.lt_of_lt_of_le hq u.size, ?_⟩
      by_cases hD : D = []
      · subst hD
        intro i d hd
        cases hd
      · exact hl.upd u hq (hs _ hx hD)⟩


theorem ccs_one : ∀ (l : List Cl) (u : Value), u ∈ ccs l → u.oneCell' = true
  | [], u, h => by cases h
  | d :: r, u, h => by
    simp only [ccs, List.mem_cons] at h
    rcases h with rfl | rfl | h
    · rfl
    · rfl
    · exact ccs_one r u h
theorem ccs_at : ∀ (D : List Cl) (w : World) (q o : Nat), LieC w q o D → ∀ j u, (ccs D)[j]? = some u → w.cell? ⟨q, o + j, none⟩ = some u
  | [], w, q, o, h, j, u, hu => by simp [ccs] at hu
  | d :: r, w, q, o, h, 0, u, hu => by
    simp [ccs] at hu; subst hu
    have := (h 0 d rfl).1
    simpa using this
  | d :: r, w, q, o, h, 1, u, hu => by
    simp [ccs] at hu; subst hu
    have := (h 0 d rfl).2
    simpa using this
  | d :: r, w, q, o, h, j + 2, u, hu => by
    simp only [ccs, List.getElem?_cons_succ] at hu
    have := ccs_at r w q (o + 2) h.tail j u hu
    rw [show o + (j + 2) = o + 2 + j from by omega]
    exact this
theorem ccs_set : ∀ (l : List Cl) (k : Nat) (x : Int) (y : ByteArray), ccs (l.set k (x, y)) = ((ccs l).set (k * 2) (.int .i64 x)).set (k * 2 + 1) (.string y)
  | [], k, x, y => by simp [ccs]
  | d :: r, 0, x, y => by simp [ccs]
  | d :: r, k + 1, x, y => by
    have e : (k + 1) * 2 = k * 2 + 1 + 1 := by omega
    rw [e]
    simp only [List.set_cons_succ, ccs, ccs_set r k x y]
end Go.Proofs.Ytomiifnhcojilaa
