import Derived.Test.YtfoegkbbokcplaaYc
import Derived.Deep.RegionLaw
namespace Go.Proofs.Ytfoegkbbokcplaa
open Go.RowKit Go.Maps
set_option linter.unusedVariables false
set_option linter.unusedSimpArgs false

/-- A slice that a row keeps, and what it holds. -/
structure SV (α : Type) where
  a : Option Addr
  c : Nat
  D : List α
def SV.v {α : Type} (x : SV α) : Value := .slice x.a x.D.length x.c
/-- Rows of slices. -/
def yS (α : Type) (T ST : TypeId) : Lay (SV α) := ⟨T, ST, 1, 24, fun x => [.slice x.a x.D.length x.c], ⟨none, 0, []⟩⟩
theorem kS {α : Type} {T ST : TypeId} (hu : Try.prog.underlying ST = some (.slice T)) (hi : (Try.prog.info? T).map (fun i => (i.zero, i.size, i.bytes)) = some (some (.slice none 0 0), 1, 24)) : (yS α T ST).Ok :=
  ⟨by show 0 < 1; omega, fun x => rfl, fun x u h => by simp [yS] at h; subst h; rfl, hu, ⟨.slice none 0 0, hi, rfl⟩⟩
theorem setc_ne {w : World} {b i j : Nat} {u x : Value} (h : w.cell? ⟨b, i, none⟩ = some x) (hne : i ≠ j) : (w.setCell ⟨b, j, none⟩ u).cell? ⟨b, i, none⟩ = some x := by
  have hn : j ≠ i := fun e => hne e.symm
  go_simp
theorem setc_eq {w : World} {b i : Nat} {u x : Value} (h : w.cell? ⟨b, i, none⟩ = some x) : (w.setCell ⟨b, i, none⟩ u).cell? ⟨b, i, none⟩ = some u := by
  go_simp
theorem setf {w : World} {b i j : Nat} {u : Value} (h : w.frozen? ⟨b, i, none⟩ = false) : (w.setCell ⟨b, j, none⟩ u).frozen? ⟨b, i, none⟩ = false := by
  go_simp
theorem gcell {w w' : World} {row : Option Nat} (h : w.grownBy w' row) {b i : Nat} {x : Value} (hc : w.cell? ⟨b, i, none⟩ = some x) (hne : row ≠ some b) : w'.cell? ⟨b, i, none⟩ = some x :=
  h.cell hc (fun e => hne e.symm)
theorem gfroz {w w' : World} {row : Option Nat} (h : w.grownBy w' row) {b i : Nat} (hb : b < w.heap.size) (hc : w.frozen? ⟨b, i, none⟩ = false) (hne : row ≠ some b) : w'.frozen? ⟨b, i, none⟩ = false :=
  (World.frozen?_of_block (w := w) (h.block b hb (fun e => hne e.symm))).trans hc
theorem gupd {w w' : World} {row : Option Nat} (h : w.grownBy w' row) {S : Nat → Prop} (hs : ∀ k, row = some k → S k) : Upd S w w' :=
  ⟨h.os, h.tape, h.output, h.size, fun k hk hn => h.block k hk (fun e => hn (hs k e.symm))⟩
variable {α β : Type} {Y : Lay α} {Z : Lay β}
theorem OwnY.grownZ {B B' : Nat} {w w' : World} {v v2 : Value} {D : List α} {L : List β} (h : OwnY Y B w v D) (hv : OwnY Z B' w v2 L) (hT : Y.T ≠ Z.T) (hg : w.grownBy w' v2.ownBlock) : OwnY Y B w' v D := by
  refine World.ownsRow.kept h hg ?_
  cases e : v.ownBlock with
  | none => exact .inl rfl
  | some k => exact .inr (fun e' => h.apart hv hT k e e'.symm)
theorem OwnY.grownN {B : Nat} {w w' : World} {v v2 : Value} {D : List α} (h : OwnY Y B w v D) (hg : w.grownBy w' v2.ownBlock) (hne : ∀ k, v.ownBlock = some k → v2.ownBlock = some k → False) : OwnY Y B w' v D := by
  refine World.ownsRow.kept h hg ?_
  cases e : v.ownBlock with
  | none => exact .inl rfl
  | some k => exact .inr (fun e' => hne k e e'.symm)
theorem OwnY.low_set {B : Nat} {w : World} {v : Value} {D : List α} (h : OwnY Y B w v D) {p : Addr} (hp : p.block < B) (u : Value) : OwnY Y B (w.setCell p u) v D := ownsRow_setCell_below h hp u
/-- A Given at block b: of the cells p and p + 1 what it keeps, and how that was; the other cells hold E. -/
structure GY (Y : Lay α) (Z : Lay (SV α)) (p : Nat) (E : Nat → Value) (w : World) (b B : Nat) (va vb : Value) (La Lb : List (SV α)) : Prop where
  lt : b < B
  ltB : B ≤ w.heap.size
  ca : w.cell? ⟨b, p, none⟩ = some va
  cb : w.cell? ⟨b, p + 1, none⟩ = some vb
  fa : w.frozen? ⟨b, p, none⟩ = false
  fb : w.frozen? ⟨b, p + 1, none⟩ = false
  ce : ∀ i, i < 10 → i ≠ p → i ≠ p + 1 → w.cell? ⟨b, i, none⟩ = some (E i)
  oa : OwnY Z B w va La
  ob : OwnY Z B w vb Lb
  ne : ∀ k, va.ownBlock = some k → vb.ownBlock = some k → False
  da : ∀ x, x ∈ La → OwnY Y B w x.v x.D
  db : ∀ x, x ∈ Lb → OwnY Y B w x.v x.D
variable {Z : Lay (SV α)} {p : Nat} {E : Nat → Value}
theorem GY.bel {w w' : World} {b B : Nat} {va vb : Value} {La Lb : List (SV α)} (h : GY Y Z p E w b B va vb La Lb) (hb : Below w.heap.size w w') : GY Y Z p E w' b B va vb La Lb := by
  have hlt : b < w.heap.size := Nat.lt_of_lt_of_le h.lt h.ltB
  exact ⟨h.lt, Nat.le_trans h.ltB hb.size, (hb.cell (p := ⟨b, _, none⟩) hlt).trans h.ca, (hb.cell (p := ⟨b, _, none⟩) hlt).trans h.cb, (hb.frozen (p := ⟨b, _, none⟩) hlt).trans h.fa, (hb.frozen (p := ⟨b, _, none⟩) hlt).trans h.fb, fun i h0 h1 h2 => (hb.cell (p := ⟨b, _, none⟩) hlt).trans (h.ce i h0 h1 h2), h.oa.grow hb, h.ob.grow hb, h.ne, fun x hx => (h.da x hx).grow hb, fun x hx => (h.db x hx).grow hb⟩
/-- A new Given. -/
theorem GY.new (Y : Lay α) (Z : Lay (SV α)) (p : Nat) (hp : p + 1 < 10) (w : World) (t : TypeId) : GY Y Z p (fun _ => .slice none 0 0) (w.alloc (.cells #[.slice none 0 0, .slice none 0 0, .slice none 0 0, .slice none 0 0, .slice none 0 0, .slice none 0 0, .slice none 0 0, .slice none 0 0, .slice none 0 0, .slice none 0 0] t)) w.heap.size (w.heap.size + 1) (.slice none 0 0) (.slice none 0 0) [] [] := by
  have hc : ∀ i, i < 10 → (w.alloc (.cells #[.slice none 0 0, .slice none 0 0, .slice none 0 0, .slice none 0 0, .slice none 0 0, .slice none 0 0, .slice none 0 0, .slice none 0 0, .slice none 0 0, .slice none 0 0] t)).cell? ⟨w.heap.size, i, none⟩ = some (.slice none 0 0) := by
    intro i hi
    rw [World.cell?_alloc_at _ _ _ _ rfl]
    rcases (by omega : i = 0 ∨ i = 1 ∨ i = 2 ∨ i = 3 ∨ i = 4 ∨ i = 5 ∨ i = 6 ∨ i = 7 ∨ i = 8 ∨ i = 9) with rfl | rfl | rfl | rfl | rfl | rfl | rfl | rfl | rfl | rfl <;> rfl
  exact ⟨Nat.lt_succ_self _, by simp, hc p (by omega), hc (p + 1) hp, by simp, by simp, fun i h0 _ _ => hc i h0, OwnY.nil _ _ _, OwnY.nil _ _ _, (fun k h => by cases h), (fun p hp => by cases hp), (fun p hp => by cases hp)⟩
theorem GY.pushA {w w3 : World} {b B : Nat} {va vb va' : Value} {La Lb : List (SV α)} {x : SV α} (hT : Y.T ≠ Z.T) (G : GY Y Z p E w b B va vb La Lb) (hx : OwnY Y B w x.v x.D) (g3 : w.grownBy w3 va.ownBlock) (o3 : OwnY Z B w3 va' (La ++ [x])) (n3 : va'.ownBlock = va.ownBlock ∨ ∃ k, va'.ownBlock = some k ∧ w.heap.size ≤ k) :
    GY Y Z p E (w3.setCell ⟨b, p, none⟩ va') b B va' vb (La ++ [x]) Lb := by
  have hlt : b < w.heap.size := Nat.lt_of_lt_of_le G.lt G.ltB
  have hrow : va.ownBlock ≠ some b := fun e => by have := (G.oa.blk b e).1; have := G.lt; omega
  have ob : (⟨b, p, none⟩ : Addr).block < B := G.lt
  refine ⟨G.lt, by simpa [World.setCell] using Nat.le_trans G.ltB g3.size, setc_eq (gcell g3 G.ca hrow), setc_ne (gcell g3 G.cb hrow) (by omega), setf (gfroz g3 hlt G.fa hrow), setf (gfroz g3 hlt G.fb hrow), fun i h0 h1 h2 => setc_ne (gcell g3 (G.ce i h0 h1 h2) hrow) h1, o3.low_set ob _, (OwnY.grownN G.ob g3 (fun k e e' => G.ne k e' e)).low_set ob _, ?_, fun y hy => ?_, fun y hy => ((G.db y hy).grownZ G.oa hT g3).low_set ob _⟩
  · intro k e e'
    rcases n3 with n3 | ⟨k', hk, hk2⟩
    · exact G.ne k (n3.symm.trans e) e'
    · rw [hk] at e
      cases e
      have := (G.ob.blk k e').2
      omega
  · rcases List.mem_append.1 hy with hy | hy
    · exact ((G.da y hy).grownZ G.oa hT g3).low_set ob _
    · simp at hy
      subst hy
      exact (hx.grownZ G.oa hT g3).low_set ob _
theorem GY.pushB {w w3 : World} {b B : Nat} {va vb vb' : Value} {La Lb : List (SV α)} {x : SV α} (hT : Y.T ≠ Z.T) (G : GY Y Z p E w b B va vb La Lb) (hx : OwnY Y B w x.v x.D) (g3 : w.grownBy w3 vb.ownBlock) (o3 : OwnY Z B w3 vb' (Lb ++ [x])) (n3 : vb'.ownBlock = vb.ownBlock ∨ ∃ k, vb'.ownBlock = some k ∧ w.heap.size ≤ k) :
    GY Y Z p E (w3.setCell ⟨b, p + 1, none⟩ vb') b B va vb' La (Lb ++ [x]) := by
  have hlt : b < w.heap.size := Nat.lt_of_lt_of_le G.lt G.ltB
  have hrow : vb.ownBlock ≠ some b := fun e => by have := (G.ob.blk b e).1; have := G.lt; omega
  have ob : (⟨b, p + 1, none⟩ : Addr).block < B := G.lt
  refine ⟨G.lt, by simpa [World.setCell] using Nat.le_trans G.ltB g3.size, setc_ne (gcell g3 G.ca hrow) (by omega), setc_eq (gcell g3 G.cb hrow), setf (gfroz g3 hlt G.fa hrow), setf (gfroz g3 hlt G.fb hrow), fun i h0 h1 h2 => setc_ne (gcell g3 (G.ce i h0 h1 h2) hrow) h2, (OwnY.grownN G.oa g3 (fun k e e' => G.ne k e e')).low_set ob _, o3.low_set ob _, ?_, fun y hy => ((G.da y hy).grownZ G.ob hT g3).low_set ob _, fun y hy => ?_⟩
  · intro k e e'
    rcases n3 with n3 | ⟨k', hk, hk2⟩
    · exact G.ne k e (n3.symm.trans e')
    · rw [hk] at e'
      cases e'
      have := (G.oa.blk k e).2
      omega
  · rcases List.mem_append.1 hy with hy | hy
    · exact ((G.db y hy).grownZ G.ob hT g3).low_set ob _
    · simp at hy
      subst hy
      exact (hx.grownZ G.ob hT g3).low_set ob _
/-- A beginning of a row of the call's own. -/
theorem OwnY.front (K : Y.Ok) {w : World} {g n c k B : Nat} {D F : List α} (h : OwnY Y B w (.slice (some ⟨g, 0, none⟩) k c) (D ++ F)) (hn : D.length = n) : SlY Y w (some ⟨g, 0, none⟩) n c D := by
  have := (h.sl' K).take n (by have := (h.sl' K).len; rw [List.length_append] at this; omega)
  rw [List.take_append_of_le_length (by omega), List.take_of_length_le (by omega)] at this
  exact this

end Go.Proofs.Ytfoegkbbokcplaa
