import Derived.Test.YtidfcflcjkbeeaaHa
namespace Go.Proofs.Ytidfcflcjkbeeaa
open Go.RowKit Go.Maps
open Classical
set_option linter.unusedVariables false
set_option linter.unusedSimpArgs false

/-- A Given at block b that keeps vectors (cells 2 and 3) and logs (cells 4 and 5). -/
structure GM (w : World) (b B : Nat) (v2 v3 v4 v5 : Value) (Da Db : List (SV (Int × Int))) (La Lb : List (SV En)) : Prop where
  lt : b < B
  ltB : B ≤ w.heap.size
  c2 : w.cell? ⟨b, 2, none⟩ = some v2
  c3 : w.cell? ⟨b, 3, none⟩ = some v3
  c4 : w.cell? ⟨b, 4, none⟩ = some v4
  c5 : w.cell? ⟨b, 5, none⟩ = some v5
  f : ∀ i, w.frozen? ⟨b, i, none⟩ = false
  ce : ∀ i, i < 10 → (i < 2 ∨ 5 < i) → w.cell? ⟨b, i, none⟩ = some (.slice none 0 0)
  o2 : OwnY zD B w v2 Da
  o3 : OwnY zD B w v3 Db
  o4 : OwnY zE B w v4 La
  o5 : OwnY zE B w v5 Lb
  ne2 : ∀ k, v2.ownBlock = some k → v3.ownBlock = some k → False
  ne4 : ∀ k, v4.ownBlock = some k → v5.ownBlock = some k → False
  m2 : ∀ x, x ∈ Da → OwnY yD B w x.v x.D
  m3 : ∀ x, x ∈ Db → OwnY yD B w x.v x.D
  m4 : ∀ x, x ∈ La → OwnY yE B w x.v x.D
  m5 : ∀ x, x ∈ Lb → OwnY yE B w x.v x.D
theorem GM.bel {w w' : World} {b B : Nat} {v2 v3 v4 v5 : Value} {Da Db : List (SV (Int × Int))} {La Lb : List (SV En)} (h : GM w b B v2 v3 v4 v5 Da Db La Lb) (hb : Below w.heap.size w w') : GM w' b B v2 v3 v4 v5 Da Db La Lb := by
  have hlt : b < w.heap.size := Nat.lt_of_lt_of_le h.lt h.ltB
  exact ⟨h.lt, Nat.le_trans h.ltB hb.size, (hb.cell (p := ⟨b, _, none⟩) hlt).trans h.c2, (hb.cell (p := ⟨b, _, none⟩) hlt).trans h.c3, (hb.cell (p := ⟨b, _, none⟩) hlt).trans h.c4, (hb.cell (p := ⟨b, _, none⟩) hlt).trans h.c5, fun i => (hb.frozen (p := ⟨b, _, none⟩) hlt).trans (h.f i), fun i h0 h1 => (hb.cell (p := ⟨b, _, none⟩) hlt).trans (h.ce i h0 h1), h.o2.grow hb, h.o3.grow hb, h.o4.grow hb, h.o5.grow hb, h.ne2, h.ne4, fun x hx => (h.m2 x hx).grow hb, fun x hx => (h.m3 x hx).grow hb, fun x hx => (h.m4 x hx).grow hb, fun x hx => (h.m5 x hx).grow hb⟩
/-- A new Given. -/
theorem GM.new (w : World) (t : TypeId) : GM (w.alloc (.cells #[.slice none 0 0, .slice none 0 0, .slice none 0 0, .slice none 0 0, .slice none 0 0, .slice none 0 0, .slice none 0 0, .slice none 0 0, .slice none 0 0, .slice none 0 0] t)) w.heap.size (w.heap.size + 1) (.slice none 0 0) (.slice none 0 0) (.slice none 0 0) (.slice none 0 0) [] [] [] [] := by
  have hc : ∀ i, i < 10 → (w.alloc (.cells #[.slice none 0 0, .slice none 0 0, .slice none 0 0, .slice none 0 0, .slice none 0 0, .slice none 0 0, .slice none 0 0, .slice none 0 0, .slice none 0 0, .slice none 0 0] t)).cell? ⟨w.heap.size, i, none⟩ = some (.slice none 0 0) := by
    intro i hi
    rw [World.cell?_alloc_at _ _ _ _ rfl]
    rcases (by omega : i = 0 ∨ i = 1 ∨ i = 2 ∨ i = 3 ∨ i = 4 ∨ i = 5 ∨ i = 6 ∨ i = 7 ∨ i = 8 ∨ i = 9) with rfl | rfl | rfl | rfl | rfl | rfl | rfl | rfl | rfl | rfl <;> rfl
  exact ⟨Nat.lt_succ_self _, by simp, hc 2 (by omega), hc 3 (by omega), hc 4 (by omega), hc 5 (by omega), fun i => by simp, fun i h0 _ => hc i h0, OwnY.nil _ _ _, OwnY.nil _ _ _, OwnY.nil _ _ _, OwnY.nil _ _ _, (fun k h => by cases h), (fun k h => by cases h), (fun p hp => by cases hp), (fun p hp => by cases hp), (fun p hp => by cases hp), (fun p hp => by cases hp)⟩
theorem GM.pushDa {w w3 : World} {b B : Nat} {v2 v3 v4 v5 v' : Value} {Da Db : List (SV (Int × Int))} {La Lb : List (SV En)} {x : SV (Int × Int)} (G : GM w b B v2 v3 v4 v5 Da Db La Lb) (hx : OwnY yD B w x.v x.D) (g3 : w.grownBy w3 v2.ownBlock) (o3 : OwnY zD B w3 v' (Da ++ [x])) (n3 : v'.ownBlock = v2.ownBlock ∨ ∃ k, v'.ownBlock = some k ∧ w.heap.size ≤ k) :
    GM (w3.setCell ⟨b, 2, none⟩ v') b B v' v3 v4 v5 (Da ++ [x]) Db La Lb := by
  have hlt : b < w.heap.size := Nat.lt_of_lt_of_le G.lt G.ltB
  have hrow : v2.ownBlock ≠ some b := fun e => by have := (G.o2.blk b e).1; have := G.lt; omega
  have ob : (⟨b, 2, none⟩ : Addr).block < B := G.lt
  refine ⟨G.lt, by simpa [World.setCell] using Nat.le_trans G.ltB g3.size, setc_eq (gcell g3 G.c2 hrow), setc_ne (gcell g3 G.c3 hrow) (by omega), setc_ne (gcell g3 G.c4 hrow) (by omega), setc_ne (gcell g3 G.c5 hrow) (by omega), fun i => setf (gfroz g3 hlt (G.f i) hrow), fun i h0 h1 => setc_ne (gcell g3 (G.ce i h0 h1) hrow) (by omega), o3.low_set ob _, (OwnY.grownN G.o3 g3 (fun k e e' => G.ne2 k e' e)).low_set ob _, (OwnY.grownZ G.o4 G.o2 hzz.symm g3).low_set ob _, (OwnY.grownZ G.o5 G.o2 hzz.symm g3).low_set ob _, ?_, G.ne4, ?_, fun y hy => ((G.m3 y hy).grownZ G.o2 hTD g3).low_set ob _, fun y hy => ((G.m4 y hy).grownZ G.o2 hED g3).low_set ob _, fun y hy => ((G.m5 y hy).grownZ G.o2 hED g3).low_set ob _⟩
  · intro k e e'
    rcases n3 with n3 | ⟨k', hk, hk2⟩
    · exact G.ne2 k (n3.symm.trans e) e'
    · rw [hk] at e
      cases e
      have := (G.o3.blk k e').2
      omega
  · intro y hy
    rcases List.mem_append.1 hy with hy | hy
    · exact ((G.m2 y hy).grownZ G.o2 hTD g3).low_set ob _
    · simp at hy
      subst hy
      exact (hx.grownZ G.o2 hTD g3).low_set ob _
theorem GM.pushDb {w w3 : World} {b B : Nat} {v2 v3 v4 v5 v' : Value} {Da Db : List (SV (Int × Int))} {La Lb : List (SV En)} {x : SV (Int × Int)} (G : GM w b B v2 v3 v4 v5 Da Db La Lb) (hx : OwnY yD B w x.v x.D) (g3 : w.grownBy w3 v3.ownBlock) (o3 : OwnY zD B w3 v' (Db ++ [x])) (n3 : v'.ownBlock = v3.ownBlock ∨ ∃ k, v'.ownBlock = some k ∧ w.heap.size ≤ k) :
    GM (w3.setCell ⟨b, 3, none⟩ v') b B v2 v' v4 v5 Da (Db ++ [x]) La Lb := by
  have hlt : b < w.heap.size := Nat.lt_of_lt_of_le G.lt G.ltB
  have hrow : v3.ownBlock ≠ some b := fun e => by have := (G.o3.blk b e).1; have := G.lt; omega
  have ob : (⟨b, 3, none⟩ : Addr).block < B := G.lt
  refine ⟨G.lt, by simpa [World.setCell] using Nat.le_trans G.ltB g3.size, setc_ne (gcell g3 G.c2 hrow) (by omega), setc_eq (gcell g3 G.c3 hrow), setc_ne (gcell g3 G.c4 hrow) (by omega), setc_ne (gcell g3 G.c5 hrow) (by omega), fun i => setf (gfroz g3 hlt (G.f i) hrow), fun i h0 h1 => setc_ne (gcell g3 (G.ce i h0 h1) hrow) (by omega), (OwnY.grownN G.o2 g3 (fun k e e' => G.ne2 k e e')).low_set ob _, o3.low_set ob _, (OwnY.grownZ G.o4 G.o3 hzz.symm g3).low_set ob _, (OwnY.grownZ G.o5 G.o3 hzz.symm g3).low_set ob _, ?_, G.ne4, fun y hy => ((G.m2 y hy).grownZ G.o3 hTD g3).low_set ob _, ?_, fun y hy => ((G.m4 y hy).grownZ G.o3 hED g3).low_set ob _, fun y hy => ((G.m5 y hy).grownZ G.o3 hED g3).low_set ob _⟩
  · intro k e e'
    rcases n3 with n3 | ⟨k', hk, hk2⟩
    · exact G.ne2 k e (n3.symm.trans e')
    · rw [hk] at e'
      cases e'
      have := (G.o2.blk k e).2
      omega
  · intro y hy
    rcases List.mem_append.1 hy with hy | hy
    · exact ((G.m3 y hy).grownZ G.o3 hTD g3).low_set ob _
    · simp at hy
      subst hy
      exact (hx.grownZ G.o3 hTD g3).low_set ob _
theorem GM.pushLa {w w3 : World} {b B : Nat} {v2 v3 v4 v5 v' : Value} {Da Db : List (SV (Int × Int))} {La Lb : List (SV En)} {x : SV En} (G : GM w b B v2 v3 v4 v5 Da Db La Lb) (hx : OwnY yE B w x.v x.D) (g3 : w.grownBy w3 v4.ownBlock) (o3 : OwnY zE B w3 v' (La ++ [x])) (n3 : v'.ownBlock = v4.ownBlock ∨ ∃ k, v'.ownBlock = some k ∧ w.heap.size ≤ k) :
    GM (w3.setCell ⟨b, 4, none⟩ v') b B v2 v3 v' v5 Da Db (La ++ [x]) Lb := by
  have hlt : b < w.heap.size := Nat.lt_of_lt_of_le G.lt G.ltB
  have hrow : v4.ownBlock ≠ some b := fun e => by have := (G.o4.blk b e).1; have := G.lt; omega
  have ob : (⟨b, 4, none⟩ : Addr).block < B := G.lt
  refine ⟨G.lt, by simpa [World.setCell] using Nat.le_trans G.ltB g3.size, setc_ne (gcell g3 G.c2 hrow) (by omega), setc_ne (gcell g3 G.c3 hrow) (by omega), setc_eq (gcell g3 G.c4 hrow), setc_ne (gcell g3 G.c5 hrow) (by omega), fun i => setf (gfroz g3 hlt (G.f i) hrow), fun i h0 h1 => setc_ne (gcell g3 (G.ce i h0 h1) hrow) (by omega), (OwnY.grownZ G.o2 G.o4 hzz g3).low_set ob _, (OwnY.grownZ G.o3 G.o4 hzz g3).low_set ob _, o3.low_set ob _, (OwnY.grownN G.o5 g3 (fun k e e' => G.ne4 k e' e)).low_set ob _, G.ne2, ?_, fun y hy => ((G.m2 y hy).grownZ G.o4 hDE g3).low_set ob _, fun y hy => ((G.m3 y hy).grownZ G.o4 hDE g3).low_set ob _, ?_, fun y hy => ((G.m5 y hy).grownZ G.o4 hTE g3).low_set ob _⟩
  · intro k e e'
    rcases n3 with n3 | ⟨k', hk, hk2⟩
    · exact G.ne4 k (n3.symm.trans e) e'
    · rw [hk] at e
      cases e
      have := (G.o5.blk k e').2
      omega
  · intro y hy
    rcases List.mem_append.1 hy with hy | hy
    · exact ((G.m4 y hy).grownZ G.o4 hTE g3).low_set ob _
    · simp at hy
      subst hy
      exact (hx.grownZ G.o4 hTE g3).low_set ob _
theorem GM.pushLb {w w3 : World} {b B : Nat} {v2 v3 v4 v5 v' : Value} {Da Db : List (SV (Int × Int))} {La Lb : List (SV En)} {x : SV En} (G : GM w b B v2 v3 v4 v5 Da Db La Lb) (hx : OwnY yE B w x.v x.D) (g3 : w.grownBy w3 v5.ownBlock) (o3 : OwnY zE B w3 v' (Lb ++ [x])) (n3 : v'.ownBlock = v5.ownBlock ∨ ∃ k, v'.ownBlock = some k ∧ w.heap.size ≤ k) :
    GM (w3.setCell ⟨b, 5, none⟩ v') b B v2 v3 v4 v' Da Db La (Lb ++ [x]) := by
  have hlt : b < w.heap.size := Nat.lt_of_lt_of_le G.lt G.ltB
  have hrow : v5.ownBlock ≠ some b := fun e => by have := (G.o5.blk b e).1; have := G.lt; omega
  have ob : (⟨b, 5, none⟩ : Addr).block < B := G.lt
  refine ⟨G.lt, by simpa [World.setCell] using Nat.le_trans G.ltB g3.size, setc_ne (gcell g3 G.c2 hrow) (by omega), setc_ne (gcell g3 G.c3 hrow) (by omega), setc_ne (gcell g3 G.c4 hrow) (by omega), setc_eq (gcell g3 G.c5 hrow), fun i => setf (gfroz g3 hlt (G.f i) hrow), fun i h0 h1 => setc_ne (gcell g3 (G.ce i h0 h1) hrow) (by omega), (OwnY.grownZ G.o2 G.o5 hzz g3).low_set ob _, (OwnY.grownZ G.o3 G.o5 hzz g3).low_set ob _, (OwnY.grownN G.o4 g3 (fun k e e' => G.ne4 k e e')).low_set ob _, o3.low_set ob _, G.ne2, ?_, fun y hy => ((G.m2 y hy).grownZ G.o5 hDE g3).low_set ob _, fun y hy => ((G.m3 y hy).grownZ G.o5 hDE g3).low_set ob _, fun y hy => ((G.m4 y hy).grownZ G.o5 hTE g3).low_set ob _, ?_⟩
  · intro k e e'
    rcases n3 with n3 | ⟨k', hk, hk2⟩
    · exact G.ne4 k e (n3.symm.trans e')
    · rw [hk] at e'
      cases e'
      have := (G.o4.blk k e).2
      omega
  · intro y hy
    rcases List.mem_append.1 hy with hy | hy
    · exact ((G.m5 y hy).grownZ G.o5 hTE g3).low_set ob _
    · simp at hy
      subst hy
      exact (hx.grownZ G.o5 hTE g3).low_set ob _
end Go.Proofs.Ytidfcflcjkbeeaa
