import Derived.Test.YtilngncjbikkgaaRo5
import Derived.Test.YtilngncjbikkgaaGka
namespace Go.Proofs.Ytilngncjbikkgaa
open Go.RowKit
set_option linter.unusedVariables false
set_option linter.unusedSimpArgs false

/-- The document's group. -/
structure RG (w : World) (B g pg mg n cp cm : Nat) (vt : Value) (k R : Int) (rd : Nat → Int) (md : Nat → Nat) (v : Nat → Value) (s : Nat → Int) (L : List (Int × Int × Int)) : Prop where
  gl : g < w.heap.size ∧ pg < w.heap.size ∧ mg < w.heap.size
  c0 : w.cell? ⟨g, 0, none⟩ = some (.int .i64 k)
  clk : QClk w g 1 R
  c2 : w.cell? ⟨g, 2, none⟩ = some (.slice (some ⟨pg, 0, none⟩) n cp)
  c3 : w.cell? ⟨g, 3, none⟩ = some (.slice (some ⟨mg, 0, none⟩) n cm)
  c4 : w.cell? ⟨g, 4, none⟩ = some vt
  f4 : w.frozen? ⟨g, 4, none⟩ = false
  cap : n ≤ cp ∧ n ≤ cm
  P : ∀ i, i < 2 * n → w.cell? ⟨pg, i, none⟩ = some (if i % 2 = 0 then .pointer (some ⟨g, 1, none⟩) else v (i / 2)) ∧ w.frozen? ⟨pg, i, none⟩ = false
  O : ∀ j, j < n → OwnD B w (v j) (dl (rd j) (md j)) ∧ md j ≤ 65535
  M : ∀ j, j < n → w.cell? ⟨mg, j, none⟩ = some (.int .u64 (s j)) ∧ w.frozen? ⟨mg, j, none⟩ = false
  Ms : ∀ j, j < n → 0 ≤ s j ∧ s j ≤ 18446744073709551615
  T : OwnS B w vt L
  s1 : ∀ i j b, i < n → j < n → i ≠ j → (v i).ownBlock = some b → (v j).ownBlock ≠ some b
  s2 : ∀ j b, j < n → vt.ownBlock = some b → (v j).ownBlock ≠ some b
  gB : g < B ∧ pg < B ∧ mg < B
  gs : g ≠ pg ∧ g ≠ mg ∧ pg ≠ mg
  hB : B ≤ w.heap.size
  n7 : n ≤ 7
section
variable {w : World} {B g pg mg n cp cm : Nat} {vt : Value} {k R : Int} {rd : Nat → Int} {md : Nat → Nat} {v : Nat → Value} {s : Nat → Int} {L : List (Int × Int × Int)}
/-- The blocks of such a group. -/
def rgb (g pg mg n : Nat) (vt : Value) (v : Nat → Value) (b : Nat) : Prop := b = g ∨ b = pg ∨ b = mg ∨ vt.ownBlock = some b ∨ ∃ j, j < n ∧ (v j).ownBlock = some b
theorem RG.upd {S : Nat → Prop} {w' : World} (h : RG w B g pg mg n cp cm vt k R rd md v s L) (u : Upd S w w') (hs : ∀ b, rgb g pg mg n vt v b → ¬ S b) : RG w' B g pg mg n cp cm vt k R rd md v s L := by
  have hg := hs g (.inl rfl)
  have hp := hs pg (.inr (.inl rfl))
  have hm := hs mg (.inr (.inr (.inl rfl)))
  have l := h.gl
  exact ⟨⟨by have := u.size; omega, by have := u.size; omega, by have := u.size; omega⟩, (u.cell (p := ⟨g, 0, none⟩) l.1 hg).trans h.c0, h.clk.upd u hg, (u.cell (p := ⟨g, 2, none⟩) l.1 hg).trans h.c2, (u.cell (p := ⟨g, 3, none⟩) l.1 hg).trans h.c3, (u.cell (p := ⟨g, 4, none⟩) l.1 hg).trans h.c4, (u.frozen (p := ⟨g, 4, none⟩) l.1 hg).trans h.f4, h.cap,
    fun i hi => ⟨(u.cell (p := ⟨pg, i, none⟩) l.2.1 hp).trans (h.P i hi).1, (u.frozen (p := ⟨pg, i, none⟩) l.2.1 hp).trans (h.P i hi).2⟩, fun j hj => ⟨(h.O j hj).1.upd2 u (fun b hb => hs b (.inr (.inr (.inr (.inr ⟨j, hj, hb⟩))))), (h.O j hj).2⟩,
    fun j hj => ⟨(u.cell (p := ⟨mg, j, none⟩) l.2.2 hm).trans (h.M j hj).1, (u.frozen (p := ⟨mg, j, none⟩) l.2.2 hm).trans (h.M j hj).2⟩, h.Ms, h.T.upd u (fun b hb => hs b (.inr (.inr (.inr (.inl hb))))), h.s1, h.s2, h.gB, h.gs, by have := u.size; have := h.hB; omega, h.n7⟩
/-- One of its Pairs by itself. -/
theorem RG.pairs (h : RG w B g pg mg n cp cm vt k R rd md v s L) {j : Nat} (hj : j < n) :
    QPrs B w pg (j * 2) g 1 (fun i => i < 2 * n ∧ i ≠ j * 2 + 1) (fun i => if i % 2 = 0 then .pointer (some ⟨g, 1, none⟩) else v (i / 2)) (rd j) (md j) (v j) := by
  have a := h.P (j * 2) (by omega)
  have b := h.P (j * 2 + 1) (by omega)
  rw [if_pos (by omega)] at a
  rw [if_neg (by omega), show (j * 2 + 1) / 2 = j by omega] at b
  exact ⟨h.gl.2.1, a.1, b.1, b.2, (h.O j hj).1, h.gB.2.1, h.gs.1, (h.O j hj).2, fun e => e.2 rfl, fun i hi => h.P i hi.1⟩
theorem RG.mixed (h : RG w B g pg mg n cp cm vt k R rd md v s L) {j : Nat} (hj : j < n) :
    QMix w mg j (fun i => i < n ∧ i ≠ j) (fun i => .int .u64 (s i)) (s j) :=
  ⟨h.gl.2.2, (h.M j hj).1, (h.M j hj).2, (h.Ms j hj).1, (h.Ms j hj).2, fun e => e.2 rfl, fun i hi => h.M i hi.1⟩
/-- .. and put back. -/
theorem RG.putP (h : RG w B g pg mg n cp cm vt k R rd md v s L) {j : Nat} (hj : j < n) {w' : World} {rd' : Int} {md' : Nat} {v' : Value}
    (q : QPrs B w' pg (j * 2) g 1 (fun i => i < 2 * n ∧ i ≠ j * 2 + 1) (fun i => if i % 2 = 0 then .pointer (some ⟨g, 1, none⟩) else v (i / 2)) rd' md' v')
    (hv : v'.ownBlock = (v j).ownBlock ∨ v'.ownBlock = none ∨ ∃ b, v'.ownBlock = some b ∧ w.heap.size ≤ b) (u : Upd (fun b => b = pg ∨ (v j).ownBlock = some b) w w') :
    RG w' B g pg mg n cp cm vt k R (fun i => if i = j then rd' else rd i) (fun i => if i = j then md' else md i) (fun i => if i = j then v' else v i) s L := by
  have l := h.gl
  have gs := h.gs
  have hO := fun i (hi : i < n) b (hb : (v i).ownBlock = some b) => (World.ownsRow.lt (h.O i hi).1 b hb)
  have gB := h.gB
  have ng : ¬ (g = pg ∨ (v j).ownBlock = some g) := by
    rintro (e | e)
    · exact gs.1 e
    · have := (hO j hj g e).1; omega
  have nm : ¬ (mg = pg ∨ (v j).ownBlock = some mg) := by
    rintro (e | e)
    · exact gs.2.2 e.symm
    · have := (hO j hj mg e).1; omega
  refine ⟨⟨by have := u.size; omega, q.lt, by have := u.size; omega⟩, (u.cell (p := ⟨g, 0, none⟩) l.1 ng).trans h.c0, h.clk.upd u ng, (u.cell (p := ⟨g, 2, none⟩) l.1 ng).trans h.c2, (u.cell (p := ⟨g, 3, none⟩) l.1 ng).trans h.c3, (u.cell (p := ⟨g, 4, none⟩) l.1 ng).trans h.c4, (u.frozen (p := ⟨g, 4, none⟩) l.1 ng).trans h.f4, h.cap, fun i hi => ?_, fun i hi => ?_, fun i hi => ⟨(u.cell (p := ⟨mg, i, none⟩) l.2.2 nm).trans (h.M i hi).1, (u.frozen (p := ⟨mg, i, none⟩) l.2.2 nm).trans (h.M i hi).2⟩, h.Ms, h.T.upd u (fun b hb e => ?_), fun i i' b hi hi' hne hb => ?_, fun i b hi hb => ?_, gB, gs, by have := u.size; have := h.hB; omega, h.n7⟩
  · by_cases e : i = j * 2 + 1
    · subst e
      rw [if_neg (by omega), show (j * 2 + 1) / 2 = j by omega]
      simp only [if_pos rfl]
      exact ⟨q.c1, q.f1⟩
    · have := q.kp i ⟨hi, e⟩
      by_cases h2 : i % 2 = 0
      · rw [if_pos h2] at this ⊢; exact this
      · rw [if_neg h2] at this ⊢
        rw [if_neg (by omega)]
        exact this
  · by_cases e : i = j
    · subst e; simp only [if_pos rfl]; exact ⟨q.own, q.m1⟩
    · simp only [if_neg e]
      refine ⟨(h.O i hi).1.upd2 u (fun b hb e2 => ?_), (h.O i hi).2⟩
      rcases e2 with e2 | e2
      · have := (hO i hi b hb).1; omega
      · exact h.s1 i j b hi hj e hb e2
  · rcases e with e | e
    · have := (h.T.lt b hb).1; omega
    · exact h.s2 j b hj hb e
  · by_cases e1 : i = j <;> by_cases e2 : i' = j
    · omega
    · simp only [if_pos e1] at hb
      simp only [if_neg e2]
      intro hb2
      rcases hv with hv | hv | ⟨b', hv, hl⟩
      · exact h.s1 j i' b hj hi' (fun e => e2 e.symm) (hv ▸ hb) hb2
      · rw [hv] at hb; cases hb
      · rw [hv] at hb; cases hb; have := (hO i' hi' b hb2).2; omega
    · simp only [if_neg e1] at hb
      simp only [if_pos e2]
      intro hb2
      rcases hv with hv | hv | ⟨b', hv, hl⟩
      · exact h.s1 i j b hi hj e1 hb (hv ▸ hb2)
      · rw [hv] at hb2; cases hb2
      · rw [hv] at hb2; cases hb2; have := (hO i hi b hb).2; omega
    · simp only [if_neg e1] at hb
      simp only [if_neg e2]
      exact h.s1 i i' b hi hi' hne hb
  · by_cases e : i = j
    · simp only [if_pos e]
      intro hb2
      rcases hv with hv | hv | ⟨b', hv, hl⟩
      · exact h.s2 j b hj hb (hv ▸ hb2)
      · rw [hv] at hb2; cases hb2
      · rw [hv] at hb2; cases hb2; have := (h.T.lt b hb).2; omega
    · simp only [if_neg e]; exact h.s2 i b hi hb
theorem RG.putM (h : RG w B g pg mg n cp cm vt k R rd md v s L) {j : Nat} (hj : j < n) {w' : World} {s' : Int}
    (q : QMix w' mg j (fun i => i < n ∧ i ≠ j) (fun i => .int .u64 (s i)) s') (u : Upd (· = mg) w w') :
    RG w' B g pg mg n cp cm vt k R rd md v (fun i => if i = j then s' else s i) L := by
  have l := h.gl
  have gs := h.gs
  have gB := h.gB
  have hO := fun i (hi : i < n) b (hb : (v i).ownBlock = some b) => (World.ownsRow.lt (h.O i hi).1 b hb)
  have ng : ¬ g = mg := gs.2.1
  have np : ¬ pg = mg := gs.2.2
  refine ⟨⟨by have := u.size; omega, by have := u.size; omega, q.lt⟩, (u.cell (p := ⟨g, 0, none⟩) l.1 ng).trans h.c0, h.clk.upd u ng, (u.cell (p := ⟨g, 2, none⟩) l.1 ng).trans h.c2, (u.cell (p := ⟨g, 3, none⟩) l.1 ng).trans h.c3, (u.cell (p := ⟨g, 4, none⟩) l.1 ng).trans h.c4, (u.frozen (p := ⟨g, 4, none⟩) l.1 ng).trans h.f4, h.cap,
    fun i hi => ⟨(u.cell (p := ⟨pg, i, none⟩) l.2.1 np).trans (h.P i hi).1, (u.frozen (p := ⟨pg, i, none⟩) l.2.1 np).trans (h.P i hi).2⟩, fun i hi => ⟨(h.O i hi).1.upd2 u (fun b hb e => by have := (hO i hi b hb).1; omega), (h.O i hi).2⟩, fun i hi => ?_, fun i hi => ?_, h.T.upd u (fun b hb e => by have := (h.T.lt b hb).1; omega), h.s1, h.s2, gB, gs, by have := u.size; have := h.hB; omega, h.n7⟩
  · by_cases e : i = j
    · subst e; simp only [if_pos rfl]; exact ⟨q.c0, q.f0⟩
    · simp only [if_neg e]; exact q.kp i ⟨hi, e⟩
  · by_cases e : i = j
    · subst e; simp only [if_pos rfl]; exact ⟨q.lo, q.hi⟩
    · simp only [if_neg e]; exact h.Ms i hi
/-- Its clock written. -/
theorem RG.putR (h : RG w B g pg mg n cp cm vt k R rd md v s L) (R' : Int) (h0 : 0 ≤ R') (h1 : R' ≤ 18446744073709551615) : RG (w.setCell ⟨g, 1, none⟩ (.int .u64 R')) B g pg mg n cp cm vt k R' rd md v s L := by
  have u : Upd (· = g) w (w.setCell ⟨g, 1, none⟩ (.int .u64 R')) := upd_one' _ _ _ _
  have l := h.gl
  have gs := h.gs
  have gB := h.gB
  have hO := fun i (hi : i < n) b (hb : (v i).ownBlock = some b) => (World.ownsRow.lt (h.O i hi).1 b hb)
  have np : ¬ pg = g := fun e => gs.1 e.symm
  have nm : ¬ mg = g := fun e => gs.2.1 e.symm
  exact ⟨⟨by have := u.size; omega, by have := u.size; omega, by have := u.size; omega⟩, sc_ne h.c0 (by omega), ⟨by have := u.size; omega, sc_eq h.clk.c0, sc_fr h.clk.f0, h0, h1⟩, sc_ne h.c2 (by omega), sc_ne h.c3 (by omega), sc_ne h.c4 (by omega), sc_fr h.f4, h.cap,
    fun i hi => ⟨(u.cell (p := ⟨pg, i, none⟩) l.2.1 np).trans (h.P i hi).1, (u.frozen (p := ⟨pg, i, none⟩) l.2.1 np).trans (h.P i hi).2⟩, fun i hi => ⟨(h.O i hi).1.upd2 u (fun b hb e => by have := (hO i hi b hb).1; omega), (h.O i hi).2⟩,
    fun j hj => ⟨(u.cell (p := ⟨mg, j, none⟩) l.2.2 nm).trans (h.M j hj).1, (u.frozen (p := ⟨mg, j, none⟩) l.2.2 nm).trans (h.M j hj).2⟩, h.Ms, h.T.upd u (fun b hb e => by have := (h.T.lt b hb).1; omega), h.s1, h.s2, gB, gs, by have := u.size; have := h.hB; omega, h.n7⟩
/-- What was told, and one more. -/
theorem RG.putT (h : RG w B g pg mg n cp cm vt k R rd md v s L) {w3 : World} {vt' : Value} {L' : List (Int × Int × Int)} (o : OwnS B w3 vt' L') (u : Upd (fun b => vt.ownBlock = some b) w w3) (hv : vt'.ownBlock = vt.ownBlock ∨ ∃ b, vt'.ownBlock = some b ∧ w.heap.size ≤ b) :
    RG (w3.setCell ⟨g, 4, none⟩ vt') B g pg mg n cp cm vt' k R rd md v s L' := by
  have u4 : Upd (· = g) w3 (w3.setCell ⟨g, 4, none⟩ vt') := upd_one' _ _ _ _
  have l := h.gl
  have gs := h.gs
  have gB := h.gB
  have hO := fun i (hi : i < n) b (hb : (v i).ownBlock = some b) => (World.ownsRow.lt (h.O i hi).1 b hb)
  have nb : ∀ x, x < B → vt.ownBlock ≠ some x := fun x hx e => by have := (h.T.lt x e).1; omega
  have z := u.size
  have z4 := u4.size
  have ng := nb g gB.1
  have np := nb pg gB.2.1
  have nm := nb mg gB.2.2
  have np4 : ¬ pg = g := fun e => gs.1 e.symm
  have nm4 : ¬ mg = g := fun e => gs.2.1 e.symm
  have hq := h.clk.upd u ng
  refine ⟨⟨by omega, by omega, by omega⟩, sc_ne ((u.cell (p := ⟨g, 0, none⟩) l.1 ng).trans h.c0) (by omega), ⟨by omega, sc_ne hq.c0 (by omega), sc_fr hq.f0, hq.lo, hq.hi⟩, sc_ne ((u.cell (p := ⟨g, 2, none⟩) l.1 ng).trans h.c2) (by omega), sc_ne ((u.cell (p := ⟨g, 3, none⟩) l.1 ng).trans h.c3) (by omega), sc_eq ((u.cell (p := ⟨g, 4, none⟩) l.1 ng).trans h.c4), sc_fr ((u.frozen (p := ⟨g, 4, none⟩) l.1 ng).trans h.f4), h.cap,
    fun i hi => ⟨(u4.cell (p := ⟨pg, i, none⟩) (by show pg < _; omega) np4).trans ((u.cell (p := ⟨pg, i, none⟩) l.2.1 np).trans (h.P i hi).1), (u4.frozen (p := ⟨pg, i, none⟩) (by show pg < _; omega) np4).trans ((u.frozen (p := ⟨pg, i, none⟩) l.2.1 np).trans (h.P i hi).2)⟩,
    fun i hi => ⟨((h.O i hi).1.upd2 u (fun b hb e => h.s2 i b hi e hb)).upd2 u4 (fun b hb e => by have := (hO i hi b hb).1; omega), (h.O i hi).2⟩,
    fun j hj => ⟨(u4.cell (p := ⟨mg, j, none⟩) (by show mg < _; omega) nm4).trans ((u.cell (p := ⟨mg, j, none⟩) l.2.2 nm).trans (h.M j hj).1), (u4.frozen (p := ⟨mg, j, none⟩) (by show mg < _; omega) nm4).trans ((u.frozen (p := ⟨mg, j, none⟩) l.2.2 nm).trans (h.M j hj).2)⟩, h.Ms, o.upd u4 (fun b hb e => by have := (o.lt b hb).1; omega), h.s1, fun j b hj hb => ?_, gB, gs, by have := h.hB; omega, h.n7⟩
  rcases hv with hv | ⟨b', hv, hl⟩
  · exact h.s2 j b hj (hv ▸ hb)
  · rw [hv] at hb; cases hb
    intro e
    have := (hO j hj b e).2
    omega
end

end Go.Proofs.Ytilngncjbikkgaa
