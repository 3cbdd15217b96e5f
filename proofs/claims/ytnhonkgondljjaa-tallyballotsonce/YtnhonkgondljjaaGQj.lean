import Derived.Test.YtnhonkgondljjaaGSb
import Derived.Test.YtnhonkgondljjaaSw9
import Derived.Test.YtnhonkgondljjaaSbs
import Derived.Test.YtnhonkgondljjaaSws
import Derived.Test.YtnhonkgondljjaaSq
import Derived.Deep.CutRange
import Derived.Deep.RegionHeld3
import Derived.Deep.CutBlock
import Derived.Test.YtnhonkgondljjaaSbo
namespace Go.Proofs.Ytnhonkgondljjaa
open Go.RowKit Go.Maps
open Classical
set_option linter.unusedVariables false
set_option linter.unusedSimpArgs false

theorem orI3 (A B C : Int) : orI [orI [A, B], C] = orI [A, B, C] := by
  simp only [orI]
  by_cases h : A = 0
  · by_cases h2 : B = 0 <;> simp [h, h2]
  · simp [h]
/-- A ballot as an answer. -/
def Bl.an (x : Bl) : An := ⟨x.n, x.h, x.l, x.v, x.c, x.s⟩
theorem rep_an (x y : Bl) : An.rep x.an y.an = Bl.rep x y := by
  unfold An.rep Bl.rep An.gt Bl.gt Bl.cb Bl.an
  rw [orI3]
theorem Bl.put_nil (x : Bl) : Bl.put [] x = [x] := rfl
theorem An.put_nil (x : An) : An.put [] x = [x] := rfl
theorem Bl.put_one (x y : Bl) (h : y.n = x.n) : Bl.put [y] x = if Bl.rep x y = true then [x] else [y] := by
  unfold Bl.put
  rw [List.findIdx?_cons, if_pos (by simp [h])]
  rfl
theorem An.put_one (x y : An) (h : y.n = x.n) : An.put [y] x = if An.rep x y = true then [x] else [y] := by
  unfold An.put
  rw [List.findIdx?_cons, if_pos (by simp [h])]
  rfl
theorem Bl.rep_like {x x' y y' : Bl} (h1 : Bl.Like x x') (h2 : Bl.Like y y') : Bl.rep x' y' = Bl.rep x y := by
  obtain ⟨_, a1, a2, a3, a4, a5⟩ := h1
  obtain ⟨_, b1, b2, b3, b4, b5⟩ := h2
  unfold Bl.rep Bl.gt Bl.cb
  rw [a1, a2, a3, a4, a5, b1, b2, b3, b4, b5]
theorem An.rep_like {x x' y y' : An} (h1 : An.Like x x') (h2 : An.Like y y') : An.rep x' y' = An.rep x y := by
  obtain ⟨_, a1, a2, a3, a4, a5⟩ := h1
  obtain ⟨_, b1, b2, b3, b4, b5⟩ := h2
  unfold An.rep An.gt
  rw [a1, a2, a3, a4, a5, b1, b2, b3, b4, b5]
theorem Bl.Like.refl (x : Bl) : Bl.Like x x := ⟨rfl, rfl, rfl, rfl, rfl, rfl⟩
theorem An.Like.refl (x : An) : An.Like x x := ⟨rfl, rfl, rfl, rfl, rfl, rfl⟩
theorem Bl.Like.trans {x y z : Bl} (h1 : Bl.Like x y) (h2 : Bl.Like y z) : Bl.Like x z := by
  obtain ⟨a0, a1, a2, a3, a4, a5⟩ := h1
  obtain ⟨b0, b1, b2, b3, b4, b5⟩ := h2
  exact ⟨b0.trans a0, b1.trans a1, b2.trans a2, b3.trans a3, b4.trans a4, b5.trans a5⟩
theorem An.Like.trans {x y z : An} (h1 : An.Like x y) (h2 : An.Like y z) : An.Like x z := by
  obtain ⟨a0, a1, a2, a3, a4, a5⟩ := h1
  obtain ⟨b0, b1, b2, b3, b4, b5⟩ := h2
  exact ⟨b0.trans a0, b1.trans a1, b2.trans a2, b3.trans a3, b4.trans a4, b5.trans a5⟩
theorem Bl.Like.symm {x y : Bl} (h : Bl.Like x y) : Bl.Like y x := by
  obtain ⟨a0, a1, a2, a3, a4, a5⟩ := h
  exact ⟨a0.symm, a1.symm, a2.symm, a3.symm, a4.symm, a5.symm⟩
theorem An.Like.symm {x y : An} (h : An.Like x y) : An.Like y x := by
  obtain ⟨a0, a1, a2, a3, a4, a5⟩ := h
  exact ⟨a0.symm, a1.symm, a2.symm, a3.symm, a4.symm, a5.symm⟩
/-- A list that is told of one vote. -/
theorem Bl.Tolds.one {B : Nat} {w : World} {x : Bl} {R : List Bl} (h : Bl.Tolds B w [x] R) : ∃ z, R = [z] ∧ Bl.Like x z ∧ z.In w := by
  obtain ⟨hl, h2⟩ := h
  match R, hl with
  | [z], _ => exact ⟨z, rfl, (h2 0 x z rfl rfl).like, (h2 0 x z rfl rfl).In⟩
theorem An.Tolds.one {B : Nat} {w : World} {x : An} {R : List An} (h : An.Tolds B w [x] R) : ∃ z, R = [z] ∧ An.Like x z ∧ z.In w := by
  obtain ⟨hl, h2⟩ := h
  match R, hl with
  | [z], _ => exact ⟨z, rfl, (h2 0 x z rfl rfl).like, (h2 0 x z rfl rfl).In⟩
/-- Of two votes of one voter, put one behind the other, one stands. -/
theorem Bl.two {B : Nat} {w : World} {a b z : Bl} {R : List Bl} (hz : Bl.Like a z) (h : Bl.Tolds B w (Bl.put [z] b) R) (hn : b.n = a.n) : ∃ y, R = [y] ∧ Bl.Like (if Bl.rep b a = true then b else a) y ∧ y.In w := by
  rw [Bl.put_one b z (by rw [hz.1, hn]), Bl.rep_like (Bl.Like.refl b) hz] at h
  by_cases c : Bl.rep b a = true
  · rw [if_pos c] at h ⊢
    exact h.one
  · rw [if_neg c] at h ⊢
    obtain ⟨y, e, l, i⟩ := h.one
    exact ⟨y, e, hz.trans l, i⟩
theorem An.two {B : Nat} {w : World} {a b z : An} {R : List An} (hz : An.Like a z) (h : An.Tolds B w (An.put [z] b) R) (hn : b.n = a.n) : ∃ y, R = [y] ∧ An.Like (if An.rep b a = true then b else a) y ∧ y.In w := by
  rw [An.put_one b z (by rw [hz.1, hn]), An.rep_like (An.Like.refl b) hz] at h
  by_cases c : An.rep b a = true
  · rw [if_pos c] at h ⊢
    exact h.one
  · rw [if_neg c] at h ⊢
    obtain ⟨y, e, l, i⟩ := h.one
    exact ⟨y, e, hz.trans l, i⟩
theorem cmpIz {a b : Int} (h : a = b) : cmpI a b = 0 := by subst h; unfold cmpI; rw [if_neg (by omega), if_neg (by omega)]
theorem cmpIl {a b : Int} (h : a < b) : cmpI a b = -1 := by unfold cmpI; rw [if_pos h]
theorem cmpIg {a b : Int} (h : b < a) : cmpI a b = 1 := by unfold cmpI; rw [if_neg (by omega), if_pos h]
/-- Does b take a's place, by the law's own questions? -/
theorem rep_draw {a b : Bl} (hd : ¬ (a.h = b.h ∧ a.l = b.l)) : Bl.rep b a = decide (a.h < b.h ∨ (a.h = b.h ∧ a.l < b.l)) := by
  unfold Bl.rep cmpD
  by_cases e : b.h = a.h
  · rw [if_pos e]
    by_cases c : a.l < b.l
    · rw [cmpIg c]; simp [e, c]
    · rw [cmpIl (show b.l < a.l by omega)]; simp [e, c]
  · rw [if_neg e]
    by_cases c : a.h < b.h
    · rw [cmpIg c]; simp [c]
    · rw [cmpIl (show b.h < a.h by omega)]; simp [c]; omega
theorem rep_same {a b : Bl} (hd : a.h = b.h ∧ a.l = b.l) : Bl.rep b a = Bl.gt b a := by
  unfold Bl.rep cmpD
  rw [if_pos hd.1.symm, cmpIz hd.2.symm]
  simp
theorem rep_view {a b : Bl} (hd : a.h = b.h ∧ a.l = b.l) (hv : a.v ≠ b.v) : Bl.rep b a = decide (a.v < b.v) := by
  rw [rep_same hd]
  unfold Bl.gt Bl.cb
  by_cases c : a.v < b.v
  · simp [orI, cmpIg c, c]
  · simp [orI, cmpIl (show b.v < a.v by omega), c]
theorem rep_len {a b : Bl} (hd : a.h = b.h ∧ a.l = b.l) (hv : a.v = b.v) (hl : a.s.D.length ≠ b.s.D.length) : Bl.rep b a = decide (a.s.D.length < b.s.D.length) := by
  rw [rep_same hd]
  unfold Bl.gt Bl.cb
  rw [cmpIz hv.symm]
  by_cases c : a.s.D.length < b.s.D.length
  · simp [orI, cmpIg (show (a.s.D.length : Int) < (b.s.D.length : Int) by omega), c]
  · simp [orI, cmpIl (show (b.s.D.length : Int) < (a.s.D.length : Int) by omega), c]
theorem rep_com {a b : Bl} (hd : a.h = b.h ∧ a.l = b.l) (hv : a.v = b.v) (hl : a.s.D.length = b.s.D.length) : Bl.rep b a = decide (a.c < b.c) := by
  rw [rep_same hd]
  unfold Bl.gt Bl.cb
  rw [cmpIz hv.symm, cmpIz (show (b.s.D.length : Int) = (a.s.D.length : Int) by omega)]
  by_cases c : a.c < b.c
  · simp [orI, cmpIg c, c]
  · by_cases e : b.c = a.c
    · simp [orI, cmpIz e, c]
    · simp [orI, cmpIl (show b.c < a.c by omega), c]
/-- Are two votes alike in all that is asked? -/
abbrev Bl.eqk (a b : Bl) : Prop := (a.h = b.h ∧ a.l = b.l) ∧ a.v = b.v ∧ a.s.D.length = b.s.D.length ∧ a.c = b.c
theorem rep_eqk {a b : Bl} (h : Bl.eqk a b) : Bl.rep b a = false := by
  rw [rep_com h.1 h.2.1 h.2.2.1]
  have := h.2.2.2
  simp
  omega
theorem rep_anti {a b : Bl} (h : ¬ Bl.eqk a b) : Bl.rep a b = !Bl.rep b a := by
  by_cases hd : a.h = b.h ∧ a.l = b.l
  · have hd' : b.h = a.h ∧ b.l = a.l := ⟨hd.1.symm, hd.2.symm⟩
    by_cases hv : a.v = b.v
    · by_cases hl : a.s.D.length = b.s.D.length
      · rw [rep_com hd hv hl, rep_com hd' hv.symm hl.symm]
        have hc : a.c ≠ b.c := fun e => h ⟨hd, hv, hl, e⟩
        by_cases c : a.c < b.c
        · simp [c]; omega
        · simp [c]; omega
      · rw [rep_len hd hv hl, rep_len hd' hv.symm (Ne.symm hl)]
        by_cases c : a.s.D.length < b.s.D.length
        · simp [c]; omega
        · simp [c]; omega
    · rw [rep_view hd hv, rep_view hd' (Ne.symm hv)]
      by_cases c : a.v < b.v
      · simp [c]; omega
      · simp [c]; omega
  · have hd' : ¬ (b.h = a.h ∧ b.l = a.l) := fun e => hd ⟨e.1.symm, e.2.symm⟩
    rw [rep_draw hd, rep_draw hd']
    by_cases e : a.h = b.h
    · have : a.l ≠ b.l := fun e2 => hd ⟨e, e2⟩
      by_cases c : a.l < b.l
      · simp [e, c]; omega
      · simp [e, c]; omega
    · by_cases c : a.h < b.h
      · simp [c]; omega
      · simp [c, e]; omega
theorem Bl.put_has (L : List Bl) (x : Bl) : (Bl.put L x).length = if L.any (fun y => decide (y.n = x.n)) = true then L.length else L.length + 1 := by
  unfold Bl.put
  cases hf : L.findIdx? (fun y => decide (y.n = x.n)) with
  | none =>
    have ha : L.any (fun y => decide (y.n = x.n)) = false := by
      rw [List.any_eq_false]
      intro y hy
      have := List.findIdx?_eq_none_iff.1 hf y hy
      simpa using this
    rw [ha, if_neg (by simp)]
    unfold Bl.ins
    have := Bl.at_le L x
    simp
    omega
  | some i =>
    have ha : L.any (fun y => decide (y.n = x.n)) = true := by
      obtain ⟨h, hp, _⟩ := List.findIdx?_eq_some_iff_getElem.1 hf
      exact List.any_eq_true.2 ⟨_, List.getElem_mem h, hp⟩
    rw [ha, if_pos rfl]
    dsimp only
    split
    · exact List.length_set
    · rfl
/-- The greater one. -/
def Bl.grt (a b : Bl) : Bl := if Bl.rep b a = true then b else a
theorem grt_swap {a b : Bl} (h : ¬ Bl.eqk a b) : (if Bl.rep a b = true then a else b) = Bl.grt a b := by
  unfold Bl.grt
  rw [rep_anti h]
  cases Bl.rep b a <;> rfl
theorem grt_an (a b : Bl) : (if An.rep b.an a.an = true then b.an else a.an) = (Bl.grt a b).an := by
  unfold Bl.grt
  rw [rep_an]
  split <;> rfl
theorem grt_an_swap {a b : Bl} (h : ¬ Bl.eqk a b) : (if An.rep a.an b.an = true then a.an else b.an) = (Bl.grt a b).an := by
  rw [← grt_swap h, rep_an]
  split <;> rfl

end Go.Proofs.Ytnhonkgondljjaa

namespace Go.Proofs.Ytnhonkgondljjaa
open Go.RowKit Go.Maps
set_option linter.unusedVariables false
set_option linter.unusedSimpArgs false

/-- A vote in a block of its own, by its cells. -/
def Bl.Bz (w : World) (g : Nat) (x : Bl) : Prop := w.cell? ⟨g, 0, none⟩ = some (.int .i64 x.n) ∧ w.cell? ⟨g, 1, none⟩ = some (.int .u64 x.h) ∧ w.cell? ⟨g, 2, none⟩ = some (.int .u64 x.l) ∧ w.cell? ⟨g, 3, none⟩ = some (.int .i64 x.v) ∧ w.cell? ⟨g, 4, none⟩ = some (.int .i64 x.c) ∧ w.cell? ⟨g, 5, none⟩ = some (.slice x.s.a x.s.D.length x.s.c) ∧ w.frozen? ⟨g, 0, none⟩ = false ∧ w.frozen? ⟨g, 1, none⟩ = false ∧ w.frozen? ⟨g, 2, none⟩ = false ∧ w.frozen? ⟨g, 3, none⟩ = false ∧ w.frozen? ⟨g, 4, none⟩ = false ∧ w.frozen? ⟨g, 5, none⟩ = false
theorem Bl.Bz.new (w : World) (x : Bl) (T : TypeId) : Bl.Bz (w.alloc (.cells #[.int .i64 x.n, .int .u64 x.h, .int .u64 x.l, .int .i64 x.v, .int .i64 x.c, .slice x.s.a x.s.D.length x.s.c] T)) w.heap.size x := by
  unfold Bl.Bz
  refine ⟨?_, ?_, ?_, ?_, ?_, ?_, ?_, ?_, ?_, ?_, ?_, ?_⟩ <;> simp
theorem Bl.Bz.set {w : World} {g : Nat} {y : Bl} (x : Bl) (h : Bl.Bz w g y) : Bl.Bz ((((((w.setCell ⟨g, 0, none⟩ (.int .i64 x.n)).setCell ⟨g, 1, none⟩ (.int .u64 x.h)).setCell ⟨g, 2, none⟩ (.int .u64 x.l)).setCell ⟨g, 3, none⟩ (.int .i64 x.v)).setCell ⟨g, 4, none⟩ (.int .i64 x.c)).setCell ⟨g, 5, none⟩ (.slice x.s.a x.s.D.length x.s.c)) g x := by
  obtain ⟨h0, h1, h2, h3, h4, h5, h6, h7, h8, h9, ha, hb⟩ := h
  unfold Bl.Bz
  refine ⟨?_, ?_, ?_, ?_, ?_, ?_, ?_, ?_, ?_, ?_, ?_, ?_⟩ <;> go_simp
theorem Bl.Bz.bel {w w' : World} {g B : Nat} {x : Bl} (h : Bl.Bz w g x) (hb : Below B w w') (hg : g < B) : Bl.Bz w' g x := by
  obtain ⟨h0, h1, h2, h3, h4, h5, h6, h7, h8, h9, ha, hbb⟩ := h
  exact ⟨(hb.cell (p := ⟨g, 0, none⟩) hg).trans h0, (hb.cell (p := ⟨g, 1, none⟩) hg).trans h1, (hb.cell (p := ⟨g, 2, none⟩) hg).trans h2, (hb.cell (p := ⟨g, 3, none⟩) hg).trans h3, (hb.cell (p := ⟨g, 4, none⟩) hg).trans h4, (hb.cell (p := ⟨g, 5, none⟩) hg).trans h5, (hb.frozen (p := ⟨g, 0, none⟩) hg).trans h6, (hb.frozen (p := ⟨g, 1, none⟩) hg).trans h7, (hb.frozen (p := ⟨g, 2, none⟩) hg).trans h8, (hb.frozen (p := ⟨g, 3, none⟩) hg).trans h9, (hb.frozen (p := ⟨g, 4, none⟩) hg).trans ha, (hb.frozen (p := ⟨g, 5, none⟩) hg).trans hbb⟩
theorem Bl.Bz.lt {w : World} {g : Nat} {x : Bl} (h : Bl.Bz w g x) : g < w.heap.size := World.block_lt_of_cell? w _ h.1
theorem below_setz6 {B g : Nat} {w0 w : World} (h : Below B w0 w) (hg : B ≤ g) (u0 u1 u2 u3 u4 u5 : Value) : Below B w0 ((((((w.setCell ⟨g, 0, none⟩ u0).setCell ⟨g, 1, none⟩ u1).setCell ⟨g, 2, none⟩ u2).setCell ⟨g, 3, none⟩ u3).setCell ⟨g, 4, none⟩ u4).setCell ⟨g, 5, none⟩ u5) :=
  (((((h.setCell hg _).setCell hg _).setCell hg _).setCell hg _).setCell hg _).setCell hg _
theorem Bl.Bz.set0 {w : World} {g : Nat} {y : Bl} (m : Int) (h : Bl.Bz w g y) : Bl.Bz (w.setCell ⟨g, 0, none⟩ (.int .i64 m)) g { y with n := m } := by
  obtain ⟨h0, h1, h2, h3, h4, h5, h6, h7, h8, h9, ha, hb⟩ := h
  unfold Bl.Bz
  refine ⟨?_, ?_, ?_, ?_, ?_, ?_, ?_, ?_, ?_, ?_, ?_, ?_⟩ <;> go_simp
theorem Bl.Bz.other {w : World} {g k : Nat} {y : Bl} (u : Value) (h : Bl.Bz w g y) (hk : k ≠ g) : Bl.Bz (w.setCell ⟨k, 0, none⟩ u) g y := by
  obtain ⟨h0, h1, h2, h3, h4, h5, h6, h7, h8, h9, ha, hb⟩ := h
  have hk' : g ≠ k := Ne.symm hk
  unfold Bl.Bz
  refine ⟨?_, ?_, ?_, ?_, ?_, ?_, ?_, ?_, ?_, ?_, ?_, ?_⟩ <;> go_simp
theorem Bl.Bz.cells {w : World} {g : Nat} {x : Bl} (h : Bl.Bz w g x) : w.cell? ⟨g, 0, none⟩ = some (.int .i64 x.n) ∧ w.cell? ⟨g, 1, none⟩ = some (.int .u64 x.h) ∧ w.cell? ⟨g, 2, none⟩ = some (.int .u64 x.l) ∧ w.cell? ⟨g, 3, none⟩ = some (.int .i64 x.v) ∧ w.cell? ⟨g, 4, none⟩ = some (.int .i64 x.c) ∧ w.cell? ⟨g, 5, none⟩ = some (.slice x.s.a x.s.D.length x.s.c) := by
  obtain ⟨h0, h1, h2, h3, h4, h5, _⟩ := h
  exact ⟨h0, h1, h2, h3, h4, h5⟩
theorem below9_any (h l h' l' : Int) (w : World) : Calls Try.prog 30 #[.agg #[.int .u64 h, .int .u64 l], .agg #[.int .u64 h', .int .u64 l']] w fun e w' => e = .returned (.bool (decide (h < h' ∨ (h = h' ∧ l < l')))) ∧ Below w.heap.size w w' := by
  by_cases c1 : h < h'
  · rw [show decide (h < h' ∨ (h = h' ∧ l < l')) = true by simp [c1]]
    go_enter Try.func30, Try.ntmps30
    go_wp2
    go_ret
    exact ⟨rfl, ((Below.refl _ _).alloc (Nat.le_refl _) _).alloc (by simp) _⟩
  · by_cases c2 : h = h'
    · subst c2
      rw [show decide (h < h ∨ (h = h ∧ l < l')) = decide (l < l') by simp]
      by_cases c3 : l < l'
      · rw [decide_eq_true c3]
        go_enter Try.func30, Try.ntmps30
        go_wp2
        go_ret
        exact ⟨rfl, ((Below.refl _ _).alloc (Nat.le_refl _) _).alloc (by simp) _⟩
      · rw [decide_eq_false c3]
        go_enter Try.func30, Try.ntmps30
        go_wp2
        go_ret
        exact ⟨rfl, ((Below.refl _ _).alloc (Nat.le_refl _) _).alloc (by simp) _⟩
    · rw [show decide (h < h' ∨ (h = h' ∧ l < l')) = false by simp [c1, c2]]
      have c4 : (h == h') = false := by simp [c2]
      go_enter Try.func30, Try.ntmps30
      go_wp2
      go_ret
      exact ⟨rfl, ((Below.refl _ _).alloc (Nat.le_refl _) _).alloc (by simp) _⟩
theorem eql_draw9 (h l h' l' : Int) (w : World) : (binOp .eql 27 (.agg #[.int .u64 h, .int .u64 l]) (.agg #[.int .u64 h', .int .u64 l'])).run Try.prog w = .ok (.bool (decide (h = h' ∧ l = l'))) w := by
  go_simp
  by_cases e1 : h = h' <;> by_cases e2 : l = l' <;> simp [e1, e2]
theorem neq_draw9 (h l h' l' : Int) (w : World) : (binOp .neq 27 (.agg #[.int .u64 h, .int .u64 l]) (.agg #[.int .u64 h', .int .u64 l'])).run Try.prog w = .ok (.bool (!decide (h = h' ∧ l = l'))) w := by
  go_simp
  by_cases e1 : h = h' <;> by_cases e2 : l = l' <;> simp [e1, e2]
theorem Bl.put1 (x : Bl) (W : World) (hX : x.In W) : Calls Try.prog 34 #[.slice none 0 0, .agg #[.int .i64 x.n, .int .u64 x.h, .int .u64 x.l, .int .i64 x.v, .int .i64 x.c, .slice x.s.a x.s.D.length x.s.c]] W fun e w' => ∃ (ad : Option Addr) (c : Nat) (z : Bl), e = .returned (.slice ad 1 c) ∧ SlY yBlA w' ad 1 c [z] ∧ Bl.Like x z ∧ z.In w' ∧ Below W.heap.size W w' := by
  refine (Bl.Put_any [] x none 0 0 W (SlY.none_ _ _) (fun y hy => by cases hy) hX (by omega)).mono fun e w' hh => ?_
  obtain ⟨v, R, rfl, o, t, b⟩ := hh
  rw [Bl.put_nil] at t
  obtain ⟨z, rfl, l, i⟩ := t.one
  obtain ⟨ad, c, rfl, s, _⟩ := o.sl kBlA
  exact ⟨ad, c, z, rfl, s, l, i, b⟩
theorem Bl.put2 (x y z : Bl) (ad : Option Addr) (c : Nat) (W : World) (hs : SlY yBlA W ad 1 c [z]) (hz : Bl.Like x z) (hzi : z.In W) (hY : y.In W) (hn : y.n = x.n) : Calls Try.prog 34 #[.slice ad 1 c, .agg #[.int .i64 y.n, .int .u64 y.h, .int .u64 y.l, .int .i64 y.v, .int .i64 y.c, .slice y.s.a y.s.D.length y.s.c]] W fun e w' => ∃ (ad : Option Addr) (c : Nat) (u : Bl), e = .returned (.slice ad 1 c) ∧ SlY yBlA w' ad 1 c [u] ∧ Bl.Like (if Bl.rep y x = true then y else x) u ∧ u.In w' ∧ Below W.heap.size W w' := by
  refine (Bl.Put_any [z] y ad 1 c W hs (fun t ht => by rw [List.mem_singleton] at ht; subst ht; exact hzi) hY (by omega)).mono fun e w' hh => ?_
  obtain ⟨v, R, rfl, o, t, b⟩ := hh
  obtain ⟨u, rfl, l, i⟩ := Bl.two hz t hn
  obtain ⟨ad, c, rfl, s, _⟩ := o.sl kBlA
  exact ⟨ad, c, u, rfl, s, l, i, b⟩
theorem Bl.same1 (x y : Bl) (a b : Option Addr) (c c2 : Nat) (w : World) (hL : SlY yBlA w a 1 c [x]) (hR : SlY yBlA w b 1 c2 [y]) (hk : Bl.Like x y) (iL : x.In w) (iR : y.In w) :
    Calls Try.prog 35 #[.slice a 1 c, .slice b 1 c2] w fun e w' => e = .returned (.bool true) ∧ Below w.heap.size w w' := by
  refine (Bl.same_any [x] [y] a b 1 c c2 w hL hR (fun i u v h1 h2 => ?_) (fun t ht => by rw [List.mem_singleton] at ht; subst ht; exact iL) (fun t ht => by rw [List.mem_singleton] at ht; subst ht; exact iR)).mono fun e w' hh => ?_
  · match i, h1, h2 with
    | 0, h1, h2 =>
      injection h1 with h1
      injection h2 with h2
      rw [← h1, ← h2]
      exact hk
  · obtain ⟨rfl, k, rfl⟩ := hh
    exact ⟨rfl, belNN (Below.refl _ _) k⟩
theorem An.put1 (x : An) (W : World) (hX : x.In W) : Calls Try.prog 36 #[.slice none 0 0, .agg #[.int .i64 x.n, .int .u64 x.h, .int .u64 x.l, .int .i64 x.v, .int .i64 x.c, .slice x.s.a x.s.D.length x.s.c]] W fun e w' => ∃ (ad : Option Addr) (c : Nat) (z : An), e = .returned (.slice ad 1 c) ∧ SlY yAnA w' ad 1 c [z] ∧ An.Like x z ∧ z.In w' ∧ Below W.heap.size W w' := by
  refine (An.Put_any [] x none 0 0 W (SlY.none_ _ _) (fun y hy => by cases hy) hX (by omega)).mono fun e w' hh => ?_
  obtain ⟨v, R, rfl, o, t, b⟩ := hh
  rw [An.put_nil] at t
  obtain ⟨z, rfl, l, i⟩ := t.one
  obtain ⟨ad, c, rfl, s, _⟩ := o.sl kAnA
  exact ⟨ad, c, z, rfl, s, l, i, b⟩
theorem An.put2 (x y z : An) (ad : Option Addr) (c : Nat) (W : World) (hs : SlY yAnA W ad 1 c [z]) (hz : An.Like x z) (hzi : z.In W) (hY : y.In W) (hn : y.n = x.n) : Calls Try.prog 36 #[.slice ad 1 c, .agg #[.int .i64 y.n, .int .u64 y.h, .int .u64 y.l, .int .i64 y.v, .int .i64 y.c, .slice y.s.a y.s.D.length y.s.c]] W fun e w' => ∃ (ad : Option Addr) (c : Nat) (u : An), e = .returned (.slice ad 1 c) ∧ SlY yAnA w' ad 1 c [u] ∧ An.Like (if An.rep y x = true then y else x) u ∧ u.In w' ∧ Below W.heap.size W w' := by
  refine (An.Put_any [z] y ad 1 c W hs (fun t ht => by rw [List.mem_singleton] at ht; subst ht; exact hzi) hY (by omega)).mono fun e w' hh => ?_
  obtain ⟨v, R, rfl, o, t, b⟩ := hh
  obtain ⟨u, rfl, l, i⟩ := An.two hz t hn
  obtain ⟨ad, c, rfl, s, _⟩ := o.sl kAnA
  exact ⟨ad, c, u, rfl, s, l, i, b⟩
theorem An.same1 (x y : An) (a b : Option Addr) (c c2 : Nat) (w : World) (hL : SlY yAnA w a 1 c [x]) (hR : SlY yAnA w b 1 c2 [y]) (hk : An.Like x y) (iL : x.In w) (iR : y.In w) :
    Calls Try.prog 37 #[.slice a 1 c, .slice b 1 c2] w fun e w' => e = .returned (.bool true) ∧ Below w.heap.size w w' := by
  refine (An.same_any [x] [y] a b 1 c c2 w hL hR (fun i u v h1 h2 => ?_) (fun t ht => by rw [List.mem_singleton] at ht; subst ht; exact iL) (fun t ht => by rw [List.mem_singleton] at ht; subst ht; exact iR)).mono fun e w' hh => ?_
  · match i, h1, h2 with
    | 0, h1, h2 =>
      injection h1 with h1
      injection h2 with h2
      rw [← h1, ← h2]
      exact hk
  · obtain ⟨rfl, k, rfl⟩ := hh
    exact ⟨rfl, belNN (Below.refl _ _) k⟩

end Go.Proofs.Ytnhonkgondljjaa

namespace Go.Proofs.Ytnhonkgondljjaa
open Go.RowKit Go.Maps
set_option linter.unusedVariables false
set_option linter.unusedSimpArgs false

set_option maxRecDepth 100000 in
set_option maxHeartbeats 4000000 in
theorem ballots_walk (A B0 : Bl) (L : List Bl) (ad : Option Addr) (n c : Nat) (w : World) (h : SlY yBlA w ad n c L) (hlogs : ∀ x ∈ L, x.In w) (hA : A.In w) (hB : B0.In w) (hm : n * 64 ≤ 140737488351232) :
    Calls Try.prog 6 #[.agg #[.int .i64 A.n, .int .u64 A.h, .int .u64 A.l, .int .i64 A.v, .int .i64 A.c, .slice A.s.a A.s.D.length A.s.c], .agg #[.int .i64 B0.n, .int .u64 B0.h, .int .u64 B0.l, .int .i64 B0.v, .int .i64 B0.c, .slice B0.s.a B0.s.D.length B0.s.c], .slice ad n c] w fun e w' => e = .returned (.bool true) ∧ Below w.heap.size w w' := by
  have hmx := h.max
  have hcp := h.cap
  have hln := h.len
  unfold maxLen at hmx
  have H := hide h
  have HN := hide hln
  have HX := hide hlogs
  have HA := hide hA
  clear h hln hlogs hA
  have hwz : Hid (((w.alloc (.cells #[.int .i64 A.n, .int .u64 A.h, .int .u64 A.l, .int .i64 A.v, .int .i64 A.c, .slice A.s.a A.s.D.length A.s.c] 63)).alloc (.cells #[.int .i64 B0.n, .int .u64 B0.h, .int .u64 B0.l, .int .i64 B0.v, .int .i64 B0.c, .slice B0.s.a B0.s.D.length B0.s.c] 63)).heap.size = w.heap.size + 2) := by show _ = _; simp
  have B0' : Hid (Below w.heap.size w ((w.alloc (.cells #[.int .i64 A.n, .int .u64 A.h, .int .u64 A.l, .int .i64 A.v, .int .i64 A.c, .slice A.s.a A.s.D.length A.s.c] 63)).alloc (.cells #[.int .i64 B0.n, .int .u64 B0.h, .int .u64 B0.l, .int .i64 B0.v, .int .i64 B0.c, .slice B0.s.a B0.s.D.length B0.s.c] 63))) := ((Below.refl _ w).alloc (Nat.le_refl _) _).alloc (by simp) _
  have za : Bl.Bz ((w.alloc (.cells #[.int .i64 A.n, .int .u64 A.h, .int .u64 A.l, .int .i64 A.v, .int .i64 A.c, .slice A.s.a A.s.D.length A.s.c] 63)).alloc (.cells #[.int .i64 B0.n, .int .u64 B0.h, .int .u64 B0.l, .int .i64 B0.v, .int .i64 B0.c, .slice B0.s.a B0.s.D.length B0.s.c] 63)) w.heap.size A := (Bl.Bz.new w A 63).bel ((Below.refl (w.heap.size + 1) _).alloc (by simp) _) (by omega)
  have zb : Bl.Bz ((w.alloc (.cells #[.int .i64 A.n, .int .u64 A.h, .int .u64 A.l, .int .i64 A.v, .int .i64 A.c, .slice A.s.a A.s.D.length A.s.c] 63)).alloc (.cells #[.int .i64 B0.n, .int .u64 B0.h, .int .u64 B0.l, .int .i64 B0.v, .int .i64 B0.c, .slice B0.s.a B0.s.D.length B0.s.c] 63)) (w.heap.size + 1) B0 := by
    have := Bl.Bz.new (w.alloc (.cells #[.int .i64 A.n, .int .u64 A.h, .int .u64 A.l, .int .i64 A.v, .int .i64 A.c, .slice A.s.a A.s.D.length A.s.c] 63)) B0 63
    rw [show (w.alloc (.cells #[.int .i64 A.n, .int .u64 A.h, .int .u64 A.l, .int .i64 A.v, .int .i64 A.c, .slice A.s.a A.s.D.length A.s.c] 63)).heap.size = w.heap.size + 1 from by simp] at this
    exact this
  have ZA := hide za
  have ZB := hide zb
  clear za zb
  go_enter Try.func6, Try.ntmps6
  go_wp2_with fail
  refine (works8_any _).mono ?_
  rintro e w1 ⟨rfl, b1⟩
  rw [hwz.out] at b1
  have D1 := hide b1
  have ZA1 := hide (ZA.out.bel b1 (by omega))
  have ZB1 := hide (ZB.out.bel b1 (by omega))
  clear b1
  generalize hw0 : ((w.alloc (.cells #[.int .i64 A.n, .int .u64 A.h, .int .u64 A.l, .int .i64 A.v, .int .i64 A.c, .slice A.s.a A.s.D.length A.s.c] 63)).alloc (.cells #[.int .i64 B0.n, .int .u64 B0.h, .int .u64 B0.l, .int .i64 B0.v, .int .i64 B0.c, .slice B0.s.a B0.s.D.length B0.s.c] 63)) = w0 at *
  obtain ⟨q0, q1, q2, q3, q4, q5, q6, q7, q8, q9, qa, qb⟩ := ZB1.out
  obtain ⟨p0, p1, p2, p3, p4, p5, _⟩ := ZA1.out
  have z1 : w.heap.size + 2 ≤ w1.heap.size := by have := D1.out.size; rwa [hwz.out] at this
  dsimp only
  go_upto_region 4 with fail
  clear q0 q1 q2 q3 q4 q5 q6 q7 q8 q9 qa qb p0 p1 p2 p3 p4 p5
  obtain ⟨B, hBn, hBi, hBz⟩ : ∃ B : Bl, B.n = A.n ∧ B.In w ∧ Bl.Bz (w1.setCell ⟨w.heap.size + 1, 0, none⟩ (.int .i64 A.n)) (w.heap.size + 1) B := ⟨{ B0 with n := A.n }, rfl, hB, ZB1.out.set0 A.n⟩
  have hAz : Bl.Bz (w1.setCell ⟨w.heap.size + 1, 0, none⟩ (.int .i64 A.n)) w.heap.size A := ZA1.out.other _ (by omega)
  have D2 : Hid (Below w.heap.size w (w1.setCell ⟨w.heap.size + 1, 0, none⟩ (.int .i64 A.n))) := (B0'.out.trans (D1.out.mono (by omega))).setCell (by simp) _
  have z2 : w.heap.size + 2 ≤ (w1.setCell ⟨w.heap.size + 1, 0, none⟩ (.int .i64 A.n)).heap.size := by simp; omega
  generalize w1.setCell ⟨w.heap.size + 1, 0, none⟩ (.int .i64 A.n) = w2 at *
  have HBI := hide hBi
  have HBN := hide hBn
  have KA : Hid (∀ v, Below (w.heap.size + 2) w2 v → Bl.Bz v w.heap.size A ∧ Bl.Bz v (w.heap.size + 1) B) := fun v hv => ⟨hAz.bel hv (by omega), hBz.bel hv (by omega)⟩
  clear ZA ZB ZA1 ZB1 hB hBi hBn hBz hAz D1 B0' hw0 hwz
  go_cut [51] from 24 (fun s wx => s = .bool (decide (Bl.eqk A B)) ∧ wx = w2)
  case first =>
    obtain ⟨⟨p0, p1, p2, p3, p4, p5, _⟩, ⟨q0, q1, q2, q3, q4, q5, _⟩⟩ := KA.out w2 (Below.refl _ _)
    by_cases hd : A.h = B.h ∧ A.l = B.l
    · have qd : ∀ W, (binOp .eql 27 (.agg #[.int .u64 A.h, .int .u64 A.l]) (.agg #[.int .u64 B.h, .int .u64 B.l])).run Try.prog W = .ok (.bool true) W := fun W => by rw [eql_draw9]; simp [hd]
      have HD := hide hd
      clear hd
      by_cases hv : A.v = B.v
      · have hv1 : (A.v == B.v) = true := by simp [hv]
        have HV := hide hv
        clear hv
        by_cases hl : A.s.D.length = B.s.D.length
        · have hl1 : ((A.s.D.length : Int) == (B.s.D.length : Int)) = true := by simp [hl]
          have HL := hide hl
          clear hl
          by_cases hc : A.c = B.c
          · have hc1 : (A.c == B.c) = true := by simp [hc]
            have HE : decide (Bl.eqk A B) = true := decide_eq_true ⟨HD.out, HV.out, HL.out, hc⟩
            clear hc
            go_wp2_with fail
            go_meet
            case rel => exact ⟨by rw [HE], rfl⟩
          · have hc1 : (A.c == B.c) = false := by simp [hc]
            have HE : decide (Bl.eqk A B) = false := decide_eq_false (fun h => hc h.2.2.2)
            go_wp2_with fail
            go_meet
            case rel => exact ⟨by rw [HE], rfl⟩
        · have hl1 : ((A.s.D.length : Int) == (B.s.D.length : Int)) = false := by simp; omega
          have HE : decide (Bl.eqk A B) = false := decide_eq_false (fun h => hl h.2.2.1)
          go_wp2_with fail
          go_meet
          case rel => exact ⟨by rw [HE], rfl⟩
      · have hv1 : (A.v == B.v) = false := by simp [hv]
        have HE : decide (Bl.eqk A B) = false := decide_eq_false (fun h => hv h.2.1)
        go_wp2_with fail
        go_meet
        case rel => exact ⟨by rw [HE], rfl⟩
    · have qd : ∀ W, (binOp .eql 27 (.agg #[.int .u64 A.h, .int .u64 A.l]) (.agg #[.int .u64 B.h, .int .u64 B.l])).run Try.prog W = .ok (.bool false) W := fun W => by rw [eql_draw9]; simp only [decide_eq_false hd]
      have HE : decide (Bl.eqk A B) = false := decide_eq_false (fun h => hd h.1)
      clear hd
      go_wp2_with fail
      go_meet
      case rel => exact ⟨by rw [HE], rfl⟩
  case rest =>
    obtain ⟨rfl, hwc⟩ := hcut
    subst hwc
    obtain ⟨wb, hwb⟩ : ∃ wb, wb = wc := ⟨_, rfl⟩
    subst hwb
    have KC : Hid (∀ v, Below (w.heap.size + 2) wb v → (v.cell? ⟨w.heap.size, 0, none⟩ = some (.int .i64 A.n) ∧ v.cell? ⟨w.heap.size, 1, none⟩ = some (.int .u64 A.h) ∧ v.cell? ⟨w.heap.size, 2, none⟩ = some (.int .u64 A.l) ∧ v.cell? ⟨w.heap.size, 3, none⟩ = some (.int .i64 A.v) ∧ v.cell? ⟨w.heap.size, 4, none⟩ = some (.int .i64 A.c) ∧ v.cell? ⟨w.heap.size, 5, none⟩ = some (.slice A.s.a A.s.D.length A.s.c)) ∧ (v.cell? ⟨(w.heap.size + 1), 0, none⟩ = some (.int .i64 B.n) ∧ v.cell? ⟨(w.heap.size + 1), 1, none⟩ = some (.int .u64 B.h) ∧ v.cell? ⟨(w.heap.size + 1), 2, none⟩ = some (.int .u64 B.l) ∧ v.cell? ⟨(w.heap.size + 1), 3, none⟩ = some (.int .i64 B.v) ∧ v.cell? ⟨(w.heap.size + 1), 4, none⟩ = some (.int .i64 B.c) ∧ v.cell? ⟨(w.heap.size + 1), 5, none⟩ = some (.slice B.s.a B.s.D.length B.s.c))) := fun v hv => ⟨(KA.out v hv).1.cells, (KA.out v hv).2.cells⟩
    have D0 : Hid (Below (w.heap.size + 2) wb wb) := Below.refl _ _
    by_cases hE : Bl.eqk A B
    · rw [decide_eq_true hE]
      have HR := hide (rep_eqk hE)
      clear hE
      go_wp2_with fail
      have s0 := KC.out _ (D0.out.drew)
      go_region_held3 (fun v => (v.cell? ⟨w.heap.size, 0, none⟩ = some (.int .i64 A.n) ∧ v.cell? ⟨w.heap.size, 1, none⟩ = some (.int .u64 A.h) ∧ v.cell? ⟨w.heap.size, 2, none⟩ = some (.int .u64 A.l) ∧ v.cell? ⟨w.heap.size, 3, none⟩ = some (.int .i64 A.v) ∧ v.cell? ⟨w.heap.size, 4, none⟩ = some (.int .i64 A.c) ∧ v.cell? ⟨w.heap.size, 5, none⟩ = some (.slice A.s.a A.s.D.length A.s.c)) ∧ (v.cell? ⟨(w.heap.size + 1), 0, none⟩ = some (.int .i64 B.n) ∧ v.cell? ⟨(w.heap.size + 1), 1, none⟩ = some (.int .u64 B.h) ∧ v.cell? ⟨(w.heap.size + 1), 2, none⟩ = some (.int .u64 B.l) ∧ v.cell? ⟨(w.heap.size + 1), 3, none⟩ = some (.int .i64 B.v) ∧ v.cell? ⟨(w.heap.size + 1), 4, none⟩ = some (.int .i64 B.c) ∧ v.cell? ⟨(w.heap.size + 1), 5, none⟩ = some (.slice B.s.a B.s.D.length B.s.c))) (with_reducible assumption) (first
        | (have := s3; go_at_call 34; refine (Bl.put2 A B z3 a3 k3 _ s3 l3 i3 (HBI.out.later E3.out) HBN.out).mono ?_; rintro e w4 ⟨a4, k4, z4, rfl, s4, l4, i4, b4⟩; have D4 := hide (D3.out.trans (b4.mono (by have := D3.out.size; omega))); have E4 := hide (E3.out.trans (b4.mono (by have := E3.out.size; omega))); have t4 := KC.out w4 D4.out; clear b4 s3 l3 i3)
        | (go_at_call 34; refine (Bl.put1 A _ (HA.out.later (D2.out.drew))).mono ?_; rintro e w3 ⟨a3, k3, z3, rfl, s3, l3, i3, b3⟩; have D3 := hide (D0.out.drew.trans (b3.mono (by have := D0.out.size; show _ ≤ wb.heap.size; omega))); have E3 := hide (D2.out.drew.trans (b3.mono (by have := D2.out.size; show _ ≤ wb.heap.size; omega))); have t3 := KC.out w3 D3.out; clear b3))
      rw [HR.out] at l4
      have l5 : Bl.Like A z4 := l4
      obtain ⟨⟨p0, p1, p2, p3, p4, p5⟩, _⟩ := KC.out w4 D4.out
      have b5 : Below w4.heap.size w4 (w4.alloc (.cells #[.int .i64 A.n, .int .u64 A.h, .int .u64 A.l, .int .i64 A.v, .int .i64 A.c, .slice A.s.a A.s.D.length A.s.c] 63)) := (Below.refl _ _).alloc (Nat.le_refl _) _
      have E5 := hide (E4.out.trans (b5.mono E4.out.size))
      have cs := hide (Bl.same1 z4 A a4 _ k4 1 _ (s4.later b5) (sl_box (Y := yBlA) w4 A 63) l5.symm (i4.later b5) (HA.out.later E5.out))
      clear s4 l4 i4 l5 b5
      go_wp2_with fail
      refine cs.out.mono ?_
      rintro e w6 ⟨rfl, b6⟩
      have E6 := hide (E5.out.trans (b6.mono E5.out.size))
      clear b6 cs
      dsimp only
      go_wp2
      go_ret
      exact ⟨rfl, E6.out⟩
    · rw [decide_eq_false hE]
      have HNE := hide hE
      clear hE
      go_wp2_with fail
      have s0 := KC.out _ (D0.out.drew)
      go_region_held3 (fun v => (v.cell? ⟨w.heap.size, 0, none⟩ = some (.int .i64 A.n) ∧ v.cell? ⟨w.heap.size, 1, none⟩ = some (.int .u64 A.h) ∧ v.cell? ⟨w.heap.size, 2, none⟩ = some (.int .u64 A.l) ∧ v.cell? ⟨w.heap.size, 3, none⟩ = some (.int .i64 A.v) ∧ v.cell? ⟨w.heap.size, 4, none⟩ = some (.int .i64 A.c) ∧ v.cell? ⟨w.heap.size, 5, none⟩ = some (.slice A.s.a A.s.D.length A.s.c)) ∧ (v.cell? ⟨(w.heap.size + 1), 0, none⟩ = some (.int .i64 B.n) ∧ v.cell? ⟨(w.heap.size + 1), 1, none⟩ = some (.int .u64 B.h) ∧ v.cell? ⟨(w.heap.size + 1), 2, none⟩ = some (.int .u64 B.l) ∧ v.cell? ⟨(w.heap.size + 1), 3, none⟩ = some (.int .i64 B.v) ∧ v.cell? ⟨(w.heap.size + 1), 4, none⟩ = some (.int .i64 B.c) ∧ v.cell? ⟨(w.heap.size + 1), 5, none⟩ = some (.slice B.s.a B.s.D.length B.s.c))) (with_reducible assumption) (first
        | (have := s3; go_at_call 34; refine (Bl.put2 A B z3 a3 k3 _ s3 l3 i3 (HBI.out.later E3.out) HBN.out).mono ?_; rintro e w4 ⟨a4, k4, z4, rfl, s4, l4, i4, b4⟩; have D4 := hide (D3.out.trans (b4.mono (by have := D3.out.size; omega))); have E4 := hide (E3.out.trans (b4.mono (by have := E3.out.size; omega))); have t4 := KC.out w4 D4.out; clear b4 s3 l3 i3)
        | (go_at_call 34; refine (Bl.put1 A _ (HA.out.later (D2.out.drew))).mono ?_; rintro e w3 ⟨a3, k3, z3, rfl, s3, l3, i3, b3⟩; have D3 := hide (D0.out.drew.trans (b3.mono (by have := D0.out.size; show _ ≤ wb.heap.size; omega))); have E3 := hide (D2.out.drew.trans (b3.mono (by have := D2.out.size; show _ ≤ wb.heap.size; omega))); have t3 := KC.out w3 D3.out; clear b3))
      have L4 : Hid (Bl.Like (Bl.grt A B) z4) := l4
      have S4 := hide s4
      have I4 := hide i4
      clear s4 l4 i4 t4
      go_wp2_with fail
      have s0 := KC.out _ (D4.out.drew)
      go_region_held3 (fun v => (v.cell? ⟨w.heap.size, 0, none⟩ = some (.int .i64 A.n) ∧ v.cell? ⟨w.heap.size, 1, none⟩ = some (.int .u64 A.h) ∧ v.cell? ⟨w.heap.size, 2, none⟩ = some (.int .u64 A.l) ∧ v.cell? ⟨w.heap.size, 3, none⟩ = some (.int .i64 A.v) ∧ v.cell? ⟨w.heap.size, 4, none⟩ = some (.int .i64 A.c) ∧ v.cell? ⟨w.heap.size, 5, none⟩ = some (.slice A.s.a A.s.D.length A.s.c)) ∧ (v.cell? ⟨(w.heap.size + 1), 0, none⟩ = some (.int .i64 B.n) ∧ v.cell? ⟨(w.heap.size + 1), 1, none⟩ = some (.int .u64 B.h) ∧ v.cell? ⟨(w.heap.size + 1), 2, none⟩ = some (.int .u64 B.l) ∧ v.cell? ⟨(w.heap.size + 1), 3, none⟩ = some (.int .i64 B.v) ∧ v.cell? ⟨(w.heap.size + 1), 4, none⟩ = some (.int .i64 B.c) ∧ v.cell? ⟨(w.heap.size + 1), 5, none⟩ = some (.slice B.s.a B.s.D.length B.s.c))) (with_reducible assumption) (first
        | (have := s3; go_at_call 34; refine (Bl.put2 B A z3 a3 k3 _ s3 l3 i3 (HA.out.later E3.out) HBN.out.symm).mono ?_; rintro e w6 ⟨a6, k6, z6, rfl, s6, l6, i6, b4⟩; have B46 := hide (F3.out.trans (b4.mono (by have := F3.out.size; omega))); have D6 := hide (D3.out.trans (b4.mono (by have := D3.out.size; omega))); have E6 := hide (E3.out.trans (b4.mono (by have := E3.out.size; omega))); have t4 := KC.out w6 D6.out; clear b4 s3 l3 i3)
        | (go_at_call 34; refine (Bl.put1 B _ (HBI.out.later (E4.out.drew))).mono ?_; rintro e w5 ⟨a3, k3, z3, rfl, s3, l3, i3, b3⟩; have D3 := hide (D4.out.drew.trans (b3.mono (by have := D4.out.size; show _ ≤ w4.heap.size; omega))); have E3 := hide (E4.out.drew.trans (b3.mono (by have := E4.out.size; show _ ≤ w4.heap.size; omega))); have F3 := hide ((Below.refl w4.heap.size w4).drew.trans (b3.mono (by show _ ≤ w4.heap.size; exact Nat.le_refl _))); have t3 := KC.out w5 D3.out; clear b3))
      rw [grt_swap HNE.out] at l6
      have b46 : Below w4.heap.size w4 w6 := B46.out
      have S46 := hide (S4.out.later b46)
      have I46 := hide (I4.out.later b46)
      have cs := hide (Bl.same1 z4 z6 a4 a6 k4 k6 w6 S46.out s6 (L4.out.symm.trans l6) I46.out i6)
      clear s6 l6 i6 S4 I4 b46 t4
      go_wp2_with fail
      refine cs.out.mono ?_
      rintro e w7 ⟨rfl, b7⟩
      have D7 := hide (D6.out.trans (b7.mono (by have := D6.out.size; omega)))
      have E7 := hide (E6.out.trans (b7.mono E6.out.size))
      have S7 := hide (S46.out.later b7)
      have I7 := hide (I46.out.later b7)
      clear b7 cs S46 I46 D4 E4 D6 E6
      obtain ⟨⟨p0, p1, p2, p3, p4, p5⟩, ⟨q0, q1, q2, q3, q4, q5⟩⟩ := KC.out w7 D7.out
      dsimp only
      go_upto_block 0 with fail
      have Z8 : Hid (Bl.Bz (w7.alloc (.cells #[.int .i64 A.n, .int .u64 A.h, .int .u64 A.l, .int .i64 A.v, .int .i64 A.c, .slice A.s.a A.s.D.length A.s.c] 63)) w7.heap.size A) := Bl.Bz.new _ _ _
      have F8 : Hid (Below w7.heap.size w7 (w7.alloc (.cells #[.int .i64 A.n, .int .u64 A.h, .int .u64 A.l, .int .i64 A.v, .int .i64 A.c, .slice A.s.a A.s.D.length A.s.c] 63))) := (Below.refl _ _).alloc (Nat.le_refl _) _
      clear p0 p1 p2 p3 p4 p5 q0 q1 q2 q3 q4 q5
      generalize w7.alloc (.cells #[.int .i64 A.n, .int .u64 A.h, .int .u64 A.l, .int .i64 A.v, .int .i64 A.c, .slice A.s.a A.s.D.length A.s.c] 63) = w8 at *
      have zh7 := D7.out.size
      have D8 := hide (D7.out.trans (F8.out.mono (by omega)))
      go_cut [] from 78 (fun wx => Hid (Bl.Bz wx w7.heap.size (Bl.grt A B)) ∧ Hid (Below w7.heap.size w7 wx))
      case first =>
        obtain ⟨⟨p0, p1, p2, p3, p4, p5⟩, ⟨q0, q1, q2, q3, q4, q5⟩⟩ := KC.out w8 D8.out
        obtain ⟨g0, g1, g2, g3, g4, g5, g6, g7, g8, g9, ga, gb⟩ := Z8.out
        have hne1 : w7.heap.size ≠ w.heap.size := by omega
        have hne2 : w7.heap.size ≠ w.heap.size + 1 := by omega
        by_cases hd : A.h = B.h ∧ A.l = B.l
        · have qd : ∀ W, (binOp .neq 27 (.agg #[.int .u64 A.h, .int .u64 A.l]) (.agg #[.int .u64 B.h, .int .u64 B.l])).run Try.prog W = .ok (.bool false) W := fun W => by rw [neq_draw9]; simp [hd]
          have HD := hide hd
          clear hd
          by_cases hv : A.v = B.v
          · have hv1 : (A.v != B.v) = false := by simp [hv]
            have HV := hide hv
            clear hv
            by_cases hl : A.s.D.length = B.s.D.length
            · have hl1 : ((A.s.D.length : Int) != (B.s.D.length : Int)) = false := by simp [hl]
              have HL := hide hl
              clear hl
              by_cases hc : A.c < B.c
              · have hG : Bl.grt A B = B := by unfold Bl.grt; rw [rep_com HD.out HV.out HL.out, if_pos (by simp [hc])]
                have HG := hide hG
                clear hG
                go_wp2_with fail
                go_meet
                case rel => exact ⟨by show Bl.Bz _ _ _; rw [HG.out]; exact Bl.Bz.set B Z8.out, below_setz6 F8.out (Nat.le_refl _) _ _ _ _ _ _⟩
              · have hG : Bl.grt A B = A := by unfold Bl.grt; rw [rep_com HD.out HV.out HL.out, if_neg (by simp [hc])]
                have HG := hide hG
                clear hG
                go_wp2_with fail
                go_meet
                case rel => exact ⟨by show Bl.Bz _ _ _; rw [HG.out]; exact Z8.out, F8.out⟩
            · have hl1 : ((A.s.D.length : Int) != (B.s.D.length : Int)) = true := by simp; omega
              by_cases hc : A.s.D.length < B.s.D.length
              · have hG : Bl.grt A B = B := by unfold Bl.grt; rw [rep_len HD.out HV.out hl, if_pos (by simp [hc])]
                have HG := hide hG
                clear hG
                go_wp2_with fail
                go_meet
                case rel => exact ⟨by show Bl.Bz _ _ _; rw [HG.out]; exact Bl.Bz.set B Z8.out, below_setz6 F8.out (Nat.le_refl _) _ _ _ _ _ _⟩
              · have hG : Bl.grt A B = A := by unfold Bl.grt; rw [rep_len HD.out HV.out hl, if_neg (by simp [hc])]
                have HG := hide hG
                clear hG
                go_wp2_with fail
                go_meet
                case rel => exact ⟨by show Bl.Bz _ _ _; rw [HG.out]; exact Z8.out, F8.out⟩
          · have hv1 : (A.v != B.v) = true := by simp [hv]
            by_cases hc : A.v < B.v
            · have hG : Bl.grt A B = B := by unfold Bl.grt; rw [rep_view HD.out hv, if_pos (by simp [hc])]
              have HG := hide hG
              clear hG
              go_wp2_with fail
              go_meet
              case rel => exact ⟨by show Bl.Bz _ _ _; rw [HG.out]; exact Bl.Bz.set B Z8.out, below_setz6 F8.out (Nat.le_refl _) _ _ _ _ _ _⟩
            · have hG : Bl.grt A B = A := by unfold Bl.grt; rw [rep_view HD.out hv, if_neg (by simp [hc])]
              have HG := hide hG
              clear hG
              go_wp2_with fail
              go_meet
              case rel => exact ⟨by show Bl.Bz _ _ _; rw [HG.out]; exact Z8.out, F8.out⟩
        · have qd : ∀ W, (binOp .neq 27 (.agg #[.int .u64 A.h, .int .u64 A.l]) (.agg #[.int .u64 B.h, .int .u64 B.l])).run Try.prog W = .ok (.bool true) W := fun W => by rw [neq_draw9]; simp only [decide_eq_false hd]; rfl
          have HD := hide hd
          clear hd
          go_wp2_with fail
          refine (below9_any A.h A.l B.h B.l _).mono ?_
          rintro e w9 ⟨rfl, b9⟩
          have D9 := hide (D8.out.trans (b9.mono (by have := D8.out.size; omega)))
          have F9 := hide (F8.out.trans (b9.mono F8.out.size))
          have Z9 := hide (Z8.out.bel b9 Z8.out.lt)
          clear b9 p0 p1 p2 p3 p4 p5 q0 q1 q2 q3 q4 q5 g0 g1 g2 g3 g4 g5 g6 g7 g8 g9 ga gb
          obtain ⟨⟨p0, p1, p2, p3, p4, p5⟩, ⟨q0, q1, q2, q3, q4, q5⟩⟩ := KC.out w9 D9.out
          obtain ⟨g0, g1, g2, g3, g4, g5, g6, g7, g8, g9, ga, gb⟩ := Z9.out
          dsimp only
          by_cases hc : A.h < B.h ∨ (A.h = B.h ∧ A.l < B.l)
          · have hG : Bl.grt A B = B := by unfold Bl.grt; rw [rep_draw HD.out, if_pos (by simp only [decide_eq_true hc])]
            rw [decide_eq_true hc]
            have HG := hide hG
            clear hG hc
            go_wp2_with fail
            go_meet
            case rel => exact ⟨by show Bl.Bz _ _ _; rw [HG.out]; exact Bl.Bz.set B Z9.out, below_setz6 F9.out (Nat.le_refl _) _ _ _ _ _ _⟩
          · have hG : Bl.grt A B = A := by unfold Bl.grt; rw [rep_draw HD.out, if_neg (by simp only [decide_eq_false hc]; exact Bool.false_ne_true)]
            rw [decide_eq_false hc]
            have HG := hide hG
            clear hG hc
            go_wp2_with fail
            go_meet
            case rel => exact ⟨by show Bl.Bz _ _ _; rw [HG.out]; exact Z9.out, F9.out⟩
      case rest =>
        obtain ⟨Z9, F9⟩ := hcut
        have HQ1 : Hid ((if An.rep B.an A.an = true then B.an else A.an) = (Bl.grt A B).an) := grt_an A B
        have HQ2 : Hid ((if An.rep A.an B.an = true then A.an else B.an) = (Bl.grt A B).an) := grt_an_swap HNE.out
        have HGn : Hid ((Bl.grt A B).n = A.n) := by
          show _ = _
          unfold Bl.grt
          split
          · exact HBN.out
          · rfl
        have HGi : Hid ((Bl.grt A B).In w) := by
          show Bl.In _ _
          unfold Bl.grt
          split
          · exact HBI.out
          · exact HA.out
        clear Z8 F8 D8
        generalize Bl.grt A B = G at *
        have hQB : Hid ((⟨A.n, B.h, B.l, B.v, B.c, B.s⟩ : An) = B.an) := by show _ = _; unfold Bl.an; rw [HBN.out]
        have hWG : Hid ((⟨A.n, G.h, G.l, G.v, G.c, G.s⟩ : An) = G.an) := by show _ = _; unfold Bl.an; rw [HGn.out]
        have e1 : Hid ((if An.rep (⟨A.n, B.h, B.l, B.v, B.c, B.s⟩ : An) (⟨A.n, A.h, A.l, A.v, A.c, A.s⟩ : An) = true then (⟨A.n, B.h, B.l, B.v, B.c, B.s⟩ : An) else (⟨A.n, A.h, A.l, A.v, A.c, A.s⟩ : An)) = (⟨A.n, G.h, G.l, G.v, G.c, G.s⟩ : An)) := by
          show _ = _
          rw [hQB.out, hWG.out]
          exact HQ1.out
        have e2 : Hid ((if An.rep (⟨A.n, A.h, A.l, A.v, A.c, A.s⟩ : An) (⟨A.n, B.h, B.l, B.v, B.c, B.s⟩ : An) = true then (⟨A.n, A.h, A.l, A.v, A.c, A.s⟩ : An) else (⟨A.n, B.h, B.l, B.v, B.c, B.s⟩ : An)) = (⟨A.n, G.h, G.l, G.v, G.c, G.s⟩ : An)) := by
          show _ = _
          rw [hQB.out, hWG.out]
          exact HQ2.out
        have zw7 : w.heap.size + 2 ≤ w7.heap.size := by have := D7.out.size; omega
        have zwc : w7.heap.size < wc.heap.size := Z9.out.lt
        have D9 : Hid (Below (w.heap.size + 2) wb wc) := D7.out.trans (F9.out.mono zw7)
        have E9 : Hid (Below w.heap.size w wc) := E7.out.trans (F9.out.mono (by omega))
        have S9 := hide (S7.out.later F9.out)
        have I9 := hide (I7.out.later F9.out)
        clear S7 I7 E7 D7 HQ1 HQ2 hQB
        have f1 : Below wc.heap.size wc (wc.alloc (.cells #[.int .i64 A.n, .int .u64 A.h, .int .u64 A.l, .int .i64 A.v, .int .i64 A.c, .slice A.s.a A.s.D.length A.s.c] 68)) := (Below.refl _ _).alloc (Nat.le_refl _) _
        have f2 : Below wc.heap.size wc ((wc.alloc (.cells #[.int .i64 A.n, .int .u64 A.h, .int .u64 A.l, .int .i64 A.v, .int .i64 A.c, .slice A.s.a A.s.D.length A.s.c] 68)).alloc (.cells #[.int .i64 A.n, .int .u64 B.h, .int .u64 B.l, .int .i64 B.v, .int .i64 B.c, .slice B.s.a B.s.D.length B.s.c] 68)) := f1.alloc (by simp) _
        have f3 : Below wc.heap.size wc (((wc.alloc (.cells #[.int .i64 A.n, .int .u64 A.h, .int .u64 A.l, .int .i64 A.v, .int .i64 A.c, .slice A.s.a A.s.D.length A.s.c] 68)).alloc (.cells #[.int .i64 A.n, .int .u64 B.h, .int .u64 B.l, .int .i64 B.v, .int .i64 B.c, .slice B.s.a B.s.D.length B.s.c] 68)).alloc (.cells #[.int .i64 A.n, .int .u64 G.h, .int .u64 G.l, .int .i64 G.v, .int .i64 G.c, .slice G.s.a G.s.D.length G.s.c] 68)) := f2.alloc (by simp; omega) _
        have hz10 : Hid ((((wc.alloc (.cells #[.int .i64 A.n, .int .u64 A.h, .int .u64 A.l, .int .i64 A.v, .int .i64 A.c, .slice A.s.a A.s.D.length A.s.c] 68)).alloc (.cells #[.int .i64 A.n, .int .u64 B.h, .int .u64 B.l, .int .i64 B.v, .int .i64 B.c, .slice B.s.a B.s.D.length B.s.c] 68)).alloc (.cells #[.int .i64 A.n, .int .u64 G.h, .int .u64 G.l, .int .i64 G.v, .int .i64 G.c, .slice G.s.a G.s.D.length G.s.c] 68)).heap.size = wc.heap.size + 3) := by show _ = _; simp
        have F10 := hide f3
        have KP : Hid (∀ v, Below (wc.heap.size + 3) (((wc.alloc (.cells #[.int .i64 A.n, .int .u64 A.h, .int .u64 A.l, .int .i64 A.v, .int .i64 A.c, .slice A.s.a A.s.D.length A.s.c] 68)).alloc (.cells #[.int .i64 A.n, .int .u64 B.h, .int .u64 B.l, .int .i64 B.v, .int .i64 B.c, .slice B.s.a B.s.D.length B.s.c] 68)).alloc (.cells #[.int .i64 A.n, .int .u64 G.h, .int .u64 G.l, .int .i64 G.v, .int .i64 G.c, .slice G.s.a G.s.D.length G.s.c] 68)) v → (v.cell? ⟨wc.heap.size, 0, none⟩ = some (.int .i64 A.n) ∧ v.cell? ⟨wc.heap.size, 1, none⟩ = some (.int .u64 A.h) ∧ v.cell? ⟨wc.heap.size, 2, none⟩ = some (.int .u64 A.l) ∧ v.cell? ⟨wc.heap.size, 3, none⟩ = some (.int .i64 A.v) ∧ v.cell? ⟨wc.heap.size, 4, none⟩ = some (.int .i64 A.c) ∧ v.cell? ⟨wc.heap.size, 5, none⟩ = some (.slice A.s.a A.s.D.length A.s.c)) ∧ (v.cell? ⟨(wc.heap.size + 1), 0, none⟩ = some (.int .i64 A.n) ∧ v.cell? ⟨(wc.heap.size + 1), 1, none⟩ = some (.int .u64 B.h) ∧ v.cell? ⟨(wc.heap.size + 1), 2, none⟩ = some (.int .u64 B.l) ∧ v.cell? ⟨(wc.heap.size + 1), 3, none⟩ = some (.int .i64 B.v) ∧ v.cell? ⟨(wc.heap.size + 1), 4, none⟩ = some (.int .i64 B.c) ∧ v.cell? ⟨(wc.heap.size + 1), 5, none⟩ = some (.slice B.s.a B.s.D.length B.s.c))) := fun v hv => ⟨⟨(hv.cell (p := ⟨wc.heap.size, 0, none⟩) (by simp)).trans (by go_simp), (hv.cell (p := ⟨wc.heap.size, 1, none⟩) (by simp)).trans (by go_simp), (hv.cell (p := ⟨wc.heap.size, 2, none⟩) (by simp)).trans (by go_simp), (hv.cell (p := ⟨wc.heap.size, 3, none⟩) (by simp)).trans (by go_simp), (hv.cell (p := ⟨wc.heap.size, 4, none⟩) (by simp)).trans (by go_simp), (hv.cell (p := ⟨wc.heap.size, 5, none⟩) (by simp)).trans (by go_simp)⟩, ⟨(hv.cell (p := ⟨wc.heap.size + 1, 0, none⟩) (by simp)).trans (by go_simp), (hv.cell (p := ⟨wc.heap.size + 1, 1, none⟩) (by simp)).trans (by go_simp), (hv.cell (p := ⟨wc.heap.size + 1, 2, none⟩) (by simp)).trans (by go_simp), (hv.cell (p := ⟨wc.heap.size + 1, 3, none⟩) (by simp)).trans (by go_simp), (hv.cell (p := ⟨wc.heap.size + 1, 4, none⟩) (by simp)).trans (by go_simp), (hv.cell (p := ⟨wc.heap.size + 1, 5, none⟩) (by simp)).trans (by go_simp)⟩⟩
        have KW : Hid (∀ v, Below (wc.heap.size + 3) (((wc.alloc (.cells #[.int .i64 A.n, .int .u64 A.h, .int .u64 A.l, .int .i64 A.v, .int .i64 A.c, .slice A.s.a A.s.D.length A.s.c] 68)).alloc (.cells #[.int .i64 A.n, .int .u64 B.h, .int .u64 B.l, .int .i64 B.v, .int .i64 B.c, .slice B.s.a B.s.D.length B.s.c] 68)).alloc (.cells #[.int .i64 A.n, .int .u64 G.h, .int .u64 G.l, .int .i64 G.v, .int .i64 G.c, .slice G.s.a G.s.D.length G.s.c] 68)) v → v.cell? ⟨wc.heap.size + 1 + 1, 0, none⟩ = some (.int .i64 A.n) ∧ v.cell? ⟨wc.heap.size + 1 + 1, 1, none⟩ = some (.int .u64 G.h) ∧ v.cell? ⟨wc.heap.size + 1 + 1, 2, none⟩ = some (.int .u64 G.l) ∧ v.cell? ⟨wc.heap.size + 1 + 1, 3, none⟩ = some (.int .i64 G.v) ∧ v.cell? ⟨wc.heap.size + 1 + 1, 4, none⟩ = some (.int .i64 G.c) ∧ v.cell? ⟨wc.heap.size + 1 + 1, 5, none⟩ = some (.slice G.s.a G.s.D.length G.s.c)) := fun v hv => ⟨(hv.cell (p := ⟨wc.heap.size + 1 + 1, 0, none⟩) (by simp)).trans (by go_simp), (hv.cell (p := ⟨wc.heap.size + 1 + 1, 1, none⟩) (by simp)).trans (by go_simp), (hv.cell (p := ⟨wc.heap.size + 1 + 1, 2, none⟩) (by simp)).trans (by go_simp), (hv.cell (p := ⟨wc.heap.size + 1 + 1, 3, none⟩) (by simp)).trans (by go_simp), (hv.cell (p := ⟨wc.heap.size + 1 + 1, 4, none⟩) (by simp)).trans (by go_simp), (hv.cell (p := ⟨wc.heap.size + 1 + 1, 5, none⟩) (by simp)).trans (by go_simp)⟩
        have KX : Hid (∀ v, Below wc.heap.size wc v → ((v.cell? ⟨w.heap.size, 0, none⟩ = some (.int .i64 A.n) ∧ v.cell? ⟨w.heap.size, 1, none⟩ = some (.int .u64 A.h) ∧ v.cell? ⟨w.heap.size, 2, none⟩ = some (.int .u64 A.l) ∧ v.cell? ⟨w.heap.size, 3, none⟩ = some (.int .i64 A.v) ∧ v.cell? ⟨w.heap.size, 4, none⟩ = some (.int .i64 A.c) ∧ v.cell? ⟨w.heap.size, 5, none⟩ = some (.slice A.s.a A.s.D.length A.s.c)) ∧ (v.cell? ⟨(w.heap.size + 1), 0, none⟩ = some (.int .i64 B.n) ∧ v.cell? ⟨(w.heap.size + 1), 1, none⟩ = some (.int .u64 B.h) ∧ v.cell? ⟨(w.heap.size + 1), 2, none⟩ = some (.int .u64 B.l) ∧ v.cell? ⟨(w.heap.size + 1), 3, none⟩ = some (.int .i64 B.v) ∧ v.cell? ⟨(w.heap.size + 1), 4, none⟩ = some (.int .i64 B.c) ∧ v.cell? ⟨(w.heap.size + 1), 5, none⟩ = some (.slice B.s.a B.s.D.length B.s.c))) ∧ (v.cell? ⟨w7.heap.size, 0, none⟩ = some (.int .i64 G.n) ∧ v.cell? ⟨w7.heap.size, 1, none⟩ = some (.int .u64 G.h) ∧ v.cell? ⟨w7.heap.size, 2, none⟩ = some (.int .u64 G.l) ∧ v.cell? ⟨w7.heap.size, 3, none⟩ = some (.int .i64 G.v) ∧ v.cell? ⟨w7.heap.size, 4, none⟩ = some (.int .i64 G.c) ∧ v.cell? ⟨w7.heap.size, 5, none⟩ = some (.slice G.s.a G.s.D.length G.s.c))) := fun v hv => ⟨KC.out v (D9.out.trans (hv.mono (by have := D9.out.size; omega))), (Z9.out.bel hv zwc).cells⟩
        obtain ⟨⟨⟨p0, p1, p2, p3, p4, p5⟩, ⟨q0, q1, q2, q3, q4, q5⟩⟩, ⟨g0, g1, g2, g3, g4, g5⟩⟩ := KX.out wc (Below.refl _ _)
        obtain ⟨⟨⟨p10, p11, p12, p13, p14, p15⟩, ⟨q10, q11, q12, q13, q14, q15⟩⟩, ⟨g10, g11, g12, g13, g14, g15⟩⟩ := KX.out _ f1
        obtain ⟨⟨⟨p20, p21, p22, p23, p24, p25⟩, ⟨q20, q21, q22, q23, q24, q25⟩⟩, ⟨g20, g21, g22, g23, g24, g25⟩⟩ := KX.out _ f2
        clear f1 f2 f3
        go_upto_region 26 with fail
        clear p0 p1 p2 p3 p4 p5 q0 q1 q2 q3 q4 q5 g0 g1 g2 g3 g4 g5 p10 p11 p12 p13 p14 p15 q10 q11 q12 q13 q14 q15 g10 g11 g12 g13 g14 g15 p20 p21 p22 p23 p24 p25 q20 q21 q22 q23 q24 q25 g20 g21 g22 g23 g24 g25
        have HPi : Hid (An.In w (⟨A.n, A.h, A.l, A.v, A.c, A.s⟩ : An)) := HA.out
        have HQi : Hid (An.In w (⟨A.n, B.h, B.l, B.v, B.c, B.s⟩ : An)) := HBI.out
        have HWi : Hid (An.In w (⟨A.n, G.h, G.l, G.v, G.c, G.s⟩ : An)) := HGi.out
        have E10 := hide (E9.out.trans (F10.out.mono E9.out.size))
        have D10 : Hid (Below (wc.heap.size + 3) (((wc.alloc (.cells #[.int .i64 A.n, .int .u64 A.h, .int .u64 A.l, .int .i64 A.v, .int .i64 A.c, .slice A.s.a A.s.D.length A.s.c] 68)).alloc (.cells #[.int .i64 A.n, .int .u64 B.h, .int .u64 B.l, .int .i64 B.v, .int .i64 B.c, .slice B.s.a B.s.D.length B.s.c] 68)).alloc (.cells #[.int .i64 A.n, .int .u64 G.h, .int .u64 G.l, .int .i64 G.v, .int .i64 G.c, .slice G.s.a G.s.D.length G.s.c] 68)) (((wc.alloc (.cells #[.int .i64 A.n, .int .u64 A.h, .int .u64 A.l, .int .i64 A.v, .int .i64 A.c, .slice A.s.a A.s.D.length A.s.c] 68)).alloc (.cells #[.int .i64 A.n, .int .u64 B.h, .int .u64 B.l, .int .i64 B.v, .int .i64 B.c, .slice B.s.a B.s.D.length B.s.c] 68)).alloc (.cells #[.int .i64 A.n, .int .u64 G.h, .int .u64 G.l, .int .i64 G.v, .int .i64 G.c, .slice G.s.a G.s.D.length G.s.c] 68))) := Below.refl _ _
        have hz11 : wc.heap.size + 3 ≤ (((wc.alloc (.cells #[.int .i64 A.n, .int .u64 A.h, .int .u64 A.l, .int .i64 A.v, .int .i64 A.c, .slice A.s.a A.s.D.length A.s.c] 68)).alloc (.cells #[.int .i64 A.n, .int .u64 B.h, .int .u64 B.l, .int .i64 B.v, .int .i64 B.c, .slice B.s.a B.s.D.length B.s.c] 68)).alloc (.cells #[.int .i64 A.n, .int .u64 G.h, .int .u64 G.l, .int .i64 G.v, .int .i64 G.c, .slice G.s.a G.s.D.length G.s.c] 68)).heap.size := by rw [hz10.out]; exact Nat.le_refl _
        generalize (((wc.alloc (.cells #[.int .i64 A.n, .int .u64 A.h, .int .u64 A.l, .int .i64 A.v, .int .i64 A.c, .slice A.s.a A.s.D.length A.s.c] 68)).alloc (.cells #[.int .i64 A.n, .int .u64 B.h, .int .u64 B.l, .int .i64 B.v, .int .i64 B.c, .slice B.s.a B.s.D.length B.s.c] 68)).alloc (.cells #[.int .i64 A.n, .int .u64 G.h, .int .u64 G.l, .int .i64 G.v, .int .i64 G.c, .slice G.s.a G.s.D.length G.s.c] 68)) = w10 at *
        have s0 := KP.out _ (D10.out.drew)
        go_region_held3 (fun v => (v.cell? ⟨wc.heap.size, 0, none⟩ = some (.int .i64 A.n) ∧ v.cell? ⟨wc.heap.size, 1, none⟩ = some (.int .u64 A.h) ∧ v.cell? ⟨wc.heap.size, 2, none⟩ = some (.int .u64 A.l) ∧ v.cell? ⟨wc.heap.size, 3, none⟩ = some (.int .i64 A.v) ∧ v.cell? ⟨wc.heap.size, 4, none⟩ = some (.int .i64 A.c) ∧ v.cell? ⟨wc.heap.size, 5, none⟩ = some (.slice A.s.a A.s.D.length A.s.c)) ∧ (v.cell? ⟨(wc.heap.size + 1), 0, none⟩ = some (.int .i64 A.n) ∧ v.cell? ⟨(wc.heap.size + 1), 1, none⟩ = some (.int .u64 B.h) ∧ v.cell? ⟨(wc.heap.size + 1), 2, none⟩ = some (.int .u64 B.l) ∧ v.cell? ⟨(wc.heap.size + 1), 3, none⟩ = some (.int .i64 B.v) ∧ v.cell? ⟨(wc.heap.size + 1), 4, none⟩ = some (.int .i64 B.c) ∧ v.cell? ⟨(wc.heap.size + 1), 5, none⟩ = some (.slice B.s.a B.s.D.length B.s.c))) (with_reducible assumption) (first
          | (have := s3; go_at_call 36; refine (An.put2 (⟨A.n, A.h, A.l, A.v, A.c, A.s⟩ : An) (⟨A.n, B.h, B.l, B.v, B.c, B.s⟩ : An) z3 a3 k3 _ s3 l3 i3 (HQi.out.later E3.out) rfl).mono ?_; rintro e w12 ⟨a12, k12, z12, rfl, s12, l12, i12, b4⟩; have D12 := hide (D3.out.trans (b4.mono (by have := D3.out.size; omega))); have E12 := hide (E3.out.trans (b4.mono (by have := E3.out.size; omega))); have t4 := KP.out w12 D12.out; clear b4 s3 l3 i3)
          | (go_at_call 36; refine (An.put1 (⟨A.n, A.h, A.l, A.v, A.c, A.s⟩ : An) _ (HPi.out.later (E10.out.drew))).mono ?_; rintro e w11 ⟨a3, k3, z3, rfl, s3, l3, i3, b3⟩; have D3 := hide (D10.out.drew.trans (b3.mono (by have := D10.out.size; show _ ≤ w10.heap.size; omega))); have E3 := hide (E10.out.drew.trans (b3.mono (by have := E10.out.size; show _ ≤ w10.heap.size; omega))); have t3 := KP.out w11 D3.out; clear b3))
        rw [e1.out] at l12
        have L12 := hide l12
        have S12 := hide s12
        have I12 := hide i12
        clear s12 l12 i12 t4
        go_wp2_with fail
        have s0 := KP.out _ (D12.out.drew)
        go_region_held3 (fun v => (v.cell? ⟨wc.heap.size, 0, none⟩ = some (.int .i64 A.n) ∧ v.cell? ⟨wc.heap.size, 1, none⟩ = some (.int .u64 A.h) ∧ v.cell? ⟨wc.heap.size, 2, none⟩ = some (.int .u64 A.l) ∧ v.cell? ⟨wc.heap.size, 3, none⟩ = some (.int .i64 A.v) ∧ v.cell? ⟨wc.heap.size, 4, none⟩ = some (.int .i64 A.c) ∧ v.cell? ⟨wc.heap.size, 5, none⟩ = some (.slice A.s.a A.s.D.length A.s.c)) ∧ (v.cell? ⟨(wc.heap.size + 1), 0, none⟩ = some (.int .i64 A.n) ∧ v.cell? ⟨(wc.heap.size + 1), 1, none⟩ = some (.int .u64 B.h) ∧ v.cell? ⟨(wc.heap.size + 1), 2, none⟩ = some (.int .u64 B.l) ∧ v.cell? ⟨(wc.heap.size + 1), 3, none⟩ = some (.int .i64 B.v) ∧ v.cell? ⟨(wc.heap.size + 1), 4, none⟩ = some (.int .i64 B.c) ∧ v.cell? ⟨(wc.heap.size + 1), 5, none⟩ = some (.slice B.s.a B.s.D.length B.s.c))) (with_reducible assumption) (first
          | (have := s3; go_at_call 36; refine (An.put2 (⟨A.n, B.h, B.l, B.v, B.c, B.s⟩ : An) (⟨A.n, A.h, A.l, A.v, A.c, A.s⟩ : An) z3 a3 k3 _ s3 l3 i3 (HPi.out.later E3.out) rfl).mono ?_; rintro e w14 ⟨a14, k14, z14, rfl, s14, l14, i14, b4⟩; have B1214 := hide (F3.out.trans (b4.mono (by have := F3.out.size; omega))); have D14 := hide (D3.out.trans (b4.mono (by have := D3.out.size; omega))); have E14 := hide (E3.out.trans (b4.mono (by have := E3.out.size; omega))); have t4 := KP.out w14 D14.out; clear b4 s3 l3 i3)
          | (go_at_call 36; refine (An.put1 (⟨A.n, B.h, B.l, B.v, B.c, B.s⟩ : An) _ (HQi.out.later (E12.out.drew))).mono ?_; rintro e w13 ⟨a3, k3, z3, rfl, s3, l3, i3, b3⟩; have D3 := hide (D12.out.drew.trans (b3.mono (by have := D12.out.size; show _ ≤ w12.heap.size; omega))); have E3 := hide (E12.out.drew.trans (b3.mono (by have := E12.out.size; show _ ≤ w12.heap.size; omega))); have F3 := hide ((Below.refl w12.heap.size w12).drew.trans (b3.mono (by show _ ≤ w12.heap.size; exact Nat.le_refl _))); have t3 := KP.out w13 D3.out; clear b3))
        rw [e2.out] at l14
        have L14 := hide l14
        have S14 := hide s14
        have I14 := hide i14
        have S12' := hide (S12.out.later B1214.out)
        have I12' := hide (I12.out.later B1214.out)
        clear s14 l14 i14 t4 S12 I12
        have C14 : Hid (Below wc.heap.size wc w14) := F10.out.trans (D14.out.mono (by omega))
        have b15 : Below w14.heap.size w14 (w14.alloc (.cells #[.int .i64 G.n, .int .u64 G.h, .int .u64 G.l, .int .i64 G.v, .int .i64 G.c, .slice G.s.a G.s.D.length G.s.c] 63)) := (Below.refl _ _).alloc (Nat.le_refl _) _
        have D15 := hide (D14.out.trans (b15.mono (by have := D14.out.size; omega)))
        have E15 := hide (E14.out.trans (b15.mono E14.out.size))
        have S15 := hide (S9.out.later (C14.out.trans (b15.mono C14.out.size)))
        have I15 := hide (I9.out.later (C14.out.trans (b15.mono C14.out.size)))
        have cs := hide (Bl.same1 z4 G a4 _ k4 1 _ S15.out (sl_box (Y := yBlA) w14 G 63) L4.out.symm I15.out (HGi.out.later E15.out))
        have T12 := hide (S12'.out.later b15)
        have T14 := hide (S14.out.later b15)
        have J12 := hide (I12'.out.later b15)
        have J14 := hide (I14.out.later b15)
        clear b15 S12' S14 I12' I14 S9 I9 S15 I15
        obtain ⟨_, ⟨g0, g1, g2, g3, g4, g5⟩⟩ := KX.out w14 C14.out
        go_wp2_with fail
        refine cs.out.mono ?_
        rintro e w16 ⟨rfl, b16⟩
        dsimp only
        have D16 := hide (D15.out.trans (b16.mono (by have := D15.out.size; omega)))
        have E16 := hide (E15.out.trans (b16.mono E15.out.size))
        have b17 : Below w16.heap.size w16 (w16.alloc (.cells #[.int .i64 A.n, .int .u64 G.h, .int .u64 G.l, .int .i64 G.v, .int .i64 G.c, .slice G.s.a G.s.D.length G.s.c] 68)) := (Below.refl _ _).alloc (Nat.le_refl _) _
        have b18 := b16.trans (b17.mono b16.size)
        have D17 := hide (D16.out.trans (b17.mono (by have := D16.out.size; omega)))
        have E17 := hide (E16.out.trans (b17.mono E16.out.size))
        have U12 := hide (T12.out.later b18)
        have U14 := hide (T14.out.later b18)
        have V12 := hide (J12.out.later b18)
        have V14 := hide (J14.out.later b18)
        have ct := hide (An.same1 z12 (⟨A.n, G.h, G.l, G.v, G.c, G.s⟩ : An) a12 _ k12 1 _ U12.out (sl_box (Y := yAnA) w16 (⟨A.n, G.h, G.l, G.v, G.c, G.s⟩ : An) 68) L12.out.symm V12.out (HWi.out.later E17.out))
        clear cs b16 b17 b18 T12 T14 J12 J14 g0 g1 g2 g3 g4 g5
        obtain ⟨g0, g1, g2, g3, g4, g5⟩ := KW.out w16 D16.out
        go_wp2_with fail
        refine ct.out.mono ?_
        rintro e w18 ⟨rfl, b18⟩
        dsimp only
        have D18 := hide (D17.out.trans (b18.mono (by have := D17.out.size; omega)))
        have E18 := hide (E17.out.trans (b18.mono E17.out.size))
        have cu := hide (An.same1 z14 z12 a14 a12 k14 k12 _ (U14.out.later b18) (U12.out.later b18) (L14.out.symm.trans L12.out) (V14.out.later b18) (V12.out.later b18))
        clear ct b18 U12 U14 V12 V14 L12 L14 g0 g1 g2 g3 g4 g5
        go_wp2_with fail
        refine cu.out.mono ?_
        rintro e w19 ⟨rfl, b19⟩
        dsimp only
        have D19 := hide (D18.out.trans (b19.mono (by have := D18.out.size; omega)))
        have E19 := hide (E18.out.trans (b19.mono E18.out.size))
        have C19 : Hid (Below wc.heap.size wc w19) := F10.out.trans (D19.out.mono (by omega))
        clear cu b19
        obtain ⟨⟨⟨p0, p1, p2, p3, p4, p5⟩, _⟩, _⟩ := KX.out w19 C19.out
        have cv := hide (Bl.Put_any L A ad n c w19 (H.out.later E19.out) (fun x hx => (HX.out x hx).later E19.out) (HA.out.later E19.out) (by omega))
        unfold Bl.val at cv
        go_wp2_with fail
        refine cv.out.mono ?_
        rintro e w20 ⟨v20, R, rfl, o20, t20, b20⟩
        dsimp only
        have E20 := hide (E19.out.trans (b20.mono E19.out.size))
        have C20 := hide (C19.out.trans (b20.mono C19.out.size))
        obtain ⟨a20, k20, rfl, _, _⟩ := o20.sl kBlA
        have hRl : Hid (R.length = (Bl.put L A).length) := t20.1
        clear o20 t20 b20 cv p0 p1 p2 p3 p4 p5
        rw [Bl.put_has] at hRl
        rw [HN.out] at hRl
        generalize R.length = rl at *
        go_wp2_with fail
        go_loopw [18, 17] (fun i s wr => ∃ (j k : Nat) (b : Bool), i = .int .i64 (j : Int) ∧ j ≤ n ∧ s = .bool b ∧ Hid (b = (L.take j).any (fun y => decide (y.n = A.n))) ∧ wr = w20.drewN k) (fun i _ _ => n - (intOf i).toNat)
        case atStart => exact ⟨0, 0, false, rfl, Nat.zero_le _, rfl, rfl, rfl⟩
        case round =>
          obtain ⟨j, k, b, rfl, hj, rfl, hb, rfl⟩ := hrel
          by_cases hlt : j < n
          · have hjl : j < L.length := by rw [HN.out]; exact hlt
            have hgj : L[j]? = some L[j] := List.getElem?_eq_getElem hjl
            obtain ⟨q, o, ea, hq, y0, _⟩ := (H.out.later (belNN E20.out (k + 1))).BlA hgj
            cases ea
            obtain ⟨⟨⟨p0, _⟩, _⟩, _⟩ := KX.out _ (belNN C20.out (k + 1))
            have hb1 : Hid ((L.take (j + 1)).any (fun y => decide (y.n = A.n)) = (b || decide (L[j].n = A.n))) := by
              show _ = _
              rw [List.take_add_one, hgj, Option.toList_some, List.any_append, hb.out]
              simp only [List.any_cons, List.any_nil, Bool.or_false]
            clear hgj hb
            generalize L[j] = x at *
            have sS : (w20.drewN k).drew.cell? ⟨q, o + j * 6, none⟩ = some (.int .i64 x.n) ∧ (w20.drewN k).drew.cell? ⟨w.heap.size, 0, none⟩ = some (.int .i64 A.n) := ⟨y0, p0⟩
            cases b with
            | true =>
              go_wp2_with fail
              refine region_q9 (C := fun v => ∃ k, v = w20.drewN k) (by kernel_rfl) (by kernel_rfl) ⟨k + 1, rfl⟩ ?_
              refine wqv (u := .bool true) (by kernel_rfl) (fun v hv => by kernel_rfl) ?_
              simp only [Act.put, List.setIfInBounds_toArray, List.set_cons_zero, List.set_cons_succ]
              refine wqv (u := .bool true) (by kernel_rfl) (fun v hv => by kernel_rfl) ?_
              simp only [Act.put, List.setIfInBounds_toArray, List.set_cons_zero, List.set_cons_succ]
              refine wqskip (by kernel_rfl) ?_
              simp only [Act.put, List.setIfInBounds_toArray, List.set_cons_zero, List.set_cons_succ]
              refine wqskip (by kernel_rfl) ?_
              simp only [Act.put, List.setIfInBounds_toArray, List.set_cons_zero, List.set_cons_succ]
              refine wqskip (by kernel_rfl) ?_
              simp only [Act.put, List.setIfInBounds_toArray, List.set_cons_zero, List.set_cons_succ]
              refine wqskip (by kernel_rfl) ?_
              simp only [Act.put, List.setIfInBounds_toArray, List.set_cons_zero, List.set_cons_succ]
              refine wqskip (by kernel_rfl) ?_
              simp only [Act.put, List.setIfInBounds_toArray, List.set_cons_zero, List.set_cons_succ]
              refine wqskip (by kernel_rfl) ?_
              simp only [Act.put, List.setIfInBounds_toArray, List.set_cons_zero, List.set_cons_succ]
              refine wqskip (by kernel_rfl) ?_
              simp only [Act.put, List.setIfInBounds_toArray, List.set_cons_zero, List.set_cons_succ]
              refine wqskip (by kernel_rfl) ?_
              simp only [Act.put, List.setIfInBounds_toArray, List.set_cons_zero, List.set_cons_succ]
              refine wqv (u := .bool true) (by kernel_rfl) (fun v hv => by kernel_rfl) ?_
              simp only [Act.put, List.setIfInBounds_toArray, List.set_cons_zero, List.set_cons_succ]
              refine wqv (u := .bool true) (by kernel_rfl) (fun v hv => by kernel_rfl) ?_
              simp only [Act.put, List.setIfInBounds_toArray, List.set_cons_zero, List.set_cons_succ]
              refine wqnil (fun v hv => ?_)
              obtain ⟨k2, rfl⟩ := hv
              go_wp2
              go_round
              case rel => exact ⟨j + 1, k2, true, by go_num, by omega, rfl, by show _ = _; rw [hb1.out]; rfl, rfl⟩
              case measure => first | (simp [intOf]; done) | (simp [intOf]; omega)
            | false =>
              go_wp2_with fail
              go_region_held3 (fun v => v.cell? ⟨q, o + j * 6, none⟩ = some (.int .i64 x.n) ∧ v.cell? ⟨w.heap.size, 0, none⟩ = some (.int .i64 A.n)) (with_reducible assumption) (fail)
              go_wp2
              go_round
              case rel => exact ⟨j + 1, k + 1, decide (x.n = A.n), by go_num, by omega, rfl, by show _ = _; rw [hb1.out]; rfl, rfl⟩
              case measure => first | (simp [intOf]; done) | (simp [intOf]; omega)
          · obtain rfl : j = n := by omega
            rw [List.take_of_length_le (by rw [HN.out]; exact Nat.le_refl _)] at hb
            rw [← hb.out] at hRl
            have E21 := hide (belNN E20.out k)
            cases b with
            | true =>
              obtain rfl : rl = j := hRl.out
              go_wp2
              go_ret
              exact ⟨rfl, E21.out⟩
            | false =>
              obtain rfl : rl = j + 1 := hRl.out
              have hw1 : IntKind.i64.wrap ((j : Int) + 1) = (j : Int) + 1 := by rw [IntKind.wrap_i64]; omega
              go_wp2
              go_ret
              exact ⟨rfl, E21.out⟩

end Go.Proofs.Ytnhonkgondljjaa

namespace Go.Proofs.Ytnhonkgondljjaa
open Go.ChangeShapes Go.WideShapes Go.ChangeAt Go.RowKit Go.Maps
set_option linter.unusedVariables false
set_option linter.unusedSimpArgs false

set_option maxRecDepth 100000 in
/-- A ballot by value that came in. -/
theorem open_ballot9 {H : Type} {enc : TypeId × Value → H} {W : World} {base : Nat} {v : Value} {d : DataW H} {p : List MemPlace} (hv : Value.okWide Try.prog W .any base 63 v) (h : DataW.Trod enc Try.prog W 0 (fun _ => true) true 63 v d p)
    (hw : ∀ m, m ∈ d.weights Try.prog 63 → m ≤ reachBytes) :
    ∃ x : Bl, v = .agg #[.int .i64 x.n, .int .u64 x.h, .int .u64 x.l, .int .i64 x.v, .int .i64 x.c, .slice x.s.a x.s.D.length x.s.c] ∧ x.fits W := by
  obtain ⟨cs, rfl, hsz⟩ := okWide_struct Try.underlying63 hv
  obtain ⟨fuel, hf⟩ := h
  obtain ⟨o, ho, e⟩ := open_elBl hf hw
  refine ⟨o, ?_, ho⟩
  have e : cs.toList = o.cs := by simp only [Value.cells] at e; exact e
  have : cs = #[.int .i64 o.n, .int .u64 o.h, .int .u64 o.l, .int .i64 o.v, .int .i64 o.c, .slice o.s.a o.s.D.length o.s.c] := by rw [← Array.toList_inj]; exact e
  rw [this]
theorem ballots_came (x y : Bl) (a : Option Addr) (len cap : Nat) (W : World) (hx : x.fits W) (hy : y.fits W) (h : CameBl W a len cap) :
    Calls Try.prog 6 #[.agg #[.int .i64 x.n, .int .u64 x.h, .int .u64 x.l, .int .i64 x.v, .int .i64 x.c, .slice x.s.a x.s.D.length x.s.c], .agg #[.int .i64 y.n, .int .u64 y.h, .int .u64 y.l, .int .i64 y.v, .int .i64 y.c, .slice y.s.a y.s.D.length y.s.c], .slice a len cap] W fun e w' => e = .returned (.bool true) ∧ Below W.heap.size W w' := by
  obtain ⟨P, hs, hf, hm⟩ := h
  exact ballots_walk x y P a len cap W hs (fun e he => (hf e he).In) hx.In hy.In hm

end Go.Proofs.Ytnhonkgondljjaa

