import Derived.Test.YtilngncjbikkgaaGkk
namespace Go.Proofs.Ytilngncjbikkgaa
open Go.RowKit
set_option linter.unusedVariables false
set_option linter.unusedSimpArgs false

section
variable {W0 w : World} {S T : Nat → Prop} {g g' : Nat} {k : Int} {n : Nat} {R : Int} {rd : Nat → Int} {md : Nat → Nat} {s : Nat → Int} {L : List (Int × Int × Int)}
theorem tL_len (E : Int) (L : List (Int × Int × Int)) (x : Int × Int × Int) : (tL E L x).length ≤ L.length + 1 := by
  unfold tL
  split <;> simp
set_option maxRecDepth 100000 in
set_option maxHeartbeats 2000000 in
theorem acted3 (h : AB W0 w S T g g' k n R rd md s L) (N : Int) (j : Nat) (hj : j < n) (hb : (L.length + 1) * 24 ≤ 140737488355328) :
    Calls Try.prog 7 #[.pointer (some ⟨g, 0, none⟩), .pointer (some ⟨g', 0, none⟩), .agg #[.int .i64 3, .int .i64 (j : Int), .int .u64 N]] w fun e w' => e = .returned (.bool true) ∧ Lft W0 g g' k n (L.length + 1) w' := by
  obtain ⟨W, hW⟩ : ∃ W, w.alloc (.cells #[.int .i64 3, .int .i64 (j : Int), .int .u64 N] 34) = W := ⟨_, rfl⟩
  have bW : Below w.heap.size w W := by rw [← hW]; exact (Below.refl _ w).alloc (Nat.le_refl _) _
  have zW := hide (show W.heap.size = w.heap.size + 1 by rw [← hW]; simp)
  have x0 : W.cell? ⟨w.heap.size, 0, none⟩ = some (.int .i64 3) := by rw [← hW]; simp
  have x1 : W.cell? ⟨w.heap.size, 1, none⟩ = some (.int .i64 (j : Int)) := by rw [← hW]; simp
  have HW := hide (h.bel9 bW)
  have NS := hide (show ∀ b, (S b ∨ T b) → b < w.heap.size from fun b hb => hb.elim (h.A.1 b) (h.D.1 b))
  clear h bW
  go_enter Try.func7, Try.ntmps7
  go_wp2_with fail
  refine (cg_draw HW.out.A j hj hb).mono ?_
  rintro e w1 ⟨rfl, ⟨S', a1, ms⟩, u1⟩
  have hz := zW.out
  have z1 := u1.size
  have y1 := (u1.cell (p := ⟨w.heap.size, 1, none⟩) (by show w.heap.size < _; omega) (fun e => by have := NS.out _ (.inl e); dsimp only at this; omega)).trans x1
  have ld : RA w1 T g' k n R rd md s L := HW.out.D.upd u1 (fun b hb e => HW.out.sep b e hb)
  have lw1 : w.heap.size < w1.heap.size := by omega
  have NT1 : Hid (∀ b, T b → b < w1.heap.size) := fun b hb => by have := NS.out b (.inr hb); omega
  have y1' : ∀ o, (w1.alloc o).cell? ⟨w.heap.size, 1, none⟩ = some (.int .i64 (j : Int)) := fun o => (World.cell?_alloc_past _ _ _ lw1).trans y1
  generalize hX : nX k R rd md s j = X at *
  generalize hY : nY k R rd md s j = Y at *
  generalize hE : nE k R rd md j = E at *
  have HXY := hide (And.intro hX (And.intro hY hE))
  have C2 := hide (ra_draw (ld.upd (U := fun _ => False) ((Upd.refl _ w1).alloc (.cells #[.int .u64 X, .int .u64 Y] 58)) (fun _ _ => id)) HW.out.hk j hj hb)
  have HA1 := hide a1
  have MS := hide ms
  have U1 := hide u1
  clear a1 ms u1 ld x0 x1 hX hY hE hW hz
  go_wp2_with fail
  refine C2.out.mono ?_
  rintro e w2 ⟨rfl, ⟨T', d2, mt⟩, u2⟩
  have hXY := HXY.out
  rw [hXY.1, hXY.2.1, hXY.2.2] at d2 ⊢
  have q0 : w2.cell? ⟨w1.heap.size, 0, none⟩ = some (.int .u64 X) := (u2.cell (p := ⟨w1.heap.size, 0, none⟩) (by simp) (fun e => by have := NT1.out _ e; dsimp only at this; omega)).trans (by simp)
  have q1 : w2.cell? ⟨w1.heap.size, 1, none⟩ = some (.int .u64 Y) := (u2.cell (p := ⟨w1.heap.size, 1, none⟩) (by simp) (fun e => by have := NT1.out _ e; dsimp only at this; omega)).trans (by simp)
  have z2 := u2.size
  rw [World.size_alloc] at z2
  have lw2 : w1.heap.size < w2.heap.size := by omega
  have q0' : ∀ o, (w2.alloc o).cell? ⟨w1.heap.size, 0, none⟩ = some (.int .u64 X) := fun o => (World.cell?_alloc_past _ _ _ lw2).trans q0
  have q1' : ∀ o, (w2.alloc o).cell? ⟨w1.heap.size, 1, none⟩ = some (.int .u64 Y) := fun o => (World.cell?_alloc_past _ _ _ lw2).trans q1
  have FF := hide (HW.out.both HA1.out MS.out U1.out d2 (fun b hb => (mt b hb).imp id (fun h => by rw [World.size_alloc] at h; omega)) (((Upd.refl _ w1).alloc _).trans u2))
  clear d2 mt u2 C2 hXY HA1 MS U1 y1 y1' HXY
  go_wp2
  go_ret
  exact ⟨rfl, _, _, _, _, _, _, _, FF.out.bel9 ((Below.refl _ _).alloc (Nat.le_refl _) _), tL_len _ _ _⟩
set_option maxRecDepth 100000 in
set_option maxHeartbeats 2000000 in
theorem acted3b (h : AB W0 w S T g g' k n R rd md s L) (nd N : Int) (hi : ¬ (0 ≤ nd ∧ nd < (n : Int))) :
    Calls Try.prog 7 #[.pointer (some ⟨g, 0, none⟩), .pointer (some ⟨g', 0, none⟩), .agg #[.int .i64 3, .int .i64 nd, .int .u64 N]] w fun e w' => e = .returned (.bool true) ∧ Lft W0 g g' k n (L.length + 1) w' := by
  obtain ⟨W, hW⟩ : ∃ W, w.alloc (.cells #[.int .i64 3, .int .i64 nd, .int .u64 N] 34) = W := ⟨_, rfl⟩
  have bW : Below w.heap.size w W := by rw [← hW]; exact (Below.refl _ w).alloc (Nat.le_refl _) _
  have zW := hide (show W.heap.size = w.heap.size + 1 by rw [← hW]; simp)
  have x0 : W.cell? ⟨w.heap.size, 0, none⟩ = some (.int .i64 3) := by rw [← hW]; simp
  have x1 : W.cell? ⟨w.heap.size, 1, none⟩ = some (.int .i64 nd) := by rw [← hW]; simp
  have HW := hide (h.bel9 bW)
  clear h bW
  go_enter Try.func7, Try.ntmps7
  go_wp2_with fail
  refine (cg_bad HW.out.A nd hi).1.mono ?_
  rintro e w1 ⟨rfl, b1⟩
  have hz := zW.out
  have z1 := b1.size
  have y1 := (b1.cell (p := ⟨w.heap.size, 1, none⟩) (by show w.heap.size < _; omega)).trans x1
  have lw1 : w.heap.size < w1.heap.size := by omega
  have y1' : ∀ o, (w1.alloc o).cell? ⟨w.heap.size, 1, none⟩ = some (.int .i64 nd) := fun o => (World.cell?_alloc_past _ _ _ lw1).trans y1
  have H1 := hide ((HW.out.bel9 b1).bel9 ((Below.refl _ _).alloc (Nat.le_refl _) (.cells #[.int .u64 0, .int .u64 0] 58)))
  clear x0 x1 hW hz b1
  go_wp2_with fail
  refine (ra_bad H1.out.D nd hi).1.mono ?_
  rintro e w2 ⟨rfl, b2⟩
  have q0 : w2.cell? ⟨w1.heap.size, 0, none⟩ = some (.int .u64 0) := (b2.cell (p := ⟨w1.heap.size, 0, none⟩) (by simp)).trans (by simp)
  have q1 : w2.cell? ⟨w1.heap.size, 1, none⟩ = some (.int .u64 0) := (b2.cell (p := ⟨w1.heap.size, 1, none⟩) (by simp)).trans (by simp)
  have z2 := b2.size
  rw [World.size_alloc] at z2
  have lw2 : w1.heap.size < w2.heap.size := by omega
  have q0' : ∀ o, (w2.alloc o).cell? ⟨w1.heap.size, 0, none⟩ = some (.int .u64 0) := fun o => (World.cell?_alloc_past _ _ _ lw2).trans q0
  have q1' : ∀ o, (w2.alloc o).cell? ⟨w1.heap.size, 1, none⟩ = some (.int .u64 0) := fun o => (World.cell?_alloc_past _ _ _ lw2).trans q1
  have FF := hide (H1.out.bel9 b2)
  clear b2 H1 y1 y1'
  go_wp2
  go_ret
  exact ⟨rfl, _, _, _, _, _, _, _, FF.out.bel9 ((Below.refl _ _).alloc (Nat.le_refl _) _), Nat.le_succ _⟩
end

end Go.Proofs.Ytilngncjbikkgaa
