import Derived.Test.YtilngncjbikkgaaGkj
import Derived.Deep.RegionHeld3
namespace Go.Proofs.Ytilngncjbikkgaa
open Go.RowKit
set_option linter.unusedVariables false
set_option linter.unusedSimpArgs false

/-- The program's group and the document's, side by side. -/
structure AB (W0 w : World) (S T : Nat → Prop) (g g' : Nat) (k : Int) (n : Nat) (R : Int) (rd : Nat → Int) (md : Nat → Nat) (s : Nat → Int) (L : List (Int × Int × Int)) : Prop where
  A : CG w S g k n R rd md s L
  D : RA w T g' k n R rd md s L
  sep : ∀ b, S b → ¬ T b
  lo : ∀ b, (S b ∨ T b) → W0.heap.size ≤ b
  bel : Below W0.heap.size W0 w
  hk : k = 1 ∨ k = 2
/-- What acted leaves. -/
def Lft (W0 : World) (g g' : Nat) (k : Int) (n m : Nat) (w' : World) : Prop := ∃ S T R rd md s L, AB W0 w' S T g g' k n R rd md s L ∧ L.length ≤ m
section
variable {W0 w : World} {S T : Nat → Prop} {g g' : Nat} {k : Int} {n : Nat} {R : Int} {rd : Nat → Int} {md : Nat → Nat} {s : Nat → Int} {L : List (Int × Int × Int)}
theorem AB.bel9 (h : AB W0 w S T g g' k n R rd md s L) {w' : World} (b : Below w.heap.size w w') : AB W0 w' S T g g' k n R rd md s L :=
  ⟨h.A.upd (U := fun _ => False) (Upd.of_below b) (fun _ _ => id), h.D.upd (U := fun _ => False) (Upd.of_below b) (fun _ _ => id), h.sep, h.lo, h.bel.trans (b.mono h.bel.size), h.hk⟩
/-- Both changed, one behind the other. -/
theorem AB.both (h : AB W0 w S T g g' k n R rd md s L) {w1 w2 : World} {S' T' : Nat → Prop} {R' : Int} {rd' : Nat → Int} {md' : Nat → Nat} {s' : Nat → Int} {L' : List (Int × Int × Int)} (a : CG w1 S' g k n R' rd' md' s' L') (ms : More w S S') (u1 : Upd S w w1) (d : RA w2 T' g' k n R' rd' md' s' L') (mt : More w1 T T') (u2 : Upd T w1 w2) :
    AB W0 w2 S' T' g g' k n R' rd' md' s' L' := by
  have hA := h.A.1
  have hT := h.D.1
  have z1 := u1.size
  have hz := h.bel.size
  have nST : ∀ b, S' b → ¬ T b := fun b hb ht => by
    rcases ms b hb with hb | hb
    · exact h.sep b hb ht
    · have := hT b ht; omega
  refine ⟨a.upd u2 (fun b hb e => nST b hb e), d, fun b hb ht => ?_, fun b hb => ?_, ?_, h.hk⟩
  · rcases mt b ht with ht | ht
    · exact nST b hb ht
    · have := a.1 b hb; omega
  · rcases hb with hb | hb
    · rcases ms b hb with hb | hb
      · exact h.lo b (.inl hb)
      · omega
    · rcases mt b hb with hb | hb
      · exact h.lo b (.inr hb)
      · omega
  · exact (h.bel.trans (u1.below hz (fun b hb => h.lo b (.inl hb)))).trans (u2.below (by omega) (fun b hb => h.lo b (.inr hb)))
theorem More.refl (w : World) (S : Nat → Prop) : More w S S := fun _ h => .inl h
set_option maxRecDepth 100000 in
set_option maxHeartbeats 2000000 in
theorem acted0 (h : AB W0 w S T g g' k n R rd md s L) (nd N : Int) (hN : 0 ≤ N ∧ N ≤ 18446744073709551615) :
    Calls Try.prog 7 #[.pointer (some ⟨g, 0, none⟩), .pointer (some ⟨g', 0, none⟩), .agg #[.int .i64 0, .int .i64 nd, .int .u64 N]] w fun e w' => e = .returned (.bool true) ∧ Lft W0 g g' k n (L.length + 1) w' := by
  obtain ⟨W, hW⟩ : ∃ W, w.alloc (.cells #[.int .i64 0, .int .i64 nd, .int .u64 N] 34) = W := ⟨_, rfl⟩
  have bW : Below w.heap.size w W := by rw [← hW]; exact (Below.refl _ w).alloc (Nat.le_refl _) _
  have zW := hide (show W.heap.size = w.heap.size + 1 by rw [← hW]; simp)
  have x0 : W.cell? ⟨w.heap.size, 0, none⟩ = some (.int .i64 0) := by rw [← hW]; simp
  have x1 : W.cell? ⟨w.heap.size, 1, none⟩ = some (.int .i64 nd) := by rw [← hW]; simp
  have x2 : W.cell? ⟨w.heap.size, 2, none⟩ = some (.int .u64 N) := by rw [← hW]; simp
  have HW := hide (h.bel9 bW)
  have HDR := hide ((h.bel9 bW).bel9 (Below.refl _ _).drew)
  have NS := hide (show ∀ b, (S b ∨ T b) → b < w.heap.size from fun b hb => hb.elim (h.A.1 b) (h.D.1 b))
  have c1 := hide (cg_set HDR.out.A N hN.2)
  have c2 := hide (fun v (hv : Upd S W.drew v) => ra_set (HDR.out.D.upd hv (fun b hb e => HDR.out.sep b e hb)) HDR.out.hk N hN.1 hN.2)
  have KF : Hid (∀ v, Upd (fun b => S b ∨ T b) W.drew v → v.cell? ⟨w.heap.size, 2, none⟩ = some (.int .u64 N)) := fun v u => (u.cell (p := ⟨w.heap.size, 2, none⟩) (by show w.heap.size < W.drew.heap.size; have := zW.out; simp; omega) (fun e => by have := NS.out _ e; dsimp only at this; omega)).trans (by show W.cell? _ = _; exact x2)
  have s0 := KF.out _ (Upd.refl _ _)
  clear h bW
  go_enter Try.func7, Try.ntmps7
  go_wp2_with fail
  clear hW x0 x1 x2
  go_region_held3 (fun v => v.cell? ⟨w.heap.size, 2, none⟩ = some (.int .u64 N)) (first | with_reducible assumption | go_keep)
    (first
      | (have := D1; go_at_call 16; refine (c2.out _ D1.out).mono ?_; rintro e w2 ⟨rfl, r2, u2⟩; have D2 := hide u2; have E2 := hide r2; have s2 := KF.out _ ((D1.out.mono (fun i _ e => .inl e)).trans (u2.mono (fun i _ e => .inr e))); clear u2 r2)
      | (go_at_call 15; refine c1.out.mono ?_; rintro e w1 ⟨rfl, r1, u1⟩; have D1 := hide u1; have E1 := hide r1; have s1 := KF.out _ (u1.mono (fun i _ e => .inl e)); clear u1 r1))
  go_wp2
  go_ret
  refine ⟨rfl, ?_⟩
  exact ⟨_, _, _, _, _, _, _, HDR.out.both E1.out (More.refl _ _) D1.out E2.out (More.refl _ _) D2.out, Nat.le_succ _⟩
set_option maxRecDepth 100000 in
set_option maxHeartbeats 2000000 in
theorem acted1 (h : AB W0 w S T g g' k n R rd md s L) (nd N : Int) (hN : 0 ≤ N ∧ N ≤ 18446744073709551615) :
    Calls Try.prog 7 #[.pointer (some ⟨g, 0, none⟩), .pointer (some ⟨g', 0, none⟩), .agg #[.int .i64 1, .int .i64 nd, .int .u64 N]] w fun e w' => e = .returned (.bool true) ∧ Lft W0 g g' k n (L.length + 1) w' := by
  obtain ⟨W, hW⟩ : ∃ W, w.alloc (.cells #[.int .i64 1, .int .i64 nd, .int .u64 N] 34) = W := ⟨_, rfl⟩
  have bW : Below w.heap.size w W := by rw [← hW]; exact (Below.refl _ w).alloc (Nat.le_refl _) _
  have zW := hide (show W.heap.size = w.heap.size + 1 by rw [← hW]; simp)
  have x0 : W.cell? ⟨w.heap.size, 0, none⟩ = some (.int .i64 1) := by rw [← hW]; simp
  have x1 : W.cell? ⟨w.heap.size, 1, none⟩ = some (.int .i64 nd) := by rw [← hW]; simp
  have x2 : W.cell? ⟨w.heap.size, 2, none⟩ = some (.int .u64 N) := by rw [← hW]; simp
  have HW := hide (h.bel9 bW)
  have HDR := hide ((h.bel9 bW).bel9 (Below.refl _ _).drew)
  have NS := hide (show ∀ b, (S b ∨ T b) → b < w.heap.size from fun b hb => hb.elim (h.A.1 b) (h.D.1 b))
  have c1 := hide (cg_pass HDR.out.A N hN.1)
  have c2 := hide (fun v (hv : Upd S W.drew v) => ra_pass (HDR.out.D.upd hv (fun b hb e => HDR.out.sep b e hb)) HDR.out.hk N hN.1)
  have KF : Hid (∀ v, Upd (fun b => S b ∨ T b) W.drew v → v.cell? ⟨w.heap.size, 2, none⟩ = some (.int .u64 N)) := fun v u => (u.cell (p := ⟨w.heap.size, 2, none⟩) (by show w.heap.size < W.drew.heap.size; have := zW.out; simp; omega) (fun e => by have := NS.out _ e; dsimp only at this; omega)).trans (by show W.cell? _ = _; exact x2)
  have s0 := KF.out _ (Upd.refl _ _)
  clear h bW
  go_enter Try.func7, Try.ntmps7
  go_wp2_with fail
  clear hW x0 x1 x2
  go_region_held3 (fun v => v.cell? ⟨w.heap.size, 2, none⟩ = some (.int .u64 N)) (first | with_reducible assumption | go_keep)
    (first
      | (have := D1; go_at_call 18; refine (c2.out _ D1.out).mono ?_; rintro e w2 ⟨rfl, r2, u2⟩; have D2 := hide u2; have E2 := hide r2; have s2 := KF.out _ ((D1.out.mono (fun i _ e => .inl e)).trans (u2.mono (fun i _ e => .inr e))); clear u2 r2)
      | (go_at_call 17; refine c1.out.mono ?_; rintro e w1 ⟨rfl, r1, u1⟩; have D1 := hide u1; have E1 := hide r1; have s1 := KF.out _ (u1.mono (fun i _ e => .inl e)); clear u1 r1))
  go_wp2
  go_ret
  refine ⟨rfl, ?_⟩
  exact ⟨_, _, _, _, _, _, _, HDR.out.both E1.out (More.refl _ _) D1.out E2.out (More.refl _ _) D2.out, Nat.le_succ _⟩
set_option maxRecDepth 100000 in
set_option maxHeartbeats 2000000 in
theorem acted2 (h : AB W0 w S T g g' k n R rd md s L) (nd N : Int) (j : Nat) (hnd : nd = (j : Int)) (hj : j < n) :
    Calls Try.prog 7 #[.pointer (some ⟨g, 0, none⟩), .pointer (some ⟨g', 0, none⟩), .agg #[.int .i64 2, .int .i64 nd, .int .u64 N]] w fun e w' => e = .returned (.bool true) ∧ Lft W0 g g' k n (L.length + 1) w' := by
  subst hnd
  obtain ⟨W, hW⟩ : ∃ W, w.alloc (.cells #[.int .i64 2, .int .i64 (j : Int), .int .u64 N] 34) = W := ⟨_, rfl⟩
  have bW : Below w.heap.size w W := by rw [← hW]; exact (Below.refl _ w).alloc (Nat.le_refl _) _
  have zW := hide (show W.heap.size = w.heap.size + 1 by rw [← hW]; simp)
  have x0 : W.cell? ⟨w.heap.size, 0, none⟩ = some (.int .i64 2) := by rw [← hW]; simp
  have x1 : W.cell? ⟨w.heap.size, 1, none⟩ = some (.int .i64 (j : Int)) := by rw [← hW]; simp
  have x2 : W.cell? ⟨w.heap.size, 2, none⟩ = some (.int .u64 N) := by rw [← hW]; simp
  have HW := hide (h.bel9 bW)
  have HDR := hide ((h.bel9 bW).bel9 (Below.refl _ _).drew)
  have NS := hide (show ∀ b, (S b ∨ T b) → b < w.heap.size from fun b hb => hb.elim (h.A.1 b) (h.D.1 b))
  have c1 := hide (cg_wipe HDR.out.A j hj)
  have c2 := hide (fun v (hv : Upd S W.drew v) => ra_wipe (HDR.out.D.upd hv (fun b hb e => HDR.out.sep b e hb)) HDR.out.hk j hj)
  have KF : Hid (∀ v, Upd (fun b => S b ∨ T b) W.drew v → v.cell? ⟨w.heap.size, 1, none⟩ = some (.int .i64 (j : Int))) := fun v u => (u.cell (p := ⟨w.heap.size, 1, none⟩) (by show w.heap.size < W.drew.heap.size; have := zW.out; simp; omega) (fun e => by have := NS.out _ e; dsimp only at this; omega)).trans (by show W.cell? _ = _; exact x1)
  have s0 := KF.out _ (Upd.refl _ _)
  clear h bW
  go_enter Try.func7, Try.ntmps7
  go_wp2_with fail
  clear hW x0 x1 x2
  go_region_held3 (fun v => v.cell? ⟨w.heap.size, 1, none⟩ = some (.int .i64 (j : Int))) (first | with_reducible assumption | go_keep)
    (first
      | (have := D1; go_at_call 20; refine (c2.out _ D1.out).mono ?_; rintro e w2 ⟨rfl, r2, u2⟩; have D2 := hide u2; have E2 := hide r2; have s2 := KF.out _ ((D1.out.mono (fun i _ e => .inl e)).trans (u2.mono (fun i _ e => .inr e))); clear u2 r2)
      | (go_at_call 19; refine c1.out.mono ?_; rintro e w1 ⟨rfl, r1, u1⟩; have D1 := hide u1; have E1 := hide r1; have s1 := KF.out _ (u1.mono (fun i _ e => .inl e)); clear u1 r1))
  go_wp2
  go_ret
  refine ⟨rfl, ?_⟩
  exact ⟨_, _, _, _, _, _, _, HDR.out.both E1.out (More.refl _ _) D1.out E2.out (More.refl _ _) D2.out, Nat.le_succ _⟩
set_option maxRecDepth 100000 in
set_option maxHeartbeats 2000000 in
theorem acted2b (h : AB W0 w S T g g' k n R rd md s L) (nd N : Int) (hi : ¬ (0 ≤ nd ∧ nd < (n : Int))) :
    Calls Try.prog 7 #[.pointer (some ⟨g, 0, none⟩), .pointer (some ⟨g', 0, none⟩), .agg #[.int .i64 2, .int .i64 nd, .int .u64 N]] w fun e w' => e = .returned (.bool true) ∧ Lft W0 g g' k n (L.length + 1) w' := by
  obtain ⟨W, hW⟩ : ∃ W, w.alloc (.cells #[.int .i64 2, .int .i64 nd, .int .u64 N] 34) = W := ⟨_, rfl⟩
  have bW : Below w.heap.size w W := by rw [← hW]; exact (Below.refl _ w).alloc (Nat.le_refl _) _
  have zW := hide (show W.heap.size = w.heap.size + 1 by rw [← hW]; simp)
  have x0 : W.cell? ⟨w.heap.size, 0, none⟩ = some (.int .i64 2) := by rw [← hW]; simp
  have x1 : W.cell? ⟨w.heap.size, 1, none⟩ = some (.int .i64 nd) := by rw [← hW]; simp
  have x2 : W.cell? ⟨w.heap.size, 2, none⟩ = some (.int .u64 N) := by rw [← hW]; simp
  have HW := hide (h.bel9 bW)
  have HDR := hide ((h.bel9 bW).bel9 (Below.refl _ _).drew)
  have NS := hide (show ∀ b, (S b ∨ T b) → b < w.heap.size from fun b hb => hb.elim (h.A.1 b) (h.D.1 b))
  have c1 := hide ((cg_bad HDR.out.A nd hi).2)
  have c2 := hide (fun v (hv : Upd S W.drew v) => (ra_bad (HDR.out.D.upd hv (fun b hb e => HDR.out.sep b e hb)) nd hi).2)
  have KF : Hid (∀ v, Upd (fun b => S b ∨ T b) W.drew v → v.cell? ⟨w.heap.size, 1, none⟩ = some (.int .i64 nd)) := fun v u => (u.cell (p := ⟨w.heap.size, 1, none⟩) (by show w.heap.size < W.drew.heap.size; have := zW.out; simp; omega) (fun e => by have := NS.out _ e; dsimp only at this; omega)).trans (by show W.cell? _ = _; exact x1)
  have s0 := KF.out _ (Upd.refl _ _)
  clear h bW
  go_enter Try.func7, Try.ntmps7
  go_wp2_with fail
  clear hW x0 x1 x2
  go_region_held3 (fun v => v.cell? ⟨w.heap.size, 1, none⟩ = some (.int .i64 nd)) (first | with_reducible assumption | go_keep)
    (first
      | (have := D1; go_at_call 20; refine (c2.out _ D1.out).mono ?_; rintro e w2 ⟨rfl, hw2⟩; subst hw2)
      | (go_at_call 19; refine c1.out.mono ?_; rintro e w1 ⟨rfl, hw1⟩; subst hw1; have D1 := hide (Upd.refl S W.drew)))
  go_wp2
  go_ret
  refine ⟨rfl, ?_⟩
  exact ⟨_, _, _, _, _, _, _, HDR.out, Nat.le_succ _⟩
end

end Go.Proofs.Ytilngncjbikkgaa
