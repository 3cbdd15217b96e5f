import Derived.Test.YtolnkoneilipeaaKn
namespace Go.Proofs.Ytolnkoneilipeaa
open Go.RowKit Go.Maps
open Classical
set_option linter.unusedVariables false
set_option linter.unusedSimpArgs false

def wA : En := ⟨0, 1, ⟨1, 1, ⟨#[97]⟩⟩⟩
def wB : En := ⟨1, 1, ⟨3, 1, ⟨#[]⟩⟩⟩
def wC : En := ⟨2, 1, ⟨1, 1, ⟨#[97]⟩⟩⟩
theorem wA_fits : wA.fits := ⟨by decide, by decide, ⟨by decide, by decide, by unfold maxLen; decide⟩⟩
theorem wB_fits : wB.fits := ⟨by decide, by decide, ⟨by decide, by decide, by unfold maxLen; decide⟩⟩
theorem wC_fits : wC.fits := ⟨by decide, by decide, ⟨by decide, by decide, by unfold maxLen; decide⟩⟩
theorem works_e1 : spE [wA] 2 2 [wB] = 0 := by decide
theorem works_e2 : spE [wA, wB] 2 3 [wC] = 60 := by decide
theorem works_l1 : spL [wA] 2 2 [wB] = [wA, wB] := by rw [spL, works_e1]; rfl
theorem works_l2 : spL [wA, wB] 2 3 [wC] = [] := by rw [spL, works_e2]; rfl

set_option maxRecDepth 100000 in
set_option maxHeartbeats 1000000 in
theorem works6_any (w : World) : Calls Try.prog 11 #[] w fun e w' => e = .returned (.bool true) ∧ Below w.heap.size w w' := by
  obtain ⟨w3, hw3⟩ : ∃ w3, (((w.alloc (.cells #[.int .i64 0, .int .i64 1, .int .i64 1, .int .i64 1, .string ⟨#[97]⟩] 40)).alloc (.cells #[.int .i64 1, .int .i64 1, .int .i64 3, .int .i64 1, .string ⟨#[]⟩] 40)).alloc (.cells #[.int .i64 0, .int .i64 1, .int .i64 1, .int .i64 1, .string ⟨#[97]⟩] 40)) = w3 := ⟨_, rfl⟩
  have z3 : w3.heap.size = w.heap.size + 3 := by rw [← hw3]; simp
  have b3 : Below w.heap.size w w3 := by rw [← hw3]; exact (((Below.refl _ _).alloc (Nat.le_refl _) _).alloc (by simp) _).alloc (by simp; omega) _
  have p0 : w3.cell? ⟨w.heap.size, 0, none⟩ = some (.int .i64 0) := by subst hw3; go_simp
  have p1 : w3.cell? ⟨w.heap.size, 1, none⟩ = some (.int .i64 1) := by subst hw3; go_simp
  have p2 : w3.cell? ⟨w.heap.size, 2, none⟩ = some (.int .i64 1) := by subst hw3; go_simp
  have p3 : w3.cell? ⟨w.heap.size, 3, none⟩ = some (.int .i64 1) := by subst hw3; go_simp
  have p4 : w3.cell? ⟨w.heap.size, 4, none⟩ = some (.string ⟨#[97]⟩) := by subst hw3; go_simp
  have q0 : w3.cell? ⟨w.heap.size + 1, 0, none⟩ = some (.int .i64 1) := by subst hw3; go_simp
  have q1 : w3.cell? ⟨w.heap.size + 1, 1, none⟩ = some (.int .i64 1) := by subst hw3; go_simp
  have q2 : w3.cell? ⟨w.heap.size + 1, 2, none⟩ = some (.int .i64 3) := by subst hw3; go_simp
  have q3 : w3.cell? ⟨w.heap.size + 1, 3, none⟩ = some (.int .i64 1) := by subst hw3; go_simp
  have q4 : w3.cell? ⟨w.heap.size + 1, 4, none⟩ = some (.string ⟨#[]⟩) := by subst hw3; go_simp
  have sb : SlY yE w3 (some ⟨w.heap.size + 1 + 1, 0, none⟩) 1 1 [wA] := by
    have := sl_box (Y := yE) ((w.alloc (.cells #[.int .i64 0, .int .i64 1, .int .i64 1, .int .i64 1, .string ⟨#[97]⟩] 40)).alloc (.cells #[.int .i64 1, .int .i64 1, .int .i64 3, .int .i64 1, .string ⟨#[]⟩] 40)) wA 40
    rw [World.size_alloc, World.size_alloc] at this
    rw [← hw3]
    exact this
  have C1 := appendO_any [wA] wB (some ⟨w.heap.size + 1 + 1, 0, none⟩) 1 1 2 w3 sb (fun e he => by simp at he; rw [he]; exact wA_fits) wB_fits (by omega)
  have C2 : Hid (∀ w5 g c, SlY yE w5 (some ⟨g, 0, none⟩) 2 c [wA, wB] → Calls Try.prog 18 #[.slice (some ⟨g, 0, none⟩) 2 c, .int .i64 2, .agg #[.int .i64 2, .int .i64 1, .int .i64 1, .int .i64 1, .string ⟨#[97]⟩]] w5 fun e w' => ∃ v, e = .returned (.tuple #[v, .int .i64 60]) ∧ OwnY yE w5.heap.size w' v [] ∧ Below w5.heap.size w5 w') := fun w5 g c hs => by
    have := appendO_any [wA, wB] wC (some ⟨g, 0, none⟩) 2 c 2 w5 hs (fun e he => by simp at he; rcases he with rfl | rfl; exact wA_fits; exact wB_fits) wC_fits (by omega)
    have e3 : ((List.length [wA, wB] : Nat) : Int) + 1 = 3 := rfl
    rw [e3, works_e2, works_l2] at this
    exact this
  have e2 : ((List.length [wA] : Nat) : Int) + 1 = 2 := rfl
  rw [e2, works_e1, works_l1] at C1
  have HC1 := hide C1
  have HW := hide hw3
  have HZ := hide z3
  have q1e := fun W => eqlE 0 1 1 1 ⟨#[97]⟩ 0 1 1 1 ⟨#[97]⟩ W
  have q2e := fun W => eqlE 1 1 3 1 ⟨#[]⟩ 1 1 3 1 ⟨#[]⟩ W
  simp only [decide_true] at q1e q2e
  clear C1 hw3 z3 sb e2
  dsimp only [wB] at HC1
  go_enter Try.func11, Try.ntmps11
  go_wp2_with fail
  rw [HW.out]
  refine HC1.out.mono ?_
  rintro e w5 ⟨v, rfl, o5, b5⟩
  have hp := HZ.out
  have k0 := (b5.cell (p := ⟨w.heap.size, 0, none⟩) (by show w.heap.size < _; omega)).trans p0
  have k1 := (b5.cell (p := ⟨w.heap.size, 1, none⟩) (by show w.heap.size < _; omega)).trans p1
  have k2 := (b5.cell (p := ⟨w.heap.size, 2, none⟩) (by show w.heap.size < _; omega)).trans p2
  have k3 := (b5.cell (p := ⟨w.heap.size, 3, none⟩) (by show w.heap.size < _; omega)).trans p3
  have k4 := (b5.cell (p := ⟨w.heap.size, 4, none⟩) (by show w.heap.size < _; omega)).trans p4
  have HZ5 : Hid (w.heap.size + 3 ≤ w5.heap.size) := by show _ ≤ _; have := b5.size; omega
  obtain ⟨a5, c5, hv, _, hcm, kn, kg⟩ := o5.form
  obtain ⟨g, rfl⟩ : ∃ g, a5 = some ⟨g, 0, none⟩ := by
    cases a5 with
    | none => exact absurd (kn rfl).1 (by simp)
    | some z => obtain ⟨g, hz, _⟩ := kg z rfl; exact ⟨g, by rw [hz]⟩
  have hv : v = .slice (some ⟨g, 0, none⟩) 2 c5 := hv
  subst hv
  have S5 := hide (o5.sl' kE)
  have O5 := hide o5
  unfold maxLen at hcm
  clear p0 p1 p2 p3 p4 kn kg HC1 HW o5 hp
  go_wp2_with fail
  refine (C2.out w5 g c5 S5.out).mono ?_
  rintro e w6 ⟨v, rfl, o6, b6⟩
  have hp := HZ.out
  have hp5 := HZ5.out
  obtain ⟨a6, c6, hv, _⟩ := o6.form
  have hv : v = .slice a6 0 c6 := hv
  subst hv
  have O6 := hide (O5.out.grow b6)
  have t0 := O6.out.cell kE 0 wA rfl
  have t1 := O6.out.cell kE 1 wB rfl
  have r0 := t0 0 _ rfl
  have r1 := t0 1 _ rfl
  have r2 := t0 2 _ rfl
  have r3 := t0 3 _ rfl
  have r4 := t0 4 _ rfl
  have s0 := t1 0 _ rfl
  have s1 := t1 1 _ rfl
  have s2 := t1 2 _ rfl
  have s3 := t1 3 _ rfl
  have s4 := t1 4 _ rfl
  have m0 := (b6.cell (p := ⟨w.heap.size, 0, none⟩) (by show w.heap.size < _; omega)).trans k0
  have m1 := (b6.cell (p := ⟨w.heap.size, 1, none⟩) (by show w.heap.size < _; omega)).trans k1
  have m2 := (b6.cell (p := ⟨w.heap.size, 2, none⟩) (by show w.heap.size < _; omega)).trans k2
  have m3 := (b6.cell (p := ⟨w.heap.size, 3, none⟩) (by show w.heap.size < _; omega)).trans k3
  have m4 := (b6.cell (p := ⟨w.heap.size, 4, none⟩) (by show w.heap.size < _; omega)).trans k4
  have bb := b5.trans (b6.mono b5.size)
  have n0 := (bb.cell (p := ⟨w.heap.size + 1, 0, none⟩) (by show w.heap.size + 1 < _; omega)).trans q0
  have n1 := (bb.cell (p := ⟨w.heap.size + 1, 1, none⟩) (by show w.heap.size + 1 < _; omega)).trans q1
  have n2 := (bb.cell (p := ⟨w.heap.size + 1, 2, none⟩) (by show w.heap.size + 1 < _; omega)).trans q2
  have n3 := (bb.cell (p := ⟨w.heap.size + 1, 3, none⟩) (by show w.heap.size + 1 < _; omega)).trans q3
  have n4 := (bb.cell (p := ⟨w.heap.size + 1, 4, none⟩) (by show w.heap.size + 1 < _; omega)).trans q4
  have B6 : Below w.heap.size w w6 := b3.trans (bb.mono (by omega))
  simp only [yE, Nat.zero_mul, Nat.zero_add, Nat.one_mul, Nat.reduceAdd, wA, wB] at r0 r1 r2 r3 r4 s0 s1 s2 s3 s4
  clear t0 t1 k0 k1 k2 k3 k4 q0 q1 q2 q3 q4 O6 O5 S5 C2 bb b5 b6 o6 hp hp5
  go_wp2
  go_quiet (fail)
  go_wp2
  go_ret
  exact ⟨rfl, belN B6 _⟩

end Go.Proofs.Ytolnkoneilipeaa
