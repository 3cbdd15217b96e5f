import Derived.Test.YtkfkkajeoocbbaaGreatDoorF8
set_option maxRecDepth 100000
set_option linter.unusedVariables false
set_option linter.unusedSimpArgs false
namespace Go.Proofs.YtkfkkajeoocbbaaGreatDoor
open Go.RowKit Go.Maps
open Classical
def An.Like (x y : An) : Prop := y.n = x.n ∧ y.h = x.h ∧ y.l = x.l ∧ y.v = x.v ∧ y.c = x.c ∧ y.s.D = x.s.D
set_option maxHeartbeats 4000000 in
theorem An.same_any (L R : List An) (a b : Option Addr) (n c c2 : Nat) (w : World) (hL : SlY yAnA w a n c L) (hR : SlY yAnA w b n c2 R) (hk : ∀ (i : Nat) (x y : An), L[i]? = some x → R[i]? = some y → An.Like x y) (iL : ∀ x ∈ L, x.In w) (iR : ∀ x ∈ R, x.In w) :
    Calls Tryz.prog 63 #[.slice a n c, .slice b n c2] w fun e w' => e = .returned (.bool true) ∧ ∃ k, w' = w.drewN k := by
  have m1 := hL.max
  have m2 := hR.max
  have p1 := hL.cap
  have p2 := hR.cap
  unfold maxLen at m1 m2
  have HL := hide hL
  have HR := hide hR
  have N1 := hide hL.len
  have N2 := hide hR.len
  have HK := hide hk
  have I1 := hide iL
  have I2 := hide iR
  clear hL hR hk iL iR
  go_enter Tryz.func63, Tryz.ntmps63
  go_wp2
  go_loopw [5] (fun i wr => ∃ (j d : Nat), i = .int .i64 (j : Int) ∧ j ≤ n ∧ wr = w.drewN d) (fun i _ => n - (intOf i).toNat)
  case atStart => exact ⟨0, 0, rfl, Nat.zero_le _, rfl⟩
  case round =>
    obtain ⟨j, d, rfl, hj, rfl⟩ := hrel
    by_cases hlt : j < n
    · have h1 : j < L.length := by rw [N1.out]; exact hlt
      have h2 : j < R.length := by rw [N2.out]; exact hlt
      have g1 : L[j]? = some L[j] := List.getElem?_eq_getElem h1
      have g2 : R[j]? = some R[j] := List.getElem?_eq_getElem h2
      obtain ⟨q, o, rfl, hq, a0, a1, a2, a3, a4, a5⟩ := HL.out.AnA g1
      obtain ⟨q2, o2, rfl, hq2, b0, b1, b2, b3, b4, b5⟩ := HR.out.AnA g2
      obtain ⟨e0, e1, e2, e3, e4, e5⟩ := HK.out j _ _ g1 g2
      have i1 := I1.out _ (List.getElem_mem h1)
      have i2 := I2.out _ (List.getElem_mem h2)
      clear g1 g2
      generalize L[j] = x at *
      generalize R[j] = y at *
      obtain ⟨yn, yh, yl, yv, yc, ys⟩ := y
      dsimp only at e0 e1 e2 e3 e4 e5 b0 b1 b2 b3 b4 b5
      subst e0 e1 e2 e3 e4
      have CS : Hid (∀ v, (∃ k, v = w.drewN k) → Calls Tryz.prog 47 #[.slice x.s.a x.s.D.length x.s.c, .slice ys.a x.s.D.length ys.c] v fun e w' => e = .returned (.bool true) ∧ ∃ k, w' = w.drewN k) := fun v hv => by
        obtain ⟨k, rfl⟩ := hv
        have i1' := i1.1.drewN k
        have i2' : SlY yE (w.drewN k) ys.a x.s.D.length ys.c x.s.D := by
          have := i2.1.drewN k
          dsimp only at this
          rw [e5] at this
          exact this
        refine (sameentsB x.s.D x.s.D x.s.a ys.a x.s.D.length x.s.D.length x.s.c ys.c (w.drewN k) i1' i2').mono fun e w' h => ?_
        obtain ⟨rfl, k2, rfl⟩ := h
        exact ⟨by simp, k + k2, by simp only [World.drewN, Nat.add_assoc]⟩
      rw [e5] at b5
      have KC : Hid (∀ v, (∃ k, v = w.drewN k) → (v.cell? ⟨q, o + j * 6, none⟩ = some (.int .i64 x.n) ∧ v.cell? ⟨q, o + j * 6 + 1, none⟩ = some (.int .u64 x.h) ∧ v.cell? ⟨q, o + j * 6 + 2, none⟩ = some (.int .u64 x.l) ∧ v.cell? ⟨q, o + j * 6 + 3, none⟩ = some (.int .i64 x.v) ∧ v.cell? ⟨q, o + j * 6 + 4, none⟩ = some (.int .i64 x.c) ∧ v.cell? ⟨q, o + j * 6 + 5, none⟩ = some (.slice x.s.a x.s.D.length x.s.c)) ∧ (v.cell? ⟨q2, o2 + j * 6, none⟩ = some (.int .i64 x.n) ∧ v.cell? ⟨q2, o2 + j * 6 + 1, none⟩ = some (.int .u64 x.h) ∧ v.cell? ⟨q2, o2 + j * 6 + 2, none⟩ = some (.int .u64 x.l) ∧ v.cell? ⟨q2, o2 + j * 6 + 3, none⟩ = some (.int .i64 x.v) ∧ v.cell? ⟨q2, o2 + j * 6 + 4, none⟩ = some (.int .i64 x.c) ∧ v.cell? ⟨q2, o2 + j * 6 + 5, none⟩ = some (.slice ys.a x.s.D.length ys.c))) := fun v hv => by
        obtain ⟨k, rfl⟩ := hv
        exact ⟨⟨a0, a1, a2, a3, a4, a5⟩, ⟨b0, b1, b2, b3, b4, b5⟩⟩
      clear i1 i2 a0 a1 a2 a3 a4 a5 b0 b1 b2 b3 b4 b5 e5
      go_wp2_with fail
      refine region_q9 (C := fun v => ∃ k, v = w.drewN k) (by kernel_rfl) (by kernel_rfl) ⟨d + 1, rfl⟩ ?_
      refine wqv (u := .slice (some ⟨q, o, none⟩) n c) (by kernel_rfl) (fun v hv => by kernel_rfl) ?_
      simp only [Act.put, List.setIfInBounds_toArray, List.set_cons_zero, List.set_cons_succ]
      refine wqv (u := .int .i64 (j : Int)) (by kernel_rfl) (fun v hv => by kernel_rfl) ?_
      simp only [Act.put, List.setIfInBounds_toArray, List.set_cons_zero, List.set_cons_succ]
      refine wqv (u := .pointer (some ⟨q, o + j * 6, none⟩)) (by kernel_rfl) (fun v hv => by go_simp) ?_
      simp only [Act.put, List.setIfInBounds_toArray, List.set_cons_zero, List.set_cons_succ]
      refine wqv (u := .pointer (some ⟨q, o + j * 6, none⟩)) (by kernel_rfl) (fun v hv => by go_simp) ?_
      simp only [Act.put, List.setIfInBounds_toArray, List.set_cons_zero, List.set_cons_succ]
      refine wqv (u := .int .i64 x.n) (by kernel_rfl) (fun v hv => by obtain ⟨⟨y0, y1, y2, y3, y4, y5⟩, ⟨z0, z1, z2, z3, z4, z5⟩⟩ := KC.out v hv; go_simp) ?_
      simp only [Act.put, List.setIfInBounds_toArray, List.set_cons_zero, List.set_cons_succ]
      refine wqv (u := .slice (some ⟨q2, o2, none⟩) n c2) (by kernel_rfl) (fun v hv => by kernel_rfl) ?_
      simp only [Act.put, List.setIfInBounds_toArray, List.set_cons_zero, List.set_cons_succ]
      refine wqv (u := .int .i64 (j : Int)) (by kernel_rfl) (fun v hv => by kernel_rfl) ?_
      simp only [Act.put, List.setIfInBounds_toArray, List.set_cons_zero, List.set_cons_succ]
      refine wqv (u := .pointer (some ⟨q2, o2 + j * 6, none⟩)) (by kernel_rfl) (fun v hv => by go_simp) ?_
      simp only [Act.put, List.setIfInBounds_toArray, List.set_cons_zero, List.set_cons_succ]
      refine wqv (u := .pointer (some ⟨q2, o2 + j * 6, none⟩)) (by kernel_rfl) (fun v hv => by go_simp) ?_
      simp only [Act.put, List.setIfInBounds_toArray, List.set_cons_zero, List.set_cons_succ]
      refine wqv (u := .int .i64 x.n) (by kernel_rfl) (fun v hv => by obtain ⟨⟨y0, y1, y2, y3, y4, y5⟩, ⟨z0, z1, z2, z3, z4, z5⟩⟩ := KC.out v hv; go_simp) ?_
      simp only [Act.put, List.setIfInBounds_toArray, List.set_cons_zero, List.set_cons_succ]
      refine wqv (u := .bool false) (by kernel_rfl) (fun v hv => by go_simp) ?_
      simp only [Act.put, List.setIfInBounds_toArray, List.set_cons_zero, List.set_cons_succ]
      refine wqv (u := .bool false) (by kernel_rfl) (fun v hv => by kernel_rfl) ?_
      simp only [Act.put, List.setIfInBounds_toArray, List.set_cons_zero, List.set_cons_succ]
      refine wqv (u := .slice (some ⟨q, o, none⟩) n c) (by kernel_rfl) (fun v hv => by kernel_rfl) ?_
      simp only [Act.put, List.setIfInBounds_toArray, List.set_cons_zero, List.set_cons_succ]
      refine wqv (u := .int .i64 (j : Int)) (by kernel_rfl) (fun v hv => by kernel_rfl) ?_
      simp only [Act.put, List.setIfInBounds_toArray, List.set_cons_zero, List.set_cons_succ]
      refine wqv (u := .pointer (some ⟨q, o + j * 6, none⟩)) (by kernel_rfl) (fun v hv => by go_simp) ?_
      simp only [Act.put, List.setIfInBounds_toArray, List.set_cons_zero, List.set_cons_succ]
      refine wqv (u := .pointer (some ⟨q, o + j * 6 + 1, none⟩)) (by kernel_rfl) (fun v hv => by go_simp) ?_
      simp only [Act.put, List.setIfInBounds_toArray, List.set_cons_zero, List.set_cons_succ]
      refine wqv (u := .agg #[.int .u64 x.h, .int .u64 x.l]) (by kernel_rfl) (fun v hv => by obtain ⟨⟨y0, y1, y2, y3, y4, y5⟩, ⟨z0, z1, z2, z3, z4, z5⟩⟩ := KC.out v hv; go_simp) ?_
      simp only [Act.put, List.setIfInBounds_toArray, List.set_cons_zero, List.set_cons_succ]
      refine wqv (u := .slice (some ⟨q2, o2, none⟩) n c2) (by kernel_rfl) (fun v hv => by kernel_rfl) ?_
      simp only [Act.put, List.setIfInBounds_toArray, List.set_cons_zero, List.set_cons_succ]
      refine wqv (u := .int .i64 (j : Int)) (by kernel_rfl) (fun v hv => by kernel_rfl) ?_
      simp only [Act.put, List.setIfInBounds_toArray, List.set_cons_zero, List.set_cons_succ]
      refine wqv (u := .pointer (some ⟨q2, o2 + j * 6, none⟩)) (by kernel_rfl) (fun v hv => by go_simp) ?_
      simp only [Act.put, List.setIfInBounds_toArray, List.set_cons_zero, List.set_cons_succ]
      refine wqv (u := .pointer (some ⟨q2, o2 + j * 6 + 1, none⟩)) (by kernel_rfl) (fun v hv => by go_simp) ?_
      simp only [Act.put, List.setIfInBounds_toArray, List.set_cons_zero, List.set_cons_succ]
      refine wqv (u := .agg #[.int .u64 x.h, .int .u64 x.l]) (by kernel_rfl) (fun v hv => by obtain ⟨⟨y0, y1, y2, y3, y4, y5⟩, ⟨z0, z1, z2, z3, z4, z5⟩⟩ := KC.out v hv; go_simp) ?_
      simp only [Act.put, List.setIfInBounds_toArray, List.set_cons_zero, List.set_cons_succ]
      refine wqv (u := .bool false) (by kernel_rfl) (fun v hv => by go_simp) ?_
      simp only [Act.put, List.setIfInBounds_toArray, List.set_cons_zero, List.set_cons_succ]
      refine wqv (u := .bool false) (by kernel_rfl) (fun v hv => by kernel_rfl) ?_
      simp only [Act.put, List.setIfInBounds_toArray, List.set_cons_zero, List.set_cons_succ]
      refine wqv (u := .bool false) (by kernel_rfl) (fun v hv => by kernel_rfl) ?_
      simp only [Act.put, List.setIfInBounds_toArray, List.set_cons_zero, List.set_cons_succ]
      refine wqv (u := .slice (some ⟨q, o, none⟩) n c) (by kernel_rfl) (fun v hv => by kernel_rfl) ?_
      simp only [Act.put, List.setIfInBounds_toArray, List.set_cons_zero, List.set_cons_succ]
      refine wqv (u := .int .i64 (j : Int)) (by kernel_rfl) (fun v hv => by kernel_rfl) ?_
      simp only [Act.put, List.setIfInBounds_toArray, List.set_cons_zero, List.set_cons_succ]
      refine wqv (u := .pointer (some ⟨q, o + j * 6, none⟩)) (by kernel_rfl) (fun v hv => by go_simp) ?_
      simp only [Act.put, List.setIfInBounds_toArray, List.set_cons_zero, List.set_cons_succ]
      refine wqv (u := .pointer (some ⟨q, o + j * 6 + 3, none⟩)) (by kernel_rfl) (fun v hv => by go_simp) ?_
      simp only [Act.put, List.setIfInBounds_toArray, List.set_cons_zero, List.set_cons_succ]
      refine wqv (u := .int .i64 x.v) (by kernel_rfl) (fun v hv => by obtain ⟨⟨y0, y1, y2, y3, y4, y5⟩, ⟨z0, z1, z2, z3, z4, z5⟩⟩ := KC.out v hv; go_simp) ?_
      simp only [Act.put, List.setIfInBounds_toArray, List.set_cons_zero, List.set_cons_succ]
      refine wqv (u := .slice (some ⟨q2, o2, none⟩) n c2) (by kernel_rfl) (fun v hv => by kernel_rfl) ?_
      simp only [Act.put, List.setIfInBounds_toArray, List.set_cons_zero, List.set_cons_succ]
      refine wqv (u := .int .i64 (j : Int)) (by kernel_rfl) (fun v hv => by kernel_rfl) ?_
      simp only [Act.put, List.setIfInBounds_toArray, List.set_cons_zero, List.set_cons_succ]
      refine wqv (u := .pointer (some ⟨q2, o2 + j * 6, none⟩)) (by kernel_rfl) (fun v hv => by go_simp) ?_
      simp only [Act.put, List.setIfInBounds_toArray, List.set_cons_zero, List.set_cons_succ]
      refine wqv (u := .pointer (some ⟨q2, o2 + j * 6 + 3, none⟩)) (by kernel_rfl) (fun v hv => by go_simp) ?_
      simp only [Act.put, List.setIfInBounds_toArray, List.set_cons_zero, List.set_cons_succ]
      refine wqv (u := .int .i64 x.v) (by kernel_rfl) (fun v hv => by obtain ⟨⟨y0, y1, y2, y3, y4, y5⟩, ⟨z0, z1, z2, z3, z4, z5⟩⟩ := KC.out v hv; go_simp) ?_
      simp only [Act.put, List.setIfInBounds_toArray, List.set_cons_zero, List.set_cons_succ]
      refine wqv (u := .bool false) (by kernel_rfl) (fun v hv => by go_simp) ?_
      simp only [Act.put, List.setIfInBounds_toArray, List.set_cons_zero, List.set_cons_succ]
      refine wqv (u := .bool false) (by kernel_rfl) (fun v hv => by kernel_rfl) ?_
      simp only [Act.put, List.setIfInBounds_toArray, List.set_cons_zero, List.set_cons_succ]
      refine wqv (u := .bool false) (by kernel_rfl) (fun v hv => by kernel_rfl) ?_
      simp only [Act.put, List.setIfInBounds_toArray, List.set_cons_zero, List.set_cons_succ]
      refine wqv (u := .slice (some ⟨q, o, none⟩) n c) (by kernel_rfl) (fun v hv => by kernel_rfl) ?_
      simp only [Act.put, List.setIfInBounds_toArray, List.set_cons_zero, List.set_cons_succ]
      refine wqv (u := .int .i64 (j : Int)) (by kernel_rfl) (fun v hv => by kernel_rfl) ?_
      simp only [Act.put, List.setIfInBounds_toArray, List.set_cons_zero, List.set_cons_succ]
      refine wqv (u := .pointer (some ⟨q, o + j * 6, none⟩)) (by kernel_rfl) (fun v hv => by go_simp) ?_
      simp only [Act.put, List.setIfInBounds_toArray, List.set_cons_zero, List.set_cons_succ]
      refine wqv (u := .pointer (some ⟨q, o + j * 6 + 4, none⟩)) (by kernel_rfl) (fun v hv => by go_simp) ?_
      simp only [Act.put, List.setIfInBounds_toArray, List.set_cons_zero, List.set_cons_succ]
      refine wqv (u := .int .i64 x.c) (by kernel_rfl) (fun v hv => by obtain ⟨⟨y0, y1, y2, y3, y4, y5⟩, ⟨z0, z1, z2, z3, z4, z5⟩⟩ := KC.out v hv; go_simp) ?_
      simp only [Act.put, List.setIfInBounds_toArray, List.set_cons_zero, List.set_cons_succ]
      refine wqv (u := .slice (some ⟨q2, o2, none⟩) n c2) (by kernel_rfl) (fun v hv => by kernel_rfl) ?_
      simp only [Act.put, List.setIfInBounds_toArray, List.set_cons_zero, List.set_cons_succ]
      refine wqv (u := .int .i64 (j : Int)) (by kernel_rfl) (fun v hv => by kernel_rfl) ?_
      simp only [Act.put, List.setIfInBounds_toArray, List.set_cons_zero, List.set_cons_succ]
      refine wqv (u := .pointer (some ⟨q2, o2 + j * 6, none⟩)) (by kernel_rfl) (fun v hv => by go_simp) ?_
      simp only [Act.put, List.setIfInBounds_toArray, List.set_cons_zero, List.set_cons_succ]
      refine wqv (u := .pointer (some ⟨q2, o2 + j * 6 + 4, none⟩)) (by kernel_rfl) (fun v hv => by go_simp) ?_
      simp only [Act.put, List.setIfInBounds_toArray, List.set_cons_zero, List.set_cons_succ]
      refine wqv (u := .int .i64 x.c) (by kernel_rfl) (fun v hv => by obtain ⟨⟨y0, y1, y2, y3, y4, y5⟩, ⟨z0, z1, z2, z3, z4, z5⟩⟩ := KC.out v hv; go_simp) ?_
      simp only [Act.put, List.setIfInBounds_toArray, List.set_cons_zero, List.set_cons_succ]
      refine wqv (u := .bool false) (by kernel_rfl) (fun v hv => by go_simp) ?_
      simp only [Act.put, List.setIfInBounds_toArray, List.set_cons_zero, List.set_cons_succ]
      refine wqv (u := .bool false) (by kernel_rfl) (fun v hv => by kernel_rfl) ?_
      simp only [Act.put, List.setIfInBounds_toArray, List.set_cons_zero, List.set_cons_succ]
      refine wqv (u := .bool false) (by kernel_rfl) (fun v hv => by kernel_rfl) ?_
      simp only [Act.put, List.setIfInBounds_toArray, List.set_cons_zero, List.set_cons_succ]
      refine wqv (u := .slice (some ⟨q, o, none⟩) n c) (by kernel_rfl) (fun v hv => by kernel_rfl) ?_
      simp only [Act.put, List.setIfInBounds_toArray, List.set_cons_zero, List.set_cons_succ]
      refine wqv (u := .int .i64 (j : Int)) (by kernel_rfl) (fun v hv => by kernel_rfl) ?_
      simp only [Act.put, List.setIfInBounds_toArray, List.set_cons_zero, List.set_cons_succ]
      refine wqv (u := .pointer (some ⟨q, o + j * 6, none⟩)) (by kernel_rfl) (fun v hv => by go_simp) ?_
      simp only [Act.put, List.setIfInBounds_toArray, List.set_cons_zero, List.set_cons_succ]
      refine wqv (u := .pointer (some ⟨q, o + j * 6 + 5, none⟩)) (by kernel_rfl) (fun v hv => by go_simp) ?_
      simp only [Act.put, List.setIfInBounds_toArray, List.set_cons_zero, List.set_cons_succ]
      refine wqv (u := .slice x.s.a x.s.D.length x.s.c) (by kernel_rfl) (fun v hv => by obtain ⟨⟨y0, y1, y2, y3, y4, y5⟩, ⟨z0, z1, z2, z3, z4, z5⟩⟩ := KC.out v hv; go_simp) ?_
      simp only [Act.put, List.setIfInBounds_toArray, List.set_cons_zero, List.set_cons_succ]
      refine wqv (u := .slice (some ⟨q2, o2, none⟩) n c2) (by kernel_rfl) (fun v hv => by kernel_rfl) ?_
      simp only [Act.put, List.setIfInBounds_toArray, List.set_cons_zero, List.set_cons_succ]
      refine wqv (u := .int .i64 (j : Int)) (by kernel_rfl) (fun v hv => by kernel_rfl) ?_
      simp only [Act.put, List.setIfInBounds_toArray, List.set_cons_zero, List.set_cons_succ]
      refine wqv (u := .pointer (some ⟨q2, o2 + j * 6, none⟩)) (by kernel_rfl) (fun v hv => by go_simp) ?_
      simp only [Act.put, List.setIfInBounds_toArray, List.set_cons_zero, List.set_cons_succ]
      refine wqv (u := .pointer (some ⟨q2, o2 + j * 6 + 5, none⟩)) (by kernel_rfl) (fun v hv => by go_simp) ?_
      simp only [Act.put, List.setIfInBounds_toArray, List.set_cons_zero, List.set_cons_succ]
      refine wqv (u := .slice ys.a x.s.D.length ys.c) (by kernel_rfl) (fun v hv => by obtain ⟨⟨y0, y1, y2, y3, y4, y5⟩, ⟨z0, z1, z2, z3, z4, z5⟩⟩ := KC.out v hv; go_simp) ?_
      simp only [Act.put, List.setIfInBounds_toArray, List.set_cons_zero, List.set_cons_succ]
      refine wqc (fid := 47) (args := #[.slice x.s.a x.s.D.length x.s.c, .slice ys.a x.s.D.length ys.c]) (u := .bool true) (by kernel_rfl) (fun v => by kernel_rfl) (fun v hv => CS.out v hv) ?_
      simp only [Act.put, List.setIfInBounds_toArray, List.set_cons_zero, List.set_cons_succ]
      refine wqv (u := .bool false) (by kernel_rfl) (fun v hv => by go_simp) ?_
      simp only [Act.put, List.setIfInBounds_toArray, List.set_cons_zero, List.set_cons_succ]
      refine wqv (u := .bool false) (by kernel_rfl) (fun v hv => by kernel_rfl) ?_
      simp only [Act.put, List.setIfInBounds_toArray, List.set_cons_zero, List.set_cons_succ]
      refine wqnil (fun v hv => ?_)
      obtain ⟨k, rfl⟩ := hv
      go_wp2
      go_round
      case rel => exact ⟨j + 1, k, by go_num, by omega, rfl⟩
      case measure => simp [intOf]; omega
    · obtain rfl : j = n := by omega
      go_wp2
      go_ret
      exact ⟨rfl, d, rfl⟩
end Go.Proofs.YtkfkkajeoocbbaaGreatDoor
namespace Go.Proofs.YtkfkkajeoocbbaaGreatDoor
open Go.RowKit Go.Maps Go.Shelf
open Classical
structure Fr8 {α : Type} (Y : Lay α) (B : Nat) (w : World) (a : Option Addr) (n c : Nat) (l : List α) : Prop where
  sl : SlY Y w a n c l
  lo : ∀ x, a = some x → B ≤ x.block
section
variable {α : Type} {Y : Lay α} {B : Nat} {w w' : World} {a : Option Addr} {n c : Nat} {l : List α}
theorem Fr8.later (h : Fr8 Y B w a n c l) (hb : Below w.heap.size w w') : Fr8 Y B w' a n c l := ⟨h.sl.later hb, h.lo⟩
theorem Fr8.set {q : Nat} (h : Fr8 Y B w a n c l) (u : Upd (fun k => k = q) w w') (hq : q < B) : Fr8 Y B w' a n c l := ⟨h.sl.upd u (fun x hx _ => by have := h.lo x hx; omega), h.lo⟩
theorem Fr8.of_own {B' : Nat} (K : Y.Ok) (h : OwnY Y B' w (.slice a n c) l) (hB : B ≤ B') : Fr8 Y B w a n c l := by
  refine ⟨h.sl' K, fun x hx => ?_⟩
  obtain ⟨va, vc, e, h1, h2, h3, h4⟩ := h.form
  injection e with e1 e2 e3
  subst e1
  obtain ⟨g, rfl, h5, h6⟩ := h4 x hx
  exact Nat.le_trans hB h5
end
theorem Bl.Tolds.set8 {B q : Nat} {w w' : World} {L R : List Bl} (h : Bl.Tolds B w L R) (u : Upd (fun k => k = q) w w') (hq : q < B) : Bl.Tolds B w' L R :=
  ⟨h.1, fun i x y hx hy => by
    obtain ⟨h0, g, e, o⟩ := h.2 i x y hx hy
    exact ⟨h0, g, e, o.upd1 u (fun k hk e => by have := (o.blk k hk).1; omega)⟩⟩
theorem An.Tolds.set8 {B q : Nat} {w w' : World} {L R : List An} (h : An.Tolds B w L R) (u : Upd (fun k => k = q) w w') (hq : q < B) : An.Tolds B w' L R :=
  ⟨h.1, fun i x y hx hy => by
    obtain ⟨h0, g, e, o⟩ := h.2 i x y hx hy
    exact ⟨h0, g, e, o.upd1 u (fun k hk e => by have := (o.blk k hk).1; omega)⟩⟩
theorem Bl.Tolds.in8 {B : Nat} {w : World} {L R : List Bl} (h : Bl.Tolds B w L R) : ∀ y ∈ R, y.In w := fun y hy => by
  obtain ⟨i, hi, rfl⟩ := List.mem_iff_getElem.1 hy
  have hl : i < L.length := by rw [← h.1]; exact hi
  exact (h.2 i _ _ (List.getElem?_eq_getElem hl) (List.getElem?_eq_getElem hi)).In
theorem An.Tolds.in8 {B : Nat} {w : World} {L R : List An} (h : An.Tolds B w L R) : ∀ y ∈ R, y.In w := fun y hy => by
  obtain ⟨i, hi, rfl⟩ := List.mem_iff_getElem.1 hy
  have hl : i < L.length := by rw [← h.1]; exact hi
  exact (h.2 i _ _ (List.getElem?_eq_getElem hl) (List.getElem?_eq_getElem hi)).In
def zS8 : Sta := ⟨0, 0, 0, 0, none, 0, [], 0, none, 0, [], 0, none, 0, [], none, 0, [], none, 0, [], none, 0, []⟩
theorem al12 (w : World) : (Instr.alloc 36 true (.tuple #[])).run Tryz.prog w = .ok (.pointer (some ⟨w.heap.size, 0, none⟩)) (w.alloc (.cells zS8.cs.toArray 36)) := by
  go_simp
  first | done | rfl
theorem bd12 (w : World) : (Instr.build 36 #[]).run Tryz.prog w = .ok zS8.val w := by
  go_simp
  first | done | rfl
theorem st12 {w : World} {q : Nat} {s : Sta} (h : SB7 w q s) (t : Sta) : (Instr.storeAt 36 (.pointer (some ⟨q, 0, none⟩)) t.val).run Tryz.prog w = .ok () (sets w q 0 t.cs) := by
  have := run_storeAt_mid (P := Tryz.prog) w q 0 36 t.cs.toArray (fun j hj => ⟨by rw [Nat.zero_add, h.cell j _ (List.getElem?_eq_getElem (show j < s.cs.length from hj))]; rfl, by rw [Nat.zero_add]; exact h.free j⟩) (by kernel_rfl) (all_oneCell_toArray (by
    intro v hv
    simp only [Sta.cs, List.mem_cons, List.not_mem_nil, or_false] at hv
    rcases hv with rfl | rfl | rfl | rfl | rfl | rfl | rfl | rfl | rfl | rfl | rfl | rfl <;> rfl))
  rw [setCells_sets] at this
  exact this
theorem SB7.put {w : World} {q : Nat} {s : Sta} (h : SB7 w q s) (t : Sta) : SB7 (sets w q 0 t.cs) q t := by
  refine ⟨by rw [size_sets]; exact h.lt, fun i x hx => ?_, fun i => sets_free _ _ _ (h.free i)⟩
  have := sets_at (b := q) t.cs 0 w (fun k hk => ⟨_, by rw [Nat.zero_add]; exact h.cell k _ (List.getElem?_eq_getElem (show k < s.cs.length from hk))⟩) i x hx
  rw [Nat.zero_add] at this
  exact this
theorem upd12 (w : World) (q : Nat) (t : Sta) : Upd (fun k => k = q) w (sets w q 0 t.cs) := upd_sets (S := fun k => k = q) (b := q) rfl _ _ _ (Upd.refl _ _)
theorem results_sta {fn : Func} {i : Tmp} {q : Nat} {t : Sta} {tmps : Array Value} {w : World} (h : fn.results = #[.cell i 36]) (hq : tmps.getD i undef = .pointer (some ⟨q, 0, none⟩)) (hb : SB7 w q t) : (results fn tmps).run Tryz.prog w = .ok t.val w := by
  have := run_loadVar_mid (P := Tryz.prog) w q 0 36 t.cs _ (fun j v hv => by rw [Nat.zero_add]; exact hb.cell j v hv) Tryz.underlying36 rfl (by kernel_rfl)
  simp only [results, h]
  simp only [Array.getD_eq_getD_getElem?] at hq
  simp [Sem.run_bind, Result.andThen, hq, asAddr, this]
  rfl
theorem results_sta3 {fn : Func} {i j k : Tmp} {q : Nat} {t : Sta} {x y : Value} {tmps : Array Value} {w : World} (h : fn.results = #[.cell i 36, .tmp j, .tmp k]) (hq : tmps.getD i undef = .pointer (some ⟨q, 0, none⟩)) (hj : tmps.getD j undef = x) (hk : tmps.getD k undef = y) (hb : SB7 w q t) : (results fn tmps).run Tryz.prog w = .ok (.tuple #[t.val, x, y]) w := by
  have := run_loadVar_mid (P := Tryz.prog) w q 0 36 t.cs _ (fun j v hv => by rw [Nat.zero_add]; exact hb.cell j v hv) Tryz.underlying36 rfl (by kernel_rfl)
  simp only [results, h]
  simp only [Array.getD_eq_getD_getElem?] at hq hj hk
  simp [Sem.run_bind, Result.andThen, hq, hj, hk, asAddr, this]
  rfl
structure Sta.Lo (t : Sta) (B : Nat) : Prop where
  l : ∀ x, t.la = some x → B ≤ x.block
  v : ∀ x, t.va = some x → B ≤ x.block
  a : ∀ x, t.ka = some x → B ≤ x.block
  m : ∀ x, t.ma = some x → B ≤ x.block
  b : ∀ x, t.ba = some x → B ≤ x.block
  n : ∀ x, t.na = some x → B ≤ x.block
theorem Sta.Lo.low {t : Sta} {B B' : Nat} (h : t.Lo B) (hB : B' ≤ B) : t.Lo B' := ⟨fun x hx => Nat.le_trans hB (h.l x hx), fun x hx => Nat.le_trans hB (h.v x hx), fun x hx => Nat.le_trans hB (h.a x hx), fun x hx => Nat.le_trans hB (h.m x hx), fun x hx => Nat.le_trans hB (h.b x hx), fun x hx => Nat.le_trans hB (h.n x hx)⟩
structure Sta.Kn (t : Sta) (B : Nat) (s : Sta) (D : List (Int × Int)) (w : World) : Prop where
  self : t.self = s.self
  st : t.st = s.st
  view : t.view = s.view
  last : t.last = s.last
  commit : t.commit = s.commit
  idle : t.idle = s.idle
  l : t.L = s.L
  v : t.V = D
  a : t.A = Ak.prn s.A D
  m : t.M = Mk.prn s.M D
  b : Bl.Tolds B w (Bl.prn s.B D) t.B
  n : An.Tolds B w (An.prn s.N D) t.N
  inn : t.In w
theorem Sta.Kn.set8 {t : Sta} {B q : Nat} {s : Sta} {D : List (Int × Int)} {w w' : World} (h : t.Kn B s D w) (u : Upd (fun k => k = q) w w') (hq : q < B) (hlo : t.Lo B) : t.Kn B s D w' :=
  ⟨h.self, h.st, h.view, h.last, h.commit, h.idle, h.l, h.v, h.a, h.m, h.b.set8 u hq, h.n.set8 u hq, ⟨h.inn.l.upd u (fun x hx _ => by have := hlo.l x hx; omega), h.inn.v.upd u (fun x hx _ => by have := hlo.v x hx; omega), h.inn.a.upd u (fun x hx _ => by have := hlo.a x hx; omega), h.inn.m.upd u (fun x hx _ => by have := hlo.m x hx; omega), h.inn.b.upd u (fun x hx _ => by have := hlo.b x hx; omega), h.inn.n.upd u (fun x hx _ => by have := hlo.n x hx; omega), (h.b.set8 u hq).in8, (h.n.set8 u hq).in8⟩⟩
theorem Sta.Kn.low8 {t : Sta} {B B' : Nat} {s : Sta} {D : List (Int × Int)} {w : World} (h : t.Kn B s D w) (hB : B' ≤ B) : t.Kn B' s D w :=
  ⟨h.self, h.st, h.view, h.last, h.commit, h.idle, h.l, h.v, h.a, h.m, h.b.low hB, h.n.low hB, h.inn⟩
theorem stE8 {w : World} {q i : Nat} {z : Value} (h : w.cell? ⟨q, i, none⟩ = some z) (hf : w.frozen? ⟨q, i, none⟩ = false) (a : Option Addr) (n c : Nat) : (Instr.storeAt 28 (.pointer (some ⟨q, i, none⟩)) (.slice a n c)).run Tryz.prog w = .ok () (w.setCell ⟨q, i, none⟩ (.slice a n c)) := by go_simp
theorem stV8 {w : World} {q i : Nat} {z : Value} (h : w.cell? ⟨q, i, none⟩ = some z) (hf : w.frozen? ⟨q, i, none⟩ = false) (a : Option Addr) (n c : Nat) : (Instr.storeAt 30 (.pointer (some ⟨q, i, none⟩)) (.slice a n c)).run Tryz.prog w = .ok () (w.setCell ⟨q, i, none⟩ (.slice a n c)) := by go_simp
theorem stK8 {w : World} {q i : Nat} {z : Value} (h : w.cell? ⟨q, i, none⟩ = some z) (hf : w.frozen? ⟨q, i, none⟩ = false) (a : Option Addr) (n c : Nat) : (Instr.storeAt 31 (.pointer (some ⟨q, i, none⟩)) (.slice a n c)).run Tryz.prog w = .ok () (w.setCell ⟨q, i, none⟩ (.slice a n c)) := by go_simp
theorem stM8 {w : World} {q i : Nat} {z : Value} (h : w.cell? ⟨q, i, none⟩ = some z) (hf : w.frozen? ⟨q, i, none⟩ = false) (a : Option Addr) (n c : Nat) : (Instr.storeAt 32 (.pointer (some ⟨q, i, none⟩)) (.slice a n c)).run Tryz.prog w = .ok () (w.setCell ⟨q, i, none⟩ (.slice a n c)) := by go_simp
theorem stB8 {w : World} {q i : Nat} {z : Value} (h : w.cell? ⟨q, i, none⟩ = some z) (hf : w.frozen? ⟨q, i, none⟩ = false) (a : Option Addr) (n c : Nat) : (Instr.storeAt 33 (.pointer (some ⟨q, i, none⟩)) (.slice a n c)).run Tryz.prog w = .ok () (w.setCell ⟨q, i, none⟩ (.slice a n c)) := by go_simp
theorem stN8 {w : World} {q i : Nat} {z : Value} (h : w.cell? ⟨q, i, none⟩ = some z) (hf : w.frozen? ⟨q, i, none⟩ = false) (a : Option Addr) (n c : Nat) : (Instr.storeAt 34 (.pointer (some ⟨q, i, none⟩)) (.slice a n c)).run Tryz.prog w = .ok () (w.setCell ⟨q, i, none⟩ (.slice a n c)) := by go_simp
set_option maxHeartbeats 1000000 in
theorem freshE8 (D : List En) (a : Option Addr) (n c : Nat) (w : World) (h : SlY yE w a n c D) (hb : n * 48 ≤ 281474976710656) :
    Calls Tryz.prog 129 #[.slice a n c] w fun e w' => e = .returned (.slice (some ⟨w.heap.size, 0, none⟩) n n) ∧ OwnY yE w.heap.size w' (.slice (some ⟨w.heap.size, 0, none⟩) n n) D ∧ Below w.heap.size w w' := by
  have hmx := h.max
  have hcp := h.cap
  have hln := h.len
  unfold maxLen at hmx
  have H := hide h
  have HN := hide hln
  clear h hln
  go_enter Tryz.func129, Tryz.ntmps129
  go_wp2_with (at_make; go_must (refine makeYs kE _ rfl (.tmp 5) rfl n rfl (by unfold maxLen; omega) hb ?zk))
  intro w1 o1 b1
  have O1 := hide o1
  have B1 := hide b1
  have H1 := hide (H.out.later b1)
  have z1 := b1.size
  clear o1 b1
  go_wp2_with (refine copyYc kE _ rfl (.tmp 7) (.tmp 8) 28 rfl w.heap.size w.heap.size n n 0 n n c n a _ D (by rfl) rfl O1.out H1.out (by omega) (Nat.le_refl _) ?zm)
  intro w2 o2 u2 z2
  have hp : put (List.replicate n yE.z) 0 D = D := by
    unfold put
    rw [List.take_zero, List.nil_append, List.drop_of_length_le (by rw [List.length_replicate, HN.out]; omega), List.append_nil]
  rw [hp] at o2
  have O2 := hide o2
  have B2 := hide (B1.out.trans (u2.below z1 (fun k e => by subst e; exact Nat.le_refl _)))
  clear o2 u2 hp
  go_wp2
  go_ret
  exact ⟨rfl, O2.out, B2.out⟩
set_option maxHeartbeats 1000000 in
theorem freshV8 (D : List (Int × Int)) (a : Option Addr) (n c : Nat) (w : World) (h : SlY yD w a n c D) (hb : n * 16 ≤ 281474976710656) :
    Calls Tryz.prog 130 #[.slice a n c] w fun e w' => e = .returned (.slice (some ⟨w.heap.size, 0, none⟩) n n) ∧ OwnY yD w.heap.size w' (.slice (some ⟨w.heap.size, 0, none⟩) n n) D ∧ Below w.heap.size w w' := by
  have hmx := h.max
  have hcp := h.cap
  have hln := h.len
  unfold maxLen at hmx
  have H := hide h
  have HN := hide hln
  clear h hln
  go_enter Tryz.func130, Tryz.ntmps130
  go_wp2_with (at_make; go_must (refine makeYs kD _ rfl (.tmp 5) rfl n rfl (by unfold maxLen; omega) hb ?zk))
  intro w1 o1 b1
  have O1 := hide o1
  have B1 := hide b1
  have H1 := hide (H.out.later b1)
  have z1 := b1.size
  clear o1 b1
  go_wp2_with (refine copyYc kD _ rfl (.tmp 7) (.tmp 8) 30 rfl w.heap.size w.heap.size n n 0 n n c n a _ D (by rfl) rfl O1.out H1.out (by omega) (Nat.le_refl _) ?zm)
  intro w2 o2 u2 z2
  have hp : put (List.replicate n yD.z) 0 D = D := by
    unfold put
    rw [List.take_zero, List.nil_append, List.drop_of_length_le (by rw [List.length_replicate, HN.out]; omega), List.append_nil]
  rw [hp] at o2
  have O2 := hide o2
  have B2 := hide (B1.out.trans (u2.below z1 (fun k e => by subst e; exact Nat.le_refl _)))
  clear o2 u2 hp
  go_wp2
  go_ret
  exact ⟨rfl, O2.out, B2.out⟩
set_option maxHeartbeats 1000000 in
theorem knowing8 (s : Sta) (av : Option Addr) (cv : Nat) (D : List (Int × Int)) (w : World) (hI : s.In w) (hF : s.Fit) (hD : SlY yD w av D.length cv D) (hDl : D.length * 16 ≤ 140737488351232) : Calls Tryz.prog 83 #[s.val, .slice av D.length cv] w fun e w' => ∃ t : Sta, e = .returned t.val ∧ t.Kn w.heap.size s D w' ∧ t.Lo w.heap.size ∧ Below w.heap.size w w' := by
  go_enter Tryz.func83, Tryz.ntmps83
  go_upto_region 0 with fail
  refine wp_region_lit ?_
  refine vl_gen (fun T => T.size = 33 ∧ T[0]? = some (gw true (s.val)) ∧ T[1]? = some (gw true (.slice av D.length cv))) ⟨rfl, rfl, rfl⟩ (fun Z0 ⟨hz, s0, s1⟩ => ?_)
  obtain ⟨w1, hw1⟩ : ∃ y, y = w.alloc (.cells s.cs.toArray 36) := ⟨_, rfl⟩
  have hb : Below w.heap.size w w1 := by rw [hw1]; exact (Below.refl _ _).alloc (Nat.le_refl _) _
  have hs1 : w1.heap.size = w.heap.size + 1 := by rw [hw1]; simp
  have HS : SB7 w1 (w.heap.size) s := by rw [hw1]; exact BX7.new _ _ _
  refine vw (.pointer (some ⟨w.heap.size, 0, none⟩)) w1 (want_none rfl) (ex_box8 rfl (ev s0 rfl) (by rw [hw1]; exact bxS7 _ _)) rfl hz (by decide) (fun Z1 zz kk s2x => ?_)
  replace s1 := ku s1
  clear kk hz s0 hw1
  have hz := zz
  have s2 := s2x
  clear zz s2x
  have hB := hb
  clear hb
  have hv0 : Below w1.heap.size w1 w1 := Below.refl _ _
  obtain ⟨w2, hw2⟩ : ∃ y, y = w1.alloc (.cells zS8.cs.toArray 36) := ⟨_, rfl⟩
  have hb : Below w1.heap.size w1 w2 := by rw [hw2]; exact (Below.refl _ _).alloc (Nat.le_refl _) _
  have HZ : SB7 w2 (w.heap.size + 1) zS8 := by rw [hw2, ← hs1]; exact BX7.new _ _ _
  have hz2 : w2.heap.size = w.heap.size + 2 := by rw [hw2]; simp; omega
  refine vw (.pointer (some ⟨w.heap.size + 1, 0, none⟩)) w2 (want_none rfl) (ex_al rfl (by rw [hw2, ← hs1]; exact al12 _)) rfl hz (by decide) (fun Ya zz kk s4 => ?_)
  replace s1 := ku s1
  replace s2 := ku s2
  replace hz := zz
  clear kk zz
  refine wpList_nil ?_
  have hB2 : Below w.heap.size w w2 := hB.trans (hb.mono (by omega))
  have HS := HS.bel hb
  clear hb hw2 hv0 hB
  have hB := hB2
  clear hB2
  have f1 := hF.ll
  have f2 := hF.al
  have f3 := hF.ml
  have f4 := hF.bl
  have f5 := hF.nl
  have hzB : w2.heap.size ≤ w2.heap.size := Nat.le_refl _
  go_upto_region 1 with fail
  refine wp_region_lit ?_
  refine vt (.pointer (some ⟨w.heap.size, 4, none⟩)) (ex_fa rfl (ev s2 rfl) (faS4 _ _)) hz (fun Yb zz kk s5 => ?_)
  replace s1 := ku s1
  replace s2 := ku s2
  replace s4 := ku s4
  replace hz := zz
  clear kk zz
  refine vt (.slice s.la s.L.length s.lc) (ex_ld rfl (ev s5 rfl) (ldE8 (HS.cell 4 _ rfl))) hz (fun Yc zz kk s6 => ?_)
  replace s1 := ku s1
  replace s2 := ku s2
  replace s4 := ku s4
  replace hz := zz
  clear kk zz s5 Yb
  refine vcallP (want_none rfl) (ex_call rfl (by simp only [List.map_toArray, List.map_cons, List.map_nil, (ev s6 rfl), evc] <;> rfl) rfl) (freshE8 s.L s.la _ s.lc w2 (hI.later hB).l (by omega)) rfl hz (by decide) ?_
  rintro e x1 ⟨rfl, oL, bL⟩
  refine ⟨_, rfl, fun Yd zz kk s7 => ?_⟩
  have HS := HS.bel bL
  have HZ := HZ.bel bL
  have hB := hB.trans (bL.mono (by omega))
  have hzB := Nat.le_trans hzB bL.size
  clear bL
  have pL := Fr8.of_own (B := w2.heap.size) kE oL (Nat.le_refl _)
  clear oL
  replace s1 := ku s1
  replace s2 := ku s2
  replace s4 := ku s4
  replace hz := zz
  clear kk zz s6 Yc
  refine vt _ (ex_move rfl (ev s1 rfl)) hz (fun Ye zz kk s8 => ?_)
  replace s1 := ku s1
  replace s2 := ku s2
  replace s4 := ku s4
  replace s7 := ku s7
  replace hz := zz
  clear kk zz Yd
  refine vcallP (want_none rfl) (ex_call rfl (by simp only [List.map_toArray, List.map_cons, List.map_nil, (ev s8 rfl), evc] <;> rfl) rfl) (freshV8 D av _ cv x1 (hD.later hB) (by omega)) rfl hz (by decide) ?_
  rintro e x2 ⟨rfl, oV, bV⟩
  refine ⟨_, rfl, fun Yf zz kk s9 => ?_⟩
  have pV := Fr8.of_own (B := w2.heap.size) kD oV hzB
  have HS := HS.bel bV
  have HZ := HZ.bel bV
  have hB := hB.trans (bV.mono (by omega))
  have pL := pL.later bV
  have hzB := Nat.le_trans hzB bV.size
  clear bV
  clear oV
  replace s1 := ku s1
  replace s2 := ku s2
  replace s4 := ku s4
  replace s7 := ku s7
  replace hz := zz
  clear kk zz s8 Ye
  refine vt (.pointer (some ⟨w.heap.size, 4, none⟩)) (ex_fa rfl (ev s2 rfl) (faS4 _ _)) hz (fun Yg zz kk s10 => ?_)
  replace s1 := ku s1
  replace s2 := ku s2
  replace s4 := ku s4
  replace s7 := ku s7
  replace s9 := ku s9
  replace hz := zz
  clear kk zz Yf
  refine vs (x2.setCell ⟨w.heap.size, 4, none⟩ (.slice (some ⟨w2.heap.size, 0, none⟩) s.L.length s.L.length)) (want_none rfl) (ex_st rfl (ev s10 rfl) (ev s7 rfl) (stE8 (HS.cell 4 _ rfl) (HS.free 4) _ _ _)) rfl ?_
  have US : Upd (fun k => k = w.heap.size) x2 (x2.setCell ⟨w.heap.size, 4, none⟩ (.slice (some ⟨w2.heap.size, 0, none⟩) s.L.length s.L.length)) := (Upd.refl (fun k => k = w.heap.size) _).setCell (p := ⟨w.heap.size, 4, none⟩) (.inl rfl) _
  have HSn := HS.set (j := 4) (by simp [Sta.cs]) (.slice (some ⟨w2.heap.size, 0, none⟩) s.L.length s.L.length)
  obtain ⟨y1, hy1⟩ : ∃ v, v = (x2.setCell ⟨w.heap.size, 4, none⟩ (.slice (some ⟨w2.heap.size, 0, none⟩) s.L.length s.L.length)) := ⟨_, rfl⟩
  rw [← hy1] at US HSn ⊢
  clear hy1 HS
  have HS : SB7 y1 (w.heap.size) { s with la := some ⟨w2.heap.size, 0, none⟩, lc := s.L.length } := HSn
  clear HSn
  have HZ := HZ.upd US (by show ¬ w.heap.size + 1 = w.heap.size; omega)
  have hB := hB.trans (US.below hB.size (fun k hk => by omega))
  have pL := pL.set US (by omega)
  have pV := pV.set US (by omega)
  have hzB := Nat.le_trans hzB US.size
  clear US
  refine vt (.pointer (some ⟨w.heap.size, 6, none⟩)) (ex_fa rfl (ev s2 rfl) (faS6 _ _)) hz (fun Yh zz kk s11 => ?_)
  replace s1 := ku s1
  replace s2 := ku s2
  replace s4 := ku s4
  replace s9 := ku s9
  replace hz := zz
  clear kk zz s7 s10 Yg
  refine vs (y1.setCell ⟨w.heap.size, 6, none⟩ (.slice (some ⟨x1.heap.size, 0, none⟩) D.length D.length)) (want_none rfl) (ex_st rfl (ev s11 rfl) (ev s9 rfl) (stV8 (HS.cell 6 _ rfl) (HS.free 6) _ _ _)) rfl ?_
  have US : Upd (fun k => k = w.heap.size) y1 (y1.setCell ⟨w.heap.size, 6, none⟩ (.slice (some ⟨x1.heap.size, 0, none⟩) D.length D.length)) := (Upd.refl (fun k => k = w.heap.size) _).setCell (p := ⟨w.heap.size, 6, none⟩) (.inl rfl) _
  have HSn := HS.set (j := 6) (by simp [Sta.cs]) (.slice (some ⟨x1.heap.size, 0, none⟩) D.length D.length)
  obtain ⟨y2, hy2⟩ : ∃ v, v = (y1.setCell ⟨w.heap.size, 6, none⟩ (.slice (some ⟨x1.heap.size, 0, none⟩) D.length D.length)) := ⟨_, rfl⟩
  rw [← hy2] at US HSn ⊢
  clear hy2 HS
  have HS : SB7 y2 (w.heap.size) { s with la := some ⟨w2.heap.size, 0, none⟩, lc := s.L.length, va := some ⟨x1.heap.size, 0, none⟩, vc := D.length, V := D } := HSn
  clear HSn
  have HZ := HZ.upd US (by show ¬ w.heap.size + 1 = w.heap.size; omega)
  have hB := hB.trans (US.below hB.size (fun k hk => by omega))
  have pL := pL.set US (by omega)
  have pV := pV.set US (by omega)
  have hzB := Nat.le_trans hzB US.size
  clear US
  clear s9 s11
  refine wpList_nil ?_
  have hb : Below y2.heap.size y2 y2.drew := (Below.refl _ _).drew
  have HS0 := HS
  have hS := hb
  have HS := HS.bel hb
  have HZ := HZ.bel hb
  have hB := hB.trans (hb.mono (by omega))
  have pL := pL.later hb
  have pV := pV.later hb
  have hzB := Nat.le_trans hzB hb.size
  clear hb
  go_upto_region 2 with fail
  refine vg_start (fun k => k == 9 || k == 11) (fun v => Below y2.heap.size y2 v) (by kernel_rfl) ?_
  refine vg_takeW 0 true (.pointer (some ⟨w.heap.size, 8, none⟩)) rfl (by kernel_rfl) (by kernel_rfl) (by kernel_rfl) (by kernel_rfl) (want_none rfl) (fun hc v => ex_fa rfl (ev s2 rfl) (faS8 _ _)) rfl hz (by decide) (fun _ => hS) (fun Yi zz kk s12 => ?_)
  replace s1 := ku s1
  replace s2 := ku s2
  replace s4 := ku s4
  replace hz := zz
  clear kk zz
  refine vg_take 1 true (.slice s.ka s.A.length s.kc) rfl (by kernel_rfl) (by kernel_rfl) (by kernel_rfl) (by kernel_rfl) (by kernel_rfl) (by kernel_rfl) (want_none rfl) (fun hc v hv => ex_ld rfl (ev s12 rfl) (ldK8 (cell8 (HS0.cell 8 _ rfl) hv))) rfl hz (by decide) hS (fun Yj zz kk s13 => ?_)
  replace s1 := ku s1
  replace s2 := ku s2
  replace s4 := ku s4
  replace hz := zz
  clear kk zz s12 Yi
  refine vg_takeW 2 true (.slice av D.length cv) rfl (by kernel_rfl) (by kernel_rfl) (by kernel_rfl) (by kernel_rfl) (want_none rfl) (fun hc v => ex_move rfl (ev s1 rfl)) rfl hz (by decide) (fun _ => hS) (fun Yk zz kk s14 => ?_)
  replace s1 := ku s1
  replace s2 := ku s2
  replace s4 := ku s4
  replace s13 := ku s13
  replace hz := zz
  clear kk zz Yj
  refine vg_takeW 4 true (.pointer (some ⟨w.heap.size, 9, none⟩)) rfl (by kernel_rfl) (by kernel_rfl) (by kernel_rfl) (by kernel_rfl) (want_none rfl) (fun hc v => ex_fa rfl (ev s2 rfl) (faS9 _ _)) rfl hz (by decide) (fun _ => hS) (fun Yl zz kk s16 => ?_)
  replace s1 := ku s1
  replace s2 := ku s2
  replace s4 := ku s4
  replace s13 := ku s13
  replace s14 := ku s14
  replace hz := zz
  clear kk zz Yk
  refine vg_take 5 true (.slice s.ma s.M.length s.mc) rfl (by kernel_rfl) (by kernel_rfl) (by kernel_rfl) (by kernel_rfl) (by kernel_rfl) (by kernel_rfl) (want_none rfl) (fun hc v hv => ex_ld rfl (ev s16 rfl) (ldM8 (cell8 (HS0.cell 9 _ rfl) hv))) rfl hz (by decide) hS (fun Ym zz kk s17 => ?_)
  replace s1 := ku s1
  replace s2 := ku s2
  replace s4 := ku s4
  replace s13 := ku s13
  replace s14 := ku s14
  replace hz := zz
  clear kk zz s16 Yl
  refine vg_takeW 6 true (.slice av D.length cv) rfl (by kernel_rfl) (by kernel_rfl) (by kernel_rfl) (by kernel_rfl) (want_none rfl) (fun hc v => ex_move rfl (ev s1 rfl)) rfl hz (by decide) (fun _ => hS) (fun Yn zz kk s18 => ?_)
  replace s1 := ku s1
  replace s2 := ku s2
  replace s4 := ku s4
  replace s13 := ku s13
  replace s14 := ku s14
  replace s17 := ku s17
  replace hz := zz
  clear kk zz Ym
  refine vg_call 3 rfl (by kernel_rfl) (want_none rfl) (ex_call rfl (by simp only [List.map_toArray, List.map_cons, List.map_nil, (ev s13 rfl), (ev s14 rfl), evc] <;> rfl) rfl) (Ak.Prune_any s.A D s.ka av _ s.kc _ cv y2.drew (hI.later hB).a (hD.later hB) (by omega)) rfl hz (by decide) ?_
  rintro e z1 ⟨vAk, rfl, oAk, bAk⟩; obtain ⟨aAk, cAk, rfl, _, _⟩ := oAk.sl kAkA; have hS := hS.trans (bAk.mono hS.size)
  refine ⟨_, rfl, hS, fun Yo zz kk s15 => ?_⟩
  have pAk := Fr8.of_own (B := w2.heap.size) kAkA oAk hzB
  have HS := HS.bel bAk
  have HZ := HZ.bel bAk
  have hB := hB.trans (bAk.mono (by omega))
  have pL := pL.later bAk
  have pV := pV.later bAk
  have hzB := Nat.le_trans hzB bAk.size
  clear bAk
  clear oAk
  replace s1 := ku s1
  replace s2 := ku s2
  replace s4 := ku s4
  replace s17 := ku s17
  replace s18 := ku s18
  replace hz := zz
  clear kk zz s13 s14 Yn
  refine vg_takeW 8 true (.pointer (some ⟨w.heap.size, 8, none⟩)) rfl (by kernel_rfl) (by kernel_rfl) (by kernel_rfl) (by kernel_rfl) (want_none rfl) (fun hc v => ex_fa rfl (ev s2 rfl) (faS8 _ _)) rfl hz (by decide) (fun _ => hS) (fun Yp zz kk s20 => ?_)
  replace s1 := ku s1
  replace s2 := ku s2
  replace s4 := ku s4
  replace s15 := ku s15
  replace s17 := ku s17
  replace s18 := ku s18
  replace hz := zz
  clear kk zz Yo
  refine vg_call 7 rfl (by kernel_rfl) (want_none rfl) (ex_call rfl (by simp only [List.map_toArray, List.map_cons, List.map_nil, (ev s17 rfl), (ev s18 rfl), evc] <;> rfl) rfl) (Mk.Prune_any s.M D s.ma av _ s.mc _ cv z1 (hI.later hB).m (hD.later hB) (by omega)) rfl hz (by decide) ?_
  rintro e z2 ⟨vMk, rfl, oMk, bMk⟩; obtain ⟨aMk, cMk, rfl, _, _⟩ := oMk.sl kMkA; have hS := hS.trans (bMk.mono hS.size)
  refine ⟨_, rfl, hS, fun Yq zz kk s19 => ?_⟩
  have pMk := Fr8.of_own (B := w2.heap.size) kMkA oMk hzB
  have HS := HS.bel bMk
  have HZ := HZ.bel bMk
  have hB := hB.trans (bMk.mono (by omega))
  have pL := pL.later bMk
  have pV := pV.later bMk
  have pAk := pAk.later bMk
  have hzB := Nat.le_trans hzB bMk.size
  clear bMk
  clear oMk
  replace s1 := ku s1
  replace s2 := ku s2
  replace s4 := ku s4
  replace s15 := ku s15
  replace s20 := ku s20
  replace hz := zz
  clear kk zz s17 s18 Yp
  refine vg_store 9 (z2.setCell ⟨w.heap.size, 8, none⟩ (.slice aAk (Ak.prn s.A D).length cAk)) rfl (by kernel_rfl) (by kernel_rfl) (want_none rfl) (ex_st rfl (ev s20 rfl) (ev s15 rfl) (stK8 (HS.cell 8 _ rfl) (HS.free 8) _ _ _)) rfl ?_
  have US : Upd (fun k => k = w.heap.size) z2 (z2.setCell ⟨w.heap.size, 8, none⟩ (.slice aAk (Ak.prn s.A D).length cAk)) := (Upd.refl (fun k => k = w.heap.size) _).setCell (p := ⟨w.heap.size, 8, none⟩) (.inl rfl) _
  have HSn := HS.set (j := 8) (by simp [Sta.cs]) (.slice aAk (Ak.prn s.A D).length cAk)
  obtain ⟨u1, hu1⟩ : ∃ v, v = (z2.setCell ⟨w.heap.size, 8, none⟩ (.slice aAk (Ak.prn s.A D).length cAk)) := ⟨_, rfl⟩
  rw [← hu1] at US HSn ⊢
  clear hu1 HS
  have HS : SB7 u1 (w.heap.size) { s with la := some ⟨w2.heap.size, 0, none⟩, lc := s.L.length, va := some ⟨x1.heap.size, 0, none⟩, vc := D.length, V := D, ka := aAk, kc := cAk, A := Ak.prn s.A D } := HSn
  clear HSn
  have HZ := HZ.upd US (by show ¬ w.heap.size + 1 = w.heap.size; omega)
  have hB := hB.trans (US.below hB.size (fun k hk => by omega))
  have pL := pL.set US (by omega)
  have pV := pV.set US (by omega)
  have pAk := pAk.set US (by omega)
  have pMk := pMk.set US (by omega)
  have hzB := Nat.le_trans hzB US.size
  clear US
  refine vg_takeW 10 true (.pointer (some ⟨w.heap.size, 9, none⟩)) rfl (by kernel_rfl) (by kernel_rfl) (by kernel_rfl) (by kernel_rfl) (want_none rfl) (fun hc v => ex_fa rfl (ev s2 rfl) (faS9 _ _)) rfl hz (by decide) (late_no 9 (by kernel_rfl)) (fun Yr zz kk s21 => ?_)
  replace s1 := ku s1
  replace s2 := ku s2
  replace s4 := ku s4
  replace s19 := ku s19
  replace hz := zz
  clear kk zz s15 s20 Yq
  refine vg_store 11 (u1.setCell ⟨w.heap.size, 9, none⟩ (.slice aMk (Mk.prn s.M D).length cMk)) rfl (by kernel_rfl) (by kernel_rfl) (want_none rfl) (ex_st rfl (ev s21 rfl) (ev s19 rfl) (stM8 (HS.cell 9 _ rfl) (HS.free 9) _ _ _)) rfl ?_
  have US : Upd (fun k => k = w.heap.size) u1 (u1.setCell ⟨w.heap.size, 9, none⟩ (.slice aMk (Mk.prn s.M D).length cMk)) := (Upd.refl (fun k => k = w.heap.size) _).setCell (p := ⟨w.heap.size, 9, none⟩) (.inl rfl) _
  have HSn := HS.set (j := 9) (by simp [Sta.cs]) (.slice aMk (Mk.prn s.M D).length cMk)
  obtain ⟨u2, hu2⟩ : ∃ v, v = (u1.setCell ⟨w.heap.size, 9, none⟩ (.slice aMk (Mk.prn s.M D).length cMk)) := ⟨_, rfl⟩
  rw [← hu2] at US HSn ⊢
  clear hu2 HS
  have HS : SB7 u2 (w.heap.size) { s with la := some ⟨w2.heap.size, 0, none⟩, lc := s.L.length, va := some ⟨x1.heap.size, 0, none⟩, vc := D.length, V := D, ka := aAk, kc := cAk, A := Ak.prn s.A D, ma := aMk, mc := cMk, M := Mk.prn s.M D } := HSn
  clear HSn
  have HZ := HZ.upd US (by show ¬ w.heap.size + 1 = w.heap.size; omega)
  have hB := hB.trans (US.below hB.size (fun k hk => by omega))
  have pL := pL.set US (by omega)
  have pV := pV.set US (by omega)
  have pAk := pAk.set US (by omega)
  have pMk := pMk.set US (by omega)
  have hzB := Nat.le_trans hzB US.size
  clear US
  refine vg_done (by kernel_rfl) ?_
  clear s19 s21
  clear HS0 hS
  have hb : Below u2.heap.size u2 u2.drew := (Below.refl _ _).drew
  have HS0 := HS
  have hS := hb
  have HS := HS.bel hb
  have HZ := HZ.bel hb
  have hB := hB.trans (hb.mono (by omega))
  have pL := pL.later hb
  have pV := pV.later hb
  have pAk := pAk.later hb
  have pMk := pMk.later hb
  have hzB := Nat.le_trans hzB hb.size
  clear hb
  go_upto_region 3 with fail
  refine vg_start (fun k => k == 9 || k == 11) (fun v => Below u2.heap.size u2 v) (by kernel_rfl) ?_
  refine vg_takeW 0 true (.pointer (some ⟨w.heap.size, 10, none⟩)) rfl (by kernel_rfl) (by kernel_rfl) (by kernel_rfl) (by kernel_rfl) (want_none rfl) (fun hc v => ex_fa rfl (ev s2 rfl) (faS10 _ _)) rfl hz (by decide) (fun _ => hS) (fun Ys zz kk s22 => ?_)
  replace s1 := ku s1
  replace s2 := ku s2
  replace s4 := ku s4
  replace hz := zz
  clear kk zz
  refine vg_take 1 true (.slice s.ba s.B.length s.bc) rfl (by kernel_rfl) (by kernel_rfl) (by kernel_rfl) (by kernel_rfl) (by kernel_rfl) (by kernel_rfl) (want_none rfl) (fun hc v hv => ex_ld rfl (ev s22 rfl) (ldB8 (cell8 (HS0.cell 10 _ rfl) hv))) rfl hz (by decide) hS (fun Yt zz kk s23 => ?_)
  replace s1 := ku s1
  replace s2 := ku s2
  replace s4 := ku s4
  replace hz := zz
  clear kk zz s22 Ys
  refine vg_takeW 2 true (.slice av D.length cv) rfl (by kernel_rfl) (by kernel_rfl) (by kernel_rfl) (by kernel_rfl) (want_none rfl) (fun hc v => ex_move rfl (ev s1 rfl)) rfl hz (by decide) (fun _ => hS) (fun Yu zz kk s24 => ?_)
  replace s1 := ku s1
  replace s2 := ku s2
  replace s4 := ku s4
  replace s23 := ku s23
  replace hz := zz
  clear kk zz Yt
  refine vg_takeW 4 true (.pointer (some ⟨w.heap.size, 11, none⟩)) rfl (by kernel_rfl) (by kernel_rfl) (by kernel_rfl) (by kernel_rfl) (want_none rfl) (fun hc v => ex_fa rfl (ev s2 rfl) (faS11 _ _)) rfl hz (by decide) (fun _ => hS) (fun Yv zz kk s26 => ?_)
  replace s1 := ku s1
  replace s2 := ku s2
  replace s4 := ku s4
  replace s23 := ku s23
  replace s24 := ku s24
  replace hz := zz
  clear kk zz Yu
  refine vg_take 5 true (.slice s.na s.N.length s.nc) rfl (by kernel_rfl) (by kernel_rfl) (by kernel_rfl) (by kernel_rfl) (by kernel_rfl) (by kernel_rfl) (want_none rfl) (fun hc v hv => ex_ld rfl (ev s26 rfl) (ldN8 (cell8 (HS0.cell 11 _ rfl) hv))) rfl hz (by decide) hS (fun Yw zz kk s27 => ?_)
  replace s1 := ku s1
  replace s2 := ku s2
  replace s4 := ku s4
  replace s23 := ku s23
  replace s24 := ku s24
  replace hz := zz
  clear kk zz s26 Yv
  refine vg_takeW 6 true (.slice av D.length cv) rfl (by kernel_rfl) (by kernel_rfl) (by kernel_rfl) (by kernel_rfl) (want_none rfl) (fun hc v => ex_move rfl (ev s1 rfl)) rfl hz (by decide) (fun _ => hS) (fun Yx zz kk s28 => ?_)
  replace s1 := ku s1
  replace s2 := ku s2
  replace s4 := ku s4
  replace s23 := ku s23
  replace s24 := ku s24
  replace s27 := ku s27
  replace hz := zz
  clear kk zz Yw
  refine vg_call 3 rfl (by kernel_rfl) (want_none rfl) (ex_call rfl (by simp only [List.map_toArray, List.map_cons, List.map_nil, (ev s23 rfl), (ev s24 rfl), evc] <;> rfl) rfl) (Bl.Prune_any s.B D s.ba av _ s.bc _ cv u2.drew (hI.later hB).b (hD.later hB) (hI.later hB).bl (by omega)) rfl hz (by decide) ?_
  rintro e z3 ⟨vBl, RBl, rfl, oBl, tBl, bBl⟩; obtain ⟨aBl, cBl, rfl, _, _⟩ := oBl.sl kBlA; have hS := hS.trans (bBl.mono hS.size)
  refine ⟨_, rfl, hS, fun Yy zz kk s25 => ?_⟩
  have pBl := Fr8.of_own (B := w2.heap.size) kBlA oBl hzB
  have tBl := tBl.low (B' := w2.heap.size) hzB
  have HS := HS.bel bBl
  have HZ := HZ.bel bBl
  have hB := hB.trans (bBl.mono (by omega))
  have pL := pL.later bBl
  have pV := pV.later bBl
  have pAk := pAk.later bBl
  have pMk := pMk.later bBl
  have hzB := Nat.le_trans hzB bBl.size
  clear bBl
  clear oBl
  replace s1 := ku s1
  replace s2 := ku s2
  replace s4 := ku s4
  replace s27 := ku s27
  replace s28 := ku s28
  replace hz := zz
  clear kk zz s23 s24 Yx
  refine vg_takeW 8 true (.pointer (some ⟨w.heap.size, 10, none⟩)) rfl (by kernel_rfl) (by kernel_rfl) (by kernel_rfl) (by kernel_rfl) (want_none rfl) (fun hc v => ex_fa rfl (ev s2 rfl) (faS10 _ _)) rfl hz (by decide) (fun _ => hS) (fun Yz zz kk s30 => ?_)
  replace s1 := ku s1
  replace s2 := ku s2
  replace s4 := ku s4
  replace s25 := ku s25
  replace s27 := ku s27
  replace s28 := ku s28
  replace hz := zz
  clear kk zz Yy
  refine vg_call 7 rfl (by kernel_rfl) (want_none rfl) (ex_call rfl (by simp only [List.map_toArray, List.map_cons, List.map_nil, (ev s27 rfl), (ev s28 rfl), evc] <;> rfl) rfl) (An.Prune_any s.N D s.na av _ s.nc _ cv z3 (hI.later hB).n (hD.later hB) (hI.later hB).nl (by omega)) rfl hz (by decide) ?_
  rintro e z4 ⟨vAn, RAn, rfl, oAn, tAn, bAn⟩; obtain ⟨aAn, cAn, rfl, _, _⟩ := oAn.sl kAnA; have hS := hS.trans (bAn.mono hS.size)
  refine ⟨_, rfl, hS, fun Y0 zz kk s29 => ?_⟩
  have pAn := Fr8.of_own (B := w2.heap.size) kAnA oAn hzB
  have tAn := tAn.low (B' := w2.heap.size) hzB
  have HS := HS.bel bAn
  have HZ := HZ.bel bAn
  have hB := hB.trans (bAn.mono (by omega))
  have pL := pL.later bAn
  have pV := pV.later bAn
  have pAk := pAk.later bAn
  have pMk := pMk.later bAn
  have pBl := pBl.later bAn
  have tBl := tBl.bel bAn
  have hzB := Nat.le_trans hzB bAn.size
  clear bAn
  clear oAn
  replace s1 := ku s1
  replace s2 := ku s2
  replace s4 := ku s4
  replace s25 := ku s25
  replace s30 := ku s30
  replace hz := zz
  clear kk zz s27 s28 Yz
  refine vg_store 9 (z4.setCell ⟨w.heap.size, 10, none⟩ (.slice aBl RBl.length cBl)) rfl (by kernel_rfl) (by kernel_rfl) (want_none rfl) (ex_st rfl (ev s30 rfl) (ev s25 rfl) (stB8 (HS.cell 10 _ rfl) (HS.free 10) _ _ _)) rfl ?_
  have US : Upd (fun k => k = w.heap.size) z4 (z4.setCell ⟨w.heap.size, 10, none⟩ (.slice aBl RBl.length cBl)) := (Upd.refl (fun k => k = w.heap.size) _).setCell (p := ⟨w.heap.size, 10, none⟩) (.inl rfl) _
  have HSn := HS.set (j := 10) (by simp [Sta.cs]) (.slice aBl RBl.length cBl)
  obtain ⟨u3, hu3⟩ : ∃ v, v = (z4.setCell ⟨w.heap.size, 10, none⟩ (.slice aBl RBl.length cBl)) := ⟨_, rfl⟩
  rw [← hu3] at US HSn ⊢
  clear hu3 HS
  have HS : SB7 u3 (w.heap.size) { s with la := some ⟨w2.heap.size, 0, none⟩, lc := s.L.length, va := some ⟨x1.heap.size, 0, none⟩, vc := D.length, V := D, ka := aAk, kc := cAk, A := Ak.prn s.A D, ma := aMk, mc := cMk, M := Mk.prn s.M D, ba := aBl, bc := cBl, B := RBl } := HSn
  clear HSn
  have HZ := HZ.upd US (by show ¬ w.heap.size + 1 = w.heap.size; omega)
  have hB := hB.trans (US.below hB.size (fun k hk => by omega))
  have pL := pL.set US (by omega)
  have pV := pV.set US (by omega)
  have pAk := pAk.set US (by omega)
  have pMk := pMk.set US (by omega)
  have pBl := pBl.set US (by omega)
  have tBl := tBl.set8 US (by omega)
  have pAn := pAn.set US (by omega)
  have tAn := tAn.set8 US (by omega)
  have hzB := Nat.le_trans hzB US.size
  clear US
  refine vg_takeW 10 true (.pointer (some ⟨w.heap.size, 11, none⟩)) rfl (by kernel_rfl) (by kernel_rfl) (by kernel_rfl) (by kernel_rfl) (want_none rfl) (fun hc v => ex_fa rfl (ev s2 rfl) (faS11 _ _)) rfl hz (by decide) (late_no 9 (by kernel_rfl)) (fun Y1 zz kk s31 => ?_)
  replace s1 := ku s1
  replace s2 := ku s2
  replace s4 := ku s4
  replace s29 := ku s29
  replace hz := zz
  clear kk zz s25 s30 Y0
  refine vg_store 11 (u3.setCell ⟨w.heap.size, 11, none⟩ (.slice aAn RAn.length cAn)) rfl (by kernel_rfl) (by kernel_rfl) (want_none rfl) (ex_st rfl (ev s31 rfl) (ev s29 rfl) (stN8 (HS.cell 11 _ rfl) (HS.free 11) _ _ _)) rfl ?_
  have US : Upd (fun k => k = w.heap.size) u3 (u3.setCell ⟨w.heap.size, 11, none⟩ (.slice aAn RAn.length cAn)) := (Upd.refl (fun k => k = w.heap.size) _).setCell (p := ⟨w.heap.size, 11, none⟩) (.inl rfl) _
  have HSn := HS.set (j := 11) (by simp [Sta.cs]) (.slice aAn RAn.length cAn)
  obtain ⟨u4, hu4⟩ : ∃ v, v = (u3.setCell ⟨w.heap.size, 11, none⟩ (.slice aAn RAn.length cAn)) := ⟨_, rfl⟩
  rw [← hu4] at US HSn ⊢
  clear hu4 HS
  have HS : SB7 u4 (w.heap.size) { s with la := some ⟨w2.heap.size, 0, none⟩, lc := s.L.length, va := some ⟨x1.heap.size, 0, none⟩, vc := D.length, V := D, ka := aAk, kc := cAk, A := Ak.prn s.A D, ma := aMk, mc := cMk, M := Mk.prn s.M D, ba := aBl, bc := cBl, B := RBl, na := aAn, nc := cAn, N := RAn } := HSn
  clear HSn
  have HZ := HZ.upd US (by show ¬ w.heap.size + 1 = w.heap.size; omega)
  have hB := hB.trans (US.below hB.size (fun k hk => by omega))
  have pL := pL.set US (by omega)
  have pV := pV.set US (by omega)
  have pAk := pAk.set US (by omega)
  have pMk := pMk.set US (by omega)
  have pBl := pBl.set US (by omega)
  have tBl := tBl.set8 US (by omega)
  have pAn := pAn.set US (by omega)
  have tAn := tAn.set8 US (by omega)
  have hzB := Nat.le_trans hzB US.size
  clear US
  refine vg_done (by kernel_rfl) ?_
  clear s29 s31
  clear HS0 hS
  go_upto_region 4 with fail
  refine wp_region_lit ?_
  refine vt (Sta.val { s with la := some ⟨w2.heap.size, 0, none⟩, lc := s.L.length, va := some ⟨x1.heap.size, 0, none⟩, vc := D.length, V := D, ka := aAk, kc := cAk, A := Ak.prn s.A D, ma := aMk, mc := cMk, M := Mk.prn s.M D, ba := aBl, bc := cBl, B := RBl, na := aAn, nc := cAn, N := RAn }) (ex_ld rfl (ev s2 rfl) (SB7.ld HS)) hz (fun Y2 zz kk s32 => ?_)
  replace s4 := ku s4
  replace hz := zz
  clear kk zz s1 s2
  refine vs (sets u4 (w.heap.size + 1) 0 (Sta.cs { s with la := some ⟨w2.heap.size, 0, none⟩, lc := s.L.length, va := some ⟨x1.heap.size, 0, none⟩, vc := D.length, V := D, ka := aAk, kc := cAk, A := Ak.prn s.A D, ma := aMk, mc := cMk, M := Mk.prn s.M D, ba := aBl, bc := cBl, B := RBl, na := aAn, nc := cAn, N := RAn })) (want_none rfl) (ex_st rfl (ev s4 rfl) (ev s32 rfl) (st12 HZ { s with la := some ⟨w2.heap.size, 0, none⟩, lc := s.L.length, va := some ⟨x1.heap.size, 0, none⟩, vc := D.length, V := D, ka := aAk, kc := cAk, A := Ak.prn s.A D, ma := aMk, mc := cMk, M := Mk.prn s.M D, ba := aBl, bc := cBl, B := RBl, na := aAn, nc := cAn, N := RAn })) rfl ?_
  have HP := SB7.put HZ { s with la := some ⟨w2.heap.size, 0, none⟩, lc := s.L.length, va := some ⟨x1.heap.size, 0, none⟩, vc := D.length, V := D, ka := aAk, kc := cAk, A := Ak.prn s.A D, ma := aMk, mc := cMk, M := Mk.prn s.M D, ba := aBl, bc := cBl, B := RBl, na := aAn, nc := cAn, N := RAn }
  have UP := upd12 u4 (w.heap.size + 1) { s with la := some ⟨w2.heap.size, 0, none⟩, lc := s.L.length, va := some ⟨x1.heap.size, 0, none⟩, vc := D.length, V := D, ka := aAk, kc := cAk, A := Ak.prn s.A D, ma := aMk, mc := cMk, M := Mk.prn s.M D, ba := aBl, bc := cBl, B := RBl, na := aAn, nc := cAn, N := RAn }
  obtain ⟨u9, hu9⟩ : ∃ v, v = sets u4 (w.heap.size + 1) 0 (Sta.cs { s with la := some ⟨w2.heap.size, 0, none⟩, lc := s.L.length, va := some ⟨x1.heap.size, 0, none⟩, vc := D.length, V := D, ka := aAk, kc := cAk, A := Ak.prn s.A D, ma := aMk, mc := cMk, M := Mk.prn s.M D, ba := aBl, bc := cBl, B := RBl, na := aAn, nc := cAn, N := RAn }) := ⟨_, rfl⟩
  rw [← hu9] at HP UP ⊢
  have hB9 := hide (hB.trans (UP.below hB.size (fun k hk => by omega)))
  have pL := pL.set UP (by omega)
  have pV := pV.set UP (by omega)
  have pAk := pAk.set UP (by omega)
  have pMk := pMk.set UP (by omega)
  have pBl := pBl.set UP (by omega)
  have tBl := tBl.set8 UP (by omega)
  have pAn := pAn.set UP (by omega)
  have tAn := tAn.set8 UP (by omega)
  clear hu9 UP
  clear s32
  refine wpList_nil ?_
  go_wp2
  refine bodyPost_ret (results_sta rfl (getD_of s4) HP) rfl ?_
  exact ⟨_, rfl, ⟨rfl, rfl, rfl, rfl, rfl, rfl, rfl, rfl, rfl, rfl, tBl.low (by omega), tAn.low (by omega), ⟨pL.sl, pV.sl, pAk.sl, pMk.sl, pBl.sl, pAn.sl, tBl.in8, tAn.in8⟩⟩, Sta.Lo.low ⟨pL.lo, pV.lo, pAk.lo, pMk.lo, pBl.lo, pAn.lo⟩ (by omega), hB9.out⟩
set_option maxHeartbeats 1000000 in
theorem copied8 (s : Sta) (w : World) (hI : s.In w) (hF : s.Fit) : Calls Tryz.prog 80 #[s.val] w fun e w' => ∃ t : Sta, e = .returned t.val ∧ t.Kn w.heap.size s s.V w' ∧ t.Lo w.heap.size ∧ Below w.heap.size w w' := by
  go_enter Tryz.func80, Tryz.ntmps80
  go_upto_region 0 with fail
  refine wp_region_lit ?_
  refine vl_gen (fun T => T.size = 7 ∧ T[0]? = some (gw true (s.val))) ⟨rfl, rfl⟩ (fun Z0 ⟨hz, s0⟩ => ?_)
  obtain ⟨w1, hw1⟩ : ∃ y, y = w.alloc (.cells s.cs.toArray 36) := ⟨_, rfl⟩
  have hb : Below w.heap.size w w1 := by rw [hw1]; exact (Below.refl _ _).alloc (Nat.le_refl _) _
  have hs1 : w1.heap.size = w.heap.size + 1 := by rw [hw1]; simp
  have HS : SB7 w1 (w.heap.size) s := by rw [hw1]; exact BX7.new _ _ _
  refine vw (.pointer (some ⟨w.heap.size, 0, none⟩)) w1 (want_none rfl) (ex_box8 rfl (ev s0 rfl) (by rw [hw1]; exact bxS7 _ _)) rfl hz (by decide) (fun Z1 zz kk s1x => ?_)
  clear kk hz s0 hw1
  have hz := zz
  have s1 := s1x
  clear zz s1x
  have hB := hb
  clear hb
  have hv0 : Below w1.heap.size w1 w1 := Below.refl _ _
  obtain ⟨w2, hw2⟩ : ∃ y, y = w1.alloc (.cells zS8.cs.toArray 36) := ⟨_, rfl⟩
  have hb : Below w1.heap.size w1 w2 := by rw [hw2]; exact (Below.refl _ _).alloc (Nat.le_refl _) _
  have HZ : SB7 w2 (w.heap.size + 1) zS8 := by rw [hw2, ← hs1]; exact BX7.new _ _ _
  refine vw (.pointer (some ⟨w.heap.size + 1, 0, none⟩)) w2 (want_none rfl) (ex_al rfl (by rw [hw2, ← hs1]; exact al12 _)) rfl hz (by decide) (fun Ya zz kk s2 => ?_)
  replace s1 := ku s1
  replace hz := zz
  clear kk zz
  refine wpList_nil ?_
  have hB := hB.trans (hb.mono (by omega))
  have HS := HS.bel hb
  have HI := hI.later hB
  clear hb hw2 hv0
  have hv0 : Below w2.heap.size w2 w2 := Below.refl _ _
  go_upto_region 1 with fail
  refine wp_region_lit ?_
  refine vt (s.val) (ex_ld rfl (ev s1 rfl) (SB7.ld (HS.bel hv0))) hz (fun Yb zz kk s3 => ?_)
  replace s1 := ku s1
  replace s2 := ku s2
  replace hz := zz
  clear kk zz
  refine vt (.pointer (some ⟨w.heap.size, 6, none⟩)) (ex_fa rfl (ev s1 rfl) (faS6 _ _)) hz (fun Yc zz kk s4 => ?_)
  replace s2 := ku s2
  replace s3 := ku s3
  replace hz := zz
  clear kk zz s1 Yb
  refine vt (.slice s.va s.V.length s.vc) (ex_ld rfl (ev s4 rfl) (ldV8 (cell8 (HS.cell 6 _ rfl) hv0))) hz (fun Yd zz kk s5 => ?_)
  replace s2 := ku s2
  replace s3 := ku s3
  replace hz := zz
  clear kk zz s4 Yc
  refine vcallP (want_none rfl) (ex_call rfl (by simp only [List.map_toArray, List.map_cons, List.map_nil, (ev s3 rfl), (ev s5 rfl), evc] <;> rfl) rfl) (knowing8 s s.va s.vc s.V w2 HI hF HI.v hF.vl) rfl hz (by decide) ?_
  rintro e x1 ⟨t, rfl, hk, hlo, bk⟩
  refine ⟨_, rfl, fun Ye zz kk s6 => ?_⟩
  have hz3 := HZ.lt
  have HZ := HZ.bel bk
  have hz1 := hB.size
  have hz2 := bk.size
  have hB := hB.trans (bk.mono hz1)
  clear bk
  replace s2 := ku s2
  replace hz := zz
  clear kk zz s3 s5 Yd
  refine vs (sets x1 (w.heap.size + 1) 0 t.cs) (want_none rfl) (ex_st rfl (ev s2 rfl) (ev s6 rfl) (st12 HZ t)) rfl ?_
  have HP := SB7.put HZ t
  have UP := upd12 x1 (w.heap.size + 1) t
  obtain ⟨u9, hu9⟩ : ∃ v, v = sets x1 (w.heap.size + 1) 0 t.cs := ⟨_, rfl⟩
  rw [← hu9] at HP UP ⊢
  have hB9 := hide (hB.trans (UP.below hB.size (fun k hk => by omega)))
  have hk2 := hk.set8 UP (by omega) hlo
  clear hu9 UP hk
  clear s6
  refine wpList_nil ?_
  go_wp2
  refine bodyPost_ret (results_sta rfl (getD_of s2) HP) rfl ?_
  exact ⟨t, rfl, hk2.low8 (by omega), hlo.low (by omega), hB9.out⟩
end Go.Proofs.YtkfkkajeoocbbaaGreatDoor
namespace Go.Proofs.YtkfkkajeoocbbaaGreatDoor
open Go.RowKit Go.Maps Go.Shelf
open Classical
theorem nil_sl8 {α : Type} (Y : Lay α) (w : World) : SlY Y w none 0 0 [] := ⟨rfl, Nat.le_refl _, Nat.zero_le _, fun _ => ⟨rfl, rfl⟩, fun x h => by cases h⟩
theorem zS8_in (w : World) : zS8.In w := ⟨nil_sl8 _ _, nil_sl8 _ _, nil_sl8 _ _, nil_sl8 _ _, nil_sl8 _ _, nil_sl8 _ _, (fun x h => by cases h), (fun x h => by cases h)⟩
theorem okB_eq9 (c : Cg) : c.okB = (((((((decide (1 ≤ c.F)) && (decide (c.F ≤ 3))) && (decide (1 ≤ c.R))) && (decide (c.R ≤ 256))) && (decide (6 ≤ c.P))) && (decide (c.P ≤ 100)))) := by
  unfold Cg.okB inB
  simp only [Bool.and_assoc]
set_option maxHeartbeats 1000000 in
theorem rconfig9 (c : Cg) (w : World)  : Calls Tryz.prog 58 #[c.val] w fun e w' => e = .returned (.bool c.okB) ∧ Below w.heap.size w w' := by
  go_enter Tryz.func58, Tryz.ntmps58
  go_upto_region 0 with fail
  refine wp_region_lit ?_
  refine vl_gen (fun T => T.size = 31 ∧ T[0]? = some (gw true (c.val))) ⟨rfl, rfl⟩ (fun Z0 ⟨hz, s0⟩ => ?_)
  obtain ⟨w1, hw1⟩ : ∃ y, y = w.alloc (.cells c.cs.toArray 23) := ⟨_, rfl⟩
  have hb : Below w.heap.size w w1 := by rw [hw1]; exact (Below.refl _ _).alloc (Nat.le_refl _) _
  have hs1 : w1.heap.size = w.heap.size + 1 := by rw [hw1]; simp
  have HC : CB7 w1 (w.heap.size) c := by rw [hw1]; exact BX7.new _ _ _
  refine vw (.pointer (some ⟨w.heap.size, 0, none⟩)) w1 (want_none rfl) (ex_box8 rfl (ev s0 rfl) (by rw [hw1]; exact bxC7 _ _)) rfl hz (by decide) (fun Z1 zz kk s1x => ?_)
  clear kk hz s0 hw1
  have hz := zz
  have s1 := s1x
  clear zz s1x
  have hB := hb
  clear hb
  have hv0 : Below w1.heap.size w1 w1 := Below.refl _ _
  refine vt (.bool false) (ex_assign rfl rfl) hz (fun Ya zz kk s2 => ?_)
  replace s1 := ku s1
  replace hz := zz
  clear kk zz
  clear s2
  refine wpList_nil ?_
  go_upto_region 1 with fail
  refine wp_region_lit ?_
  refine vt (.pointer (some ⟨w.heap.size, 0, none⟩)) (ex_fa rfl (ev s1 rfl) (faC0 _ _)) hz (fun Yb zz kk s3 => ?_)
  replace s1 := ku s1
  replace hz := zz
  clear kk zz
  refine vt (.int .i64 c.F) (ex_ld rfl (ev s3 rfl) (ldI8 (cell8 (HC.cell 0 _ rfl) hv0))) hz (fun Yc zz kk s4 => ?_)
  replace s1 := ku s1
  replace hz := zz
  clear kk zz s3 Yb
  refine vt (.bool (decide (1 ≤ c.F))) (ex_bin rfl (ev s4 rfl) rfl (geqC _ _ _ _ _)) hz (fun Yd zz kk s5 => ?_)
  replace s1 := ku s1
  replace hz := zz
  clear kk zz s4 Yc
  refine vt _ (ex_move rfl (ev s5 rfl)) hz (fun Ye zz kk s6 => ?_)
  replace s1 := ku s1
  replace hz := zz
  clear kk zz s5 Yd
  refine vl _ (.pointer (some ⟨w.heap.size, 0, none⟩)) (want_g rfl rfl s6) (fun hc => ex_fa rfl (ev s1 rfl) (faC0 _ _)) rfl hz (by decide) (fun Yf zz kk s7 => ?_)
  replace s1 := ku s1
  replace s6 := ku s6
  replace hz := zz
  clear kk zz Ye
  refine vl _ (.int .i64 c.F) (want_g rfl rfl s6) (fun hc => ex_ld rfl (ev s7 hc) (ldI8 (cell8 (HC.cell 0 _ rfl) hv0))) rfl hz (by decide) (fun Yg zz kk s8 => ?_)
  replace s1 := ku s1
  replace s6 := ku s6
  replace hz := zz
  clear kk zz s7 Yf
  refine vl _ (.bool (decide (c.F ≤ 3))) (want_g rfl rfl s6) (fun hc => ex_bin rfl (ev s8 hc) rfl (leqC8 _ _ _ _ _)) rfl hz (by decide) (fun Yh zz kk s9 => ?_)
  replace s1 := ku s1
  replace s6 := ku s6
  replace hz := zz
  clear kk zz s8 Yg
  refine vt (.bool ((decide (1 ≤ c.F)) && (decide (c.F ≤ 3)))) (ex_and rfl s6 s9 rfl) hz (fun Yi zz kk s10 => ?_)
  replace s1 := ku s1
  replace hz := zz
  clear kk zz s6 s9 Yh
  refine vt _ (ex_move rfl (ev s10 rfl)) hz (fun Yj zz kk s11 => ?_)
  replace s1 := ku s1
  replace hz := zz
  clear kk zz s10 Yi
  refine vl _ (.pointer (some ⟨w.heap.size, 1, none⟩)) (want_g rfl rfl s11) (fun hc => ex_fa rfl (ev s1 rfl) (faC1 _ _)) rfl hz (by decide) (fun Yk zz kk s12 => ?_)
  replace s1 := ku s1
  replace s11 := ku s11
  replace hz := zz
  clear kk zz Yj
  refine vl _ (.int .i64 c.R) (want_g rfl rfl s11) (fun hc => ex_ld rfl (ev s12 hc) (ldI8 (cell8 (HC.cell 1 _ rfl) hv0))) rfl hz (by decide) (fun Yl zz kk s13 => ?_)
  replace s1 := ku s1
  replace s11 := ku s11
  replace hz := zz
  clear kk zz s12 Yk
  refine vl _ (.bool (decide (1 ≤ c.R))) (want_g rfl rfl s11) (fun hc => ex_bin rfl (ev s13 hc) rfl (geqC _ _ _ _ _)) rfl hz (by decide) (fun Ym zz kk s14 => ?_)
  replace s1 := ku s1
  replace s11 := ku s11
  replace hz := zz
  clear kk zz s13 Yl
  refine vt (.bool (((decide (1 ≤ c.F)) && (decide (c.F ≤ 3))) && (decide (1 ≤ c.R)))) (ex_and rfl s11 s14 rfl) hz (fun Yn zz kk s15 => ?_)
  replace s1 := ku s1
  replace hz := zz
  clear kk zz s11 s14 Ym
  refine vt _ (ex_move rfl (ev s15 rfl)) hz (fun Yo zz kk s16 => ?_)
  replace s1 := ku s1
  replace hz := zz
  clear kk zz s15 Yn
  refine vl _ (.pointer (some ⟨w.heap.size, 1, none⟩)) (want_g rfl rfl s16) (fun hc => ex_fa rfl (ev s1 rfl) (faC1 _ _)) rfl hz (by decide) (fun Yp zz kk s17 => ?_)
  replace s1 := ku s1
  replace s16 := ku s16
  replace hz := zz
  clear kk zz Yo
  refine vl _ (.int .i64 c.R) (want_g rfl rfl s16) (fun hc => ex_ld rfl (ev s17 hc) (ldI8 (cell8 (HC.cell 1 _ rfl) hv0))) rfl hz (by decide) (fun Yq zz kk s18 => ?_)
  replace s1 := ku s1
  replace s16 := ku s16
  replace hz := zz
  clear kk zz s17 Yp
  refine vl _ (.bool (decide (c.R ≤ 256))) (want_g rfl rfl s16) (fun hc => ex_bin rfl (ev s18 hc) rfl (leqC8 _ _ _ _ _)) rfl hz (by decide) (fun Yr zz kk s19 => ?_)
  replace s1 := ku s1
  replace s16 := ku s16
  replace hz := zz
  clear kk zz s18 Yq
  refine vt (.bool ((((decide (1 ≤ c.F)) && (decide (c.F ≤ 3))) && (decide (1 ≤ c.R))) && (decide (c.R ≤ 256)))) (ex_and rfl s16 s19 rfl) hz (fun Ys zz kk s20 => ?_)
  replace s1 := ku s1
  replace hz := zz
  clear kk zz s16 s19 Yr
  refine vt _ (ex_move rfl (ev s20 rfl)) hz (fun Yt zz kk s21 => ?_)
  replace s1 := ku s1
  replace hz := zz
  clear kk zz s20 Ys
  refine vl _ (.pointer (some ⟨w.heap.size, 2, none⟩)) (want_g rfl rfl s21) (fun hc => ex_fa rfl (ev s1 rfl) (faC2 _ _)) rfl hz (by decide) (fun Yu zz kk s22 => ?_)
  replace s1 := ku s1
  replace s21 := ku s21
  replace hz := zz
  clear kk zz Yt
  refine vl _ (.int .i64 c.P) (want_g rfl rfl s21) (fun hc => ex_ld rfl (ev s22 hc) (ldI8 (cell8 (HC.cell 2 _ rfl) hv0))) rfl hz (by decide) (fun Yv zz kk s23 => ?_)
  replace s1 := ku s1
  replace s21 := ku s21
  replace hz := zz
  clear kk zz s22 Yu
  refine vl _ (.bool (decide (6 ≤ c.P))) (want_g rfl rfl s21) (fun hc => ex_bin rfl (ev s23 hc) rfl (geqC _ _ _ _ _)) rfl hz (by decide) (fun Yw zz kk s24 => ?_)
  replace s1 := ku s1
  replace s21 := ku s21
  replace hz := zz
  clear kk zz s23 Yv
  refine vt (.bool (((((decide (1 ≤ c.F)) && (decide (c.F ≤ 3))) && (decide (1 ≤ c.R))) && (decide (c.R ≤ 256))) && (decide (6 ≤ c.P)))) (ex_and rfl s21 s24 rfl) hz (fun Yx zz kk s25 => ?_)
  replace s1 := ku s1
  replace hz := zz
  clear kk zz s21 s24 Yw
  refine vt _ (ex_move rfl (ev s25 rfl)) hz (fun Yy zz kk s26 => ?_)
  replace s1 := ku s1
  replace hz := zz
  clear kk zz s25 Yx
  refine vl _ (.pointer (some ⟨w.heap.size, 2, none⟩)) (want_g rfl rfl s26) (fun hc => ex_fa rfl (ev s1 rfl) (faC2 _ _)) rfl hz (by decide) (fun Yz zz kk s27 => ?_)
  replace s26 := ku s26
  replace hz := zz
  clear kk zz s1 Yy
  refine vl _ (.int .i64 c.P) (want_g rfl rfl s26) (fun hc => ex_ld rfl (ev s27 hc) (ldI8 (cell8 (HC.cell 2 _ rfl) hv0))) rfl hz (by decide) (fun Y0 zz kk s28 => ?_)
  replace s26 := ku s26
  replace hz := zz
  clear kk zz s27 Yz
  refine vl _ (.bool (decide (c.P ≤ 100))) (want_g rfl rfl s26) (fun hc => ex_bin rfl (ev s28 hc) rfl (leqC8 _ _ _ _ _)) rfl hz (by decide) (fun Y1 zz kk s29 => ?_)
  replace s26 := ku s26
  replace hz := zz
  clear kk zz s28 Y0
  refine vt (.bool ((((((decide (1 ≤ c.F)) && (decide (c.F ≤ 3))) && (decide (1 ≤ c.R))) && (decide (c.R ≤ 256))) && (decide (6 ≤ c.P))) && (decide (c.P ≤ 100)))) (ex_and rfl s26 s29 rfl) hz (fun Y2 zz kk s30 => ?_)
  replace hz := zz
  clear kk zz s26 s29 Y1
  refine vt _ (ex_assign rfl (ev s30 rfl)) hz (fun Y3 zz kk s2 => ?_)
  replace hz := zz
  clear kk zz s30 Y2
  refine wpList_nil ?_
  go_wp2
  refine bodyPost_ret (results_tmp rfl _ _ _) rfl ⟨?_, hB.trans (hv0.mono (by omega))⟩
  rw [getD_of s2]
  rw [show c.okB = (((((((decide (1 ≤ c.F)) && (decide (c.F ≤ 3))) && (decide (1 ≤ c.R))) && (decide (c.R ≤ 256))) && (decide (6 ≤ c.P))) && (decide (c.P ≤ 100)))) from okB_eq9 c]
  rfl
set_option maxHeartbeats 1000000 in
theorem rcheckconfig9 (c : Cg) (w : World)  : Calls Tryz.prog 19 #[c.val] w fun e w' => e = .returned (.int .i64 c.er) ∧ Below w.heap.size w w' := by
  go_enter Tryz.func19, Tryz.ntmps19
  go_upto_region 0 with fail
  refine wp_region_lit ?_
  refine vl_gen (fun T => T.size = 6 ∧ T[0]? = some (gw true (c.val))) ⟨rfl, rfl⟩ (fun Z0 ⟨hz, s0⟩ => ?_)
  obtain ⟨w1, hw1⟩ : ∃ y, y = w.alloc (.cells c.cs.toArray 23) := ⟨_, rfl⟩
  have hb : Below w.heap.size w w1 := by rw [hw1]; exact (Below.refl _ _).alloc (Nat.le_refl _) _
  have hs1 : w1.heap.size = w.heap.size + 1 := by rw [hw1]; simp
  have HC : CB7 w1 (w.heap.size) c := by rw [hw1]; exact BX7.new _ _ _
  refine vw (.pointer (some ⟨w.heap.size, 0, none⟩)) w1 (want_none rfl) (ex_box8 rfl (ev s0 rfl) (by rw [hw1]; exact bxC7 _ _)) rfl hz (by decide) (fun Z1 zz kk s1x => ?_)
  clear kk hz s0 hw1
  have hz := zz
  have s1 := s1x
  clear zz s1x
  have hB := hb
  clear hb
  have hv0 : Below w1.heap.size w1 w1 := Below.refl _ _
  refine vt (.int .i64 0) (ex_assign rfl rfl) hz (fun Ya zz kk s2 => ?_)
  replace s1 := ku s1
  replace hz := zz
  clear kk zz
  clear s2
  refine wpList_nil ?_
  go_upto_region 1 with fail
  refine wp_region_lit ?_
  refine vt (c.val) (ex_ld rfl (ev s1 rfl) (CB7.ld (HC.bel hv0))) hz (fun Yb zz kk s3 => ?_)
  replace hz := zz
  clear kk zz s1
  refine vcall true (.bool c.okB) (want_none rfl) (fun hc => ex_call rfl (by simp only [List.map_toArray, List.map_cons, List.map_nil, (ev s3 rfl), evc] <;> rfl) rfl) (fun hc => rconfig9 c w1) rfl hz (by decide) (fun Yc x1 hb zz kk s4 => ?_)
  have hx1 := hv0.trans (hb.mono hv0.size)
  clear hb
  replace hz := zz
  clear kk zz s3 Yb
  refine vt (.bool (!c.okB)) (ex_not rfl (ev s4 rfl)) hz (fun Yd zz kk s5 => ?_)
  replace hz := zz
  clear kk zz s4 Yc
  refine wpList_nil ?_
  go_upto_region 2 with fail
  cases eo : c.okB
  · refine wp_cond_true ((ev s5 rfl).trans (by rw [eo]; rfl)) ?_
    go_upto_region 2 with fail
    refine wp_region_lit ?_
    refine vt (.int .i64 1) (ex_assign rfl rfl) hz (fun Ye zz kk s2 => ?_)
    replace hz := zz
    clear kk zz
    refine wpList_nil ?_
    go_wp2
    refine bodyPost_ret (results_tmp rfl _ _ _) rfl ⟨?_, hB.trans (hx1.mono (by omega))⟩
    rw [getD_of s2]
    unfold Cg.er
    rw [eo]
    rfl
  · refine wp_cond_false ((ev s5 rfl).trans (by rw [eo]; rfl)) ?_
    go_upto_region 3 with fail
    refine wp_region_lit ?_
    refine vt (.int .i64 0) (ex_assign rfl rfl) hz (fun Yf zz kk s2 => ?_)
    replace hz := zz
    clear kk zz
    refine wpList_nil ?_
    go_wp2
    refine bodyPost_ret (results_tmp rfl _ _ _) rfl ⟨?_, hB.trans (hx1.mono (by omega))⟩
    rw [getD_of s2]
    unfold Cg.er
    rw [eo]
    rfl
set_option maxHeartbeats 1000000 in
theorem rnodes9 (c : Cg) (w : World)  : Calls Tryz.prog 21 #[c.val] w fun e w' => e = .returned (.int .i64 c.nd) ∧ Below w.heap.size w w' := by
  go_enter Tryz.func21, Tryz.ntmps21
  go_upto_region 0 with fail
  refine wp_region_lit ?_
  refine vl_gen (fun T => T.size = 10 ∧ T[0]? = some (gw true (c.val))) ⟨rfl, rfl⟩ (fun Z0 ⟨hz, s0⟩ => ?_)
  obtain ⟨w1, hw1⟩ : ∃ y, y = w.alloc (.cells c.cs.toArray 23) := ⟨_, rfl⟩
  have hb : Below w.heap.size w w1 := by rw [hw1]; exact (Below.refl _ _).alloc (Nat.le_refl _) _
  have hs1 : w1.heap.size = w.heap.size + 1 := by rw [hw1]; simp
  have HC : CB7 w1 (w.heap.size) c := by rw [hw1]; exact BX7.new _ _ _
  refine vw (.pointer (some ⟨w.heap.size, 0, none⟩)) w1 (want_none rfl) (ex_box8 rfl (ev s0 rfl) (by rw [hw1]; exact bxC7 _ _)) rfl hz (by decide) (fun Z1 zz kk s1x => ?_)
  clear kk hz s0 hw1
  have hz := zz
  have s1 := s1x
  clear zz s1x
  have hB := hb
  clear hb
  have hv0 : Below w1.heap.size w1 w1 := Below.refl _ _
  refine vt (.int .i64 0) (ex_assign rfl rfl) hz (fun Ya zz kk s2 => ?_)
  replace s1 := ku s1
  replace hz := zz
  clear kk zz
  clear s2
  refine wpList_nil ?_
  go_upto_region 1 with fail
  refine wp_region_lit ?_
  refine vt (c.val) (ex_ld rfl (ev s1 rfl) (CB7.ld (HC.bel hv0))) hz (fun Yb zz kk s3 => ?_)
  replace s1 := ku s1
  replace hz := zz
  clear kk zz
  refine vcall true (.int .i64 c.er) (want_none rfl) (fun hc => ex_call rfl (by simp only [List.map_toArray, List.map_cons, List.map_nil, (ev s3 rfl), evc] <;> rfl) rfl) (fun hc => rcheckconfig9 c w1) rfl hz (by decide) (fun Yc x1 hb zz kk s4 => ?_)
  have hx1 := hv0.trans (hb.mono hv0.size)
  clear hb
  replace s1 := ku s1
  replace hz := zz
  clear kk zz s3 Yb
  refine vt (.bool (!decide (c.er = 0))) (ex_bin rfl (ev s4 rfl) rfl (neqC _ _ _ _ _)) hz (fun Yd zz kk s5 => ?_)
  replace s1 := ku s1
  replace hz := zz
  clear kk zz s4 Yc
  refine wpList_nil ?_
  go_upto_region 2 with fail
  cases eo : c.okB
  · refine wp_cond_true ((ev s5 rfl).trans (by unfold Cg.er; rw [eo]; rfl)) ?_
    go_upto_region 2 with fail
    refine wp_region_lit ?_
    refine vt (.int .i64 0) (ex_assign rfl rfl) hz (fun Ye zz kk s2 => ?_)
    replace hz := zz
    clear kk zz s1
    refine wpList_nil ?_
    go_wp2
    refine bodyPost_ret (results_tmp rfl _ _ _) rfl ⟨?_, hB.trans (hx1.mono (by omega))⟩
    rw [getD_of s2]
    rw [show c.nd = 0 from by unfold Cg.nd; rw [eo]; rfl]
    rfl
  · refine wp_cond_false ((ev s5 rfl).trans (by unfold Cg.er; rw [eo]; rfl)) ?_
    obtain ⟨h1, h2, h3⟩ := Cg.nd_ok eo
    go_upto_region 3 with fail
    refine wp_region_lit ?_
    refine vt (.pointer (some ⟨w.heap.size, 0, none⟩)) (ex_fa rfl (ev s1 rfl) (faC0 _ _)) hz (fun Yf zz kk s6 => ?_)
    replace hz := zz
    clear kk zz s1
    refine vt (.int .i64 c.F) (ex_ld rfl (ev s6 rfl) (ldI8 (cell8 (HC.cell 0 _ rfl) hx1))) hz (fun Yg zz kk s7 => ?_)
    replace hz := zz
    clear kk zz s6 Yf
    refine vt (.int .i64 (2 * c.F)) (ex_bin rfl rfl (ev s7 rfl) (mulD8 _ _ 2 c.F (2 * c.F) (by rw [IntKind.wrap_i64]; omega) _)) hz (fun Yh zz kk s8 => ?_)
    replace hz := zz
    clear kk zz s7 Yg
    refine vt (.int .i64 (2 * c.F + 1)) (ex_bin rfl (ev s8 rfl) rfl (addD8 _ _ (2 * c.F) 1 (2 * c.F + 1) (by rw [IntKind.wrap_i64]; omega) _)) hz (fun Yi zz kk s9 => ?_)
    replace hz := zz
    clear kk zz s8 Yh
    refine vt _ (ex_assign rfl (ev s9 rfl)) hz (fun Yj zz kk s2 => ?_)
    replace hz := zz
    clear kk zz s9 Yi
    refine wpList_nil ?_
    go_wp2
    refine bodyPost_ret (results_tmp rfl _ _ _) rfl ⟨?_, hB.trans (hx1.mono (by omega))⟩
    rw [getD_of s2]
    rw [h1]
    rfl
set_option maxHeartbeats 1000000 in
theorem rprimary9 (c : Cg) (x : Int) (w : World)  : Calls Tryz.prog 23 #[c.val, .int .i64 x] w fun e w' => e = .returned (.int .i64 (c.pr x)) ∧ Below w.heap.size w w' := by
  go_enter Tryz.func23, Tryz.ntmps23
  go_upto_region 0 with fail
  refine wp_region_lit ?_
  refine vl_gen (fun T => T.size = 20 ∧ T[0]? = some (gw true (c.val)) ∧ T[1]? = some (gw true (.int .i64 x))) ⟨rfl, rfl, rfl⟩ (fun Z0 ⟨hz, s0, s1⟩ => ?_)
  obtain ⟨w1, hw1⟩ : ∃ y, y = w.alloc (.cells c.cs.toArray 23) := ⟨_, rfl⟩
  have hb : Below w.heap.size w w1 := by rw [hw1]; exact (Below.refl _ _).alloc (Nat.le_refl _) _
  have hs1 : w1.heap.size = w.heap.size + 1 := by rw [hw1]; simp
  have HC : CB7 w1 (w.heap.size) c := by rw [hw1]; exact BX7.new _ _ _
  refine vw (.pointer (some ⟨w.heap.size, 0, none⟩)) w1 (want_none rfl) (ex_box8 rfl (ev s0 rfl) (by rw [hw1]; exact bxC7 _ _)) rfl hz (by decide) (fun Z1 zz kk s2x => ?_)
  replace s1 := ku s1
  clear kk hz s0 hw1
  have hz := zz
  have s2 := s2x
  clear zz s2x
  have hB := hb
  clear hb
  have hv0 : Below w1.heap.size w1 w1 := Below.refl _ _
  refine vt (.int .i64 0) (ex_assign rfl rfl) hz (fun Ya zz kk s4 => ?_)
  replace s1 := ku s1
  replace s2 := ku s2
  replace hz := zz
  clear kk zz
  clear s4
  refine wpList_nil ?_
  go_upto_region 1 with fail
  refine wp_region_lit ?_
  refine vt (c.val) (ex_ld rfl (ev s2 rfl) (CB7.ld (HC.bel hv0))) hz (fun Yb zz kk s5 => ?_)
  replace s1 := ku s1
  replace s2 := ku s2
  replace hz := zz
  clear kk zz
  refine vcall true (.int .i64 c.er) (want_none rfl) (fun hc => ex_call rfl (by simp only [List.map_toArray, List.map_cons, List.map_nil, (ev s5 rfl), evc] <;> rfl) rfl) (fun hc => rcheckconfig9 c w1) rfl hz (by decide) (fun Yc x1 hb zz kk s6 => ?_)
  have hx1 := hv0.trans (hb.mono hv0.size)
  clear hb
  replace s1 := ku s1
  replace s2 := ku s2
  replace hz := zz
  clear kk zz s5 Yb
  refine vt (.bool (!decide (c.er = 0))) (ex_bin rfl (ev s6 rfl) rfl (neqC _ _ _ _ _)) hz (fun Yd zz kk s7 => ?_)
  replace s1 := ku s1
  replace s2 := ku s2
  replace hz := zz
  clear kk zz s6 Yc
  refine vt _ (ex_move rfl (ev s7 rfl)) hz (fun Ye zz kk s8 => ?_)
  replace s1 := ku s1
  replace s2 := ku s2
  replace hz := zz
  clear kk zz s7 Yd
  refine vl _ _ (want_g rfl rfl s8) (fun hc => ex_move rfl (ev s1 rfl)) rfl hz (by decide) (fun Yf zz kk s9 => ?_)
  replace s1 := ku s1
  replace s2 := ku s2
  replace s8 := ku s8
  replace hz := zz
  clear kk zz Ye
  refine vl _ (.bool (decide (x < 0))) (want_g rfl rfl s8) (fun hc => ex_bin rfl (ev s9 hc) rfl (lssC _ _ _ _ _)) rfl hz (by decide) (fun Yg zz kk s10 => ?_)
  replace s1 := ku s1
  replace s2 := ku s2
  replace s8 := ku s8
  replace hz := zz
  clear kk zz s9 Yf
  refine vt (.bool ((!decide (c.er = 0)) || (decide (x < 0)))) (ex_or rfl s8 s10 rfl) hz (fun Yh zz kk s11 => ?_)
  replace s1 := ku s1
  replace s2 := ku s2
  replace hz := zz
  clear kk zz s8 s10 Yg
  refine vt _ (ex_move rfl (ev s11 rfl)) hz (fun Yi zz kk s12 => ?_)
  replace s1 := ku s1
  replace s2 := ku s2
  replace hz := zz
  clear kk zz s11 Yh
  refine vl _ _ (want_g rfl rfl s12) (fun hc => ex_move rfl (ev s1 rfl)) rfl hz (by decide) (fun Yj zz kk s13 => ?_)
  replace s1 := ku s1
  replace s2 := ku s2
  replace s12 := ku s12
  replace hz := zz
  clear kk zz Yi
  refine vl _ (.bool (decide (4294967296 < x))) (want_g rfl rfl s12) (fun hc => ex_bin rfl (ev s13 hc) rfl (gtrC _ _ _ _ _)) rfl hz (by decide) (fun Yk zz kk s14 => ?_)
  replace s1 := ku s1
  replace s2 := ku s2
  replace s12 := ku s12
  replace hz := zz
  clear kk zz s13 Yj
  refine vt (.bool (((!decide (c.er = 0)) || (decide (x < 0))) || (decide (4294967296 < x)))) (ex_or rfl s12 s14 rfl) hz (fun Yl zz kk s15 => ?_)
  replace s1 := ku s1
  replace s2 := ku s2
  replace hz := zz
  clear kk zz s12 s14 Yk
  refine wpList_nil ?_
  have ee : ((((!decide (c.er = 0)) || (decide (x < 0))) || (decide (4294967296 < x)))) = !(c.okB && inB x 0 4294967296) := by unfold Cg.er inB; cases c.okB <;> simp <;> by_cases h1 : x < 0 <;> by_cases h2 : 4294967296 < x <;> simp [h1, h2] <;> omega
  go_upto_region 2 with fail
  cases eo : (c.okB && inB x 0 4294967296)
  · refine wp_cond_true ((ev s15 rfl).trans (by rw [ee, eo]; rfl)) ?_
    go_upto_region 2 with fail
    refine wp_region_lit ?_
    refine vt (.int IntKind.i64 (-1)) (ex_assign rfl rfl) hz (fun Ym zz kk s4 => ?_)
    replace hz := zz
    clear kk zz s1 s2
    refine wpList_nil ?_
    go_wp2
    refine bodyPost_ret (results_tmp rfl _ _ _) rfl ⟨?_, hB.trans (hx1.mono (by omega))⟩
    rw [getD_of s4]
    rw [show c.pr x = -1 from by unfold Cg.pr; rw [eo]; rfl]
    rfl
  · refine wp_cond_false ((ev s15 rfl).trans (by rw [ee, eo]; rfl)) ?_
    have eo2 : c.okB = true ∧ inB x 0 4294967296 = true := by simpa using eo
    obtain ⟨h1, h2, h3⟩ := Cg.nd_ok eo2.1
    have h4 := inB_iff.1 eo2.2
    have h5 : 0 < c.nd := by omega
    go_upto_region 3 with fail
    refine wp_region_lit ?_
    refine vt _ (ex_move rfl (ev s1 rfl)) hz (fun Yn zz kk s16 => ?_)
    replace s2 := ku s2
    replace hz := zz
    clear kk zz s1
    refine vt (c.val) (ex_ld rfl (ev s2 rfl) (CB7.ld (HC.bel hx1))) hz (fun Yo zz kk s17 => ?_)
    replace s16 := ku s16
    replace hz := zz
    clear kk zz s2 Yn
    refine vcall true (.int .i64 c.nd) (want_none rfl) (fun hc => ex_call rfl (by simp only [List.map_toArray, List.map_cons, List.map_nil, (ev s17 rfl), evc] <;> rfl) rfl) (fun hc => rnodes9 c x1) rfl hz (by decide) (fun Yp x2 hb zz kk s18 => ?_)
    have hx2 := hx1.trans (hb.mono hx1.size)
    clear hb
    replace s16 := ku s16
    replace hz := zz
    clear kk zz s17 Yo
    refine vt (.int .i64 (x % c.nd)) (ex_bin rfl (ev s16 rfl) (ev s18 rfl) (remD8 _ _ x c.nd h4.1 h5 (by omega) _)) hz (fun Yq zz kk s19 => ?_)
    replace hz := zz
    clear kk zz s16 s18 Yp
    refine vt _ (ex_assign rfl (ev s19 rfl)) hz (fun Yr zz kk s4 => ?_)
    replace hz := zz
    clear kk zz s19 Yq
    refine wpList_nil ?_
    go_wp2
    refine bodyPost_ret (results_tmp rfl _ _ _) rfl ⟨?_, hB.trans (hx2.mono (by omega))⟩
    rw [getD_of s4]
    rw [show c.pr x = x % c.nd from by unfold Cg.pr; rw [eo]; rfl]
    rfl
end Go.Proofs.YtkfkkajeoocbbaaGreatDoor
