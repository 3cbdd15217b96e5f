import Derived.Test.YtcchnaldanibgaaVt
namespace Go.Proofs.Ytcchnaldanibgaa
open Go.RowKit
set_option linter.unusedVariables false
set_option linter.unusedSimpArgs false

theorem refbelow_any (x y x' y' : Int) (w : World) :
    Calls Try.prog 47 #[.agg #[.int .u64 x, .int .u64 y], .agg #[.int .u64 x', .int .u64 y']] w fun e w' => e = .returned (.bool (decide (cmpD x y x' y' < 0))) ∧ Below w.heap.size w w' := by
  go_enter Try.func47, Try.ntmps47
  go_wp2_with fail
  refine (refcompare_any x y x' y' _).mono ?_
  rintro e w1 ⟨rfl, b1⟩
  have b2 : Below w.heap.size w w1 := (((Below.refl _ _).alloc (Nat.le_refl _) _).alloc (by simp) _).trans (b1.mono (by simp; omega))
  go_wp2
  go_ret
  exact ⟨by simp, b2⟩

set_option maxRecDepth 100000 in
set_option maxHeartbeats 1000000 in
theorem refveccmp_any (A B : List (Int × Int)) (a1 a2 : Option Addr) (c1 c2 : Nat) (w : World) (h1 : Sl w (.slice a1 A.length c1) A a1 c1) (h2 : Sl w (.slice a2 B.length c2) B a2 c2) :
    Calls Try.prog 23 #[.slice a1 A.length c1, .slice a2 B.length c2] w fun e w' => e = .returned (.int .i64 (rel A B)) ∧ Below w.heap.size w w' := by
  have m1 := h1.max
  have k1 := h1.cap
  have k2 := h2.cap
  unfold maxLen at m1
  have m2 := h2.max
  unfold maxLen at m2
  by_cases hl : A.length = B.length
  · by_cases hA : A = []
    · subst hA
      obtain rfl : B = [] := List.eq_nil_of_length_eq_zero (by simpa using hl.symm)
      have hr : rel [] [] = 1 := by decide
      rw [hr]
      clear hr h1 h2
      go_enter Try.func23, Try.ntmps23
      go_wp2
      go_loopw [7, 5, 6] (fun i b a wr => i = .int .i64 0 ∧ b = .bool false ∧ a = .bool false ∧ wr = w) (fun _ _ _ _ => 0)
      case atStart => exact ⟨rfl, rfl, rfl, rfl⟩
      case round =>
        obtain ⟨rfl, rfl, rfl, rfl⟩ := hrel
        go_wp2
        go_ret
        exact ⟨rfl, Below.refl _ _⟩
    · have hB : B ≠ [] := by
        rintro rfl
        exact hA (List.eq_nil_of_length_eq_zero (by simpa using hl))
      obtain ⟨q1, o1, rfl, b1, l1⟩ := h1.place hA
      obtain ⟨q2, o2, rfl, b2, l2⟩ := h2.place hB
      have hr : rel A B = relOf (bel A B A.length) (bel B A A.length) := by unfold rel; rw [if_pos hl, abv_eq]
      rw [hr]
      have L1 := hide l1
      have L2 := hide l2
      have HB := hide hl
      rw [← hl] at k2 ⊢
      clear h1 h2 l1 l2 hr hl hA hB
      generalize hn : A.length = n at *
      have HN := hide hn
      clear hn
      go_enter Try.func23, Try.ntmps23
      go_wp2
      go_loopw [7, 5, 6] (fun i b a wr => ∃ (k : Nat), i = .int .i64 (k : Int) ∧ b = .bool (bel A B k) ∧ a = .bool (bel B A k) ∧ k ≤ n ∧ Below w.heap.size w wr) (fun i _ _ _ => n - (intOf i).toNat)
      case atStart => exact ⟨0, rfl, rfl, rfl, Nat.zero_le _, Below.refl _ _⟩
      case round =>
        obtain ⟨k, rfl, rfl, rfl, hk, hb⟩ := hrel
        by_cases hlt : k < n
        · have hd1 := some_at2 (A := A) (k := k) (by have := HN.out; omega)
          have hd2 := some_at2 (A := B) (k := k) (by have := HN.out; have := HB.out; omega)
          have ebs : bel A B (k + 1) = (bel A B k || decide (cm (at2 A k) (at2 B k) < 0)) := rfl
          have eas : bel B A (k + 1) = (bel B A k || decide (cm (at2 B k) (at2 A k) < 0)) := rfl
          have BS := hide ebs
          have AS := hide eas
          clear ebs eas
          unfold cm at BS AS
          generalize at2 A k = d1 at *
          generalize at2 B k = d2 at *
          obtain ⟨x, y⟩ := d1
          obtain ⟨x', y'⟩ := d2
          have KS : ∀ v, Below w.heap.size w v → (Below w.heap.size w v ∧ v.cell? ⟨q1, o1 + k * 2, none⟩ = some (.int .u64 x) ∧ v.cell? ⟨q1, o1 + k * 2 + 1, none⟩ = some (.int .u64 y) ∧ v.cell? ⟨q2, o2 + k * 2, none⟩ = some (.int .u64 x') ∧ v.cell? ⟨q2, o2 + k * 2 + 1, none⟩ = some (.int .u64 y')) := fun v b =>
            ⟨b, (L1.out.later b1 b b1 k _ hd1).1, (L1.out.later b1 b b1 k _ hd1).2, (L2.out.later b2 b b2 k _ hd2).1, (L2.out.later b2 b b2 k _ hd2).2⟩
          simp only at KS BS AS
          have KH := hide KS
          clear KS L1 L2 hd1 hd2
          have hsz := hb.size
          cases hbb : bel A B k <;> cases haa : bel B A k
          · go_wp2_with fail
            obtain ⟨_, e0, e1, e2, e3⟩ := KH.out wr hb
            go_region_held3 (fun v => Below w.heap.size w v ∧ v.cell? ⟨q1, o1 + k * 2, none⟩ = some (.int .u64 x) ∧ v.cell? ⟨q1, o1 + k * 2 + 1, none⟩ = some (.int .u64 y) ∧ v.cell? ⟨q2, o2 + k * 2, none⟩ = some (.int .u64 x') ∧ v.cell? ⟨q2, o2 + k * 2 + 1, none⟩ = some (.int .u64 y'))
              (first | exact KH.out _ hb.drew | exact KH.out _ (by assumption))
              (first
                | (go_at_call 47; refine (refbelow_any _ _ _ _ _).mono ?_; rintro e v ⟨rfl, bv⟩; have bb : Below w.heap.size w v := Below.on (Nat.le_refl _) (by first | assumption | exact hb.drew) bv; clear bv))
            obtain ⟨_, g0, g1, g2, g3⟩ := KH.out v bb
            clear e0 e1 e2 e3
            go_wp2_with fail
            go_region_held3 (fun v => Below w.heap.size w v ∧ v.cell? ⟨q1, o1 + k * 2, none⟩ = some (.int .u64 x) ∧ v.cell? ⟨q1, o1 + k * 2 + 1, none⟩ = some (.int .u64 y) ∧ v.cell? ⟨q2, o2 + k * 2, none⟩ = some (.int .u64 x') ∧ v.cell? ⟨q2, o2 + k * 2 + 1, none⟩ = some (.int .u64 y'))
              (first | exact KH.out _ bb.drew | exact KH.out _ (by assumption))
              (first
                | (go_at_call 47; refine (refbelow_any _ _ _ _ _).mono ?_; rintro e v2 ⟨rfl, bv⟩; have cc : Below w.heap.size w v2 := Below.on (Nat.le_refl _) (by first | assumption | exact bb.drew) bv; clear bv))
            clear KH
            go_wp2
            go_round
            case rel => exact ⟨k + 1, by go_num, by rw [BS.out, hbb]; simp, by rw [AS.out, haa]; simp, by omega, cc⟩
            case measure => simp [intOf]; omega
          · go_wp2_with fail
            obtain ⟨_, e0, e1, e2, e3⟩ := KH.out wr hb
            go_region_held3 (fun v => Below w.heap.size w v ∧ v.cell? ⟨q1, o1 + k * 2, none⟩ = some (.int .u64 x) ∧ v.cell? ⟨q1, o1 + k * 2 + 1, none⟩ = some (.int .u64 y) ∧ v.cell? ⟨q2, o2 + k * 2, none⟩ = some (.int .u64 x') ∧ v.cell? ⟨q2, o2 + k * 2 + 1, none⟩ = some (.int .u64 y'))
              (first | exact KH.out _ hb.drew | exact KH.out _ (by assumption))
              (first
                | (go_at_call 47; refine (refbelow_any _ _ _ _ _).mono ?_; rintro e v ⟨rfl, bv⟩; have bb : Below w.heap.size w v := Below.on (Nat.le_refl _) (by first | assumption | exact hb.drew) bv; clear bv))
            obtain ⟨_, g0, g1, g2, g3⟩ := KH.out v bb
            clear e0 e1 e2 e3
            go_wp2_with fail
            go_quiet (fail)
            have cc : Below w.heap.size w (v.drewN nq) := below_drewN bb nq
            clear KH
            go_wp2
            go_round
            case rel => exact ⟨k + 1, by go_num, by rw [BS.out, hbb]; simp, by rw [AS.out, haa]; simp, by omega, cc⟩
            case measure => simp [intOf]; omega
          · go_wp2_with fail
            obtain ⟨_, e0, e1, e2, e3⟩ := KH.out wr hb
            go_quiet (fail)
            have bb : Below w.heap.size w (wr.drewN nq) := below_drewN hb nq
            generalize wr.drewN nq = v at *
            obtain ⟨_, g0, g1, g2, g3⟩ := KH.out v bb
            clear e0 e1 e2 e3
            go_wp2_with fail
            go_region_held3 (fun v => Below w.heap.size w v ∧ v.cell? ⟨q1, o1 + k * 2, none⟩ = some (.int .u64 x) ∧ v.cell? ⟨q1, o1 + k * 2 + 1, none⟩ = some (.int .u64 y) ∧ v.cell? ⟨q2, o2 + k * 2, none⟩ = some (.int .u64 x') ∧ v.cell? ⟨q2, o2 + k * 2 + 1, none⟩ = some (.int .u64 y'))
              (first | exact KH.out _ bb.drew | exact KH.out _ (by assumption))
              (first
                | (go_at_call 47; refine (refbelow_any _ _ _ _ _).mono ?_; rintro e v2 ⟨rfl, bv⟩; have cc : Below w.heap.size w v2 := Below.on (Nat.le_refl _) (by first | assumption | exact bb.drew) bv; clear bv))
            clear KH
            go_wp2
            go_round
            case rel => exact ⟨k + 1, by go_num, by rw [BS.out, hbb]; simp, by rw [AS.out, haa]; simp, by omega, cc⟩
            case measure => simp [intOf]; omega
          · go_wp2_with fail
            obtain ⟨_, e0, e1, e2, e3⟩ := KH.out wr hb
            go_quiet (fail)
            have bb : Below w.heap.size w (wr.drewN nq) := below_drewN hb nq
            generalize wr.drewN nq = v at *
            obtain ⟨_, g0, g1, g2, g3⟩ := KH.out v bb
            clear e0 e1 e2 e3
            go_wp2_with fail
            go_quiet (fail)
            have cc : Below w.heap.size w (v.drewN nq) := below_drewN bb nq
            clear KH
            go_wp2
            go_round
            case rel => exact ⟨k + 1, by go_num, by rw [BS.out, hbb]; simp, by rw [AS.out, haa]; simp, by omega, cc⟩
            case measure => simp [intOf]; omega
        · obtain rfl : k = n := by omega
          cases hbb : bel A B k <;> cases haa : bel B A k <;> (go_wp2; go_ret; exact ⟨by simp only [hbb, haa]; rfl, hb⟩)
  · have hr : rel A B = 0 := by unfold rel; rw [if_neg hl]
    rw [hr]
    have f1 : ((A.length : Int) == (B.length : Int)) = false := by simp; omega
    clear hr h1 h2
    go_enter Try.func23, Try.ntmps23
    go_wp2
    go_ret
    exact ⟨rfl, Below.refl _ _⟩

end Go.Proofs.Ytcchnaldanibgaa
