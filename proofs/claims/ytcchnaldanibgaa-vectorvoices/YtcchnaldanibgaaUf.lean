import Derived.Test.YtcchnaldanibgaaUc
import Derived.Test.YtcchnaldanibgaaVw
namespace Go.Proofs.Ytcchnaldanibgaa
open Go.RowKit
set_option linter.unusedVariables false
set_option linter.unusedSimpArgs false

set_option maxHeartbeats 400000 in
theorem refmayv_any (a : Option Addr) (n c : Nat) (node : Int) (w : World) :
    Calls Try.prog 54 #[.agg #[.int .i64 node, .slice a n c]] w fun e w' => e = .returned (.bool (decide (mayv node n))) ∧ Below w.heap.size w w' := by
  have H := hide (fun w => refmay_any a n c w)
  by_cases h1 : 1 ≤ n ∧ n ≤ 7
  · rw [decide_eq_true h1] at H
    by_cases h2 : 0 ≤ node
    · have hr : decide (mayv node n) = decide (node < n) := by unfold mayv; simp [h1, h2]
      rw [hr]
      clear hr h1
      go_enter Try.func54, Try.ntmps54
      go_wp2_with fail
      refine (H.out _).mono ?_
      rintro e w1 ⟨rfl, e1⟩
      subst e1
      go_wp2
      go_ret
      exact ⟨rfl, (Below.refl _ _).alloc (Nat.le_refl _) _⟩
    · have hr : decide (mayv node n) = false := decide_eq_false (fun h => h2 h.2.1)
      rw [hr]
      clear hr h1
      go_enter Try.func54, Try.ntmps54
      go_wp2_with fail
      refine (H.out _).mono ?_
      rintro e w1 ⟨rfl, e1⟩
      subst e1
      go_wp2
      go_ret
      exact ⟨rfl, (Below.refl _ _).alloc (Nat.le_refl _) _⟩
  · have hr : decide (mayv node n) = false := decide_eq_false (fun h => h1 h.1)
    rw [hr]
    rw [decide_eq_false h1] at H
    clear hr h1
    go_enter Try.func54, Try.ntmps54
    go_wp2_with fail
    refine (H.out _).mono ?_
    rintro e w1 ⟨rfl, e1⟩
    subst e1
    go_wp2
    go_ret
    exact ⟨rfl, (Below.refl _ _).alloc (Nat.le_refl _) _⟩
set_option maxRecDepth 100000 in
set_option maxHeartbeats 1000000 in
theorem refover_any (V D : List (Int × Int)) (a1 a2 : Option Addr) (c1 c2 : Nat) (node : Int) (w : World) (h1 : Sl w (.slice a1 V.length c1) V a1 c1) (h2 : Sl w (.slice a2 D.length c2) D a2 c2) :
    Calls Try.prog 31 #[.slice a1 V.length c1, .agg #[.int .i64 node, .slice a2 D.length c2]] w fun e w' => e = .returned (.bool (decide (mayv node D.length ∧ V.length = D.length) && ov V D node.toNat)) ∧ Below w.heap.size w w' := by
  have HM := hide (fun w => refmay_any a1 V.length c1 w)
  have HV := hide (fun w => refmayv_any a2 D.length c2 node w)
  by_cases hv : 1 ≤ V.length ∧ V.length ≤ 7
  · rw [decide_eq_true hv] at HM
    by_cases hm : mayv node D.length
    · rw [decide_eq_true hm] at HV
      by_cases hl : V.length = D.length
      · obtain ⟨k, rfl⟩ : ∃ k : Nat, node = (k : Int) := ⟨node.toNat, by have := hm.2.1; omega⟩
        have hr : decide (mayv (k : Int) D.length ∧ V.length = D.length) = true := decide_eq_true ⟨hm, hl⟩
        rw [hr, Bool.true_and, Int.toNat_natCast]
        have hk : k < D.length := by have := hm.2.2; omega
        have m1 := h1.max
        have k1 := h1.cap
        have k2 := h2.cap
        unfold maxLen at m1
        have m2 := h2.max
        unfold maxLen at m2
        obtain ⟨q1, o1, rfl, b1, l1⟩ := h1.place (by rintro rfl; simp at hl; omega)
        obtain ⟨q2, o2, rfl, b2, l2⟩ := h2.place (by rintro rfl; simp at hk)
        have hd1 := some_at2 (A := V) (k := k) (by omega)
        have hd2 := some_at2 (A := D) (k := k) hk
        have hov : ov V D k = decide (cm (at2 D k) (at2 V k) < 0) := by unfold ov; rw [decide_eq_decide]; rw [cm_swap]
        rw [hov]
        unfold cm
        generalize at2 V k = d1 at *
        generalize at2 D k = d2 at *
        obtain ⟨x, y⟩ := d1
        obtain ⟨x', y'⟩ := d2
        obtain ⟨e0, e1⟩ := l1 k _ hd1
        obtain ⟨e2, e3⟩ := l2 k _ hd2
        simp only at e0 e1 e2 e3
        rw [hl] at k1 HM ⊢
        clear h1 h2 l1 l2 hd1 hd2 hl hr hm hv hov
        generalize D.length = n at *
        have KS : ∀ v, Below (w.heap.size + 1) (w.alloc (.cells #[.int .i64 (k : Int), .slice (some ⟨q2, o2, none⟩) n c2] 56)) v → (Below (w.heap.size + 1) (w.alloc (.cells #[.int .i64 (k : Int), .slice (some ⟨q2, o2, none⟩) n c2] 56)) v ∧ v.cell? ⟨w.heap.size, 0, none⟩ = some (.int .i64 (k : Int)) ∧ v.cell? ⟨w.heap.size, 1, none⟩ = some (.slice (some ⟨q2, o2, none⟩) n c2)
            ∧ v.cell? ⟨q1, o1 + k * 2, none⟩ = some (.int .u64 x) ∧ v.cell? ⟨q1, o1 + k * 2 + 1, none⟩ = some (.int .u64 y) ∧ v.cell? ⟨q2, o2 + k * 2, none⟩ = some (.int .u64 x') ∧ v.cell? ⟨q2, o2 + k * 2 + 1, none⟩ = some (.int .u64 y')) := fun v b =>
          ⟨b, (b.cell (p := ⟨w.heap.size, 0, none⟩) (Nat.lt_succ_self _)).trans (by simp), (b.cell (p := ⟨w.heap.size, 1, none⟩) (Nat.lt_succ_self _)).trans (by simp),
           (b.cell (p := ⟨q1, o1 + k * 2, none⟩) (by show q1 < w.heap.size + 1; omega)).trans ((World.cell?_alloc_past _ _ _ (by show q1 < w.heap.size; omega)).trans e0), (b.cell (p := ⟨q1, o1 + k * 2 + 1, none⟩) (by show q1 < w.heap.size + 1; omega)).trans ((World.cell?_alloc_past _ _ _ (by show q1 < w.heap.size; omega)).trans e1),
           (b.cell (p := ⟨q2, o2 + k * 2, none⟩) (by show q2 < w.heap.size + 1; omega)).trans ((World.cell?_alloc_past _ _ _ (by show q2 < w.heap.size; omega)).trans e2), (b.cell (p := ⟨q2, o2 + k * 2 + 1, none⟩) (by show q2 < w.heap.size + 1; omega)).trans ((World.cell?_alloc_past _ _ _ (by show q2 < w.heap.size; omega)).trans e3)⟩
        have KH := hide KS
        clear KS
        go_enter Try.func31, Try.ntmps31
        go_wp2_with fail
        refine (HM.out _).mono ?_
        rintro e w1 ⟨rfl, e1⟩
        subst e1
        go_wp2_with fail
        refine (HV.out _).mono ?_
        rintro e w1 ⟨rfl, bx⟩
        have bx' : Below (w.heap.size + 1) (w.alloc (.cells #[.int .i64 (k : Int), .slice (some ⟨q2, o2, none⟩) n c2] 56)) w1 := bx.mono (by simp)
        obtain ⟨_, z0, z1, _⟩ := KH.out w1 bx'
        clear bx
        go_wp2_with fail
        go_region_held3 (fun v => Below (w.heap.size + 1) (w.alloc (.cells #[.int .i64 (k : Int), .slice (some ⟨q2, o2, none⟩) n c2] 56)) v ∧ v.cell? ⟨w.heap.size, 0, none⟩ = some (.int .i64 (k : Int)) ∧ v.cell? ⟨w.heap.size, 1, none⟩ = some (.slice (some ⟨q2, o2, none⟩) n c2)
            ∧ v.cell? ⟨q1, o1 + k * 2, none⟩ = some (.int .u64 x) ∧ v.cell? ⟨q1, o1 + k * 2 + 1, none⟩ = some (.int .u64 y) ∧ v.cell? ⟨q2, o2 + k * 2, none⟩ = some (.int .u64 x') ∧ v.cell? ⟨q2, o2 + k * 2 + 1, none⟩ = some (.int .u64 y'))
          (first | exact KH.out _ bx'.drew | exact KH.out _ (by assumption))
          (first
            | (go_at_call 47; refine (refbelow_any _ _ _ _ _).mono ?_; rintro e v ⟨rfl, bv⟩; have bb := Below.on (w := w.alloc (.cells #[.int .i64 (k : Int), .slice (some ⟨q2, o2, none⟩) n c2] 56)) (B := w.heap.size + 1) (by simp) (by first | assumption | exact bx'.drew) bv))
        have hw : Below w.heap.size w v := ((Below.refl _ _).alloc (Nat.le_refl _) _).trans (bb.mono (by omega))
        clear KH bv bb
        go_wp2
        go_ret
        exact ⟨rfl, hw⟩
      · have hr : decide (mayv node D.length ∧ V.length = D.length) = false := decide_eq_false (fun h => hl h.2)
        rw [hr, Bool.false_and]
        have f1 : ((V.length : Int) == (D.length : Int)) = false := by simp; omega
        have f2 : ((V.length : Int) != (D.length : Int)) = true := by simp; omega
        clear hr h1 h2 hm hv
        generalize V.length = m at *
        generalize D.length = n at *
        go_enter Try.func31, Try.ntmps31
        go_wp2_with fail
        refine (HM.out _).mono ?_
        rintro e w1 ⟨rfl, e1⟩
        subst e1
        go_wp2_with fail
        refine (HV.out _).mono ?_
        rintro e w1 ⟨rfl, bx⟩
        have b1 : Below w.heap.size w w1 := ((Below.refl _ _).alloc (Nat.le_refl _) _).trans (bx.mono (by simp))
        have z1 : w1.cell? ⟨w.heap.size, 1, none⟩ = some (.slice a2 n c2) := (bx.cell (p := ⟨w.heap.size, 1, none⟩) (by simp)).trans (by simp)
        clear bx
        go_wp2
        go_ret
        exact ⟨rfl, b1⟩
    · have hr : decide (mayv node D.length ∧ V.length = D.length) = false := decide_eq_false (fun h => hm h.1)
      rw [hr, Bool.false_and]
      rw [decide_eq_false hm] at HV
      clear hr h1 h2 hm hv
      generalize V.length = m at *
      generalize D.length = n at *
      go_enter Try.func31, Try.ntmps31
      go_wp2_with fail
      refine (HM.out _).mono ?_
      rintro e w1 ⟨rfl, e1⟩
      subst e1
      go_wp2_with fail
      refine (HV.out _).mono ?_
      rintro e w1 ⟨rfl, bx⟩
      have b1 : Below w.heap.size w w1 := ((Below.refl _ _).alloc (Nat.le_refl _) _).trans (bx.mono (by simp))
      clear bx
      go_wp2
      go_ret
      exact ⟨rfl, b1⟩
  · have hr : decide (mayv node D.length ∧ V.length = D.length) = false := decide_eq_false (fun h => hv (by rw [h.2]; exact h.1.1))
    rw [hr, Bool.false_and]
    rw [decide_eq_false hv] at HM
    clear hr h1 h2 hv
    generalize V.length = m at *
    generalize D.length = n at *
    go_enter Try.func31, Try.ntmps31
    go_wp2_with fail
    refine (HM.out _).mono ?_
    rintro e w1 ⟨rfl, e1⟩
    subst e1
    go_wp2
    go_ret
    exact ⟨rfl, (Below.refl _ _).alloc (Nat.le_refl _) _⟩

end Go.Proofs.Ytcchnaldanibgaa
