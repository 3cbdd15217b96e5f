import Derived.Test.YtcchnaldanibgaaVs
import Derived.Test.YtcchnaldanibgaaVo
namespace Go.Proofs.Ytcchnaldanibgaa
open Go.RowKit
set_option linter.unusedVariables false
set_option linter.unusedSimpArgs false

def newE (n : Int) : Int := if 1 ≤ n ∧ n ≤ 7 then 0 else 3
def newD (n : Int) : List (Int × Int) := if 1 ≤ n ∧ n ≤ 7 then List.replicate n.toNat (0, 0) else []
def setE (D : List (Int × Int)) (k : Int) : Int := if 1 ≤ D.length ∧ D.length ≤ 7 then (if 0 ≤ k ∧ k < D.length then 0 else 3) else 30
def setD (D : List (Int × Int)) (k : Int) (d : Int × Int) : List (Int × Int) := if 1 ≤ D.length ∧ D.length ≤ 7 then (if 0 ≤ k ∧ k < D.length then D.set k.toNat d else []) else []
def chkE (n : Nat) (k : Int) : Int := if 1 ≤ k ∧ k ≤ 7 then (if (n : Int) = k then 0 else 30) else 3

set_option maxRecDepth 100000 in
theorem new_any (n : Int) (w : World) :
    Calls Try.prog 11 #[.int .i64 n] w fun e w' => ∃ a m c, e = .returned (.tuple #[.slice a m c, .int .i64 (newE n)]) ∧ SlN w' a m c (newD n) ∧ Below w.heap.size w w' := by
  have H := hide (group_any n w)
  by_cases h : 1 ≤ n ∧ n ≤ 7
  · obtain ⟨k, rfl⟩ : ∃ k : Nat, n = (k : Int) := ⟨n.toNat, by omega⟩
    have e1 : newE (k : Int) = 0 := by unfold newE; rw [if_pos h]
    have e2 : newD (k : Int) = List.replicate k (0, 0) := by unfold newD; rw [if_pos h, Int.toNat_natCast]
    rw [e1, e2]
    rw [decide_eq_true h] at H
    have hk : k ≤ 7 := by omega
    clear e1 e2 h
    go_enter Try.func11, Try.ntmps11
    go_wp2_with fail
    refine H.out.mono ?_
    rintro e w1 ⟨rfl, e1⟩
    have e1 := e1.symm
    subst e1
    go_wp2_with (at_make; go_must (refine make_draws _ rfl (.tmp 7) rfl k rfl (by omega) ?_))
    intro w1 o1 b1
    have O1 := hide o1
    clear o1
    go_wp2
    go_ret2
    exact ⟨_, _, _, rfl, O1.out.sln, b1⟩
  · have e1 : newE n = 3 := by unfold newE; rw [if_neg h]
    have e2 : newD n = [] := by unfold newD; rw [if_neg h]
    rw [e1, e2]
    rw [decide_eq_false h] at H
    clear e1 e2 h
    go_enter Try.func11, Try.ntmps11
    go_wp2_with fail
    refine H.out.mono ?_
    rintro e w1 ⟨rfl, e1⟩
    have e1 := e1.symm
    subst e1
    go_wp2
    go_ret2
    exact ⟨_, _, _, rfl, SlN.nil _, Below.refl _ _⟩
set_option maxRecDepth 100000 in
theorem refnew_any (n : Int) (w : World) :
    Calls Try.prog 12 #[.int .i64 n] w fun e w' => ∃ a m c, e = .returned (.tuple #[.slice a m c, .int .i64 (newE n)]) ∧ SlN w' a m c (newD n) ∧ Below w.heap.size w w' := by
  by_cases h : 1 ≤ n ∧ n ≤ 7
  · obtain ⟨k, rfl⟩ : ∃ k : Nat, n = (k : Int) := ⟨n.toNat, by omega⟩
    have e1 : newE (k : Int) = 0 := by unfold newE; rw [if_pos h]
    have e2 : newD (k : Int) = List.replicate k (0, 0) := by unfold newD; rw [if_pos h, Int.toNat_natCast]
    rw [e1, e2]
    have hk : k ≤ 7 := by omega
    have h1 : ¬ (k : Int) < 1 := by omega
    have h2 : ¬ (7 : Int) < k := by omega
    clear e1 e2 h
    go_enter Try.func12, Try.ntmps12
    go_wp2_with (at_make; go_must (refine make_draws _ rfl (.tmp 10) rfl k rfl (by omega) ?_))
    intro w1 o1 b1
    have O1 := hide o1
    clear o1
    go_wp2
    go_ret2
    exact ⟨_, _, _, rfl, O1.out.sln, b1⟩
  · have e1 : newE n = 3 := by unfold newE; rw [if_neg h]
    have e2 : newD n = [] := by unfold newD; rw [if_neg h]
    rw [e1, e2]
    clear e1 e2
    by_cases h1 : n < 1
    · go_enter Try.func12, Try.ntmps12
      go_wp2
      go_ret2
      exact ⟨_, _, _, rfl, SlN.nil _, Below.refl _ _⟩
    · have h2 : 7 < n := by omega
      go_enter Try.func12, Try.ntmps12
      go_wp2
      go_ret2
      exact ⟨_, _, _, rfl, SlN.nil _, Below.refl _ _⟩
theorem refmay_any (a : Option Addr) (n c : Nat) (w : World) :
    Calls Try.prog 42 #[.slice a n c] w fun e w' => e = .returned (.bool (decide (1 ≤ n ∧ n ≤ 7))) ∧ w' = w := by
  by_cases h1 : 1 ≤ n
  · by_cases h2 : n ≤ 7
    · have f1 : (1 : Int) ≤ n := by omega
      have f2 : (n : Int) ≤ 7 := by omega
      go_enter Try.func42, Try.ntmps42
      go_wp2
      go_ret
      exact ⟨by simp [h1, h2], rfl⟩
    · have f1 : (1 : Int) ≤ n := by omega
      have f2 : ¬ (n : Int) ≤ 7 := by omega
      go_enter Try.func42, Try.ntmps42
      go_wp2
      go_ret
      exact ⟨by simp [h2], rfl⟩
  · have f1 : ¬ (1 : Int) ≤ n := by omega
    go_enter Try.func42, Try.ntmps42
    go_wp2
    go_ret
    exact ⟨by first | (simp; done) | (simp; omega), rfl⟩
theorem check_any (a : Option Addr) (n c : Nat) (k : Int) (w : World) :
    Calls Try.prog 17 #[.slice a n c, .int .i64 k] w fun e w' => e = .returned (.int .i64 (chkE n k)) ∧ w' = w := by
  have H := hide (group_any k w)
  by_cases h : 1 ≤ k ∧ k ≤ 7
  · rw [decide_eq_true h] at H
    by_cases h2 : (n : Int) = k
    · have e1 : chkE n k = 0 := by unfold chkE; rw [if_pos h, if_pos h2]
      rw [e1]
      clear e1
      subst h2
      clear h
      go_enter Try.func17, Try.ntmps17
      go_wp2_with fail
      refine H.out.mono ?_
      rintro e w1 ⟨rfl, e1⟩
      have e1 := e1.symm
      subst e1
      go_wp2
      go_ret
      exact ⟨rfl, rfl⟩
    · have e1 : chkE n k = 30 := by unfold chkE; rw [if_pos h, if_neg h2]
      rw [e1]
      have f1 : ((n : Int) == k) = false := by simp [h2]
      clear e1 h
      go_enter Try.func17, Try.ntmps17
      go_wp2_with fail
      refine H.out.mono ?_
      rintro e w1 ⟨rfl, e1⟩
      have e1 := e1.symm
      subst e1
      go_wp2
      go_ret
      exact ⟨rfl, rfl⟩
  · rw [decide_eq_false h] at H
    have e1 : chkE n k = 3 := by unfold chkE; rw [if_neg h]
    rw [e1]
    clear e1 h
    go_enter Try.func17, Try.ntmps17
    go_wp2_with fail
    refine H.out.mono ?_
    rintro e w1 ⟨rfl, e1⟩
    have e1 := e1.symm
    subst e1
    go_wp2
    go_ret
    exact ⟨rfl, rfl⟩
theorem refcheck_any (a : Option Addr) (n c : Nat) (k : Int) (w : World) :
    Calls Try.prog 18 #[.slice a n c, .int .i64 k] w fun e w' => e = .returned (.int .i64 (chkE n k)) ∧ w' = w := by
  by_cases h1 : k < 1
  · have e1 : chkE n k = 3 := by unfold chkE; rw [if_neg (by omega)]
    rw [e1]
    clear e1
    go_enter Try.func18, Try.ntmps18
    go_wp2
    go_ret
    exact ⟨rfl, rfl⟩
  · by_cases h2 : 7 < k
    · have e1 : chkE n k = 3 := by unfold chkE; rw [if_neg (by omega)]
      rw [e1]
      clear e1
      go_enter Try.func18, Try.ntmps18
      go_wp2
      go_ret
      exact ⟨rfl, rfl⟩
    · by_cases h3 : (n : Int) = k
      · have e1 : chkE n k = 0 := by unfold chkE; rw [if_pos (by omega), if_pos h3]
        rw [e1]
        clear e1
        subst h3
        go_enter Try.func18, Try.ntmps18
        go_wp2
        go_ret
        exact ⟨rfl, rfl⟩
      · have e1 : chkE n k = 30 := by unfold chkE; rw [if_pos (by omega), if_neg h3]
        rw [e1]
        have f1 : ((n : Int) == k) = false := by simp [h3]
        clear e1
        go_enter Try.func18, Try.ntmps18
        go_wp2
        go_ret
        exact ⟨rfl, rfl⟩
set_option maxRecDepth 100000 in
set_option maxHeartbeats 400000 in
theorem set_any (a : Option Addr) (n c : Nat) (D : List (Int × Int)) (k x y : Int) (w : World) (h : SlN w a n c D) :
    Calls Try.prog 13 #[.slice a n c, .int .i64 k, .agg #[.int .u64 x, .int .u64 y]] w fun e w' => ∃ a' m c', e = .returned (.tuple #[.slice a' m c', .int .i64 (setE D k)]) ∧ SlN w' a' m c' (setD D k (x, y)) ∧ Below w.heap.size w w' := by
  have HL := hide h.1
  have HS := hide h
  clear h
  have HM := hide (fun w => maybe_any a n c w)
  have HP := hide (fun w => place_any a n c k w)
  by_cases h1 : 1 ≤ n ∧ n ≤ 7
  · rw [decide_eq_true h1] at HM
    by_cases h2 : 0 ≤ k ∧ k < n
    · rw [decide_eq_true h2] at HP
      obtain ⟨j, rfl⟩ : ∃ j : Nat, k = (j : Int) := ⟨k.toNat, by omega⟩
      have e1 : setE D (j : Int) = 0 := by unfold setE; rw [HL.out, if_pos h1, if_pos h2]
      have e2 : setD D (j : Int) (x, y) = D.set j (x, y) := by unfold setD; rw [HL.out, if_pos h1, if_pos h2, Int.toNat_natCast]
      rw [e1, e2]
      have hj : j < n := by omega
      have hn7 : n ≤ 7 := h1.2
      have hne : D ≠ [] := by
        rintro rfl
        have := HL.out
        simp at this
        omega
      have HC : Hid (∀ ob, Calls Try.prog 41 #[.slice a n c] (w.alloc ob) fun e w' => ∃ g, e = .returned (.slice (some ⟨g, 0, none⟩) n n) ∧ OwnD (w.alloc ob).heap.size w' (.slice (some ⟨g, 0, none⟩) n n) D ∧ Below (w.alloc ob).heap.size (w.alloc ob) w') := fun ob => by
        have hh := HS.out.bel ((Below.refl _ _).alloc (Nat.le_refl _) ob)
        have := copied_any D a c (w.alloc ob) hh.2 hne (by rw [HL.out]; omega)
        rw [HL.out] at this
        exact this
      clear e1 e2 h1 h2 hne
      go_enter Try.func13, Try.ntmps13
      go_wp2_with fail
      refine (HM.out _).mono ?_
      rintro e w1 ⟨rfl, e1⟩
      subst e1
      go_wp2_with fail
      refine (HP.out _).mono ?_
      rintro e w1 ⟨rfl, e1⟩
      subst e1
      go_wp2_with fail
      refine (HC.out _).mono ?_
      rintro e w2 ⟨g, rfl, o2, bb⟩
      have z0 : w2.cell? ⟨w.heap.size, 0, none⟩ = some (.int .u64 x) := (bb.cell (p := ⟨w.heap.size, 0, none⟩) (by simp)).trans (by simp)
      have z1 : w2.cell? ⟨w.heap.size, 1, none⟩ = some (.int .u64 y) := (bb.cell (p := ⟨w.heap.size, 1, none⟩) (by simp)).trans (by simp)
      have b2 : Below w.heap.size w w2 := ((Below.refl _ _).alloc (Nat.le_refl _) _).trans (bb.mono (by simp))
      obtain ⟨q0, q1⟩ := o2.cell j _ (some_at2 (by rw [HL.out]; exact hj))
      have f0 := o2.free (j * 2)
      have f1 := o2.free (j * 2 + 1)
      have O2 := hide o2
      have hgB : w.heap.size ≤ g := by
        have := (o2.blk g rfl).1
        simp at this
        omega
      clear o2 bb HC HM HP
      go_wp2
      go_ret2
      exact ⟨_, _, _, rfl, (O2.out.set j x y).sln, (b2.setCell hgB _).setCell hgB _⟩
    · rw [decide_eq_false h2] at HP
      have e1 : setE D k = 3 := by unfold setE; rw [HL.out, if_pos h1, if_neg h2]
      have e2 : setD D k (x, y) = [] := by unfold setD; rw [HL.out, if_pos h1, if_neg h2]
      rw [e1, e2]
      clear e1 e2 h1 h2
      go_enter Try.func13, Try.ntmps13
      go_wp2_with fail
      refine (HM.out _).mono ?_
      rintro e w1 ⟨rfl, e1⟩
      subst e1
      go_wp2_with fail
      refine (HP.out _).mono ?_
      rintro e w1 ⟨rfl, e1⟩
      subst e1
      go_wp2
      go_ret2
      exact ⟨_, _, _, rfl, SlN.nil _, (Below.refl _ _).alloc (Nat.le_refl _) _⟩
  · rw [decide_eq_false h1] at HM
    have e1 : setE D k = 30 := by unfold setE; rw [HL.out, if_neg h1]
    have e2 : setD D k (x, y) = [] := by unfold setD; rw [HL.out, if_neg h1]
    rw [e1, e2]
    clear e1 e2 h1
    go_enter Try.func13, Try.ntmps13
    go_wp2_with fail
    refine (HM.out _).mono ?_
    rintro e w1 ⟨rfl, e1⟩
    subst e1
    go_wp2
    go_ret2
    exact ⟨_, _, _, rfl, SlN.nil _, (Below.refl _ _).alloc (Nat.le_refl _) _⟩
set_option maxRecDepth 100000 in
set_option maxHeartbeats 400000 in
theorem refset_any (a : Option Addr) (n c : Nat) (D : List (Int × Int)) (k x y : Int) (w : World) (h : SlN w a n c D) :
    Calls Try.prog 14 #[.slice a n c, .int .i64 k, .agg #[.int .u64 x, .int .u64 y]] w fun e w' => ∃ a' m c', e = .returned (.tuple #[.slice a' m c', .int .i64 (setE D k)]) ∧ SlN w' a' m c' (setD D k (x, y)) ∧ Below w.heap.size w w' := by
  have HL := hide h.1
  have HS := hide h
  clear h
  have HM := hide (fun w => refmay_any a n c w)
  by_cases h1 : 1 ≤ n ∧ n ≤ 7
  · rw [decide_eq_true h1] at HM
    by_cases h2 : 0 ≤ k ∧ k < n
    · obtain ⟨j, rfl⟩ : ∃ j : Nat, k = (j : Int) := ⟨k.toNat, by omega⟩
      have e1 : setE D (j : Int) = 0 := by unfold setE; rw [HL.out, if_pos h1, if_pos h2]
      have e2 : setD D (j : Int) (x, y) = D.set j (x, y) := by unfold setD; rw [HL.out, if_pos h1, if_pos h2, Int.toNat_natCast]
      rw [e1, e2]
      have hj : j < n := by omega
      have hn7 : n ≤ 7 := h1.2
      have hne : D ≠ [] := by
        rintro rfl
        have := HL.out
        simp at this
        omega
      have HA : Hid (SlN (w.alloc (.cells #[.int .u64 x, .int .u64 y] 26)) a n c D) := HS.out.bel ((Below.refl _ _).alloc (Nat.le_refl _) _)
      clear e1 e2 h1 h2
      go_enter Try.func14, Try.ntmps14
      go_wp2_with fail
      refine (HM.out _).mono ?_
      rintro e w1 ⟨rfl, e1⟩
      subst e1
      clear HM
      go_wp2_with (at_builtin; go_must (refine app_sl _ rfl (.tmp 20) (.tmp 21) rfl w.heap.size [] _ rfl a n c rfl D HA.out (OwnD.nil _ _) (by simp) (by simp; omega) ?_))
      intro v2 w2 o2 g2
      have b2 : Below w.heap.size w w2 := ((Below.refl _ _).alloc (Nat.le_refl _) _).grown g2 (by simp) (fun k hk => by cases hk)
      have z0 : w2.cell? ⟨w.heap.size, 0, none⟩ = some (.int .u64 x) := grown_cell g2 (by simp) (fun e => by cases e)
      have z1 : w2.cell? ⟨w.heap.size, 1, none⟩ = some (.int .u64 y) := grown_cell g2 (by simp) (fun e => by cases e)
      try rw [List.nil_append] at o2
      obtain ⟨a5, c5, hv, k1, k2, k3, k4⟩ := o2.form
      obtain ⟨g, rfl⟩ : ∃ g, a5 = some ⟨g, 0, none⟩ := by
        cases a5 with
        | none => exact absurd (k3 rfl).1 hne
        | some z => obtain ⟨g, rfl, _⟩ := k4 z rfl; exact ⟨g, rfl⟩
      rw [HL.out] at hv k1
      subst hv
      obtain ⟨q0, q1⟩ := o2.cell j _ (some_at2 (by rw [HL.out]; exact hj))
      have f0 := o2.free (j * 2)
      have f1 := o2.free (j * 2 + 1)
      have O2 := hide o2
      have hgB : w.heap.size ≤ g := (o2.blk g rfl).1
      unfold maxLen at k2
      clear o2 g2 k3 k4 HA HS hne
      go_wp2
      go_ret2
      exact ⟨_, _, _, rfl, (O2.out.set j x y).sln, (b2.setCell hgB _).setCell hgB _⟩
    · have e1 : setE D k = 3 := by unfold setE; rw [HL.out, if_pos h1, if_neg h2]
      have e2 : setD D k (x, y) = [] := by unfold setD; rw [HL.out, if_pos h1, if_neg h2]
      rw [e1, e2]
      clear e1 e2 h1
      by_cases h3 : k < 0
      · go_enter Try.func14, Try.ntmps14
        go_wp2_with fail
        refine (HM.out _).mono ?_
        rintro e w1 ⟨rfl, e1⟩
        subst e1
        go_wp2
        go_ret2
        exact ⟨_, _, _, rfl, SlN.nil _, (Below.refl _ _).alloc (Nat.le_refl _) _⟩
      · have h4 : (n : Int) ≤ k := by omega
        go_enter Try.func14, Try.ntmps14
        go_wp2_with fail
        refine (HM.out _).mono ?_
        rintro e w1 ⟨rfl, e1⟩
        subst e1
        go_wp2
        go_ret2
        exact ⟨_, _, _, rfl, SlN.nil _, (Below.refl _ _).alloc (Nat.le_refl _) _⟩
  · rw [decide_eq_false h1] at HM
    have e1 : setE D k = 30 := by unfold setE; rw [HL.out, if_neg h1]
    have e2 : setD D k (x, y) = [] := by unfold setD; rw [HL.out, if_neg h1]
    rw [e1, e2]
    clear e1 e2 h1
    go_enter Try.func14, Try.ntmps14
    go_wp2_with fail
    refine (HM.out _).mono ?_
    rintro e w1 ⟨rfl, e1⟩
    subst e1
    go_wp2
    go_ret2
    exact ⟨_, _, _, rfl, SlN.nil _, (Below.refl _ _).alloc (Nat.le_refl _) _⟩

end Go.Proofs.Ytcchnaldanibgaa
