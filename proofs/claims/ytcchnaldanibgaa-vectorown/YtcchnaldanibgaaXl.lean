import Derived.Test.YtcchnaldanibgaaXk
import Derived.Test.YtcchnaldanibgaaVt
import Derived.Test.YtcchnaldanibgaaVy
namespace Go.Proofs.Ytcchnaldanibgaa
open Go.RowKit
set_option linter.unusedVariables false
set_option linter.unusedSimpArgs false

set_option maxRecDepth 100000 in
theorem newO (n : Int) (w : World) :
    Calls Try.prog 11 #[.int .i64 n] w fun e w' => ∃ a m c, e = .returned (.tuple #[.slice a m c, .int .i64 (newE n)]) ∧ OwnD w.heap.size w' (.slice a m c) (newD n) ∧ Below w.heap.size w w' := by
  have H := hide (group_any n w)
  by_cases h : 1 ≤ n ∧ n ≤ 7
  · obtain ⟨k, rfl⟩ : ∃ k : Nat, n = (k : Int) := ⟨n.toNat, by omega⟩
    have e1 : newE (k : Int) = 0 := by unfold newE; rw [if_pos h]
    have e2 : newD (k : Int) = List.replicate k (0, 0) := by unfold newD; rw [if_pos h, Int.toNat_natCast]
    rw [e1, e2]
    rw [decide_eq_true h] at H
    have hk : k ≤ 7 := by omega
    clear e1 e2 h
    go_enter Try.func11, Try.ntmps11
    go_wp2_with fail
    refine H.out.mono ?_
    rintro e w1 ⟨rfl, e1⟩
    have e1 := e1.symm
    subst e1
    go_wp2_with (at_make; go_must (refine make_draws _ rfl (.tmp 7) rfl k rfl (by omega) ?_))
    intro w1 o1 b1
    have O1 := hide o1
    clear o1
    go_wp2
    go_ret2
    exact ⟨_, _, _, rfl, O1.out, b1⟩
  · have e1 : newE n = 3 := by unfold newE; rw [if_neg h]
    have e2 : newD n = [] := by unfold newD; rw [if_neg h]
    rw [e1, e2]
    rw [decide_eq_false h] at H
    clear e1 e2 h
    go_enter Try.func11, Try.ntmps11
    go_wp2_with fail
    refine H.out.mono ?_
    rintro e w1 ⟨rfl, e1⟩
    have e1 := e1.symm
    subst e1
    go_wp2
    go_ret2
    exact ⟨_, _, _, rfl, OwnD.nil _ _, Below.refl _ _⟩
set_option maxRecDepth 100000 in
set_option maxHeartbeats 400000 in
theorem setO (a : Option Addr) (n c : Nat) (D : List (Int × Int)) (k x y : Int) (w : World) (h : SlN w a n c D) :
    Calls Try.prog 13 #[.slice a n c, .int .i64 k, .agg #[.int .u64 x, .int .u64 y]] w fun e w' => ∃ a' m c', e = .returned (.tuple #[.slice a' m c', .int .i64 (setE D k)]) ∧ OwnD w.heap.size w' (.slice a' m c') (setD D k (x, y)) ∧ Below w.heap.size w w' := by
  have HL := hide h.1
  have HS := hide h
  clear h
  have HM := hide (fun w => maybe_any a n c w)
  have HP := hide (fun w => place_any a n c k w)
  by_cases h1 : 1 ≤ n ∧ n ≤ 7
  · rw [decide_eq_true h1] at HM
    by_cases h2 : 0 ≤ k ∧ k < n
    · rw [decide_eq_true h2] at HP
      obtain ⟨j, rfl⟩ : ∃ j : Nat, k = (j : Int) := ⟨k.toNat, by omega⟩
      have e1 : setE D (j : Int) = 0 := by unfold setE; rw [HL.out, if_pos h1, if_pos h2]
      have e2 : setD D (j : Int) (x, y) = D.set j (x, y) := by unfold setD; rw [HL.out, if_pos h1, if_pos h2, Int.toNat_natCast]
      rw [e1, e2]
      have hj : j < n := by omega
      have hn7 : n ≤ 7 := h1.2
      have hne : D ≠ [] := by
        rintro rfl
        have := HL.out
        simp at this
        omega
      have HC : Hid (∀ ob, Calls Try.prog 41 #[.slice a n c] (w.alloc ob) fun e w' => ∃ g, e = .returned (.slice (some ⟨g, 0, none⟩) n n) ∧ OwnD (w.alloc ob).heap.size w' (.slice (some ⟨g, 0, none⟩) n n) D ∧ Below (w.alloc ob).heap.size (w.alloc ob) w') := fun ob => by
        have hh := HS.out.bel ((Below.refl _ _).alloc (Nat.le_refl _) ob)
        have := copied_any D a c (w.alloc ob) hh.2 hne (by rw [HL.out]; omega)
        rw [HL.out] at this
        exact this
      clear e1 e2 h1 h2 hne
      go_enter Try.func13, Try.ntmps13
      go_wp2_with fail
      refine (HM.out _).mono ?_
      rintro e w1 ⟨rfl, e1⟩
      subst e1
      go_wp2_with fail
      refine (HP.out _).mono ?_
      rintro e w1 ⟨rfl, e1⟩
      subst e1
      go_wp2_with fail
      refine (HC.out _).mono ?_
      rintro e w2 ⟨g, rfl, o2, bb⟩
      have z0 : w2.cell? ⟨w.heap.size, 0, none⟩ = some (.int .u64 x) := (bb.cell (p := ⟨w.heap.size, 0, none⟩) (by simp)).trans (by simp)
      have z1 : w2.cell? ⟨w.heap.size, 1, none⟩ = some (.int .u64 y) := (bb.cell (p := ⟨w.heap.size, 1, none⟩) (by simp)).trans (by simp)
      have b2 : Below w.heap.size w w2 := ((Below.refl _ _).alloc (Nat.le_refl _) _).trans (bb.mono (by simp))
      obtain ⟨q0, q1⟩ := o2.cell j _ (some_at2 (by rw [HL.out]; exact hj))
      have f0 := o2.free (j * 2)
      have f1 := o2.free (j * 2 + 1)
      have O2 := hide o2
      have hgB : w.heap.size ≤ g := by
        have := (o2.blk g rfl).1
        simp at this
        omega
      clear o2 bb HC HM HP
      go_wp2
      go_ret2
      exact ⟨_, _, _, rfl, (O2.out.set j x y).low (by simp), (b2.setCell hgB _).setCell hgB _⟩
    · rw [decide_eq_false h2] at HP
      have e1 : setE D k = 3 := by unfold setE; rw [HL.out, if_pos h1, if_neg h2]
      have e2 : setD D k (x, y) = [] := by unfold setD; rw [HL.out, if_pos h1, if_neg h2]
      rw [e1, e2]
      clear e1 e2 h1 h2
      go_enter Try.func13, Try.ntmps13
      go_wp2_with fail
      refine (HM.out _).mono ?_
      rintro e w1 ⟨rfl, e1⟩
      subst e1
      go_wp2_with fail
      refine (HP.out _).mono ?_
      rintro e w1 ⟨rfl, e1⟩
      subst e1
      go_wp2
      go_ret2
      exact ⟨_, _, _, rfl, OwnD.nil _ _, (Below.refl _ _).alloc (Nat.le_refl _) _⟩
  · rw [decide_eq_false h1] at HM
    have e1 : setE D k = 30 := by unfold setE; rw [HL.out, if_neg h1]
    have e2 : setD D k (x, y) = [] := by unfold setD; rw [HL.out, if_neg h1]
    rw [e1, e2]
    clear e1 e2 h1
    go_enter Try.func13, Try.ntmps13
    go_wp2_with fail
    refine (HM.out _).mono ?_
    rintro e w1 ⟨rfl, e1⟩
    subst e1
    go_wp2
    go_ret2
    exact ⟨_, _, _, rfl, OwnD.nil _ _, (Below.refl _ _).alloc (Nat.le_refl _) _⟩
theorem mergeO (X : List Vec) (a : Option Addr) (n c : Nat) (w : World) (hn : X.length = n) (hX : X ≠ [] → ∃ q o, a = some ⟨q, o, none⟩ ∧ q < w.heap.size ∧ LieV w q o X) (hc : n ≤ c) (hm : c ≤ maxLen) :
    Calls Try.prog 20 #[.slice a n c] w fun e w' => ∃ a' m c', e = .returned (.tuple #[.slice a' m c', .int .i64 (mgE (X.map (·.D)))]) ∧ OwnD w.heap.size w' (.slice a' m c') (mgD (X.map (·.D))) ∧ Below w.heap.size w w' := by
  cases X with
  | nil =>
    subst hn
    have hb : ¬ okDs (([] : List Vec).map (·.D)) := fun h => h
    rw [mgE_bad hb, mgD_bad hb]
    refine (merge_none a c w).mono ?_
    rintro e w' ⟨rfl, rfl⟩
    exact ⟨_, _, _, rfl, OwnD.nil _ _, Below.refl _ _⟩
  | cons x T =>
    obtain ⟨q, o, rfl, hq, hl⟩ := hX (by simp)
    rw [List.length_cons] at hn
    by_cases hok : (1 ≤ x.D.length ∧ x.D.length ≤ 7) ∧ ∀ y, y ∈ T → y.D.length = x.D.length
    · rw [mgE_ok ((okDs_iff x T).2 hok)]
      have hd : mgD ((x :: T).map (·.D)) = mer x.D (T.map (·.D)) := mgD_ok ((okDs_iff x T).2 hok)
      rw [hd]
      subst hn
      refine (merge_ok x T q o c w hl hq hc hm hok.1 hok.2).mono ?_
      rintro e w' ⟨g, rfl, o1, b1⟩
      exact ⟨_, _, _, rfl, o1, b1⟩
    · rw [mgE_bad (fun h => hok ((okDs_iff x T).1 h)), mgD_bad (fun h => hok ((okDs_iff x T).1 h))]
      subst hn
      by_cases hx : 1 ≤ x.D.length ∧ x.D.length ≤ 7
      · refine (merge_bad x T q o c w hl hq hc hm hx (fun hh => hok ⟨hx, hh⟩)).mono ?_
        rintro e w' ⟨rfl, b1⟩
        exact ⟨_, _, _, rfl, OwnD.nil _ _, b1⟩
      · refine (merge_bad0 x T q o c w hl hx).mono ?_
        rintro e w' ⟨rfl, rfl⟩
        exact ⟨_, _, _, rfl, OwnD.nil _ _, Below.refl _ _⟩

end Go.Proofs.Ytcchnaldanibgaa
