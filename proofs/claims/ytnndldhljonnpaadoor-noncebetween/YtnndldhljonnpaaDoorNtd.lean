import Derived.Test.YtnndldhljonnpaaDoorNtc
namespace Go.Proofs.YtnndldhljonnpaaDoor
open Go.RowKit
set_option linter.unusedVariables false
set_option linter.unusedSimpArgs false

/-- What Parse answers, as values. -/
def pH (l : List Nat) : Int := if psOK l = true then (psH l : Int) else 0
def pL (l : List Nat) : Int := if psOK l = true then (psL l : Int) else 0
def pE (l : List Nat) : Int := if psOK l = true then 0 else 21
def pA (l : List Nat) : Int := if psOK l = true then 0 else (place l : Int)
theorem p_ok {l : List Nat} (h : psOK l = true) : pH l = (psH l : Int) ∧ pL l = (psL l : Int) ∧ pE l = 0 ∧ pA l = 0 := by simp [pH, pL, pE, pA, h]
theorem p_no {l : List Nat} (h : psOK l = false) : pH l = 0 ∧ pL l = 0 ∧ pE l = 21 ∧ pA l = (place l : Int) := by simp [pH, pL, pE, pA, h]
set_option maxRecDepth 100000 in
set_option maxHeartbeats 1000000 in
theorem parse_any (s : ByteArray) (w : World) (hs : s.size ≤ 4611686018427387904) :
    Calls Tryd.prog 7 #[.string s] w fun e w' => e = .returned (.tuple #[.agg #[.int .u64 (pH (bts s)), .int .u64 (pL (bts s))], .int .i64 (pE (bts s)), .int .i64 (pA (bts s))]) ∧ Below w.heap.size w w' := by
  have HL := hide (bts_len s)
  obtain ⟨p, hp⟩ : ∃ p, (rn (bts s)).2 = p := ⟨_, rfl⟩
  obtain ⟨h, hh⟩ : ∃ h, (rn (bts s)).1 = h := ⟨_, rfl⟩
  have hpl : p ≤ s.size := by rw [← hp, ← HL.out]; exact rd_le _ _ _
  have r0 : ∀ W, Calls Tryd.prog 14 #[.string s, .int .i64 0] W fun e w' => e = .returned (.tuple #[.int .u64 (h : Int), .int .i64 (p : Int)]) ∧ w' = W := fun W => by
    have := readnum_any s 0 W (Nat.zero_le _) hs
    rw [List.drop_zero, Nat.zero_add, hp, hh] at this
    exact this
  have R0 := hide r0
  have HP := hide hp
  have HH := hide hh
  clear r0 hp hh
  have NO : Hid (¬ (p ≠ 0 ∧ (bts s)[p]? = some 46) → psOK (bts s) = false ∧ place (bts s) = p) := fun hn => by
    rw [← HP.out] at hn
    refine ⟨?_, ?_⟩
    · unfold psOK
      rw [decide_eq_false_iff_not]
      rintro ⟨h1, h2, _⟩
      exact hn ⟨h1, h2⟩
    · unfold place
      rw [if_neg hn, HP.out]
  by_cases p0 : p = 0
  · obtain ⟨n1, n2⟩ := NO.out (fun h => h.1 p0)
    obtain ⟨m1, m2, m3, m4⟩ := p_no n1
    rw [m1, m2, m3, m4, n2]
    clear NO n1 n2 m1 m2 m3 m4
    subst p0
    go_enter Tryd.func7, Tryd.ntmps7
    go_wp2_with fail
    refine (R0.out _).mono ?_
    rintro e w1 ⟨rfl, e1⟩
    subst e1
    dsimp only
    go_wp2
    refine bodyPost_ret (v := .tuple #[.agg #[.int .u64 0, .int .u64 0], .int .i64 21, .int .i64 0]) (by simp [results, Tryd.results7, go_sem]) rfl ⟨rfl, (Below.refl _ _).alloc (Nat.le_refl _) _⟩
  · have p0' : ((p : Int) == 0) = false := by simp; omega
    by_cases p1 : p = s.size
    · obtain ⟨n1, n2⟩ := NO.out (fun h => by have := (List.getElem?_eq_some_iff.1 h.2).1; rw [HL.out] at this; omega)
      obtain ⟨m1, m2, m3, m4⟩ := p_no n1
      rw [m1, m2, m3, m4, n2]
      clear NO n1 n2 m1 m2 m3 m4
      have p1' : ((p : Int) == (s.size : Int)) = true := by simp; omega
      have P1 := hide p1
      clear p1
      go_enter Tryd.func7, Tryd.ntmps7
      go_wp2_with fail
      refine (R0.out _).mono ?_
      rintro e w1 ⟨rfl, e1⟩
      subst e1
      dsimp only
      go_wp2
      refine bodyPost_ret (v := .tuple #[.agg #[.int .u64 0, .int .u64 0], .int .i64 21, .int .i64 (p : Int)]) (by simp [results, Tryd.results7, go_sem]) rfl ⟨rfl, (Below.refl _ _).alloc (Nat.le_refl _) _⟩
    · have p1' : ((p : Int) == (s.size : Int)) = false := by simp; omega
      obtain ⟨c, hc⟩ : ∃ c, (bts s)[p]? = some c := ⟨_, List.getElem?_eq_getElem (by rw [HL.out]; omega)⟩
      have ix := fun W => idx_any hc W
      by_cases c46 : c = 46
      · subst c46
        obtain ⟨q, hq⟩ : ∃ q, (rn ((bts s).drop (p + 1))).2 = q := ⟨_, rfl⟩
        obtain ⟨lo, hlo⟩ : ∃ lo, (rn ((bts s).drop (p + 1))).1 = lo := ⟨_, rfl⟩
        have hql : p + 1 + q ≤ s.size := by
          have := rd_le ((bts s).drop (p + 1)) 0 true
          rw [List.length_drop, HL.out] at this
          unfold rn at hq
          omega
        obtain ⟨r, hr⟩ : ∃ r, p + 1 + q = r := ⟨_, rfl⟩
        have OK : Hid (psOK (bts s) = decide (q ≠ 0 ∧ r = s.size)) := by
          unfold Hid psOK
          rw [HP.out, hc, hq, HL.out, hr]
          simp [p0]
        have PL : Hid (place (bts s) = r) := by
          unfold Hid place
          rw [HP.out, hc, hq, if_pos ⟨p0, rfl⟩, hr]
        have PH : Hid (psH (bts s) = h ∧ psL (bts s) = lo) := ⟨HH.out, by unfold psL; rw [HP.out]; exact hlo⟩
        have R1 : Hid (∀ W, Calls Tryd.prog 14 #[.string s, .int .i64 ((p : Int) + 1)] W fun e w' => e = .returned (.tuple #[.int .u64 (lo : Int), .int .i64 (r : Int)]) ∧ w' = W) := fun W => by
          have := readnum_any s (p + 1) W (by omega) hs
          rw [hq, hlo, hr] at this
          exact this
        clear hq hlo hc NO
        have HR := hide hr
        have e1 : IntKind.i64.wrap ((p : Int) + 1) = (p : Int) + 1 := by rw [IntKind.wrap_i64]; omega
        by_cases q0 : q = 0
        · have n1 : psOK (bts s) = false := by rw [OK.out]; simp [q0]
          obtain ⟨m1, m2, m3, m4⟩ := p_no n1
          rw [m1, m2, m3, m4, PL.out]
          clear n1 m1 m2 m3 m4 OK PL PH
          have e2 : ((r : Int) == (p : Int) + 1) = true := by rw [beq_iff_eq]; omega
          clear hr hql
          go_enter Tryd.func7, Tryd.ntmps7
          go_wp2_with fail
          refine (R0.out _).mono ?_
          rintro e w1 ⟨rfl, e9⟩
          subst e9
          dsimp only
          go_wp2_with fail
          refine (R1.out _).mono ?_
          rintro e w1 ⟨rfl, e9⟩
          subst e9
          dsimp only
          go_wp2
          refine bodyPost_ret (v := .tuple #[.agg #[.int .u64 0, .int .u64 0], .int .i64 21, .int .i64 (r : Int)]) (by simp [results, Tryd.results7, go_sem]) rfl ⟨rfl, (Below.refl _ _).alloc (Nat.le_refl _) _⟩
        · have e2 : ((r : Int) == (p : Int) + 1) = false := by rw [beq_eq_false_iff_ne]; omega
          by_cases q1 : r = s.size
          · have n1 : psOK (bts s) = true := by rw [OK.out]; simp [q0, q1]
            obtain ⟨m1, m2, m3, m4⟩ := p_ok n1
            rw [m1, m2, m3, m4, PH.out.1, PH.out.2]
            clear n1 m1 m2 m3 m4 OK PL PH
            have e3 : decide (r < s.size) = false := by rw [decide_eq_false_iff_not]; omega
            have Q1 := hide q1
            clear q1
            clear hr hql
            go_enter Tryd.func7, Tryd.ntmps7
            go_wp2_with fail
            refine (R0.out _).mono ?_
            rintro e w1 ⟨rfl, e9⟩
            subst e9
            dsimp only
            go_wp2_with fail
            refine (R1.out _).mono ?_
            rintro e w1 ⟨rfl, e9⟩
            subst e9
            dsimp only
            go_wp2
            refine bodyPost_ret (v := .tuple #[.agg #[.int .u64 (h : Int), .int .u64 (lo : Int)], .int .i64 0, .int .i64 0]) (by simp [results, Tryd.results7, go_sem]) rfl ⟨rfl, (Below.refl _ _).alloc (Nat.le_refl _) _⟩
          · have n1 : psOK (bts s) = false := by rw [OK.out]; simp [q1]
            obtain ⟨m1, m2, m3, m4⟩ := p_no n1
            rw [m1, m2, m3, m4, PL.out]
            clear n1 m1 m2 m3 m4 OK PL PH
            have e3 : decide (r < s.size) = true := by rw [decide_eq_true_eq]; omega
            clear hr hql
            go_enter Tryd.func7, Tryd.ntmps7
            go_wp2_with fail
            refine (R0.out _).mono ?_
            rintro e w1 ⟨rfl, e9⟩
            subst e9
            dsimp only
            go_wp2_with fail
            refine (R1.out _).mono ?_
            rintro e w1 ⟨rfl, e9⟩
            subst e9
            dsimp only
            go_wp2
            refine bodyPost_ret (v := .tuple #[.agg #[.int .u64 0, .int .u64 0], .int .i64 21, .int .i64 (r : Int)]) (by simp [results, Tryd.results7, go_sem]) rfl ⟨rfl, (Below.refl _ _).alloc (Nat.le_refl _) _⟩
      · obtain ⟨n1, n2⟩ := NO.out (fun h => by rw [hc] at h; injection h.2 with h; exact c46 h)
        obtain ⟨m1, m2, m3, m4⟩ := p_no n1
        rw [m1, m2, m3, m4, n2]
        clear NO n1 n2 m1 m2 m3 m4 hc
        have c' : ((c : Int) == 46) = false := by simp; omega
        go_enter Tryd.func7, Tryd.ntmps7
        go_wp2_with fail
        refine (R0.out _).mono ?_
        rintro e w1 ⟨rfl, e1⟩
        subst e1
        dsimp only
        go_wp2
        refine bodyPost_ret (v := .tuple #[.agg #[.int .u64 0, .int .u64 0], .int .i64 21, .int .i64 (p : Int)]) (by simp [results, Tryd.results7, go_sem]) rfl ⟨rfl, (Below.refl _ _).alloc (Nat.le_refl _) _⟩

end Go.Proofs.YtnndldhljonnpaaDoor
