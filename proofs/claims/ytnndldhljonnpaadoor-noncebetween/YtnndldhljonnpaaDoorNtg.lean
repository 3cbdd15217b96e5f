import Derived.Test.YtnndldhljonnpaaDoorNtf
namespace Go.Proofs.YtnndldhljonnpaaDoor
open Go.RowKit
set_option linter.unusedVariables false
set_option linter.unusedSimpArgs false

theorem rn_fore {l : List Nat} (h : pt l < l.length) : rn (l.take (pt l)) = rn l := by
  have e : l = l.take (pt l) ++ 46 :: l.drop (pt l + 1) := by
    conv => lhs; rw [← List.take_append_drop (pt l) l]
    congr 1
    rw [List.drop_eq_getElem_cons h]
    congr 1
    have h2 := pt_at h
    rw [List.getElem?_eq_getElem h] at h2
    injection h2
  conv => rhs; rw [e]
  exact (rd_dot _ _ 0 true).symm
set_option maxRecDepth 100000 in
set_option maxHeartbeats 1000000 in
/-- The document's Parse. -/
theorem refparse_any (s : ByteArray) (w : World) (hs : s.size ≤ 4611686018427387904) :
    Calls Tryd.prog 8 #[.string s] w fun e w' => e = .returned (.tuple #[.agg #[.int .u64 (pH (bts s)), .int .u64 (pL (bts s))], .int .i64 (pE (bts s)), .int .i64 (pA (bts s))]) ∧ Below w.heap.size w w' := by
  have HL := hide (bts_len s)
  obtain ⟨k, hk⟩ : ∃ k, pt (bts s) = k := ⟨_, rfl⟩
  have hkl : k ≤ s.size := by rw [← hk, ← HL.out]; exact pt_le _
  have R0 : Hid (∀ W, Calls Tryd.prog 15 #[.string s] W fun e w' => e = .returned (.int .i64 (k : Int)) ∧ w' = W) := fun W => by rw [← hk]; exact point_any s W hs
  have sz1 : (s.extract 0 k).size ≤ 4611686018427387904 := by rw [ByteArray.size_extract]; omega
  have sz2 : (s.extract (k + 1) s.size).size ≤ 4611686018427387904 := by rw [ByteArray.size_extract]; omega
  have R1 : Hid (∀ W, Calls Tryd.prog 16 #[.string (s.extract 0 k)] W fun e w' => e = .returned (.tuple #[.int .u64 (nv ((bts s).take k)), .bool (nm ((bts s).take k))]) ∧ w' = W) := fun W => by
    have := number_any (s.extract 0 k) W sz1
    rw [bts_take] at this
    exact this
  have R2 : Hid (∀ W, Calls Tryd.prog 16 #[.string (s.extract (k + 1) s.size)] W fun e w' => e = .returned (.tuple #[.int .u64 (nv ((bts s).drop (k + 1))), .bool (nm ((bts s).drop (k + 1)))]) ∧ w' = W) := fun W => by
    have := number_any (s.extract (k + 1) s.size) W sz2
    rw [bts_drop] at this
    exact this
  have R3 : Hid (∀ n W, n < s.size → Calls Tryd.prog 17 #[.string (s.extract 0 (n + 1))] W fun e w' => e = .returned (.bool (decide (n < place (bts s)))) ∧ w' = W) := fun n W hn => by
    have := begins_any (s.extract 0 (n + 1)) W (by rw [ByteArray.size_extract]; omega)
    rw [bts_take, bg_take _ _ (by rw [HL.out]; exact hn)] at this
    exact this
  have PL : Hid (place (bts s) ≤ s.size) := by unfold Hid; rw [← HL.out]; exact place_le _
  have OK : Hid (psOK (bts s) = (decide (k < s.size) && (nm ((bts s).take k) && nm ((bts s).drop (k + 1))))) := by
    unfold Hid
    rw [psOK_ref, hk, HL.out]
  have VAL : Hid (psOK (bts s) = true → nv ((bts s).take k) = (psH (bts s) : Int) ∧ nv ((bts s).drop (k + 1)) = (psL (bts s) : Int)) := fun h => by
    have e := ps_pt h
    have h2 := OK.out.symm.trans h
    simp only [Bool.and_eq_true, decide_eq_true_eq] at h2
    obtain ⟨h3, h4, h5⟩ := h2
    unfold nv psH psL
    rw [h4, h5, ← e, hk]
    have := rn_fore (l := bts s) (by rw [hk, HL.out]; exact h3)
    rw [hk] at this
    rw [this]
    exact ⟨rfl, rfl⟩
  clear hk sz1 sz2
  have e1 : IntKind.i64.wrap ((k : Int) + 1) = (k : Int) + 1 := by rw [IntKind.wrap_i64]; omega
  have FAIL : psOK (bts s) = false → Calls Tryd.prog 8 #[.string s] w fun e w' => e = .returned (.tuple #[.agg #[.int .u64 (pH (bts s)), .int .u64 (pL (bts s))], .int .i64 (pE (bts s)), .int .i64 (pA (bts s))]) ∧ Below w.heap.size w w' := fun hno => by
    obtain ⟨m1, m2, m3, m4⟩ := p_no hno
    rw [m1, m2, m3, m4]
    rw [hno] at OK
    clear VAL m1 m2 m3 m4 hno
    generalize place (bts s) = pl at *
    by_cases kl : k < s.size
    · have ab : Hid ((nm ((bts s).take k) && nm ((bts s).drop (k + 1))) = false) := by have := OK.out; rw [decide_eq_true kl, Bool.true_and] at this; exact this.symm
      have hk2 : k + 1 ≤ s.size := by omega
      clear OK
      generalize nm ((bts s).take k) = a at *
      generalize nv ((bts s).take k) = va at *
      generalize nm ((bts s).drop (k + 1)) = b at *
      generalize nv ((bts s).drop (k + 1)) = vb at *
      go_enter Tryd.func8, Tryd.ntmps8
      go_wp2_with fail
      refine (R0.out _).mono ?_
      rintro e w1 ⟨rfl, e9⟩
      subst e9
      dsimp only
      go_wp2_with fail
      refine (R1.out _).mono ?_
      rintro e w1 ⟨rfl, e9⟩
      subst e9
      dsimp only
      go_wp2_with fail
      refine (R2.out _).mono ?_
      rintro e w1 ⟨rfl, e9⟩
      subst e9
      dsimp only
      cases a
      · clear ab R1 R2 R0
        go_wp2
        go_loopw [10] (fun i wr => ∃ n : Nat, i = .int .i64 (n : Int) ∧ n ≤ pl ∧ wr = w.alloc (.cells #[.int .u64 0, .int .u64 0] 24)) (fun i _ => s.size - (intOf i).toNat)
        case atStart => exact ⟨0, rfl, Nat.zero_le _, rfl⟩
        case round =>
          obtain ⟨n, rfl, hn, hwr⟩ := hrel
          subst hwr
          have hps := PL.out
          by_cases nl : n < s.size
          · have e2 : IntKind.i64.wrap ((n : Int) + 1) = (n : Int) + 1 := by rw [IntKind.wrap_i64]; omega
            have R4 := hide (fun W => R3.out n W nl)
            by_cases np : n < pl
            · rw [decide_eq_true np] at R4
              go_wp2_with fail
              refine (R4.out _).mono ?_
              rintro e w1 ⟨rfl, e9⟩
              subst e9
              dsimp only
              go_wp2
              go_round
              case rel => exact ⟨n + 1, by go_num, by omega, by first | trivial | rfl⟩
              case measure => simp [intOf]; omega
            · rw [decide_eq_false np] at R4
              obtain rfl : n = pl := by omega
              go_wp2_with fail
              refine (R4.out _).mono ?_
              rintro e w1 ⟨rfl, e9⟩
              subst e9
              dsimp only
              go_wp2
              refine bodyPost_ret (v := .tuple #[.agg #[.int .u64 0, .int .u64 0], .int .i64 21, .int .i64 (n : Int)]) (by simp [results, Tryd.results8, go_sem]) rfl ⟨rfl, (Below.refl _ _).alloc (Nat.le_refl _) _⟩
          · obtain rfl : n = pl := by omega
            go_wp2
            refine bodyPost_ret (v := .tuple #[.agg #[.int .u64 0, .int .u64 0], .int .i64 21, .int .i64 (n : Int)]) (by simp [results, Tryd.results8, go_sem]) rfl ⟨rfl, (Below.refl _ _).alloc (Nat.le_refl _) _⟩
      · obtain rfl : b = false := ab.out
        clear ab R1 R2 R0
        go_wp2
        go_loopw [10] (fun i wr => ∃ n : Nat, i = .int .i64 (n : Int) ∧ n ≤ pl ∧ wr = w.alloc (.cells #[.int .u64 0, .int .u64 0] 24)) (fun i _ => s.size - (intOf i).toNat)
        case atStart => exact ⟨0, rfl, Nat.zero_le _, rfl⟩
        case round =>
          obtain ⟨n, rfl, hn, hwr⟩ := hrel
          subst hwr
          have hps := PL.out
          by_cases nl : n < s.size
          · have e2 : IntKind.i64.wrap ((n : Int) + 1) = (n : Int) + 1 := by rw [IntKind.wrap_i64]; omega
            have R4 := hide (fun W => R3.out n W nl)
            by_cases np : n < pl
            · rw [decide_eq_true np] at R4
              go_wp2_with fail
              refine (R4.out _).mono ?_
              rintro e w1 ⟨rfl, e9⟩
              subst e9
              dsimp only
              go_wp2
              go_round
              case rel => exact ⟨n + 1, by go_num, by omega, by first | trivial | rfl⟩
              case measure => simp [intOf]; omega
            · rw [decide_eq_false np] at R4
              obtain rfl : n = pl := by omega
              go_wp2_with fail
              refine (R4.out _).mono ?_
              rintro e w1 ⟨rfl, e9⟩
              subst e9
              dsimp only
              go_wp2
              refine bodyPost_ret (v := .tuple #[.agg #[.int .u64 0, .int .u64 0], .int .i64 21, .int .i64 (n : Int)]) (by simp [results, Tryd.results8, go_sem]) rfl ⟨rfl, (Below.refl _ _).alloc (Nat.le_refl _) _⟩
          · obtain rfl : n = pl := by omega
            go_wp2
            refine bodyPost_ret (v := .tuple #[.agg #[.int .u64 0, .int .u64 0], .int .i64 21, .int .i64 (n : Int)]) (by simp [results, Tryd.results8, go_sem]) rfl ⟨rfl, (Below.refl _ _).alloc (Nat.le_refl _) _⟩
    · clear OK R1 R2
      go_enter Tryd.func8, Tryd.ntmps8
      go_wp2_with fail
      refine (R0.out _).mono ?_
      rintro e w1 ⟨rfl, e9⟩
      subst e9
      dsimp only
      go_wp2
      go_loopw [10] (fun i wr => ∃ n : Nat, i = .int .i64 (n : Int) ∧ n ≤ pl ∧ wr = w.alloc (.cells #[.int .u64 0, .int .u64 0] 24)) (fun i _ => s.size - (intOf i).toNat)
      case atStart => exact ⟨0, rfl, Nat.zero_le _, rfl⟩
      case round =>
        obtain ⟨n, rfl, hn, hwr⟩ := hrel
        subst hwr
        have hps := PL.out
        by_cases nl : n < s.size
        · have e2 : IntKind.i64.wrap ((n : Int) + 1) = (n : Int) + 1 := by rw [IntKind.wrap_i64]; omega
          have R4 := hide (fun W => R3.out n W nl)
          by_cases np : n < pl
          · rw [decide_eq_true np] at R4
            go_wp2_with fail
            refine (R4.out _).mono ?_
            rintro e w1 ⟨rfl, e9⟩
            subst e9
            dsimp only
            go_wp2
            go_round
            case rel => exact ⟨n + 1, by go_num, by omega, by first | trivial | rfl⟩
            case measure => simp [intOf]; omega
          · rw [decide_eq_false np] at R4
            obtain rfl : n = pl := by omega
            go_wp2_with fail
            refine (R4.out _).mono ?_
            rintro e w1 ⟨rfl, e9⟩
            subst e9
            dsimp only
            go_wp2
            refine bodyPost_ret (v := .tuple #[.agg #[.int .u64 0, .int .u64 0], .int .i64 21, .int .i64 (n : Int)]) (by simp [results, Tryd.results8, go_sem]) rfl ⟨rfl, (Below.refl _ _).alloc (Nat.le_refl _) _⟩
        · obtain rfl : n = pl := by omega
          go_wp2
          refine bodyPost_ret (v := .tuple #[.agg #[.int .u64 0, .int .u64 0], .int .i64 21, .int .i64 (n : Int)]) (by simp [results, Tryd.results8, go_sem]) rfl ⟨rfl, (Below.refl _ _).alloc (Nat.le_refl _) _⟩
  by_cases hok : psOK (bts s) = true
  · obtain ⟨m1, m2, m3, m4⟩ := p_ok hok
    rw [m1, m2, m3, m4]
    obtain ⟨v1, v2⟩ := VAL.out hok
    have h2 := OK.out.symm.trans hok
    simp only [Bool.and_eq_true, decide_eq_true_eq] at h2
    obtain ⟨h3, h4, h5⟩ := h2
    rw [v1, h4] at R1
    rw [v2, h5] at R2
    have hk2 : k + 1 ≤ s.size := by omega
    clear VAL m1 m2 m3 m4 v1 v2 h4 h5 hok FAIL OK R3 PL
    generalize psH (bts s) = va at *
    generalize psL (bts s) = vb at *
    go_enter Tryd.func8, Tryd.ntmps8
    go_wp2_with fail
    refine (R0.out _).mono ?_
    rintro e w1 ⟨rfl, e9⟩
    subst e9
    dsimp only
    go_wp2_with fail
    refine (R1.out _).mono ?_
    rintro e w1 ⟨rfl, e9⟩
    subst e9
    dsimp only
    go_wp2_with fail
    refine (R2.out _).mono ?_
    rintro e w1 ⟨rfl, e9⟩
    subst e9
    dsimp only
    go_wp2
    refine bodyPost_ret (v := .tuple #[.agg #[.int .u64 (va : Int), .int .u64 (vb : Int)], .int .i64 0, .int .i64 0]) (by simp [results, Tryd.results8, go_sem]) rfl ⟨rfl, (Below.refl _ _).alloc (Nat.le_refl _) _⟩
  · exact FAIL (by simpa using hok)

end Go.Proofs.YtnndldhljonnpaaDoor
