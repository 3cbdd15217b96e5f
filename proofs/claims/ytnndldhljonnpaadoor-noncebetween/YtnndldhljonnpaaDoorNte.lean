import Derived.Test.YtnndldhljonnpaaDoorNtd
import Derived.Lib.Strings
namespace Go.Proofs.YtnndldhljonnpaaDoor
open Go.RowKit
set_option linter.unusedVariables false
set_option linter.unusedSimpArgs false

theorem bts_take (s : ByteArray) (k : Nat) : bts (s.extract 0 k) = (bts s).take k := by
  unfold bts
  rw [ByteArray.data_extract]
  simp [List.map_take]
theorem bts_drop (s : ByteArray) (k : Nat) : bts (s.extract k s.size) = (bts s).drop k := by
  unfold bts
  rw [Lib.extract_data, List.take_of_length_le (by rw [List.length_drop, Array.length_toList]; exact Nat.le_refl _), List.map_drop]
theorem toNat_inj {a b : List UInt8} (h : a.map UInt8.toNat = b.map UInt8.toNat) : a = b := (List.map_inj_right (fun x y h => UInt8.toNat_inj.1 h)).1 h
theorem bts_eq (a b : ByteArray) : (a.toList == b.toList) = decide (bts a = bts b) := by
  rw [ByteArray.toList_eq, ByteArray.toList_eq]
  unfold bts
  by_cases h : a.data.toList = b.data.toList
  · rw [h]; simp
  · rw [beq_eq_false_iff_ne.2 h, eq_comm, decide_eq_false_iff_not]
    exact fun e => h (toNat_inj e)
theorem bts_data (l : List UInt8) : bts ⟨l.toArray⟩ = l.map UInt8.toNat := by simp [bts]
theorem bts_app (a b : ByteArray) : bts (a ++ b) = bts a ++ bts b := by
  unfold bts
  rw [show (a ++ b).data.toList = a.data.toList ++ b.data.toList from by rw [ByteArray.data_append]; simp, List.map_append]
set_option maxRecDepth 100000 in
set_option maxHeartbeats 1000000 in
/-- The document's point. -/
theorem point_any (s : ByteArray) (w : World) (hs : s.size ≤ 4611686018427387904) :
    Calls Tryd.prog 15 #[.string s] w fun e w' => e = .returned (.int .i64 (pt (bts s) : Int)) ∧ w' = w := by
  have HL := hide (bts_len s)
  go_enter Tryd.func15, Tryd.ntmps15
  go_wp2
  go_loopw [3] (fun i wr => ∃ j : Nat, i = .int .i64 (j : Int) ∧ j ≤ s.size ∧ wr = w ∧ Hid (∀ i, i < j → (bts s)[i]? ≠ some 46)) (fun i _ => s.size - (intOf i).toNat)
  case atStart => exact ⟨0, rfl, Nat.zero_le _, rfl, fun i hi => by omega⟩
  case round =>
    obtain ⟨j, rfl, hj, rfl, HR⟩ := hrel
    by_cases hlt : j < s.size
    · obtain ⟨c, hc⟩ : ∃ c, (bts s)[j]? = some c := ⟨_, List.getElem?_eq_getElem (by rw [HL.out]; exact hlt)⟩
      have ix := fun W => idx_any hc W
      by_cases c46 : c = 46
      · subst c46
        have E := hide (pt_of hc HR.out)
        clear hc HR
        go_wp2
        go_ret
        exact ⟨by rw [E.out]; rfl, rfl⟩
      · have c' : ((c : Int) == 46) = false := by simp; omega
        have HR2 : Hid (∀ i, i < j + 1 → (bts s)[i]? ≠ some 46) := fun i hi => by
          by_cases e : i = j
          · subst e; rw [hc]; intro h; injection h with h; exact c46 h
          · exact HR.out i (by omega)
        clear hc HR c46
        go_wp2
        go_round
        case rel => exact ⟨j + 1, by go_num, by omega, by first | trivial | rfl, HR2⟩
        case measure => simp [intOf]; omega
    · obtain rfl : j = s.size := by omega
      have E : Hid (pt (bts s) = s.size) := by
        unfold Hid
        have h1 := pt_le (bts s)
        rw [HL.out] at h1
        rcases Nat.lt_or_ge (pt (bts s)) s.size with h | h
        · exact absurd (pt_at (by rw [HL.out]; exact h)) (HR.out _ h)
        · omega
      clear HR
      go_wp2
      go_ret
      exact ⟨by rw [E.out]; rfl, rfl⟩
/-- A number's value; 0 for none. -/
def nv (l : List Nat) : Int := if nm l = true then ((rn l).1 : Int) else 0
set_option maxRecDepth 100000 in
set_option maxHeartbeats 1000000 in
/-- The document's number. -/
theorem number_any (s : ByteArray) (w : World) (hs : s.size ≤ 4611686018427387904) :
    Calls Tryd.prog 16 #[.string s] w fun e w' => e = .returned (.tuple #[.int .u64 (nv (bts s)), .bool (nm (bts s))]) ∧ w' = w := by
  have HL := hide (bts_len s)
  by_cases h0 : s.size = 0
  · obtain rfl : s = ⟨#[]⟩ := by
      obtain ⟨d⟩ := s
      have : d = #[] := Array.eq_empty_of_size_eq_zero h0
      rw [this]
    have n1 : nm (bts ⟨#[]⟩) = false := by decide
    have n2 : nv (bts ⟨#[]⟩) = 0 := by decide
    rw [n1, n2]
    clear n1 n2 HL h0 hs
    go_enter Tryd.func16, Tryd.ntmps16
    go_wp2
    go_ret2
    exact ⟨rfl, rfl⟩
  · obtain ⟨c0, hc0⟩ : ∃ c0, (bts s)[0]? = some c0 := ⟨_, List.getElem?_eq_getElem (by rw [HL.out]; omega)⟩
    have ne : bts s ≠ [] := fun e => by have := HL.out; rw [e] at this; simp at this; omega
    have hne : (s.toList == ([] : List UInt8)) = false := by
      have := bts_eq s ⟨#[]⟩
      rw [show bts ⟨#[]⟩ = [] from rfl, decide_eq_false ne, ByteArray.toList_eq ⟨#[]⟩] at this
      exact this
    have hne2 : s.toList.isEmpty = false := by
      cases h : s.toList with
      | nil => rw [h] at hne; cases hne
      | cons _ _ => rfl
    have ix0 := fun W => idx_any hc0 W
    rw [show ((0 : Nat) : Int) = 0 from rfl] at ix0
    have NE := hide ne
    clear ne
    have NO : Hid ((rn (bts s)).2 ≠ s.size → nm (bts s) = false ∧ nv (bts s) = 0) := fun h => by
      have : nm (bts s) = false := by unfold nm; rw [decide_eq_false_iff_not, HL.out]; exact fun e => h e.2
      exact ⟨this, by unfold nv; rw [this]; rfl⟩
    by_cases hz : c0 = 48 ∧ 1 < s.size
    · have e1 : (rn (bts s)).2 ≠ s.size := by
        intro e
        have hd : bts s = 48 :: (bts s).drop 1 := by
          have h1 : 0 < (bts s).length := by rw [HL.out]; omega
          conv => lhs; rw [← List.drop_zero (l := bts s), List.drop_eq_getElem_cons h1]
          rw [List.getElem?_eq_getElem h1] at hc0
          injection hc0 with hc0
          rw [hc0, hz.1]
        have h1 : 1 < (bts s).length := by rw [HL.out]; exact hz.2
        rw [hd] at e
        unfold rn at e
        rw [rd_go (by unfold rdStop; simp)] at e
        rw [List.drop_eq_getElem_cons h1, rd_stop (by unfold rdStop; simp)] at e
        simp at e
        omega
      obtain ⟨n1, n2⟩ := NO.out e1
      rw [n1, n2]
      obtain ⟨rfl, hz2⟩ := hz
      clear n1 n2 e1 NO hc0
      go_enter Tryd.func16, Tryd.ntmps16
      go_wp2
      go_ret2
      exact ⟨rfl, rfl⟩
    · have z1 : (((c0 : Int) == 48) && decide (1 < s.size)) = false := by
        rw [Bool.and_eq_false_iff]
        by_cases e : c0 = 48
        · right; rw [decide_eq_false_iff_not]; exact fun h => hz ⟨e, h⟩
        · left; simp; omega
      have HZ := hide hz
      clear hz
      by_cases e48 : c0 = 48
      · have z2 : ¬ (1 < s.size) := fun h => HZ.out ⟨e48, h⟩
        go_enter Tryd.func16, Tryd.ntmps16
        go_wp2
        go_loopw [4, 5] (fun v i wr => ∃ x j : Nat, v = .int .u64 (x : Int) ∧ i = .int .i64 (j : Int) ∧ j ≤ s.size ∧ wr = w ∧ x ≤ 18446744073709551615 ∧ Hid ((j = 0 → x = 0) ∧ (0 < j → x ≠ 0 ∨ s.size = 1) ∧ rn (bts s) = ((rd x (decide (j = 0)) ((bts s).drop j)).1, (rd x (decide (j = 0)) ((bts s).drop j)).2 + j))) (fun _ i _ => s.size - (intOf i).toNat)
        case atStart => exact ⟨0, 0, rfl, rfl, Nat.zero_le _, rfl, by omega, fun _ => rfl, fun h => by omega, by unfold rn; simp⟩
        case round =>
          obtain ⟨x, j, rfl, rfl, hj, rfl, hx, HR⟩ := hrel
          by_cases hlt : j < s.size
          · obtain ⟨c, hc⟩ : ∃ c, (bts s)[j]? = some c := ⟨_, List.getElem?_eq_getElem (by rw [HL.out]; exact hlt)⟩
            have hc8 := bts_lt hc
            have ix := fun W => idx_any hc W
            have hd : (bts s).drop j = c :: (bts s).drop (j + 1) := by
              rw [List.drop_eq_getElem_cons (by rw [HL.out]; exact hlt)]
              rw [List.getElem?_eq_getElem (by rw [HL.out]; exact hlt)] at hc
              injection hc with hc
              rw [hc]
            have STOP : Hid (rdStop x (decide (j = 0)) c → nm (bts s) = false ∧ nv (bts s) = 0) := fun h => NO.out (by
              rw [HR.out.2.2, hd, rd_stop h]
              simp
              omega)
            have C0 : Hid (j = 0 → c = c0) := fun h => by subst h; rw [hc] at hc0; injection hc0
            have GO : Hid (¬ rdStop x (decide (j = 0)) c → (j + 1 = 0 → x * 10 + (c - 48) = 0) ∧ (0 < j + 1 → x * 10 + (c - 48) ≠ 0 ∨ s.size = 1) ∧ rn (bts s) = ((rd (x * 10 + (c - 48)) (decide (j + 1 = 0)) ((bts s).drop (j + 1))).1, (rd (x * 10 + (c - 48)) (decide (j + 1 = 0)) ((bts s).drop (j + 1))).2 + (j + 1))) := fun h => by
              refine ⟨fun h => by omega, fun _ => ?_, ?_⟩
              · by_cases hj0 : j = 0
                · have := C0.out hj0
                  by_cases e : c = 48
                  · right
                    rcases Nat.lt_or_ge 1 s.size with h1 | h1
                    · exact absurd ⟨by omega, h1⟩ HZ.out
                    · omega
                  · left
                    unfold rdStop at h
                    omega
                · rcases HR.out.2.1 (by omega) with h1 | h1
                  · left; omega
                  · right; exact h1
              · rw [HR.out.2.2, hd, rd_go h, decide_eq_false (show ¬ (j + 1 = 0) by omega)]
                simp only [Prod.mk.injEq, true_and]
                omega
            have NZ : Hid (j = 0 ∨ x ≠ 0) := by
              unfold Hid
              by_cases hj0 : j = 0
              · exact .inl hj0
              · rcases HR.out.2.1 (by omega) with h1 | h1
                · exact .inr h1
                · omega
            clear HR hc hd
            by_cases c1 : c < 48
            · obtain ⟨n1, n2⟩ := STOP.out (by unfold rdStop; omega)
              have E := hide n1
              have F := hide n2
              clear n1 n2
              go_wp2
              go_ret2
              exact ⟨by rw [E.out, F.out]; rfl, rfl⟩
            · by_cases c2 : 57 < c
              · obtain ⟨n1, n2⟩ := STOP.out (by unfold rdStop; omega)
                have E := hide n1
                have F := hide n2
                clear n1 n2
                go_wp2
                go_ret2
                exact ⟨by rw [E.out, F.out]; rfl, rfl⟩
              · have d1 : IntKind.u8.wrap ((c : Int) - 48) = (c : Int) - 48 := by simp [IntKind.wrap, IntKind.bits, IntKind.signed]; omega
                have d2 : IntKind.u64.wrap ((c : Int) - 48) = (c : Int) - 48 := by simp [IntKind.wrap, IntKind.bits, IntKind.signed]; omega
                have d3 : IntKind.u64.wrap (18446744073709551615 - ((c : Int) - 48)) = 18446744073709551615 - ((c : Int) - 48) := by simp [IntKind.wrap, IntKind.bits, IntKind.signed]; omega
                by_cases c5 : (18446744073709551615 - (c - 48)) / 10 < x
                · obtain ⟨n1, n2⟩ := STOP.out (by unfold rdStop; exact .inr (.inr (.inr c5)))
                  have E := hide n1
                  have F := hide n2
                  have d4 : decide ((18446744073709551615 - ((c : Int) - 48)) / 10 < (x : Int)) = true := by rw [decide_eq_true_eq]; omega
                  clear n1 n2
                  go_wp2
                  go_ret2
                  exact ⟨by rw [E.out, F.out]; rfl, rfl⟩
                · have EH := hide <| GO.out (by
                    unfold rdStop
                    rintro (h | h | h | h)
                    · exact c1 h
                    · exact c2 h
                    · rcases NZ.out with h1 | h1
                      · simp [h1] at h
                      · exact h1 h.2
                    · exact c5 h)
                  have d4 : decide ((18446744073709551615 - ((c : Int) - 48)) / 10 < (x : Int)) = false := by rw [decide_eq_false_iff_not]; omega
                  have d5 : IntKind.u64.wrap ((x : Int) * 10) = (x : Int) * 10 := by simp [IntKind.wrap, IntKind.bits, IntKind.signed]; omega
                  have d6 : IntKind.u64.wrap ((x : Int) * 10 + ((c : Int) - 48)) = (x : Int) * 10 + ((c : Int) - 48) := by simp [IntKind.wrap, IntKind.bits, IntKind.signed]; omega
                  clear STOP GO C0
                  go_wp2
                  go_round
                  case rel => exact ⟨x * 10 + (c - 48), j + 1, by congr 1; omega, by go_num, by omega, by first | trivial | rfl, by omega, EH⟩
                  case measure => simp [intOf]; omega
          · obtain rfl : j = s.size := by omega
            have E : Hid (nm (bts s) = true ∧ nv (bts s) = (x : Int)) := by
              have e := HR.out.2.2
              rw [List.drop_of_length_le (by rw [HL.out]; exact Nat.le_refl _), rd_nil] at e
              have n1 : nm (bts s) = true := by unfold nm; rw [decide_eq_true_eq, e, HL.out]; exact ⟨NE.out, by simp⟩
              refine ⟨n1, ?_⟩
              unfold nv
              rw [n1, e]
              rfl
            clear HR
            go_wp2
            go_ret2
            exact ⟨by rw [E.out.1, E.out.2]; rfl, rfl⟩
      · have z3 : ((c0 : Int) == 48) = false := by simp; omega
        go_enter Tryd.func16, Tryd.ntmps16
        go_wp2
        go_loopw [4, 5] (fun v i wr => ∃ x j : Nat, v = .int .u64 (x : Int) ∧ i = .int .i64 (j : Int) ∧ j ≤ s.size ∧ wr = w ∧ x ≤ 18446744073709551615 ∧ Hid ((j = 0 → x = 0) ∧ (0 < j → x ≠ 0 ∨ s.size = 1) ∧ rn (bts s) = ((rd x (decide (j = 0)) ((bts s).drop j)).1, (rd x (decide (j = 0)) ((bts s).drop j)).2 + j))) (fun _ i _ => s.size - (intOf i).toNat)
        case atStart => exact ⟨0, 0, rfl, rfl, Nat.zero_le _, rfl, by omega, fun _ => rfl, fun h => by omega, by unfold rn; simp⟩
        case round =>
          obtain ⟨x, j, rfl, rfl, hj, rfl, hx, HR⟩ := hrel
          by_cases hlt : j < s.size
          · obtain ⟨c, hc⟩ : ∃ c, (bts s)[j]? = some c := ⟨_, List.getElem?_eq_getElem (by rw [HL.out]; exact hlt)⟩
            have hc8 := bts_lt hc
            have ix := fun W => idx_any hc W
            have hd : (bts s).drop j = c :: (bts s).drop (j + 1) := by
              rw [List.drop_eq_getElem_cons (by rw [HL.out]; exact hlt)]
              rw [List.getElem?_eq_getElem (by rw [HL.out]; exact hlt)] at hc
              injection hc with hc
              rw [hc]
            have STOP : Hid (rdStop x (decide (j = 0)) c → nm (bts s) = false ∧ nv (bts s) = 0) := fun h => NO.out (by
              rw [HR.out.2.2, hd, rd_stop h]
              simp
              omega)
            have C0 : Hid (j = 0 → c = c0) := fun h => by subst h; rw [hc] at hc0; injection hc0
            have GO : Hid (¬ rdStop x (decide (j = 0)) c → (j + 1 = 0 → x * 10 + (c - 48) = 0) ∧ (0 < j + 1 → x * 10 + (c - 48) ≠ 0 ∨ s.size = 1) ∧ rn (bts s) = ((rd (x * 10 + (c - 48)) (decide (j + 1 = 0)) ((bts s).drop (j + 1))).1, (rd (x * 10 + (c - 48)) (decide (j + 1 = 0)) ((bts s).drop (j + 1))).2 + (j + 1))) := fun h => by
              refine ⟨fun h => by omega, fun _ => ?_, ?_⟩
              · by_cases hj0 : j = 0
                · have := C0.out hj0
                  by_cases e : c = 48
                  · right
                    rcases Nat.lt_or_ge 1 s.size with h1 | h1
                    · exact absurd ⟨by omega, h1⟩ HZ.out
                    · omega
                  · left
                    unfold rdStop at h
                    omega
                · rcases HR.out.2.1 (by omega) with h1 | h1
                  · left; omega
                  · right; exact h1
              · rw [HR.out.2.2, hd, rd_go h, decide_eq_false (show ¬ (j + 1 = 0) by omega)]
                simp only [Prod.mk.injEq, true_and]
                omega
            have NZ : Hid (j = 0 ∨ x ≠ 0) := by
              unfold Hid
              by_cases hj0 : j = 0
              · exact .inl hj0
              · rcases HR.out.2.1 (by omega) with h1 | h1
                · exact .inr h1
                · omega
            clear HR hc hd
            by_cases c1 : c < 48
            · obtain ⟨n1, n2⟩ := STOP.out (by unfold rdStop; omega)
              have E := hide n1
              have F := hide n2
              clear n1 n2
              go_wp2
              go_ret2
              exact ⟨by rw [E.out, F.out]; rfl, rfl⟩
            · by_cases c2 : 57 < c
              · obtain ⟨n1, n2⟩ := STOP.out (by unfold rdStop; omega)
                have E := hide n1
                have F := hide n2
                clear n1 n2
                go_wp2
                go_ret2
                exact ⟨by rw [E.out, F.out]; rfl, rfl⟩
              · have d1 : IntKind.u8.wrap ((c : Int) - 48) = (c : Int) - 48 := by simp [IntKind.wrap, IntKind.bits, IntKind.signed]; omega
                have d2 : IntKind.u64.wrap ((c : Int) - 48) = (c : Int) - 48 := by simp [IntKind.wrap, IntKind.bits, IntKind.signed]; omega
                have d3 : IntKind.u64.wrap (18446744073709551615 - ((c : Int) - 48)) = 18446744073709551615 - ((c : Int) - 48) := by simp [IntKind.wrap, IntKind.bits, IntKind.signed]; omega
                by_cases c5 : (18446744073709551615 - (c - 48)) / 10 < x
                · obtain ⟨n1, n2⟩ := STOP.out (by unfold rdStop; exact .inr (.inr (.inr c5)))
                  have E := hide n1
                  have F := hide n2
                  have d4 : decide ((18446744073709551615 - ((c : Int) - 48)) / 10 < (x : Int)) = true := by rw [decide_eq_true_eq]; omega
                  clear n1 n2
                  go_wp2
                  go_ret2
                  exact ⟨by rw [E.out, F.out]; rfl, rfl⟩
                · have EH := hide <| GO.out (by
                    unfold rdStop
                    rintro (h | h | h | h)
                    · exact c1 h
                    · exact c2 h
                    · rcases NZ.out with h1 | h1
                      · simp [h1] at h
                      · exact h1 h.2
                    · exact c5 h)
                  have d4 : decide ((18446744073709551615 - ((c : Int) - 48)) / 10 < (x : Int)) = false := by rw [decide_eq_false_iff_not]; omega
                  have d5 : IntKind.u64.wrap ((x : Int) * 10) = (x : Int) * 10 := by simp [IntKind.wrap, IntKind.bits, IntKind.signed]; omega
                  have d6 : IntKind.u64.wrap ((x : Int) * 10 + ((c : Int) - 48)) = (x : Int) * 10 + ((c : Int) - 48) := by simp [IntKind.wrap, IntKind.bits, IntKind.signed]; omega
                  clear STOP GO C0
                  go_wp2
                  go_round
                  case rel => exact ⟨x * 10 + (c - 48), j + 1, by congr 1; omega, by go_num, by omega, by first | trivial | rfl, by omega, EH⟩
                  case measure => simp [intOf]; omega
          · obtain rfl : j = s.size := by omega
            have E : Hid (nm (bts s) = true ∧ nv (bts s) = (x : Int)) := by
              have e := HR.out.2.2
              rw [List.drop_of_length_le (by rw [HL.out]; exact Nat.le_refl _), rd_nil] at e
              have n1 : nm (bts s) = true := by unfold nm; rw [decide_eq_true_eq, e, HL.out]; exact ⟨NE.out, by simp⟩
              refine ⟨n1, ?_⟩
              unfold nv
              rw [n1, e]
              rfl
            clear HR
            go_wp2
            go_ret2
            exact ⟨by rw [E.out.1, E.out.2]; rfl, rfl⟩

end Go.Proofs.YtnndldhljonnpaaDoor
