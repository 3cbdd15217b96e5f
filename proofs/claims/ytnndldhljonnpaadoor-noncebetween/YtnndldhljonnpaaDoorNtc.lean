import Derived.Test.YtnndldhljonnpaaDoorNta
import Derived.Test.YtnndldhljonnpaaDoorNb
namespace Go.Proofs.YtnndldhljonnpaaDoor
open Go.RowKit
set_option linter.unusedVariables false
set_option linter.unusedSimpArgs false

/-- The bytes of a string, as numbers. -/
def bts (s : ByteArray) : List Nat := s.data.toList.map UInt8.toNat
theorem bts_len (s : ByteArray) : (bts s).length = s.size := by unfold bts; rw [List.length_map, Array.length_toList]; rfl
theorem idx_any {s : ByteArray} {j c : Nat} (h : (bts s)[j]? = some c) (w : World) : (Instr.index 9 (.string s) (.int .i64 (j : Int))).run Tryd.prog w = .ok (.int .u8 (c : Int)) w := by
  have hj : j < s.size := by rw [← bts_len]; exact (List.getElem?_eq_some_iff.1 h).1
  rw [run_index_string w 9 s .i64 (j : Int) Tryd.underlying9, dif_pos ⟨by omega, by omega⟩]
  have e : ((s[((j : Int)).toNat]'(by omega)).toNat : Int) = (c : Int) := by
    have h2 : (bts s)[j]? = some (s[j]'hj).toNat := by
      unfold bts
      rw [List.getElem?_map, List.getElem?_eq_getElem (by simpa using hj)]
      rfl
    rw [h] at h2
    injection h2 with h2
    simp only [Int.toNat_natCast]
    omega
  rw [e]
theorem bts_lt {s : ByteArray} {j c : Nat} (h : (bts s)[j]? = some c) : c < 256 := by
  unfold bts at h
  rw [List.getElem?_map] at h
  obtain ⟨x, _, rfl⟩ := Option.map_eq_some_iff.1 h
  exact UInt8.toNat_lt x
set_option maxRecDepth 100000 in
set_option maxHeartbeats 1000000 in
theorem readnum_any (s : ByteArray) (k : Nat) (w : World) (hk : k ≤ s.size) (hs : s.size ≤ 4611686018427387904) :
    Calls Tryd.prog 14 #[.string s, .int .i64 (k : Int)] w fun e w' => e = .returned (.tuple #[.int .u64 ((rn ((bts s).drop k)).1 : Int), .int .i64 ((k + (rn ((bts s).drop k)).2 : Nat) : Int)]) ∧ w' = w := by
  have HL := hide (bts_len s)
  go_enter Tryd.func14, Tryd.ntmps14
  go_wp2
  go_loopw [6, 7] (fun v i wr => ∃ x j : Nat, v = .int .u64 (x : Int) ∧ i = .int .i64 (j : Int) ∧ k ≤ j ∧ j ≤ s.size ∧ wr = w ∧ x ≤ 18446744073709551615 ∧ Hid (rn ((bts s).drop k) = ((rd x (decide (j = k)) ((bts s).drop j)).1, (rd x (decide (j = k)) ((bts s).drop j)).2 + (j - k)))) (fun _ i _ => s.size - (intOf i).toNat)
  case atStart => exact ⟨0, k, rfl, rfl, Nat.le_refl _, hk, rfl, by omega, by unfold Hid rn; simp⟩
  case round =>
    obtain ⟨x, j, rfl, rfl, hkj, hj, rfl, hx, HR⟩ := hrel
    by_cases hlt : j < s.size
    · obtain ⟨c, hc⟩ : ∃ c, (bts s)[j]? = some c := ⟨_, List.getElem?_eq_getElem (by rw [HL.out]; exact hlt)⟩
      have hc8 := bts_lt hc
      have ix := fun W => idx_any hc W
      have hd : (bts s).drop j = c :: (bts s).drop (j + 1) := by
        rw [List.drop_eq_getElem_cons (by rw [HL.out]; exact hlt)]
        rw [List.getElem?_eq_getElem (by rw [HL.out]; exact hlt)] at hc
        injection hc with hc
        rw [hc]
      have STOP : Hid (rdStop x (decide (j = k)) c → rn ((bts s).drop k) = (x, j - k)) := fun h => by rw [HR.out, hd, rd_stop h]; simp
      have GO : Hid (¬ rdStop x (decide (j = k)) c → rn ((bts s).drop k) = ((rd (x * 10 + (c - 48)) (decide (j + 1 = k)) ((bts s).drop (j + 1))).1, (rd (x * 10 + (c - 48)) (decide (j + 1 = k)) ((bts s).drop (j + 1))).2 + (j + 1 - k))) := fun h => by
        rw [HR.out, hd, rd_go h, decide_eq_false (show ¬ (j + 1 = k) by omega)]
        simp only [Prod.mk.injEq, true_and]
        omega
      clear HR hc hd
      by_cases c1 : c < 48
      · have E := hide <| STOP.out (by unfold rdStop; omega)
        go_wp2
        go_ret2
        refine ⟨?_, rfl⟩
        rw [E.out]
        show _ = Ending.returned (.tuple #[.int .u64 (x : Int), .int .i64 ((k + (j - k) : Nat) : Int)])
        rw [show k + (j - k) = j by omega]
        rfl
      · by_cases c2 : 57 < c
        · have E := hide <| STOP.out (by unfold rdStop; omega)
          go_wp2
          go_ret2
          refine ⟨?_, rfl⟩
          rw [E.out]
          show _ = Ending.returned (.tuple #[.int .u64 (x : Int), .int .i64 ((k + (j - k) : Nat) : Int)])
          rw [show k + (j - k) = j by omega]
          rfl
        · by_cases c3 : j = k
          · subst c3
            have d1 : IntKind.u8.wrap ((c : Int) - 48) = (c : Int) - 48 := by simp [IntKind.wrap, IntKind.bits, IntKind.signed]; omega
            have d2 : IntKind.u64.wrap ((c : Int) - 48) = (c : Int) - 48 := by simp [IntKind.wrap, IntKind.bits, IntKind.signed]; omega
            have d3 : IntKind.u64.wrap (18446744073709551615 - ((c : Int) - 48)) = 18446744073709551615 - ((c : Int) - 48) := by simp [IntKind.wrap, IntKind.bits, IntKind.signed]; omega
            by_cases c5 : (18446744073709551615 - (c - 48)) / 10 < x
            · have E := hide <| STOP.out (by unfold rdStop; exact .inr (.inr (.inr c5)))
              have d4 : decide ((18446744073709551615 - ((c : Int) - 48)) / 10 < (x : Int)) = true := by rw [decide_eq_true_eq]; omega
              go_wp2
              go_ret2
              refine ⟨?_, rfl⟩
              rw [E.out]
              show _ = Ending.returned (.tuple #[.int .u64 (x : Int), .int .i64 ((j + (j - j) : Nat) : Int)])
              rw [show j + (j - j) = j by omega]
              rfl
            · have EH := hide <| GO.out (by unfold rdStop; simp; omega)
              have d4 : decide ((18446744073709551615 - ((c : Int) - 48)) / 10 < (x : Int)) = false := by rw [decide_eq_false_iff_not]; omega
              have d5 : IntKind.u64.wrap ((x : Int) * 10) = (x : Int) * 10 := by simp [IntKind.wrap, IntKind.bits, IntKind.signed]; omega
              have d6 : IntKind.u64.wrap ((x : Int) * 10 + ((c : Int) - 48)) = (x : Int) * 10 + ((c : Int) - 48) := by simp [IntKind.wrap, IntKind.bits, IntKind.signed]; omega
              clear STOP GO
              go_wp2
              go_round
              case rel => exact ⟨x * 10 + (c - 48), j + 1, by congr 1; omega, by go_num, by omega, by omega, by first | trivial | rfl, by omega, EH⟩
              case measure => simp [intOf]; omega
          · by_cases c4 : x = 0
            · have E := hide <| STOP.out (by unfold rdStop; simp [c3, c4])
              subst c4
              have hkl : k < j := by omega
              go_wp2
              go_ret2
              refine ⟨?_, rfl⟩
              rw [E.out]
              show _ = Ending.returned (.tuple #[.int .u64 ((0 : Nat) : Int), .int .i64 ((k + (j - k) : Nat) : Int)])
              rw [show k + (j - k) = j by omega]
              rfl
            · have d0 : ((x : Int) == 0) = false := by simp; omega
              have d1 : IntKind.u8.wrap ((c : Int) - 48) = (c : Int) - 48 := by simp [IntKind.wrap, IntKind.bits, IntKind.signed]; omega
              have d2 : IntKind.u64.wrap ((c : Int) - 48) = (c : Int) - 48 := by simp [IntKind.wrap, IntKind.bits, IntKind.signed]; omega
              have d3 : IntKind.u64.wrap (18446744073709551615 - ((c : Int) - 48)) = 18446744073709551615 - ((c : Int) - 48) := by simp [IntKind.wrap, IntKind.bits, IntKind.signed]; omega
              by_cases c5 : (18446744073709551615 - (c - 48)) / 10 < x
              · have E := hide <| STOP.out (by unfold rdStop; exact .inr (.inr (.inr c5)))
                have hkl : k < j := by omega
                have d4 : decide ((18446744073709551615 - ((c : Int) - 48)) / 10 < (x : Int)) = true := by rw [decide_eq_true_eq]; omega
                go_wp2
                go_ret2
                refine ⟨?_, rfl⟩
                rw [E.out]
                show _ = Ending.returned (.tuple #[.int .u64 (x : Int), .int .i64 ((k + (j - k) : Nat) : Int)])
                rw [show k + (j - k) = j by omega]
                rfl
              · have EH := hide <| GO.out (by unfold rdStop; simp only [decide_eq_false_iff_not]; omega)
                have hkl : k < j := by omega
                have d4 : decide ((18446744073709551615 - ((c : Int) - 48)) / 10 < (x : Int)) = false := by rw [decide_eq_false_iff_not]; omega
                have d5 : IntKind.u64.wrap ((x : Int) * 10) = (x : Int) * 10 := by simp [IntKind.wrap, IntKind.bits, IntKind.signed]; omega
                have d6 : IntKind.u64.wrap ((x : Int) * 10 + ((c : Int) - 48)) = (x : Int) * 10 + ((c : Int) - 48) := by simp [IntKind.wrap, IntKind.bits, IntKind.signed]; omega
                clear STOP GO
                go_wp2
                go_round
                case rel => exact ⟨x * 10 + (c - 48), j + 1, by congr 1; omega, by go_num, by omega, by omega, by first | trivial | rfl, by omega, EH⟩
                case measure => simp [intOf]; omega
    · obtain rfl : j = s.size := by omega
      have E : Hid (rn ((bts s).drop k) = (x, s.size - k)) := by
        unfold Hid
        rw [HR.out, List.drop_of_length_le (by rw [HL.out]; exact Nat.le_refl _), rd_nil]
        simp
      clear HR
      go_wp2
      go_ret2
      refine ⟨?_, rfl⟩
      rw [E.out]
      show _ = Ending.returned (.tuple #[.int .u64 (x : Int), .int .i64 ((k + (s.size - k) : Nat) : Int)])
      rw [show k + (s.size - k) = s.size by omega]
      rfl


end Go.Proofs.YtnndldhljonnpaaDoor
