import Derived.Test.YtjkleldoeojbbaaK17
import Derived.Lib.MinMax
namespace Go.Proofs.Ytjkleldoeojbbaa
open Go.RowKit Go.Maps
open Classical
set_option linter.unusedVariables false
set_option linter.unusedSimpArgs false

theorem stK_at {n : Nat} {Ord : List Int} {j : Nat} {p : Int} {s : List Bool} (h : Ord[j]? = some p) : stK n (Ord.drop j) s = if p < 0 ∨ (n : Int) ≤ p ∨ at9 s p.toNat = true then none else stK n (Ord.drop (j + 1)) (s.set p.toNat true) := by
  have hj := (List.getElem?_eq_some_iff.1 h).1
  have he := (List.getElem?_eq_some_iff.1 h).2
  rw [List.drop_eq_getElem_cons hj, he, stK]
theorem stK_end {n : Nat} (Ord : List Int) (s : List Bool) : stK n (Ord.drop Ord.length) s = some s := by simp [stK]
theorem stK_len {n : Nat} : ∀ (Ord : List Int) (s s' : List Bool), stK n Ord s = some s' → s'.length = s.length
  | [], s, s', h => by simp [stK] at h; rw [h]
  | p :: r, s, s', h => by
    unfold stK at h
    split at h
    · cases h
    · have := stK_len r _ _ h
      simpa using this
theorem OwnY.tr {B g n c : Nat} {w : World} {s : List Bool} (h : OwnY yT B w (.slice (some ⟨g, 0, none⟩) n c) s) {j : Nat} {x : Bool} (hx : s[j]? = some x) : w.cell? ⟨g, j, none⟩ = some (.bool x) := by
  have := h.cell kT j x hx 0 _ rfl
  simpa [yT] using this
theorem OwnY.trSet {B g n c : Nat} {w : World} {s : List Bool} (h : OwnY yT B w (.slice (some ⟨g, 0, none⟩) n c) s) {j : Nat} {x : Bool} (hx : s[j]? = some x) (b : Bool) : OwnY yT B (w.setCell ⟨g, j, none⟩ (.bool b)) (.slice (some ⟨g, 0, none⟩) n c) (s.set j b) := by
  have := h.set1 kT hx b 0 (.bool b) (by decide) rfl
  simpa [yT] using this
theorem OwnY.nmSet {B g n c : Nat} {w : World} {s : List Int} (h : OwnY yN B w (.slice (some ⟨g, 0, none⟩) n c) s) {j : Nat} {x : Int} (hx : s[j]? = some x) (b : Int) : OwnY yN B (w.setCell ⟨g, j, none⟩ (.int .i64 b)) (.slice (some ⟨g, 0, none⟩) n c) (s.set j b) := by
  have := h.set1 kN hx b 0 (.int .i64 b) (by decide) rfl
  simpa [yN] using this
theorem OwnY.nm {B g n c : Nat} {w : World} {s : List Int} (h : OwnY yN B w (.slice (some ⟨g, 0, none⟩) n c) s) {j : Nat} {x : Int} (hx : s[j]? = some x) : w.cell? ⟨g, j, none⟩ = some (.int .i64 x) := by
  have := h.cell kN j x hx 0 _ rfl
  simpa [yN] using this
/-- What standing answers. -/
def stnd (n : Nat) (Ord : List Int) : Option (List Bool) := stK n Ord (List.replicate n false)
set_option maxRecDepth 100000 in
set_option maxHeartbeats 1000000 in
theorem standing_any (L : List Kl) (a : Option Addr) (c : Nat) (Ord : List Int) (a2 : Option Addr) (c2 : Nat) (w : World) (h : SlY yK w a L.length c L) (h2 : SlY yN w a2 Ord.length c2 Ord) (hb : L.length ≤ 140737488355328) :
    Calls Try.prog 56 #[.slice a L.length c, .slice a2 Ord.length c2] w fun e w' => ∃ v, e = .returned (.tuple #[v, .bool (stnd L.length Ord).isSome]) ∧ OwnY yT w.heap.size w' v ((stnd L.length Ord).getD []) ∧ Below w.heap.size w w' := by
  have hmx := h.max
  have hcp := h.cap
  have hmx2 := h2.max
  have hcp2 := h2.cap
  unfold maxLen at hmx hmx2
  have H2 := hide h2
  have HE : Hid (stnd L.length Ord = stK L.length (Ord.drop 0) (List.replicate L.length false)) := rfl
  generalize stnd L.length Ord = X at *
  clear h h2
  go_enter Try.func56, Try.ntmps56
  go_wp2_with (at_make; go_must (refine makeY kT _ rfl (.tmp 10) rfl L.length rfl (by unfold maxLen; omega) (by show L.length * 1 ≤ _; omega) ?_; intro w1 o1 b1))
  have O1 := hide o1
  have B1 := hide b1
  have z1 := (o1.blk w.heap.size rfl).2
  clear o1 b1
  go_loopw [14] (fun i wr => ∃ (j : Nat) (s : List Bool), i = .int .i64 (j : Int) ∧ j ≤ Ord.length ∧ OwnY yT w.heap.size wr (.slice (some ⟨w.heap.size, 0, none⟩) L.length L.length) s ∧ s.length = L.length ∧ Below w.heap.size w wr ∧ X = stK L.length (Ord.drop j) s) (fun i _ => Ord.length - (intOf i).toNat)
  case atStart => exact ⟨0, _, rfl, Nat.zero_le _, O1.out, by simp, B1.out, HE.out⟩
  case round =>
    obtain ⟨j, s, rfl, hj, os, hsl, hbr, hX⟩ := hrel
    by_cases hlt : j < Ord.length
    · obtain ⟨p, hp⟩ : ∃ p, Ord[j]? = some p := ⟨_, List.getElem?_eq_getElem hlt⟩
      obtain ⟨q, o, rfl, hq, hc⟩ := (H2.out.on hbr (Nat.le_refl _)).nm hp
      have HS := hide (hX.trans (stK_at hp))
      have OS := hide os
      have SL := hide hsl
      have BR := hide hbr
      clear hX os hsl hbr
      by_cases h0 : p < 0
      · have HS2 : Hid (X = none) := by have := HS.out; rw [if_pos (.inl h0)] at this; exact this
        go_wp2
        go_ret2
        exact ⟨_, by rw [HS2.out]; rfl, by rw [HS2.out]; exact OwnY.nil _ _ _, BR.out⟩
      · obtain ⟨m, rfl⟩ : ∃ m : Nat, p = (m : Int) := ⟨p.toNat, by omega⟩
        by_cases h1 : m < L.length
        · obtain ⟨x, hx⟩ : ∃ x, s[m]? = some x := ⟨_, List.getElem?_eq_getElem (by rw [SL.out]; exact h1)⟩
          have hcx := OS.out.tr hx
          have hfr := OS.out.free m
          have ha9 : at9 s m = x := at9_get hx
          have h1' : ¬ (L.length : Int) ≤ (m : Int) := by omega
          have h1'' : ¬ L.length ≤ m := by omega
          cases x with
          | true =>
            have HS2 : Hid (X = none) := by have := HS.out; rw [Int.toNat_natCast, if_pos (.inr (.inr ha9))] at this; exact this
            go_wp2
            go_ret2
            exact ⟨_, by rw [HS2.out]; rfl, by rw [HS2.out]; exact OwnY.nil _ _ _, BR.out⟩
          | false =>
            have HS2 : Hid (X = stK L.length (Ord.drop (j + 1)) (s.set m true)) := by
              have := HS.out
              rw [Int.toNat_natCast, if_neg (by rw [ha9]; simp; omega)] at this
              exact this
            have O2 := hide (OS.out.trSet hx true)
            go_wp2
            go_round
            case rel => exact ⟨j + 1, _, by go_num, by omega, O2.out, by rw [List.length_set]; exact SL.out, BR.out.setCell (by simp) _, HS2.out⟩
            case measure => simp [intOf]; omega
        · have HS2 : Hid (X = none) := by have := HS.out; rw [if_pos (.inr (.inl (by omega)))] at this; exact this
          have h1' : (L.length : Int) ≤ (m : Int) := by omega
          have h1'' : L.length ≤ m := by omega
          go_wp2
          go_ret2
          exact ⟨_, by rw [HS2.out]; rfl, by rw [HS2.out]; exact OwnY.nil _ _ _, BR.out⟩
    · obtain rfl : j = Ord.length := by omega
      have HS2 : Hid (X = some s) := hX.trans (stK_end Ord s)
      have OS := hide os
      have BR := hide hbr
      clear hX os hbr
      go_wp2
      go_ret2
      exact ⟨_, by rw [HS2.out]; rfl, by rw [HS2.out]; exact OS.out, BR.out⟩

end Go.Proofs.Ytjkleldoeojbbaa
