import Derived.Test.YtcmjhaljbmhpgaaGreatSa
namespace Go.Proofs.YtcmjhaljbmhpgaaGreat
open Go.RowKit Go.Maps
open Classical
set_option linter.unusedVariables false
set_option linter.unusedSimpArgs false

/-- Whole numbers in a row. -/
def yI : Lay Int := ⟨3, 95, 1, 8, fun x => [.int .i64 x], 0⟩
theorem kI : yI.Ok := ⟨by decide, fun x => rfl, fun x u h => by
    simp [yI] at h
    subst h
    rfl, Tryz.underlying95, ⟨.int .i64 0, by kernel_rfl, rfl⟩⟩
theorem SlY.int {w : World} {a : Option Addr} {n c : Nat} {L : List Int} (h : SlY yI w a n c L) {j : Nat} {x : Int} (hx : L[j]? = some x) : ∃ q o, a = some ⟨q, o, none⟩ ∧ q < w.heap.size ∧ w.cell? ⟨q, o + j, none⟩ = some (.int .i64 x) := by
  obtain ⟨q, o, ea, hq, hl⟩ := h.place (by rintro rfl; simp at hx)
  have := hl j x hx 0 _ rfl
  rw [show o + j * yI.k + 0 = o + j by show o + j * 1 + 0 = o + j; omega] at this
  exact ⟨q, o, ea, hq, this⟩
set_option maxHeartbeats 400000 in
theorem cmpint_any (x y : Int) (w : World) : Calls Tryz.prog 77 #[.int .i64 x, .int .i64 y] w fun e w' => e = .returned (.int .i64 (cmpI x y)) ∧ w' = w := by
  unfold cmpI
  rcases Int.lt_trichotomy x y with c | c | c
  · rw [if_pos c]
    go_enter Tryz.func77, Tryz.ntmps77
    go_wp2
    go_ret
    exact ⟨rfl, rfl⟩
  · subst c
    rw [if_neg (Int.lt_irrefl x), if_neg (Int.lt_irrefl x)]
    go_enter Tryz.func77, Tryz.ntmps77
    go_wp2
    go_ret
    exact ⟨rfl, rfl⟩
  · have c2 : ¬ x < y := by omega
    rw [if_neg c2, if_pos c]
    go_enter Tryz.func77, Tryz.ntmps77
    go_wp2
    go_ret
    exact ⟨rfl, rfl⟩
/-- The first that is not 0. -/
def orI : List Int → Int
  | [] => 0
  | x :: r => if x = 0 then orI r else x
theorem orI_drop {L : List Int} {j : Nat} (h : j < L.length) : orI (L.drop j) = if L[j] = 0 then orI (L.drop (j + 1)) else L[j] := by
  rw [List.drop_eq_getElem_cons h, orI]
set_option maxRecDepth 100000 in
set_option maxHeartbeats 1000000 in
theorem or_any (L : List Int) (a : Option Addr) (n c : Nat) (w : World) (h : SlY yI w a n c L) : Calls Tryz.prog 75 #[.slice a n c] w fun e w' => e = .returned (.int .i64 (orI L)) ∧ w' = w := by
  have hmx := h.max
  have hcp := h.cap
  have hln := h.len
  unfold maxLen at hmx
  have H := hide h
  have HN := hide hln
  clear h hln
  go_enter Tryz.func75, Tryz.ntmps75
  go_wp2
  go_loopw [8] (fun i wr => ∃ j : Nat, i = .int .i64 (j : Int) ∧ j ≤ n ∧ Hid (orI L = orI (L.drop j)) ∧ wr = w) (fun i _ => n - (intOf i).toNat)
  case atStart => exact ⟨0, rfl, Nat.zero_le _, rfl, rfl⟩
  case round =>
    obtain ⟨j, rfl, hj, hA, e1⟩ := hrel
    have e1 := e1.symm
    subst e1
    by_cases hlt : j < n
    · have hjl : j < L.length := by rw [HN.out]; exact hlt
      have hg : L[j]? = some L[j] := List.getElem?_eq_getElem hjl
      obtain ⟨q, o, rfl, hq, y0⟩ := H.out.int hg
      have hd := hide (orI_drop hjl)
      clear hg
      generalize L[j] = x at *
      by_cases hx : x = 0
      · subst hx
        have hN : Hid (orI L = orI (L.drop (j + 1))) := by show _ = _; rw [hA.out, hd.out, if_pos rfl]
        clear hA hd
        go_wp2
        go_round
        case rel => exact ⟨j + 1, by go_num, by omega, hN, trivial⟩
        case measure => simp [intOf]; omega
      · have hN : Hid (orI L = x) := by show _ = _; rw [hA.out, hd.out, if_neg hx]
        have hx2 : (x != 0) = true := by simp [hx]
        clear hA hd
        go_wp2
        go_ret
        exact ⟨by rw [hN.out]; rfl, rfl⟩
    · obtain rfl : j = n := by omega
      have hN : Hid (orI L = 0) := by show _ = _; rw [hA.out, List.drop_of_length_le (by rw [HN.out]; exact Nat.le_refl _), orI]
      clear hA
      go_wp2
      go_ret
      exact ⟨by rw [hN.out]; rfl, rfl⟩

end Go.Proofs.YtcmjhaljbmhpgaaGreat
