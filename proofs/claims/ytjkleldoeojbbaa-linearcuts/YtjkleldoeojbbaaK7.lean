import Derived.Test.YtjkleldoeojbbaaK6
namespace Go.Proofs.Ytjkleldoeojbbaa
open Go.RowKit Go.Maps
set_option linter.unusedVariables false
set_option linter.unusedSimpArgs false

/-- Rows of truths, of numbers. -/
def yT : Lay Bool := ⟨4, 121, 1, 1, fun b => [.bool b], false⟩
theorem kT : yT.Ok := ⟨by decide, fun x => rfl, fun x u h => by
    simp [yT] at h
    subst h
    rfl, Try.underlying121, ⟨.bool false, by kernel_rfl, rfl⟩⟩
def yN : Lay Int := ⟨3, 50, 1, 8, fun b => [.int .i64 b], 0⟩
theorem kN : yN.Ok := ⟨by decide, fun x => rfl, fun x u h => by
    simp [yN] at h
    subst h
    rfl, Try.underlying50, ⟨.int .i64 0, by kernel_rfl, rfl⟩⟩
theorem SlY.tr {w : World} {a : Option Addr} {n c : Nat} {L : List Bool} (h : SlY yT w a n c L) {j : Nat} {x : Bool} (hx : L[j]? = some x) : ∃ q o, a = some ⟨q, o, none⟩ ∧ q < w.heap.size ∧ w.cell? ⟨q, o + j, none⟩ = some (.bool x) := by
  obtain ⟨q, o, ea, hq, hl⟩ := h.place (by rintro rfl; simp at hx)
  have := hl j x hx 0 _ rfl
  exact ⟨q, o, ea, hq, by simpa [yT] using this⟩
theorem SlY.nm {w : World} {a : Option Addr} {n c : Nat} {L : List Int} (h : SlY yN w a n c L) {j : Nat} {x : Int} (hx : L[j]? = some x) : ∃ q o, a = some ⟨q, o, none⟩ ∧ q < w.heap.size ∧ w.cell? ⟨q, o + j, none⟩ = some (.int .i64 x) := by
  obtain ⟨q, o, ea, hq, hl⟩ := h.place (by rintro rfl; simp at hx)
  have := hl j x hx 0 _ rfl
  exact ⟨q, o, ea, hq, by simpa [yN] using this⟩
theorem SlY.on {α : Type} {Y : Lay α} {w w' : World} {a : Option Addr} {n c B : Nat} {l : List α} (h : SlY Y w a n c l) (hb : Below B w w') (hB : w.heap.size ≤ B) : SlY Y w' a n c l := h.bel hb hB
theorem retB18 {a b : Bool} (h : a = b) : Ending.returned (.bool a) = .returned (.bool b) := by rw [h]
theorem at9_get {D : List Bool} {j : Nat} {b : Bool} (h : D[j]? = some b) : at9 D j = b := by simp [at9, h]
set_option maxRecDepth 100000 in
set_option maxHeartbeats 1000000 in
theorem lacks_any (L : List Kl) (a : Option Addr) (c : Nat) (D : List Bool) (a2 : Option Addr) (c2 : Nat) (w : World) (h : SlY yK w a L.length c L) (h2 : SlY yT w a2 D.length c2 D) (hl : L.length ≤ D.length) :
    Calls Try.prog 57 #[.slice a L.length c, .slice a2 D.length c2] w fun e w' => e = .returned (.bool (lckK L D)) ∧ Below w.heap.size w w' := by
  have hmx := h.max
  have hcp := h.cap
  have hmx2 := h2.max
  have hcp2 := h2.cap
  unfold maxLen at hmx hmx2
  have H := hide h
  have H2 := hide h2
  have HX : Hid (lcI L D 0 = false) := by show _ = _; simp [lcI]
  clear h h2
  go_enter Try.func57, Try.ntmps57
  go_wp2
  go_loopw [9] (fun i wr => ∃ j : Nat, i = .int .i64 (j : Int) ∧ j ≤ L.length ∧ lcI L D j = false ∧ Below w.heap.size w wr) (fun i _ => L.length - (intOf i).toNat)
  case atStart => exact ⟨0, rfl, Nat.zero_le _, HX.out, Below.refl _ _⟩
  case round =>
    obtain ⟨j, rfl, hj, hX, hb⟩ := hrel
    by_cases hlt : j < L.length
    · obtain ⟨x, hx⟩ : ∃ x, L[j]? = some x := ⟨_, List.getElem?_eq_getElem hlt⟩
      obtain ⟨d, hd⟩ : ∃ d, D[j]? = some d := ⟨_, List.getElem?_eq_getElem (by omega)⟩
      obtain ⟨q, o, rfl, KX⟩ := (H.out.on hb (Nat.le_refl _)).kl hx
      obtain ⟨q2, o2, rfl, hq2, hc2⟩ := (H2.out.on hb (Nat.le_refl _)).tr hd
      have hS := hide ((lcI_succ (D := D) hx).trans (by rw [hX, Bool.false_or, at9_get hd]))
      have hE := hide (show lckK L D = false → False → True from fun _ _ => trivial)
      have hT : Hid (lcI L D (j + 1) = true → lckK L D = true) := fun h => by
        unfold lcI at h
        unfold lckK lcI
        rw [List.any_eq_true] at h ⊢
        obtain ⟨i, hi, h⟩ := h
        exact ⟨i, List.mem_range.2 (by have := List.mem_range.1 hi; omega), h⟩
      obtain ⟨_, e0, e1, e2, e3, e4, e5, e6, e7, e8, e9⟩ := KX
      have hdl : j < D.length := by omega
      have hsz := hb.size
      have BH := hide hb
      clear hb hX
      have ci := fun W => isAnswered_any x W
      have kx := hide (KB.new wr x 66)
      have bx := hide ((Below.refl wr.heap.size wr).alloc (Nat.le_refl _) (.cells x.cs.toArray 66))
      unfold Kl.val at ci
      unfold Kl.cs at kx bx
      have n3 : q2 ≠ wr.heap.size := by omega
      cases ha : ansK x with
      | false =>
        rw [ha] at ci
        have hS2 : Hid (lcI L D (j + 1) = false) := by
          have := hS.out
          rw [ha] at this
          exact this
        go_wp2_with (first
          | (go_at_call 49; refine (ci _).mono ?_; rintro e w1 ⟨rfl, b1⟩)
          | go_in)
        have B1 := hide (BH.out.trans ((bx.out.trans (b1.mono (by simp))).mono hsz))
        go_round
        case rel => exact ⟨j + 1, by go_num, by omega, hS2.out, B1.out⟩
        case measure => simp [intOf]; omega
      | true =>
        rw [ha] at ci
        cases d with
        | true =>
          have hS2 : Hid (lcI L D (j + 1) = false) := by
            have := hS.out
            rw [ha] at this
            exact this
          go_wp2_with (first
            | (go_at_call 49; refine (ci _).mono ?_; rintro e w1 ⟨rfl, b1⟩; have hc3 := ((bx.out.trans (b1.mono (by simp))).cell (p := ⟨q2, o2 + j, none⟩) hq2).trans hc2)
            | go_in)
          have B1 := hide (BH.out.trans ((bx.out.trans (b1.mono (by simp))).mono hsz))
          go_round
          case rel => exact ⟨j + 1, by go_num, by omega, hS2.out, B1.out⟩
          case measure => simp [intOf]; omega
        | false =>
          have hS2 : Hid (lckK L D = true) := by
            have := hS.out
            rw [ha] at this
            exact hT.out this
          go_wp2_with (first
            | (go_at_call 49; refine (ci _).mono ?_; rintro e w1 ⟨rfl, b1⟩; have hc3 := ((bx.out.trans (b1.mono (by simp))).cell (p := ⟨q2, o2 + j, none⟩) hq2).trans hc2)
            | go_in)
          have B1 := hide (BH.out.trans ((bx.out.trans (b1.mono (by simp))).mono hsz))
          go_ret
          exact ⟨retB18 hS2.out.symm, B1.out⟩
    · obtain rfl : j = L.length := by omega
      have hX3 : Hid (lckK L D = false) := hX
      have BH := hide hb
      clear hb
      go_wp2
      go_ret
      exact ⟨retB18 hX3.out.symm, BH.out⟩

end Go.Proofs.Ytjkleldoeojbbaa
