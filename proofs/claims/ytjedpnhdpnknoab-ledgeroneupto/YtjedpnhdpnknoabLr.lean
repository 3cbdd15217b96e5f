import Derived.Test.YtjedpnhdpnknoabLq
namespace Go.Proofs.Ytjedpnhdpnknoab
open Go.RowKit
set_option linter.unusedVariables false

def atC (A : List Cl) (k : Nat) : Cl := A.getD k (0, ByteArray.empty)
theorem some_atC {A : List Cl} {k : Nat} (h : k < A.length) : A[k]? = some (atC A k) := by
  simp [atC, h]
theorem ext_atC {A B : List Cl} (hl : A.length = B.length) (h : ∀ i, i < A.length → atC A i = atC B i) : A = B := by
  apply List.ext_getElem hl
  intro i h1 h2
  have := h i h1
  simpa [atC, h1, h2] using this
theorem SlC.place {w : World} {v : Value} {D : List Cl} {a : Option Addr} {c : Nat} (h : SlC w v D a c) (hD : D ≠ []) : ∃ q o, a = some ⟨q, o, none⟩ ∧ q < w.heap.size ∧ LieC w q o D := by
  cases a with
  | none => exact absurd (h.nil rfl).1 hD
  | some x =>
    rcases h.at_ x rfl with ⟨e, _⟩ | ⟨q, o, rfl, hq, hl⟩
    · exact absurd e hD
    · exact ⟨q, o, rfl, hq, hl⟩

theorem not_same {A B : List Cl} {k : Nat} (h : atC A k ≠ atC B k) : A ≠ B := fun e => h (by rw [e])
set_option maxRecDepth 100000 in
set_option maxHeartbeats 400000 in
theorem samecells_any (A B : List Cl) (a1 a2 : Option Addr) (c1 c2 : Nat) (w : World) (h1 : SlC w (.slice a1 A.length c1) A a1 c1) (h2 : SlC w (.slice a2 B.length c2) B a2 c2) :
    Calls Try.prog 16 #[.slice a1 A.length c1, .slice a2 B.length c2] w fun e w' => e = .returned (.bool (decide (A = B))) ∧ ∃ k, w' = w.drewN k := by
  have m1 := h1.max
  have k1 := h1.cap
  have k2 := h2.cap
  unfold maxLen at m1
  have m2 := h2.max
  unfold maxLen at m2
  by_cases hl : A.length = B.length
  · by_cases hA : A = []
    · subst hA
      obtain rfl : B = [] := List.eq_nil_of_length_eq_zero (by simpa using hl.symm)
      clear h1 h2
      go_enter Try.func16, Try.ntmps16
      go_wp2
      go_loopw [5] (fun i wr => i = .int .i64 0 ∧ wr = w) (fun _ _ => 0)
      case atStart => exact ⟨rfl, rfl⟩
      case round =>
        obtain ⟨rfl, rfl⟩ := hrel
        go_wp2
        go_ret
        exact ⟨rfl, 0, rfl⟩
    · have hB : B ≠ [] := by
        rintro rfl
        exact hA (List.eq_nil_of_length_eq_zero (by simpa using hl))
      obtain ⟨q1, o1, rfl, b1, l1⟩ := h1.place hA
      obtain ⟨q2, o2, rfl, b2, l2⟩ := h2.place hB
      have L1 := hide l1
      have L2 := hide l2
      have HB := hide hl
      rw [← hl] at k2 ⊢
      clear h1 h2 l1 l2 hl hA hB
      generalize hn : A.length = n at *
      have HN := hide hn
      clear hn
      go_enter Try.func16, Try.ntmps16
      go_wp2
      go_loopw [5] (fun i wr => ∃ (k j : Nat), i = .int .i64 (k : Int) ∧ k ≤ n ∧ (∀ i, i < k → atC A i = atC B i) ∧ wr = w.drewN j) (fun i _ => n - (intOf i).toNat)
      case atStart => exact ⟨0, 0, rfl, Nat.zero_le _, (fun i hi => by omega), rfl⟩
      case round =>
        obtain ⟨k, j, rfl, hk, hsame, rfl⟩ := hrel
        by_cases hlt : k < n
        · have hd1 := some_atC (A := A) (k := k) (by have := HN.out; omega)
          have hd2 := some_atC (A := B) (k := k) (by have := HN.out; have := HB.out; omega)
          have NS := hide (not_same (A := A) (B := B) (k := k))
          have HS : Hid (atC A k = atC B k → ∀ i, i < k + 1 → atC A i = atC B i) := fun h i hi => by
            by_cases h2 : i < k
            · exact hsame i h2
            · obtain rfl : i = k := by omega
              exact h
          clear hsame
          generalize atC A k = d1 at *
          generalize atC B k = d2 at *
          obtain ⟨x, y⟩ := d1
          obtain ⟨x', y'⟩ := d2
          obtain ⟨e0, e1⟩ := L1.out k _ hd1
          obtain ⟨e2, e3⟩ := L2.out k _ hd2
          simp only at e0 e1 e2 e3
          clear L1 L2 hd1 hd2
          by_cases f1 : x = x'
          · subst f1
            by_cases f2 : y = y'
            · subst f2
              have HS2 := hide (HS.out rfl)
              clear HS
              go_wp2
              go_quiet (fail)
              go_wp2
              go_round
              case rel => exact ⟨k + 1, _, by go_num, by omega, HS2.out, rfl⟩
              case measure => simp [intOf]; omega
            · have NE := hide (decide_eq_false (NS.out (by simp; exact f2)))
              have f2 : ¬ (y.toList = y'.toList) := fun e => f2 ((bytes_inj _ _).1 e)
              clear NS HS
              go_wp2
              go_quiet (fail)
              go_wp2
              go_ret
              exact ⟨by rw [NE.out]; rfl, j + nq, by simp⟩
          · have NE := hide (decide_eq_false (NS.out (by simp; intro h; exact absurd h f1)))
            clear NS HS
            go_wp2
            go_quiet (fail)
            go_wp2
            go_ret
            exact ⟨by rw [NE.out]; rfl, j + nq, by simp⟩
        · obtain rfl : k = n := by omega
          have HE := hide (decide_eq_true (ext_atC (A := A) (B := B) (by rw [HN.out, HB.out]) (fun i hi => hsame i (by rw [HN.out] at hi; exact hi))))
          clear hsame
          go_wp2
          go_ret
          exact ⟨by rw [HE.out]; rfl, _, rfl⟩
  · have hr : decide (A = B) = false := decide_eq_false (fun e => hl (by rw [e]))
    rw [hr]
    have f1 : ((A.length : Int) == (B.length : Int)) = false := by simp; omega
    clear hr h1 h2
    go_enter Try.func16, Try.ntmps16
    go_wp2
    go_ret
    exact ⟨rfl, 0, rfl⟩


end Go.Proofs.Ytjedpnhdpnknoab
