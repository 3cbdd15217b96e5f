import Derived.Test.YtjedpnhdpnknoabMl
namespace Go.Proofs.Ytjedpnhdpnknoab
open Go.RowKit
set_option linter.unusedVariables false

theorem rcs_one3 (w : World) (r : Rs) (T : TypeId) (g : Nat) (h : At3 w g r.1 r.2.1 r.2.2) : ∀ j u, (rcs [r])[j]? = some u → w.cell? ((⟨g, 0, none⟩ : Addr).add j) = some u := by
  intro j u hu
  rw [Addr.add_lit, Nat.zero_add]
  match j, hu with
  | 0, hu => simp [rcs] at hu; subst hu; exact h.1
  | 1, hu => simp [rcs] at hu; subst hu; exact h.2.1
  | 2, hu => simp [rcs] at hu; subst hu; exact h.2.2
  | j + 3, hu => simp [rcs] at hu
set_option maxRecDepth 100000 in
set_option maxHeartbeats 1000000 in
theorem sameres_own (D : List Rs) (B1 B2 : Nat) (v1 v2 : Value) (w : World) (h1 : Own3 26 B1 w v1 D) (h2 : Own3 26 B2 w v2 D) :
    Calls Try.prog 18 #[v1, v2] w fun e w' => e = .returned (.bool true) ∧ Below w.heap.size w w' := by
  obtain ⟨a1, c1, rfl, hc1, hm1, hn1, hx1⟩ := h1.form
  obtain ⟨a2, c2, rfl, hc2, hm2, hn2, hx2⟩ := h2.form
  unfold maxLen at hm1 hm2
  have H1 := hide h1
  have H2 := hide h2
  have X1 := hide hx1
  have X2 := hide hx2
  have N1 := hide hn1
  have N2 := hide hn2
  clear h1 h2 hx1 hx2 hn1 hn2
  go_enter Try.func18, Try.ntmps18
  go_wp2
  go_loopw [5] (fun i wr => ∃ k n : Nat, i = .int .i64 (k : Int) ∧ k ≤ D.length ∧ wr = w.drewN n) (fun i _ => D.length - (intOf i).toNat)
  case atStart => exact ⟨0, 0, rfl, Nat.zero_le _, rfl⟩
  case round =>
    obtain ⟨k, n, rfl, hk, rfl⟩ := hrel
    by_cases hlt : k < D.length
    · obtain ⟨d, hd⟩ : ∃ d, D[k]? = some d := ⟨_, List.getElem?_eq_getElem hlt⟩
      have hne : D ≠ [] := by rintro rfl; simp at hlt
      cases a1 with
      | none => exact absurd (N1.out rfl).1 hne
      | some z1 =>
        cases a2 with
        | none => exact absurd (N2.out rfl).1 hne
        | some z2 =>
          obtain ⟨g1, rfl, _, _⟩ := X1.out z1 rfl
          obtain ⟨g2, rfl, _, _⟩ := X2.out z2 rfl
          obtain ⟨e0, e1, e2⟩ := H1.out.cell k d hd
          obtain ⟨f0, f1, f2⟩ := H2.out.cell k d hd
          obtain ⟨x, y, z⟩ := d
          dsimp only at e0 e1 e2 f0 f1 f2
          clear hd hne
          go_wp2
          go_quiet (fail)
          go_wp2
          go_round
          case rel => exact ⟨k + 1, n + nq, by go_num, by omega, by simp⟩
          case measure => simp [intOf]; omega
    · obtain rfl : k = D.length := by omega
      go_wp2
      go_ret
      exact ⟨rfl, belN (Below.refl _ w) n⟩

end Go.Proofs.Ytjedpnhdpnknoab
