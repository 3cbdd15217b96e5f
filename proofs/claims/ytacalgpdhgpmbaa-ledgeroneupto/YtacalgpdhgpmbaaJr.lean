import Derived.Test.YtacalgpdhgpmbaaGLo
namespace Go.Proofs.Ytacalgpdhgpmbaa
open Go.RowKit
open Classical
set_option linter.unusedVariables false

/-- A row of triples that lies at the head of a block. -/
def Row3 (w : World) (a : Option Addr) (D : List Rs) : Prop := ∀ i d, D[i]? = some d → ∃ g, a = some ⟨g, 0, none⟩ ∧ w.cell? ⟨g, i * 3, none⟩ = some (.int .i64 d.1) ∧ w.cell? ⟨g, i * 3 + 1, none⟩ = some (.int .i64 d.2.1) ∧ w.cell? ⟨g, i * 3 + 2, none⟩ = some (.string d.2.2)
theorem Own3.row {T : TypeId} {B : Nat} {w : World} {a : Option Addr} {n c : Nat} {D : List Rs} (h : Own3 T B w (.slice a n c) D) : Row3 w a D := fun i d hd => by
  obtain ⟨a', c', e, _, _, h3, h4⟩ := h.form
  injection e with e1 e2 e3
  subst e1
  cases a with
  | none => rw [(h3 rfl).1] at hd; simp at hd
  | some x =>
    obtain ⟨g, rfl, _, _⟩ := h4 x rfl
    exact ⟨g, rfl, h.cell i d hd⟩
theorem Row3.pre {w : World} {a : Option Addr} {D E : List Rs} (h : Row3 w a (D ++ E)) : Row3 w a D := fun i d hd => h i d (by
  have hi : i < D.length := (List.getElem?_eq_some_iff.1 hd).1
  rw [List.getElem?_append_left hi]; exact hd)
set_option maxRecDepth 100000 in
set_option maxHeartbeats 1000000 in
theorem sameres_lie (D : List Rs) (a1 a2 : Option Addr) (c1 c2 : Nat) (hc1 : D.length ≤ c1) (hm1 : c1 ≤ maxLen) (hc2 : D.length ≤ c2) (hm2 : c2 ≤ maxLen) (w : World) (h1 : Row3 w a1 D) (h2 : Row3 w a2 D) :
    Calls Try.prog 27 #[.slice a1 D.length c1, .slice a2 D.length c2] w fun e w' => e = .returned (.bool true) ∧ Below w.heap.size w w' := by
  unfold maxLen at hm1 hm2
  have H1 := hide h1
  have H2 := hide h2
  clear h1 h2
  go_enter Try.func27, Try.ntmps27
  go_wp2
  go_loopw [5] (fun i wr => ∃ k n : Nat, i = .int .i64 (k : Int) ∧ k ≤ D.length ∧ wr = w.drewN n) (fun i _ => D.length - (intOf i).toNat)
  case atStart => exact ⟨0, 0, rfl, Nat.zero_le _, rfl⟩
  case round =>
    obtain ⟨k, n, rfl, hk, rfl⟩ := hrel
    by_cases hlt : k < D.length
    · obtain ⟨d, hd⟩ : ∃ d, D[k]? = some d := ⟨_, List.getElem?_eq_getElem hlt⟩
      obtain ⟨g1, rfl, e0, e1, e2⟩ := H1.out k d hd
      obtain ⟨g2, rfl, f0, f1, f2⟩ := H2.out k d hd
      obtain ⟨x, y, z⟩ := d
      dsimp only at e0 e1 e2 f0 f1 f2
      clear hd
      go_wp2
      go_quiet (fail)
      go_wp2
      go_round
      case rel => exact ⟨k + 1, n + nq, by go_num, by omega, by simp⟩
      case measure => simp [intOf]; omega
    · obtain rfl : k = D.length := by omega
      go_wp2
      go_ret
      exact ⟨rfl, belN (Below.refl _ w) n⟩

end Go.Proofs.Ytacalgpdhgpmbaa
