import Derived.Test.YtomiifnhcojilaaHo
import Derived.Deep.RegionWith
namespace Go.Proofs.Ytomiifnhcojilaa.Wi
open Go.RowKit
set_option linter.unusedVariables false

set_option maxHeartbeats 400000 in
theorem number_ok (B b : Nat) (l : List Int) (x : Nat) (w : World) (hB : B ≤ b) (h : WOk w b l) (hx : x < 2 ^ 64) (hl : l.length + 9 ≤ 140737488355328) :
    Calls Try.prog 76 #[.pointer (some ⟨b, 0, none⟩), .int .u64 x] w fun e w' => e = .returned (.tuple #[]) ∧ WOk w' b (l ++ M.form x) ∧ Below B w w' := by
  have hc : w.cell? ⟨b, 2, none⟩ = some (.int .i64 0) := by
    rcases h with ⟨_, h⟩ | ⟨_, _, _, _, h⟩
    · exact h.c2
    · exact h.c2
  have HX := hide hx
  clear hx
  go_enter Try.func76, Try.ntmps76
  go_wp2_with (go_at_call 96; go_in)
  refine (lay_any B b l x ⟨#[]⟩ w hB h HX.out (by show l.length + 9 + 0 ≤ _; omega)).mono ?_
  rintro e w1 ⟨rfl, h1, h2⟩
  go_wp2
  go_end0
  exact ⟨rfl, by simpa [sb] using h1, h2⟩

set_option maxHeartbeats 400000 in
theorem bytes_new (b : Nat) (w : World) (h : WNew w b) :
    Calls Try.prog 78 #[.pointer (some ⟨b, 0, none⟩)] w fun e w' => e = .returned (.tuple #[.slice none 0 0, .int .i64 0]) ∧ w' = w := by
  obtain ⟨_, c0, c1, c2, f0, f1, f2⟩ := h
  go_enter Try.func78, Try.ntmps78
  go_wp2
  go_ret2
  exact ⟨rfl, rfl⟩

set_option maxHeartbeats 400000 in
theorem bytes_has (b q g n c : Nat) (l : List Int) (w : World) (h : WHas w b q (some ⟨g, 0, none⟩) n c l) (hl : l.length ≤ 140737488355328) :
    Calls Try.prog 78 #[.pointer (some ⟨b, 0, none⟩)] w fun e w' => ∃ v, e = .returned (.tuple #[v, .int .i64 0]) ∧ Own w.heap.size w' v l ∧ Below w.heap.size w w' := by
  obtain ⟨_, _, hlen, c0, c1, c2, f0, f1, f2, cq, fq, ho⟩ := h
  have hr := ho.row
  have hl1 : n ≤ l.length := by omega
  have hl2 : n ≤ 140737488355328 := by omega
  have HL := hide hlen
  have hnc := ho.cap
  clear hlen ho fq
  go_enter Try.func78, Try.ntmps78
  go_wp2
  go_region_with (go_at_call 99; refine (clone_any ⟨g, 0, none⟩ n c l _ hl1 hl2 ?_).mono ?_; exact hr; rintro e w' ⟨v', rfl, h1, h2, h3⟩)
  all_goals
    have h4 : Own w.heap.size w' v' l := by
      have := h1
      rw [List.take_of_length_le (by have := HL.out; omega)] at this
      exact this
    have h5 : Below w.heap.size w w' := ((Below.refl _ _).drew).trans h3
    clear h1 h3
    go_wp2
    go_ret2
    exact ⟨v', rfl, h4, h5⟩
#print axioms bytes_has

end Go.Proofs.Ytomiifnhcojilaa.Wi
