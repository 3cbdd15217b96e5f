import Derived.Test.YtomiifnhcojilaaBy
namespace Go.Proofs.Ytomiifnhcojilaa.Wi
open Go.RowKit
set_option linter.unusedVariables false

/-- A Writer at the head of block b that keeps an error. -/
structure WBad (w : World) (b : Nat) (E : Int) : Prop where
  lt : b < w.heap.size
  ne : E ≠ 0
  c0 : w.cell? ⟨b, 0, none⟩ = some (.pointer none)
  c1 : w.cell? ⟨b, 1, none⟩ = some (.int .i64 0)
  c2 : w.cell? ⟨b, 2, none⟩ = some (.int .i64 E)
  f0 : w.frozen? ⟨b, 0, none⟩ = false
  f1 : w.frozen? ⟨b, 1, none⟩ = false
  f2 : w.frozen? ⟨b, 2, none⟩ = false
theorem WOk.cells {w : World} {b : Nat} {l : List Int} (h : WOk w b l) : b < w.heap.size ∧ (∃ u, w.cell? ⟨b, 0, none⟩ = some u) ∧ (∃ u, w.cell? ⟨b, 1, none⟩ = some u) ∧ w.cell? ⟨b, 2, none⟩ = some (.int .i64 0) ∧ w.frozen? ⟨b, 0, none⟩ = false ∧ w.frozen? ⟨b, 1, none⟩ = false ∧ w.frozen? ⟨b, 2, none⟩ = false := by
  rcases h with ⟨_, h⟩ | ⟨_, _, _, _, h⟩
  · exact ⟨h.lt, ⟨_, h.c0⟩, ⟨_, h.c1⟩, h.c2, h.f0, h.f1, h.f2⟩
  · exact ⟨by have := h.lt; have := h.ltq; omega, ⟨_, h.c0⟩, ⟨_, h.c1⟩, h.c2, h.f0, h.f1, h.f2⟩

theorem fail_any (B b : Nat) (l : List Int) (E : Int) (hE : E ≠ 0) (w : World) (hB : B ≤ b) (h : WOk w b l) :
    Calls Try.prog 98 #[.pointer (some ⟨b, 0, none⟩), .int .i64 E] w fun e w' => e = .returned (.tuple #[]) ∧ WBad w' b E ∧ Below B w w' := by
  obtain ⟨lt, ⟨u0, c0⟩, ⟨u1, c1⟩, c2, f0, f1, f2⟩ := h.cells
  clear h
  have HE := hide hE
  clear hE
  go_enter Try.func98, Try.ntmps98
  go_wp2
  go_end0
  refine ⟨rfl, ⟨?_, HE.out, ?_, ?_, ?_, ?_, ?_, ?_⟩, ?_⟩
  case refine_8 => exact (((Below.refl _ _).setCell hB _).setCell hB _).setCell hB _
  all_goals go_simp

theorem number_bad (b : Nat) (E : Int) (x : Int) (w : World) (h : WBad w b E) :
    Calls Try.prog 76 #[.pointer (some ⟨b, 0, none⟩), .int .u64 x] w fun e w' => e = .returned (.tuple #[]) ∧ w' = w := by
  obtain ⟨lt, ne, c0, c1, c2, f0, f1, f2⟩ := h
  have hb : (E == 0) = false := by simp [ne]
  have hb2 : (E != 0) = true := by simp [ne]
  go_enter Try.func76, Try.ntmps76
  go_wp2_with (go_at_call 96; go_in)
  go_end0
  exact ⟨rfl, rfl⟩
theorem text_bad (b : Nat) (E : Int) (s : ByteArray) (m : Int) (w : World) (h : WBad w b E) :
    Calls Try.prog 77 #[.pointer (some ⟨b, 0, none⟩), .string s, .int .i64 m] w fun e w' => e = .returned (.tuple #[]) ∧ w' = w := by
  obtain ⟨lt, ne, c0, c1, c2, f0, f1, f2⟩ := h
  have hb : (E == 0) = false := by simp [ne]
  have hb2 : (E != 0) = true := by simp [ne]
  go_enter Try.func77, Try.ntmps77
  go_wp2_with (go_at_call 96; go_in)
  go_end0
  exact ⟨rfl, rfl⟩
theorem text_arg (B b : Nat) (l : List Int) (s : ByteArray) (m : Int) (w : World) (hB : B ≤ b) (h : WOk w b l) (hm : m < 0) :
    Calls Try.prog 77 #[.pointer (some ⟨b, 0, none⟩), .string s, .int .i64 m] w fun e w' => e = .returned (.tuple #[]) ∧ WBad w' b 3 ∧ Below B w w' := by
  have HF := hide (fail_any B b l 3 (by decide) w hB h)
  obtain ⟨lt, ⟨u0, c0⟩, ⟨u1, c1⟩, c2, f0, f1, f2⟩ := h.cells
  clear h
  go_enter Try.func77, Try.ntmps77
  go_wp2_with (go_at_call 96; go_in)
  refine HF.out.mono ?_
  rintro e w1 ⟨rfl, h1, h2⟩
  clear HF
  go_wp2
  go_end0
  exact ⟨rfl, h1, h2⟩
theorem text_long (B b : Nat) (l : List Int) (s : ByteArray) (m : Int) (w : World) (hB : B ≤ b) (h : WOk w b l) (hm : ¬ m < 0) (hxm : m < s.size) :
    Calls Try.prog 77 #[.pointer (some ⟨b, 0, none⟩), .string s, .int .i64 m] w fun e w' => e = .returned (.tuple #[]) ∧ WBad w' b 11 ∧ Below B w w' := by
  have HF := hide (fail_any B b l 11 (by decide) w hB h)
  obtain ⟨lt, ⟨u0, c0⟩, ⟨u1, c1⟩, c2, f0, f1, f2⟩ := h.cells
  clear h
  go_enter Try.func77, Try.ntmps77
  go_wp2_with (go_at_call 96; go_in)
  refine HF.out.mono ?_
  rintro e w1 ⟨rfl, h1, h2⟩
  clear HF
  go_wp2
  go_end0
  exact ⟨rfl, h1, h2⟩
theorem text_ok (B b : Nat) (l : List Int) (s : ByteArray) (m : Nat) (w : World) (hB : B ≤ b) (h : WOk w b l) (hxm : s.size ≤ m) (hl : l.length + 9 + s.size ≤ 140737488355328) :
    Calls Try.prog 77 #[.pointer (some ⟨b, 0, none⟩), .string s, .int .i64 m] w fun e w' => e = .returned (.tuple #[]) ∧ WOk w' b (l ++ M.form s.size ++ sb s) ∧ Below B w w' := by
  have HF := hide (lay_any B b l s.size s w hB h (by omega) hl)
  obtain ⟨lt, ⟨u0, c0⟩, ⟨u1, c1⟩, c2, f0, f1, f2⟩ := h.cells
  clear h
  go_enter Try.func77, Try.ntmps77
  go_wp2_with (go_at_call 96; go_in)
  refine HF.out.mono ?_
  rintro e w1 ⟨rfl, h1, h2⟩
  clear HF
  go_wp2
  go_end0
  exact ⟨rfl, h1, h2⟩

end Go.Proofs.Ytomiifnhcojilaa.Wi
