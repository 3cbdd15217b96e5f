import Derived.Test.YtegkkoggfjgkbaaBy
import Derived.Lib.SlBytesConst
namespace Go.Proofs.Ytegkkoggfjgkbaa.Wi
open Go.RowKit
set_option linter.unusedVariables false

theorem bytes_any (b : Nat) (l : List Int) (w : World) (h : WOk w b l) (hl : l.length ≤ 140737488355328) :
    Calls Try.prog 10 #[.pointer (some ⟨b, 0, none⟩)] w fun e w' => ∃ v, e = .returned (.tuple #[v, .int .i64 0]) ∧ Own w.heap.size w' v l ∧ Below w.heap.size w w' := by
  rcases h with ⟨rfl, h⟩ | ⟨q, g, n, c, h⟩
  · refine (bytes_new b w h).mono ?_
    rintro e w' ⟨rfl, rfl⟩
    exact ⟨_, rfl, Own.nil _ _, Below.refl _ _⟩
  · exact bytes_has b q g n c l w h hl

theorem form256 : M.form 256 = [2, 1, 0] := by decide +kernel
theorem sum9 : M.sum [49, 50, 51, 52, 53, 54, 55, 56, 57] = 3421780262 := by decide +kernel

set_option maxHeartbeats 400000 in
theorem alive_any (w : World) :
    Calls Try.prog 4 #[] w fun e w' => e = .returned (.bool true) ∧ Below w.heap.size w w' := by
  have kc := fun (w : World) (C : Array Value) (n c : Nat) => Lib.run_convert_bytes_const (P := Try.prog) w 22 5 C n c Try.underlying22 Try.underlying5
  go_enter Try.func4, Try.ntmps4
  go_wp2_with fail
  refine (number_ok w.heap.size w.heap.size [] 256 _ (Nat.le_refl _) (Or.inl ⟨rfl, ⟨by simp, by simp, by simp, by simp, by simp, by simp, by simp⟩⟩) (by omega) (by simp)).mono ?_
  rintro e w1 ⟨rfl, h1, hb1⟩
  rw [form256, List.nil_append] at h1
  go_wp2_with fail
  refine (bytes_any _ _ _ h1 (by simp)).mono ?_
  rintro e w2 ⟨v, rfl, ho, hb2⟩
  obtain ⟨g, c, hv, hg1, hg2⟩ := ho.shape (by rintro rfl; rcases ho.2 with ⟨_, h⟩ | ⟨_, _, _, h, _⟩ <;> cases h)
  subst hv
  have hr := ho.row
  have r0 : w2.cell? ⟨g, 0, none⟩ = some (.int .u8 2) := hr 0 (by decide)
  have r1 : w2.cell? ⟨g, 1, none⟩ = some (.int .u8 1) := hr 1 (by decide)
  have r2 : w2.cell? ⟨g, 2, none⟩ = some (.int .u8 0) := hr 2 (by decide)
  have hc := ho.cap
  have hs := hb1.size
  have hs2 := hb2.size
  clear hr ho
  go_wp2_with fail
  refine (sum_any ⟨w2.heap.size, 0, none⟩ 9 9 [49, 50, 51, 52, 53, 54, 55, 56, 57] _ (by decide) (by decide) ?_ (by decide)).mono ?_
  · intro i hi
    rw [Addr.add_lit, Nat.zero_add, World.cell?_alloc_mark]
    match i, hi with
    | 0, _ | 1, _ | 2, _ | 3, _ | 4, _ | 5, _ | 6, _ | 7, _ | 8, _ => rfl
  rintro e w3 ⟨rfl, rfl⟩
  rw [show M.sum (List.take 9 [49, 50, 51, 52, 53, 54, 55, 56, 57]) = 3421780262 from sum9]
  go_wp2
  go_ret
  refine ⟨rfl, ?_⟩
  have k1 : Below w.heap.size w w1 := ((Below.refl _ _).alloc (Nat.le_refl _) _).trans hb1
  have k2 : Below w.heap.size w w2 := k1.trans (hb2.mono k1.size)
  exact k2.alloc k2.size _
#print axioms alive_any

end Go.Proofs.Ytegkkoggfjgkbaa.Wi
