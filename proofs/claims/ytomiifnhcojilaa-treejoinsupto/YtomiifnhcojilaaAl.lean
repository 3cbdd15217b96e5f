import Derived.Test.YtomiifnhcojilaaBy
import Derived.Lib.SlBytesConst
namespace Go.Proofs.Ytomiifnhcojilaa.Wi
open Go.RowKit
set_option linter.unusedVariables false

theorem bytes_any (b : Nat) (l : List Int) (w : World) (h : WOk w b l) (hl : l.length ≤ 140737488355328) :
    Calls Try.prog 78 #[.pointer (some ⟨b, 0, none⟩)] w fun e w' => ∃ v, e = .returned (.tuple #[v, .int .i64 0]) ∧ Own w.heap.size w' v l ∧ Below w.heap.size w w' := by
  rcases h with ⟨rfl, h⟩ | ⟨q, g, n, c, h⟩
  · refine (bytes_new b w h).mono ?_
    rintro e w' ⟨rfl, rfl⟩
    exact ⟨_, rfl, Own.nil _ _, Below.refl _ _⟩
  · exact bytes_has b q g n c l w h hl

theorem form256 : M.form 256 = [2, 1, 0] := by decide +kernel
theorem sum9 : M.sum [49, 50, 51, 52, 53, 54, 55, 56, 57] = 3421780262 := by decide +kernel

end Go.Proofs.Ytomiifnhcojilaa.Wi
