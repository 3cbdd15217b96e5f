import Derived.Test.YtolnkoneilipeaaDe
namespace Go.Proofs.Ytolnkoneilipeaa
open Go.RowKit Go.Maps
open Classical
set_option linter.unusedVariables false
set_option linter.unusedSimpArgs false

def thrL : List En := [⟨1, 1, ⟨1, 7, ⟨#[97]⟩⟩⟩, ⟨2, 5, ⟨1, 7, ⟨#[98]⟩⟩⟩, ⟨1, 2, ⟨3, 7, ByteArray.empty⟩⟩]
theorem thr_fits : ∀ e ∈ thrL, e.fits := by
  intro e he
  simp [thrL] at he
  rcases he with rfl | rfl | rfl
  · exact ⟨rfl, rfl, rfl, rfl, by show 1 ≤ maxLen; unfold maxLen; omega⟩
  · exact ⟨rfl, rfl, rfl, rfl, by show 1 ≤ maxLen; unfold maxLen; omega⟩
  · exact ⟨rfl, rfl, rfl, rfl, by show 0 ≤ maxLen; omega⟩
def thrT : List Rw := [⟨1, 2, 3, false, zR⟩, ⟨2, 5, 2, true, (2, 7, ⟨#[97]⟩)⟩]
theorem thr_ck : ckB thrL 0 2 = 0 := by decide +kernel
theorem thr_tb : tbl thrL 2 = thrT := by kernel_rfl
end Go.Proofs.Ytolnkoneilipeaa
