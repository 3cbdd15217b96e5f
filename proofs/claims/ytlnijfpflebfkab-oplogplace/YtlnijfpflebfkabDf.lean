import Derived.Test.YtlnijfpflebfkabDe
namespace Go.Proofs.Ytlnijfpflebfkab
open Go.RowKit Go.Maps
set_option linter.unusedVariables false
set_option linter.unusedSimpArgs false

/-- Elements in a new block. -/
theorem sl_lit {α : Type} {Y : Lay α} (K : Y.Ok) (w : World) (l : List α) (T : TypeId) (hm : l.length ≤ maxLen) : SlY Y (w.alloc (.cells (fl Y l).toArray T)) (some ⟨w.heap.size, 0, none⟩) l.length l.length l :=
  ⟨rfl, Nat.le_refl _, hm, (fun e => by cases e), fun y hy => by
    cases hy
    refine .inr ⟨w.heap.size, 0, rfl, by simp, fun i z hz j u hu => ?_⟩
    rw [Nat.zero_add, World.cell?_alloc_at _ _ _ _ rfl, List.getElem?_toArray, fl_get K l i z hz j (by have := (List.getElem?_eq_some_iff.1 hu).1; rw [K.len] at this; exact this)]
    exact hu⟩
def thrL : List En := [⟨1, 1, ⟨1, 7, ⟨#[97]⟩⟩⟩, ⟨2, 5, ⟨1, 7, ⟨#[98]⟩⟩⟩, ⟨1, 2, ⟨3, 7, ByteArray.empty⟩⟩]
theorem thr_fits : ∀ e ∈ thrL, e.fits := by
  intro e he
  simp [thrL] at he
  rcases he with rfl | rfl | rfl
  · exact ⟨rfl, rfl, rfl, rfl, by show 1 ≤ maxLen; unfold maxLen; omega⟩
  · exact ⟨rfl, rfl, rfl, rfl, by show 1 ≤ maxLen; unfold maxLen; omega⟩
  · exact ⟨rfl, rfl, rfl, rfl, by show 0 ≤ maxLen; omega⟩
def thrT : List Rw := [⟨1, 2, 3, false, zR⟩, ⟨2, 5, 2, true, (2, 7, ⟨#[97]⟩)⟩]
theorem thr_ck : ckB thrL 0 2 = 0 := by decide +kernel
theorem thr_tb : tbl thrL 2 = thrT := by kernel_rfl
end Go.Proofs.Ytlnijfpflebfkab
