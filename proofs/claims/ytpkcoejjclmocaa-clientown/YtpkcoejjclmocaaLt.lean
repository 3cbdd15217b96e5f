import Derived.Test.YtpkcoejjclmocaaLs
import Derived.Test.YtpkcoejjclmocaaLi
namespace Go.Proofs.Ytpkcoejjclmocaa
open Go.RowKit
set_option linter.unusedVariables false

theorem len_dn (L : List Cl) (k s : Int) (v : ByteArray) : (dn L k s v).length = L.length + (if (wd L k s v).1 = 1 then 1 else 0) := by
  unfold dn
  split
  · rw [len_ins]
  · rfl
theorem cells_b (B : Nat) (w0 : World) (b : Nat) (L : List Cl) (w : World) (h : LedB B w0 w b L) :
    Calls Try.prog 77 #[.pointer (some ⟨b, 0, none⟩)] w fun e w' => ∃ v, e = .returned v ∧ OwnC w.heap.size w' v L ∧ Below w.heap.size w w' := by
  obtain ⟨m, h1, _⟩ := h
  exact cells_any b m L w h1
theorem neq_same (r : Rs) (w : World) : (binOp .neq 43 (.agg #[.int .i64 r.1, .int .i64 r.2.1, .string r.2.2]) (.agg #[.int .i64 r.1, .int .i64 r.2.1, .string r.2.2])).run Try.prog w = .ok (.bool false) w := by rw [neq_res]; simp
theorem wd_count (L : List Cl) : wd L 4 0 ByteArray.empty = (6, (L.length : Int), ByteArray.empty) := by simp [wd, ck]
theorem fits_count : (⟨4, 0, ByteArray.empty⟩ : Opn).fits := ⟨by dsimp only; decide, by dsimp only; decide, by dsimp only; decide⟩

end Go.Proofs.Ytpkcoejjclmocaa
