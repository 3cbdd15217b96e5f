import Derived.Test.YtjedpnhdpnknoaaLs
import Derived.Test.YtjedpnhdpnknoaaLi
namespace Go.Proofs.Ytjedpnhdpnknoaa
open Go.RowKit
set_option linter.unusedVariables false

theorem len_dn (L : List Cl) (k s : Int) (v : ByteArray) : (dn L k s v).length = L.length + (if (wd L k s v).1 = 1 then 1 else 0) := by
  unfold dn
  split
  · rw [len_ins]
  · rfl
theorem cells_b (B : Nat) (w0 : World) (b : Nat) (L : List Cl) (w : World) (h : LedB B w0 w b L) :
    Calls Try.prog 30 #[.pointer (some ⟨b, 0, none⟩)] w fun e w' => ∃ v, e = .returned v ∧ OwnC w.heap.size w' v L ∧ Below w.heap.size w w' := by
  obtain ⟨m, h1, _⟩ := h
  exact cells_any b m L w h1
theorem neq_same (r : Rs) (w : World) : (binOp .neq 57 (.agg #[.int .i64 r.1, .int .i64 r.2.1, .string r.2.2]) (.agg #[.int .i64 r.1, .int .i64 r.2.1, .string r.2.2])).run Try.prog w = .ok (.bool false) w := by rw [neq_res]; simp
theorem wd_count (L : List Cl) : wd L 4 0 ByteArray.empty = (6, (L.length : Int), ByteArray.empty) := by simp [wd, ck]
theorem fits_count : (⟨4, 0, ByteArray.empty⟩ : Opn).fits := ⟨by dsimp only; decide, by dsimp only; decide, by dsimp only; decide⟩

theorem from_ok (D : List Cl) (a : Option Addr) (c : Nat) (hok : Ok D) (w : World) (h : SlC w (.slice a D.length c) D a c) :
    Calls Try.prog 16 #[.slice a D.length c] w fun e w' => e = .returned (.tuple #[.pointer (some ⟨w.heap.size, 0, none⟩), .int .i64 0]) ∧ LedB w.heap.size w w' w.heap.size D := by
  refine (from_any D a c w h (fun p hp => ?_)).mono ?_
  · have := hok.may p hp
    exact ⟨wf_i64 (by omega), by unfold maxLen; omega⟩
  · rintro e w' (⟨_, h1, h2⟩ | ⟨h1, _⟩)
    · exact ⟨h1, h2⟩
    · exact absurd hok h1
theorem same_own (A : List Cl) (a1 a2 : Option Addr) (c1 c2 : Nat) (w : World) (h1 : SlC w (.slice a1 A.length c1) A a1 c1) (h2 : SlC w (.slice a2 A.length c2) A a2 c2) :
    Calls Try.prog 18 #[.slice a1 A.length c1, .slice a2 A.length c2] w fun e w' => e = .returned (.bool true) ∧ Below w.heap.size w w' :=
  (samecells_any A A a1 a2 c1 c2 w h1 h2).mono (by
    rintro e w' ⟨rfl, k, rfl⟩
    exact ⟨by simp, belN (Below.refl _ w) k⟩)
end Go.Proofs.Ytjedpnhdpnknoaa
