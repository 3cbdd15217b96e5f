import Derived.Test.YtifhdelkmhlcoabRi
import Derived.Test.YtifhdelkmhlcoabFo
import Derived.Deep.SlicePairs
import Derived.SizedLaws
namespace Go.Proofs.Ytifhdelkmhlcoab
open Go.ChangeShapes Go.WideShapes Go.ChangeAt Go.RowKit
set_option linter.unusedVariables false

theorem cells_beat : Try.prog.cellsOf 44 = 2 := by kernel_rfl
theorem cells_int : Try.prog.cellsOf 3 = 1 := by kernel_rfl
theorem bytes_beat : Try.prog.bytesOf 44 = 16 := by kernel_rfl
set_option maxRecDepth 100000 in
theorem open_beats {H : Type} {enc : TypeId × Value → H} {W : World} {base : Nat} {v : Value} {d : DataW H} {p : List MemPlace} (hv : Value.okWide Try.prog W .any base 36 v) (h : DataW.Trod enc Try.prog W 0 (fun _ => true) true 36 v d p)
    (hs : ∀ el sp, d = .slice el sp → (el.length + sp.length) * Try.prog.bytesOf 44 ≤ reachBytes) :
    ∃ a len cap, v = .slice a len cap ∧ Beats W a len := by
  obtain ⟨a, len, cap, rfl⟩ := okWide_slice Try.underlying36 hv
  refine ⟨a, len, cap, rfl, ?_⟩
  obtain ⟨fuel, hf⟩ := h
  rcases Go.Deep.open_slice_pairs Try.underlying36 Try.underlying44 cells_beat rfl rfl cells_int cells_u64 hf with ⟨hcs, _⟩ | ⟨x, ln, cp, m, n, V0, V1, D0, D1, P0, P1, hcs, _, hl, hm, hmm, hx, hall⟩
  · simp [Value.cells] at hcs
    obtain ⟨rfl, rfl, rfl⟩ := hcs
    exact ⟨by omega, fun i hi => by omega⟩
  · simp [Value.cells] at hcs
    obtain ⟨rfl, rfl, rfl⟩ := hcs
    have hd := hs _ _ (congrArg Prod.fst hx)
    rw [bytes_beat] at hd
    simp only [List.length_map, List.length_range, reachBytes] at hd
    refine ⟨by omega, fun i hi => ?_⟩
    have hlm : len ≤ m := by rw [hmm]; split <;> omega
    obtain ⟨c0, c1, t0, t1⟩ := hall i (by omega)
    obtain ⟨K, hK, _, _⟩ := DataW.trod_int Try.underlying3 t0
    obtain ⟨N, hN, _, hNw⟩ := DataW.trod_int Try.underlying22 t1
    rw [List.cons_eq_cons.1 hK |>.1] at c0
    rw [List.cons_eq_cons.1 hN |>.1] at c1
    have z0 := (hall 0 (by omega)).1
    obtain ⟨b, o, s⟩ := x
    have hsp := World.cell?_spot z0
    obtain rfl : s = none := by
      rw [Nat.zero_mul] at hsp
      simpa [Addr.add] using hsp
    rw [Addr.add_lit] at c0 c1
    exact ⟨b, o, K, N, rfl, c0, by rw [Nat.add_assoc]; exact c1, (u64_wf hNw).1⟩

end Go.Proofs.Ytifhdelkmhlcoab
