import Derived.Test.YtcchnaldanibgaaUd
import Derived.Test.YtcchnaldanibgaaVn
import Derived.Deep.Grids
namespace Go.Proofs.Ytcchnaldanibgaa
open Go.ChangeShapes Go.WideShapes Go.ChangeAt Go.RowKit
set_option linter.unusedVariables false

theorem cells_bool : Try.prog.cellsOf 4 = 1 := by kernel_rfl
theorem cells_int : Try.prog.cellsOf 3 = 1 := by kernel_rfl
theorem cells_voice : Try.prog.cellsOf 56 = 2 := by kernel_rfl
theorem bytes_voice : Try.prog.bytesOf 56 = 32 := by kernel_rfl
/-- Voices that came in. -/
def CameW (W : World) (a : Option Addr) (n c : Nat) (L : List Voi) : Prop := SlW W a n c L ∧ n * 32 ≤ 140737488351232 ∧ ∀ m, m ∈ L → m.x.D.length * 16 ≤ 140737488351232
set_option maxRecDepth 100000 in
theorem open_voices {H : Type} {enc : TypeId × Value → H} {W : World} {base : Nat} {v : Value} {d : DataW H} {p : List MemPlace} (hv : Value.okWide Try.prog W .any base 54 v) (h : DataW.Trod enc Try.prog W 0 (fun _ => true) true 54 v d p)
    (hw : ∀ m, m ∈ d.weights Try.prog 54 → m ≤ reachBytes) :
    ∃ a len cap, v = .slice a len cap ∧ ∃ L, CameW W a len cap L := by
  obtain ⟨a, len, cap, rfl⟩ := okWide_slice Try.underlying54 hv
  refine ⟨a, len, cap, rfl, ?_⟩
  obtain ⟨fuel, hf⟩ := h
  rcases Go.Deep.open_slice_pairs Try.underlying54 Try.underlying56 cells_voice rfl rfl cells_int cells_vec hf with ⟨hcs, _⟩ | ⟨x, ln, cp, m, n, V0, V1, D0, D1, P0, P1, hcs, _, hl, hm, hmm, hx, hall⟩
  · simp [Value.cells] at hcs
    obtain ⟨rfl, rfl, rfl⟩ := hcs
    exact ⟨[], ⟨rfl, Nat.le_refl _, by unfold maxLen; omega, fun h => absurd rfl h⟩, by omega, fun y hy => by cases hy⟩
  · simp [Value.cells] at hcs
    obtain ⟨rfl, rfl, rfl⟩ := hcs
    have hd : d = .slice ((List.range len).map fun i => .agg [D0 i, D1 i]) ((List.range (m - len)).map fun j => .agg [D0 (len + j), D1 (len + j)]) := congrArg Prod.fst hx
    have hmc : m = cap := by rw [hmm]; rfl
    subst hmc
    have hb := hw ((((List.range len).map fun i => (DataW.agg [D0 i, D1 i] : DataW H)).length + ((List.range (m - len)).map fun j => (DataW.agg [D0 (len + j), D1 (len + j)] : DataW H)).length) * 32) (by
      rw [hd]
      simp only [DataW.weights, Try.underlying54, bytes_voice]
      exact List.mem_cons_self)
    simp only [List.length_map, List.length_range, reachBytes] at hb
    have hin : ∀ i, i < len → ∀ k, k ∈ (D1 i).weights Try.prog 23 → k ≤ reachBytes := fun i hi k hk => hw k (by
      rw [hd]
      simp only [DataW.weights, Try.underlying54, bytes_voice]
      refine List.mem_cons_of_mem _ (List.mem_append_left _ (weights_all (d := .agg [D0 i, D1 i]) (List.mem_map_of_mem (f := fun i => (DataW.agg [D0 i, D1 i] : DataW H)) (List.mem_range.2 hi)) k ?_))
      simp only [DataW.weights, Try.underlying56]
      exact DataW.weights_mem_each (j := 1) (t := 23) (d := D1 i) rfl rfl k hk)
    haveI : Inhabited Voi := ⟨⟨0, ⟨none, 0, []⟩⟩⟩
    obtain ⟨Y, hY⟩ := Go.Deep.choose_lt (α := Voi) (n := len) (p := fun i y => V0 i = .int .i64 y.node ∧ V1 i = .slice y.x.a y.x.D.length y.x.c ∧ y.x.ok W ∧ y.x.D.length * 16 ≤ 140737488351232) (fun i hi => by
      obtain ⟨c0, c1, t0, t1⟩ := hall i (by omega)
      obtain ⟨K, hK, _, _⟩ := DataW.trod_int Try.underlying3 t0
      obtain ⟨y, e1, e2, e3⟩ := vec_of_trod t1 (hin i hi)
      exact ⟨⟨K, y⟩, List.cons_eq_cons.1 hK |>.1, e1, e2, e3⟩)
    refine ⟨(List.range len).map Y, ⟨by simp, hl, hm, fun hne => ?_⟩, by omega, fun y hy => ?_⟩
    · have hlen : 0 < len := by
        rcases Nat.eq_zero_or_pos len with h | h
        · subst h; exact absurd rfl hne
        · exact h
      have z0 := (hall 0 (by omega)).1
      have hb0 := World.block_lt_of_cell? _ _ z0
      obtain ⟨b, o, s⟩ := x
      have hsp := World.cell?_spot z0
      obtain rfl : s = none := by
        rw [Nat.zero_mul] at hsp
        simpa [Addr.add] using hsp
      refine ⟨b, o, rfl, by simpa [Addr.add_lit] using hb0, fun i y hy => ?_⟩
      have hi : i < len := by
        have := (List.getElem?_eq_some_iff.1 hy).1
        simpa using this
      simp [hi] at hy
      subst hy
      obtain ⟨e0, e1, e2, _⟩ := hY i hi
      obtain ⟨c0, c1, _, _⟩ := hall i (by omega)
      rw [Addr.add_lit] at c0 c1
      rw [e0] at c0
      rw [e1] at c1
      exact ⟨c0, by rw [Nat.add_assoc]; exact c1, e2⟩
    · obtain ⟨i, hi, rfl⟩ := List.mem_map.1 hy
      exact (hY i (List.mem_range.1 hi)).2.2.2
set_option maxRecDepth 100000 in
theorem open_bslice {H : Type} {enc : TypeId × Value → H} {W : World} {base : Nat} {v : Value} {d : DataW H} {p : List MemPlace} (hv : Value.okWide Try.prog W .any base 71 v) (h : DataW.Trod enc Try.prog W 0 (fun _ => true) true 71 v d p) :
    ∃ a len cap, v = .slice a len cap ∧ ∃ f, SlB W a len cap f := by
  obtain ⟨a, len, cap, rfl⟩ := okWide_slice Try.underlying71 hv
  refine ⟨a, len, cap, rfl, ?_⟩
  obtain ⟨fuel, hf⟩ := h
  rcases Go.Deep.open_bools Try.underlying71 Try.underlying4 cells_bool hf with ⟨hcs, _⟩ | ⟨x, ln, cp, B, hcs, _, hl, hm, _, hall⟩
  · simp [Value.cells] at hcs
    obtain ⟨rfl, rfl, rfl⟩ := hcs
    exact ⟨fun _ => false, Nat.le_refl _, by unfold maxLen; omega, fun h => by omega⟩
  · simp [Value.cells] at hcs
    obtain ⟨rfl, rfl, rfl⟩ := hcs
    refine ⟨B, hl, hm, fun hn => ?_⟩
    have z := hall 0 (by omega)
    have hb0 := World.block_lt_of_cell? _ _ z
    obtain ⟨b, o, s⟩ := x
    have hs := World.cell?_spot z
    obtain rfl : s = none := by simpa [Addr.add] using hs
    refine ⟨b, o, rfl, by simpa [Addr.add_lit] using hb0, fun i hi => ?_⟩
    have c := hall i (by omega)
    rw [Addr.add_lit] at c
    exact c
theorem together_came (al : Option Addr) (n cl : Nat) (ap : Option Addr) (np cp : Nat) (w : World) (h : ∃ L, CameW w al n cl L) (hp : ∃ f, SlB w ap np cp f) :
    Calls Try.prog 8 #[.slice al n cl, .slice ap np cp] w fun e w' => e = .returned (.bool true) ∧ Below w.heap.size w w' := by
  obtain ⟨L, h, hb, _⟩ := h
  obtain ⟨f, hp⟩ := hp
  exact together_walk L al n cl ap np cp f w h hp hb

end Go.Proofs.Ytcchnaldanibgaa
