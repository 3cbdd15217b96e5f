import Derived.Test.YtcchnaldanibgaaVy
import Derived.Test.YtcchnaldanibgaaVo
namespace Go.Proofs.Ytcchnaldanibgaa
open Go.ChangeShapes Go.WideShapes Go.ChangeAt Go.RowKit
set_option linter.unusedVariables false

theorem cells_vec : Try.prog.cellsOf 23 = 1 := by kernel_rfl
theorem bytes_vec : Try.prog.bytesOf 23 = 24 := by kernel_rfl
theorem weights_all {H : Type} {P : Program} {e : TypeId} : ∀ {ds : List (DataW H)} {d : DataW H}, d ∈ ds → ∀ m, m ∈ d.weights P e → m ∈ DataW.weightsAll P e ds
  | d0 :: r, d, hd, m, hm => by
    simp only [DataW.weightsAll, List.mem_append]
    rcases List.mem_cons.1 hd with rfl | hd
    · exact .inl hm
    · exact .inr (weights_all hd m hm)
set_option maxRecDepth 100000 in
theorem vec_of_trod {H : Type} {enc : TypeId × Value → H} {W : World} {n : Nat} {v : Value} {d : DataW H} {p : List MemPlace} (hf : DataW.trod enc Try.prog W 0 (fun _ => true) true n 23 [v] = some (d, p))
    (hw : ∀ m, m ∈ d.weights Try.prog 23 → m ≤ reachBytes) : ∃ y : Vec, v = .slice y.a y.D.length y.c ∧ y.ok W ∧ y.D.length * 16 ≤ 140737488351232 := by
  rcases Go.Deep.open_slice_pairs Try.underlying23 Try.underlying26 cells_draw rfl rfl cells_u64 cells_u64 hf with ⟨hcs, _⟩ | ⟨x, len, cp, m, n, V0, V1, D0, D1, P0, P1, hcs, _, hl, hm, hmm, hx, hall⟩
  · have e := List.cons_eq_cons.1 hcs |>.1
    subst e
    exact ⟨⟨none, 0, []⟩, rfl, (SlN.nil W).2, by simp⟩
  · have e := List.cons_eq_cons.1 hcs |>.1
    subst e
    have hd : d = .slice ((List.range len).map fun i => .agg [D0 i, D1 i]) ((List.range (m - len)).map fun j => .agg [D0 (len + j), D1 (len + j)]) := congrArg Prod.fst hx
    have hb := hw (((List.range len).map fun i => (DataW.agg [D0 i, D1 i] : DataW H)).length * 16 + ((List.range (m - len)).map fun j => (DataW.agg [D0 (len + j), D1 (len + j)] : DataW H)).length * 16) (by
      rw [hd]
      simp only [DataW.weights, Try.underlying23, bytes_draw]
      rw [Nat.add_mul]
      exact List.mem_cons_self)
    simp only [List.length_map, List.length_range, reachBytes] at hb
    have hmc : m = cp := by rw [hmm]; rfl
    subst hmc
    have each : ∀ i, i < m → W.cell? (x.add (i * 2)) = some (.int .u64 (intOf (V0 i))) ∧ W.cell? (x.add (i * 2 + 1)) = some (.int .u64 (intOf (V1 i))) := by
      intro i hi
      obtain ⟨c0, c1, t0, t1⟩ := hall i hi
      obtain ⟨K, hK, _, _⟩ := DataW.trod_int Try.underlying24 t0
      obtain ⟨N, hN, _, hNw⟩ := DataW.trod_int Try.underlying24 t1
      have e0 := List.cons_eq_cons.1 hK |>.1
      have e1 := List.cons_eq_cons.1 hN |>.1
      rw [c0, c1, e0, e1]
      exact ⟨rfl, rfl⟩
    refine ⟨⟨some x, m, (List.range len).map fun i => (intOf (V0 i), intOf (V1 i))⟩, by simp, ?_, by simp; omega⟩
    refine ⟨rfl, by simpa using hl, hm, (fun e => by cases e), fun y hy => ?_⟩
    cases hy
    by_cases hc0 : m = 0
    · left
      refine ⟨?_, hc0⟩
      have : len = 0 := by omega
      subst this
      rfl
    · right
      have z0 := (each 0 (by omega)).1
      have hb0 := World.block_lt_of_cell? _ _ z0
      obtain ⟨b, o, s⟩ := x
      have hsp := World.cell?_spot z0
      obtain rfl : s = none := by
        rw [Nat.zero_mul] at hsp
        simpa [Addr.add] using hsp
      refine ⟨b, o, rfl, by simpa [Addr.add_lit] using hb0, fun i d hd => ?_⟩
      have hi : i < len := by
        have := (List.getElem?_eq_some_iff.1 hd).1
        simpa using this
      simp [hi] at hd
      subst hd
      obtain ⟨c0, c1⟩ := each i (by omega)
      rw [Addr.add_lit] at c0 c1
      exact ⟨c0, by rw [Nat.add_assoc]; exact c1⟩
set_option maxRecDepth 100000 in
theorem open_vecs {H : Type} {enc : TypeId × Value → H} {W : World} {base : Nat} {v : Value} {d : DataW H} {p : List MemPlace} (hv : Value.okWide Try.prog W .any base 28 v) (h : DataW.Trod enc Try.prog W 0 (fun _ => true) true 28 v d p)
    (hw : ∀ m, m ∈ d.weights Try.prog 28 → m ≤ reachBytes) :
    ∃ a len cap, v = .slice a len cap ∧ ∃ L, CameV W a len cap L := by
  obtain ⟨a, len, cap, rfl⟩ := okWide_slice Try.underlying28 hv
  refine ⟨a, len, cap, rfl, ?_⟩
  obtain ⟨fuel, hf⟩ := h
  rcases Go.Deep.open_slice1 Try.underlying28 cells_vec hf with ⟨hcs, _⟩ | ⟨x, ln, cp, m, n, V, D, Pl, hcs, _, hl, hm, hmm, hx, hall⟩
  · simp [Value.cells] at hcs
    obtain ⟨rfl, rfl, rfl⟩ := hcs
    exact ⟨[], rfl, Nat.le_refl _, by unfold maxLen; omega, (fun h => absurd rfl h), by omega, fun y hy => by cases hy⟩
  · simp [Value.cells] at hcs
    obtain ⟨rfl, rfl, rfl⟩ := hcs
    have hd : d = .slice ((List.range len).map D) ((List.range (m - len)).map fun j => D (len + j)) := congrArg Prod.fst hx
    have hmc : m = cap := by rw [hmm]; rfl
    subst hmc
    have hb := hw ((((List.range len).map D).length + ((List.range (m - len)).map fun j => D (len + j)).length) * 24) (by
      rw [hd]
      simp only [DataW.weights, Try.underlying28, bytes_vec]
      exact List.mem_cons_self)
    simp only [List.length_map, List.length_range, reachBytes] at hb
    have hin : ∀ i, i < len → ∀ k, k ∈ (D i).weights Try.prog 23 → k ≤ reachBytes := fun i hi k hk => hw k (by
      rw [hd]
      simp only [DataW.weights, Try.underlying28, bytes_vec]
      refine List.mem_cons_of_mem _ (List.mem_append_left _ (weights_all (List.mem_map_of_mem (List.mem_range.2 hi)) k hk)))
    haveI : Inhabited Vec := ⟨⟨none, 0, []⟩⟩
    obtain ⟨Y, hY⟩ := Go.Deep.choose_lt (α := Vec) (n := len) (p := fun i y => V i = .slice y.a y.D.length y.c ∧ y.ok W ∧ y.D.length * 16 ≤ 140737488351232) (fun i hi => vec_of_trod (hall i (by omega)).2 (hin i hi))
    refine ⟨(List.range len).map Y, by simp, hl, hm, fun hne => ?_, by omega, fun y hy => ?_⟩
    · have hlen : 0 < len := by
        rcases Nat.eq_zero_or_pos len with h | h
        · subst h; exact absurd rfl hne
        · exact h
      have z0 := (hall 0 (by omega)).1
      have hb0 := World.block_lt_of_cell? _ _ z0
      obtain ⟨b, o, s⟩ := x
      have hsp := World.cell?_spot z0
      obtain rfl : s = none := by simpa [Addr.add] using hsp
      refine ⟨b, o, rfl, by simpa [Addr.add_lit] using hb0, fun i y hy => ?_⟩
      have hi : i < len := by
        have := (List.getElem?_eq_some_iff.1 hy).1
        simpa using this
      simp [hi] at hy
      subst hy
      obtain ⟨e1, e2, _⟩ := hY i hi
      have c := (hall i (by omega)).1
      rw [Addr.add_lit, e1] at c
      exact ⟨c, e2⟩
    · obtain ⟨i, hi, rfl⟩ := List.mem_map.1 hy
      exact (hY i (List.mem_range.1 hi)).2.2

end Go.Proofs.Ytcchnaldanibgaa
