import Derived.Test.YtegfbebhgihcaaaNkp
import Derived.Test.YtegfbebhgihcaaaNl3
namespace Go.Proofs.Ytegfbebhgihcaaa
open Go.ChangeShapes Go.WideShapes Go.ChangeAt Go.RowKit
set_option linter.unusedVariables false

theorem opCellsQ : Try.prog.cellsOf 48 = 8 := by kernel_rfl
theorem opBytesQ : Try.prog.bytesOf 48 = 80 := by kernel_rfl
theorem boolCellsQ : Try.prog.cellsOf 4 = 1 := by kernel_rfl
set_option maxRecDepth 100000 in
theorem open_elQ {H : Type} {enc : TypeId × Value → H} {W : World} {m : Nat} {cs : List Value} {D : DataW H} {q : List MemPlace} (h : DataW.trod enc Try.prog W 0 (fun _ => true) true m 48 cs = some (D, q)) (hw : ∀ k, k ∈ D.weights Try.prog 48 → k ≤ reachBytes) : ∃ e : Oq, (e.x.In W ∧ e.x.s.length ≤ 140737488351232) ∧ cs = yQ.cs e := by
  obtain ⟨xs, k, hk, hxy, hlen, hxl, hf⟩ := DataW.trod_struct Try.underlying48 h
  rw [opCellsQ] at hlen
  have hxl : xs.length = 6 := hxl
  match xs, hxl, cs, hlen with
  | [y0, y1, y2, y3, y4, y5], _, [v0, v1, v2, v3, v4, v5, v6, v7], _ =>
    have g0 := hf 0 _ rfl
    have g1 := hf 1 _ rfl
    have g2 := hf 2 _ rfl
    have g3 := hf 3 _ rfl
    have g4 := hf 4 _ rfl
    have g5 := hf 5 _ rfl
    simp [intCellsP, u8CellsP, pkCellsP, boolCellsQ] at g0 g1 g2 g3 g4 g5
    obtain ⟨N0, hN0, _, wN0⟩ := DataW.trod_int Try.underlying3 g0
    obtain ⟨N1, hN1, _, wN1⟩ := DataW.trod_int Try.underlying3 g1
    obtain ⟨N2, hN2, _, wN2⟩ := DataW.trod_int Try.underlying3 g2
    obtain ⟨N3, hN3, _, wN3⟩ := DataW.trod_int Try.underlying5 g3
    obtain ⟨N5, hN5, _⟩ := DataW.trod_bool Try.underlying4 g5
    have hd : D = .agg ([y0, y1, y2, y3, y4, y5].map Prod.fst) := congrArg Prod.fst hxy
    obtain ⟨x, hx, he⟩ := open_elAp g4 (fun k hk => hw k (by
      rw [hd]
      simp only [DataW.weights, Try.underlying48]
      exact DataW.weights_mem_each (j := 4) (t := 46) rfl rfl k hk))
    refine ⟨⟨N0, N1, N2, UInt8.ofNat N3.toNat, x, N5⟩, hx, ?_⟩
    have h3 := u8_of wN3
    simp at hN0 hN1 hN2 hN3 hN5
    simp [yA] at he
    obtain ⟨e4, e5, e6⟩ := he
    subst hN0 hN1 hN2 hN3 hN5 e4 e5 e6
    simp only [yQ]
    rw [← h3]
/-- A script that came in. -/
def CameQ (W : World) (a : Option Addr) (len cap : Nat) : Prop := ∃ P : List Oq, SlY yQ W a len cap P ∧ (∀ e ∈ P, e.x.In W ∧ e.x.s.length ≤ 140737488351232) ∧ len * 80 ≤ 140737488351232
set_option maxRecDepth 100000 in
theorem open_script {H : Type} {enc : TypeId × Value → H} {W : World} {base : Nat} {v : Value} {d : DataW H} {p : List MemPlace} (hv : Value.okWide Try.prog W .any base 22 v) (h : DataW.Trod enc Try.prog W 0 (fun _ => true) true 22 v d p)
    (hw : ∀ m, m ∈ d.weights Try.prog 22 → m ≤ reachBytes) : ∃ a len cap, v = .slice a len cap ∧ CameQ W a len cap := by
  haveI : Inhabited Oq := ⟨⟨0, 0, 0, 0, ⟨0, 0, none, 0, []⟩, false⟩⟩
  obtain ⟨a, n, c, rfl, P, h1, h2, h3⟩ := open_wrowsP kQ (fun e => e.x.In W ∧ e.x.s.length ≤ 140737488351232) opCellsQ opBytesQ (fun h hw => open_elQ h hw) hv h hw
  exact ⟨a, n, c, rfl, P, h1, h2, h3⟩
set_option maxRecDepth 100000 in
theorem open_pk1 {H : Type} {enc : TypeId × Value → H} {W : World} {base : Nat} {v : Value} {d : DataW H} {p : List MemPlace} (hv : Value.okWide Try.prog W .any base 46 v) (h : DataW.Trod enc Try.prog W 0 (fun _ => true) true 46 v d p)
    (hw : ∀ m, m ∈ d.weights Try.prog 46 → m ≤ reachBytes) : ∃ x : Ap, v = .agg #[.int .i64 x.f, .int .i64 x.t, .slice x.a x.s.length x.c] ∧ (x.In W ∧ x.s.length ≤ 140737488351232) := by
  obtain ⟨cs, rfl, hsz⟩ := okWide_struct Try.underlying46 hv
  obtain ⟨fuel, hf⟩ := h
  obtain ⟨o, ho, e⟩ := open_elAp hf hw
  refine ⟨o, ?_, ho⟩
  have e : cs.toList = yA.cs o := by simp only [Value.cells] at e; exact e
  have : cs = #[.int .i64 o.f, .int .i64 o.t, .slice o.a o.s.length o.c] := by rw [← Array.toList_inj]; exact e
  rw [this]

end Go.Proofs.Ytegfbebhgihcaaa
