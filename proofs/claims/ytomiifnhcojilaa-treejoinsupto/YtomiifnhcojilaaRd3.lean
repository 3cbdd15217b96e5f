import Derived.Test.YtomiifnhcojilaaRa5
import Derived.Test.YtomiifnhcojilaaRo5
namespace Go.Proofs.Ytomiifnhcojilaa
open Go.ChangeShapes Go.WideShapes Go.RowKit
open Classical
set_option linter.unusedVariables false

theorem bulk_pos {H : Type} (d : DataW H) : 1 ≤ Rows.uptoBulk d := by
  cases d with
  | lit l => cases l <;> simp [Rows.uptoBulk]
  | _ => simp [Rows.uptoBulk]
theorem sum_one20 {α : Type} : ∀ P : List α, (P.map (fun _ => 1)).sum = P.length
  | [] => rfl
  | x :: r => by rw [List.map_cons, List.sum_cons, sum_one20 r, List.length_cons]; omega
set_option maxRecDepth 100000 in
theorem up_hashes {H : Type} {enc : TypeId × Value → H} {W : World} {fuel : Nat} {cs : List Value} {x : DataW H × List MemPlace} (h : DataW.trod enc Try.prog W 0 (fun _ => true) true fuel 42 cs = some x) :
    ∃ (a : Option Addr) (n c : Nat) (P : List Hs), cs = [.slice a n c] ∧ SlY yH W a n c P ∧ P.length + 1 ≤ Rows.uptoBulk x.1 := by
  haveI : Inhabited Hs := ⟨zH⟩
  obtain ⟨a, n, c, P, h1, h2, _, h4⟩ := open_up kH (fun _ => True) (fun _ => 1) hCells20 (fun {n cs x} h => by
    obtain ⟨o, _, ho⟩ := open_hashc20 h
    exact ⟨o, trivial, ho, bulk_pos _⟩) h
  exact ⟨a, n, c, P, h1, h2, by rw [← sum_one20 P]; exact h4⟩
set_option maxRecDepth 100000 in
theorem up_ent20 {H : Type} {enc : TypeId × Value → H} {W : World} {v : Value} {d : DataW H} {p : List MemPlace} (h : DataW.Trod enc Try.prog W 0 (fun _ => true) true 28 v d p) :
    ∃ x : En, v = x.val20 ∧ x.o.v.size + 1 ≤ Rows.uptoBulk d := by
  obtain ⟨fuel, hf⟩ := h
  obtain ⟨x, _, hc, hw⟩ := up_enc hf
  refine ⟨x, ?_, hw⟩
  have hl : v.cells.toList.length = 5 := by rw [hc]; rfl
  cases v with
  | agg cs =>
    have e : cs = x.cs.toArray := by
      have : cs.toList = x.cs := hc
      rw [← this]
    rw [e]
    rfl
  | _ => simp [Value.cells] at hl

end Go.Proofs.Ytomiifnhcojilaa
