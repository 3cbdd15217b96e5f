import Derived.Test.YtacalgpdhgpmbaaMv
import Derived.Test.YtacalgpdhgpmbaaRows
import Derived.WalkKit
import Derived.OpenShut
namespace Go.Proofs.Ytacalgpdhgpmbaa
open Go.RowKit Go.WideShapes Go.ChangeAt
open Classical
set_option linter.unusedVariables false

theorem bulk_pos {H : Type} (d : DataW H) : 1 ≤ Rows.uptoBulk d := by
  cases d with
  | lit l => cases l <;> simp [Rows.uptoBulk]
  | _ => simp [Rows.uptoBulk]
theorem bulk_len {H : Type} : ∀ l : List (DataW H), l.length ≤ Rows.uptoBulkAll l
  | [] => by simp [Rows.uptoBulkAll]
  | d :: r => by
    have h1 := bulk_pos d
    have h2 := bulk_len r
    simp only [Rows.uptoBulkAll, List.length_cons]
    omega
theorem len_trod {H : Type} {enc : TypeId × Value → H} {W : World} {M : Nat} {a : Option Addr} {n c : Nat} {d : DataW H} {p : List MemPlace} (h : DataW.Trod enc Try.prog W 0 (fun _ => true) true 29 (.slice a n c) d p)
    (hs : ∀ el sp, d = .slice el sp → el.length + sp.length ≤ M) : n ≤ M := by
  obtain ⟨fuel, h⟩ := h
  simp only [Value.cells] at h
  rcases Go.Deep.open_slice Try.underlying29 h with ⟨hcs, hx⟩ | ⟨y, ln, cp, m, k, D, Pl, hcs, hb, hl, hm, hmm, hx, hall⟩
  · have e := (List.cons_eq_cons.1 hcs).1
    cases e
    exact Nat.zero_le _
  · have e := (List.cons_eq_cons.1 hcs).1
    cases e
    have hd := hs _ _ (congrArg Prod.fst hx)
    simp only [List.length_map, List.length_range] at hd
    omega
theorem one_came (a0 : Option Addr) (len0 cap0 : Nat) (a1 : Option Addr) (len1 cap1 : Nat) (W : World) (h0 : CameN W a0 len0 cap0) (h1 : CameN W a1 len1 cap1) (s0 : len0 ≤ 1048576) (s1 : len1 ≤ 1048576) :
    Calls Try.prog 9 #[.slice a0 len0 cap0, .slice a1 len1 cap1] W fun e w' => e = .returned (.bool true) ∧ Below W.heap.size W w' := by
  obtain ⟨P0, rfl, p0, f0, _, _, _, n0⟩ := h0
  obtain ⟨P1, rfl, p1, f1, _, _, _, n1⟩ := h1
  exact one_walk P0 a0 cap0 P1 a1 cap1 W p0 f0 n0 p1 f1 n1 (by omega)

end Go.Proofs.Ytacalgpdhgpmbaa
