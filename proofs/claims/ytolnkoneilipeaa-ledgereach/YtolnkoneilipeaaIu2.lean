import Derived.Test.YtolnkoneilipeaaMo
import Derived.Test.YtolnkoneilipeaaIu1
namespace Go.Proofs.Ytolnkoneilipeaa
open Go.RowKit Go.Shelf
set_option linter.unusedVariables false
attribute [local go_sem] Oper.semAt_some

theorem yieldC_nil (l : Nat) (w : World) : (binOp .eql 42 (.func (.yield l) #[] #[]) .nilFunc).run Try.prog w = .ok (.bool false) w := by kernel_rfl
def encC (D : List Cl) (i : Nat) : Array Value := #[.int .i64 (D.getD i (0, ByteArray.empty)).1, .string (D.getD i (0, ByteArray.empty)).2]
/-- What Each's function asks of a world. -/
def EKp (k g : Nat) (D : List Cl) (W : World) : Prop := LieC W g 0 D
set_option maxRecDepth 100000 in
set_option maxHeartbeats 1000000 in
/-- Each's function: it yields its cells in their order, till a round says no. -/
theorem each2_in (n : Nat) (hn : 1 ≤ n) (k g : Nat) (D : List Cl) (hD : D.length * 24 ≤ 140737488355328) :
    Iter n 12 #[.pointer (some ⟨k, 0, none⟩)] D.length (encC D) (fun W => LieC W g 0 D ∧ W.cell? ⟨k, 0, none⟩ = some (.slice (some ⟨g, 0, none⟩) D.length D.length)) := by
  intro l J Jx W hY hJa hJk h0
  have hYh := hide hY
  have hJh := hide hJk
  have hk := (hJk _ _ h0).2
  clear hY hJk
  refine callsIn_of_wp Try.func12 rfl trivial ?_ rfl
  simp only [Try.ntmps12, List.size_toArray, List.length_cons, List.length_nil, Nat.reduceAdd, Nat.reduceSub, Array.replicate_succ, Array.replicate_zero, List.push_toArray, List.append_toArray, List.nil_append, List.cons_append]
  have q := yieldC_nil l
  gi_wp2
  gi_loopw [9] (fun i wr => ∃ k : Nat, i = .int .i64 (k : Int) ∧ k ≤ D.length ∧ J k wr) (fun i _ => D.length - (intOf i).toNat)
  case atStart => exact ⟨0, rfl, Nat.zero_le _, h0⟩
  case round =>
    obtain ⟨i, rfl, hi, hJ⟩ := hrel
    by_cases hlt : i < D.length
    · have hd := List.getElem?_eq_getElem hlt
      have hl := (hJh.out _ _ hJ).1 i D[i] hd
      obtain ⟨h1, h2⟩ := hl
      rw [Nat.zero_add] at h1 h2
      have hge : D.getD i (0, ByteArray.empty) = D[i] := by simp [List.getD, hd]
      have hy0 := hYh.out i (wr.alloc (Obj.cells #[.int .i64 D[i].1, .string D[i].2] 29)) hlt (hJa _ _ _ hJ)
      simp only [encC, hge] at hy0
      generalize D[i] = x at *
      obtain ⟨fn, tmps, assign, body, hy, hR⟩ := hy0
      clear hd hge
      gi_wp2
      refine hR.mono ?_
      rintro e W3 (⟨rfl, hJ3⟩ | ⟨rfl, hJ3⟩)
      · gi_wp2
        go_roundw
        case rel => exact ⟨i + 1, by simp, by omega, hJ3⟩
        case measure => simp [intOf]; omega
      · gi_wp2
        refine bodyPost_ret (results_none rfl _ _ _) rfl ?_
        exact ⟨⟨_, rfl⟩, .inr ⟨i, hlt, hJ3⟩⟩
    · have he : i = D.length := by omega
      subst he
      gi_wp2
      go_end0
      exact ⟨⟨_, rfl⟩, .inl hJ⟩

end Go.Proofs.Ytolnkoneilipeaa
