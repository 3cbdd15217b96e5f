import Derived.Test.YtjkleldoeojbbaaMo
import Derived.RangeFuncOwn
import Derived.RangeFuncCalls
import Derived.RangeFuncLeaves
import Derived.Shelf.Abstract
import Derived.OwnWalkIn
import Derived.TacticsInMore
import Derived.LoopNIn
import Derived.LoopIn
namespace Go.Proofs.Ytjkleldoeojbbaa
open Go.RowKit Go.Shelf
set_option linter.unusedVariables false
attribute [local go_sem] Oper.semAt_some

theorem yield_nil (l : Nat) (w : World) : (binOp .eql 227 (.func (.yield l) #[] #[]) .nilFunc).run Try.prog w = .ok (.bool false) w := by kernel_rfl
set_option maxRecDepth 100000 in
set_option maxHeartbeats 1000000 in
/-- Each's function: it yields its cells in their order, whatever keeps them. -/
theorem each1_in (n : Nat) (hn : 1 ≤ n) (l k g : Nat) (D : List Cl) (J : List Cl → World → Prop)
    (hY : ∀ pre x rest W, D = pre ++ x :: rest → J pre W → YieldAt Fence.wide (n - 1) Try.prog l #[.int .i64 x.1, .string x.2] W fun e W' => e = .returned (.bool true) ∧ J (pre ++ [x]) W')
    (hJa : ∀ pre W o, J pre W → J pre (W.alloc o))
    (hJk : ∀ pre W, J pre W → LieC W g 0 D) (W : World) (hk : W.cell? ⟨k, 0, none⟩ = some (.slice (some ⟨g, 0, none⟩) D.length D.length)) (hD : D.length * 24 ≤ 140737488355328) (h0 : J [] W) :
    CallsIn Fence.wide n Try.prog 129 #[.func (.yield l) #[] #[], .pointer (some ⟨k, 0, none⟩)] W fun e W' => (∃ v, e = .returned v) ∧ J D W' := by
  have hYh := hide hY
  have hJh := hide hJk
  clear hY hJk
  refine callsIn_of_wp Try.func129 rfl trivial ?_ rfl
  simp only [Try.ntmps129, List.size_toArray, List.length_cons, List.length_nil, Nat.reduceAdd, Nat.reduceSub, Array.replicate_succ, Array.replicate_zero, List.push_toArray, List.append_toArray, List.nil_append, List.cons_append]
  have q := yield_nil l
  gi_wp2
  gi_loopw [9] (fun i wr => ∃ k : Nat, i = .int .i64 (k : Int) ∧ k ≤ D.length ∧ J (D.take k) wr) (fun i _ => D.length - (intOf i).toNat)
  case atStart => exact ⟨0, rfl, Nat.zero_le _, h0⟩
  case round =>
    obtain ⟨i, rfl, hi, hJ⟩ := hrel
    by_cases hlt : i < D.length
    · have hl := hJh.out _ _ hJ i D[i] (List.getElem?_eq_getElem hlt)
      obtain ⟨h1, h2⟩ := hl
      rw [Nat.zero_add] at h1 h2
      have hsp : D = D.take i ++ D[i] :: D.drop (i + 1) := by rw [List.getElem_cons_drop, List.take_append_drop]
      obtain ⟨fn, tmps, assign, body, hy, hR⟩ := hYh.out (D.take i) D[i] _ (wr.alloc (Obj.cells #[.int .i64 D[i].1, .string D[i].2] 148)) hsp (hJa _ _ _ hJ)
      clear hsp
      gi_wp2
      refine hR.mono ?_
      rintro e W3 ⟨rfl, hJ3⟩
      rw [List.take_append_getElem] at hJ3
      gi_wp2
      go_roundw
      case rel => exact ⟨i + 1, by simp, by omega, hJ3⟩
      case measure => simp [intOf]; omega
    · have he : i = D.length := by omega
      subst he
      rw [List.take_length] at hJ
      gi_wp2
      go_end0
      exact ⟨⟨_, rfl⟩, hJ⟩

end Go.Proofs.Ytjkleldoeojbbaa
