import Derived.Test.YthhghenaflnlfaaHo
namespace Go.Proofs.Ythhghenaflnlfaa
open Go.RowKit
set_option linter.unusedVariables false

theorem be_eq (n j : Nat) : ((n : Int) / 2 ^ (24 - 8 * j) % 256) = M.beAt n j := by
  unfold M.beAt
  rw [Nat.shiftRight_eq_div_pow]
  simp
theorem le_eq (n j : Nat) : ((n : Int) / 2 ^ (8 * j) % 256) = M.leAt n j := by
  unfold M.leAt
  rw [Nat.shiftRight_eq_div_pow]
  simp
theorem sb_magic : sb { data := #[97, 109, 110, 49] } = M.magic := rfl

/-- 'make([]byte, 0, n)'. -/
theorem mk_own (w : World) {ops : Array Oper} {rest : List Oper} {o : Oper} {a : Act} {Q : Exit → Act → World → Prop} (hgd : o.guard = none) (c : Operand)
    (hop : o.op = Op.makeSlice 27 (.const (.int .i64 0)) c) (C : Int) (n : Nat) (hc : a.eval c = .int .i64 C) (hC : C = (n : Int)) (hm : n ≤ 281474976710656)
    (hK : ∀ w', Own w.heap.size w' (.slice (some ⟨w.heap.size, 0, none⟩) 0 n) [] → Below w.heap.size w w' → wpList Try.prog ops Q rest (a.put o.dst (.slice (some ⟨w.heap.size, 0, none⟩) 0 n)) w') : wpList Try.prog ops Q (o :: rest) a w := by
  obtain ⟨i0, hi, hz0, hz1, hz2⟩ := info_parts Try.info5
  refine wpList_make_own w hgd (.const (.int .i64 0)) c 27 hop w.heap.size 5 i0 (.int .u8 0) 1 Try.underlying27 hi hz0 hz1 .i64 .i64 C n rfl hc hC (by rw [hz2]; omega) (by unfold maxLen; omega) (Nat.le_refl _) ?_
  intro w' h1 h2
  exact hK w' h1 ((Below.refl _ _).grown h2 (Nat.le_refl _) (fun k hk => by cases hk))

end Go.Proofs.Ythhghenaflnlfaa
