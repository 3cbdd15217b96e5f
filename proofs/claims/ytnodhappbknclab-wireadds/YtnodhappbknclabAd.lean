import Derived.Test.YtnodhappbknclabTl
import Derived.Maps.AppendAt
import Derived.Deep.RegionLaw
namespace Go.Proofs.Ytnodhappbknclab
open Go.RowKit
set_option linter.unusedVariables false

/-- The new value lies where the old one lay, or in a new block. -/
def Near (w : World) (v v' : Value) : Prop := v'.ownBlock = v.ownBlock ∨ v'.ownBlock = some w.heap.size
def Apart (v u : Value) : Prop := ∀ k, v.ownBlock = some k → u.ownBlock ≠ some k
theorem Apart.symm {v u : Value} (h : Apart v u) : Apart u v := fun k h1 h2 => h k h2 h1
theorem run_one (w : World) (ty : TypeId) (B : Nat) (l : List Int) (v : Value) (ad : Addr) (y : Int) (hc : w.cell? ad = some (.int .u8 y)) (hown : Own B w v l) (hB : B ≤ w.heap.size) (hb : l.length + 1 ≤ 140737488355328) :
    ∃ v' w', (Builtin.append_ #[22, 22] ty #[v, .slice (some ad) 1 1]).run Try.prog w = .ok v' w' ∧ Own B w' v' (l ++ [y]) ∧ v' ≠ .slice none 0 0 ∧ w.grownBy w' v.ownBlock ∧ Near w v v' := by
  obtain ⟨i0, hi, hz0, hz1, hz2⟩ := info_parts Try.info5
  obtain ⟨v', w', h1, h2, h3, h4, h5⟩ := run_append_own_at (P := Try.prog) w B 22 ty 5 i0 (.int .u8 0) 1 1 Try.underlying22 hi hz0 hz1 hz2 rfl (by decide) v l.length (bs l) hown ad 1 1 (bs [y]) rfl (by
    intro j u hu
    have hj : j = 0 := by
      have := (List.getElem?_eq_some_iff.1 hu).1
      simp [bs] at this
      omega
    subst hj
    simp [bs] at hu
    subst hu
    obtain ⟨b, o, s⟩ := ad
    exact hc) (bs_oneCell _) (by unfold maxLen; omega) (by omega) hB
  refine ⟨v', w', h1, ?_, ?_, h3, h5⟩
  · unfold Own; rw [bs_append, List.length_append]; exact h2
  · intro he
    have := (h4.1 he).2
    omega
/-- 'append' of one byte, in a region that draws its order. -/
theorem step_one {ops : Array Oper} {o : Oper} {a : Act} {w : World} {K : Act → World → Prop} {Q : Exit → Act → World → Prop} {E : Prop} (hg : o.guard = none) (s x : Operand)
    (ho : o.op = .call { callee := .builtin .append, args := #[s, x], argTypes := #[22, 22] }) (B : Nat) (l : List Int) (v : Value) (hs : a.eval s = v)
    (ad : Addr) (hx : a.eval x = .slice (some ad) 1 1) (y : Int) (hc : w.cell? ad = some (.int .u8 y)) (hown : Own B w v l) (hB : B ≤ w.heap.size) (hb : l.length + 1 ≤ 140737488355328)
    (hK : ∀ v' w', Own B w' v' (l ++ [y]) → v' ≠ .slice none 0 0 → w.grownBy w' v.ownBlock → Near w v v' → K (a.put o.dst v') w') :
    if Region.wanted o (yielded ops a.tmps) = true then Oper.wp Try.prog o a w K Q else E := by
  have hw : Region.wanted o (yielded ops a.tmps) = true := by simp [Region.wanted, hg]
  rw [if_pos hw]
  obtain ⟨v', w', hr, h2, h3, h4, h5⟩ := run_one w o.type B l v ad y hc hown hB hb
  unfold Oper.wp execOp
  simp only [ho, resolve, invoke, builtin, Sem.run_bind, Sem.run_pure, Result.andThen_ok, List.map_toArray, List.map_cons, List.map_nil, hs, hx, hr]
  exact hK v' w' h2 h3 h4 h5
/-- The same where the order stands. -/
theorem near_one (w : World) {ops : Array Oper} {rest : List Oper} {o : Oper} {a : Act} {Q : Exit → Act → World → Prop} (hgd : o.guard = none) (s x : Operand)
    (ho : o.op = .call { callee := .builtin .append, args := #[s, x], argTypes := #[22, 22] }) (B : Nat) (l : List Int) (v : Value) (hs : a.eval s = v)
    (ad : Addr) (hx : a.eval x = .slice (some ad) 1 1) (y : Int) (hc : w.cell? ad = some (.int .u8 y)) (hown : Own B w v l) (hB : B ≤ w.heap.size) (hb : l.length + 1 ≤ 140737488355328)
    (h : ∀ v' w', Own B w' v' (l ++ [y]) → v' ≠ .slice none 0 0 → w.grownBy w' v.ownBlock → Near w v v' → wpList Try.prog ops Q rest (a.put o.dst v') w') : wpList Try.prog ops Q (o :: rest) a w := by
  refine wpList_plain hgd fun K hK => ?_
  obtain ⟨v', w', hr, h2, h3, h4, h5⟩ := run_one w o.type B l v ad y hc hown hB hb
  unfold Oper.wp execOp
  simp only [ho, resolve, invoke, builtin, Sem.run_bind, Sem.run_pure, Result.andThen_ok, List.map_toArray, List.map_cons, List.map_nil, hs, hx, hr]
  exact hK _ _ (h v' w' h2 h3 h4 h5)
/-- Another slice of the call's own, behind an append. -/
theorem Own.other {B : Nat} {w w' : World} {v v' u : Value} {m : List Int} (hu : Own B w u m) (ha : Apart v u) (hg : w.grownBy w' v.ownBlock) (hn : Near w v v') : Own B w' u m ∧ Apart v' u := by
  constructor
  · refine World.ownsRow.kept hu hg ?_
    cases h : u.ownBlock with
    | none => exact Or.inl rfl
    | some k => exact Or.inr (fun e => ha k e.symm h)
  · intro k hk hk2
    rcases hn with hn | hn
    · exact ha k (by rw [← hn]; exact hk) hk2
    · rw [hn] at hk
      cases hk
      have := (World.ownsRow.lt hu _ hk2).2
      omega

/-- The exclusive or of two lists as far as the shorter goes, and so many zeros. -/
def xorL (a b : List Int) (k : Nat) : List Int := (List.range k).map fun i => (((a.getD i 0).toNat ^^^ (b.getD i 0).toNat : Nat) : Int)
def zeros (k : Nat) : List Int := (List.range k).map fun _ => 0
theorem xorL_succ (a b : List Int) (k : Nat) : xorL a b (k + 1) = xorL a b k ++ [(((a.getD k 0).toNat ^^^ (b.getD k 0).toNat : Nat) : Int)] := by simp [xorL, List.range_succ]
theorem zeros_succ (k : Nat) : zeros (k + 1) = zeros k ++ [0] := by simp [zeros, List.range_succ]
theorem xorL_length (a b : List Int) (k : Nat) : (xorL a b k).length = k := by simp [xorL]
theorem zeros_length (k : Nat) : (zeros k).length = k := by simp [zeros]
theorem zeros_byte (k : Nat) : ∀ z ∈ zeros k, 0 ≤ z ∧ z < 256 := by
  intro z hz
  simp only [zeros, List.mem_map] at hz
  obtain ⟨_, _, rfl⟩ := hz
  omega
theorem xorL_byte (a b : List Int) (k : Nat) (ha : ∀ z ∈ a, 0 ≤ z ∧ z < 256) (hb : ∀ z ∈ b, 0 ≤ z ∧ z < 256) : ∀ z ∈ xorL a b k, 0 ≤ z ∧ z < 256 := by
  have key : ∀ (l : List Int) (i : Nat), (∀ z ∈ l, 0 ≤ z ∧ z < 256) → (l.getD i 0).toNat < 2 ^ 8 := by
    intro l i hl
    by_cases h : i < l.length
    · have := hl (l.getD i 0) (by simp [List.getD, h])
      omega
    · simp [List.getD, List.getElem?_eq_none (Nat.le_of_not_lt h)]
  intro z hz
  simp only [xorL, List.mem_map] at hz
  obtain ⟨i, _, rfl⟩ := hz
  have := Nat.xor_lt_two_pow (key a i ha) (key b i hb)
  omega
theorem rl_xorL (k : Nat) (a b : List Int) (ha : ∀ z ∈ a, 0 ≤ z ∧ z < 256) (hb : ∀ z ∈ b, 0 ≤ z ∧ z < 256) (h1 : k ≤ a.length) (h2 : k ≤ b.length) : M.rl (xorL a b k) = M.rl (a.take k) ^^^ M.rl (b.take k) := by
  induction k generalizing a b with
  | zero => simp [xorL, M.rl]
  | succ k ih =>
    cases a with
    | nil => simp at h1
    | cons x a =>
      cases b with
      | nil => simp at h2
      | cons y b =>
        have hx := ha x (by simp)
        have hy := hb y (by simp)
        have e : xorL (x :: a) (y :: b) (k + 1) = ((x.toNat ^^^ y.toNat : Nat) : Int) :: xorL a b k := by
          simp [xorL, List.range_succ_eq_map]
        have hlt : x.toNat ^^^ y.toNat < 2 ^ 8 := Nat.xor_lt_two_pow (by omega) (by omega)
        rw [e, M.rl_cons _ _ (by omega), ih a b (fun z hz => ha z (by simp [hz])) (fun z hz => hb z (by simp [hz])) (by simpa using h1) (by simpa using h2)]
        simp only [List.take_succ_cons]
        rw [M.rl_cons _ _ hx.2, M.rl_cons _ _ hy.2, Int.toNat_natCast, Nat.shiftLeft_xor_distrib, M.xor4]
theorem rl_zeros (k : Nat) : M.rl (zeros k) = 0 := by
  induction k with
  | zero => rfl
  | succ k ih => rw [zeros_succ, M.rl_snoc, ih]; simp
/-- P1.4. -/
theorem sum_adds (a b : List Int) (k : Nat) (ha : ∀ z ∈ a, 0 ≤ z ∧ z < 256) (hb : ∀ z ∈ b, 0 ≤ z ∧ z < 256) (h1 : k ≤ a.length) (h2 : k ≤ b.length) :
    M.sum (xorL a b k) = M.sum (a.take k) ^^^ M.sum (b.take k) ^^^ M.sum (zeros k) := by
  unfold M.sum
  rw [M.fold_eq _ _ (xorL_byte a b k ha hb), M.fold_eq _ _ (fun z hz => ha z (List.mem_of_mem_take hz)), M.fold_eq _ _ (fun z hz => hb z (List.mem_of_mem_take hz)), M.fold_eq _ _ (zeros_byte k), xorL_length, zeros_length, List.length_take, List.length_take, Nat.min_eq_left h1, Nat.min_eq_left h2, rl_xorL k a b ha hb h1 h2, rl_zeros]
  simp only [M.stN_xor, Nat.xor_zero]
  generalize M.stN (8 * k) 4294967295 = C
  generalize M.stN (8 * k) (M.rl (a.take k)) = A
  generalize M.stN (8 * k) (M.rl (b.take k)) = D
  apply Nat.eq_of_testBit_eq
  intro i
  simp only [Nat.testBit_xor]
  cases Nat.testBit 4294967295 i <;> cases Nat.testBit C i <;> cases Nat.testBit A i <;> cases Nat.testBit D i <;> rfl

end Go.Proofs.Ytnodhappbknclab
