import Derived.Test.YthhghenaflnlfaaFr
import Derived.Test.YthhghenaflnlfaaSe
import Derived.Deep.RegionLaw
namespace Go.Proofs.Ythhghenaflnlfaa
open Go.RowKit
set_option linter.unusedVariables false

theorem st_odd (s : Nat) (h : s < 4294967296) (ho : s % 2 = 1) : bits .xor .u32 ((s : Int) / 2) 3988292384 = ((M.st s : Nat) : Int) := by
  have e3 : ((s : Int) / (2 : Int)) = ((s >>> 1 : Nat) : Int) := by rw [Nat.shiftRight_eq_div_pow]; omega
  have h2 : s >>> 1 < 4294967296 := by rw [Nat.shiftRight_eq_div_pow]; omega
  rw [e3]
  refine (u32_xor_nat (s >>> 1) 3988292384 h2 (by omega)).trans ?_
  unfold M.st
  rw [Nat.and_one_is_mod, ho]
theorem st_even (s : Nat) (ho : s % 2 = 0) : ((s : Int) / 2) = ((M.st s : Nat) : Int) := by
  have e3 : ((s : Int) / (2 : Int)) = ((s >>> 1 : Nat) : Int) := by rw [Nat.shiftRight_eq_div_pow]; omega
  rw [e3]
  unfold M.st
  rw [Nat.and_one_is_mod, ho]
  simp
theorem odd_test (s : Nat) (h : s < 4294967296) : (bits .and .u32 (s : Int) 1 == 1) = decide (s % 2 = 1) := by
  have e1 : bits .and .u32 (s : Int) 1 = ((s &&& 1 : Nat) : Int) := u32_and_nat s 1 h (by omega)
  rw [e1, Nat.and_one_is_mod]
  have h2 : s % 2 < 2 := Nat.mod_lt _ (by omega)
  generalize s % 2 = b at *
  match b, h2 with
  | 0, _ | 1, _ => rfl
theorem not_bits' (a : Nat) (ha : a < 4294967296) : bits .xor .u32 (a : Int) 4294967295 = ((4294967295 ^^^ a : Nat) : Int) := by
  have := u32_xor_nat a 4294967295 ha (by omega)
  rw [Nat.xor_comm]
  exact this

theorem Own.kept {B : Nat} {w w' : World} {v : Value} {l : List Int} (h : Own B w v l) (hb : Below w.heap.size w w') : Own B w' v l := by
  refine ⟨h.1, ?_⟩
  rcases h.2 with h2 | ⟨g, c, cur, h1, h2, h3, r⟩
  · exact Or.inl h2
  · exact Or.inr ⟨g, c, cur, h1, h2, by rw [hb.block g ((World.ownsRow.lt h g (by rw [h1]; rfl)).2)]; exact h3, r⟩
theorem own_built (w : World) (C : Array Value) (n : Nat) (l : List Int) (hn : l.length = n) (hC : C.toList = bs l) (hm : n ≤ maxLen) : Own w.heap.size (w.alloc (.cells C 5)) (.slice (some ⟨w.heap.size, 0, none⟩) n n) l := by
  subst hn
  have hsz : C.size = l.length := by rw [← Array.length_toList, hC]; simp [bs]
  refine ⟨by simp [bs], .inr ⟨w.heap.size, l.length, C, rfl, Nat.le_refl _, heap_alloc_new w _, Nat.le_refl _, hm, by rw [hsz, Nat.mul_one], ?_⟩⟩
  rw [hC]
  exact List.take_of_length_le (by simp [bs])
theorem be4_vals (n : Nat) (h : n < 4294967296) : bs (M.be n 4) = [.int .u8 ((n : Int) / 16777216), .int .u8 ((n : Int) / 65536 % 256), .int .u8 ((n : Int) / 256 % 256), .int .u8 ((n : Int) % 256)] := by
  rw [be4]
  simp only [bs, List.map_cons, List.map_nil, M.beAt, Nat.shiftRight_eq_div_pow, List.cons.injEq, Value.int.injEq, true_and, and_true]
  simp
  omega

theorem le_be (S : Nat) : M.le S 4 = [M.beAt S 3, M.beAt S 2, M.beAt S 1, M.beAt S 0] := by
  rw [le4]
  rfl
/-- 'append' of bytes, in a region that draws its order. -/
theorem step_bytes {ops : Array Oper} {o : Oper} {a : Act} {w : World} {K : Act → World → Prop} {Q : Exit → Act → World → Prop} {E : Prop} (hg : o.guard = none) (s x : Operand)
    (ho : o.op = .call { callee := .builtin .append, args := #[s, x], argTypes := #[27, 27] }) (B : Nat) (l : List Int) (v : Value) (hs : a.eval s = v)
    (ad : Addr) (m c : Nat) (hx : a.eval x = .slice (some ad) m c) (news : List Int) (hm : news.length = m) (hc : Row w ad news) (hown : Own B w v l) (hB : B ≤ w.heap.size) (hb : l.length + m ≤ 140737488355328)
    (hK : ∀ v' w', Own B w' v' (l ++ news) → Keeps v v' m → w.grownBy w' v.ownBlock → K (a.put o.dst v') w') :
    if Region.wanted o (yielded ops a.tmps) = true then Oper.wp Try.prog o a w K Q else E := by
  have hw : Region.wanted o (yielded ops a.tmps) = true := by simp [Region.wanted, hg]
  rw [if_pos hw]
  obtain ⟨i0, hi, hz0, hz1, hz2⟩ := info_parts Try.info5
  refine wp_append_own w s x 27 ho B 5 i0 (.int .u8 0) 1 1 Try.underlying27 hi hz0 hz1 hz2 rfl (by decide) v l.length (bs l) hs hown ad m c (bs news) hx (by simp [bs, hm]) ?_ (bs_oneCell _) (by unfold maxLen; omega) (by omega) hB ?_
  · intro j u hu
    have hj : j < news.length := by simpa [bs] using (List.getElem?_eq_some_iff.1 hu).1
    rw [hc j hj, ← hu]
    simp [bs, hj, List.getD]
  · intro v' w' h2 h3 h4
    refine hK v' w' ?_ ?_ h3
    · unfold Own; rw [bs_append, List.length_append, hm]; exact h2
    · intro hp he
      obtain ⟨k1, k2⟩ := h4.1 he
      rcases hp with hp | hp
      · exact hp k1
      · omega

end Go.Proofs.Ythhghenaflnlfaa
