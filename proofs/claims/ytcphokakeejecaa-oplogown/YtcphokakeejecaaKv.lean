import Derived.Test.YtcphokakeejecaaKm
import Derived.Test.YtcphokakeejecaaKp
import Derived.Deep.DeepAppendWide
namespace Go.Proofs.Ytcphokakeejecaa
open Go.RowKit Go.Maps
set_option linter.unusedVariables false
set_option linter.unusedSimpArgs false

/-- 'append' of what a slice holds, as far as it goes. -/
theorem appYw {α : Type} {Y : Lay α} (K : Y.Ok) (w : World) {ops : Array Oper} {rest : List Oper} {o : Oper} {a : Act} {Q : Exit → Act → World → Prop} (hgd : o.guard = none) (s x : Operand)
    (ho : o.op = .call { callee := .builtin .append, args := #[s, x], argTypes := #[Y.ST, Y.ST] }) (B : Nat) (l : List α) (v : Value) (hs : a.eval s = v)
    (ad : Option Addr) (m c : Nat) (hx : a.eval x = .slice ad m c) (news : List α) (hh : SlY Y w ad m c news) (hown : OwnY Y B w v l) (hB : B ≤ w.heap.size) (hm : l.length + m ≤ maxLen) (hb : ((l.length + m) + (l.length + m) / 4 + 192) * Y.by_ ≤ 281474976710656)
    (hk : ∀ v' w', OwnY Y B w' v' (l ++ news) → w.grownBy w' v.ownBlock → wpList Try.prog ops Q rest (a.put o.dst v') w') : wpList Try.prog ops Q (o :: rest) a w := by
  refine wpList_plain hgd fun K' hK' => ?_
  obtain ⟨zv, hinfo, hzc⟩ := K.info
  obtain ⟨i0, hi, hz0, hz1, hz2⟩ := info_parts hinfo
  have hzs : zv.cells.size = Y.k := by rw [hzc, List.size_toArray, K.len]
  have hr : ∃ v' w', (Builtin.append_ #[Y.ST, Y.ST] o.type #[v, .slice ad m c]).run Try.prog w = .ok v' w' ∧ OwnY Y B w' v' (l ++ news) ∧ w.grownBy w' v.ownBlock := by
    cases ad with
    | none =>
      obtain ⟨rfl, rfl⟩ := hh.nil rfl
      obtain rfl : news = [] := List.eq_nil_of_length_eq_zero hh.len
      refine ⟨v, w, ?_, by rw [List.append_nil]; exact hown, World.grownBy.refl _ _⟩
      exact run_append_owned_none (P := Try.prog) (w := w) B Y.ST o.type Y.T i0 Y.k K.und hi v l.length (fl Y l) hown
    | some y =>
      have hnews : ∀ j u, (fl Y news)[j]? = some u → w.cell? (y.add j) = some u := fun j u hu => by
        rcases hh.at_ y rfl with e | ⟨q, o, rfl, _, hl⟩
        · subst e; cases hu
        · rw [Addr.add_lit]; exact hl.flat K j u hu
      have hlen : (fl Y news).length = m * Y.k := by rw [fl_length K, hh.len]
      obtain ⟨v', w', hr, h2, h3, _⟩ := run_append_own_wide (P := Try.prog) w B Y.ST o.type Y.T i0 zv Y.k Y.by_ K.und hi hz0 hz1 hz2 hzs K.kp v l.length (fl Y l) hown y m c (fl Y news) hlen hnews (fl_one K news) hm hb hB
      refine ⟨v', w', hr, ?_, h3⟩
      unfold OwnY
      rw [fl_append, List.length_append, hh.len]
      exact h2
  obtain ⟨v', w', hr, h2, h3⟩ := hr
  unfold Oper.wp execOp
  simp only [ho, resolve, invoke, builtin, Sem.run_bind, Sem.run_pure, Result.andThen_ok, List.map_toArray, List.map_cons, List.map_nil, hs, hx, hr]
  exact hK' _ _ (hk v' w' h2 h3)
theorem ckA_snoc : ∀ (r past : List En) (x : En), (ckA past r).1 = 0 → ckA past (r ++ [x]) = ckA (past ++ r) [x]
  | [], past, x, _ => by simp
  | e :: r, past, x, h => by
    rw [ckA] at h
    by_cases h1 : er past e = 0
    · rw [List.cons_append, ckA, if_neg (by simp [h1])]
      rw [if_neg (by simp [h1])] at h
      rw [ckA_snoc r (past ++ [e]) x h]
      simp
    · rw [if_pos h1] at h
      exact absurd h h1
theorem spE_append (L : List En) (room : Int) (x : En) : spE L room ((L.length : Int) + 1) [x] = if (chk L room).1 ≠ 0 then (chk L room).1 else if (L.length : Int) = room then 60 else er L x := by
  have h0 : ¬ ((L.length : Int) + 1 < 1 ∨ (L.length : Int) + 1 < (L.length : Int) + 1) := by omega
  have hn : ((L.length : Int) + 1 - 1).toNat = L.length := by omega
  rw [spE, if_neg h0, hn, List.take_length]
  by_cases h1 : (chk L room).1 = 0
  · rw [if_neg (by simp [h1]), if_neg (by simp [h1])]
    obtain ⟨_, z2, z3, z4⟩ := chk_zero h1
    have hr : ¬ (room < 1 ∨ 256 < room) := by omega
    have hr2 : ¬ (room < (L.length : Int)) := by omega
    rw [chk, if_neg hr, if_neg hr2] at h1
    rw [chk, if_neg hr]
    by_cases h2 : (L.length : Int) = room
    · rw [if_pos h2, if_pos (by simp; omega)]
    · rw [if_neg h2, if_neg (by simp; omega), ckA_snoc L [] x h1, List.nil_append, ckA, ckA]
      by_cases h3 : er L x = 0 <;> simp [h3]
  · rw [if_pos h1, if_pos h1]
theorem spL_append (L : List En) (room : Int) (x : En) : spL L room ((L.length : Int) + 1) [x] = if spE L room ((L.length : Int) + 1) [x] = 0 then L ++ [x] else [] := by
  have hn : ((L.length : Int) + 1 - 1).toNat = L.length := by omega
  rw [spL, hn, List.take_length]
end Go.Proofs.Ytcphokakeejecaa
