import Derived.Test.YtolnkoneilipeaaGLo
import Derived.Laws.AppendOwnNone
namespace Go.Proofs.Ytolnkoneilipeaa
open Go.RowKit
open Classical
set_option linter.unusedVariables false

/-- 'append' of cells that a slice holds, nil too. -/
theorem app_slC (w : World) {ops : Array Oper} {rest : List Oper} {o : Oper} {a : Act} {Q : Exit → Act → World → Prop} (hgd : o.guard = none) (s x : Operand)
    (ho : o.op = .call { callee := .builtin .append, args := #[s, x], argTypes := #[22, 22] }) (B : Nat) (l : List Cl) (v : Value) (hs : a.eval s = v)
    (ad : Option Addr) (c : Nat) (news : List Cl) (hx : a.eval x = .slice ad news.length c) (hsl : SlC w (.slice ad news.length c) news ad c) (hown : OwnC B w v l) (hB : B ≤ w.heap.size) (hb : (l.length + news.length) * 24 ≤ 140737488355328)
    (h : ∀ v' w', OwnC B w' v' (l ++ news) → w.grownBy w' v.ownBlock → wpList Try.prog ops Q rest (a.put o.dst v') w') : wpList Try.prog ops Q (o :: rest) a w := by
  cases ad with
  | none =>
    obtain ⟨rfl, rfl⟩ := hsl.nil rfl
    obtain ⟨i0, hi, hz0, hz1, hz2⟩ := info_parts info_cell
    refine wpList_append_own_none hgd s x 22 ho B 29 i0 2 Try.underlying22 hi v l.length (ccs l) hs hown hx ?_
    exact h v w (by rw [List.append_nil]; exact hown) (World.grownBy.refl _ _)
  | some y =>
    refine app_cells w hgd s x ho B l v hs y news.length c hx news rfl hown (fun j u hu => ?_) hB hb h
    rcases hsl.at_ y rfl with ⟨e, _⟩ | ⟨q, p, rfl, _, hlie⟩
    · subst e
      simp [ccs] at hu
    · rw [Addr.add_lit]
      exact ccs_at news w q p hlie j u hu
theorem bh_last {L : List Cl} {p : Cl} (h : Ok (L ++ [p])) : bh (L ++ [p]) = p.1 + 1 := by
  have hL : Ok L := ⟨(List.pairwise_append.1 h.up).1, fun q hq => h.may q (by simp [hq])⟩
  have := ((ok_snoc hL p).1 h).2.2
  rw [bh_snoc]
  omega
end Go.Proofs.Ytolnkoneilipeaa
