import Derived.Test.YtdgelllmngdpkaaLn1
namespace Go.Proofs.Ytdgelllmngdpkaa
open Go.RowKit
set_option linter.unusedVariables false

/-- 'append' of draws that a slice holds, nil too. -/
theorem app_slD (w : World) {ops : Array Oper} {rest : List Oper} {o : Oper} {a : Act} {Q : Exit → Act → World → Prop} (hgd : o.guard = none) (s x : Operand)
    (ho : o.op = .call { callee := .builtin .append, args := #[s, x], argTypes := #[23, 23] }) (B : Nat) (l : List (Int × Int)) (v : Value) (hs : a.eval s = v)
    (ad : Option Addr) (c : Nat) (news : List (Int × Int)) (hx : a.eval x = .slice ad news.length c) (hsl : Sl w (.slice ad news.length c) news ad c) (hown : OwnD B w v l) (hB : B ≤ w.heap.size) (hb : (l.length + news.length) * 16 ≤ 140737488355328)
    (h : ∀ v' w', OwnD B w' v' (l ++ news) → w.grownBy w' v.ownBlock → wpList Try.prog ops Q rest (a.put o.dst v') w') : wpList Try.prog ops Q (o :: rest) a w := by
  cases ad with
  | none =>
    obtain ⟨rfl, rfl⟩ := hsl.nil rfl
    obtain ⟨i0, hi, hz0, hz1, hz2⟩ := info_parts info_draw
    refine wpList_append_own_none hgd s x 23 ho B 44 i0 2 Try.underlying23 hi v l.length (dcs l) hs hown hx ?_
    exact h v w (by rw [List.append_nil]; exact hown) (World.grownBy.refl _ _)
  | some y =>
    refine app_draws w hgd s x ho B l v hs y news.length c hx news rfl hown (fun j u hu => ?_) hB hb h
    rcases hsl.at_ y rfl with ⟨e, _⟩ | ⟨q, p, rfl, _, hlie⟩
    · subst e; cases hu
    · rw [Addr.add_lit]; exact dcs_at news w q p hlie j u hu
set_option maxRecDepth 100000 in
set_option maxHeartbeats 400000 in
theorem lent1_any (D : List (Int × Int)) (x : Option Addr) (c : Nat) (w : World) (h : Sl w (.slice x D.length c) D x c) (hb : D.length * 16 ≤ 140737488351232) :
    Calls Try.prog 4 #[.slice x D.length c] w fun e w' => ∃ ao co, e = .returned (.slice ao D.length co) ∧ OwnD w.heap.size w' (.slice ao (D.length + 7) co) (D ++ marks 7) ∧ Below w.heap.size w w' := by
  have H := hide h
  clear h
  go_enter Try.func4, Try.ntmps4
  go_wp2_with (at_builtin; go_must (refine app_slD _ rfl (.tmp 5) (.tmp 6) rfl w.heap.size [] _ rfl x c D rfl H.out (OwnD.nil _ _) (Nat.le_refl _) (by simp; omega) ?_))
  intro v1 w1 o1 g1
  have b1 : Below w.heap.size w w1 := (Below.refl _ _).grown g1 (Nat.le_refl _) (fun k hk => by cases hk)
  clear g1
  have o0 : OwnD w.heap.size w1 v1 (D ++ marks 0) := by rw [show marks 0 = [] from rfl, List.append_nil]; exact o1
  clear o1
  go_wp2
  go_loopw [3, 4] (fun vo i wr => ∃ k : Nat, k ≤ 7 ∧ i = .int .i64 (k : Int) ∧ OwnD w.heap.size wr vo (D ++ marks k) ∧ Below w.heap.size w wr) (fun _ i _ => 7 - (intOf i).toNat)
  case atStart => exact ⟨0, by omega, rfl, o0, b1⟩
  case round =>
    obtain ⟨k, hk, rfl, o, bl⟩ := hrel
    clear o0 b1
    have lr := bl.size
    by_cases hlt : k < 7
    · go_wp2_with (at_builtin; go_must (refine app_draw _ rfl (.tmp 12) (.tmp 16) rfl w.heap.size (D ++ marks k) _ rfl ⟨wr.heap.size, 0, none⟩ rfl 77 (k : Int) ?yc ?yd ?yo ?yB ?yb ?yk))
      case yc => simp
      case yd => simp [Addr.add]
      case yo => exact o.alloc _
      case yB => simp; omega
      case yb => rw [List.length_append, marks_length]; omega
      intro v2 w2 o2 n2 g2
      have b2 := OwnD.grown (o.alloc _) (bl.alloc lr _) g2 (by simp; omega)
      rw [marks_next] at o2
      clear o bl g2
      go_wp2
      go_round
      case rel => exact ⟨k + 1, by omega, by go_num, o2, b2⟩
      case measure => simp [intOf]; omega
    · obtain rfl : k = 7 := by omega
      obtain ⟨ao, co, rfl, h1, h2, h3, h4⟩ := o.form
      have hl : (D ++ marks 7).length = D.length + 7 := by rw [List.length_append, marks_length]
      rw [hl] at h1 o ⊢
      cases ao with
      | none => have := (h3 rfl).1; rw [this] at hl; simp at hl
      | some z =>
        have hco : D.length ≤ co := by omega
        clear h3 h4
        unfold maxLen at h2
        go_wp2

        go_ret
        exact ⟨some z, co, rfl, o, bl⟩

end Go.Proofs.Ytdgelllmngdpkaa
