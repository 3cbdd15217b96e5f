import Derived.Test.YtdgelllmngdpkaaSt
import Derived.Lib.AppendStr
import Derived.Laws.AppendOwnNone
namespace Go.Proofs.Ytdgelllmngdpkaa
open Go.RowKit
set_option linter.unusedVariables false

theorem dcs_one : ∀ (l : List (Int × Int)) (u : Value), u ∈ dcs l → u.oneCell' = true
  | [], u, h => by cases h
  | d :: r, u, h => by
    simp only [dcs, List.mem_cons] at h
    rcases h with rfl | rfl | h
    · rfl
    · rfl
    · exact dcs_one r u h
theorem dcs_at : ∀ (D : List (Int × Int)) (w : World) (q o : Nat), Lie w q o D → ∀ j u, (dcs D)[j]? = some u → w.cell? ⟨q, o + j, none⟩ = some u
  | [], w, q, o, h, j, u, hu => by simp [dcs] at hu
  | d :: r, w, q, o, h, 0, u, hu => by
    simp [dcs] at hu; subst hu
    have := (h 0 d rfl).1
    simpa using this
  | d :: r, w, q, o, h, 1, u, hu => by
    simp [dcs] at hu; subst hu
    have := (h 0 d rfl).2
    simpa using this
  | d :: r, w, q, o, h, j + 2, u, hu => by
    simp only [dcs, List.getElem?_cons_succ] at hu
    have := dcs_at r w q (o + 2) h.tail j u hu
    rw [show o + (j + 2) = o + 2 + j from by omega]
    exact this
/-- 'append' of draws that lie somewhere. -/
theorem app_draws (w : World) {ops : Array Oper} {rest : List Oper} {o : Oper} {a : Act} {Q : Exit → Act → World → Prop} (hgd : o.guard = none) (s x : Operand)
    (ho : o.op = .call { callee := .builtin .append, args := #[s, x], argTypes := #[23, 23] }) (B : Nat) (l : List (Int × Int)) (v : Value) (hs : a.eval s = v)
    (ad : Addr) (m c : Nat) (hx : a.eval x = .slice (some ad) m c) (news : List (Int × Int)) (hm : news.length = m) (hown : OwnD B w v l) (hnews : ∀ j u, (dcs news)[j]? = some u → w.cell? (ad.add j) = some u) (hB : B ≤ w.heap.size) (hb : (l.length + m) * 16 ≤ 140737488355328)
    (h : ∀ v' w', OwnD B w' v' (l ++ news) → w.grownBy w' v.ownBlock → wpList Try.prog ops Q rest (a.put o.dst v') w') : wpList Try.prog ops Q (o :: rest) a w := by
  obtain ⟨i0, hi, hz0, hz1, hz2⟩ := info_parts info_draw
  refine wpList_append_own _ hgd s x 23 ho B 44 i0 (.agg #[.int .u64 0, .int .u64 0]) 2 16 Try.underlying23 hi hz0 hz1 hz2 rfl (by decide) v l.length (dcs l) hs hown ad m c (dcs news) hx (by rw [dcs_length, hm]) hnews (dcs_one _) (by unfold maxLen; omega) hb hB ?_
  intro v' w' h2 h3 h4
  refine h v' w' ?_ h3
  unfold OwnD
  rw [dcs_append, List.length_append, hm]
  exact h2
set_option maxHeartbeats 400000 in
theorem clone_draws (ad : Addr) (n c : Nat) (D : List (Int × Int)) (w : World) (h : ∀ j u, (dcs D)[j]? = some u → w.cell? (ad.add j) = some u) (hn : D.length = n) (hb : n * 16 ≤ 140737488355328) :
    Calls Try.prog 11 #[.slice (some ad) n c] w fun e w' => ∃ v', e = .returned v' ∧ OwnD w.heap.size w' v' D ∧ Below w.heap.size w w' := by
  have kn := fun (w : World) => Lib.run_eql_slice_nil (P := Try.prog) w 23 44 (some ad) n c 0 0 Try.underlying23
  go_enter Try.func11, Try.ntmps11
  go_wp2_with (at_builtin; go_must (refine app_draws _ rfl (.tmp 5) (.tmp 6) rfl w.heap.size [] _ rfl ad n c rfl D hn ?zo ?zc ?zB ?zb ?zk))
  case zo => exact World.ownsRow_made w #[] 0 (Nat.le_refl _) (by unfold maxLen; omega) rfl
  case zc => exact fun j u hu => cell_later ((Below.refl _ _).alloc (Nat.le_refl _) _) (h j u hu)
  case zB => simp
  case zb => simpa using hb
  case zk =>
    intro v' w' h1 h3
    have hb : Below w.heap.size w w' := ((Below.refl _ _).alloc (Nat.le_refl _) _).grown h3 (by simp) (fun k hk => by cases hk; exact Nat.le_refl _)
    go_wp2
    go_ret
    exact ⟨v', rfl, h1, hb⟩
theorem clone_nil (w : World) :
    Calls Try.prog 11 #[.slice none 0 0] w fun e w' => e = .returned (.slice none 0 0) ∧ w' = w := by
  have kn := fun (w : World) => Lib.run_eql_slice_nil (P := Try.prog) w 23 44 none 0 0 0 0 Try.underlying23
  go_enter Try.func11, Try.ntmps11
  go_wp2
  go_ret
  exact ⟨rfl, rfl⟩
theorem OwnD.sl {B : Nat} {w : World} {v : Value} {D : List (Int × Int)} (h : OwnD B w v D) : ∃ a c, Sl w v D a c ∧ ∀ z, a = some z → B ≤ z.block ∧ z.block < w.heap.size := by
  obtain ⟨a, c, rfl, h1, h2, h3, h4⟩ := h.form
  refine ⟨a, c, ⟨rfl, h1, h2, h3, fun x hx => ?_⟩, fun z hz => ?_⟩
  · obtain ⟨g, rfl, _, hl⟩ := h4 x hx
    subst hx
    exact .inr ⟨g, 0, rfl, hl, fun i d hd => by rw [Nat.zero_add]; exact h.cell i d hd⟩
  · obtain ⟨g, rfl, hB, hl⟩ := h4 z hz
    exact ⟨hB, hl⟩
theorem newstream_any (D : List (Int × Int)) (a : Option Addr) (c : Nat) (w : World) (h : Sl w (.slice a D.length c) D a c) (hb : D.length * 16 ≤ 140737488355328) :
    Calls Try.prog 7 #[.slice a D.length c] w fun e w' => ∃ s a' c', e = .returned (.pointer (some ⟨s, 0, none⟩)) ∧ Str w' s D a' c' ∧ w.heap.size ≤ s ∧ (∀ z, a' = some z → w.heap.size ≤ z.block) ∧ Below w.heap.size w w' := by
  have fin : ∀ v1 w1, OwnD w.heap.size w1 v1 D → Below w.heap.size w w1 → ∃ a' c', v1 = .slice a' D.length c' ∧ Str (w1.alloc (.cells #[v1] 60)) w1.heap.size D a' c' ∧ w.heap.size ≤ w1.heap.size ∧ (∀ z, a' = some z → w.heap.size ≤ z.block) ∧ Below w.heap.size w (w1.alloc (.cells #[v1] 60)) := by
    intro v1 w1 o b
    obtain ⟨a', c', hs, hz⟩ := o.sl
    have hf := hs.form
    subst hf
    have hs2 := hs.upd (S := fun _ => False) ((Upd.refl _ w1).alloc (.cells #[.slice a' D.length c'] 60)) (fun _ _ _ => id)
    refine ⟨a', c', rfl, ⟨by simp, by simp, by simp, hs2, fun z hz' => ?_, fun z hz' => ?_⟩, b.size, fun z hz' => (hz z hz').1, b.alloc b.size _⟩
    · have := (hz z hz').2
      show z.block ≠ w1.heap.size
      omega
    · have := (hz z hz').2
      simp
      omega
  have FIN := hide fin
  clear fin
  cases a with
  | none =>
    obtain ⟨hD, hc⟩ := h.nil rfl
    subst hD
    subst hc
    go_enter Try.func7, Try.ntmps7
    go_wp2_with fail
    refine (clone_nil _).mono ?_
    rintro e w1 ⟨rfl, e1⟩
    have e1 := e1.symm
    subst e1
    obtain ⟨a', c', hv, r⟩ := FIN.out _ w (OwnD.nil _ _) (Below.refl _ _)
    cases hv
    go_wp2
    go_ret
    exact ⟨_, none, 0, rfl, r⟩
  | some x =>
    have hc : ∀ j u, (dcs D)[j]? = some u → w.cell? (x.add j) = some u := by
      rcases h.at_ x rfl with ⟨e, _⟩ | ⟨q, o, rfl, hq, hl⟩
      · subst e
        intro j u hu
        cases hu
      · intro j u hu
        rw [Addr.add_lit]
        exact dcs_at D w q o hl j u hu
    go_enter Try.func7, Try.ntmps7
    go_wp2_with fail
    refine (clone_draws x _ c D w hc rfl hb).mono ?_
    rintro e w1 ⟨v1, rfl, o1, b1⟩
    obtain ⟨a', c', rfl, r⟩ := FIN.out _ w1 o1 b1
    go_wp2
    go_ret
    exact ⟨_, a', c', rfl, r⟩
theorem sleft_any (s : Nat) (D : List (Int × Int)) (a : Option Addr) (c : Nat) (w : World) (h : Str w s D a c) :
    Calls Try.prog 24 #[.pointer (some ⟨s, 0, none⟩)] w fun e w' => e = .returned (.int .i64 (D.length : Int)) ∧ w' = w := by
  have c0 := h.c0
  go_enter Try.func24, Try.ntmps24
  go_wp2
  go_ret
  exact ⟨rfl, rfl⟩

end Go.Proofs.Ytdgelllmngdpkaa
