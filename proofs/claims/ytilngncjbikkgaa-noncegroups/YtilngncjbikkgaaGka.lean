import Derived.Test.YtilngncjbikkgaaGy
import Derived.Test.YtilngncjbikkgaaMx
import Derived.Test.YtilngncjbikkgaaRp
import Derived.Lib.AppendStr
import Derived.Laws.AppendOwnNone
namespace Go.Proofs.Ytilngncjbikkgaa
open Go.RowKit
set_option linter.unusedVariables false

theorem tcs_length : ∀ l : List (Int × Int × Int), (tcs l).length = l.length * 3
  | [] => rfl
  | d :: r => by simp only [tcs, List.length_cons, tcs_length r]; omega
theorem tcs_one : ∀ (l : List (Int × Int × Int)) (u : Value), u ∈ tcs l → u.oneCell' = true
  | [], u, h => by cases h
  | d :: r, u, h => by
    simp only [tcs, List.mem_cons] at h
    rcases h with rfl | rfl | rfl | h
    · rfl
    · rfl
    · rfl
    · exact tcs_one r u h
/-- 'append' of stamps that lie somewhere. -/
theorem app_stamps (w : World) {ops : Array Oper} {rest : List Oper} {o : Oper} {a : Act} {Q : Exit → Act → World → Prop} (hgd : o.guard = none) (s x : Operand)
    (ho : o.op = .call { callee := .builtin .append, args := #[s, x], argTypes := #[41, 41] }) (B : Nat) (l : List (Int × Int × Int)) (v : Value) (hs : a.eval s = v)
    (ad : Addr) (m c : Nat) (hx : a.eval x = .slice (some ad) m c) (news : List (Int × Int × Int)) (hm : news.length = m) (hown : OwnS B w v l) (hnews : ∀ j u, (tcs news)[j]? = some u → w.cell? (ad.add j) = some u) (hB : B ≤ w.heap.size) (hb : (l.length + m) * 24 ≤ 140737488355328)
    (h : ∀ v' w', OwnS B w' v' (l ++ news) → w.grownBy w' v.ownBlock → wpList Try.prog ops Q rest (a.put o.dst v') w') : wpList Try.prog ops Q (o :: rest) a w := by
  obtain ⟨i0, hi, hz0, hz1, hz2⟩ := info_parts' info_stamp
  refine wpList_append_own _ hgd s x 41 ho B 70 i0 (.agg #[.int .i64 0, .int .u64 0, .int .u64 0]) 3 24 Try.underlying41 hi hz0 hz1 hz2 rfl (by decide) v l.length (tcs l) hs hown ad m c (tcs news) hx (by rw [tcs_length, hm]) hnews (tcs_one _) (by unfold maxLen; omega) hb hB ?_
  intro v' w' h2 h3 h4
  refine h v' w' ?_ h3
  unfold OwnS
  rw [tcs_append, List.length_append, hm]
  exact h2
set_option maxHeartbeats 400000 in
theorem clone_stamps (B g n c : Nat) (L : List (Int × Int × Int)) (w : World) (h : OwnS B w (.slice (some ⟨g, 0, none⟩) n c) L) (hn : L.length = n) (hb : n * 24 ≤ 140737488355328) :
    Calls Try.prog 34 #[.slice (some ⟨g, 0, none⟩) n c] w fun e w' => ∃ v', e = .returned v' ∧ OwnS w.heap.size w' v' L ∧ Below w.heap.size w w' := by
  have kn := fun (w : World) => Lib.run_eql_slice_nil (P := Try.prog) w 41 70 (some ⟨g, 0, none⟩) n c 0 0 Try.underlying41
  go_enter Try.func34, Try.ntmps34
  go_wp2_with (at_builtin; go_must (refine app_stamps _ rfl (.tmp 5) (.tmp 6) rfl w.heap.size [] _ rfl ⟨g, 0, none⟩ n c rfl L hn ?zo ?zc ?zB ?zb ?zk))
  case zo => exact World.ownsRow_made w #[] 0 (Nat.le_refl _) (by unfold maxLen; omega) rfl
  case zc =>
    intro j u hu
    have := World.ownsRow.cells h (g := g) rfl j u hu
    exact cell_later ((Below.refl _ _).alloc (Nat.le_refl _) _) this
  case zB => simp
  case zb => simpa using hb
  case zk =>
    intro v' w' h1 h3
    have hb : Below w.heap.size w w' := ((Below.refl _ _).alloc (Nat.le_refl _) _).grown h3 (by simp) (fun k hk => by cases hk; exact Nat.le_refl _)
    go_wp2
    go_ret
    exact ⟨v', rfl, h1, hb⟩
theorem drawn_any (B g : Nat) (vd : Value) (L : List (Int × Int × Int)) (w : World) (c1 : w.cell? ⟨g, 1, none⟩ = some vd) (h : OwnS B w vd L) (hL : L ≠ []) (hb : L.length * 24 ≤ 140737488355328) :
    Calls Try.prog 23 #[.pointer (some ⟨g, 0, none⟩)] w fun e w' => ∃ v', e = .returned v' ∧ OwnS w.heap.size w' v' L ∧ Below w.heap.size w w' := by
  obtain ⟨a, k, rfl, h1, h2, h3, h4⟩ := h.form
  cases a with
  | none => exact absurd (h3 rfl).1 hL
  | some x =>
    obtain ⟨q, rfl, _, _⟩ := h4 x rfl
    go_enter Try.func23, Try.ntmps23
    go_wp2_with fail
    refine (clone_stamps B q _ k L w h rfl hb).mono ?_
    rintro e w' ⟨v', rfl, o', b'⟩
    go_wp2
    go_ret
    exact ⟨v', rfl, o', b'⟩
theorem clone_nilS (w : World) :
    Calls Try.prog 34 #[.slice none 0 0] w fun e w' => e = .returned (.slice none 0 0) ∧ w' = w := by
  have kn := fun (w : World) => Lib.run_eql_slice_nil (P := Try.prog) w 41 70 none 0 0 0 0 Try.underlying41
  go_enter Try.func34, Try.ntmps34
  go_wp2
  go_ret
  exact ⟨rfl, rfl⟩
theorem drawn_all {B g : Nat} {vd : Value} {L : List (Int × Int × Int)} {w : World} (c1 : w.cell? ⟨g, 1, none⟩ = some vd) (h : OwnS B w vd L) (hn : L = [] → vd = .slice none 0 0) (hb : L.length * 24 ≤ 140737488355328) :
    Calls Try.prog 23 #[.pointer (some ⟨g, 0, none⟩)] w fun e w' => ∃ v', e = .returned v' ∧ OwnS w.heap.size w' v' L ∧ Below w.heap.size w w' := by
  by_cases hL : L = []
  · have e := hn hL
    subst e hL
    go_enter Try.func23, Try.ntmps23
    go_wp2_with fail
    refine (clone_nilS w).mono ?_
    rintro e w' ⟨rfl, rfl⟩
    go_wp2
    go_ret
    exact ⟨_, rfl, OwnS.nil _ _, Below.refl _ _⟩
  · exact drawn_any B g vd L w c1 h hL hb

end Go.Proofs.Ytilngncjbikkgaa
