import Derived.Test.YtdgelllmngdpkaaNs1
namespace Go.Proofs.Ytdgelllmngdpkaa
open Go.RowKit
set_option linter.unusedVariables false

/-- The marks behind lent draws. -/
def marks (k : Nat) : List (Int × Int) := (List.range k).map fun (i : Nat) => ((77 : Int), (i : Int))
theorem marks_next (k : Nat) : marks k ++ [(77, (k : Int))] = marks (k + 1) := by simp [marks, List.range_succ]
theorem marks_length (k : Nat) : (marks k).length = k := by simp [marks]

set_option maxRecDepth 100000 in
set_option maxHeartbeats 400000 in
theorem lent_any (D : List (Int × Int)) (x : Addr) (c : Nat) (w : World) (h : Sl w (.slice (some x) D.length c) D (some x) c) (hb : D.length * 16 ≤ 140737488351232) :
    Calls Try.prog 4 #[.slice (some x) D.length c] w fun e w' => ∃ ao co, e = .returned (.slice ao D.length co) ∧ OwnD w.heap.size w' (.slice ao (D.length + 7) co) (D ++ marks 7) ∧ Below w.heap.size w w' := by
  have hc : ∀ j u, (dcs D)[j]? = some u → w.cell? (x.add j) = some u := by
    rcases h.at_ x rfl with ⟨e, _⟩ | ⟨q, o, rfl, hq, hl⟩
    · subst e
      intro j u hu
      cases hu
    · intro j u hu
      rw [Addr.add_lit]
      exact dcs_at D w q o hl j u hu
  go_enter Try.func4, Try.ntmps4
  go_wp2_with (at_builtin; go_must (refine app_draws _ rfl (.tmp 5) (.tmp 6) rfl w.heap.size [] _ rfl x D.length c rfl D rfl ?zo ?zc ?zB ?zb ?zk))
  case zo => exact OwnD.nil _ _
  case zc => exact hc
  case zB => exact Nat.le_refl _
  case zb => simp; omega
  intro v1 w1 o1 g1
  have b1 : Below w.heap.size w w1 := (Below.refl _ _).grown g1 (Nat.le_refl _) (fun k hk => by cases hk)
  clear hc h g1
  have o0 : OwnD w.heap.size w1 v1 (D ++ marks 0) := by rw [show marks 0 = [] from rfl, List.append_nil]; exact o1
  clear o1
  go_wp2
  go_loopw [3, 4] (fun vo i wr => ∃ k : Nat, k ≤ 7 ∧ i = .int .i64 (k : Int) ∧ OwnD w.heap.size wr vo (D ++ marks k) ∧ Below w.heap.size w wr) (fun _ i _ => 7 - (intOf i).toNat)
  case atStart => exact ⟨0, by omega, rfl, o0, b1⟩
  case round =>
    obtain ⟨k, hk, rfl, o, bl⟩ := hrel
    clear o0 b1
    have lr := bl.size
    by_cases hlt : k < 7
    · go_wp2_with (at_builtin; go_must (refine app_draw _ rfl (.tmp 12) (.tmp 16) rfl w.heap.size (D ++ marks k) _ rfl ⟨wr.heap.size, 0, none⟩ rfl 77 (k : Int) ?yc ?yd ?yo ?yB ?yb ?yk))
      case yc => simp
      case yd => simp [Addr.add]
      case yo => exact o.alloc _
      case yB => simp; omega
      case yb => rw [List.length_append, marks_length]; omega
      intro v2 w2 o2 n2 g2
      have b2 := OwnD.grown (o.alloc _) (bl.alloc lr _) g2 (by simp; omega)
      rw [marks_next] at o2
      clear o bl g2
      go_wp2
      go_round
      case rel => exact ⟨k + 1, by omega, by go_num, o2, b2⟩
      case measure => simp [intOf]; omega
    · obtain rfl : k = 7 := by omega
      obtain ⟨ao, co, rfl, h1, h2, h3, h4⟩ := o.form
      have hl : (D ++ marks 7).length = D.length + 7 := by rw [List.length_append, marks_length]
      rw [hl] at h1 o ⊢
      cases ao with
      | none => have := (h3 rfl).1; rw [this] at hl; simp at hl
      | some z =>
        have hco : D.length ≤ co := by omega
        clear h3 h4
        unfold maxLen at h2
        go_wp2

        go_ret
        exact ⟨some z, co, rfl, o, bl⟩

end Go.Proofs.Ytdgelllmngdpkaa
