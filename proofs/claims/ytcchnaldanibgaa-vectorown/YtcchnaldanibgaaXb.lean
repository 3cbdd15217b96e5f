import Derived.Test.YtcchnaldanibgaaVr
namespace Go.Proofs.Ytcchnaldanibgaa
open Go.RowKit
set_option linter.unusedVariables false
set_option linter.unusedSimpArgs false

/-- 'append' of one draw: the row's block is the old one, or a new one and nothing that was there has changed. -/
theorem run_app_drawN (w : World) (ty : TypeId) (B : Nat) (l : List (Int × Int)) (v : Value) (ad : Addr) (h l' : Int) (hc : w.cell? ad = some (.int .u64 h)) (hc1 : w.cell? (ad.add 1) = some (.int .u64 l')) (hown : OwnD B w v l) (hB : B ≤ w.heap.size) (hb : (l.length + 1) * 16 ≤ 140737488355328) (hne : l ≠ []) :
    ∃ v' w', (Builtin.append_ #[23, 23] ty #[v, .slice (some ad) 1 1]).run Try.prog w = .ok v' w' ∧ OwnD B w' v' (l ++ [(h, l')]) ∧ w.grownBy w' v.ownBlock ∧ (v'.ownBlock = v.ownBlock ∨ ∃ k, v'.ownBlock = some k ∧ w.heap.size ≤ k ∧ Below w.heap.size w w') := by
  obtain ⟨i0, hi, hz0, hz1, hz2⟩ := info_parts info_draw
  have hnews : ∀ j u, [(.int .u64 h : Value), .int .u64 l'][j]? = some u → w.cell? (ad.add j) = some u := by
    intro j y hy
    match j, hy with
    | 0, hy => simp at hy; subst hy; obtain ⟨b, o, s⟩ := ad; exact hc
    | 1, hy => simp at hy; subst hy; exact hc1
    | j + 2, hy => simp at hy
  have hone : ∀ u, u ∈ [(.int .u64 h : Value), .int .u64 l'] → u.oneCell' = true := by intro y hy; simp at hy; rcases hy with rfl | rfl <;> rfl
  obtain ⟨v', w', hr, h2, h3, h4⟩ := run_append_own (P := Try.prog) w B 23 ty 26 i0 (.agg #[.int .u64 0, .int .u64 0]) 2 16 Try.underlying23 hi hz0 hz1 hz2 rfl (by decide) v l.length (dcs l) hown ad 1 1 [.int .u64 h, .int .u64 l'] rfl hnews hone (by unfold maxLen; omega) hb hB
  refine ⟨v', w', hr, ?_, h3, ?_⟩
  · unfold OwnD
    rw [dcs_append, List.length_append]
    exact h2
  rcases hown.2 with ⟨rfl, hn⟩ | ⟨g, cap, cur, rfl, hbg, hg, hnc, hcm, hcs, htake⟩
  · exact absurd (List.eq_nil_of_length_eq_zero hn) hne
  · by_cases hroom : l.length + 1 ≤ cap
    · left
      have hfit : l.length * i0.size + [(.int .u64 h : Value), .int .u64 l'].length ≤ cur.size := by rw [hcs, hz1]; simp; omega
      have hr2 := run_append_room (P := Try.prog) w 23 ty 26 i0 Try.underlying23 hi g l.length cap cur hg ad 1 1 [.int .u64 h, .int .u64 l'] (by simp [hz1]) hnews hone hroom hfit
      rw [hr] at hr2
      cases hr2
      rfl
    · right
      have holds : ∀ j u, (dcs l)[j]? = some u → w.cell? ((⟨g, 0, none⟩ : Addr).add j) = some u := World.ownsRow.cells hown (g := g) rfl
      have hr2 := run_append_grow (P := Try.prog) w 23 ty 26 i0 (.agg #[.int .u64 0, .int .u64 0]) Try.underlying23 hi hz0 ⟨g, 0, none⟩ l.length cap (dcs l) (by rw [hz1, dcs_length]) holds ad 1 1 [.int .u64 h, .int .u64 l'] (by simp [hz1]) hnews (by omega) (by omega) (growslice_fits (by omega) (by rw [hz2]; exact hb))
      rw [hr] at hr2
      cases hr2
      exact ⟨_, rfl, Nat.le_refl _, (Below.refl _ _).drew.alloc (Nat.le_refl _) _⟩
theorem app_drawN (w : World) {ops : Array Oper} {rest : List Oper} {o : Oper} {a : Act} {Q : Exit → Act → World → Prop} (hgd : o.guard = none) (s x : Operand)
    (ho : o.op = .call { callee := .builtin .append, args := #[s, x], argTypes := #[23, 23] }) (B : Nat) (l : List (Int × Int)) (v : Value) (hs : a.eval s = v)
    (ad : Addr) (hx : a.eval x = .slice (some ad) 1 1) (h l' : Int) (hc : w.cell? ad = some (.int .u64 h)) (hc1 : w.cell? (ad.add 1) = some (.int .u64 l')) (hown : OwnD B w v l) (hB : B ≤ w.heap.size) (hb : (l.length + 1) * 16 ≤ 140737488355328) (hne : l ≠ [])
    (hk : ∀ v' w', OwnD B w' v' (l ++ [(h, l')]) → w.grownBy w' v.ownBlock → (v'.ownBlock = v.ownBlock ∨ ∃ k, v'.ownBlock = some k ∧ w.heap.size ≤ k ∧ Below w.heap.size w w') → wpList Try.prog ops Q rest (a.put o.dst v') w') : wpList Try.prog ops Q (o :: rest) a w := by
  refine wpList_plain hgd fun K hK => ?_
  obtain ⟨v', w', hr, h2, h3, h4⟩ := run_app_drawN w o.type B l v ad h l' hc hc1 hown hB hb hne
  unfold Oper.wp execOp
  simp only [ho, resolve, invoke, builtin, Sem.run_bind, Sem.run_pure, Result.andThen_ok, List.map_toArray, List.map_cons, List.map_nil, hs, hx, hr]
  exact hK _ _ (hk v' w' h2 h3 h4)
/-- The mark of list i at place k. -/
def mkD (i k : Nat) : Int × Int := (1000003 * ((i : Int) + 1) + k, 12379813738877118345)
set_option maxRecDepth 100000 in
theorem markdraw_any (i k : Nat) (w : World) (hi : i ≤ 1000000) (hk : k ≤ 1000000) :
    Calls Try.prog 76 #[.int .i64 (i : Int), .int .i64 (k : Int)] w fun e w' => e = .returned (.agg #[.int .u64 (mkD i k).1, .int .u64 (mkD i k).2]) ∧ Below w.heap.size w w' := by
  unfold mkD
  have f1 : (1000003 * ((i : Int) + 1) + k) % 18446744073709551616 = 1000003 * ((i : Int) + 1) + k := by omega
  go_enter Try.func76, Try.ntmps76
  go_wp2

  refine bodyPost_ret (v := .agg #[.int .u64 (1000003 * ((i : Int) + 1) + k), .int .u64 12379813738877118345]) (by simp [results, Try.results76, go_sem]) rfl ⟨rfl, ?_⟩
  exact (Below.refl _ _).alloc (Nat.le_refl _) _

end Go.Proofs.Ytcchnaldanibgaa
