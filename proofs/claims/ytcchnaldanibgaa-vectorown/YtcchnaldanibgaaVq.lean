import Derived.Test.YtcchnaldanibgaaVk
namespace Go.Proofs.Ytcchnaldanibgaa
open Go.RowKit
set_option linter.unusedVariables false
set_option linter.unusedSimpArgs false

/-- 'append' of draws that a slice holds, nil too. -/
theorem app_sl (w : World) {ops : Array Oper} {rest : List Oper} {o : Oper} {a : Act} {Q : Exit → Act → World → Prop} (hgd : o.guard = none) (s x : Operand)
    (ho : o.op = .call { callee := .builtin .append, args := #[s, x], argTypes := #[23, 23] }) (B : Nat) (l : List (Int × Int)) (v : Value) (hs : a.eval s = v)
    (ad : Option Addr) (m c : Nat) (hx : a.eval x = .slice ad m c) (news : List (Int × Int)) (hh : SlN w ad m c news) (hown : OwnD B w v l) (hB : B ≤ w.heap.size) (hb : (l.length + m) * 16 ≤ 140737488355328)
    (h : ∀ v' w', OwnD B w' v' (l ++ news) → w.grownBy w' v.ownBlock → wpList Try.prog ops Q rest (a.put o.dst v') w') : wpList Try.prog ops Q (o :: rest) a w := by
  obtain ⟨hl, hsl⟩ := hh
  cases ad with
  | none =>
    obtain ⟨rfl, rfl⟩ := hsl.nil rfl
    obtain rfl : m = 0 := hl.symm
    obtain ⟨i0, hi, hz0, hz1, hz2⟩ := info_parts info_draw
    refine wpList_append_own_none hgd s x 23 ho B 26 i0 2 Try.underlying23 hi v l.length (dcs l) hs hown hx ?_
    exact h v w (by rw [List.append_nil]; exact hown) (World.grownBy.refl _ _)
  | some y =>
    refine app_draws w hgd s x ho B l v hs y m c hx news hl hown (fun j u hu => ?_) hB hb h
    rcases hsl.at_ y rfl with ⟨e, _⟩ | ⟨q, p, rfl, _, hlie⟩
    · subst e
      simp [dcs] at hu
    · rw [Addr.add_lit]
      exact dcs_at news w q p hlie j u hu
set_option maxRecDepth 100000 in
theorem copyvec_any (a : Option Addr) (n c : Nat) (D : List (Int × Int)) (w : World) (h : SlN w a n c D) (hb : n * 16 ≤ 140737488355328) :
    Calls Try.prog 37 #[.slice a n c] w fun e w' => ∃ v', e = .returned v' ∧ OwnD w.heap.size w' v' D ∧ Below w.heap.size w w' := by
  have H := hide h
  clear h
  go_enter Try.func37, Try.ntmps37
  go_wp2_with (at_builtin; go_must (refine app_sl _ rfl (.const (.slice none 0 0)) (.tmp 3) rfl w.heap.size [] _ rfl a n c rfl D H.out (OwnD.nil _ _) (Nat.le_refl _) (by simpa using hb) ?_))
  intro v' w' h1 h3
  have hb : Below w.heap.size w w' := (Below.refl _ _).grown h3 (Nat.le_refl _) (fun k hk => by cases hk)
  go_wp2
  go_ret
  exact ⟨v', rfl, h1, hb⟩

theorem OwnV.low {B B' : Nat} {w : World} {v : Value} {l : List Vec} (h : OwnV B w v l) (hb : B' ≤ B) : OwnV B' w v l := by
  obtain ⟨h1, h2⟩ := h
  refine ⟨h1, ?_⟩
  rcases h2 with h2 | ⟨g, cap, cur, e1, e2, r⟩
  · exact .inl h2
  · exact .inr ⟨g, cap, cur, e1, Nat.le_trans hb e2, r⟩
/-- 'append' of one vector: the row's block is the old one or a new one. -/
theorem run_app_new (w : World) (ty : TypeId) (B : Nat) (L : List Vec) (v : Value) (ad : Addr) (y : Vec) (hc : w.cell? ad = some (.slice y.a y.D.length y.c)) (hown : OwnV B w v L) (hB : B ≤ w.heap.size) (hb : (L.length + 1) * 24 ≤ 140737488355328) :
    ∃ v' w', (Builtin.append_ #[28, 28] ty #[v, .slice (some ad) 1 1]).run Try.prog w = .ok v' w' ∧ OwnV B w' v' (L ++ [y]) ∧ w.grownBy w' v.ownBlock ∧ (v'.ownBlock = v.ownBlock ∨ ∃ k, v'.ownBlock = some k ∧ w.heap.size ≤ k) := by
  obtain ⟨v', w', hr, h2, h3⟩ := run_app_vec w ty B L v ad y hc hown hB hb
  refine ⟨v', w', hr, h2, h3, ?_⟩
  have hnews : ∀ j u, [Vec.v y][j]? = some u → w.cell? (ad.add j) = some u := by
    intro j u hu
    match j, hu with
    | 0, hu => simp at hu; subst hu; obtain ⟨b, o, s⟩ := ad; exact hc
    | j + 1, hu => simp at hu
  obtain ⟨i0, hi, hz0, hz1, hz2⟩ := info_parts info_vec
  rcases hown.2 with ⟨rfl, hn⟩ | ⟨g, cap, cur, rfl, hbg, hg, hnc, hcm, hcs, htake⟩
  · right
    have hL : L = [] := List.eq_nil_of_length_eq_zero hn
    subst hL
    obtain ⟨v2, w2, hr2, k2, _⟩ := run_app_vec w ty w.heap.size [] (.slice none 0 0) ad y hc (OwnV.nil _ _) (Nat.le_refl _) hb
    rw [hr] at hr2
    cases hr2
    obtain ⟨g, c, rfl, _, _, hg, _⟩ := k2.form (by simp)
    exact ⟨g, rfl, hg⟩
  · by_cases hroom : L.length + 1 ≤ cap
    · left
      have hfit : L.length * i0.size + [Vec.v y].length ≤ cur.size := by rw [hcs, hz1]; simp; omega
      have hr2 := run_append_room (P := Try.prog) w 28 ty 23 i0 Try.underlying28 hi g L.length cap cur hg ad 1 1 [Vec.v y] (by simp [hz1]) hnews (by intro u hu; simp at hu; subst hu; rfl) hroom hfit
      rw [hr] at hr2
      cases hr2
      rfl
    · right
      have holds : ∀ j u, (L.map Vec.v)[j]? = some u → w.cell? ((⟨g, 0, none⟩ : Addr).add j) = some u := World.ownsRow.cells hown (g := g) rfl
      have hr2 := run_append_grow (P := Try.prog) w 28 ty 23 i0 (.slice none 0 0) Try.underlying28 hi hz0 ⟨g, 0, none⟩ L.length cap (L.map Vec.v) (by rw [hz1]; simp) holds ad 1 1 [Vec.v y] (by simp [hz1]) hnews (by omega) (by omega) (growslice_fits (by omega) (by rw [hz2]; exact hb))
      rw [hr] at hr2
      cases hr2
      exact ⟨_, rfl, Nat.le_refl _⟩
theorem app_new (w : World) {ops : Array Oper} {rest : List Oper} {o : Oper} {a : Act} {Q : Exit → Act → World → Prop} (hgd : o.guard = none) (s x : Operand)
    (ho : o.op = .call { callee := .builtin .append, args := #[s, x], argTypes := #[28, 28] }) (B : Nat) (L : List Vec) (v : Value) (hs : a.eval s = v)
    (ad : Addr) (hx : a.eval x = .slice (some ad) 1 1) (y : Vec) (hc : w.cell? ad = some (.slice y.a y.D.length y.c)) (hown : OwnV B w v L) (hB : B ≤ w.heap.size) (hb : (L.length + 1) * 24 ≤ 140737488355328)
    (hk : ∀ v' w', OwnV B w' v' (L ++ [y]) → w.grownBy w' v.ownBlock → (v'.ownBlock = v.ownBlock ∨ ∃ k, v'.ownBlock = some k ∧ w.heap.size ≤ k) → wpList Try.prog ops Q rest (a.put o.dst v') w') : wpList Try.prog ops Q (o :: rest) a w := by
  refine wpList_plain hgd fun K hK => ?_
  obtain ⟨v', w', hr, h2, h3, h4⟩ := run_app_new w o.type B L v ad y hc hown hB hb
  unfold Oper.wp execOp
  simp only [ho, resolve, invoke, builtin, Sem.run_bind, Sem.run_pure, Result.andThen_ok, List.map_toArray, List.map_cons, List.map_nil, hs, hx, hr]
  exact hK _ _ (hk v' w' h2 h3 h4)
theorem step_new {ops : Array Oper} {o : Oper} {a : Act} {w : World} {K : Act → World → Prop} {Q : Exit → Act → World → Prop} {E : Prop} (hg : o.guard = none) (s x : Operand)
    (ho : o.op = .call { callee := .builtin .append, args := #[s, x], argTypes := #[28, 28] }) (B : Nat) (L : List Vec) (v : Value) (hs : a.eval s = v)
    (ad : Addr) (hx : a.eval x = .slice (some ad) 1 1) (y : Vec) (hc : w.cell? ad = some (.slice y.a y.D.length y.c)) (hown : OwnV B w v L) (hB : B ≤ w.heap.size) (hb : (L.length + 1) * 24 ≤ 140737488355328)
    (hk : ∀ v' w', OwnV B w' v' (L ++ [y]) → w.grownBy w' v.ownBlock → (v'.ownBlock = v.ownBlock ∨ ∃ k, v'.ownBlock = some k ∧ w.heap.size ≤ k) → K (a.put o.dst v') w') :
    if Region.wanted o (yielded ops a.tmps) = true then Oper.wp Try.prog o a w K Q else E := by
  have hw : Region.wanted o (yielded ops a.tmps) = true := by simp [Region.wanted, hg]
  rw [if_pos hw]
  obtain ⟨v', w', hr, h2, h3, h4⟩ := run_app_new w o.type B L v ad y hc hown hB hb
  unfold Oper.wp execOp
  simp only [ho, resolve, invoke, builtin, Sem.run_bind, Sem.run_pure, Result.andThen_ok, List.map_toArray, List.map_cons, List.map_nil, hs, hx, hr]
  exact hk v' w' h2 h3 h4
/-- A call of CopyVector, in a region that draws its order. -/
theorem step_copyvec {ops : Array Oper} {o : Oper} {a : Act} {w : World} {K : Act → World → Prop} {Q : Exit → Act → World → Prop} {E : Prop} (hg : o.guard = none) (x : Operand)
    (ho : o.op = .call { callee := .value (.func 37), args := #[x], argTypes := #[23] }) (ad : Option Addr) (n c : Nat) (hx : a.eval x = .slice ad n c) (D : List (Int × Int)) (h : SlN w ad n c D) (hm : n * 16 ≤ 140737488355328)
    (hK : ∀ v' w', OwnD w.heap.size w' v' D → Below w.heap.size w w' → K (a.put o.dst v') w') :
    if Region.wanted o (yielded ops a.tmps) = true then Oper.wp Try.prog o a w K Q else E := by
  have hw : Region.wanted o (yielded ops a.tmps) = true := by simp [Region.wanted, hg]
  rw [if_pos hw]
  have hr : (execOp a.eval o).run Try.prog w = .ok (.enter 37 #[.slice ad n c]) w := by
    unfold execOp
    simp only [ho, resolve, invoke, Sem.run_bind, List.map_toArray, List.map_cons, List.map_nil, hx]
    rfl
  unfold Oper.wp
  rw [hr, Oper.upon_enter]
  refine (copyvec_any ad n c D w h hm).mono ?_
  rintro e w' ⟨v', rfl, h1, h2⟩
  exact hK v' w' h1 h2

end Go.Proofs.Ytcchnaldanibgaa
