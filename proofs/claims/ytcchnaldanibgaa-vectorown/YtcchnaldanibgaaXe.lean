import Derived.Test.YtcchnaldanibgaaXc
import Derived.Test.YtcchnaldanibgaaUa
namespace Go.Proofs.Ytcchnaldanibgaa
open Go.RowKit
set_option linter.unusedVariables false
set_option linter.unusedSimpArgs false

def jcs (l : List Int) : List Value := l.map (.int .i64 ·)
/-- Whole numbers of one's own. -/
def OwnJ (B : Nat) (w : World) (v : Value) (l : List Int) : Prop := w.ownsRow B 3 1 v l.length (jcs l)
theorem OwnJ.of {B : Nat} {w : World} {v : Value} {l : List Nat} (h : OwnI B w v l) : OwnJ B w v (l.map (fun (x : Nat) => (x : Int))) := by
  unfold OwnJ jcs
  rw [List.length_map, List.map_map]
  exact h
theorem OwnJ.alloc {B : Nat} {w : World} {v : Value} {l : List Int} (h : OwnJ B w v l) (o : Obj) : OwnJ B (w.alloc o) v l := World.ownsRow.alloc h o
theorem OwnJ.upd2 {B : Nat} {S : Nat → Prop} {w w' : World} {v : Value} {l : List Int} (h : OwnJ B w v l) (u : Upd S w w') (hs : ∀ k, v.ownBlock = some k → ¬ S k) : OwnJ B w' v l := by
  obtain ⟨h1, h2⟩ := h
  refine ⟨h1, ?_⟩
  rcases h2 with h2 | ⟨g, cap, cur, e1, e2, e3, r⟩
  · exact .inl h2
  · refine .inr ⟨g, cap, cur, e1, e2, ?_, r⟩
    have hlt : g < w.heap.size := by
      rcases Nat.lt_or_ge g w.heap.size with h' | h'
      · exact h'
      · rw [Array.getElem?_eq_none h'] at e3; cases e3
    rw [u.block g hlt (hs g (by rw [e1]; rfl))]
    exact e3
theorem OwnJ.bel {B : Nat} {w w' : World} {v : Value} {l : List Int} (h : OwnJ B w v l) {B' : Nat} (hb : Below B' w w') (hB : w.heap.size ≤ B') : OwnJ B w' v l :=
  h.upd2 (S := fun _ => False) (Upd.of_below (hb.mono hB)) (fun _ _ => id)
theorem OwnJ.low {B B' : Nat} {w : World} {v : Value} {l : List Int} (h : OwnJ B w v l) (hb : B' ≤ B) : OwnJ B' w v l := by
  obtain ⟨h1, h2⟩ := h
  refine ⟨h1, ?_⟩
  rcases h2 with h2 | ⟨g, cap, cur, e1, e2, r⟩
  · exact .inl h2
  · exact .inr ⟨g, cap, cur, e1, Nat.le_trans hb e2, r⟩
theorem OwnJ.form {B : Nat} {w : World} {v : Value} {l : List Int} (h : OwnJ B w v l) : ∃ a c, v = .slice a l.length c ∧ l.length ≤ c ∧ c ≤ maxLen ∧ (a = none → l = [] ∧ c = 0) ∧ ∀ x, a = some x → ∃ g, x = ⟨g, 0, none⟩ ∧ B ≤ g ∧ g < w.heap.size := by
  rcases h.2 with ⟨e1, e2⟩ | ⟨g, cap, cur, e1, e2, e3, e4, e5, _⟩
  · exact ⟨none, 0, by rw [e1, e2], by omega, by unfold maxLen; omega, fun _ => ⟨List.eq_nil_of_length_eq_zero e2, rfl⟩, fun x hx => by cases hx⟩
  · refine ⟨some ⟨g, 0, none⟩, cap, e1, e4, e5, (fun hx => by cases hx), fun x hx => ?_⟩
    cases hx
    refine ⟨g, rfl, e2, ?_⟩
    rcases Nat.lt_or_ge g w.heap.size with h' | h'
    · exact h'
    · rw [Array.getElem?_eq_none h'] at e3; cases e3
theorem OwnJ.cell {B : Nat} {w : World} {g n c : Nat} {l : List Int} (h : OwnJ B w (.slice (some ⟨g, 0, none⟩) n c) l) (i : Nat) (d : Int) (hd : l[i]? = some d) : w.cell? ⟨g, i, none⟩ = some (.int .i64 d) := by
  have h0 := World.ownsRow.cells h (g := g) rfl i (.int .i64 d) (by unfold jcs; rw [List.getElem?_map, hd]; rfl)
  rw [Addr.add_lit, Nat.zero_add] at h0
  exact h0
theorem OwnJ.blk {B : Nat} {w : World} {v : Value} {L : List Int} (h : OwnJ B w v L) : ∀ k, v.ownBlock = some k → B ≤ k ∧ k < w.heap.size := World.ownsRow.lt h
theorem OwnJ.set {B : Nat} {w : World} {g n c : Nat} {l : List Int} (h : OwnJ B w (.slice (some ⟨g, 0, none⟩) n c) l) (k : Nat) (x : Int) :
    OwnJ B (w.setCell ⟨g, k, none⟩ (.int .i64 x)) (.slice (some ⟨g, 0, none⟩) n c) (l.set k x) := by
  obtain ⟨a, c', e, _⟩ := h.form
  injection e with e1 e2 e3
  unfold OwnJ jcs at *
  rw [← e2] at h
  rw [List.map_set, List.length_set, ← e2]
  exact (World.ownsRow.stored h k _).1
theorem OwnJ.free {B : Nat} {w : World} {g n c : Nat} {l : List Int} (h : OwnJ B w (.slice (some ⟨g, 0, none⟩) n c) l) (j : Nat) : w.frozen? ⟨g, j, none⟩ = false := by
  obtain ⟨a, c', e, _⟩ := h.form
  injection e with e1 e2 e3
  unfold OwnJ at h
  rw [← e2] at h
  exact World.ownsRow.frozenAt h j
/-- 'append' of one number: the row's block is the old one, or a new one and nothing that was there has changed. -/
theorem run_app_intN (w : World) (ty : TypeId) (B : Nat) (l : List Int) (v : Value) (ad : Addr) (h : Int) (hc : w.cell? ad = some (.int .i64 h)) (hown : OwnJ B w v l) (hB : B ≤ w.heap.size) (hb : (l.length + 1) * 8 ≤ 140737488355328) (hne : l ≠ []) :
    ∃ v' w', (Builtin.append_ #[62, 62] ty #[v, .slice (some ad) 1 1]).run Try.prog w = .ok v' w' ∧ OwnJ B w' v' (l ++ [h]) ∧ w.grownBy w' v.ownBlock ∧ (v'.ownBlock = v.ownBlock ∨ ∃ k, v'.ownBlock = some k ∧ w.heap.size ≤ k ∧ Below w.heap.size w w') := by
  obtain ⟨i0, hi, hz0, hz1, hz2⟩ := info_parts info_int
  have hnews : ∀ j u, [(.int .i64 h : Value)][j]? = some u → w.cell? (ad.add j) = some u := by
    intro j y hy
    match j, hy with
    | 0, hy => simp at hy; subst hy; obtain ⟨b, o, s⟩ := ad; exact hc
    | j + 1, hy => simp at hy
  have hone : ∀ u, u ∈ [(.int .i64 h : Value)] → u.oneCell' = true := by intro y hy; simp at hy; subst hy; rfl
  have hlj : (jcs l).length = l.length := by simp [jcs]
  obtain ⟨v', w', hr, h2, h3, h4⟩ := run_append_own (P := Try.prog) w B 62 ty 3 i0 (.int .i64 0) 1 8 Try.underlying62 hi hz0 hz1 hz2 rfl (by decide) v l.length (jcs l) hown ad 1 1 [.int .i64 h] rfl hnews hone (by unfold maxLen; omega) hb hB
  refine ⟨v', w', hr, ?_, h3, ?_⟩
  · unfold OwnJ jcs
    rw [List.map_append, List.length_append]
    exact h2
  rcases hown.2 with ⟨rfl, hn⟩ | ⟨g, cap, cur, rfl, hbg, hg, hnc, hcm, hcs, htake⟩
  · exact absurd (List.eq_nil_of_length_eq_zero hn) hne
  · by_cases hroom : l.length + 1 ≤ cap
    · left
      have hfit : l.length * i0.size + [(.int .i64 h : Value)].length ≤ cur.size := by rw [hcs, hz1]; simp; omega
      have hr2 := run_append_room (P := Try.prog) w 62 ty 3 i0 Try.underlying62 hi g l.length cap cur hg ad 1 1 [.int .i64 h] (by simp [hz1]) hnews hone hroom hfit
      rw [hr] at hr2
      cases hr2
      rfl
    · right
      have holds : ∀ j u, (jcs l)[j]? = some u → w.cell? ((⟨g, 0, none⟩ : Addr).add j) = some u := World.ownsRow.cells hown (g := g) rfl
      have hr2 := run_append_grow (P := Try.prog) w 62 ty 3 i0 (.int .i64 0) Try.underlying62 hi hz0 ⟨g, 0, none⟩ l.length cap (jcs l) (by rw [hz1, hlj, Nat.mul_one]) holds ad 1 1 [.int .i64 h] (by simp [hz1]) hnews (by omega) (by omega) (growslice_fits (by omega) (by rw [hz2]; exact hb))
      rw [hr] at hr2
      cases hr2
      exact ⟨_, rfl, Nat.le_refl _, (Below.refl _ _).drew.alloc (Nat.le_refl _) _⟩
theorem app_intN (w : World) {ops : Array Oper} {rest : List Oper} {o : Oper} {a : Act} {Q : Exit → Act → World → Prop} (hgd : o.guard = none) (s x : Operand)
    (ho : o.op = .call { callee := .builtin .append, args := #[s, x], argTypes := #[62, 62] }) (B : Nat) (l : List Int) (v : Value) (hs : a.eval s = v)
    (ad : Addr) (hx : a.eval x = .slice (some ad) 1 1) (h : Int) (hc : w.cell? ad = some (.int .i64 h)) (hown : OwnJ B w v l) (hB : B ≤ w.heap.size) (hb : (l.length + 1) * 8 ≤ 140737488355328) (hne : l ≠ [])
    (hk : ∀ v' w', OwnJ B w' v' (l ++ [h]) → w.grownBy w' v.ownBlock → (v'.ownBlock = v.ownBlock ∨ ∃ k, v'.ownBlock = some k ∧ w.heap.size ≤ k ∧ Below w.heap.size w w') → wpList Try.prog ops Q rest (a.put o.dst v') w') : wpList Try.prog ops Q (o :: rest) a w := by
  refine wpList_plain hgd fun K hK => ?_
  obtain ⟨v', w', hr, h2, h3, h4⟩ := run_app_intN w o.type B l v ad h hc hown hB hb hne
  unfold Oper.wp execOp
  simp only [ho, resolve, invoke, builtin, Sem.run_bind, Sem.run_pure, Result.andThen_ok, List.map_toArray, List.map_cons, List.map_nil, hs, hx, hr]
  exact hK _ _ (hk v' w' h2 h3 h4)
/-- The mark of list i of numbers at place k. -/
def mkJ (i k : Nat) : Int := -1 - 100003 * ((i : Int) + 1) - 7 * k
set_option maxRecDepth 100000 in
theorem markint_any (i k : Nat) (w : World) (hi : i ≤ 1000000) (hk : k ≤ 1000000) :
    Calls Try.prog 75 #[.int .i64 (i : Int), .int .i64 (k : Int)] w fun e w' => e = .returned (.int .i64 (mkJ i k)) ∧ Below w.heap.size w w' := by
  unfold mkJ
  go_enter Try.func75, Try.ntmps75
  go_wp2
  go_ret
  exact ⟨rfl, Below.refl _ _⟩

end Go.Proofs.Ytcchnaldanibgaa
