import Derived.Test.YtjkleldoeojbbaaK14
namespace Go.Proofs.Ytjkleldoeojbbaa
open Go.RowKit Go.Maps
open Classical
set_option linter.unusedVariables false
set_option linter.unusedSimpArgs false

open Classical in
theorem MapG.store {κ : Type} {Z : KeyT κ} (K : Z.Ok) {w : World} {b n : Nat} {f : κ → Option Value} (h : MapG Z w b n f) (hn : n < maxLen) {t e : TypeId} (ht : Try.prog.underlying t = some (.map Z.T e)) (k : κ) (hk : Z.ok k) (val : Value) :
    ∃ w' g, (Instr.mapUpdate t (.map (some b)) (Z.enc k) val).run Try.prog w = .ok () w' ∧ g k = some val ∧ (∀ k', k' ≠ k → g k' = f k') ∧ MapG Z w' b (n + 1) g ∧ w.grownBy w' (some b) := by
  obtain ⟨D, h1, h2⟩ := h
  obtain ⟨y, hy, hyk⟩ := K.has k hk
  obtain ⟨w', hr, h3, h4⟩ := h1.store K.keyed ht hn hy (show RV val = some (.held val, []) from rfl)
  refine ⟨w', fun k' => if k' = k then some val else f k', hr, if_pos rfl, fun k' h => if_neg h, ⟨_, h3, fun k' z x' hk' hx' => ?_⟩, World.mapTurned.grown h4⟩
  by_cases e : k' = k
  · subst e
    rw [hy] at hx'
    cases hx'
    rw [Maps.atKey_put_same h1.isMap hyk]
    simp
  · have hne : x' ≠ y := fun h => e (K.inj k' k y hk' hk (h ▸ hx') hy)
    rw [Maps.atKey_put_other hne, h2 k' z x' hk' hx']
    simp [e]
theorem ltT (x y : Operand) {i n : Nat} (h : i < n) (w : World) : (do eqGuard .lss 3 x y (.int .i64 (i : Int)) (.int .i64 (n : Int)); binOp .lss 3 (.int .i64 (i : Int)) (.int .i64 (n : Int)) : Sem Value).run Try.prog w = .ok (.bool true) w := by
  have h1 : decide ((i : Int) < (n : Int)) = true := decide_eq_true (by omega)
  rw [lssC, h1]
theorem ltF (x y : Operand) {i n : Nat} (h : ¬ i < n) (w : World) : (do eqGuard .lss 3 x y (.int .i64 (i : Int)) (.int .i64 (n : Int)); binOp .lss 3 (.int .i64 (i : Int)) (.int .i64 (n : Int)) : Sem Value).run Try.prog w = .ok (.bool false) w := by
  have h1 : decide ((i : Int) < (n : Int)) = false := decide_eq_false (by omega)
  rw [lssC, h1]
theorem late_of {l : List Kl} {D : List Bool} {x : Kl} {j : Nat} (hj : j ≤ l.length) (h : laI l D x j = true) : lateK l D x = true := by
  unfold laI at h
  unfold lateK laI
  rw [List.any_eq_true] at h ⊢
  obtain ⟨i, hi, h⟩ := h
  exact ⟨i, List.mem_range.2 (by have := List.mem_range.1 hi; omega), h⟩
section
variable {l : List Kl} {a : Option Addr} {c : Nat} {w0 : World} {lb vb ob sb mb : Nat} {w w' : World} {O : List Int} {v : Value} {n : Nat} {V : List Bool × List Cl → Option Value}
/-- Another order in the box. -/
theorem ST.push (h : ST l a c w0 lb vb ob sb mb w O v n V) {v' : Value} {O' : List Int} (hg : w.grownBy w' v.ownBlock) (ho : OwnY yN w0.heap.size w' v' O') (hv : v'.ownBlock = v.ownBlock ∨ ∃ g, v'.ownBlock = some g ∧ w.heap.size ≤ g) :
    ST l a c w0 lb vb ob sb mb (w'.setCell ⟨ob, 0, none⟩ v') O' v' n V ∧ Upd (fun k => k = ob ∨ v.ownBlock = some k) w (w'.setCell ⟨ob, 0, none⟩ v') := by
  obtain ⟨l1, l2, l3, l4, l5, l6⟩ := h.lts
  obtain ⟨o1, o2, o3, o4⟩ := h.ol
  obtain ⟨n1, n2, n3⟩ := h.ne
  have u1 : Upd (fun k => k = ob ∨ v.ownBlock = some k) w w' := (Upd.refl _ w).grownBy hg (fun k e _ => .inr e)
  have u : Upd (fun k => k = ob ∨ v.ownBlock = some k) w (w'.setCell ⟨ob, 0, none⟩ v') := u1.setCell (p := ⟨ob, 0, none⟩) (.inl (.inl rfl)) _
  have hmo : mb ≠ ob := fun e => h.mne h.c2 e.symm
  have hmv : v.ownBlock ≠ some mb := fun e => by
    obtain ⟨es, x, e2⟩ := h.mp.isMap
    exact h.own.not_map e es x e2
  have nv : ∀ q, q < w.heap.size → v.ownBlock ≠ some q → v'.ownBlock ≠ some q := fun q hq hn e => by
    rcases hv with hv | ⟨g, hv, hg2⟩
    · exact hn (hv ▸ e)
    · rw [hv] at e; cases e; omega
  have hb : Below w0.heap.size w (w'.setCell ⟨ob, 0, none⟩ v') := u.below h.bel.size (fun k hk => by
    rcases hk with rfl | hk
    · exact h.le.1
    · exact (h.own.blk k hk).1)
  have c2' : w'.cell? ⟨ob, 0, none⟩ = some v := (World.cell?_of_block (a := ⟨ob, 0, none⟩) (hg.block ob l3 (fun e => o4 e.symm))).trans h.c2
  refine ⟨⟨h.hl, h.bel.trans hb, (u.cell (p := ⟨lb, 0, none⟩) l1 (by rintro (e | e); exact n1 e; exact o1 e)).trans h.c0, (u.cell (p := ⟨vb, 0, none⟩) l2 (by rintro (e | e); exact n2 e; exact o2 e)).trans h.c1, ?_, ?_, (u.cell (p := ⟨sb, 0, none⟩) l4 (by rintro (e | e); exact n3 e; exact o3 e)).trans h.c3, h.mp.upd u (by rintro (e | e); exact hmo e; exact hmv e), h.vv, ?_, h.dd, h.le, h.ne, nv lb l1 o1, nv vb l2 o2, nv sb l4 o3, nv ob l3 o4⟩, u⟩
  · simp [World.cell?_setCell_same, c2']
  · have : w'.frozen? ⟨ob, 0, none⟩ = false := (World.frozen?_of_block (a := ⟨ob, 0, none⟩) (hg.block ob l3 (fun e => o4 e.symm))).trans h.f2
    simpa using this
  · exact ho.upd1 (S := fun k => k = ob) ((Upd.refl (fun k => k = ob) w').setCell (p := ⟨ob, 0, none⟩) (.inl rfl) _) (fun g hg2 e => nv ob l3 o4 (e ▸ hg2))
/-- A point from which there is no way is kept. -/
theorem ST.put (h : ST l a c w0 lb vb ob sb mb w O v n V) {V' : List Bool × List Cl → Option Value} {D : List Bool} {L : List Cl} (hd : dead l D L) (h0 : V' (D, L) = some (.agg #[])) (h1 : ∀ k, k ≠ (D, L) → V' k = V k) (hm : MapG zPt w' mb (n + 1) V') (hg : w.grownBy w' (some mb)) :
    ST l a c w0 lb vb ob sb mb w' O v (n + 1) V' ∧ Upd (fun k => k = mb) w w' := by
  obtain ⟨l1, l2, l3, l4, l5, l6⟩ := h.lts
  have u : Upd (fun k => k = mb) w w' := (Upd.refl _ w).grownBy hg (fun k e _ => (Option.some.inj e).symm)
  have hmv : v.ownBlock ≠ some mb := fun e => by
    obtain ⟨es, x, e2⟩ := h.mp.isMap
    exact h.own.not_map e es x e2
  refine ⟨⟨h.hl, h.bel.trans (u.below h.bel.size (fun k hk => hk ▸ h.le.2)), (u.cell (p := ⟨lb, 0, none⟩) l1 (h.mne h.c0)).trans h.c0, (u.cell (p := ⟨vb, 0, none⟩) l2 (h.mne h.c1)).trans h.c1, (u.cell (p := ⟨ob, 0, none⟩) l3 (h.mne h.c2)).trans h.c2, (u.frozen (p := ⟨ob, 0, none⟩) l3 (h.mne h.c2)).trans h.f2, (u.cell (p := ⟨sb, 0, none⟩) l4 (h.mne h.c3)).trans h.c3, hm, fun k x hx => ?_, h.own.upd1 u (fun g hg2 e => hmv (e ▸ hg2)), fun k hk hx => ?_, h.le, h.ne, h.ol⟩, u⟩
  · by_cases e : k = (D, L)
    · rw [e, h0] at hx; cases hx; rfl
    · rw [h1 k e] at hx; exact h.vv k x hx
  · by_cases e : k = (D, L)
    · rw [e]; exact hd
    · rw [h1 k e] at hx; exact h.dd k hk hx
end

end Go.Proofs.Ytjkleldoeojbbaa
