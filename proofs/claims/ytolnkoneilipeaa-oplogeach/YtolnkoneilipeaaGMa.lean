import Derived.Test.YtolnkoneilipeaaGLi
namespace Go.Proofs.Ytolnkoneilipeaa
open Go.RowKit
set_option linter.unusedVariables false

theorem gv_take_succ {D : List Cl} {k : Nat} {d : Cl} {s : Int} (hd : D[k]? = some d) (h : gv (D.take k) s = none) : gv (D.take (k + 1)) s = if d.1 = s then some d.2 else none := by
  have e : D.take (k + 1) = D.take k ++ [d] := by rw [List.take_add_one, hd]; rfl
  rw [e]
  unfold gv at h ⊢
  rw [List.find?_append]
  cases hf : (D.take k).find? (fun p => p.1 == s) with
  | some x => simp [hf] at h
  | none => by_cases hc : d.1 = s <;> simp [hc]
theorem gv_mono {D : List Cl} {k : Nat} {s : Int} {v : ByteArray} (h : gv (D.take k) s = some v) : gv D s = some v := by
  have e : D = D.take k ++ D.drop k := (List.take_append_drop k D).symm
  rw [e]
  unfold gv at h ⊢
  rw [List.find?_append]
  cases hf : (D.take k).find? (fun p => p.1 == s) with
  | some x => simpa [hf] using h
  | none => simp [hf] at h
theorem ins_none {c : Cl} : ∀ {L : List Cl}, (∀ p ∈ L, ¬ c.1 < p.1) → ins c L = L ++ [c]
  | [], _ => rfl
  | y :: r, h => by
    simp only [ins, h y (by simp), if_false, List.cons_append]
    rw [ins_none (fun p hp => h p (by simp [hp]))]
theorem ins_hit {c y : Cl} : ∀ {L : List Cl}, (∀ p ∈ L, ¬ c.1 < p.1) → c.1 < y.1 → ins c (L ++ [y]) = L ++ [c] ++ [y]
  | [], _, hy => by simp [ins, hy]
  | x :: r, h, hy => by
    simp only [ins, List.cons_append, h x (by simp), if_false]
    rw [ins_hit (fun p hp => h p (by simp [hp])) hy]
theorem ins_done {c y : Cl} : ∀ {L : List Cl}, (∃ p ∈ L, c.1 < p.1) → ins c (L ++ [y]) = ins c L ++ [y]
  | [], h => by simp at h
  | x :: r, h => by
    by_cases hx : c.1 < x.1
    · simp [ins, hx]
    · simp only [ins, List.cons_append, hx, if_false]
      rw [ins_done]
      obtain ⟨p, hp, hc⟩ := h
      rcases List.mem_cons.1 hp with rfl | hp
      · exact absurd hc hx
      · exact ⟨p, hp, hc⟩
theorem OwnC.grow {B : Nat} {w w' : World} {v : Value} {l : List Cl} (h : OwnC B w v l) (hb : Below w.heap.size w w') : OwnC B w' v l :=
  h.bel hb (Nat.le_refl _)
/-- A row of two cells. -/
def At2 (w : World) (g : Nat) (c : Cl) : Prop := w.cell? ⟨g, 0, none⟩ = some (.int .i64 c.1) ∧ w.cell? ⟨g, 1, none⟩ = some (.string c.2)
theorem At2.new (w : World) (c : Cl) (T : TypeId) : At2 (w.alloc (.cells #[.int .i64 c.1, .string c.2] T)) w.heap.size c := by
  refine ⟨?_, ?_⟩
  all_goals go_simp
theorem At2.on {w w' : World} {g : Nat} {c : Cl} (h : At2 w g c) {B : Nat} (hb : Below B w w') (hg : g < B) : At2 w' g c :=
  ⟨(hb.cell (p := ⟨g, 0, none⟩) hg).trans h.1, (hb.cell (p := ⟨g, 1, none⟩) hg).trans h.2⟩
end Go.Proofs.Ytolnkoneilipeaa

namespace Go.Proofs.Ytolnkoneilipeaa
open Go.RowKit
set_option linter.unusedVariables false

theorem bh_snoc (p : Cl) : ∀ L : List Cl, bh (L ++ [p]) = max (bh L) (p.1 + 1)
  | [] => by simp only [List.nil_append, bh]; omega
  | y :: r => by simp only [List.cons_append, bh, bh_snoc p r]; omega
end Go.Proofs.Ytolnkoneilipeaa

namespace Go.Proofs.Ytolnkoneilipeaa
open Go.RowKit
set_option linter.unusedVariables false

end Go.Proofs.Ytolnkoneilipeaa

namespace Go.Proofs.Ytolnkoneilipeaa
open Go.RowKit
set_option linter.unusedVariables false

theorem Took.keep {w w' : World} {b : Nat} {m : Option Nat} {L L' : List Cl} (t : Took w b m L' w') (l : Led w b m L) : ∀ g i u, g ≠ b → w.cell? ⟨g, i, none⟩ = some u → w'.cell? ⟨g, i, none⟩ = some u := fun g i u hg hc => by
  refine (t.upd.cell (p := ⟨g, i, none⟩) (World.block_lt_of_cell? _ _ hc) ?_).trans hc
  rintro (e | e)
  · exact hg e
  · exact map_ne_cells (l.sm _ e).2 hc rfl
theorem Took.refl {w : World} {b : Nat} {m : Option Nat} {L : List Cl} (l : Led w b m L) : Took w b m L w := ⟨m, l, .inl rfl, Upd.refl _ _⟩
theorem Took.on {w w' w'' : World} {b : Nat} {m : Option Nat} {L : List Cl} (t : Took w b m L w') (hb : Below w'.heap.size w' w'') : Took w b m L w'' := by
  obtain ⟨m', l, hm, hu⟩ := t
  refine ⟨m', l.upd (S := fun _ => False) (Upd.of_below hb) id (fun _ _ => id), hm, hu.trans ((Upd.of_below (S := fun _ => False) hb).mono (fun _ _ h => h.elim))⟩
theorem Took.trans {w w' w'' : World} {b : Nat} {m m' : Option Nat} {L L' : List Cl} (hm : m' = m ∨ ∃ j, m' = some j ∧ w.heap.size ≤ j) (hu : Upd (LS b m) w w') (t : Took w' b m' L' w'') : Took w b m L' w'' := by
  obtain ⟨m2, l2, hm2, hu2⟩ := t
  refine ⟨m2, l2, ?_, ⟨hu2.os.trans hu.os, hu2.tape.trans hu.tape, hu2.output.trans hu.output, Nat.le_trans hu.size hu2.size, fun k hk hs => ?_⟩⟩
  · rcases hm2 with e | ⟨j, e, hj⟩
    · rw [e]; exact hm
    · exact .inr ⟨j, e, Nat.le_trans hu.size hj⟩
  · refine (hu2.block k (Nat.lt_of_lt_of_le hk hu.size) ?_).trans (hu.block k hk hs)
    rintro (e | e)
    · exact hs (.inl e)
    · rcases hm with h | ⟨j, h, hj⟩
      · exact hs (.inr (h ▸ e))
      · rw [h] at e; cases e; omega
theorem SlC.kept {w w' : World} {b : Nat} {v : Value} {D : List Cl} {a : Option Addr} {c : Nat} (h : SlC w v D a c) (K : ∀ g i u, g ≠ b → w.cell? ⟨g, i, none⟩ = some u → w'.cell? ⟨g, i, none⟩ = some u) (hs : w.heap.size ≤ w'.heap.size) (hn : ∀ x, a = some x → D ≠ [] → x.block ≠ b) : SlC w' v D a c :=
  ⟨h.form, h.cap, h.max, h.nil, fun x hx => by
    rcases h.at_ x hx with h1 | ⟨q, o, rfl, hq, hl⟩
    · exact .inl h1
    · refine .inr ⟨q, o, rfl, Nat.lt_of_lt_of_le hq hs, ?_⟩
      by_cases hD : D = []
      · subst hD
        intro i d hd
        cases hd
      · intro i d hd
        have hb := hn _ hx hD
        exact ⟨K _ _ _ hb (hl i d hd).1, K _ _ _ hb (hl i d hd).2⟩⟩
theorem wd_wf {L : List Cl} (h : Ok L) {k s : Int} {v : ByteArray} (hs : (Lit.int .i64 s).wf = true) : (Lit.int .i64 (wd L k s v).2.1).wf = true := by
  have h1 := h.bh_le
  have h2 := bh_nonneg L
  have h3 := h.len_le
  have z : (Lit.int .i64 0).wf = true := by decide
  unfold wd
  split
  · exact z
  · split
    · split <;> exact hs
    · split
      · split
        · exact wf_i64 (by dsimp only; omega)
        · exact z
      · split
        · split <;> exact hs
        · exact wf_i64 (by dsimp only; omega)
end Go.Proofs.Ytolnkoneilipeaa
