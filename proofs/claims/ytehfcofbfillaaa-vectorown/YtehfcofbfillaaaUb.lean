import Derived.Test.YtehfcofbfillaaaUa
namespace Go.Proofs.Ytehfcofbfillaaa
open Go.RowKit
set_option linter.unusedVariables false
set_option linter.unusedSimpArgs false

/-- Voices as cells. -/
def wcs : List Voi → List Value
  | [] => []
  | m :: r => .int .i64 m.node :: .slice m.x.a m.x.D.length m.x.c :: wcs r
theorem wcs_append : ∀ l m : List Voi, wcs (l ++ m) = wcs l ++ wcs m
  | [], m => rfl
  | d :: r, m => by simp only [wcs, List.cons_append, wcs_append r m]
theorem wcs_get0 : ∀ (l : List Voi) (i : Nat) (d : Voi), l[i]? = some d → (wcs l)[i * 2]? = some (.int .i64 d.node)
  | [], i, d, h => by simp at h
  | x :: r, 0, d, h => by simp at h; subst h; simp [wcs]
  | x :: r, i + 1, d, h => by
    have e : (i + 1) * 2 = i * 2 + 1 + 1 := by omega
    rw [e]
    simp only [wcs, List.getElem?_cons_succ] at h ⊢
    exact wcs_get0 r i d h
theorem wcs_get1 : ∀ (l : List Voi) (i : Nat) (d : Voi), l[i]? = some d → (wcs l)[i * 2 + 1]? = some (.slice d.x.a d.x.D.length d.x.c)
  | [], i, d, h => by simp at h
  | x :: r, 0, d, h => by simp at h; subst h; simp [wcs]
  | x :: r, i + 1, d, h => by
    have e : (i + 1) * 2 + 1 = i * 2 + 1 + 1 + 1 := by omega
    rw [e]
    simp only [wcs, List.getElem?_cons_succ] at h ⊢
    exact wcs_get1 r i d h
/-- A slice of voices of the call's own. -/
def OwnW (B : Nat) (w : World) (v : Value) (l : List Voi) : Prop := w.ownsRow B 53 2 v l.length (wcs l)
theorem OwnW.nil (B : Nat) (w : World) : OwnW B w (.slice none 0 0) [] := World.ownsRow_nil w B 53 2
theorem OwnW.alloc {B : Nat} {w : World} {v : Value} {l : List Voi} (h : OwnW B w v l) (o : Obj) : OwnW B (w.alloc o) v l := World.ownsRow.alloc h o
theorem OwnW.grown {B : Nat} {w0 w w' : World} {v : Value} {l : List Voi} (ho : OwnW B w v l) (h0 : Below B w0 w) (hg : w.grownBy w' v.ownBlock) (hB : B ≤ w.heap.size) : Below B w0 w' :=
  h0.grown hg hB (fun k hk => (World.ownsRow.lt ho k hk).1)
theorem OwnW.form {B : Nat} {w : World} {v : Value} {l : List Voi} (h : OwnW B w v l) : ∃ a c, v = .slice a l.length c ∧ l.length ≤ c ∧ c ≤ maxLen ∧ (l ≠ [] → ∃ g, a = some ⟨g, 0, none⟩ ∧ B ≤ g ∧ g < w.heap.size ∧ ∀ i m, l[i]? = some m → w.cell? ⟨g, i * 2, none⟩ = some (.int .i64 m.node) ∧ w.cell? ⟨g, i * 2 + 1, none⟩ = some (.slice m.x.a m.x.D.length m.x.c)) := by
  have h' := h
  rcases h.2 with ⟨e1, e2⟩ | ⟨g, cap, cur, e1, e2, e3, e4, e5, _⟩
  · exact ⟨none, 0, by rw [e1, e2], by omega, by unfold maxLen; omega, fun hh => absurd (List.eq_nil_of_length_eq_zero e2) hh⟩
  · refine ⟨_, cap, e1, e4, e5, fun _ => ⟨g, rfl, e2, ?_, fun i m hm => ?_⟩⟩
    · rcases Nat.lt_or_ge g w.heap.size with h' | h'
      · exact h'
      · rw [Array.getElem?_eq_none h'] at e3; cases e3
    · rw [e1] at h'
      have t0 := World.ownsRow.cells h' (g := g) rfl _ _ (wcs_get0 l i m hm)
      have t1 := World.ownsRow.cells h' (g := g) rfl _ _ (wcs_get1 l i m hm)
      rw [Addr.add_lit, Nat.zero_add] at t0 t1
      exact ⟨t0, t1⟩
theorem info_voice : (Try.prog.info? 53).map (fun i => (i.zero, i.size, i.bytes)) = some (some (.agg #[.int .i64 0, .slice none 0 0]), 2, 32) := by kernel_rfl
theorem app_voice (w : World) {ops : Array Oper} {rest : List Oper} {o : Oper} {a : Act} {Q : Exit → Act → World → Prop} (hgd : o.guard = none) (s x : Operand)
    (ho : o.op = .call { callee := .builtin .append, args := #[s, x], argTypes := #[70, 70] }) (B : Nat) (L : List Voi) (v : Value) (hs : a.eval s = v)
    (ad : Addr) (hx : a.eval x = .slice (some ad) 1 1) (m : Voi) (hc : w.cell? ad = some (.int .i64 m.node)) (hc1 : w.cell? (ad.add 1) = some (.slice m.x.a m.x.D.length m.x.c)) (hown : OwnW B w v L) (hB : B ≤ w.heap.size) (hb : (L.length + 1) * 32 ≤ 140737488355328)
    (hk : ∀ v' w', OwnW B w' v' (L ++ [m]) → w.grownBy w' v.ownBlock → wpList Try.prog ops Q rest (a.put o.dst v') w') : wpList Try.prog ops Q (o :: rest) a w := by
  refine wpList_plain hgd fun K hK => ?_
  obtain ⟨i0, hi, hz0, hz1, hz2⟩ := info_parts info_voice
  obtain ⟨v', w', hr, h2, h3, h4⟩ := run_append_own (P := Try.prog) w B 70 o.type 53 i0 (.agg #[.int .i64 0, .slice none 0 0]) 2 32 Try.underlying70 hi hz0 hz1 hz2 rfl (by decide) v L.length (wcs L) hown ad 1 1 [.int .i64 m.node, .slice m.x.a m.x.D.length m.x.c] rfl (by
    intro j u hu
    match j, hu with
    | 0, hu => simp at hu; subst hu; obtain ⟨b, o, s⟩ := ad; exact hc
    | 1, hu => simp at hu; subst hu; exact hc1
    | j + 2, hu => simp at hu) (by intro u hu; simp at hu; rcases hu with rfl | rfl <;> rfl) (by unfold maxLen; omega) hb hB
  unfold Oper.wp execOp
  simp only [ho, resolve, invoke, builtin, Sem.run_bind, Sem.run_pure, Result.andThen_ok, List.map_toArray, List.map_cons, List.map_nil, hs, hx, hr]
  refine hK _ _ (hk v' w' ?_ h3)
  have : wcs (L ++ [m]) = wcs L ++ [.int .i64 m.node, .slice m.x.a m.x.D.length m.x.c] := by rw [wcs_append]; rfl
  unfold OwnW
  rw [this, List.length_append]
  exact h2

/-- A slice of bools. -/
structure SlB (w : World) (a : Option Addr) (n c : Nat) (f : Nat → Bool) : Prop where
  cap : n ≤ c
  max : c ≤ maxLen
  at_ : 0 < n → ∃ q o, a = some ⟨q, o, none⟩ ∧ q < w.heap.size ∧ ∀ i, i < n → w.cell? ⟨q, o + i, none⟩ = some (.bool (f i))
theorem SlB.bel {w w' : World} {a : Option Addr} {n c : Nat} {f : Nat → Bool} (h : SlB w a n c f) (b : Below w.heap.size w w') : SlB w' a n c f :=
  ⟨h.cap, h.max, fun hn => by
    obtain ⟨q, o, e, hq, hc⟩ := h.at_ hn
    exact ⟨q, o, e, Nat.lt_of_lt_of_le hq b.size, fun i hi => (b.cell (p := ⟨q, o + i, none⟩) hq).trans (hc i hi)⟩⟩
/-- A slice of voices that came in. -/
structure SlW (w : World) (a : Option Addr) (n c : Nat) (L : List Voi) : Prop where
  len : L.length = n
  cap : n ≤ c
  max : c ≤ maxLen
  at_ : L ≠ [] → ∃ q o, a = some ⟨q, o, none⟩ ∧ q < w.heap.size ∧ LieW w q o L
theorem SlW.bel {w w' : World} {a : Option Addr} {n c : Nat} {L : List Voi} (h : SlW w a n c L) (b : Below w.heap.size w w') : SlW w' a n c L :=
  ⟨h.len, h.cap, h.max, fun hn => by
    obtain ⟨q, o, e, hq, hc⟩ := h.at_ hn
    exact ⟨q, o, e, Nat.lt_of_lt_of_le hq b.size, hc.bel hq b⟩⟩
/-- The voices at the places that are picked. -/
def partL (L : List Voi) (F : Nat → Bool) : Nat → List Voi
  | 0 => []
  | k + 1 => if F k then partL L F k ++ [vAt L k] else partL L F k
theorem partL_le (L : List Voi) (F : Nat → Bool) : ∀ n, (partL L F n).length ≤ n
  | 0 => Nat.le_refl _
  | n + 1 => by
    unfold partL
    have := partL_le L F n
    split
    · rw [List.length_append]; simp; omega
    · omega
theorem partL_mem (L : List Voi) (F : Nat → Bool) : ∀ n m, m ∈ partL L F n → ∃ i, i < n ∧ F i = true ∧ m = vAt L i
  | 0, m, h => by cases h
  | n + 1, m, h => by
    unfold partL at h
    split at h
    · rename_i hf
      rcases List.mem_append.1 h with h | h
      · obtain ⟨i, h1, h2⟩ := partL_mem L F n m h
        exact ⟨i, by omega, h2⟩
      · exact ⟨n, by omega, hf, by simpa using h⟩
    · obtain ⟨i, h1, h2⟩ := partL_mem L F n m h
      exact ⟨i, by omega, h2⟩
end Go.Proofs.Ytehfcofbfillaaa
