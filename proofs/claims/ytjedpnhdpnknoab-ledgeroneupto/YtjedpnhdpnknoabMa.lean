import Derived.Test.YtjedpnhdpnknoabLv
import Derived.Test.YtjedpnhdpnknoabLh
namespace Go.Proofs.Ytjedpnhdpnknoab
open Go.RowKit
set_option linter.unusedVariables false

theorem gv_take_succ {D : List Cl} {k : Nat} {d : Cl} {s : Int} (hd : D[k]? = some d) (h : gv (D.take k) s = none) : gv (D.take (k + 1)) s = if d.1 = s then some d.2 else none := by
  have e : D.take (k + 1) = D.take k ++ [d] := by rw [List.take_add_one, hd]; rfl
  rw [e]
  unfold gv at h ⊢
  rw [List.find?_append]
  cases hf : (D.take k).find? (fun p => p.1 == s) with
  | some x => simp [hf] at h
  | none => by_cases hc : d.1 = s <;> simp [hc]
theorem gv_mono {D : List Cl} {k : Nat} {s : Int} {v : ByteArray} (h : gv (D.take k) s = some v) : gv D s = some v := by
  have e : D = D.take k ++ D.drop k := (List.take_append_drop k D).symm
  rw [e]
  unfold gv at h ⊢
  rw [List.find?_append]
  cases hf : (D.take k).find? (fun p => p.1 == s) with
  | some x => simpa [hf] using h
  | none => simp [hf] at h
theorem ins_none {c : Cl} : ∀ {L : List Cl}, (∀ p ∈ L, ¬ c.1 < p.1) → ins c L = L ++ [c]
  | [], _ => rfl
  | y :: r, h => by
    simp only [ins, h y (by simp), if_false, List.cons_append]
    rw [ins_none (fun p hp => h p (by simp [hp]))]
theorem ins_hit {c y : Cl} : ∀ {L : List Cl}, (∀ p ∈ L, ¬ c.1 < p.1) → c.1 < y.1 → ins c (L ++ [y]) = L ++ [c] ++ [y]
  | [], _, hy => by simp [ins, hy]
  | x :: r, h, hy => by
    simp only [ins, List.cons_append, h x (by simp), if_false]
    rw [ins_hit (fun p hp => h p (by simp [hp])) hy]
theorem ins_done {c y : Cl} : ∀ {L : List Cl}, (∃ p ∈ L, c.1 < p.1) → ins c (L ++ [y]) = ins c L ++ [y]
  | [], h => by simp at h
  | x :: r, h => by
    by_cases hx : c.1 < x.1
    · simp [ins, hx]
    · simp only [ins, List.cons_append, hx, if_false]
      rw [ins_done]
      obtain ⟨p, hp, hc⟩ := h
      rcases List.mem_cons.1 hp with rfl | hp
      · exact absurd hc hx
      · exact ⟨p, hp, hc⟩
theorem OwnC.grow {B : Nat} {w w' : World} {v : Value} {l : List Cl} (h : OwnC B w v l) (hb : Below w.heap.size w w') : OwnC B w' v l :=
  h.bel hb (Nat.le_refl _)
/-- A row of two cells. -/
def At2 (w : World) (g : Nat) (c : Cl) : Prop := w.cell? ⟨g, 0, none⟩ = some (.int .i64 c.1) ∧ w.cell? ⟨g, 1, none⟩ = some (.string c.2)
theorem At2.new (w : World) (c : Cl) (T : TypeId) : At2 (w.alloc (.cells #[.int .i64 c.1, .string c.2] T)) w.heap.size c := by
  refine ⟨?_, ?_⟩
  all_goals go_simp
theorem At2.on {w w' : World} {g : Nat} {c : Cl} (h : At2 w g c) {B : Nat} (hb : Below B w w') (hg : g < B) : At2 w' g c :=
  ⟨(hb.cell (p := ⟨g, 0, none⟩) hg).trans h.1, (hb.cell (p := ⟨g, 1, none⟩) hg).trans h.2⟩
end Go.Proofs.Ytjedpnhdpnknoab
