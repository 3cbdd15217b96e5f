import Derived.Test.YtfoegkbbokcplaaYa
import Derived.Maps.OwnSet
import Derived.Maps.Views
namespace Go.Proofs.Ytfoegkbbokcplaa
open Go.RowKit Go.Maps
set_option linter.unusedVariables false
set_option linter.unusedSimpArgs false

/-- An element of a map reads as itself. -/
def RV (v : Value) : Option (DataW Value × List MemPlace) := some (.held v, [])
/-- A map at block b whose keys are whole numbers: which value each has. -/
def MapF (w : World) (b n : Nat) (f : Int → Option Value) : Prop := ∃ D : DataW Value, w.ownsMap Try.prog 3 RV b n D ∧ ∀ s z, D.atKey (.int .i64 s) z = match f s with | some v => .held v | none => z
theorem MapF.lt {w : World} {b n : Nat} {f : Int → Option Value} (h : MapF w b n f) : b < w.heap.size := by obtain ⟨D, h1, _⟩ := h; exact h1.lt
theorem MapF.made (w : World) : MapF (w.alloc (.map #[] 0)) w.heap.size 0 (fun _ => none) := ⟨_, World.ownsMap_made w Try.prog 3 RV, fun s z => rfl⟩
theorem MapF.block {w w' : World} {b n : Nat} {f : Int → Option Value} (h : MapF w b n f) (e : w'.heap[b]? = w.heap[b]?) : MapF w' b n f := by
  obtain ⟨D, ⟨es, clock, hb, F, hs, hD⟩, h2⟩ := h
  exact ⟨D, ⟨es, clock, e.trans hb, F, hs, hD⟩, h2⟩
theorem MapF.upd {S : Nat → Prop} {w w' : World} {b n : Nat} {f : Int → Option Value} (h : MapF w b n f) (u : Upd S w w') (hs : ¬ S b) : MapF w' b n f := h.block (u.block b h.lt hs)
theorem MapF.later {w w' : World} {b n : Nat} {f : Int → Option Value} (h : MapF w b n f) (hb : Below w.heap.size w w') : MapF w' b n f := h.block (hb.block b h.lt)
theorem MapF.grown {w w' : World} {b n : Nat} {f : Int → Option Value} (h : MapF w b n f) {row : Option Nat} (hg : w.grownBy w' row) (hne : some b ≠ row) : MapF w' b n f := h.block (hg.block b h.lt hne)
theorem MapF.isMap {w : World} {b n : Nat} {f : Int → Option Value} (h : MapF w b n f) : ∃ es c, w.heap[b]? = some (.map es c) := by
  obtain ⟨D, ⟨es, clock, hb, _⟩, _⟩ := h
  exact ⟨es, clock, hb⟩
theorem MapF.ne {α : Type} {Y : Lay α} {w : World} {b n B : Nat} {f : Int → Option Value} {v : Value} {l : List α} (h : MapF w b n f) (h' : OwnY Y B w v l) : some b ≠ v.ownBlock := fun e => by
  obtain ⟨es, c, hb⟩ := h.isMap
  exact h'.not_map e.symm es c hb
/-- 'm[s]' and 'v, ok := m[s]'. -/
theorem MapF.look {w : World} {b n : Nat} {f : Int → Option Value} (h : MapF w b n f) (c : Bool) {t e : TypeId} (ht : Try.prog.underlying t = some (.map 3 e)) {z : Value} (hz : (zeroValue e).run Try.prog w = .ok z w) {s : Int} (hw : (Lit.int .i64 s).wf = true) :
    (Instr.lookup t (.map (some b)) (.int .i64 s) c).run Try.prog w = .ok (if c then .tuple #[(f s).getD z, .bool (f s).isSome] else (f s).getD z) w := by
  obtain ⟨D, ⟨es, clock, hb, F, hs, hD⟩, h2⟩ := h
  have hkey := keyOf_int_mk Try.underlying3 hw
  have h3 := h2 s
  subst hD
  rcases Maps.fit_look c keyed ht hz hb F hkey with ⟨hrun, _, hat⟩ | ⟨e0, y, _, _, hrun, hRv, hat, _⟩
  · have : f s = none := by
      cases hf : f s with
      | none => rfl
      | some v =>
        have h4 := h3 .nil
        rw [hat .nil, hf] at h4
        cases h4
    rw [hrun, this]
    rfl
  · have : f s = some e0.val := by
      have h4 := h3 .nil
      rw [hat .nil] at h4
      simp [RV] at hRv
      rw [← hRv] at h4
      cases hf : f s with
      | none => rw [hf] at h4; cases h4
      | some v => rw [hf] at h4; exact congrArg some (DataW.held.inj h4).symm
    rw [hrun, this]
    rfl
theorem MapF.len {w : World} {b n : Nat} {f : Int → Option Value} (h : MapF w b n f) {t e : TypeId} (ht : Try.prog.underlying t = some (.map 3 e)) : ∃ m : Nat, m ≤ n ∧ ∀ ty, (Builtin.len_ #[t] ty #[.map (some b)]).run Try.prog w = .ok (.int .i64 (m : Int)) w := by
  obtain ⟨D, h1, _⟩ := h
  exact ⟨Maps.size D, h1.size_le, fun ty => h1.len ht ty⟩
theorem MapF.put {w : World} {b n : Nat} {f : Int → Option Value} (h : MapF w b n f) {s : Int} {val : Value} {w' : World} {D : DataW Value} (hD : ∀ s z, D.atKey (.int .i64 s) z = match f s with | some v => .held v | none => z) (him : Maps.IsMap D) (h' : w'.ownsMap Try.prog 3 RV b (n + 1) (D.put (.int .i64 s) (.held val))) : MapF w' b (n + 1) (fun s' => if s' = s then some val else f s') := by
  refine ⟨_, h', fun s' z => ?_⟩
  by_cases e : s' = s
  · subst e
    rw [Maps.atKey_put_same him (by trivial)]
    simp
  · rw [Maps.atKey_put_other (by simpa using e), hD]
    simp [e]
/-- 'm[s] = v' at the operation. -/
theorem mapF_put (w : World) {ops : Array Oper} {rest : List Oper} {o : Oper} {a : Act} {Q : Exit → Act → World → Prop} (hg : o.guard = none) (m x v : Operand) (t : TypeId) (hop : o.op = Op.mapUpdate t m x v)
    (e : TypeId) (ht : Try.prog.underlying t = some (.map 3 e)) (b n : Nat) (f : Int → Option Value) (hm : a.eval m = .map (some b)) (hown : MapF w b n f) (hn : n < maxLen) (s : Int) (hw : (Lit.int .i64 s).wf = true) (val : Value) (hx : a.eval x = .int .i64 s) (hv : a.eval v = val)
    (hK : ∀ w', MapF w' b (n + 1) (fun s' => if s' = s then some val else f s') → w.grownBy w' (some b) → wpList Try.prog ops Q rest (a.put o.dst undef) w') : wpList Try.prog ops Q (o :: rest) a w := by
  obtain ⟨D, h1, h2⟩ := hown
  exact wpList_mapUpdate_own w hg m x v t hop 3 e keyed ht RV b n D hm h1 hn _ val _ hx hv (keyOf_int_mk Try.underlying3 hw) (.held val) [] rfl (fun w' h3 h4 => hK w' (MapF.put ⟨D, h1, h2⟩ h2 h1.isMap h3) h4)

end Go.Proofs.Ytfoegkbbokcplaa
