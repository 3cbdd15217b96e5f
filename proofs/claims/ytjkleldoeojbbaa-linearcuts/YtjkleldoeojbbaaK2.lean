import Derived.Test.YtjkleldoeojbbaaK1
import Derived.DeepKeys4
import Derived.WideKeyEntry
namespace Go.Proofs.Ytjkleldoeojbbaa
open Go.RowKit Go.Maps
set_option linter.unusedVariables false
set_option linter.unusedSimpArgs false

/-! ### Maps of any keys -/
/-- A type of keys: how a key lies, which keys may be. -/
structure KeyT (κ : Type) where
  T : TypeId
  enc : κ → Value
  ok : κ → Prop
structure KeyT.Ok {κ : Type} (Z : KeyT κ) : Prop where
  keyed : Keyed Try.prog Z.T
  has : ∀ k, Z.ok k → ∃ x : Lit, keyOf Try.prog Z.T (Z.enc k) = some x ∧ WideAt.IsKeyLit x
  inj : ∀ k k' (x : Lit), Z.ok k → Z.ok k' → keyOf Try.prog Z.T (Z.enc k) = some x → keyOf Try.prog Z.T (Z.enc k') = some x → k = k'
/-- A map at block b: which value each key has. -/
def MapG {κ : Type} (Z : KeyT κ) (w : World) (b n : Nat) (f : κ → Option Value) : Prop := ∃ D : DataW Value, w.ownsMap Try.prog Z.T RV b n D ∧ ∀ k z x, Z.ok k → keyOf Try.prog Z.T (Z.enc k) = some x → D.atKey x z = match f k with | some v => .held v | none => z
section
variable {κ : Type} {Z : KeyT κ} {w w' : World} {b n : Nat} {f : κ → Option Value}
theorem MapG.lt (h : MapG Z w b n f) : b < w.heap.size := by obtain ⟨D, h1, _⟩ := h; exact h1.lt
theorem MapG.made (Z : KeyT κ) (w : World) : MapG Z (w.alloc (.map #[] 0)) w.heap.size 0 (fun _ => none) := ⟨_, World.ownsMap_made w Try.prog Z.T RV, fun k z x _ _ => rfl⟩
theorem MapG.block (h : MapG Z w b n f) (e : w'.heap[b]? = w.heap[b]?) : MapG Z w' b n f := by
  obtain ⟨D, ⟨es, clock, hb, F, hs, hD⟩, h2⟩ := h
  exact ⟨D, ⟨es, clock, e.trans hb, F, hs, hD⟩, h2⟩
theorem MapG.upd {S : Nat → Prop} (h : MapG Z w b n f) (u : Upd S w w') (hs : ¬ S b) : MapG Z w' b n f := h.block (u.block b h.lt hs)
theorem MapG.later (h : MapG Z w b n f) (hb : Below w.heap.size w w') : MapG Z w' b n f := h.block (hb.block b h.lt)
theorem MapG.isMap (h : MapG Z w b n f) : ∃ es c, w.heap[b]? = some (.map es c) := by
  obtain ⟨D, ⟨es, clock, hb, _⟩, _⟩ := h
  exact ⟨es, clock, hb⟩
theorem MapG.ext {g : κ → Option Value} (h : MapG Z w b n f) (e : ∀ k, Z.ok k → g k = f k) : MapG Z w b n g := by
  obtain ⟨D, h1, h2⟩ := h
  exact ⟨D, h1, fun k z x hk hx => by rw [e k hk]; exact h2 k z x hk hx⟩
/-- 'm[k]' and 'v, ok := m[k]'. -/
theorem MapG.look (K : Z.Ok) (h : MapG Z w b n f) (c : Bool) {t e : TypeId} (ht : Try.prog.underlying t = some (.map Z.T e)) {z : Value} (hz : (zeroValue e).run Try.prog w = .ok z w) {k : κ} (hk : Z.ok k) :
    (Instr.lookup t (.map (some b)) (Z.enc k) c).run Try.prog w = .ok (if c then .tuple #[(f k).getD z, .bool (f k).isSome] else (f k).getD z) w := by
  obtain ⟨D, ⟨es, clock, hb, F, hs, hD⟩, h2⟩ := h
  obtain ⟨x, hx, _⟩ := K.has k hk
  have h3 := fun z => h2 k z x hk hx
  subst hD
  rcases Maps.fit_look c K.keyed ht hz hb F hx with ⟨hrun, _, hat⟩ | ⟨e0, y, _, _, hrun, hRv, hat, _⟩
  · have : f k = none := by
      cases hf : f k with
      | none => rfl
      | some v =>
        have h4 := h3 .nil
        rw [hat .nil, hf] at h4
        cases h4
    rw [hrun, this]
    rfl
  · have : f k = some e0.val := by
      have h4 := h3 .nil
      rw [hat .nil] at h4
      simp [RV] at hRv
      rw [← hRv] at h4
      cases hf : f k with
      | none => rw [hf] at h4; cases h4
      | some v => rw [hf] at h4; exact congrArg some (DataW.held.inj h4).symm
    rw [hrun, this]
    rfl
open Classical in
/-- 'm[k] = v' at the operation. -/
theorem mapG_put (K : Z.Ok) (w : World) {ops : Array Oper} {rest : List Oper} {o : Oper} {a : Act} {Q : Exit → Act → World → Prop} (hg : o.guard = none) (m x v : Operand) (t : TypeId) (hop : o.op = Op.mapUpdate t m x v)
    (e : TypeId) (ht : Try.prog.underlying t = some (.map Z.T e)) (b n : Nat) (f : κ → Option Value) (hm : a.eval m = .map (some b)) (hown : MapG Z w b n f) (hn : n < maxLen) (k : κ) (hk : Z.ok k) (val : Value) (hx : a.eval x = Z.enc k) (hv : a.eval v = val)
    (hK : ∀ w' g, g k = some val → (∀ k', k' ≠ k → g k' = f k') → MapG Z w' b (n + 1) g → w.grownBy w' (some b) → wpList Try.prog ops Q rest (a.put o.dst undef) w') : wpList Try.prog ops Q (o :: rest) a w := by
  obtain ⟨D, h1, h2⟩ := hown
  obtain ⟨y, hy, hyk⟩ := K.has k hk
  refine wpList_mapUpdate_own w hg m x v t hop Z.T e K.keyed ht RV b n D hm h1 hn _ val _ hx hv hy (.held val) [] rfl (fun w' h3 h4 => hK w' (fun k' => if k' = k then some val else f k') (if_pos rfl) (fun k' h => if_neg h) ⟨_, h3, fun k' z x' hk' hx' => ?_⟩ h4)
  by_cases e : k' = k
  · subst e
    rw [hy] at hx'
    cases hx'
    rw [Maps.atKey_put_same h1.isMap hyk]
    simp
  · have hne : x' ≠ y := fun h => e (K.inj k' k y hk' hk (h ▸ hx') hy)
    rw [Maps.atKey_put_other hne, h2 k' z x' hk' hx']
    simp [e]
end
set_option maxRecDepth 100000 in
theorem laidOutK : laidOutB Try.prog = true := by kernel_rfl
/-! A request: a client and a number. -/
def zRq : KeyT (Int × Int) := ⟨140, fun k => .agg #[.int .i64 k.1, .int .i64 k.2], fun k => (Lit.int .i64 k.1).wf = true ∧ (Lit.int .i64 k.2).wf = true⟩
set_option maxRecDepth 100000 in
theorem rowRq : 140 < Try.prog.types.size := of_decide_eq_true (by kernel_rfl)
theorem cellsRq : Try.prog.cellsOf 140 = 2 := by kernel_rfl
theorem cellsI : Try.prog.cellsOf 3 = 1 := by kernel_rfl
theorem cellsS : Try.prog.cellsOf 9 = 1 := by kernel_rfl
theorem cellsB : Try.prog.cellsOf 4 = 1 := by kernel_rfl
set_option maxRecDepth 100000 in
theorem lawRq : WideMaps.KeyLaw Try.prog 140 := deep_law_laid laidOutK (m := 2) (by omega) rowRq (by kernel_rfl) (by kernel_rfl)
theorem formedRq (k : Int × Int) : (zRq.enc k).formed Try.prog 140 = true := by
  simp [zRq, Value.formed, Try.underlying140, cellsRq]
set_option maxRecDepth 100000 in
theorem keyOfRq (k : Int × Int) (hk : zRq.ok k) : ∃ x : Lit, keyOf Try.prog 140 (zRq.enc k) = some x ∧ WideAt.IsKeyLit x := by
  have hl : Try.prog.keyLits (Try.prog.types.size + 1) 140 (zRq.enc k).cells.toList = some [.int .i64 k.1, .int .i64 k.2] := by
    obtain ⟨m, hm⟩ : ∃ m, Try.prog.types.size = m + 1 := ⟨Try.prog.types.size - 1, (Nat.succ_pred_eq_of_pos (Nat.lt_of_le_of_lt (Nat.zero_le _) rowRq)).symm⟩
    rw [hm]
    have h1 := hk.1
    have h2 := hk.2
    simp [Program.keyLits, Try.underlying140, zRq, Value.cells, cellsRq, Try.underlying3, cellsI, h1, h2]
  have kt : Try.prog.keyType 140 = true := by kernel_rfl
  simp only [keyOf, Try.underlying140, kt, formedRq, Bool.and_self, if_true, hl, Option.map_some]
  exact ⟨_, rfl, trivial⟩
theorem kRq : zRq.Ok := ⟨Keyed.of_law lawRq, keyOfRq, fun k k' x hk hk' h h' => by
  have := lawRq.inj h h'
  obtain ⟨a, b⟩ := k
  obtain ⟨a', b'⟩ := k'
  simpa [zRq] using this⟩

end Go.Proofs.Ytjkleldoeojbbaa
