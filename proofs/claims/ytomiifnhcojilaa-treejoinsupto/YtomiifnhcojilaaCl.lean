import Derived.Test.YtomiifnhcojilaaWr
namespace Go.Proofs.Ytomiifnhcojilaa.Wi
open Go.RowKit
set_option linter.unusedVariables false

/-- A slice's bytes: it leads to cells that hold them. -/
def Row (w : World) (x : Addr) (zs : List Int) : Prop := ∀ i, i < zs.length → w.cell? (x.add i) = some (.int .u8 (zs.getD i 0))

theorem Row.later {w w' : World} {x : Addr} {zs : List Int} (h : Row w x zs) (hb : Below w.heap.size w w') : Row w' x zs := fun i hi => cell_later hb (h i hi)

set_option maxHeartbeats 400000 in
theorem clone_any (x : Addr) (len cap : Nat) (zs : List Int) (w : World) (hl : len ≤ zs.length) (hm : len ≤ 140737488355328) (hc : Row w x zs) :
    Calls Try.prog 99 #[.slice (some x) len cap] w fun e w' => ∃ v', e = .returned v' ∧ Own w.heap.size w' v' (zs.take len) ∧ v' ≠ .slice none 0 0 ∧ Below w.heap.size w w' := by
  have kn := fun (w : World) => Lib.run_eql_slice_nil (P := Try.prog) w 73 5 (some x) len cap 0 0 Try.underlying73
  go_enter Try.func99, Try.ntmps99
  go_wp2_with (at_builtin; go_must (refine app_any _ rfl (.tmp 5) (.tmp 6) rfl w.heap.size [] _ rfl x len cap rfl (zs.take len) ?zl ?zown ?zc ?zB ?zb ?zk))
  case zl => simp; omega
  case zown => exact World.ownsRow_made w #[] 0 (Nat.le_refl _) (by unfold maxLen; omega) rfl
  case zc =>
    intro j hj
    rw [List.getD_eq_getElem?_getD, List.getElem?_take_of_lt hj, ← List.getD_eq_getElem?_getD]
    exact hc.later ((Below.refl _ _).alloc (Nat.le_refl _) _) j (by omega)
  case zB => simp
  case zb => simpa using hm
  case zk =>
    intro v' w' h1 h2 h3
    have hb : Below w.heap.size w w' := ((Below.refl _ _).alloc (Nat.le_refl _) _).grown h3 (by simp) (fun k hk => by cases hk; exact Nat.le_refl _)
    go_wp2
    go_ret
    exact ⟨v', rfl, h1, h2 (.inl (by intro h; cases h)), hb⟩
#print axioms clone_any

end Go.Proofs.Ytomiifnhcojilaa.Wi
