import Derived.Test.YtolnkoneilipeaaKd
namespace Go.Proofs.Ytolnkoneilipeaa
open Go.RowKit Go.Shelf
open Classical
set_option linter.unusedVariables false
set_option linter.unusedSimpArgs false
attribute [local go_sem] Oper.semAt_some

/-- The first place of a client's request. -/
def fdA (c n : Int) : List En → Nat → Nat
  | [], _ => 0
  | e :: r, i => if e.c = c ∧ e.n = n then i + 1 else fdA c n r (i + 1)
def fd (L : List En) (c n : Int) : Nat := fdA c n L 0
theorem fdA_at {L : List En} {j : Nat} {e : En} (c n : Int) (h : L[j]? = some e) : fdA c n (L.drop j) j = if e.c = c ∧ e.n = n then j + 1 else fdA c n (L.drop (j + 1)) (j + 1) := by
  have hj := (List.getElem?_eq_some_iff.1 h).1
  have he := (List.getElem?_eq_some_iff.1 h).2
  rw [List.drop_eq_getElem_cons hj, he, fdA]
/-- What a loop over Each leaves as it was. -/
theorem up_row {S : Nat → Prop} {w W W' : World} {row : Option Nat} (h : Upd S w W) (hg : W.grownBy W' row) (hr : ∀ r, row = some r → r = w.heap.size + 1) : Upd S w W' := h.grownBy hg (fun k e hk => by have := hr k e; omega)
theorem gm_take {L : List En} {j : Nat} {e : En} (c : Int) (h : L[j]? = some e) : gm (L.take (j + 1)) c = if e.c = c then max (gm (L.take j) c) e.n else gm (L.take j) c := by
  rw [List.take_add_one, h]
  exact gm_snoc _ _ _
end Go.Proofs.Ytolnkoneilipeaa
