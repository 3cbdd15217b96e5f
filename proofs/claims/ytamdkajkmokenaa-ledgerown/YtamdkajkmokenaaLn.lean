import Derived.Test.YtamdkajkmokenaaLm
import Derived.Shelf.SlSortCmp.WholeK
import Derived.Shelf.SlicesG.Cmp
import Derived.Shelf.SlGeneric
import Derived.Shelf.Lay
import Derived.Ground.SlsfProg
import Derived.Ground.SlgcProg
namespace Go.Proofs
open Go.Shelf Go.RowKit Go.Lib Go.Sort
shelf_lay_g SlLaysF0.n6 Slsf 6 at Try 17 as Try.sortC
shelf_lay_g SlLaysC2.n5 Slgc 5 at Try 19 as Try.cmpI
end Go.Proofs
namespace Go.Proofs.Ytamdkajkmokenaa
open Go.Shelf Go.RowKit Go.Lib Go.Sort
set_option linter.unusedVariables false

/-- A cell's two cells. -/
def cE (x : Cl) : List Value := [.int .i64 x.1, .string x.2]
def cf (x y : Cl) : Int := Lib.compareInt x.1 y.1
theorem isAggCell (w : World) : (isAgg 60).run Try.prog w = .ok true w := by kernel_rfl
theorem sizeCell (w : World) : (Go.sizeOf 60).run Try.prog w = .ok 2 w := by kernel_rfl
set_option maxHeartbeats 1000000 in
theorem closure (x y : Cl) (W : World) : Calls Try.prog 18 #[.agg #[.int .i64 x.1, .string x.2], .agg #[.int .i64 y.1, .string y.2]] W fun e w' => e = .returned (.int .i64 (Lib.compareInt x.1 y.1)) ∧ ∃ q os', w' = grow (W.drewN q) os' := by
  have hcon := fun W' => AnyG.cmp_Compare_int Try.cmpI x.1 y.1 W'
  change ∀ W', Calls Try.prog 19 _ _ _ at hcon
  generalize Lib.compareInt x.1 y.1 = r at hcon ⊢
  go_enter Try.func18, Try.ntmps18
  go_wp2_with (go_at_call 19; refine (hcon _).mono ?_; rintro e w' ⟨rfl, rfl⟩)
  go_ret
  exact ⟨rfl, 0, _, by rw [alloc_eq_grow, alloc_eq_grow, grow_grow]; rfl⟩
theorem cmpLaysC (blk off size : Nat) (w : World) : CmpLays Try.prog 18 #[] cE 2 cf blk off size w :=
  fun _ _ _ _ x y => closure x y _
theorem ltC (x y : Cl) : ltOf cf x y = decide (x.1 < y.1) := by
  unfold ltOf cf Lib.compareInt
  by_cases h1 : x.1 < y.1
  · simp [h1]
  · by_cases h2 : y.1 < x.1 <;> simp [h1, h2]
theorem swoC : SWO (ltOf cf) where
  irrefl x := by rw [ltC]; simp
  trans x y z h1 h2 := by rw [ltC] at *; simp at *; omega
  ntrans x y z h1 h2 := by rw [ltC] at *; simp at *; omega
theorem flat_ccs (l : List Cl) : (flatK cE 2 l.toArray).toList = ccs l := by
  apply List.ext_getElem?
  intro t
  by_cases ht : t < l.length * 2
  · have h0 : (flatK cE 2 l.toArray).toList[t]? = some ((cE l.toArray[t / 2]!)[t % 2]!) := by simp [flatK, ht]
    rw [h0]
    have hi : t / 2 < l.length := by omega
    have hg : l[t / 2]? = some l[t / 2] := List.getElem?_eq_getElem hi
    have he : l.toArray[t / 2]! = l[t / 2] := by simp [hi]
    rw [he]
    rcases (by omega : t % 2 = 0 ∨ t % 2 = 1) with h | h
    · have := ccs_get0 l (t / 2) _ hg
      rw [show t / 2 * 2 = t by omega] at this
      rw [this, h]; rfl
    · have := ccs_get1 l (t / 2) _ hg
      rw [show t / 2 * 2 + 1 = t by omega] at this
      rw [this, h]; rfl
  · rw [List.getElem?_eq_none (by simp; omega), List.getElem?_eq_none (by rw [ccs_length]; omega)]
theorem holds_cells {B : Nat} {w : World} {g c : Nat} {l : List Cl} (h : OwnC B w (.slice (some ⟨g, 0, none⟩) l.length c) l) : HoldsK cE 2 w g 0 l.toArray := by
  intro j hj
  have hj' : j < l.length * 2 := by simpa using hj
  refine ⟨?_, by rw [Nat.zero_add]; exact h.free j⟩
  have hc : (ccs l)[j]? = some ((flatK cE 2 l.toArray)[j]!) := by
    rw [← flat_ccs]
    simp [flatK, hj']
  have := World.ownsRow.cells h (g := g) rfl _ _ hc
  rw [Addr.add_lit, Nat.zero_add] at this
  rw [Nat.zero_add]
  exact this

end Go.Proofs.Ytamdkajkmokenaa
