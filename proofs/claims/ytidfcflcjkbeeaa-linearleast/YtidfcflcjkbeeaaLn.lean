import Derived.Test.YtidfcflcjkbeeaaLm
import Derived.Shelf.SlSortCmp.WholeK
import Derived.Shelf.SlicesG.Cmp
import Derived.Shelf.SlGeneric
import Derived.Shelf.Lay
import Derived.Ground.SlsfProg
import Derived.Ground.SlgcProg
namespace Go.Proofs
open Go.Shelf Go.RowKit Go.Lib Go.Sort
def Try.sortC_ren : Go.Shelf.Ren := ⟨fun | 6 => 100 | 15 => 73 | 14 => 110 | 28 => 98 | 29 => 99 | 20 => 112 | 21 => 113 | 22 => 114 | 23 => 115 | 24 => 116 | 25 => 117 | 26 => 118 | 27 => 119 | 46 => 120 | 47 => 105 | 48 => 106 | 49 => 121 | 50 => 122 | 57 => 123 | n => n, fun | 22 => 55 | 24 => 124 | 25 => 188 | 3 => 3 | 39 => 144 | 0 => 0 | 53 => 185 | 55 => 78 | 4 => 4 | 46 => 178 | 45 => 177 | 50 => 129 | 5 => 5 | 9 => 9 | 66 => 190 | 70 => 194 | 76 => 197 | 77 => 198 | n => n, fun | n => n⟩
theorem Try.sortC : Go.Proofs.SlLaysF0.n6 Try.prog Try.sortC_ren := {
  mixed := by kernel_rfl,
  f6 := ⟨Try.f100.name, by decide, Try.func100.trans (congrArg some (by kernel_rfl))⟩,
  f14 := ⟨Try.f110.name, by decide, Try.func110.trans (congrArg some (by kernel_rfl))⟩,
  f15 := Try.func73.trans (congrArg some (by kernel_rfl)),
  f20 := ⟨Try.f112.name, by decide, Try.func112.trans (congrArg some (by kernel_rfl))⟩,
  f21 := ⟨Try.f113.name, by decide, Try.func113.trans (congrArg some (by kernel_rfl))⟩,
  f22 := ⟨Try.f114.name, by decide, Try.func114.trans (congrArg some (by kernel_rfl))⟩,
  f23 := ⟨Try.f115.name, by decide, Try.func115.trans (congrArg some (by kernel_rfl))⟩,
  f24 := ⟨Try.f116.name, by decide, Try.func116.trans (congrArg some (by kernel_rfl))⟩,
  f25 := ⟨Try.f117.name, by decide, Try.func117.trans (congrArg some (by kernel_rfl))⟩,
  f26 := ⟨Try.f118.name, by decide, Try.func118.trans (congrArg some (by kernel_rfl))⟩,
  f27 := ⟨Try.f119.name, by decide, Try.func119.trans (congrArg some (by kernel_rfl))⟩,
  f28 := Try.func98.trans (congrArg some (by kernel_rfl)),
  f29 := Try.func99.trans (congrArg some (by kernel_rfl)),
  f46 := ⟨Try.f120.name, by decide, Try.func120.trans (congrArg some (by kernel_rfl))⟩,
  f47 := Try.func105.trans (congrArg some (by kernel_rfl)),
  f48 := Try.func106.trans (congrArg some (by kernel_rfl)),
  f49 := ⟨Try.f121.name, by decide, Try.func121.trans (congrArg some (by kernel_rfl))⟩,
  f50 := ⟨Try.f122.name, by decide, Try.func122.trans (congrArg some (by kernel_rfl))⟩,
  f57 := ⟨Try.f123.name, by decide, Try.func123.trans (congrArg some (by kernel_rfl))⟩,
  t0 := Try.underlying0,
  a0 := Try.isAgg0,
  z0 := Try.sizeOf0,
  v0 := Try.zeroValue0,
  t3 := Try.underlying3,
  a3 := Try.isAgg3,
  z3 := Try.sizeOf3,
  v3 := Try.zeroValue3,
  t4 := Try.underlying4,
  a4 := Try.isAgg4,
  z4 := Try.sizeOf4,
  v4 := Try.zeroValue4,
  t5 := Try.underlying5,
  a5 := Try.isAgg5,
  z5 := Try.sizeOf5,
  v5 := Try.zeroValue5,
  t9 := Try.underlying9,
  a9 := Try.isAgg9,
  z9 := Try.sizeOf9,
  v9 := Try.zeroValue9,
  t22 := Try.underlying55,
  a22 := Try.isAgg55,
  z22 := Try.sizeOf55,
  v22 := Try.zeroValue55,
  t25 := Try.underlying188,
  a25 := Try.isAgg188,
  z25 := Try.sizeOf188,
  v25 := Try.zeroValue188,
  t39 := Try.underlying144,
  a39 := Try.isAgg144,
  z39 := Try.sizeOf144,
  v39 := Try.zeroValue144,
  t45 := Try.underlying177,
  a45 := Try.isAgg177,
  z45 := Try.sizeOf177,
  v45 := Try.zeroValue177,
  t46 := Try.underlying178,
  a46 := Try.isAgg178,
  z46 := Try.sizeOf178,
  v46 := Try.zeroValue178,
  t50 := Try.underlying129,
  a50 := Try.isAgg129,
  z50 := Try.sizeOf129,
  v50 := Try.zeroValue129,
  t53 := Try.underlying185,
  a53 := Try.isAgg185,
  z53 := Try.sizeOf185,
  v53 := Try.zeroValue185,
  t55 := Try.underlying78,
  a55 := Try.isAgg78,
  z55 := Try.sizeOf78,
  v55 := Try.zeroValue78,
  t66 := Try.underlying190,
  a66 := Try.isAgg190,
  z66 := Try.sizeOf190,
  v66 := Try.zeroValue190,
  t70 := Try.underlying194,
  a70 := Try.isAgg194,
  z70 := Try.sizeOf194,
  v70 := Try.zeroValue194,
  t76 := Try.underlying197,
  a76 := Try.isAgg197,
  z76 := Try.sizeOf197,
  v76 := Try.zeroValue197,
  t77 := Try.underlying198,
  a77 := Try.isAgg198,
  z77 := Try.sizeOf198,
  v77 := Try.zeroValue198 }
def Try.cmpI_ren : Go.Shelf.Ren := ⟨fun | 5 => 102 | 7 => 109 | n => n, fun | 22 => 3 | 3 => 3 | 4 => 4 | n => n, fun | n => n⟩
theorem Try.cmpI : Go.Proofs.SlLaysC2.n5 Try.prog Try.cmpI_ren := {
  mixed := by kernel_rfl,
  f5 := ⟨Try.f102.name, by decide, Try.func102.trans (congrArg some (by kernel_rfl))⟩,
  f7 := ⟨Try.f109.name, by decide, Try.func109.trans (congrArg some (by kernel_rfl))⟩,
  t3 := Try.underlying3,
  a3 := Try.isAgg3,
  z3 := Try.sizeOf3,
  v3 := Try.zeroValue3,
  t4 := Try.underlying4,
  a4 := Try.isAgg4,
  z4 := Try.sizeOf4,
  v4 := Try.zeroValue4,
  t22 := Try.underlying3,
  a22 := Try.isAgg3,
  z22 := Try.sizeOf3,
  v22 := Try.zeroValue3 }
end Go.Proofs
namespace Go.Proofs.Ytidfcflcjkbeeaa
open Go.Shelf Go.RowKit Go.Lib Go.Sort
set_option linter.unusedVariables false

/-- A cell's two cells. -/
def cE (x : Cl) : List Value := [.int .i64 x.1, .string x.2]
def cf (x y : Cl) : Int := Lib.compareInt x.1 y.1
theorem isAggCell (w : World) : (isAgg 124).run Try.prog w = .ok true w := by kernel_rfl
theorem sizeCell (w : World) : (Go.sizeOf 124).run Try.prog w = .ok 2 w := by kernel_rfl
set_option maxHeartbeats 1000000 in
theorem closure (x y : Cl) (W : World) : Calls Try.prog 101 #[.agg #[.int .i64 x.1, .string x.2], .agg #[.int .i64 y.1, .string y.2]] W fun e w' => e = .returned (.int .i64 (Lib.compareInt x.1 y.1)) ∧ ∃ q os', w' = grow (W.drewN q) os' := by
  have hcon := fun W' => AnyG.cmp_Compare_int Try.cmpI x.1 y.1 W'
  change ∀ W', Calls Try.prog 102 _ _ _ at hcon
  generalize Lib.compareInt x.1 y.1 = r at hcon ⊢
  go_enter Try.func101, Try.ntmps101
  go_wp2_with (go_at_call 102; refine (hcon _).mono ?_; rintro e w' ⟨rfl, rfl⟩)
  go_ret
  exact ⟨rfl, 0, _, by rw [alloc_eq_grow, alloc_eq_grow, grow_grow]; rfl⟩
theorem cmpLaysC (blk off size : Nat) (w : World) : CmpLays Try.prog 101 #[] cE 2 cf blk off size w :=
  fun _ _ _ _ x y => closure x y _
theorem ltC (x y : Cl) : ltOf cf x y = decide (x.1 < y.1) := by
  unfold ltOf cf Lib.compareInt
  by_cases h1 : x.1 < y.1
  · simp [h1]
  · by_cases h2 : y.1 < x.1 <;> simp [h1, h2]
theorem swoC : SWO (ltOf cf) where
  irrefl x := by rw [ltC]; simp
  trans x y z h1 h2 := by rw [ltC] at *; simp at *; omega
  ntrans x y z h1 h2 := by rw [ltC] at *; simp at *; omega
theorem flat_ccs (l : List Cl) : (flatK cE 2 l.toArray).toList = ccs l := by
  apply List.ext_getElem?
  intro t
  by_cases ht : t < l.length * 2
  · have h0 : (flatK cE 2 l.toArray).toList[t]? = some ((cE l.toArray[t / 2]!)[t % 2]!) := by simp [flatK, ht]
    rw [h0]
    have hi : t / 2 < l.length := by omega
    have hg : l[t / 2]? = some l[t / 2] := List.getElem?_eq_getElem hi
    have he : l.toArray[t / 2]! = l[t / 2] := by simp [hi]
    rw [he]
    rcases (by omega : t % 2 = 0 ∨ t % 2 = 1) with h | h
    · have := ccs_get0 l (t / 2) _ hg
      rw [show t / 2 * 2 = t by omega] at this
      rw [this, h]; rfl
    · have := ccs_get1 l (t / 2) _ hg
      rw [show t / 2 * 2 + 1 = t by omega] at this
      rw [this, h]; rfl
  · rw [List.getElem?_eq_none (by simp; omega), List.getElem?_eq_none (by rw [ccs_length]; omega)]
theorem holds_cells {B : Nat} {w : World} {g c : Nat} {l : List Cl} (h : OwnC B w (.slice (some ⟨g, 0, none⟩) l.length c) l) : HoldsK cE 2 w g 0 l.toArray := by
  intro j hj
  have hj' : j < l.length * 2 := by simpa using hj
  refine ⟨?_, by rw [Nat.zero_add]; exact h.free j⟩
  have hc : (ccs l)[j]? = some ((flatK cE 2 l.toArray)[j]!) := by
    rw [← flat_ccs]
    simp [flatK, hj']
  have := World.ownsRow.cells h (g := g) rfl _ _ hc
  rw [Addr.add_lit, Nat.zero_add] at this
  rw [Nat.zero_add]
  exact this

end Go.Proofs.Ytidfcflcjkbeeaa
