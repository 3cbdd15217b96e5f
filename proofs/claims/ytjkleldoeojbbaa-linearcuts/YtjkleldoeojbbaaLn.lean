import Derived.Test.YtjkleldoeojbbaaLm
import Derived.Shelf.SlSortCmp.WholeK
import Derived.Shelf.SlicesG.Cmp
import Derived.Shelf.SlGeneric
import Derived.Shelf.Lay
import Derived.Ground.SlsfProg
import Derived.Ground.SlgcProg
namespace Go.Proofs
open Go.Shelf Go.RowKit Go.Lib Go.Sort
def Try.sortC_ren : Go.Shelf.Ren := ⟨fun | 6 => 126 | 15 => 83 | 14 => 131 | 28 => 114 | 29 => 115 | 20 => 132 | 21 => 133 | 22 => 134 | 23 => 135 | 24 => 136 | 25 => 137 | 26 => 138 | 27 => 139 | 46 => 140 | 47 => 121 | 48 => 122 | 49 => 141 | 50 => 142 | 57 => 143 | n => n, fun | 22 => 69 | 24 => 148 | 25 => 226 | 3 => 3 | 39 => 161 | 0 => 0 | 53 => 207 | 55 => 88 | 4 => 4 | 46 => 200 | 45 => 199 | 50 => 120 | 5 => 5 | 9 => 9 | 66 => 219 | 70 => 223 | 76 => 228 | 77 => 39 | n => n, fun | n => n⟩
theorem Try.sortC : Go.Proofs.SlLaysF0.n6 Try.prog Try.sortC_ren := {
  mixed := by kernel_rfl,
  f6 := ⟨Try.f126.name, by decide, Try.func126.trans (congrArg some (by kernel_rfl))⟩,
  f14 := ⟨Try.f131.name, by decide, Try.func131.trans (congrArg some (by kernel_rfl))⟩,
  f15 := Try.func83.trans (congrArg some (by kernel_rfl)),
  f20 := ⟨Try.f132.name, by decide, Try.func132.trans (congrArg some (by kernel_rfl))⟩,
  f21 := ⟨Try.f133.name, by decide, Try.func133.trans (congrArg some (by kernel_rfl))⟩,
  f22 := ⟨Try.f134.name, by decide, Try.func134.trans (congrArg some (by kernel_rfl))⟩,
  f23 := ⟨Try.f135.name, by decide, Try.func135.trans (congrArg some (by kernel_rfl))⟩,
  f24 := ⟨Try.f136.name, by decide, Try.func136.trans (congrArg some (by kernel_rfl))⟩,
  f25 := ⟨Try.f137.name, by decide, Try.func137.trans (congrArg some (by kernel_rfl))⟩,
  f26 := ⟨Try.f138.name, by decide, Try.func138.trans (congrArg some (by kernel_rfl))⟩,
  f27 := ⟨Try.f139.name, by decide, Try.func139.trans (congrArg some (by kernel_rfl))⟩,
  f28 := Try.func114.trans (congrArg some (by kernel_rfl)),
  f29 := Try.func115.trans (congrArg some (by kernel_rfl)),
  f46 := ⟨Try.f140.name, by decide, Try.func140.trans (congrArg some (by kernel_rfl))⟩,
  f47 := Try.func121.trans (congrArg some (by kernel_rfl)),
  f48 := Try.func122.trans (congrArg some (by kernel_rfl)),
  f49 := ⟨Try.f141.name, by decide, Try.func141.trans (congrArg some (by kernel_rfl))⟩,
  f50 := ⟨Try.f142.name, by decide, Try.func142.trans (congrArg some (by kernel_rfl))⟩,
  f57 := ⟨Try.f143.name, by decide, Try.func143.trans (congrArg some (by kernel_rfl))⟩,
  t0 := Try.underlying0,
  a0 := Try.isAgg0,
  z0 := Try.sizeOf0,
  v0 := Try.zeroValue0,
  t3 := Try.underlying3,
  a3 := Try.isAgg3,
  z3 := Try.sizeOf3,
  v3 := Try.zeroValue3,
  t4 := Try.underlying4,
  a4 := Try.isAgg4,
  z4 := Try.sizeOf4,
  v4 := Try.zeroValue4,
  t5 := Try.underlying5,
  a5 := Try.isAgg5,
  z5 := Try.sizeOf5,
  v5 := Try.zeroValue5,
  t9 := Try.underlying9,
  a9 := Try.isAgg9,
  z9 := Try.sizeOf9,
  v9 := Try.zeroValue9,
  t22 := Try.underlying69,
  a22 := Try.isAgg69,
  z22 := Try.sizeOf69,
  v22 := Try.zeroValue69,
  t25 := Try.underlying226,
  a25 := Try.isAgg226,
  z25 := Try.sizeOf226,
  v25 := Try.zeroValue226,
  t39 := Try.underlying161,
  a39 := Try.isAgg161,
  z39 := Try.sizeOf161,
  v39 := Try.zeroValue161,
  t45 := Try.underlying199,
  a45 := Try.isAgg199,
  z45 := Try.sizeOf199,
  v45 := Try.zeroValue199,
  t46 := Try.underlying200,
  a46 := Try.isAgg200,
  z46 := Try.sizeOf200,
  v46 := Try.zeroValue200,
  t50 := Try.underlying120,
  a50 := Try.isAgg120,
  z50 := Try.sizeOf120,
  v50 := Try.zeroValue120,
  t53 := Try.underlying207,
  a53 := Try.isAgg207,
  z53 := Try.sizeOf207,
  v53 := Try.zeroValue207,
  t55 := Try.underlying88,
  a55 := Try.isAgg88,
  z55 := Try.sizeOf88,
  v55 := Try.zeroValue88,
  t66 := Try.underlying219,
  a66 := Try.isAgg219,
  z66 := Try.sizeOf219,
  v66 := Try.zeroValue219,
  t70 := Try.underlying223,
  a70 := Try.isAgg223,
  z70 := Try.sizeOf223,
  v70 := Try.zeroValue223,
  t76 := Try.underlying228,
  a76 := Try.isAgg228,
  z76 := Try.sizeOf228,
  v76 := Try.zeroValue228,
  t77 := Try.underlying39,
  a77 := Try.isAgg39,
  z77 := Try.sizeOf39,
  v77 := Try.zeroValue39 }
def Try.cmpI_ren : Go.Shelf.Ren := ⟨fun | 5 => 128 | 7 => 125 | n => n, fun | 22 => 3 | 3 => 3 | 4 => 4 | n => n, fun | n => n⟩
theorem Try.cmpI : Go.Proofs.SlLaysC2.n5 Try.prog Try.cmpI_ren := {
  mixed := by kernel_rfl,
  f5 := ⟨Try.f128.name, by decide, Try.func128.trans (congrArg some (by kernel_rfl))⟩,
  f7 := ⟨Try.f125.name, by decide, Try.func125.trans (congrArg some (by kernel_rfl))⟩,
  t3 := Try.underlying3,
  a3 := Try.isAgg3,
  z3 := Try.sizeOf3,
  v3 := Try.zeroValue3,
  t4 := Try.underlying4,
  a4 := Try.isAgg4,
  z4 := Try.sizeOf4,
  v4 := Try.zeroValue4,
  t22 := Try.underlying3,
  a22 := Try.isAgg3,
  z22 := Try.sizeOf3,
  v22 := Try.zeroValue3 }
end Go.Proofs
namespace Go.Proofs.Ytjkleldoeojbbaa
open Go.Shelf Go.RowKit Go.Lib Go.Sort
set_option linter.unusedVariables false

/-- A cell's two cells. -/
def cE (x : Cl) : List Value := [.int .i64 x.1, .string x.2]
def cf (x y : Cl) : Int := Lib.compareInt x.1 y.1
theorem isAggCell (w : World) : (isAgg 148).run Try.prog w = .ok true w := by kernel_rfl
theorem sizeCell (w : World) : (Go.sizeOf 148).run Try.prog w = .ok 2 w := by kernel_rfl
set_option maxHeartbeats 1000000 in
theorem closure (x y : Cl) (W : World) : Calls Try.prog 127 #[.agg #[.int .i64 x.1, .string x.2], .agg #[.int .i64 y.1, .string y.2]] W fun e w' => e = .returned (.int .i64 (Lib.compareInt x.1 y.1)) ∧ ∃ q os', w' = grow (W.drewN q) os' := by
  have hcon := fun W' => AnyG.cmp_Compare_int Try.cmpI x.1 y.1 W'
  change ∀ W', Calls Try.prog 128 _ _ _ at hcon
  generalize Lib.compareInt x.1 y.1 = r at hcon ⊢
  go_enter Try.func127, Try.ntmps127
  go_wp2_with (go_at_call 128; refine (hcon _).mono ?_; rintro e w' ⟨rfl, rfl⟩)
  go_ret
  exact ⟨rfl, 0, _, by rw [alloc_eq_grow, alloc_eq_grow, grow_grow]; rfl⟩
theorem cmpLaysC (blk off size : Nat) (w : World) : CmpLays Try.prog 127 #[] cE 2 cf blk off size w :=
  fun _ _ _ _ x y => closure x y _
theorem ltC (x y : Cl) : ltOf cf x y = decide (x.1 < y.1) := by
  unfold ltOf cf Lib.compareInt
  by_cases h1 : x.1 < y.1
  · simp [h1]
  · by_cases h2 : y.1 < x.1 <;> simp [h1, h2]
theorem swoC : SWO (ltOf cf) where
  irrefl x := by rw [ltC]; simp
  trans x y z h1 h2 := by rw [ltC] at *; simp at *; omega
  ntrans x y z h1 h2 := by rw [ltC] at *; simp at *; omega
theorem flat_ccs (l : List Cl) : (flatK cE 2 l.toArray).toList = ccs l := by
  apply List.ext_getElem?
  intro t
  by_cases ht : t < l.length * 2
  · have h0 : (flatK cE 2 l.toArray).toList[t]? = some ((cE l.toArray[t / 2]!)[t % 2]!) := by simp [flatK, ht]
    rw [h0]
    have hi : t / 2 < l.length := by omega
    have hg : l[t / 2]? = some l[t / 2] := List.getElem?_eq_getElem hi
    have he : l.toArray[t / 2]! = l[t / 2] := by simp [hi]
    rw [he]
    rcases (by omega : t % 2 = 0 ∨ t % 2 = 1) with h | h
    · have := ccs_get0 l (t / 2) _ hg
      rw [show t / 2 * 2 = t by omega] at this
      rw [this, h]; rfl
    · have := ccs_get1 l (t / 2) _ hg
      rw [show t / 2 * 2 + 1 = t by omega] at this
      rw [this, h]; rfl
  · rw [List.getElem?_eq_none (by simp; omega), List.getElem?_eq_none (by rw [ccs_length]; omega)]
theorem holds_cells {B : Nat} {w : World} {g c : Nat} {l : List Cl} (h : OwnC B w (.slice (some ⟨g, 0, none⟩) l.length c) l) : HoldsK cE 2 w g 0 l.toArray := by
  intro j hj
  have hj' : j < l.length * 2 := by simpa using hj
  refine ⟨?_, by rw [Nat.zero_add]; exact h.free j⟩
  have hc : (ccs l)[j]? = some ((flatK cE 2 l.toArray)[j]!) := by
    rw [← flat_ccs]
    simp [flatK, hj']
  have := World.ownsRow.cells h (g := g) rfl _ _ hc
  rw [Addr.add_lit, Nat.zero_add] at this
  rw [Nat.zero_add]
  exact this

end Go.Proofs.Ytjkleldoeojbbaa
