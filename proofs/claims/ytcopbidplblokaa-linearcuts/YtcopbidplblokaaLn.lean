import Derived.Test.YtcopbidplblokaaLm
import Derived.Shelf.SlSortCmp.WholeK
import Derived.Shelf.SlicesG.Cmp
import Derived.Shelf.SlGeneric
import Derived.Shelf.Lay
import Derived.Ground.SlsfProg
import Derived.Ground.SlgcProg
namespace Go.Proofs
open Go.Shelf Go.RowKit Go.Lib Go.Sort
def Try.sortC_ren : Go.Shelf.Ren := ⟨fun | 6 => 130 | 15 => 105 | 14 => 140 | 28 => 128 | 29 => 129 | 20 => 142 | 21 => 143 | 22 => 144 | 23 => 145 | 24 => 146 | 25 => 147 | 26 => 148 | 27 => 149 | 46 => 150 | 47 => 135 | 48 => 136 | 49 => 151 | 50 => 152 | 57 => 153 | n => n, fun | 22 => 81 | 24 => 160 | 25 => 226 | 3 => 3 | 39 => 184 | 0 => 0 | 53 => 223 | 55 => 100 | 4 => 4 | 46 => 216 | 45 => 215 | 50 => 155 | 5 => 5 | 9 => 9 | 66 => 228 | 70 => 232 | 76 => 235 | 77 => 56 | n => n, fun | n => n⟩
theorem Try.sortC : Go.Proofs.SlLaysF0.n6 Try.prog Try.sortC_ren := {
  mixed := by kernel_rfl,
  f6 := ⟨Try.f130.name, by decide, Try.func130.trans (congrArg some (by kernel_rfl))⟩,
  f14 := ⟨Try.f140.name, by decide, Try.func140.trans (congrArg some (by kernel_rfl))⟩,
  f15 := Try.func105.trans (congrArg some (by kernel_rfl)),
  f20 := ⟨Try.f142.name, by decide, Try.func142.trans (congrArg some (by kernel_rfl))⟩,
  f21 := ⟨Try.f143.name, by decide, Try.func143.trans (congrArg some (by kernel_rfl))⟩,
  f22 := ⟨Try.f144.name, by decide, Try.func144.trans (congrArg some (by kernel_rfl))⟩,
  f23 := ⟨Try.f145.name, by decide, Try.func145.trans (congrArg some (by kernel_rfl))⟩,
  f24 := ⟨Try.f146.name, by decide, Try.func146.trans (congrArg some (by kernel_rfl))⟩,
  f25 := ⟨Try.f147.name, by decide, Try.func147.trans (congrArg some (by kernel_rfl))⟩,
  f26 := ⟨Try.f148.name, by decide, Try.func148.trans (congrArg some (by kernel_rfl))⟩,
  f27 := ⟨Try.f149.name, by decide, Try.func149.trans (congrArg some (by kernel_rfl))⟩,
  f28 := Try.func128.trans (congrArg some (by kernel_rfl)),
  f29 := Try.func129.trans (congrArg some (by kernel_rfl)),
  f46 := ⟨Try.f150.name, by decide, Try.func150.trans (congrArg some (by kernel_rfl))⟩,
  f47 := Try.func135.trans (congrArg some (by kernel_rfl)),
  f48 := Try.func136.trans (congrArg some (by kernel_rfl)),
  f49 := ⟨Try.f151.name, by decide, Try.func151.trans (congrArg some (by kernel_rfl))⟩,
  f50 := ⟨Try.f152.name, by decide, Try.func152.trans (congrArg some (by kernel_rfl))⟩,
  f57 := ⟨Try.f153.name, by decide, Try.func153.trans (congrArg some (by kernel_rfl))⟩,
  t0 := Try.underlying0,
  a0 := Try.isAgg0,
  z0 := Try.sizeOf0,
  v0 := Try.zeroValue0,
  t3 := Try.underlying3,
  a3 := Try.isAgg3,
  z3 := Try.sizeOf3,
  v3 := Try.zeroValue3,
  t4 := Try.underlying4,
  a4 := Try.isAgg4,
  z4 := Try.sizeOf4,
  v4 := Try.zeroValue4,
  t5 := Try.underlying5,
  a5 := Try.isAgg5,
  z5 := Try.sizeOf5,
  v5 := Try.zeroValue5,
  t9 := Try.underlying9,
  a9 := Try.isAgg9,
  z9 := Try.sizeOf9,
  v9 := Try.zeroValue9,
  t22 := Try.underlying81,
  a22 := Try.isAgg81,
  z22 := Try.sizeOf81,
  v22 := Try.zeroValue81,
  t25 := Try.underlying226,
  a25 := Try.isAgg226,
  z25 := Try.sizeOf226,
  v25 := Try.zeroValue226,
  t39 := Try.underlying184,
  a39 := Try.isAgg184,
  z39 := Try.sizeOf184,
  v39 := Try.zeroValue184,
  t45 := Try.underlying215,
  a45 := Try.isAgg215,
  z45 := Try.sizeOf215,
  v45 := Try.zeroValue215,
  t46 := Try.underlying216,
  a46 := Try.isAgg216,
  z46 := Try.sizeOf216,
  v46 := Try.zeroValue216,
  t50 := Try.underlying155,
  a50 := Try.isAgg155,
  z50 := Try.sizeOf155,
  v50 := Try.zeroValue155,
  t53 := Try.underlying223,
  a53 := Try.isAgg223,
  z53 := Try.sizeOf223,
  v53 := Try.zeroValue223,
  t55 := Try.underlying100,
  a55 := Try.isAgg100,
  z55 := Try.sizeOf100,
  v55 := Try.zeroValue100,
  t66 := Try.underlying228,
  a66 := Try.isAgg228,
  z66 := Try.sizeOf228,
  v66 := Try.zeroValue228,
  t70 := Try.underlying232,
  a70 := Try.isAgg232,
  z70 := Try.sizeOf232,
  v70 := Try.zeroValue232,
  t76 := Try.underlying235,
  a76 := Try.isAgg235,
  z76 := Try.sizeOf235,
  v76 := Try.zeroValue235,
  t77 := Try.underlying56,
  a77 := Try.isAgg56,
  z77 := Try.sizeOf56,
  v77 := Try.zeroValue56 }
def Try.cmpI_ren : Go.Shelf.Ren := ⟨fun | 5 => 132 | 7 => 139 | n => n, fun | 22 => 3 | 3 => 3 | 4 => 4 | n => n, fun | n => n⟩
theorem Try.cmpI : Go.Proofs.SlLaysC2.n5 Try.prog Try.cmpI_ren := {
  mixed := by kernel_rfl,
  f5 := ⟨Try.f132.name, by decide, Try.func132.trans (congrArg some (by kernel_rfl))⟩,
  f7 := ⟨Try.f139.name, by decide, Try.func139.trans (congrArg some (by kernel_rfl))⟩,
  t3 := Try.underlying3,
  a3 := Try.isAgg3,
  z3 := Try.sizeOf3,
  v3 := Try.zeroValue3,
  t4 := Try.underlying4,
  a4 := Try.isAgg4,
  z4 := Try.sizeOf4,
  v4 := Try.zeroValue4,
  t22 := Try.underlying3,
  a22 := Try.isAgg3,
  z22 := Try.sizeOf3,
  v22 := Try.zeroValue3 }
end Go.Proofs
namespace Go.Proofs.Ytcopbidplblokaa
open Go.Shelf Go.RowKit Go.Lib Go.Sort
set_option linter.unusedVariables false

/-- A cell's two cells. -/
def cE (x : Cl) : List Value := [.int .i64 x.1, .string x.2]
def cf (x y : Cl) : Int := Lib.compareInt x.1 y.1
theorem isAggCell (w : World) : (isAgg 160).run Try.prog w = .ok true w := by kernel_rfl
theorem sizeCell (w : World) : (Go.sizeOf 160).run Try.prog w = .ok 2 w := by kernel_rfl
set_option maxHeartbeats 1000000 in
theorem closure (x y : Cl) (W : World) : Calls Try.prog 131 #[.agg #[.int .i64 x.1, .string x.2], .agg #[.int .i64 y.1, .string y.2]] W fun e w' => e = .returned (.int .i64 (Lib.compareInt x.1 y.1)) ∧ ∃ q os', w' = grow (W.drewN q) os' := by
  have hcon := fun W' => AnyG.cmp_Compare_int Try.cmpI x.1 y.1 W'
  change ∀ W', Calls Try.prog 132 _ _ _ at hcon
  generalize Lib.compareInt x.1 y.1 = r at hcon ⊢
  go_enter Try.func131, Try.ntmps131
  go_wp2_with (go_at_call 132; refine (hcon _).mono ?_; rintro e w' ⟨rfl, rfl⟩)
  go_ret
  exact ⟨rfl, 0, _, by rw [alloc_eq_grow, alloc_eq_grow, grow_grow]; rfl⟩
theorem cmpLaysC (blk off size : Nat) (w : World) : CmpLays Try.prog 131 #[] cE 2 cf blk off size w :=
  fun _ _ _ _ x y => closure x y _
theorem ltC (x y : Cl) : ltOf cf x y = decide (x.1 < y.1) := by
  unfold ltOf cf Lib.compareInt
  by_cases h1 : x.1 < y.1
  · simp [h1]
  · by_cases h2 : y.1 < x.1 <;> simp [h1, h2]
theorem swoC : SWO (ltOf cf) where
  irrefl x := by rw [ltC]; simp
  trans x y z h1 h2 := by rw [ltC] at *; simp at *; omega
  ntrans x y z h1 h2 := by rw [ltC] at *; simp at *; omega
theorem flat_ccs (l : List Cl) : (flatK cE 2 l.toArray).toList = ccs l := by
  apply List.ext_getElem?
  intro t
  by_cases ht : t < l.length * 2
  · have h0 : (flatK cE 2 l.toArray).toList[t]? = some ((cE l.toArray[t / 2]!)[t % 2]!) := by simp [flatK, ht]
    rw [h0]
    have hi : t / 2 < l.length := by omega
    have hg : l[t / 2]? = some l[t / 2] := List.getElem?_eq_getElem hi
    have he : l.toArray[t / 2]! = l[t / 2] := by simp [hi]
    rw [he]
    rcases (by omega : t % 2 = 0 ∨ t % 2 = 1) with h | h
    · have := ccs_get0 l (t / 2) _ hg
      rw [show t / 2 * 2 = t by omega] at this
      rw [this, h]; rfl
    · have := ccs_get1 l (t / 2) _ hg
      rw [show t / 2 * 2 + 1 = t by omega] at this
      rw [this, h]; rfl
  · rw [List.getElem?_eq_none (by simp; omega), List.getElem?_eq_none (by rw [ccs_length]; omega)]
theorem holds_cells {B : Nat} {w : World} {g c : Nat} {l : List Cl} (h : OwnC B w (.slice (some ⟨g, 0, none⟩) l.length c) l) : HoldsK cE 2 w g 0 l.toArray := by
  intro j hj
  have hj' : j < l.length * 2 := by simpa using hj
  refine ⟨?_, by rw [Nat.zero_add]; exact h.free j⟩
  have hc : (ccs l)[j]? = some ((flatK cE 2 l.toArray)[j]!) := by
    rw [← flat_ccs]
    simp [flatK, hj']
  have := World.ownsRow.cells h (g := g) rfl _ _ hc
  rw [Addr.add_lit, Nat.zero_add] at this
  rw [Nat.zero_add]
  exact this

end Go.Proofs.Ytcopbidplblokaa
