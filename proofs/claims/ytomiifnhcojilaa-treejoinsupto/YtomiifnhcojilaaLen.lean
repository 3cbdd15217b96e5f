import Derived.Test.YtomiifnhcojilaaSum
import Derived.Lib.BitFns
import Derived.Deep.Light
namespace Go.Proofs.Ytomiifnhcojilaa.Wi
open Go.RowKit
set_option linter.unusedVariables false

set_option maxRecDepth 100000 in
theorem tab_size : Lib.len8tab.size = 256 := by decide
theorem tab_at (y : Int) (h : y.toNat < Lib.len8tab.size) (h0 : 0 ≤ y) (h1 : y ≤ 255) : ((Lib.len8tab[y.toNat]'h).toNat : Int) = (Lib.bitLen y.toNat : Nat) := by
  rw [← Lib.len8_of y h0 h1]
  unfold Lib.len8
  rw [getElem?_pos Lib.len8tab y.toNat h]
  rfl
/-- One way of Len64: the upper bits y of x, k bits moved down. -/
theorem way (k : Nat) (x y : Int) (h : y.toNat < Lib.len8tab.size) (hk : k ≤ 56) (h0 : 0 ≤ y) (h1 : y ≤ 255) (e : y.toNat = x.toNat / 2 ^ k) (hx : 2 ^ k ≤ x.toNat) (hm : x.toNat < 2 ^ 64) :
    wrap64 ((k : Int) + wrap64 ((Lib.len8tab[y.toNat]'h).toNat : Int)) = (Lib.bitLen x.toNat : Nat) := by
  have hl := Lib.bitLen_le8' y h0 h1
  rw [tab_at y h h0 h1, Lib.bitLen_shift k x.toNat hx hm, ← e]
  unfold wrap64
  omega
theorem way0 (y : Int) (h : y.toNat < Lib.len8tab.size) (h0 : 0 ≤ y) (h1 : y ≤ 255) :
    wrap64 ((Lib.len8tab[y.toNat]'h).toNat : Int) = (Lib.bitLen y.toNat : Nat) := by
  have hl := Lib.bitLen_le8' y h0 h1
  rw [tab_at y h h0 h1]
  unfold wrap64
  omega
theorem way00 (y : Int) (h : y.toNat < Lib.len8tab.size) (h0 : 0 ≤ y) (h1 : y ≤ 255) :
    wrap64 (wrap64 ((Lib.len8tab[y.toNat]'h).toNat : Int)) = (Lib.bitLen y.toNat : Nat) := by
  rw [way0 y h h0 h1]
  have hl := Lib.bitLen_le8' y h0 h1
  unfold wrap64
  omega

set_option maxRecDepth 100000 in
set_option maxHeartbeats 1000000 in
theorem len64_raw (x : Int) (w : World) (h0 : 0 ≤ x) (h1 : x ≤ 18446744073709551615) :
    Calls Try.prog 102 #[.int .u64 x] w fun e w' => e = .returned (.int .i64 (Lib.bitLen x.toNat)) ∧ w' = w := by
  go_enter Try.func102, Try.ntmps102
  go_wp2
  all_goals first
    | (go_ret; refine ⟨ret_int ?_, rfl⟩; go_light)
    | (exfalso; go_light; have hs := tab_size; omega)
  all_goals first
    | exact way 56 x _ _ (by omega) (by omega) (by omega) (by omega) (by omega) (by omega)
    | exact way 48 x _ _ (by omega) (by omega) (by omega) (by omega) (by omega) (by omega)
    | exact way 40 x _ _ (by omega) (by omega) (by omega) (by omega) (by omega) (by omega)
    | exact way 32 x _ _ (by omega) (by omega) (by omega) (by omega) (by omega) (by omega)
    | exact way 24 x _ _ (by omega) (by omega) (by omega) (by omega) (by omega) (by omega)
    | exact way 16 x _ _ (by omega) (by omega) (by omega) (by omega) (by omega) (by omega)
    | exact way 8 x _ _ (by omega) (by omega) (by omega) (by omega) (by omega) (by omega)
    | exact way00 x _ (by omega) (by omega)
    | exact way0 x _ (by omega) (by omega)
#print axioms len64_raw

end Go.Proofs.Ytomiifnhcojilaa.Wi
