import Derived.Test.YtomiifnhcojilaaRows
import Derived.Test.YtomiifnhcojilaaMath
import Derived.WalkKit
import Derived.WalkSpells
import Derived.WalkLawsBesides
namespace Go.Proofs.Ytomiifnhcojilaa.Wi
open Go.RowKit
set_option linter.unusedVariables false

theorem int_eq {k : IntKind} {a b : Int} (h : a = b) : Value.int k a = .int k b := by rw [h]
theorem ret_int {k : IntKind} {a b : Int} (h : a = b) : Ending.returned (.int k a) = .returned (.int k b) := by rw [h]
theorem not_bits (a : Nat) (ha : a < 4294967296) : bits .xor .u32 IntKind.u32.max (a : Int) = ((4294967295 ^^^ a : Nat) : Int) :=
  u32_xor_nat 4294967295 a (by omega) ha
theorem hide {p : Prop} (h : p) : Hid p := h
theorem u32_xor_cast (a : Nat) (z : Int) (ha : a < 4294967296) (h0 : 0 ≤ z) (h1 : z < 256) :
    bits .xor .u32 (a : Int) (z % 4294967296) = ((a ^^^ z.toNat : Nat) : Int) := by
  obtain ⟨n, rfl⟩ := Int.eq_ofNat_of_zero_le h0
  have e : ((n : Int) % 4294967296) = (n : Int) := by omega
  rw [e, u32_xor_nat a n ha (by omega)]
  rfl
theorem st_bits (s : Nat) (h : s < 4294967296) : bits .xor .u32 ((s : Int) / 2) (3988292384 * bits .and .u32 (s : Int) 1 % 4294967296) = ((M.st s : Nat) : Int) := by
  have e1 : bits .and .u32 (s : Int) 1 = ((s &&& 1 : Nat) : Int) := u32_and_nat s 1 h (by omega)
  have h1 := M.mul_lt s
  have e2 : (3988292384 * ((s &&& 1 : Nat) : Int) % 4294967296) = ((3988292384 * (s &&& 1) : Nat) : Int) := by omega
  have e3 : ((s : Int) / (2 : Int)) = ((s >>> 1 : Nat) : Int) := by rw [Nat.shiftRight_eq_div_pow]; omega
  have h2 : s >>> 1 < 4294967296 := by rw [Nat.shiftRight_eq_div_pow]; omega
  rw [e1, e2, e3, u32_xor_nat _ _ h2 h1]
  rfl

end Go.Proofs.Ytomiifnhcojilaa.Wi
