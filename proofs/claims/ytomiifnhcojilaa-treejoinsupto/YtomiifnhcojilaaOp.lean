import Derived.Test.YtomiifnhcojilaaHo
import Derived.Test.YtomiifnhcojilaaMat2
namespace Go.Proofs.Ytomiifnhcojilaa.Wi
open Go.RowKit
set_option linter.unusedVariables false

theorem rb_step (v : Nat) (z : Int) (hv : v < 16777216) (h0 : 0 ≤ z) (h1 : z < 256) : bits .or .u32 ((v : Int) * 256 % 4294967296) (z % 4294967296) = ((v * 256 + z.toNat : Nat) : Int) := by
  obtain ⟨n, rfl⟩ := Int.eq_ofNat_of_zero_le h0
  have e1 : ((v : Int) * 256 % 4294967296) = ((v * 2 ^ 8 : Nat) : Int) := by omega
  have e2 : ((n : Int) % 4294967296) = (n : Int) := by omega
  rw [e1, e2, u32_or_nat _ _ (by omega) (by omega), M.or_low v n 8 (by omega)]
  simp
theorem rl_step (k v : Nat) (z : Int) (hk : k < 4) (hv : v < 256 ^ k) (h0 : 0 ≤ z) (h1 : z < 256) : bits .or .u32 (v : Int) (z % 4294967296 * 2 ^ (8 * k) % 4294967296) = ((v + 256 ^ k * z.toNat : Nat) : Int) := by
  obtain ⟨n, rfl⟩ := Int.eq_ofNat_of_zero_le h0
  have hp : (256 : Nat) ^ k = 2 ^ (8 * k) := by rw [show (256 : Nat) = 2 ^ 8 from rfl, ← Nat.pow_mul]
  have hq : 2 ^ (8 * k) ≤ 2 ^ 24 := Nat.pow_le_pow_right (by omega) (by omega)
  have hm : n * 2 ^ (8 * k) ≤ 255 * 2 ^ 24 := Nat.mul_le_mul (by omega) hq
  have hc : ((2 : Int) ^ (8 * k)) = ((2 ^ (8 * k) : Nat) : Int) := by simp
  have ho := M.or_low n v (8 * k) (by rw [← hp]; exact hv)
  rw [hp] at hv ⊢
  rw [hc, Int.toNat_natCast]
  generalize 2 ^ (8 * k) = q at *
  have e1 : ((n : Int) % 4294967296 * (q : Int) % 4294967296) = ((n * q : Nat) : Int) := by
    rw [show ((n : Int) % 4294967296) = (n : Int) from by omega, ← Int.natCast_mul]
    omega
  rw [e1, u32_or_nat _ _ (by omega) (by omega), Nat.or_comm, ho, Nat.mul_comm, Nat.add_comm]

end Go.Proofs.Ytomiifnhcojilaa.Wi
