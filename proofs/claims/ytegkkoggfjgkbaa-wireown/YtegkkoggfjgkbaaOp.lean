import Derived.Test.YtegkkoggfjgkbaaHo
import Derived.Test.YtegkkoggfjgkbaaMat2
namespace Go.Proofs.Ytegkkoggfjgkbaa.Wi
open Go.RowKit
set_option linter.unusedVariables false

theorem rb_step (v : Nat) (z : Int) (hv : v < 16777216) (h0 : 0 ≤ z) (h1 : z < 256) : bits .or .u32 ((v : Int) * 256 % 4294967296) (z % 4294967296) = ((v * 256 + z.toNat : Nat) : Int) := by
  obtain ⟨n, rfl⟩ := Int.eq_ofNat_of_zero_le h0
  have e1 : ((v : Int) * 256 % 4294967296) = ((v * 2 ^ 8 : Nat) : Int) := by omega
  have e2 : ((n : Int) % 4294967296) = (n : Int) := by omega
  rw [e1, e2, u32_or_nat _ _ (by omega) (by omega), M.or_low v n 8 (by omega)]
  simp
theorem rl_step (k v : Nat) (z : Int) (hk : k < 4) (hv : v < 256 ^ k) (h0 : 0 ≤ z) (h1 : z < 256) : bits .or .u32 (v : Int) (z % 4294967296 * 2 ^ (8 * k) % 4294967296) = ((v + 256 ^ k * z.toNat : Nat) : Int) := by
  obtain ⟨n, rfl⟩ := Int.eq_ofNat_of_zero_le h0
  have hp : (256 : Nat) ^ k = 2 ^ (8 * k) := by rw [show (256 : Nat) = 2 ^ 8 from rfl, ← Nat.pow_mul]
  have hq : 2 ^ (8 * k) ≤ 2 ^ 24 := Nat.pow_le_pow_right (by omega) (by omega)
  have hm : n * 2 ^ (8 * k) ≤ 255 * 2 ^ 24 := Nat.mul_le_mul (by omega) hq
  have hc : ((2 : Int) ^ (8 * k)) = ((2 ^ (8 * k) : Nat) : Int) := by simp
  have ho := M.or_low n v (8 * k) (by rw [← hp]; exact hv)
  rw [hp] at hv ⊢
  rw [hc, Int.toNat_natCast]
  generalize 2 ^ (8 * k) = q at *
  have e1 : ((n : Int) % 4294967296 * (q : Int) % 4294967296) = ((n * q : Nat) : Int) := by
    rw [show ((n : Int) % 4294967296) = (n : Int) from by omega, ← Int.natCast_mul]
    omega
  rw [e1, u32_or_nat _ _ (by omega) (by omega), Nat.or_comm, ho, Nat.mul_comm, Nat.add_comm]

set_option maxHeartbeats 400000 in
theorem toldLength_any (x : Addr) (c : Nat) (l : List Int) (w : World) (hl : l.length = 4) (hr : Row w x l) (hb : ∀ z ∈ l, 0 ≤ z ∧ z < 256) :
    Calls Try.prog 52 #[.slice (some x) 4 c] w fun e w' => e = .returned (.int .u32 (M.rb l)) ∧ w' = w := by
  obtain ⟨xb, xo, xs⟩ := x
  go_enter Try.func52, Try.ntmps52
  go_wp2
  go_loop [3, 4, 5] (fun t _ i => ∃ k : Nat, k ≤ 4 ∧ i = .int .i64 k ∧ t = .int .u32 (M.rb (l.take k) : Nat)) (fun _ _ i => 4 - (intOf i).toNat)
  case atStart => exact ⟨0, by omega, rfl, rfl⟩
  case round =>
    obtain ⟨k, hk, rfl, rfl⟩ := hrel
    by_cases hlt : k < 4
    · have hcell := hr k (by omega)
      have hz : 0 ≤ l.getD k 0 ∧ l.getD k 0 < 256 := hb _ (by simp [List.getD, show k < l.length by omega])
      go_wp2
      go_round
      case rel =>
        refine ⟨k + 1, by omega, by go_num, int_eq ?_⟩
        have hlk : k < l.length := by omega
        have hv : M.rb (l.take k) < 256 ^ 3 := Nat.lt_of_lt_of_le (M.rb_lt (l.take k) (fun z hz => hb z (List.mem_of_mem_take hz))) (Nat.pow_le_pow_right (by omega) (by simp; omega))
        rw [M.rb_take l k hlk, show l[k] = l.getD k 0 from by simp [List.getD, hlk]]
        exact rb_step _ _ (by omega) hz.1 hz.2
      case measure => simp [intOf]; omega
    · obtain rfl : k = 4 := by omega
      go_wp2
      go_ret
      exact ⟨ret_int (by rw [List.take_of_length_le (by omega)]), rfl⟩

set_option maxHeartbeats 400000 in
theorem toldSum_any (x : Addr) (c : Nat) (l : List Int) (w : World) (hl : l.length = 4) (hr : Row w x l) (hb : ∀ z ∈ l, 0 ≤ z ∧ z < 256) :
    Calls Try.prog 29 #[.slice (some x) 4 c] w fun e w' => e = .returned (.int .u32 (M.rl l)) ∧ w' = w := by
  obtain ⟨xb, xo, xs⟩ := x
  go_enter Try.func29, Try.ntmps29
  go_wp2
  go_loop [3, 4, 5] (fun t _ i => ∃ k : Nat, k ≤ 4 ∧ i = .int .i64 k ∧ t = .int .u32 (M.rl (l.take k) : Nat)) (fun _ _ i => 4 - (intOf i).toNat)
  case atStart => exact ⟨0, by omega, rfl, rfl⟩
  case round =>
    obtain ⟨k, hk, rfl, rfl⟩ := hrel
    by_cases hlt : k < 4
    · have hcell := hr k (by omega)
      have hz : 0 ≤ l.getD k 0 ∧ l.getD k 0 < 256 := hb _ (by simp [List.getD, show k < l.length by omega])
      go_wp2
      go_round
      case rel =>
        refine ⟨k + 1, by omega, by go_num, int_eq ?_⟩
        have hlk : k < l.length := by omega
        have hv := M.rl_lt (l.take k) (fun z hz => hb z (List.mem_of_mem_take hz))
        rw [List.length_take, Nat.min_eq_left (by omega)] at hv
        rw [M.rl_take l k hlk, show l[k] = l.getD k 0 from by simp [List.getD, hlk]]
        exact rl_step k _ _ hlt hv hz.1 hz.2
      case measure => simp [intOf]; omega
    · obtain rfl : k = 4 := by omega
      go_wp2
      go_ret
      exact ⟨ret_int (by rw [List.take_of_length_le (by omega)]), rfl⟩
end Go.Proofs.Ytegkkoggfjgkbaa.Wi
