import Derived.Test.YtegkkoggfjgkbaaRows
import Derived.Test.YtegkkoggfjgkbaaMath
import Derived.WalkKit
import Derived.WalkSpells
import Derived.WalkLawsBesides
namespace Go.Proofs.Ytegkkoggfjgkbaa.Wi
open Go.RowKit
set_option linter.unusedVariables false

theorem int_eq {k : IntKind} {a b : Int} (h : a = b) : Value.int k a = .int k b := by rw [h]
theorem ret_int {k : IntKind} {a b : Int} (h : a = b) : Ending.returned (.int k a) = .returned (.int k b) := by rw [h]
theorem not_bits (a : Nat) (ha : a < 4294967296) : bits .xor .u32 IntKind.u32.max (a : Int) = ((4294967295 ^^^ a : Nat) : Int) :=
  u32_xor_nat 4294967295 a (by omega) ha
theorem hide {p : Prop} (h : p) : Hid p := h
theorem u32_xor_cast (a : Nat) (z : Int) (ha : a < 4294967296) (h0 : 0 ≤ z) (h1 : z < 256) :
    bits .xor .u32 (a : Int) (z % 4294967296) = ((a ^^^ z.toNat : Nat) : Int) := by
  obtain ⟨n, rfl⟩ := Int.eq_ofNat_of_zero_le h0
  have e : ((n : Int) % 4294967296) = (n : Int) := by omega
  rw [e, u32_xor_nat a n ha (by omega)]
  rfl
theorem st_bits (s : Nat) (h : s < 4294967296) : bits .xor .u32 ((s : Int) / 2) (3988292384 * bits .and .u32 (s : Int) 1 % 4294967296) = ((M.st s : Nat) : Int) := by
  have e1 : bits .and .u32 (s : Int) 1 = ((s &&& 1 : Nat) : Int) := u32_and_nat s 1 h (by omega)
  have h1 := M.mul_lt s
  have e2 : (3988292384 * ((s &&& 1 : Nat) : Int) % 4294967296) = ((3988292384 * (s &&& 1) : Nat) : Int) := by omega
  have e3 : ((s : Int) / (2 : Int)) = ((s >>> 1 : Nat) : Int) := by rw [Nat.shiftRight_eq_div_pow]; omega
  have h2 : s >>> 1 < 4294967296 := by rw [Nat.shiftRight_eq_div_pow]; omega
  rw [e1, e2, e3, u32_xor_nat _ _ h2 h1]
  rfl

set_option maxHeartbeats 400000 in
theorem sum_any (x : Addr) (len cap : Nat) (zs : List Int) (w : World) (hlen : len ≤ zs.length) (hmax : len ≤ maxLen)
    (hc : ∀ i, i < zs.length → w.cell? (x.add i) = some (.int .u8 (zs.getD i 0))) (hb : ∀ z ∈ zs, 0 ≤ z ∧ z < 256) :
    Calls Try.prog 18 #[.slice (some x) len cap] w fun e w' => e = .returned (.int .u32 (M.sum (zs.take len))) ∧ w' = w := by
  unfold maxLen at hmax
  obtain ⟨xb, xo, xs⟩ := x
  go_enter Try.func18, Try.ntmps18
  go_wp2
  go_loop [3, 9] (fun t i => ∃ k : Nat, k ≤ len ∧ i = .int .i64 k ∧ t = .int .u32 (M.fold 4294967295 (zs.take k) : Nat)) (fun _ i => len - (intOf i).toNat)
  case atStart => exact ⟨0, Nat.zero_le _, rfl, rfl⟩
  case round =>
    obtain ⟨k, hk, rfl, rfl⟩ := hrel
    by_cases hlt : k < len
    · have hcell := hc k (by omega)
      have hz : 0 ≤ zs.getD k 0 ∧ zs.getD k 0 < 256 := hb _ (by simp [List.getD, show k < zs.length by omega])
      have hfl : M.fold 4294967295 (zs.take k) < 4294967296 := M.fold_lt _ _ (by omega) (fun z hz => (hb z (List.mem_of_mem_take hz)).2)
      have HS := hide (M.fold_take 4294967295 zs k (by omega))
      have HX := hide (u32_xor_cast _ _ hfl hz.1 hz.2)
      go_wp2
      rw [show zs[k]?.getD 0 = zs.getD k 0 from rfl, HX.out]
      go_loop [3, 17] (fun t i => ∃ j : Nat, j ≤ 8 ∧ i = .int .i64 j ∧ t = .int .u32 (M.stN j (M.fold 4294967295 (zs.take k) ^^^ (zs.getD k 0).toNat) : Nat)) (fun _ i => 8 - (intOf i).toNat)
      case atStart => exact ⟨0, by omega, rfl, rfl⟩
      case round =>
        obtain ⟨j, hj, rfl, rfl⟩ := hrel
        by_cases hj8 : j < 8
        · go_wp2
          go_round
          case rel =>
            refine ⟨j + 1, by omega, by go_num, ?_⟩
            exact int_eq (st_bits _ (M.stN_lt j _ (M.xor_lt hfl (show (zs.getD k 0).toNat < 4294967296 by omega))))
          case measure => simp [intOf]; omega
        · go_wp2
          go_round
          case rel =>
            refine ⟨k + 1, by omega, by go_num, ?_⟩
            obtain rfl : j = 8 := by omega
            exact int_eq (by rw [HS.out]; rfl)
          case measure => simp [intOf]; omega
    · obtain rfl : k = len := by omega
      have hfl : M.fold 4294967295 (zs.take k) < 4294967296 := M.fold_lt _ _ (by omega) (fun z hz => (hb z (List.mem_of_mem_take hz)).2)
      have HX := hide (not_bits _ hfl)
      go_wp2
      go_ret
      exact ⟨ret_int HX.out, rfl⟩
#print axioms sum_any

/-- The sum of a slice without elements. -/
theorem sum_none (a : Option Addr) (cap : Nat) (w : World) :
    Calls Try.prog 18 #[.slice a 0 cap] w fun e w' => e = .returned (.int .u32 (M.sum [])) ∧ w' = w := by
  go_enter Try.func18, Try.ntmps18
  go_wp2
  go_loop [3, 9] (fun t i => i = .int .i64 0 ∧ t = .int .u32 4294967295) (fun _ _ => 0)
  case atStart => exact ⟨rfl, rfl⟩
  case round =>
    obtain ⟨rfl, rfl⟩ := hrel
    go_wp2
    go_ret
    exact ⟨ret_int (by decide), rfl⟩

end Go.Proofs.Ytegkkoggfjgkbaa.Wi
